/- Closures of statements: choose; lists of statements that last. -/
import Derived.Test.YtgdeeodifnegiaaGreatDoorRunE
namespace Go.Proofs.YtgdeeodifnegiaaGreatDoor
open Go.RowKit

theorem StpC.mono {v : Value} {m : StpM} {K K' : Nat → Prop} {W : World} (h : StpC v m K W) (hk : ∀ k, K k → K' k) : StpC v m K' W := by
  obtain ⟨g, lb, h1, h2, h3⟩ := h
  exact ⟨g, lb, h1, h2, fun b r pv mv hr hd => h3 b r pv mv hr (fun k ho hK => hd k ho (hk k hK))⟩
def StepsL (w : World) (A : Nat → Prop) (sv : Value) (l : List (Option StpM)) : Prop := (∃ a n c, sv = .slice a n c) ∧ ∀ ms, allO l = some ms → Lasts w A (StepsC sv ms)
theorem StepsL.mono {w w' : World} {A A' : Nat → Prop} {sv : Value} {l : List (Option StpM)} (h : StepsL w A sv l) (hs : w.heap.size ≤ w'.heap.size) (hb : ∀ k, k < w.heap.size → A k → w'.heap[k]? = w.heap[k]? ∧ A' k) : StepsL w' A' sv l :=
  ⟨h.1, fun ms hm => (h.2 ms hm).mono hs hb (fun _ _ h => h)⟩
theorem StepsL.alloc {w : World} {A : Nat → Prop} {sv : Value} {l : List (Option StpM)} (h : StepsL w A sv l) (b : Obj) : StepsL (w.alloc b) A sv l := h.mono (alloc_mono w b A).1 (alloc_mono w b A).2
theorem StepsL.fr {w w' : World} {O O' D : Nat → Prop} {n m : Nat} {sv : Value} {l : List (Option StpM)} (h : StepsL w (Free O D n) sv l) (hf : Fr O w O' w') (hm : m ≤ n) : StepsL w' (Free O' D m) sv l :=
  ⟨h.1, fun ms h1 => Lasts.fr (h.2 ms h1) hf hm⟩
theorem allO_length {l : List (Option StpM)} {ms : List StpM} (h : allO l = some ms) : ms.length = l.length := by
  induction l generalizing ms with
  | nil => rw [allO] at h; cases h; rfl
  | cons a l ih =>
    cases a with
    | none => rw [allO] at h; cases h
    | some x =>
      rw [allO] at h
      cases hl : allO l with
      | none => rw [hl] at h; cases h
      | some t => rw [hl] at h; cases h; simp [ih hl]
theorem allO_get {l : List (Option StpM)} {ms : List StpM} (h : allO l = some ms) {i : Nat} {m : StpM} (hi : ms[i]? = some m) : l[i]? = some (some m) := by
  induction l generalizing ms i with
  | nil => rw [allO] at h; cases h; simp at hi
  | cons a l ih =>
    cases a with
    | none => rw [allO] at h; cases h
    | some x =>
      rw [allO] at h
      cases hl : allO l with
      | none => rw [hl] at h; cases h
      | some t =>
        rw [hl] at h; cases h
        cases i with
        | zero => simpa using hi
        | succ i => exact ih hl (by simpa using hi)
/-- a row of statements that was made lasts -/
theorem stepsL_of {w : World} {A : Nat → Prop} {sv : Value} {l : List (Option StpM)} {vs : List Value} (ho : w.ownsRow 0 272 1 sv l.length vs) (hl : l.length ≤ 1000000) (hA : ∀ k, sv.ownBlock = some k → A k)
    (hv : ∀ (i : Nat) (v : Value) (o : Option StpM), vs[i]? = some v → l[i]? = some o → StpO w A v o) : StepsL w A sv l := by
  obtain ⟨a, n, c, hsv⟩ : ∃ a n c, sv = .slice a n c := by
    rcases ho.2 with ⟨h1, _⟩ | ⟨g, cap, cur, h1, _⟩
    · exact ⟨_, _, _, h1⟩
    · exact ⟨_, _, _, h1⟩
  refine ⟨⟨a, n, c, hsv⟩, fun ms hms => ?_⟩
  have hvl : vs.length = l.length := by simpa using ho.1
  have hml := allO_length hms
  have hlast : ∀ i : Fin ms.length, Lasts w A (StpC (vs[i.1]'(by omega)) ms[i.1]) := fun i => by
    have h1 : ms[i.1]? = some ms[i.1] := List.getElem?_eq_getElem i.2
    exact hv i.1 _ _ (List.getElem?_eq_getElem (by omega)) (allO_get hms h1)
  rcases ho.2 with ⟨h1, h0⟩ | ⟨g, cap, cur, h1, hb, hg, hn, hm, hs, ht⟩
  · refine Lasts.new (fun _ => False) (fun _ h => h.elim) (fun W _ _ => ⟨by omega, vs, by omega, Or.inl ⟨List.eq_nil_of_length_eq_zero (by omega), h1⟩, fun i v m hi hm => ?_⟩)
    have hnil : ms = [] := List.eq_nil_of_length_eq_zero (by omega)
    rw [hnil] at hm; simp at hm
  · have hcell : ∀ (W : World), W.heap[g]? = w.heap[g]? → ∀ i v, vs[i]? = some v → W.cell? ⟨g, i, none⟩ = some v := fun W hW i v hi => by
      rw [cell_of_heap (hW.trans hg), ← Array.getElem?_toList]
      rw [← ht, List.getElem?_take] at hi
      split at hi
      · exact hi
      · cases hi
    refine ⟨fun k => k = g ∨ ∃ i : Fin ms.length, Classical.choose (hlast i) k, fun k hk => ?_, fun W hW hk => ?_⟩
    · rcases hk with rfl | ⟨i, hi⟩
      · exact ⟨heap_lt hg, hA k (by rw [h1]; rfl)⟩
      · exact (Classical.choose_spec (hlast i)).1 k hi
    · refine ⟨by omega, vs, by omega, Or.inr ⟨g, cap, by rw [h1, hvl], Or.inl rfl, hcell W (hk g (Or.inl rfl))⟩, fun i v m hi hm => ?_⟩
      have hi' : i < ms.length := by
        rcases Nat.lt_or_ge i ms.length with h | h
        · exact h
        · rw [List.getElem?_eq_none h] at hm; cases hm
      have e1 : v = vs[i] := by rw [List.getElem?_eq_getElem (by omega)] at hi; exact (Option.some.inj hi).symm
      have e2 : m = ms[i] := by rw [List.getElem?_eq_getElem hi'] at hm; exact (Option.some.inj hm).symm
      have h3 := (Classical.choose_spec (hlast ⟨i, hi'⟩)).2 W hW (fun k h => hk k (Or.inr ⟨⟨i, hi'⟩, h⟩))
      rw [e1, e2]
      exact h3.mono (fun k h => Or.inr ⟨⟨i, hi'⟩, h⟩)

set_option maxRecDepth 100000 in
set_option maxHeartbeats 1000000 in
theorem choose_run (W : World) (b : Nat) (r : Rt) (pv mv : Value) (h : RtAt W b r pv mv) (vc yv nv : Value) (mc : CndM) (ys ns : List StpM) (Kc : Nat → Prop) (hc : CndC vc mc Kc W)
    (hyf : ∃ a n c, yv = .slice a n c) (hnf : ∃ a n c, nv = .slice a n c)
    (hy : ∀ V, Below W.heap.size W V → RtAt V b r pv mv → Calls Tryz.prog 149 #[yv, ptr4 b 0] V (StpRes b pv mv V (performM ys r)))
    (hn : ∀ V, Below W.heap.size W V → RtAt V b r pv mv → Calls Tryz.prog 149 #[nv, ptr4 b 0] V (StpRes b pv mv V (performM ns r)))
    (B1 B2 B3 : Nat) (c1 : W.cell? ⟨B1, 0, none⟩ = some vc) (c2 : W.cell? ⟨B2, 0, none⟩ = some yv) (c3 : W.cell? ⟨B3, 0, none⟩ = some nv) :
    Calls Tryz.prog 314 (#[ptr4 b 0] ++ #[ptr4 B1 0, ptr4 B2 0, ptr4 B3 0]) W (StpRes b pv mv W (chooseM mc ys ns r)) := by
  have l2 := cell_lt c2
  have l3 := cell_lt c3
  obtain ⟨g, lb, rfl, eg, hc⟩ := hc
  obtain ⟨a1, a2, a3, rfl⟩ := hyf
  obtain ⟨d1, d2, d3, rfl⟩ := hnf
  have e1 := enters_fn eg
  have HA := hide (hc b r pv mv h)
  have HR := hide h
  have HY := hide hy
  have HN := hide hn
  clear hc h eg hy hn
  have EQ := hide (show chooseM mc ys ns r = (match mc r with | none => (r, 3) | some true => performM ys r | some false => performM ns r) from rfl)
  cases hx : mc r with
  | none =>
    rw [hx] at HA EQ
    have HA' : Hid (Calls Tryz.prog g (#[ptr4 b 0] ++ lb) W fun e W' => e = .returned (.tuple #[.bool false, .bool false]) ∧ Below W.heap.size W W') := HA
    clear HA HY HN
    go_enter Tryz.func314, Tryz.ntmps314
    go_wp2_with (go_at_fn g; refine (unhide HA').mono ?_; rintro e w1 ⟨rfl, hw⟩)
    go_ret
    rw [unhide EQ]
    exact ⟨rfl, pv, mv, (unhide HR).below hw, Fr.of_below hw⟩
  | some x =>
    rw [hx] at HA EQ
    have HA' : Hid (Calls Tryz.prog g (#[ptr4 b 0] ++ lb) W fun e W' => e = .returned (.tuple #[.bool x, .bool true]) ∧ Below W.heap.size W W') := HA
    cases x with
    | true =>
      clear HA HN
      go_enter Tryz.func314, Tryz.ntmps314
      go_wp2_with (go_at_fn g; refine (unhide HA').mono ?_; rintro e w1 ⟨rfl, hw⟩; have c2' := (hw.cell (p := ⟨B2, 0, none⟩) l2).trans c2; have HW := hide hw; clear hw)
      refine ((unhide HY) w1 (unhide HW) ((unhide HR).below (unhide HW))).mono ?_
      rintro e w2 ⟨rfl, pv2, mv2, h2, f2⟩
      have H2 := hide h2
      have F2 := hide f2
      clear h2 f2
      go_wp2_with fail
      go_ret
      rw [unhide EQ]
      exact ⟨rfl, pv2, mv2, unhide H2, (Fr.of_below (unhide HW)).trans (unhide F2)⟩
    | false =>
      clear HA HY
      go_enter Tryz.func314, Tryz.ntmps314
      go_wp2_with (go_at_fn g; refine (unhide HA').mono ?_; rintro e w1 ⟨rfl, hw⟩; have c3' := (hw.cell (p := ⟨B3, 0, none⟩) l3).trans c3; have HW := hide hw; clear hw)
      refine ((unhide HN) w1 (unhide HW) ((unhide HR).below (unhide HW))).mono ?_
      rintro e w2 ⟨rfl, pv2, mv2, h2, f2⟩
      have H2 := hide h2
      have F2 := hide f2
      clear h2 f2
      go_wp2_with fail
      go_ret
      rw [unhide EQ]
      exact ⟨rfl, pv2, mv2, unhide H2, (Fr.of_below (unhide HW)).trans (unhide F2)⟩
set_option maxRecDepth 100000 in
set_option maxHeartbeats 1000000 in
theorem choose_call (w : World) (vc yv nv : Value) (hc : FnV vc) (hyf : ∃ a n c, yv = .slice a n c) (hnf : ∃ a n c, nv = .slice a n c) :
    Calls Tryz.prog 268 #[vc, yv, nv] w fun e w' => e = .returned (.func (.func 314) #[] #[ptr4 w.heap.size 0, ptr4 (w.heap.size + 1) 0, ptr4 (w.heap.size + 1 + 1) 0]) ∧ w' = ((w.alloc (box1 vc 358)).alloc (box1 yv 107)).alloc (box1 nv 107) := by
  have hmf : ∀ (fn : Fn) (first cap : Array Value) (w : World), (Instr.makeFunc fn first cap).run Tryz.prog w = .ok (.func fn first cap) w := fun _ _ _ _ => rfl
  obtain ⟨a1, a2, a3, rfl⟩ := hyf
  obtain ⟨d1, d2, d3, rfl⟩ := hnf
  rcases hc with ⟨f, a, b, rfl⟩ | rfl <;>
  · go_enter Tryz.func268, Tryz.ntmps268
    go_wp2_with fail
    go_ret
    exact ⟨rfl, rfl⟩
theorem Tryz.entChoose : Enters Tryz.prog 314 := enters_of Tryz.func314 (by kernel_rfl) rfl
/-- .. and on what three other things stand on -/
theorem Lasts.three {w : World} {A : Nat → Prop} {Q1 Q2 Q3 Q : (Nat → Prop) → World → Prop} (h1 : Lasts w A Q1) (h2 : Lasts w A Q2) (h3 : Lasts w A Q3) (B : Nat → Prop) (hB : ∀ k, B k → k < w.heap.size ∧ A k)
    (hq : ∀ K1 K2 K3, (∀ k, K1 k → k < w.heap.size ∧ A k) → (∀ k, K2 k → k < w.heap.size ∧ A k) → (∀ k, K3 k → k < w.heap.size ∧ A k) → (∀ W, w.heap.size ≤ W.heap.size → (∀ k, K1 k → W.heap[k]? = w.heap[k]?) → Q1 K1 W) → (∀ W, w.heap.size ≤ W.heap.size → (∀ k, K2 k → W.heap[k]? = w.heap[k]?) → Q2 K2 W) → (∀ W, w.heap.size ≤ W.heap.size → (∀ k, K3 k → W.heap[k]? = w.heap[k]?) → Q3 K3 W) →
      ∀ W, w.heap.size ≤ W.heap.size → (∀ k, K1 k ∨ K2 k ∨ K3 k ∨ B k → W.heap[k]? = w.heap[k]?) → Q (fun k => K1 k ∨ K2 k ∨ K3 k ∨ B k) W) : Lasts w A Q := by
  obtain ⟨K1, a1, b1⟩ := h1
  obtain ⟨K2, a2, b2⟩ := h2
  obtain ⟨K3, a3, b3⟩ := h3
  refine ⟨fun k => K1 k ∨ K2 k ∨ K3 k ∨ B k, fun k hk => ?_, fun W hW hk => hq K1 K2 K3 a1 a2 a3 b1 b2 b3 W hW hk⟩
  rcases hk with h | h | h | h
  · exact a1 k h
  · exact a2 k h
  · exact a3 k h
  · exact hB k h
theorem choose_any (w : World) (vc yv nv : Value) (oc : Option CndM) (yes no : List (Option StpM)) (A : Nat → Prop) (hA : ∀ k, w.heap.size ≤ k → A k) (hc : CndO w A vc oc) (hy : StepsL w A yv yes) (hn : StepsL w A nv no) :
    Calls Tryz.prog 268 #[vc, yv, nv] w fun e w' => ∃ v, e = .returned v ∧ w' = ((w.alloc (box1 vc 358)).alloc (box1 yv 107)).alloc (box1 nv 107) ∧ StpO w' A v (chooseO oc yes no) := by
  refine (choose_call w vc yv nv hc.fnv hy.1 hn.1).mono ?_
  rintro e w' ⟨rfl, rfl⟩
  refine ⟨_, rfl, rfl, ?_⟩
  unfold chooseO
  cases oc with
  | none => exact Or.inl ⟨_, _, _, rfl⟩
  | some mc =>
    dsimp only
    cases hys : allO yes with
    | none => exact Or.inl ⟨_, _, _, rfl⟩
    | some ys =>
      dsimp only
      cases hns : allO no with
      | none => exact Or.inl ⟨_, _, _, rfl⟩
      | some ns =>
        have h1 : Lasts _ A (CndC vc mc) := ((hc.alloc (box1 vc 358)).alloc (box1 yv 107)).alloc (box1 nv 107)
        have h2 := (((hy.alloc (box1 vc 358)).alloc (box1 yv 107)).alloc (box1 nv 107)).2 ys hys
        have h3 := (((hn.alloc (box1 vc 358)).alloc (box1 yv 107)).alloc (box1 nv 107)).2 ns hns
        obtain ⟨n1, n2, n3, sz⟩ := three_new w (box1 vc 358) (box1 yv 107) (box1 nv 107)
        refine Lasts.three h1 h2 h3 (fun k => k = w.heap.size ∨ k = w.heap.size + 1 ∨ k = w.heap.size + 1 + 1) (fun k hk => ⟨by omega, hA k (by omega)⟩) (fun K1 K2 K3 a1 a2 a3 q1 q2 q3 W hW hk => ?_)
        refine ⟨_, _, rfl, Tryz.entChoose, fun b r pv mv hr hd => ?_⟩
        refine choose_run W b r pv mv hr vc yv nv mc ys ns K1 (q1 W hW (fun k h => hk k (Or.inl h))) hy.1 hn.1 (fun V hV hrV => ?_) (fun V hV hrV => ?_) _ _ _
          (cell1 (hk _ (Or.inr (Or.inr (Or.inr (Or.inl rfl))))) n1) (cell1 (hk _ (Or.inr (Or.inr (Or.inr (Or.inr (Or.inl rfl)))))) n2) (cell1 (hk _ (Or.inr (Or.inr (Or.inr (Or.inr (Or.inr rfl)))))) n3)
        · exact perform_run _ K2 yv ys (fun k h => (a2 k h).1) q2 V (Nat.le_trans hW hV.size) (fun k h => (hV.block k (Nat.lt_of_lt_of_le (a2 k h).1 hW)).trans (hk k (Or.inr (Or.inl h)))) b r pv mv hrV (fun k ho h => hd k ho (Or.inr (Or.inl h)))
        · exact perform_run _ K3 nv ns (fun k h => (a3 k h).1) q3 V (Nat.le_trans hW hV.size) (fun k h => (hV.block k (Nat.lt_of_lt_of_le (a3 k h).1 hW)).trans (hk k (Or.inr (Or.inr (Or.inl h))))) b r pv mv hrV (fun k ho h => hd k ho (Or.inr (Or.inr (Or.inl h))))
end Go.Proofs.YtgdeeodifnegiaaGreatDoor
