/- Closures of statements: choose; lists of statements that last. -/
import Derived.Test.YtgdeeodifnegiaaGreatDoorRunD
import Derived.Deep.AppendLies
set_option maxRecDepth 100000
set_option maxHeartbeats 4000000
namespace Go.Proofs.YtgdeeodifnegiaaGreatDoor
open Go.RowKit
theorem StpC.mono {v : Value} {m : StpM} {K K' : Nat → Prop} {W : World} (h : StpC v m K W) (hk : ∀ k, K k → K' k) : StpC v m K' W := by
 obtain ⟨g, lb, h1, h2, h3⟩ := h
 exact ⟨g, lb, h1, h2, fun b r pv mv hr hd => h3 b r pv mv hr (fun k ho hK => hd k ho (hk k hK))⟩
def StepsL (w : World) (A : Nat → Prop) (sv : Value) (l : List (Option StpM)) : Prop := (∃ a n c, sv = .slice a n c) ∧ ∀ ms, allO l = some ms → Lasts w A (StepsC sv ms)
theorem StepsL.mono {w w' : World} {A A' : Nat → Prop} {sv : Value} {l : List (Option StpM)} (h : StepsL w A sv l) (hs : w.heap.size ≤ w'.heap.size) (hb : ∀ k, k < w.heap.size → A k → w'.heap[k]? = w.heap[k]? ∧ A' k) : StepsL w' A' sv l :=
 ⟨h.1, fun ms hm => (h.2 ms hm).mono hs hb (fun _ _ h => h)⟩
theorem StepsL.alloc {w : World} {A : Nat → Prop} {sv : Value} {l : List (Option StpM)} (h : StepsL w A sv l) (b : Obj) : StepsL (w.alloc b) A sv l := h.mono (alloc_mono w b A).1 (alloc_mono w b A).2
theorem StepsL.fr {w w' : World} {O O' D : Nat → Prop} {n m : Nat} {sv : Value} {l : List (Option StpM)} (h : StepsL w (Free O D n) sv l) (hf : Fr O w O' w') (hm : m ≤ n) : StepsL w' (Free O' D m) sv l :=
 ⟨h.1, fun ms h1 => Lasts.fr (h.2 ms h1) hf hm⟩
theorem allO_length {l : List (Option StpM)} {ms : List StpM} (h : allO l = some ms) : ms.length = l.length := by
 induction l generalizing ms with
 | nil => rw [allO] at h; cases h; rfl
 | cons a l ih =>
  cases a with
  | none => rw [allO] at h; cases h
  | some x =>
   rw [allO] at h
   cases hl : allO l with
   | none => rw [hl] at h; cases h
   | some t => rw [hl] at h; cases h; simp [ih hl]
theorem allO_get {l : List (Option StpM)} {ms : List StpM} (h : allO l = some ms) {i : Nat} {m : StpM} (hi : ms[i]? = some m) : l[i]? = some (some m) := by
 induction l generalizing ms i with
 | nil => rw [allO] at h; cases h; simp at hi
 | cons a l ih =>
  cases a with
  | none => rw [allO] at h; cases h
  | some x =>
   rw [allO] at h
   cases hl : allO l with
   | none => rw [hl] at h; cases h
   | some t =>
    rw [hl] at h; cases h
    cases i with
    | zero => simpa using hi
    | succ i => exact ih hl (by simpa using hi)
theorem stepsL_of {w : World} {A : Nat → Prop} {sv : Value} {l : List (Option StpM)} {vs : List Value} (ho : w.ownsRow 0 272 1 sv l.length vs) (hl : l.length ≤ 1000000) (hA : ∀ k, sv.ownBlock = some k → A k)
  (hv : ∀ (i : Nat) (v : Value) (o : Option StpM), vs[i]? = some v → l[i]? = some o → StpO w A v o) : StepsL w A sv l := by
 obtain ⟨a, n, c, hsv⟩ : ∃ a n c, sv = .slice a n c := by
  rcases ho.2 with ⟨h1, _⟩ | ⟨g, cap, cur, h1, _⟩
  ·exact ⟨_, _, _, h1⟩
  ·exact ⟨_, _, _, h1⟩
 refine ⟨⟨a, n, c, hsv⟩, fun ms hms => ?_⟩
 have hvl : vs.length = l.length := by simpa using ho.1
 have hml := allO_length hms
 have hlast : ∀ i : Fin ms.length, Lasts w A (StpC (vs[i.1]'(by omega)) ms[i.1]) := fun i => by
  have h1 : ms[i.1]? = some ms[i.1] := List.getElem?_eq_getElem i.2
  exact hv i.1 _ _ (List.getElem?_eq_getElem (by omega)) (allO_get hms h1)
 rcases ho.2 with ⟨h1, h0⟩ | ⟨g, cap, cur, h1, hb, hg, hn, hm, hs, ht⟩
 ·refine Lasts.new (fun _ => False) (fun _ h => h.elim) (fun W _ _ => ⟨by omega, vs, by omega, Or.inl ⟨List.eq_nil_of_length_eq_zero (by omega), h1⟩, fun i v m hi hm => ?_⟩)
  have hnil : ms = [] := List.eq_nil_of_length_eq_zero (by omega)
  rw [hnil] at hm; simp at hm
 ·have hcell : ∀ (W : World), W.heap[g]? = w.heap[g]? → ∀ i v, vs[i]? = some v → W.cell? ⟨g, i, none⟩ = some v := fun W hW i v hi => by
   rw [cell_of_heap (hW.trans hg), ← Array.getElem?_toList]
   rw [← ht, List.getElem?_take] at hi
   split at hi
   ·exact hi
   ·cases hi
  refine ⟨fun k => k = g ∨ ∃ i : Fin ms.length, Classical.choose (hlast i) k, fun k hk => ?_, fun W hW hk => ?_⟩
  ·rcases hk with rfl | ⟨i, hi⟩
   ·exact ⟨heap_lt hg, hA k (by rw [h1]; rfl)⟩
   ·exact (Classical.choose_spec (hlast i)).1 k hi
  ·refine ⟨by omega, vs, by omega, Or.inr ⟨g, cap, by rw [h1, hvl], Or.inl rfl, hcell W (hk g (Or.inl rfl))⟩, fun i v m hi hm => ?_⟩
   have hi' : i < ms.length := by
    rcases Nat.lt_or_ge i ms.length with h | h
    ·exact h
    ·rw [List.getElem?_eq_none h] at hm; cases hm
   have e1 : v = vs[i] := by rw [List.getElem?_eq_getElem (by omega)] at hi; exact (Option.some.inj hi).symm
   have e2 : m = ms[i] := by rw [List.getElem?_eq_getElem hi'] at hm; exact (Option.some.inj hm).symm
   have h3 := (Classical.choose_spec (hlast ⟨i, hi'⟩)).2 W hW (fun k h => hk k (Or.inr ⟨⟨i, hi'⟩, h⟩))
   rw [e1, e2]
   exact h3.mono (fun k h => Or.inr ⟨⟨i, hi'⟩, h⟩)
theorem choose_run (W : World) (b : Nat) (r : Rt) (pv mv : Value) (h : RtAt W b r pv mv) (vc yv nv : Value) (mc : CndM) (ys ns : List StpM) (Kc : Nat → Prop) (hc : CndC vc mc Kc W)
  (hyf : ∃ a n c, yv = .slice a n c) (hnf : ∃ a n c, nv = .slice a n c)
  (hy : ∀ V, Below W.heap.size W V → RtAt V b r pv mv → Calls Tryz.prog 149 #[yv, ptr4 b 0] V (StpRes b pv mv V (performM ys r)))
  (hn : ∀ V, Below W.heap.size W V → RtAt V b r pv mv → Calls Tryz.prog 149 #[nv, ptr4 b 0] V (StpRes b pv mv V (performM ns r)))
  (B1 B2 B3 : Nat) (c1 : W.cell? ⟨B1, 0, none⟩ = some vc) (c2 : W.cell? ⟨B2, 0, none⟩ = some yv) (c3 : W.cell? ⟨B3, 0, none⟩ = some nv) :
  Calls Tryz.prog 314 (#[ptr4 b 0] ++ #[ptr4 B1 0, ptr4 B2 0, ptr4 B3 0]) W (StpRes b pv mv W (chooseM mc ys ns r)) := by
 have l2 := cell_lt c2
 have l3 := cell_lt c3
 obtain ⟨g, lb, rfl, eg, hc⟩ := hc
 obtain ⟨a1, a2, a3, rfl⟩ := hyf
 obtain ⟨d1, d2, d3, rfl⟩ := hnf
 have e1 := enters_fn eg
 have HA := hide (hc b r pv mv h)
 have HR := hide h
 have HY := hide hy
 have HN := hide hn
 clear hc h eg hy hn
 have EQ := hide (show chooseM mc ys ns r = (match mc r with | none => (r, 3) | some true => performM ys r | some false => performM ns r) from rfl)
 cases hx : mc r with
 | none =>
  rw [hx] at HA EQ
  have HA' : Hid (Calls Tryz.prog g (#[ptr4 b 0] ++ lb) W fun e W' => e = .returned (.tuple #[.bool false, .bool false]) ∧ Below W.heap.size W W') := HA
  clear HA HY HN
  go_enter Tryz.func314, Tryz.ntmps314
  go_wp2_with (go_at_fn g; refine (unhide HA').mono ?_; rintro e w1 ⟨rfl, hw⟩)
  go_ret
  rw [unhide EQ]
  exact ⟨rfl, pv, mv, (unhide HR).below hw, Fr.of_below hw⟩
 | some x =>
  rw [hx] at HA EQ
  have HA' : Hid (Calls Tryz.prog g (#[ptr4 b 0] ++ lb) W fun e W' => e = .returned (.tuple #[.bool x, .bool true]) ∧ Below W.heap.size W W') := HA
  cases x with
  | true =>
   clear HA HN
   go_enter Tryz.func314, Tryz.ntmps314
   go_wp2_with (go_at_fn g; refine (unhide HA').mono ?_; rintro e w1 ⟨rfl, hw⟩; have c2' := (hw.cell (p := ⟨B2, 0, none⟩) l2).trans c2; have HW := hide hw; clear hw)
   refine ((unhide HY) w1 (unhide HW) ((unhide HR).below (unhide HW))).mono ?_
   rintro e w2 ⟨rfl, pv2, mv2, h2, f2⟩
   have H2 := hide h2
   have F2 := hide f2
   clear h2 f2
   go_wp2_with fail
   go_ret
   rw [unhide EQ]
   exact ⟨rfl, pv2, mv2, unhide H2, (Fr.of_below (unhide HW)).trans (unhide F2)⟩
  | false =>
   clear HA HY
   go_enter Tryz.func314, Tryz.ntmps314
   go_wp2_with (go_at_fn g; refine (unhide HA').mono ?_; rintro e w1 ⟨rfl, hw⟩; have c3' := (hw.cell (p := ⟨B3, 0, none⟩) l3).trans c3; have HW := hide hw; clear hw)
   refine ((unhide HN) w1 (unhide HW) ((unhide HR).below (unhide HW))).mono ?_
   rintro e w2 ⟨rfl, pv2, mv2, h2, f2⟩
   have H2 := hide h2
   have F2 := hide f2
   clear h2 f2
   go_wp2_with fail
   go_ret
   rw [unhide EQ]
   exact ⟨rfl, pv2, mv2, unhide H2, (Fr.of_below (unhide HW)).trans (unhide F2)⟩
theorem choose_call (w : World) (vc yv nv : Value) (hc : FnV vc) (hyf : ∃ a n c, yv = .slice a n c) (hnf : ∃ a n c, nv = .slice a n c) :
  Calls Tryz.prog 268 #[vc, yv, nv] w fun e w' => e = .returned (.func (.func 314) #[] #[ptr4 w.heap.size 0, ptr4 (w.heap.size + 1) 0, ptr4 (w.heap.size + 1 + 1) 0]) ∧ w' = ((w.alloc (box1 vc 358)).alloc (box1 yv 107)).alloc (box1 nv 107) := by
 have hmf : ∀ (fn : Fn) (first cap : Array Value) (w : World), (Instr.makeFunc fn first cap).run Tryz.prog w = .ok (.func fn first cap) w := fun _ _ _ _ => rfl
 obtain ⟨a1, a2, a3, rfl⟩ := hyf
 obtain ⟨d1, d2, d3, rfl⟩ := hnf
 rcases hc with ⟨f, a, b, rfl⟩ | rfl <;>
 ·go_enter Tryz.func268, Tryz.ntmps268
  go_wp2_with fail
  go_ret
  exact ⟨rfl, rfl⟩
theorem Tryz.entChoose : Enters Tryz.prog 314 := enters_of Tryz.func314 (by kernel_rfl) rfl
theorem Lasts.three {w : World} {A : Nat → Prop} {Q1 Q2 Q3 Q : (Nat → Prop) → World → Prop} (h1 : Lasts w A Q1) (h2 : Lasts w A Q2) (h3 : Lasts w A Q3) (B : Nat → Prop) (hB : ∀ k, B k → k < w.heap.size ∧ A k)
  (hq : ∀ K1 K2 K3, (∀ k, K1 k → k < w.heap.size ∧ A k) → (∀ k, K2 k → k < w.heap.size ∧ A k) → (∀ k, K3 k → k < w.heap.size ∧ A k) → (∀ W, w.heap.size ≤ W.heap.size → (∀ k, K1 k → W.heap[k]? = w.heap[k]?) → Q1 K1 W) → (∀ W, w.heap.size ≤ W.heap.size → (∀ k, K2 k → W.heap[k]? = w.heap[k]?) → Q2 K2 W) → (∀ W, w.heap.size ≤ W.heap.size → (∀ k, K3 k → W.heap[k]? = w.heap[k]?) → Q3 K3 W) →
   ∀ W, w.heap.size ≤ W.heap.size → (∀ k, K1 k ∨ K2 k ∨ K3 k ∨ B k → W.heap[k]? = w.heap[k]?) → Q (fun k => K1 k ∨ K2 k ∨ K3 k ∨ B k) W) : Lasts w A Q := by
 obtain ⟨K1, a1, b1⟩ := h1
 obtain ⟨K2, a2, b2⟩ := h2
 obtain ⟨K3, a3, b3⟩ := h3
 refine ⟨fun k => K1 k ∨ K2 k ∨ K3 k ∨ B k, fun k hk => ?_, fun W hW hk => hq K1 K2 K3 a1 a2 a3 b1 b2 b3 W hW hk⟩
 rcases hk with h | h | h | h
 ·exact a1 k h
 ·exact a2 k h
 ·exact a3 k h
 ·exact hB k h
theorem choose_any (w : World) (vc yv nv : Value) (oc : Option CndM) (yes no : List (Option StpM)) (A : Nat → Prop) (hA : ∀ k, w.heap.size ≤ k → A k) (hc : CndO w A vc oc) (hy : StepsL w A yv yes) (hn : StepsL w A nv no) :
  Calls Tryz.prog 268 #[vc, yv, nv] w fun e w' => ∃ v, e = .returned v ∧ w' = ((w.alloc (box1 vc 358)).alloc (box1 yv 107)).alloc (box1 nv 107) ∧ StpO w' A v (chooseO oc yes no) := by
 refine (choose_call w vc yv nv hc.fnv hy.1 hn.1).mono ?_
 rintro e w' ⟨rfl, rfl⟩
 refine ⟨_, rfl, rfl, ?_⟩
 unfold chooseO
 cases oc with
 | none => exact Or.inl ⟨_, _, _, rfl⟩
 | some mc =>
  dsimp only
  cases hys : allO yes with
  | none => exact Or.inl ⟨_, _, _, rfl⟩
  | some ys =>
   dsimp only
   cases hns : allO no with
   | none => exact Or.inl ⟨_, _, _, rfl⟩
   | some ns =>
    have h1 : Lasts _ A (CndC vc mc) := ((hc.alloc (box1 vc 358)).alloc (box1 yv 107)).alloc (box1 nv 107)
    have h2 := (((hy.alloc (box1 vc 358)).alloc (box1 yv 107)).alloc (box1 nv 107)).2 ys hys
    have h3 := (((hn.alloc (box1 vc 358)).alloc (box1 yv 107)).alloc (box1 nv 107)).2 ns hns
    obtain ⟨n1, n2, n3, sz⟩ := three_new w (box1 vc 358) (box1 yv 107) (box1 nv 107)
    refine Lasts.three h1 h2 h3 (fun k => k = w.heap.size ∨ k = w.heap.size + 1 ∨ k = w.heap.size + 1 + 1) (fun k hk => ⟨by omega, hA k (by omega)⟩) (fun K1 K2 K3 a1 a2 a3 q1 q2 q3 W hW hk => ?_)
    refine ⟨_, _, rfl, Tryz.entChoose, fun b r pv mv hr hd => ?_⟩
    refine choose_run W b r pv mv hr vc yv nv mc ys ns K1 (q1 W hW (fun k h => hk k (Or.inl h))) hy.1 hn.1 (fun V hV hrV => ?_) (fun V hV hrV => ?_) _ _ _
     (cell1 (hk _ (Or.inr (Or.inr (Or.inr (Or.inl rfl))))) n1) (cell1 (hk _ (Or.inr (Or.inr (Or.inr (Or.inr (Or.inl rfl)))))) n2) (cell1 (hk _ (Or.inr (Or.inr (Or.inr (Or.inr (Or.inr rfl)))))) n3)
    ·exact perform_run _ K2 yv ys (fun k h => (a2 k h).1) q2 V (Nat.le_trans hW hV.size) (fun k h => (hV.block k (Nat.lt_of_lt_of_le (a2 k h).1 hW)).trans (hk k (Or.inr (Or.inl h)))) b r pv mv hrV (fun k ho h => hd k ho (Or.inr (Or.inl h)))
    ·exact perform_run _ K3 nv ns (fun k h => (a3 k h).1) q3 V (Nat.le_trans hW hV.size) (fun k h => (hV.block k (Nat.lt_of_lt_of_le (a3 k h).1 hW)).trans (hk k (Or.inr (Or.inr (Or.inl h))))) b r pv mv hrV (fun k ho h => hd k ho (Or.inr (Or.inr (Or.inl h))))
end Go.Proofs.YtgdeeodifnegiaaGreatDoor
namespace Go.Proofs.YtgdeeodifnegiaaGreatDoor
open Go.RowKit
def StmtRes (pb : Nat) (ts : List TokP) (w : World) (D O : Nat → Prop) (r : RS × Option (Option StpM)) (e : Ending) (w' : World) : Prop :=
 ∃ v O', e = .returned (.tuple #[v, .bool r.2.isSome]) ∧ RA w' pb ts r.1 D O' ∧ Fr O w O' w' ∧ FnV v ∧ (∀ o, r.2 = some o → StpO w' (Free O' D w.heap.size) v o) ∧ Ok ts r.1
def StmtSaid (pb : Nat) (ts : List TokP) (tw : RS → Option (RS × Option (Option StpM))) : Prop := ∀ (w : World) (st : RS) (D O : Nat → Prop) (r : RS × Option (Option StpM)), RA w pb ts st D O → Ok ts st → tw st = some r → Calls Tryz.prog 169 #[ptr4 pb 0] w (StmtRes pb ts w D O r)
def StepsRes (pb : Nat) (ts : List TokP) (w : World) (D O : Nat → Prop) (r : RS × List (Option StpM)) (e : Ending) (w' : World) : Prop :=
 ∃ v O', e = .returned v ∧ RA w' pb ts r.1 D O' ∧ Fr O w O' w' ∧ StepsL w' (Free O' D w.heap.size) v r.2 ∧ Ok ts r.1 ∧ (∃ a c, v = .slice a r.2.length c) ∧ r.2.length ≤ 1000000
structure AccAt (wr : World) (n0 : Nat) (Ou D : Nat → Prop) (sv : Value) (acc : List (Option StpM)) (vs : List Value) : Prop where
 own : wr.ownsRow 0 272 1 sv acc.length vs
 new : ∀ k, sv.ownBlock = some k → n0 ≤ k ∧ ¬ Ou k
 elt : ∀ (i : Nat) (v : Value) (o : Option StpM), vs[i]? = some v → acc[i]? = some o → StpO wr (fun k => Free Ou D n0 k ∧ sv.ownBlock ≠ some k) v o
theorem StpO.mono {w w' : World} {A A' : Nat → Prop} {v : Value} {o : Option StpM} (h : StpO w A v o) (hs : w.heap.size ≤ w'.heap.size) (hb : ∀ k, k < w.heap.size → A k → w'.heap[k]? = w.heap[k]? ∧ A' k) : StpO w' A' v o := by
 cases o with
 | none => exact h
 | some m => exact Lasts.mono h hs hb (fun _ _ h => h)
theorem AccAt.fr {wr w1 : World} {n0 : Nat} {Ou O1 D : Nat → Prop} {sv : Value} {acc : List (Option StpM)} {vs : List Value} (h : AccAt wr n0 Ou D sv acc vs) (hf : Fr Ou wr O1 w1) : AccAt w1 n0 O1 D sv acc vs := by
 have hO : ∀ k, k < wr.heap.size → ¬ Ou k → ¬ O1 k := fun k hk hn ho => by
  rcases hf.own k ho with h1 | h1
  ·exact hn h1
  ·omega
 refine ⟨owns_of h.own (fun k e => hf.block k (h.own.lt k e).2 (h.new k e).2), fun k e => ⟨(h.new k e).1, hO k (h.own.lt k e).2 (h.new k e).2⟩, fun i v o hv ho => ?_⟩
 exact (h.elt i v o hv ho).mono hf.size (fun k hk ha => ⟨hf.block k hk ha.1.1, ⟨hO k hk ha.1.1, ha.1.2⟩, ha.2⟩)
theorem AccAt.snoc {w1 w2 : World} {n0 g cap : Nat} {O1 D : Nat → Prop} {sv v : Value} {acc : List (Option StpM)} {vs : List Value} {o : Option StpM} (h : AccAt w1 n0 O1 D sv acc vs) (hO : ∀ k, O1 k → k < w1.heap.size) (hn0 : n0 ≤ w1.heap.size)
  (hv : StpO w1 (fun k => Free O1 D n0 k ∧ sv.ownBlock ≠ some k) v o) (hg : w1.grownBy w2 sv.ownBlock) (hat : sv.ownBlock = some g ∨ w1.heap.size ≤ g)
  (hown : w2.ownsRow 0 272 1 (.slice (some ⟨g, 0, none⟩) (acc.length + 1) cap) (acc.length + 1) (vs ++ [v])) :
  AccAt w2 n0 O1 D (.slice (some ⟨g, 0, none⟩) (acc.length + 1) cap) (acc ++ [o]) (vs ++ [v]) := by
 have hvl : vs.length = acc.length := by simpa using h.own.1
 have hmono : ∀ (x : Value) (p : Option StpM), StpO w1 (fun k => Free O1 D n0 k ∧ sv.ownBlock ≠ some k) x p → StpO w2 (fun k => Free O1 D n0 k ∧ (Value.slice (some ⟨g, 0, none⟩) (acc.length + 1) cap).ownBlock ≠ some k) x p := fun x p hx => by
  refine hx.mono hg.size (fun k hk ha => ⟨hg.block k hk (fun e => ha.2 e.symm), ha.1, fun e => ?_⟩)
  have e' : g = k := by simpa [Value.ownBlock] using e
  rcases hat with h1 | h1
  ·exact ha.2 (by rw [h1, e'])
  ·omega
 refine ⟨by rw [List.length_append]; exact hown, fun k e => ?_, fun i x p hx hp => ?_⟩
 ·have e' : g = k := by simpa [Value.ownBlock] using e
  subst e'
  rcases hat with h1 | h1
  ·exact h.new g h1
  ·exact ⟨by omega, fun ho => by have := hO g ho; omega⟩
 ·rcases Nat.lt_or_ge i acc.length with hi | hi
  ·rw [List.getElem?_append_left (by omega)] at hx
   rw [List.getElem?_append_left hi] at hp
   exact hmono x p (h.elt i x p hx hp)
  ·rw [List.getElem?_append_right (by omega)] at hx
   rw [List.getElem?_append_right hi] at hp
   have hi0 : i - acc.length = 0 := by
    rcases Nat.eq_zero_or_pos (i - acc.length) with h1 | h1
    ·exact h1
    ·rw [List.getElem?_eq_none (by simp; omega)] at hp; cases hp
   rw [hi0] at hp
   rw [hvl, hi0] at hx
   simp at hx hp
   subst hx hp
   exact hmono _ _ hv
theorem moreLp_pos {tw : RS → Option (RS × Option (Option StpM))} {k : Nat} {st : RS} {l : List (Option StpM)} {r : RS × List (Option StpM)} (h : moreLp tw k st l = some r) : ∃ g, k = g + 1 := by
 cases k with
 | zero => rw [moreLp] at h; cases h
 | succ g => exact ⟨g, rfl⟩
def moreK (tw : RS → Option (RS × Option (Option StpM))) (k : Nat) (su : RS) (x : Option (Option StpM)) (l : List (Option StpM)) : Option (RS × List (Option StpM)) :=
 match x with
 | none => some (su, l)
 | some y => moreLp tw k su (l ++ [y])
theorem moreLp_step {tw : RS → Option (RS × Option (Option StpM))} {k : Nat} {st : RS} {l : List (Option StpM)} {r : RS × List (Option StpM)} (h : moreLp tw (k + 1) st l = some r) :
  ∃ su x, tw st = some (su, x) ∧ moreK tw k su x l = some r := by
 rw [moreLp] at h
 cases h1 : tw st with
 | none => rw [h1] at h; cases h
 | some p =>
  obtain ⟨su, x⟩ := p
  rw [h1] at h
  refine ⟨su, x, rfl, ?_⟩
  cases x with
  | none => exact h
  | some y => exact h
theorem Tryz.infoStep : (Tryz.prog.info? 272).map (fun i => (i.zero, i.size, i.bytes)) = some (some .nilFunc, 1, 8) := by kernel_rfl
theorem RA.grown {w w2 : World} {pb : Nat} {ts : List TokP} {st : RS} {D O : Nat → Prop} {row : Option Nat} (h : RA w pb ts st D O) (hg : w.grownBy w2 row) (hr : ∀ k, row = some k → ¬ O k ∧ ¬ D k) : RA w2 pb ts st D O := by
 obtain ⟨tb, tc, dv, av, bv, h, rfl⟩ := h
 refine ⟨tb, tc, dv, av, bv, h.keep hg.size (fun k hl hk => hg.block k hl (fun e => ?_)), rfl⟩
 rcases hk with h1 | h1
 ·exact (hr k e.symm).1 h1
 ·exact (hr k e.symm).2 h1
theorem AccAt.alloc {wr : World} {n0 : Nat} {Ou D : Nat → Prop} {sv : Value} {acc : List (Option StpM)} {vs : List Value} (h : AccAt wr n0 Ou D sv acc vs) (o : Obj) : AccAt (wr.alloc o) n0 Ou D sv acc vs := h.fr ((Fr.refl _ _).alloc o)
theorem more_said {pb : Nat} {ts : List TokP} {tw : RS → Option (RS × Option (Option StpM))} (IH : StmtSaid pb ts tw) (n : Nat) (hn : n ≤ 1000) {w : World} {st : RS} {D O : Nat → Prop} {r : RS × List (Option StpM)} (h : RA w pb ts st D O) (hk : Ok ts st) (hr : moreLp tw n st [] = some r) :
  Calls Tryz.prog 216 #[.func (.func 169) #[ptr4 pb 0] #[]] w (StepsRes pb ts w D O r) := by
 obtain ⟨n, rfl⟩ := moreLp_pos hr
 obtain ⟨su, x, h1, h2⟩ := moreLp_step hr
 obtain ⟨i0, hi0, hz0, hz1, hz2⟩ := info_parts Tryz.infoStep
 have HIH := hide IH
 have H1 := hide (IH w st D O (su, x) h hk h1)
 have HL := hide h2
 have HH := hide h
 clear hr h hk h1 h2 IH
 go_enter Tryz.func216, Tryz.ntmps216
 go_wp2_with fail
 refine (unhide H1).mono ?_
 rintro e w1 ⟨v, O1, rfl, hr1, hf1, hfv, hv1, hk1⟩
 have HR := hide hr1
 have HF := hide hf1
 have HV := hide hv1
 have HK := hide hk1
 have HFV := hide hfv
 clear hr1 hf1 hv1 hk1 H1 hfv
 go_wp2_with fail
 go_loopg [3, 4, 5] n (fun k s3 v4 b5 wr => ∃ (su : RS) (x : Option (Option StpM)) (acc : List (Option StpM)) (vs : List Value) (Ou : Nat → Prop), b5 = .bool x.isSome ∧ acc.length + k ≤ n ∧ RA wr pb ts su D Ou ∧ Fr O w Ou wr ∧ AccAt wr w.heap.size Ou D s3 acc vs ∧ FnV v4 ∧ (∀ o, x = some o → StpO wr (fun k => Free Ou D w.heap.size k ∧ s3.ownBlock ≠ some k) v4 o) ∧ Ok ts su ∧ moreK tw k su x acc = some r)
 case atStart =>
  refine ⟨su, x, [], [], O1, rfl, by simp, unhide HR, unhide HF, ⟨World.ownsRow_nil _ _ _ _, fun k e => by simp [Value.ownBlock] at e, fun i v o hv => by simp at hv⟩, unhide HFV, fun o ho => ?_, unhide HK, unhide HL⟩
  exact ((unhide HV) o ho).mono (Nat.le_refl _) (fun k _ ha => ⟨rfl, ha, by simp [Value.ownBlock]⟩)
 case round =>
  clear HR HF HV HK HL HFV
  obtain ⟨su, x, acc, vs, Ou, rfl, hlen, hr, hf, hacc, hfv, hv, hk, hl⟩ := hrel
  have HR := hide hr
  have HF := hide hf
  have HA := hide hacc
  have HK := hide hk
  obtain ⟨sa, sc, hsv⟩ := owns_form' hacc.own
  subst hsv
  cases x with
  | none =>
   cases hl
   clear hr hf hacc hk hv
   go_wp2_with fail
   go_ret
   refine ⟨_, _, rfl, unhide HR, unhide HF, stepsL_of (unhide HA).own (show acc.length ≤ 1000000 by omega) (fun k e => ⟨((unhide HA).new k e).2, Or.inr ((unhide HA).new k e).1⟩) (fun i v o h1 h2 => ((unhide HA).elt i v o h1 h2).mono (Nat.le_refl _) (fun k _ ha => ⟨rfl, ha.1⟩)), unhide HK, ⟨_, _, rfl⟩, by show acc.length ≤ _; omega⟩
  | some y =>
   have hl' : moreLp tw _ su (acc ++ [y]) = some r := hl
   obtain ⟨g, rfl⟩ := moreLp_pos hl'
   obtain ⟨su2, x2, h3, h4⟩ := moreLp_step hl'
   have HS := hide h3
   have HL := hide h4
   have HV := hide (hv y rfl)
   have HFV := hide hfv
   have hln : acc.length ≤ 1000 := by omega
   clear hr hf hacc hk hv hl hl' h3 h4
   have HR1 := hide ((unhide HR).alloc (box1 u4 272))
   have HA1 := hide ((unhide HA).alloc (box1 u4 272))
   have HV1 := hide ((unhide HV).mono (alloc_mono wr (box1 u4 272) (fun k => Free Ou D w.heap.size k ∧ (Value.slice sa acc.length sc).ownBlock ≠ some k)).1 (alloc_mono wr (box1 u4 272) _).2)
   rcases hfv with ⟨f1, f2, f3, rfl⟩ | rfl
   ·
    go_wp2_with (at_builtin; refine wpList_append_lies _ rfl _ _ _ rfl 0 272 i0 _ 1 8 Tryz.underlying107 hi0 hz0 hz1 hz2 rfl (by omega) (.slice sa acc.length sc) acc.length vs rfl (unhide HA1).own ⟨wr.heap.size, 0, none⟩ 1 1 [.func f1 f2 f3] rfl rfl (World.news_of_block (cs := #[.func f1 f2 f3]) (t := 272) (fr := (0, 0)) (heap_alloc_new _ _)) (by simp [Value.oneCell']) (by omega) (by simp [maxLen]; omega) (by omega) (Nat.zero_le _) (wr.heap.size + 1) (by simp) ?_; intro gg cap w2 hown hgrow hat hltg)
    have HR2 := hide ((unhide HR1).grown hgrow (fun k e => ⟨((unhide HA1).new k e).2, fun hd => by have h1 := ((unhide HA1).new k e).1; have h2 := ((unhide HH).free hd).1; omega⟩))
    have HF2 := hide (((unhide HF).alloc (box1 (.func f1 f2 f3) 272)).grown hgrow (fun k e => Or.inr ((unhide HA1).new k e).1))
    have HA2 := hide (AccAt.snoc (unhide HA1) (fun k ho => (unhide HR1).lt ho) (by have := (unhide HF).size; simp; omega) (unhide HV1) hgrow (hat.imp id (fun h => by simp; omega)) hown)
    have hs2 := hgrow.size
    clear hown hgrow hat hltg HR1 HA1 HV1 HV HA
    refine ((unhide HIH) _ _ _ _ _ (unhide HR2) (unhide HK) (unhide HS)).mono ?_
    rintro e w3 ⟨v3, O3, rfl, hr3, hf3, hfv3, hv3, hk3⟩
    have HR3 := hide hr3
    have HF3 := hide ((unhide HF2).trans hf3)
    have HA3 := hide ((unhide HA2).fr hf3)
    have HK3 := hide hk3
    have HFV3 := hide hfv3
    have HV3 : Hid (∀ o, x2 = some o → StpO w3 (fun k => Free O3 D w.heap.size k ∧ (Value.slice (some ⟨gg, 0, none⟩) (acc.length + 1) cap).ownBlock ≠ some k) v3 o) := by
     intro o ho
     refine (hv3 o ho).mono (Nat.le_refl _) (fun k _ ha => ⟨rfl, ⟨ha.1, ?_⟩, fun e => ?_⟩)
     ·rcases ha.2 with h1 | h1
      ·exact Or.inl h1
      ·exact Or.inr (by have := (unhide HF2).size; omega)
     ·have e' : gg = k := by simpa [Value.ownBlock] using e
      have hl2 := ((unhide HA2).own.lt gg rfl).2
      rcases ha.2 with h1 | h1
      ·have h2 := ((unhide HA2).new gg rfl).1
       have h3 := ((unhide HH).free h1).1
       omega
      ·omega
    clear hr3 hf3 hv3 hk3 hfv3
    go_wp2_with fail
    go_roundg g
    case measure => omega
    case rel => exact ⟨su2, x2, acc ++ [y], _, O3, rfl, by rw [List.length_append, List.length_singleton]; omega, unhide HR3, unhide HF3, unhide HA3, unhide HFV3, unhide HV3, unhide HK3, unhide HL⟩
   ·
    go_wp2_with (at_builtin; refine wpList_append_lies _ rfl _ _ _ rfl 0 272 i0 _ 1 8 Tryz.underlying107 hi0 hz0 hz1 hz2 rfl (by omega) (.slice sa acc.length sc) acc.length vs rfl (unhide HA1).own ⟨wr.heap.size, 0, none⟩ 1 1 [.nilFunc] rfl rfl (World.news_of_block (cs := #[.nilFunc]) (t := 272) (fr := (0, 0)) (heap_alloc_new _ _)) (by simp [Value.oneCell']) (by omega) (by simp [maxLen]; omega) (by omega) (Nat.zero_le _) (wr.heap.size + 1) (by simp) ?_; intro gg cap w2 hown hgrow hat hltg)
    have HR2 := hide ((unhide HR1).grown hgrow (fun k e => ⟨((unhide HA1).new k e).2, fun hd => by have h1 := ((unhide HA1).new k e).1; have h2 := ((unhide HH).free hd).1; omega⟩))
    have HF2 := hide (((unhide HF).alloc (box1 (.nilFunc) 272)).grown hgrow (fun k e => Or.inr ((unhide HA1).new k e).1))
    have HA2 := hide (AccAt.snoc (unhide HA1) (fun k ho => (unhide HR1).lt ho) (by have := (unhide HF).size; simp; omega) (unhide HV1) hgrow (hat.imp id (fun h => by simp; omega)) hown)
    have hs2 := hgrow.size
    clear hown hgrow hat hltg HR1 HA1 HV1 HV HA
    refine ((unhide HIH) _ _ _ _ _ (unhide HR2) (unhide HK) (unhide HS)).mono ?_
    rintro e w3 ⟨v3, O3, rfl, hr3, hf3, hfv3, hv3, hk3⟩
    have HR3 := hide hr3
    have HF3 := hide ((unhide HF2).trans hf3)
    have HA3 := hide ((unhide HA2).fr hf3)
    have HK3 := hide hk3
    have HFV3 := hide hfv3
    have HV3 : Hid (∀ o, x2 = some o → StpO w3 (fun k => Free O3 D w.heap.size k ∧ (Value.slice (some ⟨gg, 0, none⟩) (acc.length + 1) cap).ownBlock ≠ some k) v3 o) := by
     intro o ho
     refine (hv3 o ho).mono (Nat.le_refl _) (fun k _ ha => ⟨rfl, ⟨ha.1, ?_⟩, fun e => ?_⟩)
     ·rcases ha.2 with h1 | h1
      ·exact Or.inl h1
      ·exact Or.inr (by have := (unhide HF2).size; omega)
     ·have e' : gg = k := by simpa [Value.ownBlock] using e
      have hl2 := ((unhide HA2).own.lt gg rfl).2
      rcases ha.2 with h1 | h1
      ·have h2 := ((unhide HA2).new gg rfl).1
       have h3 := ((unhide HH).free h1).1
       omega
      ·omega
    clear hr3 hf3 hv3 hk3 hfv3
    go_wp2_with fail
    go_roundg g
    case measure => omega
    case rel => exact ⟨su2, x2, acc ++ [y], _, O3, rfl, by rw [List.length_append, List.length_singleton]; omega, unhide HR3, unhide HF3, unhide HA3, unhide HFV3, unhide HV3, unhide HK3, unhide HL⟩
end Go.Proofs.YtgdeeodifnegiaaGreatDoor
