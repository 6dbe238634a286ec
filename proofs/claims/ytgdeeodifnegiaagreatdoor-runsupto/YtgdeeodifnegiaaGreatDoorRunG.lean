/- A route copied (package routes). -/
import Derived.Test.YtgdeeodifnegiaaGreatDoorRunF
import Derived.Test.YtgdeeodifnegiaaGreatDoorMem
import Derived.Test.YtgdeeodifnegiaaGreatDoorRdrF
import Derived.Test.YtgdeeodifnegiaaGreatDoorCmpA
import Derived.Test.YtgdeeodifnegiaaGreatDoorRtP
namespace Go.Proofs.YtgdeeodifnegiaaGreatDoor
open Go.RowKit

abbrev rtV (r : Rt) (pv mv : Value) : Value := .agg #[.int .i64 r.addr, .int .i64 r.len, pv, mv, .int .i64 r.pref, .int .i64 r.med]
abbrev rtBlk (r : Rt) (pv mv : Value) : Obj := .cells #[.int .i64 r.addr, .int .i64 r.len, pv, mv, .int .i64 r.pref, .int .i64 r.med] 28
theorem reads_form {w : World} {x : Value} {m : Nat} {news : List Value} (h : ReadsAs w x m news) : ∃ a n c, x = .slice a n c := by
  rcases h with ⟨h, _⟩ | ⟨ad, c, h, _⟩
  · exact ⟨_, _, _, h⟩
  · exact ⟨_, _, _, h⟩
theorem ints_reads {w : World} {v : Value} {l : List Int} (h : IntsAt w v l) : ReadsAs w v l.length (intCells l) := by
  obtain ⟨p, c, rfl, hcap, hl, hin, hr⟩ := h
  rcases hr with ⟨rfl, h0⟩ | ⟨b, o, rfl, hb, hc⟩
  · cases p with
    | none => exact Or.inl ⟨by rw [h0 rfl]; rfl, rfl, rfl⟩
    | some ad => exact Or.inr ⟨ad, c, rfl, fun j u hu => by simp [intCells] at hu⟩
  · refine Or.inr ⟨⟨b, o, none⟩, c, rfl, fun j u hu => ?_⟩
    rw [intCells, List.getElem?_map] at hu
    obtain ⟨x, hx, rfl⟩ := Option.map_eq_some_iff.1 hu
    have hj : j < l.length := by
      rcases Nat.lt_or_ge j l.length with h | h
      · exact h
      · rw [List.getElem?_eq_none h] at hx; cases hx
    rw [List.getElem?_eq_getElem hj] at hx
    cases hx
    have e : (⟨b, o, none⟩ : Addr).add j = ⟨b, o + j, none⟩ := by unfold Addr.add; split <;> simp_all
    rw [e]; exact hc j hj
theorem intCells_one (l : List Int) : ∀ u ∈ intCells l, u.oneCell' = true := fun u hu => by
  obtain ⟨x, _, rfl⟩ := List.mem_map.1 hu; rfl
theorem rt6 {w : World} {b : Nat} {r : Rt} {pv mv : Value} (h : w.heap[b]? = some (rtBlk r pv mv)) :
    w.cell? ⟨b, 0, none⟩ = some (.int .i64 r.addr) ∧ w.cell? ⟨b, 1, none⟩ = some (.int .i64 r.len) ∧ w.cell? ⟨b, 2, none⟩ = some pv ∧ w.cell? ⟨b, 3, none⟩ = some mv ∧ w.cell? ⟨b, 4, none⟩ = some (.int .i64 r.pref) ∧ w.cell? ⟨b, 5, none⟩ = some (.int .i64 r.med) ∧ ∀ o, w.frozen? ⟨b, o, none⟩ = false :=
  ⟨cell_of_heap h, cell_of_heap h, cell_of_heap h, cell_of_heap h, cell_of_heap h, cell_of_heap h, fun _ => frozen_of_heap h⟩
theorem Tryz.infoIntR : (Tryz.prog.info? 3).map (fun i => (i.zero, i.size, i.bytes)) = some (some (.int .i64 0), 1, 8) := by kernel_rfl

/-- a list of the copy's own is laid into it -/
theorem copy_step {w W w1 : World} {c c' : Array Value} {o : Nat} {v : Value} {R : Obj} {n : Nat} {l : List Int} (hB : Below w.heap.size w W) (hq : W.heap[w.heap.size]? = some (.cells c 28 (0, 0))) (hr : W.heap[w.heap.size + 1]? = some R) (hown : w1.ownsRow w.heap.size 3 1 v n (intCells l)) (hg : W.grownBy w1 none) (hat : v.ownBlock = none ∨ v.ownBlock = some W.heap.size)
    (hc : c.setIfInBounds o v = c') :
    (w1.cell? ⟨w.heap.size, o, none⟩ = c[o]? ∧ w1.frozen? ⟨w.heap.size, o, none⟩ = false) ∧ (w1.setCell ⟨w.heap.size, o, none⟩ v).heap[w.heap.size]? = some (.cells c' 28 (0, 0)) ∧ (w1.setCell ⟨w.heap.size, o, none⟩ v).heap[w.heap.size + 1]? = some R ∧ (w1.setCell ⟨w.heap.size, o, none⟩ v).ownsRow w.heap.size 3 1 v n (intCells l) ∧ Below w.heap.size w (w1.setCell ⟨w.heap.size, o, none⟩ v) ∧ (∀ k, k < W.heap.size → k ≠ w.heap.size → (w1.setCell ⟨w.heap.size, o, none⟩ v).heap[k]? = W.heap[k]?) ∧ W.heap.size ≤ (w1.setCell ⟨w.heap.size, o, none⟩ v).heap.size := by
  have lq := heap_lt hq
  have lr := heap_lt hr
  have hold : ∀ k, k < W.heap.size → k ≠ w.heap.size → (w1.setCell ⟨w.heap.size, o, none⟩ v).heap[k]? = W.heap[k]? := fun k hk hn => by
    rw [heap_set_other hn, hg.block k hk (fun e => by cases e)]
  have hq1 : w1.heap[w.heap.size]? = some (.cells c 28 (0, 0)) := (hg.block _ lq (fun e => by cases e)).trans hq
  refine ⟨⟨cell_of_heap hq1, frozen_of_heap hq1⟩, by rw [heap_set hq1, hc], (hold _ lr (by omega)).trans hr, owns_of hown (fun k e => heap_set_other (fun e2 => ?_)), ?_, hold, by have := hg.size; simp [World.setCell]; omega⟩
  · have e3 : k = w.heap.size := e2
    rcases hat with h1 | h1
    · rw [h1] at e; cases e
    · rw [h1] at e; cases e; omega
  · exact (hB.grown hg hB.size (fun k e => by cases e)).setCell (p := ⟨w.heap.size, o, none⟩) (Nat.le_refl _) v
set_option maxRecDepth 100000 in
set_option maxHeartbeats 2000000 in
theorem copy_any (r : Rt) (pv mv : Value) (w : World) (hp : IntsAt w pv r.path) (hm : IntsAt w mv r.marks) (n1 : r.path.length ≤ 12) (n2 : r.marks.length ≤ 8) :
    Calls Tryz.prog 148 #[rtV r pv mv] w fun e w' => ∃ pv' mv', e = .returned (rtV r pv' mv') ∧ w'.ownsRow w.heap.size 3 1 pv' r.path.length (intCells r.path) ∧ w'.ownsRow w.heap.size 3 1 mv' r.marks.length (intCells r.marks) ∧ (pv'.ownBlock = none ∨ pv'.ownBlock ≠ mv'.ownBlock) ∧ Below w.heap.size w w' := by
  obtain ⟨i0, hi0, hz0, hz1, hz2⟩ := info_parts Tryz.infoIntR
  obtain ⟨a1, b1, c1, hpv⟩ := reads_form (ints_reads hp)
  obtain ⟨a2, b2, c2, hmv⟩ := reads_form (ints_reads hm)
  have r0 : Rt := ⟨0, 0, [], [], 0, 0⟩
  obtain ⟨W0, hW0⟩ : ∃ W0, (w.alloc (rtBlk r pv mv)).alloc (.cells #[.int .i64 0, .int .i64 0, .slice none 0 0, .slice none 0 0, .int .i64 0, .int .i64 0] 28) = W0 := ⟨_, rfl⟩
  have hb0 : Below w.heap.size w W0 := by rw [← hW0]; exact ((Below.refl _ _).alloc (Nat.le_refl _) _).alloc (by rw [World.size_alloc]; omega) _
  obtain ⟨q1, q2, qs⟩ := two_new w (rtBlk r pv mv) (.cells #[.int .i64 0, .int .i64 0, .slice none 0 0, .slice none 0 0, .int .i64 0, .int .i64 0] 28)
  rw [hW0] at q1 q2 qs
  have HP := hide (ints_reads (hp.below hb0))
  have HM := hide hm
  have HB0 := hide hb0
  obtain ⟨c0, c1', c2', c3, c4, c5, cz⟩ := rt6 q1
  have HQ1 := hide q1
  have HQ2 := hide q2
  clear hp hm hb0 q1 q2
  subst hpv hmv
  go_enter Tryz.func148, Tryz.ntmps148
  go_wp2_with (first
    | (at_builtin; refine wpList_append_reads rfl _ _ _ rfl w.heap.size 3 i0 _ 1 8 Tryz.underlying26 hi0 hz0 hz1 hz2 rfl (by omega) (.slice none 0 0) 0 [] rfl (World.ownsRow_nil _ _ _ _) (.slice a1 b1 c1) r.path.length (intCells r.path) rfl (unhide HP) (by simp [intCells]) (intCells_one _) (by unfold maxLen; omega) (by omega) (by omega) ?_; intro v1 w1 hown1 hgrow1 hat1; rw [List.nil_append, Nat.zero_add] at hown1; obtain ⟨⟨d2, dz⟩, e1, e2, e3, e4, e5, e6⟩ := copy_step (o := 2) (unhide HB0) (unhide HQ1) (unhide HQ2) hown1 hgrow1 hat1 rfl; obtain ⟨fa, fc, hfv⟩ := owns_form' hown1; have HE1 := hide e1; have HE2 := hide e2; have HE3 := hide e3; have HE4 := hide e4; have HE5 := hide e5; have HE6 := hide e6; have HAT := hide hat1; have HM1 := hide (ints_reads ((unhide HM).below (unhide HE4))); obtain ⟨g0, g1, g2, g3, g4, g5, gz⟩ := rt6 (r := r) (pv := v1) e1; clear HP HM hown1 hgrow1 hat1 e1 e2 e3 e4 e5 e6 c0 c1' c2' c3 c4 c5 cz; subst hfv)
    | (at_builtin; refine wpList_append_reads rfl _ _ _ rfl w.heap.size 3 i0 _ 1 8 Tryz.underlying26 hi0 hz0 hz1 hz2 rfl (by omega) (.slice none 0 0) 0 [] rfl (World.ownsRow_nil _ _ _ _) (.slice a2 b2 c2) r.marks.length (intCells r.marks) rfl (unhide HM1) (by simp [intCells]) (intCells_one _) (by unfold maxLen; omega) (by omega) (by have h1 := unhide HE6; omega) ?_; intro v2 w2 hown2 hgrow2 hat2; rw [List.nil_append, Nat.zero_add] at hown2; obtain ⟨⟨d3, dz3⟩, k1, k2, k3, k4, k5, k6⟩ := copy_step (o := 3) (unhide HE4) (unhide HE1) (unhide HE2) hown2 hgrow2 hat2 rfl; obtain ⟨fa2, fc2, hfv2⟩ := owns_form' hown2; have HK1 := hide k1; have HK2 := hide k2; have HK3 := hide k3; have HK4 := hide k4; have HK5 := hide k5; have HAT2 := hide hat2; obtain ⟨m0, m1, m2, m3, m4, m5, mz⟩ := rt6 (r := r) (mv := v2) k1; obtain ⟨z0, z1, z2, z3, z4, z5, zz⟩ := rt6 (r := ⟨0, 0, [], [], 0, 0⟩) (pv := .slice none 0 0) (mv := .slice none 0 0) k2; clear HM1 hown2 hgrow2 hat2 k1 k2 k3 k4 k5 k6 g0 g1 g2 g3 g4 g5 gz; subst hfv2))
  have hR : ∀ (X : World) (v0 v1 v2 v3 v4 v5 : Value) (k : Nat), k ≠ w.heap.size + 1 → ((((((X.setCell ⟨w.heap.size + 1, 0, none⟩ v0).setCell ⟨w.heap.size + 1, 1, none⟩ v1).setCell ⟨w.heap.size + 1, 2, none⟩ v2).setCell ⟨w.heap.size + 1, 3, none⟩ v3).setCell ⟨w.heap.size + 1, 4, none⟩ v4).setCell ⟨w.heap.size + 1, 5, none⟩ v5).heap[k]? = X.heap[k]? := fun X v0 v1 v2 v3 v4 v5 k hk => by
    rw [heap_set_other hk, heap_set_other hk, heap_set_other hk, heap_set_other hk, heap_set_other hk, heap_set_other hk]
  refine bodyPost_ret (v := rtV r (.slice fa r.path.length fc) (.slice fa2 r.marks.length fc2)) (by simp [results, Tryz.results148, go_sem, z0, z1, z2, z3, z4, z5]) rfl ⟨_, _, rfl, ?_, ?_, ?_, ?_⟩
  · refine owns_of (unhide HE3) (fun k e => ?_)
    have hk : w.heap.size + 2 ≤ k := by
      rcases unhide HAT with h1 | h1
      · rw [h1] at e; cases e
      · rw [h1] at e; cases e; omega
    rw [hR _ _ _ _ _ _ _ k (by omega), (unhide HK5) k ((unhide HE3).lt k e).2 (by omega)]
  · refine owns_of (unhide HK3) (fun k e => ?_)
    have hk : w.heap.size + 2 ≤ k := by
      rcases unhide HAT2 with h1 | h1
      · rw [h1] at e; cases e
      · rw [h1] at e; cases e; have := unhide HE6; omega
    rw [hR _ _ _ _ _ _ _ k (by omega)]
  · rcases unhide HAT with h1 | h1
    · exact Or.inl h1
    · right; intro e
      rw [h1] at e
      have h3 := ((unhide HE3).lt _ h1).2
      rcases unhide HAT2 with h2 | h2
      · rw [h2] at e; cases e
      · rw [h2] at e
        have e4 := Option.some.inj e
        omega
  · refine Below.setCell (p := ⟨w.heap.size + 1, 5, none⟩) (Below.setCell (p := ⟨w.heap.size + 1, 4, none⟩) (Below.setCell (p := ⟨w.heap.size + 1, 3, none⟩) (Below.setCell (p := ⟨w.heap.size + 1, 2, none⟩) (Below.setCell (p := ⟨w.heap.size + 1, 1, none⟩) (Below.setCell (p := ⟨w.heap.size + 1, 0, none⟩) (unhide HK4) (Nat.le_succ _) _) (Nat.le_succ _) _) (Nat.le_succ _) _) (Nat.le_succ _) _) (Nat.le_succ _) _) (Nat.le_succ _) _
end Go.Proofs.YtgdeeodifnegiaaGreatDoor

namespace Go.Proofs.YtgdeeodifnegiaaGreatDoor
open Go.RowKit

def rt0 : Rt := ⟨0, 0, [], [], 0, 0⟩
/-- what a run gives -/
def runM (ms : List StpM) (r : Rt) : Rt × Int := if (performM ms r).2 = 1 then ((performM ms r).1, 1) else (rt0, if (performM ms r).2 = 3 then 3 else 2)
/-- a route's value, with lists of its own -/
def RtVal (w : World) (n0 : Nat) (r : Rt) (pv mv : Value) : Prop :=
  w.ownsRow 0 3 1 pv r.path.length (intCells r.path) ∧ w.ownsRow 0 3 1 mv r.marks.length (intCells r.marks) ∧ (∀ k, pv.ownBlock = some k → n0 ≤ k) ∧ (∀ k, mv.ownBlock = some k → n0 ≤ k) ∧ (pv.ownBlock = none ∨ pv.ownBlock ≠ mv.ownBlock)
theorem RtVal.zero (w : World) (n0 : Nat) : RtVal w n0 rt0 (.slice none 0 0) (.slice none 0 0) :=
  ⟨World.ownsRow_nil _ _ _ _, World.ownsRow_nil _ _ _ _, fun k e => by simp [Value.ownBlock] at e, fun k e => by simp [Value.ownBlock] at e, Or.inl rfl⟩
theorem set6_other {X : World} {b k : Nat} {v0 v1 v2 v3 v4 v5 : Value} (hk : k ≠ b) : ((((((X.setCell ⟨b, 0, none⟩ v0).setCell ⟨b, 1, none⟩ v1).setCell ⟨b, 2, none⟩ v2).setCell ⟨b, 3, none⟩ v3).setCell ⟨b, 4, none⟩ v4).setCell ⟨b, 5, none⟩ v5).heap[k]? = X.heap[k]? := by
  rw [heap_set_other hk, heap_set_other hk, heap_set_other hk, heap_set_other hk, heap_set_other hk, heap_set_other hk]
theorem set6_same {X : World} {b : Nat} {c0 c1 c2 c3 c4 c5 v0 v1 v2 v3 v4 v5 : Value} {T : TypeId} (h : X.heap[b]? = some (.cells #[c0, c1, c2, c3, c4, c5] T (0, 0))) : ((((((X.setCell ⟨b, 0, none⟩ v0).setCell ⟨b, 1, none⟩ v1).setCell ⟨b, 2, none⟩ v2).setCell ⟨b, 3, none⟩ v3).setCell ⟨b, 4, none⟩ v4).setCell ⟨b, 5, none⟩ v5).heap[b]? = some (.cells #[v0, v1, v2, v3, v4, v5] T (0, 0)) := by
  rw [heap_set (heap_set (heap_set (heap_set (heap_set (heap_set h)))))]; rfl
theorem set6_below {w X : World} {n b : Nat} {v0 v1 v2 v3 v4 v5 : Value} (h : Below n w X) (hb : n ≤ b) : Below n w ((((((X.setCell ⟨b, 0, none⟩ v0).setCell ⟨b, 1, none⟩ v1).setCell ⟨b, 2, none⟩ v2).setCell ⟨b, 3, none⟩ v3).setCell ⟨b, 4, none⟩ v4).setCell ⟨b, 5, none⟩ v5) :=
  Below.setCell (p := ⟨b, 5, none⟩) (Below.setCell (p := ⟨b, 4, none⟩) (Below.setCell (p := ⟨b, 3, none⟩) (Below.setCell (p := ⟨b, 2, none⟩) (Below.setCell (p := ⟨b, 1, none⟩) (Below.setCell (p := ⟨b, 0, none⟩) h hb _) hb _) hb _) hb _) hb _) hb _
theorem set6_size {X : World} {b : Nat} {v0 v1 v2 v3 v4 v5 : Value} : ((((((X.setCell ⟨b, 0, none⟩ v0).setCell ⟨b, 1, none⟩ v1).setCell ⟨b, 2, none⟩ v2).setCell ⟨b, 3, none⟩ v3).setCell ⟨b, 4, none⟩ v4).setCell ⟨b, 5, none⟩ v5).heap.size = X.heap.size := by simp [World.setCell]

theorem rtAt_of {w1 W2 : World} {b n : Nat} {r : Rt} {pv mv : Value} (h1 : w1.ownsRow n 3 1 pv r.path.length (intCells r.path)) (h2 : w1.ownsRow n 3 1 mv r.marks.length (intCells r.marks)) (hne : pv.ownBlock = none ∨ pv.ownBlock ≠ mv.ownBlock) (hb : W2.heap[b]? = some (rtBlk r pv mv)) (ho : ∀ k, n ≤ k → W2.heap[k]? = w1.heap[k]?) (hbn : b < n) (n1 : r.path.length ≤ 12) (n2 : r.marks.length ≤ 8) (hso : r.marks.Pairwise (· < ·)) : RtAt W2 b r pv mv := by
  have k1 := owns_base h1 (Nat.zero_le n)
  have k2 := owns_base h2 (Nat.zero_le n)
  exact ⟨hb, owns_of k1 (fun k e => ho k (h1.lt k e).1), owns_of k2 (fun k e => ho k (h2.lt k e).1), fun e => by have := (h1.lt b e).1; omega, fun e => by have := (h2.lt b e).1; omega, hne, n1, n2, hso⟩
theorem run_below {w W0 w1 W2 : World} {v0 v1 v2 v3 v4 v5 : Value} (h0 : Below w.heap.size w W0) (h1 : Below W0.heap.size W0 w1) (hW : (((((w1.setCell ⟨w.heap.size + 1, 0, none⟩ v0).setCell ⟨w.heap.size + 1, 1, none⟩ v1).setCell ⟨w.heap.size + 1, 2, none⟩ v2).setCell ⟨w.heap.size + 1, 3, none⟩ v3).setCell ⟨w.heap.size + 1, 4, none⟩ v4).setCell ⟨w.heap.size + 1, 5, none⟩ v5 = W2) : Below w.heap.size w W2 := by
  rw [← hW]; exact set6_below (h0.trans (h1.mono h0.size)) (Nat.le_succ _)
theorem run_new {w1 : World} {b n : Nat} {T : TypeId} {pv mv : Value} {a c : Nat} {xs ys : List Value} (h1 : w1.ownsRow n T 1 pv a xs) (h2 : w1.ownsRow n T 1 mv c ys) : ∀ k, RtOwn b pv mv k → k = b ∨ n ≤ k := by
  intro k h
  rcases h with h | h | h
  · exact Or.inl h
  · exact Or.inr (h1.lt k h).1
  · exact Or.inr (h2.lt k h).1
theorem fin_below {w W2 w3 : World} {O O' : Nat → Prop} (h : Below w.heap.size w W2) (hf : Fr O W2 O' w3) (hO : ∀ k, k < w.heap.size → ¬ O k) : Below w.heap.size w w3 :=
  ⟨hf.os.trans h.os, hf.tape.trans h.tape, hf.output.trans h.output, Nat.le_trans h.size hf.size, fun k hk => (hf.block k (Nat.lt_of_lt_of_le hk h.size) (hO k hk)).trans (h.block k hk)⟩
theorem fin_new {W2 w3 : World} {b n : Nat} {O O' : Nat → Prop} (hO : ∀ k, O k → k = b ∨ n ≤ k) (hf : Fr O W2 O' w3) : ∀ k, O' k → k = b ∨ n ≤ k ∨ W2.heap.size ≤ k := by
  intro k h
  rcases hf.own k h with h1 | h1
  · rcases hO k h1 with h2 | h2
    · exact Or.inl h2
    · exact Or.inr (Or.inl h2)
  · exact Or.inr (Or.inr h1)
set_option maxRecDepth 100000 in
set_option maxHeartbeats 4000000 in
theorem prun_any (w0 : World) (K : Nat → Prop) (p : ByteArray) (sv : Value) (ms : List StpM) (hK : ∀ k, K k → k < w0.heap.size) (HS : ∀ V, w0.heap.size ≤ V.heap.size → (∀ k, K k → V.heap[k]? = w0.heap[k]?) → StepsC sv ms K V)
    (w : World) (hw : w0.heap.size ≤ w.heap.size) (hag : ∀ k, K k → w.heap[k]? = w0.heap[k]?) (r : Rt) (pv mv : Value) (hp : IntsAt w pv r.path) (hm : IntsAt w mv r.marks) (n1 : r.path.length ≤ 12) (n2 : r.marks.length ≤ 8) (hso : r.marks.Pairwise (· < ·)) :
    Calls Tryz.prog 94 #[.agg #[.string p, sv], rtV r pv mv] w fun e w' => ∃ pv' mv', e = .returned (.tuple #[rtV (runM ms r).1 pv' mv', .int .i64 (runM ms r).2]) ∧ RtVal w' w.heap.size (runM ms r).1 pv' mv' ∧ Below w.heap.size w w' := by
  have HSO := hide hso
  clear hso
  have hsf : ∃ a n c, sv = .slice a n c := by
    obtain ⟨_, vs, _, h2, _⟩ := HS w hw hag
    rcases h2 with ⟨_, h2⟩ | ⟨S, cap, h2, _⟩
    · exact ⟨_, _, _, h2⟩
    · exact ⟨_, _, _, h2⟩
  obtain ⟨sa, sn, sc, rfl⟩ := hsf
  obtain ⟨a1, b1, c1, hpv⟩ := reads_form (ints_reads hp)
  obtain ⟨a2, b2, c2, hmv⟩ := reads_form (ints_reads hm)
  obtain ⟨q1, q2, q3, qs⟩ := three_new w (.cells #[.string p, .slice sa sn sc] 109) (rtBlk r pv mv) (rtBlk rt0 (.slice none 0 0) (.slice none 0 0))
  obtain ⟨W0, hW0⟩ : ∃ W0, ((w.alloc (.cells #[.string p, .slice sa sn sc] 109)).alloc (rtBlk r pv mv)).alloc (rtBlk rt0 (.slice none 0 0) (.slice none 0 0)) = W0 := ⟨_, rfl⟩
  have hb0 : Below w.heap.size w W0 := by rw [← hW0]; exact (((Below.refl _ _).alloc (Nat.le_refl _) _).alloc (by rw [World.size_alloc]; omega) _).alloc (by rw [World.size_alloc, World.size_alloc]; omega) _
  rw [hW0] at q1 q2 q3 qs
  have HC := hide (copy_any r pv mv W0 (hp.below hb0) (hm.below hb0) n1 n2)
  obtain ⟨c0, c1', c2', c3, c4, c5, cz⟩ := rt6 q2
  have HQ1 := hide q1
  have HQ2 := hide q2
  have HQ3 := hide q3
  have HB0 := hide hb0
  have HHS := hide HS
  have HHK := hide hK
  have HAG := hide hag
  clear hp hm hb0 q1 q2 q3 HS hK hag
  subst hpv hmv
  have hW0' := hW0
  unfold rtBlk rt0 at hW0'
  have HRM := hide (show runM ms r = if (performM ms r).2 = 1 then ((performM ms r).1, 1) else (rt0, if (performM ms r).2 = 3 then 3 else 2) from rfl)
  by_cases v1 : (performM ms r).2 = 1
  ·
    go_enter Tryz.func94, Tryz.ntmps94
    go_wp2_with fail
    refine (unhide HC).mono ?_
    rintro e w1 ⟨pv1, mv1, rfl, ho1, ho2, hne, hb1⟩
    obtain ⟨x1, x2, hx⟩ := owns_form' ho1
    obtain ⟨y1, y2, hy⟩ := owns_form' ho2
    have p1 := (hb1.block (w.heap.size + 1) (by omega)).trans (unhide HQ2)
    have p0 := (hb1.block w.heap.size (by omega)).trans (unhide HQ1)
    have p2 := (hb1.block (w.heap.size + 1 + 1) (by omega)).trans (unhide HQ3)
    obtain ⟨s0, s1, s2, s3, s4, s5, hz⟩ := rt6 p1
    obtain ⟨W2, hW2⟩ : ∃ W2, (((((w1.setCell ⟨w.heap.size + 1, 0, none⟩ (.int .i64 r.addr)).setCell ⟨w.heap.size + 1, 1, none⟩ (.int .i64 r.len)).setCell ⟨w.heap.size + 1, 2, none⟩ pv1).setCell ⟨w.heap.size + 1, 3, none⟩ mv1).setCell ⟨w.heap.size + 1, 4, none⟩ (.int .i64 r.pref)).setCell ⟨w.heap.size + 1, 5, none⟩ (.int .i64 r.med) = W2 := ⟨_, rfl⟩
    have hsW2 : W2.heap.size = w1.heap.size := (by rw [← hW2]; exact set6_size)
    have o2 : ∀ k, k ≠ w.heap.size + 1 → W2.heap[k]? = w1.heap[k]? := (fun k hk => by rw [← hW2]; exact set6_other hk)
    have e1 : W2.heap[w.heap.size + 1]? = some (rtBlk r pv1 mv1) := (by rw [← hW2]; exact set6_same p1)
    have d1 : W2.cell? ⟨w.heap.size, 1, none⟩ = some (.slice sa sn sc) := cell_of_heap ((o2 _ (by omega)).trans p0)
    have HRT := hide (rtAt_of ho1 ho2 hne e1 (fun k hk => o2 k (by omega)) (by omega) n1 n2 (unhide HSO))
    have HR2 := hide ((o2 _ (by omega)).trans p2)
    have HB2 := hide (run_below (unhide HB0) hb1 hW2)
    have HNE := hide (run_new (b := w.heap.size + 1) ho1 ho2)
    have hsz2 := hb1.size
    clear p0 p1 p2 o2 e1 ho1 ho2 hne hb1
    subst hx hy
    go_wp2_with fail
    have HPF := hide (perform_run w0 K (.slice sa sn sc) ms (unhide HHK) (unhide HHS) W2 (by omega) (fun k hk => ((unhide HB2).block k (by have := (unhide HHK) k hk; omega)).trans ((unhide HAG) k hk)) (w.heap.size + 1) r _ _ (unhide HRT) (fun k ho hk => by have h1 := (unhide HNE) k ho; have h2 := (unhide HHK) k hk; omega))
    clear hW2 s0 s1 s2 s3 s4 s5 hz
    have HPF2 : Hid (Calls Tryz.prog 149 #[.slice sa sn sc, ptr4 (w.heap.size + 1) 0] W2 fun e W3 => e = .returned (.int .i64 1) ∧ ∃ pv3 mv3, RtAt W3 (w.heap.size + 1) (performM ms r).1 pv3 mv3 ∧ Fr (RtOwn (w.heap.size + 1) (.slice x1 r.path.length x2) (.slice y1 r.marks.length y2)) W2 (RtOwn (w.heap.size + 1) pv3 mv3) W3) := by
      have h := unhide HPF
      unfold StpRes at h
      rw [v1] at h
      exact h
    refine (unhide HPF2).mono ?_
    rintro e w3 ⟨rfl, pv3, mv3, hr3, hf3⟩
    have g3 := fr_keeps hf3 (unhide HR2) (fun ho => by rcases (unhide HNE) _ ho with h | h <;> omega)
    obtain ⟨z0, z1, z2, z3, z4, z5, zz⟩ := rt6 g3.1
    have HR3 := hide hr3
    have HF3 := hide hf3
    have HB3 := hide (fin_below (unhide HB2) hf3 (fun k hk ho => by rcases (unhide HNE) _ ho with h | h <;> omega))
    clear hr3 hf3 g3 HPF HPF2
    obtain ⟨t0, t1, t2, t3, t4, t5, tz⟩ := rt6 (unhide HR3).blk
    obtain ⟨f1, f2, hf1⟩ := owns_form' (unhide HR3).path
    obtain ⟨f3, f4, hf3'⟩ := owns_form' (unhide HR3).marks
    have HRR := hide (unhide HR3)
    have HNW := hide (fin_new (unhide HNE) (unhide HF3))
    clear HR3
    subst hf1 hf3'
    go_wp2_with fail
    refine bodyPost_ret (v := .tuple #[rtV (performM ms r).1 (.slice f1 (performM ms r).1.path.length f2) (.slice f3 (performM ms r).1.marks.length f4), .int .i64 1]) (by simp [results, Tryz.results94, go_sem, z0, z1, z2, z3, z4, z5]) rfl ?_
    rw [unhide HRM, if_pos v1]
    refine ⟨_, _, rfl, ⟨owns_of (unhide HRR).path (fun k e => set6_other (fun e2 => ?_)), owns_of (unhide HRR).marks (fun k e => set6_other (fun e2 => ?_)), fun k e => ?_, fun k e => ?_, (unhide HRR).ne3⟩, set6_below (unhide HB3) (by omega)⟩
    · have := (unhide HNW) k (Or.inr (Or.inl e)); omega
    · have := (unhide HNW) k (Or.inr (Or.inr e)); omega
    · have := (unhide HNW) k (Or.inr (Or.inl e)); omega
    · have := (unhide HNW) k (Or.inr (Or.inr e)); omega
  · by_cases v3 : (performM ms r).2 = 3
    ·
      go_enter Tryz.func94, Tryz.ntmps94
      go_wp2_with fail
      refine (unhide HC).mono ?_
      rintro e w1 ⟨pv1, mv1, rfl, ho1, ho2, hne, hb1⟩
      obtain ⟨x1, x2, hx⟩ := owns_form' ho1
      obtain ⟨y1, y2, hy⟩ := owns_form' ho2
      have p1 := (hb1.block (w.heap.size + 1) (by omega)).trans (unhide HQ2)
      have p0 := (hb1.block w.heap.size (by omega)).trans (unhide HQ1)
      have p2 := (hb1.block (w.heap.size + 1 + 1) (by omega)).trans (unhide HQ3)
      obtain ⟨s0, s1, s2, s3, s4, s5, hz⟩ := rt6 p1
      obtain ⟨W2, hW2⟩ : ∃ W2, (((((w1.setCell ⟨w.heap.size + 1, 0, none⟩ (.int .i64 r.addr)).setCell ⟨w.heap.size + 1, 1, none⟩ (.int .i64 r.len)).setCell ⟨w.heap.size + 1, 2, none⟩ pv1).setCell ⟨w.heap.size + 1, 3, none⟩ mv1).setCell ⟨w.heap.size + 1, 4, none⟩ (.int .i64 r.pref)).setCell ⟨w.heap.size + 1, 5, none⟩ (.int .i64 r.med) = W2 := ⟨_, rfl⟩
      have hsW2 : W2.heap.size = w1.heap.size := (by rw [← hW2]; exact set6_size)
      have o2 : ∀ k, k ≠ w.heap.size + 1 → W2.heap[k]? = w1.heap[k]? := (fun k hk => by rw [← hW2]; exact set6_other hk)
      have e1 : W2.heap[w.heap.size + 1]? = some (rtBlk r pv1 mv1) := (by rw [← hW2]; exact set6_same p1)
      have d1 : W2.cell? ⟨w.heap.size, 1, none⟩ = some (.slice sa sn sc) := cell_of_heap ((o2 _ (by omega)).trans p0)
      have HRT := hide (rtAt_of ho1 ho2 hne e1 (fun k hk => o2 k (by omega)) (by omega) n1 n2 (unhide HSO))
      have HR2 := hide ((o2 _ (by omega)).trans p2)
      have HB2 := hide (run_below (unhide HB0) hb1 hW2)
      have HNE := hide (run_new (b := w.heap.size + 1) ho1 ho2)
      have hsz2 := hb1.size
      clear p0 p1 p2 o2 e1 ho1 ho2 hne hb1
      subst hx hy
      go_wp2_with fail
      have HPF := hide (perform_run w0 K (.slice sa sn sc) ms (unhide HHK) (unhide HHS) W2 (by omega) (fun k hk => ((unhide HB2).block k (by have := (unhide HHK) k hk; omega)).trans ((unhide HAG) k hk)) (w.heap.size + 1) r _ _ (unhide HRT) (fun k ho hk => by have h1 := (unhide HNE) k ho; have h2 := (unhide HHK) k hk; omega))
      clear hW2 s0 s1 s2 s3 s4 s5 hz
      have HPF2 : Hid (Calls Tryz.prog 149 #[.slice sa sn sc, ptr4 (w.heap.size + 1) 0] W2 fun e W3 => e = .returned (.int .i64 3) ∧ ∃ pv3 mv3, RtAt W3 (w.heap.size + 1) (performM ms r).1 pv3 mv3 ∧ Fr (RtOwn (w.heap.size + 1) (.slice x1 r.path.length x2) (.slice y1 r.marks.length y2)) W2 (RtOwn (w.heap.size + 1) pv3 mv3) W3) := by
        have h := unhide HPF
        unfold StpRes at h
        rw [v3] at h
        exact h
      refine (unhide HPF2).mono ?_
      rintro e w3 ⟨rfl, pv3, mv3, hr3, hf3⟩
      have g3 := fr_keeps hf3 (unhide HR2) (fun ho => by rcases (unhide HNE) _ ho with h | h <;> omega)
      obtain ⟨z0, z1, z2, z3, z4, z5, zz⟩ := rt6 g3.1
      have HR3 := hide hr3
      have HF3 := hide hf3
      have HB3 := hide (fin_below (unhide HB2) hf3 (fun k hk ho => by rcases (unhide HNE) _ ho with h | h <;> omega))
      clear hr3 hf3 g3 HPF HPF2
      go_wp2_with fail
      refine bodyPost_ret (v := .tuple #[rtV rt0 (.slice none 0 0) (.slice none 0 0), .int .i64 3]) (by simp [results, Tryz.results94, go_sem, z0, z1, z2, z3, z4, z5, rt0]) rfl ?_
      rw [unhide HRM, if_neg v1, if_pos v3]
      exact ⟨_, _, rfl, RtVal.zero _ _, set6_below (unhide HB3) (by omega)⟩
    · have hb1 : ((performM ms r).2 == 1) = false := by simpa using v1
      have hb3 : ((performM ms r).2 == 3) = false := by simpa using v3
      go_enter Tryz.func94, Tryz.ntmps94
      go_wp2_with fail
      refine (unhide HC).mono ?_
      rintro e w1 ⟨pv1, mv1, rfl, ho1, ho2, hne, hb1⟩
      obtain ⟨x1, x2, hx⟩ := owns_form' ho1
      obtain ⟨y1, y2, hy⟩ := owns_form' ho2
      have p1 := (hb1.block (w.heap.size + 1) (by omega)).trans (unhide HQ2)
      have p0 := (hb1.block w.heap.size (by omega)).trans (unhide HQ1)
      have p2 := (hb1.block (w.heap.size + 1 + 1) (by omega)).trans (unhide HQ3)
      obtain ⟨s0, s1, s2, s3, s4, s5, hz⟩ := rt6 p1
      obtain ⟨W2, hW2⟩ : ∃ W2, (((((w1.setCell ⟨w.heap.size + 1, 0, none⟩ (.int .i64 r.addr)).setCell ⟨w.heap.size + 1, 1, none⟩ (.int .i64 r.len)).setCell ⟨w.heap.size + 1, 2, none⟩ pv1).setCell ⟨w.heap.size + 1, 3, none⟩ mv1).setCell ⟨w.heap.size + 1, 4, none⟩ (.int .i64 r.pref)).setCell ⟨w.heap.size + 1, 5, none⟩ (.int .i64 r.med) = W2 := ⟨_, rfl⟩
      have hsW2 : W2.heap.size = w1.heap.size := (by rw [← hW2]; exact set6_size)
      have o2 : ∀ k, k ≠ w.heap.size + 1 → W2.heap[k]? = w1.heap[k]? := (fun k hk => by rw [← hW2]; exact set6_other hk)
      have e1 : W2.heap[w.heap.size + 1]? = some (rtBlk r pv1 mv1) := (by rw [← hW2]; exact set6_same p1)
      have d1 : W2.cell? ⟨w.heap.size, 1, none⟩ = some (.slice sa sn sc) := cell_of_heap ((o2 _ (by omega)).trans p0)
      have HRT := hide (rtAt_of ho1 ho2 hne e1 (fun k hk => o2 k (by omega)) (by omega) n1 n2 (unhide HSO))
      have HR2 := hide ((o2 _ (by omega)).trans p2)
      have HB2 := hide (run_below (unhide HB0) hb1 hW2)
      have HNE := hide (run_new (b := w.heap.size + 1) ho1 ho2)
      have hsz2 := hb1.size
      clear p0 p1 p2 o2 e1 ho1 ho2 hne hb1
      subst hx hy
      go_wp2_with fail
      have HPF := hide (perform_run w0 K (.slice sa sn sc) ms (unhide HHK) (unhide HHS) W2 (by omega) (fun k hk => ((unhide HB2).block k (by have := (unhide HHK) k hk; omega)).trans ((unhide HAG) k hk)) (w.heap.size + 1) r _ _ (unhide HRT) (fun k ho hk => by have h1 := (unhide HNE) k ho; have h2 := (unhide HHK) k hk; omega))
      clear hW2 s0 s1 s2 s3 s4 s5 hz
      have HPF2 : Hid (Calls Tryz.prog 149 #[.slice sa sn sc, ptr4 (w.heap.size + 1) 0] W2 fun e W3 => e = .returned (.int .i64 (performM ms r).2) ∧ ∃ pv3 mv3, RtAt W3 (w.heap.size + 1) (performM ms r).1 pv3 mv3 ∧ Fr (RtOwn (w.heap.size + 1) (.slice x1 r.path.length x2) (.slice y1 r.marks.length y2)) W2 (RtOwn (w.heap.size + 1) pv3 mv3) W3) := by
        have h := unhide HPF
        unfold StpRes at h
        exact h
      refine (unhide HPF2).mono ?_
      rintro e w3 ⟨rfl, pv3, mv3, hr3, hf3⟩
      have g3 := fr_keeps hf3 (unhide HR2) (fun ho => by rcases (unhide HNE) _ ho with h | h <;> omega)
      obtain ⟨z0, z1, z2, z3, z4, z5, zz⟩ := rt6 g3.1
      have HR3 := hide hr3
      have HF3 := hide hf3
      have HB3 := hide (fin_below (unhide HB2) hf3 (fun k hk ho => by rcases (unhide HNE) _ ho with h | h <;> omega))
      clear hr3 hf3 g3 HPF HPF2
      go_wp2_with fail
      refine bodyPost_ret (v := .tuple #[rtV rt0 (.slice none 0 0) (.slice none 0 0), .int .i64 2]) (by simp [results, Tryz.results94, go_sem, z0, z1, z2, z3, z4, z5, rt0]) rfl ?_
      rw [unhide HRM, if_neg v1, if_neg v3]
      exact ⟨_, _, rfl, RtVal.zero _ _, set6_below (unhide HB3) (by omega)⟩
end Go.Proofs.YtgdeeodifnegiaaGreatDoor

namespace Go.Proofs.YtgdeeodifnegiaaGreatDoor
open Go.RowKit

def rtOk (r : Rt) : Bool := routeOkB (r.addr, r.len) r.path r.marks r.pref r.med
theorem rises_pw : ∀ {l : List Int} {n : Int}, rises n l → l.Pairwise (· < ·) ∧ ∀ x ∈ l, n ≤ x
  | [], _, _ => ⟨List.Pairwise.nil, fun x hx => by cases hx⟩
  | y :: l, n, h => by
    obtain ⟨h1, _, h3⟩ := rises_cons.1 h
    obtain ⟨i1, i2⟩ := rises_pw h3
    refine ⟨List.pairwise_cons.2 ⟨fun x hx => by have := i2 x hx; omega, i1⟩, fun x hx => ?_⟩
    rcases List.mem_cons.1 hx with rfl | hx
    · exact h1
    · have := i2 x hx; omega
theorem rtOk_sorted {r : Rt} (h : rtOk r = true) : r.marks.Pairwise (· < ·) := by
  have h1 : routeOk (r.addr, r.len) r.path r.marks r.pref r.med := of_decide_eq_true h
  exact (rises_pw h1.2.2.1.2).1
set_option maxRecDepth 100000 in
set_option maxHeartbeats 4000000 in
theorem brun_any (w0 : World) (K : Nat → Prop) (pp : Nat) (ms : List StpM) (hK : ∀ k, K k → k < w0.heap.size) (HS : ∀ V, w0.heap.size ≤ V.heap.size → (∀ k, K k → V.heap[k]? = w0.heap[k]?) → PolC pp ms K V)
    (w : World) (hw : w0.heap.size ≤ w.heap.size) (hag : ∀ k, K k → w.heap[k]? = w0.heap[k]?) (r : Rt) (pv mv : Value) (hp : IntsAt w pv r.path) (hm : IntsAt w mv r.marks) (i1 : inI r.addr) (i2 : inI r.len) (n1 : r.path.length ≤ 12) (n2 : r.marks.length ≤ 8) (hok : rtOk r = true) :
    Calls Tryz.prog 44 #[ptr4 pp 0, rtV r pv mv] w fun e w' => ∃ pv' mv', e = .returned (.tuple #[rtV (runM ms r).1 pv' mv', .int .i64 (runM ms r).2, .int .i64 0]) ∧ RtVal w' w.heap.size (runM ms r).1 pv' mv' ∧ Below w.heap.size w w' := by
  obtain ⟨kp, p, sv, hpb, hst⟩ := HS w hw hag
  obtain ⟨sa, sn, sc, hsv⟩ : ∃ a n c, sv = .slice a n c := by
    obtain ⟨_, vs, _, h2, _⟩ := hst
    rcases h2 with ⟨_, h2⟩ | ⟨S, cap, h2, _⟩
    · exact ⟨_, _, _, h2⟩
    · exact ⟨_, _, _, h2⟩
  have hst2 : ∀ V, w0.heap.size ≤ V.heap.size → (∀ k, K k → V.heap[k]? = w0.heap[k]?) → StepsC sv ms K V := fun V hV hk => by
    obtain ⟨_, p2, sv2, hb2, hs2⟩ := HS V hV hk
    have e := hb2.symm.trans ((hk pp kp).trans ((hag pp kp).symm.trans hpb))
    simp only [Option.some.injEq, Obj.cells.injEq, and_true] at e
    have e2 : sv2 = sv := by have := congrArg (fun a => a[1]?) e; simpa using this
    rw [← e2]; exact hs2
  obtain ⟨a1, b1, c1, hpv⟩ := reads_form (ints_reads hp)
  obtain ⟨a2, b2, c2, hmv⟩ := reads_form (ints_reads hm)
  obtain ⟨q1, q2, qs⟩ := two_new w (rtBlk r pv mv) (rtBlk rt0 (.slice none 0 0) (.slice none 0 0))
  obtain ⟨W0, hW0⟩ : ∃ W0, (w.alloc (rtBlk r pv mv)).alloc (rtBlk rt0 (.slice none 0 0) (.slice none 0 0)) = W0 := ⟨_, rfl⟩
  have hb0 : Below w.heap.size w W0 := by rw [← hW0]; exact ((Below.refl _ _).alloc (Nat.le_refl _) _).alloc (by rw [World.size_alloc]; omega) _
  rw [hW0] at q1 q2 qs
  have HV := hide (RValid_any (r.addr, r.len) r.path r.marks r.pref r.med pv mv W0 i1 i2 (hp.below hb0) (hm.below hb0))
  rw [show routeOkB (r.addr, r.len) r.path r.marks r.pref r.med = true from hok] at HV
  obtain ⟨c0, c1', c2', c3, c4, c5, cz⟩ := rt6 q1
  have HQ1 := hide q1
  have HQ2 := hide q2
  have HB0 := hide hb0
  have HHS := hide hst2
  have HHK := hide hK
  have HAG := hide hag
  have HP := hide hp
  have HM := hide hm
  have HPB := hide hpb
  have lpp : pp < w.heap.size := heap_lt hpb
  clear hp hm hb0 q1 q2 HS hK hag hst hst2 hpb
  subst hpv hmv hsv
  have hW0' := hW0
  unfold rtBlk rt0 at hW0'
  go_enter Tryz.func44, Tryz.ntmps44
  go_wp2_with fail
  refine (unhide HV).mono ?_
  rintro e w1 ⟨rfl, hb1⟩
  have p1 := (hb1.block w.heap.size (by omega)).trans (unhide HQ1)
  have p2 := (hb1.block (w.heap.size + 1) (by omega)).trans (unhide HQ2)
  have p3 := (hb1.block pp (by omega)).trans (((unhide HB0).block pp lpp).trans (unhide HPB))
  obtain ⟨s0, s1, s2, s3, s4, s5, hz⟩ := rt6 p1
  obtain ⟨z0, z1, z2, z3, z4, z5, zz⟩ := rt6 p2
  have u0 : w1.cell? ⟨pp, 0, none⟩ = some (.string p) := cell_of_heap p3
  have u1 : w1.cell? ⟨pp, 1, none⟩ = some (.slice sa sn sc) := cell_of_heap p3
  have hBw1 := (unhide HB0).trans (hb1.mono (unhide HB0).size)
  have HBw1 := hide hBw1
  have HP2 := hide p2
  have hs1 := hb1.size
  have HPR := hide (fun (W : World) (hW : Below w1.heap.size w1 W) => prun_any w0 K p (.slice sa sn sc) ms (unhide HHK) (unhide HHS) W (by have := hW.size; omega) (fun k hk => (hW.block k (by have := (unhide HHK) k hk; omega)).trans ((hBw1.block k (by have := (unhide HHK) k hk; omega)).trans ((unhide HAG) k hk))) r _ _ (((unhide HP).below hBw1).below hW) (((unhide HM).below hBw1).below hW) n1 n2 (rtOk_sorted hok))
  have lw : w.heap.size < w1.heap.size := by omega
  have lpw : pp < w1.heap.size := by omega
  have hal := (bcell' ((Below.refl w1.heap.size w1).alloc (Nat.le_refl _) (.cells #[.int .i64 0, .int .i64 0, .slice none 0 0, .slice none 0 0, .int .i64 0, .int .i64 0] 28))).1
  have s0' := (hal w.heap.size 0 lw).trans s0
  have s1' := (hal w.heap.size 1 lw).trans s1
  have s2' := (hal w.heap.size 2 lw).trans s2
  have s3' := (hal w.heap.size 3 lw).trans s3
  have s4' := (hal w.heap.size 4 lw).trans s4
  have s5' := (hal w.heap.size 5 lw).trans s5
  have u0' := (hal pp 0 lpw).trans u0
  have u1' := (hal pp 1 lpw).trans u1
  clear hal
  clear hb1 p1 p2 p3 hBw1 c0 c1' c2' c3 c4 c5 cz
  go_wp2_with fail
  go_region_with (go_at_call 94; refine ((unhide HPR) _ (by first | exact (Below.refl _ _).drew | exact ((Below.refl _ _).alloc (Nat.le_refl _) _).drew | exact (Below.refl _ _).drew.alloc (Nat.le_refl _) _)).mono ?_; rintro e w2 ⟨pv2, mv2, rfl, hrv, hb2⟩; obtain ⟨f1, f2, hf1⟩ := owns_form' hrv.1; obtain ⟨f3, f4, hf3⟩ := owns_form' hrv.2.1; (try (have zb : w2.heap[w1.heap.size]? = some (rtBlk rt0 (.slice none 0 0) (.slice none 0 0)) := (hb2.block w1.heap.size (by simp)).trans (heap_alloc_new w1 _); obtain ⟨y0, y1, y2, y3, y4, y5, yz⟩ := rt6 zb; have ZB := hide zb; clear zb)); have hbx : Below w1.heap.size w1 w2 := (by first | exact ((Below.refl _ _).drew).trans (hb2.mono (Nat.le_refl _)) | exact (((Below.refl _ _).alloc (Nat.le_refl _) _).drew).trans (hb2.mono (by simp))); have HBX := hide hbx; have HRV := hide hrv; clear hrv hb2 hbx; subst hf1 hf3)
  all_goals
    obtain ⟨g0, g1, g2, g3, g4, g5, gz⟩ := rt6 (((unhide HBX).block (w.heap.size + 1) (by omega)).trans (unhide HP2))
    have lx : w.heap.size + 1 < w2.heap.size := by have h := (unhide HBX).size; omega
    have lx1 : w1.heap.size ≤ w2.heap.size := (unhide HBX).size
    first | (have zb2 : Hid (w2.heap[w1.heap.size]? = some (rtBlk rt0 (.slice none 0 0) (.slice none 0 0))) := by assumption; have zb3 := rt6 (unhide zb2); obtain ⟨y0, y1, y2, y3, y4, y5, yz⟩ := zb3) | skip
    go_wp2_with fail
    refine bodyPost_ret (v := .tuple #[rtV (runM ms r).1 (.slice f1 (runM ms r).1.path.length f2) (.slice f3 (runM ms r).1.marks.length f4), .int .i64 (runM ms r).2, .int .i64 0]) (by simp [results, Tryz.results44, go_sem, g0, g1, g2, g3, g4, g5, lx]) rfl ?_
    have hv := unhide HRV
    have hbw := (unhide HBw1).trans ((unhide HBX).mono (unhide HBw1).size)
    have hk1 : ∀ k, (Value.slice f1 (runM ms r).1.path.length f2).ownBlock = some k → w1.heap.size ≤ k := fun k e => by have h := hv.2.2.1 k e; simp at h; omega
    have hk2 : ∀ k, (Value.slice f3 (runM ms r).1.marks.length f4).ownBlock = some k → w1.heap.size ≤ k := fun k e => by have h := hv.2.2.2.1 k e; simp at h; omega
    refine ⟨_, _, rfl, ⟨?_, ?_, fun k e => by have h := hk1 k e; omega, fun k e => by have h := hk2 k e; omega, hv.2.2.2.2⟩, ?_⟩
    · refine owns_of hv.1 (fun k e => ?_)
      have h := hk1 k e
      have h2 := hv.2.2.1 k e
      first
        | (rw [set6_other (by omega), set6_other (by simp at h2; omega)])
        | (rw [Below.heap_alloc _ _ _ (by rw [set6_size]; exact (hv.1.lt k e).2), set6_other (by omega)])
    · refine owns_of hv.2.1 (fun k e => ?_)
      have h := hk2 k e
      have h2 := hv.2.2.2.1 k e
      first
        | (rw [set6_other (by omega), set6_other (by simp at h2; omega)])
        | (rw [Below.heap_alloc _ _ _ (by rw [set6_size]; exact (hv.2.1.lt k e).2), set6_other (by omega)])
    · first
        | with_reducible exact set6_below (set6_below hbw (by omega)) (by omega)
        | (with_reducible refine Below.alloc (set6_below hbw (by omega)) ?_ _); (rw [set6_size]; omega)
end Go.Proofs.YtgdeeodifnegiaaGreatDoor
