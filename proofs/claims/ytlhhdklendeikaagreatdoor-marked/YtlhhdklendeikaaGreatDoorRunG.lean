/- A route copied (package routes). -/
import Derived.Test.YtlhhdklendeikaaGreatDoorRunF
import Derived.Test.YtlhhdklendeikaaGreatDoorMem
namespace Go.Proofs.YtlhhdklendeikaaGreatDoor
open Go.RowKit

abbrev rtV (r : Rt) (pv mv : Value) : Value := .agg #[.int .i64 r.addr, .int .i64 r.len, pv, mv, .int .i64 r.pref, .int .i64 r.med]
abbrev rtBlk (r : Rt) (pv mv : Value) : Obj := .cells #[.int .i64 r.addr, .int .i64 r.len, pv, mv, .int .i64 r.pref, .int .i64 r.med] 32
theorem reads_form {w : World} {x : Value} {m : Nat} {news : List Value} (h : ReadsAs w x m news) : ∃ a n c, x = .slice a n c := by
  rcases h with ⟨h, _⟩ | ⟨ad, c, h, _⟩
  · exact ⟨_, _, _, h⟩
  · exact ⟨_, _, _, h⟩
theorem ints_reads {w : World} {v : Value} {l : List Int} (h : IntsAt w v l) : ReadsAs w v l.length (intCells l) := by
  obtain ⟨p, c, rfl, hcap, hl, hin, hr⟩ := h
  rcases hr with ⟨rfl, h0⟩ | ⟨b, o, rfl, hb, hc⟩
  · cases p with
    | none => exact Or.inl ⟨by rw [h0 rfl]; rfl, rfl, rfl⟩
    | some ad => exact Or.inr ⟨ad, c, rfl, fun j u hu => by simp [intCells] at hu⟩
  · refine Or.inr ⟨⟨b, o, none⟩, c, rfl, fun j u hu => ?_⟩
    rw [intCells, List.getElem?_map] at hu
    obtain ⟨x, hx, rfl⟩ := Option.map_eq_some_iff.1 hu
    have hj : j < l.length := by
      rcases Nat.lt_or_ge j l.length with h | h
      · exact h
      · rw [List.getElem?_eq_none h] at hx; cases hx
    rw [List.getElem?_eq_getElem hj] at hx
    cases hx
    have e : (⟨b, o, none⟩ : Addr).add j = ⟨b, o + j, none⟩ := by unfold Addr.add; split <;> simp_all
    rw [e]; exact hc j hj
theorem intCells_one (l : List Int) : ∀ u ∈ intCells l, u.oneCell' = true := fun u hu => by
  obtain ⟨x, _, rfl⟩ := List.mem_map.1 hu; rfl
theorem rt6 {w : World} {b : Nat} {r : Rt} {pv mv : Value} (h : w.heap[b]? = some (rtBlk r pv mv)) :
    w.cell? ⟨b, 0, none⟩ = some (.int .i64 r.addr) ∧ w.cell? ⟨b, 1, none⟩ = some (.int .i64 r.len) ∧ w.cell? ⟨b, 2, none⟩ = some pv ∧ w.cell? ⟨b, 3, none⟩ = some mv ∧ w.cell? ⟨b, 4, none⟩ = some (.int .i64 r.pref) ∧ w.cell? ⟨b, 5, none⟩ = some (.int .i64 r.med) ∧ ∀ o, w.frozen? ⟨b, o, none⟩ = false :=
  ⟨cell_of_heap h, cell_of_heap h, cell_of_heap h, cell_of_heap h, cell_of_heap h, cell_of_heap h, fun _ => frozen_of_heap h⟩
theorem Tryz.infoIntR : (Tryz.prog.info? 3).map (fun i => (i.zero, i.size, i.bytes)) = some (some (.int .i64 0), 1, 8) := by kernel_rfl

/-- a list of the copy's own is laid into it -/
theorem copy_step {w W w1 : World} {c c' : Array Value} {o : Nat} {v : Value} {R : Obj} {n : Nat} {l : List Int} (hB : Below w.heap.size w W) (hq : W.heap[w.heap.size]? = some (.cells c 32 (0, 0))) (hr : W.heap[w.heap.size + 1]? = some R) (hown : w1.ownsRow w.heap.size 3 1 v n (intCells l)) (hg : W.grownBy w1 none) (hat : v.ownBlock = none ∨ v.ownBlock = some W.heap.size)
    (hc : c.setIfInBounds o v = c') :
    (w1.cell? ⟨w.heap.size, o, none⟩ = c[o]? ∧ w1.frozen? ⟨w.heap.size, o, none⟩ = false) ∧ (w1.setCell ⟨w.heap.size, o, none⟩ v).heap[w.heap.size]? = some (.cells c' 32 (0, 0)) ∧ (w1.setCell ⟨w.heap.size, o, none⟩ v).heap[w.heap.size + 1]? = some R ∧ (w1.setCell ⟨w.heap.size, o, none⟩ v).ownsRow w.heap.size 3 1 v n (intCells l) ∧ Below w.heap.size w (w1.setCell ⟨w.heap.size, o, none⟩ v) ∧ (∀ k, k < W.heap.size → k ≠ w.heap.size → (w1.setCell ⟨w.heap.size, o, none⟩ v).heap[k]? = W.heap[k]?) ∧ W.heap.size ≤ (w1.setCell ⟨w.heap.size, o, none⟩ v).heap.size := by
  have lq := heap_lt hq
  have lr := heap_lt hr
  have hold : ∀ k, k < W.heap.size → k ≠ w.heap.size → (w1.setCell ⟨w.heap.size, o, none⟩ v).heap[k]? = W.heap[k]? := fun k hk hn => by
    rw [heap_set_other hn, hg.block k hk (fun e => by cases e)]
  have hq1 : w1.heap[w.heap.size]? = some (.cells c 32 (0, 0)) := (hg.block _ lq (fun e => by cases e)).trans hq
  refine ⟨⟨cell_of_heap hq1, frozen_of_heap hq1⟩, by rw [heap_set hq1, hc], (hold _ lr (by omega)).trans hr, owns_of hown (fun k e => heap_set_other (fun e2 => ?_)), ?_, hold, by have := hg.size; simp [World.setCell]; omega⟩
  · have e3 : k = w.heap.size := e2
    rcases hat with h1 | h1
    · rw [h1] at e; cases e
    · rw [h1] at e; cases e; omega
  · exact (hB.grown hg hB.size (fun k e => by cases e)).setCell (p := ⟨w.heap.size, o, none⟩) (Nat.le_refl _) v
set_option maxRecDepth 100000 in
set_option maxHeartbeats 2000000 in
theorem copy_any (r : Rt) (pv mv : Value) (w : World) (hp : IntsAt w pv r.path) (hm : IntsAt w mv r.marks) (n1 : r.path.length ≤ 12) (n2 : r.marks.length ≤ 8) :
    Calls Tryz.prog 41 #[rtV r pv mv] w fun e w' => ∃ pv' mv', e = .returned (rtV r pv' mv') ∧ w'.ownsRow w.heap.size 3 1 pv' r.path.length (intCells r.path) ∧ w'.ownsRow w.heap.size 3 1 mv' r.marks.length (intCells r.marks) ∧ (pv'.ownBlock = none ∨ pv'.ownBlock ≠ mv'.ownBlock) ∧ Below w.heap.size w w' := by
  obtain ⟨i0, hi0, hz0, hz1, hz2⟩ := info_parts Tryz.infoIntR
  obtain ⟨a1, b1, c1, hpv⟩ := reads_form (ints_reads hp)
  obtain ⟨a2, b2, c2, hmv⟩ := reads_form (ints_reads hm)
  have r0 : Rt := ⟨0, 0, [], [], 0, 0⟩
  obtain ⟨W0, hW0⟩ : ∃ W0, (w.alloc (rtBlk r pv mv)).alloc (.cells #[.int .i64 0, .int .i64 0, .slice none 0 0, .slice none 0 0, .int .i64 0, .int .i64 0] 32) = W0 := ⟨_, rfl⟩
  have hb0 : Below w.heap.size w W0 := by rw [← hW0]; exact ((Below.refl _ _).alloc (Nat.le_refl _) _).alloc (by rw [World.size_alloc]; omega) _
  obtain ⟨q1, q2, qs⟩ := two_new w (rtBlk r pv mv) (.cells #[.int .i64 0, .int .i64 0, .slice none 0 0, .slice none 0 0, .int .i64 0, .int .i64 0] 32)
  rw [hW0] at q1 q2 qs
  have HP := hide (ints_reads (hp.below hb0))
  have HM := hide hm
  have HB0 := hide hb0
  obtain ⟨c0, c1', c2', c3, c4, c5, cz⟩ := rt6 q1
  have HQ1 := hide q1
  have HQ2 := hide q2
  clear hp hm hb0 q1 q2
  subst hpv hmv
  go_enter Tryz.func41, Tryz.ntmps41
  go_wp2_with (first
    | (at_builtin; refine wpList_append_reads rfl _ _ _ rfl w.heap.size 3 i0 _ 1 8 Tryz.underlying22 hi0 hz0 hz1 hz2 rfl (by omega) (.slice none 0 0) 0 [] rfl (World.ownsRow_nil _ _ _ _) (.slice a1 b1 c1) r.path.length (intCells r.path) rfl (unhide HP) (by simp [intCells]) (intCells_one _) (by unfold maxLen; omega) (by omega) (by omega) ?_; intro v1 w1 hown1 hgrow1 hat1; rw [List.nil_append, Nat.zero_add] at hown1; obtain ⟨⟨d2, dz⟩, e1, e2, e3, e4, e5, e6⟩ := copy_step (o := 2) (unhide HB0) (unhide HQ1) (unhide HQ2) hown1 hgrow1 hat1 rfl; obtain ⟨fa, fc, hfv⟩ := owns_form' hown1; have HE1 := hide e1; have HE2 := hide e2; have HE3 := hide e3; have HE4 := hide e4; have HE5 := hide e5; have HE6 := hide e6; have HAT := hide hat1; have HM1 := hide (ints_reads ((unhide HM).below (unhide HE4))); obtain ⟨g0, g1, g2, g3, g4, g5, gz⟩ := rt6 (r := r) (pv := v1) e1; clear HP HM hown1 hgrow1 hat1 e1 e2 e3 e4 e5 e6 c0 c1' c2' c3 c4 c5 cz; subst hfv)
    | (at_builtin; refine wpList_append_reads rfl _ _ _ rfl w.heap.size 3 i0 _ 1 8 Tryz.underlying22 hi0 hz0 hz1 hz2 rfl (by omega) (.slice none 0 0) 0 [] rfl (World.ownsRow_nil _ _ _ _) (.slice a2 b2 c2) r.marks.length (intCells r.marks) rfl (unhide HM1) (by simp [intCells]) (intCells_one _) (by unfold maxLen; omega) (by omega) (by have h1 := unhide HE6; omega) ?_; intro v2 w2 hown2 hgrow2 hat2; rw [List.nil_append, Nat.zero_add] at hown2; obtain ⟨⟨d3, dz3⟩, k1, k2, k3, k4, k5, k6⟩ := copy_step (o := 3) (unhide HE4) (unhide HE1) (unhide HE2) hown2 hgrow2 hat2 rfl; obtain ⟨fa2, fc2, hfv2⟩ := owns_form' hown2; have HK1 := hide k1; have HK2 := hide k2; have HK3 := hide k3; have HK4 := hide k4; have HK5 := hide k5; have HAT2 := hide hat2; obtain ⟨m0, m1, m2, m3, m4, m5, mz⟩ := rt6 (r := r) (mv := v2) k1; obtain ⟨z0, z1, z2, z3, z4, z5, zz⟩ := rt6 (r := ⟨0, 0, [], [], 0, 0⟩) (pv := .slice none 0 0) (mv := .slice none 0 0) k2; clear HM1 hown2 hgrow2 hat2 k1 k2 k3 k4 k5 k6 g0 g1 g2 g3 g4 g5 gz; subst hfv2))
  have hR : ∀ (X : World) (v0 v1 v2 v3 v4 v5 : Value) (k : Nat), k ≠ w.heap.size + 1 → ((((((X.setCell ⟨w.heap.size + 1, 0, none⟩ v0).setCell ⟨w.heap.size + 1, 1, none⟩ v1).setCell ⟨w.heap.size + 1, 2, none⟩ v2).setCell ⟨w.heap.size + 1, 3, none⟩ v3).setCell ⟨w.heap.size + 1, 4, none⟩ v4).setCell ⟨w.heap.size + 1, 5, none⟩ v5).heap[k]? = X.heap[k]? := fun X v0 v1 v2 v3 v4 v5 k hk => by
    rw [heap_set_other hk, heap_set_other hk, heap_set_other hk, heap_set_other hk, heap_set_other hk, heap_set_other hk]
  refine bodyPost_ret (v := rtV r (.slice fa r.path.length fc) (.slice fa2 r.marks.length fc2)) (by simp [results, Tryz.results41, go_sem, z0, z1, z2, z3, z4, z5]) rfl ⟨_, _, rfl, ?_, ?_, ?_, ?_⟩
  · refine owns_of (unhide HE3) (fun k e => ?_)
    have hk : w.heap.size + 2 ≤ k := by
      rcases unhide HAT with h1 | h1
      · rw [h1] at e; cases e
      · rw [h1] at e; cases e; omega
    rw [hR _ _ _ _ _ _ _ k (by omega), (unhide HK5) k ((unhide HE3).lt k e).2 (by omega)]
  · refine owns_of (unhide HK3) (fun k e => ?_)
    have hk : w.heap.size + 2 ≤ k := by
      rcases unhide HAT2 with h1 | h1
      · rw [h1] at e; cases e
      · rw [h1] at e; cases e; have := unhide HE6; omega
    rw [hR _ _ _ _ _ _ _ k (by omega)]
  · rcases unhide HAT with h1 | h1
    · exact Or.inl h1
    · right; intro e
      rw [h1] at e
      have h3 := ((unhide HE3).lt _ h1).2
      rcases unhide HAT2 with h2 | h2
      · rw [h2] at e; cases e
      · rw [h2] at e
        have e4 := Option.some.inj e
        omega
  · refine Below.setCell (p := ⟨w.heap.size + 1, 5, none⟩) (Below.setCell (p := ⟨w.heap.size + 1, 4, none⟩) (Below.setCell (p := ⟨w.heap.size + 1, 3, none⟩) (Below.setCell (p := ⟨w.heap.size + 1, 2, none⟩) (Below.setCell (p := ⟨w.heap.size + 1, 1, none⟩) (Below.setCell (p := ⟨w.heap.size + 1, 0, none⟩) (unhide HK4) (Nat.le_succ _) _) (Nat.le_succ _) _) (Nat.le_succ _) _) (Nat.le_succ _) _) (Nat.le_succ _) _) (Nat.le_succ _) _
end Go.Proofs.YtlhhdklendeikaaGreatDoor
