/- A route with lists of its own (run.go: copied). -/
import Derived.Test.YtgdeeodifnegiaaGreatDoorRnP
import Derived.Test.YtgdeeodifnegiaaGreatDoorRunG
namespace Go.Proofs.YtgdeeodifnegiaaGreatDoor.rf
open Go.RowKit

abbrev rtC (R : Rt) (pv mv : Value) : Array Value := #[.int .i64 R.addr, .int .i64 R.len, pv, mv, .int .i64 R.pref, .int .i64 R.med]
set_option maxRecDepth 100000 in
set_option maxHeartbeats 3200000 in
theorem copied_any {w : World} {R : Rt} {po mo : Option Addr} {pc mc : Nat} (h1 : IntsAt w (.slice po R.path.length pc) R.path) (h2 : IntsAt w (.slice mo R.marks.length mc) R.marks) (hp : R.path.length ≤ 1000) (hm : R.marks.length ≤ 1000) :
    Calls Tryz.prog 96 #[.agg (rtC R (.slice po R.path.length pc) (.slice mo R.marks.length mc))] w fun e w' => ∃ pv mv, e = .returned (.agg (rtC R pv mv)) ∧ Below w.heap.size w w' ∧ NewI w w' pv R.path ∧ NewI w w' mv R.marks := by
  obtain ⟨i0, hi0, hz0, hz1, hz2⟩ := info_parts Tryz.infoInt
  have H1 := hide h1
  have H2 := hide h2
  clear h1 h2
  go_enter Tryz.func96, Tryz.ntmps96
  go_upto_region 3 with fail
  have hb0 : Below w.heap.size w ((w.alloc (.cells (rtC R (.slice po R.path.length pc) (.slice mo R.marks.length mc)) 28)).alloc (.cells #[.int .i64 0, .int .i64 0, .slice none 0 0, .slice none 0 0, .int .i64 0, .int .i64 0] 28)) := ((Below.refl _ _).alloc (Nat.le_refl _) _).alloc (by simp) _
  obtain ⟨q1, q2⟩ := two_alloc w (rtC R (.slice po R.path.length pc) (.slice mo R.marks.length mc)) #[.int .i64 0, .int .i64 0, .slice none 0 0, .slice none 0 0, .int .i64 0, .int .i64 0] 28 28
  obtain ⟨W0, hW0⟩ : ∃ W0, (w.alloc (.cells (rtC R (.slice po R.path.length pc) (.slice mo R.marks.length mc)) 28)).alloc (.cells #[.int .i64 0, .int .i64 0, .slice none 0 0, .slice none 0 0, .int .i64 0, .int .i64 0] 28) = W0 := ⟨_, rfl⟩
  rw [hW0] at hb0 q1 q2 ⊢
  have HB0 := hide hb0
  have Q1 := hide q1
  have Q2 := hide q2
  have c2 : W0.cell? ⟨w.heap.size, 2, none⟩ = some (.slice po R.path.length pc) := cell_of_heap q1
  have l1 : w.heap.size < W0.heap.size := heap_lt q1
  have l2 : w.heap.size + 1 < W0.heap.size := heap_lt q2
  have RD := hide (show ReadsAs W0 (.slice po R.path.length pc) R.path.length (intCells R.path) from ints_reads ((unhide H1).below hb0))
  clear hb0 q1 q2 hW0
  go_upto_region 4 with (at_builtin; refine wpList_append_reads rfl _ _ _ rfl 0 3 i0 _ 1 8 Tryz.underlying26 hi0 hz0 hz1 hz2 rfl (by omega) _ _ _ rfl (World.ownsRow_nil _ _ _ _) _ _ _ rfl (unhide RD) (by simp [intCells]) one_ints (by simp only [maxLen]; omega) (by omega) (by omega) ?_; intro v1 w1 hown hgrow hat; obtain ⟨o1, k1, rfl⟩ := owns_sl hown)
  have HB1 := hide (below_append (v := .slice none 0 0) (Below.refl W0.heap.size W0) hgrow (Nat.le_refl _) (fun k hk => by simp [Value.ownBlock] at hk))
  have N1 := hide (NewI.app (w := W0) (v := .slice none 0 0) (l := []) (l2 := R.path) ⟨World.ownsRow_nil _ _ _ _, fun k hk => by simp [Value.ownBlock] at hk⟩ (Below.refl W0.heap.size W0) hown hat)
  clear hown hgrow hat
  have c3 : w1.cell? ⟨w.heap.size, 3, none⟩ = some (.slice mo R.marks.length mc) := ((unhide HB1).cell (p := ⟨w.heap.size, 3, none⟩) l1).trans (cell_of_heap (unhide Q1))
  have l11 : w.heap.size < w1.heap.size := Nat.lt_of_lt_of_le l1 (unhide HB1).size
  have HW1 := hide ((unhide HB0).trans ((unhide HB1).mono (unhide HB0).size))
  have RD2 := hide (show ReadsAs _ (.slice mo R.marks.length mc) R.marks.length (intCells R.marks) from ints_reads ((unhide H2).below (unhide HW1)))
  clear c2
  go_upto_region 5 with (at_builtin; refine wpList_append_reads rfl _ _ _ rfl 0 3 i0 _ 1 8 Tryz.underlying26 hi0 hz0 hz1 hz2 rfl (by omega) _ _ _ rfl (World.ownsRow_nil _ _ _ _) _ _ _ rfl (unhide RD2) (by simp [intCells]) one_ints (by simp only [maxLen]; omega) (by omega) (by omega) ?_; intro v2 w2 hown hgrow hat; obtain ⟨o2, k2, rfl⟩ := owns_sl hown)
  have HB2 := hide (below_append (v := .slice none 0 0) (Below.refl w1.heap.size w1) hgrow (Nat.le_refl _) (fun k hk => by simp [Value.ownBlock] at hk))
  have N2 := hide (NewI.app (w := w1) (v := .slice none 0 0) (l := []) (l2 := R.marks) ⟨World.ownsRow_nil _ _ _ _, fun k hk => by simp [Value.ownBlock] at hk⟩ (Below.refl w1.heap.size w1) hown hat)
  have HW2 := hide ((unhide HW1).trans ((unhide HB2).mono (unhide HW1).size))
  have q1 : w2.heap[w.heap.size]? = _ := ((unhide HB2).block _ l11).trans (((unhide HB1).block _ l1).trans (unhide Q1))
  have q2 : w2.heap[w.heap.size + 1]? = _ := ((unhide HB2).block _ (Nat.lt_of_lt_of_le l2 (unhide HB1).size)).trans (((unhide HB1).block _ l2).trans (unhide Q2))
  clear hown hgrow hat c3
  have d0 : w2.cell? ⟨w.heap.size, 0, none⟩ = some (.int .i64 R.addr) := cell_of_heap q1
  have d1 : w2.cell? ⟨w.heap.size, 1, none⟩ = some (.int .i64 R.len) := cell_of_heap q1
  have d2 : w2.cell? ⟨w.heap.size, 2, none⟩ = some (.slice po R.path.length pc) := cell_of_heap q1
  have d3 : w2.cell? ⟨w.heap.size, 3, none⟩ = some (.slice mo R.marks.length mc) := cell_of_heap q1
  have d4 : w2.cell? ⟨w.heap.size, 4, none⟩ = some (.int .i64 R.pref) := cell_of_heap q1
  have d5 : w2.cell? ⟨w.heap.size, 5, none⟩ = some (.int .i64 R.med) := cell_of_heap q1
  have z1 : ∀ o, w2.frozen? ⟨w.heap.size, o, none⟩ = false := fun o => frozen_of_heap q1
  have f0 : w2.cell? ⟨w.heap.size + 1, 0, none⟩ = some (.int .i64 0) := cell_of_heap q2
  have f1 : w2.cell? ⟨w.heap.size + 1, 1, none⟩ = some (.int .i64 0) := cell_of_heap q2
  have f2 : w2.cell? ⟨w.heap.size + 1, 2, none⟩ = some (.slice none 0 0) := cell_of_heap q2
  have f3 : w2.cell? ⟨w.heap.size + 1, 3, none⟩ = some (.slice none 0 0) := cell_of_heap q2
  have f4 : w2.cell? ⟨w.heap.size + 1, 4, none⟩ = some (.int .i64 0) := cell_of_heap q2
  have f5 : w2.cell? ⟨w.heap.size + 1, 5, none⟩ = some (.int .i64 0) := cell_of_heap q2
  have z2 : ∀ o, w2.frozen? ⟨w.heap.size + 1, o, none⟩ = false := fun o => frozen_of_heap q2
  have m1 : w.heap.size < w2.heap.size := heap_lt q1
  have m2 : w.heap.size + 1 < w2.heap.size := heap_lt q2
  have QA := hide q1
  have QB := hide q2
  clear q1 q2
  go_wp2_with fail
  have g0 := (heap_set_other (w := w2) (p := ⟨w.heap.size, 2, none⟩) (v := .slice o1 R.path.length k1) (show w.heap.size + 1 ≠ w.heap.size by omega)).trans (unhide QB)
  have g1 := (heap_set_other (p := ⟨w.heap.size, 3, none⟩) (v := .slice o2 R.marks.length k2) (show w.heap.size + 1 ≠ w.heap.size by omega)).trans g0
  have g2 := heap_set (o := 5) (v := .int .i64 R.med) (heap_set (o := 4) (v := .int .i64 R.pref) (heap_set (o := 3) (v := .slice o2 R.marks.length k2) (heap_set (o := 2) (v := .slice o1 R.path.length k1) (heap_set (o := 1) (v := .int .i64 R.len) (heap_set (o := 0) (v := .int .i64 R.addr) g1)))))
  refine bodyPost_ret (v := .agg (rtC R (.slice o1 R.path.length k1) (.slice o2 R.marks.length k2))) (results_cell_row Tryz.results96 _ _ (w.heap.size + 1) _ (rtC R (.slice o1 R.path.length k1) (.slice o2 R.marks.length k2)) _ _ rfl g2 Tryz.underlying28 rfl (by kernel_rfl)) rfl ?_
  have hn1 := unhide N1
  have hn2 := unhide N2
  rw [Nat.zero_add, List.nil_append] at hn1 hn2
  have hne1 : (Value.slice o1 R.path.length k1).ownBlock ≠ some w.heap.size ∧ (Value.slice o1 R.path.length k1).ownBlock ≠ some (w.heap.size + 1) := ⟨hn1.ne l1, hn1.ne l2⟩
  have hne2 : (Value.slice o2 R.marks.length k2).ownBlock ≠ some w.heap.size ∧ (Value.slice o2 R.marks.length k2).ownBlock ≠ some (w.heap.size + 1) := ⟨hn2.ne l11, hn2.ne (Nat.lt_of_lt_of_le l2 (unhide HB1).size)⟩
  have hsz := (unhide HB0).size
  have hsz1 := (unhide HW1).size
  have far : ∀ k, k ≠ w.heap.size → k ≠ w.heap.size + 1 → ((((((((w2.setCell ⟨w.heap.size, 2, none⟩ (.slice o1 R.path.length k1)).setCell ⟨w.heap.size, 3, none⟩ (.slice o2 R.marks.length k2)).setCell ⟨w.heap.size + 1, 0, none⟩ (.int .i64 R.addr)).setCell ⟨w.heap.size + 1, 1, none⟩ (.int .i64 R.len)).setCell ⟨w.heap.size + 1, 2, none⟩ (.slice o1 R.path.length k1)).setCell ⟨w.heap.size + 1, 3, none⟩ (.slice o2 R.marks.length k2)).setCell ⟨w.heap.size + 1, 4, none⟩ (.int .i64 R.pref)).setCell ⟨w.heap.size + 1, 5, none⟩ (.int .i64 R.med)).heap[k]? = w2.heap[k]? := fun k h1 h2 => by
    rw [heap_set_other h2, heap_set_other h2, heap_set_other h2, heap_set_other h2, heap_set_other h2, heap_set_other h2, heap_set_other h1, heap_set_other h1]
  refine ⟨_, _, rfl, ?_, ⟨owns_of hn1.own (fun k hk => ?_), fun k hk => Nat.le_trans hsz (hn1.new k hk)⟩, ⟨owns_of hn2.own (fun k hk => ?_), fun k hk => Nat.le_trans hsz1 (hn2.new k hk)⟩⟩
  · have s1 : w.heap.size ≤ w.heap.size + 1 := by omega
    refine Below.setCell (Below.setCell (Below.setCell (Below.setCell (Below.setCell (Below.setCell (Below.setCell (Below.setCell (unhide HW2) ?_ _) ?_ _) ?_ _) ?_ _) ?_ _) ?_ _) ?_ _) ?_ _
    all_goals first | exact Nat.le_refl _ | exact s1
  · rw [far k (fun e => hne1.1 (by rw [← e]; exact hk)) (fun e => hne1.2 (by rw [← e]; exact hk))]
    exact (unhide HB2).block k (hn1.own.lt k hk).2
  · exact far k (fun e => hne2.1 (by rw [← e]; exact hk)) (fun e => hne2.2 (by rw [← e]; exact hk))
end Go.Proofs.YtgdeeodifnegiaaGreatDoor.rf
