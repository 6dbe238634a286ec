/- A policy of the document is run: statements (run.go: do): mark, prepend. -/
import Derived.Test.YtgdeeodifnegiaaGreatDoorRnK
namespace Go.Proofs.YtgdeeodifnegiaaGreatDoor.rf
open Go.RowKit

/-- a statement's number -/
theorem Kids.num {w : World} {Q : Nat → Prop} {n a : Int} {kv : Value} {g : Nat} (h : Kids w Q [.mk wNumber nB n a []] kv g) : w.cell? ⟨g, 2, none⟩ = some (.int .i64 n) := by
  obtain ⟨a0, a1, a2, a3, a4, _, _, y2, _, _, t0⟩ := h.at_ 0 (by simp)
  simp only [List.getElem_cons_zero] at t0
  rw [TrAt] at t0
  obtain ⟨kv', xs, e, _⟩ := t0
  simp only [Nat.zero_mul, Nat.zero_add] at y2
  rw [y2]
  simp at e
  rw [e.2.2.1]
set_option maxRecDepth 100000 in
set_option maxHeartbeats 3200000 in
theorem do_mark (P : Nat → Nat → World → Prop) (n a : Int) (op : ByteArray) (hop : op = wMark) : StpR P (.mk op nB 0 0 [.mk wNumber nB n a []]) (markM n) := by
  intro w Q v sb pb R pv mv hQ _ ht hR hs
  have e0 : (op.toList == [97, 99, 99, 101, 112, 116]) = false := by rw [hop]; decide +kernel
  have e1 : (op.toList == [114, 101, 106, 101, 99, 116]) = false := by rw [hop]; decide +kernel
  have e2 : (op.toList == [112, 114, 101, 102]) = false := by rw [hop]; decide +kernel
  have e3 : (op.toList == [109, 101, 100]) = false := by rw [hop]; decide +kernel
  have e4 : (op.toList == [109, 97, 114, 107]) = true := by rw [hop]; decide +kernel
  obtain ⟨kv, g, rfl, hk⟩ := ht.kids (by simp)
  obtain ⟨cap, hkv⟩ := hk.sl
  obtain rfl : kv = .slice (some ⟨g, 0, none⟩) 1 cap := by simpa using hkv
  have hA : Below w.heap.size w (w.alloc (.cells (treeCells op nB 0 0 (.slice (some ⟨g, 0, none⟩) 1 cap)) 115)) := (Below.refl _ _).alloc (Nat.le_refl _) _
  have q0 : (w.alloc (.cells (treeCells op nB 0 0 (.slice (some ⟨g, 0, none⟩) 1 cap)) 115)).heap[w.heap.size]? = some (.cells (treeCells op nB 0 0 (.slice (some ⟨g, 0, none⟩) 1 cap)) 115 (0, 0)) := heap_alloc_new _ _
  have hk1 := hk.fr hQ (fr_sb hA)
  have hs1 := hs.below hA
  obtain ⟨WA, hWA⟩ : ∃ WA, w.alloc (.cells (treeCells op nB 0 0 (.slice (some ⟨g, 0, none⟩) 1 cap)) 115) = WA := ⟨_, rfl⟩
  have HWA := hide hWA
  rw [hWA] at q0 hk1 hs1 hA
  have HF := hide (show Fr (Sb sb) w (Sb sb) WA from fr_sb hA)
  have c2 := hk1.num
  have k0 : WA.cell? ⟨w.heap.size, 0, none⟩ = some (.string op) := cell_of_heap q0
  have k4 : WA.cell? ⟨w.heap.size, 4, none⟩ = some (.slice (some ⟨g, 0, none⟩) 1 cap) := cell_of_heap q0
  have CALL := hide (mark_run hs1 hR.rise hR.marks n)
  have lA : w.heap.size < WA.heap.size := heap_lt q0
  have lg := hk1.lt
  clear hk hk1 hs hs1 hA ht q0 hQ hop hWA hkv hR
  go_enter Tryz.func97, Tryz.ntmps97
  go_upto_region 1 with fail
  rw [unhide HWA]
  go_wp2_with fail
  refine (unhide CALL).mono ?_
  rintro e w1 ⟨rfl, pv', mv', hs1, hf1⟩
  have HS1 := hide hs1
  have F1 := hide ((unhide HF).trans hf1)
  clear hs1 hf1 CALL
  go_wp2_with fail
  go_end0
  exact ⟨rfl, pv', mv', unhide HS1, unhide F1⟩
theorem new_one (w : World) (n : Int) : NewI w (w.alloc (.cells #[.int .i64 n] 3)) (.slice (some ⟨w.heap.size, 0, none⟩) 1 1) [n] :=
  ⟨⟨rfl, Or.inr ⟨w.heap.size, 1, #[.int .i64 n], rfl, Nat.zero_le _, heap_alloc_new _ _, Nat.le_refl _, by simp [maxLen], rfl, rfl⟩⟩, fun k hk => by simp [Value.ownBlock] at hk; omega⟩
set_option maxRecDepth 100000 in
set_option maxHeartbeats 3200000 in
theorem do_prepend (P : Nat → Nat → World → Prop) (n a : Int) (op : ByteArray) (hop : op = wPrepend) : StpR P (.mk op nB 0 0 [.mk wNumber nB n a []]) (prependM n) := by
  intro w Q v sb pb R pv mv hQ _ ht hR hs
  obtain ⟨i0, hi0, hz0, hz1, hz2⟩ := info_parts Tryz.infoInt
  have e0 : (op.toList == [97, 99, 99, 101, 112, 116]) = false := by rw [hop]; decide +kernel
  have e1 : (op.toList == [114, 101, 106, 101, 99, 116]) = false := by rw [hop]; decide +kernel
  have e2 : (op.toList == [112, 114, 101, 102]) = false := by rw [hop]; decide +kernel
  have e3 : (op.toList == [109, 101, 100]) = false := by rw [hop]; decide +kernel
  have e4 : (op.toList == [109, 97, 114, 107]) = false := by rw [hop]; decide +kernel
  have e5 : (op.toList == [117, 110, 109, 97, 114, 107]) = false := by rw [hop]; decide +kernel
  have e6 : (op.toList == [112, 114, 101, 112, 101, 110, 100]) = true := by rw [hop]; decide +kernel
  obtain ⟨kv, g, rfl, hk⟩ := ht.kids (by simp)
  obtain ⟨cap, hkv⟩ := hk.sl
  obtain rfl : kv = .slice (some ⟨g, 0, none⟩) 1 cap := by simpa using hkv
  have hA : Below w.heap.size w (w.alloc (.cells (treeCells op nB 0 0 (.slice (some ⟨g, 0, none⟩) 1 cap)) 115)) := (Below.refl _ _).alloc (Nat.le_refl _) _
  have q0 : (w.alloc (.cells (treeCells op nB 0 0 (.slice (some ⟨g, 0, none⟩) 1 cap)) 115)).heap[w.heap.size]? = some (.cells (treeCells op nB 0 0 (.slice (some ⟨g, 0, none⟩) 1 cap)) 115 (0, 0)) := heap_alloc_new _ _
  have hk1 := hk.fr hQ (fr_sb hA)
  obtain ⟨po, pc, rfl⟩ := owns_sl hs.own1
  have hs1 := hs.below hA
  obtain ⟨WA, hWA⟩ : ∃ WA, w.alloc (.cells (treeCells op nB 0 0 (.slice (some ⟨g, 0, none⟩) 1 cap)) 115) = WA := ⟨_, rfl⟩
  have HWA := hide hWA
  rw [hWA] at q0 hk1 hs1 hA
  have HF := hide (show Fr (Sb sb) w (Sb sb) WA from fr_sb hA)
  have c2 := hk1.num
  have k0 : WA.cell? ⟨w.heap.size, 0, none⟩ = some (.string op) := cell_of_heap q0
  have k4 : WA.cell? ⟨w.heap.size, 4, none⟩ = some (.slice (some ⟨g, 0, none⟩) 1 cap) := cell_of_heap q0
  have s3 : WA.cell? ⟨sb, 3, none⟩ = some (.slice po R.path.length pc) := cell_of_heap hs1.blk
  have s7 : WA.cell? ⟨sb, 7, none⟩ = some (.int .i64 0) := cell_of_heap hs1.blk
  have zs : ∀ o, WA.frozen? ⟨sb, o, none⟩ = false := fun o => frozen_of_heap hs1.blk
  have lsb : sb < WA.heap.size := heap_lt hs1.blk
  have HS := hide hs1
  have hp12 := hR.path
  have lA : w.heap.size < WA.heap.size := heap_lt q0
  have lg := hk1.lt
  clear hk hk1 hs hs1 hA ht q0 hQ hop hWA hkv hR
  by_cases h12 : R.path.length = 12
  · have e12 : ((R.path.length : Int) == 12) = true := by rw [h12]; rfl
    have FIN := hide (show prependM n R = (R, 3) from by unfold prependM; rw [if_pos h12])
    go_enter Tryz.func97, Tryz.ntmps97
    go_upto_region 1 with fail
    rw [unhide HWA]
    go_wp2_with fail
    go_end0
    rw [unhide FIN]
    exact ⟨rfl, _, _, (unhide HS).ver 3, Fr.setCell (p := ⟨sb, 7, none⟩) (unhide HF) (Or.inl rfl) _⟩
  · have e12 : ((R.path.length : Int) == 12) = false := by rw [beq_eq_false_iff_ne]; omega
    have FIN := hide (show prependM n R = ({ R with path := n :: R.path }, 0) from by unfold prependM; rw [if_neg h12])
    go_enter Tryz.func97, Tryz.ntmps97
    go_upto_region 1 with fail
    rw [unhide HWA]
    go_upto_region 25 with fail
    have hb1 : Below WA.heap.size WA (WA.alloc (.cells #[.int .i64 n] 3)) := (Below.refl _ _).alloc (Nat.le_refl _) _
    have N1 := hide (new_one WA n)
    have HB1 := hide hb1
    have hs1 := (unhide HS).below hb1
    have t3 : (WA.alloc (.cells #[.int .i64 n] 3)).cell? ⟨sb, 3, none⟩ = some (.slice po R.path.length pc) := cell_of_heap hs1.blk
    have RD := hide (ReadsAs.own hs1.own1)
    obtain ⟨W1, hW1⟩ : ∃ W1, WA.alloc (.cells #[.int .i64 n] 3) = W1 := ⟨_, rfl⟩
    rw [hW1] at N1 HB1 t3 RD ⊢
    have ls1 : sb < W1.heap.size := Nat.lt_of_lt_of_le lsb (unhide HB1).size
    clear hb1 hs1 hW1 s3 s7 zs k0 k4 c2
    go_wp2_with (at_builtin; refine wpList_append_reads rfl _ _ _ rfl 0 3 i0 _ 1 8 Tryz.underlying26 hi0 hz0 hz1 hz2 rfl (by omega) _ _ _ rfl (unhide N1).own _ _ _ rfl (unhide RD) (by simp [intCells]) one_ints (by simp only [maxLen, List.length_singleton]; omega) (by simp only [List.length_singleton]; omega) (by omega) ?_; intro v2 w2 hown hgrow hat; obtain ⟨o2, cc2, rfl⟩ := owns_sl hown; have HB2 := hide (below_append (unhide HB1) hgrow (unhide HB1).size (unhide N1).new); have HN2 := hide (NewI.app (unhide N1) (unhide HB1) hown hat); have c42 := ((unhide HB2).cell (p := ⟨sb, 3, none⟩) lsb).trans (cell_of_heap (unhide HS).blk); have z42 : ∀ o, w2.frozen? ⟨sb, o, none⟩ = false := (fun o => frozen_of_heap (((unhide HB2).block sb lsb).trans (unhide HS).blk)); have ls2 : sb < w2.heap.size := Nat.lt_of_lt_of_le lsb (unhide HB2).size; clear hown hgrow hat)
    go_end0
    rw [unhide FIN]
    exact ⟨rfl, _, _, (unhide HS).path (unhide HB2) (unhide HN2), Fr.setCell (p := ⟨sb, 3, none⟩) ((unhide HF).trans (fr_sb (sb := sb) (unhide HB2))) (Or.inl rfl) _⟩
end Go.Proofs.YtgdeeodifnegiaaGreatDoor.rf
