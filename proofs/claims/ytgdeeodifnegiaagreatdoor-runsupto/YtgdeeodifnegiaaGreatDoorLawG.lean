/- A new entry of the book (package bywaylaw): Book.int, Book.byte, Book.net. -/
import Derived.Test.YtgdeeodifnegiaaGreatDoorLawF
import Derived.Deep.RegionLaw
namespace Go.Proofs.YtgdeeodifnegiaaGreatDoor
open Go.RowKit

theorem Tryz.infoInts : (Tryz.prog.info? 67).map (fun i => (i.zero, i.size, i.bytes)) = some (some (.agg #[.slice none 0 0, .slice none 0 0, .slice none 0 0, .slice none 0 0, .int .i64 0]), 5, 104) := by kernel_rfl
theorem OwnI.lt' {w : World} {base : Nat} {v : Value} {l : List Int} (h : OwnI w base v l) : ∀ k, v.ownBlock = some k → k < w.heap.size := fun k hk => (h.lt k hk).2

set_option maxRecDepth 100000 in
set_option maxHeartbeats 1600000 in
theorem Book_int_any (b : Bk) (wb : Nat) (l : Value) (L : List Int) (W : World) (base : Nat) (h : BookAt W wb b) (hf : FreeL wb b l) (ho : OwnI W base l L) (hb : base ≤ W.heap.size) (hl : L.length ≤ 16777216) (hc : b.cnt ≤ 16777216) :
    Calls Tryz.prog 39 #[.pointer (some ⟨wb, 2, none⟩), l] W fun e W' => e = .returned (.tuple #[]) ∧ ∃ b', BookAt W' wb b' ∧ PutR wb b b' l W W' := by
  obtain ⟨i0, hi0, hz0, hz1, hz2⟩ := info_parts Tryz.infoInts
  have HB := hide h
  have HF := hide hf
  have HO := hide ho
  have hcl : b.I.length ≤ 16777216 := by unfold Bk.cnt at hc; omega
  have c3 : W.cell? ⟨wb, 3, none⟩ = some b.vi := cell_of_heap h.blk
  obtain ⟨qi, ki, hvi⟩ := own_slice h.oi
  rw [hvi] at c3
  have HVI := hide hvi
  obtain ⟨ql, kl, rfl⟩ := own_slice ho
  clear h hf ho hvi
  go_enter Tryz.func39, Tryz.ntmps39
  go_wp2_with fail
  refine (ownInts_any b.I.length L _ W base (by omega) (unhide HO) hb hl).mono ?_
  rintro e W1 ⟨v1, v2, v3, rfl, hown⟩
  have HW := hide hown
  obtain ⟨p1, k1, rfl⟩ := hown.m1.1.rep
  obtain ⟨p2, k2, rfl⟩ := hown.m2.1.rep
  obtain ⟨p3, k3, rfl⟩ := hown.m3.1.rep
  clear hown
  have hwl : (Value.slice ql L.length kl).ownBlock ≠ some wb := fun e => (unhide HF wb e).1 (Or.inl rfl)
  have hlw : wb < W.heap.size := heap_lt (unhide HB).blk
  have hs1 := (unhide HW).fr.size
  have q1 := ((unhide HW).fr.block wb hlw hwl).trans (unhide HB).blk
  have d3 : W1.cell? ⟨wb, 3, none⟩ = some (.slice qi b.I.length ki) := by rw [← unhide HVI]; exact cell_of_heap q1
  have z3 : W1.frozen? ⟨wb, 3, none⟩ = false := frozen_of_heap q1
  have OI := hide (show W1.ownsRow (wb + 1) 67 5 (.slice qi b.I.length ki) b.I.length (recCells b.I) from by
    rw [← unhide HVI]
    exact owns_of (unhide HB).oi (fun k e => (unhide HW).fr.block k ((unhide HB).oi.lt k e).2 (fun e2 => (unhide HF k e2).1 (Or.inr (Or.inr (Or.inl e))))))
  obtain ⟨W2, hW2⟩ : ∃ W2, W1.alloc (.cells #[.slice ql L.length kl, .slice p1 (L.length + 1) k1, .slice p2 (L.length + 2) k2, .slice p3 (L.length + 3) k3, .int .i64 b.I.length] 67) = W2 := ⟨_, rfl⟩
  have Q2 := heap_alloc_new W1 (.cells #[.slice ql L.length kl, .slice p1 (L.length + 1) k1, .slice p2 (L.length + 2) k2, .slice p3 (L.length + 3) k3, .int .i64 b.I.length] 67)
  have B2 := (Below.refl W1.heap.size W1).alloc (Nat.le_refl _) (.cells #[.slice ql L.length kl, .slice p1 (L.length + 1) k1, .slice p2 (L.length + 2) k2, .slice p3 (L.length + 3) k3, .int .i64 b.I.length] 67)
  rw [hW2] at Q2 B2
  have HW2 := hide hW2
  have l12 : W1.heap.size < W2.heap.size := heap_lt Q2
  have O2 := hide (owns_of (unhide OI) (fun k e => B2.block k ((unhide OI).lt k e).2))
  have wne := hide (show some wb ≠ (Value.slice qi b.I.length ki).ownBlock from fun e => by have := ((unhide OI).lt wb e.symm).1; omega)
  have BB := hide B2
  clear hW2
  go_wp2_with fail
  rw [unhide HW2]
  obtain ⟨t0, t1, t2, t3, t4⟩ := five_cells Q2
  have e3 : W2.cell? ⟨wb, 3, none⟩ = some (.slice qi b.I.length ki) := (B2.cell (p := ⟨wb, 3, none⟩) (by show wb < _; omega)).trans d3
  have y3 : W2.frozen? ⟨wb, 3, none⟩ = false := (B2.frozen (p := ⟨wb, 3, none⟩) (by show wb < _; omega)).trans z3
  have zf : ∀ ob, (W2.alloc ob).frozen? ⟨wb, 3, none⟩ = false := fun ob => (World.frozen?_alloc_old W2 ob ⟨wb, 3, none⟩ (Nat.ne_of_lt (by show wb < _; omega))).trans y3
  have lwb : wb < W2.heap.size := by omega
  generalize hZ1 : W1.heap.size = Z1 at *
  clear d3 z3 q1 Q2 B2 c3
  go_region_law ((refine step_append_lies _ (by rfl) _ _ _ (by rfl) (wb + 1) 67 i0 _ 5 104 Tryz.underlying40 hi0 hz0 hz1 hz2 rfl (by omega) (.slice qi b.I.length ki) b.I.length (recCells b.I) (by rfl) (((unhide O2).alloc _).drew) ⟨W2.heap.size, 0, none⟩ 1 1 [.slice ql L.length kl, .slice p1 (L.length + 1) k1, .slice p2 (L.length + 2) k2, .slice p3 (L.length + 3) k3, .int .i64 b.I.length] (by rfl) (by rfl) (World.news_of_block (cs := #[.slice ql L.length kl, .slice p1 (L.length + 1) k1, .slice p2 (L.length + 2) k2, .slice p3 (L.length + 3) k3, .int .i64 b.I.length]) (t := 67) (fr := (0, 0)) (heap_alloc_new _ _)) (by simp [Value.oneCell']) (by omega) (by simp [maxLen]; omega) (by omega) (by simp; omega) (W2.heap.size + 1) (by simp) ?_; intro gg cap w1 hown1 hgrow hat hlt; have k1' : w1.cell? ⟨wb, 3, none⟩ = some (.slice qi b.I.length ki) := (hgrow.cell_far _ (by simp; omega) (unhide wne)).trans (cell_later (Below.refl _ _ |>.alloc (Nat.le_refl _) _ |>.drew) e3); have z1 : w1.frozen? ⟨wb, 3, none⟩ = false := (hgrow.frozen_far _ (by simp; omega) (unhide wne)).trans (zf _)))
  all_goals
    go_wp2_with fail
    go_end0
    subst hZ1
    exact ⟨rfl, _, BookAt.putI (unhide HB) (unhide HF) (unhide HO).lt' (by omega) (unhide HW) (((unhide BB).alloc (by omega) _).drew) (by rw [unhide HVI]; exact hgrow) hown1 (by rw [unhide HVI]; exact hat.imp id (fun e => by rw [e]; simp))⟩
theorem Tryz.infoBytesR : (Tryz.prog.info? 65).map (fun i => (i.zero, i.size, i.bytes)) = some (some (.agg #[.slice none 0 0, .slice none 0 0, .slice none 0 0, .slice none 0 0, .int .i64 0]), 5, 104) := by kernel_rfl
theorem OwnB.lt' {w : World} {base : Nat} {v : Value} {l : List Int} (h : OwnB w base v l) : ∀ k, v.ownBlock = some k → k < w.heap.size := fun k hk => (h.lt k hk).2

set_option maxRecDepth 100000 in
set_option maxHeartbeats 1600000 in
theorem Book_byte_any (b : Bk) (wb : Nat) (l : Value) (L : List Int) (W : World) (base : Nat) (h : BookAt W wb b) (hf : FreeL wb b l) (ho : OwnB W base l L) (hb : base ≤ W.heap.size) (hl : L.length ≤ 16777216) (hc : b.cnt ≤ 16777216) :
    Calls Tryz.prog 32 #[.pointer (some ⟨wb, 2, none⟩), l] W fun e W' => e = .returned (.tuple #[]) ∧ ∃ b', BookAt W' wb b' ∧ PutR wb b b' l W W' := by
  obtain ⟨i0, hi0, hz0, hz1, hz2⟩ := info_parts Tryz.infoBytesR
  have HB := hide h
  have HF := hide hf
  have HO := hide ho
  have hcl : b.B.length ≤ 16777216 := by unfold Bk.cnt at hc; omega
  have c3 : W.cell? ⟨wb, 2, none⟩ = some b.vb := cell_of_heap h.blk
  obtain ⟨qi, ki, hvi⟩ := own_slice h.ob
  rw [hvi] at c3
  have HVI := hide hvi
  obtain ⟨ql, kl, rfl⟩ := own_slice ho
  clear h hf ho hvi
  go_enter Tryz.func32, Tryz.ntmps32
  go_wp2_with fail
  refine (ownBytes_any b.B.length L _ W base (by omega) (unhide HO) hb hl).mono ?_
  rintro e W1 ⟨v1, v2, v3, rfl, hown⟩
  have HW := hide hown
  obtain ⟨p1, k1, rfl⟩ := hown.m1.1.rep
  obtain ⟨p2, k2, rfl⟩ := hown.m2.1.rep
  obtain ⟨p3, k3, rfl⟩ := hown.m3.1.rep
  clear hown
  have hwl : (Value.slice ql L.length kl).ownBlock ≠ some wb := fun e => (unhide HF wb e).1 (Or.inl rfl)
  have hlw : wb < W.heap.size := heap_lt (unhide HB).blk
  have hs1 := (unhide HW).fr.size
  have q1 := ((unhide HW).fr.block wb hlw hwl).trans (unhide HB).blk
  have d3 : W1.cell? ⟨wb, 2, none⟩ = some (.slice qi b.B.length ki) := by rw [← unhide HVI]; exact cell_of_heap q1
  have z3 : W1.frozen? ⟨wb, 2, none⟩ = false := frozen_of_heap q1
  have OI := hide (show W1.ownsRow (wb + 1) 65 5 (.slice qi b.B.length ki) b.B.length (recCells b.B) from by
    rw [← unhide HVI]
    exact owns_of (unhide HB).ob (fun k e => (unhide HW).fr.block k ((unhide HB).ob.lt k e).2 (fun e2 => (unhide HF k e2).1 (Or.inr (Or.inl e)))))
  obtain ⟨W2, hW2⟩ : ∃ W2, W1.alloc (.cells #[.slice ql L.length kl, .slice p1 (L.length + 1) k1, .slice p2 (L.length + 2) k2, .slice p3 (L.length + 3) k3, .int .i64 b.B.length] 65) = W2 := ⟨_, rfl⟩
  have Q2 := heap_alloc_new W1 (.cells #[.slice ql L.length kl, .slice p1 (L.length + 1) k1, .slice p2 (L.length + 2) k2, .slice p3 (L.length + 3) k3, .int .i64 b.B.length] 65)
  have B2 := (Below.refl W1.heap.size W1).alloc (Nat.le_refl _) (.cells #[.slice ql L.length kl, .slice p1 (L.length + 1) k1, .slice p2 (L.length + 2) k2, .slice p3 (L.length + 3) k3, .int .i64 b.B.length] 65)
  rw [hW2] at Q2 B2
  have HW2 := hide hW2
  have l12 : W1.heap.size < W2.heap.size := heap_lt Q2
  have O2 := hide (owns_of (unhide OI) (fun k e => B2.block k ((unhide OI).lt k e).2))
  have wne := hide (show some wb ≠ (Value.slice qi b.B.length ki).ownBlock from fun e => by have := ((unhide OI).lt wb e.symm).1; omega)
  have BB := hide B2
  clear hW2
  go_wp2_with fail
  rw [unhide HW2]
  obtain ⟨t0, t1, t2, t3, t4⟩ := five_cells Q2
  have e3 : W2.cell? ⟨wb, 2, none⟩ = some (.slice qi b.B.length ki) := (B2.cell (p := ⟨wb, 2, none⟩) (by show wb < _; omega)).trans d3
  have y3 : W2.frozen? ⟨wb, 2, none⟩ = false := (B2.frozen (p := ⟨wb, 2, none⟩) (by show wb < _; omega)).trans z3
  have zf : ∀ ob, (W2.alloc ob).frozen? ⟨wb, 2, none⟩ = false := fun ob => (World.frozen?_alloc_old W2 ob ⟨wb, 2, none⟩ (Nat.ne_of_lt (by show wb < _; omega))).trans y3
  have lwb : wb < W2.heap.size := by omega
  generalize hZ1 : W1.heap.size = Z1 at *
  clear d3 z3 q1 Q2 B2 c3
  go_region_law ((refine step_append_lies _ (by rfl) _ _ _ (by rfl) (wb + 1) 65 i0 _ 5 104 Tryz.underlying39 hi0 hz0 hz1 hz2 rfl (by omega) (.slice qi b.B.length ki) b.B.length (recCells b.B) (by rfl) (((unhide O2).alloc _).drew) ⟨W2.heap.size, 0, none⟩ 1 1 [.slice ql L.length kl, .slice p1 (L.length + 1) k1, .slice p2 (L.length + 2) k2, .slice p3 (L.length + 3) k3, .int .i64 b.B.length] (by rfl) (by rfl) (World.news_of_block (cs := #[.slice ql L.length kl, .slice p1 (L.length + 1) k1, .slice p2 (L.length + 2) k2, .slice p3 (L.length + 3) k3, .int .i64 b.B.length]) (t := 65) (fr := (0, 0)) (heap_alloc_new _ _)) (by simp [Value.oneCell']) (by omega) (by simp [maxLen]; omega) (by omega) (by simp; omega) (W2.heap.size + 1) (by simp) ?_; intro gg cap w1 hown1 hgrow hat hlt; have k1' : w1.cell? ⟨wb, 2, none⟩ = some (.slice qi b.B.length ki) := (hgrow.cell_far _ (by simp; omega) (unhide wne)).trans (cell_later (Below.refl _ _ |>.alloc (Nat.le_refl _) _ |>.drew) e3); have z1 : w1.frozen? ⟨wb, 2, none⟩ = false := (hgrow.frozen_far _ (by simp; omega) (unhide wne)).trans (zf _)))
  all_goals
    go_wp2_with fail
    go_end0
    subst hZ1
    exact ⟨rfl, _, BookAt.putB (unhide HB) (unhide HF) (unhide HO).lt' (by omega) (unhide HW) (((unhide BB).alloc (by omega) _).drew) (by rw [unhide HVI]; exact hgrow) hown1 (by rw [unhide HVI]; exact hat.imp id (fun e => by rw [e]; simp))⟩
theorem Tryz.infoNetsR : (Tryz.prog.info? 69).map (fun i => (i.zero, i.size, i.bytes)) = some (some (.agg #[.slice none 0 0, .slice none 0 0, .slice none 0 0, .slice none 0 0, .int .i64 0]), 5, 104) := by kernel_rfl
theorem OwnN.lt' {w : World} {base : Nat} {v : Value} {l : List (Int × Int)} (h : OwnN w base v l) : ∀ k, v.ownBlock = some k → k < w.heap.size := fun k hk => (h.lt k hk).2

set_option maxRecDepth 100000 in
set_option maxHeartbeats 1600000 in
theorem Book_net_any (b : Bk) (wb : Nat) (l : Value) (L : List (Int × Int)) (W : World) (base : Nat) (h : BookAt W wb b) (hf : FreeL wb b l) (ho : OwnN W base l L) (hb : base ≤ W.heap.size) (hl : L.length ≤ 16777216) (hc : b.cnt ≤ 16777216) :
    Calls Tryz.prog 38 #[.pointer (some ⟨wb, 2, none⟩), l] W fun e W' => e = .returned (.tuple #[]) ∧ ∃ b', BookAt W' wb b' ∧ PutR wb b b' l W W' := by
  obtain ⟨i0, hi0, hz0, hz1, hz2⟩ := info_parts Tryz.infoNetsR
  have HB := hide h
  have HF := hide hf
  have HO := hide ho
  have hcl : b.N.length ≤ 16777216 := by unfold Bk.cnt at hc; omega
  have c3 : W.cell? ⟨wb, 4, none⟩ = some b.vn := cell_of_heap h.blk
  obtain ⟨qi, ki, hvi⟩ := own_slice h.on
  rw [hvi] at c3
  have HVI := hide hvi
  obtain ⟨ql, kl, rfl⟩ := own_slice ho
  clear h hf ho hvi
  go_enter Tryz.func38, Tryz.ntmps38
  go_wp2_with fail
  refine (ownNets_any b.N.length L _ W base (by omega) (unhide HO) hb hl).mono ?_
  rintro e W1 ⟨v1, v2, v3, rfl, hown⟩
  have HW := hide hown
  obtain ⟨p1, k1, rfl⟩ := hown.m1.1.rep
  obtain ⟨p2, k2, rfl⟩ := hown.m2.1.rep
  obtain ⟨p3, k3, rfl⟩ := hown.m3.1.rep
  clear hown
  have hwl : (Value.slice ql L.length kl).ownBlock ≠ some wb := fun e => (unhide HF wb e).1 (Or.inl rfl)
  have hlw : wb < W.heap.size := heap_lt (unhide HB).blk
  have hs1 := (unhide HW).fr.size
  have q1 := ((unhide HW).fr.block wb hlw hwl).trans (unhide HB).blk
  have d3 : W1.cell? ⟨wb, 4, none⟩ = some (.slice qi b.N.length ki) := by rw [← unhide HVI]; exact cell_of_heap q1
  have z3 : W1.frozen? ⟨wb, 4, none⟩ = false := frozen_of_heap q1
  have OI := hide (show W1.ownsRow (wb + 1) 69 5 (.slice qi b.N.length ki) b.N.length (recCells b.N) from by
    rw [← unhide HVI]
    exact owns_of (unhide HB).on (fun k e => (unhide HW).fr.block k ((unhide HB).on.lt k e).2 (fun e2 => (unhide HF k e2).1 (Or.inr (Or.inr (Or.inr e))))))
  obtain ⟨W2, hW2⟩ : ∃ W2, W1.alloc (.cells #[.slice ql L.length kl, .slice p1 (L.length + 1) k1, .slice p2 (L.length + 2) k2, .slice p3 (L.length + 3) k3, .int .i64 b.N.length] 69) = W2 := ⟨_, rfl⟩
  have Q2 := heap_alloc_new W1 (.cells #[.slice ql L.length kl, .slice p1 (L.length + 1) k1, .slice p2 (L.length + 2) k2, .slice p3 (L.length + 3) k3, .int .i64 b.N.length] 69)
  have B2 := (Below.refl W1.heap.size W1).alloc (Nat.le_refl _) (.cells #[.slice ql L.length kl, .slice p1 (L.length + 1) k1, .slice p2 (L.length + 2) k2, .slice p3 (L.length + 3) k3, .int .i64 b.N.length] 69)
  rw [hW2] at Q2 B2
  have HW2 := hide hW2
  have l12 : W1.heap.size < W2.heap.size := heap_lt Q2
  have O2 := hide (owns_of (unhide OI) (fun k e => B2.block k ((unhide OI).lt k e).2))
  have wne := hide (show some wb ≠ (Value.slice qi b.N.length ki).ownBlock from fun e => by have := ((unhide OI).lt wb e.symm).1; omega)
  have BB := hide B2
  clear hW2
  go_wp2_with fail
  rw [unhide HW2]
  obtain ⟨t0, t1, t2, t3, t4⟩ := five_cells Q2
  have e3 : W2.cell? ⟨wb, 4, none⟩ = some (.slice qi b.N.length ki) := (B2.cell (p := ⟨wb, 4, none⟩) (by show wb < _; omega)).trans d3
  have y3 : W2.frozen? ⟨wb, 4, none⟩ = false := (B2.frozen (p := ⟨wb, 4, none⟩) (by show wb < _; omega)).trans z3
  have zf : ∀ ob, (W2.alloc ob).frozen? ⟨wb, 4, none⟩ = false := fun ob => (World.frozen?_alloc_old W2 ob ⟨wb, 4, none⟩ (Nat.ne_of_lt (by show wb < _; omega))).trans y3
  have lwb : wb < W2.heap.size := by omega
  generalize hZ1 : W1.heap.size = Z1 at *
  clear d3 z3 q1 Q2 B2 c3
  go_region_law ((refine step_append_lies _ (by rfl) _ _ _ (by rfl) (wb + 1) 69 i0 _ 5 104 Tryz.underlying41 hi0 hz0 hz1 hz2 rfl (by omega) (.slice qi b.N.length ki) b.N.length (recCells b.N) (by rfl) (((unhide O2).alloc _).drew) ⟨W2.heap.size, 0, none⟩ 1 1 [.slice ql L.length kl, .slice p1 (L.length + 1) k1, .slice p2 (L.length + 2) k2, .slice p3 (L.length + 3) k3, .int .i64 b.N.length] (by rfl) (by rfl) (World.news_of_block (cs := #[.slice ql L.length kl, .slice p1 (L.length + 1) k1, .slice p2 (L.length + 2) k2, .slice p3 (L.length + 3) k3, .int .i64 b.N.length]) (t := 69) (fr := (0, 0)) (heap_alloc_new _ _)) (by simp [Value.oneCell']) (by omega) (by simp [maxLen]; omega) (by omega) (by simp; omega) (W2.heap.size + 1) (by simp) ?_; intro gg cap w1 hown1 hgrow hat hlt; have k1' : w1.cell? ⟨wb, 4, none⟩ = some (.slice qi b.N.length ki) := (hgrow.cell_far _ (by simp; omega) (unhide wne)).trans (cell_later (Below.refl _ _ |>.alloc (Nat.le_refl _) _ |>.drew) e3); have z1 : w1.frozen? ⟨wb, 4, none⟩ = false := (hgrow.frozen_far _ (by simp; omega) (unhide wne)).trans (zf _)))
  all_goals
    go_wp2_with fail
    go_end0
    subst hZ1
    exact ⟨rfl, _, BookAt.putN (unhide HB) (unhide HF) (unhide HO).lt' (by omega) (unhide HW) (((unhide BB).alloc (by omega) _).drew) (by rw [unhide HVI]; exact hgrow) hown1 (by rw [unhide HVI]; exact hat.imp id (fun e => by rw [e]; simp))⟩
end Go.Proofs.YtgdeeodifnegiaaGreatDoor
