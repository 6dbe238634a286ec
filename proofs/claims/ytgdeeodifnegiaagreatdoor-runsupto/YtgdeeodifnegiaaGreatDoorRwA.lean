/- Two routes alike, to the law (package bywaylaw: sameInts, sameRoute). -/
import Derived.Test.YtgdeeodifnegiaaGreatDoorRnB
import Derived.Test.YtgdeeodifnegiaaGreatDoorRunG
namespace Go.Proofs.YtgdeeodifnegiaaGreatDoor
open Go.RowKit

set_option maxRecDepth 100000 in
set_option maxHeartbeats 3200000 in
theorem sameI (a : List Int) (x y : Value) (w : World) (ha : w.ownsRow 0 3 1 x a.length (rf.intCells a)) (hb : w.ownsRow 0 3 1 y a.length (rf.intCells a)) :
    Calls Tryz.prog 87 #[x, y] w fun e w' => e = .returned (.bool true) ∧ Below w.heap.size w w' := by
  have hmx := rf.own_max ha
  obtain ⟨p, c, rfl⟩ := rf.owns_sl ha
  obtain ⟨q, d, rfl⟩ := rf.owns_sl hb
  have HA := hide ha
  have HB := hide hb
  clear ha hb
  go_enter Tryz.func87, Tryz.ntmps87
  go_wp2_with fail
  go_loopg [5] a.length (fun k b5 wr => ∃ i : Nat, i + k = a.length ∧ b5 = .int .i64 i ∧ Below w.heap.size w wr)
  case atStart => exact ⟨0, by omega, rfl, Below.refl _ _⟩
  case round =>
    rename World => WR
    obtain ⟨i, hik, rfl, hbl⟩ := hrel
    have BL := hide hbl
    by_cases hi : i < a.length
    · obtain ⟨g, gc, hg, lg, cg⟩ := rf.own_get (unhide HA) hi
      obtain ⟨f, fc, hf, lf, cf⟩ := rf.own_get (unhide HB) hi
      simp only [Value.slice.injEq] at hg hf
      obtain ⟨rfl, -, rfl⟩ := hg
      obtain ⟨rfl, -, rfl⟩ := hf
      have c1 := cell_later hbl cg
      have c2 := cell_later hbl cf
      have l1 : g < WR.heap.size := Nat.lt_of_lt_of_le lg hbl.size
      have l2 : f < WR.heap.size := Nat.lt_of_lt_of_le lf hbl.size
      clear hbl cg cf lg lf
      generalize a[i] = z at *
      go_wp2_with fail
      go_quiet ((fail))
      go_wp2_with fail
      go_roundg (a.length - (i + 1))
      case measure => omega
      case rel => exact ⟨i + 1, by omega, by go_num, below_drewN (unhide BL) _⟩
    · go_wp2_with fail
      go_ret
      exact ⟨rfl, unhide BL⟩
set_option maxRecDepth 100000 in
set_option maxHeartbeats 3200000 in
theorem sameR (R : Rt) (p m q n : Value) (w : World) (h1 : w.ownsRow 0 3 1 p R.path.length (rf.intCells R.path)) (h2 : w.ownsRow 0 3 1 m R.marks.length (rf.intCells R.marks)) (h3 : w.ownsRow 0 3 1 q R.path.length (rf.intCells R.path)) (h4 : w.ownsRow 0 3 1 n R.marks.length (rf.intCells R.marks)) :
    Calls Tryz.prog 46 #[rtV R p m, rtV R q n] w fun e w' => e = .returned (.bool true) ∧ Below w.heap.size w w' := by
  obtain ⟨p1, k1, rfl⟩ := rf.owns_sl h1
  obtain ⟨p2, k2, rfl⟩ := rf.owns_sl h2
  obtain ⟨p3, k3, rfl⟩ := rf.owns_sl h3
  obtain ⟨p4, k4, rfl⟩ := rf.owns_sl h4
  obtain ⟨q1, q2, qs⟩ := two_new w (rtBlk R (.slice p1 R.path.length k1) (.slice p2 R.marks.length k2)) (rtBlk R (.slice p3 R.path.length k3) (.slice p4 R.marks.length k4))
  obtain ⟨W0, hW0⟩ : ∃ W0, (w.alloc (rtBlk R (.slice p1 R.path.length k1) (.slice p2 R.marks.length k2))).alloc (rtBlk R (.slice p3 R.path.length k3) (.slice p4 R.marks.length k4)) = W0 := ⟨_, rfl⟩
  have hb0 : Below w.heap.size w W0 := by rw [← hW0]; exact ((Below.refl _ _).alloc (Nat.le_refl _) _).alloc (by rw [World.size_alloc]; omega) _
  rw [hW0] at q1 q2 qs
  have HQ1 := hide q1
  have HQ2 := hide q2
  have HB0 := hide hb0
  have HW0 := hide hW0
  have S1 := hide (sameI R.path _ _ W0 (owns_of h1 (fun k hk => hb0.block k (h1.lt k hk).2)) (owns_of h3 (fun k hk => hb0.block k (h3.lt k hk).2)))
  have H2 := hide h2
  have H4 := hide h4
  obtain ⟨c0, c1, c2, c3, c4, c5, cz⟩ := rt6 q1
  obtain ⟨d0, d1, d2, d3, d4, d5, dz⟩ := rt6 q2
  clear h1 h2 h3 h4 q1 q2 hb0
  unfold rtBlk at hW0
  go_enter Tryz.func46, Tryz.ntmps46
  go_wp2_with fail
  refine (unhide S1).mono ?_
  rintro e w1 ⟨rfl, hb1⟩
  have r1 := (hb1.block w.heap.size (by omega)).trans (unhide HQ1)
  have r2 := (hb1.block (w.heap.size + 1) (by omega)).trans (unhide HQ2)
  have hs1 := hb1.size
  have hB1 := (unhide HB0).trans (hb1.mono (unhide HB0).size)
  have HB1 := hide hB1
  have S2 := hide (sameI R.marks _ _ w1 (owns_of (unhide H2) (fun k hk => hB1.block k ((unhide H2).lt k hk).2)) (owns_of (unhide H4) (fun k hk => hB1.block k ((unhide H4).lt k hk).2)))
  have R1 := hide r1
  have R2 := hide r2
  clear c0 c1 c2 c3 c4 c5 d0 d1 d2 d3 d4 d5 cz dz
  obtain ⟨c0, c1, c2, c3, c4, c5, cz⟩ := rt6 r1
  obtain ⟨d0, d1, d2, d3, d4, d5, dz⟩ := rt6 r2
  clear hb1 r1 r2 hB1
  go_wp2_with fail
  refine (unhide S2).mono ?_
  rintro e w2 ⟨rfl, hb2⟩
  have r1 := (hb2.block w.heap.size (by omega)).trans (unhide R1)
  have r2 := (hb2.block (w.heap.size + 1) (by omega)).trans (unhide R2)
  have hs2 := hb2.size
  have HB2 := hide ((unhide HB1).trans (hb2.mono (unhide HB1).size))
  clear c0 c1 c2 c3 c4 c5 d0 d1 d2 d3 d4 d5 cz dz
  obtain ⟨c0, c1, c2, c3, c4, c5, cz⟩ := rt6 r1
  obtain ⟨d0, d1, d2, d3, d4, d5, dz⟩ := rt6 r2
  clear hb2 r1 r2
  go_wp2_with fail
  go_ret
  exact ⟨rfl, unhide HB2⟩
end Go.Proofs.YtgdeeodifnegiaaGreatDoor
