/- A policy of the document is run: statements (run.go: do): if. -/
import Derived.Test.YtgdeeodifnegiaaGreatDoorRnN
namespace Go.Proofs.YtgdeeodifnegiaaGreatDoor.rf
open Go.RowKit

set_option maxRecDepth 100000 in
set_option maxHeartbeats 6400000 in
theorem do_if {P : Nat → Nat → World → Prop} (hP : ∀ sb pb w w', P sb pb w → Fr (Sb sb) w (Sb sb) w' → P sb pb w') {c y : Tr} {rest : List Tr} {cm : CndM} {yes no : List StpM} (IC : CndR P c cm) (IY : StpR P y (performM yes)) (hz : (rest = [] ∧ no = []) ∨ ∃ z, rest = [z] ∧ StpR P z (performM no)) (op : ByteArray) (hop : op = wIf) :
    StpR P (.mk op nB 0 0 (c :: y :: rest)) (chooseM cm yes no) := by
  intro w Q v sb pb R pv mv hQ hp0 ht hR hs
  have e0 : (op.toList == [97, 99, 99, 101, 112, 116]) = false := by rw [hop]; decide +kernel
  have e1 : (op.toList == [114, 101, 106, 101, 99, 116]) = false := by rw [hop]; decide +kernel
  have e2 : (op.toList == [112, 114, 101, 102]) = false := by rw [hop]; decide +kernel
  have e3 : (op.toList == [109, 101, 100]) = false := by rw [hop]; decide +kernel
  have e4 : (op.toList == [109, 97, 114, 107]) = false := by rw [hop]; decide +kernel
  have e5 : (op.toList == [117, 110, 109, 97, 114, 107]) = false := by rw [hop]; decide +kernel
  have e6 : (op.toList == [112, 114, 101, 112, 101, 110, 100]) = false := by rw [hop]; decide +kernel
  have e7 : (op.toList == [105, 102]) = true := by rw [hop]; decide +kernel
  obtain ⟨N, hN⟩ : ∃ N, (c :: y :: rest).length = N := ⟨_, rfl⟩
  have hN2 : 2 ≤ N := by rw [← hN]; simp
  have hN3 : N ≤ 3 := by rcases hz with ⟨h, _⟩ | ⟨z, h, _⟩ <;> rw [← hN, h] <;> simp
  obtain ⟨kv, g, rfl, hk⟩ := ht.kids (by simp)
  obtain ⟨cap, hkv⟩ := hk.sl
  rw [hN] at hkv
  subst hkv
  have lsw := heap_lt hs.blk
  have hA : Below w.heap.size w (w.alloc (.cells (treeCells op nB 0 0 (.slice (some ⟨g, 0, none⟩) N cap)) 115)) := (Below.refl _ _).alloc (Nat.le_refl _) _
  have q0 : (w.alloc (.cells (treeCells op nB 0 0 (.slice (some ⟨g, 0, none⟩) N cap)) 115)).heap[w.heap.size]? = some (.cells (treeCells op nB 0 0 (.slice (some ⟨g, 0, none⟩) N cap)) 115 (0, 0)) := heap_alloc_new _ _
  have hk1 := hk.fr hQ (fr_sb hA)
  have hs1 := hs.below hA
  have hp1 := hP _ _ _ _ hp0 (fr_sb hA)
  obtain ⟨WA, hWA⟩ : ∃ WA, w.alloc (.cells (treeCells op nB 0 0 (.slice (some ⟨g, 0, none⟩) N cap)) 115) = WA := ⟨_, rfl⟩
  have HWA := hide hWA
  rw [hWA] at q0 hk1 hs1 hA hp1
  have HF := hide (show Fr (Sb sb) w (Sb sb) WA from fr_sb hA)
  obtain ⟨p0, p1, p2, p3, p4, c0, c1, c2, c3, c4, t0⟩ := hk1.at_ 0 (by simp)
  have k0 : WA.cell? ⟨w.heap.size, 0, none⟩ = some (.string op) := cell_of_heap q0
  have k4 : WA.cell? ⟨w.heap.size, 4, none⟩ = some (.slice (some ⟨g, 0, none⟩) N cap) := cell_of_heap q0
  have CALL := hide (IC _ _ _ _ _ _ _ _ (Or.inl hQ) hp1 t0 hR hs1)
  have HK := hide hk1
  have HPP := hide hp1
  have HQ := hide hQ
  have Q0 := hide q0
  have HIY := hide IY
  have HZ := hide hz
  have HR := hide hR
  have HN := hide hN
  have lA : w.heap.size < WA.heap.size := heap_lt q0
  have lg := hk1.lt
  simp only [Nat.zero_mul, Nat.zero_add] at c0 c1 c2 c3 c4
  clear hk hk1 hs hs1 hA ht t0 q0 hQ IC IY hop hWA hp0 hp1 hz hR hN
  go_enter Tryz.func97, Tryz.ntmps97
  go_upto_region 1 with fail
  rw [unhide HWA]
  go_wp2_with fail
  refine (unhide CALL).mono ?_
  rintro e w1 ⟨x1, v1, rfl, hs1, hf1, hm1⟩
  have c7 : w1.cell? ⟨sb, 7, none⟩ = some (.int .i64 v1) := cell_of_heap hs1.blk
  have l1 : sb < w1.heap.size := heap_lt hs1.blk
  have hk1 := (unhide HK).fr (Or.inl (unhide HQ)) hf1
  have q1 : w1.heap[w.heap.size]? = _ := (hf1.block w.heap.size lA (by show ¬ w.heap.size = sb; omega)).trans (unhide Q0)
  have n4 : w1.cell? ⟨w.heap.size, 4, none⟩ = some (.slice (some ⟨g, 0, none⟩) N cap) := cell_of_heap q1
  have HS1 := hide hs1
  have F1 := hide ((unhide HF).trans hf1)
  have HK1 := hide hk1
  have PP1 := hide (hP _ _ _ _ (unhide HPP) hf1)
  have lg1 := hk1.lt
  have lw1 : w.heap.size < w1.heap.size := heap_lt q1
  clear hs1 hf1 hk1 q1 c0 c1 c2 c3 c4 k0 k4 HK HPP CALL
  rcases hm1 with ⟨hm1, rfl⟩ | ⟨hm1, rfl⟩
  · cases x1
    · have FIN := hide (show chooseM cm yes no R = performM no R from by simp only [chooseM, hm1])
      clear hm1
      rcases unhide HZ with ⟨hr, hno⟩ | ⟨z, hr, IZ⟩
      · have hN' : N = 2 := by rw [← unhide HN, hr]; rfl
        subst hN'
        go_wp2_with fail
        go_end0
        rw [unhide FIN, hno]
        exact ⟨rfl, _, _, unhide HS1, unhide F1⟩
      · have hN' : N = 3 := by rw [← unhide HN, hr]; rfl
        subst hN'
        subst hr
        obtain ⟨r0, r1, r2, r3, r4, d0, d1, d2, d3, d4, t1⟩ := (unhide HK1).at_ 2 (by simp)
        have CZ := hide (IZ _ _ _ _ _ _ _ _ (Or.inl (Or.inl (unhide HQ))) (unhide PP1) t1 (unhide HR) (unhide HS1))
        simp only [Nat.reduceMul, Nat.reduceAdd] at d0 d1 d2 d3 d4
        clear t1 IZ HZ
        go_wp2_with fail
        refine (unhide CZ).mono ?_
        rintro e w2 ⟨rfl, pv2, mv2, hs2, hf2⟩
        have HS2 := hide hs2
        have F2 := hide ((unhide F1).trans hf2)
        clear hs2 hf2 d0 d1 d2 d3 d4 n4 c7 CZ
        go_wp2_with fail
        go_end0
        rw [unhide FIN]
        exact ⟨rfl, _, _, unhide HS2, unhide F2⟩
    · have FIN := hide (show chooseM cm yes no R = performM yes R from by simp only [chooseM, hm1])
      obtain ⟨r0, r1, r2, r3, r4, d0, d1, d2, d3, d4, t1⟩ := (unhide HK1).at_ 1 (by simp)
      have CY := hide (unhide HIY _ _ _ _ _ _ _ _ (Or.inl (Or.inl (unhide HQ))) (unhide PP1) t1 (unhide HR) (unhide HS1))
      simp only [Nat.one_mul, Nat.reduceAdd] at d0 d1 d2 d3 d4
      clear hm1 t1
      go_wp2_with fail
      refine (unhide CY).mono ?_
      rintro e w2 ⟨rfl, pv2, mv2, hs2, hf2⟩
      have HS2 := hide hs2
      have F2 := hide ((unhide F1).trans hf2)
      clear hs2 hf2 d0 d1 d2 d3 d4 n4 c7 CY
      go_wp2_with fail
      go_end0
      rw [unhide FIN]
      exact ⟨rfl, _, _, unhide HS2, unhide F2⟩
  · have FIN := hide (show chooseM cm yes no R = (R, 3) from by simp only [chooseM, hm1])
    clear hm1
    go_wp2_with fail
    go_end0
    rw [unhide FIN]
    exact ⟨rfl, _, _, unhide HS1, unhide F1⟩
end Go.Proofs.YtgdeeodifnegiaaGreatDoor.rf
