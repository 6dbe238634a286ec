/- A policy of the document is run: conditions (run.go: cond), but for sets and ways. -/
import Derived.Test.YtgdeeodifnegiaaGreatDoorRnH
namespace Go.Proofs.YtgdeeodifnegiaaGreatDoor.rf
open Go.RowKit

def CndP (w : World) (sb pb : Nat) (R : Rt) (pv mv : Value) (o : Option Bool) (e : Ending) (w' : World) : Prop := ∃ (x : Bool) (ver : Int), e = .returned (.bool x) ∧ StA w' sb pb R pv mv ver ∧ Fr (Sb sb) w (Sb sb) w' ∧ ((o = some x ∧ ver = 0) ∨ (o = none ∧ ver = 3))
/-- a route as a policy may leave it -/
structure RtOk (R : Rt) : Prop where
  path : R.path.length ≤ 12
  marks : R.marks.length ≤ 8
  rise : R.marks.Pairwise (· < ·)
  net : NetN R.addr R.len
/-- is a condition so? P: what is known of the policy itself -/
def CndR (P : Nat → Nat → World → Prop) (t : Tr) (m : CndM) : Prop := ∀ (w : World) (Q : Nat → Prop) (v : Value) (sb pb : Nat) (R : Rt) (pv mv : Value), Q sb → P sb pb w → TrAt w Q t v → RtOk R → StA w sb pb R pv mv 0 →
  Calls Tryz.prog 153 #[ptr sb, v] w (CndP w sb pb R pv mv (m R))
theorem markAt_iff (l : List Int) (n : Int) : decide (0 ≤ markAt l n) = l.contains n := by
  rw [Bool.eq_iff_iff, decide_eq_true_eq]
  by_cases h : n ∈ l
  · exact ⟨fun _ => by simpa using h, fun _ => markAt_ge h⟩
  · rw [markAt_lt h]
    exact ⟨fun h' => by omega, fun h' => absurd (by simpa using h') h⟩
set_option maxRecDepth 100000 in
set_option maxHeartbeats 3200000 in
theorem cnd_marked (P : Nat → Nat → World → Prop) (n a : Int) : CndR P (.mk wMarked nB n a []) (markedM n) := by
  intro w Q v sb pb R pv mv hQ _ ht _ hs
  obtain ⟨op, hop⟩ : ∃ op, wMarked = op := ⟨_, rfl⟩
  have e0 : (op.toList == [105, 110]) = false := by rw [← hop]; decide +kernel
  have e1 : (op.toList == [108, 105, 107, 101]) = false := by rw [← hop]; decide +kernel
  have e2 : (op.toList == [109, 97, 114, 107, 101, 100]) = true := by rw [← hop]; decide +kernel
  rw [hop] at ht
  rw [TrAt] at ht
  obtain ⟨kv, xs, rfl, _, _, _⟩ := ht
  have hA : Below w.heap.size w (w.alloc (.cells (treeCells op nB n a kv) 115)) := (Below.refl _ _).alloc (Nat.le_refl _) _
  have H1 := hide (hs.below hA)
  have MK := hide (marked_any (hs.below hA) n)
  have HF := hide (show Fr (Sb sb) w (Sb sb) _ from fr_sb hA)
  have FIN := hide (show markedM n R = some (decide (0 ≤ markAt R.marks n)) from by unfold markedM; rw [markAt_iff])
  clear hs hA hop hQ
  generalize markAt R.marks n = q at *
  go_enter Tryz.func153, Tryz.ntmps153
  go_wp2_with fail
  refine (unhide MK).mono ?_
  rintro e w1 ⟨rfl, rfl⟩
  go_wp2_with fail
  go_ret
  exact ⟨decide (0 ≤ q), 0, rfl, unhide H1, unhide HF, Or.inl ⟨unhide FIN, rfl⟩⟩
set_option maxRecDepth 100000 in
set_option maxHeartbeats 3200000 in
theorem cnd_cmp (P : Nat → Nat → World → Prop) {x y : Tr} {a b : AmtM} (IA : SumR x a) (IB : SumR y b) (op : ByteArray) (eq : Bool) (f : Int → Int → Bool) (hop : (op = wEq ∧ eq = true ∧ f = fun x y => decide (x = y)) ∨ (op = wLess ∧ eq = false ∧ f = fun x y => decide (x < y))) : CndR P (.mk op nB 0 0 [x, y]) (cmpM f a b) := by
  intro w Q v sb pb R pv mv hQ _ ht _ hs
  have e0 : (op.toList == [105, 110]) = false := by rcases hop with ⟨rfl, _⟩ | ⟨rfl, _⟩ <;> decide +kernel
  have e1 : (op.toList == [108, 105, 107, 101]) = false := by rcases hop with ⟨rfl, _⟩ | ⟨rfl, _⟩ <;> decide +kernel
  have e2 : (op.toList == [109, 97, 114, 107, 101, 100]) = false := by rcases hop with ⟨rfl, _⟩ | ⟨rfl, _⟩ <;> decide +kernel
  have e3 : (op.toList == [61]) = eq := by rcases hop with ⟨rfl, rfl, _⟩ | ⟨rfl, rfl, _⟩ <;> decide +kernel
  have e4 : (op.toList == [60]) = !eq := by rcases hop with ⟨rfl, rfl, _⟩ | ⟨rfl, rfl, _⟩ <;> decide +kernel
  have hf : ∀ p q, f p q = if eq = true then (p == q) else decide (p < q) := fun p q => by
    rcases hop with ⟨_, rfl, rfl⟩ | ⟨_, rfl, rfl⟩
    · rw [if_pos rfl, Bool.eq_iff_iff]; simp
    · rw [if_neg (by decide)]
  obtain ⟨kv, g, rfl, hk⟩ := ht.kids (by simp)
  obtain ⟨cap, hkv⟩ := hk.sl
  obtain rfl : kv = .slice (some ⟨g, 0, none⟩) 2 cap := by simpa using hkv
  have lsb := heap_lt hs.blk
  have hA : Below w.heap.size w (w.alloc (.cells (treeCells op nB 0 0 (.slice (some ⟨g, 0, none⟩) 2 cap)) 115)) := (Below.refl _ _).alloc (Nat.le_refl _) _
  have q0 : (w.alloc (.cells (treeCells op nB 0 0 (.slice (some ⟨g, 0, none⟩) 2 cap)) 115)).heap[w.heap.size]? = some (.cells (treeCells op nB 0 0 (.slice (some ⟨g, 0, none⟩) 2 cap)) 115 (0, 0)) := heap_alloc_new _ _
  have hk1 := hk.fr hQ (fr_sb hA)
  have hs1 := hs.below hA
  obtain ⟨WA, hWA⟩ : ∃ WA, w.alloc (.cells (treeCells op nB 0 0 (.slice (some ⟨g, 0, none⟩) 2 cap)) 115) = WA := ⟨_, rfl⟩
  have HWA := hide hWA
  rw [hWA] at q0 hk1 hs1 hA
  have HA := hide hA
  obtain ⟨p0, p1, p2, p3, p4, c0, c1, c2, c3, c4, t0⟩ := hk1.at_ 0 (by simp)
  have k0 : WA.cell? ⟨w.heap.size, 0, none⟩ = some (.string op) := cell_of_heap q0
  have k4 : WA.cell? ⟨w.heap.size, 4, none⟩ = some (.slice (some ⟨g, 0, none⟩) 2 cap) := cell_of_heap q0
  have HK := hide hk1
  have HS := hide hs1
  have T0 := hide t0
  have HQ := hide hQ
  have Q0 := hide q0
  have HIA := hide IA
  have HIB := hide IB
  have HFF := hide hf
  have lA : w.heap.size < WA.heap.size := heap_lt q0
  have lg := hk1.lt
  simp only [Nat.zero_mul, Nat.zero_add] at c0 c1 c2 c3 c4
  clear hk hk1 hs hs1 hA ht t0 q0 hQ IA IB hop hWA hkv hf
  cases eq
  all_goals
    simp only [Bool.not_true, Bool.not_false] at e4
    go_enter Tryz.func153, Tryz.ntmps153
    go_upto_region 1 with fail
    rw [unhide HWA]
    go_wp2_with fail
    refine (unhide HIA _ _ _ _ _ _ _ _ (Or.inl (unhide HQ)) (unhide T0) (unhide HS)).mono ?_
    rintro e w1 ⟨x1, v1, rfl, hs1, hf1, hm1⟩
    have c7 : w1.cell? ⟨sb, 7, none⟩ = some (.int .i64 v1) := cell_of_heap hs1.blk
    have l1 : sb < w1.heap.size := heap_lt hs1.blk
    have HS1 := hide hs1
    have F1 := hide ((fr_sb (unhide HA)).trans hf1)
    have hk1 := (unhide HK).fr (Or.inl (unhide HQ)) hf1
    have q1 : w1.heap[w.heap.size]? = _ := (hf1.block w.heap.size lA (by omega)).trans (unhide Q0)
    obtain ⟨r0, r1, r2, r3, r4, d0, d1, d2, d3, d4, t1⟩ := hk1.at_ 1 (by simp)
    have n4 : w1.cell? ⟨w.heap.size, 4, none⟩ = some (.slice (some ⟨g, 0, none⟩) 2 cap) := cell_of_heap q1
    have T1 := hide t1
    have Q1 := hide q1
    have lg1 := hk1.lt
    have lw1 : w.heap.size < w1.heap.size := heap_lt q1
    simp only [Nat.one_mul] at d0 d1 d2 d3 d4
    clear hs1 hf1 hk1 q1 t1 c0 c1 c2 c3 c4 k0 k4 HK
    rcases hm1 with ⟨hm1, rfl⟩ | ⟨hm1, rfl⟩
    · go_wp2_with fail
      refine (unhide HIB _ _ _ _ _ _ _ _ (Or.inl (Or.inl (unhide HQ))) (unhide T1) (unhide HS1)).mono ?_
      rintro e w2 ⟨x2, v2, rfl, hs2, hf2, hm2⟩
      have q2 : w2.heap[w.heap.size]? = _ := (hf2.block w.heap.size lw1 (by omega)).trans (unhide Q1)
      have o0 : w2.cell? ⟨w.heap.size, 0, none⟩ = some (.string op) := cell_of_heap q2
      have lw2 : w.heap.size < w2.heap.size := heap_lt q2
      have HS2 := hide hs2
      have F2 := hide ((unhide F1).trans hf2)
      have FIN := hide (show (cmpM f a b R = some (f x1 x2) ∧ v2 = 0) ∨ (cmpM f a b R = none ∧ v2 = 3) from by
        rcases hm2 with ⟨h2, h3⟩ | ⟨h2, h3⟩
        · exact Or.inl ⟨by simp only [cmpM, hm1, h2], h3⟩
        · exact Or.inr ⟨by simp only [cmpM, hm1, h2], h3⟩)
      rw [unhide HFF] at FIN
      clear hs2 hf2 q2 n4 d0 d1 d2 d3 d4 c7 hm2 hm1
      first
        | (cases hb : (x1 == x2) <;> rw [hb] at FIN)
        | skip
      all_goals
        go_wp2_with fail
        all_goals
          go_ret
          exact ⟨_, v2, rfl, unhide HS2, unhide F2, by simpa only [if_true, if_false, Bool.false_eq_true] using unhide FIN⟩
    · go_wp2_with fail
      go_ret
      exact ⟨false, 3, rfl, unhide HS1, unhide F1, Or.inr ⟨by simp only [cmpM, hm1], rfl⟩⟩
set_option maxRecDepth 100000 in
set_option maxHeartbeats 3200000 in
theorem cnd_not {P : Nat → Nat → World → Prop} (hP : ∀ sb pb w w', P sb pb w → Fr (Sb sb) w (Sb sb) w' → P sb pb w') {x : Tr} {a : CndM} (IA : CndR P x a) (op : ByteArray) (hop : op = wNot) : CndR P (.mk op nB 0 0 [x]) (notM a) := by
  intro w Q v sb pb R pv mv hQ hp0 ht hR0 hs
  have HRO := hide hR0
  clear hR0
  have e0 : (op.toList == [105, 110]) = false := by rw [hop]; decide +kernel
  have e1 : (op.toList == [108, 105, 107, 101]) = false := by rw [hop]; decide +kernel
  have e2 : (op.toList == [109, 97, 114, 107, 101, 100]) = false := by rw [hop]; decide +kernel
  have e3 : (op.toList == [61]) = false := by rw [hop]; decide +kernel
  have e4 : (op.toList == [60]) = false := by rw [hop]; decide +kernel
  have e5 : (op.toList == [97, 110, 100]) = false := by rw [hop]; decide +kernel
  have e6 : (op.toList == [111, 114]) = false := by rw [hop]; decide +kernel
  have e7 : (op.toList == [110, 111, 116]) = true := by rw [hop]; decide +kernel
  obtain ⟨kv, g, rfl, hk⟩ := ht.kids (by simp)
  obtain ⟨cap, hkv⟩ := hk.sl
  obtain rfl : kv = .slice (some ⟨g, 0, none⟩) 1 cap := by simpa using hkv
  have lsb := heap_lt hs.blk
  have hA : Below w.heap.size w (w.alloc (.cells (treeCells op nB 0 0 (.slice (some ⟨g, 0, none⟩) 1 cap)) 115)) := (Below.refl _ _).alloc (Nat.le_refl _) _
  have q0 : (w.alloc (.cells (treeCells op nB 0 0 (.slice (some ⟨g, 0, none⟩) 1 cap)) 115)).heap[w.heap.size]? = some (.cells (treeCells op nB 0 0 (.slice (some ⟨g, 0, none⟩) 1 cap)) 115 (0, 0)) := heap_alloc_new _ _
  have hk1 := hk.fr hQ (fr_sb hA)
  have hs1 := hs.below hA
  have hp1 := hP _ _ _ _ hp0 (fr_sb hA)
  obtain ⟨WA, hWA⟩ : ∃ WA, w.alloc (.cells (treeCells op nB 0 0 (.slice (some ⟨g, 0, none⟩) 1 cap)) 115) = WA := ⟨_, rfl⟩
  have HWA := hide hWA
  rw [hWA] at q0 hk1 hs1 hA hp1
  have HA := hide hA
  obtain ⟨p0, p1, p2, p3, p4, c0, c1, c2, c3, c4, t0⟩ := hk1.at_ 0 (by simp)
  have k0 : WA.cell? ⟨w.heap.size, 0, none⟩ = some (.string op) := cell_of_heap q0
  have k4 : WA.cell? ⟨w.heap.size, 4, none⟩ = some (.slice (some ⟨g, 0, none⟩) 1 cap) := cell_of_heap q0
  have HK := hide hk1
  have HPP := hide hp1
  have CALL := hide (IA _ _ _ _ _ _ _ _ (Or.inl hQ) hp1 t0 (unhide HRO) hs1)
  have HQ := hide hQ
  have Q0 := hide q0
  have lA : w.heap.size < WA.heap.size := heap_lt q0
  have lg := hk1.lt
  simp only [Nat.zero_mul, Nat.zero_add] at c0 c1 c2 c3 c4
  clear hk hk1 hs hs1 hA ht t0 q0 hQ IA hop hWA hkv hp0 hp1
  go_enter Tryz.func153, Tryz.ntmps153
  go_upto_region 1 with fail
  rw [unhide HWA]
  go_wp2_with fail
  refine (unhide CALL).mono ?_
  rintro e w1 ⟨x1, v1, rfl, hs1, hf1, hm1⟩
  have c7 : w1.cell? ⟨sb, 7, none⟩ = some (.int .i64 v1) := cell_of_heap hs1.blk
  have l1 : sb < w1.heap.size := heap_lt hs1.blk
  have HS1 := hide hs1
  have F1 := hide ((fr_sb (unhide HA)).trans hf1)
  have q1 : w1.heap[w.heap.size]? = _ := (hf1.block w.heap.size lA (by omega)).trans (unhide Q0)
  have n0 : w1.cell? ⟨w.heap.size, 0, none⟩ = some (.string op) := cell_of_heap q1
  have lw1 : w.heap.size < w1.heap.size := heap_lt q1
  clear hs1 hf1 q1 c0 c1 c2 c3 c4 k0 k4 HK
  rcases hm1 with ⟨hm1, rfl⟩ | ⟨hm1, rfl⟩
  · have FIN := hide (show notM a R = some (!x1) from by unfold notM; rw [hm1]; rfl)
    clear hm1
    cases x1
    all_goals
      go_wp2_with fail
      go_ret
      exact ⟨_, 0, rfl, unhide HS1, unhide F1, Or.inl ⟨unhide FIN, rfl⟩⟩
  · have FIN := hide (show notM a R = none from by unfold notM; rw [hm1]; rfl)
    clear hm1
    cases x1
    all_goals
      go_wp2_with fail
      go_ret
      exact ⟨_, 3, rfl, unhide HS1, unhide F1, Or.inr ⟨unhide FIN, rfl⟩⟩
set_option maxRecDepth 100000 in
set_option maxHeartbeats 3200000 in
theorem cnd_bin {P : Nat → Nat → World → Prop} (hP : ∀ sb pb w w', P sb pb w → Fr (Sb sb) w (Sb sb) w' → P sb pb w') {x y : Tr} {a b m : CndM} (IA : CndR P x a) (IB : CndR P y b) (op : ByteArray) (an : Bool) (hop : (op = wAnd ∧ an = true ∧ m = andM a b) ∨ (op = wOr ∧ an = false ∧ m = orM a b)) : CndR P (.mk op nB 0 0 [x, y]) m := by
  intro w Q v sb pb R pv mv hQ hp0 ht hR0 hs
  have HRO := hide hR0
  clear hR0
  have e0 : (op.toList == [105, 110]) = false := by rcases hop with ⟨rfl, _⟩ | ⟨rfl, _⟩ <;> decide +kernel
  have e1 : (op.toList == [108, 105, 107, 101]) = false := by rcases hop with ⟨rfl, _⟩ | ⟨rfl, _⟩ <;> decide +kernel
  have e2 : (op.toList == [109, 97, 114, 107, 101, 100]) = false := by rcases hop with ⟨rfl, _⟩ | ⟨rfl, _⟩ <;> decide +kernel
  have e3 : (op.toList == [61]) = false := by rcases hop with ⟨rfl, _⟩ | ⟨rfl, _⟩ <;> decide +kernel
  have e4 : (op.toList == [60]) = false := by rcases hop with ⟨rfl, _⟩ | ⟨rfl, _⟩ <;> decide +kernel
  have e5 : (op.toList == [97, 110, 100]) = an := by rcases hop with ⟨rfl, rfl, _⟩ | ⟨rfl, rfl, _⟩ <;> decide +kernel
  have e6 : (op.toList == [111, 114]) = !an := by rcases hop with ⟨rfl, rfl, _⟩ | ⟨rfl, rfl, _⟩ <;> decide +kernel
  have e7 : (op.toList == [110, 111, 116]) = false := by rcases hop with ⟨rfl, _⟩ | ⟨rfl, _⟩ <;> decide +kernel
  have hm : m R = (match a R with | none => none | some z => if z = an then b R else some z) := by
    rcases hop with ⟨_, rfl, rfl⟩ | ⟨_, rfl, rfl⟩
    · unfold andM
      cases a R with
      | none => rfl
      | some z => cases z <;> rfl
    · unfold orM
      cases a R with
      | none => rfl
      | some z => cases z <;> rfl
  obtain ⟨kv, g, rfl, hk⟩ := ht.kids (by simp)
  obtain ⟨cap, hkv⟩ := hk.sl
  obtain rfl : kv = .slice (some ⟨g, 0, none⟩) 2 cap := by simpa using hkv
  have lsb := heap_lt hs.blk
  have hA : Below w.heap.size w (w.alloc (.cells (treeCells op nB 0 0 (.slice (some ⟨g, 0, none⟩) 2 cap)) 115)) := (Below.refl _ _).alloc (Nat.le_refl _) _
  have q0 : (w.alloc (.cells (treeCells op nB 0 0 (.slice (some ⟨g, 0, none⟩) 2 cap)) 115)).heap[w.heap.size]? = some (.cells (treeCells op nB 0 0 (.slice (some ⟨g, 0, none⟩) 2 cap)) 115 (0, 0)) := heap_alloc_new _ _
  have hk1 := hk.fr hQ (fr_sb hA)
  have hs1 := hs.below hA
  have hp1 := hP _ _ _ _ hp0 (fr_sb hA)
  obtain ⟨WA, hWA⟩ : ∃ WA, w.alloc (.cells (treeCells op nB 0 0 (.slice (some ⟨g, 0, none⟩) 2 cap)) 115) = WA := ⟨_, rfl⟩
  have HWA := hide hWA
  rw [hWA] at q0 hk1 hs1 hA hp1
  have HA := hide hA
  obtain ⟨p0, p1, p2, p3, p4, c0, c1, c2, c3, c4, t0⟩ := hk1.at_ 0 (by simp)
  have k0 : WA.cell? ⟨w.heap.size, 0, none⟩ = some (.string op) := cell_of_heap q0
  have k4 : WA.cell? ⟨w.heap.size, 4, none⟩ = some (.slice (some ⟨g, 0, none⟩) 2 cap) := cell_of_heap q0
  have HK := hide hk1
  have HPP := hide hp1
  have CALL := hide (IA _ _ _ _ _ _ _ _ (Or.inl hQ) hp1 t0 (unhide HRO) hs1)
  have HQ := hide hQ
  have Q0 := hide q0
  have lA : w.heap.size < WA.heap.size := heap_lt q0
  have lg := hk1.lt
  simp only [Nat.zero_mul, Nat.zero_add] at c0 c1 c2 c3 c4
  have HM := hide hm
  have HIB := hide IB
  clear hk hk1 hs hs1 hA ht t0 q0 hQ IA IB hop hWA hkv hp0 hp1 hm
  go_enter Tryz.func153, Tryz.ntmps153
  go_upto_region 1 with fail
  rw [unhide HWA]
  go_wp2_with fail
  refine (unhide CALL).mono ?_
  rintro e w1 ⟨x1, v1, rfl, hs1, hf1, hm1⟩
  have c7 : w1.cell? ⟨sb, 7, none⟩ = some (.int .i64 v1) := cell_of_heap hs1.blk
  have l1 : sb < w1.heap.size := heap_lt hs1.blk
  have HS1 := hide hs1
  have F1 := hide ((fr_sb (unhide HA)).trans hf1)
  have hk1 := (unhide HK).fr (Or.inl (unhide HQ)) hf1
  have q1 : w1.heap[w.heap.size]? = _ := (hf1.block w.heap.size lA (by omega)).trans (unhide Q0)
  obtain ⟨r0, r1, r2, r3, r4, d0, d1, d2, d3, d4, t1⟩ := hk1.at_ 1 (by simp)
  have n0 : w1.cell? ⟨w.heap.size, 0, none⟩ = some (.string op) := cell_of_heap q1
  have n4 : w1.cell? ⟨w.heap.size, 4, none⟩ = some (.slice (some ⟨g, 0, none⟩) 2 cap) := cell_of_heap q1
  have T1 := hide t1
  have PP1 := hide (hP _ _ _ _ (unhide HPP) hf1)
  have lg1 := hk1.lt
  have lw1 : w.heap.size < w1.heap.size := heap_lt q1
  simp only [Nat.one_mul] at d0 d1 d2 d3 d4
  clear hs1 hf1 hk1 q1 t1 c0 c1 c2 c3 c4 k0 k4 HK
  rcases hm1 with ⟨hm1, rfl⟩ | ⟨hm1, rfl⟩
  · by_cases hz : x1 = an
    · have FIN := hide (show m R = b R from by rw [unhide HM, hm1]; simp [hz])
      subst hz
      clear hm1 HM
      cases x1
      all_goals
        simp only [Bool.not_true, Bool.not_false] at e6
        go_wp2_with fail
        refine (unhide HIB _ _ _ _ _ _ _ _ (Or.inl (Or.inl (unhide HQ))) (unhide PP1) (unhide T1) (unhide HRO) (unhide HS1)).mono ?_
        rintro e w2 ⟨x2, v2, rfl, hs2, hf2, hm2⟩
        have HS2 := hide hs2
        have F2 := hide ((unhide F1).trans hf2)
        have HM2 := hide hm2
        clear hs2 hf2 hm2 d0 d1 d2 d3 d4 n0 n4 c7
        go_wp2_with fail
        go_ret
        exact ⟨x2, v2, rfl, unhide HS2, unhide F2, by rw [unhide FIN]; exact unhide HM2⟩
    · have FIN := hide (show m R = some x1 from by rw [unhide HM, hm1]; simp [hz])
      clear hm1 HM
      cases an
      all_goals
        cases x1
        all_goals first
          | exact absurd rfl hz
          | (simp only [Bool.not_true, Bool.not_false] at e6
             go_wp2_with fail
             go_ret
             exact ⟨_, 0, rfl, unhide HS1, unhide F1, Or.inl ⟨unhide FIN, rfl⟩⟩)
  · have FIN := hide (show m R = none from by rw [unhide HM, hm1])
    clear hm1 HM
    cases x1
    all_goals
      cases an
      all_goals
        simp only [Bool.not_true, Bool.not_false] at e6
        go_wp2_with fail
        go_ret
        exact ⟨_, 3, rfl, unhide HS1, unhide F1, Or.inr ⟨unhide FIN, rfl⟩⟩
end Go.Proofs.YtgdeeodifnegiaaGreatDoor.rf
