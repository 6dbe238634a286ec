/- A policy of the document is run: statements (run.go: do): accept, reject, pref, med, mark. -/
import Derived.Test.YtgdeeodifnegiaaGreatDoorRnJ
namespace Go.Proofs.YtgdeeodifnegiaaGreatDoor.rf
open Go.RowKit

/-- what a statement does. P: what is known of the policy itself -/
def StpR (P : Nat → Nat → World → Prop) (t : Tr) (m : StpM) : Prop := ∀ (w : World) (Q : Nat → Prop) (v : Value) (sb pb : Nat) (R : Rt) (pv mv : Value), Q sb → P sb pb w → TrAt w Q t v → RtOk R → StA w sb pb R pv mv 0 →
  Calls Tryz.prog 97 #[ptr sb, v] w (StpP w sb pb (m R))
theorem StA.pref {w : World} {sb pb : Nat} {R : Rt} {pv mv : Value} {ver : Int} (h : StA w sb pb R pv mv ver) (x : Int) : StA (w.setCell ⟨sb, 5, none⟩ (.int .i64 x)) sb pb { R with pref := x } pv mv ver :=
  ⟨heap_set h.blk, owns_of h.own1 (fun k hk => heap_set_other (fun e => h.ne1 (by have e' : k = sb := e; rw [← e']; exact hk))), owns_of h.own2 (fun k hk => heap_set_other (fun e => h.ne2 (by have e' : k = sb := e; rw [← e']; exact hk))), h.ne1, h.ne2⟩
theorem StA.med {w : World} {sb pb : Nat} {R : Rt} {pv mv : Value} {ver : Int} (h : StA w sb pb R pv mv ver) (x : Int) : StA (w.setCell ⟨sb, 6, none⟩ (.int .i64 x)) sb pb { R with med := x } pv mv ver :=
  ⟨heap_set h.blk, owns_of h.own1 (fun k hk => heap_set_other (fun e => h.ne1 (by have e' : k = sb := e; rw [← e']; exact hk))), owns_of h.own2 (fun k hk => heap_set_other (fun e => h.ne2 (by have e' : k = sb := e; rw [← e']; exact hk))), h.ne1, h.ne2⟩
set_option maxRecDepth 100000 in
set_option maxHeartbeats 3200000 in
theorem do_end (P : Nat → Nat → World → Prop) (op : ByteArray) (ver : Int) (ac : Bool) (hop : (op = wAccept ∧ ver = 1 ∧ ac = true) ∨ (op = wReject ∧ ver = 2 ∧ ac = false)) : StpR P (.mk op nB 0 0 []) (concludeM ver) := by
  intro w Q v sb pb R pv mv hQ _ ht _ hs
  have e0 : (op.toList == [97, 99, 99, 101, 112, 116]) = ac := by rcases hop with ⟨rfl, _, rfl⟩ | ⟨rfl, _, rfl⟩ <;> decide +kernel
  have e1 : (op.toList == [114, 101, 106, 101, 99, 116]) = !ac := by rcases hop with ⟨rfl, _, rfl⟩ | ⟨rfl, _, rfl⟩ <;> decide +kernel
  have hv : ver = if ac = true then 1 else 2 := by rcases hop with ⟨_, rfl, rfl⟩ | ⟨_, rfl, rfl⟩ <;> rfl
  rw [TrAt] at ht
  obtain ⟨kv, xs, rfl, _, _, _⟩ := ht
  have hA : Below w.heap.size w (w.alloc (.cells (treeCells op nB 0 0 kv) 115)) := (Below.refl _ _).alloc (Nat.le_refl _) _
  have hs1 := hs.below hA
  obtain ⟨WA, hWA⟩ : ∃ WA, w.alloc (.cells (treeCells op nB 0 0 kv) 115) = WA := ⟨_, rfl⟩
  have k0 : (w.alloc (.cells (treeCells op nB 0 0 kv) 115)).cell? ⟨w.heap.size, 0, none⟩ = some (.string op) := cell_of_heap (heap_alloc_new _ _)
  have HWA := hide hWA
  rw [hWA] at hs1 hA k0
  have c7 : WA.cell? ⟨sb, 7, none⟩ = some (.int .i64 0) := cell_of_heap hs1.blk
  have z7 : ∀ o, WA.frozen? ⟨sb, o, none⟩ = false := fun o => frozen_of_heap hs1.blk
  have lsb : sb < WA.heap.size := heap_lt hs1.blk
  have H := hide hs1
  have HF := hide (show Fr (Sb sb) w (Sb sb) WA from fr_sb hA)
  have HV := hide hv
  clear hs hs1 hA hop hQ hWA hv
  cases ac
  all_goals
    simp only [Bool.not_true, Bool.not_false] at e1
    go_enter Tryz.func97, Tryz.ntmps97
    go_upto_region 1 with fail
    rw [unhide HWA]
    go_wp2_with fail
    go_end0
    rw [unhide HV]
    exact ⟨rfl, _, _, (unhide H).ver _, Fr.setCell (p := ⟨sb, 7, none⟩) (unhide HF) (Or.inl rfl) _⟩
set_option maxRecDepth 100000 in
set_option maxHeartbeats 3200000 in
theorem do_set (P : Nat → Nat → World → Prop) {x : Tr} {a : AmtM} {m : StpM} (IA : SumR x a) (op : ByteArray) (pr : Bool) (hop : (op = wPref ∧ pr = true ∧ m = setPrefM a) ∨ (op = wMed ∧ pr = false ∧ m = setMedM a)) : StpR P (.mk op nB 0 0 [x]) m := by
  intro w Q v sb pb R pv mv hQ _ ht _ hs
  have e0 : (op.toList == [97, 99, 99, 101, 112, 116]) = false := by rcases hop with ⟨rfl, _⟩ | ⟨rfl, _⟩ <;> decide +kernel
  have e1 : (op.toList == [114, 101, 106, 101, 99, 116]) = false := by rcases hop with ⟨rfl, _⟩ | ⟨rfl, _⟩ <;> decide +kernel
  have e2 : (op.toList == [112, 114, 101, 102]) = pr := by rcases hop with ⟨rfl, rfl, _⟩ | ⟨rfl, rfl, _⟩ <;> decide +kernel
  have e3 : (op.toList == [109, 101, 100]) = !pr := by rcases hop with ⟨rfl, rfl, _⟩ | ⟨rfl, rfl, _⟩ <;> decide +kernel
  have hm : m R = (match a R with | none => (R, 3) | some n => ((if pr = true then { R with pref := n } else { R with med := n }), 0)) := by
    rcases hop with ⟨_, rfl, rfl⟩ | ⟨_, rfl, rfl⟩
    · unfold setPrefM
      cases a R <;> rfl
    · unfold setMedM
      cases a R <;> rfl
  obtain ⟨kv, g, rfl, hk⟩ := ht.kids (by simp)
  obtain ⟨cap, hkv⟩ := hk.sl
  obtain rfl : kv = .slice (some ⟨g, 0, none⟩) 1 cap := by simpa using hkv
  have lsb := heap_lt hs.blk
  have hA : Below w.heap.size w (w.alloc (.cells (treeCells op nB 0 0 (.slice (some ⟨g, 0, none⟩) 1 cap)) 115)) := (Below.refl _ _).alloc (Nat.le_refl _) _
  have q0 : (w.alloc (.cells (treeCells op nB 0 0 (.slice (some ⟨g, 0, none⟩) 1 cap)) 115)).heap[w.heap.size]? = some (.cells (treeCells op nB 0 0 (.slice (some ⟨g, 0, none⟩) 1 cap)) 115 (0, 0)) := heap_alloc_new _ _
  have hk1 := hk.fr hQ (fr_sb hA)
  have hs1 := hs.below hA
  obtain ⟨WA, hWA⟩ : ∃ WA, w.alloc (.cells (treeCells op nB 0 0 (.slice (some ⟨g, 0, none⟩) 1 cap)) 115) = WA := ⟨_, rfl⟩
  have HWA := hide hWA
  rw [hWA] at q0 hk1 hs1 hA
  have HA := hide hA
  obtain ⟨p0, p1, p2, p3, p4, c0, c1, c2, c3, c4, t0⟩ := hk1.at_ 0 (by simp)
  have k0 : WA.cell? ⟨w.heap.size, 0, none⟩ = some (.string op) := cell_of_heap q0
  have k4 : WA.cell? ⟨w.heap.size, 4, none⟩ = some (.slice (some ⟨g, 0, none⟩) 1 cap) := cell_of_heap q0
  have CALL := hide (IA _ _ _ _ _ _ _ _ (Or.inl hQ) t0 hs1)
  have Q0 := hide q0
  have HM := hide hm
  have lA : w.heap.size < WA.heap.size := heap_lt q0
  have lg := hk1.lt
  simp only [Nat.zero_mul, Nat.zero_add] at c0 c1 c2 c3 c4
  clear hk hk1 hs hs1 hA ht t0 q0 hQ IA hop hWA hkv hm
  cases pr
  all_goals
    simp only [Bool.not_true, Bool.not_false] at e3
    go_enter Tryz.func97, Tryz.ntmps97
    go_upto_region 1 with fail
    rw [unhide HWA]
    go_wp2_with fail
    refine (unhide CALL).mono ?_
    rintro e w1 ⟨x1, v1, rfl, hs1, hf1, hm1⟩
    have c7 : w1.cell? ⟨sb, 7, none⟩ = some (.int .i64 v1) := cell_of_heap hs1.blk
    have c5 : w1.cell? ⟨sb, 5, none⟩ = some (.int .i64 R.pref) := cell_of_heap hs1.blk
    have c6 : w1.cell? ⟨sb, 6, none⟩ = some (.int .i64 R.med) := cell_of_heap hs1.blk
    have z1 : ∀ o, w1.frozen? ⟨sb, o, none⟩ = false := fun o => frozen_of_heap hs1.blk
    have l1 : sb < w1.heap.size := heap_lt hs1.blk
    have HS1 := hide hs1
    have F1 := hide ((fr_sb (unhide HA)).trans hf1)
    have q1 : w1.heap[w.heap.size]? = _ := (hf1.block w.heap.size lA (by omega)).trans (unhide Q0)
    have n0 : w1.cell? ⟨w.heap.size, 0, none⟩ = some (.string op) := cell_of_heap q1
    have lw1 : w.heap.size < w1.heap.size := heap_lt q1
    have nsw : sb ≠ w.heap.size := by omega
    clear hs1 hf1 q1 c0 c1 c2 c3 c4 k0 k4
    rcases hm1 with ⟨hm1, rfl⟩ | ⟨hm1, rfl⟩
    · have FIN := hide (unhide HM)
      rw [hm1] at FIN
      clear hm1 HM
      go_wp2_with fail
      go_end0
      rw [unhide FIN]
      first
        | exact ⟨rfl, _, _, (unhide HS1).pref _, Fr.setCell (p := ⟨sb, 5, none⟩) (unhide F1) (Or.inl rfl) _⟩
        | exact ⟨rfl, _, _, (unhide HS1).med _, Fr.setCell (p := ⟨sb, 6, none⟩) (unhide F1) (Or.inl rfl) _⟩
    · have FIN := hide (unhide HM)
      rw [hm1] at FIN
      clear hm1 HM
      go_wp2_with fail
      go_end0
      rw [unhide FIN]
      exact ⟨rfl, _, _, unhide HS1, unhide F1⟩
end Go.Proofs.YtgdeeodifnegiaaGreatDoor.rf
