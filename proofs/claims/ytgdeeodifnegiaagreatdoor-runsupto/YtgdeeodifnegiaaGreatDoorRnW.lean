/- The program's Run of what is no route (byway.Policy.Run). -/
import Derived.Test.YtgdeeodifnegiaaGreatDoorRunG
namespace Go.Proofs.YtgdeeodifnegiaaGreatDoor
open Go.RowKit

set_option maxRecDepth 100000 in
set_option maxHeartbeats 12800000 in
theorem brun_bad {w : World} {pp : Nat} {r : Rt} {pv mv : Value} (hp : IntsAt w pv r.path) (hm : IntsAt w mv r.marks) (i1 : inI r.addr) (i2 : inI r.len) (hok : rtOk r = false) :
    Calls Tryz.prog 44 #[ptr4 pp 0, rtV r pv mv] w fun e w' => e = .returned (.tuple #[rtV rt0 (.slice none 0 0) (.slice none 0 0), .int .i64 0, .int .i64 5]) ∧ Below w.heap.size w w' := by
  obtain ⟨a1, c1, hpv, _⟩ := id hp
  obtain ⟨a2, c2, hmv, _⟩ := id hm
  obtain ⟨q1, q2, qs⟩ := two_new w (rtBlk r pv mv) (rtBlk rt0 (.slice none 0 0) (.slice none 0 0))
  obtain ⟨W0, hW0⟩ : ∃ W0, (w.alloc (rtBlk r pv mv)).alloc (rtBlk rt0 (.slice none 0 0) (.slice none 0 0)) = W0 := ⟨_, rfl⟩
  have hb0 : Below w.heap.size w W0 := by rw [← hW0]; exact ((Below.refl _ _).alloc (Nat.le_refl _) _).alloc (by rw [World.size_alloc]; omega) _
  rw [hW0] at q1 q2 qs
  have HV := hide (RValid_any (r.addr, r.len) r.path r.marks r.pref r.med pv mv W0 i1 i2 (hp.below hb0) (hm.below hb0))
  rw [show routeOkB (r.addr, r.len) r.path r.marks r.pref r.med = false from hok] at HV
  obtain ⟨c0, c1', c2', c3, c4, c5, cz⟩ := rt6 q1
  have HQ2 := hide q2
  have HB0 := hide hb0
  clear hp hm hb0 q1 q2
  subst hpv hmv
  have hW0' := hW0
  unfold rtBlk rt0 at hW0'
  go_enter Tryz.func44, Tryz.ntmps44
  go_wp2_with fail
  refine (unhide HV).mono ?_
  rintro e w1 ⟨rfl, hb1⟩
  have p2 := (hb1.block (w.heap.size + 1) (by omega)).trans (unhide HQ2)
  obtain ⟨z0, z1, z2, z3, z4, z5, zz⟩ := rt6 p2
  have HBw1 := hide ((unhide HB0).trans (hb1.mono (unhide HB0).size))
  have hs1 := hb1.size
  have lx : w.heap.size + 1 < w1.heap.size := by omega
  clear hb1 p2
  go_wp2_with fail
  refine bodyPost_ret (v := .tuple #[rtV rt0 (.slice none 0 0) (.slice none 0 0), .int .i64 0, .int .i64 5]) (by simp [results, Tryz.results44, go_sem, z0, z1, z2, z3, z4, z5, rt0]) rfl ?_
  exact ⟨rfl, set6_below (unhide HBw1) (by omega)⟩
end Go.Proofs.YtgdeeodifnegiaaGreatDoor
