/- The program's Decode (package byway), as DecSaid says. -/
import Derived.Test.YtgngdklkoilaiaaGreatDoorMsgU
namespace Go.Proofs.YtgngdklkoilaiaaGreatDoor
open Go.RowKit

theorem Decode_said (w0 : World) (ht : TabAt w0) : DecSaid w0 32 := by
  intro w v b hb hv
  have HV := hide hv
  have HT := hide (ht.below hb)
  obtain ⟨p, c, rfl, -⟩ := hv
  clear ht hb
  obtain ⟨wR, hwR⟩ : ∃ wR, w.alloc (.cells #[.slice none 0 0, .slice none 0 0, .slice none 0 0, .slice none 0 0, .int .i64 0, .int .i64 0] 27) = wR := ⟨_, rfl⟩
  have QR := hide (heap_alloc_new w (.cells #[.slice none 0 0, .slice none 0 0, .slice none 0 0, .slice none 0 0, .int .i64 0, .int .i64 0] 27))
  have BR := hide ((Below.refl w.heap.size w).alloc (Nat.le_refl _) (.cells #[.slice none 0 0, .slice none 0 0, .slice none 0 0, .slice none 0 0, .int .i64 0, .int .i64 0] 27))
  rw [hwR] at QR BR
  have hlR : w.heap.size < wR.heap.size := heap_lt (unhide QR)
  have HWR := hide hwR
  clear hwR
  go_enter Tryz.func32, Tryz.ntmps32
  go_wp2_with fail
  rw [unhide HWR]
  refine (decode_any b _ _ ((unhide HT).below (unhide BR)) ((unhide HV).below (unhide BR))).mono ?_
  rintro e w1 ⟨hb1, vg, vn, vp, vm, rfl, og, on, op, om, ha⟩
  have BW := hide ((unhide BR).trans (hb1.mono (unhide BR).size))
  have HR1 := (hb1.block _ hlR).trans (unhide QR)
  obtain ⟨r0, r1, r2, r3, r4, r5⟩ := six_cells HR1
  have hf : ∀ o, w1.frozen? ⟨w.heap.size, o, none⟩ = false := fun o => frozen_of_heap HR1
  have OG := hide og
  have ON := hide on
  have OP := hide op
  have OM := hide om
  have HA := hide ha
  obtain ⟨q1, k1, rfl⟩ := own_slice og
  obtain ⟨q2, k2, rfl⟩ := own_slice on
  obtain ⟨q3, k3, rfl⟩ := own_slice op
  obtain ⟨q4, k4, rfl⟩ := own_slice om
  clear hb1 og on op om ha HR1
  go_wp2
  refine bodyPost_ret (v := .tuple #[.agg #[.slice q1 (decM b).gone.length k1, .slice q2 (decM b).nets.length k2, .slice q3 (decM b).path.length k3, .slice q4 (decM b).marks.length k4, .int .i64 (decM b).pref, .int .i64 (decM b).med], .int .i64 (decE b)]) (by simp [results, Tryz.results32, go_sem, r0, r1, r2, r3, r4, r5]) rfl ?_
  refine ⟨below_six6 (unhide BW) (Nat.le_refl _) _ _ _ _ _ _, _, _, _, _, rfl, ?_, ?_, ?_, ?_, unhide HA⟩
  · exact OwnN.base (own_six6 (unhide OG) hlR _ _ _ _ _ _) (by omega)
  · exact OwnN.base (own_six6 (unhide ON) hlR _ _ _ _ _ _) (by omega)
  · exact OwnI.base (own_six6 (unhide OP) hlR _ _ _ _ _ _) (by omega)
  · exact OwnI.base (own_six6 (unhide OM) hlR _ _ _ _ _ _) (by omega)
end Go.Proofs.YtgngdklkoilaiaaGreatDoor
