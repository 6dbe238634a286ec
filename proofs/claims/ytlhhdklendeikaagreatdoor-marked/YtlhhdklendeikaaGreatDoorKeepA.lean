/- The raw numbers of bywaykeep (package bywaykeep): at. -/
import Derived.Test.YtlhhdklendeikaaGreatDoorKpA
namespace Go.Proofs.YtlhhdklendeikaaGreatDoor
open Go.RowKit
set_option maxHeartbeats 400000 in
theorem at_any (l : List Int) (i : Nat) (v : Value) (w : World) (_hi : i ≤ 1000) (h : IntsAt w v l) :
    Calls Tryz.prog 28 #[v, .int .i64 i] w fun e w' => e = .returned (.int .i64 (atP l i)) ∧ w' = w := by
  obtain ⟨p, c, rfl, hcap, hl, hin, hr⟩ := h
  by_cases hlt : i < l.length
  · have HP := hide (show atP l i = l[i] by unfold atP; rw [List.getElem?_eq_getElem hlt]; rfl)
    rcases hr with ⟨rfl, _⟩ | ⟨b, o, rfl, hb, hc⟩
    · simp at hlt
    · have hck := hc i hlt
      clear hc hin
      go_enter Tryz.func28, Tryz.ntmps28
      go_wp2
      all_goals (go_ret; exact ⟨rt_int (unhide HP).symm, rfl⟩)
  · have HP := hide (show atP l i = 0 by unfold atP; rw [List.getElem?_eq_none (by omega)]; rfl)
    clear hr hin
    go_enter Tryz.func28, Tryz.ntmps28
    go_wp2
    all_goals (go_ret; exact ⟨rt_int (unhide HP).symm, rfl⟩)

end Go.Proofs.YtlhhdklendeikaaGreatDoor
