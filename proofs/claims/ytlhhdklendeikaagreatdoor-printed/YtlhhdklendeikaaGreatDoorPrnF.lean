/- The statement Printed (package bywaykeep) is proved: called with any string, any two slices of ints and any slice of slices of ints, bywaykeep.Printed returns true, and its arguments read as they did. Conditions: none but the form's own; the listed tables are as the program's text lays them, which the card ties. -/
import Derived.Test.YtlhhdklendeikaaGreatDoorPrnD
import Derived.Test.YtlhhdklendeikaaGreatDoorPrnJ
namespace Go.Proofs.YtlhhdklendeikaaGreatDoor
open Go.ChangeShapes Go.WideShapes Go.ChangeAt Go.RowKit

namespace printd
theorem said : Rows.PrintedSaid :=
  OpenClaim.holds_of_cond 3 Tryz.f3 rfl rfl rfl rfl rfl rfl rfl ⟨rfl, rfl, rfl, rfl, rfl⟩ rfl rfl rfl rfl rfl (by kernel_rfl) Tryz.func3 closed
    (of_decide_eq_true (by kernel_rfl)) (by unfold Func.isWrapper; first | (rw [if_pos (by decide +kernel)]; kernel_rfl) | (rw [if_neg (by decide +kernel)]; exact ⟨rfl, rfl⟩))
    (fun os started H enc _ F => by rw [OpenClaim.pre_eq_preRow]; exact lifted os started H enc F)

theorem plain (f : FuncId) (fn : Func) (hf : Tryz.pinned.checked.prog.funcNamed Rows.printedRow.func = some f) (hfn : Tryz.pinned.checked.prog.funcs[f]? = some fn) :
    false = Tryz.pinned.checked.prog.looks [] ∧ ∀ (j : Nat) t, fn.params[j]? = some t → Tryz.pinned.checked.prog.wantsStandIn t = false := by
  obtain rfl : f = 3 := Option.some.inj ((show Tryz.prog.funcNamed Rows.printedRow.func = some 3 by kernel_rfl).symm.trans hf) |>.symm
  obtain rfl : fn = Tryz.f3 := (Option.some.inj (Tryz.func3.symm.trans hfn)).symm
  refine ⟨by kernel_rfl, fun j t ht => ?_⟩
  rw [Tryz.params3] at ht
  have := Array.mem_of_getElem? ht
  simp only [List.mem_toArray, List.mem_cons, List.not_mem_nil, or_false] at this
  rcases this with rfl | rfl | rfl | rfl
  · exact (show Tryz.prog.wantsStandIn 9 = false by kernel_rfl)
  · exact (show Tryz.prog.wantsStandIn 22 = false by kernel_rfl)
  · exact (show Tryz.prog.wantsStandIn 22 = false by kernel_rfl)
  · exact (show Tryz.prog.wantsStandIn 23 = false by kernel_rfl)
end printd

/-- THE CARD -/
theorem printed_holds : Rows.PrintedCardSaid :=
  Claim7.holds_tied_plain_at .later [] _ _ _ _ printd.said (fun _ h => by cases h) (by kernel_rfl) (fun _ h => by cases h) printed_row_tie rfl ⟨rfl, rfl⟩ (by kernel_rfl) rfl printd.plain (by kernel_rfl)
end Go.Proofs.YtlhhdklendeikaaGreatDoor
