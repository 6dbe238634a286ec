/- The statement Sided (package bywaykeep) is proved: called with any two slices of ints and any slice of slices of ints, bywaykeep.Sided returns true, and its arguments read as they did. Conditions: none but the form's own; the listed tables are as the program's text lays them, which the card ties. -/
import Derived.Test.YtlhhdklendeikaaGreatDoorSidD
import Derived.Test.YtlhhdklendeikaaGreatDoorSidJ
namespace Go.Proofs.YtlhhdklendeikaaGreatDoor
open Go.ChangeShapes Go.WideShapes Go.ChangeAt Go.RowKit

namespace sided
theorem said : Rows.SidedSaid :=
  OpenClaim.holds_of_cond 6 Tryz.f6 rfl rfl rfl rfl rfl rfl rfl ⟨rfl, rfl, rfl, rfl, rfl⟩ rfl rfl rfl rfl rfl (by kernel_rfl) Tryz.func6 closed
    (of_decide_eq_true (by kernel_rfl)) (by unfold Func.isWrapper; first | (rw [if_pos (by decide +kernel)]; kernel_rfl) | (rw [if_neg (by decide +kernel)]; exact ⟨rfl, rfl⟩))
    (fun os started H enc _ F => by rw [OpenClaim.pre_eq_preRow]; exact lifted os started H enc F)

theorem plain (f : FuncId) (fn : Func) (hf : Tryz.pinned.checked.prog.funcNamed Rows.sidedRow.func = some f) (hfn : Tryz.pinned.checked.prog.funcs[f]? = some fn) :
    false = Tryz.pinned.checked.prog.looks [] ∧ ∀ (j : Nat) t, fn.params[j]? = some t → Tryz.pinned.checked.prog.wantsStandIn t = false := by
  obtain rfl : f = 6 := Option.some.inj ((show Tryz.prog.funcNamed Rows.sidedRow.func = some 6 by kernel_rfl).symm.trans hf) |>.symm
  obtain rfl : fn = Tryz.f6 := (Option.some.inj (Tryz.func6.symm.trans hfn)).symm
  refine ⟨by kernel_rfl, fun j t ht => ?_⟩
  rw [Tryz.params6] at ht
  have := Array.mem_of_getElem? ht
  simp only [List.mem_toArray, List.mem_cons, List.not_mem_nil, or_false] at this
  rcases this with rfl | rfl | rfl
  · exact (show Tryz.prog.wantsStandIn 22 = false by kernel_rfl)
  · exact (show Tryz.prog.wantsStandIn 22 = false by kernel_rfl)
  · exact (show Tryz.prog.wantsStandIn 23 = false by kernel_rfl)
end sided

/-- THE CARD -/
theorem sided_holds : Rows.SidedCardSaid :=
  Claim7.holds_tied_plain_at .later [] _ _ _ _ sided.said (fun _ h => by cases h) (by kernel_rfl) (fun _ h => by cases h) sided_row_tie rfl ⟨rfl, rfl⟩ (by kernel_rfl) rfl sided.plain (by kernel_rfl)
end Go.Proofs.YtlhhdklendeikaaGreatDoor
