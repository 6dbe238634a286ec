/- The statement Codes (package bywaylaw) in its second form is proved: called with any script of bulk at most 1048576, bywaylaw.Codes returns true, and the script reads as it did. Conditions: that bound and the form's own; the listed tables are as the program's text lays them, which the card ties. -/
import Derived.Test.YtgngdklkoilaiaaGreatDoorCodesB
import Derived.Test.YtgngdklkoilaiaaGreatDoorCodesJ
namespace Go.Proofs.YtgngdklkoilaiaaGreatDoor
open Go.ChangeShapes Go.WideShapes Go.ChangeAt Go.RowKit

namespace codes
theorem said : Rows.CodesUptoSaid :=
  OpenClaim.holds_of_cond 3 Tryz.f3 rfl rfl rfl rfl rfl rfl rfl ⟨rfl, rfl, rfl, rfl, rfl⟩ rfl rfl rfl rfl rfl (by kernel_rfl) Tryz.func3 closed
    (of_decide_eq_true (by kernel_rfl)) (by unfold Func.isWrapper; first | (rw [if_pos (by decide +kernel)]; kernel_rfl) | (rw [if_neg (by decide +kernel)]; exact ⟨rfl, rfl⟩))
    (fun os started H enc _ F => by rw [OpenClaim.pre_eq_preRow]; exact lifted os started H enc F)

theorem plain (f : FuncId) (fn : Func) (hf : Tryz.pinned.checked.prog.funcNamed Rows.codesUptoRow.func = some f) (hfn : Tryz.pinned.checked.prog.funcs[f]? = some fn) :
    false = Tryz.pinned.checked.prog.looks [] ∧ ∀ (j : Nat) t, fn.params[j]? = some t → Tryz.pinned.checked.prog.wantsStandIn t = false := by
  obtain rfl : f = 3 := Option.some.inj ((show Tryz.prog.funcNamed Rows.codesUptoRow.func = some 3 by kernel_rfl).symm.trans hf) |>.symm
  obtain rfl : fn = Tryz.f3 := (Option.some.inj (Tryz.func3.symm.trans hfn)).symm
  refine ⟨by kernel_rfl, fun j t ht => ?_⟩
  rw [Tryz.params3] at ht
  have := Array.mem_of_getElem? ht
  simp only [List.mem_toArray, List.mem_cons, List.not_mem_nil, or_false] at this
  subst this
  exact (show Tryz.prog.wantsStandIn 22 = false by kernel_rfl)
end codes

/-- THE CARD -/
theorem codes_holds : Rows.CodesUptoCardSaid :=
  Claim7.holds_tied_plain_at .later [] _ _ _ _ codes.said (fun _ h => by cases h) (by kernel_rfl) (fun _ h => by cases h) codesUpto_row_tie rfl ⟨rfl, rfl⟩ (by kernel_rfl) rfl codes.plain (by kernel_rfl)
end Go.Proofs.YtgngdklkoilaiaaGreatDoor
