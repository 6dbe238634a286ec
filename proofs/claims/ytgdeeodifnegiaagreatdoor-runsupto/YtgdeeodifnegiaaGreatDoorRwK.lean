/- The statement Runs (package bywaylaw) in its second form is proved: called with any script of bulk at most 1048576, bywaylaw.Runs returns true, and the script reads as it did. Conditions: that bound and the form's own; the listed tables are as the program's text lays them, which the card ties. -/
import Derived.Test.YtgdeeodifnegiaaGreatDoorRwH
import Derived.Test.YtgdeeodifnegiaaGreatDoorRwJ
namespace Go.Proofs.YtgdeeodifnegiaaGreatDoor
open Go.ChangeShapes Go.WideShapes Go.ChangeAt Go.RowKit

namespace rns
theorem said : Rows.RunsUptoSaid :=
  OpenClaim.holds_of_cond 5 Tryz.f5 rfl rfl rfl rfl rfl rfl rfl ⟨rfl, rfl, rfl, rfl, rfl⟩ rfl rfl rfl rfl rfl (by kernel_rfl) Tryz.func5 closed
    (of_decide_eq_true (by kernel_rfl)) (by unfold Func.isWrapper; first | (rw [if_pos (by decide +kernel)]; kernel_rfl) | (rw [if_neg (by decide +kernel)]; exact ⟨rfl, rfl⟩))
    (fun os started H enc _ F => by rw [OpenClaim.pre_eq_preRow]; exact lifted os started H enc F)

theorem plain (f : FuncId) (fn : Func) (hf : Tryz.pinned.checked.prog.funcNamed Rows.runsUptoRow.func = some f) (hfn : Tryz.pinned.checked.prog.funcs[f]? = some fn) :
    false = Tryz.pinned.checked.prog.looks [] ∧ ∀ (j : Nat) t, fn.params[j]? = some t → Tryz.pinned.checked.prog.wantsStandIn t = false := by
  obtain rfl : f = 5 := Option.some.inj ((show Tryz.prog.funcNamed Rows.runsUptoRow.func = some 5 by kernel_rfl).symm.trans hf) |>.symm
  obtain rfl : fn = Tryz.f5 := (Option.some.inj (Tryz.func5.symm.trans hfn)).symm
  refine ⟨by kernel_rfl, fun j t ht => ?_⟩
  rw [Tryz.params5] at ht
  have := Array.mem_of_getElem? ht
  simp only [List.mem_toArray, List.mem_cons, List.not_mem_nil, or_false] at this
  subst this
  exact (show Tryz.prog.wantsStandIn 22 = false by kernel_rfl)
end rns

/-- THE CARD -/
theorem runs_holds : Rows.RunsUptoCardSaid :=
  Claim7.holds_tied_plain_at .later [] _ _ _ _ rns.said (fun _ h => by cases h) (by kernel_rfl) (fun _ h => by cases h) runsUpto_row_tie rfl ⟨rfl, rfl⟩ (by kernel_rfl) rfl rns.plain (by kernel_rfl)
end Go.Proofs.YtgdeeodifnegiaaGreatDoor
