/- The statement Chosen (package bywaykeep) is proved: called with any two slices of ints and any slice of events, bywaykeep.Chosen returns true, and its arguments read as they did. Conditions: none but the form's own; the listed tables are as the program's text lays them, which the card ties. -/
import Derived.Test.YtphhnjljlllnlaaGreatDoorTbE
import Derived.Test.YtphhnjljlllnlaaGreatDoorChJ
namespace Go.Proofs.YtphhnjljlllnlaaGreatDoor
open Go.Proofs.Tryz
open Or
open Go.ChangeShapes Go.WideShapes Go.ChangeAt Go.RowKit
namespace chosen
theorem OJ:Rows.ChosenSaid :=
 OpenClaim.holds_of_cond 3 Tryz.f3 rfl rfl rfl rfl rfl rfl rfl ⟨rfl,rfl,rfl,rfl,rfl⟩ rfl rfl rfl rfl rfl (by kernel_rfl) func3 closed
  (of_decide_eq_true (by kernel_rfl)) (by unfold Func.isWrapper;first|(rw [aS (by decide +kernel)];kernel_rfl)|(rw [aG (by decide +kernel)];exact⟨rfl,rfl⟩))
  (λ os started H enc _ F=>by rw [OpenClaim.pre_eq_preRow];exact NG os started H enc F)
theorem plain(f:FuncId)(fn:Func)(hf:Tryz.pinned.checked.prog.funcNamed Rows.chosenRow.func=some f)(hfn:Tryz.pinned.checked.prog.funcs[f]?=some fn) :
  false=Tryz.pinned.checked.prog.looks []/\∀(j:Nat) t,fn.params[j]?=some t->Tryz.pinned.checked.prog.wantsStandIn t=false:=by
 obtain rfl:f=3:=kd ((show prog.funcNamed Rows.chosenRow.func=some 3 by kernel_rfl).symm.trans hf) |>.symm
 obtain rfl:fn=Tryz.f3:=(kd (func3.symm.trans hfn)).symm;refine⟨by kernel_rfl,λ j t ht=>?_⟩;rw [params3]at ht;have:=Array.mem_of_getElem? ht;simp only [List.mem_toArray,List.mem_cons,List.not_mem_nil,or_false]at this;rcases this with rfl|rfl|rfl
 ·exact(show prog.wantsStandIn 22=false by kernel_rfl)
 ·exact(show prog.wantsStandIn 22=false by kernel_rfl)
 exact(show prog.wantsStandIn 23=false by kernel_rfl)
end chosen
theorem chosen_holds:Rows.ChosenCardSaid :=
 Claim7.holds_tied_plain_at .later [] _ _ _ _ chosen.OJ (λ _ h=>by cases h) (by kernel_rfl) (λ _ h=>by cases h) chosen_row_tie rfl ⟨rfl,rfl⟩ (by kernel_rfl) rfl chosen.plain (by kernel_rfl)
