/- The statement Runs (package bywaylaw) in its second form is proved: called with any script of bulk at most 1048576, bywaylaw.Runs returns true, and the script reads as it did. Conditions: that bound and the form's own; the listed tables are as the program's text lays them, which the card ties. -/
import Derived.JoinedOf
import Derived.Test.YtgdeeodifnegiaaGreatDoorRwG
set_option maxRecDepth 100000
namespace Go.Proofs.YtgdeeodifnegiaaGreatDoor
open Go.ChangeShapes Go.WideShapes Go.ChangeAt Go.RowKit
namespace rns
theorem Mi:laidOutB Tryz.pinned.checked.prog=true:=by kernel_rfl
theorem Ko:mapsRowed Tryz.pinned.checked.prog=true:=by kernel_rfl
theorem Kn:(Rows.runsUptoRow.inPlace==Tryz.pinned.checked.prog.inPlace 5)=true:=by kernel_rfl
theorem M0:(Rows.runsUptoRow.unfollowed==Tryz.pinned.checked.prog.unfollowed 5)=true:=by kernel_rfl
theorem MZ:(Rows.runsUptoRow.recurses==Tryz.pinned.checked.prog.recurses 5)=true:=by kernel_rfl
theorem Km:(Rows.runsUptoRow.named==Tryz.pinned.checked.prog.varsNamed 5)=true:=by kernel_rfl
theorem closed:joinedFacts Tryz.pinned.checked.prog 5 Tryz.f5 (Rows.OpenSpec.upto Rows.runsSpec).bare Rows.runsUptoRow=true:=by
 unfold joinedFacts;rw [Mi,Ko,Kn,M0,MZ,Km]
 kernel_rfl
end rns
namespace rns
theorem Nw:Rows.RunsUptoSaid :=
 OpenClaim.holds_of_cond 5 Tryz.f5 rfl rfl rfl rfl rfl rfl rfl ⟨rfl,rfl,rfl,rfl,rfl⟩ rfl rfl rfl rfl rfl (by kernel_rfl) Tryz.func5 closed
  (of_decide_eq_true (by kernel_rfl)) (by unfold Func.isWrapper;first|(rw [aC (by decide +kernel)];kernel_rfl)|(rw [au (by decide +kernel)];exact⟨rfl,rfl⟩))
  (λ os started H enc _ F=>by rw [OpenClaim.pre_eq_preRow];exact Mj os started H enc F)
theorem plain(f:FuncId)(fn:Func)(hf:Tryz.pinned.checked.prog.funcNamed Rows.runsUptoRow.func=some f)(hfn:Tryz.pinned.checked.prog.funcs[f]?=some fn) :
  false=Tryz.pinned.checked.prog.looks []/\∀(j:Nat) t,fn.params[j]?=some t->Tryz.pinned.checked.prog.wantsStandIn t=false:=by
 obtain rfl:f=5:=fZ ((show Tryz.prog.funcNamed Rows.runsUptoRow.func=some 5 by kernel_rfl).symm.trans hf) |>.symm
 obtain rfl:fn=Tryz.f5:=(fZ (Tryz.func5.symm.trans hfn)).symm;refine⟨by kernel_rfl,λ j t ht=>?_⟩;rw [Tryz.params5]at ht;have:=Array.mem_of_getElem? ht;simp only [List.mem_toArray,List.mem_cons,List.not_mem_nil,or_false]at this;subst this;exact(show Tryz.prog.wantsStandIn 22=false by kernel_rfl)
end rns
theorem runs_holds:Rows.RunsUptoCardSaid :=
 Claim7.holds_tied_plain_at .later [] _ _ _ _ rns.Nw (λ _ h=>by cases h) (by kernel_rfl) (λ _ h=>by cases h) runsUpto_row_tie rfl ⟨rfl,rfl⟩ (by kernel_rfl) rfl rns.plain (by kernel_rfl)
