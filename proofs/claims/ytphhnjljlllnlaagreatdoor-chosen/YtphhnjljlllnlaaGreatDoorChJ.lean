/- part -/
import Derived.Test.YtphhnjljlllnlaaGreatDoorRows
import Derived.JoinedOf
set_option maxRecDepth 100000
namespace Go.Proofs.YtphhnjljlllnlaaGreatDoor
namespace chosen
theorem ND:laidOutB Tryz.pinned.checked.prog=true:=by kernel_rfl
theorem LV:mapsRowed Tryz.pinned.checked.prog=true:=by kernel_rfl
theorem LU:(Rows.chosenRow.inPlace==Tryz.pinned.checked.prog.inPlace 3)=true:=by kernel_rfl
theorem Oc:(Rows.chosenRow.unfollowed==Tryz.pinned.checked.prog.unfollowed 3)=true:=by kernel_rfl
theorem Ob:(Rows.chosenRow.recurses==Tryz.pinned.checked.prog.recurses 3)=true:=by kernel_rfl
theorem LT:(Rows.chosenRow.named==Tryz.pinned.checked.prog.varsNamed 3)=true:=by kernel_rfl
theorem closed:joinedFacts Tryz.pinned.checked.prog 3 Tryz.f3 (OpenSpec.ofChange Rows.chosenSpec).bare Rows.chosenRow=true:=by
 unfold joinedFacts;rw [ND,LV,LU,Oc,Ob,LT]
 kernel_rfl
end chosen
