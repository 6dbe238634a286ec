/- part -/
import Derived.Test.YtphhnjljlllnlaaGreatDoorRows
import Derived.JoinedOf
set_option maxRecDepth 100000
namespace Go.Proofs.YtphhnjljlllnlaaGreatDoor
namespace agreed
theorem ND:laidOutB Tryz.pinned.checked.prog=true:=by kernel_rfl
theorem LV:mapsRowed Tryz.pinned.checked.prog=true:=by kernel_rfl
theorem LU:(Rows.agreedRow.inPlace==Tryz.pinned.checked.prog.inPlace 4)=true:=by kernel_rfl
theorem Oc:(Rows.agreedRow.unfollowed==Tryz.pinned.checked.prog.unfollowed 4)=true:=by kernel_rfl
theorem Ob:(Rows.agreedRow.recurses==Tryz.pinned.checked.prog.recurses 4)=true:=by kernel_rfl
theorem LT:(Rows.agreedRow.named==Tryz.pinned.checked.prog.varsNamed 4)=true:=by kernel_rfl
theorem closed:joinedFacts Tryz.pinned.checked.prog 4 Tryz.f4 (OpenSpec.ofChange Rows.agreedSpec).bare Rows.agreedRow=true:=by
 unfold joinedFacts;rw [ND,LV,LU,Oc,Ob,LT]
 kernel_rfl
end agreed
