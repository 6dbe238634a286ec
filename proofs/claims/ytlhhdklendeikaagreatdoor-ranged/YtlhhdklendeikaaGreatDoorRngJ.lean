/- The statement Ranged (package bywaykeep): the row's closed facts, the great ones each by itself. -/
import Derived.Test.YtlhhdklendeikaaGreatDoorRows
import Derived.JoinedOf
namespace Go.Proofs.YtlhhdklendeikaaGreatDoor

namespace ranged
theorem j_laid : laidOutB Tryz.pinned.checked.prog = true := by kernel_rfl
theorem j_rowed : mapsRowed Tryz.pinned.checked.prog = true := by kernel_rfl
theorem j_place : (Rows.rangedRow.inPlace == Tryz.pinned.checked.prog.inPlace 5) = true := by kernel_rfl
theorem j_unf : (Rows.rangedRow.unfollowed == Tryz.pinned.checked.prog.unfollowed 5) = true := by kernel_rfl
theorem j_rec : (Rows.rangedRow.recurses == Tryz.pinned.checked.prog.recurses 5) = true := by kernel_rfl
theorem j_named : (Rows.rangedRow.named == Tryz.pinned.checked.prog.varsNamed 5) = true := by kernel_rfl
set_option maxRecDepth 100000 in
theorem closed : joinedFacts Tryz.pinned.checked.prog 5 Tryz.f5 (OpenSpec.ofChange Rows.rangedSpec).bare Rows.rangedRow = true := by
  unfold joinedFacts
  rw [j_laid, j_rowed, j_place, j_unf, j_rec, j_named]
  kernel_rfl
end ranged
end Go.Proofs.YtlhhdklendeikaaGreatDoor
