/- The statement Sided (package bywaykeep): the row's closed facts, the great ones each by itself. -/
import Derived.Test.YtlhhdklendeikaaGreatDoorRows
import Derived.JoinedOf
namespace Go.Proofs.YtlhhdklendeikaaGreatDoor

namespace sided
theorem j_laid : laidOutB Tryz.pinned.checked.prog = true := by kernel_rfl
theorem j_rowed : mapsRowed Tryz.pinned.checked.prog = true := by kernel_rfl
theorem j_place : (Rows.sidedRow.inPlace == Tryz.pinned.checked.prog.inPlace 6) = true := by kernel_rfl
theorem j_unf : (Rows.sidedRow.unfollowed == Tryz.pinned.checked.prog.unfollowed 6) = true := by kernel_rfl
theorem j_rec : (Rows.sidedRow.recurses == Tryz.pinned.checked.prog.recurses 6) = true := by kernel_rfl
theorem j_named : (Rows.sidedRow.named == Tryz.pinned.checked.prog.varsNamed 6) = true := by kernel_rfl
set_option maxRecDepth 100000 in
theorem closed : joinedFacts Tryz.pinned.checked.prog 6 Tryz.f6 (OpenSpec.ofChange Rows.sidedSpec).bare Rows.sidedRow = true := by
  unfold joinedFacts
  rw [j_laid, j_rowed, j_place, j_unf, j_rec, j_named]
  kernel_rfl
end sided
end Go.Proofs.YtlhhdklendeikaaGreatDoor
