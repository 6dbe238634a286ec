/- The statement Marked (package bywaykeep): the row's closed facts, the great ones each by itself. -/
import Derived.Test.YtlhhdklendeikaaGreatDoorRows
import Derived.JoinedOf
namespace Go.Proofs.YtlhhdklendeikaaGreatDoor

namespace marked
theorem j_laid : laidOutB Tryz.pinned.checked.prog = true := by kernel_rfl
theorem j_rowed : mapsRowed Tryz.pinned.checked.prog = true := by kernel_rfl
theorem j_place : (Rows.markedRow.inPlace == Tryz.pinned.checked.prog.inPlace 8) = true := by kernel_rfl
theorem j_unf : (Rows.markedRow.unfollowed == Tryz.pinned.checked.prog.unfollowed 8) = true := by kernel_rfl
theorem j_rec : (Rows.markedRow.recurses == Tryz.pinned.checked.prog.recurses 8) = true := by kernel_rfl
theorem j_named : (Rows.markedRow.named == Tryz.pinned.checked.prog.varsNamed 8) = true := by kernel_rfl
set_option maxRecDepth 100000 in
theorem closed : joinedFacts Tryz.pinned.checked.prog 8 Tryz.f8 (OpenSpec.ofChange Rows.markedSpec).bare Rows.markedRow = true := by
  unfold joinedFacts
  rw [j_laid, j_rowed, j_place, j_unf, j_rec, j_named]
  kernel_rfl
end marked
end Go.Proofs.YtlhhdklendeikaaGreatDoor
