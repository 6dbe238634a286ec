/- The statement Likened (package bywaykeep): the row's closed facts, the great ones each by itself. -/
import Derived.Test.YtlhhdklendeikaaGreatDoorRows
import Derived.JoinedOf
namespace Go.Proofs.YtlhhdklendeikaaGreatDoor

namespace likened
theorem j_laid : laidOutB Tryz.pinned.checked.prog = true := by kernel_rfl
theorem j_rowed : mapsRowed Tryz.pinned.checked.prog = true := by kernel_rfl
theorem j_place : (Rows.likenedRow.inPlace == Tryz.pinned.checked.prog.inPlace 4) = true := by kernel_rfl
theorem j_unf : (Rows.likenedRow.unfollowed == Tryz.pinned.checked.prog.unfollowed 4) = true := by kernel_rfl
theorem j_rec : (Rows.likenedRow.recurses == Tryz.pinned.checked.prog.recurses 4) = true := by kernel_rfl
theorem j_named : (Rows.likenedRow.named == Tryz.pinned.checked.prog.varsNamed 4) = true := by kernel_rfl
set_option maxRecDepth 100000 in
theorem closed : joinedFacts Tryz.pinned.checked.prog 4 Tryz.f4 (OpenSpec.ofChange Rows.likenedSpec).bare Rows.likenedRow = true := by
  unfold joinedFacts
  rw [j_laid, j_rowed, j_place, j_unf, j_rec, j_named]
  kernel_rfl
end likened
end Go.Proofs.YtlhhdklendeikaaGreatDoor
