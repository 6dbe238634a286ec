/- The statement Codes (package bywaylaw), second form: the row's closed facts, the great ones each by itself. -/
import Derived.Test.YtgngdklkoilaiaaGreatDoorRows
import Derived.JoinedOf
namespace Go.Proofs.YtgngdklkoilaiaaGreatDoor

namespace codes
theorem j_laid : laidOutB Tryz.pinned.checked.prog = true := by kernel_rfl
theorem j_rowed : mapsRowed Tryz.pinned.checked.prog = true := by kernel_rfl
theorem j_place : (Rows.codesUptoRow.inPlace == Tryz.pinned.checked.prog.inPlace 3) = true := by kernel_rfl
theorem j_unf : (Rows.codesUptoRow.unfollowed == Tryz.pinned.checked.prog.unfollowed 3) = true := by kernel_rfl
theorem j_rec : (Rows.codesUptoRow.recurses == Tryz.pinned.checked.prog.recurses 3) = true := by kernel_rfl
theorem j_named : (Rows.codesUptoRow.named == Tryz.pinned.checked.prog.varsNamed 3) = true := by kernel_rfl
set_option maxRecDepth 100000 in
theorem closed : joinedFacts Tryz.pinned.checked.prog 3 Tryz.f3 (Rows.OpenSpec.upto Rows.codesSpec).bare Rows.codesUptoRow = true := by
  unfold joinedFacts
  rw [j_laid, j_rowed, j_place, j_unf, j_rec, j_named]
  kernel_rfl
end codes
end Go.Proofs.YtgngdklkoilaiaaGreatDoor
