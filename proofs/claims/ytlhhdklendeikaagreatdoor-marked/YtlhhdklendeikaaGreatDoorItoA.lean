/- strconv.Itoa of a number that is not below 0. -/
import Derived.Test.YtlhhdklendeikaaGreatDoorLexA
import Derived.Test.YtlhhdklendeikaaGreatDoorShA
import Derived.Test.YtlhhdklendeikaaGreatDoorRows
import Derived.Lib.AppendIntMem
namespace Go.Proofs.YtlhhdklendeikaaGreatDoor
open Go.RowKit

/-- the table of powers, as Go's own text lays it -/
def PowTab (w : World) : Prop := Lib.TabIs Tryz.prog w (Rows.reckonedRow.named.getD 5 Rows.reckonedRow.func) .u64 Lib.pow10Tab
theorem PowTab.below {w w' : World} (h : PowTab w) (hb : Below w.heap.size w w') : PowTab w' := Lib.tabBelow_of_tabIs h w' hb
theorem itoa_any (u : Nat) (hu : u ≤ 4294967295) (w : World) (h : PowTab w) : Calls Tryz.prog 24 #[.int .i64 (u : Int)] w fun e w' => e = .returned (.string (bsA (Lib.decDigits u))) ∧ Below w.heap.size w w' := by
  refine (Any.strconv_Itoa Tryz.shItoa (u : Int) (by omega) (by omega) w h).mono ?_
  rintro e w' ⟨rfl, k, os, rfl⟩
  refine ⟨?_, Lib.below_grow _ _ (Nat.le_refl _) k os⟩
  rw [Lib.itoa, if_neg (by omega), Int.toNat_natCast]

end Go.Proofs.YtlhhdklendeikaaGreatDoor
