/- Powers of two, plain. -/
import Derived.Test.YtjpajfbacmndfaaDoorBase
namespace Go.Proofs.YtjpajfbacmndfaaDoor
open Go.RowKit
theorem tdiv_in {n k : Int} (h1 : -9223372036854775808 ≤ n) (h2 : n ≤ 9223372036854775807) (hk : 1 < k) : -9223372036854775808 ≤ n.tdiv k ∧ n.tdiv k ≤ 9223372036854775807 := by
  rcases Int.le_total 0 n with h | h
  · have := Int.tdiv_nonneg h (by omega : 0 ≤ k)
    have := Int.tdiv_le_self k h
    omega
  · have h3 : 0 ≤ (-n).tdiv k := Int.tdiv_nonneg (by omega) (by omega)
    have h4 : (-n).tdiv k ≤ -n := Int.tdiv_le_self k (by omega)
    rw [Int.neg_tdiv] at h3 h4
    omega
theorem pow_sz {s k : Int} (h : s ≤ k) (_hk : k ≤ 32) : (2 : Int) ^ (k + 1 - s).toNat = 2 * 2 ^ (k - s).toNat := by
  rw [show (k + 1 - s).toNat = (k - s).toNat + 1 by omega, Int.pow_succ, Int.mul_comm]
theorem pow_bd {s k : Int} (h : 0 ≤ s) (hk : k ≤ 32) : 0 < (2 : Int) ^ (k - s).toNat ∧ (2 : Int) ^ (k - s).toNat ≤ 4294967296 := by
  have hk : (k - s).toNat ≤ 32 := by omega
  generalize (k - s).toNat = m at hk
  have h2 : (2 : Int) ^ m ≤ 2 ^ 32 := by
    have h1 : (2 : Nat) ^ m ≤ 2 ^ 32 := Nat.pow_le_pow_right (by omega) hk
    exact_mod_cast h1
  exact ⟨Int.pow_pos (by omega), h2⟩


end Go.Proofs.YtjpajfbacmndfaaDoor
