/- One of some policies, and their pairs (package bywaylaw: pick). -/
import Derived.Test.YtgdeeodifnegiaaGreatDoorLwB
namespace Go.Proofs.YtgdeeodifnegiaaGreatDoor
open Go.RowKit

def pickL (c n : Int) : Int := (if c < 0 then -(c + 1) else c) % n
set_option maxHeartbeats 400000 in
theorem pickL_any (c n : Int) (w : World) (h1 : -9223372036854775808 ≤ c) (h2 : c ≤ 9223372036854775807) (h3 : 0 < n) (h4 : n ≤ 2000000000000) :
    Calls Tryz.prog 14 #[.int .i64 c, .int .i64 n] w fun e w' => e = .returned (.int .i64 (pickL c n)) ∧ w' = w := by
  have hz : (n == 0) = false := beq_eq_false_iff_ne.2 (by omega)
  by_cases hc : c < 0
  · have HP := hide (show pickL c n = -((c + 1).tmod n) by unfold pickL; rw [if_pos hc, ← Int.neg_tmod, Int.tmod_eq_emod_of_nonneg (by omega)])
    go_enter Tryz.func14, Tryz.ntmps14
    go_wp2
    all_goals (go_ret; exact ⟨rf.ret_int (unhide HP).symm, rfl⟩)
  · have HP := hide (show pickL c n = c % n by unfold pickL; rw [if_neg hc])
    go_enter Tryz.func14, Tryz.ntmps14
    go_wp2
    all_goals (go_ret; exact ⟨rf.ret_int (unhide HP).symm, rfl⟩)
theorem pickL_lt (c n : Int) (h : 0 < n) : ∃ i : Nat, pickL c n = i ∧ (i : Int) < n := by
  have h1 := Int.emod_nonneg (if c < 0 then -(c + 1) else c) (show n ≠ 0 by omega)
  have h2 := Int.emod_lt_of_pos (if c < 0 then -(c + 1) else c) h
  exact ⟨(pickL c n).toNat, (Int.toNat_of_nonneg h1).symm, by rw [show ((pickL c n).toNat : Int) = pickL c n from Int.toNat_of_nonneg h1]; exact h2⟩
/-- the pairs of a row of policies -/
def PairsAt (W : World) (O : Nat → Prop) (xs : List Value) : Prop := ∀ i a b, xs[i * 2]? = some a → xs[i * 2 + 1]? = some b → PairAt W O a b
theorem PairsAt.fr {W W' : World} {O O' : Nat → Prop} {xs : List Value} (h : PairsAt W O xs) (hf : Fr O W O' W') : PairsAt W' O' xs := fun i a b h1 h2 => (h i a b h1 h2).fr hf
theorem PairsAt.snoc {W : World} {O : Nat → Prop} {xs : List Value} {n : Nat} {a b : Value} (h : PairsAt W O xs) (hl : xs.length = n * 2) (hp : PairAt W O a b) : PairsAt W O (xs ++ [a, b]) := fun i a' b' h1 h2 => by
  by_cases hi : i < n
  · rw [List.getElem?_append_left (by omega)] at h1 h2
    exact h i a' b' h1 h2
  · rw [List.getElem?_append_right (by omega)] at h1 h2
    have hin : i = n := by
      have := (List.getElem?_eq_some_iff.1 h1).1
      simp at this; omega
    subst hin
    rw [show i * 2 - xs.length = 0 by omega] at h1
    rw [show i * 2 + 1 - xs.length = 1 by omega] at h2
    simp at h1 h2
    subst h1 h2
    exact hp
end Go.Proofs.YtgdeeodifnegiaaGreatDoor
