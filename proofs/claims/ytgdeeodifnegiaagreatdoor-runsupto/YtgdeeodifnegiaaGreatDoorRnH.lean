/- A range of the document holds a net (run.go: holds). -/
import Derived.Test.YtgdeeodifnegiaaGreatDoorRnG
import Derived.Test.YtgdeeodifnegiaaGreatDoorEqF
namespace Go.Proofs.YtgdeeodifnegiaaGreatDoor.rf
open Go.RowKit

theorem xor_i64 (a b : Nat) (ha : a < 4294967296) (hb : b < 4294967296) : bits .xor .i64 (a : Int) (b : Int) = ((a ^^^ b : Nat) : Int) := by
  have hx : a ^^^ b < 2 ^ 32 := Nat.xor_lt_two_pow (by omega) (by omega)
  have h1 : (BitVec.ofInt 64 (a : Int)).toNat = a := by
    rw [BitVec.ofInt_natCast, BitVec.toNat_ofNat]; exact Nat.mod_eq_of_lt (by omega)
  have h2 : (BitVec.ofInt 64 (b : Int)).toNat = b := by
    rw [BitVec.ofInt_natCast, BitVec.toNat_ofNat]; exact Nat.mod_eq_of_lt (by omega)
  show IntKind.i64.wrap ((BitVec.ofInt 64 (a : Int) ^^^ BitVec.ofInt 64 (b : Int)).toNat : Int) = _
  rw [BitVec.toNat_xor, h1, h2, IntKind.wrap_i64]
  omega
theorem xor_div {a b : Int} (s : Nat) (a0 : 0 ≤ a) (a1 : a ≤ 4294967295) (b0 : 0 ≤ b) (b1 : b ≤ 4294967295) : (bits .xor .i64 a b / 2 ^ s == 0) = decide (a / 2 ^ s = b / 2 ^ s) := by
  obtain ⟨x, rfl⟩ := Int.eq_ofNat_of_zero_le a0
  obtain ⟨y, rfl⟩ := Int.eq_ofNat_of_zero_le b0
  rw [xor_i64 x y (by omega) (by omega)]
  have e : ∀ n : Nat, ((n : Int) / 2 ^ s) = ((n / 2 ^ s : Nat) : Int) := fun n => by rw [Int.natCast_ediv]; simp
  rw [e, e, e, ← Nat.shiftRight_eq_div_pow, ← Nat.shiftRight_eq_div_pow, ← Nat.shiftRight_eq_div_pow, Nat.shiftRight_xor_distrib]
  generalize x >>> s = u
  generalize y >>> s = v
  rw [Bool.eq_iff_iff]
  simp only [beq_iff_eq, decide_eq_true_eq]
  constructor
  · intro h
    have h' : u ^^^ v = 0 := by omega
    have h2 : u ^^^ (u ^^^ v) = v := by rw [← Nat.xor_assoc, Nat.xor_self, Nat.zero_xor]
    rw [← h2, h', Nat.xor_zero]
  · intro h
    have h' : u = v := by omega
    rw [h', Nat.xor_self]; rfl
set_option maxRecDepth 100000 in
set_option maxHeartbeats 3200000 in
theorem holds_any (x : Rg) (a l : Int) (hx : NetN x.addr x.len) (ha : NetN a l) (w : World) :
    Calls Tryz.prog 194 #[.agg #[.int .i64 x.addr, .int .i64 x.len, .int .i64 x.lo, .int .i64 x.hi, .int .i64 x.loAt, .int .i64 x.hiAt], .agg #[.int .i64 a, .int .i64 l]] w fun e w' => e = .returned (.bool (rgSet x a l)) ∧ Below w.heap.size w w' := by
  obtain ⟨xa, xl, xlo, xhi, xla, xha⟩ := x
  obtain ⟨h1, h2, h3, h4⟩ := hx
  obtain ⟨g1, g2, g3, g4⟩ := ha
  dsimp only at h1 h2 h3 h4 ⊢
  have hset : rgSet ⟨xa, xl, xlo, xhi, xla, xha⟩ a l = (decide (xlo ≤ l) && (decide (l ≤ xhi) && (decide (xl ≤ l) && decide (a / 2 ^ (32 - xl).toNat = xa / 2 ^ (32 - xl).toNat)))) := by
    show (decide (xlo ≤ l) && (decide (l ≤ xhi) && (decide (xl ≤ l) && (bits .xor .i64 a xa / 2 ^ (32 - xl).toNat == 0)))) = _
    rw [xor_div _ g1 g2 h1 h2]
  have b2 : Below w.heap.size w ((w.alloc (.cells #[.int .i64 xa, .int .i64 xl, .int .i64 xlo, .int .i64 xhi, .int .i64 xla, .int .i64 xha] 233)).alloc (.cells #[.int .i64 a, .int .i64 l] 25)) := ((Below.refl _ _).alloc (Nat.le_refl _) _).alloc (by simp) _
  have HB := hide b2
  clear b2
  by_cases c : l < xlo ∨ xhi < l ∨ l < xl
  · have HS := hide (show rgSet ⟨xa, xl, xlo, xhi, xla, xha⟩ a l = false from by
      rw [hset]
      rcases c with c | c | c
      · rw [decide_eq_false (by omega : ¬ xlo ≤ l), Bool.false_and]
      · rw [decide_eq_false (by omega : ¬ l ≤ xhi), Bool.false_and, Bool.and_false]
      · rw [decide_eq_false (by omega : ¬ xl ≤ l), Bool.false_and, Bool.and_false, Bool.and_false])
    clear hset
    rw [unhide HS]
    go_enter Tryz.func194, Tryz.ntmps194
    go_wp2_with fail
    all_goals
      go_ret
      exact ⟨rfl, unhide HB⟩
  · obtain ⟨m, hm⟩ : ∃ m : Nat, 32 - xl = m := ⟨(32 - xl).toNat, by omega⟩
    have hm32 : m ≤ 32 := by omega
    have c1 : ¬ l < xlo := fun h => c (Or.inl h)
    have c2 : ¬ xhi < l := fun h => c (Or.inr (Or.inl h))
    have c3 : ¬ l < xl := fun h => c (Or.inr (Or.inr h))
    have HS := hide (show rgSet ⟨xa, xl, xlo, xhi, xla, xha⟩ a l = (a / (2 ^ m) == xa / (2 ^ m)) from by
      rw [hset, decide_eq_true (by omega : xlo ≤ l), decide_eq_true (by omega : l ≤ xhi), decide_eq_true (by omega : xl ≤ l), hm, Int.toNat_natCast]
      simp only [Bool.true_and]
      rw [Bool.eq_iff_iff]; simp)
    have hp : (1 : Int) ≤ 2 ^ m := by
      have : (0 : Int) < 2 ^ m := Int.pow_pos (by decide)
      omega
    have hp2 : (2 : Int) ^ m ≤ 4294967296 := by
      have h : (2 : Nat) ^ m ≤ 2 ^ 32 := Nat.pow_le_pow_right (by decide) hm32
      have : ((2 ^ m : Nat) : Int) ≤ ((2 ^ 32 : Nat) : Int) := by exact_mod_cast h
      simpa using this
    have hz : ((2 : Int) ^ m == 0) = false := by rw [beq_eq_false_iff_ne]; omega
    have PW := hide (power_any m · hm32)
    obtain ⟨P, hP⟩ : ∃ P, (2 : Int) ^ m = P := ⟨_, rfl⟩
    rw [hP] at HS PW hp hp2 hz
    clear hset c hP
    rw [unhide HS]
    go_enter Tryz.func194, Tryz.ntmps194
    go_wp2_with fail
    refine (unhide PW _).mono ?_
    rintro e w' ⟨rfl, rfl⟩
    go_wp2_with fail
    go_quiet ((fail))
    go_wp2_with fail
    go_ret
    exact ⟨rfl, below_drewN (unhide HB) _⟩
end Go.Proofs.YtgdeeodifnegiaaGreatDoor.rf
