/- The reference's smallest functions (isLow, isDigit, number, power, isNet): what each call answers; the world stays as it is. -/
import Derived.Test.YtgdeeodifnegiaaGreatDoorRows
import Derived.Test.YtgdeeodifnegiaaGreatDoorRfP
import Derived.WalkKit
import Derived.WalkSpells
import Derived.WalkLawsBesides
namespace Go.Proofs.YtgdeeodifnegiaaGreatDoor.rf
open Go.RowKit
theorem ret_int {k : IntKind} {a b : Int} (h : a = b) : Ending.returned (.int k a) = .returned (.int k b) := by rw [h]
theorem ret_bool {a b : Bool} (h : a = b) : Ending.returned (.bool a) = .returned (.bool b) := by rw [h]

set_option maxHeartbeats 400000 in
theorem isLow_any (n : Int) (w : World) :
    Calls Tryz.prog 112 #[.int .u8 n] w fun e w' => e = .returned (.bool (lowB n)) ∧ w' = w := by
  go_enter Tryz.func112, Tryz.ntmps112
  go_wp2
  all_goals (go_ret; exact ⟨ret_bool (by simp [lowB]; omega), rfl⟩)

set_option maxHeartbeats 400000 in
theorem isDigit_any (n : Int) (w : World) :
    Calls Tryz.prog 115 #[.int .u8 n] w fun e w' => e = .returned (.bool (digB n)) ∧ w' = w := by
  go_enter Tryz.func115, Tryz.ntmps115
  go_wp2
  all_goals (go_ret; exact ⟨ret_bool (by simp [digB]; omega), rfl⟩)

set_option maxHeartbeats 400000 in
theorem number_any (s : ByteArray) (m : Int) (w : World) :
    Calls Tryz.prog 116 #[.string s, .int .i64 m] w fun e w' => e = .returned (.int .i64 (numP s m)) ∧ w' = w := by
  by_cases h : s.size = 0 ∨ 10 < s.size ∨ (1 < s.size ∧ bt s 0 = 48)
  · have HN := hide (numP_no (m := m) h)
    rcases h with h | h | ⟨h, h2⟩
    · go_enter Tryz.func116, Tryz.ntmps116
      go_wp2
      all_goals first | (go_ret; exact ⟨ret_int (unhide HN).symm, rfl⟩) | (exfalso; simp_all; done)
    · go_enter Tryz.func116, Tryz.ntmps116
      go_wp2
      all_goals (go_ret; exact ⟨ret_int (unhide HN).symm, rfl⟩)
    · rw [bt_eq (by omega)] at h2
      have h3 : ((s[0].toNat : Int) == 48) = true := by simpa using h2
      clear h2
      go_enter Tryz.func116, Tryz.ntmps116
      go_wp2
      all_goals (go_ret; exact ⟨ret_int (unhide HN).symm, rfl⟩)
  · have HY := fun hd => hide (numP_yes (m := m) h hd)
    have HB := fun k hk hd => hide (numP_bad (s := s) (m := m) (k := k) hk hd)
    have hs0 : ((s.size : Int) == 0) = false := beq_eq_false_iff_ne.2 (by omega)
    have hs1 : (s.size : Int) ≤ 10 := by omega
    have hs2 : 0 < s.size := by omega
    have hor : ¬ 1 < s.size ∨ (1 < s.size ∧ ((s[0].toNat : Int) == 48) = false) := by
      by_cases h1 : 1 < s.size
      · right; refine ⟨h1, ?_⟩
        rw [bt_eq hs2] at h
        simp; omega
      · left; exact h1
    clear h
    rcases hor with h1 | ⟨h1, h3⟩
    all_goals
      go_enter Tryz.func116, Tryz.ntmps116
      go_wp2
      go_loop [5, 6] (fun n i => ∃ k : Nat, k ≤ s.size ∧ digTo s k ∧ i = .int .i64 k ∧ n = .int .i64 (numTo s k)) (fun _ i => s.size - (intOf i).toNat)
      case atStart => exact ⟨0, Nat.zero_le _, fun j hj => absurd hj (by omega), rfl, rfl⟩
      case round =>
        obtain ⟨k, hk, hd, rfl, rfl⟩ := hrel
        have hb := numTo_bd hd
        have hp : (10 : Int) ^ k ≤ 10 ^ 10 := by
          have h1 : (10 : Nat) ^ k ≤ 10 ^ 10 := Nat.pow_le_pow_right (by omega) (by omega)
          exact_mod_cast h1
        have hb1 : 0 ≤ numTo s k := hb.1
        have hb2 : numTo s k < 10000000000 := by have := hb.2; omega
        clear hb hp
        by_cases hlt : k < s.size
        · cases hdb : digB (bt s k) with
          | true =>
            have hdig := (digB_iff _).1 hdb
            rw [bt_eq hlt] at hdig
            obtain ⟨hdl, hdh⟩ := hdig
            have HE := hide (show numTo s (k + 1) = 10 * numTo s k + ((s[k].toNat : Int) - 48) by rw [numTo, bt_eq hlt])
            have HD := hide (digTo_succ hd hdb)
            rw [bt_eq hlt] at hdb
            go_wp2_with (go_at_call 115; refine (isDigit_any _ _).mono ?_; rintro e w' ⟨rfl, rfl⟩)
            go_round
            case rel => exact ⟨k + 1, by omega, unhide HD, by go_num, by rw [unhide HE]⟩
            case measure => simp [intOf]; omega
          | false =>
            have HN := HB k hlt hdb
            rw [bt_eq hlt] at hdb
            go_wp2_with (go_at_call 115; refine (isDigit_any _ _).mono ?_; rintro e w' ⟨rfl, rfl⟩)
            go_ret
            exact ⟨ret_int (unhide HN).symm, rfl⟩
        · have hke : k = s.size := by omega
          have HN := HY (hke ▸ hd)
          have HK := hide hke
          clear hke
          by_cases hm : m < numTo s k
          all_goals
            go_wp2
            go_ret
            refine ⟨ret_int ?_, rfl⟩
            rw [unhide HN, ← unhide HK]
            first | rw [if_pos hm] | rw [if_neg (by omega)]

set_option maxHeartbeats 400000 in
theorem power_any (n : Nat) (w : World) (h : n ≤ 32) :
    Calls Tryz.prog 193 #[.int .i64 n] w fun e w' => e = .returned (.int .i64 ((2 : Int) ^ n)) ∧ w' = w := by
  go_enter Tryz.func193, Tryz.ntmps193
  go_wp2
  go_loop [3, 4] (fun p i => ∃ k : Nat, k ≤ n ∧ i = .int .i64 k ∧ p = .int .i64 ((2 : Int) ^ k)) (fun _ i => n - (intOf i).toNat)
  case atStart => exact ⟨0, Nat.zero_le _, rfl, rfl⟩
  case round =>
    obtain ⟨k, hk, rfl, rfl⟩ := hrel
    have ⟨hb0, hb⟩ := pow2_bd (k := k) (by omega)
    have HE := hide (pow2_succ k)
    generalize hq : (2 : Int) ^ k = q at *
    have HQ := hide hq
    clear hq
    by_cases hlt : k < n
    · go_wp2
      go_round
      case rel => exact ⟨k + 1, by omega, by go_num, by rw [unhide HE]⟩
      case measure => simp [intOf]; omega
    · go_wp2
      go_ret
      exact ⟨ret_int (by rw [← unhide HQ, show k = n by omega]), rfl⟩

set_option maxHeartbeats 400000 in
theorem words_any (w : World) :
    Calls Tryz.prog 114 #[] w fun e w' => e = .returned (.slice (some ⟨w.heap.size, 0, none⟩) 21 21) ∧ w' = w.alloc (.cells (wordsL.map Value.string).toArray 9) := by
  go_enter Tryz.func114, Tryz.ntmps114
  go_wp2
  go_ret
  exact ⟨rfl, rfl⟩

set_option maxHeartbeats 400000 in
theorem among_any (b : Nat) (l : List ByteArray) (x : ByteArray) (n c : Nat) (w : World) (hn : l.length = n) (hm : n ≤ 1000) (hc : ∀ j, (h : j < l.length) → w.cell? ⟨b, j, none⟩ = some (.string l[j])) :
    Calls Tryz.prog 113 #[.slice (some ⟨b, 0, none⟩) n c, .string x] w fun e w' => e = .returned (.bool (amongB l x)) ∧ w' = w := by
  subst hn
  go_enter Tryz.func113, Tryz.ntmps113
  go_wp2
  go_loop [5] (fun i => ∃ k : Nat, k ≤ l.length ∧ amongTo l x k = false ∧ i = .int .i64 k) (fun i => l.length - (intOf i).toNat)
  case atStart => exact ⟨0, Nat.zero_le _, rfl, rfl⟩
  case round =>
    obtain ⟨k, hk, ha, rfl⟩ := hrel
    have HA := hide ha
    clear ha
    by_cases hlt : k < l.length
    · have hck := hc k hlt
      have HC := hide hc
      clear hc
      cases he : (l[k].toList == x.toList) with
      | true =>
        have HT := hide (amongB_of hlt he)
        go_wp2
        go_ret
        exact ⟨ret_bool (unhide HT).symm, rfl⟩
      | false =>
        have HS := hide (amongTo_succ (w := x) hlt)
        go_wp2
        go_round
        case rel => exact ⟨k + 1, by omega, by rw [unhide HS, unhide HA, he]; rfl, by go_num⟩
        case measure => simp [intOf]; omega
    · go_wp2
      go_ret
      exact ⟨ret_bool (amongB_end (by rw [← show k = l.length by omega]; exact unhide HA)).symm, rfl⟩

end Go.Proofs.YtgdeeodifnegiaaGreatDoor.rf
