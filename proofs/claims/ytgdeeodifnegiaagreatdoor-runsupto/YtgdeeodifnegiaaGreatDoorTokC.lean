/- Tokens: rows of bytes, numbers (package token). -/
import Derived.Test.YtgdeeodifnegiaaGreatDoorTokA
namespace Go.Proofs.YtgdeeodifnegiaaGreatDoor
open Go.RowKit

set_option maxRecDepth 100000 in
set_option maxHeartbeats 1000000 in
theorem rowLow (s : ByteArray) (hs : s.size ≤ 1000) (w : World) :
    Calls Tryz.prog 206 #[.string s, .func (.func 204) #[] #[]] w fun e w' => e = .returned (.string (s.extract 0 (scanTo lowB s 0))) ∧ w' = w := by
  go_enter Tryz.func206, Tryz.ntmps206
  go_wp2_with fail
  go_loop [5] (fun x => ∃ m : Nat, m ≤ s.size ∧ scanTo lowB s m = scanTo lowB s 0 ∧ x = .int .i64 m) (fun x => s.size - (intOf x).toNat)
  case atStart => exact ⟨0, by omega, rfl, rfl⟩
  case round =>
    obtain ⟨m, hms, hsc, rfl⟩ := hrel
    have HM := hide hsc
    clear hsc
    by_cases hx : m < s.size ∧ lowB (bt s m) = true
    · obtain ⟨hmt, hml⟩ := hx
      have HS := hide (scanTo_step hmt hml)
      rw [bt_eq hmt] at hml
      go_wp2_with (go_at_call 204; refine (isLetter_any _ _).mono ?_; rintro e w' ⟨rfl, rfl⟩)
      go_round
      case rel => exact ⟨m + 1, by omega, by rw [← unhide HS]; exact unhide HM, by go_num⟩
      case measure => simp [intOf]; omega
    · have hme : m = scanTo lowB s 0 := by rw [← unhide HM, scanTo_stop hx]
      have HME := hide hme
      have hy : (∃ h : m < s.size, lowB (s[m].toNat : Int) = false) ∨ ¬ m < s.size := by
        by_cases h : m < s.size
        · left; refine ⟨h, ?_⟩; rw [← bt_eq h]; simpa [h] using hx
        · right; exact h
      clear hx hme
      rcases hy with ⟨hmt, hml⟩ | hmt
      all_goals
        go_wp2_with (go_at_call 204; refine (isLetter_any _ _).mono ?_; rintro e w' ⟨rfl, rfl⟩)
        go_ret
        exact ⟨by rw [← unhide HME]; rfl, rfl⟩
set_option maxRecDepth 100000 in
set_option maxHeartbeats 1000000 in
theorem rowNum (s : ByteArray) (hs : s.size ≤ 1000) (w : World) :
    Calls Tryz.prog 206 #[.string s, .func (.func 209) #[] #[]] w fun e w' => e = .returned (.string (s.extract 0 (scanTo numeB s 0))) ∧ w' = w := by
  go_enter Tryz.func206, Tryz.ntmps206
  go_wp2_with fail
  go_loop [5] (fun x => ∃ m : Nat, m ≤ s.size ∧ scanTo numeB s m = scanTo numeB s 0 ∧ x = .int .i64 m) (fun x => s.size - (intOf x).toNat)
  case atStart => exact ⟨0, by omega, rfl, rfl⟩
  case round =>
    obtain ⟨m, hms, hsc, rfl⟩ := hrel
    have HM := hide hsc
    clear hsc
    by_cases hx : m < s.size ∧ numeB (bt s m) = true
    · obtain ⟨hmt, hml⟩ := hx
      have HS := hide (scanTo_step hmt hml)
      rw [bt_eq hmt] at hml
      go_wp2_with (go_at_call 209; refine (isNumeral_any _ _).mono ?_; rintro e w' ⟨rfl, rfl⟩)
      go_round
      case rel => exact ⟨m + 1, by omega, by rw [← unhide HS]; exact unhide HM, by go_num⟩
      case measure => simp [intOf]; omega
    · have hme : m = scanTo numeB s 0 := by rw [← unhide HM, scanTo_stop hx]
      have HME := hide hme
      have hy : (∃ h : m < s.size, numeB (s[m].toNat : Int) = false) ∨ ¬ m < s.size := by
        by_cases h : m < s.size
        · left; refine ⟨h, ?_⟩; rw [← bt_eq h]; simpa [h] using hx
        · right; exact h
      clear hx hme
      rcases hy with ⟨hmt, hml⟩ | hmt
      all_goals
        go_wp2_with (go_at_call 209; refine (isNumeral_any _ _).mono ?_; rintro e w' ⟨rfl, rfl⟩)
        go_ret
        exact ⟨by rw [← unhide HME]; rfl, rfl⟩

theorem numTo_mono {s : ByteArray} {k : Nat} : ∀ j, digTo s (k + j) → numTo s k ≤ numTo s (k + j)
  | 0, _ => Int.le_refl _
  | j + 1, h => by
    have h0 : digTo s (k + j) := fun i hi => h i (by omega)
    have ih := numTo_mono j h0
    have hb := (numTo_bd h0).1
    have hd := (digB_iff _).1 (h (k + j) (by omega))
    show numTo s k ≤ 10 * numTo s (k + j) + (bt s (k + j) - 48)
    omega
theorem numTo_lo {s : ByteArray} (h0 : bt s 0 ≠ 48) : ∀ k, digTo s (k + 1) → (10 : Int) ^ k ≤ numTo s (k + 1)
  | 0, h => by
    have hd := (digB_iff _).1 (h 0 (by omega))
    show (1 : Int) ≤ 10 * 0 + (bt s 0 - 48)
    omega
  | k + 1, h => by
    have ih := numTo_lo h0 k (fun i hi => h i (by omega))
    have hd := (digB_iff _).1 (h (k + 1) (by omega))
    show (10 : Int) ^ (k + 1) ≤ 10 * numTo s (k + 1) + (bt s (k + 1) - 48)
    rw [Int.pow_succ]; omega
theorem numP_over {s : ByteArray} {m : Int} {k : Nat} (hk : k ≤ s.size) (_hd : digTo s k) (hm : m < numTo s k) : numP s m = -1 := by
  by_cases h : s.size = 0 ∨ 10 < s.size ∨ (1 < s.size ∧ bt s 0 = 48)
  · exact numP_no h
  · unfold numP; rw [if_neg h]
    split
    · rename_i hall
      obtain ⟨j, hj⟩ : ∃ j, s.size = k + j := ⟨s.size - k, by omega⟩
      have h2 := numTo_mono (s := s) (k := k) j (by rw [← hj]; exact hall)
      rw [← hj] at h2
      rw [if_pos (by omega)]
    · rfl
def numIs (s : ByteArray) (m : Int) : Bool := decide (0 ≤ numP s m)
def numV (s : ByteArray) (m : Int) : Int := if 0 ≤ numP s m then numP s m else 0
theorem numIs_no {s : ByteArray} {m : Int} (h : numP s m = -1) : numV s m = 0 ∧ numIs s m = false := by
  unfold numV numIs; rw [h]; exact ⟨rfl, rfl⟩
theorem numIs_yes {s : ByteArray} {m n : Int} (h : numP s m = n) (hn : 0 ≤ n) : numV s m = n ∧ numIs s m = true := by
  unfold numV numIs; rw [h, if_pos hn, decide_eq_true hn]; exact ⟨rfl, rfl⟩
set_option maxRecDepth 100000 in
set_option maxHeartbeats 2000000 in
theorem number_any (s : ByteArray) (m : Int) (hs : s.size ≤ 1000) (h0 : 0 ≤ m) (h1 : m ≤ 4294967295) (w : World) :
    Calls Tryz.prog 256 #[.string s, .int .i64 m] w fun e w' => e = .returned (.tuple #[.int .i64 (numV s m), .bool (numIs s m)]) ∧ w' = w := by
  by_cases hz : s.size = 0
  · have hsE : s = ⟨#[]⟩ := by
      obtain ⟨d⟩ := s
      have : d = #[] := Array.eq_empty_of_size_eq_zero hz
      rw [this]
    have HN := hide (numIs_no (numP_no (s := s) (m := m) (Or.inl hz)))
    subst hsE
    go_enter Tryz.func256, Tryz.ntmps256
    go_wp2_with fail
    go_ret2
    exact ⟨by rw [(unhide HN).1, (unhide HN).2]; rfl, rfl⟩
  · have hpos : 0 < s.size := by omega
    have hne : (s.toList == []) = false := by
      have : s.toList.length = s.size := by rw [ByteArray.toList_eq]; rfl
      cases hl : s.toList with
      | nil => rw [hl] at this; simp at this; omega
      | cons a b => rfl
    by_cases hlead : 1 < s.size ∧ bt s 0 = 48
    · have HN := hide (numIs_no (numP_no (s := s) (m := m) (Or.inr (Or.inr hlead))))
      obtain ⟨hl1, hl2⟩ := hlead
      rw [bt_eq hpos] at hl2
      have hl3 : ((s[0].toNat : Int) == 48) = true := by simpa using hl2
      clear hl2
      go_enter Tryz.func256, Tryz.ntmps256
      go_wp2_with fail
      go_ret2
      exact ⟨by rw [(unhide HN).1, (unhide HN).2]; rfl, rfl⟩
    · have hor : ¬ 1 < s.size ∨ (1 < s.size ∧ ((s[0].toNat : Int) == 48) = false) := by
        by_cases h : 1 < s.size
        · right; refine ⟨h, ?_⟩
          rw [bt_eq hpos] at hlead
          simp; omega
        · left; exact h
      have HB := fun k hk hd => hide (numIs_no (numP_bad (s := s) (m := m) (k := k) hk hd))
      have HO := fun k hk hd hm => hide (numIs_no (numP_over (s := s) (m := m) (k := k) hk hd hm))
      have HY : Hid (digTo s s.size → numTo s s.size ≤ m → numV s m = numTo s s.size ∧ numIs s m = true) := fun hd hm => by
        have hle : s.size ≤ 10 := by
          rcases Nat.lt_or_ge 10 s.size with h | h
          · have hb0 : bt s 0 ≠ 48 := fun e => hlead ⟨by omega, e⟩
            obtain ⟨j, hj⟩ : ∃ j, s.size = j + 1 := ⟨s.size - 1, by omega⟩
            have h2 := numTo_lo hb0 j (by rw [← hj]; exact hd)
            rw [← hj] at h2
            have h3 : (10 : Int) ^ 10 ≤ 10 ^ j := by
              have h1 : (10 : Nat) ^ 10 ≤ 10 ^ j := Nat.pow_le_pow_right (by omega) (by omega)
              exact_mod_cast h1
            have h4 : (10 : Int) ^ 10 = 10000000000 := by decide
            omega
          · exact h
        refine numIs_yes ?_ (numTo_bd hd).1
        rw [numP_yes (fun h => by rcases h with h | h | h; omega; omega; exact hlead h) hd, if_neg (by omega)]
      clear hlead hz
      rcases hor with hl1 | ⟨hl1, hl3⟩
      all_goals
        go_enter Tryz.func256, Tryz.ntmps256
        go_wp2_with fail
        go_loop [6, 22] (fun n i => ∃ k : Nat, k ≤ s.size ∧ digTo s k ∧ numTo s k ≤ m ∧ i = .int .i64 k ∧ n = .int .i64 (numTo s k)) (fun _ i => s.size - (intOf i).toNat)
        case atStart => exact ⟨0, Nat.zero_le _, fun j hj => absurd hj (by omega), h0, rfl, rfl⟩
        case round =>
          obtain ⟨k, hk, hd, hmk, rfl, rfl⟩ := hrel
          have hb1 : 0 ≤ numTo s k := (numTo_bd hd).1
          by_cases hlt : k < s.size
          · cases hdb : digB (bt s k) with
            | true =>
              have hdig := (digB_iff _).1 hdb
              rw [bt_eq hlt] at hdig
              obtain ⟨hdl, hdh⟩ := hdig
              have HE := hide (show numTo s (k + 1) = 10 * numTo s k + ((s[k].toNat : Int) - 48) by rw [numTo, bt_eq hlt])
              have HD := hide (digTo_succ hd hdb)
              rw [bt_eq hlt] at hdb
              by_cases hov : m < 10 * numTo s k + ((s[k].toNat : Int) - 48)
              · have HN := HO (k + 1) (by omega) (unhide HD) (by rw [unhide HE]; exact hov)
                go_wp2_with (go_at_call 207; refine (isDigit_any _ _).mono ?_; rintro e w' ⟨rfl, rfl⟩)
                go_ret2
                exact ⟨by rw [(unhide HN).1, (unhide HN).2]; rfl, rfl⟩
              · go_wp2_with (go_at_call 207; refine (isDigit_any _ _).mono ?_; rintro e w' ⟨rfl, rfl⟩)
                go_round
                case rel => exact ⟨k + 1, by omega, unhide HD, by rw [unhide HE]; omega, by go_num, by rw [unhide HE]⟩
                case measure => simp [intOf]; omega
            | false =>
              have HN := HB k hlt hdb
              rw [bt_eq hlt] at hdb
              go_wp2_with (go_at_call 207; refine (isDigit_any _ _).mono ?_; rintro e w' ⟨rfl, rfl⟩)
              go_ret2
              exact ⟨by rw [(unhide HN).1, (unhide HN).2]; rfl, rfl⟩
          · have hke : k = s.size := by omega
            have HN := hide (show numV s m = numTo s k ∧ numIs s m = true by rw [hke]; exact (unhide HY) (hke ▸ hd) (hke ▸ hmk))
            clear hke
            go_wp2_with fail
            go_ret2
            refine ⟨?_, rfl⟩
            rw [(unhide HN).1, (unhide HN).2]; rfl
end Go.Proofs.YtgdeeodifnegiaaGreatDoor
