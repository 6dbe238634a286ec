/- The statements' function net (package bywaykeep): what a call answers; old memory stays as it is. -/
import Derived.Test.YtlhhdklendeikaaGreatDoorKnB
namespace Go.Proofs.YtlhhdklendeikaaGreatDoor
open Go.RowKit

set_option maxRecDepth 100000 in
set_option maxHeartbeats 1000000 in
theorem net_any (n : Int) (w : World) (h1 : -9223372036854775808 ≤ n) (h2 : n ≤ 9223372036854775807) :
    Calls Tryz.prog 21 #[.int .i64 n] w fun e w' => e = .returned (.agg #[.int .i64 (netP n).1, .int .i64 (netP n).2]) ∧ Below w.heap.size w w' := by
  have hp := pickP_bd (c := n) (n := 8) (by omega)
  have HN : Hid (netP n = (rawA n / powP (szP (pickP n 8)) * powP (szP (pickP n 8)), szP (pickP n 8))) := rfl
  obtain ⟨q, hq⟩ : ∃ q, pickP n 8 = q := ⟨_, rfl⟩
  rw [hq] at hp HN
  have HQ := hide hq
  clear hq
  have d8 := tdiv_in h1 h2 (k := 8) (by omega)
  have d24 := tdiv_in h1 h2 (k := 24) (by omega)
  have d48 := tdiv_in h1 h2 (k := 48) (by omega)
  rcases (by omega : q = 0 ∨ q = 1 ∨ q = 2 ∨ q = 3 ∨ q = 4 ∨ q = 5 ∨ q = 6 ∨ q = 7) with rfl | rfl | rfl | rfl | rfl | rfl | rfl | rfl
  · clear hp
    go_enter Tryz.func21, Tryz.ntmps21
    go_wp2_with (go_at_call 22; refine (pick_any _ _ _ (by omega) (by omega) (by omega) (by omega)).mono ?_; rintro e w' ⟨rfl, rfl⟩; rw [unhide HQ])
    go_loop [4, 5] (fun p i => ∃ k : Int, 8 ≤ k ∧ k ≤ 32 ∧ i = .int .i64 k ∧ p = .int .i64 ((2 : Int) ^ (k - 8).toNat)) (fun _ i => (32 - intOf i).toNat)
    case atStart => exact ⟨8, by omega, by omega, rfl, rfl⟩
    case round =>
      obtain ⟨k, hk1, hk2, rfl, rfl⟩ := hrel
      have hb := pow_bd (s := 8) (k := k) (by omega) hk2
      have HS := hide (pow_sz (s := 8) hk1 hk2)
      obtain ⟨P, hP⟩ : ∃ P, (2 : Int) ^ (k - 8).toNat = P := ⟨_, rfl⟩
      rw [hP] at hb HS ⊢
      obtain ⟨hb1, hb2⟩ := hb
      have HP := hide hP
      clear hP
      by_cases hlt : k < 32
      · go_wp2
        go_round
        case rel => exact ⟨k + 1, by omega, by omega, rfl, by rw [unhide HS]⟩
        case measure => simp [intOf]; omega
      · have hPz : (P == 0) = false := beq_eq_false_iff_ne.2 (by omega)
        have p1 := pickP_bd (c := n.tdiv 8) (n := 3) (by omega)
        have p2 := pickP_bd (c := n.tdiv 24) (n := 2) (by omega)
        have p3 := pickP_bd (c := n.tdiv 48) (n := 2) (by omega)
        have HE : Hid (P = powP 8) := by unfold Hid powP; rw [← unhide HP, show k = 32 by omega]
        go_wp2_with (go_at_call 22; refine (pick_any _ _ _ (by omega) (by omega) (by omega) (by omega)).mono ?_; rintro e w' ⟨rfl, rfl⟩)
        rw [show 167772160 + pickP (n.tdiv 8) 3 * 65536 + pickP (n.tdiv 24) 2 * 256 + pickP (n.tdiv 48) 2 = rawA n from rfl]
        have hr := rawA_bd n
        have hd := div_mul_bd hb1 (a := rawA n) (by omega)
        rw [w64 (n := rawA n / P * P) (by omega)]
        refine bodyPost_ret (v := .agg #[.int .i64 (rawA n / P * P), .int .i64 8]) (by simp [results, Tryz.results21, go_sem]) rfl ⟨?_, by exact ((Below.refl _ _).alloc (Nat.le_refl _) _).alloc (by simp) _⟩
        rw [unhide HN, unhide HE]
        rfl
  · clear hp
    go_enter Tryz.func21, Tryz.ntmps21
    go_wp2_with (go_at_call 22; refine (pick_any _ _ _ (by omega) (by omega) (by omega) (by omega)).mono ?_; rintro e w' ⟨rfl, rfl⟩; rw [unhide HQ])
    go_loop [4, 5] (fun p i => ∃ k : Int, 16 ≤ k ∧ k ≤ 32 ∧ i = .int .i64 k ∧ p = .int .i64 ((2 : Int) ^ (k - 16).toNat)) (fun _ i => (32 - intOf i).toNat)
    case atStart => exact ⟨16, by omega, by omega, rfl, rfl⟩
    case round =>
      obtain ⟨k, hk1, hk2, rfl, rfl⟩ := hrel
      have hb := pow_bd (s := 16) (k := k) (by omega) hk2
      have HS := hide (pow_sz (s := 16) hk1 hk2)
      obtain ⟨P, hP⟩ : ∃ P, (2 : Int) ^ (k - 16).toNat = P := ⟨_, rfl⟩
      rw [hP] at hb HS ⊢
      obtain ⟨hb1, hb2⟩ := hb
      have HP := hide hP
      clear hP
      by_cases hlt : k < 32
      · go_wp2
        go_round
        case rel => exact ⟨k + 1, by omega, by omega, rfl, by rw [unhide HS]⟩
        case measure => simp [intOf]; omega
      · have hPz : (P == 0) = false := beq_eq_false_iff_ne.2 (by omega)
        have p1 := pickP_bd (c := n.tdiv 8) (n := 3) (by omega)
        have p2 := pickP_bd (c := n.tdiv 24) (n := 2) (by omega)
        have p3 := pickP_bd (c := n.tdiv 48) (n := 2) (by omega)
        have HE : Hid (P = powP 16) := by unfold Hid powP; rw [← unhide HP, show k = 32 by omega]
        go_wp2_with (go_at_call 22; refine (pick_any _ _ _ (by omega) (by omega) (by omega) (by omega)).mono ?_; rintro e w' ⟨rfl, rfl⟩)
        rw [show 167772160 + pickP (n.tdiv 8) 3 * 65536 + pickP (n.tdiv 24) 2 * 256 + pickP (n.tdiv 48) 2 = rawA n from rfl]
        have hr := rawA_bd n
        have hd := div_mul_bd hb1 (a := rawA n) (by omega)
        rw [w64 (n := rawA n / P * P) (by omega)]
        refine bodyPost_ret (v := .agg #[.int .i64 (rawA n / P * P), .int .i64 16]) (by simp [results, Tryz.results21, go_sem]) rfl ⟨?_, by exact ((Below.refl _ _).alloc (Nat.le_refl _) _).alloc (by simp) _⟩
        rw [unhide HN, unhide HE]
        rfl
  · clear hp
    go_enter Tryz.func21, Tryz.ntmps21
    go_wp2_with (go_at_call 22; refine (pick_any _ _ _ (by omega) (by omega) (by omega) (by omega)).mono ?_; rintro e w' ⟨rfl, rfl⟩; rw [unhide HQ])
    go_loop [4, 5] (fun p i => ∃ k : Int, 24 ≤ k ∧ k ≤ 32 ∧ i = .int .i64 k ∧ p = .int .i64 ((2 : Int) ^ (k - 24).toNat)) (fun _ i => (32 - intOf i).toNat)
    case atStart => exact ⟨24, by omega, by omega, rfl, rfl⟩
    case round =>
      obtain ⟨k, hk1, hk2, rfl, rfl⟩ := hrel
      have hb := pow_bd (s := 24) (k := k) (by omega) hk2
      have HS := hide (pow_sz (s := 24) hk1 hk2)
      obtain ⟨P, hP⟩ : ∃ P, (2 : Int) ^ (k - 24).toNat = P := ⟨_, rfl⟩
      rw [hP] at hb HS ⊢
      obtain ⟨hb1, hb2⟩ := hb
      have HP := hide hP
      clear hP
      by_cases hlt : k < 32
      · go_wp2
        go_round
        case rel => exact ⟨k + 1, by omega, by omega, rfl, by rw [unhide HS]⟩
        case measure => simp [intOf]; omega
      · have hPz : (P == 0) = false := beq_eq_false_iff_ne.2 (by omega)
        have p1 := pickP_bd (c := n.tdiv 8) (n := 3) (by omega)
        have p2 := pickP_bd (c := n.tdiv 24) (n := 2) (by omega)
        have p3 := pickP_bd (c := n.tdiv 48) (n := 2) (by omega)
        have HE : Hid (P = powP 24) := by unfold Hid powP; rw [← unhide HP, show k = 32 by omega]
        go_wp2_with (go_at_call 22; refine (pick_any _ _ _ (by omega) (by omega) (by omega) (by omega)).mono ?_; rintro e w' ⟨rfl, rfl⟩)
        rw [show 167772160 + pickP (n.tdiv 8) 3 * 65536 + pickP (n.tdiv 24) 2 * 256 + pickP (n.tdiv 48) 2 = rawA n from rfl]
        have hr := rawA_bd n
        have hd := div_mul_bd hb1 (a := rawA n) (by omega)
        rw [w64 (n := rawA n / P * P) (by omega)]
        refine bodyPost_ret (v := .agg #[.int .i64 (rawA n / P * P), .int .i64 24]) (by simp [results, Tryz.results21, go_sem]) rfl ⟨?_, by exact ((Below.refl _ _).alloc (Nat.le_refl _) _).alloc (by simp) _⟩
        rw [unhide HN, unhide HE]
        rfl
  · clear hp
    go_enter Tryz.func21, Tryz.ntmps21
    go_wp2_with (go_at_call 22; refine (pick_any _ _ _ (by omega) (by omega) (by omega) (by omega)).mono ?_; rintro e w' ⟨rfl, rfl⟩; rw [unhide HQ])
    go_loop [4, 5] (fun p i => ∃ k : Int, 32 ≤ k ∧ k ≤ 32 ∧ i = .int .i64 k ∧ p = .int .i64 ((2 : Int) ^ (k - 32).toNat)) (fun _ i => (32 - intOf i).toNat)
    case atStart => exact ⟨32, by omega, by omega, rfl, rfl⟩
    case round =>
      obtain ⟨k, hk1, hk2, rfl, rfl⟩ := hrel
      have hb := pow_bd (s := 32) (k := k) (by omega) hk2
      have HS := hide (pow_sz (s := 32) hk1 hk2)
      obtain ⟨P, hP⟩ : ∃ P, (2 : Int) ^ (k - 32).toNat = P := ⟨_, rfl⟩
      rw [hP] at hb HS ⊢
      obtain ⟨hb1, hb2⟩ := hb
      have HP := hide hP
      clear hP
      · have hPz : (P == 0) = false := beq_eq_false_iff_ne.2 (by omega)
        have p1 := pickP_bd (c := n.tdiv 8) (n := 3) (by omega)
        have p2 := pickP_bd (c := n.tdiv 24) (n := 2) (by omega)
        have p3 := pickP_bd (c := n.tdiv 48) (n := 2) (by omega)
        have HE : Hid (P = powP 32) := by unfold Hid powP; rw [← unhide HP, show k = 32 by omega]
        go_wp2_with (go_at_call 22; refine (pick_any _ _ _ (by omega) (by omega) (by omega) (by omega)).mono ?_; rintro e w' ⟨rfl, rfl⟩)
        rw [show 167772160 + pickP (n.tdiv 8) 3 * 65536 + pickP (n.tdiv 24) 2 * 256 + pickP (n.tdiv 48) 2 = rawA n from rfl]
        have hr := rawA_bd n
        have hd := div_mul_bd hb1 (a := rawA n) (by omega)
        rw [w64 (n := rawA n / P * P) (by omega)]
        refine bodyPost_ret (v := .agg #[.int .i64 (rawA n / P * P), .int .i64 32]) (by simp [results, Tryz.results21, go_sem]) rfl ⟨?_, by exact ((Below.refl _ _).alloc (Nat.le_refl _) _).alloc (by simp) _⟩
        rw [unhide HN, unhide HE]
        rfl
  · clear hp
    go_enter Tryz.func21, Tryz.ntmps21
    go_wp2_with (go_at_call 22; refine (pick_any _ _ _ (by omega) (by omega) (by omega) (by omega)).mono ?_; rintro e w' ⟨rfl, rfl⟩; rw [unhide HQ])
    go_loop [4, 5] (fun p i => ∃ k : Int, 0 ≤ k ∧ k ≤ 32 ∧ i = .int .i64 k ∧ p = .int .i64 ((2 : Int) ^ (k - 0).toNat)) (fun _ i => (32 - intOf i).toNat)
    case atStart => exact ⟨0, by omega, by omega, rfl, rfl⟩
    case round =>
      obtain ⟨k, hk1, hk2, rfl, rfl⟩ := hrel
      have hb := pow_bd (s := 0) (k := k) (by omega) hk2
      have HS := hide (pow_sz (s := 0) hk1 hk2)
      obtain ⟨P, hP⟩ : ∃ P, (2 : Int) ^ (k - 0).toNat = P := ⟨_, rfl⟩
      rw [hP] at hb HS ⊢
      obtain ⟨hb1, hb2⟩ := hb
      have HP := hide hP
      clear hP
      by_cases hlt : k < 32
      · go_wp2
        go_round
        case rel => exact ⟨k + 1, by omega, by omega, rfl, by rw [unhide HS]⟩
        case measure => simp [intOf]; omega
      · have hPz : (P == 0) = false := beq_eq_false_iff_ne.2 (by omega)
        have p1 := pickP_bd (c := n.tdiv 8) (n := 3) (by omega)
        have p2 := pickP_bd (c := n.tdiv 24) (n := 2) (by omega)
        have p3 := pickP_bd (c := n.tdiv 48) (n := 2) (by omega)
        have HE : Hid (P = powP 0) := by unfold Hid powP; rw [← unhide HP, show k = 32 by omega]
        go_wp2_with (go_at_call 22; refine (pick_any _ _ _ (by omega) (by omega) (by omega) (by omega)).mono ?_; rintro e w' ⟨rfl, rfl⟩)
        rw [show 167772160 + pickP (n.tdiv 8) 3 * 65536 + pickP (n.tdiv 24) 2 * 256 + pickP (n.tdiv 48) 2 = rawA n from rfl]
        have hr := rawA_bd n
        have hd := div_mul_bd hb1 (a := rawA n) (by omega)
        rw [w64 (n := rawA n / P * P) (by omega)]
        refine bodyPost_ret (v := .agg #[.int .i64 (rawA n / P * P), .int .i64 0]) (by simp [results, Tryz.results21, go_sem]) rfl ⟨?_, by exact ((Below.refl _ _).alloc (Nat.le_refl _) _).alloc (by simp) _⟩
        rw [unhide HN, unhide HE]
        rfl
  · clear hp
    go_enter Tryz.func21, Tryz.ntmps21
    go_wp2_with (go_at_call 22; refine (pick_any _ _ _ (by omega) (by omega) (by omega) (by omega)).mono ?_; rintro e w' ⟨rfl, rfl⟩; rw [unhide HQ])
    go_loop [4, 5] (fun p i => ∃ k : Int, 9 ≤ k ∧ k ≤ 32 ∧ i = .int .i64 k ∧ p = .int .i64 ((2 : Int) ^ (k - 9).toNat)) (fun _ i => (32 - intOf i).toNat)
    case atStart => exact ⟨9, by omega, by omega, rfl, rfl⟩
    case round =>
      obtain ⟨k, hk1, hk2, rfl, rfl⟩ := hrel
      have hb := pow_bd (s := 9) (k := k) (by omega) hk2
      have HS := hide (pow_sz (s := 9) hk1 hk2)
      obtain ⟨P, hP⟩ : ∃ P, (2 : Int) ^ (k - 9).toNat = P := ⟨_, rfl⟩
      rw [hP] at hb HS ⊢
      obtain ⟨hb1, hb2⟩ := hb
      have HP := hide hP
      clear hP
      by_cases hlt : k < 32
      · go_wp2
        go_round
        case rel => exact ⟨k + 1, by omega, by omega, rfl, by rw [unhide HS]⟩
        case measure => simp [intOf]; omega
      · have hPz : (P == 0) = false := beq_eq_false_iff_ne.2 (by omega)
        have p1 := pickP_bd (c := n.tdiv 8) (n := 3) (by omega)
        have p2 := pickP_bd (c := n.tdiv 24) (n := 2) (by omega)
        have p3 := pickP_bd (c := n.tdiv 48) (n := 2) (by omega)
        have HE : Hid (P = powP 9) := by unfold Hid powP; rw [← unhide HP, show k = 32 by omega]
        go_wp2_with (go_at_call 22; refine (pick_any _ _ _ (by omega) (by omega) (by omega) (by omega)).mono ?_; rintro e w' ⟨rfl, rfl⟩)
        rw [show 167772160 + pickP (n.tdiv 8) 3 * 65536 + pickP (n.tdiv 24) 2 * 256 + pickP (n.tdiv 48) 2 = rawA n from rfl]
        have hr := rawA_bd n
        have hd := div_mul_bd hb1 (a := rawA n) (by omega)
        rw [w64 (n := rawA n / P * P) (by omega)]
        refine bodyPost_ret (v := .agg #[.int .i64 (rawA n / P * P), .int .i64 9]) (by simp [results, Tryz.results21, go_sem]) rfl ⟨?_, by exact ((Below.refl _ _).alloc (Nat.le_refl _) _).alloc (by simp) _⟩
        rw [unhide HN, unhide HE]
        rfl
  · clear hp
    go_enter Tryz.func21, Tryz.ntmps21
    go_wp2_with (go_at_call 22; refine (pick_any _ _ _ (by omega) (by omega) (by omega) (by omega)).mono ?_; rintro e w' ⟨rfl, rfl⟩; rw [unhide HQ])
    go_loop [4, 5] (fun p i => ∃ k : Int, 17 ≤ k ∧ k ≤ 32 ∧ i = .int .i64 k ∧ p = .int .i64 ((2 : Int) ^ (k - 17).toNat)) (fun _ i => (32 - intOf i).toNat)
    case atStart => exact ⟨17, by omega, by omega, rfl, rfl⟩
    case round =>
      obtain ⟨k, hk1, hk2, rfl, rfl⟩ := hrel
      have hb := pow_bd (s := 17) (k := k) (by omega) hk2
      have HS := hide (pow_sz (s := 17) hk1 hk2)
      obtain ⟨P, hP⟩ : ∃ P, (2 : Int) ^ (k - 17).toNat = P := ⟨_, rfl⟩
      rw [hP] at hb HS ⊢
      obtain ⟨hb1, hb2⟩ := hb
      have HP := hide hP
      clear hP
      by_cases hlt : k < 32
      · go_wp2
        go_round
        case rel => exact ⟨k + 1, by omega, by omega, rfl, by rw [unhide HS]⟩
        case measure => simp [intOf]; omega
      · have hPz : (P == 0) = false := beq_eq_false_iff_ne.2 (by omega)
        have p1 := pickP_bd (c := n.tdiv 8) (n := 3) (by omega)
        have p2 := pickP_bd (c := n.tdiv 24) (n := 2) (by omega)
        have p3 := pickP_bd (c := n.tdiv 48) (n := 2) (by omega)
        have HE : Hid (P = powP 17) := by unfold Hid powP; rw [← unhide HP, show k = 32 by omega]
        go_wp2_with (go_at_call 22; refine (pick_any _ _ _ (by omega) (by omega) (by omega) (by omega)).mono ?_; rintro e w' ⟨rfl, rfl⟩)
        rw [show 167772160 + pickP (n.tdiv 8) 3 * 65536 + pickP (n.tdiv 24) 2 * 256 + pickP (n.tdiv 48) 2 = rawA n from rfl]
        have hr := rawA_bd n
        have hd := div_mul_bd hb1 (a := rawA n) (by omega)
        rw [w64 (n := rawA n / P * P) (by omega)]
        refine bodyPost_ret (v := .agg #[.int .i64 (rawA n / P * P), .int .i64 17]) (by simp [results, Tryz.results21, go_sem]) rfl ⟨?_, by exact ((Below.refl _ _).alloc (Nat.le_refl _) _).alloc (by simp) _⟩
        rw [unhide HN, unhide HE]
        rfl
  · clear hp
    go_enter Tryz.func21, Tryz.ntmps21
    go_wp2_with (go_at_call 22; refine (pick_any _ _ _ (by omega) (by omega) (by omega) (by omega)).mono ?_; rintro e w' ⟨rfl, rfl⟩; rw [unhide HQ])
    go_loop [4, 5] (fun p i => ∃ k : Int, 25 ≤ k ∧ k ≤ 32 ∧ i = .int .i64 k ∧ p = .int .i64 ((2 : Int) ^ (k - 25).toNat)) (fun _ i => (32 - intOf i).toNat)
    case atStart => exact ⟨25, by omega, by omega, rfl, rfl⟩
    case round =>
      obtain ⟨k, hk1, hk2, rfl, rfl⟩ := hrel
      have hb := pow_bd (s := 25) (k := k) (by omega) hk2
      have HS := hide (pow_sz (s := 25) hk1 hk2)
      obtain ⟨P, hP⟩ : ∃ P, (2 : Int) ^ (k - 25).toNat = P := ⟨_, rfl⟩
      rw [hP] at hb HS ⊢
      obtain ⟨hb1, hb2⟩ := hb
      have HP := hide hP
      clear hP
      by_cases hlt : k < 32
      · go_wp2
        go_round
        case rel => exact ⟨k + 1, by omega, by omega, rfl, by rw [unhide HS]⟩
        case measure => simp [intOf]; omega
      · have hPz : (P == 0) = false := beq_eq_false_iff_ne.2 (by omega)
        have p1 := pickP_bd (c := n.tdiv 8) (n := 3) (by omega)
        have p2 := pickP_bd (c := n.tdiv 24) (n := 2) (by omega)
        have p3 := pickP_bd (c := n.tdiv 48) (n := 2) (by omega)
        have HE : Hid (P = powP 25) := by unfold Hid powP; rw [← unhide HP, show k = 32 by omega]
        go_wp2_with (go_at_call 22; refine (pick_any _ _ _ (by omega) (by omega) (by omega) (by omega)).mono ?_; rintro e w' ⟨rfl, rfl⟩)
        rw [show 167772160 + pickP (n.tdiv 8) 3 * 65536 + pickP (n.tdiv 24) 2 * 256 + pickP (n.tdiv 48) 2 = rawA n from rfl]
        have hr := rawA_bd n
        have hd := div_mul_bd hb1 (a := rawA n) (by omega)
        rw [w64 (n := rawA n / P * P) (by omega)]
        refine bodyPost_ret (v := .agg #[.int .i64 (rawA n / P * P), .int .i64 25]) (by simp [results, Tryz.results21, go_sem]) rfl ⟨?_, by exact ((Below.refl _ _).alloc (Nat.le_refl _) _).alloc (by simp) _⟩
        rw [unhide HN, unhide HE]
        rfl

end Go.Proofs.YtlhhdklendeikaaGreatDoor

namespace Go.Proofs.YtlhhdklendeikaaGreatDoor
open Go.RowKit
theorem pathP_snoc {l : List Int} {k : Nat} (h : k < l.length) : pathP l (k + 1) = pathP l k ++ [1 + pickP l[k] 3] := by
  unfold pathP
  rw [List.take_succ_eq_append_getElem h, List.map_append]; rfl
theorem pathP_len {l : List Int} {k : Nat} (h : k ≤ l.length) : (pathP l k).length = k := by unfold pathP; simp; omega
theorem pathP_min (l : List Int) (m : Nat) : pathP l m = pathP l (min l.length m) := by
  unfold pathP
  rcases Nat.le_total l.length m with h | h
  · rw [Nat.min_eq_left h, List.take_of_length_le h, List.take_of_length_le (Nat.le_refl _)]
  · rw [Nat.min_eq_right h]
set_option maxRecDepth 100000 in
set_option maxHeartbeats 800000 in
theorem path_any (l : List Int) (x : Value) (m : Int) (w : World) (hm0 : 0 ≤ m) (hm1 : m ≤ 12) (h : IntsAt w x l) :
    Calls Tryz.prog 19 #[x, .int .i64 m] w fun e w' => ∃ v, e = .returned v ∧ w'.ownsRow w.heap.size 3 1 v (pathP l m.toNat).length ((pathP l m.toNat).map (Value.int .i64)) ∧ Below w.heap.size w w' := by
  obtain ⟨p, c, rfl, hcap, hl, hin, hr⟩ := h
  obtain ⟨mm, rfl⟩ := Int.eq_ofNat_of_zero_le hm0
  rw [Int.toNat_natCast]
  obtain ⟨i0, hi0, hz0, hz1, hz2⟩ := info_parts Tryz.infoInt
  have HR := hide hr
  have HIN := hide hin
  clear hr hin hm0
  go_enter Tryz.func19, Tryz.ntmps19
  go_wp2
  go_loopw [5, 6] (fun v5 i wr => ∃ k : Nat, k ≤ l.length ∧ k ≤ mm ∧ i = .int .i64 k ∧ wr.ownsRow w.heap.size 3 1 v5 k ((pathP l k).map (Value.int .i64)) ∧ Below w.heap.size w wr) (fun _ i _ => l.length - (intOf i).toNat)
  case atStart => exact ⟨0, Nat.zero_le _, Nat.zero_le _, rfl, World.ownsRow_nil _ _ _ _, Below.refl _ _⟩
  case round =>
    obtain ⟨k, hk, hkm, rfl, how, hbl⟩ := hrel
    have HOW := hide how
    have HB := hide hbl
    have hsz : w.heap.size ≤ wr.heap.size := hbl.size
    clear how hbl
    by_cases hlt : k < l.length
    · by_cases hlm : k < mm
      · rcases unhide HR with h | ⟨b, o, rfl, hb, hc⟩
        · rw [h.1] at hlt; simp at hlt
        have hck : wr.cell? ⟨b, o + k, none⟩ = some (.int .i64 l[k]) := ((unhide HB).cell (p := ⟨b, o + k, none⟩) hb).trans (hc k hlt)
        have hI := unhide HIN l[k] (List.getElem_mem _)
        unfold inI at hI
        clear hc
        have hp := pickP_bd (c := l[k]) (n := 3) (by omega)
        go_wp2_with (first | (go_at_call 22; refine (pick_any _ _ _ (by omega) (by omega) (by omega) (by omega)).mono ?_; rintro e w' ⟨rfl, rfl⟩) | (at_builtin; refine wpList_append_lies _ rfl _ _ _ rfl w.heap.size 3 i0 _ 1 8 Tryz.underlying22 hi0 hz0 hz1 hz2 rfl (by omega) u5 k ((pathP l k).map (Value.int .i64)) rfl ((unhide HOW).alloc _) ⟨w'.heap.size, 0, none⟩ 1 1 [.int .i64 (1 + pickP l[k] 3)] rfl rfl (World.news_of_block (cs := #[.int .i64 (1 + pickP l[k] 3)]) (t := 3) (fr := (0, 0)) (heap_alloc_new _ _)) (by simp [Value.oneCell']) (by omega) (by simp [maxLen]; omega) (by omega) (by simp; omega) (w'.heap.size + 1) (by simp) ?_; intro gg cap wn hown hgrow hat hltg))
        go_roundw
        case rel =>
          refine ⟨k + 1, by omega, by omega, by go_num, ?_, ((unhide HB).alloc hsz _).grown hgrow (by simp; omega) (fun j hj => ((unhide HOW).lt j hj).1)⟩
          rw [pathP_snoc hlt, List.map_append]; exact hown
        case measure => simp [intOf]; omega
      · go_wp2
        go_ret
        refine ⟨_, rfl, ?_, unhide HB⟩
        rw [show mm = k by omega, pathP_len hk]; exact unhide HOW
    · by_cases hlm : k < mm
      all_goals
        go_wp2
        go_ret
        refine ⟨_, rfl, ?_, unhide HB⟩
        rw [pathP_min l mm, show min l.length mm = k by omega, pathP_len hk]; exact unhide HOW

theorem marksP_snoc {l : List Int} {k : Nat} (h : k < l.length) : marksP l (k + 1) = marksP l k ++ [(marksP l k).getLastD (-1) + 1 + pickP l[k] 3] := by
  unfold marksP
  rw [List.take_succ_eq_append_getElem h, marksF_snoc]
theorem marksP_len {l : List Int} {k : Nat} (h : k ≤ l.length) : (marksP l k).length = k := by unfold marksP; rw [marksF_len]; simp; omega
theorem marksP_min (l : List Int) (m : Nat) : marksP l m = marksP l (min l.length m) := by
  unfold marksP
  rcases Nat.le_total l.length m with h | h
  · rw [Nat.min_eq_left h, List.take_of_length_le h, List.take_of_length_le (Nat.le_refl _)]
  · rw [Nat.min_eq_right h]
theorem marksP_last (l : List Int) {k : Nat} (h : k ≤ l.length) : -1 ≤ (marksP l k).getLastD (-1) ∧ (marksP l k).getLastD (-1) ≤ 3 * k := by
  induction k with
  | zero => simp [marksP, marksF]
  | succ k ih =>
    obtain ⟨a, b⟩ := ih (by omega)
    have hp := pickP_bd (c := l[k]) (n := 3) (by omega)
    rw [marksP_snoc (by omega)]
    simp only [List.getLastD_concat]
    omega

set_option maxRecDepth 100000 in
set_option maxHeartbeats 800000 in
theorem marks_any (l : List Int) (x : Value) (m : Int) (w : World) (hm0 : 0 ≤ m) (hm1 : m ≤ 8) (h : IntsAt w x l) :
    Calls Tryz.prog 30 #[x, .int .i64 m] w fun e w' => ∃ v, e = .returned v ∧ w'.ownsRow w.heap.size 3 1 v (marksP l m.toNat).length ((marksP l m.toNat).map (Value.int .i64)) ∧ Below w.heap.size w w' := by
  obtain ⟨p, c, rfl, hcap, hl, hin, hr⟩ := h
  obtain ⟨mm, rfl⟩ := Int.eq_ofNat_of_zero_le hm0
  rw [Int.toNat_natCast]
  obtain ⟨i0, hi0, hz0, hz1, hz2⟩ := info_parts Tryz.infoInt
  have HR := hide hr
  have HIN := hide hin
  clear hr hin hm0
  go_enter Tryz.func30, Tryz.ntmps30
  go_wp2
  go_loopw [5, 6, 7] (fun v5 t i wr => ∃ k : Nat, k ≤ l.length ∧ k ≤ mm ∧ i = .int .i64 k ∧ t = .int .i64 ((marksP l k).getLastD (-1)) ∧ wr.ownsRow w.heap.size 3 1 v5 k ((marksP l k).map (Value.int .i64)) ∧ Below w.heap.size w wr) (fun _ _ i _ => l.length - (intOf i).toNat)
  case atStart => exact ⟨0, Nat.zero_le _, Nat.zero_le _, rfl, rfl, World.ownsRow_nil _ _ _ _, Below.refl _ _⟩
  case round =>
    obtain ⟨k, hk, hkm, rfl, rfl, how, hbl⟩ := hrel
    have HOW := hide how
    have HB := hide hbl
    have hsz : w.heap.size ≤ wr.heap.size := hbl.size
    have hla := marksP_last l hk
    clear how hbl
    by_cases hlt : k < l.length
    · by_cases hlm : k < mm
      · rcases unhide HR with h | ⟨b, o, rfl, hb, hc⟩
        · rw [h.1] at hlt; simp at hlt
        have hck : wr.cell? ⟨b, o + k, none⟩ = some (.int .i64 l[k]) := ((unhide HB).cell (p := ⟨b, o + k, none⟩) hb).trans (hc k hlt)
        have hI := unhide HIN l[k] (List.getElem_mem _)
        unfold inI at hI
        clear hc
        have hp := pickP_bd (c := l[k]) (n := 3) (by omega)
        have HSN := hide (marksP_snoc hlt)
        obtain ⟨L, hL⟩ : ∃ L, (marksP l k).getLastD (-1) = L := ⟨_, rfl⟩
        rw [hL] at hla HSN ⊢
        have HL := hide hL
        clear hL
        go_wp2_with (first | (go_at_call 22; refine (pick_any _ _ _ (by omega) (by omega) (by omega) (by omega)).mono ?_; rintro e w' ⟨rfl, rfl⟩) | (at_builtin; refine wpList_append_lies _ rfl _ _ _ rfl w.heap.size 3 i0 _ 1 8 Tryz.underlying22 hi0 hz0 hz1 hz2 rfl (by omega) u5 k ((marksP l k).map (Value.int .i64)) rfl ((unhide HOW).alloc _) ⟨w'.heap.size, 0, none⟩ 1 1 [.int .i64 (L + 1 + pickP l[k] 3)] rfl rfl (World.news_of_block (cs := #[.int .i64 (L + 1 + pickP l[k] 3)]) (t := 3) (fr := (0, 0)) (heap_alloc_new _ _)) (by simp [Value.oneCell']) (by omega) (by simp [maxLen]; omega) (by omega) (by simp; omega) (w'.heap.size + 1) (by simp) ?_; intro gg cap wn hown hgrow hat hltg))
        go_roundw
        case rel =>
          refine ⟨k + 1, by omega, by omega, by go_num, ?_, ?_, ((unhide HB).alloc hsz _).grown hgrow (by simp; omega) (fun j hj => ((unhide HOW).lt j hj).1)⟩
          · rw [unhide HSN]; simp only [List.getLastD_concat]
          · rw [unhide HSN, List.map_append]; exact hown
        case measure => simp [intOf]; omega
      · go_wp2
        go_ret
        refine ⟨_, rfl, ?_, unhide HB⟩
        rw [show mm = k by omega, marksP_len hk]; exact unhide HOW
    · by_cases hlm : k < mm
      all_goals
        go_wp2
        go_ret
        refine ⟨_, rfl, ?_, unhide HB⟩
        rw [marksP_min l mm, show min l.length mm = k by omega, marksP_len hk]; exact unhide HOW

end Go.Proofs.YtlhhdklendeikaaGreatDoor

namespace Go.Proofs.YtlhhdklendeikaaGreatDoor
open Go.RowKit

theorem atP_in {l : List Int} (h : ∀ x ∈ l, inI x) (i : Nat) : -9223372036854775808 ≤ atP l i ∧ atP l i ≤ 9223372036854775807 := by
  unfold atP
  cases hq : l[i]? with
  | none => simp
  | some x => exact h x (List.mem_of_getElem? hq)
/-- what route gives -/
def RouteC (w : World) (l : List Int) (e : Ending) (w' : World) : Prop :=
  ∃ vp vm, e = .returned (.agg #[.int .i64 (netP (atP l 0)).1, .int .i64 (netP (atP l 0)).2, vp, vm, .int .i64 (pickP (atP l 3) 4), .int .i64 (pickP (atP l 4) 5)]) ∧
    w'.ownsRow w.heap.size 3 1 vp (pathP (l.drop 3) (pickP (atP l 1) 6).toNat).length ((pathP (l.drop 3) (pickP (atP l 1) 6).toNat).map (Value.int .i64)) ∧
    w'.ownsRow w.heap.size 3 1 vm (marksP (l.drop 6) (pickP (atP l 2) 5).toNat).length ((marksP (l.drop 6) (pickP (atP l 2) 5).toNat).map (Value.int .i64)) ∧
    Below w.heap.size w w'

set_option maxRecDepth 100000 in
set_option maxHeartbeats 800000 in
theorem route_any (l : List Int) (x : Value) (w : World) (h : IntsAt w x l) :
    Calls Tryz.prog 13 #[x] w (RouteC w l) := by
  have hx := h
  obtain ⟨p, c, rfl, hcap, hl, hin, hr⟩ := h
  clear hr
  have a0 := atP_in hin 0
  have a1 := atP_in hin 1
  have a2 := atP_in hin 2
  have a3 := atP_in hin 3
  have a4 := atP_in hin 4
  have HX := hide hx
  clear hin
  have hcases : (6 < l.length ∧ ∃ b o, p = some ⟨b, o, none⟩ ∧ 3 < c ∧ 6 < c ∧ Hid (IntsAt w (.slice (some ⟨b, o + 3, none⟩) (l.length - 3) (c - 3)) (l.drop 3)) ∧ Hid (IntsAt w (.slice (some ⟨b, o + 6, none⟩) (l.length - 6) (c - 6)) (l.drop 6))) ∨
      (3 < l.length ∧ ¬ 6 < l.length ∧ ∃ b o, p = some ⟨b, o, none⟩ ∧ 3 < c ∧ 3 < c ∧ Hid (IntsAt w (.slice (some ⟨b, o + 3, none⟩) (l.length - 3) (c - 3)) (l.drop 3)) ∧ Hid (IntsAt w (.slice none 0 0) (l.drop 6))) ∨
      (¬ 3 < l.length ∧ ¬ 6 < l.length ∧ Hid (IntsAt w (.slice none 0 0) (l.drop 3)) ∧ Hid (IntsAt w (.slice none 0 0) (l.drop 6))) := by
    by_cases h6 : 6 < l.length
    · left
      obtain ⟨b, o, rfl, hb, h3⟩ := hx.drop (n := 3) (by omega)
      obtain ⟨b', o', he, hb', h6x⟩ := hx.drop (n := 6) (by omega)
      cases he
      exact ⟨h6, b, o, rfl, by omega, by omega, h3, h6x⟩
    · right
      by_cases h3 : 3 < l.length
      · left
        obtain ⟨b, o, rfl, hb, h3x⟩ := hx.drop (n := 3) (by omega)
        exact ⟨h3, h6, b, o, rfl, by omega, by omega, h3x, IntsAt.nil w 6 (by omega)⟩
      · right
        exact ⟨h3, h6, IntsAt.nil w 3 (by omega), IntsAt.nil w 6 (by omega)⟩
  clear hx
  have p1 := pickP_bd (c := atP l 1) (n := 6) (by omega)
  have p2 := pickP_bd (c := atP l 2) (n := 5) (by omega)
  rcases hcases with ⟨h6, b, o, rfl, hc3, hc6, H3, H6⟩ | ⟨h3, h6, b, o, rfl, hc3, hc6, H3, H6⟩ | ⟨h3, h6, H3, H6⟩
  all_goals
    go_enter Tryz.func13, Tryz.ntmps13
    go_wp2_with fail
    refine (at_any l 0 _ _ (by omega) ((unhide HX).below ((Below.refl _ _).alloc (Nat.le_refl _) _))).mono ?_
    rintro e w0 ⟨rfl, rfl⟩
    go_wp2_with fail
    refine (net_any _ _ a0.1 a0.2).mono ?_
    rintro e w1 ⟨rfl, hb1⟩
    have B1 := hide hb1
    have b1 := hide (((Below.refl w.heap.size w).alloc (Nat.le_refl _) _).trans (hb1.mono (by simp)))
    clear hb1
    go_wp2_with fail
    refine (at_any l 1 _ _ (by omega) ((unhide HX).below (unhide b1))).mono ?_
    rintro e w0 ⟨rfl, rfl⟩
    go_wp2_with fail
    refine (pick_any _ _ _ a1.1 a1.2 (by omega) (by omega)).mono ?_
    rintro e w0 ⟨rfl, rfl⟩
    go_wp2_with fail
    refine (path_any _ _ _ _ p1.1 (by omega) ((unhide H3).below (unhide b1))).mono ?_
    rintro e w2 ⟨vp, rfl, hp, hb2⟩
    have B2 := hide ((unhide B1).trans (hb2.mono (unhide B1).size))
    have b2 := hide ((unhide b1).trans (hb2.mono (unhide b1).size))
    have HP := hide hp
    clear hb2 hp
    go_wp2_with fail
    refine (at_any l 2 _ _ (by omega) ((unhide HX).below (unhide b2))).mono ?_
    rintro e w0 ⟨rfl, rfl⟩
    go_wp2_with fail
    refine (pick_any _ _ _ a2.1 a2.2 (by omega) (by omega)).mono ?_
    rintro e w0 ⟨rfl, rfl⟩
    go_wp2_with fail
    refine (marks_any _ _ _ _ p2.1 (by omega) ((unhide H6).below (unhide b2))).mono ?_
    rintro e w3 ⟨vm, rfl, hm, hb3⟩
    have B3 := hide ((unhide B2).trans (hb3.mono (unhide B2).size))
    have b3 := hide ((unhide b2).trans (hb3.mono (unhide b2).size))
    have HP3 := hide (show w3.ownsRow _ 3 1 vp _ _ from owns_of (unhide HP) (fun k hk => hb3.block k ((unhide HP).lt k hk).2))
    have HM := hide hm
    clear hb3 hm
    go_wp2_with fail
    refine (at_any l 3 _ _ (by omega) ((unhide HX).below (unhide b3))).mono ?_
    rintro e w0 ⟨rfl, rfl⟩
    go_wp2_with fail
    refine (pick_any _ _ _ a3.1 a3.2 (by omega) (by omega)).mono ?_
    rintro e w0 ⟨rfl, rfl⟩
    go_wp2_with fail
    refine (at_any l 4 _ _ (by omega) ((unhide HX).below (unhide b3))).mono ?_
    rintro e w0 ⟨rfl, rfl⟩
    go_wp2_with fail
    refine (pick_any _ _ _ a4.1 a4.2 (by omega) (by omega)).mono ?_
    rintro e w0 ⟨rfl, rfl⟩
    have q0 : w0.heap[w.heap.size]? = some (.cells #[.int .i64 0, .int .i64 0, .slice none 0 0, .slice none 0 0, .int .i64 0, .int .i64 0] 32 (0, 0)) := ((unhide B3).block w.heap.size (by simp)).trans (heap_alloc_new w _)
    have hz : w.heap.size < w0.heap.size := heap_lt q0
    have r0 : w0.cell? ⟨w.heap.size, 0, none⟩ = some (.int .i64 0) := cell_of_heap q0
    have r1 : w0.cell? ⟨w.heap.size, 1, none⟩ = some (.int .i64 0) := cell_of_heap q0
    have r2 : w0.cell? ⟨w.heap.size, 2, none⟩ = some (.slice none 0 0) := cell_of_heap q0
    have r3 : w0.cell? ⟨w.heap.size, 3, none⟩ = some (.slice none 0 0) := cell_of_heap q0
    have r4 : w0.cell? ⟨w.heap.size, 4, none⟩ = some (.int .i64 0) := cell_of_heap q0
    have r5 : w0.cell? ⟨w.heap.size, 5, none⟩ = some (.int .i64 0) := cell_of_heap q0
    have zr : ∀ o, w0.frozen? ⟨w.heap.size, o, none⟩ = false := fun o => frozen_of_heap q0
    clear q0
    obtain ⟨q1, c1, rfl⟩ := own_slice (unhide HP)
    obtain ⟨q2, c2, rfl⟩ := own_slice (unhide HM)
    have HPE := hide (owns_base (unhide HP3) (size_alloc_le (unhide B1)))
    have HME := hide (owns_base (unhide HM) (size_alloc_le (unhide B2)))
    clear HP HP3 HM
    go_wp2
    refine bodyPost_ret (v := .agg #[.int .i64 (netP (atP l 0)).1, .int .i64 (netP (atP l 0)).2, .slice q1 (pathP (l.drop 3) (pickP (atP l 1) 6).toNat).length c1, .slice q2 (marksP (l.drop 6) (pickP (atP l 2) 5).toNat).length c2, .int .i64 (pickP (atP l 3) 4), .int .i64 (pickP (atP l 4) 5)]) (by simp [results, Tryz.results13, go_sem, r0, r1, r2, r3, r4, r5]) rfl ⟨_, _, rfl, ?_, ?_, ?_⟩
    · refine owns_of (owns_base (unhide HPE) (Nat.le_succ _)) (fun k hk => ?_)
      have hne : k ≠ w.heap.size := by have := ((unhide HPE).lt k hk).1; omega
      rw [heap_set_other hne, heap_set_other hne, heap_set_other hne, heap_set_other hne, heap_set_other hne, heap_set_other hne]
    · refine owns_of (owns_base (unhide HME) (Nat.le_succ _)) (fun k hk => ?_)
      have hne : k ≠ w.heap.size := by have := ((unhide HME).lt k hk).1; omega
      rw [heap_set_other hne, heap_set_other hne, heap_set_other hne, heap_set_other hne, heap_set_other hne, heap_set_other hne]
    · exact ((((((unhide b3).setCell (Nat.le_refl _) _).setCell (Nat.le_refl _) _).setCell (Nat.le_refl _) _).setCell (Nat.le_refl _) _).setCell (Nat.le_refl _) _).setCell (Nat.le_refl _) _

end Go.Proofs.YtlhhdklendeikaaGreatDoor
