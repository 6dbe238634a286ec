/- The statements' function net (package bywaykeep): what a call answers; old memory stays as it is. -/
import Derived.Test.YtlhhdklendeikaaGreatDoorKeepA
namespace Go.Proofs.YtlhhdklendeikaaGreatDoor
open Go.RowKit

set_option maxRecDepth 100000 in
set_option maxHeartbeats 1000000 in
theorem net_any (n : Int) (w : World) (h1 : -9223372036854775808 ≤ n) (h2 : n ≤ 9223372036854775807) :
    Calls Tryz.prog 21 #[.int .i64 n] w fun e w' => e = .returned (.agg #[.int .i64 (netP n).1, .int .i64 (netP n).2]) ∧ Below w.heap.size w w' := by
  have hp := pickP_bd (c := n) (n := 8) (by omega)
  have HN : Hid (netP n = (rawA n / powP (szP (pickP n 8)) * powP (szP (pickP n 8)), szP (pickP n 8))) := rfl
  obtain ⟨q, hq⟩ : ∃ q, pickP n 8 = q := ⟨_, rfl⟩
  rw [hq] at hp HN
  have HQ := hide hq
  clear hq
  have d8 := tdiv_in h1 h2 (k := 8) (by omega)
  have d24 := tdiv_in h1 h2 (k := 24) (by omega)
  have d48 := tdiv_in h1 h2 (k := 48) (by omega)
  rcases (by omega : q = 0 ∨ q = 1 ∨ q = 2 ∨ q = 3 ∨ q = 4 ∨ q = 5 ∨ q = 6 ∨ q = 7) with rfl | rfl | rfl | rfl | rfl | rfl | rfl | rfl
  · clear hp
    go_enter Tryz.func21, Tryz.ntmps21
    go_wp2_with (go_at_call 22; refine (pick_any _ _ _ (by omega) (by omega) (by omega) (by omega)).mono ?_; rintro e w' ⟨rfl, rfl⟩; rw [unhide HQ])
    go_loop [4, 5] (fun p i => ∃ k : Int, 8 ≤ k ∧ k ≤ 32 ∧ i = .int .i64 k ∧ p = .int .i64 ((2 : Int) ^ (k - 8).toNat)) (fun _ i => (32 - intOf i).toNat)
    case atStart => exact ⟨8, by omega, by omega, rfl, rfl⟩
    case round =>
      obtain ⟨k, hk1, hk2, rfl, rfl⟩ := hrel
      have hb := pow_bd (s := 8) (k := k) (by omega) hk2
      have HS := hide (pow_sz (s := 8) hk1 hk2)
      obtain ⟨P, hP⟩ : ∃ P, (2 : Int) ^ (k - 8).toNat = P := ⟨_, rfl⟩
      rw [hP] at hb HS ⊢
      obtain ⟨hb1, hb2⟩ := hb
      have HP := hide hP
      clear hP
      by_cases hlt : k < 32
      · go_wp2
        go_round
        case rel => exact ⟨k + 1, by omega, by omega, rfl, by rw [unhide HS]⟩
        case measure => simp [intOf]; omega
      · have hPz : (P == 0) = false := beq_eq_false_iff_ne.2 (by omega)
        have p1 := pickP_bd (c := n.tdiv 8) (n := 3) (by omega)
        have p2 := pickP_bd (c := n.tdiv 24) (n := 2) (by omega)
        have p3 := pickP_bd (c := n.tdiv 48) (n := 2) (by omega)
        have HE : Hid (P = powP 8) := by unfold Hid powP; rw [← unhide HP, show k = 32 by omega]
        go_wp2_with (go_at_call 22; refine (pick_any _ _ _ (by omega) (by omega) (by omega) (by omega)).mono ?_; rintro e w' ⟨rfl, rfl⟩)
        rw [show 167772160 + pickP (n.tdiv 8) 3 * 65536 + pickP (n.tdiv 24) 2 * 256 + pickP (n.tdiv 48) 2 = rawA n from rfl]
        have hr := rawA_bd n
        have hd := div_mul_bd hb1 (a := rawA n) (by omega)
        rw [w64 (n := rawA n / P * P) (by omega)]
        refine bodyPost_ret (v := .agg #[.int .i64 (rawA n / P * P), .int .i64 8]) (by simp [results, Tryz.results21, go_sem]) rfl ⟨?_, by exact ((Below.refl _ _).alloc (Nat.le_refl _) _).alloc (by simp) _⟩
        rw [unhide HN, unhide HE]
        rfl
  · clear hp
    go_enter Tryz.func21, Tryz.ntmps21
    go_wp2_with (go_at_call 22; refine (pick_any _ _ _ (by omega) (by omega) (by omega) (by omega)).mono ?_; rintro e w' ⟨rfl, rfl⟩; rw [unhide HQ])
    go_loop [4, 5] (fun p i => ∃ k : Int, 16 ≤ k ∧ k ≤ 32 ∧ i = .int .i64 k ∧ p = .int .i64 ((2 : Int) ^ (k - 16).toNat)) (fun _ i => (32 - intOf i).toNat)
    case atStart => exact ⟨16, by omega, by omega, rfl, rfl⟩
    case round =>
      obtain ⟨k, hk1, hk2, rfl, rfl⟩ := hrel
      have hb := pow_bd (s := 16) (k := k) (by omega) hk2
      have HS := hide (pow_sz (s := 16) hk1 hk2)
      obtain ⟨P, hP⟩ : ∃ P, (2 : Int) ^ (k - 16).toNat = P := ⟨_, rfl⟩
      rw [hP] at hb HS ⊢
      obtain ⟨hb1, hb2⟩ := hb
      have HP := hide hP
      clear hP
      by_cases hlt : k < 32
      · go_wp2
        go_round
        case rel => exact ⟨k + 1, by omega, by omega, rfl, by rw [unhide HS]⟩
        case measure => simp [intOf]; omega
      · have hPz : (P == 0) = false := beq_eq_false_iff_ne.2 (by omega)
        have p1 := pickP_bd (c := n.tdiv 8) (n := 3) (by omega)
        have p2 := pickP_bd (c := n.tdiv 24) (n := 2) (by omega)
        have p3 := pickP_bd (c := n.tdiv 48) (n := 2) (by omega)
        have HE : Hid (P = powP 16) := by unfold Hid powP; rw [← unhide HP, show k = 32 by omega]
        go_wp2_with (go_at_call 22; refine (pick_any _ _ _ (by omega) (by omega) (by omega) (by omega)).mono ?_; rintro e w' ⟨rfl, rfl⟩)
        rw [show 167772160 + pickP (n.tdiv 8) 3 * 65536 + pickP (n.tdiv 24) 2 * 256 + pickP (n.tdiv 48) 2 = rawA n from rfl]
        have hr := rawA_bd n
        have hd := div_mul_bd hb1 (a := rawA n) (by omega)
        rw [w64 (n := rawA n / P * P) (by omega)]
        refine bodyPost_ret (v := .agg #[.int .i64 (rawA n / P * P), .int .i64 16]) (by simp [results, Tryz.results21, go_sem]) rfl ⟨?_, by exact ((Below.refl _ _).alloc (Nat.le_refl _) _).alloc (by simp) _⟩
        rw [unhide HN, unhide HE]
        rfl
  · clear hp
    go_enter Tryz.func21, Tryz.ntmps21
    go_wp2_with (go_at_call 22; refine (pick_any _ _ _ (by omega) (by omega) (by omega) (by omega)).mono ?_; rintro e w' ⟨rfl, rfl⟩; rw [unhide HQ])
    go_loop [4, 5] (fun p i => ∃ k : Int, 24 ≤ k ∧ k ≤ 32 ∧ i = .int .i64 k ∧ p = .int .i64 ((2 : Int) ^ (k - 24).toNat)) (fun _ i => (32 - intOf i).toNat)
    case atStart => exact ⟨24, by omega, by omega, rfl, rfl⟩
    case round =>
      obtain ⟨k, hk1, hk2, rfl, rfl⟩ := hrel
      have hb := pow_bd (s := 24) (k := k) (by omega) hk2
      have HS := hide (pow_sz (s := 24) hk1 hk2)
      obtain ⟨P, hP⟩ : ∃ P, (2 : Int) ^ (k - 24).toNat = P := ⟨_, rfl⟩
      rw [hP] at hb HS ⊢
      obtain ⟨hb1, hb2⟩ := hb
      have HP := hide hP
      clear hP
      by_cases hlt : k < 32
      · go_wp2
        go_round
        case rel => exact ⟨k + 1, by omega, by omega, rfl, by rw [unhide HS]⟩
        case measure => simp [intOf]; omega
      · have hPz : (P == 0) = false := beq_eq_false_iff_ne.2 (by omega)
        have p1 := pickP_bd (c := n.tdiv 8) (n := 3) (by omega)
        have p2 := pickP_bd (c := n.tdiv 24) (n := 2) (by omega)
        have p3 := pickP_bd (c := n.tdiv 48) (n := 2) (by omega)
        have HE : Hid (P = powP 24) := by unfold Hid powP; rw [← unhide HP, show k = 32 by omega]
        go_wp2_with (go_at_call 22; refine (pick_any _ _ _ (by omega) (by omega) (by omega) (by omega)).mono ?_; rintro e w' ⟨rfl, rfl⟩)
        rw [show 167772160 + pickP (n.tdiv 8) 3 * 65536 + pickP (n.tdiv 24) 2 * 256 + pickP (n.tdiv 48) 2 = rawA n from rfl]
        have hr := rawA_bd n
        have hd := div_mul_bd hb1 (a := rawA n) (by omega)
        rw [w64 (n := rawA n / P * P) (by omega)]
        refine bodyPost_ret (v := .agg #[.int .i64 (rawA n / P * P), .int .i64 24]) (by simp [results, Tryz.results21, go_sem]) rfl ⟨?_, by exact ((Below.refl _ _).alloc (Nat.le_refl _) _).alloc (by simp) _⟩
        rw [unhide HN, unhide HE]
        rfl
  · clear hp
    go_enter Tryz.func21, Tryz.ntmps21
    go_wp2_with (go_at_call 22; refine (pick_any _ _ _ (by omega) (by omega) (by omega) (by omega)).mono ?_; rintro e w' ⟨rfl, rfl⟩; rw [unhide HQ])
    go_loop [4, 5] (fun p i => ∃ k : Int, 32 ≤ k ∧ k ≤ 32 ∧ i = .int .i64 k ∧ p = .int .i64 ((2 : Int) ^ (k - 32).toNat)) (fun _ i => (32 - intOf i).toNat)
    case atStart => exact ⟨32, by omega, by omega, rfl, rfl⟩
    case round =>
      obtain ⟨k, hk1, hk2, rfl, rfl⟩ := hrel
      have hb := pow_bd (s := 32) (k := k) (by omega) hk2
      have HS := hide (pow_sz (s := 32) hk1 hk2)
      obtain ⟨P, hP⟩ : ∃ P, (2 : Int) ^ (k - 32).toNat = P := ⟨_, rfl⟩
      rw [hP] at hb HS ⊢
      obtain ⟨hb1, hb2⟩ := hb
      have HP := hide hP
      clear hP
      · have hPz : (P == 0) = false := beq_eq_false_iff_ne.2 (by omega)
        have p1 := pickP_bd (c := n.tdiv 8) (n := 3) (by omega)
        have p2 := pickP_bd (c := n.tdiv 24) (n := 2) (by omega)
        have p3 := pickP_bd (c := n.tdiv 48) (n := 2) (by omega)
        have HE : Hid (P = powP 32) := by unfold Hid powP; rw [← unhide HP, show k = 32 by omega]
        go_wp2_with (go_at_call 22; refine (pick_any _ _ _ (by omega) (by omega) (by omega) (by omega)).mono ?_; rintro e w' ⟨rfl, rfl⟩)
        rw [show 167772160 + pickP (n.tdiv 8) 3 * 65536 + pickP (n.tdiv 24) 2 * 256 + pickP (n.tdiv 48) 2 = rawA n from rfl]
        have hr := rawA_bd n
        have hd := div_mul_bd hb1 (a := rawA n) (by omega)
        rw [w64 (n := rawA n / P * P) (by omega)]
        refine bodyPost_ret (v := .agg #[.int .i64 (rawA n / P * P), .int .i64 32]) (by simp [results, Tryz.results21, go_sem]) rfl ⟨?_, by exact ((Below.refl _ _).alloc (Nat.le_refl _) _).alloc (by simp) _⟩
        rw [unhide HN, unhide HE]
        rfl
  · clear hp
    go_enter Tryz.func21, Tryz.ntmps21
    go_wp2_with (go_at_call 22; refine (pick_any _ _ _ (by omega) (by omega) (by omega) (by omega)).mono ?_; rintro e w' ⟨rfl, rfl⟩; rw [unhide HQ])
    go_loop [4, 5] (fun p i => ∃ k : Int, 0 ≤ k ∧ k ≤ 32 ∧ i = .int .i64 k ∧ p = .int .i64 ((2 : Int) ^ (k - 0).toNat)) (fun _ i => (32 - intOf i).toNat)
    case atStart => exact ⟨0, by omega, by omega, rfl, rfl⟩
    case round =>
      obtain ⟨k, hk1, hk2, rfl, rfl⟩ := hrel
      have hb := pow_bd (s := 0) (k := k) (by omega) hk2
      have HS := hide (pow_sz (s := 0) hk1 hk2)
      obtain ⟨P, hP⟩ : ∃ P, (2 : Int) ^ (k - 0).toNat = P := ⟨_, rfl⟩
      rw [hP] at hb HS ⊢
      obtain ⟨hb1, hb2⟩ := hb
      have HP := hide hP
      clear hP
      by_cases hlt : k < 32
      · go_wp2
        go_round
        case rel => exact ⟨k + 1, by omega, by omega, rfl, by rw [unhide HS]⟩
        case measure => simp [intOf]; omega
      · have hPz : (P == 0) = false := beq_eq_false_iff_ne.2 (by omega)
        have p1 := pickP_bd (c := n.tdiv 8) (n := 3) (by omega)
        have p2 := pickP_bd (c := n.tdiv 24) (n := 2) (by omega)
        have p3 := pickP_bd (c := n.tdiv 48) (n := 2) (by omega)
        have HE : Hid (P = powP 0) := by unfold Hid powP; rw [← unhide HP, show k = 32 by omega]
        go_wp2_with (go_at_call 22; refine (pick_any _ _ _ (by omega) (by omega) (by omega) (by omega)).mono ?_; rintro e w' ⟨rfl, rfl⟩)
        rw [show 167772160 + pickP (n.tdiv 8) 3 * 65536 + pickP (n.tdiv 24) 2 * 256 + pickP (n.tdiv 48) 2 = rawA n from rfl]
        have hr := rawA_bd n
        have hd := div_mul_bd hb1 (a := rawA n) (by omega)
        rw [w64 (n := rawA n / P * P) (by omega)]
        refine bodyPost_ret (v := .agg #[.int .i64 (rawA n / P * P), .int .i64 0]) (by simp [results, Tryz.results21, go_sem]) rfl ⟨?_, by exact ((Below.refl _ _).alloc (Nat.le_refl _) _).alloc (by simp) _⟩
        rw [unhide HN, unhide HE]
        rfl
  · clear hp
    go_enter Tryz.func21, Tryz.ntmps21
    go_wp2_with (go_at_call 22; refine (pick_any _ _ _ (by omega) (by omega) (by omega) (by omega)).mono ?_; rintro e w' ⟨rfl, rfl⟩; rw [unhide HQ])
    go_loop [4, 5] (fun p i => ∃ k : Int, 9 ≤ k ∧ k ≤ 32 ∧ i = .int .i64 k ∧ p = .int .i64 ((2 : Int) ^ (k - 9).toNat)) (fun _ i => (32 - intOf i).toNat)
    case atStart => exact ⟨9, by omega, by omega, rfl, rfl⟩
    case round =>
      obtain ⟨k, hk1, hk2, rfl, rfl⟩ := hrel
      have hb := pow_bd (s := 9) (k := k) (by omega) hk2
      have HS := hide (pow_sz (s := 9) hk1 hk2)
      obtain ⟨P, hP⟩ : ∃ P, (2 : Int) ^ (k - 9).toNat = P := ⟨_, rfl⟩
      rw [hP] at hb HS ⊢
      obtain ⟨hb1, hb2⟩ := hb
      have HP := hide hP
      clear hP
      by_cases hlt : k < 32
      · go_wp2
        go_round
        case rel => exact ⟨k + 1, by omega, by omega, rfl, by rw [unhide HS]⟩
        case measure => simp [intOf]; omega
      · have hPz : (P == 0) = false := beq_eq_false_iff_ne.2 (by omega)
        have p1 := pickP_bd (c := n.tdiv 8) (n := 3) (by omega)
        have p2 := pickP_bd (c := n.tdiv 24) (n := 2) (by omega)
        have p3 := pickP_bd (c := n.tdiv 48) (n := 2) (by omega)
        have HE : Hid (P = powP 9) := by unfold Hid powP; rw [← unhide HP, show k = 32 by omega]
        go_wp2_with (go_at_call 22; refine (pick_any _ _ _ (by omega) (by omega) (by omega) (by omega)).mono ?_; rintro e w' ⟨rfl, rfl⟩)
        rw [show 167772160 + pickP (n.tdiv 8) 3 * 65536 + pickP (n.tdiv 24) 2 * 256 + pickP (n.tdiv 48) 2 = rawA n from rfl]
        have hr := rawA_bd n
        have hd := div_mul_bd hb1 (a := rawA n) (by omega)
        rw [w64 (n := rawA n / P * P) (by omega)]
        refine bodyPost_ret (v := .agg #[.int .i64 (rawA n / P * P), .int .i64 9]) (by simp [results, Tryz.results21, go_sem]) rfl ⟨?_, by exact ((Below.refl _ _).alloc (Nat.le_refl _) _).alloc (by simp) _⟩
        rw [unhide HN, unhide HE]
        rfl
  · clear hp
    go_enter Tryz.func21, Tryz.ntmps21
    go_wp2_with (go_at_call 22; refine (pick_any _ _ _ (by omega) (by omega) (by omega) (by omega)).mono ?_; rintro e w' ⟨rfl, rfl⟩; rw [unhide HQ])
    go_loop [4, 5] (fun p i => ∃ k : Int, 17 ≤ k ∧ k ≤ 32 ∧ i = .int .i64 k ∧ p = .int .i64 ((2 : Int) ^ (k - 17).toNat)) (fun _ i => (32 - intOf i).toNat)
    case atStart => exact ⟨17, by omega, by omega, rfl, rfl⟩
    case round =>
      obtain ⟨k, hk1, hk2, rfl, rfl⟩ := hrel
      have hb := pow_bd (s := 17) (k := k) (by omega) hk2
      have HS := hide (pow_sz (s := 17) hk1 hk2)
      obtain ⟨P, hP⟩ : ∃ P, (2 : Int) ^ (k - 17).toNat = P := ⟨_, rfl⟩
      rw [hP] at hb HS ⊢
      obtain ⟨hb1, hb2⟩ := hb
      have HP := hide hP
      clear hP
      by_cases hlt : k < 32
      · go_wp2
        go_round
        case rel => exact ⟨k + 1, by omega, by omega, rfl, by rw [unhide HS]⟩
        case measure => simp [intOf]; omega
      · have hPz : (P == 0) = false := beq_eq_false_iff_ne.2 (by omega)
        have p1 := pickP_bd (c := n.tdiv 8) (n := 3) (by omega)
        have p2 := pickP_bd (c := n.tdiv 24) (n := 2) (by omega)
        have p3 := pickP_bd (c := n.tdiv 48) (n := 2) (by omega)
        have HE : Hid (P = powP 17) := by unfold Hid powP; rw [← unhide HP, show k = 32 by omega]
        go_wp2_with (go_at_call 22; refine (pick_any _ _ _ (by omega) (by omega) (by omega) (by omega)).mono ?_; rintro e w' ⟨rfl, rfl⟩)
        rw [show 167772160 + pickP (n.tdiv 8) 3 * 65536 + pickP (n.tdiv 24) 2 * 256 + pickP (n.tdiv 48) 2 = rawA n from rfl]
        have hr := rawA_bd n
        have hd := div_mul_bd hb1 (a := rawA n) (by omega)
        rw [w64 (n := rawA n / P * P) (by omega)]
        refine bodyPost_ret (v := .agg #[.int .i64 (rawA n / P * P), .int .i64 17]) (by simp [results, Tryz.results21, go_sem]) rfl ⟨?_, by exact ((Below.refl _ _).alloc (Nat.le_refl _) _).alloc (by simp) _⟩
        rw [unhide HN, unhide HE]
        rfl
  · clear hp
    go_enter Tryz.func21, Tryz.ntmps21
    go_wp2_with (go_at_call 22; refine (pick_any _ _ _ (by omega) (by omega) (by omega) (by omega)).mono ?_; rintro e w' ⟨rfl, rfl⟩; rw [unhide HQ])
    go_loop [4, 5] (fun p i => ∃ k : Int, 25 ≤ k ∧ k ≤ 32 ∧ i = .int .i64 k ∧ p = .int .i64 ((2 : Int) ^ (k - 25).toNat)) (fun _ i => (32 - intOf i).toNat)
    case atStart => exact ⟨25, by omega, by omega, rfl, rfl⟩
    case round =>
      obtain ⟨k, hk1, hk2, rfl, rfl⟩ := hrel
      have hb := pow_bd (s := 25) (k := k) (by omega) hk2
      have HS := hide (pow_sz (s := 25) hk1 hk2)
      obtain ⟨P, hP⟩ : ∃ P, (2 : Int) ^ (k - 25).toNat = P := ⟨_, rfl⟩
      rw [hP] at hb HS ⊢
      obtain ⟨hb1, hb2⟩ := hb
      have HP := hide hP
      clear hP
      by_cases hlt : k < 32
      · go_wp2
        go_round
        case rel => exact ⟨k + 1, by omega, by omega, rfl, by rw [unhide HS]⟩
        case measure => simp [intOf]; omega
      · have hPz : (P == 0) = false := beq_eq_false_iff_ne.2 (by omega)
        have p1 := pickP_bd (c := n.tdiv 8) (n := 3) (by omega)
        have p2 := pickP_bd (c := n.tdiv 24) (n := 2) (by omega)
        have p3 := pickP_bd (c := n.tdiv 48) (n := 2) (by omega)
        have HE : Hid (P = powP 25) := by unfold Hid powP; rw [← unhide HP, show k = 32 by omega]
        go_wp2_with (go_at_call 22; refine (pick_any _ _ _ (by omega) (by omega) (by omega) (by omega)).mono ?_; rintro e w' ⟨rfl, rfl⟩)
        rw [show 167772160 + pickP (n.tdiv 8) 3 * 65536 + pickP (n.tdiv 24) 2 * 256 + pickP (n.tdiv 48) 2 = rawA n from rfl]
        have hr := rawA_bd n
        have hd := div_mul_bd hb1 (a := rawA n) (by omega)
        rw [w64 (n := rawA n / P * P) (by omega)]
        refine bodyPost_ret (v := .agg #[.int .i64 (rawA n / P * P), .int .i64 25]) (by simp [results, Tryz.results21, go_sem]) rfl ⟨?_, by exact ((Below.refl _ _).alloc (Nat.le_refl _) _).alloc (by simp) _⟩
        rw [unhide HN, unhide HE]
        rfl

end Go.Proofs.YtlhhdklendeikaaGreatDoor
