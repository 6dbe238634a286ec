/- The raw numbers of bywaykeep (package bywaykeep): pick; sameNet, sameInts. -/
import Derived.Test.YtlhhdklendeikaaGreatDoorBase
namespace Go.Proofs.YtlhhdklendeikaaGreatDoor
open Go.RowKit
set_option maxHeartbeats 400000 in
theorem pick_any (c n : Int) (w : World) (h1 : -9223372036854775808 ≤ c) (h2 : c ≤ 9223372036854775807) (h3 : 0 < n) (h4 : n ≤ 4294967296) :
    Calls Tryz.prog 22 #[.int .i64 c, .int .i64 n] w fun e w' => e = .returned (.int .i64 (pickP c n)) ∧ w' = w := by
  have hz : (n == 0) = false := beq_eq_false_iff_ne.2 (by omega)
  by_cases hc : c < 0
  · have HP := hide (show pickP c n = -((c + 1).tmod n) by unfold pickP; rw [if_pos hc, ← Int.neg_tmod, Int.tmod_eq_emod_of_nonneg (by omega)])
    go_enter Tryz.func22, Tryz.ntmps22
    go_wp2
    all_goals (go_ret; exact ⟨rt_int (unhide HP).symm, rfl⟩)
  · have HP := hide (show pickP c n = c % n by unfold pickP; rw [if_neg hc])
    go_enter Tryz.func22, Tryz.ntmps22
    go_wp2
    all_goals (go_ret; exact ⟨rt_int (unhide HP).symm, rfl⟩)

set_option maxHeartbeats 400000 in
theorem sameNet_any (a b : Int × Int) (w : World) :
    Calls Tryz.prog 33 #[.agg #[.int .i64 a.1, .int .i64 a.2], .agg #[.int .i64 b.1, .int .i64 b.2]] w fun e w' => e = .returned (.bool (decide (a = b))) ∧ Below w.heap.size w w' := by
  obtain ⟨a1, a2⟩ := a
  obtain ⟨b1, b2⟩ := b
  simp only
  by_cases h1 : a1 = b1
  · have HP := hide (show decide ((a1, a2) = (b1, b2)) = (a2 == b2) by rw [Bool.eq_iff_iff]; simp [h1])
    have h1b : (a1 == b1) = true := beq_iff_eq.2 h1
    have H1 := hide h1
    clear h1
    go_enter Tryz.func33, Tryz.ntmps33
    go_wp2
    go_ret
    exact ⟨rt_bool (unhide HP).symm, by exact ((Below.refl _ _).alloc (Nat.le_refl _) _).alloc (by simp) _⟩
  · have HP := hide (show decide ((a1, a2) = (b1, b2)) = false by simp [h1])
    have h1b : (a1 == b1) = false := beq_eq_false_iff_ne.2 h1
    have H1 := hide h1
    clear h1
    go_enter Tryz.func33, Tryz.ntmps33
    go_wp2
    go_ret
    exact ⟨rt_bool (unhide HP).symm, by exact ((Below.refl _ _).alloc (Nat.le_refl _) _).alloc (by simp) _⟩

set_option maxHeartbeats 400000 in
theorem sameInts_any (a b : List Int) (x y : Value) (w : World) (ha : IntsAt w x a) (hb : IntsAt w y b) :
    Calls Tryz.prog 34 #[x, y] w fun e w' => e = .returned (.bool (decide (a = b))) ∧ Below w.heap.size w w' := by
  obtain ⟨p, c, rfl, hcap, hl, hin, hr⟩ := ha
  obtain ⟨q, d, rfl, hcap', hl', hin', hr'⟩ := hb
  by_cases hlen : a.length = b.length
  · have hne : ((a.length : Int) != (b.length : Int)) = false := by simp [hlen]
    have HL := hide hlen
    have hle : a.length ≤ b.length := by omega
    have hge : b.length ≤ a.length := by omega
    clear hlen hin hin'
    have HR := hide hr
    have HR' := hide hr'
    clear hr hr'
    go_enter Tryz.func34, Tryz.ntmps34
    go_wp2
    go_loopw [5] (fun i wr => ∃ k : Nat, k ≤ a.length ∧ a.take k = b.take k ∧ i = .int .i64 k ∧ Below w.heap.size w wr) (fun i _ => a.length - (intOf i).toNat)
    case atStart => exact ⟨0, Nat.zero_le _, rfl, rfl, Below.refl _ _⟩
    case round =>
      obtain ⟨k, hk, ht, rfl, hbl⟩ := hrel
      have HT := hide ht
      have HB := hide hbl
      clear ht hbl
      by_cases hlt : k < a.length
      · have hlt' : k < b.length := by omega
        rcases unhide HR with h | ⟨ba, oa, rfl, hba, hca⟩
        · rw [h.1] at hlt; simp at hlt
        rcases unhide HR' with h | ⟨bb, ob, rfl, hbb, hcb⟩
        · rw [h.1] at hlt'; simp at hlt'
        have c1 := ((unhide HB).cell (p := ⟨ba, oa + k, none⟩) hba).trans (hca k hlt)
        have c2 := ((unhide HB).cell (p := ⟨bb, ob + k, none⟩) hbb).trans (hcb k hlt')
        clear hca hcb
        cases he : (a[k] != b[k]) with
        | true =>
          have HN := hide (show decide (a = b) = false from by
            have h1 : a[k] ≠ b[k] := by simpa using he
            simp only [decide_eq_false_iff_not]
            intro h; subst h; exact h1 rfl)
          go_wp2_with fail
          go_quiet ((fail))
          go_wp2
          go_ret
          exact ⟨rt_bool (unhide HN).symm, by exact below_drewN (unhide HB) _⟩
        | false =>
          have HT2 := hide (take_succ_eq (unhide HT) hlt hlt' (by simpa using he))
          go_wp2_with fail
          go_quiet ((fail))
          go_wp2
          go_roundw
          case rel => exact ⟨k + 1, by omega, unhide HT2, by go_num, below_drewN (unhide HB) _⟩
          case measure => simp [intOf]; omega
      · go_wp2
        go_ret
        have hh := take_all_eq (unhide HT) (by omega) (by omega)
        exact ⟨rt_bool (by simp [hh]), unhide HB⟩
  · have hne : ((a.length : Int) != (b.length : Int)) = true := by rw [bne_iff_ne]; omega
    have HN := hide (show decide (a = b) = false from by simp; intro h; exact hlen (by rw [h]))
    clear hlen hin hin' hr hr'
    go_enter Tryz.func34, Tryz.ntmps34
    go_wp2
    go_ret
    exact ⟨rt_bool (unhide HN).symm, Below.refl _ _⟩

end Go.Proofs.YtlhhdklendeikaaGreatDoor

namespace Go.Proofs.YtlhhdklendeikaaGreatDoor
open Go.RowKit
set_option maxHeartbeats 400000 in
theorem at_any (l : List Int) (i : Nat) (v : Value) (w : World) (_hi : i ≤ 1000) (h : IntsAt w v l) :
    Calls Tryz.prog 28 #[v, .int .i64 i] w fun e w' => e = .returned (.int .i64 (atP l i)) ∧ w' = w := by
  obtain ⟨p, c, rfl, hcap, hl, hin, hr⟩ := h
  by_cases hlt : i < l.length
  · have HP := hide (show atP l i = l[i] by unfold atP; rw [List.getElem?_eq_getElem hlt]; rfl)
    rcases hr with ⟨rfl, _⟩ | ⟨b, o, rfl, hb, hc⟩
    · simp at hlt
    · have hck := hc i hlt
      clear hc hin
      go_enter Tryz.func28, Tryz.ntmps28
      go_wp2
      all_goals (go_ret; exact ⟨rt_int (unhide HP).symm, rfl⟩)
  · have HP := hide (show atP l i = 0 by unfold atP; rw [List.getElem?_eq_none (by omega)]; rfl)
    clear hr hin
    go_enter Tryz.func28, Tryz.ntmps28
    go_wp2
    all_goals (go_ret; exact ⟨rt_int (unhide HP).symm, rfl⟩)

end Go.Proofs.YtlhhdklendeikaaGreatDoor

namespace Go.Proofs.YtlhhdklendeikaaGreatDoor
open Go.RowKit

set_option maxRecDepth 100000 in
set_option maxHeartbeats 1000000 in
theorem net_any (n : Int) (w : World) (h1 : -9223372036854775808 ≤ n) (h2 : n ≤ 9223372036854775807) :
    Calls Tryz.prog 21 #[.int .i64 n] w fun e w' => e = .returned (.agg #[.int .i64 (netP n).1, .int .i64 (netP n).2]) ∧ Below w.heap.size w w' := by
  have hp := pickP_bd (c := n) (n := 8) (by omega)
  have HN : Hid (netP n = (rawA n / powP (szP (pickP n 8)) * powP (szP (pickP n 8)), szP (pickP n 8))) := rfl
  obtain ⟨q, hq⟩ : ∃ q, pickP n 8 = q := ⟨_, rfl⟩
  rw [hq] at hp HN
  have HQ := hide hq
  clear hq
  have d8 := tdiv_in h1 h2 (k := 8) (by omega)
  have d24 := tdiv_in h1 h2 (k := 24) (by omega)
  have d48 := tdiv_in h1 h2 (k := 48) (by omega)
  rcases (by omega : q = 0 ∨ q = 1 ∨ q = 2 ∨ q = 3 ∨ q = 4 ∨ q = 5 ∨ q = 6 ∨ q = 7) with rfl | rfl | rfl | rfl | rfl | rfl | rfl | rfl
  · clear hp
    go_enter Tryz.func21, Tryz.ntmps21
    go_wp2_with (go_at_call 22; refine (pick_any _ _ _ (by omega) (by omega) (by omega) (by omega)).mono ?_; rintro e w' ⟨rfl, rfl⟩; rw [unhide HQ])
    go_loop [4, 5] (fun p i => ∃ k : Int, 8 ≤ k ∧ k ≤ 32 ∧ i = .int .i64 k ∧ p = .int .i64 ((2 : Int) ^ (k - 8).toNat)) (fun _ i => (32 - intOf i).toNat)
    case atStart => exact ⟨8, by omega, by omega, rfl, rfl⟩
    case round =>
      obtain ⟨k, hk1, hk2, rfl, rfl⟩ := hrel
      have hb := pow_bd (s := 8) (k := k) (by omega) hk2
      have HS := hide (pow_sz (s := 8) hk1 hk2)
      obtain ⟨P, hP⟩ : ∃ P, (2 : Int) ^ (k - 8).toNat = P := ⟨_, rfl⟩
      rw [hP] at hb HS ⊢
      obtain ⟨hb1, hb2⟩ := hb
      have HP := hide hP
      clear hP
      by_cases hlt : k < 32
      · go_wp2
        go_round
        case rel => exact ⟨k + 1, by omega, by omega, rfl, by rw [unhide HS]⟩
        case measure => simp [intOf]; omega
      · have hPz : (P == 0) = false := beq_eq_false_iff_ne.2 (by omega)
        have p1 := pickP_bd (c := n.tdiv 8) (n := 3) (by omega)
        have p2 := pickP_bd (c := n.tdiv 24) (n := 2) (by omega)
        have p3 := pickP_bd (c := n.tdiv 48) (n := 2) (by omega)
        have HE : Hid (P = powP 8) := by unfold Hid powP; rw [← unhide HP, show k = 32 by omega]
        go_wp2_with (go_at_call 22; refine (pick_any _ _ _ (by omega) (by omega) (by omega) (by omega)).mono ?_; rintro e w' ⟨rfl, rfl⟩)
        rw [show 167772160 + pickP (n.tdiv 8) 3 * 65536 + pickP (n.tdiv 24) 2 * 256 + pickP (n.tdiv 48) 2 = rawA n from rfl]
        have hr := rawA_bd n
        have hd := div_mul_bd hb1 (a := rawA n) (by omega)
        rw [w64 (n := rawA n / P * P) (by omega)]
        refine bodyPost_ret (v := .agg #[.int .i64 (rawA n / P * P), .int .i64 8]) (by simp [results, Tryz.results21, go_sem]) rfl ⟨?_, by exact ((Below.refl _ _).alloc (Nat.le_refl _) _).alloc (by simp) _⟩
        rw [unhide HN, unhide HE]
        rfl
  · clear hp
    go_enter Tryz.func21, Tryz.ntmps21
    go_wp2_with (go_at_call 22; refine (pick_any _ _ _ (by omega) (by omega) (by omega) (by omega)).mono ?_; rintro e w' ⟨rfl, rfl⟩; rw [unhide HQ])
    go_loop [4, 5] (fun p i => ∃ k : Int, 16 ≤ k ∧ k ≤ 32 ∧ i = .int .i64 k ∧ p = .int .i64 ((2 : Int) ^ (k - 16).toNat)) (fun _ i => (32 - intOf i).toNat)
    case atStart => exact ⟨16, by omega, by omega, rfl, rfl⟩
    case round =>
      obtain ⟨k, hk1, hk2, rfl, rfl⟩ := hrel
      have hb := pow_bd (s := 16) (k := k) (by omega) hk2
      have HS := hide (pow_sz (s := 16) hk1 hk2)
      obtain ⟨P, hP⟩ : ∃ P, (2 : Int) ^ (k - 16).toNat = P := ⟨_, rfl⟩
      rw [hP] at hb HS ⊢
      obtain ⟨hb1, hb2⟩ := hb
      have HP := hide hP
      clear hP
      by_cases hlt : k < 32
      · go_wp2
        go_round
        case rel => exact ⟨k + 1, by omega, by omega, rfl, by rw [unhide HS]⟩
        case measure => simp [intOf]; omega
      · have hPz : (P == 0) = false := beq_eq_false_iff_ne.2 (by omega)
        have p1 := pickP_bd (c := n.tdiv 8) (n := 3) (by omega)
        have p2 := pickP_bd (c := n.tdiv 24) (n := 2) (by omega)
        have p3 := pickP_bd (c := n.tdiv 48) (n := 2) (by omega)
        have HE : Hid (P = powP 16) := by unfold Hid powP; rw [← unhide HP, show k = 32 by omega]
        go_wp2_with (go_at_call 22; refine (pick_any _ _ _ (by omega) (by omega) (by omega) (by omega)).mono ?_; rintro e w' ⟨rfl, rfl⟩)
        rw [show 167772160 + pickP (n.tdiv 8) 3 * 65536 + pickP (n.tdiv 24) 2 * 256 + pickP (n.tdiv 48) 2 = rawA n from rfl]
        have hr := rawA_bd n
        have hd := div_mul_bd hb1 (a := rawA n) (by omega)
        rw [w64 (n := rawA n / P * P) (by omega)]
        refine bodyPost_ret (v := .agg #[.int .i64 (rawA n / P * P), .int .i64 16]) (by simp [results, Tryz.results21, go_sem]) rfl ⟨?_, by exact ((Below.refl _ _).alloc (Nat.le_refl _) _).alloc (by simp) _⟩
        rw [unhide HN, unhide HE]
        rfl
  · clear hp
    go_enter Tryz.func21, Tryz.ntmps21
    go_wp2_with (go_at_call 22; refine (pick_any _ _ _ (by omega) (by omega) (by omega) (by omega)).mono ?_; rintro e w' ⟨rfl, rfl⟩; rw [unhide HQ])
    go_loop [4, 5] (fun p i => ∃ k : Int, 24 ≤ k ∧ k ≤ 32 ∧ i = .int .i64 k ∧ p = .int .i64 ((2 : Int) ^ (k - 24).toNat)) (fun _ i => (32 - intOf i).toNat)
    case atStart => exact ⟨24, by omega, by omega, rfl, rfl⟩
    case round =>
      obtain ⟨k, hk1, hk2, rfl, rfl⟩ := hrel
      have hb := pow_bd (s := 24) (k := k) (by omega) hk2
      have HS := hide (pow_sz (s := 24) hk1 hk2)
      obtain ⟨P, hP⟩ : ∃ P, (2 : Int) ^ (k - 24).toNat = P := ⟨_, rfl⟩
      rw [hP] at hb HS ⊢
      obtain ⟨hb1, hb2⟩ := hb
      have HP := hide hP
      clear hP
      by_cases hlt : k < 32
      · go_wp2
        go_round
        case rel => exact ⟨k + 1, by omega, by omega, rfl, by rw [unhide HS]⟩
        case measure => simp [intOf]; omega
      · have hPz : (P == 0) = false := beq_eq_false_iff_ne.2 (by omega)
        have p1 := pickP_bd (c := n.tdiv 8) (n := 3) (by omega)
        have p2 := pickP_bd (c := n.tdiv 24) (n := 2) (by omega)
        have p3 := pickP_bd (c := n.tdiv 48) (n := 2) (by omega)
        have HE : Hid (P = powP 24) := by unfold Hid powP; rw [← unhide HP, show k = 32 by omega]
        go_wp2_with (go_at_call 22; refine (pick_any _ _ _ (by omega) (by omega) (by omega) (by omega)).mono ?_; rintro e w' ⟨rfl, rfl⟩)
        rw [show 167772160 + pickP (n.tdiv 8) 3 * 65536 + pickP (n.tdiv 24) 2 * 256 + pickP (n.tdiv 48) 2 = rawA n from rfl]
        have hr := rawA_bd n
        have hd := div_mul_bd hb1 (a := rawA n) (by omega)
        rw [w64 (n := rawA n / P * P) (by omega)]
        refine bodyPost_ret (v := .agg #[.int .i64 (rawA n / P * P), .int .i64 24]) (by simp [results, Tryz.results21, go_sem]) rfl ⟨?_, by exact ((Below.refl _ _).alloc (Nat.le_refl _) _).alloc (by simp) _⟩
        rw [unhide HN, unhide HE]
        rfl
  · clear hp
    go_enter Tryz.func21, Tryz.ntmps21
    go_wp2_with (go_at_call 22; refine (pick_any _ _ _ (by omega) (by omega) (by omega) (by omega)).mono ?_; rintro e w' ⟨rfl, rfl⟩; rw [unhide HQ])
    go_loop [4, 5] (fun p i => ∃ k : Int, 32 ≤ k ∧ k ≤ 32 ∧ i = .int .i64 k ∧ p = .int .i64 ((2 : Int) ^ (k - 32).toNat)) (fun _ i => (32 - intOf i).toNat)
    case atStart => exact ⟨32, by omega, by omega, rfl, rfl⟩
    case round =>
      obtain ⟨k, hk1, hk2, rfl, rfl⟩ := hrel
      have hb := pow_bd (s := 32) (k := k) (by omega) hk2
      have HS := hide (pow_sz (s := 32) hk1 hk2)
      obtain ⟨P, hP⟩ : ∃ P, (2 : Int) ^ (k - 32).toNat = P := ⟨_, rfl⟩
      rw [hP] at hb HS ⊢
      obtain ⟨hb1, hb2⟩ := hb
      have HP := hide hP
      clear hP
      · have hPz : (P == 0) = false := beq_eq_false_iff_ne.2 (by omega)
        have p1 := pickP_bd (c := n.tdiv 8) (n := 3) (by omega)
        have p2 := pickP_bd (c := n.tdiv 24) (n := 2) (by omega)
        have p3 := pickP_bd (c := n.tdiv 48) (n := 2) (by omega)
        have HE : Hid (P = powP 32) := by unfold Hid powP; rw [← unhide HP, show k = 32 by omega]
        go_wp2_with (go_at_call 22; refine (pick_any _ _ _ (by omega) (by omega) (by omega) (by omega)).mono ?_; rintro e w' ⟨rfl, rfl⟩)
        rw [show 167772160 + pickP (n.tdiv 8) 3 * 65536 + pickP (n.tdiv 24) 2 * 256 + pickP (n.tdiv 48) 2 = rawA n from rfl]
        have hr := rawA_bd n
        have hd := div_mul_bd hb1 (a := rawA n) (by omega)
        rw [w64 (n := rawA n / P * P) (by omega)]
        refine bodyPost_ret (v := .agg #[.int .i64 (rawA n / P * P), .int .i64 32]) (by simp [results, Tryz.results21, go_sem]) rfl ⟨?_, by exact ((Below.refl _ _).alloc (Nat.le_refl _) _).alloc (by simp) _⟩
        rw [unhide HN, unhide HE]
        rfl
  · clear hp
    go_enter Tryz.func21, Tryz.ntmps21
    go_wp2_with (go_at_call 22; refine (pick_any _ _ _ (by omega) (by omega) (by omega) (by omega)).mono ?_; rintro e w' ⟨rfl, rfl⟩; rw [unhide HQ])
    go_loop [4, 5] (fun p i => ∃ k : Int, 0 ≤ k ∧ k ≤ 32 ∧ i = .int .i64 k ∧ p = .int .i64 ((2 : Int) ^ (k - 0).toNat)) (fun _ i => (32 - intOf i).toNat)
    case atStart => exact ⟨0, by omega, by omega, rfl, rfl⟩
    case round =>
      obtain ⟨k, hk1, hk2, rfl, rfl⟩ := hrel
      have hb := pow_bd (s := 0) (k := k) (by omega) hk2
      have HS := hide (pow_sz (s := 0) hk1 hk2)
      obtain ⟨P, hP⟩ : ∃ P, (2 : Int) ^ (k - 0).toNat = P := ⟨_, rfl⟩
      rw [hP] at hb HS ⊢
      obtain ⟨hb1, hb2⟩ := hb
      have HP := hide hP
      clear hP
      by_cases hlt : k < 32
      · go_wp2
        go_round
        case rel => exact ⟨k + 1, by omega, by omega, rfl, by rw [unhide HS]⟩
        case measure => simp [intOf]; omega
      · have hPz : (P == 0) = false := beq_eq_false_iff_ne.2 (by omega)
        have p1 := pickP_bd (c := n.tdiv 8) (n := 3) (by omega)
        have p2 := pickP_bd (c := n.tdiv 24) (n := 2) (by omega)
        have p3 := pickP_bd (c := n.tdiv 48) (n := 2) (by omega)
        have HE : Hid (P = powP 0) := by unfold Hid powP; rw [← unhide HP, show k = 32 by omega]
        go_wp2_with (go_at_call 22; refine (pick_any _ _ _ (by omega) (by omega) (by omega) (by omega)).mono ?_; rintro e w' ⟨rfl, rfl⟩)
        rw [show 167772160 + pickP (n.tdiv 8) 3 * 65536 + pickP (n.tdiv 24) 2 * 256 + pickP (n.tdiv 48) 2 = rawA n from rfl]
        have hr := rawA_bd n
        have hd := div_mul_bd hb1 (a := rawA n) (by omega)
        rw [w64 (n := rawA n / P * P) (by omega)]
        refine bodyPost_ret (v := .agg #[.int .i64 (rawA n / P * P), .int .i64 0]) (by simp [results, Tryz.results21, go_sem]) rfl ⟨?_, by exact ((Below.refl _ _).alloc (Nat.le_refl _) _).alloc (by simp) _⟩
        rw [unhide HN, unhide HE]
        rfl
  · clear hp
    go_enter Tryz.func21, Tryz.ntmps21
    go_wp2_with (go_at_call 22; refine (pick_any _ _ _ (by omega) (by omega) (by omega) (by omega)).mono ?_; rintro e w' ⟨rfl, rfl⟩; rw [unhide HQ])
    go_loop [4, 5] (fun p i => ∃ k : Int, 9 ≤ k ∧ k ≤ 32 ∧ i = .int .i64 k ∧ p = .int .i64 ((2 : Int) ^ (k - 9).toNat)) (fun _ i => (32 - intOf i).toNat)
    case atStart => exact ⟨9, by omega, by omega, rfl, rfl⟩
    case round =>
      obtain ⟨k, hk1, hk2, rfl, rfl⟩ := hrel
      have hb := pow_bd (s := 9) (k := k) (by omega) hk2
      have HS := hide (pow_sz (s := 9) hk1 hk2)
      obtain ⟨P, hP⟩ : ∃ P, (2 : Int) ^ (k - 9).toNat = P := ⟨_, rfl⟩
      rw [hP] at hb HS ⊢
      obtain ⟨hb1, hb2⟩ := hb
      have HP := hide hP
      clear hP
      by_cases hlt : k < 32
      · go_wp2
        go_round
        case rel => exact ⟨k + 1, by omega, by omega, rfl, by rw [unhide HS]⟩
        case measure => simp [intOf]; omega
      · have hPz : (P == 0) = false := beq_eq_false_iff_ne.2 (by omega)
        have p1 := pickP_bd (c := n.tdiv 8) (n := 3) (by omega)
        have p2 := pickP_bd (c := n.tdiv 24) (n := 2) (by omega)
        have p3 := pickP_bd (c := n.tdiv 48) (n := 2) (by omega)
        have HE : Hid (P = powP 9) := by unfold Hid powP; rw [← unhide HP, show k = 32 by omega]
        go_wp2_with (go_at_call 22; refine (pick_any _ _ _ (by omega) (by omega) (by omega) (by omega)).mono ?_; rintro e w' ⟨rfl, rfl⟩)
        rw [show 167772160 + pickP (n.tdiv 8) 3 * 65536 + pickP (n.tdiv 24) 2 * 256 + pickP (n.tdiv 48) 2 = rawA n from rfl]
        have hr := rawA_bd n
        have hd := div_mul_bd hb1 (a := rawA n) (by omega)
        rw [w64 (n := rawA n / P * P) (by omega)]
        refine bodyPost_ret (v := .agg #[.int .i64 (rawA n / P * P), .int .i64 9]) (by simp [results, Tryz.results21, go_sem]) rfl ⟨?_, by exact ((Below.refl _ _).alloc (Nat.le_refl _) _).alloc (by simp) _⟩
        rw [unhide HN, unhide HE]
        rfl
  · clear hp
    go_enter Tryz.func21, Tryz.ntmps21
    go_wp2_with (go_at_call 22; refine (pick_any _ _ _ (by omega) (by omega) (by omega) (by omega)).mono ?_; rintro e w' ⟨rfl, rfl⟩; rw [unhide HQ])
    go_loop [4, 5] (fun p i => ∃ k : Int, 17 ≤ k ∧ k ≤ 32 ∧ i = .int .i64 k ∧ p = .int .i64 ((2 : Int) ^ (k - 17).toNat)) (fun _ i => (32 - intOf i).toNat)
    case atStart => exact ⟨17, by omega, by omega, rfl, rfl⟩
    case round =>
      obtain ⟨k, hk1, hk2, rfl, rfl⟩ := hrel
      have hb := pow_bd (s := 17) (k := k) (by omega) hk2
      have HS := hide (pow_sz (s := 17) hk1 hk2)
      obtain ⟨P, hP⟩ : ∃ P, (2 : Int) ^ (k - 17).toNat = P := ⟨_, rfl⟩
      rw [hP] at hb HS ⊢
      obtain ⟨hb1, hb2⟩ := hb
      have HP := hide hP
      clear hP
      by_cases hlt : k < 32
      · go_wp2
        go_round
        case rel => exact ⟨k + 1, by omega, by omega, rfl, by rw [unhide HS]⟩
        case measure => simp [intOf]; omega
      · have hPz : (P == 0) = false := beq_eq_false_iff_ne.2 (by omega)
        have p1 := pickP_bd (c := n.tdiv 8) (n := 3) (by omega)
        have p2 := pickP_bd (c := n.tdiv 24) (n := 2) (by omega)
        have p3 := pickP_bd (c := n.tdiv 48) (n := 2) (by omega)
        have HE : Hid (P = powP 17) := by unfold Hid powP; rw [← unhide HP, show k = 32 by omega]
        go_wp2_with (go_at_call 22; refine (pick_any _ _ _ (by omega) (by omega) (by omega) (by omega)).mono ?_; rintro e w' ⟨rfl, rfl⟩)
        rw [show 167772160 + pickP (n.tdiv 8) 3 * 65536 + pickP (n.tdiv 24) 2 * 256 + pickP (n.tdiv 48) 2 = rawA n from rfl]
        have hr := rawA_bd n
        have hd := div_mul_bd hb1 (a := rawA n) (by omega)
        rw [w64 (n := rawA n / P * P) (by omega)]
        refine bodyPost_ret (v := .agg #[.int .i64 (rawA n / P * P), .int .i64 17]) (by simp [results, Tryz.results21, go_sem]) rfl ⟨?_, by exact ((Below.refl _ _).alloc (Nat.le_refl _) _).alloc (by simp) _⟩
        rw [unhide HN, unhide HE]
        rfl
  · clear hp
    go_enter Tryz.func21, Tryz.ntmps21
    go_wp2_with (go_at_call 22; refine (pick_any _ _ _ (by omega) (by omega) (by omega) (by omega)).mono ?_; rintro e w' ⟨rfl, rfl⟩; rw [unhide HQ])
    go_loop [4, 5] (fun p i => ∃ k : Int, 25 ≤ k ∧ k ≤ 32 ∧ i = .int .i64 k ∧ p = .int .i64 ((2 : Int) ^ (k - 25).toNat)) (fun _ i => (32 - intOf i).toNat)
    case atStart => exact ⟨25, by omega, by omega, rfl, rfl⟩
    case round =>
      obtain ⟨k, hk1, hk2, rfl, rfl⟩ := hrel
      have hb := pow_bd (s := 25) (k := k) (by omega) hk2
      have HS := hide (pow_sz (s := 25) hk1 hk2)
      obtain ⟨P, hP⟩ : ∃ P, (2 : Int) ^ (k - 25).toNat = P := ⟨_, rfl⟩
      rw [hP] at hb HS ⊢
      obtain ⟨hb1, hb2⟩ := hb
      have HP := hide hP
      clear hP
      by_cases hlt : k < 32
      · go_wp2
        go_round
        case rel => exact ⟨k + 1, by omega, by omega, rfl, by rw [unhide HS]⟩
        case measure => simp [intOf]; omega
      · have hPz : (P == 0) = false := beq_eq_false_iff_ne.2 (by omega)
        have p1 := pickP_bd (c := n.tdiv 8) (n := 3) (by omega)
        have p2 := pickP_bd (c := n.tdiv 24) (n := 2) (by omega)
        have p3 := pickP_bd (c := n.tdiv 48) (n := 2) (by omega)
        have HE : Hid (P = powP 25) := by unfold Hid powP; rw [← unhide HP, show k = 32 by omega]
        go_wp2_with (go_at_call 22; refine (pick_any _ _ _ (by omega) (by omega) (by omega) (by omega)).mono ?_; rintro e w' ⟨rfl, rfl⟩)
        rw [show 167772160 + pickP (n.tdiv 8) 3 * 65536 + pickP (n.tdiv 24) 2 * 256 + pickP (n.tdiv 48) 2 = rawA n from rfl]
        have hr := rawA_bd n
        have hd := div_mul_bd hb1 (a := rawA n) (by omega)
        rw [w64 (n := rawA n / P * P) (by omega)]
        refine bodyPost_ret (v := .agg #[.int .i64 (rawA n / P * P), .int .i64 25]) (by simp [results, Tryz.results21, go_sem]) rfl ⟨?_, by exact ((Below.refl _ _).alloc (Nat.le_refl _) _).alloc (by simp) _⟩
        rw [unhide HN, unhide HE]
        rfl

end Go.Proofs.YtlhhdklendeikaaGreatDoor
