/- The reference's isNet, prefix and cut: what each call answers; old memory stays as it is. -/
import Derived.Test.YtgdeeodifnegiaaGreatDoorRefA
import Derived.Deep.QuietTactic
import Derived.BigQuiet
namespace Go.Proofs.YtgdeeodifnegiaaGreatDoor.rf
open Go.RowKit

theorem power_int (n : Int) (w : World) (h0 : 0 ≤ n) (h : n ≤ 32) :
    Calls Tryz.prog 193 #[.int .i64 n] w fun e w' => e = .returned (.int .i64 ((2 : Int) ^ n.toNat)) ∧ w' = w := by
  obtain ⟨k, rfl⟩ := Int.eq_ofNat_of_zero_le h0
  rw [Int.toNat_natCast]
  exact power_any k w (by omega)

set_option maxHeartbeats 400000 in
theorem isNet_in (a l : Int) (w : World) (h1 : 0 ≤ a) (h2 : a ≤ 4294967295) (h3 : 0 ≤ l) (h4 : l ≤ 32) :
    Calls Tryz.prog 141 #[.agg #[.int .i64 a, .int .i64 l]] w fun e w' => e = .returned (.bool (netB a l)) ∧ Below w.heap.size w w' := by
  have HN : Hid (netB a l = (a % 2 ^ (32 - l).toNat == 0)) := by
    unfold Hid netB
    simp only [h1, h2, h3, h4, true_and]
    rw [Bool.eq_iff_iff]; simp
  have ⟨hp1, hp2⟩ := pow2_bd (k := (32 - l).toNat) (by omega)
  have hpz : ((2 : Int) ^ (32 - l).toNat == 0) = false := beq_eq_false_iff_ne.2 (by omega)
  go_enter Tryz.func141, Tryz.ntmps141
  go_wp2_with fail
  go_quiet ((go_at_call 193; exact Calls.quiet_of_same (power_int (32 - l) _ (by omega) (by omega))))
  go_wp2
  go_ret
  exact ⟨ret_bool (unhide HN).symm, by exact below_drewN ((Below.refl _ _).alloc (Nat.le_refl _) _) _⟩

theorem bcell {W w1 : World} (hb : Below W.heap.size W w1) : (∀ b o, b < W.heap.size → w1.cell? ⟨b, o, none⟩ = W.cell? ⟨b, o, none⟩) ∧ (∀ b o, b < W.heap.size → w1.frozen? ⟨b, o, none⟩ = W.frozen? ⟨b, o, none⟩) :=
  ⟨fun b o h => hb.cell (p := ⟨b, o, none⟩) h, fun b o h => hb.frozen (p := ⟨b, o, none⟩) h⟩
theorem pref_ret {x y : Int × Int × Bool} (h : x = y) : Ending.returned (.tuple #[.agg #[.int .i64 x.1, .int .i64 x.2.1], .bool x.2.2]) = .returned (.tuple #[.agg #[.int .i64 y.1, .int .i64 y.2.1], .bool y.2.2]) := by rw [h]

set_option maxRecDepth 100000 in
set_option maxHeartbeats 1000000 in
theorem prefix_any (s : ByteArray) (w : World) (hs : s.size ≤ 1000) :
    Calls Tryz.prog 117 #[.string s] w fun e w' => e = .returned (.tuple #[.agg #[.int .i64 (prefR s).1, .int .i64 (prefR s).2.1], .bool (prefR s).2.2]) ∧ Below w.heap.size w w' := by
  go_enter Tryz.func117, Tryz.ntmps117
  go_wp2
  go_loopw [5, 6, 7] (fun fr pt i wr => ∃ (k p q : Nat) (a l : Int), k ≤ s.size + 1 ∧ (p ≤ 4 ∨ (p = 5 ∧ k = s.size + 1)) ∧ (k = s.size + 1 → p = 5) ∧ q ≤ k ∧ 0 ≤ a ∧ a < 256 ^ (min p 4) ∧ 0 ≤ l ∧ l ≤ 32 ∧ fr = .int .i64 q ∧ pt = .int .i64 p ∧ i = .int .i64 k ∧ prefGo s (s.size + 1 - k) k p q a l = prefR s ∧ wr = (w.alloc (.cells #[.int .i64 0, .int .i64 0] 25)).alloc (.cells #[.int .i64 a, .int .i64 l] 25)) (fun _ _ i _ => s.size + 1 - (intOf i).toNat)
  case atStart => exact ⟨0, 0, 0, 0, 0, by omega, by omega, by omega, by omega, by omega, by simp, by omega, by omega, rfl, rfl, rfl, rfl, rfl⟩
  case round =>
    obtain ⟨k, p, q, a, l, hk, hp, hp5, hq, ha0, ha1, hl0, hl1, rfl, rfl, rfl, hpg, rfl⟩ := hrel
    have HG := hide hpg
    have HA := hide ha1
    clear hpg ha1
    by_cases hle : k ≤ s.size
    · have hp4 : p ≤ 4 := by omega
      have ha2 : a ≤ 4294967295 := pow256_bd (p := min p 4) (by omega) (unhide HA)
      clear hp hp5
      by_cases hlt : k < s.size
      · cases hdb : digB (bt s k) with
        | true =>
          have HS := hide (pg_skip (q := q) (a := a) (l := l) hlt (Or.inl hdb) (p := p))
          rw [bt_eq hlt] at hdb
          by_cases h3 : p = 3
          · subst h3
            go_wp2_with (go_at_call 115; refine (isDigit_any _ _).mono ?_; rintro e w' ⟨rfl, rfl⟩)
            go_roundw
            case rel => exact ⟨k + 1, 3, q, a, l, by omega, by omega, by omega, by omega, ha0, unhide HA, hl0, hl1, rfl, rfl, by go_num, by rw [← unhide HS]; exact unhide HG, rfl⟩
            case measure => simp [intOf]; omega
          · have h3b : ((p : Int) == 3) = false := beq_eq_false_iff_ne.2 (by omega)
            go_wp2_with (go_at_call 115; refine (isDigit_any _ _).mono ?_; rintro e w' ⟨rfl, rfl⟩)
            go_roundw
            case rel => exact ⟨k + 1, p, q, a, l, by omega, by omega, by omega, by omega, ha0, unhide HA, hl0, hl1, rfl, rfl, by go_num, by rw [← unhide HS]; exact unhide HG, rfl⟩
            case measure => simp [intOf]; omega
        | false =>
          by_cases h4 : p = 4
          · subst h4
            have HS := hide (pg_skip (q := q) (a := a) (l := l) hlt (Or.inr rfl) (p := 4))
            rw [bt_eq hlt] at hdb
            go_wp2_with (first | (go_at_call 115; refine (isDigit_any _ _).mono ?_; rintro e w' ⟨rfl, rfl⟩) | (go_at_call 116; refine (number_any _ _ _).mono ?_; rintro e w' ⟨rfl, rfl⟩))
            go_roundw
            case rel => exact ⟨k + 1, 4, q, a, l, by omega, by omega, by omega, by omega, by omega, unhide HA, hl0, hl1, by go_num, by go_num, by go_num, by rw [← unhide HS]; exact unhide HG, rfl⟩
            case measure => simp [intOf]; omega
          · have h4b : ((p : Int) == 4) = false := beq_eq_false_iff_ne.2 (by omega)
            have h3o : (p = 3 ∧ ((p : Int) == 3) = true) ∨ (p ≠ 3 ∧ ((p : Int) == 3) = false) := by
              by_cases h3 : p = 3
              · left; exact ⟨h3, by rw [h3]; rfl⟩
              · right; exact ⟨h3, beq_eq_false_iff_ne.2 (by omega)⟩
            have hneg : k < s.size → digB (bt s k) = false ∧ p ≠ 4 := fun _ => ⟨hdb, h4⟩
            rcases h3o with ⟨h3, h3b⟩ | ⟨h3, h3b⟩
            · by_cases hw : bt s k = 47
              · have hnb : ¬ ((k < s.size ∧ bt s k ≠ (if p = 3 then 47 else 46)) ∨ (s.size ≤ k ∧ p ≠ 4)) := by rw [if_pos h3]; omega
                have hwb : ((s[k].toNat : Int) != 47) = false := by rw [← bt_eq hlt, hw]; rfl
                by_cases hv : numP (s.extract q k) 255 < 0
                · have HS := hide (pg_none (q := q) (a := a) (l := l) hle hneg hnb (by rw [if_neg h4]; exact hv))
                  rw [bt_eq hlt] at hdb
                  clear hneg hnb hw h3
                  go_wp2_with (first | (go_at_call 115; refine (isDigit_any _ _).mono ?_; rintro e w' ⟨rfl, rfl⟩) | (go_at_call 116; refine (number_any _ _ _).mono ?_; rintro e w' ⟨rfl, rfl⟩))
                  refine bodyPost_ret (v := .tuple #[.agg #[.int .i64 a, .int .i64 l], .bool false]) (by simp [results, Tryz.results117, go_sem]) rfl ⟨?_, (((Below.refl _ _).alloc (Nat.le_refl _) _).alloc (by simp) _)⟩
                  rw [← unhide HG, unhide HS]
                · have HS := hide (pg_part (q := q) (a := a) (l := l) hlt hdb h4 (by rw [if_pos h3]; exact hw) hv)
                  have hv2 := numP_le (s := s.extract q k) (m := 255) (by omega)
                  have HP := hide (show 256 * a + numP (s.extract q k) 255 < 256 ^ (min (p + 1) 4) by rw [show min (p + 1) 4 = min p 4 + 1 by omega]; exact pow256_succ (unhide HA) hv2)
                  rw [bt_eq hlt] at hdb
                  clear hneg hnb hw h3
                  go_wp2_with (first | (go_at_call 115; refine (isDigit_any _ _).mono ?_; rintro e w' ⟨rfl, rfl⟩) | (go_at_call 116; refine (number_any _ _ _).mono ?_; rintro e w' ⟨rfl, rfl⟩))
                  go_roundw
                  case rel => exact ⟨k + 1, p + 1, k + 1, 256 * a + numP (s.extract q k) 255, l, by omega, by omega, by omega, by omega, by omega, unhide HP, hl0, hl1, by go_num, by go_num, by go_num, by rw [← unhide HS]; exact unhide HG, rfl⟩
                  case measure => simp [intOf]; omega
              · have HS := hide (pg_bad (q := q) (a := a) (l := l) hle hneg (Or.inl ⟨hlt, by rw [if_pos h3]; exact hw⟩))
                have hwb : ((s[k].toNat : Int) != 47) = true := by rw [← bt_eq hlt]; simpa using hw
                rw [bt_eq hlt] at hdb
                clear hneg hw h3
                go_wp2_with (first | (go_at_call 115; refine (isDigit_any _ _).mono ?_; rintro e w' ⟨rfl, rfl⟩) | (go_at_call 116; refine (number_any _ _ _).mono ?_; rintro e w' ⟨rfl, rfl⟩))
                refine bodyPost_ret (v := .tuple #[.agg #[.int .i64 a, .int .i64 l], .bool false]) (by simp [results, Tryz.results117, go_sem]) rfl ⟨?_, (((Below.refl _ _).alloc (Nat.le_refl _) _).alloc (by simp) _)⟩
                rw [← unhide HG, unhide HS]
            · by_cases hw : bt s k = 46
              · have hnb : ¬ ((k < s.size ∧ bt s k ≠ (if p = 3 then 47 else 46)) ∨ (s.size ≤ k ∧ p ≠ 4)) := by rw [if_neg h3]; omega
                have hwb : ((s[k].toNat : Int) != 46) = false := by rw [← bt_eq hlt, hw]; rfl
                by_cases hv : numP (s.extract q k) 255 < 0
                · have HS := hide (pg_none (q := q) (a := a) (l := l) hle hneg hnb (by rw [if_neg h4]; exact hv))
                  rw [bt_eq hlt] at hdb
                  clear hneg hnb hw h3
                  go_wp2_with (first | (go_at_call 115; refine (isDigit_any _ _).mono ?_; rintro e w' ⟨rfl, rfl⟩) | (go_at_call 116; refine (number_any _ _ _).mono ?_; rintro e w' ⟨rfl, rfl⟩))
                  refine bodyPost_ret (v := .tuple #[.agg #[.int .i64 a, .int .i64 l], .bool false]) (by simp [results, Tryz.results117, go_sem]) rfl ⟨?_, (((Below.refl _ _).alloc (Nat.le_refl _) _).alloc (by simp) _)⟩
                  rw [← unhide HG, unhide HS]
                · have HS := hide (pg_part (q := q) (a := a) (l := l) hlt hdb h4 (by rw [if_neg h3]; exact hw) hv)
                  have hv2 := numP_le (s := s.extract q k) (m := 255) (by omega)
                  have HP := hide (show 256 * a + numP (s.extract q k) 255 < 256 ^ (min (p + 1) 4) by rw [show min (p + 1) 4 = min p 4 + 1 by omega]; exact pow256_succ (unhide HA) hv2)
                  rw [bt_eq hlt] at hdb
                  clear hneg hnb hw h3
                  go_wp2_with (first | (go_at_call 115; refine (isDigit_any _ _).mono ?_; rintro e w' ⟨rfl, rfl⟩) | (go_at_call 116; refine (number_any _ _ _).mono ?_; rintro e w' ⟨rfl, rfl⟩))
                  go_roundw
                  case rel => exact ⟨k + 1, p + 1, k + 1, 256 * a + numP (s.extract q k) 255, l, by omega, by omega, by omega, by omega, by omega, unhide HP, hl0, hl1, by go_num, by go_num, by go_num, by rw [← unhide HS]; exact unhide HG, rfl⟩
                  case measure => simp [intOf]; omega
              · have HS := hide (pg_bad (q := q) (a := a) (l := l) hle hneg (Or.inl ⟨hlt, by rw [if_neg h3]; exact hw⟩))
                have hwb : ((s[k].toNat : Int) != 46) = true := by rw [← bt_eq hlt]; simpa using hw
                rw [bt_eq hlt] at hdb
                clear hneg hw h3
                go_wp2_with (first | (go_at_call 115; refine (isDigit_any _ _).mono ?_; rintro e w' ⟨rfl, rfl⟩) | (go_at_call 116; refine (number_any _ _ _).mono ?_; rintro e w' ⟨rfl, rfl⟩))
                refine bodyPost_ret (v := .tuple #[.agg #[.int .i64 a, .int .i64 l], .bool false]) (by simp [results, Tryz.results117, go_sem]) rfl ⟨?_, (((Below.refl _ _).alloc (Nat.le_refl _) _).alloc (by simp) _)⟩
                rw [← unhide HG, unhide HS]
      · have hks : k = s.size := by omega
        have HK := hide hks
        have hkb : ((k : Int) == (s.size : Int)) = true := beq_iff_eq.2 (by omega)
        by_cases h4 : p = 4
        · subst h4
          have hnb : ¬ ((k < s.size ∧ bt s k ≠ (if 4 = 3 then 47 else 46)) ∨ (s.size ≤ k ∧ 4 ≠ 4)) := by omega
          by_cases hv : numP (s.extract q k) 32 < 0
          · have HS := hide (pg_none (q := q) (a := a) (l := l) hle (fun h => absurd h hlt) hnb (by simpa using hv))
            clear hnb hks
            go_wp2_with (first | (go_at_call 115; refine (isDigit_any _ _).mono ?_; rintro e w' ⟨rfl, rfl⟩) | (go_at_call 116; refine (number_any _ _ _).mono ?_; rintro e w' ⟨rfl, rfl⟩))
            refine bodyPost_ret (v := .tuple #[.agg #[.int .i64 a, .int .i64 l], .bool false]) (by simp [results, Tryz.results117, go_sem]) rfl ⟨?_, (((Below.refl _ _).alloc (Nat.le_refl _) _).alloc (by simp) _)⟩
            rw [← unhide HG, unhide HS]
          · have HS := hide (pg_four (q := q) (a := a) (l := l) hks hv)
            have hv2 := numP_le (s := s.extract q k) (m := 32) (by omega)
            clear hnb hks
            go_wp2_with (first | (go_at_call 115; refine (isDigit_any _ _).mono ?_; rintro e w' ⟨rfl, rfl⟩) | (go_at_call 116; refine (number_any _ _ _).mono ?_; rintro e w' ⟨rfl, rfl⟩))
            go_roundw
            case rel => exact ⟨k + 1, 5, k + 1, a, numP (s.extract q k) 32, by omega, by omega, by omega, by omega, by omega, unhide HA, by omega, by omega, by go_num, by go_num, by go_num, by rw [← unhide HS]; exact unhide HG, rfl⟩
            case measure => simp [intOf]; omega
        · have h4b : ((p : Int) == 4) = false := beq_eq_false_iff_ne.2 (by omega)
          have h4c : ((p : Int) != 4) = true := by simp; omega
          have HS := hide (pg_bad (q := q) (a := a) (l := l) hle (fun h => absurd h hlt) (Or.inr ⟨by omega, h4⟩))
          clear hks
          have h3o : ((p : Int) == 3) = true ∨ ((p : Int) == 3) = false := by cases ((p : Int) == 3) <;> simp
          rcases h3o with h3b | h3b
          all_goals
            go_wp2_with (first | (go_at_call 115; refine (isDigit_any _ _).mono ?_; rintro e w' ⟨rfl, rfl⟩) | (go_at_call 116; refine (number_any _ _ _).mono ?_; rintro e w' ⟨rfl, rfl⟩))
            refine bodyPost_ret (v := .tuple #[.agg #[.int .i64 a, .int .i64 l], .bool false]) (by simp [results, Tryz.results117, go_sem]) rfl ⟨?_, (((Below.refl _ _).alloc (Nat.le_refl _) _).alloc (by simp) _)⟩
            rw [← unhide HG, unhide HS]
    · have hks : k = s.size + 1 := by omega
      obtain rfl : p = 5 := hp5 hks
      have ha2 : a ≤ 4294967295 := pow256_bd (p := 4) (by omega) (unhide HA)
      have HS := hide (show prefGo s (s.size + 1 - k) k 5 q a l = (a, l, netB a l) by rw [hks]; exact pg_end)
      clear hks hp hp5
      go_wp2_with (go_at_call 141; refine (isNet_in _ _ _ (by omega) (by omega) (by omega) (by omega)).mono ?_; rintro e w' ⟨rfl, hb⟩; obtain ⟨hc, hf⟩ := bcell hb)
      refine bodyPost_ret (v := .tuple #[.agg #[.int .i64 a, .int .i64 l], .bool (netB a l)]) ?_ rfl ⟨?_, ?_⟩
      · have hz : w.heap.size + 1 < w'.heap.size := by have := hb.size; simp at this; omega
        have c0 : w'.cell? ⟨w.heap.size, 0, none⟩ = some (.int .i64 0) := by rw [hc _ _ (by simp; omega)]; simp
        have c1 : w'.cell? ⟨w.heap.size, 1, none⟩ = some (.int .i64 0) := by rw [hc _ _ (by simp; omega)]; simp
        simp [results, Tryz.results117, go_sem, c0, c1]
      · rw [← unhide HG, unhide HS]
      · exact (((((Below.refl _ _).alloc (Nat.le_refl _) _).alloc (by simp) _).trans (hb.mono (by simp; omega))).setCell (by simp) _).setCell (by simp) _
end Go.Proofs.YtgdeeodifnegiaaGreatDoor.rf
