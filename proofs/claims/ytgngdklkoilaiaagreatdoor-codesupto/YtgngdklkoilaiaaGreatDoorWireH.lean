/- The reference's value and flags (package bywayref): a number of bytes; the flags of an attribute. -/
import Derived.Test.YtgngdklkoilaiaaGreatDoorWireG
namespace Go.Proofs.YtgngdklkoilaiaaGreatDoor
open Go.RowKit
set_option maxRecDepth 100000 in
set_option maxHeartbeats 800000 in
theorem value_w (l : List Int) (x : Value) (w : World) (h : BytesAt w x l) (hlen : l.length ≤ 1048576) :
    Calls Tryz.prog 138 #[x] w fun e w' => ∃ r, e = .returned (.int .i64 r) ∧ (l.length ≤ 4 → r = valB l) ∧ w' = w := by
  obtain ⟨p, c, rfl, hcap, hl, hin, hr⟩ := h
  have HR := hide hr
  have HIN := hide hin
  clear hr hin
  go_enter Tryz.func138, Tryz.ntmps138
  go_wp2
  go_loop [3, 4] (fun n i => ∃ (k : Nat) (r : Int), k ≤ l.length ∧ i = .int .i64 k ∧ n = .int .i64 r ∧ (k ≤ 4 → r = valB (l.take k))) (fun _ i => l.length - (intOf i).toNat)
  case atStart => exact ⟨0, 0, Nat.zero_le _, rfl, rfl, fun _ => rfl⟩
  case round =>
    obtain ⟨k, r, hk, rfl, rfl, hrv⟩ := hrel
    have HRV := hide hrv
    clear hrv
    by_cases hlt : k < l.length
    · rcases unhide HR with h | ⟨b, o, rfl, hb, hc⟩
      · rw [h.1] at hlt; simp at hlt
      have hck := hc k hlt
      have hx := unhide HIN l[k] (List.getElem_mem _)
      obtain ⟨hx1, hx2⟩ := hx
      clear hc
      obtain ⟨X, hX⟩ : ∃ X, l[k] = X := ⟨_, rfl⟩
      rw [hX] at hck hx1 hx2
      have HSN := hide (show valB (l.take (k + 1)) = 256 * valB (l.take k) + X from by rw [List.take_succ_eq_append_getElem hlt, valB_snoc, hX])
      clear hX
      by_cases h4 : k < 4
      · have he := unhide HRV (by omega)
        have hbd := valB_bd k (l := l.take k) (bytesOk_take (unhide HIN) k) (by simp; omega)
        rw [← he] at hbd HSN
        have hp : (256 : Int) ^ k ≤ 256 ^ 3 := by
          have h1 : (256 : Nat) ^ k ≤ 256 ^ 3 := Nat.pow_le_pow_right (by omega) (by omega)
          exact_mod_cast h1
        have r0 : 0 ≤ r := hbd.1
        have r1 : r < 16777216 := by have := hbd.2; omega
        clear hbd hp he HRV
        go_wp2
        go_round
        case rel => exact ⟨k + 1, 256 * r + X, by omega, by go_num, rfl, fun _ => (unhide HSN).symm⟩
        case measure => simp [intOf]; omega
      · clear HRV HSN
        go_wp2
        go_round
        case rel => exact ⟨k + 1, _, by omega, by go_num, rfl, fun h => absurd h (by omega)⟩
        case measure => simp [intOf]; omega
    · have HE := hide (show l.take k = l from List.take_of_length_le (by omega))
      go_wp2
      go_ret
      exact ⟨r, rfl, fun h => by have := unhide HRV (by omega); rwa [unhide HE] at this, rfl⟩

set_option maxHeartbeats 400000 in
theorem flags_w (n : Int) (w : World) :
    Calls Tryz.prog 82 #[.int .i64 n] w fun e w' => e = .returned (.int .i64 (flagsP n)) ∧ w' = w := by
  by_cases h2 : n = 2
  · subst h2
    go_enter Tryz.func82, Tryz.ntmps82
    go_wp2
    go_ret
    exact ⟨rfl, rfl⟩
  by_cases h5 : n = 5
  · subst h5
    go_enter Tryz.func82, Tryz.ntmps82
    go_wp2
    go_ret
    exact ⟨rfl, rfl⟩
  by_cases h4 : n = 4
  · subst h4
    go_enter Tryz.func82, Tryz.ntmps82
    go_wp2
    go_ret
    exact ⟨rfl, rfl⟩
  by_cases h8 : n = 8
  · subst h8
    go_enter Tryz.func82, Tryz.ntmps82
    go_wp2
    go_ret
    exact ⟨rfl, rfl⟩
  · have d2 : (n == 2) = false := beq_eq_false_iff_ne.2 h2
    have d5 : (n == 5) = false := beq_eq_false_iff_ne.2 h5
    have d4 : (n == 4) = false := beq_eq_false_iff_ne.2 h4
    have d8 : (n == 8) = false := beq_eq_false_iff_ne.2 h8
    have HF := hide (show flagsP n = -1 from by unfold flagsP; rw [if_neg (by omega), if_neg h4, if_neg h8])
    clear h2 h5 h4 h8
    go_enter Tryz.func82, Tryz.ntmps82
    go_wp2
    go_ret
    exact ⟨rt_int (unhide HF).symm, rfl⟩
end Go.Proofs.YtgngdklkoilaiaaGreatDoor

namespace Go.Proofs.YtgngdklkoilaiaaGreatDoor
open Go.RowKit
set_option maxRecDepth 100000 in
set_option maxHeartbeats 1600000 in
theorem parts_w (l : List Int) (x : Value) (w : World) (h : BytesAt w x l) (hlen : l.length ≤ 1048576) :
    Calls Tryz.prog 79 #[x] w (PartsC w l) := by
  obtain ⟨p, c, rfl, hcap, hl, hin, hr⟩ := h
  by_cases h2 : l.length < 2
  · have HF := hide (show partsP l = none from by unfold partsP; rw [if_pos h2])
    clear hr hin
    go_enter Tryz.func79, Tryz.ntmps79
    go_wp2
    refine bodyPost_ret (v := .tuple #[.slice none 0 0, .slice none 0 0, .slice none 0 0, .bool false]) (by simp [results, Tryz.results79, go_sem]) rfl ?_
    exact PartsC.no (Below.refl _ _) (unhide HF)
  · rcases hr with h | ⟨b, o, rfl, hb, hc⟩
    · exfalso; rw [h.1] at h2; simp at h2
    have HC := hide (show CellsB w b o l from ⟨hb, hc⟩)
    have HIN := hide hin
    clear hc hin
    have hv1 := val2_bd (bytesOk_take (unhide HIN) 2) (by simp; omega)
    obtain ⟨n, hn⟩ : ∃ n : Nat, valB (l.take 2) = (n : Int) := ⟨(valB (l.take 2)).toNat, by omega⟩
    have HN := hide hn
    rw [hn] at hv1
    clear hn
    have hc2 : 2 ≤ c := by omega
    go_enter Tryz.func79, Tryz.ntmps79
    go_wp2_with fail
    refine (value_w (l.take 2) _ _ (((unhide HC).take 2).at_ (by simp; omega) hc2 (bytesOk_take (unhide HIN) 2) (by omega)) (by simp; omega)).mono ?_
    rintro e w0 ⟨r, rfl, hrv, rfl⟩
    have hr := hrv (by simp; omega)
    rw [unhide HN] at hr
    subst hr
    clear hrv
    by_cases hcc : 2 < c
    · by_cases hn2 : l.length - 2 < n + 2
      · have HF := hide (show partsP l = none from by unfold partsP; rw [if_neg h2, unhide HN, if_pos (by rw [List.length_drop]; simpa using hn2)])
        go_wp2
        refine bodyPost_ret (v := .tuple #[.slice none 0 0, .slice none 0 0, .slice none 0 0, .bool false]) (by simp [results, Tryz.results79, go_sem]) rfl ?_
        exact PartsC.no (Below.refl _ _) (unhide HF)
      · have hnc : n < c - 2 := by omega
        have T := hide ((unhide HC).drop 2)
        have TB := hide (bytesOk_drop (unhide HIN) 2)
        have hv2 := val2_bd (bytesOk_take (bytesOk_drop (unhide TB) n) 2) (by simp; omega)
        obtain ⟨m, hm⟩ : ∃ m : Nat, valB (((l.drop 2).drop n).take 2) = (m : Int) := ⟨(valB (((l.drop 2).drop n).take 2)).toNat, by omega⟩
        have HM := hide hm
        rw [hm] at hv2
        clear hm
        go_wp2_with fail
        refine (value_w (((l.drop 2).drop n).take 2) _ _ ((((unhide T).drop n).take 2).at_ (by simp; omega) (by omega) (bytesOk_take (bytesOk_drop (unhide TB) n) 2) (by omega)) (by simp; omega)).mono ?_
        rintro e w1 ⟨r, rfl, hrv, rfl⟩
        have hr := hrv (by simp; omega)
        rw [unhide HM] at hr
        subst hr
        clear hrv
        have HG := hide (((unhide T).take n).at_ (n := n) (c := c - 2) (by simp; omega) (by omega) (bytesOk_take (unhide TB) n) (by omega))
        have HR := hide ((unhide T).drop (n + 2))
        have HRB := hide (bytesOk_drop (unhide TB) (n + 2))
        by_cases hcd : n + 2 < c - 2
        · by_cases hm2 : l.length - 2 - (n + 2) < m
          · have HF := hide (show partsP l = none from by unfold partsP; rw [if_neg h2, unhide HN, Int.toNat_natCast, if_neg (by rw [List.length_drop]; exact hn2), unhide HM, Int.toNat_natCast, if_pos (by rw [List.length_drop, List.length_drop]; exact hm2)])
            go_wp2
            refine bodyPost_ret (v := .tuple #[.slice none 0 0, .slice none 0 0, .slice none 0 0, .bool false]) (by simp [results, Tryz.results79, go_sem]) rfl ?_
            exact PartsC.no (Below.refl _ _) (unhide HF)
          · have HF := hide (show partsP l = some ((l.drop 2).take n, ((l.drop 2).drop (n + 2)).take m, ((l.drop 2).drop (n + 2)).drop m) from by unfold partsP; rw [if_neg h2, unhide HN, Int.toNat_natCast, if_neg (by rw [List.length_drop]; exact hn2), unhide HM, Int.toNat_natCast, if_neg (by rw [List.length_drop, List.length_drop]; exact hm2)])
            have HA := hide (((unhide HR).take m).at_ (n := m) (c := c - 2 - (n + 2)) (by simp; omega) (by omega) (bytesOk_take (unhide HRB) m) (by omega))
            by_cases hce : m < c - 2 - (n + 2)
            · have HE := hide (((unhide HR).drop m).at_ (n := l.length - 2 - (n + 2) - m) (c := c - 2 - (n + 2) - m) (by simp; omega) (by omega) (bytesOk_drop (unhide HRB) m) (by omega))
              go_wp2_with fail
              go_quiet ((fail))
              go_wp2
              refine bodyPost_ret (v := .tuple #[.slice (some ⟨b, o + 2, none⟩) n (c - 2), .slice (some ⟨b, o + 2 + (n + 2), none⟩) m (c - 2 - (n + 2)), .slice (some ⟨b, o + 2 + (n + 2) + m, none⟩) (l.length - 2 - (n + 2) - m) (c - 2 - (n + 2) - m), .bool true]) (by simp [results, Tryz.results79, go_sem]) rfl ?_
              exact PartsC.yes (by exact below_drewN (Below.refl _ _) _) (unhide HF) (unhide HG) (unhide HA) (unhide HE)
            · have hme : m = c - 2 - (n + 2) := by omega
              have hml : l.length - 2 - (n + 2) = m := by omega
              have HE := hide (show BytesAt w1 (.slice (some ⟨b, o + 2 + (n + 2), none⟩) 0 0) (((l.drop 2).drop (n + 2)).drop m) from by
                have e0 : ((l.drop 2).drop (n + 2)).drop m = [] := List.drop_eq_nil_of_le (by simp; omega)
                rw [e0]; exact BytesAt.empty _ _ _)
              have hd0 : c - 2 - (n + 2) - m = 0 := by omega
              have hd1 : l.length - 2 - (n + 2) - m = 0 := by omega
              clear hme hml
              go_wp2_with fail
              go_quiet ((fail))
              go_wp2
              refine bodyPost_ret (v := .tuple #[.slice (some ⟨b, o + 2, none⟩) n (c - 2), .slice (some ⟨b, o + 2 + (n + 2), none⟩) m (c - 2 - (n + 2)), .slice (some ⟨b, o + 2 + (n + 2), none⟩) 0 0, .bool true]) (by simp [results, Tryz.results79, go_sem]) rfl ?_
              exact PartsC.yes (by exact below_drewN (Below.refl _ _) _) (unhide HF) (unhide HG) (unhide HA) (unhide HE)
        · have hr0 : (l.drop 2).drop (n + 2) = [] := List.drop_eq_nil_of_le (by simp; omega)
          have hd0 : c - 2 - (n + 2) = 0 := by omega
          have hd1 : l.length - 2 - (n + 2) = 0 := by omega
          rcases Nat.eq_zero_or_pos m with hm0 | hm0
          · have HF := hide (show partsP l = some ((l.drop 2).take n, [], []) from by unfold partsP; rw [if_neg h2, unhide HN, Int.toNat_natCast, if_neg (by rw [List.length_drop]; exact hn2), unhide HM, Int.toNat_natCast, hr0, if_neg (by simp; omega)]; simp)
            subst hm0
            clear hr0
            go_wp2_with fail
            go_quiet ((fail))
            go_wp2
            refine bodyPost_ret (v := .tuple #[.slice (some ⟨b, o + 2, none⟩) n (c - 2), .slice (some ⟨b, o + 2, none⟩) 0 0, .slice (some ⟨b, o + 2, none⟩) 0 0, .bool true]) (by simp [results, Tryz.results79, go_sem]; omega) rfl ?_
            exact PartsC.yes (by exact below_drewN (Below.refl _ _) _) (unhide HF) (unhide HG) (BytesAt.empty _ _ _) (BytesAt.empty _ _ _)
          · have HF := hide (show partsP l = none from by unfold partsP; rw [if_neg h2, unhide HN, Int.toNat_natCast, if_neg (by rw [List.length_drop]; exact hn2), unhide HM, Int.toNat_natCast, hr0, if_pos (by simpa using hm0)])
            clear hr0
            go_wp2
            refine bodyPost_ret (v := .tuple #[.slice none 0 0, .slice none 0 0, .slice none 0 0, .bool false]) (by simp [results, Tryz.results79, go_sem]) rfl ?_
            exact PartsC.no (Below.refl _ _) (unhide HF)
    · have HF := hide (show partsP l = none from by unfold partsP; rw [if_neg h2, unhide HN, Int.toNat_natCast, if_pos (by rw [List.length_drop]; omega)])
      have hd0 : c - 2 = 0 := by omega
      have hd1 : l.length - 2 = 0 := by omega
      go_wp2
      refine bodyPost_ret (v := .tuple #[.slice none 0 0, .slice none 0 0, .slice none 0 0, .bool false]) (by simp [results, Tryz.results79, go_sem]) rfl ?_
      exact PartsC.no (Below.refl _ _) (unhide HF)
end Go.Proofs.YtgngdklkoilaiaaGreatDoor
