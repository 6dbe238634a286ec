/- The reference's cut: the token at a place of a text behind blanks, and the place behind it; old memory stays as it is. -/
import Derived.Test.YtgdeeodifnegiaaGreatDoorRefB
namespace Go.Proofs.YtgdeeodifnegiaaGreatDoor.rf
open Go.RowKit

abbrev tokV (t : Tok) : Value := .agg #[.int .u8 t.kind, .string t.text, .int .i64 t.at_]
def cutW (w : World) : World := w.alloc (.cells #[.int .u8 0, .string ByteArray.empty, .int .i64 0] 121)

theorem cell_strs (w : World) (l : List ByteArray) (T b : Nat) (hb : b = w.heap.size) (j : Nat) (h : j < l.length) :
    (w.alloc (.cells (l.map Value.string).toArray T)).cell? ⟨b, j, none⟩ = some (.string l[j]) := by
  subst hb
  simp [h]

theorem cut_ret {R : Tok × Nat} {t : Tok} {k : Nat} (h : R = (t, k)) : Ending.returned (.tuple #[tokV t, .int .i64 k]) = .returned (.tuple #[tokV R.1, .int .i64 R.2]) := by rw [h]
theorem nume_yes {n : Int} (h : numeB n = true) : digB n = true ∨ (digB n = false ∧ (n == 46) = true) ∨ (digB n = false ∧ (n == 46) = false ∧ (n == 47) = true) := by
  unfold numeB at h
  cases h1 : digB n <;> cases h2 : (n == 46) <;> simp_all
theorem nume_no {n : Int} (h : numeB n = false) : digB n = false ∧ (n == 46) = false ∧ (n == 47) = false := by
  unfold numeB at h
  simpa [and_assoc] using h
theorem tokAt_dig {s : ByteArray} {k : Nat} {R : Tok × Nat} (h : k < s.size) (hl : lowB (bt s k) = false) (hd : digB (bt s k) = true)
    (hr : R = (if 0 ≤ numP (s.extract k (scanTo numeB s k)) 4294967295 then (⟨48, s.extract k (scanTo numeB s k), k⟩, scanTo numeB s k)
     else if (prefR (s.extract k (scanTo numeB s k))).2.2 = true then (⟨47, s.extract k (scanTo numeB s k), k⟩, scanTo numeB s k)
     else (⟨33, ⟨#[]⟩, k⟩, scanTo numeB s k))) : tokAt s k = R := by
  rw [hr]; unfold tokAt; rw [if_neg (by omega), if_neg (by simp [hl]), if_pos hd]
theorem tokAt_sign {s : ByteArray} {k : Nat} {R : Tok × Nat} (h : k < s.size) (hl : lowB (bt s k) = false) (hd : digB (bt s k) = false)
    (hr : R = (if signB (bt s k) = true then (⟨115, s.extract k (k + 1), k⟩, k + 1) else (⟨33, ⟨#[]⟩, k⟩, k + 1))) : tokAt s k = R := by
  rw [hr]; unfold tokAt; rw [if_neg (by omega), if_neg (by simp [hl]), if_neg (by simp [hd])]
theorem tokAt_low {s : ByteArray} {k : Nat} {R : Tok × Nat} (h : k < s.size) (hl : lowB (bt s k) = true)
    (hr : R = (if amongB wordsL (s.extract k (scanTo lowB s k)) = true then (⟨107, s.extract k (scanTo lowB s k), k⟩, scanTo lowB s k)
     else if scanTo lowB s k - k ≤ 8 then (⟨110, s.extract k (scanTo lowB s k), k⟩, scanTo lowB s k)
     else (⟨33, ⟨#[]⟩, k⟩, scanTo lowB s k))) : tokAt s k = R := by
  rw [hr]; unfold tokAt; rw [if_neg (by omega), if_pos hl]

set_option maxRecDepth 100000 in
set_option maxHeartbeats 4000000 in
theorem cut_any (s : ByteArray) (i : Nat) (w : World) (hs : s.size ≤ 1000) (hi : i ≤ s.size) :
    Calls Tryz.prog 66 #[.string s, .int .i64 i] w fun e w' => e = .returned (.tuple #[tokV (cutP s i).1, .int .i64 (cutP s i).2]) ∧ Below w.heap.size w w' := by
  have HC : Hid (cutP s i = tokAt s (scanTo blankB s i)) := rfl
  generalize cutP s i = R at *
  go_enter Tryz.func66, Tryz.ntmps66
  go_wp2
  go_loop [1] (fun x => ∃ k : Nat, k ≤ s.size ∧ scanTo blankB s k = scanTo blankB s i ∧ x = .int .i64 k) (fun x => s.size - (intOf x).toNat)
  case atStart => exact ⟨i, hi, rfl, rfl⟩
  case round =>
    obtain ⟨k, hk, hsc, rfl⟩ := hrel
    have HB := hide hsc
    clear hsc
    by_cases hlt : k < s.size
    · cases hbl : blankB (bt s k) with
      | true =>
        have HS := hide (scanTo_step hlt hbl)
        rw [bt_eq hlt] at hbl
        have hor : ((s[k].toNat : Int) == 32) = true ∨ (((s[k].toNat : Int) == 32) = false ∧ ((s[k].toNat : Int) == 10) = true) := by
          unfold blankB at hbl
          cases h1 : ((s[k].toNat : Int) == 32) <;> simp_all
        clear hbl
        rcases hor with h1 | ⟨h1, h2⟩
        all_goals
          go_wp2
          go_round
          case rel => exact ⟨k + 1, by omega, by rw [← unhide HS]; exact unhide HB, by go_num⟩
          case measure => simp [intOf]; omega
      | false =>
        have HK := hide (show k = scanTo blankB s i by rw [← unhide HB, scanTo_stop (by simp [hbl])])
        rw [bt_eq hlt] at hbl
        obtain ⟨h1, h2⟩ : ((s[k].toNat : Int) == 32) = false ∧ ((s[k].toNat : Int) == 10) = false := by
          unfold blankB at hbl
          simpa using hbl
        clear hbl
        cases hlo : lowB (bt s k) with
        | true =>
          have HT := fun R' h => hide (tokAt_low hlt hlo (R := R') h)
          have hlb := hlo
          rw [bt_eq hlt] at hlb
          clear hlo
          go_wp2_with (go_at_call 112; refine (isLow_any _ _).mono ?_; rintro e w' ⟨rfl, rfl⟩)
          go_loop [6] (fun x => ∃ m : Nat, k ≤ m ∧ m ≤ s.size ∧ scanTo lowB s m = scanTo lowB s k ∧ x = .int .i64 m) (fun x => s.size - (intOf x).toNat)
          case atStart => exact ⟨k, Nat.le_refl _, by omega, rfl, rfl⟩
          case round =>
            obtain ⟨m, hkm, hms, hsc, rfl⟩ := hrel
            have HM := hide hsc
            clear hsc
            by_cases hx : m < s.size ∧ lowB (bt s m) = true
            · obtain ⟨hmt, hml⟩ := hx
              have HS := hide (scanTo_step hmt hml)
              rw [bt_eq hmt] at hml
              go_wp2_with (go_at_call 112; refine (isLow_any _ _).mono ?_; rintro e w' ⟨rfl, rfl⟩)
              go_round
              case rel => exact ⟨m + 1, by omega, by omega, by rw [← unhide HS]; exact unhide HM, by go_num⟩
              case measure => simp [intOf]; omega
            · have hme : m = scanTo lowB s k := by rw [← unhide HM, scanTo_stop hx]
              have HR : Hid (R = (if amongB wordsL (s.extract k m) = true then (⟨107, s.extract k m, k⟩, m) else if m - k ≤ 8 then (⟨110, s.extract k m, k⟩, m) else (⟨33, ⟨#[]⟩, k⟩, m))) := by
                rw [unhide HC, ← unhide HK]; exact unhide (HT _ (by rw [← hme]))
              clear hme HT HM
              have hy : (∃ h : m < s.size, lowB (s[m].toNat : Int) = false) ∨ ¬ m < s.size := by
                by_cases h : m < s.size
                · left; refine ⟨h, ?_⟩; rw [← bt_eq h]; simpa [h] using hx
                · right; exact h
              clear hx
              have hsz : (s.extract k m).size = m - k := by simp; omega
              rcases hy with ⟨hmt, hml⟩ | hmt
              all_goals
                cases ham : amongB wordsL (s.extract k m) with
                | true =>
                  go_wp2_with (first | (go_at_call 112; refine (isLow_any _ _).mono ?_; rintro e w' ⟨rfl, rfl⟩) | (go_at_call 114; refine (words_any _).mono ?_; rintro e w' ⟨rfl, rfl⟩) | (go_at_call 113; refine (among_any _ wordsL _ _ _ _ rfl (by decide) ?hcells).mono ?_; (case hcells => exact cell_strs _ _ _ _ (by simp)); rintro e w' ⟨rfl, rfl⟩))
                  refine bodyPost_ret (v := .tuple #[tokV ⟨107, s.extract k m, k⟩, .int .i64 m]) (by simp [results, Tryz.results66, go_sem]) rfl ⟨cut_ret ?_, ((Below.refl _ _).alloc (Nat.le_refl _) _).alloc (by simp) _⟩
                  rw [unhide HR, if_pos ham]
                | false =>
                  by_cases h8 : m - k ≤ 8
                  · go_wp2_with (first | (go_at_call 112; refine (isLow_any _ _).mono ?_; rintro e w' ⟨rfl, rfl⟩) | (go_at_call 114; refine (words_any _).mono ?_; rintro e w' ⟨rfl, rfl⟩) | (go_at_call 113; refine (among_any _ wordsL _ _ _ _ rfl (by decide) ?hcells).mono ?_; (case hcells => exact cell_strs _ _ _ _ (by simp)); rintro e w' ⟨rfl, rfl⟩))
                    refine bodyPost_ret (v := .tuple #[tokV ⟨110, s.extract k m, k⟩, .int .i64 m]) (by simp [results, Tryz.results66, go_sem]) rfl ⟨cut_ret ?_, ((Below.refl _ _).alloc (Nat.le_refl _) _).alloc (by simp) _⟩
                    rw [unhide HR, if_neg (by simp [ham]), if_pos h8]
                  · go_wp2_with (first | (go_at_call 112; refine (isLow_any _ _).mono ?_; rintro e w' ⟨rfl, rfl⟩) | (go_at_call 114; refine (words_any _).mono ?_; rintro e w' ⟨rfl, rfl⟩) | (go_at_call 113; refine (among_any _ wordsL _ _ _ _ rfl (by decide) ?hcells).mono ?_; (case hcells => exact cell_strs _ _ _ _ (by simp)); rintro e w' ⟨rfl, rfl⟩))
                    refine bodyPost_ret (v := .tuple #[tokV ⟨33, ⟨#[]⟩, k⟩, .int .i64 m]) (by simp [results, Tryz.results66, go_sem]) rfl ⟨cut_ret ?_, ((Below.refl _ _).alloc (Nat.le_refl _) _).alloc (by simp) _⟩
                    rw [unhide HR, if_neg (by simp [ham]), if_neg (by omega)]
        | false =>
          have hlb := hlo
          rw [bt_eq hlt] at hlb
          cases hdi : digB (bt s k) with
          | true =>
            have HT := fun R' h => hide (tokAt_dig hlt hlo hdi (R := R') h)
            have hdb := hdi
            rw [bt_eq hlt] at hdb
            clear hlo hdi
            go_wp2_with (first | (go_at_call 112; refine (isLow_any _ _).mono ?_; rintro e w' ⟨rfl, rfl⟩) | (go_at_call 115; refine (isDigit_any _ _).mono ?_; rintro e w' ⟨rfl, rfl⟩))
            go_loop [6] (fun x => ∃ m : Nat, k ≤ m ∧ m ≤ s.size ∧ scanTo numeB s m = scanTo numeB s k ∧ x = .int .i64 m) (fun x => s.size - (intOf x).toNat)
            case atStart => exact ⟨k, Nat.le_refl _, by omega, rfl, rfl⟩
            case round =>
              obtain ⟨m, hkm, hms, hsc, rfl⟩ := hrel
              have HM := hide hsc
              clear hsc
              by_cases hx : m < s.size ∧ numeB (bt s m) = true
              · obtain ⟨hmt, hml⟩ := hx
                have HS := hide (scanTo_step hmt hml)
                have hor := nume_yes hml
                rw [bt_eq hmt] at hor
                clear hml
                rcases hor with h3 | ⟨h3, h4⟩ | ⟨h3, h4, h5⟩
                all_goals
                  go_wp2_with (first | (go_at_call 112; refine (isLow_any _ _).mono ?_; rintro e w' ⟨rfl, rfl⟩) | (go_at_call 115; refine (isDigit_any _ _).mono ?_; rintro e w' ⟨rfl, rfl⟩))
                  go_round
                  case rel => exact ⟨m + 1, by omega, by omega, by rw [← unhide HS]; exact unhide HM, by go_num⟩
                  case measure => simp [intOf]; omega
              · have hme : m = scanTo numeB s k := by rw [← unhide HM, scanTo_stop hx]
                have HR : Hid (R = (if 0 ≤ numP (s.extract k m) 4294967295 then (⟨48, s.extract k m, k⟩, m) else if (prefR (s.extract k m)).2.2 = true then (⟨47, s.extract k m, k⟩, m) else (⟨33, ⟨#[]⟩, k⟩, m))) := by
                  rw [unhide HC, ← unhide HK]; exact unhide (HT _ (by rw [← hme]))
                clear hme HT HM
                have hy : (∃ h : m < s.size, digB (s[m].toNat : Int) = false ∧ ((s[m].toNat : Int) == 46) = false ∧ ((s[m].toNat : Int) == 47) = false) ∨ ¬ m < s.size := by
                  by_cases h : m < s.size
                  · left; refine ⟨h, ?_⟩; rw [← bt_eq h]; exact nume_no (by simpa [h] using hx)
                  · right; exact h
                clear hx
                have hsz : (s.extract k m).size = m - k := by simp; omega
                rcases hy with ⟨hmt, h3, h4, h5⟩ | hmt
                all_goals
                  by_cases hn : 0 ≤ numP (s.extract k m) 4294967295
                  · cases hpr : (prefR (s.extract k m)).2.2 with
                    | true =>
                      go_wp2_with (first | (go_at_call 112; refine (isLow_any _ _).mono ?_; rintro e w' ⟨rfl, rfl⟩) | (go_at_call 115; refine (isDigit_any _ _).mono ?_; rintro e w' ⟨rfl, rfl⟩) | (go_at_call 116; refine (number_any _ _ _).mono ?_; rintro e w' ⟨rfl, rfl⟩) | (go_at_call 117; refine (prefix_any _ _ ?hsz).mono ?_; (case hsz => (simp; omega)); rintro e w' ⟨rfl, hb⟩; obtain ⟨hc, hf⟩ := bcell hb; have hz : w.heap.size < w'.heap.size := (by have hz' := hb.size; simp at hz'; omega)))
                      refine bodyPost_ret (v := .tuple #[tokV ⟨48, s.extract k m, k⟩, .int .i64 m]) ?_ rfl ⟨cut_ret ?_, ?_⟩
                      · have c0 : w'.cell? ⟨w.heap.size, 0, none⟩ = some (.int .u8 0) := by rw [hc _ _ (by simp)]; simp
                        have c1 : w'.cell? ⟨w.heap.size, 1, none⟩ = some (.string ⟨#[]⟩) := by rw [hc _ _ (by simp)]; simp
                        have c2 : w'.cell? ⟨w.heap.size, 2, none⟩ = some (.int .i64 0) := by rw [hc _ _ (by simp)]; simp
                        simp [results, Tryz.results66, go_sem, c0, c1, c2, hz]
                      · rw [unhide HR, if_pos hn]
                      · exact (((((((Below.refl _ _).alloc (Nat.le_refl _) _).trans (hb.mono (by simp)))).setCell (by simp) _).setCell (by simp) _).setCell (by simp) _).alloc (by simp; omega) _
                    | false =>
                      go_wp2_with (first | (go_at_call 112; refine (isLow_any _ _).mono ?_; rintro e w' ⟨rfl, rfl⟩) | (go_at_call 115; refine (isDigit_any _ _).mono ?_; rintro e w' ⟨rfl, rfl⟩) | (go_at_call 116; refine (number_any _ _ _).mono ?_; rintro e w' ⟨rfl, rfl⟩) | (go_at_call 117; refine (prefix_any _ _ ?hsz).mono ?_; (case hsz => (simp; omega)); rintro e w' ⟨rfl, hb⟩; obtain ⟨hc, hf⟩ := bcell hb; have hz : w.heap.size < w'.heap.size := (by have hz' := hb.size; simp at hz'; omega)))
                      refine bodyPost_ret (v := .tuple #[tokV ⟨48, s.extract k m, k⟩, .int .i64 m]) ?_ rfl ⟨cut_ret ?_, ?_⟩
                      · have c0 : w'.cell? ⟨w.heap.size, 0, none⟩ = some (.int .u8 0) := by rw [hc _ _ (by simp)]; simp
                        have c1 : w'.cell? ⟨w.heap.size, 1, none⟩ = some (.string ⟨#[]⟩) := by rw [hc _ _ (by simp)]; simp
                        have c2 : w'.cell? ⟨w.heap.size, 2, none⟩ = some (.int .i64 0) := by rw [hc _ _ (by simp)]; simp
                        simp [results, Tryz.results66, go_sem, c0, c1, c2, hz]
                      · rw [unhide HR, if_pos hn]
                      · exact (((((((Below.refl _ _).alloc (Nat.le_refl _) _).trans (hb.mono (by simp)))).setCell (by simp) _).setCell (by simp) _).setCell (by simp) _).alloc (by simp; omega) _
                  · cases hpr : (prefR (s.extract k m)).2.2 with
                    | true =>
                      go_wp2_with (first | (go_at_call 112; refine (isLow_any _ _).mono ?_; rintro e w' ⟨rfl, rfl⟩) | (go_at_call 115; refine (isDigit_any _ _).mono ?_; rintro e w' ⟨rfl, rfl⟩) | (go_at_call 116; refine (number_any _ _ _).mono ?_; rintro e w' ⟨rfl, rfl⟩) | (go_at_call 117; refine (prefix_any _ _ ?hsz).mono ?_; (case hsz => (simp; omega)); rintro e w' ⟨rfl, hb⟩; obtain ⟨hc, hf⟩ := bcell hb; have hz : w.heap.size < w'.heap.size := (by have hz' := hb.size; simp at hz'; omega)))
                      refine bodyPost_ret (v := .tuple #[tokV ⟨47, s.extract k m, k⟩, .int .i64 m]) ?_ rfl ⟨cut_ret ?_, ?_⟩
                      · have c0 : w'.cell? ⟨w.heap.size, 0, none⟩ = some (.int .u8 0) := by rw [hc _ _ (by simp)]; simp
                        have c1 : w'.cell? ⟨w.heap.size, 1, none⟩ = some (.string ⟨#[]⟩) := by rw [hc _ _ (by simp)]; simp
                        have c2 : w'.cell? ⟨w.heap.size, 2, none⟩ = some (.int .i64 0) := by rw [hc _ _ (by simp)]; simp
                        simp [results, Tryz.results66, go_sem, c0, c1, c2, hz]
                      · rw [unhide HR, if_neg (by omega), if_pos hpr]
                      · exact (((((((Below.refl _ _).alloc (Nat.le_refl _) _).trans (hb.mono (by simp)))).setCell (by simp) _).setCell (by simp) _).setCell (by simp) _).alloc (by simp; omega) _
                    | false =>
                      go_wp2_with (first | (go_at_call 112; refine (isLow_any _ _).mono ?_; rintro e w' ⟨rfl, rfl⟩) | (go_at_call 115; refine (isDigit_any _ _).mono ?_; rintro e w' ⟨rfl, rfl⟩) | (go_at_call 116; refine (number_any _ _ _).mono ?_; rintro e w' ⟨rfl, rfl⟩) | (go_at_call 117; refine (prefix_any _ _ ?hsz).mono ?_; (case hsz => (simp; omega)); rintro e w' ⟨rfl, hb⟩; obtain ⟨hc, hf⟩ := bcell hb; have hz : w.heap.size < w'.heap.size := (by have hz' := hb.size; simp at hz'; omega)))
                      refine bodyPost_ret (v := .tuple #[tokV ⟨33, ⟨#[]⟩, k⟩, .int .i64 m]) ?_ rfl ⟨cut_ret ?_, ?_⟩
                      · have c0 : w'.cell? ⟨w.heap.size, 0, none⟩ = some (.int .u8 0) := by rw [hc _ _ (by simp)]; simp
                        have c1 : w'.cell? ⟨w.heap.size, 1, none⟩ = some (.string ⟨#[]⟩) := by rw [hc _ _ (by simp)]; simp
                        have c2 : w'.cell? ⟨w.heap.size, 2, none⟩ = some (.int .i64 0) := by rw [hc _ _ (by simp)]; simp
                        simp [results, Tryz.results66, go_sem, c0, c1, c2, hz]
                      · rw [unhide HR, if_neg (by omega), if_neg (by simp [hpr])]
                      · exact (((((((Below.refl _ _).alloc (Nat.le_refl _) _).trans (hb.mono (by simp)))).setCell (by simp) _).setCell (by simp) _).setCell (by simp) _).alloc (by simp; omega) _
          | false =>
            have HT := fun R' h => hide (tokAt_sign hlt hlo hdi (R := R') h)
            have hdb := hdi
            rw [bt_eq hlt] at hdb
            clear hlo hdi
            go_wp2_with (first | (go_at_call 112; refine (isLow_any _ _).mono ?_; rintro e w' ⟨rfl, rfl⟩) | (go_at_call 115; refine (isDigit_any _ _).mono ?_; rintro e w' ⟨rfl, rfl⟩))
            have HR : Hid (R = (if signB (bt s k) = true then (⟨115, s.extract k (k + 1), k⟩, k + 1) else (⟨33, ⟨#[]⟩, k⟩, k + 1))) := by
              rw [unhide HC, ← unhide HK]; exact unhide (HT _ rfl)
            clear HT
            generalize hsg : ({ data := #[61, 59, 44, 123, 125, 91, 93, 40, 41, 124, 42, 63, 43, 45, 60, 46] } : ByteArray) = sg
            have hsz : (sg.size : Int) = 16 := by rw [← hsg]; rfl
            have HG : Hid (signA = sg) := hsg
            clear hsg
            go_loopw [6] (fun x wr => ∃ (j nd : Nat), j ≤ 16 ∧ signTo (bt s k) j ∧ x = .int .i64 j ∧ wr = (w.alloc (.cells #[.int .u8 0, .string ⟨#[]⟩, .int .i64 0] 121)).drewN nd) (fun x _ => 16 - (intOf x).toNat)
            case atStart => exact ⟨0, 0, by omega, fun m hm => absurd hm (by omega), rfl, rfl⟩
            case round =>
              obtain ⟨j, nd, hj, hst, rfl, rfl⟩ := hrel
              have HST := hide hst
              clear hst
              by_cases hjl : j < 16
              · have hj1 : (0 : Int) ≤ (j : Int) := by omega
                have hj2 : (j : Int) < (sg.size : Int) := by omega
                have hj3 : j < sg.size := by omega
                have hk1 : (0 : Int) ≤ (k : Int) := by omega
                have hk2 : (k : Int) < (s.size : Int) := by omega
                have hbj : bt signA j = (sg[j].toNat : Int) := by rw [unhide HG, bt_eq hj3]
                have HBJ := hide hbj
                clear hbj
                cases heq : ((sg[j].toNat : Int) == (s[k].toNat : Int)) with
                | true =>
                  have HY := hide (show signB (bt s k) = true from signB_of hjl (by rw [unhide HBJ, bt_eq hlt]; exact heq))
                  go_wp2_with fail
                  go_quiet (fail)
                  go_wp2
                  refine bodyPost_ret (v := .tuple #[tokV ⟨115, s.extract k (k + 1), k⟩, .int .i64 ((k : Int) + 1)]) (by simp [results, Tryz.results66, go_sem]) rfl ⟨cut_ret (k := k + 1) ?_, ?_⟩
                  · rw [unhide HR, if_pos (unhide HY)]
                  · first | exact below_drewN ((Below.refl _ _).alloc (Nat.le_refl _) _) _ | (exact (((below_drewN ((Below.refl _ _).alloc (Nat.le_refl _) _) _).setCell (by simp) _).setCell (by simp) _).setCell (by simp) _)
                | false =>
                  have HY := hide (signTo_succ (unhide HST) (by rw [unhide HBJ, bt_eq hlt]; exact heq))
                  go_wp2_with fail
                  go_quiet (fail)
                  go_wp2
                  go_roundw
                  case rel => exact ⟨j + 1, _, by omega, unhide HY, by go_num, rfl⟩
                  case measure => simp [intOf]; omega
              · obtain rfl : j = 16 := by omega
                have HN := hide (signB_no (unhide HST))
                go_wp2_with fail
                refine bodyPost_ret (v := .tuple #[tokV ⟨33, ⟨#[]⟩, k⟩, .int .i64 ((k : Int) + 1)]) (by simp [results, Tryz.results66, go_sem]) rfl ⟨cut_ret (k := k + 1) ?_, ?_⟩
                · rw [unhide HR, if_neg (by rw [unhide HN]; simp)]
                · first | exact below_drewN ((Below.refl _ _).alloc (Nat.le_refl _) _) _ | (exact (((below_drewN ((Below.refl _ _).alloc (Nat.le_refl _) _) _).setCell (by simp) _).setCell (by simp) _).setCell (by simp) _)
    · have hke : k = s.size := by omega
      have HR : Hid (R = (⟨46, ⟨#[]⟩, s.size⟩, k)) := by
        rw [unhide HC, ← unhide HB, scanTo_stop (by omega)]; unfold tokAt; rw [if_pos (by omega)]; rfl
      clear hke
      go_wp2_with (first | (go_at_call 112; refine (isLow_any _ _).mono ?_; rintro e w' ⟨rfl, rfl⟩) | (go_at_call 115; refine (isDigit_any _ _).mono ?_; rintro e w' ⟨rfl, rfl⟩))
      refine bodyPost_ret (v := .tuple #[tokV ⟨46, ⟨#[]⟩, s.size⟩, .int .i64 k]) (by simp [results, Tryz.results66, go_sem]) rfl ⟨cut_ret ?_, (Below.refl _ _).alloc (Nat.le_refl _) _⟩
      exact unhide HR
end Go.Proofs.YtgdeeodifnegiaaGreatDoor.rf
