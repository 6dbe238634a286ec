/- The reference's cut: the token at a place of a text behind blanks, and the place behind it; old memory stays as it is. -/
import Derived.Test.YtgdeeodifnegiaaGreatDoorRefA
import Derived.WalkKit
import Derived.WalkSpells
import Derived.WalkLawsBesides
import Derived.Deep.AppendLies
import Derived.Laws.AppendOwnNone
set_option maxRecDepth 100000
set_option maxHeartbeats 4000000
namespace Go.Proofs.YtgdeeodifnegiaaGreatDoor.rf
open Go.RowKit
abbrev tokV (t : Tok) : Value := .agg #[.int .u8 t.kind, .string t.text, .int .i64 t.at_]
theorem cell_strs (w : World) (l : List ByteArray) (T b : Nat) (hb : b = w.heap.size) (j : Nat) (h : j < l.length) :
  (w.alloc (.cells (l.map Value.string).toArray T)).cell? ⟨b, j, none⟩ = some (.string l[j]) := by
 subst hb
 simp [h]
theorem cut_ret {R : Tok × Nat} {t : Tok} {k : Nat} (h : R = (t, k)) : Ending.returned (.tuple #[tokV t, .int .i64 k]) = .returned (.tuple #[tokV R.1, .int .i64 R.2]) := by rw [h]
theorem nume_yes {n : Int} (h : numeB n = true) : digB n = true ∨ (digB n = false ∧ (n == 46) = true) ∨ (digB n = false ∧ (n == 46) = false ∧ (n == 47) = true) := by
 unfold numeB at h
 cases h1 : digB n <;> cases h2 : (n == 46) <;> simp_all
theorem nume_no {n : Int} (h : numeB n = false) : digB n = false ∧ (n == 46) = false ∧ (n == 47) = false := by
 unfold numeB at h
 simpa [and_assoc] using h
theorem tokAt_dig {s : ByteArray} {k : Nat} {R : Tok × Nat} (h : k < s.size) (hl : lowB (bt s k) = false) (hd : digB (bt s k) = true)
  (hr : R = (if 0 ≤ numP (s.extract k (scanTo numeB s k)) 4294967295 then (⟨48, s.extract k (scanTo numeB s k), k⟩, scanTo numeB s k)
   else if (prefR (s.extract k (scanTo numeB s k))).2.2 = true then (⟨47, s.extract k (scanTo numeB s k), k⟩, scanTo numeB s k)
   else (⟨33, ⟨#[]⟩, k⟩, scanTo numeB s k))) : tokAt s k = R := by
 rw [hr]; unfold tokAt; rw [if_neg (by omega), if_neg (by simp [hl]), if_pos hd]
theorem tokAt_sign {s : ByteArray} {k : Nat} {R : Tok × Nat} (h : k < s.size) (hl : lowB (bt s k) = false) (hd : digB (bt s k) = false)
  (hr : R = (if signB (bt s k) = true then (⟨115, s.extract k (k + 1), k⟩, k + 1) else (⟨33, ⟨#[]⟩, k⟩, k + 1))) : tokAt s k = R := by
 rw [hr]; unfold tokAt; rw [if_neg (by omega), if_neg (by simp [hl]), if_neg (by simp [hd])]
theorem tokAt_low {s : ByteArray} {k : Nat} {R : Tok × Nat} (h : k < s.size) (hl : lowB (bt s k) = true)
  (hr : R = (if amongB wordsL (s.extract k (scanTo lowB s k)) = true then (⟨107, s.extract k (scanTo lowB s k), k⟩, scanTo lowB s k)
   else if scanTo lowB s k - k ≤ 8 then (⟨110, s.extract k (scanTo lowB s k), k⟩, scanTo lowB s k)
   else (⟨33, ⟨#[]⟩, k⟩, scanTo lowB s k))) : tokAt s k = R := by
 rw [hr]; unfold tokAt; rw [if_neg (by omega), if_pos hl]
theorem cut_any (s : ByteArray) (i : Nat) (w : World) (hs : s.size ≤ 1000) (hi : i ≤ s.size) :
  Calls Tryz.prog 66 #[.string s, .int .i64 i] w fun e w' => e = .returned (.tuple #[tokV (cutP s i).1, .int .i64 (cutP s i).2]) ∧ Below w.heap.size w w' := by
 have HC : Hid (cutP s i = tokAt s (scanTo blankB s i)) := rfl
 generalize cutP s i = R at *
 go_enter Tryz.func66, Tryz.ntmps66
 go_wp2
 go_loop [1] (fun x => ∃ k : Nat, k ≤ s.size ∧ scanTo blankB s k = scanTo blankB s i ∧ x = .int .i64 k) (fun x => s.size - (intOf x).toNat)
 case atStart => exact ⟨i, hi, rfl, rfl⟩
 case round =>
  obtain ⟨k, hk, hsc, rfl⟩ := hrel
  have HB := hide hsc
  clear hsc
  by_cases hlt : k < s.size
  ·cases hbl : blankB (bt s k) with
   | true =>
    have HS := hide (scanTo_step hlt hbl)
    rw [bt_eq hlt] at hbl
    have hor : ((s[k].toNat : Int) == 32) = true ∨ (((s[k].toNat : Int) == 32) = false ∧ ((s[k].toNat : Int) == 10) = true) := by
     unfold blankB at hbl
     cases h1 : ((s[k].toNat : Int) == 32) <;> simp_all
    clear hbl
    rcases hor with h1 | ⟨h1, h2⟩
    all_goals
     go_wp2
     go_round
     case rel => exact ⟨k + 1, by omega, by rw [← unhide HS]; exact unhide HB, by go_num⟩
     case measure => simp [intOf]; omega
   | false =>
    have HK := hide (show k = scanTo blankB s i by rw [← unhide HB, scanTo_stop (by simp [hbl])])
    rw [bt_eq hlt] at hbl
    obtain ⟨h1, h2⟩ : ((s[k].toNat : Int) == 32) = false ∧ ((s[k].toNat : Int) == 10) = false := by
     unfold blankB at hbl
     simpa using hbl
    clear hbl
    cases hlo : lowB (bt s k) with
    | true =>
     have HT := fun R' h => hide (tokAt_low hlt hlo (R := R') h)
     have hlb := hlo
     rw [bt_eq hlt] at hlb
     clear hlo
     go_wp2_with (go_at_call 112; refine (isLow_any _ _).mono ?_; rintro e w' ⟨rfl, rfl⟩)
     go_loop [6] (fun x => ∃ m : Nat, k ≤ m ∧ m ≤ s.size ∧ scanTo lowB s m = scanTo lowB s k ∧ x = .int .i64 m) (fun x => s.size - (intOf x).toNat)
     case atStart => exact ⟨k, Nat.le_refl _, by omega, rfl, rfl⟩
     case round =>
      obtain ⟨m, hkm, hms, hsc, rfl⟩ := hrel
      have HM := hide hsc
      clear hsc
      by_cases hx : m < s.size ∧ lowB (bt s m) = true
      ·obtain ⟨hmt, hml⟩ := hx
       have HS := hide (scanTo_step hmt hml)
       rw [bt_eq hmt] at hml
       go_wp2_with (go_at_call 112; refine (isLow_any _ _).mono ?_; rintro e w' ⟨rfl, rfl⟩)
       go_round
       case rel => exact ⟨m + 1, by omega, by omega, by rw [← unhide HS]; exact unhide HM, by go_num⟩
       case measure => simp [intOf]; omega
      ·have hme : m = scanTo lowB s k := by rw [← unhide HM, scanTo_stop hx]
       have HR : Hid (R = (if amongB wordsL (s.extract k m) = true then (⟨107, s.extract k m, k⟩, m) else if m - k ≤ 8 then (⟨110, s.extract k m, k⟩, m) else (⟨33, ⟨#[]⟩, k⟩, m))) := by
        rw [unhide HC, ← unhide HK]; exact unhide (HT _ (by rw [← hme]))
       clear hme HT HM
       have hy : (∃ h : m < s.size, lowB (s[m].toNat : Int) = false) ∨ ¬ m < s.size := by
        by_cases h : m < s.size
        ·left; refine ⟨h, ?_⟩; rw [← bt_eq h]; simpa [h] using hx
        ·right; exact h
       clear hx
       have hsz : (s.extract k m).size = m - k := by simp; omega
       rcases hy with ⟨hmt, hml⟩ | hmt
       all_goals
        cases ham : amongB wordsL (s.extract k m) with
        | true =>
         go_wp2_with (first | (go_at_call 112; refine (isLow_any _ _).mono ?_; rintro e w' ⟨rfl, rfl⟩) | (go_at_call 114; refine (words_any _).mono ?_; rintro e w' ⟨rfl, rfl⟩) | (go_at_call 113; refine (among_any _ wordsL _ _ _ _ rfl (by decide) ?hcells).mono ?_; (case hcells => exact cell_strs _ _ _ _ (by simp)); rintro e w' ⟨rfl, rfl⟩))
         refine bodyPost_ret (v := .tuple #[tokV ⟨107, s.extract k m, k⟩, .int .i64 m]) (by simp [results, Tryz.results66, go_sem]) rfl ⟨cut_ret ?_, ((Below.refl _ _).alloc (Nat.le_refl _) _).alloc (by simp) _⟩
         rw [unhide HR, if_pos ham]
        | false =>
         by_cases h8 : m - k ≤ 8
         ·go_wp2_with (first | (go_at_call 112; refine (isLow_any _ _).mono ?_; rintro e w' ⟨rfl, rfl⟩) | (go_at_call 114; refine (words_any _).mono ?_; rintro e w' ⟨rfl, rfl⟩) | (go_at_call 113; refine (among_any _ wordsL _ _ _ _ rfl (by decide) ?hcells).mono ?_; (case hcells => exact cell_strs _ _ _ _ (by simp)); rintro e w' ⟨rfl, rfl⟩))
          refine bodyPost_ret (v := .tuple #[tokV ⟨110, s.extract k m, k⟩, .int .i64 m]) (by simp [results, Tryz.results66, go_sem]) rfl ⟨cut_ret ?_, ((Below.refl _ _).alloc (Nat.le_refl _) _).alloc (by simp) _⟩
          rw [unhide HR, if_neg (by simp [ham]), if_pos h8]
         ·go_wp2_with (first | (go_at_call 112; refine (isLow_any _ _).mono ?_; rintro e w' ⟨rfl, rfl⟩) | (go_at_call 114; refine (words_any _).mono ?_; rintro e w' ⟨rfl, rfl⟩) | (go_at_call 113; refine (among_any _ wordsL _ _ _ _ rfl (by decide) ?hcells).mono ?_; (case hcells => exact cell_strs _ _ _ _ (by simp)); rintro e w' ⟨rfl, rfl⟩))
          refine bodyPost_ret (v := .tuple #[tokV ⟨33, ⟨#[]⟩, k⟩, .int .i64 m]) (by simp [results, Tryz.results66, go_sem]) rfl ⟨cut_ret ?_, ((Below.refl _ _).alloc (Nat.le_refl _) _).alloc (by simp) _⟩
          rw [unhide HR, if_neg (by simp [ham]), if_neg (by omega)]
    | false =>
     have hlb := hlo
     rw [bt_eq hlt] at hlb
     cases hdi : digB (bt s k) with
     | true =>
      have HT := fun R' h => hide (tokAt_dig hlt hlo hdi (R := R') h)
      have hdb := hdi
      rw [bt_eq hlt] at hdb
      clear hlo hdi
      go_wp2_with (first | (go_at_call 112; refine (isLow_any _ _).mono ?_; rintro e w' ⟨rfl, rfl⟩) | (go_at_call 115; refine (isDigit_any _ _).mono ?_; rintro e w' ⟨rfl, rfl⟩))
      go_loop [6] (fun x => ∃ m : Nat, k ≤ m ∧ m ≤ s.size ∧ scanTo numeB s m = scanTo numeB s k ∧ x = .int .i64 m) (fun x => s.size - (intOf x).toNat)
      case atStart => exact ⟨k, Nat.le_refl _, by omega, rfl, rfl⟩
      case round =>
       obtain ⟨m, hkm, hms, hsc, rfl⟩ := hrel
       have HM := hide hsc
       clear hsc
       by_cases hx : m < s.size ∧ numeB (bt s m) = true
       ·obtain ⟨hmt, hml⟩ := hx
        have HS := hide (scanTo_step hmt hml)
        have hor := nume_yes hml
        rw [bt_eq hmt] at hor
        clear hml
        rcases hor with h3 | ⟨h3, h4⟩ | ⟨h3, h4, h5⟩
        all_goals
         go_wp2_with (first | (go_at_call 112; refine (isLow_any _ _).mono ?_; rintro e w' ⟨rfl, rfl⟩) | (go_at_call 115; refine (isDigit_any _ _).mono ?_; rintro e w' ⟨rfl, rfl⟩))
         go_round
         case rel => exact ⟨m + 1, by omega, by omega, by rw [← unhide HS]; exact unhide HM, by go_num⟩
         case measure => simp [intOf]; omega
       ·have hme : m = scanTo numeB s k := by rw [← unhide HM, scanTo_stop hx]
        have HR : Hid (R = (if 0 ≤ numP (s.extract k m) 4294967295 then (⟨48, s.extract k m, k⟩, m) else if (prefR (s.extract k m)).2.2 = true then (⟨47, s.extract k m, k⟩, m) else (⟨33, ⟨#[]⟩, k⟩, m))) := by
         rw [unhide HC, ← unhide HK]; exact unhide (HT _ (by rw [← hme]))
        clear hme HT HM
        have hy : (∃ h : m < s.size, digB (s[m].toNat : Int) = false ∧ ((s[m].toNat : Int) == 46) = false ∧ ((s[m].toNat : Int) == 47) = false) ∨ ¬ m < s.size := by
         by_cases h : m < s.size
         ·left; refine ⟨h, ?_⟩; rw [← bt_eq h]; exact nume_no (by simpa [h] using hx)
         ·right; exact h
        clear hx
        have hsz : (s.extract k m).size = m - k := by simp; omega
        rcases hy with ⟨hmt, h3, h4, h5⟩ | hmt
        all_goals
         by_cases hn : 0 ≤ numP (s.extract k m) 4294967295
         ·cases hpr : (prefR (s.extract k m)).2.2 with
          | true =>
           go_wp2_with (first | (go_at_call 112; refine (isLow_any _ _).mono ?_; rintro e w' ⟨rfl, rfl⟩) | (go_at_call 115; refine (isDigit_any _ _).mono ?_; rintro e w' ⟨rfl, rfl⟩) | (go_at_call 116; refine (number_any _ _ _).mono ?_; rintro e w' ⟨rfl, rfl⟩) | (go_at_call 117; refine (prefix_any _ _ ?hsz).mono ?_; (case hsz => (simp; omega)); rintro e w' ⟨rfl, hb⟩; obtain ⟨hc, hf⟩ := bcell hb; have hz : w.heap.size < w'.heap.size := (by have hz' := hb.size; simp at hz'; omega)))
           refine bodyPost_ret (v := .tuple #[tokV ⟨48, s.extract k m, k⟩, .int .i64 m]) ?_ rfl ⟨cut_ret ?_, ?_⟩
           ·have c0 : w'.cell? ⟨w.heap.size, 0, none⟩ = some (.int .u8 0) := by rw [hc _ _ (by simp)]; simp
            have c1 : w'.cell? ⟨w.heap.size, 1, none⟩ = some (.string ⟨#[]⟩) := by rw [hc _ _ (by simp)]; simp
            have c2 : w'.cell? ⟨w.heap.size, 2, none⟩ = some (.int .i64 0) := by rw [hc _ _ (by simp)]; simp
            simp [results, Tryz.results66, go_sem, c0, c1, c2, hz]
           ·rw [unhide HR, if_pos hn]
           ·exact (((((((Below.refl _ _).alloc (Nat.le_refl _) _).trans (hb.mono (by simp)))).setCell (by simp) _).setCell (by simp) _).setCell (by simp) _).alloc (by simp; omega) _
          | false =>
           go_wp2_with (first | (go_at_call 112; refine (isLow_any _ _).mono ?_; rintro e w' ⟨rfl, rfl⟩) | (go_at_call 115; refine (isDigit_any _ _).mono ?_; rintro e w' ⟨rfl, rfl⟩) | (go_at_call 116; refine (number_any _ _ _).mono ?_; rintro e w' ⟨rfl, rfl⟩) | (go_at_call 117; refine (prefix_any _ _ ?hsz).mono ?_; (case hsz => (simp; omega)); rintro e w' ⟨rfl, hb⟩; obtain ⟨hc, hf⟩ := bcell hb; have hz : w.heap.size < w'.heap.size := (by have hz' := hb.size; simp at hz'; omega)))
           refine bodyPost_ret (v := .tuple #[tokV ⟨48, s.extract k m, k⟩, .int .i64 m]) ?_ rfl ⟨cut_ret ?_, ?_⟩
           ·have c0 : w'.cell? ⟨w.heap.size, 0, none⟩ = some (.int .u8 0) := by rw [hc _ _ (by simp)]; simp
            have c1 : w'.cell? ⟨w.heap.size, 1, none⟩ = some (.string ⟨#[]⟩) := by rw [hc _ _ (by simp)]; simp
            have c2 : w'.cell? ⟨w.heap.size, 2, none⟩ = some (.int .i64 0) := by rw [hc _ _ (by simp)]; simp
            simp [results, Tryz.results66, go_sem, c0, c1, c2, hz]
           ·rw [unhide HR, if_pos hn]
           ·exact (((((((Below.refl _ _).alloc (Nat.le_refl _) _).trans (hb.mono (by simp)))).setCell (by simp) _).setCell (by simp) _).setCell (by simp) _).alloc (by simp; omega) _
         ·cases hpr : (prefR (s.extract k m)).2.2 with
          | true =>
           go_wp2_with (first | (go_at_call 112; refine (isLow_any _ _).mono ?_; rintro e w' ⟨rfl, rfl⟩) | (go_at_call 115; refine (isDigit_any _ _).mono ?_; rintro e w' ⟨rfl, rfl⟩) | (go_at_call 116; refine (number_any _ _ _).mono ?_; rintro e w' ⟨rfl, rfl⟩) | (go_at_call 117; refine (prefix_any _ _ ?hsz).mono ?_; (case hsz => (simp; omega)); rintro e w' ⟨rfl, hb⟩; obtain ⟨hc, hf⟩ := bcell hb; have hz : w.heap.size < w'.heap.size := (by have hz' := hb.size; simp at hz'; omega)))
           refine bodyPost_ret (v := .tuple #[tokV ⟨47, s.extract k m, k⟩, .int .i64 m]) ?_ rfl ⟨cut_ret ?_, ?_⟩
           ·have c0 : w'.cell? ⟨w.heap.size, 0, none⟩ = some (.int .u8 0) := by rw [hc _ _ (by simp)]; simp
            have c1 : w'.cell? ⟨w.heap.size, 1, none⟩ = some (.string ⟨#[]⟩) := by rw [hc _ _ (by simp)]; simp
            have c2 : w'.cell? ⟨w.heap.size, 2, none⟩ = some (.int .i64 0) := by rw [hc _ _ (by simp)]; simp
            simp [results, Tryz.results66, go_sem, c0, c1, c2, hz]
           ·rw [unhide HR, if_neg (by omega), if_pos hpr]
           ·exact (((((((Below.refl _ _).alloc (Nat.le_refl _) _).trans (hb.mono (by simp)))).setCell (by simp) _).setCell (by simp) _).setCell (by simp) _).alloc (by simp; omega) _
          | false =>
           go_wp2_with (first | (go_at_call 112; refine (isLow_any _ _).mono ?_; rintro e w' ⟨rfl, rfl⟩) | (go_at_call 115; refine (isDigit_any _ _).mono ?_; rintro e w' ⟨rfl, rfl⟩) | (go_at_call 116; refine (number_any _ _ _).mono ?_; rintro e w' ⟨rfl, rfl⟩) | (go_at_call 117; refine (prefix_any _ _ ?hsz).mono ?_; (case hsz => (simp; omega)); rintro e w' ⟨rfl, hb⟩; obtain ⟨hc, hf⟩ := bcell hb; have hz : w.heap.size < w'.heap.size := (by have hz' := hb.size; simp at hz'; omega)))
           refine bodyPost_ret (v := .tuple #[tokV ⟨33, ⟨#[]⟩, k⟩, .int .i64 m]) ?_ rfl ⟨cut_ret ?_, ?_⟩
           ·have c0 : w'.cell? ⟨w.heap.size, 0, none⟩ = some (.int .u8 0) := by rw [hc _ _ (by simp)]; simp
            have c1 : w'.cell? ⟨w.heap.size, 1, none⟩ = some (.string ⟨#[]⟩) := by rw [hc _ _ (by simp)]; simp
            have c2 : w'.cell? ⟨w.heap.size, 2, none⟩ = some (.int .i64 0) := by rw [hc _ _ (by simp)]; simp
            simp [results, Tryz.results66, go_sem, c0, c1, c2, hz]
           ·rw [unhide HR, if_neg (by omega), if_neg (by simp [hpr])]
           ·exact (((((((Below.refl _ _).alloc (Nat.le_refl _) _).trans (hb.mono (by simp)))).setCell (by simp) _).setCell (by simp) _).setCell (by simp) _).alloc (by simp; omega) _
     | false =>
      have HT := fun R' h => hide (tokAt_sign hlt hlo hdi (R := R') h)
      have hdb := hdi
      rw [bt_eq hlt] at hdb
      clear hlo hdi
      go_wp2_with (first | (go_at_call 112; refine (isLow_any _ _).mono ?_; rintro e w' ⟨rfl, rfl⟩) | (go_at_call 115; refine (isDigit_any _ _).mono ?_; rintro e w' ⟨rfl, rfl⟩))
      have HR : Hid (R = (if signB (bt s k) = true then (⟨115, s.extract k (k + 1), k⟩, k + 1) else (⟨33, ⟨#[]⟩, k⟩, k + 1))) := by
       rw [unhide HC, ← unhide HK]; exact unhide (HT _ rfl)
      clear HT
      generalize hsg : ({ data := #[61, 59, 44, 123, 125, 91, 93, 40, 41, 124, 42, 63, 43, 45, 60, 46] } : ByteArray) = sg
      have hsz : (sg.size : Int) = 16 := by rw [← hsg]; rfl
      have HG : Hid (signA = sg) := hsg
      clear hsg
      go_loopw [6] (fun x wr => ∃ (j nd : Nat), j ≤ 16 ∧ signTo (bt s k) j ∧ x = .int .i64 j ∧ wr = (w.alloc (.cells #[.int .u8 0, .string ⟨#[]⟩, .int .i64 0] 121)).drewN nd) (fun x _ => 16 - (intOf x).toNat)
      case atStart => exact ⟨0, 0, by omega, fun m hm => absurd hm (by omega), rfl, rfl⟩
      case round =>
       obtain ⟨j, nd, hj, hst, rfl, rfl⟩ := hrel
       have HST := hide hst
       clear hst
       by_cases hjl : j < 16
       ·have hj1 : (0 : Int) ≤ (j : Int) := by omega
        have hj2 : (j : Int) < (sg.size : Int) := by omega
        have hj3 : j < sg.size := by omega
        have hk1 : (0 : Int) ≤ (k : Int) := by omega
        have hk2 : (k : Int) < (s.size : Int) := by omega
        have hbj : bt signA j = (sg[j].toNat : Int) := by rw [unhide HG, bt_eq hj3]
        have HBJ := hide hbj
        clear hbj
        cases heq : ((sg[j].toNat : Int) == (s[k].toNat : Int)) with
        | true =>
         have HY := hide (show signB (bt s k) = true from signB_of hjl (by rw [unhide HBJ, bt_eq hlt]; exact heq))
         go_wp2_with fail
         go_quiet (fail)
         go_wp2
         refine bodyPost_ret (v := .tuple #[tokV ⟨115, s.extract k (k + 1), k⟩, .int .i64 ((k : Int) + 1)]) (by simp [results, Tryz.results66, go_sem]) rfl ⟨cut_ret (k := k + 1) ?_, ?_⟩
         ·rw [unhide HR, if_pos (unhide HY)]
         ·first | exact below_drewN ((Below.refl _ _).alloc (Nat.le_refl _) _) _ | (exact (((below_drewN ((Below.refl _ _).alloc (Nat.le_refl _) _) _).setCell (by simp) _).setCell (by simp) _).setCell (by simp) _)
        | false =>
         have HY := hide (signTo_succ (unhide HST) (by rw [unhide HBJ, bt_eq hlt]; exact heq))
         go_wp2_with fail
         go_quiet (fail)
         go_wp2
         go_roundw
         case rel => exact ⟨j + 1, _, by omega, unhide HY, by go_num, rfl⟩
         case measure => simp [intOf]; omega
       ·obtain rfl : j = 16 := by omega
        have HN := hide (signB_no (unhide HST))
        go_wp2_with fail
        refine bodyPost_ret (v := .tuple #[tokV ⟨33, ⟨#[]⟩, k⟩, .int .i64 ((k : Int) + 1)]) (by simp [results, Tryz.results66, go_sem]) rfl ⟨cut_ret (k := k + 1) ?_, ?_⟩
        ·rw [unhide HR, if_neg (by rw [unhide HN]; simp)]
        ·first | exact below_drewN ((Below.refl _ _).alloc (Nat.le_refl _) _) _ | (exact (((below_drewN ((Below.refl _ _).alloc (Nat.le_refl _) _) _).setCell (by simp) _).setCell (by simp) _).setCell (by simp) _)
  ·have hke : k = s.size := by omega
   have HR : Hid (R = (⟨46, ⟨#[]⟩, s.size⟩, k)) := by
    rw [unhide HC, ← unhide HB, scanTo_stop (by omega)]; unfold tokAt; rw [if_pos (by omega)]; rfl
   clear hke
   go_wp2_with (first | (go_at_call 112; refine (isLow_any _ _).mono ?_; rintro e w' ⟨rfl, rfl⟩) | (go_at_call 115; refine (isDigit_any _ _).mono ?_; rintro e w' ⟨rfl, rfl⟩))
   refine bodyPost_ret (v := .tuple #[tokV ⟨46, ⟨#[]⟩, s.size⟩, .int .i64 k]) (by simp [results, Tryz.results66, go_sem]) rfl ⟨cut_ret ?_, (Below.refl _ _).alloc (Nat.le_refl _) _⟩
   exact unhide HR
end Go.Proofs.YtgdeeodifnegiaaGreatDoor.rf
namespace Go.Proofs.YtgdeeodifnegiaaGreatDoor
open Go.RowKit
structure Fr (O : Nat → Prop) (w : World) (O' : Nat → Prop) (w' : World) : Prop where
 os : w'.os = w.os
 tape : w'.tape = w.tape
 output : w'.output = w.output
 size : w.heap.size ≤ w'.heap.size
 block : ∀ k, k < w.heap.size → ¬ O k → w'.heap[k]? = w.heap[k]?
 own : ∀ k, O' k → O k ∨ w.heap.size ≤ k
theorem Fr.refl (O : Nat → Prop) (w : World) : Fr O w O w := ⟨rfl, rfl, rfl, Nat.le_refl _, fun _ _ _ => rfl, fun _ h => Or.inl h⟩
theorem Fr.trans {O O1 O2 : Nat → Prop} {w w1 w2 : World} (h : Fr O w O1 w1) (g : Fr O1 w1 O2 w2) : Fr O w O2 w2 :=
 ⟨g.os.trans h.os, g.tape.trans h.tape, g.output.trans h.output, Nat.le_trans h.size g.size,
  fun k hk hn => (g.block k (Nat.lt_of_lt_of_le hk h.size) (fun ho => by rcases h.own k ho with h1 | h1; exact hn h1; omega)).trans (h.block k hk hn),
  fun k hk => by rcases g.own k hk with h1 | h1; exact h.own k h1; right; have := h.size; omega⟩
theorem Fr.of_below {O : Nat → Prop} {w w' : World} (h : Below w.heap.size w w') : Fr O w O w' :=
 ⟨h.os, h.tape, h.output, h.size, fun k hk _ => h.block k hk, fun _ h => Or.inl h⟩
theorem Fr.below {O O' : Nat → Prop} {w w' w'' : World} (h : Fr O w O' w') (g : Below w'.heap.size w' w'') : Fr O w O' w'' := h.trans (Fr.of_below g)
theorem Fr.alloc {O O' : Nat → Prop} {w w' : World} (h : Fr O w O' w') (o : Obj) : Fr O w O' (w'.alloc o) := h.below ((Below.refl _ _).alloc (Nat.le_refl _) _)
theorem Fr.drew {O O' : Nat → Prop} {w w' : World} (h : Fr O w O' w') : Fr O w O' w'.drew := ⟨h.os, h.tape, h.output, h.size, h.block, h.own⟩
theorem Fr.drewN {O O' : Nat → Prop} {w w' : World} (h : Fr O w O' w') (n : Nat) : Fr O w O' (w'.drewN n) := h.below (below_drewN (Below.refl _ _) n)
theorem Fr.setCell {O O' : Nat → Prop} {w w' : World} (h : Fr O w O' w') {p : Addr} (hp : O' p.block ∨ w.heap.size ≤ p.block) (v : Value) : Fr O w O' (w'.setCell p v) :=
 ⟨h.os, h.tape, h.output, by simpa [World.setCell] using h.size,
  fun k hk hn => (Below.heap_setCell _ _ _ _ (fun e => by
   rcases hp with h1 | h1
   ·rw [← e] at h1; rcases h.own k h1 with h2 | h2; exact hn h2; omega
   ·omega)).trans (h.block k hk hn), h.own⟩
theorem Fr.grown {O O' : Nat → Prop} {w w' w'' : World} {row : Option Nat} (h : Fr O w O' w') (hg : w'.grownBy w'' row) (hr : ∀ k, row = some k → O' k ∨ w.heap.size ≤ k) : Fr O w O' w'' :=
 ⟨hg.os.trans h.os, hg.tape.trans h.tape, hg.output.trans h.output, Nat.le_trans h.size hg.size,
  fun k hk hn => (hg.block k (Nat.lt_of_lt_of_le hk h.size) (fun e => by
   rcases hr k e.symm with h1 | h1
   ·rcases h.own k h1 with h2 | h2; exact hn h2; omega
   ·omega)).trans (h.block k hk hn), h.own⟩
theorem Fr.reown {O O' O2 : Nat → Prop} {w w' : World} (h : Fr O w O' w') (g : ∀ k, O2 k → O' k ∨ w.heap.size ≤ k) : Fr O w O2 w' :=
 ⟨h.os, h.tape, h.output, h.size, h.block, fun k hk => by rcases g k hk with h1 | h1; exact h.own k h1; right; exact h1⟩
theorem cell_of_heap {w : World} {b o : Nat} {c : Array Value} {T : TypeId} {z : Nat × Nat} (h : w.heap[b]? = some (.cells c T z)) : w.cell? ⟨b, o, none⟩ = c[o]? := by
 simp [World.cell?, h]
theorem cells5 {w : World} {b : Nat} {v0 v1 v2 v3 v4 : Value} {T : TypeId} {z : Nat × Nat} (h : w.heap[b]? = some (.cells #[v0, v1, v2, v3, v4] T z)) : w.cell? ⟨b, 0, none⟩ = some v0 ∧ w.cell? ⟨b, 1, none⟩ = some v1 ∧ w.cell? ⟨b, 2, none⟩ = some v2 ∧ w.cell? ⟨b, 3, none⟩ = some v3 ∧ w.cell? ⟨b, 4, none⟩ = some v4 := ⟨cell_of_heap h, cell_of_heap h, cell_of_heap h, cell_of_heap h, cell_of_heap h⟩
theorem cells10 {w : World} {b : Nat} {v0 v1 v2 v3 v4 v5 v6 v7 v8 v9 : Value} {T : TypeId} {z : Nat × Nat} (h : w.heap[b]? = some (.cells #[v0, v1, v2, v3, v4, v5, v6, v7, v8, v9] T z)) : w.cell? ⟨b, 0, none⟩ = some v0 ∧ w.cell? ⟨b, 1, none⟩ = some v1 ∧ w.cell? ⟨b, 2, none⟩ = some v2 ∧ w.cell? ⟨b, 3, none⟩ = some v3 ∧ w.cell? ⟨b, 4, none⟩ = some v4 ∧ w.cell? ⟨b, 5, none⟩ = some v5 ∧ w.cell? ⟨b, 6, none⟩ = some v6 ∧ w.cell? ⟨b, 7, none⟩ = some v7 ∧ w.cell? ⟨b, 8, none⟩ = some v8 ∧ w.cell? ⟨b, 9, none⟩ = some v9 := ⟨cell_of_heap h, cell_of_heap h, cell_of_heap h, cell_of_heap h, cell_of_heap h, cell_of_heap h, cell_of_heap h, cell_of_heap h, cell_of_heap h, cell_of_heap h⟩
theorem frozen_of_heap {w : World} {b o : Nat} {c : Array Value} {T : TypeId} (h : w.heap[b]? = some (.cells c T (0, 0))) : w.frozen? ⟨b, o, none⟩ = false := by
 simp [World.frozen?, h]
theorem heap_set {w : World} {b o : Nat} {c : Array Value} {T : TypeId} {z : Nat × Nat} {v : Value} (h : w.heap[b]? = some (.cells c T z)) :
  (w.setCell ⟨b, o, none⟩ v).heap[b]? = some (.cells (c.setIfInBounds o v) T z) := by
 simp [World.setCell, Array.getElem?_modify, h]
theorem heap_set_other {w : World} {b : Nat} {p : Addr} {v : Value} (h : b ≠ p.block) : (w.setCell p v).heap[b]? = w.heap[b]? := Below.heap_setCell _ _ _ _ h
theorem heap_lt {w : World} {b : Nat} {o : Obj} (h : w.heap[b]? = some o) : b < w.heap.size := by
 rcases Nat.lt_or_ge b w.heap.size with h1 | h1
 ·exact h1
 ·rw [Array.getElem?_eq_none h1] at h; cases h
theorem owns_of {w w' : World} {base : Nat} {e : TypeId} {size : Nat} {v : Value} {n : Nat} {xs : List Value} (h : w.ownsRow base e size v n xs) (hk : ∀ k, v.ownBlock = some k → w'.heap[k]? = w.heap[k]?) : w'.ownsRow base e size v n xs := by
 obtain ⟨h1, h2⟩ := h
 refine ⟨h1, ?_⟩
 rcases h2 with h2 | ⟨g, cap, cur, rfl, hb, hg, h3⟩
 ·exact Or.inl h2
 ·exact Or.inr ⟨g, cap, cur, rfl, hb, by rw [hk g rfl]; exact hg, h3⟩
end Go.Proofs.YtgdeeodifnegiaaGreatDoor
namespace Go.Proofs.YtgdeeodifnegiaaGreatDoor
open Go.RowKit
end Go.Proofs.YtgdeeodifnegiaaGreatDoor
namespace Go.Proofs.YtgdeeodifnegiaaGreatDoor.rf
open Go.RowKit
def tokCells (l : List Tok) : List Value := l.flatMap fun t => [.int .u8 t.kind, .string t.text, .int .i64 t.at_]
def boolCells (l : List Bool) : List Value := l.map Value.bool
abbrev psCells (s : ByteArray) (st : PS) (tv lv : Value) : Array Value := #[.string s, .int .u8 st.next.kind, .string st.next.text, .int .i64 st.next.at_, .int .i64 st.i, tv, lv, .int .i64 st.bad, .int .i64 st.opn]
def POwn (pb : Nat) (tv lv : Value) (k : Nat) : Prop := k = pb ∨ tv.ownBlock = some k ∨ lv.ownBlock = some k
structure PAt (w : World) (pb : Nat) (s : ByteArray) (st : PS) (tv lv : Value) : Prop where
 blk : w.heap[pb]? = some (.cells (psCells s st tv lv) 139 (0, 0))
 own1 : w.ownsRow 0 121 3 tv st.taken.length (tokCells st.taken)
 own2 : w.ownsRow 0 4 1 lv st.lines.length (boolCells st.lines)
 ne1 : tv.ownBlock ≠ some pb
 ne2 : lv.ownBlock ≠ some pb
 ne3 : tv.ownBlock = none ∨ tv.ownBlock ≠ lv.ownBlock
abbrev ptr (b : Nat) : Value := .pointer (some ⟨b, 0, none⟩)
theorem is_any {w : World} {pb : Nat} {s : ByteArray} {st : PS} {tv lv : Value} (h : w.heap[pb]? = some (.cells (psCells s st tv lv) 139 (0, 0))) (x : ByteArray) :
  Calls Tryz.prog 67 #[ptr pb, .string x] w fun e w' => e = .returned (.bool (isP st x)) ∧ w' = w := by
 have c1 : w.cell? ⟨pb, 1, none⟩ = some (.int .u8 st.next.kind) := cell_of_heap h
 have c2 : w.cell? ⟨pb, 2, none⟩ = some (.string st.next.text) := cell_of_heap h
 have c7 : w.cell? ⟨pb, 7, none⟩ = some (.int .i64 st.bad) := cell_of_heap h
 clear h
 have HP : Hid (isP st x = (decide (st.bad < 0) && (st.next.kind == 115 || st.next.kind == 107) && (st.next.text.toList == x.toList))) := rfl
 go_enter Tryz.func67, Tryz.ntmps67
 go_wp2
 all_goals (go_ret; exact ⟨ret_bool (by rw [unhide HP]; first | (simp [*]; done) | (rw [decide_eq_false (by omega)]; rfl)), rfl⟩)
theorem PAt.move {w w' : World} {pb : Nat} {s : ByteArray} {st st' : PS} {tv lv : Value} (h : PAt w pb s st tv lv)
  (hb : w'.heap[pb]? = some (.cells (psCells s st' tv lv) 139 (0, 0))) (ho : ∀ k, k ≠ pb → k < w.heap.size → w'.heap[k]? = w.heap[k]?) (e1 : st'.taken = st.taken) (e2 : st'.lines = st.lines) : PAt w' pb s st' tv lv :=
 ⟨hb, by rw [e1]; exact owns_of h.own1 (fun k hk => ho k (fun e => h.ne1 (e ▸ hk)) (h.own1.lt k hk).2), by rw [e2]; exact owns_of h.own2 (fun k hk => ho k (fun e => h.ne2 (e ▸ hk)) (h.own2.lt k hk).2), h.ne1, h.ne2, h.ne3⟩
theorem PAt.stay {w w' : World} {pb : Nat} {s : ByteArray} {st : PS} {tv lv : Value} (h : PAt w pb s st tv lv) (hb : Below w.heap.size w w') : PAt w' pb s st tv lv :=
 h.move (by rw [hb.block pb (heap_lt h.blk)]; exact h.blk) (fun k _ hk => hb.block k hk) rfl rfl
theorem PAt.set {w : World} {pb o : Nat} {s : ByteArray} {st st' : PS} {tv lv v : Value} (h : PAt w pb s st tv lv) (e : psCells s st' tv lv = (psCells s st tv lv).setIfInBounds o v) (e1 : st'.taken = st.taken) (e2 : st'.lines = st.lines) : PAt (w.setCell ⟨pb, o, none⟩ v) pb s st' tv lv :=
 h.move (by rw [heap_set h.blk, ← e]) (fun k hk _ => heap_set_other hk) e1 e2
theorem fail_any {w : World} {pb : Nat} {s : ByteArray} {st : PS} {tv lv : Value} (h : PAt w pb s st tv lv) :
  Calls Tryz.prog 68 #[ptr pb] w fun e w' => e = .returned (.tuple #[]) ∧ PAt w' pb s (failP st) tv lv ∧ Fr (POwn pb tv lv) w (POwn pb tv lv) w' := by
 have c3 : w.cell? ⟨pb, 3, none⟩ = some (.int .i64 st.next.at_) := cell_of_heap h.blk
 have c7 : w.cell? ⟨pb, 7, none⟩ = some (.int .i64 st.bad) := cell_of_heap h.blk
 have z7 : w.frozen? ⟨pb, 7, none⟩ = false := frozen_of_heap h.blk
 have H := hide h
 clear h
 by_cases hb : st.bad < 0
 ·have HP : Hid (failP st = { st with bad := st.next.at_ }) := by unfold Hid failP; rw [if_pos hb]
  go_enter Tryz.func68, Tryz.ntmps68
  go_wp2
  go_end0
  exact ⟨rfl, by rw [unhide HP]; exact (unhide H).set rfl rfl rfl, (Fr.refl _ _).setCell (Or.inl (Or.inl rfl)) _⟩
 ·have HP : Hid (failP st = st) := by unfold Hid failP; rw [if_neg hb]
  go_enter Tryz.func68, Tryz.ntmps68
  go_wp2
  go_end0
  exact ⟨rfl, by rw [unhide HP]; exact unhide H, Fr.refl _ _⟩
@[simp] theorem failP_opn (st : PS) : (failP st).opn = st.opn := by unfold failP; split <;> rfl
@[simp] theorem failP_taken (st : PS) : (failP st).taken = st.taken := by unfold failP; split <;> rfl
@[simp] theorem failP_lines (st : PS) : (failP st).lines = st.lines := by unfold failP; split <;> rfl
@[simp] theorem failP_next (st : PS) : (failP st).next = st.next := by unfold failP; split <;> rfl
@[simp] theorem failP_i (st : PS) : (failP st).i = st.i := by unfold failP; split <;> rfl
theorem opens_any {w : World} {pb : Nat} {s : ByteArray} {st : PS} {tv lv : Value} (h : PAt w pb s st tv lv) :
  Calls Tryz.prog 176 #[ptr pb] w fun e w' => e = .returned (.tuple #[]) ∧ PAt w' pb s (opensP st) tv lv ∧ Fr (POwn pb tv lv) w (POwn pb tv lv) w' := by
 have c8 : w.cell? ⟨pb, 8, none⟩ = some (.int .i64 st.opn) := cell_of_heap h.blk
 have z8 : w.frozen? ⟨pb, 8, none⟩ = false := frozen_of_heap h.blk
 have H := hide h
 clear h
 by_cases hb : st.opn = 8
 ·have hbb : (st.opn == 8) = true := by rw [hb]; rfl
  have HP : Hid (opensP st = { failP st with opn := wrap64 (st.opn + 1) }) := by unfold Hid opensP; rw [if_pos hb]
  clear hb
  go_enter Tryz.func176, Tryz.ntmps176
  go_wp2_with (go_at_call 68; refine (fail_any (unhide H)).mono ?_; rintro e w' ⟨rfl, hp, hfr⟩; have c8' : w'.cell? ⟨pb, 8, none⟩ = some (.int .i64 st.opn) := (by rw [← failP_opn]; exact cell_of_heap hp.blk); have z8' : w'.frozen? ⟨pb, 8, none⟩ = false := (frozen_of_heap hp.blk))
  go_end0
  exact ⟨rfl, by rw [unhide HP]; exact hp.set (by simp) rfl rfl, hfr.setCell (Or.inl (Or.inl rfl)) _⟩
 ·have hbb : (st.opn == 8) = false := beq_eq_false_iff_ne.2 hb
  have HP : Hid (opensP st = { st with opn := wrap64 (st.opn + 1) }) := by unfold Hid opensP; rw [if_neg hb]
  clear hb
  go_enter Tryz.func176, Tryz.ntmps176
  go_wp2_with fail
  go_end0
  exact ⟨rfl, by rw [unhide HP]; exact (unhide H).set rfl rfl rfl, (Fr.refl _ _).setCell (Or.inl (Or.inl rfl)) _⟩
theorem PAt.drew {w : World} {pb : Nat} {s : ByteArray} {st : PS} {tv lv : Value} (h : PAt w pb s st tv lv) : PAt w.drew pb s st tv lv := h.stay (Below.refl _ _).drew
theorem PAt.lined {w : World} {pb g n cap : Nat} {s : ByteArray} {st : PS} {tv : Value} (h : PAt w pb s st tv (.slice (some ⟨g, 0, none⟩) n cap)) (hn : st.lines.length = n) (j : Nat) (b : Bool) :
  PAt (w.setCell ⟨g, j, none⟩ (.bool b)).drew pb s { st with lines := st.lines.set j b } tv (.slice (some ⟨g, 0, none⟩) n cap) := by
 refine PAt.drew ?_
 subst hn
 have hgp : pb ≠ g := fun e => h.ne2 (by rw [e]; rfl)
 refine ⟨?_, ?_, ?_, h.ne1, h.ne2, h.ne3⟩
 ·rw [heap_set_other hgp]; exact h.blk
 ·exact owns_of h.own1 (fun k hk => heap_set_other (fun e => by
   rcases h.ne3 with h3 | h3
   ·rw [h3] at hk; cases hk
   ·exact h3 (by rw [hk, e]; rfl)))
 ·have := (h.own2.stored j (.bool b)).1
  simpa [boolCells, List.map_set] using this
theorem line_any {w : World} {pb : Nat} {s : ByteArray} {st : PS} {tv lv : Value} (h : PAt w pb s st tv lv) (hl : st.bad < 0 → 0 < st.lines.length) (hm : st.lines.length ≤ 1000) :
  Calls Tryz.prog 177 #[ptr pb] w fun e w' => e = .returned (.tuple #[]) ∧ PAt w' pb s (lineP st) tv lv ∧ Fr (POwn pb tv lv) w (POwn pb tv lv) w' := by
 have c6 : w.cell? ⟨pb, 6, none⟩ = some lv := cell_of_heap h.blk
 have c7 : w.cell? ⟨pb, 7, none⟩ = some (.int .i64 st.bad) := cell_of_heap h.blk
 by_cases hb : st.bad < 0
 ·have HP : Hid (lineP st = { st with lines := st.lines.set (st.lines.length - 1) true }) := by unfold Hid lineP; rw [if_pos hb]
  obtain ⟨_, h2⟩ := h.own2
  rcases h2 with ⟨_, h0⟩ | ⟨g, cap, cur, rfl, _, hg, hcap, hmax, hsz, hcur⟩
  ·have := hl hb; omega
  ·have hl' := hl hb
   generalize hn : st.lines.length = n at *
   obtain ⟨m, rfl⟩ : ∃ m, n = m + 1 := ⟨n - 1, by omega⟩
   have H := hide h
   have hcm : ∃ u, w.cell? ⟨g, m, none⟩ = some u := by
    rw [cell_of_heap hg, Array.getElem?_eq_getElem (by omega)]; exact ⟨_, rfl⟩
   obtain ⟨u, hcm⟩ := hcm
   have hzm : w.frozen? ⟨g, m, none⟩ = false := frozen_of_heap hg
   have HG := hide hg
   have HN := hide hn
   have HCUR := hide hcur
   clear hg h hn hcur
   go_enter Tryz.func177, Tryz.ntmps177
   go_wp2
   go_region
   go_end0
   refine ⟨rfl, ?_, ?_⟩
   ·rw [unhide HP]
    exact (unhide H).lined (unhide HN) m true
   ·exact ((Fr.refl _ _).setCell (Or.inl (Or.inr (Or.inr rfl))) _).drew
 ·have HP : Hid (lineP st = st) := by unfold Hid lineP; rw [if_neg hb]
  have H := hide h
  clear h
  go_enter Tryz.func177, Tryz.ntmps177
  go_wp2
  go_end0
  exact ⟨rfl, by rw [unhide HP]; exact unhide H, Fr.refl _ _⟩
end Go.Proofs.YtgdeeodifnegiaaGreatDoor.rf
