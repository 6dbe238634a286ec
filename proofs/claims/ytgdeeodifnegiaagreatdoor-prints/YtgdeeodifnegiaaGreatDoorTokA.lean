/- The tables of words and signs, and what they say (package token). -/
import Derived.Test.YtgdeeodifnegiaaGreatDoorRdrA
import Derived.Deep.MidRow
import Derived.Test.YtgdeeodifnegiaaGreatDoorRefZd
import Derived.Deep.RegionWith
import Derived.Deep.DeepCutAuto
import Derived.Deep.CutBlock
import Derived.Laws.BitsLemmas
import Derived.BigQuiet
import Derived.Ground.Names2Prog
import Derived.Shelf.Strings.Shaped
import Derived.Shelf.Strings.SplitShaped
import Derived.Test.YtgdeeodifnegiaaGreatDoorChecked
set_option maxRecDepth 100000
set_option maxHeartbeats 2000000
namespace Go.Proofs.YtgdeeodifnegiaaGreatDoor
open Go.RowKit
def wordCells : List Value := [.string ⟨#[115, 101, 116]⟩, .int .i64 5, .string ⟨#[119, 97, 121]⟩, .int .i64 6, .string ⟨#[97, 99, 99, 101, 112, 116]⟩, .int .i64 7, .string ⟨#[114, 101, 106, 101, 99, 116]⟩, .int .i64 8, .string ⟨#[112, 114, 101, 102]⟩, .int .i64 9, .string ⟨#[109, 101, 100]⟩, .int .i64 10, .string ⟨#[109, 97, 114, 107]⟩, .int .i64 11, .string ⟨#[117, 110, 109, 97, 114, 107]⟩, .int .i64 12, .string ⟨#[112, 114, 101, 112, 101, 110, 100]⟩, .int .i64 13, .string ⟨#[105, 102]⟩, .int .i64 14, .string ⟨#[116, 104, 101, 110]⟩, .int .i64 15, .string ⟨#[101, 108, 115, 101]⟩, .int .i64 16, .string ⟨#[108, 101, 110]⟩, .int .i64 17, .string ⟨#[111, 114]⟩, .int .i64 18, .string ⟨#[97, 110, 100]⟩, .int .i64 19, .string ⟨#[110, 111, 116]⟩, .int .i64 20, .string ⟨#[110, 101, 116]⟩, .int .i64 21, .string ⟨#[105, 110]⟩, .int .i64 22, .string ⟨#[112, 97, 116, 104]⟩, .int .i64 23, .string ⟨#[108, 105, 107, 101]⟩, .int .i64 24, .string ⟨#[109, 97, 114, 107, 101, 100]⟩, .int .i64 25]
def signCells : List Value := [.int .u8 61, .int .i64 26, .int .u8 59, .int .i64 27, .int .u8 44, .int .i64 28, .int .u8 123, .int .i64 29, .int .u8 125, .int .i64 30, .int .u8 91, .int .i64 31, .int .u8 93, .int .i64 32, .int .u8 40, .int .i64 33, .int .u8 41, .int .i64 34, .int .u8 124, .int .i64 35, .int .u8 42, .int .i64 36, .int .u8 63, .int .i64 37, .int .u8 43, .int .i64 38, .int .u8 45, .int .i64 39, .int .u8 60, .int .i64 40, .int .u8 46, .int .i64 41]
def MaxAt (w : World) : Prop := 3 < w.heap.size ∧ ∃ m, w.cell? ⟨3, 0, none⟩ = some (.int .i64 m)
theorem MaxAt.below {w w' : World} (h : MaxAt w) (hb : Below w.heap.size w w') : MaxAt w' := by
 obtain ⟨hl, m, hm⟩ := h
 exact ⟨Nat.lt_of_lt_of_le hl hb.size, m, (hb.cell (p := ⟨3, 0, none⟩) hl).trans hm⟩
structure TokTabs (w : World) : Prop where
 lw : 2 < w.heap.size
 ls : 0 < w.heap.size
 words : w.rangeAt 2 0 wordCells
 signs : w.rangeAt 0 0 signCells
 mx : MaxAt w
def wd (k : Nat) : ByteArray := wordsL.getD k ⟨#[]⟩
def sgL : List Int := [61, 59, 44, 123, 125, 91, 93, 40, 41, 124, 42, 63, 43, 45, 60, 46]
def sg (k : Nat) : Int := sgL.getD k 0
theorem Tryz.idxW : ∀ k : Nat, k < 21 → ∀ w : World, (Instr.index 384 (.agg wordCells.toArray) (.int .i64 (k : Int))).run Tryz.prog w = .ok (.agg #[.string (wd k), .int .i64 (5 + (k : Int))]) w
 | 0, _, _ => by kernel_rfl
 | 1, _, _ => by kernel_rfl
 | 2, _, _ => by kernel_rfl
 | 3, _, _ => by kernel_rfl
 | 4, _, _ => by kernel_rfl
 | 5, _, _ => by kernel_rfl
 | 6, _, _ => by kernel_rfl
 | 7, _, _ => by kernel_rfl
 | 8, _, _ => by kernel_rfl
 | 9, _, _ => by kernel_rfl
 | 10, _, _ => by kernel_rfl
 | 11, _, _ => by kernel_rfl
 | 12, _, _ => by kernel_rfl
 | 13, _, _ => by kernel_rfl
 | 14, _, _ => by kernel_rfl
 | 15, _, _ => by kernel_rfl
 | 16, _, _ => by kernel_rfl
 | 17, _, _ => by kernel_rfl
 | 18, _, _ => by kernel_rfl
 | 19, _, _ => by kernel_rfl
 | 20, _, _ => by kernel_rfl
 | n + 21, h, _ => absurd h (by omega)
theorem Tryz.idxS : ∀ k : Nat, k < 16 → ∀ w : World, (Instr.index 348 (.agg signCells.toArray) (.int .i64 (k : Int))).run Tryz.prog w = .ok (.agg #[.int .u8 (sg k), .int .i64 (26 + (k : Int))]) w
 | 0, _, _ => by kernel_rfl
 | 1, _, _ => by kernel_rfl
 | 2, _, _ => by kernel_rfl
 | 3, _, _ => by kernel_rfl
 | 4, _, _ => by kernel_rfl
 | 5, _, _ => by kernel_rfl
 | 6, _, _ => by kernel_rfl
 | 7, _, _ => by kernel_rfl
 | 8, _, _ => by kernel_rfl
 | 9, _, _ => by kernel_rfl
 | 10, _, _ => by kernel_rfl
 | 11, _, _ => by kernel_rfl
 | 12, _, _ => by kernel_rfl
 | 13, _, _ => by kernel_rfl
 | 14, _, _ => by kernel_rfl
 | 15, _, _ => by kernel_rfl
 | n + 16, h, _ => absurd h (by omega)
theorem wpList_indexT {P : Program} {w : World} {ops : Array Oper} {rest : List Oper} {o : Oper} {a : Act} {Q : Exit → Act → World → Prop} (hgd : o.guard = none) (t : TypeId) (x i : Operand)
  (ho : o.op = .index t x i) (vx vi v : Value) (hx : a.eval x = vx) (hi : a.eval i = vi) (hr : (Instr.index t vx vi).run P w = .ok v w) (h : wpList P ops Q rest (a.put o.dst v) w) : wpList P ops Q (o :: rest) a w := by
 refine wpList_plain hgd fun K hK => ?_
 unfold Oper.wp execOp
 simp only [ho, Sem.run_bind, Sem.run_pure, hx, hi, hr, Result.andThen_ok, Oper.upon]
 exact hK _ _ h
def wordK (t : ByteArray) : Int := match wordsL.findIdx? (fun x => x.toList == t.toList) with | some i => 5 + (i : Int) | none => 0
def signK (c : Int) : Int := match sgL.findIdx? (fun x => x == c) with | some i => 26 + (i : Int) | none => 0
theorem wordK_at {t : ByteArray} {k : Nat} (hk : k < 21) (h0 : ∀ j, j < k → ((wd j).toList == t.toList) = false) (h1 : ((wd k).toList == t.toList) = true) : wordK t = 5 + (k : Int) := by
 have : wordsL.findIdx? (fun x => x.toList == t.toList) = some k := by
  rw [List.findIdx?_eq_some_iff_getElem]
  have hl : wordsL.length = 21 := rfl
  refine ⟨by omega, ?_, fun j hj => ?_⟩
  ·have : wordsL[k]'(by omega) = wd k := by simp [wd, List.getD, hl, hk]
   rw [this]; exact h1
  ·have : wordsL[j]'(by omega) = wd j := by simp [wd, List.getD, hl, show j < 21 by omega]
   rw [this, h0 j hj]; simp
 rw [wordK, this]
theorem wordK_none {t : ByteArray} (h0 : ∀ j, j < 21 → ((wd j).toList == t.toList) = false) : wordK t = 0 := by
 have : wordsL.findIdx? (fun x => x.toList == t.toList) = none := by
  rw [List.findIdx?_eq_none_iff]
  intro x hx
  obtain ⟨j, hj, rfl⟩ := List.getElem_of_mem hx
  have hl : wordsL.length = 21 := rfl
  have : wordsL[j] = wd j := by simp [wd, List.getD, hj]
  rw [this]; exact h0 j (by omega)
 rw [wordK, this]
theorem signK_at {c : Int} {k : Nat} (hk : k < 16) (h0 : ∀ j, j < k → (sg j == c) = false) (h1 : (sg k == c) = true) : signK c = 26 + (k : Int) := by
 have : sgL.findIdx? (fun x => x == c) = some k := by
  rw [List.findIdx?_eq_some_iff_getElem]
  have hl : sgL.length = 16 := rfl
  refine ⟨by omega, ?_, fun j hj => ?_⟩
  ·have : sgL[k]'(by omega) = sg k := by simp [sg, List.getD, hl, hk]
   rw [this]; exact h1
  ·have : sgL[j]'(by omega) = sg j := by simp [sg, List.getD, hl, show j < 16 by omega]
   rw [this, h0 j hj]; simp
 rw [signK, this]
theorem signK_none {c : Int} (h0 : ∀ j, j < 16 → (sg j == c) = false) : signK c = 0 := by
 have : sgL.findIdx? (fun x => x == c) = none := by
  rw [List.findIdx?_eq_none_iff]
  intro x hx
  obtain ⟨j, hj, rfl⟩ := List.getElem_of_mem hx
  have hl : sgL.length = 16 := rfl
  have : sgL[j] = sg j := by simp [sg, List.getD, hj]
  rw [this]; exact h0 j (by omega)
 rw [signK, this]
theorem Tryz.sizeW : (Tryz.prog.info? 384).map (·.size) = some wordCells.length := by kernel_rfl
theorem Tryz.sizeS : (Tryz.prog.info? 348).map (·.size) = some signCells.length := by kernel_rfl
theorem wordKind_any (t : ByteArray) (w : World) (ht : TokTabs w) :
  Calls Tryz.prog 255 #[.string t] w fun e w' => e = .returned (.int .i64 (wordK t)) ∧ Below w.heap.size w w' := by
 have HT := hide ht.words
 clear ht
 go_enter Tryz.func255, Tryz.ntmps255
 go_wp2_with (refine wpList_load_mid rfl _ _ rfl 2 0 rfl wordCells _ (unhide HT) Tryz.underlying384 rfl Tryz.sizeW ?_)
 go_loopw [6] (fun i wr => ∃ k : Nat, k ≤ 21 ∧ i = .int .i64 (k : Int) ∧ (∀ j, j < k → ((wd j).toList == t.toList) = false) ∧ Below w.heap.size w wr) (fun i _ => 21 - (intOf i).toNat)
 case atStart => exact ⟨0, by omega, rfl, fun j hj => by omega, Below.refl _ _⟩
 case round =>
  rename World => WR
  obtain ⟨k, hk, rfl, hn, hbe⟩ := hrel
  have HN := hide hn
  have BE := hide hbe
  have hsz := hbe.size
  clear hn hbe
  by_cases hk2 : k < 21
  ·cases h : (wd k).toList == t.toList with
   | true =>
    have HE := hide (wordK_at hk2 (unhide HN) h)
    go_wp2_with (refine wpList_indexT rfl _ _ _ rfl (.agg wordCells.toArray) (.int .i64 (k : Int)) (.agg #[.string (wd k), .int .i64 (5 + (k : Int))]) rfl rfl (Tryz.idxW k hk2 _) ?_)
    go_ret
    exact ⟨by rw [unhide HE]; rfl, (unhide BE).alloc hsz _⟩
   | false =>
    have HH := hide h
    go_wp2_with (refine wpList_indexT rfl _ _ _ rfl (.agg wordCells.toArray) (.int .i64 (k : Int)) (.agg #[.string (wd k), .int .i64 (5 + (k : Int))]) rfl rfl (Tryz.idxW k hk2 _) ?_)
    exact ⟨⟨k + 1, by omega, by simp, fun j hj => by rcases Nat.lt_or_ge j k with h1 | h1; exact unhide HN j h1; obtain rfl : j = k := (by omega); exact unhide HH, (unhide BE).alloc hsz _⟩, by simp [intOf]; omega⟩
  ·obtain rfl : k = 21 := by omega
   have HE := hide (wordK_none (unhide HN))
   go_wp2_with fail
   go_ret
   exact ⟨by rw [unhide HE]; rfl, unhide BE⟩
theorem signKind_any (c : Int) (w : World) (ht : TokTabs w) :
  Calls Tryz.prog 210 #[.int .u8 c] w fun e w' => e = .returned (.int .i64 (signK c)) ∧ Below w.heap.size w w' := by
 have HT := hide ht.signs
 clear ht
 go_enter Tryz.func210, Tryz.ntmps210
 go_wp2_with (refine wpList_load_mid rfl _ _ rfl 0 0 rfl signCells _ (unhide HT) Tryz.underlying348 rfl Tryz.sizeS ?_)
 go_loopw [6] (fun i wr => ∃ k : Nat, k ≤ 16 ∧ i = .int .i64 (k : Int) ∧ (∀ j, j < k → (sg j == c) = false) ∧ Below w.heap.size w wr) (fun i _ => 16 - (intOf i).toNat)
 case atStart => exact ⟨0, by omega, rfl, fun j hj => by omega, Below.refl _ _⟩
 case round =>
  rename World => WR
  obtain ⟨k, hk, rfl, hn, hbe⟩ := hrel
  have HN := hide hn
  have BE := hide hbe
  have hsz := hbe.size
  clear hn hbe
  by_cases hk2 : k < 16
  ·cases h : sg k == c with
   | true =>
    have HE := hide (signK_at hk2 (unhide HN) h)
    go_wp2_with (refine wpList_indexT rfl _ _ _ rfl (.agg signCells.toArray) (.int .i64 (k : Int)) (.agg #[.int .u8 (sg k), .int .i64 (26 + (k : Int))]) rfl rfl (Tryz.idxS k hk2 _) ?_)
    go_ret
    exact ⟨by rw [unhide HE]; rfl, (unhide BE).alloc hsz _⟩
   | false =>
    have HH := hide h
    go_wp2_with (refine wpList_indexT rfl _ _ _ rfl (.agg signCells.toArray) (.int .i64 (k : Int)) (.agg #[.int .u8 (sg k), .int .i64 (26 + (k : Int))]) rfl rfl (Tryz.idxS k hk2 _) ?_)
    exact ⟨⟨k + 1, by omega, by simp, fun j hj => by rcases Nat.lt_or_ge j k with h1 | h1; exact unhide HN j h1; obtain rfl : j = k := (by omega); exact unhide HH, (unhide BE).alloc hsz _⟩, by simp [intOf]; omega⟩
  ·obtain rfl : k = 16 := by omega
   have HE := hide (signK_none (unhide HN))
   go_wp2_with fail
   go_ret
   exact ⟨by rw [unhide HE]; rfl, unhide BE⟩
theorem TokTabs.below {w w' : World} (h : TokTabs w) (hb : Below w.heap.size w w') : TokTabs w' :=
 ⟨Nat.lt_of_lt_of_le h.lw hb.size, Nat.lt_of_lt_of_le h.ls hb.size, fun j v hv => (hb.cell (p := ⟨2, 0 + j, none⟩) h.lw).trans (h.words j v hv), fun j v hv => (hb.cell (p := ⟨0, 0 + j, none⟩) h.ls).trans (h.signs j v hv), h.mx.below hb⟩
end Go.Proofs.YtgdeeodifnegiaaGreatDoor
namespace Go.Proofs.YtgdeeodifnegiaaGreatDoor
open Go.RowKit
theorem isBlank_any (n : Int) (w : World) : Calls Tryz.prog 165 #[.int .u8 n] w fun e w' => e = .returned (.bool (blankB n)) ∧ w' = w := by
 cases h1 : n == 32 <;> cases h2 : n == 10
 all_goals
  have HE := hide (show blankB n = _ by unfold blankB; rw [h1, h2])
  go_enter Tryz.func165, Tryz.ntmps165
  go_wp2_with fail
  go_ret
  exact ⟨by rw [unhide HE]; rfl, rfl⟩
theorem isLetter_any (n : Int) (w : World) : Calls Tryz.prog 204 #[.int .u8 n] w fun e w' => e = .returned (.bool (lowB n)) ∧ w' = w := by
 by_cases h1 : 97 ≤ n <;> by_cases h2 : n ≤ 122
 all_goals
  have HE := hide (show lowB n = (decide (97 ≤ n) && decide (n ≤ 122)) from rfl)
  go_enter Tryz.func204, Tryz.ntmps204
  go_wp2_with fail
  go_ret
  exact ⟨by rw [unhide HE]; simp [h1, h2], rfl⟩
theorem isDigit_any (n : Int) (w : World) : Calls Tryz.prog 207 #[.int .u8 n] w fun e w' => e = .returned (.bool (digB n)) ∧ w' = w := by
 by_cases h1 : 48 ≤ n <;> by_cases h2 : n ≤ 57
 all_goals
  have HE := hide (show digB n = (decide (48 ≤ n) && decide (n ≤ 57)) from rfl)
  go_enter Tryz.func207, Tryz.ntmps207
  go_wp2_with fail
  go_ret
  exact ⟨by rw [unhide HE]; simp [h1, h2], rfl⟩
theorem isNumeral_any (n : Int) (w : World) : Calls Tryz.prog 209 #[.int .u8 n] w fun e w' => e = .returned (.bool (numeB n)) ∧ w' = w := by
 cases h0 : digB n <;> cases h1 : n == 46 <;> cases h2 : n == 47
 all_goals
  have HE := hide (show numeB n = _ by unfold numeB; rw [h0, h1, h2])
  have HD := hide (show Calls Tryz.prog 207 #[.int .u8 n] w fun e w' => e = .returned (.bool _) ∧ w' = w from by have := isDigit_any n w; rw [h0] at this; exact this)
  clear h0
  go_enter Tryz.func209, Tryz.ntmps209
  go_wp2_with (go_at_call 207; refine (unhide HD).mono ?_; rintro e w' ⟨rfl, rfl⟩)
  go_ret
  exact ⟨by rw [unhide HE]; rfl, rfl⟩
end Go.Proofs.YtgdeeodifnegiaaGreatDoor
namespace Go.Proofs.YtgdeeodifnegiaaGreatDoor
open Go.RowKit
theorem rowLow (s : ByteArray) (hs : s.size ≤ 1000) (w : World) :
  Calls Tryz.prog 206 #[.string s, .func (.func 204) #[] #[]] w fun e w' => e = .returned (.string (s.extract 0 (scanTo lowB s 0))) ∧ w' = w := by
 go_enter Tryz.func206, Tryz.ntmps206
 go_wp2_with fail
 go_loop [5] (fun x => ∃ m : Nat, m ≤ s.size ∧ scanTo lowB s m = scanTo lowB s 0 ∧ x = .int .i64 m) (fun x => s.size - (intOf x).toNat)
 case atStart => exact ⟨0, by omega, rfl, rfl⟩
 case round =>
  obtain ⟨m, hms, hsc, rfl⟩ := hrel
  have HM := hide hsc
  clear hsc
  by_cases hx : m < s.size ∧ lowB (bt s m) = true
  ·obtain ⟨hmt, hml⟩ := hx
   have HS := hide (scanTo_step hmt hml)
   rw [bt_eq hmt] at hml
   go_wp2_with (go_at_call 204; refine (isLetter_any _ _).mono ?_; rintro e w' ⟨rfl, rfl⟩)
   go_round
   case rel => exact ⟨m + 1, by omega, by rw [← unhide HS]; exact unhide HM, by go_num⟩
   case measure => simp [intOf]; omega
  ·have hme : m = scanTo lowB s 0 := by rw [← unhide HM, scanTo_stop hx]
   have HME := hide hme
   have hy : (∃ h : m < s.size, lowB (s[m].toNat : Int) = false) ∨ ¬ m < s.size := by
    by_cases h : m < s.size
    ·left; refine ⟨h, ?_⟩; rw [← bt_eq h]; simpa [h] using hx
    ·right; exact h
   clear hx hme
   rcases hy with ⟨hmt, hml⟩ | hmt
   all_goals
    go_wp2_with (go_at_call 204; refine (isLetter_any _ _).mono ?_; rintro e w' ⟨rfl, rfl⟩)
    go_ret
    exact ⟨by rw [← unhide HME]; rfl, rfl⟩
theorem rowNum (s : ByteArray) (hs : s.size ≤ 1000) (w : World) :
  Calls Tryz.prog 206 #[.string s, .func (.func 209) #[] #[]] w fun e w' => e = .returned (.string (s.extract 0 (scanTo numeB s 0))) ∧ w' = w := by
 go_enter Tryz.func206, Tryz.ntmps206
 go_wp2_with fail
 go_loop [5] (fun x => ∃ m : Nat, m ≤ s.size ∧ scanTo numeB s m = scanTo numeB s 0 ∧ x = .int .i64 m) (fun x => s.size - (intOf x).toNat)
 case atStart => exact ⟨0, by omega, rfl, rfl⟩
 case round =>
  obtain ⟨m, hms, hsc, rfl⟩ := hrel
  have HM := hide hsc
  clear hsc
  by_cases hx : m < s.size ∧ numeB (bt s m) = true
  ·obtain ⟨hmt, hml⟩ := hx
   have HS := hide (scanTo_step hmt hml)
   rw [bt_eq hmt] at hml
   go_wp2_with (go_at_call 209; refine (isNumeral_any _ _).mono ?_; rintro e w' ⟨rfl, rfl⟩)
   go_round
   case rel => exact ⟨m + 1, by omega, by rw [← unhide HS]; exact unhide HM, by go_num⟩
   case measure => simp [intOf]; omega
  ·have hme : m = scanTo numeB s 0 := by rw [← unhide HM, scanTo_stop hx]
   have HME := hide hme
   have hy : (∃ h : m < s.size, numeB (s[m].toNat : Int) = false) ∨ ¬ m < s.size := by
    by_cases h : m < s.size
    ·left; refine ⟨h, ?_⟩; rw [← bt_eq h]; simpa [h] using hx
    ·right; exact h
   clear hx hme
   rcases hy with ⟨hmt, hml⟩ | hmt
   all_goals
    go_wp2_with (go_at_call 209; refine (isNumeral_any _ _).mono ?_; rintro e w' ⟨rfl, rfl⟩)
    go_ret
    exact ⟨by rw [← unhide HME]; rfl, rfl⟩
theorem numTo_mono {s : ByteArray} {k : Nat} : ∀ j, digTo s (k + j) → numTo s k ≤ numTo s (k + j)
 | 0, _ => Int.le_refl _
 | j + 1, h => by
  have h0 : digTo s (k + j) := fun i hi => h i (by omega)
  have ih := numTo_mono j h0
  have hb := (numTo_bd h0).1
  have hd := (digB_iff _).1 (h (k + j) (by omega))
  show numTo s k ≤ 10 * numTo s (k + j) + (bt s (k + j) - 48)
  omega
theorem numTo_lo {s : ByteArray} (h0 : bt s 0 ≠ 48) : ∀ k, digTo s (k + 1) → (10 : Int) ^ k ≤ numTo s (k + 1)
 | 0, h => by
  have hd := (digB_iff _).1 (h 0 (by omega))
  show (1 : Int) ≤ 10 * 0 + (bt s 0 - 48)
  omega
 | k + 1, h => by
  have ih := numTo_lo h0 k (fun i hi => h i (by omega))
  have hd := (digB_iff _).1 (h (k + 1) (by omega))
  show (10 : Int) ^ (k + 1) ≤ 10 * numTo s (k + 1) + (bt s (k + 1) - 48)
  rw [Int.pow_succ]; omega
theorem numP_over {s : ByteArray} {m : Int} {k : Nat} (hk : k ≤ s.size) (_hd : digTo s k) (hm : m < numTo s k) : numP s m = -1 := by
 by_cases h : s.size = 0 ∨ 10 < s.size ∨ (1 < s.size ∧ bt s 0 = 48)
 ·exact numP_no h
 ·unfold numP; rw [if_neg h]
  split
  ·rename_i hall
   obtain ⟨j, hj⟩ : ∃ j, s.size = k + j := ⟨s.size - k, by omega⟩
   have h2 := numTo_mono (s := s) (k := k) j (by rw [← hj]; exact hall)
   rw [← hj] at h2
   rw [if_pos (by omega)]
  ·rfl
def numIs (s : ByteArray) (m : Int) : Bool := decide (0 ≤ numP s m)
def numV (s : ByteArray) (m : Int) : Int := if 0 ≤ numP s m then numP s m else 0
theorem numIs_no {s : ByteArray} {m : Int} (h : numP s m = -1) : numV s m = 0 ∧ numIs s m = false := by
 unfold numV numIs; rw [h]; exact ⟨rfl, rfl⟩
theorem numIs_yes {s : ByteArray} {m n : Int} (h : numP s m = n) (hn : 0 ≤ n) : numV s m = n ∧ numIs s m = true := by
 unfold numV numIs; rw [h, if_pos hn, decide_eq_true hn]; exact ⟨rfl, rfl⟩
theorem number_any (s : ByteArray) (m : Int) (hs : s.size ≤ 1000) (h0 : 0 ≤ m) (h1 : m ≤ 4294967295) (w : World) :
  Calls Tryz.prog 256 #[.string s, .int .i64 m] w fun e w' => e = .returned (.tuple #[.int .i64 (numV s m), .bool (numIs s m)]) ∧ w' = w := by
 by_cases hz : s.size = 0
 ·have hsE : s = ⟨#[]⟩ := by
   obtain ⟨d⟩ := s
   have : d = #[] := Array.eq_empty_of_size_eq_zero hz
   rw [this]
  have HN := hide (numIs_no (numP_no (s := s) (m := m) (Or.inl hz)))
  subst hsE
  go_enter Tryz.func256, Tryz.ntmps256
  go_wp2_with fail
  go_ret2
  exact ⟨by rw [(unhide HN).1, (unhide HN).2]; rfl, rfl⟩
 ·have hpos : 0 < s.size := by omega
  have hne : (s.toList == []) = false := by
   have : s.toList.length = s.size := by rw [ByteArray.toList_eq]; rfl
   cases hl : s.toList with
   | nil => rw [hl] at this; simp at this; omega
   | cons a b => rfl
  by_cases hlead : 1 < s.size ∧ bt s 0 = 48
  ·have HN := hide (numIs_no (numP_no (s := s) (m := m) (Or.inr (Or.inr hlead))))
   obtain ⟨hl1, hl2⟩ := hlead
   rw [bt_eq hpos] at hl2
   have hl3 : ((s[0].toNat : Int) == 48) = true := by simpa using hl2
   clear hl2
   go_enter Tryz.func256, Tryz.ntmps256
   go_wp2_with fail
   go_ret2
   exact ⟨by rw [(unhide HN).1, (unhide HN).2]; rfl, rfl⟩
  ·have hor : ¬ 1 < s.size ∨ (1 < s.size ∧ ((s[0].toNat : Int) == 48) = false) := by
    by_cases h : 1 < s.size
    ·right; refine ⟨h, ?_⟩
     rw [bt_eq hpos] at hlead
     simp; omega
    ·left; exact h
   have HB := fun k hk hd => hide (numIs_no (numP_bad (s := s) (m := m) (k := k) hk hd))
   have HO := fun k hk hd hm => hide (numIs_no (numP_over (s := s) (m := m) (k := k) hk hd hm))
   have HY : Hid (digTo s s.size → numTo s s.size ≤ m → numV s m = numTo s s.size ∧ numIs s m = true) := fun hd hm => by
    have hle : s.size ≤ 10 := by
     rcases Nat.lt_or_ge 10 s.size with h | h
     ·have hb0 : bt s 0 ≠ 48 := fun e => hlead ⟨by omega, e⟩
      obtain ⟨j, hj⟩ : ∃ j, s.size = j + 1 := ⟨s.size - 1, by omega⟩
      have h2 := numTo_lo hb0 j (by rw [← hj]; exact hd)
      rw [← hj] at h2
      have h3 : (10 : Int) ^ 10 ≤ 10 ^ j := by
       have h1 : (10 : Nat) ^ 10 ≤ 10 ^ j := Nat.pow_le_pow_right (by omega) (by omega)
       exact_mod_cast h1
      have h4 : (10 : Int) ^ 10 = 10000000000 := by decide
      omega
     ·exact h
    refine numIs_yes ?_ (numTo_bd hd).1
    rw [numP_yes (fun h => by rcases h with h | h | h; omega; omega; exact hlead h) hd, if_neg (by omega)]
   clear hlead hz
   rcases hor with hl1 | ⟨hl1, hl3⟩
   all_goals
    go_enter Tryz.func256, Tryz.ntmps256
    go_wp2_with fail
    go_loop [6, 22] (fun n i => ∃ k : Nat, k ≤ s.size ∧ digTo s k ∧ numTo s k ≤ m ∧ i = .int .i64 k ∧ n = .int .i64 (numTo s k)) (fun _ i => s.size - (intOf i).toNat)
    case atStart => exact ⟨0, Nat.zero_le _, fun j hj => absurd hj (by omega), h0, rfl, rfl⟩
    case round =>
     obtain ⟨k, hk, hd, hmk, rfl, rfl⟩ := hrel
     have hb1 : 0 ≤ numTo s k := (numTo_bd hd).1
     by_cases hlt : k < s.size
     ·cases hdb : digB (bt s k) with
      | true =>
       have hdig := (digB_iff _).1 hdb
       rw [bt_eq hlt] at hdig
       obtain ⟨hdl, hdh⟩ := hdig
       have HE := hide (show numTo s (k + 1) = 10 * numTo s k + ((s[k].toNat : Int) - 48) by rw [numTo, bt_eq hlt])
       have HD := hide (digTo_succ hd hdb)
       rw [bt_eq hlt] at hdb
       by_cases hov : m < 10 * numTo s k + ((s[k].toNat : Int) - 48)
       ·have HN := HO (k + 1) (by omega) (unhide HD) (by rw [unhide HE]; exact hov)
        go_wp2_with (go_at_call 207; refine (isDigit_any _ _).mono ?_; rintro e w' ⟨rfl, rfl⟩)
        go_ret2
        exact ⟨by rw [(unhide HN).1, (unhide HN).2]; rfl, rfl⟩
       ·go_wp2_with (go_at_call 207; refine (isDigit_any _ _).mono ?_; rintro e w' ⟨rfl, rfl⟩)
        go_round
        case rel => exact ⟨k + 1, by omega, unhide HD, by rw [unhide HE]; omega, by go_num, by rw [unhide HE]⟩
        case measure => simp [intOf]; omega
      | false =>
       have HN := HB k hlt hdb
       rw [bt_eq hlt] at hdb
       go_wp2_with (go_at_call 207; refine (isDigit_any _ _).mono ?_; rintro e w' ⟨rfl, rfl⟩)
       go_ret2
       exact ⟨by rw [(unhide HN).1, (unhide HN).2]; rfl, rfl⟩
     ·have hke : k = s.size := by omega
      have HN := hide (show numV s m = numTo s k ∧ numIs s m = true by rw [hke]; exact (unhide HY) (hke ▸ hd) (hke ▸ hmk))
      clear hke
      go_wp2_with fail
      go_ret2
      refine ⟨?_, rfl⟩
      rw [(unhide HN).1, (unhide HN).2]; rfl
end Go.Proofs.YtgdeeodifnegiaaGreatDoor
namespace Go.Proofs.YtgdeeodifnegiaaGreatDoor
open Go.RowKit
def netOkB (x : Int × Int) : Bool := decide (netOk x)
end Go.Proofs.YtgdeeodifnegiaaGreatDoor
namespace Go.Proofs.YtgdeeodifnegiaaGreatDoor
open Go.RowKit
theorem wraps_i64_62 (n : Int) (h₀ : 0 ≤ n) (h₁ : n < 2 ^ 62) : IntKind.i64.wrap n = n := by rw [IntKind.wrap_i64]; omega
theorem mask_of : ∀ l : Fin 33, (4294967295 : Int) / 2 ^ l.val = 2 ^ (32 - l.val) - 1 := by decide
theorem and_mask {a l : Int} (a0 : 0 ≤ a) (a1 : a ≤ 4294967295) (l0 : 0 ≤ l) (l1 : l ≤ 32) : bits .and .i64 a (4294967295 / 2 ^ l.toNat) = a % 2 ^ (32 - l).toNat := by
 have h := mask_of ⟨l.toNat, by omega⟩
 simp only at h
 rw [h, bits_mask .i64 62 (by decide) wraps_i64_62 (32 - l.toNat) (by omega) a a0 (by omega)]
 rw [show (32 - l).toNat = 32 - l.toNat by omega]
theorem Valid_any (x : Int × Int) (w : World) (h1 : inI x.1) (h2 : inI x.2) :
  Calls Tryz.prog 144 #[.agg #[.int .i64 x.1, .int .i64 x.2]] w fun e w' => e = .returned (.bool (netOkB x)) ∧ Below w.heap.size w w' := by
 obtain ⟨a, l⟩ := x
 unfold inI at h1 h2
 simp only at h1 h2 ⊢
 by_cases hz : 0 ≤ a ∧ a ≤ 4294967295 ∧ 0 ≤ l ∧ l ≤ 32
 ·obtain ⟨x1, x2, x3, x4⟩ := hz
  have HN : Hid (netOkB (a, l) = (bits .and .i64 a (4294967295 / 2 ^ l.toNat) == 0)) := by
   unfold Hid netOkB netOk powP
   rw [and_mask x1 x2 x3 x4, Bool.eq_iff_iff]; simp [x1, x2, x3, x4]
  go_enter Tryz.func144, Tryz.ntmps144
  go_wp2_with fail
  go_quiet (fail)
  go_wp2
  go_ret
  exact ⟨rt_bool (unhide HN).symm, by exact below_drewN ((Below.refl _ _).alloc (Nat.le_refl _) _) _⟩
 ·have HF : Hid (netOkB (a, l) = false) := by
   unfold Hid netOkB
   simp only [decide_eq_false_iff_not]
   intro ⟨⟨x1, x2⟩, ⟨x3, x4⟩, _⟩
   exact hz ⟨x1, x2, x3, x4⟩
  have hd : (decide (a < 0) || decide (4294967295 < a) || decide (l < 0) || decide (32 < l)) = true := by
   simp only [Bool.or_eq_true, decide_eq_true_eq]
   omega
  clear hz
  go_enter Tryz.func144, Tryz.ntmps144
  go_wp2
  all_goals
   go_ret
   exact ⟨rt_bool (unhide HF).symm, by exact (Below.refl _ _).alloc (Nat.le_refl _) _⟩
end Go.Proofs.YtgdeeodifnegiaaGreatDoor
namespace Go.Proofs
open Go.Shelf
def Tryz.shCut_ren : Go.Shelf.Ren := ⟨fun | 145 => 295 | 220 => 328 | 219 => 351 | 217 => 364 | 225 => 365 | 224 => 366 | 267 => 367 | 266 => 380 | 314 => 381 | n => n, fun | 9 => 9 | 4 => 4 | 59 => 385 | 3 => 3 | 5 => 5 | 46 => 321 | 146 => 438 | 51 => 376 | n => n, fun | 1 => 3 | n => n⟩
theorem Tryz.shCut : Go.Proofs.LaysM.n145 Tryz.prog Tryz.shCut_ren := {
 mixed := by kernel_rfl
 f145 := Tryz.func295.trans (congrArg some (by kernel_rfl))
 f217 := Tryz.func364.trans (congrArg some (by kernel_rfl))
 f219 := Tryz.func351.trans (congrArg some (by kernel_rfl))
 f220 := Tryz.func328.trans (congrArg some (by kernel_rfl))
 f224 := Tryz.func366.trans (congrArg some (by kernel_rfl))
 f225 := Tryz.func365.trans (congrArg some (by kernel_rfl))
 f266 := Tryz.func380.trans (congrArg some (by kernel_rfl))
 f267 := Tryz.func367.trans (congrArg some (by kernel_rfl))
 f314 := Tryz.func381.trans (congrArg some (by kernel_rfl))
 t3 := Tryz.underlying3
 a3 := Tryz.isAgg3
 z3 := Tryz.sizeOf3
 v3 := Tryz.zeroValue3
 t4 := Tryz.underlying4
 a4 := Tryz.isAgg4
 z4 := Tryz.sizeOf4
 v4 := Tryz.zeroValue4
 t5 := Tryz.underlying5
 a5 := Tryz.isAgg5
 z5 := Tryz.sizeOf5
 v5 := Tryz.zeroValue5
 t9 := Tryz.underlying9
 a9 := Tryz.isAgg9
 z9 := Tryz.sizeOf9
 v9 := Tryz.zeroValue9
 t46 := Tryz.underlying321
 a46 := Tryz.isAgg321
 z46 := Tryz.sizeOf321
 v46 := Tryz.zeroValue321
 t51 := Tryz.underlying376
 a51 := Tryz.isAgg376
 z51 := Tryz.sizeOf376
 v51 := Tryz.zeroValue376
 t59 := Tryz.underlying385
 a59 := Tryz.isAgg385
 z59 := Tryz.sizeOf385
 v59 := Tryz.zeroValue385
 t146 := Tryz.underlying438
 a146 := Tryz.isAgg438
 z146 := Tryz.sizeOf438
 v146 := Tryz.zeroValue438
 g1 := by kernel_rfl
 i3 := by kernel_rfl
 i4 := by kernel_rfl
 i5 := by kernel_rfl
 i9 := by kernel_rfl
 i46 := by kernel_rfl
 i51 := by kernel_rfl
 i59 := by kernel_rfl
 i146 := by kernel_rfl
 m1 := by kernel_rfl
 s1_3 := fun w h => Go.Proofs.cell_of_shapedOpen_int (zero := #[.int .i64 0]) (t := 3) h (of_decide_eq_true (by kernel_rfl)) (by kernel_rfl) rfl (by kernel_rfl) (by kernel_rfl) Tryz.underlying3 }
def Tryz.shSplit_ren : Go.Shelf.Ren := ⟨fun | 146 => 296 | 221 => 329 | 268 => 352 | 138 => 353 | 143 => 354 | 195 => 368 | 197 => 369 | 218 => 370 | 219 => 351 | 260 => 382 | 217 => 364 | 225 => 365 | 224 => 366 | 267 => 367 | 266 => 380 | 314 => 381 | n => n, fun | 9 => 9 | 31 => 220 | 3 => 3 | 4 => 4 | 0 => 0 | 105 => 433 | 21 => 21 | 5 => 5 | 46 => 321 | 119 => 442 | 139 => 445 | 138 => 444 | 146 => 438 | 51 => 376 | n => n, fun | 1 => 3 | 3 => 4 | 4 => 5 | n => n⟩
theorem Tryz.shSplit : Go.Proofs.LaysM.n146 Tryz.prog Tryz.shSplit_ren := {
 mixed := by kernel_rfl
 f138 := Tryz.func353.trans (congrArg some (by kernel_rfl))
 f143 := Tryz.func354.trans (congrArg some (by kernel_rfl))
 f146 := Tryz.func296.trans (congrArg some (by kernel_rfl))
 f195 := Tryz.func368.trans (congrArg some (by kernel_rfl))
 f197 := Tryz.func369.trans (congrArg some (by kernel_rfl))
 f217 := Tryz.func364.trans (congrArg some (by kernel_rfl))
 f218 := Tryz.func370.trans (congrArg some (by kernel_rfl))
 f219 := Tryz.func351.trans (congrArg some (by kernel_rfl))
 f221 := Tryz.func329.trans (congrArg some (by kernel_rfl))
 f224 := Tryz.func366.trans (congrArg some (by kernel_rfl))
 f225 := Tryz.func365.trans (congrArg some (by kernel_rfl))
 f260 := Tryz.func382.trans (congrArg some (by kernel_rfl))
 f266 := Tryz.func380.trans (congrArg some (by kernel_rfl))
 f267 := Tryz.func367.trans (congrArg some (by kernel_rfl))
 f268 := Tryz.func352.trans (congrArg some (by kernel_rfl))
 f314 := Tryz.func381.trans (congrArg some (by kernel_rfl))
 t0 := Tryz.underlying0
 a0 := Tryz.isAgg0
 z0 := Tryz.sizeOf0
 v0 := Tryz.zeroValue0
 t3 := Tryz.underlying3
 a3 := Tryz.isAgg3
 z3 := Tryz.sizeOf3
 v3 := Tryz.zeroValue3
 t4 := Tryz.underlying4
 a4 := Tryz.isAgg4
 z4 := Tryz.sizeOf4
 v4 := Tryz.zeroValue4
 t5 := Tryz.underlying5
 a5 := Tryz.isAgg5
 z5 := Tryz.sizeOf5
 v5 := Tryz.zeroValue5
 t9 := Tryz.underlying9
 a9 := Tryz.isAgg9
 z9 := Tryz.sizeOf9
 v9 := Tryz.zeroValue9
 t21 := Tryz.underlying21
 a21 := Tryz.isAgg21
 z21 := Tryz.sizeOf21
 v21 := Tryz.zeroValue21
 t31 := Tryz.underlying220
 a31 := Tryz.isAgg220
 z31 := Tryz.sizeOf220
 v31 := Tryz.zeroValue220
 t46 := Tryz.underlying321
 a46 := Tryz.isAgg321
 z46 := Tryz.sizeOf321
 v46 := Tryz.zeroValue321
 t51 := Tryz.underlying376
 a51 := Tryz.isAgg376
 z51 := Tryz.sizeOf376
 v51 := Tryz.zeroValue376
 t105 := Tryz.underlying433
 a105 := Tryz.isAgg433
 z105 := Tryz.sizeOf433
 v105 := Tryz.zeroValue433
 t119 := Tryz.underlying442
 a119 := Tryz.isAgg442
 z119 := Tryz.sizeOf442
 t138 := Tryz.underlying444
 a138 := Tryz.isAgg444
 z138 := Tryz.sizeOf444
 v138 := Tryz.zeroValue444
 t139 := Tryz.underlying445
 a139 := Tryz.isAgg445
 z139 := Tryz.sizeOf445
 v139 := Tryz.zeroValue445
 t146 := Tryz.underlying438
 a146 := Tryz.isAgg438
 z146 := Tryz.sizeOf438
 v146 := Tryz.zeroValue438
 g1 := by kernel_rfl
 g3 := by kernel_rfl
 g4 := by kernel_rfl
 i0 := by kernel_rfl
 i3 := by kernel_rfl
 i4 := by kernel_rfl
 i5 := by kernel_rfl
 i9 := by kernel_rfl
 i21 := by kernel_rfl
 i31 := by kernel_rfl
 i46 := by kernel_rfl
 i51 := by kernel_rfl
 i105 := by kernel_rfl
 i138 := by kernel_rfl
 i139 := by kernel_rfl
 i146 := by kernel_rfl
 m1 := by kernel_rfl
 s1_3 := fun w h => Go.Proofs.cell_of_shapedOpen_int (zero := #[.int .i64 0]) (t := 3) h (of_decide_eq_true (by kernel_rfl)) (by kernel_rfl) rfl (by kernel_rfl) (by kernel_rfl) Tryz.underlying3
 m3 := by kernel_rfl
 m4 := by kernel_rfl }
end Go.Proofs
