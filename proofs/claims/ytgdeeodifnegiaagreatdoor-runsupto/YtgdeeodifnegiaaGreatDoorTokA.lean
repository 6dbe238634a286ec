/- The tables of words and signs, and what they say (package token). -/
import Derived.Test.YtgdeeodifnegiaaGreatDoorRdrA
import Derived.Deep.MidRow
namespace Go.Proofs.YtgdeeodifnegiaaGreatDoor
open Go.RowKit

def wordCells : List Value := [.string ⟨#[115, 101, 116]⟩, .int .i64 5, .string ⟨#[119, 97, 121]⟩, .int .i64 6, .string ⟨#[97, 99, 99, 101, 112, 116]⟩, .int .i64 7, .string ⟨#[114, 101, 106, 101, 99, 116]⟩, .int .i64 8, .string ⟨#[112, 114, 101, 102]⟩, .int .i64 9, .string ⟨#[109, 101, 100]⟩, .int .i64 10, .string ⟨#[109, 97, 114, 107]⟩, .int .i64 11, .string ⟨#[117, 110, 109, 97, 114, 107]⟩, .int .i64 12, .string ⟨#[112, 114, 101, 112, 101, 110, 100]⟩, .int .i64 13, .string ⟨#[105, 102]⟩, .int .i64 14, .string ⟨#[116, 104, 101, 110]⟩, .int .i64 15, .string ⟨#[101, 108, 115, 101]⟩, .int .i64 16, .string ⟨#[108, 101, 110]⟩, .int .i64 17, .string ⟨#[111, 114]⟩, .int .i64 18, .string ⟨#[97, 110, 100]⟩, .int .i64 19, .string ⟨#[110, 111, 116]⟩, .int .i64 20, .string ⟨#[110, 101, 116]⟩, .int .i64 21, .string ⟨#[105, 110]⟩, .int .i64 22, .string ⟨#[112, 97, 116, 104]⟩, .int .i64 23, .string ⟨#[108, 105, 107, 101]⟩, .int .i64 24, .string ⟨#[109, 97, 114, 107, 101, 100]⟩, .int .i64 25]
def signCells : List Value := [.int .u8 61, .int .i64 26, .int .u8 59, .int .i64 27, .int .u8 44, .int .i64 28, .int .u8 123, .int .i64 29, .int .u8 125, .int .i64 30, .int .u8 91, .int .i64 31, .int .u8 93, .int .i64 32, .int .u8 40, .int .i64 33, .int .u8 41, .int .i64 34, .int .u8 124, .int .i64 35, .int .u8 42, .int .i64 36, .int .u8 63, .int .i64 37, .int .u8 43, .int .i64 38, .int .u8 45, .int .i64 39, .int .u8 60, .int .i64 40, .int .u8 46, .int .i64 41]
/-- the library's variable MaxLen lies there, whatever it holds -/
def MaxAt (w : World) : Prop := 3 < w.heap.size ∧ ∃ m, w.cell? ⟨3, 0, none⟩ = some (.int .i64 m)
theorem MaxAt.below {w w' : World} (h : MaxAt w) (hb : Below w.heap.size w w') : MaxAt w' := by
  obtain ⟨hl, m, hm⟩ := h
  exact ⟨Nat.lt_of_lt_of_le hl hb.size, m, (hb.cell (p := ⟨3, 0, none⟩) hl).trans hm⟩
/-- the two tables, as the program's text lays them -/
structure TokTabs (w : World) : Prop where
  lw : 2 < w.heap.size
  ls : 0 < w.heap.size
  words : w.rangeAt 2 0 wordCells
  signs : w.rangeAt 0 0 signCells
  mx : MaxAt w
def wd (k : Nat) : ByteArray := wordsL.getD k ⟨#[]⟩
def sgL : List Int := [61, 59, 44, 123, 125, 91, 93, 40, 41, 124, 42, 63, 43, 45, 60, 46]
def sg (k : Nat) : Int := sgL.getD k 0
theorem Tryz.idxW : ∀ k : Nat, k < 21 → ∀ w : World, (Instr.index 384 (.agg wordCells.toArray) (.int .i64 (k : Int))).run Tryz.prog w = .ok (.agg #[.string (wd k), .int .i64 (5 + (k : Int))]) w
  | 0, _, _ => by kernel_rfl
  | 1, _, _ => by kernel_rfl
  | 2, _, _ => by kernel_rfl
  | 3, _, _ => by kernel_rfl
  | 4, _, _ => by kernel_rfl
  | 5, _, _ => by kernel_rfl
  | 6, _, _ => by kernel_rfl
  | 7, _, _ => by kernel_rfl
  | 8, _, _ => by kernel_rfl
  | 9, _, _ => by kernel_rfl
  | 10, _, _ => by kernel_rfl
  | 11, _, _ => by kernel_rfl
  | 12, _, _ => by kernel_rfl
  | 13, _, _ => by kernel_rfl
  | 14, _, _ => by kernel_rfl
  | 15, _, _ => by kernel_rfl
  | 16, _, _ => by kernel_rfl
  | 17, _, _ => by kernel_rfl
  | 18, _, _ => by kernel_rfl
  | 19, _, _ => by kernel_rfl
  | 20, _, _ => by kernel_rfl
  | n + 21, h, _ => absurd h (by omega)
theorem Tryz.idxS : ∀ k : Nat, k < 16 → ∀ w : World, (Instr.index 348 (.agg signCells.toArray) (.int .i64 (k : Int))).run Tryz.prog w = .ok (.agg #[.int .u8 (sg k), .int .i64 (26 + (k : Int))]) w
  | 0, _, _ => by kernel_rfl
  | 1, _, _ => by kernel_rfl
  | 2, _, _ => by kernel_rfl
  | 3, _, _ => by kernel_rfl
  | 4, _, _ => by kernel_rfl
  | 5, _, _ => by kernel_rfl
  | 6, _, _ => by kernel_rfl
  | 7, _, _ => by kernel_rfl
  | 8, _, _ => by kernel_rfl
  | 9, _, _ => by kernel_rfl
  | 10, _, _ => by kernel_rfl
  | 11, _, _ => by kernel_rfl
  | 12, _, _ => by kernel_rfl
  | 13, _, _ => by kernel_rfl
  | 14, _, _ => by kernel_rfl
  | 15, _, _ => by kernel_rfl
  | n + 16, h, _ => absurd h (by omega)

/-- 'x[i]' of an array's value -/
theorem wpList_indexT {P : Program} {w : World} {ops : Array Oper} {rest : List Oper} {o : Oper} {a : Act} {Q : Exit → Act → World → Prop} (hgd : o.guard = none) (t : TypeId) (x i : Operand)
    (ho : o.op = .index t x i) (vx vi v : Value) (hx : a.eval x = vx) (hi : a.eval i = vi) (hr : (Instr.index t vx vi).run P w = .ok v w) (h : wpList P ops Q rest (a.put o.dst v) w) : wpList P ops Q (o :: rest) a w := by
  refine wpList_plain hgd fun K hK => ?_
  unfold Oper.wp execOp
  simp only [ho, Sem.run_bind, Sem.run_pure, hx, hi, hr, Result.andThen_ok, Oper.upon]
  exact hK _ _ h
def wordK (t : ByteArray) : Int := match wordsL.findIdx? (fun x => x.toList == t.toList) with | some i => 5 + (i : Int) | none => 0
def signK (c : Int) : Int := match sgL.findIdx? (fun x => x == c) with | some i => 26 + (i : Int) | none => 0
theorem wordK_at {t : ByteArray} {k : Nat} (hk : k < 21) (h0 : ∀ j, j < k → ((wd j).toList == t.toList) = false) (h1 : ((wd k).toList == t.toList) = true) : wordK t = 5 + (k : Int) := by
  have : wordsL.findIdx? (fun x => x.toList == t.toList) = some k := by
    rw [List.findIdx?_eq_some_iff_getElem]
    have hl : wordsL.length = 21 := rfl
    refine ⟨by omega, ?_, fun j hj => ?_⟩
    · have : wordsL[k]'(by omega) = wd k := by simp [wd, List.getD, hl, hk]
      rw [this]; exact h1
    · have : wordsL[j]'(by omega) = wd j := by simp [wd, List.getD, hl, show j < 21 by omega]
      rw [this, h0 j hj]; simp
  rw [wordK, this]
theorem wordK_none {t : ByteArray} (h0 : ∀ j, j < 21 → ((wd j).toList == t.toList) = false) : wordK t = 0 := by
  have : wordsL.findIdx? (fun x => x.toList == t.toList) = none := by
    rw [List.findIdx?_eq_none_iff]
    intro x hx
    obtain ⟨j, hj, rfl⟩ := List.getElem_of_mem hx
    have hl : wordsL.length = 21 := rfl
    have : wordsL[j] = wd j := by simp [wd, List.getD, hj]
    rw [this]; exact h0 j (by omega)
  rw [wordK, this]
theorem signK_at {c : Int} {k : Nat} (hk : k < 16) (h0 : ∀ j, j < k → (sg j == c) = false) (h1 : (sg k == c) = true) : signK c = 26 + (k : Int) := by
  have : sgL.findIdx? (fun x => x == c) = some k := by
    rw [List.findIdx?_eq_some_iff_getElem]
    have hl : sgL.length = 16 := rfl
    refine ⟨by omega, ?_, fun j hj => ?_⟩
    · have : sgL[k]'(by omega) = sg k := by simp [sg, List.getD, hl, hk]
      rw [this]; exact h1
    · have : sgL[j]'(by omega) = sg j := by simp [sg, List.getD, hl, show j < 16 by omega]
      rw [this, h0 j hj]; simp
  rw [signK, this]
theorem signK_none {c : Int} (h0 : ∀ j, j < 16 → (sg j == c) = false) : signK c = 0 := by
  have : sgL.findIdx? (fun x => x == c) = none := by
    rw [List.findIdx?_eq_none_iff]
    intro x hx
    obtain ⟨j, hj, rfl⟩ := List.getElem_of_mem hx
    have hl : sgL.length = 16 := rfl
    have : sgL[j] = sg j := by simp [sg, List.getD, hj]
    rw [this]; exact h0 j (by omega)
  rw [signK, this]
theorem Tryz.sizeW : (Tryz.prog.info? 384).map (·.size) = some wordCells.length := by kernel_rfl
theorem Tryz.sizeS : (Tryz.prog.info? 348).map (·.size) = some signCells.length := by kernel_rfl

set_option maxRecDepth 100000 in
set_option maxHeartbeats 1600000 in
theorem wordKind_any (t : ByteArray) (w : World) (ht : TokTabs w) :
    Calls Tryz.prog 255 #[.string t] w fun e w' => e = .returned (.int .i64 (wordK t)) ∧ Below w.heap.size w w' := by
  have HT := hide ht.words
  clear ht
  go_enter Tryz.func255, Tryz.ntmps255
  go_wp2_with (refine wpList_load_mid rfl _ _ rfl 2 0 rfl wordCells _ (unhide HT) Tryz.underlying384 rfl Tryz.sizeW ?_)
  go_loopw [6] (fun i wr => ∃ k : Nat, k ≤ 21 ∧ i = .int .i64 (k : Int) ∧ (∀ j, j < k → ((wd j).toList == t.toList) = false) ∧ Below w.heap.size w wr) (fun i _ => 21 - (intOf i).toNat)
  case atStart => exact ⟨0, by omega, rfl, fun j hj => by omega, Below.refl _ _⟩
  case round =>
    rename World => WR
    obtain ⟨k, hk, rfl, hn, hbe⟩ := hrel
    have HN := hide hn
    have BE := hide hbe
    have hsz := hbe.size
    clear hn hbe
    by_cases hk2 : k < 21
    · cases h : (wd k).toList == t.toList with
      | true =>
        have HE := hide (wordK_at hk2 (unhide HN) h)
        go_wp2_with (refine wpList_indexT rfl _ _ _ rfl (.agg wordCells.toArray) (.int .i64 (k : Int)) (.agg #[.string (wd k), .int .i64 (5 + (k : Int))]) rfl rfl (Tryz.idxW k hk2 _) ?_)
        go_ret
        exact ⟨by rw [unhide HE]; rfl, (unhide BE).alloc hsz _⟩
      | false =>
        have HH := hide h
        go_wp2_with (refine wpList_indexT rfl _ _ _ rfl (.agg wordCells.toArray) (.int .i64 (k : Int)) (.agg #[.string (wd k), .int .i64 (5 + (k : Int))]) rfl rfl (Tryz.idxW k hk2 _) ?_)
        exact ⟨⟨k + 1, by omega, by simp, fun j hj => by rcases Nat.lt_or_ge j k with h1 | h1; exact unhide HN j h1; obtain rfl : j = k := (by omega); exact unhide HH, (unhide BE).alloc hsz _⟩, by simp [intOf]; omega⟩
    · obtain rfl : k = 21 := by omega
      have HE := hide (wordK_none (unhide HN))
      go_wp2_with fail
      go_ret
      exact ⟨by rw [unhide HE]; rfl, unhide BE⟩
set_option maxRecDepth 100000 in
set_option maxHeartbeats 1600000 in
theorem signKind_any (c : Int) (w : World) (ht : TokTabs w) :
    Calls Tryz.prog 210 #[.int .u8 c] w fun e w' => e = .returned (.int .i64 (signK c)) ∧ Below w.heap.size w w' := by
  have HT := hide ht.signs
  clear ht
  go_enter Tryz.func210, Tryz.ntmps210
  go_wp2_with (refine wpList_load_mid rfl _ _ rfl 0 0 rfl signCells _ (unhide HT) Tryz.underlying348 rfl Tryz.sizeS ?_)
  go_loopw [6] (fun i wr => ∃ k : Nat, k ≤ 16 ∧ i = .int .i64 (k : Int) ∧ (∀ j, j < k → (sg j == c) = false) ∧ Below w.heap.size w wr) (fun i _ => 16 - (intOf i).toNat)
  case atStart => exact ⟨0, by omega, rfl, fun j hj => by omega, Below.refl _ _⟩
  case round =>
    rename World => WR
    obtain ⟨k, hk, rfl, hn, hbe⟩ := hrel
    have HN := hide hn
    have BE := hide hbe
    have hsz := hbe.size
    clear hn hbe
    by_cases hk2 : k < 16
    · cases h : sg k == c with
      | true =>
        have HE := hide (signK_at hk2 (unhide HN) h)
        go_wp2_with (refine wpList_indexT rfl _ _ _ rfl (.agg signCells.toArray) (.int .i64 (k : Int)) (.agg #[.int .u8 (sg k), .int .i64 (26 + (k : Int))]) rfl rfl (Tryz.idxS k hk2 _) ?_)
        go_ret
        exact ⟨by rw [unhide HE]; rfl, (unhide BE).alloc hsz _⟩
      | false =>
        have HH := hide h
        go_wp2_with (refine wpList_indexT rfl _ _ _ rfl (.agg signCells.toArray) (.int .i64 (k : Int)) (.agg #[.int .u8 (sg k), .int .i64 (26 + (k : Int))]) rfl rfl (Tryz.idxS k hk2 _) ?_)
        exact ⟨⟨k + 1, by omega, by simp, fun j hj => by rcases Nat.lt_or_ge j k with h1 | h1; exact unhide HN j h1; obtain rfl : j = k := (by omega); exact unhide HH, (unhide BE).alloc hsz _⟩, by simp [intOf]; omega⟩
    · obtain rfl : k = 16 := by omega
      have HE := hide (signK_none (unhide HN))
      go_wp2_with fail
      go_ret
      exact ⟨by rw [unhide HE]; rfl, unhide BE⟩
theorem TokTabs.below {w w' : World} (h : TokTabs w) (hb : Below w.heap.size w w') : TokTabs w' :=
  ⟨Nat.lt_of_lt_of_le h.lw hb.size, Nat.lt_of_lt_of_le h.ls hb.size, fun j v hv => (hb.cell (p := ⟨2, 0 + j, none⟩) h.lw).trans (h.words j v hv), fun j v hv => (hb.cell (p := ⟨0, 0 + j, none⟩) h.ls).trans (h.signs j v hv), h.mx.below hb⟩
end Go.Proofs.YtgdeeodifnegiaaGreatDoor

namespace Go.Proofs.YtgdeeodifnegiaaGreatDoor
open Go.RowKit

set_option maxRecDepth 100000 in
set_option maxHeartbeats 400000 in
theorem isBlank_any (n : Int) (w : World) : Calls Tryz.prog 165 #[.int .u8 n] w fun e w' => e = .returned (.bool (blankB n)) ∧ w' = w := by
  cases h1 : n == 32 <;> cases h2 : n == 10
  all_goals
    have HE := hide (show blankB n = _ by unfold blankB; rw [h1, h2])
    go_enter Tryz.func165, Tryz.ntmps165
    go_wp2_with fail
    go_ret
    exact ⟨by rw [unhide HE]; rfl, rfl⟩
set_option maxRecDepth 100000 in
set_option maxHeartbeats 400000 in
theorem isLetter_any (n : Int) (w : World) : Calls Tryz.prog 204 #[.int .u8 n] w fun e w' => e = .returned (.bool (lowB n)) ∧ w' = w := by
  by_cases h1 : 97 ≤ n <;> by_cases h2 : n ≤ 122
  all_goals
    have HE := hide (show lowB n = (decide (97 ≤ n) && decide (n ≤ 122)) from rfl)
    go_enter Tryz.func204, Tryz.ntmps204
    go_wp2_with fail
    go_ret
    exact ⟨by rw [unhide HE]; simp [h1, h2], rfl⟩
set_option maxRecDepth 100000 in
set_option maxHeartbeats 400000 in
theorem isDigit_any (n : Int) (w : World) : Calls Tryz.prog 207 #[.int .u8 n] w fun e w' => e = .returned (.bool (digB n)) ∧ w' = w := by
  by_cases h1 : 48 ≤ n <;> by_cases h2 : n ≤ 57
  all_goals
    have HE := hide (show digB n = (decide (48 ≤ n) && decide (n ≤ 57)) from rfl)
    go_enter Tryz.func207, Tryz.ntmps207
    go_wp2_with fail
    go_ret
    exact ⟨by rw [unhide HE]; simp [h1, h2], rfl⟩
set_option maxRecDepth 100000 in
set_option maxHeartbeats 400000 in
theorem isNumeral_any (n : Int) (w : World) : Calls Tryz.prog 209 #[.int .u8 n] w fun e w' => e = .returned (.bool (numeB n)) ∧ w' = w := by
  cases h0 : digB n <;> cases h1 : n == 46 <;> cases h2 : n == 47
  all_goals
    have HE := hide (show numeB n = _ by unfold numeB; rw [h0, h1, h2])
    have HD := hide (show Calls Tryz.prog 207 #[.int .u8 n] w fun e w' => e = .returned (.bool _) ∧ w' = w from by have := isDigit_any n w; rw [h0] at this; exact this)
    clear h0
    go_enter Tryz.func209, Tryz.ntmps209
    go_wp2_with (go_at_call 207; refine (unhide HD).mono ?_; rintro e w' ⟨rfl, rfl⟩)
    go_ret
    exact ⟨by rw [unhide HE]; rfl, rfl⟩
end Go.Proofs.YtgdeeodifnegiaaGreatDoor
