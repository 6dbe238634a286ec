/- Tokens: the first one of a text (package token), where a row of digits is a number. -/
import Derived.Test.YtgdeeodifnegiaaGreatDoorTokF
import Derived.Test.YtgdeeodifnegiaaGreatDoorRdrF
import Derived.RangeFuncNested
import Derived.RangeFuncBound
import Derived.RangeFuncCalls
import Derived.RangeFuncLeaves
import Derived.Shelf.RegionOpen
import Derived.OwnWalkIn
import Derived.TacticsInMore
import Derived.LoopNIn
import Derived.LoopIn
namespace Go.Proofs.YtgdeeodifnegiaaGreatDoor
open Go.RowKit

def lettersP (t : ByteArray) : TokP := ⟨if wordK t = 0 ∧ t.size ≤ 8 then 4 else wordK t, 0, t, 0, 0, 0⟩
def digitsP (t : ByteArray) : TokP := if numIs t 4294967295 = true then ⟨2, 0, t, numV t 4294967295, 0, 0⟩ else if (prefS t).isSome = true then ⟨3, 0, t, 0, (prefV t).1, (prefV t).2⟩ else ⟨0, 0, t, 0, 0, 0⟩
def firstP (s : ByteArray) : TokP :=
  if lowB (bt s 0) = true then lettersP (s.extract 0 (scanTo lowB s 0))
  else if digB (bt s 0) = true then digitsP (s.extract 0 (scanTo numeB s 0))
  else ⟨signK (bt s 0), 0, s.extract 0 1, 0, 0, 0⟩
def TokRes (w : World) (t : TokP) (e : Ending) (w' : World) : Prop := e = .returned (tokV t) ∧ Below w.heap.size w w'
theorem below_set {w w1 : World} {b o : Nat} {v : Value} (h : Below w.heap.size w w1) (hb : w.heap.size ≤ b) : Below w.heap.size w (w1.setCell ⟨b, o, none⟩ v) := h.setCell (p := ⟨b, o, none⟩) hb _
/-- the token's block, when all its cells are written anew -/
theorem below_tok {w w1 : World} {b : Nat} {v0 v1 v2 v3 v4 v5 : Value} (h : Below w.heap.size w w1) (hb : w.heap.size ≤ b) :
    Below w.heap.size w ((((((w1.setCell ⟨b, 0, none⟩ v0).setCell ⟨b, 1, none⟩ v1).setCell ⟨b, 2, none⟩ v2).setCell ⟨b, 3, none⟩ v3).setCell ⟨b, 4, none⟩ v4).setCell ⟨b, 5, none⟩ v5) :=
  below_set (below_set (below_set (below_set (below_set (below_set h hb) hb) hb) hb) hb) hb

set_option maxRecDepth 100000 in
set_option maxHeartbeats 2000000 in
theorem letters_any (t : ByteArray) (hs : t.size ≤ 1000) (w : World) (ht : TokTabs w) : Calls Tryz.prog 205 #[.string t] w (TokRes w (lettersP t)) := by
  have HW := hide (wordKind_any t (w.alloc (tokBlk tok0)) (ht.below ((Below.refl _ _).alloc (Nat.le_refl _) _)))
  have EQ := hide (show lettersP t = ⟨if wordK t = 0 ∧ t.size ≤ 8 then 4 else wordK t, 0, t, 0, 0, 0⟩ from rfl)
  clear ht
  by_cases h0 : wordK t = 0
  · by_cases h8 : t.size ≤ 8
    · rw [if_pos ⟨h0, h8⟩] at EQ
      rw [h0] at HW
      go_enter Tryz.func205, Tryz.ntmps205
      go_wp2_with (go_at_call 255; refine (unhide HW).mono ?_; rintro e w1 ⟨rfl, hb1⟩; obtain ⟨hk, hb⟩ := below_keeps hb1; obtain ⟨s0, s1, s2, s3, s4, s5, hz⟩ := tok6 hk; have HB := hide hb; clear hb hb1 hk)
      refine bodyPost_ret (v := tokV ⟨4, 0, t, 0, 0, 0⟩) (by simp [results, Tryz.results205, go_sem, s0, s1, s2, s3, s4, s5]) rfl ⟨by rw [unhide EQ], below_tok (unhide HB) (Nat.le_refl _)⟩
    · rw [if_neg (fun h => h8 h.2), h0] at EQ
      rw [h0] at HW
      go_enter Tryz.func205, Tryz.ntmps205
      go_wp2_with (go_at_call 255; refine (unhide HW).mono ?_; rintro e w1 ⟨rfl, hb1⟩; obtain ⟨hk, hb⟩ := below_keeps hb1; obtain ⟨s0, s1, s2, s3, s4, s5, hz⟩ := tok6 hk; have HB := hide hb; clear hb hb1 hk)
      refine bodyPost_ret (v := tokV ⟨0, 0, t, 0, 0, 0⟩) (by simp [results, Tryz.results205, go_sem, s0, s1, s2, s3, s4, s5]) rfl ⟨by rw [unhide EQ], below_tok (unhide HB) (Nat.le_refl _)⟩
  · rw [if_neg (fun h => h0 h.1)] at EQ
    have hb0 : (wordK t == 0) = false := by simpa using h0
    generalize wordK t = K at *
    go_enter Tryz.func205, Tryz.ntmps205
    go_wp2_with (go_at_call 255; refine (unhide HW).mono ?_; rintro e w1 ⟨rfl, hb1⟩; obtain ⟨hk, hb⟩ := below_keeps hb1; obtain ⟨s0, s1, s2, s3, s4, s5, hz⟩ := tok6 hk; have HB := hide hb; clear hb hb1 hk)
    refine bodyPost_ret (v := tokV ⟨K, 0, t, 0, 0, 0⟩) (by simp [results, Tryz.results205, go_sem, s0, s1, s2, s3, s4, s5]) rfl ⟨by rw [unhide EQ], below_tok (unhide HB) (Nat.le_refl _)⟩
set_option maxRecDepth 100000 in
set_option maxHeartbeats 2000000 in
theorem digits_num (t : ByteArray) (hs : t.size ≤ 1000) (w : World) (hn : numIs t 4294967295 = true) : Calls Tryz.prog 208 #[.string t] w (TokRes w (digitsP t)) := by
  have HW := hide (number_any t 4294967295 hs (by decide) (by decide) (w.alloc (tokBlk tok0)))
  rw [hn] at HW
  have EQ := hide (show digitsP t = ⟨2, 0, t, numV t 4294967295, 0, 0⟩ by rw [digitsP, if_pos hn])
  generalize numV t 4294967295 = V at *
  clear hn
  go_enter Tryz.func208, Tryz.ntmps208
  go_wp2_with (go_at_call 256; refine (unhide HW).mono ?_; rintro e w1 ⟨rfl, rfl⟩)
  refine bodyPost_ret (v := tokV ⟨2, 0, t, V, 0, 0⟩) (by simp [results, Tryz.results208, go_sem]) rfl ⟨by rw [unhide EQ], ?_⟩
  exact (Below.refl _ _).alloc (Nat.le_refl _) _
set_option maxRecDepth 100000 in
set_option maxHeartbeats 2000000 in
theorem digits_pref (t : ByteArray) (hs : t.size ≤ 1000) (w : World) (ht : TokTabs w) (hn : numIs t 4294967295 = false) : Calls Tryz.prog 208 #[.string t] w (TokRes w (digitsP t)) := by
  have HW := hide (number_any t 4294967295 hs (by decide) (by decide) (w.alloc (tokBlk tok0)))
  rw [hn] at HW
  have HP := hide (prefix_any t hs (w.alloc (tokBlk tok0)) (ht.mx.below ((Below.refl _ _).alloc (Nat.le_refl _) _)))
  unfold PrefRes at HP
  generalize numV t 4294967295 = V at *
  cases hp : (prefS t).isSome with
  | true =>
    have EQ := hide (show digitsP t = ⟨3, 0, t, 0, (prefV t).1, (prefV t).2⟩ by rw [digitsP, if_neg (by rw [hn]; decide), if_pos hp])
    rw [hp] at HP
    generalize prefV t = PV at *
    obtain ⟨pa, pl⟩ := PV
    clear hn ht hp
    go_enter Tryz.func208, Tryz.ntmps208
    go_wp2_with (first
      | (go_at_call 256; refine (unhide HW).mono ?_; rintro e w1 ⟨rfl, rfl⟩)
      | (go_at_call 257; refine (unhide HP).mono ?_; rintro e w1 ⟨rfl, hb1⟩; obtain ⟨hk, hb⟩ := below_keeps hb1; obtain ⟨s0, s1, s2, s3, s4, s5, hz⟩ := tok6 hk; have hl1 : w.heap.size < w1.heap.size := heap_lt hk; have HB := hide hb; clear hb hb1 hk))
    refine bodyPost_ret (v := tokV ⟨3, 0, t, 0, pa, pl⟩) (by simp [results, Tryz.results208, go_sem, s0, s1, s2, s3, s4, s5, hl1]) rfl ⟨by rw [unhide EQ], ?_⟩
    first
      | with_reducible exact below_tok ((unhide HB).alloc (unhide HB).size _) (Nat.le_refl _)
      | ((with_reducible refine Below.alloc (below_tok (unhide HB) (Nat.le_refl _)) ?_ _); (simp [World.setCell]; omega))
  | false =>
    have EQ := hide (show digitsP t = ⟨0, 0, t, 0, 0, 0⟩ by rw [digitsP, if_neg (by rw [hn]; decide), if_neg (by rw [hp]; decide)])
    rw [hp] at HP
    generalize prefV t = PV at *
    obtain ⟨pa, pl⟩ := PV
    clear hn ht hp
    go_enter Tryz.func208, Tryz.ntmps208
    go_wp2_with (first
      | (go_at_call 256; refine (unhide HW).mono ?_; rintro e w1 ⟨rfl, rfl⟩)
      | (go_at_call 257; refine (unhide HP).mono ?_; rintro e w1 ⟨rfl, hb1⟩; obtain ⟨hk, hb⟩ := below_keeps hb1; obtain ⟨s0, s1, s2, s3, s4, s5, hz⟩ := tok6 hk; have hl1 : w.heap.size < w1.heap.size := heap_lt hk; have HB := hide hb; clear hb hb1 hk))
    refine bodyPost_ret (v := tokV ⟨0, 0, t, 0, 0, 0⟩) (by simp [results, Tryz.results208, go_sem, s0, s1, s2, s3, s4, s5, hl1]) rfl ⟨by rw [unhide EQ], ?_⟩
    first
      | with_reducible exact below_tok ((unhide HB).alloc (unhide HB).size _) (Nat.le_refl _)
      | ((with_reducible refine Below.alloc (below_tok (unhide HB) (Nat.le_refl _)) ?_ _); (simp [World.setCell]; omega))
theorem digits_any (t : ByteArray) (hs : t.size ≤ 1000) (w : World) (ht : TokTabs w) : Calls Tryz.prog 208 #[.string t] w (TokRes w (digitsP t)) := by
  cases hn : numIs t 4294967295 with
  | true => exact digits_num t hs w hn
  | false => exact digits_pref t hs w ht hn
theorem scan_lt {p : Int → Bool} {s : ByteArray} (h : 0 < s.size) (hp : p (bt s 0) = true) : 1 ≤ scanTo p s 0 ∧ scanTo p s 0 ≤ s.size := by
  have h1 := scanTo_bd (p := p) (s := s) (i := 0 + 1) (by omega)
  rw [scanTo_step h hp]; omega
set_option maxRecDepth 100000 in
set_option maxHeartbeats 2000000 in
theorem first_low (s : ByteArray) (hs : s.size ≤ 1000) (hp : 0 < s.size) (w : World) (ht : TokTabs w) (hl : lowB (bt s 0) = true) : Calls Tryz.prog 166 #[.string s] w (TokRes w (firstP s)) := by
  have EQ := hide (show firstP s = lettersP (s.extract 0 (scanTo lowB s 0)) by rw [firstP, if_pos hl])
  have HR := hide (rowLow s hs (w.alloc (tokBlk tok0)))
  have HL := hide (letters_any (s.extract 0 (scanTo lowB s 0)) (by simp; omega) (w.alloc (tokBlk tok0)) (ht.below ((Below.refl _ _).alloc (Nat.le_refl _) _)))
  have HI := hide (isLetter_any (bt s 0) (w.alloc (tokBlk tok0)))
  rw [hl, bt_eq hp] at HI
  clear ht hl
  generalize s.extract 0 (scanTo lowB s 0) = T at *
  generalize lettersP T = R at *
  go_enter Tryz.func166, Tryz.ntmps166
  go_wp2_with (first
    | (go_at_call 204; refine (unhide HI).mono ?_; rintro e w1 ⟨rfl, rfl⟩)
    | (go_at_call 206; refine (unhide HR).mono ?_; rintro e w1 ⟨rfl, rfl⟩)
    | (go_at_call 205; refine (unhide HL).mono ?_; rintro e w1 ⟨rfl, hb1⟩; obtain ⟨hk, hb⟩ := below_keeps hb1; obtain ⟨s0, s1, s2, s3, s4, s5, hz⟩ := tok6 hk; have HB := hide hb; clear hb hb1 hk))
  refine bodyPost_ret (v := tokV R) (by simp [results, Tryz.results166, go_sem, s0, s1, s2, s3, s4, s5]) rfl ⟨by rw [unhide EQ], below_tok (unhide HB) (Nat.le_refl _)⟩
set_option maxRecDepth 100000 in
set_option maxHeartbeats 2000000 in
theorem first_num (s : ByteArray) (hs : s.size ≤ 1000) (hp : 0 < s.size) (w : World) (ht : TokTabs w) (hd : digB (bt s 0) = true) : Calls Tryz.prog 166 #[.string s] w (TokRes w (firstP s)) := by
  have hl : lowB (bt s 0) = false := by
    have := (digB_iff _).1 hd
    unfold lowB; rw [decide_eq_false (by omega)]; rfl
  have EQ := hide (show firstP s = digitsP (s.extract 0 (scanTo numeB s 0)) by rw [firstP, if_neg (by rw [hl]; decide), if_pos hd])
  have HR := hide (rowNum s hs (w.alloc (tokBlk tok0)))
  have HL := hide (digits_any (s.extract 0 (scanTo numeB s 0)) (by simp; omega) (w.alloc (tokBlk tok0)) (ht.below ((Below.refl _ _).alloc (Nat.le_refl _) _)))
  have HI := hide (isLetter_any (bt s 0) (w.alloc (tokBlk tok0)))
  have HJ := hide (isDigit_any (bt s 0) (w.alloc (tokBlk tok0)))
  rw [hl, bt_eq hp] at HI
  rw [hd, bt_eq hp] at HJ
  clear hd hl ht
  generalize s.extract 0 (scanTo numeB s 0) = T at *
  generalize digitsP T = R at *
  go_enter Tryz.func166, Tryz.ntmps166
  go_wp2_with (first
    | (go_at_call 204; refine (unhide HI).mono ?_; rintro e w1 ⟨rfl, rfl⟩)
    | (go_at_call 207; refine (unhide HJ).mono ?_; rintro e w1 ⟨rfl, rfl⟩)
    | (go_at_call 206; refine (unhide HR).mono ?_; rintro e w1 ⟨rfl, rfl⟩)
    | (go_at_call 208; refine (unhide HL).mono ?_; rintro e w1 ⟨rfl, hb1⟩; obtain ⟨hk, hb⟩ := below_keeps hb1; obtain ⟨s0, s1, s2, s3, s4, s5, hz⟩ := tok6 hk; have HB := hide hb; clear hb hb1 hk))
  refine bodyPost_ret (v := tokV R) (by simp [results, Tryz.results166, go_sem, s0, s1, s2, s3, s4, s5]) rfl ⟨by rw [unhide EQ], below_tok (unhide HB) (Nat.le_refl _)⟩
set_option maxRecDepth 100000 in
set_option maxHeartbeats 2000000 in
theorem first_sign (s : ByteArray) (hs : s.size ≤ 1000) (hp : 0 < s.size) (w : World) (ht : TokTabs w) (hl : lowB (bt s 0) = false) (hd : digB (bt s 0) = false) : Calls Tryz.prog 166 #[.string s] w (TokRes w (firstP s)) := by
  have EQ := hide (show firstP s = ⟨signK (bt s 0), 0, s.extract 0 1, 0, 0, 0⟩ by rw [firstP, if_neg (by rw [hl]; decide), if_neg (by rw [hd]; decide)])
  have HL := hide (signKind_any (bt s 0) ((w.alloc (tokBlk tok0)).drew) (ht.below (((Below.refl _ _).alloc (Nat.le_refl _) _).drew)))
  have HI := hide (isLetter_any (bt s 0) (w.alloc (tokBlk tok0)))
  have HJ := hide (isDigit_any (bt s 0) (w.alloc (tokBlk tok0)))
  rw [hl, bt_eq hp] at HI
  rw [hd, bt_eq hp] at HJ
  rw [bt_eq hp] at HL EQ
  clear hd hl ht
  generalize hK : signK (s[0].toNat : Int) = K at *
  go_enter Tryz.func166, Tryz.ntmps166
  go_wp2_with (first
    | (go_at_call 204; refine (unhide HI).mono ?_; rintro e w1 ⟨rfl, rfl⟩)
    | (go_at_call 207; refine (unhide HJ).mono ?_; rintro e w1 ⟨rfl, rfl⟩))
  go_region_with (go_at_call 210; refine (unhide HL).mono ?_; rintro e w1 ⟨rfl, hb1⟩; obtain ⟨hk, hb⟩ := below_keeps (((Below.refl _ _).drew).trans (hb1.mono (Nat.le_refl _))); obtain ⟨s0, s1, s2, s3, s4, s5, hz⟩ := tok6 hk; have HB := hide hb; clear hb hb1 hk)
  all_goals
    go_wp2_with fail
    refine bodyPost_ret (v := tokV ⟨K, 0, s.extract 0 1, 0, 0, 0⟩) (by simp [results, Tryz.results166, go_sem, s0, s1, s2, s3, s4, s5]) rfl ⟨by rw [unhide EQ], below_tok (unhide HB) (Nat.le_refl _)⟩
theorem first_any (s : ByteArray) (hs : s.size ≤ 1000) (hp : 0 < s.size) (w : World) (ht : TokTabs w) : Calls Tryz.prog 166 #[.string s] w (TokRes w (firstP s)) := by
  cases hl : lowB (bt s 0) with
  | true => exact first_low s hs hp w ht hl
  | false =>
    cases hd : digB (bt s 0) with
    | true => exact first_num s hs hp w ht hd
    | false => exact first_sign s hs hp w ht hl hd
end Go.Proofs.YtgdeeodifnegiaaGreatDoor

namespace Go.Proofs.YtgdeeodifnegiaaGreatDoor
open Go.RowKit Go.Shelf
attribute [local go_sem] Oper.semAt_some

def tkAt (s : ByteArray) (k : Nat) : TokP := { firstP (s.extract k s.size) with at_ := (k : Int) }
def endTok (s : ByteArray) : TokP := ⟨1, (s.size : Int), ⟨#[]⟩, 0, 0, 0⟩
def allGo (s : ByteArray) : Nat → Nat → List TokP
  | 0, _ => []
  | f + 1, k =>
    if k < s.size then
      (if blankB (bt s k) = true then allGo s f (k + 1)
       else if (tkAt s k).kind = 0 then [tkAt s k]
       else tkAt s k :: allGo s f (k + (tkAt s k).text.size))
    else [endTok s]
def allP (s : ByteArray) : List TokP := allGo s (s.size + 1) 0
theorem bt_extract {s : ByteArray} {k : Nat} (h : k < s.size) : bt (s.extract k s.size) 0 = bt s k := by
  have h1 : 0 < (s.extract k s.size).size := by simp; omega
  rw [bt_eq h1, bt_eq h]
  have : (s.extract k s.size)[0] = s[k] := by simp [ByteArray.getElem_extract]
  rw [this]
theorem firstP_text {s : ByteArray} (h : 0 < s.size) : 1 ≤ (firstP s).text.size ∧ (firstP s).text.size ≤ s.size := by
  unfold firstP
  cases hl : lowB (bt s 0) with
  | true =>
    rw [if_pos rfl]
    have := scan_lt h hl
    show 1 ≤ (s.extract 0 (scanTo lowB s 0)).size ∧ (s.extract 0 (scanTo lowB s 0)).size ≤ s.size
    simp; omega
  | false =>
    rw [if_neg (by decide)]
    cases hd : digB (bt s 0) with
    | true =>
      rw [if_pos rfl]
      have hn : numeB (bt s 0) = true := by unfold numeB; rw [hd]; rfl
      have := scan_lt h hn
      have e : (digitsP (s.extract 0 (scanTo numeB s 0))).text = s.extract 0 (scanTo numeB s 0) := by
        unfold digitsP; split
        · rfl
        · split <;> rfl
      rw [e]
      simp; omega
    | false =>
      rw [if_neg (by decide)]
      show 1 ≤ (s.extract 0 1).size ∧ (s.extract 0 1).size ≤ s.size
      simp; omega
theorem tkAt_text {s : ByteArray} {k : Nat} (h : k < s.size) : 1 ≤ (tkAt s k).text.size ∧ k + (tkAt s k).text.size ≤ s.size := by
  have h1 : 0 < (s.extract k s.size).size := by simp; omega
  have h2 := firstP_text h1
  have h3 : (s.extract k s.size).size = s.size - k := by simp
  show 1 ≤ (firstP (s.extract k s.size)).text.size ∧ k + (firstP (s.extract k s.size)).text.size ≤ s.size
  omega

theorem grown_of_below {A B : World} (h : Below A.heap.size A B) : A.grownBy B none := ⟨h.os, h.tape, h.output, h.size, fun k hk _ => h.block k hk⟩
/-- where the list of tokens of the reader at pb lies -/
def rowOf (pb : Nat) (A : World) : Option Nat := match A.cell? ⟨pb, 0, none⟩ with | some v => v.ownBlock | none => none
/-- what a round of the reader keeps: all but its own block and its list of tokens -/
structure KpR (pb : Nat) (A B : World) : Prop where
  size : A.heap.size ≤ B.heap.size
  keep : ∀ (k : Nat) (c : Array Value) (T : TypeId) (z : Nat × Nat), A.heap[k]? = some (.cells c T z) → k ≠ pb → rowOf pb A ≠ some k → B.heap[k]? = some (.cells c T z)
  row : rowOf pb B = rowOf pb A ∨ ∃ g, rowOf pb B = some g ∧ A.heap.size ≤ g ∧ g < B.heap.size
theorem rowOf_below {pb : Nat} {A B : World} (hp : pb < A.heap.size) (h : Below A.heap.size A B) : rowOf pb B = rowOf pb A := by
  unfold rowOf; rw [h.cell (p := ⟨pb, 0, none⟩) hp]
structure ItAt (pb Bs n0 : Nat) (s : ByteArray) (wr : World) : Prop where
  lp : pb < wr.heap.size
  str : wr.heap[Bs]? = some (.cells #[.string s] 9 (0, 0))
  row : ∀ k, rowOf pb wr = some k → n0 ≤ k ∧ k < wr.heap.size
  tabs : TokTabs wr
theorem ItAt.below {pb Bs n0 : Nat} {s : ByteArray} {A B : World} (h : ItAt pb Bs n0 s A) (hb : Below A.heap.size A B) : ItAt pb Bs n0 s B :=
  ⟨Nat.lt_of_lt_of_le h.lp hb.size, (hb.block Bs (heap_lt h.str)).trans h.str, fun k e => by rw [rowOf_below h.lp hb] at e; exact ⟨(h.row k e).1, Nat.lt_of_lt_of_le (h.row k e).2 hb.size⟩, h.tabs.below hb⟩
theorem ItAt.kept {pb Bs n0 : Nat} {s : ByteArray} {A B : World} (h : ItAt pb Bs n0 s A) (hk : KpR pb A B) (hne : Bs ≠ pb) (hBs : Bs < n0) (hT : TokTabs B) (hn : n0 ≤ A.heap.size) : ItAt pb Bs n0 s B := by
  refine ⟨Nat.lt_of_lt_of_le h.lp hk.size, hk.keep Bs _ _ _ h.str hne (fun e => by have := (h.row _ e).1; omega), fun k e => ?_, hT⟩
  rcases hk.row with h1 | ⟨g, h1, h2, h3⟩
  · rw [h1] at e; exact ⟨(h.row k e).1, Nat.lt_of_lt_of_le (h.row k e).2 hk.size⟩
  · rw [h1] at e; cases e; exact ⟨by omega, h3⟩
theorem allGo_step {s : ByteArray} {f k : Nat} (hk : k < s.size) (hb : blankB (bt s k) = false) (h0 : (tkAt s k).kind ≠ 0) : allGo s (f + 1) k = tkAt s k :: allGo s f (k + (tkAt s k).text.size) := by
  rw [allGo, if_pos hk, if_neg (by rw [hb]; decide), if_neg h0]
theorem allGo_bad {s : ByteArray} {f k : Nat} (hk : k < s.size) (hb : blankB (bt s k) = false) (h0 : (tkAt s k).kind = 0) : allGo s (f + 1) k = [tkAt s k] := by
  rw [allGo, if_pos hk, if_neg (by rw [hb]; decide), if_pos h0]

set_option maxRecDepth 100000 in
set_option maxHeartbeats 2000000 in
theorem all1_in (n : Nat) (hn : 1 ≤ n) (l Bs pb n0 : Nat) (s : ByteArray) (hs : s.size ≤ 600)
    (J Jx : List TokP → World → Prop) (W : World) (hJ : AbidesFrom W.heap.size J) (h0 : J [] W) (hI : ItAt pb Bs n0 s W) (hne : Bs ≠ pb) (hBs : Bs < n0) (hn0 : n0 ≤ W.heap.size)
    (hKT : ∀ {A B : World}, KpR pb A B → (∀ k, rowOf pb A = some k → n0 ≤ k) → TokTabs A → TokTabs B)
    (hY : ∀ pre x W1, J pre W1 → pre.length < 1000 → YieldAt Fence.wide (n - 1) Tryz.prog l #[tokV x] W1 fun e W' => (e = .returned (.bool true) ∧ J (pre ++ [x]) W' ∧ KpR pb W1 W') ∨ (e = .returned (.bool false) ∧ Jx (pre ++ [x]) W')) :
    CallsIn Fence.wide n Tryz.prog 164 #[.func (.yield l) #[] #[], ptr4 Bs 0] W fun e W' => (∃ v, e = .returned v) ∧ ((∃ ys, ys = allP s ∧ J ys W') ∨ (∃ pre, True ∧ Jx pre W')) := by
  refine callsIn_of_wp Tryz.func164 rfl trivial ?_ rfl
  simp only [Tryz.ntmps164, List.size_toArray, List.length_cons, List.length_nil, Nat.reduceAdd, Nat.reduceSub, Array.replicate_succ, Array.replicate_zero, List.push_toArray, List.append_toArray, List.nil_append, List.cons_append]
  have HJ := hide hJ
  have HY := hide hY
  have HKT := hide (fun A B => @hKT A B)
  clear hJ hY hKT
  gi_wp2
  gi_loopw [3] (fun i wr => ∃ (k f : Nat) (pre : List TokP), i = .int .i64 (k : Int) ∧ k ≤ s.size ∧ s.size + 1 ≤ f + k ∧ pre ++ allGo s f k = allP s ∧ pre.length ≤ k ∧ J pre wr ∧ ItAt pb Bs n0 s wr ∧ W.heap.size ≤ wr.heap.size) (fun i _ => s.size - (intOf i).toNat)
  case atStart => exact ⟨0, s.size + 1, [], rfl, Nat.zero_le _, by omega, rfl, Nat.le_refl _, h0, hI, Nat.le_refl _⟩
  case round =>
    obtain ⟨k, f, pre, rfl, hk, hf, hall, hpl, hJs, hit, hwz⟩ := hrel
    have c0 : wr.cell? ⟨Bs, 0, none⟩ = some (.string s) := cell_of_heap hit.str
    have HIT := hide hit
    have HALL := hide hall
    have HJS := hide hJs
    clear hit hall hJs
    obtain ⟨g, rfl⟩ : ∃ g, f = g + 1 := ⟨f - 1, by omega⟩
    by_cases hlt : k < s.size
    · cases hbl : blankB (bt s k) with
      | true =>
        have HA := hide (show allGo s (g + 1) k = allGo s g (k + 1) by rw [allGo, if_pos hlt, if_pos hbl])
        have hbl' := hbl
        rw [bt_eq hlt] at hbl'
        have HB := hide ((callsIn_wide (n := n - 1)).2 (isBlank_any (s[k].toNat : Int) wr))
        rw [hbl'] at HB
        clear hbl hbl'
        gi_wp2_with (refine ⟨trivial, ?_⟩; gi_at_call 165; refine (unhide HB).mono ?_; rintro e w' ⟨rfl, rfl⟩)
        go_roundw
        case rel => exact ⟨k + 1, g, pre, by simp, by omega, by omega, by rw [← unhide HA]; exact unhide HALL, by omega, unhide HJS, unhide HIT, hwz⟩
        case measure => simp [intOf]; omega
      | false =>
        have hbl' := hbl
        rw [bt_eq hlt] at hbl'
        have HB := hide ((callsIn_wide (n := n - 1)).2 (isBlank_any (s[k].toNat : Int) wr))
        rw [hbl'] at HB
        have HFI := hide ((callsIn_wide (n := n - 1)).2 (first_any (s.extract k s.size) (by simp; omega) (by simp; omega) wr (unhide HIT).tabs))
        have HBL := hide hbl
        have htx := tkAt_text hlt
        have HTX := hide htx
        have hts : (tkAt s k).text.size ≤ 600 := by omega
        clear hbl hbl' htx
        have HTK := hide (show tkAt s k = { firstP (s.extract k s.size) with at_ := (k : Int) } from rfl)
        generalize hF : firstP (s.extract k s.size) = FT at *
        gi_wp2_with (first
          | (refine ⟨trivial, ?_⟩; gi_at_call 165; refine (unhide HB).mono ?_; rintro e w' ⟨rfl, rfl⟩)
          | (refine ⟨trivial, ?_⟩; gi_at_call 166; refine (unhide HFI).mono ?_; rintro e w2 ⟨rfl, hb2⟩; have HB2 := hide hb2; have hJ1 := (unhide HJ) pre _ (w2.alloc (tokBlk (tkAt s k))) none (unhide HJS) (grown_of_below (hb2.alloc hb2.size _)) (fun r e => by cases e); obtain ⟨fn, tmps, assign, body, hy, hR⟩ := (unhide HY) pre (tkAt s k) _ hJ1 (by omega); rw [unhide HTK] at hy hR; have HRR := hide hR; clear hb2 hJ1 hR))
        refine (unhide HRR).mono ?_
        rintro e W3 (⟨rfl, hJ3, hk3⟩ | ⟨rfl, hJx3⟩)
        · have hIT1 := ((unhide HIT).below (unhide HB2)).below ((Below.refl _ _).alloc (Nat.le_refl _) (tokBlk { FT with at_ := (k : Int) }))
          have hrow1 : rowOf pb (w2.alloc (tokBlk { FT with at_ := (k : Int) })) ≠ some w2.heap.size := fun e => by
            rw [rowOf_below (Nat.lt_of_lt_of_le (unhide HIT).lp (unhide HB2).size) ((Below.refl _ _).alloc (Nat.le_refl _) _), rowOf_below (unhide HIT).lp (unhide HB2)] at e
            have h1 := ((unhide HIT).row _ e).2
            have h2 := (unhide HB2).size
            omega
          have hb3 := hk3.keep w2.heap.size _ _ _ (heap_new w2 _ _) (by have h1 := (unhide HIT).lp; have h2 := (unhide HB2).size; omega) hrow1
          obtain ⟨v0, v1, v2, v3, v4, v5, hv⟩ := tok6 (t := { FT with at_ := (k : Int) }) hb3
          have hIT3 := hIT1.kept hk3 hne hBs ((unhide HKT) _ _ hk3 (fun k e => (hIT1.row k e).1) hIT1.tabs) (by have h1 := (unhide HB2).size; simp; omega)
          have HIT3 := hide hIT3
          have HJ3 := hide hJ3
          have hz3 : W.heap.size ≤ W3.heap.size := by have h1 := hk3.size; have h2 := (unhide HB2).size; simp at h1; omega
          clear hIT1 hIT3 hJ3 hk3 hb3 hrow1 hy HRR
          by_cases hk0 : FT.kind = 0
          · have hkb : (FT.kind == 0) = true := by simpa using hk0
            have HA := hide (show allP s = pre ++ [{ FT with at_ := (k : Int) }] by rw [← unhide HTK, ← unhide HALL, allGo_bad hlt (unhide HBL) (by rw [unhide HTK]; exact hk0)])
            gi_wp2
            refine bodyPost_ret (results_none rfl _ _ _) rfl ?_
            exact ⟨⟨_, rfl⟩, .inl ⟨_, (unhide HA).symm, unhide HJ3⟩⟩
          · have hkb : (FT.kind == 0) = false := by simpa using hk0
            have HA := hide (show (pre ++ [{ FT with at_ := (k : Int) }]) ++ allGo s g (k + FT.text.size) = allP s by
              rw [← unhide HALL, allGo_step hlt (unhide HBL) (by rw [unhide HTK]; exact hk0), unhide HTK]; simp)
            have htx : 1 ≤ FT.text.size ∧ k + FT.text.size ≤ s.size := by have := unhide HTX; rw [unhide HTK] at this; exact this
            obtain ⟨htx1, htx2⟩ := htx
            gi_wp2
            go_roundw
            case rel => exact ⟨k + FT.text.size, g, _, by simp, htx2, by omega, unhide HA, by rw [List.length_append, List.length_singleton]; omega, unhide HJ3, unhide HIT3, hz3⟩
            case measure => simp [intOf]; omega
        · clear hy HRR
          gi_wp2
          refine bodyPost_ret (results_none rfl _ _ _) rfl ?_
          exact ⟨⟨_, rfl⟩, .inr ⟨_, trivial, hJx3⟩⟩
    · have hke : k = s.size := by omega
      have HA := hide (show allP s = pre ++ [endTok s] by rw [← unhide HALL, allGo, if_neg hlt])
      obtain ⟨fn, tmps, assign, body, hy, hR⟩ := (unhide HY) pre (endTok s) wr (unhide HJS) (by omega)
      have hy' : (Instr.yield l #[.agg #[.int .i64 1, .int .i64 (s.size : Int), .string ⟨#[]⟩, .int .i64 0, .int .i64 0, .int .i64 0]]).run Tryz.prog wr = .ok (.round l fn tmps assign body) wr := hy
      have HRR := hide hR
      clear hy hR
      gi_wp2
      refine (unhide HRR).mono ?_
      rintro e W3 (⟨rfl, hJ3, hk3⟩ | ⟨rfl, hJx3⟩)
      · have HJ3 := hide hJ3
        clear hy' HRR hk3 hJ3
        gi_wp2
        go_end0
        exact ⟨⟨_, rfl⟩, .inl ⟨_, (unhide HA).symm, unhide HJ3⟩⟩
      · clear hy' HRR
        gi_wp2
        go_end0
        exact ⟨⟨_, rfl⟩, .inr ⟨_, trivial, hJx3⟩⟩
end Go.Proofs.YtgdeeodifnegiaaGreatDoor
