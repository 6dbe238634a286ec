/- Tokens: the first one of a text (package token), where a row of digits is a number. -/
import Derived.Test.YtlhhdklendeikaaGreatDoorTokF
import Derived.Test.YtlhhdklendeikaaGreatDoorRdrF
namespace Go.Proofs.YtlhhdklendeikaaGreatDoor
open Go.RowKit

def lettersP (t : ByteArray) : TokP := ⟨if wordK t = 0 ∧ t.size ≤ 8 then 4 else wordK t, 0, t, 0, 0, 0⟩
def digitsP (t : ByteArray) : TokP := if numIs t 4294967295 = true then ⟨2, 0, t, numV t 4294967295, 0, 0⟩ else if (prefS t).isSome = true then ⟨3, 0, t, 0, (prefV t).1, (prefV t).2⟩ else ⟨0, 0, t, 0, 0, 0⟩
def firstP (s : ByteArray) : TokP :=
  if lowB (bt s 0) = true then lettersP (s.extract 0 (scanTo lowB s 0))
  else if digB (bt s 0) = true then digitsP (s.extract 0 (scanTo numeB s 0))
  else ⟨signK (bt s 0), 0, s.extract 0 1, 0, 0, 0⟩
def TokRes (w : World) (t : TokP) (e : Ending) (w' : World) : Prop := e = .returned (tokV t) ∧ Below w.heap.size w w'
theorem below_set {w w1 : World} {b o : Nat} {v : Value} (h : Below w.heap.size w w1) (hb : w.heap.size ≤ b) : Below w.heap.size w (w1.setCell ⟨b, o, none⟩ v) := h.setCell (p := ⟨b, o, none⟩) hb _
/-- the token's block, when all its cells are written anew -/
theorem below_tok {w w1 : World} {b : Nat} {v0 v1 v2 v3 v4 v5 : Value} (h : Below w.heap.size w w1) (hb : w.heap.size ≤ b) :
    Below w.heap.size w ((((((w1.setCell ⟨b, 0, none⟩ v0).setCell ⟨b, 1, none⟩ v1).setCell ⟨b, 2, none⟩ v2).setCell ⟨b, 3, none⟩ v3).setCell ⟨b, 4, none⟩ v4).setCell ⟨b, 5, none⟩ v5) :=
  below_set (below_set (below_set (below_set (below_set (below_set h hb) hb) hb) hb) hb) hb

set_option maxRecDepth 100000 in
set_option maxHeartbeats 2000000 in
theorem letters_any (t : ByteArray) (hs : t.size ≤ 1000) (w : World) (ht : TokTabs w) : Calls Tryz.prog 61 #[.string t] w (TokRes w (lettersP t)) := by
  have HW := hide (wordKind_any t (w.alloc (tokBlk tok0)) (ht.below ((Below.refl _ _).alloc (Nat.le_refl _) _)))
  have EQ := hide (show lettersP t = ⟨if wordK t = 0 ∧ t.size ≤ 8 then 4 else wordK t, 0, t, 0, 0, 0⟩ from rfl)
  clear ht
  by_cases h0 : wordK t = 0
  · by_cases h8 : t.size ≤ 8
    · rw [if_pos ⟨h0, h8⟩] at EQ
      rw [h0] at HW
      go_enter Tryz.func61, Tryz.ntmps61
      go_wp2_with (go_at_call 90; refine (unhide HW).mono ?_; rintro e w1 ⟨rfl, hb1⟩; obtain ⟨hk, hb⟩ := below_keeps hb1; obtain ⟨s0, s1, s2, s3, s4, s5, hz⟩ := tok6 hk; have HB := hide hb; clear hb hb1 hk)
      refine bodyPost_ret (v := tokV ⟨4, 0, t, 0, 0, 0⟩) (by simp [results, Tryz.results61, go_sem, s0, s1, s2, s3, s4, s5]) rfl ⟨by rw [unhide EQ], below_tok (unhide HB) (Nat.le_refl _)⟩
    · rw [if_neg (fun h => h8 h.2), h0] at EQ
      rw [h0] at HW
      go_enter Tryz.func61, Tryz.ntmps61
      go_wp2_with (go_at_call 90; refine (unhide HW).mono ?_; rintro e w1 ⟨rfl, hb1⟩; obtain ⟨hk, hb⟩ := below_keeps hb1; obtain ⟨s0, s1, s2, s3, s4, s5, hz⟩ := tok6 hk; have HB := hide hb; clear hb hb1 hk)
      refine bodyPost_ret (v := tokV ⟨0, 0, t, 0, 0, 0⟩) (by simp [results, Tryz.results61, go_sem, s0, s1, s2, s3, s4, s5]) rfl ⟨by rw [unhide EQ], below_tok (unhide HB) (Nat.le_refl _)⟩
  · rw [if_neg (fun h => h0 h.1)] at EQ
    have hb0 : (wordK t == 0) = false := by simpa using h0
    generalize wordK t = K at *
    go_enter Tryz.func61, Tryz.ntmps61
    go_wp2_with (go_at_call 90; refine (unhide HW).mono ?_; rintro e w1 ⟨rfl, hb1⟩; obtain ⟨hk, hb⟩ := below_keeps hb1; obtain ⟨s0, s1, s2, s3, s4, s5, hz⟩ := tok6 hk; have HB := hide hb; clear hb hb1 hk)
    refine bodyPost_ret (v := tokV ⟨K, 0, t, 0, 0, 0⟩) (by simp [results, Tryz.results61, go_sem, s0, s1, s2, s3, s4, s5]) rfl ⟨by rw [unhide EQ], below_tok (unhide HB) (Nat.le_refl _)⟩
set_option maxRecDepth 100000 in
set_option maxHeartbeats 2000000 in
theorem digits_num (t : ByteArray) (hs : t.size ≤ 1000) (w : World) (hn : numIs t 4294967295 = true) : Calls Tryz.prog 64 #[.string t] w (TokRes w (digitsP t)) := by
  have HW := hide (number_any t 4294967295 hs (by decide) (by decide) (w.alloc (tokBlk tok0)))
  rw [hn] at HW
  have EQ := hide (show digitsP t = ⟨2, 0, t, numV t 4294967295, 0, 0⟩ by rw [digitsP, if_pos hn])
  generalize numV t 4294967295 = V at *
  clear hn
  go_enter Tryz.func64, Tryz.ntmps64
  go_wp2_with (go_at_call 91; refine (unhide HW).mono ?_; rintro e w1 ⟨rfl, rfl⟩)
  refine bodyPost_ret (v := tokV ⟨2, 0, t, V, 0, 0⟩) (by simp [results, Tryz.results64, go_sem]) rfl ⟨by rw [unhide EQ], ?_⟩
  exact (Below.refl _ _).alloc (Nat.le_refl _) _
set_option maxRecDepth 100000 in
set_option maxHeartbeats 2000000 in
theorem digits_pref (t : ByteArray) (hs : t.size ≤ 1000) (w : World) (ht : TokTabs w) (hn : numIs t 4294967295 = false) : Calls Tryz.prog 64 #[.string t] w (TokRes w (digitsP t)) := by
  have HW := hide (number_any t 4294967295 hs (by decide) (by decide) (w.alloc (tokBlk tok0)))
  rw [hn] at HW
  have HP := hide (prefix_any t hs (w.alloc (tokBlk tok0)) (ht.mx.below ((Below.refl _ _).alloc (Nat.le_refl _) _)))
  unfold PrefRes at HP
  generalize numV t 4294967295 = V at *
  cases hp : (prefS t).isSome with
  | true =>
    have EQ := hide (show digitsP t = ⟨3, 0, t, 0, (prefV t).1, (prefV t).2⟩ by rw [digitsP, if_neg (by rw [hn]; decide), if_pos hp])
    rw [hp] at HP
    generalize prefV t = PV at *
    obtain ⟨pa, pl⟩ := PV
    clear hn ht hp
    go_enter Tryz.func64, Tryz.ntmps64
    go_wp2_with (first
      | (go_at_call 91; refine (unhide HW).mono ?_; rintro e w1 ⟨rfl, rfl⟩)
      | (go_at_call 92; refine (unhide HP).mono ?_; rintro e w1 ⟨rfl, hb1⟩; obtain ⟨hk, hb⟩ := below_keeps hb1; obtain ⟨s0, s1, s2, s3, s4, s5, hz⟩ := tok6 hk; have hl1 : w.heap.size < w1.heap.size := heap_lt hk; have HB := hide hb; clear hb hb1 hk))
    refine bodyPost_ret (v := tokV ⟨3, 0, t, 0, pa, pl⟩) (by simp [results, Tryz.results64, go_sem, s0, s1, s2, s3, s4, s5, hl1]) rfl ⟨by rw [unhide EQ], ?_⟩
    first
      | with_reducible exact below_tok ((unhide HB).alloc (unhide HB).size _) (Nat.le_refl _)
      | ((with_reducible refine Below.alloc (below_tok (unhide HB) (Nat.le_refl _)) ?_ _); (simp [World.setCell]; omega))
  | false =>
    have EQ := hide (show digitsP t = ⟨0, 0, t, 0, 0, 0⟩ by rw [digitsP, if_neg (by rw [hn]; decide), if_neg (by rw [hp]; decide)])
    rw [hp] at HP
    generalize prefV t = PV at *
    obtain ⟨pa, pl⟩ := PV
    clear hn ht hp
    go_enter Tryz.func64, Tryz.ntmps64
    go_wp2_with (first
      | (go_at_call 91; refine (unhide HW).mono ?_; rintro e w1 ⟨rfl, rfl⟩)
      | (go_at_call 92; refine (unhide HP).mono ?_; rintro e w1 ⟨rfl, hb1⟩; obtain ⟨hk, hb⟩ := below_keeps hb1; obtain ⟨s0, s1, s2, s3, s4, s5, hz⟩ := tok6 hk; have hl1 : w.heap.size < w1.heap.size := heap_lt hk; have HB := hide hb; clear hb hb1 hk))
    refine bodyPost_ret (v := tokV ⟨0, 0, t, 0, 0, 0⟩) (by simp [results, Tryz.results64, go_sem, s0, s1, s2, s3, s4, s5, hl1]) rfl ⟨by rw [unhide EQ], ?_⟩
    first
      | with_reducible exact below_tok ((unhide HB).alloc (unhide HB).size _) (Nat.le_refl _)
      | ((with_reducible refine Below.alloc (below_tok (unhide HB) (Nat.le_refl _)) ?_ _); (simp [World.setCell]; omega))
theorem digits_any (t : ByteArray) (hs : t.size ≤ 1000) (w : World) (ht : TokTabs w) : Calls Tryz.prog 64 #[.string t] w (TokRes w (digitsP t)) := by
  cases hn : numIs t 4294967295 with
  | true => exact digits_num t hs w hn
  | false => exact digits_pref t hs w ht hn
theorem scan_lt {p : Int → Bool} {s : ByteArray} (h : 0 < s.size) (hp : p (bt s 0) = true) : 1 ≤ scanTo p s 0 ∧ scanTo p s 0 ≤ s.size := by
  have h1 := scanTo_bd (p := p) (s := s) (i := 0 + 1) (by omega)
  rw [scanTo_step h hp]; omega
set_option maxRecDepth 100000 in
set_option maxHeartbeats 2000000 in
theorem first_low (s : ByteArray) (hs : s.size ≤ 1000) (hp : 0 < s.size) (w : World) (ht : TokTabs w) (hl : lowB (bt s 0) = true) : Calls Tryz.prog 49 #[.string s] w (TokRes w (firstP s)) := by
  have EQ := hide (show firstP s = lettersP (s.extract 0 (scanTo lowB s 0)) by rw [firstP, if_pos hl])
  have HR := hide (rowLow s hs (w.alloc (tokBlk tok0)))
  have HL := hide (letters_any (s.extract 0 (scanTo lowB s 0)) (by simp; omega) (w.alloc (tokBlk tok0)) (ht.below ((Below.refl _ _).alloc (Nat.le_refl _) _)))
  have HI := hide (isLetter_any (bt s 0) (w.alloc (tokBlk tok0)))
  rw [hl, bt_eq hp] at HI
  clear ht hl
  generalize s.extract 0 (scanTo lowB s 0) = T at *
  generalize lettersP T = R at *
  go_enter Tryz.func49, Tryz.ntmps49
  go_wp2_with (first
    | (go_at_call 60; refine (unhide HI).mono ?_; rintro e w1 ⟨rfl, rfl⟩)
    | (go_at_call 62; refine (unhide HR).mono ?_; rintro e w1 ⟨rfl, rfl⟩)
    | (go_at_call 61; refine (unhide HL).mono ?_; rintro e w1 ⟨rfl, hb1⟩; obtain ⟨hk, hb⟩ := below_keeps hb1; obtain ⟨s0, s1, s2, s3, s4, s5, hz⟩ := tok6 hk; have HB := hide hb; clear hb hb1 hk))
  refine bodyPost_ret (v := tokV R) (by simp [results, Tryz.results49, go_sem, s0, s1, s2, s3, s4, s5]) rfl ⟨by rw [unhide EQ], below_tok (unhide HB) (Nat.le_refl _)⟩
set_option maxRecDepth 100000 in
set_option maxHeartbeats 2000000 in
theorem first_num (s : ByteArray) (hs : s.size ≤ 1000) (hp : 0 < s.size) (w : World) (ht : TokTabs w) (hd : digB (bt s 0) = true) : Calls Tryz.prog 49 #[.string s] w (TokRes w (firstP s)) := by
  have hl : lowB (bt s 0) = false := by
    have := (digB_iff _).1 hd
    unfold lowB; rw [decide_eq_false (by omega)]; rfl
  have EQ := hide (show firstP s = digitsP (s.extract 0 (scanTo numeB s 0)) by rw [firstP, if_neg (by rw [hl]; decide), if_pos hd])
  have HR := hide (rowNum s hs (w.alloc (tokBlk tok0)))
  have HL := hide (digits_any (s.extract 0 (scanTo numeB s 0)) (by simp; omega) (w.alloc (tokBlk tok0)) (ht.below ((Below.refl _ _).alloc (Nat.le_refl _) _)))
  have HI := hide (isLetter_any (bt s 0) (w.alloc (tokBlk tok0)))
  have HJ := hide (isDigit_any (bt s 0) (w.alloc (tokBlk tok0)))
  rw [hl, bt_eq hp] at HI
  rw [hd, bt_eq hp] at HJ
  clear hd hl ht
  generalize s.extract 0 (scanTo numeB s 0) = T at *
  generalize digitsP T = R at *
  go_enter Tryz.func49, Tryz.ntmps49
  go_wp2_with (first
    | (go_at_call 60; refine (unhide HI).mono ?_; rintro e w1 ⟨rfl, rfl⟩)
    | (go_at_call 63; refine (unhide HJ).mono ?_; rintro e w1 ⟨rfl, rfl⟩)
    | (go_at_call 62; refine (unhide HR).mono ?_; rintro e w1 ⟨rfl, rfl⟩)
    | (go_at_call 64; refine (unhide HL).mono ?_; rintro e w1 ⟨rfl, hb1⟩; obtain ⟨hk, hb⟩ := below_keeps hb1; obtain ⟨s0, s1, s2, s3, s4, s5, hz⟩ := tok6 hk; have HB := hide hb; clear hb hb1 hk))
  refine bodyPost_ret (v := tokV R) (by simp [results, Tryz.results49, go_sem, s0, s1, s2, s3, s4, s5]) rfl ⟨by rw [unhide EQ], below_tok (unhide HB) (Nat.le_refl _)⟩
set_option maxRecDepth 100000 in
set_option maxHeartbeats 2000000 in
theorem first_sign (s : ByteArray) (hs : s.size ≤ 1000) (hp : 0 < s.size) (w : World) (ht : TokTabs w) (hl : lowB (bt s 0) = false) (hd : digB (bt s 0) = false) : Calls Tryz.prog 49 #[.string s] w (TokRes w (firstP s)) := by
  have EQ := hide (show firstP s = ⟨signK (bt s 0), 0, s.extract 0 1, 0, 0, 0⟩ by rw [firstP, if_neg (by rw [hl]; decide), if_neg (by rw [hd]; decide)])
  have HL := hide (signKind_any (bt s 0) ((w.alloc (tokBlk tok0)).drew) (ht.below (((Below.refl _ _).alloc (Nat.le_refl _) _).drew)))
  have HI := hide (isLetter_any (bt s 0) (w.alloc (tokBlk tok0)))
  have HJ := hide (isDigit_any (bt s 0) (w.alloc (tokBlk tok0)))
  rw [hl, bt_eq hp] at HI
  rw [hd, bt_eq hp] at HJ
  rw [bt_eq hp] at HL EQ
  clear hd hl ht
  generalize hK : signK (s[0].toNat : Int) = K at *
  go_enter Tryz.func49, Tryz.ntmps49
  go_wp2_with (first
    | (go_at_call 60; refine (unhide HI).mono ?_; rintro e w1 ⟨rfl, rfl⟩)
    | (go_at_call 63; refine (unhide HJ).mono ?_; rintro e w1 ⟨rfl, rfl⟩))
  go_region_with (go_at_call 66; refine (unhide HL).mono ?_; rintro e w1 ⟨rfl, hb1⟩; obtain ⟨hk, hb⟩ := below_keeps (((Below.refl _ _).drew).trans (hb1.mono (Nat.le_refl _))); obtain ⟨s0, s1, s2, s3, s4, s5, hz⟩ := tok6 hk; have HB := hide hb; clear hb hb1 hk)
  all_goals
    go_wp2_with fail
    refine bodyPost_ret (v := tokV ⟨K, 0, s.extract 0 1, 0, 0, 0⟩) (by simp [results, Tryz.results49, go_sem, s0, s1, s2, s3, s4, s5]) rfl ⟨by rw [unhide EQ], below_tok (unhide HB) (Nat.le_refl _)⟩
theorem first_any (s : ByteArray) (hs : s.size ≤ 1000) (hp : 0 < s.size) (w : World) (ht : TokTabs w) : Calls Tryz.prog 49 #[.string s] w (TokRes w (firstP s)) := by
  cases hl : lowB (bt s 0) with
  | true => exact first_low s hs hp w ht hl
  | false =>
    cases hd : digB (bt s 0) with
    | true => exact first_num s hs hp w ht hd
    | false => exact first_sign s hs hp w ht hl hd
end Go.Proofs.YtlhhdklendeikaaGreatDoor
