/- compiled (package bywaykeep), where the text is a policy; the text of known. -/
import Derived.Test.YtlhhdklendeikaaGreatDoorLexA
import Derived.Test.YtlhhdklendeikaaGreatDoorMrkA
namespace Go.Proofs.YtlhhdklendeikaaGreatDoor
open Go.RowKit

theorem readOk_of {l : List It} {ms : List StpM} {k' f : Nat} (hl : itsOk l = true) (hs : (itBytes l).length ≤ 600) (hm : Many (itToks 0 l) (stmS (itToks 0 l) f) 0 0 k' ms) (hne : ms ≠ []) (hn : ms.length < 100) (he : kAt (itToks 0 l) k' = 1) (h0 : ((itToks 0 l)[0]?.getD tok0).text.data.toList ≠ [])
    (h5 : kAt (itToks 0 l) 0 ≠ 5) (h6 : kAt (itToks 0 l) 0 ≠ 6) : ReadOk (bsA (itBytes l)) ms := by
  intro w ht
  have ha := its_all hl
  have hsz : (bsA (itBytes l)).size ≤ 600 := by rw [bsA_size]; exact hs
  obtain ⟨hts, hpos⟩ := allP_ok hsz
  obtain ⟨st, hp, g⟩ := policy_reads (n := 100) hm hne hn he h0
  have hk0 : kindR (itToks 0 l) rs0 = kAt (itToks 0 l) 0 := (⟨rfl, rfl, rfl, rfl, rfl, h0, Or.inl rfl⟩ : Good (itToks 0 l) rs0 0 0).kind
  have hpage : st.page ≠ [] := by
    rcases g.page with h | h
    · subst h
      exfalso
      have hd := hm
      cases hd with
      | nil => exact hne rfl
      | cons h1 h2 =>
        have : ∀ {k k' : Nat} {l' : List StpM}, Many (itToks 0 l) (stmS (itToks 0 l) f) 0 k k' l' → True := fun _ => trivial
        have hz : kAt (itToks 0 l) 0 = 1 := he
        obtain ⟨s1, e1, g1⟩ := h1 rs0 ⟨rfl, rfl, rfl, rfl, rfl, h0, Or.inl rfl⟩
        cases f with
        | zero => rw [stmS, stmtTw] at e1; cases e1
        | succ f =>
          rw [stmS, stmtTw, hk0, hz, if_neg (by decide), if_neg (by decide), if_neg (by decide), if_neg (by decide), if_neg (by decide), if_neg (by decide), if_neg (by decide), if_neg (by decide), if_neg (by decide)] at e1
          cases e1
    · exact h
  rw [← ha] at hp hk0 h5 h6
  have IS : ∀ pb, SumSaid pb (allP (bsA (itBytes l))) (sumS (allP (bsA (itBytes l)))) := fun pb => sumTw_said hts 100 20
  have IH : ∀ pb, StmtSaid pb (allP (bsA (itBytes l))) (stmS (allP (bsA (itBytes l))) f) := fun pb =>
    stmt_said hts 100 (by decide) okP (fun _ => putMark_said) (fun _ => dropMark_said) (fun _ => prepend_said) (IS pb) (cond_said hts (not_cmp hts (IS pb)) 100) f
  exact read_ok _ hsz w ht hts (n := 100) (by decide) IH hpos (by rw [hk0]; exact h5) (by rw [hk0]; exact h6) hp g.syn g.nam g.num (allO_map ms) hpage

set_option maxRecDepth 100000 in
set_option maxHeartbeats 1000000 in
theorem compiled_ok {s : ByteArray} {ms : List StpM} (hr : ReadOk s ms) (w : World) (ht : TokTabs w) :
    Calls Tryz.prog 10 #[.string s] w fun e w' => ∃ pp, e = .returned (ptr4 pp 0) ∧ Below w.heap.size w w' ∧ Lasts w' (fun k => w.heap.size ≤ k) (PolC pp ms) := by
  have HC := hide (compile_ok hr w ht)
  clear hr ht
  go_enter Tryz.func10, Tryz.ntmps10
  go_wp2_with (go_at_call 16; refine (unhide HC).mono ?_; rintro e w1 ⟨pp, rfl, hb, hl⟩; have HX := hide (And.intro hb hl); clear hb hl)
  go_ret
  exact ⟨pp, rfl, (unhide HX).1, (unhide HX).2⟩

/-- if pref < 100 then { reject; } prepend 7; accept; -/
def knownIts : List It := [.wo 9, .sp, .wo 4, .sp, .sg 60, .sp, .nm 100, .sp, .wo 10, .sp, .sg 123, .sp, .wo 3, .sg 59, .sp, .sg 125, .sp, .wo 8, .sp, .nm 7, .sg 59, .sp, .wo 2, .sg 59]
def knownMs : List StpM := [chooseM (ltM prefM (constM 100)) [concludeM 2] [], prependM 7, concludeM 1]
theorem known_bytes : bsA (itBytes knownIts) = ⟨#[105, 102, 32, 112, 114, 101, 102, 32, 60, 32, 49, 48, 48, 32, 116, 104, 101, 110, 32, 123, 32, 114, 101, 106, 101, 99, 116, 59, 32, 125, 32, 112, 114, 101, 112, 101, 110, 100, 32, 55, 59, 32, 97, 99, 99, 101, 112, 116, 59]⟩ := by
  have h1 : Lib.decDigits 100 = [49, 48, 48] := by rw [dec_unfold, if_neg (by decide), dec_unfold, if_neg (by decide), dec_unfold, if_pos (by decide)]; rfl
  have h2 : Lib.decDigits 7 = [55] := by rw [dec_unfold, if_pos (by decide)]; rfl
  simp only [knownIts, itBytes_cons, It.bytes, h1, h2]
  rfl
theorem known_kn : itKN knownIts = [(14, 0), (9, 0), (40, 0), (2, 100), (15, 0), (29, 0), (8, 0), (27, 0), (30, 0), (13, 0), (2, 7), (27, 0), (7, 0), (27, 0), (1, 0)] := by decide +kernel
theorem known_k (i : Nat) (q : Int) (h : (([(14, 0), (9, 0), (40, 0), (2, 100), (15, 0), (29, 0), (8, 0), (27, 0), (30, 0), (13, 0), (2, 7), (27, 0), (7, 0), (27, 0), (1, 0)] : List (Int × Int))[i]?.getD (0, 0)).1 = q) : kAt (itToks 0 knownIts) i = q := by
  rw [its_kAt, known_kn]; exact h
theorem known_n (i : Nat) (q : Int) (h : (([(14, 0), (9, 0), (40, 0), (2, 100), (15, 0), (29, 0), (8, 0), (27, 0), (30, 0), (13, 0), (2, 7), (27, 0), (7, 0), (27, 0), (1, 0)] : List (Int × Int))[i]?.getD (0, 0)).2 = q) : nAt (itToks 0 knownIts) i = q := by
  rw [its_nAt, known_kn]; exact h
theorem known_many : Many (itToks 0 knownIts) (stmS (itToks 0 knownIts) 3) 0 0 14 knownMs := by
  have k := known_k
  have n3 : nAt (itToks 0 knownIts) 3 = 100 := known_n 3 _ rfl
  have n10 : nAt (itToks 0 knownIts) 10 = 7 := known_n 10 _ rfl
  have hc : Reads (itToks 0 knownIts) (cndS (itToks 0 knownIts)) 0 1 4 (some (ltM prefM (constM 100))) := by
    refine cond_one (notC_cmp (cmp_lt (k1 := 2) (sum_one (term_pref' (k 1 9 rfl)) (by rw [k 2 40 rfl]; decide) (by rw [k 2 40 rfl]; decide) (by decide)) (k 2 40 rfl) (sum_one (k1 := 4) ?_ (by rw [k 4 15 rfl]; decide) (by rw [k 4 15 rfl]; decide) (by decide))) (by rw [k 1 9 rfl]; decide)) (by rw [k 4 15 rfl]; decide) (by rw [k 4 15 rfl]; decide) (by decide)
    have := term_num' (ts := itToks 0 knownIts) (n := 100) (f := 19) (d := 0) (k 3 2 rfl)
    rw [n3] at this; exact this
  have hb : Reads (itToks 0 knownIts) (blockBy (itToks 0 knownIts) (stmS (itToks 0 knownIts) 2) 100) 0 5 9 ([concludeM 2].map some) :=
    block_reads (k' := 8) (k 5 29 rfl) (by decide) (by decide) (.cons (stmt_reject' (k 6 8 rfl) rfl (k 7 27 rfl)) (.nil (stmt_none' (by rw [k 8 30 rfl]; decide) (by rw [k 8 30 rfl]; rfl)))) (by decide) (k 8 30 rfl)
  refine .cons (k1 := 9) (stmt_if' (k 0 14 rfl) rfl hc (k 4 15 rfl) hb (by rw [k 9 13 rfl]; decide)) (.cons (k1 := 12) ?_ (.cons (k1 := 14) (stmt_accept' (k 12 7 rfl) rfl (k 13 27 rfl)) (.nil (stmt_none' (by rw [k 14 1 rfl]; decide) (by rw [k 14 1 rfl]; rfl)))))
  have := stmt_prepend' (ts := itToks 0 knownIts) (n := 100) (f := 2) (ok := okP) (sum := sumS (itToks 0 knownIts)) (cnd := cndS (itToks 0 knownIts)) (d := 0) (k 9 13 rfl) rfl (k 10 2 rfl) (by rw [n10]; decide) (by rw [n10]; decide) (k 11 27 rfl)
  rw [n10] at this; exact this
theorem known_read : ReadOk (bsA (itBytes knownIts)) knownMs :=
  readOk_of (by decide +kernel) (by rw [← bsA_size, known_bytes]; decide) known_many (by simp [knownMs]) (by simp [knownMs]) (known_k 14 1 rfl) (by decide +kernel) (by rw [known_k 0 14 rfl]; decide) (by rw [known_k 0 14 rfl]; decide)
end Go.Proofs.YtlhhdklendeikaaGreatDoor
