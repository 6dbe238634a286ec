/- The program's reader and the document's, side by side: the tokens, the states, what both do with one token; no program. -/
import Derived.Test.YtgdeeodifnegiaaGreatDoorRfP
import Derived.Test.YtgdeeodifnegiaaGreatDoorPrtD
namespace Go.Proofs.YtgdeeodifnegiaaGreatDoor
open Go.RowKit

/-- a sign as a text -/
def sgT (j : Nat) : ByteArray := ⟨#[UInt8.ofNat (sg j).toNat]⟩
/-- a token of the document's reader, and the program's -/
structure TRel (t : Tok) (u : TokP) : Prop where
  at_ : u.at_ = (t.at_ : Int)
  how : (t.kind = 46 ∧ u.kind = 1) ∨ (t.kind = 33 ∧ u.kind = 0) ∨ (t.kind = 110 ∧ u.kind = 4 ∧ u.text = t.text) ∨ (t.kind = 48 ∧ u.kind = 2 ∧ u.text = t.text ∧ u.number = numP t.text 4294967295 ∧ 0 ≤ numP t.text 4294967295) ∨
    (t.kind = 47 ∧ u.kind = 3 ∧ u.text = t.text ∧ (prefR t.text).1 = u.addr ∧ (prefR t.text).2.1 = u.len ∧ (prefR t.text).2.2 = true) ∨
    (t.kind = 107 ∧ ∃ j : Nat, j < 21 ∧ u.kind = 5 + (j : Int) ∧ t.text = wd j ∧ u.text = t.text) ∨ (t.kind = 115 ∧ ∃ j : Nat, j < 16 ∧ u.kind = 26 + (j : Int) ∧ t.text = sgT j ∧ u.text = t.text)
/-- the tokens that are cut one behind the other, each with the place behind it -/
def cutsP (s : ByteArray) : Nat → Tok × Nat
  | 0 => cutP s 0
  | k + 1 => cutP s (cutsP s k).2
structure Lx (s : ByteArray) (ts : List TokP) : Prop where
  rel : ∀ k (h : k < ts.length), TRel (cutsP s k).1 ts[k]
  more : ∀ k (h : k < ts.length), 2 ≤ ts[k].kind → k + 1 < ts.length
/-! ## the printed text -/
def glued (t : Tok) : Bool := (t.kind == 115) && ((t.text.toList == [59]) || (t.text.toList == [44]))
/-- the document's Print, a token more -/
def prStep (q : List UInt8 × Bool) (x : Tok × Bool) : List UInt8 × Bool :=
  (q.1 ++ (if !q.2 && !glued x.1 then [32] else []) ++ x.1.text.data.toList ++ (if x.2 then [10] else []), x.2)
def prGo (l : List (Tok × Bool)) : List UInt8 × Bool := l.foldl prStep ([], true)
theorem prGo_snoc (l : List (Tok × Bool)) (x : Tok × Bool) : prGo (l ++ [x]) = prStep (prGo l) x := by simp [prGo]
structure PgR (p : rf.PS) (r : RS) : Prop where
  ex : ∃ l : List (Tok × Bool), p.taken = l.map (·.1) ∧ p.lines = l.map (·.2) ∧ (prGo l).1 = r.page ++ (if (prGo l).2 then r.gap.data.toList else []) ∧ ((l = [] ∧ r.gap = ⟨#[]⟩) ∨ (l ≠ [] ∧ r.gap = if (prGo l).2 then gapN else gapS))
theorem gapN_ne : gapN ≠ gapS := by decide
theorem gap_lists : gapN.data.toList = [10] ∧ gapS.data.toList = [32] := ⟨rfl, rfl⟩
/-! ## the states -/
structure Al (s : ByteArray) (ts : List TokP) (p : rf.PS) (r : RS) : Prop where
  bad : p.bad < 0
  syn : r.syn = none
  lt : r.next < ts.length
  next : p.next = (cutsP s r.next).1
  i : p.i = (cutsP s r.next).2
  opn : p.opn = r.depth
  pg : PgR p r
/-- both have told the same fault of syntax -/
def De (p : rf.PS) (r : RS) : Prop := ∃ a : Int, 0 ≤ a ∧ p.bad = a ∧ r.syn = some a
section
variable {s : ByteArray} {ts : List TokP} {p : rf.PS} {r : RS}
theorem Al.tk (h : Al s ts p r) : tokR ts r = ts[r.next]'h.lt := by unfold tokR; rw [List.getElem?_eq_getElem h.lt]; rfl
theorem Al.kd (h : Al s ts p r) : kindR ts r = (tokR ts r).kind := by unfold kindR; rw [h.syn]; rfl
theorem Al.rel (L : Lx s ts) (h : Al s ts p r) : TRel p.next (tokR ts r) := by rw [h.tk, h.next]; exact L.rel _ h.lt
theorem wd_eq : ∀ j, j < 21 → ∀ k, k < 21 → ((wd j).toList == (wd k).toList) = decide (j = k) := by decide +kernel
theorem sg_eq : ∀ j, j < 16 → ∀ k, k < 16 → ((sgT j).toList == (sgT k).toList) = decide (j = k) := by decide +kernel
theorem ws_ne : ∀ j, j < 21 → ∀ k, k < 16 → ((wd j).toList == (sgT k).toList) = false ∧ ((sgT k).toList == (wd j).toList) = false := by decide +kernel
theorem Al.word (L : Lx s ts) (h : Al s ts p r) {j : Nat} (hj : j < 21) : rf.isP p (wd j) = decide (kindR ts r = 5 + (j : Int)) := by
  have hr := (h.rel L).how
  unfold rf.isP
  rw [decide_eq_true h.bad, h.kd]
  rcases hr with ⟨a, b⟩ | ⟨a, b⟩ | ⟨a, b, _⟩ | ⟨a, b, _⟩ | ⟨a, b, _⟩ | ⟨a, k, hk, b, c, _⟩ | ⟨a, k, hk, b, c, _⟩
  · rw [a, b, decide_eq_false (by omega)]; rfl
  · rw [a, b, decide_eq_false (by omega)]; rfl
  · rw [a, b, decide_eq_false (by omega)]; rfl
  · rw [a, b, decide_eq_false (by omega)]; rfl
  · rw [a, b, decide_eq_false (by omega)]; rfl
  · rw [a, b, c, wd_eq k hk j hj]
    show decide (k = j) = _
    exact decide_eq_decide.2 (by omega)
  · rw [a, b, c, (ws_ne j hj k hk).2, decide_eq_false (by omega)]; rfl
theorem Al.sign (L : Lx s ts) (h : Al s ts p r) {j : Nat} (hj : j < 16) : rf.isP p (sgT j) = decide (kindR ts r = 26 + (j : Int)) := by
  have hr := (h.rel L).how
  unfold rf.isP
  rw [decide_eq_true h.bad, h.kd]
  rcases hr with ⟨a, b⟩ | ⟨a, b⟩ | ⟨a, b, _⟩ | ⟨a, b, _⟩ | ⟨a, b, _⟩ | ⟨a, k, hk, b, c, _⟩ | ⟨a, k, hk, b, c, _⟩
  · rw [a, b, decide_eq_false (by omega)]; rfl
  · rw [a, b, decide_eq_false (by omega)]; rfl
  · rw [a, b, decide_eq_false (by omega)]; rfl
  · rw [a, b, decide_eq_false (by omega)]; rfl
  · rw [a, b, decide_eq_false (by omega)]; rfl
  · rw [a, b, c, (ws_ne k hk j hj).1, decide_eq_false (by omega)]; rfl
  · rw [a, b, c, sg_eq k hk j hj]
    show decide (k = j) = _
    exact decide_eq_decide.2 (by omega)
/-- a kind of the document's reader, the program's kind -/
theorem Al.kinds (L : Lx s ts) (h : Al s ts p r) : (p.next.kind = 48 ↔ kindR ts r = 2) ∧ (p.next.kind = 110 ↔ kindR ts r = 4) ∧ (p.next.kind = 47 ↔ kindR ts r = 3) ∧ (p.next.kind = 46 ↔ kindR ts r = 1) ∧ (p.next.kind = 33 ↔ kindR ts r = 0) ∧ 0 ≤ kindR ts r := by
  have hr := (h.rel L).how
  rw [h.kd]
  rcases hr with ⟨a, b⟩ | ⟨a, b⟩ | ⟨a, b, _⟩ | ⟨a, b, _⟩ | ⟨a, b, _⟩ | ⟨a, k, hk, b, c, _⟩ | ⟨a, k, hk, b, c, _⟩ <;> omega
theorem Al.text (L : Lx s ts) (h : Al s ts p r) (hk : 2 ≤ kindR ts r) : (tokR ts r).text = p.next.text := by
  have hr := (h.rel L).how
  rw [h.kd] at hk
  rcases hr with ⟨a, b⟩ | ⟨a, b⟩ | ⟨a, b, c⟩ | ⟨a, b, c, _⟩ | ⟨a, b, c, _⟩ | ⟨a, k, _, b, _, c⟩ | ⟨a, k, _, b, _, c⟩
  · omega
  · omega
  all_goals exact c
theorem Al.number (L : Lx s ts) (h : Al s ts p r) (hk : kindR ts r = 2) : (tokR ts r).number = numP p.next.text 4294967295 ∧ 0 ≤ numP p.next.text 4294967295 := by
  have hr := (h.rel L).how
  rw [h.kd] at hk
  rcases hr with ⟨a, b⟩ | ⟨a, b⟩ | ⟨a, b, c⟩ | ⟨a, b, c, d⟩ | ⟨a, b, c, _⟩ | ⟨a, k, _, b, _, c⟩ | ⟨a, k, _, b, _, c⟩ <;> first | omega | exact d
theorem Al.pfx (L : Lx s ts) (h : Al s ts p r) (hk : kindR ts r = 3) : (prefR p.next.text).1 = (tokR ts r).addr ∧ (prefR p.next.text).2.1 = (tokR ts r).len ∧ (prefR p.next.text).2.2 = true := by
  have hr := (h.rel L).how
  rw [h.kd] at hk
  rcases hr with ⟨a, b⟩ | ⟨a, b⟩ | ⟨a, b, c⟩ | ⟨a, b, c, d⟩ | ⟨a, b, c, d⟩ | ⟨a, k, _, b, _, c⟩ | ⟨a, k, _, b, _, c⟩ <;> first | omega | exact d
theorem Al.wtext (L : Lx s ts) (h : Al s ts p r) {j : Nat} (hj : j < 21) (hk : kindR ts r = 5 + (j : Int)) : p.next.text = wd j := by
  have hr := (h.rel L).how
  rw [h.kd] at hk
  rcases hr with ⟨a, b⟩ | ⟨a, b⟩ | ⟨a, b, c⟩ | ⟨a, b, c, d⟩ | ⟨a, b, c, d⟩ | ⟨a, k, hk2, b, e, c⟩ | ⟨a, k, hk2, b, e, c⟩
  all_goals first | omega | (have hkj : k = j := (by omega); subst hkj; exact e)
theorem Al.stext (L : Lx s ts) (h : Al s ts p r) {j : Nat} (hj : j < 16) (hk : kindR ts r = 26 + (j : Int)) : p.next.kind = 115 ∧ p.next.text = sgT j := by
  have hr := (h.rel L).how
  rw [h.kd] at hk
  rcases hr with ⟨a, b⟩ | ⟨a, b⟩ | ⟨a, b, c⟩ | ⟨a, b, c, d⟩ | ⟨a, b, c, d⟩ | ⟨a, k, hk2, b, e, c⟩ | ⟨a, k, hk2, b, e, c⟩
  all_goals first | omega | (have hkj : k = j := (by omega); subst hkj; exact ⟨a, e⟩)
theorem Al.at_ (L : Lx s ts) (h : Al s ts p r) : (tokR ts r).at_ = (p.next.at_ : Int) := (h.rel L).at_
/-- which tokens are glued, which end a line -/
theorem Al.glue (L : Lx s ts) (h : Al s ts p r) : (glued p.next = true ↔ (kindR ts r = 27 ∨ kindR ts r = 28)) ∧ (rf.isSemi p.next = true ↔ kindR ts r = 27) := by
  have hr := (h.rel L).how
  have sg59 : ∀ j, j < 16 → ((sgT j).toList == [59]) = decide (j = 1) ∧ ((sgT j).toList == [44]) = decide (j = 2) := by decide +kernel
  rw [h.kd]
  unfold glued rf.isSemi
  rcases hr with ⟨a, b⟩ | ⟨a, b⟩ | ⟨a, b, c⟩ | ⟨a, b, c, d⟩ | ⟨a, b, c, d⟩ | ⟨a, k, hk2, b, e, c⟩ | ⟨a, k, hk2, b, e, c⟩
  all_goals first
    | (rw [a, b]; simp; done)
    | (rw [a, b]; simp; omega)
    | (rw [a, b, e, (sg59 k hk2).1, (sg59 k hk2).2]; simp; omega)
theorem Al.fail (L : Lx s ts) (h : Al s ts p r) : De (rf.failP p) (failR ts r) := by
  refine ⟨(p.next.at_ : Int), Int.natCast_nonneg _, ?_, ?_⟩
  · unfold rf.failP; rw [if_pos h.bad]
  · unfold failR; rw [h.syn, h.at_ L]; rfl
theorem Al.go (L : Lx s ts) (h : Al s ts p r) (hk : 2 ≤ kindR ts r) (hg : kindR ts r = 27 ∨ kindR ts r = 28 → r.gap = gapS) : Al s ts (rf.takeP s p) (goR ts r) := by
  obtain ⟨_, _, _, k46, k33, _⟩ := h.kinds L
  have e : rf.takeP s p = rf.tookP s p := by
    unfold rf.takeP
    rw [if_neg (by intro hx; rcases hx with hx | hx; exact absurd (k33.1 hx) (by omega); exact absurd (k46.1 hx) (by omega)), if_pos h.bad]
  have hl := L.more r.next h.lt (by have := h.kd; rw [h.tk] at this; omega)
  rw [e]
  refine ⟨h.bad, h.syn, hl, ?_, ?_, h.opn, ?_⟩
  · show (cutP s p.i).1 = _; rw [h.i]; rfl
  · show (cutP s p.i).2 = _; rw [h.i]; rfl
  · obtain ⟨l, h1, h2, h3, h4⟩ := h.pg.ex
    obtain ⟨g1, g2⟩ := h.glue L
    have tx := h.text L hk
    have kk := h.kd
    refine ⟨l ++ [(p.next, rf.isSemi p.next)], ?_, ?_, ?_, Or.inr ⟨by simp, ?_⟩⟩
    · show p.taken ++ [p.next] = _; rw [h1]; simp
    · show p.lines ++ [rf.isSemi p.next] = _; rw [h2]; simp
    · rw [prGo_snoc]
      show (prGo l).1 ++ (if (!(prGo l).2 && !glued p.next) = true then [32] else []) ++ p.next.text.data.toList ++ (if rf.isSemi p.next = true then [10] else []) =
        (if (tokR ts r).kind = 27 ∨ (tokR ts r).kind = 28 then r.page ++ (tokR ts r).text.data.toList else (r.page ++ r.gap.data.toList) ++ (tokR ts r).text.data.toList) ++ (if rf.isSemi p.next = true then (if (tokR ts r).kind = 27 then gapN else gapS : ByteArray).data.toList else [])
      rw [← kk, tx]
      have hsemi : (if rf.isSemi p.next = true then [10] else [] : List UInt8) = (if rf.isSemi p.next = true then (if kindR ts r = 27 then gapN else gapS : ByteArray).data.toList else []) := by
        by_cases e27 : kindR ts r = 27
        · rw [if_pos (g2.2 e27), if_pos (g2.2 e27), if_pos e27]; rfl
        · rw [if_neg (fun x => e27 (g2.1 x)), if_neg (fun x => e27 (g2.1 x))]
      rw [← hsemi]
      congr 1
      by_cases hgl : kindR ts r = 27 ∨ kindR ts r = 28
      · have hgap := hg hgl
        have hb : (prGo l).2 = false := by
          rcases h4 with ⟨_, h4⟩ | ⟨_, h4⟩
          · rw [hgap] at h4; exact absurd h4 (by decide)
          · cases hq : (prGo l).2 with
            | false => rfl
            | true => rw [hq, hgap] at h4; exact absurd h4.symm gapN_ne
        have hg1 := g1.2 hgl
        rw [hb] at h3
        rw [if_pos hgl, hg1, hb, h3]
        simp
      · have hgf : glued p.next = false := by
          cases hq : glued p.next with
          | false => rfl
          | true => exact absurd (g1.1 hq) hgl
        rw [if_neg hgl, hgf]
        congr 1
        cases hq : (prGo l).2 with
        | true => rw [hq] at h3; simpa using h3
        | false =>
          rw [hq] at h3 h4
          rcases h4 with ⟨h4, _⟩ | ⟨_, h4⟩
          · rw [h4] at hq; cases hq
          · rw [h4]; simp at h3; simp [h3, gapS]
    · rw [prGo_snoc]
      show (if (tokR ts r).kind = 27 then gapN else gapS) = if rf.isSemi p.next = true then gapN else gapS
      rw [← kk]
      by_cases e27 : kindR ts r = 27
      · rw [if_pos (g2.2 e27), if_pos e27]
      · rw [if_neg (fun x => e27 (g2.1 x)), if_neg e27]
theorem go_gap (hk : kindR ts r ≠ 27) (h : Al s ts p r) : (goR ts r).gap = gapS := by
  show (if (tokR ts r).kind = 27 then gapN else gapS) = gapS
  rw [← h.kd, if_neg hk]
theorem Al.dec (h : Al s ts p r) : Al s ts (rf.decP p) (decR r) := ⟨h.bad, h.syn, h.lt, h.next, h.i, by show wrap64 (p.opn - 1) = wr64 (r.depth - 1); rw [h.opn], ⟨h.pg.ex⟩⟩
theorem Al.line (h : Al s ts p r) (hg : r.gap = gapS) : Al s ts (rf.lineP p) (endLineR r) := by
  refine ⟨?_, h.syn, h.lt, ?_, ?_, ?_, ?_⟩
  · unfold rf.lineP; rw [if_pos h.bad]; exact h.bad
  · unfold rf.lineP; rw [if_pos h.bad]; exact h.next
  · unfold rf.lineP; rw [if_pos h.bad]; exact h.i
  · unfold rf.lineP; rw [if_pos h.bad]; exact h.opn
  · obtain ⟨l, h1, h2, h3, h4⟩ := h.pg.ex
    have hl : l ≠ [] := by
      rcases h4 with ⟨_, h4⟩ | ⟨h4, _⟩
      · rw [hg] at h4; exact absurd h4 (by decide)
      · exact h4
    obtain ⟨l0, x, rfl⟩ : ∃ l0 x, l = l0 ++ [x] := ⟨l.dropLast, l.getLast hl, (List.dropLast_concat_getLast hl).symm⟩
    have hb : (prGo (l0 ++ [x])).2 = false := by
      rcases h4 with ⟨h4, _⟩ | ⟨_, h4⟩
      · simp at h4
      · cases hq : (prGo (l0 ++ [x])).2 with
        | false => rfl
        | true => rw [hq, hg] at h4; exact absurd h4.symm gapN_ne
    rw [hb] at h3
    have hx2 : x.2 = false := by rw [prGo_snoc] at hb; exact hb
    unfold rf.lineP
    rw [if_pos h.bad]
    refine ⟨l0 ++ [(x.1, true)], by rw [h1]; simp, ?_, ?_, Or.inr ⟨by simp, ?_⟩⟩
    · show p.lines.set (p.lines.length - 1) true = _
      rw [h2]; simp
    · rw [prGo_snoc] at h3 ⊢
      simp only [prStep, hx2] at h3 ⊢
      simp at h3
      simp [h3, endLineR, gapN]
    · rw [prGo_snoc]; rfl
/-! ## the document's steps keep a fault -/
theorem bad_fail {p : rf.PS} (h : 0 ≤ p.bad) : rf.failP p = p := by unfold rf.failP; rw [if_neg (by omega)]
theorem bad_take {p : rf.PS} (h : 0 ≤ p.bad) : rf.takeP s p = p := by
  unfold rf.takeP
  split
  · exact bad_fail h
  · rw [if_neg (by omega)]
theorem bad_is {p : rf.PS} (h : 0 ≤ p.bad) (x : ByteArray) : rf.isP p x = false := by unfold rf.isP; rw [decide_eq_false (by omega)]; rfl
theorem bad_need {p : rf.PS} (h : 0 ≤ p.bad) (x : ByteArray) : rf.needP s p x = p := by unfold rf.needP; rw [bad_is h, if_neg (by decide), bad_fail h]
theorem bad_kind {p : rf.PS} (h : 0 ≤ p.bad) (k : Int) : rf.kindP s p k = p := by
  unfold rf.kindP
  split
  · exact bad_take h
  · exact bad_fail h
theorem bad_line {p : rf.PS} (h : 0 ≤ p.bad) : rf.lineP p = p := by unfold rf.lineP; rw [if_neg (by omega)]
theorem bad_opens {p : rf.PS} (h : 0 ≤ p.bad) : (rf.opensP p).bad = p.bad := by
  unfold rf.opensP
  split
  · rw [bad_fail h]
  · rfl
theorem bad_starts {p : rf.PS} (h : 0 ≤ p.bad) : rf.startsP p = false := by unfold rf.startsP; rw [decide_eq_false (by omega)]; rfl
/-! ## both keep a fault -/
theorem syn_cl (ts : List TokP) (a : Int) : Cl ts (fun st => st.syn = some a) := by
  refine ⟨fun st k h e hk => h, fun st h => ?_, fun _ h => h, fun st st' h _ _ _ h4 _ _ => h4.trans h⟩
  show tellR st.syn _ = _
  rw [h]; rfl
theorem De.fail (h : De p r) : De (rf.failP p) (failR ts r) := by
  obtain ⟨a, h0, h1, h2⟩ := h
  exact ⟨a, h0, by rw [bad_fail (by omega)]; exact h1, (syn_cl ts a).fail _ h2⟩
theorem De.take (h : De p r) {k : Int} (hk : 2 ≤ k) : De (rf.takeP s p) (takeR ts k r).1 := by
  obtain ⟨a, h0, h1, h2⟩ := h
  exact ⟨a, h0, by rw [bad_take (by omega)]; exact h1, (syn_cl ts a).take h2 hk⟩
theorem De.need (h : De p r) (x : ByteArray) {k : Int} (hk : 2 ≤ k) : De (rf.needP s p x) (takeR ts k r).1 := by
  obtain ⟨a, h0, h1, h2⟩ := h
  exact ⟨a, h0, by rw [bad_need (by omega)]; exact h1, (syn_cl ts a).take h2 hk⟩
theorem De.kind (h : De p r) (q : Int) {k : Int} (hk : 2 ≤ k) : De (rf.kindP s p q) (takeR ts k r).1 := by
  obtain ⟨a, h0, h1, h2⟩ := h
  exact ⟨a, h0, by rw [bad_kind (by omega)]; exact h1, (syn_cl ts a).take h2 hk⟩
theorem De.dec (h : De p r) : De (rf.decP p) (decR r) := h
theorem De.line (h : De p r) : De (rf.lineP p) (endLineR r) := by
  obtain ⟨a, h0, h1, h2⟩ := h
  exact ⟨a, h0, by rw [bad_line (by omega)]; exact h1, h2⟩
theorem De.kd (h : De p r) : kindR ts r = 0 := by
  obtain ⟨a, h0, h1, h2⟩ := h
  unfold kindR; rw [h2]; rfl
theorem De.is (h : De p r) (x : ByteArray) : rf.isP p x = false := by
  obtain ⟨a, h0, h1, h2⟩ := h
  exact bad_is (by omega) x
/-- a token that must come: both take it, or both tell it -/
theorem Al.take (L : Lx s ts) (h : Al s ts p r) {k : Int} (hk : 2 ≤ k) (hg : k = 27 ∨ k = 28 → r.gap = gapS) {q : rf.PS} (hy : kindR ts r = k → q = rf.takeP s p) (hn : kindR ts r ≠ k → q = rf.failP p) :
    (kindR ts r = k ∧ Al s ts q (goR ts r) ∧ takeR ts k r = (goR ts r, tokR ts r)) ∨ (De q (takeR ts k r).1) := by
  by_cases e : kindR ts r = k
  · left
    refine ⟨e, ?_, ?_⟩
    · rw [hy e]; exact h.go L (by omega) (by rw [e]; exact hg)
    · unfold takeR; rw [if_pos e]
  · right
    rw [hn e]
    unfold takeR; rw [if_neg e]
    exact h.fail L
theorem Al.needW (L : Lx s ts) (h : Al s ts p r) {j : Nat} (hj : j < 21) : (kindR ts r = 5 + (j : Int) ∧ Al s ts (rf.needP s p (wd j)) (goR ts r) ∧ takeR ts (5 + (j : Int)) r = (goR ts r, tokR ts r)) ∨ De (rf.needP s p (wd j)) (takeR ts (5 + (j : Int)) r).1 := by
  have hw := h.word L hj
  refine h.take L (by omega) (by omega) (fun e => ?_) (fun e => ?_)
  · unfold rf.needP; rw [hw, decide_eq_true e, if_pos rfl]
  · unfold rf.needP; rw [hw, decide_eq_false e, if_neg (by decide)]
theorem Al.needS (L : Lx s ts) (h : Al s ts p r) {j : Nat} (hj : j < 16) (hg : j = 1 ∨ j = 2 → r.gap = gapS) : (kindR ts r = 26 + (j : Int) ∧ Al s ts (rf.needP s p (sgT j)) (goR ts r) ∧ takeR ts (26 + (j : Int)) r = (goR ts r, tokR ts r)) ∨ De (rf.needP s p (sgT j)) (takeR ts (26 + (j : Int)) r).1 := by
  have hw := h.sign L hj
  refine h.take L (by omega) (fun e => hg (by omega)) (fun e => ?_) (fun e => ?_)
  · unfold rf.needP; rw [hw, decide_eq_true e, if_pos rfl]
  · unfold rf.needP; rw [hw, decide_eq_false e, if_neg (by decide)]
theorem Al.kind (L : Lx s ts) (h : Al s ts p r) {q k : Int} (hq : (q = 48 ∧ k = 2) ∨ (q = 110 ∧ k = 4) ∨ (q = 47 ∧ k = 3)) : (kindR ts r = k ∧ Al s ts (rf.kindP s p q) (goR ts r) ∧ takeR ts k r = (goR ts r, tokR ts r)) ∨ De (rf.kindP s p q) (takeR ts k r).1 := by
  obtain ⟨k48, k110, k47, _, _, _⟩ := h.kinds L
  have hqk : p.next.kind = q ↔ kindR ts r = k := by
    rcases hq with ⟨rfl, rfl⟩ | ⟨rfl, rfl⟩ | ⟨rfl, rfl⟩
    · exact k48
    · exact k110
    · exact k47
  refine h.take L (by omega) (by omega) (fun e => ?_) (fun e => ?_)
  · unfold rf.kindP; rw [if_pos (hqk.2 e)]
  · unfold rf.kindP; rw [if_neg (fun x => e (hqk.1 x))]
/-- one more is open -/
theorem Al.open_ (L : Lx s ts) (h : Al s ts p r) {k : Int} (e : kindR ts r = k) (hk : 2 ≤ k) (h27 : k ≠ 27) (h28 : k ≠ 28) :
    (Al s ts (rf.takeP s (rf.opensP p)) (openR ts k r) ∧ (openR ts k r).gap = gapS ∧ (openR ts k r).defs = r.defs ∧ (openR ts k r).nam = r.nam ∧ (openR ts k r).num = r.num) ∨ De (rf.takeP s (rf.opensP p)) (openR ts k r) := by
  by_cases e8 : r.depth = 8
  · right
    have hd := h.fail L
    obtain ⟨a, a0, a1, a2⟩ := hd
    refine ⟨a, a0, ?_, ?_⟩
    · have hb : (rf.opensP p).bad = a := by unfold rf.opensP; rw [if_pos (h.opn.trans e8)]; exact a1
      rw [bad_take (by omega)]; exact hb
    · show (takeR ts k (if r.depth = 8 then failR ts r else r)).1.syn = _
      rw [if_pos e8]
      exact (syn_cl ts a).take a2 hk
  · left
    have hp : rf.opensP p = { p with opn := wrap64 (p.opn + 1) } := by unfold rf.opensP; rw [if_neg (by rw [h.opn]; exact e8)]
    have ho : openR ts k r = { goR ts r with depth := wr64 (r.depth + 1) } := by
      show { (takeR ts k (if r.depth = 8 then failR ts r else r)).1 with depth := wr64 ((takeR ts k (if r.depth = 8 then failR ts r else r)).1.depth + 1) } = _
      rw [if_neg e8]
      unfold takeR
      rw [if_pos e]
      rfl
    have hg := h.go L (by omega) (by omega)
    have ht : rf.takeP s { p with opn := wrap64 (p.opn + 1) } = { rf.takeP s p with opn := wrap64 (p.opn + 1) } := by
      obtain ⟨_, _, _, k46, k33, _⟩ := h.kinds L
      have hn : ¬ (p.next.kind = 33 ∨ p.next.kind = 46) := by
        intro hx; rcases hx with hx | hx
        · exact absurd (k33.1 hx) (by omega)
        · exact absurd (k46.1 hx) (by omega)
      have e1 : rf.takeP s p = rf.tookP s p := by unfold rf.takeP; rw [if_neg hn, if_pos h.bad]
      have e2 : rf.takeP s { p with opn := wrap64 (p.opn + 1) } = rf.tookP s { p with opn := wrap64 (p.opn + 1) } := by unfold rf.takeP; rw [if_neg hn, if_pos h.bad]
      rw [e1, e2]
      rfl
    refine ⟨?_, ?_, ?_, ?_, ?_⟩
    · rw [hp, ht, ho]
      exact ⟨hg.bad, hg.syn, hg.lt, hg.next, hg.i, by show wrap64 (p.opn + 1) = wr64 (r.depth + 1); rw [h.opn], ⟨hg.pg.ex⟩⟩
    · rw [ho]; exact go_gap (by rw [e]; exact h27) h
    · rw [ho]; rfl
    · rw [ho]; rfl
    · rw [ho]; rfl
end
end Go.Proofs.YtgdeeodifnegiaaGreatDoor
