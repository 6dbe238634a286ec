/- Marked: the text that is put together, and what it means; no program. -/
import Derived.Test.YtlhhdklendeikaaGreatDoorRecA
import Derived.Test.YtlhhdklendeikaaGreatDoorRunH
namespace Go.Proofs.YtlhhdklendeikaaGreatDoor
open Go.RowKit

/-- a step -/
inductive Mk where
  | put
  | drop
  | pre
abbrev Mks := List (Mk × Nat)
def Mk.wo : Mk → Nat
  | .put => 6
  | .drop => 7
  | .pre => 8
def Mk.kd : Mk → Int
  | .put => 11
  | .drop => 12
  | .pre => 13
def Mk.mean : Mk → Nat → StpM
  | .put, n => markM (n : Int)
  | .drop, n => unmarkM (n : Int)
  | .pre, n => prependM (n : Int)
def mkOk (p : Mk × Nat) : Prop := p.2 ≤ 65535 ∧ (p.1 = .pre → 1 ≤ p.2)
def mkIts (l : Mks) : List It := l.flatMap fun p => [.wo p.1.wo, .sp, .nm p.2, .sg 59, .sp]
def mkKN (l : Mks) : List (Int × Int) := l.flatMap fun p => [(p.1.kd, 0), (2, (p.2 : Int)), (27, 0)]
def mkEnd : List It := [.wo 2, .sg 59]
def mkAll (l : Mks) : List It := mkIts l ++ mkEnd
def mkMs (l : Mks) : List StpM := l.map (fun p => p.1.mean p.2) ++ [concludeM 1]
theorem mk_kn (l : Mks) (b : List It) : itKN (mkIts l ++ b) = mkKN l ++ itKN b := by
  induction l with
  | nil => rfl
  | cons p l ih =>
    obtain ⟨s, n⟩ := p
    show itKN (.wo s.wo :: .sp :: .nm n :: .sg 59 :: .sp :: (mkIts l ++ b)) = (s.kd, 0) :: (2, (n : Int)) :: (27, 0) :: (mkKN l ++ itKN b)
    have h1 : signK ((59 : UInt8).toNat : Int) = 27 := by decide +kernel
    have h2 : 5 + (s.wo : Int) = s.kd := by cases s <;> rfl
    rw [itKN, itKN, itKN, itKN, itKN, h1, h2, ← ih]
theorem mk_ok (l : Mks) (h : ∀ p ∈ l, mkOk p) : itsOk (mkIts l ++ mkEnd) = true := by
  induction l with
  | nil => decide +kernel
  | cons p l ih =>
    obtain ⟨s, n⟩ := p
    have hp := (h (s, n) List.mem_cons_self).1
    have i1 := ih (fun q hq => h q (List.mem_cons_of_mem _ hq))
    show itsOk (.wo s.wo :: .sp :: .nm n :: .sg 59 :: .sp :: (mkIts l ++ mkEnd)) = true
    have h1 : It.ok (.wo s.wo) = true := by cases s <;> rfl
    have h2 : It.ok (.nm n) = true := by
      show decide (n ≤ 4294967295) = true
      have : n ≤ 4294967295 := by dsimp only at hp; omega
      simpa using this
    have h3 : It.ok (.sg 59) = true := by decide +kernel
    have h4 : It.then_ (.nm n) (.sg 59 :: .sp :: (mkIts l ++ mkEnd)) = true := by
      show decide ((59 : UInt8).toNat ≠ 46) = true
      decide
    rw [itsOk, itsOk, itsOk, itsOk, itsOk, i1, h1, h2, h3, h4]; rfl
theorem mk_len (l : Mks) (h : ∀ p ∈ l, mkOk p) : (itBytes (mkIts l)).length ≤ 20 * l.length := by
  induction l with
  | nil => simp [mkIts, itBytes]
  | cons p l ih =>
    obtain ⟨s, n⟩ := p
    have hp := (h (s, n) List.mem_cons_self).1
    have i1 := ih (fun q hq => h q (List.mem_cons_of_mem _ hq))
    show (itBytes (.wo s.wo :: .sp :: .nm n :: .sg 59 :: .sp :: mkIts l)).length ≤ _
    have h1 : (It.bytes (.wo s.wo)).length ≤ 7 := by cases s <;> decide +kernel
    have h2 : (It.bytes (.nm n)).length ≤ 10 := dec_len (by dsimp only at hp; omega)
    have e1 : (It.bytes .sp).length = 1 := rfl
    have e2 : (It.bytes (.sg 59)).length = 1 := rfl
    rw [itBytes_cons, itBytes_cons, itBytes_cons, itBytes_cons, itBytes_cons]
    simp only [List.length_append, e1, e2, List.length_cons]
    omega
theorem mk_many {its : List It} : ∀ (l : Mks) (k : Nat), (∀ p ∈ l, mkOk p) → (itKN its).drop k = mkKN l ++ [(7, 0), (27, 0), (1, 0)] →
    Many (itToks 0 its) (stmS (itToks 0 its) 1) 0 k (k + 3 * l.length + 2) (mkMs l) ∧ kAt (itToks 0 its) (k + 3 * l.length + 2) = 1
  | [], k, _, h => by
    obtain ⟨b1, _, d6⟩ := drop_kAt (show (itKN its).drop k = (7, 0) :: [(27, 0), (1, 0)] from h)
    obtain ⟨b2, _, d7⟩ := drop_kAt d6
    obtain ⟨b3, _, _⟩ := drop_kAt d7
    refine ⟨.cons (k1 := k + 2) (stmt_accept' b1 rfl b2) (.nil (stmt_none' ?_ ?_)), b3⟩
    · show noStmt (kAt _ (k + 1 + 1))
      rw [b3]; decide
    · show okP (kAt _ (k + 1 + 1)) = true
      rw [b3]; rfl
  | (s, n) :: l, k, ho, h => by
    obtain ⟨b1, _, d6⟩ := drop_kAt (show (itKN its).drop k = (s.kd, 0) :: ((2, (n : Int)) :: (27, 0) :: (mkKN l ++ [(7, 0), (27, 0), (1, 0)])) from h)
    obtain ⟨b2, n2, d7⟩ := drop_kAt d6
    obtain ⟨b3, _, d8⟩ := drop_kAt d7
    obtain ⟨hp, hp1⟩ := ho (s, n) List.mem_cons_self
    dsimp only at hp hp1 n2
    obtain ⟨i1, i2⟩ := mk_many l (k + 1 + 1 + 1) (fun q hq => ho q (List.mem_cons_of_mem _ hq)) d8
    have hk : k + 3 * ((s, n) :: l).length + 2 = k + 1 + 1 + 1 + 3 * l.length + 2 := by simp only [List.length_cons]; omega
    rw [hk]
    refine ⟨.cons (k1 := k + 3) ?_ i1, i2⟩
    cases s with
    | put =>
      have := stmt_mark' (ts := itToks 0 its) (n := 100) (f := 0) (ok := okP) (sum := sumS (itToks 0 its)) (cnd := cndS (itToks 0 its)) (d := 0) b1 rfl b2 (by rw [n2]; omega) (by rw [n2]; omega) b3
      rw [n2] at this; exact this
    | drop =>
      have := stmt_unmark' (ts := itToks 0 its) (n := 100) (f := 0) (ok := okP) (sum := sumS (itToks 0 its)) (cnd := cndS (itToks 0 its)) (d := 0) b1 rfl b2 (by rw [n2]; omega) (by rw [n2]; omega) b3
      rw [n2] at this; exact this
    | pre =>
      have h1 := hp1 rfl
      have := stmt_prepend' (ts := itToks 0 its) (n := 100) (f := 0) (ok := okP) (sum := sumS (itToks 0 its)) (cnd := cndS (itToks 0 its)) (d := 0) b1 rfl b2 (by rw [n2]; omega) (by rw [n2]; omega) b3
      rw [n2] at this; exact this
theorem mk_read (l : Mks) (hn : l.length ≤ 20) (h : ∀ p ∈ l, mkOk p) : ReadOk (bsA (itBytes (mkAll l))) (mkMs l) := by
  have hk : itKN (mkAll l) = mkKN l ++ [(7, 0), (27, 0), (1, 0)] := by
    have h2 : itKN mkEnd = [(7, 0), (27, 0), (1, 0)] := by decide +kernel
    rw [mkAll, mk_kn, h2]
  obtain ⟨h1, h2⟩ := mk_many (its := mkAll l) l 0 h hk
  have a0 : kAt (itToks 0 (mkAll l)) 0 ≠ 5 ∧ kAt (itToks 0 (mkAll l)) 0 ≠ 6 := by
    rw [its_kAt, hk]
    cases l with
    | nil => decide
    | cons p l =>
      obtain ⟨s, n⟩ := p
      show s.kd ≠ 5 ∧ s.kd ≠ 6
      cases s <;> decide
  refine readOk_of (mk_ok l h) ?_ h1 (by simp [mkMs]) (by simp [mkMs]; omega) h2 ?_ a0.1 a0.2
  · have h3 := mk_len l h
    have h4 : (itBytes mkEnd).length = 7 := by decide +kernel
    rw [mkAll, itBytes_append, List.length_append]; omega
  · cases l with
    | nil =>
      show (wd 2).data.toList ≠ []
      decide +kernel
    | cons p l =>
      obtain ⟨s, n⟩ := p
      show (wd s.wo).data.toList ≠ []
      cases s <;> decide +kernel

/-! ## what the steps do -/
/-- with, as its loop does it -/
def withF (n : Int) : Bool → List Int → List Int
  | d, [] => if d then [] else [n]
  | d, x :: t => (if d = false ∧ n ≤ x then [n] else []) ++ ((if x ≠ n then [x] else []) ++ withF n (d || decide (n ≤ x)) t)
theorem with_done (n : Int) : ∀ {l : List Int}, (∀ x ∈ l, n < x) → withF n true l = l
  | [], _ => rfl
  | x :: t, h => by
    have h1 := h x List.mem_cons_self
    rw [withF, if_neg (by simp), if_pos (by omega), Bool.true_or, with_done n (fun y hy => h y (List.mem_cons_of_mem _ hy))]; rfl
theorem with_sorted (n : Int) : ∀ {l : List Int}, l.Pairwise (· < ·) → withF n false l = if l.contains n then l else l.take (placeM l n) ++ n :: l.drop (placeM l n)
  | [], _ => by simp [withF, placeM]
  | x :: t, hs => by
    obtain ⟨h1, h2⟩ := List.pairwise_cons.1 hs
    have ih := with_sorted n h2
    rw [withF]
    rcases Int.lt_trichotomy x n with hx | hx | hx
    · rw [if_neg (by simp; omega), if_pos (by omega), decide_eq_false (by omega), Bool.or_false, ih, place_cons, if_pos hx, List.contains_cons, show (n == x) = false by simp; omega, Bool.false_or]
      split <;> rfl
    · subst hx
      rw [if_pos ⟨rfl, Int.le_refl _⟩, if_neg (by simp), decide_eq_true (Int.le_refl _), Bool.or_true, with_done x h1, if_pos (by simp)]; rfl
    · have hnc : (x :: t).contains n = false := by
        rw [List.contains_eq_mem]
        simp only [decide_eq_false_iff_not, List.mem_cons, not_or]
        exact ⟨by omega, fun e => by have := h1 n e; omega⟩
      have hp : placeM (x :: t) n = 0 := place_zero fun y hy => by
        rcases List.mem_cons.1 hy with rfl | hy
        · omega
        · have := h1 y hy; omega
      rw [if_pos ⟨rfl, by omega⟩, if_pos (by omega), decide_eq_true (by omega), Bool.or_true, with_done n (fun y hy => by have := h1 y hy; omega), hnc, hp]; rfl
theorem without_sorted (n : Int) {l : List Int} (hs : l.Pairwise (· < ·)) : l.filter (fun x => decide (x ≠ n)) = if l.contains n then l.erase n else l := by
  have hnd : l.Nodup := hs.imp (fun h => by omega)
  by_cases hc : l.contains n = true
  · rw [if_pos hc, hnd.erase_eq_filter]
    congr 1
    funext x
    by_cases hx : x = n <;> simp [hx]
  · rw [if_neg hc, List.filter_eq_self]
    intro x hx
    have : x ≠ n := fun e => hc (by rw [← e]; simpa using hx)
    simpa using this
def mkStep (a : Rt × Bool) (p : Mk × Nat) : Rt × Bool :=
  match p.1 with
  | .put => if a.2 || decide (8 < (withF (p.2 : Int) false a.1.marks).length) then (a.1, true) else ({ a.1 with marks := withF (p.2 : Int) false a.1.marks }, false)
  | .drop => ({ a.1 with marks := a.1.marks.filter (fun x => decide (x ≠ (p.2 : Int))) }, a.2)
  | .pre => if a.2 || decide (12 < a.1.path.length + 1) then (a.1, true) else ({ a.1 with path := (p.2 : Int) :: a.1.path }, false)
def mkV (r : Rt) (l : Mks) : Rt × Bool := l.foldl mkStep (r, false)
theorem mkV_snoc (r : Rt) (l : Mks) (p : Mk × Nat) : mkV r (l ++ [p]) = mkStep (mkV r l) p := by unfold mkV; rw [List.foldl_append]; rfl
theorem mk_stuck : ∀ (l : Mks) (r : Rt), (l.foldl mkStep (r, true)).2 = true
  | [], _ => rfl
  | (s, n) :: l, r => by
    rw [List.foldl_cons]
    cases s with
    | put => exact mk_stuck l r
    | drop => exact mk_stuck l _
    | pre => exact mk_stuck l r
def mkGood (r : Rt) : Prop := r.marks.Pairwise (· < ·) ∧ r.marks.length ≤ 8 ∧ r.path.length ≤ 12
theorem mk_run : ∀ (l : Mks) (r : Rt), mkGood r → (if (mkV r l).2 = true then (performM (mkMs l) r).2 = 3 else performM (mkMs l) r = ((mkV r l).1, 1))
  | [], r, _ => by
    rw [if_neg (by simp [mkV])]; rfl
  | (s, n) :: l, r, hg => by
    obtain ⟨g1, g2, g3⟩ := hg
    have hm : mkMs ((s, n) :: l) = s.mean n :: mkMs l := rfl
    have hv : mkV r ((s, n) :: l) = l.foldl mkStep (mkStep (r, false) (s, n)) := rfl
    rw [hm, hv]
    cases s with
    | put =>
      have hw := with_sorted (n : Int) g1
      by_cases hc : r.marks.contains (n : Int) = true
      · rw [if_pos hc] at hw
        have e1 : mkStep (r, false) (.put, n) = (r, false) := by
          simp only [mkStep, hw, Bool.false_or]
          rw [if_neg (by simp; omega)]
        have e2 : Mk.mean .put n r = (r, 0) := by show markM n r = _; rw [markM, if_pos hc]
        rw [e1, performM, e2]
        exact mk_run l r ⟨g1, g2, g3⟩
      · have hcf : r.marks.contains (n : Int) = false := by simpa using hc
        rw [if_neg hc] at hw
        have hwl : (withF (n : Int) false r.marks).length = r.marks.length + 1 := by rw [hw, ins_len]
        by_cases h8 : r.marks.length = 8
        · have e1 : mkStep (r, false) (.put, n) = (r, true) := by
            simp only [mkStep, Bool.false_or]
            rw [if_pos (by rw [hwl]; simp; omega)]
          have e2 : Mk.mean .put n r = (r, 3) := by show markM n r = _; rw [markM, if_neg hc, if_pos h8]
          rw [e1, if_pos (mk_stuck l r), performM, e2]; rfl
        · have e1 : mkStep (r, false) (.put, n) = ({ r with marks := withF (n : Int) false r.marks }, false) := by
            simp only [mkStep, Bool.false_or]
            rw [if_neg (by rw [hwl]; simp; omega)]
          have e2 : Mk.mean .put n r = ({ r with marks := withF (n : Int) false r.marks }, 0) := by show markM n r = _; rw [markM, if_neg hc, if_neg h8, hw]
          rw [e1, performM, e2]
          refine mk_run l _ ⟨?_, ?_, g3⟩
          · show (withF (n : Int) false r.marks).Pairwise _
            rw [hw]; exact ins_sorted g1 (by simpa using hcf)
          · show (withF (n : Int) false r.marks).length ≤ 8
            omega
    | drop =>
      have hw := without_sorted (n : Int) g1
      have e2 : Mk.mean .drop n r = ({ r with marks := r.marks.filter (fun x => decide (x ≠ (n : Int))) }, 0) := by
        show unmarkM n r = _
        rw [unmarkM, hw]
        split <;> rfl
      have e1 : mkStep (r, false) (.drop, n) = ({ r with marks := r.marks.filter (fun x => decide (x ≠ (n : Int))) }, false) := rfl
      rw [e1, performM, e2]
      exact mk_run l _ ⟨g1.filter _, Nat.le_trans (List.length_filter_le _ _) g2, g3⟩
    | pre =>
      by_cases h12 : r.path.length = 12
      · have e1 : mkStep (r, false) (.pre, n) = (r, true) := by
          simp only [mkStep, Bool.false_or]
          rw [if_pos (by simp; omega)]
        have e2 : Mk.mean .pre n r = (r, 3) := by show prependM n r = _; rw [prependM, if_pos h12]
        rw [e1, if_pos (mk_stuck l r), performM, e2]; rfl
      · have e1 : mkStep (r, false) (.pre, n) = ({ r with path := (n : Int) :: r.path }, false) := by
          simp only [mkStep, Bool.false_or]
          rw [if_neg (by simp; omega)]
        have e2 : Mk.mean .pre n r = ({ r with path := (n : Int) :: r.path }, 0) := by show prependM n r = _; rw [prependM, if_neg h12]
        rw [e1, performM, e2]
        exact mk_run l _ ⟨g1, g2, by show r.path.length + 1 ≤ 12; omega⟩
theorem mk_runM (l : Mks) (r : Rt) (hg : mkGood r) : runM (mkMs l) r = if (mkV r l).2 = true then (rt0, 3) else ((mkV r l).1, 1) := by
  have h := mk_run l r hg
  unfold runM
  by_cases hf : (mkV r l).2 = true
  · rw [if_pos hf] at h
    rw [if_pos hf, h]; rfl
  · rw [if_neg hf] at h
    rw [if_neg hf, h]; rfl
end Go.Proofs.YtlhhdklendeikaaGreatDoor
