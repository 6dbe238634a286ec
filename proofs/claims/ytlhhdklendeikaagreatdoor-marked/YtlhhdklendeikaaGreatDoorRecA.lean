/- Reckoned: the text that is put together, and what it means; no program. -/
import Derived.Test.YtlhhdklendeikaaGreatDoorKnA
import Derived.Test.YtlhhdklendeikaaGreatDoorBase
namespace Go.Proofs.YtlhhdklendeikaaGreatDoor
open Go.RowKit

/-- a term of the sum -/
inductive Tm where
  | med
  | len
  | num (u : Nat)
def Tm.it : Tm → It
  | .med => .wo 5
  | .len => .wo 12
  | .num u => .nm u
def Tm.mean : Tm → AmtM
  | .med => medM
  | .len => lenM
  | .num u => constM (u : Int)
def Tm.kn : Tm → Int × Int
  | .med => (10, 0)
  | .len => (17, 0)
  | .num u => (2, (u : Int))
def Tm.ok : Tm → Bool
  | .num u => decide (u ≤ 4294967295)
  | _ => true
def Tm.val (M : Int) : Tm → Int
  | .med => M
  | .len => 3
  | .num u => (u : Int)
abbrev Tms := List (Bool × Tm)
def sgC (b : Bool) : UInt8 := if b then 45 else 43
def sgN (b : Bool) : Int := if b then -1 else 1
def tmIts (l : Tms) : List It := l.flatMap fun p => [.sp, .sg (sgC p.1), .sp, p.2.it]
def tmKN (l : Tms) : List (Int × Int) := l.flatMap fun p => [((if p.1 then 39 else 38), 0), p.2.kn]
def recEnd : List It := [.sg 59, .sp, .wo 2, .sg 59]
def recIts (l : Tms) : List It := [.wo 4, .sp, .sg 61, .sp, .wo 4] ++ (tmIts l ++ recEnd)
def sumMean (m : AmtM) (l : Tms) : AmtM := l.foldl (fun m p => plusM m p.2.mean (sgN p.1)) m
def recMs (l : Tms) : List StpM := [setPrefM (sumMean prefM l), concludeM 1]

theorem itKN_append (a b : List It) : ∃ c, itKN a = c ++ [(1, 0)] ∧ itKN (a ++ b) = c ++ itKN b := by
  induction a with
  | nil => exact ⟨[], rfl, rfl⟩
  | cons i a ih =>
    obtain ⟨c, h1, h2⟩ := ih
    cases i with
    | sp => exact ⟨c, h1, h2⟩
    | wo j => exact ⟨(5 + (j : Int), 0) :: c, by rw [itKN, h1]; rfl, by rw [List.cons_append, itKN, h2]; rfl⟩
    | sg x => exact ⟨(signK (x.toNat : Int), 0) :: c, by rw [itKN, h1]; rfl, by rw [List.cons_append, itKN, h2]; rfl⟩
    | nm u => exact ⟨(2, (u : Int)) :: c, by rw [itKN, h1]; rfl, by rw [List.cons_append, itKN, h2]; rfl⟩
theorem tm_kn (l : Tms) (b : List It) : itKN (tmIts l ++ b) = tmKN l ++ itKN b := by
  induction l with
  | nil => rfl
  | cons p l ih =>
    obtain ⟨s, t⟩ := p
    show itKN (.sp :: .sg (sgC s) :: .sp :: t.it :: (tmIts l ++ b)) = ((if s then 39 else 38), 0) :: t.kn :: (tmKN l ++ itKN b)
    have hs : signK ((sgC s).toNat : Int) = (if s then 39 else 38) := by cases s <;> decide +kernel
    rw [itKN, itKN, hs, itKN, ← ih]
    cases t <;> rfl
theorem rec_kn (l : Tms) : itKN (recIts l) = [(9, 0), (26, 0), (9, 0)] ++ (tmKN l ++ [(27, 0), (7, 0), (27, 0), (1, 0)]) := by
  have h1 : signK ((61 : UInt8).toNat : Int) = 26 := by decide +kernel
  have h2 : itKN recEnd = [(27, 0), (7, 0), (27, 0), (1, 0)] := by decide +kernel
  show itKN (.wo 4 :: .sp :: .sg 61 :: .sp :: .wo 4 :: (tmIts l ++ recEnd)) = _
  rw [itKN, itKN, itKN, h1, itKN, itKN, tm_kn, h2]; rfl
theorem tm_ok (l : Tms) (h : ∀ p ∈ l, p.2.ok = true) : itsOk (tmIts l ++ recEnd) = true ∧ ∀ t : Tm, t.ok = true → t.it.then_ (tmIts l ++ recEnd) = true := by
  induction l with
  | nil => exact ⟨by decide +kernel, fun t _ => by cases t <;> rfl⟩
  | cons p l ih =>
    obtain ⟨s, t⟩ := p
    obtain ⟨i1, i2⟩ := ih (fun q hq => h q (List.mem_cons_of_mem _ hq))
    have ht : t.ok = true := h (s, t) List.mem_cons_self
    refine ⟨?_, fun t' _ => by cases t' <;> rfl⟩
    show itsOk (.sp :: .sg (sgC s) :: .sp :: t.it :: (tmIts l ++ recEnd)) = true
    have hs : It.ok (.sg (sgC s)) = true := by cases s <;> decide +kernel
    have hi : t.it.ok = true := by
      cases t with
      | med => rfl
      | len => rfl
      | num u => exact ht
    rw [itsOk, itsOk, itsOk, itsOk, hs, hi, i1, i2 t ht]; rfl
theorem rec_ok (l : Tms) (h : ∀ p ∈ l, p.2.ok = true) : itsOk (recIts l) = true := by
  obtain ⟨i1, i2⟩ := tm_ok l h
  show itsOk (.wo 4 :: .sp :: .sg 61 :: .sp :: .wo 4 :: (tmIts l ++ recEnd)) = true
  have h1 : It.ok (.sg 61) = true := by decide +kernel
  have h3 : It.then_ (.wo 4) (tmIts l ++ recEnd) = true := by
    cases l <;> rfl
  rw [itsOk, itsOk, itsOk, itsOk, itsOk, h1, i1, h3]; rfl

theorem drop_kAt {its : List It} {k : Nat} {x : Int × Int} {r : List (Int × Int)} (h : (itKN its).drop k = x :: r) : kAt (itToks 0 its) k = x.1 ∧ nAt (itToks 0 its) k = x.2 ∧ (itKN its).drop (k + 1) = r := by
  have e : (itKN its)[k]? = some x := by
    have := congrArg (·[0]?) h
    simpa [List.getElem?_drop] using this
  refine ⟨by rw [its_kAt, e]; rfl, by rw [its_nAt, e]; rfl, ?_⟩
  rw [← List.drop_drop, h]; rfl
theorem tm_reads {its : List It} {t : Tm} {k : Nat} {r : List (Int × Int)} (h : (itKN its).drop k = t.kn :: r) : Reads (itToks 0 its) (termTw (itToks 0 its) 100 20) 0 k (k + 1) (some t.mean) := by
  obtain ⟨h1, h2, _⟩ := drop_kAt h
  cases t with
  | med => exact term_med' h1
  | len => exact term_len' h1
  | num u =>
    have := term_num' (ts := itToks 0 its) (n := 100) (f := 19) (d := 0) h1
    rw [h2] at this; exact this
theorem tms_terms {its : List It} : ∀ (l : Tms) (k : Nat) (m : AmtM) (x : Int × Int) (r : List (Int × Int)), x.1 ≠ 38 → x.1 ≠ 39 → (itKN its).drop k = tmKN l ++ x :: r →
    Terms (itToks 0 its) (termTw (itToks 0 its) 100 20) 0 k (k + 2 * l.length) m (sumMean m l) (l.length + 1)
  | [], k, m, x, r, h1, h2, h => by
    obtain ⟨e, _, _⟩ := drop_kAt (show (itKN its).drop k = x :: r from h)
    exact Terms.nil (by rw [e]; exact h1) (by rw [e]; exact h2)
  | (s, t) :: l, k, m, x, r, h1, h2, h => by
    obtain ⟨e, _, h3⟩ := drop_kAt (show (itKN its).drop k = ((if s then 39 else 38), 0) :: (t.kn :: (tmKN l ++ x :: r)) from h)
    have h4 := (drop_kAt h3).2.2
    have ih := tms_terms l (k + 1 + 1) (plusM m t.mean (sgN s)) x r h1 h2 h4
    have hk : k + 2 * ((s, t) :: l).length = k + 1 + 1 + 2 * l.length := by simp only [List.length_cons]; omega
    rw [hk]
    cases s with
    | true => exact Terms.minus e (tm_reads h3) ih
    | false => exact Terms.plus e (tm_reads h3) ih
theorem tmKN_len (l : Tms) : (tmKN l).length = 2 * l.length := by
  induction l with
  | nil => rfl
  | cons p l ih =>
    show (tmKN l).length + 1 + 1 = 2 * (l.length + 1)
    omega
theorem rec_many (l : Tms) (hn : l.length ≤ 8) : Many (itToks 0 (recIts l)) (stmS (itToks 0 (recIts l)) 1) 0 0 (3 + 2 * l.length + 3) (recMs l) ∧ kAt (itToks 0 (recIts l)) (3 + 2 * l.length + 3) = 1 := by
  have hk := rec_kn l
  have d0 : (itKN (recIts l)).drop 0 = (9, 0) :: (26, 0) :: (9, 0) :: (tmKN l ++ [(27, 0), (7, 0), (27, 0), (1, 0)]) := hk
  obtain ⟨a0, _, d1⟩ := drop_kAt d0
  obtain ⟨a1, _, d2⟩ := drop_kAt d1
  obtain ⟨a2, _, d3⟩ := drop_kAt d2
  have hlen := tmKN_len l
  have hT := tms_terms l 3 prefM (27, 0) [(7, 0), (27, 0), (1, 0)] (by decide) (by decide) d3
  have d4 : (itKN (recIts l)).drop (3 + 2 * l.length) = [(27, 0), (7, 0), (27, 0), (1, 0)] := by
    rw [← List.drop_drop, show (itKN (recIts l)).drop 3 = _ from d3, ← hlen, List.drop_left]
  obtain ⟨b0, _, d5⟩ := drop_kAt d4
  obtain ⟨b1, _, d6⟩ := drop_kAt d5
  obtain ⟨b2, _, d7⟩ := drop_kAt d6
  obtain ⟨b3, _, _⟩ := drop_kAt d7
  refine ⟨?_, b3⟩
  have hs : Reads (itToks 0 (recIts l)) (sumS (itToks 0 (recIts l))) 0 2 (3 + 2 * l.length) (some (sumMean prefM l)) := sum_reads (term_pref' a2) hT (by omega)
  refine .cons (k1 := 3 + 2 * l.length + 1) (stmt_pref' a0 rfl a1 hs b0) (.cons (k1 := 3 + 2 * l.length + 3) (stmt_accept' b1 rfl b2) (.nil (stmt_none' ?_ ?_)))
  · rw [b3]; decide
  · rw [b3]; rfl
theorem its_len (l : List It) (h : ∀ i ∈ l, i.bytes.length ≤ 10) : (itBytes l).length ≤ 10 * l.length := by
  induction l with
  | nil => simp [itBytes]
  | cons i l ih =>
    rw [itBytes_cons, List.length_append]
    have h1 := h i List.mem_cons_self
    have h2 := ih (fun j hj => h j (List.mem_cons_of_mem _ hj))
    simp only [List.length_cons]; omega
theorem tm_len (l : Tms) (h : ∀ p ∈ l, p.2.ok = true) : (itBytes (tmIts l)).length ≤ 13 * l.length := by
  induction l with
  | nil => simp [tmIts, itBytes]
  | cons p l ih =>
    obtain ⟨s, t⟩ := p
    have ht : t.ok = true := h (s, t) List.mem_cons_self
    have ih' := ih (fun q hq => h q (List.mem_cons_of_mem _ hq))
    show (itBytes (.sp :: .sg (sgC s) :: .sp :: t.it :: tmIts l)).length ≤ _
    have hl : t.it.bytes.length ≤ 10 := by
      cases t with
      | med => decide
      | len => decide
      | num u => exact dec_len (by simpa [Tm.ok] using ht)
    rw [itBytes_cons, itBytes_cons, itBytes_cons, itBytes_cons]
    have e1 : (It.bytes .sp).length = 1 := rfl
    have e2 : (It.bytes (.sg (sgC s))).length = 1 := rfl
    simp only [List.length_append, e1, e2, List.length_cons]
    omega
theorem rec_read (l : Tms) (hn : l.length ≤ 8) (h : ∀ p ∈ l, p.2.ok = true) : ReadOk (bsA (itBytes (recIts l))) (recMs l) := by
  obtain ⟨h1, h2⟩ := rec_many l hn
  have d0 : (itKN (recIts l)).drop 0 = (9, 0) :: (26, 0) :: (9, 0) :: (tmKN l ++ [(27, 0), (7, 0), (27, 0), (1, 0)]) := rec_kn l
  obtain ⟨a0, _, _⟩ := drop_kAt d0
  refine readOk_of (rec_ok l h) ?_ h1 (by simp [recMs]) (by simp [recMs]) h2 ?_ (by rw [a0]; decide) (by rw [a0]; decide)
  · have h3 := tm_len l h
    have h4 : (itBytes recEnd).length = 9 := by decide +kernel
    have h5 : (itBytes [.wo 4, .sp, .sg 61, .sp, .wo 4]).length = 11 := by decide +kernel
    rw [recIts, itBytes_append, itBytes_append, List.length_append, List.length_append]; omega
  · show (wd 4).data.toList ≠ []
    decide +kernel
end Go.Proofs.YtlhhdklendeikaaGreatDoor

namespace Go.Proofs.YtlhhdklendeikaaGreatDoor
open Go.RowKit

def recStep (M : Int) (a : Int × Bool) (p : Bool × Tm) : Int × Bool := (a.1 + sgN p.1 * p.2.val M, (a.2 || decide (a.1 + sgN p.1 * p.2.val M < 0)) || decide (4294967295 < a.1 + sgN p.1 * p.2.val M))
def recV (P M : Int) (l : Tms) : Int × Bool := l.foldl (recStep M) (P, false)
def recR (P M : Int) : Rt := ⟨0, 0, [1, 2, 3], [], P, M⟩
theorem recV_snoc (P M : Int) (l : Tms) (p : Bool × Tm) : recV P M (l ++ [p]) = recStep M (recV P M l) p := by unfold recV; rw [List.foldl_append]; rfl
theorem val_bd {M : Int} (h0 : 0 ≤ M) (h1 : M ≤ 4294967295) {t : Tm} (ht : t.ok = true) : 0 ≤ t.val M ∧ t.val M ≤ 4294967295 := by
  cases t with
  | med => exact ⟨h0, h1⟩
  | len => exact ⟨by show (0 : Int) ≤ 3; decide, by show (3 : Int) ≤ _; decide⟩
  | num u =>
    have : u ≤ 4294967295 := by simpa [Tm.ok] using ht
    exact ⟨by show (0 : Int) ≤ (u : Int); omega, by show (u : Int) ≤ _; omega⟩
theorem sg_val (s : Bool) (y : Int) : sgN s * y = if s then -y else y := by cases s <;> simp [sgN]
theorem mean_val (P M : Int) (t : Tm) : t.mean (recR P M) = some (t.val M) := by cases t <;> rfl
theorem step_bd {M : Int} (h0 : 0 ≤ M) (h1 : M ≤ 4294967295) {x C : Int} (hx : -C ≤ x ∧ x ≤ C) (b : Bool) {p : Bool × Tm} (hp : p.2.ok = true) : -(C + 4294967295) ≤ (recStep M (x, b) p).1 ∧ (recStep M (x, b) p).1 ≤ C + 4294967295 := by
  have hv := val_bd h0 h1 hp
  show -(C + 4294967295) ≤ x + sgN p.1 * p.2.val M ∧ x + sgN p.1 * p.2.val M ≤ C + 4294967295
  rw [sg_val]; split <;> omega
theorem recV_bd {P M : Int} (p0 : 0 ≤ P) (p1 : P ≤ 4294967295) (h0 : 0 ≤ M) (h1 : M ≤ 4294967295) (l : Tms) (h : ∀ p ∈ l, p.2.ok = true) : -(4294967295 * ((l.length : Int) + 1)) ≤ (recV P M l).1 ∧ (recV P M l).1 ≤ 4294967295 * ((l.length : Int) + 1) := by
  have key : ∀ (l : Tms) (x C : Int) (b : Bool), (∀ p ∈ l, p.2.ok = true) → -C ≤ x ∧ x ≤ C → -(C + 4294967295 * (l.length : Int)) ≤ (l.foldl (recStep M) (x, b)).1 ∧ (l.foldl (recStep M) (x, b)).1 ≤ C + 4294967295 * (l.length : Int) := by
    intro l
    induction l with
    | nil => intro x C b _ hx; simpa using hx
    | cons p l ih =>
      intro x C b hl hx
      have hs := step_bd h0 h1 hx b (hl p List.mem_cons_self)
      have := ih (recStep M (x, b) p).1 (C + 4294967295) (recStep M (x, b) p).2 (fun q hq => hl q (List.mem_cons_of_mem _ hq)) hs
      rw [List.foldl_cons]
      simp only [List.length_cons]
      have e : (((recStep M (x, b) p).1, (recStep M (x, b) p).2) : Int × Bool) = recStep M (x, b) p := rfl
      rw [e] at this
      omega
  have := key l P 4294967295 false h ⟨by omega, p1⟩
  unfold recV
  omega
theorem plusN_val {x y : Int} (s : Bool) (hx : -100000000000 ≤ x ∧ x ≤ 100000000000) (hy : 0 ≤ y ∧ y ≤ 4294967295) : plusN (sgN s) x y = if x + sgN s * y < 0 ∨ 4294967295 < x + sgN s * y then none else some (x + sgN s * y) := by
  have e1 : wr64 (sgN s * y) = sgN s * y := by rw [sg_val]; exact wr_id (by split <;> omega) (by split <;> omega)
  have e2 : wr64 (x + sgN s * y) = x + sgN s * y := by rw [sg_val]; exact wr_id (by split <;> omega) (by split <;> omega)
  unfold plusN
  rw [e1, e2]
  by_cases h : x + sgN s * y < 0 ∨ 4294967295 < x + sgN s * y
  · rw [if_pos h, if_neg (by omega)]
  · rw [if_neg h, if_pos (by omega)]
theorem rec_mean {P M : Int} (p0 : 0 ≤ P) (p1 : P ≤ 4294967295) (h0 : 0 ≤ M) (h1 : M ≤ 4294967295) (l : Tms) (hl : l.length ≤ 8) (h : ∀ p ∈ l, p.2.ok = true) : sumMean prefM l (recR P M) = if (recV P M l).2 = true then none else some (recV P M l).1 := by
  have key : ∀ (l : Tms) (m : AmtM) (x : Int) (b : Bool) (C : Int), (∀ p ∈ l, p.2.ok = true) → -C ≤ x ∧ x ≤ C → C + 4294967295 * (l.length : Int) ≤ 100000000000 → m (recR P M) = (if b = true then none else some x) → sumMean m l (recR P M) = if (l.foldl (recStep M) (x, b)).2 = true then none else some (l.foldl (recStep M) (x, b)).1 := by
    intro l
    induction l with
    | nil => intro m x b C _ _ _ hm; exact hm
    | cons p l ih =>
      intro m x b C hl hx hC hm
      have hp := hl p List.mem_cons_self
      have hv := val_bd h0 h1 hp
      have hs := step_bd h0 h1 hx b hp
      simp only [List.length_cons] at hC
      have hm' : plusM m p.2.mean (sgN p.1) (recR P M) = if (recStep M (x, b) p).2 = true then none else some (recStep M (x, b) p).1 := by
        unfold plusM
        rw [hm, mean_val]
        cases b with
        | true => simp [recStep]
        | false =>
          simp only [Bool.false_eq_true, if_false]
          rw [plusN_val p.1 (by omega) hv]
          simp only [recStep, Bool.false_or, Bool.or_eq_true, decide_eq_true_eq]
      have := ih _ (recStep M (x, b) p).1 (recStep M (x, b) p).2 (C + 4294967295) (fun q hq => hl q (List.mem_cons_of_mem _ hq)) hs (by omega) hm'
      exact this
  exact key l prefM P false 4294967295 h ⟨by omega, p1⟩ (by omega) rfl
/-- what the run gives -/
theorem rec_run {P M : Int} (p0 : 0 ≤ P) (p1 : P ≤ 4294967295) (h0 : 0 ≤ M) (h1 : M ≤ 4294967295) (l : Tms) (hl : l.length ≤ 8) (h : ∀ p ∈ l, p.2.ok = true) : performM (recMs l) (recR P M) = if (recV P M l).2 = true then (recR P M, 3) else (recR (recV P M l).1 M, 1) := by
  have hm := rec_mean p0 p1 h0 h1 l hl h
  unfold recMs
  rw [performM]
  unfold setPrefM
  rw [hm]
  by_cases hb : (recV P M l).2 = true
  · rw [if_pos hb, if_pos hb]; rfl
  · rw [if_neg hb, if_neg hb]; rfl

/-- the terms, out of raw numbers -/
def tmAt (x : Int) : Tm := if pickP x 5 = 0 then .med else if pickP x 5 = 1 then .len else .num (pickP x 4294967296).toNat
theorem tmAt_ok (x : Int) : (tmAt x).ok = true := by
  unfold tmAt
  have := pickP_bd (c := x) (n := 4294967296) (by decide)
  split
  · rfl
  · split
    · rfl
    · simp only [Tm.ok, decide_eq_true_eq]; omega
def tmsTo (nums : List Int) (signs : List Bool) (j : Nat) : Tms := (List.range j).map fun i => (signs.getD i false, tmAt (nums.getD i 0))
theorem tmsTo_snoc (nums : List Int) (signs : List Bool) (j : Nat) : tmsTo nums signs (j + 1) = tmsTo nums signs j ++ [(signs.getD j false, tmAt (nums.getD j 0))] := by unfold tmsTo; rw [List.range_succ, List.map_append]; rfl
theorem tmsTo_len (nums : List Int) (signs : List Bool) (j : Nat) : (tmsTo nums signs j).length = j := by simp [tmsTo]
theorem tmsTo_ok (nums : List Int) (signs : List Bool) (j : Nat) : ∀ p ∈ tmsTo nums signs j, p.2.ok = true := fun p hp => by
  simp only [tmsTo, List.mem_map] at hp
  obtain ⟨i, _, rfl⟩ := hp
  exact tmAt_ok _
/-- the text, as far as it is put together -/
def recS (l : Tms) : ByteArray := bsA ((wd 4).data.toList ++ itBytes (tmIts l))
theorem bsA_append (a b : List UInt8) : bsA a ++ bsA b = bsA (a ++ b) := by
  have h : (bsA a ++ bsA b).data = (bsA (a ++ b)).data := by rw [ByteArray.data_append]; simp
  cases hx : bsA a ++ bsA b with
  | mk d => rw [hx] at h; simp only at h; rw [h]
theorem recS_snoc (l : Tms) (s : Bool) (t : Tm) : (recS l ++ bsA [32, sgC s, 32]) ++ bsA t.it.bytes = recS (l ++ [(s, t)]) := by
  unfold recS
  rw [bsA_append, bsA_append]
  congr 1
  have : tmIts (l ++ [(s, t)]) = tmIts l ++ [.sp, .sg (sgC s), .sp, t.it] := by simp [tmIts]
  rw [this, itBytes_append]
  simp [itBytes, It.bytes]
theorem recS_all (l : Tms) : (bsA [112, 114, 101, 102, 32, 61, 32] ++ recS l) ++ bsA [59, 32, 97, 99, 99, 101, 112, 116, 59] = bsA (itBytes (recIts l)) := by
  unfold recS
  rw [bsA_append, bsA_append]
  congr 1
  rw [recIts, itBytes_append, itBytes_append]
  have h1 : itBytes [.wo 4, .sp, .sg 61, .sp, .wo 4] = [112, 114, 101, 102, 32, 61, 32] ++ (wd 4).data.toList := by decide +kernel
  have h2 : itBytes recEnd = [59, 32, 97, 99, 99, 101, 112, 116, 59] := by decide +kernel
  rw [h1, h2]; simp
end Go.Proofs.YtlhhdklendeikaaGreatDoor
