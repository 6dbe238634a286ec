/- Plain facts on bytes and numbers, no program: what a row of digits comes to, where a row of bytes ends. -/
import Derived.Test.YtgdeeodifnegiaaGreatDoorHide
import Derived.WalkKit
namespace Go.Proofs.YtgdeeodifnegiaaGreatDoor
open Go.RowKit


/-- the byte at a place, as a number (0 beyond the end) -/
def bt (s : ByteArray) (k : Nat) : Int := if h : k < s.size then (s[k].toNat : Int) else 0
theorem bt_eq {s : ByteArray} {k : Nat} (h : k < s.size) : bt s k = (s[k].toNat : Int) := by simp [bt, h]
theorem bt_lo (s : ByteArray) (k : Nat) : 0 ≤ bt s k := by unfold bt; split <;> omega
theorem bt_hi (s : ByteArray) (k : Nat) : bt s k ≤ 255 := by
  unfold bt; split
  · rename_i h; have := s[k].toNat_lt; omega
  · omega

def lowB (n : Int) : Bool := decide (97 ≤ n) && decide (n ≤ 122)
def digB (n : Int) : Bool := decide (48 ≤ n) && decide (n ≤ 57)
theorem digB_iff (n : Int) : digB n = true ↔ 48 ≤ n ∧ n ≤ 57 := by simp [digB]

/-- the number of the first k digits -/
def numTo (s : ByteArray) : Nat → Int
  | 0 => 0
  | k + 1 => 10 * numTo s k + (bt s k - 48)
abbrev digTo (s : ByteArray) (k : Nat) : Prop := ∀ j, j < k → digB (bt s j) = true
theorem digTo_succ {s : ByteArray} {k : Nat} (h : digTo s k) (hk : digB (bt s k) = true) : digTo s (k + 1) := by
  intro j hj
  by_cases e : j = k
  · subst e; exact hk
  · exact h j (by omega)
theorem numTo_bd {s : ByteArray} {k : Nat} (h : digTo s k) : 0 ≤ numTo s k ∧ numTo s k < 10 ^ k := by
  induction k with
  | zero => simp [numTo]
  | succ k ih =>
    have ⟨a, b⟩ := ih (fun j hj => h j (by omega))
    have hd := (digB_iff _).1 (h k (by omega))
    simp only [numTo, Int.pow_succ]
    omega

/-- 'number': -1 where it is none -/
def numP (s : ByteArray) (m : Int) : Int :=
  if s.size = 0 ∨ 10 < s.size ∨ (1 < s.size ∧ bt s 0 = 48) then -1
  else if digTo s s.size then (if m < numTo s s.size then -1 else numTo s s.size) else -1
theorem numP_no {s : ByteArray} {m : Int} (h : s.size = 0 ∨ 10 < s.size ∨ (1 < s.size ∧ bt s 0 = 48)) : numP s m = -1 := by
  unfold numP; rw [if_pos h]
theorem numP_bad {s : ByteArray} {m : Int} {k : Nat} (hk : k < s.size) (h : digB (bt s k) = false) : numP s m = -1 := by
  unfold numP
  split
  · rfl
  · rw [if_neg]
    intro hd; rw [hd k hk] at h; cases h
theorem numP_yes {s : ByteArray} {m : Int} (h : ¬ (s.size = 0 ∨ 10 < s.size ∨ (1 < s.size ∧ bt s 0 = 48))) (hd : digTo s s.size) :
    numP s m = if m < numTo s s.size then -1 else numTo s s.size := by
  unfold numP; rw [if_neg h, if_pos hd]
theorem numP_bd (s : ByteArray) (m : Int) : -1 ≤ numP s m ∧ numP s m < 10000000000 := by
  unfold numP
  split
  · omega
  · split
    · rename_i h hd
      have hb := numTo_bd hd
      have : (10 : Int) ^ s.size ≤ 10 ^ 10 := by
        have h1 : (10 : Nat) ^ s.size ≤ 10 ^ 10 := Nat.pow_le_pow_right (by omega) (by omega)
        exact_mod_cast h1
      split <;> omega
    · omega

/-- where the bytes from a place on that are of one sort end -/
def scan (p : Int → Bool) (s : ByteArray) : Nat → Nat → Nat
  | 0, i => i
  | f + 1, i => if i < s.size ∧ p (bt s i) = true then scan p s f (i + 1) else i
def scanTo (p : Int → Bool) (s : ByteArray) (i : Nat) : Nat := scan p s (s.size - i) i
theorem scanTo_step {p : Int → Bool} {s : ByteArray} {i : Nat} (h : i < s.size) (hp : p (bt s i) = true) : scanTo p s i = scanTo p s (i + 1) := by
  unfold scanTo
  have e : s.size - i = (s.size - (i + 1)) + 1 := by omega
  rw [e, scan, if_pos ⟨h, hp⟩]
theorem scanTo_stop {p : Int → Bool} {s : ByteArray} {i : Nat} (h : ¬ (i < s.size ∧ p (bt s i) = true)) : scanTo p s i = i := by
  unfold scanTo
  cases s.size - i with
  | zero => rfl
  | succ f => rw [scan, if_neg h]
theorem scan_bd {p : Int → Bool} {s : ByteArray} (f i : Nat) (h : i ≤ s.size) : i ≤ scan p s f i ∧ scan p s f i ≤ s.size := by
  induction f generalizing i with
  | zero => simp [scan]; omega
  | succ f ih =>
    rw [scan]; split
    · rename_i h; have := ih (i + 1) (by omega); omega
    · omega
theorem scanTo_bd {p : Int → Bool} {s : ByteArray} {i : Nat} (h : i ≤ s.size) : i ≤ scanTo p s i ∧ scanTo p s i ≤ s.size := scan_bd _ _ h
theorem scanTo_big {p : Int → Bool} {s : ByteArray} {i : Nat} (h : s.size ≤ i) : scanTo p s i = i := scanTo_stop (by omega)

theorem pow2_bd {k : Nat} (h : k ≤ 32) : (0 : Int) < (2 : Int) ^ k ∧ (2 : Int) ^ k ≤ 4294967296 := by
  have h1 : (2 : Nat) ^ k ≤ 4294967296 := Nat.le_trans (Nat.pow_le_pow_right (by omega) h) (by decide)
  have h2 : ((2 ^ k : Nat) : Int) = (2 : Int) ^ k := by simp
  have h3 : 0 < (2 : Nat) ^ k := Nat.pow_pos (by omega)
  omega
theorem pow2_succ (k : Nat) : (2 : Int) ^ (k + 1) = 2 * 2 ^ k := by rw [Int.pow_succ]; omega

/-- the grammar's words -/
def wordsL : List ByteArray := [⟨#[115, 101, 116]⟩, ⟨#[119, 97, 121]⟩, ⟨#[97, 99, 99, 101, 112, 116]⟩, ⟨#[114, 101, 106, 101, 99, 116]⟩, ⟨#[112, 114, 101, 102]⟩, ⟨#[109, 101, 100]⟩, ⟨#[109, 97, 114, 107]⟩, ⟨#[117, 110, 109, 97, 114, 107]⟩, ⟨#[112, 114, 101, 112, 101, 110, 100]⟩, ⟨#[105, 102]⟩, ⟨#[116, 104, 101, 110]⟩, ⟨#[101, 108, 115, 101]⟩, ⟨#[108, 101, 110]⟩, ⟨#[111, 114]⟩, ⟨#[97, 110, 100]⟩, ⟨#[110, 111, 116]⟩, ⟨#[110, 101, 116]⟩, ⟨#[105, 110]⟩, ⟨#[112, 97, 116, 104]⟩, ⟨#[108, 105, 107, 101]⟩, ⟨#[109, 97, 114, 107, 101, 100]⟩]
def amongTo (l : List ByteArray) (w : ByteArray) (k : Nat) : Bool := (l.take k).any (fun x => x.toList == w.toList)
def amongB (l : List ByteArray) (w : ByteArray) : Bool := l.any (fun x => x.toList == w.toList)
theorem amongTo_succ {l : List ByteArray} {w : ByteArray} {k : Nat} (h : k < l.length) : amongTo l w (k + 1) = (amongTo l w k || (l[k].toList == w.toList)) := by
  unfold amongTo
  rw [List.take_succ_eq_append_getElem h, List.any_append]
  simp
theorem amongB_of {l : List ByteArray} {w : ByteArray} {k : Nat} (h : k < l.length) (e : (l[k].toList == w.toList) = true) : amongB l w = true := by
  unfold amongB
  rw [List.any_eq_true]
  exact ⟨l[k], List.getElem_mem h, e⟩
theorem amongB_end {l : List ByteArray} {w : ByteArray} (h : amongTo l w l.length = false) : amongB l w = false := by
  unfold amongTo at h; rw [List.take_length] at h; exact h

def netB (a l : Int) : Bool := decide (0 ≤ a ∧ a ≤ 4294967295 ∧ 0 ≤ l ∧ l ≤ 32 ∧ a % 2 ^ (32 - l).toNat = 0)

/-- 'prefix', round by round: the address, the length, is it a net? -/
def prefGo (s : ByteArray) : Nat → Nat → Nat → Nat → Int → Int → Int × Int × Bool
  | 0, _, _, _, a, l => (a, l, netB a l)
  | f + 1, i, p, q, a, l =>
    if i < s.size ∧ (digB (bt s i) = true ∨ p = 4) then prefGo s f (i + 1) p q a l
    else if (i < s.size ∧ bt s i ≠ (if p = 3 then 47 else 46)) ∨ (s.size ≤ i ∧ p ≠ 4) then (a, l, false)
    else if numP (s.extract q i) (if p = 4 then 32 else 255) < 0 then (a, l, false)
    else if p = 4 then prefGo s f (i + 1) (p + 1) (i + 1) a (numP (s.extract q i) 32)
    else prefGo s f (i + 1) (p + 1) (i + 1) (256 * a + numP (s.extract q i) 255) l
def prefR (s : ByteArray) : Int × Int × Bool := prefGo s (s.size + 1) 0 0 0 0 0
theorem numP_le {s : ByteArray} {m : Int} (h : 0 ≤ m) : numP s m ≤ m := by
  unfold numP; split
  · omega
  · split
    · split <;> omega
    · omega
theorem pg_skip {s : ByteArray} {i p q : Nat} {a l : Int} (h : i < s.size) (hd : digB (bt s i) = true ∨ p = 4) :
    prefGo s (s.size + 1 - i) i p q a l = prefGo s (s.size + 1 - (i + 1)) (i + 1) p q a l := by
  rw [show s.size + 1 - i = (s.size + 1 - (i + 1)) + 1 by omega, prefGo, if_pos ⟨h, hd⟩]
theorem pg_bad {s : ByteArray} {i p q : Nat} {a l : Int} (h : i ≤ s.size) (hd : i < s.size → digB (bt s i) = false ∧ p ≠ 4) (hb : (i < s.size ∧ bt s i ≠ (if p = 3 then 47 else 46)) ∨ (s.size ≤ i ∧ p ≠ 4)) :
    prefGo s (s.size + 1 - i) i p q a l = (a, l, false) := by
  rw [show s.size + 1 - i = (s.size + 1 - (i + 1)) + 1 by omega, prefGo, if_neg (fun ⟨h1, h2⟩ => by have := hd h1; simp_all), if_pos hb]
theorem pg_none {s : ByteArray} {i p q : Nat} {a l : Int} (h : i ≤ s.size) (hd : i < s.size → digB (bt s i) = false ∧ p ≠ 4) (hb : ¬ ((i < s.size ∧ bt s i ≠ (if p = 3 then 47 else 46)) ∨ (s.size ≤ i ∧ p ≠ 4)))
    (hv : numP (s.extract q i) (if p = 4 then 32 else 255) < 0) : prefGo s (s.size + 1 - i) i p q a l = (a, l, false) := by
  rw [show s.size + 1 - i = (s.size + 1 - (i + 1)) + 1 by omega, prefGo, if_neg (fun ⟨h1, h2⟩ => by have := hd h1; simp_all), if_neg hb, if_pos hv]
theorem pg_four {s : ByteArray} {i q : Nat} {a l : Int} (h : i = s.size)
    (hv : ¬ numP (s.extract q i) 32 < 0) : prefGo s (s.size + 1 - i) i 4 q a l = prefGo s (s.size + 1 - (i + 1)) (i + 1) 5 (i + 1) a (numP (s.extract q i) 32) := by
  rw [show s.size + 1 - i = (s.size + 1 - (i + 1)) + 1 by omega, prefGo, if_neg (by omega), if_neg (by simp; omega), if_neg (by simpa using hv), if_pos rfl]
theorem pg_part {s : ByteArray} {i p q : Nat} {a l : Int} (h : i < s.size) (hd : digB (bt s i) = false) (hp : p ≠ 4) (hb : bt s i = (if p = 3 then 47 else 46))
    (hv : ¬ numP (s.extract q i) 255 < 0) : prefGo s (s.size + 1 - i) i p q a l = prefGo s (s.size + 1 - (i + 1)) (i + 1) (p + 1) (i + 1) (256 * a + numP (s.extract q i) 255) l := by
  rw [show s.size + 1 - i = (s.size + 1 - (i + 1)) + 1 by omega, prefGo, if_neg (by simp [hd, hp]), if_neg (by simp only [hb]; omega), if_neg (by rw [if_neg hp]; exact hv), if_neg hp]
theorem pg_end {s : ByteArray} {p q : Nat} {a l : Int} : prefGo s (s.size + 1 - (s.size + 1)) (s.size + 1) p q a l = (a, l, netB a l) := by
  rw [Nat.sub_self, prefGo]

theorem pow256_succ {a v : Int} {p : Nat} (h : a < 256 ^ p) (hv : v ≤ 255) : 256 * a + v < 256 ^ (p + 1) := by
  rw [Int.pow_succ]; omega
theorem pow256_bd {a : Int} {p : Nat} (hp : p ≤ 4) (h : a < 256 ^ p) : a ≤ 4294967295 := by
  have h1 : (256 : Nat) ^ p ≤ 4294967296 := Nat.le_trans (Nat.pow_le_pow_right (by omega) hp) (by decide)
  have h2 : ((256 ^ p : Nat) : Int) = (256 : Int) ^ p := by simp
  omega

def blankB (n : Int) : Bool := n == 32 || n == 10
def numeB (n : Int) : Bool := digB n || n == 46 || n == 47
def signA : ByteArray := ⟨#[61, 59, 44, 123, 125, 91, 93, 40, 41, 124, 42, 63, 43, 45, 60, 46]⟩
def signTo (n : Int) (k : Nat) : Prop := ∀ m, m < k → (bt signA m == n) = false
def signB (n : Int) : Bool := (List.range 16).any (fun j => bt signA j == n)
theorem signB_of {n : Int} {k : Nat} (hk : k < 16) (h : (bt signA k == n) = true) : signB n = true := by
  unfold signB; rw [List.any_eq_true]; exact ⟨k, by simpa using hk, h⟩
theorem signB_no {n : Int} (h : signTo n 16) : signB n = false := by
  unfold signB; rw [List.any_eq_false]; intro j hj; rw [h j (by simpa using hj)]; simp
theorem signTo_succ {n : Int} {k : Nat} (h : signTo n k) (hk : (bt signA k == n) = false) : signTo n (k + 1) := by
  intro m hm
  by_cases e : m = k
  · subst e; exact hk
  · exact h m (by omega)

/-- a token: its kind (a byte), its text, its place -/
structure Tok where
  kind : Int
  text : ByteArray
  at_ : Nat
/-- the token of a text at a place that is no blank, and the place behind it -/
def tokAt (s : ByteArray) (i : Nat) : Tok × Nat :=
  if s.size ≤ i then (⟨46, ⟨#[]⟩, s.size⟩, i)
  else if lowB (bt s i) = true then
    (if amongB wordsL (s.extract i (scanTo lowB s i)) = true then (⟨107, s.extract i (scanTo lowB s i), i⟩, scanTo lowB s i)
     else if scanTo lowB s i - i ≤ 8 then (⟨110, s.extract i (scanTo lowB s i), i⟩, scanTo lowB s i)
     else (⟨33, ⟨#[]⟩, i⟩, scanTo lowB s i))
  else if digB (bt s i) = true then
    (if 0 ≤ numP (s.extract i (scanTo numeB s i)) 4294967295 then (⟨48, s.extract i (scanTo numeB s i), i⟩, scanTo numeB s i)
     else if (prefR (s.extract i (scanTo numeB s i))).2.2 = true then (⟨47, s.extract i (scanTo numeB s i), i⟩, scanTo numeB s i)
     else (⟨33, ⟨#[]⟩, i⟩, scanTo numeB s i))
  else if signB (bt s i) = true then (⟨115, s.extract i (i + 1), i⟩, i + 1)
  else (⟨33, ⟨#[]⟩, i⟩, i + 1)
def cutP (s : ByteArray) (i : Nat) : Tok × Nat := tokAt s (scanTo blankB s i)

end Go.Proofs.YtgdeeodifnegiaaGreatDoor

namespace Go.Proofs.YtgdeeodifnegiaaGreatDoor
open Go.RowKit

structure TokP where
  kind : Int
  at_ : Int
  text : ByteArray
  number : Int
  addr : Int
  len : Int

def tok0 : TokP := ⟨0, 0, ⟨#[]⟩, 0, 0, 0⟩

/-- a route, plain -/
structure Rt where
  addr : Int
  len : Int
  path : List Int
  marks : List Int
  pref : Int
  med : Int

abbrev AmtM := Rt → Option Int
abbrev CndM := Rt → Option Bool
abbrev SetM := Int → Int → Bool
/-- a way: the paths that are like it -/
abbrev WayM := List Int → Prop
/-- of places as bits: r tells where the way may come to from the places f -/
def Bits (L : WayM) (l : List Int) (f r : Nat) : Prop := ∀ j, r.testBit j = true ↔ ∃ i, f.testBit i = true ∧ i ≤ j ∧ j ≤ l.length ∧ L ((l.take j).drop i)
abbrev StpM := Rt → Rt × Int

def constM (n : Int) : AmtM := fun _ => some n
def prefM : AmtM := fun r => some r.pref
def medM : AmtM := fun r => some r.med
def lenM : AmtM := fun r => some (r.path.length : Int)
abbrev wr64 (x : Int) : Int := wrap64 x
def plusN (s x y : Int) : Option Int := if 0 ≤ wr64 (x + wr64 (s * y)) ∧ wr64 (x + wr64 (s * y)) ≤ 4294967295 then some (wr64 (x + wr64 (s * y))) else none
def plusM (a b : AmtM) (s : Int) : AmtM := fun r =>
  match a r with
  | none => none
  | some x => match b r with
    | none => none
    | some y => plusN s x y
def orM (a b : CndM) : CndM := fun r =>
  match a r with
  | none => none
  | some true => some true
  | some false => b r
def andM (a b : CndM) : CndM := fun r =>
  match a r with
  | none => none
  | some false => some false
  | some true => b r
def notM (a : CndM) : CndM := fun r => (a r).map (fun x => !x)
def cmpM (f : Int → Int → Bool) (a b : AmtM) : CndM := fun r =>
  match a r with
  | none => none
  | some x => match b r with
    | none => none
    | some y => some (f x y)
def eqM (a b : AmtM) : CndM := cmpM (fun x y => decide (x = y)) a b
def ltM (a b : AmtM) : CndM := cmpM (fun x y => decide (x < y)) a b
def netInM (s : SetM) : CndM := fun r => some (s r.addr r.len)
noncomputable def likeM (w : WayM) : CndM := fun r => some (@decide (w r.path) (Classical.propDecidable _))
def markedM (n : Int) : CndM := fun r => some (r.marks.contains n)

def performM : List StpM → Rt → Rt × Int
  | [], r => (r, 0)
  | s :: l, r => if (s r).2 = 0 then performM l (s r).1 else s r
def concludeM (v : Int) : StpM := fun r => (r, v)
def setPrefM (a : AmtM) : StpM := fun r => match a r with | none => (r, 3) | some n => ({ r with pref := n }, 0)
def setMedM (a : AmtM) : StpM := fun r => match a r with | none => (r, 3) | some n => ({ r with med := n }, 0)
/-- where a number stands, or would stand, in a rising list -/
def placeM (l : List Int) (n : Int) : Nat := (l.filter (fun x => decide (x < n))).length
def markM (n : Int) : StpM := fun r => if r.marks.contains n then (r, 0) else if r.marks.length = 8 then (r, 3) else ({ r with marks := r.marks.take (placeM r.marks n) ++ n :: r.marks.drop (placeM r.marks n) }, 0)
def unmarkM (n : Int) : StpM := fun r => if r.marks.contains n then ({ r with marks := r.marks.erase n }, 0) else (r, 0)
def prependM (n : Int) : StpM := fun r => if r.path.length = 12 then (r, 3) else ({ r with path := n :: r.path }, 0)
def chooseM (c : CndM) (yes no : List StpM) : StpM := fun r =>
  match c r with
  | none => (r, 3)
  | some true => performM yes r
  | some false => performM no r

structure DefP where
  name : ByteArray
  set : Option SetM
  way : Option WayM

/-- the reader's state; a fault: its place -/
structure RS where
  next : Nat
  depth : Int
  defs : List DefP
  page : List UInt8
  gap : ByteArray
  syn : Option Int
  nam : Option Int
  num : Option Int

def rs0 : RS := ⟨0, 0, [], [], ⟨#[]⟩, none, none, none⟩
def tellR (f : Option Int) (at_ : Int) : Option Int := match f with | none => some at_ | some x => some x
def tokR (ts : List TokP) (st : RS) : TokP := ts[st.next]?.getD tok0
def kindR (ts : List TokP) (st : RS) : Int := if st.syn.isSome then 0 else (tokR ts st).kind
def failR (ts : List TokP) (st : RS) : RS := { st with syn := tellR st.syn (tokR ts st).at_ }
def gapS : ByteArray := ⟨#[32]⟩
def gapN : ByteArray := ⟨#[10]⟩
def addR (st : RS) (t : TokP) : RS :=
  { st with page := if t.kind = 27 ∨ t.kind = 28 then st.page ++ t.text.data.toList else (st.page ++ st.gap.data.toList) ++ t.text.data.toList, gap := if t.kind = 27 then gapN else gapS }
def endLineR (st : RS) : RS := { st with gap := gapN }
/-- the next token is taken (it is of the right kind) -/
def goR (ts : List TokP) (st : RS) : RS := addR { st with next := st.next + 1 } (tokR ts st)
def takeR (ts : List TokP) (k : Int) (st : RS) : RS × TokP := if kindR ts st = k then (goR ts st, tokR ts st) else (failR ts st, tok0)
def openR (ts : List TokP) (k : Int) (st : RS) : RS :=
  let st1 := (takeR ts k (if st.depth = 8 then failR ts st else st)).1
  { st1 with depth := wr64 (st1.depth + 1) }
def decR (st : RS) : RS := { st with depth := wr64 (st.depth - 1) }
def shutR (ts : List TokP) (k : Int) (st : RS) : RS := decR (takeR ts k st).1
def tellName (st : RS) (at_ : Int) : RS := { st with nam := tellR st.nam at_ }
def tellNum (st : RS) (at_ : Int) : RS := { st with num := tellR st.num at_ }
def isDefR (st : RS) (name : ByteArray) : Bool := st.defs.any (fun d => d.name.toList == name.toList)
def newNameR (ts : List TokP) (st : RS) : RS × ByteArray :=
  let p := takeR ts 4 st
  (if isDefR p.1 p.2.text then tellName p.1 p.2.at_ else p.1, p.2.text)
def findSet : List DefP → ByteArray → Option SetM
  | [], _ => none
  | d :: l, n => if (d.name.toList == n.toList) && d.set.isSome then d.set else findSet l n
def findWay : List DefP → ByteArray → Option WayM
  | [], _ => none
  | d :: l, n => if (d.name.toList == n.toList) && d.way.isSome then d.way else findWay l n
def useSetR (ts : List TokP) (st : RS) : RS × Option SetM :=
  let p := takeR ts 4 st
  match findSet p.1.defs p.2.text with
  | some s => (p.1, some s)
  | none => (tellName p.1 p.2.at_, none)
def useWayR (ts : List TokP) (st : RS) : RS × Option WayM :=
  let p := takeR ts 4 st
  match findWay p.1.defs p.2.text with
  | some s => (p.1, some s)
  | none => (tellName p.1 p.2.at_, none)
def withinR (ts : List TokP) (lo hi : Int) (st : RS) : RS × Int :=
  let p := takeR ts 2 st
  (if p.2.number < lo ∨ hi < p.2.number then tellNum p.1 p.2.at_ else p.1, p.2.number)

/-- SUM -/
def plusO (a b : Option AmtM) (s : Int) : Option AmtM := match a with | none => none | some x => match b with | none => none | some y => some (plusM x y s)
def sumLp (ts : List TokP) (term : RS → Option (RS × Option AmtM)) : Nat → RS → Option AmtM → Option (RS × Option AmtM)
  | 0, _, _ => none
  | n + 1, st, a =>
    if kindR ts st = 38 then (match term (goR ts st) with | none => none | some (st1, b) => sumLp ts term n st1 (plusO a b 1))
    else if kindR ts st = 39 then (match term (goR ts st) with | none => none | some (st1, b) => sumLp ts term n st1 (plusO a b (-1)))
    else some (st, a)
def sumBy (ts : List TokP) (term : RS → Option (RS × Option AmtM)) (n : Nat) (st : RS) : Option (RS × Option AmtM) :=
  match term st with
  | none => none
  | some (st1, a) => sumLp ts term n st1 a
def termTw (ts : List TokP) (n : Nat) : Nat → RS → Option (RS × Option AmtM)
  | 0, _ => none
  | f + 1, st =>
    if kindR ts st = 2 then some (goR ts st, some (constM (tokR ts st).number))
    else if kindR ts st = 9 then some (goR ts st, some prefM)
    else if kindR ts st = 10 then some (goR ts st, some medM)
    else if kindR ts st = 17 then some (goR ts st, some lenM)
    else if kindR ts st = 33 then
      (match sumBy ts (termTw ts n f) n (openR ts 33 st) with
       | none => none
       | some (st1, a) => some (shutR ts 34 st1, a))
    else some (failR ts st, none)
def sumTw (ts : List TokP) (n f : Nat) (st : RS) : Option (RS × Option AmtM) := sumBy ts (termTw ts n f) n st

/-- COND -/
def binO (m : CndM → CndM → CndM) (a b : Option CndM) : Option CndM := match a with | none => none | some x => match b with | none => none | some y => some (m x y)
def binLp (ts : List TokP) (k : Int) (m : CndM → CndM → CndM) (read : RS → Option (RS × Option CndM)) : Nat → RS → Option CndM → Option (RS × Option CndM)
  | 0, _, _ => none
  | n + 1, st, a =>
    if kindR ts st = k then (match read (goR ts st) with | none => none | some (st1, b) => binLp ts k m read n st1 (binO m a b))
    else some (st, a)
def binBy (ts : List TokP) (k : Int) (m : CndM → CndM → CndM) (read : RS → Option (RS × Option CndM)) (n : Nat) (st : RS) : Option (RS × Option CndM) :=
  match read st with
  | none => none
  | some (st1, a) => binLp ts k m read n st1 a
def andBy (ts : List TokP) (nt : RS → Option (RS × Option CndM)) (n : Nat) : RS → Option (RS × Option CndM) := binBy ts 19 andM nt n
def condBy (ts : List TokP) (nt : RS → Option (RS × Option CndM)) (n : Nat) : RS → Option (RS × Option CndM) := binBy ts 18 orM (andBy ts nt n) n
def cmpO (m : AmtM → AmtM → CndM) (a b : Option AmtM) : Option CndM := match a with | none => none | some x => match b with | none => none | some y => some (m x y)
def compareBy (ts : List TokP) (sum : RS → Option (RS × Option AmtM)) (st : RS) : Option (RS × Option CndM) :=
  match sum st with
  | none => none
  | some (st1, a) =>
    if kindR ts st1 = 40 then (match sum (goR ts st1) with | none => none | some (st2, b) => some (st2, cmpO ltM a b))
    else (match sum (takeR ts 26 st1).1 with | none => none | some (st2, b) => some (st2, cmpO eqM a b))
/-- a comparison, where nothing else can stand -/
def notC (ts : List TokP) (sum : RS → Option (RS × Option AmtM)) (st : RS) : Option (RS × Option CndM) :=
  if kindR ts st = 20 ∨ kindR ts st = 21 ∨ kindR ts st = 23 ∨ kindR ts st = 25 ∨ kindR ts st = 31 then none else compareBy ts sum st
noncomputable def notTw (ts : List TokP) (n : Nat) (sum : RS → Option (RS × Option AmtM)) : Nat → RS → Option (RS × Option CndM)
  | 0, _ => none
  | f + 1, st =>
    if kindR ts st = 20 then
      (match notTw ts n sum f (openR ts 20 st) with
       | none => none
       | some (st1, c) => some (decR st1, c.map notM))
    else if kindR ts st = 21 then some ((useSetR ts (takeR ts 22 (goR ts st)).1).1, (useSetR ts (takeR ts 22 (goR ts st)).1).2.map netInM)
    else if kindR ts st = 23 then some ((useWayR ts (takeR ts 24 (goR ts st)).1).1, (useWayR ts (takeR ts 24 (goR ts st)).1).2.map likeM)
    else if kindR ts st = 25 then some ((withinR ts 0 65535 (goR ts st)).1, some (markedM (withinR ts 0 65535 (goR ts st)).2))
    else if kindR ts st = 31 then
      (match condBy ts (notTw ts n sum f) n (openR ts 31 st) with
       | none => none
       | some (st1, c) => some (shutR ts 32 st1, c))
    else compareBy ts sum st

/-- STATEMENTs -/
def allO : List (Option StpM) → Option (List StpM)
  | [] => some []
  | none :: _ => none
  | some x :: l => (allO l).map (fun t => x :: t)
def chooseO (c : Option CndM) (yes no : List (Option StpM)) : Option StpM :=
  match c with
  | none => none
  | some x => match allO yes with
    | none => none
    | some y => match allO no with
      | none => none
      | some z => some (chooseM x y z)
def moreLp {α : Type} (read : RS → Option (RS × Option α)) : Nat → RS → List α → Option (RS × List α)
  | 0, _, _ => none
  | n + 1, st, l =>
    match read st with
    | none => none
    | some (st1, none) => some (st1, l)
    | some (st1, some x) => moreLp read n st1 (l ++ [x])
def blockBy (ts : List TokP) (stmt : RS → Option (RS × Option (Option StpM))) (n : Nat) (st : RS) : Option (RS × List (Option StpM)) :=
  match moreLp stmt n (endLineR (openR ts 29 st)) [] with
  | none => none
  | some (st1, l) => some (endLineR (shutR ts 30 st1), l)
def endR (ts : List TokP) (st : RS) : RS := (takeR ts 27 st).1
def stmtTw (ts : List TokP) (n : Nat) (ok : Int → Bool) (sum : RS → Option (RS × Option AmtM)) (cnd : RS → Option (RS × Option CndM)) : Nat → RS → Option (RS × Option (Option StpM))
  | 0, _ => none
  | f + 1, st =>
    if ok (kindR ts st) = false then none
    else if kindR ts st = 14 then
      (match cnd (goR ts st) with
       | none => none
       | some (st1, c) =>
         match blockBy ts (stmtTw ts n ok sum cnd f) n (takeR ts 15 st1).1 with
         | none => none
         | some (st2, yes) =>
           if kindR ts st2 = 16 then
             (match blockBy ts (stmtTw ts n ok sum cnd f) n (goR ts st2) with
              | none => none
              | some (st3, no) => some (st3, some (chooseO c yes no)))
           else some (st2, some (chooseO c yes [])))
    else if kindR ts st = 7 then some (endR ts (goR ts st), some (some (concludeM 1)))
    else if kindR ts st = 8 then some (endR ts (goR ts st), some (some (concludeM 2)))
    else if kindR ts st = 9 then
      (match sum (takeR ts 26 (goR ts st)).1 with
       | none => none
       | some (st1, a) => some (endR ts st1, some (a.map setPrefM)))
    else if kindR ts st = 10 then
      (match sum (takeR ts 26 (goR ts st)).1 with
       | none => none
       | some (st1, a) => some (endR ts st1, some (a.map setMedM)))
    else if kindR ts st = 11 then some (endR ts (withinR ts 0 65535 (goR ts st)).1, some (some (markM (withinR ts 0 65535 (goR ts st)).2)))
    else if kindR ts st = 12 then some (endR ts (withinR ts 0 65535 (goR ts st)).1, some (some (unmarkM (withinR ts 0 65535 (goR ts st)).2)))
    else if kindR ts st = 13 then some (endR ts (withinR ts 1 65535 (goR ts st)).1, some (some (prependM (withinR ts 1 65535 (goR ts st)).2)))
    else some (st, none)
/-- the whole, behind the definitions -/
def policyTw (ts : List TokP) (n : Nat) (stmt : RS → Option (RS × Option (Option StpM))) (st : RS) : Option (RS × List (Option StpM)) :=
  match moreLp stmt n st [] with
  | none => none
  | some (st1, l) =>
    let st2 := if l.length = 0 then failR ts st1 else st1
    some (if kindR ts st2 = 1 then st2 else failR ts st2, l)
end Go.Proofs.YtgdeeodifnegiaaGreatDoor
