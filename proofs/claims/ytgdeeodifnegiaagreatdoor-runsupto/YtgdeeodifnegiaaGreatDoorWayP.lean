/- Ways, plain: what a way reads, as a set of places in bits. -/
import Derived.Test.YtgdeeodifnegiaaGreatDoorPlainA
import Derived.Laws.BitsAllLaws
import Derived.Test.YtgdeeodifnegiaaGreatDoorRunE
import Derived.Test.YtgdeeodifnegiaaGreatDoorSetA
namespace Go.Proofs.YtgdeeodifnegiaaGreatDoor
open Go.RowKit

theorem Bits.lt {L : WayM} {l : List Int} {f r : Nat} (h : Bits L l f r) : r < 2 ^ (l.length + 1) := by
  refine Nat.lt_pow_two_of_testBit _ (fun i hi => ?_)
  cases hb : r.testBit i with
  | false => rfl
  | true =>
    obtain ⟨_, _, _, h3, _⟩ := (h i).1 hb
    omega
theorem Bits.lt16 {L : WayM} {l : List Int} {f r : Nat} (h : Bits L l f r) (hl : l.length ≤ 12) : r < 65536 :=
  Nat.lt_of_lt_of_le h.lt (Nat.le_trans (Nat.pow_le_pow_right (by decide) (show l.length + 1 ≤ 13 by omega)) (by decide))
theorem bit_le {f n i : Nat} (h : f < 2 ^ (n + 1)) (hb : f.testBit i = true) : i ≤ n := by
  rcases Nat.lt_or_ge n i with h1 | h1
  · have h2 := Nat.testBit_lt_two_pow (Nat.lt_of_lt_of_le h (Nat.pow_le_pow_right (by decide) (show n + 1 ≤ i by omega)))
    rw [h2] at hb; cases hb
  · exact h1
theorem seg_self (l : List Int) (i : Nat) : (l.take i).drop i = [] := by simp
theorem seg_len {l : List Int} {i j : Nat} (hj : j ≤ l.length) : ((l.take j).drop i).length = j - i := by simp; omega
/-- a part of a path that is parted: where -/
theorem seg_append {l a b : List Int} {i j : Nat} (hi : i ≤ j) (hj : j ≤ l.length) (h : (l.take j).drop i = a ++ b) : i + a.length ≤ j ∧ (l.take (i + a.length)).drop i = a ∧ (l.take j).drop (i + a.length) = b := by
  have h0 : a.length + b.length = j - i := by rw [← List.length_append, ← h, seg_len hj]
  have h1 : i + a.length ≤ j := by omega
  refine ⟨h1, ?_, ?_⟩
  · have h2 : ((l.take j).drop i).take a.length = a := by rw [h]; simp
    have h3 : ((l.take j).drop i).take a.length = (l.take (i + a.length)).drop i := by
      rw [List.take_drop, List.take_take, Nat.min_eq_left h1]
    rw [← h3]; exact h2
  · rw [← List.drop_drop, h]
    simp
theorem seg_join {l : List Int} {i k j : Nat} (hi : i ≤ k) (hk : k ≤ j) : (l.take j).drop i = (l.take k).drop i ++ (l.take j).drop k := by
  have h1 : l.take k = (l.take j).take k := by rw [List.take_take, Nat.min_eq_left hk]
  rw [h1]
  generalize l.take j = m
  have h2 : m.drop i = (m.drop i).take (k - i) ++ (m.drop i).drop (k - i) := (List.take_append_drop _ _).symm
  rw [h2, List.take_drop, List.drop_drop, Nat.add_sub_cancel' hi]
/-! the ways, by what they read -/
def sysL (fits : Int → Bool) : WayM := fun p => ∃ s, p = [s] ∧ fits s = true
def nilL : WayM := fun p => p = []
def catL (A B : WayM) : WayM := fun p => ∃ a b, p = a ++ b ∧ A a ∧ B b
def orL (A B : WayM) : WayM := fun p => A p ∨ B p
def optL (A : WayM) : WayM := fun p => p = [] ∨ A p
inductive PlusL (A : WayM) : List Int → Prop where
  | one {p : List Int} : A p → PlusL A p
  | more {a b : List Int} : A a → PlusL A b → PlusL A (a ++ b)
theorem PlusL.snoc {A : WayM} {a b : List Int} (h : PlusL A a) (hb : A b) : PlusL A (a ++ b) := by
  induction h with
  | one h => exact .more h (.one hb)
  | more h _ ih => rw [List.append_assoc]; exact .more h ih
/-- all of a row, one behind the other -/
def rowL (ms : List WayM) : WayM := ms.foldl catL nilL
def anyL (ms : List WayM) : WayM := ms.foldl orL (fun _ => False)
def repL (zero many : Bool) (A : WayM) : WayM := if zero then optL (if many then PlusL A else A) else if many then PlusL A else A
theorem rowL_snoc (ms : List WayM) (m : WayM) : rowL (ms ++ [m]) = catL (rowL ms) m := by simp [rowL]
theorem anyL_snoc (ms : List WayM) (m : WayM) : anyL (ms ++ [m]) = orL (anyL ms) m := by simp [anyL]
theorem catL_nil (A : WayM) : catL nilL A = A := by
  funext p
  refine propext ⟨fun ⟨a, b, h1, h2, h3⟩ => ?_, fun h => ⟨[], p, rfl, rfl, h⟩⟩
  have h2 : a = [] := h2
  subst h2
  rw [h1]; exact h3
theorem orL_false (A : WayM) : orL (fun _ => False) A = A := by
  funext p
  exact propext ⟨fun h => h.elim False.elim id, Or.inr⟩
theorem rowL_one (A : WayM) : rowL [A] = A := catL_nil A
theorem rowL_two (A B : WayM) : rowL [A, B] = catL A B := by
  show catL (catL nilL A) B = _
  rw [catL_nil]
theorem anyL_one (A : WayM) : anyL [A] = A := orL_false A
theorem anyL_two (A B : WayM) : anyL [A, B] = orL A B := by
  show orL (orL _ A) B = _
  rw [orL_false]
/-! the bits -/
theorem Bits.nil {l : List Int} {f : Nat} (h : f < 2 ^ (l.length + 1)) : Bits nilL l f f := by
  intro j
  refine ⟨fun hb => ⟨j, hb, Nat.le_refl _, bit_le h hb, seg_self l j⟩, fun ⟨i, hi, hij, hj, hs⟩ => ?_⟩
  have h1 : (l.take j).drop i = [] := hs
  have h2 := seg_len (i := i) hj
  rw [h1] at h2
  have h3 : i = j := by simp at h2; omega
  rw [← h3]; exact hi
theorem Bits.cat {A B : WayM} {l : List Int} {f g r : Nat} (h1 : Bits A l f g) (h2 : Bits B l g r) : Bits (catL A B) l f r := by
  intro j
  refine ⟨fun hb => ?_, fun ⟨i, hi, hij, hj, a, b, hp, ha, hb⟩ => ?_⟩
  · obtain ⟨k, hk, hkj, hj, hB⟩ := (h2 j).1 hb
    obtain ⟨i, hi, hik, _, hA⟩ := (h1 k).1 hk
    exact ⟨i, hi, Nat.le_trans hik hkj, hj, _, _, seg_join hik hkj, hA, hB⟩
  · obtain ⟨q1, q2, q3⟩ := seg_append hij hj hp
    refine (h2 j).2 ⟨i + a.length, (h1 _).2 ⟨i, hi, Nat.le_add_right _ _, Nat.le_trans q1 hj, ?_⟩, q1, hj, ?_⟩
    · rw [q2]; exact ha
    · rw [q3]; exact hb
theorem Bits.none (l : List Int) (f : Nat) : Bits (fun _ => False) l f 0 := by
  intro j
  simp
theorem Bits.or {A B : WayM} {l : List Int} {f t r : Nat} (h1 : Bits A l f t) (h2 : Bits B l f r) : Bits (orL A B) l f (t ||| r) := by
  intro j
  rw [Nat.testBit_or, Bool.or_eq_true, h1 j, h2 j]
  constructor
  · rintro (⟨i, a, b, c, d⟩ | ⟨i, a, b, c, d⟩)
    · exact ⟨i, a, b, c, Or.inl d⟩
    · exact ⟨i, a, b, c, Or.inr d⟩
  · rintro ⟨i, a, b, c, d | d⟩
    · exact Or.inl ⟨i, a, b, c, d⟩
    · exact Or.inr ⟨i, a, b, c, d⟩
theorem Bits.opt {A : WayM} {l : List Int} {f r : Nat} (h : f < 2 ^ (l.length + 1)) (h1 : Bits A l f r) : Bits (optL A) l f (f ||| r) := Bits.or (Bits.nil h) h1
/-! one system -/
theorem Bits.sysNone (fits : Int → Bool) (l : List Int) (f r : Nat) (h : ∀ j, r.testBit j = true ↔ ∃ i, ∃ hi : i < l.length, f.testBit i = true ∧ fits l[i] = true ∧ j = i + 1) : Bits (sysL fits) l f r := by
  intro j
  rw [h j]
  constructor
  · rintro ⟨i, hi, h1, h2, rfl⟩
    refine ⟨i, h1, Nat.le_succ _, hi, l[i], ?_, h2⟩
    rw [List.take_succ_eq_append_getElem hi, List.drop_append_of_le_length (by simp; omega)]
    simp
  · rintro ⟨i, h1, hij, hj, s, hs, h2⟩
    have h3 := seg_len (i := i) hj
    rw [hs] at h3
    have h4 : j = i + 1 := by simp at h3; omega
    subst h4
    have hi : i < l.length := hj
    refine ⟨i, hi, h1, ?_, rfl⟩
    rw [List.take_succ_eq_append_getElem hi, List.drop_append_of_le_length (by simp; omega)] at hs
    simp at hs
    rw [hs]; exact h2
/-- the places told so far, of a system -/
def AdvTo (fits : Int → Bool) (l : List Int) (f n t : Nat) : Prop := ∀ j, t.testBit j = true ↔ ∃ i, ∃ hi : i < l.length, i < n ∧ f.testBit i = true ∧ fits l[i] = true ∧ j = i + 1
theorem AdvTo.zero (fits : Int → Bool) (l : List Int) (f : Nat) : AdvTo fits l f 0 0 := by
  intro j; simp
theorem AdvTo.done {fits : Int → Bool} {l : List Int} {f t : Nat} (h : AdvTo fits l f l.length t) : Bits (sysL fits) l f t := by
  refine Bits.sysNone fits l f t (fun j => ?_)
  rw [h j]
  constructor
  · rintro ⟨i, hi, _, r⟩; exact ⟨i, hi, r⟩
  · rintro ⟨i, hi, r⟩; exact ⟨i, hi, hi, r⟩
theorem AdvTo.skip {fits : Int → Bool} {l : List Int} {f n t : Nat} (h : AdvTo fits l f n t) (hn : n < l.length) (hs : f.testBit n = false ∨ fits l[n] = false) : AdvTo fits l f (n + 1) t := by
  intro j
  rw [h j]
  constructor
  · rintro ⟨i, hi, h1, r⟩; exact ⟨i, hi, by omega, r⟩
  · rintro ⟨i, hi, h1, h2, h3, h4⟩
    rcases Nat.lt_or_ge i n with h5 | h5
    · exact ⟨i, hi, h5, h2, h3, h4⟩
    · obtain rfl : i = n := by omega
      rcases hs with h6 | h6
      · rw [h2] at h6; cases h6
      · rw [h3] at h6; cases h6
theorem AdvTo.step {fits : Int → Bool} {l : List Int} {f n t : Nat} (h : AdvTo fits l f n t) (hn : n < l.length) (h1 : f.testBit n = true) (h2 : fits l[n] = true) : AdvTo fits l f (n + 1) (t ||| 2 ^ (n + 1)) := by
  intro j
  rw [Nat.testBit_or, Bool.or_eq_true, h j, Nat.testBit_two_pow, decide_eq_true_eq]
  constructor
  · rintro (⟨i, hi, h3, r⟩ | h3)
    · exact ⟨i, hi, by omega, r⟩
    · exact ⟨n, hn, by omega, h1, h2, by omega⟩
  · rintro ⟨i, hi, h3, h4, h5, h6⟩
    rcases Nat.lt_or_ge i n with h7 | h7
    · exact Or.inl ⟨i, hi, h7, h4, h5, h6⟩
    · right; omega
theorem AdvTo.lt {fits : Int → Bool} {l : List Int} {f n t : Nat} (h : AdvTo fits l f n t) (hl : l.length ≤ 12) : t < 65536 := by
  refine Nat.lt_of_lt_of_le (Nat.lt_pow_two_of_testBit (n := 13) _ (fun i hi => ?_)) (by decide)
  cases hb : t.testBit i with
  | false => rfl
  | true =>
    obtain ⟨k, hk, _, _, _, h5⟩ := (h i).1 hb
    omega
/-! once or more -/
structure AgainTo (A : WayM) (l : List Int) (f fresh tw : Nat) : Prop where
  new : ∀ j, fresh.testBit j = true → f.testBit j = true ∨ tw.testBit j = true
  sound : ∀ j, tw.testBit j = true → ∃ i, f.testBit i = true ∧ i ≤ j ∧ j ≤ l.length ∧ PlusL A ((l.take j).drop i)
  next : ∀ i j, f.testBit i = true ∨ tw.testBit i = true → i ≤ j → j ≤ l.length → A ((l.take j).drop i) → fresh.testBit i = true ∨ tw.testBit j = true
theorem AgainTo.start (A : WayM) (l : List Int) (f : Nat) : AgainTo A l f f 0 :=
  ⟨fun _ h => Or.inl h, fun j h => by simp at h, fun i j h _ _ _ => Or.inl (h.elim id (fun h => by simp at h))⟩
theorem AgainTo.step {A : WayM} {l : List Int} {f fresh tw nx fr2 : Nat} (h : AgainTo A l f fresh tw) (hb : Bits A l fresh nx) (h2 : ∀ j, fr2.testBit j = (nx.testBit j && !tw.testBit j)) : AgainTo A l f fr2 (tw ||| nx) := by
  refine ⟨fun j hj => ?_, fun j hj => ?_, fun i j hi hij hjl hA => ?_⟩
  · rw [h2 j, Bool.and_eq_true] at hj
    right
    rw [Nat.testBit_or, hj.1, Bool.or_true]
  · rw [Nat.testBit_or, Bool.or_eq_true] at hj
    rcases hj with hj | hj
    · exact h.sound j hj
    · obtain ⟨i, hi, hij, hjl, hA⟩ := (hb j).1 hj
      rcases h.new i hi with h3 | h3
      · exact ⟨i, h3, hij, hjl, .one hA⟩
      · obtain ⟨k, hk, hki, _, hP⟩ := h.sound i h3
        exact ⟨k, hk, Nat.le_trans hki hij, hjl, by rw [seg_join hki hij]; exact hP.snoc hA⟩
  · have hold : f.testBit i = true ∨ tw.testBit i = true → (tw ||| nx).testBit j = true := fun hi => by
      rw [Nat.testBit_or, Bool.or_eq_true]
      rcases h.next i j hi hij hjl hA with h3 | h3
      · exact Or.inr ((hb j).2 ⟨i, h3, hij, hjl, hA⟩)
      · exact Or.inl h3
    rcases hi with hi | hi
    · exact Or.inr (hold (Or.inl hi))
    · cases ht : tw.testBit i with
      | true => exact Or.inr (hold (Or.inr ht))
      | false =>
        rw [Nat.testBit_or, ht, Bool.false_or] at hi
        left
        rw [h2 i, hi, ht]; rfl
theorem AgainTo.closed {A : WayM} {l : List Int} {f tw : Nat} (h : AgainTo A l f 0 tw) {p : List Int} (hp : PlusL A p) : ∀ i j, i ≤ j → j ≤ l.length → (l.take j).drop i = p → f.testBit i = true ∨ tw.testBit i = true → tw.testBit j = true := by
  induction hp with
  | one hA =>
    intro i j hij hj hs hi
    rcases h.next i j hi hij hj (by rw [hs]; exact hA) with h3 | h3
    · simp at h3
    · exact h3
  | more hA _ ih =>
    intro i j hij hj hs hi
    obtain ⟨q1, q2, q3⟩ := seg_append hij hj hs
    refine ih _ j q1 hj q3 (Or.inr ?_)
    rcases h.next i _ hi (Nat.le_add_right _ _) (Nat.le_trans q1 hj) (by rw [q2]; exact hA) with h3 | h3
    · simp at h3
    · exact h3
theorem AgainTo.done {A : WayM} {l : List Int} {f tw : Nat} (h : AgainTo A l f 0 tw) : Bits (PlusL A) l f tw := fun j =>
  ⟨h.sound j, fun ⟨i, hi, hij, hj, hP⟩ => h.closed hP i j hij hj rfl (Or.inl hi)⟩
/-- the numbers of the machine -/
theorem andNot_bit (nx tw j : Nat) (h1 : nx < 65536) (h2 : tw < 65536) : (nx &&& (65535 - tw)).testBit j = (nx.testBit j && !tw.testBit j) := by
  rw [Nat.testBit_and]
  rcases Nat.lt_or_ge j 16 with h | h
  · have h3 : (65535 - tw).testBit j = !tw.testBit j := by
      have h4 := Nat.testBit_two_pow_sub_succ (n := 16) (x := tw) h2 j
      rw [show 2 ^ 16 - (tw + 1) = 65535 - tw by omega] at h4
      rw [h4]
      simp [h]
    rw [h3]
  · have h3 : nx.testBit j = false := Nat.testBit_lt_two_pow (Nat.lt_of_lt_of_le h1 (by
      have : 2 ^ 16 ≤ 2 ^ j := Nat.pow_le_pow_right (by decide) h
      omega))
    rw [h3]; rfl
theorem or_grows {nx tw : Nat} (h : nx &&& (65535 - tw) ≠ 0) (h1 : nx < 65536) (h2 : tw < 65536) : tw < (tw ||| nx) := by
  have h0 : tw ≤ (tw ||| nx) := Nat.left_le_or
  rcases Nat.lt_or_ge tw (tw ||| nx) with h3 | h3
  · exact h3
  · exfalso
    have h4 : (tw ||| nx) = tw := by omega
    apply h
    apply Nat.eq_of_testBit_eq
    intro j
    rw [andNot_bit nx tw j h1 h2, Nat.zero_testBit]
    have h5 : (tw ||| nx).testBit j = tw.testBit j := by rw [h4]
    rw [Nat.testBit_or] at h5
    cases h6 : nx.testBit j <;> cases h7 : tw.testBit j <;> simp_all
theorem or_lt16 {a b : Nat} (ha : a < 65536) (hb : b < 65536) : (a ||| b) < 65536 := Nat.or_lt_two_pow (n := 16) ha hb
theorem bit_and1 (f n : Nat) : f / 2 ^ n % 2 = if f.testBit n then 1 else 0 := by
  rw [Nat.testBit_eq_decide_div_mod_eq]
  have : f / 2 ^ n % 2 < 2 := Nat.mod_lt _ (by decide)
  by_cases h : f / 2 ^ n % 2 = 1
  · simp [h]
  · have h0 : f / 2 ^ n % 2 = 0 := by omega
    simp [h0]
/-! ## the reader's twin -/
/-- the signs behind an ITEM -/
def repLp (ts : List TokP) : Nat → RS → Bool → Bool → Option (RS × Bool × Bool)
  | 0, _, _, _ => none
  | n + 1, st, z, m =>
    if kindR ts st = 36 then repLp ts n (goR ts st) true true
    else if kindR ts st = 38 then repLp ts n (goR ts st) z true
    else if kindR ts st = 37 then repLp ts n (goR ts st) true m
    else some (st, z, m)
def repeatsR (ts : List TokP) (n : Nat) (A : WayM) (st : RS) : Option (RS × WayM) :=
  match repLp ts n st false false with
  | none => none
  | some (s, z, m) => some (s, repL z m A)
def someR (r : Option (RS × WayM)) : Option (RS × Option WayM) := match r with | none => none | some (s, m) => some (s, some m)
def numL (n : Int) : WayM := sysL (fun s => s == n)
def dotL : WayM := sysL (fun _ => true)
def itemBy (ts : List TokP) (n : Nat) (eith : RS → Option (RS × WayM)) (st : RS) : Option (RS × Option WayM) :=
  if kindR ts st = 2 then someR (repeatsR ts n (numL (withinR ts 1 65535 st).2) (withinR ts 1 65535 st).1)
  else if kindR ts st = 41 then someR (repeatsR ts n dotL (goR ts st))
  else if kindR ts st = 33 then
    (match eith (openR ts 33 st) with
     | none => none
     | some (s, m) => someR (repeatsR ts n m (shutR ts 34 s)))
  else some (st, none)
def rowBy (ts : List TokP) (n : Nat) (item : RS → Option (RS × Option WayM)) (st : RS) : Option (RS × WayM) :=
  match moreLp item n st [] with
  | none => none
  | some (s, l) => some (if l.length = 0 then failR ts s else s, rowL l)
def altLp (ts : List TokP) (row : RS → Option (RS × WayM)) : Nat → RS → List WayM → Option (RS × List WayM)
  | 0, _, _ => none
  | n + 1, st, l =>
    if kindR ts st = 35 then (match row (goR ts st) with | none => none | some (s, m) => altLp ts row n s (l ++ [m]))
    else some (st, l)
def eithBy (ts : List TokP) (n : Nat) (row : RS → Option (RS × WayM)) (st : RS) : Option (RS × WayM) :=
  match row st with
  | none => none
  | some (s, m) => match altLp ts row n s [m] with
    | none => none
    | some (s2, l) => some (s2, anyL l)
def eithTw (ts : List TokP) (n : Nat) : Nat → RS → Option (RS × WayM)
  | 0, _ => none
  | f + 1, st => eithBy ts n (rowBy ts n (itemBy ts n (eithTw ts n f))) st
end Go.Proofs.YtgdeeodifnegiaaGreatDoor

namespace Go.Proofs.YtgdeeodifnegiaaGreatDoor
open Go.RowKit

theorem bit16 (f n : Nat) (hf : f < 65536) : bits .and .u16 ((f : Int) / 2 ^ n) 1 = if f.testBit n then 1 else 0 := by
  have h1 : ((f : Int) / 2 ^ n) = ((f / 2 ^ n : Nat) : Int) := by simp
  have h2 : f / 2 ^ n < 65536 := Nat.lt_of_le_of_lt (Nat.div_le_self _ _) hf
  rw [h1]
  have h3 := u16_and_nat (f / 2 ^ n) 1 h2 (by decide)
  have h4 : ((1 : Nat) : Int) = 1 := rfl
  rw [h4] at h3
  rw [h3, nat_mask1, bit_and1]
  split <;> rfl
theorem bit16_yes {f n : Nat} (hf : f < 65536) (h : f.testBit n = true) : (bits .and .u16 ((f : Int) / 2 ^ n) 1 == 1) = true := by rw [bit16 f n hf, h]; rfl
theorem bit16_no {f n : Nat} (hf : f < 65536) (h : f.testBit n = false) : (bits .and .u16 ((f : Int) / 2 ^ n) 1 == 1) = false := by rw [bit16 f n hf, h]; rfl
theorem shl16 (n : Nat) (hn : n ≤ 12) : IntKind.u16.wrap (2 ^ (n + 1)) = ((2 ^ (n + 1) : Nat) : Int) := by
  have h1 : (2 : Nat) ^ (n + 1) < 65536 := Nat.lt_of_le_of_lt (Nat.pow_le_pow_right (by decide) (show n + 1 ≤ 13 by omega)) (by decide)
  rw [IntKind.wrap_u16]
  have h2 : ((2 : Int) ^ (n + 1)) = ((2 ^ (n + 1) : Nat) : Int) := by simp
  rw [h2]
  generalize 2 ^ (n + 1) = q at *
  omega
theorem or16 {a b : Nat} (ha : a < 65536) (hb : b < 65536) : bits .or .u16 (a : Int) (b : Int) = ((a ||| b : Nat) : Int) := u16_or_nat a b ha hb
set_option maxRecDepth 100000 in
set_option maxHeartbeats 2000000 in
theorem advance_any (W : World) (pv : Value) (l : List Int) (f g : Nat) (lb : Array Value) (fits : Int → Bool) (hp : PathAt W pv l) (hl : l.length ≤ 12) (hf : f < 2 ^ (l.length + 1)) (eg : Enters Tryz.prog g)
    (hc : ∀ (V : World) (s : Int), Below W.heap.size W V → Calls Tryz.prog g (#[.int .i64 s] ++ lb) V fun e V' => e = .returned (.bool (fits s)) ∧ Below V.heap.size V V') :
    Calls Tryz.prog 336 #[pv, .int .u16 (f : Int), .func (.func g) #[] lb] W fun e W' => (∃ r : Nat, e = .returned (.int .u16 (r : Int)) ∧ Bits (sysL fits) l f r) ∧ Below W.heap.size W W' := by
  obtain ⟨p, c, rfl, hr⟩ := hp
  have e1 := enters_fn eg
  have hf16 : f < 65536 := Nat.lt_of_lt_of_le hf (Nat.le_trans (Nat.pow_le_pow_right (by decide) (show l.length + 1 ≤ 13 by omega)) (by decide))
  have HC := hide hc
  have HR := hide hr
  have HL := hide hl
  clear hr hc eg hf
  have hN : (l.length : Int) ≤ 12 := by omega
  go_enter Tryz.func336, Tryz.ntmps336
  go_wp2_with fail
  go_loopw [7, 12] (fun t i wr => ∃ j n : Nat, j ≤ l.length ∧ i = .int .i64 (j : Nat) ∧ t = .int .u16 (n : Nat) ∧ Hid (AdvTo fits l f j n) ∧ Below W.heap.size W wr) (fun _ i _ => l.length - (intOf i).toNat)
  case atStart => exact ⟨0, 0, Nat.zero_le _, rfl, rfl, AdvTo.zero fits l f, Below.refl _ _⟩
  case round =>
    obtain ⟨j, n, hj, rfl, rfl, HA, hbl⟩ := hrel
    have HB := hide hbl
    have hn16 := (unhide HA).lt (unhide HL)
    clear hbl
    by_cases hlt : j < l.length
    · rcases unhide HR with h | ⟨b, o, rfl, hb, hcc⟩
      · rw [h] at hlt; simp at hlt
      have hcl := ((unhide HB).cell (p := ⟨b, o + j, none⟩) hb).trans (hcc j hlt)
      have HCC := hide ((unhide HC) wr l[j] (unhide HB))
      clear hcc
      cases hbit : f.testBit j with
      | false =>
        have hb1 := bit16_no hf16 hbit
        have HA2 := hide ((unhide HA).skip hlt (Or.inl hbit))
        go_wp2_with fail
        exact ⟨⟨j + 1, n, by omega, by go_num, rfl, HA2, unhide HB⟩, by simp [intOf]; omega⟩
      | true =>
        have hb1 := bit16_yes hf16 hbit
        cases hfit : fits l[j] with
        | false =>
          rw [hfit] at HCC
          have HA2 := hide ((unhide HA).skip hlt (Or.inr hfit))
          go_wp2_with (go_at_fn g; refine (unhide HCC).mono ?_; rintro e w1 ⟨rfl, hb2⟩; have HB2 := hide ((unhide HB).trans (hb2.mono (unhide HB).size)); clear hb2)
          exact ⟨⟨j + 1, n, by omega, by go_num, rfl, HA2, unhide HB2⟩, by simp [intOf]; omega⟩
        | true =>
          rw [hfit] at HCC
          have HA2 := hide ((unhide HA).step hlt hbit hfit)
          have hs := shl16 j (by omega)
          have ho := or16 hn16 (show 2 ^ (j + 1) < 65536 from Nat.lt_of_le_of_lt (Nat.pow_le_pow_right (by decide) (show j + 1 ≤ 13 by omega)) (by decide))
          have z1 : ((j : Int) + 1).toNat = j + 1 := by omega
          go_wp2_with (go_at_fn g; refine (unhide HCC).mono ?_; rintro e w1 ⟨rfl, hb2⟩; have HB2 := hide ((unhide HB).trans (hb2.mono (unhide HB).size)); clear hb2)
          refine ⟨⟨j + 1, n ||| 2 ^ (j + 1), by omega, by go_num, ?_, HA2, unhide HB2⟩, by simp [intOf]; omega⟩
          rw [← ho]; simp
    · obtain rfl : j = l.length := by omega
      have HA2 := hide (unhide HA).done
      go_wp2_with fail
      go_ret
      exact ⟨⟨n, rfl, unhide HA2⟩, unhide HB⟩
abbrev WayL (w : World) (A : Nat → Prop) (v : Value) (m : WayM) : Prop := Lasts w A (WayC v m)
/-! ## one system -/
set_option maxRecDepth 100000 in
set_option maxHeartbeats 1000000 in
theorem sysFit_run (V : World) (B : Nat) (n s : Int) (c1 : V.cell? ⟨B, 0, none⟩ = some (.int .i64 n)) :
    Calls Tryz.prog 337 (#[.int .i64 s] ++ #[ptr4 B 0]) V fun e V' => e = .returned (.bool (s == n)) ∧ Below V.heap.size V V' := by
  go_enter Tryz.func337, Tryz.ntmps337
  go_wp2_with fail
  go_ret
  exact ⟨rfl, Below.refl _ _⟩
set_option maxRecDepth 100000 in
set_option maxHeartbeats 1000000 in
theorem anyFit_run (V : World) (s : Int) :
    Calls Tryz.prog 338 (#[.int .i64 s] ++ #[]) V fun e V' => e = .returned (.bool true) ∧ Below V.heap.size V V' := by
  go_enter Tryz.func338, Tryz.ntmps338
  go_wp2_with fail
  go_ret
  exact ⟨rfl, Below.refl _ _⟩
theorem Tryz.entSysFit : Enters Tryz.prog 337 := enters_of Tryz.func337 (by kernel_rfl) rfl
theorem Tryz.entAnyFit : Enters Tryz.prog 338 := enters_of Tryz.func338 (by kernel_rfl) rfl
theorem Tryz.entSystem : Enters Tryz.prog 335 := enters_of Tryz.func335 (by kernel_rfl) rfl
theorem Tryz.entAnySystem : Enters Tryz.prog 308 := enters_of Tryz.func308 (by kernel_rfl) rfl
theorem Tryz.entRow : Enters Tryz.prog 304 := enters_of Tryz.func304 (by kernel_rfl) rfl
theorem Tryz.entOneOf : Enters Tryz.prog 311 := enters_of Tryz.func311 (by kernel_rfl) rfl
theorem Tryz.entMaybe : Enters Tryz.prog 372 := enters_of Tryz.func372 (by kernel_rfl) rfl
theorem Tryz.entAgain : Enters Tryz.prog 371 := enters_of Tryz.func371 (by kernel_rfl) rfl
set_option maxRecDepth 100000 in
set_option maxHeartbeats 1000000 in
theorem system_run (W : World) (B : Nat) (n : Int) (c1 : W.cell? ⟨B, 0, none⟩ = some (.int .i64 n)) (V : World) (hV : Below W.heap.size W V) (pv : Value) (l : List Int) (f : Nat) (hp : PathAt V pv l) (hl : l.length ≤ 12) (hf : f < 2 ^ (l.length + 1)) :
    Calls Tryz.prog 335 (#[pv, .int .u16 (f : Int)] ++ #[ptr4 B 0]) V fun e V' => (∃ r : Nat, e = .returned (.int .u16 (r : Int)) ∧ Bits (numL n) l f r) ∧ Below V.heap.size V V' := by
  have d1 := (hV.cell (p := ⟨B, 0, none⟩) (cell_lt c1)).trans c1
  have HA := hide (advance_any V pv l f 337 #[ptr4 B 0] (fun s => s == n) hp hl hf Tryz.entSysFit (fun U s hU => sysFit_run U B n s ((hU.cell (p := ⟨B, 0, none⟩) (cell_lt d1)).trans d1)))
  have hmf : ∀ (fn : Fn) (first cap : Array Value) (w : World), (Instr.makeFunc fn first cap).run Tryz.prog w = .ok (.func fn first cap) w := fun _ _ _ _ => rfl
  obtain ⟨p, c, rfl, _⟩ := hp
  clear hf hl c1 d1 hV
  go_enter Tryz.func335, Tryz.ntmps335
  go_wp2_with (go_at_call 336; refine (unhide HA).mono ?_; clear HA; rintro e w1 ⟨⟨r, rfl, hr⟩, hb1⟩; have HX := hide (And.intro hr hb1); clear hr hb1)
  go_ret
  exact ⟨⟨r, rfl, (unhide HX).1⟩, (unhide HX).2⟩
set_option maxRecDepth 100000 in
set_option maxHeartbeats 1000000 in
theorem anySystem_run (V : World) (pv : Value) (l : List Int) (f : Nat) (hp : PathAt V pv l) (hl : l.length ≤ 12) (hf : f < 2 ^ (l.length + 1)) :
    Calls Tryz.prog 308 (#[pv, .int .u16 (f : Int)] ++ #[]) V fun e V' => (∃ r : Nat, e = .returned (.int .u16 (r : Int)) ∧ Bits dotL l f r) ∧ Below V.heap.size V V' := by
  have HA := hide (advance_any V pv l f 338 #[] (fun _ => true) hp hl hf Tryz.entAnyFit (fun U s hU => anyFit_run U s))
  obtain ⟨p, c, rfl, _⟩ := hp
  clear hf hl
  go_enter Tryz.func308, Tryz.ntmps308
  go_wp2_with (go_at_call 336; refine (unhide HA).mono ?_; clear HA; rintro e w1 ⟨⟨r, rfl, hr⟩, hb1⟩; have HX := hide (And.intro hr hb1); clear hr hb1)
  go_ret
  exact ⟨⟨r, rfl, (unhide HX).1⟩, (unhide HX).2⟩
/-! ## rows of ways -/
def WaysC (sv : Value) (ms : List WayM) (K : Nat → Prop) (W : World) : Prop :=
  ms.length ≤ 1000000 ∧ ∃ vs : List Value, vs.length = ms.length ∧ RowV W K sv vs ∧ ∀ (i : Nat) (v : Value) (m : WayM), vs[i]? = some v → ms[i]? = some m → WayC v m K W
theorem take_snoc {α : Type} {l : List α} {j : Nat} {x : α} (h : l[j]? = some x) : l.take (j + 1) = l.take j ++ [x] := by
  rw [List.take_add_one, h]; rfl
set_option maxRecDepth 100000 in
set_option maxHeartbeats 2000000 in
theorem row_run (W : World) (B : Nat) (sv : Value) (ms : List WayM) (K : Nat → Prop) (hK : ∀ k, K k → k < W.heap.size) (hb : W.cell? ⟨B, 0, none⟩ = some sv) (hs : WaysC sv ms K W) (V : World) (hV : Below W.heap.size W V) (pv : Value) (l : List Int) (f : Nat) (hp : PathAt V pv l) (hl : l.length ≤ 12) (hf : f < 2 ^ (l.length + 1)) :
    Calls Tryz.prog 304 (#[pv, .int .u16 (f : Int)] ++ #[ptr4 B 0]) V fun e V' => (∃ r : Nat, e = .returned (.int .u16 (r : Int)) ∧ Bits (rowL ms) l f r) ∧ Below V.heap.size V V' := by
  obtain ⟨hml, vs, hvl, hrow, hst⟩ := hs
  have hbV := (hV.cell (p := ⟨B, 0, none⟩) (cell_lt hb)).trans hb
  obtain ⟨sa, sc, hsv⟩ : ∃ a c, sv = .slice a ms.length c := by
    rcases hrow with ⟨h1, h2⟩ | ⟨S, cap, h1, _⟩
    · exact ⟨none, 0, by rw [h2, ← hvl, h1]; rfl⟩
    · exact ⟨_, cap, by rw [h1, hvl]⟩
  have HST := hide hst
  have HROW := hide hrow
  have HV := hide hV
  have HKK := hide hK
  have HP := hide hp
  have HL := hide hl
  have HN0 := hide (Bits.nil hf)
  obtain ⟨p, c, rfl, _⟩ := hp
  clear hst hrow hV hK hb hf hl
  subst hsv
  go_enter Tryz.func304, Tryz.ntmps304
  go_wp2_with fail
  generalize hN : ms.length = N at *
  go_loopw [1, 10] (fun u i wr => ∃ j n : Nat, j ≤ N ∧ i = .int .i64 (j : Nat) ∧ u = .int .u16 (n : Nat) ∧ Hid (Bits (rowL (ms.take j)) l f n) ∧ Below V.heap.size V wr) (fun _ i _ => N - (intOf i).toNat)
  case atStart => exact ⟨0, f, Nat.zero_le _, rfl, rfl, unhide HN0, Below.refl _ _⟩
  case round =>
    obtain ⟨j, n, hj, rfl, rfl, HF, hbl⟩ := hrel
    have HBL := hide hbl
    clear hbl
    by_cases hlt : j < N
    · have hj' : j < vs.length := by omega
      have hjm : j < ms.length := by omega
      have hv : vs[j]? = some vs[j] := List.getElem?_eq_getElem hj'
      have hm : ms[j]? = some ms[j] := List.getElem?_eq_getElem hjm
      obtain ⟨g, lb, hvj, eg, hc⟩ := (unhide HST) j _ _ hv hm
      have e1 := enters_fn eg
      rcases unhide HROW with ⟨h1, _⟩ | ⟨S, cap, h1, hKS, hcell⟩
      · rw [h1] at hj'; simp at hj'
      injection h1 with h2 h3 h4
      subst h2 h4
      have hWr : Below W.heap.size W wr := (unhide HV).trans ((unhide HBL).mono (unhide HV).size)
      have hcl : wr.cell? ⟨S, j, none⟩ = some (.func (.func g) #[] lb) := (hWr.cell (p := ⟨S, j, none⟩) ((unhide HKK) S hKS)).trans ((hcell j _ hv).trans (by rw [hvj]))
      have HC := hide (hc wr _ l n hWr ((unhide HP).below (unhide HBL)) (unhide HL) (unhide HF).lt)
      have HJ := hide (take_snoc hm)
      generalize ms[j] = mj at *
      clear hcell hc eg hvj hm hv h3 hWr
      go_wp2_with (go_at_fn g; refine (unhide HC).mono ?_; clear HC; rintro e w1 ⟨⟨r, rfl, hr⟩, hb1⟩; have HB1 := hide hb1; have HX := hide hr; clear hb1 hr)
      refine ⟨⟨j + 1, r, by omega, by go_num, rfl, ?_, (unhide HBL).trans ((unhide HB1).mono (unhide HBL).size)⟩, by simp [intOf]; omega⟩
      show Bits (rowL (ms.take (j + 1))) l f r
      rw [unhide HJ, rowL_snoc]
      exact (unhide HF).cat (unhide HX)
    · have HF2 : Hid (Bits (rowL ms) l f n) := by
        have h := unhide HF
        rw [List.take_of_length_le (by omega)] at h
        exact h
      go_wp2_with fail
      go_ret
      exact ⟨⟨n, rfl, unhide HF2⟩, unhide HBL⟩
set_option maxRecDepth 100000 in
set_option maxHeartbeats 2000000 in
theorem oneOf_run (W : World) (B : Nat) (sv : Value) (ms : List WayM) (K : Nat → Prop) (hK : ∀ k, K k → k < W.heap.size) (hb : W.cell? ⟨B, 0, none⟩ = some sv) (hs : WaysC sv ms K W) (V : World) (hV : Below W.heap.size W V) (pv : Value) (l : List Int) (f : Nat) (hp : PathAt V pv l) (hl : l.length ≤ 12) (hf : f < 2 ^ (l.length + 1)) :
    Calls Tryz.prog 311 (#[pv, .int .u16 (f : Int)] ++ #[ptr4 B 0]) V fun e V' => (∃ r : Nat, e = .returned (.int .u16 (r : Int)) ∧ Bits (anyL ms) l f r) ∧ Below V.heap.size V V' := by
  obtain ⟨hml, vs, hvl, hrow, hst⟩ := hs
  have hbV := (hV.cell (p := ⟨B, 0, none⟩) (cell_lt hb)).trans hb
  obtain ⟨sa, sc, hsv⟩ : ∃ a c, sv = .slice a ms.length c := by
    rcases hrow with ⟨h1, h2⟩ | ⟨S, cap, h1, _⟩
    · exact ⟨none, 0, by rw [h2, ← hvl, h1]; rfl⟩
    · exact ⟨_, cap, by rw [h1, hvl]⟩
  have HST := hide hst
  have HROW := hide hrow
  have HV := hide hV
  have HKK := hide hK
  have HP := hide hp
  have HL := hide hl
  have HFL := hide hf
  obtain ⟨p, c, rfl, _⟩ := hp
  clear hst hrow hV hK hb hf hl
  subst hsv
  go_enter Tryz.func311, Tryz.ntmps311
  go_wp2_with fail
  generalize hN : ms.length = N at *
  go_loopw [6, 11] (fun u i wr => ∃ j n : Nat, j ≤ N ∧ i = .int .i64 (j : Nat) ∧ u = .int .u16 (n : Nat) ∧ Hid (Bits (anyL (ms.take j)) l f n) ∧ Below V.heap.size V wr) (fun _ i _ => N - (intOf i).toNat)
  case atStart => exact ⟨0, 0, Nat.zero_le _, rfl, rfl, Bits.none l f, Below.refl _ _⟩
  case round =>
    obtain ⟨j, n, hj, rfl, rfl, HF, hbl⟩ := hrel
    have HBL := hide hbl
    clear hbl
    by_cases hlt : j < N
    · have hj' : j < vs.length := by omega
      have hjm : j < ms.length := by omega
      have hv : vs[j]? = some vs[j] := List.getElem?_eq_getElem hj'
      have hm : ms[j]? = some ms[j] := List.getElem?_eq_getElem hjm
      obtain ⟨g, lb, hvj, eg, hc⟩ := (unhide HST) j _ _ hv hm
      have e1 := enters_fn eg
      rcases unhide HROW with ⟨h1, _⟩ | ⟨S, cap, h1, hKS, hcell⟩
      · rw [h1] at hj'; simp at hj'
      injection h1 with h2 h3 h4
      subst h2 h4
      have hWr : Below W.heap.size W wr := (unhide HV).trans ((unhide HBL).mono (unhide HV).size)
      have hcl : wr.cell? ⟨S, j, none⟩ = some (.func (.func g) #[] lb) := (hWr.cell (p := ⟨S, j, none⟩) ((unhide HKK) S hKS)).trans ((hcell j _ hv).trans (by rw [hvj]))
      have HC := hide (hc wr _ l f hWr ((unhide HP).below (unhide HBL)) (unhide HL) (unhide HFL))
      have HJ := hide (take_snoc hm)
      generalize ms[j] = mj at *
      clear hcell hc eg hvj hm hv h3 hWr
      go_wp2_with (go_at_fn g; refine (unhide HC).mono ?_; clear HC; rintro e w1 ⟨⟨r, rfl, hr⟩, hb1⟩; have HB1 := hide hb1; have HX := hide hr; clear hb1 hr)
      refine ⟨⟨j + 1, n ||| r, by omega, by go_num, ?_, ?_, (unhide HBL).trans ((unhide HB1).mono (unhide HBL).size)⟩, by simp [intOf]; omega⟩
      · rw [or16 ((unhide HF).lt16 (unhide HL)) ((unhide HX).lt16 (unhide HL))]
      · show Bits (anyL (ms.take (j + 1))) l f _
        rw [unhide HJ, anyL_snoc]
        exact (unhide HF).or (unhide HX)
    · have HF2 : Hid (Bits (anyL ms) l f n) := by
        have h := unhide HF
        rw [List.take_of_length_le (by omega)] at h
        exact h
      go_wp2_with fail
      go_ret
      exact ⟨⟨n, rfl, unhide HF2⟩, unhide HBL⟩
/-! ## none, and many -/
set_option maxRecDepth 100000 in
set_option maxHeartbeats 1000000 in
theorem maybe_run (W : World) (B : Nat) (va : Value) (ma : WayM) (Ka : Nat → Prop) (ha : WayC va ma Ka W) (c1 : W.cell? ⟨B, 0, none⟩ = some va) (V : World) (hV : Below W.heap.size W V) (pv : Value) (l : List Int) (f : Nat) (hp : PathAt V pv l) (hl : l.length ≤ 12) (hf : f < 2 ^ (l.length + 1)) :
    Calls Tryz.prog 372 (#[pv, .int .u16 (f : Int)] ++ #[ptr4 B 0]) V fun e V' => (∃ r : Nat, e = .returned (.int .u16 (r : Int)) ∧ Bits (optL ma) l f r) ∧ Below V.heap.size V V' := by
  obtain ⟨g, lb, rfl, eg, hc⟩ := ha
  have e1 := enters_fn eg
  have d1 := (hV.cell (p := ⟨B, 0, none⟩) (cell_lt c1)).trans c1
  have HC := hide (hc V pv l f hV hp hl hf)
  have HF := hide hf
  have HL := hide hl
  obtain ⟨p, c, rfl, _⟩ := hp
  clear hc eg hf hl c1 hV
  go_enter Tryz.func372, Tryz.ntmps372
  go_wp2_with (go_at_fn g; refine (unhide HC).mono ?_; clear HC; rintro e w1 ⟨⟨r, rfl, hr⟩, hb1⟩; have HX := hide (And.intro hr hb1); clear hr hb1)
  go_ret
  refine ⟨⟨f ||| r, ?_, Bits.opt (unhide HF) (unhide HX).1⟩, (unhide HX).2⟩
  rw [or16 ((Bits.nil (unhide HF)).lt16 (unhide HL)) ((unhide HX).1.lt16 (unhide HL))]; rfl
set_option maxRecDepth 100000 in
set_option maxHeartbeats 2000000 in
theorem again_run (W : World) (B : Nat) (va : Value) (ma : WayM) (Ka : Nat → Prop) (ha : WayC va ma Ka W) (c1 : W.cell? ⟨B, 0, none⟩ = some va) (V : World) (hV : Below W.heap.size W V) (pv : Value) (l : List Int) (f : Nat) (hp : PathAt V pv l) (hl : l.length ≤ 12) (hf : f < 2 ^ (l.length + 1)) :
    Calls Tryz.prog 371 (#[pv, .int .u16 (f : Int)] ++ #[ptr4 B 0]) V fun e V' => (∃ r : Nat, e = .returned (.int .u16 (r : Int)) ∧ Bits (PlusL ma) l f r) ∧ Below V.heap.size V V' := by
  obtain ⟨g, lb, rfl, eg, hc⟩ := ha
  have e1 := enters_fn eg
  have lB := cell_lt c1
  have d1 := (hV.cell (p := ⟨B, 0, none⟩) lB).trans c1
  have lBV : B < V.heap.size := Nat.lt_of_lt_of_le lB hV.size
  have HC := hide hc
  have HP := hide hp
  have HF := hide hf
  have HL := hide hl
  have HV := hide hV
  obtain ⟨p, c, rfl, _⟩ := hp
  clear hc eg hf hl c1 hV
  go_enter Tryz.func371, Tryz.ntmps371
  go_wp2_with fail
  go_loopw [6, 7] (fun u x wr => ∃ t a : Nat, u = .int .u16 (t : Nat) ∧ x = .int .u16 (a : Nat) ∧ t < 65536 ∧ a < 2 ^ (l.length + 1) ∧ Hid (AgainTo ma l f a t) ∧ Below V.heap.size V wr) (fun u x _ => if intOf x = 0 then 0 else 65537 - (intOf u).toNat)
  case atStart => exact ⟨0, f, rfl, rfl, by decide, unhide HF, AgainTo.start ma l f, Below.refl _ _⟩
  case round =>
    obtain ⟨t, a, rfl, rfl, ht, hal, HA, hbl⟩ := hrel
    have HBL := hide hbl
    have HAL := hide hal
    have hd := (hbl.cell (p := ⟨B, 0, none⟩) lBV).trans d1
    clear hbl hal
    by_cases ha0 : a = 0
    · subst ha0
      have HA2 := hide (unhide HA).done
      go_wp2_with fail
      go_ret
      exact ⟨⟨t, rfl, unhide HA2⟩, unhide HBL⟩
    · have hne : ((a : Int) != 0) = true := by simp; omega
      have HCC := hide ((unhide HC) wr _ l a ((unhide HV).trans ((unhide HBL).mono (unhide HV).size)) ((unhide HP).below (unhide HBL)) (unhide HL) (unhide HAL))
      go_wp2_with (go_at_fn g; refine (unhide HCC).mono ?_; clear HCC; rintro e w1 ⟨⟨nx, rfl, hr⟩, hb1⟩; have HX := hide (And.intro hr hb1); clear hr hb1)
      have hnx := (unhide HX).1.lt16 (unhide HL)
      have o1 := u16_andNot_nat nx t hnx ht
      have o2 := or16 ht hnx
      have hbit := fun j => andNot_bit nx t j hnx ht
      refine ⟨⟨t ||| nx, nx &&& (65535 - t), by rw [o2], by rw [o1], or_lt16 ht hnx, ?_, (unhide HA).step (unhide HX).1 hbit, (unhide HBL).trans ((unhide HX).2.mono (unhide HBL).size)⟩, ?_⟩
      · exact Nat.lt_of_le_of_lt Nat.and_le_left (unhide HX).1.lt
      · rw [o1, o2]
        show (if ((nx &&& (65535 - t) : Nat) : Int) = 0 then 0 else 65537 - ((t ||| nx : Nat) : Int).toNat) < (if ((a : Nat) : Int) = 0 then 0 else 65537 - ((t : Nat) : Int).toNat)
        rw [if_neg (show ¬ ((a : Nat) : Int) = 0 by omega)]
        by_cases hz : (nx &&& (65535 - t)) = 0
        · rw [hz, if_pos (show ((0 : Nat) : Int) = 0 from rfl)]; omega
        · have := or_grows hz hnx ht
          have h3 := or_lt16 ht hnx
          rw [if_neg (by omega)]
          omega
/-! ## like -/
theorem like_bits {m : WayM} {l : List Int} {r : Nat} (h : Bits m l 1 r) : (r.testBit l.length = true) ↔ m l := by
  rw [h l.length]
  constructor
  · rintro ⟨i, hi, _, _, hm⟩
    have h0 : i = 0 := by
      rcases Nat.eq_zero_or_pos i with h1 | h1
      · exact h1
      · have := Nat.testBit_lt_two_pow (x := 1) (i := i) (Nat.one_lt_two_pow (by omega))
        rw [this] at hi; cases hi
    subst h0
    simpa using hm
  · intro hm
    exact ⟨0, rfl, Nat.zero_le _, Nat.le_refl _, by simpa using hm⟩
set_option maxRecDepth 100000 in
set_option maxHeartbeats 1000000 in
theorem like_run (V : World) (va : Value) (ma : WayM) (Ka : Nat → Prop) (ha : WayC va ma Ka V) (pv : Value) (l : List Int) (hp : PathAt V pv l) (hl : l.length ≤ 12) :
    Calls Tryz.prog 385 #[pv, va] V fun e V' => (∃ b : Bool, e = .returned (.bool b) ∧ (b = true ↔ ma l)) ∧ Below V.heap.size V V' := by
  obtain ⟨g, lb, rfl, eg, hc⟩ := ha
  have e1 := enters_fn eg
  have HC := hide (hc V pv l 1 (Below.refl _ _) hp hl (Nat.one_lt_two_pow (by omega)))
  have HL := hide hl
  have hN : (l.length : Int) ≤ 12 := by omega
  obtain ⟨p, c, rfl, _⟩ := hp
  clear hc eg hl
  go_enter Tryz.func385, Tryz.ntmps385
  go_wp2_with (go_at_fn g; refine (unhide HC).mono ?_; clear HC; rintro e w1 ⟨⟨r, rfl, hr⟩, hb1⟩; have HX := hide (And.intro hr hb1); clear hr hb1)
  go_ret
  refine ⟨⟨r.testBit l.length, ?_, like_bits (unhide HX).1⟩, (unhide HX).2⟩
  refine rt_bool ?_
  have h16 := (unhide HX).1.lt16 (unhide HL)
  cases hb : r.testBit l.length with
  | true => exact bit16_yes h16 hb
  | false => exact bit16_no h16 hb
end Go.Proofs.YtgdeeodifnegiaaGreatDoor

namespace Go.Proofs.YtgdeeodifnegiaaGreatDoor
open Go.RowKit

/-- a row of ways that was made lasts -/
theorem waysL_of {w : World} {A : Nat → Prop} {sv : Value} {ms : List WayM} {vs : List Value} (ho : w.ownsRow 0 305 1 sv ms.length vs) (hl : ms.length ≤ 1000000) (hA : ∀ k, sv.ownBlock = some k → A k)
    (hv : ∀ (i : Nat) (v : Value) (m : WayM), vs[i]? = some v → ms[i]? = some m → WayL w A v m) : Lasts w A (WaysC sv ms) := by
  have hvl : vs.length = ms.length := by simpa using ho.1
  have hlast : ∀ i : Fin ms.length, Lasts w A (WayC (vs[i.1]'(by omega)) ms[i.1]) := fun i => hv i.1 _ _ (List.getElem?_eq_getElem (by omega)) (List.getElem?_eq_getElem i.2)
  rcases ho.2 with ⟨h1, h0⟩ | ⟨g, cap, cur, h1, hb, hg, hn, hm, hs, ht⟩
  · refine Lasts.new (fun _ => False) (fun _ h => h.elim) (fun W _ _ => ⟨by omega, vs, by omega, Or.inl ⟨List.eq_nil_of_length_eq_zero (by omega), h1⟩, fun i v m hi hm => ?_⟩)
    have hnil : ms = [] := List.eq_nil_of_length_eq_zero (by omega)
    rw [hnil] at hm; simp at hm
  · have hcell : ∀ (W : World), W.heap[g]? = w.heap[g]? → ∀ i v, vs[i]? = some v → W.cell? ⟨g, i, none⟩ = some v := fun W hW i v hi => by
      rw [cell_of_heap (hW.trans hg), ← Array.getElem?_toList]
      rw [← ht, List.getElem?_take] at hi
      split at hi
      · exact hi
      · cases hi
    refine ⟨fun k => k = g ∨ ∃ i : Fin ms.length, Classical.choose (hlast i) k, fun k hk => ?_, fun W hW hk => ?_⟩
    · rcases hk with rfl | ⟨i, hi⟩
      · exact ⟨heap_lt hg, hA k (by rw [h1]; rfl)⟩
      · exact (Classical.choose_spec (hlast i)).1 k hi
    · refine ⟨by omega, vs, by omega, Or.inr ⟨g, cap, by rw [h1, hvl], Or.inl rfl, hcell W (hk g (Or.inl rfl))⟩, fun i v m hi hm => ?_⟩
      have hi' : i < ms.length := by
        rcases Nat.lt_or_ge i ms.length with h | h
        · exact h
        · rw [List.getElem?_eq_none h] at hm; cases hm
      have e1 : v = vs[i] := by rw [List.getElem?_eq_getElem (by omega)] at hi; exact (Option.some.inj hi).symm
      have e2 : m = ms[i] := by rw [List.getElem?_eq_getElem hi'] at hm; exact (Option.some.inj hm).symm
      subst e1 e2
      obtain ⟨g', lb, hq1, hq2, hq3⟩ := (Classical.choose_spec (hlast ⟨i, hi'⟩)).2 W hW (fun k h => hk k (Or.inr ⟨⟨i, hi'⟩, h⟩))
      exact ⟨g', lb, hq1, hq2, hq3⟩
set_option maxRecDepth 100000 in
set_option maxHeartbeats 1000000 in
theorem row_call (w : World) (a : Option Addr) (n c : Nat) :
    Calls Tryz.prog 262 #[.slice a n c] w fun e w' => e = .returned (.func (.func 304) #[] #[ptr4 w.heap.size 0]) ∧ w' = w.alloc (box1 (.slice a n c) 353) := by
  have hmf : ∀ (fn : Fn) (first cap : Array Value) (w : World), (Instr.makeFunc fn first cap).run Tryz.prog w = .ok (.func fn first cap) w := fun _ _ _ _ => rfl
  go_enter Tryz.func262, Tryz.ntmps262
  go_wp2_with fail
  go_ret
  exact ⟨rfl, rfl⟩
set_option maxRecDepth 100000 in
set_option maxHeartbeats 1000000 in
theorem oneOf_call (w : World) (a : Option Addr) (n c : Nat) :
    Calls Tryz.prog 265 #[.slice a n c] w fun e w' => e = .returned (.func (.func 311) #[] #[ptr4 w.heap.size 0]) ∧ w' = w.alloc (box1 (.slice a n c) 353) := by
  have hmf : ∀ (fn : Fn) (first cap : Array Value) (w : World), (Instr.makeFunc fn first cap).run Tryz.prog w = .ok (.func fn first cap) w := fun _ _ _ _ => rfl
  go_enter Tryz.func265, Tryz.ntmps265
  go_wp2_with fail
  go_ret
  exact ⟨rfl, rfl⟩
theorem row_said (w : World) (sv : Value) (ms : List WayM) (A : Nat → Prop) (hA : ∀ k, w.heap.size ≤ k → A k) (hs : Lasts w A (WaysC sv ms)) (hf : ∃ a n c, sv = .slice a n c) :
    Calls Tryz.prog 262 #[sv] w fun e w' => ∃ v, e = .returned v ∧ FnV v ∧ w' = w.alloc (box1 sv 353) ∧ WayL w' A v (rowL ms) := by
  obtain ⟨a, n, c, rfl⟩ := hf
  refine (row_call w a n c).mono ?_
  rintro e w' ⟨rfl, rfl⟩
  refine ⟨_, rfl, Or.inl ⟨_, _, _, rfl⟩, rfl, ?_⟩
  have h1 : Lasts (w.alloc (box1 (.slice a n c) 353)) A (WaysC (.slice a n c) ms) := hs.mono (by simp) (fun k hk ha => ⟨Below.heap_alloc _ _ _ hk, ha⟩) (fun _ _ h => h)
  refine Lasts.one h1 (fun k => k = w.heap.size) (fun k hk => ⟨by subst hk; simp, hA k (by omega)⟩) (fun K1 hK1 q1 W hW hk => ?_)
  exact ⟨_, _, rfl, Tryz.entRow, fun V pv l f hV hp hl hf => row_run W _ _ ms K1 (fun k hk1 => Nat.lt_of_lt_of_le (hK1 k hk1).1 hW) (cell1 (hk _ (Or.inr rfl)) (heap_alloc_new w _)) (q1 W hW (fun k h => hk k (Or.inl h))) V hV pv l f hp hl hf⟩
theorem oneOf_said (w : World) (sv : Value) (ms : List WayM) (A : Nat → Prop) (hA : ∀ k, w.heap.size ≤ k → A k) (hs : Lasts w A (WaysC sv ms)) (hf : ∃ a n c, sv = .slice a n c) :
    Calls Tryz.prog 265 #[sv] w fun e w' => ∃ v, e = .returned v ∧ FnV v ∧ w' = w.alloc (box1 sv 353) ∧ WayL w' A v (anyL ms) := by
  obtain ⟨a, n, c, rfl⟩ := hf
  refine (oneOf_call w a n c).mono ?_
  rintro e w' ⟨rfl, rfl⟩
  refine ⟨_, rfl, Or.inl ⟨_, _, _, rfl⟩, rfl, ?_⟩
  have h1 : Lasts (w.alloc (box1 (.slice a n c) 353)) A (WaysC (.slice a n c) ms) := hs.mono (by simp) (fun k hk ha => ⟨Below.heap_alloc _ _ _ hk, ha⟩) (fun _ _ h => h)
  refine Lasts.one h1 (fun k => k = w.heap.size) (fun k hk => ⟨by subst hk; simp, hA k (by omega)⟩) (fun K1 hK1 q1 W hW hk => ?_)
  exact ⟨_, _, rfl, Tryz.entOneOf, fun V pv l f hV hp hl hf => oneOf_run W _ _ ms K1 (fun k hk1 => Nat.lt_of_lt_of_le (hK1 k hk1).1 hW) (cell1 (hk _ (Or.inr rfl)) (heap_alloc_new w _)) (q1 W hW (fun k h => hk k (Or.inl h))) V hV pv l f hp hl hf⟩
set_option maxRecDepth 100000 in
set_option maxHeartbeats 1000000 in
theorem maybe_call (w : World) (va : Value) (ha : FnV va) :
    Calls Tryz.prog 357 #[va] w fun e w' => e = .returned (.func (.func 372) #[] #[ptr4 w.heap.size 0]) ∧ w' = (w.alloc (box1 va 305)) := by
  have hmf : ∀ (fn : Fn) (first cap : Array Value) (w : World), (Instr.makeFunc fn first cap).run Tryz.prog w = .ok (.func fn first cap) w := fun _ _ _ _ => rfl
  rcases ha with ⟨f, a, b, rfl⟩ | rfl <;>
  · go_enter Tryz.func357, Tryz.ntmps357
    go_wp2_with fail
    go_ret
    exact ⟨rfl, rfl⟩
theorem maybe_said (w : World) (va : Value) (ma : WayM) (A : Nat → Prop) (hA : ∀ k, w.heap.size ≤ k → A k) (ha : WayL w A va ma) :
    Calls Tryz.prog 357 #[va] w fun e w' => ∃ v, e = .returned v ∧ FnV v ∧ w' = w.alloc (box1 va 305) ∧ WayL w' A v (optL ma) := by
  obtain ⟨K0, g0, lb0, hv0, _⟩ := Lasts.now ha
  refine (maybe_call w va (Or.inl ⟨_, _, _, hv0⟩)).mono ?_
  rintro e w' ⟨rfl, rfl⟩
  refine ⟨_, rfl, Or.inl ⟨_, _, _, rfl⟩, rfl, ?_⟩
  have h1 : Lasts (w.alloc (box1 va 305)) A (WayC va ma) := ha.mono (by simp) (fun k hk ha => ⟨Below.heap_alloc _ _ _ hk, ha⟩) (fun _ _ h => h)
  refine Lasts.one h1 (fun k => k = w.heap.size) (fun k hk => ⟨by subst hk; simp, hA k (by omega)⟩) (fun K1 _ q1 W hW hk => ?_)
  exact ⟨_, _, rfl, Tryz.entMaybe, fun V pv l f hV hp hl hf => maybe_run W _ va ma K1 (q1 W hW (fun k h => hk k (Or.inl h))) (cell_of_heap ((hk _ (Or.inr rfl)).trans (heap_alloc_new w _))) V hV pv l f hp hl hf⟩
set_option maxRecDepth 100000 in
set_option maxHeartbeats 1000000 in
theorem again_call (w : World) (va : Value) (ha : FnV va) :
    Calls Tryz.prog 356 #[va] w fun e w' => e = .returned (.func (.func 371) #[] #[ptr4 w.heap.size 0]) ∧ w' = (w.alloc (box1 va 305)) := by
  have hmf : ∀ (fn : Fn) (first cap : Array Value) (w : World), (Instr.makeFunc fn first cap).run Tryz.prog w = .ok (.func fn first cap) w := fun _ _ _ _ => rfl
  rcases ha with ⟨f, a, b, rfl⟩ | rfl <;>
  · go_enter Tryz.func356, Tryz.ntmps356
    go_wp2_with fail
    go_ret
    exact ⟨rfl, rfl⟩
theorem again_said (w : World) (va : Value) (ma : WayM) (A : Nat → Prop) (hA : ∀ k, w.heap.size ≤ k → A k) (ha : WayL w A va ma) :
    Calls Tryz.prog 356 #[va] w fun e w' => ∃ v, e = .returned v ∧ FnV v ∧ w' = w.alloc (box1 va 305) ∧ WayL w' A v (PlusL ma) := by
  obtain ⟨K0, g0, lb0, hv0, _⟩ := Lasts.now ha
  refine (again_call w va (Or.inl ⟨_, _, _, hv0⟩)).mono ?_
  rintro e w' ⟨rfl, rfl⟩
  refine ⟨_, rfl, Or.inl ⟨_, _, _, rfl⟩, rfl, ?_⟩
  have h1 : Lasts (w.alloc (box1 va 305)) A (WayC va ma) := ha.mono (by simp) (fun k hk ha => ⟨Below.heap_alloc _ _ _ hk, ha⟩) (fun _ _ h => h)
  refine Lasts.one h1 (fun k => k = w.heap.size) (fun k hk => ⟨by subst hk; simp, hA k (by omega)⟩) (fun K1 _ q1 W hW hk => ?_)
  exact ⟨_, _, rfl, Tryz.entAgain, fun V pv l f hV hp hl hf => again_run W _ va ma K1 (q1 W hW (fun k h => hk k (Or.inl h))) (cell_of_heap ((hk _ (Or.inr rfl)).trans (heap_alloc_new w _))) V hV pv l f hp hl hf⟩
set_option maxRecDepth 100000 in
set_option maxHeartbeats 1000000 in
theorem system_call (w : World) (n : Int) :
    Calls Tryz.prog 307 #[.int .i64 n] w fun e w' => e = .returned (.func (.func 335) #[] #[ptr4 w.heap.size 0]) ∧ w' = w.alloc (box1 (.int .i64 n) 3) := by
  have hmf : ∀ (fn : Fn) (first cap : Array Value) (w : World), (Instr.makeFunc fn first cap).run Tryz.prog w = .ok (.func fn first cap) w := fun _ _ _ _ => rfl
  go_enter Tryz.func307, Tryz.ntmps307
  go_wp2_with fail
  go_ret
  exact ⟨rfl, rfl⟩
theorem system_said (w : World) (n : Int) (A : Nat → Prop) (hA : ∀ k, w.heap.size ≤ k → A k) :
    Calls Tryz.prog 307 #[.int .i64 n] w fun e w' => ∃ v, e = .returned v ∧ FnV v ∧ w' = w.alloc (box1 (.int .i64 n) 3) ∧ WayL w' A v (numL n) := by
  refine (system_call w n).mono ?_
  rintro e w' ⟨rfl, rfl⟩
  refine ⟨_, rfl, Or.inl ⟨_, _, _, rfl⟩, rfl, Lasts.new (fun k => k = w.heap.size) (fun k hk => ⟨by subst hk; simp, hA k (by omega)⟩) (fun W hW hk => ?_)⟩
  exact ⟨_, _, rfl, Tryz.entSystem, fun V pv l f hV hp hl hf => system_run W _ n (cell_of_heap ((hk _ rfl).trans (heap_alloc_new w _))) V hV pv l f hp hl hf⟩
theorem dot_said (w : World) (A : Nat → Prop) : WayL w A (.func (.func 308) #[] #[]) dotL :=
  Lasts.new (fun _ => False) (fun _ h => h.elim) (fun _ _ _ => ⟨_, _, rfl, Tryz.entAnySystem, fun V pv l f _ hp hl hf => anySystem_run V pv l f hp hl hf⟩)
theorem WayL.below {w w' : World} {A : Nat → Prop} {v : Value} {m : WayM} (h : WayL w A v m) (hb : Below w.heap.size w w') : WayL w' A v m :=
  h.mono hb.size (fun k hk ha => ⟨hb.block k hk, ha⟩) (fun _ _ h => h)

set_option maxRecDepth 100000 in
set_option maxHeartbeats 1000000 in
theorem repeat_said (w : World) (va : Value) (ma : WayM) (z m : Bool) (A : Nat → Prop) (hA : ∀ k, w.heap.size ≤ k → A k) (ha : WayL w A va ma) :
    Calls Tryz.prog 334 #[va, .bool z, .bool m] w fun e w' => ∃ v, e = .returned v ∧ FnV v ∧ Below w.heap.size w w' ∧ WayL w' A v (repL z m ma) := by
  obtain ⟨K0, g0, lb0, hv0, _⟩ := Lasts.now ha
  subst hv0
  have HA := hide ha
  have HAN := hide (again_said w _ ma A hA ha)
  have HMB := hide (fun (W : World) (v : Value) (m : WayM) (hW : Below w.heap.size w W) (hv : WayL W A v m) => maybe_said W v m A (fun k hk => hA k (Nat.le_trans hW.size hk)) hv)
  clear ha hA
  cases m with
  | false =>
    cases z with
    | false =>
      go_enter Tryz.func334, Tryz.ntmps334
      go_wp2_with fail
      go_ret
      exact ⟨_, rfl, Or.inl ⟨_, _, _, rfl⟩, Below.refl _ _, unhide HA⟩
    | true =>
      go_enter Tryz.func334, Tryz.ntmps334
      go_wp2_with (go_at_call 357; refine ((unhide HMB) w _ ma (Below.refl _ _) (unhide HA)).mono ?_; rintro e w1 ⟨v, rfl, hfv, rfl, hv⟩; obtain ⟨K1, g1, lb1, hv1, _⟩ := Lasts.now hv; have HV := hide hv; have HFV := hide hfv; clear hv hfv; subst hv1)
      go_ret
      exact ⟨_, rfl, unhide HFV, (Below.refl _ _).alloc (Nat.le_refl _) _, unhide HV⟩
  | true =>
    cases z with
    | false =>
      go_enter Tryz.func334, Tryz.ntmps334
      go_wp2_with (go_at_call 356; refine (unhide HAN).mono ?_; rintro e w1 ⟨v, rfl, hfv, rfl, hv⟩; obtain ⟨K1, g1, lb1, hv1, _⟩ := Lasts.now hv; have HV := hide hv; have HFV := hide hfv; clear hv hfv; subst hv1)
      go_ret
      exact ⟨_, rfl, unhide HFV, (Below.refl _ _).alloc (Nat.le_refl _) _, unhide HV⟩
    | true =>
      go_enter Tryz.func334, Tryz.ntmps334
      go_wp2_with (first
        | (go_at_call 356; refine (unhide HAN).mono ?_; rintro e w1 ⟨v, rfl, hfv, rfl, hv⟩; obtain ⟨K1, g1, lb1, hv1, _⟩ := Lasts.now hv; have HV := hide hv; clear hv hfv; subst hv1)
        | (go_at_call 357; refine ((unhide HMB) _ _ _ ((Below.refl _ _).alloc (Nat.le_refl _) _) (unhide HV)).mono ?_; rintro e w2 ⟨v2, rfl, hfv2, rfl, hv2⟩; obtain ⟨K2, g2, lb2, hv3, _⟩ := Lasts.now hv2; have HV2 := hide hv2; have HFV := hide hfv2; clear hv2 hfv2; subst hv3))
      go_ret
      exact ⟨_, rfl, unhide HFV, ((Below.refl _ _).alloc (Nat.le_refl _) _).alloc (by simp) _, unhide HV2⟩
/-! ## the reader -/
def WayRes (pb : Nat) (ts : List TokP) (w : World) (D O : Nat → Prop) (r : RS × WayM) (e : Ending) (w' : World) : Prop :=
  ∃ v O', e = .returned v ∧ RA w' pb ts r.1 D O' ∧ Fr O w O' w' ∧ FnV v ∧ WayL w' (Free O' D w.heap.size) v r.2 ∧ Ok ts r.1
def WaySaid (fn pb : Nat) (ts : List TokP) (tw : RS → Option (RS × WayM)) : Prop := ∀ (w : World) (st : RS) (D O : Nat → Prop) (r : RS × WayM), RA w pb ts st D O → Ok ts st → tw st = some r → Calls Tryz.prog fn #[ptr4 pb 0] w (WayRes pb ts w D O r)
theorem repLp_pos {ts : List TokP} {k : Nat} {st : RS} {z m : Bool} {r : RS × Bool × Bool} (h : repLp ts k st z m = some r) : ∃ g, k = g + 1 := by
  cases k with
  | zero => cases h
  | succ g => exact ⟨g, rfl⟩
set_option maxRecDepth 100000 in
set_option maxHeartbeats 4000000 in
theorem repeats_said {pb : Nat} {ts : List TokP} (ht : TsOk ts) (n : Nat) {w w0 : World} {st : RS} {D O O0 : Nat → Prop} {va : Value} {ma : WayM} {r : RS × WayM} (h : RA w pb ts st D O) (hk : Ok ts st) (h0 : Fr O0 w0 O w) (hv : WayL w (Free O D w0.heap.size) va ma) (hr : repeatsR ts n ma st = some r) :
    Calls Tryz.prog 306 #[ptr4 pb 0, va] w (WayRes pb ts w0 D O0 r) := by
  unfold repeatsR at hr
  obtain ⟨r1, hr1, hr2⟩ : ∃ r1, repLp ts n st false false = some r1 ∧ r = (r1.1, repL r1.2.1 r1.2.2 ma) := by
    split at hr
    · cases hr
    · rename_i s z m hx
      exact ⟨(s, z, m), hx, (Option.some.inj hr).symm⟩
  obtain ⟨K0, g0, lb0, hv0, _⟩ := Lasts.now hv
  subst hv0
  have HR := hide h
  have HF := hide h0
  have HK := hide hk
  have HT := hide ht
  have HV := hide hv
  have HL := hide hr1
  clear h hk h0 ht hv hr hr1
  subst hr2
  go_enter Tryz.func306, Tryz.ntmps306
  go_wp2_with fail
  go_loopg [5, 6] n (fun k z5 m6 wr => ∃ (su : RS) (z m : Bool) (Ou : Nat → Prop), z5 = .bool z ∧ m6 = .bool m ∧ RA wr pb ts su D Ou ∧ Fr O0 w0 Ou wr ∧ WayL wr (Free Ou D w0.heap.size) (.func (.func g0) #[] lb0) ma ∧ Ok ts su ∧ repLp ts k su z m = some r1)
  case atStart => exact ⟨st, false, false, O, rfl, rfl, unhide HR, unhide HF, unhide HV, unhide HK, unhide HL⟩
  case round =>
    clear HR HF HV HK HL
    obtain ⟨su, z, m, Ou, rfl, rfl, hr, hf, hv, hk, hl⟩ := hrel
    obtain ⟨g, rfl⟩ := repLp_pos hl
    rw [repLp] at hl
    have HR := hide hr
    have HF := hide hf
    have HV := hide hv
    have HK := hide hk
    clear hr hf hv hk
    by_cases e36 : kindR ts su = 36
    · rw [if_pos e36] at hl
      have HL := hide hl
      have HE := hide e36
      have HG := hide (goR_ok' (unhide HK) (unhide HT) e36 (by decide))
      clear hl e36
      go_wp2_with (go_at_call 211; refine (took_yes (unhide HR) (unhide HK) (unhide HT) 36 (unhide HE)).mono ?_; rintro e w1 ⟨rfl, O1, hr1, hf1⟩; replace HR := hide hr1; replace HV := hide (Lasts.fr (unhide HV) hf1 (Nat.le_refl _)); replace HF := hide ((unhide HF).trans hf1); clear hr1 hf1)
      go_roundg g
      case measure => omega
      case rel => exact ⟨_, true, true, O1, rfl, rfl, unhide HR, unhide HF, unhide HV, unhide HG, unhide HL⟩
    · rw [if_neg e36] at hl
      have n36 := hide e36
      clear e36
      by_cases e38 : kindR ts su = 38
      · rw [if_pos e38] at hl
        have HL := hide hl
        have HE := hide e38
        have HG := hide (goR_ok' (unhide HK) (unhide HT) e38 (by decide))
        clear hl e38
        go_wp2_with (first
          | (go_at_call 211; refine (took_no (unhide HR) (unhide HK) (unhide HT) 36 (unhide n36)).mono ?_; rintro e w1 ⟨rfl, hr1, hf1⟩; replace HR := hide hr1; replace HV := hide (Lasts.fr (unhide HV) hf1 (Nat.le_refl _)); replace HF := hide ((unhide HF).trans hf1); clear hr1 hf1 n36)
          | (go_at_call 211; refine (took_yes (unhide HR) (unhide HK) (unhide HT) 38 (unhide HE)).mono ?_; rintro e w1 ⟨rfl, O1, hr1, hf1⟩; replace HR := hide hr1; replace HV := hide (Lasts.fr (unhide HV) hf1 (Nat.le_refl _)); replace HF := hide ((unhide HF).trans hf1); clear hr1 hf1))
        go_roundg g
        case measure => omega
        case rel => exact ⟨_, z, true, O1, rfl, rfl, unhide HR, unhide HF, unhide HV, unhide HG, unhide HL⟩
      · rw [if_neg e38] at hl
        have n38 := hide e38
        clear e38
        by_cases e37 : kindR ts su = 37
        · rw [if_pos e37] at hl
          have HL := hide hl
          have HE := hide e37
          have HG := hide (goR_ok' (unhide HK) (unhide HT) e37 (by decide))
          clear hl e37
          go_wp2_with (first
            | (go_at_call 211; refine (took_no (unhide HR) (unhide HK) (unhide HT) 36 (unhide n36)).mono ?_; rintro e w1 ⟨rfl, hr1, hf1⟩; replace HR := hide hr1; replace HV := hide (Lasts.fr (unhide HV) hf1 (Nat.le_refl _)); replace HF := hide ((unhide HF).trans hf1); clear hr1 hf1 n36)
            | (go_at_call 211; refine (took_no (unhide HR) (unhide HK) (unhide HT) 38 (unhide n38)).mono ?_; rintro e w1 ⟨rfl, hr1, hf1⟩; replace HR := hide hr1; replace HV := hide (Lasts.fr (unhide HV) hf1 (Nat.le_refl _)); replace HF := hide ((unhide HF).trans hf1); clear hr1 hf1 n38)
            | (go_at_call 211; refine (took_yes (unhide HR) (unhide HK) (unhide HT) 37 (unhide HE)).mono ?_; rintro e w1 ⟨rfl, O1, hr1, hf1⟩; replace HR := hide hr1; replace HV := hide (Lasts.fr (unhide HV) hf1 (Nat.le_refl _)); replace HF := hide ((unhide HF).trans hf1); clear hr1 hf1))
          go_roundg g
          case measure => omega
          case rel => exact ⟨_, true, m, O1, rfl, rfl, unhide HR, unhide HF, unhide HV, unhide HG, unhide HL⟩
        · rw [if_neg e37] at hl
          have n37 := hide e37
          obtain rfl := Option.some.inj hl
          clear hl e37
          dsimp only
          go_wp2_with (first
            | (go_at_call 211; refine (took_no (unhide HR) (unhide HK) (unhide HT) 36 (unhide n36)).mono ?_; rintro e w1 ⟨rfl, hr1, hf1⟩; replace HR := hide hr1; replace HV := hide (Lasts.fr (unhide HV) hf1 (Nat.le_refl _)); replace HF := hide ((unhide HF).trans hf1); clear hr1 hf1 n36)
            | (go_at_call 211; refine (took_no (unhide HR) (unhide HK) (unhide HT) 38 (unhide n38)).mono ?_; rintro e w1 ⟨rfl, hr1, hf1⟩; replace HR := hide hr1; replace HV := hide (Lasts.fr (unhide HV) hf1 (Nat.le_refl _)); replace HF := hide ((unhide HF).trans hf1); clear hr1 hf1 n38)
            | (go_at_call 211; refine (took_no (unhide HR) (unhide HK) (unhide HT) 37 (unhide n37)).mono ?_; rintro e w1 ⟨rfl, hr1, hf1⟩; replace HR := hide hr1; replace HV := hide (Lasts.fr (unhide HV) hf1 (Nat.le_refl _)); replace HF := hide ((unhide HF).trans hf1); clear hr1 hf1 n37)
            | (go_at_call 334; refine (repeat_said _ _ ma z m _ ((unhide HR).newFree (unhide HF)) (unhide HV)).mono ?_; rintro e w2 ⟨v2, rfl, hfv2, hb2, hv2⟩; obtain ⟨K2, g2, lb2, hv3, _⟩ := Lasts.now hv2; have HV2 := hide hv2; have HFV := hide hfv2; replace HR := hide ((unhide HR).stay hb2); replace HF := hide ((unhide HF).below hb2); clear hv2 hfv2 hb2; subst hv3))
          go_ret
          exact ⟨_, _, rfl, unhide HR, unhide HF, unhide HFV, unhide HV2, unhide HK⟩
end Go.Proofs.YtgdeeodifnegiaaGreatDoor
