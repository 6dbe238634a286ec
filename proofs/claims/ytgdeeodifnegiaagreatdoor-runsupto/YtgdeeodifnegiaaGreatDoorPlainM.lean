/- Messages, plain, no program: what a message is, its bytes, how bytes are read; there and back, back and there. -/
import Derived.WalkKit
namespace Go.Proofs.YtgdeeodifnegiaaGreatDoor
open Go.RowKit

structure Msg where
  gone : List (Int × Int)
  nets : List (Int × Int)
  path : List Int
  marks : List Int
  pref : Int
  med : Int

def twoB (n : Int) : List Int := [n / 256 % 256, n % 256]
def fourB (n : Int) : List Int := twoB (n / 65536) ++ twoB (n % 65536)
def needsP (n : Int) : Nat := ((n + 7) / 8).toNat

def powP (n : Int) : Int := 2 ^ (32 - n).toNat
abbrev netOk (x : Int × Int) : Prop := (0 ≤ x.1 ∧ x.1 ≤ 4294967295) ∧ (0 ≤ x.2 ∧ x.2 ≤ 32) ∧ x.1 % powP x.2 = 0
abbrev netsOk (l : List (Int × Int)) : Prop := l.length ≤ 20 ∧ (∀ x ∈ l, netOk x) ∧ l.Nodup
abbrev pathOk (p : List Int) : Prop := p.length ≤ 12 ∧ ∀ s ∈ p, 1 ≤ s ∧ s ≤ 65535
/-- rising, each at least so much and at most 65535 -/
def risesB : Int → List Int → Bool
  | _, [] => true
  | n, x :: l => decide (n ≤ x) && (decide (x ≤ 65535) && risesB (x + 1) l)
abbrev rises (n : Int) (l : List Int) : Prop := risesB n l = true
theorem rises_nil (n : Int) : rises n [] := rfl
theorem rises_cons {n x : Int} {l : List Int} : rises n (x :: l) ↔ n ≤ x ∧ x ≤ 65535 ∧ rises (x + 1) l := by
  simp only [rises, risesB, Bool.and_eq_true, decide_eq_true_eq]
abbrev marksOk (m : List Int) : Prop := m.length ≤ 8 ∧ rises 0 m
abbrev numOk (n : Int) : Prop := 0 ≤ n ∧ n ≤ 4294967295
abbrev plainM (u : Msg) : Prop := u.path = [] ∧ u.marks = [] ∧ u.pref = 0 ∧ u.med = 0
abbrev msgOk (u : Msg) : Prop := netsOk (u.gone ++ u.nets) ∧ pathOk u.path ∧ marksOk u.marks ∧ numOk u.pref ∧ numOk u.med ∧ (u.nets ≠ [] ∨ plainM u)

def netBy (x : Int × Int) : List Int := x.2 :: (fourB x.1).take (needsP x.2)
def netsB (l : List (Int × Int)) : List Int := l.flatMap netBy
def attB (a : Int × Int × List Int) : List Int := a.1 :: a.2.1 :: (a.2.2.length : Int) :: a.2.2
def wordsB (l : List Int) : List Int := l.flatMap twoB
def pathB (p : List Int) : List Int := if p = [] then [] else 2 :: (p.length : Int) :: wordsB p
def attsOf (u : Msg) : List (Int × Int × List Int) :=
  if u.nets = [] then [] else
    (64, 2, pathB u.path) :: ((if 0 < u.med then [(128, 4, fourB u.med)] else []) ++ (64, 5, fourB u.pref) :: (if u.marks = [] then [] else [(192, 8, wordsB u.marks)]))
def attsB (l : List (Int × Int × List Int)) : List Int := l.flatMap attB
def encP (u : Msg) : List Int :=
  let g := netsB u.gone
  let a := attsB (attsOf u)
  twoB g.length ++ (g ++ (twoB a.length ++ (a ++ netsB u.nets)))

def valB (b : List Int) : Int := b.foldl (fun n x => 256 * n + x) 0
def padB (b : List Int) : List Int := b ++ List.replicate (4 - b.length) 0
def bytesOk (b : List Int) : Prop := ∀ x ∈ b, 0 ≤ x ∧ x ≤ 255
theorem bytesOk_cons {x : Int} {l : List Int} : bytesOk (x :: l) ↔ (0 ≤ x ∧ x ≤ 255) ∧ bytesOk l := by simp [bytesOk]
theorem bytesOk_append {a b : List Int} : bytesOk (a ++ b) ↔ bytesOk a ∧ bytesOk b := by
  simp only [bytesOk, List.mem_append]
  exact ⟨fun h => ⟨fun x hx => h x (Or.inl hx), fun x hx => h x (Or.inr hx)⟩, fun h x hx => hx.elim (h.1 x) (h.2 x)⟩
theorem bytesOk_nil : bytesOk [] := by simp [bytesOk]
theorem bytesOk_take {a : List Int} (h : bytesOk a) (n : Nat) : bytesOk (a.take n) := fun x hx => h x (List.mem_of_mem_take hx)
theorem bytesOk_drop {a : List Int} (h : bytesOk a) (n : Nat) : bytesOk (a.drop n) := fun x hx => h x (List.mem_of_mem_drop hx)

/-- how many bytes of the address stand behind a byte n -/
def takesP (n : Int) : Nat := if 32 < n then 0 else needsP n
def readN : Nat → List Int → Option (List (Int × Int))
  | _, [] => some []
  | 0, _ :: _ => none
  | f + 1, n :: t => if t.length < takesP n then none else (readN f (t.drop (takesP n))).map (fun l => (valB (padB (t.take (takesP n))), n) :: l)
def netsR (b : List Int) : Option (List (Int × Int)) := readN b.length b
def readA : Nat → List Int → Option (List (Int × Int × List Int))
  | _, [] => some []
  | f + 1, x :: y :: z :: t => if t.length < z.toNat then none else (readA f (t.drop z.toNat)).map (fun l => (x, y, t.take z.toNat) :: l)
  | _, _ => none
def attsR (b : List Int) : Option (List (Int × Int × List Int)) := readA b.length b

def words : List Int → List Int
  | x :: y :: t => (256 * x + y) :: words t
  | _ => []
def pathR (v : List Int) : Option (List Int) :=
  match v with
  | [] => some []
  | x :: n :: t => if x = 2 ∧ 1 ≤ n ∧ n ≤ 12 ∧ (t.length : Int) = 2 * n ∧ (∀ s ∈ words t, s ≠ 0) then some (words t) else none
  | _ => none
def marksR (v : List Int) : Option (List Int) :=
  if v ≠ [] ∧ v.length % 2 = 0 ∧ v.length ≤ 16 ∧ rises 0 (words v) then some (words v) else none
def flagsP (w : Int) : Int := if w = 2 ∨ w = 5 then 64 else if w = 4 then 128 else if w = 8 then 192 else -1
/-- an attribute's value, put into a message -/
def into (u : Msg) (w : Int) (v : List Int) : Option Msg :=
  if w = 2 then (pathR v).map (fun p => { u with path := p })
  else if w = 8 then (marksR v).map (fun m => { u with marks := m })
  else if w = 4 then (if v.length = 4 ∧ 0 < valB v then some { u with med := valB v } else none)
  else if v.length = 4 then some { u with pref := valB v } else none
/-- attribute by attribute: the error, or the message; the one ahead; is 2, is 5 there? -/
structure AS where
  u : Msg
  last : Int
  two : Bool
  five : Bool
def attsP : AS → List (Int × Int × List Int) → Except Int AS
  | s, [] => .ok s
  | s, (f, w, v) :: l =>
    if f ≠ flagsP w ∨ w ≤ s.last then .error 7
    else match into s.u w v with
      | none => .error 8
      | some u => attsP ⟨u, w, s.two || w = 2, s.five || w = 5⟩ l
def msgZ : Msg := ⟨[], [], [], [], 0, 0⟩
def decP (b : List Int) : Except Int Msg :=
  match b with
  | x :: y :: t =>
    let n := (256 * x + y).toNat
    if t.length < n + 2 then .error 6 else
    let m := (valB ((t.drop n).take 2)).toNat
    let r := t.drop (n + 2)
    if r.length < m then .error 6 else
    match netsR (t.take n), attsR (r.take m), netsR (r.drop m) with
    | some gone, some l, some there =>
      match attsP ⟨msgZ, 0, false, false⟩ l with
      | .error e => .error e
      | .ok s =>
        if (there ≠ [] ∧ ¬ (s.two = true ∧ s.five = true)) ∨ (there = [] ∧ l ≠ []) then .error 9
        else if netsOk (gone ++ there) then .ok { s.u with gone := gone, nets := there } else .error 10
    | _, _, _ => .error 6
  | _ => .error 6

/-! ## numbers -/
theorem twoB_len (n : Int) : (twoB n).length = 2 := rfl
theorem fourB_len (n : Int) : (fourB n).length = 4 := rfl
theorem valB_two (x y : Int) : valB [x, y] = 256 * x + y := by simp [valB]
theorem twoB_val {n : Int} (h : 0 ≤ n ∧ n < 65536) : valB (twoB n) = n := by rw [twoB, valB_two]; omega
theorem valB_four (a b c d : Int) : valB [a, b, c, d] = 256 * (256 * (256 * a + b) + c) + d := by simp [valB]
theorem fourB_eq (n : Int) : fourB n = [n / 65536 / 256 % 256, n / 65536 % 256, n % 65536 / 256 % 256, n % 65536 % 256] := rfl
theorem fourB_val {n : Int} (h : 0 ≤ n ∧ n ≤ 4294967295) : valB (fourB n) = n := by rw [fourB_eq, valB_four]; omega
theorem twoB_of {x y : Int} (hx : 0 ≤ x ∧ x ≤ 255) (hy : 0 ≤ y ∧ y ≤ 255) : twoB (256 * x + y) = [x, y] := by
  have h1 : (256 * x + y) / 256 % 256 = x := by omega
  have h2 : (256 * x + y) % 256 = y := by omega
  rw [twoB, h1, h2]
theorem fourB_of {a b c d : Int} (ha : 0 ≤ a ∧ a ≤ 255) (hb : 0 ≤ b ∧ b ≤ 255) (hc : 0 ≤ c ∧ c ≤ 255) (hd : 0 ≤ d ∧ d ≤ 255) : fourB (valB [a, b, c, d]) = [a, b, c, d] := by
  rw [valB_four, fourB_eq]
  have h1 : (256 * (256 * (256 * a + b) + c) + d) / 65536 / 256 % 256 = a := by omega
  have h2 : (256 * (256 * (256 * a + b) + c) + d) / 65536 % 256 = b := by omega
  have h3 : (256 * (256 * (256 * a + b) + c) + d) % 65536 / 256 % 256 = c := by omega
  have h4 : (256 * (256 * (256 * a + b) + c) + d) % 65536 % 256 = d := by omega
  rw [h1, h2, h3, h4]
theorem twoB_ok (n : Int) : bytesOk (twoB n) := by
  intro x hx; simp [twoB] at hx; omega
theorem fourB_ok (n : Int) : bytesOk (fourB n) := bytesOk_append.2 ⟨twoB_ok _, twoB_ok _⟩

/-! ## nets -/
theorem needs_le {n : Int} (h : 0 ≤ n ∧ n ≤ 32) : needsP n ≤ 4 ∧ n ≤ 8 * needsP n := by unfold needsP; omega
theorem mod_of_net {a n : Int} (h : a % powP n = 0) (hn : 0 ≤ n ∧ n ≤ 32) : a % (2 ^ (32 - 8 * needsP n) : Nat) = 0 := by
  have h1 : (2 ^ (32 - 8 * needsP n) : Nat) ∣ 2 ^ (32 - n).toNat := Nat.pow_dvd_pow 2 (by have := needs_le hn; omega)
  have h2 : ((2 ^ (32 - 8 * needsP n) : Nat) : Int) ∣ ((2 ^ (32 - n).toNat : Nat) : Int) := Int.natCast_dvd_natCast.2 h1
  have h3 : ((2 ^ (32 - n).toNat : Nat) : Int) = powP n := by unfold powP; push_cast; rfl
  rw [h3] at h2
  exact Int.emod_eq_zero_of_dvd (Int.dvd_trans h2 (Int.dvd_of_emod_eq_zero h))
theorem pad_four {a n : Int} (h : netOk (a, n)) : valB (padB ((fourB a).take (needsP n))) = a := by
  obtain ⟨h1, h2, h3⟩ := h
  have h4 := mod_of_net h3 h2
  have h5 := (needs_le h2).1
  simp only at h1
  generalize needsP n = k at h4 h5
  rcases (by omega : k = 0 ∨ k = 1 ∨ k = 2 ∨ k = 3 ∨ k = 4) with rfl | rfl | rfl | rfl | rfl <;>
    simp only [fourB_eq, padB, List.take, List.length, List.replicate, List.append_nil, List.nil_append, List.cons_append, Nat.sub_zero, Nat.sub_self, Nat.reduceSub, Nat.reduceAdd, valB_four] <;>
    simp at h4 <;> omega
theorem netBy_len {x : Int × Int} (h : netOk x) : (netBy x).length = 1 + needsP x.2 := by
  have := (needs_le h.2.1).1
  simp [netBy, fourB_len]; omega
theorem readN_more : ∀ (f : Nat) (b : List Int) (g : Nat), b.length ≤ f → b.length ≤ g → readN f b = readN g b := by
  intro f
  induction f with
  | zero => intro b g h1 h2; cases b with
    | nil => cases g <;> rfl
    | cons x t => simp at h1
  | succ f ih =>
    intro b g h1 h2
    cases b with
    | nil => cases g <;> rfl
    | cons x t =>
      cases g with
      | zero => simp at h2
      | succ g =>
        simp only [readN]
        simp at h1 h2
        rw [ih (t.drop (takesP x)) g (by simp; omega) (by simp; omega)]
theorem netsR_cons (n : Int) (t : List Int) : netsR (n :: t) = if t.length < takesP n then none else (netsR (t.drop (takesP n))).map (fun l => (valB (padB (t.take (takesP n))), n) :: l) := by
  unfold netsR
  rw [List.length_cons, readN]
  rw [readN_more t.length (t.drop (takesP n)) _ (by simp) (Nat.le_refl _)]
theorem netsR_nil : netsR [] = some [] := rfl
theorem netsR_net {x : Int × Int} (h : netOk x) (b : List Int) : netsR (netBy x ++ b) = (netsR b).map (fun l => x :: l) := by
  obtain ⟨a, n⟩ := x
  have hk := (needs_le h.2.1).1
  simp only at hk
  have h1 : takesP n = needsP n := by unfold takesP; rw [if_neg]; have := h.2.1; simp only at this; omega
  rw [netBy, List.cons_append, netsR_cons, h1]
  have hl : ((fourB a).take (needsP n)).length = needsP n := by simp [fourB_len]; omega
  rw [if_neg (by simp [fourB_len]; omega), List.drop_left' hl, List.take_left' hl, pad_four h]
theorem netsR_nets : ∀ {l : List (Int × Int)}, (∀ x ∈ l, netOk x) → netsR (netsB l) = some l := by
  intro l
  induction l with
  | nil => intro _; rfl
  | cons x l ih =>
    intro h
    rw [netsB, List.flatMap_cons, netsR_net (h x (by simp)), ← netsB, ih (fun y hy => h y (by simp [hy]))]; rfl
theorem four_pad {t : List Int} (h : bytesOk t) (hl : t.length ≤ 4) : (fourB (valB (padB t))).take t.length = t := by
  match t, h, hl with
  | [], _, _ => rfl
  | [a], h, _ => simp only [bytesOk_cons] at h; simp only [padB, List.length, List.replicate, List.cons_append, List.nil_append, Nat.reduceAdd, Nat.reduceSub]; rw [fourB_of h.1 (by omega) (by omega) (by omega)]; rfl
  | [a, b], h, _ => simp only [bytesOk_cons] at h; simp only [padB, List.length, List.replicate, List.cons_append, List.nil_append, Nat.reduceAdd, Nat.reduceSub]; rw [fourB_of h.1 h.2.1 (by omega) (by omega)]; rfl
  | [a, b, c], h, _ => simp only [bytesOk_cons] at h; simp only [padB, List.length, List.replicate, List.cons_append, List.nil_append, Nat.reduceAdd, Nat.reduceSub]; rw [fourB_of h.1 h.2.1 h.2.2.1 (by omega)]; rfl
  | [a, b, c, d], h, _ => simp only [bytesOk_cons] at h; simp only [padB, List.length, List.replicate, List.append_nil, Nat.reduceAdd, Nat.reduceSub]; rw [fourB_of h.1 h.2.1 h.2.2.1 h.2.2.2.1]; rfl
  | a :: b :: c :: d :: e :: t, _, hl => simp at hl
theorem nets_netsR : ∀ (f : Nat) {b : List Int} {l : List (Int × Int)}, bytesOk b → readN f b = some l → (∀ x ∈ l, netOk x) → netsB l = b := by
  intro f
  induction f with
  | zero =>
    intro b l hb hr hn
    cases b with
    | nil => simp [readN] at hr; subst hr; rfl
    | cons x t => simp [readN] at hr
  | succ f ih =>
    intro b l hb hr hn
    cases b with
    | nil => simp [readN] at hr; subst hr; rfl
    | cons n t =>
      simp only [readN] at hr
      split at hr
      · cases hr
      · rename_i hlen
        cases hq : readN f (t.drop (takesP n)) with
        | none => rw [hq] at hr; cases hr
        | some l' =>
          rw [hq] at hr
          simp only [Option.map_some, Option.some.injEq] at hr
          subst hr
          have hb' := bytesOk_cons.1 hb
          have h1 := hn _ (List.mem_cons_self ..)
          have h2 : takesP n = needsP n := by unfold takesP; rw [if_neg]; have := h1.2.1; simp only at this; omega
          have h3 := (needs_le h1.2.1).1
          simp only at h3
          rw [netsB, List.flatMap_cons, ← netsB, ih (bytesOk_drop hb'.2 _) hq (fun x hx => hn x (by simp [hx]))]
          have h4 : (t.take (takesP n)).length = needsP n := by rw [← h2]; simp; omega
          have h5 := four_pad (bytesOk_take hb'.2 (takesP n)) (by rw [h4]; exact h3)
          rw [h4] at h5
          rw [netBy]
          simp only
          rw [h5, List.cons_append, List.take_append_drop]

/-! ## words -/
theorem words_B : ∀ {l : List Int}, (∀ x ∈ l, 0 ≤ x ∧ x ≤ 65535) → words (wordsB l) = l := by
  intro l
  induction l with
  | nil => intro _; rfl
  | cons x l ih =>
    intro h
    have h1 := h x (by simp)
    rw [wordsB, List.flatMap_cons, ← wordsB]
    simp only [twoB, List.cons_append, List.nil_append, words]
    rw [ih (fun y hy => h y (by simp [hy]))]
    have : 256 * (x / 256 % 256) + x % 256 = x := by omega
    rw [this]
theorem wordsB_len : ∀ (l : List Int), (wordsB l).length = 2 * l.length := by
  intro l
  induction l with
  | nil => rfl
  | cons x l ih => rw [wordsB, List.flatMap_cons, ← wordsB, List.length_append, ih, twoB_len, List.length_cons]; omega
theorem B_words : ∀ (n : Nat) {l : List Int}, l.length = 2 * n → bytesOk l → wordsB (words l) = l ∧ (words l).length = n ∧ (∀ x ∈ words l, 0 ≤ x ∧ x ≤ 65535) := by
  intro n
  induction n with
  | zero => intro l h _; have : l = [] := List.length_eq_zero_iff.1 (by omega); subst this; exact ⟨rfl, rfl, by simp [words]⟩
  | succ n ih =>
    intro l h hb
    match l, h, hb with
    | [], h, _ => simp at h
    | [_], h, _ => simp at h; omega
    | x :: y :: t, h, hb =>
      simp only [List.length_cons] at h
      simp only [bytesOk_cons] at hb
      obtain ⟨h1, h2, h3⟩ := ih (l := t) (by omega) hb.2.2
      simp only [words]
      refine ⟨?_, by simp [h2], ?_⟩
      · rw [wordsB, List.flatMap_cons, ← wordsB, h1, twoB_of hb.1 hb.2.1]; rfl
      · intro z hz
        rcases List.mem_cons.1 hz with rfl | hz
        · have := hb.1; have := hb.2.1; omega
        · exact h3 z hz
theorem wordsB_ok : ∀ (l : List Int), bytesOk (wordsB l) := by
  intro l
  induction l with
  | nil => exact bytesOk_nil
  | cons x l ih => rw [wordsB, List.flatMap_cons, ← wordsB]; exact bytesOk_append.2 ⟨twoB_ok _, ih⟩
theorem wordsB_nil {l : List Int} : wordsB l = [] ↔ l = [] := by
  constructor
  · intro h; have := wordsB_len l; rw [h] at this; exact List.length_eq_zero_iff.1 (by simp at this; omega)
  · rintro rfl; rfl
theorem rises_all : ∀ {l : List Int} {n : Int}, rises n l → ∀ x ∈ l, n ≤ x ∧ x ≤ 65535 := by
  intro l
  induction l with
  | nil => intro n _ x hx; cases hx
  | cons y l ih =>
    intro n h x hx
    obtain ⟨h1, h2, h3⟩ := rises_cons.1 h
    rcases List.mem_cons.1 hx with rfl | hx
    · exact ⟨h1, h2⟩
    · have := ih h3 x hx; omega

/-! ## a path, marks -/
theorem pathR_B {p : List Int} (h : pathOk p) : pathR (pathB p) = some p := by
  unfold pathB
  split
  · rename_i h1; subst h1; rfl
  · rename_i h1
    have h2 : 0 < p.length := List.length_pos_iff.2 h1
    have h3 := words_B (l := p) (fun x hx => by have := h.2 x hx; omega)
    have h4 := h.1
    simp only [pathR]
    rw [if_pos, h3]
    refine ⟨trivial, by omega, by omega, by rw [wordsB_len]; push_cast; rfl, ?_⟩
    rw [h3]; intro s hs; have := h.2 s hs; omega
theorem B_pathR {v p : List Int} (hb : bytesOk v) (h : pathR v = some p) : pathOk p ∧ pathB p = v := by
  match v, hb, h with
  | [], _, h => simp only [pathR, Option.some.injEq] at h; subst h; exact ⟨⟨by simp, by simp⟩, rfl⟩
  | [_], _, h => simp [pathR] at h
  | x :: n :: t, hb, h =>
    simp only [pathR] at h
    split at h
    · rename_i hc
      obtain ⟨h1, h2, h3, h4, h5⟩ := hc
      simp only [Option.some.injEq] at h
      subst h
      simp only [bytesOk_cons] at hb
      obtain ⟨a, b, c⟩ := B_words n.toNat (l := t) (by omega) hb.2.2
      refine ⟨⟨by rw [b]; omega, fun s hs => by have := c s hs; have := h5 s hs; omega⟩, ?_⟩
      unfold pathB
      rw [if_neg (by intro he; rw [he] at b; simp at b; omega), a, b, h1]
      have : ((n.toNat : Nat) : Int) = n := by omega
      rw [this]
    · cases h
theorem marksR_B {m : List Int} (h : marksOk m) (hn : m ≠ []) : marksR (wordsB m) = some m := by
  have h3 := words_B (l := m) (fun x hx => by have := rises_all h.2 x hx; omega)
  unfold marksR
  rw [if_pos, h3]
  refine ⟨fun e => hn (wordsB_nil.1 e), by rw [wordsB_len]; omega, by rw [wordsB_len]; have := h.1; omega, by rw [h3]; exact h.2⟩
theorem B_marksR {v m : List Int} (hb : bytesOk v) (h : marksR v = some m) : marksOk m ∧ m ≠ [] ∧ wordsB m = v := by
  unfold marksR at h
  split at h
  · rename_i hc
    obtain ⟨h1, h2, h3, h4⟩ := hc
    simp only [Option.some.injEq] at h
    subst h
    obtain ⟨a, b, c⟩ := B_words (v.length / 2) (l := v) (by omega) hb
    refine ⟨⟨by rw [b]; omega, h4⟩, ?_, a⟩
    intro e; rw [e] at a; exact h1 a.symm
  · cases h

/-! ## attributes -/
theorem readA_more : ∀ (f : Nat) (b : List Int) (g : Nat), b.length ≤ f → b.length ≤ g → readA f b = readA g b := by
  intro f
  induction f with
  | zero => intro b g h1 h2; cases b with
    | nil => cases g <;> rfl
    | cons x t => simp at h1
  | succ f ih =>
    intro b g h1 h2
    match b, g with
    | [], 0 => rfl
    | [], g + 1 => rfl
    | [_], 0 => simp at h2
    | [_], g + 1 => rfl
    | [_, _], 0 => simp at h2
    | [_, _], g + 1 => rfl
    | x :: y :: z :: t, 0 => simp at h2
    | x :: y :: z :: t, g + 1 =>
      simp only [readA]
      simp at h1 h2
      rw [ih (t.drop z.toNat) g (by simp; omega) (by simp; omega)]
theorem attsR_cons (x y z : Int) (t : List Int) : attsR (x :: y :: z :: t) = if t.length < z.toNat then none else (attsR (t.drop z.toNat)).map (fun l => (x, y, t.take z.toNat) :: l) := by
  unfold attsR
  rw [List.length_cons, readA]
  rw [readA_more _ (t.drop z.toNat) (t.drop z.toNat).length (by simp; omega) (Nat.le_refl _)]
theorem attsR_nil : attsR [] = some [] := rfl
theorem attsR_att (a : Int × Int × List Int) (b : List Int) : attsR (attB a ++ b) = (attsR b).map (fun l => a :: l) := by
  obtain ⟨x, y, v⟩ := a
  simp only [attB, List.cons_append]
  rw [attsR_cons]
  have h : (v.length : Int).toNat = v.length := by omega
  rw [h, if_neg (by simp), List.drop_left' rfl, List.take_left' rfl]
theorem attsR_B (l : List (Int × Int × List Int)) : attsR (attsB l) = some l := by
  induction l with
  | nil => rfl
  | cons a l ih => rw [attsB, List.flatMap_cons, ← attsB, attsR_att, ih]; rfl
theorem B_attsR : ∀ (f : Nat) {b : List Int} {l : List (Int × Int × List Int)}, bytesOk b → readA f b = some l → attsB l = b ∧ ∀ a ∈ l, bytesOk a.2.2 := by
  intro f
  induction f with
  | zero =>
    intro b l hb hr
    cases b with
    | nil => simp [readA] at hr; subst hr; exact ⟨rfl, by simp⟩
    | cons x t => simp [readA] at hr
  | succ f ih =>
    intro b l hb hr
    match b, hb, hr with
    | [], _, hr => simp [readA] at hr; subst hr; exact ⟨rfl, by simp⟩
    | [_], _, hr => simp [readA] at hr
    | [_, _], _, hr => simp [readA] at hr
    | x :: y :: z :: t, hb, hr =>
      simp only [readA] at hr
      simp only [bytesOk_cons] at hb
      split at hr
      · cases hr
      · rename_i hlen
        cases hq : readA f (t.drop z.toNat) with
        | none => rw [hq] at hr; cases hr
        | some l' =>
          rw [hq] at hr
          simp only [Option.map_some, Option.some.injEq] at hr
          subst hr
          obtain ⟨h1, h2⟩ := ih (bytesOk_drop hb.2.2.2 _) hq
          refine ⟨?_, ?_⟩
          · rw [attsB, List.flatMap_cons, ← attsB, h1, attB]
            simp only [List.cons_append]
            rw [List.take_append_drop]
            have : ((t.take z.toNat).length : Int) = z := by rw [List.length_take]; omega
            rw [this]
          · intro a ha
            rcases List.mem_cons.1 ha with rfl | ha
            · exact bytesOk_take hb.2.2.2 _
            · exact h2 a ha
/-- there: the attributes of a message are read -/
theorem attsP_of {u : Msg} (h : msgOk u) (hn : u.nets ≠ []) : ∃ last, attsP ⟨msgZ, 0, false, false⟩ (attsOf u) = .ok ⟨{ u with gone := [], nets := [] }, last, true, true⟩ := by
  obtain ⟨_, hp, hm, h1, h2, _⟩ := h
  unfold attsOf
  rw [if_neg hn]
  have ep := pathR_B hp
  have e4 := fourB_val h1
  by_cases hz : u.marks = []
  · by_cases hd : 0 < u.med
    · have e5 := fourB_val h2
      refine ⟨5, ?_⟩
      simp [attsP, flagsP, into, ep, hd, hz, e4, e5, fourB_len, msgZ]
    · refine ⟨5, ?_⟩
      have : u.med = 0 := by have := h2.1; omega
      simp [attsP, flagsP, into, ep, hz, e4, fourB_len, msgZ, this]
  · have em := marksR_B hm hz
    by_cases hd : 0 < u.med
    · have e5 := fourB_val h2
      refine ⟨8, ?_⟩
      simp [attsP, flagsP, into, ep, hd, hz, e4, e5, em, fourB_len, msgZ]
    · refine ⟨8, ?_⟩
      have : u.med = 0 := by have := h2.1; omega
      simp [attsP, flagsP, into, ep, hz, e4, em, fourB_len, msgZ, this]

/-- back: what is told by the attributes that were read -/
structure Seen (l : List (Int × Int × List Int)) (s : AS) : Prop where
  gone : s.u.gone = []
  nets : s.u.nets = []
  path : pathOk s.u.path
  marks : marksOk s.u.marks
  pref : numOk s.u.pref
  med : numOk s.u.med
  is : ∃ s2 s4 s5 s8 : Bool,
    l = (if s2 then [(64, 2, pathB s.u.path)] else []) ++ ((if s4 then [(128, 4, fourB s.u.med)] else []) ++ ((if s5 then [(64, 5, fourB s.u.pref)] else []) ++ (if s8 then [(192, 8, wordsB s.u.marks)] else [])))
    ∧ s.two = s2 ∧ s.five = s5 ∧ (s2 = false → s.u.path = []) ∧ (s4 = decide (0 < s.u.med)) ∧ (s5 = false → s.u.pref = 0) ∧ (s8 = false ↔ s.u.marks = [])
    ∧ s.last = (if s8 then 8 else if s5 then 5 else if s4 then 4 else if s2 then 2 else 0)
theorem seenZ : Seen [] ⟨msgZ, 0, false, false⟩ :=
  ⟨rfl, rfl, ⟨by simp [msgZ], by simp [msgZ]⟩, ⟨by simp [msgZ], rises_nil _⟩, by simp [msgZ, numOk], by simp [msgZ, numOk],
   false, false, false, false, by simp, rfl, rfl, fun _ => rfl, by simp [msgZ], fun _ => rfl, by simp [msgZ], by simp⟩
theorem val4_ok {v : List Int} (h : v.length = 4) (hb : bytesOk v) : numOk (valB v) ∧ fourB (valB v) = v := by
  match v, h, hb with
  | [a, b, c, d], _, hb =>
    simp only [bytesOk_cons] at hb
    obtain ⟨ha, hb, hc, hd, _⟩ := hb
    exact ⟨by rw [valB_four, numOk]; omega, fourB_of ha hb hc hd⟩
theorem seen_step {l : List (Int × Int × List Int)} {s : AS} (h : Seen l s) {f w : Int} {v : List Int} {u : Msg} (hb : bytesOk v)
    (hf : f = flagsP w) (hw : s.last < w) (hu : into s.u w v = some u) (hok : f ≠ -1) : Seen (l ++ [(f, w, v)]) ⟨u, w, s.two || w = 2, s.five || w = 5⟩ := by
  obtain ⟨hg, hn, hp, hm, h5, h4, s2, s4, s5, s8, el, e2, e5, z2, z4, z5, z8, hl⟩ := h
  have hw' : w = 2 ∨ w = 4 ∨ w = 5 ∨ w = 8 := by
    unfold flagsP at hf
    split at hf
    · omega
    · split at hf
      · omega
      · split at hf
        · omega
        · exact absurd hf hok
  rcases hw' with rfl | rfl | rfl | rfl
  · -- the path
    have x8 : s8 = false := by
      cases hk : s8 with
      | false => rfl
      | true => rw [hk] at hl; simp at hl; omega
    subst x8
    have x5 : s5 = false := by
      cases hk : s5 with
      | false => rfl
      | true => rw [hk] at hl; simp at hl; omega
    subst x5
    have x4 : s4 = false := by
      cases hk : s4 with
      | false => rfl
      | true => rw [hk] at hl; simp at hl; omega
    have x2 : s2 = false := by
      cases hk : s2 with
      | false => rfl
      | true => rw [hk] at hl; simp at hl; omega
    subst x4 x2
    simp only [into, if_pos] at hu
    cases hq : pathR v with
    | none => rw [hq] at hu; cases hu
    | some p =>
      rw [hq] at hu
      simp only [Option.map_some, Option.some.injEq] at hu
      subst hu
      obtain ⟨q1, q2⟩ := B_pathR hb hq
      refine ⟨hg, hn, q1, hm, h5, h4, true, false, false, false, ?_, by simp, by simpa using e5, by simp, z4, z5, z8, by simp⟩
      simp [el, q2, hf, flagsP]
  · have x8 : s8 = false := by
      cases hk : s8 with
      | false => rfl
      | true => rw [hk] at hl; simp at hl; omega
    subst x8
    have x5 : s5 = false := by
      cases hk : s5 with
      | false => rfl
      | true => rw [hk] at hl; simp at hl; omega
    subst x5
    have x4 : s4 = false := by
      cases hk : s4 with
      | false => rfl
      | true => rw [hk] at hl; simp at hl; omega
    subst x4
    simp only [into] at hu
    simp only [show ¬ ((4 : Int) = 2) by omega, show ¬ ((4 : Int) = 8) by omega, if_false, if_true] at hu
    split at hu
    · rename_i hc
      simp only [Option.some.injEq] at hu
      subst hu
      obtain ⟨q1, q2⟩ := val4_ok hc.1 hb
      refine ⟨hg, hn, hp, hm, h5, q1, s2, true, false, false, ?_, by simpa using e2, by simpa using e5, z2, by simp [hc.2], z5, z8, by simp⟩
      simp [el, q2, hf, flagsP]
    · cases hu
  · have x8 : s8 = false := by
      cases hk : s8 with
      | false => rfl
      | true => rw [hk] at hl; simp at hl; omega
    subst x8
    have x5 : s5 = false := by
      cases hk : s5 with
      | false => rfl
      | true => rw [hk] at hl; simp at hl; omega
    subst x5
    simp only [into] at hu
    simp only [show ¬ ((5 : Int) = 2) by omega, show ¬ ((5 : Int) = 8) by omega, show ¬ ((5 : Int) = 4) by omega, if_false] at hu
    split at hu
    · rename_i hc
      simp only [Option.some.injEq] at hu
      subst hu
      obtain ⟨q1, q2⟩ := val4_ok hc hb
      refine ⟨hg, hn, hp, hm, q1, h4, s2, s4, true, false, ?_, by simpa using e2, by simp, z2, z4, by simp, z8, by simp⟩
      simp [el, q2, hf, flagsP]
    · cases hu
  · have x8 : s8 = false := by
      cases hk : s8 with
      | false => rfl
      | true => rw [hk] at hl; simp at hl; omega
    subst x8
    simp only [into] at hu
    simp only [show ¬ ((8 : Int) = 2) by omega, if_false, if_true] at hu
    cases hq : marksR v with
    | none => rw [hq] at hu; cases hu
    | some m =>
      rw [hq] at hu
      simp only [Option.map_some, Option.some.injEq] at hu
      subst hu
      obtain ⟨q1, q2, q3⟩ := B_marksR hb hq
      refine ⟨hg, hn, hp, q1, h5, h4, s2, s4, s5, true, ?_, by simpa using e2, by simpa using e5, z2, z4, z5, by simp [q2], by simp⟩
      simp [el, q3, hf, flagsP]
theorem seen_all : ∀ {l l0 : List (Int × Int × List Int)} {s s' : AS}, Seen l0 s → (∀ a ∈ l, bytesOk a.2.2) → (∀ a ∈ l, 0 ≤ a.1) → attsP s l = .ok s' → Seen (l0 ++ l) s' := by
  intro l
  induction l with
  | nil => intro l0 s s' h _ _ hr; simp only [attsP, Except.ok.injEq] at hr; subst hr; simpa using h
  | cons a l ih =>
    obtain ⟨f, w, v⟩ := a
    intro l0 s s' h hb h0 hr
    simp only [attsP] at hr
    split at hr
    · cases hr
    · rename_i hc
      cases hq : into s.u w v with
      | none => rw [hq] at hr; cases hr
      | some u =>
        rw [hq] at hr
        have h1 : (0 : Int) ≤ f := h0 _ (List.mem_cons_self ..)
        have h2 := seen_step h (hb _ (List.mem_cons_self ..)) (f := f) (w := w) (v := v) (by omega) (by omega) hq (by omega)
        have := ih h2 (fun a ha => hb a (by simp [ha])) (fun a ha => h0 a (by simp [ha])) hr
        simpa using this

/-! ## there and back, back and there -/
theorem netsB_ok {l : List (Int × Int)} (h : ∀ x ∈ l, netOk x) : bytesOk (netsB l) := by
  induction l with
  | nil => exact bytesOk_nil
  | cons x l ih =>
    rw [netsB, List.flatMap_cons, ← netsB]
    refine bytesOk_append.2 ⟨?_, ih (fun y hy => h y (by simp [hy]))⟩
    have := (h x (by simp)).2.1
    rw [netBy]; exact bytesOk_cons.2 ⟨by omega, bytesOk_take (fourB_ok _) _⟩
theorem netsB_len {l : List (Int × Int)} (h : ∀ x ∈ l, netOk x) : (netsB l).length ≤ 5 * l.length := by
  induction l with
  | nil => simp [netsB]
  | cons x l ih =>
    have h1 := ih (fun y hy => h y (by simp [hy]))
    have h2 := netBy_len (h x (by simp))
    have h3 := (needs_le (h x (by simp)).2.1).1
    rw [netsB, List.flatMap_cons, ← netsB, List.length_append, h2, List.length_cons]; omega
theorem attB_len (a : Int × Int × List Int) : (attB a).length = 3 + a.2.2.length := by simp only [attB, List.length_cons]; omega
theorem pathB_len {p : List Int} (h : pathOk p) : (pathB p).length ≤ 26 := by
  unfold pathB; split
  · simp
  · have := h.1; simp [wordsB_len]; omega
theorem attsB_len {u : Msg} (h : msgOk u) : (attsB (attsOf u)).length ≤ 62 := by
  obtain ⟨_, hp, hm, _⟩ := h
  unfold attsOf
  have h1 := pathB_len hp
  have h2 := hm.1
  split
  · simp [attsB]
  · split <;> split <;> simp [attsB, attB_len, fourB_len, wordsB_len] <;> omega
theorem two_split (n : Nat) (h : n < 65536) (t : List Int) : ∃ x y, twoB n ++ t = x :: y :: t ∧ (256 * x + y).toNat = n := by
  refine ⟨_, _, rfl, by omega⟩
theorem dec_enc {u : Msg} (h : msgOk u) : decP (encP u) = .ok u := by
  have hall := h
  obtain ⟨⟨hlen, hno, hnd⟩, hp, hm, h5, h4, hz⟩ := h
  have hg : ∀ x ∈ u.gone, netOk x := fun x hx => hno x (by simp [hx])
  have hn : ∀ x ∈ u.nets, netOk x := fun x hx => hno x (by simp [hx])
  have l1 := netsB_len hg
  have l2 := attsB_len hall
  simp only [List.length_append] at hlen
  unfold encP
  simp only
  generalize hG : netsB u.gone = G at l1
  generalize hA : attsB (attsOf u) = A at l2
  obtain ⟨x, y, e1, e2⟩ := two_split G.length (by omega) (G ++ (twoB A.length ++ (A ++ netsB u.nets)))
  rw [e1]
  simp only [decP]
  rw [e2]
  rw [if_neg (by simp [twoB_len])]
  have d1 : (G ++ (twoB A.length ++ (A ++ netsB u.nets))).drop (G.length + 2) = A ++ netsB u.nets := by
    rw [← List.drop_drop, List.drop_left' rfl, List.drop_left' (twoB_len _)]
  have d2 : valB (((G ++ (twoB A.length ++ (A ++ netsB u.nets))).drop G.length).take 2) = A.length := by
    rw [List.drop_left' rfl, List.take_left' (twoB_len _), twoB_val (by omega)]
  rw [d1, d2]
  simp only [Int.toNat_natCast]
  rw [if_neg (by simp), List.take_left' rfl, List.take_left' rfl, List.drop_left' rfl, ← hG, ← hA, netsR_nets hg, attsR_B, netsR_nets hn]
  simp only
  by_cases hnz : u.nets = []
  · have hz := hz.resolve_left (fun hh => hh hnz)
    have ha : attsOf u = [] := by unfold attsOf; rw [if_pos hnz]
    rw [ha]
    simp only [attsP, hnz, ne_eq, not_true_eq_false, false_and, and_false, or_false, if_false]
    rw [if_pos (by rw [← hnz]; exact ⟨by simpa using hlen, hno, hnd⟩)]
    obtain ⟨z1, z2, z3, z4⟩ := hz
    cases u; simp_all [msgZ]
  · obtain ⟨last, hq⟩ := attsP_of hall hnz
    rw [hq]
    simp only [hnz, ne_eq, not_false_eq_true, true_and, not_true_eq_false, false_and, or_false, if_false, and_self]
    rw [if_pos ⟨by simpa using hlen, hno, hnd⟩]
theorem enc_dec {b : List Int} {u : Msg} (hb : bytesOk b) (h : decP b = .ok u) : msgOk u ∧ encP u = b := by
  match b, hb, h with
  | [], _, h => cases h
  | [_], _, h => cases h
  | x :: y :: t, hb, h =>
    simp only [decP] at h
    simp only [bytesOk_cons] at hb
    obtain ⟨hx, hy, ht⟩ := hb
    split at h
    · cases h
    · rename_i c1
      split at h
      · cases h
      · rename_i c2
        generalize hn : (256 * x + y).toNat = n at h c1 c2
        generalize hm : (valB ((t.drop n).take 2)).toNat = m at h c2
        split at h
        · rename_i _ _ _ gone l there q1 q2 q3
          split at h
          · cases h
          · rename_i s q4
            split at h
            · cases h
            · rename_i c3
              split at h
              · rename_i c4
                simp only [Except.ok.injEq] at h
                subst h
                have hr := bytesOk_drop ht (n + 2)
                obtain ⟨a1, a2⟩ := B_attsR _ (bytesOk_take hr m) q2
                have g1 := nets_netsR _ (bytesOk_take ht n) q1 (fun x hx => c4.2.1 x (by simp [hx]))
                have g2 := nets_netsR _ (bytesOk_drop hr m) q3 (fun x hx => c4.2.1 x (by simp [hx]))
                have hpos : ∀ a ∈ l, (0 : Int) ≤ a.1 := by
                  intro a ha
                  have h1 : a.1 ∈ attsB l := by
                    rw [attsB, List.mem_flatMap]; exact ⟨a, ha, by simp [attB]⟩
                  rw [a1] at h1
                  exact (bytesOk_take hr m _ h1).1
                have hs := seen_all seenZ a2 hpos q4
                rw [List.nil_append] at hs
                obtain ⟨hg, hn', hp, hmk, h5, h4, s2, s4, s5, s8, el, e2, e5, z2, z4, z5, z8, hl⟩ := hs
                -- the middle length
                have hmid : ∃ p q, (t.drop n).take 2 = [p, q] ∧ (0 ≤ p ∧ p ≤ 255) ∧ (0 ≤ q ∧ q ≤ 255) := by
                  have h1 : ((t.drop n).take 2).length = 2 := by simp; omega
                  match hd : (t.drop n).take 2, h1 with
                  | [p, q], _ =>
                    have h2 := bytesOk_take (bytesOk_drop ht n) 2
                    rw [hd] at h2
                    simp only [bytesOk_cons] at h2
                    exact ⟨p, q, rfl, h2.1, h2.2.1⟩
                obtain ⟨p, q, hpq, hp', hq'⟩ := hmid
                rw [hpq, valB_two] at hm
                have lt1 : (t.take n).length = n := by simp; omega
                have lt2 : ((t.drop (n + 2)).take m).length = m := by simp; simp at c2; omega
                have bits : ∀ (l' : List (Int × Int × List Int)), attsB l' = (t.drop (n + 2)).take m →
                    twoB (netsB gone).length ++ (netsB gone ++ (twoB (attsB l').length ++ (attsB l' ++ netsB there))) = x :: y :: t := by
                  intro l' hl'
                  rw [g1, g2, hl', lt1, lt2]
                  have i1 : ((n : Nat) : Int) = 256 * x + y := by omega
                  have i2 : ((m : Nat) : Int) = 256 * p + q := by omega
                  rw [i1, i2, twoB_of hx hy, twoB_of hp' hq', List.take_append_drop, ← hpq]
                  have : (t.drop n).take 2 ++ t.drop (n + 2) = t.drop n := by
                    rw [← List.drop_drop]; exact List.take_append_drop ..
                  rw [this, List.take_append_drop]; rfl
                by_cases hz : there = []
                · have hl0 : l = [] := by
                    by_cases hh : l = []
                    · exact hh
                    · exact absurd (Or.inr ⟨hz, hh⟩) c3
                  rw [hl0] at el
                  have f2 : s2 = false := by
                    cases hk : s2 with
                    | false => rfl
                    | true => rw [hk] at el; simp at el
                  have f4 : s4 = false := by
                    cases hk : s4 with
                    | false => rfl
                    | true => rw [hk] at el; simp at el
                  have f5 : s5 = false := by
                    cases hk : s5 with
                    | false => rfl
                    | true => rw [hk] at el; simp at el
                  have f8 : s8 = false := by
                    cases hk : s8 with
                    | false => rfl
                    | true => rw [hk] at el; simp at el
                  have y1 := z2 f2
                  have y2 := z5 f5
                  have y3 := z8.1 f8
                  have y4 : s.u.med = 0 := by
                    rw [f4] at z4
                    have h1 := h4.1
                    have : ¬ (0 < s.u.med) := by simpa using z4.symm
                    omega
                  refine ⟨⟨c4, hp, hmk, h5, h4, Or.inr ⟨y1, y3, y2, y4⟩⟩, ?_⟩
                  have : attsOf { s.u with gone := gone, nets := there } = l := by unfold attsOf; simp [hz, hl0]
                  unfold encP
                  simp only [this]
                  exact bits l a1
                · have h25 : s.two = true ∧ s.five = true := by
                    by_cases hh : s.two = true ∧ s.five = true
                    · exact hh
                    · exact absurd (Or.inl ⟨hz, hh⟩) c3
                  refine ⟨⟨c4, hp, hmk, h5, h4, Or.inl hz⟩, ?_⟩
                  have : attsOf { s.u with gone := gone, nets := there } = l := by
                    unfold attsOf
                    simp only [hz, if_false]
                    rw [el]
                    have t2 : s2 = true := e2 ▸ h25.1
                    have t5 : s5 = true := e5 ▸ h25.2
                    subst t2 t5 z4
                    by_cases hmz : s.u.marks = []
                    · have := z8.2 hmz; subst this; simp [hmz]
                    · have : s8 = true := by
                        cases s8
                        · exact absurd (z8.1 rfl) hmz
                        · rfl
                      subst this; simp [hmz]
                  unfold encP
                  simp only [this]
                  exact bits l a1
              · cases h
        · cases h
theorem attB_ok {f w : Int} {v : List Int} (hf : 0 ≤ f ∧ f ≤ 255) (hw : 0 ≤ w ∧ w ≤ 255) (hl : v.length ≤ 255) (hv : bytesOk v) : bytesOk (attB (f, w, v)) := by
  simp only [attB]
  exact bytesOk_cons.2 ⟨hf, bytesOk_cons.2 ⟨hw, bytesOk_cons.2 ⟨by omega, hv⟩⟩⟩
theorem attsOf_ok {u : Msg} (hp : u.path.length ≤ 12) (hm : u.marks.length ≤ 8) : bytesOk (attsB (attsOf u)) := by
  have b2 : bytesOk (attB (64, 2, pathB u.path)) := by
    refine attB_ok (by omega) (by omega) ?_ ?_
    · unfold pathB; split
      · simp
      · simp [wordsB_len]; omega
    · unfold pathB; split
      · exact bytesOk_nil
      · exact bytesOk_cons.2 ⟨by omega, bytesOk_cons.2 ⟨by omega, wordsB_ok _⟩⟩
  have b4 : bytesOk (attB (128, 4, fourB u.med)) := attB_ok (by omega) (by omega) (by simp [fourB_len]) (fourB_ok _)
  have b5 : bytesOk (attB (64, 5, fourB u.pref)) := attB_ok (by omega) (by omega) (by simp [fourB_len]) (fourB_ok _)
  have b8 : bytesOk (attB (192, 8, wordsB u.marks)) := attB_ok (by omega) (by omega) (by simp [wordsB_len]; omega) (wordsB_ok _)
  unfold attsOf
  split
  · exact bytesOk_nil
  · split <;> split <;> simp only [attsB, List.flatMap_cons, List.flatMap_append, List.flatMap_nil, List.append_nil, List.nil_append, bytesOk_append] <;> simp only [b2, b4, b5, b8, and_self]
theorem encP_ok {u : Msg} (h : msgOk u) : bytesOk (encP u) := by
  obtain ⟨⟨_, hno, _⟩, hp, hm, _⟩ := h
  unfold encP
  refine bytesOk_append.2 ⟨twoB_ok _, bytesOk_append.2 ⟨netsB_ok (fun x hx => hno x (by simp [hx])), bytesOk_append.2 ⟨twoB_ok _, bytesOk_append.2 ⟨?_, netsB_ok (fun x hx => hno x (by simp [hx]))⟩⟩⟩⟩
  refine attsOf_ok ?_ ?_
  · exact hp.1
  · exact hm.1
def decM (b : List Int) : Msg := match decP b with | .ok u => u | .error _ => msgZ
def decE (b : List Int) : Int := match decP b with | .ok _ => 0 | .error e => e
theorem attsP_err : ∀ {l : List (Int × Int × List Int)} {s : AS} {e : Int}, attsP s l = .error e → 6 ≤ e ∧ e ≤ 10 := by
  intro l
  induction l with
  | nil => intro s e h; cases h
  | cons a l ih =>
    obtain ⟨f, w, v⟩ := a
    intro s e h
    simp only [attsP] at h
    split at h
    · simp only [Except.error.injEq] at h; omega
    · split at h
      · simp only [Except.error.injEq] at h; omega
      · exact ih h
theorem decP_err {b : List Int} {e : Int} (h : decP b = .error e) : 6 ≤ e ∧ e ≤ 10 := by
  match b, h with
  | [], h => simp only [decP, Except.error.injEq] at h; omega
  | [_], h => simp only [decP, Except.error.injEq] at h; omega
  | x :: y :: t, h =>
    simp only [decP] at h
    split at h
    · simp only [Except.error.injEq] at h; omega
    · split at h
      · simp only [Except.error.injEq] at h; omega
      · split at h
        · split at h
          · rename_i q4
            simp only [Except.error.injEq] at h; subst h; exact attsP_err q4
          · split at h
            · simp only [Except.error.injEq] at h; omega
            · split at h
              · cases h
              · simp only [Except.error.injEq] at h; omega
        · simp only [Except.error.injEq] at h; omega
theorem decE_zero {b : List Int} (h : decE b = 0) : decP b = .ok (decM b) := by
  unfold decE at h
  unfold decM
  cases hq : decP b with
  | ok u => rfl
  | error e => rw [hq] at h; have := decP_err hq; simp only at h; omega
theorem decE_bd (b : List Int) : 0 ≤ decE b ∧ decE b ≤ 10 := by
  unfold decE
  cases hq : decP b with
  | ok u => simp
  | error e => have := decP_err hq; simp only; omega
theorem decM_err {b : List Int} (h : decE b ≠ 0) : decM b = msgZ := by
  unfold decE at h
  unfold decM
  cases hq : decP b with
  | ok u => rw [hq] at h; exact absurd rfl h
  | error e => rfl
end Go.Proofs.YtgdeeodifnegiaaGreatDoor

namespace Go.Proofs.YtgdeeodifnegiaaGreatDoor
open Go.RowKit

def pickP (c n : Int) : Int := (if c < 0 then -(c + 1) else c) % n
theorem pickP_bd {c n : Int} (h : 0 < n) : 0 ≤ pickP c n ∧ pickP c n < n := by
  unfold pickP; exact ⟨Int.emod_nonneg _ (by omega), Int.emod_lt_of_pos _ h⟩
def szP (k : Int) : Int := if k = 0 then 8 else if k = 1 then 16 else if k = 2 then 24 else if k = 3 then 32 else if k = 4 then 0 else if k = 5 then 9 else if k = 6 then 17 else 25
theorem szP_bd (k : Int) : 0 ≤ szP k ∧ szP k ≤ 32 := by unfold szP; repeat' split <;> omega
def rawA (n : Int) : Int := 167772160 + pickP (n.tdiv 8) 3 * 65536 + pickP (n.tdiv 24) 2 * 256 + pickP (n.tdiv 48) 2
theorem rawA_bd (n : Int) : 167772160 ≤ rawA n ∧ rawA n ≤ 167903489 := by
  have h1 := pickP_bd (c := n.tdiv 8) (n := 3) (by omega)
  have h2 := pickP_bd (c := n.tdiv 24) (n := 2) (by omega)
  have h3 := pickP_bd (c := n.tdiv 48) (n := 2) (by omega)
  unfold rawA; omega
def netP (n : Int) : Int × Int := (rawA n / powP (szP (pickP n 8)) * powP (szP (pickP n 8)), szP (pickP n 8))
theorem powP_pos (n : Int) : 0 < powP n := by unfold powP; exact Int.pow_pos (by omega)
theorem div_mul_bd {a p : Int} (h : 0 < p) (ha : 0 ≤ a) : 0 ≤ a / p * p ∧ a / p * p ≤ a ∧ a / p * p % p = 0 := by
  have h1 := Int.ediv_nonneg ha (Int.le_of_lt h)
  have h2 := Int.ediv_mul_le a (b := p) (by omega)
  exact ⟨Int.mul_nonneg h1 (by omega), h2, Int.mul_emod_left ..⟩
theorem netP_ok (n : Int) : netOk (netP n) := by
  have h1 := szP_bd (pickP n 8)
  have h3 := rawA_bd n
  have h4 := div_mul_bd (powP_pos (szP (pickP n 8))) (a := rawA n) (by omega)
  unfold netP
  exact ⟨⟨h4.1, by have := h4.2.1; simp only; omega⟩, h1, h4.2.2⟩
theorem netP_ne (n : Int) : netP n ≠ (1, 32) := by
  intro h
  have h3 := rawA_bd n
  unfold netP at h
  simp only [Prod.mk.injEq] at h
  obtain ⟨h1, h2⟩ := h
  rw [h2] at h1
  have : powP 32 = 1 := rfl
  rw [this] at h1
  omega

def pathP (l : List Int) (most : Nat) : List Int := (l.take most).map (fun x => 1 + pickP x 3)
theorem pathP_ok (l : List Int) {most : Nat} (h : most ≤ 12) : pathOk (pathP l most) := by
  unfold pathP
  refine ⟨by simp; omega, fun s hs => ?_⟩
  obtain ⟨x, _, rfl⟩ := List.mem_map.1 hs
  have := pickP_bd (c := x) (n := 3) (by omega)
  omega
def marksF : Int → List Int → List Int
  | _, [] => []
  | n, x :: l => (n + 1 + pickP x 3) :: marksF (n + 1 + pickP x 3) l
def marksP (l : List Int) (most : Nat) : List Int := marksF (-1) (l.take most)
theorem marksF_len : ∀ (l : List Int) (n : Int), (marksF n l).length = l.length := by
  intro l
  induction l with
  | nil => intro n; rfl
  | cons x l ih => intro n; simp [marksF, ih]
theorem marksF_rises : ∀ (l : List Int) (n : Int), n + 3 * l.length ≤ 65535 → rises (n + 1) (marksF n l) := by
  intro l
  induction l with
  | nil => intro n _; exact rises_nil _
  | cons x l ih =>
    intro n h
    have := pickP_bd (c := x) (n := 3) (by omega)
    simp only [List.length_cons] at h
    exact rises_cons.2 ⟨by omega, by omega, ih _ (by omega)⟩
theorem marksP_ok (l : List Int) {most : Nat} (h : most ≤ 8) : marksOk (marksP l most) := by
  unfold marksP
  refine ⟨by rw [marksF_len]; simp; omega, ?_⟩
  have h1 := marksF_rises (l.take most) (-1) (by have : (l.take most).length ≤ most := List.length_take_le _ _; omega)
  simpa using h1
theorem marksF_snoc : ∀ (l : List Int) (n x : Int), marksF n (l ++ [x]) = marksF n l ++ [(marksF n l).getLastD n + 1 + pickP x 3] := by
  intro l
  induction l with
  | nil => intro n x; rfl
  | cons y l ih =>
    intro n x
    simp only [List.cons_append, marksF, ih]
    cases hm : marksF (n + 1 + pickP y 3) l with
    | nil => simp
    | cons a b => simp [List.getLast?_cons]

/-- the i-th raw number, 0 behind the end -/
def atP (l : List Int) (i : Nat) : Int := l[i]?.getD 0
/-- the i-th net that is put in -/
def nthP (gone nets : List Int) (i : Nat) : Int × Int := if i < gone.length then netP (atP gone i) else netP (atP nets (i - gone.length))
def putP (gone nets : List Int) (i : Nat) (s : List (Int × Int) × List (Int × Int)) : List (Int × Int) × List (Int × Int) :=
  if nthP gone nets i ∈ s.1 ∨ nthP gone nets i ∈ s.2 then s
  else if i < gone.length then (s.1 ++ [nthP gone nets i], s.2) else (s.1, s.2 ++ [nthP gone nets i])
def putTo (gone nets : List Int) : Nat → List (Int × Int) × List (Int × Int)
  | 0 => ([], [])
  | k + 1 => putP gone nets k (putTo gone nets k)
theorem nthP_ok (gone nets : List Int) (i : Nat) : netOk (nthP gone nets i) ∧ nthP gone nets i ≠ (1, 32) := by
  unfold nthP; split <;> exact ⟨netP_ok _, netP_ne _⟩
theorem putTo_ok (gone nets : List Int) (k : Nat) :
    ((putTo gone nets k).1 ++ (putTo gone nets k).2).Nodup ∧ ((putTo gone nets k).1.length + (putTo gone nets k).2.length ≤ k) ∧
    (∀ x ∈ (putTo gone nets k).1 ++ (putTo gone nets k).2, netOk x ∧ x ≠ (1, 32)) := by
  induction k with
  | zero => simp [putTo]
  | succ k ih =>
    obtain ⟨h1, h2, h3⟩ := ih
    simp only [putTo, putP]
    generalize putTo gone nets k = s at h1 h2 h3
    have hx := nthP_ok gone nets k
    generalize nthP gone nets k = x at hx
    split
    · exact ⟨h1, by omega, h3⟩
    · rename_i hn
      rw [List.nodup_append] at h1
      split
      · refine ⟨?_, by simp; omega, ?_⟩
        · simp only [List.nodup_append, List.mem_append, List.mem_singleton]
          grind
        · intro y hy
          simp only [List.mem_append, List.mem_singleton] at hy
          rcases hy with (hy | rfl) | hy
          · exact h3 y (by simp [hy])
          · exact hx
          · exact h3 y (by simp [hy])
      · refine ⟨?_, by simp; omega, ?_⟩
        · simp only [List.nodup_append, List.mem_append, List.mem_singleton]
          grind
        · intro y hy
          simp only [List.mem_append, List.mem_singleton] at hy
          rcases hy with hy | (hy | rfl)
          · exact h3 y (by simp [hy])
          · exact h3 y (by simp [hy])
          · exact hx
def netsOr (l : List (Int × Int)) : List (Int × Int) := if l = [] then [(1, 32)] else l
/-- the message that is made -/
def codedM (gone nets r : List Int) : Msg :=
  let s := putTo gone nets (min (gone.length + nets.length) 19)
  { gone := s.1, nets := netsOr s.2,
    path := pathP (r.drop 3) (pickP (atP r 1) 6).toNat, marks := marksP (r.drop 6) (pickP (atP r 2) 5).toNat,
    pref := pickP (atP r 3) 4294967296, med := pickP (atP r 4) 3 * pickP (atP r 5) 1073741824 }
theorem codedM_ok (gone nets r : List Int) : msgOk (codedM gone nets r) := by
  obtain ⟨h1, h2, h3⟩ := putTo_ok gone nets (min (gone.length + nets.length) 19)
  have p1 := pickP_bd (c := atP r 1) (n := 6) (by omega)
  have p2 := pickP_bd (c := atP r 2) (n := 5) (by omega)
  have p3 := pickP_bd (c := atP r 3) (n := 4294967296) (by omega)
  have p4 := pickP_bd (c := atP r 4) (n := 3) (by omega)
  have p5 := pickP_bd (c := atP r 5) (n := 1073741824) (by omega)
  unfold codedM
  simp only
  generalize putTo gone nets (min (gone.length + nets.length) 19) = s at h1 h2 h3
  refine ⟨?_, pathP_ok _ (by omega), marksP_ok _ (by omega), ⟨p3.1, by simp only; omega⟩, ?_, Or.inl ?_⟩
  · simp only
    unfold netsOr
    split
    · rename_i hz
      rw [hz] at h1 h2 h3
      simp only [List.append_nil] at h1 h3
      refine ⟨by simp; omega, ?_, ?_⟩
      · intro x hx
        simp only [List.mem_append, List.mem_singleton] at hx
        rcases hx with hx | rfl
        · exact (h3 x hx).1
        · decide
      · rw [List.nodup_append]
        refine ⟨h1, by simp, fun x hx y hy => ?_⟩
        simp only [List.mem_singleton] at hy
        subst hy
        exact (h3 x hx).2
    · exact ⟨by simp; omega, fun x hx => (h3 x hx).1, h1⟩
  · simp only [numOk]
    rcases (by omega : pickP (atP r 4) 3 = 0 ∨ pickP (atP r 4) 3 = 1 ∨ pickP (atP r 4) 3 = 2) with h | h | h <;> rw [h] <;> omega
  · simp only
    unfold netsOr
    split
    · simp
    · assumption
end Go.Proofs.YtgdeeodifnegiaaGreatDoor
