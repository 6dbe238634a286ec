/- A token's own text is read as that token again; no program. -/
import Derived.Test.YtgdeeodifnegiaaGreatDoorLexA
namespace Go.Proofs.YtgdeeodifnegiaaGreatDoor
open Go.RowKit

/-- what a scan passes over -/
theorem scan_all {p : Int → Bool} {s : ByteArray} : ∀ (f i : Nat), i ≤ s.size → ∀ k, i ≤ k → k < scan p s f i → p (bt s k) = true
  | 0, i, _, k, h1, h2 => by rw [scan] at h2; omega
  | f + 1, i, hi, k, h1, h2 => by
    rw [scan] at h2
    split at h2
    · rename_i hc
      rcases Nat.lt_or_ge i k with h3 | h3
      · exact scan_all f (i + 1) (by omega) k h3 h2
      · obtain rfl : i = k := by omega
        exact hc.2
    · omega
theorem scanTo_all {p : Int → Bool} {s : ByteArray} {b : UInt8} (hb : b ∈ s.data.toList.take (scanTo p s 0)) : p (b.toNat : Int) = true := by
  obtain ⟨k, hk, he⟩ := List.mem_iff_getElem.1 hb
  have hlen : s.data.toList.length = s.size := by simp
  rw [List.length_take] at hk
  have hks : k < s.size := by omega
  have h := scan_all (p := p) (s := s) (s.size - 0) 0 (Nat.zero_le _) k (Nat.zero_le _) (show k < scanTo p s 0 by omega)
  have hb2 : bt s k = (b.toNat : Int) := by
    rw [List.getElem_take] at he
    have : bt (bsA s.data.toList) k = (b.toNat : Int) := bt_bsA (by rw [List.getElem?_eq_getElem (by omega), he])
    rwa [bsA_toList] at this
  rw [← hb2]; exact h
theorem ext_list (s : ByteArray) (n : Nat) : s.extract 0 n = bsA (s.data.toList.take n) := by
  have h : (s.extract 0 n).data = (bsA (s.data.toList.take n)).data := by
    rw [ByteArray.data_extract]
    apply Array.ext'
    simp
  cases hx : s.extract 0 n with
  | mk d => rw [hx] at h; simp only at h; rw [h]
/-- what may stand behind a token in a printed text -/
def printHd (rest : List UInt8) : Prop := ∀ b, rest.head? = some b → b = 32 ∨ b = 10 ∨ b = 59 ∨ b = 44
theorem self_lex {s : ByteArray} (h0 : 0 < s.size) (hb : blankB (bt s 0) = false) (hk : (firstP s).kind ≠ 0) {rest : List UInt8} (hr : printHd rest) : LexAt (firstP s).text.data.toList (firstP s) rest := by
  have hlen : s.data.toList.length = s.size := by simp
  obtain ⟨c, r, hcr⟩ : ∃ c r, s.data.toList = c :: r := by
    cases hx : s.data.toList with
    | nil => rw [hx] at hlen; simp at hlen; omega
    | cons c r => exact ⟨c, r, rfl⟩
  have hc0 : bt s 0 = (c.toNat : Int) := by
    have : bt (bsA s.data.toList) 0 = (c.toNat : Int) := by rw [hcr]; exact bt_cons c r
    rwa [bsA_toList] at this
  have hlow : ∀ b, rest.head? = some b → lowB (b.toNat : Int) = false := fun b hbb => by rcases hr b hbb with rfl | rfl | rfl | rfl <;> decide
  have hnum : ∀ b, rest.head? = some b → numeB (b.toNat : Int) = false := fun b hbb => by rcases hr b hbb with rfl | rfl | rfl | rfl <;> decide
  cases h1 : lowB (bt s 0) with
  | true =>
    have hf : firstP s = lettersP (s.extract 0 (scanTo lowB s 0)) := by rw [firstP, if_pos h1]
    obtain ⟨n1, n2⟩ := scan_lt h0 h1
    have hall := fun b => scanTo_all (p := lowB) (s := s) (b := b)
    rw [hf] at hk ⊢
    rw [ext_list] at hk ⊢
    have hl : (s.data.toList.take (scanTo lowB s 0)).length = scanTo lowB s 0 := by rw [List.length_take]; omega
    have hhd : (s.data.toList.take (scanTo lowB s 0)).head? = some c := by
      rw [hcr]
      obtain ⟨m, hm⟩ : ∃ m, scanTo lowB s 0 = m + 1 := ⟨_, (Nat.sub_add_cancel n1).symm⟩
      rw [hm]; rfl
    generalize s.data.toList.take (scanTo lowB s 0) = bs at *
    have htl : (lettersP (bsA bs)).text.data.toList = bs := rfl
    refine ⟨fun e => (by rw [htl] at e; rw [e] at hhd; cases hhd), fun b hbb => ?_, ?_, hk, ?_⟩
    · rw [htl, hhd] at hbb
      cases hbb; rw [← hc0]; exact hb
    · rw [htl]
      have hsc : scanTo lowB (bsA (bs ++ rest)) 0 = bs.length := scan_pre hall hlow _ 0 (Nat.zero_add _)
      have hb1 : lowB (bt (bsA (bs ++ rest)) 0) = true := by
        cases bs with
        | nil => cases hhd
        | cons x y => cases hhd; rw [List.cons_append, bt_cons, ← hc0]; exact h1
      rw [firstP, if_pos hb1, hsc, ext_take]
    · rw [htl]; show (bsA bs).size = _; rw [bsA_size]
  | false =>
    cases h2 : digB (bt s 0) with
    | true =>
      have hf : firstP s = digitsP (s.extract 0 (scanTo numeB s 0)) := by rw [firstP, if_neg (by rw [h1]; decide), if_pos h2]
      have hn0 : numeB (bt s 0) = true := by unfold numeB; rw [h2]; rfl
      obtain ⟨n1, n2⟩ := scan_lt h0 hn0
      have hall := fun b => scanTo_all (p := numeB) (s := s) (b := b)
      rw [hf] at hk ⊢
      rw [ext_list] at hk ⊢
      have hhd : (s.data.toList.take (scanTo numeB s 0)).head? = some c := by
        rw [hcr]
        obtain ⟨m, hm⟩ : ∃ m, scanTo numeB s 0 = m + 1 := ⟨_, (Nat.sub_add_cancel n1).symm⟩
        rw [hm]; rfl
      generalize s.data.toList.take (scanTo numeB s 0) = bs at *
      have htx : (digitsP (bsA bs)).text = bsA bs := by
        unfold digitsP
        split
        · rfl
        · split <;> rfl
      have htl : (digitsP (bsA bs)).text.data.toList = bs := by rw [htx]
      refine ⟨fun e => (by rw [htl] at e; rw [e] at hhd; cases hhd), fun b hbb => ?_, ?_, hk, ?_⟩
      · rw [htl, hhd] at hbb
        cases hbb; rw [← hc0]; exact hb
      · rw [htl]
        have hsc : scanTo numeB (bsA (bs ++ rest)) 0 = bs.length := scan_pre hall hnum _ 0 (Nat.zero_add _)
        have hb1 : bt (bsA (bs ++ rest)) 0 = bt s 0 := by
          cases bs with
          | nil => cases hhd
          | cons x y => cases hhd; rw [List.cons_append, bt_cons, ← hc0]
        rw [firstP, if_neg (by rw [hb1, h1]; decide), if_pos (by rw [hb1]; exact h2), hsc, ext_take]
      · rw [htl, htx, bsA_size]
    | false =>
      have hf : firstP s = ⟨signK (c.toNat : Int), 0, bsA [c], 0, 0, 0⟩ := by
        rw [firstP, if_neg (by rw [h1]; decide), if_neg (by rw [h2]; decide), ext_list, hcr, hc0]; rfl
      rw [hf] at hk ⊢
      have := lex_sign c rest hk
      rw [show (⟨signK (c.toNat : Int), 0, bsA [c], 0, 0, 0⟩ : TokP).text.data.toList = [c] from rfl]
      exact this
end Go.Proofs.YtgdeeodifnegiaaGreatDoor

namespace Go.Proofs.YtgdeeodifnegiaaGreatDoor
open Go.RowKit

/-- a token that was read: its own text is read as it again -/
structure SelfT (t : TokP) : Prop where
  lex : ∀ rest, printHd rest → LexAt t.text.data.toList { t with at_ := 0 } rest
  semi : t.kind = 27 → t.text.data.toList = [59]
  comma : t.kind = 28 → t.text.data.toList = [44]
abbrev Gp := List UInt8 × TokP
def rend (l : List Gp) : List UInt8 := l.flatMap fun x => x.1 ++ x.2.text.data.toList
def gapOk (g : List UInt8) : Prop := g = [32] ∨ g = [10]
/-- gaps as they are set: none ahead of ; and , (and of the first) -/
def sepOk (x : Gp) : Prop := gapOk x.1 ∨ (x.1 = [] ∧ (x.2.kind = 27 ∨ x.2.kind = 28))
def rendT (k : Nat) : List Gp → Nat → List TokP
  | [], e => [⟨1, ((k + e : Nat) : Int), ⟨#[]⟩, 0, 0, 0⟩]
  | x :: l, e => { x.2 with at_ := ((k + x.1.length : Nat) : Int) } :: rendT (k + x.1.length + x.2.text.data.toList.length) l e
theorem hd_of {l : List Gp} {g : List UInt8} (hs : ∀ x ∈ l, SelfT x.2 ∧ sepOk x) (hg : g = [] ∨ gapOk g) : printHd (rend l ++ g) := by
  intro b hb
  cases l with
  | nil =>
    have hb' : g.head? = some b := hb
    rcases hg with rfl | rfl | rfl
    · cases hb'
    · cases hb'; exact Or.inl rfl
    · cases hb'; exact Or.inr (Or.inl rfl)
  | cons x l =>
    obtain ⟨h1, h2⟩ := hs x List.mem_cons_self
    have e : rend (x :: l) ++ g = x.1 ++ (x.2.text.data.toList ++ (rend l ++ g)) := by simp [rend]
    rw [e] at hb
    rcases h2 with (h2 | h2) | ⟨h2, h3⟩
    · rw [h2] at hb; cases hb; exact Or.inl rfl
    · rw [h2] at hb; cases hb; exact Or.inr (Or.inl rfl)
    · rw [h2] at hb
      rcases h3 with h3 | h3
      · rw [h1.semi h3] at hb; cases hb; exact Or.inr (Or.inr (Or.inl rfl))
      · rw [h1.comma h3] at hb; cases hb; exact Or.inr (Or.inr (Or.inr rfl))
theorem lex_blank {g : List UInt8} (hg : g = [] ∨ gapOk g) {rest : List UInt8} {k : Nat} {ts : List TokP} (h : Lex rest (k + g.length) ts) : Lex (g ++ rest) k ts := by
  rcases hg with rfl | rfl | rfl
  · exact h
  · exact Lex.blank (by decide) h
  · exact Lex.blank (by decide) h
theorem lex_rest {g : List UInt8} (hg : g = [] ∨ gapOk g) : ∀ (l : List Gp) (k : Nat), (∀ x ∈ l, SelfT x.2 ∧ sepOk x) → Lex (rend l ++ g) k (rendT k l g.length)
  | [], k, _ => by
    have h := lex_blank hg (rest := []) (k := k) (Lex.done (k + g.length))
    rw [List.append_nil] at h; exact h
  | x :: l, k, hs => by
    obtain ⟨h1, h2⟩ := hs x List.mem_cons_self
    have hs' : ∀ y ∈ l, SelfT y.2 ∧ sepOk y := fun y hy => hs y (List.mem_cons_of_mem _ hy)
    have e : rend (x :: l) ++ g = x.1 ++ (x.2.text.data.toList ++ (rend l ++ g)) := by simp [rend]
    rw [e]
    refine lex_blank (by rcases h2 with h2 | h2; exact Or.inr h2; exact Or.inl h2.1) ?_
    exact Lex.tok (t := { x.2 with at_ := 0 }) (h1.lex _ (hd_of hs' hg)) (lex_rest hg l _ hs')
/-- the page of a printed policy: its first token has no gap -/
theorem lex_page {g : List UInt8} (hg : g = [] ∨ gapOk g) {t : TokP} {l : List Gp} (ht : SelfT t) (hs : ∀ x ∈ l, SelfT x.2 ∧ sepOk x) : Lex (t.text.data.toList ++ (rend l ++ g)) 0 ({ t with at_ := 0 } :: rendT (0 + t.text.data.toList.length) l g.length) :=
  Lex.tok (t := { t with at_ := 0 }) (ht.lex _ (hd_of hs hg)) (lex_rest hg l _ hs)
theorem rendT_map : ∀ (l : List Gp) (k e : Nat), (rendT k l e).map (fun t => (t.kind, t.text, t.number, t.addr, t.len)) = (l.map (fun x => (x.2.kind, x.2.text, x.2.number, x.2.addr, x.2.len))) ++ [(1, ⟨#[]⟩, 0, 0, 0)]
  | [], _, _ => rfl
  | x :: l, k, e => by rw [rendT, List.map_cons, List.map_cons, rendT_map l]; rfl
end Go.Proofs.YtgdeeodifnegiaaGreatDoor

namespace Go.Proofs.YtgdeeodifnegiaaGreatDoor
open Go.RowKit

theorem wordK_bd (t : ByteArray) : wordK t = 0 ∨ (5 ≤ wordK t ∧ wordK t ≤ 25) := by
  unfold wordK
  split
  · rename_i i h
    have hi : i < wordsL.length := by
      rw [List.findIdx?_eq_some_iff_getElem] at h
      exact h.1
    have hl : wordsL.length = 21 := rfl
    right; omega
  · exact Or.inl rfl
theorem firstP_at (s : ByteArray) : (firstP s).at_ = 0 := by
  unfold firstP
  split
  · rfl
  · split
    · unfold digitsP
      split
      · rfl
      · split <;> rfl
    · rfl
theorem sign_semi : ∀ n : Nat, n < 256 → (signK (n : Int) = 27 → n = 59) ∧ (signK (n : Int) = 28 → n = 44) := by decide +kernel
theorem firstP_sign {s : ByteArray} (h0 : 0 < s.size) (q : Int) (hq : q = 27 ∨ q = 28) (hk : (firstP s).kind = q) : ∃ c : UInt8, (firstP s).text.data.toList = [c] ∧ signK (c.toNat : Int) = q := by
  have hlen : s.data.toList.length = s.size := by simp
  obtain ⟨c, r, hcr⟩ : ∃ c r, s.data.toList = c :: r := by
    cases hx : s.data.toList with
    | nil => rw [hx] at hlen; simp at hlen; omega
    | cons c r => exact ⟨c, r, rfl⟩
  have hc0 : bt s 0 = (c.toNat : Int) := by
    have : bt (bsA s.data.toList) 0 = (c.toNat : Int) := by rw [hcr]; exact bt_cons c r
    rwa [bsA_toList] at this
  cases h1 : lowB (bt s 0) with
  | true =>
    rw [firstP, if_pos h1] at hk
    exfalso
    have hw := wordK_bd (s.extract 0 (scanTo lowB s 0))
    have hk' : (if wordK (s.extract 0 (scanTo lowB s 0)) = 0 ∧ (s.extract 0 (scanTo lowB s 0)).size ≤ 8 then 4 else wordK (s.extract 0 (scanTo lowB s 0))) = q := hk
    split at hk' <;> omega
  | false =>
    cases h2 : digB (bt s 0) with
    | true =>
      rw [firstP, if_neg (by rw [h1]; decide), if_pos h2] at hk
      exfalso
      unfold digitsP at hk
      split at hk
      · have hk' : (2 : Int) = q := hk
        omega
      · split at hk
        · have hk' : (3 : Int) = q := hk
          omega
        · have hk' : (0 : Int) = q := hk
          omega
    | false =>
      have hf : firstP s = ⟨signK (c.toNat : Int), 0, bsA [c], 0, 0, 0⟩ := by
        rw [firstP, if_neg (by rw [h1]; decide), if_neg (by rw [h2]; decide), ext_list, hcr, hc0]; rfl
      rw [hf] at hk ⊢
      exact ⟨c, rfl, hk⟩
theorem first_self {s : ByteArray} (h0 : 0 < s.size) (hb : blankB (bt s 0) = false) (hk : (firstP s).kind ≠ 0) (k : Int) : SelfT { firstP s with at_ := k } := by
  refine ⟨fun rest hr => ?_, fun h => ?_, fun h => ?_⟩
  · have h := self_lex h0 hb hk hr
    have e : ({ firstP s with at_ := 0 } : TokP) = firstP s := by
      have := firstP_at s
      cases hx : firstP s
      rw [hx] at this
      dsimp only at this
      subst this; rfl
    show LexAt (firstP s).text.data.toList { firstP s with at_ := 0 } rest
    rw [e]; exact h
  · obtain ⟨c, h1, h2⟩ := firstP_sign h0 27 (Or.inl rfl) h
    have := (sign_semi c.toNat c.toNat_lt).1 h2
    show (firstP s).text.data.toList = [59]
    rw [h1]
    congr 1
    exact UInt8.toNat_inj.1 this
  · obtain ⟨c, h1, h2⟩ := firstP_sign h0 28 (Or.inr rfl) h
    have := (sign_semi c.toNat c.toNat_lt).2 h2
    show (firstP s).text.data.toList = [44]
    rw [h1]
    congr 1
    exact UInt8.toNat_inj.1 this
theorem allGo_self (s : ByteArray) : ∀ (f k : Nat) (t : TokP), t ∈ allGo s f k → 2 ≤ t.kind → SelfT t
  | 0, _, t, h, _ => by cases h
  | f + 1, k, t, h, h2 => by
    rw [allGo] at h
    split at h
    · rename_i hlt
      split at h
      · exact allGo_self s f _ t h h2
      · rename_i hbl
        have hb : blankB (bt (s.extract k s.size) 0) = false := by rw [bt_extract hlt]; simpa using hbl
        have h0 : 0 < (s.extract k s.size).size := by simp; omega
        split at h
        · rename_i hz
          rw [List.mem_singleton.1 h] at h2
          omega
        · rename_i hz
          rcases List.mem_cons.1 h with rfl | h
          · exact first_self h0 hb hz _
          · exact allGo_self s f _ t h h2
    · rw [List.mem_singleton.1 h] at h2
      have : (endTok s).kind = 1 := rfl
      omega
theorem allP_self {s : ByteArray} {t : TokP} (h : t ∈ allP s) (h2 : 2 ≤ t.kind) : SelfT t := allGo_self s _ _ t h h2
end Go.Proofs.YtgdeeodifnegiaaGreatDoor
