/- The tokens of a text, piece by piece; no program. -/
import Derived.Test.YtgdeeodifnegiaaGreatDoorCmpA
import Derived.Lib.ItoaNum
namespace Go.Proofs.YtgdeeodifnegiaaGreatDoor
open Go.RowKit

abbrev bsA (l : List UInt8) : ByteArray := ⟨l.toArray⟩
theorem bsA_size (l : List UInt8) : (bsA l).size = l.length := by show l.toArray.size = _; simp
theorem bsA_toList (s : ByteArray) : bsA s.data.toList = s := by cases s; simp [bsA]
theorem bt_bsA {l : List UInt8} {k : Nat} {b : UInt8} (h : l[k]? = some b) : bt (bsA l) k = (b.toNat : Int) := by
  have hk : k < l.length := (List.getElem?_eq_some_iff.mp h).1
  rw [bt_eq (by rw [bsA_size]; exact hk)]
  have : (bsA l)[k]'(by rw [bsA_size]; exact hk) = l[k] := by show (l.toArray)[k]'_ = _; simp
  rw [this, (List.getElem?_eq_some_iff.mp h).2]
theorem bt_cons (b : UInt8) (l : List UInt8) : bt (bsA (b :: l)) 0 = (b.toNat : Int) := bt_bsA rfl
theorem ext_drop (s : ByteArray) (k : Nat) : s.extract k s.size = bsA (s.data.toList.drop k) := by
  have h : (s.extract k s.size).data = (bsA (s.data.toList.drop k)).data := by
    rw [ByteArray.data_extract]
    show s.data.extract k s.data.size = (s.data.toList.drop k).toArray
    rw [← Array.toList_inj, Array.toList_extract]
    simp [List.extract]
    exact List.take_of_length_le (by simp)
  cases hx : s.extract k s.size with
  | mk d => rw [hx] at h; simp only at h; rw [h]
theorem ext_take (bs rest : List UInt8) : (bsA (bs ++ rest)).extract 0 bs.length = bsA bs := by
  have h : ((bsA (bs ++ rest)).extract 0 bs.length).data = (bsA bs).data := by
    rw [ByteArray.data_extract]
    simp
  cases hx : (bsA (bs ++ rest)).extract 0 bs.length with
  | mk d => rw [hx] at h; simp only at h; rw [h]
theorem scan_pre {p : Int → Bool} {bs rest : List UInt8} (ha : ∀ b ∈ bs, p (b.toNat : Int) = true) (hn : ∀ b, rest.head? = some b → p (b.toNat : Int) = false) :
    ∀ j i, i + j = bs.length → scanTo p (bsA (bs ++ rest)) i = bs.length
  | 0, i, h => by
    obtain rfl : i = bs.length := by omega
    refine scanTo_stop (fun hh => ?_)
    cases hr : rest with
    | nil => rw [hr, bsA_size] at hh; simp at hh
    | cons b r =>
      rw [hr, bt_bsA (b := b) (by simp)] at hh
      rw [hn b (by rw [hr]; rfl)] at hh
      exact absurd hh.2 (by decide)
  | j + 1, i, h => by
    have hi : i < bs.length := by omega
    rw [scanTo_step (by rw [bsA_size]; simp; omega) (by rw [bt_bsA (b := bs[i]) (by rw [List.getElem?_append_left hi, List.getElem?_eq_getElem hi])]; exact ha _ (List.getElem_mem hi))]
    exact scan_pre ha hn j (i + 1) (by omega)

/-- a piece bs, with rest behind it, is the token t -/
structure LexAt (bs : List UInt8) (t : TokP) (rest : List UInt8) : Prop where
  ne : bs ≠ []
  solid : ∀ b, bs.head? = some b → blankB (b.toNat : Int) = false
  first : firstP (bsA (bs ++ rest)) = t
  kind : t.kind ≠ 0
  size : t.text.size = bs.length
inductive Lex : List UInt8 → Nat → List TokP → Prop
  | done (k : Nat) : Lex [] k [⟨1, (k : Int), ⟨#[]⟩, 0, 0, 0⟩]
  | blank {b : UInt8} {rest : List UInt8} {k : Nat} {ts : List TokP} : blankB (b.toNat : Int) = true → Lex rest (k + 1) ts → Lex (b :: rest) k ts
  | tok {bs rest : List UInt8} {t : TokP} {k : Nat} {ts : List TokP} : LexAt bs t rest → Lex rest (k + bs.length) ts → Lex (bs ++ rest) k ({ t with at_ := (k : Int) } :: ts)

theorem lex_go (s : ByteArray) {l : List UInt8} {k : Nat} {ts : List TokP} (h : Lex l k ts) : s.data.toList.drop k = l → k ≤ s.size → ∀ f, s.size + 1 ≤ f + k →
    allGo s f k = ts := by
  induction h with
  | done k =>
    intro hd hk f hf
    have hks : k = s.size := by
      have h1 : (s.data.toList.drop k).length = 0 := by rw [hd]; rfl
      rw [List.length_drop] at h1
      have h2 : s.data.toList.length = s.size := by simp
      omega
    obtain ⟨f, rfl⟩ : ∃ g, f = g + 1 := ⟨f - 1, by omega⟩
    rw [allGo, if_neg (by omega)]
    subst hks
    rfl
  | @blank b rest k ts hb _ ih =>
    intro hd hk f hf
    have h2 : s.data.toList.length = s.size := by simp
    have hlt : k < s.size := by
      have h1 : (s.data.toList.drop k).length = rest.length + 1 := by rw [hd]; rfl
      rw [List.length_drop] at h1; omega
    obtain ⟨f, rfl⟩ : ∃ g, f = g + 1 := ⟨f - 1, by omega⟩
    have hbt : bt s k = (b.toNat : Int) := by
      rw [← bt_extract hlt, ext_drop, hd]; exact bt_cons b rest
    have hr : s.data.toList.drop (k + 1) = rest := by
      rw [show k + 1 = k + 1 from rfl, ← List.drop_drop, hd]; rfl
    rw [allGo, if_pos hlt, if_pos (by rw [hbt]; exact hb)]
    exact ih hr (by omega) f (by omega)
  | @tok bs rest t k ts ha _ ih =>
    intro hd hk f hf
    have h2 : s.data.toList.length = s.size := by simp
    have hbl : 0 < bs.length := List.length_pos_iff.mpr ha.ne
    have hln : k + bs.length ≤ s.size := by
      have h1 : (s.data.toList.drop k).length = bs.length + rest.length := by rw [hd]; simp
      rw [List.length_drop] at h1; omega
    have hlt : k < s.size := by omega
    obtain ⟨f, rfl⟩ : ∃ g, f = g + 1 := ⟨f - 1, by omega⟩
    have hbt : blankB (bt s k) = false := by
      rw [← bt_extract hlt, ext_drop, hd]
      cases hbs : bs with
      | nil => exact absurd hbs ha.ne
      | cons b r => rw [List.cons_append, bt_cons]; exact ha.solid b (by rw [hbs]; rfl)
    have htk : tkAt s k = { t with at_ := (k : Int) } := by
      unfold tkAt; rw [ext_drop, hd, ha.first]
    have hr : s.data.toList.drop (k + bs.length) = rest := by
      rw [← List.drop_drop, hd, List.drop_left]
    have hk0 : (tkAt s k).kind ≠ 0 := by rw [htk]; exact ha.kind
    rw [allGo_step hlt hbt hk0]
    have hsz : (tkAt s k).text.size = bs.length := by rw [htk]; exact ha.size
    rw [hsz, ih hr hln f (by omega), htk]
theorem lex_all {s : ByteArray} {ts : List TokP} (h : Lex s.data.toList 0 ts) : allP s = ts :=
  lex_go s h rfl (Nat.zero_le _) (s.size + 1) (by omega)

/-- a word of the table -/
theorem lex_word (j : Nat) (hj : j < 21) (rest : List UInt8) (hn : ∀ b, rest.head? = some b → lowB (b.toNat : Int) = false) :
    LexAt (wd j).data.toList ⟨5 + (j : Int), 0, wd j, 0, 0, 0⟩ rest := by
  have hall : ∀ j, j < 21 → (wd j).data.toList ≠ [] ∧ (∀ b ∈ (wd j).data.toList, lowB (b.toNat : Int) = true) ∧ wordK (wd j) = 5 + (j : Int) := by decide +kernel
  obtain ⟨h1, h2, h3⟩ := hall j hj
  cases hb : (wd j).data.toList with
  | nil => exact absurd hb h1
  | cons b r =>
    have hlow : lowB (bt (bsA ((b :: r) ++ rest)) 0) = true := by rw [List.cons_append, bt_cons]; exact h2 b (by rw [hb]; simp)
    have hsc : scanTo lowB (bsA ((b :: r) ++ rest)) 0 = (b :: r).length := scan_pre (by rw [← hb]; exact h2) hn _ 0 (Nat.zero_add _)
    have htx : (bsA (b :: r)) = wd j := by rw [← hb]
    refine ⟨by simp, fun x hx => ?_, ?_, ?_, ?_⟩
    · simp at hx; subst hx
      have := h2 b (by rw [hb]; simp)
      unfold lowB at this
      unfold blankB
      simp only [Bool.and_eq_true, decide_eq_true_eq] at this
      simp; omega
    · rw [firstP, if_pos hlow, hsc, ext_take, htx, lettersP, if_neg (by rw [h3]; omega), h3]
    · show (5 + (j : Int)) ≠ 0; omega
    · show (wd j).size = _; rw [← hb]; rfl
/-- a sign of the table -/
theorem lex_sign (c : UInt8) (rest : List UInt8) (h1 : signK (c.toNat : Int) ≠ 0) : LexAt [c] ⟨signK (c.toNat : Int), 0, bsA [c], 0, 0, 0⟩ rest := by
  have hall : ∀ n : Nat, n < 256 → signK (n : Int) ≠ 0 → lowB (n : Int) = false ∧ digB (n : Int) = false ∧ blankB (n : Int) = false := by decide +kernel
  obtain ⟨h2, h3, h4⟩ := hall c.toNat (c.toNat_lt) h1
  have hb : bt (bsA ([c] ++ rest)) 0 = (c.toNat : Int) := bt_cons c rest
  refine ⟨by simp, fun x hx => ?_, ?_, h1, ?_⟩
  · simp at hx; subst hx; exact h4
  · rw [firstP, hb, if_neg (by rw [h2]; decide), if_neg (by rw [h3]; decide)]
    rw [show (1 : Nat) = [c].length from rfl, ext_take]
  · show (bsA [c]).size = _; rw [bsA_size]
/-- a number -/
theorem lex_num (ds : List UInt8) (n : Int) (rest : List UInt8) (h0 : ds ≠ []) (hd : ∀ b ∈ ds, digB (b.toNat : Int) = true) (hn : numP (bsA ds) 4294967295 = n) (h1 : 0 ≤ n) (hr : ∀ b, rest.head? = some b → numeB (b.toNat : Int) = false) :
    LexAt ds ⟨2, 0, bsA ds, n, 0, 0⟩ rest := by
  cases hb : ds with
  | nil => exact absurd hb h0
  | cons b r =>
    have hdb : digB (b.toNat : Int) = true := hd b (by rw [hb]; simp)
    have hdig : digB (bt (bsA ((b :: r) ++ rest)) 0) = true := by rw [List.cons_append, bt_cons]; exact hdb
    have hnum : ∀ x ∈ ds, numeB (x.toNat : Int) = true := fun x hx => by unfold numeB; rw [hd x hx]; rfl
    have hsc : scanTo numeB (bsA ((b :: r) ++ rest)) 0 = (b :: r).length := scan_pre (by rw [← hb]; exact hnum) hr _ 0 (Nat.zero_add _)
    have hlo : lowB (bt (bsA ((b :: r) ++ rest)) 0) = false := by
      have := (digB_iff _).1 hdig
      unfold lowB; rw [decide_eq_false (by omega)]; rfl
    have hi := numIs_yes hn h1
    rw [hb] at hi
    refine ⟨by simp, fun x hx => ?_, ?_, by show (2 : Int) ≠ 0; decide, ?_⟩
    · simp at hx; subst hx
      have := (digB_iff _).1 hdb
      unfold blankB; simp; omega
    · rw [firstP, if_neg (by rw [hlo]; decide), if_pos hdig, hsc, ext_take, digitsP, if_pos hi.2, hi.1]
    · show (bsA (b :: r)).size = _; rw [bsA_size]

theorem numTo_congr {s t : ByteArray} : ∀ k, (∀ j, j < k → bt s j = bt t j) → numTo s k = numTo t k
  | 0, _ => rfl
  | k + 1, h => by rw [numTo, numTo, numTo_congr k (fun j hj => h j (by omega)), h k (by omega)]
theorem dec_unfold (u : Nat) : Lib.decDigits u = if u < 10 then [UInt8.ofNat (48 + u)] else Lib.decDigits (u / 10) ++ [UInt8.ofNat (48 + u % 10)] := by
  rw [Lib.decDigits]; split <;> rfl
theorem dig_nat {d : Nat} (h : d < 10) : (UInt8.ofNat (48 + d)).toNat = 48 + d := by
  rw [UInt8.toNat_ofNat']; omega
/-- the decimal digits of a number: what a reader of digits makes of them -/
theorem dec_all (u : Nat) : Lib.decDigits u ≠ [] ∧ (∀ b ∈ Lib.decDigits u, digB (b.toNat : Int) = true) ∧ numTo (bsA (Lib.decDigits u)) (Lib.decDigits u).length = (u : Int) ∧ (10 ≤ u → ∀ b, (Lib.decDigits u).head? = some b → b.toNat ≠ 48) ∧ (0 < u → ∀ b, (Lib.decDigits u).head? = some b → b.toNat ≠ 48) ∧ (∀ k, u < 10 ^ (k + 1) → (Lib.decDigits u).length ≤ k + 1) ∧ (u < 10 → (Lib.decDigits u).length = 1) := by
  induction u using Nat.strongRecOn with
  | ind u ih =>
    by_cases hu : u < 10
    · have e : Lib.decDigits u = [UInt8.ofNat (48 + u)] := by rw [dec_unfold, if_pos hu]
      have hd := dig_nat hu
      rw [e]
      refine ⟨by simp, fun b hb => ?_, ?_, fun h => by omega, fun h b hb => ?_, fun k _ => by simp, fun _ => rfl⟩
      · rcases List.mem_singleton.mp hb with rfl; rw [hd]; exact (digB_iff _).2 ⟨by omega, by omega⟩
      · show 10 * 0 + (bt (bsA [UInt8.ofNat (48 + u)]) 0 - 48) = _
        rw [bt_cons, hd]; omega
      · rcases Option.some.inj hb with rfl; rw [hd]; omega
    · have e : Lib.decDigits u = Lib.decDigits (u / 10) ++ [UInt8.ofNat (48 + u % 10)] := by rw [dec_unfold, if_neg hu]
      have hd := dig_nat (d := u % 10) (by omega)
      obtain ⟨i1, i2, i3, _, i5, i6, _⟩ := ih (u / 10) (by omega)
      have hh : ∀ b, (Lib.decDigits u).head? = some b → b.toNat ≠ 48 := fun b hb => by
        rw [e] at hb
        cases hx : Lib.decDigits (u / 10) with
        | nil => exact absurd hx i1
        | cons c r => rw [hx] at hb; exact i5 (by omega) b (by rw [hx]; exact hb)
      refine ⟨by rw [e]; simp, fun b hb => ?_, ?_, fun _ => hh, fun _ => hh, fun k hk => ?_, fun h => absurd h hu⟩
      · rw [e] at hb
        rcases List.mem_append.mp hb with hb | hb
        · exact i2 b hb
        · rcases List.mem_singleton.mp hb with rfl; rw [hd]; exact (digB_iff _).2 ⟨by omega, by omega⟩
      · rw [e, List.length_append, List.length_singleton, numTo, numTo_congr (t := bsA (Lib.decDigits (u / 10))) _ (fun j hj => ?_), i3, bt_bsA (b := UInt8.ofNat (48 + u % 10)) (by simp), hd]
        · omega
        · rw [bt_bsA (b := (Lib.decDigits (u / 10))[j]) (by rw [List.getElem?_append_left hj, List.getElem?_eq_getElem hj]), bt_bsA (b := (Lib.decDigits (u / 10))[j]) (List.getElem?_eq_getElem hj)]
      · rw [e, List.length_append, List.length_singleton]
        cases k with
        | zero => omega
        | succ k =>
          have := i6 k (by rw [Nat.pow_succ] at hk; omega)
          omega
theorem dec_num {u : Nat} (h : u ≤ 4294967295) : numP (bsA (Lib.decDigits u)) 4294967295 = (u : Int) := by
  obtain ⟨h1, h2, h3, h4, h5, h6, h7⟩ := dec_all u
  have hl := h6 9 (by omega)
  have hp : 0 < (Lib.decDigits u).length := List.length_pos_iff.mpr h1
  have hs := bsA_size (Lib.decDigits u)
  unfold numP
  rw [if_neg, if_pos, hs, h3, if_neg (by omega)]
  · intro j hj
    rw [hs] at hj
    rw [bt_bsA (b := (Lib.decDigits u)[j]) (List.getElem?_eq_getElem hj)]
    exact h2 _ (List.getElem_mem hj)
  · rintro (h | h | ⟨ha, hb⟩)
    · omega
    · omega
    · by_cases hu : u < 10
      · have := h7 hu; omega
      · cases hx : Lib.decDigits u with
        | nil => exact absurd hx h1
        | cons c r =>
          rw [hx, bt_cons] at hb
          exact h4 (by omega) c (by rw [hx]; rfl) (by omega)
theorem lex_dec (u : Nat) (h : u ≤ 4294967295) (rest : List UInt8) (hr : ∀ b, rest.head? = some b → numeB (b.toNat : Int) = false) : LexAt (Lib.decDigits u) ⟨2, 0, bsA (Lib.decDigits u), (u : Int), 0, 0⟩ rest :=
  lex_num _ _ _ (dec_all u).1 (dec_all u).2.1 (dec_num h) (by omega) hr
theorem dec_len {u : Nat} (h : u ≤ 4294967295) : (Lib.decDigits u).length ≤ 10 := (dec_all u).2.2.2.2.2.1 9 (by omega)
end Go.Proofs.YtgdeeodifnegiaaGreatDoor

namespace Go.Proofs.YtgdeeodifnegiaaGreatDoor
open Go.RowKit

theorem wr_id {x : Int} (h1 : -9223372036854775808 ≤ x) (h2 : x ≤ 9223372036854775807) : wrap64 x = x := by unfold wrap64; omega
/-- the reader stands at the k-th token, within d, and has found nothing wrong -/
structure Good (ts : List TokP) (st : RS) (d : Int) (k : Nat) : Prop where
  next : st.next = k
  depth : st.depth = d
  syn : st.syn = none
  nam : st.nam = none
  num : st.num = none
  t0 : (ts[0]?.getD tok0).text.data.toList ≠ []
  page : k = 0 ∨ st.page ≠ []
def kAt (ts : List TokP) (k : Nat) : Int := (ts[k]?.getD tok0).kind
def nAt (ts : List TokP) (k : Nat) : Int := (ts[k]?.getD tok0).number
theorem Good.kind {ts : List TokP} {st : RS} {d : Int} {k : Nat} (h : Good ts st d k) : kindR ts st = kAt ts k := by
  unfold kindR kAt tokR; rw [h.syn, h.next]; rfl
theorem Good.number {ts : List TokP} {st : RS} {d : Int} {k : Nat} (h : Good ts st d k) : (tokR ts st).number = nAt ts k := by
  unfold tokR nAt; rw [h.next]
theorem Good.go {ts : List TokP} {st : RS} {d : Int} {k : Nat} (h : Good ts st d k) : Good ts (goR ts st) d (k + 1) := by
  refine ⟨congrArg (· + 1) h.next, h.depth, h.syn, h.nam, h.num, h.t0, Or.inr ?_⟩
  show (if (tokR ts st).kind = 27 ∨ (tokR ts st).kind = 28 then st.page ++ (tokR ts st).text.data.toList else (st.page ++ st.gap.data.toList) ++ (tokR ts st).text.data.toList) ≠ []
  rcases h.page with h0 | h0
  · have e : tokR ts st = ts[0]?.getD tok0 := by unfold tokR; rw [h.next, h0]
    rw [e]
    have := h.t0
    split <;> simp_all
  · split <;> simp_all
theorem Good.take {ts : List TokP} {st : RS} {d : Int} {k : Nat} (h : Good ts st d k) {q : Int} (e : kAt ts k = q) : takeR ts q st = (goR ts st, tokR ts st) := by
  unfold takeR; rw [if_pos (h.kind.trans e)]
theorem Good.endLine {ts : List TokP} {st : RS} {d : Int} {k : Nat} (h : Good ts st d k) : Good ts (endLineR st) d k := ⟨h.next, h.depth, h.syn, h.nam, h.num, h.t0, h.page⟩
theorem Good.open {ts : List TokP} {st : RS} {d : Int} {k : Nat} (h : Good ts st d k) {q : Int} (e : kAt ts k = q) (h0 : 0 ≤ d) (h8 : d < 8) : Good ts (openR ts q st) (d + 1) (k + 1) := by
  unfold openR
  rw [if_neg (by rw [h.depth]; omega), h.take e]
  have g := h.go
  refine ⟨g.next, ?_, g.syn, g.nam, g.num, g.t0, g.page⟩
  show wr64 ((goR ts st).depth + 1) = d + 1
  rw [g.depth]
  show wrap64 (d + 1) = d + 1
  exact wr_id (by omega) (by omega)
theorem Good.dec {ts : List TokP} {st : RS} {d : Int} {k : Nat} (h : Good ts st (d + 1) k) (h0 : 0 ≤ d) (h8 : d < 8) : Good ts (decR st) d k := by
  refine ⟨h.next, ?_, h.syn, h.nam, h.num, h.t0, h.page⟩
  show wr64 (st.depth - 1) = d
  rw [h.depth, show d + 1 - 1 = d by omega]
  exact wr_id (by omega) (by omega)
theorem Good.shut {ts : List TokP} {st : RS} {d : Int} {k : Nat} (h : Good ts st (d + 1) k) {q : Int} (e : kAt ts k = q) (h0 : 0 ≤ d) (h8 : d < 8) : Good ts (shutR ts q st) d (k + 1) := by
  unfold shutR; rw [h.take e]; exact h.go.dec h0 h8
theorem Good.within {ts : List TokP} {st : RS} {d : Int} {k : Nat} (h : Good ts st d k) {lo hi : Int} (e : kAt ts k = 2) (h1 : lo ≤ nAt ts k) (h2 : nAt ts k ≤ hi) : withinR ts lo hi st = (goR ts st, nAt ts k) := by
  unfold withinR
  rw [h.take e]
  simp only [h.number]
  rw [if_neg (by omega)]

/-- what a reader of a part makes, from k to k', with the meaning m -/
def Reads {α : Type} (ts : List TokP) (rd : RS → Option (RS × α)) (d : Int) (k k' : Nat) (m : α) : Prop := ∀ st, Good ts st d k → ∃ st', rd st = some (st', m) ∧ Good ts st' d k'

/-- TERM -/
theorem term_num' {ts : List TokP} {n f : Nat} {d : Int} {k : Nat} (e : kAt ts k = 2) : Reads ts (termTw ts n (f + 1)) d k (k + 1) (some (constM (nAt ts k))) := fun st h => by
  refine ⟨goR ts st, ?_, h.go⟩
  rw [termTw, h.kind, if_pos e, h.number]
theorem term_pref' {ts : List TokP} {n f : Nat} {d : Int} {k : Nat} (e : kAt ts k = 9) : Reads ts (termTw ts n (f + 1)) d k (k + 1) (some prefM) := fun st h => by
  refine ⟨goR ts st, ?_, h.go⟩
  rw [termTw, h.kind, e, if_neg (by decide), if_pos rfl]
theorem term_med' {ts : List TokP} {n f : Nat} {d : Int} {k : Nat} (e : kAt ts k = 10) : Reads ts (termTw ts n (f + 1)) d k (k + 1) (some medM) := fun st h => by
  refine ⟨goR ts st, ?_, h.go⟩
  rw [termTw, h.kind, e, if_neg (by decide), if_neg (by decide), if_pos rfl]
theorem term_len' {ts : List TokP} {n f : Nat} {d : Int} {k : Nat} (e : kAt ts k = 17) : Reads ts (termTw ts n (f + 1)) d k (k + 1) (some lenM) := fun st h => by
  refine ⟨goR ts st, ?_, h.go⟩
  rw [termTw, h.kind, e, if_neg (by decide), if_neg (by decide), if_neg (by decide), if_pos rfl]
theorem term_paren' {ts : List TokP} {n f : Nat} {d : Int} {k k' : Nat} {m : AmtM} (e : kAt ts k = 33) (h0 : 0 ≤ d) (h8 : d < 8) (hs : Reads ts (sumBy ts (termTw ts n f) n) (d + 1) (k + 1) k' (some m)) (e' : kAt ts k' = 34) :
    Reads ts (termTw ts n (f + 1)) d k (k' + 1) (some m) := fun st h => by
  obtain ⟨st1, h1, g1⟩ := hs _ (h.open e h0 h8)
  refine ⟨shutR ts 34 st1, ?_, g1.shut e' h0 h8⟩
  rw [termTw, h.kind, e, if_neg (by decide), if_neg (by decide), if_neg (by decide), if_neg (by decide), if_pos rfl, h1]

/-- SUM: the terms behind the first one -/
inductive Terms (ts : List TokP) (term : RS → Option (RS × Option AmtM)) (d : Int) : Nat → Nat → AmtM → AmtM → Nat → Prop
  | nil {k : Nat} {m : AmtM} : kAt ts k ≠ 38 → kAt ts k ≠ 39 → Terms ts term d k k m m 1
  | plus {k k1 k2 c : Nat} {m t m' : AmtM} : kAt ts k = 38 → Reads ts term d (k + 1) k1 (some t) → Terms ts term d k1 k2 (plusM m t 1) m' c → Terms ts term d k k2 m m' (c + 1)
  | minus {k k1 k2 c : Nat} {m t m' : AmtM} : kAt ts k = 39 → Reads ts term d (k + 1) k1 (some t) → Terms ts term d k1 k2 (plusM m t (-1)) m' c → Terms ts term d k k2 m m' (c + 1)
theorem terms_lp {ts : List TokP} {term : RS → Option (RS × Option AmtM)} {d : Int} {k k' c : Nat} {m m' : AmtM} (h : Terms ts term d k k' m m' c) : ∀ n, c ≤ n → ∀ st, Good ts st d k → ∃ st', sumLp ts term n st (some m) = some (st', some m') ∧ Good ts st' d k' := by
  induction h with
  | nil e1 e2 =>
    intro n hn st g
    obtain ⟨n, rfl⟩ : ∃ j, n = j + 1 := ⟨n - 1, by omega⟩
    refine ⟨st, ?_, g⟩
    rw [sumLp, g.kind, if_neg e1, if_neg e2]
  | plus e hr _ ih =>
    intro n hn st g
    obtain ⟨n, rfl⟩ : ∃ j, n = j + 1 := ⟨n - 1, by omega⟩
    obtain ⟨s1, h1, g1⟩ := hr _ (g.go)
    obtain ⟨s2, h2, g2⟩ := ih n (by omega) s1 g1
    refine ⟨s2, ?_, g2⟩
    rw [sumLp, g.kind, if_pos e, h1]; exact h2
  | minus e hr _ ih =>
    intro n hn st g
    obtain ⟨n, rfl⟩ : ∃ j, n = j + 1 := ⟨n - 1, by omega⟩
    obtain ⟨s1, h1, g1⟩ := hr _ (g.go)
    obtain ⟨s2, h2, g2⟩ := ih n (by omega) s1 g1
    refine ⟨s2, ?_, g2⟩
    rw [sumLp, g.kind, e, if_neg (by decide), if_pos rfl, h1]; exact h2
theorem sum_reads {ts : List TokP} {term : RS → Option (RS × Option AmtM)} {d : Int} {k k1 k' c n : Nat} {m m' : AmtM} (h1 : Reads ts term d k k1 (some m)) (h2 : Terms ts term d k1 k' m m' c) (hc : c ≤ n) : Reads ts (sumBy ts term n) d k k' (some m') := fun st g => by
  obtain ⟨s1, e1, g1⟩ := h1 st g
  obtain ⟨s2, e2, g2⟩ := terms_lp h2 n hc s1 g1
  exact ⟨s2, by rw [sumBy, e1]; exact e2, g2⟩
theorem sum_one {ts : List TokP} {term : RS → Option (RS × Option AmtM)} {d : Int} {k k1 n : Nat} {m : AmtM} (h1 : Reads ts term d k k1 (some m)) (e1 : kAt ts k1 ≠ 38) (e2 : kAt ts k1 ≠ 39) (hn : 1 ≤ n) : Reads ts (sumBy ts term n) d k k1 (some m) :=
  sum_reads h1 (.nil e1 e2) hn
/-- a comparison -/
theorem cmp_lt {ts : List TokP} {sum : RS → Option (RS × Option AmtM)} {d : Int} {k k1 k' : Nat} {a b : AmtM} (h1 : Reads ts sum d k k1 (some a)) (e : kAt ts k1 = 40) (h2 : Reads ts sum d (k1 + 1) k' (some b)) : Reads ts (compareBy ts sum) d k k' (some (ltM a b)) := fun st g => by
  obtain ⟨s1, e1, g1⟩ := h1 st g
  obtain ⟨s2, e2, g2⟩ := h2 _ (g1.go)
  refine ⟨s2, ?_, g2⟩
  rw [compareBy, e1]; simp only; rw [g1.kind, if_pos e, e2]; rfl
theorem cmp_eq {ts : List TokP} {sum : RS → Option (RS × Option AmtM)} {d : Int} {k k1 k' : Nat} {a b : AmtM} (h1 : Reads ts sum d k k1 (some a)) (e : kAt ts k1 = 26) (h2 : Reads ts sum d (k1 + 1) k' (some b)) : Reads ts (compareBy ts sum) d k k' (some (eqM a b)) := fun st g => by
  obtain ⟨s1, e1, g1⟩ := h1 st g
  obtain ⟨s2, e2, g2⟩ := h2 _ (g1.go)
  refine ⟨s2, ?_, g2⟩
  rw [compareBy, e1]; simp only; rw [g1.kind, e, if_neg (by decide), g1.take e, e2]; rfl
theorem notC_cmp {ts : List TokP} {sum : RS → Option (RS × Option AmtM)} {d : Int} {k k' : Nat} {c : CndM} (h : Reads ts (compareBy ts sum) d k k' (some c)) (e : kAt ts k = 2 ∨ kAt ts k = 9 ∨ kAt ts k = 10 ∨ kAt ts k = 17 ∨ kAt ts k = 33) : Reads ts (notC ts sum) d k k' (some c) := fun st g => by
  obtain ⟨s1, e1, g1⟩ := h st g
  refine ⟨s1, ?_, g1⟩
  rw [notC, g.kind, if_neg (by omega)]; exact e1
/-- one condition, no and, no or -/
theorem bin_one {ts : List TokP} {q : Int} {m : CndM → CndM → CndM} {rd : RS → Option (RS × Option CndM)} {d : Int} {k k' n : Nat} {c : CndM} (h : Reads ts rd d k k' (some c)) (e : kAt ts k' ≠ q) (hn : 1 ≤ n) : Reads ts (binBy ts q m rd n) d k k' (some c) := fun st g => by
  obtain ⟨s1, e1, g1⟩ := h st g
  obtain ⟨n, rfl⟩ : ∃ j, n = j + 1 := ⟨n - 1, by omega⟩
  refine ⟨s1, ?_, g1⟩
  rw [binBy, e1]; simp only; rw [binLp, g1.kind, if_neg e]
theorem cond_one {ts : List TokP} {nt : RS → Option (RS × Option CndM)} {d : Int} {k k' n : Nat} {c : CndM} (h : Reads ts nt d k k' (some c)) (e1 : kAt ts k' ≠ 18) (e2 : kAt ts k' ≠ 19) (hn : 1 ≤ n) : Reads ts (condBy ts nt n) d k k' (some c) :=
  bin_one (bin_one h e2 hn) e1 hn

/-- STATEMENTs, one behind the other; the last one is followed by what begins none -/
def noStmt (q : Int) : Prop := q ≠ 7 ∧ q ≠ 8 ∧ q ≠ 9 ∧ q ≠ 10 ∧ q ≠ 11 ∧ q ≠ 12 ∧ q ≠ 13 ∧ q ≠ 14
instance (q : Int) : Decidable (noStmt q) := by unfold noStmt; infer_instance
inductive Many (ts : List TokP) (rd : RS → Option (RS × Option (Option StpM))) (d : Int) : Nat → Nat → List StpM → Prop
  | nil {k : Nat} : Reads ts rd d k k none → Many ts rd d k k []
  | cons {k k1 k' : Nat} {m : StpM} {l : List StpM} : Reads ts rd d k k1 (some (some m)) → Many ts rd d k1 k' l → Many ts rd d k k' (m :: l)
theorem many_lp {ts : List TokP} {rd : RS → Option (RS × Option (Option StpM))} {d : Int} {k k' : Nat} {l : List StpM} (h : Many ts rd d k k' l) : ∀ n, l.length < n → ∀ st acc, Good ts st d k → ∃ st', moreLp rd n st acc = some (st', acc ++ l.map some) ∧ Good ts st' d k' := by
  induction h with
  | nil hr =>
    intro n hn st acc g
    obtain ⟨n, rfl⟩ : ∃ j, n = j + 1 := ⟨n - 1, by omega⟩
    obtain ⟨s1, e1, g1⟩ := hr st g
    exact ⟨s1, by rw [moreLp, e1]; simp, g1⟩
  | cons hr _ ih =>
    intro n hn st acc g
    obtain ⟨n, rfl⟩ : ∃ j, n = j + 1 := ⟨n - 1, by omega⟩
    obtain ⟨s1, e1, g1⟩ := hr st g
    obtain ⟨s2, e2, g2⟩ := ih n (by simp at hn; omega) s1 (acc ++ [some _]) g1
    exact ⟨s2, by rw [moreLp, e1]; simp only; rw [e2]; simp, g2⟩
theorem allO_map (l : List StpM) : allO (l.map some) = some l := by
  induction l with
  | nil => rfl
  | cons a l ih => rw [List.map_cons, allO, ih]; rfl
theorem block_reads {ts : List TokP} {rd : RS → Option (RS × Option (Option StpM))} {d : Int} {k k' n : Nat} {l : List StpM} (e : kAt ts k = 29) (h0 : 0 ≤ d) (h8 : d < 8) (hm : Many ts rd (d + 1) (k + 1) k' l) (hn : l.length < n) (e' : kAt ts k' = 30) :
    Reads ts (blockBy ts rd n) d k (k' + 1) (l.map some) := fun st g => by
  obtain ⟨s1, e1, g1⟩ := many_lp hm n hn _ [] (g.open e h0 h8).endLine
  refine ⟨_, ?_, (g1.shut e' h0 h8).endLine⟩
  rw [blockBy, e1]; simp

section stmt
variable {ts : List TokP} {n f : Nat} {ok : Int → Bool} {sum : RS → Option (RS × Option AmtM)} {cnd : RS → Option (RS × Option CndM)} {d : Int} {k : Nat}
theorem stmt_none' (h : noStmt (kAt ts k)) (hok : ok (kAt ts k) = true) : Reads ts (stmtTw ts n ok sum cnd (f + 1)) d k k none := fun st g => by
  refine ⟨st, ?_, g⟩
  obtain ⟨h7, h8, h9, h10, h11, h12, h13, h14⟩ := h
  rw [stmtTw, g.kind, hok, if_neg (by decide), if_neg h14, if_neg h7, if_neg h8, if_neg h9, if_neg h10, if_neg h11, if_neg h12, if_neg h13]
theorem end_take {st : RS} (g : Good ts st d k) (e : kAt ts k = 27) : endR ts st = goR ts st := by unfold endR; rw [g.take e]
theorem stmt_accept' (e : kAt ts k = 7) (hok : ok 7 = true) (e2 : kAt ts (k + 1) = 27) : Reads ts (stmtTw ts n ok sum cnd (f + 1)) d k (k + 2) (some (some (concludeM 1))) := fun st g => by
  refine ⟨_, ?_, (g.go).go⟩
  rw [stmtTw, g.kind, e, hok, if_neg (by decide), if_neg (by decide), if_pos rfl, end_take (g.go) e2]
theorem stmt_reject' (e : kAt ts k = 8) (hok : ok 8 = true) (e2 : kAt ts (k + 1) = 27) : Reads ts (stmtTw ts n ok sum cnd (f + 1)) d k (k + 2) (some (some (concludeM 2))) := fun st g => by
  refine ⟨_, ?_, (g.go).go⟩
  rw [stmtTw, g.kind, e, hok, if_neg (by decide), if_neg (by decide), if_neg (by decide), if_pos rfl, end_take (g.go) e2]
theorem stmt_pref' {k1 : Nat} {m : AmtM} (e : kAt ts k = 9) (hok : ok 9 = true) (e2 : kAt ts (k + 1) = 26) (hs : Reads ts sum d (k + 2) k1 (some m)) (e3 : kAt ts k1 = 27) : Reads ts (stmtTw ts n ok sum cnd (f + 1)) d k (k1 + 1) (some (some (setPrefM m))) := fun st g => by
  obtain ⟨s1, h1, g1⟩ := hs _ ((g.go).go)
  refine ⟨_, ?_, g1.go⟩
  rw [stmtTw, g.kind, e, hok, if_neg (by decide), if_neg (by decide), if_neg (by decide), if_neg (by decide), if_pos rfl, (g.go).take e2, h1]
  simp only; rw [end_take g1 e3]; rfl
theorem stmt_med' {k1 : Nat} {m : AmtM} (e : kAt ts k = 10) (hok : ok 10 = true) (e2 : kAt ts (k + 1) = 26) (hs : Reads ts sum d (k + 2) k1 (some m)) (e3 : kAt ts k1 = 27) : Reads ts (stmtTw ts n ok sum cnd (f + 1)) d k (k1 + 1) (some (some (setMedM m))) := fun st g => by
  obtain ⟨s1, h1, g1⟩ := hs _ ((g.go).go)
  refine ⟨_, ?_, g1.go⟩
  rw [stmtTw, g.kind, e, hok, if_neg (by decide), if_neg (by decide), if_neg (by decide), if_neg (by decide), if_neg (by decide), if_pos rfl, (g.go).take e2, h1]
  simp only; rw [end_take g1 e3]; rfl
theorem stmt_mark' (e : kAt ts k = 11) (hok : ok 11 = true) (e2 : kAt ts (k + 1) = 2) (h1 : 0 ≤ nAt ts (k + 1)) (h2 : nAt ts (k + 1) ≤ 65535) (e3 : kAt ts (k + 2) = 27) : Reads ts (stmtTw ts n ok sum cnd (f + 1)) d k (k + 3) (some (some (markM (nAt ts (k + 1))))) := fun st g => by
  refine ⟨_, ?_, ((g.go).go).go⟩
  rw [stmtTw, g.kind, e, hok, if_neg (by decide), if_neg (by decide), if_neg (by decide), if_neg (by decide), if_neg (by decide), if_neg (by decide), if_pos rfl, (g.go).within e2 h1 h2, end_take ((g.go).go) e3]
theorem stmt_unmark' (e : kAt ts k = 12) (hok : ok 12 = true) (e2 : kAt ts (k + 1) = 2) (h1 : 0 ≤ nAt ts (k + 1)) (h2 : nAt ts (k + 1) ≤ 65535) (e3 : kAt ts (k + 2) = 27) : Reads ts (stmtTw ts n ok sum cnd (f + 1)) d k (k + 3) (some (some (unmarkM (nAt ts (k + 1))))) := fun st g => by
  refine ⟨_, ?_, ((g.go).go).go⟩
  rw [stmtTw, g.kind, e, hok, if_neg (by decide), if_neg (by decide), if_neg (by decide), if_neg (by decide), if_neg (by decide), if_neg (by decide), if_neg (by decide), if_pos rfl, (g.go).within e2 h1 h2, end_take ((g.go).go) e3]
theorem stmt_prepend' (e : kAt ts k = 13) (hok : ok 13 = true) (e2 : kAt ts (k + 1) = 2) (h1 : 1 ≤ nAt ts (k + 1)) (h2 : nAt ts (k + 1) ≤ 65535) (e3 : kAt ts (k + 2) = 27) : Reads ts (stmtTw ts n ok sum cnd (f + 1)) d k (k + 3) (some (some (prependM (nAt ts (k + 1))))) := fun st g => by
  refine ⟨_, ?_, ((g.go).go).go⟩
  rw [stmtTw, g.kind, e, hok, if_neg (by decide), if_neg (by decide), if_neg (by decide), if_neg (by decide), if_neg (by decide), if_neg (by decide), if_neg (by decide), if_neg (by decide), if_pos rfl, (g.go).within e2 h1 h2, end_take ((g.go).go) e3]
theorem stmt_if' {k1 k2 : Nat} {c : CndM} {yes : List StpM} (e : kAt ts k = 14) (hok : ok 14 = true) (hc : Reads ts cnd d (k + 1) k1 (some c)) (e1 : kAt ts k1 = 15) (hy : Reads ts (blockBy ts (stmtTw ts n ok sum cnd f) n) d (k1 + 1) k2 (yes.map some)) (e2 : kAt ts k2 ≠ 16) :
    Reads ts (stmtTw ts n ok sum cnd (f + 1)) d k k2 (some (some (chooseM c yes []))) := fun st g => by
  obtain ⟨s1, h1, g1⟩ := hc _ (g.go)
  obtain ⟨s2, h2, g2⟩ := hy _ (g1.go)
  refine ⟨s2, ?_, g2⟩
  rw [stmtTw, g.kind, e, hok, if_neg (by decide), if_pos rfl, h1]; simp only
  rw [g1.take e1]; simp only
  rw [h2]; simp only
  rw [g2.kind, if_neg e2, chooseO, allO_map]; rfl
theorem stmt_ifelse' {k1 k2 k3 : Nat} {c : CndM} {yes no : List StpM} (e : kAt ts k = 14) (hok : ok 14 = true) (hc : Reads ts cnd d (k + 1) k1 (some c)) (e1 : kAt ts k1 = 15) (hy : Reads ts (blockBy ts (stmtTw ts n ok sum cnd f) n) d (k1 + 1) k2 (yes.map some)) (e2 : kAt ts k2 = 16) (hn : Reads ts (blockBy ts (stmtTw ts n ok sum cnd f) n) d (k2 + 1) k3 (no.map some)) :
    Reads ts (stmtTw ts n ok sum cnd (f + 1)) d k k3 (some (some (chooseM c yes no))) := fun st g => by
  obtain ⟨s1, h1, g1⟩ := hc _ (g.go)
  obtain ⟨s2, h2, g2⟩ := hy _ (g1.go)
  obtain ⟨s3, h3, g3⟩ := hn _ (g2.go)
  refine ⟨s3, ?_, g3⟩
  rw [stmtTw, g.kind, e, hok, if_neg (by decide), if_pos rfl, h1]; simp only
  rw [g1.take e1]; simp only
  rw [h2]; simp only
  rw [g2.kind, if_pos e2, h3]; simp only
  rw [chooseO, allO_map]; simp only; rw [allO_map]
end stmt

/-- a whole policy -/
theorem policy_reads {ts : List TokP} {n : Nat} {rd : RS → Option (RS × Option (Option StpM))} {k' : Nat} {l : List StpM} (h : Many ts rd 0 0 k' l) (hl : l ≠ []) (hn : l.length < n) (e : kAt ts k' = 1) (h0 : (ts[0]?.getD tok0).text.data.toList ≠ []) :
    ∃ st, policyTw ts n rd rs0 = some (st, l.map some) ∧ Good ts st 0 k' := by
  obtain ⟨s1, e1, g1⟩ := many_lp h n hn rs0 [] ⟨rfl, rfl, rfl, rfl, rfl, h0, Or.inl rfl⟩
  refine ⟨s1, ?_, g1⟩
  have hne : (l.map some).length ≠ 0 := by simpa using hl
  rw [policyTw, e1]
  simp only [List.nil_append]
  rw [if_neg hne, g1.kind, if_pos e]
end Go.Proofs.YtgdeeodifnegiaaGreatDoor

namespace Go.Proofs.YtgdeeodifnegiaaGreatDoor
open Go.RowKit

/-- a piece of a text: a blank, the j-th word of the table, a sign, a number -/
inductive It where
  | sp
  | wo (j : Nat)
  | sg (c : UInt8)
  | nm (u : Nat)
def It.bytes : It → List UInt8
  | .sp => [32]
  | .wo j => (wd j).data.toList
  | .sg c => [c]
  | .nm u => Lib.decDigits u
def itBytes (l : List It) : List UInt8 := l.flatMap It.bytes
def It.ok : It → Bool
  | .sp => true
  | .wo j => decide (j < 21)
  | .sg c => decide (signK (c.toNat : Int) ≠ 0)
  | .nm u => decide (u ≤ 4294967295)
/-- what may stand right behind a piece -/
def It.then_ : It → List It → Bool
  | .wo _, .wo _ :: _ => false
  | .wo _, .nm _ :: _ => false
  | .nm _, .wo _ :: _ => false
  | .nm _, .nm _ :: _ => false
  | .nm _, .sg c :: _ => decide (c.toNat ≠ 46)
  | _, _ => true
def itsOk : List It → Bool
  | [] => true
  | i :: l => i.ok && i.then_ l && itsOk l
def itToks : Nat → List It → List TokP
  | k, [] => [⟨1, (k : Int), ⟨#[]⟩, 0, 0, 0⟩]
  | k, .sp :: l => itToks (k + 1) l
  | k, .wo j :: l => ⟨5 + (j : Int), (k : Int), wd j, 0, 0, 0⟩ :: itToks (k + (wd j).data.toList.length) l
  | k, .sg c :: l => ⟨signK (c.toNat : Int), (k : Int), bsA [c], 0, 0, 0⟩ :: itToks (k + 1) l
  | k, .nm u :: l => ⟨2, (k : Int), bsA (Lib.decDigits u), (u : Int), 0, 0⟩ :: itToks (k + (Lib.decDigits u).length) l
def itKN : List It → List (Int × Int)
  | [] => [(1, 0)]
  | .sp :: l => itKN l
  | .wo j :: l => (5 + (j : Int), 0) :: itKN l
  | .sg c :: l => (signK (c.toNat : Int), 0) :: itKN l
  | .nm u :: l => (2, (u : Int)) :: itKN l
theorem itKN_toks : ∀ (l : List It) (k : Nat), (itToks k l).map (fun t => (t.kind, t.number)) = itKN l
  | [], _ => rfl
  | .sp :: l, k => itKN_toks l (k + 1)
  | .wo j :: l, k => by rw [itToks, itKN, List.map_cons, itKN_toks l]
  | .sg c :: l, k => by rw [itToks, itKN, List.map_cons, itKN_toks l]
  | .nm u :: l, k => by rw [itToks, itKN, List.map_cons, itKN_toks l]
theorem itBytes_cons (i : It) (l : List It) : itBytes (i :: l) = i.bytes ++ itBytes l := by simp [itBytes]
theorem itBytes_append (a b : List It) : itBytes (a ++ b) = itBytes a ++ itBytes b := by simp [itBytes]
theorem sign_facts : ∀ n : Nat, n < 256 → signK (n : Int) ≠ 0 → lowB (n : Int) = false ∧ (n ≠ 46 → numeB (n : Int) = false) := by decide +kernel
theorem its_low {j : Nat} {l : List It} (h : itsOk (.wo j :: l) = true) : ∀ b, (itBytes l).head? = some b → lowB (b.toNat : Int) = false := by
  intro b hb
  simp only [itsOk, Bool.and_eq_true] at h
  match l, h, hb with
  | [], _, hb => simp [itBytes] at hb
  | .sp :: l, _, hb => rw [itBytes_cons] at hb; rcases Option.some.inj hb with rfl; decide
  | .wo _ :: l, h, _ => simp [It.then_] at h
  | .nm _ :: l, h, _ => simp [It.then_] at h
  | .sg c :: l, h, hb =>
    rw [itBytes_cons] at hb; rcases Option.some.inj hb with rfl
    simp only [itsOk, It.ok, Bool.and_eq_true, decide_eq_true_eq] at h
    exact (sign_facts _ (UInt8.toNat_lt _) h.2.1.1).1
theorem its_num {u : Nat} {l : List It} (h : itsOk (.nm u :: l) = true) : ∀ b, (itBytes l).head? = some b → numeB (b.toNat : Int) = false := by
  intro b hb
  simp only [itsOk, Bool.and_eq_true] at h
  match l, h, hb with
  | [], _, hb => simp [itBytes] at hb
  | .sp :: l, _, hb => rw [itBytes_cons] at hb; rcases Option.some.inj hb with rfl; decide
  | .wo _ :: l, h, _ => simp [It.then_] at h
  | .nm _ :: l, h, _ => simp [It.then_] at h
  | .sg c :: l, h, hb =>
    rw [itBytes_cons] at hb; rcases Option.some.inj hb with rfl
    simp only [itsOk, It.ok, It.then_, Bool.and_eq_true, decide_eq_true_eq] at h
    exact (sign_facts _ (UInt8.toNat_lt _) h.2.1.1).2 h.1.2
theorem its_lex : ∀ (l : List It) (k : Nat), itsOk l = true → Lex (itBytes l) k (itToks k l)
  | [], k, _ => Lex.done k
  | .sp :: l, k, h => by
    simp only [itsOk, Bool.and_eq_true] at h
    exact Lex.blank (by decide) (its_lex l (k + 1) h.2)
  | .wo j :: l, k, h => by
    have h' := h
    simp only [itsOk, It.ok, Bool.and_eq_true, decide_eq_true_eq] at h'
    rw [itBytes_cons]
    exact Lex.tok (lex_word j h'.1.1 _ (its_low h)) (its_lex l _ h'.2)
  | .sg c :: l, k, h => by
    have h' := h
    simp only [itsOk, It.ok, Bool.and_eq_true, decide_eq_true_eq] at h'
    rw [itBytes_cons]
    exact Lex.tok (lex_sign c _ h'.1.1) (its_lex l _ h'.2)
  | .nm u :: l, k, h => by
    have h' := h
    simp only [itsOk, It.ok, Bool.and_eq_true, decide_eq_true_eq] at h'
    rw [itBytes_cons]
    exact Lex.tok (lex_dec u h'.1.1 _ (its_num h)) (its_lex l _ h'.2)
theorem its_all {l : List It} (h : itsOk l = true) : allP (bsA (itBytes l)) = itToks 0 l := lex_all (its_lex l 0 h)
theorem its_kAt (l : List It) (i : Nat) : kAt (itToks 0 l) i = ((itKN l)[i]?.getD (0, 0)).1 := by
  rw [← itKN_toks l 0, List.getElem?_map]
  unfold kAt
  cases (itToks 0 l)[i]? <;> rfl
theorem its_nAt (l : List It) (i : Nat) : nAt (itToks 0 l) i = ((itKN l)[i]?.getD (0, 0)).2 := by
  rw [← itKN_toks l 0, List.getElem?_map]
  unfold nAt
  cases (itToks 0 l)[i]? <;> rfl

def okP (_ : Int) : Bool := true
abbrev sumS (ts : List TokP) : RS → Option (RS × Option AmtM) := sumBy ts (termTw ts 100 20) 100
abbrev cndS (ts : List TokP) : RS → Option (RS × Option CndM) := condBy ts (notC ts (sumS ts)) 100
abbrev stmS (ts : List TokP) (f : Nat) : RS → Option (RS × Option (Option StpM)) := stmtTw ts 100 okP (sumS ts) (cndS ts) f
end Go.Proofs.YtgdeeodifnegiaaGreatDoor
