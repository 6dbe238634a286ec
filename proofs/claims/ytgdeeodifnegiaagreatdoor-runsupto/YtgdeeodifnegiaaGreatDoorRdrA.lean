/- The program's reader in memory: its block, its tokens, its definitions, its page; closures by what they do. -/
import Derived.Test.YtgdeeodifnegiaaGreatDoorBase
import Derived.Test.YtgdeeodifnegiaaGreatDoorPlainA
import Derived.Shelf.Abstract
namespace Go.Proofs.YtgdeeodifnegiaaGreatDoor
open Go.RowKit

/-- what holds of every world in which the blocks K lie as they lie in w; K lies in w, within A -/
def Lasts (w : World) (A : Nat → Prop) (Q : (Nat → Prop) → World → Prop) : Prop :=
  ∃ K : Nat → Prop, (∀ k, K k → k < w.heap.size ∧ A k) ∧ ∀ W, w.heap.size ≤ W.heap.size → (∀ k, K k → W.heap[k]? = w.heap[k]?) → Q K W
theorem Lasts.mono {w w' : World} {A A' : Nat → Prop} {Q Q' : (Nat → Prop) → World → Prop} (h : Lasts w A Q) (hs : w.heap.size ≤ w'.heap.size) (hb : ∀ k, k < w.heap.size → A k → w'.heap[k]? = w.heap[k]? ∧ A' k) (hq : ∀ K W, Q K W → Q' K W) : Lasts w' A' Q' := by
  obtain ⟨K, hK, hQ⟩ := h
  exact ⟨K, fun k hk => ⟨Nat.lt_of_lt_of_le (hK k hk).1 hs, (hb k (hK k hk).1 (hK k hk).2).2⟩, fun W hW hk => hq _ _ (hQ W (Nat.le_trans hs hW) (fun k h => (hk k h).trans (hb k (hK k h).1 (hK k h).2).1))⟩
theorem Lasts.allow {w : World} {A A' : Nat → Prop} {Q : (Nat → Prop) → World → Prop} (h : Lasts w A Q) (hb : ∀ k, k < w.heap.size → A k → A' k) : Lasts w A' Q :=
  h.mono (Nat.le_refl _) (fun k hk ha => ⟨rfl, hb k hk ha⟩) (fun _ _ h => h)
/-- what the reader may not write, and knows: the blocks D of the definitions, and what is new since a size -/
def Free (O D : Nat → Prop) (n : Nat) (k : Nat) : Prop := ¬ O k ∧ (D k ∨ n ≤ k)
theorem Lasts.fr {w w' : World} {O O' D : Nat → Prop} {n m : Nat} {Q : (Nat → Prop) → World → Prop} (h : Lasts w (Free O D n) Q) (hf : Fr O w O' w') (hm : m ≤ n) : Lasts w' (Free O' D m) Q := by
  refine h.mono hf.size (fun k hk ha => ⟨hf.block k hk ha.1, ⟨fun ho => ?_, ?_⟩⟩) (fun _ _ h => h)
  · rcases hf.own k ho with h1 | h1
    · exact ha.1 h1
    · omega
  · rcases ha.2 with h1 | h1
    · exact Or.inl h1
    · exact Or.inr (by omega)

abbrev ptr4 (pb o : Nat) : Value := .pointer (some ⟨pb, o, none⟩)
def tokCells (l : List TokP) : List Value := l.flatMap fun t => [.int .i64 t.kind, .int .i64 t.at_, .string t.text, .int .i64 t.number, .int .i64 t.addr, .int .i64 t.len]
def byteCells (l : List UInt8) : List Value := l.map fun b => .int .u8 (b.toNat : Int)
def optB (f : Option Int) : Value := .bool f.isSome
def optI (f : Option Int) : Value := .int .i64 (f.getD 0)
def rdCells (tv dv av bv : Value) (st : RS) : Array Value :=
  #[tv, .int .i64 (st.next : Int), .int .i64 st.depth, dv, av, bv, .string st.gap, optB st.syn, optI st.syn, optB st.nam, optI st.nam, optB st.num, optI st.num]

/-- a function value that may be called: its number, what it has captured -/
def FnAt (v : Value) (C : Nat → Array Value → Prop) : Prop := ∃ g lb, v = .func (.func g) #[] lb ∧ Enters Tryz.prog g ∧ C g lb

def SetC (v : Value) (m : SetM) (_K : Nat → Prop) (W : World) : Prop :=
  FnAt v fun g lb => ∀ (V : World) (a l : Int), Below W.heap.size W V → Calls Tryz.prog g (#[.agg #[.int .i64 a, .int .i64 l]] ++ lb) V fun e V' => e = .returned (.bool (m a l)) ∧ Below V.heap.size V V'
/-- a path that may be read -/
def PathAt (W : World) (v : Value) (l : List Int) : Prop := ∃ p c, v = .slice p l.length c ∧ (l = [] ∨ ∃ b o, p = some ⟨b, o, none⟩ ∧ b < W.heap.size ∧ ∀ j, (h : j < l.length) → W.cell? ⟨b, o + j, none⟩ = some (.int .i64 l[j]))
theorem PathAt.below {w w' : World} {v : Value} {l : List Int} (h : PathAt w v l) (hb : Below w.heap.size w w') : PathAt w' v l := by
  obtain ⟨p, c, hv, hr⟩ := h
  refine ⟨p, c, hv, ?_⟩
  rcases hr with h | ⟨b, o, hp, hlt, hc⟩
  · exact Or.inl h
  · exact Or.inr ⟨b, o, hp, Nat.lt_of_lt_of_le hlt hb.size, fun j hj => (hb.cell (p := ⟨b, o + j, none⟩) hlt).trans (hc j hj)⟩
def WayC (v : Value) (m : WayM) (_K : Nat → Prop) (W : World) : Prop :=
  FnAt v fun g lb => ∀ (V : World) (pv : Value) (l : List Int) (f : Nat), Below W.heap.size W V → PathAt V pv l → l.length ≤ 12 → f < 2 ^ (l.length + 1) → Calls Tryz.prog g (#[pv, .int .u16 (f : Int)] ++ lb) V fun e V' => (∃ r : Nat, e = .returned (.int .u16 (r : Int)) ∧ Bits m l f r) ∧ Below V.heap.size V V'
def defCells (l : List (ByteArray × Value × Value)) : List Value := l.flatMap fun d => [.string d.1, d.2.1, d.2.2]
def DefRep (w : World) (A : Nat → Prop) (d : DefP) (x : ByteArray × Value × Value) : Prop :=
  x.1 = d.name ∧ (match d.set with | none => x.2.1 = .nilFunc | some m => Lasts w A (SetC x.2.1 m)) ∧ (match d.way with | none => x.2.2 = .nilFunc | some m => Lasts w A (WayC x.2.2 m))
theorem DefRep.mono {w w' : World} {A A' : Nat → Prop} {d : DefP} {x : ByteArray × Value × Value} (h : DefRep w A d x) (hs : w.heap.size ≤ w'.heap.size) (hb : ∀ k, k < w.heap.size → A k → w'.heap[k]? = w.heap[k]? ∧ A' k) : DefRep w' A' d x := by
  obtain ⟨h1, h2, h3⟩ := h
  refine ⟨h1, ?_, ?_⟩
  · cases hd : d.set with
    | none => rw [hd] at h2; exact h2
    | some m => rw [hd] at h2; exact h2.mono hs hb (fun _ _ h => h)
  · cases hd : d.way with
    | none => rw [hd] at h3; exact h3
    | some m => rw [hd] at h3; exact h3.mono hs hb (fun _ _ h => h)
/-- the definitions, in memory -/
def DefsOK (w : World) (A : Nat → Prop) (dv : Value) (defs : List DefP) : Prop :=
  ∃ xs : List (ByteArray × Value × Value), w.ownsRow 0 307 3 dv defs.length (defCells xs) ∧ xs.length = defs.length ∧ ∀ (i : Nat) (d : DefP) (x : ByteArray × Value × Value), defs[i]? = some d → xs[i]? = some x → DefRep w A d x
theorem DefsOK.mono {w w' : World} {A A' : Nat → Prop} {dv : Value} {defs : List DefP} (h : DefsOK w A dv defs) (hs : w.heap.size ≤ w'.heap.size) (hd : ∀ k, dv.ownBlock = some k → w'.heap[k]? = w.heap[k]?) (hb : ∀ k, k < w.heap.size → A k → w'.heap[k]? = w.heap[k]? ∧ A' k) : DefsOK w' A' dv defs := by
  obtain ⟨xs, h1, h2, h3⟩ := h
  exact ⟨xs, owns_of h1 hd, h2, fun i d x hi hx => (h3 i d x hi hx).mono hs hb⟩

def ROwn (pb tb : Nat) (dv bv : Value) (k : Nat) : Prop := k = pb ∨ k = tb ∨ bv.ownBlock = some k ∨ dv.ownBlock = some k
structure RAt (w : World) (pb : Nat) (ts : List TokP) (st : RS) (D : Nat → Prop) (tb tc : Nat) (dv av bv : Value) : Prop where
  blk : w.heap[pb]? = some (.cells (rdCells (.slice (some ⟨tb, 0, none⟩) ts.length tc) dv av bv st) 210 (0, 0))
  toks : w.ownsRow 0 216 6 (.slice (some ⟨tb, 0, none⟩) ts.length tc) ts.length (tokCells ts)
  page : w.ownsRow 0 5 1 bv st.page.length (byteCells st.page)
  used : av = .pointer none ∨ av = ptr4 pb 4
  defs : DefsOK w (fun k => ¬ ROwn pb tb dv bv k ∧ D k) dv st.defs
  ne1 : tb ≠ pb
  ne2 : bv.ownBlock ≠ some pb
  ne3 : bv.ownBlock ≠ some tb
  ne4 : dv.ownBlock ≠ some pb
  ne5 : dv.ownBlock ≠ some tb
  ne6 : bv.ownBlock = none ∨ bv.ownBlock ≠ dv.ownBlock
  free : ∀ k, D k → k < w.heap.size ∧ ¬ ROwn pb tb dv bv k
def RA (w : World) (pb : Nat) (ts : List TokP) (st : RS) (D O : Nat → Prop) : Prop := ∃ tb tc dv av bv, RAt w pb ts st D tb tc dv av bv ∧ O = ROwn pb tb dv bv

theorem RAt.lt {w : World} {pb : Nat} {ts : List TokP} {st : RS} {D : Nat → Prop} {tb tc : Nat} {dv av bv : Value} (h : RAt w pb ts st D tb tc dv av bv) {k : Nat} (hk : ROwn pb tb dv bv k) : k < w.heap.size := by
  obtain ⟨xs, hd, _⟩ := h.defs
  rcases hk with rfl | rfl | hk | hk
  · exact heap_lt h.blk
  · exact (h.toks.lt k rfl).2
  · exact (h.page.lt k hk).2
  · exact (hd.lt k hk).2
theorem RAt.keep {w w' : World} {pb : Nat} {ts : List TokP} {st : RS} {D : Nat → Prop} {tb tc : Nat} {dv av bv : Value} (h : RAt w pb ts st D tb tc dv av bv) (hs : w.heap.size ≤ w'.heap.size)
    (hk : ∀ k, k < w.heap.size → ROwn pb tb dv bv k ∨ D k → w'.heap[k]? = w.heap[k]?) : RAt w' pb ts st D tb tc dv av bv := by
  have ho : ∀ k, ROwn pb tb dv bv k → w'.heap[k]? = w.heap[k]? := fun k h1 => hk k (h.lt h1) (Or.inl h1)
  refine ⟨(ho pb (Or.inl rfl)).trans h.blk, owns_of h.toks (fun k e => ho k ?_), owns_of h.page (fun k e => ho k (Or.inr (Or.inr (Or.inl e)))), h.used, h.defs.mono hs (fun k e => ho k (Or.inr (Or.inr (Or.inr e)))) (fun k hl ha => ⟨hk k hl (Or.inr ha.2), ha⟩), h.ne1, h.ne2, h.ne3, h.ne4, h.ne5, h.ne6, fun k hd => ⟨Nat.lt_of_lt_of_le (h.free k hd).1 hs, (h.free k hd).2⟩⟩
  obtain rfl : tb = k := by simpa [Value.ownBlock] using e
  exact Or.inr (Or.inl rfl)
/-- the state turns where the reader's own block alone is written -/
theorem RAt.set {w w' : World} {pb : Nat} {ts : List TokP} {st st' : RS} {D : Nat → Prop} {tb tc : Nat} {dv av bv : Value} (h : RAt w pb ts st D tb tc dv av bv) (hs : w.heap.size ≤ w'.heap.size)
    (hb : w'.heap[pb]? = some (.cells (rdCells (.slice (some ⟨tb, 0, none⟩) ts.length tc) dv av bv st') 210 (0, 0))) (hp : st'.page = st.page) (hd : st'.defs = st.defs)
    (hk : ∀ k, k < w.heap.size → k ≠ pb → ROwn pb tb dv bv k ∨ D k → w'.heap[k]? = w.heap[k]?) : RAt w' pb ts st' D tb tc dv av bv := by
  refine ⟨hb, owns_of h.toks (fun k e => ?_), ?_, h.used, ?_, h.ne1, h.ne2, h.ne3, h.ne4, h.ne5, h.ne6, fun k hd => ⟨Nat.lt_of_lt_of_le (h.free k hd).1 hs, (h.free k hd).2⟩⟩
  · obtain rfl : tb = k := by simpa [Value.ownBlock] using e
    exact hk tb (h.lt (Or.inr (Or.inl rfl))) h.ne1 (Or.inl (Or.inr (Or.inl rfl)))
  · rw [hp]
    exact owns_of h.page (fun k e => hk k (h.lt (Or.inr (Or.inr (Or.inl e)))) (fun e2 => h.ne2 (by rw [e, e2])) (Or.inl (Or.inr (Or.inr (Or.inl e)))))
  · rw [hd]
    exact h.defs.mono hs (fun k e => hk k (h.lt (Or.inr (Or.inr (Or.inr e)))) (fun e2 => h.ne4 (by rw [e, e2])) (Or.inl (Or.inr (Or.inr (Or.inr e))))) (fun k hl ha => ⟨hk k hl (fun e => ha.1 (Or.inl e)) (Or.inr ha.2), ha⟩)

theorem RA.lt {w : World} {pb : Nat} {ts : List TokP} {st : RS} {D O : Nat → Prop} (h : RA w pb ts st D O) {k : Nat} (hk : O k) : k < w.heap.size := by
  obtain ⟨tb, tc, dv, av, bv, h, rfl⟩ := h; exact h.lt hk
theorem RA.own {w : World} {pb : Nat} {ts : List TokP} {st : RS} {D O : Nat → Prop} (h : RA w pb ts st D O) : O pb := by
  obtain ⟨tb, tc, dv, av, bv, h, rfl⟩ := h; exact Or.inl rfl
theorem RA.free {w : World} {pb : Nat} {ts : List TokP} {st : RS} {D O : Nat → Prop} (h : RA w pb ts st D O) {k : Nat} (hk : D k) : k < w.heap.size ∧ ¬ O k := by
  obtain ⟨tb, tc, dv, av, bv, h, rfl⟩ := h; exact h.free k hk
theorem RA.stay {w w' : World} {pb : Nat} {ts : List TokP} {st : RS} {D O : Nat → Prop} (h : RA w pb ts st D O) (hb : Below w.heap.size w w') : RA w' pb ts st D O := by
  obtain ⟨tb, tc, dv, av, bv, h, rfl⟩ := h
  exact ⟨tb, tc, dv, av, bv, h.keep hb.size (fun k hk _ => hb.block k hk), rfl⟩
theorem RA.drew {w : World} {pb : Nat} {ts : List TokP} {st : RS} {D O : Nat → Prop} (h : RA w pb ts st D O) : RA w.drew pb ts st D O := h.stay (Below.refl _ _).drew
theorem RA.drewN {w : World} {pb : Nat} {ts : List TokP} {st : RS} {D O : Nat → Prop} (h : RA w pb ts st D O) (n : Nat) : RA (w.drewN n) pb ts st D O := h.stay (below_drewN (Below.refl _ _) n)
theorem RA.alloc {w : World} {pb : Nat} {ts : List TokP} {st : RS} {D O : Nat → Prop} (h : RA w pb ts st D O) (o : Obj) : RA (w.alloc o) pb ts st D O := h.stay ((Below.refl _ _).alloc (Nat.le_refl _) _)
theorem RA.other {w : World} {pb b : Nat} {ts : List TokP} {st : RS} {D O : Nat → Prop} (h : RA w pb ts st D O) (hb : ¬ O b ∧ ¬ D b) (o : Nat) (v : Value) : RA (w.setCell ⟨b, o, none⟩ v) pb ts st D O := by
  obtain ⟨tb, tc, dv, av, bv, h, rfl⟩ := h
  refine ⟨tb, tc, dv, av, bv, h.keep (by simp [World.setCell]) (fun k _ hk => heap_set_other (fun e => ?_)), rfl⟩
  rcases hk with h1 | h1
  · exact hb.1 ((show k = b from e) ▸ h1)
  · exact hb.2 ((show k = b from e) ▸ h1)

/-- the tokens are as a text gives them -/
structure TsOk (ts : List TokP) : Prop where
  n1 : ts.length ≤ 601
  last : ∀ i (h : i < ts.length), 2 ≤ ts[i].kind → i + 1 < ts.length
  text : ∀ i (h : i < ts.length), ts[i].text.size ≤ 600
structure Ok (ts : List TokP) (st : RS) : Prop where
  next : st.next < ts.length
  page : st.page.length ≤ 700 * st.next
  gap : st.gap.size ≤ 1
theorem tokR_eq {ts : List TokP} {st : RS} (h : st.next < ts.length) : tokR ts st = ts[st.next] := by simp [tokR, h]
theorem tokCells_length (l : List TokP) : (tokCells l).length = 6 * l.length := by
  induction l with
  | nil => rfl
  | cons a l ih => simp [tokCells] at ih ⊢; omega
theorem tokCells_get {l : List TokP} {i : Nat} (h : i < l.length) : (tokCells l)[6 * i]? = some (.int .i64 l[i].kind) ∧ (tokCells l)[6 * i + 1]? = some (.int .i64 l[i].at_) ∧ (tokCells l)[6 * i + 2]? = some (.string l[i].text) ∧ (tokCells l)[6 * i + 3]? = some (.int .i64 l[i].number) ∧ (tokCells l)[6 * i + 4]? = some (.int .i64 l[i].addr) ∧ (tokCells l)[6 * i + 5]? = some (.int .i64 l[i].len) := by
  induction l generalizing i with
  | nil => simp at h
  | cons a l ih =>
    cases i with
    | zero => simp [tokCells]
    | succ i =>
      have := ih (i := i) (by simpa using h)
      simpa [tokCells, Nat.mul_add, Nat.add_right_comm _ 6] using this
end Go.Proofs.YtgdeeodifnegiaaGreatDoor
