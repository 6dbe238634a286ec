/- The book of the lists that came out (package bywaylaw), how it lies, and what a new entry leaves. No walk here. -/
import Derived.Test.YtgdeeodifnegiaaGreatDoorLawD
import Derived.Test.YtgdeeodifnegiaaGreatDoorLawE
namespace Go.Proofs.YtgdeeodifnegiaaGreatDoor
open Go.RowKit

/-- an entry: a list and the three begun at it, its length, its mark -/
structure Rec where
  v0 : Value
  v1 : Value
  v2 : Value
  v3 : Value
  n : Nat
  m : Nat
def Rec.has (r : Rec) (k : Nat) : Prop := r.v0.ownBlock = some k ∨ r.v1.ownBlock = some k ∨ r.v2.ownBlock = some k ∨ r.v3.ownBlock = some k
def recOne (r : Rec) : List Value := [r.v0, r.v1, r.v2, r.v3, .int .i64 r.m]
def recCells (l : List Rec) : List Value := l.flatMap recOne
def recHas (l : List Rec) (k : Nat) : Prop := ∃ r ∈ l, r.has k
structure MkB (W : World) (r : Rec) : Prop where
  m0 : MarkB W r.v0 r.n (markY r.m)
  m1 : MarkB W r.v1 (r.n + 1) (markY r.m)
  m2 : MarkB W r.v2 (r.n + 2) (markY r.m)
  m3 : MarkB W r.v3 (r.n + 3) (markY r.m)
  mb : r.m ≤ 1099511627776
structure MkI (W : World) (r : Rec) : Prop where
  m0 : MarkI W r.v0 r.n (markX r.m)
  m1 : MarkI W r.v1 (r.n + 1) (markX r.m)
  m2 : MarkI W r.v2 (r.n + 2) (markX r.m)
  m3 : MarkI W r.v3 (r.n + 3) (markX r.m)
  mb : r.m ≤ 1099511627776
structure MkN (W : World) (r : Rec) : Prop where
  m0 : MarkN W r.v0 r.n (markN r.m)
  m1 : MarkN W r.v1 (r.n + 1) (markN r.m)
  m2 : MarkN W r.v2 (r.n + 2) (markN r.m)
  m3 : MarkN W r.v3 (r.n + 3) (markN r.m)
  mb : r.m ≤ 1099511627776
theorem MkB.keep {W W' : World} {r : Rec} (h : MkB W r) (hs : W.heap.size ≤ W'.heap.size) (hk : ∀ k, r.has k → W'.heap[k]? = W.heap[k]?) : MkB W' r :=
  ⟨h.m0.of_block hs (fun k e => hk k (Or.inl e)), h.m1.of_block hs (fun k e => hk k (Or.inr (Or.inl e))), h.m2.of_block hs (fun k e => hk k (Or.inr (Or.inr (Or.inl e)))), h.m3.of_block hs (fun k e => hk k (Or.inr (Or.inr (Or.inr e)))), h.mb⟩
theorem MkI.keep {W W' : World} {r : Rec} (h : MkI W r) (hs : W.heap.size ≤ W'.heap.size) (hk : ∀ k, r.has k → W'.heap[k]? = W.heap[k]?) : MkI W' r :=
  ⟨h.m0.of_block hs (fun k e => hk k (Or.inl e)), h.m1.of_block hs (fun k e => hk k (Or.inr (Or.inl e))), h.m2.of_block hs (fun k e => hk k (Or.inr (Or.inr (Or.inl e)))), h.m3.of_block hs (fun k e => hk k (Or.inr (Or.inr (Or.inr e)))), h.mb⟩
theorem MkN.keep {W W' : World} {r : Rec} (h : MkN W r) (hs : W.heap.size ≤ W'.heap.size) (hk : ∀ k, r.has k → W'.heap[k]? = W.heap[k]?) : MkN W' r :=
  ⟨h.m0.of_block hs (fun k e => hk k (Or.inl e)), h.m1.of_block hs (fun k e => hk k (Or.inr (Or.inl e))), h.m2.of_block hs (fun k e => hk k (Or.inr (Or.inr (Or.inl e)))), h.m3.of_block hs (fun k e => hk k (Or.inr (Or.inr (Or.inr e)))), h.mb⟩
/-- the book: its three rows that are in use -/
structure Bk where
  vb : Value
  vi : Value
  vn : Value
  B : List Rec
  I : List Rec
  N : List Rec
  vp : Value
def Bk.O (b : Bk) (wb k : Nat) : Prop := k = wb ∨ b.vb.ownBlock = some k ∨ b.vi.ownBlock = some k ∨ b.vn.ownBlock = some k
def Bk.R (b : Bk) (k : Nat) : Prop := recHas b.B k ∨ recHas b.I k ∨ recHas b.N k
def Bk.cnt (b : Bk) : Nat := b.B.length + b.I.length + b.N.length
def worldC (b : Bk) : Array Value := #[b.vp, .slice none 0 0, b.vb, b.vi, b.vn, .slice none 0 0, .slice none 0 0]
structure BookAt (W : World) (wb : Nat) (b : Bk) : Prop where
  blk : W.heap[wb]? = some (.cells (worldC b) 47 (0, 0))
  ob : W.ownsRow (wb + 1) 65 5 b.vb b.B.length (recCells b.B)
  oi : W.ownsRow (wb + 1) 67 5 b.vi b.I.length (recCells b.I)
  on : W.ownsRow (wb + 1) 69 5 b.vn b.N.length (recCells b.N)
  lb : ∀ r ∈ b.B, MkB W r
  li : ∀ r ∈ b.I, MkI W r
  ln : ∀ r ∈ b.N, MkN W r
  sep : ∀ k, b.R k → ¬ b.O wb k ∧ k < W.heap.size
  abi : Apart b.vb b.vi
  abn : Apart b.vb b.vn
  ain : Apart b.vi b.vn
theorem BookAt.lt {W : World} {wb : Nat} {b : Bk} (h : BookAt W wb b) {k : Nat} (hk : b.O wb k) : k < W.heap.size ∧ wb ≤ k := by
  rcases hk with rfl | e | e | e
  · exact ⟨heap_lt h.blk, Nat.le_refl _⟩
  · have := h.ob.lt k e; exact ⟨this.2, by omega⟩
  · have := h.oi.lt k e; exact ⟨this.2, by omega⟩
  · have := h.on.lt k e; exact ⟨this.2, by omega⟩
theorem BookAt.keep {W W' : World} {wb : Nat} {b : Bk} (h : BookAt W wb b) (hs : W.heap.size ≤ W'.heap.size) (hk : ∀ k, b.O wb k ∨ b.R k → W'.heap[k]? = W.heap[k]?) : BookAt W' wb b :=
  ⟨(hk wb (Or.inl (Or.inl rfl))).trans h.blk, owns_of h.ob (fun k e => hk k (Or.inl (Or.inr (Or.inl e)))), owns_of h.oi (fun k e => hk k (Or.inl (Or.inr (Or.inr (Or.inl e))))), owns_of h.on (fun k e => hk k (Or.inl (Or.inr (Or.inr (Or.inr e))))),
   fun r hr => (h.lb r hr).keep hs (fun k e => hk k (Or.inr (Or.inl ⟨r, hr, e⟩))), fun r hr => (h.li r hr).keep hs (fun k e => hk k (Or.inr (Or.inr (Or.inl ⟨r, hr, e⟩)))), fun r hr => (h.ln r hr).keep hs (fun k e => hk k (Or.inr (Or.inr (Or.inr ⟨r, hr, e⟩)))),
   fun k hr => ⟨(h.sep k hr).1, Nat.lt_of_lt_of_le (h.sep k hr).2 hs⟩, h.abi, h.abn, h.ain⟩
theorem BookAt.below {W W' : World} {wb : Nat} {b : Bk} (h : BookAt W wb b) (hb : Below W.heap.size W W') : BookAt W' wb b :=
  h.keep hb.size (fun k hk => hb.block k (hk.elim (fun e => (h.lt e).1) (fun e => (h.sep k e).2)))
/-- what a new entry leaves -/
structure PutR (wb : Nat) (b b' : Bk) (l : Value) (W W' : World) : Prop where
  os : W'.os = W.os
  tape : W'.tape = W.tape
  output : W'.output = W.output
  size : W.heap.size ≤ W'.heap.size
  block : ∀ k, k < W.heap.size → ¬ b.O wb k → l.ownBlock ≠ some k → W'.heap[k]? = W.heap[k]?
  own : ∀ k, b'.O wb k → b.O wb k ∨ W.heap.size ≤ k
  recs : ∀ k, b'.R k → b.R k ∨ l.ownBlock = some k ∨ W.heap.size ≤ k
  cnt : b'.cnt = b.cnt + 1
  ps : b'.vp = b.vp
/-- the list that is put into the book is no part of it -/
def FreeL (wb : Nat) (b : Bk) (l : Value) : Prop := ∀ k, l.ownBlock = some k → ¬ b.O wb k ∧ ¬ b.R k
theorem PutR.free {wb : Nat} {b b1 : Bk} {l x : Value} {W W' : World} (P : PutR wb b b1 l W W') (hf : FreeL wb b x) (ha : Apart l x) (hx : ∀ k, x.ownBlock = some k → k < W.heap.size) : FreeL wb b1 x := fun k hk =>
  ⟨fun h => (P.own k h).elim (hf k hk).1 (fun h => by have := hx k hk; omega), fun h => by
    rcases P.recs k h with h | h | h
    · exact (hf k hk).2 h
    · exact ha k h hk
    · have := hx k hk; omega⟩
theorem PutR.row {wb : Nat} {b b1 : Bk} {l x : Value} {W W' : World} (P : PutR wb b b1 l W W') (hf : FreeL wb b x) (ha : Apart l x) {base : Nat} {e : TypeId} {size n : Nat} {xs : List Value} (ho : W.ownsRow base e size x n xs) : W'.ownsRow base e size x n xs :=
  owns_of ho (fun k hk => P.block k (ho.lt k hk).2 (hf k hk).1 (fun e => ha k e hk))
theorem MarkI.lt {W : World} {v : Value} {n k : Nat} {x : Int} (h : MarkI W v (n + 1) x) (hk : v.ownBlock = some k) : k < W.heap.size := by
  obtain ⟨⟨p, c, hv, _, _, _, hr⟩, _⟩ := h
  rcases hr with ⟨h, _⟩ | ⟨b, o, hp, hlt, _⟩
  · have := congrArg List.length h; simp at this
  · rw [hv, hp] at hk; have : b = k := by simpa [Value.ownBlock] using hk
    omega
theorem MarkB.lt {W : World} {v : Value} {n k : Nat} {x : Int} (h : MarkB W v (n + 1) x) (hk : v.ownBlock = some k) : k < W.heap.size := by
  obtain ⟨⟨p, c, hv, _, _, _, hr⟩, _⟩ := h
  rcases hr with ⟨h, _⟩ | ⟨b, o, hp, hlt, _⟩
  · have := congrArg List.length h; simp at this
  · rw [hv, hp] at hk; have : b = k := by simpa [Value.ownBlock] using hk
    omega
theorem MarkN.lt {W : World} {v : Value} {n k : Nat} {x : Int × Int} (h : MarkN W v (n + 1) x) (hk : v.ownBlock = some k) : k < W.heap.size := by
  obtain ⟨⟨p, c, hv, _, _, _, hr⟩, _⟩ := h
  rcases hr with ⟨h, _⟩ | ⟨b, o, hp, hlt, _⟩
  · have := congrArg List.length h; simp at this
  · rw [hv, hp] at hk; have : b = k := by simpa [Value.ownBlock] using hk
    omega
theorem recHas_snoc {l : List Rec} {r : Rec} {k : Nat} (h : recHas (l ++ [r]) k) : recHas l k ∨ r.has k := by
  obtain ⟨x, hx, hk⟩ := h
  rcases List.mem_append.1 hx with h1 | h1
  · exact Or.inl ⟨x, h1, hk⟩
  · rw [List.mem_singleton] at h1; subst h1; exact Or.inr hk
theorem recCells_snoc (l : List Rec) (r : Rec) : recCells (l ++ [r]) = recCells l ++ recOne r := by simp [recCells]

theorem BookAt.putI {W W1 X w' : World} {wb g cap n : Nat} {b : Bk} {l v1 v2 v3 : Value} (h : BookAt W wb b) (hf : FreeL wb b l) (hll : ∀ k, l.ownBlock = some k → k < W.heap.size) (hm : b.I.length ≤ 1099511627776)
    (ho : OwnedI W l n b.I.length v1 v2 v3 W1) (hX : Below W1.heap.size W1 X) (hgrow : X.grownBy w' b.vi.ownBlock)
    (hown : w'.ownsRow (wb + 1) 67 5 (.slice (some ⟨g, 0, none⟩) (b.I.length + 1) cap) (b.I.length + 1) (recCells b.I ++ [l, v1, v2, v3, .int .i64 b.I.length])) (hat : b.vi.ownBlock = some g ∨ X.heap.size ≤ g) :
    BookAt (w'.setCell ⟨wb, 3, none⟩ (.slice (some ⟨g, 0, none⟩) (b.I.length + 1) cap)) wb { b with vi := .slice (some ⟨g, 0, none⟩) (b.I.length + 1) cap, I := b.I ++ [⟨l, v1, v2, v3, n, b.I.length⟩] } ∧
      PutR wb b { b with vi := .slice (some ⟨g, 0, none⟩) (b.I.length + 1) cap, I := b.I ++ [⟨l, v1, v2, v3, n, b.I.length⟩] } l W (w'.setCell ⟨wb, 3, none⟩ (.slice (some ⟨g, 0, none⟩) (b.I.length + 1) cap)) := by
  have s1 := ho.fr.size
  have s2 := hX.size
  have s3 := hgrow.size
  have sz : (w'.setCell ⟨wb, 3, none⟩ (.slice (some ⟨g, 0, none⟩) (b.I.length + 1) cap)).heap.size = w'.heap.size := by simp [World.setCell]
  have hg := hown.lt g rfl
  -- what is not the row, not the list and not the world's block stays
  have keep : ∀ k, k < W.heap.size → l.ownBlock ≠ some k → b.vi.ownBlock ≠ some k → k ≠ wb → (w'.setCell ⟨wb, 3, none⟩ (.slice (some ⟨g, 0, none⟩) (b.I.length + 1) cap)).heap[k]? = W.heap[k]? := fun k hk h1 h2 h3 => by
    rw [heap_set_other h3, hgrow.block k (by omega) (fun e => h2 e.symm), hX.block k (by omega), ho.fr.block k hk h1]
  have keep1 : ∀ k, k < W1.heap.size → b.vi.ownBlock ≠ some k → k ≠ wb → (w'.setCell ⟨wb, 3, none⟩ (.slice (some ⟨g, 0, none⟩) (b.I.length + 1) cap)).heap[k]? = W1.heap[k]? := fun k hk h2 h3 => by
    rw [heap_set_other h3, hgrow.block k (by omega) (fun e => h2 e.symm), hX.block k hk]
  have hwbl : l.ownBlock ≠ some wb := fun e => (hf wb e).1 (Or.inl rfl)
  have hwbi : b.vi.ownBlock ≠ some wb := fun e => by have := (h.oi.lt wb e).1; omega
  have hwblt : wb < W.heap.size := heap_lt h.blk
  have old : ∀ r : Rec, (∀ k, r.has k → b.R k) → ∀ k, r.has k → (w'.setCell ⟨wb, 3, none⟩ (.slice (some ⟨g, 0, none⟩) (b.I.length + 1) cap)).heap[k]? = W.heap[k]? := fun r hr k hk =>
    keep k (h.sep k (hr k hk)).2 (fun e => (hf k e).2 (hr k hk)) (fun e => (h.sep k (hr k hk)).1 (Or.inr (Or.inr (Or.inl e)))) (fun e => (h.sep k (hr k hk)).1 (Or.inl e))
  have lvi : ∀ k, b.vi.ownBlock = some k → k < W.heap.size := fun k e => (h.oi.lt k e).2
  have new1 : ∀ (v : Value), (v.ownBlock = l.ownBlock ∨ ∀ k, v.ownBlock = some k → W.heap.size ≤ k) → ∀ k, v.ownBlock = some k → b.vi.ownBlock ≠ some k ∧ k ≠ wb := fun v hv k hk => by
    rcases hv with hv | hv
    · rw [hv] at hk
      exact ⟨fun e => (hf k hk).1 (Or.inr (Or.inr (Or.inl e))), fun e => (hf k hk).1 (Or.inl e)⟩
    · have := hv k hk
      exact ⟨fun e => by have := lvi k e; omega, by omega⟩
  have hnew : MkI (w'.setCell ⟨wb, 3, none⟩ (.slice (some ⟨g, 0, none⟩) (b.I.length + 1) cap)) ⟨l, v1, v2, v3, n, b.I.length⟩ := by
    refine ⟨ho.m0.of_block (by omega) (fun k e => ?_), ho.m1.of_block (by omega) (fun k e => ?_), ho.m2.of_block (by omega) (fun k e => ?_), ho.m3.of_block (by omega) (fun k e => ?_), hm⟩
    · have := new1 l (Or.inl rfl) k e; exact keep1 k (by have := hll k e; omega) this.1 this.2
    · have := new1 v1 ho.b1 k e; exact keep1 k (ho.m1.lt e) this.1 this.2
    · have := new1 v2 ho.b2 k e; exact keep1 k (MarkI.lt (n := n + 1) ho.m2 e) this.1 this.2
    · have := new1 v3 ho.b3 k e; exact keep1 k (MarkI.lt (n := n + 2) ho.m3 e) this.1 this.2
  have hrb : ∀ k, (⟨l, v1, v2, v3, n, b.I.length⟩ : Rec).has k → (l.ownBlock = some k ∨ W.heap.size ≤ k) ∧ k < W1.heap.size := fun k hk => by
    have one : ∀ (v : Value), (v.ownBlock = l.ownBlock ∨ ∀ k, v.ownBlock = some k → W.heap.size ≤ k) → v.ownBlock = some k → (l.ownBlock = some k ∨ W.heap.size ≤ k) := fun v hv e => by
      rcases hv with hv | hv
      · exact Or.inl (by rw [← hv]; exact e)
      · exact Or.inr (hv k e)
    rcases hk with e | e | e | e
    · exact ⟨Or.inl e, by have := hll k e; omega⟩
    · exact ⟨one v1 ho.b1 e, ho.m1.lt e⟩
    · exact ⟨one v2 ho.b2 e, MarkI.lt (n := n + 1) ho.m2 e⟩
    · exact ⟨one v3 ho.b3 e, MarkI.lt (n := n + 2) ho.m3 e⟩
  have ownO : ∀ k, Bk.O { b with vi := .slice (some ⟨g, 0, none⟩) (b.I.length + 1) cap, I := b.I ++ [⟨l, v1, v2, v3, n, b.I.length⟩] } wb k → b.O wb k ∨ X.heap.size ≤ k := fun k hk => by
    rcases hk with e | e | e | e
    · exact Or.inl (Or.inl e)
    · exact Or.inl (Or.inr (Or.inl e))
    · have e2 : g = k := by simpa [Value.ownBlock] using e
      subst e2
      rcases hat with e3 | e3
      · exact Or.inl (Or.inr (Or.inr (Or.inl e3)))
      · exact Or.inr e3
    · exact Or.inl (Or.inr (Or.inr (Or.inr e)))
  have ownR : ∀ k, Bk.R { b with vi := .slice (some ⟨g, 0, none⟩) (b.I.length + 1) cap, I := b.I ++ [⟨l, v1, v2, v3, n, b.I.length⟩] } k → b.R k ∨ (⟨l, v1, v2, v3, n, b.I.length⟩ : Rec).has k := fun k hk => by
    rcases hk with e | e | e
    · exact Or.inl (Or.inl e)
    · rcases recHas_snoc e with e | e
      · exact Or.inl (Or.inr (Or.inl e))
      · exact Or.inr e
    · exact Or.inl (Or.inr (Or.inr e))
  refine ⟨⟨?_, ?_, ?_, ?_, ?_, ?_, ?_, ?_, ?_, ?_, ?_⟩, ⟨?_, ?_, ?_, by omega, ?_, ?_, ?_, ?_, rfl⟩⟩
  · have q : w'.heap[wb]? = some (.cells (worldC b) 47 (0, 0)) := by
      rw [hgrow.block wb (by omega) (fun e => hwbi e.symm), hX.block wb (by omega), ho.fr.block wb hwblt hwbl]; exact h.blk
    rw [heap_set q]; rfl
  · exact owns_of h.ob (fun k e => keep k (h.ob.lt k e).2 (fun e2 => (hf k e2).1 (Or.inr (Or.inl e))) (fun e2 => h.abi k e e2) (by have := (h.ob.lt k e).1; omega))
  · show World.ownsRow _ _ _ _ _ (b.I ++ [_]).length _
    rw [List.length_append, recCells_snoc]
    exact owns_of hown (fun k e => heap_set_other (by have : g = k := by simpa [Value.ownBlock] using e
                                                      simp only; omega))
  · exact owns_of h.on (fun k e => keep k (h.on.lt k e).2 (fun e2 => (hf k e2).1 (Or.inr (Or.inr (Or.inr e)))) (fun e2 => h.ain k e2 e) (by have := (h.on.lt k e).1; omega))
  · exact fun r hr => (h.lb r hr).keep (by omega) (old r (fun k hk => Or.inl ⟨r, hr, hk⟩))
  · intro r hr
    rcases List.mem_append.1 hr with hr | hr
    · exact (h.li r hr).keep (by omega) (old r (fun k hk => Or.inr (Or.inl ⟨r, hr, hk⟩)))
    · rw [List.mem_singleton] at hr; subst hr; exact hnew
  · exact fun r hr => (h.ln r hr).keep (by omega) (old r (fun k hk => Or.inr (Or.inr ⟨r, hr, hk⟩)))
  · intro k hk
    rcases ownR k hk with hr | hr
    · refine ⟨fun e => ?_, by have := (h.sep k hr).2; omega⟩
      rcases ownO k e with e | e
      · exact (h.sep k hr).1 e
      · have := (h.sep k hr).2; omega
    · obtain ⟨h1, h2⟩ := hrb k hr
      refine ⟨fun e => ?_, by omega⟩
      rcases ownO k e with e | e
      · rcases h1 with h1 | h1
        · exact (hf k h1).1 e
        · have := (h.lt e).1; omega
      · omega
  · intro k h1 h2
    have e2 : g = k := by simpa [Value.ownBlock] using h2
    subst e2
    rcases hat with e3 | e3
    · exact h.abi g h1 e3
    · have := (h.ob.lt g h1).2; omega
  · exact h.abn
  · intro k h2 h1
    have e2 : g = k := by simpa [Value.ownBlock] using h2
    subst e2
    rcases hat with e3 | e3
    · exact h.ain g e3 h1
    · have := (h.on.lt g h1).2; omega
  · exact hgrow.os.trans (hX.os.trans ho.fr.os)
  · exact hgrow.tape.trans (hX.tape.trans ho.fr.tape)
  · exact hgrow.output.trans (hX.output.trans ho.fr.output)
  · exact fun k hk hO hl => keep k hk hl (fun e => hO (Or.inr (Or.inr (Or.inl e)))) (fun e => hO (Or.inl e))
  · exact fun k hk => (ownO k hk).imp id (fun e => by omega)
  · intro k hk
    rcases ownR k hk with hr | hr
    · exact Or.inl hr
    · exact Or.inr (hrb k hr).1
  · simp only [Bk.cnt, List.length_append, List.length_singleton]; omega
theorem BookAt.putB {W W1 X w' : World} {wb g cap n : Nat} {b : Bk} {l v1 v2 v3 : Value} (h : BookAt W wb b) (hf : FreeL wb b l) (hll : ∀ k, l.ownBlock = some k → k < W.heap.size) (hm : b.B.length ≤ 1099511627776)
    (ho : OwnedB W l n b.B.length v1 v2 v3 W1) (hX : Below W1.heap.size W1 X) (hgrow : X.grownBy w' b.vb.ownBlock)
    (hown : w'.ownsRow (wb + 1) 65 5 (.slice (some ⟨g, 0, none⟩) (b.B.length + 1) cap) (b.B.length + 1) (recCells b.B ++ [l, v1, v2, v3, .int .i64 b.B.length])) (hat : b.vb.ownBlock = some g ∨ X.heap.size ≤ g) :
    BookAt (w'.setCell ⟨wb, 2, none⟩ (.slice (some ⟨g, 0, none⟩) (b.B.length + 1) cap)) wb { b with vb := .slice (some ⟨g, 0, none⟩) (b.B.length + 1) cap, B := b.B ++ [⟨l, v1, v2, v3, n, b.B.length⟩] } ∧
      PutR wb b { b with vb := .slice (some ⟨g, 0, none⟩) (b.B.length + 1) cap, B := b.B ++ [⟨l, v1, v2, v3, n, b.B.length⟩] } l W (w'.setCell ⟨wb, 2, none⟩ (.slice (some ⟨g, 0, none⟩) (b.B.length + 1) cap)) := by
  have s1 := ho.fr.size
  have s2 := hX.size
  have s3 := hgrow.size
  have sz : (w'.setCell ⟨wb, 2, none⟩ (.slice (some ⟨g, 0, none⟩) (b.B.length + 1) cap)).heap.size = w'.heap.size := by simp [World.setCell]
  have hg := hown.lt g rfl
  -- what is not the row, not the list and not the world's block stays
  have keep : ∀ k, k < W.heap.size → l.ownBlock ≠ some k → b.vb.ownBlock ≠ some k → k ≠ wb → (w'.setCell ⟨wb, 2, none⟩ (.slice (some ⟨g, 0, none⟩) (b.B.length + 1) cap)).heap[k]? = W.heap[k]? := fun k hk h1 h2 h3 => by
    rw [heap_set_other h3, hgrow.block k (by omega) (fun e => h2 e.symm), hX.block k (by omega), ho.fr.block k hk h1]
  have keep1 : ∀ k, k < W1.heap.size → b.vb.ownBlock ≠ some k → k ≠ wb → (w'.setCell ⟨wb, 2, none⟩ (.slice (some ⟨g, 0, none⟩) (b.B.length + 1) cap)).heap[k]? = W1.heap[k]? := fun k hk h2 h3 => by
    rw [heap_set_other h3, hgrow.block k (by omega) (fun e => h2 e.symm), hX.block k hk]
  have hwbl : l.ownBlock ≠ some wb := fun e => (hf wb e).1 (Or.inl rfl)
  have hwbi : b.vb.ownBlock ≠ some wb := fun e => by have := (h.ob.lt wb e).1; omega
  have hwblt : wb < W.heap.size := heap_lt h.blk
  have old : ∀ r : Rec, (∀ k, r.has k → b.R k) → ∀ k, r.has k → (w'.setCell ⟨wb, 2, none⟩ (.slice (some ⟨g, 0, none⟩) (b.B.length + 1) cap)).heap[k]? = W.heap[k]? := fun r hr k hk =>
    keep k (h.sep k (hr k hk)).2 (fun e => (hf k e).2 (hr k hk)) (fun e => (h.sep k (hr k hk)).1 (Or.inr (Or.inl e))) (fun e => (h.sep k (hr k hk)).1 (Or.inl e))
  have lvi : ∀ k, b.vb.ownBlock = some k → k < W.heap.size := fun k e => (h.ob.lt k e).2
  have new1 : ∀ (v : Value), (v.ownBlock = l.ownBlock ∨ ∀ k, v.ownBlock = some k → W.heap.size ≤ k) → ∀ k, v.ownBlock = some k → b.vb.ownBlock ≠ some k ∧ k ≠ wb := fun v hv k hk => by
    rcases hv with hv | hv
    · rw [hv] at hk
      exact ⟨fun e => (hf k hk).1 (Or.inr (Or.inl e)), fun e => (hf k hk).1 (Or.inl e)⟩
    · have := hv k hk
      exact ⟨fun e => by have := lvi k e; omega, by omega⟩
  have hnew : MkB (w'.setCell ⟨wb, 2, none⟩ (.slice (some ⟨g, 0, none⟩) (b.B.length + 1) cap)) ⟨l, v1, v2, v3, n, b.B.length⟩ := by
    refine ⟨ho.m0.of_block (by omega) (fun k e => ?_), ho.m1.of_block (by omega) (fun k e => ?_), ho.m2.of_block (by omega) (fun k e => ?_), ho.m3.of_block (by omega) (fun k e => ?_), hm⟩
    · have := new1 l (Or.inl rfl) k e; exact keep1 k (by have := hll k e; omega) this.1 this.2
    · have := new1 v1 ho.b1 k e; exact keep1 k (ho.m1.lt e) this.1 this.2
    · have := new1 v2 ho.b2 k e; exact keep1 k (MarkB.lt (n := n + 1) ho.m2 e) this.1 this.2
    · have := new1 v3 ho.b3 k e; exact keep1 k (MarkB.lt (n := n + 2) ho.m3 e) this.1 this.2
  have hrb : ∀ k, (⟨l, v1, v2, v3, n, b.B.length⟩ : Rec).has k → (l.ownBlock = some k ∨ W.heap.size ≤ k) ∧ k < W1.heap.size := fun k hk => by
    have one : ∀ (v : Value), (v.ownBlock = l.ownBlock ∨ ∀ k, v.ownBlock = some k → W.heap.size ≤ k) → v.ownBlock = some k → (l.ownBlock = some k ∨ W.heap.size ≤ k) := fun v hv e => by
      rcases hv with hv | hv
      · exact Or.inl (by rw [← hv]; exact e)
      · exact Or.inr (hv k e)
    rcases hk with e | e | e | e
    · exact ⟨Or.inl e, by have := hll k e; omega⟩
    · exact ⟨one v1 ho.b1 e, ho.m1.lt e⟩
    · exact ⟨one v2 ho.b2 e, MarkB.lt (n := n + 1) ho.m2 e⟩
    · exact ⟨one v3 ho.b3 e, MarkB.lt (n := n + 2) ho.m3 e⟩
  have ownO : ∀ k, Bk.O { b with vb := .slice (some ⟨g, 0, none⟩) (b.B.length + 1) cap, B := b.B ++ [⟨l, v1, v2, v3, n, b.B.length⟩] } wb k → b.O wb k ∨ X.heap.size ≤ k := fun k hk => by
    rcases hk with e | e | e | e
    · exact Or.inl (Or.inl e)
    · have e2 : g = k := by simpa [Value.ownBlock] using e
      subst e2
      rcases hat with e3 | e3
      · exact Or.inl (Or.inr (Or.inl e3))
      · exact Or.inr e3
    · exact Or.inl (Or.inr (Or.inr (Or.inl e)))
    · exact Or.inl (Or.inr (Or.inr (Or.inr e)))
  have ownR : ∀ k, Bk.R { b with vb := .slice (some ⟨g, 0, none⟩) (b.B.length + 1) cap, B := b.B ++ [⟨l, v1, v2, v3, n, b.B.length⟩] } k → b.R k ∨ (⟨l, v1, v2, v3, n, b.B.length⟩ : Rec).has k := fun k hk => by
    rcases hk with e | e | e
    · rcases recHas_snoc e with e | e
      · exact Or.inl (Or.inl e)
      · exact Or.inr e
    · exact Or.inl (Or.inr (Or.inl e))
    · exact Or.inl (Or.inr (Or.inr e))
  refine ⟨⟨?_, ?_, ?_, ?_, ?_, ?_, ?_, ?_, ?_, ?_, ?_⟩, ⟨?_, ?_, ?_, by omega, ?_, ?_, ?_, ?_, rfl⟩⟩
  · have q : w'.heap[wb]? = some (.cells (worldC b) 47 (0, 0)) := by
      rw [hgrow.block wb (by omega) (fun e => hwbi e.symm), hX.block wb (by omega), ho.fr.block wb hwblt hwbl]; exact h.blk
    rw [heap_set q]; rfl
  · show World.ownsRow _ _ _ _ _ (b.B ++ [_]).length _
    rw [List.length_append, recCells_snoc]
    exact owns_of hown (fun k e => heap_set_other (by have : g = k := by simpa [Value.ownBlock] using e
                                                      simp only; omega))
  · exact owns_of h.oi (fun k e => keep k (h.oi.lt k e).2 (fun e2 => (hf k e2).1 (Or.inr (Or.inr (Or.inl e)))) (fun e2 => h.abi k e2 e) (by have := (h.oi.lt k e).1; omega))
  · exact owns_of h.on (fun k e => keep k (h.on.lt k e).2 (fun e2 => (hf k e2).1 (Or.inr (Or.inr (Or.inr e)))) (fun e2 => h.abn k e2 e) (by have := (h.on.lt k e).1; omega))
  · intro r hr
    rcases List.mem_append.1 hr with hr | hr
    · exact (h.lb r hr).keep (by omega) (old r (fun k hk => Or.inl ⟨r, hr, hk⟩))
    · rw [List.mem_singleton] at hr; subst hr; exact hnew
  · exact fun r hr => (h.li r hr).keep (by omega) (old r (fun k hk => Or.inr (Or.inl ⟨r, hr, hk⟩)))
  · exact fun r hr => (h.ln r hr).keep (by omega) (old r (fun k hk => Or.inr (Or.inr ⟨r, hr, hk⟩)))
  · intro k hk
    rcases ownR k hk with hr | hr
    · refine ⟨fun e => ?_, by have := (h.sep k hr).2; omega⟩
      rcases ownO k e with e | e
      · exact (h.sep k hr).1 e
      · have := (h.sep k hr).2; omega
    · obtain ⟨h1, h2⟩ := hrb k hr
      refine ⟨fun e => ?_, by omega⟩
      rcases ownO k e with e | e
      · rcases h1 with h1 | h1
        · exact (hf k h1).1 e
        · have := (h.lt e).1; omega
      · omega
  · intro k h2 h1
    have e2 : g = k := by simpa [Value.ownBlock] using h2
    subst e2
    rcases hat with e3 | e3
    · exact h.abi g e3 h1
    · have := (h.oi.lt g h1).2; omega
  · intro k h2 h1
    have e2 : g = k := by simpa [Value.ownBlock] using h2
    subst e2
    rcases hat with e3 | e3
    · exact h.abn g e3 h1
    · have := (h.on.lt g h1).2; omega
  · exact h.ain
  · exact hgrow.os.trans (hX.os.trans ho.fr.os)
  · exact hgrow.tape.trans (hX.tape.trans ho.fr.tape)
  · exact hgrow.output.trans (hX.output.trans ho.fr.output)
  · exact fun k hk hO hl => keep k hk hl (fun e => hO (Or.inr (Or.inl e))) (fun e => hO (Or.inl e))
  · exact fun k hk => (ownO k hk).imp id (fun e => by omega)
  · intro k hk
    rcases ownR k hk with hr | hr
    · exact Or.inl hr
    · exact Or.inr (hrb k hr).1
  · simp only [Bk.cnt, List.length_append, List.length_singleton]; omega
theorem BookAt.putN {W W1 X w' : World} {wb g cap n : Nat} {b : Bk} {l v1 v2 v3 : Value} (h : BookAt W wb b) (hf : FreeL wb b l) (hll : ∀ k, l.ownBlock = some k → k < W.heap.size) (hm : b.N.length ≤ 1099511627776)
    (ho : OwnedN W l n b.N.length v1 v2 v3 W1) (hX : Below W1.heap.size W1 X) (hgrow : X.grownBy w' b.vn.ownBlock)
    (hown : w'.ownsRow (wb + 1) 69 5 (.slice (some ⟨g, 0, none⟩) (b.N.length + 1) cap) (b.N.length + 1) (recCells b.N ++ [l, v1, v2, v3, .int .i64 b.N.length])) (hat : b.vn.ownBlock = some g ∨ X.heap.size ≤ g) :
    BookAt (w'.setCell ⟨wb, 4, none⟩ (.slice (some ⟨g, 0, none⟩) (b.N.length + 1) cap)) wb { b with vn := .slice (some ⟨g, 0, none⟩) (b.N.length + 1) cap, N := b.N ++ [⟨l, v1, v2, v3, n, b.N.length⟩] } ∧
      PutR wb b { b with vn := .slice (some ⟨g, 0, none⟩) (b.N.length + 1) cap, N := b.N ++ [⟨l, v1, v2, v3, n, b.N.length⟩] } l W (w'.setCell ⟨wb, 4, none⟩ (.slice (some ⟨g, 0, none⟩) (b.N.length + 1) cap)) := by
  have s1 := ho.fr.size
  have s2 := hX.size
  have s3 := hgrow.size
  have sz : (w'.setCell ⟨wb, 4, none⟩ (.slice (some ⟨g, 0, none⟩) (b.N.length + 1) cap)).heap.size = w'.heap.size := by simp [World.setCell]
  have hg := hown.lt g rfl
  -- what is not the row, not the list and not the world's block stays
  have keep : ∀ k, k < W.heap.size → l.ownBlock ≠ some k → b.vn.ownBlock ≠ some k → k ≠ wb → (w'.setCell ⟨wb, 4, none⟩ (.slice (some ⟨g, 0, none⟩) (b.N.length + 1) cap)).heap[k]? = W.heap[k]? := fun k hk h1 h2 h3 => by
    rw [heap_set_other h3, hgrow.block k (by omega) (fun e => h2 e.symm), hX.block k (by omega), ho.fr.block k hk h1]
  have keep1 : ∀ k, k < W1.heap.size → b.vn.ownBlock ≠ some k → k ≠ wb → (w'.setCell ⟨wb, 4, none⟩ (.slice (some ⟨g, 0, none⟩) (b.N.length + 1) cap)).heap[k]? = W1.heap[k]? := fun k hk h2 h3 => by
    rw [heap_set_other h3, hgrow.block k (by omega) (fun e => h2 e.symm), hX.block k hk]
  have hwbl : l.ownBlock ≠ some wb := fun e => (hf wb e).1 (Or.inl rfl)
  have hwbi : b.vn.ownBlock ≠ some wb := fun e => by have := (h.on.lt wb e).1; omega
  have hwblt : wb < W.heap.size := heap_lt h.blk
  have old : ∀ r : Rec, (∀ k, r.has k → b.R k) → ∀ k, r.has k → (w'.setCell ⟨wb, 4, none⟩ (.slice (some ⟨g, 0, none⟩) (b.N.length + 1) cap)).heap[k]? = W.heap[k]? := fun r hr k hk =>
    keep k (h.sep k (hr k hk)).2 (fun e => (hf k e).2 (hr k hk)) (fun e => (h.sep k (hr k hk)).1 (Or.inr (Or.inr (Or.inr e)))) (fun e => (h.sep k (hr k hk)).1 (Or.inl e))
  have lvi : ∀ k, b.vn.ownBlock = some k → k < W.heap.size := fun k e => (h.on.lt k e).2
  have new1 : ∀ (v : Value), (v.ownBlock = l.ownBlock ∨ ∀ k, v.ownBlock = some k → W.heap.size ≤ k) → ∀ k, v.ownBlock = some k → b.vn.ownBlock ≠ some k ∧ k ≠ wb := fun v hv k hk => by
    rcases hv with hv | hv
    · rw [hv] at hk
      exact ⟨fun e => (hf k hk).1 (Or.inr (Or.inr (Or.inr e))), fun e => (hf k hk).1 (Or.inl e)⟩
    · have := hv k hk
      exact ⟨fun e => by have := lvi k e; omega, by omega⟩
  have hnew : MkN (w'.setCell ⟨wb, 4, none⟩ (.slice (some ⟨g, 0, none⟩) (b.N.length + 1) cap)) ⟨l, v1, v2, v3, n, b.N.length⟩ := by
    refine ⟨ho.m0.of_block (by omega) (fun k e => ?_), ho.m1.of_block (by omega) (fun k e => ?_), ho.m2.of_block (by omega) (fun k e => ?_), ho.m3.of_block (by omega) (fun k e => ?_), hm⟩
    · have := new1 l (Or.inl rfl) k e; exact keep1 k (by have := hll k e; omega) this.1 this.2
    · have := new1 v1 ho.b1 k e; exact keep1 k (ho.m1.lt e) this.1 this.2
    · have := new1 v2 ho.b2 k e; exact keep1 k (MarkN.lt (n := n + 1) ho.m2 e) this.1 this.2
    · have := new1 v3 ho.b3 k e; exact keep1 k (MarkN.lt (n := n + 2) ho.m3 e) this.1 this.2
  have hrb : ∀ k, (⟨l, v1, v2, v3, n, b.N.length⟩ : Rec).has k → (l.ownBlock = some k ∨ W.heap.size ≤ k) ∧ k < W1.heap.size := fun k hk => by
    have one : ∀ (v : Value), (v.ownBlock = l.ownBlock ∨ ∀ k, v.ownBlock = some k → W.heap.size ≤ k) → v.ownBlock = some k → (l.ownBlock = some k ∨ W.heap.size ≤ k) := fun v hv e => by
      rcases hv with hv | hv
      · exact Or.inl (by rw [← hv]; exact e)
      · exact Or.inr (hv k e)
    rcases hk with e | e | e | e
    · exact ⟨Or.inl e, by have := hll k e; omega⟩
    · exact ⟨one v1 ho.b1 e, ho.m1.lt e⟩
    · exact ⟨one v2 ho.b2 e, MarkN.lt (n := n + 1) ho.m2 e⟩
    · exact ⟨one v3 ho.b3 e, MarkN.lt (n := n + 2) ho.m3 e⟩
  have ownO : ∀ k, Bk.O { b with vn := .slice (some ⟨g, 0, none⟩) (b.N.length + 1) cap, N := b.N ++ [⟨l, v1, v2, v3, n, b.N.length⟩] } wb k → b.O wb k ∨ X.heap.size ≤ k := fun k hk => by
    rcases hk with e | e | e | e
    · exact Or.inl (Or.inl e)
    · exact Or.inl (Or.inr (Or.inl e))
    · exact Or.inl (Or.inr (Or.inr (Or.inl e)))
    · have e2 : g = k := by simpa [Value.ownBlock] using e
      subst e2
      rcases hat with e3 | e3
      · exact Or.inl (Or.inr (Or.inr (Or.inr e3)))
      · exact Or.inr e3
  have ownR : ∀ k, Bk.R { b with vn := .slice (some ⟨g, 0, none⟩) (b.N.length + 1) cap, N := b.N ++ [⟨l, v1, v2, v3, n, b.N.length⟩] } k → b.R k ∨ (⟨l, v1, v2, v3, n, b.N.length⟩ : Rec).has k := fun k hk => by
    rcases hk with e | e | e
    · exact Or.inl (Or.inl e)
    · exact Or.inl (Or.inr (Or.inl e))
    · rcases recHas_snoc e with e | e
      · exact Or.inl (Or.inr (Or.inr e))
      · exact Or.inr e
  refine ⟨⟨?_, ?_, ?_, ?_, ?_, ?_, ?_, ?_, ?_, ?_, ?_⟩, ⟨?_, ?_, ?_, by omega, ?_, ?_, ?_, ?_, rfl⟩⟩
  · have q : w'.heap[wb]? = some (.cells (worldC b) 47 (0, 0)) := by
      rw [hgrow.block wb (by omega) (fun e => hwbi e.symm), hX.block wb (by omega), ho.fr.block wb hwblt hwbl]; exact h.blk
    rw [heap_set q]; rfl
  · exact owns_of h.ob (fun k e => keep k (h.ob.lt k e).2 (fun e2 => (hf k e2).1 (Or.inr (Or.inl e))) (fun e2 => h.abn k e e2) (by have := (h.ob.lt k e).1; omega))
  · exact owns_of h.oi (fun k e => keep k (h.oi.lt k e).2 (fun e2 => (hf k e2).1 (Or.inr (Or.inr (Or.inl e)))) (fun e2 => h.ain k e e2) (by have := (h.oi.lt k e).1; omega))
  · show World.ownsRow _ _ _ _ _ (b.N ++ [_]).length _
    rw [List.length_append, recCells_snoc]
    exact owns_of hown (fun k e => heap_set_other (by have : g = k := by simpa [Value.ownBlock] using e
                                                      simp only; omega))
  · exact fun r hr => (h.lb r hr).keep (by omega) (old r (fun k hk => Or.inl ⟨r, hr, hk⟩))
  · exact fun r hr => (h.li r hr).keep (by omega) (old r (fun k hk => Or.inr (Or.inl ⟨r, hr, hk⟩)))
  · intro r hr
    rcases List.mem_append.1 hr with hr | hr
    · exact (h.ln r hr).keep (by omega) (old r (fun k hk => Or.inr (Or.inr ⟨r, hr, hk⟩)))
    · rw [List.mem_singleton] at hr; subst hr; exact hnew
  · intro k hk
    rcases ownR k hk with hr | hr
    · refine ⟨fun e => ?_, by have := (h.sep k hr).2; omega⟩
      rcases ownO k e with e | e
      · exact (h.sep k hr).1 e
      · have := (h.sep k hr).2; omega
    · obtain ⟨h1, h2⟩ := hrb k hr
      refine ⟨fun e => ?_, by omega⟩
      rcases ownO k e with e | e
      · rcases h1 with h1 | h1
        · exact (hf k h1).1 e
        · have := (h.lt e).1; omega
      · omega
  · exact h.abi
  · intro k h1 h2
    have e2 : g = k := by simpa [Value.ownBlock] using h2
    subst e2
    rcases hat with e3 | e3
    · exact h.abn g h1 e3
    · have := (h.ob.lt g h1).2; omega
  · intro k h1 h2
    have e2 : g = k := by simpa [Value.ownBlock] using h2
    subst e2
    rcases hat with e3 | e3
    · exact h.ain g h1 e3
    · have := (h.oi.lt g h1).2; omega
  · exact hgrow.os.trans (hX.os.trans ho.fr.os)
  · exact hgrow.tape.trans (hX.tape.trans ho.fr.tape)
  · exact hgrow.output.trans (hX.output.trans ho.fr.output)
  · exact fun k hk hO hl => keep k hk hl (fun e => hO (Or.inr (Or.inr (Or.inr e)))) (fun e => hO (Or.inl e))
  · exact fun k hk => (ownO k hk).imp id (fun e => by omega)
  · intro k hk
    rcases ownR k hk with hr | hr
    · exact Or.inl hr
    · exact Or.inr (hrb k hr).1
  · simp only [Bk.cnt, List.length_append, List.length_singleton]; omega
end Go.Proofs.YtgdeeodifnegiaaGreatDoor
