/- A tree that is still open: 't.kids = append(t.kids, x)'. -/
import Derived.Test.YtgdeeodifnegiaaGreatDoorRefJ
namespace Go.Proofs.YtgdeeodifnegiaaGreatDoor.rf
open Go.RowKit

mutual
theorem TrAt.keep {Q Q' : Nat → Prop} {w w' : World} (h1 : ∀ k, k < w.heap.size → ¬ Q k → w'.heap[k]? = w.heap[k]?) (h2 : ∀ k, k < w.heap.size → Q' k → Q k) :
    ∀ (t : Tr) (v : Value), TrAt w Q t v → TrAt w' Q' t v
  | .mk op text n a kids, v, h => by
    rw [TrAt] at h ⊢
    obtain ⟨kv, xs, e, ho, hq, ha⟩ := h
    exact ⟨kv, xs, e, owns_of ho (fun k hk => h1 k (ho.lt k hk).2 (hq k hk)), fun k hk hQ => hq k hk (h2 k (ho.lt k hk).2 hQ), AllTr.keep h1 h2 kids xs ha⟩
theorem AllTr.keep {Q Q' : Nat → Prop} {w w' : World} (h1 : ∀ k, k < w.heap.size → ¬ Q k → w'.heap[k]? = w.heap[k]?) (h2 : ∀ k, k < w.heap.size → Q' k → Q k) :
    ∀ (ts : List Tr) (xs : List Value), AllTr w Q ts xs → AllTr w' Q' ts xs
  | [], xs, h => by rw [AllTr] at h ⊢; exact h
  | t :: ts, xs, h => by
    rw [AllTr] at h ⊢
    obtain ⟨a, b, c, d, e, r, ex, ht, hr⟩ := h
    exact ⟨a, b, c, d, e, r, ex, TrAt.keep h1 h2 t _ ht, AllTr.keep h1 h2 ts r hr⟩
end

theorem PA.frame {w w' : World} {pb : Nat} {s : ByteArray} {st : PS} {O : Nat → Prop} (h : PA w pb s st O) (hk : ∀ k, O k → w'.heap[k]? = w.heap[k]?) : PA w' pb s st O := by
  obtain ⟨tv, lv, hp, rfl⟩ := h
  exact ⟨tv, lv, ⟨by rw [hk pb (Or.inl rfl)]; exact hp.blk, owns_of hp.own1 (fun k h => hk k (Or.inr (Or.inl h))), owns_of hp.own2 (fun k h => hk k (Or.inr (Or.inr h))), hp.ne1, hp.ne2, hp.ne3⟩, rfl⟩

/-- a tree to which kids are still being added: its kids' memory is none of its own row either -/
def TrOpen (w : World) (Q : Nat → Prop) (kids : List Tr) (kv : Value) (xs : List Value) : Prop :=
  w.ownsRow 0 115 5 kv kids.length xs ∧ (∀ k, kv.ownBlock = some k → ¬ Q k) ∧ AllTr w (fun k => Q k ∨ kv.ownBlock = some k) kids xs
theorem TrOpen.nil (w : World) (Q : Nat → Prop) : TrOpen w Q [] (.slice none 0 0) [] :=
  ⟨World.ownsRow_nil _ _ _ _, fun k hk => by simp [Value.ownBlock] at hk, by rw [AllTr]⟩
theorem TrOpen.at {w : World} {Q : Nat → Prop} {kids : List Tr} {kv : Value} {xs : List Value} (h : TrOpen w Q kids kv xs) (op text : ByteArray) (n a : Int) : TrAt w Q (.mk op text n a kids) (treeV op text n a kv) := by
  rw [TrAt]
  exact ⟨kv, xs, rfl, h.1, h.2.1, AllTr.keep (fun _ _ _ => rfl) (fun k _ hq => Or.inl hq) _ _ h.2.2⟩
theorem TrOpen.form {w : World} {Q : Nat → Prop} {kids : List Tr} {kv : Value} {xs : List Value} (h : TrOpen w Q kids kv xs) : ∃ o c, kv = .slice o kids.length c := by
  rcases h.1.2 with ⟨e1, e2⟩ | ⟨g, cap, cur, e1, _⟩
  · exact ⟨none, 0, by rw [e1, e2]⟩
  · exact ⟨_, _, e1⟩

/-- behind 't.kids = append(t.kids, x)': t lies in block B, x in a box of its own -/
theorem kid_round {w wr w2 w' : World} {pb B g cap : Nat} {s : ByteArray} {s2 : PS} {O O1 O2 : Nat → Prop} {kids : List Tr} {x : Tr} {xs : List Value} {op text xop xtext : ByteArray} {n a xn xa : Int} {kv xk : Value} {obX obS : Obj}
    (HF : Fr O w O1 wr) (F2 : Fr O1 wr O2 w2) (H2 : PA w2 pb s s2 O2) (Q0 : wr.heap[w.heap.size]? = some (.cells treeZ 115 (0, 0))) (Q1 : wr.heap[B]? = some (.cells (treeCells op text n a kv) 115 (0, 0)))
    (NA : ¬ O1 w.heap.size) (NB : ¬ O1 B) (hB : w.heap.size < B) (TU : TrOpen wr (fun k => O1 k ∨ k ≤ w.heap.size ∨ k = B) kids kv xs) (T3 : TrAt w2 (fun k => O2 k ∨ k < wr.heap.size) x (treeV xop xtext xn xa xk))
    (hgrow : ((w2.alloc obX).alloc obS).grownBy w' kv.ownBlock) (hown : w'.ownsRow 0 115 5 (.slice (some ⟨g, 0, none⟩) (kids.length + 1) cap) (kids.length + 1) (xs ++ [.string xop, .string xtext, .int .i64 xn, .int .i64 xa, xk]))
    (hat : kv.ownBlock = some g ∨ g = w2.heap.size + 2) :
    PA (w'.setCell ⟨B, 4, none⟩ (.slice (some ⟨g, 0, none⟩) (kids.length + 1) cap)) pb s s2 O2 ∧ Fr O w O2 (w'.setCell ⟨B, 4, none⟩ (.slice (some ⟨g, 0, none⟩) (kids.length + 1) cap))
    ∧ (w'.setCell ⟨B, 4, none⟩ (.slice (some ⟨g, 0, none⟩) (kids.length + 1) cap)).heap[w.heap.size]? = some (.cells treeZ 115 (0, 0))
    ∧ (w'.setCell ⟨B, 4, none⟩ (.slice (some ⟨g, 0, none⟩) (kids.length + 1) cap)).heap[B]? = some (.cells (treeCells op text n a (.slice (some ⟨g, 0, none⟩) (kids.length + 1) cap)) 115 (0, 0))
    ∧ ¬ O2 w.heap.size ∧ ¬ O2 B
    ∧ TrOpen (w'.setCell ⟨B, 4, none⟩ (.slice (some ⟨g, 0, none⟩) (kids.length + 1) cap)) (fun k => O2 k ∨ k ≤ w.heap.size ∨ k = B) (kids ++ [x]) (.slice (some ⟨g, 0, none⟩) (kids.length + 1) cap) (xs ++ [.string xop, .string xtext, .int .i64 xn, .int .i64 xa, xk]) := by
  obtain ⟨t1, t2, t3⟩ := TU
  have lB : B < wr.heap.size := heap_lt Q1
  have lR : w.heap.size < wr.heap.size := heap_lt Q0
  have l2 : wr.heap.size ≤ w2.heap.size := F2.size
  have hkv : ∀ k, kv.ownBlock = some k → k < wr.heap.size ∧ ¬ O1 k ∧ w.heap.size < k ∧ k ≠ B := fun k hk => by
    have h1 := (t1.lt k hk).2
    have h2 := t2 k hk
    exact ⟨h1, fun h => h2 (Or.inl h), Nat.lt_of_not_le (fun h => h2 (Or.inr (Or.inl h))), fun h => h2 (Or.inr (Or.inr h))⟩
  have hold : ∀ k, k < w2.heap.size → some k ≠ kv.ownBlock → w'.heap[k]? = w2.heap[k]? := fun k hk hn => by
    rw [hgrow.block k (by simp; omega) hn, Below.heap_alloc _ _ _ (by simp; omega), Below.heap_alloc _ _ _ hk]
  have na : ¬ O2 w.heap.size := fun h => by rcases F2.own _ h with h | h; exact NA h; omega
  have nb : ¬ O2 B := fun h => by rcases F2.own _ h with h | h; exact NB h; omega
  have nkv : ∀ k, kv.ownBlock = some k → ¬ O2 k := fun k hk h => by
    rcases F2.own _ h with h | h
    · exact (hkv k hk).2.1 h
    · have := (hkv k hk).1; omega
  have hgB : g ≠ B := by
    rcases hat with h | h
    · exact (hkv g h).2.2.2
    · omega
  have hgR : w.heap.size < g := by
    rcases hat with h | h
    · exact (hkv g h).2.2.1
    · omega
  have hgO : ¬ O2 g := by
    rcases hat with h | h
    · exact nkv g h
    · intro h3; have := H2.lt h3; omega
  have q0 : w'.heap[w.heap.size]? = some (.cells treeZ 115 (0, 0)) := by
    rw [hold _ (by omega) (fun e => by have := (hkv _ e.symm).2.2.1; omega), F2.block _ lR NA]; exact Q0
  have q1 : w'.heap[B]? = some (.cells (treeCells op text n a kv) 115 (0, 0)) := by
    rw [hold _ (by omega) (fun e => (hkv _ e.symm).2.2.2 rfl), F2.block _ lB NB]; exact Q1
  have hsz : w2.heap.size + 2 ≤ w'.heap.size := by have := hgrow.size; simp at this; omega
  refine ⟨?_, ?_, ?_, ?_, na, nb, ?_, ?_, ?_⟩
  · refine PA.other (H2.frame (fun k hk => hold k (H2.lt hk) (fun e => nkv k e.symm hk))) nb _ _
  · have f1 := HF.trans F2
    have f2 := ((f1.alloc obX).alloc obS).grown hgrow (fun k hk => Or.inr (by have := (hkv k hk).2.2.1; omega))
    exact f2.setCell (Or.inr (by show w.heap.size ≤ B; omega)) _
  · rw [heap_set_other (by show w.heap.size ≠ B; omega)]; exact q0
  · rw [heap_set q1]; rfl
  · rw [List.length_append]
    refine owns_of hown (fun k hk => heap_set_other (fun e => hgB ?_))
    simp [Value.ownBlock] at hk
    rw [hk]; exact e
  · intro k hk
    obtain rfl : g = k := by simpa [Value.ownBlock] using hk
    rintro (h | h | h)
    · exact hgO h
    · omega
    · exact hgB h
  · have hset : ∀ k, k ≠ B → (w'.setCell ⟨B, 4, none⟩ (.slice (some ⟨g, 0, none⟩) (kids.length + 1) cap)).heap[k]? = w'.heap[k]? := fun k hk => heap_set_other hk
    refine AllTr.snoc kids xs x _ _ _ _ _ ?_ ?_
    · refine AllTr.keep (w := wr) (Q := fun k => (O1 k ∨ k ≤ w.heap.size ∨ k = B) ∨ kv.ownBlock = some k) (fun k hk hn => ?_) (fun k hk hq => ?_) kids xs t3
      · rw [hset k (fun e => hn (Or.inl (Or.inr (Or.inr e)))), hold k (by omega) (fun e => hn (Or.inr e.symm)), F2.block k hk (fun h => hn (Or.inl (Or.inl h)))]
      · rcases hq with (h | h | h) | h
        · rcases F2.own k h with h1 | h1
          · exact Or.inl (Or.inl h1)
          · omega
        · exact Or.inl (Or.inr (Or.inl h))
        · exact Or.inl (Or.inr (Or.inr h))
        · obtain rfl : g = k := by simpa [Value.ownBlock] using h
          rcases hat with h | h
          · exact Or.inr h
          · omega
    · refine TrAt.keep (w := w2) (Q := fun k => O2 k ∨ k < wr.heap.size) (fun k hk hn => ?_) (fun k hk hq => ?_) x _ T3
      · have hk2 : wr.heap.size ≤ k := Nat.le_of_not_lt (fun h => hn (Or.inr h))
        rw [hset k (by omega), hold k hk (fun e => by have := (hkv _ e.symm).1; omega)]
      · rcases hq with (h | h | h) | h
        · exact Or.inl h
        · exact Or.inr (by omega)
        · exact Or.inr (by omega)
        · obtain rfl : g = k := by simpa [Value.ownBlock] using h
          rcases hat with h | h
          · exact Or.inr (hkv g h).1
          · omega
end Go.Proofs.YtgdeeodifnegiaaGreatDoor.rf
