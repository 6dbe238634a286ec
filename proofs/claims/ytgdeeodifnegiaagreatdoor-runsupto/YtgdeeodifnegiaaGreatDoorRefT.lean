/- Two kids at once. -/
import Derived.Test.YtgdeeodifnegiaaGreatDoorRefS
namespace Go.Proofs.YtgdeeodifnegiaaGreatDoor.rf
open Go.RowKit

/-- behind 't.kids = append(t.kids, x)': t lies in block B, x in a box of its own -/
theorem kid_round2 {w wr w2 w' : World} {pb B g cap : Nat} {s : ByteArray} {s2 : PS} {O O1 O2 : Nat → Prop} {kids : List Tr} {x y : Tr} {xs : List Value} {op text xop xtext yop ytext : ByteArray} {n a xn xa yn ya : Int} {kv xk yk : Value} {obS : Obj}
    (HF : Fr O w O1 wr) (F2 : Fr O1 wr O2 w2) (H2 : PA w2 pb s s2 O2) (Q0 : wr.heap[w.heap.size]? = some (.cells treeZ 115 (0, 0))) (Q1 : wr.heap[B]? = some (.cells (treeCells op text n a kv) 115 (0, 0)))
    (NA : ¬ O1 w.heap.size) (NB : ¬ O1 B) (hB : w.heap.size < B) (TU : TrOpen wr (fun k => O1 k ∨ k ≤ w.heap.size ∨ k = B) kids kv xs) (T3 : TrAt w2 (fun k => O2 k ∨ k < wr.heap.size) x (treeV xop xtext xn xa xk)) (T4 : TrAt w2 (fun k => O2 k ∨ k < wr.heap.size) y (treeV yop ytext yn ya yk))
    (hgrow : (w2.alloc obS).grownBy w' kv.ownBlock) (hown : w'.ownsRow 0 115 5 (.slice (some ⟨g, 0, none⟩) (kids.length + 2) cap) (kids.length + 2) (xs ++ [.string xop, .string xtext, .int .i64 xn, .int .i64 xa, xk, .string yop, .string ytext, .int .i64 yn, .int .i64 ya, yk]))
    (hat : kv.ownBlock = some g ∨ g = w2.heap.size + 1) :
    PA (w'.setCell ⟨B, 4, none⟩ (.slice (some ⟨g, 0, none⟩) (kids.length + 2) cap)) pb s s2 O2 ∧ Fr O w O2 (w'.setCell ⟨B, 4, none⟩ (.slice (some ⟨g, 0, none⟩) (kids.length + 2) cap))
    ∧ (w'.setCell ⟨B, 4, none⟩ (.slice (some ⟨g, 0, none⟩) (kids.length + 2) cap)).heap[w.heap.size]? = some (.cells treeZ 115 (0, 0))
    ∧ (w'.setCell ⟨B, 4, none⟩ (.slice (some ⟨g, 0, none⟩) (kids.length + 2) cap)).heap[B]? = some (.cells (treeCells op text n a (.slice (some ⟨g, 0, none⟩) (kids.length + 2) cap)) 115 (0, 0))
    ∧ ¬ O2 w.heap.size ∧ ¬ O2 B
    ∧ TrOpen (w'.setCell ⟨B, 4, none⟩ (.slice (some ⟨g, 0, none⟩) (kids.length + 2) cap)) (fun k => O2 k ∨ k ≤ w.heap.size ∨ k = B) (kids ++ [x, y]) (.slice (some ⟨g, 0, none⟩) (kids.length + 2) cap) (xs ++ [.string xop, .string xtext, .int .i64 xn, .int .i64 xa, xk, .string yop, .string ytext, .int .i64 yn, .int .i64 ya, yk]) := by
  obtain ⟨t1, t2, t3⟩ := TU
  have lB : B < wr.heap.size := heap_lt Q1
  have lR : w.heap.size < wr.heap.size := heap_lt Q0
  have l2 : wr.heap.size ≤ w2.heap.size := F2.size
  have hkv : ∀ k, kv.ownBlock = some k → k < wr.heap.size ∧ ¬ O1 k ∧ w.heap.size < k ∧ k ≠ B := fun k hk => by
    have h1 := (t1.lt k hk).2
    have h2 := t2 k hk
    exact ⟨h1, fun h => h2 (Or.inl h), Nat.lt_of_not_le (fun h => h2 (Or.inr (Or.inl h))), fun h => h2 (Or.inr (Or.inr h))⟩
  have hold : ∀ k, k < w2.heap.size → some k ≠ kv.ownBlock → w'.heap[k]? = w2.heap[k]? := fun k hk hn => by
    rw [hgrow.block k (by simp; omega) hn, Below.heap_alloc _ _ _ hk]
  have na : ¬ O2 w.heap.size := fun h => by rcases F2.own _ h with h | h; exact NA h; omega
  have nb : ¬ O2 B := fun h => by rcases F2.own _ h with h | h; exact NB h; omega
  have nkv : ∀ k, kv.ownBlock = some k → ¬ O2 k := fun k hk h => by
    rcases F2.own _ h with h | h
    · exact (hkv k hk).2.1 h
    · have := (hkv k hk).1; omega
  have hgB : g ≠ B := by
    rcases hat with h | h
    · exact (hkv g h).2.2.2
    · omega
  have hgR : w.heap.size < g := by
    rcases hat with h | h
    · exact (hkv g h).2.2.1
    · omega
  have hgO : ¬ O2 g := by
    rcases hat with h | h
    · exact nkv g h
    · intro h3; have := H2.lt h3; omega
  have q0 : w'.heap[w.heap.size]? = some (.cells treeZ 115 (0, 0)) := by
    rw [hold _ (by omega) (fun e => by have := (hkv _ e.symm).2.2.1; omega), F2.block _ lR NA]; exact Q0
  have q1 : w'.heap[B]? = some (.cells (treeCells op text n a kv) 115 (0, 0)) := by
    rw [hold _ (by omega) (fun e => (hkv _ e.symm).2.2.2 rfl), F2.block _ lB NB]; exact Q1
  have hsz : w2.heap.size + 1 ≤ w'.heap.size := by have := hgrow.size; simp at this; omega
  refine ⟨?_, ?_, ?_, ?_, na, nb, ?_, ?_, ?_⟩
  · refine PA.other (H2.frame (fun k hk => hold k (H2.lt hk) (fun e => nkv k e.symm hk))) nb _ _
  · have f1 := HF.trans F2
    have f2 := (f1.alloc obS).grown hgrow (fun k hk => Or.inr (by have := (hkv k hk).2.2.1; omega))
    exact f2.setCell (Or.inr (by show w.heap.size ≤ B; omega)) _
  · rw [heap_set_other (by show w.heap.size ≠ B; omega)]; exact q0
  · rw [heap_set q1]; rfl
  · rw [List.length_append]
    refine owns_of hown (fun k hk => heap_set_other (fun e => hgB ?_))
    simp [Value.ownBlock] at hk
    rw [hk]; exact e
  · intro k hk
    obtain rfl : g = k := by simpa [Value.ownBlock] using hk
    rintro (h | h | h)
    · exact hgO h
    · omega
    · exact hgB h
  · have hset : ∀ k, k ≠ B → (w'.setCell ⟨B, 4, none⟩ (.slice (some ⟨g, 0, none⟩) (kids.length + 2) cap)).heap[k]? = w'.heap[k]? := fun k hk => heap_set_other hk
    have e1 : xs ++ [.string xop, .string xtext, .int .i64 xn, .int .i64 xa, xk, .string yop, .string ytext, .int .i64 yn, .int .i64 ya, yk] = (xs ++ [.string xop, .string xtext, .int .i64 xn, .int .i64 xa, xk]) ++ [.string yop, .string ytext, .int .i64 yn, .int .i64 ya, yk] := by simp
    have e2 : kids ++ [x, y] = (kids ++ [x]) ++ [y] := by simp
    rw [e1, e2]
    refine AllTr.snoc _ _ y _ _ _ _ _ (AllTr.snoc kids xs x _ _ _ _ _ ?_ ?_) ?_
    · refine AllTr.keep (w := wr) (Q := fun k => (O1 k ∨ k ≤ w.heap.size ∨ k = B) ∨ kv.ownBlock = some k) (fun k hk hn => ?_) (fun k hk hq => ?_) kids xs t3
      · rw [hset k (fun e => hn (Or.inl (Or.inr (Or.inr e)))), hold k (by omega) (fun e => hn (Or.inr e.symm)), F2.block k hk (fun h => hn (Or.inl (Or.inl h)))]
      · rcases hq with (h | h | h) | h
        · rcases F2.own k h with h1 | h1
          · exact Or.inl (Or.inl h1)
          · omega
        · exact Or.inl (Or.inr (Or.inl h))
        · exact Or.inl (Or.inr (Or.inr h))
        · obtain rfl : g = k := by simpa [Value.ownBlock] using h
          rcases hat with h | h
          · exact Or.inr h
          · omega
    · refine TrAt.keep (w := w2) (Q := fun k => O2 k ∨ k < wr.heap.size) (fun k hk hn => ?_) (fun k hk hq => ?_) x _ T3
      · have hk2 : wr.heap.size ≤ k := Nat.le_of_not_lt (fun h => hn (Or.inr h))
        rw [hset k (by omega), hold k hk (fun e => by have := (hkv _ e.symm).1; omega)]
      · rcases hq with (h | h | h) | h
        · exact Or.inl h
        · exact Or.inr (by omega)
        · exact Or.inr (by omega)
        · obtain rfl : g = k := by simpa [Value.ownBlock] using h
          rcases hat with h | h
          · exact Or.inr (hkv g h).1
          · omega
    · refine TrAt.keep (w := w2) (Q := fun k => O2 k ∨ k < wr.heap.size) (fun k hk hn => ?_) (fun k hk hq => ?_) y _ T4
      · have hk2 : wr.heap.size ≤ k := Nat.le_of_not_lt (fun h => hn (Or.inr h))
        rw [hset k (by omega), hold k hk (fun e => by have := (hkv _ e.symm).1; omega)]
      · rcases hq with (h | h | h) | h
        · exact Or.inl h
        · exact Or.inr (by omega)
        · exact Or.inr (by omega)
        · obtain rfl : g = k := by simpa [Value.ownBlock] using h
          rcases hat with h | h
          · exact Or.inr (hkv g h).1
          · omega
end Go.Proofs.YtgdeeodifnegiaaGreatDoor.rf
