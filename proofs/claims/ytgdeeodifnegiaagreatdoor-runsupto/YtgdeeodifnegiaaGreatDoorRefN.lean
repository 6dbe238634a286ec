/- What the reference's row does with a tree in a box: it is put under a sign; it becomes a kid. -/
import Derived.Test.YtgdeeodifnegiaaGreatDoorRefM
namespace Go.Proofs.YtgdeeodifnegiaaGreatDoor.rf
open Go.RowKit

/-- behind 't.kids = append(t.kids, x)': t lies in block B, x in a box of its own -/
theorem kid_round1 {w wr w2 w' : World} {pb B g cap : Nat} {s : ByteArray} {s2 : PS} {O O1 O2 : Nat → Prop} {kids : List Tr} {x : Tr} {xs : List Value} {op text xop xtext : ByteArray} {n a xn xa : Int} {kv xk : Value} {obS : Obj}
    (HF : Fr O w O1 wr) (F2 : Fr O1 wr O2 w2) (H2 : PA w2 pb s s2 O2) (Q0 : wr.heap[w.heap.size]? = some (.cells treeZ 115 (0, 0))) (Q1 : wr.heap[B]? = some (.cells (treeCells op text n a kv) 115 (0, 0)))
    (NA : ¬ O1 w.heap.size) (NB : ¬ O1 B) (hB : w.heap.size < B) (TU : TrOpen wr (fun k => O1 k ∨ k ≤ w.heap.size ∨ k = B) kids kv xs) (T3 : TrAt w2 (fun k => O2 k ∨ k < wr.heap.size) x (treeV xop xtext xn xa xk))
    (hgrow : (w2.alloc obS).grownBy w' kv.ownBlock) (hown : w'.ownsRow 0 115 5 (.slice (some ⟨g, 0, none⟩) (kids.length + 1) cap) (kids.length + 1) (xs ++ [.string xop, .string xtext, .int .i64 xn, .int .i64 xa, xk]))
    (hat : kv.ownBlock = some g ∨ g = w2.heap.size + 1) :
    PA (w'.setCell ⟨B, 4, none⟩ (.slice (some ⟨g, 0, none⟩) (kids.length + 1) cap)) pb s s2 O2 ∧ Fr O w O2 (w'.setCell ⟨B, 4, none⟩ (.slice (some ⟨g, 0, none⟩) (kids.length + 1) cap))
    ∧ (w'.setCell ⟨B, 4, none⟩ (.slice (some ⟨g, 0, none⟩) (kids.length + 1) cap)).heap[w.heap.size]? = some (.cells treeZ 115 (0, 0))
    ∧ (w'.setCell ⟨B, 4, none⟩ (.slice (some ⟨g, 0, none⟩) (kids.length + 1) cap)).heap[B]? = some (.cells (treeCells op text n a (.slice (some ⟨g, 0, none⟩) (kids.length + 1) cap)) 115 (0, 0))
    ∧ ¬ O2 w.heap.size ∧ ¬ O2 B
    ∧ TrOpen (w'.setCell ⟨B, 4, none⟩ (.slice (some ⟨g, 0, none⟩) (kids.length + 1) cap)) (fun k => O2 k ∨ k ≤ w.heap.size ∨ k = B) (kids ++ [x]) (.slice (some ⟨g, 0, none⟩) (kids.length + 1) cap) (xs ++ [.string xop, .string xtext, .int .i64 xn, .int .i64 xa, xk]) := by
  obtain ⟨t1, t2, t3⟩ := TU
  have lB : B < wr.heap.size := heap_lt Q1
  have lR : w.heap.size < wr.heap.size := heap_lt Q0
  have l2 : wr.heap.size ≤ w2.heap.size := F2.size
  have hkv : ∀ k, kv.ownBlock = some k → k < wr.heap.size ∧ ¬ O1 k ∧ w.heap.size < k ∧ k ≠ B := fun k hk => by
    have h1 := (t1.lt k hk).2
    have h2 := t2 k hk
    exact ⟨h1, fun h => h2 (Or.inl h), Nat.lt_of_not_le (fun h => h2 (Or.inr (Or.inl h))), fun h => h2 (Or.inr (Or.inr h))⟩
  have hold : ∀ k, k < w2.heap.size → some k ≠ kv.ownBlock → w'.heap[k]? = w2.heap[k]? := fun k hk hn => by
    rw [hgrow.block k (by simp; omega) hn, Below.heap_alloc _ _ _ hk]
  have na : ¬ O2 w.heap.size := fun h => by rcases F2.own _ h with h | h; exact NA h; omega
  have nb : ¬ O2 B := fun h => by rcases F2.own _ h with h | h; exact NB h; omega
  have nkv : ∀ k, kv.ownBlock = some k → ¬ O2 k := fun k hk h => by
    rcases F2.own _ h with h | h
    · exact (hkv k hk).2.1 h
    · have := (hkv k hk).1; omega
  have hgB : g ≠ B := by
    rcases hat with h | h
    · exact (hkv g h).2.2.2
    · omega
  have hgR : w.heap.size < g := by
    rcases hat with h | h
    · exact (hkv g h).2.2.1
    · omega
  have hgO : ¬ O2 g := by
    rcases hat with h | h
    · exact nkv g h
    · intro h3; have := H2.lt h3; omega
  have q0 : w'.heap[w.heap.size]? = some (.cells treeZ 115 (0, 0)) := by
    rw [hold _ (by omega) (fun e => by have := (hkv _ e.symm).2.2.1; omega), F2.block _ lR NA]; exact Q0
  have q1 : w'.heap[B]? = some (.cells (treeCells op text n a kv) 115 (0, 0)) := by
    rw [hold _ (by omega) (fun e => (hkv _ e.symm).2.2.2 rfl), F2.block _ lB NB]; exact Q1
  have hsz : w2.heap.size + 1 ≤ w'.heap.size := by have := hgrow.size; simp at this; omega
  refine ⟨?_, ?_, ?_, ?_, na, nb, ?_, ?_, ?_⟩
  · refine PA.other (H2.frame (fun k hk => hold k (H2.lt hk) (fun e => nkv k e.symm hk))) nb _ _
  · have f1 := HF.trans F2
    have f2 := (f1.alloc obS).grown hgrow (fun k hk => Or.inr (by have := (hkv k hk).2.2.1; omega))
    exact f2.setCell (Or.inr (by show w.heap.size ≤ B; omega)) _
  · rw [heap_set_other (by show w.heap.size ≠ B; omega)]; exact q0
  · rw [heap_set q1]; rfl
  · rw [List.length_append]
    refine owns_of hown (fun k hk => heap_set_other (fun e => hgB ?_))
    simp [Value.ownBlock] at hk
    rw [hk]; exact e
  · intro k hk
    obtain rfl : g = k := by simpa [Value.ownBlock] using hk
    rintro (h | h | h)
    · exact hgO h
    · omega
    · exact hgB h
  · have hset : ∀ k, k ≠ B → (w'.setCell ⟨B, 4, none⟩ (.slice (some ⟨g, 0, none⟩) (kids.length + 1) cap)).heap[k]? = w'.heap[k]? := fun k hk => heap_set_other hk
    refine AllTr.snoc kids xs x _ _ _ _ _ ?_ ?_
    · refine AllTr.keep (w := wr) (Q := fun k => (O1 k ∨ k ≤ w.heap.size ∨ k = B) ∨ kv.ownBlock = some k) (fun k hk hn => ?_) (fun k hk hq => ?_) kids xs t3
      · rw [hset k (fun e => hn (Or.inl (Or.inr (Or.inr e)))), hold k (by omega) (fun e => hn (Or.inr e.symm)), F2.block k hk (fun h => hn (Or.inl (Or.inl h)))]
      · rcases hq with (h | h | h) | h
        · rcases F2.own k h with h1 | h1
          · exact Or.inl (Or.inl h1)
          · omega
        · exact Or.inl (Or.inr (Or.inl h))
        · exact Or.inl (Or.inr (Or.inr h))
        · obtain rfl : g = k := by simpa [Value.ownBlock] using h
          rcases hat with h | h
          · exact Or.inr h
          · omega
    · refine TrAt.keep (w := w2) (Q := fun k => O2 k ∨ k < wr.heap.size) (fun k hk hn => ?_) (fun k hk hq => ?_) x _ T3
      · have hk2 : wr.heap.size ≤ k := Nat.le_of_not_lt (fun h => hn (Or.inr h))
        rw [hset k (by omega), hold k hk (fun e => by have := (hkv _ e.symm).1; omega)]
      · rcases hq with (h | h | h) | h
        · exact Or.inl h
        · exact Or.inr (by omega)
        · exact Or.inr (by omega)
        · obtain rfl : g = k := by simpa [Value.ownBlock] using h
          rcases hat with h | h
          · exact Or.inr (hkv g h).1
          · omega

theorem TrAt.lone {w : World} {Q : Nat → Prop} {S : Nat} {op : ByteArray} {t : Tr} {a0 a1 a2 a3 a4 : Value} (ht : TrAt w Q t (.agg #[a0, a1, a2, a3, a4]))
    (hS : w.heap[S]? = some (.cells #[a0, a1, a2, a3, a4] 115 (0, 0))) (hq : ¬ Q S) : TrAt w Q (.mk op ⟨#[]⟩ 0 0 [t]) (treeV op ⟨#[]⟩ 0 0 (.slice (some ⟨S, 0, none⟩) 1 1)) := by
  rw [TrAt]
  refine ⟨_, [a0, a1, a2, a3, a4], rfl, ⟨rfl, Or.inr ⟨S, 1, _, rfl, Nat.zero_le _, hS, Nat.le_refl 1, by decide, rfl, rfl⟩⟩, ?_, ?_⟩
  · intro k hk
    obtain rfl : S = k := by simpa [Value.ownBlock] using hk
    exact hq
  · rw [AllTr]
    exact ⟨_, _, _, _, _, _, rfl, ht, by rw [AllTr]⟩

/-- the world behind 'x = Tree{op: op, kids: []Tree{x}}' -/
def sufW (w : World) (B : Nat) (op' text' : ByteArray) (n' a' : Int) (k' : Value) (op : ByteArray) : World :=
  (((((w.setCell ⟨B, 0, none⟩ (.string op)).setCell ⟨B, 1, none⟩ (.string ⟨#[]⟩)).setCell ⟨B, 2, none⟩ (.int .i64 0)).setCell ⟨B, 3, none⟩ (.int .i64 0)).setCell ⟨B, 4, none⟩ (.slice (some ⟨w.heap.size, 0, none⟩) 1 1)).alloc
    (.cells (treeCells op' text' n' a' k') 115)

theorem suf_round {wr wx w3 : World} {pb B : Nat} {s : ByteArray} {s2 : PS} {O1 Ox O3 : Nat → Prop} {x : Tr} {op' text' op : ByteArray} {n' a' : Int} {k' : Value}
    (HF : Fr O1 wr Ox wx) (F : Fr Ox wx O3 w3) (H3 : PA w3 pb s s2 O3) (Q1 : wx.heap[B]? = some (.cells (treeCells op' text' n' a' k') 115 (0, 0)))
    (NB : ¬ Ox B) (hB : wr.heap.size ≤ B) (TU : TrAt wx (fun k => Ox k ∨ k < wr.heap.size ∨ k = B) x (treeV op' text' n' a' k')) :
    PA (sufW w3 B op' text' n' a' k' op) pb s s2 O3 ∧ Fr O1 wr O3 (sufW w3 B op' text' n' a' k' op)
    ∧ (sufW w3 B op' text' n' a' k' op).heap[B]? = some (.cells (treeCells op ⟨#[]⟩ 0 0 (.slice (some ⟨w3.heap.size, 0, none⟩) 1 1)) 115 (0, 0))
    ∧ ¬ O3 B
    ∧ TrAt (sufW w3 B op' text' n' a' k' op) (fun k => O3 k ∨ k < wr.heap.size ∨ k = B) (.mk op ⟨#[]⟩ 0 0 [x]) (treeV op ⟨#[]⟩ 0 0 (.slice (some ⟨w3.heap.size, 0, none⟩) 1 1)) := by
  have lB : B < wx.heap.size := heap_lt Q1
  have l3 : wx.heap.size ≤ w3.heap.size := F.size
  have q1 := (F.block _ lB NB).trans Q1
  have nb : ¬ O3 B := fun h => by rcases F.own _ h with h | h; exact NB h; omega
  obtain ⟨W, hW⟩ : ∃ W, ((((w3.setCell ⟨B, 0, none⟩ (.string op)).setCell ⟨B, 1, none⟩ (.string ⟨#[]⟩)).setCell ⟨B, 2, none⟩ (.int .i64 0)).setCell ⟨B, 3, none⟩ (.int .i64 0)).setCell ⟨B, 4, none⟩ (.slice (some ⟨w3.heap.size, 0, none⟩) 1 1) = W := ⟨_, rfl⟩
  have pW : PA W pb s s2 O3 := by rw [← hW]; exact ((((H3.other nb _ _).other nb _ _).other nb _ _).other nb _ _).other nb _ _
  have sW : W.heap.size = w3.heap.size := by rw [← hW]; simp [World.setCell]
  have bW : W.heap[B]? = some (.cells (treeCells op ⟨#[]⟩ 0 0 (.slice (some ⟨w3.heap.size, 0, none⟩) 1 1)) 115 (0, 0)) := by
    rw [← hW, heap_set (heap_set (heap_set (heap_set (heap_set q1))))]; rfl
  have fW : Fr (fun k => O3 k ∨ k = B) w3 (fun k => O3 k ∨ k = B) W := by
    rw [← hW]
    have f0 : Fr (fun k => O3 k ∨ k = B) w3 (fun k => O3 k ∨ k = B) w3 := (Fr.refl O3 w3).join (fun k => k = B)
    exact ((((f0.setCell (Or.inl (Or.inr rfl)) _).setCell (Or.inl (Or.inr rfl)) _).setCell (Or.inl (Or.inr rfl)) _).setCell (Or.inl (Or.inr rfl)) _).setCell (Or.inl (Or.inr rfl)) _
  have gW : Fr O1 wr O3 W := by
    rw [← hW]
    exact (((((HF.trans F).setCell (Or.inr hB) _).setCell (Or.inr hB) _).setCell (Or.inr hB) _).setCell (Or.inr hB) _).setCell (Or.inr hB) _
  have e : sufW w3 B op' text' n' a' k' op = W.alloc (.cells (treeCells op' text' n' a' k') 115) := by
    unfold sufW; rw [hW]
  rw [e]
  refine ⟨pW.alloc _, gW.alloc _, ?_, nb, ?_⟩
  · rw [Below.heap_alloc _ _ _ (by omega)]; exact bW
  · have fF : Fr (fun k => O3 k ∨ k = B) w3 (fun k => O3 k ∨ k = B) (W.alloc (.cells (treeCells op' text' n' a' k') 115)) := fW.alloc _
    refine TrAt.lone (a0 := .string op') (a1 := .string text') (a2 := .int .i64 n') (a3 := .int .i64 a') (a4 := k') ?_ ?_ ?_
    · refine TrAt.step ((F.join (fun k => k = B)).trans fF) (fun k hk => ?_) (fun k hk => ?_) x _ TU
      · rcases hk with h | h
        · exact Or.inl h
        · exact Or.inr (Or.inr h)
      · rcases hk with h | h | h
        · rcases F.own k h with h1 | h1
          · exact Or.inl (Or.inl h1)
          · exact Or.inr h1
        · exact Or.inl (Or.inr (Or.inl h))
        · exact Or.inl (Or.inr (Or.inr h))
    · rw [← sW]; exact heap_alloc_new _ _
    · rintro (h | h | h)
      · have := H3.lt h; omega
      · have := HF.size; omega
      · omega

theorem sufTo_succ (s : ByteArray) (st : PS) (x : Tr) {i : Nat} (h : i < 3) : sufTo s st x (i + 1) = sufStep s (sufWord i) (sufTo s st x i) := by
  rcases i with _ | _ | _ | i
  · rfl
  · rfl
  · rfl
  · omega
theorem sufLp_pos {s : ByteArray} {k : Nat} {st : PS} {t : Tr} {r : PS × Tr} (h : sufLp s k st t = some r) : ∃ g, k = g + 1 := by
  cases k with
  | zero => rw [sufLp] at h; cases h
  | succ g => exact ⟨g, rfl⟩
theorem sufLp_more {s : ByteArray} {g : Nat} {st : PS} {t : Tr} {r : PS × Tr} (h : sufLp s (g + 1) st t = some r) :
    ((suf3 s st t).2.2 = true ∧ sufLp s g (suf3 s st t).1 (suf3 s st t).2.1 = some r) ∨ ((suf3 s st t).2.2 = false ∧ r = ((suf3 s st t).1, (suf3 s st t).2.1)) := by
  rw [sufLp] at h
  by_cases hb : (suf3 s st t).2.2 = true
  · left; rw [if_pos hb] at h; exact ⟨hb, h⟩
  · right; rw [if_neg hb] at h; exact ⟨by simpa using hb, (Option.some.inj h).symm⟩
theorem rowLp_pos {s : ByteArray} {k : Nat} {st : PS} {kids : List Tr} {r : PS × Tr} (h : rowLp s k st kids = some r) : ∃ g, k = g + 1 := by
  cases k with
  | zero => rw [rowLp] at h; cases h
  | succ g => exact ⟨g, rfl⟩
theorem rowLp_more {s : ByteArray} {g : Nat} {st : PS} {kids : List Tr} {r : PS × Tr} (h : rowLp s (g + 1) st kids = some r) :
    ∃ s1 x s2 x2, oneTw s g st = some (s1, x) ∧ sufLp s g s1 x = some (s2, x2) ∧ ((moreP s2 = true ∧ rowLp s g s2 (kids ++ [x2]) = some r) ∨ (moreP s2 = false ∧ r = (s2, .mk wRow ⟨#[]⟩ 0 0 (kids ++ [x2])))) := by
  rw [rowLp] at h
  cases ht : oneTw s g st with
  | none => rw [ht] at h; cases h
  | some p =>
    rw [ht] at h
    cases hu : sufLp s g p.1 p.2 with
    | none => simp only [hu] at h; cases h
    | some q =>
      simp only [hu] at h
      refine ⟨p.1, p.2, q.1, q.2, rfl, hu, ?_⟩
      by_cases hb : moreP q.1 = true
      · left; simp only [hb, if_true] at h; exact ⟨hb, h⟩
      · right
        have hb' : moreP q.1 = false := by simpa using hb
        simp only [hb', Bool.false_eq_true, if_false] at h
        exact ⟨hb', (Option.some.inj h).symm⟩
end Go.Proofs.YtgdeeodifnegiaaGreatDoor.rf
