/- Trees in memory; the reference's opens by its set of blocks. -/
import Derived.Test.YtgdeeodifnegiaaGreatDoorRefG
namespace Go.Proofs.YtgdeeodifnegiaaGreatDoor.rf
open Go.RowKit

mutual
/-- the value v is the tree t, in w; none of its memory is of Q -/
def TrAt (w : World) (Q : Nat → Prop) : Tr → Value → Prop
  | .mk op text n a kids, v => ∃ kv xs, v = treeV op text n a kv ∧ w.ownsRow 0 115 5 kv kids.length xs ∧ (∀ k, kv.ownBlock = some k → ¬ Q k) ∧ AllTr w Q kids xs
def AllTr (w : World) (Q : Nat → Prop) : List Tr → List Value → Prop
  | [], xs => xs = []
  | t :: ts, xs => ∃ a b c d e r, xs = a :: b :: c :: d :: e :: r ∧ TrAt w Q t (.agg #[a, b, c, d, e]) ∧ AllTr w Q ts r
end

mutual
theorem TrAt.step {O O' Q Q' : Nat → Prop} {w w' : World} (hf : Fr O w O' w') (h1 : ∀ k, O k → Q k) (h2 : ∀ k, Q' k → Q k ∨ w.heap.size ≤ k) :
    ∀ (t : Tr) (v : Value), TrAt w Q t v → TrAt w' Q' t v
  | .mk op text n a kids, v, h => by
    rw [TrAt] at h ⊢
    obtain ⟨kv, xs, e, ho, hq, ha⟩ := h
    refine ⟨kv, xs, e, owns_of ho (fun k hk => hf.block k (ho.lt k hk).2 (fun hO => hq k hk (h1 k hO))), fun k hk hQ => ?_, AllTr.step hf h1 h2 kids xs ha⟩
    rcases h2 k hQ with h | h
    · exact hq k hk h
    · have := (ho.lt k hk).2; omega
theorem AllTr.step {O O' Q Q' : Nat → Prop} {w w' : World} (hf : Fr O w O' w') (h1 : ∀ k, O k → Q k) (h2 : ∀ k, Q' k → Q k ∨ w.heap.size ≤ k) :
    ∀ (ts : List Tr) (xs : List Value), AllTr w Q ts xs → AllTr w' Q' ts xs
  | [], xs, h => by rw [AllTr] at h ⊢; exact h
  | t :: ts, xs, h => by
    rw [AllTr] at h ⊢
    obtain ⟨a, b, c, d, e, r, ex, ht, hr⟩ := h
    exact ⟨a, b, c, d, e, r, ex, TrAt.step hf h1 h2 t _ ht, AllTr.step hf h1 h2 ts r hr⟩
end
theorem AllTr.snoc {Q : Nat → Prop} {w : World} : ∀ (ts : List Tr) (xs : List Value) (t : Tr) (a b c d e : Value), AllTr w Q ts xs → TrAt w Q t (.agg #[a, b, c, d, e]) → AllTr w Q (ts ++ [t]) (xs ++ [a, b, c, d, e])
  | [], xs, t, a, b, c, d, e, h, ht => by
    rw [AllTr] at h; subst h
    rw [List.nil_append, List.nil_append, AllTr]
    exact ⟨a, b, c, d, e, [], rfl, ht, by rw [AllTr]⟩
  | u :: us, xs, t, a, b, c, d, e, h, ht => by
    rw [AllTr] at h
    obtain ⟨a', b', c', d', e', r, ex, hu, hr⟩ := h
    subst ex
    rw [List.cons_append, AllTr]
    exact ⟨a', b', c', d', e', r ++ [a, b, c, d, e], rfl, hu, AllTr.snoc us r t a b c d e hr ht⟩
theorem TrAt.leaf (w : World) (Q : Nat → Prop) (op text : ByteArray) (n a : Int) : TrAt w Q (.mk op text n a []) (treeV op text n a (.slice none 0 0)) := by
  rw [TrAt]
  exact ⟨_, [], rfl, World.ownsRow_nil _ _ _ _, fun k hk => by simp [Value.ownBlock] at hk, by rw [AllTr]⟩
/-- its shape -/
theorem TrAt.form {w : World} {Q : Nat → Prop} {t : Tr} {v : Value} (h : TrAt w Q t v) : ∃ op text n a o c l, v = treeV op text n a (.slice o c l) := by
  cases t with
  | mk op text n a kids =>
    rw [TrAt] at h
    obtain ⟨kv, xs, e, ho, _⟩ := h
    rcases ho.2 with ⟨e1, _⟩ | ⟨g, cap, cur, e1, _⟩
    · exact ⟨op, text, n, a, _, _, _, by rw [e, e1]⟩
    · exact ⟨op, text, n, a, _, _, _, by rw [e, e1]⟩

theorem PA.opens {w : World} {pb : Nat} {s : ByteArray} {st : PS} {O : Nat → Prop} (h : PA w pb s st O) :
    Calls Tryz.prog 176 #[ptr pb] w fun e w' => e = .returned (.tuple #[]) ∧ PA w' pb s (opensP st) O ∧ Fr O w O w' := by
  obtain ⟨tv, lv, hp, rfl⟩ := h
  refine (opens_any hp).mono ?_
  rintro e w' ⟨rfl, h1, h2⟩
  exact ⟨rfl, ⟨tv, lv, h1, rfl⟩, h2⟩
theorem Ok.opn {s : ByteArray} {st : PS} (h : Ok s st) (x : Int) : Ok s { st with opn := x } := ⟨h.hs, h.hi, h.tk0, h.tk, h.ln, h.tx⟩
theorem Ok.opens {s : ByteArray} {st : PS} (h : Ok s st) : Ok s (opensP st) := by unfold opensP; split; exact h.fail.opn _; exact h.opn _
theorem PA.setOpn {w : World} {pb : Nat} {s : ByteArray} {st : PS} {O : Nat → Prop} (h : PA w pb s st O) (x : Int) : PA (w.setCell ⟨pb, 8, none⟩ (.int .i64 x)) pb s { st with opn := x } O := by
  obtain ⟨tv, lv, hp, rfl⟩ := h
  exact ⟨tv, lv, hp.set rfl rfl rfl, rfl⟩
theorem PA.cell {w : World} {pb : Nat} {s : ByteArray} {st : PS} {O : Nat → Prop} (h : PA w pb s st O) : w.cell? ⟨pb, 1, none⟩ = some (.int .u8 st.next.kind) ∧ w.cell? ⟨pb, 7, none⟩ = some (.int .i64 st.bad) ∧ w.cell? ⟨pb, 8, none⟩ = some (.int .i64 st.opn) ∧ (∀ o, w.frozen? ⟨pb, o, none⟩ = false) := by
  obtain ⟨tv, lv, hp, rfl⟩ := h
  exact ⟨cell_of_heap hp.blk, cell_of_heap hp.blk, cell_of_heap hp.blk, fun o => frozen_of_heap hp.blk⟩

end Go.Proofs.YtgdeeodifnegiaaGreatDoor.rf
