/- Compile of the reference: its policy in memory; what is left behind a definition, a statement that is added to it. -/
import Derived.Test.YtgdeeodifnegiaaGreatDoorRefZf
import Derived.Test.YtgdeeodifnegiaaGreatDoorRdrA
namespace Go.Proofs.YtgdeeodifnegiaaGreatDoor.rf
open Go.RowKit

theorem DefAt.keep {w w' : World} {Q Q' : Nat → Prop} {d : Df} {v : Value} (h1 : ∀ k, k < w.heap.size → ¬ Q k → w'.heap[k]? = w.heap[k]?) (h2 : ∀ k, k < w.heap.size → Q' k → Q k) (h : DefAt w Q d v) : DefAt w' Q' d v := by
  obtain ⟨rv, op, text, n, a, kv, e, ho, hq, ht⟩ := h
  exact ⟨rv, op, text, n, a, kv, e, owns_of ho (fun k hk => h1 k (ho.lt k hk).2 (hq k hk)), fun k hk hQ => hq k hk (h2 k (ho.lt k hk).2 hQ), TrAt.keep h1 h2 _ _ ht⟩
/-- the cells xs are the definitions ds, one behind the other -/
def AllDf (w : World) (Q : Nat → Prop) : List Df → List Value → Prop
  | [], xs => xs = []
  | d :: ds, xs => ∃ v r, xs = v.toList ++ r ∧ v.size = 10 ∧ DefAt w Q d (.agg v) ∧ AllDf w Q ds r
theorem AllDf.keep {w w' : World} {Q Q' : Nat → Prop} (h1 : ∀ k, k < w.heap.size → ¬ Q k → w'.heap[k]? = w.heap[k]?) (h2 : ∀ k, k < w.heap.size → Q' k → Q k) : ∀ {ds : List Df} {xs : List Value}, AllDf w Q ds xs → AllDf w' Q' ds xs
  | [], _, h => h
  | _ :: _, _, ⟨v, r, e, hs, hd, hr⟩ => ⟨v, r, e, hs, hd.keep h1 h2, AllDf.keep h1 h2 hr⟩
theorem AllDf.snoc {w : World} {Q : Nat → Prop} {d : Df} {v : Array Value} (hv : v.size = 10) (hd : DefAt w Q d (.agg v)) : ∀ {ds : List Df} {xs : List Value}, AllDf w Q ds xs → AllDf w Q (ds ++ [d]) (xs ++ v.toList)
  | [], _, h => ⟨v, [], by rw [show _ = _ from h]; simp, hv, hd, rfl⟩
  | _ :: _, _, ⟨u, r, e, hs, hu, hr⟩ => ⟨u, r ++ v.toList, by rw [e]; simp, hs, hu, AllDf.snoc hv hd hr⟩
theorem AllDf.get {w : World} {Q : Nat → Prop} : ∀ {ds : List Df} {xs : List Value}, AllDf w Q ds xs → ∀ i (h : i < ds.length), ∃ v : Array Value, v.size = 10 ∧ DefAt w Q ds[i] (.agg v) ∧ ∀ j, j < 10 → xs[i * 10 + j]? = v[j]?
  | [], _, _, i, h => absurd h (by simp)
  | d :: ds, xs, ⟨v, r, e, hs, hd, hr⟩, i, h => by
    have hl : v.toList.length = 10 := by simpa using hs
    cases i with
    | zero =>
      refine ⟨v, hs, hd, fun j hj => ?_⟩
      rw [e, List.getElem?_append_left (by omega)]
      simp
    | succ i =>
      obtain ⟨u, h1, h2, h3⟩ := hr.get i (by simpa using h)
      refine ⟨u, h1, h2, fun j hj => ?_⟩
      rw [e, List.getElem?_append_right (by omega), ← h3 j hj]
      congr 1; omega
/-- definitions to which others are still being added -/
structure DsOpen (w : World) (Q : Nat → Prop) (ds : List Df) (dv : Value) (xs : List Value) : Prop where
  own : w.ownsRow 0 145 10 dv ds.length xs
  off : ∀ k, dv.ownBlock = some k → ¬ Q k
  all : AllDf w (fun k => Q k ∨ dv.ownBlock = some k) ds xs
theorem DsOpen.nil (w : World) (Q : Nat → Prop) : DsOpen w Q [] (.slice none 0 0) [] :=
  ⟨World.ownsRow_nil _ _ _ _, fun k hk => by simp [Value.ownBlock] at hk, rfl⟩
theorem DsOpen.keep {w w' : World} {Q Q' : Nat → Prop} {ds : List Df} {dv : Value} {xs : List Value} (h : DsOpen w Q ds dv xs) (h1 : ∀ k, k < w.heap.size → ¬ Q k → w'.heap[k]? = w.heap[k]?) (h2 : ∀ k, k < w.heap.size → Q' k → Q k) : DsOpen w' Q' ds dv xs :=
  ⟨owns_of h.own (fun k hk => h1 k (h.own.lt k hk).2 (h.off k hk)), fun k hk hQ => h.off k hk (h2 k (h.own.lt k hk).2 hQ), h.all.keep (fun k hk hn => h1 k hk (fun hq => hn (Or.inl hq))) (fun k hk hq => hq.imp (h2 k hk) id)⟩
theorem DsOpen.form {w : World} {Q : Nat → Prop} {ds : List Df} {dv : Value} {xs : List Value} (h : DsOpen w Q ds dv xs) : ∃ o c, dv = .slice o ds.length c := by
  rcases h.own.2 with ⟨e1, e2⟩ | ⟨g, cap, cur, e1, _⟩
  · exact ⟨none, 0, by rw [e1, e2]⟩
  · exact ⟨_, _, e1⟩
theorem TrOpen.keep {w w' : World} {Q Q' : Nat → Prop} {ks : List Tr} {kv : Value} {ys : List Value} (h : TrOpen w Q ks kv ys) (h1 : ∀ k, k < w.heap.size → ¬ Q k → w'.heap[k]? = w.heap[k]?) (h2 : ∀ k, k < w.heap.size → Q' k → Q k) : TrOpen w' Q' ks kv ys :=
  ⟨owns_of h.1 (fun k hk => h1 k (h.1.lt k hk).2 (h.2.1 k hk)), fun k hk hQ => h.2.1 k hk (h2 k (h.1.lt k hk).2 hQ), AllTr.keep (fun k hk hn => h1 k hk (fun hq => hn (Or.inl hq))) (fun k hk hq => hq.imp (h2 k hk) id) _ _ h.2.2⟩
/-- the policy's block -/
abbrev polC (dv kv tv lv : Value) : Array Value := #[dv, .string wBlock, .string ⟨#[]⟩, .int .i64 0, .int .i64 0, kv, tv, lv]
abbrev nF (_ : Nat) : Prop := False
/-- behind 'out.f = append(out.f, x)': the policy lies in block ob, the row is none of the parser's -/
theorem app_frame {w0 wr w2 w' : World} {pb ob c : Nat} {s : ByteArray} {s2 : PS} {O1 O2 : Nat → Prop} {row v : Value} {obS : Obj}
    (HF : Fr nF w0 O1 wr) (F2 : Fr O1 wr O2 w2) (H2 : PA w2 pb s s2 O2) (hob : ob < wr.heap.size) (l0 : w0.heap.size ≤ ob) (nob : ¬ O1 ob)
    (hrow : ∀ k, row.ownBlock = some k → k < wr.heap.size ∧ ¬ O1 k ∧ w0.heap.size ≤ k ∧ k ≠ ob) (hgrow : (w2.alloc obS).drew.grownBy w' row.ownBlock) :
    PA (w'.setCell ⟨ob, c, none⟩ v) pb s s2 O2 ∧ Fr nF w0 O2 (w'.setCell ⟨ob, c, none⟩ v) ∧ ¬ O2 ob ∧ w2.heap.size + 1 ≤ w'.heap.size ∧
    (∀ k, k < w2.heap.size → some k ≠ row.ownBlock → k ≠ ob → (w'.setCell ⟨ob, c, none⟩ v).heap[k]? = w2.heap[k]?) ∧ w'.heap[ob]? = wr.heap[ob]? ∧ (∀ k, row.ownBlock = some k → ¬ O2 k) := by
  have l2 : wr.heap.size ≤ w2.heap.size := F2.size
  have hold : ∀ k, k < w2.heap.size → some k ≠ row.ownBlock → w'.heap[k]? = w2.heap[k]? := fun k hk hn => by
    rw [hgrow.block k (by simp; omega) hn]; exact Below.heap_alloc _ _ _ hk
  have nb : ¬ O2 ob := fun h => by rcases F2.own _ h with h | h; exact nob h; omega
  have nrow : ∀ k, row.ownBlock = some k → ¬ O2 k := fun k hk h => by
    rcases F2.own _ h with h | h
    · exact (hrow k hk).2.1 h
    · have := (hrow k hk).1; omega
  refine ⟨?_, ?_, nb, ?_, fun k hk hn hne => ?_, ?_, nrow⟩
  · exact PA.other (H2.frame (fun k hk => hold k (H2.lt hk) (fun e => nrow k e.symm hk))) nb _ _
  · have f1 := HF.trans F2
    have f2 := ((f1.alloc obS).drew).grown hgrow (fun k hk => Or.inr (hrow k hk).2.2.1)
    exact f2.setCell (Or.inr l0) _
  · have := hgrow.size; simp at this; omega
  · rw [heap_set_other (fun e => hne e)]; exact hold k hk hn
  · rw [hold ob (by omega) (fun e => (hrow ob e.symm).2.2.2 rfl)]; exact F2.block ob hob nob
theorem def_round {w0 wr w2 w' : World} {pb ob g cap : Nat} {s : ByteArray} {s2 : PS} {O1 O2 : Nat → Prop} {ds : List Df} {d : Df} {dv kv tv lv : Value} {xs : List Value} {v : Array Value} {obX obS : Obj}
    (HF : Fr nF w0 O1 wr) (F2 : Fr O1 wr O2 w2) (H2 : PA w2 pb s s2 O2) (B : wr.heap[ob]? = some (.cells (polC dv kv tv lv) 119 (0, 0))) (nob : ¬ O1 ob) (l0 : w0.heap.size ≤ ob)
    (D : DsOpen wr (fun k => O1 k ∨ k = ob ∨ k < w0.heap.size) ds dv xs) (hv : v.size = 10) (T3 : DefAt w2 (fun k => O2 k ∨ k < wr.heap.size) d (.agg v))
    (hgrow : ((w2.alloc obX).alloc obS).drew.grownBy w' dv.ownBlock) (hown : w'.ownsRow 0 145 10 (.slice (some ⟨g, 0, none⟩) (ds.length + 1) cap) (ds.length + 1) (xs ++ v.toList))
    (hat : dv.ownBlock = some g ∨ g = w2.heap.size + 2) :
    PA (w'.setCell ⟨ob, 0, none⟩ (.slice (some ⟨g, 0, none⟩) (ds.length + 1) cap)) pb s s2 O2 ∧ Fr nF w0 O2 (w'.setCell ⟨ob, 0, none⟩ (.slice (some ⟨g, 0, none⟩) (ds.length + 1) cap)) ∧ ¬ O2 ob ∧
    (w'.setCell ⟨ob, 0, none⟩ (.slice (some ⟨g, 0, none⟩) (ds.length + 1) cap)).heap[ob]? = some (.cells (polC (.slice (some ⟨g, 0, none⟩) (ds.length + 1) cap) kv tv lv) 119 (0, 0)) ∧
    DsOpen (w'.setCell ⟨ob, 0, none⟩ (.slice (some ⟨g, 0, none⟩) (ds.length + 1) cap)) (fun k => O2 k ∨ k = ob ∨ k < w0.heap.size) (ds ++ [d]) (.slice (some ⟨g, 0, none⟩) (ds.length + 1) cap) (xs ++ v.toList) := by
  have lob : ob < wr.heap.size := heap_lt B
  have l2 : wr.heap.size ≤ w2.heap.size := F2.size
  have lw : w0.heap.size ≤ wr.heap.size := HF.size
  have hrow : ∀ k, dv.ownBlock = some k → k < wr.heap.size ∧ ¬ O1 k ∧ w0.heap.size ≤ k ∧ k ≠ ob := fun k hk => by
    have h1 := (D.own.lt k hk).2
    have h2 := D.off k hk
    exact ⟨h1, fun h => h2 (Or.inl h), Nat.le_of_not_lt (fun h => h2 (Or.inr (Or.inr h))), fun h => h2 (Or.inr (Or.inl h))⟩
  have FX : Fr O1 wr O2 (w2.alloc obX) := F2.alloc obX
  obtain ⟨f1, f2, f3, f4, f5, f6, f7⟩ := app_frame (c := 0) (v := .slice (some ⟨g, 0, none⟩) (ds.length + 1) cap) HF FX (H2.alloc obX) lob l0 nob hrow hgrow
  have hx : ∀ k, k < w2.heap.size → (w2.alloc obX).heap[k]? = w2.heap[k]? := fun k hk => Below.heap_alloc _ _ _ hk
  have hgo : g ≠ ob ∧ w0.heap.size ≤ g ∧ ¬ O2 g := by
    rcases hat with h | h
    · exact ⟨(hrow g h).2.2.2, (hrow g h).2.2.1, f7 g h⟩
    · exact ⟨by omega, by omega, fun h3 => by have := H2.lt h3; omega⟩
  refine ⟨f1, f2, f3, ?_, ⟨?_, fun k hk => ?_, ?_⟩⟩
  · rw [heap_set (f6.trans B)]; rfl
  · rw [List.length_append]
    exact owns_of hown (fun k hk => heap_set_other (fun e => hgo.1 (by simp [Value.ownBlock] at hk; rw [hk]; exact e)))
  · obtain rfl : g = k := by simpa [Value.ownBlock] using hk
    rintro (h | h | h)
    · exact hgo.2.2 h
    · exact hgo.1 h
    · omega
  · refine AllDf.snoc hv ?_ ?_
    · refine T3.keep (fun k hk hn => ?_) (fun k hk hq => ?_)
      · have hk2 : wr.heap.size ≤ k := Nat.le_of_not_lt (fun h => hn (Or.inr h))
        rw [f5 k (by simp; omega) (fun e => by have := (hrow k e.symm).1; omega) (by omega), hx k hk]
      · rcases hq with (h | h | h) | h
        · exact Or.inl h
        · exact Or.inr (by omega)
        · exact Or.inr (by omega)
        · obtain rfl : g = k := by simpa [Value.ownBlock] using h
          rcases hat with h | h
          · exact Or.inr (hrow g h).1
          · omega
    · refine D.all.keep (fun k hk hn => ?_) (fun k hk hq => ?_)
      · rw [f5 k (by simp; omega) (fun e => hn (Or.inr e.symm)) (fun e => hn (Or.inl (Or.inr (Or.inl e)))), hx k (by omega)]
        exact F2.block k hk (fun h => hn (Or.inl (Or.inl h)))
      · rcases hq with (h | h | h) | h
        · rcases F2.own k h with h1 | h1
          · exact Or.inl (Or.inl h1)
          · omega
        · exact Or.inl (Or.inr (Or.inl h))
        · exact Or.inl (Or.inr (Or.inr h))
        · obtain rfl : g = k := by simpa [Value.ownBlock] using h
          rcases hat with h | h
          · exact Or.inr h
          · omega
theorem kid_roundP {w0 wr w2 w1 w' : World} {pb ob g cap n1 : Nat} {s : ByteArray} {s2 : PS} {O1 O2 : Nat → Prop} {ks : List Tr} {x : Tr} {dv kv tv lv : Value} {ys zs : List Value} {a0 a1 a2 a3 a4 : Value} {obX obS : Obj} {ds : List Df} {xs : List Value}
    (HF : Fr nF w0 O1 wr) (F2 : Fr O1 wr O2 w2) (H2 : PA w2 pb s s2 O2) (B : wr.heap[ob]? = some (.cells (polC dv kv tv lv) 119 (0, 0))) (nob : ¬ O1 ob) (l0 : w0.heap.size ≤ ob) (ln : ob < n1) (ln2 : n1 ≤ wr.heap.size)
    (D : DsOpen wr (fun k => O1 k ∨ k = ob ∨ k < w0.heap.size ∨ n1 ≤ k) ds dv xs) (T : TrOpen wr (fun k => O1 k ∨ k < n1) ks kv ys) (T3 : TrAt w2 (fun k => O2 k ∨ k < wr.heap.size) x (.agg #[a0, a1, a2, a3, a4]))
    (hgrow : ((w2.alloc obX).alloc obS).drew.grownBy w1 kv.ownBlock) (hz : zs.length = 5) (hown : w1.ownsRow 0 115 5 (.slice (some ⟨g, 0, none⟩) (ks.length + 1) cap) (ks.length + 1) (ys ++ zs))
    (hat : kv.ownBlock = some g ∨ g = w2.heap.size + 2)
    (hw' : w' = ((((w1.setCell ⟨g, ks.length * 5, none⟩ a0).setCell ⟨g, ks.length * 5 + 1, none⟩ a1).setCell ⟨g, ks.length * 5 + 2, none⟩ a2).setCell ⟨g, ks.length * 5 + 3, none⟩ a3).setCell ⟨g, ks.length * 5 + 4, none⟩ a4) :
    PA (w'.setCell ⟨ob, 5, none⟩ (.slice (some ⟨g, 0, none⟩) (ks.length + 1) cap)) pb s s2 O2 ∧ Fr nF w0 O2 (w'.setCell ⟨ob, 5, none⟩ (.slice (some ⟨g, 0, none⟩) (ks.length + 1) cap)) ∧ ¬ O2 ob ∧
    (w'.setCell ⟨ob, 5, none⟩ (.slice (some ⟨g, 0, none⟩) (ks.length + 1) cap)).heap[ob]? = some (.cells (polC dv (.slice (some ⟨g, 0, none⟩) (ks.length + 1) cap) tv lv) 119 (0, 0)) ∧
    DsOpen (w'.setCell ⟨ob, 5, none⟩ (.slice (some ⟨g, 0, none⟩) (ks.length + 1) cap)) (fun k => O2 k ∨ k = ob ∨ k < w0.heap.size ∨ n1 ≤ k) ds dv xs ∧
    TrOpen (w'.setCell ⟨ob, 5, none⟩ (.slice (some ⟨g, 0, none⟩) (ks.length + 1) cap)) (fun k => O2 k ∨ k < n1) (ks ++ [x]) (.slice (some ⟨g, 0, none⟩) (ks.length + 1) cap) (ys ++ [a0, a1, a2, a3, a4]) := by
  have lob : ob < wr.heap.size := heap_lt B
  have l2 : wr.heap.size ≤ w2.heap.size := F2.size
  have hyl : ys.length = ks.length * 5 := by have := T.1.1; omega
  -- the row, written
  have hown' : w'.ownsRow 0 115 5 (.slice (some ⟨g, 0, none⟩) (ks.length + 1) cap) (ks.length + 1) (ys ++ [a0, a1, a2, a3, a4]) := by
    rw [hw']
    have h5 := (((((hown.stored (ks.length * 5) a0).1.stored (ks.length * 5 + 1) a1).1.stored (ks.length * 5 + 2) a2).1.stored (ks.length * 5 + 3) a3).1.stored (ks.length * 5 + 4) a4).1
    have e : ((((((ys ++ zs).set (ks.length * 5) a0).set (ks.length * 5 + 1) a1).set (ks.length * 5 + 2) a2).set (ks.length * 5 + 3) a3).set (ks.length * 5 + 4) a4) = ys ++ [a0, a1, a2, a3, a4] := by
      obtain ⟨z0, z1, z2, z3, z4, rfl⟩ : ∃ z0 z1 z2 z3 z4, zs = [z0, z1, z2, z3, z4] := by
        match zs, hz with
        | [z0, z1, z2, z3, z4], _ => exact ⟨z0, z1, z2, z3, z4, rfl⟩
      rw [← hyl]
      simp []
    rw [e] at h5
    exact h5
  have hgb : (Value.slice (some ⟨g, 0, none⟩) (ks.length + 1) cap).ownBlock = some g := rfl
  have hgrow' : ∀ k, k < w2.heap.size + 2 → some k ≠ kv.ownBlock → k ≠ g → w'.heap[k]? = ((w2.alloc obX).alloc obS).heap[k]? := fun k hk hn hne => by
    rw [hw', heap_set_other hne, heap_set_other hne, heap_set_other hne, heap_set_other hne, heap_set_other hne]
    exact hgrow.block k (by simp; omega) hn
  have hrow : ∀ k, kv.ownBlock = some k → k < wr.heap.size ∧ ¬ O1 k ∧ n1 ≤ k := fun k hk => by
    have h1 := (T.1.lt k hk).2
    have h2 := T.2.1 k hk
    exact ⟨h1, fun h => h2 (Or.inl h), Nat.le_of_not_lt (fun h => h2 (Or.inr h))⟩
  have hg1 : n1 ≤ g ∧ (g < wr.heap.size ∨ g = w2.heap.size + 2) ∧ ¬ O2 g := by
    rcases hat with h | h
    · refine ⟨(hrow g h).2.2, Or.inl (hrow g h).1, fun h3 => ?_⟩
      rcases F2.own _ h3 with h4 | h4
      · exact (hrow g h).2.1 h4
      · have := (hrow g h).1; omega
    · exact ⟨by omega, Or.inr h, fun h3 => by have := H2.lt h3; omega⟩
  have hkg : ∀ k, kv.ownBlock = some k → k = g ∨ True := fun _ _ => Or.inr trivial
  clear hkg
  have hold : ∀ k, k < w2.heap.size → some k ≠ kv.ownBlock → k ≠ g → k ≠ ob → (w'.setCell ⟨ob, 5, none⟩ (.slice (some ⟨g, 0, none⟩) (ks.length + 1) cap)).heap[k]? = w2.heap[k]? := fun k hk hn hne hno => by
    rw [heap_set_other hno, hgrow' k (by omega) hn hne, Below.heap_alloc _ _ _ (by simp; omega), Below.heap_alloc _ _ _ hk]
  have nb : ¬ O2 ob := fun h => by rcases F2.own _ h with h | h; exact nob h; omega
  have nkv : ∀ k, kv.ownBlock = some k → ¬ O2 k := fun k hk h => by
    rcases F2.own _ h with h | h
    · exact (hrow k hk).2.1 h
    · have := (hrow k hk).1; omega
  have hB : w'.heap[ob]? = some (.cells (polC dv kv tv lv) 119 (0, 0)) := by
    rw [hgrow' ob (by omega) (fun e => by have := (hrow ob e.symm).2.2; omega) (by omega), Below.heap_alloc _ _ _ (by simp; omega), Below.heap_alloc _ _ _ (by omega), F2.block ob lob nob]
    exact B
  have fr1 : Fr nF w0 O2 w' := by
    have f1 := HF.trans F2
    have f2 := (((f1.alloc obX).alloc obS).drew).grown hgrow (fun k hk => Or.inr (by have := (hrow k hk).2.2; omega))
    have hg0 : w0.heap.size ≤ g := by omega
    rw [hw']
    exact ((((f2.setCell (Or.inr hg0) _).setCell (Or.inr hg0) _).setCell (Or.inr hg0) _).setCell (Or.inr hg0) _).setCell (Or.inr hg0) _
  refine ⟨?_, fr1.setCell (Or.inr l0) _, nb, ?_, ?_, ⟨?_, fun k hk => ?_, ?_⟩⟩
  · have hp : PA w' pb s s2 O2 := H2.frame (fun k hk => by
      have hlt := H2.lt hk
      rw [hgrow' k (by omega) (fun e => nkv k e.symm hk) (fun e => hg1.2.2 (by rw [← e]; exact hk)), Below.heap_alloc _ _ _ (by simp; omega), Below.heap_alloc _ _ _ hlt])
    exact PA.other hp nb _ _
  · rw [heap_set hB]; rfl
  · refine D.keep (fun k hk hn => ?_) (fun k hk hq => ?_)
    · rw [hold k (by omega) (fun e => by have := (hrow k e.symm).2.2; exact hn (Or.inr (Or.inr (Or.inr this)))) (fun e => hn (Or.inr (Or.inr (Or.inr (by omega))))) (fun e => hn (Or.inr (Or.inl e)))]
      exact F2.block k hk (fun h => hn (Or.inl h))
    · rcases hq with h | h
      · rcases F2.own k h with h1 | h1
        · exact Or.inl h1
        · omega
      · exact Or.inr h
  · rw [List.length_append]
    exact owns_of hown' (fun k hk => heap_set_other (fun e => by rw [hgb] at hk; cases hk; have e' : g = ob := e; omega))
  · obtain rfl : g = k := by simpa [Value.ownBlock] using hk
    rintro (h | h)
    · exact hg1.2.2 h
    · omega
  · refine AllTr.snoc ks ys x _ _ _ _ _ ?_ ?_
    · refine AllTr.keep (w := wr) (Q := fun k => (O1 k ∨ k < n1) ∨ kv.ownBlock = some k) (fun k hk hn => ?_) (fun k hk hq => ?_) ks ys T.2.2
      · rw [hold k (by omega) (fun e => hn (Or.inr e.symm)) (fun e => by
          rcases hat with h | h
          · exact hn (Or.inr (by rw [e]; exact h))
          · omega) (fun e => hn (Or.inl (Or.inr (by omega))))]
        exact F2.block k hk (fun h => hn (Or.inl (Or.inl h)))
      · rcases hq with (h | h) | h
        · rcases F2.own k h with h1 | h1
          · exact Or.inl (Or.inl h1)
          · omega
        · exact Or.inl (Or.inr h)
        · obtain rfl : g = k := by simpa [Value.ownBlock] using h
          rcases hat with h | h
          · exact Or.inr h
          · omega
    · refine TrAt.keep (w := w2) (Q := fun k => O2 k ∨ k < wr.heap.size) (fun k hk hn => ?_) (fun k hk hq => ?_) x _ T3
      · have hk2 : wr.heap.size ≤ k := Nat.le_of_not_lt (fun h => hn (Or.inr h))
        rw [hold k hk (fun e => by have := (hrow _ e.symm).1; omega) (by omega) (by omega)]
      · rcases hq with (h | h) | h
        · exact Or.inl h
        · exact Or.inr (by omega)
        · obtain rfl : g = k := by simpa [Value.ownBlock] using h
          rcases hat with h | h
          · exact Or.inr (hrow g h).1
          · omega
end Go.Proofs.YtgdeeodifnegiaaGreatDoor.rf
