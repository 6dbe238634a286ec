/- Lists that bear one mark all over: slices in memory that stay where their block does; a cell of a row of one's own is written. No walk here. -/
import Derived.Test.YtgdeeodifnegiaaGreatDoorLawA
import Derived.Test.YtgdeeodifnegiaaGreatDoorGenW
namespace Go.Proofs.YtgdeeodifnegiaaGreatDoor
open Go.RowKit

theorem IntsAt.of_block {w w' : World} {v : Value} {l : List Int} (h : IntsAt w v l) (hs : w.heap.size ≤ w'.heap.size) (hk : ∀ k, v.ownBlock = some k → w'.heap[k]? = w.heap[k]?) : IntsAt w' v l := by
  obtain ⟨p, c, hv, hcap, hl, hin, hr⟩ := h
  refine ⟨p, c, hv, hcap, hl, hin, ?_⟩
  rcases hr with h | ⟨b, o, hp, hlt, hc⟩
  · exact Or.inl h
  · refine Or.inr ⟨b, o, hp, Nat.lt_of_lt_of_le hlt hs, fun j hj => ?_⟩
    rw [World.cell?_of_block (w := w) (a := ⟨b, o + j, none⟩) (hk b (by rw [hv, hp]; rfl))]; exact hc j hj
theorem BytesAt.of_block {w w' : World} {v : Value} {l : List Int} (h : BytesAt w v l) (hs : w.heap.size ≤ w'.heap.size) (hk : ∀ k, v.ownBlock = some k → w'.heap[k]? = w.heap[k]?) : BytesAt w' v l := by
  obtain ⟨p, c, hv, hcap, hl, hin, hr⟩ := h
  refine ⟨p, c, hv, hcap, hl, hin, ?_⟩
  rcases hr with h | ⟨b, o, hp, hlt, hc⟩
  · exact Or.inl h
  · refine Or.inr ⟨b, o, hp, Nat.lt_of_lt_of_le hlt hs, fun j hj => ?_⟩
    rw [World.cell?_of_block (w := w) (a := ⟨b, o + j, none⟩) (hk b (by rw [hv, hp]; rfl))]; exact hc j hj
theorem NetsAt.of_block {w w' : World} {v : Value} {l : List (Int × Int)} (h : NetsAt w v l) (hs : w.heap.size ≤ w'.heap.size) (hk : ∀ k, v.ownBlock = some k → w'.heap[k]? = w.heap[k]?) : NetsAt w' v l := by
  obtain ⟨p, c, hv, hcap, hl, hin, hr⟩ := h
  refine ⟨p, c, hv, hcap, hl, hin, ?_⟩
  rcases hr with h | ⟨b, o, hp, hlt, hc⟩
  · exact Or.inl h
  · refine Or.inr ⟨b, o, hp, Nat.lt_of_lt_of_le hlt hs, fun j hj => ?_⟩
    rw [World.cell?_of_block (w := w) (a := ⟨b, o + j * 2, none⟩) (hk b (by rw [hv, hp]; rfl)), World.cell?_of_block (w := w) (a := ⟨b, o + j * 2 + 1, none⟩) (hk b (by rw [hv, hp]; rfl))]; exact hc j hj
/-- a cell of a row of one's own is written -/
theorem owns_set {w : World} {base : Nat} {e : TypeId} {size n g cap j : Nat} {xs : List Value} (h : w.ownsRow base e size (.slice (some ⟨g, 0, none⟩) n cap) n xs) (u : Value) :
    (w.setCell ⟨g, j, none⟩ u).ownsRow base e size (.slice (some ⟨g, 0, none⟩) n cap) n (xs.set j u) := by
  obtain ⟨h1, h2⟩ := h
  refine ⟨by rw [List.length_set]; exact h1, ?_⟩
  rcases h2 with ⟨h2, _⟩ | ⟨g', cap', cur, hv, hb, hg, hn, hm, hs, ht⟩
  · cases h2
  · simp only [Value.slice.injEq, Option.some.injEq, Addr.mk.injEq, true_and, and_true] at hv
    obtain ⟨rfl, rfl⟩ := hv
    refine Or.inr ⟨g, cap, cur.setIfInBounds j u, rfl, hb, heap_set hg, hn, hm, by simpa using hs, ?_⟩
    rw [Array.toList_setIfInBounds, List.take_set, ht]
theorem owns_frozen {w : World} {base : Nat} {e : TypeId} {size n g cap : Nat} {xs : List Value} (h : w.ownsRow base e size (.slice (some ⟨g, 0, none⟩) n cap) n xs) : ∀ o, w.frozen? ⟨g, o, none⟩ = false := by
  rcases h.2 with ⟨h2, _⟩ | ⟨g', cap', cur, hv, hb, hg, _⟩
  · cases h2
  · simp only [Value.slice.injEq, Option.some.injEq, Addr.mk.injEq, true_and, and_true] at hv
    obtain ⟨rfl, rfl⟩ := hv
    exact fun o => frozen_of_heap hg
/-- a slice all of whose entries are the mark: how it lies -/
def MarkI (w : World) (v : Value) (n : Nat) (x : Int) : Prop := IntsAt w v (List.replicate n x) ∧ ∀ b o s, (∃ c, v = .slice (some ⟨b, o, s⟩) n c) → o = 0
def MarkB (w : World) (v : Value) (n : Nat) (x : Int) : Prop := BytesAt w v (List.replicate n x) ∧ ∀ b o s, (∃ c, v = .slice (some ⟨b, o, s⟩) n c) → o = 0
def MarkN (w : World) (v : Value) (n : Nat) (x : Int × Int) : Prop := NetsAt w v (List.replicate n x) ∧ ∀ b o s, (∃ c, v = .slice (some ⟨b, o, s⟩) n c) → o = 0
theorem own_off {w : World} {base : Nat} {e : TypeId} {size n m : Nat} {v : Value} {xs : List Value} (h : w.ownsRow base e size v n xs) : ∀ b o s, (∃ c, v = .slice (some ⟨b, o, s⟩) m c) → o = 0 := by
  rintro b o s ⟨c, hv⟩
  rcases h.2 with ⟨h2, _⟩ | ⟨g, cap, cur, h2, _⟩
  · rw [h2] at hv; cases hv
  · rw [h2] at hv
    simp only [Value.slice.injEq, Option.some.injEq, Addr.mk.injEq] at hv
    exact hv.1.2.1.symm
theorem MarkI.own {w : World} {base n : Nat} {v : Value} {x : Int} (h : OwnI w base v (List.replicate n x)) (hx : inI x) (hn : n ≤ 1099511627776) : MarkI w v n x :=
  ⟨IntsAt.own h (fun y hy => by rw [List.eq_of_mem_replicate hy]; exact hx) (by rw [List.length_replicate]; omega), own_off h⟩
theorem MarkB.own {w : World} {base n : Nat} {v : Value} {x : Int} (h : OwnB w base v (List.replicate n x)) (hx : 0 ≤ x ∧ x ≤ 255) (hn : n ≤ 1099511627776) : MarkB w v n x :=
  ⟨h.at_ (fun y hy => by rw [List.eq_of_mem_replicate hy]; exact hx) (by rw [List.length_replicate]; omega), own_off h⟩
theorem MarkN.own {w : World} {base n : Nat} {v : Value} {x : Int × Int} (h : OwnN w base v (List.replicate n x)) (hx : inI x.1 ∧ inI x.2) (hn : n ≤ 1099511627776) : MarkN w v n x :=
  ⟨h.at_ (fun y hy => by rw [List.eq_of_mem_replicate hy]; exact hx) (by rw [List.length_replicate]; omega), own_off h⟩
/-- behind an append of marks to the same list, what bore the mark bears it still -/
theorem MarkI.keep {w w' : World} {base a b : Nat} {u v v' : Value} {x : Int} (h : MarkI w u a x) (ho : OwnI w' base v' (List.replicate b x)) (hab : a ≤ b) (hg : w.grownBy w' v.ownBlock)
    (hd : v'.ownBlock = v.ownBlock ∨ (v'.ownBlock = some w.heap.size ∧ ∀ k, k < w.heap.size → w'.heap[k]? = w.heap[k]?)) : MarkI w' u a x := by
  refine ⟨?_, h.2⟩
  obtain ⟨⟨p, c, hv, hcap, hl, hin, hr⟩, hoff⟩ := h
  refine ⟨p, c, hv, hcap, hl, hin, ?_⟩
  rcases hr with h | ⟨bb, o, rfl, hlt, hc⟩
  · exact Or.inl h
  · have ho0 := hoff bb o none ⟨c, by rw [hv, List.length_replicate]⟩
    subst ho0
    refine Or.inr ⟨bb, 0, rfl, Nat.lt_of_lt_of_le hlt hg.size, fun j hj => ?_⟩
    rcases hd with hd | ⟨_, hd⟩
    · by_cases hbv : v.ownBlock = some bb
      · rw [hbv] at hd
        rw [List.length_replicate] at hj
        rcases ho.2 with ⟨h2, _⟩ | ⟨g, cap, cur, h2, _⟩
        · rw [h2] at hd; cases hd
        · rw [h2] at hd
          have : g = bb := by simpa [Value.ownBlock] using hd
          subst this
          have h3 := ho.cells (show v'.ownBlock = some g by rw [h2]; rfl) j (.int .i64 x) (by simp [List.getElem?_replicate]; omega)
          rw [addr_add] at h3
          simpa using h3
      · rw [World.cell?_of_block (w := w) (a := ⟨bb, 0 + j, none⟩) (hg.block bb hlt (fun e => hbv e.symm))]; exact hc j hj
    · rw [World.cell?_of_block (w := w) (a := ⟨bb, 0 + j, none⟩) (hd bb hlt)]; exact hc j hj
theorem MarkB.keep {w w' : World} {base a b : Nat} {u v v' : Value} {x : Int} (h : MarkB w u a x) (ho : OwnB w' base v' (List.replicate b x)) (hab : a ≤ b) (hg : w.grownBy w' v.ownBlock)
    (hd : v'.ownBlock = v.ownBlock ∨ (v'.ownBlock = some w.heap.size ∧ ∀ k, k < w.heap.size → w'.heap[k]? = w.heap[k]?)) : MarkB w' u a x := by
  refine ⟨?_, h.2⟩
  obtain ⟨⟨p, c, hv, hcap, hl, hin, hr⟩, hoff⟩ := h
  refine ⟨p, c, hv, hcap, hl, hin, ?_⟩
  rcases hr with h | ⟨bb, o, rfl, hlt, hc⟩
  · exact Or.inl h
  · have ho0 := hoff bb o none ⟨c, by rw [hv, List.length_replicate]⟩
    subst ho0
    refine Or.inr ⟨bb, 0, rfl, Nat.lt_of_lt_of_le hlt hg.size, fun j hj => ?_⟩
    rcases hd with hd | ⟨_, hd⟩
    · by_cases hbv : v.ownBlock = some bb
      · rw [hbv] at hd
        rw [List.length_replicate] at hj
        rcases ho.2 with ⟨h2, _⟩ | ⟨g, cap, cur, h2, _⟩
        · rw [h2] at hd; cases hd
        · rw [h2] at hd
          have : g = bb := by simpa [Value.ownBlock] using hd
          subst this
          have h3 := ho.cells (show v'.ownBlock = some g by rw [h2]; rfl) j (.int .u8 x) (by simp [List.getElem?_replicate]; omega)
          rw [addr_add] at h3
          simpa using h3
      · rw [World.cell?_of_block (w := w) (a := ⟨bb, 0 + j, none⟩) (hg.block bb hlt (fun e => hbv e.symm))]; exact hc j hj
    · rw [World.cell?_of_block (w := w) (a := ⟨bb, 0 + j, none⟩) (hd bb hlt)]; exact hc j hj
theorem MarkN.keep {w w' : World} {base a b : Nat} {u v v' : Value} {x : Int × Int} (h : MarkN w u a x) (ho : OwnN w' base v' (List.replicate b x)) (hab : a ≤ b) (hg : w.grownBy w' v.ownBlock)
    (hd : v'.ownBlock = v.ownBlock ∨ (v'.ownBlock = some w.heap.size ∧ ∀ k, k < w.heap.size → w'.heap[k]? = w.heap[k]?)) : MarkN w' u a x := by
  refine ⟨?_, h.2⟩
  obtain ⟨⟨p, c, hv, hcap, hl, hin, hr⟩, hoff⟩ := h
  refine ⟨p, c, hv, hcap, hl, hin, ?_⟩
  rcases hr with h | ⟨bb, o, rfl, hlt, hc⟩
  · exact Or.inl h
  · have ho0 := hoff bb o none ⟨c, by rw [hv, List.length_replicate]⟩
    subst ho0
    refine Or.inr ⟨bb, 0, rfl, Nat.lt_of_lt_of_le hlt hg.size, fun j hj => ?_⟩
    rcases hd with hd | ⟨_, hd⟩
    · by_cases hbv : v.ownBlock = some bb
      · rw [hbv] at hd
        rw [List.length_replicate] at hj
        rcases ho.2 with ⟨h2, _⟩ | ⟨g, cap, cur, h2, _⟩
        · rw [h2] at hd; cases hd
        · rw [h2] at hd
          have : g = bb := by simpa [Value.ownBlock] using hd
          subst this
          obtain ⟨e1, e2⟩ := netCells_get (List.replicate b x) j (by rw [List.length_replicate]; omega)
          have h3 := ho.cells (show v'.ownBlock = some g by rw [h2]; rfl) _ _ e1
          have h4 := ho.cells (show v'.ownBlock = some g by rw [h2]; rfl) _ _ e2
          rw [addr_add] at h3 h4
          rw [Nat.zero_add, Nat.mul_comm j 2]
          simp only [List.getElem_replicate] at h3 h4 ⊢
          exact ⟨h3, h4⟩
      · rw [World.cell?_of_block (w := w) (a := ⟨bb, 0 + j * 2, none⟩) (hg.block bb hlt (fun e => hbv e.symm)), World.cell?_of_block (w := w) (a := ⟨bb, 0 + j * 2 + 1, none⟩) (hg.block bb hlt (fun e => hbv e.symm))]; exact hc j hj
    · rw [World.cell?_of_block (w := w) (a := ⟨bb, 0 + j * 2, none⟩) (hd bb hlt), World.cell?_of_block (w := w) (a := ⟨bb, 0 + j * 2 + 1, none⟩) (hd bb hlt)]; exact hc j hj
theorem MarkI.of_block {w w' : World} {v : Value} {n : Nat} {x : Int} (h : MarkI w v n x) (hs : w.heap.size ≤ w'.heap.size) (hk : ∀ k, v.ownBlock = some k → w'.heap[k]? = w.heap[k]?) : MarkI w' v n x := ⟨h.1.of_block hs hk, h.2⟩
theorem MarkB.of_block {w w' : World} {v : Value} {n : Nat} {x : Int} (h : MarkB w v n x) (hs : w.heap.size ≤ w'.heap.size) (hk : ∀ k, v.ownBlock = some k → w'.heap[k]? = w.heap[k]?) : MarkB w' v n x := ⟨h.1.of_block hs hk, h.2⟩
theorem MarkN.of_block {w w' : World} {v : Value} {n : Nat} {x : Int × Int} (h : MarkN w v n x) (hs : w.heap.size ≤ w'.heap.size) (hk : ∀ k, v.ownBlock = some k → w'.heap[k]? = w.heap[k]?) : MarkN w' v n x := ⟨h.1.of_block hs hk, h.2⟩
end Go.Proofs.YtgdeeodifnegiaaGreatDoor
