/- Lists that bear one mark all over: slices in memory that stay where their block does; a cell of a row of one's own is written. No walk here. -/
import Derived.Test.YtgngdklkoilaiaaGreatDoorMem
import Derived.Test.YtgngdklkoilaiaaGreatDoorBase
import Derived.Deep.RegionWith
import Derived.Deep.DeepCutAuto
import Derived.Deep.CutBlock
namespace Go.Proofs.YtgngdklkoilaiaaGreatDoor
open Go.RowKit

theorem IntsAt.of_block {w w' : World} {v : Value} {l : List Int} (h : IntsAt w v l) (hs : w.heap.size ≤ w'.heap.size) (hk : ∀ k, v.ownBlock = some k → w'.heap[k]? = w.heap[k]?) : IntsAt w' v l := by
  obtain ⟨p, c, hv, hcap, hl, hin, hr⟩ := h
  refine ⟨p, c, hv, hcap, hl, hin, ?_⟩
  rcases hr with h | ⟨b, o, hp, hlt, hc⟩
  · exact Or.inl h
  · refine Or.inr ⟨b, o, hp, Nat.lt_of_lt_of_le hlt hs, fun j hj => ?_⟩
    rw [World.cell?_of_block (w := w) (a := ⟨b, o + j, none⟩) (hk b (by rw [hv, hp]; rfl))]; exact hc j hj
theorem BytesAt.of_block {w w' : World} {v : Value} {l : List Int} (h : BytesAt w v l) (hs : w.heap.size ≤ w'.heap.size) (hk : ∀ k, v.ownBlock = some k → w'.heap[k]? = w.heap[k]?) : BytesAt w' v l := by
  obtain ⟨p, c, hv, hcap, hl, hin, hr⟩ := h
  refine ⟨p, c, hv, hcap, hl, hin, ?_⟩
  rcases hr with h | ⟨b, o, hp, hlt, hc⟩
  · exact Or.inl h
  · refine Or.inr ⟨b, o, hp, Nat.lt_of_lt_of_le hlt hs, fun j hj => ?_⟩
    rw [World.cell?_of_block (w := w) (a := ⟨b, o + j, none⟩) (hk b (by rw [hv, hp]; rfl))]; exact hc j hj
theorem NetsAt.of_block {w w' : World} {v : Value} {l : List (Int × Int)} (h : NetsAt w v l) (hs : w.heap.size ≤ w'.heap.size) (hk : ∀ k, v.ownBlock = some k → w'.heap[k]? = w.heap[k]?) : NetsAt w' v l := by
  obtain ⟨p, c, hv, hcap, hl, hin, hr⟩ := h
  refine ⟨p, c, hv, hcap, hl, hin, ?_⟩
  rcases hr with h | ⟨b, o, hp, hlt, hc⟩
  · exact Or.inl h
  · refine Or.inr ⟨b, o, hp, Nat.lt_of_lt_of_le hlt hs, fun j hj => ?_⟩
    rw [World.cell?_of_block (w := w) (a := ⟨b, o + j * 2, none⟩) (hk b (by rw [hv, hp]; rfl)), World.cell?_of_block (w := w) (a := ⟨b, o + j * 2 + 1, none⟩) (hk b (by rw [hv, hp]; rfl))]; exact hc j hj
/-- a cell of a row of one's own is written -/
theorem owns_set {w : World} {base : Nat} {e : TypeId} {size n g cap j : Nat} {xs : List Value} (h : w.ownsRow base e size (.slice (some ⟨g, 0, none⟩) n cap) n xs) (u : Value) :
    (w.setCell ⟨g, j, none⟩ u).ownsRow base e size (.slice (some ⟨g, 0, none⟩) n cap) n (xs.set j u) := by
  obtain ⟨h1, h2⟩ := h
  refine ⟨by rw [List.length_set]; exact h1, ?_⟩
  rcases h2 with ⟨h2, _⟩ | ⟨g', cap', cur, hv, hb, hg, hn, hm, hs, ht⟩
  · cases h2
  · simp only [Value.slice.injEq, Option.some.injEq, Addr.mk.injEq, true_and, and_true] at hv
    obtain ⟨rfl, rfl⟩ := hv
    refine Or.inr ⟨g, cap, cur.setIfInBounds j u, rfl, hb, heap_set hg, hn, hm, by simpa using hs, ?_⟩
    rw [Array.toList_setIfInBounds, List.take_set, ht]
theorem owns_frozen {w : World} {base : Nat} {e : TypeId} {size n g cap : Nat} {xs : List Value} (h : w.ownsRow base e size (.slice (some ⟨g, 0, none⟩) n cap) n xs) : ∀ o, w.frozen? ⟨g, o, none⟩ = false := by
  rcases h.2 with ⟨h2, _⟩ | ⟨g', cap', cur, hv, hb, hg, _⟩
  · cases h2
  · simp only [Value.slice.injEq, Option.some.injEq, Addr.mk.injEq, true_and, and_true] at hv
    obtain ⟨rfl, rfl⟩ := hv
    exact fun o => frozen_of_heap hg
/-- a slice all of whose entries are the mark: how it lies -/
def MarkI (w : World) (v : Value) (n : Nat) (x : Int) : Prop := IntsAt w v (List.replicate n x) ∧ ∀ b o s, (∃ c, v = .slice (some ⟨b, o, s⟩) n c) → o = 0
def MarkB (w : World) (v : Value) (n : Nat) (x : Int) : Prop := BytesAt w v (List.replicate n x) ∧ ∀ b o s, (∃ c, v = .slice (some ⟨b, o, s⟩) n c) → o = 0
def MarkN (w : World) (v : Value) (n : Nat) (x : Int × Int) : Prop := NetsAt w v (List.replicate n x) ∧ ∀ b o s, (∃ c, v = .slice (some ⟨b, o, s⟩) n c) → o = 0
theorem own_off {w : World} {base : Nat} {e : TypeId} {size n m : Nat} {v : Value} {xs : List Value} (h : w.ownsRow base e size v n xs) : ∀ b o s, (∃ c, v = .slice (some ⟨b, o, s⟩) m c) → o = 0 := by
  rintro b o s ⟨c, hv⟩
  rcases h.2 with ⟨h2, _⟩ | ⟨g, cap, cur, h2, _⟩
  · rw [h2] at hv; cases hv
  · rw [h2] at hv
    simp only [Value.slice.injEq, Option.some.injEq, Addr.mk.injEq] at hv
    exact hv.1.2.1.symm
theorem MarkI.own {w : World} {base n : Nat} {v : Value} {x : Int} (h : OwnI w base v (List.replicate n x)) (hx : inI x) (hn : n ≤ 1099511627776) : MarkI w v n x :=
  ⟨IntsAt.own h (fun y hy => by rw [List.eq_of_mem_replicate hy]; exact hx) (by rw [List.length_replicate]; omega), own_off h⟩
theorem MarkB.own {w : World} {base n : Nat} {v : Value} {x : Int} (h : OwnB w base v (List.replicate n x)) (hx : 0 ≤ x ∧ x ≤ 255) (hn : n ≤ 1099511627776) : MarkB w v n x :=
  ⟨h.at_ (fun y hy => by rw [List.eq_of_mem_replicate hy]; exact hx) (by rw [List.length_replicate]; omega), own_off h⟩
theorem MarkN.own {w : World} {base n : Nat} {v : Value} {x : Int × Int} (h : OwnN w base v (List.replicate n x)) (hx : inI x.1 ∧ inI x.2) (hn : n ≤ 1099511627776) : MarkN w v n x :=
  ⟨h.at_ (fun y hy => by rw [List.eq_of_mem_replicate hy]; exact hx) (by rw [List.length_replicate]; omega), own_off h⟩
/-- behind an append of marks to the same list, what bore the mark bears it still -/
theorem MarkI.keep {w w' : World} {base a b : Nat} {u v v' : Value} {x : Int} (h : MarkI w u a x) (ho : OwnI w' base v' (List.replicate b x)) (hab : a ≤ b) (hg : w.grownBy w' v.ownBlock)
    (hd : v'.ownBlock = v.ownBlock ∨ (v'.ownBlock = some w.heap.size ∧ ∀ k, k < w.heap.size → w'.heap[k]? = w.heap[k]?)) : MarkI w' u a x := by
  refine ⟨?_, h.2⟩
  obtain ⟨⟨p, c, hv, hcap, hl, hin, hr⟩, hoff⟩ := h
  refine ⟨p, c, hv, hcap, hl, hin, ?_⟩
  rcases hr with h | ⟨bb, o, rfl, hlt, hc⟩
  · exact Or.inl h
  · have ho0 := hoff bb o none ⟨c, by rw [hv, List.length_replicate]⟩
    subst ho0
    refine Or.inr ⟨bb, 0, rfl, Nat.lt_of_lt_of_le hlt hg.size, fun j hj => ?_⟩
    rcases hd with hd | ⟨_, hd⟩
    · by_cases hbv : v.ownBlock = some bb
      · rw [hbv] at hd
        rw [List.length_replicate] at hj
        rcases ho.2 with ⟨h2, _⟩ | ⟨g, cap, cur, h2, _⟩
        · rw [h2] at hd; cases hd
        · rw [h2] at hd
          have : g = bb := by simpa [Value.ownBlock] using hd
          subst this
          have h3 := ho.cells (show v'.ownBlock = some g by rw [h2]; rfl) j (.int .i64 x) (by simp [List.getElem?_replicate]; omega)
          rw [addr_add] at h3
          simpa using h3
      · rw [World.cell?_of_block (w := w) (a := ⟨bb, 0 + j, none⟩) (hg.block bb hlt (fun e => hbv e.symm))]; exact hc j hj
    · rw [World.cell?_of_block (w := w) (a := ⟨bb, 0 + j, none⟩) (hd bb hlt)]; exact hc j hj
theorem MarkB.keep {w w' : World} {base a b : Nat} {u v v' : Value} {x : Int} (h : MarkB w u a x) (ho : OwnB w' base v' (List.replicate b x)) (hab : a ≤ b) (hg : w.grownBy w' v.ownBlock)
    (hd : v'.ownBlock = v.ownBlock ∨ (v'.ownBlock = some w.heap.size ∧ ∀ k, k < w.heap.size → w'.heap[k]? = w.heap[k]?)) : MarkB w' u a x := by
  refine ⟨?_, h.2⟩
  obtain ⟨⟨p, c, hv, hcap, hl, hin, hr⟩, hoff⟩ := h
  refine ⟨p, c, hv, hcap, hl, hin, ?_⟩
  rcases hr with h | ⟨bb, o, rfl, hlt, hc⟩
  · exact Or.inl h
  · have ho0 := hoff bb o none ⟨c, by rw [hv, List.length_replicate]⟩
    subst ho0
    refine Or.inr ⟨bb, 0, rfl, Nat.lt_of_lt_of_le hlt hg.size, fun j hj => ?_⟩
    rcases hd with hd | ⟨_, hd⟩
    · by_cases hbv : v.ownBlock = some bb
      · rw [hbv] at hd
        rw [List.length_replicate] at hj
        rcases ho.2 with ⟨h2, _⟩ | ⟨g, cap, cur, h2, _⟩
        · rw [h2] at hd; cases hd
        · rw [h2] at hd
          have : g = bb := by simpa [Value.ownBlock] using hd
          subst this
          have h3 := ho.cells (show v'.ownBlock = some g by rw [h2]; rfl) j (.int .u8 x) (by simp [List.getElem?_replicate]; omega)
          rw [addr_add] at h3
          simpa using h3
      · rw [World.cell?_of_block (w := w) (a := ⟨bb, 0 + j, none⟩) (hg.block bb hlt (fun e => hbv e.symm))]; exact hc j hj
    · rw [World.cell?_of_block (w := w) (a := ⟨bb, 0 + j, none⟩) (hd bb hlt)]; exact hc j hj
theorem MarkN.keep {w w' : World} {base a b : Nat} {u v v' : Value} {x : Int × Int} (h : MarkN w u a x) (ho : OwnN w' base v' (List.replicate b x)) (hab : a ≤ b) (hg : w.grownBy w' v.ownBlock)
    (hd : v'.ownBlock = v.ownBlock ∨ (v'.ownBlock = some w.heap.size ∧ ∀ k, k < w.heap.size → w'.heap[k]? = w.heap[k]?)) : MarkN w' u a x := by
  refine ⟨?_, h.2⟩
  obtain ⟨⟨p, c, hv, hcap, hl, hin, hr⟩, hoff⟩ := h
  refine ⟨p, c, hv, hcap, hl, hin, ?_⟩
  rcases hr with h | ⟨bb, o, rfl, hlt, hc⟩
  · exact Or.inl h
  · have ho0 := hoff bb o none ⟨c, by rw [hv, List.length_replicate]⟩
    subst ho0
    refine Or.inr ⟨bb, 0, rfl, Nat.lt_of_lt_of_le hlt hg.size, fun j hj => ?_⟩
    rcases hd with hd | ⟨_, hd⟩
    · by_cases hbv : v.ownBlock = some bb
      · rw [hbv] at hd
        rw [List.length_replicate] at hj
        rcases ho.2 with ⟨h2, _⟩ | ⟨g, cap, cur, h2, _⟩
        · rw [h2] at hd; cases hd
        · rw [h2] at hd
          have : g = bb := by simpa [Value.ownBlock] using hd
          subst this
          obtain ⟨e1, e2⟩ := netCells_get (List.replicate b x) j (by rw [List.length_replicate]; omega)
          have h3 := ho.cells (show v'.ownBlock = some g by rw [h2]; rfl) _ _ e1
          have h4 := ho.cells (show v'.ownBlock = some g by rw [h2]; rfl) _ _ e2
          rw [addr_add] at h3 h4
          rw [Nat.zero_add, Nat.mul_comm j 2]
          simp only [List.getElem_replicate] at h3 h4 ⊢
          exact ⟨h3, h4⟩
      · rw [World.cell?_of_block (w := w) (a := ⟨bb, 0 + j * 2, none⟩) (hg.block bb hlt (fun e => hbv e.symm)), World.cell?_of_block (w := w) (a := ⟨bb, 0 + j * 2 + 1, none⟩) (hg.block bb hlt (fun e => hbv e.symm))]; exact hc j hj
    · rw [World.cell?_of_block (w := w) (a := ⟨bb, 0 + j * 2, none⟩) (hd bb hlt), World.cell?_of_block (w := w) (a := ⟨bb, 0 + j * 2 + 1, none⟩) (hd bb hlt)]; exact hc j hj
theorem MarkI.of_block {w w' : World} {v : Value} {n : Nat} {x : Int} (h : MarkI w v n x) (hs : w.heap.size ≤ w'.heap.size) (hk : ∀ k, v.ownBlock = some k → w'.heap[k]? = w.heap[k]?) : MarkI w' v n x := ⟨h.1.of_block hs hk, h.2⟩
theorem MarkB.of_block {w w' : World} {v : Value} {n : Nat} {x : Int} (h : MarkB w v n x) (hs : w.heap.size ≤ w'.heap.size) (hk : ∀ k, v.ownBlock = some k → w'.heap[k]? = w.heap[k]?) : MarkB w' v n x := ⟨h.1.of_block hs hk, h.2⟩
theorem MarkN.of_block {w w' : World} {v : Value} {n : Nat} {x : Int × Int} (h : MarkN w v n x) (hs : w.heap.size ≤ w'.heap.size) (hk : ∀ k, v.ownBlock = some k → w'.heap[k]? = w.heap[k]?) : MarkN w' v n x := ⟨h.1.of_block hs hk, h.2⟩
end Go.Proofs.YtgngdklkoilaiaaGreatDoor

namespace Go.Proofs.YtgngdklkoilaiaaGreatDoor
open Go.RowKit

theorem IntsAt.rep {w : World} {v : Value} {n : Nat} {x : Int} (h : IntsAt w v (List.replicate n x)) : ∃ p c, v = .slice p n c := by
  obtain ⟨p, c, hv, -⟩ := h
  exact ⟨p, c, by rw [hv, List.length_replicate]⟩
def markX (m : Nat) : Int := -1000 - (m : Int)
theorem markX_in {m : Nat} (h : m ≤ 1099511627776) : inI (markX m) := by unfold markX inI; omega
set_option maxHeartbeats 400000 in
theorem allInts_any (n m : Nat) (v : Value) (w : World) (hm : m ≤ 1099511627776) (h : IntsAt w v (List.replicate n (markX m))) :
    Calls Tryz.prog 59 #[v, .int .i64 m] w fun e w' => e = .returned (.bool true) ∧ w' = w := by
  obtain ⟨p, c, rfl, hcap, hl, hin, hr⟩ := h
  rw [List.length_replicate] at *
  have HR := hide hr
  clear hr hin
  have hx : markX m = -1000 - (m : Int) := rfl
  go_enter Tryz.func59, Tryz.ntmps59
  go_wp2
  go_loop [5] (fun i => ∃ k : Nat, k ≤ n ∧ i = .int .i64 k) (fun i => n - (intOf i).toNat)
  case atStart => exact ⟨0, Nat.zero_le _, rfl⟩
  case round =>
    obtain ⟨k, hk, rfl⟩ := hrel
    by_cases hlt : k < n
    · rcases unhide HR with h | ⟨b, o, rfl, hb, hc⟩
      · have := congrArg List.length h.1; simp at this; omega
      have hck := hc k (by rw [List.length_replicate]; exact hlt)
      rw [List.getElem_replicate, hx] at hck
      clear hc hx
      go_wp2
      go_round
      case rel => exact ⟨k + 1, by omega, by go_num⟩
      case measure => simp [intOf]; omega
    · go_wp2
      go_ret
      exact ⟨rfl, rfl⟩

set_option maxRecDepth 100000 in
set_option maxHeartbeats 800000 in
theorem Ints_still_any (n0 n1 n2 n3 m : Nat) (v0 v1 v2 v3 : Value) (w : World) (hm : m ≤ 1099511627776) (h0 : IntsAt w v0 (List.replicate n0 (markX m))) (h1 : IntsAt w v1 (List.replicate n1 (markX m)))
    (h2 : IntsAt w v2 (List.replicate n2 (markX m))) (h3 : IntsAt w v3 (List.replicate n3 (markX m))) :
    Calls Tryz.prog 18 #[.agg #[v0, v1, v2, v3, .int .i64 m]] w fun e w' => e = .returned (.bool true) ∧ Below w.heap.size w w' := by
  have H0 := hide h0
  have H1 := hide h1
  have H2 := hide h2
  have H3 := hide h3
  obtain ⟨p0, c0, rfl⟩ := h0.rep
  obtain ⟨p1, c1, rfl⟩ := h1.rep
  obtain ⟨p2, c2, rfl⟩ := h2.rep
  obtain ⟨p3, c3, rfl⟩ := h3.rep
  have BA := hide ((Below.refl w.heap.size w).alloc (Nat.le_refl _) (.cells #[.slice p0 n0 c0, .slice p1 n1 c1, .slice p2 n2 c2, .slice p3 n3 c3, .int .i64 m] 67))
  go_enter Tryz.func18, Tryz.ntmps18
  go_wp2_with fail
  refine (allInts_any n0 m _ _ hm ((unhide H0).below (unhide BA))).mono ?_
  rintro e w1 ⟨rfl, rfl⟩
  go_wp2_with fail
  refine (allInts_any n1 m _ _ hm ((unhide H1).below (unhide BA))).mono ?_
  rintro e w1 ⟨rfl, rfl⟩
  go_wp2_with fail
  refine (allInts_any n2 m _ _ hm ((unhide H2).below (unhide BA))).mono ?_
  rintro e w1 ⟨rfl, rfl⟩
  go_wp2_with fail
  refine (allInts_any n3 m _ _ hm ((unhide H3).below (unhide BA))).mono ?_
  rintro e w1 ⟨rfl, rfl⟩
  go_wp2
  go_ret
  exact ⟨rfl, unhide BA⟩

theorem rep_set (k : Nat) (x : Int) (L : List Int) (hk : k < L.length) : (List.replicate k x ++ L.drop k).set k x = List.replicate (k + 1) x ++ L.drop (k + 1) := by
  have e : L.drop k = L[k] :: L.drop (k + 1) := List.drop_eq_getElem_cons hk
  rw [List.set_append_right _ _ (by simp), List.length_replicate, Nat.sub_self, e, List.set_cons_zero, List.replicate_succ', List.append_assoc]
  rfl
theorem rep_snoc (n m : Nat) (x : Int) (f : Int → Value) : (List.replicate n x).map f ++ (List.replicate m x).map f = (List.replicate (n + m) x).map f := by
  rw [← List.map_append, List.replicate_append_replicate]
theorem MarkI.alloc {w : World} {v : Value} {n : Nat} {x : Int} (h : MarkI w v n x) (o : Obj) : MarkI (w.alloc o) v n x := ⟨h.1.below ((Below.refl _ _).alloc (Nat.le_refl _) o), h.2⟩
theorem OwnI.rep {w : World} {base k j : Nat} {v : Value} {x : Int} (h : w.ownsRow base 3 1 v (k + j) ((List.replicate k x).map (Value.int .i64) ++ (List.replicate j x).map (Value.int .i64))) : OwnI w base v (List.replicate (k + j) x) := by
  rw [rep_snoc] at h
  unfold OwnI
  rw [List.length_replicate]; exact h
theorem five_cells {w : World} {b : Nat} {v0 v1 v2 v3 v4 : Value} {T : TypeId} (h : w.heap[b]? = some (.cells #[v0, v1, v2, v3, v4] T (0, 0))) :
    w.cell? ⟨b, 0, none⟩ = some v0 ∧ w.cell? ⟨b, 1, none⟩ = some v1 ∧ w.cell? ⟨b, 2, none⟩ = some v2 ∧ w.cell? ⟨b, 3, none⟩ = some v3 ∧ w.cell? ⟨b, 4, none⟩ = some v4 :=
  ⟨cell_of_heap h, cell_of_heap h, cell_of_heap h, cell_of_heap h, cell_of_heap h⟩
theorem heap_set5 {w : World} {b k : Nat} {x0 x1 x2 x3 x4 : Value} (h : k ≠ b) : (((((w.setCell ⟨b, 0, none⟩ x0).setCell ⟨b, 1, none⟩ x1).setCell ⟨b, 2, none⟩ x2).setCell ⟨b, 3, none⟩ x3).setCell ⟨b, 4, none⟩ x4).heap[k]? = w.heap[k]? := by
  rw [heap_set_other h, heap_set_other h, heap_set_other h, heap_set_other h, heap_set_other h]
theorem size_set5 {w : World} {b : Nat} {x0 x1 x2 x3 x4 : Value} : (((((w.setCell ⟨b, 0, none⟩ x0).setCell ⟨b, 1, none⟩ x1).setCell ⟨b, 2, none⟩ x2).setCell ⟨b, 3, none⟩ x3).setCell ⟨b, 4, none⟩ x4).heap.size = w.heap.size := by
  simp [World.setCell]
theorem Fr.set5 {O O' : Nat → Prop} {w w' : World} {b : Nat} (h : Fr O w O' w') (hb : w.heap.size ≤ b) (x0 x1 x2 x3 x4 : Value) : Fr O w O' (((((w'.setCell ⟨b, 0, none⟩ x0).setCell ⟨b, 1, none⟩ x1).setCell ⟨b, 2, none⟩ x2).setCell ⟨b, 3, none⟩ x3).setCell ⟨b, 4, none⟩ x4) :=
  ((((h.setCell (Or.inr hb) _).setCell (Or.inr hb) _).setCell (Or.inr hb) _).setCell (Or.inr hb) _).setCell (Or.inr hb) _
theorem MarkI.set5 {w : World} {b n : Nat} {v : Value} {x : Int} (h : MarkI w v n x) (hb : v.ownBlock ≠ some b) (x0 x1 x2 x3 x4 : Value) : MarkI (((((w.setCell ⟨b, 0, none⟩ x0).setCell ⟨b, 1, none⟩ x1).setCell ⟨b, 2, none⟩ x2).setCell ⟨b, 3, none⟩ x3).setCell ⟨b, 4, none⟩ x4) v n x :=
  h.of_block (by rw [size_set5]; exact Nat.le_refl _) (fun k hk => heap_set5 (fun e => hb (by rw [hk, e])))
theorem ne_new {v v' : Value} {s s0 : Nat} (hs : s < s0) {P : Prop} (hv : v.ownBlock ≠ some s) (h : v'.ownBlock = v.ownBlock ∨ (v'.ownBlock = some s0 ∧ P)) : v'.ownBlock ≠ some s := by
  rcases h with h | ⟨h, _⟩
  · rw [h]; exact hv
  · rw [h]; intro e; have : s0 = s := by simpa using e
    omega
/-- what ownInts gives: the list and the three begun at it bear the mark; nothing else that is old was written -/
structure OwnedI (w : World) (v : Value) (n m : Nat) (v1 v2 v3 : Value) (w' : World) : Prop where
  m0 : MarkI w' v n (markX m)
  m1 : MarkI w' v1 (n + 1) (markX m)
  m2 : MarkI w' v2 (n + 2) (markX m)
  m3 : MarkI w' v3 (n + 3) (markX m)
  fr : Fr (fun k => v.ownBlock = some k) w (fun k => v.ownBlock = some k) w'
  b1 : v1.ownBlock = v.ownBlock ∨ ∀ k, v1.ownBlock = some k → w.heap.size ≤ k
  b2 : v2.ownBlock = v.ownBlock ∨ ∀ k, v2.ownBlock = some k → w.heap.size ≤ k
  b3 : v3.ownBlock = v.ownBlock ∨ ∀ k, v3.ownBlock = some k → w.heap.size ≤ k
theorem own_q {w : World} {base : Nat} {e : TypeId} {size n : Nat} {q : Option Addr} {c : Nat} {xs : List Value} (h : w.ownsRow base e size (.slice q n c) n xs) (hn : 0 < n) : ∃ g, q = some ⟨g, 0, none⟩ := by
  rcases h.2 with ⟨h2, h3⟩ | ⟨g, cap, cur, h2, _⟩
  · omega
  · simp only [Value.slice.injEq] at h2
    exact ⟨g, h2.1⟩
theorem at_new {v v' : Value} {s s0 : Nat} (hs : s ≤ s0) {P : Prop} (h : v'.ownBlock = v.ownBlock ∨ (v'.ownBlock = some s0 ∧ P)) : v'.ownBlock = v.ownBlock ∨ ∀ k, v'.ownBlock = some k → s ≤ k := by
  rcases h with h | ⟨h, _⟩
  · exact Or.inl h
  · refine Or.inr (fun k hk => ?_)
    rw [h] at hk
    have : s0 = k := by simpa using hk
    omega

set_option maxRecDepth 100000 in
set_option maxHeartbeats 1600000 in
theorem ownInts_any (m : Nat) (L : List Int) (v : Value) (w : World) (base : Nat) (hm : m ≤ 1099511627776) (ho : OwnI w base v L) (hb : base ≤ w.heap.size) (hl : L.length ≤ 16777216) :
    Calls Tryz.prog 88 #[v, .int .i64 m] w fun e w' => ∃ v1 v2 v3, e = .returned (.agg #[v, v1, v2, v3, .int .i64 m]) ∧ OwnedI w v L.length m v1 v2 v3 w' := by
  obtain ⟨i0, hi0, hz0, hz1, hz2⟩ := info_parts Tryz.infoInt
  obtain ⟨q, c, rfl⟩ := own_slice ho
  have HO := hide (show w.ownsRow base 3 1 (.slice q L.length c) L.length (L.map (Value.int .i64)) from ho)
  have HLT := hide ho.lt
  obtain ⟨n, hn⟩ : ∃ n, L.length = n := ⟨_, rfl⟩
  rw [hn] at HO hl HLT
  have HN := hide hn
  have hxin := markX_in hm
  have hx : markX m = -1000 - (m : Int) := rfl
  clear ho
  rw [hn]
  clear hn
  obtain ⟨Z, hZ⟩ : ∃ Z : Obj, Z = .cells #[.slice none 0 0, .slice none 0 0, .slice none 0 0, .slice none 0 0, .int .i64 0] 67 := ⟨_, rfl⟩
  have QR := hide (heap_alloc_new w Z)
  have BR := hide ((Below.refl w.heap.size w).alloc (Nat.le_refl _) Z)
  rw [hZ] at QR BR
  clear hZ Z
  go_enter Tryz.func88, Tryz.ntmps88
  go_wp2_with fail
  go_loopw [6] (fun i wr => ∃ k : Nat, k ≤ n ∧ i = .int .i64 k ∧ wr.ownsRow base 3 1 (.slice q n c) n ((List.replicate k (markX m) ++ L.drop k).map (Value.int .i64)) ∧ Fr (fun j => (Value.slice q n c).ownBlock = some j) w (fun j => (Value.slice q n c).ownBlock = some j) wr ∧ wr.heap[w.heap.size]? = some (.cells #[.slice none 0 0, .slice none 0 0, .slice none 0 0, .slice none 0 0, .int .i64 0] 67 (0, 0))) (fun i _ => n - (intOf i).toNat)
  case atStart => exact ⟨0, Nat.zero_le _, rfl, by simpa using World.ownsRow.alloc (unhide HO) _, (Fr.refl _ _).alloc _, unhide QR⟩
  case round =>
    rename World => WR
    obtain ⟨k, hk, rfl, how, hfr, hbk⟩ := hrel
    have OW := hide how
    have FR := hide hfr
    have BK := hide hbk
    clear how hfr hbk
    by_cases hlt : k < n
    · obtain ⟨g, rfl⟩ := own_q (unhide OW) (by omega)
      have hlt2 : k < L.length := by rw [unhide HN]; exact hlt
      have hc := (unhide OW).cells (g := g) rfl k (.int .i64 L[k]) (by
        rw [List.getElem?_map, List.getElem?_append_right (by simp)]; simp [hlt2])
      rw [addr_add] at hc
      have hf := owns_frozen (unhide OW) k
      have HS := hide (owns_set (j := k) (unhide OW) (.int .i64 (markX m)))
      have hgne : g ≠ w.heap.size := by have := (unhide HLT g rfl).2; omega
      go_wp2
      go_roundw
      case rel =>
        refine ⟨k + 1, by omega, by go_num, ?_, (unhide FR).setCell (p := ⟨g, k, none⟩) (Or.inl rfl) _, ?_⟩
        · have := unhide HS
          rw [← List.map_set, rep_set k _ L hlt2] at this
          exact this
        · rw [heap_set_other (by exact fun e => hgne e.symm)]; exact unhide BK
      case measure => simp [intOf]; omega
    · have hkn : k = n := by omega
      subst hkn
      have OW0 : Hid (WR.ownsRow base 3 1 (.slice q k c) k ((List.replicate k (markX m)).map (Value.int .i64))) := by
        have := unhide OW
        rwa [List.drop_of_length_le (by rw [unhide HN]; exact Nat.le_refl _), List.append_nil] at this
      clear OW
      have hs0 := (unhide FR).size
      have hbw : base ≤ WR.heap.size := by omega
      have hlR : w.heap.size < WR.heap.size := heap_lt (unhide BK)
      have vlt := hide (unhide OW0).lt
      have vne : (Value.slice q k c).ownBlock ≠ some w.heap.size := fun e => by have := (unhide HLT _ e).2; omega
      go_upto_region 7 with (at_builtin; refine wpList_append_two rfl _ _ _ rfl base 3 i0 _ 1 8 Tryz.underlying25 hi0 hz0 hz1 hz2 rfl (by omega) (.slice q k c) k ((List.replicate k (markX m)).map (Value.int .i64)) rfl (World.ownsRow.alloc (unhide OW0) _) ⟨WR.heap.size, 0, none⟩ 1 1 [.int .i64 (-1000 - (m : Int))] rfl rfl (World.news_of_block (heap_alloc_new _ _)) (by simp [Value.oneCell']) (by simp only [maxLen]; omega) (by omega) (by simp; omega) ?_; intro v1 w1 hown hold hgrow hat)
      have O1 := hide (OwnI.rep (j := 1) hown)
      have V1 := hide hold
      have M1 := hide (MarkI.own (unhide O1) hxin (by omega))
      have F1 := hide (((unhide FR).alloc _).grown hgrow (fun j hj => Or.inl hj))
      have BK1 := hide ((hgrow.block w.heap.size (by simp; omega) (fun e => vne e.symm)).trans ((Below.heap_alloc _ _ _ hlR).trans (unhide BK)))
      have A1 := hide (at_new (s := w.heap.size) (by simp; omega) hat)
      have N1 := hide (ne_new (s := w.heap.size) (by simp; omega) vne hat)
      have hs1 : WR.heap.size + 1 ≤ w1.heap.size := by have := hgrow.size; simpa using this
      obtain ⟨q1, c1, rfl⟩ := own_slice hown
      clear hown hold hgrow hat BK OW0 FR
      go_upto_region 8 with (at_builtin; refine wpList_append_two rfl _ _ _ rfl base 3 i0 _ 1 8 Tryz.underlying25 hi0 hz0 hz1 hz2 rfl (by omega) (.slice q k c) k ((List.replicate k (markX m)).map (Value.int .i64)) rfl (World.ownsRow.alloc (unhide V1) _) ⟨w1.heap.size, 0, none⟩ 2 2 [.int .i64 (-1000 - (m : Int)), .int .i64 (-1000 - (m : Int))] rfl rfl (World.news_of_block (heap_alloc_new _ _)) (by simp [Value.oneCell']) (by simp only [maxLen]; omega) (by omega) (by simp; omega) ?_; intro v2 w2 hown hold hgrow hat)
      have O2 := hide (OwnI.rep (j := 2) hown)
      have V2 := hide hold
      have M2 := hide (MarkI.own (unhide O2) hxin (by omega))
      have M12 := hide (((unhide M1).alloc _).keep (unhide O2) (by omega) hgrow hat)
      have F2 := hide (((unhide F1).alloc _).grown hgrow (fun j hj => Or.inl hj))
      have BK2 := hide ((hgrow.block w.heap.size (by simp; omega) (fun e => vne e.symm)).trans ((Below.heap_alloc _ _ _ (by omega)).trans (unhide BK1)))
      have A2 := hide (at_new (s := w.heap.size) (by simp; omega) hat)
      have N2 := hide (ne_new (s := w.heap.size) (by simp; omega) vne hat)
      have hs2 : w1.heap.size + 1 ≤ w2.heap.size := by have := hgrow.size; simpa using this
      obtain ⟨q2, c2, rfl⟩ := own_slice hown
      clear hown hold hgrow hat BK1 V1 F1 M1 O1
      go_upto_region 9 with (at_builtin; refine wpList_append_two rfl _ _ _ rfl base 3 i0 _ 1 8 Tryz.underlying25 hi0 hz0 hz1 hz2 rfl (by omega) (.slice q k c) k ((List.replicate k (markX m)).map (Value.int .i64)) rfl (World.ownsRow.alloc (unhide V2) _) ⟨w2.heap.size, 0, none⟩ 3 3 [.int .i64 (-1000 - (m : Int)), .int .i64 (-1000 - (m : Int)), .int .i64 (-1000 - (m : Int))] rfl rfl (World.news_of_block (heap_alloc_new _ _)) (by simp [Value.oneCell']) (by simp only [maxLen]; omega) (by omega) (by simp; omega) ?_; intro v3 w3 hown hold hgrow hat)
      have O3 := hide (OwnI.rep (j := 3) hown)
      have M3 := hide (MarkI.own (unhide O3) hxin (by omega))
      have M13 := hide (((unhide M12).alloc _).keep (unhide O3) (by omega) hgrow hat)
      have M23 := hide (((unhide M2).alloc _).keep (unhide O3) (by omega) hgrow hat)
      have M03 := hide (MarkI.own (n := k) (base := base) (by unfold OwnI; rw [List.length_replicate]; exact hold) hxin (by omega))
      have F3 := hide (((unhide F2).alloc _).grown hgrow (fun j hj => Or.inl hj))
      have BK3 := (hgrow.block w.heap.size (by simp; omega) (fun e => vne e.symm)).trans ((Below.heap_alloc _ _ _ (by omega)).trans (unhide BK2))
      have A3 := hide (at_new (s := w.heap.size) (by simp; omega) hat)
      have N3 := hide (ne_new (s := w.heap.size) (by simp; omega) vne hat)
      obtain ⟨q3, c3, rfl⟩ := own_slice hown
      obtain ⟨r0, r1, r2, r3, r4⟩ := five_cells BK3
      have hf : ∀ o, w3.frozen? ⟨w.heap.size, o, none⟩ = false := fun o => frozen_of_heap BK3
      have VNE := hide vne
      clear hown hold hgrow hat BK2 BK3 V2 F2 M12 M2 O2 O3 vne
      go_wp2
      refine bodyPost_ret (v := .agg #[.slice q k c, .slice q1 (k + 1) c1, .slice q2 (k + 2) c2, .slice q3 (k + 3) c3, .int .i64 m]) (by simp [results, Tryz.results88, go_sem, r0, r1, r2, r3, r4]) rfl ?_
      exact ⟨_, _, _, rfl, (unhide M03).set5 (unhide VNE) _ _ _ _ _, (unhide M13).set5 (unhide N1) _ _ _ _ _, (unhide M23).set5 (unhide N2) _ _ _ _ _, (unhide M3).set5 (unhide N3) _ _ _ _ _, (unhide F3).set5 (Nat.le_refl _) _ _ _ _ _, unhide A1, unhide A2, unhide A3⟩
end Go.Proofs.YtgngdklkoilaiaaGreatDoor

namespace Go.Proofs.YtgngdklkoilaiaaGreatDoor
open Go.RowKit

theorem BytesAt.rep {w : World} {v : Value} {n : Nat} {x : Int} (h : BytesAt w v (List.replicate n x)) : ∃ p c, v = .slice p n c := by
  obtain ⟨p, c, hv, -⟩ := h
  exact ⟨p, c, by rw [hv, List.length_replicate]⟩
def markY (m : Nat) : Int := (m : Int) % 251
theorem markY_in (m : Nat) : 0 ≤ markY m ∧ markY m ≤ 255 := by unfold markY; omega
set_option maxHeartbeats 400000 in
theorem allBytes_any (n m : Nat) (v : Value) (w : World) (hm : m ≤ 1099511627776) (h : BytesAt w v (List.replicate n (markY m))) :
    Calls Tryz.prog 58 #[v, .int .i64 m] w fun e w' => e = .returned (.bool true) ∧ w' = w := by
  obtain ⟨p, c, rfl, hcap, hl, hin, hr⟩ := h
  rw [List.length_replicate] at *
  have HR := hide hr
  clear hr hin
  have hx : markY m = (m : Int) % 251 := rfl
  go_enter Tryz.func58, Tryz.ntmps58
  go_wp2
  go_loop [5] (fun i => ∃ k : Nat, k ≤ n ∧ i = .int .i64 k) (fun i => n - (intOf i).toNat)
  case atStart => exact ⟨0, Nat.zero_le _, rfl⟩
  case round =>
    obtain ⟨k, hk, rfl⟩ := hrel
    by_cases hlt : k < n
    · rcases unhide HR with h | ⟨b, o, rfl, hb, hc⟩
      · have := congrArg List.length h.1; simp at this; omega
      have hck := hc k (by rw [List.length_replicate]; exact hlt)
      rw [List.getElem_replicate, hx] at hck
      clear hc hx
      go_wp2
      go_round
      case rel => exact ⟨k + 1, by omega, by go_num⟩
      case measure => simp [intOf]; omega
    · go_wp2
      go_ret
      exact ⟨rfl, rfl⟩

set_option maxRecDepth 100000 in
set_option maxHeartbeats 800000 in
theorem Bytes_still_any (n0 n1 n2 n3 m : Nat) (v0 v1 v2 v3 : Value) (w : World) (hm : m ≤ 1099511627776) (h0 : BytesAt w v0 (List.replicate n0 (markY m))) (h1 : BytesAt w v1 (List.replicate n1 (markY m)))
    (h2 : BytesAt w v2 (List.replicate n2 (markY m))) (h3 : BytesAt w v3 (List.replicate n3 (markY m))) :
    Calls Tryz.prog 17 #[.agg #[v0, v1, v2, v3, .int .i64 m]] w fun e w' => e = .returned (.bool true) ∧ Below w.heap.size w w' := by
  have H0 := hide h0
  have H1 := hide h1
  have H2 := hide h2
  have H3 := hide h3
  obtain ⟨p0, c0, rfl⟩ := h0.rep
  obtain ⟨p1, c1, rfl⟩ := h1.rep
  obtain ⟨p2, c2, rfl⟩ := h2.rep
  obtain ⟨p3, c3, rfl⟩ := h3.rep
  have BA := hide ((Below.refl w.heap.size w).alloc (Nat.le_refl _) (.cells #[.slice p0 n0 c0, .slice p1 n1 c1, .slice p2 n2 c2, .slice p3 n3 c3, .int .i64 m] 65))
  go_enter Tryz.func17, Tryz.ntmps17
  go_wp2_with fail
  refine (allBytes_any n0 m _ _ hm ((unhide H0).below (unhide BA))).mono ?_
  rintro e w1 ⟨rfl, rfl⟩
  go_wp2_with fail
  refine (allBytes_any n1 m _ _ hm ((unhide H1).below (unhide BA))).mono ?_
  rintro e w1 ⟨rfl, rfl⟩
  go_wp2_with fail
  refine (allBytes_any n2 m _ _ hm ((unhide H2).below (unhide BA))).mono ?_
  rintro e w1 ⟨rfl, rfl⟩
  go_wp2_with fail
  refine (allBytes_any n3 m _ _ hm ((unhide H3).below (unhide BA))).mono ?_
  rintro e w1 ⟨rfl, rfl⟩
  go_wp2
  go_ret
  exact ⟨rfl, unhide BA⟩

theorem MarkB.alloc {w : World} {v : Value} {n : Nat} {x : Int} (h : MarkB w v n x) (o : Obj) : MarkB (w.alloc o) v n x := ⟨h.1.below ((Below.refl _ _).alloc (Nat.le_refl _) o), h.2⟩
theorem OwnB.rep {w : World} {base k j : Nat} {v : Value} {x : Int} (h : w.ownsRow base 5 1 v (k + j) ((List.replicate k x).map (Value.int .u8) ++ (List.replicate j x).map (Value.int .u8))) : OwnB w base v (List.replicate (k + j) x) := by
  rw [rep_snoc] at h
  unfold OwnB
  rw [List.length_replicate]; exact h
theorem MarkB.set5 {w : World} {b n : Nat} {v : Value} {x : Int} (h : MarkB w v n x) (hb : v.ownBlock ≠ some b) (x0 x1 x2 x3 x4 : Value) : MarkB (((((w.setCell ⟨b, 0, none⟩ x0).setCell ⟨b, 1, none⟩ x1).setCell ⟨b, 2, none⟩ x2).setCell ⟨b, 3, none⟩ x3).setCell ⟨b, 4, none⟩ x4) v n x :=
  h.of_block (by rw [size_set5]; exact Nat.le_refl _) (fun k hk => heap_set5 (fun e => hb (by rw [hk, e])))
/-- what ownBytes gives: the list and the three begun at it bear the mark; nothing else that is old was written -/
structure OwnedB (w : World) (v : Value) (n m : Nat) (v1 v2 v3 : Value) (w' : World) : Prop where
  m0 : MarkB w' v n (markY m)
  m1 : MarkB w' v1 (n + 1) (markY m)
  m2 : MarkB w' v2 (n + 2) (markY m)
  m3 : MarkB w' v3 (n + 3) (markY m)
  fr : Fr (fun k => v.ownBlock = some k) w (fun k => v.ownBlock = some k) w'
  b1 : v1.ownBlock = v.ownBlock ∨ ∀ k, v1.ownBlock = some k → w.heap.size ≤ k
  b2 : v2.ownBlock = v.ownBlock ∨ ∀ k, v2.ownBlock = some k → w.heap.size ≤ k
  b3 : v3.ownBlock = v.ownBlock ∨ ∀ k, v3.ownBlock = some k → w.heap.size ≤ k
set_option maxRecDepth 100000 in
set_option maxHeartbeats 1600000 in
theorem ownBytes_any (m : Nat) (L : List Int) (v : Value) (w : World) (base : Nat) (hm : m ≤ 1099511627776) (ho : OwnB w base v L) (hb : base ≤ w.heap.size) (hl : L.length ≤ 16777216) :
    Calls Tryz.prog 77 #[v, .int .i64 m] w fun e w' => ∃ v1 v2 v3, e = .returned (.agg #[v, v1, v2, v3, .int .i64 m]) ∧ OwnedB w v L.length m v1 v2 v3 w' := by
  obtain ⟨i0, hi0, hz0, hz1, hz2⟩ := info_parts Tryz.infoByte
  obtain ⟨q, c, rfl⟩ := own_slice ho
  have HO := hide (show w.ownsRow base 5 1 (.slice q L.length c) L.length (L.map (Value.int .u8)) from ho)
  have HLT := hide ho.lt
  obtain ⟨n, hn⟩ : ∃ n, L.length = n := ⟨_, rfl⟩
  rw [hn] at HO hl HLT
  have HN := hide hn
  have hxin := markY_in m
  have hx : markY m = (m : Int) % 251 := rfl
  clear ho
  rw [hn]
  clear hn
  obtain ⟨Z, hZ⟩ : ∃ Z : Obj, Z = .cells #[.slice none 0 0, .slice none 0 0, .slice none 0 0, .slice none 0 0, .int .i64 0] 65 := ⟨_, rfl⟩
  have QR := hide (heap_alloc_new w Z)
  have BR := hide ((Below.refl w.heap.size w).alloc (Nat.le_refl _) Z)
  rw [hZ] at QR BR
  clear hZ Z
  go_enter Tryz.func77, Tryz.ntmps77
  go_wp2_with fail
  go_loopw [6] (fun i wr => ∃ k : Nat, k ≤ n ∧ i = .int .i64 k ∧ wr.ownsRow base 5 1 (.slice q n c) n ((List.replicate k (markY m) ++ L.drop k).map (Value.int .u8)) ∧ Fr (fun j => (Value.slice q n c).ownBlock = some j) w (fun j => (Value.slice q n c).ownBlock = some j) wr ∧ wr.heap[w.heap.size]? = some (.cells #[.slice none 0 0, .slice none 0 0, .slice none 0 0, .slice none 0 0, .int .i64 0] 65 (0, 0))) (fun i _ => n - (intOf i).toNat)
  case atStart => exact ⟨0, Nat.zero_le _, rfl, by simpa using World.ownsRow.alloc (unhide HO) _, (Fr.refl _ _).alloc _, unhide QR⟩
  case round =>
    rename World => WR
    obtain ⟨k, hk, rfl, how, hfr, hbk⟩ := hrel
    have OW := hide how
    have FR := hide hfr
    have BK := hide hbk
    clear how hfr hbk
    by_cases hlt : k < n
    · obtain ⟨g, rfl⟩ := own_q (unhide OW) (by omega)
      have hlt2 : k < L.length := by rw [unhide HN]; exact hlt
      have hc := (unhide OW).cells (g := g) rfl k (.int .u8 L[k]) (by
        rw [List.getElem?_map, List.getElem?_append_right (by simp)]; simp [hlt2])
      rw [addr_add] at hc
      have hf := owns_frozen (unhide OW) k
      have HS := hide (owns_set (j := k) (unhide OW) (.int .u8 (markY m)))
      have hgne : g ≠ w.heap.size := by have := (unhide HLT g rfl).2; omega
      go_wp2
      go_roundw
      case rel =>
        refine ⟨k + 1, by omega, by go_num, ?_, (unhide FR).setCell (p := ⟨g, k, none⟩) (Or.inl rfl) _, ?_⟩
        · have := unhide HS
          rw [← List.map_set, rep_set k _ L hlt2] at this
          exact this
        · rw [heap_set_other (by exact fun e => hgne e.symm)]; exact unhide BK
      case measure => simp [intOf]; omega
    · have hkn : k = n := by omega
      subst hkn
      have OW0 : Hid (WR.ownsRow base 5 1 (.slice q k c) k ((List.replicate k (markY m)).map (Value.int .u8))) := by
        have := unhide OW
        rwa [List.drop_of_length_le (by rw [unhide HN]; exact Nat.le_refl _), List.append_nil] at this
      clear OW
      have hs0 := (unhide FR).size
      have hbw : base ≤ WR.heap.size := by omega
      have hlR : w.heap.size < WR.heap.size := heap_lt (unhide BK)
      have vlt := hide (unhide OW0).lt
      have vne : (Value.slice q k c).ownBlock ≠ some w.heap.size := fun e => by have := (unhide HLT _ e).2; omega
      go_upto_region 7 with (at_builtin; refine wpList_append_two rfl _ _ _ rfl base 5 i0 _ 1 1 Tryz.underlying63 hi0 hz0 hz1 hz2 rfl (by omega) (.slice q k c) k ((List.replicate k (markY m)).map (Value.int .u8)) rfl (World.ownsRow.alloc (unhide OW0) _) ⟨WR.heap.size, 0, none⟩ 1 1 [.int .u8 ((m : Int) % 251)] rfl rfl (World.news_of_block (heap_alloc_new _ _)) (by simp [Value.oneCell']) (by simp only [maxLen]; omega) (by omega) (by simp; omega) ?_; intro v1 w1 hown hold hgrow hat)
      have O1 := hide (OwnB.rep (j := 1) hown)
      have V1 := hide hold
      have M1 := hide (MarkB.own (unhide O1) hxin (by omega))
      have F1 := hide (((unhide FR).alloc _).grown hgrow (fun j hj => Or.inl hj))
      have BK1 := hide ((hgrow.block w.heap.size (by simp; omega) (fun e => vne e.symm)).trans ((Below.heap_alloc _ _ _ hlR).trans (unhide BK)))
      have A1 := hide (at_new (s := w.heap.size) (by simp; omega) hat)
      have N1 := hide (ne_new (s := w.heap.size) (by simp; omega) vne hat)
      have hs1 : WR.heap.size + 1 ≤ w1.heap.size := by have := hgrow.size; simpa using this
      obtain ⟨q1, c1, rfl⟩ := own_slice hown
      clear hown hold hgrow hat BK OW0 FR
      go_upto_region 8 with (at_builtin; refine wpList_append_two rfl _ _ _ rfl base 5 i0 _ 1 1 Tryz.underlying63 hi0 hz0 hz1 hz2 rfl (by omega) (.slice q k c) k ((List.replicate k (markY m)).map (Value.int .u8)) rfl (World.ownsRow.alloc (unhide V1) _) ⟨w1.heap.size, 0, none⟩ 2 2 [.int .u8 ((m : Int) % 251), .int .u8 ((m : Int) % 251)] rfl rfl (World.news_of_block (heap_alloc_new _ _)) (by simp [Value.oneCell']) (by simp only [maxLen]; omega) (by omega) (by simp; omega) ?_; intro v2 w2 hown hold hgrow hat)
      have O2 := hide (OwnB.rep (j := 2) hown)
      have V2 := hide hold
      have M2 := hide (MarkB.own (unhide O2) hxin (by omega))
      have M12 := hide (((unhide M1).alloc _).keep (unhide O2) (by omega) hgrow hat)
      have F2 := hide (((unhide F1).alloc _).grown hgrow (fun j hj => Or.inl hj))
      have BK2 := hide ((hgrow.block w.heap.size (by simp; omega) (fun e => vne e.symm)).trans ((Below.heap_alloc _ _ _ (by omega)).trans (unhide BK1)))
      have A2 := hide (at_new (s := w.heap.size) (by simp; omega) hat)
      have N2 := hide (ne_new (s := w.heap.size) (by simp; omega) vne hat)
      have hs2 : w1.heap.size + 1 ≤ w2.heap.size := by have := hgrow.size; simpa using this
      obtain ⟨q2, c2, rfl⟩ := own_slice hown
      clear hown hold hgrow hat BK1 V1 F1 M1 O1
      go_upto_region 9 with (at_builtin; refine wpList_append_two rfl _ _ _ rfl base 5 i0 _ 1 1 Tryz.underlying63 hi0 hz0 hz1 hz2 rfl (by omega) (.slice q k c) k ((List.replicate k (markY m)).map (Value.int .u8)) rfl (World.ownsRow.alloc (unhide V2) _) ⟨w2.heap.size, 0, none⟩ 3 3 [.int .u8 ((m : Int) % 251), .int .u8 ((m : Int) % 251), .int .u8 ((m : Int) % 251)] rfl rfl (World.news_of_block (heap_alloc_new _ _)) (by simp [Value.oneCell']) (by simp only [maxLen]; omega) (by omega) (by simp; omega) ?_; intro v3 w3 hown hold hgrow hat)
      have O3 := hide (OwnB.rep (j := 3) hown)
      have M3 := hide (MarkB.own (unhide O3) hxin (by omega))
      have M13 := hide (((unhide M12).alloc _).keep (unhide O3) (by omega) hgrow hat)
      have M23 := hide (((unhide M2).alloc _).keep (unhide O3) (by omega) hgrow hat)
      have M03 := hide (MarkB.own (n := k) (base := base) (by unfold OwnB; rw [List.length_replicate]; exact hold) hxin (by omega))
      have F3 := hide (((unhide F2).alloc _).grown hgrow (fun j hj => Or.inl hj))
      have BK3 := (hgrow.block w.heap.size (by simp; omega) (fun e => vne e.symm)).trans ((Below.heap_alloc _ _ _ (by omega)).trans (unhide BK2))
      have A3 := hide (at_new (s := w.heap.size) (by simp; omega) hat)
      have N3 := hide (ne_new (s := w.heap.size) (by simp; omega) vne hat)
      obtain ⟨q3, c3, rfl⟩ := own_slice hown
      obtain ⟨r0, r1, r2, r3, r4⟩ := five_cells BK3
      have hf : ∀ o, w3.frozen? ⟨w.heap.size, o, none⟩ = false := fun o => frozen_of_heap BK3
      have VNE := hide vne
      clear hown hold hgrow hat BK2 BK3 V2 F2 M12 M2 O2 O3 vne
      go_wp2
      refine bodyPost_ret (v := .agg #[.slice q k c, .slice q1 (k + 1) c1, .slice q2 (k + 2) c2, .slice q3 (k + 3) c3, .int .i64 m]) (by simp [results, Tryz.results77, go_sem, r0, r1, r2, r3, r4]) rfl ?_
      exact ⟨_, _, _, rfl, (unhide M03).set5 (unhide VNE) _ _ _ _ _, (unhide M13).set5 (unhide N1) _ _ _ _ _, (unhide M23).set5 (unhide N2) _ _ _ _ _, (unhide M3).set5 (unhide N3) _ _ _ _ _, (unhide F3).set5 (Nat.le_refl _) _ _ _ _ _, unhide A1, unhide A2, unhide A3⟩
end Go.Proofs.YtgngdklkoilaiaaGreatDoor

namespace Go.Proofs.YtgngdklkoilaiaaGreatDoor
open Go.RowKit

theorem NetsAt.rep {w : World} {v : Value} {n : Nat} {x : Int × Int} (h : NetsAt w v (List.replicate n x)) : ∃ p c, v = .slice p n c := by
  obtain ⟨p, c, hv, -⟩ := h
  exact ⟨p, c, by rw [hv, List.length_replicate]⟩
def markN (m : Nat) : Int × Int := (markX m, 0)
theorem markN_in {m : Nat} (h : m ≤ 1099511627776) : inI (markN m).1 ∧ inI (markN m).2 := ⟨markX_in h, by unfold markN inI; omega⟩
set_option maxHeartbeats 400000 in
theorem allNets_any (n m : Nat) (v : Value) (w : World) (hm : m ≤ 1099511627776) (h : NetsAt w v (List.replicate n (markN m))) :
    Calls Tryz.prog 60 #[v, .int .i64 m] w fun e w' => e = .returned (.bool true) ∧ w' = w := by
  obtain ⟨p, c, rfl, hcap, hl, hin, hr⟩ := h
  rw [List.length_replicate] at *
  have HR := hide hr
  clear hr hin
  have hx : markX m = -1000 - (m : Int) := rfl
  go_enter Tryz.func60, Tryz.ntmps60
  go_wp2
  go_loop [5] (fun i => ∃ k : Nat, k ≤ n ∧ i = .int .i64 k) (fun i => n - (intOf i).toNat)
  case atStart => exact ⟨0, Nat.zero_le _, rfl⟩
  case round =>
    obtain ⟨k, hk, rfl⟩ := hrel
    by_cases hlt : k < n
    · rcases unhide HR with h | ⟨b, o, rfl, hb, hc⟩
      · have := congrArg List.length h.1; simp at this; omega
      have hck := hc k (by rw [List.length_replicate]; exact hlt)
      rw [List.getElem_replicate] at hck
      obtain ⟨c1, c2⟩ := hck
      simp only [markN] at c1 c2
      rw [hx] at c1
      clear hc hx
      go_wp2
      go_round
      case rel => exact ⟨k + 1, by omega, by go_num⟩
      case measure => simp [intOf]; omega
    · go_wp2
      go_ret
      exact ⟨rfl, rfl⟩

set_option maxRecDepth 100000 in
set_option maxHeartbeats 800000 in
theorem Nets_still_any (n0 n1 n2 n3 m : Nat) (v0 v1 v2 v3 : Value) (w : World) (hm : m ≤ 1099511627776) (h0 : NetsAt w v0 (List.replicate n0 (markN m))) (h1 : NetsAt w v1 (List.replicate n1 (markN m)))
    (h2 : NetsAt w v2 (List.replicate n2 (markN m))) (h3 : NetsAt w v3 (List.replicate n3 (markN m))) :
    Calls Tryz.prog 19 #[.agg #[v0, v1, v2, v3, .int .i64 m]] w fun e w' => e = .returned (.bool true) ∧ Below w.heap.size w w' := by
  have H0 := hide h0
  have H1 := hide h1
  have H2 := hide h2
  have H3 := hide h3
  obtain ⟨p0, c0, rfl⟩ := h0.rep
  obtain ⟨p1, c1, rfl⟩ := h1.rep
  obtain ⟨p2, c2, rfl⟩ := h2.rep
  obtain ⟨p3, c3, rfl⟩ := h3.rep
  have BA := hide ((Below.refl w.heap.size w).alloc (Nat.le_refl _) (.cells #[.slice p0 n0 c0, .slice p1 n1 c1, .slice p2 n2 c2, .slice p3 n3 c3, .int .i64 m] 69))
  go_enter Tryz.func19, Tryz.ntmps19
  go_wp2_with fail
  refine (allNets_any n0 m _ _ hm ((unhide H0).below (unhide BA))).mono ?_
  rintro e w1 ⟨rfl, rfl⟩
  go_wp2_with fail
  refine (allNets_any n1 m _ _ hm ((unhide H1).below (unhide BA))).mono ?_
  rintro e w1 ⟨rfl, rfl⟩
  go_wp2_with fail
  refine (allNets_any n2 m _ _ hm ((unhide H2).below (unhide BA))).mono ?_
  rintro e w1 ⟨rfl, rfl⟩
  go_wp2_with fail
  refine (allNets_any n3 m _ _ hm ((unhide H3).below (unhide BA))).mono ?_
  rintro e w1 ⟨rfl, rfl⟩
  go_wp2
  go_ret
  exact ⟨rfl, unhide BA⟩

theorem MarkN.alloc {w : World} {v : Value} {n : Nat} {x : Int × Int} (h : MarkN w v n x) (o : Obj) : MarkN (w.alloc o) v n x := ⟨h.1.below ((Below.refl _ _).alloc (Nat.le_refl _) o), h.2⟩
theorem OwnN.rep {w : World} {base k j : Nat} {v : Value} {x : Int × Int} (h : w.ownsRow base 30 2 v (k + j) (netCells (List.replicate k x) ++ netCells (List.replicate j x))) : OwnN w base v (List.replicate (k + j) x) := by
  rw [← netCells_append, List.replicate_append_replicate] at h
  unfold OwnN
  rw [List.length_replicate]; exact h
theorem netCells_set : ∀ (l : List (Int × Int)) (k : Nat) (x : Int × Int), ((netCells l).set (k * 2) (.int .i64 x.1)).set (k * 2 + 1) (.int .i64 x.2) = netCells (l.set k x) := by
  intro l
  induction l with
  | nil => intro k x; rfl
  | cons y l ih =>
    intro k x
    have e2 : netCells (y :: l) = .int .i64 y.1 :: .int .i64 y.2 :: netCells l := rfl
    cases k with
    | zero => rfl
    | succ k =>
      rw [List.set_cons_succ, e2, show (k + 1) * 2 = k * 2 + 1 + 1 by omega, List.set_cons_succ, List.set_cons_succ, List.set_cons_succ, List.set_cons_succ, ih k x]
      rfl
theorem repN_set (k : Nat) (x : Int × Int) (L : List (Int × Int)) (hk : k < L.length) : (List.replicate k x ++ L.drop k).set k x = List.replicate (k + 1) x ++ L.drop (k + 1) := by
  have e : L.drop k = L[k] :: L.drop (k + 1) := List.drop_eq_getElem_cons hk
  rw [List.set_append_right _ _ (by simp), List.length_replicate, Nat.sub_self, e, List.set_cons_zero, List.replicate_succ', List.append_assoc]
  rfl
theorem MarkN.set5 {w : World} {b n : Nat} {v : Value} {x : Int × Int} (h : MarkN w v n x) (hb : v.ownBlock ≠ some b) (x0 x1 x2 x3 x4 : Value) : MarkN (((((w.setCell ⟨b, 0, none⟩ x0).setCell ⟨b, 1, none⟩ x1).setCell ⟨b, 2, none⟩ x2).setCell ⟨b, 3, none⟩ x3).setCell ⟨b, 4, none⟩ x4) v n x :=
  h.of_block (by rw [size_set5]; exact Nat.le_refl _) (fun k hk => heap_set5 (fun e => hb (by rw [hk, e])))
/-- what ownNets gives: the list and the three begun at it bear the mark; nothing else that is old was written -/
structure OwnedN (w : World) (v : Value) (n m : Nat) (v1 v2 v3 : Value) (w' : World) : Prop where
  m0 : MarkN w' v n (markN m)
  m1 : MarkN w' v1 (n + 1) (markN m)
  m2 : MarkN w' v2 (n + 2) (markN m)
  m3 : MarkN w' v3 (n + 3) (markN m)
  fr : Fr (fun k => v.ownBlock = some k) w (fun k => v.ownBlock = some k) w'
  b1 : v1.ownBlock = v.ownBlock ∨ ∀ k, v1.ownBlock = some k → w.heap.size ≤ k
  b2 : v2.ownBlock = v.ownBlock ∨ ∀ k, v2.ownBlock = some k → w.heap.size ≤ k
  b3 : v3.ownBlock = v.ownBlock ∨ ∀ k, v3.ownBlock = some k → w.heap.size ≤ k
set_option maxRecDepth 100000 in
set_option maxHeartbeats 1600000 in
theorem ownNets_any (m : Nat) (L : List (Int × Int)) (v : Value) (w : World) (base : Nat) (hm : m ≤ 1099511627776) (ho : OwnN w base v L) (hb : base ≤ w.heap.size) (hl : L.length ≤ 16777216) :
    Calls Tryz.prog 87 #[v, .int .i64 m] w fun e w' => ∃ v1 v2 v3, e = .returned (.agg #[v, v1, v2, v3, .int .i64 m]) ∧ OwnedN w v L.length m v1 v2 v3 w' := by
  obtain ⟨i0, hi0, hz0, hz1, hz2⟩ := info_parts Tryz.infoNetW
  obtain ⟨q, c, rfl⟩ := own_slice ho
  have HO := hide (show w.ownsRow base 30 2 (.slice q L.length c) L.length (netCells L) from ho)
  have HLT := hide ho.lt
  obtain ⟨n, hn⟩ : ∃ n, L.length = n := ⟨_, rfl⟩
  rw [hn] at HO hl HLT
  have HN := hide hn
  have hxin := markN_in hm
  have HXI := hide hxin
  clear ho hxin
  rw [hn]
  clear hn
  have QR := hide (heap_alloc_new w (.cells #[.slice none 0 0, .slice none 0 0, .slice none 0 0, .slice none 0 0, .int .i64 0] 69))
  obtain ⟨wR, hwR⟩ : ∃ wR, w.alloc (.cells #[.slice none 0 0, .slice none 0 0, .slice none 0 0, .slice none 0 0, .int .i64 0] 69) = wR := ⟨_, rfl⟩
  rw [hwR] at QR
  have hsR : wR.heap.size = w.heap.size + 1 := by rw [← hwR]; simp
  have FRR := hide (show Fr (fun j => (Value.slice q n c).ownBlock = some j) w (fun j => (Value.slice q n c).ownBlock = some j) wR from by rw [← hwR]; exact (Fr.refl _ _).alloc _)
  have HOR := hide (show wR.ownsRow base 30 2 (.slice q n c) n (netCells L) from by rw [← hwR]; exact World.ownsRow.alloc (unhide HO) _)
  have QX := hide (heap_alloc_new wR (.cells #[.int .i64 (-1000 - (m : Int)), .int .i64 0] 30))
  rw [hsR] at QX
  have HSR := hide hsR
  have HWR := hide hwR
  clear hsR hwR
  go_enter Tryz.func87, Tryz.ntmps87
  go_wp2_with fail
  rw [unhide HWR]
  go_loopw [6] (fun i wr => ∃ k : Nat, k ≤ n ∧ i = .int .i64 k ∧ wr.ownsRow base 30 2 (.slice q n c) n (netCells (List.replicate k (markN m) ++ L.drop k)) ∧ Fr (fun j => (Value.slice q n c).ownBlock = some j) w (fun j => (Value.slice q n c).ownBlock = some j) wr ∧ wr.heap[w.heap.size]? = some (.cells #[.slice none 0 0, .slice none 0 0, .slice none 0 0, .slice none 0 0, .int .i64 0] 69 (0, 0)) ∧ wr.heap[w.heap.size + 1]? = some (.cells #[.int .i64 (-1000 - (m : Int)), .int .i64 0] 30 (0, 0))) (fun i _ => n - (intOf i).toNat)
  case atStart => exact ⟨0, Nat.zero_le _, rfl, by simpa using World.ownsRow.alloc (unhide HOR) _, (unhide FRR).alloc _, (Below.heap_alloc _ _ _ (by have := unhide HSR; omega)).trans (unhide QR), unhide QX⟩
  case round =>
    rename World => WR
    obtain ⟨k, hk, rfl, how, hfr, hbk, hbx⟩ := hrel
    have OW := hide how
    have FR := hide hfr
    have BK := hide hbk
    have BX := hide hbx
    have x0 : WR.cell? ⟨w.heap.size + 1, 0, none⟩ = some (.int .i64 (-1000 - (m : Int))) := cell_of_heap hbx
    have x1 : WR.cell? ⟨w.heap.size + 1, 1, none⟩ = some (.int .i64 0) := cell_of_heap hbx
    clear how hfr hbk hbx
    by_cases hlt : k < n
    · obtain ⟨g, rfl⟩ := own_q (unhide OW) (by omega)
      have hlt2 : k < L.length := by rw [unhide HN]; exact hlt
      have hgl := (unhide HLT g rfl).2
      obtain ⟨e1, e2⟩ := netCells_get (List.replicate k (markN m) ++ L.drop k) k (by simp; omega)
      have c0 := (unhide OW).cells (g := g) rfl _ _ e1
      have c1 := (unhide OW).cells (g := g) rfl _ _ e2
      rw [addr_add, Nat.mul_comm 2 k] at c0 c1
      have hf := owns_frozen (unhide OW)
      have HS := hide (owns_set (j := k * 2 + 1) (owns_set (j := k * 2) (unhide OW) (.int .i64 (-1000 - (m : Int)))) (.int .i64 0))
      clear e1 e2
      go_wp2
      go_roundw
      case rel =>
        refine ⟨k + 1, by omega, by go_num, ?_, ((unhide FR).setCell (p := ⟨g, k * 2, none⟩) (Or.inl rfl) _).setCell (p := ⟨g, k * 2 + 1, none⟩) (Or.inl rfl) _, ?_, ?_⟩
        · have := unhide HS
          rw [show (-1000 - (m : Int)) = (markN m).1 from rfl, show (0 : Int) = (markN m).2 from rfl, netCells_set, repN_set k _ L hlt2] at this
          exact this
        · rw [heap_set_other (by simp only; omega), heap_set_other (by simp only; omega)]; exact unhide BK
        · rw [heap_set_other (by simp only; omega), heap_set_other (by simp only; omega)]; exact unhide BX
      case measure => simp [intOf]; omega
    · have hkn : k = n := by omega
      subst hkn
      have OW0 : Hid (WR.ownsRow base 30 2 (.slice q k c) k (netCells (List.replicate k (markN m)))) := by
        have := unhide OW
        rwa [List.drop_of_length_le (by rw [unhide HN]; exact Nat.le_refl _), List.append_nil] at this
      clear OW
      have hs0 := (unhide FR).size
      have hbw : base ≤ WR.heap.size := by omega
      have hlR : w.heap.size < WR.heap.size := heap_lt (unhide BK)
      have vlt := hide (unhide OW0).lt
      have vne : (Value.slice q k c).ownBlock ≠ some w.heap.size := fun e => by have := (unhide HLT _ e).2; omega
      have vnx : (Value.slice q k c).ownBlock ≠ some (w.heap.size + 1) := fun e => by have := (unhide HLT _ e).2; omega
      have hlX : w.heap.size + 1 < WR.heap.size := heap_lt (unhide BX)
      go_upto_region 7 with (at_builtin; refine wpList_append_two rfl _ _ _ rfl base 30 i0 _ 2 16 Tryz.underlying24 hi0 hz0 hz1 hz2 rfl (by omega) (.slice q k c) k (netCells (List.replicate k (markN m))) rfl (World.ownsRow.alloc (unhide OW0) _) ⟨WR.heap.size, 0, none⟩ 1 1 [.int .i64 (-1000 - (m : Int)), .int .i64 0] rfl rfl (World.news_of_block (heap_alloc_new _ _)) (by simp [Value.oneCell']) (by simp only [maxLen]; omega) (by omega) (by simp; omega) ?_; intro v1 w1 hown hold hgrow hat)
      have O1 := hide (OwnN.rep (j := 1) hown)
      have V1 := hide hold
      have M1 := hide (MarkN.own (unhide O1) (unhide HXI) (by omega))
      have F1 := hide (((unhide FR).alloc _).grown hgrow (fun j hj => Or.inl hj))
      have BK1 := hide ((hgrow.block w.heap.size (by simp; omega) (fun e => vne e.symm)).trans ((Below.heap_alloc _ _ _ hlR).trans (unhide BK)))
      have BX1 := hide ((hgrow.block (w.heap.size + 1) (by simp; omega) (fun e => vnx e.symm)).trans ((Below.heap_alloc _ _ _ hlX).trans (unhide BX)))
      clear x0 x1
      have x0 : w1.cell? ⟨w.heap.size + 1, 0, none⟩ = some (.int .i64 (-1000 - (m : Int))) := cell_of_heap (unhide BX1)
      have x1 : w1.cell? ⟨w.heap.size + 1, 1, none⟩ = some (.int .i64 0) := cell_of_heap (unhide BX1)
      have A1 := hide (at_new (s := w.heap.size) (by simp; omega) hat)
      have N1 := hide (ne_new (s := w.heap.size) (by simp; omega) vne hat)
      have hs1 : WR.heap.size + 1 ≤ w1.heap.size := by have := hgrow.size; simpa using this
      obtain ⟨q1, c1, rfl⟩ := own_slice hown
      clear hown hold hgrow hat BK OW0 FR
      go_upto_region 8 with (at_builtin; refine wpList_append_two rfl _ _ _ rfl base 30 i0 _ 2 16 Tryz.underlying24 hi0 hz0 hz1 hz2 rfl (by omega) (.slice q k c) k (netCells (List.replicate k (markN m))) rfl (World.ownsRow.alloc (unhide V1) _) ⟨w1.heap.size, 0, none⟩ 2 2 [.int .i64 (-1000 - (m : Int)), .int .i64 0, .int .i64 (-1000 - (m : Int)), .int .i64 0] rfl rfl (World.news_of_block (heap_alloc_new _ _)) (by simp [Value.oneCell']) (by simp only [maxLen]; omega) (by omega) (by simp; omega) ?_; intro v2 w2 hown hold hgrow hat)
      have O2 := hide (OwnN.rep (j := 2) hown)
      have V2 := hide hold
      have M2 := hide (MarkN.own (unhide O2) (unhide HXI) (by omega))
      have M12 := hide (((unhide M1).alloc _).keep (unhide O2) (by omega) hgrow hat)
      have F2 := hide (((unhide F1).alloc _).grown hgrow (fun j hj => Or.inl hj))
      have BK2 := hide ((hgrow.block w.heap.size (by simp; omega) (fun e => vne e.symm)).trans ((Below.heap_alloc _ _ _ (by omega)).trans (unhide BK1)))
      have BX2 := hide ((hgrow.block (w.heap.size + 1) (by simp; omega) (fun e => vnx e.symm)).trans ((Below.heap_alloc _ _ _ (by omega)).trans (unhide BX1)))
      clear x0 x1
      have x0 : w2.cell? ⟨w.heap.size + 1, 0, none⟩ = some (.int .i64 (-1000 - (m : Int))) := cell_of_heap (unhide BX2)
      have x1 : w2.cell? ⟨w.heap.size + 1, 1, none⟩ = some (.int .i64 0) := cell_of_heap (unhide BX2)
      have A2 := hide (at_new (s := w.heap.size) (by simp; omega) hat)
      have N2 := hide (ne_new (s := w.heap.size) (by simp; omega) vne hat)
      have hs2 : w1.heap.size + 1 ≤ w2.heap.size := by have := hgrow.size; simpa using this
      obtain ⟨q2, c2, rfl⟩ := own_slice hown
      clear hown hold hgrow hat BK1 V1 F1 M1 O1
      go_upto_region 9 with (at_builtin; refine wpList_append_two rfl _ _ _ rfl base 30 i0 _ 2 16 Tryz.underlying24 hi0 hz0 hz1 hz2 rfl (by omega) (.slice q k c) k (netCells (List.replicate k (markN m))) rfl (World.ownsRow.alloc (unhide V2) _) ⟨w2.heap.size, 0, none⟩ 3 3 [.int .i64 (-1000 - (m : Int)), .int .i64 0, .int .i64 (-1000 - (m : Int)), .int .i64 0, .int .i64 (-1000 - (m : Int)), .int .i64 0] rfl rfl (World.news_of_block (heap_alloc_new _ _)) (by simp [Value.oneCell']) (by simp only [maxLen]; omega) (by omega) (by simp; omega) ?_; intro v3 w3 hown hold hgrow hat)
      have O3 := hide (OwnN.rep (j := 3) hown)
      have M3 := hide (MarkN.own (unhide O3) (unhide HXI) (by omega))
      have M13 := hide (((unhide M12).alloc _).keep (unhide O3) (by omega) hgrow hat)
      have M23 := hide (((unhide M2).alloc _).keep (unhide O3) (by omega) hgrow hat)
      have M03 := hide (MarkN.own (n := k) (base := base) (by unfold OwnN; rw [List.length_replicate]; exact hold) (unhide HXI) (by omega))
      have F3 := hide (((unhide F2).alloc _).grown hgrow (fun j hj => Or.inl hj))
      have BK3 := (hgrow.block w.heap.size (by simp; omega) (fun e => vne e.symm)).trans ((Below.heap_alloc _ _ _ (by omega)).trans (unhide BK2))
      have A3 := hide (at_new (s := w.heap.size) (by simp; omega) hat)
      have N3 := hide (ne_new (s := w.heap.size) (by simp; omega) vne hat)
      obtain ⟨q3, c3, rfl⟩ := own_slice hown
      obtain ⟨r0, r1, r2, r3, r4⟩ := five_cells BK3
      have hf : ∀ o, w3.frozen? ⟨w.heap.size, o, none⟩ = false := fun o => frozen_of_heap BK3
      have VNE := hide vne
      clear x0 x1 hown hold hgrow hat BK2 BK3 V2 F2 M12 M2 O2 O3 vne
      go_wp2
      refine bodyPost_ret (v := .agg #[.slice q k c, .slice q1 (k + 1) c1, .slice q2 (k + 2) c2, .slice q3 (k + 3) c3, .int .i64 m]) (by simp [results, Tryz.results87, go_sem, r0, r1, r2, r3, r4]) rfl ?_
      exact ⟨_, _, _, rfl, (unhide M03).set5 (unhide VNE) _ _ _ _ _, (unhide M13).set5 (unhide N1) _ _ _ _ _, (unhide M23).set5 (unhide N2) _ _ _ _ _, (unhide M3).set5 (unhide N3) _ _ _ _ _, (unhide F3).set5 (Nat.le_refl _) _ _ _ _ _, unhide A1, unhide A2, unhide A3⟩
end Go.Proofs.YtgngdklkoilaiaaGreatDoor
