/- Lists of nets are lent and taken back (package bywaylaw): lentNets, backNets. -/
import Derived.Test.YtgngdklkoilaiaaGreatDoorLawH
import Derived.Test.YtgngdklkoilaiaaGreatDoorLawB
namespace Go.Proofs.YtgngdklkoilaiaaGreatDoor
open Go.RowKit

theorem eqNilN (w : World) (a : Addr) (n c : Nat) : (binOp .eql 24 (.slice (some a) n c) (.slice none 0 0)).run Tryz.prog w = .ok (.bool false) w := Lib.run_eql_slice_nil w _ _ (some a) n c 0 0 Tryz.underlying24
theorem eqNilN0 (w : World) : (binOp .eql 24 (.slice none 0 0) (.slice none 0 0)).run Tryz.prog w = .ok (.bool true) w := Lib.run_eql_slice_nil w _ _ none 0 0 0 0 Tryz.underlying24
def lentN (L : List (Int × Int)) : List (Int × Int) := L ++ List.replicate 8 (-77, 0)
def lentNK (L : List (Int × Int)) (k : Nat) : List (Int × Int) := L ++ (List.replicate k (-77, 0) ++ List.replicate (8 - k) (0, 0))
theorem lentNK_set (L : List (Int × Int)) {k : Nat} (hk : k < 8) : (lentNK L k).set (L.length + k) (-77, 0) = lentNK L (k + 1) := by
  unfold lentNK
  rw [List.set_append_right _ _ (by omega), show L.length + k - L.length = k by omega, List.set_append_right _ _ (by simp), List.length_replicate, Nat.sub_self, show 8 - k = (8 - (k + 1)) + 1 by omega, List.replicate_succ, List.set_cons_zero, List.replicate_succ']
  simp
theorem lentNK_len (L : List (Int × Int)) {k : Nat} (hk : k ≤ 8) : (lentNK L k).length = L.length + 8 := by simp [lentNK]; omega
theorem lentNK_all (L : List (Int × Int)) : lentNK L 8 = lentN L := by simp [lentNK, lentN]
theorem netArr_set (l : List (Int × Int)) (k : Nat) (x : Int × Int) : ((netCells l).toArray.setIfInBounds (k * 2) (.int .i64 x.1)).setIfInBounds (k * 2 + 1) (.int .i64 x.2) = (netCells (l.set k x)).toArray := by
  apply Array.ext'
  rw [Array.toList_setIfInBounds, Array.toList_setIfInBounds, netCells_set]
theorem netCells_rep (n : Nat) (x : Int × Int) : netCells (List.replicate n x) = (List.replicate n [.int .i64 x.1, .int .i64 x.2]).flatten := by
  unfold netCells
  rw [List.flatMap_def, List.map_replicate]
theorem NetsAt.nilOr {w : World} {x : Value} {L : List (Int × Int)} (h : NetsAt w x L) : (x = .slice none 0 0 ∧ L = []) ∨ ∃ a c, x = .slice (some a) L.length c := by
  obtain ⟨p, c, hv, hcap, hl, hin, hr⟩ := h
  cases p with
  | none =>
    left
    rcases hr with ⟨h1, h2⟩ | ⟨b, o, hp, _⟩
    · subst h1
      have := h2 rfl
      subst this
      exact ⟨hv, rfl⟩
    · cases hp
  | some a => exact Or.inr ⟨a, c, hv⟩
/-- x, lent as v -/
def LentN (w w' : World) (x v : Value) (L : List (Int × Int)) : Prop :=
  (x = .slice none 0 0 ∧ v = .slice none 0 0 ∧ L = []) ∨
  ∃ a c g, x = .slice (some a) L.length c ∧ v = .slice (some ⟨g, 0, none⟩) L.length (L.length + 8) ∧ w.heap.size ≤ g ∧ w'.heap[g]? = some (.cells (netCells (lentN L)).toArray 30 (0, 0))
theorem netArr_cell {w : World} {g : Nat} {l : List (Int × Int)} {T : TypeId} (h : w.heap[g]? = some (.cells (netCells l).toArray T (0, 0))) {k : Nat} {x : Int × Int} (hk : l[k]? = some x) :
    w.cell? ⟨g, k * 2, none⟩ = some (.int .i64 x.1) ∧ w.cell? ⟨g, k * 2 + 1, none⟩ = some (.int .i64 x.2) := by
  obtain ⟨hlt, he⟩ := List.getElem?_eq_some_iff.1 hk
  obtain ⟨e1, e2⟩ := netCells_get l k hlt
  rw [cell_of_heap h, cell_of_heap h, Nat.mul_comm k 2]
  rw [he] at e1 e2
  exact ⟨by simpa using e1, by simpa using e2⟩
theorem LentN.at_ {w w' : World} {x v : Value} {L : List (Int × Int)} (h : LentN w w' x v L) (hin : ∀ y ∈ L, inI y.1 ∧ inI y.2) (hl : L.length ≤ 16777216) : NetsAt w' v L := by
  rcases h with ⟨_, rfl, rfl⟩ | ⟨a, c, g, _, rfl, _, hg⟩
  · exact ⟨none, 0, rfl, by simp, by simp, by simp, Or.inl ⟨rfl, fun _ => rfl⟩⟩
  · refine ⟨_, _, rfl, by omega, by omega, hin, Or.inr ⟨g, 0, rfl, heap_lt hg, fun j hj => ?_⟩⟩
    have := netArr_cell hg (k := j) (x := L[j]) (by unfold lentN; rw [List.getElem?_append_left hj]; simp [hj])
    rw [Nat.zero_add]; exact this
theorem LentN.below {w w' w'' : World} {x v : Value} {L : List (Int × Int)} (h : LentN w w' x v L) (hb : Below w'.heap.size w' w'') : LentN w w'' x v L := by
  rcases h with h | ⟨a, c, g, h1, h2, h3, hg⟩
  · exact Or.inl h
  · exact Or.inr ⟨a, c, g, h1, h2, h3, (hb.block g (heap_lt hg)).trans hg⟩

set_option maxRecDepth 100000 in
set_option maxHeartbeats 1600000 in
theorem lentNets_any (L : List (Int × Int)) (x : Value) (w : World) (h : NetsAt w x L) (hl : L.length ≤ 16777216) :
    Calls Tryz.prog 24 #[x] w fun e w' => ∃ v, e = .returned v ∧ LentN w w' x v L ∧ Below w.heap.size w w' := by
  have HX := hide h
  have q0 := eqNilN0
  have q1 := eqNilN
  rcases h.nilOr with ⟨rfl, rfl⟩ | ⟨a, c, rfl⟩
  · clear h
    go_enter Tryz.func24, Tryz.ntmps24
    go_wp2
    go_ret
    exact ⟨_, rfl, Or.inl ⟨rfl, rfl, rfl⟩, Below.refl _ _⟩
  · clear h
    obtain ⟨i0, hi0, hz0, hz1, hz2⟩ := info_parts Tryz.infoNetW
    have hsz : (Tryz.prog.info? 30).map (·.size) = some 2 := by rw [hi0]; simp [hz1]
    have hmk := run_make_n (P := Tryz.prog) w 24 30 i0 (.agg #[.int .i64 0, .int .i64 0]) Tryz.underlying24 hi0 hz0 (L.length + 8) (by rw [hz2]; omega) (by omega)
    rw [hz1, show (Value.agg #[.int .i64 0, .int .i64 0]).cells = #[.int .i64 0, .int .i64 0] from rfl, made_pair, ← netCells_rep (L.length + 8) (0, 0)] at hmk
    obtain ⟨w1, hw1⟩ : ∃ w1, w.alloc (.cells (netCells (List.replicate (L.length + 8) (0, 0))).toArray 30) = w1 := ⟨_, rfl⟩
    have Q1 := hide (heap_alloc_new w (.cells (netCells (List.replicate (L.length + 8) (0, 0))).toArray 30))
    have B1 := hide ((Below.refl w.heap.size w).alloc (Nat.le_refl _) (.cells (netCells (List.replicate (L.length + 8) (0, 0))).toArray 30))
    rw [hw1] at hmk Q1 B1
    have RD := hide ((unhide HX).below (unhide B1)).reads
    obtain ⟨n, hn⟩ : ∃ n, L.length = n := ⟨_, rfl⟩
    rw [hn] at hmk Q1 RD hl ⊢
    have HN := hide hn
    rw [show ((n + 8 : Nat) : Int) = (n : Int) + 8 from by omega] at hmk
    clear hn hw1
    go_enter Tryz.func24, Tryz.ntmps24
    go_upto_region 5 with (refine wpList_copy_head rfl _ _ _ _ rfl 30 Tryz.underlying24 2 hsz w.heap.size (n + 8) (n + 8) rfl (.slice (some a) n c) rfl n (netCells L) (unhide RD) (by omega) (by rw [netCells_len, unhide HN]) (netCells (List.replicate (n + 8) (0, 0))) 30 (unhide Q1) (by rw [netCells_len, netCells_len, unhide HN, List.length_replicate]; omega) (one_net _) ?_; intro w2 hg2 hgr2)
    have hg3 : w2.heap[w.heap.size]? = some (.cells (netCells (lentNK L 0)).toArray 30 (0, 0)) := by
      rw [hg2]
      congr 3
      rw [netCells_len, unhide HN, ← List.replicate_append_replicate, netCells_append, List.drop_append_of_le_length (by rw [netCells_len]; simp), List.drop_of_length_le (by rw [netCells_len]; simp), List.nil_append, ← netCells_append]
      rfl
    have G0 := hide hg3
    have BE := hide ((unhide B1).grown hgr2 (unhide B1).size (fun k e => by have : w.heap.size = k := by simpa using e
                                                                            omega))
    clear hg2 hg3 hgr2 hmk Q1 B1 RD q0 q1
    go_wp2_with fail
    go_loopw [4] (fun i wr => ∃ k : Nat, k ≤ 8 ∧ i = .int .i64 ((n : Int) + k) ∧ wr.heap[w.heap.size]? = some (.cells (netCells (lentNK L k)).toArray 30 (0, 0)) ∧ Below w.heap.size w wr) (fun i _ => n + 8 - (intOf i).toNat)
    case atStart => exact ⟨0, by omega, by simp, unhide G0, unhide BE⟩
    case round =>
      rename World => WR
      obtain ⟨k, hk, rfl, hg, hbe⟩ := hrel
      have G := hide hg
      have BW := hide hbe
      clear hbe
      by_cases hlt : k < 8
      · have hkl : n + k < (lentNK L k).length := by rw [lentNK_len L hk, unhide HN]; omega
        obtain ⟨c0, c1⟩ := netArr_cell hg (List.getElem?_eq_getElem hkl)
        have hf : ∀ o, WR.frozen? ⟨w.heap.size, o, none⟩ = false := fun o => frozen_of_heap hg
        have HS := hide (show ((WR.setCell ⟨w.heap.size, (n + k) * 2, none⟩ (.int .i64 (-77))).setCell ⟨w.heap.size, (n + k) * 2 + 1, none⟩ (.int .i64 0)).heap[w.heap.size]? = some (.cells (netCells (lentNK L (k + 1))).toArray 30 (0, 0)) from by
          rw [heap_set (heap_set hg), ← lentNK_set L hlt, unhide HN, ← netArr_set])
        clear hg
        go_wp2
        go_roundw
        case rel => exact ⟨k + 1, by omega, by go_num, unhide HS, ((unhide BW).setCell (p := ⟨w.heap.size, (n + k) * 2, none⟩) (Nat.le_refl _) _).setCell (p := ⟨w.heap.size, (n + k) * 2 + 1, none⟩) (Nat.le_refl _) _⟩
        case measure => simp [intOf]; omega
      · have hk8 : k = 8 := by omega
        subst hk8
        clear hg
        go_wp2
        go_ret
        refine ⟨.slice (some ⟨w.heap.size, 0, none⟩) n (n + 8), rfl, Or.inr ⟨a, c, w.heap.size, ?_, ?_, Nat.le_refl _, ?_⟩, unhide BW⟩
        · rw [unhide HN]
        · rw [unhide HN]
        · have := unhide G
          rw [lentNK_all] at this
          exact this

def backNK (A : List (Int × Int)) (k : Nat) : List (Int × Int) := List.replicate k (-78, 0) ++ A.drop k
theorem backNK_set (A : List (Int × Int)) {k : Nat} (hk : k < A.length) : (backNK A k).set k (-78, 0) = backNK A (k + 1) := by
  unfold backNK
  have e : A.drop k = A[k] :: A.drop (k + 1) := List.drop_eq_getElem_cons hk
  rw [List.set_append_right _ _ (by simp), List.length_replicate, Nat.sub_self, e, List.set_cons_zero, List.replicate_succ']
  simp
theorem backNK_get (A : List (Int × Int)) (k : Nat) : (backNK A k)[k]? = A[k]? := by
  unfold backNK
  rw [List.getElem?_append_right (by simp), List.length_replicate, Nat.sub_self, List.getElem?_drop, Nat.add_zero]
theorem lentN_lo {L : List (Int × Int)} {k : Nat} (h : k < L.length) : (lentN L)[k]? = some L[k] := by
  unfold lentN
  rw [List.getElem?_append_left h]
  simp [h]
theorem lentN_hi {L : List (Int × Int)} {k : Nat} (h1 : L.length ≤ k) (h2 : k < L.length + 8) : (lentN L)[k]? = some (-77, 0) := by
  unfold lentN
  rw [List.getElem?_append_right h1, List.getElem?_replicate, if_pos (by omega)]

set_option maxRecDepth 100000 in
set_option maxHeartbeats 3200000 in
theorem backNets_any (L : List (Int × Int)) (x v : Value) (w0 w : World) (hx : NetsAt w x L) (hv : LentN w0 w x v L) (hs : L = [] ∨ ∀ k, x.ownBlock = some k → v.ownBlock ≠ some k) (hl : L.length ≤ 16777216) :
    Calls Tryz.prog 27 #[v, x] w fun e w' => e = .returned (.bool true) ∧ Fr (fun k => v.ownBlock = some k) w (fun k => v.ownBlock = some k) w' := by
  have q0 := eqNilN0
  have q1 := eqNilN
  rcases hv with ⟨rfl, rfl, rfl⟩ | ⟨a, c, g, rfl, rfl, _, hg⟩
  · clear hx hs
    go_enter Tryz.func27, Tryz.ntmps27
    go_wp2
    go_ret
    exact ⟨rfl, Fr.refl _ _⟩
  · have HX := hide hx
    have HS := hide hs
    have AL := hide (show (lentN L).length = L.length + 8 from by unfold lentN; simp)
    have G0 := hide hg
    obtain ⟨n, hn⟩ : ∃ n, L.length = n := ⟨_, rfl⟩
    rw [hn] at HS AL hl ⊢
    have HN := hide hn
    clear hx hs hg hn
    go_enter Tryz.func27, Tryz.ntmps27
    go_wp2_with fail
    go_loopw [6, 7] (fun ok i wr => ∃ k : Nat, k ≤ n + 8 ∧ ok = .bool true ∧ i = .int .i64 k ∧ wr.heap[g]? = some (.cells (netCells (backNK (lentN L) k)).toArray 30 (0, 0)) ∧ Fr (· = g) w (· = g) wr) (fun _ i _ => n + 8 - (intOf i).toNat)
    case atStart => exact ⟨0, by omega, rfl, rfl, unhide G0, Fr.refl _ _⟩
    case round =>
      rename World => WR
      obtain ⟨k, hk, rfl, rfl, hg, hfr⟩ := hrel
      have FR := hide hfr
      have hgl : g < WR.heap.size := heap_lt hg
      by_cases hlt : k < n + 8
      · have hk2 : k < (lentN L).length := by rw [unhide AL]; exact hlt
        have hgt := backNK_get (lentN L) k
        by_cases hkn : k < n
        · have hkL : k < L.length := by rw [unhide HN]; exact hkn
          rw [lentN_lo hkL] at hgt
          obtain ⟨p, c2, hxv, _, _, _, hr⟩ := unhide HX
          rcases hr with h | ⟨b, o, hp, hb, hcc⟩
          · exfalso; rw [h.1] at hkL; simp at hkL
          have hpa : a = ⟨b, o, none⟩ := by
            rw [hp] at hxv
            simp only [Value.slice.injEq, Option.some.injEq] at hxv
            exact hxv.1
          subst hpa
          have hbg : b ≠ g := fun e => by
            rcases unhide HS with h | h
            · rw [h] at hkL; simp at hkL
            · exact h b rfl (by rw [e]; rfl)
          have hblk := hfr.block b hb hbg
          have hbl : b < WR.heap.size := Nat.lt_of_lt_of_le hb hfr.size
          have x0 : WR.cell? ⟨b, o + k * 2, none⟩ = some (.int .i64 L[k].1) := (World.cell?_of_block (w := w) (a := ⟨b, o + k * 2, none⟩) hblk).trans (hcc k hkL).1
          have x1 : WR.cell? ⟨b, o + k * 2 + 1, none⟩ = some (.int .i64 L[k].2) := (World.cell?_of_block (w := w) (a := ⟨b, o + k * 2 + 1, none⟩) hblk).trans (hcc k hkL).2
          obtain ⟨X, hX⟩ : ∃ X, L[k] = X := ⟨_, rfl⟩
          rw [hX] at hgt x0 x1
          obtain ⟨W2, hW2⟩ : ∃ W2, WR.alloc (.cells #[.int .i64 X.1, .int .i64 X.2] 30) = W2 := ⟨_, rfl⟩
          have HG := hide hg
          have HGT := hide hgt
          have HW2 := hide hW2
          clear hg hfr hgt hcc hX hxv hp hblk hW2
          go_upto_region 11 with fail
          rw [unhide HW2]
          have hg2 : W2.heap[g]? = some (.cells (netCells (backNK (lentN L) k)).toArray 30 (0, 0)) := by rw [← unhide HW2, Below.heap_alloc _ _ _ hgl]; exact unhide HG
          have hw2 : W2.heap[WR.heap.size]? = some (.cells #[.int .i64 X.1, .int .i64 X.2] 30 (0, 0)) := by rw [← unhide HW2]; exact heap_alloc_new _ _
          obtain ⟨c0, c1⟩ := netArr_cell hg2 (unhide HGT)
          have y0 : W2.cell? ⟨WR.heap.size, 0, none⟩ = some (.int .i64 X.1) := cell_of_heap hw2
          have y1 : W2.cell? ⟨WR.heap.size, 1, none⟩ = some (.int .i64 X.2) := cell_of_heap hw2
          have hf : ∀ o, W2.frozen? ⟨g, o, none⟩ = false := fun o => frozen_of_heap hg2
          have HG2 := hide hg2
          have FR2 := hide (show Fr (· = g) w (· = g) W2 from by rw [← unhide HW2]; exact (unhide FR).alloc _)
          clear hg2 hw2 x0 x1
          go_quiet ((fail))
          go_wp2
          exact ⟨⟨k + 1, by omega, rfl, by go_num, by rw [heap_set (heap_set (show (W2.drewN nq).heap[g]? = _ from unhide HG2)), ← backNK_set _ hk2, ← netArr_set], (((unhide FR2).drewN _).setCell (p := ⟨g, k * 2, none⟩) (Or.inl rfl) _).setCell (p := ⟨g, k * 2 + 1, none⟩) (Or.inl rfl) _⟩, by simp [intOf]; omega⟩
        · obtain ⟨WA, hWA⟩ : ∃ WA, WR.alloc (.cells #[.int .i64 (-77), .int .i64 0] 30) = WA := ⟨_, rfl⟩
          rw [lentN_hi (by rw [unhide HN]; omega) (by rw [unhide HN]; exact hlt)] at hgt
          have HG := hide hg
          have HGT := hide hgt
          have HW2 := hide hWA
          clear hg hfr hgt hWA
          go_upto_region 11 with fail
          rw [unhide HW2]
          have hg2 : WA.heap[g]? = some (.cells (netCells (backNK (lentN L) k)).toArray 30 (0, 0)) := by rw [← unhide HW2, Below.heap_alloc _ _ _ hgl]; exact unhide HG
          have hw2 : WA.heap[WR.heap.size]? = some (.cells #[.int .i64 (-77), .int .i64 0] 30 (0, 0)) := by rw [← unhide HW2]; exact heap_alloc_new _ _
          obtain ⟨c0, c1⟩ := netArr_cell hg2 (unhide HGT)
          have y0 : WA.cell? ⟨WR.heap.size, 0, none⟩ = some (.int .i64 (-77)) := cell_of_heap hw2
          have y1 : WA.cell? ⟨WR.heap.size, 1, none⟩ = some (.int .i64 0) := cell_of_heap hw2
          have hf : ∀ o, WA.frozen? ⟨g, o, none⟩ = false := fun o => frozen_of_heap hg2
          have HG2 := hide hg2
          have FR2 := hide (show Fr (· = g) w (· = g) WA from by rw [← unhide HW2]; exact (unhide FR).alloc _)
          clear hg2 hw2
          go_quiet ((fail))
          go_wp2
          exact ⟨⟨k + 1, by omega, rfl, by go_num, by rw [heap_set (heap_set (show (WA.drewN nq).heap[g]? = _ from unhide HG2)), ← backNK_set _ hk2, ← netArr_set], (((unhide FR2).drewN _).setCell (p := ⟨g, k * 2, none⟩) (Or.inl rfl) _).setCell (p := ⟨g, k * 2 + 1, none⟩) (Or.inl rfl) _⟩, by simp [intOf]; omega⟩
      · clear hg hfr
        go_wp2
        go_ret
        exact ⟨rfl, by have := unhide FR; simpa [Value.ownBlock, eq_comm] using this⟩
end Go.Proofs.YtgngdklkoilaiaaGreatDoor
