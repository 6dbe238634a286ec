/- The closures of putMark and dropMark. -/
import Derived.Test.YtgdeeodifnegiaaGreatDoorShA
namespace Go.Proofs.YtgdeeodifnegiaaGreatDoor
open Go.RowKit

/-! ## plain: a rising row -/
theorem place_count (l : List Int) (x : Int) : placeM l x = l.countP (· < x) := by
  rw [placeM, List.countP_eq_length_filter]
theorem place_le (l : List Int) (x : Int) : placeM l x ≤ l.length := by unfold placeM; exact List.length_filter_le _ _
theorem place_zero {x : Int} : ∀ {l : List Int}, (∀ y ∈ l, x ≤ y) → placeM l x = 0 := fun {l} h => by
  rw [placeM, List.length_eq_zero_iff, List.filter_eq_nil_iff]
  intro y hy
  have := h y hy
  simp; omega
theorem place_cons (y : Int) (l : List Int) (x : Int) : placeM (y :: l) x = if y < x then placeM l x + 1 else placeM l x := by
  unfold placeM
  by_cases h : y < x
  · rw [List.filter_cons_of_pos (by simpa using h), if_pos h]; rfl
  · rw [List.filter_cons_of_neg (by simpa using h), if_neg h]
theorem erase_place {x : Int} : ∀ {l : List Int}, l.Pairwise (· < ·) → x ∈ l → l.erase x = l.take (placeM l x) ++ l.drop (placeM l x + 1) ∧ placeM l x < l.length
  | [], _, h => by cases h
  | y :: l, hs, hx => by
    obtain ⟨h1, h2⟩ := List.pairwise_cons.1 hs
    by_cases hy : y = x
    · subst hy
      have h0 : placeM (y :: l) y = 0 := place_zero fun z hz => by
        rcases List.mem_cons.1 hz with rfl | hz
        · omega
        · have := h1 z hz; omega
      rw [h0]; simp
    · have hx' : x ∈ l := by
        rcases List.mem_cons.1 hx with e | e
        · exact absurd e.symm hy
        · exact e
      have hlt := h1 x hx'
      obtain ⟨i1, i2⟩ := erase_place h2 hx'
      rw [place_cons, if_pos hlt, List.erase_cons_tail (by simpa using hy), i1]
      exact ⟨by simp, by simp; omega⟩
theorem ins_sorted {x : Int} : ∀ {l : List Int}, l.Pairwise (· < ·) → x ∉ l → (l.take (placeM l x) ++ x :: l.drop (placeM l x)).Pairwise (· < ·)
  | [], _, _ => by simp [placeM]
  | y :: l, hs, hx => by
    obtain ⟨h1, h2⟩ := List.pairwise_cons.1 hs
    have hne : y ≠ x := fun e => hx (by rw [e]; exact List.mem_cons_self)
    have hx' : x ∉ l := fun e => hx (List.mem_cons_of_mem _ e)
    by_cases hlt : y < x
    · rw [place_cons, if_pos hlt]
      simp only [List.take_succ_cons, List.drop_succ_cons, List.cons_append]
      refine List.pairwise_cons.2 ⟨fun z hz => ?_, ins_sorted h2 hx'⟩
      rcases List.mem_append.1 hz with e | e
      · exact h1 z (List.mem_of_mem_take e)
      · rcases List.mem_cons.1 e with rfl | e
        · exact hlt
        · exact h1 z (List.mem_of_mem_drop e)
    · have h0 : placeM (y :: l) x = 0 := place_zero fun z hz => by
        rcases List.mem_cons.1 hz with rfl | hz
        · omega
        · have := h1 z hz; omega
      rw [h0]
      simp only [List.take_zero, List.drop_zero, List.nil_append]
      refine List.pairwise_cons.2 ⟨fun z hz => ?_, hs⟩
      rcases List.mem_cons.1 hz with rfl | hz
      · omega
      · have := h1 z hz; omega
/-! ## the two of Go's own library -/
theorem own_cells {w : World} {g : Nat} {cur : Array Value} {l : List Int} (hg : w.heap[g]? = some (.cells cur 3 (0, 0))) (htk : cur.toList.take (l.length * 1) = intCells l) (j : Nat) (hj : j < l.length) : w.cell? ⟨g, 0 + j, none⟩ = some (.int .i64 (l.getD j 0)) := by
  rw [cell_of_heap hg, Nat.zero_add]
  have : (cur.toList.take (l.length * 1))[j]? = some (.int .i64 (l.getD j 0)) := by rw [htk]; simp [intCells, List.getD, List.getElem?_eq_getElem hj]
  rw [List.getElem?_take, if_pos (by omega)] at this
  simpa using this
theorem sch_any (w : World) (v : Value) (l : List Int) (x : Int) (hv : w.ownsRow 0 3 1 v l.length (intCells l)) (hs : l.Pairwise (· < ·)) (hl : l.length ≤ 1000) :
    Calls Tryz.prog 273 #[v, .int .i64 x] w fun e w' => e = .returned (.tuple #[.int .i64 (placeM l x : Nat), .bool (l.contains x)]) ∧ ∃ q, w' = w.drewN q := by
  rcases hv.2 with ⟨rfl, h0⟩ | ⟨g, cap, cur, rfl, _, hg, hnc, hcm, hcs, htk⟩
  · obtain rfl := List.length_eq_zero_iff.mp h0
    refine (Any.slices_BinarySearch_int_empty Tryz.shSch none 0 x w).mono ?_
    rintro e w' ⟨rfl, rfl⟩
    exact ⟨rfl, 0, rfl⟩
  · refine (Any.slices_BinarySearch_int Tryz.shSch g 0 l.length cap l x w (Nat.le_refl _) (by omega) (own_cells hg htk) (by rw [List.take_length]; exact hs.imp (fun h => Int.le_of_lt h))).mono ?_
    rintro e w' ⟨rfl, q, rfl⟩
    rw [List.take_length, ← place_count]
    exact ⟨rfl, q, rfl⟩
theorem grown_drewN {w0 w : World} {row : Option Nat} (h : w0.grownBy w row) (q : Nat) : w0.grownBy (w.drewN q) row := ⟨h.os, h.tape, h.output, h.size, h.block⟩
theorem del_any (w : World) (v : Value) (l : List Int) (x : Int) (hv : w.ownsRow 0 3 1 v l.length (intCells l)) (hs : l.Pairwise (· < ·)) (hx : x ∈ l) :
    Calls Tryz.prog 277 #[v, .int .i64 (placeM l x : Nat), .int .i64 ((placeM l x : Nat) + 1)] w (InsRes w v (l.erase x)) := by
  obtain ⟨h1, h2⟩ := erase_place hs hx
  have hel : (l.erase x).length = l.length - 1 := by rw [h1]; simp; omega
  rcases hv.2 with ⟨rfl, h0⟩ | ⟨g, cap, cur, rfl, _, hg, hnc, hcm, hcs, htk⟩
  · omega
  · refine (Any.slices_Delete_int_cells Tryz.shDel g 0 l.length cap (placeM l x) (placeM l x + 1) l w (Nat.le_refl _) hnc (by unfold maxLen at hcm; omega) (by omega) (by omega) (own_cells hg htk) (fun j hj => frozen_of_heap hg)).mono ?_
    rintro e w' ⟨rfl, q, rfl⟩
    rw [List.take_length, ← h1]
    have hsl : ((l.erase x ++ List.replicate (placeM l x + 1 - placeM l x) 0).map (Value.int .i64)).length = l.length := by simp [hel]; omega
    obtain ⟨cur', q1, q2, q3⟩ := setCells_heap ((l.erase x ++ List.replicate (placeM l x + 1 - placeM l x) 0).map (Value.int .i64)) 0 (w.drewN q) cur hg (by rw [hsl]; omega)
    refine ⟨_, rfl, ?_, setCells_grown g _ _ _ _ _ (grown_drewN (grown_refl _ _) q) (Or.inl rfl), Or.inl rfl⟩
    rw [show l.length - (placeM l x + 1 - placeM l x) = (l.erase x).length by rw [hel]; omega]
    refine owns_int_of (g := g) (cap := cap) (l := l.erase x) q1 (by omega) hcm (by omega) (fun j y hy => ?_)
    have hj := (List.getElem?_eq_some_iff.mp hy).1
    rw [q3 j, if_pos (by rw [hsl]; omega), Nat.sub_zero, List.getElem?_map, List.getElem?_append_left hj, hy]
    rfl
/-! ## a route with another row of marks -/
theorem RtAt.insM {W W1 w2 : World} {b : Nat} {r : Rt} {pv mv v' : Value} {l' : List Int} (h : RtAt W b r pv mv) (hb : Below W.heap.size W W1) (hl : l'.length ≤ 8) (hso : l'.Pairwise (· < ·))
    (ho : w2.ownsRow 0 3 1 v' l'.length (intCells l')) (hg : W1.grownBy w2 mv.ownBlock) (hat : v'.ownBlock = mv.ownBlock ∨ v'.ownBlock = some W1.heap.size) :
    RtAt (w2.setCell ⟨b, 3, none⟩ v') b { r with marks := l' } pv v' ∧ Fr (RtOwn b pv mv) W (RtOwn b pv v') (w2.setCell ⟨b, 3, none⟩ v') := by
  have hbl := heap_lt h.blk
  have hsz := hb.size
  have hbk : w2.heap[b]? = W.heap[b]? := (hg.block b (by omega) (fun e => h.ne2 e.symm)).trans (hb.block b hbl)
  have hpk : ∀ k, pv.ownBlock = some k → w2.heap[k]? = W.heap[k]? := fun k e => by
    have hk := (h.path.lt k e).2
    refine (hg.block k (by omega) (fun e2 => ?_)).trans (hb.block k hk)
    rcases h.ne3 with h1 | h1
    · rw [h1] at e; cases e
    · exact h1 (e.trans e2)
  have hvb : v'.ownBlock ≠ some b := fun e => by
    rcases hat with h1 | h1
    · exact h.ne2 (h1.symm.trans e)
    · rw [h1] at e; cases e; omega
  have hF : Fr (RtOwn b pv mv) W (RtOwn b pv mv) w2 := (Fr.of_below hb).grown hg (fun k e => Or.inl (Or.inr (Or.inr e)))
  refine ⟨⟨?_, owns_of h.path (fun k e => (heap_set_other (fun e2 => h.ne1 (by rw [e]; exact congrArg some e2))).trans (hpk k e)), owns_of ho (fun k e => heap_set_other (fun e2 => hvb (by rw [e]; exact congrArg some e2))), h.ne1, hvb, ?_, h.n1, hl, hso⟩, ?_⟩
  · rw [heap_set (hbk.trans h.blk)]; rfl
  · rcases hat with h1 | h1
    · rw [h1]; exact h.ne3
    · cases hpo : pv.ownBlock with
      | none => exact Or.inl rfl
      | some k =>
        right; rw [h1]; intro e
        cases e
        have := (h.path.lt _ hpo).2; omega
  · refine (hF.reown (O2 := RtOwn b pv v') (fun k hk => ?_)).setCell (Or.inl (Or.inl rfl)) _
    rcases hk with h1 | h1 | h1
    · exact Or.inl (Or.inl h1)
    · exact Or.inl (Or.inr (Or.inl h1))
    · rcases hat with h2 | h2
      · exact Or.inl (Or.inr (Or.inr (h2.symm.trans h1)))
      · rw [h2] at h1; cases h1; exact Or.inr hsz
set_option maxRecDepth 100000 in
set_option maxHeartbeats 4000000 in
theorem putMark_run (W : World) (B : Nat) (n : Int) (hb : W.cell? ⟨B, 0, none⟩ = some (.int .i64 n)) (b : Nat) (r : Rt) (pv mv : Value) (h : RtAt W b r pv mv) :
    Calls Tryz.prog 272 (#[ptr4 b 0] ++ #[ptr4 B 0]) W (StpRes b pv mv W (markM n r)) := by
  have HR := hide h
  obtain ⟨ma, mc, hmv⟩ := owns_form' h.marks
  have c3 : W.cell? ⟨b, 3, none⟩ = some mv := cell_of_heap h.blk
  have z3 : W.frozen? ⟨b, 3, none⟩ = false := frozen_of_heap h.blk
  have hbl := heap_lt h.blk
  have hBl : B < W.heap.size := cell_lt hb
  have n2 := h.n2
  have HSC := hide (fun (W1 : World) (hW : Below W.heap.size W W1) => sch_any W1 mv r.marks n (owns_of h.marks (fun k e => hW.block k (h.marks.lt k e).2)) h.srt (by omega))
  have hple := place_le r.marks n
  cases hc : r.marks.contains n with
  | true =>
    have EQ := hide (show markM n r = (r, 0) by rw [markM, if_pos hc])
    rw [hc] at HSC
    clear h hc
    subst hmv
    go_enter Tryz.func272, Tryz.ntmps272
    go_wp2_with fail
    go_region_with (go_at_call 273; refine ((unhide HSC) _ (Below.refl _ _).drew).mono ?_; rintro e w1 ⟨rfl, hq⟩; have hbw : Below W.heap.size W w1 := (by obtain ⟨q, rfl⟩ := hq; exact below_drewN (Below.refl _ _).drew q); have y3 := (hbw.cell (p := ⟨b, 3, none⟩) hbl).trans c3; have yb := (hbw.cell (p := ⟨B, 0, none⟩) hBl).trans hb; have HBW := hide hbw; clear hbw hq)
    all_goals
      go_wp2_with fail
      go_ret
      rw [unhide EQ]
      exact ⟨rfl, _, _, (unhide HR).below (unhide HBW), Fr.of_below (unhide HBW)⟩
  | false =>
    by_cases hl : r.marks.length = 8
    · have EQ := hide (show markM n r = (r, 3) by rw [markM, if_neg (by rw [hc]; simp), if_pos hl])
      rw [hc] at HSC
      have HL8 := hide hl
      clear h hc hl
      subst hmv
      go_enter Tryz.func272, Tryz.ntmps272
      go_wp2_with fail
      go_region_with (go_at_call 273; refine ((unhide HSC) _ (Below.refl _ _).drew).mono ?_; rintro e w1 ⟨rfl, hq⟩; have hbw : Below W.heap.size W w1 := (by obtain ⟨q, rfl⟩ := hq; exact below_drewN (Below.refl _ _).drew q); have y3 := (hbw.cell (p := ⟨b, 3, none⟩) hbl).trans c3; have yb := (hbw.cell (p := ⟨B, 0, none⟩) hBl).trans hb; have HBW := hide hbw; clear hbw hq)
      all_goals
        have hl' : ((r.marks.length : Nat) : Int) = 8 := by have := unhide HL8; omega
        go_wp2_with fail
        go_ret
        rw [unhide EQ]
        exact ⟨rfl, _, _, (unhide HR).below (unhide HBW), Fr.of_below (unhide HBW)⟩
    · obtain ⟨L, hL⟩ : ∃ L, r.marks.take (placeM r.marks n) ++ n :: r.marks.drop (placeM r.marks n) = L := ⟨_, rfl⟩
      have EQ := hide (show markM n r = ({ r with marks := L }, 0) by rw [markM, if_neg (by rw [hc]; simp), if_neg hl, hL])
      rw [hc] at HSC
      have HSO := hide (show L.Pairwise (· < ·) by rw [← hL]; exact ins_sorted h.srt (x := n) (by simpa using hc))
      have HLL := hide (show L.length ≤ 8 by rw [← hL, ins_len]; omega)
      have hl' : ¬ ((r.marks.length : Nat) : Int) = 8 := by omega
      have HI := hide (fun (W1 : World) (hW : Below W.heap.size W W1) (vb : Nat) (hvb : W1.heap[vb]? = some (.cells #[.int .i64 n] 3 (0, 0))) (hge : W.heap.size ≤ vb) =>
        ins_any W1 mv r.marks (placeM r.marks n) n vb (owns_of h.marks (fun k e => hW.block k (h.marks.lt k e).2)) hple (by omega) hvb (fun e => by have := (h.marks.lt _ e).2; omega))
      rw [hL] at HI
      clear h hc hL
      subst hmv
      go_enter Tryz.func272, Tryz.ntmps272
      go_wp2_with fail
      go_region_with (go_at_call 273; refine ((unhide HSC) _ (Below.refl _ _).drew).mono ?_; rintro e w1 ⟨rfl, hq⟩; have hbw : Below W.heap.size W w1 := (by obtain ⟨q, rfl⟩ := hq; exact below_drewN (Below.refl _ _).drew q); have y3 := (hbw.cell (p := ⟨b, 3, none⟩) hbl).trans c3; have yb := (hbw.cell (p := ⟨B, 0, none⟩) hBl).trans hb; have yz := (World.frozen?_of_block (a := ⟨b, 3, none⟩) (hbw.block b hbl)).trans z3; have HBW := hide hbw; clear hbw hq)
      all_goals
        have hws := (unhide HBW).size
        have hbl1 : b < w1.heap.size := by omega
        have hBl1 : B < w1.heap.size := by omega
        go_wp2_with fail
        go_region_with (go_at_call 274; refine ((unhide HI) _ (((unhide HBW).alloc hws _).drew) w1.heap.size (heap_alloc_new w1 _) hws).mono ?_; rintro e w2 ⟨v', rfl, ho, hg, hat⟩; obtain ⟨fa, fc, hf⟩ := owns_form' ho; have HX := hide ((unhide HR).insM ((unhide HBW).alloc hws (.cells #[.int .i64 n] 3)).drew (unhide HLL) (unhide HSO) ho hg hat); have hbb : w2.heap[b]? = W.heap[b]? := (hg.block b (by simp; omega) (fun e => (unhide HR).ne2 e.symm)).trans (((unhide HBW).alloc hws (.cells #[.int .i64 n] 3)).drew.block b hbl); have x3 : w2.cell? ⟨b, 3, none⟩ = some (.slice ma r.marks.length mc) := (World.cell?_of_block (a := ⟨b, 3, none⟩) hbb).trans c3; have xz : w2.frozen? ⟨b, 3, none⟩ = false := (World.frozen?_of_block (a := ⟨b, 3, none⟩) hbb).trans z3; clear ho hg hat hbb; subst hf)
        all_goals
          go_wp2_with fail
          go_ret
          rw [unhide EQ]
          exact ⟨rfl, pv, _, (unhide HX).1, (unhide HX).2⟩
set_option maxRecDepth 100000 in
set_option maxHeartbeats 4000000 in
theorem dropMark_run (W : World) (B : Nat) (n : Int) (hb : W.cell? ⟨B, 0, none⟩ = some (.int .i64 n)) (b : Nat) (r : Rt) (pv mv : Value) (h : RtAt W b r pv mv) :
    Calls Tryz.prog 276 (#[ptr4 b 0] ++ #[ptr4 B 0]) W (StpRes b pv mv W (unmarkM n r)) := by
  have HR := hide h
  obtain ⟨ma, mc, hmv⟩ := owns_form' h.marks
  have c3 : W.cell? ⟨b, 3, none⟩ = some mv := cell_of_heap h.blk
  have z3 : W.frozen? ⟨b, 3, none⟩ = false := frozen_of_heap h.blk
  have hbl := heap_lt h.blk
  have hBl : B < W.heap.size := cell_lt hb
  have n2 := h.n2
  have HSC := hide (fun (W1 : World) (hW : Below W.heap.size W W1) => sch_any W1 mv r.marks n (owns_of h.marks (fun k e => hW.block k (h.marks.lt k e).2)) h.srt (by omega))
  have hple := place_le r.marks n
  cases hc : r.marks.contains n with
  | false =>
    have EQ := hide (show unmarkM n r = (r, 0) by rw [unmarkM, if_neg (by rw [hc]; simp)])
    rw [hc] at HSC
    clear h hc
    subst hmv
    go_enter Tryz.func276, Tryz.ntmps276
    go_wp2_with fail
    go_region_with (go_at_call 273; refine ((unhide HSC) _ (Below.refl _ _).drew).mono ?_; rintro e w1 ⟨rfl, hq⟩; have hbw : Below W.heap.size W w1 := (by obtain ⟨q, rfl⟩ := hq; exact below_drewN (Below.refl _ _).drew q); have y3 := (hbw.cell (p := ⟨b, 3, none⟩) hbl).trans c3; have yb := (hbw.cell (p := ⟨B, 0, none⟩) hBl).trans hb; have HBW := hide hbw; clear hbw hq)
    all_goals
      go_wp2_with fail
      go_ret
      rw [unhide EQ]
      exact ⟨rfl, _, _, (unhide HR).below (unhide HBW), Fr.of_below (unhide HBW)⟩
  | true =>
    have EQ := hide (show unmarkM n r = ({ r with marks := r.marks.erase n }, 0) by rw [unmarkM, if_pos hc])
    rw [hc] at HSC
    have hin : n ∈ r.marks := by simpa using hc
    have HSO := hide (h.srt.erase n)
    have HEL := hide (List.length_erase_le (a := n) (l := r.marks))
    have HI := hide (fun (W1 : World) (hW : Below W.heap.size W W1) => del_any W1 mv r.marks n (owns_of h.marks (fun k e => hW.block k (h.marks.lt k e).2)) h.srt hin)
    clear h hc hin
    subst hmv
    go_enter Tryz.func276, Tryz.ntmps276
    go_wp2_with fail
    go_region_with (go_at_call 273; refine ((unhide HSC) _ (Below.refl _ _).drew).mono ?_; rintro e w1 ⟨rfl, hq⟩; have hbw : Below W.heap.size W w1 := (by obtain ⟨q, rfl⟩ := hq; exact below_drewN (Below.refl _ _).drew q); have y3 := (hbw.cell (p := ⟨b, 3, none⟩) hbl).trans c3; have yb := (hbw.cell (p := ⟨B, 0, none⟩) hBl).trans hb; have yz := (World.frozen?_of_block (a := ⟨b, 3, none⟩) (hbw.block b hbl)).trans z3; have HBW := hide hbw; clear hbw hq)
    all_goals
      have hws := (unhide HBW).size
      go_wp2_with fail
      go_wp2_with (go_at_call 277; refine ((unhide HI) _ (unhide HBW)).mono ?_; rintro e w2 ⟨v', rfl, ho, hg, hat⟩; obtain ⟨fa, fc, hf⟩ := owns_form' ho; have HX := hide ((unhide HR).insM (unhide HBW) (Nat.le_trans (unhide HEL) n2) (unhide HSO) ho hg hat); have hbb : w2.heap[b]? = W.heap[b]? := (hg.block b (by omega) (fun e => (unhide HR).ne2 e.symm)).trans ((unhide HBW).block b hbl); have x3 : w2.cell? ⟨b, 3, none⟩ = some (.slice ma r.marks.length mc) := (World.cell?_of_block (a := ⟨b, 3, none⟩) hbb).trans c3; have xz : w2.frozen? ⟨b, 3, none⟩ = false := (World.frozen?_of_block (a := ⟨b, 3, none⟩) hbb).trans z3; clear ho hg hat hbb; subst hf)
      all_goals
        go_wp2_with fail
        go_ret
        rw [unhide EQ]
        exact ⟨rfl, pv, _, (unhide HX).1, (unhide HX).2⟩
theorem Tryz.entPut : Enters Tryz.prog 272 := enters_of Tryz.func272 (by kernel_rfl) rfl
theorem Tryz.entDrop : Enters Tryz.prog 276 := enters_of Tryz.func276 (by kernel_rfl) rfl
set_option maxRecDepth 100000 in
set_option maxHeartbeats 1000000 in
theorem putMark_call (w : World) (n : Int) :
    Calls Tryz.prog 223 #[.int .i64 n] w fun e w' => e = .returned (.func (.func 272) #[] #[ptr4 w.heap.size 0]) ∧ w' = w.alloc (box1 (.int .i64 n) 3) := by
  have hmf : ∀ (fn : Fn) (first cap : Array Value) (w : World), (Instr.makeFunc fn first cap).run Tryz.prog w = .ok (.func fn first cap) w := fun _ _ _ _ => rfl
  go_enter Tryz.func223, Tryz.ntmps223
  go_wp2_with fail
  go_ret
  exact ⟨rfl, rfl⟩
theorem putMark_said : MkSaid 223 markM := by
  intro w n A hA
  refine (putMark_call w n).mono ?_
  rintro e w' ⟨rfl, rfl⟩
  refine ⟨_, rfl, rfl, Lasts.new (fun k => k = w.heap.size) (fun k hk => ⟨by subst hk; simp, hA k (by omega)⟩) (fun W hW hk => ?_)⟩
  exact ⟨_, _, rfl, Tryz.entPut, fun b r pv mv hr _ => putMark_run W _ n (cell1 (hk _ rfl) (heap_alloc_new w _)) b r pv mv hr⟩
set_option maxRecDepth 100000 in
set_option maxHeartbeats 1000000 in
theorem dropMark_call (w : World) (n : Int) :
    Calls Tryz.prog 225 #[.int .i64 n] w fun e w' => e = .returned (.func (.func 276) #[] #[ptr4 w.heap.size 0]) ∧ w' = w.alloc (box1 (.int .i64 n) 3) := by
  have hmf : ∀ (fn : Fn) (first cap : Array Value) (w : World), (Instr.makeFunc fn first cap).run Tryz.prog w = .ok (.func fn first cap) w := fun _ _ _ _ => rfl
  go_enter Tryz.func225, Tryz.ntmps225
  go_wp2_with fail
  go_ret
  exact ⟨rfl, rfl⟩
theorem dropMark_said : MkSaid 225 unmarkM := by
  intro w n A hA
  refine (dropMark_call w n).mono ?_
  rintro e w' ⟨rfl, rfl⟩
  refine ⟨_, rfl, rfl, Lasts.new (fun k => k = w.heap.size) (fun k hk => ⟨by subst hk; simp, hA k (by omega)⟩) (fun W hW hk => ?_)⟩
  exact ⟨_, _, rfl, Tryz.entDrop, fun b r pv mv hr _ => dropMark_run W _ n (cell1 (hk _ rfl) (heap_alloc_new w _)) b r pv mv hr⟩
end Go.Proofs.YtgdeeodifnegiaaGreatDoor
