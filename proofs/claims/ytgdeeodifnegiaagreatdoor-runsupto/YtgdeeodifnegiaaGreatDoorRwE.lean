/- One step of a script (package bywaylaw) with policies and a book: Run (World.step at kind 3). -/
import Derived.Test.YtgdeeodifnegiaaGreatDoorRwD
import Derived.Test.YtgdeeodifnegiaaGreatDoorLxP
namespace Go.Proofs.YtgdeeodifnegiaaGreatDoor
open Go.RowKit

set_option maxRecDepth 100000 in
set_option maxHeartbeats 6400000 in
theorem xstep3 {W : World} {wb n : Nat} {b : Bk} {xs cs : List Value} {R : Rt} {pv mv : Value} {a : Int} {S : ByteArray} (hw : XAt W wb n b xs) (hps : PairsAt W (XO wb b) xs) (hn : n ≤ 1000000000001) (hcnt : b.cnt ≤ 16777000) (ho : OpL cs 3 S) (hr : OpR W cs R pv mv) (ha : cs[1]? = some (.int .i64 a)) (ha1 : -9223372036854775808 ≤ a) (ha2 : a ≤ 9223372036854775807) :
    Calls Tryz.prog 8 #[ptr4 wb 0, .agg cs.toArray] W fun e W' => e = .returned (.bool true) ∧ ∃ b', BookAt W' wb b' ∧ RunS wb b b' W W' := by
  have lwb : wb < W.heap.size := heap_lt hw.book.blk
  have hq : (W.alloc (.cells cs.toArray 33)).heap[W.heap.size]? = some (.cells cs.toArray 33 (0, 0)) := heap_alloc_new _ _
  have q0 : (W.alloc (.cells cs.toArray 33)).cell? ⟨W.heap.size, 0, none⟩ = some (.int .i64 3) := by rw [cell_of_heap hq]; simpa using ho.kind
  have q1 : (W.alloc (.cells cs.toArray 33)).cell? ⟨W.heap.size, 1, none⟩ = some (.int .i64 a) := by rw [cell_of_heap hq]; simpa using ha
  have HB0 := hide ((Below.refl W.heap.size W).alloc (Nat.le_refl _) (.cells cs.toArray 33))
  obtain ⟨vo, vc, hvv⟩ := rf.owns_sl hw.own
  have HR := hide hr
  have RA := hide (rangeAt_blockL hq)
  have HOL := hide ho.len
  have HW := hide hw
  have HPS := hide hps
  have LQ := hide (heap_lt hq)
  clear hw hq ho hps ha hr
  obtain ⟨WA, hWA⟩ : ∃ WA, W.alloc (.cells cs.toArray 33) = WA := ⟨_, rfl⟩
  have HWA := hide hWA
  rw [hWA] at HB0 q0 q1 LQ RA
  have lq := unhide LQ
  clear hWA
  have hwA := (unhide HW).below (unhide HB0)
  have c0 : WA.cell? ⟨wb, 0, none⟩ = some (.slice vo n vc) := by rw [← hvv]; exact cell_of_heap hwA.book.blk
  have HWN := hide hwA
  have OWN := hide (show WA.ownsRow 0 53 2 (.slice vo n vc) n xs from by rw [← hvv]; exact hwA.own)
  clear hvv
  have lwA : wb < WA.heap.size := by omega
  clear hwA
  by_cases h0 : n = 0
  · subst h0
    go_enter Tryz.func8, Tryz.ntmps8
    go_upto_region 1 with fail
    rw [unhide HWA]
    go_wp2_with fail
    go_ret
    exact ⟨rfl, b, (unhide HWN).book, (unhide HB0).os, (unhide HB0).tape, (unhide HB0).output, (unhide HB0).size, fun k hk _ => (unhide HB0).block k hk, fun k h => Or.inl h, fun k h => Or.inl h, by omega, rfl⟩
  · have hz : ((n : Int) == 0) = false := by rw [beq_eq_false_iff_ne]; omega
    obtain ⟨i, hi, hin⟩ := pickL_lt a n (by omega)
    have hin' : i < n := by omega
    obtain ⟨vb, vcap, hvb, _⟩ := (unhide OWN).form (by omega)
    simp only [Value.slice.injEq] at hvb
    obtain ⟨rfl, -, rfl⟩ := hvb
    have hxl := (unhide OWN).1
    obtain ⟨xa, hxa⟩ : ∃ x, xs[i * 2]? = some x := ⟨_, List.getElem?_eq_getElem (by omega)⟩
    obtain ⟨xb, hxb⟩ : ∃ x, xs[i * 2 + 1]? = some x := ⟨_, List.getElem?_eq_getElem (by omega)⟩
    have hpr := unhide HPS i _ _ hxa hxb
    obtain ⟨pp, hpp⟩ : ∃ pp, xa = ptr4 pp 0 := by obtain ⟨_, _, _, _, _, pp, _, h, _⟩ := hpr; exact ⟨pp, h⟩
    obtain ⟨qq, hqq⟩ : ∃ qq, xb = ptr4 qq 0 := by obtain ⟨_, _, _, _, _, _, qq, _, h, _⟩ := hpr; exact ⟨qq, h⟩
    subst hpp hqq
    have y0 : WA.cell? ⟨vb, i * 2, none⟩ = some (ptr4 pp 0) := ((unhide OWN).cellAt (i * 2) (by omega)).trans hxa
    have y1 : WA.cell? ⟨vb, i * 2 + 1, none⟩ = some (ptr4 qq 0) := ((unhide OWN).cellAt (i * 2 + 1) (by omega)).trans hxb
    have lvb : vb < WA.heap.size := ((unhide OWN).lt vb rfl).2
    have HPR := hide hpr
    have PK := hide (pickL_any a n · ha1 ha2 (by omega) (by omega))
    rw [hi] at PK
    clear hpr hxa hxb hi
    go_enter Tryz.func8, Tryz.ntmps8
    go_upto_region 1 with fail
    rw [unhide HWA]
    go_upto_region 14 with fail
    go_cut [5] (fun v5 wc => v5 = .pointer (some ⟨WA.heap.size, 0, none⟩) ∧ Below WA.heap.size WA wc ∧ wc.heap[WA.heap.size]? = some (.cells #[ptr4 pp 0, ptr4 qq 0] 53 (0, 0)))
    case first =>
      go_region_with (go_at_call 14; refine (unhide PK _).mono ?_; rintro e w' ⟨rfl, rfl⟩)
      all_goals
        go_wp2_with fail
        go_meet
        case rel => exact ⟨rfl, ((Below.refl _ _).alloc (Nat.le_refl _) _).drew, heap_alloc_new WA _⟩
    case rest =>
      obtain ⟨rfl, hbc, hcb⟩ := hcut
      have q0c : wc.cell? ⟨W.heap.size, 0, none⟩ = some (.int .i64 3) := (hbc.cell (p := ⟨W.heap.size, 0, none⟩) lq).trans q0
      have z0 : wc.cell? ⟨WA.heap.size, 0, none⟩ = some (ptr4 pp 0) := cell_of_heap hcb
      have z1 : wc.cell? ⟨WA.heap.size, 1, none⟩ = some (ptr4 qq 0) := cell_of_heap hcb
      have lc : WA.heap.size < wc.heap.size := heap_lt hcb
      have hBC := (unhide HB0).trans (hbc.mono (unhide HB0).size)
      have BC := hide hBC
      have RC := hide (show wc.rangeAt W.heap.size 0 cs from fun j v hv => by rw [hbc.cell (p := ⟨W.heap.size, 0 + j, none⟩) lq]; exact unhide RA j v hv)
      have XR := hide (xrun (((unhide HW).below hBC).book) hcnt ((unhide HR).below hBC) ((unhide HPR).fr (Fr.of_below hBC)))
      clear hbc hcb q0 q1 c0 y0 y1 PK hBC
      go_wp2_with (refine wpList_load_opL rfl _ rfl W.heap.size 0 rfl cs (unhide HOL) (unhide RC) ?_)
      refine (unhide XR).mono ?_
      rintro e w1 ⟨rfl, b', hb', hs'⟩
      have BB := hide hb'
      have SS := hide hs'
      clear hb' hs' XR
      go_wp2_with fail
      go_ret
      have h1 := unhide SS
      have h0 := unhide BC
      have hz := h0.size
      exact ⟨rfl, b', unhide BB, h1.os.trans h0.os, h1.tape.trans h0.tape, h1.output.trans h0.output, Nat.le_trans hz h1.size, fun k hk hO => (h1.block k (by omega) hO).trans (h0.block k hk), fun k h => (h1.own k h).imp id (fun h => by omega), fun k h => (h1.recs k h).imp id (fun h => by omega), h1.cnt, h1.ps⟩
end Go.Proofs.YtgdeeodifnegiaaGreatDoor
