/- A policy of the document is run, whole (run.go: Run): the walk; the program's Run of no route. -/
import Derived.Test.YtgdeeodifnegiaaGreatDoorRnU
namespace Go.Proofs.YtgdeeodifnegiaaGreatDoor.rf
open Go.RowKit

theorem rtOk_ok {R : Rt} (h : rtOk R = true) : RtOk R := by
  have h1 : routeOk (R.addr, R.len) R.path R.marks R.pref R.med := of_decide_eq_true h
  exact ⟨h1.2.1.1, h1.2.2.1.1, rtOk_sorted h, ⟨h1.1.1.1, h1.1.1.2, h1.1.2.1.1, h1.1.2.1.2⟩⟩
theorem PolR.parts {ds : List Df} {ks : List Tr} {tk : List Tok} {ln : List Bool} {pb : Nat} {K : Nat → Prop} {w : World} (h : PolR pb ds ks tk ln K w) : ∃ dv ko kc tv lv, w.heap[pb]? = some (.cells (polC dv (.slice ko ks.length kc) tv lv) 119 (0, 0)) ∧ TrAt w (fun k => ¬ K k) (.mk wBlock nB 0 0 ks) (treeV wBlock nB 0 0 (.slice ko ks.length kc)) := by
  obtain ⟨_, _, _, dv, kv, tv, lv, xs, ys, hb, _, ht, _⟩ := h
  obtain ⟨ko, kc, rfl⟩ := ht.form
  exact ⟨dv, ko, kc, tv, lv, hb, ht.at _ _ _ _⟩
set_option maxRecDepth 100000 in
set_option maxHeartbeats 12800000 in
theorem rrun_bad {w : World} {pb : Nat} {R : Rt} {pv mv : Value} (hp : IntsAt w pv R.path) (hm : IntsAt w mv R.marks) (i1 : inI R.addr) (i2 : inI R.len) (i3 : inI R.pref) (i4 : inI R.med) (hok : rtOk R = false) :
    Calls Tryz.prog 45 #[ptr pb, rtV R pv mv] w (RunP w (rt0, 0, 5)) := by
  obtain ⟨a1, c1, hpv, _⟩ := id hp
  obtain ⟨a2, c2, hmv, _⟩ := id hm
  obtain ⟨q1, q2, qs⟩ := two_new w (rtBlk R pv mv) (rtBlk rt0 (.slice none 0 0) (.slice none 0 0))
  obtain ⟨W0, hW0⟩ : ∃ W0, (w.alloc (rtBlk R pv mv)).alloc (rtBlk rt0 (.slice none 0 0) (.slice none 0 0)) = W0 := ⟨_, rfl⟩
  have hb0 : Below w.heap.size w W0 := by rw [← hW0]; exact ((Below.refl _ _).alloc (Nat.le_refl _) _).alloc (by rw [World.size_alloc]; omega) _
  rw [hW0] at q1 q2 qs
  have HV := hide (isRoute_w (R.addr, R.len) R.path R.marks R.pref R.med pv mv W0 i1 i2 (hp.below hb0) (hm.below hb0) i3 i4)
  rw [show routeOkB (R.addr, R.len) R.path R.marks R.pref R.med = false from hok] at HV
  obtain ⟨c0, c1', c2', c3, c4, c5, cz⟩ := rt6 q1
  have HQ2 := hide q2
  have HB0 := hide hb0
  clear hp hm hb0 q1 q2
  subst hpv hmv
  have hW0' := hW0
  unfold rtBlk rt0 at hW0'
  go_enter Tryz.func45, Tryz.ntmps45
  go_wp2_with fail
  refine (unhide HV).mono ?_
  rintro e w1 ⟨rfl, hb1⟩
  have p2 := (hb1.block (w.heap.size + 1) (by omega)).trans (unhide HQ2)
  obtain ⟨z0, z1, z2, z3, z4, z5, zz⟩ := rt6 p2
  have HBw1 := hide ((unhide HB0).trans (hb1.mono (unhide HB0).size))
  have hs1 := hb1.size
  have lx : w.heap.size + 1 < w1.heap.size := by omega
  clear hb1 p2
  go_wp2_with fail
  refine bodyPost_ret (v := .tuple #[.agg (rtC rt0 (.slice none 0 0) (.slice none 0 0)), .int .i64 0, .int .i64 5]) (by simp [results, Tryz.results45, go_sem, z0, z1, z2, z3, z4, z5, rt0]) rfl ?_
  exact ⟨_, _, rfl, World.ownsRow_nil _ _ _ _, World.ownsRow_nil _ _ _ _, set6_below (unhide HBw1) (by omega)⟩
set_option maxRecDepth 100000 in
set_option maxHeartbeats 12800000 in
theorem rrun_ok {ds : List Df} {Ds : List DefP} (hDs : DefsT ds Ds) {ks : List Tr} {tk : List Tok} {ln : List Bool} {ms : List StpM} (hS : StpsT Ds ks ms) {w : World} {A : Nat → Prop} {pb : Nat} (hL : Lasts w A (PolR pb ds ks tk ln)) {R : Rt} {pv mv : Value} (hp : IntsAt w pv R.path) (hm : IntsAt w mv R.marks) (i1 : inI R.addr) (i2 : inI R.len) (i3 : inI R.pref) (i4 : inI R.med) (hok : rtOk R = true) :
    Calls Tryz.prog 45 #[ptr pb, rtV R pv mv] w (RunP w ((runM ms R).1, (runM ms R).2, 0)) := by
  obtain ⟨a1, c1, hpv, _⟩ := id hp
  obtain ⟨a2, c2, hmv, _⟩ := id hm
  have hro := rtOk_ok hok
  obtain ⟨q1, q2, qs⟩ := two_new w (rtBlk R pv mv) (rtBlk rt0 (.slice none 0 0) (.slice none 0 0))
  obtain ⟨W0, hW0⟩ : ∃ W0, (w.alloc (rtBlk R pv mv)).alloc (rtBlk rt0 (.slice none 0 0) (.slice none 0 0)) = W0 := ⟨_, rfl⟩
  have hb0 : Below w.heap.size w W0 := by rw [← hW0]; exact ((Below.refl _ _).alloc (Nat.le_refl _) _).alloc (by rw [World.size_alloc]; omega) _
  rw [hW0] at q1 q2 qs
  have HV := hide (isRoute_w (R.addr, R.len) R.path R.marks R.pref R.med pv mv W0 i1 i2 (hp.below hb0) (hm.below hb0) i3 i4)
  rw [show routeOkB (R.addr, R.len) R.path R.marks R.pref R.med = true from hok] at HV
  obtain ⟨c0, c1', c2', c3, c4, c5, cz⟩ := rt6 q1
  have HQ1 := hide q1
  have HQ2 := hide q2
  have HB0 := hide hb0
  have HP := hide hp
  have HM := hide hm
  have HRO := hide hro
  have HVER := hide (ver_perform (stps_ver hS) R)
  have HBODY := hide (do_block PolW.fr (StpsT.len hS) (do_runs PolW.fr (fun t m h => cond_run hDs ks tk ln h) hS) wBlock rfl)
  have HRM := hide (show runM ms R = if (performM ms R).2 = 1 then ((performM ms R).1, 1) else (rt0, if (performM ms R).2 = 3 then 3 else 2) from rfl)
  have HL := hide hL
  have hpl := hro.path
  have hml := hro.marks
  clear hp hm hb0 q1 q2 hL hDs hS hro hok
  subst hpv hmv
  have hW0' := hW0
  unfold rtBlk rt0 at hW0'
  go_enter Tryz.func45, Tryz.ntmps45
  go_wp2_with fail
  refine (unhide HV).mono ?_
  rintro e w1 ⟨rfl, hb1⟩
  have p1 := (hb1.block w.heap.size (by omega)).trans (unhide HQ1)
  have p2 := (hb1.block (w.heap.size + 1) (by omega)).trans (unhide HQ2)
  obtain ⟨s0, s1, s2, s3, s4, s5, hz⟩ := rt6 p1
  have hBw1 := (unhide HB0).trans (hb1.mono (unhide HB0).size)
  have HBw1 := hide hBw1
  have HP2 := hide p2
  have hs1 := hb1.size
  have CP := hide (copied_any (R := R) ((unhide HP).below hBw1) ((unhide HM).below hBw1) (by omega) (by omega))
  clear hb1 hBw1 p1 p2 c0 c1' c2' c3 c4 c5 HV
  go_wp2_with fail
  refine (unhide CP).mono ?_
  rintro e w2 ⟨pv1, mv1, rfl, hb2, n1, n2⟩
  obtain ⟨po, pc, rfl⟩ := owns_sl n1.own
  obtain ⟨mo, mc, rfl⟩ := owns_sl n2.own
  have hs2 := hb2.size
  have l1 := fun k (e : (Value.slice po R.path.length pc).ownBlock = some k) => (n1.own.lt k e).2
  have l2 := fun k (e : (Value.slice mo R.marks.length mc).ownBlock = some k) => (n2.own.lt k e).2
  have p2 := (hb2.block (w.heap.size + 1) (by omega)).trans (unhide HP2)
  have hBw2 := (unhide HBw1).trans (hb2.mono (unhide HBw1).size)
  have hb3 : Below w2.heap.size w2 (w2.alloc (.cells (stC pb R (.slice po R.path.length pc) (.slice mo R.marks.length mc) 0) 184)) := (Below.refl _ _).alloc (Nat.le_refl _) _
  have q3 : (w2.alloc (.cells (stC pb R (.slice po R.path.length pc) (.slice mo R.marks.length mc) 0) 184)).heap[w2.heap.size]? = some (.cells (stC pb R (.slice po R.path.length pc) (.slice mo R.marks.length mc) 0) 184 (0, 0)) := heap_alloc_new _ _
  obtain ⟨W3, hW3⟩ : ∃ W3, w2.alloc (.cells (stC pb R (.slice po R.path.length pc) (.slice mo R.marks.length mc) 0) 184) = W3 := ⟨_, rfl⟩
  have HW3 := hide hW3
  rw [hW3] at hb3 q3
  have hs3 := hb3.size
  have lsb := heap_lt q3
  have hSt : StA W3 w2.heap.size pb R (.slice po R.path.length pc) (.slice mo R.marks.length mc) 0 := ⟨q3, owns_of n1.own (fun k e => hb3.block k (l1 k e)), owns_of n2.own (fun k e => hb3.block k (l2 k e)), fun e => by have := l1 _ e; omega, fun e => by have := l2 _ e; omega⟩
  have hBw3 := hBw2.trans (hb3.mono hBw2.size)
  have hbs := hBw2.size
  have hpol : PolW ds ks tk ln w2.heap.size pb W3 := Lasts.mono (unhide HL) hBw3.size (fun k hk _ => ⟨hBw3.block k hk, by omega⟩) (fun _ _ h => h)
  obtain ⟨K, hK, hP⟩ := id hpol
  obtain ⟨dv, ko, kc, tv, lv, hpb, htr⟩ := (hP W3 (Nat.le_refl _) (fun _ _ => rfl)).parts
  have CALL := hide (unhide HBODY W3 _ _ w2.heap.size pb R _ _ (fun h => (hK _ h).2 rfl) hpol htr (unhide HRO) hSt)
  have y1 : W3.cell? ⟨pb, 1, none⟩ = some (.string wBlock) := cell_of_heap hpb
  have y2 : W3.cell? ⟨pb, 2, none⟩ = some (.string nB) := cell_of_heap hpb
  have y3 : W3.cell? ⟨pb, 3, none⟩ = some (.int .i64 0) := cell_of_heap hpb
  have y4 : W3.cell? ⟨pb, 4, none⟩ = some (.int .i64 0) := cell_of_heap hpb
  have y5 : W3.cell? ⟨pb, 5, none⟩ = some (.slice ko ks.length kc) := cell_of_heap hpb
  have lpb : pb < W3.heap.size := heap_lt hpb
  have P3 := hide ((hb3.block (w.heap.size + 1) (by omega)).trans p2)
  have HB3 := hide hBw3
  have l13 : w.heap.size + 1 < W3.heap.size := by omega
  have nsb : w.heap.size + 1 ≠ w2.heap.size := by omega
  obtain ⟨op, hop⟩ : ∃ op, wBlock = op := ⟨_, rfl⟩
  rw [hop] at CALL y1
  obtain ⟨q, hq⟩ : ∃ q, performM ms R = q := ⟨_, rfl⟩
  rw [hq] at CALL HVER HRM
  clear hop hq hb2 hb3 n1 n2 l1 l2 p2 hBw2 q3 hW3 hSt hBw3 hpol hK hP hpb htr HBODY HL HRO CP HP HM HBw1 HB0 HQ1 HQ2 HP2 s0 s1 s2 s3 s4 s5
  go_upto_region 5 with fail
  rw [unhide HW3]
  go_wp2_with fail
  refine (unhide CALL).mono ?_
  rintro e w4 ⟨rfl, pv4, mv4, hs4, hf4⟩
  obtain ⟨o4, k4, rfl⟩ := owns_sl hs4.own1
  obtain ⟨o5, k5, rfl⟩ := owns_sl hs4.own2
  have t1 : w4.cell? ⟨w2.heap.size, 1, none⟩ = some (.int .i64 q.1.addr) := cell_of_heap hs4.blk
  have t2 : w4.cell? ⟨w2.heap.size, 2, none⟩ = some (.int .i64 q.1.len) := cell_of_heap hs4.blk
  have t3 : w4.cell? ⟨w2.heap.size, 3, none⟩ = some (.slice o4 q.1.path.length k4) := cell_of_heap hs4.blk
  have t4 : w4.cell? ⟨w2.heap.size, 4, none⟩ = some (.slice o5 q.1.marks.length k5) := cell_of_heap hs4.blk
  have t5 : w4.cell? ⟨w2.heap.size, 5, none⟩ = some (.int .i64 q.1.pref) := cell_of_heap hs4.blk
  have t6 : w4.cell? ⟨w2.heap.size, 6, none⟩ = some (.int .i64 q.1.med) := cell_of_heap hs4.blk
  have t7 : w4.cell? ⟨w2.heap.size, 7, none⟩ = some (.int .i64 q.2) := cell_of_heap hs4.blk
  have l4 : w2.heap.size < w4.heap.size := heap_lt hs4.blk
  have tz : ∀ o, w4.frozen? ⟨w2.heap.size, o, none⟩ = false := fun o => frozen_of_heap hs4.blk
  have p4 := (hf4.block (w.heap.size + 1) l13 nsb).trans (unhide P3)
  obtain ⟨z0, z1, z2, z3, z4, z5, zz⟩ := rt6 p4
  have lz : w.heap.size + 1 < w4.heap.size := heap_lt p4
  have HN4 := hide (And.intro (own_other hs4.own1 p4 (by decide)) (own_other hs4.own2 p4 (by decide)))
  have HB4 := hide (below_sb (unhide HB3) (show w.heap.size ≤ w2.heap.size by omega) hf4)
  have HS4 := hide hs4
  clear hs4 hf4 p4 CALL y1 y2 y3 y4 y5
  have hv := unhide HVER
  rcases hv with h | h | h | h
  · rw [h] at t7
    go_upto_region 10 with fail
    go_region_with (fail)
    all_goals
      go_wp2_with fail
      refine bodyPost_ret (v := .tuple #[.agg (rtC rt0 (.slice none 0 0) (.slice none 0 0)), .int .i64 2, .int .i64 0]) (by simp [results, Tryz.results45, go_sem, z0, z1, z2, z3, z4, z5, rt0, nsb]) rfl ?_
      rw [unhide HRM, if_neg (by omega), if_neg (by omega)]
      refine ⟨_, _, rfl, World.ownsRow_nil _ _ _ _, World.ownsRow_nil _ _ _ _, ?_⟩
      with_reducible exact (set6_below (Below.setCell (p := ⟨w2.heap.size, 7, none⟩) (unhide HB4) (show w.heap.size ≤ w2.heap.size by omega) _) (by omega)).drew
  · rw [h] at t7
    go_wp2_with fail
    refine bodyPost_ret (v := .tuple #[.agg (rtC q.1 (.slice o4 q.1.path.length k4) (.slice o5 q.1.marks.length k5)), .int .i64 1, .int .i64 0]) (by simp [results, Tryz.results45, go_sem, z0, z1, z2, z3, z4, z5, nsb]) rfl ?_
    rw [unhide HRM, if_pos h]
    refine ⟨_, _, rfl, owns_of (unhide HS4).own1 (fun k e => set6_other (fun e2 => (unhide HN4).1 (by rw [← e2]; exact e))), owns_of (unhide HS4).own2 (fun k e => set6_other (fun e2 => (unhide HN4).2 (by rw [← e2]; exact e))), ?_⟩
    exact set6_below (unhide HB4) (by omega)
  · rw [h] at t7
    go_upto_region 10 with fail
    go_region_with (fail)
    all_goals
      go_wp2_with fail
      refine bodyPost_ret (v := .tuple #[.agg (rtC rt0 (.slice none 0 0) (.slice none 0 0)), .int .i64 2, .int .i64 0]) (by simp [results, Tryz.results45, go_sem, z0, z1, z2, z3, z4, z5, rt0, nsb]) rfl ?_
      rw [unhide HRM, if_neg (by omega), if_neg (by omega)]
      refine ⟨_, _, rfl, World.ownsRow_nil _ _ _ _, World.ownsRow_nil _ _ _ _, ?_⟩
      with_reducible exact (set6_below (unhide HB4) (by omega)).drew
  · rw [h] at t7
    go_upto_region 10 with fail
    go_region_with (fail)
    all_goals
      go_wp2_with fail
      refine bodyPost_ret (v := .tuple #[.agg (rtC rt0 (.slice none 0 0) (.slice none 0 0)), .int .i64 3, .int .i64 0]) (by simp [results, Tryz.results45, go_sem, z0, z1, z2, z3, z4, z5, rt0, nsb]) rfl ?_
      rw [unhide HRM, if_neg (by omega), if_pos h]
      refine ⟨_, _, rfl, World.ownsRow_nil _ _ _ _, World.ownsRow_nil _ _ _ _, ?_⟩
      with_reducible exact (set6_below (unhide HB4) (by omega)).drew
end Go.Proofs.YtgdeeodifnegiaaGreatDoor.rf
