/- One step of a script (package bywaylaw): World.run: what is lent comes back, the answer is the document's, its lists go into the book. -/
import Derived.Test.YtgdeeodifnegiaaGreatDoorRwB
namespace Go.Proofs.YtgdeeodifnegiaaGreatDoor
open Go.RowKit

/-- a step with its route, in eighteen cells -/
structure OpR (w : World) (cs : List Value) (R : Rt) (pv mv : Value) : Prop where
  len : cs.length = 18
  c4 : cs[4]? = some (.int .i64 R.addr)
  c5 : cs[5]? = some (.int .i64 R.len)
  c6 : cs[6]? = some pv
  c7 : cs[7]? = some mv
  c8 : cs[8]? = some (.int .i64 R.pref)
  c9 : cs[9]? = some (.int .i64 R.med)
  ip : IntsAt w pv R.path
  im : IntsAt w mv R.marks
  i1 : inI R.addr
  i2 : inI R.len
  i3 : inI R.pref
  i4 : inI R.med
  lp : R.path.length ≤ 16777216
  lm : R.marks.length ≤ 16777216
theorem OpR.below {w w' : World} {cs : List Value} {R : Rt} {pv mv : Value} (h : OpR w cs R pv mv) (hb : Below w.heap.size w w') : OpR w' cs R pv mv :=
  ⟨h.len, h.c4, h.c5, h.c6, h.c7, h.c8, h.c9, h.ip.below hb, h.im.below hb, h.i1, h.i2, h.i3, h.i4, h.lp, h.lm⟩
/-- what a Run leaves -/
structure RunS (wb : Nat) (b b' : Bk) (W W' : World) : Prop where
  os : W'.os = W.os
  tape : W'.tape = W.tape
  output : W'.output = W.output
  size : W.heap.size ≤ W'.heap.size
  block : ∀ k, k < W.heap.size → ¬ b.O wb k → W'.heap[k]? = W.heap[k]?
  own : ∀ k, b'.O wb k → b.O wb k ∨ W.heap.size ≤ k
  recs : ∀ k, b'.R k → b.R k ∨ W.heap.size ≤ k
  cnt : b'.cnt ≤ b.cnt + 2
  ps : b'.vp = b.vp
theorem op_cells {w : World} {g : Nat} {cs : List Value} {R : Rt} {pv mv : Value} {W : World} (h : OpR W cs R pv mv) (hg : w.heap[g]? = some (.cells cs.toArray 33 (0, 0))) :
    w.cell? ⟨g, 4, none⟩ = some (.int .i64 R.addr) ∧ w.cell? ⟨g, 5, none⟩ = some (.int .i64 R.len) ∧ w.cell? ⟨g, 6, none⟩ = some pv ∧ w.cell? ⟨g, 7, none⟩ = some mv ∧ w.cell? ⟨g, 8, none⟩ = some (.int .i64 R.pref) ∧ w.cell? ⟨g, 9, none⟩ = some (.int .i64 R.med) := by
  refine ⟨?_, ?_, ?_, ?_, ?_, ?_⟩
  all_goals rw [cell_of_heap hg]
  · simpa using h.c4
  · simpa using h.c5
  · simpa using h.c6
  · simpa using h.c7
  · simpa using h.c8
  · simpa using h.c9
set_option maxRecDepth 100000 in
set_option maxHeartbeats 12800000 in
theorem xrun {W : World} {wb : Nat} {b : Bk} {cs : List Value} {R : Rt} {pv mv a y : Value} {O : Nat → Prop} (hB : BookAt W wb b) (hcnt : b.cnt ≤ 16777000) (ho : OpR W cs R pv mv) (hpr : PairAt W O a y) :
    Calls Tryz.prog 15 #[ptr4 wb 0, .agg cs.toArray, .agg #[a, y]] W fun e W' => e = .returned (.bool true) ∧ ∃ b', BookAt W' wb b' ∧ RunS wb b b' W W' := by
  obtain ⟨s, ms, x, c, r, pp, qq, rfl, rfl, hBo, hl1, hl2⟩ := hpr
  have hlen := runE_len (hBo.sim.stp ms (by rw [hBo.steps]; exact allO_map ms)) R
  have BR := hide (fun (V : World) (hV : Below W.heap.size W V) (pv mv : Value) (hp : IntsAt V pv R.path) (hm : IntsAt V mv R.marks) => brun_all (hl1.mono hV.size (fun k hk hA => ⟨hV.block k hk, hA⟩) (fun _ _ h => h)) hp hm ho.i1 ho.i2)
  have RR := hide (fun (V : World) (hV : Below W.heap.size W V) (pv mv : Value) (hp : IntsAt V pv R.path) (hm : IntsAt V mv R.marks) => rrun_all hBo (hl2.mono hV.size (fun k hk hA => ⟨hV.block k hk, hA⟩) (fun _ _ h => h)) hp hm ho.i1 ho.i2 ho.i3 ho.i4)
  obtain ⟨q, hq⟩ : ∃ q, rf.runE ms R = q := ⟨_, rfl⟩
  rw [hq] at hlen BR RR
  obtain ⟨q, qv, qe⟩ := q
  dsimp only at hlen BR RR
  obtain ⟨hpl, hml⟩ := hlen
  have HB := hide hB
  have hwlt : wb < W.heap.size := heap_lt hB.blk
  have HIP := hide ho.ip
  have HIM := hide ho.im
  have TP := hide (ints_lt ho.ip)
  have TM := hide (ints_lt ho.im)
  have IP := hide (ints_in ho.ip)
  have IM := hide (ints_in ho.im)
  have lp := ho.lp
  have lm := ho.lm
  obtain ⟨po, pc, rfl, -⟩ := id ho.ip
  obtain ⟨mo, mc, rfl, -⟩ := id ho.im
  have QA := heap_alloc_new W (.cells cs.toArray 33)
  have BA := (Below.refl W.heap.size W).alloc (Nat.le_refl _) (.cells cs.toArray 33)
  obtain ⟨WA, hWA⟩ : ∃ WA, W.alloc (.cells cs.toArray 33) = WA := ⟨_, rfl⟩
  have sA : WA.heap.size = W.heap.size + 1 := by rw [← hWA]; simp
  rw [hWA] at QA BA
  have QB := heap_alloc_new WA (.cells #[ptr4 pp 0, ptr4 qq 0] 53)
  have BB := (Below.refl WA.heap.size WA).alloc (Nat.le_refl _) (.cells #[ptr4 pp 0, ptr4 qq 0] 53)
  obtain ⟨WB, hWB⟩ : ∃ WB, WA.alloc (.cells #[ptr4 pp 0, ptr4 qq 0] 53) = WB := ⟨_, rfl⟩
  have sB : WB.heap.size = W.heap.size + 2 := by rw [← hWB]; simp [sA]
  rw [hWB, sA] at QB
  rw [hWB] at BB
  have QC := heap_alloc_new WB (rtBlk R (.slice po R.path.length pc) (.slice mo R.marks.length mc))
  have BC := (Below.refl WB.heap.size WB).alloc (Nat.le_refl _) (rtBlk R (.slice po R.path.length pc) (.slice mo R.marks.length mc))
  obtain ⟨WC, hWC⟩ : ∃ WC, WB.alloc (rtBlk R (.slice po R.path.length pc) (.slice mo R.marks.length mc)) = WC := ⟨_, rfl⟩
  have sC : WC.heap.size = W.heap.size + 3 := by rw [← hWC]; simp [sB]
  rw [hWC, sB] at QC
  rw [hWC] at BC
  have BAB := BA.trans (BB.mono BA.size)
  have C0 := hide (BAB.trans (BC.mono BAB.size))
  have qaB := (BB.block _ (heap_lt QA)).trans QA
  obtain ⟨o4, o5, o6, o7, o8, o9⟩ := op_cells ho qaB
  have HQA := hide ((BC.block _ (heap_lt qaB)).trans qaB)
  have HQB := hide ((BC.block _ (heap_lt QB)).trans QB)
  have HQC := hide QC
  have HOP := hide ho
  have u6 : WC.cell? ⟨W.heap.size, 6, none⟩ = some (.slice po R.path.length pc) := (op_cells ho (unhide HQA)).2.2.1
  have uC : ∀ o, WC.frozen? ⟨W.heap.size + 2, o, none⟩ = false := fun o => frozen_of_heap QC
  have uC2 : WC.cell? ⟨W.heap.size + 2, 2, none⟩ = some (.slice po R.path.length pc) := cell_of_heap QC
  have HWA := hide hWA
  have HWB := hide hWB
  have HWC := hide (show WB.alloc (.cells #[.int .i64 R.addr, .int .i64 R.len, .slice po R.path.length pc, .slice mo R.marks.length mc, .int .i64 R.pref, .int .i64 R.med] 28) = WC from hWC)
  clear hWA hWB hWC QA QB QC BA BB BC BAB qaB hB hBo hl1 hl2 ho hq
  go_enter Tryz.func15, Tryz.ntmps15
  go_upto_region 1 with fail
  rw [unhide HWA, unhide HWB]
  go_wp2_with fail
  rw [unhide HWC]
  refine (lentInts_any R.path _ WC ((unhide HIP).below (unhide C0)) lp).mono ?_
  rintro e w1 ⟨v1, rfl, hl, hb⟩
  obtain ⟨q1, d1, rfl⟩ := hl.sl
  have B1 := hide ((unhide C0).trans (hb.mono (unhide C0).size))
  have qa1 := (hb.block _ (heap_lt (unhide HQA))).trans (unhide HQA)
  have qb1 := (hb.block _ (heap_lt (unhide HQB))).trans (unhide HQB)
  have qc1 := (hb.block _ (heap_lt (unhide HQC))).trans (unhide HQC)
  obtain ⟨x1, hx1⟩ : ∃ x1, w1.setCell ⟨W.heap.size + 2, 2, none⟩ (.slice q1 R.path.length d1) = x1 := ⟨_, rfl⟩
  have sx1 : x1.heap.size = w1.heap.size := by rw [← hx1]; simp [World.setCell]
  have sb1 := hb.size
  have XC1 := hide (show x1.heap[W.heap.size + 2]? = some (rtBlk R (.slice q1 R.path.length d1) (.slice mo R.marks.length mc)) from by rw [← hx1, heap_set qc1]; rfl)
  have XA1 := hide (show x1.heap[W.heap.size]? = some (.cells cs.toArray 33 (0, 0)) from by rw [← hx1, heap_set_other (by simp only; omega)]; exact qa1)
  have XB1 := hide (show x1.heap[W.heap.size + 1]? = some (.cells #[ptr4 pp 0, ptr4 qq 0] 53 (0, 0)) from by rw [← hx1, heap_set_other (by simp only; omega)]; exact qb1)
  have C1 := hide (show Below W.heap.size W x1 from by rw [← hx1]; exact (unhide B1).setCell (p := ⟨W.heap.size + 2, 2, none⟩) (by simp only; omega) _)
  have L1_1 := hide (show LentI WC x1 (.slice po R.path.length pc) (.slice q1 R.path.length d1) R.path from by rw [← hx1]; exact hl.set (by omega) _)
  have HX1 := hide hx1
  have t1 : w1.cell? ⟨W.heap.size + 2, 2, none⟩ = some (.slice po R.path.length pc) := cell_of_heap qc1
  have fz1 : ∀ o, w1.frozen? ⟨W.heap.size + 2, o, none⟩ = false := fun o => frozen_of_heap qc1
  have y1 : x1.cell? ⟨W.heap.size, 7, none⟩ = some (.slice mo R.marks.length mc) := (op_cells (unhide HOP) (unhide XA1)).2.2.2.1
  have yy1 : w1.cell? ⟨W.heap.size, 7, none⟩ = some (.slice mo R.marks.length mc) := (op_cells (unhide HOP) qa1).2.2.2.1
  clear hl hb qa1 qb1 qc1 hx1 u6 uC uC2 o4 o5 o6 o7 o8 o9
  go_wp2_with fail
  rw [unhide HX1]
  refine (lentInts_any R.marks _ x1 ((unhide HIM).below (unhide C1)) lm).mono ?_
  rintro e w2 ⟨v2, rfl, hl, hb⟩
  obtain ⟨q2, d2, rfl⟩ := hl.sl
  have B2 := hide ((unhide C1).trans (hb.mono (unhide C1).size))
  have qa2 := (hb.block _ (heap_lt (unhide XA1))).trans (unhide XA1)
  have qb2 := (hb.block _ (heap_lt (unhide XB1))).trans (unhide XB1)
  have qc2 := (hb.block _ (heap_lt (unhide XC1))).trans (unhide XC1)
  obtain ⟨x2, hx2⟩ : ∃ x2, w2.setCell ⟨W.heap.size + 2, 3, none⟩ (.slice q2 R.marks.length d2) = x2 := ⟨_, rfl⟩
  have sx2 : x2.heap.size = w2.heap.size := by rw [← hx2]; simp [World.setCell]
  have sb2 := hb.size
  have XC2 := hide (show x2.heap[W.heap.size + 2]? = some (rtBlk R (.slice q1 R.path.length d1) (.slice q2 R.marks.length d2)) from by rw [← hx2, heap_set qc2]; rfl)
  have XA2 := hide (show x2.heap[W.heap.size]? = some (.cells cs.toArray 33 (0, 0)) from by rw [← hx2, heap_set_other (by simp only; omega)]; exact qa2)
  have XB2 := hide (show x2.heap[W.heap.size + 1]? = some (.cells #[ptr4 pp 0, ptr4 qq 0] 53 (0, 0)) from by rw [← hx2, heap_set_other (by simp only; omega)]; exact qb2)
  have C2 := hide (show Below W.heap.size W x2 from by rw [← hx2]; exact (unhide B2).setCell (p := ⟨W.heap.size + 2, 3, none⟩) (by simp only; omega) _)
  have L1_2 := hide (show LentI WC x2 (.slice po R.path.length pc) (.slice q1 R.path.length d1) R.path from by rw [← hx2]; exact ((unhide L1_1).below hb).set (by omega) _)
  have L2_2 := hide (show LentI x1 x2 (.slice mo R.marks.length mc) (.slice q2 R.marks.length d2) R.marks from by rw [← hx2]; exact hl.set (by omega) _)
  have HX2 := hide hx2
  obtain ⟨t0, t1', t2, t3, t4, t5, tz⟩ := rt6 qc2
  have z0 : w2.cell? ⟨W.heap.size + 1, 0, none⟩ = some (ptr4 pp 0) := cell_of_heap qb2
  have z0' : x2.cell? ⟨W.heap.size + 1, 0, none⟩ = some (ptr4 pp 0) := cell_of_heap (unhide XB2)
  obtain ⟨s0, s1, s2, s3, s4, s5, sz⟩ := rt6 (unhide XC2)
  clear hl hb qa2 qb2 qc2 hx2 t1 fz1 y1 yy1
  go_wp2_with fail
  rw [unhide HX2]
  refine (unhide BR x2 (unhide C2) _ _ ((unhide L1_2).at_ (unhide IP) lp) ((unhide L2_2).at_ (unhide IM) lm)).mono ?_
  rintro e w3 ⟨pv', mv', rfl, hrv, hb3⟩
  obtain ⟨qa, ca, rfl⟩ := rf.owns_sl hrv.1
  obtain ⟨qm, cm, rfl⟩ := rf.owns_sl hrv.2.1
  have sb3 := hb3.size
  have QD := heap_alloc_new w3 (rtBlk q (.slice qa q.path.length ca) (.slice qm q.marks.length cm))
  have BD := (Below.refl w3.heap.size w3).alloc (Nat.le_refl _) (rtBlk q (.slice qa q.path.length ca) (.slice qm q.marks.length cm))
  obtain ⟨x3, hx3⟩ : ∃ x3, w3.alloc (rtBlk q (.slice qa q.path.length ca) (.slice qm q.marks.length cm)) = x3 := ⟨_, rfl⟩
  rw [hx3] at QD BD
  have sx3 : x3.heap.size = w3.heap.size + 1 := by rw [← hx3]; simp
  have HX3 := hide (show w3.alloc (.cells #[.int .i64 q.addr, .int .i64 q.len, .slice qa q.path.length ca, .slice qm q.marks.length cm, .int .i64 q.pref, .int .i64 q.med] 28) = x3 from hx3)
  have b23 : Below x2.heap.size x2 x3 := hb3.trans (BD.mono hb3.size)
  have C3 := hide ((unhide C2).trans (b23.mono (unhide C2).size))
  have XA3 := hide ((b23.block _ (heap_lt (unhide XA2))).trans (unhide XA2))
  have XB3 := hide ((b23.block _ (heap_lt (unhide XB2))).trans (unhide XB2))
  have XC3 := hide ((b23.block _ (heap_lt (unhide XC2))).trans (unhide XC2))
  have XD3 := hide QD
  have n1 := hide hrv.2.2.1
  have n2 := hide hrv.2.2.2.1
  have AP := hide hrv.2.2.2.2
  have OP3 := hide (show x3.ownsRow 0 3 1 (.slice qa q.path.length ca) q.path.length (rf.intCells q.path) from owns_of hrv.1 (fun k hk => BD.block k (hrv.1.lt k hk).2))
  have OM3 := hide (show x3.ownsRow 0 3 1 (.slice qm q.marks.length cm) q.marks.length (rf.intCells q.marks) from owns_of hrv.2.1 (fun k hk => BD.block k (hrv.2.1.lt k hk).2))
  have L1_3 := hide ((unhide L1_2).below b23)
  have L2_3 := hide ((unhide L2_2).below b23)
  have m1 := hide (unhide L1_2).blk
  have m2 := hide (unhide L2_2).blk
  have m1' := hide (unhide L1_1).blk
  have a6 : x3.cell? ⟨W.heap.size, 6, none⟩ = some (.slice po R.path.length pc) := (op_cells (unhide HOP) (unhide XA3)).2.2.1
  have a2 : x3.cell? ⟨W.heap.size + 2, 2, none⟩ = some (.slice q1 R.path.length d1) := cell_of_heap (unhide XC3)
  have lq3 : W.heap.size + 2 < x3.heap.size := heap_lt (unhide XC3)
  clear hb3 hrv QD BD b23 hx3 t0 t1' t2 t3 t4 t5 tz z0 z0' s0 s1 s2 s3 s4 s5 sz
  go_upto_region 5 with fail
  rw [unhide HX3]
  go_wp2_with fail
  refine (backInts_any R.path _ _ WC x3 ((unhide HIP).below (unhide C3)) (unhide L1_3) ((unhide TP).imp id (fun h k hk e => by have h1 := h k hk; have h2 := (unhide m1 k e).1; omega)) lp).mono ?_
  rintro e w4 ⟨rfl, hf⟩
  have s4 := hf.size
  have C4 := hide (hf.belowO (unhide C3) (unhide C3).size (fun k hk => by have h2 := (unhide m1 k hk).1; omega))
  have XA4 := hide ((hf.block W.heap.size (by omega) (fun e => by have h2 := (unhide m1 _ e).1; omega)).trans (unhide XA3))
  have XB4 := hide ((hf.block (W.heap.size + 1) (by omega) (fun e => by have h2 := (unhide m1 _ e).1; omega)).trans (unhide XB3))
  have XC4 := hide ((hf.block (W.heap.size + 2) (by omega) (fun e => by have h2 := (unhide m1 _ e).1; omega)).trans (unhide XC3))
  have XD4 := hide ((hf.block w3.heap.size (by omega) (fun e => by have h2 := (unhide m1 _ e).2; omega)).trans (unhide XD3))
  have OP4 := hide (show w4.ownsRow 0 3 1 (.slice qa q.path.length ca) q.path.length (rf.intCells q.path) from owns_of (unhide OP3) (fun k hk => hf.block k ((unhide OP3).lt k hk).2 (fun e => by have h2 := (unhide m1 _ e).2; have h3 := unhide n1 k hk; omega)))
  have OM4 := hide (show w4.ownsRow 0 3 1 (.slice qm q.marks.length cm) q.marks.length (rf.intCells q.marks) from owns_of (unhide OM3) (fun k hk => hf.block k ((unhide OM3).lt k hk).2 (fun e => by have h2 := (unhide m1 _ e).2; have h3 := unhide n2 k hk; omega)))
  have L2_4 := hide ((unhide L2_3).keep hf (fun k h2 h1 => by have e1 := (unhide m1' k h1).2; have e2 := (unhide m2 k h2).1; omega))
  have a7 : w4.cell? ⟨W.heap.size, 7, none⟩ = some (.slice mo R.marks.length mc) := (op_cells (unhide HOP) (unhide XA4)).2.2.2.1
  have a3 : w4.cell? ⟨W.heap.size + 2, 3, none⟩ = some (.slice q2 R.marks.length d2) := cell_of_heap (unhide XC4)
  clear hf a6 a2
  go_wp2_with fail
  refine (backInts_any R.marks _ _ x1 w4 ((unhide HIM).below (unhide C4)) (unhide L2_4) ((unhide TM).imp id (fun h k hk e => by have h1 := h k hk; have h2 := (unhide m2 k e).1; omega)) lm).mono ?_
  rintro e w5 ⟨rfl, hf⟩
  have s5 := hf.size
  have C5 := hide (hf.belowO (unhide C4) (unhide C4).size (fun k hk => by have h2 := (unhide m2 k hk).1; omega))
  have XA5 := hide ((hf.block W.heap.size (by omega) (fun e => by have h2 := (unhide m2 _ e).1; omega)).trans (unhide XA4))
  have XB5 := hide ((hf.block (W.heap.size + 1) (by omega) (fun e => by have h2 := (unhide m2 _ e).1; omega)).trans (unhide XB4))
  have XD5 := hide ((hf.block w3.heap.size (by omega) (fun e => by have h2 := (unhide m2 _ e).2; omega)).trans (unhide XD4))
  have OP5 := hide (show w5.ownsRow 0 3 1 (.slice qa q.path.length ca) q.path.length (rf.intCells q.path) from owns_of (unhide OP4) (fun k hk => hf.block k ((unhide OP4).lt k hk).2 (fun e => by have h2 := (unhide m2 _ e).2; have h3 := unhide n1 k hk; omega)))
  have OM5 := hide (show w5.ownsRow 0 3 1 (.slice qm q.marks.length cm) q.marks.length (rf.intCells q.marks) from owns_of (unhide OM4) (fun k hk => hf.block k ((unhide OM4).lt k hk).2 (fun e => by have h2 := (unhide m2 _ e).2; have h3 := unhide n2 k hk; omega)))
  have z1 : w5.cell? ⟨W.heap.size + 1, 1, none⟩ = some (ptr4 qq 0) := cell_of_heap (unhide XB5)
  obtain ⟨o4, o5, o6, o7, o8, o9⟩ := op_cells (unhide HOP) (unhide XA5)
  clear hf a7 a3
  go_wp2_with fail
  refine (unhide RR w5 (unhide C5) _ _ ((unhide HIP).below (unhide C5)) ((unhide HIM).below (unhide C5))).mono ?_
  rintro e w6 ⟨pb, mb, rfl, ob1, ob2, hb6⟩
  dsimp only at ob1 ob2 ⊢
  obtain ⟨fo, fc, rfl⟩ := rf.owns_sl ob1
  obtain ⟨go, gc, rfl⟩ := rf.owns_sl ob2
  have sb6 := hb6.size
  have QE := heap_alloc_new w6 (rtBlk q (.slice fo q.path.length fc) (.slice go q.marks.length gc))
  have BE := (Below.refl w6.heap.size w6).alloc (Nat.le_refl _) (rtBlk q (.slice fo q.path.length fc) (.slice go q.marks.length gc))
  obtain ⟨x6, hx6⟩ : ∃ x6, w6.alloc (rtBlk q (.slice fo q.path.length fc) (.slice go q.marks.length gc)) = x6 := ⟨_, rfl⟩
  rw [hx6] at QE BE
  have sx6 : x6.heap.size = w6.heap.size + 1 := by rw [← hx6]; simp
  have HX6 := hide (show w6.alloc (.cells #[.int .i64 q.addr, .int .i64 q.len, .slice fo q.path.length fc, .slice go q.marks.length gc, .int .i64 q.pref, .int .i64 q.med] 28) = x6 from hx6)
  have b56 : Below w5.heap.size w5 x6 := hb6.trans (BE.mono hb6.size)
  have C6 := hide ((unhide C5).trans (b56.mono (unhide C5).size))
  have XD6 := hide ((b56.block _ (heap_lt (unhide XD5))).trans (unhide XD5))
  have OP6 := hide (show x6.ownsRow 0 3 1 (.slice qa q.path.length ca) q.path.length (rf.intCells q.path) from owns_of (unhide OP5) (fun k hk => b56.block k ((unhide OP5).lt k hk).2))
  have OM6 := hide (show x6.ownsRow 0 3 1 (.slice qm q.marks.length cm) q.marks.length (rf.intCells q.marks) from owns_of (unhide OM5) (fun k hk => b56.block k ((unhide OM5).lt k hk).2))
  have SR := hide (sameR q _ _ _ _ x6 (unhide OP6) (unhide OM6) (owns_of ob1 (fun k hk => BE.block k (ob1.lt k hk).2)) (owns_of ob2 (fun k hk => BE.block k (ob2.lt k hk).2)))
  obtain ⟨e0, e1, e2, e3, e4, e5, ez⟩ := rt6 (unhide XD6)
  obtain ⟨f0, f1, f2, f3, f4, f5, fz⟩ := rt6 QE
  have l36 : w3.heap.size < x6.heap.size := heap_lt (unhide XD6)
  clear hb6 ob1 ob2 QE BE b56 hx6 o4 o5 o6 o7 o8 o9 z1
  go_upto_region 8 with fail
  rw [unhide HX6]
  go_wp2_with fail
  refine (unhide SR).mono ?_
  rintro e w7 ⟨rfl, hb7⟩
  have sb7 := hb7.size
  have C7 := hide ((unhide C6).trans (hb7.mono (unhide C6).size))
  have XD7 := hide ((hb7.block _ (heap_lt (unhide XD6))).trans (unhide XD6))
  have OP7 := hide (show OwnI w7 W.heap.size (.slice qa q.path.length ca) q.path from by
    have h := owns_of (unhide OP6) (fun k hk => hb7.block k ((unhide OP6).lt k hk).2)
    refine ⟨h.1, h.2.imp id ?_⟩
    rintro ⟨g, cap, cur, h1, _, h3⟩
    exact ⟨g, cap, cur, h1, by have := unhide n1 g (by rw [h1]; rfl); omega, h3⟩)
  have OM7 := hide (show OwnI w7 W.heap.size (.slice qm q.marks.length cm) q.marks from by
    have h := owns_of (unhide OM6) (fun k hk => hb7.block k ((unhide OM6).lt k hk).2)
    refine ⟨h.1, h.2.imp id ?_⟩
    rintro ⟨g, cap, cur, h1, _, h3⟩
    exact ⟨g, cap, cur, h1, by have := unhide n2 g (by rw [h1]; rfl); omega, h3⟩)
  clear hb7 e0 e1 e2 e3 e4 e5 ez f0 f1 f2 f3 f4 f5 fz SR
  have sC7 := (unhide C7).size
  have sC2 := (unhide C2).size
  have FP := hide (show FreeL wb b (.slice qa q.path.length ca) from fun k hk => by
    have h1 := unhide n1 k hk
    exact ⟨fun h => by have := ((unhide HB).lt h).1; omega, fun h => by have := ((unhide HB).sep k h).2; omega⟩)
  have FM := hide (show FreeL wb b (.slice qm q.marks.length cm) from fun k hk => by
    have h1 := unhide n2 k hk
    exact ⟨fun h => by have := ((unhide HB).lt h).1; omega, fun h => by have := ((unhide HB).sep k h).2; omega⟩)
  have APT := hide (show Apart (.slice qa q.path.length ca) (.slice qm q.marks.length cm) from fun k h1 h2 => by
    rcases unhide AP with h | h
    · rw [h] at h1; cases h1
    · exact h (h1.trans h2.symm))
  have BI := hide (fun (V : World) (hV : Below w7.heap.size w7 V) => Book_int_any b wb (.slice qa q.path.length ca) q.path V W.heap.size (((unhide HB).below (unhide C7)).below hV) (unhide FP) (owns_of (unhide OP7) (fun k hk => hV.block k ((unhide OP7).lt k hk).2)) (Nat.le_trans sC7 hV.size) (by omega) (by omega))
  have NQ := hide (rf.own_other (unhide OP6) (unhide XD6) (by decide))
  have g2 : w7.cell? ⟨w3.heap.size, 2, none⟩ = some (.slice qa q.path.length ca) := cell_of_heap (unhide XD7)
  have l37 : w3.heap.size < w7.heap.size := heap_lt (unhide XD7)
  have lwb7 : wb < w7.heap.size := by omega
  go_upto_region 9 with fail
  go_cut [] (fun wc => ∃ bz, BookAt wc wb bz ∧ PutR wb b bz (.slice qa q.path.length ca) w7 wc)
  case first =>
    go_region_with (go_at_call 39; refine (unhide BI _ (by exact (Below.refl _ _).drew)).mono ?_; rintro e wz ⟨rfl, bz, hb1, hput⟩)
    all_goals
      go_wp2_with fail
      go_meet
      exact ⟨bz, hb1, hput.from (Below.refl _ _).drew⟩
  case rest =>
  obtain ⟨b1, hbk, hput⟩ := hcut
  rename World => e1
  have BK1 := hide hbk
  have PU1 := hide hput
  have se1 := hput.size
  have XD8 := hide ((hput.block w3.heap.size l37 (fun h => by have := ((unhide HB).lt h).1; omega) (unhide NQ)).trans (unhide XD7))
  have OM8 := hide (hput.row (unhide FM) (unhide APT) (unhide OM7))
  have FM1 := hide (hput.free (unhide FM) (unhide APT) (fun k hk => ((unhide OM7).lt k hk).2))
  have cn1 := hput.cnt
  have BI2 := hide (fun (V : World) (hV : Below e1.heap.size e1 V) => Book_int_any b1 wb (.slice qm q.marks.length cm) q.marks V W.heap.size ((unhide BK1).below hV) (unhide FM1) (owns_of (unhide OM8) (fun k hk => hV.block k ((unhide OM8).lt k hk).2)) (Nat.le_trans (by omega) hV.size) (by omega) (by omega))
  have g3 : e1.cell? ⟨w3.heap.size, 3, none⟩ = some (.slice qm q.marks.length cm) := cell_of_heap (unhide XD8)
  have l38 : w3.heap.size < e1.heap.size := by omega
  have lwb8 : wb < e1.heap.size := by omega
  clear hbk hput g2 BI
  go_upto_region 10 with fail
  go_cut [] (fun wc => ∃ bz, BookAt wc wb bz ∧ PutR wb b1 bz (.slice qm q.marks.length cm) e1 wc)
  case first =>
    go_region_with (go_at_call 39; refine (unhide BI2 _ (by exact (Below.refl _ _).drew)).mono ?_; rintro e wz ⟨rfl, bz, hb1, hput⟩)
    all_goals
      go_wp2_with fail
      go_meet
      exact ⟨bz, hb1, hput.from (Below.refl _ _).drew⟩
  case rest =>
  obtain ⟨b2, hbk, hput⟩ := hcut
  rename World => e2
  have BK2 := hide hbk
  have PU2 := hide hput
  clear hbk hput g3 BI2
  go_wp2_with fail
  go_ret
  have P1 := unhide PU1
  have P2 := unhide PU2
  have c1 := P1.cnt
  have c2 := P2.cnt
  refine ⟨rfl, b2, unhide BK2, P2.os.trans (P1.os.trans (unhide C7).os), P2.tape.trans (P1.tape.trans (unhide C7).tape), P2.output.trans (P1.output.trans (unhide C7).output), by have := P2.size; omega, fun k hk hO => ?_, fun k hk => ?_, fun k hk => ?_, by omega, P2.ps.trans P1.ps⟩
  · rw [P2.block k (by omega) (fun h => (P1.own k h).elim hO (fun h => by omega)) (fun e => by have := unhide n2 k e; omega), P1.block k (by omega) hO (fun e => by have := unhide n1 k e; omega)]
    exact (unhide C7).block k hk
  · exact (P2.own k hk).elim (fun h => (P1.own k h).imp id (fun h => by omega)) (fun h => Or.inr (by omega))
  · rcases P2.recs k hk with h | h | h
    · rcases P1.recs k h with h | h | h
      · exact Or.inl h
      · exact Or.inr (by have := unhide n1 k h; omega)
      · exact Or.inr (by omega)
    · exact Or.inr (by have := unhide n2 k h; omega)
    · exact Or.inr (by omega)
end Go.Proofs.YtgdeeodifnegiaaGreatDoor
