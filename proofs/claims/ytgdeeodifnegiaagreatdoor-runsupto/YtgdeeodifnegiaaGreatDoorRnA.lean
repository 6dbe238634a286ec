/- A policy of the document is run (bywayref, run.go): the state in memory; sum. -/
import Derived.Test.YtgdeeodifnegiaaGreatDoorRefZh
import Derived.Test.YtgdeeodifnegiaaGreatDoorEqD
namespace Go.Proofs.YtgdeeodifnegiaaGreatDoor.rf
open Go.RowKit

abbrev intCells (l : List Int) : List Value := l.map (.int .i64)
abbrev stC (pb : Nat) (R : Rt) (pv mv : Value) (ver : Int) : Array Value := #[ptr pb, .int .i64 R.addr, .int .i64 R.len, pv, mv, .int .i64 R.pref, .int .i64 R.med, .int .i64 ver]
/-- the state of a policy that is run -/
structure StA (w : World) (sb pb : Nat) (R : Rt) (pv mv : Value) (ver : Int) : Prop where
  blk : w.heap[sb]? = some (.cells (stC pb R pv mv ver) 184 (0, 0))
  own1 : w.ownsRow 0 3 1 pv R.path.length (intCells R.path)
  own2 : w.ownsRow 0 3 1 mv R.marks.length (intCells R.marks)
  ne1 : pv.ownBlock ≠ some sb
  ne2 : mv.ownBlock ≠ some sb
abbrev Sb (sb : Nat) : Nat → Prop := fun k => k = sb
theorem StA.below {w w' : World} {sb pb : Nat} {R : Rt} {pv mv : Value} {ver : Int} (h : StA w sb pb R pv mv ver) (hb : Below w.heap.size w w') : StA w' sb pb R pv mv ver :=
  ⟨(hb.block sb (heap_lt h.blk)).trans h.blk, owns_of h.own1 (fun k hk => hb.block k (h.own1.lt k hk).2), owns_of h.own2 (fun k hk => hb.block k (h.own2.lt k hk).2), h.ne1, h.ne2⟩
theorem StA.ver {w : World} {sb pb : Nat} {R : Rt} {pv mv : Value} {ver : Int} (h : StA w sb pb R pv mv ver) (x : Int) : StA (w.setCell ⟨sb, 7, none⟩ (.int .i64 x)) sb pb R pv mv x :=
  ⟨heap_set h.blk, owns_of h.own1 (fun k hk => heap_set_other (fun e => h.ne1 (by have e' : k = sb := e; rw [← e']; exact hk))), owns_of h.own2 (fun k hk => heap_set_other (fun e => h.ne2 (by have e' : k = sb := e; rw [← e']; exact hk))), h.ne1, h.ne2⟩
theorem cell_same {w w' : World} {g o : Nat} (h : w'.heap[g]? = w.heap[g]?) : w'.cell? ⟨g, o, none⟩ = w.cell? ⟨g, o, none⟩ := by unfold World.cell?; rw [h]
/-- a tree's kids in memory, each by itself -/
structure Kids (w : World) (Q : Nat → Prop) (kids : List Tr) (kv : Value) (g : Nat) : Prop where
  sl : ∃ cap, kv = .slice (some ⟨g, 0, none⟩) kids.length cap
  lt : g < w.heap.size
  off : ¬ Q g
  at_ : ∀ i, (h : i < kids.length) → ∃ a b c d e, w.cell? ⟨g, i * 5, none⟩ = some a ∧ w.cell? ⟨g, i * 5 + 1, none⟩ = some b ∧ w.cell? ⟨g, i * 5 + 2, none⟩ = some c ∧ w.cell? ⟨g, i * 5 + 3, none⟩ = some d ∧ w.cell? ⟨g, i * 5 + 4, none⟩ = some e ∧ TrAt w Q kids[i] (.agg #[a, b, c, d, e])
theorem TrAt.kids {w : World} {Q : Nat → Prop} {op text : ByteArray} {n a : Int} {kids : List Tr} {v : Value} (h : TrAt w Q (.mk op text n a kids) v) (h0 : kids ≠ []) : ∃ kv g, v = treeV op text n a kv ∧ Kids w Q kids kv g := by
  rw [TrAt] at h
  obtain ⟨kv, xs, rfl, ho, hq, ha⟩ := h
  have hl : kids.length ≠ 0 := by simpa using h0
  rcases ho.2 with ⟨_, h0⟩ | ⟨g, cap, cur, rfl, _⟩
  · exact absurd h0 hl
  · refine ⟨_, g, rfl, ⟨_, rfl⟩, (ho.lt g rfl).2, hq g rfl, fun i hi => ?_⟩
    obtain ⟨y0, y1, y2, y3, y4, x0, x1, x2, x3, x4, hk⟩ := AllTr.get kids xs ha i hi
    exact ⟨y0, y1, y2, y3, y4, (ho.cellAt _ (by omega)).trans x0, (ho.cellAt _ (by omega)).trans x1, (ho.cellAt _ (by omega)).trans x2, (ho.cellAt _ (by omega)).trans x3, (ho.cellAt _ (by omega)).trans x4, hk⟩
theorem Kids.fr {w w' : World} {Q : Nat → Prop} {kids : List Tr} {kv : Value} {g sb : Nat} (h : Kids w Q kids kv g) (hQ : Q sb) (hf : Fr (Sb sb) w (Sb sb) w') : Kids w' (fun k => Q k ∨ w.heap.size ≤ k) kids kv g := by
  have hg : g ≠ sb := fun e => h.off (by rw [e]; exact hQ)
  refine ⟨h.sl, Nat.lt_of_lt_of_le h.lt hf.size, fun hh => ?_, fun i hi => ?_⟩
  · rcases hh with hh | hh
    · exact h.off hh
    · have := h.lt; omega
  · obtain ⟨a, b, c, d, e, h0, h1, h2, h3, h4, h5⟩ := h.at_ i hi
    have hc : ∀ o, w'.cell? ⟨g, o, none⟩ = w.cell? ⟨g, o, none⟩ := fun o => cell_same (hf.block g h.lt hg)
    exact ⟨a, b, c, d, e, (hc _).trans h0, (hc _).trans h1, (hc _).trans h2, (hc _).trans h3, (hc _).trans h4, TrAt.step hf (fun k hk => by rw [hk]; exact hQ) (fun k hk => hk) _ _ h5⟩
theorem fr_sb {w w' : World} {sb : Nat} (hb : Below w.heap.size w w') : Fr (Sb sb) w (Sb sb) w' := Fr.of_below hb
theorem wr_plus (x y : Int) : wr64 (x + wr64 (1 * y)) = wrap64 (x + y) := by unfold wr64 wrap64; omega
theorem wr_minus (x y : Int) : wr64 (x + wr64 (-1 * y)) = wrap64 (x - y) := by unfold wr64 wrap64; omega
def SumP (w : World) (sb pb : Nat) (R : Rt) (pv mv : Value) (o : Option Int) (e : Ending) (w' : World) : Prop := ∃ x ver : Int, e = .returned (.int .i64 x) ∧ StA w' sb pb R pv mv ver ∧ Fr (Sb sb) w (Sb sb) w' ∧ ((o = some x ∧ ver = 0) ∨ (o = none ∧ ver = 3))
/-- what a SUM comes to -/
def SumR (t : Tr) (m : AmtM) : Prop := ∀ (w : World) (Q : Nat → Prop) (v : Value) (sb pb : Nat) (R : Rt) (pv mv : Value), Q sb → TrAt w Q t v → StA w sb pb R pv mv 0 →
  Calls Tryz.prog 150 #[ptr sb, v] w (SumP w sb pb R pv mv (m R))
set_option maxRecDepth 100000 in
set_option maxHeartbeats 1600000 in
theorem sum_num (n a : Int) : SumR (.mk wNumber nB n a []) (constM n) := by
  intro w Q v sb pb R pv mv hQ ht hs
  rw [TrAt] at ht
  obtain ⟨kv, xs, rfl, _, _, _⟩ := ht
  obtain ⟨op, hop⟩ : ∃ op, wNumber = op := ⟨_, rfl⟩
  have e0 : (op.toList == [110, 117, 109, 98, 101, 114]) = true := by rw [← hop]; decide +kernel
  have e1 : (op.toList == [112, 114, 101, 102]) = false := by rw [← hop]; decide +kernel
  have e2 : (op.toList == [109, 101, 100]) = false := by rw [← hop]; decide +kernel
  have e3 : (op.toList == [108, 101, 110]) = false := by rw [← hop]; decide +kernel
  have e4 : (op.toList == [45]) = false := by rw [← hop]; decide +kernel
  rw [hop]
  have h1 := hs.below ((Below.refl _ _).alloc (Nat.le_refl _) (.cells (treeCells op nB n a kv) 115))
  have HS := hide h1
  have lsb := heap_lt hs.blk
  clear hs h1 hop
  go_enter Tryz.func150, Tryz.ntmps150
  go_wp2_with fail
  go_ret
  exact ⟨n, 0, rfl, unhide HS, fr_sb ((Below.refl _ _).alloc (Nat.le_refl _) _), Or.inl ⟨rfl, rfl⟩⟩
set_option maxRecDepth 100000 in
set_option maxHeartbeats 1600000 in
theorem sum_pref : SumR (.mk wPref nB 0 0 []) prefM := by
  intro w Q v sb pb R pv mv hQ ht hs
  rw [TrAt] at ht
  obtain ⟨kv, xs, rfl, _, _, _⟩ := ht
  obtain ⟨op, hop⟩ : ∃ op, wPref = op := ⟨_, rfl⟩
  have e0 : (op.toList == [110, 117, 109, 98, 101, 114]) = false := by rw [← hop]; decide +kernel
  have e1 : (op.toList == [112, 114, 101, 102]) = true := by rw [← hop]; decide +kernel
  have e2 : (op.toList == [109, 101, 100]) = false := by rw [← hop]; decide +kernel
  have e3 : (op.toList == [108, 101, 110]) = false := by rw [← hop]; decide +kernel
  have e4 : (op.toList == [45]) = false := by rw [← hop]; decide +kernel
  rw [hop]
  have h1 := hs.below ((Below.refl _ _).alloc (Nat.le_refl _) (.cells (treeCells op nB 0 0 kv) 115))
  have c5 : (w.alloc (.cells (treeCells op nB 0 0 kv) 115)).cell? ⟨sb, 5, none⟩ = some (.int .i64 R.pref) := cell_of_heap h1.blk
  have HS := hide h1
  have lsb := heap_lt hs.blk
  clear hs h1 hop
  go_enter Tryz.func150, Tryz.ntmps150
  go_wp2_with fail
  go_ret
  exact ⟨R.pref, 0, rfl, unhide HS, fr_sb ((Below.refl _ _).alloc (Nat.le_refl _) _), Or.inl ⟨rfl, rfl⟩⟩
set_option maxRecDepth 100000 in
set_option maxHeartbeats 1600000 in
theorem sum_med : SumR (.mk wMed nB 0 0 []) medM := by
  intro w Q v sb pb R pv mv hQ ht hs
  rw [TrAt] at ht
  obtain ⟨kv, xs, rfl, _, _, _⟩ := ht
  obtain ⟨op, hop⟩ : ∃ op, wMed = op := ⟨_, rfl⟩
  have e0 : (op.toList == [110, 117, 109, 98, 101, 114]) = false := by rw [← hop]; decide +kernel
  have e1 : (op.toList == [112, 114, 101, 102]) = false := by rw [← hop]; decide +kernel
  have e2 : (op.toList == [109, 101, 100]) = true := by rw [← hop]; decide +kernel
  have e3 : (op.toList == [108, 101, 110]) = false := by rw [← hop]; decide +kernel
  have e4 : (op.toList == [45]) = false := by rw [← hop]; decide +kernel
  rw [hop]
  have h1 := hs.below ((Below.refl _ _).alloc (Nat.le_refl _) (.cells (treeCells op nB 0 0 kv) 115))
  have c5 : (w.alloc (.cells (treeCells op nB 0 0 kv) 115)).cell? ⟨sb, 6, none⟩ = some (.int .i64 R.med) := cell_of_heap h1.blk
  have HS := hide h1
  have lsb := heap_lt hs.blk
  clear hs h1 hop
  go_enter Tryz.func150, Tryz.ntmps150
  go_wp2_with fail
  go_ret
  exact ⟨R.med, 0, rfl, unhide HS, fr_sb ((Below.refl _ _).alloc (Nat.le_refl _) _), Or.inl ⟨rfl, rfl⟩⟩
set_option maxRecDepth 100000 in
set_option maxHeartbeats 1600000 in
theorem sum_len : SumR (.mk wLen nB 0 0 []) lenM := by
  intro w Q v sb pb R pv mv hQ ht hs
  rw [TrAt] at ht
  obtain ⟨kv, xs, rfl, _, _, _⟩ := ht
  obtain ⟨po, pc, rfl⟩ := owns_sl hs.own1
  obtain ⟨op, hop⟩ : ∃ op, wLen = op := ⟨_, rfl⟩
  have e0 : (op.toList == [110, 117, 109, 98, 101, 114]) = false := by rw [← hop]; decide +kernel
  have e1 : (op.toList == [112, 114, 101, 102]) = false := by rw [← hop]; decide +kernel
  have e2 : (op.toList == [109, 101, 100]) = false := by rw [← hop]; decide +kernel
  have e3 : (op.toList == [108, 101, 110]) = true := by rw [← hop]; decide +kernel
  have e4 : (op.toList == [45]) = false := by rw [← hop]; decide +kernel
  rw [hop]
  have h1 := hs.below ((Below.refl _ _).alloc (Nat.le_refl _) (.cells (treeCells op nB 0 0 kv) 115))
  have c5 : (w.alloc (.cells (treeCells op nB 0 0 kv) 115)).cell? ⟨sb, 3, none⟩ = some (.slice po R.path.length pc) := cell_of_heap h1.blk
  have HS := hide h1
  have lsb := heap_lt hs.blk
  clear hs h1 hop
  go_enter Tryz.func150, Tryz.ntmps150
  go_wp2_with fail
  go_ret
  exact ⟨(R.path.length : Int), 0, rfl, unhide HS, fr_sb ((Below.refl _ _).alloc (Nat.le_refl _) _), Or.inl ⟨rfl, rfl⟩⟩
set_option maxRecDepth 100000 in
set_option maxHeartbeats 3200000 in
theorem sum_bin {x y : Tr} {a b : AmtM} (IA : SumR x a) (IB : SumR y b) (op : ByteArray) (s : Int) (bm : Bool) (hop : (op = wPlus ∧ s = 1 ∧ bm = false) ∨ (op = wMinus ∧ s = -1 ∧ bm = true)) : SumR (.mk op nB 0 0 [x, y]) (plusM a b s) := by
  intro w Q v sb pb R pv mv hQ ht hs
  have e0 : (op.toList == [110, 117, 109, 98, 101, 114]) = false := by rcases hop with ⟨rfl, _⟩ | ⟨rfl, _⟩ <;> decide +kernel
  have e1 : (op.toList == [112, 114, 101, 102]) = false := by rcases hop with ⟨rfl, _⟩ | ⟨rfl, _⟩ <;> decide +kernel
  have e2 : (op.toList == [109, 101, 100]) = false := by rcases hop with ⟨rfl, _⟩ | ⟨rfl, _⟩ <;> decide +kernel
  have e3 : (op.toList == [108, 101, 110]) = false := by rcases hop with ⟨rfl, _⟩ | ⟨rfl, _⟩ <;> decide +kernel
  have e4 : (op.toList == [45]) = bm := by rcases hop with ⟨rfl, _, rfl⟩ | ⟨rfl, _, rfl⟩ <;> decide +kernel
  have hsb : (s = 1 ∧ bm = false) ∨ (s = -1 ∧ bm = true) := hop.imp (fun h => h.2) (fun h => h.2)
  obtain ⟨kv, g, rfl, hk⟩ := ht.kids (by simp)
  have lsb := heap_lt hs.blk
  have hA : Below w.heap.size w (w.alloc (.cells (treeCells op nB 0 0 kv) 115)) := (Below.refl _ _).alloc (Nat.le_refl _) _
  have q0 : (w.alloc (.cells (treeCells op nB 0 0 kv) 115)).heap[w.heap.size]? = some (.cells (treeCells op nB 0 0 kv) 115 (0, 0)) := heap_alloc_new _ _
  obtain ⟨cap, hkv⟩ := hk.sl
  have hk1 := hk.fr hQ (fr_sb hA)
  have hs1 := hs.below hA
  have HA := hide hA
  obtain ⟨WA, hWA⟩ : ∃ WA, w.alloc (.cells (treeCells op nB 0 0 kv) 115) = WA := ⟨_, rfl⟩
  have HWA := hide hWA
  rw [hWA] at q0 hk1 hs1 HA
  obtain ⟨p0, p1, p2, p3, p4, c0, c1, c2, c3, c4, t0⟩ := hk1.at_ 0 (by simp)
  have k0 : WA.cell? ⟨w.heap.size, 0, none⟩ = some (.string op) := cell_of_heap q0
  have k4 : WA.cell? ⟨w.heap.size, 4, none⟩ = some kv := cell_of_heap q0
  have HK := hide hk1
  have HS := hide hs1
  have T0 := hide t0
  have HQ := hide hQ
  have Q0 := hide q0
  have HIA := hide IA
  have HIB := hide IB
  have HSB := hide hsb
  have lA : w.heap.size < WA.heap.size := heap_lt q0
  have lg := hk1.lt
  rw [hkv] at k4 HWA
  simp only [List.length_cons, List.length_nil, Nat.zero_add, Nat.reduceAdd, Nat.zero_mul] at k4 HWA c0 c1 c2 c3 c4
  clear hk hk1 hs hs1 hA ht t0 q0 hQ IA IB hop hWA hsb
  go_enter Tryz.func150, Tryz.ntmps150
  go_upto_region 1 with fail
  rw [unhide HWA]
  go_wp2_with fail
  refine (unhide HIA _ _ _ _ _ _ _ _ (Or.inl (unhide HQ)) (unhide T0) (unhide HS)).mono ?_
  rintro e w1 ⟨x1, v1, rfl, hs1, hf1, hm1⟩
  have c7 : w1.cell? ⟨sb, 7, none⟩ = some (.int .i64 v1) := cell_of_heap hs1.blk
  have l1 : sb < w1.heap.size := heap_lt hs1.blk
  have HS1 := hide hs1
  have F1 := hide ((fr_sb (unhide HA)).trans hf1)
  have hk1 := (unhide HK).fr (Or.inl (unhide HQ)) hf1
  have q1 : w1.heap[w.heap.size]? = _ := (hf1.block w.heap.size lA (by omega)).trans (unhide Q0)
  obtain ⟨r0, r1, r2, r3, r4, d0, d1, d2, d3, d4, t1⟩ := hk1.at_ 1 (by simp)
  have n4 : w1.cell? ⟨w.heap.size, 4, none⟩ = some kv := cell_of_heap q1
  have n0 : w1.cell? ⟨w.heap.size, 0, none⟩ = some (.string op) := cell_of_heap q1
  have T1 := hide t1
  have Q1 := hide q1
  have lg1 := hk1.lt
  have lw1 : w.heap.size < w1.heap.size := heap_lt q1
  rw [hkv] at n4
  simp only [List.length_cons, List.length_nil, Nat.zero_add, Nat.reduceAdd, Nat.one_mul] at n4 d0 d1 d2 d3 d4
  clear hs1 hf1 hk1 q1 t1 c0 c1 c2 c3 c4 k0 k4 HIA HK
  rcases hm1 with ⟨hm1, rfl⟩ | ⟨hm1, rfl⟩
  · go_wp2_with fail
    refine (unhide HIB _ _ _ _ _ _ _ _ (Or.inl (Or.inl (unhide HQ))) (unhide T1) (unhide HS1)).mono ?_
    rintro e w2 ⟨x2, v2, rfl, hs2, hf2, hm2⟩
    have l2 : sb < w2.heap.size := heap_lt hs2.blk
    have z2 : ∀ o, w2.frozen? ⟨sb, o, none⟩ = false := fun o => frozen_of_heap hs2.blk
    have q2 : w2.heap[w.heap.size]? = _ := (hf2.block w.heap.size lw1 (by omega)).trans (unhide Q1)
    have o0 : w2.cell? ⟨w.heap.size, 0, none⟩ = some (.string op) := cell_of_heap q2
    have c72 : w2.cell? ⟨sb, 7, none⟩ = some (.int .i64 v2) := cell_of_heap hs2.blk
    have lw2 : w.heap.size < w2.heap.size := heap_lt q2
    have HS2 := hide hs2
    have F2 := hide ((unhide F1).trans hf2)
    clear hs2 hf2 q2 n0 n4 d0 d1 d2 d3 d4 c7
    obtain ⟨N, hN⟩ : ∃ N, (if bm = true then wrap64 (x1 - x2) else wrap64 (x1 + x2)) = N := ⟨_, rfl⟩
    have hpn : plusN s x1 x2 = if 0 ≤ N ∧ N ≤ 4294967295 then some N else none := by
      have e : wr64 (x1 + wr64 (s * x2)) = N := by
        rw [← hN]
        rcases unhide HSB with ⟨rfl, rfl⟩ | ⟨rfl, rfl⟩
        · exact wr_plus x1 x2
        · exact wr_minus x1 x2
      unfold plusN
      rw [e]
    have hpm : plusM a b s R = (match b R with | none => none | some y => plusN s x1 y) := by simp only [plusM, hm1]; rfl
    have BAD := hide (show (N < 0 ∨ 4294967295 < N) → plusM a b s R = none from fun h => by
      rw [hpm]
      rcases hm2 with ⟨h2, _⟩ | ⟨h2, _⟩
      · rw [h2]
        show plusN s x1 x2 = none
        rw [hpn, if_neg (by omega)]
      · rw [h2])
    have GOOD := hide (show ¬ (N < 0 ∨ 4294967295 < N) → (plusM a b s R = some N ∧ v2 = 0) ∨ (plusM a b s R = none ∧ v2 = 3) from fun h => by
      rw [hpm]
      rcases hm2 with ⟨h2, h3⟩ | ⟨h2, h3⟩
      · rw [h2]
        refine Or.inl ⟨?_, h3⟩
        show plusN s x1 x2 = some N
        rw [hpn, if_pos (by omega)]
      · rw [h2]; exact Or.inr ⟨rfl, h3⟩)
    clear hm2 hpn hpm hm1 HSB
    cases bm
    all_goals
      simp only [if_true, if_false, Bool.false_eq_true] at hN
      go_wp2_with fail
      all_goals
        rw [hN] at *
        go_ret
        first
          | exact ⟨N, 3, rfl, (unhide HS2).ver 3, (unhide F2).setCell (Or.inl rfl) _, Or.inr ⟨unhide BAD (by omega), rfl⟩⟩
          | exact ⟨N, v2, rfl, unhide HS2, unhide F2, unhide GOOD (by omega)⟩
  · go_wp2_with fail
    go_ret
    exact ⟨0, 3, rfl, unhide HS1, unhide F1, Or.inr ⟨by simp [plusM, hm1], rfl⟩⟩
theorem sum_run {t : Tr} {m : AmtM} (h : AmtT t m) : SumR t m := by
  induction h with
  | num n a => exact sum_num n a
  | pref => exact sum_pref
  | med => exact sum_med
  | len => exact sum_len
  | plus _ _ ia ib => exact sum_bin ia ib _ _ false (Or.inl ⟨rfl, rfl, rfl⟩)
  | minus _ _ ia ib => exact sum_bin ia ib _ _ true (Or.inr ⟨rfl, rfl, rfl⟩)
end Go.Proofs.YtgdeeodifnegiaaGreatDoor.rf
