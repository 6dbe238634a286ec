/- Compile: the program's answer is the document's, at every text. -/
import Derived.Test.YtgdeeodifnegiaaGreatDoorRefZh
import Derived.Test.YtgdeeodifnegiaaGreatDoorPrtK
import Derived.Test.YtgdeeodifnegiaaGreatDoorEqT
import Derived.Deep.MidRow
set_option maxRecDepth 100000
set_option maxHeartbeats 12800000
namespace Go.Proofs.YtgdeeodifnegiaaGreatDoor
open Go.RowKit
theorem read_syn {s : ByteArray} (hs : s.size ≤ 600) {r : RS × List (Option StpM)} (h : polA (allP s) = some r) {a : Int} (e : r.1.syn = some a) : ReadE s 2 a := fun w ht => by
 obtain ⟨h1, h2⟩ := allP_ok hs
 exact read_bad s hs w ht h1 h2 (st := r.1) (l := r.2) (pol_said hs h) (Or.inl ⟨e, rfl⟩)
theorem read_nam {s : ByteArray} (hs : s.size ≤ 600) {r : RS × List (Option StpM)} (h : polA (allP s) = some r) {a : Int} (e1 : r.1.syn = none) (e : r.1.nam = some a) : ReadE s 3 a := fun w ht => by
 obtain ⟨h1, h2⟩ := allP_ok hs
 exact read_bad s hs w ht h1 h2 (st := r.1) (l := r.2) (pol_said hs h) (Or.inr (Or.inl ⟨e1, e, rfl⟩))
theorem read_num {s : ByteArray} (hs : s.size ≤ 600) {r : RS × List (Option StpM)} (h : polA (allP s) = some r) {a : Int} (e1 : r.1.syn = none) (e2 : r.1.nam = none) (e : r.1.num = some a) : ReadE s 4 a := fun w ht => by
 obtain ⟨h1, h2⟩ := allP_ok hs
 exact read_bad s hs w ht h1 h2 (st := r.1) (l := r.2) (pol_said hs h) (Or.inr (Or.inr ⟨e1, e2, e, rfl⟩))
theorem allGo_text (s : ByteArray) : ∀ (f k : Nat) (t : TokP), t ∈ allGo s f k → 2 ≤ t.kind → 1 ≤ t.text.size
 | 0, _, t, h, _ => by cases h
 | f + 1, k, t, h, h2 => by
  rw [allGo] at h
  split at h
  ·rename_i hlt
   have h0 : 0 < (s.extract k s.size).size := by simp; omega
   have h1 : 1 ≤ (tkAt s k).text.size := (firstP_text h0).1
   split at h
   ·exact allGo_text s f _ t h h2
   ·split at h
    ·rw [List.mem_singleton.1 h]; exact h1
    ·rcases List.mem_cons.1 h with rfl | h
     ·exact h1
     ·exact allGo_text s f _ t h h2
  ·rw [List.mem_singleton.1 h] at h2
   have : (endTok s).kind = 1 := rfl
   omega
theorem page_ne {s : ByteArray} {r : RS × List (Option StpM)} (h : polA (allP s) = some r) (hn : ¬ Told r.1) : r.1.page ≠ [] := fun e => by
 have hsyn : r.1.syn = none := by
  cases e : r.1.syn with
  | none => rfl
  | some x => exact absurd (Or.inl (by rw [e]; rfl)) hn
 obtain ⟨hk, hne⟩ := policy_end h hsyn
 have hp := policy_page (fun I C => stmA_keeps _ I C) h
 have htk := (taken_cl (allP s)).policyW 700 700 (stmA_keeps _ _ (taken_cl _)) _ _ (fun t ht => by simp [rs0] at ht) h
 have hkt : (tokR (allP s) r.1).kind = 1 := by
  unfold kindR at hk
  rw [hsyn] at hk
  simpa using hk
 obtain ⟨t, ht⟩ : ∃ t, (allP s)[r.1.next]? = some t := by
  cases e : (allP s)[r.1.next]? with
  | none =>
   unfold tokR at hkt
   rw [e] at hkt
   cases hkt
  | some t => exact ⟨t, rfl⟩
 have hk1 : t.kind = 1 := by
  unfold tokR at hkt
  rw [ht] at hkt; exact hkt
 have hnlt : r.1.next < (allP s).length := (List.getElem?_eq_some_iff.1 ht).1
 obtain ⟨l, hpe, hpm, _⟩ := hp.ex
 have hl0 : l = [] := by
  cases l with
  | nil => rfl
  | cons x l =>
   have hx2 : x.2 ∈ (allP s).take r.1.next := by rw [← hpm]; exact List.mem_cons_self
   have hsz := allGo_text s _ _ _ (List.mem_of_mem_take hx2) (htk _ hx2)
   rw [hpe] at e
   have e' : x.1 ++ x.2.text.data.toList ++ rend l = [] := e
   simp only [List.append_eq_nil_iff] at e'
   have h3 := congrArg List.length e'.1.2
   have h4 : x.2.text.data.toList.length = x.2.text.size := Array.length_toList
   rw [h4] at h3
   have h5 : x.2.text.size = 0 := h3
   omega
 have hnx : r.1.next = 0 := by
  rw [hl0] at hpm
  have h1 := congrArg List.length hpm
  rw [List.length_take] at h1
  simp only [List.map_nil, List.length_nil] at h1
  omega
 rw [hnx] at ht
 have hk0 : kindR (allP s) rs0 = 1 := by
  show (tokR (allP s) rs0).kind = 1
  unfold tokR
  rw [show rs0.next = 0 from rfl, ht]; exact hk1
 refine hne ?_
 unfold polA policyW at h
 have hd : defsW (allP s) 700 700 8 rs0 = some rs0 := by
  rw [defsW]
  unfold defW defR
  rw [hk0, if_neg (by decide), if_neg (by decide), if_neg (by decide)]
 rw [hd] at h
 dsimp only at h
 unfold policyTw at h
 have hst : stmA (allP s) rs0 = some (rs0, none) := by
  unfold stmA
  rw [show (700 : Nat) = 699 + 1 from rfl, stmtTw, hk0, if_neg (by decide), if_neg (by decide), if_neg (by decide), if_neg (by decide), if_neg (by decide), if_neg (by decide), if_neg (by decide), if_neg (by decide), if_neg (by decide)]
 have hmo : moreLp (stmA (allP s)) 700 rs0 [] = some (rs0, []) := by
  rw [show (700 : Nat) = 699 + 1 from rfl, moreLp, hst]
 rw [hmo] at h
 cases h; rfl
structure Both (s : ByteArray) (ms : List StpM) (x : ByteArray) (c : rf.PS × List rf.Df × List rf.Tr) (r : RS × List (Option StpM)) : Prop where
 sim : CompQR s c r
 steps : r.2 = ms.map some
 text : x = printed r.1
theorem compile_both (s : ByteArray) : (∃ er at_ : Int, er ≠ 0 ∧ (∀ w, TokTabs w → Calls Tryz.prog 24 #[.string s] w fun e w' => e = .returned (.tuple #[.pointer none, .int .i64 er, .int .i64 at_]) ∧ Below w.heap.size w w') ∧
   (∀ w, Calls Tryz.prog 25 #[.string s] w fun e w' => e = .returned (.tuple #[.pointer none, .int .i64 er, .int .i64 at_]) ∧ Below w.heap.size w w')) ∨
  ∃ ms x c r, Both s ms x c r ∧ (∀ w, TokTabs w → Calls Tryz.prog 24 #[.string s] w fun e w' => ∃ pp, e = .returned (.tuple #[ptr4 pp 0, .int .i64 0, .int .i64 0]) ∧ Below w.heap.size w w' ∧ Lasts w' (fun k => w.heap.size ≤ k) (PolX pp ms x)) ∧
   (∀ w, Calls Tryz.prog 25 #[.string s] w fun e w' => ∃ pp, e = .returned (.tuple #[ptr4 pp 0, .int .i64 0, .int .i64 0]) ∧ Below w.heap.size w w' ∧ Lasts w' (fun k => w.heap.size ≤ k) (rf.PolR pp c.2.1 c.2.2 c.1.taken c.1.lines)) := by
 by_cases hl : 600 < s.size
 ·refine Or.inl ⟨1, 0, by decide, fun w ht => compile_err (by decide) (read_long s hl) w ht, fun w => ?_⟩
  refine (rf.compile_long hl w).mono ?_
  rintro e w' ⟨rfl, rfl⟩
  exact ⟨rfl, Below.refl _ _⟩
 ·have hs : s.size ≤ 600 := by omega
  obtain ⟨r, hr⟩ := polA_tot (ts := allP s) (by have := (allP_ok hs).1.n1; omega)
  obtain ⟨c, hc⟩ := comp_tot hs
  rcases comp_sim hs hc hr with ⟨a, a0, a1, a2⟩ | hq
  ·refine Or.inl ⟨2, a, by decide, fun w ht => compile_err (by decide) (read_syn hs hr a2) w ht, fun w => ?_⟩
   refine (rf.compile_any hs (by decide) hc (fun h => by omega) w).mono ?_
   rintro e w' ⟨hb, he⟩
   rw [if_pos (by omega), a1] at he
   exact ⟨he, hb⟩
  ·have hbad := hq.al.bad
   have hsyn := hq.al.syn
   have hnam := hq.nam
   have hnum := hq.num
   by_cases hn : 0 ≤ rf.namesP c.2.1 (.mk rf.wBlock nB 0 0 c.2.2)
   ·have e1 : r.1.nam = some (rf.namesP c.2.1 (.mk rf.wBlock nB 0 0 c.2.2)) := by rw [hnam]; simp [orT, hn]
    refine Or.inl ⟨3, _, by decide, fun w ht => compile_err (by decide) (read_nam hs hr hsyn e1) w ht, fun w => ?_⟩
    refine (rf.compile_any hs (by decide) hc (fun _ => hq.wf) w).mono ?_
    rintro e w' ⟨hb, he⟩
    rw [if_neg (by omega), if_pos hn] at he
    exact ⟨he, hb⟩
   ·have e1 : r.1.nam = none := by rw [hnam]; simp [orT]; omega
    by_cases hm : 0 ≤ rf.numbersP c.2.1 (.mk rf.wBlock nB 0 0 c.2.2)
    ·have e2 : r.1.num = some (rf.numbersP c.2.1 (.mk rf.wBlock nB 0 0 c.2.2)) := by rw [hnum]; simp [orT, hm]
     refine Or.inl ⟨4, _, by decide, fun w ht => compile_err (by decide) (read_num hs hr hsyn e1 e2) w ht, fun w => ?_⟩
     refine (rf.compile_any hs (by decide) hc (fun _ => hq.wf) w).mono ?_
     rintro e w' ⟨hb, he⟩
     rw [if_neg (by omega), if_neg hn, if_pos hm] at he
     exact ⟨he, hb⟩
    ·have e2 : r.1.num = none := by rw [hnum]; simp [orT]; omega
     have hnt : ¬ Told r.1 := by
      unfold Told
      rw [hsyn, e1, e2]; simp
     obtain ⟨ms, hms⟩ := polA_some hr hnt
     have hp := page_ne hr hnt
     refine Or.inr ⟨ms, printed r.1, c, r, ⟨hq, hms, rfl⟩, fun w ht => compile_x (readX_of hs hr hnt hms hp) w ht, fun w => ?_⟩
     refine (rf.compile_any hs (by decide) hc (fun _ => hq.wf) w).mono ?_
     rintro e w' ⟨hb, he⟩
     rw [if_neg (by omega), if_neg hn, if_neg hm] at he
     obtain ⟨pp, h1, h2⟩ := he
     exact ⟨pp, h1, hb, h2⟩
structure OpL (cs : List Value) (k : Int) (S : ByteArray) : Prop where
 len : cs.length = 18
 kind : cs[0]? = some (.int .i64 k)
 str : cs[3]? = some (.string S)
abbrev worldK (v : Value) : Array Value := #[v, .slice none 0 0, .slice none 0 0, .slice none 0 0, .slice none 0 0, .slice none 0 0, .slice none 0 0]
def WOw (wb : Nat) (v : Value) (k : Nat) : Prop := k = wb ∨ v.ownBlock = some k
structure WAt (W : World) (wb n : Nat) (v : Value) (xs : List Value) : Prop where
 blk : W.heap[wb]? = some (.cells (worldK v) 47 (0, 0))
 own : W.ownsRow 0 53 2 v n xs
 off : v.ownBlock ≠ some wb
theorem WAt.below {W W' : World} {wb n : Nat} {v : Value} {xs : List Value} (h : WAt W wb n v xs) (hb : Below W.heap.size W W') : WAt W' wb n v xs :=
 ⟨(hb.block wb (heap_lt h.blk)).trans h.blk, owns_of h.own (fun k hk => hb.block k (h.own.lt k hk).2), h.off⟩
theorem WAt.blkN {w wn : World} {wb n : Nat} {v : Value} {xs : List Value} {o : Obj} (h : WAt w wb n v xs) (hgrow : (w.alloc o).grownBy wn v.ownBlock) : wn.heap[wb]? = some (.cells (worldK v) 47 (0, 0)) :=
 (hgrow.block wb (by have := heap_lt h.blk; simp; omega) (fun e => h.off e.symm)).trans ((Below.heap_alloc _ _ _ (heap_lt h.blk)).trans h.blk)
theorem WAt.push {W w wn : World} {wb n gg cap : Nat} {v : Value} {xs ys : List Value} {o : Obj} (h0 : Fr (WOw wb v) W (WOw wb v) w) (h : WAt w wb n v xs) (hgrow : (w.alloc o).grownBy wn v.ownBlock)
  (hown : wn.ownsRow 0 53 2 (.slice (some ⟨gg, 0, none⟩) (n + 1) cap) (n + 1) (xs ++ ys)) (hat : v.ownBlock = some gg ∨ gg = w.heap.size + 1) :
  WAt (wn.setCell ⟨wb, 0, none⟩ (.slice (some ⟨gg, 0, none⟩) (n + 1) cap)) wb (n + 1) (.slice (some ⟨gg, 0, none⟩) (n + 1) cap) (xs ++ ys) ∧ Fr (WOw wb v) W (WOw wb (.slice (some ⟨gg, 0, none⟩) (n + 1) cap)) (wn.setCell ⟨wb, 0, none⟩ (.slice (some ⟨gg, 0, none⟩) (n + 1) cap)) := by
 have hw := heap_lt h.blk
 have hne : gg ≠ wb := by
  rcases hat with e | e
  ·rintro rfl; exact h.off e
  ·omega
 refine ⟨⟨heap_set (h.blkN hgrow), owns_of hown (fun k hk => heap_set_other ?_), ?_⟩, ?_⟩
 ·have e : gg = k := by simpa [Value.ownBlock] using hk
  subst e; exact hne
 ·intro e
  exact hne (by simpa [Value.ownBlock] using e)
 ·have f1 := ((h0.alloc o).grown hgrow (fun k hk => Or.inl (Or.inr hk))).setCell (p := ⟨wb, 0, none⟩) (Or.inl (Or.inl rfl)) (.slice (some ⟨gg, 0, none⟩) (n + 1) cap)
  refine f1.reown (fun k hk => ?_)
  rcases hk with rfl | hk
  ·exact Or.inl (Or.inl rfl)
  ·have e : gg = k := by simpa [Value.ownBlock] using hk
   subst e
   rcases hat with e | e
   ·exact Or.inl (Or.inr e)
   ·exact Or.inr (by have := h0.size; omega)
theorem Tryz.infoPol : (Tryz.prog.info? 53).map (fun i => (i.zero, i.size, i.bytes)) = some (some (.agg #[.pointer none, .pointer none]), 2, 16) := by kernel_rfl
theorem wcompile {W : World} {wb n : Nat} {v : Value} {xs cs : List Value} {S : ByteArray} (hw : WAt W wb n v xs) (hn : n ≤ 1000000000000) (ho : OpL cs 1 S) (ht : TokTabs W) :
  Calls Tryz.prog 10 #[ptr4 wb 0, .agg cs.toArray] W fun e W' => e = .returned (.bool true) ∧ ∃ n' v' xs', n' ≤ n + 1 ∧ WAt W' wb n' v' xs' ∧ Fr (WOw wb v) W (WOw wb v') W' := by
 obtain ⟨i0, hi0, hz0, hz1, hz2⟩ := info_parts Tryz.infoPol
 have lwb : wb < W.heap.size := heap_lt hw.blk
 have hq : (W.alloc (.cells cs.toArray 33)).heap[W.heap.size]? = some (.cells cs.toArray 33 (0, 0)) := heap_alloc_new _ _
 have q3 : (W.alloc (.cells cs.toArray 33)).cell? ⟨W.heap.size, 3, none⟩ = some (.string S) := by rw [cell_of_heap hq]; simpa using ho.str
 have HB0 := hide ((Below.refl W.heap.size W).alloc (Nat.le_refl _) (.cells cs.toArray 33))
 have HW := hide hw
 have HT := hide ht
 have HQ := hide hq
 have Q3 := hide q3
 clear hw ht hq q3
 obtain ⟨WA, hWA⟩ : ∃ WA, W.alloc (.cells cs.toArray 33) = WA := ⟨_, rfl⟩
 have HWA := hide hWA
 rw [hWA] at HB0 HQ Q3
 have q3 := unhide Q3
 clear hWA
 go_enter Tryz.func10, Tryz.ntmps10
 go_upto_region 1 with fail
 rw [unhide HWA]
 have lWA : W.heap.size < WA.heap.size := heap_lt (unhide HQ)
 rcases compile_both S with ⟨er, at_, hne, hp, hr⟩ | ⟨ms, x, c, r, _, hp, hr⟩
 ·have HP := hide (hp WA ((unhide HT).below (unhide HB0)))
  have HR := hide hr
  have hb1 : (er == 0) = false := by simpa using hne
  clear hp hr hne
  go_wp2_with fail
  refine (unhide HP).mono ?_
  rintro e w1 ⟨rfl, hb⟩
  have HB1 := hide hb
  have q31 := (hb.cell (p := ⟨W.heap.size, 3, none⟩) lWA).trans (unhide Q3)
  have lw1 : W.heap.size < w1.heap.size := by have := hb.size; omega
  clear hb HP
  go_wp2_with fail
  refine (unhide HR w1).mono ?_
  rintro e w2 ⟨rfl, hb⟩
  have HB2 := hide (((unhide HB0).trans ((unhide HB1).mono (unhide HB0).size)).trans (hb.mono (by have := (unhide HB0).size; have := (unhide HB1).size; omega)))
  clear hb HR
  go_wp2_with fail
  go_ret
  exact ⟨rfl, n, v, xs, by omega, (unhide HW).below (unhide HB2), Fr.of_below (unhide HB2)⟩
 ·have HP := hide (hp WA ((unhide HT).below (unhide HB0)))
  have HR := hide hr
  clear hp hr
  go_wp2_with fail
  refine (unhide HP).mono ?_
  rintro e w1 ⟨pp, rfl, hb, _⟩
  have HB1 := hide hb
  have q31 := (hb.cell (p := ⟨W.heap.size, 3, none⟩) lWA).trans (unhide Q3)
  have lw1 : W.heap.size < w1.heap.size := by have := hb.size; omega
  clear hb HP
  go_wp2_with fail
  refine (unhide HR w1).mono ?_
  rintro e w2 ⟨qq, rfl, hb, _⟩
  have HB2 := hide (((unhide HB0).trans ((unhide HB1).mono (unhide HB0).size)).trans (hb.mono (by have := (unhide HB0).size; have := (unhide HB1).size; omega)))
  have hw2 := (unhide HW).below (unhide HB2)
  have HW2 := hide hw2
  have cv : w2.cell? ⟨wb, 0, none⟩ = some v := cell_of_heap hw2.blk
  have zv : w2.frozen? ⟨wb, 0, none⟩ = false := frozen_of_heap hw2.blk
  have lw2 : wb < w2.heap.size := heap_lt hw2.blk
  obtain ⟨vo, vc, hvv⟩ := rf.owns_sl hw2.own
  subst hvv
  clear hb HR hw2 q31
  have OW := hide (unhide HW2).own
  have hlt : ∀ k, (Value.slice vo n vc).ownBlock = some k → k < w2.heap.size := fun k hk => ((unhide HW2).own.lt k hk).2
  have HLT := hide hlt
  have ZV := hide zv
  clear hlt zv
  go_wp2_with (at_builtin; refine wpList_append_lies _ rfl _ _ _ rfl 0 53 i0 _ 2 16 Tryz.underlying37 hi0 hz0 hz1 hz2 rfl (by omega) (.slice vo n vc) n xs rfl ((unhide OW).alloc _) ⟨w2.heap.size, 0, none⟩ 1 1 [ptr4 pp 0, ptr4 qq 0] rfl rfl (World.news_of_block (cs := #[ptr4 pp 0, ptr4 qq 0]) (t := 53) (fr := (0, 0)) (heap_alloc_new _ _)) (by simp [Value.oneCell']) (by omega) (by simp [maxLen]; omega) (by omega) (by simp) (w2.heap.size + 1) (by simp) ?_; intro gg cap wn hown hgrow hat hltg; have d0 : wn.cell? ⟨wb, 0, none⟩ = some (.slice vo n vc) := cell_of_heap ((unhide HW2).blkN hgrow); have df : wn.frozen? ⟨wb, 0, none⟩ = false := frozen_of_heap ((unhide HW2).blkN hgrow))
  go_ret
  have P := WAt.push (Fr.of_below (unhide HB2)) (unhide HW2) hgrow hown hat
  exact ⟨rfl, _, _, _, Nat.le_refl _, P.1, P.2⟩
end Go.Proofs.YtgdeeodifnegiaaGreatDoor
namespace Go.Proofs.YtgdeeodifnegiaaGreatDoor
open Go.RowKit
theorem wpList_load_opL {ops : Array Oper} {rest : List Oper} {op : Oper} {a : Act} {w : World} {Q : Exit → Act → World → Prop} (hgd : op.guard = none) (x : Operand) (ho : op.op = .load 33 x)
  (b o : Nat) (hx : a.eval x = .pointer (some ⟨b, o, none⟩)) (cs : List Value) (hl : cs.length = 18) (hc : w.rangeAt b o cs)
  (h : wpList Tryz.prog ops Q rest (a.put op.dst (.agg cs.toArray)) w) : wpList Tryz.prog ops Q (op :: rest) a w :=
 wpList_load_mid hgd _ x ho b o hx cs _ hc Tryz.underlying33 rfl (by rw [hl]; kernel_rfl) h
theorem rangeAt_blockL {w : World} {g t : Nat} {fr : Nat × Nat} {cs : List Value} (h : w.heap[g]? = some (.cells cs.toArray t fr)) : w.rangeAt g 0 cs := fun j v hv => by
 rw [Nat.zero_add, cell_of_heap h]; simpa using hv
theorem wlooks {W : World} {wb n : Nat} {v : Value} {xs : List Value} (hw : WAt W wb n v xs) :
  Calls Tryz.prog 9 #[.pointer (some ⟨wb, 2, none⟩)] W fun e W' => e = .returned (.bool true) ∧ W' = W := by
 have c2 : W.cell? ⟨wb, 2, none⟩ = some (.slice none 0 0) := cell_of_heap hw.blk
 have c3 : W.cell? ⟨wb, 3, none⟩ = some (.slice none 0 0) := cell_of_heap hw.blk
 have c4 : W.cell? ⟨wb, 4, none⟩ = some (.slice none 0 0) := cell_of_heap hw.blk
 have c5 : W.cell? ⟨wb, 5, none⟩ = some (.slice none 0 0) := cell_of_heap hw.blk
 have c6 : W.cell? ⟨wb, 6, none⟩ = some (.slice none 0 0) := cell_of_heap hw.blk
 clear hw
 go_enter Tryz.func9, Tryz.ntmps9
 go_wp2_with fail
 go_loopw [3, 4] (fun ok i wr => ok = .bool true ∧ i = .int .i64 0 ∧ wr = W) (fun _ _ _ => 0)
 case atStart => exact ⟨rfl, rfl, rfl⟩
 case round =>
  obtain ⟨rfl, rfl, hwr⟩ := hrel; rw [hwr]; clear hwr
  go_wp2_with fail
  go_loopw [3, 6] (fun ok i wr => ok = .bool true ∧ i = .int .i64 0 ∧ wr = W) (fun _ _ _ => 0)
  case atStart => exact ⟨rfl, rfl, rfl⟩
  case round =>
   obtain ⟨rfl, rfl, hwr⟩ := hrel; rw [hwr]; clear hwr
   go_wp2_with fail
   go_loopw [3, 8] (fun ok i wr => ok = .bool true ∧ i = .int .i64 0 ∧ wr = W) (fun _ _ _ => 0)
   case atStart => exact ⟨rfl, rfl, rfl⟩
   case round =>
    obtain ⟨rfl, rfl, hwr⟩ := hrel; rw [hwr]; clear hwr
    go_wp2_with fail
    go_loopw [3, 10] (fun ok i wr => ok = .bool true ∧ i = .int .i64 0 ∧ wr = W) (fun _ _ _ => 0)
    case atStart => exact ⟨rfl, rfl, rfl⟩
    case round =>
     obtain ⟨rfl, rfl, hwr⟩ := hrel; rw [hwr]; clear hwr
     go_wp2_with fail
     go_loopw [3, 12] (fun ok i wr => ok = .bool true ∧ i = .int .i64 0 ∧ wr = W) (fun _ _ _ => 0)
     case atStart => exact ⟨rfl, rfl, rfl⟩
     case round =>
      obtain ⟨rfl, rfl, hwr⟩ := hrel; rw [hwr]; clear hwr
      go_wp2_with fail
      go_ret
      exact ⟨rfl, rfl⟩
theorem wstep {W : World} {wb n : Nat} {v : Value} {xs cs : List Value} {S : ByteArray} (hw : WAt W wb n v xs) (hn : n ≤ 1000000000000) (ho : OpL cs 1 S) (ht : TokTabs W) :
  Calls Tryz.prog 8 #[ptr4 wb 0, .agg cs.toArray] W fun e W' => e = .returned (.bool true) ∧ ∃ n' v' xs', n' ≤ n + 1 ∧ WAt W' wb n' v' xs' ∧ Fr (WOw wb v) W (WOw wb v') W' := by
 have lwb : wb < W.heap.size := heap_lt hw.blk
 have hq : (W.alloc (.cells cs.toArray 33)).heap[W.heap.size]? = some (.cells cs.toArray 33 (0, 0)) := heap_alloc_new _ _
 have q0 : (W.alloc (.cells cs.toArray 33)).cell? ⟨W.heap.size, 0, none⟩ = some (.int .i64 1) := by rw [cell_of_heap hq]; simpa using ho.kind
 have HB0 := hide ((Below.refl W.heap.size W).alloc (Nat.le_refl _) (.cells cs.toArray 33))
 have HW := hide hw
 have HT := hide ht
 have HO := hide ho
 have HR := hide (rangeAt_blockL hq)
 clear hw ht hq ho
 obtain ⟨WA, hWA⟩ : ∃ WA, W.alloc (.cells cs.toArray 33) = WA := ⟨_, rfl⟩
 have HWA := hide hWA
 rw [hWA] at HB0 HR q0
 clear hWA
 go_enter Tryz.func8, Tryz.ntmps8
 go_upto_region 1 with fail
 rw [unhide HWA]
 go_wp2_with (refine wpList_load_opL rfl _ rfl W.heap.size 0 rfl cs (unhide HO).len (unhide HR) ?_)
 refine (wcompile ((unhide HW).below (unhide HB0)) hn (unhide HO) ((unhide HT).below (unhide HB0))).mono ?_
 rintro e w1 ⟨rfl, n', v', xs', h1, h2, h3⟩
 have H2 := hide h2
 have H3 := hide h3
 clear h2 h3
 go_wp2_with fail
 go_ret
 exact ⟨rfl, n', v', xs', h1, unhide H2, (Fr.of_below (unhide HB0)).trans (unhide H3)⟩
def ScriptC (w : World) (v : Value) (S : List (List Value)) : Prop :=
 ∃ p c, v = .slice p S.length c ∧ S.length ≤ c ∧ S.length ≤ 999999999990 ∧ (∀ cs ∈ S, ∃ k s, OpL cs k s) ∧ (S = [] ∨ ∃ b f, p = some ⟨b, f, none⟩ ∧ b < w.heap.size ∧ ∀ j, (h : j < S.length) → ∀ i, i < 18 → w.cell? ⟨b, f + j * 18 + i, none⟩ = S[j][i]?)
theorem ScriptC.below {w w' : World} {v : Value} {S : List (List Value)} (h : ScriptC w v S) (hb : Below w.heap.size w w') : ScriptC w' v S := by
 obtain ⟨p, c, rfl, h1, h2, h3, h4⟩ := h
 refine ⟨p, c, rfl, h1, h2, h3, h4.imp id ?_⟩
 rintro ⟨b, f, rfl, hl, hc⟩
 exact ⟨b, f, rfl, Nat.lt_of_lt_of_le hl hb.size, fun j hj i hi => (hb.cell (p := ⟨b, f + j * 18 + i, none⟩) hl).trans (hc j hj i hi)⟩
structure PlC (W wr : World) (n : Nat) (v : Value) (xs : List Value) : Prop where
 at_ : WAt wr W.heap.size n v xs
 fr : Fr rf.nF W (WOw W.heap.size v) wr
theorem PlC.below {W wr : World} {n : Nat} {v : Value} {xs : List Value} (h : PlC W wr n v xs) : Below W.heap.size W wr := rf.Fr.nF_below h.fr
theorem PlC.stay {W wr wr' : World} {n : Nat} {v : Value} {xs : List Value} (h : PlC W wr n v xs) (hb : Below wr.heap.size wr wr') : PlC W wr' n v xs := ⟨h.at_.below hb, h.fr.below hb⟩
theorem plc0 (W : World) : PlC W (W.alloc (.cells (worldK (.slice none 0 0)) 47)) 0 (.slice none 0 0) [] :=
 ⟨⟨heap_alloc_new _ _, World.ownsRow_nil _ _ _ _, by simp [Value.ownBlock]⟩, ((Fr.refl rf.nF W).alloc _).reown (fun k hk => by
  rcases hk with h | h
  ·exact Or.inr (by omega)
  ·simp [Value.ownBlock] at h)⟩
theorem wplays (S : List (List Value)) (cs0 : List Value) (s0 : ByteArray) (vs : Value) (ga kb : Nat) (W : World) (ht : TokTabs W) (hga : W.heap[ga]? = some (.cells cs0.toArray 33 (0, 0))) (ho : OpL cs0 1 s0) (hS : ScriptC W vs S)
  (hkb : W.heap[kb]? = some (.cells #[.int .i64 1] 3 (0, 0))) :
  Calls Tryz.prog 6 #[.slice (some ⟨ga, 0, none⟩) 1 1, vs, .slice (some ⟨kb, 0, none⟩) 1 1] W fun e W' => e = .returned (.bool true) ∧ Below W.heap.size W W' := by
 have HT := hide ht
 have HO := hide ho
 have HGA := hide hga
 have HKB := hide hkb
 have lga : ga < W.heap.size := heap_lt hga
 have lkb : kb < W.heap.size := heap_lt hkb
 obtain ⟨ps, cp, rfl, hcap, hS1, hSO, hSc⟩ := hS
 have HSO := hide hSO
 have HSC := hide hSc
 obtain ⟨N, hN⟩ : ∃ N, S.length = N := ⟨_, rfl⟩
 have HN := hide hN
 rw [hN] at hcap hS1 ⊢
 clear ht hga hkb hSO hSc hN ho
 have B0 := hide (plc0 W)
 go_enter Tryz.func6, Tryz.ntmps6
 go_wp2_with fail
 go_loopw [8] (fun i wr => ∃ (k n : Nat) (v : Value) (xs : List Value), k ≤ 1 ∧ i = .int .i64 k ∧ PlC W wr n v xs ∧ n ≤ k) (fun i _ => 1 - (intOf i).toNat)
 case atStart => exact ⟨0, 0, _, _, by omega, rfl, unhide B0, by omega⟩
 case round =>
  rename World => WR
  obtain ⟨k, n, v, xs, hk, rfl, hpl, hcn⟩ := hrel
  have BK := hide hpl
  have hbe := hpl.below
  have sWR := hbe.size
  by_cases hlt : k < 1
  ·have hk0 : k = 0 := by omega
   subst hk0
   have q := hide (rangeAt_blockL ((hbe.block ga lga).trans (unhide HGA)))
   have BE := hide hbe
   clear hpl hbe
   go_wp2_with (refine wpList_load_opL rfl _ rfl ga 0 rfl cs0 (unhide HO).len (unhide q) ?_)
   refine (wstep (unhide BK).at_ (by omega) (unhide HO) ((unhide HT).below (unhide BE))).mono ?_
   rintro e w1 ⟨rfl, n', v', xs', h1, h2, h3⟩
   have BK' := hide (show PlC W w1 n' v' xs' from ⟨h2, (unhide BK).fr.trans h3⟩)
   clear h2 h3
   go_wp2_with fail
   exact ⟨⟨1, n', v', xs', by omega, by simp, unhide BK', by omega⟩, by simp [intOf]⟩
  ·have hk1 : k = 1 := by omega
   subst hk1
   clear hpl hbe hlt hk sWR HO HGA
   rw [show ((1 : Nat) : Int) = 1 from rfl]
   go_wp2_with fail
   go_loopw [10] (fun i wr => ∃ (k n : Nat) (v : Value) (xs : List Value), k ≤ N ∧ i = .int .i64 k ∧ PlC W wr n v xs ∧ n ≤ k + 1) (fun i _ => N - (intOf i).toNat)
   case atStart => exact ⟨0, n, v, xs, by omega, rfl, unhide BK, by omega⟩
   case round =>
    clear hcn BK
    rename World => WS
    obtain ⟨k, n, v, xs, hk, rfl, hpl, hcn⟩ := hrel
    have BK := hide hpl
    have hbe := hpl.below
    have BE := hide hbe
    have sWS := hbe.size
    have qk := hide ((hbe.block kb lkb).trans (unhide HKB))
    clear hpl
    by_cases hlt : k < N
    ·have hltS : k < S.length := by rw [unhide HN]; exact hlt
     rcases unhide HSC with h | ⟨sb, sf, rfl, lsb, hc⟩
     ·rw [h] at hltS; simp at hltS
     obtain ⟨kd, st, hO⟩ := unhide HSO S[k] (List.getElem_mem _)
     have hck := hc k hltS
     obtain ⟨o, ho⟩ : ∃ o, S[k] = o := ⟨_, rfl⟩
     rw [ho] at hO hck
     have HO := hide hO
     have HCK := hide (show W.rangeAt sb (sf + k * 18) o from fun j v hv => by
      have hj : j < 18 := by rcases Nat.lt_or_ge j 18 with h | h; exact h; rw [List.getElem?_eq_none (by rw [hO.len]; exact h)] at hv; cases hv
      rw [hck j hj]; exact hv)
     have c0 : WS.cell? ⟨sb, sf + k * 18, none⟩ = some (.int .i64 kd) := by rw [hbe.cell (p := ⟨sb, sf + k * 18, none⟩) lsb]; exact (hck 0 (by omega)).trans hO.kind
     have C0 := hide c0
     have lsb' : sb < WS.heap.size := by omega
     have lkb' : kb < WS.heap.size := by omega
     clear hck hbe c0 hc ho hO
     go_wp2_with fail
     go_loopw [12, 11] (fun i x wr => ∃ j : Nat, j ≤ 1 ∧ i = .int .i64 j ∧ x = .bool (if j = 0 then false else kd == 1) ∧ Below WS.heap.size WS wr) (fun i _ _ => 1 - (intOf i).toNat)
     case atStart => exact ⟨0, by omega, rfl, rfl, Below.refl _ _⟩
     case round =>
      rename World => WT
      obtain ⟨j, hj, rfl, rfl, hbj⟩ := hrel
      have BJ := hide hbj
      have e0 := (hbj.cell (p := ⟨sb, sf + k * 18, none⟩) lsb').trans (unhide C0)
      have qj := (hbj.block kb lkb').trans (unhide qk)
      have k0 : WT.cell? ⟨kb, 0, none⟩ = some (.int .i64 1) := cell_of_heap qj
      clear hbj qj
      rcases (show j = 0 ∨ j = 1 by omega) with rfl | rfl
      ·rw [if_pos rfl]
       cases he : (kd == 1) with
       | true =>
        go_wp2_with fail
        go_quiet ((fail))
        go_wp2_with fail
        exact ⟨⟨1, by omega, by simp, by simp, below_drewN (unhide BJ) _⟩, by simp [intOf]⟩
       | false =>
        go_wp2_with fail
        go_quiet ((fail))
        go_wp2_with fail
        exact ⟨⟨1, by omega, by simp, by simp, below_drewN (unhide BJ) _⟩, by simp [intOf]⟩
      ·rw [if_neg (by decide : ¬ (1 : Nat) = 0)]
       clear e0 k0
       have BT := hide ((unhide BE).trans ((unhide BJ).mono sWS))
       have BKT := hide ((unhide BK).stay (unhide BJ))
       cases hin : (kd == 1) with
       | false =>
        go_wp2_with fail
        exact ⟨⟨k + 1, n, v, xs, by omega, by simp, unhide BKT, by omega⟩, by simp [intOf]; omega⟩
       | true =>
        have hkd : kd = 1 := by simpa using hin
        subst hkd
        have RT := hide (show WT.rangeAt sb (sf + k * 18) o from fun j v hv => by rw [(unhide BT).cell (p := ⟨sb, sf + k * 18 + j, none⟩) lsb]; exact unhide HCK j v hv)
        go_wp2_with (refine wpList_load_opL rfl _ rfl sb (sf + k * 18) rfl o (unhide HO).len (unhide RT) ?_)
        refine (wstep (unhide BKT).at_ (by omega) (unhide HO) ((unhide HT).below (unhide BT))).mono ?_
        rintro e w1 ⟨rfl, n', v', xs', h1, h2, h3⟩
        have BK' := hide (show PlC W w1 n' v' xs' from ⟨h2, (unhide BKT).fr.trans h3⟩)
        clear h2 h3
        go_wp2_with fail
        refine (wlooks (unhide BK').at_).mono ?_
        rintro e w2 ⟨rfl, rfl⟩
        go_wp2_with fail
        go_roundw
        case rel => exact ⟨k + 1, n', v', xs', by omega, by simp, unhide BK', by omega⟩
        case measure => simp [intOf]; omega
    ·go_wp2
     go_ret
     exact ⟨rfl, unhide BE⟩
end Go.Proofs.YtgdeeodifnegiaaGreatDoor
namespace Go.Proofs.YtgdeeodifnegiaaGreatDoor
open Go.RowKit
def takenS : ByteArray := ⟨#[105, 102, 32, 112, 114, 101, 102, 32, 60, 32, 49, 48, 48, 32, 116, 104, 101, 110, 32, 123, 32, 114, 101, 106, 101, 99, 116, 59, 32, 125, 32, 112, 114, 101, 112, 101, 110, 100, 32, 55, 59, 32, 97, 99, 99, 101, 112, 116, 59]⟩
def takenL : List Value := [.int .i64 1, .int .i64 0, .int .i64 0, .string takenS, .int .i64 0, .int .i64 0, .slice none 0 0, .slice none 0 0, .int .i64 0, .int .i64 0, .slice none 0 0, .slice none 0 0, .slice none 0 0, .slice none 0 0, .int .i64 0, .int .i64 0, .slice none 0 0, .slice none 0 0]
theorem takenL_ok : OpL takenL 1 takenS := ⟨rfl, rfl, rfl⟩
theorem taken_op (W : World) : Calls Tryz.prog 7 #[] W fun e W' => e = .returned (.agg takenL.toArray) ∧ Below W.heap.size W W' := by
 go_enter Tryz.func7, Tryz.ntmps7
 go_wp2_with fail
 refine bodyPost_ret (results_cell_row Tryz.results7 _ _ W.heap.size _ _ _ _ rfl (heap_alloc_new W (.cells takenL.toArray 33)) Tryz.underlying33 rfl (by kernel_rfl)) rfl ?_
 exact ⟨rfl, (Below.refl W.heap.size W).alloc (Nat.le_refl _) _⟩
theorem below_twoL (W : World) (a b : Obj) : Below W.heap.size W ((W.alloc a).alloc b) :=
 ((Below.refl W.heap.size W).alloc (Nat.le_refl _) a).alloc (by simp) b
theorem heap_twoL (W : World) (a b : Obj) : ((W.alloc a).alloc b).heap[W.heap.size]? = some a ∧ ((W.alloc a).alloc b).heap[W.heap.size + 1]? = some b := by
 have sz : (W.alloc a).heap.size = W.heap.size + 1 := by simp
 refine ⟨?_, ?_⟩
 ·show ((W.alloc a).heap.push b)[W.heap.size]? = some a
  rw [Array.getElem?_push, if_neg (by omega)]
  exact heap_alloc_new W a
 ·rw [← sz]
  exact heap_alloc_new (W.alloc a) b
theorem compiles_any (S : List (List Value)) (vs : Value) (W : World) (ht : TokTabs W) (hS : ScriptC W vs S) :
  Calls Tryz.prog 3 #[vs] W fun e W' => e = .returned (.bool true) ∧ Below W.heap.size W W' := by
 have HT := hide ht
 have HS := hide hS
 obtain ⟨ps, cs, rfl, -⟩ := hS
 clear ht
 go_enter Tryz.func3, Tryz.ntmps3
 go_wp2_with fail
 refine (taken_op W).mono ?_
 rintro e w1 ⟨rfl, hb⟩
 have HB := hide hb
 clear hb
 go_wp2_with fail
 obtain ⟨q1, q2⟩ := heap_twoL w1 (.cells takenL.toArray 33) (.cells #[.int .i64 1] 3)
 have s1 := (unhide HB).size
 have B2 := hide (below_twoL w1 (.cells takenL.toArray 33) (.cells #[.int .i64 1] 3))
 have BW := hide ((unhide HB).trans ((unhide B2).mono s1))
 have s2 := (unhide BW).size
 refine (wplays S takenL takenS (.slice ps S.length cs) w1.heap.size (w1.heap.size + 1) _ ((unhide HT).below (unhide BW)) q1 takenL_ok ((unhide HS).below (unhide BW)) q2).mono ?_
 rintro e w2 ⟨rfl, hb2⟩
 have B3 := hide ((unhide BW).trans (hb2.mono s2))
 clear hb2 q1 q2
 go_wp2_with fail
 go_ret
 exact ⟨rfl, unhide B3⟩
end Go.Proofs.YtgdeeodifnegiaaGreatDoor
