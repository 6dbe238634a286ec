/- Compile: the program's answer is the document's, at every text. -/
import Derived.Test.YtgdeeodifnegiaaGreatDoorRefZh
import Derived.Test.YtgdeeodifnegiaaGreatDoorPrtK
import Derived.Test.YtgdeeodifnegiaaGreatDoorEqT
namespace Go.Proofs.YtgdeeodifnegiaaGreatDoor
open Go.RowKit

theorem read_syn {s : ByteArray} (hs : s.size ≤ 600) {r : RS × List (Option StpM)} (h : polA (allP s) = some r) {a : Int} (e : r.1.syn = some a) : ReadE s 2 a := fun w ht => by
  obtain ⟨h1, h2⟩ := allP_ok hs
  exact read_bad s hs w ht h1 h2 (st := r.1) (l := r.2) (pol_said hs h) (Or.inl ⟨e, rfl⟩)
theorem read_nam {s : ByteArray} (hs : s.size ≤ 600) {r : RS × List (Option StpM)} (h : polA (allP s) = some r) {a : Int} (e1 : r.1.syn = none) (e : r.1.nam = some a) : ReadE s 3 a := fun w ht => by
  obtain ⟨h1, h2⟩ := allP_ok hs
  exact read_bad s hs w ht h1 h2 (st := r.1) (l := r.2) (pol_said hs h) (Or.inr (Or.inl ⟨e1, e, rfl⟩))
theorem read_num {s : ByteArray} (hs : s.size ≤ 600) {r : RS × List (Option StpM)} (h : polA (allP s) = some r) {a : Int} (e1 : r.1.syn = none) (e2 : r.1.nam = none) (e : r.1.num = some a) : ReadE s 4 a := fun w ht => by
  obtain ⟨h1, h2⟩ := allP_ok hs
  exact read_bad s hs w ht h1 h2 (st := r.1) (l := r.2) (pol_said hs h) (Or.inr (Or.inr ⟨e1, e2, e, rfl⟩))
theorem allGo_text (s : ByteArray) : ∀ (f k : Nat) (t : TokP), t ∈ allGo s f k → 2 ≤ t.kind → 1 ≤ t.text.size
  | 0, _, t, h, _ => by cases h
  | f + 1, k, t, h, h2 => by
    rw [allGo] at h
    split at h
    · rename_i hlt
      have h0 : 0 < (s.extract k s.size).size := by simp; omega
      have h1 : 1 ≤ (tkAt s k).text.size := (firstP_text h0).1
      split at h
      · exact allGo_text s f _ t h h2
      · split at h
        · rw [List.mem_singleton.1 h]; exact h1
        · rcases List.mem_cons.1 h with rfl | h
          · exact h1
          · exact allGo_text s f _ t h h2
    · rw [List.mem_singleton.1 h] at h2
      have : (endTok s).kind = 1 := rfl
      omega
/-- a policy that is taken has a page -/
theorem page_ne {s : ByteArray} {r : RS × List (Option StpM)} (h : polA (allP s) = some r) (hn : ¬ Told r.1) : r.1.page ≠ [] := fun e => by
  have hsyn : r.1.syn = none := by
    cases e : r.1.syn with
    | none => rfl
    | some x => exact absurd (Or.inl (by rw [e]; rfl)) hn
  obtain ⟨hk, hne⟩ := policy_end h hsyn
  have hp := policy_page (fun I C => stmA_keeps _ I C) h
  have htk := (taken_cl (allP s)).policyW 700 700 (stmA_keeps _ _ (taken_cl _)) _ _ (fun t ht => by simp [rs0] at ht) h
  have hkt : (tokR (allP s) r.1).kind = 1 := by
    unfold kindR at hk
    rw [hsyn] at hk
    simpa using hk
  obtain ⟨t, ht⟩ : ∃ t, (allP s)[r.1.next]? = some t := by
    cases e : (allP s)[r.1.next]? with
    | none =>
      unfold tokR at hkt
      rw [e] at hkt
      cases hkt
    | some t => exact ⟨t, rfl⟩
  have hk1 : t.kind = 1 := by
    unfold tokR at hkt
    rw [ht] at hkt; exact hkt
  have hnlt : r.1.next < (allP s).length := (List.getElem?_eq_some_iff.1 ht).1
  obtain ⟨l, hpe, hpm, _⟩ := hp.ex
  have hl0 : l = [] := by
    cases l with
    | nil => rfl
    | cons x l =>
      have hx2 : x.2 ∈ (allP s).take r.1.next := by rw [← hpm]; exact List.mem_cons_self
      have hsz := allGo_text s _ _ _ (List.mem_of_mem_take hx2) (htk _ hx2)
      rw [hpe] at e
      have e' : x.1 ++ x.2.text.data.toList ++ rend l = [] := e
      simp only [List.append_eq_nil_iff] at e'
      have h3 := congrArg List.length e'.1.2
      have h4 : x.2.text.data.toList.length = x.2.text.size := Array.length_toList
      rw [h4] at h3
      have h5 : x.2.text.size = 0 := h3
      omega
  have hnx : r.1.next = 0 := by
    rw [hl0] at hpm
    have h1 := congrArg List.length hpm
    rw [List.length_take] at h1
    simp only [List.map_nil, List.length_nil] at h1
    omega
  rw [hnx] at ht
  have hk0 : kindR (allP s) rs0 = 1 := by
    show (tokR (allP s) rs0).kind = 1
    unfold tokR
    rw [show rs0.next = 0 from rfl, ht]; exact hk1
  refine hne ?_
  unfold polA policyW at h
  have hd : defsW (allP s) 700 700 8 rs0 = some rs0 := by
    rw [defsW]
    unfold defW defR
    rw [hk0, if_neg (by decide), if_neg (by decide), if_neg (by decide)]
  rw [hd] at h
  dsimp only at h
  unfold policyTw at h
  have hst : stmA (allP s) rs0 = some (rs0, none) := by
    unfold stmA
    rw [show (700 : Nat) = 699 + 1 from rfl, stmtTw, hk0, if_neg (by decide), if_neg (by decide), if_neg (by decide), if_neg (by decide), if_neg (by decide), if_neg (by decide), if_neg (by decide), if_neg (by decide), if_neg (by decide)]
  have hmo : moreLp (stmA (allP s)) 700 rs0 [] = some (rs0, []) := by
    rw [show (700 : Nat) = 699 + 1 from rfl, moreLp, hst]
  rw [hmo] at h
  cases h; rfl
/-- a policy of both: what the program's does and prints; the document's trees; they correspond -/
structure Both (s : ByteArray) (ms : List StpM) (x : ByteArray) (c : rf.PS × List rf.Df × List rf.Tr) (r : RS × List (Option StpM)) : Prop where
  sim : CompQR s c r
  steps : r.2 = ms.map some
  text : x = printed r.1
  pol : polA (allP s) = some r
  size : s.size ≤ 600
/-- both refuse it, alike; or both take it -/
theorem compile_both (s : ByteArray) : (∃ er at_ : Int, er ≠ 0 ∧ (∀ w, TokTabs w → Calls Tryz.prog 24 #[.string s] w fun e w' => e = .returned (.tuple #[.pointer none, .int .i64 er, .int .i64 at_]) ∧ Below w.heap.size w w') ∧
      (∀ w, Calls Tryz.prog 25 #[.string s] w fun e w' => e = .returned (.tuple #[.pointer none, .int .i64 er, .int .i64 at_]) ∧ Below w.heap.size w w')) ∨
    ∃ ms x c r, Both s ms x c r ∧ (∀ w, TokTabs w → Calls Tryz.prog 24 #[.string s] w fun e w' => ∃ pp, e = .returned (.tuple #[ptr4 pp 0, .int .i64 0, .int .i64 0]) ∧ Below w.heap.size w w' ∧ Lasts w' (fun k => w.heap.size ≤ k) (PolX pp ms x)) ∧
      (∀ w, Calls Tryz.prog 25 #[.string s] w fun e w' => ∃ pp, e = .returned (.tuple #[ptr4 pp 0, .int .i64 0, .int .i64 0]) ∧ Below w.heap.size w w' ∧ Lasts w' (fun k => w.heap.size ≤ k) (rf.PolR pp c.2.1 c.2.2 c.1.taken c.1.lines)) := by
  by_cases hl : 600 < s.size
  · refine Or.inl ⟨1, 0, by decide, fun w ht => compile_err (by decide) (read_long s hl) w ht, fun w => ?_⟩
    refine (rf.compile_long hl w).mono ?_
    rintro e w' ⟨rfl, rfl⟩
    exact ⟨rfl, Below.refl _ _⟩
  · have hs : s.size ≤ 600 := by omega
    obtain ⟨r, hr⟩ := polA_tot (ts := allP s) (by have := (allP_ok hs).1.n1; omega)
    obtain ⟨c, hc⟩ := comp_tot hs
    rcases comp_sim hs hc hr with ⟨a, a0, a1, a2⟩ | hq
    · refine Or.inl ⟨2, a, by decide, fun w ht => compile_err (by decide) (read_syn hs hr a2) w ht, fun w => ?_⟩
      refine (rf.compile_any hs (by decide) hc (fun h => by omega) w).mono ?_
      rintro e w' ⟨hb, he⟩
      rw [if_pos (by omega), a1] at he
      exact ⟨he, hb⟩
    · have hbad := hq.al.bad
      have hsyn := hq.al.syn
      have hnam := hq.nam
      have hnum := hq.num
      by_cases hn : 0 ≤ rf.namesP c.2.1 (.mk rf.wBlock nB 0 0 c.2.2)
      · have e1 : r.1.nam = some (rf.namesP c.2.1 (.mk rf.wBlock nB 0 0 c.2.2)) := by rw [hnam]; simp [orT, hn]
        refine Or.inl ⟨3, _, by decide, fun w ht => compile_err (by decide) (read_nam hs hr hsyn e1) w ht, fun w => ?_⟩
        refine (rf.compile_any hs (by decide) hc (fun _ => hq.wf) w).mono ?_
        rintro e w' ⟨hb, he⟩
        rw [if_neg (by omega), if_pos hn] at he
        exact ⟨he, hb⟩
      · have e1 : r.1.nam = none := by rw [hnam]; simp [orT]; omega
        by_cases hm : 0 ≤ rf.numbersP c.2.1 (.mk rf.wBlock nB 0 0 c.2.2)
        · have e2 : r.1.num = some (rf.numbersP c.2.1 (.mk rf.wBlock nB 0 0 c.2.2)) := by rw [hnum]; simp [orT, hm]
          refine Or.inl ⟨4, _, by decide, fun w ht => compile_err (by decide) (read_num hs hr hsyn e1 e2) w ht, fun w => ?_⟩
          refine (rf.compile_any hs (by decide) hc (fun _ => hq.wf) w).mono ?_
          rintro e w' ⟨hb, he⟩
          rw [if_neg (by omega), if_neg hn, if_pos hm] at he
          exact ⟨he, hb⟩
        · have e2 : r.1.num = none := by rw [hnum]; simp [orT]; omega
          have hnt : ¬ Told r.1 := by
            unfold Told
            rw [hsyn, e1, e2]; simp
          obtain ⟨ms, hms⟩ := polA_some hr hnt
          have hp := page_ne hr hnt
          refine Or.inr ⟨ms, printed r.1, c, r, ⟨hq, hms, rfl, hr, hs⟩, fun w ht => compile_x (readX_of hs hr hnt hms hp) w ht, fun w => ?_⟩
          refine (rf.compile_any hs (by decide) hc (fun _ => hq.wf) w).mono ?_
          rintro e w' ⟨hb, he⟩
          rw [if_neg (by omega), if_neg hn, if_neg hm] at he
          obtain ⟨pp, h1, h2⟩ := he
          exact ⟨pp, h1, hb, h2⟩
/-! ## World.compile -/
/-- a step of a script, in eighteen cells -/
structure OpL (cs : List Value) (k : Int) (S : ByteArray) : Prop where
  len : cs.length = 18
  kind : cs[0]? = some (.int .i64 k)
  str : cs[3]? = some (.string S)
abbrev worldK (v : Value) : Array Value := #[v, .slice none 0 0, .slice none 0 0, .slice none 0 0, .slice none 0 0, .slice none 0 0, .slice none 0 0]
def WOw (wb : Nat) (v : Value) (k : Nat) : Prop := k = wb ∨ v.ownBlock = some k
structure WAt (W : World) (wb n : Nat) (v : Value) (xs : List Value) : Prop where
  blk : W.heap[wb]? = some (.cells (worldK v) 47 (0, 0))
  own : W.ownsRow 0 53 2 v n xs
  off : v.ownBlock ≠ some wb
/-- two policies that correspond, as long as their blocks (none of O) lie -/
def PairAt (W : World) (O : Nat → Prop) (a b : Value) : Prop :=
  ∃ s ms x c r pp qq, a = ptr4 pp 0 ∧ b = ptr4 qq 0 ∧ Both s ms x c r ∧ Lasts W (fun k => ¬ O k) (PolX pp ms x) ∧ Lasts W (fun k => ¬ O k) (rf.PolR qq c.2.1 c.2.2 c.1.taken c.1.lines)
theorem PairAt.fr {W W' : World} {O O' : Nat → Prop} {a b : Value} (h : PairAt W O a b) (hf : Fr O W O' W') : PairAt W' O' a b := by
  obtain ⟨s, ms, x, c, r, pp, qq, h1, h2, h3, h4, h5⟩ := h
  have key : ∀ k, k < W.heap.size → ¬ O k → W'.heap[k]? = W.heap[k]? ∧ ¬ O' k := fun k h1 h2 => ⟨hf.block k h1 h2, fun h => by
    rcases hf.own k h with h | h
    · exact h2 h
    · omega⟩
  exact ⟨s, ms, x, c, r, pp, qq, h1, h2, h3, h4.mono hf.size key (fun _ _ h => h), h5.mono hf.size key (fun _ _ h => h)⟩
theorem WAt.below {W W' : World} {wb n : Nat} {v : Value} {xs : List Value} (h : WAt W wb n v xs) (hb : Below W.heap.size W W') : WAt W' wb n v xs :=
  ⟨(hb.block wb (heap_lt h.blk)).trans h.blk, owns_of h.own (fun k hk => hb.block k (h.own.lt k hk).2), h.off⟩
theorem WAt.blkN {w wn : World} {wb n : Nat} {v : Value} {xs : List Value} {o : Obj} (h : WAt w wb n v xs) (hgrow : (w.alloc o).grownBy wn v.ownBlock) : wn.heap[wb]? = some (.cells (worldK v) 47 (0, 0)) :=
  (hgrow.block wb (by have := heap_lt h.blk; simp; omega) (fun e => h.off e.symm)).trans ((Below.heap_alloc _ _ _ (heap_lt h.blk)).trans h.blk)
theorem WAt.push {W w wn : World} {wb n gg cap : Nat} {v : Value} {xs ys : List Value} {o : Obj} (h0 : Fr (WOw wb v) W (WOw wb v) w) (h : WAt w wb n v xs) (hgrow : (w.alloc o).grownBy wn v.ownBlock)
    (hown : wn.ownsRow 0 53 2 (.slice (some ⟨gg, 0, none⟩) (n + 1) cap) (n + 1) (xs ++ ys)) (hat : v.ownBlock = some gg ∨ gg = w.heap.size + 1) :
    WAt (wn.setCell ⟨wb, 0, none⟩ (.slice (some ⟨gg, 0, none⟩) (n + 1) cap)) wb (n + 1) (.slice (some ⟨gg, 0, none⟩) (n + 1) cap) (xs ++ ys) ∧ Fr (WOw wb v) W (WOw wb (.slice (some ⟨gg, 0, none⟩) (n + 1) cap)) (wn.setCell ⟨wb, 0, none⟩ (.slice (some ⟨gg, 0, none⟩) (n + 1) cap)) := by
  have hw := heap_lt h.blk
  have hne : gg ≠ wb := by
    rcases hat with e | e
    · rintro rfl; exact h.off e
    · omega
  refine ⟨⟨heap_set (h.blkN hgrow), owns_of hown (fun k hk => heap_set_other ?_), ?_⟩, ?_⟩
  · have e : gg = k := by simpa [Value.ownBlock] using hk
    subst e; exact hne
  · intro e
    exact hne (by simpa [Value.ownBlock] using e)
  · have f1 := ((h0.alloc o).grown hgrow (fun k hk => Or.inl (Or.inr hk))).setCell (p := ⟨wb, 0, none⟩) (Or.inl (Or.inl rfl)) (.slice (some ⟨gg, 0, none⟩) (n + 1) cap)
    refine f1.reown (fun k hk => ?_)
    rcases hk with rfl | hk
    · exact Or.inl (Or.inl rfl)
    · have e : gg = k := by simpa [Value.ownBlock] using hk
      subst e
      rcases hat with e | e
      · exact Or.inl (Or.inr e)
      · exact Or.inr (by have := h0.size; omega)
theorem Tryz.infoPol : (Tryz.prog.info? 53).map (fun i => (i.zero, i.size, i.bytes)) = some (some (.agg #[.pointer none, .pointer none]), 2, 16) := by kernel_rfl
set_option maxRecDepth 100000 in
set_option maxHeartbeats 3200000 in
theorem wcompile {W : World} {wb n : Nat} {v : Value} {xs cs : List Value} {S : ByteArray} (hw : WAt W wb n v xs) (hn : n ≤ 1000000000000) (ho : OpL cs 1 S) (ht : TokTabs W) :
    Calls Tryz.prog 10 #[ptr4 wb 0, .agg cs.toArray] W fun e W' => e = .returned (.bool true) ∧ ∃ n' v' xs', n' ≤ n + 1 ∧ WAt W' wb n' v' xs' ∧ Fr (WOw wb v) W (WOw wb v') W' ∧ (xs' = xs ∨ ∃ a b, xs' = xs ++ [a, b] ∧ PairAt W' (WOw wb v') a b) := by
  obtain ⟨i0, hi0, hz0, hz1, hz2⟩ := info_parts Tryz.infoPol
  have lwb : wb < W.heap.size := heap_lt hw.blk
  have hq : (W.alloc (.cells cs.toArray 33)).heap[W.heap.size]? = some (.cells cs.toArray 33 (0, 0)) := heap_alloc_new _ _
  have q3 : (W.alloc (.cells cs.toArray 33)).cell? ⟨W.heap.size, 3, none⟩ = some (.string S) := by rw [cell_of_heap hq]; simpa using ho.str
  have HB0 := hide ((Below.refl W.heap.size W).alloc (Nat.le_refl _) (.cells cs.toArray 33))
  have HW := hide hw
  have HT := hide ht
  have HQ := hide hq
  have Q3 := hide q3
  clear hw ht hq q3
  obtain ⟨WA, hWA⟩ : ∃ WA, W.alloc (.cells cs.toArray 33) = WA := ⟨_, rfl⟩
  have HWA := hide hWA
  rw [hWA] at HB0 HQ Q3
  have q3 := unhide Q3
  clear hWA
  go_enter Tryz.func10, Tryz.ntmps10
  go_upto_region 1 with fail
  rw [unhide HWA]
  have lWA : W.heap.size < WA.heap.size := heap_lt (unhide HQ)
  rcases compile_both S with ⟨er, at_, hne, hp, hr⟩ | ⟨ms, x, c, r, hB, hp, hr⟩
  · have HP := hide (hp WA ((unhide HT).below (unhide HB0)))
    have HR := hide hr
    have hb1 : (er == 0) = false := by simpa using hne
    clear hp hr hne
    go_wp2_with fail
    refine (unhide HP).mono ?_
    rintro e w1 ⟨rfl, hb⟩
    have HB1 := hide hb
    have q31 := (hb.cell (p := ⟨W.heap.size, 3, none⟩) lWA).trans (unhide Q3)
    have lw1 : W.heap.size < w1.heap.size := by have := hb.size; omega
    clear hb HP
    go_wp2_with fail
    refine (unhide HR w1).mono ?_
    rintro e w2 ⟨rfl, hb⟩
    have HB2 := hide (((unhide HB0).trans ((unhide HB1).mono (unhide HB0).size)).trans (hb.mono (by have := (unhide HB0).size; have := (unhide HB1).size; omega)))
    clear hb HR
    go_wp2_with fail
    go_ret
    exact ⟨rfl, n, v, xs, by omega, (unhide HW).below (unhide HB2), Fr.of_below (unhide HB2), Or.inl rfl⟩
  · have HP := hide (hp WA ((unhide HT).below (unhide HB0)))
    have HR := hide hr
    clear hp hr
    go_wp2_with fail
    refine (unhide HP).mono ?_
    rintro e w1 ⟨pp, rfl, hb, l1⟩
    have L1 := hide l1
    have HB1 := hide hb
    have q31 := (hb.cell (p := ⟨W.heap.size, 3, none⟩) lWA).trans (unhide Q3)
    have lw1 : W.heap.size < w1.heap.size := by have := hb.size; omega
    clear hb HP l1
    go_wp2_with fail
    refine (unhide HR w1).mono ?_
    rintro e w2 ⟨qq, rfl, hb, l2⟩
    have PR := hide (show PairAt w2 (WOw wb v) (ptr4 pp 0) (ptr4 qq 0) from by
      have hno : ∀ k, WA.heap.size ≤ k → ¬ WOw wb v k := fun k hk h => by
        rcases h with h | h
        · omega
        · have := ((unhide HW).own.lt k h).2; omega
      exact ⟨S, ms, x, c, r, pp, qq, rfl, rfl, hB, (unhide L1).mono hb.size (fun k h1 h2 => ⟨hb.block k h1, hno k h2⟩) (fun _ _ h => h), l2.mono (Nat.le_refl _) (fun k _ h2 => ⟨rfl, hno k (Nat.le_trans (unhide HB1).size h2)⟩) (fun _ _ h => h)⟩)
    clear l2 hB L1
    have HB2 := hide (((unhide HB0).trans ((unhide HB1).mono (unhide HB0).size)).trans (hb.mono (by have := (unhide HB0).size; have := (unhide HB1).size; omega)))
    have hw2 := (unhide HW).below (unhide HB2)
    have HW2 := hide hw2
    have cv : w2.cell? ⟨wb, 0, none⟩ = some v := cell_of_heap hw2.blk
    have zv : w2.frozen? ⟨wb, 0, none⟩ = false := frozen_of_heap hw2.blk
    have lw2 : wb < w2.heap.size := heap_lt hw2.blk
    obtain ⟨vo, vc, hvv⟩ := rf.owns_sl hw2.own
    subst hvv
    clear hb HR hw2 q31
    have OW := hide (unhide HW2).own
    have hlt : ∀ k, (Value.slice vo n vc).ownBlock = some k → k < w2.heap.size := fun k hk => ((unhide HW2).own.lt k hk).2
    have HLT := hide hlt
    have ZV := hide zv
    clear hlt zv
    go_wp2_with (at_builtin; refine wpList_append_lies _ rfl _ _ _ rfl 0 53 i0 _ 2 16 Tryz.underlying37 hi0 hz0 hz1 hz2 rfl (by omega) (.slice vo n vc) n xs rfl ((unhide OW).alloc _) ⟨w2.heap.size, 0, none⟩ 1 1 [ptr4 pp 0, ptr4 qq 0] rfl rfl (World.news_of_block (cs := #[ptr4 pp 0, ptr4 qq 0]) (t := 53) (fr := (0, 0)) (heap_alloc_new _ _)) (by simp [Value.oneCell']) (by omega) (by simp [maxLen]; omega) (by omega) (by simp) (w2.heap.size + 1) (by simp) ?_; intro gg cap wn hown hgrow hat hltg; have d0 : wn.cell? ⟨wb, 0, none⟩ = some (.slice vo n vc) := cell_of_heap ((unhide HW2).blkN hgrow); have df : wn.frozen? ⟨wb, 0, none⟩ = false := frozen_of_heap ((unhide HW2).blkN hgrow))
    go_ret
    have P := WAt.push (Fr.of_below (unhide HB2)) (unhide HW2) hgrow hown hat
    exact ⟨rfl, _, _, _, Nat.le_refl _, P.1, P.2, Or.inr ⟨_, _, rfl, (unhide PR).fr (WAt.push (Fr.refl _ _) (unhide HW2) hgrow hown hat).2⟩⟩
end Go.Proofs.YtgdeeodifnegiaaGreatDoor
