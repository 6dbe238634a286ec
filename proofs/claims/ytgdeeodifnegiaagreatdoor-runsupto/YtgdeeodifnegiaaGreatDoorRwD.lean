/- One step of a script (package bywaylaw) with policies and a book: Compile. -/
import Derived.Test.YtgdeeodifnegiaaGreatDoorRwC
import Derived.Test.YtgdeeodifnegiaaGreatDoorLwB
namespace Go.Proofs.YtgdeeodifnegiaaGreatDoor
open Go.RowKit

/-- the script's world: its policies, its book -/
structure XAt (W : World) (wb n : Nat) (b : Bk) (xs : List Value) : Prop where
  book : BookAt W wb b
  own : W.ownsRow 0 53 2 b.vp n xs
  free : FreeL wb b b.vp
def XO (wb : Nat) (b : Bk) (k : Nat) : Prop := b.O wb k ∨ b.vp.ownBlock = some k
theorem XAt.below {W W' : World} {wb n : Nat} {b : Bk} {xs : List Value} (h : XAt W wb n b xs) (hb : Below W.heap.size W W') : XAt W' wb n b xs :=
  ⟨h.book.below hb, owns_of h.own (fun k hk => hb.block k (h.own.lt k hk).2), h.free⟩
theorem XAt.blkN {w wn : World} {wb n : Nat} {b : Bk} {v : Value} {xs : List Value} {o : Obj} (h : XAt w wb n b xs) (hv : b.vp = v) (hgrow : (w.alloc o).grownBy wn v.ownBlock) : wn.heap[wb]? = some (.cells (worldC b) 47 (0, 0)) := by
  subst hv
  exact (hgrow.block wb (by have := heap_lt h.book.blk; simp; omega) (fun e => (h.free wb e.symm).1 (Or.inl rfl))).trans ((Below.heap_alloc _ _ _ (heap_lt h.book.blk)).trans h.book.blk)
theorem XAt.cellN {w wn : World} {wb n : Nat} {b : Bk} {v : Value} {xs : List Value} {o : Obj} (h : XAt w wb n b xs) (hv : b.vp = v) (hgrow : (w.alloc o).grownBy wn v.ownBlock) : wn.cell? ⟨wb, 0, none⟩ = some v := by
  have := h.blkN hv hgrow
  rw [← hv]
  exact cell_of_heap this
theorem XAt.push {W w wn : World} {wb n gg cap : Nat} {b : Bk} {v : Value} {xs ys : List Value} {o : Obj} (h0 : Fr (XO wb b) W (XO wb b) w) (h : XAt w wb n b xs) (hv : b.vp = v) (hgrow : (w.alloc o).grownBy wn v.ownBlock)
    (hown : wn.ownsRow 0 53 2 (.slice (some ⟨gg, 0, none⟩) (n + 1) cap) (n + 1) (xs ++ ys)) (hat : v.ownBlock = some gg ∨ gg = w.heap.size + 1) :
    XAt (wn.setCell ⟨wb, 0, none⟩ (.slice (some ⟨gg, 0, none⟩) (n + 1) cap)) wb (n + 1) { b with vp := .slice (some ⟨gg, 0, none⟩) (n + 1) cap } (xs ++ ys) ∧ Fr (XO wb b) W (XO wb { b with vp := .slice (some ⟨gg, 0, none⟩) (n + 1) cap }) (wn.setCell ⟨wb, 0, none⟩ (.slice (some ⟨gg, 0, none⟩) (n + 1) cap)) := by
  subst hv
  have hb := h.book
  have hw := heap_lt hb.blk
  have hsz : (w.alloc o).heap.size = w.heap.size + 1 := by simp
  have hs2 := hgrow.size
  have hgO : ¬ b.O wb gg ∧ ¬ b.R gg := by
    rcases hat with e | e
    · exact h.free gg e
    · exact ⟨fun hh => by have := (hb.lt hh).1; omega, fun hh => by have := (hb.sep _ hh).2; omega⟩
  have hne : gg ≠ wb := fun e => hgO.1 (Or.inl e)
  have keep1 : ∀ k, k < w.heap.size → b.vp.ownBlock ≠ some k → wn.heap[k]? = w.heap[k]? := fun k hk h1 => (hgrow.block k (by omega) (fun e => h1 e.symm)).trans (Below.heap_alloc _ _ _ hk)
  have keep : ∀ k, k < w.heap.size → b.vp.ownBlock ≠ some k → k ≠ wb → (wn.setCell ⟨wb, 0, none⟩ (.slice (some ⟨gg, 0, none⟩) (n + 1) cap)).heap[k]? = w.heap[k]? := fun k hk h1 h2 => by
    rw [heap_set_other h2]; exact keep1 k hk h1
  have keepR : ∀ k, b.R k → (wn.setCell ⟨wb, 0, none⟩ (.slice (some ⟨gg, 0, none⟩) (n + 1) cap)).heap[k]? = w.heap[k]? := fun k hk =>
    keep k (hb.sep k hk).2 (fun e => (h.free k e).2 hk) (fun e => (hb.sep k hk).1 (Or.inl e))
  have keepO : ∀ k, b.O wb k → k ≠ wb → (wn.setCell ⟨wb, 0, none⟩ (.slice (some ⟨gg, 0, none⟩) (n + 1) cap)).heap[k]? = w.heap[k]? := fun k hk h2 =>
    keep k (hb.lt hk).1 (fun e => (h.free k e).1 hk) h2
  have sz : (wn.setCell ⟨wb, 0, none⟩ (.slice (some ⟨gg, 0, none⟩) (n + 1) cap)).heap.size = wn.heap.size := by simp [World.setCell]
  have hle : w.heap.size ≤ (wn.setCell ⟨wb, 0, none⟩ (.slice (some ⟨gg, 0, none⟩) (n + 1) cap)).heap.size := by omega
  refine ⟨⟨⟨?_, ?_, ?_, ?_, fun r hr => (hb.lb r hr).keep hle (fun k e => keepR k (Or.inl ⟨r, hr, e⟩)), fun r hr => (hb.li r hr).keep hle (fun k e => keepR k (Or.inr (Or.inl ⟨r, hr, e⟩))), fun r hr => (hb.ln r hr).keep hle (fun k e => keepR k (Or.inr (Or.inr ⟨r, hr, e⟩))), fun k hk => ⟨(hb.sep k hk).1, Nat.lt_of_lt_of_le (hb.sep k hk).2 hle⟩, hb.abi, hb.abn, hb.ain⟩, ?_, ?_⟩, ?_⟩
  · rw [heap_set ((keep1 wb hw (fun e => (h.free wb e).1 (Or.inl rfl))).trans hb.blk)]; rfl
  · exact owns_of hb.ob (fun k e => keepO k (Or.inr (Or.inl e)) (by have := (hb.ob.lt k e).1; omega))
  · exact owns_of hb.oi (fun k e => keepO k (Or.inr (Or.inr (Or.inl e))) (by have := (hb.oi.lt k e).1; omega))
  · exact owns_of hb.on (fun k e => keepO k (Or.inr (Or.inr (Or.inr e))) (by have := (hb.on.lt k e).1; omega))
  · refine owns_of hown (fun k hk => heap_set_other ?_)
    have e : gg = k := by simpa [Value.ownBlock] using hk
    subst e; exact hne
  · intro k hk
    have e : gg = k := by simpa [Value.ownBlock] using hk
    subst e; exact hgO
  · have f1 := ((h0.alloc o).grown hgrow (fun k hk => Or.inl (Or.inr hk))).setCell (p := ⟨wb, 0, none⟩) (Or.inl (Or.inl (Or.inl rfl))) (.slice (some ⟨gg, 0, none⟩) (n + 1) cap)
    refine f1.reown (fun k hk => ?_)
    rcases hk with hk | hk
    · exact Or.inl (Or.inl hk)
    · have e : gg = k := by simpa [Value.ownBlock] using hk
      subst e
      rcases hat with e | e
      · exact Or.inl (Or.inr e)
      · exact Or.inr (by have := h0.size; omega)
set_option maxRecDepth 100000 in
set_option maxHeartbeats 3200000 in
theorem xcompile {W : World} {wb n : Nat} {b : Bk} {xs cs : List Value} {S : ByteArray} (hw : XAt W wb n b xs) (hn : n ≤ 1000000000000) (ho : OpL cs 1 S) (ht : TokTabs W) :
    Calls Tryz.prog 10 #[ptr4 wb 0, .agg cs.toArray] W fun e W' => e = .returned (.bool true) ∧ ∃ n' b' xs', n' ≤ n + 1 ∧ XAt W' wb n' b' xs' ∧ b'.cnt = b.cnt ∧ Fr (XO wb b) W (XO wb b') W' ∧ (xs' = xs ∨ ∃ a c, xs' = xs ++ [a, c] ∧ PairAt W' (XO wb b') a c) := by
  obtain ⟨i0, hi0, hz0, hz1, hz2⟩ := info_parts Tryz.infoPol
  have lwb : wb < W.heap.size := heap_lt hw.book.blk
  have hq : (W.alloc (.cells cs.toArray 33)).heap[W.heap.size]? = some (.cells cs.toArray 33 (0, 0)) := heap_alloc_new _ _
  have q3 : (W.alloc (.cells cs.toArray 33)).cell? ⟨W.heap.size, 3, none⟩ = some (.string S) := by rw [cell_of_heap hq]; simpa using ho.str
  have HB0 := hide ((Below.refl W.heap.size W).alloc (Nat.le_refl _) (.cells cs.toArray 33))
  have HW := hide hw
  have HT := hide ht
  have HQ := hide hq
  have Q3 := hide q3
  clear hw ht hq q3
  obtain ⟨WA, hWA⟩ : ∃ WA, W.alloc (.cells cs.toArray 33) = WA := ⟨_, rfl⟩
  have HWA := hide hWA
  rw [hWA] at HB0 HQ Q3
  have q3 := unhide Q3
  clear hWA
  go_enter Tryz.func10, Tryz.ntmps10
  go_upto_region 1 with fail
  rw [unhide HWA]
  have lWA : W.heap.size < WA.heap.size := heap_lt (unhide HQ)
  rcases compile_both S with ⟨er, at_, hne, hp, hr⟩ | ⟨ms, x, c, r, hB, hp, hr⟩
  · have HP := hide (hp WA ((unhide HT).below (unhide HB0)))
    have HR := hide hr
    have hb1 : (er == 0) = false := by simpa using hne
    clear hp hr hne
    go_wp2_with fail
    refine (unhide HP).mono ?_
    rintro e w1 ⟨rfl, hb⟩
    have HB1 := hide hb
    have q31 := (hb.cell (p := ⟨W.heap.size, 3, none⟩) lWA).trans (unhide Q3)
    have lw1 : W.heap.size < w1.heap.size := by have := hb.size; omega
    clear hb HP
    go_wp2_with fail
    refine (unhide HR w1).mono ?_
    rintro e w2 ⟨rfl, hb⟩
    have HB2 := hide (((unhide HB0).trans ((unhide HB1).mono (unhide HB0).size)).trans (hb.mono (by have := (unhide HB0).size; have := (unhide HB1).size; omega)))
    clear hb HR
    go_wp2_with fail
    go_ret
    exact ⟨rfl, n, b, xs, by omega, (unhide HW).below (unhide HB2), rfl, Fr.of_below (unhide HB2), Or.inl rfl⟩
  · have HP := hide (hp WA ((unhide HT).below (unhide HB0)))
    have HR := hide hr
    clear hp hr
    go_wp2_with fail
    refine (unhide HP).mono ?_
    rintro e w1 ⟨pp, rfl, hb, l1⟩
    have L1 := hide l1
    have HB1 := hide hb
    have q31 := (hb.cell (p := ⟨W.heap.size, 3, none⟩) lWA).trans (unhide Q3)
    have lw1 : W.heap.size < w1.heap.size := by have := hb.size; omega
    clear hb HP l1
    go_wp2_with fail
    refine (unhide HR w1).mono ?_
    rintro e w2 ⟨qq, rfl, hb, l2⟩
    have PR := hide (show PairAt w2 (XO wb b) (ptr4 pp 0) (ptr4 qq 0) from by
      have hno : ∀ k, WA.heap.size ≤ k → ¬ XO wb b k := fun k hk h => by
        rcases h with h | h
        · have := ((unhide HW).book.lt h).1; omega
        · have := ((unhide HW).own.lt k h).2; omega
      exact ⟨S, ms, x, c, r, pp, qq, rfl, rfl, hB, (unhide L1).mono hb.size (fun k h1 h2 => ⟨hb.block k h1, hno k h2⟩) (fun _ _ h => h), l2.mono (Nat.le_refl _) (fun k _ h2 => ⟨rfl, hno k (Nat.le_trans (unhide HB1).size h2)⟩) (fun _ _ h => h)⟩)
    clear l2 hB L1
    have HB2 := hide (((unhide HB0).trans ((unhide HB1).mono (unhide HB0).size)).trans (hb.mono (by have := (unhide HB0).size; have := (unhide HB1).size; omega)))
    have hw2 := (unhide HW).below (unhide HB2)
    have HW2 := hide hw2
    have cv : w2.cell? ⟨wb, 0, none⟩ = some b.vp := cell_of_heap hw2.book.blk
    have zv : w2.frozen? ⟨wb, 0, none⟩ = false := frozen_of_heap hw2.book.blk
    have lw2 : wb < w2.heap.size := heap_lt hw2.book.blk
    obtain ⟨vo, vc, hvv⟩ := rf.owns_sl hw2.own
    rw [hvv] at cv
    have HVV := hide hvv
    have OW := hide (show w2.ownsRow 0 53 2 (.slice vo n vc) n xs from by rw [← hvv]; exact hw2.own)
    clear hb HR hw2 q31 hvv
    have hlt : ∀ k, (Value.slice vo n vc).ownBlock = some k → k < w2.heap.size := fun k hk => ((unhide OW).lt k hk).2
    have HLT := hide hlt
    have ZV := hide zv
    clear hlt zv
    go_wp2_with (at_builtin; refine wpList_append_lies _ rfl _ _ _ rfl 0 53 i0 _ 2 16 Tryz.underlying37 hi0 hz0 hz1 hz2 rfl (by omega) (.slice vo n vc) n xs rfl ((unhide OW).alloc _) ⟨w2.heap.size, 0, none⟩ 1 1 [ptr4 pp 0, ptr4 qq 0] rfl rfl (World.news_of_block (cs := #[ptr4 pp 0, ptr4 qq 0]) (t := 53) (fr := (0, 0)) (heap_alloc_new _ _)) (by simp [Value.oneCell']) (by omega) (by simp [maxLen]; omega) (by omega) (by simp) (w2.heap.size + 1) (by simp) ?_; intro gg cap wn hown hgrow hat hltg; have d0 : wn.cell? ⟨wb, 0, none⟩ = some (.slice vo n vc) := (unhide HW2).cellN (unhide HVV) hgrow; have df : wn.frozen? ⟨wb, 0, none⟩ = false := frozen_of_heap ((unhide HW2).blkN (unhide HVV) hgrow))
    go_ret
    have P := XAt.push (Fr.of_below (unhide HB2)) (unhide HW2) (unhide HVV) hgrow hown hat
    exact ⟨rfl, _, _, _, Nat.le_refl _, P.1, rfl, P.2, Or.inr ⟨_, _, rfl, (unhide PR).fr (XAt.push (Fr.refl _ _) (unhide HW2) (unhide HVV) hgrow hown hat).2⟩⟩
set_option maxRecDepth 100000 in
set_option maxHeartbeats 3200000 in
theorem xstep1 {W : World} {wb n : Nat} {b : Bk} {xs cs : List Value} {S : ByteArray} (hw : XAt W wb n b xs) (hn : n ≤ 1000000000000) (ho : OpL cs 1 S) (ht : TokTabs W) :
    Calls Tryz.prog 8 #[ptr4 wb 0, .agg cs.toArray] W fun e W' => e = .returned (.bool true) ∧ ∃ n' b' xs', n' ≤ n + 1 ∧ XAt W' wb n' b' xs' ∧ b'.cnt = b.cnt ∧ Fr (XO wb b) W (XO wb b') W' ∧ (xs' = xs ∨ ∃ a c, xs' = xs ++ [a, c] ∧ PairAt W' (XO wb b') a c) := by
  have lwb : wb < W.heap.size := heap_lt hw.book.blk
  have hq : (W.alloc (.cells cs.toArray 33)).heap[W.heap.size]? = some (.cells cs.toArray 33 (0, 0)) := heap_alloc_new _ _
  have q0 : (W.alloc (.cells cs.toArray 33)).cell? ⟨W.heap.size, 0, none⟩ = some (.int .i64 1) := by rw [cell_of_heap hq]; simpa using ho.kind
  have HB0 := hide ((Below.refl W.heap.size W).alloc (Nat.le_refl _) (.cells cs.toArray 33))
  have HW := hide hw
  have HT := hide ht
  have HO := hide ho
  have HR := hide (rangeAt_blockL hq)
  clear hw ht hq ho
  obtain ⟨WA, hWA⟩ : ∃ WA, W.alloc (.cells cs.toArray 33) = WA := ⟨_, rfl⟩
  have HWA := hide hWA
  rw [hWA] at HB0 HR q0
  clear hWA
  go_enter Tryz.func8, Tryz.ntmps8
  go_upto_region 1 with fail
  rw [unhide HWA]
  go_wp2_with (refine wpList_load_opL rfl _ rfl W.heap.size 0 rfl cs (unhide HO).len (unhide HR) ?_)
  refine (xcompile ((unhide HW).below (unhide HB0)) hn (unhide HO) ((unhide HT).below (unhide HB0))).mono ?_
  rintro e w1 ⟨rfl, n', b', xs', h1, h2, hc, h3, h4⟩
  have H2 := hide h2
  have H3 := hide h3
  have H4 := hide h4
  clear h2 h3 h4
  go_wp2_with fail
  go_ret
  exact ⟨rfl, n', b', xs', h1, unhide H2, hc, (Fr.of_below (unhide HB0)).trans (unhide H3), unhide H4⟩
end Go.Proofs.YtgdeeodifnegiaaGreatDoor
