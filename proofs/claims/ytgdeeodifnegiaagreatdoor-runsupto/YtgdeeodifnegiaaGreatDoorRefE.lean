/- The reference's take: the next token is taken, what is taken is kept, the next one is cut. -/
import Derived.Test.YtgdeeodifnegiaaGreatDoorRefD
import Derived.Deep.RegionHeld3
import Derived.Deep.AppendLies
import Derived.Deep.DeepCutAuto
import Derived.Deep.RegionLaw
import Derived.Deep.DrawnRows
namespace Go.Proofs.YtgdeeodifnegiaaGreatDoor.rf
open Go.RowKit
attribute [local go_sem ↓] Go.wp_at_zero Go.wp_at_succ

theorem Tryz.infoTok : (Tryz.prog.info? 121).map (fun i => (i.zero, i.size, i.bytes)) = some (some (.agg #[.int .u8 0, .string ⟨#[]⟩, .int .i64 0]), 3, 32) := by kernel_rfl
theorem Tryz.infoBool : (Tryz.prog.info? 4).map (fun i => (i.zero, i.size, i.bytes)) = some (some (.bool false), 1, 1) := by kernel_rfl

theorem tokCells_snoc (l : List Tok) (t : Tok) : tokCells (l ++ [t]) = tokCells l ++ [.int .u8 t.kind, .string t.text, .int .i64 t.at_] := by simp [tokCells]
theorem boolCells_snoc (l : List Bool) (b : Bool) : boolCells (l ++ [b]) = boolCells l ++ [.bool b] := by simp [boolCells]

/-- what 'p.taken = append(p.taken, t)' leaves -/
theorem take6 {W0 w1 : World} {pb gg cap : Nat} {s : ByteArray} {st : PS} {tv lv : Value} {ob : Obj} (p0 : PAt W0 pb s st tv lv)
    (hgrow : (W0.alloc ob).drew.grownBy w1 tv.ownBlock) (t : Tok)
    (hown : w1.ownsRow 0 121 3 (.slice (some ⟨gg, 0, none⟩) (st.taken.length + 1) cap) (st.taken.length + 1) (tokCells st.taken ++ [.int .u8 t.kind, .string t.text, .int .i64 t.at_]))
    (hat : tv.ownBlock = some gg ∨ gg = W0.heap.size + 1) :
    PAt (w1.setCell ⟨pb, 5, none⟩ (.slice (some ⟨gg, 0, none⟩) (st.taken.length + 1) cap)) pb s { st with taken := st.taken ++ [t] } (.slice (some ⟨gg, 0, none⟩) (st.taken.length + 1) cap) lv
    ∧ Fr (POwn pb tv lv) W0 (POwn pb (.slice (some ⟨gg, 0, none⟩) (st.taken.length + 1) cap) lv) (w1.setCell ⟨pb, 5, none⟩ (.slice (some ⟨gg, 0, none⟩) (st.taken.length + 1) cap)) := by
  have lp := heap_lt p0.blk
  have hgp : gg ≠ pb := by
    rcases hat with h | h
    · intro e; exact p0.ne1 (by rw [h, e])
    · omega
  have hold : ∀ k, k < W0.heap.size → some k ≠ tv.ownBlock → w1.heap[k]? = W0.heap[k]? := fun k hk hn => by
    rw [hgrow.block k (by simp; omega) hn]; exact Below.heap_alloc _ _ _ hk
  have hl : ∀ k, lv.ownBlock = some k → k < W0.heap.size ∧ some k ≠ tv.ownBlock := fun k hk => ⟨(p0.own2.lt k hk).2, fun e => by
    rcases p0.ne3 with h | h
    · rw [h] at e; cases e
    · exact h (by rw [← e, hk])⟩
  refine ⟨⟨?_, ?_, ?_, ?_, p0.ne2, ?_⟩, ?_⟩
  · have hb : w1.heap[pb]? = some (.cells (psCells s st tv lv) 139 (0, 0)) := by rw [hold pb lp (fun e => p0.ne1 e.symm)]; exact p0.blk
    rw [heap_set hb]; rfl
  · rw [tokCells_snoc, List.length_append]
    exact owns_of hown (fun k hk => heap_set_other (fun e => hgp (by cases hk; exact e)))
  · exact owns_of p0.own2 (fun k hk => by rw [heap_set_other (fun e => p0.ne2 (by rw [hk, e])), hold k (hl k hk).1 (hl k hk).2])
  · intro e; cases e; exact hgp rfl
  · right; intro e
    rcases hat with h | h
    · exact (hl gg e.symm).2 h.symm
    · have := (hl gg e.symm).1; omega
  · have f1 : Fr (POwn pb tv lv) W0 (POwn pb tv lv) (W0.alloc ob).drew := ((Fr.refl _ _).alloc _).drew
    have f2 := f1.grown hgrow (fun k hk => Or.inl (Or.inr (Or.inl hk)))
    have f3 := f2.setCell (p := ⟨pb, 5, none⟩) (Or.inl (Or.inl rfl)) (.slice (some ⟨gg, 0, none⟩) (st.taken.length + 1) cap)
    refine f3.reown (fun k hk => ?_)
    rcases hk with h | h | h
    · exact Or.inl (Or.inl h)
    · obtain rfl : gg = k := by simpa [Value.ownBlock] using h
      rcases hat with h | h
      · exact Or.inl (Or.inr (Or.inl h))
      · right; omega
    · exact Or.inl (Or.inr (Or.inr h))

/-- what 'p.lines = append(p.lines, b)' leaves -/
theorem take7 {W0 w1 : World} {pb gg cap : Nat} {s : ByteArray} {st : PS} {tv lv : Value} {ob : Obj} (p0 : PAt W0 pb s st tv lv)
    (hgrow : (W0.alloc ob).drew.grownBy w1 lv.ownBlock) (b : Bool)
    (hown : w1.ownsRow 0 4 1 (.slice (some ⟨gg, 0, none⟩) (st.lines.length + 1) cap) (st.lines.length + 1) (boolCells st.lines ++ [.bool b]))
    (hat : lv.ownBlock = some gg ∨ gg = W0.heap.size + 1) :
    PAt (w1.setCell ⟨pb, 6, none⟩ (.slice (some ⟨gg, 0, none⟩) (st.lines.length + 1) cap)) pb s { st with lines := st.lines ++ [b] } tv (.slice (some ⟨gg, 0, none⟩) (st.lines.length + 1) cap)
    ∧ Fr (POwn pb tv lv) W0 (POwn pb tv (.slice (some ⟨gg, 0, none⟩) (st.lines.length + 1) cap)) (w1.setCell ⟨pb, 6, none⟩ (.slice (some ⟨gg, 0, none⟩) (st.lines.length + 1) cap)) := by
  have lp := heap_lt p0.blk
  have hgp : gg ≠ pb := by
    rcases hat with h | h
    · intro e; exact p0.ne2 (by rw [h, e])
    · omega
  have hold : ∀ k, k < W0.heap.size → some k ≠ lv.ownBlock → w1.heap[k]? = W0.heap[k]? := fun k hk hn => by
    rw [hgrow.block k (by simp; omega) hn]; exact Below.heap_alloc _ _ _ hk
  have hl : ∀ k, tv.ownBlock = some k → k < W0.heap.size ∧ some k ≠ lv.ownBlock := fun k hk => ⟨(p0.own1.lt k hk).2, fun e => by
    rcases p0.ne3 with h | h
    · rw [h] at hk; cases hk
    · exact h (by rw [hk, e])⟩
  refine ⟨⟨?_, ?_, ?_, p0.ne1, ?_, ?_⟩, ?_⟩
  · have hb : w1.heap[pb]? = some (.cells (psCells s st tv lv) 139 (0, 0)) := by rw [hold pb lp (fun e => p0.ne2 e.symm)]; exact p0.blk
    rw [heap_set hb]; rfl
  · exact owns_of p0.own1 (fun k hk => by rw [heap_set_other (fun e => p0.ne1 (by rw [hk, e])), hold k (hl k hk).1 (hl k hk).2])
  · rw [boolCells_snoc, List.length_append]
    exact owns_of hown (fun k hk => heap_set_other (fun e => hgp (by cases hk; exact e)))
  · intro e; cases e; exact hgp rfl
  · by_cases hn : tv.ownBlock = none
    · exact Or.inl hn
    · right; intro e
      rcases hat with h | h
      · exact (hl gg e).2 h.symm
      · have := (hl gg e).1; omega
  · have f1 : Fr (POwn pb tv lv) W0 (POwn pb tv lv) (W0.alloc ob).drew := ((Fr.refl _ _).alloc _).drew
    have f2 := f1.grown hgrow (fun k hk => Or.inl (Or.inr (Or.inr hk)))
    have f3 := f2.setCell (p := ⟨pb, 6, none⟩) (Or.inl (Or.inl rfl)) (.slice (some ⟨gg, 0, none⟩) (st.lines.length + 1) cap)
    refine f3.reown (fun k hk => ?_)
    rcases hk with h | h | h
    · exact Or.inl (Or.inl h)
    · exact Or.inl (Or.inr (Or.inl h))
    · obtain rfl : gg = k := by simpa [Value.ownBlock] using h
      rcases hat with h | h
      · exact Or.inl (Or.inr (Or.inr h))
      · right; omega

theorem PAt.other {w : World} {pb b : Nat} {s : ByteArray} {st : PS} {tv lv : Value} (h : PAt w pb s st tv lv) (hb : ¬ POwn pb tv lv b) (o : Nat) (v : Value) : PAt (w.setCell ⟨b, o, none⟩ v) pb s st tv lv :=
  ⟨by rw [heap_set_other (fun e => hb (Or.inl e.symm))]; exact h.blk, owns_of h.own1 (fun k hk => heap_set_other (fun e => hb (Or.inr (Or.inl (by rw [hk, e]))))), owns_of h.own2 (fun k hk => heap_set_other (fun e => hb (Or.inr (Or.inr (by rw [hk, e]))))), h.ne1, h.ne2, h.ne3⟩
/-- what 'p.next, p.i = t, i' leaves -/
def tookW (w : World) (pb : Nat) (t : Tok) (i : Nat) : World := (((w.setCell ⟨pb, 1, none⟩ (.int .u8 t.kind)).setCell ⟨pb, 2, none⟩ (.string t.text)).setCell ⟨pb, 3, none⟩ (.int .i64 t.at_)).setCell ⟨pb, 4, none⟩ (.int .i64 i)
theorem take8 {wc w' : World} {pb : Nat} {s : ByteArray} {st : PS} {tv lv : Value} (p : PAt wc pb s st tv lv) (hb : Below wc.heap.size wc w') (t : Tok) (i : Nat) :
    PAt (tookW w' pb t i) pb s { st with next := t, i := i } tv lv ∧ Fr (POwn pb tv lv) wc (POwn pb tv lv) (tookW w' pb t i) := by
  have p1 := p.stay hb
  have p2 := p1.set (o := 1) (v := .int .u8 t.kind) (st' := { st with next := { st.next with kind := t.kind } }) rfl rfl rfl
  have p3 := p2.set (o := 2) (v := .string t.text) (st' := { st with next := ⟨t.kind, t.text, st.next.at_⟩ }) rfl rfl rfl
  have p4 := p3.set (o := 3) (v := .int .i64 t.at_) (st' := { st with next := t }) rfl rfl rfl
  have p5 := p4.set (o := 4) (v := .int .i64 i) (st' := { st with next := t, i := i }) rfl rfl rfl
  exact ⟨p5, ((((Fr.of_below hb).setCell (Or.inl (Or.inl rfl)) _).setCell (Or.inl (Or.inl rfl)) _).setCell (Or.inl (Or.inl rfl)) _).setCell (Or.inl (Or.inl rfl)) _⟩

set_option maxRecDepth 100000 in
set_option maxHeartbeats 3200000 in
theorem take_good {w : World} {pb : Nat} {s : ByteArray} {st : PS} {tv lv : Value} (h : PAt w pb s st tv lv) (hs : s.size ≤ 600) (hi : st.i ≤ s.size) (hb : st.bad < 0) (hk1 : (st.next.kind == 33) = false) (hk2 : (st.next.kind == 46) = false) (hl1 : st.taken.length ≤ 1000) (hl2 : st.lines.length ≤ 1000) :
    Calls Tryz.prog 118 #[ptr pb] w fun e w' => e = .returned (tokV st.next) ∧ ∃ tv' lv', PAt w' pb s (tookP s st) tv' lv' ∧ Fr (POwn pb tv lv) w (POwn pb tv' lv') w' := by
  obtain ⟨i0, hi0, hz0, hz1, hz2⟩ := info_parts Tryz.infoTok
  obtain ⟨i1, hi1, hy0, hy1, hy2⟩ := info_parts Tryz.infoBool
  have c0 : w.cell? ⟨pb, 0, none⟩ = some (.string s) := cell_of_heap h.blk
  have c1 : w.cell? ⟨pb, 1, none⟩ = some (.int .u8 st.next.kind) := cell_of_heap h.blk
  have c2 : w.cell? ⟨pb, 2, none⟩ = some (.string st.next.text) := cell_of_heap h.blk
  have c3 : w.cell? ⟨pb, 3, none⟩ = some (.int .i64 st.next.at_) := cell_of_heap h.blk
  have c4 : w.cell? ⟨pb, 4, none⟩ = some (.int .i64 st.i) := cell_of_heap h.blk
  have c5 : w.cell? ⟨pb, 5, none⟩ = some tv := cell_of_heap h.blk
  have c6 : w.cell? ⟨pb, 6, none⟩ = some lv := cell_of_heap h.blk
  have c7 : w.cell? ⟨pb, 7, none⟩ = some (.int .i64 st.bad) := cell_of_heap h.blk
  have zz : ∀ o, w.frozen? ⟨pb, o, none⟩ = false := fun o => frozen_of_heap h.blk
  have lp : pb < w.heap.size := heap_lt h.blk
  have n0 : pb ≠ w.heap.size := by omega
  have n1 : pb ≠ w.heap.size + 1 := by omega
  have n2 : pb ≠ w.heap.size + 2 := by omega
  have lt1 : ∀ k, some k = tv.ownBlock → k < w.heap.size := fun k hk => (h.own1.lt k hk.symm).2
  have lt2 : ∀ k, some k = lv.ownBlock → k < w.heap.size := fun k hk => (h.own2.lt k hk.symm).2
  have L1 := hide lt1
  have L2 := hide lt2
  have H := hide h
  clear h lt1 lt2
  go_enter Tryz.func118, Tryz.ntmps118
  go_wp2_with fail
  obtain ⟨W0, hW0, p0, q0, q1, f0⟩ : ∃ W0, (w.alloc (.cells #[.int .u8 0, .string ⟨#[]⟩, .int .i64 0] 121)).alloc (.cells #[.int .u8 st.next.kind, .string st.next.text, .int .i64 st.next.at_] 121) = W0 ∧ PAt W0 pb s st tv lv ∧ W0.heap[w.heap.size]? = some (.cells #[.int .u8 0, .string ⟨#[]⟩, .int .i64 0] 121 (0, 0)) ∧ W0.heap[w.heap.size + 1]? = some (.cells #[.int .u8 st.next.kind, .string st.next.text, .int .i64 st.next.at_] 121 (0, 0)) ∧ Fr (POwn pb tv lv) w (POwn pb tv lv) W0 :=
    ⟨_, rfl, (unhide H).stay (((Below.refl _ _).alloc (Nat.le_refl _) _).alloc (by simp) _), by rw [Below.heap_alloc _ _ _ (by simp)]; exact heap_alloc_new w _, by rw [show w.heap.size + 1 = (w.alloc (.cells #[.int .u8 0, .string ⟨#[]⟩, .int .i64 0] 121)).heap.size by simp]; exact heap_alloc_new _ _, ((Fr.refl _ _).alloc _).alloc _⟩
  rw [hW0]
  clear hW0 c0 c1 c2 c3 c4 c5 c6 c7 zz
  have hR : w.heap.size + 1 < W0.heap.size := heap_lt q1
  generalize hRw : w.heap.size = R at *
  have HRW := hide (Nat.le_of_eq hRw)
  clear hRw
  have c5 : W0.cell? ⟨pb, 5, none⟩ = some tv := cell_of_heap p0.blk
  have z5 : W0.frozen? ⟨pb, 5, none⟩ = false := frozen_of_heap p0.blk
  have t0 : W0.cell? ⟨R + 1, 0, none⟩ = some (.int .u8 st.next.kind) := cell_of_heap q1
  have t1 : W0.cell? ⟨R + 1, 1, none⟩ = some (.string st.next.text) := cell_of_heap q1
  have t2 : W0.cell? ⟨R + 1, 2, none⟩ = some (.int .i64 st.next.at_) := cell_of_heap q1
  have lpW : pb < W0.heap.size := by omega
  have zf : ∀ ob, (W0.alloc ob).frozen? ⟨pb, 5, none⟩ = false := fun ob => (World.frozen?_alloc_old W0 ob ⟨pb, 5, none⟩ (Nat.ne_of_lt lpW)).trans z5
  have P0 := hide p0
  have Q0 := hide q0
  have Q1 := hide q1
  clear p0 q0 q1
  have T1 := hide (show some pb ≠ tv.ownBlock from fun e => (unhide P0).ne1 e.symm)
  have F0 := hide f0
  clear f0
  have A0 := hide (show (∀ k, POwn pb tv lv k → k < R) from fun k hk => by rcases hk with h | h | h; omega; exact unhide L1 k h.symm; exact unhide L2 k h.symm)
  go_cut [] (fun wc => ∃ tv1, PAt wc pb s { st with taken := st.taken ++ [st.next] } tv1 lv ∧ Fr (POwn pb tv lv) W0 (POwn pb tv1 lv) wc)
  case first =>
    go_region_law ((refine step_append_lies _ (by rfl) _ _ _ (by rfl) 0 121 i0 _ 3 32 Tryz.underlying116 hi0 hz0 hz1 hz2 rfl (by omega) tv st.taken.length (tokCells st.taken) (by rfl) (((unhide P0).own1.alloc _).drew) ⟨W0.heap.size, 0, none⟩ 1 1 [.int .u8 st.next.kind, .string st.next.text, .int .i64 st.next.at_] (by rfl) (by rfl) (World.news_of_block (cs := #[.int .u8 st.next.kind, .string st.next.text, .int .i64 st.next.at_]) (t := 121) (fr := (0, 0)) (heap_alloc_new _ _)) (by simp [Value.oneCell']) (by omega) (by simp [maxLen]; omega) (by omega) (by omega) (W0.heap.size + 1) (by simp) ?_; intro gg cap w1 hown1 hgrow hat hlt; have k1 : w1.cell? ⟨pb, 5, none⟩ = some tv := (hgrow.cell_far _ (by simp; omega) (unhide T1)).trans (cell_later (Below.refl _ _ |>.alloc (Nat.le_refl _) _ |>.drew) c5); have z1 : w1.frozen? ⟨pb, 5, none⟩ = false := (hgrow.frozen_far _ (by simp; omega) (unhide T1)).trans (zf _)))
    all_goals
      go_wp2_with fail
      go_meet
      case rel => exact ⟨_, take6 (unhide P0) hgrow st.next hown1 hat⟩
  case rest =>
    obtain ⟨tv1, p1, f1⟩ := hcut
    have q0 := (f1.block R (by omega) (fun h => by have := unhide A0 _ h; omega)).trans (unhide Q0)
    have q1 := (f1.block (R + 1) (by omega) (fun h => by have := unhide A0 _ h; omega)).trans (unhide Q1)
    have f2 := (unhide F0).trans f1
    have A1 := hide (show ∀ k, POwn pb tv1 lv k → k ≠ R ∧ k ≠ R + 1 from fun k hk => by
      rcases f1.own k hk with h | h
      · have := unhide A0 _ h; omega
      · omega)
    have h1W : R + 1 < wc.heap.size := heap_lt q1
    clear c5 z5 t0 t1 t2 P0 Q0 Q1 F0 A0 L1 L2 T1 zf lpW hR f1 H
    clear W0
    have c6 : wc.cell? ⟨pb, 6, none⟩ = some lv := cell_of_heap p1.blk
    have z6 : wc.frozen? ⟨pb, 6, none⟩ = false := frozen_of_heap p1.blk
    have t0 : wc.cell? ⟨R + 1, 0, none⟩ = some (.int .u8 st.next.kind) := cell_of_heap q1
    have t1 : wc.cell? ⟨R + 1, 1, none⟩ = some (.string st.next.text) := cell_of_heap q1
    have lpW : pb < wc.heap.size := heap_lt p1.blk
    have zf : ∀ ob, (wc.alloc ob).frozen? ⟨pb, 6, none⟩ = false := fun ob => (World.frozen?_alloc_old wc ob ⟨pb, 6, none⟩ (Nat.ne_of_lt lpW)).trans z6
    have T2 := hide (show some pb ≠ lv.ownBlock from fun e => p1.ne2 e.symm)
    have P1 := hide p1
    have Q0 := hide q0
    have Q1 := hide q1
    have F2 := hide f2
    clear p1 q0 q1 f2
    go_wp2_with fail
    go_cut [] (fun wd => ∃ lv1, PAt wd pb s { st with taken := st.taken ++ [st.next], lines := st.lines ++ [isSemi st.next] } tv1 lv1 ∧ Fr (POwn pb tv1 lv) wc (POwn pb tv1 lv1) wd)
    case first =>
      have hor : ((st.next.kind == 115) = true ∧ Hid (isSemi st.next = (st.next.text.toList == [59]))) ∨ ((st.next.kind == 115) = false ∧ Hid (isSemi st.next = false)) := by
        unfold isSemi Hid
        cases (st.next.kind == 115) <;> simp
      rcases hor with ⟨hk3, HS⟩ | ⟨hk3, HS⟩
      · first | (go_region_law ((refine step_append_lies _ (by rfl) _ _ _ (by rfl) 0 4 i1 _ 1 1 Tryz.underlying117 hi1 hy0 hy1 hy2 rfl (by omega) lv st.lines.length (boolCells st.lines) (by rfl) (((unhide P1).own2.alloc _).drew) ⟨wc.heap.size, 0, none⟩ 1 1 [.bool (st.next.text.toList == [59])] (by rfl) (by rfl) (World.news_of_block (cs := #[.bool (st.next.text.toList == [59])]) (t := 4) (fr := (0, 0)) (heap_alloc_new _ _)) (by simp [Value.oneCell']) (by omega) (by simp [maxLen]; omega) (by omega) (by omega) (wc.heap.size + 1) (by simp) ?_; intro gg cap w1 hown1 hgrow hat hlt; have k1 : w1.cell? ⟨pb, 6, none⟩ = some lv := (hgrow.cell_far _ (by simp; omega) (unhide T2)).trans (cell_later (Below.refl _ _ |>.alloc (Nat.le_refl _) _ |>.drew) c6); have z1 : w1.frozen? ⟨pb, 6, none⟩ = false := (hgrow.frozen_far _ (by simp; omega) (unhide T2)).trans (zf _)))) | fail
        all_goals
          go_wp2_with fail
          go_meet
          case rel => rw [unhide HS]; exact ⟨_, take7 (unhide P1) hgrow _ hown1 hat⟩
      · first | (go_region_law ((refine step_append_lies _ (by rfl) _ _ _ (by rfl) 0 4 i1 _ 1 1 Tryz.underlying117 hi1 hy0 hy1 hy2 rfl (by omega) lv st.lines.length (boolCells st.lines) (by rfl) (((unhide P1).own2.alloc _).drew) ⟨wc.heap.size, 0, none⟩ 1 1 [.bool false] (by rfl) (by rfl) (World.news_of_block (cs := #[.bool false]) (t := 4) (fr := (0, 0)) (heap_alloc_new _ _)) (by simp [Value.oneCell']) (by omega) (by simp [maxLen]; omega) (by omega) (by omega) (wc.heap.size + 1) (by simp) ?_; intro gg cap w1 hown1 hgrow hat hlt; have k1 : w1.cell? ⟨pb, 6, none⟩ = some lv := (hgrow.cell_far _ (by simp; omega) (unhide T2)).trans (cell_later (Below.refl _ _ |>.alloc (Nat.le_refl _) _ |>.drew) c6); have z1 : w1.frozen? ⟨pb, 6, none⟩ = false := (hgrow.frozen_far _ (by simp; omega) (unhide T2)).trans (zf _)))) | fail
        all_goals
          go_wp2_with fail
          go_meet
          case rel => rw [unhide HS]; exact ⟨_, take7 (unhide P1) hgrow _ hown1 hat⟩
    case rest =>
      obtain ⟨lv1, p2, f3⟩ := hcut
      have q0 := (f3.block R (by omega) (fun h => (unhide A1 _ h).1 rfl)).trans (unhide Q0)
      have q1 := (f3.block (R + 1) (by omega) (fun h => (unhide A1 _ h).2 rfl)).trans (unhide Q1)
      have f4 := (unhide F2).trans f3
      have A2 := hide (show ∀ k, POwn pb tv1 lv1 k → k ≠ R ∧ k ≠ R + 1 from fun k hk => by
        rcases f3.own k hk with h | h
        · exact unhide A1 _ h
        · omega)
      clear c6 z6 t0 t1 P1 Q0 Q1 F2 A1 T2 zf lpW h1W f3
      have c0 : wc.cell? ⟨pb, 0, none⟩ = some (.string s) := cell_of_heap p2.blk
      have c1 : wc.cell? ⟨pb, 1, none⟩ = some (.int .u8 st.next.kind) := cell_of_heap p2.blk
      have c2 : wc.cell? ⟨pb, 2, none⟩ = some (.string st.next.text) := cell_of_heap p2.blk
      have c3 : wc.cell? ⟨pb, 3, none⟩ = some (.int .i64 st.next.at_) := cell_of_heap p2.blk
      have c4 : wc.cell? ⟨pb, 4, none⟩ = some (.int .i64 st.i) := cell_of_heap p2.blk
      have zp : ∀ o, wc.frozen? ⟨pb, o, none⟩ = false := fun o => frozen_of_heap p2.blk
      have r0 : wc.cell? ⟨R, 0, none⟩ = some (.int .u8 0) := cell_of_heap q0
      have r1 : wc.cell? ⟨R, 1, none⟩ = some (.string ⟨#[]⟩) := cell_of_heap q0
      have r2 : wc.cell? ⟨R, 2, none⟩ = some (.int .i64 0) := cell_of_heap q0
      have zr : ∀ o, wc.frozen? ⟨R, o, none⟩ = false := fun o => frozen_of_heap q0
      have t0 : wc.cell? ⟨R + 1, 0, none⟩ = some (.int .u8 st.next.kind) := cell_of_heap q1
      have t1 : wc.cell? ⟨R + 1, 1, none⟩ = some (.string st.next.text) := cell_of_heap q1
      have t2 : wc.cell? ⟨R + 1, 2, none⟩ = some (.int .i64 st.next.at_) := cell_of_heap q1
      have lpW : pb < wc.heap.size := heap_lt p2.blk
      have lrW : R < wc.heap.size := heap_lt q0
      have ltW : R + 1 < wc.heap.size := heap_lt q1
      have P2 := hide p2
      have Q0 := hide q0
      have Q1 := hide q1
      have F4 := hide f4
      clear p2 q0 q1 f4
      go_wp2_with fail
      go_region_with (go_at_call 66; refine (cut_any _ _ _ (by omega) (by omega)).mono ?_; rintro e w' ⟨rfl, hb'⟩; have e1 : w'.cell? ⟨pb, 1, none⟩ = some (.int .u8 st.next.kind) := cell_later hb' c1; have e2 : w'.cell? ⟨pb, 2, none⟩ = some (.string st.next.text) := cell_later hb' c2; have e3 : w'.cell? ⟨pb, 3, none⟩ = some (.int .i64 st.next.at_) := cell_later hb' c3; have e4 : w'.cell? ⟨pb, 4, none⟩ = some (.int .i64 st.i) := cell_later hb' c4; have y1 : ∀ o, w'.frozen? ⟨pb, o, none⟩ = false := (fun o => (hb'.frozen (p := ⟨pb, o, none⟩) lpW).trans (zp o)))
      all_goals
        obtain ⟨W5, hW5, p5, f5⟩ : ∃ W5, tookW w' pb (cutP s st.i).1 (cutP s st.i).2 = W5 ∧ PAt W5 pb s { st with taken := st.taken ++ [st.next], lines := st.lines ++ [isSemi st.next], next := (cutP s st.i).1, i := (cutP s st.i).2 } tv1 lv1 ∧ Fr (POwn pb tv1 lv1) wc (POwn pb tv1 lv1) W5 := ⟨_, rfl, take8 (unhide P2) ⟨hb'.os, hb'.tape, hb'.output, hb'.size, hb'.block⟩ _ _⟩
        unfold tookW at hW5
        rw [hW5]
        have q0 := (f5.block R lrW (fun h => (unhide A2 _ h).1 rfl)).trans (unhide Q0)
        have q1 := (f5.block (R + 1) ltW (fun h => (unhide A2 _ h).2 rfl)).trans (unhide Q1)
        have f6 := (unhide F4).trans f5
        clear hW5 e1 e2 e3 e4 y1 hb' f5 c0 c1 c2 c3 c4 zp r0 r1 r2 zr t0 t1 t2 P2 Q0 Q1 F4 lpW lrW ltW
        clear w'
        have r0 : W5.cell? ⟨R, 0, none⟩ = some (.int .u8 0) := cell_of_heap q0
        have r1 : W5.cell? ⟨R, 1, none⟩ = some (.string ⟨#[]⟩) := cell_of_heap q0
        have r2 : W5.cell? ⟨R, 2, none⟩ = some (.int .i64 0) := cell_of_heap q0
        have zr : ∀ o, W5.frozen? ⟨R, o, none⟩ = false := fun o => frozen_of_heap q0
        have t0 : W5.cell? ⟨R + 1, 0, none⟩ = some (.int .u8 st.next.kind) := cell_of_heap q1
        have t1 : W5.cell? ⟨R + 1, 1, none⟩ = some (.string st.next.text) := cell_of_heap q1
        have t2 : W5.cell? ⟨R + 1, 2, none⟩ = some (.int .i64 st.next.at_) := cell_of_heap q1
        have P5 := hide p5
        have F6 := hide f6
        clear p5 f6 q0 q1
        go_wp2_with fail
        refine bodyPost_ret (v := tokV st.next) (by simp [results, Tryz.results118, go_sem, r0, r1, r2]) rfl ⟨rfl, tv1, lv1, ?_, ?_⟩
        · exact (((unhide P5).other (fun h => (unhide A2 _ h).1 rfl) _ _).other (fun h => (unhide A2 _ h).1 rfl) _ _).other (fun h => (unhide A2 _ h).1 rfl) _ _
        · exact (((unhide F6).setCell (Or.inr (unhide HRW)) _).setCell (Or.inr (unhide HRW)) _).setCell (Or.inr (unhide HRW)) _
end Go.Proofs.YtgdeeodifnegiaaGreatDoor.rf
