/- The program's reader: strings.Builder's WriteString within the reader's block. -/
import Derived.Test.YtgdeeodifnegiaaGreatDoorRdrB
namespace Go.Proofs.YtgdeeodifnegiaaGreatDoor
open Go.RowKit

theorem byteCells_str (l : List UInt8) (s : ByteArray) : byteCells l ++ Lib.strCells s = byteCells (l ++ s.data.toList) := by
  simp [byteCells, Lib.strCells]
def wroteR (st : RS) (s : ByteArray) : RS := { st with page := st.page ++ s.data.toList }

theorem RAt.wrote {w w2 : World} {pb : Nat} {ts : List TokP} {st : RS} {D : Nat → Prop} {tb tc : Nat} {dv bv v' : Value} {s : ByteArray} (h : RAt w pb ts st D tb tc dv (ptr4 pb 4) bv)
    (hown : w2.ownsRow 0 5 1 v' (st.page.length + s.size) (byteCells st.page ++ Lib.strCells s)) (hg : w.grownBy w2 bv.ownBlock) (hat : v'.ownBlock = bv.ownBlock ∨ v'.ownBlock = some w.heap.size) :
    RAt (w2.setCell ⟨pb, 5, none⟩ v') pb ts (wroteR st s) D tb tc dv (ptr4 pb 4) v' ∧ Fr (ROwn pb tb dv bv) w (ROwn pb tb dv v') (w2.setCell ⟨pb, 5, none⟩ v') := by
  have lp : pb < w.heap.size := heap_lt h.blk
  have lt : tb < w.heap.size := h.lt (Or.inr (Or.inl rfl))
  have hne : ∀ k, k < w.heap.size → bv.ownBlock ≠ some k → v'.ownBlock ≠ some k := fun k hk hb e => by
    rcases hat with h1 | h1
    · exact hb (h1 ▸ e)
    · rw [h1] at e; cases e; omega
  have hs : w.heap.size ≤ (w2.setCell ⟨pb, 5, none⟩ v').heap.size := by have := hg.size; simp [World.setCell]; omega
  have hold : ∀ k, k < w.heap.size → k ≠ pb → bv.ownBlock ≠ some k → (w2.setCell ⟨pb, 5, none⟩ v').heap[k]? = w.heap[k]? := fun k hk hp hb => by
    rw [heap_set_other hp, hg.block k hk (fun e => hb e.symm)]
  have hdn : ∀ k, dv.ownBlock = some k → k < w.heap.size ∧ k ≠ pb ∧ bv.ownBlock ≠ some k := fun k hk =>
    ⟨h.lt (Or.inr (Or.inr (Or.inr hk))), fun e => h.ne4 (by rw [hk, e]), fun e => by
      rcases h.ne6 with h6 | h6
      · rw [h6] at e; cases e
      · exact h6 (by rw [e, hk])⟩
  have hro : ∀ k, k < w.heap.size → ¬ ROwn pb tb dv bv k → ¬ ROwn pb tb dv v' k := fun k hk hn ho => by
    rcases ho with h1 | h1 | h1 | h1
    · exact hn (Or.inl h1)
    · exact hn (Or.inr (Or.inl h1))
    · exact hne k hk (fun e => hn (Or.inr (Or.inr (Or.inl e)))) h1
    · exact hn (Or.inr (Or.inr (Or.inr h1)))
  refine ⟨⟨?_, ?_, ?_, h.used, ?_, h.ne1, hne pb lp h.ne2, hne tb lt h.ne3, h.ne4, h.ne5, ?_, ?_⟩, ?_⟩
  · rw [heap_set ((hg.block pb lp (fun e => h.ne2 e.symm)).trans h.blk)]; rfl
  · exact owns_of h.toks (fun k e => by
      obtain rfl : tb = k := by simpa [Value.ownBlock] using e
      exact hold tb lt h.ne1 h.ne3)
  · rw [byteCells_str] at hown
    have e : (wroteR st s).page.length = st.page.length + s.size := by show (st.page ++ s.data.toList).length = _; rw [List.length_append, Array.length_toList]; rfl
    rw [e]
    exact owns_of hown (fun k e => heap_set_other (fun e2 => hne pb lp h.ne2 (by rw [e, e2])))
  · exact h.defs.mono hs (fun k e => hold k (hdn k e).1 (hdn k e).2.1 (hdn k e).2.2) (fun k hk ha => ⟨hold k hk (fun e => ha.1 (Or.inl e)) (fun e => ha.1 (Or.inr (Or.inr (Or.inl e)))), hro k hk ha.1, ha.2⟩)
  · cases hd : dv.ownBlock with
    | none =>
      cases hv : v'.ownBlock with
      | none => exact Or.inl rfl
      | some k => exact Or.inr (by simp)
    | some k =>
      right; exact hne k (hdn k hd).1 (hdn k hd).2.2
  · exact fun k hk => ⟨Nat.lt_of_lt_of_le (h.free k hk).1 hs, hro k (h.free k hk).1 (h.free k hk).2⟩
  · have f1 := ((Fr.refl (ROwn pb tb dv bv) w).grown hg (fun k e => Or.inl (Or.inr (Or.inr (Or.inl e))))).setCell (p := ⟨pb, 5, none⟩) (Or.inl (Or.inl rfl)) v'
    refine f1.reown (fun k ho => ?_)
    rcases ho with h1 | h1 | h1 | h1
    · exact Or.inl (Or.inl h1)
    · exact Or.inl (Or.inr (Or.inl h1))
    · rcases hat with h2 | h2
      · exact Or.inl (Or.inr (Or.inr (Or.inl (h2 ▸ h1))))
      · rw [h2] at h1; cases h1; exact Or.inr (Nat.le_refl _)
    · exact Or.inl (Or.inr (Or.inr (Or.inr h1)))

/-- the builder's address is laid -/
theorem RAt.useIt {w : World} {pb : Nat} {ts : List TokP} {st : RS} {D : Nat → Prop} {tb tc : Nat} {dv av bv : Value} (h : RAt w pb ts st D tb tc dv av bv) :
    RAt (w.setCell ⟨pb, 4, none⟩ (ptr4 pb 4)) pb ts st D tb tc dv (ptr4 pb 4) bv := by
  have h' : RAt w pb ts st D tb tc dv av bv := h
  have hs : w.heap.size ≤ (w.setCell ⟨pb, 4, none⟩ (ptr4 pb 4)).heap.size := by simp [World.setCell]
  have hk : ∀ k, k ≠ pb → (w.setCell ⟨pb, 4, none⟩ (ptr4 pb 4)).heap[k]? = w.heap[k]? := fun k e => heap_set_other e
  refine ⟨by rw [heap_set h.blk]; rfl, owns_of h.toks (fun k e => hk k ?_), owns_of h.page (fun k e => hk k (fun e2 => h.ne2 (by rw [e, e2]))), Or.inr rfl,
    h.defs.mono hs (fun k e => hk k (fun e2 => h.ne4 (by rw [e, e2]))) (fun k _ ha => ⟨hk k (fun e => ha.1 (Or.inl e)), ha⟩), h.ne1, h.ne2, h.ne3, h.ne4, h.ne5, h.ne6, fun k hd => ⟨Nat.lt_of_lt_of_le (h.free k hd).1 hs, (h.free k hd).2⟩⟩
  obtain rfl : tb = k := by simpa [Value.ownBlock] using e
  exact h.ne1

theorem owns_form {w : World} {base : Nat} {e : TypeId} {size : Nat} {v : Value} {n : Nat} {xs : List Value} (h : w.ownsRow base e size v n xs) : ∃ a n c, v = .slice a n c := by
  rcases h.2 with ⟨h1, _⟩ | ⟨g, cap, cur, h1, _⟩
  · exact ⟨_, _, _, h1⟩
  · exact ⟨_, _, _, h1⟩
theorem RAt.grown5 {w w2 : World} {pb : Nat} {ts : List TokP} {st : RS} {D : Nat → Prop} {tb tc : Nat} {dv av bv : Value} (h : RAt w pb ts st D tb tc dv av bv) (hg : w.grownBy w2 bv.ownBlock) :
    w2.cell? ⟨pb, 5, none⟩ = some bv ∧ w2.frozen? ⟨pb, 5, none⟩ = false := by
  have hb := (hg.block pb (heap_lt h.blk) (fun e => h.ne2 e.symm)).trans h.blk
  exact ⟨cell_of_heap hb, frozen_of_heap hb⟩
set_option maxRecDepth 100000 in
set_option maxHeartbeats 1000000 in
theorem write_used {w : World} {pb : Nat} {ts : List TokP} {st : RS} {D : Nat → Prop} {tb tc : Nat} {dv bv : Value} (h : RAt w pb ts st D tb tc dv (ptr4 pb 4) bv) (s : ByteArray) (hs : st.page.length + s.size ≤ 1000000000)
    (W0 : World) (hcc : Calls Tryz.prog 331 #[ptr4 pb 4] W0 fun e w' => e = .returned (.tuple #[]) ∧ w' = w) :
    Calls Tryz.prog 299 #[ptr4 pb 4, .string s] W0 fun e w' => e = .returned (.tuple #[.int .i64 (s.size : Int), .nilIface]) ∧ ∃ v', RAt w' pb ts (wroteR st s) D tb tc dv (ptr4 pb 4) v' ∧ Fr (ROwn pb tb dv bv) w (ROwn pb tb dv v') w' := by
  obtain ⟨i0, hi, hz0, hz1, hz2⟩ := info_parts Tryz.infoByte
  have c5 : w.cell? ⟨pb, 5, none⟩ = some bv := cell_of_heap h.blk
  have HH := hide h
  have HCC := hide hcc
  have hsz : s.size ≤ 1000000000 := by omega
  obtain ⟨ba, bn, bc, hbv⟩ := owns_form h.page
  subst hbv
  clear h hcc
  go_enter Tryz.func299, Tryz.ntmps299
  go_wp2_with (first
    | (go_at_call 331; refine (unhide HCC).mono ?_; rintro e w' ⟨rfl, rfl⟩)
    | (at_builtin; refine wpList_app_str rfl _ _ 63 9 rfl 5 i0 Tryz.underlying63 Tryz.underlying9 hi hz0 hz1 hz2 _ _ _ rfl (unhide HH).page s rfl hs ?_; intro v' w2 hown' hgrow hat; obtain ⟨a', n', c', hv'⟩ := owns_form hown'; obtain ⟨d5, z5⟩ := (unhide HH).grown5 hgrow; have HR := hide ((unhide HH).wrote hown' hgrow hat); clear hown' hgrow hat; subst hv'))
  go_ret2
  exact ⟨rfl, _, unhide HR⟩

theorem write_any {w : World} {pb : Nat} {ts : List TokP} {st : RS} {D O : Nat → Prop} (h : RA w pb ts st D O) (s : ByteArray) (hs : st.page.length + s.size ≤ 1000000000) :
    Calls Tryz.prog 299 #[ptr4 pb 4, .string s] w fun e w' => e = .returned (.tuple #[.int .i64 (s.size : Int), .nilIface]) ∧ ∃ O', RA w' pb ts (wroteR st s) D O' ∧ Fr O w O' w' := by
  obtain ⟨tb, tc, dv, av, bv, h, rfl⟩ := h
  rcases h.used with rfl | rfl
  · refine (write_used h.useIt s hs w (copyCheck_new pb w (cell_of_heap h.blk) (by simp [World.shape?, h.blk]; rfl) (frozen_of_heap h.blk))).mono ?_
    rintro e w' ⟨rfl, v', h1, h2⟩
    exact ⟨rfl, _, ⟨tb, tc, dv, _, v', h1, rfl⟩, (((Fr.refl _ _).setCell (Or.inl (Or.inl rfl)) _)).trans h2⟩
  · refine (write_used h s hs w (copyCheck_used pb w (cell_of_heap h.blk))).mono ?_
    rintro e w' ⟨rfl, v', h1, h2⟩
    exact ⟨rfl, _, ⟨tb, tc, dv, _, v', h1, rfl⟩, h2⟩
theorem RA.cells {w : World} {pb : Nat} {ts : List TokP} {st : RS} {D O : Nat → Prop} (h : RA w pb ts st D O) :
    w.cell? ⟨pb, 6, none⟩ = some (.string st.gap) ∧ w.frozen? ⟨pb, 6, none⟩ = false ∧ w.cell? ⟨pb, 2, none⟩ = some (.int .i64 st.depth) ∧ w.frozen? ⟨pb, 2, none⟩ = false ∧ w.cell? ⟨pb, 1, none⟩ = some (.int .i64 (st.next : Int)) ∧ w.frozen? ⟨pb, 1, none⟩ = false := by
  obtain ⟨tb, tc, dv, av, bv, h, rfl⟩ := h
  exact ⟨cell_of_heap h.blk, frozen_of_heap h.blk, cell_of_heap h.blk, frozen_of_heap h.blk, cell_of_heap h.blk, frozen_of_heap h.blk⟩
theorem RA.put {w : World} {pb o : Nat} {v : Value} {ts : List TokP} {st st' : RS} {D O : Nat → Prop} (h : RA w pb ts st D O) (hp : st'.page = st.page) (hd : st'.defs = st.defs)
    (hc : ∀ tv dv av bv, (rdCells tv dv av bv st).setIfInBounds o v = rdCells tv dv av bv st') : RA (w.setCell ⟨pb, o, none⟩ v) pb ts st' D O := by
  obtain ⟨tb, tc, dv, av, bv, h, rfl⟩ := h
  refine ⟨tb, tc, dv, av, bv, h.set (by simp [World.setCell]) ?_ hp hd (fun k _ hk _ => heap_set_other hk), rfl⟩
  rw [heap_set h.blk, hc]
theorem RA.putGap {w : World} {pb : Nat} {ts : List TokP} {st : RS} {D O : Nat → Prop} (h : RA w pb ts st D O) (g : ByteArray) : RA (w.setCell ⟨pb, 6, none⟩ (.string g)) pb ts { st with gap := g } D O := h.put rfl rfl (fun _ _ _ _ => rfl)
theorem RA.putDepth {w : World} {pb : Nat} {ts : List TokP} {st : RS} {D O : Nat → Prop} (h : RA w pb ts st D O) (g : Int) : RA (w.setCell ⟨pb, 2, none⟩ (.int .i64 g)) pb ts { st with depth := g } D O := h.put rfl rfl (fun _ _ _ _ => rfl)
theorem RA.putNext {w : World} {pb : Nat} {ts : List TokP} {st : RS} {D O : Nat → Prop} (h : RA w pb ts st D O) (g : Nat) : RA (w.setCell ⟨pb, 1, none⟩ (.int .i64 (g : Int))) pb ts { st with next := g } D O := h.put rfl rfl (fun _ _ _ _ => rfl)

set_option maxRecDepth 100000 in
set_option maxHeartbeats 1000000 in
theorem endLine_any {w : World} {pb : Nat} {ts : List TokP} {st : RS} {D O : Nat → Prop} (h : RA w pb ts st D O) :
    Calls Tryz.prog 300 #[ptr4 pb 4] w fun e w' => e = .returned (.tuple #[]) ∧ RA w' pb ts (endLineR st) D O ∧ Fr O w O w' := by
  obtain ⟨c6, z6, _⟩ := h.cells
  have HH := hide h
  clear h
  go_enter Tryz.func300, Tryz.ntmps300
  go_wp2_with fail
  go_end0
  exact ⟨rfl, (unhide HH).putGap _, (Fr.refl _ _).setCell (Or.inl (unhide HH).own) _⟩
end Go.Proofs.YtgdeeodifnegiaaGreatDoor

namespace Go.Proofs.YtgdeeodifnegiaaGreatDoor
open Go.RowKit

abbrev tokV (t : TokP) : Value := .agg #[.int .i64 t.kind, .int .i64 t.at_, .string t.text, .int .i64 t.number, .int .i64 t.addr, .int .i64 t.len]
abbrev tokBlk (t : TokP) : Obj := .cells #[.int .i64 t.kind, .int .i64 t.at_, .string t.text, .int .i64 t.number, .int .i64 t.addr, .int .i64 t.len] 216
theorem heap_new (w : World) (c : Array Value) (T : TypeId) : (w.alloc (.cells c T)).heap[w.heap.size]? = some (.cells c T (0, 0)) := heap_alloc_new w _
theorem RA.newTok {w w1 : World} {pb : Nat} {ts : List TokP} {st : RS} {D O O1 : Nat → Prop} (h : RA w pb ts st D O) (t : TokP) (hf : Fr O (w.alloc (tokBlk t)) O1 w1) :
    w1.heap[w.heap.size]? = some (tokBlk t) ∧ Fr O w O1 w1 := by
  refine ⟨(hf.block w.heap.size (by simp) (fun ho => by have := h.lt ho; omega)).trans (heap_new w _ _), ((Fr.refl O w).alloc _).trans hf⟩

set_option maxRecDepth 100000 in
set_option maxHeartbeats 2000000 in
theorem add_semi {w : World} {pb : Nat} {ts : List TokP} {st : RS} {D O : Nat → Prop} (h : RA w pb ts st D O) (t : TokP) (ht : t.text.size ≤ 600) (hp : st.page.length ≤ 1000000) (h27 : t.kind = 27) :
    Calls Tryz.prog 259 #[ptr4 pb 4, tokV t] w fun e w' => e = .returned (.tuple #[]) ∧ ∃ O', RA w' pb ts (addR st t) D O' ∧ Fr O w O' w' := by
  have c0 : (w.alloc (tokBlk t)).cell? ⟨w.heap.size, 2, none⟩ = some (.string t.text) := cell_of_heap (heap_new w _ _)
  have HH := hide h
  have HW := hide (write_any (h.alloc (tokBlk t)).drew t.text (by omega))
  have hk : (t.kind != 27) = false := by rw [h27]; rfl
  have EQ := hide (show addR st t = endLineR { wroteR st t.text with gap := ⟨#[32]⟩ } by simp [addR, h27, endLineR, wroteR])
  have HK := hide h27
  clear h h27 hp ht
  go_enter Tryz.func259, Tryz.ntmps259
  go_wp2_with fail
  go_region_with (go_at_call 299; refine (unhide HW).mono ?_; rintro e w1 ⟨rfl, O1, hr1, hf1⟩)
  all_goals
    have f0 := (unhide HH).newTok t (((Fr.refl _ _).drew).trans hf1)
    have k0 : w1.cell? ⟨w.heap.size, 0, none⟩ = some (.int .i64 27) := by rw [← unhide HK]; exact cell_of_heap f0.1
    obtain ⟨c6, z6, _⟩ := hr1.cells
    have HR1 := hide hr1
    have HF0 := hide f0.2
    clear hr1 hf1 f0
    go_wp2_with (go_at_call 300; refine (endLine_any ((unhide HR1).putGap _)).mono ?_; rintro e w2 ⟨rfl, hr2, hf2⟩)
    go_end0
    exact ⟨rfl, O1, by rw [unhide EQ]; exact hr2, ((unhide HF0).setCell (Or.inl (unhide HR1).own) _).trans hf2⟩
set_option maxRecDepth 100000 in
set_option maxHeartbeats 2000000 in
theorem add_comma {w : World} {pb : Nat} {ts : List TokP} {st : RS} {D O : Nat → Prop} (h : RA w pb ts st D O) (t : TokP) (ht : t.text.size ≤ 600) (hp : st.page.length ≤ 1000000) (h27 : t.kind = 28) :
    Calls Tryz.prog 259 #[ptr4 pb 4, tokV t] w fun e w' => e = .returned (.tuple #[]) ∧ ∃ O', RA w' pb ts (addR st t) D O' ∧ Fr O w O' w' := by
  have c0 : (w.alloc (tokBlk t)).cell? ⟨w.heap.size, 2, none⟩ = some (.string t.text) := cell_of_heap (heap_new w _ _)
  have HH := hide h
  have HW := hide (write_any (h.alloc (tokBlk t)).drew t.text (by omega))
  have hk : (t.kind != 27) = true := by rw [h27]; rfl
  have hk2 : (t.kind != 28) = false := by rw [h27]; rfl
  have EQ := hide (show addR st t = { wroteR st t.text with gap := ⟨#[32]⟩ } by simp [addR, h27, gapS, wroteR])
  have HK := hide h27
  clear h h27 hp ht
  go_enter Tryz.func259, Tryz.ntmps259
  go_wp2_with fail
  go_region_with (go_at_call 299; refine (unhide HW).mono ?_; rintro e w1 ⟨rfl, O1, hr1, hf1⟩)
  all_goals
    have f0 := (unhide HH).newTok t (((Fr.refl _ _).drew).trans hf1)
    have k0 : w1.cell? ⟨w.heap.size, 0, none⟩ = some (.int .i64 28) := by rw [← unhide HK]; exact cell_of_heap f0.1
    obtain ⟨c6, z6, _⟩ := hr1.cells
    have HR1 := hide hr1
    have HF0 := hide f0.2
    clear hr1 hf1 f0
    go_wp2_with fail
    go_end0
    exact ⟨rfl, O1, by rw [unhide EQ]; exact (unhide HR1).putGap _, ((unhide HF0).setCell (Or.inl (unhide HR1).own) _)⟩

set_option maxRecDepth 100000 in
set_option maxHeartbeats 2000000 in
theorem add_else {w : World} {pb : Nat} {ts : List TokP} {st : RS} {D O : Nat → Prop} (h : RA w pb ts st D O) (t : TokP) (ht : t.text.size ≤ 600) (hg : st.gap.size ≤ 1) (hp : st.page.length ≤ 1000000) (h27 : t.kind ≠ 27) (h28 : t.kind ≠ 28) :
    Calls Tryz.prog 259 #[ptr4 pb 4, tokV t] w fun e w' => e = .returned (.tuple #[]) ∧ ∃ O', RA w' pb ts (addR st t) D O' ∧ Fr O w O' w' := by
  have c0 : (w.alloc (tokBlk t)).cell? ⟨w.heap.size, 2, none⟩ = some (.string t.text) := cell_of_heap (heap_new w _ _)
  have c6 : (w.alloc (tokBlk t)).cell? ⟨pb, 6, none⟩ = some (.string st.gap) := (h.alloc (tokBlk t)).cells.1
  have HH := hide h
  have HW := hide (write_any (h.alloc (tokBlk t)).drew st.gap (by omega))
  have hk : (t.kind != 27) = true := by simpa using h27
  have hk2 : (t.kind != 28) = true := by simpa using h28
  have hk3 : (t.kind == 27) = false := by simpa using h27
  have EQ := hide (show addR st t = { wroteR (wroteR st st.gap) t.text with gap := ⟨#[32]⟩ } by simp [addR, h27, h28, gapS, wroteR])
  have HLn : Hid ((wroteR st st.gap).page.length + t.text.size ≤ 1000000000) := by show (st.page ++ st.gap.data.toList).length + _ ≤ _; rw [List.length_append, Array.length_toList]; have : st.gap.data.size ≤ 1 := hg; omega
  clear h h27 h28 hp ht hg
  go_enter Tryz.func259, Tryz.ntmps259
  go_wp2_with fail
  go_region_with (go_at_call 299; refine (unhide HW).mono ?_; rintro e w1 ⟨rfl, O1, hr1, hf1⟩)
  all_goals
    have f0 := (unhide HH).newTok t (((Fr.refl _ _).drew).trans hf1)
    have k0 : w1.cell? ⟨w.heap.size, 0, none⟩ = some (.int .i64 t.kind) := cell_of_heap f0.1
    have k2 : w1.cell? ⟨w.heap.size, 2, none⟩ = some (.string t.text) := cell_of_heap f0.1
    have HB1 := hide f0.1
    have hW1 : Hid (¬ O1 w.heap.size) := fun ho => by
      rcases f0.2.own _ ho with h1 | h1
      · have := (unhide HH).lt h1; omega
      · rcases hf1.own _ ho with h2 | h2
        · have := (unhide HH).lt h2; omega
        · have h3 : ((w.alloc (tokBlk t)).drew).heap.size = w.heap.size + 1 := by simp
          omega
    have HR1 := hide hr1
    have HF0 := hide f0.2
    have HW1 := hide (write_any hr1.drew t.text (unhide HLn))
    clear hr1 hf1 f0
    go_wp2_with fail
    go_region_with (go_at_call 299; refine (unhide HW1).mono ?_; rintro e w2 ⟨rfl, O2, hr2, hf2⟩)
    all_goals
      have k0 : w2.cell? ⟨w.heap.size, 0, none⟩ = some (.int .i64 t.kind) := cell_of_heap ((hf2.block w.heap.size (heap_lt (unhide HB1)) (unhide hW1)).trans (unhide HB1))
      obtain ⟨c6', z6, _⟩ := hr2.cells
      have HR2 := hide hr2
      have HF2 := hide ((unhide HF0).drew.trans hf2)
      clear hr2 hf2
      go_wp2_with fail
      go_end0
      exact ⟨rfl, O2, by rw [unhide EQ]; exact (unhide HR2).putGap _, ((unhide HF2).setCell (Or.inl (unhide HR2).own) _)⟩
theorem add_any {w : World} {pb : Nat} {ts : List TokP} {st : RS} {D O : Nat → Prop} (h : RA w pb ts st D O) (t : TokP) (ht : t.text.size ≤ 600) (hg : st.gap.size ≤ 1) (hp : st.page.length ≤ 1000000) :
    Calls Tryz.prog 259 #[ptr4 pb 4, tokV t] w fun e w' => e = .returned (.tuple #[]) ∧ ∃ O', RA w' pb ts (addR st t) D O' ∧ Fr O w O' w' := by
  by_cases h27 : t.kind = 27
  · exact add_semi h t ht hp h27
  · by_cases h28 : t.kind = 28
    · exact add_comma h t ht hp h28
    · exact add_else h t ht hg hp h27 h28
end Go.Proofs.YtgdeeodifnegiaaGreatDoor
