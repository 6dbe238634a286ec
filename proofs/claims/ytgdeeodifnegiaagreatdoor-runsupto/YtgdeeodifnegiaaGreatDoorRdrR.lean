/- Read: a policy's text, read (package policy), where it begins with no definition and its rows of digits are numbers. -/
import Derived.Test.YtgdeeodifnegiaaGreatDoorRdrO
import Derived.Test.YtgdeeodifnegiaaGreatDoorTokD
import Derived.RangeFuncBox
import Derived.Maps.OwnIn
namespace Go.Proofs.YtgdeeodifnegiaaGreatDoor
open Go.RowKit Go.Shelf
attribute [local go_sem] Oper.semAt_some

set_option maxRecDepth 100000 in
set_option maxHeartbeats 1000000 in
theorem All_call (s : ByteArray) (w : World) :
    Calls Tryz.prog 109 #[.string s] w fun e w' => e = .returned (.func (.func 164) #[] #[ptr4 w.heap.size 0]) ∧ w' = w.alloc (box1 (.string s) 9) := by
  have hmf : ∀ (fn : Fn) (first cap : Array Value) (w : World), (Instr.makeFunc fn first cap).run Tryz.prog w = .ok (.func fn first cap) w := fun _ _ _ _ => rfl
  go_enter Tryz.func109, Tryz.ntmps109
  go_wp2_with fail
  go_ret
  exact ⟨rfl, rfl⟩
abbrev polBlk : Obj := .cells #[.string ⟨#[]⟩, .slice none 0 0] 109
abbrev rdBlk (v : Value) : Obj := .cells (rdCells v (.slice none 0 0) (.pointer none) (.slice none 0 0) rs0) 210
theorem KpR.trans {pb : Nat} {A B C : World} (h : KpR pb A B) (g : KpR pb B C) : KpR pb A C := by
  refine ⟨Nat.le_trans h.size g.size, fun k c T z hA hp hr => g.keep k c T z (h.keep k c T z hA hp hr) hp (fun e => ?_), ?_⟩
  · rcases h.row with h1 | ⟨q, h1, h2, _⟩
    · exact hr (h1 ▸ e)
    · rw [h1] at e; cases e
      have := heap_lt hA; omega
  · rcases g.row with h1 | ⟨q, h1, h2, h3⟩
    · rcases h.row with h4 | ⟨q, h4, h5, h6⟩
      · exact Or.inl (h1.trans h4)
      · exact Or.inr ⟨q, h1.trans h4, h5, Nat.lt_of_lt_of_le h6 g.size⟩
    · exact Or.inr ⟨q, h1, Nat.le_trans h.size h2, h3⟩
theorem rowOf_heap {pb : Nat} {A B : World} (h : B.heap[pb]? = A.heap[pb]?) : rowOf pb B = rowOf pb A := by
  unfold rowOf World.cell?; rw [h]
theorem KpR.putObj {pb : Nat} {W : World} {l : Nat} {o o' : Obj} (hp : pb ≠ l) (hl : W.heap[l]? = some o) (ho : o.isCells = false) : KpR pb W (W.putObj l o') := by
  refine ⟨by simp, fun k c T z hk _ _ => (World.putObj_heap_other (fun e => by subst e; rw [hk] at hl; cases hl; cases ho)).trans hk, Or.inl (rowOf_heap (World.putObj_heap_other hp))⟩
theorem KpR.of_below {pb : Nat} {A B : World} (hp : pb < A.heap.size) (h : Below A.heap.size A B) : KpR pb A B :=
  ⟨h.size, fun k _ _ _ hk _ _ => (h.block k (heap_lt hk)).trans hk, Or.inl (rowOf_below hp h)⟩
/-- the reader while it takes its tokens -/
def RdI (w : World) (pb n0 : Nat) (pre : List TokP) (W : World) : Prop :=
  (∃ v, W.heap[pb]? = some (rdBlk v) ∧ W.ownsRow 0 216 6 v pre.length (tokCells pre) ∧ ∀ k, v.ownBlock = some k → n0 ≤ k) ∧ W.heap[w.heap.size]? = some polBlk ∧ Below w.heap.size w W ∧ n0 ≤ W.heap.size
theorem RdI.own (w : World) (pb n0 : Nat) (hw : w.heap.size ≤ n0) : OwnFrom n0 (RdI w pb n0) := by
  rintro pre W W' row ⟨⟨v, hb, ho, hn⟩, hR, hB, hz⟩ hg hr
  have hk : ∀ (k : Nat) (c : Array Value) (T : TypeId) (z : Nat × Nat), W.heap[k]? = some (.cells c T z) → W'.heap[k]? = some (.cells c T z) := fun k c T z h => (hg.block k (heap_lt h) (fun e => by
    obtain ⟨_, o, ho, hc⟩ := hr k e.symm
    rw [h] at ho; cases ho; cases hc)).trans h
  refine ⟨⟨v, hk _ _ _ _ hb, ?_, hn⟩, hk _ _ _ _ hR, hB.grown hg hB.size (fun k e => Nat.le_trans hw (hr k e).1), Nat.le_trans hz hg.size⟩
  refine owns_of ho (fun k e => ?_)
  rcases ho.2 with ⟨h1, _⟩ | ⟨g, cap, cur, h1, _, hg2, _⟩
  · rw [h1] at e; cases e
  · rw [h1] at e
    obtain rfl : g = k := by simpa [Value.ownBlock] using e
    rw [hg2]; exact hk _ _ _ _ hg2
theorem rowOf_rd {W : World} {pb : Nat} {v : Value} (h : W.heap[pb]? = some (rdBlk v)) : rowOf pb W = v.ownBlock := by
  have : W.cell? ⟨pb, 0, none⟩ = some v := cell_of_heap h
  unfold rowOf; rw [this]
theorem tokCells_snoc (l : List TokP) (t : TokP) : tokCells (l ++ [t]) = tokCells l ++ [.int .i64 t.kind, .int .i64 t.at_, .string t.text, .int .i64 t.number, .int .i64 t.addr, .int .i64 t.len] := by simp [tokCells]
/-- what 'r.tokens = append(r.tokens, t)' leaves -/
theorem RdI.snoc {w W w1 : World} {pb n0 : Nat} {pre : List TokP} {v v' : Value} {x : TokP} (hB : W.heap[pb]? = some (rdBlk v)) (ho : W.ownsRow 0 216 6 v pre.length (tokCells pre)) (hn : ∀ k, v.ownBlock = some k → n0 ≤ k) (hR : W.heap[w.heap.size]? = some polBlk) (hBw : Below w.heap.size w W)
    (hpn : pb < n0) (hRp : w.heap.size < pb) (hnW : n0 ≤ W.heap.size)
    (hown : w1.ownsRow 0 216 6 v' (pre.length + 1) (tokCells pre ++ [.int .i64 x.kind, .int .i64 x.at_, .string x.text, .int .i64 x.number, .int .i64 x.addr, .int .i64 x.len])) (hg : (W.alloc (tokBlk x)).grownBy w1 v.ownBlock) (hat : v'.ownBlock = v.ownBlock ∨ v'.ownBlock = some (W.alloc (tokBlk x)).heap.size) :
    KeepsFrom n0 W (w1.setCell ⟨pb, 0, none⟩ v') ∧ KpR pb W (w1.setCell ⟨pb, 0, none⟩ v') ∧ RdI w pb n0 (pre ++ [x]) (w1.setCell ⟨pb, 0, none⟩ v') := by
  have hold : ∀ k, k < W.heap.size → k ≠ pb → v.ownBlock ≠ some k → (w1.setCell ⟨pb, 0, none⟩ v').heap[k]? = W.heap[k]? := fun k hk hp hv => by
    rw [heap_set_other hp, hg.block k (by simp; omega) (fun e => hv e.symm)]; exact Below.heap_alloc _ _ _ hk
  have hsz : W.heap.size + 1 ≤ (w1.setCell ⟨pb, 0, none⟩ v').heap.size := by have := hg.size; simp [World.setCell] at this ⊢; omega
  have hvb : ∀ k, v.ownBlock = some k → ∃ cur, W.heap[k]? = some (.cells cur 216 (0, 0)) := fun k e => by
    rcases ho.2 with ⟨h1, _⟩ | ⟨g, cap, cur, h1, _, hg2, _⟩
    · rw [h1] at e; cases e
    · rw [h1] at e
      obtain rfl : g = k := by simpa [Value.ownBlock] using e
      exact ⟨cur, hg2⟩
  have hvp : ∀ k, k < n0 → v.ownBlock ≠ some k := fun k hk e => by have := hn k e; omega
  have hn' : ∀ k, v'.ownBlock = some k → n0 ≤ k := fun k e => by
    rcases hat with h1 | h1
    · exact hn k (h1 ▸ e)
    · rw [h1] at e; cases e; simp; omega
  have hpb1 : w1.heap[pb]? = some (rdBlk v) := by rw [hg.block pb (by have := heap_lt hB; simp; omega) (fun e => hvp pb hpn e.symm)]; exact (Below.heap_alloc _ _ _ (heap_lt hB)).trans hB
  have hb2 : (w1.setCell ⟨pb, 0, none⟩ v').heap[pb]? = some (rdBlk v') := by rw [heap_set hpb1]; rfl
  refine ⟨⟨by omega, fun k o hk hko hc => (hold k (heap_lt hko) (by omega) (fun e => ?_)).trans hko⟩, ⟨by omega, fun k c T z hk hp hr => (hold k (heap_lt hk) hp (fun e => hr (by rw [rowOf_rd hB]; exact e))).trans hk, ?_⟩, ⟨v', hb2, ?_, hn'⟩, ?_, ?_, by omega⟩
  · obtain ⟨cur, h1⟩ := hvb k e
    rw [h1] at hko; cases hko; cases hc
  · rw [rowOf_rd hb2, rowOf_rd hB]
    rcases hat with h1 | h1
    · exact Or.inl h1
    · refine Or.inr ⟨_, h1, by simp, ?_⟩
      have h2 := (hown.lt _ h1).2
      simpa [World.setCell] using h2
  · rw [List.length_append, List.length_singleton, tokCells_snoc]
    exact owns_of hown (fun k e => heap_set_other (fun e2 => by have := hn' k e; simp at e2; omega))
  · exact (hold _ (heap_lt hR) (by omega) (hvp _ (by omega))).trans hR
  · refine ⟨hg.os.trans hBw.os, hg.tape.trans hBw.tape, hg.output.trans hBw.output, by have := hBw.size; omega, fun k hk => ?_⟩
    exact (hold k (by have := hBw.size; omega) (by omega) (hvp k (by omega))).trans (hBw.block k hk)
theorem Tryz.infoTok : (Tryz.prog.info? 216).map (fun i => (i.zero, i.size, i.bytes)) = some (some (.agg #[.int .i64 0, .int .i64 0, .string ⟨#[]⟩, .int .i64 0, .int .i64 0, .int .i64 0]), 6, 56) := by kernel_rfl

/-- the reader's slots while it takes its tokens -/
def rdTmps (s : ByteArray) (w : World) (x6 x15 : Value) : Array Value := #[Value.string s, undef, ptr4 w.heap.size 0, Value.int .i64 0, Value.int .i64 0, ptr4 (w.heap.size + 1) 0, x6, undef, Value.string s, Value.int .i64 (s.size : Int), Value.bool (decide (600 < (s.size : Int))), undef, Value.agg (rdCells (.slice none 0 0) (.slice none 0 0) (.pointer none) (.slice none 0 0) rs0), Value.string s, Value.func (Fn.func 164) #[] #[ptr4 (w.heap.size + 1 + 1) 0], x15, undef, undef, undef, undef, undef, undef, undef, undef, undef, undef, undef, undef, undef, undef, undef, undef, undef, undef, undef, undef, undef, undef, undef, undef, undef, undef, undef, undef, undef, undef, undef, undef, undef, undef, undef]
def RdAx (s : ByteArray) (w : World) (pb n0 : Nat) (x : TokP) (a' : Act) (W : World) : Prop := ∃ Bx, n0 ≤ Bx ∧ W.heap[Bx]? = some (tokBlk x) ∧ rowOf pb W ≠ some Bx ∧ pb < W.heap.size ∧ a' = { tmps := rdTmps s w (ptr4 Bx 0) (tokV x), defers := [] }
theorem RdAx.own (s : ByteArray) (w : World) (pb n0 : Nat) (hp : pb < n0) (x : TokP) (a' : Act) : OwnFrom n0 (fun (_ : Unit) W => RdAx s w pb n0 x a' W) := by
  rintro _ W W' row ⟨Bx, h1, h2, h3, h4, h5⟩ hg hr
  refine ⟨Bx, h1, (hg.block Bx (heap_lt h2) (fun e => ?_)).trans h2, ?_, Nat.lt_of_lt_of_le h4 hg.size, h5⟩
  · obtain ⟨_, o, ho, hc⟩ := hr Bx e.symm
    rw [h2] at ho; cases ho; cases hc
  · rw [rowOf_heap (hg.block pb h4 (fun e => by have := (hr pb e.symm).1; omega))]; exact h3
abbrev W0of (s : ByteArray) (w : World) : World := ((w.alloc polBlk).alloc (rdBlk (.slice none 0 0))).alloc (box1 (.string s) 9)
theorem W0_size (s : ByteArray) (w : World) : (W0of s w).heap.size = w.heap.size + 3 := (three_new w polBlk (rdBlk (.slice none 0 0)) (box1 (.string s) 9)).2.2.2
theorem W0_below (s : ByteArray) (w : World) : Below w.heap.size w (W0of s w) :=
  (((Below.refl _ w).alloc (Nat.le_refl _) _).alloc (by rw [World.size_alloc]; omega) _).alloc (by rw [World.size_alloc, World.size_alloc]; omega) _
theorem TokTabs.kept {pb n0 : Nat} {A B : World} (hG1 : 2 < n0 ∧ 2 ≠ pb) (hG2 : 0 < n0 ∧ 0 ≠ pb) (hG3 : 3 < n0 ∧ 3 ≠ pb) (hk : KpR pb A B) (hr : ∀ k, rowOf pb A = some k → n0 ≤ k) (h : TokTabs A) : TokTabs B := by
  have e : ∀ g, g < n0 ∧ g ≠ pb → ∀ j v, A.cell? ⟨g, j, none⟩ = some v → B.cell? ⟨g, j, none⟩ = some v := fun g hg j v hv => by
    obtain ⟨o, ho, hc⟩ := cells_of_cell hv
    cases o with
    | cells c T z =>
      have h1 := hk.keep g c T z ho hg.2 (fun e => by have := hr g e; omega)
      rw [show B.cell? ⟨g, j, none⟩ = c[j]? from cell_of_heap h1, ← show A.cell? ⟨g, j, none⟩ = c[j]? from cell_of_heap ho]; exact hv
    | _ => cases hc
  exact ⟨Nat.lt_of_lt_of_le h.lw hk.size, Nat.lt_of_lt_of_le h.ls hk.size, fun j v hv => e _ hG1 _ _ (h.words j v hv), fun j v hv => e _ hG2 _ _ (h.signs j v hv), Nat.lt_of_lt_of_le h.mx.1 hk.size, h.mx.2.choose, e _ hG3 _ _ h.mx.2.choose_spec⟩
theorem all_stops (n : Nat) (hn : 1 ≤ n) (s : ByteArray) (hs : s.size ≤ 600) (w : World) (ht : TokTabs w) :
    SeqStopsK Fence.wide n Tryz.prog 164 #[ptr4 (w.heap.size + 1 + 1) 0] (fun x : TokP => #[tokV x]) (KpR (w.heap.size + 1)) (fun ys => ys = allP s) (fun _ => True) 1000 (W0of s w) := by
  intro l J Jx W hW hJ hJx hY h0
  obtain ⟨n1, n2, n3, sz⟩ := three_new w polBlk (rdBlk (.slice none 0 0)) (box1 (.string s) 9)
  have h2 : W.heap[w.heap.size + 1]? = some (rdBlk (.slice none 0 0)) := (hW.block _ (by rw [W0_size]; omega)).trans n2
  have h3 : W.heap[w.heap.size + 1 + 1]? = some (box1 (.string s) 9) := (hW.block _ (by rw [W0_size]; omega)).trans n3
  have hsz : w.heap.size + 3 ≤ W.heap.size := by have h := hW.size; rw [W0_size] at h; exact h
  have hG1 := ht.lw
  have hG2 := ht.ls
  have hT0 : TokTabs (W0of s w) := ht.below (W0_below s w)
  refine all1_in n hn l (w.heap.size + 1 + 1) (w.heap.size + 1) (w.heap.size + 3) s hs J Jx W hJ h0 ⟨by omega, h3, fun k e => ?_, hT0.below hW⟩ (by omega) (by omega) hsz (fun hk hr hT => TokTabs.kept (pb := w.heap.size + 1) (n0 := w.heap.size + 3) ⟨by omega, by omega⟩ ⟨by omega, by omega⟩ ⟨by have := ht.mx.1; omega, by have := ht.mx.1; omega⟩ hk hr hT) hY
  rw [rowOf_rd h2] at e; cases e

set_option maxRecDepth 100000 in
set_option maxHeartbeats 4000000 in
theorem read_gen (s : ByteArray) (hs : s.size ≤ 600) (w : World) (ht : TokTabs w) (hts : TsOk (allP s)) (hl0 : 0 < (allP s).length) {st : RS} {l : List (Option StpM)} {ms : List StpM}
    (hpol : ∀ (pb : Nat) (W : World) (O : Nat → Prop), RA W pb (allP s) rs0 (fun _ => False) O → Ok (allP s) rs0 → Calls Tryz.prog 110 #[ptr4 pb 0] W (PolRes pb (allP s) W O (st, l))) (f1 : st.syn = none) (f2 : st.nam = none) (f3 : st.num = none) (hms : allO l = some ms) (hpage : st.page ≠ []) :
    Calls Tryz.prog 65 #[.string s] w fun e w' => ∃ p sv, e = .returned (.tuple #[.agg #[.string p, sv], .int .i64 0, .int .i64 0]) ∧ Below w.heap.size w w' ∧ Lasts w' (fun k => w.heap.size ≤ k) (StepsC sv ms) := by
  obtain ⟨i0, hi0, hz0, hz1, hz2⟩ := info_parts Tryz.infoTok
  refine (callsIn_wide (n := 6)).1 ?_
  refine callsIn_of_wp_marks Tryz.func65 rfl trivial ?_ rfl
  simp only [Tryz.ntmps65, List.size_toArray, List.length_cons, List.length_nil, Nat.reduceAdd, Nat.reduceSub, Array.replicate_succ, Array.replicate_zero, List.push_toArray, List.append_toArray, List.nil_append, List.cons_append]
  gi_wp2_with (refine ⟨trivial, ?_⟩; gi_at_call 109; refine ((callsIn_wide).2 (All_call _ _)).mono ?_; rintro e w' ⟨rfl, rfl⟩)
  obtain ⟨n1, n2, n3, sz⟩ := three_new w polBlk (rdBlk (.slice none 0 0)) (box1 (.string s) 9)
  have hB0 := W0_below s w
  have hsz0 := W0_size s w
  refine wpIn_rangeFunc_ownH (w0 := W0of s w) rfl (by decide) (gf := 164) (lb := #[ptr4 (w.heap.size + 1 + 1) 0]) rfl trivial (enters_of Tryz.func164 (by kernel_rfl) rfl)
    (all_stops 5 (by decide) s hs w ht) (fun h g => KpR.trans h g) (fun W l o o' hl hlo ho _ => KpR.putObj (by have h : (W0of s w).heap.size ≤ l := hl; omega) hlo ho) (Below.refl _ _) (fun _ => rfl)
    (RdI w (w.heap.size + 1) (w.heap.size + 3)) (fun _ _ _ => False) ?hI (fun _ _ _ _ _ h _ _ => h) ?h0 (RdAx s w (w.heap.size + 1) (w.heap.size + 3)) ?hAx ?assign ?body ?done ?stop
  case hI => have h := RdI.own w (w.heap.size + 1) (w.heap.size + 3) (by omega); exact (show OwnFrom (W0of s w).heap.size _ by rw [hsz0]; exact h)
  case h0 => exact ⟨⟨_, n2, World.ownsRow_nil _ _ _ _, fun k e => by simp [Value.ownBlock] at e⟩, n1, hB0, Nat.le_of_eq hsz0.symm⟩
  case hAx => intro x a'; have h := RdAx.own s w (w.heap.size + 1) (w.heap.size + 3) (by omega) x a'; exact (show OwnFrom (W0of s w).heap.size _ by rw [hsz0]; exact h)
  case assign =>
    rintro l pre x W K hi hK
    have HI := hide hi
    obtain ⟨⟨v, hb, ho, hn⟩, hR, hBw, hzz⟩ := hi
    have hpw : w.heap.size + 1 < W.heap.size := heap_lt hb
    have HRW := hide (show rowOf (w.heap.size + 1) W ≠ some W.heap.size from fun e => by rw [rowOf_rd hb] at e; have := (ho.lt _ e).2; omega)
    have HK := hide hK
    clear hb ho hn hR hBw hK
    gi_wp2
    refine (unhide HK) _ _ ((KeepsOthers.alloc _ _).from _) (KpR.of_below hpw ((Below.refl _ _).alloc (Nat.le_refl _) _)) ((RdI.own w (w.heap.size + 1) (w.heap.size + 3) (by omega)).alloc _ (unhide HI)) ⟨W.heap.size, hzz, heap_new W _ _, ?_, by rw [World.size_alloc]; omega, rfl⟩
    · rw [rowOf_below hpw ((Below.refl _ _).alloc (Nat.le_refl _) _)]; exact unhide HRW
  case body =>
    rintro l pre x a' W hl ⟨r, hr⟩ ⟨⟨v, hb, ho, hn⟩, hR, hBw, hnW⟩ ⟨Bx, hBx, hbx, hrow, hpw, rfl⟩ hlt
    have c0 : W.cell? ⟨w.heap.size + 1, 0, none⟩ = some v := cell_of_heap hb
    have z0 : W.frozen? ⟨w.heap.size + 1, 0, none⟩ = false := frozen_of_heap hb
    obtain ⟨t0, t1, t2, t3, t4, t5, tz⟩ := tok6 hbx
    obtain ⟨va, vc, rfl⟩ := owns_form' ho
    have HB := hide hb
    have HO := hide ho
    have HN := hide hn
    have HR := hide hR
    have HBW := hide hBw
    have hln : pre.length ≤ 1000 := by omega
    clear hb ho hn hR hBw hbx
    unfold rdTmps
    gi_wp2_with (gi_at_builtin; refine wpListIn_append_own_at _ rfl _ _ 200 rfl 0 216 i0 _ 6 56 Tryz.underlying200 hi0 hz0 hz1 hz2 rfl (by decide) (.slice va pre.length vc) pre.length (tokCells pre) rfl ((unhide HO).alloc (tokBlk x)) ⟨W.heap.size, 0, none⟩ 1 1 [.int .i64 x.kind, .int .i64 x.at_, .string x.text, .int .i64 x.number, .int .i64 x.addr, .int .i64 x.len] rfl rfl (World.news_of_block (cs := #[.int .i64 x.kind, .int .i64 x.at_, .string x.text, .int .i64 x.number, .int .i64 x.addr, .int .i64 x.len]) (t := 216) (fr := (0, 0)) (heap_alloc_new _ _)) (by simp [Value.oneCell']) (by simp [maxLen]; omega) (by omega) (Nat.zero_le _) ?_; intro v' w1 hown hgrow hnil hat; obtain ⟨fa, fb, hfv⟩ := owns_form' hown; have hpb1 : w1.heap[w.heap.size + 1]? = some (rdBlk (.slice va pre.length vc)) := (hgrow.block _ (by rw [World.size_alloc]; omega) (fun e => by have := (unhide HN) _ e.symm; omega)).trans ((Below.heap_alloc _ _ _ hpw).trans (unhide HB)); have d0 : w1.cell? ⟨w.heap.size + 1, 0, none⟩ = some (.slice va pre.length vc) := cell_of_heap hpb1; have dz : w1.frozen? ⟨w.heap.size + 1, 0, none⟩ = false := frozen_of_heap hpb1; have HFIN := hide (RdI.snoc (unhide HB) (unhide HO) (unhide HN) (unhide HR) (unhide HBW) (by omega) (by omega) hnW hown hgrow hat); clear hown hgrow hat hnil hpb1; subst hfv)
    exact ⟨(show KeepsFrom (W0of s w).heap.size _ _ by rw [hsz0]; exact (unhide HFIN).1), (unhide HFIN).2.1, (unhide HFIN).2.2⟩
  case done =>
    rintro D xs W hD rfl ⟨⟨v, hb, ho, hn0⟩, hR, hBw, hz⟩ hK
    have hD0 : (W0of s w).heap.size ≤ D := hD
    obtain ⟨tb, tc, rfl, _, htb⟩ := World.ownsRow.form ho hl0
    have htn : w.heap.size + 3 ≤ tb := hn0 tb rfl
    have hra : RAt W (w.heap.size + 1) (allP s) rs0 (fun _ => False) tb tc (.slice none 0 0) (.pointer none) (.slice none 0 0) :=
      ⟨hb, ho, World.ownsRow_nil _ _ _ _, Or.inl rfl, ⟨[], World.ownsRow_nil _ _ _ _, rfl, fun i d x hi => by simp [rs0] at hi⟩, by omega, by simp [Value.ownBlock], by simp [Value.ownBlock], by simp [Value.ownBlock], by simp [Value.ownBlock], Or.inl rfl, fun k h => h.elim⟩
    have HRA : Hid (RA W (w.heap.size + 1) (allP s) rs0 (fun _ => False) (ROwn (w.heap.size + 1) tb (.slice none 0 0) (.slice none 0 0))) := ⟨tb, tc, _, _, _, hra, rfl⟩
    have hDt : tb ≠ D := fun e => by
      obtain ⟨_, h2⟩ := ho
      rcases h2 with ⟨h2, _⟩ | ⟨g, cap, cur, hv, _, hg, _⟩
      · cases h2
      · cases hv; rw [e, hK] at hg; cases hg
    have hOD : ¬ ROwn (w.heap.size + 1) tb (.slice none 0 0) (.slice none 0 0) D := fun h => by
      rcases h with h | h | h | h
      · omega
      · exact hDt h.symm
      · cases h
      · cases h
    have hOR : ¬ ROwn (w.heap.size + 1) tb (.slice none 0 0) (.slice none 0 0) w.heap.size := fun h => by
      rcases h with h | h | h | h
      · omega
      · omega
      · cases h
      · cases h
    have hOlow : Hid (∀ k, k < w.heap.size → ¬ ROwn (w.heap.size + 1) tb (.slice none 0 0) (.slice none 0 0) k) := fun k hk h => by
      rcases h with h | h | h | h
      · omega
      · omega
      · cases h
      · cases h
    have HOK0 : Hid (Ok (allP s) rs0) := ⟨hl0, by simp [rs0], by simp [rs0, ByteArray.size]⟩
    have HPOL := hide (hpol _ _ _ (unhide HRA) (unhide HOK0))
    have HBW := hide hBw
    have hsW : W.heap.size = W.heap.size := rfl
    clear hra ho hb hn0 hBw hz
    gi_wp2_with (refine ⟨trivial, ?_⟩; gi_at_call 110; refine ((callsIn_wide).2 (unhide HPOL)).mono ?_; rintro e w2 ⟨sv, O2, D2, rfl, hr2, hf2, hs2, hk2, ⟨sa, sc, rfl⟩, hl2⟩; have g1 := fr_keeps hf2 hK hOD; have g2 := fr_keeps hf2 hR hOR; have HR2 := hide hr2; have HF2 := hide hf2; have HS2 := hide hs2; have HK2 := hide hk2; have G1 := hide g1; have G2 := hide g2; obtain ⟨tb2, tc2, dv2, av2, bv2, h2, hO2⟩ := hr2; have q7 : w2.cell? ⟨w.heap.size + 1, 7, none⟩ = some (.bool false) := (by have : w2.cell? ⟨w.heap.size + 1, 7, none⟩ = some (optB st.syn) := cell_of_heap h2.blk; rw [f1] at this; exact this); have q9 : w2.cell? ⟨w.heap.size + 1, 9, none⟩ = some (.bool false) := (by have : w2.cell? ⟨w.heap.size + 1, 9, none⟩ = some (optB st.nam) := cell_of_heap h2.blk; rw [f2] at this; exact this); have q11 : w2.cell? ⟨w.heap.size + 1, 11, none⟩ = some (.bool false) := (by have : w2.cell? ⟨w.heap.size + 1, 11, none⟩ = some (optB st.num) := cell_of_heap h2.blk; rw [f3] at this; exact this); clear g1 g2 hf2 hs2 hk2 h2 hO2)
    refine ⟨trivial, ?_⟩
    refine ((callsIn_wide).2 (done_any (unhide HR2) hpage (by have h1 := (unhide HK2).page; have h2 := (unhide HK2).next; have h3 := hts.n1; show st.page.length ≤ _; omega) (unhide HK2).gap)).mono ?_
    rintro e w3 ⟨⟨pg, rfl⟩, hf3⟩
    have g1 := fr_keeps hf3 (unhide G1).1 (unhide G1).2
    have g2 := fr_keeps hf3 (unhide G2).1 (unhide G2).2
    have s0 : w3.cell? ⟨w.heap.size, 0, none⟩ = some (.string ⟨#[]⟩) := cell_of_heap g2.1
    have s1 : w3.cell? ⟨w.heap.size, 1, none⟩ = some (.slice none 0 0) := cell_of_heap g2.1
    have sz0 : ∀ o, w3.frozen? ⟨w.heap.size, o, none⟩ = false := fun o => frozen_of_heap g2.1
    have G3 := hide g2
    have GD := hide g1.1
    have HF3 := hide ((unhide HF2).trans hf3)
    have HS3 := hide ((unhide HS2).fr hf3 (Nat.le_refl _))
    clear g1 g2 hf3 q7 q9 q11
    gi_wp2
    have hRD : w.heap.size ≠ D := by omega
    have hKf : ((w3.setCell ⟨w.heap.size, 0, none⟩ (.string pg)).setCell ⟨w.heap.size, 1, none⟩ (.slice sa l.length sc)).heap[D]? = some (.deferred (some [])) := by
      rw [heap_set_other (Ne.symm hRD), heap_set_other (Ne.symm hRD)]; exact unhide GD
    have hRf : ((w3.setCell ⟨w.heap.size, 0, none⟩ (.string pg)).setCell ⟨w.heap.size, 1, none⟩ (.slice sa l.length sc)).heap[w.heap.size]? = some (.cells #[.string pg, .slice sa l.length sc] 109 (0, 0)) := by
      rw [heap_set (heap_set (unhide G3).1)]; rfl
    have hDW : D < W.heap.size := heap_lt hK
    have hRW : w.heap.size < W.heap.size := heap_lt hR
    refine ⟨by simp, .inl ⟨_, _, rfl, run_takeDeferred hKf, ?_⟩⟩
    obtain ⟨W5, hW5⟩ : ∃ W5, (w3.setCell ⟨w.heap.size, 0, none⟩ (.string pg)).setCell ⟨w.heap.size, 1, none⟩ (.slice sa l.length sc) = W5 := ⟨_, rfl⟩
    have hblk : ∀ k, k ≠ w.heap.size → k ≠ D → (W5.putObj D (.deferred none)).heap[k]? = w3.heap[k]? := fun k h1 h2 => by
      rw [World.putObj_heap_other h2, ← hW5, heap_set_other h1, heap_set_other h1]
    have hR6 : (W5.putObj D (.deferred none)).heap[w.heap.size]? = some (.cells #[.string pg, .slice sa l.length sc] 109 (0, 0)) := by
      rw [World.putObj_heap_other hRD, ← hW5]; exact hRf
    have hs6 : (W5.putObj D (.deferred none)).heap.size = w3.heap.size := by rw [← hW5]; simp [World.setCell]
    have hos : (W5.putObj D (.deferred none)).os = w3.os ∧ (W5.putObj D (.deferred none)).tape = w3.tape ∧ (W5.putObj D (.deferred none)).output = w3.output := by rw [← hW5]; exact ⟨rfl, rfl, rfl⟩
    rw [hW5]
    obtain ⟨W6, hW6⟩ : ∃ W6, W5.putObj D (.deferred none) = W6 := ⟨_, rfl⟩
    rw [hW6] at hblk hR6 hs6 hos ⊢
    have u0 : W6.cell? ⟨w.heap.size, 0, none⟩ = some (.string pg) := cell_of_heap hR6
    have u1 : W6.cell? ⟨w.heap.size, 1, none⟩ = some (.slice sa l.length sc) := cell_of_heap hR6
    refine ⟨.tuple #[.agg #[.string pg, .slice sa l.length sc], .int .i64 0, .int .i64 0], by simp [results, Tryz.results65, go_sem, u0, u1], pg, .slice sa l.length sc, rfl, ?_, ?_⟩
    · refine ⟨hos.1.trans ((unhide HF3).os.trans (unhide HBW).os), hos.2.1.trans ((unhide HF3).tape.trans (unhide HBW).tape), hos.2.2.trans ((unhide HF3).output.trans (unhide HBW).output), by have h1 := (unhide HF3).size; have h2 := (unhide HBW).size; omega, fun k hk => ?_⟩
      rw [hblk k (by omega) (by omega), (unhide HF3).block k (by omega) ((unhide hOlow) k hk)]
      exact (unhide HBW).block k hk
    · refine ((unhide HS3).2 ms hms).mono (by omega) (fun k hk ha => ?_) (fun _ _ h => h)
      rcases ha.2 with h1 | h1
      · exact h1.elim
      · exact ⟨hblk k (by omega) (by omega), by omega⟩
  case stop => intro D c pre W _ _ h _; exact h.elim
theorem read_ok (s : ByteArray) (hs : s.size ≤ 600) (w : World) (ht : TokTabs w) (hts : TsOk (allP s)) {n : Nat} (hn : n ≤ 1000) {tw : RS → Option (RS × Option (Option StpM))} (IH : ∀ pb, StmtSaid pb (allP s) tw)
    (hl0 : 0 < (allP s).length) (e5 : kindR (allP s) rs0 ≠ 5) (e6 : kindR (allP s) rs0 ≠ 6) {st : RS} {l : List (Option StpM)} {ms : List StpM} (hpol : policyTw (allP s) n tw rs0 = some (st, l)) (f1 : st.syn = none) (f2 : st.nam = none) (f3 : st.num = none) (hms : allO l = some ms) (hpage : st.page ≠ []) :
    Calls Tryz.prog 65 #[.string s] w fun e w' => ∃ p sv, e = .returned (.tuple #[.agg #[.string p, sv], .int .i64 0, .int .i64 0]) ∧ Below w.heap.size w w' ∧ Lasts w' (fun k => w.heap.size ≤ k) (StepsC sv ms) :=
  read_gen s hs w ht hts hl0 (fun pb _W _O h hk => (policy_said hts (IH pb) n hn h hk hpol e5 e6).mono (fun _e _w' ⟨v, O', h1, h2, h3⟩ => ⟨v, O', _, h1, h2, h3⟩)) f1 f2 f3 hms hpage
end Go.Proofs.YtgdeeodifnegiaaGreatDoor
