/- Read: a policy's text, read (package policy), where it begins with no definition and its rows of digits are numbers. -/
import Derived.Test.YtgdeeodifnegiaaGreatDoorRdrO
import Derived.Test.YtgdeeodifnegiaaGreatDoorTokD
import Derived.RangeFuncBox
import Derived.Maps.OwnIn
import Derived.Lib.ItoaNum
set_option maxRecDepth 100000
set_option maxHeartbeats 1000000
namespace Go.Proofs.YtgdeeodifnegiaaGreatDoor
open Go.RowKit Go.Shelf
attribute [local go_sem] Oper.semAt_some
theorem All_call (s : ByteArray) (w : World) :
  Calls Tryz.prog 109 #[.string s] w fun e w' => e = .returned (.func (.func 164) #[] #[ptr4 w.heap.size 0]) ∧ w' = w.alloc (box1 (.string s) 9) := by
 have hmf : ∀ (fn : Fn) (first cap : Array Value) (w : World), (Instr.makeFunc fn first cap).run Tryz.prog w = .ok (.func fn first cap) w := fun _ _ _ _ => rfl
 go_enter Tryz.func109, Tryz.ntmps109
 go_wp2_with fail
 go_ret
 exact ⟨rfl, rfl⟩
abbrev polBlk : Obj := .cells #[.string ⟨#[]⟩, .slice none 0 0] 109
abbrev rdBlk (v : Value) : Obj := .cells (rdCells v (.slice none 0 0) (.pointer none) (.slice none 0 0) rs0) 210
theorem KpR.trans {pb : Nat} {A B C : World} (h : KpR pb A B) (g : KpR pb B C) : KpR pb A C := by
 refine ⟨Nat.le_trans h.size g.size, fun k c T z hA hp hr => g.keep k c T z (h.keep k c T z hA hp hr) hp (fun e => ?_), ?_⟩
 ·rcases h.row with h1 | ⟨q, h1, h2, _⟩
  ·exact hr (h1 ▸ e)
  ·rw [h1] at e; cases e
   have := heap_lt hA; omega
 ·rcases g.row with h1 | ⟨q, h1, h2, h3⟩
  ·rcases h.row with h4 | ⟨q, h4, h5, h6⟩
   ·exact Or.inl (h1.trans h4)
   ·exact Or.inr ⟨q, h1.trans h4, h5, Nat.lt_of_lt_of_le h6 g.size⟩
  ·exact Or.inr ⟨q, h1, Nat.le_trans h.size h2, h3⟩
theorem rowOf_heap {pb : Nat} {A B : World} (h : B.heap[pb]? = A.heap[pb]?) : rowOf pb B = rowOf pb A := by
 unfold rowOf World.cell?; rw [h]
theorem KpR.putObj {pb : Nat} {W : World} {l : Nat} {o o' : Obj} (hp : pb ≠ l) (hl : W.heap[l]? = some o) (ho : o.isCells = false) : KpR pb W (W.putObj l o') := by
 refine ⟨by simp, fun k c T z hk _ _ => (World.putObj_heap_other (fun e => by subst e; rw [hk] at hl; cases hl; cases ho)).trans hk, Or.inl (rowOf_heap (World.putObj_heap_other hp))⟩
theorem KpR.of_below {pb : Nat} {A B : World} (hp : pb < A.heap.size) (h : Below A.heap.size A B) : KpR pb A B :=
 ⟨h.size, fun k _ _ _ hk _ _ => (h.block k (heap_lt hk)).trans hk, Or.inl (rowOf_below hp h)⟩
def RdI (w : World) (pb n0 : Nat) (pre : List TokP) (W : World) : Prop :=
 (∃ v, W.heap[pb]? = some (rdBlk v) ∧ W.ownsRow 0 216 6 v pre.length (tokCells pre) ∧ ∀ k, v.ownBlock = some k → n0 ≤ k) ∧ W.heap[w.heap.size]? = some polBlk ∧ Below w.heap.size w W ∧ n0 ≤ W.heap.size
theorem RdI.own (w : World) (pb n0 : Nat) (hw : w.heap.size ≤ n0) : OwnFrom n0 (RdI w pb n0) := by
 rintro pre W W' row ⟨⟨v, hb, ho, hn⟩, hR, hB, hz⟩ hg hr
 have hk : ∀ (k : Nat) (c : Array Value) (T : TypeId) (z : Nat × Nat), W.heap[k]? = some (.cells c T z) → W'.heap[k]? = some (.cells c T z) := fun k c T z h => (hg.block k (heap_lt h) (fun e => by
  obtain ⟨_, o, ho, hc⟩ := hr k e.symm
  rw [h] at ho; cases ho; cases hc)).trans h
 refine ⟨⟨v, hk _ _ _ _ hb, ?_, hn⟩, hk _ _ _ _ hR, hB.grown hg hB.size (fun k e => Nat.le_trans hw (hr k e).1), Nat.le_trans hz hg.size⟩
 refine owns_of ho (fun k e => ?_)
 rcases ho.2 with ⟨h1, _⟩ | ⟨g, cap, cur, h1, _, hg2, _⟩
 ·rw [h1] at e; cases e
 ·rw [h1] at e
  obtain rfl : g = k := by simpa [Value.ownBlock] using e
  rw [hg2]; exact hk _ _ _ _ hg2
theorem rowOf_rd {W : World} {pb : Nat} {v : Value} (h : W.heap[pb]? = some (rdBlk v)) : rowOf pb W = v.ownBlock := by
 have : W.cell? ⟨pb, 0, none⟩ = some v := cell_of_heap h
 unfold rowOf; rw [this]
theorem tokCells_snoc (l : List TokP) (t : TokP) : tokCells (l ++ [t]) = tokCells l ++ [.int .i64 t.kind, .int .i64 t.at_, .string t.text, .int .i64 t.number, .int .i64 t.addr, .int .i64 t.len] := by simp [tokCells]
theorem RdI.snoc {w W w1 : World} {pb n0 : Nat} {pre : List TokP} {v v' : Value} {x : TokP} (hB : W.heap[pb]? = some (rdBlk v)) (ho : W.ownsRow 0 216 6 v pre.length (tokCells pre)) (hn : ∀ k, v.ownBlock = some k → n0 ≤ k) (hR : W.heap[w.heap.size]? = some polBlk) (hBw : Below w.heap.size w W)
  (hpn : pb < n0) (hRp : w.heap.size < pb) (hnW : n0 ≤ W.heap.size)
  (hown : w1.ownsRow 0 216 6 v' (pre.length + 1) (tokCells pre ++ [.int .i64 x.kind, .int .i64 x.at_, .string x.text, .int .i64 x.number, .int .i64 x.addr, .int .i64 x.len])) (hg : (W.alloc (tokBlk x)).grownBy w1 v.ownBlock) (hat : v'.ownBlock = v.ownBlock ∨ v'.ownBlock = some (W.alloc (tokBlk x)).heap.size) :
  KeepsFrom n0 W (w1.setCell ⟨pb, 0, none⟩ v') ∧ KpR pb W (w1.setCell ⟨pb, 0, none⟩ v') ∧ RdI w pb n0 (pre ++ [x]) (w1.setCell ⟨pb, 0, none⟩ v') := by
 have hold : ∀ k, k < W.heap.size → k ≠ pb → v.ownBlock ≠ some k → (w1.setCell ⟨pb, 0, none⟩ v').heap[k]? = W.heap[k]? := fun k hk hp hv => by
  rw [heap_set_other hp, hg.block k (by simp; omega) (fun e => hv e.symm)]; exact Below.heap_alloc _ _ _ hk
 have hsz : W.heap.size + 1 ≤ (w1.setCell ⟨pb, 0, none⟩ v').heap.size := by have := hg.size; simp [World.setCell] at this ⊢; omega
 have hvb : ∀ k, v.ownBlock = some k → ∃ cur, W.heap[k]? = some (.cells cur 216 (0, 0)) := fun k e => by
  rcases ho.2 with ⟨h1, _⟩ | ⟨g, cap, cur, h1, _, hg2, _⟩
  ·rw [h1] at e; cases e
  ·rw [h1] at e
   obtain rfl : g = k := by simpa [Value.ownBlock] using e
   exact ⟨cur, hg2⟩
 have hvp : ∀ k, k < n0 → v.ownBlock ≠ some k := fun k hk e => by have := hn k e; omega
 have hn' : ∀ k, v'.ownBlock = some k → n0 ≤ k := fun k e => by
  rcases hat with h1 | h1
  ·exact hn k (h1 ▸ e)
  ·rw [h1] at e; cases e; simp; omega
 have hpb1 : w1.heap[pb]? = some (rdBlk v) := by rw [hg.block pb (by have := heap_lt hB; simp; omega) (fun e => hvp pb hpn e.symm)]; exact (Below.heap_alloc _ _ _ (heap_lt hB)).trans hB
 have hb2 : (w1.setCell ⟨pb, 0, none⟩ v').heap[pb]? = some (rdBlk v') := by rw [heap_set hpb1]; rfl
 refine ⟨⟨by omega, fun k o hk hko hc => (hold k (heap_lt hko) (by omega) (fun e => ?_)).trans hko⟩, ⟨by omega, fun k c T z hk hp hr => (hold k (heap_lt hk) hp (fun e => hr (by rw [rowOf_rd hB]; exact e))).trans hk, ?_⟩, ⟨v', hb2, ?_, hn'⟩, ?_, ?_, by omega⟩
 ·obtain ⟨cur, h1⟩ := hvb k e
  rw [h1] at hko; cases hko; cases hc
 ·rw [rowOf_rd hb2, rowOf_rd hB]
  rcases hat with h1 | h1
  ·exact Or.inl h1
  ·refine Or.inr ⟨_, h1, by simp, ?_⟩
   have h2 := (hown.lt _ h1).2
   simpa [World.setCell] using h2
 ·rw [List.length_append, List.length_singleton, tokCells_snoc]
  exact owns_of hown (fun k e => heap_set_other (fun e2 => by have := hn' k e; simp at e2; omega))
 ·exact (hold _ (heap_lt hR) (by omega) (hvp _ (by omega))).trans hR
 ·refine ⟨hg.os.trans hBw.os, hg.tape.trans hBw.tape, hg.output.trans hBw.output, by have := hBw.size; omega, fun k hk => ?_⟩
  exact (hold k (by have := hBw.size; omega) (by omega) (hvp k (by omega))).trans (hBw.block k hk)
theorem Tryz.infoTok : (Tryz.prog.info? 216).map (fun i => (i.zero, i.size, i.bytes)) = some (some (.agg #[.int .i64 0, .int .i64 0, .string ⟨#[]⟩, .int .i64 0, .int .i64 0, .int .i64 0]), 6, 56) := by kernel_rfl
def rdTmps (s : ByteArray) (w : World) (x6 x15 : Value) : Array Value := #[Value.string s, undef, ptr4 w.heap.size 0, Value.int .i64 0, Value.int .i64 0, ptr4 (w.heap.size + 1) 0, x6, undef, Value.string s, Value.int .i64 (s.size : Int), Value.bool (decide (600 < (s.size : Int))), undef, Value.agg (rdCells (.slice none 0 0) (.slice none 0 0) (.pointer none) (.slice none 0 0) rs0), Value.string s, Value.func (Fn.func 164) #[] #[ptr4 (w.heap.size + 1 + 1) 0], x15, undef, undef, undef, undef, undef, undef, undef, undef, undef, undef, undef, undef, undef, undef, undef, undef, undef, undef, undef, undef, undef, undef, undef, undef, undef, undef, undef, undef, undef, undef, undef, undef, undef, undef, undef]
def RdAx (s : ByteArray) (w : World) (pb n0 : Nat) (x : TokP) (a' : Act) (W : World) : Prop := ∃ Bx, n0 ≤ Bx ∧ W.heap[Bx]? = some (tokBlk x) ∧ rowOf pb W ≠ some Bx ∧ pb < W.heap.size ∧ a' = { tmps := rdTmps s w (ptr4 Bx 0) (tokV x), defers := [] }
theorem RdAx.own (s : ByteArray) (w : World) (pb n0 : Nat) (hp : pb < n0) (x : TokP) (a' : Act) : OwnFrom n0 (fun (_ : Unit) W => RdAx s w pb n0 x a' W) := by
 rintro _ W W' row ⟨Bx, h1, h2, h3, h4, h5⟩ hg hr
 refine ⟨Bx, h1, (hg.block Bx (heap_lt h2) (fun e => ?_)).trans h2, ?_, Nat.lt_of_lt_of_le h4 hg.size, h5⟩
 ·obtain ⟨_, o, ho, hc⟩ := hr Bx e.symm
  rw [h2] at ho; cases ho; cases hc
 ·rw [rowOf_heap (hg.block pb h4 (fun e => by have := (hr pb e.symm).1; omega))]; exact h3
abbrev W0of (s : ByteArray) (w : World) : World := ((w.alloc polBlk).alloc (rdBlk (.slice none 0 0))).alloc (box1 (.string s) 9)
theorem W0_size (s : ByteArray) (w : World) : (W0of s w).heap.size = w.heap.size + 3 := (three_new w polBlk (rdBlk (.slice none 0 0)) (box1 (.string s) 9)).2.2.2
theorem W0_below (s : ByteArray) (w : World) : Below w.heap.size w (W0of s w) :=
 (((Below.refl _ w).alloc (Nat.le_refl _) _).alloc (by rw [World.size_alloc]; omega) _).alloc (by rw [World.size_alloc, World.size_alloc]; omega) _
theorem TokTabs.kept {pb n0 : Nat} {A B : World} (hG1 : 2 < n0 ∧ 2 ≠ pb) (hG2 : 0 < n0 ∧ 0 ≠ pb) (hG3 : 3 < n0 ∧ 3 ≠ pb) (hk : KpR pb A B) (hr : ∀ k, rowOf pb A = some k → n0 ≤ k) (h : TokTabs A) : TokTabs B := by
 have e : ∀ g, g < n0 ∧ g ≠ pb → ∀ j v, A.cell? ⟨g, j, none⟩ = some v → B.cell? ⟨g, j, none⟩ = some v := fun g hg j v hv => by
  obtain ⟨o, ho, hc⟩ := cells_of_cell hv
  cases o with
  | cells c T z =>
   have h1 := hk.keep g c T z ho hg.2 (fun e => by have := hr g e; omega)
   rw [show B.cell? ⟨g, j, none⟩ = c[j]? from cell_of_heap h1, ← show A.cell? ⟨g, j, none⟩ = c[j]? from cell_of_heap ho]; exact hv
  | _ => cases hc
 exact ⟨Nat.lt_of_lt_of_le h.lw hk.size, Nat.lt_of_lt_of_le h.ls hk.size, fun j v hv => e _ hG1 _ _ (h.words j v hv), fun j v hv => e _ hG2 _ _ (h.signs j v hv), Nat.lt_of_lt_of_le h.mx.1 hk.size, h.mx.2.choose, e _ hG3 _ _ h.mx.2.choose_spec⟩
theorem all_stops (n : Nat) (hn : 1 ≤ n) (s : ByteArray) (hs : s.size ≤ 600) (w : World) (ht : TokTabs w) :
  SeqStopsK Fence.wide n Tryz.prog 164 #[ptr4 (w.heap.size + 1 + 1) 0] (fun x : TokP => #[tokV x]) (KpR (w.heap.size + 1)) (fun ys => ys = allP s) (fun _ => True) 1000 (W0of s w) := by
 intro l J Jx W hW hJ hJx hY h0
 obtain ⟨n1, n2, n3, sz⟩ := three_new w polBlk (rdBlk (.slice none 0 0)) (box1 (.string s) 9)
 have h2 : W.heap[w.heap.size + 1]? = some (rdBlk (.slice none 0 0)) := (hW.block _ (by rw [W0_size]; omega)).trans n2
 have h3 : W.heap[w.heap.size + 1 + 1]? = some (box1 (.string s) 9) := (hW.block _ (by rw [W0_size]; omega)).trans n3
 have hsz : w.heap.size + 3 ≤ W.heap.size := by have h := hW.size; rw [W0_size] at h; exact h
 have hG1 := ht.lw
 have hG2 := ht.ls
 have hT0 : TokTabs (W0of s w) := ht.below (W0_below s w)
 refine all1_in n hn l (w.heap.size + 1 + 1) (w.heap.size + 1) (w.heap.size + 3) s hs J Jx W hJ h0 ⟨by omega, h3, fun k e => ?_, hT0.below hW⟩ (by omega) (by omega) hsz (fun hk hr hT => TokTabs.kept (pb := w.heap.size + 1) (n0 := w.heap.size + 3) ⟨by omega, by omega⟩ ⟨by omega, by omega⟩ ⟨by have := ht.mx.1; omega, by have := ht.mx.1; omega⟩ hk hr hT) hY
 rw [rowOf_rd h2] at e; cases e
end Go.Proofs.YtgdeeodifnegiaaGreatDoor
namespace Go.Proofs.YtgdeeodifnegiaaGreatDoor
open Go.RowKit
theorem StepsC.mono {sv : Value} {ms : List StpM} {K K' : Nat → Prop} {W : World} (h : StepsC sv ms K W) (hk : ∀ k, K k → K' k) : StepsC sv ms K' W := by
 obtain ⟨h0, vs, h1, h2, h3⟩ := h
 refine ⟨h0, vs, h1, ?_, fun i v m hv hm => (h3 i v m hv hm).mono hk⟩
 rcases h2 with h2 | ⟨S, cap, e1, e2, e3⟩
 ·exact Or.inl h2
 ·exact Or.inr ⟨S, cap, e1, hk S e2, e3⟩
theorem allGo_ok {s : ByteArray} (hs : s.size ≤ 600) : ∀ f k, k ≤ s.size → s.size + 1 ≤ f + k → 0 < (allGo s f k).length ∧ (allGo s f k).length ≤ s.size + 1 - k ∧ (∀ i (h : i < (allGo s f k).length), 2 ≤ (allGo s f k)[i].kind → i + 1 < (allGo s f k).length) ∧ (∀ i (h : i < (allGo s f k).length), (allGo s f k)[i].text.size ≤ 600)
 | 0, k, hk, hf => by omega
 | f + 1, k, hk, hf => by
  by_cases hlt : k < s.size
  ·cases hb : blankB (bt s k) with
   | true =>
    have e : allGo s (f + 1) k = allGo s f (k + 1) := by rw [allGo, if_pos hlt, if_pos hb]
    rw [e]
    have ih := allGo_ok hs f (k + 1) (by omega) (by omega)
    exact ⟨ih.1, by omega, ih.2.2⟩
   | false =>
    have ht := tkAt_text hlt
    by_cases h0 : (tkAt s k).kind = 0
    ·rw [allGo_bad hlt hb h0]
     refine ⟨by simp, by simp; omega, fun i h h2 => ?_, fun i h => ?_⟩
     ·obtain rfl : i = 0 := by simpa using h
      simp [h0] at h2
     ·obtain rfl : i = 0 := by simpa using h
      simp; omega
    ·rw [allGo_step hlt hb h0]
     have ih := allGo_ok hs f (k + (tkAt s k).text.size) ht.2 (by omega)
     refine ⟨by simp, by simp; omega, fun i h h2 => ?_, fun i h => ?_⟩
     ·cases i with
      | zero => simp; exact ih.1
      | succ i => have := ih.2.2.1 i (by simpa using h) (by simpa using h2); simp; omega
     ·cases i with
      | zero => simp; omega
      | succ i => have := ih.2.2.2 i (by simpa using h); simpa using this
  ·have e : allGo s (f + 1) k = [endTok s] := by rw [allGo, if_neg hlt]
   rw [e]
   refine ⟨by simp, by simp; omega, fun i h h2 => ?_, fun i h => ?_⟩
   ·obtain rfl : i = 0 := by simpa using h
    simp [endTok] at h2
   ·obtain rfl : i = 0 := by simpa using h
    show (⟨#[]⟩ : ByteArray).size ≤ 600; decide
theorem allP_ok {s : ByteArray} (hs : s.size ≤ 600) : TsOk (allP s) ∧ 0 < (allP s).length := by
 have h := allGo_ok hs (s.size + 1) 0 (by omega) (by omega)
 exact ⟨⟨by show (allGo s (s.size + 1) 0).length ≤ 601; omega, h.2.2.1, h.2.2.2⟩, h.1⟩
end Go.Proofs.YtgdeeodifnegiaaGreatDoor
namespace Go.Proofs.YtgdeeodifnegiaaGreatDoor
open Go.RowKit
abbrev bsA (l : List UInt8) : ByteArray := ⟨l.toArray⟩
theorem bsA_size (l : List UInt8) : (bsA l).size = l.length := by show l.toArray.size = _; simp
theorem bsA_toList (s : ByteArray) : bsA s.data.toList = s := by cases s; simp [bsA]
theorem bt_bsA {l : List UInt8} {k : Nat} {b : UInt8} (h : l[k]? = some b) : bt (bsA l) k = (b.toNat : Int) := by
 have hk : k < l.length := (List.getElem?_eq_some_iff.mp h).1
 rw [bt_eq (by rw [bsA_size]; exact hk)]
 have : (bsA l)[k]'(by rw [bsA_size]; exact hk) = l[k] := by show (l.toArray)[k]'_ = _; simp
 rw [this, (List.getElem?_eq_some_iff.mp h).2]
theorem ext_drop (s : ByteArray) (k : Nat) : s.extract k s.size = bsA (s.data.toList.drop k) := by
 have h : (s.extract k s.size).data = (bsA (s.data.toList.drop k)).data := by
  rw [ByteArray.data_extract]
  show s.data.extract k s.data.size = (s.data.toList.drop k).toArray
  rw [← Array.toList_inj, Array.toList_extract]
  simp [List.extract]
  exact List.take_of_length_le (by simp)
 cases hx : s.extract k s.size with
 | mk d => rw [hx] at h; simp only at h; rw [h]
end Go.Proofs.YtgdeeodifnegiaaGreatDoor
namespace Go.Proofs.YtgdeeodifnegiaaGreatDoor
open Go.RowKit
theorem allO_map (l : List StpM) : allO (l.map some) = some l := by
 induction l with
 | nil => rfl
 | cons a l ih => rw [List.map_cons, allO, ih]; rfl
section stmt
variable {ts : List TokP} {n f : Nat} {ok : Int → Bool} {sum : RS → Option (RS × Option AmtM)} {cnd : RS → Option (RS × Option CndM)} {d : Int} {k : Nat}
end stmt
end Go.Proofs.YtgdeeodifnegiaaGreatDoor
namespace Go.Proofs.YtgdeeodifnegiaaGreatDoor
open Go.RowKit
def okP (_ : Int) : Bool := true
end Go.Proofs.YtgdeeodifnegiaaGreatDoor
