/- The statement Coded (package bywaykeep): the message under way in memory. No walk here. -/
import Derived.Test.YtjpajfbacmndfaaDoorNetsA
import Derived.Test.YtjpajfbacmndfaaDoorKeepD
import Derived.Laws.BytesArg
import Derived.Deep.CutBlock
import Derived.Deep.DeepCutAuto
import Derived.Deep.RegionWith
namespace Go.Proofs.YtjpajfbacmndfaaDoor
open Go.RowKit

/-- the message under way: its block, its two rows of nets -/
structure PutAt (w wr : World) (l : List (Int × Int) × List (Int × Int)) (vg vn : Value) : Prop where
  blk : wr.heap[w.heap.size]? = some (.cells #[vg, vn, .slice none 0 0, .slice none 0 0, .int .i64 0, .int .i64 0] 26 (0, 0))
  og : OwnN wr (w.heap.size + 1) vg l.1
  on : OwnN wr (w.heap.size + 1) vn l.2
  ap : Apart vg vn
  be : Below w.heap.size w wr
theorem PutAt.next {w wr w' : World} {l : List (Int × Int) × List (Int × Int)} {vg vn : Value} (h : PutAt w wr l vg vn) (hb : Below wr.heap.size wr w') : PutAt w w' l vg vn :=
  ⟨(hb.block _ (heap_lt h.blk)).trans h.blk, owns_of h.og (fun k hk => hb.block k (h.og.lt k hk).2), owns_of h.on (fun k hk => hb.block k (h.on.lt k hk).2), h.ap, h.be.trans (hb.mono h.be.size)⟩
theorem PutAt.start (w : World) : PutAt w (w.alloc (.cells #[.slice none 0 0, .slice none 0 0, .slice none 0 0, .slice none 0 0, .int .i64 0, .int .i64 0] 26)) ([], []) (.slice none 0 0) (.slice none 0 0) :=
  ⟨heap_alloc_new w _, World.ownsRow_nil _ _ _ _, World.ownsRow_nil _ _ _ _, fun k hk => by simp [Value.ownBlock] at hk, (Below.refl _ _).alloc (Nat.le_refl _) _⟩

theorem PutAt.far {w W wn : World} {l : List (Int × Int) × List (Int × Int)} {vg vn v : Value} {o : Obj} (_h : PutAt w W l vg vn) (_hv : v = vg ∨ v = vn) (hgrow : (W.alloc o).grownBy wn v.ownBlock) {k : Nat} (hk : k < W.heap.size) (hne : some k ≠ v.ownBlock) : wn.heap[k]? = W.heap[k]? := by
  rw [hgrow.block k (by simp; omega) hne, Below.heap_alloc _ _ _ hk]
theorem PutAt.notU {w W : World} {l : List (Int × Int) × List (Int × Int)} {vg vn v : Value} (h : PutAt w W l vg vn) (hv : v = vg ∨ v = vn) : some w.heap.size ≠ v.ownBlock := by
  intro e
  rcases hv with rfl | rfl
  · have := (h.og.lt _ e.symm).1; omega
  · have := (h.on.lt _ e.symm).1; omega
theorem PutAt.blkN {w W wn : World} {l : List (Int × Int) × List (Int × Int)} {vg vn v : Value} {o : Obj} (h : PutAt w W l vg vn) (hv : v = vg ∨ v = vn) (hgrow : (W.alloc o).grownBy wn v.ownBlock) :
    wn.heap[w.heap.size]? = some (.cells #[vg, vn, .slice none 0 0, .slice none 0 0, .int .i64 0, .int .i64 0] 26 (0, 0)) :=
  (h.far hv hgrow (heap_lt h.blk) (h.notU hv)).trans h.blk
theorem OwnN.push {w : World} {base g cap n : Nat} {l : List (Int × Int)} {X : Int × Int} (hn : n = l.length) (h : w.ownsRow base 28 2 (.slice (some ⟨g, 0, none⟩) (n + 1) cap) (n + 1) (netCells l ++ [.int .i64 X.1, .int .i64 X.2])) : OwnN w base (.slice (some ⟨g, 0, none⟩) (n + 1) cap) (l ++ [X]) := by
  subst hn
  unfold OwnN
  rw [netCells_snoc, List.length_append]; exact h
theorem PutAt.pushG {w W wn : World} {l : List (Int × Int) × List (Int × Int)} {vg vn : Value} {o : Obj} {X : Int × Int} {gg cap : Nat} (h : PutAt w W l vg vn)
    (hown : wn.ownsRow (w.heap.size + 1) 28 2 (.slice (some ⟨gg, 0, none⟩) (l.1.length + 1) cap) (l.1.length + 1) (netCells l.1 ++ [.int .i64 X.1, .int .i64 X.2]))
    (hgrow : (W.alloc o).grownBy wn vg.ownBlock) (hat : vg.ownBlock = some gg ∨ gg = W.heap.size + 1) :
    PutAt w (wn.setCell ⟨w.heap.size, 0, none⟩ (.slice (some ⟨gg, 0, none⟩) (l.1.length + 1) cap)) (l.1 ++ [X], l.2) (.slice (some ⟨gg, 0, none⟩) (l.1.length + 1) cap) vn := by
  have hg := (hown.lt gg rfl).1
  have hvn : ∀ k, vn.ownBlock = some k → w.heap.size + 1 ≤ k ∧ k < W.heap.size ∧ some k ≠ vg.ownBlock := fun k hk => by
    have := h.on.lt k hk
    exact ⟨this.1, this.2, fun e => h.ap k e.symm hk⟩
  refine ⟨heap_set (h.blkN (Or.inl rfl) hgrow), OwnN.push rfl (owns_of hown (fun k hk => heap_set_other (by have := (hown.lt k hk).1; simp only; omega))), ?_, ?_, ?_⟩
  · exact owns_of h.on (fun k hk => (heap_set_other (by have := (hvn k hk).1; simp only; omega)).trans (h.far (Or.inl rfl) hgrow (hvn k hk).2.1 (hvn k hk).2.2))
  · intro k hk hk2
    have e : gg = k := by simpa [Value.ownBlock] using hk
    subst e
    rcases hat with h1 | h1
    · exact h.ap gg h1 hk2
    · have := (hvn gg hk2).2.1; omega
  · have hs := h.be.size
    exact ((h.be.alloc hs o).grown hgrow (by simp; omega) (fun k hk => by have := (h.og.lt k hk).1; omega)).setCell (Nat.le_refl _) _
theorem PutAt.pushN {w W wn : World} {l : List (Int × Int) × List (Int × Int)} {vg vn : Value} {o : Obj} {X : Int × Int} {gg cap : Nat} (h : PutAt w W l vg vn)
    (hown : wn.ownsRow (w.heap.size + 1) 28 2 (.slice (some ⟨gg, 0, none⟩) (l.2.length + 1) cap) (l.2.length + 1) (netCells l.2 ++ [.int .i64 X.1, .int .i64 X.2]))
    (hgrow : (W.alloc o).grownBy wn vn.ownBlock) (hat : vn.ownBlock = some gg ∨ gg = W.heap.size + 1) :
    PutAt w (wn.setCell ⟨w.heap.size, 1, none⟩ (.slice (some ⟨gg, 0, none⟩) (l.2.length + 1) cap)) (l.1, l.2 ++ [X]) vg (.slice (some ⟨gg, 0, none⟩) (l.2.length + 1) cap) := by
  have hg := (hown.lt gg rfl).1
  have hvn : ∀ k, vg.ownBlock = some k → w.heap.size + 1 ≤ k ∧ k < W.heap.size ∧ some k ≠ vn.ownBlock := fun k hk => by
    have := h.og.lt k hk
    exact ⟨this.1, this.2, fun e => h.ap k hk e.symm⟩
  refine ⟨heap_set (h.blkN (Or.inr rfl) hgrow), ?_, OwnN.push rfl (owns_of hown (fun k hk => heap_set_other (by have := (hown.lt k hk).1; simp only; omega))), ?_, ?_⟩
  · exact owns_of h.og (fun k hk => (heap_set_other (by have := (hvn k hk).1; simp only; omega)).trans (h.far (Or.inr rfl) hgrow (hvn k hk).2.1 (hvn k hk).2.2))
  · intro k hk hk2
    have e : gg = k := by simpa [Value.ownBlock] using hk2
    subst e
    rcases hat with h1 | h1
    · exact h.ap gg hk h1
    · have := (hvn gg hk).2.1; omega
  · have hs := h.be.size
    exact ((h.be.alloc hs o).grown hgrow (by simp; omega) (fun k hk => by have := (h.on.lt k hk).1; omega)).setCell (Nat.le_refl _) _

theorem mem_take_succ {l : List (Int × Int)} {x : Int × Int} {q : Nat} (h : q < l.length) : decide (x ∈ l.take (q + 1)) = (decide (x ∈ l.take q) || decide (l[q] = x)) := by
  rw [List.take_succ_eq_append_getElem h]
  rw [Bool.eq_iff_iff]
  simp only [List.mem_append, List.mem_singleton, Bool.or_eq_true, decide_eq_true_eq]
  exact or_congr Iff.rfl eq_comm
theorem mem_take_all {l : List (Int × Int)} {x : Int × Int} {q : Nat} (h : l.length ≤ q) : decide (x ∈ l.take q) = decide (x ∈ l) := by rw [List.take_of_length_le h]
theorem OwnN.cell {w : World} {base : Nat} {q : Option Addr} {c : Nat} {l : List (Int × Int)} (h : OwnN w base (.slice q l.length c) l) {j : Nat} (hj : j < l.length) :
    ∃ g, q = some ⟨g, 0, none⟩ ∧ base ≤ g ∧ g < w.heap.size ∧ w.cell? ⟨g, j * 2, none⟩ = some (.int .i64 l[j].1) ∧ w.cell? ⟨g, j * 2 + 1, none⟩ = some (.int .i64 l[j].2) := by
  have hk := h
  rcases h.2 with ⟨h1, h2⟩ | ⟨g, cap, cur, hv, hb, hg, hn, hm, hs, ht⟩
  · omega
  · cases hv
    obtain ⟨e1, e2⟩ := netCells_get l j hj
    have h3 := hk.cells (g := g) rfl _ _ e1
    have h4 := hk.cells (g := g) rfl _ _ e2
    rw [addr_add] at h3 h4
    rw [Nat.mul_comm j 2]
    exact ⟨g, rfl, hb, heap_lt hg, h3, h4⟩

theorem Tryd.infoNet : (Tryd.prog.info? 28).map (fun i => (i.zero, i.size, i.bytes)) = some (some (.agg #[.int .i64 0, .int .i64 0]), 2, 16) := by kernel_rfl

theorem setCell_size (w : World) (a : Addr) (v : Value) : (w.setCell a v).heap.size = w.heap.size := by simp [World.setCell]
theorem PutAt.setN {w W : World} {l : List (Int × Int) × List (Int × Int)} {vg vn : Value} {x y : Int} (h : PutAt w W l vg vn) :
    PutAt w ((W.setCell ⟨w.heap.size, 1, none⟩ (.slice (some ⟨W.heap.size, 0, none⟩) 1 1)).alloc (.cells #[.int .i64 x, .int .i64 y] 28)) (l.1, [(x, y)]) vg (.slice (some ⟨W.heap.size, 0, none⟩) 1 1) := by
  have hlt := heap_lt h.blk
  have hs := h.be.size
  refine ⟨(Below.heap_alloc _ _ _ (by rw [setCell_size]; exact hlt)).trans (heap_set h.blk), ?_, ?_, ?_, ?_⟩
  · exact owns_of h.og (fun k hk => (Below.heap_alloc _ _ _ (by rw [setCell_size]; exact (h.og.lt k hk).2)).trans (heap_set_other (by have := (h.og.lt k hk).1; simp only; omega)))
  · refine ⟨by simp [netCells], Or.inr ⟨W.heap.size, 1, #[.int .i64 x, .int .i64 y], rfl, by omega, ?_, by simp, by simp [maxLen], rfl, by simp [netCells]⟩⟩
    have := heap_alloc_new (W.setCell ⟨w.heap.size, 1, none⟩ (.slice (some ⟨W.heap.size, 0, none⟩) 1 1)) (.cells #[.int .i64 x, .int .i64 y] 28)
    rw [setCell_size] at this
    exact this
  · intro k hk hk2
    have e : W.heap.size = k := by simpa [Value.ownBlock] using hk2
    have := (h.og.lt k hk).2; omega
  · exact ((h.be.setCell (Nat.le_refl _) _).alloc (by rw [setCell_size]; exact hs) _)
theorem sameNet_self (a : Int × Int) (w : World) :
    Calls Tryd.prog 6 #[.agg #[.int .i64 a.1, .int .i64 a.2], .agg #[.int .i64 a.1, .int .i64 a.2]] w fun e w' => e = .returned (.bool true) ∧ Below w.heap.size w w' :=
  (sameNet_any a a w).mono fun e w' ⟨h, hb⟩ => ⟨by rw [h]; simp, hb⟩
theorem sameInts_self (a : List Int) (x y : Value) (w : World) (ha : IntsAt w x a) (hb : IntsAt w y a) :
    Calls Tryd.prog 11 #[x, y] w fun e w' => e = .returned (.bool true) ∧ Below w.heap.size w w' :=
  (sameInts_any a a x y w ha hb).mono fun e w' ⟨h, hb⟩ => ⟨by rw [h]; simp, hb⟩
theorem OwnN.next {w w' : World} {base : Nat} {v : Value} {l : List (Int × Int)} (h : OwnN w base v l) (hb : Below w.heap.size w w') : OwnN w' base v l := owns_of h (fun k hk => hb.block k (h.lt k hk).2)
theorem OwnI.next {w w' : World} {base : Nat} {v : Value} {l : List Int} (h : OwnI w base v l) (hb : Below w.heap.size w w') : OwnI w' base v l := owns_of h (fun k hk => hb.block k (h.lt k hk).2)
theorem own_six {w : World} {base : Nat} {e : TypeId} {size : Nat} {v : Value} {n : Nat} {xs : List Value} (h : w.ownsRow base e size v n xs) {b : Nat} (hb : b < base) (x0 x1 x2 x3 x4 x5 : Value) :
    ((((((w.setCell ⟨b, 0, none⟩ x0).setCell ⟨b, 1, none⟩ x1).setCell ⟨b, 2, none⟩ x2).setCell ⟨b, 3, none⟩ x3).setCell ⟨b, 4, none⟩ x4).setCell ⟨b, 5, none⟩ x5).ownsRow base e size v n xs :=
  owns_of h (fun k hk => by
    have hne : k ≠ b := by have := (h.lt k hk).1; omega
    rw [heap_set_other hne, heap_set_other hne, heap_set_other hne, heap_set_other hne, heap_set_other hne, heap_set_other hne])
theorem below_six {w w' : World} {B b : Nat} (h : Below B w w') (hb : B ≤ b) (x0 x1 x2 x3 x4 x5 : Value) :
    Below B w ((((((w'.setCell ⟨b, 0, none⟩ x0).setCell ⟨b, 1, none⟩ x1).setCell ⟨b, 2, none⟩ x2).setCell ⟨b, 3, none⟩ x3).setCell ⟨b, 4, none⟩ x4).setCell ⟨b, 5, none⟩ x5) :=
  (((((h.setCell hb _).setCell hb _).setCell hb _).setCell hb _).setCell hb _).setCell hb _
theorem BytesAt.conv {w : World} {v : Value} {l : List Int} (h : BytesAt w v l) : (convert 23 9 v).run Tryd.prog w = .ok (.string (strOfNums l)) w := by
  obtain ⟨p, c, rfl, hcap, hl, hin, hr⟩ := h
  have hs : Tryd.prog.underlying 23 = some (.slice 5) := Tryd.underlying23
  have he : Tryd.prog.underlying 5 = some (.int .u8) := Tryd.underlying5
  have hd : Tryd.prog.underlying 9 = some .string := Tryd.underlying9
  rcases hr with ⟨rfl, _⟩ | ⟨b, o, rfl, hb, hc⟩
  · rw [run_convert_bytes_string w _ _ _ _ _ _ hs he hd]
    cases p with
    | none => simp [Conv.bytesToString]; rfl
    | some a =>
      have hl0 : (loadCells a 0).run Tryd.prog w = .ok (([] : List Int).map (Value.int .u8)).toArray w := by simpa using run_loadCells_list (P := Tryd.prog) w a [] (fun j v hj => by simp at hj)
      exact (run_bytesToString w a 0 c [] hl0).trans rfl
  · exact run_convert_bytes_arg w _ _ hs he b o l.length c l rfl (fun i hi => by rw [hc i hi]; simp [List.getD, List.getElem?_eq_getElem hi]) _ hd
/-- the message, whole, in its block -/
structure UAt (w W : World) (vg vn vp vm : Value) (u : Msg) : Prop where
  blk : W.heap[w.heap.size]? = some (.cells #[vg, vn, vp, vm, .int .i64 u.pref, .int .i64 u.med] 26 (0, 0))
  og : OwnN W (w.heap.size + 1) vg u.gone
  on : OwnN W (w.heap.size + 1) vn u.nets
  op : OwnI W (w.heap.size + 1) vp u.path
  om : OwnI W (w.heap.size + 1) vm u.marks
  be : Below w.heap.size w W
theorem UAt.next {w W W' : World} {vg vn vp vm : Value} {u : Msg} (h : UAt w W vg vn vp vm u) (hb : Below W.heap.size W W') : UAt w W' vg vn vp vm u :=
  ⟨(hb.block _ (heap_lt h.blk)).trans h.blk, owns_of h.og (fun k hk => hb.block k (h.og.lt k hk).2), owns_of h.on (fun k hk => hb.block k (h.on.lt k hk).2),
   owns_of h.op (fun k hk => hb.block k (h.op.lt k hk).2), owns_of h.om (fun k hk => hb.block k (h.om.lt k hk).2), h.be.trans (hb.mono h.be.size)⟩
theorem PutAt.whole {w W : World} {g n : List (Int × Int)} {p m : List Int} {a b : Int} {vg vn vp vm : Value} (h : PutAt w W (g, n) vg vn) (hp : OwnI W (w.heap.size + 1) vp p) (hm : OwnI W (w.heap.size + 1) vm m) (o : Obj) :
    UAt w (((((W.setCell ⟨w.heap.size, 2, none⟩ vp).setCell ⟨w.heap.size, 3, none⟩ vm).setCell ⟨w.heap.size, 4, none⟩ (.int .i64 a)).setCell ⟨w.heap.size, 5, none⟩ (.int .i64 b)).alloc o) vg vn vp vm ⟨g, n, p, m, a, b⟩ := by
  have hlt := heap_lt h.blk
  have hs := h.be.size
  have hsz : ∀ x1 x2 x3 x4 : Value, ((((W.setCell ⟨w.heap.size, 2, none⟩ x1).setCell ⟨w.heap.size, 3, none⟩ x2).setCell ⟨w.heap.size, 4, none⟩ x3).setCell ⟨w.heap.size, 5, none⟩ x4).heap.size = W.heap.size := fun x1 x2 x3 x4 => by simp only [setCell_size]
  have keep : ∀ k, w.heap.size + 1 ≤ k → k < W.heap.size → (((((W.setCell ⟨w.heap.size, 2, none⟩ vp).setCell ⟨w.heap.size, 3, none⟩ vm).setCell ⟨w.heap.size, 4, none⟩ (.int .i64 a)).setCell ⟨w.heap.size, 5, none⟩ (.int .i64 b)).alloc o).heap[k]? = W.heap[k]? := fun k h1 h2 => by
    rw [Below.heap_alloc _ _ _ (by rw [hsz]; exact h2), heap_set_other (by simp only; omega), heap_set_other (by simp only; omega), heap_set_other (by simp only; omega), heap_set_other (by simp only; omega)]
  refine ⟨(Below.heap_alloc _ _ _ (by rw [hsz]; exact hlt)).trans (heap_set (heap_set (heap_set (heap_set h.blk)))), ?_, ?_, ?_, ?_, ?_⟩
  · exact owns_of h.og (fun k hk => keep k (h.og.lt k hk).1 (h.og.lt k hk).2)
  · exact owns_of h.on (fun k hk => keep k (h.on.lt k hk).1 (h.on.lt k hk).2)
  · exact owns_of hp (fun k hk => keep k (hp.lt k hk).1 (hp.lt k hk).2)
  · exact owns_of hm (fun k hk => keep k (hm.lt k hk).1 (hm.lt k hk).2)
  · exact ((((h.be.setCell (Nat.le_refl _) _).setCell (Nat.le_refl _) _).setCell (Nat.le_refl _) _).setCell (Nat.le_refl _) _).alloc (by rw [hsz]; exact hs) _
theorem netOk_in {x : Int × Int} (h : netOk x) : inI x.1 ∧ inI x.2 := by
  obtain ⟨⟨a, b⟩, ⟨c, d⟩, _⟩ := h
  unfold inI; omega
theorem pathOk_in {p : List Int} (h : pathOk p) : ∀ x ∈ p, inI x := fun x hx => by have := h.2 x hx; unfold inI; omega
theorem marksOk_in {p : List Int} (h : marksOk p) : ∀ x ∈ p, inI x := fun x hx => by have := rises_all h.2 x hx; unfold inI; omega
/-- a message in memory can be read: what Encode asks -/
theorem UAt.reads {w W : World} {vg vn vp vm : Value} {u : Msg} (h : UAt w W vg vn vp vm u) (hm : msgOk u) :
    NetsAt W vg u.gone ∧ NetsAt W vn u.nets ∧ IntsAt W vp u.path ∧ IntsAt W vm u.marks ∧ inI u.pref ∧ inI u.med := by
  obtain ⟨⟨h1, h2, _⟩, hp, hmk, h5, h4, _⟩ := hm
  simp only [List.length_append] at h1
  refine ⟨h.og.at_ (fun x hx => netOk_in (h2 x (by simp [hx]))) (by omega), h.on.at_ (fun x hx => netOk_in (h2 x (by simp [hx]))) (by omega), IntsAt.own h.op (pathOk_in hp) (by have := hp.1; omega), IntsAt.own h.om (marksOk_in hmk) (by have := hmk.1; omega), ?_, ?_⟩
  · have := h5; unfold numOk at this; unfold inI; omega
  · have := h4; unfold numOk at this; unfold inI; omega
theorem encP_len {u : Msg} (h : msgOk u) : 4 ≤ (encP u).length ∧ (encP u).length ≤ 266 := by
  have l2 := attsB_len h
  have hlen := h.1.1
  have l1 := netsB_len (l := u.gone) (fun x hx => h.1.2.1 x (by simp [hx]))
  have l3 := netsB_len (l := u.nets) (fun x hx => h.1.2.1 x (by simp [hx]))
  simp only [List.length_append] at hlen
  unfold encP
  simp only [List.length_append, twoB_len]
  omega
end Go.Proofs.YtjpajfbacmndfaaDoor
