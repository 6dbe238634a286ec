/- Contracts of Go's own library, laid at this program (written by shelf.py). -/
import Derived.Ground.Names2Prog
import Derived.Shelf.Spec.SlicesInsertGrow
import Derived.Test.YtgdeeodifnegiaaGreatDoorChecked
import Derived.Test.YtgdeeodifnegiaaGreatDoorRunE
import Derived.Test.YtgdeeodifnegiaaGreatDoorRdrO
import Derived.Shelf.Slices.Cells
import Derived.Shelf.Slices.Empties
namespace Go.Proofs
open Go.Shelf
def Tryz.shIns_ren : Go.Shelf.Ren := ⟨fun | 21 => 274 | 27 => 319 | 28 => 320 | 35 => 348 | 39 => 362 | n => n, fun | 22 => 26 | 3 => 3 | 4 => 4 | 0 => 0 | n => n, fun | n => n⟩
theorem Tryz.shIns : Go.Proofs.Lays2.n21 Tryz.prog Tryz.shIns_ren := {
  mixed := by kernel_rfl
  f21 := Tryz.func274.trans (congrArg some (by kernel_rfl))
  f27 := Tryz.func319.trans (congrArg some (by kernel_rfl))
  f28 := Tryz.func320.trans (congrArg some (by kernel_rfl))
  f35 := Tryz.func348.trans (congrArg some (by kernel_rfl))
  f39 := Tryz.func362.trans (congrArg some (by kernel_rfl))
  t0 := Tryz.underlying0
  a0 := Tryz.isAgg0
  z0 := Tryz.sizeOf0
  v0 := Tryz.zeroValue0
  t3 := Tryz.underlying3
  a3 := Tryz.isAgg3
  z3 := Tryz.sizeOf3
  v3 := Tryz.zeroValue3
  t4 := Tryz.underlying4
  a4 := Tryz.isAgg4
  z4 := Tryz.sizeOf4
  v4 := Tryz.zeroValue4
  t22 := Tryz.underlying26
  a22 := Tryz.isAgg26
  z22 := Tryz.sizeOf26
  v22 := Tryz.zeroValue26
  i3 := by kernel_rfl }
end Go.Proofs

namespace Go.Proofs.YtgdeeodifnegiaaGreatDoor
open Go.RowKit

theorem setCells_heap {b : Nat} {T : TypeId} {z : Nat × Nat} : ∀ (vs : List Value) (o : Nat) (w : World) (cur : Array Value), w.heap[b]? = some (.cells cur T z) → o + vs.length ≤ cur.size →
    ∃ cur', (w.setCells b o vs).heap[b]? = some (.cells cur' T z) ∧ cur'.size = cur.size ∧ ∀ j, cur'[j]? = if o ≤ j ∧ j < o + vs.length then vs[j - o]? else cur[j]?
  | [], o, w, cur, h, _ => ⟨cur, h, rfl, fun j => by rw [if_neg]; simp⟩
  | v :: r, o, w, cur, h, hl => by
    obtain ⟨cur', h1, h2, h3⟩ := setCells_heap r (o + 1) (w.setCell ⟨b, o, none⟩ v) (cur.setIfInBounds o v) (heap_set h) (by simp at hl ⊢; omega)
    refine ⟨cur', h1, by rw [h2]; simp, fun j => ?_⟩
    rw [h3 j]
    simp only [List.length_cons] at hl ⊢
    by_cases hj : o ≤ j ∧ j < o + (r.length + 1)
    · rw [if_pos hj]
      by_cases he : j = o
      · subst he
        rw [if_neg (by omega), Array.getElem?_setIfInBounds_self_of_lt (by omega)]; simp
      · rw [if_pos (by omega), show j - o = (j - (o + 1)) + 1 by omega]; simp
    · rw [if_neg hj, if_neg (by omega), Array.getElem?_setIfInBounds_ne (by omega)]
theorem setCells_grown (b : Nat) : ∀ (vs : List Value) (o : Nat) (w w0 : World) (row : Option Nat), w0.grownBy w row → (row = some b ∨ w0.heap.size ≤ b) → w0.grownBy (w.setCells b o vs) row
  | [], _, _, _, _, h, _ => h
  | v :: r, o, w, w0, row, h, hb => setCells_grown b r (o + 1) _ _ _ ⟨h.os, h.tape, h.output, by simpa [World.setCell] using h.size, fun k hk hn => (heap_set_other (fun e => by
      have e' : k = b := e
      subst e'
      rcases hb with hb | hb
      · exact hn hb.symm
      · omega)).trans (h.block k hk hn)⟩ hb
theorem owns_int_of {w : World} {g cap : Nat} {cur : Array Value} {l : List Int} (h : w.heap[g]? = some (.cells cur 3 (0, 0))) (hn : l.length ≤ cap) (hc : cap ≤ maxLen) (hs : cur.size = cap) (hx : ∀ (j : Nat) (x : Int), l[j]? = some x → cur[j]? = some (Value.int .i64 x)) :
    w.ownsRow 0 3 1 (.slice (some ⟨g, 0, none⟩) l.length cap) l.length (intCells l) := by
  refine ⟨by simp [intCells], Or.inr ⟨g, cap, cur, rfl, Nat.zero_le _, h, hn, hc, by omega, ?_⟩⟩
  refine List.ext_getElem? (fun j => ?_)
  rw [List.getElem?_take, Nat.mul_one]
  by_cases hj : j < l.length
  · rw [if_pos hj]
    have h1 := hx j l[j] (List.getElem?_eq_getElem hj)
    simp [intCells, List.getElem?_eq_getElem hj]
    simpa using h1
  · rw [if_neg hj]
    simp [intCells, List.getElem?_eq_none (Nat.le_of_not_lt hj)]
theorem intCells_get {l : List Int} {j : Nat} {v : Value} (h : (intCells l)[j]? = some v) : ∃ x, l[j]? = some x ∧ v = .int .i64 x := by
  simp only [intCells, List.getElem?_map] at h
  cases hj : l[j]? with
  | none => rw [hj] at h; cases h
  | some x => rw [hj] at h; exact ⟨x, rfl, by simpa using h.symm⟩
theorem ins_get {l : List Int} {i : Nat} {x : Int} (hi : i ≤ l.length) (j : Nat) : (l.take i ++ x :: l.drop i)[j]? = if j < i then l[j]? else if j = i then some x else l[j - 1]? := by
  have hlt : (l.take i).length = i := by simp; omega
  by_cases h1 : j < i
  · rw [if_pos h1, List.getElem?_append_left (by omega), List.getElem?_take, if_pos h1]
  · rw [if_neg h1, List.getElem?_append_right (by omega), hlt]
    by_cases h2 : j = i
    · rw [if_pos h2, h2]; simp
    · rw [if_neg h2, show j - i = (j - i - 1) + 1 by omega, List.getElem?_cons_succ, List.getElem?_drop]
      congr 1; omega

theorem ins_len (l : List Int) (i : Nat) (x : Int) : (l.take i ++ x :: l.drop i).length = l.length + 1 := by simp; omega
/-- what is there behind slices.Insert(v, i, x) -/
def InsRes (w : World) (v : Value) (l' : List Int) (e : Ending) (w' : World) : Prop :=
  ∃ v', e = .returned v' ∧ w'.ownsRow 0 3 1 v' l'.length (intCells l') ∧ w.grownBy w' v.ownBlock ∧ (v'.ownBlock = v.ownBlock ∨ v'.ownBlock = some w.heap.size)
theorem grown_refl (w : World) (row : Option Nat) : w.grownBy w row := ⟨rfl, rfl, rfl, Nat.le_refl _, fun _ _ _ => rfl⟩
theorem grown_drew {w0 w : World} {row : Option Nat} (h : w0.grownBy w row) : w0.grownBy w.drew row := ⟨h.os, h.tape, h.output, h.size, h.block⟩
theorem grown_alloc {w0 w : World} {row : Option Nat} (h : w0.grownBy w row) (o : Obj) : w0.grownBy (w.alloc o) row :=
  ⟨h.os, h.tape, h.output, by rw [World.size_alloc]; have := h.size; omega, fun k hk hn => (Below.heap_alloc _ _ _ (by have := h.size; omega)).trans (h.block k hk hn)⟩
theorem one1 (l : List Int) : ∀ v ∈ intCells l, v.oneCell' = true := fun v hv => by
  simp only [intCells, List.mem_map] at hv
  obtain ⟨x, _, rfl⟩ := hv; rfl

set_option maxRecDepth 100000 in
theorem ins_any (w : World) (v : Value) (l : List Int) (i : Nat) (x : Int) (vb : Nat) (hv : w.ownsRow 0 3 1 v l.length (intCells l)) (hi : i ≤ l.length) (hl : l.length ≤ 1000) (hb : w.heap[vb]? = some (.cells #[.int .i64 x] 3 (0, 0))) (hne : v.ownBlock ≠ some vb) :
    Calls Tryz.prog 274 #[v, .int .i64 (i : Int), .slice (some ⟨vb, 0, none⟩) 1 1] w (InsRes w v (l.take i ++ x :: l.drop i)) := by
  have hvs : ∀ j u, ([.int .i64 x] : List Value)[j]? = some u → w.cell? ⟨vb, 0 + j, none⟩ = some u := fun j u hu => by
    rw [cell_of_heap hb, Nat.zero_add]
    cases j with
    | zero => simpa using hu
    | succ j => simp at hu
  have h1v : ∀ u ∈ ([.int .i64 x] : List Value), u.oneCell' = true := fun u hu => by simp at hu; subst hu; rfl
  have hvb := heap_lt hb
  have hcl : (intCells l).length = l.length := by simp [intCells]
  -- a new row, by append
  have endGrow : ∀ (base : Option Addr) (c : Nat), l.length ≤ c → c < l.length + 1 → (base = none → l.length = 0) → (∀ a, base = some a → ∀ j u, (intCells l)[j]? = some u → w.cell? (a.add j) = some u) → v = .slice base l.length c →
      Calls Tryz.prog 274 #[v, .int .i64 (l.length : Int), .slice (some ⟨vb, 0, none⟩) 1 1] w (InsRes w v (l.take l.length ++ x :: l.drop l.length)) := fun base c hc1 hc2 hbn hcs hv => by
    subst hv
    refine (Any2.slices_Insert_int_end_grow Tryz.shIns base l.length c vb 0 1 1 (intCells l) [.int .i64 x] w (by omega) hc1 hc2 (by omega) hcl rfl hbn hcs hvs h1v).mono ?_
    rintro e w' ⟨rfl, rfl⟩
    have hge := grownCap_ge w (l.length + 1) c 3
    have hle := grownCap_le_maxLen w (l.length + 1) c 3 (by unfold maxLen; omega)
    have hn := heap_alloc_new w.drew (.cells ((intCells l ++ [Value.int .i64 x]).toArray ++ Builtin.zeroCells (Value.int .i64 0).cells (grownCap w (l.length + 1) c 3 - (l.length + 1))) 3)
    refine ⟨_, rfl, ?_, grown_alloc (grown_drew (grown_refl _ _)) _, Or.inr rfl⟩
    have hg := owns_int_of (g := w.heap.size) (cap := grownCap w (l.length + 1) c 3) (l := l.take l.length ++ x :: l.drop l.length) hn (by rw [ins_len]; exact hge) hle (by simp [Builtin.zeroCells, Value.cells, intCells]; omega) (fun j y hy => by
      have hj : j < l.length + 1 := by
        have := (List.getElem?_eq_some_iff.mp hy).1
        rw [ins_len] at this; exact this
      rw [Array.getElem?_append_left (by simp [intCells]; omega)]
      simp only [List.take_length, List.drop_length] at hy
      simp only [List.getElem?_toArray, intCells]
      rw [show (l.map (fun x => Value.int .i64 x) ++ [.int .i64 x] : List Value) = (l ++ [x]).map (fun x => Value.int .i64 x) by simp, List.getElem?_map, hy]; rfl)
    rw [ins_len] at hg
    rw [ins_len]
    exact hg
  obtain ⟨_, hv2⟩ := hv
  rcases hv2 with ⟨rfl, h0⟩ | ⟨g, cap, cur, rfl, _, hg, hnc, hcm, hcs, htk⟩
  · obtain rfl : i = l.length := by omega
    exact endGrow none 0 (by omega) (by omega) (fun _ => h0) (fun a e => by cases e) (by rw [h0])
  · rw [Nat.mul_one] at hcs htk
    have hgv : g ≠ vb := fun e => hne (by rw [e]; rfl)
    have hc0 : ∀ j u, (intCells l)[j]? = some u → cur[j]? = some u := fun j u hu => by
      have hj : j < l.length := by have := (List.getElem?_eq_some_iff.mp hu).1; rw [hcl] at this; exact this
      rw [← htk, List.getElem?_take, if_pos hj] at hu
      simpa using hu
    have hcells : ∀ j u, (intCells l)[j]? = some u → w.cell? ⟨g, 0 + j, none⟩ = some u := fun j u hu => by
      rw [cell_of_heap hg, Nat.zero_add]; exact hc0 j u hu
    have hm63 : cap ≤ 9223372036854775807 := by unfold maxLen at hcm; omega
    by_cases hroom : l.length + 1 ≤ cap
    · by_cases hin : i = l.length
      · subst hin
        refine (Any2.slices_Insert_int_end_room Tryz.shIns g 0 l.length cap vb 0 1 1 [.int .i64 x] w (by omega) hroom hm63 rfl (fun j hj => by rw [cell_of_heap hg, Array.getElem?_eq_getElem (by omega)]; rfl) (fun j hj => frozen_of_heap hg) hvs h1v).mono ?_
        rintro e w' ⟨rfl, rfl⟩
        obtain ⟨cur', q1, q2, q3⟩ := setCells_heap [.int .i64 x] (0 + l.length) w cur hg (by simp; omega)
        refine ⟨_, rfl, ?_, setCells_grown g _ _ _ _ _ (grown_refl _ _) (Or.inl rfl), Or.inl rfl⟩
        have hgo := owns_int_of (g := g) (cap := cap) (l := l.take l.length ++ x :: l.drop l.length) q1 (by rw [ins_len]; exact hroom) hcm (by omega) (fun j y hy => by
          rw [ins_get (Nat.le_refl _)] at hy
          rw [q3 j]
          by_cases h1 : j < l.length
          · rw [if_pos h1] at hy
            rw [if_neg (by simp; omega)]
            exact hc0 j _ (by simp [intCells, hy])
          · rw [if_neg h1] at hy
            by_cases h2 : j = l.length
            · rw [if_pos h2] at hy
              rw [if_pos (by simp; omega), h2]; simpa using hy
            · rw [if_neg h2] at hy
              have := (List.getElem?_eq_some_iff.mp hy).1; omega)
        rw [ins_len] at hgo
        rw [ins_len]
        exact hgo
      · have hin' : i < l.length := by omega
        refine (Any2.slices_Insert_int_shift Tryz.shIns g 0 l.length cap i vb 0 1 1 (intCells l) [.int .i64 x] w hin' (by omega) hroom hm63 (Ne.symm hgv) hcl rfl hcells (fun j hj => by rw [cell_of_heap hg, Array.getElem?_eq_getElem (by omega)]; rfl) (fun j hj => frozen_of_heap hg) hvs (one1 l) h1v 3 3 1 cur.size (by simp [World.shape?, hb]) (by simp [World.shape?, hg]) (by omega) (frozen_of_heap hb) (frozen_of_heap hb)).mono ?_
        rintro e w' ⟨rfl, rfl⟩
        have hdl : ((intCells l).drop i).length = l.length - i := by rw [List.length_drop, hcl]
        obtain ⟨cur1, p1, p2, p3⟩ := setCells_heap ((intCells l).drop i) (0 + (i + 1)) w.drew cur hg (by rw [hdl]; omega)
        obtain ⟨cur', q1, q2, q3⟩ := setCells_heap [.int .i64 x] (0 + i) (w.drew.setCells g (0 + (i + 1)) ((intCells l).drop i)) cur1 p1 (by simp; omega)
        refine ⟨_, rfl, ?_, setCells_grown g _ _ _ _ _ (setCells_grown g _ _ _ _ _ (grown_drew (grown_refl _ _)) (Or.inl rfl)) (Or.inl rfl), Or.inl rfl⟩
        have hgo := owns_int_of (g := g) (cap := cap) (l := l.take i ++ x :: l.drop i) q1 (by rw [ins_len]; exact hroom) hcm (by omega) (fun j y hy => by
          have hjl : j < l.length + 1 := by
            have := (List.getElem?_eq_some_iff.mp hy).1
            rw [ins_len] at this; exact this
          rw [ins_get hi] at hy
          rw [q3 j]
          by_cases h1 : j < i
          · rw [if_pos h1] at hy
            rw [if_neg (by simp; omega), p3 j, if_neg (by omega)]
            exact hc0 j _ (by simp [intCells, hy])
          · rw [if_neg h1] at hy
            by_cases h2 : j = i
            · rw [if_pos h2] at hy
              rw [if_pos (by simp; omega), h2]; simpa using hy
            · rw [if_neg h2] at hy
              rw [if_neg (by simp; omega), p3 j, if_pos (by rw [hdl]; omega), List.getElem?_drop, show i + (j - (0 + (i + 1))) = j - 1 by omega]
              simp [intCells, hy])
        rw [ins_len] at hgo
        rw [ins_len]
        exact hgo
    · by_cases hin : i = l.length
      · subst hin
        exact endGrow (some ⟨g, 0, none⟩) cap hnc (by omega) (fun e => by cases e) (fun a ha j u hu => by cases ha; rw [Addr.add_lit]; exact hcells j u hu) rfl
      · have hin' : i < l.length := by omega
        refine (Any2.slices_Insert_int_grow Tryz.shIns g 0 l.length cap i vb 0 1 1 (intCells l) [.int .i64 x] w hin' (by omega) hnc (by omega) (by omega) hcl rfl hcells hvs (one1 l) h1v).mono ?_
        rintro e w' ⟨rfl, rfl⟩
        have hge := grownCap_ge w (l.length + 1) cap 3
        have hle := grownCap_le_maxLen w (l.length + 1) cap 3 (by unfold maxLen; omega)
        obtain ⟨ROW, hROW⟩ : ∃ ROW : Array Value, ROW = ((intCells l).take i).toArray ++ Builtin.zeroCells (Value.int .i64 0).cells (l.length + 1 - i) ++ Builtin.zeroCells (Value.int .i64 0).cells (grownCap w (l.length + 1) cap 3 - (l.length + 1)) := ⟨_, rfl⟩
        have hRs : ROW.size = grownCap w (l.length + 1) cap 3 := by
          rw [hROW]; simp [Builtin.zeroCells, Value.cells, hcl]; omega
        have hRt : ∀ j u, j < i → (intCells l)[j]? = some u → ROW[j]? = some u := fun j u hj hu => by
          rw [hROW, Array.append_assoc, Array.getElem?_append_left (by simp [hcl]; omega), List.getElem?_toArray, List.getElem?_take, if_pos hj, hu]
        show InsRes w _ _ _ ((((w.alloc (.cells (((intCells l).take i).toArray ++ Builtin.zeroCells (Value.int .i64 0).cells (l.length + 1 - i) ++ Builtin.zeroCells (Value.int .i64 0).cells (grownCap w (l.length + 1) cap 3 - (l.length + 1))) 3)).drew.setCells w.heap.size i [.int .i64 x]).drew).setCells w.heap.size (i + 1) ((intCells l).drop i))
        rw [← hROW]
        have hn := heap_alloc_new w (.cells ROW 3)
        have hdl : ((intCells l).drop i).length = l.length - i := by rw [List.length_drop, hcl]
        obtain ⟨cur1, p1, p2, p3⟩ := setCells_heap [.int .i64 x] i (w.alloc (.cells ROW 3)).drew ROW hn (by simp; omega)
        obtain ⟨cur', q1, q2, q3⟩ := setCells_heap ((intCells l).drop i) (i + 1) ((w.alloc (.cells ROW 3)).drew.setCells w.heap.size i [.int .i64 x]).drew cur1 p1 (by rw [hdl]; omega)
        refine ⟨_, rfl, ?_, setCells_grown _ _ _ _ _ _ (grown_drew (setCells_grown _ _ _ _ _ _ (grown_drew (grown_alloc (grown_refl _ _) _)) (Or.inr (Nat.le_refl _)))) (Or.inr (Nat.le_refl _)), Or.inr rfl⟩
        have hgo := owns_int_of (g := w.heap.size) (cap := grownCap w (l.length + 1) cap 3) (l := l.take i ++ x :: l.drop i) q1 (by rw [ins_len]; exact hge) hle (by omega) (fun j y hy => by
          have hjl : j < l.length + 1 := by
            have := (List.getElem?_eq_some_iff.mp hy).1
            rw [ins_len] at this; exact this
          rw [ins_get hi] at hy
          rw [q3 j]
          by_cases h1 : j < i
          · rw [if_pos h1] at hy
            rw [if_neg (by omega), p3 j, if_neg (by omega)]
            exact hRt j _ h1 (by simp [intCells, hy])
          · rw [if_neg h1] at hy
            by_cases h2 : j = i
            · rw [if_pos h2] at hy
              rw [if_neg (by omega), p3 j, if_pos (by simp; omega), h2]; simpa using hy
            · rw [if_neg h2] at hy
              rw [if_pos (by rw [hdl]; omega), List.getElem?_drop, show i + (j - (i + 1)) = j - 1 by omega]
              simp [intCells, hy])
        rw [ins_len] at hgo
        rw [ins_len]
        exact hgo
end Go.Proofs.YtgdeeodifnegiaaGreatDoor

namespace Go.Proofs.YtgdeeodifnegiaaGreatDoor
open Go.RowKit

theorem RtAt.ins {W W1 w2 : World} {b : Nat} {r : Rt} {pv mv v' : Value} {l' : List Int} (h : RtAt W b r pv mv) (hb : Below W.heap.size W W1) (hl : l'.length ≤ 12)
    (ho : w2.ownsRow 0 3 1 v' l'.length (intCells l')) (hg : W1.grownBy w2 pv.ownBlock) (hat : v'.ownBlock = pv.ownBlock ∨ v'.ownBlock = some W1.heap.size) :
    RtAt (w2.setCell ⟨b, 2, none⟩ v') b { r with path := l' } v' mv ∧ Fr (RtOwn b pv mv) W (RtOwn b v' mv) (w2.setCell ⟨b, 2, none⟩ v') := by
  have hbl := heap_lt h.blk
  have hsz := hb.size
  have hbk : w2.heap[b]? = W.heap[b]? := (hg.block b (by omega) (fun e => h.ne1 e.symm)).trans (hb.block b hbl)
  have hmk : ∀ k, mv.ownBlock = some k → w2.heap[k]? = W.heap[k]? := fun k e => by
    have hk := (h.marks.lt k e).2
    refine (hg.block k (by omega) (fun e2 => ?_)).trans (hb.block k hk)
    rcases h.ne3 with h1 | h1
    · rw [h1] at e2; cases e2
    · exact h1 (e2.symm.trans e.symm)
  have hvb : v'.ownBlock ≠ some b := fun e => by
    rcases hat with h1 | h1
    · exact h.ne1 (h1.symm.trans e)
    · rw [h1] at e; cases e; omega
  have hF : Fr (RtOwn b pv mv) W (RtOwn b pv mv) w2 := (Fr.of_below hb).grown hg (fun k e => Or.inl (Or.inr (Or.inl e)))
  refine ⟨⟨?_, owns_of ho (fun k e => heap_set_other (fun e2 => hvb (by rw [e]; exact congrArg some e2))), owns_of h.marks (fun k e => (heap_set_other (fun e2 => h.ne2 (by rw [e]; exact congrArg some e2))).trans (hmk k e)), hvb, h.ne2, ?_, hl, h.n2, h.srt⟩, ?_⟩
  · rw [heap_set (hbk.trans h.blk)]; rfl
  · rcases hat with h1 | h1
    · rw [h1]; exact h.ne3
    · right; rw [h1]; intro e
      have := (h.marks.lt _ e.symm).2; omega
  · refine (hF.reown (O2 := RtOwn b v' mv) (fun k hk => ?_)).setCell (Or.inl (Or.inl rfl)) _
    rcases hk with h1 | h1 | h1
    · exact Or.inl (Or.inl h1)
    · rcases hat with h2 | h2
      · exact Or.inl (Or.inr (Or.inl (h2.symm.trans h1)))
      · rw [h2] at h1; cases h1; exact Or.inr hsz
    · exact Or.inl (Or.inr (Or.inr h1))
set_option maxRecDepth 100000 in
set_option maxHeartbeats 1000000 in
theorem prepend_run (W : World) (B : Nat) (n : Int) (hb : W.cell? ⟨B, 0, none⟩ = some (.int .i64 n)) (b : Nat) (r : Rt) (pv mv : Value) (h : RtAt W b r pv mv) :
    Calls Tryz.prog 278 (#[ptr4 b 0] ++ #[ptr4 B 0]) W (StpRes b pv mv W (prependM n r)) := by
  have HR := hide h
  obtain ⟨pa, pc, hpv⟩ := owns_form' h.path
  have c2 : W.cell? ⟨b, 2, none⟩ = some pv := cell_of_heap h.blk
  have n1 := h.n1
  by_cases hl : r.path.length = 12
  · have EQ := hide (show prependM n r = (r, 3) by rw [prependM, if_pos hl])
    clear h
    subst hpv
    have hl' : ((r.path.length : Nat) : Int) = 12 := by omega
    go_enter Tryz.func278, Tryz.ntmps278
    go_wp2_with fail
    all_goals first | (go_ret; rw [unhide EQ]; exact ⟨rfl, _, mv, unhide HR, Fr.refl _ _⟩) | skip
  · have EQ := hide (show prependM n r = ({ r with path := n :: r.path }, 0) by rw [prependM, if_neg hl])
    have hl' : ¬ ((r.path.length : Nat) : Int) = 12 := by omega
    have HI := hide (fun (W1 : World) (hW : Below W.heap.size W W1) (vb : Nat) (hvb : W1.heap[vb]? = some (.cells #[.int .i64 n] 3 (0, 0))) (hge : W.heap.size ≤ vb) =>
      ins_any W1 pv r.path 0 n vb (owns_of h.path (fun k e => hW.block k (h.path.lt k e).2)) (Nat.zero_le _) (by omega) hvb (fun e => by have := (h.path.lt _ e).2; omega))
    have z2 : W.frozen? ⟨b, 2, none⟩ = false := frozen_of_heap h.blk
    have hbl := heap_lt h.blk
    clear h
    subst hpv
    go_enter Tryz.func278, Tryz.ntmps278
    go_wp2_with fail
    go_region_with (go_at_call 274; refine ((unhide HI) _ ((Below.refl _ _).alloc (Nat.le_refl _) _).drew W.heap.size (heap_alloc_new W _) (Nat.le_refl _)).mono ?_; rintro e w2 ⟨v', rfl, ho, hg, hat⟩; obtain ⟨fa, fc, hf⟩ := owns_form' ho; have HX := hide ((unhide HR).ins ((Below.refl W.heap.size W).alloc (Nat.le_refl _) (.cells #[.int .i64 n] 3)).drew (by simp; omega) ho hg hat); have hbb : w2.heap[b]? = W.heap[b]? := (hg.block b (by simp; omega) (fun e => (unhide HR).ne1 e.symm)).trans (((Below.refl W.heap.size W).alloc (Nat.le_refl _) (.cells #[.int .i64 n] 3)).drew.block b hbl); have y2 : w2.cell? ⟨b, 2, none⟩ = some (.slice pa r.path.length pc) := (World.cell?_of_block (a := ⟨b, 2, none⟩) hbb).trans c2; have yz : w2.frozen? ⟨b, 2, none⟩ = false := (World.frozen?_of_block (a := ⟨b, 2, none⟩) hbb).trans z2; clear ho hg hat hbb; subst hf)
    all_goals
      go_wp2_with fail
      go_ret
      rw [unhide EQ]
      exact ⟨rfl, _, mv, (unhide HX).1, (unhide HX).2⟩
theorem Tryz.entPrepend : Enters Tryz.prog 278 := enters_of Tryz.func278 (by kernel_rfl) rfl
set_option maxRecDepth 100000 in
set_option maxHeartbeats 1000000 in
theorem prepend_call (w : World) (n : Int) :
    Calls Tryz.prog 226 #[.int .i64 n] w fun e w' => e = .returned (.func (.func 278) #[] #[ptr4 w.heap.size 0]) ∧ w' = w.alloc (box1 (.int .i64 n) 3) := by
  have hmf : ∀ (fn : Fn) (first cap : Array Value) (w : World), (Instr.makeFunc fn first cap).run Tryz.prog w = .ok (.func fn first cap) w := fun _ _ _ _ => rfl
  go_enter Tryz.func226, Tryz.ntmps226
  go_wp2_with fail
  go_ret
  exact ⟨rfl, rfl⟩
theorem prepend_said : MkSaid 226 prependM := by
  intro w n A hA
  refine (prepend_call w n).mono ?_
  rintro e w' ⟨rfl, rfl⟩
  refine ⟨_, rfl, rfl, Lasts.new (fun k => k = w.heap.size) (fun k hk => ⟨by subst hk; simp, hA k (by omega)⟩) (fun W hW hk => ?_)⟩
  exact ⟨_, _, rfl, Tryz.entPrepend, fun b r pv mv hr _ => prepend_run W _ n (cell1 (hk _ rfl) (heap_alloc_new w _)) b r pv mv hr⟩
end Go.Proofs.YtgdeeodifnegiaaGreatDoor

namespace Go.Proofs
open Go.Shelf
def Tryz.shSch_ren : Go.Shelf.Ren := ⟨fun | 25 => 273 | 31 => 317 | 32 => 318 | 37 => 290 | n => n, fun | 22 => 26 | 3 => 3 | 4 => 4 | 40 => 321 | 0 => 0 | n => n, fun | n => n⟩
theorem Tryz.shSch : Go.Proofs.Lays2.n25 Tryz.prog Tryz.shSch_ren := {
  mixed := by kernel_rfl
  f25 := Tryz.func273.trans (congrArg some (by kernel_rfl))
  f31 := Tryz.func317.trans (congrArg some (by kernel_rfl))
  f32 := Tryz.func318.trans (congrArg some (by kernel_rfl))
  f37 := Tryz.func290.trans (congrArg some (by kernel_rfl))
  t0 := Tryz.underlying0
  a0 := Tryz.isAgg0
  z0 := Tryz.sizeOf0
  v0 := Tryz.zeroValue0
  t3 := Tryz.underlying3
  a3 := Tryz.isAgg3
  z3 := Tryz.sizeOf3
  v3 := Tryz.zeroValue3
  t4 := Tryz.underlying4
  a4 := Tryz.isAgg4
  z4 := Tryz.sizeOf4
  v4 := Tryz.zeroValue4
  t22 := Tryz.underlying26
  a22 := Tryz.isAgg26
  z22 := Tryz.sizeOf26
  v22 := Tryz.zeroValue26
  t40 := Tryz.underlying321
  a40 := Tryz.isAgg321
  z40 := Tryz.sizeOf321
  v40 := Tryz.zeroValue321 }
def Tryz.shDel_ren : Go.Shelf.Ren := ⟨fun | 23 => 277 | n => n, fun | 22 => 26 | 3 => 3 | 4 => 4 | 0 => 0 | n => n, fun | n => n⟩
theorem Tryz.shDel : Go.Proofs.Lays2.n23 Tryz.prog Tryz.shDel_ren := {
  mixed := by kernel_rfl
  f23 := Tryz.func277.trans (congrArg some (by kernel_rfl))
  t0 := Tryz.underlying0
  a0 := Tryz.isAgg0
  z0 := Tryz.sizeOf0
  v0 := Tryz.zeroValue0
  t3 := Tryz.underlying3
  a3 := Tryz.isAgg3
  z3 := Tryz.sizeOf3
  v3 := Tryz.zeroValue3
  t4 := Tryz.underlying4
  a4 := Tryz.isAgg4
  z4 := Tryz.sizeOf4
  v4 := Tryz.zeroValue4
  t22 := Tryz.underlying26
  a22 := Tryz.isAgg26
  z22 := Tryz.sizeOf26
  v22 := Tryz.zeroValue26
  i3 := by kernel_rfl }
end Go.Proofs
