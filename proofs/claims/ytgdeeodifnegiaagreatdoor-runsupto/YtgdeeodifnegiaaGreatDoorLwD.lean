/- The argument of Compiles opened; what the row lists: the tables; a world that holds them. -/
import Derived.Test.YtgdeeodifnegiaaGreatDoorLwC
import Derived.Test.YtgdeeodifnegiaaGreatDoorRows
import Derived.WalkKit
import Derived.ProofKit
import Derived.OpenShut
import Derived.Deep.Slices
import Derived.SizedLaws
import Derived.Lib.LaidTab
import Derived.Deep.Matrix
import Derived.Deep.DeepHandedRow
import Derived.Deep.DeepLaidRun
namespace Go.Proofs.YtgdeeodifnegiaaGreatDoor
open Go.ChangeShapes Go.WideShapes Go.ChangeAt Go.RowKit Go.Deep

namespace cps
theorem own : ownKnob Tryz.prog.godebug = none := by kernel_rfl
theorem laidOut : laidOutB Tryz.prog = true := by kernel_rfl
theorem cellsU8 : Tryz.prog.cellsOf 5 = 1 := by kernel_rfl
theorem cellsInt : Tryz.prog.cellsOf 3 = 1 := by kernel_rfl
theorem cellsStr : Tryz.prog.cellsOf 9 = 1 := by kernel_rfl
theorem cellsOp : Tryz.prog.cellsOf 33 = 18 := by kernel_rfl
theorem bytesOp : Tryz.prog.bytesOf 33 = 280 := by kernel_rfl
theorem cellsKind : Tryz.prog.cellsOf 214 = 1 := by kernel_rfl
theorem cellsWord : Tryz.prog.cellsOf 383 = 2 := by kernel_rfl
theorem cellsSign : Tryz.prog.cellsOf 347 = 2 := by kernel_rfl
theorem gWords : Tryz.prog.globalNamed (Rows.compilesRow.named.getD 0 Rows.compilesRow.func) = some 2 := by kernel_rfl
theorem gWordsType : (Tryz.prog.globals[2]?).map (·.type) = some 384 := by kernel_rfl
theorem gSigns : Tryz.prog.globalNamed (Rows.compilesRow.named.getD 4 Rows.compilesRow.func) = some 0 := by kernel_rfl
theorem gSignsType : (Tryz.prog.globals[0]?).map (·.type) = some 348 := by kernel_rfl
theorem pair_word {H : Type} {enc : TypeId × Value → H} {W : World} {base : Nat} {sp : Nat → Bool} {held : Bool} {m i : Nat} {cs : List Value} {x : DataW H × List MemPlace} {a : List UInt8} {b : Int}
    (h : DataW.trod enc Tryz.prog W base sp held m 383 ((cs.drop (i * Tryz.prog.cellsOf 383)).take (Tryz.prog.cellsOf 383)) = some x)
    (hd : x.1 = .agg [.lit (.string a), .lit (.int .i64 b)]) : cs[i * 2]? = some (.string ⟨a.toArray⟩) ∧ cs[i * 2 + 1]? = some (.int .i64 b) := by
  obtain ⟨y0, y1, n, rfl, _, h0, h1⟩ := trod_struct2 Tryz.underlying383 h
  obtain ⟨z0, hc0, rfl, _⟩ := DataW.trod_string Tryz.underlying9 h0
  obtain ⟨z1, hc1, rfl, _⟩ := DataW.trod_int Tryz.underlying214 h1
  simp only [DataW.agg.injEq, List.cons.injEq, DataW.lit.injEq, Lit.int.injEq, Lit.string.injEq, true_and, and_true] at hd
  obtain ⟨rfl, rfl⟩ := hd
  have e0 := congrArg (·[0]?) hc0
  have e1 := congrArg (·[0]?) hc1
  simp only [cellsWord, cellsStr, cellsKind, List.getElem?_take, List.getElem?_drop] at e0 e1
  constructor
  · simpa using e0
  · simpa using e1
theorem pair_sign {H : Type} {enc : TypeId × Value → H} {W : World} {base : Nat} {sp : Nat → Bool} {held : Bool} {m i : Nat} {cs : List Value} {x : DataW H × List MemPlace} {a b : Int}
    (h : DataW.trod enc Tryz.prog W base sp held m 347 ((cs.drop (i * Tryz.prog.cellsOf 347)).take (Tryz.prog.cellsOf 347)) = some x)
    (hd : x.1 = .agg [.lit (.int .u8 a), .lit (.int .i64 b)]) : cs[i * 2]? = some (.int .u8 a) ∧ cs[i * 2 + 1]? = some (.int .i64 b) := by
  obtain ⟨y0, y1, n, rfl, _, h0, h1⟩ := trod_struct2 Tryz.underlying347 h
  obtain ⟨z0, hc0, rfl, _⟩ := DataW.trod_int Tryz.underlying5 h0
  obtain ⟨z1, hc1, rfl, _⟩ := DataW.trod_int Tryz.underlying214 h1
  simp only [DataW.agg.injEq, List.cons.injEq, DataW.lit.injEq, Lit.int.injEq, true_and, and_true] at hd
  obtain ⟨rfl, rfl⟩ := hd
  have e0 := congrArg (·[0]?) hc0
  have e1 := congrArg (·[0]?) hc1
  simp only [cellsSign, cellsU8, cellsKind, List.getElem?_take, List.getElem?_drop] at e0 e1
  constructor
  · simpa using e0
  · simpa using e1
theorem pairs_cells {α : Type} {f g : α → Value} : ∀ {L : List α} {cs : List Value}, (∀ i p, L[i]? = some p → cs[i * 2]? = some (f p) ∧ cs[i * 2 + 1]? = some (g p)) → ∀ (j : Nat) v, (L.flatMap fun p => [f p, g p])[j]? = some v → cs[j]? = some v
  | [], _, _, _, _, h => by simp at h
  | x :: L, cs, hh, j, v, h => by
    match j with
    | 0 =>
      have := (hh 0 x rfl).1
      simp at h
      rw [← h]; simpa using this
    | 1 =>
      have := (hh 0 x rfl).2
      simp at h
      rw [← h]; simpa using this
    | j + 2 =>
      have h2 := pairs_cells (L := L) (cs := cs.drop 2) (f := f) (g := g) (fun i p hp => by
        have := hh (i + 1) p (by simpa using hp)
        rw [List.getElem?_drop, List.getElem?_drop]
        have e1 : 2 + i * 2 = (i + 1) * 2 := by omega
        have e2 : 2 + (i * 2 + 1) = (i + 1) * 2 + 1 := by omega
        rw [e1, e2]; exact this) j v (by simpa using h)
      rw [List.getElem?_drop] at h2
      rw [Nat.add_comm]; exact h2
/-- a table of pairs: its cells -/
theorem table {α : Type} {f g : α → Value} {H : Type} {xs : List (DataW H × List MemPlace)} {dd : α → DataW H} {L : List α} {cs : List Value} {n : Nat}
    (hx : xs.map (·.1) = L.map dd) (hn : L.length = n) (hel : ∀ i x, i < n → xs[i]? = some x → ∀ p, x.1 = dd p → cs[i * 2]? = some (f p) ∧ cs[i * 2 + 1]? = some (g p)) :
    ∀ (j : Nat) v, (L.flatMap fun p => [f p, g p])[j]? = some v → cs[j]? = some v := by
  refine pairs_cells fun i p hp => ?_
  have hi : i < n := by rw [← hn]; exact (List.getElem?_eq_some_iff.mp hp).1
  have h2 := congrArg (·[i]?) hx
  simp only [List.getElem?_map, hp, Option.map_some] at h2
  obtain ⟨x, hxx, hxe⟩ := Option.map_eq_some_iff.mp h2
  exact hel i x hi hxx p hxe
theorem cell_lt {w : World} {a : Addr} {v : Value} (h : w.cell? a = some v) : a.block < w.heap.size := by
  rcases Nat.lt_or_ge a.block w.heap.size with h' | h'
  · exact h'
  · simp [World.cell?, Array.getElem?_eq_none h'] at h
def wordL : List (List UInt8 × Int) := (List.range 21).map fun k => ((wd k).data.toList, 5 + (k : Int))
def signL : List (Int × Int) := (List.range 16).map fun k => (sg k, 26 + (k : Int))
theorem words_laid : (Rows.laid_byway_token_words : DataW Unit) = .agg (wordL.map fun p => .agg [.lit (.string p.1), .lit (.int .i64 p.2)]) := by kernel_rfl
theorem signs_laid : (Rows.laid_byway_token_signs : DataW Unit) = .agg (signL.map fun p => .agg [.lit (.int .u8 p.1), .lit (.int .i64 p.2)]) := by kernel_rfl
theorem words_cells : wordCells = wordL.flatMap fun p => [.string ⟨p.1.toArray⟩, .int .i64 p.2] := by kernel_rfl
theorem signs_cells : signCells = signL.flatMap fun p => [.int .u8 p.1, .int .i64 p.2] := by kernel_rfl
set_option maxRecDepth 100000 in
/-- WHAT THE ROW's LIST GIVES -/
theorem tabs {W : World} (h : laidMetH Tryz.prog Rows.compilesRow.laid W) (hsh : W.ShapedOpen Tryz.prog) : TokTabs W := by
  have h' : laidMet Tryz.prog Rows.compilesRow.laid W := h
  obtain ⟨ps, ⟨_, _, _, _, _, _, _, _, _, _, ⟨_, _, _, _, _, _, _, _, _, _, ⟨g4, t4, c4, f4, p4, q4, hg4, ht4, hv4, hd4, ⟨g5, t5, c5, f5, p5, q5, hg5, ht5, hv5, hd5, _, _⟩, _⟩, _⟩, _⟩, _⟩ := h'
  obtain rfl := Option.some.inj (gWords.symm.trans hg4)
  obtain rfl := Option.some.inj (gWordsType.symm.trans ht4)
  obtain rfl := Option.some.inj (gSigns.symm.trans hg5)
  obtain rfl := Option.some.inj (gSignsType.symm.trans ht5)
  obtain ⟨xs, m, _, hx, _, hxl, hel⟩ := DataW.trod_array Tryz.underlying384 hd4
  obtain ⟨ys, m', _, hy, _, hyl, hel'⟩ := DataW.trod_array Tryz.underlying348 hd5
  have hx1 : (Rows.laid_byway_token_words : DataW Unit) = .agg (xs.map (·.1)) := congrArg Prod.fst hx
  have hy1 : (Rows.laid_byway_token_signs : DataW Unit) = .agg (ys.map (·.1)) := congrArg Prod.fst hy
  rw [words_laid] at hx1
  rw [signs_laid] at hy1
  have hW := table (cs := c4.toList) (n := 21) (f := fun p => .string ⟨p.1.toArray⟩) (g := fun p => .int .i64 p.2) (DataW.agg.inj hx1).symm (by decide) (fun i x hi hxi p hp => pair_word ((hel i hi).trans hxi) hp)
  have hS := table (cs := c5.toList) (n := 16) (f := fun p => .int .u8 p.1) (g := fun p => .int .i64 p.2) (DataW.agg.inj hy1).symm (by decide) (fun i x hi hxi p hp => pair_sign ((hel' i hi).trans hxi) hp)
  rw [← words_cells] at hW
  rw [← signs_cells] at hS
  have cw : ∀ i v, wordCells[i]? = some v → W.cell? ⟨2, 0 + i, none⟩ = some v := fun i v hv => by
    rw [Nat.zero_add, World.var?_cell gWords hv4 i]; simpa using hW i v hv
  have cs : ∀ i v, signCells[i]? = some v → W.cell? ⟨0, 0 + i, none⟩ = some v := fun i v hv => by
    rw [Nat.zero_add, World.var?_cell gSigns hv5 i]; simpa using hS i v hv
  obtain ⟨m, hm⟩ := Tryz.shCut.s1_3 W hsh
  exact ⟨cell_lt (cw 0 _ rfl), cell_lt (cs 0 _ rfl), cw, cs, cell_lt hm, m, hm⟩
theorem field {H : Type} {enc : TypeId × Value → H} {W : World} {fuel : Nat} {t : TypeId} {fs : Array Field} {cs : List Value} {x : DataW H × List MemPlace} (ht : Tryz.prog.underlying t = some (.struct fs))
    (h : DataW.trod enc Tryz.prog W 0 (fun _ => true) true fuel t cs = some x) :
    cs.length = Tryz.prog.cellsOf t ∧ ∃ n, ∀ (i o k : Nat) (ty : TypeId), (fs[i]?).map (fun f => (f.offset, f.type)) = some (o, ty) → Tryz.prog.cellsOf ty = k → ∃ y, DataW.trod enc Tryz.prog W 0 (fun _ => true) true n ty ((cs.drop o).take k) = some y := by
  obtain ⟨xs, n, _, rfl, hl, hlen, hf⟩ := DataW.trod_struct ht h
  refine ⟨hl, n, fun i o k ty hi0 hk => ?_⟩
  obtain ⟨f, hi, hoty⟩ := Option.map_eq_some_iff.1 hi0
  obtain ⟨rfl, rfl⟩ := Prod.mk.inj hoty
  subst hk
  have hlt : i < xs.length := by rw [hlen]; exact (Array.getElem?_eq_some_iff.1 hi).1
  exact ⟨xs[i], by rw [hf i f hi, List.getElem?_eq_getElem hlt]⟩
theorem op {H : Type} {enc : TypeId × Value → H} {W : World} {fuel : Nat} {cs : List Value} {x : DataW H × List MemPlace}
    (h : DataW.trod enc Tryz.prog W 0 (fun _ => true) true fuel 33 cs = some x) : ∃ k s, OpL cs k s := by
  obtain ⟨hl, n, F⟩ := field Tryz.underlying33 h
  rw [cellsOp] at hl
  obtain ⟨y0, h0⟩ := F 0 0 1 3 rfl cellsInt
  obtain ⟨y3, h3⟩ := F 3 3 1 9 rfl cellsStr
  obtain ⟨k, e0, _⟩ := DataW.trod_int Tryz.underlying3 h0
  obtain ⟨s, e3, _⟩ := DataW.trod_string Tryz.underlying9 h3
  have e0' := congrArg (·[0]?) e0
  have e3' := congrArg (·[0]?) e3
  simp only [List.getElem?_take, List.getElem?_drop] at e0' e3'
  exact ⟨k, s, hl, by simpa using e0', by simpa using e3'⟩
theorem list_of {p : Nat → List Value → Prop} (n : Nat) (h : ∀ i, i < n → ∃ o, p i o) : ∃ S : List (List Value), S.length = n ∧ ∀ j, (hj : j < S.length) → p j S[j] := by
  induction n with
  | zero => exact ⟨[], rfl, fun j hj => by simp at hj⟩
  | succ n ih =>
    obtain ⟨S, hl, hS⟩ := ih (fun i hi => h i (by omega))
    obtain ⟨o, ho⟩ := h n (by omega)
    refine ⟨S ++ [o], by simp [hl], fun j hj => ?_⟩
    by_cases hlt : j < S.length
    · rw [List.getElem_append_left hlt]; exact hS j hlt
    · have : j = n := by simp at hj; omega
      subst this
      rw [List.getElem_append_right (by omega)]
      simpa [hl] using ho
set_option maxRecDepth 100000 in
/-- THE SCRIPT -/
theorem script {H : Type} {enc : TypeId × Value → H} {W : World} {base : Nat} {v : Value} {d : DataW H} {p : List MemPlace} (hv : Value.okWide Tryz.prog W .any base 22 v)
    (h : DataW.Trod enc Tryz.prog W 0 (fun _ => true) true 22 v d p) (hz : ∀ elems spare, d = .slice elems spare → (elems.length + spare.length) * 280 ≤ reachBytes) : ∃ S, ScriptC W v S := by
  obtain ⟨a0, len, cap, rfl⟩ := okWide_slice Tryz.underlying22 hv
  obtain ⟨fuel, hf⟩ := h
  rcases open_slice Tryz.underlying22 hf with ⟨hcs, hx⟩ | ⟨a, len', cap', m, n, D, Pl, hcs, _, hl, hm, hmm, hx, hel⟩
  · simp [Value.cells] at hcs
    obtain ⟨rfl, rfl, rfl⟩ := hcs
    exact ⟨[], none, 0, rfl, by simp, by simp, fun o ho => by simp at ho, Or.inl rfl⟩
  · simp [Value.cells] at hcs
    obtain ⟨rfl, rfl, rfl⟩ := hcs
    simp only [if_true] at hmm
    subst hmm
    simp only [Prod.mk.injEq] at hx
    obtain ⟨rfl, _⟩ := hx
    have hr := hz _ _ rfl
    unfold reachBytes at hr
    simp only [List.length_map, List.length_range] at hr
    rw [cellsOp] at hel
    obtain ⟨S, hSl, hS⟩ := list_of (p := fun i o => (∃ k s, OpL o k s) ∧ ∀ j, j < 18 → W.cell? ((a.add (i * 18)).add j) = o[j]?) len (fun i hi => by
      obtain ⟨cs', h1, h2⟩ := hel i (by omega)
      obtain ⟨_, _, hcell⟩ := World.cells?_some h1
      exact ⟨cs', op h2, fun j hj => hcell j hj⟩)
    refine ⟨S, some a, m, by rw [hSl], by omega, by omega, fun o ho => ?_, ?_⟩
    · obtain ⟨j, hj, rfl⟩ := List.getElem_of_mem ho
      exact (hS j hj).1
    · by_cases hl0 : len = 0
      · exact Or.inl (List.eq_nil_of_length_eq_zero (by omega))
      · obtain ⟨b, off, spot⟩ := a
        obtain ⟨⟨k0, s0, o0⟩, c0⟩ := hS 0 (by omega)
        have c00 := (c0 0 (by omega)).trans o0.kind
        have hspot : spot = none := by simpa [Addr.add] using World.cell?_spot c00
        subst hspot
        simp only [WideShapes.add_plain] at hS c00
        exact Or.inr ⟨b, off, rfl, cell_lt c00, fun j hj i hi => (hS j hj).2 i hi⟩

def flat0 : DataW Unit → List Value
  | .lit (.int k n) => [.int k n]
  | .lit (.string b) => [.string ⟨b.toArray⟩]
  | _ => []
def flat1 : DataW Unit → List Value
  | .agg l => l.flatMap flat0
  | d => flat0 d
def flat : DataW Unit → List Value
  | .agg l => l.flatMap flat1
  | d => flat1 d
def lay (w : World) (g : Nat) (d : DataW Unit) : World :=
  { w with heap := w.heap.modify g fun
      | .cells _ t frozen => .cells (flat d).toArray t frozen
      | o => o }
def layAll (w : World) : World :=
  lay (lay (lay (lay (lay w 5 Rows.laid_unicode_utf8_acceptRanges) 1 Rows.laid_byway_messages_flagsTable) 2 Rows.laid_byway_token_words) 0 Rows.laid_byway_token_signs) 4 Rows.laid_unicode_utf8_first
end cps
end Go.Proofs.YtgdeeodifnegiaaGreatDoor
