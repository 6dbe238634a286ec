/- What the rows of bywaykeep list: the tables; the arguments opened; a world that holds the tables. -/
import Derived.Test.YtlhhdklendeikaaGreatDoorKnB
import Derived.Test.YtlhhdklendeikaaGreatDoorCards
import Derived.Test.YtlhhdklendeikaaGreatDoorTie
import Derived.WalkKit
import Derived.ProofKit
import Derived.OpenShut
import Derived.Carry
import Derived.SizedLaws
import Derived.Deep.DeepHandedRow
import Derived.Deep.DeepLaidRun
import Derived.Deep.Grids
import Derived.Lib.LaidTab
import Derived.Test.YtlhhdklendeikaaGreatDoorGrdA
import Derived.Deep.Matrix
namespace Go.Proofs.YtlhhdklendeikaaGreatDoor
open Go.ChangeShapes Go.WideShapes Go.ChangeAt Go.RowKit

namespace rows
theorem own : ownKnob Tryz.prog.godebug = none := by kernel_rfl
theorem laidOut : laidOutB Tryz.prog = true := by kernel_rfl
theorem cellsU8 : Tryz.prog.cellsOf 5 = 1 := by kernel_rfl
theorem cellsInt : Tryz.prog.cellsOf 3 = 1 := by kernel_rfl
theorem cellsBool : Tryz.prog.cellsOf 4 = 1 := by kernel_rfl
theorem cellsStr : Tryz.prog.cellsOf 9 = 1 := by kernel_rfl
theorem cellsU64 : Tryz.prog.cellsOf 102 = 1 := by kernel_rfl
theorem bytesInt : Tryz.prog.bytesOf 3 = 8 := by kernel_rfl
theorem bytesBool : Tryz.prog.bytesOf 4 = 1 := by kernel_rfl
theorem cellsKind : Tryz.prog.cellsOf 86 = 1 := by kernel_rfl
theorem cellsWord : Tryz.prog.cellsOf 162 = 2 := by kernel_rfl
theorem cellsSign : Tryz.prog.cellsOf 141 = 2 := by kernel_rfl
theorem gWords : Tryz.prog.globalNamed (Rows.reckonedRow.named.getD 0 Rows.reckonedRow.func) = some 2 := by kernel_rfl
theorem gWordsType : (Tryz.prog.globals[2]?).map (·.type) = some 163 := by kernel_rfl
theorem gSigns : Tryz.prog.globalNamed (Rows.reckonedRow.named.getD 4 Rows.reckonedRow.func) = some 1 := by kernel_rfl
theorem gSignsType : (Tryz.prog.globals[1]?).map (·.type) = some 142 := by kernel_rfl
theorem gPow : Tryz.prog.globalNamed (Rows.reckonedRow.named.getD 5 Rows.reckonedRow.func) = some 0 := by kernel_rfl
theorem gPowType : (Tryz.prog.globals[0]?).map (·.type) = some 131 := by kernel_rfl

theorem pair_word {H : Type} {enc : TypeId × Value → H} {W : World} {base : Nat} {sp : Nat → Bool} {held : Bool} {m i : Nat} {cs : List Value} {x : DataW H × List MemPlace} {a : List UInt8} {b : Int}
    (h : DataW.trod enc Tryz.prog W base sp held m 162 ((cs.drop (i * Tryz.prog.cellsOf 162)).take (Tryz.prog.cellsOf 162)) = some x)
    (hd : x.1 = .agg [.lit (.string a), .lit (.int .i64 b)]) : cs[i * 2]? = some (.string ⟨a.toArray⟩) ∧ cs[i * 2 + 1]? = some (.int .i64 b) := by
  obtain ⟨y0, y1, n, rfl, _, h0, h1⟩ := trod_struct2 Tryz.underlying162 h
  obtain ⟨z0, hc0, rfl, _⟩ := DataW.trod_string Tryz.underlying9 h0
  obtain ⟨z1, hc1, rfl, _⟩ := DataW.trod_int Tryz.underlying86 h1
  simp only [DataW.agg.injEq, List.cons.injEq, DataW.lit.injEq, Lit.int.injEq, Lit.string.injEq, true_and, and_true] at hd
  obtain ⟨rfl, rfl⟩ := hd
  have e0 := congrArg (·[0]?) hc0
  have e1 := congrArg (·[0]?) hc1
  simp only [cellsWord, cellsStr, cellsKind, List.getElem?_take, List.getElem?_drop] at e0 e1
  constructor
  · simpa using e0
  · simpa using e1
theorem pair_sign {H : Type} {enc : TypeId × Value → H} {W : World} {base : Nat} {sp : Nat → Bool} {held : Bool} {m i : Nat} {cs : List Value} {x : DataW H × List MemPlace} {a b : Int}
    (h : DataW.trod enc Tryz.prog W base sp held m 141 ((cs.drop (i * Tryz.prog.cellsOf 141)).take (Tryz.prog.cellsOf 141)) = some x)
    (hd : x.1 = .agg [.lit (.int .u8 a), .lit (.int .i64 b)]) : cs[i * 2]? = some (.int .u8 a) ∧ cs[i * 2 + 1]? = some (.int .i64 b) := by
  obtain ⟨y0, y1, n, rfl, _, h0, h1⟩ := trod_struct2 Tryz.underlying141 h
  obtain ⟨z0, hc0, rfl, _⟩ := DataW.trod_int Tryz.underlying5 h0
  obtain ⟨z1, hc1, rfl, _⟩ := DataW.trod_int Tryz.underlying86 h1
  simp only [DataW.agg.injEq, List.cons.injEq, DataW.lit.injEq, Lit.int.injEq, true_and, and_true] at hd
  obtain ⟨rfl, rfl⟩ := hd
  have e0 := congrArg (·[0]?) hc0
  have e1 := congrArg (·[0]?) hc1
  simp only [cellsSign, cellsU8, cellsKind, List.getElem?_take, List.getElem?_drop] at e0 e1
  constructor
  · simpa using e0
  · simpa using e1
theorem pairs_cells {α : Type} {f g : α → Value} : ∀ {L : List α} {cs : List Value}, (∀ i p, L[i]? = some p → cs[i * 2]? = some (f p) ∧ cs[i * 2 + 1]? = some (g p)) → ∀ (j : Nat) v, (L.flatMap fun p => [f p, g p])[j]? = some v → cs[j]? = some v
  | [], _, _, _, _, h => by simp at h
  | x :: L, cs, hh, j, v, h => by
    match j with
    | 0 =>
      have := (hh 0 x rfl).1
      simp at h
      rw [← h]; simpa using this
    | 1 =>
      have := (hh 0 x rfl).2
      simp at h
      rw [← h]; simpa using this
    | j + 2 =>
      have h2 := pairs_cells (L := L) (cs := cs.drop 2) (f := f) (g := g) (fun i p hp => by
        have := hh (i + 1) p (by simpa using hp)
        rw [List.getElem?_drop, List.getElem?_drop]
        have e1 : 2 + i * 2 = (i + 1) * 2 := by omega
        have e2 : 2 + (i * 2 + 1) = (i + 1) * 2 + 1 := by omega
        rw [e1, e2]; exact this) j v (by simpa using h)
      rw [List.getElem?_drop] at h2
      rw [Nat.add_comm]; exact h2
/-- a table of pairs: its cells -/
theorem table {α : Type} {f g : α → Value} {H : Type} {xs : List (DataW H × List MemPlace)} {dd : α → DataW H} {L : List α} {cs : List Value} {n : Nat}
    (hx : xs.map (·.1) = L.map dd) (hn : L.length = n) (hel : ∀ i x, i < n → xs[i]? = some x → ∀ p, x.1 = dd p → cs[i * 2]? = some (f p) ∧ cs[i * 2 + 1]? = some (g p)) :
    ∀ (j : Nat) v, (L.flatMap fun p => [f p, g p])[j]? = some v → cs[j]? = some v := by
  refine pairs_cells fun i p hp => ?_
  have hi : i < n := by rw [← hn]; exact (List.getElem?_eq_some_iff.mp hp).1
  have h2 := congrArg (·[i]?) hx
  simp only [List.getElem?_map, hp, Option.map_some] at h2
  obtain ⟨x, hxx, hxe⟩ := Option.map_eq_some_iff.mp h2
  exact hel i x hi hxx p hxe

theorem inI_wf {n : Int} (h : (Lit.int .i64 n).wf = true) : inI n := by
  have h1 : IntKind.i64.min = -9223372036854775808 := rfl
  have h2 : IntKind.i64.max = 9223372036854775807 := rfl
  simp only [Lit.wf, Bool.and_eq_true, decide_eq_true_eq] at h
  unfold inI; omega
theorem lits_len {H : Type} (k : IntKind) (l : List Int) : (lits (H := H) k l).length = l.length := by simp [lits]
set_option maxRecDepth 100000 in
theorem one {H : Type} {enc : TypeId × Value → H} {W : World} {base : Nat} {v : Value} {d : DataW H} {p : List MemPlace} (hv : Value.okWide Tryz.prog W .any base 3 v)
    (h : DataW.Trod enc Tryz.prog W 0 (fun _ => true) true 3 v d p) : ∃ n, v = .int .i64 n ∧ inI n := by
  obtain ⟨m, rfl⟩ := okWide_int Tryz.underlying3 hv
  obtain ⟨fuel, hf⟩ := h
  obtain ⟨n, hc, _, hw⟩ := DataW.trod_int Tryz.underlying3 hf
  simp [Value.cells] at hc
  subst hc
  exact ⟨_, rfl, inI_wf hw⟩
set_option maxRecDepth 100000 in
theorem ints {H : Type} {enc : TypeId × Value → H} {W : World} {base : Nat} {v : Value} {d : DataW H} {p : List MemPlace} (hv : Value.okWide Tryz.prog W .any base 22 v)
    (h : DataW.Trod enc Tryz.prog W 0 (fun _ => true) true 22 v d p) (hz : ∀ elems spare, d = .slice elems spare → (elems.length + spare.length) * 8 ≤ reachBytes) : ∃ l, IntsAt W v l := by
  obtain ⟨a0, len, cap, rfl⟩ := okWide_slice Tryz.underlying22 hv
  obtain ⟨fuel, hf⟩ := h
  rcases open_ints Tryz.underlying22 Tryz.underlying3 cellsInt hf with ⟨hcs, hx⟩ | ⟨a, len', cap', zs, hcs, _, hl, hm, hzl, hx, hcell, hwz⟩
  · simp [Value.cells] at hcs
    obtain ⟨rfl, rfl, rfl⟩ := hcs
    exact ⟨[], none, 0, rfl, by simp, by simp, by simp, Or.inl ⟨rfl, fun _ => rfl⟩⟩
  · simp [Value.cells] at hcs
    obtain ⟨rfl, rfl, rfl⟩ := hcs
    simp only [Prod.mk.injEq] at hx
    obtain ⟨rfl, rfl⟩ := hx
    simp only [if_true] at hzl
    have hr := hz _ _ rfl
    rw [lits_len, lits_len, List.length_take, List.length_drop] at hr
    unfold reachBytes at hr
    have hlt : (zs.take len).length = len := by rw [List.length_take]; omega
    refine ⟨zs.take len, some a, cap, by rw [hlt], by omega, by omega, fun x hx => inI_wf (hwz x (List.mem_of_mem_take hx)), ?_⟩
    by_cases hl0 : len = 0
    · subst hl0
      exact Or.inl ⟨by simp, fun h => by cases h⟩
    · obtain ⟨b, off, spot⟩ := a
      have hspot : spot = none := by simpa [Addr.add] using World.cell?_spot (hcell 0 (by omega))
      subst hspot
      have hc : ∀ j, j < zs.length → W.cell? ⟨b, off + j, none⟩ = some (.int .i64 (zs.getD j 0)) := fun j hj => by rw [← add_plain]; exact hcell j hj
      refine Or.inr ⟨b, off, rfl, cell_lt (hc 0 (by omega)), fun j hj => ?_⟩
      rw [hc j (by omega)]
      simp [List.getD, show j < zs.length by omega]
def wordL : List (List UInt8 × Int) := (List.range 21).map fun k => ((wd k).data.toList, 5 + (k : Int))
def signL : List (Int × Int) := (List.range 16).map fun k => (sg k, 26 + (k : Int))
theorem words_laid : (Rows.laid_byway_token_words : DataW Unit) = .agg (wordL.map fun p => .agg [.lit (.string p.1), .lit (.int .i64 p.2)]) := by kernel_rfl
theorem signs_laid : (Rows.laid_byway_token_signs : DataW Unit) = .agg (signL.map fun p => .agg [.lit (.int .u8 p.1), .lit (.int .i64 p.2)]) := by kernel_rfl
theorem pow_laid : (Rows.laid_internal_strconv_uint64pow10 : DataW Unit) = Lib.tabData .u64 Lib.pow10Tab := by kernel_rfl
theorem words_cells : wordCells = wordL.flatMap fun p => [.string ⟨p.1.toArray⟩, .int .i64 p.2] := by kernel_rfl
theorem signs_cells : signCells = signL.flatMap fun p => [.int .u8 p.1, .int .i64 p.2] := by kernel_rfl
theorem cellsPow : Tryz.prog.cellsOf 131 = 20 := by kernel_rfl
set_option maxRecDepth 100000 in
/-- WHAT THE ROW's LIST GIVES -/
theorem tabs {W : World} (h : laidMetH Tryz.prog Rows.reckonedRow.laid W) (hsh : W.ShapedOpen Tryz.prog) : TokTabs W ∧ PowTab W := by
  have h' : laidMet Tryz.prog Rows.reckonedRow.laid W := h
  obtain ⟨ps, ⟨_, _, _, _, _, _, _, _, _, _, ⟨_, _, _, _, _, _, _, _, _, _, ⟨g2, t2, c2, f2, p2, q2, hg2, ht2, hv2, hd2, ⟨_, _, _, _, _, _, _, _, _, _, ⟨g4, t4, c4, f4, p4, q4, hg4, ht4, hv4, hd4, ⟨g5, t5, c5, f5, p5, q5, hg5, ht5, hv5, hd5, _, _⟩, _⟩, _⟩, _⟩, _⟩, _⟩, _⟩ := h'
  obtain rfl := Option.some.inj (gPow.symm.trans hg2)
  obtain rfl := Option.some.inj (gPowType.symm.trans ht2)
  obtain rfl := Option.some.inj (gWords.symm.trans hg4)
  obtain rfl := Option.some.inj (gWordsType.symm.trans ht4)
  obtain rfl := Option.some.inj (gSigns.symm.trans hg5)
  obtain rfl := Option.some.inj (gSignsType.symm.trans ht5)
  refine ⟨?_, ?_⟩
  · obtain ⟨xs, m, _, hx, _, hxl, hel⟩ := DataW.trod_array Tryz.underlying163 hd4
    obtain ⟨ys, m', _, hy, _, hyl, hel'⟩ := DataW.trod_array Tryz.underlying142 hd5
    have hx1 : (Rows.laid_byway_token_words : DataW Unit) = .agg (xs.map (·.1)) := congrArg Prod.fst hx
    have hy1 : (Rows.laid_byway_token_signs : DataW Unit) = .agg (ys.map (·.1)) := congrArg Prod.fst hy
    rw [words_laid] at hx1
    rw [signs_laid] at hy1
    have hW := table (cs := c4.toList) (n := 21) (f := fun p => .string ⟨p.1.toArray⟩) (g := fun p => .int .i64 p.2) (DataW.agg.inj hx1).symm (by decide) (fun i x hi hxi p hp => pair_word ((hel i hi).trans hxi) hp)
    have hS := table (cs := c5.toList) (n := 16) (f := fun p => .int .u8 p.1) (g := fun p => .int .i64 p.2) (DataW.agg.inj hy1).symm (by decide) (fun i x hi hxi p hp => pair_sign ((hel' i hi).trans hxi) hp)
    rw [← words_cells] at hW
    rw [← signs_cells] at hS
    have cw : ∀ i v, wordCells[i]? = some v → W.cell? ⟨2, 0 + i, none⟩ = some v := fun i v hv => by
      rw [Nat.zero_add, World.var?_cell gWords hv4 i]; simpa using hW i v hv
    have cs : ∀ i v, signCells[i]? = some v → W.cell? ⟨1, 0 + i, none⟩ = some v := fun i v hv => by
      rw [Nat.zero_add, World.var?_cell gSigns hv5 i]; simpa using hS i v hv
    obtain ⟨m, hm⟩ := Tryz.shCut.s1_3 W hsh
    exact ⟨cell_lt (cw 0 _ rfl), cell_lt (cs 0 _ rfl), cw, cs, cell_lt hm, m, hm⟩
  · have hd := hd2.trans (show some ((Rows.laid_internal_strconv_uint64pow10 : DataW Unit), p2) = some (Lib.tabData .u64 Lib.pow10Tab, p2) by rw [pow_laid])
    unfold PowTab Lib.TabIs
    rw [show W.var? Tryz.prog (Rows.reckonedRow.named.getD 5 Rows.reckonedRow.func) = some c2 from hv2, ← Lib.cells_of_tab Tryz.underlying131 Tryz.underlying102 cellsU64 cellsPow hd]

def flat0 : DataW Unit → List Value
  | .lit (.int k n) => [.int k n]
  | .lit (.string b) => [.string ⟨b.toArray⟩]
  | _ => []
def flat1 : DataW Unit → List Value
  | .agg l => l.flatMap flat0
  | d => flat0 d
def flat : DataW Unit → List Value
  | .agg l => l.flatMap flat1
  | d => flat1 d
def lay (w : World) (g : Nat) (d : DataW Unit) : World :=
  { w with heap := w.heap.modify g fun
      | .cells _ t frozen => .cells (flat d).toArray t frozen
      | o => o }
def layAll (w : World) : World :=
  lay (lay (lay (lay (lay (lay (lay w 7 Rows.laid_unicode_utf8_acceptRanges) 0 Rows.laid_internal_strconv_uint64pow10) 2 Rows.laid_byway_token_words) 1 Rows.laid_byway_token_signs) 6 Rows.laid_unicode_utf8_first) 3 Rows.laid_math_bits_deBruijn32tab) 4 Rows.laid_math_bits_deBruijn64tab
end rows
end Go.Proofs.YtlhhdklendeikaaGreatDoor

namespace Go.Proofs.YtlhhdklendeikaaGreatDoor
open Go.ChangeShapes Go.WideShapes Go.ChangeAt Go.RowKit Go.Deep rows

theorem weights_mem {H : Type} {P : Program} {e : TypeId} {d : DataW H} {n : Nat} (hn : n ∈ d.weights P e) : ∀ {l : List (DataW H)}, d ∈ l → n ∈ DataW.weightsAll P e l
  | x :: r, hd => by
    rw [DataW.weightsAll, List.mem_append]
    cases hd with
    | head => exact Or.inl hn
    | tail _ h => exact Or.inr (weights_mem hn h)
theorem inner_sized {H : Type} {P : Program} {ts : List TypeId} {ds : List (DataW H)} (h : (DataW.weightsEach P ts ds).all (· ≤ reachBytes) = true) {j : Nat} {t e q : TypeId} {elems spare e' sp' : List (DataW H)}
    (ht : ts[j]? = some t) (hd : ds[j]? = some (.slice elems spare)) (hu : P.underlying t = some (.slice e)) (hu2 : P.underlying e = some (.slice q)) (hx : DataW.slice e' sp' ∈ elems) : (e'.length + sp'.length) * P.bytesOf q ≤ reachBytes := by
  have hm := DataW.weights_mem_each (P := P) ht hd
  have hw : (e'.length + sp'.length) * P.bytesOf q ∈ DataW.weights P t (.slice elems spare) := by
    simp only [DataW.weights, hu, List.mem_cons, List.mem_append]
    exact Or.inr (Or.inl (weights_mem (by simp [DataW.weights, hu2]) hx))
  exact of_decide_eq_true (List.all_eq_true.1 h _ (hm _ hw))
theorem cellsInts : Tryz.prog.cellsOf 22 = 1 := by kernel_rfl
theorem bytesInts : Tryz.prog.bytesOf 22 = 24 := by kernel_rfl
set_option maxRecDepth 100000 in
theorem grid {H : Type} {enc : TypeId × Value → H} {W : World} {base : Nat} {v : Value} {d : DataW H} {p : List MemPlace} (hv : Value.okWide Tryz.prog W .any base 23 v)
    (h : DataW.Trod enc Tryz.prog W 0 (fun _ => true) true 23 v d p) (hz : ∀ elems spare, d = .slice elems spare → (elems.length + spare.length) * 24 ≤ reachBytes ∧ ∀ e' sp', DataW.slice e' sp' ∈ elems → (e'.length + sp'.length) * 8 ≤ reachBytes) : ∃ ls, GridAt W v ls := by
  obtain ⟨a0, len, cap, rfl⟩ := okWide_slice Tryz.underlying23 hv
  obtain ⟨fuel, hf⟩ := h
  rcases open_int_rows Tryz.underlying23 Tryz.underlying22 Tryz.underlying3 cellsInts cellsInt hf with ⟨hcs, hx⟩ | ⟨a, len', cap', A, L, C, Z, hcs, _, hl, hm, hx, hrow⟩
  · simp [Value.cells] at hcs
    obtain ⟨rfl, rfl, rfl⟩ := hcs
    exact ⟨[], none, 0, rfl, by simp, Or.inl rfl⟩
  · simp [Value.cells] at hcs
    obtain ⟨rfl, rfl, rfl⟩ := hcs
    simp only [Prod.mk.injEq] at hx
    obtain ⟨rfl, rfl⟩ := hx
    obtain ⟨hr, hin⟩ := hz _ _ rfl
    simp only [List.length_map, List.length_range] at hr
    unfold reachBytes at hr hin
    refine ⟨(List.range len).map fun r => (Z r).take (L r), some a, cap, by simp, by simp; omega, ?_⟩
    by_cases hl0 : len = 0
    · left; rw [hl0]; rfl
    · right
      obtain ⟨b, off, spot⟩ := a
      have hspot : spot = none := by simpa [Addr.add] using World.cell?_spot (hrow 0 (by omega)).1
      subst hspot
      have h0 := (hrow 0 (by omega)).1
      rw [add_plain] at h0
      refine ⟨b, off, rfl, cell_lt h0, fun j hj => ?_⟩
      have hjl : j < len := by simpa using hj
      obtain ⟨hc, h1, h2, h3, h4, h5, h6⟩ := hrow j (by omega)
      rw [add_plain] at hc
      refine ⟨_, hc, ?_⟩
      have hgj : ((List.range len).map fun r => (Z r).take (L r))[j] = (Z j).take (L j) := by simp
      rw [hgj]
      have hlt : ((Z j).take (L j)).length = L j := by rw [List.length_take]; omega
      cases hA : A j with
      | none =>
        have hz0 := h5 hA
        have hL0 : L j = 0 := by omega
        refine ⟨none, C j, by rw [hlt], by rw [hlt]; exact h1, by rw [hlt]; omega, fun x hx => inI_wf (h4 x (List.mem_of_mem_take hx)), Or.inl ⟨by rw [hL0]; simp, fun _ => hz0⟩⟩
      | some a' =>
        have hm2 : DataW.slice (lits (H := H) .i64 ((Z j).take (L j))) (lits .i64 ((Z j).drop (L j))) ∈ (List.range len).map fun r => intRow .i64 (A r) (L r) (Z r) := List.mem_map.2 ⟨j, List.mem_range.2 hjl, by simp [intRow, hA]⟩
        have hr2 := hin _ _ hm2
        rw [lits_len, lits_len, List.length_take, List.length_drop] at hr2
        refine ⟨some a', C j, by rw [hlt], by rw [hlt]; exact h1, by rw [hlt]; omega, fun x hx => inI_wf (h4 x (List.mem_of_mem_take hx)), ?_⟩
        obtain ⟨_, h7⟩ := h6 a' hA
        by_cases hL0 : L j = 0
        · exact Or.inl ⟨by rw [hL0]; simp, fun h => by cases h⟩
        · obtain ⟨b', off', spot'⟩ := a'
          have hspot : spot' = none := by simpa [Addr.add] using World.cell?_spot (h7 0 (by omega))
          subst hspot
          have hcc : ∀ i, i < C j → W.cell? ⟨b', off' + i, none⟩ = some (.int .i64 ((Z j).getD i 0)) := fun i hi => by rw [← add_plain]; exact h7 i hi
          refine Or.inr ⟨b', off', rfl, cell_lt (hcc 0 (by omega)), fun i hi => ?_⟩
          rw [hcc i (by omega)]
          simp [List.getD, show i < (Z j).length by omega]
end Go.Proofs.YtlhhdklendeikaaGreatDoor
