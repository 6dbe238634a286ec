/- The statement Codes (package bywaylaw) in its second form is proved: called with any script of at most 1048576 values and letters, bywaylaw.Codes returns true, and the script reads as it did. Conditions: the bound on the script, and the form's own; the listed tables are as the program's text lays them, which the card ties. -/
import Derived.Test.YtgngdklkoilaiaaGreatDoorLawR
import Derived.Test.YtgngdklkoilaiaaGreatDoorCodesA
import Derived.Test.YtgngdklkoilaiaaGreatDoorCards
import Derived.Test.YtgngdklkoilaiaaGreatDoorTie
import Derived.Carry
import Derived.SizedLaws
import Derived.Deep.DeepHandedRow
import Derived.Deep.DeepLaidRun
import Derived.Lib.LaidTab
namespace Go.Proofs.YtgngdklkoilaiaaGreatDoor
open Go.ChangeShapes Go.WideShapes Go.ChangeAt Go.RowKit

namespace codes
theorem own : ownKnob Tryz.prog.godebug = none := by kernel_rfl
theorem laidOut : laidOutB Tryz.prog = true := by kernel_rfl
theorem gTab : Tryz.prog.globalNamed (Rows.codesUptoRow.named.getD 5 Rows.codesUptoRow.func) = some 1 := by kernel_rfl
theorem gTabType : (Tryz.prog.globals[1]?).map (·.type) = some 367 := by kernel_rfl
theorem cellsU8 : Tryz.prog.cellsOf 5 = 1 := by kernel_rfl
theorem cellsKF : Tryz.prog.cellsOf 366 = 2 := by kernel_rfl
theorem pair_cells {H : Type} {enc : TypeId × Value → H} {W : World} {base : Nat} {sp : Nat → Bool} {held : Bool} {m i : Nat} {cs : List Value} {x : DataW H × List MemPlace} {a b : Int}
    (h : DataW.trod enc Tryz.prog W base sp held m 366 ((cs.drop (i * Tryz.prog.cellsOf 366)).take (Tryz.prog.cellsOf 366)) = some x)
    (hd : x.1 = .agg [.lit (.int .u8 a), .lit (.int .u8 b)]) : cs[i * 2]? = some (.int .u8 a) ∧ cs[i * 2 + 1]? = some (.int .u8 b) := by
  obtain ⟨y0, y1, n, rfl, _, h0, h1⟩ := trod_struct2 Tryz.underlying366 h
  obtain ⟨z0, hc0, rfl, _⟩ := DataW.trod_int Tryz.underlying5 h0
  obtain ⟨z1, hc1, rfl, _⟩ := DataW.trod_int Tryz.underlying5 h1
  simp only [DataW.agg.injEq, List.cons.injEq, DataW.lit.injEq, Lit.int.injEq, true_and, and_true] at hd
  obtain ⟨rfl, rfl⟩ := hd
  have e0 := congrArg (·[0]?) hc0
  have e1 := congrArg (·[0]?) hc1
  simp only [cellsKF, cellsU8, List.getElem?_take, List.getElem?_drop] at e0 e1
  constructor
  · simpa using e0
  · simpa using e1
set_option maxRecDepth 100000 in
/-- WHAT THE ROW's LIST GIVES -/
theorem tab {W : World} (h : laidMetH Tryz.prog Rows.codesUptoRow.laid W) : TabAt W := by
  have h' : laidMet Tryz.prog Rows.codesUptoRow.laid W := h
  obtain ⟨ps, ⟨_, _, _, _, _, _, _, _, _, _, ⟨g', t', cs, fuel, p, q, hg', ht', hvar, hd, _, _⟩, _⟩, _⟩ := h'
  obtain rfl := Option.some.inj (gTab.symm.trans hg')
  obtain rfl := Option.some.inj (gTabType.symm.trans ht')
  obtain ⟨xs, m, _, hx, _, hxl, hel⟩ := DataW.trod_array Tryz.underlying367 hd
  have hx1 := congrArg Prod.fst hx
  match xs, hxl with
  | [x0, x1, x2, x3], _ =>
    simp only [Rows.laid_byway_messages_flagsTable, List.map_cons, List.map_nil, DataW.agg.injEq, List.cons.injEq, and_true] at hx1
    obtain ⟨d0, d1, d2, d3⟩ := hx1
    obtain ⟨a0, a1⟩ := pair_cells (i := 0) (hel 0 (by omega)) d0.symm
    obtain ⟨a2, a3⟩ := pair_cells (i := 1) (hel 1 (by omega)) d1.symm
    obtain ⟨a4, a5⟩ := pair_cells (i := 2) (hel 2 (by omega)) d2.symm
    obtain ⟨a6, a7⟩ := pair_cells (i := 3) (hel 3 (by omega)) d3.symm
    have c : ∀ i v, cs.toList[i]? = some v → W.cell? ⟨1, i, none⟩ = some v := fun i v hv => by
      have := World.var?_cell gTab hvar i
      rw [this]; simpa using hv
    exact ⟨cell_lt (c _ _ a0), c _ _ a0, c _ _ a1, c _ _ a2, c _ _ a3, c _ _ a4, c _ _ a5, c _ _ a6, c _ _ a7⟩

set_option maxRecDepth 100000 in
/-- THE CALL, at every argument of that bulk and in every world that holds the table -/
theorem contract (H : Type) (enc : TypeId × Value → H) (W : World) (base : Nat) (args : Array Value) (ds gs : List (DataW H)) (before : List MemPlace)
    (hval0 : ∀ (j : Nat) t v, Tryz.f3.params[j]? = some t → args[j]? = some v → Value.okWide Tryz.prog W .any base t v)
    (hW : DataW.Whole enc Tryz.prog Tryz.f3.params.toList Rows.codesSpec.vars false W args.toList ds gs before)
    (hs : Rows.uptoSmall H (ds ++ gs) = true) (hL : laidMetH Tryz.prog Rows.codesUptoRow.laid W) :
    Calls Tryz.prog 3 args W fun e W' => ∃ v, e = .returned v ∧ Rows.codesSpec.post enc Tryz.prog Tryz.f3 false true false false W args v W' := by
  have hW' := hW
  obtain ⟨p, q, hA0, hV, rfl, _, _⟩ := hW
  have hA : DataW.TrodAll enc Tryz.prog W 0 (fun _ => true) true Tryz.f3.params.toList args.toList ds p := hA0
  have hval := hval0
  rw [Tryz.params3] at hA hval
  obtain ⟨v0, d0, rfl, rfl, h0⟩ := trodAll_one hA
  obtain ⟨rfl, rfl⟩ := trodVars_none hV
  clear hA0 hval0
  have hb : Rows.uptoBulk d0 ≤ 1048576 := by
    have h1 := of_decide_eq_true hs
    rw [List.append_nil, Rows.uptoBulkAll, Rows.uptoBulkAll] at h1
    omega
  obtain ⟨S, hS⟩ := script (hval 0 _ v0 rfl rfl) h0 hb
  refine (codes_any plays_said S v0 W (tab hL) hS).mono fun e W' ⟨he, hbl⟩ => ?_
  subst he
  have lt := hW'.lt
  have t0 := Below.trod laidOut (by kernel_rfl) (of_decide_eq_true (by kernel_rfl)) h0 hbl (fun x hx => lt x (by simp [hx]))
  exact ⟨_, rfl, _, _, _, [], _, [], hW', trodAll_cons_mk (shut_bool Tryz.underlying4 _) trodAll_mk0, trodAll_mk1 t0, rfl, hbl.frame _, fun h => by cases h⟩

def flat0 : DataW Unit → List Value
  | .lit (.int k n) => [.int k n]
  | .lit (.string b) => [.string ⟨b.toArray⟩]
  | _ => []
def flat1 : DataW Unit → List Value
  | .agg l => l.flatMap flat0
  | d => flat0 d
def flat : DataW Unit → List Value
  | .agg l => l.flatMap flat1
  | d => flat1 d
def lay (w : World) (g : Nat) (d : DataW Unit) : World :=
  { w with heap := w.heap.modify g fun
      | .cells _ t frozen => .cells (flat d).toArray t frozen
      | o => o }
def layAll (w : World) : World :=
  lay (lay (lay (lay (lay w 5 Rows.laid_unicode_utf8_acceptRanges) 1 Rows.laid_byway_messages_flagsTable) 2 Rows.laid_byway_token_words) 0 Rows.laid_byway_token_signs) 4 Rows.laid_unicode_utf8_first
set_option maxRecDepth 100000 in
theorem laid_met (os : Os) : laidMet Tryz.prog Rows.codesUptoRow.laid ((layAll (World.holding Tryz.prog os ⟨#[], #[], []⟩)).forCall (fun _ _ => 0) ⟨#[], #[.slice none 0 0], []⟩).memory :=
  laidMet_of_run3 8 (by kernel_rfl) (by kernel_rfl) (by kernel_rfl)
theorem reads (os : Os) {H : Type} (enc : TypeId × Value → H) : ∃ places, DataW.whole enc Tryz.prog ((layAll (World.holding Tryz.prog os ⟨#[], #[], []⟩)).forCall (fun _ _ => 0) ⟨#[], #[.slice none 0 0], []⟩).memory Tryz.f3.params.toList Rows.codesSpec.vars false #[Value.slice none 0 0].toList 8 = some ([.nil], [], places) :=
  ⟨[], by kernel_rfl⟩

set_option maxRecDepth 100000 in
theorem lifted (os : Os) (started : os.Started) (H : Type) (enc : TypeId × Value → H) (F : Stop.Interp) :
    ReturnsInHanded {} Tryz.checked os 3 .any ((Rows.OpenSpec.upto Rows.codesSpec).preRow enc Tryz.prog Tryz.f3 Rows.codesUptoRow.domain false Rows.codesUptoRow.laid) (((Rows.OpenSpec.upto Rows.codesSpec).at F).post enc Tryz.prog Tryz.f3 false true false false) := by
  obtain ⟨places, hx⟩ := reads os enc
  refine returnsInHanded_of_row (C := Tryz.checked) (s := Rows.OpenSpec.upto Rows.codesSpec) own started (by kernel_rfl) Tryz.func3
    (witness_row_at (enc := enc) (C := Tryz.checked) false (layAll (World.holding Tryz.prog os ⟨#[], #[], []⟩)) #[.slice none 0 0] rfl (by kernel_rfl) (by kernel_rfl) (by kernel_rfl)
      (OpenSpec.preRow_of_cond 8 hx (by kernel_rfl) (fun k hk => by cases hk; kernel_rfl) (by kernel_rfl) (laid_met os))) ?_
  intro W base args ds gs before hval hW _ hcond _ hL _ _
  exact contract H enc W base args ds gs before hval hW (hcond _ rfl) hL

end codes
end Go.Proofs.YtgngdklkoilaiaaGreatDoor
