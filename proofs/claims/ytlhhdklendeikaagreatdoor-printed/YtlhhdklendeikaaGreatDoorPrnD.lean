/- Printed (package bywaykeep): the call as the row asks it. -/
import Derived.Test.YtlhhdklendeikaaGreatDoorPrtN
import Derived.Test.YtlhhdklendeikaaGreatDoorTabA
namespace Go.Proofs.YtlhhdklendeikaaGreatDoor
open Go.ChangeShapes Go.WideShapes Go.ChangeAt Go.RowKit rows

namespace printd
set_option maxRecDepth 100000 in
/-- THE CALL, at every argument and in every world that holds the tables -/
theorem contract (H : Type) (enc : TypeId × Value → H) (W : World) (base : Nat) (args : Array Value) (ds gs : List (DataW H)) (before : List MemPlace)
    (hval0 : ∀ (j : Nat) t v, Tryz.f3.params[j]? = some t → args[j]? = some v → Value.okWide Tryz.prog W .any base t v)
    (hW : DataW.Whole enc Tryz.prog Tryz.f3.params.toList Rows.printedSpec.vars false W args.toList ds gs before)
    (hz0 : (DataW.weightsEach Tryz.prog (Tryz.f3.params.toList ++ Rows.printedSpec.plain.varTypes Tryz.prog) (ds ++ gs)).all (· ≤ reachBytes) = true) (hL : laidMetH Tryz.prog Rows.printedRow.laid W) (hsh : W.ShapedOpen Tryz.prog) :
    Calls Tryz.prog 3 args W fun e W' => ∃ v, e = .returned v ∧ Rows.printedSpec.post enc Tryz.prog Tryz.f3 false true false false W args v W' := by
  have hW' := hW
  obtain ⟨p, q, hA0, hV, rfl, _, _⟩ := hW
  have hA : DataW.TrodAll enc Tryz.prog W 0 (fun _ => true) true Tryz.f3.params.toList args.toList ds p := hA0
  have hval := hval0
  have hz := hz0
  rw [Tryz.params3] at hA hval hz
  obtain ⟨vs, v0, v1, v2, dd, d0, d1, d2, pp, p0, p1, p2, rfl, rfl, rfl, hs, h0, h1, h2⟩ := trodAll_four hA
  obtain ⟨rfl, rfl⟩ := trodVars_none hV
  clear hA0 hval0 hz0
  obtain ⟨S, rfl⟩ := okWide_string Tryz.underlying9 (hval 0 _ vs rfl rfl)
  obtain ⟨l0, i0⟩ := ints (hval 1 _ v0 rfl rfl) h0 (fun elems spare hd => by subst hd; have := sized_slice hz (j := 1) (by rfl) (by rfl) Tryz.underlying22; rwa [bytesInt] at this)
  obtain ⟨l1, i1⟩ := ints (hval 2 _ v1 rfl rfl) h1 (fun elems spare hd => by subst hd; have := sized_slice hz (j := 2) (by rfl) (by rfl) Tryz.underlying22; rwa [bytesInt] at this)
  obtain ⟨l2, i2⟩ := grid (hval 3 _ v2 rfl rfl) h2 (fun elems spare hd => by subst hd; exact ⟨by have := sized_slice hz (j := 3) (by rfl) (by rfl) Tryz.underlying23; rwa [bytesInts] at this, fun e' sp' hm => by have := inner_sized hz (j := 3) (by rfl) (by rfl) Tryz.underlying23 Tryz.underlying22 hm; rwa [bytesInt] at this⟩)
  refine (printed_any W (tabs hL hsh).1 (tabs hL hsh).2 S l0 l1 l2 v0 v1 v2 i0 i1 i2).mono fun e W' ⟨he, hb⟩ => ?_
  subst he
  have lt := hW'.lt
  have ts := Below.trod laidOut (by kernel_rfl) (of_decide_eq_true (by kernel_rfl)) hs hb (fun x hx => lt x (by simp [hx]))
  have t0 := Below.trod laidOut (by kernel_rfl) (of_decide_eq_true (by kernel_rfl)) h0 hb (fun x hx => lt x (by simp [hx]))
  have t1 := Below.trod laidOut (by kernel_rfl) (of_decide_eq_true (by kernel_rfl)) h1 hb (fun x hx => lt x (by simp [hx]))
  have t2 := Below.trod laidOut (by kernel_rfl) (of_decide_eq_true (by kernel_rfl)) h2 hb (fun x hx => lt x (by simp [hx]))
  exact ⟨_, rfl, _, _, _, [], _, [], hW', trodAll_cons_mk (shut_bool Tryz.underlying4 _) trodAll_mk0, trodAll_mk4 ts t0 t1 t2, rfl, hb.frame _, fun h => by cases h⟩

set_option maxRecDepth 100000 in
theorem laid_met (os : Os) : laidMet Tryz.prog Rows.printedRow.laid ((layAll (World.holding Tryz.prog os ⟨#[], #[], []⟩)).forCall (fun _ _ => 0) ⟨#[], #[.string ⟨#[]⟩, .slice none 0 0, .slice none 0 0, .slice none 0 0], []⟩).memory :=
  laidMet_of_run3 8 (by kernel_rfl) (by kernel_rfl) (by kernel_rfl)
theorem reads (os : Os) {H : Type} (enc : TypeId × Value → H) : ∃ places, DataW.whole enc Tryz.prog ((layAll (World.holding Tryz.prog os ⟨#[], #[], []⟩)).forCall (fun _ _ => 0) ⟨#[], #[.string ⟨#[]⟩, .slice none 0 0, .slice none 0 0, .slice none 0 0], []⟩).memory Tryz.f3.params.toList Rows.printedSpec.vars false #[Value.string ⟨#[]⟩, .slice none 0 0, .slice none 0 0, .slice none 0 0].toList 8 = some ([.lit (.string []), .nil, .nil, .nil], [], places) :=
  ⟨[], by kernel_rfl⟩

set_option maxRecDepth 100000 in
theorem lifted (os : Os) (started : os.Started) (H : Type) (enc : TypeId × Value → H) (F : Stop.Interp) :
    ReturnsInHanded {} Tryz.checked os 3 .any ((OpenSpec.ofChange Rows.printedSpec).preRow enc Tryz.prog Tryz.f3 Rows.printedRow.domain false Rows.printedRow.laid) (((OpenSpec.ofChange Rows.printedSpec).at F).post enc Tryz.prog Tryz.f3 false true false false) := by
  obtain ⟨places, hx⟩ := reads os enc
  refine returnsInHanded_of_row (C := Tryz.checked) (s := OpenSpec.ofChange Rows.printedSpec) own started (by kernel_rfl) Tryz.func3
    (witness_row_at (enc := enc) (C := Tryz.checked) false (layAll (World.holding Tryz.prog os ⟨#[], #[], []⟩)) #[.string ⟨#[]⟩, .slice none 0 0, .slice none 0 0, .slice none 0 0] rfl (by kernel_rfl) (by kernel_rfl) (by kernel_rfl)
      (OpenSpec.preRow_of_cond 8 hx (by kernel_rfl) (fun k hk => by cases hk) (by kernel_rfl) (laid_met os))) ?_
  intro W base args ds gs before hval hW _ _ hz hL hsh _
  exact contract H enc W base args ds gs before hval hW hz hL hsh
end printd
end Go.Proofs.YtlhhdklendeikaaGreatDoor
