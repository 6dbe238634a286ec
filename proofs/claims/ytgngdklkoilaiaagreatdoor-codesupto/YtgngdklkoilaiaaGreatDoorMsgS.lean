/- The program's put (package messages): an attribute's value, put into the message under way. -/
import Derived.Test.YtgngdklkoilaiaaGreatDoorMsgR
namespace Go.Proofs.YtgngdklkoilaiaaGreatDoor
open Go.RowKit

/-- the message under way in its block ub: what is old but for that block stays -/
structure BoxU (w0 W : World) (ub : Nat) (vg vn : Value) (U : Msg) : Prop where
  blk : ∃ vp vm, W.heap[ub]? = some (.cells #[vg, vn, vp, vm, .int .i64 U.pref, .int .i64 U.med] 27 (0, 0)) ∧ OwnI W w0.heap.size vp U.path ∧ OwnI W w0.heap.size vm U.marks ∧ Apart vp vm
  fr : Fr (· = ub) w0 (· = ub) W
theorem OwnI.nextW {w w' : World} {base : Nat} {v : Value} {l : List Int} (h : OwnI w base v l) (hb : Below w.heap.size w w') : OwnI w' base v l := owns_of h (fun k hk => hb.block k (h.lt k hk).2)
theorem OwnI.base {w : World} {base b2 : Nat} {v : Value} {l : List Int} (h : OwnI w base v l) (hb : b2 ≤ base) : OwnI w b2 v l := owns_base h hb
theorem OwnI.set {w : World} {base : Nat} {v : Value} {l : List Int} (h : OwnI w base v l) {b o : Nat} (hb : b < base) (x : Value) : OwnI (w.setCell ⟨b, o, none⟩ x) base v l :=
  owns_of h (fun k hk => heap_set_other (by have := (h.lt k hk).1; simp only; omega))
theorem BoxU.next {w0 W W' : World} {ub : Nat} {vg vn : Value} {U : Msg} (h : BoxU w0 W ub vg vn U) (hb : Below W.heap.size W W') : BoxU w0 W' ub vg vn U := by
  obtain ⟨⟨vp, vm, h1, h2, h3, h4⟩, hf⟩ := h
  exact ⟨⟨vp, vm, (hb.block _ (heap_lt h1)).trans h1, h2.nextW hb, h3.nextW hb, h4⟩, hf.below hb⟩
theorem BoxU.path {w0 W W' : World} {ub : Nat} {vg vn v : Value} {U : Msg} {L : List Int} (h : BoxU w0 W ub vg vn U) (hu : ub < w0.heap.size) (hb : Below W.heap.size W W') (ho : OwnI W' W.heap.size v L) :
    BoxU w0 (W'.setCell ⟨ub, 2, none⟩ v) ub vg vn { U with path := L } := by
  have h' := h.next hb
  have hw0 := h.fr.size
  obtain ⟨⟨vp0, vm0, a1, a2, a3, a4⟩, -⟩ := h
  obtain ⟨⟨vp, vm, h1, h2, h3, h4⟩, hf⟩ := h'
  have e := a1.symm.trans ((hb.block _ (heap_lt a1)).symm.trans h1)
  simp only [Option.some.injEq, Obj.cells.injEq, Array.mk.injEq, List.cons.injEq, and_true, true_and] at e
  obtain ⟨rfl, rfl⟩ := e
  exact ⟨⟨v, vm0, heap_set h1, (ho.base hw0).set hu v, h3.set hu v, fun k hk hk2 => by have := (ho.lt k hk).1; have := (a3.lt k hk2).2; omega⟩, hf.setCell (Or.inl rfl) _⟩
theorem BoxU.marks {w0 W W' : World} {ub : Nat} {vg vn v : Value} {U : Msg} {L : List Int} (h : BoxU w0 W ub vg vn U) (hu : ub < w0.heap.size) (hb : Below W.heap.size W W') (ho : OwnI W' W.heap.size v L) :
    BoxU w0 (W'.setCell ⟨ub, 3, none⟩ v) ub vg vn { U with marks := L } := by
  have h' := h.next hb
  have hw0 := h.fr.size
  obtain ⟨⟨vp0, vm0, a1, a2, a3, a4⟩, -⟩ := h
  obtain ⟨⟨vp, vm, h1, h2, h3, h4⟩, hf⟩ := h'
  have e := a1.symm.trans ((hb.block _ (heap_lt a1)).symm.trans h1)
  simp only [Option.some.injEq, Obj.cells.injEq, Array.mk.injEq, List.cons.injEq, and_true, true_and] at e
  obtain ⟨rfl, rfl⟩ := e
  exact ⟨⟨vp0, v, heap_set h1, h2.set hu v, (ho.base hw0).set hu v, fun k hk hk2 => by have := (ho.lt k hk2).1; have := (a2.lt k hk).2; omega⟩, hf.setCell (Or.inl rfl) _⟩
theorem BoxU.pref {w0 W : World} {ub : Nat} {vg vn : Value} {U : Msg} {x : Int} (h : BoxU w0 W ub vg vn U) (hu : ub < w0.heap.size) : BoxU w0 (W.setCell ⟨ub, 4, none⟩ (.int .i64 x)) ub vg vn { U with pref := x } := by
  obtain ⟨⟨vp, vm, h1, h2, h3, h4⟩, hf⟩ := h
  exact ⟨⟨vp, vm, heap_set h1, h2.set hu _, h3.set hu _, h4⟩, hf.setCell (Or.inl rfl) _⟩
theorem BoxU.med {w0 W : World} {ub : Nat} {vg vn : Value} {U : Msg} {x : Int} (h : BoxU w0 W ub vg vn U) (hu : ub < w0.heap.size) : BoxU w0 (W.setCell ⟨ub, 5, none⟩ (.int .i64 x)) ub vg vn { U with med := x } := by
  obtain ⟨⟨vp, vm, h1, h2, h3, h4⟩, hf⟩ := h
  exact ⟨⟨vp, vm, heap_set h1, h2.set hu _, h3.set hu _, h4⟩, hf.setCell (Or.inl rfl) _⟩

/-- what put gives -/
def PutC (w0 W : World) (ub : Nat) (vg vn : Value) (r : Option Msg) (e : Ending) (W' : World) : Prop :=
  ∃ ok : Bool, e = .returned (.bool ok) ∧ Fr (· = ub) W (· = ub) W' ∧ match r with | none => ok = false | some U => ok = true ∧ BoxU w0 W' ub vg vn U
theorem PutC.of {w0 W W' : World} {ub : Nat} {vg vn : Value} {r : Option Msg} {U : Msg} {ok : Bool} (h : r = if ok = true then some U else none) (hf : Fr (· = ub) W (· = ub) W') (hb : BoxU w0 W' ub vg vn U) : PutC w0 W ub vg vn r (.returned (.bool ok)) W' := by
  cases ok with
  | true => exact ⟨true, rfl, hf, by rw [h]; exact ⟨rfl, hb⟩⟩
  | false => exact ⟨false, rfl, hf, by rw [h]; rfl⟩
theorem into_4 (U : Msg) (l : List Int) : into U 4 l = if (is4 l && decide (0 < wordN l)) = true then some { U with med := wordN l } else none := by
  unfold into
  rw [if_neg (by omega), if_neg (by omega), if_pos rfl]
  by_cases h : l.length = 4
  · obtain ⟨h1, h2⟩ := word4 h
    rw [h1, h2]
    by_cases hp : 0 < valB l
    · rw [if_pos ⟨h, hp⟩]; simp [hp]
    · rw [if_neg (fun h => hp h.2)]; simp [hp]
  · obtain ⟨h1, h2⟩ := wordNo h
    rw [if_neg (fun h2 => h h2.1), h2]; rfl
theorem into_5 (U : Msg) (l : List Int) : into U 5 l = if is4 l = true then some { U with pref := wordN l } else none := by
  unfold into
  rw [if_neg (by omega), if_neg (by omega), if_neg (by omega)]
  by_cases h : l.length = 4
  · obtain ⟨h1, h2⟩ := word4 h
    rw [h1, h2, if_pos h]; rfl
  · obtain ⟨h1, h2⟩ := wordNo h
    rw [if_neg h, h2]; rfl

set_option maxRecDepth 100000 in
set_option maxHeartbeats 1600000 in
theorem put_any (f n : Int) (v : Value) (l : List Int) (w0 W : World) (ub : Nat) (qg qn : Option Addr) (ng nn cg cn : Nat) (U : Msg) (hn : n = 2 ∨ n = 4 ∨ n = 5 ∨ n = 8) (hu : ub < w0.heap.size) (hB : BoxU w0 W ub (.slice qg ng cg) (.slice qn nn cn) U) (hv : BytesAt W v l) (hl : l.length ≤ 255) :
    Calls Tryz.prog 187 #[.agg #[.int .u8 f, .int .u8 n, v], .pointer (some ⟨ub, 0, none⟩)] W (PutC w0 W ub (.slice qg ng cg) (.slice qn nn cn) (into U n l)) := by
  have HB := hide hB
  have HV := hide hv
  obtain ⟨p, c, rfl, -⟩ := hv
  obtain ⟨⟨vp, vm, hb1, -⟩, -⟩ := hB
  have hlu : ub < W.heap.size := heap_lt hb1
  obtain ⟨WA, hWA⟩ : ∃ WA, W.alloc (.cells #[.int .u8 f, .int .u8 n, .slice p l.length c] 279) = WA := ⟨_, rfl⟩
  have bA := (Below.refl W.heap.size W).alloc (Nat.le_refl _) (.cells #[.int .u8 f, .int .u8 n, .slice p l.length c] 279)
  rw [hWA] at bA
  have BA := hide bA
  have HWA := hide hWA
  have HBA := hide ((unhide HB).next bA)
  have HVA := hide ((unhide HV).below bA)
  have sA := bA.size
  have hb2 := (bA.block _ hlu).trans hb1
  clear hWA bA hb1
  rcases hn with rfl | rfl | rfl | rfl
  · go_enter Tryz.func187, Tryz.ntmps187
    go_wp2_with fail
    rw [unhide HWA]
    refine (readPath_any l _ _ (unhide HVA) hl).mono ?_
    rintro e w1 ⟨v1, L, ok, rfl, ho, hr, hb⟩
    have hb3 := (hb.block _ (by omega)).trans hb2
    have c2 : w1.cell? ⟨ub, 2, none⟩ = some vp := cell_of_heap hb3
    have fz : ∀ o, w1.frozen? ⟨ub, o, none⟩ = false := fun o => frozen_of_heap hb3
    obtain ⟨q1, k1, rfl⟩ := own_slice ho
    have HN := hide ((unhide HBA).path hu hb ho)
    have HFR := hide (((Fr.of_below (O := (· = ub)) (unhide BA)).below hb).setCell (p := ⟨ub, 2, none⟩) (Or.inl rfl) (.slice q1 L.length k1))
    have HR := hide (show into U 2 l = if ok = true then some { U with path := L } else none from by unfold into; rw [if_pos rfl, hr]; cases ok <;> rfl)
    clear ho hr hb hb3 hb2
    go_wp2
    go_ret
    exact PutC.of (unhide HR) (unhide HFR) (unhide HN)
  · go_enter Tryz.func187, Tryz.ntmps187
    go_wp2_with fail
    rw [unhide HWA]
    refine (readWord_any l _ _ (unhide HVA)).mono ?_
    rintro e w1 ⟨rfl, hw1⟩
    subst hw1
    have c5 : w1.cell? ⟨ub, 5, none⟩ = some (.int .i64 U.med) := cell_of_heap hb2
    have fz : ∀ o, w1.frozen? ⟨ub, o, none⟩ = false := fun o => frozen_of_heap hb2
    have HN := hide ((unhide HBA).med hu (x := wordN l))
    have HFR := hide ((Fr.of_below (O := (· = ub)) (unhide BA)).setCell (p := ⟨ub, 5, none⟩) (Or.inl rfl) (.int .i64 (wordN l)))
    have HR := hide (into_4 U l)
    clear hb2
    cases h4 : is4 l with
    | false =>
      have H4 := hide h4
      clear h4
      go_wp2
      go_ret
      exact PutC.of (ok := false) (by rw [unhide HR, unhide H4]; rfl) (unhide HFR) (unhide HN)
    | true =>
      have H4 := hide h4
      clear h4
      go_wp2
      go_ret
      exact PutC.of (ok := decide (0 < wordN l)) (by rw [unhide HR, unhide H4]; rfl) (unhide HFR) (unhide HN)
  · go_enter Tryz.func187, Tryz.ntmps187
    go_wp2_with fail
    rw [unhide HWA]
    refine (readWord_any l _ _ (unhide HVA)).mono ?_
    rintro e w1 ⟨rfl, hw1⟩
    subst hw1
    have c4 : w1.cell? ⟨ub, 4, none⟩ = some (.int .i64 U.pref) := cell_of_heap hb2
    have fz : ∀ o, w1.frozen? ⟨ub, o, none⟩ = false := fun o => frozen_of_heap hb2
    have HN := hide ((unhide HBA).pref hu (x := wordN l))
    have HFR := hide ((Fr.of_below (O := (· = ub)) (unhide BA)).setCell (p := ⟨ub, 4, none⟩) (Or.inl rfl) (.int .i64 (wordN l)))
    have HR := hide (into_5 U l)
    clear hb2
    go_wp2
    go_ret
    exact PutC.of (unhide HR) (unhide HFR) (unhide HN)
  · go_enter Tryz.func187, Tryz.ntmps187
    go_wp2_with fail
    rw [unhide HWA]
    refine (readMarks_any l _ _ (unhide HVA) hl).mono ?_
    rintro e w1 ⟨v1, L, ok, rfl, ho, hr, hb⟩
    have hb3 := (hb.block _ (by omega)).trans hb2
    have c3 : w1.cell? ⟨ub, 3, none⟩ = some vm := cell_of_heap hb3
    have fz : ∀ o, w1.frozen? ⟨ub, o, none⟩ = false := fun o => frozen_of_heap hb3
    obtain ⟨q1, k1, rfl⟩ := own_slice ho
    have HN := hide ((unhide HBA).marks hu hb ho)
    have HFR := hide (((Fr.of_below (O := (· = ub)) (unhide BA)).below hb).setCell (p := ⟨ub, 3, none⟩) (Or.inl rfl) (.slice q1 L.length k1))
    have HR := hide (show into U 8 l = if ok = true then some { U with marks := L } else none from by unfold into; rw [if_neg (by omega), if_pos rfl, hr]; cases ok <;> rfl)
    clear ho hr hb hb3 hb2
    go_wp2
    go_ret
    exact PutC.of (unhide HR) (unhide HFR) (unhide HN)
end Go.Proofs.YtgngdklkoilaiaaGreatDoor
