/- The document's ways: ends (run.go): where one can be behind a part of a way. -/
import Derived.Test.YtgdeeodifnegiaaGreatDoorRnD
import Derived.Test.YtgdeeodifnegiaaGreatDoorEqE
import Derived.BigRegion
namespace Go.Proofs.YtgdeeodifnegiaaGreatDoor.rf
open Go.RowKit

/-- the marks say where a part of a way can end that began at a place -/
def Like (l : List Int) (A : WayM) (M : Nat → Nat → Bool) : Prop := ∀ i j, i ≤ l.length → j ≤ l.length → (M i j = true ↔ i ≤ j ∧ A ((l.take j).drop i))
def EndsP (w : World) (l : List Int) (A : WayM) (e : Ending) (w' : World) : Prop := ∃ z bs M, e = .returned z ∧ Below w.heap.size w w' ∧ bs.length = l.length + 1 ∧ Grid w' w.heap.size (l.length + 1) z bs M ∧ Like l A M
def EndsR (t : Tr) (A : WayM) : Prop := ∀ (w : World) (Q : Nat → Prop) (v : Value) (l : List Int) (pv : Value), TrAt w Q t v → w.ownsRow 0 3 1 pv l.length (intCells l) → l.length ≤ 100 → Calls Tryz.prog 195 #[v, pv] w (EndsP w l A)
def lf (f : Int → Bool) (l : List Int) (i a b : Nat) : Bool := decide (b = a + 1 ∧ a < i) && f (l.getD a 0)
theorem seg_one {l : List Int} {i : Nat} (h : i < l.length) : (l.take (i + 1)).drop i = [l[i]] := by
  rw [List.take_add_one, List.getElem?_eq_getElem h, List.drop_append_of_le_length (by simp; omega), List.drop_eq_nil_of_le (by simp; omega)]
  rfl
theorem lf_like (f : Int → Bool) (l : List Int) : Like l (sysL f) (lf f l l.length) := fun i j hi hj => by
  unfold lf
  rw [Bool.and_eq_true, decide_eq_true_eq]
  constructor
  · rintro ⟨⟨rfl, h1⟩, h2⟩
    refine ⟨by omega, ?_⟩
    rw [seg_one h1]
    rw [List.getD_eq_getElem?_getD, List.getElem?_eq_getElem h1] at h2
    exact ⟨_, rfl, h2⟩
  · rintro ⟨h1, s, hs, h2⟩
    have hl := congrArg List.length hs
    simp only [List.length_drop, List.length_take, List.length_singleton] at hl
    obtain rfl : j = i + 1 := by omega
    have h3 : i < l.length := by omega
    rw [seg_one h3] at hs
    simp only [List.cons.injEq, and_true] at hs
    refine ⟨⟨rfl, h3⟩, ?_⟩
    rw [List.getD_eq_getElem?_getD, List.getElem?_eq_getElem h3]
    rw [← hs] at h2; exact h2
set_option maxRecDepth 100000 in
set_option maxHeartbeats 6400000 in
theorem ends_leaf (op : ByteArray) (n a : Int) (f : Int → Bool) (dot : Bool) (hop : (op = wNumber ∧ dot = false ∧ f = fun s => s == n) ∨ (op = wDot ∧ dot = true ∧ f = fun _ => true)) : EndsR (.mk op nB n a []) (sysL f) := by
  intro w Q v l pv ht ho hl
  have e0 : (op.toList == [110, 117, 109, 98, 101, 114]) = !dot := by rcases hop with ⟨rfl, rfl, _⟩ | ⟨rfl, rfl, _⟩ <;> decide +kernel
  have e1 : (op.toList == [46]) = dot := by rcases hop with ⟨rfl, rfl, _⟩ | ⟨rfl, rfl, _⟩ <;> decide +kernel
  have hf : ∀ s, f s = (dot || (s == n)) := fun s => by rcases hop with ⟨_, rfl, rfl⟩ | ⟨_, rfl, rfl⟩ <;> simp
  rw [TrAt] at ht
  obtain ⟨kv, xs, rfl, _, _, _⟩ := ht
  obtain ⟨po, pc, rfl⟩ := owns_sl ho
  have hA : Below w.heap.size w (w.alloc (.cells (treeCells op nB n a kv) 115)) := (Below.refl _ _).alloc (Nat.le_refl _) _
  have q0 : (w.alloc (.cells (treeCells op nB n a kv) 115)).heap[w.heap.size]? = some (.cells (treeCells op nB n a kv) 115 (0, 0)) := heap_alloc_new _ _
  obtain ⟨WA, hWA⟩ : ∃ WA, w.alloc (.cells (treeCells op nB n a kv) 115) = WA := ⟨_, rfl⟩
  have HWA := hide hWA
  rw [hWA] at hA q0
  have lA : w.heap.size < WA.heap.size := heap_lt q0
  have HA := hide hA
  have Q0 := hide q0
  have HO := hide ho
  have HF := hide hf
  clear hWA hA q0 ho hop hf
  go_enter Tryz.func195, Tryz.ntmps195
  go_upto_region 1 with fail
  rw [unhide HWA]
  go_wp2_with fail
  rw [show ((l.length : Int) + 1) = ((l.length + 1 : Nat) : Int) from by omega]
  refine (nowhere_any WA (l.length + 1) (by omega)).mono ?_
  rintro e w1 ⟨z, bs, rfl, hb1, hbl, hg1⟩
  obtain ⟨zo, zc, rfl⟩ := owns_sl hg1.own
  rw [hbl] at hg1 ⊢
  have c0 : w1.cell? ⟨w.heap.size, 0, none⟩ = some (.string op) := (hb1.cell (p := ⟨w.heap.size, 0, none⟩) lA).trans (cell_of_heap (unhide Q0))
  have HB1 := hide hb1
  have HG1 := hide hg1
  have l1 : w.heap.size < w1.heap.size := Nat.lt_of_lt_of_le lA hb1.size
  clear hb1 hg1
  cases dot
  all_goals
    simp only [Bool.not_false, Bool.not_true] at e0
    go_wp2_with fail
    go_loopg [6] l.length (fun k b6 wr => ∃ i : Nat, i + k = l.length ∧ b6 = .int .i64 i ∧ Below WA.heap.size WA wr ∧ Grid wr WA.heap.size (l.length + 1) (.slice zo (l.length + 1) zc) bs (lf f l i))
    case atStart => exact ⟨0, by omega, rfl, unhide HB1, (unhide HG1).congr (fun a b _ _ => by simp [lf])⟩
    case round =>
      clear HB1 HG1 c0 l1
      obtain ⟨i, hik, rfl, hb, hg⟩ := hrel
      have HB := hide hb
      have HG := hide hg
      by_cases hi : i < l.length
      · obtain ⟨g3, cap3, hv3, lg3, c3, lb3, zb3, cb3⟩ := hg.get (i := i) (by omega)
        obtain ⟨g1, cap1, hv1, lg1, y1⟩ := own_get (unhide HO) hi
        simp only [Value.slice.injEq] at hv1 hv3
        obtain ⟨rfl, -, rfl⟩ := hv1
        rw [hbl] at hv3
        obtain ⟨rfl, -, rfl⟩ := hv3
        have hw := ((unhide HA).trans (hb.mono (unhide HA).size))
        have y1r := (hw.cell (p := ⟨g1, i, none⟩) lg1).trans y1
        have lgr : g1 < wr.heap.size := Nat.lt_of_lt_of_le lg1 hw.size
        have c0 : wr.cell? ⟨w.heap.size, 0, none⟩ = some (.string op) := (hb.cell (p := ⟨w.heap.size, 0, none⟩) lA).trans (cell_of_heap (unhide Q0))
        have c2 : wr.cell? ⟨w.heap.size, 2, none⟩ = some (.int .i64 n) := (hb.cell (p := ⟨w.heap.size, 2, none⟩) lA).trans (cell_of_heap (unhide Q0))
        have lw : w.heap.size < wr.heap.size := Nat.lt_of_lt_of_le lA hb.size
        have d3 := cb3 (i + 1) (by omega)
        obtain ⟨x3, hx3⟩ : ∃ b, bs[i]'(by omega) = b := ⟨_, rfl⟩
        have F := hide (show Below WA.heap.size WA (wr.setCell ⟨x3, i + 1, none⟩ (.bool (f l[i]))) ∧ Grid (wr.setCell ⟨x3, i + 1, none⟩ (.bool (f l[i]))) WA.heap.size (l.length + 1) (.slice (some ⟨g3, 0, none⟩) (l.length + 1) zc) bs (lf f l (i + 1)) from by
          refine ⟨hb.setCell ?_ _, ?_⟩
          · rw [← hx3]; exact (hg.rows i (by omega)).1
          · rw [← hx3]
            refine (hg.set (j := i + 1) (by omega) _).congr (fun a b _ _ => ?_)
            by_cases e : a = i ∧ b = i + 1
            · obtain ⟨rfl, rfl⟩ := e
              rw [if_pos ⟨rfl, rfl⟩]
              unfold lf
              rw [List.getD_eq_getElem?_getD, List.getElem?_eq_getElem hi]
              simp
            · rw [if_neg e]
              unfold lf
              congr 1
              rw [decide_eq_decide]; omega)
        rw [unhide HF] at F
        rw [hx3] at c3 lb3 zb3 d3
        clear hb hg cb3 hx3 hw
        generalize l[i] = y at *
        go_wp2_with fail
        go_region
        go_wp2_with fail
        go_roundg (l.length - (i + 1))
        case measure => omega
        case rel => exact ⟨i + 1, by omega, by go_num, (unhide F).1.drew, (unhide F).2.keep (fun _ _ _ => rfl)⟩
      · have hin : i = l.length := by omega
        have FIN := hide (show Below w.heap.size w wr ∧ Grid wr w.heap.size (l.length + 1) (.slice zo (l.length + 1) zc) bs (lf f l l.length) from by
          have hs := (unhide HA).size
          rw [hin] at hg
          exact ⟨(unhide HA).trans (hb.mono hs), ⟨hg.own, fun k hk => Nat.le_trans hs (hg.new k hk), hg.off, hg.nd, fun i hi => ⟨Nat.le_trans hs (hg.rows i hi).1, (hg.rows i hi).2⟩⟩⟩)
        clear hb hg
        go_wp2_with fail
        go_ret
        exact ⟨_, bs, _, rfl, (unhide FIN).1, hbl, (unhide FIN).2, lf_like f l⟩
end Go.Proofs.YtgdeeodifnegiaaGreatDoor.rf
