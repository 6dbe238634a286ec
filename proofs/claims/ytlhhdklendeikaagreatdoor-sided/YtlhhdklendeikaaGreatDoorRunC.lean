/- Closures made: a sum, a comparison. -/
import Derived.Test.YtlhhdklendeikaaGreatDoorRunA
namespace Go.Proofs.YtlhhdklendeikaaGreatDoor
open Go.RowKit

theorem alloc_mono (w : World) (o : Obj) (A : Nat → Prop) : w.heap.size ≤ (w.alloc o).heap.size ∧ ∀ k, k < w.heap.size → A k → (w.alloc o).heap[k]? = w.heap[k]? ∧ A k :=
  ⟨by simp, fun k hk ha => ⟨Below.heap_alloc _ _ _ hk, ha⟩⟩
theorem AmtO.alloc {w : World} {A : Nat → Prop} {v : Value} {o : Option AmtM} (h : AmtO w A v o) (b : Obj) : AmtO (w.alloc b) A v o := h.mono (alloc_mono w b A).1 (alloc_mono w b A).2
theorem CndO.alloc {w : World} {A : Nat → Prop} {v : Value} {o : Option CndM} (h : CndO w A v o) (b : Obj) : CndO (w.alloc b) A v o := h.mono (alloc_mono w b A).1 (alloc_mono w b A).2
abbrev box1 (v : Value) (T : TypeId) : Obj := .cells #[v] T

set_option maxRecDepth 100000 in
set_option maxHeartbeats 1000000 in
theorem plus_call (w : World) (va vb : Value) (s : Int) (ha : FnV va) (hb : FnV vb) :
    Calls Tryz.prog 137 #[va, vb, .int .i64 s] w fun e w' => e = .returned (.func (.func 160) #[] #[ptr4 w.heap.size 0, ptr4 (w.heap.size + 1) 0, ptr4 (w.heap.size + 1 + 1) 0]) ∧ w' = ((w.alloc (box1 va 123)).alloc (box1 vb 123)).alloc (box1 (.int .i64 s) 3) := by
  have hmf : ∀ (fn : Fn) (first cap : Array Value) (w : World), (Instr.makeFunc fn first cap).run Tryz.prog w = .ok (.func fn first cap) w := fun _ _ _ _ => rfl
  rcases ha with ⟨f, a, b, rfl⟩ | rfl <;> rcases hb with ⟨f', a', b', rfl⟩ | rfl <;>
  · go_enter Tryz.func137, Tryz.ntmps137
    go_wp2_with fail
    go_ret
    exact ⟨rfl, rfl⟩
theorem Tryz.entPlus : Enters Tryz.prog 160 := enters_of Tryz.func160 (by kernel_rfl) rfl
theorem three_new (w : World) (a b c : Obj) : (((w.alloc a).alloc b).alloc c).heap[w.heap.size]? = some a ∧ (((w.alloc a).alloc b).alloc c).heap[w.heap.size + 1]? = some b ∧ (((w.alloc a).alloc b).alloc c).heap[w.heap.size + 1 + 1]? = some c ∧ (((w.alloc a).alloc b).alloc c).heap.size = w.heap.size + 3 := by
  have s1 : (w.alloc a).heap.size = w.heap.size + 1 := by simp
  have s2 : ((w.alloc a).alloc b).heap.size = w.heap.size + 1 + 1 := by simp
  refine ⟨?_, ?_, ?_, by simp⟩
  · rw [Below.heap_alloc _ _ _ (by omega), Below.heap_alloc _ _ _ (by omega)]; exact heap_alloc_new w _
  · rw [Below.heap_alloc _ _ _ (by omega), ← s1]; exact heap_alloc_new _ _
  · rw [← s2]; exact heap_alloc_new _ _
theorem two_new (w : World) (a b : Obj) : ((w.alloc a).alloc b).heap[w.heap.size]? = some a ∧ ((w.alloc a).alloc b).heap[w.heap.size + 1]? = some b ∧ ((w.alloc a).alloc b).heap.size = w.heap.size + 2 := by
  have s1 : (w.alloc a).heap.size = w.heap.size + 1 := by simp
  refine ⟨?_, ?_, by simp⟩
  · rw [Below.heap_alloc _ _ _ (by omega)]; exact heap_alloc_new w _
  · rw [← s1]; exact heap_alloc_new _ _
theorem plus_any (w : World) (va vb : Value) (oa ob : Option AmtM) (s : Int) (A : Nat → Prop) (hA : ∀ k, w.heap.size ≤ k → A k) (ha : AmtO w A va oa) (hb : AmtO w A vb ob) :
    Calls Tryz.prog 137 #[va, vb, .int .i64 s] w fun e w' => ∃ v, e = .returned v ∧ w' = ((w.alloc (box1 va 123)).alloc (box1 vb 123)).alloc (box1 (.int .i64 s) 3) ∧ AmtO w' A v (plusO oa ob s) := by
  refine (plus_call w va vb s ha.fnv hb.fnv).mono ?_
  rintro e w' ⟨rfl, rfl⟩
  refine ⟨_, rfl, rfl, ?_⟩
  cases oa with
  | none => exact Or.inl ⟨_, _, _, rfl⟩
  | some ma => cases ob with
    | none => exact Or.inl ⟨_, _, _, rfl⟩
    | some mb =>
      have h1 : Lasts _ A (AmtC va ma) := ((ha.alloc (box1 va 123)).alloc (box1 vb 123)).alloc (box1 (.int .i64 s) 3)
      have h2 : Lasts _ A (AmtC vb mb) := ((hb.alloc (box1 va 123)).alloc (box1 vb 123)).alloc (box1 (.int .i64 s) 3)
      obtain ⟨n1, n2, n3, sz⟩ := three_new w (box1 va 123) (box1 vb 123) (box1 (.int .i64 s) 3)
      refine Lasts.two h1 h2 (fun k => k = w.heap.size ∨ k = w.heap.size + 1 ∨ k = w.heap.size + 1 + 1) (fun k hk => ⟨by omega, hA k (by omega)⟩) (fun K1 K2 _ _ q1 q2 W hW hk => ?_)
      refine ⟨_, _, rfl, Tryz.entPlus, fun b r pv mv hr => ?_⟩
      exact plus_run W b r pv mv hr va vb ma mb K1 K2 (q1 W hW (fun k h => hk k (Or.inl h))) (q2 W hW (fun k h => hk k (Or.inr (Or.inl h)))) _ _ _ s
        (cell_of_heap ((hk _ (Or.inr (Or.inr (Or.inl rfl)))).trans n1)) (cell_of_heap ((hk _ (Or.inr (Or.inr (Or.inr (Or.inl rfl))))).trans n2)) (cell_of_heap ((hk _ (Or.inr (Or.inr (Or.inr (Or.inr rfl))))).trans n3))

set_option maxRecDepth 100000 in
set_option maxHeartbeats 1000000 in
theorem less_run (W : World) (b : Nat) (r : Rt) (pv mv : Value) (h : RtAt W b r pv mv) (va vb : Value) (ma mb : AmtM) (Ka Kb : Nat → Prop) (ha : AmtC va ma Ka W) (hb : AmtC vb mb Kb W) (B1 B2 : Nat)
    (c1 : W.cell? ⟨B1, 0, none⟩ = some va) (c2 : W.cell? ⟨B2, 0, none⟩ = some vb) :
    Calls Tryz.prog 203 (#[ptr4 b 0] ++ #[ptr4 B1 0, ptr4 B2 0]) W fun e W' => e = .returned (condV (ltM ma mb r)) ∧ W' = W := by
  cases hB : ((ma r).isSome && (mb r).isSome) with
  | false =>
    have HB := hide (both_no W b r pv mv h va vb ma mb Ka Kb ha hb hB)
    have HN : Hid (ltM ma mb r = none) := by
      unfold Hid ltM cmpM
      cases hx : ma r with
      | none => rfl
      | some x => cases hy : mb r with
        | none => rfl
        | some y => rw [hx, hy] at hB; cases hB
    obtain ⟨g, lb, rfl⟩ := amtC_form ha
    obtain ⟨g2, lb2, rfl⟩ := amtC_form hb
    clear h ha hb hB
    go_enter Tryz.func203, Tryz.ntmps203
    go_wp2_with (go_at_call 161; refine (unhide HB).mono ?_; rintro e w' ⟨⟨x, y, rfl⟩, rfl⟩)
    go_ret2
    exact ⟨by rw [unhide HN]; rfl, rfl⟩
  | true =>
    rw [Bool.and_eq_true] at hB
    obtain ⟨x, hx⟩ := Option.isSome_iff_exists.1 hB.1
    obtain ⟨y, hy⟩ := Option.isSome_iff_exists.1 hB.2
    have HB := hide (both_yes W b r pv mv h va vb ma mb Ka Kb ha hb hx hy)
    have HE : Hid (ltM ma mb r = some (decide (x < y))) := by unfold Hid ltM cmpM; rw [hx, hy]
    obtain ⟨g, lb, rfl⟩ := amtC_form ha
    obtain ⟨g2, lb2, rfl⟩ := amtC_form hb
    clear h ha hb hB hx hy
    go_enter Tryz.func203, Tryz.ntmps203
    go_wp2_with (go_at_call 161; refine (unhide HB).mono ?_; rintro e w' ⟨rfl, rfl⟩)
    go_ret2
    exact ⟨by rw [unhide HE]; rfl, rfl⟩
set_option maxRecDepth 100000 in
set_option maxHeartbeats 1000000 in
theorem equal_run (W : World) (b : Nat) (r : Rt) (pv mv : Value) (h : RtAt W b r pv mv) (va vb : Value) (ma mb : AmtM) (Ka Kb : Nat → Prop) (ha : AmtC va ma Ka W) (hb : AmtC vb mb Kb W) (B1 B2 : Nat)
    (c1 : W.cell? ⟨B1, 0, none⟩ = some va) (c2 : W.cell? ⟨B2, 0, none⟩ = some vb) :
    Calls Tryz.prog 204 (#[ptr4 b 0] ++ #[ptr4 B1 0, ptr4 B2 0]) W fun e W' => e = .returned (condV (eqM ma mb r)) ∧ W' = W := by
  cases hB : ((ma r).isSome && (mb r).isSome) with
  | false =>
    have HB := hide (both_no W b r pv mv h va vb ma mb Ka Kb ha hb hB)
    have HN : Hid (eqM ma mb r = none) := by
      unfold Hid eqM cmpM
      cases hx : ma r with
      | none => rfl
      | some x => cases hy : mb r with
        | none => rfl
        | some y => rw [hx, hy] at hB; cases hB
    obtain ⟨g, lb, rfl⟩ := amtC_form ha
    obtain ⟨g2, lb2, rfl⟩ := amtC_form hb
    clear h ha hb hB
    go_enter Tryz.func204, Tryz.ntmps204
    go_wp2_with (go_at_call 161; refine (unhide HB).mono ?_; rintro e w' ⟨⟨x, y, rfl⟩, rfl⟩)
    go_ret2
    exact ⟨by rw [unhide HN]; rfl, rfl⟩
  | true =>
    rw [Bool.and_eq_true] at hB
    obtain ⟨x, hx⟩ := Option.isSome_iff_exists.1 hB.1
    obtain ⟨y, hy⟩ := Option.isSome_iff_exists.1 hB.2
    have HB := hide (both_yes W b r pv mv h va vb ma mb Ka Kb ha hb hx hy)
    have HE : Hid (eqM ma mb r = some (x == y)) := by
      unfold Hid eqM cmpM; rw [hx, hy]
      by_cases e : x = y
      · subst e; simp
      · simp [e]
    obtain ⟨g, lb, rfl⟩ := amtC_form ha
    obtain ⟨g2, lb2, rfl⟩ := amtC_form hb
    clear h ha hb hB hx hy
    go_enter Tryz.func204, Tryz.ntmps204
    go_wp2_with (go_at_call 161; refine (unhide HB).mono ?_; rintro e w' ⟨rfl, rfl⟩)
    go_ret2
    exact ⟨by rw [unhide HE]; rfl, rfl⟩
set_option maxRecDepth 100000 in
set_option maxHeartbeats 1000000 in
theorem less_call (w : World) (va vb : Value) (ha : FnV va) (hb : FnV vb) :
    Calls Tryz.prog 200 #[va, vb] w fun e w' => e = .returned (.func (.func 203) #[] #[ptr4 w.heap.size 0, ptr4 (w.heap.size + 1) 0]) ∧ w' = ((w.alloc (box1 va 123)).alloc (box1 vb 123)) := by
  have hmf : ∀ (fn : Fn) (first cap : Array Value) (w : World), (Instr.makeFunc fn first cap).run Tryz.prog w = .ok (.func fn first cap) w := fun _ _ _ _ => rfl
  rcases ha with ⟨f, a, b, rfl⟩ | rfl <;> rcases hb with ⟨f', a', b', rfl⟩ | rfl <;>
  · go_enter Tryz.func200, Tryz.ntmps200
    go_wp2_with fail
    go_ret
    exact ⟨rfl, rfl⟩
set_option maxRecDepth 100000 in
set_option maxHeartbeats 1000000 in
theorem equal_call (w : World) (va vb : Value) (ha : FnV va) (hb : FnV vb) :
    Calls Tryz.prog 201 #[va, vb] w fun e w' => e = .returned (.func (.func 204) #[] #[ptr4 w.heap.size 0, ptr4 (w.heap.size + 1) 0]) ∧ w' = ((w.alloc (box1 va 123)).alloc (box1 vb 123)) := by
  have hmf : ∀ (fn : Fn) (first cap : Array Value) (w : World), (Instr.makeFunc fn first cap).run Tryz.prog w = .ok (.func fn first cap) w := fun _ _ _ _ => rfl
  rcases ha with ⟨f, a, b, rfl⟩ | rfl <;> rcases hb with ⟨f', a', b', rfl⟩ | rfl <;>
  · go_enter Tryz.func201, Tryz.ntmps201
    go_wp2_with fail
    go_ret
    exact ⟨rfl, rfl⟩
theorem Tryz.entLess : Enters Tryz.prog 203 := enters_of Tryz.func203 (by kernel_rfl) rfl
theorem Tryz.entEqual : Enters Tryz.prog 204 := enters_of Tryz.func204 (by kernel_rfl) rfl
theorem less_any (w : World) (va vb : Value) (oa ob : Option AmtM) (A : Nat → Prop) (hA : ∀ k, w.heap.size ≤ k → A k) (ha : AmtO w A va oa) (hb : AmtO w A vb ob) :
    Calls Tryz.prog 200 #[va, vb] w fun e w' => ∃ v, e = .returned v ∧ w' = ((w.alloc (box1 va 123)).alloc (box1 vb 123)) ∧ CndO w' A v (cmpO ltM oa ob) := by
  refine (less_call w va vb ha.fnv hb.fnv).mono ?_
  rintro e w' ⟨rfl, rfl⟩
  refine ⟨_, rfl, rfl, ?_⟩
  cases oa with
  | none => exact Or.inl ⟨_, _, _, rfl⟩
  | some ma => cases ob with
    | none => exact Or.inl ⟨_, _, _, rfl⟩
    | some mb =>
      have h1 : Lasts _ A (AmtC va ma) := (ha.alloc (box1 va 123)).alloc (box1 vb 123)
      have h2 : Lasts _ A (AmtC vb mb) := (hb.alloc (box1 va 123)).alloc (box1 vb 123)
      obtain ⟨n1, n2, sz⟩ := two_new w (box1 va 123) (box1 vb 123)
      refine Lasts.two h1 h2 (fun k => k = w.heap.size ∨ k = w.heap.size + 1) (fun k hk => ⟨by omega, hA k (by omega)⟩) (fun K1 K2 _ _ q1 q2 W hW hk => ?_)
      refine ⟨_, _, rfl, Tryz.entLess, fun b r pv mv hr => ?_⟩
      refine (less_run W b r pv mv hr va vb ma mb K1 K2 (q1 W hW (fun k h => hk k (Or.inl h))) (q2 W hW (fun k h => hk k (Or.inr (Or.inl h)))) _ _
        (cell_of_heap ((hk _ (Or.inr (Or.inr (Or.inl rfl)))).trans n1)) (cell_of_heap ((hk _ (Or.inr (Or.inr (Or.inr rfl)))).trans n2))).mono ?_
      rintro e w' ⟨rfl, rfl⟩
      exact ⟨rfl, Below.refl _ _⟩
theorem equal_any (w : World) (va vb : Value) (oa ob : Option AmtM) (A : Nat → Prop) (hA : ∀ k, w.heap.size ≤ k → A k) (ha : AmtO w A va oa) (hb : AmtO w A vb ob) :
    Calls Tryz.prog 201 #[va, vb] w fun e w' => ∃ v, e = .returned v ∧ w' = ((w.alloc (box1 va 123)).alloc (box1 vb 123)) ∧ CndO w' A v (cmpO eqM oa ob) := by
  refine (equal_call w va vb ha.fnv hb.fnv).mono ?_
  rintro e w' ⟨rfl, rfl⟩
  refine ⟨_, rfl, rfl, ?_⟩
  cases oa with
  | none => exact Or.inl ⟨_, _, _, rfl⟩
  | some ma => cases ob with
    | none => exact Or.inl ⟨_, _, _, rfl⟩
    | some mb =>
      have h1 : Lasts _ A (AmtC va ma) := (ha.alloc (box1 va 123)).alloc (box1 vb 123)
      have h2 : Lasts _ A (AmtC vb mb) := (hb.alloc (box1 va 123)).alloc (box1 vb 123)
      obtain ⟨n1, n2, sz⟩ := two_new w (box1 va 123) (box1 vb 123)
      refine Lasts.two h1 h2 (fun k => k = w.heap.size ∨ k = w.heap.size + 1) (fun k hk => ⟨by omega, hA k (by omega)⟩) (fun K1 K2 _ _ q1 q2 W hW hk => ?_)
      refine ⟨_, _, rfl, Tryz.entEqual, fun b r pv mv hr => ?_⟩
      refine (equal_run W b r pv mv hr va vb ma mb K1 K2 (q1 W hW (fun k h => hk k (Or.inl h))) (q2 W hW (fun k h => hk k (Or.inr (Or.inl h)))) _ _
        (cell_of_heap ((hk _ (Or.inr (Or.inr (Or.inl rfl)))).trans n1)) (cell_of_heap ((hk _ (Or.inr (Or.inr (Or.inr rfl)))).trans n2))).mono ?_
      rintro e w' ⟨rfl, rfl⟩
      exact ⟨rfl, Below.refl _ _⟩
end Go.Proofs.YtlhhdklendeikaaGreatDoor
