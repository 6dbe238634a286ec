/- Closures of conditions: and, or, not. -/
import Derived.Test.YtgdeeodifnegiaaGreatDoorRunA
namespace Go.Proofs.YtgdeeodifnegiaaGreatDoor
open Go.RowKit

theorem cndC_form {v : Value} {m : CndM} {K : Nat → Prop} {W : World} (h : CndC v m K W) : ∃ g lb, v = .func (.func g) #[] lb := by
  obtain ⟨g, lb, h1, _⟩ := h; exact ⟨g, lb, h1⟩
theorem cell_lt {W : World} {b o : Nat} {v : Value} (h : W.cell? ⟨b, o, none⟩ = some v) : b < W.heap.size := by
  rcases Nat.lt_or_ge b W.heap.size with h1 | h1
  · exact h1
  · simp [World.cell?, Array.getElem?_eq_none h1] at h
set_option maxRecDepth 100000 in
set_option maxHeartbeats 1000000 in
theorem and_run (W : World) (b : Nat) (r : Rt) (pv mv : Value) (h : RtAt W b r pv mv) (va vb : Value) (ma mb : CndM) (Ka Kb : Nat → Prop) (ha : CndC va ma Ka W) (hb : ∀ V, Below W.heap.size W V → CndC vb mb Kb V) (B1 B2 : Nat)
    (c1 : W.cell? ⟨B1, 0, none⟩ = some va) (c2 : W.cell? ⟨B2, 0, none⟩ = some vb) :
    Calls Tryz.prog 360 (#[ptr4 b 0] ++ #[ptr4 B1 0, ptr4 B2 0]) W fun e W' => e = .returned (condV (andM ma mb r)) ∧ Below W.heap.size W W' := by
  have lb2 := cell_lt c2
  obtain ⟨g, lb, rfl, eg, hc⟩ := ha
  have e1 := enters_fn eg
  have HA := hide (hc b r pv mv h)
  have HB := hide (fun V (hV : Below W.heap.size W V) => hb V hV)
  have HR := hide h
  clear hc h eg hb
  have EQ := hide (show andM ma mb r = (match ma r with | none => none | some false => some false | some true => mb r) from rfl)
  cases hx : ma r with
  | none =>
    rw [hx] at HA EQ
    have HA' : Hid (Calls Tryz.prog g (#[ptr4 b 0] ++ lb) W fun e W' => e = .returned (.tuple #[.bool false, .bool false]) ∧ Below W.heap.size W W') := HA
    clear HA HB
    go_enter Tryz.func360, Tryz.ntmps360
    go_wp2_with (go_at_fn g; refine (unhide HA').mono ?_; rintro e w1 ⟨rfl, hw⟩)
    go_ret2
    exact ⟨by rw [unhide EQ]; rfl, hw⟩
  | some x =>
    cases x with
    | false =>
      rw [hx] at HA EQ
      have HA' : Hid (Calls Tryz.prog g (#[ptr4 b 0] ++ lb) W fun e W' => e = .returned (.tuple #[.bool false, .bool true]) ∧ Below W.heap.size W W') := HA
      clear HA HB
      go_enter Tryz.func360, Tryz.ntmps360
      go_wp2_with (go_at_fn g; refine (unhide HA').mono ?_; rintro e w1 ⟨rfl, hw⟩)
      go_ret2
      exact ⟨by rw [unhide EQ]; rfl, hw⟩
    | true =>
      rw [hx] at HA EQ
      have HA' : Hid (Calls Tryz.prog g (#[ptr4 b 0] ++ lb) W fun e W' => e = .returned (.tuple #[.bool true, .bool true]) ∧ Below W.heap.size W W') := HA
      obtain ⟨g2, lb2, rfl, eg2, _⟩ := (unhide HB) W (Below.refl _ _)
      have e2 := enters_fn eg2
      clear HA eg2
      go_enter Tryz.func360, Tryz.ntmps360
      go_wp2_with (go_at_fn g; refine (unhide HA').mono ?_; rintro e w1 ⟨rfl, hw⟩; have c2' := (hw.cell (p := ⟨B2, 0, none⟩) (by assumption)).trans c2; have HW := hide hw; clear hw)
      obtain ⟨g3, lb3, he, _, hc3⟩ := (unhide HB) w1 (unhide HW)
      cases he
      refine (hc3 b r pv mv ((unhide HR).below (unhide HW))).mono ?_
      rintro e w2 ⟨rfl, hw2⟩
      have HW2 := hide hw2
      clear hw2 hc3
      unfold condV
      go_wp2_with fail
      go_ret2
      exact ⟨by rw [unhide EQ]; rfl, (unhide HW).trans ((unhide HW2).mono (unhide HW).size)⟩
set_option maxRecDepth 100000 in
set_option maxHeartbeats 1000000 in
theorem or_run (W : World) (b : Nat) (r : Rt) (pv mv : Value) (h : RtAt W b r pv mv) (va vb : Value) (ma mb : CndM) (Ka Kb : Nat → Prop) (ha : CndC va ma Ka W) (hb : ∀ V, Below W.heap.size W V → CndC vb mb Kb V) (B1 B2 : Nat)
    (c1 : W.cell? ⟨B1, 0, none⟩ = some va) (c2 : W.cell? ⟨B2, 0, none⟩ = some vb) :
    Calls Tryz.prog 341 (#[ptr4 b 0] ++ #[ptr4 B1 0, ptr4 B2 0]) W fun e W' => e = .returned (condV (orM ma mb r)) ∧ Below W.heap.size W W' := by
  have lb2 := cell_lt c2
  obtain ⟨g, lb, rfl, eg, hc⟩ := ha
  have e1 := enters_fn eg
  have HA := hide (hc b r pv mv h)
  have HB := hide (fun V (hV : Below W.heap.size W V) => hb V hV)
  have HR := hide h
  clear hc h eg hb
  have EQ := hide (show orM ma mb r = (match ma r with | none => none | some true => some true | some false => mb r) from rfl)
  cases hx : ma r with
  | none =>
    rw [hx] at HA EQ
    have HA' : Hid (Calls Tryz.prog g (#[ptr4 b 0] ++ lb) W fun e W' => e = .returned (.tuple #[.bool false, .bool false]) ∧ Below W.heap.size W W') := HA
    clear HA HB
    go_enter Tryz.func341, Tryz.ntmps341
    go_wp2_with (go_at_fn g; refine (unhide HA').mono ?_; rintro e w1 ⟨rfl, hw⟩)
    go_ret2
    exact ⟨by rw [unhide EQ]; rfl, hw⟩
  | some x =>
    cases x with
    | true =>
      rw [hx] at HA EQ
      have HA' : Hid (Calls Tryz.prog g (#[ptr4 b 0] ++ lb) W fun e W' => e = .returned (.tuple #[.bool true, .bool true]) ∧ Below W.heap.size W W') := HA
      clear HA HB
      go_enter Tryz.func341, Tryz.ntmps341
      go_wp2_with (go_at_fn g; refine (unhide HA').mono ?_; rintro e w1 ⟨rfl, hw⟩)
      go_ret2
      exact ⟨by rw [unhide EQ]; rfl, hw⟩
    | false =>
      rw [hx] at HA EQ
      have HA' : Hid (Calls Tryz.prog g (#[ptr4 b 0] ++ lb) W fun e W' => e = .returned (.tuple #[.bool false, .bool true]) ∧ Below W.heap.size W W') := HA
      obtain ⟨g2, lb2, rfl, eg2, _⟩ := (unhide HB) W (Below.refl _ _)
      have e2 := enters_fn eg2
      clear HA eg2
      go_enter Tryz.func341, Tryz.ntmps341
      go_wp2_with (go_at_fn g; refine (unhide HA').mono ?_; rintro e w1 ⟨rfl, hw⟩; have c2' := (hw.cell (p := ⟨B2, 0, none⟩) (by assumption)).trans c2; have HW := hide hw; clear hw)
      obtain ⟨g3, lb3, he, _, hc3⟩ := (unhide HB) w1 (unhide HW)
      cases he
      refine (hc3 b r pv mv ((unhide HR).below (unhide HW))).mono ?_
      rintro e w2 ⟨rfl, hw2⟩
      have HW2 := hide hw2
      clear hw2 hc3
      unfold condV
      go_wp2_with fail
      go_ret2
      exact ⟨by rw [unhide EQ]; rfl, (unhide HW).trans ((unhide HW2).mono (unhide HW).size)⟩
set_option maxRecDepth 100000 in
set_option maxHeartbeats 1000000 in
theorem not_run (W : World) (b : Nat) (r : Rt) (pv mv : Value) (h : RtAt W b r pv mv) (va : Value) (ma : CndM) (Ka : Nat → Prop) (ha : CndC va ma Ka W) (B1 : Nat) (c1 : W.cell? ⟨B1, 0, none⟩ = some va) :
    Calls Tryz.prog 379 (#[ptr4 b 0] ++ #[ptr4 B1 0]) W fun e W' => e = .returned (condV (notM ma r)) ∧ Below W.heap.size W W' := by
  obtain ⟨g, lb, rfl, eg, hc⟩ := ha
  have e1 := enters_fn eg
  have HA := hide (hc b r pv mv h)
  clear hc h eg
  have EQ := hide (show notM ma r = (ma r).map (fun x => !x) from rfl)
  cases hx : ma r with
  | none =>
    rw [hx] at HA EQ
    have HA' : Hid (Calls Tryz.prog g (#[ptr4 b 0] ++ lb) W fun e W' => e = .returned (.tuple #[.bool false, .bool false]) ∧ Below W.heap.size W W') := HA
    clear HA
    go_enter Tryz.func379, Tryz.ntmps379
    go_wp2_with (go_at_fn g; refine (unhide HA').mono ?_; rintro e w1 ⟨rfl, hw⟩)
    go_ret2
    exact ⟨by rw [unhide EQ]; rfl, hw⟩
  | some x =>
    rw [hx] at HA EQ
    have HA' : Hid (Calls Tryz.prog g (#[ptr4 b 0] ++ lb) W fun e W' => e = .returned (.tuple #[.bool x, .bool true]) ∧ Below W.heap.size W W') := HA
    clear HA
    go_enter Tryz.func379, Tryz.ntmps379
    go_wp2_with (go_at_fn g; refine (unhide HA').mono ?_; rintro e w1 ⟨rfl, hw⟩)
    go_ret2
    exact ⟨by rw [unhide EQ]; rfl, hw⟩
set_option maxRecDepth 100000 in
set_option maxHeartbeats 1000000 in
theorem and_call (w : World) (va vb : Value) (ha : FnV va) (hb : FnV vb) :
    Calls Tryz.prog 340 #[va, vb] w fun e w' => e = .returned (.func (.func 360) #[] #[ptr4 w.heap.size 0, ptr4 (w.heap.size + 1) 0]) ∧ w' = ((w.alloc (box1 va 358)).alloc (box1 vb 358)) := by
  have hmf : ∀ (fn : Fn) (first cap : Array Value) (w : World), (Instr.makeFunc fn first cap).run Tryz.prog w = .ok (.func fn first cap) w := fun _ _ _ _ => rfl
  rcases ha with ⟨f, a, b, rfl⟩ | rfl <;> rcases hb with ⟨f', a', b', rfl⟩ | rfl <;>
  · go_enter Tryz.func340, Tryz.ntmps340
    go_wp2_with fail
    go_ret
    exact ⟨rfl, rfl⟩
set_option maxRecDepth 100000 in
set_option maxHeartbeats 1000000 in
theorem or_call (w : World) (va vb : Value) (ha : FnV va) (hb : FnV vb) :
    Calls Tryz.prog 313 #[va, vb] w fun e w' => e = .returned (.func (.func 341) #[] #[ptr4 w.heap.size 0, ptr4 (w.heap.size + 1) 0]) ∧ w' = ((w.alloc (box1 va 358)).alloc (box1 vb 358)) := by
  have hmf : ∀ (fn : Fn) (first cap : Array Value) (w : World), (Instr.makeFunc fn first cap).run Tryz.prog w = .ok (.func fn first cap) w := fun _ _ _ _ => rfl
  rcases ha with ⟨f, a, b, rfl⟩ | rfl <;> rcases hb with ⟨f', a', b', rfl⟩ | rfl <;>
  · go_enter Tryz.func313, Tryz.ntmps313
    go_wp2_with fail
    go_ret
    exact ⟨rfl, rfl⟩
theorem Tryz.entAnd : Enters Tryz.prog 360 := enters_of Tryz.func360 (by kernel_rfl) rfl
theorem Tryz.entOr : Enters Tryz.prog 341 := enters_of Tryz.func341 (by kernel_rfl) rfl
/-- two conditions made one, of either sort -/
theorem bin_lasts {w : World} {va vb : Value} {ma mb : CndM} {m : CndM} {A : Nat → Prop} {g : Nat} (hA : ∀ k, w.heap.size ≤ k → A k) (ha : CndO w A va (some ma)) (hb : CndO w A vb (some mb)) (ent : Enters Tryz.prog g)
    (hrun : ∀ (W : World) (b : Nat) (r : Rt) (pv mv : Value) (Ka Kb : Nat → Prop), RtAt W b r pv mv → CndC va ma Ka W → (∀ V, Below W.heap.size W V → CndC vb mb Kb V) → W.cell? ⟨w.heap.size, 0, none⟩ = some va → W.cell? ⟨w.heap.size + 1, 0, none⟩ = some vb →
      Calls Tryz.prog g (#[ptr4 b 0] ++ #[ptr4 w.heap.size 0, ptr4 (w.heap.size + 1) 0]) W fun e W' => e = .returned (condV (m r)) ∧ Below W.heap.size W W') :
    CndO ((w.alloc (box1 va 358)).alloc (box1 vb 358)) A (.func (.func g) #[] #[ptr4 w.heap.size 0, ptr4 (w.heap.size + 1) 0]) (some m) := by
  have h1 : Lasts _ A (CndC va ma) := (ha.alloc (box1 va 358)).alloc (box1 vb 358)
  have h2 : Lasts _ A (CndC vb mb) := (hb.alloc (box1 va 358)).alloc (box1 vb 358)
  obtain ⟨n1, n2, sz⟩ := two_new w (box1 va 358) (box1 vb 358)
  refine Lasts.two h1 h2 (fun k => k = w.heap.size ∨ k = w.heap.size + 1) (fun k hk => ⟨by omega, hA k (by omega)⟩) (fun K1 K2 _ a2 q1 q2 W hW hk => ?_)
  refine ⟨_, _, rfl, ent, fun b r pv mv hr => ?_⟩
  exact hrun W b r pv mv K1 K2 hr (q1 W hW (fun k h => hk k (Or.inl h))) (fun V hV => q2 V (Nat.le_trans hW hV.size) (fun k h => (hV.block k (Nat.lt_of_lt_of_le (a2 k h).1 hW)).trans (hk k (Or.inr (Or.inl h)))))
    (cell_of_heap ((hk _ (Or.inr (Or.inr (Or.inl rfl)))).trans n1)) (cell_of_heap ((hk _ (Or.inr (Or.inr (Or.inr rfl)))).trans n2))
theorem and_any (w : World) (va vb : Value) (oa ob : Option CndM) (A : Nat → Prop) (hA : ∀ k, w.heap.size ≤ k → A k) (ha : CndO w A va oa) (hb : CndO w A vb ob) :
    Calls Tryz.prog 340 #[va, vb] w fun e w' => ∃ v, e = .returned v ∧ w' = ((w.alloc (box1 va 358)).alloc (box1 vb 358)) ∧ CndO w' A v (binO andM oa ob) := by
  refine (and_call w va vb ha.fnv hb.fnv).mono ?_
  rintro e w' ⟨rfl, rfl⟩
  refine ⟨_, rfl, rfl, ?_⟩
  cases oa with
  | none => exact Or.inl ⟨_, _, _, rfl⟩
  | some ma => cases ob with
    | none => exact Or.inl ⟨_, _, _, rfl⟩
    | some mb => exact bin_lasts hA ha hb Tryz.entAnd (fun W b r pv mv Ka Kb h1 h2 h3 h4 h5 => and_run W b r pv mv h1 va vb ma mb Ka Kb h2 h3 _ _ h4 h5)
theorem or_any (w : World) (va vb : Value) (oa ob : Option CndM) (A : Nat → Prop) (hA : ∀ k, w.heap.size ≤ k → A k) (ha : CndO w A va oa) (hb : CndO w A vb ob) :
    Calls Tryz.prog 313 #[va, vb] w fun e w' => ∃ v, e = .returned v ∧ w' = ((w.alloc (box1 va 358)).alloc (box1 vb 358)) ∧ CndO w' A v (binO orM oa ob) := by
  refine (or_call w va vb ha.fnv hb.fnv).mono ?_
  rintro e w' ⟨rfl, rfl⟩
  refine ⟨_, rfl, rfl, ?_⟩
  cases oa with
  | none => exact Or.inl ⟨_, _, _, rfl⟩
  | some ma => cases ob with
    | none => exact Or.inl ⟨_, _, _, rfl⟩
    | some mb => exact bin_lasts hA ha hb Tryz.entOr (fun W b r pv mv Ka Kb h1 h2 h3 h4 h5 => or_run W b r pv mv h1 va vb ma mb Ka Kb h2 h3 _ _ h4 h5)
set_option maxRecDepth 100000 in
set_option maxHeartbeats 1000000 in
theorem not_call (w : World) (va : Value) (ha : FnV va) :
    Calls Tryz.prog 359 #[va] w fun e w' => e = .returned (.func (.func 379) #[] #[ptr4 w.heap.size 0]) ∧ w' = (w.alloc (box1 va 358)) := by
  have hmf : ∀ (fn : Fn) (first cap : Array Value) (w : World), (Instr.makeFunc fn first cap).run Tryz.prog w = .ok (.func fn first cap) w := fun _ _ _ _ => rfl
  rcases ha with ⟨f, a, b, rfl⟩ | rfl <;>
  · go_enter Tryz.func359, Tryz.ntmps359
    go_wp2_with fail
    go_ret
    exact ⟨rfl, rfl⟩
theorem Tryz.entNot : Enters Tryz.prog 379 := enters_of Tryz.func379 (by kernel_rfl) rfl
theorem not_any (w : World) (va : Value) (oa : Option CndM) (A : Nat → Prop) (hA : ∀ k, w.heap.size ≤ k → A k) (ha : CndO w A va oa) :
    Calls Tryz.prog 359 #[va] w fun e w' => ∃ v, e = .returned v ∧ w' = (w.alloc (box1 va 358)) ∧ CndO w' A v (oa.map notM) := by
  refine (not_call w va ha.fnv).mono ?_
  rintro e w' ⟨rfl, rfl⟩
  refine ⟨_, rfl, rfl, ?_⟩
  cases oa with
  | none => exact Or.inl ⟨_, _, _, rfl⟩
  | some ma =>
    have h1 : Lasts _ A (CndC va ma) := ha.alloc (box1 va 358)
    refine Lasts.one h1 (fun k => k = w.heap.size) (fun k hk => ⟨by subst hk; simp, hA k (by omega)⟩) (fun K1 _ q1 W hW hk => ?_)
    exact ⟨_, _, rfl, Tryz.entNot, fun b r pv mv hr => not_run W b r pv mv hr va ma K1 (q1 W hW (fun k h => hk k (Or.inl h))) _ (cell_of_heap ((hk _ (Or.inr rfl)).trans (heap_alloc_new w _)))⟩
end Go.Proofs.YtgdeeodifnegiaaGreatDoor
