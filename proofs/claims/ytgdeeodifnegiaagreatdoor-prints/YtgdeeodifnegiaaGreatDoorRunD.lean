/- Closures of conditions: and, or, not. -/
import Derived.Test.YtgdeeodifnegiaaGreatDoorRunA
import Derived.Test.YtgdeeodifnegiaaGreatDoorRdrH
import Derived.Deep.LoopGhost
set_option maxRecDepth 100000
set_option maxHeartbeats 4000000
namespace Go.Proofs.YtgdeeodifnegiaaGreatDoor
open Go.RowKit
theorem cell_lt {W : World} {b o : Nat} {v : Value} (h : W.cell? ⟨b, o, none⟩ = some v) : b < W.heap.size := by
 rcases Nat.lt_or_ge b W.heap.size with h1 | h1
 ·exact h1
 ·simp [World.cell?, Array.getElem?_eq_none h1] at h
theorem and_run (W : World) (b : Nat) (r : Rt) (pv mv : Value) (h : RtAt W b r pv mv) (va vb : Value) (ma mb : CndM) (Ka Kb : Nat → Prop) (ha : CndC va ma Ka W) (hb : ∀ V, Below W.heap.size W V → CndC vb mb Kb V) (B1 B2 : Nat)
  (c1 : W.cell? ⟨B1, 0, none⟩ = some va) (c2 : W.cell? ⟨B2, 0, none⟩ = some vb) :
  Calls Tryz.prog 360 (#[ptr4 b 0] ++ #[ptr4 B1 0, ptr4 B2 0]) W fun e W' => e = .returned (condV (andM ma mb r)) ∧ Below W.heap.size W W' := by
 have lb2 := cell_lt c2
 obtain ⟨g, lb, rfl, eg, hc⟩ := ha
 have e1 := enters_fn eg
 have HA := hide (hc b r pv mv h)
 have HB := hide (fun V (hV : Below W.heap.size W V) => hb V hV)
 have HR := hide h
 clear hc h eg hb
 have EQ := hide (show andM ma mb r = (match ma r with | none => none | some false => some false | some true => mb r) from rfl)
 cases hx : ma r with
 | none =>
  rw [hx] at HA EQ
  have HA' : Hid (Calls Tryz.prog g (#[ptr4 b 0] ++ lb) W fun e W' => e = .returned (.tuple #[.bool false, .bool false]) ∧ Below W.heap.size W W') := HA
  clear HA HB
  go_enter Tryz.func360, Tryz.ntmps360
  go_wp2_with (go_at_fn g; refine (unhide HA').mono ?_; rintro e w1 ⟨rfl, hw⟩)
  go_ret2
  exact ⟨by rw [unhide EQ]; rfl, hw⟩
 | some x =>
  cases x with
  | false =>
   rw [hx] at HA EQ
   have HA' : Hid (Calls Tryz.prog g (#[ptr4 b 0] ++ lb) W fun e W' => e = .returned (.tuple #[.bool false, .bool true]) ∧ Below W.heap.size W W') := HA
   clear HA HB
   go_enter Tryz.func360, Tryz.ntmps360
   go_wp2_with (go_at_fn g; refine (unhide HA').mono ?_; rintro e w1 ⟨rfl, hw⟩)
   go_ret2
   exact ⟨by rw [unhide EQ]; rfl, hw⟩
  | true =>
   rw [hx] at HA EQ
   have HA' : Hid (Calls Tryz.prog g (#[ptr4 b 0] ++ lb) W fun e W' => e = .returned (.tuple #[.bool true, .bool true]) ∧ Below W.heap.size W W') := HA
   obtain ⟨g2, lb2, rfl, eg2, _⟩ := (unhide HB) W (Below.refl _ _)
   have e2 := enters_fn eg2
   clear HA eg2
   go_enter Tryz.func360, Tryz.ntmps360
   go_wp2_with (go_at_fn g; refine (unhide HA').mono ?_; rintro e w1 ⟨rfl, hw⟩; have c2' := (hw.cell (p := ⟨B2, 0, none⟩) (by assumption)).trans c2; have HW := hide hw; clear hw)
   obtain ⟨g3, lb3, he, _, hc3⟩ := (unhide HB) w1 (unhide HW)
   cases he
   refine (hc3 b r pv mv ((unhide HR).below (unhide HW))).mono ?_
   rintro e w2 ⟨rfl, hw2⟩
   have HW2 := hide hw2
   clear hw2 hc3
   unfold condV
   go_wp2_with fail
   go_ret2
   exact ⟨by rw [unhide EQ]; rfl, (unhide HW).trans ((unhide HW2).mono (unhide HW).size)⟩
theorem or_run (W : World) (b : Nat) (r : Rt) (pv mv : Value) (h : RtAt W b r pv mv) (va vb : Value) (ma mb : CndM) (Ka Kb : Nat → Prop) (ha : CndC va ma Ka W) (hb : ∀ V, Below W.heap.size W V → CndC vb mb Kb V) (B1 B2 : Nat)
  (c1 : W.cell? ⟨B1, 0, none⟩ = some va) (c2 : W.cell? ⟨B2, 0, none⟩ = some vb) :
  Calls Tryz.prog 341 (#[ptr4 b 0] ++ #[ptr4 B1 0, ptr4 B2 0]) W fun e W' => e = .returned (condV (orM ma mb r)) ∧ Below W.heap.size W W' := by
 have lb2 := cell_lt c2
 obtain ⟨g, lb, rfl, eg, hc⟩ := ha
 have e1 := enters_fn eg
 have HA := hide (hc b r pv mv h)
 have HB := hide (fun V (hV : Below W.heap.size W V) => hb V hV)
 have HR := hide h
 clear hc h eg hb
 have EQ := hide (show orM ma mb r = (match ma r with | none => none | some true => some true | some false => mb r) from rfl)
 cases hx : ma r with
 | none =>
  rw [hx] at HA EQ
  have HA' : Hid (Calls Tryz.prog g (#[ptr4 b 0] ++ lb) W fun e W' => e = .returned (.tuple #[.bool false, .bool false]) ∧ Below W.heap.size W W') := HA
  clear HA HB
  go_enter Tryz.func341, Tryz.ntmps341
  go_wp2_with (go_at_fn g; refine (unhide HA').mono ?_; rintro e w1 ⟨rfl, hw⟩)
  go_ret2
  exact ⟨by rw [unhide EQ]; rfl, hw⟩
 | some x =>
  cases x with
  | true =>
   rw [hx] at HA EQ
   have HA' : Hid (Calls Tryz.prog g (#[ptr4 b 0] ++ lb) W fun e W' => e = .returned (.tuple #[.bool true, .bool true]) ∧ Below W.heap.size W W') := HA
   clear HA HB
   go_enter Tryz.func341, Tryz.ntmps341
   go_wp2_with (go_at_fn g; refine (unhide HA').mono ?_; rintro e w1 ⟨rfl, hw⟩)
   go_ret2
   exact ⟨by rw [unhide EQ]; rfl, hw⟩
  | false =>
   rw [hx] at HA EQ
   have HA' : Hid (Calls Tryz.prog g (#[ptr4 b 0] ++ lb) W fun e W' => e = .returned (.tuple #[.bool false, .bool true]) ∧ Below W.heap.size W W') := HA
   obtain ⟨g2, lb2, rfl, eg2, _⟩ := (unhide HB) W (Below.refl _ _)
   have e2 := enters_fn eg2
   clear HA eg2
   go_enter Tryz.func341, Tryz.ntmps341
   go_wp2_with (go_at_fn g; refine (unhide HA').mono ?_; rintro e w1 ⟨rfl, hw⟩; have c2' := (hw.cell (p := ⟨B2, 0, none⟩) (by assumption)).trans c2; have HW := hide hw; clear hw)
   obtain ⟨g3, lb3, he, _, hc3⟩ := (unhide HB) w1 (unhide HW)
   cases he
   refine (hc3 b r pv mv ((unhide HR).below (unhide HW))).mono ?_
   rintro e w2 ⟨rfl, hw2⟩
   have HW2 := hide hw2
   clear hw2 hc3
   unfold condV
   go_wp2_with fail
   go_ret2
   exact ⟨by rw [unhide EQ]; rfl, (unhide HW).trans ((unhide HW2).mono (unhide HW).size)⟩
theorem not_run (W : World) (b : Nat) (r : Rt) (pv mv : Value) (h : RtAt W b r pv mv) (va : Value) (ma : CndM) (Ka : Nat → Prop) (ha : CndC va ma Ka W) (B1 : Nat) (c1 : W.cell? ⟨B1, 0, none⟩ = some va) :
  Calls Tryz.prog 379 (#[ptr4 b 0] ++ #[ptr4 B1 0]) W fun e W' => e = .returned (condV (notM ma r)) ∧ Below W.heap.size W W' := by
 obtain ⟨g, lb, rfl, eg, hc⟩ := ha
 have e1 := enters_fn eg
 have HA := hide (hc b r pv mv h)
 clear hc h eg
 have EQ := hide (show notM ma r = (ma r).map (fun x => !x) from rfl)
 cases hx : ma r with
 | none =>
  rw [hx] at HA EQ
  have HA' : Hid (Calls Tryz.prog g (#[ptr4 b 0] ++ lb) W fun e W' => e = .returned (.tuple #[.bool false, .bool false]) ∧ Below W.heap.size W W') := HA
  clear HA
  go_enter Tryz.func379, Tryz.ntmps379
  go_wp2_with (go_at_fn g; refine (unhide HA').mono ?_; rintro e w1 ⟨rfl, hw⟩)
  go_ret2
  exact ⟨by rw [unhide EQ]; rfl, hw⟩
 | some x =>
  rw [hx] at HA EQ
  have HA' : Hid (Calls Tryz.prog g (#[ptr4 b 0] ++ lb) W fun e W' => e = .returned (.tuple #[.bool x, .bool true]) ∧ Below W.heap.size W W') := HA
  clear HA
  go_enter Tryz.func379, Tryz.ntmps379
  go_wp2_with (go_at_fn g; refine (unhide HA').mono ?_; rintro e w1 ⟨rfl, hw⟩)
  go_ret2
  exact ⟨by rw [unhide EQ]; rfl, hw⟩
theorem and_call (w : World) (va vb : Value) (ha : FnV va) (hb : FnV vb) :
  Calls Tryz.prog 340 #[va, vb] w fun e w' => e = .returned (.func (.func 360) #[] #[ptr4 w.heap.size 0, ptr4 (w.heap.size + 1) 0]) ∧ w' = ((w.alloc (box1 va 358)).alloc (box1 vb 358)) := by
 have hmf : ∀ (fn : Fn) (first cap : Array Value) (w : World), (Instr.makeFunc fn first cap).run Tryz.prog w = .ok (.func fn first cap) w := fun _ _ _ _ => rfl
 rcases ha with ⟨f, a, b, rfl⟩ | rfl <;> rcases hb with ⟨f', a', b', rfl⟩ | rfl <;>
 ·go_enter Tryz.func340, Tryz.ntmps340
  go_wp2_with fail
  go_ret
  exact ⟨rfl, rfl⟩
theorem or_call (w : World) (va vb : Value) (ha : FnV va) (hb : FnV vb) :
  Calls Tryz.prog 313 #[va, vb] w fun e w' => e = .returned (.func (.func 341) #[] #[ptr4 w.heap.size 0, ptr4 (w.heap.size + 1) 0]) ∧ w' = ((w.alloc (box1 va 358)).alloc (box1 vb 358)) := by
 have hmf : ∀ (fn : Fn) (first cap : Array Value) (w : World), (Instr.makeFunc fn first cap).run Tryz.prog w = .ok (.func fn first cap) w := fun _ _ _ _ => rfl
 rcases ha with ⟨f, a, b, rfl⟩ | rfl <;> rcases hb with ⟨f', a', b', rfl⟩ | rfl <;>
 ·go_enter Tryz.func313, Tryz.ntmps313
  go_wp2_with fail
  go_ret
  exact ⟨rfl, rfl⟩
theorem Tryz.entAnd : Enters Tryz.prog 360 := enters_of Tryz.func360 (by kernel_rfl) rfl
theorem Tryz.entOr : Enters Tryz.prog 341 := enters_of Tryz.func341 (by kernel_rfl) rfl
theorem bin_lasts {w : World} {va vb : Value} {ma mb : CndM} {m : CndM} {A : Nat → Prop} {g : Nat} (hA : ∀ k, w.heap.size ≤ k → A k) (ha : CndO w A va (some ma)) (hb : CndO w A vb (some mb)) (ent : Enters Tryz.prog g)
  (hrun : ∀ (W : World) (b : Nat) (r : Rt) (pv mv : Value) (Ka Kb : Nat → Prop), RtAt W b r pv mv → CndC va ma Ka W → (∀ V, Below W.heap.size W V → CndC vb mb Kb V) → W.cell? ⟨w.heap.size, 0, none⟩ = some va → W.cell? ⟨w.heap.size + 1, 0, none⟩ = some vb →
   Calls Tryz.prog g (#[ptr4 b 0] ++ #[ptr4 w.heap.size 0, ptr4 (w.heap.size + 1) 0]) W fun e W' => e = .returned (condV (m r)) ∧ Below W.heap.size W W') :
  CndO ((w.alloc (box1 va 358)).alloc (box1 vb 358)) A (.func (.func g) #[] #[ptr4 w.heap.size 0, ptr4 (w.heap.size + 1) 0]) (some m) := by
 have h1 : Lasts _ A (CndC va ma) := (ha.alloc (box1 va 358)).alloc (box1 vb 358)
 have h2 : Lasts _ A (CndC vb mb) := (hb.alloc (box1 va 358)).alloc (box1 vb 358)
 obtain ⟨n1, n2, sz⟩ := two_new w (box1 va 358) (box1 vb 358)
 refine Lasts.two h1 h2 (fun k => k = w.heap.size ∨ k = w.heap.size + 1) (fun k hk => ⟨by omega, hA k (by omega)⟩) (fun K1 K2 _ a2 q1 q2 W hW hk => ?_)
 refine ⟨_, _, rfl, ent, fun b r pv mv hr => ?_⟩
 exact hrun W b r pv mv K1 K2 hr (q1 W hW (fun k h => hk k (Or.inl h))) (fun V hV => q2 V (Nat.le_trans hW hV.size) (fun k h => (hV.block k (Nat.lt_of_lt_of_le (a2 k h).1 hW)).trans (hk k (Or.inr (Or.inl h)))))
  (cell_of_heap ((hk _ (Or.inr (Or.inr (Or.inl rfl)))).trans n1)) (cell_of_heap ((hk _ (Or.inr (Or.inr (Or.inr rfl)))).trans n2))
theorem and_any (w : World) (va vb : Value) (oa ob : Option CndM) (A : Nat → Prop) (hA : ∀ k, w.heap.size ≤ k → A k) (ha : CndO w A va oa) (hb : CndO w A vb ob) :
  Calls Tryz.prog 340 #[va, vb] w fun e w' => ∃ v, e = .returned v ∧ w' = ((w.alloc (box1 va 358)).alloc (box1 vb 358)) ∧ CndO w' A v (binO andM oa ob) := by
 refine (and_call w va vb ha.fnv hb.fnv).mono ?_
 rintro e w' ⟨rfl, rfl⟩
 refine ⟨_, rfl, rfl, ?_⟩
 cases oa with
 | none => exact Or.inl ⟨_, _, _, rfl⟩
 | some ma => cases ob with
  | none => exact Or.inl ⟨_, _, _, rfl⟩
  | some mb => exact bin_lasts hA ha hb Tryz.entAnd (fun W b r pv mv Ka Kb h1 h2 h3 h4 h5 => and_run W b r pv mv h1 va vb ma mb Ka Kb h2 h3 _ _ h4 h5)
theorem or_any (w : World) (va vb : Value) (oa ob : Option CndM) (A : Nat → Prop) (hA : ∀ k, w.heap.size ≤ k → A k) (ha : CndO w A va oa) (hb : CndO w A vb ob) :
  Calls Tryz.prog 313 #[va, vb] w fun e w' => ∃ v, e = .returned v ∧ w' = ((w.alloc (box1 va 358)).alloc (box1 vb 358)) ∧ CndO w' A v (binO orM oa ob) := by
 refine (or_call w va vb ha.fnv hb.fnv).mono ?_
 rintro e w' ⟨rfl, rfl⟩
 refine ⟨_, rfl, rfl, ?_⟩
 cases oa with
 | none => exact Or.inl ⟨_, _, _, rfl⟩
 | some ma => cases ob with
  | none => exact Or.inl ⟨_, _, _, rfl⟩
  | some mb => exact bin_lasts hA ha hb Tryz.entOr (fun W b r pv mv Ka Kb h1 h2 h3 h4 h5 => or_run W b r pv mv h1 va vb ma mb Ka Kb h2 h3 _ _ h4 h5)
theorem not_call (w : World) (va : Value) (ha : FnV va) :
  Calls Tryz.prog 359 #[va] w fun e w' => e = .returned (.func (.func 379) #[] #[ptr4 w.heap.size 0]) ∧ w' = (w.alloc (box1 va 358)) := by
 have hmf : ∀ (fn : Fn) (first cap : Array Value) (w : World), (Instr.makeFunc fn first cap).run Tryz.prog w = .ok (.func fn first cap) w := fun _ _ _ _ => rfl
 rcases ha with ⟨f, a, b, rfl⟩ | rfl <;>
 ·go_enter Tryz.func359, Tryz.ntmps359
  go_wp2_with fail
  go_ret
  exact ⟨rfl, rfl⟩
theorem Tryz.entNot : Enters Tryz.prog 379 := enters_of Tryz.func379 (by kernel_rfl) rfl
theorem not_any (w : World) (va : Value) (oa : Option CndM) (A : Nat → Prop) (hA : ∀ k, w.heap.size ≤ k → A k) (ha : CndO w A va oa) :
  Calls Tryz.prog 359 #[va] w fun e w' => ∃ v, e = .returned v ∧ w' = (w.alloc (box1 va 358)) ∧ CndO w' A v (oa.map notM) := by
 refine (not_call w va ha.fnv).mono ?_
 rintro e w' ⟨rfl, rfl⟩
 refine ⟨_, rfl, rfl, ?_⟩
 cases oa with
 | none => exact Or.inl ⟨_, _, _, rfl⟩
 | some ma =>
  have h1 : Lasts _ A (CndC va ma) := ha.alloc (box1 va 358)
  refine Lasts.one h1 (fun k => k = w.heap.size) (fun k hk => ⟨by subst hk; simp, hA k (by omega)⟩) (fun K1 _ q1 W hW hk => ?_)
  exact ⟨_, _, rfl, Tryz.entNot, fun b r pv mv hr => not_run W b r pv mv hr va ma K1 (q1 W hW (fun k h => hk k (Or.inl h))) _ (cell_of_heap ((hk _ (Or.inr rfl)).trans (heap_alloc_new w _)))⟩
end Go.Proofs.YtgdeeodifnegiaaGreatDoor
namespace Go.Proofs.YtgdeeodifnegiaaGreatDoor
open Go.RowKit
theorem binLp_pos {ts : List TokP} {c : Int} {m : CndM → CndM → CndM} {tm : RS → Option (RS × Option CndM)} {k : Nat} {st : RS} {a : Option CndM} {r : RS × Option CndM} (h : binLp ts c m tm k st a = some r) : ∃ g, k = g + 1 := by
 cases k with
 | zero => rw [binLp] at h; cases h
 | succ g => exact ⟨g, rfl⟩
theorem and_said {pb : Nat} {ts : List TokP} (ht : TsOk ts) {tm : RS → Option (RS × Option CndM)} (IH : CndSaid 339 pb ts tm) (n : Nat) : CndSaid 312 pb ts (binBy ts 19 andM tm n) := by
 intro w st D O r h hk hr
 unfold binBy at hr
 cases h1 : tm st with
 | none => rw [h1] at hr; cases hr
 | some p =>
  obtain ⟨st1, a⟩ := p
  rw [h1] at hr
  have HL := hide (show binLp ts 19 andM tm n st1 a = some r from hr)
  have HT := hide ht
  have HIH := hide IH
  have H1 := hide (IH w st D O (st1, a) h hk h1)
  clear hr h hk h1 ht IH
  go_enter Tryz.func312, Tryz.ntmps312
  go_wp2_with fail
  refine (unhide H1).mono ?_
  rintro e w1 ⟨v, O1, rfl, hr1, hf1, hv1, hk1⟩
  have HR := hide hr1
  have HF := hide hf1
  have HV := hide hv1
  have HK := hide hk1
  clear hr1 hf1 hv1 hk1 H1
  go_wp2_with fail
  go_loopg [3] n (fun k v3 wr => ∃ (su : RS) (o : Option CndM) (Ou : Nat → Prop), RA wr pb ts su D Ou ∧ Fr O w Ou wr ∧ CndO wr (Free Ou D w.heap.size) v3 o ∧ Ok ts su ∧ binLp ts 19 andM tm k su o = some r)
  case atStart => exact ⟨st1, a, O1, unhide HR, unhide HF, unhide HV, unhide HK, unhide HL⟩
  case round =>
   clear HR HF HV HK HL
   obtain ⟨su, o, Ou, hr, hf, hv, hk, hl⟩ := hrel
   obtain ⟨g, rfl⟩ := binLp_pos hl
   rw [binLp] at hl
   have HR := hide hr
   have HF := hide hf
   have HV := hide hv
   have HK := hide hk
   clear hr hf hv hk
   by_cases e0 : kindR ts su = 19
   ·rw [if_pos e0] at hl
    cases h2 : tm (goR ts su) with
    | none => rw [h2] at hl; cases hl
    | some p =>
     obtain ⟨st2, b⟩ := p
     rw [h2] at hl
     have HL2 := hide (show binLp ts 19 andM tm g st2 (binO andM o b) = some r from hl)
     have HTM := hide h2
     have HE := hide e0
     clear hl h2 e0
     go_wp2_with (go_at_call 211; refine (took_yes (unhide HR) (unhide HK) (unhide HT) 19 (unhide HE)).mono ?_; rintro e w2 ⟨rfl, O2, hr2, hf2⟩; replace HV := hide ((unhide HV).fr hf2 (Nat.le_refl _)); replace HR := hide hr2; replace HF := hide ((unhide HF).trans hf2); clear hr2 hf2)
     refine ((unhide HIH) _ _ _ _ _ (unhide HR) (goR_ok' (unhide HK) (unhide HT) (unhide HE) (by decide)) (unhide HTM)).mono ?_
     rintro e w3 ⟨v3, O3, rfl, hr3, hf3, hv3, hk3⟩
     replace HV := hide ((unhide HV).fr hf3 (Nat.le_refl _))
     have HV3 := hide (hv3.fr (Fr.refl _ _) (unhide HF).size)
     replace HR := hide hr3
     replace HF := hide ((unhide HF).trans hf3)
     have HK3 := hide hk3
     clear hr3 hf3 hv3 hk3
     go_wp2_with fail
     refine (and_any _ _ _ _ _ _ ((unhide HR).newFree (unhide HF)) (unhide HV) (unhide HV3)).mono ?_
     rintro e w4 ⟨v4, rfl, rfl, hv4⟩
     have HV4 := hide hv4
     clear hv4
     go_wp2_with fail
     go_roundg g
     case measure => omega
     case rel => exact ⟨st2, _, O3, ((unhide HR).alloc _).alloc _, ((unhide HF).alloc _).alloc _, unhide HV4, unhide HK3, unhide HL2⟩
   ·rw [if_neg e0] at hl
    have N0 := hide e0
    cases hl
    clear e0
    have hfv := (unhide HV).fnv
    rcases hfv with ⟨f1, f2, f3, rfl⟩ | rfl <;>
    ·go_wp2_with (go_at_call 211; refine (took_no (unhide HR) (unhide HK) (unhide HT) 19 (unhide N0)).mono ?_; rintro e w2 ⟨rfl, hr2, hf2⟩; replace HV := hide ((unhide HV).fr hf2 (Nat.le_refl _)); replace HR := hide hr2; replace HF := hide ((unhide HF).trans hf2); clear hr2 hf2)
     go_ret
     exact ⟨_, _, rfl, unhide HR, unhide HF, unhide HV, unhide HK⟩
theorem cond_said0 {pb : Nat} {ts : List TokP} (ht : TsOk ts) {tm : RS → Option (RS × Option CndM)} (IH : CndSaid 312 pb ts tm) (n : Nat) : CndSaid 266 pb ts (binBy ts 18 orM tm n) := by
 intro w st D O r h hk hr
 unfold binBy at hr
 cases h1 : tm st with
 | none => rw [h1] at hr; cases hr
 | some p =>
  obtain ⟨st1, a⟩ := p
  rw [h1] at hr
  have HL := hide (show binLp ts 18 orM tm n st1 a = some r from hr)
  have HT := hide ht
  have HIH := hide IH
  have H1 := hide (IH w st D O (st1, a) h hk h1)
  clear hr h hk h1 ht IH
  go_enter Tryz.func266, Tryz.ntmps266
  go_wp2_with fail
  refine (unhide H1).mono ?_
  rintro e w1 ⟨v, O1, rfl, hr1, hf1, hv1, hk1⟩
  have HR := hide hr1
  have HF := hide hf1
  have HV := hide hv1
  have HK := hide hk1
  clear hr1 hf1 hv1 hk1 H1
  go_wp2_with fail
  go_loopg [3] n (fun k v3 wr => ∃ (su : RS) (o : Option CndM) (Ou : Nat → Prop), RA wr pb ts su D Ou ∧ Fr O w Ou wr ∧ CndO wr (Free Ou D w.heap.size) v3 o ∧ Ok ts su ∧ binLp ts 18 orM tm k su o = some r)
  case atStart => exact ⟨st1, a, O1, unhide HR, unhide HF, unhide HV, unhide HK, unhide HL⟩
  case round =>
   clear HR HF HV HK HL
   obtain ⟨su, o, Ou, hr, hf, hv, hk, hl⟩ := hrel
   obtain ⟨g, rfl⟩ := binLp_pos hl
   rw [binLp] at hl
   have HR := hide hr
   have HF := hide hf
   have HV := hide hv
   have HK := hide hk
   clear hr hf hv hk
   by_cases e0 : kindR ts su = 18
   ·rw [if_pos e0] at hl
    cases h2 : tm (goR ts su) with
    | none => rw [h2] at hl; cases hl
    | some p =>
     obtain ⟨st2, b⟩ := p
     rw [h2] at hl
     have HL2 := hide (show binLp ts 18 orM tm g st2 (binO orM o b) = some r from hl)
     have HTM := hide h2
     have HE := hide e0
     clear hl h2 e0
     go_wp2_with (go_at_call 211; refine (took_yes (unhide HR) (unhide HK) (unhide HT) 18 (unhide HE)).mono ?_; rintro e w2 ⟨rfl, O2, hr2, hf2⟩; replace HV := hide ((unhide HV).fr hf2 (Nat.le_refl _)); replace HR := hide hr2; replace HF := hide ((unhide HF).trans hf2); clear hr2 hf2)
     refine ((unhide HIH) _ _ _ _ _ (unhide HR) (goR_ok' (unhide HK) (unhide HT) (unhide HE) (by decide)) (unhide HTM)).mono ?_
     rintro e w3 ⟨v3, O3, rfl, hr3, hf3, hv3, hk3⟩
     replace HV := hide ((unhide HV).fr hf3 (Nat.le_refl _))
     have HV3 := hide (hv3.fr (Fr.refl _ _) (unhide HF).size)
     replace HR := hide hr3
     replace HF := hide ((unhide HF).trans hf3)
     have HK3 := hide hk3
     clear hr3 hf3 hv3 hk3
     go_wp2_with fail
     refine (or_any _ _ _ _ _ _ ((unhide HR).newFree (unhide HF)) (unhide HV) (unhide HV3)).mono ?_
     rintro e w4 ⟨v4, rfl, rfl, hv4⟩
     have HV4 := hide hv4
     clear hv4
     go_wp2_with fail
     go_roundg g
     case measure => omega
     case rel => exact ⟨st2, _, O3, ((unhide HR).alloc _).alloc _, ((unhide HF).alloc _).alloc _, unhide HV4, unhide HK3, unhide HL2⟩
   ·rw [if_neg e0] at hl
    have N0 := hide e0
    cases hl
    clear e0
    have hfv := (unhide HV).fnv
    rcases hfv with ⟨f1, f2, f3, rfl⟩ | rfl <;>
    ·go_wp2_with (go_at_call 211; refine (took_no (unhide HR) (unhide HK) (unhide HT) 18 (unhide N0)).mono ?_; rintro e w2 ⟨rfl, hr2, hf2⟩; replace HV := hide ((unhide HV).fr hf2 (Nat.le_refl _)); replace HR := hide hr2; replace HF := hide ((unhide HF).trans hf2); clear hr2 hf2)
     go_ret
     exact ⟨_, _, rfl, unhide HR, unhide HF, unhide HV, unhide HK⟩
theorem cond_said {pb : Nat} {ts : List TokP} (ht : TsOk ts) {nt : RS → Option (RS × Option CndM)} (IH : CndSaid 339 pb ts nt) (n : Nat) : CndSaid 266 pb ts (condBy ts nt n) :=
 cond_said0 ht (and_said ht IH n) n
end Go.Proofs.YtgdeeodifnegiaaGreatDoor
namespace Go.Proofs.YtgdeeodifnegiaaGreatDoor
open Go.RowKit
def RtOwn (b : Nat) (pv mv : Value) (k : Nat) : Prop := k = b ∨ pv.ownBlock = some k ∨ mv.ownBlock = some k
def StpRes (b : Nat) (pv mv : Value) (W : World) (p : Rt × Int) (e : Ending) (W' : World) : Prop :=
 e = .returned (.int .i64 p.2) ∧ ∃ pv' mv', RtAt W' b p.1 pv' mv' ∧ Fr (RtOwn b pv mv) W (RtOwn b pv' mv') W'
def StpC (v : Value) (m : StpM) (K : Nat → Prop) (W : World) : Prop :=
 FnAt v fun g lb => ∀ (b : Nat) (r : Rt) (pv mv : Value), RtAt W b r pv mv → (∀ k, RtOwn b pv mv k → ¬ K k) → Calls Tryz.prog g (#[ptr4 b 0] ++ lb) W (StpRes b pv mv W (m r))
def StpO (w : World) (A : Nat → Prop) (v : Value) : Option StpM → Prop
 | none => FnV v
 | some m => Lasts w A (StpC v m)
theorem StpO.fnv {w : World} {A : Nat → Prop} {v : Value} {o : Option StpM} (h : StpO w A v o) : FnV v := by
 cases o with
 | none => exact h
 | some m =>
  obtain ⟨K, g, lb, h1, _⟩ := Lasts.now h
  exact Or.inl ⟨_, _, _, h1⟩
theorem StpO.fr {w w' : World} {O O' D : Nat → Prop} {n m : Nat} {v : Value} {o : Option StpM} (h : StpO w (Free O D n) v o) (hf : Fr O w O' w') (hm : m ≤ n) : StpO w' (Free O' D m) v o := by
 cases o with
 | none => exact h
 | some x => exact Lasts.fr h hf hm
theorem conclude_run (W : World) (B : Nat) (n : Int) (hb : W.cell? ⟨B, 0, none⟩ = some (.int .i64 n)) (b : Nat) (r : Rt) (pv mv : Value) (h : RtAt W b r pv mv) :
  Calls Tryz.prog 269 (#[ptr4 b 0] ++ #[ptr4 B 0]) W (StpRes b pv mv W (concludeM n r)) := by
 have HR := hide h
 clear h
 go_enter Tryz.func269, Tryz.ntmps269
 go_wp2_with fail
 go_ret
 exact ⟨rfl, pv, mv, unhide HR, Fr.refl _ _⟩
theorem RtAt.put {W : World} {b o : Nat} {r r' : Rt} {pv mv v : Value} (h : RtAt W b r pv mv) (hp : r'.path = r.path) (hm : r'.marks = r.marks)
  (hc : (#[.int .i64 r.addr, .int .i64 r.len, pv, mv, .int .i64 r.pref, .int .i64 r.med] : Array Value).setIfInBounds o v = #[.int .i64 r'.addr, .int .i64 r'.len, pv, mv, .int .i64 r'.pref, .int .i64 r'.med]) :
  RtAt (W.setCell ⟨b, o, none⟩ v) b r' pv mv := by
 refine ⟨by rw [heap_set h.blk, hc], ?_, ?_, h.ne1, h.ne2, h.ne3, by rw [hp]; exact h.n1, by rw [hm]; exact h.n2, by rw [hm]; exact h.srt⟩
 ·rw [hp]; exact owns_of h.path (fun k e => heap_set_other (fun e2 => h.ne1 (by rw [e, e2])))
 ·rw [hm]; exact owns_of h.marks (fun k e => heap_set_other (fun e2 => h.ne2 (by rw [e, e2])))
theorem setPref_run (W : World) (b : Nat) (r : Rt) (pv mv : Value) (h : RtAt W b r pv mv) (va : Value) (ma : AmtM) (Ka : Nat → Prop) (ha : AmtC va ma Ka W) (B1 B2 : Nat)
  (c1 : W.cell? ⟨B1, 0, none⟩ = some va) (c2 : W.cell? ⟨B2, 0, none⟩ = some (.func (.func 221) #[] #[])) :
  Calls Tryz.prog 270 (#[ptr4 b 0] ++ #[ptr4 B1 0, ptr4 B2 0]) W (StpRes b pv mv W (setPrefM ma r)) := by
 obtain ⟨g, lb, rfl, eg, hc⟩ := ha
 have e1 := enters_fn eg
 have HA := hide (hc b r pv mv h)
 have HR := hide h
 have c4 : W.cell? ⟨b, 4, none⟩ = some (.int .i64 r.pref) := cell_of_heap h.blk
 have z4 : W.frozen? ⟨b, 4, none⟩ = false := frozen_of_heap h.blk
 clear hc h eg
 have EQ := hide (show setPrefM ma r = (match ma r with | none => (r, 3) | some n => ({ r with pref := n }, 0)) from rfl)
 cases hx : ma r with
 | none =>
  rw [hx] at HA EQ
  have HA' : Hid (Calls Tryz.prog g (#[ptr4 b 0] ++ lb) W fun e W' => e = .returned (.tuple #[.int .i64 0, .bool false]) ∧ W' = W) := HA
  clear HA
  go_enter Tryz.func270, Tryz.ntmps270
  go_wp2_with (go_at_fn g; refine (unhide HA').mono ?_; rintro e w1 ⟨rfl, rfl⟩)
  go_ret
  rw [unhide EQ]
  exact ⟨rfl, pv, mv, unhide HR, Fr.refl _ _⟩
 | some x =>
  rw [hx] at HA EQ
  have HA' : Hid (Calls Tryz.prog g (#[ptr4 b 0] ++ lb) W fun e W' => e = .returned (.tuple #[.int .i64 x, .bool true]) ∧ W' = W) := HA
  clear HA
  go_enter Tryz.func270, Tryz.ntmps270
  go_wp2_with (first | (go_at_fn g; refine (unhide HA').mono ?_; rintro e w1 ⟨rfl, rfl⟩) | go_in)
  go_end0
  go_wp2_with fail
  go_ret
  rw [unhide EQ]
  exact ⟨rfl, pv, mv, (unhide HR).put rfl rfl rfl, (Fr.refl _ _).setCell (Or.inl (Or.inl rfl)) _⟩
theorem setMed_run (W : World) (b : Nat) (r : Rt) (pv mv : Value) (h : RtAt W b r pv mv) (va : Value) (ma : AmtM) (Ka : Nat → Prop) (ha : AmtC va ma Ka W) (B1 B2 : Nat)
  (c1 : W.cell? ⟨B1, 0, none⟩ = some va) (c2 : W.cell? ⟨B2, 0, none⟩ = some (.func (.func 222) #[] #[])) :
  Calls Tryz.prog 270 (#[ptr4 b 0] ++ #[ptr4 B1 0, ptr4 B2 0]) W (StpRes b pv mv W (setMedM ma r)) := by
 obtain ⟨g, lb, rfl, eg, hc⟩ := ha
 have e1 := enters_fn eg
 have HA := hide (hc b r pv mv h)
 have HR := hide h
 have c4 : W.cell? ⟨b, 5, none⟩ = some (.int .i64 r.med) := cell_of_heap h.blk
 have z4 : W.frozen? ⟨b, 5, none⟩ = false := frozen_of_heap h.blk
 clear hc h eg
 have EQ := hide (show setMedM ma r = (match ma r with | none => (r, 3) | some n => ({ r with med := n }, 0)) from rfl)
 cases hx : ma r with
 | none =>
  rw [hx] at HA EQ
  have HA' : Hid (Calls Tryz.prog g (#[ptr4 b 0] ++ lb) W fun e W' => e = .returned (.tuple #[.int .i64 0, .bool false]) ∧ W' = W) := HA
  clear HA
  go_enter Tryz.func270, Tryz.ntmps270
  go_wp2_with (go_at_fn g; refine (unhide HA').mono ?_; rintro e w1 ⟨rfl, rfl⟩)
  go_ret
  rw [unhide EQ]
  exact ⟨rfl, pv, mv, unhide HR, Fr.refl _ _⟩
 | some x =>
  rw [hx] at HA EQ
  have HA' : Hid (Calls Tryz.prog g (#[ptr4 b 0] ++ lb) W fun e W' => e = .returned (.tuple #[.int .i64 x, .bool true]) ∧ W' = W) := HA
  clear HA
  go_enter Tryz.func270, Tryz.ntmps270
  go_wp2_with (first | (go_at_fn g; refine (unhide HA').mono ?_; rintro e w1 ⟨rfl, rfl⟩) | go_in)
  go_end0
  go_wp2_with fail
  go_ret
  rw [unhide EQ]
  exact ⟨rfl, pv, mv, (unhide HR).put rfl rfl rfl, (Fr.refl _ _).setCell (Or.inl (Or.inl rfl)) _⟩
theorem cell1 {W w : World} {k : Nat} {v : Value} {T : TypeId} (hk : W.heap[k]? = w.heap[k]?) (h : w.heap[k]? = some (box1 v T)) : W.cell? ⟨k, 0, none⟩ = some v := cell_of_heap (hk.trans h)
theorem conclude_call (w : World) (n : Int) :
  Calls Tryz.prog 218 #[.int .i64 n] w fun e w' => e = .returned (.func (.func 269) #[] #[ptr4 w.heap.size 0]) ∧ w' = w.alloc (box1 (.int .i64 n) 3) := by
 have hmf : ∀ (fn : Fn) (first cap : Array Value) (w : World), (Instr.makeFunc fn first cap).run Tryz.prog w = .ok (.func fn first cap) w := fun _ _ _ _ => rfl
 go_enter Tryz.func218, Tryz.ntmps218
 go_wp2_with fail
 go_ret
 exact ⟨rfl, rfl⟩
theorem Tryz.entConclude : Enters Tryz.prog 269 := enters_of Tryz.func269 (by kernel_rfl) rfl
theorem conclude_any (w : World) (n : Int) (A : Nat → Prop) (hA : ∀ k, w.heap.size ≤ k → A k) :
  Calls Tryz.prog 218 #[.int .i64 n] w fun e w' => ∃ v, e = .returned v ∧ w' = w.alloc (box1 (.int .i64 n) 3) ∧ StpO w' A v (some (concludeM n)) := by
 refine (conclude_call w n).mono ?_
 rintro e w' ⟨rfl, rfl⟩
 refine ⟨_, rfl, rfl, Lasts.new (fun k => k = w.heap.size) (fun k hk => ⟨by subst hk; simp, hA k (by omega)⟩) (fun W hW hk => ?_)⟩
 exact ⟨_, _, rfl, Tryz.entConclude, fun b r pv mv hr _ => conclude_run W _ n (cell1 (hk _ rfl) (heap_alloc_new w _)) b r pv mv hr⟩
theorem assign_call (w : World) (va vb : Value) (ha : FnV va) (hb : FnV vb) :
  Calls Tryz.prog 219 #[va, vb] w fun e w' => e = .returned (.func (.func 270) #[] #[ptr4 w.heap.size 0, ptr4 (w.heap.size + 1) 0]) ∧ w' = ((w.alloc (box1 va 317)).alloc (box1 vb 319)) := by
 have hmf : ∀ (fn : Fn) (first cap : Array Value) (w : World), (Instr.makeFunc fn first cap).run Tryz.prog w = .ok (.func fn first cap) w := fun _ _ _ _ => rfl
 rcases ha with ⟨f, a, b, rfl⟩ | rfl <;> rcases hb with ⟨f', a', b', rfl⟩ | rfl <;>
 ·go_enter Tryz.func219, Tryz.ntmps219
  go_wp2_with fail
  go_ret
  exact ⟨rfl, rfl⟩
theorem Tryz.entAssign : Enters Tryz.prog 270 := enters_of Tryz.func270 (by kernel_rfl) rfl
theorem assign_any (w : World) (va : Value) (oa : Option AmtM) (g : Nat) (m : AmtM → StpM) (A : Nat → Prop) (hA : ∀ k, w.heap.size ≤ k → A k) (ha : AmtO w A va oa)
  (hrun : ∀ (W : World) (b : Nat) (r : Rt) (pv mv : Value) (ma : AmtM) (Ka : Nat → Prop), RtAt W b r pv mv → AmtC va ma Ka W → W.cell? ⟨w.heap.size, 0, none⟩ = some va → W.cell? ⟨w.heap.size + 1, 0, none⟩ = some (.func (.func g) #[] #[]) →
   Calls Tryz.prog 270 (#[ptr4 b 0] ++ #[ptr4 w.heap.size 0, ptr4 (w.heap.size + 1) 0]) W (StpRes b pv mv W (m ma r))) :
  Calls Tryz.prog 219 #[va, .func (.func g) #[] #[]] w fun e w' => ∃ v, e = .returned v ∧ w' = ((w.alloc (box1 va 317)).alloc (box1 (.func (.func g) #[] #[]) 319)) ∧ StpO w' A v (oa.map m) := by
 refine (assign_call w va (.func (.func g) #[] #[]) ha.fnv (Or.inl ⟨_, _, _, rfl⟩)).mono ?_
 rintro e w' ⟨rfl, rfl⟩
 refine ⟨_, rfl, rfl, ?_⟩
 cases oa with
 | none => exact Or.inl ⟨_, _, _, rfl⟩
 | some ma =>
  have h1 : Lasts _ A (AmtC va ma) := (ha.alloc (box1 va 317)).alloc (box1 (.func (.func g) #[] #[]) 319)
  obtain ⟨n1, n2, sz⟩ := two_new w (box1 va 317) (box1 (.func (.func g) #[] #[]) 319)
  refine Lasts.one h1 (fun k => k = w.heap.size ∨ k = w.heap.size + 1) (fun k hk => ⟨by omega, hA k (by omega)⟩) (fun K1 _ q1 W hW hk => ?_)
  refine ⟨_, _, rfl, Tryz.entAssign, fun b r pv mv hr _ => ?_⟩
  exact hrun W b r pv mv ma K1 hr (q1 W hW (fun k h => hk k (Or.inl h))) (cell1 (hk _ (Or.inr (Or.inl rfl))) n1) (cell1 (hk _ (Or.inr (Or.inr rfl))) n2)
theorem assignPref_any (w : World) (va : Value) (oa : Option AmtM) (A : Nat → Prop) (hA : ∀ k, w.heap.size ≤ k → A k) (ha : AmtO w A va oa) :
  Calls Tryz.prog 219 #[va, .func (.func 221) #[] #[]] w fun e w' => ∃ v, e = .returned v ∧ w' = ((w.alloc (box1 va 317)).alloc (box1 (.func (.func 221) #[] #[]) 319)) ∧ StpO w' A v (oa.map setPrefM) :=
 assign_any w va oa _ setPrefM A hA ha (fun W b r pv mv ma Ka h1 h2 h3 h4 => setPref_run W b r pv mv h1 va ma Ka h2 _ _ h3 h4)
theorem assignMed_any (w : World) (va : Value) (oa : Option AmtM) (A : Nat → Prop) (hA : ∀ k, w.heap.size ≤ k → A k) (ha : AmtO w A va oa) :
  Calls Tryz.prog 219 #[va, .func (.func 222) #[] #[]] w fun e w' => ∃ v, e = .returned v ∧ w' = ((w.alloc (box1 va 317)).alloc (box1 (.func (.func 222) #[] #[]) 319)) ∧ StpO w' A v (oa.map setMedM) :=
 assign_any w va oa _ setMedM A hA ha (fun W b r pv mv ma Ka h1 h2 h3 h4 => setMed_run W b r pv mv h1 va ma Ka h2 _ _ h3 h4)
def RowV (W : World) (K : Nat → Prop) (sv : Value) (vs : List Value) : Prop :=
 (vs = [] ∧ sv = .slice none 0 0) ∨ ∃ S cap, sv = .slice (some ⟨S, 0, none⟩) vs.length cap ∧ K S ∧ ∀ i v, vs[i]? = some v → W.cell? ⟨S, i, none⟩ = some v
def StepsC (sv : Value) (ms : List StpM) (K : Nat → Prop) (W : World) : Prop :=
 ms.length ≤ 1000000 ∧ ∃ vs : List Value, vs.length = ms.length ∧ RowV W K sv vs ∧ ∀ (i : Nat) (v : Value) (m : StpM), vs[i]? = some v → ms[i]? = some m → StpC v m K W
theorem perform_run (w0 : World) (K : Nat → Prop) (sv : Value) (ms : List StpM) (hK : ∀ k, K k → k < w0.heap.size) (HS : ∀ V, w0.heap.size ≤ V.heap.size → (∀ k, K k → V.heap[k]? = w0.heap[k]?) → StepsC sv ms K V)
  (W : World) (hW : w0.heap.size ≤ W.heap.size) (hag : ∀ k, K k → W.heap[k]? = w0.heap[k]?) (b : Nat) (r : Rt) (pv mv : Value) (h : RtAt W b r pv mv) (hd : ∀ k, RtOwn b pv mv k → ¬ K k) :
  Calls Tryz.prog 149 #[sv, ptr4 b 0] W (StpRes b pv mv W (performM ms r)) := by
 obtain ⟨hl, vs0, hvl, hrow, _⟩ := HS W hW hag
 have H0 := hide (show RtAt W b r pv mv from h)
 have HKK := hide hK
 have HSS := hide HS
 have HD := hide hd
 have HAG := hide hag
 clear h hK HS hd hag
 obtain ⟨sa, sc, hsv⟩ : ∃ a c, sv = .slice a ms.length c := by
  rcases hrow with ⟨h1, h2⟩ | ⟨S, cap, h1, _⟩
  ·exact ⟨none, 0, by rw [h2, ← hvl, h1]; rfl⟩
  ·exact ⟨_, cap, by rw [h1, hvl]⟩
 have HROW := hide hrow
 clear hrow
 subst hsv
 go_enter Tryz.func149, Tryz.ntmps149
 go_wp2_with fail
 generalize hN : ms.length = N at *
 go_loopg [10] N (fun k i wr => ∃ (j : Nat) (rj : Rt) (pj mj : Value), i = .int .i64 (j : Int) ∧ j + k = N ∧ RtAt wr b rj pj mj ∧ Fr (RtOwn b pv mv) W (RtOwn b pj mj) wr ∧ performM (ms.drop j) rj = performM ms r)
 case atStart => exact ⟨0, r, pv, mv, rfl, by omega, unhide H0, Fr.refl _ _, rfl⟩
 case round =>
  clear HROW
  obtain ⟨j, rj, pj, mj, rfl, hjk, hrt, hf, hpf⟩ := hrel
  have hagr : ∀ k, K k → wr.heap[k]? = w0.heap[k]? := fun k hk => (hf.block k (Nat.lt_of_lt_of_le ((unhide HKK) k hk) hW) (fun ho => (unhide HD) k ho hk)).trans ((unhide HAG) k hk)
  have hdj : ∀ k, RtOwn b pj mj k → ¬ K k := fun k ho hk => by
   rcases hf.own k ho with h1 | h1
   ·exact (unhide HD) k h1 hk
   ·have := (unhide HKK) k hk; omega
  have HF := hide hf
  have HRT := hide hrt
  have HPF := hide hpf
  by_cases hj : j < N
  ·obtain ⟨_, vs, hvl', hrow, hst⟩ := (unhide HSS) wr (Nat.le_trans hW hf.size) hagr
   have hj' : j < vs.length := by omega
   have hjm : j < ms.length := by omega
   have hv : vs[j]? = some vs[j] := List.getElem?_eq_getElem hj'
   have hm : ms[j]? = some ms[j] := List.getElem?_eq_getElem hjm
   obtain ⟨g, lb, hvj, eg, hc⟩ := hst j _ _ hv hm
   have hdrop : ms.drop j = ms[j] :: ms.drop (j + 1) := List.drop_eq_getElem_cons hjm
   have HC := hide (hc b rj pj mj hrt hdj)
   have e1 := enters_fn eg
   rcases hrow with ⟨h1, _⟩ | ⟨S, cap, h1, _, hcell⟩
   ·rw [h1] at hj'; simp at hj'
   injection h1 with h2 h3 h4
   subst h2 h4
   have hcl : wr.cell? ⟨S, j, none⟩ = some (.func (.func g) #[] lb) := (hcell j _ hv).trans (by rw [hvj])
   have HDR := hide hdrop
   generalize hmj : ms[j] = mjj at *
   clear hcell hst hc eg hvj hm hv h3 hrt hf hpf hagr hdj hdrop
   by_cases hz : (mjj rj).2 = 0
   ·have HM := hide (show performM (ms.drop j) rj = performM (ms.drop (j + 1)) (mjj rj).1 by rw [unhide HDR, performM, if_pos hz])
    have HC' : Hid (Calls Tryz.prog g (#[ptr4 b 0] ++ lb) wr fun e W' => e = .returned (.int .i64 0) ∧ ∃ pv' mv', RtAt W' b (mjj rj).1 pv' mv' ∧ Fr (RtOwn b pj mj) wr (RtOwn b pv' mv') W') := by
     unfold Hid; rw [← hz]; exact unhide HC
    clear HC
    go_wp2_with (go_at_fn g; refine (unhide HC').mono ?_; rintro e w1 ⟨rfl, pv1, mv1, hr1, hf1⟩; have HR1 := hide hr1; have HF1 := hide hf1; clear hr1 hf1)
    go_roundg (N - (j + 1))
    case measure => omega
    case rel => exact ⟨j + 1, _, pv1, mv1, by simp, by omega, unhide HR1, (unhide HF).trans (unhide HF1), (unhide HM).symm.trans (unhide HPF)⟩
   ·have HM := hide (show performM (ms.drop j) rj = mjj rj by rw [unhide HDR, performM, if_neg hz])
    have hne : ((mjj rj).2 != 0) = true := by simpa using hz
    have HC' : Hid (Calls Tryz.prog g (#[ptr4 b 0] ++ lb) wr fun e W' => e = .returned (.int .i64 (mjj rj).2) ∧ ∃ pv' mv', RtAt W' b (mjj rj).1 pv' mv' ∧ Fr (RtOwn b pj mj) wr (RtOwn b pv' mv') W') := HC
    clear HC
    go_wp2_with (go_at_fn g; refine (unhide HC').mono ?_; rintro e w1 ⟨rfl, pv1, mv1, hr1, hf1⟩; have HR1 := hide hr1; have HF1 := hide hf1; clear hr1 hf1)
    go_ret
    rw [← unhide HPF, unhide HM]
    exact ⟨rfl, pv1, mv1, unhide HR1, (unhide HF).trans (unhide HF1)⟩
  ·have hdn : ms.drop j = [] := List.drop_eq_nil_of_le (by omega)
   have HM := hide (show performM (ms.drop j) rj = (rj, 0) by rw [hdn, performM])
   clear hrt hf hpf hagr hdj hdn
   go_wp2_with fail
   go_ret
   rw [← unhide HPF, unhide HM]
   exact ⟨rfl, pj, mj, unhide HRT, unhide HF⟩
end Go.Proofs.YtgdeeodifnegiaaGreatDoor
