/- Closures of amounts: what they do with a route. -/
import Derived.Test.YtgdeeodifnegiaaGreatDoorRdrA
namespace Go.Proofs.YtgdeeodifnegiaaGreatDoor
open Go.RowKit

def intCells (l : List Int) : List Value := l.map (Value.int .i64)
/-- a route in memory, with lists of its own -/
structure RtAt (W : World) (b : Nat) (r : Rt) (pv mv : Value) : Prop where
  blk : W.heap[b]? = some (.cells #[.int .i64 r.addr, .int .i64 r.len, pv, mv, .int .i64 r.pref, .int .i64 r.med] 28 (0, 0))
  path : W.ownsRow 0 3 1 pv r.path.length (intCells r.path)
  marks : W.ownsRow 0 3 1 mv r.marks.length (intCells r.marks)
  ne1 : pv.ownBlock ≠ some b
  ne2 : mv.ownBlock ≠ some b
  ne3 : pv.ownBlock = none ∨ pv.ownBlock ≠ mv.ownBlock
  n1 : r.path.length ≤ 12
  n2 : r.marks.length ≤ 8
  srt : r.marks.Pairwise (· < ·)
theorem owns_form' {w : World} {base : Nat} {e : TypeId} {size : Nat} {v : Value} {n : Nat} {xs : List Value} (h : w.ownsRow base e size v n xs) : ∃ a c, v = .slice a n c := by
  rcases h.2 with ⟨h1, h0⟩ | ⟨g, cap, cur, h1, _⟩
  · exact ⟨none, 0, by rw [h1, h0]⟩
  · exact ⟨_, _, h1⟩
def amtV (o : Option Int) : Value := .tuple #[.int .i64 (o.getD 0), .bool o.isSome]
/-- an amount: called with a route it answers as m does, and leaves the world as it was -/
def AmtC (v : Value) (m : AmtM) (_K : Nat → Prop) (W : World) : Prop :=
  FnAt v fun g lb => ∀ (b : Nat) (r : Rt) (pv mv : Value), RtAt W b r pv mv → Calls Tryz.prog g (#[ptr4 b 0] ++ lb) W fun e W' => e = .returned (amtV (m r)) ∧ W' = W

set_option maxRecDepth 100000 in
set_option maxHeartbeats 1000000 in
theorem constant_run (W : World) (B : Nat) (n : Int) (hb : W.cell? ⟨B, 0, none⟩ = some (.int .i64 n)) (b : Nat) :
    Calls Tryz.prog 361 (#[ptr4 b 0] ++ #[ptr4 B 0]) W fun e W' => e = .returned (amtV (some n)) ∧ W' = W := by
  go_enter Tryz.func361, Tryz.ntmps361
  go_wp2_with fail
  go_ret2
  exact ⟨rfl, rfl⟩
set_option maxRecDepth 100000 in
set_option maxHeartbeats 1000000 in
theorem thePref_run (W : World) (b : Nat) (r : Rt) (pv mv : Value) (h : RtAt W b r pv mv) :
    Calls Tryz.prog 343 (#[ptr4 b 0] ++ #[]) W fun e W' => e = .returned (amtV (some r.pref)) ∧ W' = W := by
  have c4 : W.cell? ⟨b, 4, none⟩ = some (.int .i64 r.pref) := cell_of_heap h.blk
  clear h
  go_enter Tryz.func343, Tryz.ntmps343
  go_wp2_with fail
  go_ret2
  exact ⟨rfl, rfl⟩
set_option maxRecDepth 100000 in
set_option maxHeartbeats 1000000 in
theorem theMed_run (W : World) (b : Nat) (r : Rt) (pv mv : Value) (h : RtAt W b r pv mv) :
    Calls Tryz.prog 344 (#[ptr4 b 0] ++ #[]) W fun e W' => e = .returned (amtV (some r.med)) ∧ W' = W := by
  have c4 : W.cell? ⟨b, 5, none⟩ = some (.int .i64 r.med) := cell_of_heap h.blk
  clear h
  go_enter Tryz.func344, Tryz.ntmps344
  go_wp2_with fail
  go_ret2
  exact ⟨rfl, rfl⟩
set_option maxRecDepth 100000 in
set_option maxHeartbeats 1000000 in
theorem theLen_run (W : World) (b : Nat) (r : Rt) (pv mv : Value) (h : RtAt W b r pv mv) :
    Calls Tryz.prog 345 (#[ptr4 b 0] ++ #[]) W fun e W' => e = .returned (amtV (some (r.path.length : Int))) ∧ W' = W := by
  have c4 : W.cell? ⟨b, 2, none⟩ = some pv := cell_of_heap h.blk
  obtain ⟨a, c, rfl⟩ := owns_form' h.path
  have hn := h.n1
  clear h
  generalize r.path.length = N at *
  go_enter Tryz.func345, Tryz.ntmps345
  go_wp2_with fail
  go_ret2
  exact ⟨rfl, rfl⟩
theorem enters_fn {g : Nat} (h : Enters Tryz.prog g) : ∀ args w, (callFunc g args).run Tryz.prog w = .ok (.enter g args) w := h
set_option maxRecDepth 100000 in
set_option maxHeartbeats 1000000 in
/-- two amounts, one behind the other -/
theorem both_run (W : World) (b : Nat) (r : Rt) (pv mv : Value) (h : RtAt W b r pv mv) (va vb : Value) (ma mb : AmtM) (Ka Kb : Nat → Prop) (ha : AmtC va ma Ka W) (hb : AmtC vb mb Kb W) :
    Calls Tryz.prog 347 #[va, vb, ptr4 b 0] W fun e W' => (∃ x y, e = .returned (.tuple #[.int .i64 x, .int .i64 y, .bool ((ma r).isSome && (mb r).isSome)]) ∧ ((ma r).isSome = true → (mb r).isSome = true → ma r = some x ∧ mb r = some y)) ∧ W' = W := by
  obtain ⟨g, lb, rfl, eg, hc⟩ := ha
  obtain ⟨g2, lb2, rfl, eg2, hc2⟩ := hb
  have e1 := enters_fn eg
  have e2 := enters_fn eg2
  have HA := hide (hc b r pv mv h)
  have HB := hide (hc2 b r pv mv h)
  clear hc hc2 h eg eg2
  cases hx : ma r with
  | none =>
    rw [hx] at HA
    have HA' : Hid (Calls Tryz.prog g (#[ptr4 b 0] ++ lb) W fun e W' => e = .returned (.tuple #[.int .i64 0, .bool false]) ∧ W' = W) := HA
    go_enter Tryz.func347, Tryz.ntmps347
    go_wp2_with (go_at_fn g; refine (unhide HA').mono ?_; rintro e w' ⟨rfl, rfl⟩)
    refine bodyPost_ret (v := .tuple #[.int .i64 0, .int .i64 0, .bool false]) (by simp [results, Tryz.results347, go_sem]) rfl ?_
    exact ⟨⟨0, 0, rfl, fun h => by cases h⟩, rfl⟩
  | some x =>
    rw [hx] at HA
    have HA' : Hid (Calls Tryz.prog g (#[ptr4 b 0] ++ lb) W fun e W' => e = .returned (.tuple #[.int .i64 x, .bool true]) ∧ W' = W) := HA
    have HB' : Hid (Calls Tryz.prog g2 (#[ptr4 b 0] ++ lb2) W fun e W' => e = .returned (.tuple #[.int .i64 ((mb r).getD 0), .bool (mb r).isSome]) ∧ W' = W) := HB
    go_enter Tryz.func347, Tryz.ntmps347
    go_wp2_with (go_at_fn g; refine (unhide HA').mono ?_; rintro e w' ⟨rfl, rfl⟩)
    refine (unhide HB').mono ?_
    rintro e w2 ⟨rfl, rfl⟩
    go_wp2_with fail
    refine bodyPost_ret (v := .tuple #[.int .i64 x, .int .i64 ((mb r).getD 0), .bool (mb r).isSome]) (by simp [results, Tryz.results347, go_sem]) rfl ?_
    refine ⟨⟨x, _, rfl, fun _ h => ⟨rfl, ?_⟩⟩, rfl⟩
    cases hy : mb r with
    | none => rw [hy] at h; cases h
    | some y => rfl
theorem both_yes (W : World) (b : Nat) (r : Rt) (pv mv : Value) (h : RtAt W b r pv mv) (va vb : Value) (ma mb : AmtM) (Ka Kb : Nat → Prop) (ha : AmtC va ma Ka W) (hb : AmtC vb mb Kb W) {x y : Int} (hx : ma r = some x) (hy : mb r = some y) :
    Calls Tryz.prog 347 #[va, vb, ptr4 b 0] W fun e W' => e = .returned (.tuple #[.int .i64 x, .int .i64 y, .bool true]) ∧ W' = W := by
  refine (both_run W b r pv mv h va vb ma mb Ka Kb ha hb).mono ?_
  rintro e w' ⟨⟨x', y', rfl, hxy⟩, rfl⟩
  obtain ⟨h1, h2⟩ := hxy (by rw [hx]; rfl) (by rw [hy]; rfl)
  rw [hx] at h1; rw [hy] at h2
  cases h1; cases h2
  rw [hx, hy]
  exact ⟨rfl, rfl⟩
theorem both_no (W : World) (b : Nat) (r : Rt) (pv mv : Value) (h : RtAt W b r pv mv) (va vb : Value) (ma mb : AmtM) (Ka Kb : Nat → Prop) (ha : AmtC va ma Ka W) (hb : AmtC vb mb Kb W) (hx : ((ma r).isSome && (mb r).isSome) = false) :
    Calls Tryz.prog 347 #[va, vb, ptr4 b 0] W fun e W' => (∃ x y, e = .returned (.tuple #[.int .i64 x, .int .i64 y, .bool false])) ∧ W' = W := by
  refine (both_run W b r pv mv h va vb ma mb Ka Kb ha hb).mono ?_
  rintro e w' ⟨⟨x', y', rfl, hxy⟩, rfl⟩
  rw [hx]
  exact ⟨⟨x', y', rfl⟩, rfl⟩
theorem amtC_form {v : Value} {m : AmtM} {K : Nat → Prop} {W : World} (h : AmtC v m K W) : ∃ g lb, v = .func (.func g) #[] lb := by
  obtain ⟨g, lb, h1, _⟩ := h; exact ⟨g, lb, h1⟩
set_option maxRecDepth 100000 in
set_option maxHeartbeats 1000000 in
theorem plus_run (W : World) (b : Nat) (r : Rt) (pv mv : Value) (h : RtAt W b r pv mv) (va vb : Value) (ma mb : AmtM) (Ka Kb : Nat → Prop) (ha : AmtC va ma Ka W) (hb : AmtC vb mb Kb W) (B1 B2 B3 : Nat) (s : Int)
    (c1 : W.cell? ⟨B1, 0, none⟩ = some va) (c2 : W.cell? ⟨B2, 0, none⟩ = some vb) (c3 : W.cell? ⟨B3, 0, none⟩ = some (.int .i64 s)) :
    Calls Tryz.prog 346 (#[ptr4 b 0] ++ #[ptr4 B1 0, ptr4 B2 0, ptr4 B3 0]) W fun e W' => e = .returned (amtV (plusM ma mb s r)) ∧ W' = W := by
  have EQ := hide (show plusM ma mb s r = match ma r with | none => none | some x => match mb r with | none => none | some y => plusN s x y from rfl)
  cases hB : ((ma r).isSome && (mb r).isSome) with
  | false =>
    have HB := hide (both_no W b r pv mv h va vb ma mb Ka Kb ha hb hB)
    have HN : Hid (plusM ma mb s r = none) := by
      unfold Hid; rw [unhide EQ]
      cases hx : ma r with
      | none => rfl
      | some x => cases hy : mb r with
        | none => rfl
        | some y => rw [hx, hy] at hB; cases hB
    obtain ⟨g, lb, rfl⟩ := amtC_form ha
    obtain ⟨g2, lb2, rfl⟩ := amtC_form hb
    clear h ha hb hB EQ
    go_enter Tryz.func346, Tryz.ntmps346
    go_wp2_with (go_at_call 347; refine (unhide HB).mono ?_; rintro e w' ⟨⟨x, y, rfl⟩, rfl⟩)
    go_ret2
    exact ⟨by rw [unhide HN]; rfl, rfl⟩
  | true =>
    rw [Bool.and_eq_true] at hB
    obtain ⟨x, hx⟩ := Option.isSome_iff_exists.1 hB.1
    obtain ⟨y, hy⟩ := Option.isSome_iff_exists.1 hB.2
    have HB := hide (both_yes W b r pv mv h va vb ma mb Ka Kb ha hb hx hy)
    have HE : Hid (plusM ma mb s r = plusN s x y) := by unfold Hid; rw [unhide EQ, hx, hy]
    obtain ⟨g, lb, rfl⟩ := amtC_form ha
    obtain ⟨g2, lb2, rfl⟩ := amtC_form hb
    clear h ha hb hB EQ hx hy
    have HPN := hide (show plusN s x y = if 0 ≤ wrap64 (x + wrap64 (s * y)) ∧ wrap64 (x + wrap64 (s * y)) ≤ 4294967295 then some (wrap64 (x + wrap64 (s * y))) else none from rfl)
    by_cases h1 : 0 ≤ wrap64 (x + wrap64 (s * y))
    · by_cases h2 : wrap64 (x + wrap64 (s * y)) ≤ 4294967295
      · have HP : Hid (plusN s x y = some (wrap64 (x + wrap64 (s * y)))) := by unfold Hid; rw [unhide HPN, if_pos ⟨h1, h2⟩]
        clear HPN
        go_enter Tryz.func346, Tryz.ntmps346
        go_wp2_with (go_at_call 347; refine (unhide HB).mono ?_; rintro e w' ⟨rfl, rfl⟩)
        go_ret2
        exact ⟨by rw [unhide HE, unhide HP]; rfl, rfl⟩
      · have HP : Hid (plusN s x y = none) := by unfold Hid; rw [unhide HPN, if_neg (fun h => h2 h.2)]
        clear HPN
        go_enter Tryz.func346, Tryz.ntmps346
        go_wp2_with (go_at_call 347; refine (unhide HB).mono ?_; rintro e w' ⟨rfl, rfl⟩)
        go_ret2
        exact ⟨by rw [unhide HE, unhide HP]; rfl, rfl⟩
    · have HP : Hid (plusN s x y = none) := by unfold Hid; rw [unhide HPN, if_neg (fun h => h1 h.1)]
      clear HPN
      go_enter Tryz.func346, Tryz.ntmps346
      go_wp2_with (go_at_call 347; refine (unhide HB).mono ?_; rintro e w' ⟨rfl, rfl⟩)
      go_ret2
      exact ⟨by rw [unhide HE, unhide HP]; rfl, rfl⟩
end Go.Proofs.YtgdeeodifnegiaaGreatDoor

namespace Go.Proofs.YtgdeeodifnegiaaGreatDoor
open Go.RowKit

theorem RtAt.below {W V : World} {b : Nat} {r : Rt} {pv mv : Value} (h : RtAt W b r pv mv) (hb : Below W.heap.size W V) : RtAt V b r pv mv :=
  ⟨(hb.block b (heap_lt h.blk)).trans h.blk, owns_of h.path (fun k e => hb.block k (h.path.lt k e).2), owns_of h.marks (fun k e => hb.block k (h.marks.lt k e).2), h.ne1, h.ne2, h.ne3, h.n1, h.n2, h.srt⟩
def condV (o : Option Bool) : Value := .tuple #[.bool (o.getD false), .bool o.isSome]
/-- a condition: called with a route it answers as m does, and writes nothing that was there -/
def CndC (v : Value) (m : CndM) (_K : Nat → Prop) (W : World) : Prop :=
  FnAt v fun g lb => ∀ (b : Nat) (r : Rt) (pv mv : Value), RtAt W b r pv mv → Calls Tryz.prog g (#[ptr4 b 0] ++ lb) W fun e W' => e = .returned (condV (m r)) ∧ Below W.heap.size W W'

/-- what stands on new blocks alone -/
theorem Lasts.new {w : World} {A : Nat → Prop} {Q : (Nat → Prop) → World → Prop} (B : Nat → Prop) (hB : ∀ k, B k → k < w.heap.size ∧ A k) (hq : ∀ W, w.heap.size ≤ W.heap.size → (∀ k, B k → W.heap[k]? = w.heap[k]?) → Q B W) : Lasts w A Q :=
  ⟨B, hB, hq⟩
/-- what stands on new blocks and on what one other thing stands on -/
theorem Lasts.one {w : World} {A : Nat → Prop} {Q1 Q : (Nat → Prop) → World → Prop} (h1 : Lasts w A Q1) (B : Nat → Prop) (hB : ∀ k, B k → k < w.heap.size ∧ A k)
    (hq : ∀ K1, (∀ k, K1 k → k < w.heap.size ∧ A k) → (∀ W, w.heap.size ≤ W.heap.size → (∀ k, K1 k → W.heap[k]? = w.heap[k]?) → Q1 K1 W) → ∀ W, w.heap.size ≤ W.heap.size → (∀ k, K1 k ∨ B k → W.heap[k]? = w.heap[k]?) → Q (fun k => K1 k ∨ B k) W) : Lasts w A Q := by
  obtain ⟨K1, a1, b1⟩ := h1
  refine ⟨fun k => K1 k ∨ B k, fun k hk => ?_, fun W hW hk => hq K1 a1 b1 W hW hk⟩
  rcases hk with h | h
  · exact a1 k h
  · exact hB k h
/-- .. and on what two other things stand on -/
theorem Lasts.two {w : World} {A : Nat → Prop} {Q1 Q2 Q : (Nat → Prop) → World → Prop} (h1 : Lasts w A Q1) (h2 : Lasts w A Q2) (B : Nat → Prop) (hB : ∀ k, B k → k < w.heap.size ∧ A k)
    (hq : ∀ K1 K2, (∀ k, K1 k → k < w.heap.size ∧ A k) → (∀ k, K2 k → k < w.heap.size ∧ A k) → (∀ W, w.heap.size ≤ W.heap.size → (∀ k, K1 k → W.heap[k]? = w.heap[k]?) → Q1 K1 W) → (∀ W, w.heap.size ≤ W.heap.size → (∀ k, K2 k → W.heap[k]? = w.heap[k]?) → Q2 K2 W) →
      ∀ W, w.heap.size ≤ W.heap.size → (∀ k, K1 k ∨ K2 k ∨ B k → W.heap[k]? = w.heap[k]?) → Q (fun k => K1 k ∨ K2 k ∨ B k) W) : Lasts w A Q := by
  obtain ⟨K1, a1, b1⟩ := h1
  obtain ⟨K2, a2, b2⟩ := h2
  refine ⟨fun k => K1 k ∨ K2 k ∨ B k, fun k hk => ?_, fun W hW hk => hq K1 K2 a1 a2 b1 b2 W hW hk⟩
  rcases hk with h | h | h
  · exact a1 k h
  · exact a2 k h
  · exact hB k h

/-- a function value, or none: it takes one cell -/
def FnV (v : Value) : Prop := (∃ f a b, v = .func f a b) ∨ v = .nilFunc
def AmtO (w : World) (A : Nat → Prop) (v : Value) : Option AmtM → Prop
  | none => FnV v
  | some m => Lasts w A (AmtC v m)
def CndO (w : World) (A : Nat → Prop) (v : Value) : Option CndM → Prop
  | none => FnV v
  | some m => Lasts w A (CndC v m)
theorem Lasts.now {w : World} {A : Nat → Prop} {Q : (Nat → Prop) → World → Prop} (h : Lasts w A Q) : ∃ K, Q K w := by
  obtain ⟨K, _, b⟩ := h; exact ⟨K, b w (Nat.le_refl _) (fun _ _ => rfl)⟩
theorem AmtO.fnv {w : World} {A : Nat → Prop} {v : Value} {o : Option AmtM} (h : AmtO w A v o) : FnV v := by
  cases o with
  | none => exact h
  | some m =>
    obtain ⟨K, g, lb, h1, _⟩ := Lasts.now h
    exact Or.inl ⟨_, _, _, h1⟩
theorem CndO.fnv {w : World} {A : Nat → Prop} {v : Value} {o : Option CndM} (h : CndO w A v o) : FnV v := by
  cases o with
  | none => exact h
  | some m =>
    obtain ⟨K, g, lb, h1, _⟩ := Lasts.now h
    exact Or.inl ⟨_, _, _, h1⟩
theorem AmtO.mono {w w' : World} {A A' : Nat → Prop} {v : Value} {o : Option AmtM} (h : AmtO w A v o) (hs : w.heap.size ≤ w'.heap.size) (hb : ∀ k, k < w.heap.size → A k → w'.heap[k]? = w.heap[k]? ∧ A' k) : AmtO w' A' v o := by
  cases o with
  | none => exact h
  | some m => exact Lasts.mono h hs hb (fun _ _ h => h)
theorem CndO.mono {w w' : World} {A A' : Nat → Prop} {v : Value} {o : Option CndM} (h : CndO w A v o) (hs : w.heap.size ≤ w'.heap.size) (hb : ∀ k, k < w.heap.size → A k → w'.heap[k]? = w.heap[k]? ∧ A' k) : CndO w' A' v o := by
  cases o with
  | none => exact h
  | some m => exact Lasts.mono h hs hb (fun _ _ h => h)

set_option maxRecDepth 100000 in
set_option maxHeartbeats 1000000 in
theorem constant_call (w : World) (n : Int) :
    Calls Tryz.prog 342 #[.int .i64 n] w fun e w' => e = .returned (.func (.func 361) #[] #[ptr4 w.heap.size 0]) ∧ w' = w.alloc (.cells #[.int .i64 n] 3) := by
  have hmf : ∀ (fn : Fn) (first cap : Array Value) (w : World), (Instr.makeFunc fn first cap).run Tryz.prog w = .ok (.func fn first cap) w := fun _ _ _ _ => rfl
  go_enter Tryz.func342, Tryz.ntmps342
  go_wp2_with fail
  go_ret
  exact ⟨rfl, rfl⟩
theorem Tryz.entConst : Enters Tryz.prog 361 := enters_of Tryz.func361 (by kernel_rfl) rfl
theorem constant_any (w : World) (n : Int) (A : Nat → Prop) (hA : A w.heap.size) :
    Calls Tryz.prog 342 #[.int .i64 n] w fun e w' => ∃ v, e = .returned v ∧ w' = w.alloc (.cells #[.int .i64 n] 3) ∧ Lasts w' A (AmtC v (constM n)) := by
  refine (constant_call w n).mono ?_
  rintro e w' ⟨rfl, rfl⟩
  refine ⟨_, rfl, rfl, Lasts.new (fun k => k = w.heap.size) (fun k hk => ?_) (fun W hW hk => ?_)⟩
  · subst hk; exact ⟨by simp, hA⟩
  · have hc : W.cell? ⟨w.heap.size, 0, none⟩ = some (.int .i64 n) := cell_of_heap ((hk _ rfl).trans (heap_alloc_new w _))
    exact ⟨_, _, rfl, Tryz.entConst, fun b r pv mv _ => constant_run W _ n hc b⟩
end Go.Proofs.YtgdeeodifnegiaaGreatDoor

namespace Go.Proofs.YtgdeeodifnegiaaGreatDoor
open Go.RowKit

theorem alloc_mono (w : World) (o : Obj) (A : Nat → Prop) : w.heap.size ≤ (w.alloc o).heap.size ∧ ∀ k, k < w.heap.size → A k → (w.alloc o).heap[k]? = w.heap[k]? ∧ A k :=
  ⟨by simp, fun k hk ha => ⟨Below.heap_alloc _ _ _ hk, ha⟩⟩
theorem AmtO.alloc {w : World} {A : Nat → Prop} {v : Value} {o : Option AmtM} (h : AmtO w A v o) (b : Obj) : AmtO (w.alloc b) A v o := h.mono (alloc_mono w b A).1 (alloc_mono w b A).2
theorem CndO.alloc {w : World} {A : Nat → Prop} {v : Value} {o : Option CndM} (h : CndO w A v o) (b : Obj) : CndO (w.alloc b) A v o := h.mono (alloc_mono w b A).1 (alloc_mono w b A).2
abbrev box1 (v : Value) (T : TypeId) : Obj := .cells #[v] T

set_option maxRecDepth 100000 in
set_option maxHeartbeats 1000000 in
theorem plus_call (w : World) (va vb : Value) (s : Int) (ha : FnV va) (hb : FnV vb) :
    Calls Tryz.prog 316 #[va, vb, .int .i64 s] w fun e w' => e = .returned (.func (.func 346) #[] #[ptr4 w.heap.size 0, ptr4 (w.heap.size + 1) 0, ptr4 (w.heap.size + 1 + 1) 0]) ∧ w' = ((w.alloc (box1 va 317)).alloc (box1 vb 317)).alloc (box1 (.int .i64 s) 3) := by
  have hmf : ∀ (fn : Fn) (first cap : Array Value) (w : World), (Instr.makeFunc fn first cap).run Tryz.prog w = .ok (.func fn first cap) w := fun _ _ _ _ => rfl
  rcases ha with ⟨f, a, b, rfl⟩ | rfl <;> rcases hb with ⟨f', a', b', rfl⟩ | rfl <;>
  · go_enter Tryz.func316, Tryz.ntmps316
    go_wp2_with fail
    go_ret
    exact ⟨rfl, rfl⟩
theorem Tryz.entPlus : Enters Tryz.prog 346 := enters_of Tryz.func346 (by kernel_rfl) rfl
theorem three_new (w : World) (a b c : Obj) : (((w.alloc a).alloc b).alloc c).heap[w.heap.size]? = some a ∧ (((w.alloc a).alloc b).alloc c).heap[w.heap.size + 1]? = some b ∧ (((w.alloc a).alloc b).alloc c).heap[w.heap.size + 1 + 1]? = some c ∧ (((w.alloc a).alloc b).alloc c).heap.size = w.heap.size + 3 := by
  have s1 : (w.alloc a).heap.size = w.heap.size + 1 := by simp
  have s2 : ((w.alloc a).alloc b).heap.size = w.heap.size + 1 + 1 := by simp
  refine ⟨?_, ?_, ?_, by simp⟩
  · rw [Below.heap_alloc _ _ _ (by omega), Below.heap_alloc _ _ _ (by omega)]; exact heap_alloc_new w _
  · rw [Below.heap_alloc _ _ _ (by omega), ← s1]; exact heap_alloc_new _ _
  · rw [← s2]; exact heap_alloc_new _ _
theorem two_new (w : World) (a b : Obj) : ((w.alloc a).alloc b).heap[w.heap.size]? = some a ∧ ((w.alloc a).alloc b).heap[w.heap.size + 1]? = some b ∧ ((w.alloc a).alloc b).heap.size = w.heap.size + 2 := by
  have s1 : (w.alloc a).heap.size = w.heap.size + 1 := by simp
  refine ⟨?_, ?_, by simp⟩
  · rw [Below.heap_alloc _ _ _ (by omega)]; exact heap_alloc_new w _
  · rw [← s1]; exact heap_alloc_new _ _
theorem plus_any (w : World) (va vb : Value) (oa ob : Option AmtM) (s : Int) (A : Nat → Prop) (hA : ∀ k, w.heap.size ≤ k → A k) (ha : AmtO w A va oa) (hb : AmtO w A vb ob) :
    Calls Tryz.prog 316 #[va, vb, .int .i64 s] w fun e w' => ∃ v, e = .returned v ∧ w' = ((w.alloc (box1 va 317)).alloc (box1 vb 317)).alloc (box1 (.int .i64 s) 3) ∧ AmtO w' A v (plusO oa ob s) := by
  refine (plus_call w va vb s ha.fnv hb.fnv).mono ?_
  rintro e w' ⟨rfl, rfl⟩
  refine ⟨_, rfl, rfl, ?_⟩
  cases oa with
  | none => exact Or.inl ⟨_, _, _, rfl⟩
  | some ma => cases ob with
    | none => exact Or.inl ⟨_, _, _, rfl⟩
    | some mb =>
      have h1 : Lasts _ A (AmtC va ma) := ((ha.alloc (box1 va 317)).alloc (box1 vb 317)).alloc (box1 (.int .i64 s) 3)
      have h2 : Lasts _ A (AmtC vb mb) := ((hb.alloc (box1 va 317)).alloc (box1 vb 317)).alloc (box1 (.int .i64 s) 3)
      obtain ⟨n1, n2, n3, sz⟩ := three_new w (box1 va 317) (box1 vb 317) (box1 (.int .i64 s) 3)
      refine Lasts.two h1 h2 (fun k => k = w.heap.size ∨ k = w.heap.size + 1 ∨ k = w.heap.size + 1 + 1) (fun k hk => ⟨by omega, hA k (by omega)⟩) (fun K1 K2 _ _ q1 q2 W hW hk => ?_)
      refine ⟨_, _, rfl, Tryz.entPlus, fun b r pv mv hr => ?_⟩
      exact plus_run W b r pv mv hr va vb ma mb K1 K2 (q1 W hW (fun k h => hk k (Or.inl h))) (q2 W hW (fun k h => hk k (Or.inr (Or.inl h)))) _ _ _ s
        (cell_of_heap ((hk _ (Or.inr (Or.inr (Or.inl rfl)))).trans n1)) (cell_of_heap ((hk _ (Or.inr (Or.inr (Or.inr (Or.inl rfl))))).trans n2)) (cell_of_heap ((hk _ (Or.inr (Or.inr (Or.inr (Or.inr rfl))))).trans n3))

set_option maxRecDepth 100000 in
set_option maxHeartbeats 1000000 in
theorem less_run (W : World) (b : Nat) (r : Rt) (pv mv : Value) (h : RtAt W b r pv mv) (va vb : Value) (ma mb : AmtM) (Ka Kb : Nat → Prop) (ha : AmtC va ma Ka W) (hb : AmtC vb mb Kb W) (B1 B2 : Nat)
    (c1 : W.cell? ⟨B1, 0, none⟩ = some va) (c2 : W.cell? ⟨B2, 0, none⟩ = some vb) :
    Calls Tryz.prog 391 (#[ptr4 b 0] ++ #[ptr4 B1 0, ptr4 B2 0]) W fun e W' => e = .returned (condV (ltM ma mb r)) ∧ W' = W := by
  cases hB : ((ma r).isSome && (mb r).isSome) with
  | false =>
    have HB := hide (both_no W b r pv mv h va vb ma mb Ka Kb ha hb hB)
    have HN : Hid (ltM ma mb r = none) := by
      unfold Hid ltM cmpM
      cases hx : ma r with
      | none => rfl
      | some x => cases hy : mb r with
        | none => rfl
        | some y => rw [hx, hy] at hB; cases hB
    obtain ⟨g, lb, rfl⟩ := amtC_form ha
    obtain ⟨g2, lb2, rfl⟩ := amtC_form hb
    clear h ha hb hB
    go_enter Tryz.func391, Tryz.ntmps391
    go_wp2_with (go_at_call 347; refine (unhide HB).mono ?_; rintro e w' ⟨⟨x, y, rfl⟩, rfl⟩)
    go_ret2
    exact ⟨by rw [unhide HN]; rfl, rfl⟩
  | true =>
    rw [Bool.and_eq_true] at hB
    obtain ⟨x, hx⟩ := Option.isSome_iff_exists.1 hB.1
    obtain ⟨y, hy⟩ := Option.isSome_iff_exists.1 hB.2
    have HB := hide (both_yes W b r pv mv h va vb ma mb Ka Kb ha hb hx hy)
    have HE : Hid (ltM ma mb r = some (decide (x < y))) := by unfold Hid ltM cmpM; rw [hx, hy]
    obtain ⟨g, lb, rfl⟩ := amtC_form ha
    obtain ⟨g2, lb2, rfl⟩ := amtC_form hb
    clear h ha hb hB hx hy
    go_enter Tryz.func391, Tryz.ntmps391
    go_wp2_with (go_at_call 347; refine (unhide HB).mono ?_; rintro e w' ⟨rfl, rfl⟩)
    go_ret2
    exact ⟨by rw [unhide HE]; rfl, rfl⟩
set_option maxRecDepth 100000 in
set_option maxHeartbeats 1000000 in
theorem equal_run (W : World) (b : Nat) (r : Rt) (pv mv : Value) (h : RtAt W b r pv mv) (va vb : Value) (ma mb : AmtM) (Ka Kb : Nat → Prop) (ha : AmtC va ma Ka W) (hb : AmtC vb mb Kb W) (B1 B2 : Nat)
    (c1 : W.cell? ⟨B1, 0, none⟩ = some va) (c2 : W.cell? ⟨B2, 0, none⟩ = some vb) :
    Calls Tryz.prog 392 (#[ptr4 b 0] ++ #[ptr4 B1 0, ptr4 B2 0]) W fun e W' => e = .returned (condV (eqM ma mb r)) ∧ W' = W := by
  cases hB : ((ma r).isSome && (mb r).isSome) with
  | false =>
    have HB := hide (both_no W b r pv mv h va vb ma mb Ka Kb ha hb hB)
    have HN : Hid (eqM ma mb r = none) := by
      unfold Hid eqM cmpM
      cases hx : ma r with
      | none => rfl
      | some x => cases hy : mb r with
        | none => rfl
        | some y => rw [hx, hy] at hB; cases hB
    obtain ⟨g, lb, rfl⟩ := amtC_form ha
    obtain ⟨g2, lb2, rfl⟩ := amtC_form hb
    clear h ha hb hB
    go_enter Tryz.func392, Tryz.ntmps392
    go_wp2_with (go_at_call 347; refine (unhide HB).mono ?_; rintro e w' ⟨⟨x, y, rfl⟩, rfl⟩)
    go_ret2
    exact ⟨by rw [unhide HN]; rfl, rfl⟩
  | true =>
    rw [Bool.and_eq_true] at hB
    obtain ⟨x, hx⟩ := Option.isSome_iff_exists.1 hB.1
    obtain ⟨y, hy⟩ := Option.isSome_iff_exists.1 hB.2
    have HB := hide (both_yes W b r pv mv h va vb ma mb Ka Kb ha hb hx hy)
    have HE : Hid (eqM ma mb r = some (x == y)) := by
      unfold Hid eqM cmpM; rw [hx, hy]
      by_cases e : x = y
      · subst e; simp
      · simp [e]
    obtain ⟨g, lb, rfl⟩ := amtC_form ha
    obtain ⟨g2, lb2, rfl⟩ := amtC_form hb
    clear h ha hb hB hx hy
    go_enter Tryz.func392, Tryz.ntmps392
    go_wp2_with (go_at_call 347; refine (unhide HB).mono ?_; rintro e w' ⟨rfl, rfl⟩)
    go_ret2
    exact ⟨by rw [unhide HE]; rfl, rfl⟩
set_option maxRecDepth 100000 in
set_option maxHeartbeats 1000000 in
theorem less_call (w : World) (va vb : Value) (ha : FnV va) (hb : FnV vb) :
    Calls Tryz.prog 388 #[va, vb] w fun e w' => e = .returned (.func (.func 391) #[] #[ptr4 w.heap.size 0, ptr4 (w.heap.size + 1) 0]) ∧ w' = ((w.alloc (box1 va 317)).alloc (box1 vb 317)) := by
  have hmf : ∀ (fn : Fn) (first cap : Array Value) (w : World), (Instr.makeFunc fn first cap).run Tryz.prog w = .ok (.func fn first cap) w := fun _ _ _ _ => rfl
  rcases ha with ⟨f, a, b, rfl⟩ | rfl <;> rcases hb with ⟨f', a', b', rfl⟩ | rfl <;>
  · go_enter Tryz.func388, Tryz.ntmps388
    go_wp2_with fail
    go_ret
    exact ⟨rfl, rfl⟩
set_option maxRecDepth 100000 in
set_option maxHeartbeats 1000000 in
theorem equal_call (w : World) (va vb : Value) (ha : FnV va) (hb : FnV vb) :
    Calls Tryz.prog 389 #[va, vb] w fun e w' => e = .returned (.func (.func 392) #[] #[ptr4 w.heap.size 0, ptr4 (w.heap.size + 1) 0]) ∧ w' = ((w.alloc (box1 va 317)).alloc (box1 vb 317)) := by
  have hmf : ∀ (fn : Fn) (first cap : Array Value) (w : World), (Instr.makeFunc fn first cap).run Tryz.prog w = .ok (.func fn first cap) w := fun _ _ _ _ => rfl
  rcases ha with ⟨f, a, b, rfl⟩ | rfl <;> rcases hb with ⟨f', a', b', rfl⟩ | rfl <;>
  · go_enter Tryz.func389, Tryz.ntmps389
    go_wp2_with fail
    go_ret
    exact ⟨rfl, rfl⟩
theorem Tryz.entLess : Enters Tryz.prog 391 := enters_of Tryz.func391 (by kernel_rfl) rfl
theorem Tryz.entEqual : Enters Tryz.prog 392 := enters_of Tryz.func392 (by kernel_rfl) rfl
theorem less_any (w : World) (va vb : Value) (oa ob : Option AmtM) (A : Nat → Prop) (hA : ∀ k, w.heap.size ≤ k → A k) (ha : AmtO w A va oa) (hb : AmtO w A vb ob) :
    Calls Tryz.prog 388 #[va, vb] w fun e w' => ∃ v, e = .returned v ∧ w' = ((w.alloc (box1 va 317)).alloc (box1 vb 317)) ∧ CndO w' A v (cmpO ltM oa ob) := by
  refine (less_call w va vb ha.fnv hb.fnv).mono ?_
  rintro e w' ⟨rfl, rfl⟩
  refine ⟨_, rfl, rfl, ?_⟩
  cases oa with
  | none => exact Or.inl ⟨_, _, _, rfl⟩
  | some ma => cases ob with
    | none => exact Or.inl ⟨_, _, _, rfl⟩
    | some mb =>
      have h1 : Lasts _ A (AmtC va ma) := (ha.alloc (box1 va 317)).alloc (box1 vb 317)
      have h2 : Lasts _ A (AmtC vb mb) := (hb.alloc (box1 va 317)).alloc (box1 vb 317)
      obtain ⟨n1, n2, sz⟩ := two_new w (box1 va 317) (box1 vb 317)
      refine Lasts.two h1 h2 (fun k => k = w.heap.size ∨ k = w.heap.size + 1) (fun k hk => ⟨by omega, hA k (by omega)⟩) (fun K1 K2 _ _ q1 q2 W hW hk => ?_)
      refine ⟨_, _, rfl, Tryz.entLess, fun b r pv mv hr => ?_⟩
      refine (less_run W b r pv mv hr va vb ma mb K1 K2 (q1 W hW (fun k h => hk k (Or.inl h))) (q2 W hW (fun k h => hk k (Or.inr (Or.inl h)))) _ _
        (cell_of_heap ((hk _ (Or.inr (Or.inr (Or.inl rfl)))).trans n1)) (cell_of_heap ((hk _ (Or.inr (Or.inr (Or.inr rfl)))).trans n2))).mono ?_
      rintro e w' ⟨rfl, rfl⟩
      exact ⟨rfl, Below.refl _ _⟩
theorem equal_any (w : World) (va vb : Value) (oa ob : Option AmtM) (A : Nat → Prop) (hA : ∀ k, w.heap.size ≤ k → A k) (ha : AmtO w A va oa) (hb : AmtO w A vb ob) :
    Calls Tryz.prog 389 #[va, vb] w fun e w' => ∃ v, e = .returned v ∧ w' = ((w.alloc (box1 va 317)).alloc (box1 vb 317)) ∧ CndO w' A v (cmpO eqM oa ob) := by
  refine (equal_call w va vb ha.fnv hb.fnv).mono ?_
  rintro e w' ⟨rfl, rfl⟩
  refine ⟨_, rfl, rfl, ?_⟩
  cases oa with
  | none => exact Or.inl ⟨_, _, _, rfl⟩
  | some ma => cases ob with
    | none => exact Or.inl ⟨_, _, _, rfl⟩
    | some mb =>
      have h1 : Lasts _ A (AmtC va ma) := (ha.alloc (box1 va 317)).alloc (box1 vb 317)
      have h2 : Lasts _ A (AmtC vb mb) := (hb.alloc (box1 va 317)).alloc (box1 vb 317)
      obtain ⟨n1, n2, sz⟩ := two_new w (box1 va 317) (box1 vb 317)
      refine Lasts.two h1 h2 (fun k => k = w.heap.size ∨ k = w.heap.size + 1) (fun k hk => ⟨by omega, hA k (by omega)⟩) (fun K1 K2 _ _ q1 q2 W hW hk => ?_)
      refine ⟨_, _, rfl, Tryz.entEqual, fun b r pv mv hr => ?_⟩
      refine (equal_run W b r pv mv hr va vb ma mb K1 K2 (q1 W hW (fun k h => hk k (Or.inl h))) (q2 W hW (fun k h => hk k (Or.inr (Or.inl h)))) _ _
        (cell_of_heap ((hk _ (Or.inr (Or.inr (Or.inl rfl)))).trans n1)) (cell_of_heap ((hk _ (Or.inr (Or.inr (Or.inr rfl)))).trans n2))).mono ?_
      rintro e w' ⟨rfl, rfl⟩
      exact ⟨rfl, Below.refl _ _⟩
end Go.Proofs.YtgdeeodifnegiaaGreatDoor
