/- Closures of statements: what they do with a route. -/
import Derived.Test.YtgdeeodifnegiaaGreatDoorRunD
import Derived.Deep.LoopGhost
namespace Go.Proofs.YtgdeeodifnegiaaGreatDoor
open Go.RowKit

def RtOwn (b : Nat) (pv mv : Value) (k : Nat) : Prop := k = b ∨ pv.ownBlock = some k ∨ mv.ownBlock = some k
/-- what a statement leaves: its verdict, the route as it is then, nothing else written -/
def StpRes (b : Nat) (pv mv : Value) (W : World) (p : Rt × Int) (e : Ending) (W' : World) : Prop :=
  e = .returned (.int .i64 p.2) ∧ ∃ pv' mv', RtAt W' b p.1 pv' mv' ∧ Fr (RtOwn b pv mv) W (RtOwn b pv' mv') W'
def StpC (v : Value) (m : StpM) (K : Nat → Prop) (W : World) : Prop :=
  FnAt v fun g lb => ∀ (b : Nat) (r : Rt) (pv mv : Value), RtAt W b r pv mv → (∀ k, RtOwn b pv mv k → ¬ K k) → Calls Tryz.prog g (#[ptr4 b 0] ++ lb) W (StpRes b pv mv W (m r))
def StpO (w : World) (A : Nat → Prop) (v : Value) : Option StpM → Prop
  | none => FnV v
  | some m => Lasts w A (StpC v m)
theorem StpO.fnv {w : World} {A : Nat → Prop} {v : Value} {o : Option StpM} (h : StpO w A v o) : FnV v := by
  cases o with
  | none => exact h
  | some m =>
    obtain ⟨K, g, lb, h1, _⟩ := Lasts.now h
    exact Or.inl ⟨_, _, _, h1⟩
theorem StpO.fr {w w' : World} {O O' D : Nat → Prop} {n m : Nat} {v : Value} {o : Option StpM} (h : StpO w (Free O D n) v o) (hf : Fr O w O' w') (hm : m ≤ n) : StpO w' (Free O' D m) v o := by
  cases o with
  | none => exact h
  | some x => exact Lasts.fr h hf hm

set_option maxRecDepth 100000 in
set_option maxHeartbeats 1000000 in
theorem conclude_run (W : World) (B : Nat) (n : Int) (hb : W.cell? ⟨B, 0, none⟩ = some (.int .i64 n)) (b : Nat) (r : Rt) (pv mv : Value) (h : RtAt W b r pv mv) :
    Calls Tryz.prog 269 (#[ptr4 b 0] ++ #[ptr4 B 0]) W (StpRes b pv mv W (concludeM n r)) := by
  have HR := hide h
  clear h
  go_enter Tryz.func269, Tryz.ntmps269
  go_wp2_with fail
  go_ret
  exact ⟨rfl, pv, mv, unhide HR, Fr.refl _ _⟩
theorem RtAt.put {W : World} {b o : Nat} {r r' : Rt} {pv mv v : Value} (h : RtAt W b r pv mv) (hp : r'.path = r.path) (hm : r'.marks = r.marks)
    (hc : (#[.int .i64 r.addr, .int .i64 r.len, pv, mv, .int .i64 r.pref, .int .i64 r.med] : Array Value).setIfInBounds o v = #[.int .i64 r'.addr, .int .i64 r'.len, pv, mv, .int .i64 r'.pref, .int .i64 r'.med]) :
    RtAt (W.setCell ⟨b, o, none⟩ v) b r' pv mv := by
  refine ⟨by rw [heap_set h.blk, hc], ?_, ?_, h.ne1, h.ne2, h.ne3, by rw [hp]; exact h.n1, by rw [hm]; exact h.n2, by rw [hm]; exact h.srt⟩
  · rw [hp]; exact owns_of h.path (fun k e => heap_set_other (fun e2 => h.ne1 (by rw [e, e2])))
  · rw [hm]; exact owns_of h.marks (fun k e => heap_set_other (fun e2 => h.ne2 (by rw [e, e2])))
set_option maxRecDepth 100000 in
set_option maxHeartbeats 1000000 in
theorem setPref_run (W : World) (b : Nat) (r : Rt) (pv mv : Value) (h : RtAt W b r pv mv) (va : Value) (ma : AmtM) (Ka : Nat → Prop) (ha : AmtC va ma Ka W) (B1 B2 : Nat)
    (c1 : W.cell? ⟨B1, 0, none⟩ = some va) (c2 : W.cell? ⟨B2, 0, none⟩ = some (.func (.func 221) #[] #[])) :
    Calls Tryz.prog 270 (#[ptr4 b 0] ++ #[ptr4 B1 0, ptr4 B2 0]) W (StpRes b pv mv W (setPrefM ma r)) := by
  obtain ⟨g, lb, rfl, eg, hc⟩ := ha
  have e1 := enters_fn eg
  have HA := hide (hc b r pv mv h)
  have HR := hide h
  have c4 : W.cell? ⟨b, 4, none⟩ = some (.int .i64 r.pref) := cell_of_heap h.blk
  have z4 : W.frozen? ⟨b, 4, none⟩ = false := frozen_of_heap h.blk
  clear hc h eg
  have EQ := hide (show setPrefM ma r = (match ma r with | none => (r, 3) | some n => ({ r with pref := n }, 0)) from rfl)
  cases hx : ma r with
  | none =>
    rw [hx] at HA EQ
    have HA' : Hid (Calls Tryz.prog g (#[ptr4 b 0] ++ lb) W fun e W' => e = .returned (.tuple #[.int .i64 0, .bool false]) ∧ W' = W) := HA
    clear HA
    go_enter Tryz.func270, Tryz.ntmps270
    go_wp2_with (go_at_fn g; refine (unhide HA').mono ?_; rintro e w1 ⟨rfl, rfl⟩)
    go_ret
    rw [unhide EQ]
    exact ⟨rfl, pv, mv, unhide HR, Fr.refl _ _⟩
  | some x =>
    rw [hx] at HA EQ
    have HA' : Hid (Calls Tryz.prog g (#[ptr4 b 0] ++ lb) W fun e W' => e = .returned (.tuple #[.int .i64 x, .bool true]) ∧ W' = W) := HA
    clear HA
    go_enter Tryz.func270, Tryz.ntmps270
    go_wp2_with (first | (go_at_fn g; refine (unhide HA').mono ?_; rintro e w1 ⟨rfl, rfl⟩) | go_in)
    go_end0
    go_wp2_with fail
    go_ret
    rw [unhide EQ]
    exact ⟨rfl, pv, mv, (unhide HR).put rfl rfl rfl, (Fr.refl _ _).setCell (Or.inl (Or.inl rfl)) _⟩
set_option maxRecDepth 100000 in
set_option maxHeartbeats 1000000 in
theorem setMed_run (W : World) (b : Nat) (r : Rt) (pv mv : Value) (h : RtAt W b r pv mv) (va : Value) (ma : AmtM) (Ka : Nat → Prop) (ha : AmtC va ma Ka W) (B1 B2 : Nat)
    (c1 : W.cell? ⟨B1, 0, none⟩ = some va) (c2 : W.cell? ⟨B2, 0, none⟩ = some (.func (.func 222) #[] #[])) :
    Calls Tryz.prog 270 (#[ptr4 b 0] ++ #[ptr4 B1 0, ptr4 B2 0]) W (StpRes b pv mv W (setMedM ma r)) := by
  obtain ⟨g, lb, rfl, eg, hc⟩ := ha
  have e1 := enters_fn eg
  have HA := hide (hc b r pv mv h)
  have HR := hide h
  have c4 : W.cell? ⟨b, 5, none⟩ = some (.int .i64 r.med) := cell_of_heap h.blk
  have z4 : W.frozen? ⟨b, 5, none⟩ = false := frozen_of_heap h.blk
  clear hc h eg
  have EQ := hide (show setMedM ma r = (match ma r with | none => (r, 3) | some n => ({ r with med := n }, 0)) from rfl)
  cases hx : ma r with
  | none =>
    rw [hx] at HA EQ
    have HA' : Hid (Calls Tryz.prog g (#[ptr4 b 0] ++ lb) W fun e W' => e = .returned (.tuple #[.int .i64 0, .bool false]) ∧ W' = W) := HA
    clear HA
    go_enter Tryz.func270, Tryz.ntmps270
    go_wp2_with (go_at_fn g; refine (unhide HA').mono ?_; rintro e w1 ⟨rfl, rfl⟩)
    go_ret
    rw [unhide EQ]
    exact ⟨rfl, pv, mv, unhide HR, Fr.refl _ _⟩
  | some x =>
    rw [hx] at HA EQ
    have HA' : Hid (Calls Tryz.prog g (#[ptr4 b 0] ++ lb) W fun e W' => e = .returned (.tuple #[.int .i64 x, .bool true]) ∧ W' = W) := HA
    clear HA
    go_enter Tryz.func270, Tryz.ntmps270
    go_wp2_with (first | (go_at_fn g; refine (unhide HA').mono ?_; rintro e w1 ⟨rfl, rfl⟩) | go_in)
    go_end0
    go_wp2_with fail
    go_ret
    rw [unhide EQ]
    exact ⟨rfl, pv, mv, (unhide HR).put rfl rfl rfl, (Fr.refl _ _).setCell (Or.inl (Or.inl rfl)) _⟩

theorem cell1 {W w : World} {k : Nat} {v : Value} {T : TypeId} (hk : W.heap[k]? = w.heap[k]?) (h : w.heap[k]? = some (box1 v T)) : W.cell? ⟨k, 0, none⟩ = some v := cell_of_heap (hk.trans h)
set_option maxRecDepth 100000 in
set_option maxHeartbeats 1000000 in
theorem conclude_call (w : World) (n : Int) :
    Calls Tryz.prog 218 #[.int .i64 n] w fun e w' => e = .returned (.func (.func 269) #[] #[ptr4 w.heap.size 0]) ∧ w' = w.alloc (box1 (.int .i64 n) 3) := by
  have hmf : ∀ (fn : Fn) (first cap : Array Value) (w : World), (Instr.makeFunc fn first cap).run Tryz.prog w = .ok (.func fn first cap) w := fun _ _ _ _ => rfl
  go_enter Tryz.func218, Tryz.ntmps218
  go_wp2_with fail
  go_ret
  exact ⟨rfl, rfl⟩
theorem Tryz.entConclude : Enters Tryz.prog 269 := enters_of Tryz.func269 (by kernel_rfl) rfl
theorem conclude_any (w : World) (n : Int) (A : Nat → Prop) (hA : ∀ k, w.heap.size ≤ k → A k) :
    Calls Tryz.prog 218 #[.int .i64 n] w fun e w' => ∃ v, e = .returned v ∧ w' = w.alloc (box1 (.int .i64 n) 3) ∧ StpO w' A v (some (concludeM n)) := by
  refine (conclude_call w n).mono ?_
  rintro e w' ⟨rfl, rfl⟩
  refine ⟨_, rfl, rfl, Lasts.new (fun k => k = w.heap.size) (fun k hk => ⟨by subst hk; simp, hA k (by omega)⟩) (fun W hW hk => ?_)⟩
  exact ⟨_, _, rfl, Tryz.entConclude, fun b r pv mv hr _ => conclude_run W _ n (cell1 (hk _ rfl) (heap_alloc_new w _)) b r pv mv hr⟩
set_option maxRecDepth 100000 in
set_option maxHeartbeats 1000000 in
theorem assign_call (w : World) (va vb : Value) (ha : FnV va) (hb : FnV vb) :
    Calls Tryz.prog 219 #[va, vb] w fun e w' => e = .returned (.func (.func 270) #[] #[ptr4 w.heap.size 0, ptr4 (w.heap.size + 1) 0]) ∧ w' = ((w.alloc (box1 va 317)).alloc (box1 vb 319)) := by
  have hmf : ∀ (fn : Fn) (first cap : Array Value) (w : World), (Instr.makeFunc fn first cap).run Tryz.prog w = .ok (.func fn first cap) w := fun _ _ _ _ => rfl
  rcases ha with ⟨f, a, b, rfl⟩ | rfl <;> rcases hb with ⟨f', a', b', rfl⟩ | rfl <;>
  · go_enter Tryz.func219, Tryz.ntmps219
    go_wp2_with fail
    go_ret
    exact ⟨rfl, rfl⟩
theorem Tryz.entAssign : Enters Tryz.prog 270 := enters_of Tryz.func270 (by kernel_rfl) rfl
theorem assign_any (w : World) (va : Value) (oa : Option AmtM) (g : Nat) (m : AmtM → StpM) (A : Nat → Prop) (hA : ∀ k, w.heap.size ≤ k → A k) (ha : AmtO w A va oa)
    (hrun : ∀ (W : World) (b : Nat) (r : Rt) (pv mv : Value) (ma : AmtM) (Ka : Nat → Prop), RtAt W b r pv mv → AmtC va ma Ka W → W.cell? ⟨w.heap.size, 0, none⟩ = some va → W.cell? ⟨w.heap.size + 1, 0, none⟩ = some (.func (.func g) #[] #[]) →
      Calls Tryz.prog 270 (#[ptr4 b 0] ++ #[ptr4 w.heap.size 0, ptr4 (w.heap.size + 1) 0]) W (StpRes b pv mv W (m ma r))) :
    Calls Tryz.prog 219 #[va, .func (.func g) #[] #[]] w fun e w' => ∃ v, e = .returned v ∧ w' = ((w.alloc (box1 va 317)).alloc (box1 (.func (.func g) #[] #[]) 319)) ∧ StpO w' A v (oa.map m) := by
  refine (assign_call w va (.func (.func g) #[] #[]) ha.fnv (Or.inl ⟨_, _, _, rfl⟩)).mono ?_
  rintro e w' ⟨rfl, rfl⟩
  refine ⟨_, rfl, rfl, ?_⟩
  cases oa with
  | none => exact Or.inl ⟨_, _, _, rfl⟩
  | some ma =>
    have h1 : Lasts _ A (AmtC va ma) := (ha.alloc (box1 va 317)).alloc (box1 (.func (.func g) #[] #[]) 319)
    obtain ⟨n1, n2, sz⟩ := two_new w (box1 va 317) (box1 (.func (.func g) #[] #[]) 319)
    refine Lasts.one h1 (fun k => k = w.heap.size ∨ k = w.heap.size + 1) (fun k hk => ⟨by omega, hA k (by omega)⟩) (fun K1 _ q1 W hW hk => ?_)
    refine ⟨_, _, rfl, Tryz.entAssign, fun b r pv mv hr _ => ?_⟩
    exact hrun W b r pv mv ma K1 hr (q1 W hW (fun k h => hk k (Or.inl h))) (cell1 (hk _ (Or.inr (Or.inl rfl))) n1) (cell1 (hk _ (Or.inr (Or.inr rfl))) n2)
theorem assignPref_any (w : World) (va : Value) (oa : Option AmtM) (A : Nat → Prop) (hA : ∀ k, w.heap.size ≤ k → A k) (ha : AmtO w A va oa) :
    Calls Tryz.prog 219 #[va, .func (.func 221) #[] #[]] w fun e w' => ∃ v, e = .returned v ∧ w' = ((w.alloc (box1 va 317)).alloc (box1 (.func (.func 221) #[] #[]) 319)) ∧ StpO w' A v (oa.map setPrefM) :=
  assign_any w va oa _ setPrefM A hA ha (fun W b r pv mv ma Ka h1 h2 h3 h4 => setPref_run W b r pv mv h1 va ma Ka h2 _ _ h3 h4)
theorem assignMed_any (w : World) (va : Value) (oa : Option AmtM) (A : Nat → Prop) (hA : ∀ k, w.heap.size ≤ k → A k) (ha : AmtO w A va oa) :
    Calls Tryz.prog 219 #[va, .func (.func 222) #[] #[]] w fun e w' => ∃ v, e = .returned v ∧ w' = ((w.alloc (box1 va 317)).alloc (box1 (.func (.func 222) #[] #[]) 319)) ∧ StpO w' A v (oa.map setMedM) :=
  assign_any w va oa _ setMedM A hA ha (fun W b r pv mv ma Ka h1 h2 h3 h4 => setMed_run W b r pv mv h1 va ma Ka h2 _ _ h3 h4)

/-- a list of statements in memory, which lies in K -/
def RowV (W : World) (K : Nat → Prop) (sv : Value) (vs : List Value) : Prop :=
  (vs = [] ∧ sv = .slice none 0 0) ∨ ∃ S cap, sv = .slice (some ⟨S, 0, none⟩) vs.length cap ∧ K S ∧ ∀ i v, vs[i]? = some v → W.cell? ⟨S, i, none⟩ = some v
def StepsC (sv : Value) (ms : List StpM) (K : Nat → Prop) (W : World) : Prop :=
  ms.length ≤ 1000000 ∧ ∃ vs : List Value, vs.length = ms.length ∧ RowV W K sv vs ∧ ∀ (i : Nat) (v : Value) (m : StpM), vs[i]? = some v → ms[i]? = some m → StpC v m K W
set_option maxRecDepth 100000 in
set_option maxHeartbeats 1000000 in
theorem perform_run (w0 : World) (K : Nat → Prop) (sv : Value) (ms : List StpM) (hK : ∀ k, K k → k < w0.heap.size) (HS : ∀ V, w0.heap.size ≤ V.heap.size → (∀ k, K k → V.heap[k]? = w0.heap[k]?) → StepsC sv ms K V)
    (W : World) (hW : w0.heap.size ≤ W.heap.size) (hag : ∀ k, K k → W.heap[k]? = w0.heap[k]?) (b : Nat) (r : Rt) (pv mv : Value) (h : RtAt W b r pv mv) (hd : ∀ k, RtOwn b pv mv k → ¬ K k) :
    Calls Tryz.prog 149 #[sv, ptr4 b 0] W (StpRes b pv mv W (performM ms r)) := by
  obtain ⟨hl, vs0, hvl, hrow, _⟩ := HS W hW hag
  have H0 := hide (show RtAt W b r pv mv from h)
  have HKK := hide hK
  have HSS := hide HS
  have HD := hide hd
  have HAG := hide hag
  clear h hK HS hd hag
  obtain ⟨sa, sc, hsv⟩ : ∃ a c, sv = .slice a ms.length c := by
    rcases hrow with ⟨h1, h2⟩ | ⟨S, cap, h1, _⟩
    · exact ⟨none, 0, by rw [h2, ← hvl, h1]; rfl⟩
    · exact ⟨_, cap, by rw [h1, hvl]⟩
  have HROW := hide hrow
  clear hrow
  subst hsv
  go_enter Tryz.func149, Tryz.ntmps149
  go_wp2_with fail
  generalize hN : ms.length = N at *
  go_loopg [10] N (fun k i wr => ∃ (j : Nat) (rj : Rt) (pj mj : Value), i = .int .i64 (j : Int) ∧ j + k = N ∧ RtAt wr b rj pj mj ∧ Fr (RtOwn b pv mv) W (RtOwn b pj mj) wr ∧ performM (ms.drop j) rj = performM ms r)
  case atStart => exact ⟨0, r, pv, mv, rfl, by omega, unhide H0, Fr.refl _ _, rfl⟩
  case round =>
    clear HROW
    obtain ⟨j, rj, pj, mj, rfl, hjk, hrt, hf, hpf⟩ := hrel
    have hagr : ∀ k, K k → wr.heap[k]? = w0.heap[k]? := fun k hk => (hf.block k (Nat.lt_of_lt_of_le ((unhide HKK) k hk) hW) (fun ho => (unhide HD) k ho hk)).trans ((unhide HAG) k hk)
    have hdj : ∀ k, RtOwn b pj mj k → ¬ K k := fun k ho hk => by
      rcases hf.own k ho with h1 | h1
      · exact (unhide HD) k h1 hk
      · have := (unhide HKK) k hk; omega
    have HF := hide hf
    have HRT := hide hrt
    have HPF := hide hpf
    by_cases hj : j < N
    · obtain ⟨_, vs, hvl', hrow, hst⟩ := (unhide HSS) wr (Nat.le_trans hW hf.size) hagr
      have hj' : j < vs.length := by omega
      have hjm : j < ms.length := by omega
      have hv : vs[j]? = some vs[j] := List.getElem?_eq_getElem hj'
      have hm : ms[j]? = some ms[j] := List.getElem?_eq_getElem hjm
      obtain ⟨g, lb, hvj, eg, hc⟩ := hst j _ _ hv hm
      have hdrop : ms.drop j = ms[j] :: ms.drop (j + 1) := List.drop_eq_getElem_cons hjm
      have HC := hide (hc b rj pj mj hrt hdj)
      have e1 := enters_fn eg
      rcases hrow with ⟨h1, _⟩ | ⟨S, cap, h1, _, hcell⟩
      · rw [h1] at hj'; simp at hj'
      injection h1 with h2 h3 h4
      subst h2 h4
      have hcl : wr.cell? ⟨S, j, none⟩ = some (.func (.func g) #[] lb) := (hcell j _ hv).trans (by rw [hvj])
      have HDR := hide hdrop
      generalize hmj : ms[j] = mjj at *
      clear hcell hst hc eg hvj hm hv h3 hrt hf hpf hagr hdj hdrop
      by_cases hz : (mjj rj).2 = 0
      · have HM := hide (show performM (ms.drop j) rj = performM (ms.drop (j + 1)) (mjj rj).1 by rw [unhide HDR, performM, if_pos hz])
        have HC' : Hid (Calls Tryz.prog g (#[ptr4 b 0] ++ lb) wr fun e W' => e = .returned (.int .i64 0) ∧ ∃ pv' mv', RtAt W' b (mjj rj).1 pv' mv' ∧ Fr (RtOwn b pj mj) wr (RtOwn b pv' mv') W') := by
          unfold Hid; rw [← hz]; exact unhide HC
        clear HC
        go_wp2_with (go_at_fn g; refine (unhide HC').mono ?_; rintro e w1 ⟨rfl, pv1, mv1, hr1, hf1⟩; have HR1 := hide hr1; have HF1 := hide hf1; clear hr1 hf1)
        go_roundg (N - (j + 1))
        case measure => omega
        case rel => exact ⟨j + 1, _, pv1, mv1, by simp, by omega, unhide HR1, (unhide HF).trans (unhide HF1), (unhide HM).symm.trans (unhide HPF)⟩
      · have HM := hide (show performM (ms.drop j) rj = mjj rj by rw [unhide HDR, performM, if_neg hz])
        have hne : ((mjj rj).2 != 0) = true := by simpa using hz
        have HC' : Hid (Calls Tryz.prog g (#[ptr4 b 0] ++ lb) wr fun e W' => e = .returned (.int .i64 (mjj rj).2) ∧ ∃ pv' mv', RtAt W' b (mjj rj).1 pv' mv' ∧ Fr (RtOwn b pj mj) wr (RtOwn b pv' mv') W') := HC
        clear HC
        go_wp2_with (go_at_fn g; refine (unhide HC').mono ?_; rintro e w1 ⟨rfl, pv1, mv1, hr1, hf1⟩; have HR1 := hide hr1; have HF1 := hide hf1; clear hr1 hf1)
        go_ret
        rw [← unhide HPF, unhide HM]
        exact ⟨rfl, pv1, mv1, unhide HR1, (unhide HF).trans (unhide HF1)⟩
    · have hdn : ms.drop j = [] := List.drop_eq_nil_of_le (by omega)
      have HM := hide (show performM (ms.drop j) rj = (rj, 0) by rw [hdn, performM])
      clear hrt hf hpf hagr hdj hdn
      go_wp2_with fail
      go_ret
      rw [← unhide HPF, unhide HM]
      exact ⟨rfl, pj, mj, unhide HRT, unhide HF⟩
end Go.Proofs.YtgdeeodifnegiaaGreatDoor
