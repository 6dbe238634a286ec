/- Sets of nets: span, union (package policy), nets.Within. -/
import Derived.Test.YtgdeeodifnegiaaGreatDoorRunE
import Derived.Test.YtgdeeodifnegiaaGreatDoorRdrM
namespace Go.Proofs.YtgdeeodifnegiaaGreatDoor
open Go.RowKit

/-- the first bits of an address are those of a prefix -/
def withinM (a l pa pl : Int) : Bool := decide (pl ≤ l) && (bits .xor .i64 a pa / 2 ^ (32 - pl).toNat == 0)
def spanM (pa pl lo hi : Int) : SetM := fun a l => decide (lo ≤ l) && (decide (l ≤ hi) && withinM a l pa pl)
def unionM (ms : List SetM) : SetM := fun a l => ms.any (fun m => m a l)
abbrev netV (a l : Int) : Value := .agg #[.int .i64 a, .int .i64 l]
abbrev netBlk (a l : Int) : Obj := .cells #[.int .i64 a, .int .i64 l] 25
set_option maxRecDepth 100000 in
set_option maxHeartbeats 1000000 in
theorem netWithin_any (a l pa pl : Int) (h0 : 0 ≤ pl) (h1 : pl ≤ 32) (w : World) :
    Calls Tryz.prog 333 #[netV a l, netV pa pl] w fun e w' => e = .returned (.bool (withinM a l pa pl)) ∧ Below w.heap.size w w' := by
  have hbe : Below w.heap.size w ((w.alloc (netBlk a l)).alloc (netBlk pa pl)) := ((Below.refl _ _).alloc (Nat.le_refl _) _).alloc (by simp) _
  have HB := hide hbe
  clear hbe
  have HM : Hid (withinM a l pa pl = (decide (pl ≤ l) && (bits .xor .i64 a pa / 2 ^ (32 - pl).toNat == 0))) := rfl
  go_enter Tryz.func333, Tryz.ntmps333
  go_wp2_with fail
  all_goals
    go_ret
    refine ⟨rt_bool ?_, unhide HB⟩
    rw [unhide HM]
    simp_all
    try omega
set_option maxRecDepth 100000 in
set_option maxHeartbeats 1000000 in
theorem span_run (W : World) (B1 B2 B3 : Nat) (pa pl lo hi : Int) (h0 : 0 ≤ pl) (h1 : pl ≤ 32) (c1 : W.heap[B1]? = some (box1 (.int .i64 lo) 3)) (c2 : W.heap[B2]? = some (box1 (.int .i64 hi) 3)) (c3 : W.heap[B3]? = some (netBlk pa pl)) (V : World) (hV : Below W.heap.size W V) (a l : Int) :
    Calls Tryz.prog 332 (#[netV a l] ++ #[ptr4 B1 0, ptr4 B2 0, ptr4 B3 0]) V fun e V' => e = .returned (.bool (spanM pa pl lo hi a l)) ∧ Below V.heap.size V V' := by
  have d1 := (hV.block B1 (heap_lt c1)).trans c1
  have d2 := (hV.block B2 (heap_lt c2)).trans c2
  have d3 := (hV.block B3 (heap_lt c3)).trans c3
  have l1 := heap_lt d1
  have l2 := heap_lt d2
  have l3 := heap_lt d3
  have e1 : V.cell? ⟨B1, 0, none⟩ = some (.int .i64 lo) := cell_of_heap d1
  have e2 : V.cell? ⟨B2, 0, none⟩ = some (.int .i64 hi) := cell_of_heap d2
  have e3 : V.cell? ⟨B3, 0, none⟩ = some (.int .i64 pa) := cell_of_heap d3
  have e4 : V.cell? ⟨B3, 1, none⟩ = some (.int .i64 pl) := cell_of_heap d3
  have HW := hide (netWithin_any a l pa pl h0 h1 (V.alloc (netBlk a l)))
  have HM : Hid (spanM pa pl lo hi a l = (decide (lo ≤ l) && (decide (l ≤ hi) && withinM a l pa pl))) := rfl
  have HB := hide ((Below.refl V.heap.size V).alloc (Nat.le_refl _) (netBlk a l))
  clear d1 d2 d3 c1 c2 c3 hV
  generalize withinM a l pa pl = M at *
  go_enter Tryz.func332, Tryz.ntmps332
  go_wp2_with (go_at_call 333; refine (unhide HW).mono ?_; rintro e w1 ⟨rfl, hb1⟩; have HB1 := hide hb1; clear hb1)
  all_goals
    go_ret
    refine ⟨rt_bool ?_, ?_⟩
    · rw [unhide HM]
      simp_all
      try omega
    · first
        | exact unhide HB
        | exact (unhide HB).trans ((unhide HB1).mono (unhide HB).size)
theorem Tryz.entSpan : Enters Tryz.prog 332 := enters_of Tryz.func332 (by kernel_rfl) rfl
theorem Tryz.entUnion : Enters Tryz.prog 303 := enters_of Tryz.func303 (by kernel_rfl) rfl
abbrev spanW (w : World) (pa pl lo hi : Int) : World := ((w.alloc (netBlk pa pl)).alloc (box1 (.int .i64 lo) 3)).alloc (box1 (.int .i64 hi) 3)
set_option maxRecDepth 100000 in
set_option maxHeartbeats 1000000 in
theorem span_call (w : World) (pa pl lo hi : Int) :
    Calls Tryz.prog 301 #[netV pa pl, .int .i64 lo, .int .i64 hi] w fun e w' => e = .returned (.func (.func 332) #[] #[ptr4 (w.heap.size + 1) 0, ptr4 (w.heap.size + 2) 0, ptr4 w.heap.size 0]) ∧ w' = spanW w pa pl lo hi := by
  have hmf : ∀ (fn : Fn) (first cap : Array Value) (w : World), (Instr.makeFunc fn first cap).run Tryz.prog w = .ok (.func fn first cap) w := fun _ _ _ _ => rfl
  go_enter Tryz.func301, Tryz.ntmps301
  go_wp2_with fail
  go_ret
  exact ⟨rfl, rfl⟩
/-- a set's closure, whatever writes come later -/
abbrev SetL (w : World) (A : Nat → Prop) (v : Value) (m : SetM) : Prop := Lasts w A (SetC v m)
theorem span_said (w : World) (pa pl lo hi : Int) (h0 : 0 ≤ pl) (h1 : pl ≤ 32) (A : Nat → Prop) (hA : ∀ k, w.heap.size ≤ k → A k) :
    Calls Tryz.prog 301 #[netV pa pl, .int .i64 lo, .int .i64 hi] w fun e w' => ∃ v, e = .returned v ∧ FnV v ∧ w' = spanW w pa pl lo hi ∧ SetL w' A v (spanM pa pl lo hi) := by
  refine (span_call w pa pl lo hi).mono ?_
  rintro e w' ⟨rfl, rfl⟩
  obtain ⟨n1, n2, n3, sz⟩ := three_new w (netBlk pa pl) (box1 (.int .i64 lo) 3) (box1 (.int .i64 hi) 3)
  refine ⟨_, rfl, Or.inl ⟨_, _, _, rfl⟩, rfl, Lasts.new (fun k => w.heap.size ≤ k ∧ k < w.heap.size + 3) (fun k hk => ⟨by show k < (spanW w pa pl lo hi).heap.size; rw [sz]; exact hk.2, hA k hk.1⟩) (fun W hW hk => ?_)⟩
  exact ⟨_, _, rfl, Tryz.entSpan, fun V a l hV => span_run W _ _ _ pa pl lo hi h0 h1 ((hk _ ⟨by omega, by omega⟩).trans n2) ((hk _ ⟨by omega, by omega⟩).trans n3) ((hk _ ⟨by omega, by omega⟩).trans n1) V hV a l⟩
/-! ## union -/
def SetsC (sv : Value) (ms : List SetM) (K : Nat → Prop) (W : World) : Prop :=
  ms.length ≤ 1000000 ∧ ∃ vs : List Value, vs.length = ms.length ∧ RowV W K sv vs ∧ ∀ (i : Nat) (v : Value) (m : SetM), vs[i]? = some v → ms[i]? = some m → SetC v m K W
set_option maxRecDepth 100000 in
set_option maxHeartbeats 2000000 in
theorem union_run (W : World) (B : Nat) (sv : Value) (ms : List SetM) (K : Nat → Prop) (hK : ∀ k, K k → k < W.heap.size) (hb : W.cell? ⟨B, 0, none⟩ = some sv) (hs : SetsC sv ms K W) (V : World) (hV : Below W.heap.size W V) (a l : Int) :
    Calls Tryz.prog 303 (#[netV a l] ++ #[ptr4 B 0]) V fun e V' => e = .returned (.bool (unionM ms a l)) ∧ Below V.heap.size V V' := by
  obtain ⟨hl, vs, hvl, hrow, hst⟩ := hs
  have lB := cell_lt hb
  have hbV := (hV.cell (p := ⟨B, 0, none⟩) lB).trans hb
  have lBV : B < V.heap.size := Nat.lt_of_lt_of_le lB hV.size
  obtain ⟨sa, sc, hsv⟩ : ∃ a c, sv = .slice a ms.length c := by
    rcases hrow with ⟨h1, h2⟩ | ⟨S, cap, h1, _⟩
    · exact ⟨none, 0, by rw [h2, ← hvl, h1]; rfl⟩
    · exact ⟨_, cap, by rw [h1, hvl]⟩
  have HST := hide hst
  have HROW := hide hrow
  have HV := hide hV
  have HKK := hide hK
  obtain ⟨V0, hV0⟩ : ∃ V0, V.alloc (netBlk a l) = V0 := ⟨_, rfl⟩
  have hn0 : V0.heap[V.heap.size]? = some (netBlk a l) := by rw [← hV0]; exact heap_alloc_new V _
  have hB0 : Below V.heap.size V V0 := by rw [← hV0]; exact (Below.refl _ _).alloc (Nat.le_refl _) _
  have hbV0 := (hB0.cell (p := ⟨B, 0, none⟩) lBV).trans hbV
  have HN0 := hide hn0
  have HB0 := hide hB0
  have hs0 : V.heap.size < V0.heap.size := heap_lt hn0
  have hWV := hV.size
  have HU : Hid (unionM ms a l = ms.any (fun m => m a l)) := rfl
  clear hst hrow hV hn0 hB0 hK hb
  subst hsv
  unfold netBlk at hV0
  go_enter Tryz.func303, Tryz.ntmps303
  go_wp2_with fail
  clear hV0
  generalize hN : ms.length = N at *
  go_loopw [8] (fun i wr => ∃ j : Nat, j ≤ N ∧ i = .int .i64 (j : Nat) ∧ Hid (∀ i m, i < j → ms[i]? = some m → m a l = false) ∧ Below V0.heap.size V0 wr) (fun i _ => N - (intOf i).toNat)
  case atStart => exact ⟨0, Nat.zero_le _, rfl, fun i m hi => absurd hi (Nat.not_lt_zero _), Below.refl _ _⟩
  case round =>
    obtain ⟨j, hj, rfl, HF, hbl⟩ := hrel
    have HBL := hide hbl
    have hsz := hbl.size
    clear hbl
    by_cases hlt : j < N
    · have hj' : j < vs.length := by omega
      have hjm : j < ms.length := by omega
      have hv : vs[j]? = some vs[j] := List.getElem?_eq_getElem hj'
      have hm : ms[j]? = some ms[j] := List.getElem?_eq_getElem hjm
      obtain ⟨g, lb, hvj, eg, hc⟩ := (unhide HST) j _ _ hv hm
      have e1 := enters_fn eg
      rcases unhide HROW with ⟨h1, _⟩ | ⟨S, cap, h1, hKS, hcell⟩
      · rw [h1] at hj'; simp at hj'
      injection h1 with h2 h3 h4
      subst h2 h4
      have hWr : Below W.heap.size W wr := (unhide HV).trans (((unhide HB0).trans ((unhide HBL).mono (Nat.le_of_lt hs0))).mono hWV)
      have hcl : wr.cell? ⟨S, j, none⟩ = some (.func (.func g) #[] lb) := (hWr.cell (p := ⟨S, j, none⟩) ((unhide HKK) S hKS)).trans ((hcell j _ hv).trans (by rw [hvj]))
      have hnb := ((unhide HBL).block V.heap.size hs0).trans (unhide HN0)
      have n0 : wr.cell? ⟨V.heap.size, 0, none⟩ = some (.int .i64 a) := cell_of_heap hnb
      have n1 : wr.cell? ⟨V.heap.size, 1, none⟩ = some (.int .i64 l) := cell_of_heap hnb
      have HC := hide (hc wr a l hWr)
      have HJ := hide hm
      generalize ms[j] = mj at *
      clear hcell hc eg hvj hm hv h3 hWr hnb
      cases hx : mj a l with
      | true =>
        rw [hx] at HC
        have hU : unionM ms a l = true := by
          rw [unhide HU, List.any_eq_true]
          exact ⟨mj, List.mem_of_getElem? (unhide HJ), hx⟩
        have HU2 := hide hU
        clear hU
        go_wp2_with (go_at_fn g; refine (unhide HC).mono ?_; rintro e w1 ⟨rfl, hb1⟩; have HB1 := hide hb1; clear hb1)
        go_ret
        refine ⟨rt_bool (unhide HU2).symm, ?_⟩
        have hA := (unhide HB0).trans ((unhide HBL).mono (Nat.le_of_lt hs0))
        exact hA.trans ((unhide HB1).mono hA.size)
      | false =>
        rw [hx] at HC
        go_wp2_with (go_at_fn g; refine (unhide HC).mono ?_; rintro e w1 ⟨rfl, hb1⟩; have HB1 := hide hb1; clear hb1)
        go_roundw
        case rel =>
          refine ⟨j + 1, by omega, by go_num, fun i m hi hm => ?_, (unhide HBL).trans ((unhide HB1).mono (unhide HBL).size)⟩
          rcases Nat.lt_or_ge i j with h1 | h1
          · exact (unhide HF) i m h1 hm
          · obtain rfl : i = j := by omega
            rw [unhide HJ] at hm
            cases hm; exact hx
        case measure => simp [intOf]; omega
    · have hU : unionM ms a l = false := by
        rw [unhide HU, List.any_eq_false]
        intro m hm
        obtain ⟨i, hi, rfl⟩ := List.mem_iff_getElem.1 hm
        have := (unhide HF) i ms[i] (by omega) (List.getElem?_eq_getElem hi)
        simp [this]
      have HU2 := hide hU
      clear hU
      go_wp2_with fail
      go_ret
      exact ⟨rt_bool (unhide HU2).symm, (unhide HB0).trans ((unhide HBL).mono (Nat.le_of_lt hs0))⟩
set_option maxRecDepth 100000 in
set_option maxHeartbeats 1000000 in
theorem union_call (w : World) (a : Option Addr) (n c : Nat) :
    Calls Tryz.prog 261 #[.slice a n c] w fun e w' => e = .returned (.func (.func 303) #[] #[ptr4 w.heap.size 0]) ∧ w' = w.alloc (box1 (.slice a n c) 350) := by
  have hmf : ∀ (fn : Fn) (first cap : Array Value) (w : World), (Instr.makeFunc fn first cap).run Tryz.prog w = .ok (.func fn first cap) w := fun _ _ _ _ => rfl
  go_enter Tryz.func261, Tryz.ntmps261
  go_wp2_with fail
  go_ret
  exact ⟨rfl, rfl⟩
end Go.Proofs.YtgdeeodifnegiaaGreatDoor

namespace Go.Proofs.YtgdeeodifnegiaaGreatDoor
open Go.RowKit

/-- the nets of the tokens -/
def LenOk (ts : List TokP) : Prop := ∀ t ∈ ts, 0 ≤ t.len ∧ t.len ≤ 32
def oneRangeR (ts : List TokP) (st : RS) : RS × SetM :=
  if kindR ts (takeR ts 3 st).1 = 2 then
    ((withinR ts (withinR ts (takeR ts 3 st).2.len 32 (takeR ts 3 st).1).2 32 (withinR ts (takeR ts 3 st).2.len 32 (takeR ts 3 st).1).1).1,
      spanM (takeR ts 3 st).2.addr (takeR ts 3 st).2.len (withinR ts (takeR ts 3 st).2.len 32 (takeR ts 3 st).1).2 (withinR ts (withinR ts (takeR ts 3 st).2.len 32 (takeR ts 3 st).1).2 32 (withinR ts (takeR ts 3 st).2.len 32 (takeR ts 3 st).1).1).2)
  else ((takeR ts 3 st).1, spanM (takeR ts 3 st).2.addr (takeR ts 3 st).2.len (takeR ts 3 st).2.len (takeR ts 3 st).2.len)
theorem takeR_len {ts : List TokP} (hL : LenOk ts) {st : RS} (hk : Ok ts st) (k : Int) : 0 ≤ (takeR ts k st).2.len ∧ (takeR ts k st).2.len ≤ 32 := by
  unfold takeR
  split
  · exact hL _ (tokR_mem hk.next)
  · exact ⟨Int.le_refl _, by show (0 : Int) ≤ 32; decide⟩
def SetRes (pb : Nat) (ts : List TokP) (w : World) (D O : Nat → Prop) (r : RS × SetM) (e : Ending) (w' : World) : Prop :=
  ∃ v O', e = .returned v ∧ RA w' pb ts r.1 D O' ∧ Fr O w O' w' ∧ FnV v ∧ SetL w' (Free O' D w.heap.size) v r.2 ∧ Ok ts r.1
theorem field4 (t : TokP) (w : World) : (Instr.field 216 (tokV t) 4).run Tryz.prog w = .ok (netV t.addr t.len) w := by kernel_rfl
set_option maxRecDepth 100000 in
set_option maxHeartbeats 1000000 in
theorem length_any {pb : Nat} {ts : List TokP} (ht : TsOk ts) {w : World} {st : RS} {D O : Nat → Prop} (h : RA w pb ts st D O) (hk : Ok ts st) (lo : Int) :
    Calls Tryz.prog 302 #[ptr4 pb 0, .int .i64 lo] w fun e w' => e = .returned (.int .i64 (withinR ts lo 32 st).2) ∧ ∃ O', RA w' pb ts (withinR ts lo 32 st).1 D O' ∧ Fr O w O' w' := by
  have HW := hide (within_any ht h hk lo 32)
  clear h hk ht
  go_enter Tryz.func302, Tryz.ntmps302
  go_wp2_with (go_at_call 275; refine (unhide HW).mono ?_; rintro e w1 ⟨rfl, O1, hr1, hf1⟩; have HR := hide hr1; have HF := hide hf1; clear hr1 hf1)
  go_ret
  exact ⟨rfl, _, unhide HR, unhide HF⟩
set_option maxRecDepth 100000 in
set_option maxHeartbeats 2000000 in
theorem oneRange_any {pb : Nat} {ts : List TokP} (ht : TsOk ts) (hL : LenOk ts) {w : World} {st : RS} {D O : Nat → Prop} (h : RA w pb ts st D O) (hk : Ok ts st) :
    Calls Tryz.prog 260 #[ptr4 pb 0] w (SetRes pb ts w D O (oneRangeR ts st)) := by
  have HTK := hide (take_any h hk ht 3)
  have HK1 := hide (takeR_ok (k := 3) hk ht (by decide))
  obtain ⟨l0, l1⟩ := takeR_len hL hk 3
  have HD : Hid (oneRangeR ts st = if kindR ts (takeR ts 3 st).1 = 2 then
    ((withinR ts (withinR ts (takeR ts 3 st).2.len 32 (takeR ts 3 st).1).2 32 (withinR ts (takeR ts 3 st).2.len 32 (takeR ts 3 st).1).1).1,
      spanM (takeR ts 3 st).2.addr (takeR ts 3 st).2.len (withinR ts (takeR ts 3 st).2.len 32 (takeR ts 3 st).1).2 (withinR ts (withinR ts (takeR ts 3 st).2.len 32 (takeR ts 3 st).1).2 32 (withinR ts (takeR ts 3 st).2.len 32 (takeR ts 3 st).1).1).2)
    else ((takeR ts 3 st).1, spanM (takeR ts 3 st).2.addr (takeR ts 3 st).2.len (takeR ts 3 st).2.len (takeR ts 3 st).2.len)) := rfl
  have HT := hide ht
  clear h hk ht hL
  generalize takeR ts 3 st = P at *
  obtain ⟨s1, t⟩ := P
  dsimp only at HK1 HD l0 l1
  have hfl := field4 t
  by_cases hn : kindR ts s1 = 2
  · rw [if_pos hn] at HD
    have HE := hide hn
    have OK1 := hide (withinR_ok (a := t.len) (b := 32) (unhide HK1) (unhide HT))
    have HL1 := hide (fun (W : World) (D O : Nat → Prop) (h : RA W pb ts s1 D O) => length_any (unhide HT) h (unhide HK1) t.len)
    clear hn
    generalize withinR ts t.len 32 s1 = A at *
    obtain ⟨s2, x⟩ := A
    dsimp only at OK1 HD
    have OK2 := hide (withinR_ok (a := x) (b := 32) (unhide OK1) (unhide HT))
    have HL2 := hide (fun (W : World) (D O : Nat → Prop) (h : RA W pb ts s2 D O) => length_any (unhide HT) h (unhide OK1) x)
    generalize withinR ts x 32 s2 = A at *
    obtain ⟨s3, y⟩ := A
    dsimp only at OK2 HD
    go_enter Tryz.func260, Tryz.ntmps260
    go_wp2_with (first
      | (go_at_call 213; refine (unhide HTK).mono ?_; clear HTK; rintro e w1 ⟨rfl, O1, hr1, hf1⟩; dsimp only; have HR := hide (hr1.alloc (netBlk t.addr t.len)); have HF := hide (hf1.alloc (netBlk t.addr t.len)); have HN := hide (And.intro (heap_alloc_new w1 (netBlk t.addr t.len)) (show ¬ O1 w1.heap.size from fun ho => by have := hr1.lt ho; omega)); clear hr1 hf1)
      | (go_at_call 170; refine (kind_is (unhide HR) (unhide HK1) (unhide HT) (unhide HE)).mono ?_; rintro e w2 ⟨rfl, hr2, hf2⟩; replace HN := hide (fr_keeps hf2 (unhide HN).1 (unhide HN).2); have n0 : w2.cell? ⟨w1.heap.size, 0, none⟩ = some (.int .i64 t.addr) := cell_of_heap (unhide HN).1; have n1 : w2.cell? ⟨w1.heap.size, 1, none⟩ = some (.int .i64 t.len) := cell_of_heap (unhide HN).1; replace HR := hide hr2; replace HF := hide ((unhide HF).trans hf2); clear hr2 hf2)
      | (go_at_call 302; refine ((unhide HL1) _ _ _ (unhide HR)).mono ?_; clear HL1; rintro e w3 ⟨rfl, O3, hr3, hf3⟩; replace HN := hide (fr_keeps hf3 (unhide HN).1 (unhide HN).2); replace HR := hide hr3; replace HF := hide ((unhide HF).trans hf3); clear hr3 hf3; dsimp only)
      | (go_at_call 302; refine ((unhide HL2) _ _ _ (unhide HR)).mono ?_; clear HL2; rintro e w4 ⟨rfl, O4, hr4, hf4⟩; replace HN := hide (fr_keeps hf4 (unhide HN).1 (unhide HN).2); have m0 : w4.cell? ⟨w1.heap.size, 0, none⟩ = some (.int .i64 t.addr) := cell_of_heap (unhide HN).1; have m1 : w4.cell? ⟨w1.heap.size, 1, none⟩ = some (.int .i64 t.len) := cell_of_heap (unhide HN).1; replace HR := hide hr4; replace HF := hide ((unhide HF).trans hf4); clear hr4 hf4; dsimp only)
      | (go_at_call 301; refine (span_said _ t.addr t.len x y l0 l1 _ ((unhide HR).newFree (unhide HF))).mono ?_; rintro e w5 ⟨v, rfl, hfv, rfl, hv⟩; replace HR := hide ((((unhide HR).alloc (netBlk t.addr t.len)).alloc (box1 (.int .i64 x) 3)).alloc (box1 (.int .i64 y) 3)); replace HF := hide ((((unhide HF).alloc (netBlk t.addr t.len)).alloc (box1 (.int .i64 x) 3)).alloc (box1 (.int .i64 y) 3)); have HV := hide hv; have HFV := hide hfv; clear hv; rcases hfv with ⟨f1, f2, f3, rfl⟩ | rfl))
    all_goals
      go_ret
      rw [unhide HD]
      exact ⟨_, _, rfl, unhide HR, unhide HF, unhide HFV, unhide HV, unhide OK2⟩
  · rw [if_neg hn] at HD
    generalize hK : kindR ts s1 = K at *
    have HE := hide hK
    have hn' : (K == 2) = false := by simpa using hn
    clear hK
    go_enter Tryz.func260, Tryz.ntmps260
    go_wp2_with (first
      | (go_at_call 213; refine (unhide HTK).mono ?_; clear HTK; rintro e w1 ⟨rfl, O1, hr1, hf1⟩; dsimp only; have HR := hide (hr1.alloc (netBlk t.addr t.len)); have HF := hide (hf1.alloc (netBlk t.addr t.len)); have HN := hide (And.intro (heap_alloc_new w1 (netBlk t.addr t.len)) (show ¬ O1 w1.heap.size from fun ho => by have := hr1.lt ho; omega)); clear hr1 hf1)
      | (go_at_call 170; refine (kind_is (unhide HR) (unhide HK1) (unhide HT) (unhide HE)).mono ?_; rintro e w2 ⟨rfl, hr2, hf2⟩; replace HN := hide (fr_keeps hf2 (unhide HN).1 (unhide HN).2); have n0 : w2.cell? ⟨w1.heap.size, 0, none⟩ = some (.int .i64 t.addr) := cell_of_heap (unhide HN).1; have n1 : w2.cell? ⟨w1.heap.size, 1, none⟩ = some (.int .i64 t.len) := cell_of_heap (unhide HN).1; replace HR := hide hr2; replace HF := hide ((unhide HF).trans hf2); clear hr2 hf2)
      | (go_at_call 301; refine (span_said _ t.addr t.len t.len t.len l0 l1 _ ((unhide HR).newFree (unhide HF))).mono ?_; rintro e w5 ⟨v, rfl, hfv, rfl, hv⟩; replace HR := hide ((((unhide HR).alloc (netBlk t.addr t.len)).alloc (box1 (.int .i64 t.len) 3)).alloc (box1 (.int .i64 t.len) 3)); replace HF := hide ((((unhide HF).alloc (netBlk t.addr t.len)).alloc (box1 (.int .i64 t.len) 3)).alloc (box1 (.int .i64 t.len) 3)); have HV := hide hv; have HFV := hide hfv; clear hv; rcases hfv with ⟨f1, f2, f3, rfl⟩ | rfl))
    all_goals
      go_ret
      rw [unhide HD]
      exact ⟨_, _, rfl, unhide HR, unhide HF, unhide HFV, unhide HV, unhide HK1⟩
end Go.Proofs.YtgdeeodifnegiaaGreatDoor

namespace Go.Proofs.YtgdeeodifnegiaaGreatDoor
open Go.RowKit

/-- a row of closures so far -/
structure AccL {α : Type} (T : TypeId) (Q : Value → α → (Nat → Prop) → World → Prop) (wr : World) (n0 : Nat) (Ou D : Nat → Prop) (sv : Value) (acc : List α) (vs : List Value) : Prop where
  own : wr.ownsRow 0 T 1 sv acc.length vs
  new : ∀ k, sv.ownBlock = some k → n0 ≤ k ∧ ¬ Ou k
  elt : ∀ (i : Nat) (v : Value) (o : α), vs[i]? = some v → acc[i]? = some o → Lasts wr (fun k => Free Ou D n0 k ∧ sv.ownBlock ≠ some k) (Q v o)
section
variable {α : Type} {T : TypeId} {Q : Value → α → (Nat → Prop) → World → Prop}
theorem AccL.fr {wr w1 : World} {n0 : Nat} {Ou O1 D : Nat → Prop} {sv : Value} {acc : List α} {vs : List Value} (h : AccL T Q wr n0 Ou D sv acc vs) (hf : Fr Ou wr O1 w1) : AccL T Q w1 n0 O1 D sv acc vs := by
  have hO : ∀ k, k < wr.heap.size → ¬ Ou k → ¬ O1 k := fun k hk hn ho => by
    rcases hf.own k ho with h1 | h1
    · exact hn h1
    · omega
  refine ⟨owns_of h.own (fun k e => hf.block k (h.own.lt k e).2 (h.new k e).2), fun k e => ⟨(h.new k e).1, hO k (h.own.lt k e).2 (h.new k e).2⟩, fun i v o hv ho => ?_⟩
  exact (h.elt i v o hv ho).mono hf.size (fun k hk ha => ⟨hf.block k hk ha.1.1, ⟨hO k hk ha.1.1, ha.1.2⟩, ha.2⟩) (fun _ _ h => h)
theorem AccL.alloc {wr : World} {n0 : Nat} {Ou D : Nat → Prop} {sv : Value} {acc : List α} {vs : List Value} (h : AccL T Q wr n0 Ou D sv acc vs) (o : Obj) : AccL T Q (wr.alloc o) n0 Ou D sv acc vs := h.fr ((Fr.refl _ _).alloc o)
theorem AccL.snoc {w1 w2 : World} {n0 g cap : Nat} {O1 D : Nat → Prop} {sv v : Value} {acc : List α} {vs : List Value} {o : α} (h : AccL T Q w1 n0 O1 D sv acc vs) (hO : ∀ k, O1 k → k < w1.heap.size) (hn0 : n0 ≤ w1.heap.size)
    (hv : Lasts w1 (fun k => Free O1 D n0 k ∧ sv.ownBlock ≠ some k) (Q v o)) (hg : w1.grownBy w2 sv.ownBlock) (hat : sv.ownBlock = some g ∨ w1.heap.size ≤ g)
    (hown : w2.ownsRow 0 T 1 (.slice (some ⟨g, 0, none⟩) (acc.length + 1) cap) (acc.length + 1) (vs ++ [v])) :
    AccL T Q w2 n0 O1 D (.slice (some ⟨g, 0, none⟩) (acc.length + 1) cap) (acc ++ [o]) (vs ++ [v]) := by
  have hvl : vs.length = acc.length := by simpa using h.own.1
  have hmono : ∀ (x : Value) (p : α), Lasts w1 (fun k => Free O1 D n0 k ∧ sv.ownBlock ≠ some k) (Q x p) → Lasts w2 (fun k => Free O1 D n0 k ∧ (Value.slice (some ⟨g, 0, none⟩) (acc.length + 1) cap).ownBlock ≠ some k) (Q x p) := fun x p hx => by
    refine hx.mono hg.size (fun k hk ha => ⟨hg.block k hk (fun e => ha.2 e.symm), ha.1, fun e => ?_⟩) (fun _ _ h => h)
    have e' : g = k := by simpa [Value.ownBlock] using e
    rcases hat with h1 | h1
    · exact ha.2 (by rw [h1, e'])
    · omega
  refine ⟨by rw [List.length_append]; exact hown, fun k e => ?_, fun i x p hx hp => ?_⟩
  · have e' : g = k := by simpa [Value.ownBlock] using e
    subst e'
    rcases hat with h1 | h1
    · exact h.new g h1
    · exact ⟨by omega, fun ho => by have := hO g ho; omega⟩
  · rcases Nat.lt_or_ge i acc.length with hi | hi
    · rw [List.getElem?_append_left (by omega)] at hx
      rw [List.getElem?_append_left hi] at hp
      exact hmono x p (h.elt i x p hx hp)
    · rw [List.getElem?_append_right (by omega)] at hx
      rw [List.getElem?_append_right hi] at hp
      have hi0 : i - acc.length = 0 := by
        rcases Nat.eq_zero_or_pos (i - acc.length) with h1 | h1
        · exact h1
        · rw [List.getElem?_eq_none (by simp; omega)] at hp; cases hp
      rw [hi0] at hp
      rw [hvl, hi0] at hx
      simp at hx hp
      subst hx hp
      exact hmono _ _ hv
/-- the first one, in a row of its own -/
theorem AccL.one {w1 : World} {n0 : Nat} {O1 D : Nat → Prop} {v : Value} {o : α} (hv : Lasts w1 (Free O1 D n0) (Q v o)) (hO : ∀ k, O1 k → k < w1.heap.size) (hn0 : n0 ≤ w1.heap.size) (_h1c : v.cells = #[v]) :
    AccL T Q (w1.alloc (.cells #[v] T)) n0 O1 D (.slice (some ⟨w1.heap.size, 0, none⟩) 1 1) [o] [v] := by
  refine ⟨⟨rfl, Or.inr ⟨w1.heap.size, 1, #[v], rfl, Nat.zero_le _, heap_alloc_new w1 _, Nat.le_refl _, by unfold maxLen; omega, rfl, rfl⟩⟩, fun k e => ?_, fun i x p hx hp => ?_⟩
  · have e' : w1.heap.size = k := by simpa [Value.ownBlock] using e
    subst e'
    exact ⟨hn0, fun ho => by have := hO _ ho; omega⟩
  · cases i with
    | zero =>
      simp at hx hp
      subst hx hp
      exact hv.mono (by simp) (fun k hk ha => ⟨Below.heap_alloc _ _ _ hk, ha, fun e => by
        have e' : w1.heap.size = k := by simpa [Value.ownBlock] using e
        omega⟩) (fun _ _ h => h)
    | succ i => simp at hp
end
/-- a row of sets that was made lasts -/
theorem setsL_of {w : World} {A : Nat → Prop} {sv : Value} {ms : List SetM} {vs : List Value} (ho : w.ownsRow 0 303 1 sv ms.length vs) (hl : ms.length ≤ 1000000) (hA : ∀ k, sv.ownBlock = some k → A k)
    (hv : ∀ (i : Nat) (v : Value) (m : SetM), vs[i]? = some v → ms[i]? = some m → SetL w A v m) : Lasts w A (SetsC sv ms) := by
  have hvl : vs.length = ms.length := by simpa using ho.1
  have hlast : ∀ i : Fin ms.length, Lasts w A (SetC (vs[i.1]'(by omega)) ms[i.1]) := fun i => hv i.1 _ _ (List.getElem?_eq_getElem (by omega)) (List.getElem?_eq_getElem i.2)
  rcases ho.2 with ⟨h1, h0⟩ | ⟨g, cap, cur, h1, hb, hg, hn, hm, hs, ht⟩
  · refine Lasts.new (fun _ => False) (fun _ h => h.elim) (fun W _ _ => ⟨by omega, vs, by omega, Or.inl ⟨List.eq_nil_of_length_eq_zero (by omega), h1⟩, fun i v m hi hm => ?_⟩)
    have hnil : ms = [] := List.eq_nil_of_length_eq_zero (by omega)
    rw [hnil] at hm; simp at hm
  · have hcell : ∀ (W : World), W.heap[g]? = w.heap[g]? → ∀ i v, vs[i]? = some v → W.cell? ⟨g, i, none⟩ = some v := fun W hW i v hi => by
      rw [cell_of_heap (hW.trans hg), ← Array.getElem?_toList]
      rw [← ht, List.getElem?_take] at hi
      split at hi
      · exact hi
      · cases hi
    refine ⟨fun k => k = g ∨ ∃ i : Fin ms.length, Classical.choose (hlast i) k, fun k hk => ?_, fun W hW hk => ?_⟩
    · rcases hk with rfl | ⟨i, hi⟩
      · exact ⟨heap_lt hg, hA k (by rw [h1]; rfl)⟩
      · exact (Classical.choose_spec (hlast i)).1 k hi
    · refine ⟨by omega, vs, by omega, Or.inr ⟨g, cap, by rw [h1, hvl], Or.inl rfl, hcell W (hk g (Or.inl rfl))⟩, fun i v m hi hm => ?_⟩
      have hi' : i < ms.length := by
        rcases Nat.lt_or_ge i ms.length with h | h
        · exact h
        · rw [List.getElem?_eq_none h] at hm; cases hm
      have e1 : v = vs[i] := by rw [List.getElem?_eq_getElem (by omega)] at hi; exact (Option.some.inj hi).symm
      have e2 : m = ms[i] := by rw [List.getElem?_eq_getElem hi'] at hm; exact (Option.some.inj hm).symm
      subst e1 e2
      obtain ⟨g', lb, hq1, hq2, hq3⟩ := (Classical.choose_spec (hlast ⟨i, hi'⟩)).2 W hW (fun k h => hk k (Or.inr ⟨⟨i, hi'⟩, h⟩))
      exact ⟨g', lb, hq1, hq2, hq3⟩
theorem union_said (w : World) (sv : Value) (ms : List SetM) (A : Nat → Prop) (hA : ∀ k, w.heap.size ≤ k → A k) (hs : Lasts w A (SetsC sv ms)) (hf : ∃ a n c, sv = .slice a n c) :
    Calls Tryz.prog 261 #[sv] w fun e w' => ∃ v, e = .returned v ∧ FnV v ∧ w' = w.alloc (box1 sv 350) ∧ SetL w' A v (unionM ms) := by
  obtain ⟨a, n, c, rfl⟩ := hf
  refine (union_call w a n c).mono ?_
  rintro e w' ⟨rfl, rfl⟩
  refine ⟨_, rfl, Or.inl ⟨_, _, _, rfl⟩, rfl, ?_⟩
  have h1 : Lasts (w.alloc (box1 (.slice a n c) 350)) A (SetsC (.slice a n c) ms) := hs.mono (by simp) (fun k hk ha => ⟨Below.heap_alloc _ _ _ hk, ha⟩) (fun _ _ h => h)
  refine Lasts.one h1 (fun k => k = w.heap.size) (fun k hk => ⟨by subst hk; simp, hA k (by omega)⟩) (fun K1 hK1 q1 W hW hk => ?_)
  exact ⟨_, _, rfl, Tryz.entUnion, fun V x y hV => union_run W _ _ ms K1 (fun k hk1 => Nat.lt_of_lt_of_le (hK1 k hk1).1 hW) (cell1 (hk _ (Or.inr rfl)) (heap_alloc_new w _)) (q1 W hW (fun k h => hk k (Or.inl h))) V hV x y⟩
/-! ## RANGEs -/
def rangesLp (ts : List TokP) : Nat → RS → List SetM → Option (RS × List SetM)
  | 0, _, _ => none
  | n + 1, st, l => if kindR ts st = 28 then rangesLp ts n (oneRangeR ts (goR ts st)).1 (l ++ [(oneRangeR ts (goR ts st)).2]) else some (st, l)
def rangesR (ts : List TokP) (n : Nat) (st : RS) : Option (RS × SetM) :=
  match rangesLp ts n (oneRangeR ts (takeR ts 29 st).1).1 [(oneRangeR ts (takeR ts 29 st).1).2] with
  | none => none
  | some (s, l) => some ((takeR ts 30 s).1, unionM l)
theorem rangesLp_pos {ts : List TokP} {k : Nat} {st : RS} {l : List SetM} {r : RS × List SetM} (h : rangesLp ts k st l = some r) : ∃ g, k = g + 1 := by
  cases k with
  | zero => cases h
  | succ g => exact ⟨g, rfl⟩
theorem Tryz.infoSet : (Tryz.prog.info? 303).map (fun i => (i.zero, i.size, i.bytes)) = some (some .nilFunc, 1, 8) := by kernel_rfl
set_option maxRecDepth 100000 in
set_option maxHeartbeats 4000000 in
theorem ranges_said {pb : Nat} {ts : List TokP} (ht : TsOk ts) (hL : LenOk ts) (n : Nat) (hn : n ≤ 1000) {w : World} {st : RS} {D O : Nat → Prop} {r : RS × SetM} (h : RA w pb ts st D O) (hk : Ok ts st) (hr : rangesR ts n st = some r) :
    Calls Tryz.prog 214 #[ptr4 pb 0] w (SetRes pb ts w D O r) := by
  unfold rangesR at hr
  obtain ⟨r1, hr1, hr2⟩ : ∃ r1, rangesLp ts n (oneRangeR ts (takeR ts 29 st).1).1 [(oneRangeR ts (takeR ts 29 st).1).2] = some r1 ∧ r = ((takeR ts 30 r1.1).1, unionM r1.2) := by
    split at hr
    · cases hr
    · rename_i s l hx
      exact ⟨(s, l), hx, (Option.some.inj hr).symm⟩
  obtain ⟨i0, hi0, hz0, hz1, hz2⟩ := info_parts Tryz.infoSet
  have HTK := hide (take_any h hk ht 29)
  have HK1 := takeR_ok (k := 29) hk ht (by decide)
  have HOR := hide (fun (W : World) (D O : Nat → Prop) (su : RS) (h : RA W pb ts su D O) (hk : Ok ts su) => oneRange_any ht hL h hk)
  have HKK := hide HK1
  have HH := hide h
  have HT := hide ht
  have HL := hide hr1
  clear h hk ht hL hr hr1 HK1
  subst hr2
  generalize takeR ts 29 st = P at *
  obtain ⟨s1, t1⟩ := P
  dsimp only at HKK HL
  generalize hRR : oneRangeR ts s1 = RR at *
  obtain ⟨s2, m2⟩ := RR
  dsimp only at HL
  go_enter Tryz.func214, Tryz.ntmps214
  go_wp2_with (first
    | (go_at_call 213; refine (unhide HTK).mono ?_; clear HTK; rintro e w1 ⟨rfl, O1, hr1, hf1⟩; dsimp only; have HR := hide hr1; have HF := hide hf1; clear hr1 hf1)
    | (go_at_call 260; refine ((unhide HOR) _ _ _ _ (unhide HR) (unhide HKK)).mono ?_; rw [hRR]; rintro e w2 ⟨v, O2, rfl, hr2, hf2, hfv, hv, hk2⟩; obtain ⟨K0, g0, lb0, hv0, _⟩ := Lasts.now hv; have HV := hide (Lasts.fr hv (Fr.refl _ _) (unhide HF).size); replace HF := hide ((unhide HF).trans hf2); replace HR := hide hr2; have HK2 := hide hk2; clear hr2 hf2 hv hk2 hfv; subst hv0))
  have HA0 := hide (AccL.one (T := 303) (Q := SetC) (unhide HV) (fun k ho => (unhide HR).lt ho) (unhide HF).size rfl)
  have HR0 := hide ((unhide HR).alloc (box1 (.func (.func g0) #[] lb0) 303))
  have HF0 := hide ((unhide HF).alloc (box1 (.func (.func g0) #[] lb0) 303))
  clear HV HR HF
  go_loopg [3] n (fun k s3 wr => ∃ (su : RS) (acc : List SetM) (vs : List Value) (Ou : Nat → Prop), acc.length + k ≤ n + 1 ∧ RA wr pb ts su D Ou ∧ Fr O w Ou wr ∧ AccL 303 SetC wr w.heap.size Ou D s3 acc vs ∧ Ok ts su ∧ rangesLp ts k su acc = some r1)
  case atStart => exact ⟨s2, [m2], _, O2, by simp; omega, unhide HR0, unhide HF0, unhide HA0, unhide HK2, unhide HL⟩
  case round =>
    clear HA0 HR0 HF0 HK2 HL
    obtain ⟨su, acc, vs, Ou, hlen, hr, hf, hacc, hk, hl⟩ := hrel
    obtain ⟨g, rfl⟩ := rangesLp_pos hl
    obtain ⟨sa, sc, hsv⟩ := owns_form' hacc.own
    subst hsv
    have hln : acc.length ≤ 1001 := by omega
    by_cases h28 : kindR ts su = 28
    · have hl' : rangesLp ts g (oneRangeR ts (goR ts su)).1 (acc ++ [(oneRangeR ts (goR ts su)).2]) = some r1 := by rw [rangesLp, if_pos h28] at hl; exact hl
      have HTO := hide (took_yes hr hk (unhide HT) 28 h28)
      have HKG := hide (goR_ok' hk (unhide HT) h28 (by decide))
      have HLL := hide hl'
      have HF := hide hf
      have HA := hide hacc
      generalize hRR2 : oneRangeR ts (goR ts su) = RR2 at *
      obtain ⟨s5, m5⟩ := RR2
      dsimp only at HLL
      clear hr hf hacc hk hl hl' h28
      go_wp2_with (first
        | (go_at_call 211; refine (unhide HTO).mono ?_; clear HTO; rintro e w3 ⟨rfl, O3, hr3, hf3⟩; have HR := hide hr3; replace HA := hide ((unhide HA).fr hf3); replace HF := hide ((unhide HF).trans hf3); clear hr3 hf3)
        | (go_at_call 260; refine ((unhide HOR) _ _ _ _ (unhide HR) (unhide HKG)).mono ?_; rw [hRR2]; rintro e w4 ⟨v, O4, rfl, hr4, hf4, hfv, hv, hk4⟩; obtain ⟨K1, g1, lb1, hv1, _⟩ := Lasts.now hv; have hlt3 := ((unhide HA).own.lt); have HV := hide (show Lasts w4 (fun k => Free O4 D w.heap.size k ∧ (Value.slice sa acc.length sc).ownBlock ≠ some k) (SetC v m5) from hv.mono (Nat.le_refl _) (fun k _ ha => ⟨rfl, ⟨ha.1, ha.2.imp id (fun h => by have := (unhide HF).size; omega)⟩, fun e => by rcases ha.2 with h1 | h1; (have h2 := ((unhide HA).new k e).1; have h3 := ((unhide HH).free h1).1; omega); (have h2 := (hlt3 k e).2; omega)⟩) (fun _ _ h => h)); replace HA := hide ((unhide HA).fr hf4); replace HF := hide ((unhide HF).trans hf4); replace HR := hide hr4; have HK4 := hide hk4; clear hr4 hf4 hv hk4 hfv hlt3; subst hv1; have HA1 := hide ((unhide HA).alloc (box1 (.func (.func g1) #[] lb1) 303)); have HR1 := hide ((unhide HR).alloc (box1 (.func (.func g1) #[] lb1) 303)); have HV1 := hide ((unhide HV).mono (alloc_mono w4 (box1 (.func (.func g1) #[] lb1) 303) (fun k => Free O4 D w.heap.size k ∧ (Value.slice sa acc.length sc).ownBlock ≠ some k)).1 (alloc_mono w4 (box1 (.func (.func g1) #[] lb1) 303) _).2 (fun _ _ h => h)))
        | (at_builtin; refine wpList_append_lies _ rfl _ _ _ rfl 0 303 i0 _ 1 8 Tryz.underlying350 hi0 hz0 hz1 hz2 rfl (by omega) (.slice sa acc.length sc) acc.length vs rfl (unhide HA1).own ⟨w4.heap.size, 0, none⟩ 1 1 [.func (.func g1) #[] lb1] rfl rfl (World.news_of_block (cs := #[.func (.func g1) #[] lb1]) (t := 303) (fr := (0, 0)) (heap_alloc_new _ _)) (by simp [Value.oneCell']) (by omega) (by simp [maxLen]; omega) (by omega) (Nat.zero_le _) (w4.heap.size + 1) (by simp) ?_; intro gg cap w5 hown hgrow hat hltg))
      have HR2 := hide ((unhide HR1).grown hgrow (fun k e => ⟨((unhide HA1).new k e).2, fun hd => by have h1 := ((unhide HA1).new k e).1; have h2 := ((unhide HH).free hd).1; omega⟩))
      have HF2 := hide (((unhide HF).alloc (box1 (.func (.func g1) #[] lb1) 303)).grown hgrow (fun k e => Or.inr ((unhide HA1).new k e).1))
      have HA2 := hide (AccL.snoc (unhide HA1) (fun k ho => (unhide HR1).lt ho) (by have := (unhide HF).size; simp; omega) (unhide HV1) hgrow (hat.imp id (fun h => by simp; omega)) hown)
      clear hown hgrow hat hltg HR1 HA1 HV1 HV HA
      go_roundg g
      case measure => omega
      case rel => exact ⟨s5, acc ++ [m5], _, O4, by rw [List.length_append, List.length_singleton]; omega, unhide HR2, unhide HF2, unhide HA2, unhide HK4, unhide HLL⟩
    · have hl' : (su, acc) = r1 := by rw [rangesLp, if_neg h28] at hl; exact Option.some.inj hl
      have HTO := hide (took_no hr hk (unhide HT) 28 h28)
      have HF := hide hf
      have HA := hide hacc
      have HK := hide hk
      have HTK2 := hide (fun (W : World) (h : RA W pb ts su D Ou) => take_any h hk (unhide HT) 30)
      have HKE := hide (takeR_ok (k := 30) hk (unhide HT) (by decide))
      subst hl'
      dsimp only
      generalize takeR ts 30 su = P2 at *
      obtain ⟨s6, t6⟩ := P2
      dsimp only at HKE ⊢
      clear hr hf hacc hk hl h28
      go_wp2_with (first
        | (go_at_call 211; refine (unhide HTO).mono ?_; clear HTO; rintro e w3 ⟨rfl, hr3, hf3⟩; have HR := hide hr3; replace HA := hide ((unhide HA).fr hf3); replace HF := hide ((unhide HF).trans hf3); clear hr3 hf3)
        | (go_at_call 213; refine ((unhide HTK2) _ (unhide HR)).mono ?_; clear HTK2; rintro e w4 ⟨rfl, O4, hr4, hf4⟩; dsimp only; replace HR := hide hr4; replace HA := hide ((unhide HA).fr hf4); replace HF := hide ((unhide HF).trans hf4); clear hr4 hf4)
        | (go_at_call 261; refine (union_said w4 _ acc (Free O4 D w.heap.size) ((unhide HR).newFree (unhide HF)) (setsL_of (unhide HA).own (by omega) (fun k e => ⟨((unhide HA).new k e).2, Or.inr ((unhide HA).new k e).1⟩) (fun i v o h1 h2 => ((unhide HA).elt i v o h1 h2).mono (Nat.le_refl _) (fun k _ ha => ⟨rfl, ha.1⟩) (fun _ _ h => h))) ⟨_, _, _, rfl⟩).mono ?_; rintro e w5 ⟨v, rfl, hfv, rfl, hv⟩; obtain ⟨K1, g1, lb1, hv1, _⟩ := Lasts.now hv; have HV := hide hv; have HFV := hide hfv; clear hv hfv; subst hv1))
      go_ret
      exact ⟨_, _, rfl, (unhide HR).alloc _, (unhide HF).alloc _, unhide HFV, unhide HV, unhide HKE⟩
end Go.Proofs.YtgdeeodifnegiaaGreatDoor

namespace Go.Proofs.YtgdeeodifnegiaaGreatDoor
open Go.RowKit

/-- definitions that can be read -/
structure DefsV (w : World) (dv : Value) (xs : List (ByteArray × Value × Value)) : Prop where
  form : ∃ q c, dv = .slice q xs.length c
  len : xs.length ≤ maxLen
  cell : ∀ g c, dv = .slice (some ⟨g, 0, none⟩) xs.length c → g < w.heap.size ∧ ∀ (i : Nat) (x : ByteArray × Value × Value), xs[i]? = some x → w.cell? ⟨g, i * 3, none⟩ = some (.string x.1) ∧ w.cell? ⟨g, i * 3 + 1, none⟩ = some x.2.1 ∧ w.cell? ⟨g, i * 3 + 2, none⟩ = some x.2.2
  some_ : xs ≠ [] → ∃ g c, dv = .slice (some ⟨g, 0, none⟩) xs.length c
  fn : ∀ x ∈ xs, FnV x.2.1 ∧ FnV x.2.2
theorem DefsV.below {w w' : World} {dv : Value} {xs : List (ByteArray × Value × Value)} (h : DefsV w dv xs) (hb : Below w.heap.size w w') : DefsV w' dv xs :=
  ⟨h.form, h.len, fun g c e => ⟨Nat.lt_of_lt_of_le (h.cell g c e).1 hb.size, fun i x hx => by
    obtain ⟨h1, h2, h3⟩ := (h.cell g c e).2 i x hx
    have hl := (h.cell g c e).1
    exact ⟨(hb.cell (p := ⟨g, i * 3, none⟩) hl).trans h1, (hb.cell (p := ⟨g, i * 3 + 1, none⟩) hl).trans h2, (hb.cell (p := ⟨g, i * 3 + 2, none⟩) hl).trans h3⟩⟩, h.some_, h.fn⟩
theorem defCells_get : ∀ {xs : List (ByteArray × Value × Value)} {i : Nat} {x : ByteArray × Value × Value}, xs[i]? = some x → (defCells xs)[i * 3]? = some (.string x.1) ∧ (defCells xs)[i * 3 + 1]? = some x.2.1 ∧ (defCells xs)[i * 3 + 2]? = some x.2.2
  | [], i, x, h => by simp at h
  | y :: l, 0, x, h => by
    simp at h; subst h
    exact ⟨rfl, rfl, rfl⟩
  | y :: l, i + 1, x, h => by
    have := defCells_get (xs := l) (i := i) (x := x) (by simpa using h)
    have e : ∀ k, (defCells (y :: l))[(i + 1) * 3 + k]? = (defCells l)[i * 3 + k]? := fun k => by
      rw [show (i + 1) * 3 + k = (i * 3 + k) + 3 by omega]; rfl
    exact ⟨(e 0).trans this.1, (e 1).trans this.2.1, (e 2).trans this.2.2⟩
theorem DefRep.fnv {w : World} {A : Nat → Prop} {d : DefP} {x : ByteArray × Value × Value} (h : DefRep w A d x) : FnV x.2.1 ∧ FnV x.2.2 := by
  obtain ⟨_, h2, h3⟩ := h
  constructor
  · cases hs : d.set with
    | none => rw [hs] at h2; exact Or.inr h2
    | some m =>
      rw [hs] at h2
      obtain ⟨K, g, lb, h4, _⟩ := Lasts.now h2
      exact Or.inl ⟨_, _, _, h4⟩
  · cases hs : d.way with
    | none => rw [hs] at h3; exact Or.inr h3
    | some m =>
      rw [hs] at h3
      obtain ⟨K, g, lb, h4, _⟩ := Lasts.now h3
      exact Or.inl ⟨_, _, _, h4⟩
/-- what the reader knows of its definitions -/
theorem RA.defsV {w : World} {pb : Nat} {ts : List TokP} {st : RS} {D O : Nat → Prop} (h : RA w pb ts st D O) :
    ∃ dv xs, w.cell? ⟨pb, 3, none⟩ = some dv ∧ DefsV w dv xs ∧ xs.length = st.defs.length ∧ ∀ (i : Nat) (d : DefP) (x : ByteArray × Value × Value), st.defs[i]? = some d → xs[i]? = some x → DefRep w (fun k => ¬ O k ∧ D k) d x := by
  obtain ⟨tb, tc, dv, av, bv, h, rfl⟩ := h
  obtain ⟨xs, h1, h2, h3⟩ := h.defs
  have hfn : ∀ x ∈ xs, FnV x.2.1 ∧ FnV x.2.2 := fun x hx => by
    obtain ⟨i, hi, rfl⟩ := List.mem_iff_getElem.1 hx
    exact (h3 i st.defs[i] xs[i] (List.getElem?_eq_getElem (by omega)) (List.getElem?_eq_getElem hi)).fnv
  refine ⟨dv, xs, cell_of_heap h.blk, ?_, h2, h3⟩
  rcases h1.2 with ⟨e1, e0⟩ | ⟨g, cap, cur, e1, _, hg, hn, hm, hs, htk⟩
  · refine ⟨⟨none, 0, by rw [e1, h2, e0]⟩, by unfold maxLen; omega, fun g c e => (by rw [e1] at e; cases e), fun hne => absurd (List.eq_nil_of_length_eq_zero (by omega)) hne, hfn⟩
  · refine ⟨⟨_, cap, by rw [e1, h2]⟩, by omega, fun g' c' e => ?_, fun _ => ⟨g, cap, by rw [e1, h2]⟩, hfn⟩
    rw [e1] at e
    injection e with e2
    injection e2 with e3
    injection e3 with e4
    subst e4
    refine ⟨heap_lt hg, fun i x hx => ?_⟩
    obtain ⟨d1, d2, d3⟩ := defCells_get hx
    have hi : i < xs.length := (List.getElem?_eq_some_iff.mp hx).1
    have get : ∀ j v, j < xs.length * 3 → (defCells xs)[j]? = some v → w.cell? ⟨g, j, none⟩ = some v := fun j v hj hv => by
      rw [cell_of_heap hg]
      rw [← htk, List.getElem?_take, if_pos (by rw [← h2]; exact hj)] at hv
      simpa using hv
    exact ⟨get _ _ (by omega) d1, get _ _ (by omega) d2, get _ _ (by omega) d3⟩
set_option maxRecDepth 100000 in
set_option maxHeartbeats 1000000 in
theorem isDef1_any (W : World) (B : Nat) (name : ByteArray) (hb : W.cell? ⟨B, 0, none⟩ = some (.string name)) (x : ByteArray × Value × Value) (hf : FnV x.2.1 ∧ FnV x.2.2) :
    Calls Tryz.prog 298 (#[.agg #[.string x.1, x.2.1, x.2.2]] ++ #[ptr4 B 0]) W fun e W' => e = .returned (.bool (x.1.toList == name.toList)) ∧ Below W.heap.size W W' := by
  obtain ⟨n, v1, v2⟩ := x
  have lB := cell_lt hb
  dsimp only at hf ⊢
  obtain ⟨h1, h2⟩ := hf
  rcases h1 with ⟨f, a, b, rfl⟩ | rfl <;> rcases h2 with ⟨f', a', b', rfl⟩ | rfl <;>
  · go_enter Tryz.func298, Tryz.ntmps298
    go_wp2_with fail
    go_ret
    exact ⟨rfl, (Below.refl _ _).alloc (Nat.le_refl _) _⟩
theorem Tryz.entIsDef : Enters Tryz.prog 298 := enters_of Tryz.func298 (by kernel_rfl) rfl
set_option maxRecDepth 100000 in
set_option maxHeartbeats 2000000 in
theorem idxFunc_any (W : World) (B : Nat) (name : ByteArray) (hb : W.cell? ⟨B, 0, none⟩ = some (.string name)) (dv : Value) (xs : List (ByteArray × Value × Value)) (hd : DefsV W dv xs) :
    Calls Tryz.prog 330 #[dv, .func (.func 298) #[] #[ptr4 B 0]] W fun e W' => ∃ i : Int, e = .returned (.int .i64 i) ∧ (0 ≤ i ↔ xs.any (fun x => x.1.toList == name.toList) = true) ∧ Below W.heap.size W W' := by
  obtain ⟨q, c, rfl⟩ := hd.form
  have e1 := enters_fn Tryz.entIsDef
  have HD := hide hd
  have HB := hide hb
  have hln := hd.len
  unfold maxLen at hln
  clear hd hb
  go_enter Tryz.func330, Tryz.ntmps330
  go_wp2_with fail
  go_loopw [8] (fun i wr => ∃ j : Nat, j ≤ xs.length ∧ i = .int .i64 (j : Nat) ∧ Hid (∀ i x, i < j → xs[i]? = some x → (x.1.toList == name.toList) = false) ∧ Below W.heap.size W wr) (fun i _ => xs.length - (intOf i).toNat)
  case atStart => exact ⟨0, Nat.zero_le _, rfl, fun i m hi => absurd hi (Nat.not_lt_zero _), Below.refl _ _⟩
  case round =>
    obtain ⟨j, hj, rfl, HF, hbl⟩ := hrel
    have HBL := hide hbl
    clear hbl
    by_cases hlt : j < xs.length
    · obtain ⟨g, c', hq⟩ := (unhide HD).some_ (fun e => by rw [e] at hlt; simp at hlt)
      injection hq with hq1 hq2 hq3
      subst hq1 hq3
      obtain ⟨hgl, hcell⟩ := ((unhide HD).below (unhide HBL)).cell g c rfl
      have hx : xs[j]? = some xs[j] := List.getElem?_eq_getElem hlt
      obtain ⟨k1, k2, k3⟩ := hcell j _ hx
      have hfn := (unhide HD).fn xs[j] (List.getElem_mem _)
      have HX := hide hx
      have HC := hide (isDef1_any wr B name (((unhide HBL).cell (p := ⟨B, 0, none⟩) (cell_lt (unhide HB))).trans (unhide HB)) xs[j] hfn)
      clear hcell hx
      generalize xs[j] = X at *
      obtain ⟨n, v1, v2⟩ := X
      dsimp only at HC k1 k2 k3 hfn
      obtain ⟨h1, h2⟩ := hfn
      cases hE : n.toList == name.toList with
      | true =>
        rw [hE] at HC
        have HANY := hide (show xs.any (fun x => x.1.toList == name.toList) = true by
          rw [List.any_eq_true]
          exact ⟨_, List.mem_of_getElem? (unhide HX), hE⟩)
        rcases h1 with ⟨f, a, b, rfl⟩ | rfl <;> rcases h2 with ⟨f', a', b', rfl⟩ | rfl <;>
        · go_wp2_with (go_at_fn 298; refine (unhide HC).mono ?_; rintro e w1 ⟨rfl, hb1⟩; have HB1 := hide hb1; clear hb1)
          go_ret
          exact ⟨_, rfl, ⟨fun _ => unhide HANY, fun _ => by omega⟩, (unhide HBL).trans ((unhide HB1).mono (unhide HBL).size)⟩
      | false =>
        rw [hE] at HC
        rcases h1 with ⟨f, a, b, rfl⟩ | rfl <;> rcases h2 with ⟨f', a', b', rfl⟩ | rfl <;>
        · go_wp2_with (go_at_fn 298; refine (unhide HC).mono ?_; rintro e w1 ⟨rfl, hb1⟩; have HB1 := hide hb1; clear hb1)
          refine ⟨⟨j + 1, by omega, by go_num, fun i m hi hm => ?_, (unhide HBL).trans ((unhide HB1).mono (unhide HBL).size)⟩, by simp [intOf]; omega⟩
          rcases Nat.lt_or_ge i j with h1 | h1
          · exact (unhide HF) i m h1 hm
          · obtain rfl : i = j := by omega
            rw [unhide HX] at hm
            cases hm; exact hE
    · have HANY := hide (show ¬ xs.any (fun x => x.1.toList == name.toList) = true by
        intro h
        rw [List.any_eq_true] at h
        obtain ⟨x, hx, he⟩ := h
        obtain ⟨i, hi, rfl⟩ := List.mem_iff_getElem.1 hx
        have := (unhide HF) i xs[i] (by omega) (List.getElem?_eq_getElem hi)
        rw [this] at he; cases he)
      go_wp2_with fail
      go_ret
      exact ⟨_, rfl, ⟨fun h => by omega, fun h => absurd h (unhide HANY)⟩, unhide HBL⟩
set_option maxRecDepth 100000 in
set_option maxHeartbeats 1000000 in
theorem contains_any (W : World) (B : Nat) (name : ByteArray) (hb : W.cell? ⟨B, 0, none⟩ = some (.string name)) (dv : Value) (xs : List (ByteArray × Value × Value)) (hd : DefsV W dv xs) :
    Calls Tryz.prog 297 #[dv, .func (.func 298) #[] #[ptr4 B 0]] W fun e W' => e = .returned (.bool (xs.any (fun x => x.1.toList == name.toList))) ∧ Below W.heap.size W W' := by
  have HI := hide (idxFunc_any W B name hb dv xs hd)
  obtain ⟨q, c, rfl⟩ := hd.form
  clear hb hd
  generalize xs.any (fun x => x.1.toList == name.toList) = b at *
  go_enter Tryz.func297, Tryz.ntmps297
  go_wp2_with (go_at_call 330; refine (unhide HI).mono ?_; rintro e w1 ⟨i, rfl, hi, hb1⟩; have HB1 := hide hb1; have HII := hide hi; clear hb1 hi)
  go_ret
  refine ⟨rt_bool ?_, unhide HB1⟩
  have h := unhide HII
  cases b with
  | true => exact decide_eq_true (h.2 rfl)
  | false => exact decide_eq_false (fun hh => by have := h.1 hh; cases this)
set_option maxRecDepth 100000 in
set_option maxHeartbeats 1000000 in
theorem isDefined_any {w : World} {pb : Nat} {ts : List TokP} {st : RS} {D O : Nat → Prop} (h : RA w pb ts st D O) (name : ByteArray) :
    Calls Tryz.prog 258 #[ptr4 pb 0, .string name] w fun e w' => e = .returned (.bool (isDefR st name)) ∧ Below w.heap.size w w' := by
  have hmf : ∀ (fn : Fn) (first cap : Array Value) (w : World), (Instr.makeFunc fn first cap).run Tryz.prog w = .ok (.func fn first cap) w := fun _ _ _ _ => rfl
  obtain ⟨dv, xs, hc, hd, hl, hrep⟩ := h.defsV
  have hlt := cell_lt hc
  have hbe : Below w.heap.size w (w.alloc (box1 (.string name) 9)) := (Below.refl _ _).alloc (Nat.le_refl _) _
  have HC := hide (contains_any (w.alloc (box1 (.string name) 9)) w.heap.size name (cell_of_heap (heap_alloc_new w _)) dv xs (hd.below hbe))
  obtain ⟨q, c, rfl⟩ := hd.form
  have hany : xs.any (fun x => x.1.toList == name.toList) = isDefR st name := by
    unfold isDefR
    have hm : xs.map (·.1) = st.defs.map (·.name) := by
      refine List.ext_getElem (by simp [hl]) (fun i h1 h2 => ?_)
      simp only [List.length_map] at h1 h2
      simp only [List.getElem_map]
      exact (hrep i _ _ (List.getElem?_eq_getElem h2) (List.getElem?_eq_getElem h1)).1
    have e1 : xs.any (fun x => x.1.toList == name.toList) = (xs.map (·.1)).any (fun n => n.toList == name.toList) := by rw [List.any_map]; rfl
    have e2 : st.defs.any (fun d => d.name.toList == name.toList) = (st.defs.map (·.name)).any (fun n => n.toList == name.toList) := by rw [List.any_map]; rfl
    rw [e1, e2, hm]
  rw [hany] at HC
  have HBE := hide hbe
  clear h hd hl hrep hany hbe
  go_enter Tryz.func258, Tryz.ntmps258
  go_wp2_with (go_at_call 297; refine (unhide HC).mono ?_; rintro e w1 ⟨rfl, hb1⟩; have HB1 := hide hb1; clear hb1)
  go_ret
  exact ⟨rfl, (unhide HBE).trans ((unhide HB1).mono (unhide HBE).size)⟩
theorem tellNam_any {w : World} {pb : Nat} {ts : List TokP} {st : RS} {D O : Nat → Prop} (h : RA w pb ts st D O) (x : Int) :
    Calls Tryz.prog 228 #[ptr4 pb 9, .int .i64 x] w fun e w' => e = .returned (.tuple #[]) ∧ RA w' pb ts (tellName st x) D O ∧ Fr O w O w' := by
  obtain ⟨tb, tc, dv, av, bv, h, rfl⟩ := h
  refine (tell_any w pb 9 st.nam x _ h.blk rfl rfl).mono ?_
  rintro e w' ⟨rfl, rfl⟩
  refine ⟨rfl, ?_⟩
  cases hs : st.nam with
  | none =>
    refine ⟨⟨tb, tc, dv, av, bv, h.synSet (o := 9) _ (tellName st x) rfl rfl ?_, rfl⟩, ((Fr.refl _ _).setCell (Or.inl (Or.inl rfl)) _).setCell (Or.inl (Or.inl rfl)) _⟩
    simp [rdCells, tellName, hs, tellR, optB, optI]
  | some y =>
    have e : tellName st x = st := by simp [tellName, hs, tellR]; rw [← hs]
    rw [e]
    exact ⟨⟨tb, tc, dv, av, bv, h, rfl⟩, Fr.refl _ _⟩
end Go.Proofs.YtgdeeodifnegiaaGreatDoor
