/- The program's Decode (packages messages, byway): the message of some bytes, or what is wrong with them, as DecSaid says. -/
import Derived.Test.YtgngdklkoilaiaaGreatDoorMsgT
namespace Go.Proofs.YtgngdklkoilaiaaGreatDoor
open Go.RowKit

/-- what Decode gives -/
def DecC (b : List Int) (w : World) (e : Ending) (w' : World) : Prop :=
  Below w.heap.size w w' ∧
      ∃ vg vn vp vm, e = .returned (.tuple #[.agg #[vg, vn, vp, vm, .int .i64 (decM b).pref, .int .i64 (decM b).med], .int .i64 (decE b)]) ∧
        OwnN w' w.heap.size vg (decM b).gone ∧ OwnN w' w.heap.size vn (decM b).nets ∧ OwnI w' w.heap.size vp (decM b).path ∧ OwnI w' w.heap.size vm (decM b).marks ∧
        Apart vg vn ∧ Apart vg vp ∧ Apart vg vm ∧ Apart vn vp ∧ Apart vn vm ∧ Apart vp vm
theorem apart_nil (v : Value) : Apart (.slice none 0 0) v := fun k hk => by simp [Value.ownBlock] at hk
theorem DecC.err {b : List Int} {w w' : World} {k : Int} (h : decP b = .error k) (hb : Below w.heap.size w w') : DecC b w (.returned (.tuple #[.agg #[.slice none 0 0, .slice none 0 0, .slice none 0 0, .slice none 0 0, .int .i64 0, .int .i64 0], .int .i64 k])) w' := by
  have e1 : decM b = msgZ := by unfold decM; rw [h]
  have e2 : decE b = k := by unfold decE; rw [h]
  refine ⟨hb, _, _, _, _, by rw [e1, e2]; rfl, ?_⟩
  rw [e1]
  exact ⟨World.ownsRow_nil _ _ _ _, World.ownsRow_nil _ _ _ _, World.ownsRow_nil _ _ _ _, World.ownsRow_nil _ _ _ _, apart_nil _, apart_nil _, apart_nil _, apart_nil _, apart_nil _, apart_nil _⟩
theorem below_six6 {w w' : World} {B b : Nat} (h : Below B w w') (hb : B ≤ b) (x0 x1 x2 x3 x4 x5 : Value) :
    Below B w ((((((w'.setCell ⟨b, 0, none⟩ x0).setCell ⟨b, 1, none⟩ x1).setCell ⟨b, 2, none⟩ x2).setCell ⟨b, 3, none⟩ x3).setCell ⟨b, 4, none⟩ x4).setCell ⟨b, 5, none⟩ x5) :=
  (((((h.setCell hb _).setCell hb _).setCell hb _).setCell hb _).setCell hb _).setCell hb _
theorem own_six6 {w : World} {base : Nat} {e : TypeId} {size : Nat} {v : Value} {n : Nat} {xs : List Value} (h : w.ownsRow base e size v n xs) {b : Nat} (hb : b < base) (x0 x1 x2 x3 x4 x5 : Value) :
    ((((((w.setCell ⟨b, 0, none⟩ x0).setCell ⟨b, 1, none⟩ x1).setCell ⟨b, 2, none⟩ x2).setCell ⟨b, 3, none⟩ x3).setCell ⟨b, 4, none⟩ x4).setCell ⟨b, 5, none⟩ x5).ownsRow base e size v n xs :=
  owns_of h (fun k hk => by
    have hne : k ≠ b := by have := (h.lt k hk).1; omega
    rw [heap_set_other hne, heap_set_other hne, heap_set_other hne, heap_set_other hne, heap_set_other hne, heap_set_other hne])
/-- what is old but for ub is kept -/
theorem Fr.owns {w0 W : World} {ub : Nat} {O : Nat → Prop} (h : Fr (· = ub) w0 O W) {base : Nat} {e : TypeId} {size : Nat} {v : Value} {n : Nat} {xs : List Value} (ho : w0.ownsRow base e size v n xs) (hu : ∀ k, v.ownBlock = some k → k ≠ ub) : W.ownsRow base e size v n xs :=
  owns_of ho (fun k hk => h.block k (ho.lt k hk).2 (hu k hk))
theorem setCell_sz (w : World) (a : Addr) (v : Value) : (w.setCell a v).heap.size = w.heap.size := by simp [World.setCell]
theorem cell_before {w : World} {o : Obj} {b i : Nat} (h : b < w.heap.size) : (w.alloc o).cell? ⟨b, i, none⟩ = w.cell? ⟨b, i, none⟩ := World.cell?_of_block (Below.heap_alloc w o b h)
theorem compl_false {T : List (Int × Int)} {A : List (Int × Int × Value)} {D : List (Int × Int × List Int)} {w : World} {s : AS} (hA : AttsAt w A D) (hs : attsP ⟨msgZ, 0, false, false⟩ D = .ok s) :
    complP (T.take 21).length A = false ↔ ((T ≠ [] ∧ ¬ (s.two = true ∧ s.five = true)) ∨ (T = [] ∧ D ≠ [])) := by
  obtain ⟨h2, h5⟩ := attsP_two hs
  have hl := hA.len
  rw [← hA.any 2] at h2
  rw [← hA.any 5] at h5
  simp only [Bool.false_or] at h2 h5
  rw [h2, h5]
  unfold complP
  cases T with
  | nil =>
    rw [if_pos (by simp)]
    simp only [beq_eq_false_iff_ne, ne_eq, not_true_eq_false, false_and, true_and, false_or]
    rw [hl, List.length_eq_zero_iff]
  | cons t T =>
    rw [if_neg (by simp)]
    simp

set_option maxRecDepth 100000 in
set_option maxHeartbeats 3200000 in
theorem decode_any (b : List Int) (v : Value) (w : World) (ht : TabAt w) (h : BytesAt w v b) :
    Calls Tryz.prog 78 #[v] w (DecC b w) := by
  have HX := hide h
  have HT := hide ht
  have HOK := hide (show bytesOk b from by obtain ⟨_, _, _, _, _, hh, _⟩ := h; exact hh)
  clear h ht
  obtain ⟨wR, hwR⟩ : ∃ wR, w.alloc (.cells #[.slice none 0 0, .slice none 0 0, .slice none 0 0, .slice none 0 0, .int .i64 0, .int .i64 0] 27) = wR := ⟨_, rfl⟩
  have QR := hide (heap_alloc_new w (.cells #[.slice none 0 0, .slice none 0 0, .slice none 0 0, .slice none 0 0, .int .i64 0, .int .i64 0] 27))
  have BR := hide ((Below.refl w.heap.size w).alloc (Nat.le_refl _) (.cells #[.slice none 0 0, .slice none 0 0, .slice none 0 0, .slice none 0 0, .int .i64 0, .int .i64 0] 27))
  rw [hwR] at QR BR
  have hlR : w.heap.size < wR.heap.size := heap_lt (unhide QR)
  have HWR := hide hwR
  clear hwR
  go_enter Tryz.func78, Tryz.ntmps78
  go_wp2_with fail
  rw [unhide HWR]
  refine (split_any b _ _ ((unhide HX).below (unhide BR))).mono ?_
  rintro e w1 ⟨hb1, q1, q2, q3, n1, n2, n3, k1, k2, k3, ok, rfl, hm⟩
  have B1 := hide hb1
  have BW1 := hide ((unhide BR).trans (hb1.mono (unhide BR).size))
  have HR1 := hide ((hb1.block _ hlR).trans (unhide QR))
  have hl1 := hb1.size
  clear hb1
  obtain ⟨r0, r1, r2, r3, r4, r5⟩ := six_cells (unhide HR1)
  have hf : ∀ o, w1.frozen? ⟨w.heap.size, o, none⟩ = false := fun o => frozen_of_heap (unhide HR1)
  have hlR1 : w.heap.size < w1.heap.size := heap_lt (unhide HR1)
  cases hs : splitP b with
  | none =>
    rw [hs] at hm
    simp only at hm
    subst hm
    have HE := hide (decP_split_none hs)
    clear hs
    go_wp2
    refine bodyPost_ret (v := .tuple #[.agg #[.slice none 0 0, .slice none 0 0, .slice none 0 0, .slice none 0 0, .int .i64 0, .int .i64 0], .int .i64 6]) (by simp [results, Tryz.results78, go_sem, r0, r1, r2, r3, r4, r5, cell_before, hlR1]) rfl ?_
    exact DecC.err (unhide HE) ((below_six6 (unhide BW1) (Nat.le_refl _) _ _ _ _ _ _).alloc (by simp only [setCell_sz]; omega) _)
  | some gdt =>
    obtain ⟨G, D, T⟩ := gdt
    rw [hs] at hm
    simp only at hm
    obtain ⟨rfl, og, on, ap, A, oa, aa⟩ := hm
    have HDP := hide (decP_split hs)
    have HIN := hide (splitP_in (unhide HOK) hs)
    have e1 : n1 = (G.take 21).length := by obtain ⟨_, _, e⟩ := own_slice og; cases e; rfl
    have e2 : n2 = (T.take 21).length := by obtain ⟨_, _, e⟩ := own_slice on; cases e; rfl
    have e3 : n3 = A.length := by obtain ⟨_, _, e⟩ := own_slice oa; cases e; rfl
    have hn1 : n1 ≤ 21 := by rw [e1, List.length_take]; omega
    have hn2 : n2 ≤ 21 := by rw [e2, List.length_take]; omega
    have hn3 : n3 ≤ 65535 := by have h1 := aa.len; have h2 := (unhide HIN).2.2.2; omega
    have E1 := hide e1
    have E2 := hide e2
    have E3 := hide e3
    have AP := hide ap
    have AA := hide aa
    clear hs e1 e2 e3 ap aa r0 r1 r2 r3 r4 r5 hf
    obtain ⟨w2, hw2⟩ : ∃ w2, w1.alloc (.cells #[.slice q1 n1 k1, .slice q2 n2 k2, .slice q3 n3 k3] 240) = w2 := ⟨_, rfl⟩
    have QP := heap_alloc_new w1 (.cells #[.slice q1 n1 k1, .slice q2 n2 k2, .slice q3 n3 k3] 240)
    have B12 := (Below.refl w1.heap.size w1).alloc (Nat.le_refl _) (.cells #[.slice q1 n1 k1, .slice q2 n2 k2, .slice q3 n3 k3] 240)
    rw [hw2] at QP B12
    obtain ⟨w3, hw3⟩ : ∃ w3, w2.alloc (.cells #[.slice q1 n1 k1, .slice q2 n2 k2, .slice none 0 0, .slice none 0 0, .int .i64 0, .int .i64 0] 27) = w3 := ⟨_, rfl⟩
    have QU := heap_alloc_new w2 (.cells #[.slice q1 n1 k1, .slice q2 n2 k2, .slice none 0 0, .slice none 0 0, .int .i64 0, .int .i64 0] 27)
    have B23 := (Below.refl w2.heap.size w2).alloc (Nat.le_refl _) (.cells #[.slice q1 n1 k1, .slice q2 n2 k2, .slice none 0 0, .slice none 0 0, .int .i64 0, .int .i64 0] 27)
    rw [hw3] at QU B23
    have HW2 := hide hw2
    have HW3 := hide hw3
    have l12 : w1.heap.size < w2.heap.size := heap_lt QP
    have l23 : w2.heap.size < w3.heap.size := heap_lt QU
    have B13 := hide (B12.trans (B23.mono B12.size))
    have BR3 := hide ((unhide B1).trans ((unhide B13).mono (unhide B1).size))
    have BW3 := hide ((unhide BR).trans ((unhide BR3).mono (unhide BR).size))
    have QP3 := hide ((B23.block _ l12).trans QP)
    have QR3 := hide (((unhide B13).block _ hlR1).trans (unhide HR1))
    have BX := hide (show BoxU w3 w3 w2.heap.size (.slice q1 n1 k1) (.slice q2 n2 k2) msgZ from ⟨⟨_, _, QU, World.ownsRow_nil _ _ _ _, World.ownsRow_nil _ _ _ _, apart_nil _⟩, Fr.refl _ _⟩)
    have lg := og.lt
    have ln := on.lt
    have la := oa.lt
    have OG := hide (og.nextW (unhide B13))
    have ON := hide (on.nextW (unhide B13))
    have OA := hide (oa.next (unhide B13))
    have UG := hide (show ∀ k, (Value.slice q1 n1 k1).ownBlock = some k → k ≠ w2.heap.size from fun k hk => by have := (lg k hk).2; omega)
    have UN := hide (show ∀ k, (Value.slice q2 n2 k2).ownBlock = some k → k ≠ w2.heap.size from fun k hk => by have := (ln k hk).2; omega)
    have UA := hide (show ∀ k, (Value.slice q3 n3 k3).ownBlock = some k → k ≠ w2.heap.size from fun k hk => by have := (la k hk).2; omega)
    have LG := hide lg
    have LN := hide ln
    clear og on oa lg ln la hw2 hw3 QP QU B12 B23
    go_wp2_with fail
    rw [unhide HW2, unhide HW3, show w1.heap.size + 1 = w2.heap.size from by rw [← unhide HW2]; simp]
    refine (putAll_any A D _ wR w3 w2.heap.size q1 q2 n1 n2 k1 k2 ((unhide HT).below (unhide BR)) (unhide BR3) (by omega) l23 (unhide BX) (unhide OA).row (unhide UA) (unhide AA) (by rw [← unhide E3]; exact hn3) (unhide HIN).2.2.1).mono ?_
    rintro e w4 ⟨kk, rfl, hfr, hm⟩
    have QP4 := (hfr.block w1.heap.size (by omega) (by omega)).trans (unhide QP3)
    have QR4 := (hfr.block w.heap.size (by omega) (by omega)).trans (unhide QR3)
    have p0 : w4.cell? ⟨w1.heap.size, 0, none⟩ = some (.slice q1 n1 k1) := cell_of_heap QP4
    have p1 : w4.cell? ⟨w1.heap.size, 1, none⟩ = some (.slice q2 n2 k2) := cell_of_heap QP4
    have p2 : w4.cell? ⟨w1.heap.size, 2, none⟩ = some (.slice q3 n3 k3) := cell_of_heap QP4
    obtain ⟨r0, r1, r2, r3, r4, r5⟩ := six_cells QR4
    have hf : ∀ o, w4.frozen? ⟨w.heap.size, o, none⟩ = false := fun o => frozen_of_heap QR4
    have l4 := hfr.size
    have FR4 := hide hfr
    have BW4 := hide (hfr.toBelow (unhide BW3) (by omega))
    have HP4 := hide QP4
    have HR4 := hide QR4
    clear hfr QP4 QR4
    cases ha : attsP ⟨msgZ, 0, false, false⟩ D with
    | error cc =>
      rw [ha] at hm
      simp only at hm
      subst hm
      have HE := hide (show decP b = .error kk from by rw [unhide HDP, ha])
      have h6 := attsP_err ha
      have dk : (kk != 0) = true := by simp; omega
      clear ha h6
      go_wp2
      refine bodyPost_ret (v := .tuple #[.agg #[.slice none 0 0, .slice none 0 0, .slice none 0 0, .slice none 0 0, .int .i64 0, .int .i64 0], .int .i64 kk]) (by simp [results, Tryz.results78, go_sem, r0, r1, r2, r3, r4, r5]) rfl ?_
      exact DecC.err (unhide HE) (below_six6 (unhide BW4) (Nat.le_refl _) _ _ _ _ _ _)
    | ok s =>
      rw [ha] at hm
      simp only at hm
      obtain ⟨rfl, hbx⟩ := hm
      have BX4 := hide hbx
      have HCF := hide (compl_false (T := T) (unhide AA) ha)
      have HDQ := hide (show decP b = if (T ≠ [] ∧ ¬ (s.two = true ∧ s.five = true)) ∨ (T = [] ∧ D ≠ []) then .error 9 else if netsOk (G ++ T) then .ok { s.u with gone := G, nets := T } else .error 10 from by rw [unhide HDP, ha])
      rw [← unhide E2] at HCF
      clear ha hbx HDP
      go_wp2_with fail
      refine (complete_any A q1 q2 n1 n2 k1 k2 _ w4 (OwnU.row (w := w4) (l := A) ((unhide FR4).owns (unhide OA) (unhide UA))) (by rw [← unhide E3]; exact hn3) (unhide AA).slices (by omega)).mono ?_
      rintro e w5 ⟨rfl, hb5⟩
      have B45 := hide hb5
      have BW5 := hide ((unhide BW4).trans (hb5.mono (unhide BW4).size))
      have l5 := hb5.size
      have QP5 := (hb5.block _ (heap_lt (unhide HP4))).trans (unhide HP4)
      have QR5 := (hb5.block _ (heap_lt (unhide HR4))).trans (unhide HR4)
      have HR5 := hide QR5
      clear p0 p1 p2 r0 r1 r2 r3 r4 r5 hf hb5
      have p0 : w5.cell? ⟨w1.heap.size, 0, none⟩ = some (.slice q1 n1 k1) := cell_of_heap QP5
      have p1 : w5.cell? ⟨w1.heap.size, 1, none⟩ = some (.slice q2 n2 k2) := cell_of_heap QP5
      obtain ⟨r0, r1, r2, r3, r4, r5⟩ := six_cells QR5
      have hf : ∀ o, w5.frozen? ⟨w.heap.size, o, none⟩ = false := fun o => frozen_of_heap QR5
      clear QP5 QR5
      cases hc : complP n2 A with
      | false =>
        have HE := hide (show decP b = .error 9 from by rw [unhide HDQ, if_pos ((unhide HCF).1 hc)])
        clear hc
        go_wp2
        refine bodyPost_ret (v := .tuple #[.agg #[.slice none 0 0, .slice none 0 0, .slice none 0 0, .slice none 0 0, .int .i64 0, .int .i64 0], .int .i64 9]) (by simp [results, Tryz.results78, go_sem, r0, r1, r2, r3, r4, r5]) rfl ?_
        exact DecC.err (unhide HE) (below_six6 (unhide BW5) (Nat.le_refl _) _ _ _ _ _ _)
      | true =>
        have HDR := hide (show decP b = if netsOk (G ++ T) then .ok { s.u with gone := G, nets := T } else .error 10 from by
          rw [unhide HDQ, if_neg (fun h => by have := (unhide HCF).2 h; rw [hc] at this; cases this)])
        clear hc HDQ HCF
        have OG5 : Hid (OwnN w5 wR.heap.size (.slice q1 n1 k1) (G.take 21)) := OwnN.nextW ((unhide FR4).owns (unhide OG) (unhide UG)) (unhide B45)
        have ON5 : Hid (OwnN w5 wR.heap.size (.slice q2 n2 k2) (T.take 21)) := OwnN.nextW ((unhide FR4).owns (unhide ON) (unhide UN)) (unhide B45)
        go_wp2_with fail
        refine (validNets_any (G.take 21) (T.take 21) _ _ _ ((unhide OG5).at_ (fun x hx => (unhide HIN).1 x (List.mem_of_mem_take hx)) (by rw [← unhide E1]; omega)) ((unhide ON5).at_ (fun x hx => (unhide HIN).2.1 x (List.mem_of_mem_take hx)) (by rw [← unhide E2]; omega))).mono ?_
        rintro e w6 ⟨rfl, hb6⟩
        rw [netsOkB_take]
        have B56 := hide hb6
        have BW6 := hide ((unhide BW5).trans (hb6.mono (unhide BW5).size))
        have QR6 := (hb6.block _ (heap_lt (unhide HR5))).trans (unhide HR5)
        have BX6 := hide (((unhide BX4).next (unhide B45)).next hb6)
        clear p0 p1 r0 r1 r2 r3 r4 r5 hf hb6
        obtain ⟨r0, r1, r2, r3, r4, r5⟩ := six_cells QR6
        have hf : ∀ o, w6.frozen? ⟨w.heap.size, o, none⟩ = false := fun o => frozen_of_heap QR6
        clear QR6
        cases hn : netsOkB (G ++ T) with
        | false =>
          have HE := hide (show decP b = .error 10 from by rw [unhide HDR, if_neg (of_decide_eq_false hn)])
          clear hn
          go_wp2
          refine bodyPost_ret (v := .tuple #[.agg #[.slice none 0 0, .slice none 0 0, .slice none 0 0, .slice none 0 0, .int .i64 0, .int .i64 0], .int .i64 10]) (by simp [results, Tryz.results78, go_sem, r0, r1, r2, r3, r4, r5]) rfl ?_
          exact DecC.err (unhide HE) (below_six6 (unhide BW6) (Nat.le_refl _) _ _ _ _ _ _)
        | true =>
          have hno : netsOk (G ++ T) := of_decide_eq_true hn
          have HE := hide (show decP b = .ok { s.u with gone := G, nets := T } from by rw [unhide HDR, if_pos hno])
          have hl20 := hno.1
          rw [List.length_append] at hl20
          have OG6 : Hid (OwnN w6 wR.heap.size (.slice q1 n1 k1) G) := by
            have := (unhide OG5).nextW (unhide B56)
            rwa [List.take_of_length_le (by omega)] at this
          have ON6 : Hid (OwnN w6 wR.heap.size (.slice q2 n2 k2) T) := by
            have := (unhide ON5).nextW (unhide B56)
            rwa [List.take_of_length_le (by omega)] at this
          obtain ⟨⟨vp, vm, hbk, op, om, apm⟩, -⟩ := unhide BX6
          obtain ⟨u0, u1, u2, u3, u4, u5⟩ := six_cells hbk
          obtain ⟨qp, cp, rfl⟩ := own_slice op
          obtain ⟨qm, cm, rfl⟩ := own_slice om
          have OP := hide op
          have OM := hide om
          have APM := hide apm
          clear hn hno hl20 hbk op om apm OG5 ON5
          go_wp2
          refine bodyPost_ret (v := .tuple #[.agg #[.slice q1 n1 k1, .slice q2 n2 k2, .slice qp s.u.path.length cp, .slice qm s.u.marks.length cm, .int .i64 s.u.pref, .int .i64 s.u.med], .int .i64 0]) (by simp [results, Tryz.results78, go_sem, r0, r1, r2, r3, r4, r5]) rfl ?_
          have d1 : decM b = { s.u with gone := G, nets := T } := by unfold decM; rw [unhide HE]
          have d2 : decE b = 0 := by unfold decE; rw [unhide HE]
          refine ⟨below_six6 (unhide BW6) (Nat.le_refl _) _ _ _ _ _ _, _, _, _, _, by rw [d1, d2], ?_⟩
          rw [d1]
          refine ⟨OwnN.base (own_six6 (unhide OG6) hlR _ _ _ _ _ _) (by omega), OwnN.base (own_six6 (unhide ON6) hlR _ _ _ _ _ _) (by omega), OwnI.base (own_six6 (unhide OP) (by omega) _ _ _ _ _ _) (by omega), OwnI.base (own_six6 (unhide OM) (by omega) _ _ _ _ _ _) (by omega), unhide AP, ?_, ?_, ?_, ?_, unhide APM⟩
          · intro k h1 h2
            have := (unhide LG k h1).2
            have := ((unhide OP).lt k h2).1
            omega
          · intro k h1 h2
            have := (unhide LG k h1).2
            have := ((unhide OM).lt k h2).1
            omega
          · intro k h1 h2
            have := (unhide LN k h1).2
            have := ((unhide OP).lt k h2).1
            omega
          · intro k h1 h2
            have := (unhide LN k h1).2
            have := ((unhide OM).lt k h2).1
            omega
end Go.Proofs.YtgngdklkoilaiaaGreatDoor
