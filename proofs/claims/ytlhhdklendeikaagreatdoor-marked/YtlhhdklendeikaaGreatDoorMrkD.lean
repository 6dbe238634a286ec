/- Marked (package bywaykeep): it answers true. -/
import Derived.Test.YtlhhdklendeikaaGreatDoorMrkP
import Derived.Test.YtlhhdklendeikaaGreatDoorItoA
import Derived.Test.YtlhhdklendeikaaGreatDoorTabA
namespace Go.Proofs.YtlhhdklendeikaaGreatDoor
open Go.RowKit

theorem mk_one (w : World) (x : Int) : (w.alloc (.cells #[.int .i64 x] 3)).ownsRow w.heap.size 3 1 (.slice (some ⟨w.heap.size, 0, none⟩) 1 1) 1 [.int .i64 x] :=
  owns_int_base (l := [x]) (Nat.le_refl _) (heap_alloc_new w _) (Nat.le_refl _) (by unfold maxLen; omega) rfl (fun j y hy => by
    match j, hy with
    | 0, hy => simpa using hy
    | j + 1, hy => simp at hy)
theorem mk_cons {w : World} {base : Nat} {v : Value} {x : Int} {l : List Int} (h : w.ownsRow base 3 1 v (1 + l.length) ([.int .i64 x] ++ intCells l)) : w.ownsRow base 3 1 v (x :: l).length ((x :: l).map (Value.int .i64)) := by
  rw [show 1 + l.length = (x :: l).length by simp; omega] at h
  exact h
set_option maxRecDepth 100000 in
set_option maxHeartbeats 8000000 in
theorem marked_any (w : World) (ht : TokTabs w) (hpt : PowTab w) (rr steps : List Int) (x y : Value) (hx : IntsAt w x rr) (hy : IntsAt w y steps) :
    Calls Tryz.prog 8 #[x, y] w fun e w' => e = .returned (.bool true) ∧ Below w.heap.size w w' := by
  obtain ⟨q, c, rfl, hcap, hl, hin, hr⟩ := hy
  have HR := hide hr
  have HIN := hide hin
  have HT := hide ht
  have HPT := hide hpt
  have HK := hide (known_any w ht)
  have HOK := hide (routeR_ok rr)
  have HGD := hide (routeR_good rr)
  have HR1 := hide (fun (W : World) (h : Below w.heap.size w W) => route_said rr x W (hx.below h))
  obtain ⟨p0, c0, hxv, _⟩ := hx
  subst hxv
  generalize routeR rr = R at *
  have HR2 := HR1
  clear hr hin ht hpt
  go_enter Tryz.func8, Tryz.ntmps8
  go_wp2_with (first
    | (go_at_call 9; refine (unhide HK).mono ?_; clear HK; rintro e w1 ⟨rfl, hb1⟩; have HB1 := hide hb1; clear hb1)
    | (go_at_call 13; refine ((unhide HR1) _ (unhide HB1)).mono ?_; clear HR1; rintro e w2 ⟨vp, vm, rfl, ho1, ho2, hb2⟩; obtain ⟨a1, e1, hvp⟩ := owns_form' ho1; obtain ⟨a2, e2, hvm⟩ := owns_form' ho2; have HB2 := hide ((unhide HB1).trans (hb2.mono (unhide HB1).size)); have HO1 := hide ho1; have HO2 := hide ho2; clear hb2 ho1 ho2; subst hvp hvm)
    | (go_at_call 13; refine ((unhide HR2) _ ((unhide HB2).alloc (unhide HB2).size _)).mono ?_; clear HR2; rintro e w4 ⟨vp', vm', rfl, ho3, ho4, hb4⟩; obtain ⟨a3, e3, hvp'⟩ := owns_form' ho3; obtain ⟨a4, e4, hvm'⟩ := owns_form' ho4; have HB4 := hide hb4; have HO3 := hide ho3; have HO4 := hide ho4; clear hb4 ho3 ho4; subst hvp' hvm'))
  obtain ⟨j1, j2, j3, j4, j5, j6⟩ := rtOk_in (unhide HOK)
  have hb0 : Below w4.heap.size w4 (w4.alloc (rtBlk R (.slice a3 R.path.length e3) (.slice a4 R.marks.length e4))) := (Below.refl _ _).alloc (Nat.le_refl _) _
  have hMI : MI w4 R (.slice a3 R.path.length e3) (.slice a4 R.marks.length e4) (w4.alloc (rtBlk R (.slice a3 R.path.length e3) (.slice a4 R.marks.length e4))) :=
    ⟨heap_alloc_new _ _, (IntsAt.own (unhide HO3) j3 (by omega)).below hb0, (IntsAt.own (unhide HO4) j4 (by omega)).below hb0, fun e => by have := ((unhide HO3).lt _ e).2; omega, fun e => by have := ((unhide HO4).lt _ e).2; omega, hb0⟩
  have hba : Below w2.heap.size w2 (w2.alloc (rtBlk R (.slice a1 R.path.length e1) (.slice a2 R.marks.length e2))) := (Below.refl _ _).alloc (Nat.le_refl _) _
  have HW6 := hide (show w4.heap[w2.heap.size]? = some (rtBlk R (.slice a1 R.path.length e1) (.slice a2 R.marks.length e2)) from ((unhide HB4).block w2.heap.size (by simp)).trans (heap_alloc_new w2 _))
  have HI1 := hide (show IntsAt w4 (.slice a1 R.path.length e1) R.path from ((IntsAt.own (unhide HO1) j3 (by omega)).below hba).below (unhide HB4))
  have HI2 := hide (show IntsAt w4 (.slice a2 R.marks.length e2) R.marks from ((IntsAt.own (unhide HO2) j4 (by omega)).below hba).below (unhide HB4))
  have hBa := (unhide HB2).alloc (unhide HB2).size (rtBlk R (.slice a1 R.path.length e1) (.slice a2 R.marks.length e2))
  have HBW := hide (show Below w.heap.size w w4 from hBa.trans ((unhide HB4).mono hBa.size))
  obtain ⟨W0, hW0⟩ : ∃ W0, w4.alloc (rtBlk R (.slice a3 R.path.length e3) (.slice a4 R.marks.length e4)) = W0 := ⟨_, rfl⟩
  rw [hW0] at hMI
  have HMI := hide hMI
  have hwz : w2.heap.size < w4.heap.size := heap_lt (unhide HW6)
  have hww : w.heap.size ≤ w4.heap.size := (unhide HBW).size
  have HBD := hide (show mkBd R from ⟨(unhide HGD).2.1, (unhide HGD).2.2⟩)
  clear hMI hb0 hba hBa HO1 HO2 HO3 HO4 HB1 HB2 HB4 j1 j2 j3 j4 j5 j6
  unfold rtBlk at hW0
  rw [hW0]
  clear hW0
  go_loopw [8, 9, 10] (fun s f i wr => ∃ (j : Nat) (pv mv : Value), j ≤ steps.length ∧ j ≤ 20 ∧ i = .int .i64 (j : Nat) ∧ s = .string (mkS (opsTo steps j)) ∧ f = .bool (mkV R (opsTo steps j)).2 ∧ MI w4 (mkV R (opsTo steps j)).1 pv mv wr) (fun _ _ i _ => 20 - (intOf i).toNat)
  case atStart =>
    exact ⟨0, _, _, Nat.zero_le _, Nat.zero_le _, rfl, rfl, rfl, unhide HMI⟩
  case round =>
    obtain ⟨j, pv, mv, hj, hj20, rfl, rfl, rfl, hmi⟩ := hrel
    clear HMI
    have HMI := hide hmi
    clear hmi
    obtain ⟨bd1, bd2⟩ := mkV_bd (unhide HBD) (opsTo steps j)
    have hSs := mkS_len (opsTo steps j) (opsTo_ok steps j)
    rw [opsTo_len] at hSs
    obtain ⟨pa, pc, hpv, _⟩ := (unhide HMI).path
    obtain ⟨ma, mc, hmv, _⟩ := (unhide HMI).marks
    have hsz : w4.heap.size < wr.heap.size := heap_lt (unhide HMI).blk
    by_cases hlt : j < steps.length ∧ j < 20
    · obtain ⟨hlt, hl20⟩ := hlt
      rcases unhide HR with h | ⟨b, o, rfl, hb, hc⟩
      · rw [h.1] at hlt; simp at hlt
      have hck : wr.cell? ⟨b, o + j, none⟩ = some (.int .i64 steps[j]) := ((unhide HMI).bel.cell (p := ⟨b, o + j, none⟩) (by show b < _; omega)).trans (((unhide HBW).cell (p := ⟨b, o + j, none⟩) hb).trans (hc j hlt))
      have hI := unhide HIN steps[j] (List.getElem_mem _)
      unfold inI at hI
      have HSN := hide (opsTo_snoc steps j)
      rw [show steps.getD j 0 = steps[j] by simp [List.getD, List.getElem?_eq_getElem hlt]] at HSN
      clear hc
      generalize steps[j] = X at *
      have hx3 := tdiv_in hI.1 hI.2 (k := 3) (by omega)
      have bN := pickP_bd (c := X.tdiv 3) (n := 12) (by omega)
      have HPN := hide (fun (W : World) => pick_any (X.tdiv 3) 12 W (by omega) (by omega) (by omega) (by omega))
      have HPC := hide (fun (W : World) => pick_any X 3 W (by omega) (by omega) (by omega) (by omega))
      have hKD : (pickP X 3 = 0 ∧ opAt X = (.put, (pickP (X.tdiv 3) 12).toNat)) ∨ (pickP X 3 = 1 ∧ opAt X = (.drop, (pickP (X.tdiv 3) 12).toNat)) ∨ (pickP X 3 ≠ 0 ∧ pickP X 3 ≠ 1 ∧ opAt X = (.pre, (pickP (X.tdiv 3) 12).toNat + 1)) := by
        unfold opAt
        by_cases h0 : pickP X 3 = 0
        · exact Or.inl ⟨h0, if_pos h0⟩
        · by_cases h1 : pickP X 3 = 1
          · exact Or.inr (Or.inl ⟨h1, by rw [if_neg h0, if_pos h1]⟩)
          · exact Or.inr (Or.inr ⟨h0, h1, by rw [if_neg h0, if_neg h1]⟩)
      obtain ⟨u, hu⟩ := Int.eq_ofNat_of_zero_le bN.1
      rw [hu] at bN HPN hKD
      rw [Int.toNat_natCast] at hKD
      have hPW := ((unhide HPT).below (unhide HBW)).below (unhide HMI).bel
      have HVN := hide (mkV_snoc R (opsTo steps j))
      have HTN := hide (mkS_snoc (opsTo steps j))
      generalize hC : pickP X 3 = C at *
      generalize hO : opAt X = op at *
      generalize mkV R (opsTo steps j) = A at *
      generalize mkS (opsTo steps j) = S at *
      obtain ⟨rj, F⟩ := A
      dsimp only at bd1 bd2 hpv hmv HMI ⊢
      clear hC hO hu
      obtain ⟨r0, r1, r2, r3, r4, r5, rz⟩ := rt6 (unhide HMI).blk
      rcases hKD with ⟨rfl, rfl⟩ | ⟨rfl, rfl⟩ | ⟨hk0, hk1, rfl⟩
      · have HS2 := hide (show mkS (opsTo steps (j + 1)) = ((S ++ bsA [109, 97, 114, 107, 32]) ++ bsA (Lib.decDigits u)) ++ bsA [59, 32] by rw [unhide HSN, ← unhide HTN]; rfl)
        have HIT := hide (itoa_any u (by omega) wr hPW)
        have hds : (Lib.decDigits u).length ≤ 10 := dec_len (by omega)
        have HWT := hide (fun (W : World) (hW : Below wr.heap.size wr W) => with_any rj.marks mv (u : Int) W (by omega) ((unhide HMI).marks.below hW))
        obtain ⟨L, hL⟩ : ∃ L, withF (u : Int) false rj.marks = L := ⟨_, rfl⟩
        have HLI := hide (show ∀ x ∈ L, inI x from fun x hx => by
          rw [← hL] at hx
          rcases withF_mem _ _ _ x hx with e | e
          · subst e; unfold inI; omega
          · exact (unhide HMI).marks.all x e)
        have hst : mkStep (rj, F) (.put, u) = if F || decide (8 < L.length) then (rj, true) else ({ rj with marks := L }, false) := by rw [← hL]; rfl
        rw [hL] at HWT
        clear hL hPW
        subst hpv hmv
        cases F with
        | true =>
          have HV2 := hide (show mkV R (opsTo steps (j + 1)) = (rj, true) by rw [unhide HSN, unhide HVN, hst]; rfl)
          clear hst HSN HVN HTN
          go_wp2_with (first
            | (go_at_call 22; refine ((unhide HPN) _).mono ?_; clear HPN; rintro e w' ⟨rfl, rfl⟩)
            | (go_at_call 22; refine ((unhide HPC) _).mono ?_; clear HPC; rintro e w' ⟨rfl, rfl⟩)
            | (go_at_call 24; refine (unhide HIT).mono ?_; clear HIT; rintro e w5 ⟨rfl, hb5⟩; have s2 := (hb5.cell (p := ⟨w4.heap.size, 2, none⟩) hsz).trans r2; have s3 := (hb5.cell (p := ⟨w4.heap.size, 3, none⟩) hsz).trans r3; have hs5 := hb5.size; have hl5 : w4.heap.size < w5.heap.size := (by omega); have HB5 := hide hb5; clear hb5)
            | (go_at_call 26; refine ((unhide HWT) _ (unhide HB5)).mono ?_; clear HWT; rintro e w6 ⟨v, rfl, ho, hb6⟩; obtain ⟨va, vc, hv⟩ := owns_form' ho; have s6 := (hb6.cell (p := ⟨w4.heap.size, 3, none⟩) (by show w4.heap.size < _; omega)).trans s3; have z6 := (hb6.frozen (p := ⟨w4.heap.size, 3, none⟩) (by show w4.heap.size < _; omega)).trans (((unhide HB5).frozen (p := ⟨w4.heap.size, 3, none⟩) hsz).trans (rz 3)); have HB6 := hide ((unhide HB5).trans (hb6.mono (unhide HB5).size)); have HO := hide ho; clear hb6 ho; subst hv))
          refine ⟨⟨j + 1, _, _, by omega, by omega, by go_num, by rw [unhide HS2] <;> rfl, by rw [unhide HV2] <;> rfl, by rw [unhide HV2]; exact (unhide HMI).below (unhide HB6)⟩, by simp [intOf]; omega⟩
        | false =>
          by_cases hov : 8 < L.length
          · have hov' : (8 : Int) < ((L.length : Nat) : Int) := by omega
            have HV2 := hide (show mkV R (opsTo steps (j + 1)) = (rj, true) by rw [unhide HSN, unhide HVN, hst, decide_eq_true hov]; rfl)
            clear hst HSN HVN HTN
            go_wp2_with (first
              | (go_at_call 22; refine ((unhide HPN) _).mono ?_; clear HPN; rintro e w' ⟨rfl, rfl⟩)
              | (go_at_call 22; refine ((unhide HPC) _).mono ?_; clear HPC; rintro e w' ⟨rfl, rfl⟩)
              | (go_at_call 24; refine (unhide HIT).mono ?_; clear HIT; rintro e w5 ⟨rfl, hb5⟩; have s2 := (hb5.cell (p := ⟨w4.heap.size, 2, none⟩) hsz).trans r2; have s3 := (hb5.cell (p := ⟨w4.heap.size, 3, none⟩) hsz).trans r3; have hs5 := hb5.size; have hl5 : w4.heap.size < w5.heap.size := (by omega); have HB5 := hide hb5; clear hb5)
              | (go_at_call 26; refine ((unhide HWT) _ (unhide HB5)).mono ?_; clear HWT; rintro e w6 ⟨v, rfl, ho, hb6⟩; obtain ⟨va, vc, hv⟩ := owns_form' ho; have s6 := (hb6.cell (p := ⟨w4.heap.size, 3, none⟩) (by show w4.heap.size < _; omega)).trans s3; have z6 := (hb6.frozen (p := ⟨w4.heap.size, 3, none⟩) (by show w4.heap.size < _; omega)).trans (((unhide HB5).frozen (p := ⟨w4.heap.size, 3, none⟩) hsz).trans (rz 3)); have HB6 := hide ((unhide HB5).trans (hb6.mono (unhide HB5).size)); have HO := hide ho; clear hb6 ho; subst hv))
            refine ⟨⟨j + 1, _, _, by omega, by omega, by go_num, by rw [unhide HS2] <;> rfl, by rw [unhide HV2] <;> rfl, by rw [unhide HV2]; exact (unhide HMI).below (unhide HB6)⟩, by simp [intOf]; omega⟩
          · have hov' : decide ((8 : Int) < ((L.length : Nat) : Int)) = false := decide_eq_false (by omega)
            have HV2 := hide (show mkV R (opsTo steps (j + 1)) = ({ rj with marks := L }, false) by rw [unhide HSN, unhide HVN, hst, decide_eq_false hov]; rfl)
            clear hst HSN HVN HTN
            go_wp2_with (first
              | (go_at_call 22; refine ((unhide HPN) _).mono ?_; clear HPN; rintro e w' ⟨rfl, rfl⟩)
              | (go_at_call 22; refine ((unhide HPC) _).mono ?_; clear HPC; rintro e w' ⟨rfl, rfl⟩)
              | (go_at_call 24; refine (unhide HIT).mono ?_; clear HIT; rintro e w5 ⟨rfl, hb5⟩; have s2 := (hb5.cell (p := ⟨w4.heap.size, 2, none⟩) hsz).trans r2; have s3 := (hb5.cell (p := ⟨w4.heap.size, 3, none⟩) hsz).trans r3; have hs5 := hb5.size; have hl5 : w4.heap.size < w5.heap.size := (by omega); have HB5 := hide hb5; clear hb5)
              | (go_at_call 26; refine ((unhide HWT) _ (unhide HB5)).mono ?_; clear HWT; rintro e w6 ⟨v, rfl, ho, hb6⟩; obtain ⟨va, vc, hv⟩ := owns_form' ho; have s6 := (hb6.cell (p := ⟨w4.heap.size, 3, none⟩) (by show w4.heap.size < _; omega)).trans s3; have z6 := (hb6.frozen (p := ⟨w4.heap.size, 3, none⟩) (by show w4.heap.size < _; omega)).trans (((unhide HB5).frozen (p := ⟨w4.heap.size, 3, none⟩) hsz).trans (rz 3)); have HB6 := hide ((unhide HB5).trans (hb6.mono (unhide HB5).size)); have HO := hide ho; clear hb6 ho; subst hv))
            refine ⟨⟨j + 1, _, _, by omega, by omega, by go_num, by rw [unhide HS2] <;> rfl, by rw [unhide HV2] <;> rfl, by rw [unhide HV2]; exact (unhide HMI).setMarks (unhide HB6) hs5 (unhide HO) (unhide HLI) (by omega)⟩, by simp [intOf]; omega⟩
      · have HS2 := hide (show mkS (opsTo steps (j + 1)) = ((S ++ bsA [117, 110, 109, 97, 114, 107, 32]) ++ bsA (Lib.decDigits u)) ++ bsA [59, 32] by rw [unhide HSN, ← unhide HTN]; rfl)
        have HIT := hide (itoa_any u (by omega) wr hPW)
        have hds : (Lib.decDigits u).length ≤ 10 := dec_len (by omega)
        have HWT := hide (fun (W : World) (hW : Below wr.heap.size wr W) => without_any rj.marks mv (u : Int) W (by omega) ((unhide HMI).marks.below hW))
        obtain ⟨L, hL⟩ : ∃ L, rj.marks.filter (fun x => decide (x ≠ (u : Int))) = L := ⟨_, rfl⟩
        have HLI := hide (show (∀ x ∈ L, inI x) ∧ L.length ≤ 1000 from ⟨fun x hx => by
          rw [← hL] at hx
          exact (unhide HMI).marks.all x (List.mem_filter.1 hx).1, by
          have := List.length_filter_le (fun x => decide (x ≠ (u : Int))) rj.marks
          rw [hL] at this; omega⟩)
        have hst : mkStep (rj, F) (.drop, u) = ({ rj with marks := L }, F) := by rw [← hL]; rfl
        rw [hL] at HWT
        clear hL hPW
        subst hpv hmv
        have HV2 := hide (show mkV R (opsTo steps (j + 1)) = ({ rj with marks := L }, F) by rw [unhide HSN, unhide HVN, hst])
        clear hst HSN HVN HTN
        go_wp2_with (first
          | (go_at_call 22; refine ((unhide HPN) _).mono ?_; clear HPN; rintro e w' ⟨rfl, rfl⟩)
          | (go_at_call 22; refine ((unhide HPC) _).mono ?_; clear HPC; rintro e w' ⟨rfl, rfl⟩)
          | (go_at_call 24; refine (unhide HIT).mono ?_; clear HIT; rintro e w5 ⟨rfl, hb5⟩; have s2 := (hb5.cell (p := ⟨w4.heap.size, 2, none⟩) hsz).trans r2; have s3 := (hb5.cell (p := ⟨w4.heap.size, 3, none⟩) hsz).trans r3; have hs5 := hb5.size; have hl5 : w4.heap.size < w5.heap.size := (by omega); have HB5 := hide hb5; clear hb5)
          | (go_at_call 27; refine ((unhide HWT) _ (unhide HB5)).mono ?_; clear HWT; rintro e w6 ⟨v, rfl, ho, hb6⟩; obtain ⟨va, vc, hv⟩ := owns_form' ho; have s6 := (hb6.cell (p := ⟨w4.heap.size, 3, none⟩) (by show w4.heap.size < _; omega)).trans s3; have z6 := (hb6.frozen (p := ⟨w4.heap.size, 3, none⟩) (by show w4.heap.size < _; omega)).trans (((unhide HB5).frozen (p := ⟨w4.heap.size, 3, none⟩) hsz).trans (rz 3)); have HB6 := hide ((unhide HB5).trans (hb6.mono (unhide HB5).size)); have HO := hide ho; clear hb6 ho; subst hv))
        refine ⟨⟨j + 1, _, _, by omega, by omega, by go_num, by rw [unhide HS2] <;> rfl, by rw [unhide HV2] <;> rfl, by rw [unhide HV2]; exact (unhide HMI).setMarks (unhide HB6) hs5 (unhide HO) (unhide HLI).1 (unhide HLI).2⟩, by simp [intOf]; omega⟩
      · have HS2 := hide (show mkS (opsTo steps (j + 1)) = ((S ++ bsA [112, 114, 101, 112, 101, 110, 100, 32]) ++ bsA (Lib.decDigits (u + 1))) ++ bsA [59, 32] by rw [unhide HSN, ← unhide HTN]; rfl)
        have HIT : Hid (Calls Tryz.prog 24 #[.int .i64 ((u : Int) + 1)] wr fun e w' => e = .returned (.string (bsA (Lib.decDigits (u + 1)))) ∧ Below wr.heap.size wr w') := hide (itoa_any (u + 1) (by omega) wr hPW)
        have hds : (Lib.decDigits (u + 1)).length ≤ 10 := dec_len (by omega)
        have HRD := hide (fun (W : World) (hW : Below wr.heap.size wr W) => ints_reads ((unhide HMI).path.below hW))
        obtain ⟨i0, hi0, hz0, hz1, hz2⟩ := info_parts Tryz.infoInt
        have hst : mkStep (rj, F) (.pre, u + 1) = if F || decide (12 < rj.path.length + 1) then (rj, true) else ({ rj with path := ((u : Int) + 1) :: rj.path }, false) := rfl
        have HLI := hide (show ∀ x ∈ ((u : Int) + 1) :: rj.path, inI x from fun x hx => by
          rcases List.mem_cons.1 hx with e | e
          · subst e; unfold inI; omega
          · exact (unhide HMI).path.all x e)
        have hk0' : (C == 0) = false := by simpa using hk0
        have hk1' : (C == 1) = false := by simpa using hk1
        clear hPW
        subst hpv hmv
        cases F with
        | true =>
          have HV2 := hide (show mkV R (opsTo steps (j + 1)) = (rj, true) by rw [unhide HSN, unhide HVN, hst]; rfl)
          clear hst HSN HVN HTN
          go_wp2_with (first
            | (go_at_call 22; refine ((unhide HPN) _).mono ?_; clear HPN; rintro e w' ⟨rfl, rfl⟩)
            | (go_at_call 22; refine ((unhide HPC) _).mono ?_; clear HPC; rintro e w' ⟨rfl, rfl⟩)
            | (go_at_call 24; refine (unhide HIT).mono ?_; clear HIT; rintro e w5 ⟨rfl, hb5⟩; have s2 := (hb5.cell (p := ⟨w4.heap.size, 2, none⟩) hsz).trans r2; have s3 := (hb5.cell (p := ⟨w4.heap.size, 3, none⟩) hsz).trans r3; have hs5 := hb5.size; have hl5 : w4.heap.size < w5.heap.size := (by omega); have HB5 := hide hb5; clear hb5)
            | (at_builtin; refine wpList_append_reads rfl _ _ _ rfl w5.heap.size 3 i0 _ 1 8 Tryz.underlying22 hi0 hz0 hz1 hz2 rfl (by omega) (.slice (some ⟨w5.heap.size, 0, none⟩) 1 1) 1 [.int .i64 ((u : Int) + 1)] rfl (mk_one w5 _) (.slice pa rj.path.length pc) rj.path.length (intCells rj.path) rfl ((unhide HRD) _ ((unhide HB5).alloc (unhide HB5).size _)) (by simp [intCells]) (by simp [intCells, Value.oneCell']) (by unfold maxLen; omega) (by omega) (by simp) ?_; intro v w6 ho hg hat; obtain ⟨va, vc, hv⟩ := owns_form' ho; have hb6 := ((unhide HB5).alloc (unhide HB5).size (.cells #[.int .i64 ((u : Int) + 1)] 3)).grown hg (by simp; omega) (fun k e => by have e' : some w5.heap.size = some k := e; cases e'; exact (unhide HB5).size); have s6 := (hb6.cell (p := ⟨w4.heap.size, 2, none⟩) hsz).trans r2; have z6 := (hb6.frozen (p := ⟨w4.heap.size, 2, none⟩) hsz).trans (rz 2); have HB6 := hide hb6; have HO := hide ho; clear hb6 ho hg hat; subst hv))
          refine ⟨⟨j + 1, _, _, by omega, by omega, by go_num, by rw [unhide HS2] <;> rfl, by rw [unhide HV2] <;> rfl, by rw [unhide HV2]; exact (unhide HMI).below (unhide HB6)⟩, by simp [intOf]; omega⟩
        | false =>
          by_cases hov : 12 < rj.path.length + 1
          · have hov' : decide ((12 : Int) < 1 + ((rj.path.length : Nat) : Int)) = true := decide_eq_true (by omega)
            have HV2 := hide (show mkV R (opsTo steps (j + 1)) = (rj, true) by rw [unhide HSN, unhide HVN, hst, decide_eq_true hov]; rfl)
            clear hst HSN HVN HTN
            go_wp2_with (first
              | (go_at_call 22; refine ((unhide HPN) _).mono ?_; clear HPN; rintro e w' ⟨rfl, rfl⟩)
              | (go_at_call 22; refine ((unhide HPC) _).mono ?_; clear HPC; rintro e w' ⟨rfl, rfl⟩)
              | (go_at_call 24; refine (unhide HIT).mono ?_; clear HIT; rintro e w5 ⟨rfl, hb5⟩; have s2 := (hb5.cell (p := ⟨w4.heap.size, 2, none⟩) hsz).trans r2; have s3 := (hb5.cell (p := ⟨w4.heap.size, 3, none⟩) hsz).trans r3; have hs5 := hb5.size; have hl5 : w4.heap.size < w5.heap.size := (by omega); have HB5 := hide hb5; clear hb5)
              | (at_builtin; refine wpList_append_reads rfl _ _ _ rfl w5.heap.size 3 i0 _ 1 8 Tryz.underlying22 hi0 hz0 hz1 hz2 rfl (by omega) (.slice (some ⟨w5.heap.size, 0, none⟩) 1 1) 1 [.int .i64 ((u : Int) + 1)] rfl (mk_one w5 _) (.slice pa rj.path.length pc) rj.path.length (intCells rj.path) rfl ((unhide HRD) _ ((unhide HB5).alloc (unhide HB5).size _)) (by simp [intCells]) (by simp [intCells, Value.oneCell']) (by unfold maxLen; omega) (by omega) (by simp) ?_; intro v w6 ho hg hat; obtain ⟨va, vc, hv⟩ := owns_form' ho; have hb6 := ((unhide HB5).alloc (unhide HB5).size (.cells #[.int .i64 ((u : Int) + 1)] 3)).grown hg (by simp; omega) (fun k e => by have e' : some w5.heap.size = some k := e; cases e'; exact (unhide HB5).size); have s6 := (hb6.cell (p := ⟨w4.heap.size, 2, none⟩) hsz).trans r2; have z6 := (hb6.frozen (p := ⟨w4.heap.size, 2, none⟩) hsz).trans (rz 2); have HB6 := hide hb6; have HO := hide ho; clear hb6 ho hg hat; subst hv))
            refine ⟨⟨j + 1, _, _, by omega, by omega, by go_num, by rw [unhide HS2] <;> rfl, by rw [unhide HV2] <;> rfl, by rw [unhide HV2]; exact (unhide HMI).below (unhide HB6)⟩, by simp [intOf]; omega⟩
          · have hov' : decide ((12 : Int) < 1 + ((rj.path.length : Nat) : Int)) = false := decide_eq_false (by omega)
            have HV2 := hide (show mkV R (opsTo steps (j + 1)) = ({ rj with path := ((u : Int) + 1) :: rj.path }, false) by rw [unhide HSN, unhide HVN, hst, decide_eq_false hov]; rfl)
            clear hst HSN HVN HTN
            go_wp2_with (first
              | (go_at_call 22; refine ((unhide HPN) _).mono ?_; clear HPN; rintro e w' ⟨rfl, rfl⟩)
              | (go_at_call 22; refine ((unhide HPC) _).mono ?_; clear HPC; rintro e w' ⟨rfl, rfl⟩)
              | (go_at_call 24; refine (unhide HIT).mono ?_; clear HIT; rintro e w5 ⟨rfl, hb5⟩; have s2 := (hb5.cell (p := ⟨w4.heap.size, 2, none⟩) hsz).trans r2; have s3 := (hb5.cell (p := ⟨w4.heap.size, 3, none⟩) hsz).trans r3; have hs5 := hb5.size; have hl5 : w4.heap.size < w5.heap.size := (by omega); have HB5 := hide hb5; clear hb5)
              | (at_builtin; refine wpList_append_reads rfl _ _ _ rfl w5.heap.size 3 i0 _ 1 8 Tryz.underlying22 hi0 hz0 hz1 hz2 rfl (by omega) (.slice (some ⟨w5.heap.size, 0, none⟩) 1 1) 1 [.int .i64 ((u : Int) + 1)] rfl (mk_one w5 _) (.slice pa rj.path.length pc) rj.path.length (intCells rj.path) rfl ((unhide HRD) _ ((unhide HB5).alloc (unhide HB5).size _)) (by simp [intCells]) (by simp [intCells, Value.oneCell']) (by unfold maxLen; omega) (by omega) (by simp) ?_; intro v w6 ho hg hat; obtain ⟨va, vc, hv⟩ := owns_form' ho; have hb6 := ((unhide HB5).alloc (unhide HB5).size (.cells #[.int .i64 ((u : Int) + 1)] 3)).grown hg (by simp; omega) (fun k e => by have e' : some w5.heap.size = some k := e; cases e'; exact (unhide HB5).size); have s6 := (hb6.cell (p := ⟨w4.heap.size, 2, none⟩) hsz).trans r2; have z6 := (hb6.frozen (p := ⟨w4.heap.size, 2, none⟩) hsz).trans (rz 2); have HB6 := hide hb6; have HO := hide ho; clear hb6 ho hg hat; subst hv))
            refine ⟨⟨j + 1, _, _, by omega, by omega, by go_num, by rw [unhide HS2] <;> rfl, by rw [unhide HV2] <;> rfl, by rw [unhide HV2]; exact (unhide HMI).setPath (L := ((u : Int) + 1) :: rj.path) (unhide HB6) hs5 (mk_cons (unhide HO)) (unhide HLI) (by simp; omega)⟩, by simp [intOf]; omega⟩
    · have HC := hide (compiled_ok (mk_read _ (by rw [opsTo_len]; exact hj20) (opsTo_ok steps j)) wr (((unhide HT).below (unhide HBW)).below (unhide HMI).bel))
      rw [← mkS_all] at HC
      have HRC := hide (fun (w5 : World) (pp : Nat) (hb : Below wr.heap.size wr w5) (hl : Lasts w5 (fun k => wr.heap.size ≤ k) (PolC pp (mkMs (opsTo steps j)))) (hv : (mkV R (opsTo steps j)).2 = true) => mk_call_fail hl (Below.refl _ _) (((unhide HI1).below (unhide HMI).bel).below hb) (((unhide HI2).below (unhide HMI).bel).below hb) (unhide HOK) hv)
      have HRD := hide (fun (w5 : World) (pp : Nat) (r1 : Rt) (hb : Below wr.heap.size wr w5) (hl : Lasts w5 (fun k => wr.heap.size ≤ k) (PolC pp (mkMs (opsTo steps j)))) (hv : mkV R (opsTo steps j) = (r1, false)) => mk_call_ok hl (Below.refl _ _) (((unhide HI1).below (unhide HMI).bel).below hb) (((unhide HI2).below (unhide HMI).bel).below hb) (unhide HOK) hv)
      have HB6 := hide (((unhide HMI).bel.block w2.heap.size hwz).trans (unhide HW6))
      have hq6 : w2.heap.size < wr.heap.size := by omega
      generalize mkMs (opsTo steps j) = ms at *
      generalize mkV R (opsTo steps j) = A at *
      generalize mkS (opsTo steps j) = S at *
      obtain ⟨rj, F⟩ := A
      dsimp only at bd1 bd2 hpv hmv HMI ⊢
      subst hpv hmv
      rcases (show ¬ j < steps.length ∨ (j < steps.length ∧ ¬ j < 20) from (Decidable.em (j < steps.length)).elim (fun h => Or.inr ⟨h, fun h2 => hlt ⟨h, h2⟩⟩) Or.inl) with h1 | ⟨h1, h2⟩
      all_goals
        clear hlt
        cases F with
        | true =>
          clear HRD
          go_wp2_with (first
            | (go_at_call 10; refine (unhide HC).mono ?_; clear HC; rintro e w5 ⟨pp, rfl, hb5, hl5⟩; have HB5 := hide hb5; have HRE := hide ((unhide HRC) w5 pp hb5 hl5 rfl); clear HRC; obtain ⟨r0, r1, r2, r3, r4, r5, rz⟩ := rt6 ((hb5.block w2.heap.size hq6).trans (unhide HB6)); clear hb5 hl5)
            | (go_at_call 14; refine (unhide HRE).mono ?_; clear HRE; rintro e w6 ⟨pv6, mv6, rfl, hv6, hb6⟩; obtain ⟨f5, f6, hf5⟩ := owns_form' hv6.1; obtain ⟨f7, f8, hf7⟩ := owns_form' hv6.2.1; change pv6 = .slice f5 0 f6 at hf5; change mv6 = .slice f7 0 f8 at hf7; have HB7 := hide hb6; have HV6 := hide hv6; clear hb6 hv6; unfold rtV rt0; dsimp only; subst hf5 hf7)
            | (go_at_call 15; have hba : Below w6.heap.size w6 (w6.alloc (rtBlk rt0 (.slice f5 0 f6) (.slice f7 0 f8))) := (Below.refl _ _).alloc (Nat.le_refl _) _; have hi6 := rtVal_ints (unhide HV6) (by simp [rt0]) (by simp [rt0]) (by simp [rt0]) (by simp [rt0]); refine (same_self (r := rt0) (hi6.1.below hba) (hi6.2.below hba) (ints_none _) (ints_none _)).mono ?_; rintro e w7 ⟨rfl, hb7⟩; have HB8 := hide (hba.trans (hb7.mono hba.size)); clear hb7 hba hi6))
          go_ret
          refine ⟨rfl, ?_⟩
          have hA := (unhide HBW).trans ((unhide HMI).bel.mono hww)
          have hB := hA.trans ((unhide HB5).mono hA.size)
          have hC := hB.trans ((unhide HB7).mono hB.size)
          exact hC.trans ((unhide HB8).mono hC.size)
        | false =>
          clear HRC
          go_wp2_with (first
            | (go_at_call 10; refine (unhide HC).mono ?_; clear HC; rintro e w5 ⟨pp, rfl, hb5, hl5⟩; have HB5 := hide hb5; have HRE := hide ((unhide HRD) w5 pp rj hb5 hl5 rfl); clear HRD; obtain ⟨r0, r1, r2, r3, r4, r5, rz⟩ := rt6 ((hb5.block w2.heap.size hq6).trans (unhide HB6)); clear hb5 hl5)
            | (go_at_call 14; refine (unhide HRE).mono ?_; clear HRE; rintro e w6 ⟨pv6, mv6, rfl, hv6, hb6⟩; obtain ⟨f5, f6, hf5⟩ := owns_form' hv6.1; obtain ⟨f7, f8, hf7⟩ := owns_form' hv6.2.1; have hMa := (unhide HMI).below (unhide HB5); have hMb := hMa.below hb6; have HB7 := hide hb6; have HV6 := hide hv6; have HMB := hide hMb; clear r0 r1 r2 r3 r4 r5 rz; obtain ⟨g0, g1, g2, g3, g4, g5, gz⟩ := rt6 hMb.blk; have lx : w4.heap.size < w6.heap.size := heap_lt hMb.blk; clear hMa hMb hb6 hv6; unfold rtV; subst hf5 hf7; have hal := (bcell' ((Below.refl w6.heap.size w6).alloc (Nat.le_refl _) (rtBlk rj (.slice f5 rj.path.length f6) (.slice f7 rj.marks.length f8)))).1; have s0' := (hal _ 0 lx).trans g0; have s1' := (hal _ 1 lx).trans g1; have s2' := (hal _ 2 lx).trans g2; have s3' := (hal _ 3 lx).trans g3; have s4' := (hal _ 4 lx).trans g4; have s5' := (hal _ 5 lx).trans g5; clear hal; unfold rtBlk at s0' s1' s2' s3' s4' s5')
            | (go_at_call 15; have hba : Below w6.heap.size w6 (w6.alloc (rtBlk rj (.slice f5 rj.path.length f6) (.slice f7 rj.marks.length f8))) := (Below.refl _ _).alloc (Nat.le_refl _) _; have hi6 := rtVal_ints (unhide HV6) (unhide HMB).path.all (unhide HMB).marks.all (by omega) (by omega); refine (same_self (r := rj) (hi6.1.below hba) (hi6.2.below hba) ((unhide HMB).path.below hba) ((unhide HMB).marks.below hba)).mono ?_; rintro e w7 ⟨rfl, hb7⟩; have HB8 := hide (hba.trans (hb7.mono hba.size)); clear hb7 hba hi6))
          go_ret
          refine ⟨rfl, ?_⟩
          have hA := (unhide HBW).trans ((unhide HMI).bel.mono hww)
          have hB := hA.trans ((unhide HB5).mono hA.size)
          have hC := hB.trans ((unhide HB7).mono hB.size)
          exact hC.trans ((unhide HB8).mono hC.size)
end Go.Proofs.YtlhhdklendeikaaGreatDoor

namespace Go.Proofs.YtlhhdklendeikaaGreatDoor
open Go.ChangeShapes Go.WideShapes Go.ChangeAt Go.RowKit rows

namespace marked
set_option maxRecDepth 100000 in
/-- THE CALL, at every argument and in every world that holds the tables -/
theorem contract (H : Type) (enc : TypeId × Value → H) (W : World) (base : Nat) (args : Array Value) (ds gs : List (DataW H)) (before : List MemPlace)
    (hval0 : ∀ (j : Nat) t v, Tryz.f8.params[j]? = some t → args[j]? = some v → Value.okWide Tryz.prog W .any base t v)
    (hW : DataW.Whole enc Tryz.prog Tryz.f8.params.toList Rows.markedSpec.vars false W args.toList ds gs before)
    (hz0 : (DataW.weightsEach Tryz.prog (Tryz.f8.params.toList ++ Rows.markedSpec.plain.varTypes Tryz.prog) (ds ++ gs)).all (· ≤ reachBytes) = true) (hL : laidMetH Tryz.prog Rows.markedRow.laid W) :
    Calls Tryz.prog 8 args W fun e W' => ∃ v, e = .returned v ∧ Rows.markedSpec.post enc Tryz.prog Tryz.f8 false true false false W args v W' := by
  have hW' := hW
  obtain ⟨p, q, hA0, hV, rfl, _, _⟩ := hW
  have hA : DataW.TrodAll enc Tryz.prog W 0 (fun _ => true) true Tryz.f8.params.toList args.toList ds p := hA0
  have hval := hval0
  have hz := hz0
  rw [Tryz.params8] at hA hval hz
  obtain ⟨v0, v1, d0, d1, p0, p1, rfl, rfl, rfl, h0, h1⟩ := trodAll_two hA
  obtain ⟨rfl, rfl⟩ := trodVars_none hV
  clear hA0 hval0 hz0
  obtain ⟨l0, i0⟩ := ints (hval 0 _ v0 rfl rfl) h0 (fun elems spare hd => by subst hd; have := sized_slice hz (j := 0) (by rfl) (by rfl) Tryz.underlying22; rwa [bytesInt] at this)
  obtain ⟨l1, i1⟩ := ints (hval 1 _ v1 rfl rfl) h1 (fun elems spare hd => by subst hd; have := sized_slice hz (j := 1) (by rfl) (by rfl) Tryz.underlying22; rwa [bytesInt] at this)
  refine (marked_any W (tabs hL).1 (tabs hL).2 l0 l1 v0 v1 i0 i1).mono fun e W' ⟨he, hb⟩ => ?_
  subst he
  have lt := hW'.lt
  have t0 := Below.trod laidOut (by kernel_rfl) (of_decide_eq_true (by kernel_rfl)) h0 hb (fun x hx => lt x (by simp [hx]))
  have t1 := Below.trod laidOut (by kernel_rfl) (of_decide_eq_true (by kernel_rfl)) h1 hb (fun x hx => lt x (by simp [hx]))
  exact ⟨_, rfl, _, _, _, [], _, [], hW', trodAll_cons_mk (shut_bool Tryz.underlying4 _) trodAll_mk0, trodAll_mk2 t0 t1, rfl, hb.frame _, fun h => by cases h⟩

set_option maxRecDepth 100000 in
theorem laid_met (os : Os) : laidMet Tryz.prog Rows.markedRow.laid ((layAll (World.holding Tryz.prog os ⟨#[], #[], []⟩)).forCall (fun _ _ => 0) ⟨#[], #[.slice none 0 0, .slice none 0 0], []⟩).memory :=
  laidMet_of_run3 8 (by kernel_rfl) (by kernel_rfl) (by kernel_rfl)
theorem reads (os : Os) {H : Type} (enc : TypeId × Value → H) : ∃ places, DataW.whole enc Tryz.prog ((layAll (World.holding Tryz.prog os ⟨#[], #[], []⟩)).forCall (fun _ _ => 0) ⟨#[], #[.slice none 0 0, .slice none 0 0], []⟩).memory Tryz.f8.params.toList Rows.markedSpec.vars false #[Value.slice none 0 0, .slice none 0 0].toList 8 = some ([.nil, .nil], [], places) :=
  ⟨[], by kernel_rfl⟩

set_option maxRecDepth 100000 in
theorem lifted (os : Os) (started : os.Started) (H : Type) (enc : TypeId × Value → H) (F : Stop.Interp) :
    ReturnsInHanded {} Tryz.checked os 8 .any ((OpenSpec.ofChange Rows.markedSpec).preRow enc Tryz.prog Tryz.f8 Rows.markedRow.domain false Rows.markedRow.laid) (((OpenSpec.ofChange Rows.markedSpec).at F).post enc Tryz.prog Tryz.f8 false true false false) := by
  obtain ⟨places, hx⟩ := reads os enc
  refine returnsInHanded_of_row (C := Tryz.checked) (s := OpenSpec.ofChange Rows.markedSpec) own started (by kernel_rfl) Tryz.func8
    (witness_row_at (enc := enc) (C := Tryz.checked) false (layAll (World.holding Tryz.prog os ⟨#[], #[], []⟩)) #[.slice none 0 0, .slice none 0 0] rfl (by kernel_rfl) (by kernel_rfl) (by kernel_rfl)
      (OpenSpec.preRow_of_cond 8 hx (by kernel_rfl) (fun k hk => by cases hk) (by kernel_rfl) (laid_met os))) ?_
  intro W base args ds gs before hval hW _ _ hz hL _ _
  exact contract H enc W base args ds gs before hval hW hz hL
end marked
end Go.Proofs.YtlhhdklendeikaaGreatDoor
