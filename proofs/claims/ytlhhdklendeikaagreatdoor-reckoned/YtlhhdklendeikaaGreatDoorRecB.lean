/- Reckoned (package bywaykeep): it answers true. -/
import Derived.Test.YtlhhdklendeikaaGreatDoorRecA
import Derived.Test.YtlhhdklendeikaaGreatDoorKpB
import Derived.Test.YtlhhdklendeikaaGreatDoorKnB
import Derived.Test.YtlhhdklendeikaaGreatDoorRows
import Derived.Lib.AppendIntMem
namespace Go.Proofs.YtlhhdklendeikaaGreatDoor
open Go.RowKit

/-- a slice of bools that can be read -/
def BoolsAt (w : World) (v : Value) (l : List Bool) : Prop :=
  ∃ p c, v = .slice p l.length c ∧ l.length ≤ c ∧ (l.length : Int) ≤ 140737488355328 ∧ (l = [] ∨ ∃ b o, p = some ⟨b, o, none⟩ ∧ b < w.heap.size ∧ ∀ j, (h : j < l.length) → w.cell? ⟨b, o + j, none⟩ = some (.bool l[j]))
/-- the table of powers, as Go's own text lays it -/
def PowTab (w : World) : Prop := Lib.TabIs Tryz.prog w (Rows.reckonedRow.named.getD 5 Rows.reckonedRow.func) .u64 Lib.pow10Tab
theorem PowTab.below {w w' : World} (h : PowTab w) (hb : Below w.heap.size w w') : PowTab w' := Lib.tabBelow_of_tabIs h w' hb
theorem itoa_any (u : Nat) (hu : u ≤ 4294967295) (w : World) (h : PowTab w) : Calls Tryz.prog 24 #[.int .i64 (u : Int)] w fun e w' => e = .returned (.string (bsA (Lib.decDigits u))) ∧ Below w.heap.size w w' := by
  refine (Any.strconv_Itoa Tryz.shItoa (u : Int) (by omega) (by omega) w h).mono ?_
  rintro e w' ⟨rfl, k, os, rfl⟩
  refine ⟨?_, Lib.below_grow _ _ (Nat.le_refl _) k os⟩
  rw [Lib.itoa, if_neg (by omega), Int.toNat_natCast]

theorem ints_three {W : World} {q : Nat} (h : W.heap[q]? = some (.cells #[.int .i64 1, .int .i64 2, .int .i64 3] 3 (0, 0))) : IntsAt W (.slice (some ⟨q, 0, none⟩) 3 3) [1, 2, 3] := by
  refine ⟨some ⟨q, 0, none⟩, 3, rfl, by simp, by simp, fun y hy => ?_, Or.inr ⟨q, 0, rfl, heap_lt h, fun j hj => ?_⟩⟩
  · simp at hy; unfold inI; omega
  · match j, hj with
    | 0, _ => exact cell_of_heap h
    | 1, _ => exact cell_of_heap h
    | 2, _ => exact cell_of_heap h
    | n + 3, hj => exact absurd hj (by simp)
theorem rec_call {w2 : World} {A : Nat → Prop} {pp q : Nat} {ms : List StpM} {P M v : Int} {r' : Rt} (hl : Lasts w2 A (PolC pp ms)) (hq : w2.heap[q]? = some (.cells #[.int .i64 1, .int .i64 2, .int .i64 3] 3 (0, 0))) (p0 : 0 ≤ P) (p1 : P ≤ 4294967295) (m0 : 0 ≤ M) (m1 : M ≤ 4294967295) (hr : runM ms (recR P M) = (r', v)) :
    Calls Tryz.prog 14 #[ptr4 pp 0, rtV (recR P M) (.slice (some ⟨q, 0, none⟩) 3 3) (.slice none 0 0)] w2 fun e w' => ∃ pv' mv', e = .returned (.tuple #[rtV r' pv' mv', .int .i64 v, .int .i64 0]) ∧ RtVal w' w2.heap.size r' pv' mv' ∧ Below w2.heap.size w2 w' := by
  have hok : rtOk (recR P M) = true := decide_eq_true ⟨(by decide : netOk (0, 0)), (by decide : pathOk [1, 2, 3]), (by decide : marksOk []), ⟨p0, p1⟩, ⟨m0, m1⟩⟩
  have h := run_ok hl w2 (Below.refl _ _) (recR P M) (.slice (some ⟨q, 0, none⟩) 3 3) (.slice none 0 0) (ints_three hq) (ints_none _) (by unfold inI recR; simp) (by unfold inI recR; simp) (by simp [recR]) (by simp [recR]) hok
  rw [hr] at h; exact h
theorem rec_same {w3 W : World} {n0 q B : Nat} {V M : Int} {pv mv : Value} (hv : RtVal w3 n0 (recR V M) pv mv) (hB : B < n0) (hq : w3.heap[q]? = some (.cells #[.int .i64 1, .int .i64 2, .int .i64 3] 3 (0, 0))) (hqB : q ≠ B) (hk : ∀ k, k < w3.heap.size → k ≠ B → W.heap[k]? = w3.heap[k]?) :
    Calls Tryz.prog 15 #[rtV (recR V M) pv mv, rtV (recR V M) (.slice (some ⟨q, 0, none⟩) 3 3) (.slice none 0 0)] W fun e w' => e = .returned (.bool true) ∧ Below W.heap.size W w' := by
  have h1 : IntsAt W pv (recR V M).path := IntsAt.own (owns_of hv.1 (fun k e => hk k (hv.1.lt k e).2 (fun e2 => by have := hv.2.2.1 k e; omega))) (fun x hx => by simp [recR] at hx; unfold inI; omega) (by simp [recR])
  have h2 : IntsAt W mv (recR V M).marks := IntsAt.own (owns_of hv.2.1 (fun k e => hk k (hv.2.1.lt k e).2 (fun e2 => by have := hv.2.2.2 k e; omega))) (fun x hx => by simp [recR] at hx) (by simp [recR])
  have h := sameRoute_any (recR V M) (recR V M) pv mv (.slice (some ⟨q, 0, none⟩) 3 3) (.slice none 0 0) W h1 h2 (ints_three ((hk q (heap_lt hq) hqB).trans hq)) (ints_none _)
  rw [show sameRt (recR V M) (recR V M) = true by simp [sameRt]] at h
  exact h
theorem recS_len (l : Tms) (h : ∀ p ∈ l, p.2.ok = true) : (recS l).size ≤ 4 + 13 * l.length := by
  unfold recS
  rw [bsA_size, List.length_append]
  have h1 := tm_len l h
  have h2 : (wd 4).data.toList.length = 4 := by decide +kernel
  omega
set_option maxRecDepth 100000 in
set_option maxHeartbeats 4000000 in
theorem reckoned_any (w : World) (ht : TokTabs w) (hpt : PowTab w) (p m : Int) (hp1 : -9223372036854775808 ≤ p) (hp2 : p ≤ 9223372036854775807) (hm1 : -9223372036854775808 ≤ m) (hm2 : m ≤ 9223372036854775807) (nums : List Int) (signs : List Bool) (x y : Value) (hx : IntsAt w x nums) (hy : BoolsAt w y signs) :
    Calls Tryz.prog 7 #[.int .i64 p, .int .i64 m, x, y] w fun e w' => e = .returned (.bool true) ∧ Below w.heap.size w w' := by
  obtain ⟨q, c, rfl, hcap, hl, hin, hr⟩ := hx
  obtain ⟨q', c', rfl, hcap', hl', hr'⟩ := hy
  have HR := hide hr
  have HR' := hide hr'
  have HIN := hide hin
  have HT := hide ht
  have HPT := hide hpt
  clear hr hr' hin ht hpt
  have HK := hide (known_any w (unhide HT))
  obtain ⟨P, hP⟩ : ∃ P, pickP p 4294967296 = P := ⟨_, rfl⟩
  obtain ⟨M, hM⟩ : ∃ M, pickP m 4294967296 = M := ⟨_, rfl⟩
  have bP := pickP_bd (c := p) (n := 4294967296) (by omega)
  have bM := pickP_bd (c := m) (n := 4294967296) (by omega)
  rw [hP] at bP
  rw [hM] at bM
  have HP1 := hide (fun (W : World) => (pick_any p 4294967296 W hp1 hp2 (by omega) (by omega)).mono (fun e w' h => show e = .returned (.int .i64 P) ∧ w' = W by rw [← hP]; exact h))
  have HM1 := hide (fun (W : World) => (pick_any m 4294967296 W hm1 hm2 (by omega) (by omega)).mono (fun e w' h => show e = .returned (.int .i64 M) ∧ w' = W by rw [← hM]; exact h))
  go_enter Tryz.func7, Tryz.ntmps7
  go_wp2_with (first
    | (go_at_call 9; refine (unhide HK).mono ?_; clear HK; rintro e w1 ⟨rfl, hb1⟩; have HB1 := hide hb1; clear hb1)
    | (go_at_call 22; refine ((unhide HP1) _).mono ?_; clear HP1; rintro e w' ⟨rfl, rfl⟩)
    | (go_at_call 22; refine ((unhide HM1) _).mono ?_; clear HM1; rintro e w' ⟨rfl, rfl⟩))
  obtain ⟨W0, hW0⟩ : ∃ W0, (w1.alloc (.cells #[.int .i64 1, .int .i64 2, .int .i64 3] 3)).alloc (rtBlk (recR P M) (.slice (some ⟨w1.heap.size, 0, none⟩) 3 3) (.slice none 0 0)) = W0 := ⟨_, rfl⟩
  obtain ⟨n1, n2, sz⟩ := two_new w1 (.cells #[.int .i64 1, .int .i64 2, .int .i64 3] 3) (rtBlk (recR P M) (.slice (some ⟨w1.heap.size, 0, none⟩) 3 3) (.slice none 0 0))
  rw [hW0] at n1 n2 sz
  have hB0 : Below w.heap.size w W0 := by rw [← hW0]; exact ((unhide HB1).alloc (unhide HB1).size _).alloc (by simp; have := (unhide HB1).size; omega) _
  have HN1 := hide n1
  have HN2 := hide n2
  have HS := hide sz
  have HB0 := hide hB0
  clear n1 n2 sz hB0
  unfold rtBlk recR at hW0
  dsimp only at hW0
  rw [hW0]
  go_loopw [11, 12, 13, 14] (fun s wn f i wr => ∃ j : Nat, j ≤ nums.length ∧ j ≤ 8 ∧ i = .int .i64 (j : Nat) ∧ s = .string (recS (tmsTo nums signs j)) ∧ wn = .int .i64 (recV P M (tmsTo nums signs j)).1 ∧ f = .bool (recV P M (tmsTo nums signs j)).2 ∧ Below W0.heap.size W0 wr) (fun _ _ _ i _ => 8 - (intOf i).toNat)
  case atStart =>
    exact ⟨0, Nat.zero_le _, Nat.zero_le _, rfl, rfl, rfl, rfl, Below.refl _ _⟩
  case round =>
    obtain ⟨j, hj, hj8, rfl, rfl, rfl, rfl, hbl⟩ := hrel
    have HBL := hide hbl
    have hsz := hbl.size
    clear hbl
    have hbd := recV_bd (by omega) (by omega) (by omega) (by omega) (tmsTo nums signs j) (tmsTo_ok nums signs j) (P := P) (M := M)
    rw [tmsTo_len] at hbd
    have HSN := hide (tmsTo_snoc nums signs j)
    have HVN := hide (recV_snoc P M (tmsTo nums signs j) (signs.getD j false, tmAt (nums.getD j 0)))
    have HTN := hide (recS_snoc (tmsTo nums signs j) (signs.getD j false) (tmAt (nums.getD j 0)))
    by_cases hlt : j < nums.length ∧ j < 8
    · obtain ⟨hlt, hl8⟩ := hlt
      · rcases unhide HR with h | ⟨b, o, rfl, hb, hc⟩
        · rw [h.1] at hlt; simp at hlt
        have hck : wr.cell? ⟨b, o + j, none⟩ = some (.int .i64 nums[j]) := ((unhide HBL).cell (p := ⟨b, o + j, none⟩) (by have := (unhide HB0).size; show b < _; omega)).trans (((unhide HB0).cell (p := ⟨b, o + j, none⟩) hb).trans (hc j hlt))
        have hI := unhide HIN nums[j] (List.getElem_mem _)
        unfold inI at hI
        have hgd : nums.getD j 0 = nums[j] := by simp [List.getD, List.getElem?_eq_getElem hlt]
        rw [hgd] at HSN HVN HTN
        generalize hX : nums[j] = X at *
        have bN := pickP_bd (c := X) (n := 4294967296) (by omega)
        have HPN := hide (fun (W : World) => pick_any X 4294967296 W (by omega) (by omega) (by omega) (by omega))
        have HPC := hide (fun (W : World) => pick_any X 5 W (by omega) (by omega) (by omega) (by omega))
        generalize hT : recV P M (tmsTo nums signs j) = A at *
        obtain ⟨Wn, F⟩ := A
        have hSs := recS_len (tmsTo nums signs j) (tmsTo_ok nums signs j)
        rw [tmsTo_len] at hSs
        generalize recS (tmsTo nums signs j) = S at *
        have HIT := hide (itoa_any (pickP X 4294967296).toNat (by omega) wr (((unhide HPT).below (unhide HB0)).below ((unhide HBL).mono (Nat.le_refl _))))
        rw [Int.toNat_of_nonneg bN.1] at HIT
        clear hc
        dsimp only at hbd
        obtain ⟨r0, r1, r2, r3, r4, r5, rz⟩ := rt6 (((unhide HBL).block (w1.heap.size + 1) (by have := unhide HS; omega)).trans (unhide HN2))
        have hsg : (j < signs.length ∧ ∃ b' o', q' = some ⟨b', o', none⟩ ∧ b' < wr.heap.size ∧ wr.cell? ⟨b', o' + j, none⟩ = some (.bool (signs.getD j false))) ∨ (¬ j < signs.length ∧ signs.getD j false = false) := by
          by_cases hs : j < signs.length
          · left
            refine ⟨hs, ?_⟩
            rcases unhide HR' with h | ⟨b', o', h1, h2, h3⟩
            · rw [h] at hs; simp at hs
            · refine ⟨b', o', h1, by have := (unhide HB0).size; omega, ?_⟩
              have e : signs.getD j false = signs[j] := by simp [List.getD, List.getElem?_eq_getElem hs]
              rw [e]
              exact ((unhide HBL).cell (p := ⟨b', o' + j, none⟩) (by have := (unhide HB0).size; show b' < _; omega)).trans (((unhide HB0).cell (p := ⟨b', o' + j, none⟩) h2).trans (h3 j hs))
          · right
            exact ⟨hs, by simp [List.getD, List.getElem?_eq_none (Nat.le_of_not_lt hs)]⟩
        generalize hSB : signs.getD j false = sb at *
        have hKD : (pickP X 5 = 0 ∧ tmAt X = .med) ∨ (pickP X 5 ≠ 0 ∧ pickP X 5 = 1 ∧ tmAt X = .len) ∨ (pickP X 5 ≠ 0 ∧ pickP X 5 ≠ 1 ∧ tmAt X = .num (pickP X 4294967296).toNat) := by
          unfold tmAt
          by_cases h0 : pickP X 5 = 0
          · exact Or.inl ⟨h0, if_pos h0⟩
          · by_cases h1 : pickP X 5 = 1
            · exact Or.inr (Or.inl ⟨h0, h1, by rw [if_neg h0, if_pos h1]⟩)
            · exact Or.inr (Or.inr ⟨h0, h1, by rw [if_neg h0, if_neg h1]⟩)
        have hds : (Lib.decDigits (pickP X 4294967296).toNat).length ≤ 10 := dec_len (by omega)
        generalize hC : pickP X 5 = C at *
        generalize hN : pickP X 4294967296 = N at *
        generalize hTM : tmAt X = tm at *
        clear hX hgd hC hN hTM hSB
        have hs0 := (unhide HB0).size
        have hs2 := unhide HS
        have hbw : b < wr.heap.size := by omega
        have hqw : w1.heap.size + 1 < wr.heap.size := by omega
        clear hs0 hs2 hsz
        change wr.cell? _ = some (.int .i64 M) at r5
        have HBM := hide ((unhide HBL).mono (Nat.le_refl W0.heap.size))
        rcases hsg with ⟨hs1, b', o', rfl, hb', hsc⟩ | ⟨hs1, rfl⟩
        · rcases hKD with ⟨hk0, rfl⟩ | ⟨hk0, hk1, rfl⟩ | ⟨hk0, hk1, rfl⟩
          · cases sb with
            | true =>
              have hw : Wn + (-1) * M = Wn - M := by omega
              subst hk0
              go_wp2_with (first
                | (go_at_call 22; refine ((unhide HPN) _).mono ?_; clear HPN; rintro e w' ⟨rfl, rfl⟩)
                | (go_at_call 24; refine (unhide HIT).mono ?_; clear HIT; rintro e w2 ⟨rfl, hb2⟩; obtain ⟨bc, _⟩ := bcell' hb2; replace hck := (bc _ _ hbw).trans hck; replace hsc := (bc _ _ hb').trans hsc; replace r5 := (bc _ _ hqw).trans r5; clear bc; have HB2 := hide hb2; clear hb2)
                | (go_at_call 22; refine ((unhide HPC) _).mono ?_; clear HPC; rintro e w' ⟨rfl, rfl⟩))
              all_goals
                refine ⟨⟨j + 1, by omega, by omega, by go_num, ?_, ?_, ?_, ?_⟩, by simp [intOf]; omega⟩
                · rw [unhide HSN, ← unhide HTN]; rfl
                · rw [unhide HSN, unhide HVN]; exact congrArg (Value.int .i64) hw.symm
                · rw [unhide HSN, unhide HVN]
                  show _ = Value.bool ((F || decide (Wn + (-1) * M < 0)) || decide (4294967295 < Wn + (-1) * M))
                  rw [hw]
                  congr 1
                  cases F <;> simp_all <;> omega
                · exact (unhide HBL).trans ((unhide HB2).mono (unhide HBL).size)
            | false =>
              have hw : Wn + (1) * M = Wn + M := by omega
              subst hk0
              go_wp2_with (first
                | (go_at_call 22; refine ((unhide HPN) _).mono ?_; clear HPN; rintro e w' ⟨rfl, rfl⟩)
                | (go_at_call 24; refine (unhide HIT).mono ?_; clear HIT; rintro e w2 ⟨rfl, hb2⟩; obtain ⟨bc, _⟩ := bcell' hb2; replace hck := (bc _ _ hbw).trans hck; replace hsc := (bc _ _ hb').trans hsc; replace r5 := (bc _ _ hqw).trans r5; clear bc; have HB2 := hide hb2; clear hb2)
                | (go_at_call 22; refine ((unhide HPC) _).mono ?_; clear HPC; rintro e w' ⟨rfl, rfl⟩))
              all_goals
                refine ⟨⟨j + 1, by omega, by omega, by go_num, ?_, ?_, ?_, ?_⟩, by simp [intOf]; omega⟩
                · rw [unhide HSN, ← unhide HTN]; rfl
                · rw [unhide HSN, unhide HVN]; exact congrArg (Value.int .i64) hw.symm
                · rw [unhide HSN, unhide HVN]
                  show _ = Value.bool ((F || decide (Wn + (1) * M < 0)) || decide (4294967295 < Wn + (1) * M))
                  rw [hw]
                  congr 1
                  cases F <;> simp_all <;> omega
                · exact (unhide HBL).trans ((unhide HB2).mono (unhide HBL).size)
          · cases sb with
            | true =>
              have hw : Wn + (-1) * 3 = Wn - 3 := by omega
              subst hk1
              go_wp2_with (first
                | (go_at_call 22; refine ((unhide HPN) _).mono ?_; clear HPN; rintro e w' ⟨rfl, rfl⟩)
                | (go_at_call 24; refine (unhide HIT).mono ?_; clear HIT; rintro e w2 ⟨rfl, hb2⟩; obtain ⟨bc, _⟩ := bcell' hb2; replace hck := (bc _ _ hbw).trans hck; replace hsc := (bc _ _ hb').trans hsc; replace r5 := (bc _ _ hqw).trans r5; clear bc; have HB2 := hide hb2; clear hb2)
                | (go_at_call 22; refine ((unhide HPC) _).mono ?_; clear HPC; rintro e w' ⟨rfl, rfl⟩))
              all_goals
                refine ⟨⟨j + 1, by omega, by omega, by go_num, ?_, ?_, ?_, ?_⟩, by simp [intOf]; omega⟩
                · rw [unhide HSN, ← unhide HTN]; rfl
                · rw [unhide HSN, unhide HVN]; exact congrArg (Value.int .i64) hw.symm
                · rw [unhide HSN, unhide HVN]
                  show _ = Value.bool ((F || decide (Wn + (-1) * 3 < 0)) || decide (4294967295 < Wn + (-1) * 3))
                  rw [hw]
                  congr 1
                  cases F <;> simp_all <;> omega
                · exact (unhide HBL).trans ((unhide HB2).mono (unhide HBL).size)
            | false =>
              have hw : Wn + (1) * 3 = Wn + 3 := by omega
              subst hk1
              go_wp2_with (first
                | (go_at_call 22; refine ((unhide HPN) _).mono ?_; clear HPN; rintro e w' ⟨rfl, rfl⟩)
                | (go_at_call 24; refine (unhide HIT).mono ?_; clear HIT; rintro e w2 ⟨rfl, hb2⟩; obtain ⟨bc, _⟩ := bcell' hb2; replace hck := (bc _ _ hbw).trans hck; replace hsc := (bc _ _ hb').trans hsc; replace r5 := (bc _ _ hqw).trans r5; clear bc; have HB2 := hide hb2; clear hb2)
                | (go_at_call 22; refine ((unhide HPC) _).mono ?_; clear HPC; rintro e w' ⟨rfl, rfl⟩))
              all_goals
                refine ⟨⟨j + 1, by omega, by omega, by go_num, ?_, ?_, ?_, ?_⟩, by simp [intOf]; omega⟩
                · rw [unhide HSN, ← unhide HTN]; rfl
                · rw [unhide HSN, unhide HVN]; exact congrArg (Value.int .i64) hw.symm
                · rw [unhide HSN, unhide HVN]
                  show _ = Value.bool ((F || decide (Wn + (1) * 3 < 0)) || decide (4294967295 < Wn + (1) * 3))
                  rw [hw]
                  congr 1
                  cases F <;> simp_all <;> omega
                · exact (unhide HBL).trans ((unhide HB2).mono (unhide HBL).size)
          · cases sb with
            | true =>
              have hw : Wn + (-1) * ((N.toNat : Nat) : Int) = Wn - N := by omega
              have hk0' : (C == 0) = false := by simpa using hk0
              have hk1' : (C == 1) = false := by simpa using hk1
              go_wp2_with (first
                | (go_at_call 22; refine ((unhide HPN) _).mono ?_; clear HPN; rintro e w' ⟨rfl, rfl⟩)
                | (go_at_call 24; refine (unhide HIT).mono ?_; clear HIT; rintro e w2 ⟨rfl, hb2⟩; obtain ⟨bc, _⟩ := bcell' hb2; replace hck := (bc _ _ hbw).trans hck; replace hsc := (bc _ _ hb').trans hsc; replace r5 := (bc _ _ hqw).trans r5; clear bc; have HB2 := hide hb2; clear hb2)
                | (go_at_call 22; refine ((unhide HPC) _).mono ?_; clear HPC; rintro e w' ⟨rfl, rfl⟩))
              all_goals
                refine ⟨⟨j + 1, by omega, by omega, by go_num, ?_, ?_, ?_, ?_⟩, by simp [intOf]; omega⟩
                · rw [unhide HSN, ← unhide HTN]; rfl
                · rw [unhide HSN, unhide HVN]; exact congrArg (Value.int .i64) hw.symm
                · rw [unhide HSN, unhide HVN]
                  show _ = Value.bool ((F || decide (Wn + (-1) * ((N.toNat : Nat) : Int) < 0)) || decide (4294967295 < Wn + (-1) * ((N.toNat : Nat) : Int)))
                  rw [hw]
                  congr 1
                  cases F <;> simp_all <;> omega
                · exact (unhide HBL).trans ((unhide HB2).mono (unhide HBL).size)
            | false =>
              have hw : Wn + (1) * ((N.toNat : Nat) : Int) = Wn + N := by omega
              have hk0' : (C == 0) = false := by simpa using hk0
              have hk1' : (C == 1) = false := by simpa using hk1
              go_wp2_with (first
                | (go_at_call 22; refine ((unhide HPN) _).mono ?_; clear HPN; rintro e w' ⟨rfl, rfl⟩)
                | (go_at_call 24; refine (unhide HIT).mono ?_; clear HIT; rintro e w2 ⟨rfl, hb2⟩; obtain ⟨bc, _⟩ := bcell' hb2; replace hck := (bc _ _ hbw).trans hck; replace hsc := (bc _ _ hb').trans hsc; replace r5 := (bc _ _ hqw).trans r5; clear bc; have HB2 := hide hb2; clear hb2)
                | (go_at_call 22; refine ((unhide HPC) _).mono ?_; clear HPC; rintro e w' ⟨rfl, rfl⟩))
              all_goals
                refine ⟨⟨j + 1, by omega, by omega, by go_num, ?_, ?_, ?_, ?_⟩, by simp [intOf]; omega⟩
                · rw [unhide HSN, ← unhide HTN]; rfl
                · rw [unhide HSN, unhide HVN]; exact congrArg (Value.int .i64) hw.symm
                · rw [unhide HSN, unhide HVN]
                  show _ = Value.bool ((F || decide (Wn + (1) * ((N.toNat : Nat) : Int) < 0)) || decide (4294967295 < Wn + (1) * ((N.toNat : Nat) : Int)))
                  rw [hw]
                  congr 1
                  cases F <;> simp_all <;> omega
                · exact (unhide HBL).trans ((unhide HB2).mono (unhide HBL).size)
        · rcases hKD with ⟨hk0, rfl⟩ | ⟨hk0, hk1, rfl⟩ | ⟨hk0, hk1, rfl⟩
          · have hw : Wn + (1) * M = Wn + M := by omega
            subst hk0
            go_wp2_with (first
              | (go_at_call 22; refine ((unhide HPN) _).mono ?_; clear HPN; rintro e w' ⟨rfl, rfl⟩)
              | (go_at_call 24; refine (unhide HIT).mono ?_; clear HIT; rintro e w2 ⟨rfl, hb2⟩; obtain ⟨bc, _⟩ := bcell' hb2; replace hck := (bc _ _ hbw).trans hck; replace r5 := (bc _ _ hqw).trans r5; clear bc; have HB2 := hide hb2; clear hb2)
              | (go_at_call 22; refine ((unhide HPC) _).mono ?_; clear HPC; rintro e w' ⟨rfl, rfl⟩))
            all_goals
              refine ⟨⟨j + 1, by omega, by omega, by go_num, ?_, ?_, ?_, ?_⟩, by simp [intOf]; omega⟩
              · rw [unhide HSN, ← unhide HTN]; rfl
              · rw [unhide HSN, unhide HVN]; exact congrArg (Value.int .i64) hw.symm
              · rw [unhide HSN, unhide HVN]
                show _ = Value.bool ((F || decide (Wn + (1) * M < 0)) || decide (4294967295 < Wn + (1) * M))
                rw [hw]
                congr 1
                cases F <;> simp_all <;> omega
              · exact (unhide HBL).trans ((unhide HB2).mono (unhide HBL).size)
          · have hw : Wn + (1) * 3 = Wn + 3 := by omega
            subst hk1
            go_wp2_with (first
              | (go_at_call 22; refine ((unhide HPN) _).mono ?_; clear HPN; rintro e w' ⟨rfl, rfl⟩)
              | (go_at_call 24; refine (unhide HIT).mono ?_; clear HIT; rintro e w2 ⟨rfl, hb2⟩; obtain ⟨bc, _⟩ := bcell' hb2; replace hck := (bc _ _ hbw).trans hck; replace r5 := (bc _ _ hqw).trans r5; clear bc; have HB2 := hide hb2; clear hb2)
              | (go_at_call 22; refine ((unhide HPC) _).mono ?_; clear HPC; rintro e w' ⟨rfl, rfl⟩))
            all_goals
              refine ⟨⟨j + 1, by omega, by omega, by go_num, ?_, ?_, ?_, ?_⟩, by simp [intOf]; omega⟩
              · rw [unhide HSN, ← unhide HTN]; rfl
              · rw [unhide HSN, unhide HVN]; exact congrArg (Value.int .i64) hw.symm
              · rw [unhide HSN, unhide HVN]
                show _ = Value.bool ((F || decide (Wn + (1) * 3 < 0)) || decide (4294967295 < Wn + (1) * 3))
                rw [hw]
                congr 1
                cases F <;> simp_all <;> omega
              · exact (unhide HBL).trans ((unhide HB2).mono (unhide HBL).size)
          · have hw : Wn + (1) * ((N.toNat : Nat) : Int) = Wn + N := by omega
            have hk0' : (C == 0) = false := by simpa using hk0
            have hk1' : (C == 1) = false := by simpa using hk1
            go_wp2_with (first
              | (go_at_call 22; refine ((unhide HPN) _).mono ?_; clear HPN; rintro e w' ⟨rfl, rfl⟩)
              | (go_at_call 24; refine (unhide HIT).mono ?_; clear HIT; rintro e w2 ⟨rfl, hb2⟩; obtain ⟨bc, _⟩ := bcell' hb2; replace hck := (bc _ _ hbw).trans hck; replace r5 := (bc _ _ hqw).trans r5; clear bc; have HB2 := hide hb2; clear hb2)
              | (go_at_call 22; refine ((unhide HPC) _).mono ?_; clear HPC; rintro e w' ⟨rfl, rfl⟩))
            all_goals
              refine ⟨⟨j + 1, by omega, by omega, by go_num, ?_, ?_, ?_, ?_⟩, by simp [intOf]; omega⟩
              · rw [unhide HSN, ← unhide HTN]; rfl
              · rw [unhide HSN, unhide HVN]; exact congrArg (Value.int .i64) hw.symm
              · rw [unhide HSN, unhide HVN]
                show _ = Value.bool ((F || decide (Wn + (1) * ((N.toNat : Nat) : Int) < 0)) || decide (4294967295 < Wn + (1) * ((N.toNat : Nat) : Int)))
                rw [hw]
                congr 1
                cases F <;> simp_all <;> omega
              · exact (unhide HBL).trans ((unhide HB2).mono (unhide HBL).size)
    · have hTl : (tmsTo nums signs j).length ≤ 8 := by rw [tmsTo_len]; exact hj8
      have HC := hide (compiled_ok (rec_read _ hTl (tmsTo_ok nums signs j)) wr (((unhide HT).below (unhide HB0)).below (unhide HBL)))
      rw [← recS_all] at HC
      have hRm : runM (recMs (tmsTo nums signs j)) (recR P M) = if (recV P M (tmsTo nums signs j)).2 = true then (rt0, 3) else (recR (recV P M (tmsTo nums signs j)).1 M, 1) := by
        unfold runM
        rw [rec_run (by omega) (by omega) (by omega) (by omega) _ hTl (tmsTo_ok nums signs j)]
        cases (recV P M (tmsTo nums signs j)).2 <;> rfl
      have hSs := recS_len (tmsTo nums signs j) (tmsTo_ok nums signs j)
      rw [tmsTo_len] at hSs
      clear HSN HVN HTN
      generalize recMs (tmsTo nums signs j) = ms at *
      generalize recV P M (tmsTo nums signs j) = A at *
      generalize recS (tmsTo nums signs j) = S at *
      obtain ⟨Wn, F⟩ := A
      dsimp only at hbd hRm
      have HB3 := hide ((unhide HBL).block w1.heap.size (by have := unhide HS; omega) |>.trans (unhide HN1))
      have HB4 := hide ((unhide HBL).block (w1.heap.size + 1) (by have := unhide HS; omega) |>.trans (unhide HN2))
      have hq : w1.heap.size + 1 < wr.heap.size := by have := unhide HS; omega
      clear hTl
      rcases (show ¬ j < nums.length ∨ (j < nums.length ∧ ¬ j < 8) by omega) with h1 | ⟨h1, h2⟩
      all_goals
        clear hlt
        cases F with
        | true =>
          have HRC := hide (fun (w2 : World) (pp : Nat) (hb : Below wr.heap.size wr w2) (hl : Lasts w2 (fun k => wr.heap.size ≤ k) (PolC pp ms)) => rec_call (q := w1.heap.size) hl ((hb.block _ (by omega)).trans (unhide HB3)) bP.1 (by omega) bM.1 (by omega) (hRm.trans (if_pos rfl)))
          clear hRm
          go_wp2_with (first
            | (go_at_call 10; refine (unhide HC).mono ?_; clear HC; rintro e w2 ⟨pp, rfl, hb2, hl2⟩; have HB2 := hide hb2; have HRD := hide ((unhide HRC) w2 pp hb2 hl2); clear HRC; obtain ⟨r0, r1, r2, r3, r4, r5, rz⟩ := rt6 ((hb2.block (w1.heap.size + 1) hq).trans (unhide HB4)); change w2.cell? _ = some (.int .i64 0) at r0; change w2.cell? _ = some (.int .i64 0) at r1; change w2.cell? _ = some (.int .i64 P) at r4; change w2.cell? _ = some (.int .i64 M) at r5; clear hb2 hl2)
            | (go_at_call 14; refine (unhide HRD).mono ?_; clear HRD; rintro e w3 ⟨pv3, mv3, rfl, hv3, hb3⟩; obtain ⟨f5, f6, hf5⟩ := owns_form' hv3.1; obtain ⟨f7, f8, hf7⟩ := owns_form' hv3.2.1; change pv3 = .slice f5 0 f6 at hf5; change mv3 = .slice f7 0 f8 at hf7; have HB5 := hide hb3; clear hb3 hv3; unfold rtV rt0; dsimp only; subst hf5 hf7))
          go_ret
          refine ⟨rfl, ?_⟩
          have hA := (unhide HB0).trans ((unhide HBL).mono (unhide HB0).size)
          have hB := hA.trans ((unhide HB2).mono hA.size)
          have hC := hB.trans ((unhide HB5).mono hB.size)
          exact hC.alloc hC.size _
        | false =>
          have HRC := hide (fun (w2 : World) (pp : Nat) (hb : Below wr.heap.size wr w2) (hl : Lasts w2 (fun k => wr.heap.size ≤ k) (PolC pp ms)) => rec_call (q := w1.heap.size) hl ((hb.block _ (by omega)).trans (unhide HB3)) bP.1 (by omega) bM.1 (by omega) (hRm.trans (if_neg (by simp))))
          clear hRm
          go_wp2_with (first
            | (go_at_call 10; refine (unhide HC).mono ?_; clear HC; rintro e w2 ⟨pp, rfl, hb2, hl2⟩; have HB2 := hide hb2; have HRD := hide ((unhide HRC) w2 pp hb2 hl2); clear HRC; obtain ⟨r0, r1, r2, r3, r4, r5, rz⟩ := rt6 ((hb2.block (w1.heap.size + 1) hq).trans (unhide HB4)); change w2.cell? _ = some (.int .i64 0) at r0; change w2.cell? _ = some (.int .i64 0) at r1; change w2.cell? _ = some (.int .i64 P) at r4; change w2.cell? _ = some (.int .i64 M) at r5; clear hb2 hl2)
            | (go_at_call 14; refine (unhide HRD).mono ?_; clear HRD; rintro e w3 ⟨pv3, mv3, rfl, hv3, hb3⟩; obtain ⟨f5, f6, hf5⟩ := owns_form' hv3.1; obtain ⟨f7, f8, hf7⟩ := owns_form' hv3.2.1; change pv3 = .slice f5 3 f6 at hf5; change mv3 = .slice f7 0 f8 at hf7; have HB5 := hide hb3; have HV3 := hide hv3; have n3 := (hb3.block (w1.heap.size + 1) (by have := (unhide HB2).size; omega)).trans (((unhide HB2).block (w1.heap.size + 1) hq).trans (unhide HB4)); have n4 := (hb3.block w1.heap.size (by have := (unhide HB2).size; omega)).trans (((unhide HB2).block w1.heap.size (by omega)).trans (unhide HB3)); have HN4 := hide n4; obtain ⟨g0, g1, g2, g3, g4, g5, gz⟩ := rt6 n3; change w3.cell? _ = some (.int .i64 0) at g0; change w3.cell? _ = some (.int .i64 0) at g1; change w3.cell? _ = some (.int .i64 P) at g4; change w3.cell? _ = some (.int .i64 M) at g5; have lx : w1.heap.size + 1 < w3.heap.size := heap_lt n3; clear n3 n4 r0 r1 r2 r3 r4 r5 rz; have lt2 : w1.heap.size + 1 < w2.heap.size := (by have := (unhide HB2).size; omega); clear hb3 hv3; unfold rtV recR; dsimp only; subst hf5 hf7; have hal := (bcell' ((Below.refl w3.heap.size w3).alloc (Nat.le_refl _) (.cells #[.int .i64 0, .int .i64 0, .slice f5 3 f6, .slice f7 0 f8, .int .i64 Wn, .int .i64 M] 32))).1; have hal2 := (bcell' ((Below.refl w3.heap.size w3).alloc (Nat.le_refl _) (.cells #[.int .i64 0, .int .i64 0, .slice f5 3 f6, .slice f7 0 f8, .int .i64 Wn, .int .i64 M] 32))).2; have s0' := (hal _ 0 lx).trans g0; have s1' := (hal _ 1 lx).trans g1; have s2' := (hal _ 2 lx).trans g2; have s3' := (hal _ 3 lx).trans g3; have s4' := (hal _ 4 lx).trans g4; have s5' := (hal _ 5 lx).trans g5; have sz' := (hal2 _ 4 lx).trans (gz 4); clear hal hal2)
            | (go_at_call 15; refine (rec_same (V := Wn) (M := M) (q := w1.heap.size) (B := w1.heap.size + 1) (unhide HV3) lt2 (unhide HN4) (by omega) (fun k h1 h2 => by rw [Below.heap_alloc _ _ _ (by simp [World.setCell]; exact h1), heap_set_other h2])).mono ?_; rintro e w4 ⟨rfl, hb4⟩; have HB6 := hide hb4; clear hb4))
          go_ret
          refine ⟨rfl, ?_⟩
          have hA := (unhide HB0).trans ((unhide HBL).mono (unhide HB0).size)
          have hB := hA.trans ((unhide HB2).mono hA.size)
          have hC := hB.trans ((unhide HB5).mono hB.size)
          have hw := (unhide HB1).size
          have hD := (hC.setCell (p := ⟨w1.heap.size + 1, 4, none⟩) (by show _ ≤ w1.heap.size + 1; omega) (.int .i64 Wn)).alloc (by simp [World.setCell]; exact hC.size) (.cells #[.int .i64 0, .int .i64 0, .slice f5 3 f6, .slice f7 0 f8, .int .i64 Wn, .int .i64 M] 32)
          exact hD.trans ((unhide HB6).mono hD.size)
end Go.Proofs.YtlhhdklendeikaaGreatDoor
