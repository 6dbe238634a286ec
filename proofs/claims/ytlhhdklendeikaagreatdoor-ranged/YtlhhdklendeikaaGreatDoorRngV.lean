/- Ranged (package bywaykeep): it answers true. -/
import Derived.Test.YtlhhdklendeikaaGreatDoorItoA
import Derived.Test.YtlhhdklendeikaaGreatDoorKpA
namespace Go.Proofs.YtlhhdklendeikaaGreatDoor
open Go.RowKit

theorem getD_of {l : List Int} {j : Nat} (h : j < l.length) : l.getD j 0 = l[j] := by simp [List.getD, List.getElem?_eq_getElem h]
theorem ints_cell {w wr : World} {b o : Nat} {l : List Int} (hb : b < w.heap.size) (hc : ∀ j, (h : j < l.length) → w.cell? ⟨b, o + j, none⟩ = some (.int .i64 l[j])) (hB : Below w.heap.size w wr) {j : Nat} (h : j < l.length) : wr.cell? ⟨b, o + j, none⟩ = some (.int .i64 (l.getD j 0)) := by
  rw [getD_of h]; exact (hB.cell (p := ⟨b, o + j, none⟩) hb).trans (hc j h)
theorem bel_text {w w2 w5 : World} {o : Obj} {q : Nat} (h : Below w.heap.size w w2) (hb : Below ((w2.alloc o).drewN q).heap.size ((w2.alloc o).drewN q) w5) : Below w.heap.size w w5 := by
  have hd := below_drewN (h.alloc h.size o) q
  exact hd.trans (hb.mono hd.size)
set_option maxRecDepth 100000 in
set_option maxHeartbeats 20000000 in
theorem ranged_any (w : World) (ht : TokTabs w) (hpt : PowTab w) (rr nn : List Int) (x y : Value) (hx : IntsAt w x rr) (hy : IntsAt w y nn) :
    Calls Tryz.prog 5 #[x, y] w fun e w' => e = .returned (.bool true) ∧ Below w.heap.size w w' := by
  obtain ⟨q, c, rfl, hcap, hl, hin, hr⟩ := hx
  obtain ⟨q', c', rfl, hcap', hl', hin', hr'⟩ := hy
  have HR := hide hr
  have HR' := hide hr'
  have HIN := hide hin
  have HIN' := hide hin'
  have HT := hide ht
  have HPT := hide hpt
  clear hr hr' hin hin' ht hpt
  have HK := hide (known_any w (unhide HT))
  go_enter Tryz.func5, Tryz.ntmps5
  go_wp2_with (go_at_call 9; refine (unhide HK).mono ?_; clear HK; rintro e w1 ⟨rfl, hb1⟩; have HB1 := hide hb1; clear hb1)
  go_loopw [6, 7, 8] (fun s n i wr => ∃ j : Nat, 3 * j ≤ rr.length ∧ j ≤ 5 ∧ i = .int .i64 ((3 * j : Nat) : Int) ∧ n = .int .i64 (j : Nat) ∧ s = .string (rgText (rgs rr j)) ∧ Below w.heap.size w wr) (fun _ n _ _ => 5 - (intOf n).toNat)
  case atStart =>
    exact ⟨0, Nat.zero_le _, Nat.zero_le _, rfl, rfl, rfl, unhide HB1⟩
  case round =>
    obtain ⟨j, hj, hj5, rfl, rfl, rfl, hbl⟩ := hrel
    have HBL := hide hbl
    clear hbl
    by_cases hlt : 3 * j + 2 < rr.length ∧ j < 5
    · obtain ⟨hlt, hl5⟩ := hlt
      rcases unhide HR with h | ⟨b, o, rfl, hb, hc⟩
      · rw [h.1] at hlt; simp at hlt
      have k0 := ints_cell hb hc (unhide HBL) (j := 3 * j) (by omega)
      have k1 := ints_cell hb hc (unhide HBL) (j := 3 * j + 1) (by omega)
      have k2 := ints_cell hb hc (unhide HBL) (j := 3 * j + 2) (by omega)
      have i0 : inI (rr.getD (3 * j) 0) := by rw [getD_of (by omega)]; exact unhide HIN _ (List.getElem_mem _)
      have i1 : inI (rr.getD (3 * j + 1) 0) := by rw [getD_of (by omega)]; exact unhide HIN _ (List.getElem_mem _)
      have i2 : inI (rr.getD (3 * j + 2) 0) := by rw [getD_of (by omega)]; exact unhide HIN _ (List.getElem_mem _)
      have hbd := at_bd rr j
      have HNO := hide (netP_ok (rr.getD (3 * j) 0))
      have hSs := rgText_len (rgs_ok' rr j)
      rw [rgs_len'] at hSs
      have HSN := hide (rgs_snoc rr j)
      have HRA : Hid (rgAt rr j = ⟨quadOf (netP (rr.getD (3 * j) 0)).1, (netP (rr.getD (3 * j) 0)).2.toNat, (loAt rr j).toNat, (hiAt rr j).toNat⟩) := hide rfl
      have hlo : loAt rr j = (netP (rr.getD (3 * j) 0)).2 + pickP (rr.getD (3 * j + 1) 0) (33 - (netP (rr.getD (3 * j) 0)).2) := rfl
      have hhi : hiAt rr j = loAt rr j + pickP (rr.getD (3 * j + 2) 0) (33 - loAt rr j) := rfl
      generalize loAt rr j = lo at *
      generalize hiAt rr j = hi at *
      obtain ⟨m, hm⟩ : ∃ m, 3 * j = m := ⟨_, rfl⟩
      rw [hm] at k0 k1 k2 i0 i1 i2 hbd HNO HRA hlo hhi hlt
      generalize rr.getD m 0 = X0 at *
      generalize rr.getD (m + 1) 0 = X1 at *
      generalize rr.getD (m + 2) 0 = X2 at *
      unfold inI at i0 i1 i2
      have HN := hide (fun (W : World) => net_any X0 W i0.1 i0.2)
      generalize netP X0 = N at *
      obtain ⟨A, Ln⟩ := N
      dsimp only at hbd hlo hhi HN HRA
      obtain ⟨n0, n1, n2, n3⟩ := hbd
      replace hlo := hlo.symm
      replace hhi := hhi.symm
      have HP1 := hide (fun (W : World) => pick_any X1 (33 - Ln) W i1.1 i1.2 (by omega) (by omega))
      have HP2 := hide (fun (W : World) => pick_any X2 (33 - lo) W i2.1 i2.2 (by omega) (by omega))
      generalize pickP X1 (33 - Ln) = P1 at *
      generalize pickP X2 (33 - lo) = P2 at *
      obtain ⟨⟨a0, a1⟩, _, _⟩ := unhide HNO
      have HTX := hide (fun (W : World) (hW : Below w.heap.size w W) => text_any A Ln a0 a1 n0 (by omega) W ((unhide HPT).below hW))
      have HI1 := hide (fun (W : World) (hW : Below w.heap.size w W) => itoa_any lo.toNat (by omega) W ((unhide HPT).below hW))
      have HI2 := hide (fun (W : World) (hW : Below w.heap.size w W) => itoa_any hi.toNat (by omega) W ((unhide HPT).below hW))
      rw [Int.toNat_of_nonneg (by omega)] at HI1 HI2
      have hps : (pfxB (quadOf A) Ln.toNat).length ≤ 54 := pfx_len _ _ (quad_ok a0 a1).1 (by omega)
      have hd1 : (Lib.decDigits lo.toNat).length ≤ 10 := dec_len (by omega)
      have hd2 : (Lib.decDigits hi.toNat).length ≤ 10 := dec_len (by omega)
      have HS2 := hide (show rgText (rgs rr (j + 1)) = (((((if j = 0 then bsA [] else rgText (rgs rr j) ++ bsA [44, 32]) ++ bsA (pfxB (quadOf A) Ln.toNat)) ++ bsA [32]) ++ bsA (Lib.decDigits lo.toNat)) ++ bsA [32]) ++ bsA (Lib.decDigits hi.toNat) by
        rw [unhide HSN, unhide HRA]
        by_cases h0 : j = 0
        · subst h0
          rw [if_pos rfl, rgText_one ⟨quadOf A, Ln.toNat, lo.toNat, hi.toNat⟩]; rfl
        · rw [if_neg h0]
          have hll := rgs_len' rr j
          match hq : rgs rr j with
          | [] => rw [hq] at hll; exact absurd hll.symm h0
          | x :: l => rw [rgText_snoc x l ⟨quadOf A, Ln.toNat, lo.toNat, hi.toNat⟩])
      rw [← bsA_size] at hps hd1 hd2
      generalize bsA (pfxB (quadOf A) Ln.toNat) = T at *
      generalize bsA (Lib.decDigits lo.toNat) = D1 at *
      generalize bsA (Lib.decDigits hi.toNat) = D2 at *
      have HSE : Hid (rgText (rgs rr j) = rgText (rgs rr j)) := hide rfl
      generalize hSE : rgText (rgs rr j) = S at *
      replace HSE := hide hSE.symm
      clear hSE
      have hbw : b < wr.heap.size := Nat.lt_of_lt_of_le hb (unhide HBL).size
      have HMJ := hide hm
      rw [hm]
      have HSJ := hide hSs
      have hS5 : S.size ≤ 390 := by omega
      have hm5 : m ≤ 12 := by omega
      have z1 : (0 : Int) ≤ (m : Int) + 1 := by omega
      have z2 : (m : Int) + 1 < (rr.length : Int) := by omega
      have z3 : ((m : Int) + 1).toNat = m + 1 := by omega
      clear hc hm HRA HSN HNO hSs
      by_cases hj0 : j = 0
      · have hjp : ¬ (0 : Int) < (j : Int) := by omega
        have hS0 : S = bsA [] := by rw [hj0] at HSE; exact unhide HSE
        rw [if_pos hj0, ← hS0] at HS2
        clear hS0
        go_wp2_with (go_at_call 21; refine ((unhide HN) _).mono ?_; clear HN; rintro e w2 ⟨rfl, hb2⟩; have y1 := (hb2.cell (p := ⟨b, o + (m + 1), none⟩) hbw).trans k1; have y2 := (hb2.cell (p := ⟨b, o + (m + 2), none⟩) hbw).trans k2; have hb2w : b < w2.heap.size := (Nat.lt_of_lt_of_le hbw hb2.size); have HB2 := hide ((unhide HBL).trans (hb2.mono (unhide HBL).size)); clear hb2)
        go_quiet ((go_at_call 22; exact Calls.quiet_of_same ((unhide HP1) _)))
        go_wp2_with (first
          | (go_at_call 22; refine ((unhide HP2) _).mono ?_; clear HP2; rintro e w' ⟨rfl, rfl⟩)
          | (go_at_call 23; refine ((unhide HTX) _ (below_drewN ((unhide HB2).alloc (unhide HB2).size _) _)).mono ?_; clear HTX; rintro e w5 ⟨rfl, hb5⟩; have HB5 := hide (bel_text (unhide HB2) hb5); clear hb5)
          | (go_at_call 24; refine ((unhide HI1) _ (unhide HB5)).mono ?_; clear HI1; rintro e w6 ⟨rfl, hb6⟩; have HB6 := hide ((unhide HB5).trans (hb6.mono (unhide HB5).size)); clear hb6)
          | (go_at_call 24; refine ((unhide HI2) _ (unhide HB6)).mono ?_; clear HI2; rintro e w7 ⟨rfl, hb7⟩; have HB7 := hide ((unhide HB6).trans (hb7.mono (unhide HB6).size)); clear hb7))
        refine ⟨⟨j + 1, by have := unhide HMJ; omega, by omega, ?_, by go_num, by rw [unhide HS2] <;> rfl, unhide HB7⟩, by simp [intOf]; omega⟩
        rw [show ((3 * (j + 1) : Nat) : Int) = (m : Int) + 3 by have := unhide HMJ; omega]
      · have hjp : (0 : Int) < (j : Int) := by omega
        rw [if_neg hj0] at HS2
        go_wp2_with (go_at_call 21; refine ((unhide HN) _).mono ?_; clear HN; rintro e w2 ⟨rfl, hb2⟩; have y1 := (hb2.cell (p := ⟨b, o + (m + 1), none⟩) hbw).trans k1; have y2 := (hb2.cell (p := ⟨b, o + (m + 2), none⟩) hbw).trans k2; have hb2w : b < w2.heap.size := (Nat.lt_of_lt_of_le hbw hb2.size); have HB2 := hide ((unhide HBL).trans (hb2.mono (unhide HBL).size)); clear hb2)
        go_quiet ((go_at_call 22; exact Calls.quiet_of_same ((unhide HP1) _)))
        go_wp2_with (first
          | (go_at_call 22; refine ((unhide HP2) _).mono ?_; clear HP2; rintro e w' ⟨rfl, rfl⟩)
          | (go_at_call 23; refine ((unhide HTX) _ (below_drewN ((unhide HB2).alloc (unhide HB2).size _) _)).mono ?_; clear HTX; rintro e w5 ⟨rfl, hb5⟩; have HB5 := hide (bel_text (unhide HB2) hb5); clear hb5)
          | (go_at_call 24; refine ((unhide HI1) _ (unhide HB5)).mono ?_; clear HI1; rintro e w6 ⟨rfl, hb6⟩; have HB6 := hide ((unhide HB5).trans (hb6.mono (unhide HB5).size)); clear hb6)
          | (go_at_call 24; refine ((unhide HI2) _ (unhide HB6)).mono ?_; clear HI2; rintro e w7 ⟨rfl, hb7⟩; have HB7 := hide ((unhide HB6).trans (hb7.mono (unhide HB6).size)); clear hb7))
        refine ⟨⟨j + 1, by have := unhide HMJ; omega, by omega, ?_, by go_num, by rw [unhide HS2] <;> rfl, unhide HB7⟩, by simp [intOf]; omega⟩
        rw [show ((3 * (j + 1) : Nat) : Int) = (m : Int) + 3 by have := unhide HMJ; omega]
    · obtain ⟨U, hRD, hU⟩ := ranged_all rr j hj5
      have HU := hide hU
      have HC := hide (compiled_ok hRD wr ((unhide HT).below (unhide HBL)))
      have hSs := rgText_len (rgs_ok' rr j)
      rw [rgs_len'] at hSs
      generalize rgText (rgs rr j) = S at *
      have hEx : (¬ 3 * j + 2 < rr.length ∧ j = 0) ∨ (¬ 3 * j + 2 < rr.length ∧ ¬ j = 0) ∨ (3 * j + 2 < rr.length ∧ ¬ j < 5) := by omega
      obtain ⟨m, hm⟩ : ∃ m, 3 * j = m := ⟨_, rfl⟩
      rw [hm] at hEx ⊢
      have HMJ := hide hm
      have hS5 : S.size ≤ 390 := by omega
      have hm5 : m ≤ 15 := by omega
      have HH := hide hj
      clear hm hlt hRD hU hSs hj
      rcases hEx with ⟨h1, h0⟩ | ⟨h1, h0⟩ | ⟨h1, h2⟩
      · have hn0 : (j : Int) = 0 := by omega
        rw [if_pos h0] at HC
        go_wp2_with (go_at_call 10; refine (unhide HC).mono ?_; clear HC; rintro e w2 ⟨pp, rfl, hb2, hl2⟩; have HB2 := hide hb2; have HL2 := hide hl2; clear hb2 hl2)
        have HBW := hide ((unhide HBL).trans ((unhide HB2).mono (unhide HBL).size))
        clear HB2 h1 hS5 hm5 HMJ
        go_loopw [13] (fun i wr2 => ∃ k : Nat, k ≤ nn.length ∧ k ≤ 12 ∧ i = .int .i64 (k : Nat) ∧ Below w2.heap.size w2 wr2) (fun i _ => 12 - (intOf i).toNat)
        case atStart => exact ⟨0, Nat.zero_le _, Nat.zero_le _, rfl, Below.refl _ _⟩
        case round =>
          obtain ⟨k, hk, hk12, rfl, hbl2⟩ := hrel
          have HBL2 := hide hbl2
          clear hbl2
          by_cases hlk : k < nn.length ∧ k < 12
          · obtain ⟨hlk, hl12⟩ := hlk
            rcases unhide HR' with h | ⟨b', o', rfl, hb', hc'⟩
            · rw [h.1] at hlk; simp at hlk
            have HBV := hide ((unhide HBW).trans ((unhide HBL2).mono (unhide HBW).size))
            have hck := ints_cell hb' hc' (unhide HBV) hlk
            have i0 : inI (nn.getD k 0) := by rw [getD_of hlk]; exact unhide HIN' _ (List.getElem_mem _)
            unfold inI at i0
            generalize nn.getD k 0 = X at *
            have HN := hide (fun (W : World) => net_any X W i0.1 i0.2)
            have HNO := hide (netP_ok X)
            generalize netP X = N at *
            obtain ⟨ya, yl⟩ := N
            dsimp only at HN
            clear hc'
            go_wp2_with (go_at_call 21; refine ((unhide HN) _).mono ?_; clear HN; rintro e w3 ⟨rfl, hb3⟩; have HB3 := hide hb3; clear hb3)
            have HB4 := hide (((unhide HB3).trans (Below.refl _ _)).alloc (unhide HB3).size (netBlk ya yl))
            obtain ⟨W3, hW3⟩ : ∃ W3, w3.alloc (netBlk ya yl) = W3 := ⟨_, rfl⟩
            have hY := heap_alloc_new w3 (netBlk ya yl)
            have hYz : w3.heap.size < W3.heap.size := by rw [← hW3]; simp
            rw [hW3] at hY HB4
            unfold netBlk at hW3
            rw [hW3]
            have HY := hide hY
            clear hY hW3
            go_loopw [15, 16] (fun want i wr3 => ∃ k2 : Nat, k2 ≤ j ∧ i = .int .i64 (k2 : Nat) ∧ want = .bool (wantTo rr ya yl k2) ∧ Below W3.heap.size W3 wr3) (fun _ i _ => 5 - (intOf i).toNat)
            case atStart => exact ⟨0, Nat.zero_le _, rfl, rfl, Below.refl _ _⟩
            case round =>
              obtain ⟨k2, hk2, rfl, rfl, hbl3⟩ := hrel
              have HBL3 := hide hbl3
              have hsz3 : w3.heap.size < wr.heap.size := Nat.lt_of_lt_of_le hYz hbl3.size
              have yc0 : wr.cell? ⟨w3.heap.size, 0, none⟩ = some (.int .i64 ya) := cell_of_heap ((hbl3.block _ hYz).trans (unhide HY))
              have yc1 : wr.cell? ⟨w3.heap.size, 1, none⟩ = some (.int .i64 yl) := cell_of_heap ((hbl3.block _ hYz).trans (unhide HY))
              clear hbl3
              have HB5 := hide ((unhide HBV).trans ((unhide HB4).mono (unhide HBV).size))
              have HB6 := hide ((unhide HB5).trans ((unhide HBL3).mono (unhide HB5).size))
              by_cases hlj : k2 < j
              · exact absurd hlj (by omega)
              · have hkj : k2 = j := by omega
                have HUW := hide (unhide HU ya yl (unhide HNO))
                have HTK := hide (fun (W : World) (hW : Below w2.heap.size w2 W) => taken_any (unhide HL2) W hW ya yl (unhide HNO))
                rw [if_pos h0] at HUW
                rw [unhide HUW] at HTK
                have HB8 := hide ((unhide HBL2).trans ((unhide HB4).mono (unhide HBL2).size))
                have HB9 := hide ((unhide HB8).trans ((unhide HBL3).mono (unhide HB8).size))
                have hk0 : (k2 : Int) = 0 := by omega
                clear HU HUW
                generalize wantTo rr ya yl k2 = WT at *
                by_cases g1 : yl = 8
                · by_cases g2 : ya = 167772160
                  · subst g1 g2
                    rw [decide_eq_true rfl, decide_eq_true rfl] at HTK
                    change Hid (∀ (W : World), _ → Calls _ _ _ W fun e w' => e = .returned (.bool true) ∧ _) at HTK
                    go_wp2_with (go_at_call 25; refine ((unhide HTK) _ (unhide HB9)).mono ?_; clear HTK; rintro e w4 ⟨rfl, hb4⟩; have HBA := hide ((unhide HB9).trans (hb4.mono (unhide HB9).size)); clear hb4)
                    exact ⟨⟨k + 1, by omega, by omega, by go_num, unhide HBA⟩, by simp [intOf]; omega⟩
                  · subst g1
                    rw [decide_eq_true rfl, decide_eq_false g2] at HTK
                    change Hid (∀ (W : World), _ → Calls _ _ _ W fun e w' => e = .returned (.bool false) ∧ _) at HTK
                    go_wp2_with (go_at_call 25; refine ((unhide HTK) _ (unhide HB9)).mono ?_; clear HTK; rintro e w4 ⟨rfl, hb4⟩; have HBA := hide ((unhide HB9).trans (hb4.mono (unhide HB9).size)); clear hb4)
                    exact ⟨⟨k + 1, by omega, by omega, by go_num, unhide HBA⟩, by simp [intOf]; omega⟩
                · rw [decide_eq_false g1, Bool.false_and] at HTK
                  go_wp2_with (go_at_call 25; refine ((unhide HTK) _ (unhide HB9)).mono ?_; clear HTK; rintro e w4 ⟨rfl, hb4⟩; have HBA := hide ((unhide HB9).trans (hb4.mono (unhide HB9).size)); clear hb4)
                  exact ⟨⟨k + 1, by omega, by omega, by go_num, unhide HBA⟩, by simp [intOf]; omega⟩
          · rcases (show ¬ k < nn.length ∨ (k < nn.length ∧ ¬ k < 12) by omega) with g1 | ⟨g1, g2⟩
            all_goals
              clear hlk
              go_wp2_with fail
              go_ret
              exact ⟨rfl, (unhide HBW).trans ((unhide HBL2).mono (unhide HBW).size)⟩
      · have hn0 : ¬ (j : Int) = 0 := by omega
        rw [if_neg h0] at HC
        go_wp2_with (go_at_call 10; refine (unhide HC).mono ?_; clear HC; rintro e w2 ⟨pp, rfl, hb2, hl2⟩; have HB2 := hide hb2; have HL2 := hide hl2; clear hb2 hl2)
        have HBW := hide ((unhide HBL).trans ((unhide HB2).mono (unhide HBL).size))
        clear HB2 h1 hS5 hm5 HMJ
        go_loopw [13] (fun i wr2 => ∃ k : Nat, k ≤ nn.length ∧ k ≤ 12 ∧ i = .int .i64 (k : Nat) ∧ Below w2.heap.size w2 wr2) (fun i _ => 12 - (intOf i).toNat)
        case atStart => exact ⟨0, Nat.zero_le _, Nat.zero_le _, rfl, Below.refl _ _⟩
        case round =>
          obtain ⟨k, hk, hk12, rfl, hbl2⟩ := hrel
          have HBL2 := hide hbl2
          clear hbl2
          by_cases hlk : k < nn.length ∧ k < 12
          · obtain ⟨hlk, hl12⟩ := hlk
            rcases unhide HR' with h | ⟨b', o', rfl, hb', hc'⟩
            · rw [h.1] at hlk; simp at hlk
            have HBV := hide ((unhide HBW).trans ((unhide HBL2).mono (unhide HBW).size))
            have hck := ints_cell hb' hc' (unhide HBV) hlk
            have i0 : inI (nn.getD k 0) := by rw [getD_of hlk]; exact unhide HIN' _ (List.getElem_mem _)
            unfold inI at i0
            generalize nn.getD k 0 = X at *
            have HN := hide (fun (W : World) => net_any X W i0.1 i0.2)
            have HNO := hide (netP_ok X)
            generalize netP X = N at *
            obtain ⟨ya, yl⟩ := N
            dsimp only at HN
            clear hc'
            go_wp2_with (go_at_call 21; refine ((unhide HN) _).mono ?_; clear HN; rintro e w3 ⟨rfl, hb3⟩; have HB3 := hide hb3; clear hb3)
            have HB4 := hide (((unhide HB3).trans (Below.refl _ _)).alloc (unhide HB3).size (netBlk ya yl))
            obtain ⟨W3, hW3⟩ : ∃ W3, w3.alloc (netBlk ya yl) = W3 := ⟨_, rfl⟩
            have hY := heap_alloc_new w3 (netBlk ya yl)
            have hYz : w3.heap.size < W3.heap.size := by rw [← hW3]; simp
            rw [hW3] at hY HB4
            unfold netBlk at hW3
            rw [hW3]
            have HY := hide hY
            clear hY hW3
            go_loopw [15, 16] (fun want i wr3 => ∃ k2 : Nat, k2 ≤ j ∧ i = .int .i64 (k2 : Nat) ∧ want = .bool (wantTo rr ya yl k2) ∧ Below W3.heap.size W3 wr3) (fun _ i _ => 5 - (intOf i).toNat)
            case atStart => exact ⟨0, Nat.zero_le _, rfl, rfl, Below.refl _ _⟩
            case round =>
              obtain ⟨k2, hk2, rfl, rfl, hbl3⟩ := hrel
              have HBL3 := hide hbl3
              have hsz3 : w3.heap.size < wr.heap.size := Nat.lt_of_lt_of_le hYz hbl3.size
              have yc0 : wr.cell? ⟨w3.heap.size, 0, none⟩ = some (.int .i64 ya) := cell_of_heap ((hbl3.block _ hYz).trans (unhide HY))
              have yc1 : wr.cell? ⟨w3.heap.size, 1, none⟩ = some (.int .i64 yl) := cell_of_heap ((hbl3.block _ hYz).trans (unhide HY))
              clear hbl3
              have HB5 := hide ((unhide HBV).trans ((unhide HB4).mono (unhide HBV).size))
              have HB6 := hide ((unhide HB5).trans ((unhide HBL3).mono (unhide HB5).size))
              by_cases hlj : k2 < j
              · have h3 : 3 * k2 + 2 < rr.length := by have := unhide HH; omega
                rcases unhide HR with h | ⟨b, o, rfl, hb, hc⟩
                · rw [h.1] at h3; simp at h3
                have k0 := ints_cell hb hc (unhide HB6) (j := 3 * k2) (by omega)
                have k1 := ints_cell hb hc (unhide HB6) (j := 3 * k2 + 1) (by omega)
                have k2' := ints_cell hb hc (unhide HB6) (j := 3 * k2 + 2) (by omega)
                have i0 : inI (rr.getD (3 * k2) 0) := by rw [getD_of (by omega)]; exact unhide HIN _ (List.getElem_mem _)
                have i1 : inI (rr.getD (3 * k2 + 1) 0) := by rw [getD_of (by omega)]; exact unhide HIN _ (List.getElem_mem _)
                have i2 : inI (rr.getD (3 * k2 + 2) 0) := by rw [getD_of (by omega)]; exact unhide HIN _ (List.getElem_mem _)
                have hbd := at_bd rr k2
                have HNX := hide (netP_ok (rr.getD (3 * k2) 0))
                have HWN := hide (wantTo_snoc rr ya yl k2)
                have HWA : Hid (wantAt rr ya yl k2 = wantP (netP (rr.getD (3 * k2) 0)).1 (netP (rr.getD (3 * k2) 0)).2 (loAt rr k2) (hiAt rr k2) ya yl) := hide rfl
                have hlo : loAt rr k2 = (netP (rr.getD (3 * k2) 0)).2 + pickP (rr.getD (3 * k2 + 1) 0) (33 - (netP (rr.getD (3 * k2) 0)).2) := rfl
                have hhi : hiAt rr k2 = loAt rr k2 + pickP (rr.getD (3 * k2 + 2) 0) (33 - loAt rr k2) := rfl
                generalize loAt rr k2 = lo at *
                generalize hiAt rr k2 = hi at *
                obtain ⟨m, hm⟩ : ∃ m, 3 * k2 = m := ⟨_, rfl⟩
                have hmi : 3 * (k2 : Int) = (m : Int) := by omega
                rw [hm] at k0 k1 k2' i0 i1 i2 hbd HNX HWA hlo hhi h3
                generalize rr.getD m 0 = X0 at *
                generalize rr.getD (m + 1) 0 = X1 at *
                generalize rr.getD (m + 2) 0 = X2 at *
                unfold inI at i0 i1 i2
                have HN := hide (fun (W : World) => net_any X0 W i0.1 i0.2)
                generalize netP X0 = N at *
                obtain ⟨A, Ln⟩ := N
                dsimp only at hbd hlo hhi HN HWA
                obtain ⟨n0, n1, n2, n3⟩ := hbd
                replace hlo := hlo.symm
                replace hhi := hhi.symm
                have HP1 := hide (fun (W : World) => pick_any X1 (33 - Ln) W i1.1 i1.2 (by omega) (by omega))
                have HP2 := hide (fun (W : World) => pick_any X2 (33 - lo) W i2.1 i2.2 (by omega) (by omega))
                generalize pickP X1 (33 - Ln) = P1 at *
                generalize pickP X2 (33 - lo) = P2 at *
                obtain ⟨⟨a0, a1⟩, _, _⟩ := unhide HNX
                obtain ⟨⟨y0, y1⟩, ⟨y2, y3⟩, _⟩ := unhide HNO
                dsimp only at a0 a1 y0 y1 y2 y3
                have hbw : b < wr.heap.size := Nat.lt_of_lt_of_le hb (unhide HB6).size
                have z1 : (0 : Int) ≤ (m : Int) + 1 := by omega
                have z2 : (m : Int) + 1 < (rr.length : Int) := by omega
                have z3 : ((m : Int) + 1).toNat = m + 1 := by omega
                have hm5 : m ≤ 12 := by omega
                generalize wantTo rr ya yl k2 = WT at *
                clear hc hm HNX
                go_wp2_with (go_at_call 21; refine ((unhide HN) _).mono ?_; clear HN; rintro e w4 ⟨rfl, hb4⟩; have v1 := (hb4.cell (p := ⟨b, o + (m + 1), none⟩) hbw).trans k1; have v2 := (hb4.cell (p := ⟨b, o + (m + 2), none⟩) hbw).trans k2'; have v3 := (hb4.cell (p := ⟨w3.heap.size, 0, none⟩) hsz3).trans yc0; have v4 := (hb4.cell (p := ⟨w3.heap.size, 1, none⟩) hsz3).trans yc1; have hb4w : b < w4.heap.size := (Nat.lt_of_lt_of_le hbw hb4.size); have hs4w : w3.heap.size < w4.heap.size := (Nat.lt_of_lt_of_le hsz3 hb4.size); have HB7 := hide ((unhide HBL3).trans (hb4.mono (unhide HBL3).size)); clear hb4)
                go_quiet ((go_at_call 22; exact Calls.quiet_of_same ((unhide HP1) _)))
                go_wp2_with (go_at_call 22; refine ((unhide HP2) _).mono ?_; clear HP2; rintro e w' ⟨rfl, rfl⟩)
                cases WT with
                | true =>
                  go_quiet ((fail))
                  go_wp2_with fail
                  refine ⟨⟨k2 + 1, by omega, by go_num, by rw [unhide HWN, unhide HWA]; unfold wantP; simp, below_drewN ((unhide HB7).alloc (unhide HB7).size _) _⟩, by simp [intOf]; omega⟩
                | false =>
                  by_cases g1 : lo ≤ yl
                  · have g1' : decide (lo ≤ yl) = true := decide_eq_true g1
                    by_cases g2 : yl ≤ hi
                    · have g2' : decide (yl ≤ hi) = true := decide_eq_true g2
                      have e1 : (0 : Int) ≤ 32 - Ln := by omega
                      go_quiet ((fail))
                      go_wp2_with fail
                      refine ⟨⟨k2 + 1, by omega, by go_num, by rw [unhide HWN, unhide HWA]; unfold wantP; simp [g1, g2]; exact Bool.eq_iff_iff.mpr (by simp), below_drewN ((unhide HB7).alloc (unhide HB7).size _) _⟩, by simp [intOf]; omega⟩
                    · have g2' : decide (yl ≤ hi) = false := decide_eq_false g2
                      go_quiet ((fail))
                      go_wp2_with fail
                      refine ⟨⟨k2 + 1, by omega, by go_num, by rw [unhide HWN, unhide HWA]; unfold wantP; simp [g2], below_drewN ((unhide HB7).alloc (unhide HB7).size _) _⟩, by simp [intOf]; omega⟩
                  · have g1' : decide (lo ≤ yl) = false := decide_eq_false g1
                    go_quiet ((fail))
                    go_wp2_with fail
                    refine ⟨⟨k2 + 1, by omega, by go_num, by rw [unhide HWN, unhide HWA]; unfold wantP; simp [g1], below_drewN ((unhide HB7).alloc (unhide HB7).size _) _⟩, by simp [intOf]; omega⟩
              · have hkj : k2 = j := by omega
                have HUW := hide (unhide HU ya yl (unhide HNO))
                have HTK := hide (fun (W : World) (hW : Below w2.heap.size w2 W) => taken_any (unhide HL2) W hW ya yl (unhide HNO))
                rw [if_neg h0] at HUW
                rw [unhide HUW] at HTK
                subst hkj
                have HB8 := hide ((unhide HBL2).trans ((unhide HB4).mono (unhide HBL2).size))
                have HB9 := hide ((unhide HB8).trans ((unhide HBL3).mono (unhide HB8).size))
                clear HU HUW
                generalize wantTo rr ya yl k2 = WT at *
                cases WT <;>
                · go_wp2_with (go_at_call 25; refine ((unhide HTK) _ (unhide HB9)).mono ?_; clear HTK; rintro e w4 ⟨rfl, hb4⟩; have HBA := hide ((unhide HB9).trans (hb4.mono (unhide HB9).size)); clear hb4)
                  exact ⟨⟨k + 1, by omega, by omega, by go_num, unhide HBA⟩, by simp [intOf]; omega⟩
          · rcases (show ¬ k < nn.length ∨ (k < nn.length ∧ ¬ k < 12) by omega) with g1 | ⟨g1, g2⟩
            all_goals
              clear hlk
              go_wp2_with fail
              go_ret
              exact ⟨rfl, (unhide HBW).trans ((unhide HBL2).mono (unhide HBW).size)⟩
      · have hn0 : ¬ (j : Int) = 0 := by omega
        have h0 : ¬ j = 0 := by omega
        rw [if_neg h0] at HC
        go_wp2_with (go_at_call 10; refine (unhide HC).mono ?_; clear HC; rintro e w2 ⟨pp, rfl, hb2, hl2⟩; have HB2 := hide hb2; have HL2 := hide hl2; clear hb2 hl2)
        have HBW := hide ((unhide HBL).trans ((unhide HB2).mono (unhide HBL).size))
        clear HB2 h1 h2 hS5 hm5 HMJ
        go_loopw [13] (fun i wr2 => ∃ k : Nat, k ≤ nn.length ∧ k ≤ 12 ∧ i = .int .i64 (k : Nat) ∧ Below w2.heap.size w2 wr2) (fun i _ => 12 - (intOf i).toNat)
        case atStart => exact ⟨0, Nat.zero_le _, Nat.zero_le _, rfl, Below.refl _ _⟩
        case round =>
          obtain ⟨k, hk, hk12, rfl, hbl2⟩ := hrel
          have HBL2 := hide hbl2
          clear hbl2
          by_cases hlk : k < nn.length ∧ k < 12
          · obtain ⟨hlk, hl12⟩ := hlk
            rcases unhide HR' with h | ⟨b', o', rfl, hb', hc'⟩
            · rw [h.1] at hlk; simp at hlk
            have HBV := hide ((unhide HBW).trans ((unhide HBL2).mono (unhide HBW).size))
            have hck := ints_cell hb' hc' (unhide HBV) hlk
            have i0 : inI (nn.getD k 0) := by rw [getD_of hlk]; exact unhide HIN' _ (List.getElem_mem _)
            unfold inI at i0
            generalize nn.getD k 0 = X at *
            have HN := hide (fun (W : World) => net_any X W i0.1 i0.2)
            have HNO := hide (netP_ok X)
            generalize netP X = N at *
            obtain ⟨ya, yl⟩ := N
            dsimp only at HN
            clear hc'
            go_wp2_with (go_at_call 21; refine ((unhide HN) _).mono ?_; clear HN; rintro e w3 ⟨rfl, hb3⟩; have HB3 := hide hb3; clear hb3)
            have HB4 := hide (((unhide HB3).trans (Below.refl _ _)).alloc (unhide HB3).size (netBlk ya yl))
            obtain ⟨W3, hW3⟩ : ∃ W3, w3.alloc (netBlk ya yl) = W3 := ⟨_, rfl⟩
            have hY := heap_alloc_new w3 (netBlk ya yl)
            have hYz : w3.heap.size < W3.heap.size := by rw [← hW3]; simp
            rw [hW3] at hY HB4
            unfold netBlk at hW3
            rw [hW3]
            have HY := hide hY
            clear hY hW3
            go_loopw [15, 16] (fun want i wr3 => ∃ k2 : Nat, k2 ≤ j ∧ i = .int .i64 (k2 : Nat) ∧ want = .bool (wantTo rr ya yl k2) ∧ Below W3.heap.size W3 wr3) (fun _ i _ => 5 - (intOf i).toNat)
            case atStart => exact ⟨0, Nat.zero_le _, rfl, rfl, Below.refl _ _⟩
            case round =>
              obtain ⟨k2, hk2, rfl, rfl, hbl3⟩ := hrel
              have HBL3 := hide hbl3
              have hsz3 : w3.heap.size < wr.heap.size := Nat.lt_of_lt_of_le hYz hbl3.size
              have yc0 : wr.cell? ⟨w3.heap.size, 0, none⟩ = some (.int .i64 ya) := cell_of_heap ((hbl3.block _ hYz).trans (unhide HY))
              have yc1 : wr.cell? ⟨w3.heap.size, 1, none⟩ = some (.int .i64 yl) := cell_of_heap ((hbl3.block _ hYz).trans (unhide HY))
              clear hbl3
              have HB5 := hide ((unhide HBV).trans ((unhide HB4).mono (unhide HBV).size))
              have HB6 := hide ((unhide HB5).trans ((unhide HBL3).mono (unhide HB5).size))
              by_cases hlj : k2 < j
              · have h3 : 3 * k2 + 2 < rr.length := by have := unhide HH; omega
                rcases unhide HR with h | ⟨b, o, rfl, hb, hc⟩
                · rw [h.1] at h3; simp at h3
                have k0 := ints_cell hb hc (unhide HB6) (j := 3 * k2) (by omega)
                have k1 := ints_cell hb hc (unhide HB6) (j := 3 * k2 + 1) (by omega)
                have k2' := ints_cell hb hc (unhide HB6) (j := 3 * k2 + 2) (by omega)
                have i0 : inI (rr.getD (3 * k2) 0) := by rw [getD_of (by omega)]; exact unhide HIN _ (List.getElem_mem _)
                have i1 : inI (rr.getD (3 * k2 + 1) 0) := by rw [getD_of (by omega)]; exact unhide HIN _ (List.getElem_mem _)
                have i2 : inI (rr.getD (3 * k2 + 2) 0) := by rw [getD_of (by omega)]; exact unhide HIN _ (List.getElem_mem _)
                have hbd := at_bd rr k2
                have HNX := hide (netP_ok (rr.getD (3 * k2) 0))
                have HWN := hide (wantTo_snoc rr ya yl k2)
                have HWA : Hid (wantAt rr ya yl k2 = wantP (netP (rr.getD (3 * k2) 0)).1 (netP (rr.getD (3 * k2) 0)).2 (loAt rr k2) (hiAt rr k2) ya yl) := hide rfl
                have hlo : loAt rr k2 = (netP (rr.getD (3 * k2) 0)).2 + pickP (rr.getD (3 * k2 + 1) 0) (33 - (netP (rr.getD (3 * k2) 0)).2) := rfl
                have hhi : hiAt rr k2 = loAt rr k2 + pickP (rr.getD (3 * k2 + 2) 0) (33 - loAt rr k2) := rfl
                generalize loAt rr k2 = lo at *
                generalize hiAt rr k2 = hi at *
                obtain ⟨m, hm⟩ : ∃ m, 3 * k2 = m := ⟨_, rfl⟩
                have hmi : 3 * (k2 : Int) = (m : Int) := by omega
                rw [hm] at k0 k1 k2' i0 i1 i2 hbd HNX HWA hlo hhi h3
                generalize rr.getD m 0 = X0 at *
                generalize rr.getD (m + 1) 0 = X1 at *
                generalize rr.getD (m + 2) 0 = X2 at *
                unfold inI at i0 i1 i2
                have HN := hide (fun (W : World) => net_any X0 W i0.1 i0.2)
                generalize netP X0 = N at *
                obtain ⟨A, Ln⟩ := N
                dsimp only at hbd hlo hhi HN HWA
                obtain ⟨n0, n1, n2, n3⟩ := hbd
                replace hlo := hlo.symm
                replace hhi := hhi.symm
                have HP1 := hide (fun (W : World) => pick_any X1 (33 - Ln) W i1.1 i1.2 (by omega) (by omega))
                have HP2 := hide (fun (W : World) => pick_any X2 (33 - lo) W i2.1 i2.2 (by omega) (by omega))
                generalize pickP X1 (33 - Ln) = P1 at *
                generalize pickP X2 (33 - lo) = P2 at *
                obtain ⟨⟨a0, a1⟩, _, _⟩ := unhide HNX
                obtain ⟨⟨y0, y1⟩, ⟨y2, y3⟩, _⟩ := unhide HNO
                dsimp only at a0 a1 y0 y1 y2 y3
                have hbw : b < wr.heap.size := Nat.lt_of_lt_of_le hb (unhide HB6).size
                have z1 : (0 : Int) ≤ (m : Int) + 1 := by omega
                have z2 : (m : Int) + 1 < (rr.length : Int) := by omega
                have z3 : ((m : Int) + 1).toNat = m + 1 := by omega
                have hm5 : m ≤ 12 := by omega
                generalize wantTo rr ya yl k2 = WT at *
                clear hc hm HNX
                go_wp2_with (go_at_call 21; refine ((unhide HN) _).mono ?_; clear HN; rintro e w4 ⟨rfl, hb4⟩; have v1 := (hb4.cell (p := ⟨b, o + (m + 1), none⟩) hbw).trans k1; have v2 := (hb4.cell (p := ⟨b, o + (m + 2), none⟩) hbw).trans k2'; have v3 := (hb4.cell (p := ⟨w3.heap.size, 0, none⟩) hsz3).trans yc0; have v4 := (hb4.cell (p := ⟨w3.heap.size, 1, none⟩) hsz3).trans yc1; have hb4w : b < w4.heap.size := (Nat.lt_of_lt_of_le hbw hb4.size); have hs4w : w3.heap.size < w4.heap.size := (Nat.lt_of_lt_of_le hsz3 hb4.size); have HB7 := hide ((unhide HBL3).trans (hb4.mono (unhide HBL3).size)); clear hb4)
                go_quiet ((go_at_call 22; exact Calls.quiet_of_same ((unhide HP1) _)))
                go_wp2_with (go_at_call 22; refine ((unhide HP2) _).mono ?_; clear HP2; rintro e w' ⟨rfl, rfl⟩)
                cases WT with
                | true =>
                  go_quiet ((fail))
                  go_wp2_with fail
                  refine ⟨⟨k2 + 1, by omega, by go_num, by rw [unhide HWN, unhide HWA]; unfold wantP; simp, below_drewN ((unhide HB7).alloc (unhide HB7).size _) _⟩, by simp [intOf]; omega⟩
                | false =>
                  by_cases g1 : lo ≤ yl
                  · have g1' : decide (lo ≤ yl) = true := decide_eq_true g1
                    by_cases g2 : yl ≤ hi
                    · have g2' : decide (yl ≤ hi) = true := decide_eq_true g2
                      have e1 : (0 : Int) ≤ 32 - Ln := by omega
                      go_quiet ((fail))
                      go_wp2_with fail
                      refine ⟨⟨k2 + 1, by omega, by go_num, by rw [unhide HWN, unhide HWA]; unfold wantP; simp [g1, g2]; exact Bool.eq_iff_iff.mpr (by simp), below_drewN ((unhide HB7).alloc (unhide HB7).size _) _⟩, by simp [intOf]; omega⟩
                    · have g2' : decide (yl ≤ hi) = false := decide_eq_false g2
                      go_quiet ((fail))
                      go_wp2_with fail
                      refine ⟨⟨k2 + 1, by omega, by go_num, by rw [unhide HWN, unhide HWA]; unfold wantP; simp [g2], below_drewN ((unhide HB7).alloc (unhide HB7).size _) _⟩, by simp [intOf]; omega⟩
                  · have g1' : decide (lo ≤ yl) = false := decide_eq_false g1
                    go_quiet ((fail))
                    go_wp2_with fail
                    refine ⟨⟨k2 + 1, by omega, by go_num, by rw [unhide HWN, unhide HWA]; unfold wantP; simp [g1], below_drewN ((unhide HB7).alloc (unhide HB7).size _) _⟩, by simp [intOf]; omega⟩
              · have hkj : k2 = j := by omega
                have HUW := hide (unhide HU ya yl (unhide HNO))
                have HTK := hide (fun (W : World) (hW : Below w2.heap.size w2 W) => taken_any (unhide HL2) W hW ya yl (unhide HNO))
                rw [if_neg h0] at HUW
                rw [unhide HUW] at HTK
                subst hkj
                have HB8 := hide ((unhide HBL2).trans ((unhide HB4).mono (unhide HBL2).size))
                have HB9 := hide ((unhide HB8).trans ((unhide HBL3).mono (unhide HB8).size))
                clear HU HUW
                generalize wantTo rr ya yl k2 = WT at *
                cases WT <;>
                · go_wp2_with (go_at_call 25; refine ((unhide HTK) _ (unhide HB9)).mono ?_; clear HTK; rintro e w4 ⟨rfl, hb4⟩; have HBA := hide ((unhide HB9).trans (hb4.mono (unhide HB9).size)); clear hb4)
                  exact ⟨⟨k + 1, by omega, by omega, by go_num, unhide HBA⟩, by simp [intOf]; omega⟩
          · rcases (show ¬ k < nn.length ∨ (k < nn.length ∧ ¬ k < 12) by omega) with g1 | ⟨g1, g2⟩
            all_goals
              clear hlk
              go_wp2_with fail
              go_ret
              exact ⟨rfl, (unhide HBW).trans ((unhide HBL2).mono (unhide HBW).size)⟩
end Go.Proofs.YtlhhdklendeikaaGreatDoor
