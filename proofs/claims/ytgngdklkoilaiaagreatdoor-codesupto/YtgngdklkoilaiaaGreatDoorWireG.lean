/- The reference's Encode (package bywayref): the bytes of a message. -/
import Derived.Test.YtgngdklkoilaiaaGreatDoorWireF
import Derived.Deep.CutBlock
namespace Go.Proofs.YtgngdklkoilaiaaGreatDoor
open Go.RowKit
set_option maxRecDepth 100000 in
set_option maxHeartbeats 6400000 in
theorem encode_w (u : Msg) (vg vn vp vm : Value) (w : World) (hg : NetsAt w vg u.gone) (hn : NetsAt w vn u.nets) (hp : IntsAt w vp u.path) (hm : IntsAt w vm u.marks) (h5 : inI u.pref) (h4 : inI u.med) (hlen : u.gone.length + u.nets.length ≤ 4194304) :
    Calls Tryz.prog 29 #[.agg #[vg, vn, vp, vm, .int .i64 u.pref, .int .i64 u.med]] w fun e w' => Below w.heap.size w w' ∧
      ∃ (v : Value) (l : List Int) (k : Int), e = .returned (.tuple #[v, .int .i64 k]) ∧ OwnB w' w.heap.size v l ∧ ((msgOk u ∧ l = encP u ∧ k = 0) ∨ (¬ msgOk u ∧ l = [] ∧ k = 5)) := by
  obtain ⟨i0, hi0, hz0, hz1, hz2⟩ := info_parts Tryz.infoByte
  have HG := hide hg
  have HN := hide hn
  have HP := hide hp
  have HM := hide hm
  obtain ⟨pg, cg, rfl, -⟩ := hg
  obtain ⟨pn, cn, rfl, -, hln, -⟩ := hn
  obtain ⟨pp, cp, rfl, -, hlp, -⟩ := hp
  obtain ⟨pm, cm, rfl, -, hlm, -⟩ := hm
  have b0 := hide ((Below.refl w.heap.size w).alloc (Nat.le_refl _) (.cells #[.slice pg u.gone.length cg, .slice pn u.nets.length cn, .slice pp u.path.length cp, .slice pm u.marks.length cm, .int .i64 u.pref, .int .i64 u.med] 27))
  go_enter Tryz.func29, Tryz.ntmps29
  go_wp2_with fail
  refine (isMessage_w u _ _ _ _ _ ((unhide HG).below (unhide b0)) ((unhide HN).below (unhide b0)) ((unhide HP).below (unhide b0)) ((unhide HM).below (unhide b0)) h5 h4 hlen).mono ?_
  rintro e w1 ⟨rfl, hb1⟩
  have q1 := (hb1.block w.heap.size (by simp)).trans (heap_alloc_new w _)
  have Q1 := hide q1
  obtain ⟨c0, c1, c2, c3, c4, c5⟩ := six_cells q1
  have b1 := hide ((unhide b0).trans (hb1.mono (unhide b0).size))
  clear hb1 q1 b0
  cases hok : msgOkB u with
  | false =>
    have HF := hide (show ¬ msgOk u from of_decide_eq_false hok)
    clear hok
    go_wp2
    go_ret2
    exact ⟨unhide b1, .slice none 0 0, [], 5, rfl, World.ownsRow_nil _ _ _ _, Or.inr ⟨unhide HF, rfl, rfl⟩⟩
  | true =>
    have HK := hide (show msgOk u from of_decide_eq_true hok)
    clear hok
    go_wp2_with fail
    refine (netBytes_own u.gone _ _ ((unhide HG).below (unhide b1)) (fun y hy => (unhide HK).1.2.1 y (by simp [hy])) (by have := (unhide HK).1.1; simp only [List.length_append] at this; omega)).mono ?_
    rintro e w2 ⟨v5, rfl, ho5, hb2⟩
    have q2 := (hb2.block _ (heap_lt (unhide Q1))).trans (unhide Q1)
    have Q2 := hide q2
    have b2 := hide ((unhide b1).trans (hb2.mono (unhide b1).size))
    have O5 := hide ho5
    have hu2 : w.heap.size < w2.heap.size := heap_lt q2
    clear c0 c1 c2 c3 c4 c5 ho5 hb2 q2
    obtain ⟨c0, c1, c2, c3, c4, c5⟩ := six_cells (unhide Q2)
    go_upto_if 22 with fail
    go_cut [6] (fun v6 wc => OwnB wc w2.heap.size v6 (attsB (attsOf u)) ∧ Below w2.heap.size w2 wc)
    case first =>
      by_cases hnz : 0 < u.nets.length
      · have HNZ := hide (show u.nets ≠ [] from List.length_pos_iff.1 hnz)
        have hpo := (unhide HK).2.1
        have hmo := (unhide HK).2.2.1
        have hpl := hpo.1
        have hml := hmo.1
        have HPO := hide hpo
        have HMO := hide hmo
        clear hpo hmo
        go_upto_if 26 with fail
        go_cut [7] (fun v7 wc => OwnB wc w2.heap.size v7 (pathHead u.path) ∧ Below w2.heap.size w2 wc)
        case first =>
          by_cases hp0 : 0 < u.path.length
          · have HZ := hide (show pathHead u.path = [2, (u.path.length : Int)] from by unfold pathHead; rw [if_neg (List.length_pos_iff.1 hp0)])
            have hmod : (u.path.length : Int) % 256 = u.path.length := by omega
            go_wp2_with fail
            go_meet
            case rel => rw [unhide HZ]; exact ⟨OwnB.made (l := [2, (u.path.length : Int)]) (Nat.le_refl _) (by simp), (Below.refl _ _).alloc (Nat.le_refl _) _⟩
          · have HZ := hide (show pathHead u.path = [] from by unfold pathHead; rw [if_pos (List.length_eq_zero_iff.1 (by omega))])
            go_wp2_with fail
            go_meet
            case rel => rw [unhide HZ]; exact ⟨World.ownsRow_nil _ _ _ _, Below.refl _ _⟩
        case rest =>
          rename World => wp
          obtain ⟨ho7, hb7⟩ := hcut
          have O7 := hide ho7
          have B7 := hide hb7
          clear ho7 hb7 c0 c1 c2 c3 c4 c5
          go_wp2_with fail
          go_loopw [7, 8] (fun v7 i wr => ∃ k : Nat, k ≤ u.path.length ∧ i = .int .i64 k ∧ OwnB wr w2.heap.size v7 (pathHead u.path ++ wordsB (u.path.take k)) ∧ Below w2.heap.size w2 wr) (fun _ i _ => u.path.length - (intOf i).toNat)
          case atStart => exact ⟨0, Nat.zero_le _, rfl, by simpa [wordsB] using unhide O7, unhide B7⟩
          case round =>
            rename World => WR
            obtain ⟨k, hk, rfl, ho, hbe⟩ := hrel
            have OR := hide ho
            have BE := hide hbe
            have bw := hide ((unhide b2).trans (hbe.mono (unhide b2).size))
            obtain ⟨c0, c1, c2, c3, c4, c5⟩ := six_cells ((hbe.block _ hu2).trans (unhide Q2))
            have s2 : w2.heap.size ≤ WR.heap.size := hbe.size
            clear ho hbe
            have hhd : (pathHead u.path).length ≤ 2 := by unfold pathHead; split <;> simp
            have hwl : (wordsB (u.path.take k)).length = 2 * k := by rw [wordsB_len]; simp; omega
            by_cases hlt : k < u.path.length
            · obtain ⟨b, o, rfl, hck⟩ := (unhide HP).cellB (unhide bw) hlt
              have hx := (unhide HPO).2 u.path[k] (List.getElem_mem _)
              have HWS := hide (wordsB_take hlt)
              go_wp2_with fail
              refine (two_own _ _ (by omega) (by omega)).mono ?_
              rintro e w4 ⟨v4, rfl, ho4, hb4⟩
              have R4 := hide (ReadsAs.own ho4)
              have OR4 := hide ((unhide OR).next hb4)
              have BE4 := hide ((unhide BE).trans (hb4.mono (unhide BE).size))
              have s4 : w2.heap.size ≤ w4.heap.size := (unhide BE4).size
              clear ho4 hb4
              go_wp2_with (at_builtin; refine wpList_append_reads rfl _ _ _ rfl w2.heap.size 5 i0 _ 1 1 Tryz.underlying63 hi0 hz0 hz1 hz2 rfl (by omega) u7 (pathHead u.path ++ wordsB (u.path.take k)).length ((pathHead u.path ++ wordsB (u.path.take k)).map (Value.int .u8)) rfl (unhide OR4) v4 2 ((twoB u.path[k]).map (Value.int .u8)) rfl (unhide R4) (by simp [twoB]) (one_u8 _) (by simp [maxLen]; omega) (by simp; omega) s4 ?_; intro v' w5 hown hgrow hat)
              exact ⟨⟨k + 1, by omega, by go_num, by rw [unhide HWS, ← List.append_assoc]; exact OwnB.join (a := pathHead u.path ++ wordsB (u.path.take k)) (b := twoB u.path[k]) rfl rfl hown, (unhide BE4).grown hgrow s4 (fun j hj => ((unhide OR4).lt j hj).1)⟩, by simp [intOf]; omega⟩
            · have OP : Hid (OwnB WR w2.heap.size u7 (pathB u.path)) := by
                have := unhide OR
                rw [List.take_of_length_le (by omega), pathHead_B] at this
                exact this
              have hpb := pathB_len (unhide HPO)
              clear OR O7 B7
              go_wp2_with fail
              refine (attribute_own 64 2 u7 (pathB u.path) _ (by omega) (by omega) (by omega) (ReadsAs.own (unhide OP)) (fun k hk => ((unhide OP).lt k hk).2)).mono ?_
              rintro e w4 ⟨v4, rfl, ho4, hb4⟩
              have R4 := hide (ReadsAs.own ho4)
              have BE4 := hide ((unhide BE).trans (hb4.mono (unhide BE).size))
              have s4 : w2.heap.size ≤ w4.heap.size := (unhide BE4).size
              have la2 : (attB (64, 2, pathB u.path)).length ≤ 29 := by rw [attB_len]; simp only; omega
              clear ho4 hb4 c0 c1 c2 c3 c4 c5
              go_upto_region 15 with (at_builtin; refine wpList_append_reads rfl _ _ _ rfl w2.heap.size 5 i0 _ 1 1 Tryz.underlying63 hi0 hz0 hz1 hz2 rfl (by omega) (.slice none 0 0) 0 (([] : List Int).map (Value.int .u8)) rfl (World.ownsRow_nil _ _ _ _) v4 (attB (64, 2, pathB u.path)).length ((attB (64, 2, pathB u.path)).map (Value.int .u8)) rfl (unhide R4) (by simp) (one_u8 _) (by simp [maxLen]; omega) (by omega) s4 ?_; intro v6 w5 hown hgrow hat)
              have B5 := hide ((unhide BE4).grown hgrow s4 (fun k hk => by simp [Value.ownBlock] at hk))
              have O6 : Hid (OwnB w5 w2.heap.size v6 (attB (64, 2, pathB u.path))) := OwnB.join (a := []) (b := attB (64, 2, pathB u.path)) rfl rfl hown
              have s5 : w2.heap.size ≤ w5.heap.size := (unhide B5).size
              clear hown hgrow hat R4 BE4 BE OP bw hlt s4 s2
              obtain ⟨c0, c1, c2, c3, c4, c5⟩ := six_cells (((unhide B5).block _ hu2).trans (unhide Q2))
              have hnum := (unhide HK).2.2.2.1
              have hnum4 := (unhide HK).2.2.2.2.1
              unfold numOk at hnum hnum4
              go_upto_if 53 with fail
              go_cut [6] (fun v6 wc => OwnB wc w2.heap.size v6 (attB (64, 2, pathB u.path) ++ medPart u) ∧ Below w2.heap.size w2 wc)
              case first =>
                by_cases hmd : 0 < u.med
                · have HZ := hide (show medPart u = attB (128, 4, fourB u.med) from by unfold medPart; rw [if_pos hmd])
                  go_wp2_with fail
                  refine (four_own _ _ hnum4.1 hnum4.2).mono ?_
                  rintro e w6 ⟨vx, rfl, ho, hb⟩
                  have OX := hide ho
                  have B6 := hide ((unhide B5).trans (hb.mono (unhide B5).size))
                  have O66 := hide ((unhide O6).next hb)
                  clear ho hb
                  go_wp2_with fail
                  refine (attribute_own 128 4 vx (fourB u.med) _ (by omega) (by omega) (by simp [fourB_len]) (ReadsAs.own (unhide OX)) (fun k hk => ((unhide OX).lt k hk).2)).mono ?_
                  rintro e w7 ⟨vy, rfl, ho, hb⟩
                  have RY := hide (ReadsAs.own ho)
                  have B7 := hide ((unhide B6).trans (hb.mono (unhide B6).size))
                  have O67 := hide ((unhide O66).next hb)
                  have s7 : w2.heap.size ≤ w7.heap.size := (unhide B7).size
                  clear ho hb OX O66 B6
                  go_wp2_with (at_builtin; refine wpList_append_reads rfl _ _ _ rfl w2.heap.size 5 i0 _ 1 1 Tryz.underlying63 hi0 hz0 hz1 hz2 rfl (by omega) v6 (attB (64, 2, pathB u.path)).length ((attB (64, 2, pathB u.path)).map (Value.int .u8)) rfl (unhide O67) vy (attB (128, 4, fourB u.med)).length ((attB (128, 4, fourB u.med)).map (Value.int .u8)) rfl (unhide RY) (by simp) (one_u8 _) (by simp [maxLen, attB_len, fourB_len]; omega) (by simp [attB_len, fourB_len]; omega) s7 ?_; intro v' w8 hown hgrow hat)
                  go_meet
                  case rel => rw [unhide HZ]; exact ⟨OwnB.join (a := attB (64, 2, pathB u.path)) (b := attB (128, 4, fourB u.med)) rfl rfl hown, (unhide B7).grown hgrow s7 (fun k hk => ((unhide O67).lt k hk).1)⟩
                · have HZ := hide (show medPart u = [] from by unfold medPart; rw [if_neg hmd])
                  go_wp2_with fail
                  go_meet
                  case rel => rw [unhide HZ, List.append_nil]; exact ⟨unhide O6, unhide B5⟩
              case rest =>
                rename World => w6
                obtain ⟨ho6, hb6⟩ := hcut
                have OA := hide ho6
                have B6 := hide hb6
                have lm := medPart_len u
                have l36 : (attB (64, 2, pathB u.path) ++ medPart u).length ≤ 36 := by rw [List.length_append]; omega
                have l7 : (attB (64, 5, fourB u.pref)).length = 7 := by simp [attB_len, fourB_len]
                clear ho6 hb6 c0 c1 c2 c3 c4 c5 O6 B5 s5
                obtain ⟨c0, c1, c2, c3, c4, c5⟩ := six_cells (((unhide B6).block _ hu2).trans (unhide Q2))
                go_wp2_with fail
                refine (four_own _ _ hnum.1 hnum.2).mono ?_
                rintro e w7 ⟨vx, rfl, ho, hb⟩
                have OX := hide ho
                have B7 := hide ((unhide B6).trans (hb.mono (unhide B6).size))
                have OA7 := hide ((unhide OA).next hb)
                clear ho hb c0 c1 c2 c3 c4 c5 B6 OA
                go_wp2_with fail
                refine (attribute_own 64 5 vx (fourB u.pref) _ (by omega) (by omega) (by simp [fourB_len]) (ReadsAs.own (unhide OX)) (fun k hk => ((unhide OX).lt k hk).2)).mono ?_
                rintro e w8 ⟨vy, rfl, ho, hb⟩
                have RY := hide (ReadsAs.own ho)
                have B8 := hide ((unhide B7).trans (hb.mono (unhide B7).size))
                have OA8 := hide ((unhide OA7).next hb)
                have s8 : w2.heap.size ≤ w8.heap.size := (unhide B8).size
                clear ho hb OX OA7 B7
                go_upto_region 18 with (at_builtin; refine wpList_append_reads rfl _ _ _ rfl w2.heap.size 5 i0 _ 1 1 Tryz.underlying63 hi0 hz0 hz1 hz2 rfl (by omega) u6 (attB (64, 2, pathB u.path) ++ medPart u).length ((attB (64, 2, pathB u.path) ++ medPart u).map (Value.int .u8)) rfl (unhide OA8) vy (attB (64, 5, fourB u.pref)).length ((attB (64, 5, fourB u.pref)).map (Value.int .u8)) rfl (unhide RY) (by simp) (one_u8 _) (by simp only [maxLen]; omega) (by omega) s8 ?_; intro vb w9 hown hgrow hat)
                have B9 := hide ((unhide B8).grown hgrow s8 (fun k hk => ((unhide OA8).lt k hk).1))
                have OC := hide (OwnB.join (a := attB (64, 2, pathB u.path) ++ medPart u) (b := attB (64, 5, fourB u.pref)) rfl rfl hown)
                have s9 : w2.heap.size ≤ w9.heap.size := (unhide B9).size
                clear hown hgrow hat RY OA8 B8 s8
                go_wp2_with fail
                go_loopw [9, 10] (fun v9 i wr => ∃ k : Nat, k ≤ u.marks.length ∧ i = .int .i64 k ∧ OwnB wr w9.heap.size v9 (wordsB (u.marks.take k)) ∧ Below w9.heap.size w9 wr) (fun _ i _ => u.marks.length - (intOf i).toNat)
                case atStart => exact ⟨0, Nat.zero_le _, rfl, World.ownsRow_nil _ _ _ _, Below.refl _ _⟩
                case round =>
                  rename World => WS
                  obtain ⟨k, hk, rfl, ho, hbe⟩ := hrel
                  have OR := hide ho
                  have BS := hide hbe
                  have BE := hide ((unhide B9).trans (hbe.mono s9))
                  have bw := hide ((unhide b2).trans ((unhide BE).mono (unhide b2).size))
                  obtain ⟨c0, c1, c2, c3, c4, c5⟩ := six_cells (((unhide BE).block _ hu2).trans (unhide Q2))
                  have sS : w9.heap.size ≤ WS.heap.size := hbe.size
                  clear ho hbe
                  have hwl : (wordsB (u.marks.take k)).length ≤ 16 := by rw [wordsB_len]; simp; omega
                  by_cases hlt : k < u.marks.length
                  · obtain ⟨b, o, rfl, hck⟩ := (unhide HM).cellB (unhide bw) hlt
                    have hx := rises_all (unhide HMO).2 u.marks[k] (List.getElem_mem _)
                    have HWS := hide (wordsB_take hlt)
                    go_wp2_with fail
                    refine (two_own _ _ (by omega) (by omega)).mono ?_
                    rintro e w10 ⟨v4, rfl, ho4, hb4⟩
                    have R4 := hide (ReadsAs.own ho4)
                    have OR4 := hide ((unhide OR).next hb4)
                    have BS4 := hide ((unhide BS).trans (hb4.mono (unhide BS).size))
                    have s4 : w9.heap.size ≤ w10.heap.size := (unhide BS4).size
                    clear ho4 hb4
                    go_wp2_with (at_builtin; refine wpList_append_reads rfl _ _ _ rfl w9.heap.size 5 i0 _ 1 1 Tryz.underlying63 hi0 hz0 hz1 hz2 rfl (by omega) u9 (wordsB (u.marks.take k)).length ((wordsB (u.marks.take k)).map (Value.int .u8)) rfl (unhide OR4) v4 2 ((twoB u.marks[k]).map (Value.int .u8)) rfl (unhide R4) (by simp [twoB]) (one_u8 _) (by simp only [maxLen]; omega) (by omega) s4 ?_; intro v' w11 hown hgrow hat)
                    exact ⟨⟨k + 1, by omega, by go_num, by rw [unhide HWS]; exact OwnB.join (a := wordsB (u.marks.take k)) (b := twoB u.marks[k]) rfl rfl hown, (unhide BS4).grown hgrow s4 (fun j hj => ((unhide OR4).lt j hj).1)⟩, by simp [intOf]; omega⟩
                  · have OMK : Hid (OwnB WS w9.heap.size u9 (wordsB u.marks)) := by
                      have := unhide OR
                      rw [List.take_of_length_le (by omega)] at this
                      exact this
                    have hml2 : (wordsB u.marks).length ≤ 2 * u.marks.length ∧ 2 * u.marks.length ≤ (wordsB u.marks).length := by rw [wordsB_len]; omega
                    have OCS := hide ((unhide OC).next (unhide BS))
                    have HEQ := hide (attsB_eq (unhide HNZ))
                    obtain ⟨q9, k9, rfl⟩ := own_slice (unhide OMK)
                    have sW : w2.heap.size ≤ WS.heap.size := Nat.le_trans s9 sS
                    clear OR OC hwl
                    by_cases hmz : 0 < u.marks.length
                    · have HZ := hide (show marksPart u = attB (192, 8, wordsB u.marks) from by unfold marksPart; rw [if_neg (List.length_pos_iff.1 hmz)])
                      have hpos : 0 < (wordsB u.marks).length := by omega
                      go_wp2_with fail
                      refine (attribute_own 192 8 _ (wordsB u.marks) _ (by omega) (by omega) (by omega) (ReadsAs.own (unhide OMK)) (fun k hk => ((unhide OMK).lt k hk).2)).mono ?_
                      rintro e w11 ⟨vy, rfl, ho, hb⟩
                      have RY := hide (ReadsAs.own ho)
                      have OC11 := hide ((unhide OCS).next hb)
                      have B11 := hide ((unhide BE).trans (hb.mono (unhide BE).size))
                      have s11 : w2.heap.size ≤ w11.heap.size := (unhide B11).size
                      have l19 : (attB (192, 8, wordsB u.marks)).length ≤ 19 := by rw [attB_len]; simp only; omega
                      have l43 : (attB (64, 2, pathB u.path) ++ medPart u ++ attB (64, 5, fourB u.pref)).length ≤ 43 := by rw [List.length_append]; omega
                      clear ho hb
                      go_wp2_with (at_builtin; refine wpList_append_reads rfl _ _ _ rfl w2.heap.size 5 i0 _ 1 1 Tryz.underlying63 hi0 hz0 hz1 hz2 rfl (by omega) vb (attB (64, 2, pathB u.path) ++ medPart u ++ attB (64, 5, fourB u.pref)).length ((attB (64, 2, pathB u.path) ++ medPart u ++ attB (64, 5, fourB u.pref)).map (Value.int .u8)) rfl (unhide OC11) vy (attB (192, 8, wordsB u.marks)).length ((attB (192, 8, wordsB u.marks)).map (Value.int .u8)) rfl (unhide RY) (by simp) (one_u8 _) (by simp only [maxLen]; omega) (by omega) s11 ?_; intro v' w12 hown hgrow hat)
                      go_meet
                      case rel => rw [unhide HEQ, unhide HZ]; exact ⟨OwnB.join (a := attB (64, 2, pathB u.path) ++ medPart u ++ attB (64, 5, fourB u.pref)) (b := attB (192, 8, wordsB u.marks)) rfl rfl hown, (unhide B11).grown hgrow s11 (fun k hk => ((unhide OC11).lt k hk).1)⟩
                    · have HZ := hide (show marksPart u = [] from by unfold marksPart; rw [if_pos (List.length_eq_zero_iff.1 (by omega))])
                      have hpos : ¬ 0 < (wordsB u.marks).length := by omega
                      go_wp2_with fail
                      go_meet
                      case rel => rw [unhide HEQ, unhide HZ, List.append_nil]; exact ⟨unhide OCS, unhide BE⟩
      · have HZ := hide (show attsOf u = [] from by unfold attsOf; rw [if_pos (List.length_eq_zero_iff.1 (by omega))])
        go_wp2_with fail
        go_meet
        case rel => rw [unhide HZ]; exact ⟨World.ownsRow_nil _ _ _ _, Below.refl _ _⟩
    case rest =>
      rename World => w3
      obtain ⟨ho6, hb3⟩ := hcut
      have O53 := hide (((unhide O5).base (b2 := w1.heap.size) (Nat.le_refl _)).next hb3)
      have Q3 := hide ((hb3.block _ hu2).trans (unhide Q2))
      have b3 := hide ((unhide b2).trans (hb3.mono (unhide b2).size))
      have O6 := hide ho6
      have lg : (netsB u.gone).length ≤ 100 := by
        have h1 := netsB_len (l := u.gone) (fun x hx => (unhide HK).1.2.1 x (by simp [hx]))
        have h2 := (unhide HK).1.1
        simp only [List.length_append] at h2; omega
      have la := attsB_len (unhide HK)
      obtain ⟨q5, k5, rfl⟩ := own_slice (unhide O5)
      obtain ⟨q6, k6, rfl⟩ := own_slice ho6
      clear ho6 hb3 c0 c1 c2 c3 c4 c5 O5 Q2
      go_wp2_with fail
      refine (two_own _ _ (by omega) (by omega)).mono ?_
      rintro e w4 ⟨v4, rfl, ho4, hb4⟩
      have R5 := hide (ReadsAs.own ((unhide O53).next hb4))
      have O64 := hide ((unhide O6).next hb4)
      have O4 := hide ho4
      have s4 : w3.heap.size ≤ w4.heap.size := hb4.size
      have B4 := hide hb4
      clear ho4 hb4
      go_upto_region 27 with (at_builtin; refine wpList_append_reads rfl _ _ _ rfl w3.heap.size 5 i0 _ 1 1 Tryz.underlying63 hi0 hz0 hz1 hz2 rfl (by omega) v4 2 ((twoB (netsB u.gone).length).map (Value.int .u8)) rfl (unhide O4) (.slice q5 (netsB u.gone).length k5) (netsB u.gone).length ((netsB u.gone).map (Value.int .u8)) rfl (unhide R5) (by simp) (one_u8 _) (by simp [maxLen]; omega) (by omega) s4 ?_; intro v' w5 hown hgrow hat)
      have B5 := hide ((unhide B4).grown hgrow s4 (fun k hk => ((unhide O4).lt k hk).1))
      have OA := hide (OwnB.join (a := twoB (netsB u.gone).length) (b := netsB u.gone) rfl rfl hown)
      have O65 := hide ((unhide O6).next (unhide B5))
      have s5 : w3.heap.size ≤ w5.heap.size := (unhide B5).size
      clear hown hgrow hat O4 B4 O64 R5 s4
      go_wp2_with fail
      refine (two_own _ _ (by omega) (by omega)).mono ?_
      rintro e w6 ⟨v6b, rfl, ho, hb⟩
      have R6 := hide (ReadsAs.own ho)
      have OA6 := hide ((unhide OA).next hb)
      have B6 := hide ((unhide B5).trans (hb.mono (unhide B5).size))
      have s6 : w3.heap.size ≤ w6.heap.size := (unhide B6).size
      clear ho hb
      go_upto_region 28 with (at_builtin; refine wpList_append_reads rfl _ _ _ rfl w3.heap.size 5 i0 _ 1 1 Tryz.underlying63 hi0 hz0 hz1 hz2 rfl (by omega) v' (twoB (netsB u.gone).length ++ netsB u.gone).length ((twoB (netsB u.gone).length ++ netsB u.gone).map (Value.int .u8)) rfl (unhide OA6) v6b 2 ((twoB (attsB (attsOf u)).length).map (Value.int .u8)) rfl (unhide R6) (by simp [twoB]) (one_u8 _) (by simp [maxLen, twoB]; omega) (by simp [twoB]; omega) s6 ?_; intro v7 w7 hown hgrow hat)
      have B7 := hide ((unhide B6).grown hgrow s6 (fun k hk => ((unhide OA6).lt k hk).1))
      have OC := hide (OwnB.join (a := twoB (netsB u.gone).length ++ netsB u.gone) (b := twoB (attsB (attsOf u)).length) rfl rfl hown)
      have R67 := hide (ReadsAs.own ((unhide O6).next (unhide B7)))
      have s7 : w3.heap.size ≤ w7.heap.size := (unhide B7).size
      clear hown hgrow hat OA OA6 B5 B6 R6 O65 s5 s6
      go_upto_region 29 with (at_builtin; refine wpList_append_reads rfl _ _ _ rfl w3.heap.size 5 i0 _ 1 1 Tryz.underlying63 hi0 hz0 hz1 hz2 rfl (by omega) v7 (twoB (netsB u.gone).length ++ netsB u.gone ++ twoB (attsB (attsOf u)).length).length ((twoB (netsB u.gone).length ++ netsB u.gone ++ twoB (attsB (attsOf u)).length).map (Value.int .u8)) rfl (unhide OC) (.slice q6 (attsB (attsOf u)).length k6) (attsB (attsOf u)).length ((attsB (attsOf u)).map (Value.int .u8)) rfl (unhide R67) (by simp) (one_u8 _) (by simp [maxLen, twoB]; omega) (by simp [twoB]; omega) s7 ?_; intro v8 w8 hown hgrow hat)
      have B8 := hide ((unhide B7).grown hgrow s7 (fun k hk => ((unhide OC).lt k hk).1))
      have OD := hide (OwnB.join (a := twoB (netsB u.gone).length ++ netsB u.gone ++ twoB (attsB (attsOf u)).length) (b := attsB (attsOf u)) rfl rfl hown)
      have s8 : w3.heap.size ≤ w8.heap.size := (unhide B8).size
      have b8 := hide ((unhide b3).trans ((unhide B8).mono (unhide b3).size))
      obtain ⟨c0, c1, c2, c3, c4, c5⟩ := six_cells (((unhide B8).block _ (heap_lt (unhide Q3))).trans (unhide Q3))
      clear hown hgrow hat OC B7 R67 s7
      go_wp2_with fail
      refine (netBytes_own u.nets _ _ ((unhide HN).below (unhide b8)) (fun y hy => (unhide HK).1.2.1 y (by simp [hy])) (by have := (unhide HK).1.1; simp only [List.length_append] at this; omega)).mono ?_
      rintro e w9 ⟨v9, rfl, ho, hb⟩
      have R9 := hide (ReadsAs.own ho)
      have OD9 := hide ((unhide OD).next hb)
      have b9 := hide ((unhide b8).trans (hb.mono (unhide b8).size))
      have s9 : w3.heap.size ≤ w9.heap.size := Nat.le_trans s8 hb.size
      have sw : w.heap.size ≤ w3.heap.size := (unhide b3).size
      have ln : (netsB u.nets).length ≤ 100 := by
        have h1 := netsB_len (l := u.nets) (fun x hx => (unhide HK).1.2.1 x (by simp [hx]))
        have h2 := (unhide HK).1.1
        simp only [List.length_append] at h2; omega
      clear ho hb
      go_wp2_with (at_builtin; refine wpList_append_reads rfl _ _ _ rfl w3.heap.size 5 i0 _ 1 1 Tryz.underlying63 hi0 hz0 hz1 hz2 rfl (by omega) v8 (twoB (netsB u.gone).length ++ netsB u.gone ++ twoB (attsB (attsOf u)).length ++ attsB (attsOf u)).length ((twoB (netsB u.gone).length ++ netsB u.gone ++ twoB (attsB (attsOf u)).length ++ attsB (attsOf u)).map (Value.int .u8)) rfl (unhide OD9) v9 (netsB u.nets).length ((netsB u.nets).map (Value.int .u8)) rfl (unhide R9) (by simp) (one_u8 _) (by simp [maxLen, twoB]; omega) (by simp [twoB]; omega) s9 ?_; intro v10 w10 hown hgrow hat)
      go_ret2
      refine ⟨(unhide b9).grown hgrow (unhide b9).size (fun k hk => Nat.le_trans sw ((unhide OD9).lt k hk).1), v10, _, 0, rfl, OwnB.base (OwnB.join (a := twoB (netsB u.gone).length ++ netsB u.gone ++ twoB (attsB (attsOf u)).length ++ attsB (attsOf u)) (b := netsB u.nets) rfl rfl hown) sw, Or.inl ⟨unhide HK, ?_, rfl⟩⟩
      unfold encP
      simp only [List.append_assoc]
end Go.Proofs.YtgngdklkoilaiaaGreatDoor
