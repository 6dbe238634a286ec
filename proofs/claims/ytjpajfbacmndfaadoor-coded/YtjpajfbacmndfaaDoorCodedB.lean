/- The statement Coded (package bywaykeep): given what Encode and Decode do, every call answers true; old memory stays as it is. -/
import Derived.Test.YtjpajfbacmndfaaDoorCodedA
namespace Go.Proofs.YtjpajfbacmndfaaDoor
open Go.RowKit

set_option maxRecDepth 100000 in
set_option maxHeartbeats 12800000 in
theorem coded_any (w : World) (hE : EncSaid w 9) (hD : DecSaid w 10) (gone nets r bytes : List Int) (xg xn xr xb : Value)
    (hg : IntsAt w xg gone) (hn : IntsAt w xn nets) (hr : IntsAt w xr r) (hb : BytesAt w xb bytes) :
    Calls Tryd.prog 3 #[xg, xn, xr, xb] w fun e w' => e = .returned (.bool true) ∧ Below w.heap.size w w' := by
  have HG := hide hg
  have HN := hide hn
  have HR := hide hr
  have HB := hide hb
  have hl : bytes.length ≤ 140737488355328 := by obtain ⟨_, _, _, _, h, _⟩ := hb; omega
  obtain ⟨pg, cg, rfl, hcg, hlg, hig, hrg⟩ := hg
  obtain ⟨pn, cn, rfl, hcn, hln, hin, hrn⟩ := hn
  clear hr hb hrg hrn
  go_enter Tryd.func3, Tryd.ntmps3
  go_upto_block 0 with fail
  go_cut [] (fun wc => ∃ vg vn, PutAt w wc (putTo gone nets (min (gone.length + nets.length) 19)) vg vn)
  case first =>
    go_wp2_with fail
    go_loopw [10] (fun i wr => ∃ k vg vn, k ≤ min (gone.length + nets.length) 19 ∧ i = .int .i64 (k : Nat) ∧ PutAt w wr (putTo gone nets k) vg vn) (fun i _ => 20 - (intOf i).toNat)
    case atStart => exact ⟨0, _, _, Nat.zero_le _, rfl, PutAt.start w⟩
    case round =>
      obtain ⟨k, vg, vn, hk, rfl, hput⟩ := hrel
      have PUT := hide hput
      obtain ⟨qg, kg, rfl⟩ := own_slice hput.og
      obtain ⟨qn, kn, rfl⟩ := own_slice hput.on
      clear hput
      have hall := putTo_ok gone nets k
      obtain ⟨L, hL⟩ : ∃ L, putTo gone nets k = L := ⟨_, rfl⟩
      rw [hL] at PUT hall
      have HL := hide hL
      clear hL
      by_cases hlt : k < gone.length + nets.length
      · by_cases h19 : k < 19
        · have hag := atP_in hig k
          go_wp2_with fail
          refine (at_any gone k _ _ (by omega) ((unhide HG).below (unhide PUT).be)).mono ?_
          rintro e w0 ⟨rfl, rfl⟩
          go_wp2_with fail
          refine (net_any _ _ hag.1 hag.2).mono ?_
          rintro e w1 ⟨rfl, hb1⟩
          have PUT1 := hide ((unhide PUT).next hb1)
          clear hb1
          have hX : ∃ X : Int × Int, Hid (nthP gone nets k = X) := ⟨_, rfl⟩
          obtain ⟨X, HX⟩ := hX
          go_upto_if 49 with fail
          go_cut [] (fun wc => PutAt w wc L (.slice qg L.1.length kg) (.slice qn L.2.length kn) ∧ wc.heap[w1.heap.size]? = some (.cells #[.int .i64 X.1, .int .i64 X.2] 28 (0, 0)))
          case first =>
            by_cases hgk : k < gone.length
            · have HN1 := hide (show netP (atP gone k) = X from by rw [← unhide HX]; unfold nthP; rw [if_pos hgk])
              go_wp2_with fail
              go_meet
              case rel =>
                rw [unhide HN1]
                exact ⟨(unhide PUT1).next ((Below.refl _ _).alloc (Nat.le_refl _) _), heap_alloc_new _ _⟩
            · have HN1 := hide (show netP (atP nets (k - gone.length)) = X from by rw [← unhide HX]; unfold nthP; rw [if_neg hgk])
              have hkn : k - gone.length < nets.length := by omega
              have hnn := atP_in hin (k - gone.length)
              have HNb := hide ((unhide HN).below ((unhide PUT1).next ((Below.refl _ _).alloc (Nat.le_refl _) (.cells #[.int .i64 (netP (atP gone k)).1, .int .i64 (netP (atP gone k)).2] 28))).be)
              obtain ⟨p', c', hv, hcap', hl', hin', hr'⟩ := unhide HNb
              cases hv
              rcases hr' with h | ⟨b, o, rfl, hbb, hc⟩
              · rw [h.1] at hkn; simp at hkn
              have hck := hc (k - gone.length) hkn
              have HA := hide (show atP nets (k - gone.length) = nets[k - gone.length] from by unfold atP; rw [List.getElem?_eq_getElem hkn]; rfl)
              have hsub : (k : Int) - (gone.length : Int) = ((k - gone.length : Nat) : Int) := by omega
              rw [unhide HA] at HN1 hnn
              clear hc hin' hcap' hl'
              obtain ⟨y, hy⟩ : ∃ y, nets[k - gone.length] = y := ⟨_, rfl⟩
              rw [hy] at hck HN1 hnn
              clear hy HA
              go_wp2_with fail
              refine (net_any _ _ hnn.1 hnn.2).mono ?_
              rintro e w2 ⟨rfl, hb2⟩
              rw [unhide HN1]
              have qz : w2.heap[w1.heap.size]? = some (.cells #[.int .i64 (netP (atP gone k)).1, .int .i64 (netP (atP gone k)).2] 28 (0, 0)) := (hb2.block _ (by simp)).trans (heap_alloc_new _ _)
              have z0 : w2.cell? ⟨w1.heap.size, 0, none⟩ = some (.int .i64 (netP (atP gone k)).1) := cell_of_heap qz
              have z1 : w2.cell? ⟨w1.heap.size, 1, none⟩ = some (.int .i64 (netP (atP gone k)).2) := cell_of_heap qz
              have zf : ∀ o, w2.frozen? ⟨w1.heap.size, o, none⟩ = false := fun o => frozen_of_heap qz
              have QZ := hide qz
              have B2 := hide (((Below.refl _ _).alloc (Nat.le_refl _) _).trans (hb2.mono (by simp)))
              clear qz hb2
              go_wp2_with fail
              go_meet
              case rel =>
                refine ⟨(unhide PUT1).next (((unhide B2).setCell (Nat.le_refl _) _).setCell (Nat.le_refl _) _), ?_⟩
                exact heap_set (heap_set (unhide QZ))
          case rest =>
            rename World => wx
            obtain ⟨px, qx⟩ := hcut
            have PX := hide px
            have QX := hide qx
            clear px qx hlt
            obtain ⟨bx, hbx⟩ : ∃ b, w1.heap.size = b := ⟨_, rfl⟩
            rw [hbx] at QX ⊢
            clear hbx PUT PUT1
            go_wp2_with fail
            go_loopw [12, 13] (fun th j wr2 => ∃ q : Nat, q ≤ L.1.length ∧ j = .int .i64 q ∧ th = .bool (decide (X ∈ L.1.take q)) ∧ Below wx.heap.size wx wr2) (fun _ j _ => L.1.length - (intOf j).toNat)
            case atStart => exact ⟨0, Nat.zero_le _, rfl, by simp, Below.refl _ _⟩
            case round =>
              rename World => WR
              obtain ⟨q, hq, rfl, rfl, hbe⟩ := hrel
              have P2 := (unhide PX).next hbe
              have c0 : WR.cell? ⟨w.heap.size, 0, none⟩ = some (.slice qg L.1.length kg) := cell_of_heap P2.blk
              have c1 : WR.cell? ⟨w.heap.size, 1, none⟩ = some (.slice qn L.2.length kn) := cell_of_heap P2.blk
              have qx2 : WR.heap[bx]? = some (.cells #[.int .i64 X.1, .int .i64 X.2] 28 (0, 0)) := (hbe.block bx (heap_lt (unhide QX))).trans (unhide QX)
              have x0 : WR.cell? ⟨bx, 0, none⟩ = some (.int .i64 X.1) := cell_of_heap qx2
              have x1 : WR.cell? ⟨bx, 1, none⟩ = some (.int .i64 X.2) := cell_of_heap qx2
              have BE := hide hbe
              by_cases hqt : q < L.1.length
              · obtain ⟨g, rfl, hg1, hg2, y0, y1⟩ := P2.og.cell hqt
                have HMT := hide (mem_take_succ (x := X) hqt)
                clear hbe qx2 P2
                obtain ⟨th, hth⟩ : ∃ b, decide (X ∈ L.1.take q) = b := ⟨_, rfl⟩
                rw [hth] at HMT ⊢
                clear hth
                go_wp2_with fail
                go_region_with (go_at_call 6; refine (sameNet_any L.1[q] X _).mono ?_; rintro e w3 ⟨rfl, hb3⟩)
                all_goals
                  have BE3 : Hid (Below wx.heap.size wx w3) := by
                    refine Below.trans ?_ (hb3.mono (unhide BE).size)
                    repeat (first | exact unhide BE | refine Below.drew ?_)
                  clear hb3
                  cases th
                all_goals
                  go_wp2_with fail
                  exact ⟨⟨q + 1, by omega, by go_num, by rw [unhide HMT]; simp, unhide BE3⟩, by simp [intOf]; omega⟩
              · have HALL := hide (mem_take_all (x := X) (l := L.1) (q := q) (by omega))
                rw [unhide HALL]
                have PY := hide P2
                have QY := hide qx2
                clear hbe qx2 P2 BE PX QX x0 x1
                go_wp2_with fail
                go_loopw [12, 15] (fun th j wr3 => ∃ q : Nat, q ≤ L.2.length ∧ j = .int .i64 q ∧ th = .bool (decide (X ∈ L.1) || decide (X ∈ L.2.take q)) ∧ Below WR.heap.size WR wr3) (fun _ j _ => L.2.length - (intOf j).toNat)
                case atStart => exact ⟨0, Nat.zero_le _, rfl, by simp, Below.refl _ _⟩
                case round =>
                  rename World => WS
                  obtain ⟨q2, hq2, rfl, rfl, hbe⟩ := hrel
                  have P3 := (unhide PY).next hbe
                  have c0' : WS.cell? ⟨w.heap.size, 0, none⟩ = some (.slice qg L.1.length kg) := cell_of_heap P3.blk
                  have c1' : WS.cell? ⟨w.heap.size, 1, none⟩ = some (.slice qn L.2.length kn) := cell_of_heap P3.blk
                  have fz : ∀ o, WS.frozen? ⟨w.heap.size, o, none⟩ = false := fun o => frozen_of_heap P3.blk
                  have qx3 : WS.heap[bx]? = some (.cells #[.int .i64 X.1, .int .i64 X.2] 28 (0, 0)) := (hbe.block bx (heap_lt (unhide QY))).trans (unhide QY)
                  have x0 : WS.cell? ⟨bx, 0, none⟩ = some (.int .i64 X.1) := cell_of_heap qx3
                  have x1 : WS.cell? ⟨bx, 1, none⟩ = some (.int .i64 X.2) := cell_of_heap qx3
                  have BE := hide hbe
                  by_cases hqt2 : q2 < L.2.length
                  · obtain ⟨g, rfl, hg1, hg2, y0, y1⟩ := P3.on.cell hqt2
                    have HMT := hide (mem_take_succ (x := X) hqt2)
                    clear hbe qx3 P3
                    obtain ⟨th, hth⟩ : ∃ b, (decide (X ∈ L.1) || decide (X ∈ L.2.take q2)) = b := ⟨_, rfl⟩
                    have HTH := hide (show (decide (X ∈ L.1) || decide (X ∈ L.2.take (q2 + 1))) = (th || decide (L.2[q2] = X)) from by rw [unhide HMT, ← hth, Bool.or_assoc])
                    rw [hth]
                    clear hth
                    go_wp2_with fail
                    go_region_with (go_at_call 6; refine (sameNet_any L.2[q2] X _).mono ?_; rintro e w3 ⟨rfl, hb3⟩)
                    all_goals
                      have BE3 : Hid (Below WR.heap.size WR w3) := by
                        refine Below.trans ?_ (hb3.mono (unhide BE).size)
                        repeat (first | exact unhide BE | refine Below.drew ?_)
                      clear hb3
                      cases th
                    all_goals
                      go_wp2_with fail
                      exact ⟨⟨q2 + 1, by omega, by go_num, by rw [unhide HTH]; simp, unhide BE3⟩, by simp [intOf]; omega⟩
                  · have HALL2 := hide (mem_take_all (x := X) (l := L.2) (q := q2) (by omega))
                    rw [unhide HALL2]
                    have PZ := hide P3
                    clear hbe qx3 P3 BE PY QY
                    have HPUT := hide (show putTo gone nets (k + 1) = putP gone nets k L from by rw [← unhide HL]; rfl)
                    by_cases hm : X ∈ L.1 ∨ X ∈ L.2
                    · have hb : (decide (X ∈ L.1) || decide (X ∈ L.2)) = true := by simpa using hm
                      have HP1 := hide (show putTo gone nets (k + 1) = L from by rw [unhide HPUT]; unfold putP; rw [unhide HX, if_pos hm])
                      rw [hb]
                      clear hb hm
                      go_wp2_with fail
                      exact ⟨⟨k + 1, _, _, by omega, by go_num, by rw [unhide HP1]; exact unhide PZ⟩, by simp [intOf]; omega⟩
                    · have hb : (decide (X ∈ L.1) || decide (X ∈ L.2)) = false := by simpa using hm
                      rw [hb]
                      clear hb
                      obtain ⟨i0, hi0, hz0, hz1, hz2⟩ := info_parts Tryd.infoNet
                      have hlen := hall.2.1
                      have hws := (unhide PZ).be.size
                      by_cases hgk : k < gone.length
                      · have HP1 := hide (show putTo gone nets (k + 1) = (L.1 ++ [X], L.2) from by rw [unhide HPUT]; unfold putP; rw [unhide HX, if_neg hm, if_pos hgk])
                        clear hm
                        go_wp2_with (at_builtin; refine wpList_append_lies _ rfl _ _ _ rfl (w.heap.size + 1) 28 i0 _ 2 16 Tryd.underlying24 hi0 hz0 hz1 hz2 rfl (by omega) (.slice qg L.1.length kg) L.1.length (netCells L.1) rfl (World.ownsRow.alloc (unhide PZ).og _) ⟨WS.heap.size, 0, none⟩ 1 1 [.int .i64 X.1, .int .i64 X.2] rfl rfl (World.news_of_block (cs := #[.int .i64 X.1, .int .i64 X.2]) (t := 28) (fr := (0, 0)) (heap_alloc_new _ _)) (by simp [Value.oneCell']) (by omega) (by simp [maxLen]; omega) (by omega) (by have := heap_lt (unhide PZ).blk; simp; omega) (WS.heap.size + 1) (by simp) ?_; intro gg cap wn hown hgrow hat hltg; have d0 : wn.cell? ⟨w.heap.size, 0, none⟩ = some (.slice qg L.1.length kg) := cell_of_heap ((unhide PZ).blkN (Or.inl rfl) hgrow); have df : ∀ o, wn.frozen? ⟨w.heap.size, o, none⟩ = false := fun o => frozen_of_heap ((unhide PZ).blkN (Or.inl rfl) hgrow))
                        exact ⟨⟨k + 1, _, _, by omega, by go_num, by rw [unhide HP1]; exact (unhide PZ).pushG hown hgrow hat⟩, by simp [intOf]; omega⟩
                      · have HP1 := hide (show putTo gone nets (k + 1) = (L.1, L.2 ++ [X]) from by rw [unhide HPUT]; unfold putP; rw [unhide HX, if_neg hm, if_neg hgk])
                        clear hm
                        go_wp2_with (at_builtin; refine wpList_append_lies _ rfl _ _ _ rfl (w.heap.size + 1) 28 i0 _ 2 16 Tryd.underlying24 hi0 hz0 hz1 hz2 rfl (by omega) (.slice qn L.2.length kn) L.2.length (netCells L.2) rfl (World.ownsRow.alloc (unhide PZ).on _) ⟨WS.heap.size, 0, none⟩ 1 1 [.int .i64 X.1, .int .i64 X.2] rfl rfl (World.news_of_block (cs := #[.int .i64 X.1, .int .i64 X.2]) (t := 28) (fr := (0, 0)) (heap_alloc_new _ _)) (by simp [Value.oneCell']) (by omega) (by simp [maxLen]; omega) (by omega) (by have := heap_lt (unhide PZ).blk; simp; omega) (WS.heap.size + 1) (by simp) ?_; intro gg cap wn hown hgrow hat hltg; have d0 : wn.cell? ⟨w.heap.size, 1, none⟩ = some (.slice qn L.2.length kn) := cell_of_heap ((unhide PZ).blkN (Or.inr rfl) hgrow); have df : ∀ o, wn.frozen? ⟨w.heap.size, o, none⟩ = false := fun o => frozen_of_heap ((unhide PZ).blkN (Or.inr rfl) hgrow))
                        exact ⟨⟨k + 1, _, _, by omega, by go_num, by rw [unhide HP1]; exact (unhide PZ).pushN hown hgrow hat⟩, by simp [intOf]; omega⟩
        · have HM := hide (show min (gone.length + nets.length) 19 = k by omega)
          go_wp2_with fail
          go_meet
          case rel => exact ⟨_, _, by rw [unhide HM, unhide HL]; exact unhide PUT⟩
      · have HM := hide (show min (gone.length + nets.length) 19 = k by omega)
        go_wp2_with fail
        go_meet
        case rel => exact ⟨_, _, by rw [unhide HM, unhide HL]; exact unhide PUT⟩
  case rest =>
    obtain ⟨vg0, vn0, hput⟩ := hcut
    have hall := putTo_ok gone nets (min (gone.length + nets.length) 19)
    obtain ⟨L, hL⟩ : ∃ L, putTo gone nets (min (gone.length + nets.length) 19) = L := ⟨_, rfl⟩
    rw [hL] at hput hall
    have HL := hide hL
    have PUT := hide hput
    obtain ⟨qg, kg, rfl⟩ := own_slice hput.og
    obtain ⟨qn, kn, rfl⟩ := own_slice hput.on
    have c0 : wc.cell? ⟨w.heap.size, 0, none⟩ = some (.slice qg L.1.length kg) := cell_of_heap hput.blk
    have c1 : wc.cell? ⟨w.heap.size, 1, none⟩ = some (.slice qn L.2.length kn) := cell_of_heap hput.blk
    have fz : ∀ o, wc.frozen? ⟨w.heap.size, o, none⟩ = false := fun o => frozen_of_heap hput.blk
    have hlt : w.heap.size < wc.heap.size := heap_lt hput.blk
    clear hput hL
    go_upto_if 114 with fail
    go_cut [] (fun wd => ∃ vn1, PutAt w wd (L.1, netsOr L.2) (.slice qg L.1.length kg) vn1)
    case first =>
      by_cases hz : L.2.length = 0
      · have hzb : ((L.2.length : Int) == 0) = true := by simp [hz]
        have HZ := hide (show netsOr L.2 = [((1 : Int), (32 : Int))] from by unfold netsOr; rw [if_pos (List.length_eq_zero_iff.1 hz)])
        have HZ0 := hide hz
        clear hz
        go_wp2_with fail
        go_meet
        case rel => rw [unhide HZ]; exact ⟨_, (unhide PUT).setN⟩
      · have hzb : ((L.2.length : Int) == 0) = false := beq_eq_false_iff_ne.2 (by omega)
        have HZ := hide (show netsOr L.2 = L.2 from by unfold netsOr; rw [if_neg (fun h => hz (by rw [h]; rfl))])
        go_wp2_with fail
        go_meet
        case rel => rw [unhide HZ]; exact ⟨_, unhide PUT⟩
    case rest =>
      rename World => wd
      obtain ⟨vn1, hput⟩ := hcut
      clear c0 c1 fz hlt PUT
      have PUT := hide hput
      obtain ⟨q1, k1, rfl⟩ := own_slice hput.on
      clear hput
      have a3 := atP_in ((unhide HR).all) 3
      have a4 := atP_in ((unhide HR).all) 4
      have a5 := atP_in ((unhide HR).all) 5
      have p3 := pickP_bd (c := atP r 3) (n := 4294967296) (by omega)
      have p4 := pickP_bd (c := atP r 4) (n := 3) (by omega)
      have p5 := pickP_bd (c := atP r 5) (n := 1073741824) (by omega)
      have p45 : 0 ≤ pickP (atP r 4) 3 * pickP (atP r 5) 1073741824 ∧ pickP (atP r 4) 3 * pickP (atP r 5) 1073741824 ≤ 2147483646 := by
        rcases (by omega : pickP (atP r 4) 3 = 0 ∨ pickP (atP r 4) 3 = 1 ∨ pickP (atP r 4) 3 = 2) with h | h | h <;> rw [h] <;> omega
      go_wp2_with fail
      refine (route_any r _ _ ((unhide HR).below (unhide PUT).be)).mono ?_
      rintro e w1 ⟨vp, vm, rfl, hvp, hvm, hb1⟩
      have P1 := (unhide PUT).next hb1
      obtain ⟨q2, k2, rfl⟩ := own_slice hvp
      obtain ⟨q3, k3, rfl⟩ := own_slice hvm
      have hws : w.heap.size + 1 ≤ wd.heap.size := heap_lt (unhide PUT).blk
      have OP := hide (owns_base hvp hws)
      have OM := hide (owns_base hvm hws)
      have c0 : w1.cell? ⟨w.heap.size, 0, none⟩ = some (.slice qg L.1.length kg) := cell_of_heap P1.blk
      have c1 : w1.cell? ⟨w.heap.size, 1, none⟩ = some (.slice q1 (netsOr L.2).length k1) := cell_of_heap P1.blk
      have c2 : w1.cell? ⟨w.heap.size, 2, none⟩ = some (.slice none 0 0) := cell_of_heap P1.blk
      have c3 : w1.cell? ⟨w.heap.size, 3, none⟩ = some (.slice none 0 0) := cell_of_heap P1.blk
      have c4 : w1.cell? ⟨w.heap.size, 4, none⟩ = some (.int .i64 0) := cell_of_heap P1.blk
      have c5 : w1.cell? ⟨w.heap.size, 5, none⟩ = some (.int .i64 0) := cell_of_heap P1.blk
      have fz : ∀ o, w1.frozen? ⟨w.heap.size, o, none⟩ = false := fun o => frozen_of_heap P1.blk
      have hlt1 : w.heap.size < w1.heap.size := heap_lt P1.blk
      have PUT1 := hide P1
      clear hvp hvm hb1 P1 PUT
      go_wp2_with fail
      refine (at_any r 3 _ _ (by omega) ((unhide HR).below (by repeat (first | exact (unhide PUT1).be | refine Below.alloc ?_ (by simp; omega) _ | refine Below.setCell ?_ (by exact Nat.le_refl _) _)))).mono ?_
      rintro e w0 ⟨rfl, rfl⟩
      go_wp2_with fail
      refine (pick_any _ _ _ a3.1 a3.2 (by omega) (by omega)).mono ?_
      rintro e w0 ⟨rfl, rfl⟩
      go_wp2_with fail
      refine (at_any r 4 _ _ (by omega) ((unhide HR).below (by repeat (first | exact (unhide PUT1).be | refine Below.alloc ?_ (by simp; omega) _ | refine Below.setCell ?_ (by exact Nat.le_refl _) _)))).mono ?_
      rintro e w0 ⟨rfl, rfl⟩
      go_wp2_with fail
      refine (pick_any _ _ _ a4.1 a4.2 (by omega) (by omega)).mono ?_
      rintro e w0 ⟨rfl, rfl⟩
      go_wp2_with fail
      refine (at_any r 5 _ _ (by omega) ((unhide HR).below (by repeat (first | exact (unhide PUT1).be | refine Below.alloc ?_ (by simp; omega) _ | refine Below.setCell ?_ (by exact Nat.le_refl _) _)))).mono ?_
      rintro e w0 ⟨rfl, rfl⟩
      go_wp2_with fail
      refine (pick_any _ _ _ a5.1 a5.2 (by omega) (by omega)).mono ?_
      rintro e w0 ⟨rfl, rfl⟩
      go_wp2_with fail
      -- Encode
      have HUE := hide ((unhide PUT1).whole (a := pickP (atP r 3) 4294967296) (b := pickP (atP r 4) 3 * pickP (atP r 5) 1073741824) (unhide OP) (unhide OM) (.cells #[.int .i64 (netP (atP r 0)).1, .int .i64 (netP (atP r 0)).2, .slice q2 (pathP (r.drop 3) (pickP (atP r 1) 6).toNat).length k2, .slice q3 (marksP (r.drop 6) (pickP (atP r 2) 5).toNat).length k3, .int .i64 (pickP (atP r 3) 4), .int .i64 (pickP (atP r 4) 5)] 33))
      have MU : Hid (msgOk ⟨L.1, netsOr L.2, pathP (r.drop 3) (pickP (atP r 1) 6).toNat, marksP (r.drop 6) (pickP (atP r 2) 5).toNat, pickP (atP r 3) 4294967296, pickP (atP r 4) 3 * pickP (atP r 5) 1073741824⟩) := by
        have h := codedM_ok gone nets r
        unfold codedM at h
        simp only [unhide HL] at h
        exact h
      obtain ⟨e1, e2, e3, e4, e5, e6⟩ := (unhide HUE).reads (unhide MU)
      refine (hE _ _ _ _ _ _ (unhide HUE).be e1 e2 e3 e4 e5 e6).mono ?_
      clear e1 e2 e3 e4 e5 e6
      rintro e w2 ⟨hb2, v, l, kk, rfl, hob, hor⟩
      have HU2 := hide ((unhide HUE).next hb2)
      clear hb2
      rcases hor with ⟨_, rfl, rfl⟩ | ⟨hn, _⟩
      rotate_left
      · exact absurd (unhide MU) hn
      revert hob HU2 MU
      generalize (⟨L.1, netsOr L.2, pathP (r.drop 3) (pickP (atP r 1) 6).toNat, marksP (r.drop 6) (pickP (atP r 2) 5).toNat, pickP (atP r 3) 4294967296, pickP (atP r 4) 3 * pickP (atP r 5) 1073741824⟩ : Msg) = U
      intro MU HU2 hob
      have hel := encP_len (unhide MU)
      have hgl : U.gone.length ≤ 20 ∧ U.nets.length ≤ 20 := by have := (unhide MU).1.1; simp only [List.length_append] at this; omega
      obtain ⟨hgl, hnl⟩ := hgl
      obtain ⟨qb, kb, rfl⟩ := own_slice hob
      have HBA := hide (OwnB.at_ hob (encP_ok (unhide MU)) (by omega))
      clear hob
      clear c0 c1 c2 c3 c4 c5 fz PUT1 OP OM p45 p3 p4 p5 a3 a4 a5 hall
      have hde : decE (encP U) = 0 := by unfold decE; rw [dec_enc (unhide MU)]
      have hdm : decM (encP U) = U := by unfold decM; rw [dec_enc (unhide MU)]
      have HDE := hide hde
      have HDM := hide hdm
      clear hde hdm
      go_wp2_with fail
      refine (hD _ _ _ (unhide HU2).be (unhide HBA)).mono ?_
      rintro e w3 ⟨hb3, wg, wn, wp, wm, rfl, og, on, op, om, aps⟩
      rw [unhide HDM] at og on op om ⊢
      rw [unhide HDE]
      clear HDE HDM HBA
      obtain ⟨qg3, kg3, rfl⟩ := own_slice og
      obtain ⟨qn3, kn3, rfl⟩ := own_slice on
      obtain ⟨qp3, kp3, rfl⟩ := own_slice op
      obtain ⟨qm3, km3, rfl⟩ := own_slice om
      have HU3 := (unhide HU2).next hb3
      revert HU3
      generalize Value.slice qg L.1.length kg = vg
      generalize Value.slice q1 (netsOr L.2).length k1 = vn
      generalize Value.slice q2 (pathP (r.drop 3) (pickP (atP r 1) 6).toNat).length k2 = vp
      generalize Value.slice q3 (marksP (r.drop 6) (pickP (atP r 2) 5).toNat).length k3 = vm
      intro HU3
      obtain ⟨qg2, kg2, rfl⟩ := own_slice HU3.og
      obtain ⟨qn2, kn2, rfl⟩ := own_slice HU3.on
      obtain ⟨qp2, kp2, rfl⟩ := own_slice HU3.op
      obtain ⟨qm2, km2, rfl⟩ := own_slice HU3.om
      have d0 : w3.cell? ⟨w.heap.size, 0, none⟩ = some (.slice qg2 U.gone.length kg2) := cell_of_heap HU3.blk
      have d1 : w3.cell? ⟨w.heap.size, 1, none⟩ = some (.slice qn2 U.nets.length kn2) := cell_of_heap HU3.blk
      have hlt3 : w.heap.size < w3.heap.size := heap_lt HU3.blk
      have hbz : (((encP U).length : Int) == 0) = false := beq_eq_false_iff_ne.2 (by omega)
      have HUV := hide HU3
      have OG := hide og
      have ON := hide on
      have OPP := hide op
      have OMM := hide om
      clear og on op om HU3 hb3 HU2 aps
      go_wp2_with fail
      have B4 : Below w3.heap.size w3 (w3.alloc (.cells #[.slice qg3 U.gone.length kg3, .slice qn3 U.nets.length kn3, .slice qp3 U.path.length kp3, .slice qm3 U.marks.length km3, .int .i64 U.pref, .int .i64 U.med] 26)) := (Below.refl _ _).alloc (Nat.le_refl _) _
      have V4 := heap_alloc_new w3 (.cells #[.slice qg3 U.gone.length kg3, .slice qn3 U.nets.length kn3, .slice qp3 U.path.length kp3, .slice qm3 U.marks.length km3, .int .i64 U.pref, .int .i64 U.med] 26)
      revert B4 V4
      generalize w3.alloc (.cells #[.slice qg3 U.gone.length kg3, .slice qn3 U.nets.length kn3, .slice qp3 U.path.length kp3, .slice qm3 U.marks.length km3, .int .i64 U.pref, .int .i64 U.med] 26) = W4
      intro B4 V4
      have U4 := hide ((unhide HUV).next B4)
      have G4 := hide ((show OwnN w3 _ _ U.gone from unhide OG).next B4)
      have N4 := hide ((show OwnN w3 _ _ U.nets from unhide ON).next B4)
      have P4 := hide ((show OwnI w3 _ _ U.path from unhide OPP).next B4)
      have M4 := hide ((show OwnI w3 _ _ U.marks from unhide OMM).next B4)
      have HV4 := hide V4
      clear B4 V4 HUV OG ON OPP OMM d0 d1
      generalize w3.heap.size = bv at HV4 hlt3 ⊢
      go_loopw [22] (fun j wr => ∃ q : Nat, q ≤ U.gone.length ∧ j = .int .i64 q ∧ Below W4.heap.size W4 wr) (fun j _ => U.gone.length - (intOf j).toNat)
      case atStart => exact ⟨0, Nat.zero_le _, rfl, Below.refl _ _⟩
      case round =>
        rename World => WR
        obtain ⟨q, hq, rfl, hbe⟩ := hrel
        have u5 := (unhide U4).next hbe
        have qv := (hbe.block bv (heap_lt (unhide HV4))).trans (unhide HV4)
        have c0 : WR.cell? ⟨w.heap.size, 0, none⟩ = some (.slice qg2 U.gone.length kg2) := cell_of_heap u5.blk
        have c1 : WR.cell? ⟨bv, 0, none⟩ = some (.slice qg3 U.gone.length kg3) := cell_of_heap qv
        have c2 : WR.cell? ⟨w.heap.size, 1, none⟩ = some (.slice qn2 U.nets.length kn2) := cell_of_heap u5.blk
        have BE := hide hbe
        have G5 := hide ((unhide G4).next hbe)
        have U5 := hide u5
        clear hbe qv u5
        by_cases hqt : q < U.gone.length
        · obtain ⟨g, rfl, hg1, hg2, y0, y1⟩ := (unhide U5).og.cell hqt
          obtain ⟨g', rfl, hg1', hg2', z0, z1⟩ := (unhide G5).cell hqt
          clear U5 G5
          go_wp2_with fail
          go_region_with (go_at_call 6; refine (sameNet_self U.gone[q] _).mono ?_; rintro e w5 ⟨rfl, hb5⟩)
          all_goals
            have BE3 : Hid (Below W4.heap.size W4 w5) := by
              refine Below.trans ?_ (hb5.mono (unhide BE).size)
              repeat (first | exact unhide BE | refine Below.drew ?_)
            clear hb5
            go_wp2_with fail
            exact ⟨⟨q + 1, by omega, by go_num, unhide BE3⟩, by simp [intOf]; omega⟩
        · clear c1
          go_wp2_with fail
          clear c0 c2
          have G6 := hide ((unhide G4).next (unhide BE))
          have N6 := hide ((unhide N4).next (unhide BE))
          have P6 := hide ((unhide P4).next (unhide BE))
          have M6 := hide ((unhide M4).next (unhide BE))
          have V6 := hide (((unhide BE).block bv (heap_lt (unhide HV4))).trans (unhide HV4))
          clear BE G4 N4 P4 M4 U4 HV4 G5 G6
          go_loopw [24] (fun j wr => ∃ q : Nat, q ≤ U.nets.length ∧ j = .int .i64 q ∧ Below WR.heap.size WR wr) (fun j _ => U.nets.length - (intOf j).toNat)
          case atStart => exact ⟨0, Nat.zero_le _, rfl, Below.refl _ _⟩
          case round =>
            rename World => WS
            obtain ⟨q', hq', rfl, hbe⟩ := hrel
            have u7 := (unhide U5).next hbe
            have qv := (hbe.block bv (heap_lt (unhide V6))).trans (unhide V6)
            have c0 : WS.cell? ⟨w.heap.size, 1, none⟩ = some (.slice qn2 U.nets.length kn2) := cell_of_heap u7.blk
            have c1 : WS.cell? ⟨bv, 1, none⟩ = some (.slice qn3 U.nets.length kn3) := cell_of_heap qv
            have BE := hide hbe
            have N7 := hide ((unhide N6).next hbe)
            have U7 := hide u7
            have V7 := hide qv
            clear hbe qv u7
            by_cases hqt : q' < U.nets.length
            · obtain ⟨g, rfl, hg1, hg2, y0, y1⟩ := (unhide U7).on.cell hqt
              obtain ⟨g', rfl, hg1', hg2', z0, z1⟩ := (unhide N7).cell hqt
              clear U7 N7 V7
              go_wp2_with fail
              go_region_with (go_at_call 6; refine (sameNet_self U.nets[q'] _).mono ?_; rintro e w5 ⟨rfl, hb5⟩)
              all_goals
                have BE3 : Hid (Below WR.heap.size WR w5) := by
                  refine Below.trans ?_ (hb5.mono (unhide BE).size)
                  repeat (first | exact unhide BE | refine Below.drew ?_)
                clear hb5
                go_wp2_with fail
                exact ⟨⟨q' + 1, by omega, by go_num, unhide BE3⟩, by simp [intOf]; omega⟩
            · have P7 := hide ((unhide P6).next (unhide BE))
              have M7 := hide ((unhide M6).next (unhide BE))
              clear P6 M6 N6 V6 U5 N7
              have c2 : WS.cell? ⟨w.heap.size, 2, none⟩ = some (.slice qp2 U.path.length kp2) := cell_of_heap (unhide U7).blk
              have c3 : WS.cell? ⟨w.heap.size, 3, none⟩ = some (.slice qm2 U.marks.length km2) := cell_of_heap (unhide U7).blk
              have c4 : WS.cell? ⟨w.heap.size, 4, none⟩ = some (.int .i64 U.pref) := cell_of_heap (unhide U7).blk
              have c5 : WS.cell? ⟨w.heap.size, 5, none⟩ = some (.int .i64 U.med) := cell_of_heap (unhide U7).blk
              have d2 : WS.cell? ⟨bv, 2, none⟩ = some (.slice qp3 U.path.length kp3) := cell_of_heap (unhide V7)
              have d3 : WS.cell? ⟨bv, 3, none⟩ = some (.slice qm3 U.marks.length km3) := cell_of_heap (unhide V7)
              have d4 : WS.cell? ⟨bv, 4, none⟩ = some (.int .i64 U.pref) := cell_of_heap (unhide V7)
              have d5 : WS.cell? ⟨bv, 5, none⟩ = some (.int .i64 U.med) := cell_of_heap (unhide V7)
              obtain ⟨_, _, r3, r4, _, _⟩ := (unhide U7).reads (unhide MU)
              have R3 := hide r3
              have R4 := hide r4
              have S3 := hide (IntsAt.own (unhide P7) (pathOk_in (unhide MU).2.1) (by have := (unhide MU).2.1.1; omega))
              have S4 := hide (IntsAt.own (unhide M7) (marksOk_in (unhide MU).2.2.1) (by have := (unhide MU).2.2.1.1; omega))
              clear r3 r4
              go_wp2_with fail
              refine (sameInts_self _ _ _ _ (unhide R3) (unhide S3)).mono ?_
              rintro e w8 ⟨rfl, hb8⟩
              have hlu : w.heap.size < WS.heap.size := heap_lt (unhide U7).blk
              have hlv : bv < WS.heap.size := heap_lt (unhide V7)
              have R4' := hide ((unhide R4).below hb8)
              have S4' := hide ((unhide S4).below hb8)
              have B8 := hide hb8
              have hl8 := hb8.size
              obtain ⟨hc8, hf8⟩ := bcell' hb8
              clear hb8 R3 S3 R4 S4
              go_wp2_with fail
              refine (sameInts_self _ _ _ _ (unhide R4') (unhide S4')).mono ?_
              rintro e w9 ⟨rfl, hb9⟩
              have B9 := hide ((unhide B8).trans (hb9.mono hl8))
              clear hb9 R4' S4' hc8 hf8 B8
              have hl9 := (unhide B9).size
              have e4 : w9.cell? ⟨w.heap.size, 4, none⟩ = some (.int .i64 U.pref) := ((unhide B9).cell (p := ⟨w.heap.size, 4, none⟩) hlu).trans c4
              have e5 : w9.cell? ⟨w.heap.size, 5, none⟩ = some (.int .i64 U.med) := ((unhide B9).cell (p := ⟨w.heap.size, 5, none⟩) hlu).trans c5
              have g4 : w9.cell? ⟨bv, 4, none⟩ = some (.int .i64 U.pref) := ((unhide B9).cell (p := ⟨bv, 4, none⟩) hlv).trans d4
              have g5 : w9.cell? ⟨bv, 5, none⟩ = some (.int .i64 U.med) := ((unhide B9).cell (p := ⟨bv, 5, none⟩) hlv).trans d5
              have V9 := hide (((unhide B9).block bv hlv).trans (unhide V7))
              have b9 := hide ((unhide U7).be.trans ((unhide B9).mono (unhide U7).be.size))
              clear c0 c1 c2 c3 c4 c5 d2 d3 d4 d5 V7 U7 P7 M7 B9 BE
              go_wp2_with fail
              refine (hD _ _ _ (unhide b9) ((unhide HB).below (unhide b9))).mono ?_
              clear e4 e5 g4 g5
              rintro e w10 ⟨hb10, ag, an, ap, am, rfl, og, on, op, om, aps⟩
              have b10 := hide ((unhide b9).trans (hb10.mono (unhide b9).size))
              have qv := (hb10.block bv (heap_lt (unhide V9))).trans (unhide V9)
              have hlv10 : bv < w10.heap.size := heap_lt qv
              have h0 : w10.cell? ⟨bv, 0, none⟩ = some (.slice qg3 U.gone.length kg3) := cell_of_heap qv
              have h1 : w10.cell? ⟨bv, 1, none⟩ = some (.slice qn3 U.nets.length kn3) := cell_of_heap qv
              have h2 : w10.cell? ⟨bv, 2, none⟩ = some (.slice qp3 U.path.length kp3) := cell_of_heap qv
              have h3 : w10.cell? ⟨bv, 3, none⟩ = some (.slice qm3 U.marks.length km3) := cell_of_heap qv
              have h4 : w10.cell? ⟨bv, 4, none⟩ = some (.int .i64 U.pref) := cell_of_heap qv
              have h5 : w10.cell? ⟨bv, 5, none⟩ = some (.int .i64 U.med) := cell_of_heap qv
              have hf : ∀ o, w10.frozen? ⟨bv, o, none⟩ = false := fun o => frozen_of_heap qv
              obtain ⟨ag1, ag2, rfl⟩ := own_slice og
              obtain ⟨an1, an2, rfl⟩ := own_slice on
              obtain ⟨ap1, ap2, rfl⟩ := own_slice op
              obtain ⟨am1, am2, rfl⟩ := own_slice om
              have OG := hide og
              have ON := hide on
              have OQ := hide op
              have OM := hide om
              have QV := hide qv
              clear og on op om hb10 qv V9 aps
              have hbv9 : bv < w9.heap.size := by omega
              by_cases hde : decE bytes = 0
              · have hdb : (decE bytes != 0) = false := by rw [hde]; rfl
                obtain ⟨hm, henc⟩ := enc_dec (b := bytes) (by obtain ⟨_, _, _, _, _, hh, _⟩ := unhide HB; exact hh) (decE_zero hde)
                have HM := hide hm
                have HEN := hide henc
                have HDE := hide hde
                clear hde hm henc
                have J1 := hide (OwnN.at_ (own_six (unhide OG) hbv9 (.slice ag1 (decM bytes).gone.length ag2) (.slice an1 (decM bytes).nets.length an2) (.slice ap1 (decM bytes).path.length ap2) (.slice am1 (decM bytes).marks.length am2) (.int .i64 (decM bytes).pref) (.int .i64 (decM bytes).med)) (fun x hx => netOk_in ((unhide HM).1.2.1 x (by simp [hx]))) (by have := (unhide HM).1.1; simp only [List.length_append] at this; omega))
                have J2 := hide (OwnN.at_ (own_six (unhide ON) hbv9 (.slice ag1 (decM bytes).gone.length ag2) (.slice an1 (decM bytes).nets.length an2) (.slice ap1 (decM bytes).path.length ap2) (.slice am1 (decM bytes).marks.length am2) (.int .i64 (decM bytes).pref) (.int .i64 (decM bytes).med)) (fun x hx => netOk_in ((unhide HM).1.2.1 x (by simp [hx]))) (by have := (unhide HM).1.1; simp only [List.length_append] at this; omega))
                have J3 := hide (IntsAt.own (own_six (unhide OQ) hbv9 (.slice ag1 (decM bytes).gone.length ag2) (.slice an1 (decM bytes).nets.length an2) (.slice ap1 (decM bytes).path.length ap2) (.slice am1 (decM bytes).marks.length am2) (.int .i64 (decM bytes).pref) (.int .i64 (decM bytes).med)) (pathOk_in (unhide HM).2.1) (by have := (unhide HM).2.1.1; omega))
                have J4 := hide (IntsAt.own (own_six (unhide OM) hbv9 (.slice ag1 (decM bytes).gone.length ag2) (.slice an1 (decM bytes).nets.length an2) (.slice ap1 (decM bytes).path.length ap2) (.slice am1 (decM bytes).marks.length am2) (.int .i64 (decM bytes).pref) (.int .i64 (decM bytes).med)) (marksOk_in (unhide HM).2.2.1) (by have := (unhide HM).2.2.1.1; omega))
                have J5 := hide (below_six (unhide b10) (Nat.le_of_lt hlt3) (.slice ag1 (decM bytes).gone.length ag2) (.slice an1 (decM bytes).nets.length an2) (.slice ap1 (decM bytes).path.length ap2) (.slice am1 (decM bytes).marks.length am2) (.int .i64 (decM bytes).pref) (.int .i64 (decM bytes).med))
                go_wp2_with fail
                refine (hE _ _ _ _ _ (decM bytes) (unhide J5) (unhide J1) (unhide J2) (unhide J3) (unhide J4) (by have := (unhide HM).2.2.2.1; unfold numOk at this; unfold inI; omega) (by have := (unhide HM).2.2.2.2.1; unfold numOk at this; unfold inI; omega)).mono ?_
                rintro e w12 ⟨hb12, v, l, kk, rfl, hob, hor⟩
                have b12 := hide ((unhide J5).trans (hb12.mono (unhide J5).size))
                clear hb12
                rcases hor with ⟨_, rfl, rfl⟩ | ⟨hn, _⟩
                rotate_left
                · exact absurd (unhide HM) hn
                rw [unhide HEN] at hob
                obtain ⟨qz, kz, rfl⟩ := own_slice hob
                have OB := hide hob
                clear hob J1 J2 J3 J4 J5 h0 h1 h2 h3 h4 h5 hf QV OG ON OQ OM
                have cv1 := BytesAt.conv (OwnB.at_ (unhide OB) (by obtain ⟨_, _, _, _, _, hh, _⟩ := unhide HB; exact hh) (by omega))
                have cv2 := BytesAt.conv ((unhide HB).below (unhide b12))
                go_wp2_with fail
                go_ret
                exact ⟨rfl, unhide b12⟩
              · have hdb : (decE bytes != 0) = true := by rw [bne_iff_ne]; exact hde
                have hdm := decM_err hde
                rw [hdm] at OG ON OQ OM ⊢
                have HDE := hide hde
                clear hde hdm
                simp only [msgZ, List.length_nil]
                go_wp2_with fail
                go_ret
                exact ⟨rfl, by exact below_six (unhide b10) (Nat.le_of_lt hlt3) _ _ _ _ _ _⟩
end Go.Proofs.YtjpajfbacmndfaaDoor
