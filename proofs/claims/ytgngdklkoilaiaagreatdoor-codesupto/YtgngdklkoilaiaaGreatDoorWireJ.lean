/- The reference's readNets (package bywayref): the nets of some bytes. -/
import Derived.Test.YtgngdklkoilaiaaGreatDoorWireH
import Derived.Laws.CopyOwn
namespace Go.Proofs.YtgngdklkoilaiaaGreatDoor
open Go.RowKit
theorem splice_pad {l : List Int} (h : l.length ≤ 4) : splice [Value.int .u8 0, .int .u8 0, .int .u8 0, .int .u8 0] 0 (l.map (Value.int .u8)) = (padB l).map (Value.int .u8) := by
  unfold splice padB
  match l, h with
  | [], _ => rfl
  | [_], _ => rfl
  | [_, _], _ => rfl
  | [_, _, _], _ => rfl
  | [_, _, _, _], _ => rfl
  | _ :: _ :: _ :: _ :: _ :: _, h => simp at h
set_option maxRecDepth 100000 in
set_option maxHeartbeats 3200000 in
theorem readNets_w (l : List Int) (x : Value) (w : World) (h : BytesAt w x l) (hlen : l.length ≤ 1048576) :
    Calls Tryz.prog 80 #[x] w (NetsC w l) := by
  obtain ⟨i0, hi0, hz0, hz1, hz2⟩ := info_parts Tryz.infoNetW
  have HX := hide h
  clear h
  go_enter Tryz.func80, Tryz.ntmps80
  go_wp2_with fail
  go_loopw [0, 4] (fun vb vo wr => ∃ (R : List Int) (D : List (Int × Int)), BytesAt w vb R ∧ OwnN wr w.heap.size vo D ∧ D.length + R.length ≤ 1048576 ∧ netsR l = (netsR R).map (fun L => D ++ L) ∧ Below w.heap.size w wr) (fun vb _ _ => slen vb)
  case atStart => exact ⟨l, [], unhide HX, World.ownsRow_nil _ _ _ _, by simpa using hlen, by cases netsR l <;> simp, Below.refl _ _⟩
  case round =>
    obtain ⟨R, D, hB, hO, hDR, hN, hbe⟩ := hrel
    have OD := hide hO
    have BE := hide hbe
    have HN := hide hN
    have hsz : w.heap.size ≤ wr.heap.size := hbe.size
    obtain ⟨p, c, rfl, hcap, hlR, hin, hr⟩ := hB
    clear hO hbe hN HX
    cases R with
    | nil =>
      have HF := hide (show netsR l = some D from by rw [unhide HN, netsR_nil]; simp)
      clear hr hin
      go_wp2
      go_ret2
      exact NetsC.yes (unhide BE) (unhide HF) (unhide OD)
    | cons n t =>
      rcases hr with h | ⟨b, o, rfl, hb, hc⟩
      · exact absurd h.1 (by simp)
      have HC := hide (show CellsB w b o (n :: t) from ⟨hb, hc⟩)
      have HIN := hide hin
      have hn := hin n (by simp)
      obtain ⟨hn0, hn1⟩ := hn
      have c0 : wr.cell? ⟨b, o, none⟩ = some (.int .u8 n) := ((unhide BE).cell (p := ⟨b, o, none⟩) hb).trans (show w.cell? ⟨b, o, none⟩ = some (.int .u8 n) from hc 0 (by simp))
      clear hc hin
      obtain ⟨N, hNl⟩ : ∃ N, (n :: t).length = N := ⟨_, rfl⟩
      rw [hNl] at hcap hlR hDR ⊢
      rw [List.length_cons] at hNl
      have hN1 : t.length < N := by omega
      have hN2 : N ≤ t.length + 1 := by omega
      clear hNl
      have ht4 := takes_le hn0
      obtain ⟨k, hk⟩ : ∃ k, takesP n = k := ⟨_, rfl⟩
      have HK := hide hk
      rw [hk] at ht4
      have HKZ : Hid (32 < n → k = 0) := fun h => by rw [← hk]; unfold takesP; rw [if_pos h]
      have HKN : Hid (¬ 32 < n → (needsP n : Int) = k) := fun h => by rw [← hk]; unfold takesP; rw [if_neg h]
      clear hk
      go_wp2_with fail
      refine (needs_any _ _ hn0 (by omega)).mono ?_
      rintro e w0 ⟨rfl, rfl⟩
      go_upto_if 18 with fail
      go_cut [6] (fun v6 wc => v6 = .int .i64 k ∧ wc = w0)
      case first =>
        by_cases h32 : 32 < n
        · have HK0 := hide (unhide HKZ h32)
          go_wp2_with fail
          go_meet
          case rel => exact ⟨by rw [unhide HK0]; rfl, rfl⟩
        · have HK0 := hide (unhide HKN (by omega))
          go_wp2_with fail
          go_meet
          case rel => exact ⟨by rw [unhide HK0], rfl⟩
      case rest =>
        obtain ⟨rfl, rfl⟩ := hcut
        by_cases hkt : t.length < k
        · have HF := hide (netsR_none (unhide HN) (by rw [unhide HK]; exact hkt))
          go_wp2
          go_ret2
          exact NetsC.no (unhide BE) (unhide HF)
        · have HMORE := hide (netsR_more (unhide HN) (by rw [unhide HK]; omega))
          rw [unhide HK] at HMORE
          have HT := hide (show CellsB w b (o + 1) t from by simpa using (unhide HC).drop 1)
          have HTB := hide (show bytesOk t from (bytesOk_cons.1 (unhide HIN)).2)
          have hkl : (t.take k).length = k := by simp; omega
          have HKL := hide hkl
          clear hkl
          have hpb := valPad_bd (bytesOk_take (unhide HTB) k) (by rw [unhide HKL]; exact ht4)
          obtain ⟨V, hV⟩ : ∃ V, valB (padB (t.take k)) = V := ⟨_, rfl⟩
          rw [hV] at hpb HMORE
          have HV := hide hV
          clear hV
          have hsrc : Hid (∀ j v, ((t.take k).map (Value.int .u8))[j]? = some v → (wc.alloc (.cells #[.int .u8 0, .int .u8 0, .int .u8 0, .int .u8 0] 5)).cell? ((⟨b, o + 1, none⟩ : Addr).add j) = some v) := fun j v hj => by
            have hjl : j < (t.take k).length := by
              rcases Nat.lt_or_ge j (t.take k).length with h1 | h1
              · exact h1
              · rw [List.getElem?_eq_none (by simpa using h1)] at hj; cases hj
            rw [List.getElem?_map, List.getElem?_eq_getElem hjl] at hj
            simp only [Option.map_some, Option.some.injEq] at hj
            have hadd : (⟨b, o + 1, none⟩ : Addr).add j = ⟨b, o + 1 + j, none⟩ := by unfold Addr.add; split <;> simp_all
            rw [hadd, ((unhide BE).alloc hsz _).cell (p := ⟨b, o + 1 + j, none⟩) hb, ← hj]
            exact ((unhide HT).take k).2 j hjl
          have hkk : Hid (1 + k - 1 = k) := by unfold Hid; omega
          have HPAD : Hid (∀ W : World, W.heap[wc.heap.size]? = some (.cells (splice [Value.int .u8 0, .int .u8 0, .int .u8 0, .int .u8 0] 0 ((t.take k).map (Value.int .u8))).toArray 5 (0, 0)) → BytesAt W (.slice (some ⟨wc.heap.size, 0, none⟩) 4 4) (padB (t.take k))) := fun W hW => by
            have hp4 : (t.take k).length ≤ 4 := by rw [unhide HKL]; exact ht4
            rw [splice_pad hp4] at hW
            refine CellsB.at_ ⟨heap_lt hW, fun j hj => ?_⟩ (padB_len hp4) (Nat.le_refl _) (padB_ok (bytesOk_take (unhide HTB) k)) (by omega)
            rw [Nat.zero_add, cell_of_heap hW]
            simp [hj]
          by_cases hA : 1 + k < c
          · have hc1 : 1 < c := by omega
            have HNX := hide (show BytesAt w (.slice (some ⟨b, o + (1 + k), none⟩) (N - (1 + k)) (c - (1 + k))) (t.drop k) from by
              have h1 := (unhide HT).drop k
              rw [Nat.add_assoc] at h1
              exact h1.at_ (by simp; omega) (by omega) (bytesOk_drop (unhide HTB) k) (by omega))
            go_upto_region 11 with (refine wpList_copy_splice rfl _ _ _ _ rfl 5 Tryz.underlying63 Tryz.sizeByte (some ⟨wc.heap.size, 0, none⟩) (some ⟨b, o + 1, none⟩) 4 4 (1 + k - 1) (c - 1) rfl rfl wc.heap.size 0 [.int .u8 0, .int .u8 0, .int .u8 0, .int .u8 0] 5 (heap_alloc_new wc _) ((t.take k).map (Value.int .u8)) (by rw [List.length_map, unhide HKL, unhide hkk]; exact (Nat.min_eq_left ht4).symm) (fun _ => ⟨rfl, _, rfl, unhide hsrc⟩) (by rw [List.length_map, unhide HKL]; simpa using ht4) (one_u8 _) wc.heap.size wc ((Below.refl _ _).alloc (Nat.le_refl _) _) (Nat.le_refl _) ?_; intro w4 hg4 hb4)
            have B4 := hide ((unhide BE).trans (hb4.mono hsz))
            have OD4 := hide ((unhide OD).nextW hb4)
            have s4 : w.heap.size ≤ w4.heap.size := (unhide B4).size
            have HA4 := hide (unhide HPAD w4 hg4.out)
            clear hg4 hb4
            go_wp2_with fail
            refine (value_w (padB (t.take k)) _ _ (unhide HA4) (by rw [padB_len (by rw [unhide HKL]; exact ht4)]; omega)).mono ?_
            rintro e w5 ⟨r, rfl, hrv, rfl⟩
            have hr := hrv (by rw [padB_len (by rw [unhide HKL]; exact ht4)]; omega)
            rw [unhide HV] at hr
            subst hr
            clear hrv
            go_wp2_with (at_builtin; refine wpList_append_lies _ rfl _ _ _ rfl w.heap.size 30 i0 _ 2 16 Tryz.underlying24 hi0 hz0 hz1 hz2 rfl (by omega) u4 D.length (netCells D) rfl (World.ownsRow.alloc (unhide OD4) _) ⟨w5.heap.size, 0, none⟩ 1 1 [.int .i64 r, .int .i64 n] rfl rfl (World.news_of_block (cs := #[.int .i64 r, .int .i64 n]) (t := 30) (fr := (0, 0)) (heap_alloc_new _ _)) (by simp [Value.oneCell']) (by omega) (by simp only [maxLen]; omega) (by omega) (by simp; omega) (w5.heap.size + 1) (by simp) ?_; intro gg cap w6 hown hgrow hat hltg)
            exact ⟨⟨t.drop k, D ++ [(r, n)], unhide HNX, OwnN.push1 (X := (r, n)) hown, by simp; omega, unhide HMORE, ((unhide B4).alloc s4 _).grown hgrow (by simp; omega) (fun j hj => ((unhide OD4).lt j hj).1)⟩, by simp only [slen]; omega⟩
          by_cases hc1 : 1 < c
          · have hcB : c ≤ 1 + k := by omega
            have HNX := hide (show BytesAt w (.slice (some ⟨b, o, none⟩) 0 0) (t.drop k) from by
              have e0 : t.drop k = [] := List.drop_eq_nil_of_le (by omega)
              rw [e0]; exact BytesAt.empty _ _ _)
            have hd0 : c - (1 + k) = 0 := by omega
            have hd1 : N - (1 + k) = 0 := by omega
            go_upto_region 11 with (refine wpList_copy_splice rfl _ _ _ _ rfl 5 Tryz.underlying63 Tryz.sizeByte (some ⟨wc.heap.size, 0, none⟩) (some ⟨b, o + 1, none⟩) 4 4 (1 + k - 1) (c - 1) rfl rfl wc.heap.size 0 [.int .u8 0, .int .u8 0, .int .u8 0, .int .u8 0] 5 (heap_alloc_new wc _) ((t.take k).map (Value.int .u8)) (by rw [List.length_map, unhide HKL, unhide hkk]; exact (Nat.min_eq_left ht4).symm) (fun _ => ⟨rfl, _, rfl, unhide hsrc⟩) (by rw [List.length_map, unhide HKL]; simpa using ht4) (one_u8 _) wc.heap.size wc ((Below.refl _ _).alloc (Nat.le_refl _) _) (Nat.le_refl _) ?_; intro w4 hg4 hb4)
            have B4 := hide ((unhide BE).trans (hb4.mono hsz))
            have OD4 := hide ((unhide OD).nextW hb4)
            have s4 : w.heap.size ≤ w4.heap.size := (unhide B4).size
            have HA4 := hide (unhide HPAD w4 hg4.out)
            clear hg4 hb4
            go_wp2_with fail
            refine (value_w (padB (t.take k)) _ _ (unhide HA4) (by rw [padB_len (by rw [unhide HKL]; exact ht4)]; omega)).mono ?_
            rintro e w5 ⟨r, rfl, hrv, rfl⟩
            have hr := hrv (by rw [padB_len (by rw [unhide HKL]; exact ht4)]; omega)
            rw [unhide HV] at hr
            subst hr
            clear hrv
            go_wp2_with (at_builtin; refine wpList_append_lies _ rfl _ _ _ rfl w.heap.size 30 i0 _ 2 16 Tryz.underlying24 hi0 hz0 hz1 hz2 rfl (by omega) u4 D.length (netCells D) rfl (World.ownsRow.alloc (unhide OD4) _) ⟨w5.heap.size, 0, none⟩ 1 1 [.int .i64 r, .int .i64 n] rfl rfl (World.news_of_block (cs := #[.int .i64 r, .int .i64 n]) (t := 30) (fr := (0, 0)) (heap_alloc_new _ _)) (by simp [Value.oneCell']) (by omega) (by simp only [maxLen]; omega) (by omega) (by simp; omega) (w5.heap.size + 1) (by simp) ?_; intro gg cap w6 hown hgrow hat hltg)
            exact ⟨⟨t.drop k, D ++ [(r, n)], (by rw [show N - (1 + k) = 0 by omega, show c - (1 + k) = 0 by omega]; exact unhide HNX), OwnN.push1 (X := (r, n)) hown, by simp; omega, unhide HMORE, ((unhide B4).alloc s4 _).grown hgrow (by simp; omega) (fun j hj => ((unhide OD4).lt j hj).1)⟩, by simp only [slen]; omega⟩
          · have hcC : c ≤ 1 := by omega
            have HNX := hide (show BytesAt w (.slice (some ⟨b, o, none⟩) 0 0) (t.drop k) from by
              have e0 : t.drop k = [] := List.drop_eq_nil_of_le (by omega)
              rw [e0]; exact BytesAt.empty _ _ _)
            have hd0 : c - (1 + k) = 0 := by omega
            have hd1 : N - (1 + k) = 0 := by omega
            have hd2 : c - 1 = 0 := by omega
            have HK0 := hide (show k = 0 by omega)
            go_upto_region 11 with (refine wpList_copy_splice rfl _ _ _ _ rfl 5 Tryz.underlying63 Tryz.sizeByte (some ⟨wc.heap.size, 0, none⟩) (some ⟨b, o, none⟩) 4 4 (1 + k - 1) 0 rfl rfl wc.heap.size 0 [.int .u8 0, .int .u8 0, .int .u8 0, .int .u8 0] 5 (heap_alloc_new wc _) ((t.take k).map (Value.int .u8)) (by rw [List.length_map, unhide HKL, unhide hkk]; exact (Nat.min_eq_left ht4).symm) (fun h => absurd h (by rw [List.length_map, unhide HKL, unhide HK0]; omega)) (by rw [List.length_map, unhide HKL]; simpa using ht4) (one_u8 _) wc.heap.size wc ((Below.refl _ _).alloc (Nat.le_refl _) _) (Nat.le_refl _) ?_; intro w4 hg4 hb4)
            have B4 := hide ((unhide BE).trans (hb4.mono hsz))
            have OD4 := hide ((unhide OD).nextW hb4)
            have s4 : w.heap.size ≤ w4.heap.size := (unhide B4).size
            have HA4 := hide (unhide HPAD w4 hg4.out)
            clear hg4 hb4
            go_wp2_with fail
            refine (value_w (padB (t.take k)) _ _ (unhide HA4) (by rw [padB_len (by rw [unhide HKL]; exact ht4)]; omega)).mono ?_
            rintro e w5 ⟨r, rfl, hrv, rfl⟩
            have hr := hrv (by rw [padB_len (by rw [unhide HKL]; exact ht4)]; omega)
            rw [unhide HV] at hr
            subst hr
            clear hrv
            go_wp2_with (at_builtin; refine wpList_append_lies _ rfl _ _ _ rfl w.heap.size 30 i0 _ 2 16 Tryz.underlying24 hi0 hz0 hz1 hz2 rfl (by omega) u4 D.length (netCells D) rfl (World.ownsRow.alloc (unhide OD4) _) ⟨w5.heap.size, 0, none⟩ 1 1 [.int .i64 r, .int .i64 n] rfl rfl (World.news_of_block (cs := #[.int .i64 r, .int .i64 n]) (t := 30) (fr := (0, 0)) (heap_alloc_new _ _)) (by simp [Value.oneCell']) (by omega) (by simp only [maxLen]; omega) (by omega) (by simp; omega) (w5.heap.size + 1) (by simp) ?_; intro gg cap w6 hown hgrow hat hltg)
            exact ⟨⟨t.drop k, D ++ [(r, n)], (by rw [show N - (1 + k) = 0 by omega, show c - (1 + k) = 0 by omega]; exact unhide HNX), OwnN.push1 (X := (r, n)) hown, by simp; omega, unhide HMORE, ((unhide B4).alloc s4 _).grown hgrow (by simp; omega) (fun j hj => ((unhide OD4).lt j hj).1)⟩, by simp only [slen]; omega⟩
end Go.Proofs.YtgngdklkoilaiaaGreatDoor
