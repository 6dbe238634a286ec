/- The program's splitNets (package messages): the nets of some bytes, the first twenty-one of them. -/
import Derived.Test.YtgngdklkoilaiaaGreatDoorMsgN
namespace Go.Proofs.YtgngdklkoilaiaaGreatDoor
open Go.RowKit

/-- what splitNets gives -/
def NetsT (l : List Int) (w : World) (e : Ending) (w' : World) : Prop :=
  Below w.heap.size w w' ∧ match netsR l with
    | none => e = .returned (.tuple #[.slice none 0 0, .bool false])
    | some L => ∃ v, e = .returned (.tuple #[v, .bool true]) ∧ OwnN w' w.heap.size v (L.take 21)
theorem NetsT.no {w w' : World} {l : List Int} (hb : Below w.heap.size w w') (h : netsR l = none) : NetsT l w (.returned (.tuple #[.slice none 0 0, .bool false])) w' := by
  refine ⟨hb, ?_⟩; rw [h]
theorem NetsT.yes {w w' : World} {l : List Int} {L : List (Int × Int)} {v : Value} (hb : Below w.heap.size w w') (h : netsR l = some L) (h1 : OwnN w' w.heap.size v (L.take 21)) : NetsT l w (.returned (.tuple #[v, .bool true])) w' := by
  refine ⟨hb, ?_⟩; rw [h]; exact ⟨_, rfl, h1⟩

set_option maxRecDepth 100000 in
set_option maxHeartbeats 3200000 in
theorem splitNets_any (l : List Int) (x : Value) (w : World) (h : BytesAt w x l) :
    Calls Tryz.prog 184 #[x] w (NetsT l w) := by
  obtain ⟨i0, hi0, hz0, hz1, hz2⟩ := info_parts Tryz.infoNetW
  have HX := hide h
  clear h
  go_enter Tryz.func184, Tryz.ntmps184
  go_wp2_with fail
  go_loopw [0, 4] (fun vb vo wr => ∃ (R : List Int) (D : List (Int × Int)), BytesAt w vb R ∧ OwnN wr w.heap.size vo (D.take 21) ∧ netsR l = (netsR R).map (fun L => D ++ L) ∧ Below w.heap.size w wr) (fun vb _ _ => slen vb)
  case atStart => exact ⟨l, [], unhide HX, World.ownsRow_nil _ _ _ _, by cases netsR l <;> simp, Below.refl _ _⟩
  case round =>
    rename World => WR
    obtain ⟨R, D, hR, hD, hn, hbe⟩ := hrel
    have OD := hide hD
    have HR := hide hR
    have HN := hide hn
    have BE := hide hbe
    have hsz := hbe.size
    clear hD hn hbe
    obtain ⟨p, c, rfl, hcap, hl, hin, hr⟩ := hR
    by_cases h1 : 0 < R.length
    · rcases hr with h | ⟨b, o, rfl, hb, hc⟩
      · exfalso; rw [h.1] at h1; simp at h1
      obtain ⟨n, t, rfl⟩ : ∃ n t, R = n :: t := by
        cases R with
        | nil => simp at h1
        | cons n t => exact ⟨n, t, rfl⟩
      have c0 : WR.cell? ⟨b, o, none⟩ = some (.int .u8 n) := ((unhide BE).cell (p := ⟨b, o, none⟩) hb).trans (hc 0 (by simp))
      have hn8 := hin n (by simp)
      obtain ⟨hn0, hn1⟩ := hn8
      have htb : bytesOk t := fun z hz => hin z (by simp [hz])
      obtain ⟨N, hN⟩ : ∃ N, (n :: t).length = N := ⟨_, rfl⟩
      have HTL := hide (show t.length = N - 1 from by rw [← hN]; simp)
      rw [hN] at HR hcap hl h1 ⊢
      clear hc hin hN
      have HMORE : Hid (¬ t.length < takesP n → netsR l = (netsR (t.drop (takesP n))).map (fun L => (D ++ [(valB (padB (t.take (takesP n))), n)]) ++ L)) := fun h => netsR_more (unhide HN) (by omega)
      have HNONE : Hid (t.length < takesP n → netsR l = none) := fun h => netsR_none (unhide HN) h
      have htk := takes_le hn0
      obtain ⟨k, hk⟩ : ∃ k, takesP n = k := ⟨_, rfl⟩
      have HK := hide hk
      rw [hk] at HMORE HNONE htk
      clear hk
      go_upto_region 3 with fail
      go_cut [5, 6] (fun v5 v6 wc => v5 = .int .i64 n ∧ (∃ b2 o2 k2, v6 = .slice (some ⟨b2, o2, none⟩) (N - 1) k2 ∧ BytesAt w v6 t ∧ N - 1 ≤ k2) ∧ Below WR.heap.size WR wc)
      case first =>
        by_cases hcc : 1 < c
        · have NX := hide ((unhide HR).cut (i := 1) (by omega) hcc)
          go_quiet (fail)
          go_wp2_with fail
          go_meet
          case rel => exact ⟨by rfl, ⟨b, o + 1, c - 1, by rfl, by exact unhide NX, by omega⟩, below_drewN (Below.refl _ _) _⟩
        · have NX := hide ((unhide HR).cutEnd (i := 1) (by omega))
          obtain rfl : c = 1 := by omega
          obtain rfl : N = 1 := by omega
          clear hl hcap h1
          go_quiet (fail)
          go_wp2_with fail
          go_meet
          case rel => exact ⟨by rfl, ⟨b, o, 0, by rfl, by exact unhide NX, by omega⟩, below_drewN (Below.refl _ _) _⟩
      case rest =>
        rename World => W3
        obtain ⟨rfl, ⟨b2, o2, k2, rfl, hB, hnk⟩, hb3⟩ := hcut
        have HB := hide hB
        have B3 := hide ((unhide BE).trans (hb3.mono hsz))
        have OD3 := hide ((unhide OD).nextW hb3)
        have hs3 := (unhide B3).size
        clear hB hb3 c0 OD BE
        go_wp2_with fail
        refine (Size_any n _ hn0 hn1).mono ?_
        rintro e w0 ⟨rfl, rfl⟩
        rw [unhide HK]
        by_cases hlt : N - 1 < k
        · have HF := hide (unhide HNONE (by rw [unhide HTL]; exact hlt))
          go_wp2
          go_ret2
          exact NetsT.no (unhide B3) (unhide HF)
        · have HM := hide (unhide HMORE (by rw [unhide HTL]; exact hlt))
          have HA := hide ((unhide HB).head (i := k) (by omega))
          have HTK := hide (show (t.take k).length ≤ 4 from by rw [List.length_take]; omega)
          obtain ⟨V, hV⟩ : ∃ V, valB (padB (t.take k)) = V := ⟨_, rfl⟩
          have HV := hide hV
          rw [hV] at HM
          clear hV
          have HYES : Hid ((D.take 21).length ≤ 20 → (D ++ [(V, n)]).take 21 = D.take 21 ++ [(V, n)]) := fun h => by
            rw [List.length_take] at h
            rw [List.take_of_length_le (by simp; omega), List.take_of_length_le (l := D) (by omega)]
          have HNO : Hid (¬ (D.take 21).length ≤ 20 → (D ++ [(V, n)]).take 21 = D.take 21) := fun h => by
            rw [List.length_take] at h
            rw [List.take_append_of_le_length (by omega)]
          have hM21 : (D.take 21).length ≤ 21 := by rw [List.length_take]; omega
          obtain ⟨M, hM⟩ : ∃ M, D.take 21 = M := ⟨_, rfl⟩
          rw [hM] at HYES HNO hM21 OD3
          clear hM
          obtain ⟨q0, k0, hq0⟩ := own_slice (unhide OD3)
          subst hq0
          go_upto_if 25 with fail
          go_cut [4] (fun v4 wc => OwnN wc w.heap.size v4 ((D ++ [(V, n)]).take 21) ∧ Below w.heap.size w wc)
          case first =>
            by_cases h20 : M.length ≤ 20
            · have HY := hide (unhide HYES h20)
              go_wp2_with (first | (go_at_call 230; refine (address_any (t.take k) _ _ ((unhide HA).below (unhide B3)) (unhide HTK)).mono ?_; rintro e w4 ⟨rfl, rfl⟩; rw [unhide HV]) | (at_builtin; refine wpList_append_lies _ rfl _ _ _ rfl w.heap.size 30 i0 _ 2 16 Tryz.underlying24 hi0 hz0 hz1 hz2 rfl (by omega) (.slice q0 M.length k0) M.length (netCells M) rfl (World.ownsRow.alloc (unhide OD3) _) ⟨w4.heap.size, 0, none⟩ 1 1 [.int .i64 V, .int .i64 n] rfl rfl (World.news_of_block (cs := #[.int .i64 V, .int .i64 n]) (t := 30) (fr := (0, 0)) (heap_alloc_new _ _)) (by simp [Value.oneCell']) (by omega) (by simp only [maxLen]; omega) (by omega) (by simp; omega) (w4.heap.size + 1) (by simp) ?_; intro gg cap w6 hown hgrow hat hltg))
              go_meet
              case rel => rw [unhide HY]; exact ⟨OwnN.push1 hown, ((unhide B3).alloc hs3 _).grown hgrow (by simp; omega) (fun j hj => ((unhide OD3).lt j hj).1)⟩
            · have HY := hide (unhide HNO h20)
              go_wp2_with fail
              go_meet
              case rel => rw [unhide HY]; exact ⟨unhide OD3, unhide B3⟩
          case rest =>
            rename World => W4
            obtain ⟨ho4, hb4⟩ := hcut
            have O4 := hide ho4
            have B4 := hide hb4
            clear ho4 hb4 OD3 HYES HNO
            have HTD := hide (show (t.drop k).length = N - 1 - k from by rw [List.length_drop, unhide HTL])
            by_cases hkk : k < k2
            · have NX := hide ((unhide HB).cut (i := k) (by omega) hkk)
              go_wp2_with fail
              exact ⟨⟨t.drop k, D ++ [(V, n)], unhide NX, unhide O4, unhide HM, unhide B4⟩, by simp only [slen]; omega⟩
            · have NX := hide ((unhide HB).cutEnd (i := k) (by omega))
              have e1 : k2 - k = 0 := by omega
              have e2 : N - 1 - k = 0 := by omega
              go_wp2_with fail
              exact ⟨⟨t.drop k, D ++ [(V, n)], unhide NX, unhide O4, unhide HM, unhide B4⟩, by simp only [slen]; omega⟩
    · have HF := hide (show netsR l = some D from by
        have hz : R = [] := List.length_eq_zero_iff.1 (by omega)
        rw [unhide HN, hz, netsR_nil]; simp)
      clear hr hin
      go_wp2
      go_ret2
      exact NetsT.yes (unhide BE) (unhide HF) (unhide OD)
end Go.Proofs.YtgngdklkoilaiaaGreatDoor
