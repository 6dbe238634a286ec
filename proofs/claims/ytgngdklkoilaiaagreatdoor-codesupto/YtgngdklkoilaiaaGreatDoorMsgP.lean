/- The program's splitAttributes (package messages): the attributes of some bytes. -/
import Derived.Test.YtgngdklkoilaiaaGreatDoorMsgO
namespace Go.Proofs.YtgngdklkoilaiaaGreatDoor
open Go.RowKit

/-- what splitAttributes gives: the values lie in the bytes that came in -/
def AttsT (l : List Int) (wB w : World) (e : Ending) (w' : World) : Prop :=
  Below w.heap.size w w' ∧ match attsR l with
    | none => e = .returned (.tuple #[.slice none 0 0, .bool false])
    | some D => ∃ v A, e = .returned (.tuple #[v, .bool true]) ∧ OwnU w' w.heap.size v A ∧ AttsAt wB A D
theorem AttsT.no {wB w w' : World} {l : List Int} (hb : Below w.heap.size w w') (h : attsR l = none) : AttsT l wB w (.returned (.tuple #[.slice none 0 0, .bool false])) w' := by
  refine ⟨hb, ?_⟩; rw [h]
theorem AttsT.yes {wB w w' : World} {l : List Int} {A : List (Int × Int × Value)} {D : List (Int × Int × List Int)} {v : Value} (hb : Below w.heap.size w w') (h : attsR l = some D) (h1 : OwnU w' w.heap.size v A) (h2 : AttsAt wB A D) : AttsT l wB w (.returned (.tuple #[v, .bool true])) w' := by
  refine ⟨hb, ?_⟩; rw [h]; exact ⟨_, _, rfl, h1, h2⟩
theorem OwnU.push {w : World} {base g cap : Nat} {l : List (Int × Int × Value)} {x y : Int} {v : Value} (h : w.ownsRow base 279 3 (.slice (some ⟨g, 0, none⟩) (l.length + 1) cap) (l.length + 1) (attU l ++ [.int .u8 x, .int .u8 y, v])) : OwnU w base (.slice (some ⟨g, 0, none⟩) (l.length + 1) cap) (l ++ [(x, y, v)]) := by
  unfold OwnU
  rw [attU_snoc, List.length_append]; exact h
theorem OwnU.next {w w' : World} {base : Nat} {v : Value} {l : List (Int × Int × Value)} (h : OwnU w base v l) (hb : Below w.heap.size w w') : OwnU w' base v l := owns_of h (fun k hk => hb.block k (h.lt k hk).2)

set_option maxRecDepth 100000 in
set_option maxHeartbeats 3200000 in
theorem splitAttributes_any (l : List Int) (x : Value) (wB w : World) (hB : Below wB.heap.size wB w) (h : BytesAt wB x l) (hlen : l.length ≤ 65535) :
    Calls Tryz.prog 185 #[x] w (AttsT l wB w) := by
  have HBB := hide hB
  clear hB
  obtain ⟨i0, hi0, hz0, hz1, hz2⟩ := info_parts Tryz.infoAttU
  have HX := hide h
  clear h
  go_enter Tryz.func185, Tryz.ntmps185
  go_wp2_with fail
  go_loopw [0, 4] (fun vb vo wr => ∃ (R : List Int) (A : List (Int × Int × Value)) (D : List (Int × Int × List Int)), BytesAt wB vb R ∧ OwnU wr w.heap.size vo A ∧ AttsAt wB A D ∧ A.length + R.length ≤ 65535 ∧ attsR l = (attsR R).map (fun L => D ++ L) ∧ Below w.heap.size w wr) (fun vb _ _ => slen vb)
  case atStart => exact ⟨l, [], [], unhide HX, World.ownsRow_nil _ _ _ _, trivial, by simpa using hlen, by cases attsR l <;> simp, Below.refl _ _⟩
  case round =>
    rename World => WR
    obtain ⟨R, A, D, hR, hO, hA, hDR, hN, hbe⟩ := hrel
    have OD := hide hO
    have HA := hide hA
    have HR := hide hR
    have BE := hide hbe
    have HN := hide hN
    have hsz := hbe.size
    have BW := hide ((unhide HBB).trans (hbe.mono (unhide HBB).size))
    obtain ⟨p, c, rfl, hcap, hlR, hin, hr⟩ := hR
    clear hO hbe hN HX hA
    obtain ⟨N, hNl⟩ : ∃ N, R.length = N := ⟨_, rfl⟩
    have HNL := hide hNl
    rw [hNl] at hcap hlR hDR HR ⊢
    clear hNl
    by_cases h0 : 0 < N
    · rcases hr with h | ⟨b, o, rfl, hb, hc⟩
      · have := unhide HNL; rw [h.1] at this; simp at this; omega
      have HC := hide (show CellsB wB b o R from ⟨hb, hc⟩)
      have HIN := hide hin
      clear hc hin
      by_cases h3 : N < 3
      · have HF := hide (show attsR l = none from by
          rw [unhide HN, attsR_short (fun e => by have := unhide HNL; rw [e] at this; simp at this; omega) (by rw [unhide HNL]; exact h3)]; rfl)
        go_wp2
        go_ret2
        exact AttsT.no (unhide BE) (unhide HF)
      · obtain ⟨x, y, z, t, hRe⟩ := three_of (R := R) (by rw [unhide HNL]; omega)
        subst hRe
        have hby := unhide HIN
        simp only [bytesOk_cons] at hby
        obtain ⟨⟨hx0, hx1⟩, ⟨hy0, hy1⟩, ⟨hz0', hz1'⟩, htb⟩ := hby
        have c0 : wB.cell? ⟨b, o, none⟩ = some (.int .u8 x) := (unhide HC).2 0 (by simp)
        have c1 : wB.cell? ⟨b, o + 1, none⟩ = some (.int .u8 y) := (unhide HC).2 1 (by simp)
        have c2 : WR.cell? ⟨b, o + 2, none⟩ = some (.int .u8 z) := ((unhide BW).cell (p := ⟨b, o + 2, none⟩) hb).trans (show wB.cell? ⟨b, o + 2, none⟩ = some (.int .u8 z) from (unhide HC).2 2 (by simp))
        have HCW := hide (show ∀ W, Below w.heap.size w W → W.cell? ⟨b, o, none⟩ = some (.int .u8 x) ∧ W.cell? ⟨b, o + 1, none⟩ = some (.int .u8 y) from fun W hW => ⟨(((unhide HBB).trans (hW.mono (unhide HBB).size)).cell (p := ⟨b, o, none⟩) hb).trans c0, (((unhide HBB).trans (hW.mono (unhide HBB).size)).cell (p := ⟨b, o + 1, none⟩) hb).trans c1⟩)
        obtain ⟨k, rfl⟩ := Int.eq_ofNat_of_zero_le hz0'
        have HTL := hide (show t.length = N - 3 from by have := unhide HNL; simp only [List.length_cons] at this; omega)
        have HMORE : Hid (¬ N - 3 < k → attsR l = (attsR (t.drop k)).map (fun L => (D ++ [(x, y, t.take k)]) ++ L)) := fun h => by
          rw [unhide HN, attsR_cons, if_neg (by rw [Int.toNat_natCast, unhide HTL]; exact h), Option.map_map, Int.toNat_natCast]
          congr 1
          funext L
          simp
        have HNONE : Hid (N - 3 < k → attsR l = none) := fun h => by rw [unhide HN, attsR_cons, if_pos (by rw [Int.toNat_natCast, unhide HTL]; exact h)]; rfl
        have hdr : (x :: y :: (k : Int) :: t).drop 3 = t := rfl
        clear c0 c1 HC HIN htb
        go_upto_region 5 with fail
        go_cut [5, 6] (fun v5 v6 wc => v5 = .int .i64 k ∧ (∃ b2 o2 k2, v6 = .slice (some ⟨b2, o2, none⟩) (N - 3) k2 ∧ BytesAt wB v6 t ∧ N - 3 ≤ k2) ∧ Below WR.heap.size WR wc)
        case first =>
          by_cases hcc : 3 < c
          · have NX := hide ((unhide HR).cut (i := 3) (by omega) hcc)
            rw [hdr] at NX
            clear hdr
            go_quiet (fail)
            go_wp2_with fail
            go_meet
            case rel => exact ⟨by rfl, ⟨b, o + 3, c - 3, by rfl, by exact unhide NX, by omega⟩, below_drewN (Below.refl _ _) _⟩
          · have NX := hide ((unhide HR).cutEnd (i := 3) (by omega))
            rw [hdr] at NX
            obtain rfl : c = 3 := by omega
            obtain rfl : N = 3 := by omega
            clear hlR hcap h0 h3 hdr hDR
            go_quiet (fail)
            go_wp2_with fail
            go_meet
            case rel => exact ⟨by rfl, ⟨b, o, 0, by rfl, by exact unhide NX, by omega⟩, below_drewN (Below.refl _ _) _⟩
        case rest =>
          rename World => W3
          obtain ⟨rfl, ⟨b2, o2, k2, rfl, hB, hnk⟩, hb3⟩ := hcut
          have HB := hide hB
          have B3 := hide ((unhide BE).trans (hb3.mono hsz))
          have OD3 := hide ((unhide OD).next hb3)
          have hs3 := (unhide B3).size
          clear hB hb3 c2 OD BE hdr
          by_cases hlt : N - 3 < k
          · have HF := hide (unhide HNONE hlt)
            go_wp2
            go_ret2
            exact AttsT.no (unhide B3) (unhide HF)
          · have HM := hide (unhide HMORE hlt)
            have HVL := hide ((unhide HB).head (i := k) (by omega))
            obtain ⟨c0, c1⟩ := unhide HCW W3 (unhide B3)
            obtain ⟨q0, k0, hq0⟩ := own_slice (unhide OD3)
            subst hq0
            have g1 : 1 < N := by omega
            have g2 : (1 : Int) < (N : Int) := by omega
            have g3 : (k : Int) ≤ (k2 : Int) := by omega
            have g5 : k ≤ k2 := by omega
            have g8 : ¬ N = 0 := by omega
            go_upto_region 8 with fail
            go_cut [4] (fun v4 wc => OwnU wc w.heap.size v4 (A ++ [(x, y, .slice (some ⟨b2, o2, none⟩) k k2)]) ∧ Below w.heap.size w wc)
            case first =>
              go_region_law ((refine step_append_lies _ (by rfl) _ _ _ (by rfl) w.heap.size 279 i0 _ 3 32 Tryz.underlying237 hi0 hz0 hz1 hz2 rfl (by omega) (.slice q0 A.length k0) A.length (attU A) (by rfl) (by repeat (first | exact unhide OD3 | refine World.ownsRow.drew ?_ | refine World.ownsRow.alloc ?_ _)) ⟨W3.heap.size, 0, none⟩ 1 1 [.int .u8 x, .int .u8 y, .slice (some ⟨b2, o2, none⟩) k k2] (by rfl) (by rfl) (World.news_of_block (cs := #[.int .u8 x, .int .u8 y, .slice (some ⟨b2, o2, none⟩) k k2]) (t := 279) (fr := (0, 0)) (heap_alloc_new _ _)) (one_att _ _ _ _ _) (by omega) (by simp only [maxLen]; omega) (by omega) (by simp; omega) (W3.heap.size + 1) (by simp) ?_; intro gg cap w6 hown hgrow hat hltg))
              all_goals
                go_wp2_with fail
                go_meet
                case rel =>
                  refine ⟨OwnU.push hown, Below.grown ?_ hgrow (by simp; omega) (fun j hj => ((unhide OD3).lt j hj).1)⟩
                  repeat (first | exact unhide B3 | refine Below.drew ?_ | refine Below.alloc ?_ hs3 _)
            case rest =>
              rename World => W4
              obtain ⟨ho4, hb4⟩ := hcut
              have O4 := hide ho4
              have B4 := hide hb4
              clear ho4 hb4 OD3 c0 c1
              have hA1 : (A ++ [(x, y, Value.slice (some ⟨b2, o2, none⟩) k k2)]).length = A.length + 1 := by simp
              have HAL := hide hA1
              clear hA1
              by_cases hkk : k < k2
              · have NX := hide ((unhide HB).cut (i := k) (by omega) hkk)
                go_wp2_with fail
                exact ⟨⟨t.drop k, _, D ++ [(x, y, t.take k)], unhide NX, unhide O4, (unhide HA).snoc (unhide HVL), by rw [unhide HAL, List.length_drop, unhide HTL]; omega, unhide HM, unhide B4⟩, by simp only [slen]; omega⟩
              · have NX := hide ((unhide HB).cutEnd (i := k) (by omega))
                have e1 : k2 - k = 0 := by omega
                have e2 : N - 3 - k = 0 := by omega
                go_wp2_with fail
                exact ⟨⟨t.drop k, _, D ++ [(x, y, t.take k)], unhide NX, unhide O4, (unhide HA).snoc (unhide HVL), by rw [unhide HAL, List.length_drop, unhide HTL]; omega, unhide HM, unhide B4⟩, by simp only [slen]; omega⟩
    · have HF := hide (show attsR l = some D from by
        have hz : R = [] := List.length_eq_zero_iff.1 (by rw [unhide HNL]; omega)
        rw [unhide HN, hz, attsR_nil]; simp)
      clear hr hin
      go_wp2
      go_ret2
      exact AttsT.yes (unhide BE) (unhide HF) (unhide OD) (unhide HA)
end Go.Proofs.YtgngdklkoilaiaaGreatDoor
