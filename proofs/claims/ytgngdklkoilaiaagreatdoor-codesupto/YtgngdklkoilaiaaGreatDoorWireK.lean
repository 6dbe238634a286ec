/- The reference's attrs (package bywayref): the attributes of some bytes. -/
import Derived.Test.YtgngdklkoilaiaaGreatDoorWireJ
import Derived.Deep.RegionLaw
namespace Go.Proofs.YtgngdklkoilaiaaGreatDoor
open Go.RowKit
def OwnA (w : World) (base : Nat) (v : Value) (l : List (Int × Int × Value)) : Prop := w.ownsRow base 162 3 v l.length (attCells l)
/-- what attrs gives -/
def AttsC (w : World) (l : List Int) (e : Ending) (w' : World) : Prop :=
  Below w.heap.size w w' ∧ match attsR l with
    | none => e = .returned (.tuple #[.slice none 0 0, .bool false])
    | some L => ∃ v A, e = .returned (.tuple #[v, .bool true]) ∧ OwnA w' w.heap.size v A ∧ AttsAt w A L
theorem AttsC.no {w w' : World} {l : List Int} (hb : Below w.heap.size w w') (h : attsR l = none) : AttsC w l (.returned (.tuple #[.slice none 0 0, .bool false])) w' := by
  refine ⟨hb, ?_⟩; rw [h]
theorem AttsC.yes {w w' : World} {l : List Int} {L : List (Int × Int × List Int)} {A : List (Int × Int × Value)} {v : Value} (hb : Below w.heap.size w w') (h : attsR l = some L) (ho : OwnA w' w.heap.size v A) (ha : AttsAt w A L) : AttsC w l (.returned (.tuple #[v, .bool true])) w' := by
  refine ⟨hb, ?_⟩; rw [h]; exact ⟨_, _, rfl, ho, ha⟩
theorem OwnA.push {w : World} {base g cap : Nat} {l : List (Int × Int × Value)} {x y : Int} {v : Value} (h : w.ownsRow base 162 3 (.slice (some ⟨g, 0, none⟩) (l.length + 1) cap) (l.length + 1) (attCells l ++ [.int .i64 x, .int .i64 y, v])) : OwnA w base (.slice (some ⟨g, 0, none⟩) (l.length + 1) cap) (l ++ [(x, y, v)]) := by
  unfold OwnA
  rw [attCells_snoc, List.length_append]; exact h
theorem Tryz.infoAtt : (Tryz.prog.info? 162).map (fun i => (i.zero, i.size, i.bytes)) = some (some (.agg #[.int .i64 0, .int .i64 0, .slice none 0 0]), 3, 40) := by kernel_rfl

set_option maxRecDepth 100000 in
set_option maxHeartbeats 3200000 in
theorem attrs_w (l : List Int) (x : Value) (w : World) (h : BytesAt w x l) (hlen : l.length ≤ 1048576) :
    Calls Tryz.prog 81 #[x] w (AttsC w l) := by
  obtain ⟨i0, hi0, hz0, hz1, hz2⟩ := info_parts Tryz.infoAtt
  have HX := hide h
  clear h
  go_enter Tryz.func81, Tryz.ntmps81
  go_wp2_with fail
  go_loopw [0, 4] (fun vb vo wr => ∃ (R : List Int) (A : List (Int × Int × Value)) (D : List (Int × Int × List Int)), BytesAt w vb R ∧ OwnA wr w.heap.size vo A ∧ AttsAt w A D ∧ A.length + R.length ≤ 1048576 ∧ attsR l = (attsR R).map (fun L => D ++ L) ∧ Below w.heap.size w wr) (fun vb _ _ => slen vb)
  case atStart => exact ⟨l, [], [], unhide HX, World.ownsRow_nil _ _ _ _, trivial, by simpa using hlen, by cases attsR l <;> simp, Below.refl _ _⟩
  case round =>
    obtain ⟨R, A, D, hB, hO, hA, hDR, hN, hbe⟩ := hrel
    have OD := hide hO
    have HA := hide hA
    have BE := hide hbe
    have HN := hide hN
    have hsz : w.heap.size ≤ wr.heap.size := hbe.size
    obtain ⟨p, c, rfl, hcap, hlR, hin, hr⟩ := hB
    clear hO hbe hN HX hA
    obtain ⟨N, hNl⟩ : ∃ N, R.length = N := ⟨_, rfl⟩
    have HNL := hide hNl
    rw [hNl] at hcap hlR hDR ⊢
    clear hNl
    by_cases h0 : 0 < N
    · rcases hr with h | ⟨b, o, rfl, hb, hc⟩
      · have := unhide HNL; rw [h.1] at this; simp at this; omega
      have HC := hide (show CellsB w b o R from ⟨hb, hc⟩)
      have HIN := hide hin
      clear hc hin
      by_cases h3 : N < 3
      · have HF := hide (show attsR l = none from by
          rw [unhide HN, attsR_short (fun e => by have := unhide HNL; rw [e] at this; simp at this; omega) (by rw [unhide HNL]; exact h3)]; rfl)
        go_wp2
        go_ret2
        exact AttsC.no (unhide BE) (unhide HF)
      · obtain ⟨x, y, z, t, hRe⟩ := three_of (R := R) (by rw [unhide HNL]; omega)
        subst hRe
        have hby := unhide HIN
        simp only [bytesOk_cons] at hby
        obtain ⟨⟨hx0, hx1⟩, ⟨hy0, hy1⟩, ⟨hz0', hz1'⟩, htb⟩ := hby
        have c0 : wr.cell? ⟨b, o, none⟩ = some (.int .u8 x) := ((unhide BE).cell (p := ⟨b, o, none⟩) hb).trans (show w.cell? ⟨b, o, none⟩ = some (.int .u8 x) from (unhide HC).2 0 (by simp))
        have c1 : wr.cell? ⟨b, o + 1, none⟩ = some (.int .u8 y) := ((unhide BE).cell (p := ⟨b, o + 1, none⟩) hb).trans (show w.cell? ⟨b, o + 1, none⟩ = some (.int .u8 y) from (unhide HC).2 1 (by simp))
        have c2 : wr.cell? ⟨b, o + 2, none⟩ = some (.int .u8 z) := ((unhide BE).cell (p := ⟨b, o + 2, none⟩) hb).trans (show w.cell? ⟨b, o + 2, none⟩ = some (.int .u8 z) from (unhide HC).2 2 (by simp))
        obtain ⟨k, rfl⟩ := Int.eq_ofNat_of_zero_le hz0'
        have hN3 : t.length + 3 ≤ N ∧ N ≤ t.length + 3 := by have := unhide HNL; simp only [List.length_cons] at this; omega
        by_cases hkt : N < 3 + k
        · have HF := hide (show attsR l = none from by rw [unhide HN, attsR_cons, if_pos (by rw [Int.toNat_natCast]; omega)]; rfl)
          go_wp2
          go_ret2
          exact AttsC.no (unhide BE) (unhide HF)
        · have HMORE := hide (show attsR l = (attsR (t.drop k)).map (fun L => (D ++ [(x, y, t.take k)]) ++ L) from by
            rw [unhide HN, attsR_cons, if_neg (by rw [Int.toNat_natCast]; omega), Option.map_map, Int.toNat_natCast]
            congr 1
            funext L
            simp)
          by_cases hA3 : 3 + k < c
          · have hc3 : 3 < c := by omega
            have HNX := hide (show BytesAt w (.slice (some ⟨b, o + (3 + k), none⟩) (N - (3 + k)) (c - (3 + k))) (t.drop k) from by
              have h1 := (((unhide HC).drop 3).drop k)
              rw [Nat.add_assoc] at h1
              exact h1.at_ (by simp; omega) (by omega) (bytesOk_drop htb k) (by omega))
            have HVL := hide (show BytesAt w (.slice (some ⟨b, o + 3, none⟩) k (c - 3)) (t.take k) from
              (((unhide HC).drop 3).take k).at_ (by simp; omega) (by omega) (bytesOk_take htb k) (by omega))
            have g1 : 1 < N := by omega
            have g2 : (1 : Int) < (N : Int) := by omega
            have g3 : (3 : Int) + k ≤ c := by omega
            have g4 : (3 : Int) ≤ 3 + k := by omega
            have g5 : 3 + k ≤ c := by omega
            have g6 : 3 ≤ 3 + k := by omega
            have g7 : IntKind.i64.wrap (3 + (k : Int)) = ((3 + k : Nat) : Int) := wrapI (by omega)
            have g8 : ¬ c = 3 := by omega
            have gx : IntKind.i64.wrap x = x := by rw [IntKind.wrap_i64]; omega
            have gy : IntKind.i64.wrap y = y := by rw [IntKind.wrap_i64]; omega
            have g12 : (3 + (k : Int)).toNat - 3 = k := by omega
            have g9 : max ((3 + k : Nat) : Int) 0 = ((3 + k : Nat) : Int) := by omega
            have g10 : (3 : Int) ≤ ((3 + k : Nat) : Int) := by omega
            have g11 : ((3 + k : Nat) : Int) ≤ (c : Int) := by omega
            go_upto_region 6 with fail
            go_cut [4] (fun v4 wc => OwnA wc w.heap.size v4 (A ++ [(x, y, .slice (some ⟨b, o + 3, none⟩) k (c - 3))]) ∧ Below w.heap.size w wc)
            case first =>
              go_region_law ((refine step_append_lies _ (by rfl) _ _ _ (by rfl) w.heap.size 162 i0 _ 3 40 Tryz.underlying158 hi0 hz0 hz1 hz2 rfl (by omega) u4 A.length (attCells A) (by rfl) (by repeat (first | exact unhide OD | refine World.ownsRow.drew ?_ | refine World.ownsRow.alloc ?_ _)) ⟨wr.heap.size, 0, none⟩ 1 1 [.int .i64 x, .int .i64 y, .slice (some ⟨b, o + 3, none⟩) k (c - 3)] (by rfl) (by rfl) (World.news_of_block (cs := #[.int .i64 x, .int .i64 y, .slice (some ⟨b, o + 3, none⟩) k (c - 3)]) (t := 162) (fr := (0, 0)) (heap_alloc_new _ _)) (by simp [Value.oneCell']) (by omega) (by simp only [maxLen]; omega) (by omega) (by simp; omega) (wr.heap.size + 1) (by simp) ?_; intro gg cap w6 hown hgrow hat hltg))
              all_goals
                go_wp2_with fail
                go_meet
                case rel =>
                  refine ⟨OwnA.push hown, Below.grown ?_ hgrow (by simp; omega) (fun j hj => ((unhide OD).lt j hj).1)⟩
                  repeat (first | exact unhide BE | refine Below.drew ?_ | refine Below.alloc ?_ hsz _)
            case rest =>
              obtain ⟨ho, hb6⟩ := hcut
              have HO := hide ho
              have HB6 := hide hb6
              clear ho hb6
              go_wp2_with fail
              exact ⟨⟨t.drop k, A ++ [(x, y, .slice (some ⟨b, o + 3, none⟩) k (c - 3))], D ++ [(x, y, t.take k)], unhide HNX, unhide HO, (unhide HA).snoc (unhide HVL), by simp; omega, unhide HMORE, unhide HB6⟩, by simp only [slen]; omega⟩
          by_cases hc3 : 3 < c
          · have hcB : c ≤ 3 + k := by omega
            have HNX := hide (show BytesAt w (.slice (some ⟨b, o, none⟩) 0 0) (t.drop k) from by
              have e0 : t.drop k = [] := List.drop_eq_nil_of_le (by omega)
              rw [e0]; exact BytesAt.empty _ _ _)
            have hd0 : c - (3 + k) = 0 := by omega
            have hd1 : N - (3 + k) = 0 := by omega
            have HVL := hide (show BytesAt w (.slice (some ⟨b, o + 3, none⟩) k (c - 3)) (t.take k) from
              (((unhide HC).drop 3).take k).at_ (by simp; omega) (by omega) (bytesOk_take htb k) (by omega))
            have g1 : 1 < N := by omega
            have g2 : (1 : Int) < (N : Int) := by omega
            have g3 : (3 : Int) + k ≤ c := by omega
            have g4 : (3 : Int) ≤ 3 + k := by omega
            have g5 : 3 + k ≤ c := by omega
            have g6 : 3 ≤ 3 + k := by omega
            have g7 : IntKind.i64.wrap (3 + (k : Int)) = ((3 + k : Nat) : Int) := wrapI (by omega)
            have g8 : ¬ c = 3 := by omega
            have gx : IntKind.i64.wrap x = x := by rw [IntKind.wrap_i64]; omega
            have gy : IntKind.i64.wrap y = y := by rw [IntKind.wrap_i64]; omega
            have g12 : (3 + (k : Int)).toNat - 3 = k := by omega
            have g9 : max ((3 + k : Nat) : Int) 0 = ((3 + k : Nat) : Int) := by omega
            have g10 : (3 : Int) ≤ ((3 + k : Nat) : Int) := by omega
            have g11 : ((3 + k : Nat) : Int) ≤ (c : Int) := by omega
            go_upto_region 6 with fail
            go_cut [4] (fun v4 wc => OwnA wc w.heap.size v4 (A ++ [(x, y, .slice (some ⟨b, o + 3, none⟩) k (c - 3))]) ∧ Below w.heap.size w wc)
            case first =>
              go_region_law ((refine step_append_lies _ (by rfl) _ _ _ (by rfl) w.heap.size 162 i0 _ 3 40 Tryz.underlying158 hi0 hz0 hz1 hz2 rfl (by omega) u4 A.length (attCells A) (by rfl) (by repeat (first | exact unhide OD | refine World.ownsRow.drew ?_ | refine World.ownsRow.alloc ?_ _)) ⟨wr.heap.size, 0, none⟩ 1 1 [.int .i64 x, .int .i64 y, .slice (some ⟨b, o + 3, none⟩) k (c - 3)] (by rfl) (by rfl) (World.news_of_block (cs := #[.int .i64 x, .int .i64 y, .slice (some ⟨b, o + 3, none⟩) k (c - 3)]) (t := 162) (fr := (0, 0)) (heap_alloc_new _ _)) (by simp [Value.oneCell']) (by omega) (by simp only [maxLen]; omega) (by omega) (by simp; omega) (wr.heap.size + 1) (by simp) ?_; intro gg cap w6 hown hgrow hat hltg))
              all_goals
                go_wp2_with fail
                go_meet
                case rel =>
                  refine ⟨OwnA.push hown, Below.grown ?_ hgrow (by simp; omega) (fun j hj => ((unhide OD).lt j hj).1)⟩
                  repeat (first | exact unhide BE | refine Below.drew ?_ | refine Below.alloc ?_ hsz _)
            case rest =>
              obtain ⟨ho, hb6⟩ := hcut
              have HO := hide ho
              have HB6 := hide hb6
              clear ho hb6
              go_wp2_with fail
              exact ⟨⟨t.drop k, A ++ [(x, y, .slice (some ⟨b, o + 3, none⟩) k (c - 3))], D ++ [(x, y, t.take k)], (by rw [show N - (3 + k) = 0 by omega, show c - (3 + k) = 0 by omega]; exact unhide HNX), unhide HO, (unhide HA).snoc (unhide HVL), by simp; omega, unhide HMORE, unhide HB6⟩, by simp only [slen]; omega⟩
          · obtain rfl : c = 3 := by omega
            obtain rfl : k = 0 := by omega
            obtain rfl : N = 3 := by omega
            have e0 : t = [] := List.length_eq_zero_iff.1 (by omega)
            have HNX := hide (show BytesAt w (.slice (some ⟨b, o, none⟩) 0 0) (t.drop 0) from by rw [e0]; exact BytesAt.empty _ _ _)
            have HVL := hide (show BytesAt w (.slice (some ⟨b, o, none⟩) 0 0) (t.take 0) from by rw [e0]; exact BytesAt.empty _ _ _)
            have gx : IntKind.i64.wrap x = x := by rw [IntKind.wrap_i64]; omega
            have gy : IntKind.i64.wrap y = y := by rw [IntKind.wrap_i64]; omega
            have g7 : IntKind.i64.wrap 3 = 3 := by decide
            have g8 : IntKind.i64.wrap (3 + 0) = 3 := by decide
            clear e0
            simp only [Int.ofNat_zero] at c2
            go_upto_region 6 with fail
            go_cut [4] (fun v4 wc => OwnA wc w.heap.size v4 (A ++ [(x, y, .slice (some ⟨b, o, none⟩) 0 0)]) ∧ Below w.heap.size w wc)
            case first =>
              go_region_law ((refine step_append_lies _ (by rfl) _ _ _ (by rfl) w.heap.size 162 i0 _ 3 40 Tryz.underlying158 hi0 hz0 hz1 hz2 rfl (by omega) u4 A.length (attCells A) (by rfl) (by repeat (first | exact unhide OD | refine World.ownsRow.drew ?_ | refine World.ownsRow.alloc ?_ _)) ⟨wr.heap.size, 0, none⟩ 1 1 [.int .i64 x, .int .i64 y, .slice (some ⟨b, o, none⟩) 0 0] (by rfl) (by rfl) (World.news_of_block (cs := #[.int .i64 x, .int .i64 y, .slice (some ⟨b, o, none⟩) 0 0]) (t := 162) (fr := (0, 0)) (heap_alloc_new _ _)) (by simp [Value.oneCell']) (by omega) (by simp only [maxLen]; omega) (by omega) (by simp; omega) (wr.heap.size + 1) (by simp) ?_; intro gg cap w6 hown hgrow hat hltg))
              all_goals
                go_wp2_with fail
                go_meet
                case rel =>
                  refine ⟨OwnA.push hown, Below.grown ?_ hgrow (by simp; omega) (fun j hj => ((unhide OD).lt j hj).1)⟩
                  repeat (first | exact unhide BE | refine Below.drew ?_ | refine Below.alloc ?_ hsz _)
            case rest =>
              obtain ⟨ho, hb6⟩ := hcut
              have HO := hide ho
              have HB6 := hide hb6
              clear ho hb6
              go_wp2_with fail
              exact ⟨⟨t.drop 0, A ++ [(x, y, .slice (some ⟨b, o, none⟩) 0 0)], D ++ [(x, y, t.take 0)], (by simpa using unhide HNX), unhide HO, (unhide HA).snoc (unhide HVL), by simp; omega, unhide HMORE, unhide HB6⟩, by simp [slen]⟩
    · have HF := hide (show attsR l = some D from by
        have hz : R = [] := List.length_eq_zero_iff.1 (by rw [unhide HNL]; omega)
        rw [unhide HN, hz, attsR_nil]; simp)
      clear hr hin
      go_wp2
      go_ret2
      exact AttsC.yes (unhide BE) (unhide HF) (unhide OD) (unhide HA)
end Go.Proofs.YtgngdklkoilaiaaGreatDoor
