/- The library's Contains, Concat at nets, and the program's validNets, valid (package messages). -/
import Derived.Test.YtjpajfbacmndfaaDoorMsgG
namespace Go.Proofs.YtjpajfbacmndfaaDoor
open Go.RowKit

set_option maxHeartbeats 800000 in
theorem Contains_any (l : List (Int × Int)) (y : Int × Int) (x : Value) (w : World) (hx : NetsAt w x l) :
    Calls Tryd.prog 40 #[x, .agg #[.int .i64 y.1, .int .i64 y.2]] w fun e w' => e = .returned (.bool (decide (y ∈ l))) ∧ Below w.heap.size w w' := by
  have HX := hide hx
  obtain ⟨p, c, rfl, -⟩ := hx
  go_enter Tryd.func40, Tryd.ntmps40
  go_wp2_with fail
  have b0 := (Below.refl w.heap.size w).alloc (Nat.le_refl _) (.cells #[.int .i64 y.1, .int .i64 y.2] 28)
  refine (Index_any l y _ _ ((unhide HX).below b0)).mono ?_
  rintro e w1 ⟨r, rfl, hr, hb1⟩
  have B1 := hide (b0.trans (hb1.mono b0.size))
  have HE := hide (show decide (0 ≤ r) = decide (y ∈ l) from decide_eq_decide.2 hr)
  clear hr hb1 b0
  go_wp2
  go_ret
  exact ⟨rt_bool (unhide HE), unhide B1⟩

def upToN (g t : List (Int × Int)) (k : Nat) : List (Int × Int) := if k = 0 then [] else if k = 1 then g else g ++ t
set_option maxRecDepth 100000 in
set_option maxHeartbeats 1600000 in
theorem Concat_any (g t : List (Int × Int)) (B : Nat) (vg vt : Value) (w : World) (hg : NetsAt w vg g) (ht : NetsAt w vt t) (hB : w.heap[B]? = some (.cells #[vg, vt] 24 (0, 0))) (hlen : g.length + t.length ≤ 20) :
    Calls Tryd.prog 38 #[.slice (some ⟨B, 0, none⟩) 2 2] w fun e w' => ∃ v, e = .returned v ∧ OwnN w' w.heap.size v (g ++ t) ∧ Below w.heap.size w w' := by
  obtain ⟨i0, hi0, hz0, hz1, hz2⟩ := info_parts Tryd.infoNetW
  have HG := hide hg
  have HT := hide ht
  have HB := hide hB
  obtain ⟨pg, cg, rfl, -⟩ := hg
  obtain ⟨pt, ct, rfl, -⟩ := ht
  have e0 : w.cell? ⟨B, 0, none⟩ = some (.slice pg g.length cg) := cell_of_heap hB
  have e1 : w.cell? ⟨B, 1, none⟩ = some (.slice pt t.length ct) := cell_of_heap hB
  have hlB : B < w.heap.size := heap_lt hB
  clear hB
  go_enter Tryd.func38, Tryd.ntmps38
  go_wp2
  go_loop [3, 11] (fun s i => ∃ k : Nat, k ≤ 2 ∧ i = .int .i64 k ∧ s = .int .i64 (upToN g t k).length) (fun _ i => 2 - (intOf i).toNat)
  case atStart => exact ⟨0, by omega, rfl, rfl⟩
  case round =>
    obtain ⟨k, hk, rfl, rfl⟩ := hrel
    rcases (by omega : k = 0 ∨ k = 1 ∨ k = 2) with rfl | rfl | rfl
    · simp only [upToN, if_true, List.length_nil]
      go_wp2
      go_round
      case rel => exact ⟨1, by omega, rfl, by simp⟩
      case measure => simp [intOf]
    · simp only [upToN, if_true, if_neg (show ¬ (1 : Nat) = 0 by omega)]
      go_wp2
      go_round
      case rel => exact ⟨2, by omega, rfl, by simp⟩
      case measure => simp [intOf]
    · have es : (upToN g t 2).length = g.length + t.length := by simp [upToN]
      rw [es]
      clear es
      go_wp2_with fail
      have hgr := Grow_any (g.length + t.length) w hlen
      rw [Int.natCast_add] at hgr
      refine hgr.mono ?_
      clear hgr
      rintro e w1 ⟨v1, rfl, ho1, hb1⟩
      have O1 := hide ho1
      have B1 := hide hb1
      clear ho1 hb1
      go_wp2_with fail
      go_loopw [6, 27] (fun v6 i wr => ∃ k : Nat, k ≤ 2 ∧ i = .int .i64 k ∧ OwnN wr w.heap.size v6 (upToN g t k) ∧ Below w.heap.size w wr) (fun _ i _ => 2 - (intOf i).toNat)
      case atStart => exact ⟨0, by omega, rfl, unhide O1, unhide B1⟩
      case round =>
        rename World => WR
        obtain ⟨k, hk, rfl, ho, hbe⟩ := hrel
        have OR := hide ho
        have BE := hide hbe
        have hsz := hbe.size
        have f0 : WR.cell? ⟨B, 0, none⟩ = some (.slice pg g.length cg) := (hbe.cell (p := ⟨B, 0, none⟩) hlB).trans e0
        have f1 : WR.cell? ⟨B, 1, none⟩ = some (.slice pt t.length ct) := (hbe.cell (p := ⟨B, 1, none⟩) hlB).trans e1
        have RG := hide ((unhide HG).below hbe).reads
        have RT := hide ((unhide HT).below hbe).reads
        clear ho hbe
        rcases (by omega : k = 0 ∨ k = 1 ∨ k = 2) with rfl | rfl | rfl
        · have e : upToN g t 0 = [] := rfl
          rw [e] at OR
          clear e
          go_wp2_with (at_builtin; refine wpList_append_reads rfl _ _ _ rfl w.heap.size 28 i0 _ 2 16 Tryd.underlying24 hi0 hz0 hz1 hz2 rfl (by omega) u6 0 [] rfl (unhide OR) (.slice pg g.length cg) g.length (netCells g) rfl (unhide RG) (netCells_len g) (one_net g) (by simp [maxLen]; omega) (by omega) hsz ?_; intro v' w' hown hgrow hat)
          exact ⟨⟨1, by omega, rfl, by rw [Nat.zero_add, List.nil_append] at hown; exact hown, (unhide BE).grown hgrow hsz (fun j hj => ((unhide OR).lt j hj).1)⟩, by simp [intOf]⟩
        · have e : upToN g t 1 = g := rfl
          rw [e] at OR
          clear e
          go_wp2_with (at_builtin; refine wpList_append_reads rfl _ _ _ rfl w.heap.size 28 i0 _ 2 16 Tryd.underlying24 hi0 hz0 hz1 hz2 rfl (by omega) u6 g.length (netCells g) rfl (unhide OR) (.slice pt t.length ct) t.length (netCells t) rfl (unhide RT) (netCells_len t) (one_net t) (by simp [maxLen]; omega) (by omega) hsz ?_; intro v' w' hown hgrow hat)
          exact ⟨⟨2, by omega, rfl, by rw [← netCells_append, ← List.length_append] at hown; exact hown, (unhide BE).grown hgrow hsz (fun j hj => ((unhide OR).lt j hj).1)⟩, by simp [intOf]⟩
        · have e : upToN g t 2 = g ++ t := rfl
          rw [e] at OR
          clear e
          go_wp2
          go_ret
          exact ⟨_, rfl, unhide OR, unhide BE⟩
end Go.Proofs.YtjpajfbacmndfaaDoor
