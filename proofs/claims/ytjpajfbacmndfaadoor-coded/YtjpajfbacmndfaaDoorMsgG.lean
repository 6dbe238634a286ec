/- The library's Grow, Concat, Index, Contains at nets, and the program's validNets, valid (package messages). -/
import Derived.Test.YtjpajfbacmndfaaDoorMsgF
import Derived.Lib.AppendZeros
namespace Go.Proofs.YtjpajfbacmndfaaDoor
open Go.RowKit

theorem OwnN.zeros {w : World} {n cap : Nat} {z : Array Value} (hz : z.size = 2) (h1 : n ≤ cap) (h2 : cap ≤ maxLen) :
    OwnN (w.alloc (.cells (Builtin.zeroCells z n ++ Builtin.zeroCells z (cap - n)) 28)).drew w.heap.size (.slice (some ⟨w.heap.size, 0, none⟩) 0 cap) [] := by
  refine ⟨by simp [netCells], Or.inr ⟨w.heap.size, cap, _, rfl, Nat.le_refl _, heap_alloc_new w _, Nat.zero_le _, h2, ?_, by simp [netCells]⟩⟩
  simp only [Array.size_append, size_zeroCells, hz, ← Nat.add_mul]
  congr 1
  omega
set_option maxRecDepth 100000 in
set_option maxHeartbeats 800000 in
theorem Grow_any (n : Nat) (w : World) (hn : n ≤ 20) :
    Calls Tryd.prog 50 #[.slice none 0 0, .int .i64 n] w fun e w' => ∃ v, e = .returned v ∧ OwnN w' w.heap.size v [] ∧ Below w.heap.size w w' := by
  obtain ⟨i0, hi0, hz0, hz1, hz2⟩ := info_parts Tryd.infoNetW
  rcases Nat.eq_zero_or_pos n with h0 | h0
  · subst h0
    go_enter Tryd.func50, Tryd.ntmps50
    go_wp2
    go_ret
    exact ⟨_, rfl, World.ownsRow_nil _ _ _ _, Below.refl _ _⟩
  · have hr := Lib.run_append_nil_zeros (P := Tryd.prog) w 24 3 24 28 i0 _ .i64 .i64 Tryd.underlying24 Tryd.underlying3 hi0 hz0 n h0 (by omega) (by omega) (by rw [hz2]; omega)
    have HR := hide hr
    have hge := grownCap_ge w n 0 28
    have hcm : grownCap w n 0 28 ≤ maxLen := grownCap_le_maxLen w n 0 28 (by simp only [maxLen]; omega)
    have HGE := hide hge
    have HCM := hide hcm
    clear hr hge hcm
    go_enter Tryd.func50, Tryd.ntmps50
    go_wp2_with (at_builtin; refine Lib.wpList_append_run _ rfl _ _ _ _ rfl _ _ rfl rfl _ _ (unhide HR) ?_)
    go_ret
    exact ⟨_, rfl, OwnN.zeros rfl (unhide HGE) (unhide HCM), ((Below.refl _ _).alloc (Nat.le_refl _) _).drew⟩

set_option maxRecDepth 100000 in
set_option maxHeartbeats 800000 in
theorem Index_any (l : List (Int × Int)) (y : Int × Int) (x : Value) (w : World) (hx : NetsAt w x l) :
    Calls Tryd.prog 51 #[x, .agg #[.int .i64 y.1, .int .i64 y.2]] w fun e w' => ∃ r : Int, e = .returned (.int .i64 r) ∧ (0 ≤ r ↔ y ∈ l) ∧ Below w.heap.size w w' := by
  obtain ⟨p, c, rfl, hcap, hl, hin, hr⟩ := hx
  have HR := hide hr
  clear hr hin
  obtain ⟨w0, hw0⟩ : ∃ w0, w.alloc (.cells #[.int .i64 y.1, .int .i64 y.2] 28) = w0 := ⟨_, rfl⟩
  have Q0 := hide (heap_alloc_new w (.cells #[.int .i64 y.1, .int .i64 y.2] 28))
  have B0 := hide ((Below.refl w.heap.size w).alloc (Nat.le_refl _) (.cells #[.int .i64 y.1, .int .i64 y.2] 28))
  rw [hw0] at Q0 B0
  have HW0 := hide hw0
  clear hw0
  go_enter Tryd.func51, Tryd.ntmps51
  go_wp2
  rw [unhide HW0]
  go_loopw [8] (fun i wr => ∃ k : Nat, k ≤ l.length ∧ i = .int .i64 k ∧ y ∉ l.take k ∧ Below w0.heap.size w0 wr) (fun i _ => l.length - (intOf i).toNat)
  case atStart => exact ⟨0, Nat.zero_le _, rfl, by simp, Below.refl _ _⟩
  case round =>
    rename World => WR
    obtain ⟨k, hk, rfl, hnm, hbe⟩ := hrel
    have HNM := hide hnm
    have BE := hide hbe
    have bw := hide ((unhide B0).trans (hbe.mono (unhide B0).size))
    have q0 := (hbe.block _ (heap_lt (unhide Q0))).trans (unhide Q0)
    have y0 : WR.cell? ⟨w.heap.size, 0, none⟩ = some (.int .i64 y.1) := cell_of_heap q0
    have y1 : WR.cell? ⟨w.heap.size, 1, none⟩ = some (.int .i64 y.2) := cell_of_heap q0
    clear hnm hbe q0
    by_cases hlt : k < l.length
    · rcases unhide HR with h | ⟨b, o, rfl, hb, hc⟩
      · rw [h.1] at hlt; simp at hlt
      have c01 : WR.cell? ⟨b, o + k * 2, none⟩ = some (.int .i64 l[k].1) ∧ WR.cell? ⟨b, o + k * 2 + 1, none⟩ = some (.int .i64 l[k].2) := by
        rw [(unhide bw).cell (p := ⟨b, o + k * 2, none⟩) hb, (unhide bw).cell (p := ⟨b, o + k * 2 + 1, none⟩) hb]; exact hc k hlt
      obtain ⟨c0, c1⟩ := c01
      have HTK := hide (List.take_succ_eq_append_getElem hlt)
      have HMM := hide (List.getElem_mem hlt)
      clear hc
      obtain ⟨X, hX⟩ : ∃ X, l[k] = X := ⟨_, rfl⟩
      rw [hX] at c0 c1 HTK HMM
      clear hX
      obtain ⟨a, d⟩ := y
      obtain ⟨a2, d2⟩ := X
      simp only at c0 c1 y0 y1
      by_cases e1 : a = a2
      · subst e1
        by_cases e2 : d = d2
        · subst e2
          go_wp2_with fail
          go_quiet (fail)
          go_wp2
          go_ret
          exact ⟨k, rfl, ⟨fun _ => unhide HMM, fun _ => by omega⟩, by exact below_drewN (unhide bw) _⟩
        · have g2 : (d == d2) = false := beq_eq_false_iff_ne.2 e2
          have HNE := hide (show (a, d) ≠ (a, d2) from fun e => e2 (by simpa using e))
          clear e2
          go_wp2_with fail
          go_quiet (fail)
          go_wp2_with fail
          exact ⟨⟨k + 1, by omega, by go_num, by rw [unhide HTK]; simp only [List.mem_append, List.mem_singleton, not_or]; exact ⟨unhide HNM, unhide HNE⟩, by exact below_drewN (unhide BE) _⟩, by simp [intOf]; omega⟩
      · have g1 : (a == a2) = false := beq_eq_false_iff_ne.2 e1
        have HNE := hide (show (a, d) ≠ (a2, d2) from fun e => e1 (by simp at e; exact e.1))
        clear e1
        go_wp2_with fail
        go_quiet (fail)
        go_wp2_with fail
        exact ⟨⟨k + 1, by omega, by go_num, by rw [unhide HTK]; simp only [List.mem_append, List.mem_singleton, not_or]; exact ⟨unhide HNM, unhide HNE⟩, by exact below_drewN (unhide BE) _⟩, by simp [intOf]; omega⟩
    · have HE := hide (show y ∉ l from by have := unhide HNM; rwa [List.take_of_length_le (by omega)] at this)
      go_wp2
      go_ret
      exact ⟨-1, rfl, ⟨fun h => absurd h (by omega), fun h => absurd h (unhide HE)⟩, unhide bw⟩
end Go.Proofs.YtjpajfbacmndfaaDoor
