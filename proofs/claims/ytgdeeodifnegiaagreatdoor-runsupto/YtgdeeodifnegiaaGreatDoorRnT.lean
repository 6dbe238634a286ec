/- What is a route, to the document (run.go: isRoute). -/
import Derived.Test.YtgdeeodifnegiaaGreatDoorRefB
import Derived.Test.YtgdeeodifnegiaaGreatDoorRtP
import Derived.Test.YtgdeeodifnegiaaGreatDoorBase
namespace Go.Proofs.YtgdeeodifnegiaaGreatDoor
open Go.RowKit

set_option maxRecDepth 100000 in
set_option maxHeartbeats 1600000 in
theorem isNet_w (x : Int × Int) (w : World) (h1 : inI x.1) (h2 : inI x.2) :
    Calls Tryz.prog 141 #[.agg #[.int .i64 x.1, .int .i64 x.2]] w fun e w' => e = .returned (.bool (netOkB x)) ∧ Below w.heap.size w w' := by
  obtain ⟨a, l⟩ := x
  unfold inI at h1 h2
  simp only at h1 h2 ⊢
  have hor : (0 ≤ a ∧ a ≤ 4294967295 ∧ 0 ≤ l ∧ l ≤ 32) ∨ (¬ 0 ≤ a ∧ Hid (netOkB (a, l) = false)) ∨ (0 ≤ a ∧ ¬ a ≤ 4294967295 ∧ Hid (netOkB (a, l) = false)) ∨ (0 ≤ a ∧ a ≤ 4294967295 ∧ ¬ 0 ≤ l ∧ Hid (netOkB (a, l) = false)) ∨ (0 ≤ a ∧ a ≤ 4294967295 ∧ 0 ≤ l ∧ ¬ l ≤ 32 ∧ Hid (netOkB (a, l) = false)) := by
    have hF : ¬ (0 ≤ a ∧ a ≤ 4294967295 ∧ 0 ≤ l ∧ l ≤ 32) → Hid (netOkB (a, l) = false) := fun h => by
      unfold Hid netOkB
      simp only [decide_eq_false_iff_not]
      intro ⟨⟨x1, x2⟩, ⟨x3, x4⟩, _⟩
      exact h ⟨x1, x2, x3, x4⟩
    by_cases x1 : 0 ≤ a
    · by_cases x2 : a ≤ 4294967295
      · by_cases x3 : 0 ≤ l
        · by_cases x4 : l ≤ 32
          · exact Or.inl ⟨x1, x2, x3, x4⟩
          · exact Or.inr (Or.inr (Or.inr (Or.inr ⟨x1, x2, x3, x4, hF (fun h => x4 h.2.2.2)⟩)))
        · exact Or.inr (Or.inr (Or.inr (Or.inl ⟨x1, x2, x3, hF (fun h => x3 h.2.2.1)⟩)))
      · exact Or.inr (Or.inr (Or.inl ⟨x1, x2, hF (fun h => x2 h.2.1)⟩))
    · exact Or.inr (Or.inl ⟨x1, hF (fun h => x1 h.1)⟩)
  rcases hor with ⟨x1, x2, x3, x4⟩ | ⟨x1, HF⟩ | ⟨x1, x2, HF⟩ | ⟨x1, x2, x3, HF⟩ | ⟨x1, x2, x3, x4, HF⟩
  · have HN : Hid (netOkB (a, l) = (a % 2 ^ (32 - l).toNat == 0)) := by
      unfold Hid netOkB netOk powP
      rw [Bool.eq_iff_iff]; simp [x1, x2, x3, x4]
    have ⟨hp1, hp2⟩ := pow_bd (s := l) (k := 32) x3 (by omega)
    have hpz : ((2 : Int) ^ (32 - l).toNat == 0) = false := beq_eq_false_iff_ne.2 (by omega)
    go_enter Tryz.func141, Tryz.ntmps141
    go_wp2_with fail
    go_quiet ((go_at_call 193; exact Calls.quiet_of_same (rf.power_int (32 - l) _ (by omega) (by omega))))
    go_wp2
    go_ret
    exact ⟨rt_bool (unhide HN).symm, by exact below_drewN ((Below.refl _ _).alloc (Nat.le_refl _) _) _⟩
  · have d1 : decide (0 ≤ a) = false := by simpa using x1
    go_enter Tryz.func141, Tryz.ntmps141
    go_wp2_with fail
    go_quiet ((fail))
    go_wp2
    go_ret
    exact ⟨rt_bool (unhide HF).symm, by exact below_drewN ((Below.refl _ _).alloc (Nat.le_refl _) _) _⟩
  · have d2 : decide (a ≤ 4294967295) = false := by simpa using x2
    go_enter Tryz.func141, Tryz.ntmps141
    go_wp2_with fail
    go_quiet ((fail))
    go_wp2
    go_ret
    exact ⟨rt_bool (unhide HF).symm, by exact below_drewN ((Below.refl _ _).alloc (Nat.le_refl _) _) _⟩
  · have d3 : decide (0 ≤ l) = false := by simpa using x3
    go_enter Tryz.func141, Tryz.ntmps141
    go_wp2_with fail
    go_quiet ((fail))
    go_wp2
    go_ret
    exact ⟨rt_bool (unhide HF).symm, by exact below_drewN ((Below.refl _ _).alloc (Nat.le_refl _) _) _⟩
  · have d4 : decide (l ≤ 32) = false := by simpa using x4
    go_enter Tryz.func141, Tryz.ntmps141
    go_wp2_with fail
    go_quiet ((fail))
    go_wp2
    go_ret
    exact ⟨rt_bool (unhide HF).symm, by exact below_drewN ((Below.refl _ _).alloc (Nat.le_refl _) _) _⟩
set_option maxRecDepth 100000 in
set_option maxHeartbeats 3200000 in
theorem isRoute_w (x : Int × Int) (p m : List Int) (pref med : Int) (vp vm : Value) (w : World) (h1 : inI x.1) (h2 : inI x.2) (hp : IntsAt w vp p) (hm : IntsAt w vm m) (h3 : inI pref) (h4 : inI med) :
    Calls Tryz.prog 95 #[.agg #[.int .i64 x.1, .int .i64 x.2, vp, vm, .int .i64 pref, .int .i64 med]] w fun e w' => e = .returned (.bool (routeOkB x p m pref med)) ∧ Below w.heap.size w w' := by
  have HP := hide hp
  have HM := hide hm
  obtain ⟨pp, cp, rfl, hcp, hlp, hip, hrp⟩ := hp
  obtain ⟨pm, cm, rfl, hcm, hlm, him, hrm⟩ := hm
  have HRP := hide hrp
  have HRM := hide hrm
  clear hrp hrm
  obtain ⟨a, l⟩ := x
  simp only at h1 h2
  unfold inI at h3 h4
  go_enter Tryz.func95, Tryz.ntmps95
  go_wp2_with fail
  refine (isNet_w (a, l) _ h1 h2).mono ?_
  rintro e w1 ⟨rfl, hb1⟩
  have q0 : w1.heap[w.heap.size]? = some (.cells #[.int .i64 a, .int .i64 l, .slice pp p.length cp, .slice pm m.length cm, .int .i64 pref, .int .i64 med] 28 (0, 0)) := (hb1.block w.heap.size (by simp)).trans (heap_alloc_new w _)
  have b1 := hide (((Below.refl w.heap.size w).alloc (Nat.le_refl _) _).trans (hb1.mono (by simp)))
  have Q0 := hide q0
  have c2 : w1.cell? ⟨w.heap.size, 2, none⟩ = some (.slice pp p.length cp) := cell_of_heap q0
  have c3 : w1.cell? ⟨w.heap.size, 3, none⟩ = some (.slice pm m.length cm) := cell_of_heap q0
  have c4 : w1.cell? ⟨w.heap.size, 4, none⟩ = some (.int .i64 pref) := cell_of_heap q0
  have c5 : w1.cell? ⟨w.heap.size, 5, none⟩ = some (.int .i64 med) := cell_of_heap q0
  clear hb1 q0 hip him h1 h2
  have hor : (netOkB (a, l) = true ∧ p.length ≤ 12 ∧ m.length ≤ 8 ∧ 0 ≤ pref ∧ pref ≤ 4294967295 ∧ 0 ≤ med ∧ med ≤ 4294967295) ∨ (Hid (routeOkB (a, l) p m pref med = false) ∧ ((netOkB (a, l) = false) ∨ (netOkB (a, l) = true ∧ 12 < p.length) ∨ (netOkB (a, l) = true ∧ ¬ 12 < p.length ∧ 8 < m.length) ∨ (netOkB (a, l) = true ∧ ¬ 12 < p.length ∧ ¬ 8 < m.length ∧ pref < 0) ∨ (netOkB (a, l) = true ∧ ¬ 12 < p.length ∧ ¬ 8 < m.length ∧ ¬ pref < 0 ∧ 4294967295 < pref) ∨ (netOkB (a, l) = true ∧ ¬ 12 < p.length ∧ ¬ 8 < m.length ∧ ¬ pref < 0 ∧ ¬ 4294967295 < pref ∧ med < 0) ∨ (netOkB (a, l) = true ∧ ¬ 12 < p.length ∧ ¬ 8 < m.length ∧ ¬ pref < 0 ∧ ¬ 4294967295 < pref ∧ ¬ med < 0 ∧ 4294967295 < med))) := by
    cases hb : netOkB (a, l) with
    | false => exact Or.inr ⟨routeOkB_no (fun h => by unfold netOkB at hb; simp only [decide_eq_false_iff_not] at hb; exact hb h.1), Or.inl rfl⟩
    | true =>
      by_cases x1 : 12 < p.length
      · exact Or.inr ⟨routeOkB_no (fun h => by have := h.2.1.1; omega), by simp [x1]⟩
      by_cases x2 : 8 < m.length
      · exact Or.inr ⟨routeOkB_no (fun h => by have := h.2.2.1.1; omega), by simp [x1, x2]⟩
      by_cases x3 : pref < 0
      · exact Or.inr ⟨routeOkB_no (fun h => by have := h.2.2.2.1.1; omega), by simp [x1, x2, x3]⟩
      by_cases x4 : 4294967295 < pref
      · exact Or.inr ⟨routeOkB_no (fun h => by have := h.2.2.2.1.2; omega), by simp [x1, x2, x3, x4]⟩
      by_cases x5 : med < 0
      · exact Or.inr ⟨routeOkB_no (fun h => by have := h.2.2.2.2.1; omega), by simp [x1, x2, x3, x4, x5]⟩
      by_cases x6 : 4294967295 < med
      · exact Or.inr ⟨routeOkB_no (fun h => by have := h.2.2.2.2.2; omega), by simp [x1, x2, x3, x4, x5, x6]⟩
      exact Or.inl ⟨rfl, by omega, by omega, by omega, by omega, by omega, by omega⟩
  rcases hor with ⟨hb, x1, x2, x3, x4, x5, x6⟩ | ⟨HF, hor⟩
  rotate_left
  · rcases hor with hb | ⟨hb, y1⟩ | ⟨hb, y1, y2⟩ | ⟨hb, y1, y2, y3⟩ | ⟨hb, y1, y2, y3, y4⟩ | ⟨hb, y1, y2, y3, y4, y5⟩ | ⟨hb, y1, y2, y3, y4, y5, y6⟩
    all_goals
      rw [hb]
      clear hb
      go_wp2
      go_ret
      exact ⟨rt_bool (unhide HF).symm, unhide b1⟩
  · rw [hb]
    have HNO := hide (show netOk (a, l) from of_decide_eq_true hb)
    clear hb
    go_wp2_with fail
    go_loop [4] (fun i => ∃ k : Nat, k ≤ p.length ∧ i = .int .i64 k ∧ ∀ s ∈ p.take k, 1 ≤ s ∧ s ≤ 65535) (fun i => p.length - (intOf i).toNat)
    case atStart => exact ⟨0, Nat.zero_le _, rfl, by simp⟩
    case round =>
      obtain ⟨k, hk, rfl, hall⟩ := hrel
      have HALL := hide hall
      clear hall
      by_cases hlt : k < p.length
      · rcases unhide HRP with h | ⟨b, o, rfl, hb, hc⟩
        · rw [h.1] at hlt; simp at hlt
        have d0 : w1.cell? ⟨b, o + k, none⟩ = some (.int .i64 p[k]) := ((unhide b1).cell (p := ⟨b, o + k, none⟩) hb).trans (hc k hlt)
        clear hc
        by_cases y1 : p[k] < 1
        · have HF := hide (show routeOkB (a, l) p m pref med = false from routeOkB_no (fun h => by have := h.2.1.2 p[k] (List.getElem_mem _); omega))
          go_wp2
          go_ret
          exact ⟨rt_bool (unhide HF).symm, unhide b1⟩
        · by_cases y2 : 65535 < p[k]
          · have HF := hide (show routeOkB (a, l) p m pref med = false from routeOkB_no (fun h => by have := h.2.1.2 p[k] (List.getElem_mem _); omega))
            go_wp2
            go_ret
            exact ⟨rt_bool (unhide HF).symm, unhide b1⟩
          · have HALL2 := hide (show ∀ s ∈ p.take (k + 1), 1 ≤ s ∧ s ≤ 65535 from by
              rw [List.take_succ_eq_append_getElem hlt]
              intro s hs
              rcases List.mem_append.1 hs with hs | hs
              · exact unhide HALL s hs
              · simp only [List.mem_singleton] at hs; subst hs; omega)
            go_wp2_with fail
            go_round
            case rel => exact ⟨k + 1, by omega, by go_num, unhide HALL2⟩
            case measure => simp [intOf]; omega
      · have HPO := hide (show pathOk p from ⟨x1, by have := unhide HALL; rwa [List.take_of_length_le (by omega)] at this⟩)
        clear HALL
        go_wp2_with fail
        go_loopw [5] (fun i wr => ∃ k : Nat, k ≤ m.length ∧ i = .int .i64 k ∧ rises 0 (m.take k) ∧ Below w1.heap.size w1 wr) (fun i _ => m.length - (intOf i).toNat)
        case atStart => exact ⟨0, Nat.zero_le _, rfl, rfl, Below.refl _ _⟩
        case round =>
          rename World => WR
          obtain ⟨k2, hk2, rfl, hri, hbe⟩ := hrel
          have HRI := hide hri
          have BE := hide hbe
          have bw := hide ((unhide b1).trans (hbe.mono (unhide b1).size))
          have e3 : WR.cell? ⟨w.heap.size, 3, none⟩ = some (.slice pm m.length cm) := cell_of_heap ((hbe.block _ (heap_lt (unhide Q0))).trans (unhide Q0))
          clear hri hbe
          by_cases hlt2 : k2 < m.length
          · rcases unhide HRM with h | ⟨b, o, rfl, hb, hc⟩
            · rw [h.1] at hlt2; simp at hlt2
            have f0 : WR.cell? ⟨b, o + k2, none⟩ = some (.int .i64 m[k2]) := ((unhide bw).cell (p := ⟨b, o + k2, none⟩) hb).trans (hc k2 hlt2)
            have HST := hide (rises_step hlt2)
            have HNR : Hid (¬ markStep m k2 hlt2 → routeOkB (a, l) p m pref med = false) := fun hn => routeOkB_no (fun h => hn ((rises_step hlt2).1 (rises_take m 0 (k2 + 1) h.2.2.1.2)).2)
            by_cases y1 : m[k2] < 0
            · have d1 : decide (m[k2] < 0) = true := by simpa using y1
              have HF := hide (unhide HNR (fun h => by have := h.1; omega))
              clear hc
              go_wp2_with fail
              go_quiet ((fail))
              go_wp2
              go_ret
              exact ⟨rt_bool (unhide HF).symm, by exact below_drewN (unhide bw) _⟩
            have d1 : decide (m[k2] < 0) = false := by simpa using y1
            by_cases y2 : 65535 < m[k2]
            · have d2 : decide (65535 < m[k2]) = true := by simpa using y2
              have HF := hide (unhide HNR (fun h => by have := h.2.1; omega))
              clear hc
              go_wp2_with fail
              go_quiet ((fail))
              go_wp2
              go_ret
              exact ⟨rt_bool (unhide HF).symm, by exact below_drewN (unhide bw) _⟩
            have d2 : decide (65535 < m[k2]) = false := by simpa using y2
            rcases Nat.eq_zero_or_pos k2 with hz | hz
            · subst hz
              have HR2 := hide ((unhide HST).2 ⟨unhide HRI, by omega, by omega, fun h => absurd h (by omega)⟩)
              have d3 : decide ((0 : Int) < 0) = false := rfl
              clear hc
              simp only [Int.ofNat_zero, Nat.add_zero] at f0 ⊢
              go_wp2_with fail
              go_quiet ((fail))
              go_wp2_with fail
              exact ⟨⟨0 + 1, by omega, by go_num, unhide HR2, by exact below_drewN (unhide BE) _⟩, by simp [intOf]; omega⟩
            · have hlp : k2 - 1 < m.length := by omega
              have f1 : WR.cell? ⟨b, o + (k2 - 1), none⟩ = some (.int .i64 m[k2 - 1]) := ((unhide bw).cell (p := ⟨b, o + (k2 - 1), none⟩) hb).trans (hc (k2 - 1) hlp)
              have d3 : decide ((0 : Int) < (k2 : Int)) = true := by simp; omega
              have hsub : (k2 : Int) - 1 = ((k2 - 1 : Nat) : Int) := by omega
              clear hc
              by_cases y3 : m[k2] ≤ m[k2 - 1]
              · have d4 : decide (m[k2] ≤ m[k2 - 1]) = true := by simpa using y3
                have HF := hide (unhide HNR (fun h => by have := h.2.2 hz; omega))
                go_wp2_with fail
                go_quiet ((fail))
                go_wp2
                go_ret
                exact ⟨rt_bool (unhide HF).symm, by exact below_drewN (unhide bw) _⟩
              · have d4 : decide (m[k2] ≤ m[k2 - 1]) = false := by simpa using y3
                have HR2 := hide ((unhide HST).2 ⟨unhide HRI, by omega, by omega, fun _ => by omega⟩)
                go_wp2_with fail
                go_quiet ((fail))
                go_wp2_with fail
                exact ⟨⟨k2 + 1, by omega, by go_num, unhide HR2, by exact below_drewN (unhide BE) _⟩, by simp [intOf]; omega⟩
          · have HT := hide (show routeOkB (a, l) p m pref med = true from routeOkB_yes ⟨unhide HNO, unhide HPO, ⟨x2, by have := unhide HRI; rwa [List.take_of_length_le (by omega)] at this⟩, ⟨x3, x4⟩, ⟨x5, x6⟩⟩)
            go_wp2
            go_ret
            exact ⟨rt_bool (unhide HT).symm, unhide bw⟩
end Go.Proofs.YtgdeeodifnegiaaGreatDoor
