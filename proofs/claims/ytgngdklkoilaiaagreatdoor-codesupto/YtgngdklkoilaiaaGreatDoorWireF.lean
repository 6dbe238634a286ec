/- The reference's isMessage (package bywayref): what is a message. -/
import Derived.Test.YtgngdklkoilaiaaGreatDoorWireE
namespace Go.Proofs.YtgngdklkoilaiaaGreatDoor
open Go.RowKit
set_option maxRecDepth 100000 in
set_option maxHeartbeats 3200000 in
theorem isMessage_w (u : Msg) (vg vn vp vm : Value) (w : World) (hg : NetsAt w vg u.gone) (hn : NetsAt w vn u.nets) (hp : IntsAt w vp u.path) (hm : IntsAt w vm u.marks) (h5 : inI u.pref) (h4 : inI u.med) (hlen : u.gone.length + u.nets.length ≤ 4194304) :
    Calls Tryz.prog 72 #[.agg #[vg, vn, vp, vm, .int .i64 u.pref, .int .i64 u.med]] w fun e w' => e = .returned (.bool (msgOkB u)) ∧ Below w.heap.size w w' := by
  have HG := hide hg
  have HN := hide hn
  have HP := hide hp
  have HM := hide hm
  obtain ⟨pg, cg, rfl, _⟩ := hg
  obtain ⟨pn, cn, rfl, _, hln, _⟩ := hn
  obtain ⟨pp, cp, rfl, _, hlp, _⟩ := hp
  obtain ⟨pm, cm, rfl, _, hlm, _⟩ := hm
  go_enter Tryz.func72, Tryz.ntmps72
  go_wp2_with fail
  have b0 := hide ((Below.refl w.heap.size w).alloc (Nat.le_refl _) (.cells #[.slice pg u.gone.length cg, .slice pn u.nets.length cn, .slice pp u.path.length cp, .slice pm u.marks.length cm, .int .i64 u.pref, .int .i64 u.med] 27))
  refine (nets_w _ _ _ _ _ ((unhide HG).below (unhide b0)) ((unhide HN).below (unhide b0)) hlen).mono ?_
  rintro e w1 ⟨rfl, hb1⟩
  have q1 := (hb1.block w.heap.size (by simp)).trans (heap_alloc_new w _)
  obtain ⟨c0, c1, c2, c3, c4, c5⟩ := six_cells q1
  have b1 := hide ((unhide b0).trans (hb1.mono (unhide b0).size))
  have Q1 := hide q1
  clear hb1 q1 b0
  go_wp2_with fail
  refine (common_w _ _ _ _ _ _ _ _ _ _ _ _ _ _ _ _ _).mono ?_
  rintro e w2 ⟨rfl, hb2⟩
  have b2 := hide ((unhide b1).trans (hb2.mono (unhide b1).size))
  have Q2 := hide ((hb2.block _ (heap_lt (unhide Q1))).trans (unhide Q1))
  clear hb2 c0 c1 c2 c3 c4 c5 Q1
  go_wp2_with fail
  refine (isRoute_w (0, 0) u.path u.marks u.pref u.med _ _ _ (by simp [inI]) (by simp [inI]) ((unhide HP).below (unhide b2)) ((unhide HM).below (unhide b2)) h5 h4).mono ?_
  rintro e w3 ⟨rfl, hb3⟩
  have b3 := hide ((unhide b2).trans (hb3.mono (unhide b2).size))
  obtain ⟨c0, c1, c2, c3, c4, c5⟩ := six_cells ((hb3.block _ (heap_lt (unhide Q2))).trans (unhide Q2))
  clear hb3 Q2 b1 b2
  have hor : (Hid (msgOkB u = false) ∧ (netsOkB (u.gone ++ u.nets) = false ∨ (netsOkB (u.gone ++ u.nets) = true ∧ routeOkB (0, 0) u.path u.marks u.pref u.med = false))) ∨ (netsOkB (u.gone ++ u.nets) = true ∧ routeOkB (0, 0) u.path u.marks u.pref u.med = true ∧ Hid (netsOk (u.gone ++ u.nets) ∧ routeOk (0, 0) u.path u.marks u.pref u.med)) := by
    cases h1 : netsOkB (u.gone ++ u.nets) with
    | false => exact Or.inl ⟨msgOkB_no (fun h => by unfold netsOkB at h1; simp only [decide_eq_false_iff_not] at h1; exact h1 h.1), Or.inl rfl⟩
    | true =>
      cases h2 : routeOkB (0, 0) u.path u.marks u.pref u.med with
      | false => exact Or.inl ⟨msgOkB_no (fun h => by unfold routeOkB at h2; simp only [decide_eq_false_iff_not] at h2; exact h2 ⟨net00, h.2.1, h.2.2.1, h.2.2.2.1, h.2.2.2.2.1⟩), Or.inr ⟨rfl, rfl⟩⟩
      | true => exact Or.inr ⟨rfl, rfl, ⟨of_decide_eq_true h1, of_decide_eq_true h2⟩⟩
  rcases hor with ⟨HF, hor⟩ | ⟨h1, h2, HT⟩
  · rcases hor with h1 | ⟨h1, h2⟩
    · rw [h1]
      clear h1
      go_wp2
      go_ret
      exact ⟨rt_bool (unhide HF).symm, unhide b3⟩
    · rw [h1, h2]
      clear h1 h2
      go_wp2
      go_ret
      exact ⟨rt_bool (unhide HF).symm, unhide b3⟩
  · rw [h1, h2]
    clear h1 h2
    have HYES : Hid ((u.nets ≠ [] ∨ plainM u) → msgOkB u = true) := fun h => by
      obtain ⟨t1, t2⟩ := unhide HT
      exact msgOkB_yes ⟨t1, t2.2.1, t2.2.2.1, t2.2.2.2.1, t2.2.2.2.2, h⟩
    have HNO : Hid (¬ (u.nets ≠ [] ∨ plainM u) → msgOkB u = false) := fun h => msgOkB_no (fun h2 => h h2.2.2.2.2.2)
    clear HT
    by_cases y0 : 0 < u.nets.length
    · have HF := hide (unhide HYES (Or.inl (List.length_pos_iff.1 y0)))
      go_wp2
      go_ret
      exact ⟨rt_bool (unhide HF).symm, unhide b3⟩
    · have HZ := hide (show u.nets = [] from List.length_eq_zero_iff.1 (by omega))
      by_cases y1 : u.path.length = 0
      · have d1 : ((u.path.length : Int) == 0) = true := by simp [y1]
        by_cases y2 : u.marks.length = 0
        · have d2 : ((u.marks.length : Int) == 0) = true := by simp [y2]
          by_cases y3 : u.pref = 0
          · have d3 : (u.pref == 0) = true := by simp [y3]
            by_cases y4 : u.med = 0
            · have d4 : (u.med == 0) = true := by simp [y4]
              have HF := hide (unhide HYES (Or.inr ⟨List.length_eq_zero_iff.1 y1, List.length_eq_zero_iff.1 y2, y3, y4⟩))
              clear y1 y2 y3 y4
              go_wp2
              go_ret
              exact ⟨rt_bool (unhide HF).symm, unhide b3⟩
            · have d4 : (u.med == 0) = false := beq_eq_false_iff_ne.2 y4
              have HF := hide (unhide HNO (fun h => h.elim (fun h => h (unhide HZ)) (fun h => y4 h.2.2.2)))
              clear y1 y2 y3 y4
              go_wp2
              go_ret
              exact ⟨rt_bool (unhide HF).symm, unhide b3⟩
          · have d3 : (u.pref == 0) = false := beq_eq_false_iff_ne.2 y3
            have HF := hide (unhide HNO (fun h => h.elim (fun h => h (unhide HZ)) (fun h => y3 h.2.2.1)))
            clear y1 y2 y3
            go_wp2
            go_ret
            exact ⟨rt_bool (unhide HF).symm, unhide b3⟩
        · have d2 : ((u.marks.length : Int) == 0) = false := beq_eq_false_iff_ne.2 (by omega)
          have HF := hide (unhide HNO (fun h => h.elim (fun h => h (unhide HZ)) (fun h => y2 (by rw [h.2.1]; rfl))))
          clear y1 y2
          go_wp2
          go_ret
          exact ⟨rt_bool (unhide HF).symm, unhide b3⟩
      · have d1 : ((u.path.length : Int) == 0) = false := beq_eq_false_iff_ne.2 (by omega)
        have HF := hide (unhide HNO (fun h => h.elim (fun h => h (unhide HZ)) (fun h => y1 (by rw [h.1]; rfl))))
        clear y1
        go_wp2
        go_ret
        exact ⟨rt_bool (unhide HF).symm, unhide b3⟩
end Go.Proofs.YtgngdklkoilaiaaGreatDoor
