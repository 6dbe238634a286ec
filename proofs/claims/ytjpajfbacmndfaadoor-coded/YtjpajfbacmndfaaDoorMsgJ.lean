/- The program's valid and Encode (packages messages, byway). -/
import Derived.Test.YtjpajfbacmndfaaDoorMsgI
namespace Go.Proofs.YtjpajfbacmndfaaDoor
open Go.RowKit

theorem NetsAt.lt {w : World} {v : Value} {l : List (Int × Int)} (h : NetsAt w v l) : l = [] ∨ ∀ k, v.ownBlock = some k → k < w.heap.size := by
  obtain ⟨p, c, rfl, hcap, hl, hin, hr⟩ := h
  rcases hr with ⟨rfl, hp⟩ | ⟨b, o, rfl, hb, hc⟩
  · exact Or.inl rfl
  · refine Or.inr fun k hk => ?_
    have e : b = k := by simpa [Value.ownBlock] using hk
    omega
theorem IntsAt.lt {w : World} {v : Value} {l : List Int} (h : IntsAt w v l) : l = [] ∨ ∀ k, v.ownBlock = some k → k < w.heap.size := by
  obtain ⟨p, c, rfl, hcap, hl, hin, hr⟩ := h
  rcases hr with ⟨rfl, hp⟩ | ⟨b, o, rfl, hb, hc⟩
  · exact Or.inl rfl
  · refine Or.inr fun k hk => ?_
    have e : b = k := by simpa [Value.ownBlock] using hk
    omega
theorem netOkB00 : netOkB (0, 0) = true := by decide

set_option maxRecDepth 100000 in
set_option maxHeartbeats 3200000 in
theorem valid_any (u : Msg) (vg vn vp vm : Value) (w : World) (hg : NetsAt w vg u.gone) (hn : NetsAt w vn u.nets) (hp : IntsAt w vp u.path) (hm : IntsAt w vm u.marks) :
    Calls Tryd.prog 16 #[.agg #[vg, vn, vp, vm, .int .i64 u.pref, .int .i64 u.med]] w fun e w' => e = .returned (.bool (msgOkB u)) ∧ Below w.heap.size w w' := by
  have HG := hide hg
  have HN := hide hn
  have HP := hide hp
  have HM := hide hm
  obtain ⟨pg, cg, rfl, -⟩ := hg
  obtain ⟨pn, cn, rfl, -, hln, -⟩ := hn
  obtain ⟨pp, cp, rfl, -, hlp, -⟩ := hp
  obtain ⟨pm, cm, rfl, -, hlm, -⟩ := hm
  have b0 := hide ((Below.refl w.heap.size w).alloc (Nat.le_refl _) (.cells #[.slice pg u.gone.length cg, .slice pn u.nets.length cn, .slice pp u.path.length cp, .slice pm u.marks.length cm, .int .i64 u.pref, .int .i64 u.med] 26))
  go_enter Tryd.func16, Tryd.ntmps16
  go_wp2_with fail
  refine (validNets_any u.gone u.nets _ _ _ ((unhide HG).below (unhide b0)) ((unhide HN).below (unhide b0))).mono ?_
  rintro e w1 ⟨rfl, hb1⟩
  have q1 := (hb1.block w.heap.size (by simp)).trans (heap_alloc_new w _)
  obtain ⟨c0, c1, c2, c3, c4, c5⟩ := six_cells q1
  have b1 := hide ((unhide b0).trans (hb1.mono (unhide b0).size))
  clear hb1 q1 b0
  cases hnb : netsOkB (u.gone ++ u.nets) with
  | false =>
    have HF := hide (msgOkB_no (u := u) (fun h => by unfold netsOkB at hnb; simp only [decide_eq_false_iff_not] at hnb; exact hnb h.1))
    clear hnb
    go_wp2
    go_ret
    exact ⟨rt_bool (unhide HF).symm, unhide b1⟩
  | true =>
    have HNB := hide (show netsOk (u.gone ++ u.nets) from of_decide_eq_true hnb)
    clear hnb
    by_cases y0 : u.nets.length = 0
    · have hz : u.nets = [] := List.length_eq_zero_iff.1 y0
      have HQ := hide (show msgOkB u = (((decide (u.path.length = 0) && decide (u.marks.length = 0)) && decide (u.pref = 0)) && decide (u.med = 0)) from by
        unfold msgOkB
        rw [Bool.eq_iff_iff]
        simp only [Bool.and_eq_true, decide_eq_true_eq]
        constructor
        · intro h
          rcases h.2.2.2.2.2 with h1 | ⟨h1, h2, h3, h4⟩
          · exact absurd hz h1
          · exact ⟨⟨⟨by rw [h1]; rfl, by rw [h2]; rfl⟩, h3⟩, h4⟩
        · rintro ⟨⟨⟨h1, h2⟩, h3⟩, h4⟩
          have e1 := List.length_eq_zero_iff.1 h1
          have e2 := List.length_eq_zero_iff.1 h2
          refine ⟨unhide HNB, ?_, ?_, ?_, ?_, Or.inr ⟨e1, e2, h3, h4⟩⟩
          · rw [e1]; exact ⟨by simp, by simp⟩
          · rw [e2]; exact ⟨by simp, rises_nil _⟩
          · rw [h3]; exact ⟨by omega, by omega⟩
          · rw [h4]; exact ⟨by omega, by omega⟩)
      have d0 : ((u.nets.length : Int) == 0) = true := by simp [y0]
      clear y0 hz
      by_cases y1 : u.path.length = 0
      · have d1 : ((u.path.length : Int) == 0) = true := by simp [y1]
        by_cases y2 : u.marks.length = 0
        · have d2 : ((u.marks.length : Int) == 0) = true := by simp [y2]
          by_cases y3 : u.pref = 0
          · have d3 : (u.pref == 0) = true := by simp [y3]
            have HE := hide (show (u.med == 0) = msgOkB u from by rw [unhide HQ]; simp [y1, y2, y3]; rfl)
            clear y1 y2 y3
            go_wp2
            go_ret
            exact ⟨rt_bool (unhide HE), unhide b1⟩
          · have d3 : (u.pref == 0) = false := beq_eq_false_iff_ne.2 y3
            have HE := hide (show false = msgOkB u from by rw [unhide HQ]; simp [y3])
            clear y1 y2 y3
            go_wp2
            go_ret
            exact ⟨rt_bool (unhide HE), unhide b1⟩
        · have d2 : ((u.marks.length : Int) == 0) = false := beq_eq_false_iff_ne.2 (by omega)
          have HE := hide (show false = msgOkB u from by rw [unhide HQ]; simp [y2])
          clear y1 y2
          go_wp2
          go_ret
          exact ⟨rt_bool (unhide HE), unhide b1⟩
      · have d1 : ((u.path.length : Int) == 0) = false := beq_eq_false_iff_ne.2 (by omega)
        have HE := hide (show false = msgOkB u from by rw [unhide HQ]; simp [y1])
        clear y1
        go_wp2
        go_ret
        exact ⟨rt_bool (unhide HE), unhide b1⟩
    · have HQ := hide (show routeOkB (0, 0) u.path u.marks u.pref u.med = msgOkB u from by
        have hz : u.nets ≠ [] := fun e => y0 (by rw [e]; rfl)
        unfold routeOkB msgOkB
        refine decide_eq_decide.2 ⟨fun h => ⟨unhide HNB, h.2.1, h.2.2.1, h.2.2.2.1, h.2.2.2.2, Or.inl hz⟩, fun h => ⟨net00, h.2.1, h.2.2.1, h.2.2.2.1, h.2.2.2.2.1⟩⟩)
      have d0 : ((u.nets.length : Int) == 0) = false := beq_eq_false_iff_ne.2 (by omega)
      clear y0
      go_wp2_with fail
      refine (RValid_any (0, 0) u.path u.marks u.pref u.med _ _ _ (by simp [inI]) (by simp [inI]) ((unhide HP).below (unhide b1)) ((unhide HM).below (unhide b1))).mono ?_
      rintro e w2 ⟨rfl, hb2⟩
      have b2 := hide ((unhide b1).trans (hb2.mono (unhide b1).size))
      clear hb2
      go_wp2
      go_ret
      exact ⟨rt_bool (unhide HQ), unhide b2⟩
end Go.Proofs.YtjpajfbacmndfaaDoor
