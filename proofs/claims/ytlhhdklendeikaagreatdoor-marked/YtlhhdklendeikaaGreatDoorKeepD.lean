/- The statements' function route (package bywaykeep): what a call answers; old memory stays as it is. -/
import Derived.Test.YtlhhdklendeikaaGreatDoorKeepB
import Derived.Test.YtlhhdklendeikaaGreatDoorKeepC
namespace Go.Proofs.YtlhhdklendeikaaGreatDoor
open Go.RowKit

theorem atP_in {l : List Int} (h : ∀ x ∈ l, inI x) (i : Nat) : -9223372036854775808 ≤ atP l i ∧ atP l i ≤ 9223372036854775807 := by
  unfold atP
  cases hq : l[i]? with
  | none => simp
  | some x => exact h x (List.mem_of_getElem? hq)
/-- what route gives -/
def RouteC (w : World) (l : List Int) (e : Ending) (w' : World) : Prop :=
  ∃ vp vm, e = .returned (.agg #[.int .i64 (netP (atP l 0)).1, .int .i64 (netP (atP l 0)).2, vp, vm, .int .i64 (pickP (atP l 3) 4), .int .i64 (pickP (atP l 4) 5)]) ∧
    w'.ownsRow w.heap.size 3 1 vp (pathP (l.drop 3) (pickP (atP l 1) 6).toNat).length ((pathP (l.drop 3) (pickP (atP l 1) 6).toNat).map (Value.int .i64)) ∧
    w'.ownsRow w.heap.size 3 1 vm (marksP (l.drop 6) (pickP (atP l 2) 5).toNat).length ((marksP (l.drop 6) (pickP (atP l 2) 5).toNat).map (Value.int .i64)) ∧
    Below w.heap.size w w'

set_option maxRecDepth 100000 in
set_option maxHeartbeats 800000 in
theorem route_any (l : List Int) (x : Value) (w : World) (h : IntsAt w x l) :
    Calls Tryz.prog 13 #[x] w (RouteC w l) := by
  have hx := h
  obtain ⟨p, c, rfl, hcap, hl, hin, hr⟩ := h
  clear hr
  have a0 := atP_in hin 0
  have a1 := atP_in hin 1
  have a2 := atP_in hin 2
  have a3 := atP_in hin 3
  have a4 := atP_in hin 4
  have HX := hide hx
  clear hin
  have hcases : (6 < l.length ∧ ∃ b o, p = some ⟨b, o, none⟩ ∧ 3 < c ∧ 6 < c ∧ Hid (IntsAt w (.slice (some ⟨b, o + 3, none⟩) (l.length - 3) (c - 3)) (l.drop 3)) ∧ Hid (IntsAt w (.slice (some ⟨b, o + 6, none⟩) (l.length - 6) (c - 6)) (l.drop 6))) ∨
      (3 < l.length ∧ ¬ 6 < l.length ∧ ∃ b o, p = some ⟨b, o, none⟩ ∧ 3 < c ∧ 3 < c ∧ Hid (IntsAt w (.slice (some ⟨b, o + 3, none⟩) (l.length - 3) (c - 3)) (l.drop 3)) ∧ Hid (IntsAt w (.slice none 0 0) (l.drop 6))) ∨
      (¬ 3 < l.length ∧ ¬ 6 < l.length ∧ Hid (IntsAt w (.slice none 0 0) (l.drop 3)) ∧ Hid (IntsAt w (.slice none 0 0) (l.drop 6))) := by
    by_cases h6 : 6 < l.length
    · left
      obtain ⟨b, o, rfl, hb, h3⟩ := hx.drop (n := 3) (by omega)
      obtain ⟨b', o', he, hb', h6x⟩ := hx.drop (n := 6) (by omega)
      cases he
      exact ⟨h6, b, o, rfl, by omega, by omega, h3, h6x⟩
    · right
      by_cases h3 : 3 < l.length
      · left
        obtain ⟨b, o, rfl, hb, h3x⟩ := hx.drop (n := 3) (by omega)
        exact ⟨h3, h6, b, o, rfl, by omega, by omega, h3x, IntsAt.nil w 6 (by omega)⟩
      · right
        exact ⟨h3, h6, IntsAt.nil w 3 (by omega), IntsAt.nil w 6 (by omega)⟩
  clear hx
  have p1 := pickP_bd (c := atP l 1) (n := 6) (by omega)
  have p2 := pickP_bd (c := atP l 2) (n := 5) (by omega)
  rcases hcases with ⟨h6, b, o, rfl, hc3, hc6, H3, H6⟩ | ⟨h3, h6, b, o, rfl, hc3, hc6, H3, H6⟩ | ⟨h3, h6, H3, H6⟩
  all_goals
    go_enter Tryz.func13, Tryz.ntmps13
    go_wp2_with fail
    refine (at_any l 0 _ _ (by omega) ((unhide HX).below ((Below.refl _ _).alloc (Nat.le_refl _) _))).mono ?_
    rintro e w0 ⟨rfl, rfl⟩
    go_wp2_with fail
    refine (net_any _ _ a0.1 a0.2).mono ?_
    rintro e w1 ⟨rfl, hb1⟩
    have B1 := hide hb1
    have b1 := hide (((Below.refl w.heap.size w).alloc (Nat.le_refl _) _).trans (hb1.mono (by simp)))
    clear hb1
    go_wp2_with fail
    refine (at_any l 1 _ _ (by omega) ((unhide HX).below (unhide b1))).mono ?_
    rintro e w0 ⟨rfl, rfl⟩
    go_wp2_with fail
    refine (pick_any _ _ _ a1.1 a1.2 (by omega) (by omega)).mono ?_
    rintro e w0 ⟨rfl, rfl⟩
    go_wp2_with fail
    refine (path_any _ _ _ _ p1.1 (by omega) ((unhide H3).below (unhide b1))).mono ?_
    rintro e w2 ⟨vp, rfl, hp, hb2⟩
    have B2 := hide ((unhide B1).trans (hb2.mono (unhide B1).size))
    have b2 := hide ((unhide b1).trans (hb2.mono (unhide b1).size))
    have HP := hide hp
    clear hb2 hp
    go_wp2_with fail
    refine (at_any l 2 _ _ (by omega) ((unhide HX).below (unhide b2))).mono ?_
    rintro e w0 ⟨rfl, rfl⟩
    go_wp2_with fail
    refine (pick_any _ _ _ a2.1 a2.2 (by omega) (by omega)).mono ?_
    rintro e w0 ⟨rfl, rfl⟩
    go_wp2_with fail
    refine (marks_any _ _ _ _ p2.1 (by omega) ((unhide H6).below (unhide b2))).mono ?_
    rintro e w3 ⟨vm, rfl, hm, hb3⟩
    have B3 := hide ((unhide B2).trans (hb3.mono (unhide B2).size))
    have b3 := hide ((unhide b2).trans (hb3.mono (unhide b2).size))
    have HP3 := hide (show w3.ownsRow _ 3 1 vp _ _ from owns_of (unhide HP) (fun k hk => hb3.block k ((unhide HP).lt k hk).2))
    have HM := hide hm
    clear hb3 hm
    go_wp2_with fail
    refine (at_any l 3 _ _ (by omega) ((unhide HX).below (unhide b3))).mono ?_
    rintro e w0 ⟨rfl, rfl⟩
    go_wp2_with fail
    refine (pick_any _ _ _ a3.1 a3.2 (by omega) (by omega)).mono ?_
    rintro e w0 ⟨rfl, rfl⟩
    go_wp2_with fail
    refine (at_any l 4 _ _ (by omega) ((unhide HX).below (unhide b3))).mono ?_
    rintro e w0 ⟨rfl, rfl⟩
    go_wp2_with fail
    refine (pick_any _ _ _ a4.1 a4.2 (by omega) (by omega)).mono ?_
    rintro e w0 ⟨rfl, rfl⟩
    have q0 : w0.heap[w.heap.size]? = some (.cells #[.int .i64 0, .int .i64 0, .slice none 0 0, .slice none 0 0, .int .i64 0, .int .i64 0] 32 (0, 0)) := ((unhide B3).block w.heap.size (by simp)).trans (heap_alloc_new w _)
    have hz : w.heap.size < w0.heap.size := heap_lt q0
    have r0 : w0.cell? ⟨w.heap.size, 0, none⟩ = some (.int .i64 0) := cell_of_heap q0
    have r1 : w0.cell? ⟨w.heap.size, 1, none⟩ = some (.int .i64 0) := cell_of_heap q0
    have r2 : w0.cell? ⟨w.heap.size, 2, none⟩ = some (.slice none 0 0) := cell_of_heap q0
    have r3 : w0.cell? ⟨w.heap.size, 3, none⟩ = some (.slice none 0 0) := cell_of_heap q0
    have r4 : w0.cell? ⟨w.heap.size, 4, none⟩ = some (.int .i64 0) := cell_of_heap q0
    have r5 : w0.cell? ⟨w.heap.size, 5, none⟩ = some (.int .i64 0) := cell_of_heap q0
    have zr : ∀ o, w0.frozen? ⟨w.heap.size, o, none⟩ = false := fun o => frozen_of_heap q0
    clear q0
    obtain ⟨q1, c1, rfl⟩ := own_slice (unhide HP)
    obtain ⟨q2, c2, rfl⟩ := own_slice (unhide HM)
    have HPE := hide (owns_base (unhide HP3) (size_alloc_le (unhide B1)))
    have HME := hide (owns_base (unhide HM) (size_alloc_le (unhide B2)))
    clear HP HP3 HM
    go_wp2
    refine bodyPost_ret (v := .agg #[.int .i64 (netP (atP l 0)).1, .int .i64 (netP (atP l 0)).2, .slice q1 (pathP (l.drop 3) (pickP (atP l 1) 6).toNat).length c1, .slice q2 (marksP (l.drop 6) (pickP (atP l 2) 5).toNat).length c2, .int .i64 (pickP (atP l 3) 4), .int .i64 (pickP (atP l 4) 5)]) (by simp [results, Tryz.results13, go_sem, r0, r1, r2, r3, r4, r5]) rfl ⟨_, _, rfl, ?_, ?_, ?_⟩
    · refine owns_of (owns_base (unhide HPE) (Nat.le_succ _)) (fun k hk => ?_)
      have hne : k ≠ w.heap.size := by have := ((unhide HPE).lt k hk).1; omega
      rw [heap_set_other hne, heap_set_other hne, heap_set_other hne, heap_set_other hne, heap_set_other hne, heap_set_other hne]
    · refine owns_of (owns_base (unhide HME) (Nat.le_succ _)) (fun k hk => ?_)
      have hne : k ≠ w.heap.size := by have := ((unhide HME).lt k hk).1; omega
      rw [heap_set_other hne, heap_set_other hne, heap_set_other hne, heap_set_other hne, heap_set_other hne, heap_set_other hne]
    · exact ((((((unhide b3).setCell (Nat.le_refl _) _).setCell (Nat.le_refl _) _).setCell (Nat.le_refl _) _).setCell (Nat.le_refl _) _).setCell (Nat.le_refl _) _).setCell (Nat.le_refl _) _

end Go.Proofs.YtlhhdklendeikaaGreatDoor
