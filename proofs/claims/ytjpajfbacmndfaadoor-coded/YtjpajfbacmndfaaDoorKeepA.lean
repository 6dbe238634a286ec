/- The raw numbers of bywaykeep (package bywaykeep): pick, at, sameNet. -/
import Derived.Test.YtjpajfbacmndfaaDoorBaseP
namespace Go.Proofs.YtjpajfbacmndfaaDoor
open Go.RowKit
set_option maxHeartbeats 400000 in
theorem pick_any (c n : Int) (w : World) (h1 : -9223372036854775808 ≤ c) (h2 : c ≤ 9223372036854775807) (h3 : 0 < n) (h4 : n ≤ 4294967296) :
    Calls Tryd.prog 8 #[.int .i64 c, .int .i64 n] w fun e w' => e = .returned (.int .i64 (pickP c n)) ∧ w' = w := by
  have hz : (n == 0) = false := beq_eq_false_iff_ne.2 (by omega)
  by_cases hc : c < 0
  · have HP := hide (show pickP c n = -((c + 1).tmod n) by unfold pickP; rw [if_pos hc, ← Int.neg_tmod, Int.tmod_eq_emod_of_nonneg (by omega)])
    go_enter Tryd.func8, Tryd.ntmps8
    go_wp2
    all_goals (go_ret; exact ⟨rt_int (unhide HP).symm, rfl⟩)
  · have HP := hide (show pickP c n = c % n by unfold pickP; rw [if_neg hc])
    go_enter Tryd.func8, Tryd.ntmps8
    go_wp2
    all_goals (go_ret; exact ⟨rt_int (unhide HP).symm, rfl⟩)

set_option maxHeartbeats 400000 in
theorem at_any (l : List Int) (i : Nat) (v : Value) (w : World) (_hi : i ≤ 1000) (h : IntsAt w v l) :
    Calls Tryd.prog 5 #[v, .int .i64 i] w fun e w' => e = .returned (.int .i64 (atP l i)) ∧ w' = w := by
  obtain ⟨p, c, rfl, hcap, hl, hin, hr⟩ := h
  by_cases hlt : i < l.length
  · have HP := hide (show atP l i = l[i] by unfold atP; rw [List.getElem?_eq_getElem hlt]; rfl)
    rcases hr with ⟨rfl, _⟩ | ⟨b, o, rfl, hb, hc⟩
    · simp at hlt
    · have hck := hc i hlt
      clear hc hin
      go_enter Tryd.func5, Tryd.ntmps5
      go_wp2
      all_goals (go_ret; exact ⟨rt_int (unhide HP).symm, rfl⟩)
  · have HP := hide (show atP l i = 0 by unfold atP; rw [List.getElem?_eq_none (by omega)]; rfl)
    clear hr hin
    go_enter Tryd.func5, Tryd.ntmps5
    go_wp2
    all_goals (go_ret; exact ⟨rt_int (unhide HP).symm, rfl⟩)

set_option maxHeartbeats 400000 in
theorem sameNet_any (a b : Int × Int) (w : World) :
    Calls Tryd.prog 6 #[.agg #[.int .i64 a.1, .int .i64 a.2], .agg #[.int .i64 b.1, .int .i64 b.2]] w fun e w' => e = .returned (.bool (decide (a = b))) ∧ Below w.heap.size w w' := by
  obtain ⟨a1, a2⟩ := a
  obtain ⟨b1, b2⟩ := b
  simp only
  by_cases h1 : a1 = b1
  · have HP := hide (show decide ((a1, a2) = (b1, b2)) = (a2 == b2) by rw [Bool.eq_iff_iff]; simp [h1])
    have h1b : (a1 == b1) = true := beq_iff_eq.2 h1
    have H1 := hide h1
    clear h1
    go_enter Tryd.func6, Tryd.ntmps6
    go_wp2
    go_ret
    exact ⟨rt_bool (unhide HP).symm, by exact ((Below.refl _ _).alloc (Nat.le_refl _) _).alloc (by simp) _⟩
  · have HP := hide (show decide ((a1, a2) = (b1, b2)) = false by simp [h1])
    have h1b : (a1 == b1) = false := beq_eq_false_iff_ne.2 h1
    have H1 := hide h1
    clear h1
    go_enter Tryd.func6, Tryd.ntmps6
    go_wp2
    go_ret
    exact ⟨rt_bool (unhide HP).symm, by exact ((Below.refl _ _).alloc (Nat.le_refl _) _).alloc (by simp) _⟩

end Go.Proofs.YtjpajfbacmndfaaDoor
