/- The raw numbers of bywaykeep (package bywaykeep): pick; sameNet, sameInts. -/
import Derived.Test.YtlhhdklendeikaaGreatDoorBase
namespace Go.Proofs.YtlhhdklendeikaaGreatDoor
open Go.RowKit
set_option maxHeartbeats 400000 in
theorem pick_any (c n : Int) (w : World) (h1 : -9223372036854775808 ≤ c) (h2 : c ≤ 9223372036854775807) (h3 : 0 < n) (h4 : n ≤ 4294967296) :
    Calls Tryz.prog 22 #[.int .i64 c, .int .i64 n] w fun e w' => e = .returned (.int .i64 (pickP c n)) ∧ w' = w := by
  have hz : (n == 0) = false := beq_eq_false_iff_ne.2 (by omega)
  by_cases hc : c < 0
  · have HP := hide (show pickP c n = -((c + 1).tmod n) by unfold pickP; rw [if_pos hc, ← Int.neg_tmod, Int.tmod_eq_emod_of_nonneg (by omega)])
    go_enter Tryz.func22, Tryz.ntmps22
    go_wp2
    all_goals (go_ret; exact ⟨rt_int (unhide HP).symm, rfl⟩)
  · have HP := hide (show pickP c n = c % n by unfold pickP; rw [if_neg hc])
    go_enter Tryz.func22, Tryz.ntmps22
    go_wp2
    all_goals (go_ret; exact ⟨rt_int (unhide HP).symm, rfl⟩)

set_option maxHeartbeats 400000 in
theorem sameNet_any (a b : Int × Int) (w : World) :
    Calls Tryz.prog 33 #[.agg #[.int .i64 a.1, .int .i64 a.2], .agg #[.int .i64 b.1, .int .i64 b.2]] w fun e w' => e = .returned (.bool (decide (a = b))) ∧ Below w.heap.size w w' := by
  obtain ⟨a1, a2⟩ := a
  obtain ⟨b1, b2⟩ := b
  simp only
  by_cases h1 : a1 = b1
  · have HP := hide (show decide ((a1, a2) = (b1, b2)) = (a2 == b2) by rw [Bool.eq_iff_iff]; simp [h1])
    have h1b : (a1 == b1) = true := beq_iff_eq.2 h1
    have H1 := hide h1
    clear h1
    go_enter Tryz.func33, Tryz.ntmps33
    go_wp2
    go_ret
    exact ⟨rt_bool (unhide HP).symm, by exact ((Below.refl _ _).alloc (Nat.le_refl _) _).alloc (by simp) _⟩
  · have HP := hide (show decide ((a1, a2) = (b1, b2)) = false by simp [h1])
    have h1b : (a1 == b1) = false := beq_eq_false_iff_ne.2 h1
    have H1 := hide h1
    clear h1
    go_enter Tryz.func33, Tryz.ntmps33
    go_wp2
    go_ret
    exact ⟨rt_bool (unhide HP).symm, by exact ((Below.refl _ _).alloc (Nat.le_refl _) _).alloc (by simp) _⟩

set_option maxHeartbeats 400000 in
theorem sameInts_any (a b : List Int) (x y : Value) (w : World) (ha : IntsAt w x a) (hb : IntsAt w y b) :
    Calls Tryz.prog 34 #[x, y] w fun e w' => e = .returned (.bool (decide (a = b))) ∧ Below w.heap.size w w' := by
  obtain ⟨p, c, rfl, hcap, hl, hin, hr⟩ := ha
  obtain ⟨q, d, rfl, hcap', hl', hin', hr'⟩ := hb
  by_cases hlen : a.length = b.length
  · have hne : ((a.length : Int) != (b.length : Int)) = false := by simp [hlen]
    have HL := hide hlen
    have hle : a.length ≤ b.length := by omega
    have hge : b.length ≤ a.length := by omega
    clear hlen hin hin'
    have HR := hide hr
    have HR' := hide hr'
    clear hr hr'
    go_enter Tryz.func34, Tryz.ntmps34
    go_wp2
    go_loopw [5] (fun i wr => ∃ k : Nat, k ≤ a.length ∧ a.take k = b.take k ∧ i = .int .i64 k ∧ Below w.heap.size w wr) (fun i _ => a.length - (intOf i).toNat)
    case atStart => exact ⟨0, Nat.zero_le _, rfl, rfl, Below.refl _ _⟩
    case round =>
      obtain ⟨k, hk, ht, rfl, hbl⟩ := hrel
      have HT := hide ht
      have HB := hide hbl
      clear ht hbl
      by_cases hlt : k < a.length
      · have hlt' : k < b.length := by omega
        rcases unhide HR with h | ⟨ba, oa, rfl, hba, hca⟩
        · rw [h.1] at hlt; simp at hlt
        rcases unhide HR' with h | ⟨bb, ob, rfl, hbb, hcb⟩
        · rw [h.1] at hlt'; simp at hlt'
        have c1 := ((unhide HB).cell (p := ⟨ba, oa + k, none⟩) hba).trans (hca k hlt)
        have c2 := ((unhide HB).cell (p := ⟨bb, ob + k, none⟩) hbb).trans (hcb k hlt')
        clear hca hcb
        cases he : (a[k] != b[k]) with
        | true =>
          have HN := hide (show decide (a = b) = false from by
            have h1 : a[k] ≠ b[k] := by simpa using he
            simp only [decide_eq_false_iff_not]
            intro h; subst h; exact h1 rfl)
          go_wp2_with fail
          go_quiet ((fail))
          go_wp2
          go_ret
          exact ⟨rt_bool (unhide HN).symm, by exact below_drewN (unhide HB) _⟩
        | false =>
          have HT2 := hide (take_succ_eq (unhide HT) hlt hlt' (by simpa using he))
          go_wp2_with fail
          go_quiet ((fail))
          go_wp2
          go_roundw
          case rel => exact ⟨k + 1, by omega, unhide HT2, by go_num, below_drewN (unhide HB) _⟩
          case measure => simp [intOf]; omega
      · go_wp2
        go_ret
        have hh := take_all_eq (unhide HT) (by omega) (by omega)
        exact ⟨rt_bool (by simp [hh]), unhide HB⟩
  · have hne : ((a.length : Int) != (b.length : Int)) = true := by rw [bne_iff_ne]; omega
    have HN := hide (show decide (a = b) = false from by simp; intro h; exact hlen (by rw [h]))
    clear hlen hin hin' hr hr'
    go_enter Tryz.func34, Tryz.ntmps34
    go_wp2
    go_ret
    exact ⟨rt_bool (unhide HN).symm, Below.refl _ _⟩

end Go.Proofs.YtlhhdklendeikaaGreatDoor
