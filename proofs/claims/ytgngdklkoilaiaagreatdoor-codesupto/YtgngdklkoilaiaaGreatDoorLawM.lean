/- What came out is held against the document's answer (package bywaylaw): sameInts, sameNets, sameUpdate. -/
import Derived.Test.YtgngdklkoilaiaaGreatDoorLawK
namespace Go.Proofs.YtgngdklkoilaiaaGreatDoor
open Go.RowKit
set_option maxHeartbeats 400000 in
theorem sameIntsL_any (a b : List Int) (x y : Value) (w : World) (ha : IntsAt w x a) (hb : IntsAt w y b) :
    Calls Tryz.prog 85 #[x, y] w fun e w' => e = .returned (.bool (decide (a = b))) ∧ Below w.heap.size w w' := by
  obtain ⟨p, c, rfl, hcap, hl, hin, hr⟩ := ha
  obtain ⟨q, d, rfl, hcap', hl', hin', hr'⟩ := hb
  by_cases hlen : a.length = b.length
  · have hne : ((a.length : Int) != (b.length : Int)) = false := by simp [hlen]
    have HL := hide hlen
    have hle : a.length ≤ b.length := by omega
    have hge : b.length ≤ a.length := by omega
    clear hlen hin hin'
    have HR := hide hr
    have HR' := hide hr'
    clear hr hr'
    go_enter Tryz.func85, Tryz.ntmps85
    go_wp2
    go_loopw [5] (fun i wr => ∃ k : Nat, k ≤ a.length ∧ a.take k = b.take k ∧ i = .int .i64 k ∧ Below w.heap.size w wr) (fun i _ => a.length - (intOf i).toNat)
    case atStart => exact ⟨0, Nat.zero_le _, rfl, rfl, Below.refl _ _⟩
    case round =>
      obtain ⟨k, hk, ht, rfl, hbl⟩ := hrel
      have HT := hide ht
      have HB := hide hbl
      clear ht hbl
      by_cases hlt : k < a.length
      · have hlt' : k < b.length := by omega
        rcases unhide HR with h | ⟨ba, oa, rfl, hba, hca⟩
        · rw [h.1] at hlt; simp at hlt
        rcases unhide HR' with h | ⟨bb, ob, rfl, hbb, hcb⟩
        · rw [h.1] at hlt'; simp at hlt'
        have c1 := ((unhide HB).cell (p := ⟨ba, oa + k, none⟩) hba).trans (hca k hlt)
        have c2 := ((unhide HB).cell (p := ⟨bb, ob + k, none⟩) hbb).trans (hcb k hlt')
        clear hca hcb
        cases he : (a[k] != b[k]) with
        | true =>
          have HN := hide (show decide (a = b) = false from by
            have h1 : a[k] ≠ b[k] := by simpa using he
            simp only [decide_eq_false_iff_not]
            intro h; subst h; exact h1 rfl)
          go_wp2_with fail
          go_quiet ((fail))
          go_wp2
          go_ret
          exact ⟨rt_bool (unhide HN).symm, by exact below_drewN (unhide HB) _⟩
        | false =>
          have HT2 := hide (take_succ_eq (unhide HT) hlt hlt' (by simpa using he))
          go_wp2_with fail
          go_quiet ((fail))
          go_wp2
          go_roundw
          case rel => exact ⟨k + 1, by omega, unhide HT2, by go_num, below_drewN (unhide HB) _⟩
          case measure => simp [intOf]; omega
      · go_wp2
        go_ret
        have hh := take_all_eq (unhide HT) (by omega) (by omega)
        exact ⟨rt_bool (by simp [hh]), unhide HB⟩
  · have hne : ((a.length : Int) != (b.length : Int)) = true := by rw [bne_iff_ne]; omega
    have HN := hide (show decide (a = b) = false from by simp; intro h; exact hlen (by rw [h]))
    clear hlen hin hin' hr hr'
    go_enter Tryz.func85, Tryz.ntmps85
    go_wp2
    go_ret
    exact ⟨rt_bool (unhide HN).symm, Below.refl _ _⟩

set_option maxHeartbeats 800000 in
theorem sameNetsL_any (a : List (Int × Int)) (x y : Value) (w : World) (ha : NetsAt w x a) (hb : NetsAt w y a) :
    Calls Tryz.prog 86 #[x, y] w fun e w' => e = .returned (.bool true) ∧ Below w.heap.size w w' := by
  obtain ⟨p, c, rfl, hcap, hl, hin, hr⟩ := ha
  obtain ⟨q, d, rfl, hcap', hl', hin', hr'⟩ := hb
  clear hin hin'
  have HR := hide hr
  have HR' := hide hr'
  clear hr hr'
  go_enter Tryz.func86, Tryz.ntmps86
  go_wp2
  go_loopw [5] (fun i wr => ∃ k : Nat, k ≤ a.length ∧ i = .int .i64 k ∧ Below w.heap.size w wr) (fun i _ => a.length - (intOf i).toNat)
  case atStart => exact ⟨0, Nat.zero_le _, rfl, Below.refl _ _⟩
  case round =>
    obtain ⟨k, hk, rfl, hbl⟩ := hrel
    have HB := hide hbl
    clear hbl
    by_cases hlt : k < a.length
    · rcases unhide HR with h | ⟨ba, oa, rfl, hba, hca⟩
      · rw [h.1] at hlt; simp at hlt
      rcases unhide HR' with h | ⟨bb, ob, rfl, hbb, hcb⟩
      · rw [h.1] at hlt; simp at hlt
      have c1 := ((unhide HB).cell (p := ⟨ba, oa + k * 2, none⟩) hba).trans (hca k hlt).1
      have c2 := ((unhide HB).cell (p := ⟨ba, oa + k * 2 + 1, none⟩) hba).trans (hca k hlt).2
      have c3 := ((unhide HB).cell (p := ⟨bb, ob + k * 2, none⟩) hbb).trans (hcb k hlt).1
      have c4 := ((unhide HB).cell (p := ⟨bb, ob + k * 2 + 1, none⟩) hbb).trans (hcb k hlt).2
      clear hca hcb
      obtain ⟨X, hX⟩ : ∃ X, a[k] = X := ⟨_, rfl⟩
      rw [hX] at c1 c2 c3 c4
      clear hX
      go_wp2_with fail
      go_quiet ((fail))
      go_wp2
      go_roundw
      case rel => exact ⟨k + 1, by omega, by go_num, below_drewN (unhide HB) _⟩
      case measure => simp [intOf]; omega
    · go_wp2
      go_ret
      exact ⟨rfl, unhide HB⟩

set_option maxRecDepth 100000 in
set_option maxHeartbeats 1600000 in
theorem sameUpdateL_any (u : Msg) (ag an ap am bg bn bp bm : Value) (w : World) (h1 : NetsAt w ag u.gone) (h2 : NetsAt w an u.nets) (h3 : IntsAt w ap u.path) (h4 : IntsAt w am u.marks)
    (k1 : NetsAt w bg u.gone) (k2 : NetsAt w bn u.nets) (k3 : IntsAt w bp u.path) (k4 : IntsAt w bm u.marks) :
    Calls Tryz.prog 35 #[.agg #[ag, an, ap, am, .int .i64 u.pref, .int .i64 u.med], .agg #[bg, bn, bp, bm, .int .i64 u.pref, .int .i64 u.med]] w fun e w' => e = .returned (.bool true) ∧ Below w.heap.size w w' := by
  have H1 := hide h1
  have H2 := hide h2
  have H3 := hide h3
  have H4 := hide h4
  have K1 := hide k1
  have K2 := hide k2
  have K3 := hide k3
  have K4 := hide k4
  obtain ⟨p1, c1, rfl, -⟩ := h1
  obtain ⟨p2, c2, rfl, -⟩ := h2
  obtain ⟨p3, c3, rfl, -⟩ := h3
  obtain ⟨p4, c4, rfl, -⟩ := h4
  obtain ⟨r1, d1, rfl, -⟩ := k1
  obtain ⟨r2, d2, rfl, -⟩ := k2
  obtain ⟨r3, d3, rfl, -⟩ := k3
  obtain ⟨r4, d4, rfl, -⟩ := k4
  obtain ⟨wA, hwA⟩ : ∃ wA, w.alloc (.cells #[.slice p1 u.gone.length c1, .slice p2 u.nets.length c2, .slice p3 u.path.length c3, .slice p4 u.marks.length c4, .int .i64 u.pref, .int .i64 u.med] 27) = wA := ⟨_, rfl⟩
  have QA := heap_alloc_new w (.cells #[.slice p1 u.gone.length c1, .slice p2 u.nets.length c2, .slice p3 u.path.length c3, .slice p4 u.marks.length c4, .int .i64 u.pref, .int .i64 u.med] 27)
  have BA := (Below.refl w.heap.size w).alloc (Nat.le_refl _) (.cells #[.slice p1 u.gone.length c1, .slice p2 u.nets.length c2, .slice p3 u.path.length c3, .slice p4 u.marks.length c4, .int .i64 u.pref, .int .i64 u.med] 27)
  have sA : wA.heap.size = w.heap.size + 1 := by rw [← hwA]; simp
  rw [hwA] at QA BA
  obtain ⟨wB, hwB⟩ : ∃ wB, wA.alloc (.cells #[.slice r1 u.gone.length d1, .slice r2 u.nets.length d2, .slice r3 u.path.length d3, .slice r4 u.marks.length d4, .int .i64 u.pref, .int .i64 u.med] 27) = wB := ⟨_, rfl⟩
  have QB := heap_alloc_new wA (.cells #[.slice r1 u.gone.length d1, .slice r2 u.nets.length d2, .slice r3 u.path.length d3, .slice r4 u.marks.length d4, .int .i64 u.pref, .int .i64 u.med] 27)
  have BB := (Below.refl wA.heap.size wA).alloc (Nat.le_refl _) (.cells #[.slice r1 u.gone.length d1, .slice r2 u.nets.length d2, .slice r3 u.path.length d3, .slice r4 u.marks.length d4, .int .i64 u.pref, .int .i64 u.med] 27)
  rw [hwB, sA] at QB
  rw [hwB] at BB
  have QA2 := hide ((BB.block _ (heap_lt QA)).trans QA)
  have QB2 := hide QB
  have B2 := hide (BA.trans (BB.mono BA.size))
  have HWA := hide hwA
  have HWB := hide hwB
  have lA : w.heap.size < wB.heap.size := heap_lt (unhide QA2)
  have lB : w.heap.size + 1 < wB.heap.size := heap_lt QB
  clear QA QB BA BB sA hwA hwB
  go_enter Tryz.func35, Tryz.ntmps35
  go_wp2_with fail
  rw [unhide HWA, unhide HWB]
  refine (sameIntsL_any u.path u.path _ _ wB ((unhide H3).below (unhide B2)) ((unhide K3).below (unhide B2))).mono ?_
  rintro e w1 ⟨rfl, hb⟩
  have qa := (hb.block _ lA).trans (unhide QA2)
  have qb := (hb.block _ lB).trans (unhide QB2)
  have N1 := hide ((unhide B2).trans (hb.mono (unhide B2).size))
  have QAx1 := hide qa
  have QBx1 := hide qb
  have la1 : w.heap.size < w1.heap.size := heap_lt qa
  have lb1 : w.heap.size + 1 < w1.heap.size := heap_lt qb
  obtain ⟨a0, a1, a2, a3, a4, a5⟩ := six_cells qa
  obtain ⟨b0, b1, b2, b3, b4, b5⟩ := six_cells qb
  clear hb qa qb
  rw [show decide (u.path = u.path) = true from by simp]
  go_wp2_with fail
  clear a0 a1 a2 a3 a4 a5 b0 b1 b2 b3 b4 b5
  refine (sameIntsL_any u.marks u.marks _ _ w1 ((unhide H4).below (unhide N1)) ((unhide K4).below (unhide N1))).mono ?_
  rintro e w2 ⟨rfl, hb⟩
  have qa := (hb.block _ la1).trans (unhide QAx1)
  have qb := (hb.block _ lb1).trans (unhide QBx1)
  have N2 := hide ((unhide N1).trans (hb.mono (unhide N1).size))
  have QAx2 := hide qa
  have QBx2 := hide qb
  have la2 : w.heap.size < w2.heap.size := heap_lt qa
  have lb2 : w.heap.size + 1 < w2.heap.size := heap_lt qb
  obtain ⟨a0, a1, a2, a3, a4, a5⟩ := six_cells qa
  obtain ⟨b0, b1, b2, b3, b4, b5⟩ := six_cells qb
  clear hb qa qb
  rw [show decide (u.marks = u.marks) = true from by simp]
  go_wp2_with fail
  clear a0 a1 a2 a3 a4 a5 b0 b1 b2 b3 b4 b5
  refine (sameNetsL_any u.gone _ _ w2 ((unhide H1).below (unhide N2)) ((unhide K1).below (unhide N2))).mono ?_
  rintro e w3 ⟨rfl, hb⟩
  have qa := (hb.block _ la2).trans (unhide QAx2)
  have qb := (hb.block _ lb2).trans (unhide QBx2)
  have N3 := hide ((unhide N2).trans (hb.mono (unhide N2).size))
  have QAx3 := hide qa
  have QBx3 := hide qb
  have la3 : w.heap.size < w3.heap.size := heap_lt qa
  have lb3 : w.heap.size + 1 < w3.heap.size := heap_lt qb
  obtain ⟨a0, a1, a2, a3, a4, a5⟩ := six_cells qa
  obtain ⟨b0, b1, b2, b3, b4, b5⟩ := six_cells qb
  clear hb qa qb
  go_wp2_with fail
  clear a0 a1 a2 a3 a4 a5 b0 b1 b2 b3 b4 b5
  refine (sameNetsL_any u.nets _ _ w3 ((unhide H2).below (unhide N3)) ((unhide K2).below (unhide N3))).mono ?_
  rintro e w4 ⟨rfl, hb⟩
  have qa := (hb.block _ la3).trans (unhide QAx3)
  have qb := (hb.block _ lb3).trans (unhide QBx3)
  have N4 := hide ((unhide N3).trans (hb.mono (unhide N3).size))
  have QAx4 := hide qa
  have QBx4 := hide qb
  have la4 : w.heap.size < w4.heap.size := heap_lt qa
  have lb4 : w.heap.size + 1 < w4.heap.size := heap_lt qb
  obtain ⟨a0, a1, a2, a3, a4, a5⟩ := six_cells qa
  obtain ⟨b0, b1, b2, b3, b4, b5⟩ := six_cells qb
  clear hb qa qb
  go_wp2
  go_ret
  exact ⟨rfl, unhide N4⟩
end Go.Proofs.YtgngdklkoilaiaaGreatDoor
