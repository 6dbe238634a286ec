/- What a route is, plain, no program. -/
import Derived.Test.YtgdeeodifnegiaaGreatDoorBase
import Derived.Deep.RegionWith
import Derived.Deep.DeepCutAuto
import Derived.Deep.CutBlock
import Derived.Laws.BitsLemmas
import Derived.BigQuiet
namespace Go.Proofs.YtgdeeodifnegiaaGreatDoor
open Go.RowKit

def netOkB (x : Int × Int) : Bool := decide (netOk x)
/-! ## rising marks, plain -/
theorem rises_snoc : ∀ (l : List Int) (n x : Int), rises n (l ++ [x]) ↔ rises n l ∧ x ≤ 65535 ∧ l.getLastD (n - 1) + 1 ≤ x := by
  intro l
  induction l with
  | nil => intro n x; simp [rises, risesB]; omega
  | cons y l ih =>
    intro n x
    rw [List.cons_append, rises_cons, rises_cons, ih (y + 1) x]
    have e : l.getLastD (y + 1 - 1) = (y :: l).getLastD (n - 1) := by
      rw [show y + 1 - 1 = y by omega]
      cases l with
      | nil => rfl
      | cons a b => simp [List.getLast?_cons]
    rw [e]
    constructor
    · rintro ⟨a, b, c, d, f⟩; exact ⟨⟨a, b, c⟩, d, f⟩
    · rintro ⟨⟨a, b, c⟩, d, f⟩; exact ⟨a, b, c, d, f⟩
theorem rises_take : ∀ (l : List Int) (n : Int) (k : Nat), rises n l → rises n (l.take k) := by
  intro l
  induction l with
  | nil => intro n k _; simp [rises, risesB]
  | cons y l ih =>
    intro n k h
    cases k with
    | zero => exact rises_nil _
    | succ k => have h := rises_cons.1 h; exact rises_cons.2 ⟨h.1, h.2.1, ih _ k h.2.2⟩
theorem getLastD_take {l : List Int} {k : Nat} (hk : k < l.length) (h0 : 0 < k) (d : Int) : (l.take k).getLastD d = l[k - 1] := by
  have h1 : k - 1 < l.length := by omega
  have h2 : l.take k = l.take (k - 1) ++ [l[k - 1]] := by
    have := List.take_succ_eq_append_getElem h1
    rwa [show k - 1 + 1 = k by omega] at this
  rw [h2, List.getLastD_concat]
/-- one mark more -/
def markStep (l : List Int) (k : Nat) (hk : k < l.length) : Prop := 0 ≤ l[k] ∧ l[k] ≤ 65535 ∧ (∀ h : 0 < k, l[k - 1]'(by omega) < l[k])
theorem rises_step {l : List Int} {k : Nat} (hk : k < l.length) : rises 0 (l.take (k + 1)) ↔ rises 0 (l.take k) ∧ markStep l k hk := by
  rw [List.take_succ_eq_append_getElem hk, rises_snoc]
  unfold markStep
  rcases Nat.eq_zero_or_pos k with rfl | h0
  · simp [rises, risesB]; omega
  · rw [getLastD_take hk h0]
    constructor
    · rintro ⟨a, b, c⟩
      have hp : 0 ≤ l[k - 1] := by
        have := rises_all a l[k - 1] (by
          have h2 := List.take_succ_eq_append_getElem (l := l) (i := k - 1) (by omega)
          rw [show k - 1 + 1 = k by omega] at h2
          rw [h2]; exact List.mem_append_right _ (List.mem_singleton.2 rfl))
        omega
      exact ⟨a, by omega, b, fun _ => by omega⟩
    · rintro ⟨a, b, c, d⟩
      exact ⟨a, c, by have := d h0; omega⟩
abbrev routeOk (x : Int × Int) (p m : List Int) (pref med : Int) : Prop := netOk x ∧ pathOk p ∧ marksOk m ∧ numOk pref ∧ numOk med
def pathOkB (p : List Int) : Bool := decide (pathOk p)
def marksOkB (m : List Int) : Bool := decide (marksOk m)
def numOkB (n : Int) : Bool := decide (numOk n)
theorem pathOkB_iff (p : List Int) : pathOkB p = true ↔ pathOk p := by unfold pathOkB; exact decide_eq_true_iff
theorem marksOkB_iff (m : List Int) : marksOkB m = true ↔ marksOk m := by unfold marksOkB; exact decide_eq_true_iff
def routeOkB (x : Int × Int) (p m : List Int) (pref med : Int) : Bool := decide (routeOk x p m pref med)
theorem routeOkB_no {x : Int × Int} {p m : List Int} {pref med : Int} (h : ¬ routeOk x p m pref med) : routeOkB x p m pref med = false := by unfold routeOkB; exact decide_eq_false h
theorem routeOkB_yes {x : Int × Int} {p m : List Int} {pref med : Int} (h : routeOk x p m pref med) : routeOkB x p m pref med = true := by unfold routeOkB; exact decide_eq_true h

end Go.Proofs.YtgdeeodifnegiaaGreatDoor

namespace Go.Proofs.YtgdeeodifnegiaaGreatDoor
open Go.RowKit

theorem wraps_i64_62 (n : Int) (h₀ : 0 ≤ n) (h₁ : n < 2 ^ 62) : IntKind.i64.wrap n = n := by rw [IntKind.wrap_i64]; omega
theorem mask_of : ∀ l : Fin 33, (4294967295 : Int) / 2 ^ l.val = 2 ^ (32 - l.val) - 1 := by decide
theorem and_mask {a l : Int} (a0 : 0 ≤ a) (a1 : a ≤ 4294967295) (l0 : 0 ≤ l) (l1 : l ≤ 32) : bits .and .i64 a (4294967295 / 2 ^ l.toNat) = a % 2 ^ (32 - l).toNat := by
  have h := mask_of ⟨l.toNat, by omega⟩
  simp only at h
  rw [h, bits_mask .i64 62 (by decide) wraps_i64_62 (32 - l.toNat) (by omega) a a0 (by omega)]
  rw [show (32 - l).toNat = 32 - l.toNat by omega]

set_option maxRecDepth 100000 in
set_option maxHeartbeats 1600000 in
theorem Valid_any (x : Int × Int) (w : World) (h1 : inI x.1) (h2 : inI x.2) :
    Calls Tryz.prog 144 #[.agg #[.int .i64 x.1, .int .i64 x.2]] w fun e w' => e = .returned (.bool (netOkB x)) ∧ Below w.heap.size w w' := by
  obtain ⟨a, l⟩ := x
  unfold inI at h1 h2
  simp only at h1 h2 ⊢
  by_cases hz : 0 ≤ a ∧ a ≤ 4294967295 ∧ 0 ≤ l ∧ l ≤ 32
  · obtain ⟨x1, x2, x3, x4⟩ := hz
    have HN : Hid (netOkB (a, l) = (bits .and .i64 a (4294967295 / 2 ^ l.toNat) == 0)) := by
      unfold Hid netOkB netOk powP
      rw [and_mask x1 x2 x3 x4, Bool.eq_iff_iff]; simp [x1, x2, x3, x4]
    go_enter Tryz.func144, Tryz.ntmps144
    go_wp2_with fail
    go_quiet (fail)
    go_wp2
    go_ret
    exact ⟨rt_bool (unhide HN).symm, by exact below_drewN ((Below.refl _ _).alloc (Nat.le_refl _) _) _⟩
  · have HF : Hid (netOkB (a, l) = false) := by
      unfold Hid netOkB
      simp only [decide_eq_false_iff_not]
      intro ⟨⟨x1, x2⟩, ⟨x3, x4⟩, _⟩
      exact hz ⟨x1, x2, x3, x4⟩
    have hd : (decide (a < 0) || decide (4294967295 < a) || decide (l < 0) || decide (32 < l)) = true := by
      simp only [Bool.or_eq_true, decide_eq_true_eq]
      omega
    clear hz
    go_enter Tryz.func144, Tryz.ntmps144
    go_wp2
    all_goals
      go_ret
      exact ⟨rt_bool (unhide HF).symm, by exact (Below.refl _ _).alloc (Nat.le_refl _) _⟩

set_option maxHeartbeats 400000 in
theorem validNumber_any (n : Int) (w : World) :
    Calls Tryz.prog 147 #[.int .i64 n] w fun e w' => e = .returned (.bool (numOkB n)) ∧ w' = w := by
  by_cases h : 0 ≤ n
  · have HN := hide (show decide (n ≤ 4294967295) = numOkB n from by unfold numOkB; simp [h])
    have d : decide (0 ≤ n) = true := by simpa using h
    go_enter Tryz.func147, Tryz.ntmps147
    go_wp2
    go_ret
    exact ⟨rt_bool (unhide HN), rfl⟩
  · have HN := hide (show false = numOkB n from by unfold numOkB; simp [h])
    have d : decide (0 ≤ n) = false := by simpa using h
    go_enter Tryz.func147, Tryz.ntmps147
    go_wp2
    go_ret
    exact ⟨rt_bool (unhide HN), rfl⟩

set_option maxHeartbeats 800000 in
theorem ValidPath_any (p : List Int) (x : Value) (w : World) (hx : IntsAt w x p) :
    Calls Tryz.prog 145 #[x] w fun e w' => e = .returned (.bool (pathOkB p)) ∧ w' = w := by
  obtain ⟨q, c, rfl, hcap, hl, hin, hr⟩ := hx
  have HR := hide hr
  clear hr hin
  go_enter Tryz.func145, Tryz.ntmps145
  go_wp2
  go_loop [7] (fun i => ∃ k : Nat, k ≤ p.length ∧ i = .int .i64 k ∧ ∀ s ∈ p.take k, 1 ≤ s ∧ s ≤ 65535) (fun i => p.length - (intOf i).toNat)
  case atStart => exact ⟨0, Nat.zero_le _, rfl, by simp⟩
  case round =>
    obtain ⟨k, hk, rfl, hall⟩ := hrel
    have HALL := hide hall
    clear hall
    by_cases hlt : k < p.length
    · rcases unhide HR with h | ⟨b, o, rfl, hb, hc⟩
      · rw [h.1] at hlt; simp at hlt
      have d0 := hc k hlt
      clear hc
      by_cases y1 : p[k] < 1
      · have HF := hide (show pathOkB p = false from by refine decide_eq_false ?_; intro h; have := h.2 p[k] (List.getElem_mem _); omega)
        go_wp2
        go_ret
        exact ⟨rt_bool (unhide HF).symm, rfl⟩
      · by_cases y2 : 65535 < p[k]
        · have HF := hide (show pathOkB p = false from by refine decide_eq_false ?_; intro h; have := h.2 p[k] (List.getElem_mem _); omega)
          go_wp2
          go_ret
          exact ⟨rt_bool (unhide HF).symm, rfl⟩
        · have HALL2 := hide (show ∀ s ∈ p.take (k + 1), 1 ≤ s ∧ s ≤ 65535 from by
            rw [List.take_succ_eq_append_getElem hlt]
            intro s hs
            rcases List.mem_append.1 hs with hs | hs
            · exact unhide HALL s hs
            · simp only [List.mem_singleton] at hs; subst hs; omega)
          go_wp2_with fail
          go_round
          case rel => exact ⟨k + 1, by omega, by go_num, unhide HALL2⟩
          case measure => simp [intOf]; omega
    · have HE := hide (show decide ((p.length : Int) ≤ 12) = pathOkB p from by
        have := unhide HALL
        rw [List.take_of_length_le (by omega)] at this
        exact decide_eq_decide.2 ⟨fun h => (⟨by omega, this⟩ : pathOk p), fun h => by have := h.1; omega⟩)
      go_wp2
      go_ret
      exact ⟨rt_bool (unhide HE), rfl⟩

set_option maxHeartbeats 800000 in
theorem ValidMarks_any (m : List Int) (x : Value) (w : World) (hx : IntsAt w x m) :
    Calls Tryz.prog 146 #[x] w fun e w' => e = .returned (.bool (marksOkB m)) ∧ w' = w := by
  obtain ⟨q, c, rfl, hcap, hl, hin, hr⟩ := hx
  have HR := hide hr
  clear hr hin
  go_enter Tryz.func146, Tryz.ntmps146
  go_wp2
  go_loop [3, 8] (fun l i => ∃ (k : Nat) (L : Int), k ≤ m.length ∧ i = .int .i64 k ∧ l = .int .i64 L ∧ 0 ≤ L ∧ L ≤ 65536 ∧ rises 0 (m.take k) ∧ L = (m.take k).getLastD (-1) + 1) (fun _ i => m.length - (intOf i).toNat)
  case atStart => exact ⟨0, 0, Nat.zero_le _, rfl, rfl, by omega, by omega, rfl, rfl⟩
  case round =>
    obtain ⟨k, L, hk, rfl, rfl, hL0, hL1, hri, hLe⟩ := hrel
    have HRI := hide hri
    have HLE := hide hLe
    clear hri hLe
    by_cases hlt : k < m.length
    · rcases unhide HR with h | ⟨b, o, rfl, hb, hc⟩
      · rw [h.1] at hlt; simp at hlt
      have d0 := hc k hlt
      have HST := hide (show rises 0 (m.take (k + 1)) ↔ rises 0 (m.take k) ∧ m[k] ≤ 65535 ∧ L ≤ m[k] from by
        rw [List.take_succ_eq_append_getElem hlt, rises_snoc, unhide HLE]; exact Iff.rfl)
      have HNR : Hid (¬ (m[k] ≤ 65535 ∧ L ≤ m[k]) → marksOkB m = false) := fun hn => by
        refine decide_eq_false ?_
        intro h
        exact hn ((unhide HST).1 (rises_take m 0 (k + 1) h.2)).2
      have HLN := hide (show (m.take (k + 1)).getLastD (-1) + 1 = m[k] + 1 from by
        rw [List.take_succ_eq_append_getElem hlt, List.getLastD_concat])
      clear hc
      obtain ⟨X, hX⟩ : ∃ X, m[k] = X := ⟨_, rfl⟩
      rw [hX] at d0 HST HNR HLN
      clear hX
      by_cases y1 : X < L
      · have HF := hide (unhide HNR (by omega))
        go_wp2
        go_ret
        exact ⟨rt_bool (unhide HF).symm, rfl⟩
      · by_cases y2 : 65535 < X
        · have HF := hide (unhide HNR (by omega))
          go_wp2
          go_ret
          exact ⟨rt_bool (unhide HF).symm, rfl⟩
        · have HR2 := hide ((unhide HST).2 ⟨unhide HRI, by omega, by omega⟩)
          go_wp2_with fail
          go_round
          case rel => exact ⟨k + 1, X + 1, by omega, by go_num, by go_num, by omega, by omega, unhide HR2, (unhide HLN).symm⟩
          case measure => simp [intOf]; omega
    · have HE := hide (show decide ((m.length : Int) ≤ 8) = marksOkB m from by
        have := unhide HRI
        rw [List.take_of_length_le (by omega)] at this
        exact decide_eq_decide.2 ⟨fun h => (⟨by omega, this⟩ : marksOk m), fun h => by have := h.1; omega⟩)
      go_wp2
      go_ret
      exact ⟨rt_bool (unhide HE), rfl⟩

theorem routeOkB_and (x : Int × Int) (p m : List Int) (pref med : Int) : routeOkB x p m pref med = (netOkB x && (pathOkB p && (marksOkB m && (numOkB pref && numOkB med)))) := by
  unfold routeOkB netOkB pathOkB marksOkB numOkB
  rw [Bool.eq_iff_iff]
  simp only [Bool.and_eq_true, decide_eq_true_eq]
set_option maxRecDepth 100000 in
set_option maxHeartbeats 1600000 in
theorem RValid_any (x : Int × Int) (p m : List Int) (pref med : Int) (vp vm : Value) (w : World) (h1 : inI x.1) (h2 : inI x.2) (hp : IntsAt w vp p) (hm : IntsAt w vm m) :
    Calls Tryz.prog 93 #[.agg #[.int .i64 x.1, .int .i64 x.2, vp, vm, .int .i64 pref, .int .i64 med]] w fun e w' => e = .returned (.bool (routeOkB x p m pref med)) ∧ Below w.heap.size w w' := by
  rw [routeOkB_and]
  have HP := hide hp
  have HM := hide hm
  obtain ⟨pp, cp, rfl, -⟩ := hp
  obtain ⟨pm, cm, rfl, -⟩ := hm
  obtain ⟨a, l⟩ := x
  simp only at h1 h2
  go_enter Tryz.func93, Tryz.ntmps93
  go_wp2_with fail
  refine (Valid_any (a, l) _ h1 h2).mono ?_
  rintro e w1 ⟨rfl, hb1⟩
  have q0 : w1.heap[w.heap.size]? = some (.cells #[.int .i64 a, .int .i64 l, .slice pp p.length cp, .slice pm m.length cm, .int .i64 pref, .int .i64 med] 28 (0, 0)) := (hb1.block w.heap.size (by simp)).trans (heap_alloc_new w _)
  have b1 := hide (((Below.refl w.heap.size w).alloc (Nat.le_refl _) _).trans (hb1.mono (by simp)))
  have c2 : w1.cell? ⟨w.heap.size, 2, none⟩ = some (.slice pp p.length cp) := cell_of_heap q0
  have c3 : w1.cell? ⟨w.heap.size, 3, none⟩ = some (.slice pm m.length cm) := cell_of_heap q0
  have c4 : w1.cell? ⟨w.heap.size, 4, none⟩ = some (.int .i64 pref) := cell_of_heap q0
  have c5 : w1.cell? ⟨w.heap.size, 5, none⟩ = some (.int .i64 med) := cell_of_heap q0
  clear hb1 q0 h1 h2
  cases hN1 : netOkB (a, l) with
  | false =>
    have N1 := hide hN1
    clear hN1
    go_wp2
    go_ret
    exact ⟨rt_bool (by simp [unhide N1]), unhide b1⟩
  | true =>
    have N1 := hide hN1
    clear hN1
    go_wp2_with fail
    refine (ValidPath_any p _ _ ((unhide HP).below (unhide b1))).mono ?_
    rintro e w0 ⟨rfl, rfl⟩
    cases hN2 : pathOkB p with
    | false =>
      have N2 := hide hN2
      clear hN2
      go_wp2
      go_ret
      exact ⟨rt_bool (by simp [unhide N1, unhide N2]), unhide b1⟩
    | true =>
      have N2 := hide hN2
      clear hN2
      go_wp2_with fail
      refine (ValidMarks_any m _ _ ((unhide HM).below (unhide b1))).mono ?_
      rintro e w0 ⟨rfl, rfl⟩
      cases hN3 : marksOkB m with
      | false =>
        have N3 := hide hN3
        clear hN3
        go_wp2
        go_ret
        exact ⟨rt_bool (by simp [unhide N1, unhide N2, unhide N3]), unhide b1⟩
      | true =>
        have N3 := hide hN3
        clear hN3
        go_wp2_with fail
        refine (validNumber_any pref _).mono ?_
        rintro e w0 ⟨rfl, rfl⟩
        cases hN4 : numOkB pref with
        | false =>
          have N4 := hide hN4
          clear hN4
          go_wp2
          go_ret
          exact ⟨rt_bool (by simp [unhide N1, unhide N2, unhide N3, unhide N4]), unhide b1⟩
        | true =>
          have N4 := hide hN4
          clear hN4
          go_wp2_with fail
          refine (validNumber_any med _).mono ?_
          rintro e w0 ⟨rfl, rfl⟩
          go_wp2
          go_ret
          exact ⟨rt_bool (by simp [unhide N1, unhide N2, unhide N3, unhide N4]), unhide b1⟩
end Go.Proofs.YtgdeeodifnegiaaGreatDoor
