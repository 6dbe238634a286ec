/- What a route is, plain, no program. -/
import Derived.Test.YtlhhdklendeikaaGreatDoorBase
namespace Go.Proofs.YtlhhdklendeikaaGreatDoor
open Go.RowKit

def netOkB (x : Int × Int) : Bool := decide (netOk x)
/-! ## rising marks, plain -/
theorem rises_snoc : ∀ (l : List Int) (n x : Int), rises n (l ++ [x]) ↔ rises n l ∧ x ≤ 65535 ∧ l.getLastD (n - 1) + 1 ≤ x := by
  intro l
  induction l with
  | nil => intro n x; simp [rises, risesB]; omega
  | cons y l ih =>
    intro n x
    rw [List.cons_append, rises_cons, rises_cons, ih (y + 1) x]
    have e : l.getLastD (y + 1 - 1) = (y :: l).getLastD (n - 1) := by
      rw [show y + 1 - 1 = y by omega]
      cases l with
      | nil => rfl
      | cons a b => simp [List.getLast?_cons]
    rw [e]
    constructor
    · rintro ⟨a, b, c, d, f⟩; exact ⟨⟨a, b, c⟩, d, f⟩
    · rintro ⟨⟨a, b, c⟩, d, f⟩; exact ⟨a, b, c, d, f⟩
theorem rises_take : ∀ (l : List Int) (n : Int) (k : Nat), rises n l → rises n (l.take k) := by
  intro l
  induction l with
  | nil => intro n k _; simp [rises, risesB]
  | cons y l ih =>
    intro n k h
    cases k with
    | zero => exact rises_nil _
    | succ k => have h := rises_cons.1 h; exact rises_cons.2 ⟨h.1, h.2.1, ih _ k h.2.2⟩
theorem getLastD_take {l : List Int} {k : Nat} (hk : k < l.length) (h0 : 0 < k) (d : Int) : (l.take k).getLastD d = l[k - 1] := by
  have h1 : k - 1 < l.length := by omega
  have h2 : l.take k = l.take (k - 1) ++ [l[k - 1]] := by
    have := List.take_succ_eq_append_getElem h1
    rwa [show k - 1 + 1 = k by omega] at this
  rw [h2, List.getLastD_concat]
/-- one mark more -/
def markStep (l : List Int) (k : Nat) (hk : k < l.length) : Prop := 0 ≤ l[k] ∧ l[k] ≤ 65535 ∧ (∀ h : 0 < k, l[k - 1]'(by omega) < l[k])
theorem rises_step {l : List Int} {k : Nat} (hk : k < l.length) : rises 0 (l.take (k + 1)) ↔ rises 0 (l.take k) ∧ markStep l k hk := by
  rw [List.take_succ_eq_append_getElem hk, rises_snoc]
  unfold markStep
  rcases Nat.eq_zero_or_pos k with rfl | h0
  · simp [rises, risesB]; omega
  · rw [getLastD_take hk h0]
    constructor
    · rintro ⟨a, b, c⟩
      have hp : 0 ≤ l[k - 1] := by
        have := rises_all a l[k - 1] (by
          have h2 := List.take_succ_eq_append_getElem (l := l) (i := k - 1) (by omega)
          rw [show k - 1 + 1 = k by omega] at h2
          rw [h2]; exact List.mem_append_right _ (List.mem_singleton.2 rfl))
        omega
      exact ⟨a, by omega, b, fun _ => by omega⟩
    · rintro ⟨a, b, c, d⟩
      exact ⟨a, c, by have := d h0; omega⟩
abbrev routeOk (x : Int × Int) (p m : List Int) (pref med : Int) : Prop := netOk x ∧ pathOk p ∧ marksOk m ∧ numOk pref ∧ numOk med
def pathOkB (p : List Int) : Bool := decide (pathOk p)
def marksOkB (m : List Int) : Bool := decide (marksOk m)
def numOkB (n : Int) : Bool := decide (numOk n)
theorem pathOkB_iff (p : List Int) : pathOkB p = true ↔ pathOk p := by unfold pathOkB; exact decide_eq_true_iff
theorem marksOkB_iff (m : List Int) : marksOkB m = true ↔ marksOk m := by unfold marksOkB; exact decide_eq_true_iff
def routeOkB (x : Int × Int) (p m : List Int) (pref med : Int) : Bool := decide (routeOk x p m pref med)
theorem routeOkB_no {x : Int × Int} {p m : List Int} {pref med : Int} (h : ¬ routeOk x p m pref med) : routeOkB x p m pref med = false := by unfold routeOkB; exact decide_eq_false h
theorem routeOkB_yes {x : Int × Int} {p m : List Int} {pref med : Int} (h : routeOk x p m pref med) : routeOkB x p m pref med = true := by unfold routeOkB; exact decide_eq_true h

end Go.Proofs.YtlhhdklendeikaaGreatDoor
