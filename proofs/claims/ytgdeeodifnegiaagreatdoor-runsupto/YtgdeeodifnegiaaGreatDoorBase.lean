/- Values, slices of ints in memory, rows of one's own: what hangs on no function. No walk here. -/
import Derived.Test.YtgdeeodifnegiaaGreatDoorRows
import Derived.Test.YtgdeeodifnegiaaGreatDoorHide
import Derived.Test.YtgdeeodifnegiaaGreatDoorPlainM
import Derived.Test.YtgdeeodifnegiaaGreatDoorMem
import Derived.Deep.QuietTactic
import Derived.BigQuiet
import Derived.Deep.AppendLies
namespace Go.Proofs.YtgdeeodifnegiaaGreatDoor
open Go.RowKit

theorem rt_int {k : IntKind} {a b : Int} (h : a = b) : Ending.returned (.int k a) = .returned (.int k b) := by rw [h]
theorem rt_bool {a b : Bool} (h : a = b) : Ending.returned (.bool a) = .returned (.bool b) := by rw [h]
theorem w64 {n : Int} (h : -9223372036854775808 ≤ n ∧ n ≤ 9223372036854775807) : wrap64 n = n := by unfold wrap64; omega
def inI (c : Int) : Prop := -9223372036854775808 ≤ c ∧ c ≤ 9223372036854775807

/-- a slice of ints that can be read -/
def IntsAt (w : World) (v : Value) (l : List Int) : Prop :=
  ∃ p c, v = .slice p l.length c ∧ l.length ≤ c ∧ (l.length : Int) ≤ 17592186044416 ∧ (∀ x ∈ l, inI x) ∧ ((l = [] ∧ (p = none → c = 0)) ∨ ∃ b o, p = some ⟨b, o, none⟩ ∧ b < w.heap.size ∧ ∀ j, (h : j < l.length) → w.cell? ⟨b, o + j, none⟩ = some (.int .i64 l[j]))
theorem bcell' {W w1 : World} (hb : Below W.heap.size W w1) : (∀ b o, b < W.heap.size → w1.cell? ⟨b, o, none⟩ = W.cell? ⟨b, o, none⟩) ∧ (∀ b o, b < W.heap.size → w1.frozen? ⟨b, o, none⟩ = W.frozen? ⟨b, o, none⟩) :=
  ⟨fun b o h => hb.cell (p := ⟨b, o, none⟩) h, fun b o h => hb.frozen (p := ⟨b, o, none⟩) h⟩
theorem IntsAt.below {w w' : World} {v : Value} {l : List Int} (h : IntsAt w v l) (hb : Below w.heap.size w w') : IntsAt w' v l := by
  obtain ⟨p, c, hv, hcap, hl, hin, hr⟩ := h
  refine ⟨p, c, hv, hcap, hl, hin, ?_⟩
  rcases hr with h | ⟨b, o, hp, hlt, hc⟩
  · exact Or.inl h
  · refine Or.inr ⟨b, o, hp, Nat.lt_of_lt_of_le hlt hb.size, fun j hj => ?_⟩
    rw [hb.cell (p := ⟨b, o + j, none⟩) hlt]; exact hc j hj
/-- a row of ints of one's own can be read -/
theorem IntsAt.own {w : World} {base : Nat} {v : Value} {l : List Int} (h : w.ownsRow base 3 1 v l.length (l.map (Value.int .i64))) (hin : ∀ x ∈ l, inI x) (hl : (l.length : Int) ≤ 17592186044416) : IntsAt w v l := by
  have hk := h
  obtain ⟨h1, h2⟩ := h
  rcases h2 with ⟨rfl, h0⟩ | ⟨g, cap, cur, rfl, hb, hg, hn, hm, hs, ht⟩
  · refine ⟨none, 0, by rw [h0], by omega, hl, hin, Or.inl ⟨List.length_eq_zero_iff.1 h0, fun _ => rfl⟩⟩
  · refine ⟨some ⟨g, 0, none⟩, cap, rfl, hn, hl, hin, Or.inr ⟨g, 0, rfl, heap_lt hg, fun j hj => ?_⟩⟩
    have h3 := hk.cells (g := g) rfl j (.int .i64 l[j]) (by simp [hj])
    rcases Nat.eq_zero_or_pos j with rfl | hj0
    · simpa [Addr.add] using h3
    · simpa [Addr.add, Nat.ne_of_gt hj0] using h3

theorem take_all_eq {a b : List Int} {k : Nat} (h : a.take k = b.take k) (ha : a.length ≤ k) (hb : b.length ≤ k) : a = b := by
  rwa [List.take_of_length_le ha, List.take_of_length_le hb] at h
theorem take_succ_eq {a b : List Int} {k : Nat} (h : a.take k = b.take k) (ha : k < a.length) (hb : k < b.length) (e : a[k] = b[k]) : a.take (k + 1) = b.take (k + 1) := by
  rw [List.take_succ_eq_append_getElem ha, List.take_succ_eq_append_getElem hb, h, e]

theorem Tryz.infoInt : (Tryz.prog.info? 3).map (fun i => (i.zero, i.size, i.bytes)) = some (some (.int .i64 0), 1, 8) := by kernel_rfl

theorem IntsAt.all {w : World} {v : Value} {l : List Int} (h : IntsAt w v l) : ∀ x ∈ l, inI x := by
  obtain ⟨p, c, hv, hcap, hl, hin, hr⟩ := h
  exact hin
/-- a slice of the rest -/
theorem IntsAt.drop {w : World} {p : Option Addr} {c n : Nat} {l : List Int} (h : IntsAt w (.slice p l.length c) l) (hn : n < l.length) :
    ∃ b o, p = some ⟨b, o, none⟩ ∧ b < w.heap.size ∧ IntsAt w (.slice (some ⟨b, o + n, none⟩) (l.length - n) (c - n)) (l.drop n) := by
  obtain ⟨p', c', hv, hcap, hl, hin, hr⟩ := h
  cases hv
  rcases hr with h | ⟨b, o, rfl, hb, hc⟩
  · rw [h.1] at hn; simp at hn
  · refine ⟨b, o, rfl, hb, some ⟨b, o + n, none⟩, c - n, by rw [List.length_drop], by rw [List.length_drop]; omega, by rw [List.length_drop]; omega, fun x hx => hin x (List.mem_of_mem_drop hx), Or.inr ⟨b, o + n, rfl, hb, fun j hj => ?_⟩⟩
    rw [List.length_drop] at hj
    rw [List.getElem_drop, Nat.add_assoc]; exact hc (n + j) (by omega)
theorem IntsAt.nil (w : World) (n : Nat) {l : List Int} (h : l.length ≤ n) : IntsAt w (.slice none 0 0) (l.drop n) := by
  have : l.drop n = [] := List.drop_eq_nil_of_le h
  rw [this]
  exact ⟨none, 0, rfl, by simp, by simp, by simp, Or.inl ⟨rfl, fun _ => rfl⟩⟩

theorem own_slice {w : World} {base : Nat} {e : TypeId} {size : Nat} {v : Value} {n : Nat} {xs : List Value} (h : w.ownsRow base e size v n xs) : ∃ q c, v = .slice q n c := by
  rcases h.2 with ⟨rfl, rfl⟩ | ⟨g, cap, cur, rfl, _⟩
  · exact ⟨_, _, rfl⟩
  · exact ⟨_, _, rfl⟩
theorem owns_base {w : World} {base b2 : Nat} {e : TypeId} {size : Nat} {v : Value} {n : Nat} {xs : List Value} (h : w.ownsRow base e size v n xs) (hb : b2 ≤ base) : w.ownsRow b2 e size v n xs := by
  refine ⟨h.1, ?_⟩
  rcases h.2 with h | ⟨g, cap, cur, hv, hg, r⟩
  · exact Or.inl h
  · exact Or.inr ⟨g, cap, cur, hv, Nat.le_trans hb hg, r⟩
theorem size_alloc_le {w w1 : World} {o : Obj} {n : Nat} (h : Below n (w.alloc o) w1) : w.heap.size + 1 ≤ w1.heap.size := by
  have := h.size; simp at this; exact this
end Go.Proofs.YtgdeeodifnegiaaGreatDoor

namespace Go.Proofs.YtgdeeodifnegiaaGreatDoor
open Go.RowKit
theorem tdiv_in {n k : Int} (h1 : -9223372036854775808 ≤ n) (h2 : n ≤ 9223372036854775807) (hk : 1 < k) : -9223372036854775808 ≤ n.tdiv k ∧ n.tdiv k ≤ 9223372036854775807 := by
  rcases Int.le_total 0 n with h | h
  · have := Int.tdiv_nonneg h (by omega : 0 ≤ k)
    have := Int.tdiv_le_self k h
    omega
  · have h3 : 0 ≤ (-n).tdiv k := Int.tdiv_nonneg (by omega) (by omega)
    have h4 : (-n).tdiv k ≤ -n := Int.tdiv_le_self k (by omega)
    rw [Int.neg_tdiv] at h3 h4
    omega
theorem pow_sz {s k : Int} (h : s ≤ k) (_hk : k ≤ 32) : (2 : Int) ^ (k + 1 - s).toNat = 2 * 2 ^ (k - s).toNat := by
  rw [show (k + 1 - s).toNat = (k - s).toNat + 1 by omega, Int.pow_succ, Int.mul_comm]
theorem pow_bd {s k : Int} (h : 0 ≤ s) (hk : k ≤ 32) : 0 < (2 : Int) ^ (k - s).toNat ∧ (2 : Int) ^ (k - s).toNat ≤ 4294967296 := by
  have hk : (k - s).toNat ≤ 32 := by omega
  generalize (k - s).toNat = m at hk
  have h2 : (2 : Int) ^ m ≤ 2 ^ 32 := by
    have h1 : (2 : Nat) ^ m ≤ 2 ^ 32 := Nat.pow_le_pow_right (by omega) hk
    exact_mod_cast h1
  exact ⟨Int.pow_pos (by omega), h2⟩


end Go.Proofs.YtgdeeodifnegiaaGreatDoor
