/- Rows of nets and of bytes in memory; what a call of Encode and of Decode must do (package byway), said against the plain message. No walk here. -/
import Derived.Test.YtgdeeodifnegiaaGreatDoorBase
namespace Go.Proofs.YtgdeeodifnegiaaGreatDoor
open Go.RowKit

def netCells (l : List (Int × Int)) : List Value := l.flatMap fun x => [.int .i64 x.1, .int .i64 x.2]
theorem netCells_snoc (l : List (Int × Int)) (x : Int × Int) : netCells (l ++ [x]) = netCells l ++ [.int .i64 x.1, .int .i64 x.2] := by simp [netCells]
theorem netCells_len (l : List (Int × Int)) : (netCells l).length = l.length * 2 := by
  induction l with
  | nil => rfl
  | cons x l ih => simp only [netCells, List.flatMap_cons, List.length_append] at *; simp at *; omega
theorem netCells_get : ∀ (l : List (Int × Int)) (j : Nat) (h : j < l.length), (netCells l)[2 * j]? = some (.int .i64 l[j].1) ∧ (netCells l)[2 * j + 1]? = some (.int .i64 l[j].2) := by
  intro l
  induction l with
  | nil => intro j h; simp at h
  | cons x l ih =>
    intro j h
    cases j with
    | zero => exact ⟨rfl, rfl⟩
    | succ j =>
      have := ih j (by simpa using h)
      have e : netCells (x :: l) = .int .i64 x.1 :: .int .i64 x.2 :: netCells l := rfl
      rw [e, show 2 * (j + 1) = 2 * j + 1 + 1 by omega]
      simpa using this
/-- a slice of nets that can be read -/
def NetsAt (w : World) (v : Value) (l : List (Int × Int)) : Prop :=
  ∃ p c, v = .slice p l.length c ∧ l.length ≤ c ∧ (l.length : Int) ≤ 8796093022208 ∧ (∀ x ∈ l, inI x.1 ∧ inI x.2) ∧ ((l = [] ∧ (p = none → c = 0)) ∨ ∃ b o, p = some ⟨b, o, none⟩ ∧ b < w.heap.size ∧ ∀ j, (h : j < l.length) → w.cell? ⟨b, o + j * 2, none⟩ = some (.int .i64 l[j].1) ∧ w.cell? ⟨b, o + j * 2 + 1, none⟩ = some (.int .i64 l[j].2))
/-- a slice of bytes that can be read -/
def BytesAt (w : World) (v : Value) (l : List Int) : Prop :=
  ∃ p c, v = .slice p l.length c ∧ l.length ≤ c ∧ (l.length : Int) ≤ 140737488355328 ∧ bytesOk l ∧ ((l = [] ∧ (p = none → c = 0)) ∨ ∃ b o, p = some ⟨b, o, none⟩ ∧ b < w.heap.size ∧ ∀ j, (h : j < l.length) → w.cell? ⟨b, o + j, none⟩ = some (.int .u8 l[j]))
theorem NetsAt.below {w w' : World} {v : Value} {l : List (Int × Int)} (h : NetsAt w v l) (hb : Below w.heap.size w w') : NetsAt w' v l := by
  obtain ⟨p, c, hv, hcap, hl, hin, hr⟩ := h
  refine ⟨p, c, hv, hcap, hl, hin, ?_⟩
  rcases hr with h | ⟨b, o, hp, hlt, hc⟩
  · exact Or.inl h
  · refine Or.inr ⟨b, o, hp, Nat.lt_of_lt_of_le hlt hb.size, fun j hj => ?_⟩
    rw [hb.cell (p := ⟨b, o + j * 2, none⟩) hlt, hb.cell (p := ⟨b, o + j * 2 + 1, none⟩) hlt]; exact hc j hj
theorem BytesAt.below {w w' : World} {v : Value} {l : List Int} (h : BytesAt w v l) (hb : Below w.heap.size w w') : BytesAt w' v l := by
  obtain ⟨p, c, hv, hcap, hl, hin, hr⟩ := h
  refine ⟨p, c, hv, hcap, hl, hin, ?_⟩
  rcases hr with h | ⟨b, o, hp, hlt, hc⟩
  · exact Or.inl h
  · refine Or.inr ⟨b, o, hp, Nat.lt_of_lt_of_le hlt hb.size, fun j hj => ?_⟩
    rw [hb.cell (p := ⟨b, o + j, none⟩) hlt]; exact hc j hj
/-- rows of one's own -/
def OwnI (w : World) (base : Nat) (v : Value) (l : List Int) : Prop := w.ownsRow base 3 1 v l.length (l.map (Value.int .i64))
def OwnN (w : World) (base : Nat) (v : Value) (l : List (Int × Int)) : Prop := w.ownsRow base 25 2 v l.length (netCells l)
def OwnB (w : World) (base : Nat) (v : Value) (l : List Int) : Prop := w.ownsRow base 5 1 v l.length (l.map (Value.int .u8))
theorem addr_add (g j : Nat) : (⟨g, 0, none⟩ : Addr).add j = ⟨g, j, none⟩ := by
  rcases Nat.eq_zero_or_pos j with rfl | hj
  · simp [Addr.add]
  · simp [Addr.add, Nat.ne_of_gt hj]
theorem OwnN.at_ {w : World} {base : Nat} {v : Value} {l : List (Int × Int)} (h : OwnN w base v l) (hin : ∀ x ∈ l, inI x.1 ∧ inI x.2) (hl : (l.length : Int) ≤ 8796093022208) : NetsAt w v l := by
  have hk := h
  obtain ⟨h1, h2⟩ := h
  rcases h2 with ⟨rfl, h0⟩ | ⟨g, cap, cur, rfl, hb, hg, hn, hm, hs, ht⟩
  · refine ⟨none, 0, by rw [h0], by omega, hl, hin, Or.inl ⟨List.length_eq_zero_iff.1 h0, fun _ => rfl⟩⟩
  · refine ⟨some ⟨g, 0, none⟩, cap, rfl, hn, hl, hin, Or.inr ⟨g, 0, rfl, heap_lt hg, fun j hj => ?_⟩⟩
    obtain ⟨e1, e2⟩ := netCells_get l j hj
    have h3 := hk.cells (g := g) rfl _ _ e1
    have h4 := hk.cells (g := g) rfl _ _ e2
    rw [addr_add] at h3 h4
    rw [Nat.zero_add, Nat.mul_comm j 2]
    exact ⟨h3, h4⟩
theorem OwnB.at_ {w : World} {base : Nat} {v : Value} {l : List Int} (h : OwnB w base v l) (hin : bytesOk l) (hl : (l.length : Int) ≤ 140737488355328) : BytesAt w v l := by
  have hk := h
  obtain ⟨h1, h2⟩ := h
  rcases h2 with ⟨rfl, h0⟩ | ⟨g, cap, cur, rfl, hb, hg, hn, hm, hs, ht⟩
  · refine ⟨none, 0, by rw [h0], by omega, hl, hin, Or.inl ⟨List.length_eq_zero_iff.1 h0, fun _ => rfl⟩⟩
  · refine ⟨some ⟨g, 0, none⟩, cap, rfl, hn, hl, hin, Or.inr ⟨g, 0, rfl, heap_lt hg, fun j hj => ?_⟩⟩
    have h3 := hk.cells (g := g) rfl j (.int .u8 l[j]) (by simp [hj])
    rw [addr_add] at h3
    rw [Nat.zero_add]; exact h3
/-- different rows lie in different blocks -/
def Apart (a b : Value) : Prop := ∀ k, a.ownBlock = some k → b.ownBlock ≠ some k

def updV (vg vn vp vm : Value) (pref med : Int) : Value := .agg #[vg, vn, vp, vm, .int .i64 pref, .int .i64 med]
/-- what a call of Encode does, in every world behind w0 -/
def EncSaid (w0 : World) (f : FuncId) : Prop :=
  ∀ (w : World) (vg vn vp vm : Value) (u : Msg), Below w0.heap.size w0 w → NetsAt w vg u.gone → NetsAt w vn u.nets → IntsAt w vp u.path → IntsAt w vm u.marks → inI u.pref → inI u.med →
    Calls Tryz.prog f #[.agg #[vg, vn, vp, vm, .int .i64 u.pref, .int .i64 u.med]] w fun e w' => Below w.heap.size w w' ∧
      ∃ (v : Value) (l : List Int) (k : Int), e = .returned (.tuple #[v, .int .i64 k]) ∧ OwnB w' w.heap.size v l ∧ ((msgOk u ∧ l = encP u ∧ k = 0) ∨ (¬ msgOk u ∧ l = [] ∧ k = 5))
/-- what a call of Decode does, in every world behind w0 -/
def DecSaid (w0 : World) (f : FuncId) : Prop :=
  ∀ (w : World) (v : Value) (b : List Int), Below w0.heap.size w0 w → BytesAt w v b →
    Calls Tryz.prog f #[v] w fun e w' => Below w.heap.size w w' ∧
      ∃ vg vn vp vm, e = .returned (.tuple #[.agg #[vg, vn, vp, vm, .int .i64 (decM b).pref, .int .i64 (decM b).med], .int .i64 (decE b)]) ∧
        OwnN w' w.heap.size vg (decM b).gone ∧ OwnN w' w.heap.size vn (decM b).nets ∧ OwnI w' w.heap.size vp (decM b).path ∧ OwnI w' w.heap.size vm (decM b).marks ∧
        Apart vg vn ∧ Apart vg vp ∧ Apart vg vm ∧ Apart vn vp ∧ Apart vn vm ∧ Apart vp vm
end Go.Proofs.YtgdeeodifnegiaaGreatDoor
