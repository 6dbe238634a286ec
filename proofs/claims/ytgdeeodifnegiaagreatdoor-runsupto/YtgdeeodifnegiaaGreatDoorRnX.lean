/- A policy of the document is run: a definition that is found. -/
import Derived.Test.YtgdeeodifnegiaaGreatDoorRnP
import Derived.BigRegion
namespace Go.Proofs.YtgdeeodifnegiaaGreatDoor.rf
open Go.RowKit

/-- a definition in memory -/
structure Found (w : World) (pb : Nat) (ds : List Df) (j : Nat) (d : Df) (g cap : Nat) (ro : Option Addr) (rc : Nat) (op text : ByteArray) (n a : Int) (ko : Option Addr) (kc kl : Nat) : Prop where
  pb_ : w.cell? ⟨pb, 0, none⟩ = some (.slice (some ⟨g, 0, none⟩) ds.length cap)
  lp : pb < w.heap.size
  lg : g < w.heap.size
  nm : w.cell? ⟨g, j * 10, none⟩ = some (.int .u8 d.name.kind) ∧ w.cell? ⟨g, j * 10 + 1, none⟩ = some (.string d.name.text) ∧ w.cell? ⟨g, j * 10 + 2, none⟩ = some (.int .i64 d.name.at_) ∧ w.cell? ⟨g, j * 10 + 3, none⟩ = some (.bool d.isWay)
  rg : w.cell? ⟨g, j * 10 + 4, none⟩ = some (.slice ro d.ranges.length rc)
  tr : w.cell? ⟨g, j * 10 + 5, none⟩ = some (.string op) ∧ w.cell? ⟨g, j * 10 + 6, none⟩ = some (.string text) ∧ w.cell? ⟨g, j * 10 + 7, none⟩ = some (.int .i64 n) ∧ w.cell? ⟨g, j * 10 + 8, none⟩ = some (.int .i64 a) ∧ w.cell? ⟨g, j * 10 + 9, none⟩ = some (.slice ko kc kl)
  own : w.ownsRow 0 233 6 (.slice ro d.ranges.length rc) d.ranges.length (rgCells d.ranges)
  way : ∃ Q, TrAt w Q d.way (treeV op text n a (.slice ko kc kl))
  defs : DefsIn w pb ds
  big : ds.length ≤ 1000000
theorem PolW.found {ds : List Df} {ks : List Tr} {tk : List Tok} {ln : List Bool} {sb pb : Nat} {w : World} (h : PolW ds ks tk ln sb pb w) {j : Nat} (hj : j < ds.length) : ∃ g cap ro rc op text n a ko kc kl, Found w pb ds j ds[j] g cap ro rc op text n a ko kc kl := by
  obtain ⟨K, hK, hP⟩ := h
  obtain ⟨hp, hl, _, dv, kv, tv, lv, xs, ys, hb, hd, _⟩ := hP w (Nat.le_refl _) (fun _ _ => rfl)
  have hc : w.cell? ⟨pb, 0, none⟩ = some dv := cell_of_heap hb
  obtain ⟨g, cap, hv, _, _⟩ := hd.own.form (by omega)
  obtain ⟨v, h1, h2, h3⟩ := hd.all.get j hj
  obtain ⟨ro, rc, op, text, n, a, ko, kc, kl, hvv, hown, htr⟩ := h2.parts
  have lg := (hd.own.lt g (by rw [hv]; rfl)).2
  have ho := hd.own
  rw [hv] at ho
  have key : ∀ i, i < 10 → w.cell? ⟨g, j * 10 + i, none⟩ = v[i]? := fun i hi => by
    rw [ho.cellAt (j * 10 + i) (by omega), h3 i hi]
  have k0 := key 0 (by omega)
  rw [Nat.add_zero] at k0
  subst hvv
  exact ⟨g, cap, ro, rc, op, text, n, a, ko, kc, kl, by rw [hc, hv], (hK pb hp).1, lg, ⟨k0, key 1 (by omega), key 2 (by omega), key 3 (by omega)⟩, key 4 (by omega), ⟨key 5 (by omega), key 6 (by omega), key 7 (by omega), key 8 (by omega), key 9 (by omega)⟩, hown, ⟨_, htr⟩, (hd.defsIn hc hl).1, hl⟩
theorem union_take {l : List Rg} {i : Nat} (h : i < l.length) (a b : Int) : unionM ((l.take (i + 1)).map rgSet) a b = (unionM ((l.take i).map rgSet) a b || rgSet l[i] a b) := by
  rw [List.take_succ_eq_append_getElem h, List.map_append]
  unfold unionM
  rw [List.any_append]
  simp only [List.map_cons, List.map_nil, List.any_cons, List.any_nil, Bool.or_false]
end Go.Proofs.YtgdeeodifnegiaaGreatDoor.rf
