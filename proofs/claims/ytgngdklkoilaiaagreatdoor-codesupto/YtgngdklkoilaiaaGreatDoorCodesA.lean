/- The argument of Codes, opened: a script of at most 1048576 values and letters, as it lies in memory. -/
import Derived.Test.YtgngdklkoilaiaaGreatDoorLawP
import Derived.Test.YtgngdklkoilaiaaGreatDoorRows
import Derived.WalkKit
import Derived.ProofKit
import Derived.OpenShut
import Derived.Deep.Slices
import Derived.Deep.SlicePairs
namespace Go.Proofs.YtgngdklkoilaiaaGreatDoor
open Go.ChangeShapes Go.WideShapes Go.ChangeAt Go.RowKit Go.Deep

namespace codes
theorem cellsInt : Tryz.prog.cellsOf 3 = 1 := by kernel_rfl
theorem cellsStr : Tryz.prog.cellsOf 9 = 1 := by kernel_rfl
theorem cellsInts : Tryz.prog.cellsOf 25 = 1 := by kernel_rfl
theorem cellsNets : Tryz.prog.cellsOf 24 = 1 := by kernel_rfl
theorem cellsNet : Tryz.prog.cellsOf 30 = 2 := by kernel_rfl
theorem cellsRoute : Tryz.prog.cellsOf 32 = 6 := by kernel_rfl
theorem cellsUpdate : Tryz.prog.cellsOf 27 = 6 := by kernel_rfl
theorem cellsOp : Tryz.prog.cellsOf 34 = 18 := by kernel_rfl

theorem bulk_pos {H : Type} (d : DataW H) : 1 ≤ Rows.uptoBulk d := by
  cases d with
  | lit l => cases l <;> simp [Rows.uptoBulk]
  | nil => simp [Rows.uptoBulk]
  | ptr d => simp [Rows.uptoBulk]
  | slice a b => simp [Rows.uptoBulk]
  | agg a => simp [Rows.uptoBulk]
  | iface t d => simp [Rows.uptoBulk]
  | map a => simp [Rows.uptoBulk]
  | held h => simp [Rows.uptoBulk]
theorem bulk_mem {H : Type} {d : DataW H} {l : List (DataW H)} (h : d ∈ l) : Rows.uptoBulk d ≤ Rows.uptoBulkAll l := by
  induction l with
  | nil => cases h
  | cons x r ih =>
    rw [Rows.uptoBulkAll]
    rcases List.mem_cons.1 h with e | e
    · subst e; omega
    · have := ih e; omega
theorem bulk_len {H : Type} (l : List (DataW H)) : l.length ≤ Rows.uptoBulkAll l := by
  induction l with
  | nil => simp
  | cons x r ih => rw [Rows.uptoBulkAll, List.length_cons]; have := bulk_pos x; omega
theorem inI_wf {n : Int} (h : (Lit.int .i64 n).wf = true) : inI n := by
  have h1 : IntKind.i64.min = -9223372036854775808 := rfl
  have h2 : IntKind.i64.max = 9223372036854775807 := rfl
  simp only [Lit.wf, Bool.and_eq_true, decide_eq_true_eq] at h
  unfold inI; omega
theorem cell_lt {w : World} {a : Addr} {v : Value} (h : w.cell? a = some v) : a.block < w.heap.size := by
  rcases Nat.lt_or_ge a.block w.heap.size with h' | h'
  · exact h'
  · simp [World.cell?, Array.getElem?_eq_none h'] at h
theorem lits_len {H : Type} (k : IntKind) (l : List Int) : (lits (H := H) k l).length = l.length := by simp [lits]

theorem ints {H : Type} {enc : TypeId × Value → H} {W : World} {fuel : Nat} {cs : List Value} {x : DataW H × List MemPlace}
    (h : DataW.trod enc Tryz.prog W 0 (fun _ => true) true fuel 25 cs = some x) (hb : Rows.uptoBulk x.1 ≤ 1048576) : ∃ v l, cs = [v] ∧ IntsAt W v l ∧ l.length ≤ 1048576 := by
  rcases open_ints Tryz.underlying25 Tryz.underlying3 cellsInt h with ⟨rfl, rfl⟩ | ⟨a, len, cap, zs, rfl, _, hl, hm, hzl, rfl, hcell, hwz⟩
  · exact ⟨_, [], rfl, ⟨none, 0, rfl, by simp, by simp, fun x hx => by simp at hx, Or.inl ⟨rfl, fun _ => rfl⟩⟩, by simp⟩
  · simp only [if_true] at hzl
    have hlt : (zs.take len).length = len := by rw [List.length_take]; omega
    have hbl : len ≤ 1048576 := by
      have h1 := bulk_len (lits (H := H) .i64 (zs.take len))
      rw [lits_len, hlt] at h1
      simp only [Rows.uptoBulk] at hb
      omega
    refine ⟨_, zs.take len, rfl, ⟨some a, cap, by rw [hlt], by omega, by omega, fun x hx => inI_wf (hwz x (List.mem_of_mem_take hx)), ?_⟩, by omega⟩
    by_cases hl0 : len = 0
    · subst hl0
      exact Or.inl ⟨by simp, fun h => by cases h⟩
    · obtain ⟨b, off, spot⟩ := a
      have hspot : spot = none := by simpa [Addr.add] using World.cell?_spot (hcell 0 (by omega))
      subst hspot
      have hc : ∀ j, j < zs.length → W.cell? ⟨b, off + j, none⟩ = some (.int .i64 (zs.getD j 0)) := fun j hj => by rw [← WideShapes.add_plain]; exact hcell j hj
      refine Or.inr ⟨b, off, rfl, cell_lt (hc 0 (by omega)), fun j hj => ?_⟩
      rw [hc j (by omega)]
      simp [List.getD, show j < zs.length by omega]
theorem nets {H : Type} {enc : TypeId × Value → H} {W : World} {fuel : Nat} {cs : List Value} {x : DataW H × List MemPlace}
    (h : DataW.trod enc Tryz.prog W 0 (fun _ => true) true fuel 24 cs = some x) (hb : Rows.uptoBulk x.1 ≤ 1048576) : ∃ v l, cs = [v] ∧ NetsAt W v l ∧ l.length ≤ 1048576 := by
  rcases open_slice_pairs Tryz.underlying24 Tryz.underlying30 cellsNet rfl rfl cellsInt cellsInt h with ⟨rfl, rfl⟩ | ⟨a, len, cap, m, n, V0, V1, D0, D1, P0, P1, rfl, _, hl, hm, hmm, rfl, hel⟩
  · exact ⟨_, [], rfl, ⟨none, 0, rfl, by simp, by simp, fun x hx => by simp at hx, Or.inl ⟨rfl, fun _ => rfl⟩⟩, by simp⟩
  · simp only [if_true] at hmm
    subst hmm
    have hbl : len ≤ 1048576 := by
      have h1 := bulk_len ((List.range len).map fun i => DataW.agg [D0 i, D1 i])
      rw [List.length_map, List.length_range] at h1
      simp only [Rows.uptoBulk] at hb
      omega
    have num : ∀ i, i < len → V0 i = .int .i64 (intOf (V0 i)) ∧ V1 i = .int .i64 (intOf (V1 i)) ∧ inI (intOf (V0 i)) ∧ inI (intOf (V1 i)) := fun i hi => by
      obtain ⟨_, _, t0, t1⟩ := hel i (by omega)
      obtain ⟨n0, e0, _, w0⟩ := DataW.trod_int Tryz.underlying3 t0
      obtain ⟨n1, e1, _, w1⟩ := DataW.trod_int Tryz.underlying3 t1
      simp only [List.cons.injEq, and_true] at e0 e1
      rw [e0, e1]
      exact ⟨rfl, rfl, inI_wf w0, inI_wf w1⟩
    have hlen : ((List.range len).map fun i => (intOf (V0 i), intOf (V1 i))).length = len := by simp
    refine ⟨_, (List.range len).map fun i => (intOf (V0 i), intOf (V1 i)), rfl, ⟨some a, m, by rw [hlen], by omega, by omega, fun x hx => ?_, ?_⟩, by omega⟩
    · obtain ⟨i, hi, rfl⟩ := List.mem_map.1 hx
      have := num i (List.mem_range.1 hi)
      exact ⟨this.2.2.1, this.2.2.2⟩
    · by_cases hl0 : len = 0
      · subst hl0
        exact Or.inl ⟨by simp, fun h => by cases h⟩
      · obtain ⟨b, off, spot⟩ := a
        have hspot : spot = none := by simpa [Addr.add] using World.cell?_spot (hel 0 (by omega)).1
        subst hspot
        have c0 : ∀ j, j < len → W.cell? ⟨b, off + j * 2, none⟩ = some (.int .i64 (intOf (V0 j))) := fun j hj => by rw [← WideShapes.add_plain, ← (num j hj).1]; exact (hel j (by omega)).1
        have c1 : ∀ j, j < len → W.cell? ⟨b, off + j * 2 + 1, none⟩ = some (.int .i64 (intOf (V1 j))) := fun j hj => by rw [Nat.add_assoc, ← WideShapes.add_plain, ← (num j hj).2.1]; exact (hel j (by omega)).2.1
        refine Or.inr ⟨b, off, rfl, cell_lt (c0 0 (by omega)), fun j hj => ?_⟩
        rw [hlen] at hj
        simp only [List.getElem_map, List.getElem_range]
        exact ⟨c0 j hj, c1 j hj⟩

theorem field {H : Type} {enc : TypeId × Value → H} {W : World} {fuel : Nat} {t : TypeId} {fs : Array Field} {cs : List Value} {x : DataW H × List MemPlace} (ht : Tryz.prog.underlying t = some (.struct fs))
    (h : DataW.trod enc Tryz.prog W 0 (fun _ => true) true fuel t cs = some x) (hb : Rows.uptoBulk x.1 ≤ 1048576) :
    cs.length = Tryz.prog.cellsOf t ∧ ∃ n, ∀ (i o k : Nat) (ty : TypeId), (fs[i]?).map (fun f => (f.offset, f.type)) = some (o, ty) → Tryz.prog.cellsOf ty = k → ∃ y, DataW.trod enc Tryz.prog W 0 (fun _ => true) true n ty ((cs.drop o).take k) = some y ∧ Rows.uptoBulk y.1 ≤ 1048576 := by
  obtain ⟨xs, n, _, rfl, hl, hlen, hf⟩ := DataW.trod_struct ht h
  refine ⟨hl, n, fun i o k ty hi0 hk => ?_⟩
  obtain ⟨f, hi, hoty⟩ := Option.map_eq_some_iff.1 hi0
  obtain ⟨rfl, rfl⟩ := Prod.mk.inj hoty
  subst hk
  have hlt : i < xs.length := by rw [hlen]; exact (Array.getElem?_eq_some_iff.1 hi).1
  refine ⟨xs[i], by rw [hf i f hi, List.getElem?_eq_getElem hlt], ?_⟩
  have hm : Rows.uptoBulk xs[i].1 ≤ Rows.uptoBulkAll (xs.map (fun x => x.1)) := bulk_mem (List.mem_map.2 ⟨xs[i], List.getElem_mem hlt, rfl⟩)
  simp only [Rows.uptoBulk] at hb
  omega
theorem int1 {H : Type} {enc : TypeId × Value → H} {W : World} {fuel : Nat} {cs : List Value} {x : DataW H × List MemPlace}
    (h : DataW.trod enc Tryz.prog W 0 (fun _ => true) true fuel 3 cs = some x) : ∃ n, cs = [.int .i64 n] ∧ inI n := by
  obtain ⟨n, e, _, w⟩ := DataW.trod_int Tryz.underlying3 h
  exact ⟨n, e, inI_wf w⟩
theorem intsSl {w : World} {v : Value} {l : List Int} (h : IntsAt w v l) : isSl v := by
  obtain ⟨p, c, rfl, _⟩ := h
  exact ⟨_, _, _, rfl⟩

set_option maxRecDepth 100000 in
/-- one step of a script -/
theorem op {H : Type} {enc : TypeId × Value → H} {W : World} {fuel : Nat} {cs : List Value} {x : DataW H × List MemPlace}
    (h : DataW.trod enc Tryz.prog W 0 (fun _ => true) true fuel 34 cs = some x) (hb : Rows.uptoBulk x.1 ≤ 1048576) : ∃ o, OpOk W o ∧ cs = (opC o).toList := by
  obtain ⟨hl, n, F⟩ := field Tryz.underlying34 h hb
  rw [cellsOp] at hl
  match cs, hl with
  | [c0, c1, c2, c3, c4, c5, c6, c7, c8, c9, c10, c11, c12, c13, c14, c15, c16, c17], _ =>
    obtain ⟨y0, h0, _⟩ := F 0 0 1 3 rfl cellsInt
    obtain ⟨y1, h1, _⟩ := F 1 1 1 3 rfl cellsInt
    obtain ⟨y2, h2, _⟩ := F 2 2 1 3 rfl cellsInt
    obtain ⟨y3, h3, b3⟩ := F 3 3 1 9 rfl cellsStr
    obtain ⟨y4, h4, b4⟩ := F 4 4 6 32 rfl cellsRoute
    obtain ⟨y5, h5, b5⟩ := F 5 10 6 27 rfl cellsUpdate
    obtain ⟨y6, h6, b6⟩ := F 6 16 1 25 rfl cellsInts
    obtain ⟨y7, h7, b7⟩ := F 7 17 1 25 rfl cellsInts
    clear F h hb
    simp only [List.drop, List.take] at h0 h1 h2 h3 h4 h5 h6 h7
    obtain ⟨kind, e0, _⟩ := int1 h0
    obtain ⟨oa, e1, i1⟩ := int1 h1
    obtain ⟨ob, e2, _⟩ := int1 h2
    obtain ⟨os, e3, rfl, _⟩ := DataW.trod_string Tryz.underlying9 h3
    obtain ⟨v16, l16, e16, n16, _⟩ := ints h6 b6
    obtain ⟨v17, l17, e17, n17, _⟩ := ints h7 b7
    obtain ⟨_, n4, F4⟩ := field Tryz.underlying32 h4 b4
    obtain ⟨z0, g0, d0⟩ := F4 0 0 2 30 rfl cellsNet
    obtain ⟨z1, g1, d1⟩ := F4 1 2 1 25 rfl cellsInts
    obtain ⟨z2, g2, d2⟩ := F4 2 3 1 25 rfl cellsInts
    obtain ⟨z3, g3, _⟩ := F4 3 4 1 3 rfl cellsInt
    obtain ⟨z4, g4, _⟩ := F4 4 5 1 3 rfl cellsInt
    obtain ⟨_, n5, F5⟩ := field Tryz.underlying27 h5 b5
    obtain ⟨u0, k0, m0⟩ := F5 0 0 1 24 rfl cellsNets
    obtain ⟨u1, k1, m1⟩ := F5 1 1 1 24 rfl cellsNets
    obtain ⟨u2, k2, m2⟩ := F5 2 2 1 25 rfl cellsInts
    obtain ⟨u3, k3, m3⟩ := F5 3 3 1 25 rfl cellsInts
    obtain ⟨u4, k4, _⟩ := F5 4 4 1 3 rfl cellsInt
    obtain ⟨u5, k5, _⟩ := F5 5 5 1 3 rfl cellsInt
    clear F4 F5 h4 h5
    simp only [List.drop, List.take] at g0 g1 g2 g3 g4 k0 k1 k2 k3 k4 k5
    obtain ⟨_, n6, F6⟩ := field Tryz.underlying30 g0 d0
    obtain ⟨q0, r0, _⟩ := F6 0 0 1 3 rfl cellsInt
    obtain ⟨q1, r1, _⟩ := F6 1 1 1 3 rfl cellsInt
    clear F6 g0
    simp only [List.drop, List.take] at r0 r1
    obtain ⟨na, e4, _⟩ := int1 r0
    obtain ⟨nl, e5, _⟩ := int1 r1
    obtain ⟨v6, l6, e6, n6', _⟩ := ints g1 d1
    obtain ⟨v7, l7, e7, n7, _⟩ := ints g2 d2
    obtain ⟨rpref, e8, _⟩ := int1 g3
    obtain ⟨rmed, e9, _⟩ := int1 g4
    obtain ⟨v10, l10, e10, n10, s10⟩ := nets k0 m0
    obtain ⟨v11, l11, e11, n11, s11⟩ := nets k1 m1
    obtain ⟨v12, l12, e12, n12, s12⟩ := ints k2 m2
    obtain ⟨v13, l13, e13, n13, s13⟩ := ints k3 m3
    obtain ⟨pref, e14, i14⟩ := int1 k4
    obtain ⟨med, e15, i15⟩ := int1 k5
    simp only [List.cons.injEq, and_true] at e0 e1 e2 e3 e4 e5 e6 e7 e8 e9 e10 e11 e12 e13 e14 e15 e16 e17
    subst e0 e1 e2 e3 e4 e5 e6 e7 e8 e9 e10 e11 e12 e13 e14 e15 e16 e17
    refine ⟨⟨kind, oa, ob, os, na, nl, c6, c7, rpref, rmed, c10, c11, c12, c13, ⟨l10, l11, l12, l13, pref, med⟩, c16, c17⟩, ?_, rfl⟩
    refine ⟨n10, n11, n12, n13, i14, i15, i1, intsSl n6', intsSl n7, intsSl n16, intsSl n17, ?_, ?_, ?_, ?_⟩
    · show l10.length + l11.length ≤ 4194304
      omega
    · show l12.length ≤ 16777216
      omega
    · show l13.length ≤ 16777216
      omega
    · show os.size ≤ 1048576
      simp only [Rows.uptoBulk, Array.length_toList] at b3
      have : os.size = os.data.size := rfl
      omega

theorem list_of {p : Nat → OpM → Prop} (n : Nat) (h : ∀ i, i < n → ∃ o, p i o) : ∃ S : List OpM, S.length = n ∧ ∀ j, (hj : j < S.length) → p j S[j] := by
  induction n with
  | zero => exact ⟨[], rfl, fun j hj => by simp at hj⟩
  | succ n ih =>
    obtain ⟨S, hl, hS⟩ := ih (fun i hi => h i (by omega))
    obtain ⟨o, ho⟩ := h n (by omega)
    refine ⟨S ++ [o], by simp [hl], fun j hj => ?_⟩
    by_cases hlt : j < S.length
    · rw [List.getElem_append_left hlt]; exact hS j hlt
    · have : j = n := by simp at hj; omega
      subst this
      rw [List.getElem_append_right (by omega)]
      simpa using ho

set_option maxRecDepth 100000 in
/-- THE SCRIPT -/
theorem script {H : Type} {enc : TypeId × Value → H} {W : World} {base : Nat} {v : Value} {d : DataW H} {p : List MemPlace} (hv : Value.okWide Tryz.prog W .any base 22 v)
    (h : DataW.Trod enc Tryz.prog W 0 (fun _ => true) true 22 v d p) (hb : Rows.uptoBulk d ≤ 1048576) : ∃ S, ScriptAt W v S := by
  obtain ⟨a0, len, cap, rfl⟩ := okWide_slice Tryz.underlying22 hv
  obtain ⟨fuel, hf⟩ := h
  rcases open_slice Tryz.underlying22 hf with ⟨hcs, hx⟩ | ⟨a, len', cap', m, n, D, Pl, hcs, _, hl, hm, hmm, hx, hel⟩
  · simp [Value.cells] at hcs
    obtain ⟨rfl, rfl, rfl⟩ := hcs
    exact ⟨[], none, 0, rfl, by simp, by simp, fun o ho => by simp at ho, Or.inl rfl⟩
  · simp [Value.cells] at hcs
    obtain ⟨rfl, rfl, rfl⟩ := hcs
    simp only [if_true] at hmm
    subst hmm
    simp only [Prod.mk.injEq] at hx
    obtain ⟨rfl, _⟩ := hx
    simp only [Rows.uptoBulk] at hb
    have hbl : len ≤ 1048576 := by
      have h1 := bulk_len ((List.range len).map D)
      rw [List.length_map, List.length_range] at h1
      omega
    rw [cellsOp] at hel
    obtain ⟨S, hSl, hS⟩ := list_of (p := fun i o => OpOk W o ∧ ∀ j, j < 18 → W.cell? ((a.add (i * 18)).add j) = (opC o)[j]?) len (fun i hi => by
      obtain ⟨cs', h1, h2⟩ := hel i (by omega)
      have hm : Rows.uptoBulk (D i) ≤ Rows.uptoBulkAll ((List.range len).map D) := bulk_mem (List.mem_map.2 ⟨i, List.mem_range.2 hi, rfl⟩)
      obtain ⟨o, ho, rfl⟩ := op h2 (by show Rows.uptoBulk (D i) ≤ 1048576; omega)
      obtain ⟨_, _, hcell⟩ := World.cells?_some h1
      exact ⟨o, ho, fun j hj => by rw [hcell j hj]; simp⟩)
    refine ⟨S, some a, m, by rw [hSl], by omega, by omega, fun o ho => ?_, ?_⟩
    · obtain ⟨j, hj, rfl⟩ := List.getElem_of_mem ho
      exact (hS j hj).1
    · by_cases hl0 : len = 0
      · exact Or.inl (List.eq_nil_of_length_eq_zero (by omega))
      · obtain ⟨b, off, spot⟩ := a
        have c00 := (hS 0 (by omega)).2 0 (by omega)
        have hspot : spot = none := by simpa [Addr.add] using World.cell?_spot c00
        subst hspot
        simp only [WideShapes.add_plain] at hS c00
        exact Or.inr ⟨b, off, rfl, cell_lt c00, fun j hj i hi => (hS j hj).2 i hi⟩
end codes
end Go.Proofs.YtgngdklkoilaiaaGreatDoor
