/- The document's ways: ends at a choice, at a row (run.go). -/
import Derived.Test.YtgdeeodifnegiaaGreatDoorRnE
namespace Go.Proofs.YtgdeeodifnegiaaGreatDoor.rf
open Go.RowKit

theorem seg_cat {l : List Int} {i k j : Nat} (h1 : i ≤ k) (h2 : k ≤ j) (h3 : j ≤ l.length) : (l.take j).drop i = (l.take k).drop i ++ (l.take j).drop k := by
  have e : (l.take j).take k = l.take k := by rw [List.take_take]; congr 1; omega
  conv => lhs; rw [← List.take_append_drop k (l.take j), e]
  rw [List.drop_append_of_le_length (by simp; omega)]
theorem seg_len {l : List Int} {i j : Nat} (h3 : j ≤ l.length) : ((l.take j).drop i).length = j - i := by simp; omega
theorem like_or {l : List Int} {A B : WayM} {M E : Nat → Nat → Bool} (h : Like l A M) (g : Like l B E) : Like l (orL A B) (fun i j => M i j || E i j) := fun i j hi hj => by
  show (M i j || E i j) = true ↔ _
  rw [Bool.or_eq_true, h i j hi hj, g i j hi hj]
  constructor
  · rintro (⟨a, b⟩ | ⟨a, b⟩)
    · exact ⟨a, Or.inl b⟩
    · exact ⟨a, Or.inr b⟩
  · rintro ⟨a, b | b⟩
    · exact Or.inl ⟨a, b⟩
    · exact Or.inr ⟨a, b⟩
theorem like_no (l : List Int) : Like l (anyL []) (fun _ _ => false) := fun i j _ _ => by
  constructor
  · intro h; cases h
  · rintro ⟨_, h⟩; cases h
theorem like_nil (l : List Int) : Like l (rowL []) (fun i j => false || decide (i = j)) := fun i j hi hj => by
  show (false || decide (i = j)) = true ↔ i ≤ j ∧ (l.take j).drop i = []
  rw [Bool.false_or, decide_eq_true_eq]
  constructor
  · rintro rfl
    exact ⟨Nat.le_refl _, List.drop_eq_nil_of_le (by simp; omega)⟩
  · rintro ⟨h1, h2⟩
    have := seg_len (i := i) hj
    rw [h2] at this
    simp at this; omega
theorem like_cat {l : List Int} {A B : WayM} {M E : Nat → Nat → Bool} (h : Like l A M) (g : Like l B E) : Like l (catL A B) (cp M E (l.length + 1)) := fun i j hi hj => by
  unfold cp
  rw [List.any_eq_true]
  constructor
  · rintro ⟨k, hk, hm⟩
    have hk' : k ≤ l.length := by have := List.mem_range.1 hk; omega
    rw [Bool.and_eq_true, h i k hi hk', g k j hk' hj] at hm
    obtain ⟨⟨h1, h2⟩, h3, h4⟩ := hm
    exact ⟨by omega, _, _, seg_cat h1 h3 hj, h2, h4⟩
  · rintro ⟨hij, a, b, e, ha, hb⟩
    have hle := congrArg List.length e
    rw [seg_len hj, List.length_append] at hle
    have hk : i + a.length ≤ j := by omega
    have e2 := seg_cat (l := l) (i := i) (k := i + a.length) (by omega) hk hj
    rw [e] at e2
    have hla : a.length = ((l.take (i + a.length)).drop i).length := by rw [seg_len (by omega)]; omega
    obtain ⟨ea, eb⟩ := List.append_inj e2 hla
    refine ⟨i + a.length, List.mem_range.2 (by omega), ?_⟩
    rw [Bool.and_eq_true, h i _ hi (by omega), g _ j (by omega) hj]
    exact ⟨⟨by omega, by rw [← ea]; exact ha⟩, hk, by rw [← eb]; exact hb⟩
theorem any_snoc (ms : List WayM) (m : WayM) : anyL (ms ++ [m]) = orL (anyL ms) m := by simp [anyL]
theorem row_snoc (ms : List WayM) (m : WayM) : rowL (ms ++ [m]) = catL (rowL ms) m := by simp [rowL]
theorem Kids.below {w w' : World} {Q : Nat → Prop} {kids : List Tr} {kv : Value} {g : Nat} (h : Kids w Q kids kv g) (hb : Below w.heap.size w w') : Kids w' (fun k => Q k ∨ w.heap.size ≤ k) kids kv g := by
  refine ⟨h.sl, Nat.lt_of_lt_of_le h.lt hb.size, fun hh => ?_, fun i hi => ?_⟩
  · rcases hh with hh | hh
    · exact h.off hh
    · have := h.lt; omega
  · obtain ⟨a, b, c, d, e, h0, h1, h2, h3, h4, h5⟩ := h.at_ i hi
    have hc : ∀ o, w'.cell? ⟨g, o, none⟩ = w.cell? ⟨g, o, none⟩ := fun o => cell_same (hb.block g h.lt)
    exact ⟨a, b, c, d, e, (hc _).trans h0, (hc _).trans h1, (hc _).trans h2, (hc _).trans h3, (hc _).trans h4, TrAt.step (Fr.of_below (O := nF) hb) (fun k hk => hk.elim) (fun k hk => hk) _ _ h5⟩
/-- what is written into a grid's own rows leaves older blocks -/
theorem below_in {w W W' : World} {n : Nat} {v : Value} {bs : List Nat} {M : Nat → Nat → Bool} (hb : Below w.heap.size w W) (hg : Grid W w.heap.size n v bs M) (hf : Fr (In bs) W (In bs) W') : Below w.heap.size w W' :=
  ⟨hf.os.trans hb.os, hf.tape.trans hb.tape, hf.output.trans hb.output, Nat.le_trans hb.size hf.size, fun k hk => (hf.block k (Nat.lt_of_lt_of_le hk hb.size) (fun hm => by
    obtain ⟨i, hi, rfl⟩ := List.getElem_of_mem hm
    have := (hg.rows i hi).1
    omega)).trans (hb.block k hk)⟩
theorem Grid.later {w w' : World} {base n : Nat} {v : Value} {bs : List Nat} {M : Nat → Nat → Bool} (h : Grid w base n v bs M) (hb : Below w.heap.size w w') : Grid w' base n v bs M := h.keep (fun k hk _ => hb.block k hk)
theorem Grid.lower {w : World} {base base' n : Nat} {v : Value} {bs : List Nat} {M : Nat → Nat → Bool} (h : Grid w base n v bs M) (hb : base' ≤ base) : Grid w base' n v bs M :=
  ⟨h.own, fun k hk => Nat.le_trans hb (h.new k hk), h.off, h.nd, fun i hi => ⟨Nat.le_trans hb (h.rows i hi).1, (h.rows i hi).2⟩⟩
/-- two grids, the one made later -/
theorem Grid.apart {w w' : World} {base n : Nat} {v u : Value} {bs cs : List Nat} {M E : Nat → Nat → Bool} (h : Grid w base n v bs M) (g : Grid w' w.heap.size n u cs E) : ∀ b ∈ bs, b ∉ cs ∧ u.ownBlock ≠ some b := fun b hb => by
  obtain ⟨i, hi, rfl⟩ := List.getElem_of_mem hb
  have hlt := heap_lt (h.rows i hi).2
  refine ⟨fun hc => ?_, fun e => ?_⟩
  · obtain ⟨j, hj, e⟩ := List.getElem_of_mem hc
    have := (g.rows j hj).1
    omega
  · have := g.new _ e
    omega
set_option maxRecDepth 100000 in
set_option maxHeartbeats 6400000 in
theorem ends_either {ks : List Tr} {ms : List WayM} (hlen : ks.length = ms.length) (IK : ∀ i, (h : i < ks.length) → (h' : i < ms.length) → EndsR ks[i] ms[i]) : EndsR (.mk wEither nB 0 0 ks) (anyL ms) := by
  intro w Q v l pv ht ho hl
  obtain ⟨op, hop⟩ : ∃ op, wEither = op := ⟨_, rfl⟩
  have e0 : (op.toList == [110, 117, 109, 98, 101, 114]) = false := by rw [← hop]; decide +kernel
  have e1 : (op.toList == [46]) = false := by rw [← hop]; decide +kernel
  have e2 : (op.toList == [101, 105, 116, 104, 101, 114]) = true := by rw [← hop]; decide +kernel
  rw [hop] at ht
  have HT := hide ht
  rw [TrAt] at ht
  obtain ⟨kv, xs, rfl, hko, _, _⟩ := ht
  have hkmax : ks.length ≤ 9223372036854775807 := by
    rcases hko.2 with ⟨_, e⟩ | ⟨_, cap, _, _, _, _, h3, h4, _⟩
    · omega
    · unfold maxLen at h4; omega
  obtain ⟨ko, kc, rfl⟩ := owns_sl hko
  obtain ⟨po, pc, rfl⟩ := owns_sl ho
  have hA : Below w.heap.size w (w.alloc (.cells (treeCells op nB 0 0 (.slice ko ks.length kc)) 115)) := (Below.refl _ _).alloc (Nat.le_refl _) _
  have q0 : (w.alloc (.cells (treeCells op nB 0 0 (.slice ko ks.length kc)) 115)).heap[w.heap.size]? = some (.cells (treeCells op nB 0 0 (.slice ko ks.length kc)) 115 (0, 0)) := heap_alloc_new _ _
  obtain ⟨WA, hWA⟩ : ∃ WA, w.alloc (.cells (treeCells op nB 0 0 (.slice ko ks.length kc)) 115) = WA := ⟨_, rfl⟩
  have HWA := hide hWA
  rw [hWA] at hA q0
  have lA : w.heap.size < WA.heap.size := heap_lt q0
  have HA := hide hA
  have Q0 := hide q0
  have HO := hide ho
  have HIK := hide IK
  have HLEN := hide hlen
  clear hWA hA q0 ho hop hko IK hlen
  go_enter Tryz.func195, Tryz.ntmps195
  go_upto_region 1 with fail
  rw [unhide HWA]
  go_wp2_with fail
  rw [show ((l.length : Int) + 1) = ((l.length + 1 : Nat) : Int) from by omega]
  refine (nowhere_any WA (l.length + 1) (by omega)).mono ?_
  rintro e w1 ⟨z, bs, rfl, hb1, hbl, hg1⟩
  obtain ⟨zo, zc, rfl⟩ := owns_sl hg1.own
  rw [hbl] at hg1 ⊢
  have c0 : w1.cell? ⟨w.heap.size, 0, none⟩ = some (.string op) := (hb1.cell (p := ⟨w.heap.size, 0, none⟩) lA).trans (cell_of_heap (unhide Q0))
  have HB1 := hide hb1
  have HG1 := hide hg1
  have l1 : w.heap.size < w1.heap.size := Nat.lt_of_lt_of_le lA hb1.size
  clear hb1 hg1
  go_wp2_with fail
  go_loopg [7] ks.length (fun k b7 wr => ∃ (i : Nat) (M : Nat → Nat → Bool), i + k = ks.length ∧ b7 = .int .i64 i ∧ Below WA.heap.size WA wr ∧ Grid wr WA.heap.size (l.length + 1) (.slice zo (l.length + 1) zc) bs M ∧ Like l (anyL (ms.take i)) M)
  case atStart => exact ⟨0, _, by omega, rfl, unhide HB1, unhide HG1, like_no l⟩
  case round =>
    clear HB1 HG1 c0 l1
    obtain ⟨i, M, hik, rfl, hb, hg, hlk⟩ := hrel
    have HB := hide hb
    have HG := hide hg
    have HLK := hide hlk
    have c4 : wr.cell? ⟨w.heap.size, 4, none⟩ = some (.slice ko ks.length kc) := (hb.cell (p := ⟨w.heap.size, 4, none⟩) lA).trans (cell_of_heap (unhide Q0))
    have lw : w.heap.size < wr.heap.size := Nat.lt_of_lt_of_le lA hb.size
    have hw := ((unhide HA).trans (hb.mono (unhide HA).size))
    by_cases hi : i < ks.length
    · obtain ⟨kv', g, ev, hk⟩ := (unhide HT).kids (fun e => by rw [e] at hi; simp at hi)
      obtain rfl : kv' = .slice ko ks.length kc := by simp at ev; exact ev.symm
      have hkr := hk.below hw
      obtain ⟨cap, hcap⟩ := hkr.sl
      simp only [Value.slice.injEq] at hcap
      obtain ⟨rfl, -, rfl⟩ := hcap
      obtain ⟨a0, a1, a2, a3, a4, y0, y1, y2, y3, y4, tk⟩ := hkr.at_ i hi
      have lg := hkr.lt
      have CALL := hide (unhide HIK i hi (by have := unhide HLEN; omega) wr _ _ l _ tk (owns_of (unhide HO) (fun k hk => hw.block k ((unhide HO).lt k hk).2)) hl)
      have TKE := hide (show anyL (ms.take (i + 1)) = orL (anyL (ms.take i)) (ms[i]'(by have := unhide HLEN; omega)) from by rw [← any_snoc, List.take_add_one, List.getElem?_eq_getElem (by have := unhide HLEN; omega)]; rfl)
      clear hb hg hlk hw hk hkr tk ev
      go_wp2_with fail
      refine (unhide CALL).mono ?_
      rintro e w2 ⟨z2, cs, E, rfl, hb2, hcl, hg2, hlk2⟩
      have hgo := (unhide HG).later hb2
      have MC := hide (merge_any hgo hg2 hbl hcl (by omega) ((unhide HG).apart hg2))
      have L2 := hide (like_or (unhide HLK) hlk2)
      have HB2 := hide ((unhide HB).trans (hb2.mono (unhide HB).size))
      have HG2 := hide hgo
      clear hb2 hg2 hgo hlk2 CALL y0 y1 y2 y3 y4 c4
      go_wp2_with fail
      refine (unhide MC).mono ?_
      rintro e w3 ⟨x, rfl, _, hg3, _, hf3⟩
      have FIN := hide (And.intro (below_in (unhide HB2) (unhide HG2) hf3) hg3)
      clear hg3 hf3 MC
      go_wp2_with fail
      go_roundg (ks.length - (i + 1))
      case measure => omega
      case rel => exact ⟨i + 1, _, by omega, by go_num, (unhide FIN).1, (unhide FIN).2, by rw [unhide TKE]; exact unhide L2⟩
    · have hin : i = ms.length := by have := unhide HLEN; omega
      have FIN := hide (show Below w.heap.size w wr ∧ Grid wr w.heap.size (l.length + 1) (.slice zo (l.length + 1) zc) bs M ∧ Like l (anyL ms) M from ⟨hw, hg.lower (unhide HA).size, by rw [hin, List.take_length] at hlk; exact hlk⟩)
      clear hb hg hlk hw
      go_wp2_with fail
      go_ret
      exact ⟨_, bs, _, rfl, (unhide FIN).1, hbl, (unhide FIN).2.1, (unhide FIN).2.2⟩
set_option maxRecDepth 100000 in
set_option maxHeartbeats 6400000 in
theorem ends_row {ks : List Tr} {ms : List WayM} (hlen : ks.length = ms.length) (IK : ∀ i, (h : i < ks.length) → (h' : i < ms.length) → EndsR ks[i] ms[i]) : EndsR (.mk wRow nB 0 0 ks) (rowL ms) := by
  intro w Q v l pv ht ho hl
  obtain ⟨op, hop⟩ : ∃ op, wRow = op := ⟨_, rfl⟩
  have e0 : (op.toList == [110, 117, 109, 98, 101, 114]) = false := by rw [← hop]; decide +kernel
  have e1 : (op.toList == [46]) = false := by rw [← hop]; decide +kernel
  have e2 : (op.toList == [101, 105, 116, 104, 101, 114]) = false := by rw [← hop]; decide +kernel
  have e3 : (op.toList == [114, 111, 119]) = true := by rw [← hop]; decide +kernel
  rw [hop] at ht
  have HT := hide ht
  rw [TrAt] at ht
  obtain ⟨kv, xs, rfl, hko, _, _⟩ := ht
  have hkmax : ks.length ≤ 9223372036854775807 := by
    rcases hko.2 with ⟨_, e⟩ | ⟨_, cap, _, _, _, _, h3, h4, _⟩
    · omega
    · unfold maxLen at h4; omega
  obtain ⟨ko, kc, rfl⟩ := owns_sl hko
  obtain ⟨po, pc, rfl⟩ := owns_sl ho
  have hA : Below w.heap.size w (w.alloc (.cells (treeCells op nB 0 0 (.slice ko ks.length kc)) 115)) := (Below.refl _ _).alloc (Nat.le_refl _) _
  have q0 : (w.alloc (.cells (treeCells op nB 0 0 (.slice ko ks.length kc)) 115)).heap[w.heap.size]? = some (.cells (treeCells op nB 0 0 (.slice ko ks.length kc)) 115 (0, 0)) := heap_alloc_new _ _
  obtain ⟨WA, hWA⟩ : ∃ WA, w.alloc (.cells (treeCells op nB 0 0 (.slice ko ks.length kc)) 115) = WA := ⟨_, rfl⟩
  have HWA := hide hWA
  rw [hWA] at hA q0
  have lA : w.heap.size < WA.heap.size := heap_lt q0
  have HA := hide hA
  have Q0 := hide q0
  have HO := hide ho
  have HIK := hide IK
  have HLEN := hide hlen
  clear hWA hA q0 ho hop hko IK hlen
  go_enter Tryz.func195, Tryz.ntmps195
  go_upto_region 1 with fail
  rw [unhide HWA]
  go_wp2_with fail
  rw [show ((l.length : Int) + 1) = ((l.length + 1 : Nat) : Int) from by omega]
  refine (nowhere_any WA (l.length + 1) (by omega)).mono ?_
  rintro e w1 ⟨z, bs, rfl, hb1, hbl, hg1⟩
  obtain ⟨zo, zc, rfl⟩ := owns_sl hg1.own
  rw [hbl] at hg1 ⊢
  have c0 : w1.cell? ⟨w.heap.size, 0, none⟩ = some (.string op) := (hb1.cell (p := ⟨w.heap.size, 0, none⟩) lA).trans (cell_of_heap (unhide Q0))
  have HB1 := hide hb1
  have HG1 := hide hg1
  have l1 : w.heap.size < w1.heap.size := Nat.lt_of_lt_of_le lA hb1.size
  have SC := hide (stay_any hg1 hbl (by omega))
  clear hb1 hg1
  go_wp2_with fail
  refine (unhide SC).mono ?_
  rintro e w1' ⟨rfl, hgs, hfs⟩
  have HB2 := hide (below_in (unhide HB1) (unhide HG1) hfs)
  have HG2 := hide hgs
  clear hgs hfs SC HB1 HG1 c0 l1
  go_wp2_with fail
  go_loopg [5, 9] ks.length (fun k b5 b9 wr => ∃ (i : Nat) (M : Nat → Nat → Bool) (zo : Option Addr) (zc : Nat) (bs : List Nat), i + k = ks.length ∧ b9 = .int .i64 i ∧ b5 = .slice zo (l.length + 1) zc ∧ bs.length = l.length + 1 ∧ Below WA.heap.size WA wr ∧ Grid wr WA.heap.size (l.length + 1) (.slice zo (l.length + 1) zc) bs M ∧ Like l (rowL (ms.take i)) M)
  case atStart => exact ⟨0, _, zo, zc, bs, by omega, rfl, rfl, hbl, unhide HB2, unhide HG2, like_nil l⟩
  case round =>
    clear HB2 HG2 hbl
    obtain ⟨i, M, zo, zc, bs, hik, rfl, rfl, hbl, hb, hg, hlk⟩ := hrel
    have HB := hide hb
    have HG := hide hg
    have HLK := hide hlk
    have c4 : wr.cell? ⟨w.heap.size, 4, none⟩ = some (.slice ko ks.length kc) := (hb.cell (p := ⟨w.heap.size, 4, none⟩) lA).trans (cell_of_heap (unhide Q0))
    have lw : w.heap.size < wr.heap.size := Nat.lt_of_lt_of_le lA hb.size
    have hw := ((unhide HA).trans (hb.mono (unhide HA).size))
    by_cases hi : i < ks.length
    · obtain ⟨kv', g, ev, hk⟩ := (unhide HT).kids (fun e => by rw [e] at hi; simp at hi)
      obtain rfl : kv' = .slice ko ks.length kc := by simp at ev; exact ev.symm
      have hkr := hk.below hw
      obtain ⟨cap, hcap⟩ := hkr.sl
      simp only [Value.slice.injEq] at hcap
      obtain ⟨rfl, -, rfl⟩ := hcap
      obtain ⟨a0, a1, a2, a3, a4, y0, y1, y2, y3, y4, tk⟩ := hkr.at_ i hi
      have lg := hkr.lt
      have CALL := hide (unhide HIK i hi (by have := unhide HLEN; omega) wr _ _ l _ tk (owns_of (unhide HO) (fun k hk => hw.block k ((unhide HO).lt k hk).2)) hl)
      have TKE := hide (show rowL (ms.take (i + 1)) = catL (rowL (ms.take i)) (ms[i]'(by have := unhide HLEN; omega)) from by rw [← row_snoc, List.take_add_one, List.getElem?_eq_getElem (by have := unhide HLEN; omega)]; rfl)
      clear hb hg hlk hw hk hkr tk ev
      go_wp2_with fail
      refine (unhide CALL).mono ?_
      rintro e w2 ⟨z2, cs, E, rfl, hb2, hcl, hg2, hlk2⟩
      have hgo := (unhide HG).later hb2
      have MC := hide (onward_any hgo hg2 hbl hcl (by omega))
      have L2 := hide (like_cat (unhide HLK) hlk2)
      have HB2 := hide ((unhide HB).trans (hb2.mono (unhide HB).size))
      have HG2 := hide hgo
      clear hb2 hg2 hgo hlk2 CALL y0 y1 y2 y3 y4 c4
      go_wp2_with fail
      refine (unhide MC).mono ?_
      rintro e w3 ⟨z3, ds, rfl, hb3, hdl, hg3⟩
      obtain ⟨zo3, zc3, rfl⟩ := owns_sl hg3.own
      rw [hdl] at hg3 ⊢
      have FIN := hide (And.intro ((unhide HB2).trans (hb3.mono (unhide HB2).size)) (hg3.lower (unhide HB2).size))
      clear hg3 hb3 MC
      go_wp2_with fail
      go_roundg (ks.length - (i + 1))
      case measure => omega
      case rel => exact ⟨i + 1, _, zo3, zc3, ds, by omega, by go_num, rfl, hdl, (unhide FIN).1, (unhide FIN).2, by rw [unhide TKE]; exact unhide L2⟩
    · have hin : i = ms.length := by have := unhide HLEN; omega
      have FIN := hide (show Below w.heap.size w wr ∧ Grid wr w.heap.size (l.length + 1) (.slice zo (l.length + 1) zc) bs M ∧ Like l (rowL ms) M from ⟨hw, hg.lower (unhide HA).size, by rw [hin, List.take_length] at hlk; exact hlk⟩)
      clear hb hg hlk hw
      go_wp2_with fail
      go_ret
      exact ⟨_, bs, _, rfl, (unhide FIN).1, hbl, (unhide FIN).2.1, (unhide FIN).2.2⟩
end Go.Proofs.YtgdeeodifnegiaaGreatDoor.rf
