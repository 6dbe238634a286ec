/- The reference's statement: the flat ones, and those with a sum or a number. -/
import Derived.Test.YtgdeeodifnegiaaGreatDoorRefT
namespace Go.Proofs.YtgdeeodifnegiaaGreatDoor.rf
open Go.RowKit

set_option maxRecDepth 100000 in
set_option maxHeartbeats 6400000 in
theorem stmt_flat (pb : Nat) (s : ByteArray) (w : World) (st st0 : PS) (O : Nat → Prop) (h : PA w pb s st O) (hk : Ok s st) (hst0 : st0 = if beginsP st = true then st else failP st) (e0 : (st0.next.text.toList == lPref) = false) (e1 : (st0.next.text.toList == lMed) = false) (e2 : (st0.next.text.toList == lMark) = false) (e3 : (st0.next.text.toList == lUnmark) = false) (e4 : (st0.next.text.toList == lPrepend) = false) (e5 : (st0.next.text.toList == lIf) = false) :
    Calls Tryz.prog 70 #[ptr pb] w (TreeC pb s w O (needP s (takeP s st0) wSemi, .mk st0.next.text ⟨#[]⟩ 0 0 [])) := by
  have hfl := field_text st0.next
  have lp : pb < w.heap.size := h.lt h.own
  have N0 := hide (show ¬ O w.heap.size from fun hk => by have := h.lt hk; omega)
  have HP0 := hide ((h.alloc (.cells treeZ 115)).alloc (.cells (beginL.map Value.string).toArray 9))
  have HF0 := hide (((Fr.refl O w).alloc (.cells treeZ 115)).alloc (.cells (beginL.map Value.string).toArray 9))
  have K := hide hk
  have K0 := hide (show Ok s st0 from by rw [hst0]; split; exact hk; exact hk.fail)
  have HST := hide hst0
  clear h hk hst0
  have cells : ∀ i, (hi : i < beginL.length) → ((w.alloc (.cells treeZ 115)).alloc (.cells (beginL.map Value.string).toArray 9)).cell? ⟨w.heap.size + 1, i, none⟩ = some (.string beginL[i]) := fun i hi => cell_strs _ _ _ _ (by simp) _ hi
  have CELLS := hide cells
  clear cells
  go_enter Tryz.func70, Tryz.ntmps70
  go_wp2_with fail
  obtain ⟨W0, hW0⟩ : ∃ W0, (w.alloc (.cells treeZ 115)).alloc (.cells (beginL.map Value.string).toArray 9) = W0 := ⟨_, rfl⟩
  have HQ0 := hide (show W0.heap[w.heap.size]? = some (.cells treeZ 115 (0, 0)) from by rw [← hW0]; exact (two_alloc w _ _ _ _).1)
  have hsz0 : W0.heap.size = w.heap.size + 2 := by rw [← hW0]; simp
  have HSZ := hide hsz0
  clear hsz0
  rw [hW0] at HP0 HF0 CELLS
  rw [show (w.alloc (.cells #[.string ⟨#[]⟩, .string ⟨#[]⟩, .int .i64 0, .int .i64 0, .slice none 0 0] 115)).alloc (.cells #[.string ⟨#[97, 99, 99, 101, 112, 116]⟩, .string ⟨#[114, 101, 106, 101, 99, 116]⟩, .string ⟨#[112, 114, 101, 102]⟩, .string ⟨#[109, 101, 100]⟩, .string ⟨#[109, 97, 114, 107]⟩, .string ⟨#[117, 110, 109, 97, 114, 107]⟩, .string ⟨#[112, 114, 101, 112, 101, 110, 100]⟩, .string ⟨#[105, 102]⟩] 9) = W0 from hW0]
  clear hW0
  go_loopg [3, 5] 8 (fun k b3 i5 wr => ∃ i : Nat, i + k = 8 ∧ i5 = .int .i64 i ∧ b3 = .bool ((beginL.take i).any (fun x => isP st x)) ∧ wr = W0)
  case atStart => exact ⟨0, by omega, rfl, rfl, rfl⟩
  case round =>
    obtain ⟨i, hik, rfl, rfl, rfl⟩ := hrel
    by_cases hi8 : i < 8
    · have hc := unhide CELLS i (by simp [beginL]; omega)
      have A1 := hide ((unhide HP0).is (beginL[i]'(by simp [beginL]; omega)))
      have STP := hide (show (beginL.take (i + 1)).any (fun x => isP st x) = ((beginL.take i).any (fun x => isP st x) || isP st (beginL[i]'(by simp [beginL]; omega))) from by rw [List.take_succ_eq_append_getElem (by simp [beginL]; omega), List.any_append]; simp)
      generalize (beginL.take i).any (fun x => isP st x) = b0 at *
      generalize isP st (beginL[i]'(by simp [beginL]; omega)) = b1 at *
      generalize beginL[i]'(by simp [beginL]; omega) = wd at *
      have hi9 : (i : Int) < 8 := by omega
      go_wp2_with fail
      refine (unhide A1).mono ?_
      rintro e w0 ⟨rfl, rfl⟩
      cases b0 <;>
        (go_wp2_with fail; go_roundg (8 - (i + 1)); (case measure => omega); (case rel => exact ⟨i + 1, by omega, by go_num, by rw [unhide STP]; simp, rfl⟩))
    · obtain rfl : i = 8 := by omega
      have hbe : (beginL.take 8).any (fun x => isP st x) = beginsP st := rfl
      rw [hbe]
      clear hbe
      cases hbs : beginsP st
      focus
        go_wp2_with fail
        refine ((unhide HP0).fail).mono ?_
        rintro e wa ⟨rfl, hpa, hfa⟩
        have HPA := hide (show PA wa pb s st0 O from by rw [unhide HST, if_neg (by rw [hbs]; simp)]; exact hpa)
        have HFA := hide hfa
        clear hpa hfa hbs
      rotate_left
      focus
        have HPA := hide (show PA _ pb s st0 O from by rw [unhide HST, if_pos hbs]; exact unhide HP0)
        have HFA := hide (Fr.refl O wr)
        clear hbs
      all_goals
        go_wp2_with fail
        refine (take_any (unhide HPA) (unhide K0)).mono ?_
        rintro e wt ⟨rfl, Ot, hpt, hft⟩
        have hlt : w.heap.size + 1 < wt.heap.size := by have h1 := hft.size; have h2 := (unhide HFA).size; have h3 := unhide HSZ; omega
        have HFT := hide ((((unhide HF0).trans (unhide HFA)).trans hft).alloc (.cells (treeCells st0.next.text ⟨#[]⟩ 0 0 (.slice none 0 0)) 115))
        have NAT := hide (show ¬ Ot w.heap.size from fun h => by
          rcases hft.own _ h with h | h
          · exact unhide N0 h
          · have h2 := (unhide HFA).size; have h3 := unhide HSZ; omega)
        have NBT := hide (show ¬ Ot wt.heap.size from fun h => by have := hpt.lt h; omega)
        have Q0T := hide (show (wt.alloc (.cells (treeCells st0.next.text ⟨#[]⟩ 0 0 (.slice none 0 0)) 115)).heap[w.heap.size]? = some (.cells treeZ 115 (0, 0)) from by
          have h3 := unhide HSZ
          have h4 := (unhide HFA).size
          rw [Below.heap_alloc _ _ _ (by omega), hft.block _ (by omega) (unhide N0), (unhide HFA).block _ (by omega) (unhide N0)]; exact unhide HQ0)
        have Q1T := hide (heap_alloc_new wt (.cells (treeCells st0.next.text ⟨#[]⟩ 0 0 (.slice none 0 0)) 115))
        have HPT := hide (hpt.alloc (.cells (treeCells st0.next.text ⟨#[]⟩ 0 0 (.slice none 0 0)) 115))
        have hzt : (wt.alloc (.cells (treeCells st0.next.text ⟨#[]⟩ 0 0 (.slice none 0 0)) 115)).heap.size = wt.heap.size + 1 := by simp
        have HZT := hide hzt
        clear hpt hft HPA HFA HP0 HF0 K HST CELLS HSZ HQ0 hzt
        go_wp2_with fail
        refine (need_any (unhide HPT) (unhide K0).take _).mono ?_
        rintro e w' ⟨rfl, O', hp, hf⟩
        have qR := (hf.block _ (by have := unhide HZT; omega) (unhide NAT)).trans (unhide Q0T)
        have qB := (hf.block _ (by have := unhide HZT; omega) (unhide NBT)).trans (unhide Q1T)
        obtain ⟨r0, r1, r2, r3, r4⟩ := cells5 qR
        have zr : ∀ ob, w'.frozen? ⟨w.heap.size, ob, none⟩ = false := fun ob => frozen_of_heap qR
        obtain ⟨s0, s1, s2, s3, s4⟩ := cells5 qB
        have HN := hide (show ¬ O' w.heap.size from fun h => by
          rcases hf.own _ h with h | h
          · exact unhide NAT h
          · have := unhide HZT; omega)
        have HP := hide hp
        have HF := hide ((unhide HFT).trans hf)
        clear hp hf qR qB
        go_wp2_with fail
        refine bodyPost_ret (v := treeV st0.next.text ⟨#[]⟩ 0 0 (.slice none 0 0)) (by simp [results, Tryz.results70, go_sem, r0, r1, r2, r3, r4]) rfl ⟨_, O', rfl, ?_, ?_, TrAt.leaf _ _ _ _ _ _, (unhide K0).take.need _⟩
        · refine (show PA _ pb s (needP s (takeP s st0) ⟨#[59]⟩) O' from ?_)
          repeat with_reducible first | refine PA.other ?_ (unhide HN) _ _ | refine PA.alloc ?_ _ | refine PA.drew ?_ | refine PA.drewN ?_ _ | exact unhide HP
        · repeat with_reducible first | refine Fr.setCell ?_ (Or.inr (Nat.le_refl _)) _ | refine Fr.setCell ?_ (Or.inl (unhide HO)) _ | refine Fr.alloc ?_ _ | refine Fr.drew ?_ | refine Fr.drewN ?_ _ | exact unhide HF | exact Fr.refl _ _

set_option maxRecDepth 100000 in
set_option maxHeartbeats 12800000 in
theorem stmt_set (pb : Nat) (s : ByteArray) (w : World) (st st0 : PS) (O : Nat → Prop) (h : PA w pb s st O) (hk : Ok s st) (hst0 : st0 = if beginsP st = true then st else failP st) (f : Nat) (IH : SumC pb s f) (st3 : PS) (x : Tr) (hsum : sumTw s f (needP s (takeP s st0) wEq) = some (st3, x)) (hc : (st0.next.text.toList == lPref) = true ∨ ((st0.next.text.toList == lPref) = false ∧ (st0.next.text.toList == lMed) = true)) :
    Calls Tryz.prog 70 #[ptr pb] w (TreeC pb s w O (needP s st3 wSemi, .mk st0.next.text ⟨#[]⟩ 0 0 [x])) := by
  have HC := hide hc
  clear hc
  have hfl := field_text st0.next
  obtain ⟨i0, hi0, hz0, hz1, hz2⟩ := info_parts Tryz.infoTree
  have HIH := hide IH
  have HSUM := hide hsum
  clear IH hsum
  have lp : pb < w.heap.size := h.lt h.own
  have N0 := hide (show ¬ O w.heap.size from fun hk => by have := h.lt hk; omega)
  have HP0 := hide ((h.alloc (.cells treeZ 115)).alloc (.cells (beginL.map Value.string).toArray 9))
  have HF0 := hide (((Fr.refl O w).alloc (.cells treeZ 115)).alloc (.cells (beginL.map Value.string).toArray 9))
  have K := hide hk
  have K0 := hide (show Ok s st0 from by rw [hst0]; split; exact hk; exact hk.fail)
  have HST := hide hst0
  clear h hk hst0
  have cells : ∀ i, (hi : i < beginL.length) → ((w.alloc (.cells treeZ 115)).alloc (.cells (beginL.map Value.string).toArray 9)).cell? ⟨w.heap.size + 1, i, none⟩ = some (.string beginL[i]) := fun i hi => cell_strs _ _ _ _ (by simp) _ hi
  have CELLS := hide cells
  clear cells
  go_enter Tryz.func70, Tryz.ntmps70
  go_wp2_with fail
  obtain ⟨W0, hW0⟩ : ∃ W0, (w.alloc (.cells treeZ 115)).alloc (.cells (beginL.map Value.string).toArray 9) = W0 := ⟨_, rfl⟩
  have HQ0 := hide (show W0.heap[w.heap.size]? = some (.cells treeZ 115 (0, 0)) from by rw [← hW0]; exact (two_alloc w _ _ _ _).1)
  have hsz0 : W0.heap.size = w.heap.size + 2 := by rw [← hW0]; simp
  have HSZ := hide hsz0
  clear hsz0
  rw [hW0] at HP0 HF0 CELLS
  rw [show (w.alloc (.cells #[.string ⟨#[]⟩, .string ⟨#[]⟩, .int .i64 0, .int .i64 0, .slice none 0 0] 115)).alloc (.cells #[.string ⟨#[97, 99, 99, 101, 112, 116]⟩, .string ⟨#[114, 101, 106, 101, 99, 116]⟩, .string ⟨#[112, 114, 101, 102]⟩, .string ⟨#[109, 101, 100]⟩, .string ⟨#[109, 97, 114, 107]⟩, .string ⟨#[117, 110, 109, 97, 114, 107]⟩, .string ⟨#[112, 114, 101, 112, 101, 110, 100]⟩, .string ⟨#[105, 102]⟩] 9) = W0 from hW0]
  clear hW0
  go_loopg [3, 5] 8 (fun k b3 i5 wr => ∃ i : Nat, i + k = 8 ∧ i5 = .int .i64 i ∧ b3 = .bool ((beginL.take i).any (fun x => isP st x)) ∧ wr = W0)
  case atStart => exact ⟨0, by omega, rfl, rfl, rfl⟩
  case round =>
    obtain ⟨i, hik, rfl, rfl, rfl⟩ := hrel
    by_cases hi8 : i < 8
    · have hc := unhide CELLS i (by simp [beginL]; omega)
      have A1 := hide ((unhide HP0).is (beginL[i]'(by simp [beginL]; omega)))
      have STP := hide (show (beginL.take (i + 1)).any (fun x => isP st x) = ((beginL.take i).any (fun x => isP st x) || isP st (beginL[i]'(by simp [beginL]; omega))) from by rw [List.take_succ_eq_append_getElem (by simp [beginL]; omega), List.any_append]; simp)
      generalize (beginL.take i).any (fun x => isP st x) = b0 at *
      generalize isP st (beginL[i]'(by simp [beginL]; omega)) = b1 at *
      generalize beginL[i]'(by simp [beginL]; omega) = wd at *
      have hi9 : (i : Int) < 8 := by omega
      go_wp2_with fail
      refine (unhide A1).mono ?_
      rintro e w0 ⟨rfl, rfl⟩
      cases b0 <;>
        (go_wp2_with fail; go_roundg (8 - (i + 1)); (case measure => omega); (case rel => exact ⟨i + 1, by omega, by go_num, by rw [unhide STP]; simp, rfl⟩))
    · obtain rfl : i = 8 := by omega
      have hbe : (beginL.take 8).any (fun x => isP st x) = beginsP st := rfl
      rw [hbe]
      clear hbe
      cases hbs : beginsP st
      focus
        go_wp2_with fail
        refine ((unhide HP0).fail).mono ?_
        rintro e wa ⟨rfl, hpa, hfa⟩
        have HPA := hide (show PA wa pb s st0 O from by rw [unhide HST, if_neg (by rw [hbs]; simp)]; exact hpa)
        have HFA := hide hfa
        clear hpa hfa hbs
        go_wp2_with fail
      rotate_left
      focus
        have HPA := hide (show PA _ pb s st0 O from by rw [unhide HST, if_pos hbs]; exact unhide HP0)
        have HFA := hide (Fr.refl O wr)
        clear hbs
        go_wp2_with fail
      all_goals
        refine (take_any (unhide HPA) (unhide K0)).mono ?_
        rintro e wt ⟨rfl, Ot, hpt, hft⟩
        have hlt : w.heap.size + 1 < wt.heap.size := by have h1 := hft.size; have h2 := (unhide HFA).size; have h3 := unhide HSZ; omega
        have HFT := hide ((((unhide HF0).trans (unhide HFA)).trans hft).alloc (.cells (treeCells st0.next.text ⟨#[]⟩ 0 0 (.slice none 0 0)) 115))
        have NAT := hide (show ¬ Ot w.heap.size from fun h => by
          rcases hft.own _ h with h | h
          · exact unhide N0 h
          · have h2 := (unhide HFA).size; have h3 := unhide HSZ; omega)
        have NBT := hide (show ¬ Ot wt.heap.size from fun h => by have := hpt.lt h; omega)
        have Q0T := hide (show (wt.alloc (.cells (treeCells st0.next.text ⟨#[]⟩ 0 0 (.slice none 0 0)) 115)).heap[w.heap.size]? = some (.cells treeZ 115 (0, 0)) from by
          have h3 := unhide HSZ
          have h4 := (unhide HFA).size
          rw [Below.heap_alloc _ _ _ (by omega), hft.block _ (by omega) (unhide N0), (unhide HFA).block _ (by omega) (unhide N0)]; exact unhide HQ0)
        have Q1T := hide (heap_alloc_new wt (.cells (treeCells st0.next.text ⟨#[]⟩ 0 0 (.slice none 0 0)) 115))
        have HPT := hide (hpt.alloc (.cells (treeCells st0.next.text ⟨#[]⟩ 0 0 (.slice none 0 0)) 115))
        have hzt : (wt.alloc (.cells (treeCells st0.next.text ⟨#[]⟩ 0 0 (.slice none 0 0)) 115)).heap.size = wt.heap.size + 1 := by simp
        have HZT := hide hzt
        clear hpt hft HPA HFA HP0 HF0 K HST CELLS HSZ HQ0 hzt
        rcases unhide HC with e0 | ⟨e0, e1⟩
        all_goals
          go_wp2_with fail
          refine (need_any (unhide HPT) (unhide K0).take _).mono ?_
          rintro e w3 ⟨rfl, O3, hp3, hf3⟩
          have H3 := hide hp3
          have F3 := hide hf3
          clear hp3 hf3
          go_wp2_with fail
          refine (unhide HIH _ _ _ _ (unhide H3) ((unhide K0).take.need _) (unhide HSUM)).mono ?_
          rintro e w4 ⟨v, O4, rfl, hp4, hf4, ht4, hk4⟩
          obtain ⟨xop, xtext, xn, xa, xo, xc, xl, rfl⟩ := ht4.form
          have H4 := hide hp4
          have F4 := hide ((unhide F3).trans hf4)
          have T4 := hide (show TrAt w4 (fun k => O4 k ∨ k < (wt.alloc (.cells (treeCells st0.next.text ⟨#[]⟩ 0 0 (.slice none 0 0)) 115)).heap.size) x _ from TrAt.keep (fun _ _ _ => rfl) (fun k _ h => by rcases h with h | h; exact Or.inl h; exact Or.inr (Nat.lt_of_lt_of_le h (unhide F3).size)) _ _ ht4)
          have K4 := hide hk4
          clear hp4 hf4 ht4 hk4
          have TU0 := hide (TrOpen.nil (wt.alloc (.cells (treeCells st0.next.text ⟨#[]⟩ 0 0 (.slice none 0 0)) 115)) (fun k => Ot k ∨ k ≤ w.heap.size ∨ k = wt.heap.size))
          have OW := hide (World.ownsRow_nil w4 0 115 5)
          have NKB := hide (show some wt.heap.size ≠ (Value.slice none 0 0).ownBlock from fun e => by simp [Value.ownBlock] at e)
          have hzB4 : wt.heap.size < w4.heap.size := by have h1 := (unhide F4).size; have h2 := unhide HZT; omega
          have qB4 := ((unhide F4).block wt.heap.size (heap_lt (unhide Q1T)) (unhide NBT)).trans (unhide Q1T)
          have s4 : w4.cell? ⟨wt.heap.size, 4, none⟩ = some (.slice none 0 0) := cell_of_heap qB4
          have QB4 := hide qB4
          clear qB4
          go_wp2_with (at_builtin; refine wpList_append_lies _ rfl _ _ _ rfl 0 115 i0 _ 5 72 Tryz.underlying113 hi0 hz0 hz1 hz2 rfl (by omega) (.slice none 0 0) 0 [] rfl (((unhide OW).alloc _).alloc _) ⟨w4.heap.size + 1, 0, none⟩ 1 1 [.string xop, .string xtext, .int .i64 xn, .int .i64 xa, .slice xo xc xl] rfl rfl (World.news_of_block (cs := #[.string xop, .string xtext, .int .i64 xn, .int .i64 xa, .slice xo xc xl]) (t := 115) (fr := (0, 0)) (two_alloc w4 _ _ _ _).2) (by simp [Value.oneCell']) (by omega) (by simp [maxLen]) (by omega) (by omega) (w4.heap.size + 2) (by simp) ?_; intro gg cap w' hown hgrow hat hltg; have qB' : w'.heap[wt.heap.size]? = some (.cells (treeCells st0.next.text ⟨#[]⟩ 0 0 (.slice none 0 0)) 115 (0, 0)) := ((hgrow.block wt.heap.size (by simp; omega) (unhide NKB)).trans ((Below.heap_alloc _ _ _ (by simp; omega)).trans ((Below.heap_alloc _ _ _ (by omega)).trans (unhide QB4)))); have c4 : w'.cell? ⟨wt.heap.size, 4, none⟩ = some (.slice none 0 0) := (cell_of_heap qB'); have z4 : w'.frozen? ⟨wt.heap.size, 4, none⟩ = false := (frozen_of_heap qB'); clear qB')
          have FIN := hide (kid_round (kids := []) (unhide HFT) (unhide F4) (unhide H4) (unhide Q0T) (unhide Q1T) (unhide NAT) (unhide NBT) (by omega) (unhide TU0) (unhide T4) hgrow hown hat)
          generalize hW : w'.setCell ⟨wt.heap.size, 4, none⟩ (.slice (some ⟨gg, 0, none⟩) 1 cap) = W at *
          clear hW hown hgrow hat hltg c4 z4 s4
          obtain ⟨f1, f2, f3, f4, f5, f6, f7⟩ := unhide FIN
          have G1 := hide f1
          have G2 := hide f2
          have G3 := hide f3
          have G4 := hide f4
          have G5 := hide f5
          have G6 := hide f6
          have G7 := hide f7
          clear f1 f2 f3 f4 f5 f6 f7 FIN
          refine (need_any (unhide G1) (unhide K4) _).mono ?_
          rintro e we ⟨rfl, Oe, hpe, hfe⟩
          have qR := (hfe.block _ (heap_lt (unhide G3)) (unhide G5)).trans (unhide G3)
          have qB := (hfe.block _ (heap_lt (unhide G4)) (unhide G6)).trans (unhide G4)
          obtain ⟨r0, r1, r2, r3, r4⟩ := cells5 qR
          have zr : ∀ ob, we.frozen? ⟨w.heap.size, ob, none⟩ = false := fun ob => frozen_of_heap qR
          obtain ⟨s0, s1, s2, s3, s4⟩ := cells5 qB
          have lRW := heap_lt (unhide G3)
          have HN := hide (show ¬ Oe w.heap.size from fun h => by
            rcases hfe.own _ h with h | h
            · exact unhide G5 h
            · omega)
          have HP := hide hpe
          have HF := hide ((unhide G2).trans hfe)
          have F5 := hide hfe
          have TT := hide ((unhide G7).at st0.next.text ⟨#[]⟩ 0 0)
          clear hpe hfe qR qB
          go_wp2_with fail
          refine bodyPost_ret (v := treeV st0.next.text ⟨#[]⟩ 0 0 (.slice (some ⟨gg, 0, none⟩) 1 cap)) (by simp [results, Tryz.results70, go_sem, r0, r1, r2, r3, r4]) rfl ⟨_, Oe, rfl, ?_, ?_, ?_, (unhide K4).need _⟩
          · refine (show PA _ pb s (needP s st3 ⟨#[59]⟩) Oe from ?_)
            repeat with_reducible first | refine PA.other ?_ (unhide HN) _ _ | refine PA.alloc ?_ _ | refine PA.drew ?_ | refine PA.drewN ?_ _ | exact unhide HP
          · repeat with_reducible first | refine Fr.setCell ?_ (Or.inr (Nat.le_refl _)) _ | refine Fr.setCell ?_ (Or.inl (unhide HO)) _ | refine Fr.alloc ?_ _ | refine Fr.drew ?_ | refine Fr.drewN ?_ _ | exact unhide HF | exact Fr.refl _ _
          · refine TrAt.step (O := fun k => O4 k ∨ k = w.heap.size) (O' := fun k => Oe k ∨ k = w.heap.size) (w := W) ?_ ?_ ?_ _ _ (unhide TT)
            · repeat with_reducible first | refine Fr.setCell ?_ (Or.inl (Or.inr rfl)) _ | exact (unhide F5).join _
            · intro k hk
              rcases hk with h | h
              · exact Or.inl h
              · exact Or.inr (Or.inl (by omega))
            · intro k hk
              rcases hk with h | h
              · rcases (unhide F5).own k h with h1 | h1
                · exact Or.inl (Or.inl h1)
                · exact Or.inr h1
              · exact Or.inl (Or.inr (Or.inl (by omega)))
theorem stmt_pref (pb : Nat) (s : ByteArray) (w : World) (st st0 : PS) (O : Nat → Prop) (h : PA w pb s st O) (hk : Ok s st) (hst0 : st0 = if beginsP st = true then st else failP st) (f : Nat) (IH : SumC pb s f) (st3 : PS) (x : Tr) (hsum : sumTw s f (needP s (takeP s st0) wEq) = some (st3, x)) (e0 : (st0.next.text.toList == lPref) = true) :
    Calls Tryz.prog 70 #[ptr pb] w (TreeC pb s w O (needP s st3 wSemi, .mk st0.next.text ⟨#[]⟩ 0 0 [x])) :=
  stmt_set pb s w st st0 O h hk hst0 f IH st3 x hsum (Or.inl e0)
theorem stmt_med (pb : Nat) (s : ByteArray) (w : World) (st st0 : PS) (O : Nat → Prop) (h : PA w pb s st O) (hk : Ok s st) (hst0 : st0 = if beginsP st = true then st else failP st) (f : Nat) (IH : SumC pb s f) (st3 : PS) (x : Tr) (hsum : sumTw s f (needP s (takeP s st0) wEq) = some (st3, x)) (e0 : (st0.next.text.toList == lPref) = false) (e1 : (st0.next.text.toList == lMed) = true) :
    Calls Tryz.prog 70 #[ptr pb] w (TreeC pb s w O (needP s st3 wSemi, .mk st0.next.text ⟨#[]⟩ 0 0 [x])) :=
  stmt_set pb s w st st0 O h hk hst0 f IH st3 x hsum (Or.inr ⟨e0, e1⟩)
set_option maxRecDepth 100000 in
set_option maxHeartbeats 12800000 in
theorem stmt_num (pb : Nat) (s : ByteArray) (w : World) (st st0 : PS) (O : Nat → Prop) (h : PA w pb s st O) (hk : Ok s st) (hst0 : st0 = if beginsP st = true then st else failP st) (e0 : (st0.next.text.toList == lPref) = false) (e1 : (st0.next.text.toList == lMed) = false) (hc : (st0.next.text.toList == lMark) = true ∨ ((st0.next.text.toList == lMark) = false ∧ (st0.next.text.toList == lUnmark) = true) ∨ ((st0.next.text.toList == lMark) = false ∧ (st0.next.text.toList == lUnmark) = false ∧ (st0.next.text.toList == lPrepend) = true)) :
    Calls Tryz.prog 70 #[ptr pb] w (TreeC pb s w O (needP s (kindP s (takeP s st0) 48) wSemi, .mk st0.next.text ⟨#[]⟩ 0 0 [.mk wNumber ⟨#[]⟩ (numP (takeP s st0).next.text 4294967295) (takeP s st0).next.at_ []])) := by
  have HC := hide hc
  clear hc
  have hfl := field_text st0.next
  obtain ⟨i0, hi0, hz0, hz1, hz2⟩ := info_parts Tryz.infoTree
  have lp : pb < w.heap.size := h.lt h.own
  have N0 := hide (show ¬ O w.heap.size from fun hk => by have := h.lt hk; omega)
  have HP0 := hide ((h.alloc (.cells treeZ 115)).alloc (.cells (beginL.map Value.string).toArray 9))
  have HF0 := hide (((Fr.refl O w).alloc (.cells treeZ 115)).alloc (.cells (beginL.map Value.string).toArray 9))
  have K := hide hk
  have K0 := hide (show Ok s st0 from by rw [hst0]; split; exact hk; exact hk.fail)
  have HST := hide hst0
  clear h hk hst0
  have cells : ∀ i, (hi : i < beginL.length) → ((w.alloc (.cells treeZ 115)).alloc (.cells (beginL.map Value.string).toArray 9)).cell? ⟨w.heap.size + 1, i, none⟩ = some (.string beginL[i]) := fun i hi => cell_strs _ _ _ _ (by simp) _ hi
  have CELLS := hide cells
  clear cells
  go_enter Tryz.func70, Tryz.ntmps70
  go_wp2_with fail
  obtain ⟨W0, hW0⟩ : ∃ W0, (w.alloc (.cells treeZ 115)).alloc (.cells (beginL.map Value.string).toArray 9) = W0 := ⟨_, rfl⟩
  have HQ0 := hide (show W0.heap[w.heap.size]? = some (.cells treeZ 115 (0, 0)) from by rw [← hW0]; exact (two_alloc w _ _ _ _).1)
  have hsz0 : W0.heap.size = w.heap.size + 2 := by rw [← hW0]; simp
  have HSZ := hide hsz0
  clear hsz0
  rw [hW0] at HP0 HF0 CELLS
  rw [show (w.alloc (.cells #[.string ⟨#[]⟩, .string ⟨#[]⟩, .int .i64 0, .int .i64 0, .slice none 0 0] 115)).alloc (.cells #[.string ⟨#[97, 99, 99, 101, 112, 116]⟩, .string ⟨#[114, 101, 106, 101, 99, 116]⟩, .string ⟨#[112, 114, 101, 102]⟩, .string ⟨#[109, 101, 100]⟩, .string ⟨#[109, 97, 114, 107]⟩, .string ⟨#[117, 110, 109, 97, 114, 107]⟩, .string ⟨#[112, 114, 101, 112, 101, 110, 100]⟩, .string ⟨#[105, 102]⟩] 9) = W0 from hW0]
  clear hW0
  go_loopg [3, 5] 8 (fun k b3 i5 wr => ∃ i : Nat, i + k = 8 ∧ i5 = .int .i64 i ∧ b3 = .bool ((beginL.take i).any (fun x => isP st x)) ∧ wr = W0)
  case atStart => exact ⟨0, by omega, rfl, rfl, rfl⟩
  case round =>
    obtain ⟨i, hik, rfl, rfl, rfl⟩ := hrel
    by_cases hi8 : i < 8
    · have hc := unhide CELLS i (by simp [beginL]; omega)
      have A1 := hide ((unhide HP0).is (beginL[i]'(by simp [beginL]; omega)))
      have STP := hide (show (beginL.take (i + 1)).any (fun x => isP st x) = ((beginL.take i).any (fun x => isP st x) || isP st (beginL[i]'(by simp [beginL]; omega))) from by rw [List.take_succ_eq_append_getElem (by simp [beginL]; omega), List.any_append]; simp)
      generalize (beginL.take i).any (fun x => isP st x) = b0 at *
      generalize isP st (beginL[i]'(by simp [beginL]; omega)) = b1 at *
      generalize beginL[i]'(by simp [beginL]; omega) = wd at *
      have hi9 : (i : Int) < 8 := by omega
      go_wp2_with fail
      refine (unhide A1).mono ?_
      rintro e w0 ⟨rfl, rfl⟩
      cases b0 <;>
        (go_wp2_with fail; go_roundg (8 - (i + 1)); (case measure => omega); (case rel => exact ⟨i + 1, by omega, by go_num, by rw [unhide STP]; simp, rfl⟩))
    · obtain rfl : i = 8 := by omega
      have hbe : (beginL.take 8).any (fun x => isP st x) = beginsP st := rfl
      rw [hbe]
      clear hbe
      cases hbs : beginsP st
      focus
        go_wp2_with fail
        refine ((unhide HP0).fail).mono ?_
        rintro e wa ⟨rfl, hpa, hfa⟩
        have HPA := hide (show PA wa pb s st0 O from by rw [unhide HST, if_neg (by rw [hbs]; simp)]; exact hpa)
        have HFA := hide hfa
        clear hpa hfa hbs
        go_wp2_with fail
      rotate_left
      focus
        have HPA := hide (show PA _ pb s st0 O from by rw [unhide HST, if_pos hbs]; exact unhide HP0)
        have HFA := hide (Fr.refl O wr)
        clear hbs
        go_wp2_with fail
      all_goals
        refine (take_any (unhide HPA) (unhide K0)).mono ?_
        rintro e wt ⟨rfl, Ot, hpt, hft⟩
        have hlt : w.heap.size + 1 < wt.heap.size := by have h1 := hft.size; have h2 := (unhide HFA).size; have h3 := unhide HSZ; omega
        have HFT := hide ((((unhide HF0).trans (unhide HFA)).trans hft).alloc (.cells (treeCells st0.next.text ⟨#[]⟩ 0 0 (.slice none 0 0)) 115))
        have NAT := hide (show ¬ Ot w.heap.size from fun h => by
          rcases hft.own _ h with h | h
          · exact unhide N0 h
          · have h2 := (unhide HFA).size; have h3 := unhide HSZ; omega)
        have NBT := hide (show ¬ Ot wt.heap.size from fun h => by have := hpt.lt h; omega)
        have Q0T := hide (show (wt.alloc (.cells (treeCells st0.next.text ⟨#[]⟩ 0 0 (.slice none 0 0)) 115)).heap[w.heap.size]? = some (.cells treeZ 115 (0, 0)) from by
          have h3 := unhide HSZ
          have h4 := (unhide HFA).size
          rw [Below.heap_alloc _ _ _ (by omega), hft.block _ (by omega) (unhide N0), (unhide HFA).block _ (by omega) (unhide N0)]; exact unhide HQ0)
        have Q1T := hide (heap_alloc_new wt (.cells (treeCells st0.next.text ⟨#[]⟩ 0 0 (.slice none 0 0)) 115))
        have HPT := hide (hpt.alloc (.cells (treeCells st0.next.text ⟨#[]⟩ 0 0 (.slice none 0 0)) 115))
        have hzt : (wt.alloc (.cells (treeCells st0.next.text ⟨#[]⟩ 0 0 (.slice none 0 0)) 115)).heap.size = wt.heap.size + 1 := by simp
        have HZT := hide hzt
        clear hpt hft HPA HFA HP0 HF0 K HST CELLS HSZ HQ0 hzt
        rcases unhide HC with e2 | ⟨e2, e3⟩ | ⟨e2, e3, e4⟩
        all_goals
          go_wp2_with fail
          refine (num_any (unhide HPT) (unhide K0).take _).mono ?_
          rintro e w4 ⟨rfl, O4, hp4, hf4⟩
          obtain ⟨xop, xtext, xn, xa, xo, xc, xl, hv⟩ : ∃ xop xtext xn xa xo xc xl, treeV wNumber ⟨#[]⟩ (numP (takeP s st0).next.text 4294967295) (takeP s st0).next.at_ (.slice none 0 0) = treeV xop xtext xn xa (.slice xo xc xl) := ⟨_, _, _, _, _, _, _, rfl⟩
          have H4 := hide hp4
          have F4 := hide hf4
          have T4 := hide (show TrAt w4 (fun k => O4 k ∨ k < (wt.alloc (.cells (treeCells st0.next.text ⟨#[]⟩ 0 0 (.slice none 0 0)) 115)).heap.size) (.mk wNumber ⟨#[]⟩ (numP (takeP s st0).next.text 4294967295) (takeP s st0).next.at_ []) (treeV xop xtext xn xa (.slice xo xc xl)) from by rw [← hv]; exact TrAt.leaf _ _ _ _ _ _)
          rw [show treeV { data := #[110, 117, 109, 98, 101, 114] } ⟨#[]⟩ (numP (takeP s st0).next.text 4294967295) (takeP s st0).next.at_ (.slice none 0 0) = treeV xop xtext xn xa (.slice xo xc xl) from hv]
          clear hp4 hf4 hv
          have K4 := hide ((unhide K0).take.kind 48)
          have TU0 := hide (TrOpen.nil (wt.alloc (.cells (treeCells st0.next.text ⟨#[]⟩ 0 0 (.slice none 0 0)) 115)) (fun k => Ot k ∨ k ≤ w.heap.size ∨ k = wt.heap.size))
          have OW := hide (World.ownsRow_nil w4 0 115 5)
          have NKB := hide (show some wt.heap.size ≠ (Value.slice none 0 0).ownBlock from fun e => by simp [Value.ownBlock] at e)
          have hzB4 : wt.heap.size < w4.heap.size := by have h1 := (unhide F4).size; have h2 := unhide HZT; omega
          have qB4 := ((unhide F4).block wt.heap.size (heap_lt (unhide Q1T)) (unhide NBT)).trans (unhide Q1T)
          have s4 : w4.cell? ⟨wt.heap.size, 4, none⟩ = some (.slice none 0 0) := cell_of_heap qB4
          have QB4 := hide qB4
          clear qB4
          go_wp2_with (at_builtin; refine wpList_append_lies _ rfl _ _ _ rfl 0 115 i0 _ 5 72 Tryz.underlying113 hi0 hz0 hz1 hz2 rfl (by omega) (.slice none 0 0) 0 [] rfl (((unhide OW).alloc _).alloc _) ⟨w4.heap.size + 1, 0, none⟩ 1 1 [.string xop, .string xtext, .int .i64 xn, .int .i64 xa, .slice xo xc xl] rfl rfl (World.news_of_block (cs := #[.string xop, .string xtext, .int .i64 xn, .int .i64 xa, .slice xo xc xl]) (t := 115) (fr := (0, 0)) (two_alloc w4 _ _ _ _).2) (by simp [Value.oneCell']) (by omega) (by simp [maxLen]) (by omega) (by omega) (w4.heap.size + 2) (by simp) ?_; intro gg cap w' hown hgrow hat hltg; have qB' : w'.heap[wt.heap.size]? = some (.cells (treeCells st0.next.text ⟨#[]⟩ 0 0 (.slice none 0 0)) 115 (0, 0)) := ((hgrow.block wt.heap.size (by simp; omega) (unhide NKB)).trans ((Below.heap_alloc _ _ _ (by simp; omega)).trans ((Below.heap_alloc _ _ _ (by omega)).trans (unhide QB4)))); have c4 : w'.cell? ⟨wt.heap.size, 4, none⟩ = some (.slice none 0 0) := (cell_of_heap qB'); have z4 : w'.frozen? ⟨wt.heap.size, 4, none⟩ = false := (frozen_of_heap qB'); clear qB')
          have FIN := hide (kid_round (kids := []) (unhide HFT) (unhide F4) (unhide H4) (unhide Q0T) (unhide Q1T) (unhide NAT) (unhide NBT) (by omega) (unhide TU0) (unhide T4) hgrow hown hat)
          generalize hW : w'.setCell ⟨wt.heap.size, 4, none⟩ (.slice (some ⟨gg, 0, none⟩) 1 cap) = W at *
          clear hW hown hgrow hat hltg c4 z4 s4
          obtain ⟨f1, f2, f3, f4, f5, f6, f7⟩ := unhide FIN
          have G1 := hide f1
          have G2 := hide f2
          have G3 := hide f3
          have G4 := hide f4
          have G5 := hide f5
          have G6 := hide f6
          have G7 := hide f7
          clear f1 f2 f3 f4 f5 f6 f7 FIN
          refine (need_any (unhide G1) (unhide K4) _).mono ?_
          rintro e we ⟨rfl, Oe, hpe, hfe⟩
          have qR := (hfe.block _ (heap_lt (unhide G3)) (unhide G5)).trans (unhide G3)
          have qB := (hfe.block _ (heap_lt (unhide G4)) (unhide G6)).trans (unhide G4)
          obtain ⟨r0, r1, r2, r3, r4⟩ := cells5 qR
          have zr : ∀ ob, we.frozen? ⟨w.heap.size, ob, none⟩ = false := fun ob => frozen_of_heap qR
          obtain ⟨s0, s1, s2, s3, s4⟩ := cells5 qB
          have lRW := heap_lt (unhide G3)
          have HN := hide (show ¬ Oe w.heap.size from fun h => by
            rcases hfe.own _ h with h | h
            · exact unhide G5 h
            · omega)
          have HP := hide hpe
          have HF := hide ((unhide G2).trans hfe)
          have F5 := hide hfe
          have TT := hide ((unhide G7).at st0.next.text ⟨#[]⟩ 0 0)
          clear hpe hfe qR qB
          go_wp2_with fail
          refine bodyPost_ret (v := treeV st0.next.text ⟨#[]⟩ 0 0 (.slice (some ⟨gg, 0, none⟩) 1 cap)) (by simp [results, Tryz.results70, go_sem, r0, r1, r2, r3, r4]) rfl ⟨_, Oe, rfl, ?_, ?_, ?_, (unhide K4).need _⟩
          · refine (show PA _ pb s (needP s (kindP s (takeP s st0) 48) ⟨#[59]⟩) Oe from ?_)
            repeat with_reducible first | refine PA.other ?_ (unhide HN) _ _ | refine PA.alloc ?_ _ | refine PA.drew ?_ | refine PA.drewN ?_ _ | exact unhide HP
          · repeat with_reducible first | refine Fr.setCell ?_ (Or.inr (Nat.le_refl _)) _ | refine Fr.setCell ?_ (Or.inl (unhide HO)) _ | refine Fr.alloc ?_ _ | refine Fr.drew ?_ | refine Fr.drewN ?_ _ | exact unhide HF | exact Fr.refl _ _
          · refine TrAt.step (O := fun k => O4 k ∨ k = w.heap.size) (O' := fun k => Oe k ∨ k = w.heap.size) (w := W) ?_ ?_ ?_ _ _ (unhide TT)
            · repeat with_reducible first | refine Fr.setCell ?_ (Or.inl (Or.inr rfl)) _ | exact (unhide F5).join _
            · intro k hk
              rcases hk with h | h
              · exact Or.inl h
              · exact Or.inr (Or.inl (by omega))
            · intro k hk
              rcases hk with h | h
              · rcases (unhide F5).own k h with h1 | h1
                · exact Or.inl (Or.inl h1)
                · exact Or.inr h1
              · exact Or.inl (Or.inr (Or.inl (by omega)))
theorem stmt_mark (pb : Nat) (s : ByteArray) (w : World) (st st0 : PS) (O : Nat → Prop) (h : PA w pb s st O) (hk : Ok s st) (hst0 : st0 = if beginsP st = true then st else failP st) (e0 : (st0.next.text.toList == lPref) = false) (e1 : (st0.next.text.toList == lMed) = false) (e2 : (st0.next.text.toList == lMark) = true) :
    Calls Tryz.prog 70 #[ptr pb] w (TreeC pb s w O (needP s (kindP s (takeP s st0) 48) wSemi, .mk st0.next.text ⟨#[]⟩ 0 0 [.mk wNumber ⟨#[]⟩ (numP (takeP s st0).next.text 4294967295) (takeP s st0).next.at_ []])) :=
  stmt_num pb s w st st0 O h hk hst0 e0 e1 (Or.inl e2)
theorem stmt_unmark (pb : Nat) (s : ByteArray) (w : World) (st st0 : PS) (O : Nat → Prop) (h : PA w pb s st O) (hk : Ok s st) (hst0 : st0 = if beginsP st = true then st else failP st) (e0 : (st0.next.text.toList == lPref) = false) (e1 : (st0.next.text.toList == lMed) = false) (e2 : (st0.next.text.toList == lMark) = false) (e3 : (st0.next.text.toList == lUnmark) = true) :
    Calls Tryz.prog 70 #[ptr pb] w (TreeC pb s w O (needP s (kindP s (takeP s st0) 48) wSemi, .mk st0.next.text ⟨#[]⟩ 0 0 [.mk wNumber ⟨#[]⟩ (numP (takeP s st0).next.text 4294967295) (takeP s st0).next.at_ []])) :=
  stmt_num pb s w st st0 O h hk hst0 e0 e1 (Or.inr (Or.inl ⟨e2, e3⟩))
theorem stmt_prepend (pb : Nat) (s : ByteArray) (w : World) (st st0 : PS) (O : Nat → Prop) (h : PA w pb s st O) (hk : Ok s st) (hst0 : st0 = if beginsP st = true then st else failP st) (e0 : (st0.next.text.toList == lPref) = false) (e1 : (st0.next.text.toList == lMed) = false) (e2 : (st0.next.text.toList == lMark) = false) (e3 : (st0.next.text.toList == lUnmark) = false) (e4 : (st0.next.text.toList == lPrepend) = true) :
    Calls Tryz.prog 70 #[ptr pb] w (TreeC pb s w O (needP s (kindP s (takeP s st0) 48) wSemi, .mk st0.next.text ⟨#[]⟩ 0 0 [.mk wNumber ⟨#[]⟩ (numP (takeP s st0).next.text 4294967295) (takeP s st0).next.at_ []])) :=
  stmt_num pb s w st st0 O h hk hst0 e0 e1 (Or.inr (Or.inr ⟨e2, e3, e4⟩))
end Go.Proofs.YtgdeeodifnegiaaGreatDoor.rf
