/- The reference's statement: if with else; the statements, whole. -/
import Derived.Test.YtgdeeodifnegiaaGreatDoorRefU
namespace Go.Proofs.YtgdeeodifnegiaaGreatDoor.rf
open Go.RowKit

set_option maxRecDepth 100000 in
set_option maxHeartbeats 6400000 in
theorem stmt_ife (pb : Nat) (s : ByteArray) (w : World) (st st0 : PS) (O : Nat → Prop) (h : PA w pb s st O) (hk : Ok s st) (hst0 : st0 = if beginsP st = true then st else failP st) (f : Nat) (CI : CondC pb s f) (BI : BlockC pb s f) (st2 : PS) (cT : Tr) (hc : condTw s f 0 (takeP s st0) = some (st2, cT)) (st3 : PS) (bT : Tr) (hb : blockTw s f (needP s st2 wThen) = some (st3, bT)) (z : PS × Tr) (hz : (isP st3 wElse = false ∧ z = (st3, .mk st0.next.text ⟨#[]⟩ 0 0 [cT, bT])) ∨ (isP st3 wElse = true ∧ ∃ st4 x, blockTw s f (takeP s st3) = some (st4, x) ∧ z = (st4, .mk st0.next.text ⟨#[]⟩ 0 0 [cT, bT, x]))) (e0 : (st0.next.text.toList == lPref) = false) (e1 : (st0.next.text.toList == lMed) = false) (e2 : (st0.next.text.toList == lMark) = false) (e3 : (st0.next.text.toList == lUnmark) = false) (e4 : (st0.next.text.toList == lPrepend) = false) (e5 : (st0.next.text.toList == lIf) = true) :
    Calls Tryz.prog 70 #[ptr pb] w (TreeC pb s w O z) := by
  have hfl := field_text st0.next
  obtain ⟨i0, hi0, hz0, hz1, hz2⟩ := info_parts Tryz.infoTree
  have HCI := hide CI
  have HBI := hide BI
  have HC := hide hc
  have HB := hide hb
  have HZ := hide hz
  clear CI BI hc hb hz
  have lp : pb < w.heap.size := h.lt h.own
  have N0 := hide (show ¬ O w.heap.size from fun hk => by have := h.lt hk; omega)
  have HP0 := hide ((h.alloc (.cells treeZ 115)).alloc (.cells (beginL.map Value.string).toArray 9))
  have HF0 := hide (((Fr.refl O w).alloc (.cells treeZ 115)).alloc (.cells (beginL.map Value.string).toArray 9))
  have K := hide hk
  have K0 := hide (show Ok s st0 from by rw [hst0]; split; exact hk; exact hk.fail)
  have HST := hide hst0
  clear h hk hst0
  have cells : ∀ i, (hi : i < beginL.length) → ((w.alloc (.cells treeZ 115)).alloc (.cells (beginL.map Value.string).toArray 9)).cell? ⟨w.heap.size + 1, i, none⟩ = some (.string beginL[i]) := fun i hi => cell_strs _ _ _ _ (by simp) _ hi
  have CELLS := hide cells
  clear cells
  go_enter Tryz.func70, Tryz.ntmps70
  go_wp2_with fail
  obtain ⟨W0, hW0⟩ : ∃ W0, (w.alloc (.cells treeZ 115)).alloc (.cells (beginL.map Value.string).toArray 9) = W0 := ⟨_, rfl⟩
  have HQ0 := hide (show W0.heap[w.heap.size]? = some (.cells treeZ 115 (0, 0)) from by rw [← hW0]; exact (two_alloc w _ _ _ _).1)
  have hsz0 : W0.heap.size = w.heap.size + 2 := by rw [← hW0]; simp
  have HSZ := hide hsz0
  clear hsz0
  rw [hW0] at HP0 HF0 CELLS
  rw [show (w.alloc (.cells #[.string ⟨#[]⟩, .string ⟨#[]⟩, .int .i64 0, .int .i64 0, .slice none 0 0] 115)).alloc (.cells #[.string ⟨#[97, 99, 99, 101, 112, 116]⟩, .string ⟨#[114, 101, 106, 101, 99, 116]⟩, .string ⟨#[112, 114, 101, 102]⟩, .string ⟨#[109, 101, 100]⟩, .string ⟨#[109, 97, 114, 107]⟩, .string ⟨#[117, 110, 109, 97, 114, 107]⟩, .string ⟨#[112, 114, 101, 112, 101, 110, 100]⟩, .string ⟨#[105, 102]⟩] 9) = W0 from hW0]
  clear hW0
  go_loopg [3, 5] 8 (fun k b3 i5 wr => ∃ i : Nat, i + k = 8 ∧ i5 = .int .i64 i ∧ b3 = .bool ((beginL.take i).any (fun x => isP st x)) ∧ wr = W0)
  case atStart => exact ⟨0, by omega, rfl, rfl, rfl⟩
  case round =>
    obtain ⟨i, hik, rfl, rfl, rfl⟩ := hrel
    by_cases hi8 : i < 8
    · have hc := unhide CELLS i (by simp [beginL]; omega)
      have A1 := hide ((unhide HP0).is (beginL[i]'(by simp [beginL]; omega)))
      have STP := hide (show (beginL.take (i + 1)).any (fun x => isP st x) = ((beginL.take i).any (fun x => isP st x) || isP st (beginL[i]'(by simp [beginL]; omega))) from by rw [List.take_succ_eq_append_getElem (by simp [beginL]; omega), List.any_append]; simp)
      generalize (beginL.take i).any (fun x => isP st x) = b0 at *
      generalize isP st (beginL[i]'(by simp [beginL]; omega)) = b1 at *
      generalize beginL[i]'(by simp [beginL]; omega) = wd at *
      have hi9 : (i : Int) < 8 := by omega
      go_wp2_with fail
      refine (unhide A1).mono ?_
      rintro e w0 ⟨rfl, rfl⟩
      cases b0 <;>
        (go_wp2_with fail; go_roundg (8 - (i + 1)); (case measure => omega); (case rel => exact ⟨i + 1, by omega, by go_num, by rw [unhide STP]; simp, rfl⟩))
    · obtain rfl : i = 8 := by omega
      have hbe : (beginL.take 8).any (fun x => isP st x) = beginsP st := rfl
      rw [hbe]
      clear hbe
      cases hbs : beginsP st
      focus
        go_wp2_with fail
        refine ((unhide HP0).fail).mono ?_
        rintro e wa ⟨rfl, hpa, hfa⟩
        have HPA := hide (show PA wa pb s st0 O from by rw [unhide HST, if_neg (by rw [hbs]; simp)]; exact hpa)
        have HFA := hide hfa
        clear hpa hfa hbs
      rotate_left
      focus
        have HPA := hide (show PA _ pb s st0 O from by rw [unhide HST, if_pos hbs]; exact unhide HP0)
        have HFA := hide (Fr.refl O wr)
        clear hbs
      all_goals
        go_wp2_with fail
        refine (take_any (unhide HPA) (unhide K0)).mono ?_
        rintro e wt ⟨rfl, Ot, hpt, hft⟩
        have hlt : w.heap.size + 1 < wt.heap.size := by have h1 := hft.size; have h2 := (unhide HFA).size; have h3 := unhide HSZ; omega
        have HFT := hide ((((unhide HF0).trans (unhide HFA)).trans hft).alloc (.cells (treeCells st0.next.text ⟨#[]⟩ 0 0 (.slice none 0 0)) 115))
        have NAT := hide (show ¬ Ot w.heap.size from fun h => by
          rcases hft.own _ h with h | h
          · exact unhide N0 h
          · have h2 := (unhide HFA).size; have h3 := unhide HSZ; omega)
        have NBT := hide (show ¬ Ot wt.heap.size from fun h => by have := hpt.lt h; omega)
        have Q0T := hide (show (wt.alloc (.cells (treeCells st0.next.text ⟨#[]⟩ 0 0 (.slice none 0 0)) 115)).heap[w.heap.size]? = some (.cells treeZ 115 (0, 0)) from by
          have h3 := unhide HSZ
          have h4 := (unhide HFA).size
          rw [Below.heap_alloc _ _ _ (by omega), hft.block _ (by omega) (unhide N0), (unhide HFA).block _ (by omega) (unhide N0)]; exact unhide HQ0)
        have Q1T := hide (heap_alloc_new wt (.cells (treeCells st0.next.text ⟨#[]⟩ 0 0 (.slice none 0 0)) 115))
        have HPT := hide (hpt.alloc (.cells (treeCells st0.next.text ⟨#[]⟩ 0 0 (.slice none 0 0)) 115))
        have hzt : (wt.alloc (.cells (treeCells st0.next.text ⟨#[]⟩ 0 0 (.slice none 0 0)) 115)).heap.size = wt.heap.size + 1 := by simp
        have HZT := hide hzt
        clear hpt hft HPA HFA HP0 HF0 K HST CELLS HSZ HQ0 hzt
        go_wp2_with fail
        refine (unhide HCI 0 _ _ _ _ (by omega) (unhide HPT) (unhide K0).take (unhide HC)).mono ?_
        rintro e w3 ⟨v, O3, rfl, hp3, hf3, ht3, hk3⟩
        obtain ⟨cop, ctext, cn, ca, co, cc, cl, rfl⟩ := ht3.form
        have H3 := hide (hp3.alloc (.cells (treeCells cop ctext cn ca (.slice co cc cl)) 115))
        have F3 := hide hf3
        have T3 := hide ht3
        have K3 := hide hk3
        have N3 := hide (show ¬ O3 w3.heap.size from fun h => by have := hp3.lt h; omega)
        clear hp3 hf3 ht3 hk3
        go_wp2_with fail
        refine (need_any (unhide H3) (unhide K3) _).mono ?_
        rintro e w4 ⟨rfl, O4, hp4, hf4⟩
        have H4 := hide hp4
        have F4 := hide (((Fr.refl O3 w3).alloc (.cells (treeCells cop ctext cn ca (.slice co cc cl)) 115)).trans hf4)
        have Q4 := hide ((hf4.block w3.heap.size (by simp) (unhide N3)).trans (heap_alloc_new w3 _))
        have N4 := hide (show ¬ O4 w3.heap.size from fun h => by
          rcases hf4.own _ h with h | h
          · exact unhide N3 h
          · simp at h; omega)
        clear hp4 hf4
        go_wp2_with fail
        refine (unhide HBI _ _ _ _ (unhide H4) ((unhide K3).need _) (unhide HB)).mono ?_
        rintro e w5 ⟨v, O5, rfl, hp5, hf5, ht5, hk5⟩
        obtain ⟨bop, btext, bn, ba, bo, bc, bl, rfl⟩ := ht5.form
        have F35 := hide ((unhide F4).trans hf5)
        have F5 := hide (((unhide F3).trans (unhide F35)).alloc (.cells (treeCells bop btext bn ba (.slice bo bc bl)) 115))
        have l3 : (wt.alloc (.cells (treeCells st0.next.text ⟨#[]⟩ 0 0 (.slice none 0 0)) 115)).heap.size ≤ w3.heap.size := (unhide F3).size
        have l4 : w3.heap.size ≤ w4.heap.size := (unhide F4).size
        have l5 : w4.heap.size ≤ w5.heap.size := hf5.size
        have hX1 : w3.heap.size < w5.heap.size := Nat.lt_of_lt_of_le (heap_lt (unhide Q4)) l5
        have qX := (hf5.block w3.heap.size (heap_lt (unhide Q4)) (unhide N4)).trans (unhide Q4)
        obtain ⟨x0, x1, x2, x3, x4⟩ := cells5 qX
        have H5 := hide (hp5.alloc (.cells (treeCells bop btext bn ba (.slice bo bc bl)) 115))
        have K5 := hide hk5
        have TC := hide (show TrAt (w5.alloc (.cells (treeCells bop btext bn ba (.slice bo bc bl)) 115)) (fun k => O5 k ∨ k < (wt.alloc (.cells (treeCells st0.next.text ⟨#[]⟩ 0 0 (.slice none 0 0)) 115)).heap.size) cT (treeV cop ctext cn ca (.slice co cc cl)) from TrAt.step ((unhide F35).alloc _) (fun k hk => Or.inl hk) (fun k hk => by
          rcases hk with h | h
          · rcases (unhide F35).own _ h with h1 | h1
            · exact Or.inl (Or.inl h1)
            · exact Or.inr h1
          · exact Or.inl (Or.inr h)) _ _ (unhide T3))
        have TB := hide (show TrAt (w5.alloc (.cells (treeCells bop btext bn ba (.slice bo bc bl)) 115)) (fun k => O5 k ∨ k < (wt.alloc (.cells (treeCells st0.next.text ⟨#[]⟩ 0 0 (.slice none 0 0)) 115)).heap.size) bT (treeV bop btext bn ba (.slice bo bc bl)) from TrAt.step ((Fr.refl O5 w5).alloc _) (fun k hk => Or.inl hk) (fun k hk => by
          rcases hk with h | h
          · exact Or.inl (Or.inl h)
          · exact Or.inl (Or.inr (by omega))) _ _ ht5)
        have hzt := unhide HZT
        have hzB5 : wt.heap.size < w5.heap.size := by omega
        have qB5 := (((unhide F3).trans (unhide F35)).block wt.heap.size (heap_lt (unhide Q1T)) (unhide NBT)).trans (unhide Q1T)
        have s4 : w5.cell? ⟨wt.heap.size, 4, none⟩ = some (.slice none 0 0) := cell_of_heap qB5
        have QB5 := hide qB5
        have TU0 := hide (TrOpen.nil (wt.alloc (.cells (treeCells st0.next.text ⟨#[]⟩ 0 0 (.slice none 0 0)) 115)) (fun k => Ot k ∨ k ≤ w.heap.size ∨ k = wt.heap.size))
        have OW := hide (World.ownsRow_nil w5 0 115 5)
        have NKB := hide (show some wt.heap.size ≠ (Value.slice none 0 0).ownBlock from fun e => by simp [Value.ownBlock] at e)
        clear hp5 hf5 ht5 hk5 qX qB5 hzt l3 l4 l5
        go_wp2_with (at_builtin; refine wpList_append_lies _ rfl _ _ _ rfl 0 115 i0 _ 5 72 Tryz.underlying113 hi0 hz0 hz1 hz2 rfl (by omega) (.slice none 0 0) 0 [] rfl (((unhide OW).alloc _).alloc _) ⟨w5.heap.size + 1, 0, none⟩ 2 2 [.string cop, .string ctext, .int .i64 cn, .int .i64 ca, .slice co cc cl, .string bop, .string btext, .int .i64 bn, .int .i64 ba, .slice bo bc bl] rfl rfl (World.news_of_block (cs := #[.string cop, .string ctext, .int .i64 cn, .int .i64 ca, .slice co cc cl, .string bop, .string btext, .int .i64 bn, .int .i64 ba, .slice bo bc bl]) (t := 115) (fr := (0, 0)) (two_alloc w5 _ _ _ _).2) (by simp [Value.oneCell']) (by omega) (by simp [maxLen]) (by omega) (by omega) (w5.heap.size + 2) (by simp) ?_; intro gg cap w' hown hgrow hat hltg; have qB' : w'.heap[wt.heap.size]? = some (.cells (treeCells st0.next.text ⟨#[]⟩ 0 0 (.slice none 0 0)) 115 (0, 0)) := ((hgrow.block wt.heap.size (by simp; omega) (unhide NKB)).trans ((Below.heap_alloc _ _ _ (by simp; omega)).trans ((Below.heap_alloc _ _ _ (by omega)).trans (unhide QB5)))); have c4 : w'.cell? ⟨wt.heap.size, 4, none⟩ = some (.slice none 0 0) := (cell_of_heap qB'); have z4 : w'.frozen? ⟨wt.heap.size, 4, none⟩ = false := (frozen_of_heap qB'); clear qB')
        have FIN := hide (kid_round2 (kids := []) (unhide HFT) (unhide F5) (unhide H5) (unhide Q0T) (unhide Q1T) (unhide NAT) (unhide NBT) (by omega) (unhide TU0) (unhide TC) (unhide TB) hgrow hown (by rcases hat with h | h; exact Or.inl h; exact Or.inr (by simp; omega)))
        generalize hW : w'.setCell ⟨wt.heap.size, 4, none⟩ (.slice (some ⟨gg, 0, none⟩) 2 cap) = W at *
        clear hW hown hgrow hat hltg c4 z4 s4 x0 x1 x2 x3 x4
        obtain ⟨f1, f2, f3, f4, f5, f6, f7⟩ := unhide FIN
        have G1 := hide f1
        have G2 := hide f2
        have G3 := hide f3
        have G4 := hide f4
        have G5 := hide f5
        have G6 := hide f6
        have G7 := hide f7
        clear f1 f2 f3 f4 f5 f6 f7 FIN
        have A1 := hide ((unhide G1).is wElse)
        refine (unhide A1).mono ?_
        rintro e w0 ⟨rfl, rfl⟩
        rcases unhide HZ with ⟨hel, rfl⟩ | ⟨hel, st4, x, hx, rfl⟩
        all_goals clear HZ
        · rw [hel]
          have qR := unhide G3
          have qB := unhide G4
          obtain ⟨r0, r1, r2, r3, r4⟩ := cells5 qR
          have zr : ∀ ob, w0.frozen? ⟨w.heap.size, ob, none⟩ = false := fun ob => frozen_of_heap qR
          obtain ⟨s0, s1, s2, s3, s4⟩ := cells5 qB
          have HN := G5
          have HP := G1
          have HF := G2
          have TT := hide ((unhide G7).at st0.next.text ⟨#[]⟩ 0 0)
          have f0 : Fr (fun k => O5 k ∨ k = w.heap.size) w0 (fun k => O5 k ∨ k = w.heap.size) w0 := (Fr.refl O5 w0).join (fun k => k = w.heap.size)
          have F0 := hide f0
          clear qR qB f0 A1
          go_wp2_with fail
          refine bodyPost_ret (v := treeV st0.next.text ⟨#[]⟩ 0 0 (.slice (some ⟨gg, 0, none⟩) 2 cap)) (by simp [results, Tryz.results70, go_sem, r0, r1, r2, r3, r4]) rfl ⟨_, O5, rfl, ?_, ?_, ?_, unhide K5⟩
          · repeat with_reducible first | refine PA.other ?_ (unhide HN) _ _ | refine PA.alloc ?_ _ | refine PA.drew ?_ | refine PA.drewN ?_ _ | exact unhide HP
          · repeat with_reducible first | refine Fr.setCell ?_ (Or.inr (Nat.le_refl _)) _ | refine Fr.setCell ?_ (Or.inl (unhide HO)) _ | refine Fr.alloc ?_ _ | refine Fr.drew ?_ | refine Fr.drewN ?_ _ | exact unhide HF | exact Fr.refl _ _
          · refine TrAt.step (O := fun k => O5 k ∨ k = w.heap.size) (O' := fun k => O5 k ∨ k = w.heap.size) (w := w0) ?_ ?_ ?_ _ _ (unhide TT)
            · repeat with_reducible first | refine Fr.setCell ?_ (Or.inl (Or.inr rfl)) _ | exact unhide F0
            · intro k hk
              rcases hk with h | h
              · exact Or.inl h
              · exact Or.inr (Or.inl (by omega))
            · intro k hk
              rcases hk with h | h
              · exact Or.inl (Or.inl h)
              · exact Or.inl (Or.inr (Or.inl (by omega)))
        · have HX := hide hx
          clear hx
          rw [hel]
          go_wp2_with fail
          refine (take_any (unhide G1) (unhide K5)).mono ?_
          rintro e w7 ⟨rfl, O7, hp7, hf7⟩
          have H7 := hide hp7
          have F7 := hide hf7
          clear hp7 hf7
          go_wp2_with fail
          refine (unhide HBI _ _ _ _ (unhide H7) (unhide K5).take (unhide HX)).mono ?_
          rintro e w4' ⟨v, O8, rfl, hp8, hf8, ht8, hk8⟩
          obtain ⟨xop, xtext, xn, xa, xo, xc, xl, rfl⟩ := ht8.form
          have H8 := hide hp8
          have F8 := hide ((unhide F7).trans hf8)
          have T8 := hide (show TrAt w4' (fun k => O8 k ∨ k < w0.heap.size) x _ from TrAt.keep (fun _ _ _ => rfl) (fun k _ h => by rcases h with h | h; exact Or.inl h; exact Or.inr (Nat.lt_of_lt_of_le h (unhide F7).size)) _ _ ht8)
          have K8 := hide hk8
          have hl8 : w0.heap.size ≤ w4'.heap.size := (unhide F8).size
          have hB8 : wt.heap.size < w4'.heap.size := Nat.lt_of_lt_of_le (heap_lt (unhide G4)) hl8
          have qB8 := ((unhide F8).block wt.heap.size (heap_lt (unhide G4)) (unhide G6)).trans (unhide G4)
          have s4 : w4'.cell? ⟨wt.heap.size, 4, none⟩ = some (.slice (some ⟨gg, 0, none⟩) 2 cap) := cell_of_heap qB8
          have QB8 := hide qB8
          have OW8 := hide (show w4'.ownsRow 0 115 5 (.slice (some ⟨gg, 0, none⟩) 2 cap) 2 [.string cop, .string ctext, .int .i64 cn, .int .i64 ca, .slice co cc cl, .string bop, .string btext, .int .i64 bn, .int .i64 ba, .slice bo bc bl] from owns_of (unhide G7).1 (fun k hk => (unhide F8).block k ((unhide G7).1.lt k hk).2 (fun h => (unhide G7).2.1 k hk (Or.inl h))))
          have NKB8 := hide (show some wt.heap.size ≠ (Value.slice (some ⟨gg, 0, none⟩) 2 cap).ownBlock from fun e => (unhide G7).2.1 _ e.symm (Or.inr (Or.inr rfl)))
          clear hp8 hf8 ht8 hk8 qB8
          go_wp2_with (at_builtin; refine wpList_append_lies _ rfl _ _ _ rfl 0 115 i0 _ 5 72 Tryz.underlying113 hi0 hz0 hz1 hz2 rfl (by omega) (.slice (some ⟨gg, 0, none⟩) 2 cap) 2 [.string cop, .string ctext, .int .i64 cn, .int .i64 ca, .slice co cc cl, .string bop, .string btext, .int .i64 bn, .int .i64 ba, .slice bo bc bl] rfl (((unhide OW8).alloc _).alloc _) ⟨w4'.heap.size + 1, 0, none⟩ 1 1 [.string xop, .string xtext, .int .i64 xn, .int .i64 xa, .slice xo xc xl] rfl rfl (World.news_of_block (cs := #[.string xop, .string xtext, .int .i64 xn, .int .i64 xa, .slice xo xc xl]) (t := 115) (fr := (0, 0)) (two_alloc w4' _ _ _ _).2) (by simp [Value.oneCell']) (by omega) (by simp [maxLen]) (by omega) (by omega) (w4'.heap.size + 2) (by simp) ?_; intro gh caq w9 hown hgrow hat hltg; have qB' : w9.heap[wt.heap.size]? = some (.cells (treeCells st0.next.text ⟨#[]⟩ 0 0 (.slice (some ⟨gg, 0, none⟩) 2 cap)) 115 (0, 0)) := ((hgrow.block wt.heap.size (by simp; omega) (unhide NKB8)).trans ((Below.heap_alloc _ _ _ (by simp; omega)).trans ((Below.heap_alloc _ _ _ (by omega)).trans (unhide QB8)))); have qR' : w9.heap[w.heap.size]? = some (.cells treeZ 115 (0, 0)) := ((hgrow.block w.heap.size (by simp; omega) (fun e => (unhide G7).2.1 _ e.symm (Or.inr (Or.inl (Nat.le_refl _))))).trans ((Below.heap_alloc _ _ _ (by simp; omega)).trans ((Below.heap_alloc _ _ _ (by omega)).trans (((unhide F8).block _ (heap_lt (unhide G3)) (unhide G5)).trans (unhide G3))))); have c4 : w9.cell? ⟨wt.heap.size, 4, none⟩ = some (.slice (some ⟨gg, 0, none⟩) 2 cap) := (cell_of_heap qB'); have zB : ∀ ob, w9.frozen? ⟨wt.heap.size, ob, none⟩ = false := (fun ob => frozen_of_heap qB'); have b0 : w9.cell? ⟨wt.heap.size, 0, none⟩ = some (.string st0.next.text) := (cell_of_heap qB'); have b1 : w9.cell? ⟨wt.heap.size, 1, none⟩ = some (.string ⟨#[]⟩) := (cell_of_heap qB'); have b2 : w9.cell? ⟨wt.heap.size, 2, none⟩ = some (.int .i64 0) := (cell_of_heap qB'); have b3 : w9.cell? ⟨wt.heap.size, 3, none⟩ = some (.int .i64 0) := (cell_of_heap qB'); have r0 : w9.cell? ⟨w.heap.size, 0, none⟩ = some (.string ⟨#[]⟩) := (cell_of_heap qR'); have r1 : w9.cell? ⟨w.heap.size, 1, none⟩ = some (.string ⟨#[]⟩) := (cell_of_heap qR'); have r2 : w9.cell? ⟨w.heap.size, 2, none⟩ = some (.int .i64 0) := (cell_of_heap qR'); have r3 : w9.cell? ⟨w.heap.size, 3, none⟩ = some (.int .i64 0) := (cell_of_heap qR'); have r4 : w9.cell? ⟨w.heap.size, 4, none⟩ = some (.slice none 0 0) := (cell_of_heap qR'); have zr : ∀ ob, w9.frozen? ⟨w.heap.size, ob, none⟩ = false := (fun ob => frozen_of_heap qR'); have nRB : w.heap.size ≠ wt.heap.size := (by omega); clear qB' qR')
          have FIN := hide (kid_round (kids := [cT, bT]) (unhide G2) (unhide F8) (unhide H8) (unhide G3) (unhide G4) (unhide G5) (unhide G6) (by omega) (unhide G7) (unhide T8) hgrow hown hat)
          simp only [List.length_cons, List.length_nil, Nat.zero_add, Nat.reduceAdd] at FIN
          generalize hW : w9.setCell ⟨wt.heap.size, 4, none⟩ (.slice (some ⟨gh, 0, none⟩) 3 caq) = W at *
          clear hW hown hgrow hat hltg c4 zB b0 b1 b2 b3 r0 r1 r2 r3 r4 zr nRB
          obtain ⟨f1, f2, f3, f4, f5, f6, f7⟩ := unhide FIN
          obtain ⟨r0, r1, r2, r3, r4⟩ := cells5 f3
          have HP := hide f1
          have HF := hide f2
          have HN := hide f5
          have TT := hide (f7.at st0.next.text ⟨#[]⟩ 0 0)
          have F0 := hide ((Fr.refl O8 W).join (fun k => k = w.heap.size))
          refine bodyPost_ret (v := treeV st0.next.text ⟨#[]⟩ 0 0 (.slice (some ⟨gh, 0, none⟩) 3 caq)) (by simp [results, Tryz.results70, go_sem, r0, r1, r2, r3, r4]) rfl ⟨_, O8, rfl, ?_, ?_, ?_, unhide K8⟩
          · repeat with_reducible first | refine PA.other ?_ (unhide HN) _ _ | refine PA.alloc ?_ _ | refine PA.drew ?_ | refine PA.drewN ?_ _ | exact unhide HP
          · repeat with_reducible first | refine Fr.setCell ?_ (Or.inr (Nat.le_refl _)) _ | refine Fr.setCell ?_ (Or.inl (unhide HO)) _ | refine Fr.alloc ?_ _ | refine Fr.drew ?_ | refine Fr.drewN ?_ _ | exact unhide HF | exact Fr.refl _ _
          · refine TrAt.step (O := fun k => O8 k ∨ k = w.heap.size) (O' := fun k => O8 k ∨ k = w.heap.size) (w := W) ?_ ?_ ?_ _ _ (unhide TT)
            · repeat with_reducible first | refine Fr.setCell ?_ (Or.inl (Or.inr rfl)) _ | exact unhide F0
            · intro k hk
              rcases hk with h | h
              · exact Or.inl h
              · exact Or.inr (Or.inl (by omega))
            · intro k hk
              rcases hk with h | h
              · exact Or.inl (Or.inl h)
              · exact Or.inl (Or.inr (Or.inl (by omega)))


theorem stmt_any (pb : Nat) (s : ByteArray) (f : Nat) (IS : ∀ g, g ≤ f → SumC pb s g) (IC : ∀ g, g ≤ f → CondC pb s g) (IB : ∀ g, g ≤ f → BlockC pb s g) : StmtC pb s (f + 1) := by
  intro w st O r h hk hr
  rw [stmtTw] at hr
  obtain ⟨st0, hst0⟩ : ∃ st0, st0 = if beginsP st = true then st else failP st := ⟨_, rfl⟩
  rw [← hst0] at hr
  cases f with
  | zero => rw [stmtRest] at hr; cases hr
  | succ f =>
    rw [stmtRest] at hr
    have IS := IS f (by omega)
    have IC := IC f (by omega)
    have IB := IB f (by omega)
    unfold eqB at hr
    cases e0 : (st0.next.text.toList == lPref) with
    | true =>
      rw [if_pos (Or.inl e0)] at hr
      cases ht : sumTw s f (needP s (takeP s st0) wEq) with
      | none => rw [ht] at hr; cases hr
      | some p => rw [ht] at hr; obtain rfl := Option.some.inj hr; exact stmt_pref pb s w st st0 O h hk hst0 f IS p.1 p.2 ht e0
    | false =>
    cases e1 : (st0.next.text.toList == lMed) with
    | true =>
      rw [if_pos (Or.inr e1)] at hr
      cases ht : sumTw s f (needP s (takeP s st0) wEq) with
      | none => rw [ht] at hr; cases hr
      | some p => rw [ht] at hr; obtain rfl := Option.some.inj hr; exact stmt_med pb s w st st0 O h hk hst0 f IS p.1 p.2 ht e0 e1
    | false =>
    rw [if_neg (by simp [e0, e1])] at hr
    cases e2 : (st0.next.text.toList == lMark) with
    | true => rw [if_pos (Or.inl e2)] at hr; obtain rfl := Option.some.inj hr; exact stmt_mark pb s w st st0 O h hk hst0 e0 e1 e2
    | false =>
    cases e3 : (st0.next.text.toList == lUnmark) with
    | true => rw [if_pos (Or.inr (Or.inl e3))] at hr; obtain rfl := Option.some.inj hr; exact stmt_unmark pb s w st st0 O h hk hst0 e0 e1 e2 e3
    | false =>
    cases e4 : (st0.next.text.toList == lPrepend) with
    | true => rw [if_pos (Or.inr (Or.inr e4))] at hr; obtain rfl := Option.some.inj hr; exact stmt_prepend pb s w st st0 O h hk hst0 e0 e1 e2 e3 e4
    | false =>
    rw [if_neg (by simp [e2, e3, e4])] at hr
    cases e5 : (st0.next.text.toList == lIf) with
    | true =>
      rw [if_pos e5] at hr
      cases hc : condTw s f 0 (takeP s st0) with
      | none => rw [hc] at hr; cases hr
      | some p =>
        rw [hc] at hr
        cases hb : blockTw s f (needP s p.1 wThen) with
        | none => simp only [hb] at hr; cases hr
        | some q =>
          simp only [hb] at hr
          cases hel : isP q.1 wElse with
          | true =>
            rw [if_pos hel] at hr
            cases hx : blockTw s f (takeP s q.1) with
            | none => rw [hx] at hr; cases hr
            | some z => rw [hx] at hr; obtain rfl := Option.some.inj hr; exact stmt_ife pb s w st st0 O h hk hst0 f IC IB p.1 p.2 hc q.1 q.2 hb _ (Or.inr ⟨hel, _, _, hx, rfl⟩) e0 e1 e2 e3 e4 e5
          | false =>
            rw [if_neg (by rw [hel]; simp)] at hr
            obtain rfl := Option.some.inj hr; exact stmt_ife pb s w st st0 O h hk hst0 f IC IB p.1 p.2 hc q.1 q.2 hb _ (Or.inl ⟨hel, rfl⟩) e0 e1 e2 e3 e4 e5
    | false =>
      rw [if_neg (by rw [e5]; simp)] at hr
      obtain rfl := Option.some.inj hr; exact stmt_flat pb s w st st0 O h hk hst0 e0 e1 e2 e3 e4 e5

theorem stmts (pb : Nat) (s : ByteArray) (f : Nat) (hf0 : f ≤ 1000000) : (∀ g, g ≤ f → BlockC pb s g) ∧ (∀ g, g ≤ f → StmtC pb s g) := by
  induction f with
  | zero =>
    refine ⟨fun g hg => ?_, fun g hg => ?_⟩
    · obtain rfl : g = 0 := by omega
      intro w st O r _ _ hr; rw [blockTw] at hr; cases hr
    · obtain rfl : g = 0 := by omega
      intro w st O r _ _ hr; rw [stmtTw] at hr; cases hr
  | succ f ih =>
    have ih := ih (by omega)
    refine ⟨fun g hg => ?_, fun g hg => ?_⟩
    · by_cases e : g = f + 1
      · subst e; exact block_any pb s f (by omega) ih.2
      · exact ih.1 g (by omega)
    · by_cases e : g = f + 1
      · subst e; exact stmt_any pb s f (sum_term pb s f).1 (conds pb s f) ih.1
      · exact ih.2 g (by omega)
end Go.Proofs.YtgdeeodifnegiaaGreatDoor.rf
