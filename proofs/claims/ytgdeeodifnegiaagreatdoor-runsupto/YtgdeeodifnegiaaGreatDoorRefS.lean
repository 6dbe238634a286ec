/- The reference's statements: the twins; block, out of statement's contract. -/
import Derived.Test.YtgdeeodifnegiaaGreatDoorRefR
namespace Go.Proofs.YtgdeeodifnegiaaGreatDoor.rf
open Go.RowKit

def BlockC (pb : Nat) (s : ByteArray) (f : Nat) : Prop := ∀ (w : World) (st : PS) (O : Nat → Prop) (r : PS × Tr), PA w pb s st O → Ok s st → blockTw s f st = some r → Calls Tryz.prog 126 #[ptr pb] w (TreeC pb s w O r)
def StmtC (pb : Nat) (s : ByteArray) (f : Nat) : Prop := ∀ (w : World) (st : PS) (O : Nat → Prop) (r : PS × Tr), PA w pb s st O → Ok s st → stmtTw s f st = some r → Calls Tryz.prog 70 #[ptr pb] w (TreeC pb s w O r)

theorem Ok.line {s : ByteArray} {st : PS} (h : Ok s st) : Ok s (lineP st) := by
  unfold lineP; split
  · exact ⟨h.hs, h.hi, h.tk0, h.tk, by show (st.lines.set _ true).length = _; rw [List.length_set]; exact h.ln, h.tx⟩
  · exact h
theorem PA.line {w : World} {pb : Nat} {s : ByteArray} {st : PS} {O : Nat → Prop} (h : PA w pb s st O) (hk : Ok s st) (hl : st.bad < 0 → 0 < st.lines.length) :
    Calls Tryz.prog 177 #[ptr pb] w fun e w' => e = .returned (.tuple #[]) ∧ PA w' pb s (lineP st) O ∧ Fr O w O w' := by
  obtain ⟨tv, lv, hp, rfl⟩ := h
  have h1 := hk.tk0
  have h2 := hk.hi
  have h3 := hk.hs
  have h4 := hk.ln
  refine (line_any hp hl (by omega)).mono ?_
  rintro e w' ⟨rfl, h1, h2⟩
  exact ⟨rfl, ⟨tv, lv, h1, rfl⟩, h2⟩
theorem need_lines (s : ByteArray) (st : PS) (x : ByteArray) (h : (needP s st x).bad < 0) : 0 < (needP s st x).lines.length := by
  unfold needP at h ⊢
  by_cases hi : isP st x = true
  · rw [if_pos hi] at h ⊢
    unfold takeP at h ⊢
    by_cases h1 : st.next.kind = 33 ∨ st.next.kind = 46
    · rw [if_pos h1] at h; have := failP_bad st; omega
    · rw [if_neg h1] at h ⊢
      by_cases h2 : st.bad < 0
      · rw [if_pos h2]; show 0 < (st.lines ++ [isSemi st.next]).length; simp
      · rw [if_neg h2] at h; omega
  · rw [if_neg hi] at h; have := failP_bad st; omega

theorem blockLp_pos {s : ByteArray} {k : Nat} {st : PS} {kids : List Tr} {r : PS × Tr} (h : blockLp s k st kids = some r) : ∃ g, k = g + 1 := by
  cases k with
  | zero => rw [blockLp] at h; cases h
  | succ g => exact ⟨g, rfl⟩
theorem blockLp_more {s : ByteArray} {g : Nat} {st : PS} {kids : List Tr} {r : PS × Tr} (h : blockLp s (g + 1) st kids = some r) (h1 : isP st wBrace2 = false ∧ st.bad < 0) : ∃ s1 x, stmtTw s g st = some (s1, x) ∧ blockLp s g s1 (kids ++ [x]) = some r := by
  rw [blockLp, if_pos h1] at h
  cases ht : stmtTw s g st with
  | none => rw [ht] at h; cases h
  | some p => rw [ht] at h; exact ⟨p.1, p.2, rfl, h⟩
theorem blockLp_stop {s : ByteArray} {g : Nat} {st : PS} {kids : List Tr} {r : PS × Tr} (h : blockLp s (g + 1) st kids = some r) (h1 : ¬ (isP st wBrace2 = false ∧ st.bad < 0)) : r = (decP (lineP (needP s st wBrace2)), .mk wBlock ⟨#[]⟩ 0 0 kids) := by
  rw [blockLp, if_neg h1] at h
  exact (Option.some.inj h).symm

set_option maxRecDepth 100000 in
set_option maxHeartbeats 3200000 in
theorem block_any (pb : Nat) (s : ByteArray) (f : Nat) (hf0 : f ≤ 1000000) (IH : ∀ g, g ≤ f → StmtC pb s g) : BlockC pb s (f + 1) := by
  intro w st O r h hk hr
  rw [blockTw] at hr
  obtain ⟨i0, hi0, hz0, hz1, hz2⟩ := info_parts Tryz.infoTree
  have lp : pb < w.heap.size := h.lt h.own
  have N0 := hide (show ¬ O w.heap.size from fun hk => by have := h.lt hk; omega)
  have N1 := hide (show ¬ O (w.heap.size + 1) from fun hk => by have := h.lt hk; omega)
  have HP0 := hide ((h.alloc (.cells treeZ 115)).alloc (.cells (treeCells wBlock ⟨#[]⟩ 0 0 (.slice none 0 0)) 115))
  have HF0 := hide (((Fr.refl O w).alloc (.cells treeZ 115)).alloc (.cells (treeCells wBlock ⟨#[]⟩ 0 0 (.slice none 0 0)) 115))
  have K := hide hk
  have HL := hide hr
  have HIH := hide IH
  clear h hk hr IH
  go_enter Tryz.func126, Tryz.ntmps126
  go_wp2_with fail
  refine ((unhide HP0).is _).mono ?_
  rintro e w0 ⟨rfl, rfl⟩
  -- as far as the '{'
  have ahead : ∃ st0, (if isP st wBrace = true then opensP st else st) = st0 := ⟨_, rfl⟩
  obtain ⟨st0, hst0⟩ := ahead
  rw [hst0] at HL
  have K0 := hide (show Ok s st0 from by rw [← hst0]; split; exact (unhide K).opens; exact unhide K)
  have HST := hide hst0
  clear hst0
  cases hbr : isP st wBrace
  focus
    have HE := hide (show st0 = st from by have h := unhide HST; rw [if_neg (by rw [hbr]; simp)] at h; exact h.symm)
    rw [show isP st { data := #[123] } = false from hbr]
    have HPA := hide (show PA _ pb s st0 O from by rw [unhide HE]; exact unhide HP0)
    have HFA := hide (Fr.refl O ((w.alloc (.cells treeZ 115)).alloc (.cells (treeCells wBlock ⟨#[]⟩ 0 0 (.slice none 0 0)) 115)))
  rotate_left
  focus
    have HE := hide (show st0 = opensP st from by have h := unhide HST; rw [if_pos hbr] at h; exact h.symm)
    rw [show isP st { data := #[123] } = true from hbr]
    go_wp2_with fail
    refine ((unhide HP0).opens).mono ?_
    rintro e wa ⟨rfl, hpa, hfa⟩
    rw [← unhide HE] at hpa
    have HPA := hide hpa
    have HFA := hide hfa
    clear hpa hfa
  all_goals
    go_wp2_with fail
    refine (need_any (unhide HPA) (unhide K0) _).mono ?_
    rintro e wb ⟨rfl, Ob, hpb, hfb⟩
    have HPB := hide hpb
    have HFB := hide ((unhide HFA).trans hfb)
    clear hpb hfb
    go_wp2_with fail
    refine ((unhide HPB).line ((unhide K0).need _) (need_lines s st0 _)).mono ?_
    rintro e wc ⟨rfl, hpc, hfc⟩
    have HPC := hide hpc
    have HFC := hide ((unhide HFB).trans hfc)
    clear hpc hfc
    go_wp2_with fail
    refine ((unhide HPC).is _).mono ?_
    rintro e w0 ⟨rfl, rfl⟩
    go_wp2_with fail
    go_loopg [5] f (fun k b5 wr => ∃ (su : PS) (kids : List Tr) (kv : Value) (xs : List Value) (O1 : Nat → Prop), kids.length + k ≤ f ∧ PA wr pb s su O1 ∧ Ok s su ∧ Fr O w O1 wr ∧ wr.heap[w.heap.size]? = some (.cells treeZ 115 (0, 0)) ∧ wr.heap[w.heap.size + 1]? = some (.cells (treeCells wBlock ⟨#[]⟩ 0 0 kv) 115 (0, 0)) ∧ ¬ O1 w.heap.size ∧ ¬ O1 (w.heap.size + 1) ∧ TrOpen wr (fun k => O1 k ∨ k ≤ w.heap.size ∨ k = w.heap.size + 1) kids kv xs ∧ b5 = .bool (isP su wBrace2) ∧ blockLp s k su kids = some r)
    case atStart =>
      have hfc := unhide HFC
      refine ⟨_, [], .slice none 0 0, [], Ob, by simp, unhide HPC, ((unhide K0).need _).line, (unhide HF0).trans hfc, (hfc.block _ (by simp; omega) (unhide N0)).trans (two_alloc w _ _ _ _).1, (hfc.block _ (by simp) (unhide N1)).trans (two_alloc w _ _ _ _).2, fun h => ?_, fun h => ?_, TrOpen.nil _ _, rfl, unhide HL⟩
      · rcases hfc.own _ h with h | h
        · exact unhide N0 h
        · simp at h; omega
      · rcases hfc.own _ h with h | h
        · exact unhide N1 h
        · simp at h; omega
    case round =>
      clear HP0 HF0 K HL N0 N1 HPA HFA HPB HFB HPC HFC K0 HST
      obtain ⟨su, kids, kv, xs, O1, hkl, hp, hk, hf, q0, q1, n0, n1, htu, rfl, hl⟩ := hrel
      obtain ⟨g, rfl⟩ := blockLp_pos hl
      by_cases hc : isP su wBrace2 = false ∧ su.bad < 0
      · obtain ⟨s1, x, hstm, hl2⟩ := blockLp_more hl hc
        obtain ⟨hc1, hc2⟩ := hc
        have c7 := hp.cell.2.1
        have HP := hide hp
        have HK := hide hk
        have HF := hide hf
        have Q0 := hide q0
        have Q1 := hide q1
        have NA := hide n0
        have NB := hide n1
        have TU := hide htu
        have HSTM := hide hstm
        have HL2 := hide hl2
        have hzB' : w.heap.size + 1 < wr.heap.size := heap_lt q1
        clear hp hk hf q0 q1 n0 n1 htu hl hstm hl2
        rw [hc1]
        go_wp2_with fail
        refine (unhide HIH g (by omega) _ _ _ _ (unhide HP) (unhide HK) (unhide HSTM)).mono ?_
        rintro e w2 ⟨v, O2, rfl, hp2, hf2, ht2, hk2⟩
        obtain ⟨xop, xtext, xn, xa, xo, xc, xl, rfl⟩ := ht2.form
        have qB := (hf2.block (w.heap.size + 1) hzB' (unhide NB)).trans (unhide Q1)
        have s4 : w2.cell? ⟨w.heap.size + 1, 4, none⟩ = some kv := cell_of_heap qB
        have hzB : w.heap.size + 1 < w2.heap.size := heap_lt qB
        have OW := hide (show w2.ownsRow 0 115 5 kv kids.length xs from owns_of (unhide TU).1 (fun k hk => hf2.block k ((unhide TU).1.lt k hk).2 (fun h => (unhide TU).2.1 k hk (Or.inl h))))
        have H2 := hide hp2
        have F2 := hide hf2
        have T2 := hide ht2
        have K2 := hide hk2
        have QB := hide qB
        have NKB := hide (show some (w.heap.size + 1) ≠ kv.ownBlock from fun e => (unhide TU).2.1 _ e.symm (Or.inr (Or.inr rfl)))
        clear hp2 hf2 ht2 hk2 qB
        go_wp2_with (at_builtin; refine wpList_append_lies _ rfl _ _ _ rfl 0 115 i0 _ 5 72 Tryz.underlying113 hi0 hz0 hz1 hz2 rfl (by omega) kv kids.length xs rfl (((unhide OW).alloc _).alloc _) ⟨w2.heap.size + 1, 0, none⟩ 1 1 [.string xop, .string xtext, .int .i64 xn, .int .i64 xa, .slice xo xc xl] rfl rfl (World.news_of_block (cs := #[.string xop, .string xtext, .int .i64 xn, .int .i64 xa, .slice xo xc xl]) (t := 115) (fr := (0, 0)) (two_alloc w2 _ _ _ _).2) (by simp [Value.oneCell']) (by omega) (by simp [maxLen]; omega) (by omega) (by omega) (w2.heap.size + 2) (by simp) ?_; intro gg cap w' hown hgrow hat hlt; have qB' : w'.heap[w.heap.size + 1]? = some (.cells (treeCells wBlock ⟨#[]⟩ 0 0 kv) 115 (0, 0)) := ((hgrow.block (w.heap.size + 1) (by simp; omega) (unhide NKB)).trans ((Below.heap_alloc _ _ _ (by simp; omega)).trans ((Below.heap_alloc _ _ _ (by omega)).trans (unhide QB)))); have c4 : w'.cell? ⟨w.heap.size + 1, 4, none⟩ = some kv := (cell_of_heap qB'); have z4 : w'.frozen? ⟨w.heap.size + 1, 4, none⟩ = false := (frozen_of_heap qB'); clear qB')
        have FIN := hide (kid_round (unhide HF) (unhide F2) (unhide H2) (unhide Q0) (unhide Q1) (unhide NA) (unhide NB) (by omega) (unhide TU) (unhide T2) hgrow hown hat)
        generalize hW : w'.setCell ⟨w.heap.size + 1, 4, none⟩ (.slice (some ⟨gg, 0, none⟩) (kids.length + 1) cap) = W at *
        clear hW hown hgrow hat hlt c4 z4 s4
        obtain ⟨f1, f2, f3, f4, f5, f6, f7⟩ := unhide FIN
        have G1 := hide f1
        clear FIN f1
        have G2 := hide f2
        have G3 := hide f3
        have G4 := hide f4
        have G5 := hide f5
        have G6 := hide f6
        have G7 := hide f7
        clear f2 f3 f4 f5 f6 f7
        refine ((unhide G1).is _).mono ?_
        rintro e w0 ⟨rfl, rfl⟩
        go_wp2_with fail
        go_roundg g
        case measure => omega
        case rel => exact ⟨s1, kids ++ [x], _, _, O2, by simp; omega, unhide G1, unhide K2, unhide G2, unhide G3, unhide G4, unhide G5, unhide G6, unhide G7, rfl, unhide HL2⟩
      · obtain rfl := blockLp_stop hl hc
        have c7 := hp.cell.2.1
        have HP := hide hp
        have HK := hide hk
        have HF := hide hf
        have Q0 := hide q0
        have Q1 := hide q1
        have NA := hide n0
        have NB := hide n1
        obtain ⟨oo, cc, hkv⟩ := htu.form
        have TU := hide (htu.at wBlock ⟨#[]⟩ 0 0)
        have lR := heap_lt q0
        have lB := heap_lt q1
        clear htu
        subst hkv
        have hor : isP su wBrace2 = true ∨ (isP su wBrace2 = false ∧ ¬ su.bad < 0) := by
          cases h1 : isP su wBrace2
          · right; exact ⟨rfl, fun h2 => hc ⟨h1, h2⟩⟩
          · left; rfl
        clear hp hk hf q0 q1 n0 n1 hl hc
        rcases hor with h1 | ⟨h1, h2⟩
        all_goals
          rw [h1]
          go_wp2_with fail
          refine (need_any (unhide HP) (unhide HK) _).mono ?_
          rintro e wd ⟨rfl, Od, hpd, hfd⟩
          have HPD := hide hpd
          have HFD := hide hfd
          clear hpd hfd
          go_wp2_with fail
          refine ((unhide HPD).line ((unhide HK).need _) (need_lines s su _)).mono ?_
          rintro e we ⟨rfl, hpe, hfe⟩
          have hfx := (unhide HFD).trans hfe
          have qR := (hfx.block _ lR (unhide NA)).trans (unhide Q0)
          have qB := (hfx.block _ lB (unhide NB)).trans (unhide Q1)
          obtain ⟨r0, r1, r2, r3, r4⟩ := cells5 qR
          have zr : ∀ ob, we.frozen? ⟨w.heap.size, ob, none⟩ = false := fun ob => frozen_of_heap qR
          obtain ⟨s0, s1, s2, s3, s4⟩ := cells5 qB
          obtain ⟨_, _, c8, zp⟩ := hpe.cell
          have HO := hide hpe.own
          have HN := hide (show ¬ Od w.heap.size from fun h => by
            rcases (unhide HFD).own _ h with h | h
            · exact unhide NA h
            · omega)
          have HP := hide (hpe.setOpn (wrap64 ((lineP (needP s su ⟨#[125]⟩)).opn - 1)))
          have F5 := hide hfx
          have HF := hide ((unhide HF).trans hfx)
          clear hpe hfe hfx qR qB HPD
          go_wp2_with fail
          refine bodyPost_ret (v := treeV wBlock ⟨#[]⟩ 0 0 (.slice oo kids.length cc)) (by simp [results, Tryz.results126, go_sem, r0, r1, r2, r3, r4]) rfl ⟨_, Od, rfl, ?_, ?_, ?_, (((unhide HK).need _).line).opn _⟩
          · refine (show PA _ pb s { lineP (needP s su ⟨#[125]⟩) with opn := wrap64 ((lineP (needP s su ⟨#[125]⟩)).opn - 1) } Od from ?_)
            repeat with_reducible first | refine PA.other ?_ (unhide HN) _ _ | refine PA.alloc ?_ _ | refine PA.drew ?_ | refine PA.drewN ?_ _ | exact unhide HP
          · repeat with_reducible first | refine Fr.setCell ?_ (Or.inr (Nat.le_refl _)) _ | refine Fr.setCell ?_ (Or.inl (unhide HO)) _ | refine Fr.alloc ?_ _ | refine Fr.drew ?_ | refine Fr.drewN ?_ _ | exact unhide HF | exact Fr.refl _ _
          · refine TrAt.step (O := fun k => O1 k ∨ k = w.heap.size) (O' := fun k => Od k ∨ k = w.heap.size) (w := wr) ?_ ?_ ?_ _ _ (unhide TU)
            · repeat with_reducible first | refine Fr.setCell ?_ (Or.inl (Or.inr rfl)) _ | refine Fr.setCell ?_ (Or.inl (Or.inl (unhide HO))) _ | refine Fr.alloc ?_ _ | refine Fr.drew ?_ | refine Fr.drewN ?_ _ | exact (unhide F5).join _
            · intro k hk
              rcases hk with h | h
              · exact Or.inl h
              · exact Or.inr (Or.inl (by omega))
            · intro k hk
              rcases hk with h | h
              · rcases (unhide F5).own k h with h1 | h1
                · exact Or.inl (Or.inl h1)
                · exact Or.inr h1
              · exact Or.inl (Or.inr (Or.inl (by omega)))
end Go.Proofs.YtgdeeodifnegiaaGreatDoor.rf
