/- The reference's cond, whole. -/
import Derived.Test.YtgdeeodifnegiaaGreatDoorRefP
set_option maxRecDepth 100000
set_option maxHeartbeats 3200000
namespace Go.Proofs.YtgdeeodifnegiaaGreatDoor.rf
open Go.RowKit
theorem condLp_pos {s : ByteArray} {k lv : Nat} {st : PS} {t : Tr} {r : PS × Tr} (h : condLp s k lv st t = some r) : ∃ g, k = g + 1 := by
 cases k with
 | zero => rw [condLp] at h; cases h
 | succ g => exact ⟨g, rfl⟩
theorem condLp_stop {s : ByteArray} {g lv : Nat} {st : PS} {t : Tr} {r : PS × Tr} (h1 : isP st (opW lv) = false) (h : condLp s (g + 1) lv st t = some r) : r = (st, t) := by
 rw [condLp, if_neg (by simp [h1])] at h
 exact (Option.some.inj h).symm
theorem condLp_more {s : ByteArray} {g lv : Nat} {st : PS} {t : Tr} {r : PS × Tr} (h1 : isP st (opW lv) = true) (h : condLp s (g + 1) lv st t = some r) :
  ∃ st2 x, condTw s g (lv + 1) (takeP s st) = some (st2, x) ∧ condLp s g lv st2 (.mk (opW lv) ⟨#[]⟩ 0 0 [t, x]) = some r := by
 rw [condLp, if_pos h1] at h
 cases ht : condTw s g (lv + 1) (takeP s st) with
 | none => rw [ht] at h; cases h
 | some p => rw [ht] at h; exact ⟨p.1, p.2, rfl, h⟩
theorem cond_lv (pb : Nat) (s : ByteArray) (f : Nat) (IH : ∀ g, g ≤ f → CondC pb s g) (w : World) (st : PS) (O : Nat → Prop) (r : PS × Tr) (h : PA w pb s st O) (hk : Ok s st) (lv : Nat) (iv : Int) (wd : ByteArray) (hlv : (lv = 0 ∧ iv = 0 ∧ wd = ⟨#[111, 114]⟩) ∨ (lv = 1 ∧ iv = 1 ∧ wd = ⟨#[97, 110, 100]⟩)) (hop : opW lv = wd) (hr : condTw s (f + 1) lv st = some r) :
  Calls Tryz.prog 125 #[ptr pb, .int .i64 iv] w (TreeC pb s w O r) := by
 rw [condTw, if_pos (by omega)] at hr
 cases ht : condTw s f (lv + 1) st with
 | none => rw [ht] at hr; cases hr
 | some p =>
  obtain ⟨st1, t⟩ := p
  rw [ht] at hr
  have lp : pb < w.heap.size := h.lt h.own
  have N0 := hide (show ¬ O w.heap.size from fun hk => by have := h.lt hk; omega)
  have HR := hide ((h.alloc (.cells treeZ 115)).alloc (.cells #[.string ⟨#[111, 114]⟩, .string ⟨#[97, 110, 100]⟩] 9))
  have K := hide hk
  have HT := hide ht
  have HL := hide (show condLp s f lv st1 t = some r from hr)
  have HIH := hide IH
  clear h hk ht hr IH
  obtain ⟨LP, hLP⟩ : ∃ LP : Nat → PS → Tr → Prop, ∀ k a b, LP k a b ↔ condLp s k lv a b = some r := ⟨_, fun _ _ _ => Iff.rfl⟩
  rcases hlv with ⟨rfl, rfl, hw⟩ | ⟨rfl, rfl, hw⟩
  all_goals
   go_enter Tryz.func125, Tryz.ntmps125
   go_wp2_with fail
   refine (unhide HIH f (Nat.le_refl _) _ _ _ _ _ (by omega) (unhide HR) (unhide K) (unhide HT)).mono ?_
   rintro e w1 ⟨v, O1, rfl, hp1, hf1, ht1, hk1⟩
   obtain ⟨op, text, n, a, o, c, l, rfl⟩ := ht1.form
   have H1 := hide (hp1.alloc (.cells (treeCells op text n a (.slice o c l)) 115))
   have N1 := hide (show ¬ O1 w1.heap.size from fun hk => by have := hp1.lt hk; omega)
   have F1 := hide (((((Fr.refl O w).alloc (.cells treeZ 115)).alloc (.cells #[.string ⟨#[111, 114]⟩, .string ⟨#[97, 110, 100]⟩] 9)).trans hf1).alloc (.cells (treeCells op text n a (.slice o c l)) 115))
   have hlt : w.heap.size < w1.heap.size := by have := hf1.size; simp at this; omega
   have Q1 := hide (show (w1.alloc (.cells (treeCells op text n a (.slice o c l)) 115)).heap[w.heap.size]? = some (.cells treeZ 115 (0, 0)) by rw [Below.heap_alloc _ _ _ hlt]; exact (hf1.block w.heap.size (by simp; omega) (unhide N0)).trans (two_alloc w _ _ _ _).1)
   have N2 := hide (show ¬ O1 w.heap.size from fun hk => by
    rcases hf1.own _ hk with h | h
    ·exact unhide N0 h
    ·simp at h; omega)
   have T1 := hide (show TrAt (w1.alloc (.cells (treeCells op text n a (.slice o c l)) 115)) (fun k => O1 k ∨ k ≤ w.heap.size ∨ k = w1.heap.size) t (treeV op text n a (.slice o c l)) from by
    refine TrAt.step ((Fr.refl O1 w1).alloc _) (fun k hk => Or.inl hk) (fun k hk => ?_) t _ ht1
    rcases hk with h | h | h
    ·exact Or.inl (Or.inl h)
    ·exact Or.inl (Or.inr (by simp; omega))
    ·exact Or.inr (by omega))
   have K1 := hide hk1
   clear hp1 hf1 ht1 hk1 HT HR
   go_wp2_with fail
   refine ((unhide H1).is _).mono ?_
   rintro e w0 ⟨rfl, rfl⟩
   go_wp2_with fail
   go_loopg [7] f (fun k b7 wr => ∃ (st1 : PS) (t : Tr) (O1 : Nat → Prop) (op text : ByteArray) (n a : Int) (o : Option Addr) (c l : Nat), b7 = .bool (isP st1 wd) ∧ k ≤ f ∧ PA wr pb s st1 O1 ∧ Ok s st1 ∧ Fr O w O1 wr ∧ wr.heap[w.heap.size]? = some (.cells treeZ 115 (0, 0)) ∧ wr.heap[w1.heap.size]? = some (.cells (treeCells op text n a (.slice o c l)) 115 (0, 0)) ∧ ¬ O1 w.heap.size ∧ ¬ O1 w1.heap.size ∧ TrAt wr (fun k => O1 k ∨ k ≤ w.heap.size ∨ k = w1.heap.size) t (treeV op text n a (.slice o c l)) ∧ LP k st1 t)
   case atStart => exact ⟨st1, t, O1, op, text, n, a, o, c, l, by rw [hw], Nat.le_refl _, unhide H1, unhide K1, unhide F1, unhide Q1, heap_alloc_new _ _, unhide N2, unhide N1, unhide T1, (hLP _ _ _).2 (unhide HL)⟩
   case round =>
    clear H1 K1 F1 Q1 N2 N1 T1 HL
    obtain ⟨su, tu, Ou, op', text', n', a', o', c', l', rfl, hkf, hp, hk, hf, q0, q1, n0, n1, htu, hl⟩ := hrel
    replace hl := (hLP _ _ _).1 hl
    obtain ⟨g, rfl⟩ := condLp_pos hl
    have HP := hide hp
    have HK := hide hk
    have HF := hide hf
    have Q0 := hide q0
    have Q1 := hide q1
    have NA := hide n0
    have NB := hide n1
    have TU := hide htu
    have hzB' : w1.heap.size < wr.heap.size := heap_lt q1
    by_cases hc : isP su wd = true
    ·obtain ⟨s2, x, htm, hl2⟩ := condLp_more (by rw [hop]; exact hc) hl
     rw [hop] at hl2
     have HTM := hide htm
     have HL2 := hide hl2
     clear hp hk hf q0 q1 n0 n1 htu hl htm hl2
     ·rw [hc]
      go_wp2_with fail
      refine (take_any (unhide HP) (unhide HK)).mono ?_
      rintro e w2 ⟨rfl, O2, hp2, hf2⟩
      have H2 := hide hp2
      have F2 := hide hf2
      have hz2 : w1.heap.size < w2.heap.size := by have := hf2.size; omega
      clear hp2 hf2
      go_wp2_with fail
      refine (unhide HIH g (by omega) _ _ _ _ _ (by omega) (unhide H2) (unhide HK).take (unhide HTM)).mono ?_
      rintro e w3 ⟨v, O3, rfl, hp3, hf3, ht3, hk3⟩
      obtain ⟨xop, xtext, xn, xa, xo, xc, xl, rfl⟩ := ht3.form
      have F3 := hide ((unhide F2).trans hf3)
      have qB := ((unhide F3).block w1.heap.size hzB' (unhide NB)).trans (unhide Q1)
      obtain ⟨s0, s1, s2', s3, s4⟩ := cells5 qB
      have zB : ∀ ob, w3.frozen? ⟨w1.heap.size, ob, none⟩ = false := fun ob => frozen_of_heap qB
      have hzB : w1.heap.size < w3.heap.size := heap_lt qB
      have H3 := hide hp3
      have F3b := hide hf3
      have T3 := hide ht3
      have K3 := hide hk3
      have QB := hide qB
      clear hp3 hf3 ht3 hk3 qB
      go_wp2_with fail
      have FIN := hide (sum_round (op := wd) (unhide HF) (unhide F2) (unhide F3b) (unhide H3) (unhide Q0) (unhide Q1) (unhide NA) (unhide NB) hlt (unhide TU) (unhide T3))
      obtain ⟨W, hW⟩ : ∃ W, sumW w3 w1.heap.size op' text' n' a' (.slice o' c' l') xop xtext xn xa (.slice xo xc xl) wd = W := ⟨_, rfl⟩
      rw [hW] at FIN
      have HW := hide hW
      unfold sumW at hW; rw [hw] at hW
      rw [hW]
      clear hW s0 s1 s2' s3 s4 zB
      refine ((unhide FIN).1.is _).mono ?_
      rintro e w0 ⟨rfl, rfl⟩
      go_wp2_with fail
      go_roundg g
      case measure => omega
      case rel =>
       obtain ⟨f1, f2, f3, f4, f5, f6, f7⟩ := unhide FIN
       exact ⟨s2, .mk wd ⟨#[]⟩ 0 0 [tu, x], O3, wd, ⟨#[]⟩, 0, 0, _, _, _, by rw [hw], by omega, f1, unhide K3, f2, f3, f4, f5, f6, f7, (hLP _ _ _).2 (unhide HL2)⟩
    ·have hn1 : isP su wd = false := by simpa using hc
     obtain rfl := condLp_stop (by rw [hop]; exact hn1) hl
     obtain ⟨r0, r1, r2, r3, r4⟩ := cells5 q0
     have zr : ∀ ob, wr.frozen? ⟨w.heap.size, ob, none⟩ = false := fun ob => frozen_of_heap q0
     obtain ⟨s0, s1, s2', s3, s4⟩ := cells5 q1
     have HN := NA
     clear hp hk hf q0 q1 n0 n1 htu hl hc
     rw [hn1]
     go_wp2_with fail
     refine bodyPost_ret (v := treeV op' text' n' a' (.slice o' c' l')) (by simp [results, Tryz.results125, go_sem, r0, r1, r2, r3, r4]) rfl ⟨_, Ou, rfl, ?_, ?_, ?_, unhide HK⟩
     ·repeat with_reducible first | refine PA.other ?_ (unhide HN) _ _ | refine PA.alloc ?_ _ | refine PA.drew ?_ | refine PA.drewN ?_ _ | exact unhide HP
     ·repeat with_reducible first | refine Fr.setCell ?_ (Or.inr (Nat.le_refl _)) _ | refine Fr.setCell ?_ (Or.inl (unhide HO)) _ | refine Fr.alloc ?_ _ | refine Fr.drew ?_ | refine Fr.drewN ?_ _ | exact unhide HF | exact Fr.refl _ _
     ·have f0 : Fr (fun k => Ou k ∨ k = w.heap.size) wr (fun k => Ou k ∨ k = w.heap.size) wr := (Fr.refl Ou wr).join (fun k => k = w.heap.size)
      refine TrAt.step (O := fun k => Ou k ∨ k = w.heap.size) (O' := fun k => Ou k ∨ k = w.heap.size) (w := wr) ?_ ?_ ?_ tu _ (unhide TU)
      ·repeat with_reducible first | refine Fr.setCell ?_ (Or.inl (Or.inr rfl)) _ | exact f0
      ·intro k hk
       rcases hk with h | h
       ·exact Or.inl h
       ·exact Or.inr (Or.inl (by omega))
      ·intro k hk
       rcases hk with h | h
       ·exact Or.inl (Or.inl h)
       ·exact Or.inl (Or.inr (Or.inl (by omega)))
theorem cond_any (pb : Nat) (s : ByteArray) (f : Nat) (IS : SumC pb s f) (IH : ∀ g, g ≤ f → CondC pb s g) : CondC pb s (f + 1) := by
 intro lv w st O r hlv h hk hr
 rcases lv with _ | _ | _ | lv
 ·exact cond_lv pb s f IH w st O r h hk 0 0 _ (Or.inl ⟨rfl, rfl, rfl⟩) rfl hr
 ·exact cond_lv pb s f IH w st O r h hk 1 1 _ (Or.inr ⟨rfl, rfl, rfl⟩) rfl hr
 ·rw [condTw, if_neg (by omega)] at hr
  by_cases h0 : isP st wNot = true
  ·rw [if_pos h0] at hr
   cases ht : condTw s f 2 (takeP s (opensP st)) with
   | none => rw [ht] at hr; cases hr
   | some p =>
    rw [ht] at hr
    obtain rfl := Option.some.inj hr
    exact cond_not pb s f (IH f (Nat.le_refl _)) w st O h hk h0 p.1 p.2 ht
  ·rw [if_neg h0] at hr
   have h0 : isP st wNot = false := by simpa using h0
   by_cases h1 : isP st wBrack = true
   ·rw [if_pos h1] at hr
    cases ht : condTw s f 0 (takeP s (opensP st)) with
    | none => rw [ht] at hr; cases hr
    | some p =>
     rw [ht] at hr
     obtain rfl := Option.some.inj hr
     exact cond_bracket pb s f (IH f (Nat.le_refl _)) w st O h hk h0 h1 p.1 p.2 ht
   ·rw [if_neg h1] at hr
    have h1 : isP st wBrack = false := by simpa using h1
    by_cases h2 : isP st wNet = true
    ·rw [if_pos h2] at hr
     obtain rfl := Option.some.inj hr
     exact cond_net pb s w st O h hk h0 h1 h2
    ·rw [if_neg h2] at hr
     have h2 : isP st wNet = false := by simpa using h2
     by_cases h3 : isP st wPath = true
     ·rw [if_pos h3] at hr
      obtain rfl := Option.some.inj hr
      exact cond_path pb s w st O h hk h0 h1 h2 h3
     ·rw [if_neg h3] at hr
      have h3 : isP st wPath = false := by simpa using h3
      by_cases h4 : isP st wMarked = true
      ·rw [if_pos h4] at hr
       obtain rfl := Option.some.inj hr
       exact cond_marked pb s w st O h hk h0 h1 h2 h3 h4
      ·rw [if_neg h4] at hr
       have h4 : isP st wMarked = false := by simpa using h4
       by_cases h5 : startsP st = false
       ·rw [if_pos h5] at hr
        obtain rfl := Option.some.inj hr
        exact cond_none pb s w st O h hk h0 h1 h2 h3 h4 h5
       ·rw [if_neg h5] at hr
        have h5 : startsP st = true := by simpa using h5
        cases ht : sumTw s f st with
        | none => rw [ht] at hr; cases hr
        | some p =>
         rw [ht] at hr
         cases he : isP p.1 wEq with
         | true =>
          simp only [he, if_true] at hr
          cases hu : sumTw s f (needP s p.1 wEq) with
          | none => rw [hu] at hr; cases hr
          | some q =>
           rw [hu] at hr
           obtain rfl := Option.some.inj hr
           exact cond_cmp pb s f IS w st O h hk h0 h1 h2 h3 h4 h5 p.1 p.2 ht q.1 q.2 wEq (Or.inl ⟨he, rfl⟩) hu
         | false =>
          simp only [he, Bool.false_eq_true, if_false] at hr
          cases hu : sumTw s f (needP s p.1 wLess) with
          | none => rw [hu] at hr; cases hr
          | some q =>
           rw [hu] at hr
           obtain rfl := Option.some.inj hr
           exact cond_cmp pb s f IS w st O h hk h0 h1 h2 h3 h4 h5 p.1 p.2 ht q.1 q.2 wLess (Or.inr ⟨he, rfl⟩) hu
 ·omega
theorem conds (pb : Nat) (s : ByteArray) (f : Nat) : ∀ g, g ≤ f → CondC pb s g := by
 induction f with
 | zero =>
  intro g hg
  obtain rfl : g = 0 := by omega
  intro lv w st O r _ _ _ hr; rw [condTw] at hr; cases hr
 | succ f ih =>
  intro g hg
  by_cases e : g = f + 1
  ·subst e; exact cond_any pb s f ((sum_term pb s f).1 f (Nat.le_refl _)) ih
  ·exact ih g (by omega)
end Go.Proofs.YtgdeeodifnegiaaGreatDoor.rf
namespace Go.Proofs.YtgdeeodifnegiaaGreatDoor.rf
open Go.RowKit
def BlockC (pb : Nat) (s : ByteArray) (f : Nat) : Prop := ∀ (w : World) (st : PS) (O : Nat → Prop) (r : PS × Tr), PA w pb s st O → Ok s st → blockTw s f st = some r → Calls Tryz.prog 126 #[ptr pb] w (TreeC pb s w O r)
def StmtC (pb : Nat) (s : ByteArray) (f : Nat) : Prop := ∀ (w : World) (st : PS) (O : Nat → Prop) (r : PS × Tr), PA w pb s st O → Ok s st → stmtTw s f st = some r → Calls Tryz.prog 70 #[ptr pb] w (TreeC pb s w O r)
theorem Ok.line {s : ByteArray} {st : PS} (h : Ok s st) : Ok s (lineP st) := by
 unfold lineP; split
 ·exact ⟨h.hs, h.hi, h.tk0, h.tk, by show (st.lines.set _ true).length = _; rw [List.length_set]; exact h.ln, h.tx⟩
 ·exact h
theorem PA.line {w : World} {pb : Nat} {s : ByteArray} {st : PS} {O : Nat → Prop} (h : PA w pb s st O) (hk : Ok s st) (hl : st.bad < 0 → 0 < st.lines.length) :
  Calls Tryz.prog 177 #[ptr pb] w fun e w' => e = .returned (.tuple #[]) ∧ PA w' pb s (lineP st) O ∧ Fr O w O w' := by
 obtain ⟨tv, lv, hp, rfl⟩ := h
 have h1 := hk.tk0
 have h2 := hk.hi
 have h3 := hk.hs
 have h4 := hk.ln
 refine (line_any hp hl (by omega)).mono ?_
 rintro e w' ⟨rfl, h1, h2⟩
 exact ⟨rfl, ⟨tv, lv, h1, rfl⟩, h2⟩
theorem need_lines (s : ByteArray) (st : PS) (x : ByteArray) (h : (needP s st x).bad < 0) : 0 < (needP s st x).lines.length := by
 unfold needP at h ⊢
 by_cases hi : isP st x = true
 ·rw [if_pos hi] at h ⊢
  unfold takeP at h ⊢
  by_cases h1 : st.next.kind = 33 ∨ st.next.kind = 46
  ·rw [if_pos h1] at h; have := failP_bad st; omega
  ·rw [if_neg h1] at h ⊢
   by_cases h2 : st.bad < 0
   ·rw [if_pos h2]; show 0 < (st.lines ++ [isSemi st.next]).length; simp
   ·rw [if_neg h2] at h; omega
 ·rw [if_neg hi] at h; have := failP_bad st; omega
theorem blockLp_pos {s : ByteArray} {k : Nat} {st : PS} {kids : List Tr} {r : PS × Tr} (h : blockLp s k st kids = some r) : ∃ g, k = g + 1 := by
 cases k with
 | zero => rw [blockLp] at h; cases h
 | succ g => exact ⟨g, rfl⟩
theorem blockLp_more {s : ByteArray} {g : Nat} {st : PS} {kids : List Tr} {r : PS × Tr} (h : blockLp s (g + 1) st kids = some r) (h1 : isP st wBrace2 = false ∧ st.bad < 0) : ∃ s1 x, stmtTw s g st = some (s1, x) ∧ blockLp s g s1 (kids ++ [x]) = some r := by
 rw [blockLp, if_pos h1] at h
 cases ht : stmtTw s g st with
 | none => rw [ht] at h; cases h
 | some p => rw [ht] at h; exact ⟨p.1, p.2, rfl, h⟩
theorem blockLp_stop {s : ByteArray} {g : Nat} {st : PS} {kids : List Tr} {r : PS × Tr} (h : blockLp s (g + 1) st kids = some r) (h1 : ¬ (isP st wBrace2 = false ∧ st.bad < 0)) : r = (decP (lineP (needP s st wBrace2)), .mk wBlock ⟨#[]⟩ 0 0 kids) := by
 rw [blockLp, if_neg h1] at h
 exact (Option.some.inj h).symm
theorem block_any (pb : Nat) (s : ByteArray) (f : Nat) (hf0 : f ≤ 1000000) (IH : ∀ g, g ≤ f → StmtC pb s g) : BlockC pb s (f + 1) := by
 intro w st O r h hk hr
 rw [blockTw] at hr
 obtain ⟨i0, hi0, hz0, hz1, hz2⟩ := info_parts Tryz.infoTree
 have lp : pb < w.heap.size := h.lt h.own
 have N0 := hide (show ¬ O w.heap.size from fun hk => by have := h.lt hk; omega)
 have N1 := hide (show ¬ O (w.heap.size + 1) from fun hk => by have := h.lt hk; omega)
 have HP0 := hide ((h.alloc (.cells treeZ 115)).alloc (.cells (treeCells wBlock ⟨#[]⟩ 0 0 (.slice none 0 0)) 115))
 have HF0 := hide (((Fr.refl O w).alloc (.cells treeZ 115)).alloc (.cells (treeCells wBlock ⟨#[]⟩ 0 0 (.slice none 0 0)) 115))
 have K := hide hk
 have HL := hide hr
 have HIH := hide IH
 clear h hk hr IH
 go_enter Tryz.func126, Tryz.ntmps126
 go_wp2_with fail
 refine ((unhide HP0).is _).mono ?_
 rintro e w0 ⟨rfl, rfl⟩
 have ahead : ∃ st0, (if isP st wBrace = true then opensP st else st) = st0 := ⟨_, rfl⟩
 obtain ⟨st0, hst0⟩ := ahead
 rw [hst0] at HL
 have K0 := hide (show Ok s st0 from by rw [← hst0]; split; exact (unhide K).opens; exact unhide K)
 have HST := hide hst0
 clear hst0
 cases hbr : isP st wBrace
 focus
  have HE := hide (show st0 = st from by have h := unhide HST; rw [if_neg (by rw [hbr]; simp)] at h; exact h.symm)
  rw [show isP st { data := #[123] } = false from hbr]
  have HPA := hide (show PA _ pb s st0 O from by rw [unhide HE]; exact unhide HP0)
  have HFA := hide (Fr.refl O ((w.alloc (.cells treeZ 115)).alloc (.cells (treeCells wBlock ⟨#[]⟩ 0 0 (.slice none 0 0)) 115)))
 rotate_left
 focus
  have HE := hide (show st0 = opensP st from by have h := unhide HST; rw [if_pos hbr] at h; exact h.symm)
  rw [show isP st { data := #[123] } = true from hbr]
  go_wp2_with fail
  refine ((unhide HP0).opens).mono ?_
  rintro e wa ⟨rfl, hpa, hfa⟩
  rw [← unhide HE] at hpa
  have HPA := hide hpa
  have HFA := hide hfa
  clear hpa hfa
 all_goals
  go_wp2_with fail
  refine (need_any (unhide HPA) (unhide K0) _).mono ?_
  rintro e wb ⟨rfl, Ob, hpb, hfb⟩
  have HPB := hide hpb
  have HFB := hide ((unhide HFA).trans hfb)
  clear hpb hfb
  go_wp2_with fail
  refine ((unhide HPB).line ((unhide K0).need _) (need_lines s st0 _)).mono ?_
  rintro e wc ⟨rfl, hpc, hfc⟩
  have HPC := hide hpc
  have HFC := hide ((unhide HFB).trans hfc)
  clear hpc hfc
  go_wp2_with fail
  refine ((unhide HPC).is _).mono ?_
  rintro e w0 ⟨rfl, rfl⟩
  go_wp2_with fail
  go_loopg [5] f (fun k b5 wr => ∃ (su : PS) (kids : List Tr) (kv : Value) (xs : List Value) (O1 : Nat → Prop), kids.length + k ≤ f ∧ PA wr pb s su O1 ∧ Ok s su ∧ Fr O w O1 wr ∧ wr.heap[w.heap.size]? = some (.cells treeZ 115 (0, 0)) ∧ wr.heap[w.heap.size + 1]? = some (.cells (treeCells wBlock ⟨#[]⟩ 0 0 kv) 115 (0, 0)) ∧ ¬ O1 w.heap.size ∧ ¬ O1 (w.heap.size + 1) ∧ TrOpen wr (fun k => O1 k ∨ k ≤ w.heap.size ∨ k = w.heap.size + 1) kids kv xs ∧ b5 = .bool (isP su wBrace2) ∧ blockLp s k su kids = some r)
  case atStart =>
   have hfc := unhide HFC
   refine ⟨_, [], .slice none 0 0, [], Ob, by simp, unhide HPC, ((unhide K0).need _).line, (unhide HF0).trans hfc, (hfc.block _ (by simp; omega) (unhide N0)).trans (two_alloc w _ _ _ _).1, (hfc.block _ (by simp) (unhide N1)).trans (two_alloc w _ _ _ _).2, fun h => ?_, fun h => ?_, TrOpen.nil _ _, rfl, unhide HL⟩
   ·rcases hfc.own _ h with h | h
    ·exact unhide N0 h
    ·simp at h; omega
   ·rcases hfc.own _ h with h | h
    ·exact unhide N1 h
    ·simp at h; omega
  case round =>
   clear HP0 HF0 K HL N0 N1 HPA HFA HPB HFB HPC HFC K0 HST
   obtain ⟨su, kids, kv, xs, O1, hkl, hp, hk, hf, q0, q1, n0, n1, htu, rfl, hl⟩ := hrel
   obtain ⟨g, rfl⟩ := blockLp_pos hl
   by_cases hc : isP su wBrace2 = false ∧ su.bad < 0
   ·obtain ⟨s1, x, hstm, hl2⟩ := blockLp_more hl hc
    obtain ⟨hc1, hc2⟩ := hc
    have c7 := hp.cell.2.1
    have HP := hide hp
    have HK := hide hk
    have HF := hide hf
    have Q0 := hide q0
    have Q1 := hide q1
    have NA := hide n0
    have NB := hide n1
    have TU := hide htu
    have HSTM := hide hstm
    have HL2 := hide hl2
    have hzB' : w.heap.size + 1 < wr.heap.size := heap_lt q1
    clear hp hk hf q0 q1 n0 n1 htu hl hstm hl2
    rw [hc1]
    go_wp2_with fail
    refine (unhide HIH g (by omega) _ _ _ _ (unhide HP) (unhide HK) (unhide HSTM)).mono ?_
    rintro e w2 ⟨v, O2, rfl, hp2, hf2, ht2, hk2⟩
    obtain ⟨xop, xtext, xn, xa, xo, xc, xl, rfl⟩ := ht2.form
    have qB := (hf2.block (w.heap.size + 1) hzB' (unhide NB)).trans (unhide Q1)
    have s4 : w2.cell? ⟨w.heap.size + 1, 4, none⟩ = some kv := cell_of_heap qB
    have hzB : w.heap.size + 1 < w2.heap.size := heap_lt qB
    have OW := hide (show w2.ownsRow 0 115 5 kv kids.length xs from owns_of (unhide TU).1 (fun k hk => hf2.block k ((unhide TU).1.lt k hk).2 (fun h => (unhide TU).2.1 k hk (Or.inl h))))
    have H2 := hide hp2
    have F2 := hide hf2
    have T2 := hide ht2
    have K2 := hide hk2
    have QB := hide qB
    have NKB := hide (show some (w.heap.size + 1) ≠ kv.ownBlock from fun e => (unhide TU).2.1 _ e.symm (Or.inr (Or.inr rfl)))
    clear hp2 hf2 ht2 hk2 qB
    go_wp2_with (at_builtin; refine wpList_append_lies _ rfl _ _ _ rfl 0 115 i0 _ 5 72 Tryz.underlying113 hi0 hz0 hz1 hz2 rfl (by omega) kv kids.length xs rfl (((unhide OW).alloc _).alloc _) ⟨w2.heap.size + 1, 0, none⟩ 1 1 [.string xop, .string xtext, .int .i64 xn, .int .i64 xa, .slice xo xc xl] rfl rfl (World.news_of_block (cs := #[.string xop, .string xtext, .int .i64 xn, .int .i64 xa, .slice xo xc xl]) (t := 115) (fr := (0, 0)) (two_alloc w2 _ _ _ _).2) (by simp [Value.oneCell']) (by omega) (by simp [maxLen]; omega) (by omega) (by omega) (w2.heap.size + 2) (by simp) ?_; intro gg cap w' hown hgrow hat hlt; have qB' : w'.heap[w.heap.size + 1]? = some (.cells (treeCells wBlock ⟨#[]⟩ 0 0 kv) 115 (0, 0)) := ((hgrow.block (w.heap.size + 1) (by simp; omega) (unhide NKB)).trans ((Below.heap_alloc _ _ _ (by simp; omega)).trans ((Below.heap_alloc _ _ _ (by omega)).trans (unhide QB)))); have c4 : w'.cell? ⟨w.heap.size + 1, 4, none⟩ = some kv := (cell_of_heap qB'); have z4 : w'.frozen? ⟨w.heap.size + 1, 4, none⟩ = false := (frozen_of_heap qB'); clear qB')
    have FIN := hide (kid_round (unhide HF) (unhide F2) (unhide H2) (unhide Q0) (unhide Q1) (unhide NA) (unhide NB) (by omega) (unhide TU) (unhide T2) hgrow hown hat)
    generalize hW : w'.setCell ⟨w.heap.size + 1, 4, none⟩ (.slice (some ⟨gg, 0, none⟩) (kids.length + 1) cap) = W at *
    clear hW hown hgrow hat hlt c4 z4 s4
    obtain ⟨f1, f2, f3, f4, f5, f6, f7⟩ := unhide FIN
    have G1 := hide f1
    clear FIN f1
    have G2 := hide f2
    have G3 := hide f3
    have G4 := hide f4
    have G5 := hide f5
    have G6 := hide f6
    have G7 := hide f7
    clear f2 f3 f4 f5 f6 f7
    refine ((unhide G1).is _).mono ?_
    rintro e w0 ⟨rfl, rfl⟩
    go_wp2_with fail
    go_roundg g
    case measure => omega
    case rel => exact ⟨s1, kids ++ [x], _, _, O2, by simp; omega, unhide G1, unhide K2, unhide G2, unhide G3, unhide G4, unhide G5, unhide G6, unhide G7, rfl, unhide HL2⟩
   ·obtain rfl := blockLp_stop hl hc
    have c7 := hp.cell.2.1
    have HP := hide hp
    have HK := hide hk
    have HF := hide hf
    have Q0 := hide q0
    have Q1 := hide q1
    have NA := hide n0
    have NB := hide n1
    obtain ⟨oo, cc, hkv⟩ := htu.form
    have TU := hide (htu.at wBlock ⟨#[]⟩ 0 0)
    have lR := heap_lt q0
    have lB := heap_lt q1
    clear htu
    subst hkv
    have hor : isP su wBrace2 = true ∨ (isP su wBrace2 = false ∧ ¬ su.bad < 0) := by
     cases h1 : isP su wBrace2
     ·right; exact ⟨rfl, fun h2 => hc ⟨h1, h2⟩⟩
     ·left; rfl
    clear hp hk hf q0 q1 n0 n1 hl hc
    rcases hor with h1 | ⟨h1, h2⟩
    all_goals
     rw [h1]
     go_wp2_with fail
     refine (need_any (unhide HP) (unhide HK) _).mono ?_
     rintro e wd ⟨rfl, Od, hpd, hfd⟩
     have HPD := hide hpd
     have HFD := hide hfd
     clear hpd hfd
     go_wp2_with fail
     refine ((unhide HPD).line ((unhide HK).need _) (need_lines s su _)).mono ?_
     rintro e we ⟨rfl, hpe, hfe⟩
     have hfx := (unhide HFD).trans hfe
     have qR := (hfx.block _ lR (unhide NA)).trans (unhide Q0)
     have qB := (hfx.block _ lB (unhide NB)).trans (unhide Q1)
     obtain ⟨r0, r1, r2, r3, r4⟩ := cells5 qR
     have zr : ∀ ob, we.frozen? ⟨w.heap.size, ob, none⟩ = false := fun ob => frozen_of_heap qR
     obtain ⟨s0, s1, s2, s3, s4⟩ := cells5 qB
     obtain ⟨_, _, c8, zp⟩ := hpe.cell
     have HO := hide hpe.own
     have HN := hide (show ¬ Od w.heap.size from fun h => by
      rcases (unhide HFD).own _ h with h | h
      ·exact unhide NA h
      ·omega)
     have HP := hide (hpe.setOpn (wrap64 ((lineP (needP s su ⟨#[125]⟩)).opn - 1)))
     have F5 := hide hfx
     have HF := hide ((unhide HF).trans hfx)
     clear hpe hfe hfx qR qB HPD
     go_wp2_with fail
     refine bodyPost_ret (v := treeV wBlock ⟨#[]⟩ 0 0 (.slice oo kids.length cc)) (by simp [results, Tryz.results126, go_sem, r0, r1, r2, r3, r4]) rfl ⟨_, Od, rfl, ?_, ?_, ?_, (((unhide HK).need _).line).opn _⟩
     ·refine (show PA _ pb s { lineP (needP s su ⟨#[125]⟩) with opn := wrap64 ((lineP (needP s su ⟨#[125]⟩)).opn - 1) } Od from ?_)
      repeat with_reducible first | refine PA.other ?_ (unhide HN) _ _ | refine PA.alloc ?_ _ | refine PA.drew ?_ | refine PA.drewN ?_ _ | exact unhide HP
     ·repeat with_reducible first | refine Fr.setCell ?_ (Or.inr (Nat.le_refl _)) _ | refine Fr.setCell ?_ (Or.inl (unhide HO)) _ | refine Fr.alloc ?_ _ | refine Fr.drew ?_ | refine Fr.drewN ?_ _ | exact unhide HF | exact Fr.refl _ _
     ·refine TrAt.step (O := fun k => O1 k ∨ k = w.heap.size) (O' := fun k => Od k ∨ k = w.heap.size) (w := wr) ?_ ?_ ?_ _ _ (unhide TU)
      ·repeat with_reducible first | refine Fr.setCell ?_ (Or.inl (Or.inr rfl)) _ | refine Fr.setCell ?_ (Or.inl (Or.inl (unhide HO))) _ | refine Fr.alloc ?_ _ | refine Fr.drew ?_ | refine Fr.drewN ?_ _ | exact (unhide F5).join _
      ·intro k hk
       rcases hk with h | h
       ·exact Or.inl h
       ·exact Or.inr (Or.inl (by omega))
      ·intro k hk
       rcases hk with h | h
       ·rcases (unhide F5).own k h with h1 | h1
        ·exact Or.inl (Or.inl h1)
        ·exact Or.inr h1
       ·exact Or.inl (Or.inr (Or.inl (by omega)))
end Go.Proofs.YtgdeeodifnegiaaGreatDoor.rf
namespace Go.Proofs.YtgdeeodifnegiaaGreatDoor.rf
open Go.RowKit
theorem kid_round2 {w wr w2 w' : World} {pb B g cap : Nat} {s : ByteArray} {s2 : PS} {O O1 O2 : Nat → Prop} {kids : List Tr} {x y : Tr} {xs : List Value} {op text xop xtext yop ytext : ByteArray} {n a xn xa yn ya : Int} {kv xk yk : Value} {obS : Obj}
  (HF : Fr O w O1 wr) (F2 : Fr O1 wr O2 w2) (H2 : PA w2 pb s s2 O2) (Q0 : wr.heap[w.heap.size]? = some (.cells treeZ 115 (0, 0))) (Q1 : wr.heap[B]? = some (.cells (treeCells op text n a kv) 115 (0, 0)))
  (NA : ¬ O1 w.heap.size) (NB : ¬ O1 B) (hB : w.heap.size < B) (TU : TrOpen wr (fun k => O1 k ∨ k ≤ w.heap.size ∨ k = B) kids kv xs) (T3 : TrAt w2 (fun k => O2 k ∨ k < wr.heap.size) x (treeV xop xtext xn xa xk)) (T4 : TrAt w2 (fun k => O2 k ∨ k < wr.heap.size) y (treeV yop ytext yn ya yk))
  (hgrow : (w2.alloc obS).grownBy w' kv.ownBlock) (hown : w'.ownsRow 0 115 5 (.slice (some ⟨g, 0, none⟩) (kids.length + 2) cap) (kids.length + 2) (xs ++ [.string xop, .string xtext, .int .i64 xn, .int .i64 xa, xk, .string yop, .string ytext, .int .i64 yn, .int .i64 ya, yk]))
  (hat : kv.ownBlock = some g ∨ g = w2.heap.size + 1) :
  PA (w'.setCell ⟨B, 4, none⟩ (.slice (some ⟨g, 0, none⟩) (kids.length + 2) cap)) pb s s2 O2 ∧ Fr O w O2 (w'.setCell ⟨B, 4, none⟩ (.slice (some ⟨g, 0, none⟩) (kids.length + 2) cap))
  ∧ (w'.setCell ⟨B, 4, none⟩ (.slice (some ⟨g, 0, none⟩) (kids.length + 2) cap)).heap[w.heap.size]? = some (.cells treeZ 115 (0, 0))
  ∧ (w'.setCell ⟨B, 4, none⟩ (.slice (some ⟨g, 0, none⟩) (kids.length + 2) cap)).heap[B]? = some (.cells (treeCells op text n a (.slice (some ⟨g, 0, none⟩) (kids.length + 2) cap)) 115 (0, 0))
  ∧ ¬ O2 w.heap.size ∧ ¬ O2 B
  ∧ TrOpen (w'.setCell ⟨B, 4, none⟩ (.slice (some ⟨g, 0, none⟩) (kids.length + 2) cap)) (fun k => O2 k ∨ k ≤ w.heap.size ∨ k = B) (kids ++ [x, y]) (.slice (some ⟨g, 0, none⟩) (kids.length + 2) cap) (xs ++ [.string xop, .string xtext, .int .i64 xn, .int .i64 xa, xk, .string yop, .string ytext, .int .i64 yn, .int .i64 ya, yk]) := by
 obtain ⟨t1, t2, t3⟩ := TU
 have lB : B < wr.heap.size := heap_lt Q1
 have lR : w.heap.size < wr.heap.size := heap_lt Q0
 have l2 : wr.heap.size ≤ w2.heap.size := F2.size
 have hkv : ∀ k, kv.ownBlock = some k → k < wr.heap.size ∧ ¬ O1 k ∧ w.heap.size < k ∧ k ≠ B := fun k hk => by
  have h1 := (t1.lt k hk).2
  have h2 := t2 k hk
  exact ⟨h1, fun h => h2 (Or.inl h), Nat.lt_of_not_le (fun h => h2 (Or.inr (Or.inl h))), fun h => h2 (Or.inr (Or.inr h))⟩
 have hold : ∀ k, k < w2.heap.size → some k ≠ kv.ownBlock → w'.heap[k]? = w2.heap[k]? := fun k hk hn => by
  rw [hgrow.block k (by simp; omega) hn, Below.heap_alloc _ _ _ hk]
 have na : ¬ O2 w.heap.size := fun h => by rcases F2.own _ h with h | h; exact NA h; omega
 have nb : ¬ O2 B := fun h => by rcases F2.own _ h with h | h; exact NB h; omega
 have nkv : ∀ k, kv.ownBlock = some k → ¬ O2 k := fun k hk h => by
  rcases F2.own _ h with h | h
  ·exact (hkv k hk).2.1 h
  ·have := (hkv k hk).1; omega
 have hgB : g ≠ B := by
  rcases hat with h | h
  ·exact (hkv g h).2.2.2
  ·omega
 have hgR : w.heap.size < g := by
  rcases hat with h | h
  ·exact (hkv g h).2.2.1
  ·omega
 have hgO : ¬ O2 g := by
  rcases hat with h | h
  ·exact nkv g h
  ·intro h3; have := H2.lt h3; omega
 have q0 : w'.heap[w.heap.size]? = some (.cells treeZ 115 (0, 0)) := by
  rw [hold _ (by omega) (fun e => by have := (hkv _ e.symm).2.2.1; omega), F2.block _ lR NA]; exact Q0
 have q1 : w'.heap[B]? = some (.cells (treeCells op text n a kv) 115 (0, 0)) := by
  rw [hold _ (by omega) (fun e => (hkv _ e.symm).2.2.2 rfl), F2.block _ lB NB]; exact Q1
 have hsz : w2.heap.size + 1 ≤ w'.heap.size := by have := hgrow.size; simp at this; omega
 refine ⟨?_, ?_, ?_, ?_, na, nb, ?_, ?_, ?_⟩
 ·refine PA.other (H2.frame (fun k hk => hold k (H2.lt hk) (fun e => nkv k e.symm hk))) nb _ _
 ·have f1 := HF.trans F2
  have f2 := (f1.alloc obS).grown hgrow (fun k hk => Or.inr (by have := (hkv k hk).2.2.1; omega))
  exact f2.setCell (Or.inr (by show w.heap.size ≤ B; omega)) _
 ·rw [heap_set_other (by show w.heap.size ≠ B; omega)]; exact q0
 ·rw [heap_set q1]; rfl
 ·rw [List.length_append]
  refine owns_of hown (fun k hk => heap_set_other (fun e => hgB ?_))
  simp [Value.ownBlock] at hk
  rw [hk]; exact e
 ·intro k hk
  obtain rfl : g = k := by simpa [Value.ownBlock] using hk
  rintro (h | h | h)
  ·exact hgO h
  ·omega
  ·exact hgB h
 ·have hset : ∀ k, k ≠ B → (w'.setCell ⟨B, 4, none⟩ (.slice (some ⟨g, 0, none⟩) (kids.length + 2) cap)).heap[k]? = w'.heap[k]? := fun k hk => heap_set_other hk
  have e1 : xs ++ [.string xop, .string xtext, .int .i64 xn, .int .i64 xa, xk, .string yop, .string ytext, .int .i64 yn, .int .i64 ya, yk] = (xs ++ [.string xop, .string xtext, .int .i64 xn, .int .i64 xa, xk]) ++ [.string yop, .string ytext, .int .i64 yn, .int .i64 ya, yk] := by simp
  have e2 : kids ++ [x, y] = (kids ++ [x]) ++ [y] := by simp
  rw [e1, e2]
  refine AllTr.snoc _ _ y _ _ _ _ _ (AllTr.snoc kids xs x _ _ _ _ _ ?_ ?_) ?_
  ·refine AllTr.keep (w := wr) (Q := fun k => (O1 k ∨ k ≤ w.heap.size ∨ k = B) ∨ kv.ownBlock = some k) (fun k hk hn => ?_) (fun k hk hq => ?_) kids xs t3
   ·rw [hset k (fun e => hn (Or.inl (Or.inr (Or.inr e)))), hold k (by omega) (fun e => hn (Or.inr e.symm)), F2.block k hk (fun h => hn (Or.inl (Or.inl h)))]
   ·rcases hq with (h | h | h) | h
    ·rcases F2.own k h with h1 | h1
     ·exact Or.inl (Or.inl h1)
     ·omega
    ·exact Or.inl (Or.inr (Or.inl h))
    ·exact Or.inl (Or.inr (Or.inr h))
    ·obtain rfl : g = k := by simpa [Value.ownBlock] using h
     rcases hat with h | h
     ·exact Or.inr h
     ·omega
  ·refine TrAt.keep (w := w2) (Q := fun k => O2 k ∨ k < wr.heap.size) (fun k hk hn => ?_) (fun k hk hq => ?_) x _ T3
   ·have hk2 : wr.heap.size ≤ k := Nat.le_of_not_lt (fun h => hn (Or.inr h))
    rw [hset k (by omega), hold k hk (fun e => by have := (hkv _ e.symm).1; omega)]
   ·rcases hq with (h | h | h) | h
    ·exact Or.inl h
    ·exact Or.inr (by omega)
    ·exact Or.inr (by omega)
    ·obtain rfl : g = k := by simpa [Value.ownBlock] using h
     rcases hat with h | h
     ·exact Or.inr (hkv g h).1
     ·omega
  ·refine TrAt.keep (w := w2) (Q := fun k => O2 k ∨ k < wr.heap.size) (fun k hk hn => ?_) (fun k hk hq => ?_) y _ T4
   ·have hk2 : wr.heap.size ≤ k := Nat.le_of_not_lt (fun h => hn (Or.inr h))
    rw [hset k (by omega), hold k hk (fun e => by have := (hkv _ e.symm).1; omega)]
   ·rcases hq with (h | h | h) | h
    ·exact Or.inl h
    ·exact Or.inr (by omega)
    ·exact Or.inr (by omega)
    ·obtain rfl : g = k := by simpa [Value.ownBlock] using h
     rcases hat with h | h
     ·exact Or.inr (hkv g h).1
     ·omega
end Go.Proofs.YtgdeeodifnegiaaGreatDoor.rf
