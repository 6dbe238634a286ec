/- The reference's cond: 'not', '[', a comparison; its upper levels. -/
import Derived.Test.YtgdeeodifnegiaaGreatDoorRefP
namespace Go.Proofs.YtgdeeodifnegiaaGreatDoor.rf
open Go.RowKit

theorem heap_last2 {X : World} {A B : Obj} {k : Nat} (h : X.heap.size + 1 = k) : ((X.alloc A).alloc B).heap[k]? = some B := by
  subst h
  rw [show X.heap.size + 1 = (X.alloc A).heap.size by simp]; exact heap_alloc_new _ _

set_option maxRecDepth 100000 in
set_option maxHeartbeats 3200000 in
theorem cond_bracket (pb : Nat) (s : ByteArray) (f : Nat) (IH : CondC pb s f) (w : World) (st : PS) (O : Nat → Prop) (h : PA w pb s st O) (hk : Ok s st) (h0 : isP st wNot = false) (h1 : isP st wBrack = true) (st1 : PS) (t : Tr) (hsum : condTw s f 0 (takeP s (opensP st)) = some (st1, t)) :
    Calls Tryz.prog 125 #[ptr pb, .int .i64 2] w (TreeC pb s w O (decP (needP s st1 wBrack2), t)) := by
  have lp : pb < w.heap.size := h.lt h.own
  have hR : PA (w.alloc (.cells treeZ 115)) pb s st O := h.alloc _
  have N0 := hide (show ¬ O w.heap.size from fun hk => by have := h.lt hk; omega)
  have HR := hide hR
  have K := hide hk
  have HSUM := hide hsum
  have HIH := hide IH
  clear hR h hk hsum IH
  go_enter Tryz.func125, Tryz.ntmps125
  go_wp2_with fail
  refine ((unhide HR).is _).mono ?_
  rintro e w0 ⟨rfl, rfl⟩
  rw [show isP st { data := #[110, 111, 116] } = false from h0]
  go_wp2_with fail
  refine ((unhide HR).is _).mono ?_
  rintro e w0 ⟨rfl, rfl⟩
  rw [show isP st { data := #[91] } = true from h1]
  go_wp2_with fail
  refine ((unhide HR).is _).mono ?_
  rintro e w0 ⟨rfl, rfl⟩
  go_wp2_with fail
  refine ((unhide HR).is _).mono ?_
  rintro e w0 ⟨rfl, rfl⟩
  go_wp2_with fail
  refine ((unhide HR).is _).mono ?_
  rintro e w0 ⟨rfl, rfl⟩
  go_wp2_with fail
  refine (starts_any (unhide HR)).mono ?_
  rintro e w0 ⟨rfl, rfl⟩
  go_wp2_with fail
  refine ((unhide HR).opens).mono ?_
  rintro e w2 ⟨rfl, hp2, hf2⟩
  go_wp2_with fail
  refine (take_any hp2 (unhide K).opens).mono ?_
  rintro e w3 ⟨rfl, O3, hp3, hf3⟩
  have H3 := hide hp3
  have F3 := hide (hf2.trans hf3)
  clear hp2 hf2 hp3 hf3
  go_wp2_with fail
  refine (unhide HIH 0 _ _ _ _ (by omega) (unhide H3) (unhide K).opens.take (unhide HSUM)).mono ?_
  rintro e w4 ⟨v, O4, rfl, hp4, hf4, ht4, hk4⟩
  obtain ⟨op, text, n, a, o, c, l, rfl⟩ := ht4.form
  have H4 := hide hp4
  have F4 := hide ((unhide F3).trans hf4)
  have T4 := hide ht4
  have K4 := hide hk4
  have Z3 := hide (show w.heap.size < w3.heap.size by have := (unhide F3).size; simp at this; omega)
  have N4 := hide (show ¬ O4 w4.heap.size from fun hk => by have := hp4.lt hk; omega)
  clear hp4 hf4 ht4 hk4
  go_wp2_with fail
  refine (need_any ((unhide H4).alloc _) (unhide K4) _).mono ?_
  rintro e w' ⟨rfl, O', hp, hf5⟩
  have b0 : w'.heap[w4.heap.size]? = some (.cells (treeCells op text n a (.slice o c l)) 115 (0, 0)) := (hf5.block w4.heap.size (by simp) (unhide N4)).trans (heap_alloc_new w4 _)
  have F5 := hide (((Fr.refl O4 w4).alloc (.cells (treeCells op text n a (.slice o c l)) 115)).trans hf5)
  have hf := (unhide F4).trans (unhide F5)
  obtain ⟨s0, s1, s2, s3, s4⟩ := cells5 b0
  have hzb : w4.heap.size < w'.heap.size := heap_lt b0
  have hzc : w.heap.size < w4.heap.size := by have := (unhide F4).size; simp at this; omega
  obtain ⟨_, _, c8, zp⟩ := hp.cell
  have HO := hide hp.own
  have hp := hp.setOpn (wrap64 ((needP s st1 ⟨#[93]⟩).opn - 1))
  clear b0 hf5
  obtain ⟨hn0, hz, r0, r1, r2, r3, r4, zr, hfw⟩ := rtree hf (unhide N0); have HN := hide hn0; have HP := hide hp; have HF := hide hfw; clear hn0 hfw hp hf
  go_wp2_with fail
  refine bodyPost_ret (v := treeV op text n a (.slice o c l)) (by simp [results, Tryz.results125, go_sem, r0, r1, r2, r3, r4]) rfl ⟨_, O', rfl, ?_, ?_, ?_, ?_⟩
  · refine (show PA _ pb s { needP s st1 ⟨#[93]⟩ with opn := wrap64 ((needP s st1 ⟨#[93]⟩).opn - 1) } O' from ?_)
    repeat with_reducible first | refine PA.other ?_ (unhide HN) _ _ | refine PA.alloc ?_ _ | refine PA.drew ?_ | refine PA.drewN ?_ _ | exact unhide HP
  · repeat with_reducible first | refine Fr.setCell ?_ (Or.inr (Nat.le_refl _)) _ | refine Fr.setCell ?_ (Or.inl (unhide HO)) _ | refine Fr.alloc ?_ _ | refine Fr.drew ?_ | refine Fr.drewN ?_ _ | exact unhide HF | exact Fr.refl _ _
  · refine TrAt.step (O := fun k => O4 k ∨ k = w.heap.size) (O' := fun k => O' k ∨ k = w.heap.size) (w := w4) ?_ ?_ ?_ t _ (unhide T4)
    · repeat with_reducible first | refine Fr.setCell ?_ (Or.inl (Or.inr rfl)) _ | refine Fr.setCell ?_ (Or.inl (Or.inl (unhide HO))) _ | refine Fr.alloc ?_ _ | refine Fr.drew ?_ | refine Fr.drewN ?_ _ | exact (unhide F5).join _
    · intro k hk
      rcases hk with h | h
      · exact Or.inl h
      · exact Or.inr (by have := unhide Z3; omega)
    · intro k hk
      rcases hk with h | h
      · rcases (unhide F5).own k h with h1 | h1
        · exact Or.inl (Or.inl h1)
        · exact Or.inr h1
      · exact Or.inl (Or.inr (by have := unhide Z3; omega))
  · exact ((unhide K4).need _).opn _

set_option maxRecDepth 100000 in
set_option maxHeartbeats 3200000 in
theorem cond_not (pb : Nat) (s : ByteArray) (f : Nat) (IH : CondC pb s f) (w : World) (st : PS) (O : Nat → Prop) (h : PA w pb s st O) (hk : Ok s st) (h0 : isP st wNot = true) (st1 : PS) (t : Tr) (hsum : condTw s f 2 (takeP s (opensP st)) = some (st1, t)) :
    Calls Tryz.prog 125 #[ptr pb, .int .i64 2] w (TreeC pb s w O (decP st1, .mk wNot ⟨#[]⟩ 0 0 [t])) := by
  have lp : pb < w.heap.size := h.lt h.own
  have hR : PA (w.alloc (.cells treeZ 115)) pb s st O := h.alloc _
  have N0 := hide (show ¬ O w.heap.size from fun hk => by have := h.lt hk; omega)
  have HR := hide hR
  have K := hide hk
  have HSUM := hide hsum
  have HIH := hide IH
  clear hR h hk hsum IH
  go_enter Tryz.func125, Tryz.ntmps125
  go_wp2_with fail
  refine ((unhide HR).is _).mono ?_
  rintro e w0 ⟨rfl, rfl⟩
  rw [show isP st { data := #[110, 111, 116] } = true from h0]
  go_wp2_with fail
  refine ((unhide HR).is _).mono ?_
  rintro e w0 ⟨rfl, rfl⟩
  go_wp2_with fail
  refine ((unhide HR).is _).mono ?_
  rintro e w0 ⟨rfl, rfl⟩
  go_wp2_with fail
  refine ((unhide HR).is _).mono ?_
  rintro e w0 ⟨rfl, rfl⟩
  go_wp2_with fail
  refine ((unhide HR).is _).mono ?_
  rintro e w0 ⟨rfl, rfl⟩
  go_wp2_with fail
  refine (starts_any (unhide HR)).mono ?_
  rintro e w0 ⟨rfl, rfl⟩
  go_wp2_with fail
  refine ((unhide HR).opens).mono ?_
  rintro e w2 ⟨rfl, hp2, hf2⟩
  go_wp2_with fail
  refine (take_any hp2 (unhide K).opens).mono ?_
  rintro e w3 ⟨rfl, O3, hp3, hf3⟩
  have H3 := hide hp3
  have F3 := hide (hf2.trans hf3)
  clear hp2 hf2 hp3 hf3
  go_wp2_with fail
  refine (unhide HIH 2 _ _ _ _ (by omega) (unhide H3) (unhide K).opens.take (unhide HSUM)).mono ?_
  rintro e w4 ⟨v, O4, rfl, hp4, hf4, ht4, hk4⟩
  obtain ⟨op, text, n, a, o, c, l, rfl⟩ := ht4.form
  have H4 := hide hp4
  have F4 := hide ((unhide F3).trans hf4)
  have T4 := hide ht4
  have K4 := hide hk4
  have Z3 := hide (show w.heap.size < w3.heap.size by have := (unhide F3).size; simp at this; omega)
  have N4 := hide (show ¬ O4 w4.heap.size from fun hk => by have := hp4.lt hk; omega)
  clear hp4 hf4 ht4 hk4
  have hp := unhide H4
  have hf := unhide F4
  obtain ⟨w', hw'⟩ : ∃ w', w' = w4 := ⟨_, rfl⟩
  obtain ⟨O', hO'⟩ : ∃ O', O' = O4 := ⟨_, rfl⟩
  rw [← hw', ← hO'] at hp hf
  obtain ⟨_, _, c8, zp⟩ := hp.cell
  have HO := hide hp.own
  have lpW : pb < w'.heap.size := hp.lt hp.own
  have npW : pb ≠ w'.heap.size := Nat.ne_of_lt lpW
  have hp := hp.setOpn (wrap64 (st1.opn - 1))
  obtain ⟨hn0, hz, r0, r1, r2, r3, r4, zr, hfw⟩ := rtree hf (unhide N0); have HN := hide hn0; have HP := hide hp; have HF := hide hfw; clear hn0 hfw hp hf
  subst hw'
  subst hO'
  go_wp2_with fail
  have F5 := hide (Fr.refl O' w')
  refine bodyPost_ret (v := treeV wNot ⟨#[]⟩ 0 0 (.slice (some ⟨w'.heap.size + 1, 0, none⟩) 1 1)) (by simp [results, Tryz.results125, go_sem, r0, r1, r2, r3, r4, hz, wNot]) rfl ⟨_, O', rfl, ?_, ?_, ?_, (unhide K4).opn _⟩
  · refine (show PA _ pb s { st1 with opn := wrap64 (st1.opn - 1) } O' from ?_)
    repeat with_reducible first | refine PA.other ?_ (unhide HN) _ _ | refine PA.alloc ?_ _ | refine PA.drew ?_ | refine PA.drewN ?_ _ | exact unhide HP
  · repeat with_reducible first | refine Fr.setCell ?_ (Or.inr (Nat.le_refl _)) _ | refine Fr.setCell ?_ (Or.inl (unhide HO)) _ | refine Fr.alloc ?_ _ | refine Fr.drew ?_ | refine Fr.drewN ?_ _ | exact unhide HF | exact Fr.refl _ _
  · refine TrAt.lone (a0 := .string op) (a1 := .string text) (a2 := .int .i64 n) (a3 := .int .i64 a) (a4 := .slice o c l) ?_ ?_ ?_
    · refine TrAt.step (O := fun k => O' k ∨ k = w.heap.size) (O' := fun k => O' k ∨ k = w.heap.size) (w := w') ?_ ?_ ?_ t _ (unhide T4)
      · repeat with_reducible first | refine Fr.setCell ?_ (Or.inl (Or.inr rfl)) _ | refine Fr.setCell ?_ (Or.inl (Or.inl (unhide HO))) _ | refine Fr.alloc ?_ _ | refine Fr.drew ?_ | refine Fr.drewN ?_ _ | exact (unhide F5).join _
      · intro k hk
        rcases hk with h | h
        · exact Or.inl h
        · exact Or.inr (by have := unhide Z3; omega)
      · intro k hk
        rcases hk with h | h
        · exact Or.inl (Or.inl h)
        · exact Or.inl (Or.inr (by have := unhide Z3; omega))
    · rw [heap_last2 (by simp [World.setCell])]
    · rintro (h | h)
      · have := (unhide H4).lt h; omega
      · omega

set_option maxRecDepth 100000 in
set_option maxHeartbeats 3200000 in
theorem cond_cmp (pb : Nat) (s : ByteArray) (f : Nat) (IH : SumC pb s f) (w : World) (st : PS) (O : Nat → Prop) (h : PA w pb s st O) (hk : Ok s st) (h0 : isP st wNot = false) (h1 : isP st wBrack = false) (h2 : isP st wNet = false) (h3 : isP st wPath = false) (h4 : isP st wMarked = false) (hst : startsP st = true) (st1 : PS) (a : Tr) (hs1 : sumTw s f st = some (st1, a)) (st2 : PS) (b : Tr) (wd : ByteArray) (hwd : (isP st1 wEq = true ∧ wd = wEq) ∨ (isP st1 wEq = false ∧ wd = wLess)) (hs2 : sumTw s f (needP s st1 wd) = some (st2, b)) :
    Calls Tryz.prog 125 #[ptr pb, .int .i64 2] w (TreeC pb s w O (st2, .mk wd ⟨#[]⟩ 0 0 [a, b])) := by
  rcases hwd with ⟨he, hw⟩ | ⟨he, hw⟩
  all_goals
    rw [hw] at hs2
    have lp : pb < w.heap.size := h.lt h.own
    have hR : PA (w.alloc (.cells treeZ 115)) pb s st O := h.alloc _
    have N0 := hide (show ¬ O w.heap.size from fun hk => by have := h.lt hk; omega)
    have HR := hide hR
    have K := hide hk
    have HS1 := hide hs1
    have HS2 := hide hs2
    have HIH := hide IH
    clear hR h hk hs1 hs2 IH
    go_enter Tryz.func125, Tryz.ntmps125
    go_wp2_with fail
    refine ((unhide HR).is _).mono ?_
    rintro e w0 ⟨rfl, rfl⟩
    rw [show isP st { data := #[110, 111, 116] } = false from h0]
    go_wp2_with fail
    refine ((unhide HR).is _).mono ?_
    rintro e w0 ⟨rfl, rfl⟩
    rw [show isP st { data := #[91] } = false from h1]
    go_wp2_with fail
    refine ((unhide HR).is _).mono ?_
    rintro e w0 ⟨rfl, rfl⟩
    rw [show isP st { data := #[110, 101, 116] } = false from h2]
    go_wp2_with fail
    refine ((unhide HR).is _).mono ?_
    rintro e w0 ⟨rfl, rfl⟩
    rw [show isP st { data := #[112, 97, 116, 104] } = false from h3]
    go_wp2_with fail
    refine ((unhide HR).is _).mono ?_
    rintro e w0 ⟨rfl, rfl⟩
    rw [show isP st { data := #[109, 97, 114, 107, 101, 100] } = false from h4]
    go_wp2_with fail
    refine (starts_any (unhide HR)).mono ?_
    rintro e w0 ⟨rfl, rfl⟩
    rw [hst]
    go_wp2_with fail
    refine (unhide HIH _ _ _ _ (unhide HR) (unhide K) (unhide HS1)).mono ?_
    rintro e w4 ⟨v, O4, rfl, hp4, hf4, ht4, hk4⟩
    obtain ⟨aop, atext, an, aa, ao, ac, al, rfl⟩ := ht4.form
    have H4 := hide (hp4.alloc (.cells (treeCells aop atext an aa (.slice ao ac al)) 115))
    have F4 := hide hf4
    have T4 := hide ht4
    have K4 := hide hk4
    have N4 := hide (show ¬ O4 w4.heap.size from fun hk => by have := hp4.lt hk; omega)
    have A1 := hide ((hp4.alloc (.cells (treeCells aop atext an aa (.slice ao ac al)) 115)).is wEq)
    clear hp4 hf4 ht4 hk4
    go_wp2_with fail
    refine (unhide A1).mono ?_
    rintro e w0 ⟨rfl, rfl⟩
    rw [he]
    go_wp2_with fail
    refine (need_any (unhide H4) (unhide K4) _).mono ?_
    rintro e w5 ⟨rfl, O5, hp5, hf5⟩
    have H5 := hide hp5
    have F5 := hide (((Fr.refl O4 w4).alloc (.cells (treeCells aop atext an aa (.slice ao ac al)) 115)).trans hf5)
    have Q5 := hide ((hf5.block w4.heap.size (by simp) (unhide N4)).trans (heap_alloc_new w4 _))
    have hz5 : w4.heap.size < w5.heap.size := heap_lt (unhide Q5)
    have N5 := hide (show ¬ O5 w4.heap.size from fun hk => by
      rcases hf5.own _ hk with h | h
      · exact unhide N4 h
      · simp at h; omega)
    clear hp5 hf5
    go_wp2_with fail
    refine (unhide HIH _ _ _ _ (unhide H5) ((unhide K4).need _) (unhide HS2)).mono ?_
    rintro e w' ⟨v, O', rfl, hp, hf6, ht6, hk6⟩
    obtain ⟨bop, btext, bn, ba, bo, bc, bl, rfl⟩ := ht6.form
    have b0 : w'.heap[w4.heap.size]? = some (.cells (treeCells aop atext an aa (.slice ao ac al)) 115 (0, 0)) := (hf6.block w4.heap.size hz5 (unhide N5)).trans (unhide Q5)
    obtain ⟨s0, s1, s2, s3, s4⟩ := cells5 b0
    have hzb : w4.heap.size < w'.heap.size := heap_lt b0
    have hzc : w.heap.size < w4.heap.size := by have := (unhide F4).size; simp at this; omega
    have F6 := hide hf6
    have F56 := hide ((unhide F5).trans hf6)
    have hf := (unhide F4).trans (unhide F56)
    have T6 := hide ht6
    have K6 := hide hk6
    have HPL := hide (show ∀ k, O' k → k < w'.heap.size from fun k hk => hp.lt hk)
    clear b0 hf6 ht6 hk6
    obtain ⟨hn0, hz, r0, r1, r2, r3, r4, zr, hfw⟩ := rtree hf (unhide N0); have HN := hide hn0; have HP := hide hp; have HF := hide hfw; clear hn0 hfw hp hf
    go_wp2_with fail
    have f0 : Fr (fun k => O' k ∨ k = w.heap.size) w' (fun k => O' k ∨ k = w.heap.size) w' := (Fr.refl O' w').join (fun k => k = w.heap.size)
    refine bodyPost_ret (v := treeV wd ⟨#[]⟩ 0 0 (.slice (some ⟨w'.heap.size + 1, 0, none⟩) 2 2)) (by simp [results, Tryz.results125, go_sem, r0, r1, r2, r3, r4, hz, hw, wEq, wLess]) rfl ⟨_, O', rfl, ?_, ?_, ?_, unhide K6⟩
    · repeat with_reducible first | refine PA.other ?_ (unhide HN) _ _ | refine PA.alloc ?_ _ | refine PA.drew ?_ | refine PA.drewN ?_ _ | exact unhide HP
    · repeat with_reducible first | refine Fr.setCell ?_ (Or.inr (Nat.le_refl _)) _ | refine Fr.setCell ?_ (Or.inl (unhide HO)) _ | refine Fr.alloc ?_ _ | refine Fr.drew ?_ | refine Fr.drewN ?_ _ | exact unhide HF | exact Fr.refl _ _
    · refine TrAt.pair (a0 := .string aop) (a1 := .string atext) (a2 := .int .i64 an) (a3 := .int .i64 aa) (a4 := .slice ao ac al) (b0 := .string bop) (b1 := .string btext) (b2 := .int .i64 bn) (b3 := .int .i64 ba) (b4 := .slice bo bc bl) ?_ ?_ ?_ ?_
      · refine TrAt.step (O := fun k => O4 k ∨ k = w.heap.size) (O' := fun k => O' k ∨ k = w.heap.size) (w := w4) (((unhide F56).join (fun k => k = w.heap.size)).trans ?_) ?_ ?_ _ _ (unhide T4)
        · repeat with_reducible first | refine Fr.setCell ?_ (Or.inl (Or.inr rfl)) _ | refine Fr.alloc ?_ _ | exact f0
        · intro k hk
          rcases hk with h | h
          · exact Or.inl h
          · exact Or.inr (by simp; omega)
        · intro k hk
          rcases hk with h | h
          · rcases (unhide F56).own k h with h1 | h1
            · exact Or.inl (Or.inl h1)
            · exact Or.inr h1
          · exact Or.inl (Or.inr (by simp; omega))
      · refine TrAt.step (O := fun k => O' k ∨ k = w.heap.size) (O' := fun k => O' k ∨ k = w.heap.size) (w := w') ?_ ?_ ?_ _ _ (unhide T6)
        · repeat with_reducible first | refine Fr.setCell ?_ (Or.inl (Or.inr rfl)) _ | refine Fr.alloc ?_ _ | exact f0
        · intro k hk
          rcases hk with h | h
          · exact Or.inl h
          · exact Or.inr (by omega)
        · intro k hk
          rcases hk with h | h
          · exact Or.inl (Or.inl h)
          · exact Or.inl (Or.inr (by omega))
      · rw [heap_last2 (by simp [World.setCell])]
      · rintro (h | h)
        · have := unhide HPL _ h; omega
        · omega
end Go.Proofs.YtgdeeodifnegiaaGreatDoor.rf
