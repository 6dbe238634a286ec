/- The reference's ways: one, row, either, out of their twins. -/
import Derived.Test.YtgdeeodifnegiaaGreatDoorRefK
namespace Go.Proofs.YtgdeeodifnegiaaGreatDoor.rf
open Go.RowKit

def EitherC (pb : Nat) (s : ByteArray) (f : Nat) : Prop := ∀ (w : World) (st : PS) (O : Nat → Prop) (r : PS × Tr), PA w pb s st O → Ok s st → eitherTw s f st = some r → Calls Tryz.prog 121 #[ptr pb] w (TreeC pb s w O r)
def RowC (pb : Nat) (s : ByteArray) (f : Nat) : Prop := ∀ (w : World) (st : PS) (O : Nat → Prop) (r : PS × Tr), PA w pb s st O → Ok s st → rowTw s f st = some r → Calls Tryz.prog 173 #[ptr pb] w (TreeC pb s w O r)
def OneC (pb : Nat) (s : ByteArray) (f : Nat) : Prop := ∀ (w : World) (st : PS) (O : Nat → Prop) (r : PS × Tr), PA w pb s st O → Ok s st → oneTw s f st = some r → Calls Tryz.prog 229 #[ptr pb] w (TreeC pb s w O r)

set_option maxRecDepth 100000 in
set_option maxHeartbeats 1600000 in
theorem one_paren (pb : Nat) (s : ByteArray) (f : Nat) (IH : EitherC pb s f) (w : World) (st : PS) (O : Nat → Prop) (h : PA w pb s st O) (hk : Ok s st) (hdot : isP st wDot = false) (hop : isP st wOpen = true) (st1 : PS) (t : Tr) (hsum : eitherTw s f (takeP s (opensP st)) = some (st1, t)) :
    Calls Tryz.prog 229 #[ptr pb] w (TreeC pb s w O (decP (needP s st1 wShut), t)) := by
  have lp : pb < w.heap.size := h.lt h.own
  have hR : PA (w.alloc (.cells treeZ 115)) pb s st O := h.alloc _
  have N0 := hide (show ¬ O w.heap.size from fun hk => by have := h.lt hk; omega)
  have HR := hide hR
  have K := hide hk
  have HSUM := hide hsum
  have HIH := hide IH
  clear hR h hk hsum IH
  go_enter Tryz.func229, Tryz.ntmps229
  go_wp2_with fail
  refine ((unhide HR).is _).mono ?_
  rintro e w0 ⟨rfl, rfl⟩
  rw [show isP st { data := #[46] } = false from hdot]
  go_wp2_with fail
  refine ((unhide HR).is _).mono ?_
  rintro e w0 ⟨rfl, rfl⟩
  rw [show isP st { data := #[40] } = true from hop]
  go_wp2_with fail
  refine ((unhide HR).opens).mono ?_
  rintro e w2 ⟨rfl, hp2, hf2⟩
  go_wp2_with fail
  refine (take_any hp2 (unhide K).opens).mono ?_
  rintro e w3 ⟨rfl, O3, hp3, hf3⟩
  have H3 := hide hp3
  have F3 := hide (hf2.trans hf3)
  clear hp2 hf2 hp3 hf3
  go_wp2_with fail
  refine (unhide HIH _ _ _ _ (unhide H3) (unhide K).opens.take (unhide HSUM)).mono ?_
  rintro e w4 ⟨v, O4, rfl, hp4, hf4, ht4, hk4⟩
  obtain ⟨op, text, n, a, o, c, l, rfl⟩ := ht4.form
  have H4 := hide hp4
  have F4 := hide ((unhide F3).trans hf4)
  have T4 := hide ht4
  have K4 := hide hk4
  have Z3 := hide (show w.heap.size < w3.heap.size by have := (unhide F3).size; simp at this; omega)
  have N4 := hide (show ¬ O4 w4.heap.size from fun hk => by have := hp4.lt hk; omega)
  clear hp4 hf4 ht4 hk4
  go_wp2_with fail
  refine (need_any ((unhide H4).alloc _) (unhide K4) _).mono ?_
  rintro e w' ⟨rfl, O', hp, hf5⟩
  have b0 : w'.heap[w4.heap.size]? = some (.cells (treeCells op text n a (.slice o c l)) 115 (0, 0)) := (hf5.block w4.heap.size (by simp) (unhide N4)).trans (heap_alloc_new w4 _)
  have F5 := hide (((Fr.refl O4 w4).alloc (.cells (treeCells op text n a (.slice o c l)) 115)).trans hf5)
  have hf := (unhide F4).trans (unhide F5)
  obtain ⟨s0, s1, s2, s3, s4⟩ := cells5 b0
  have hzb : w4.heap.size < w'.heap.size := heap_lt b0
  have hzc : w.heap.size < w4.heap.size := by have := (unhide F4).size; simp at this; omega
  obtain ⟨_, _, c8, zp⟩ := hp.cell
  have HO := hide hp.own
  have hp := hp.setOpn (wrap64 ((needP s st1 ⟨#[41]⟩).opn - 1))
  clear b0 hf5
  obtain ⟨hn0, hz, r0, r1, r2, r3, r4, zr, hfw⟩ := rtree hf (unhide N0); have HN := hide hn0; have HP := hide hp; have HF := hide hfw; clear hn0 hfw hp hf
  go_wp2_with fail
  refine bodyPost_ret (v := treeV op text n a (.slice o c l)) (by simp [results, Tryz.results229, go_sem, r0, r1, r2, r3, r4]) rfl ⟨_, O', rfl, ?_, ?_, ?_, ?_⟩
  · refine (show PA _ pb s { needP s st1 ⟨#[41]⟩ with opn := wrap64 ((needP s st1 ⟨#[41]⟩).opn - 1) } O' from ?_)
    repeat with_reducible first | refine PA.other ?_ (unhide HN) _ _ | refine PA.alloc ?_ _ | refine PA.drew ?_ | refine PA.drewN ?_ _ | exact unhide HP
  · repeat with_reducible first | refine Fr.setCell ?_ (Or.inr (Nat.le_refl _)) _ | refine Fr.setCell ?_ (Or.inl (unhide HO)) _ | refine Fr.alloc ?_ _ | refine Fr.drew ?_ | refine Fr.drewN ?_ _ | exact unhide HF | exact Fr.refl _ _
  · refine TrAt.step (O := fun k => O4 k ∨ k = w.heap.size) (O' := fun k => O' k ∨ k = w.heap.size) (w := w4) ?_ ?_ ?_ t _ (unhide T4)
    · repeat with_reducible first | refine Fr.setCell ?_ (Or.inl (Or.inr rfl)) _ | refine Fr.setCell ?_ (Or.inl (Or.inl (unhide HO))) _ | refine Fr.alloc ?_ _ | refine Fr.drew ?_ | refine Fr.drewN ?_ _ | exact (unhide F5).join _
    · intro k hk
      rcases hk with h | h
      · exact Or.inl h
      · exact Or.inr (by have := unhide Z3; omega)
    · intro k hk
      rcases hk with h | h
      · rcases (unhide F5).own k h with h1 | h1
        · exact Or.inl (Or.inl h1)
        · exact Or.inr h1
      · exact Or.inl (Or.inr (by have := unhide Z3; omega))
  · exact ((unhide K4).need _).opn _

set_option maxRecDepth 100000 in
set_option maxHeartbeats 1600000 in
theorem one_flat (pb : Nat) (s : ByteArray) (w : World) (st : PS) (O : Nat → Prop) (h : PA w pb s st O) (hk : Ok s st) (hop : isP st wDot = true ∨ (isP st wDot = false ∧ isP st wOpen = false)) :
    Calls Tryz.prog 229 #[ptr pb] w (TreeC pb s w O (if isP st wDot = true then (takeP s st, .mk wDot ⟨#[]⟩ 0 0 []) else (kindP s st 48, .mk wNumber ⟨#[]⟩ (numP st.next.text 4294967295) st.next.at_ []))) := by
  have lp : pb < w.heap.size := h.lt h.own
  have hR : PA (w.alloc (.cells treeZ 115)) pb s st O := h.alloc _
  have N0 := hide (show ¬ O w.heap.size from fun hk => by have := h.lt hk; omega)
  have HR := hide hR
  have K0 := hide hk
  have A1 := hR.is wDot
  have A2 := hR.is wOpen
  clear hR h hk
  rcases hop with hd | ⟨hd, ho⟩
  · rw [if_pos hd]
    go_enter Tryz.func229, Tryz.ntmps229
    have H1 := hide A1
    have H2 := hide A2
    clear A1 A2
    go_wp2_with fail
    refine (unhide H1).mono ?_
    rintro e w0 ⟨rfl, rfl⟩
    rw [hd]
    go_wp2_with fail
    refine (unhide H2).mono ?_
    rintro e w0 ⟨rfl, rfl⟩
    go_wp2_with fail
    refine (take_any (unhide HR) (unhide K0)).mono ?_
    rintro e w' ⟨rfl, O', hp, hf⟩
    obtain ⟨hn0, hz, r0, r1, r2, r3, r4, zr, hfw⟩ := rtree hf (unhide N0); have HN := hide hn0; have HP := hide hp; have HF := hide hfw; clear hn0 hfw hp hf
    go_wp2_with fail
    refine bodyPost_ret (v := treeV wDot ⟨#[]⟩ 0 0 (.slice none 0 0)) (by simp [results, Tryz.results229, go_sem, r0, r1, r2, r3, r4, wDot]) rfl ⟨_, O', rfl, ?_, ?_, TrAt.leaf _ _ _ _ _ _, (unhide K0).take⟩
    · repeat with_reducible first | refine PA.other ?_ (unhide HN) _ _ | refine PA.alloc ?_ _ | refine PA.drew ?_ | refine PA.drewN ?_ _ | exact unhide HP
    · repeat with_reducible first | refine Fr.setCell ?_ (Or.inr (Nat.le_refl _)) _ | refine Fr.setCell ?_ (Or.inl (unhide HO)) _ | refine Fr.alloc ?_ _ | refine Fr.drew ?_ | refine Fr.drewN ?_ _ | exact unhide HF | exact Fr.refl _ _
  · rw [if_neg (by rw [hd]; simp)]
    go_enter Tryz.func229, Tryz.ntmps229
    have H1 := hide A1
    have H2 := hide A2
    clear A1 A2
    go_wp2_with fail
    refine (unhide H1).mono ?_
    rintro e w0 ⟨rfl, rfl⟩
    rw [hd]
    go_wp2_with fail
    refine (unhide H2).mono ?_
    rintro e w0 ⟨rfl, rfl⟩
    rw [ho]
    go_wp2_with fail
    refine (num_any (unhide HR) (unhide K0) _).mono ?_
    rintro e w' ⟨rfl, O', hp, hf⟩
    obtain ⟨hn0, hz, r0, r1, r2, r3, r4, zr, hfw⟩ := rtree hf (unhide N0); have HN := hide hn0; have HP := hide hp; have HF := hide hfw; clear hn0 hfw hp hf
    go_wp2_with fail
    refine bodyPost_ret (v := treeV wNumber ⟨#[]⟩ (numP st.next.text 4294967295) st.next.at_ (.slice none 0 0)) (by simp [results, Tryz.results229, go_sem, r0, r1, r2, r3, r4, wNumber]) rfl ⟨_, O', rfl, ?_, ?_, TrAt.leaf _ _ _ _ _ _, (unhide K0).kind 48⟩
    · repeat with_reducible first | refine PA.other ?_ (unhide HN) _ _ | refine PA.alloc ?_ _ | refine PA.drew ?_ | refine PA.drewN ?_ _ | exact unhide HP
    · repeat with_reducible first | refine Fr.setCell ?_ (Or.inr (Nat.le_refl _)) _ | refine Fr.setCell ?_ (Or.inl (unhide HO)) _ | refine Fr.alloc ?_ _ | refine Fr.drew ?_ | refine Fr.drewN ?_ _ | exact unhide HF | exact Fr.refl _ _

theorem one_any (pb : Nat) (s : ByteArray) (f : Nat) (IH : EitherC pb s f) : OneC pb s (f + 1) := by
  intro w st O r h hk hr
  rw [oneTw] at hr
  by_cases h1 : isP st wDot = true
  · rw [if_pos h1] at hr
    have := one_flat pb s w st O h hk (Or.inl h1)
    rw [if_pos h1] at this
    obtain rfl := Option.some.inj hr; exact this
  · have h1' : isP st wDot = false := by simpa using h1
    rw [if_neg h1] at hr
    by_cases h2 : isP st wOpen = true
    · rw [if_pos h2] at hr
      cases ht : eitherTw s f (takeP s (opensP st)) with
      | none => rw [ht] at hr; cases hr
      | some p =>
        rw [ht] at hr
        obtain rfl := Option.some.inj hr
        exact one_paren pb s f IH w st O h hk h1' h2 p.1 p.2 ht
    · rw [if_neg h2] at hr
      have := one_flat pb s w st O h hk (Or.inr ⟨h1', by simpa using h2⟩)
      rw [if_neg h1] at this
      obtain rfl := Option.some.inj hr; exact this
end Go.Proofs.YtgdeeodifnegiaaGreatDoor.rf
