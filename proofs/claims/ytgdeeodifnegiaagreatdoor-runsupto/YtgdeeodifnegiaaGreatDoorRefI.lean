/- The reference's sum and term: each call gives what its twin (a Lean function on the parser's state) gives. -/
import Derived.Test.YtgdeeodifnegiaaGreatDoorRefH
import Derived.Deep.LoopGhost
namespace Go.Proofs.YtgdeeodifnegiaaGreatDoor.rf
open Go.RowKit

theorem field_text (t : Tok) (w : World) : (Instr.field 121 (tokV t) 1).run Tryz.prog w = .ok (.string t.text) w := by kernel_rfl

/-- a call that gives a tree -/
def TreeC (pb : Nat) (s : ByteArray) (w : World) (O : Nat → Prop) (r : PS × Tr) (e : Ending) (w' : World) : Prop :=
  ∃ v O', e = .returned v ∧ PA w' pb s r.1 O' ∧ Fr O w O' w' ∧ TrAt w' (fun k => O' k ∨ k < w.heap.size) r.2 v ∧ Ok s r.1
def SumC (pb : Nat) (s : ByteArray) (f : Nat) : Prop := ∀ (w : World) (st : PS) (O : Nat → Prop) (r : PS × Tr), PA w pb s st O → Ok s st → sumTw s f st = some r → Calls Tryz.prog 123 #[ptr pb] w (TreeC pb s w O r)
def TermC (pb : Nat) (s : ByteArray) (f : Nat) : Prop := ∀ (w : World) (st : PS) (O : Nat → Prop) (r : PS × Tr), PA w pb s st O → Ok s st → termTw s f st = some r → Calls Tryz.prog 174 #[ptr pb] w (TreeC pb s w O r)

theorem isP_fail (st : PS) (x : ByteArray) : isP (failP st) x = false := by
  have := failP_bad st
  unfold isP; rw [decide_eq_false (by omega)]; rfl
theorem kindP_fail (s : ByteArray) (st : PS) (k : Int) : kindP s (failP st) k = failP st := by
  unfold kindP; split
  · exact takeP_fail s st
  · exact failP_idem st

set_option maxRecDepth 100000 in
set_option maxHeartbeats 1600000 in
/-- a term that is one token -/
theorem term_flat (pb : Nat) (s : ByteArray) (w : World) (st : PS) (O : Nat → Prop) (h : PA w pb s st O) (hk : Ok s st) (st0 : PS) (hst : (startsP st = true ∧ st0 = st) ∨ (startsP st = false ∧ st0 = failP st)) (hop : isP st0 wOpen = false) :
    Calls Tryz.prog 174 #[ptr pb] w (TreeC pb s w O (if st0.next.kind = 48 then (kindP s st0 48, .mk wNumber ⟨#[]⟩ (numP st0.next.text 4294967295) st0.next.at_ []) else (takeP s st0, .mk st0.next.text ⟨#[]⟩ 0 0 []))) := by
  have lp : pb < w.heap.size := h.lt h.own
  have hR : PA (w.alloc (.cells treeZ 115)) pb s st O := h.alloc _
  have N0 := hide (show ¬ O w.heap.size from fun hk => by have := h.lt hk; omega)
  have K0 : Ok s st0 := by rcases hst with ⟨_, rfl⟩ | ⟨_, rfl⟩; exact hk; exact hk.fail
  have c1 := hR.cell.1
  have hfl := field_text st0.next
  have HR := hide hR
  clear hR h hk
  rcases hst with ⟨hs1, rfl⟩ | ⟨hs1, rfl⟩
  · by_cases h48 : st0.next.kind = 48
    · rw [if_pos h48]
      have hb : (st0.next.kind == 48) = true := by simp [h48]
      clear h48
      generalize st0 = st at *
      go_enter Tryz.func174, Tryz.ntmps174
      go_wp2_with fail
      refine (starts_any (unhide HR)).mono ?_
      rintro e w0 ⟨rfl, rfl⟩
      rw [hs1]
      go_wp2_with fail
      refine ((unhide HR).is _).mono ?_
      rintro e w0 ⟨rfl, rfl⟩
      rw [show isP st { data := #[40] } = false from hop]
      go_wp2_with fail
      refine (num_any (unhide HR) K0 _).mono ?_
      rintro e w' ⟨rfl, O', hp, hf2⟩
      have hf := hf2
      obtain ⟨hn0, hz, r0, r1, r2, r3, r4, zr, hfw⟩ := rtree hf (unhide N0); have HN := hide hn0; have HP := hide hp; have HF := hide hfw; clear hn0 hfw hp hf
      go_wp2_with fail
      refine bodyPost_ret (v := treeV wNumber ⟨#[]⟩ (numP st.next.text 4294967295) st.next.at_ (.slice none 0 0)) (by simp [results, Tryz.results174, go_sem, r0, r1, r2, r3, r4, wNumber]) rfl ⟨_, O', rfl, ?_, ?_, TrAt.leaf _ _ _ _ _ _, ?_⟩
      · repeat with_reducible first | refine PA.other ?_ (unhide HN) _ _ | refine PA.alloc ?_ _ | refine PA.drew ?_ | refine PA.drewN ?_ _ | exact unhide HP
      · repeat with_reducible first | refine Fr.setCell ?_ (Or.inr (Nat.le_refl _)) _ | refine Fr.setCell ?_ (Or.inl (unhide HO)) _ | refine Fr.alloc ?_ _ | refine Fr.drew ?_ | refine Fr.drewN ?_ _ | exact unhide HF | exact Fr.refl _ _
      · exact K0.kind 48
    · rw [if_neg h48]
      have hb : (st0.next.kind == 48) = false := by simp [h48]
      clear h48
      generalize st0 = st at *
      go_enter Tryz.func174, Tryz.ntmps174
      go_wp2_with fail
      refine (starts_any (unhide HR)).mono ?_
      rintro e w0 ⟨rfl, rfl⟩
      rw [hs1]
      go_wp2_with fail
      refine ((unhide HR).is _).mono ?_
      rintro e w0 ⟨rfl, rfl⟩
      rw [show isP st { data := #[40] } = false from hop]
      go_wp2_with fail
      refine (take_any (unhide HR) K0).mono ?_
      rintro e w' ⟨rfl, O', hp, hf2⟩
      have hf := hf2
      obtain ⟨hn0, hz, r0, r1, r2, r3, r4, zr, hfw⟩ := rtree hf (unhide N0); have HN := hide hn0; have HP := hide hp; have HF := hide hfw; clear hn0 hfw hp hf
      go_wp2_with fail
      refine bodyPost_ret (v := treeV st.next.text ⟨#[]⟩ 0 0 (.slice none 0 0)) (by simp [results, Tryz.results174, go_sem, r0, r1, r2, r3, r4]) rfl ⟨_, O', rfl, ?_, ?_, TrAt.leaf _ _ _ _ _ _, ?_⟩
      · repeat with_reducible first | refine PA.other ?_ (unhide HN) _ _ | refine PA.alloc ?_ _ | refine PA.drew ?_ | refine PA.drewN ?_ _ | exact unhide HP
      · repeat with_reducible first | refine Fr.setCell ?_ (Or.inr (Nat.le_refl _)) _ | refine Fr.setCell ?_ (Or.inl (unhide HO)) _ | refine Fr.alloc ?_ _ | refine Fr.drew ?_ | refine Fr.drewN ?_ _ | exact unhide HF | exact Fr.refl _ _
      · exact K0.take
  · rw [failP_next] at hfl ⊢
    by_cases h48 : st.next.kind = 48
    · rw [if_pos h48]
      have hb : (st.next.kind == 48) = true := by simp [h48]
      clear h48
      go_enter Tryz.func174, Tryz.ntmps174
      go_wp2_with fail
      refine (starts_any (unhide HR)).mono ?_
      rintro e w0 ⟨rfl, rfl⟩
      rw [hs1]
      go_wp2_with fail
      refine ((unhide HR).fail).mono ?_
      rintro e w1 ⟨rfl, hp1, hf1⟩
      have H1 := hide hp1
      have c1 : w1.cell? ⟨pb, 1, none⟩ = some (.int .u8 st.next.kind) := by rw [← failP_next]; exact hp1.cell.1
      clear hp1
      go_wp2_with fail
      refine ((unhide H1).is _).mono ?_
      rintro e w0 ⟨rfl, rfl⟩
      rw [show isP (failP st) { data := #[40] } = false from hop]
      go_wp2_with fail
      refine (num_any (unhide H1) K0 _).mono ?_
      rintro e w' ⟨rfl, O', hp, hf2⟩
      have hf := hf1.trans hf2
      obtain ⟨hn0, hz, r0, r1, r2, r3, r4, zr, hfw⟩ := rtree hf (unhide N0); have HN := hide hn0; have HP := hide hp; have HF := hide hfw; clear hn0 hfw hp hf
      go_wp2_with fail
      refine bodyPost_ret (v := treeV wNumber ⟨#[]⟩ (numP st.next.text 4294967295) st.next.at_ (.slice none 0 0)) (by simp [results, Tryz.results174, go_sem, r0, r1, r2, r3, r4, wNumber]) rfl ⟨_, O', rfl, ?_, ?_, TrAt.leaf _ _ _ _ _ _, ?_⟩
      · repeat with_reducible first | refine PA.other ?_ (unhide HN) _ _ | refine PA.alloc ?_ _ | refine PA.drew ?_ | refine PA.drewN ?_ _ | exact unhide HP
      · repeat with_reducible first | refine Fr.setCell ?_ (Or.inr (Nat.le_refl _)) _ | refine Fr.setCell ?_ (Or.inl (unhide HO)) _ | refine Fr.alloc ?_ _ | refine Fr.drew ?_ | refine Fr.drewN ?_ _ | exact unhide HF | exact Fr.refl _ _
      · exact K0.kind 48
    · rw [if_neg h48]
      have hb : (st.next.kind == 48) = false := by simp [h48]
      clear h48
      go_enter Tryz.func174, Tryz.ntmps174
      go_wp2_with fail
      refine (starts_any (unhide HR)).mono ?_
      rintro e w0 ⟨rfl, rfl⟩
      rw [hs1]
      go_wp2_with fail
      refine ((unhide HR).fail).mono ?_
      rintro e w1 ⟨rfl, hp1, hf1⟩
      have H1 := hide hp1
      have c1 : w1.cell? ⟨pb, 1, none⟩ = some (.int .u8 st.next.kind) := by rw [← failP_next]; exact hp1.cell.1
      clear hp1
      go_wp2_with fail
      refine ((unhide H1).is _).mono ?_
      rintro e w0 ⟨rfl, rfl⟩
      rw [show isP (failP st) { data := #[40] } = false from hop]
      go_wp2_with fail
      refine (take_any (unhide H1) K0).mono ?_
      rintro e w' ⟨rfl, O', hp, hf2⟩
      have hf := hf1.trans hf2
      obtain ⟨hn0, hz, r0, r1, r2, r3, r4, zr, hfw⟩ := rtree hf (unhide N0); have HN := hide hn0; have HP := hide hp; have HF := hide hfw; clear hn0 hfw hp hf
      go_wp2_with fail
      refine bodyPost_ret (v := treeV st.next.text ⟨#[]⟩ 0 0 (.slice none 0 0)) (by simp [results, Tryz.results174, go_sem, r0, r1, r2, r3, r4]) rfl ⟨_, O', rfl, ?_, ?_, TrAt.leaf _ _ _ _ _ _, ?_⟩
      · repeat with_reducible first | refine PA.other ?_ (unhide HN) _ _ | refine PA.alloc ?_ _ | refine PA.drew ?_ | refine PA.drewN ?_ _ | exact unhide HP
      · repeat with_reducible first | refine Fr.setCell ?_ (Or.inr (Nat.le_refl _)) _ | refine Fr.setCell ?_ (Or.inl (unhide HO)) _ | refine Fr.alloc ?_ _ | refine Fr.drew ?_ | refine Fr.drewN ?_ _ | exact unhide HF | exact Fr.refl _ _
      · exact K0.take

end Go.Proofs.YtgdeeodifnegiaaGreatDoor.rf

namespace Go.Proofs.YtgdeeodifnegiaaGreatDoor
theorem Fr.join {O O' : Nat → Prop} {w w' : World} (h : Fr O w O' w') (A : Nat → Prop) : Fr (fun k => O k ∨ A k) w (fun k => O' k ∨ A k) w' :=
  ⟨h.os, h.tape, h.output, h.size, fun k hk hn => h.block k hk (fun ho => hn (Or.inl ho)), fun k hk => by
    rcases hk with h1 | h1
    · rcases h.own k h1 with h2 | h2
      · exact Or.inl (Or.inl h2)
      · exact Or.inr h2
    · exact Or.inl (Or.inr h1)⟩
end Go.Proofs.YtgdeeodifnegiaaGreatDoor

namespace Go.Proofs.YtgdeeodifnegiaaGreatDoor.rf
open Go.RowKit

set_option maxRecDepth 100000 in
set_option maxHeartbeats 1600000 in
theorem term_paren (pb : Nat) (s : ByteArray) (f : Nat) (IH : SumC pb s f) (w : World) (st : PS) (O : Nat → Prop) (h : PA w pb s st O) (hk : Ok s st) (hs1 : startsP st = true) (hop : isP st wOpen = true) (st1 : PS) (t : Tr) (hsum : sumTw s f (takeP s (opensP st)) = some (st1, t)) :
    Calls Tryz.prog 174 #[ptr pb] w (TreeC pb s w O (decP (needP s st1 wShut), t)) := by
  have lp : pb < w.heap.size := h.lt h.own
  have hR : PA (w.alloc (.cells treeZ 115)) pb s st O := h.alloc _
  have N0 := hide (show ¬ O w.heap.size from fun hk => by have := h.lt hk; omega)
  have HR := hide hR
  have K := hide hk
  have HSUM := hide hsum
  have HIH := hide IH
  clear hR h hk hsum IH
  go_enter Tryz.func174, Tryz.ntmps174
  go_wp2_with fail
  refine (starts_any (unhide HR)).mono ?_
  rintro e w0 ⟨rfl, rfl⟩
  rw [hs1]
  go_wp2_with fail
  refine ((unhide HR).is _).mono ?_
  rintro e w0 ⟨rfl, rfl⟩
  rw [show isP st { data := #[40] } = true from hop]
  go_wp2_with fail
  refine ((unhide HR).opens).mono ?_
  rintro e w2 ⟨rfl, hp2, hf2⟩
  go_wp2_with fail
  refine (take_any hp2 (unhide K).opens).mono ?_
  rintro e w3 ⟨rfl, O3, hp3, hf3⟩
  have H3 := hide hp3
  have F3 := hide (hf2.trans hf3)
  clear hp2 hf2 hp3 hf3
  go_wp2_with fail
  refine (unhide HIH _ _ _ _ (unhide H3) (unhide K).opens.take (unhide HSUM)).mono ?_
  rintro e w4 ⟨v, O4, rfl, hp4, hf4, ht4, hk4⟩
  obtain ⟨op, text, n, a, o, c, l, rfl⟩ := ht4.form
  have H4 := hide hp4
  have F4 := hide ((unhide F3).trans hf4)
  have T4 := hide ht4
  have K4 := hide hk4
  have Z3 := hide (show w.heap.size < w3.heap.size by have := (unhide F3).size; simp at this; omega)
  have N4 := hide (show ¬ O4 w4.heap.size from fun hk => by have := hp4.lt hk; omega)
  clear hp4 hf4 ht4 hk4
  go_wp2_with fail
  refine (need_any ((unhide H4).alloc _) (unhide K4) _).mono ?_
  rintro e w' ⟨rfl, O', hp, hf5⟩
  have b0 : w'.heap[w4.heap.size]? = some (.cells (treeCells op text n a (.slice o c l)) 115 (0, 0)) := (hf5.block w4.heap.size (by simp) (unhide N4)).trans (heap_alloc_new w4 _)
  have F5 := hide (((Fr.refl O4 w4).alloc (.cells (treeCells op text n a (.slice o c l)) 115)).trans hf5)
  have hf := (unhide F4).trans (unhide F5)
  obtain ⟨s0, s1, s2, s3, s4⟩ := cells5 b0
  have hzb : w4.heap.size < w'.heap.size := heap_lt b0
  have hzc : w.heap.size < w4.heap.size := by have := (unhide F4).size; simp at this; omega
  obtain ⟨_, _, c8, zp⟩ := hp.cell
  have HO := hide hp.own
  have hp := hp.setOpn (wrap64 ((needP s st1 ⟨#[41]⟩).opn - 1))
  clear b0 hf5
  obtain ⟨hn0, hz, r0, r1, r2, r3, r4, zr, hfw⟩ := rtree hf (unhide N0); have HN := hide hn0; have HP := hide hp; have HF := hide hfw; clear hn0 hfw hp hf
  go_wp2_with fail
  refine bodyPost_ret (v := treeV op text n a (.slice o c l)) (by simp [results, Tryz.results174, go_sem, r0, r1, r2, r3, r4]) rfl ⟨_, O', rfl, ?_, ?_, ?_, ?_⟩
  · refine (show PA _ pb s { needP s st1 ⟨#[41]⟩ with opn := wrap64 ((needP s st1 ⟨#[41]⟩).opn - 1) } O' from ?_)
    repeat with_reducible first | refine PA.other ?_ (unhide HN) _ _ | refine PA.alloc ?_ _ | refine PA.drew ?_ | refine PA.drewN ?_ _ | exact unhide HP
  · repeat with_reducible first | refine Fr.setCell ?_ (Or.inr (Nat.le_refl _)) _ | refine Fr.setCell ?_ (Or.inl (unhide HO)) _ | refine Fr.alloc ?_ _ | refine Fr.drew ?_ | refine Fr.drewN ?_ _ | exact unhide HF | exact Fr.refl _ _
  · refine TrAt.step (O := fun k => O4 k ∨ k = w.heap.size) (O' := fun k => O' k ∨ k = w.heap.size) (w := w4) ?_ ?_ ?_ t _ (unhide T4)
    · repeat with_reducible first | refine Fr.setCell ?_ (Or.inl (Or.inr rfl)) _ | refine Fr.setCell ?_ (Or.inl (Or.inl (unhide HO))) _ | refine Fr.alloc ?_ _ | refine Fr.drew ?_ | refine Fr.drewN ?_ _ | exact (unhide F5).join _
    · intro k hk
      rcases hk with h | h
      · exact Or.inl h
      · exact Or.inr (by have := unhide Z3; omega)
    · intro k hk
      rcases hk with h | h
      · rcases (unhide F5).own k h with h1 | h1
        · exact Or.inl (Or.inl h1)
        · exact Or.inr h1
      · exact Or.inl (Or.inr (by have := unhide Z3; omega))
  · exact ((unhide K4).need _).opn _
end Go.Proofs.YtgdeeodifnegiaaGreatDoor.rf
