/- The reference's cond: its lowest level (a NOT). -/
import Derived.Test.YtgdeeodifnegiaaGreatDoorRefO
namespace Go.Proofs.YtgdeeodifnegiaaGreatDoor.rf
open Go.RowKit

theorem ways (pb : Nat) (s : ByteArray) (f : Nat) (hf0 : f ≤ 1000000) : (∀ g, g ≤ f → EitherC pb s g) ∧ (∀ g, g ≤ f → RowC pb s g) ∧ (∀ g, g ≤ f → OneC pb s g) := by
  induction f with
  | zero =>
    refine ⟨fun g hg => ?_, fun g hg => ?_, fun g hg => ?_⟩
    · obtain rfl : g = 0 := by omega
      intro w st O r _ _ hr; rw [eitherTw] at hr; cases hr
    · obtain rfl : g = 0 := by omega
      intro w st O r _ _ hr; rw [rowTw] at hr; cases hr
    · obtain rfl : g = 0 := by omega
      intro w st O r _ _ hr; rw [oneTw] at hr; cases hr
  | succ f ih =>
    have ih := ih (by omega)
    refine ⟨fun g hg => ?_, fun g hg => ?_, fun g hg => ?_⟩
    · by_cases e : g = f + 1
      · subst e; exact either_any pb s f (by omega) ih.2.1
      · exact ih.1 g (by omega)
    · by_cases e : g = f + 1
      · subst e; exact row_any pb s f (by omega) ih.2.2
      · exact ih.2.1 g (by omega)
    · by_cases e : g = f + 1
      · subst e; exact one_any pb s f (ih.1 f (Nat.le_refl _))
      · exact ih.2.2 g (by omega)

def CondC (pb : Nat) (s : ByteArray) (f : Nat) : Prop := ∀ (lv : Nat) (w : World) (st : PS) (O : Nat → Prop) (r : PS × Tr), lv ≤ 2 → PA w pb s st O → Ok s st → condTw s f lv st = some r → Calls Tryz.prog 125 #[ptr pb, .int .i64 lv] w (TreeC pb s w O r)

set_option maxRecDepth 100000 in
set_option maxHeartbeats 3200000 in
theorem cond_net (pb : Nat) (s : ByteArray) (w : World) (st : PS) (O : Nat → Prop) (h : PA w pb s st O) (hk : Ok s st) (h0 : isP st wNot = false) (h1 : isP st wBrack = false) (h2 : isP st wNet = true) :
    Calls Tryz.prog 125 #[ptr pb, .int .i64 2] w (TreeC pb s w O (kindP s (needP s (takeP s st) wIn) 110, .mk wIn (needP s (takeP s st) wIn).next.text 0 (needP s (takeP s st) wIn).next.at_ [])) := by
  have lp : pb < w.heap.size := h.lt h.own
  have hR : PA (w.alloc (.cells treeZ 115)) pb s st O := h.alloc _
  have N0 := hide (show ¬ O w.heap.size from fun hk => by have := h.lt hk; omega)
  have HR := hide hR
  have K := hide hk
  go_enter Tryz.func125, Tryz.ntmps125
  go_wp2_with fail
  refine ((unhide HR).is _).mono ?_
  rintro e w0 ⟨rfl, rfl⟩
  rw [show isP st { data := #[110, 111, 116] } = false from h0]
  go_wp2_with fail
  refine ((unhide HR).is _).mono ?_
  rintro e w0 ⟨rfl, rfl⟩
  rw [show isP st { data := #[91] } = false from h1]
  go_wp2_with fail
  refine ((unhide HR).is _).mono ?_
  rintro e w0 ⟨rfl, rfl⟩
  rw [show isP st { data := #[110, 101, 116] } = true from h2]
  go_wp2_with fail
  refine ((unhide HR).is _).mono ?_
  rintro e w0 ⟨rfl, rfl⟩
  go_wp2_with fail
  refine ((unhide HR).is _).mono ?_
  rintro e w0 ⟨rfl, rfl⟩
  go_wp2_with fail
  refine (starts_any (unhide HR)).mono ?_
  rintro e w0 ⟨rfl, rfl⟩
  go_wp2_with fail
  refine (take_any (unhide HR) (unhide K)).mono ?_
  rintro e w1 ⟨rfl, O1, hp1, hf1⟩
  have H1 := hide hp1
  have F1 := hide hf1
  clear hp1 hf1
  go_wp2_with fail
  refine (need_any (unhide H1) (unhide K).take _).mono ?_
  rintro e w2 ⟨rfl, O2, hp2, hf2⟩
  have H2 := hide hp2
  have F2 := hide ((unhide F1).trans hf2)
  clear hp2 hf2
  go_wp2_with fail
  refine (kind_any (unhide H2) ((unhide K).take.need _) _).mono ?_
  rintro e w' ⟨rfl, O', hp, hf3⟩
  have hf := (unhide F2).trans hf3
  obtain ⟨hn0, hz, r0, r1, r2, r3, r4, zr, hfw⟩ := rtree hf (unhide N0); have HN := hide hn0; have HP := hide hp; have HF := hide hfw; clear hn0 hfw hp hf
  go_wp2_with fail
  refine bodyPost_ret (v := treeV wIn (needP s (takeP s st) wIn).next.text 0 (needP s (takeP s st) wIn).next.at_ (.slice none 0 0)) (by simp [results, Tryz.results125, go_sem, r0, r1, r2, r3, r4, hz, wIn]) rfl ⟨_, O', rfl, ?_, ?_, TrAt.leaf _ _ _ _ _ _, ((unhide K).take.need _).kind 110⟩
  · refine (show PA _ pb s (kindP s (needP s (takeP s st) { data := #[105, 110] }) 110) O' from ?_)
    repeat with_reducible first | refine PA.other ?_ (unhide HN) _ _ | refine PA.alloc ?_ _ | refine PA.drew ?_ | refine PA.drewN ?_ _ | exact unhide HP
  · repeat with_reducible first | refine Fr.setCell ?_ (Or.inr (Nat.le_refl _)) _ | refine Fr.setCell ?_ (Or.inl (unhide HO)) _ | refine Fr.alloc ?_ _ | refine Fr.drew ?_ | refine Fr.drewN ?_ _ | exact unhide HF | exact Fr.refl _ _

set_option maxRecDepth 100000 in
set_option maxHeartbeats 3200000 in
theorem cond_path (pb : Nat) (s : ByteArray) (w : World) (st : PS) (O : Nat → Prop) (h : PA w pb s st O) (hk : Ok s st) (h0 : isP st wNot = false) (h1 : isP st wBrack = false) (h2 : isP st wNet = false) (h3 : isP st wPath = true) :
    Calls Tryz.prog 125 #[ptr pb, .int .i64 2] w (TreeC pb s w O (kindP s (needP s (takeP s st) wLike) 110, .mk wLike (needP s (takeP s st) wLike).next.text 0 (needP s (takeP s st) wLike).next.at_ [])) := by
  have lp : pb < w.heap.size := h.lt h.own
  have hR : PA (w.alloc (.cells treeZ 115)) pb s st O := h.alloc _
  have N0 := hide (show ¬ O w.heap.size from fun hk => by have := h.lt hk; omega)
  have HR := hide hR
  have K := hide hk
  go_enter Tryz.func125, Tryz.ntmps125
  go_wp2_with fail
  refine ((unhide HR).is _).mono ?_
  rintro e w0 ⟨rfl, rfl⟩
  rw [show isP st { data := #[110, 111, 116] } = false from h0]
  go_wp2_with fail
  refine ((unhide HR).is _).mono ?_
  rintro e w0 ⟨rfl, rfl⟩
  rw [show isP st { data := #[91] } = false from h1]
  go_wp2_with fail
  refine ((unhide HR).is _).mono ?_
  rintro e w0 ⟨rfl, rfl⟩
  rw [show isP st { data := #[110, 101, 116] } = false from h2]
  go_wp2_with fail
  refine ((unhide HR).is _).mono ?_
  rintro e w0 ⟨rfl, rfl⟩
  rw [show isP st { data := #[112, 97, 116, 104] } = true from h3]
  go_wp2_with fail
  refine ((unhide HR).is _).mono ?_
  rintro e w0 ⟨rfl, rfl⟩
  go_wp2_with fail
  refine (starts_any (unhide HR)).mono ?_
  rintro e w0 ⟨rfl, rfl⟩
  go_wp2_with fail
  refine (take_any (unhide HR) (unhide K)).mono ?_
  rintro e w1 ⟨rfl, O1, hp1, hf1⟩
  have H1 := hide hp1
  have F1 := hide hf1
  clear hp1 hf1
  go_wp2_with fail
  refine (need_any (unhide H1) (unhide K).take _).mono ?_
  rintro e w2 ⟨rfl, O2, hp2, hf2⟩
  have H2 := hide hp2
  have F2 := hide ((unhide F1).trans hf2)
  clear hp2 hf2
  go_wp2_with fail
  refine (kind_any (unhide H2) ((unhide K).take.need _) _).mono ?_
  rintro e w' ⟨rfl, O', hp, hf3⟩
  have hf := (unhide F2).trans hf3
  obtain ⟨hn0, hz, r0, r1, r2, r3, r4, zr, hfw⟩ := rtree hf (unhide N0); have HN := hide hn0; have HP := hide hp; have HF := hide hfw; clear hn0 hfw hp hf
  go_wp2_with fail
  refine bodyPost_ret (v := treeV wLike (needP s (takeP s st) wLike).next.text 0 (needP s (takeP s st) wLike).next.at_ (.slice none 0 0)) (by simp [results, Tryz.results125, go_sem, r0, r1, r2, r3, r4, hz, wLike]) rfl ⟨_, O', rfl, ?_, ?_, TrAt.leaf _ _ _ _ _ _, ((unhide K).take.need _).kind 110⟩
  · refine (show PA _ pb s (kindP s (needP s (takeP s st) { data := #[108, 105, 107, 101] }) 110) O' from ?_)
    repeat with_reducible first | refine PA.other ?_ (unhide HN) _ _ | refine PA.alloc ?_ _ | refine PA.drew ?_ | refine PA.drewN ?_ _ | exact unhide HP
  · repeat with_reducible first | refine Fr.setCell ?_ (Or.inr (Nat.le_refl _)) _ | refine Fr.setCell ?_ (Or.inl (unhide HO)) _ | refine Fr.alloc ?_ _ | refine Fr.drew ?_ | refine Fr.drewN ?_ _ | exact unhide HF | exact Fr.refl _ _

set_option maxRecDepth 100000 in
set_option maxHeartbeats 3200000 in
theorem cond_marked (pb : Nat) (s : ByteArray) (w : World) (st : PS) (O : Nat → Prop) (h : PA w pb s st O) (hk : Ok s st) (h0 : isP st wNot = false) (h1 : isP st wBrack = false) (h2 : isP st wNet = false) (h3 : isP st wPath = false) (h4 : isP st wMarked = true) :
    Calls Tryz.prog 125 #[ptr pb, .int .i64 2] w (TreeC pb s w O (kindP s (takeP s st) 48, .mk wMarked ⟨#[]⟩ (numP (takeP s st).next.text 4294967295) (takeP s st).next.at_ [])) := by
  have lp : pb < w.heap.size := h.lt h.own
  have hR : PA (w.alloc (.cells treeZ 115)) pb s st O := h.alloc _
  have N0 := hide (show ¬ O w.heap.size from fun hk => by have := h.lt hk; omega)
  have HR := hide hR
  have K := hide hk
  go_enter Tryz.func125, Tryz.ntmps125
  go_wp2_with fail
  refine ((unhide HR).is _).mono ?_
  rintro e w0 ⟨rfl, rfl⟩
  rw [show isP st { data := #[110, 111, 116] } = false from h0]
  go_wp2_with fail
  refine ((unhide HR).is _).mono ?_
  rintro e w0 ⟨rfl, rfl⟩
  rw [show isP st { data := #[91] } = false from h1]
  go_wp2_with fail
  refine ((unhide HR).is _).mono ?_
  rintro e w0 ⟨rfl, rfl⟩
  rw [show isP st { data := #[110, 101, 116] } = false from h2]
  go_wp2_with fail
  refine ((unhide HR).is _).mono ?_
  rintro e w0 ⟨rfl, rfl⟩
  rw [show isP st { data := #[112, 97, 116, 104] } = false from h3]
  go_wp2_with fail
  refine ((unhide HR).is _).mono ?_
  rintro e w0 ⟨rfl, rfl⟩
  rw [show isP st { data := #[109, 97, 114, 107, 101, 100] } = true from h4]
  go_wp2_with fail
  refine (starts_any (unhide HR)).mono ?_
  rintro e w0 ⟨rfl, rfl⟩
  go_wp2_with fail
  refine (take_any (unhide HR) (unhide K)).mono ?_
  rintro e w1 ⟨rfl, O1, hp1, hf1⟩
  have H1 := hide hp1
  have F1 := hide hf1
  clear hp1 hf1
  go_wp2_with fail
  refine (num_any (unhide H1) (unhide K).take _).mono ?_
  rintro e w' ⟨rfl, O', hp, hf3⟩
  have hf := (unhide F1).trans hf3
  obtain ⟨hn0, hz, r0, r1, r2, r3, r4, zr, hfw⟩ := rtree hf (unhide N0); have HN := hide hn0; have HP := hide hp; have HF := hide hfw; clear hn0 hfw hp hf
  go_wp2_with fail
  refine bodyPost_ret (v := treeV wMarked ⟨#[]⟩ (numP (takeP s st).next.text 4294967295) (takeP s st).next.at_ (.slice none 0 0)) (by simp [results, Tryz.results125, go_sem, r0, r1, r2, r3, r4, wMarked]) rfl ⟨_, O', rfl, ?_, ?_, TrAt.leaf _ _ _ _ _ _, (unhide K).take.kind 48⟩
  · repeat with_reducible first | refine PA.other ?_ (unhide HN) _ _ | refine PA.alloc ?_ _ | refine PA.drew ?_ | refine PA.drewN ?_ _ | exact unhide HP
  · repeat with_reducible first | refine Fr.setCell ?_ (Or.inr (Nat.le_refl _)) _ | refine Fr.setCell ?_ (Or.inl (unhide HO)) _ | refine Fr.alloc ?_ _ | refine Fr.drew ?_ | refine Fr.drewN ?_ _ | exact unhide HF | exact Fr.refl _ _

set_option maxRecDepth 100000 in
set_option maxHeartbeats 3200000 in
theorem cond_none (pb : Nat) (s : ByteArray) (w : World) (st : PS) (O : Nat → Prop) (h : PA w pb s st O) (hk : Ok s st) (h0 : isP st wNot = false) (h1 : isP st wBrack = false) (h2 : isP st wNet = false) (h3 : isP st wPath = false) (h4 : isP st wMarked = false) (hst : startsP st = false) :
    Calls Tryz.prog 125 #[ptr pb, .int .i64 2] w (TreeC pb s w O (failP st, .mk ⟨#[]⟩ ⟨#[]⟩ 0 0 [])) := by
  have lp : pb < w.heap.size := h.lt h.own
  have hR : PA (w.alloc (.cells treeZ 115)) pb s st O := h.alloc _
  have N0 := hide (show ¬ O w.heap.size from fun hk => by have := h.lt hk; omega)
  have HR := hide hR
  have K := hide hk
  go_enter Tryz.func125, Tryz.ntmps125
  go_wp2_with fail
  refine ((unhide HR).is _).mono ?_
  rintro e w0 ⟨rfl, rfl⟩
  rw [show isP st { data := #[110, 111, 116] } = false from h0]
  go_wp2_with fail
  refine ((unhide HR).is _).mono ?_
  rintro e w0 ⟨rfl, rfl⟩
  rw [show isP st { data := #[91] } = false from h1]
  go_wp2_with fail
  refine ((unhide HR).is _).mono ?_
  rintro e w0 ⟨rfl, rfl⟩
  rw [show isP st { data := #[110, 101, 116] } = false from h2]
  go_wp2_with fail
  refine ((unhide HR).is _).mono ?_
  rintro e w0 ⟨rfl, rfl⟩
  rw [show isP st { data := #[112, 97, 116, 104] } = false from h3]
  go_wp2_with fail
  refine ((unhide HR).is _).mono ?_
  rintro e w0 ⟨rfl, rfl⟩
  rw [show isP st { data := #[109, 97, 114, 107, 101, 100] } = false from h4]
  go_wp2_with fail
  refine (starts_any (unhide HR)).mono ?_
  rintro e w0 ⟨rfl, rfl⟩
  rw [hst]
  go_wp2_with fail
  refine ((unhide HR).fail).mono ?_
  rintro e w' ⟨rfl, hp, hf⟩
  obtain ⟨O', hO⟩ : ∃ O', O = O' := ⟨_, rfl⟩
  rw [hO] at hp
  have hf : Fr O (w.alloc (.cells treeZ 115)) O' w' := by rw [← hO]; exact hf
  obtain ⟨hn0, hz, r0, r1, r2, r3, r4, zr, hfw⟩ := rtree hf (unhide N0); have HN := hide hn0; have HP := hide hp; have HF := hide hfw; clear hn0 hfw hp hf
  go_wp2_with fail
  refine bodyPost_ret (v := treeV ⟨#[]⟩ ⟨#[]⟩ 0 0 (.slice none 0 0)) (by simp [results, Tryz.results125, go_sem, r0, r1, r2, r3, r4]) rfl ⟨_, O', rfl, ?_, ?_, TrAt.leaf _ _ _ _ _ _, (unhide K).fail⟩
  · repeat with_reducible first | refine PA.other ?_ (unhide HN) _ _ | refine PA.alloc ?_ _ | refine PA.drew ?_ | refine PA.drewN ?_ _ | exact unhide HP
  · repeat with_reducible first | refine Fr.setCell ?_ (Or.inr (Nat.le_refl _)) _ | refine Fr.setCell ?_ (Or.inl (unhide HO)) _ | refine Fr.alloc ?_ _ | refine Fr.drew ?_ | refine Fr.drewN ?_ _ | exact unhide HF | exact Fr.refl _ _

end Go.Proofs.YtgdeeodifnegiaaGreatDoor.rf
