/- The reference's def. -/
import Derived.Test.YtgdeeodifnegiaaGreatDoorRefW
import Derived.Test.YtgdeeodifnegiaaGreatDoorRefX
namespace Go.Proofs.YtgdeeodifnegiaaGreatDoor.rf
open Go.RowKit

abbrev defCells (t : Tok) (b : Bool) (rv : Value) (op text : ByteArray) (n a : Int) (kv : Value) : Array Value := #[.int .u8 t.kind, .string t.text, .int .i64 t.at_, .bool b, rv, .string op, .string text, .int .i64 n, .int .i64 a, kv]
abbrev defZ : Array Value := #[.int .u8 0, .string ⟨#[]⟩, .int .i64 0, .bool false, .slice none 0 0, .string ⟨#[]⟩, .string ⟨#[]⟩, .int .i64 0, .int .i64 0, .slice none 0 0]
/-- the value v is the definition d, in w; none of its memory is of Q -/
def DefAt (w : World) (Q : Nat → Prop) (d : Df) (v : Value) : Prop :=
  ∃ rv op text n a kv, v = .agg (defCells d.name d.isWay rv op text n a kv) ∧ w.ownsRow 0 233 6 rv d.ranges.length (rgCells d.ranges) ∧ (∀ k, rv.ownBlock = some k → ¬ Q k) ∧ TrAt w Q d.way (treeV op text n a kv)
def DefC (pb : Nat) (s : ByteArray) (w : World) (O : Nat → Prop) (r : PS × Df) (e : Ending) (w' : World) : Prop :=
  ∃ v O', e = .returned v ∧ PA w' pb s r.1 O' ∧ Fr O w O' w' ∧ DefAt w' (fun k => O' k ∨ k < w.heap.size) r.2 v ∧ Ok s r.1
theorem owns_base {w : World} {b b' : Nat} {e : TypeId} {size : Nat} {v : Value} {n : Nat} {xs : List Value} (h : w.ownsRow b e size v n xs) (hb : b' ≤ b) : w.ownsRow b' e size v n xs := by
  obtain ⟨h1, h2⟩ := h
  refine ⟨h1, ?_⟩
  rcases h2 with h2 | ⟨g, cap, cur, rfl, hb2, hg, h3⟩
  · exact Or.inl h2
  · exact Or.inr ⟨g, cap, cur, rfl, by omega, hg, h3⟩

theorem DefAt.set {w w4 w5 wf : World} {O5 O6 : Nat → Prop} {l : List Rg} {rv : Value} {t : Tok} (GG : Fr (fun k => O5 k ∨ k = w.heap.size ∨ k = w.heap.size + 1) w5 (fun k => O6 k ∨ k = w.heap.size ∨ k = w.heap.size + 1) wf)
    (h5 : w5.ownsRow w4.heap.size 233 6 rv l.length (rgCells l)) (hn : ∀ k, rv.ownBlock = some k → ¬ O5 k) (l4 : w.heap.size + 1 < w4.heap.size) :
    DefAt wf (fun k => O6 k ∨ k < w.heap.size) ⟨t, false, l, trZ⟩ (.agg (defCells t false rv ⟨#[]⟩ ⟨#[]⟩ 0 0 (.slice none 0 0))) := by
  refine ⟨rv, ⟨#[]⟩, ⟨#[]⟩, 0, 0, .slice none 0 0, rfl, owns_base (owns_of h5 (fun k hk => GG.block k (h5.lt k hk).2 (fun h => ?_))) (Nat.zero_le _), fun k hk h => ?_, TrAt.leaf _ _ _ _ _ _⟩
  · rcases h with h | h | h
    · exact hn k hk h
    · have := (h5.lt k hk).1; omega
    · have := (h5.lt k hk).1; omega
  · rcases h with h | h
    · rcases GG.own k (Or.inl h) with (h1 | h1 | h1) | h1
      · exact hn k hk h1
      · have := (h5.lt k hk).1; omega
      · have := (h5.lt k hk).1; omega
      · have := (h5.lt k hk).2; omega
    · have := (h5.lt k hk).1; omega

set_option maxRecDepth 100000 in
set_option maxHeartbeats 3200000 in
theorem def_way (pb : Nat) (s : ByteArray) (f : Nat) (IH : EitherC pb s f) (w : World) (st : PS) (O : Nat → Prop) (h : PA w pb s st O) (hk : Ok s st) (hw : isP st wWay = true) (st4 : PS) (t : Tr) (ht : eitherTw s f (needP s (kindP s (takeP s st) 110) wEq) = some (st4, t)) :
    Calls Tryz.prog 69 #[ptr pb] w (DefC pb s w O (needP s st4 wSemi, ⟨(takeP s st).next, true, [], t⟩)) := by
  have lp : pb < w.heap.size := h.lt h.own
  have N0 := hide (show ¬ O w.heap.size from fun hk => by have := h.lt hk; omega)
  have N1 := hide (show ¬ O (w.heap.size + 1) from fun hk => by have := h.lt hk; omega)
  have HP00 := hide h
  have HP0 := hide ((h.alloc (.cells defZ 145)).alloc (.cells defZ 145))
  have HF0 := hide (((Fr.refl O w).alloc (.cells defZ 145)).alloc (.cells defZ 145))
  have K := hide hk
  have HT := hide ht
  have HIH := hide IH
  clear h hk ht IH
  go_enter Tryz.func69, Tryz.ntmps69
  go_wp2_with fail
  refine ((unhide HP0).is _).mono ?_
  rintro e w0 ⟨rfl, rfl⟩
  rw [show isP st { data := #[119, 97, 121] } = true from hw]
  go_wp2_with fail
  have HPW := hide (((unhide HP00).alloc (.cells defZ 145)).alloc (.cells #[.int .u8 0, .string ⟨#[]⟩, .int .i64 0, .bool true, .slice none 0 0, .string ⟨#[]⟩, .string ⟨#[]⟩, .int .i64 0, .int .i64 0, .slice none 0 0] 145))
  have HFW := hide (((Fr.refl O w).alloc (.cells defZ 145)).alloc (.cells #[.int .u8 0, .string ⟨#[]⟩, .int .i64 0, .bool true, .slice none 0 0, .string ⟨#[]⟩, .string ⟨#[]⟩, .int .i64 0, .int .i64 0, .slice none 0 0] 145))
  refine (take_any (unhide HPW) (unhide K)).mono ?_
  rintro e w2 ⟨rfl, O2, hp2, hf2⟩
  have P2 := hide hp2
  have F2 := hide hf2
  clear hp2 hf2
  go_wp2_with fail
  refine (kind_any (unhide P2) (unhide K).take _).mono ?_
  rintro e w3 ⟨rfl, O3, hp3, hf3⟩
  have F3 := hide ((unhide F2).trans hf3)
  have qR := ((unhide F3).block w.heap.size (by simp; omega) (unhide N0)).trans (two_alloc w _ _ _ _).1
  have qD := ((unhide F3).block (w.heap.size + 1) (by simp) (unhide N1)).trans (two_alloc w _ _ _ _).2
  have NR3 := hide (show ¬ O3 w.heap.size from fun h => by
    rcases (unhide F3).own _ h with h | h
    · exact unhide N0 h
    · simp at h; omega)
  have ND3 := hide (show ¬ O3 (w.heap.size + 1) from fun h => by
    rcases (unhide F3).own _ h with h | h
    · exact unhide N1 h
    · simp at h; omega)
  have zd : ∀ ob, w3.frozen? ⟨w.heap.size + 1, ob, none⟩ = false := fun ob => frozen_of_heap qD
  obtain ⟨d0, d1, d2, d3, d4, d5, d6, d7, d8, d9⟩ := cells10 qD
  have lR3 : w.heap.size < w3.heap.size := heap_lt qR
  have lD3 : w.heap.size + 1 < w3.heap.size := heap_lt qD
  have PD := hide (show PA (((w3.setCell ⟨w.heap.size + 1, 0, none⟩ (.int .u8 (takeP s st).next.kind)).setCell ⟨w.heap.size + 1, 1, none⟩ (.string (takeP s st).next.text)).setCell ⟨w.heap.size + 1, 2, none⟩ (.int .i64 (takeP s st).next.at_)) pb s (kindP s (takeP s st) 110) O3 from (((hp3).other (unhide ND3) _ _).other (unhide ND3) _ _).other (unhide ND3) _ _)
  have FD := hide (show Fr O w O3 (((w3.setCell ⟨w.heap.size + 1, 0, none⟩ (.int .u8 (takeP s st).next.kind)).setCell ⟨w.heap.size + 1, 1, none⟩ (.string (takeP s st).next.text)).setCell ⟨w.heap.size + 1, 2, none⟩ (.int .i64 (takeP s st).next.at_)) from ((((unhide HFW).trans (unhide F3)).setCell (Or.inr (by show w.heap.size ≤ w.heap.size + 1; omega)) _).setCell (Or.inr (by show w.heap.size ≤ w.heap.size + 1; omega)) _).setCell (Or.inr (by show w.heap.size ≤ w.heap.size + 1; omega)) _)
  have QD := hide (show (((w3.setCell ⟨w.heap.size + 1, 0, none⟩ (.int .u8 (takeP s st).next.kind)).setCell ⟨w.heap.size + 1, 1, none⟩ (.string (takeP s st).next.text)).setCell ⟨w.heap.size + 1, 2, none⟩ (.int .i64 (takeP s st).next.at_)).heap[w.heap.size + 1]? = some (.cells (defCells (takeP s st).next true (.slice none 0 0) ⟨#[]⟩ ⟨#[]⟩ 0 0 (.slice none 0 0)) 145 (0, 0)) from by rw [(heap_set (heap_set (heap_set qD)))]; rfl)
  have QR := hide (show (((w3.setCell ⟨w.heap.size + 1, 0, none⟩ (.int .u8 (takeP s st).next.kind)).setCell ⟨w.heap.size + 1, 1, none⟩ (.string (takeP s st).next.text)).setCell ⟨w.heap.size + 1, 2, none⟩ (.int .i64 (takeP s st).next.at_)).heap[w.heap.size]? = some (.cells defZ 145 (0, 0)) from by rw [heap_set_other (by show w.heap.size ≠ w.heap.size + 1; omega), heap_set_other (by show w.heap.size ≠ w.heap.size + 1; omega), heap_set_other (by show w.heap.size ≠ w.heap.size + 1; omega)]; exact qR)
  clear hp3 hf3 qR qD
  go_wp2_with fail
  obtain ⟨WD, hWD⟩ : ∃ WD, (((w3.setCell ⟨w.heap.size + 1, 0, none⟩ (.int .u8 (takeP s st).next.kind)).setCell ⟨w.heap.size + 1, 1, none⟩ (.string (takeP s st).next.text)).setCell ⟨w.heap.size + 1, 2, none⟩ (.int .i64 (takeP s st).next.at_)) = WD := ⟨_, rfl⟩
  rw [hWD] at PD FD QD QR
  rw [hWD]
  clear hWD d0 d1 d2 d3 d4 d5 d6 d7 d8 d9 zd
  refine (need_any (unhide PD) ((unhide K).take.kind 110) _).mono ?_
  rintro e w4 ⟨rfl, O4, hp4, hf4⟩
  have P4 := hide hp4
  have F4 := hide hf4
  have q4 := (hf4.block _ (heap_lt (unhide QD)) (unhide ND3)).trans (unhide QD)
  have d3 : w4.cell? ⟨w.heap.size + 1, 3, none⟩ = some (.bool true) := cell_of_heap q4
  have Q4 := hide q4
  have R4 := hide ((hf4.block _ (heap_lt (unhide QR)) (unhide NR3)).trans (unhide QR))
  have NR4 := hide (show ¬ O4 w.heap.size from fun h => by
    rcases hf4.own _ h with h | h
    · exact unhide NR3 h
    · have := heap_lt (unhide QR); omega)
  have ND4 := hide (show ¬ O4 (w.heap.size + 1) from fun h => by
    rcases hf4.own _ h with h | h
    · exact unhide ND3 h
    · have := heap_lt (unhide QD); omega)
  have l4 : w.heap.size + 1 < w4.heap.size := heap_lt q4
  clear hp4 hf4 q4
  go_wp2_with fail
  refine (unhide HIH _ _ _ _ (unhide P4) ((((unhide K).take.kind 110)).need _) (unhide HT)).mono ?_
  rintro e w5 ⟨v, O5, rfl, hp5, hf5, ht5, hk5⟩
  obtain ⟨op, text, n, a, oo, oc, ol, rfl⟩ := ht5.form
  have q5 := (hf5.block _ l4 (unhide ND4)).trans (unhide Q4)
  have r5 := (hf5.block _ (by omega) (unhide NR4)).trans (unhide R4)
  have ND5 := hide (show ¬ O5 (w.heap.size + 1) from fun h => by
    rcases hf5.own _ h with h | h
    · exact unhide ND4 h
    · omega)
  have NR5 := hide (show ¬ O5 w.heap.size from fun h => by
    rcases hf5.own _ h with h | h
    · exact unhide NR4 h
    · omega)
  obtain ⟨d0, d1, d2, d3, d4, d5, d6, d7, d8, d9⟩ := cells10 q5
  have zd : ∀ ob, w5.frozen? ⟨w.heap.size + 1, ob, none⟩ = false := fun ob => frozen_of_heap q5
  have l5 : w.heap.size + 1 < w5.heap.size := heap_lt q5
  have PE := hide (show PA (((((w5.setCell ⟨w.heap.size + 1, 5, none⟩ (.string op)).setCell ⟨w.heap.size + 1, 6, none⟩ (.string text)).setCell ⟨w.heap.size + 1, 7, none⟩ (.int .i64 n)).setCell ⟨w.heap.size + 1, 8, none⟩ (.int .i64 a)).setCell ⟨w.heap.size + 1, 9, none⟩ (.slice oo oc ol)) pb s st4 O5 from (((((hp5).other (unhide ND5) _ _).other (unhide ND5) _ _).other (unhide ND5) _ _).other (unhide ND5) _ _).other (unhide ND5) _ _)
  have FE0 := hide (show Fr O w O5 (((((w5.setCell ⟨w.heap.size + 1, 5, none⟩ (.string op)).setCell ⟨w.heap.size + 1, 6, none⟩ (.string text)).setCell ⟨w.heap.size + 1, 7, none⟩ (.int .i64 n)).setCell ⟨w.heap.size + 1, 8, none⟩ (.int .i64 a)).setCell ⟨w.heap.size + 1, 9, none⟩ (.slice oo oc ol)) from (((((((unhide FD).trans (unhide F4)).trans hf5).setCell (Or.inr (by show w.heap.size ≤ w.heap.size + 1; omega)) _).setCell (Or.inr (by show w.heap.size ≤ w.heap.size + 1; omega)) _).setCell (Or.inr (by show w.heap.size ≤ w.heap.size + 1; omega)) _).setCell (Or.inr (by show w.heap.size ≤ w.heap.size + 1; omega)) _).setCell (Or.inr (by show w.heap.size ≤ w.heap.size + 1; omega)) _)
  have QE := hide (show (((((w5.setCell ⟨w.heap.size + 1, 5, none⟩ (.string op)).setCell ⟨w.heap.size + 1, 6, none⟩ (.string text)).setCell ⟨w.heap.size + 1, 7, none⟩ (.int .i64 n)).setCell ⟨w.heap.size + 1, 8, none⟩ (.int .i64 a)).setCell ⟨w.heap.size + 1, 9, none⟩ (.slice oo oc ol)).heap[w.heap.size + 1]? = some (.cells (defCells (takeP s st).next true (.slice none 0 0) op text n a (.slice oo oc ol)) 145 (0, 0)) from by rw [(heap_set (heap_set (heap_set (heap_set (heap_set q5)))))]; rfl)
  have RE := hide (show (((((w5.setCell ⟨w.heap.size + 1, 5, none⟩ (.string op)).setCell ⟨w.heap.size + 1, 6, none⟩ (.string text)).setCell ⟨w.heap.size + 1, 7, none⟩ (.int .i64 n)).setCell ⟨w.heap.size + 1, 8, none⟩ (.int .i64 a)).setCell ⟨w.heap.size + 1, 9, none⟩ (.slice oo oc ol)).heap[w.heap.size]? = some (.cells defZ 145 (0, 0)) from by rw [heap_set_other (by show w.heap.size ≠ w.heap.size + 1; omega), heap_set_other (by show w.heap.size ≠ w.heap.size + 1; omega), heap_set_other (by show w.heap.size ≠ w.heap.size + 1; omega), heap_set_other (by show w.heap.size ≠ w.heap.size + 1; omega), heap_set_other (by show w.heap.size ≠ w.heap.size + 1; omega)]; exact r5)
  have GE := hide (show Fr (fun k => O5 k ∨ k = w.heap.size ∨ k = w.heap.size + 1) w5 (fun k => O5 k ∨ k = w.heap.size ∨ k = w.heap.size + 1) (((((w5.setCell ⟨w.heap.size + 1, 5, none⟩ (.string op)).setCell ⟨w.heap.size + 1, 6, none⟩ (.string text)).setCell ⟨w.heap.size + 1, 7, none⟩ (.int .i64 n)).setCell ⟨w.heap.size + 1, 8, none⟩ (.int .i64 a)).setCell ⟨w.heap.size + 1, 9, none⟩ (.slice oo oc ol)) from by
    have f0 : Fr (fun k => O5 k ∨ k = w.heap.size ∨ k = w.heap.size + 1) w5 (fun k => O5 k ∨ k = w.heap.size ∨ k = w.heap.size + 1) w5 := (Fr.refl O5 w5).join (fun k => k = w.heap.size ∨ k = w.heap.size + 1)
    repeat with_reducible first | refine Fr.setCell ?_ (Or.inl (Or.inr (Or.inr rfl))) _ | exact f0)
  have T5 := hide ht5
  have K5 := hide hk5
  clear hp5 hf5 ht5 hk5 q5 r5
  go_wp2_with fail
  obtain ⟨WE, hWE⟩ : ∃ WE, (((((w5.setCell ⟨w.heap.size + 1, 5, none⟩ (.string op)).setCell ⟨w.heap.size + 1, 6, none⟩ (.string text)).setCell ⟨w.heap.size + 1, 7, none⟩ (.int .i64 n)).setCell ⟨w.heap.size + 1, 8, none⟩ (.int .i64 a)).setCell ⟨w.heap.size + 1, 9, none⟩ (.slice oo oc ol)) = WE := ⟨_, rfl⟩
  rw [hWE] at PE FE0 QE RE GE
  rw [hWE]
  clear hWE d0 d1 d2 d3 d4 d5 d6 d7 d8 d9 zd
  refine (need_any (unhide PE) (unhide K5) _).mono ?_
  rintro e w6 ⟨rfl, O6, hp6, hf6⟩
  have lE : w.heap.size + 1 < WE.heap.size := heap_lt (unhide QE)
  have q6 := (hf6.block _ lE (unhide ND5)).trans (unhide QE)
  have hR6 := (hf6.block _ (by omega) (unhide NR5)).trans (unhide RE)
  obtain ⟨d0, d1, d2, d3, d4, d5, d6, d7, d8, d9⟩ := cells10 q6
  obtain ⟨r0, r1, r2, r3, r4, r5, r6, r7, r8, r9⟩ := cells10 hR6
  have zr : ∀ ob, w6.frozen? ⟨w.heap.size, ob, none⟩ = false := fun ob => frozen_of_heap hR6
  have HN := hide (show ¬ O6 w.heap.size from fun h => by
    rcases hf6.own _ h with h | h
    · exact unhide NR5 h
    · omega)
  have HP := hide hp6
  have HF := hide ((unhide FE0).trans hf6)
  have GF := hide ((unhide GE).trans (hf6.join (fun k => k = w.heap.size ∨ k = w.heap.size + 1)))
  clear hp6 hf6 q6 hR6
  go_wp2_with fail
  refine bodyPost_ret (v := .agg (defCells (takeP s st).next true (.slice none 0 0) op text n a (.slice oo oc ol))) (by simp [results, Tryz.results69, go_sem, r0, r1, r2, r3, r4, r5, r6, r7, r8, r9]) rfl ⟨_, O6, rfl, ?_, ?_, ?_, (unhide K5).need _⟩
  · refine (show PA _ pb s (needP s st4 ⟨#[59]⟩) O6 from ?_)
    repeat with_reducible first | refine PA.other ?_ (unhide HN) _ _ | refine PA.alloc ?_ _ | refine PA.drew ?_ | refine PA.drewN ?_ _ | exact unhide HP
  · repeat with_reducible first | refine Fr.setCell ?_ (Or.inr (Nat.le_refl _)) _ | refine Fr.setCell ?_ (Or.inl (unhide HO)) _ | refine Fr.alloc ?_ _ | refine Fr.drew ?_ | refine Fr.drewN ?_ _ | exact unhide HF | exact Fr.refl _ _
  · refine ⟨_, _, _, _, _, _, rfl, World.ownsRow_nil _ _ _ _, fun k hk => by simp [Value.ownBlock] at hk, ?_⟩
    refine TrAt.step (O := fun k => O5 k ∨ k = w.heap.size ∨ k = w.heap.size + 1) (O' := fun k => O6 k ∨ k = w.heap.size ∨ k = w.heap.size + 1) (w := w5) ?_ ?_ ?_ _ _ (unhide T5)
    · repeat with_reducible first | refine Fr.setCell ?_ (Or.inl (Or.inr (Or.inl rfl))) _ | exact unhide GF
    · intro k hk
      rcases hk with h | h | h
      · exact Or.inl h
      · exact Or.inr (by omega)
      · exact Or.inr (by omega)
    · intro k hk
      rcases hk with h | h
      · rcases (unhide GF).own k (Or.inl h) with (h1 | h1 | h1) | h1
        · exact Or.inl (Or.inl h1)
        · exact Or.inl (Or.inr (by omega))
        · exact Or.inl (Or.inr (by omega))
        · exact Or.inr h1
      · exact Or.inl (Or.inr (by omega))
set_option maxRecDepth 100000 in
set_option maxHeartbeats 3200000 in
theorem def_set (pb : Nat) (s : ByteArray) (f : Nat) (hf0 : f ≤ 1000000) (w : World) (st : PS) (O : Nat → Prop) (h : PA w pb s st O) (hk : Ok s st) (hw : isP st wWay = false) (st4 : PS) (l : List Rg) (ht : rangesTw s f (needP s (kindP s (takeP s st) 110) wEq) = some (st4, l)) :
    Calls Tryz.prog 69 #[ptr pb] w (DefC pb s w O (needP s st4 wSemi, ⟨(takeP s st).next, false, l, trZ⟩)) := by
  have lp : pb < w.heap.size := h.lt h.own
  have N0 := hide (show ¬ O w.heap.size from fun hk => by have := h.lt hk; omega)
  have N1 := hide (show ¬ O (w.heap.size + 1) from fun hk => by have := h.lt hk; omega)
  have HP00 := hide h
  have HP0 := hide ((h.alloc (.cells defZ 145)).alloc (.cells defZ 145))
  have HF0 := hide (((Fr.refl O w).alloc (.cells defZ 145)).alloc (.cells defZ 145))
  have K := hide hk
  have HT := hide ht
  clear h hk ht
  go_enter Tryz.func69, Tryz.ntmps69
  go_wp2_with fail
  refine ((unhide HP0).is _).mono ?_
  rintro e w0 ⟨rfl, rfl⟩
  rw [show isP st { data := #[119, 97, 121] } = false from hw]
  go_wp2_with fail
  have HPW := hide (((unhide HP00).alloc (.cells defZ 145)).alloc (.cells #[.int .u8 0, .string ⟨#[]⟩, .int .i64 0, .bool false, .slice none 0 0, .string ⟨#[]⟩, .string ⟨#[]⟩, .int .i64 0, .int .i64 0, .slice none 0 0] 145))
  have HFW := hide (((Fr.refl O w).alloc (.cells defZ 145)).alloc (.cells #[.int .u8 0, .string ⟨#[]⟩, .int .i64 0, .bool false, .slice none 0 0, .string ⟨#[]⟩, .string ⟨#[]⟩, .int .i64 0, .int .i64 0, .slice none 0 0] 145))
  refine (take_any (unhide HPW) (unhide K)).mono ?_
  rintro e w2 ⟨rfl, O2, hp2, hf2⟩
  have P2 := hide hp2
  have F2 := hide hf2
  clear hp2 hf2
  go_wp2_with fail
  refine (kind_any (unhide P2) (unhide K).take _).mono ?_
  rintro e w3 ⟨rfl, O3, hp3, hf3⟩
  have F3 := hide ((unhide F2).trans hf3)
  have qR := ((unhide F3).block w.heap.size (by simp; omega) (unhide N0)).trans (two_alloc w _ _ _ _).1
  have qD := ((unhide F3).block (w.heap.size + 1) (by simp) (unhide N1)).trans (two_alloc w _ _ _ _).2
  have NR3 := hide (show ¬ O3 w.heap.size from fun h => by
    rcases (unhide F3).own _ h with h | h
    · exact unhide N0 h
    · simp at h; omega)
  have ND3 := hide (show ¬ O3 (w.heap.size + 1) from fun h => by
    rcases (unhide F3).own _ h with h | h
    · exact unhide N1 h
    · simp at h; omega)
  have zd : ∀ ob, w3.frozen? ⟨w.heap.size + 1, ob, none⟩ = false := fun ob => frozen_of_heap qD
  obtain ⟨d0, d1, d2, d3, d4, d5, d6, d7, d8, d9⟩ := cells10 qD
  have lR3 : w.heap.size < w3.heap.size := heap_lt qR
  have lD3 : w.heap.size + 1 < w3.heap.size := heap_lt qD
  have PD := hide (show PA (((w3.setCell ⟨w.heap.size + 1, 0, none⟩ (.int .u8 (takeP s st).next.kind)).setCell ⟨w.heap.size + 1, 1, none⟩ (.string (takeP s st).next.text)).setCell ⟨w.heap.size + 1, 2, none⟩ (.int .i64 (takeP s st).next.at_)) pb s (kindP s (takeP s st) 110) O3 from (((hp3).other (unhide ND3) _ _).other (unhide ND3) _ _).other (unhide ND3) _ _)
  have FD := hide (show Fr O w O3 (((w3.setCell ⟨w.heap.size + 1, 0, none⟩ (.int .u8 (takeP s st).next.kind)).setCell ⟨w.heap.size + 1, 1, none⟩ (.string (takeP s st).next.text)).setCell ⟨w.heap.size + 1, 2, none⟩ (.int .i64 (takeP s st).next.at_)) from ((((unhide HFW).trans (unhide F3)).setCell (Or.inr (by show w.heap.size ≤ w.heap.size + 1; omega)) _).setCell (Or.inr (by show w.heap.size ≤ w.heap.size + 1; omega)) _).setCell (Or.inr (by show w.heap.size ≤ w.heap.size + 1; omega)) _)
  have QD := hide (show (((w3.setCell ⟨w.heap.size + 1, 0, none⟩ (.int .u8 (takeP s st).next.kind)).setCell ⟨w.heap.size + 1, 1, none⟩ (.string (takeP s st).next.text)).setCell ⟨w.heap.size + 1, 2, none⟩ (.int .i64 (takeP s st).next.at_)).heap[w.heap.size + 1]? = some (.cells (defCells (takeP s st).next false (.slice none 0 0) ⟨#[]⟩ ⟨#[]⟩ 0 0 (.slice none 0 0)) 145 (0, 0)) from by rw [(heap_set (heap_set (heap_set qD)))]; rfl)
  have QR := hide (show (((w3.setCell ⟨w.heap.size + 1, 0, none⟩ (.int .u8 (takeP s st).next.kind)).setCell ⟨w.heap.size + 1, 1, none⟩ (.string (takeP s st).next.text)).setCell ⟨w.heap.size + 1, 2, none⟩ (.int .i64 (takeP s st).next.at_)).heap[w.heap.size]? = some (.cells defZ 145 (0, 0)) from by rw [heap_set_other (by show w.heap.size ≠ w.heap.size + 1; omega), heap_set_other (by show w.heap.size ≠ w.heap.size + 1; omega), heap_set_other (by show w.heap.size ≠ w.heap.size + 1; omega)]; exact qR)
  clear hp3 hf3 qR qD
  go_wp2_with fail
  obtain ⟨WD, hWD⟩ : ∃ WD, (((w3.setCell ⟨w.heap.size + 1, 0, none⟩ (.int .u8 (takeP s st).next.kind)).setCell ⟨w.heap.size + 1, 1, none⟩ (.string (takeP s st).next.text)).setCell ⟨w.heap.size + 1, 2, none⟩ (.int .i64 (takeP s st).next.at_)) = WD := ⟨_, rfl⟩
  rw [hWD] at PD FD QD QR
  rw [hWD]
  clear hWD d0 d1 d2 d3 d4 d5 d6 d7 d8 d9 zd
  refine (need_any (unhide PD) ((unhide K).take.kind 110) _).mono ?_
  rintro e w4 ⟨rfl, O4, hp4, hf4⟩
  have P4 := hide hp4
  have F4 := hide hf4
  have q4 := (hf4.block _ (heap_lt (unhide QD)) (unhide ND3)).trans (unhide QD)
  have d3 : w4.cell? ⟨w.heap.size + 1, 3, none⟩ = some (.bool false) := cell_of_heap q4
  have Q4 := hide q4
  have R4 := hide ((hf4.block _ (heap_lt (unhide QR)) (unhide NR3)).trans (unhide QR))
  have NR4 := hide (show ¬ O4 w.heap.size from fun h => by
    rcases hf4.own _ h with h | h
    · exact unhide NR3 h
    · have := heap_lt (unhide QR); omega)
  have ND4 := hide (show ¬ O4 (w.heap.size + 1) from fun h => by
    rcases hf4.own _ h with h | h
    · exact unhide ND3 h
    · have := heap_lt (unhide QD); omega)
  have l4 : w.heap.size + 1 < w4.heap.size := heap_lt q4
  clear hp4 hf4 q4
  go_wp2_with fail
  refine (ranges_any pb s f hf0 _ _ _ _ (unhide P4) ((((unhide K).take.kind 110)).need _) (unhide HT)).mono ?_
  rintro e w5 ⟨v, O5, rfl, hp5, hf5, ht5, hn5, hk5⟩
  obtain ⟨oo, oc, ol, rfl⟩ : ∃ oo oc ol, v = .slice oo oc ol := by
    rcases ht5.2 with ⟨e1, _⟩ | ⟨g, cap, cur, e1, _⟩
    · exact ⟨_, _, _, e1⟩
    · exact ⟨_, _, _, e1⟩
  have q5 := (hf5.block _ l4 (unhide ND4)).trans (unhide Q4)
  have r5 := (hf5.block _ (by omega) (unhide NR4)).trans (unhide R4)
  have ND5 := hide (show ¬ O5 (w.heap.size + 1) from fun h => by
    rcases hf5.own _ h with h | h
    · exact unhide ND4 h
    · omega)
  have NR5 := hide (show ¬ O5 w.heap.size from fun h => by
    rcases hf5.own _ h with h | h
    · exact unhide NR4 h
    · omega)
  obtain ⟨d0, d1, d2, d3, d4, d5, d6, d7, d8, d9⟩ := cells10 q5
  have zd : ∀ ob, w5.frozen? ⟨w.heap.size + 1, ob, none⟩ = false := fun ob => frozen_of_heap q5
  have l5 : w.heap.size + 1 < w5.heap.size := heap_lt q5
  have PE := hide (show PA (w5.setCell ⟨w.heap.size + 1, 4, none⟩ (.slice oo oc ol)) pb s st4 O5 from hp5.other (unhide ND5) _ _)
  have FE0 := hide (show Fr O w O5 (w5.setCell ⟨w.heap.size + 1, 4, none⟩ (.slice oo oc ol)) from (((unhide FD).trans (unhide F4)).trans hf5).setCell (Or.inr (by show w.heap.size ≤ w.heap.size + 1; omega)) _)
  have QE := hide (show (w5.setCell ⟨w.heap.size + 1, 4, none⟩ (.slice oo oc ol)).heap[w.heap.size + 1]? = some (.cells (defCells (takeP s st).next false (.slice oo oc ol) ⟨#[]⟩ ⟨#[]⟩ 0 0 (.slice none 0 0)) 145 (0, 0)) from by rw [(heap_set q5)]; rfl)
  have RE := hide (show (w5.setCell ⟨w.heap.size + 1, 4, none⟩ (.slice oo oc ol)).heap[w.heap.size]? = some (.cells defZ 145 (0, 0)) from by rw [heap_set_other (by show w.heap.size ≠ w.heap.size + 1; omega)]; exact r5)
  have GE := hide (show Fr (fun k => O5 k ∨ k = w.heap.size ∨ k = w.heap.size + 1) w5 (fun k => O5 k ∨ k = w.heap.size ∨ k = w.heap.size + 1) (w5.setCell ⟨w.heap.size + 1, 4, none⟩ (.slice oo oc ol)) from by
    have f0 : Fr (fun k => O5 k ∨ k = w.heap.size ∨ k = w.heap.size + 1) w5 (fun k => O5 k ∨ k = w.heap.size ∨ k = w.heap.size + 1) w5 := (Fr.refl O5 w5).join (fun k => k = w.heap.size ∨ k = w.heap.size + 1)
    repeat with_reducible first | refine Fr.setCell ?_ (Or.inl (Or.inr (Or.inr rfl))) _ | exact f0)
  have T5 := hide ht5
  have K5 := hide hk5
  have NO5 := hide hn5
  clear hn5
  clear hp5 hf5 ht5 hk5 q5 r5
  go_wp2_with fail
  obtain ⟨WE, hWE⟩ : ∃ WE, (w5.setCell ⟨w.heap.size + 1, 4, none⟩ (.slice oo oc ol)) = WE := ⟨_, rfl⟩
  rw [hWE] at PE FE0 QE RE GE
  rw [hWE]
  clear hWE d0 d1 d2 d3 d4 d5 d6 d7 d8 d9 zd
  refine (need_any (unhide PE) (unhide K5) _).mono ?_
  rintro e w6 ⟨rfl, O6, hp6, hf6⟩
  have lE : w.heap.size + 1 < WE.heap.size := heap_lt (unhide QE)
  have q6 := (hf6.block _ lE (unhide ND5)).trans (unhide QE)
  have hR6 := (hf6.block _ (by omega) (unhide NR5)).trans (unhide RE)
  obtain ⟨d0, d1, d2, d3, d4, d5, d6, d7, d8, d9⟩ := cells10 q6
  obtain ⟨r0, r1, r2, r3, r4, r5, r6, r7, r8, r9⟩ := cells10 hR6
  have zr : ∀ ob, w6.frozen? ⟨w.heap.size, ob, none⟩ = false := fun ob => frozen_of_heap hR6
  have HN := hide (show ¬ O6 w.heap.size from fun h => by
    rcases hf6.own _ h with h | h
    · exact unhide NR5 h
    · omega)
  have HP := hide hp6
  have HF := hide ((unhide FE0).trans hf6)
  have GF := hide ((unhide GE).trans (hf6.join (fun k => k = w.heap.size ∨ k = w.heap.size + 1)))
  clear hp6 hf6 q6 hR6
  go_wp2_with fail
  refine bodyPost_ret (v := .agg (defCells (takeP s st).next false (.slice oo oc ol) ⟨#[]⟩ ⟨#[]⟩ 0 0 (.slice none 0 0))) (by simp [results, Tryz.results69, go_sem, r0, r1, r2, r3, r4, r5, r6, r7, r8, r9]) rfl ⟨_, O6, rfl, ?_, ?_, ?_, (unhide K5).need _⟩
  · refine (show PA _ pb s (needP s st4 ⟨#[59]⟩) O6 from ?_)
    repeat with_reducible first | refine PA.other ?_ (unhide HN) _ _ | refine PA.alloc ?_ _ | refine PA.drew ?_ | refine PA.drewN ?_ _ | exact unhide HP
  · repeat with_reducible first | refine Fr.setCell ?_ (Or.inr (Nat.le_refl _)) _ | refine Fr.setCell ?_ (Or.inl (unhide HO)) _ | refine Fr.alloc ?_ _ | refine Fr.drew ?_ | refine Fr.drewN ?_ _ | exact unhide HF | exact Fr.refl _ _
  · refine DefAt.set (w := w) (w4 := w4) (w5 := w5) (O5 := O5) ?_ (unhide T5) (unhide NO5) l4
    repeat with_reducible first | refine Fr.setCell ?_ (Or.inl (Or.inr (Or.inl rfl))) _ | exact unhide GF

theorem def_any (pb : Nat) (s : ByteArray) (f : Nat) (hf0 : f ≤ 1000000) (w : World) (st : PS) (O : Nat → Prop) (r : PS × Df) (h : PA w pb s st O) (hk : Ok s st) (hr : defTw s f st = some r) : Calls Tryz.prog 69 #[ptr pb] w (DefC pb s w O r) := by
  unfold defTw at hr
  by_cases hw : isP st wWay = true
  · rw [if_pos hw] at hr
    cases ht : eitherTw s f (needP s (kindP s (takeP s st) 110) wEq) with
    | none => rw [ht] at hr; cases hr
    | some p => rw [ht] at hr; obtain rfl := Option.some.inj hr; exact def_way pb s f ((ways pb s f hf0).1 f (Nat.le_refl _)) w st O h hk hw p.1 p.2 ht
  · rw [if_neg hw] at hr
    cases ht : rangesTw s f (needP s (kindP s (takeP s st) 110) wEq) with
    | none => rw [ht] at hr; cases hr
    | some p => rw [ht] at hr; obtain rfl := Option.some.inj hr; exact def_set pb s f hf0 w st O h hk (by simpa using hw) p.1 p.2 ht
end Go.Proofs.YtgdeeodifnegiaaGreatDoor.rf
