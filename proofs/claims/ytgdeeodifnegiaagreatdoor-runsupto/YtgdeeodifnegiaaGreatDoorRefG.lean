/- The reference's need, kind, num, starts. -/
import Derived.Test.YtgdeeodifnegiaaGreatDoorRefF
namespace Go.Proofs.YtgdeeodifnegiaaGreatDoor.rf
open Go.RowKit

theorem tokAt_bd {s : ByteArray} {i : Nat} (h : i ≤ s.size) : i ≤ (tokAt s i).2 ∧ (tokAt s i).2 ≤ s.size ∧ ((tokAt s i).1.kind ≠ 46 → i + 1 ≤ (tokAt s i).2) := by
  unfold tokAt
  split
  · simp; omega
  · rename_i h1
    split
    · rename_i h2
      have h3 := scanTo_bd (p := lowB) (s := s) (i := i + 1) (by omega)
      rw [← scanTo_step (by omega) h2] at h3
      split
      · simp; omega
      · split <;> (simp; omega)
    · split
      · rename_i h2
        have h3 := scanTo_bd (p := numeB) (s := s) (i := i + 1) (by omega)
        rw [← scanTo_step (p := numeB) (by omega) (by unfold numeB; rw [h2]; rfl)] at h3
        split
        · simp; omega
        · split <;> (simp; omega)
      · split <;> (simp; omega)
theorem cutP_bd {s : ByteArray} {i : Nat} (h : i ≤ s.size) : i ≤ (cutP s i).2 ∧ (cutP s i).2 ≤ s.size ∧ ((cutP s i).1.kind ≠ 46 → i + 1 ≤ (cutP s i).2) := by
  have h1 := scanTo_bd (p := blankB) (s := s) (i := i) h
  have h2 := tokAt_bd (s := s) (i := scanTo blankB s i) h1.2
  unfold cutP
  exact ⟨by omega, h2.2.1, fun hk => by have := h2.2.2 hk; omega⟩

theorem Ok.fail {s : ByteArray} {st : PS} (h : Ok s st) : Ok s (failP st) := by
  unfold failP; split
  · exact ⟨h.hs, h.hi, h.tk0, h.tk, h.ln, h.tx⟩
  · exact h
theorem cutP_text (s : ByteArray) (i : Nat) : (cutP s i).1.text.size ≤ s.size := by
  have he : ∀ a b, (s.extract a b).size ≤ s.size := fun a b => by simp; omega
  unfold cutP tokAt
  repeat' split
  all_goals first | exact he _ _ | exact Nat.zero_le _
theorem Ok.took {s : ByteArray} {st : PS} (h : Ok s st) (hk : st.next.kind ≠ 46) : Ok s (tookP s st) := by
  have hb := cutP_bd (s := s) (i := st.i) h.hi
  have ht := h.tk hk
  refine ⟨h.hs, hb.2.1, ?_, fun h2 => ?_, ?_, Nat.le_trans (cutP_text s st.i) h.hs⟩
  · show (st.taken ++ [st.next]).length ≤ (cutP s st.i).2
    simp; omega
  · show (st.taken ++ [st.next]).length + 1 ≤ (cutP s st.i).2
    have := hb.2.2 h2
    simp; omega
  · show (st.lines ++ [isSemi st.next]).length = (st.taken ++ [st.next]).length
    simp [h.ln]
theorem Ok.take {s : ByteArray} {st : PS} (h : Ok s st) : Ok s (takeP s st) := by
  unfold takeP; split
  · exact h.fail
  · split
    · exact h.took (by omega)
    · exact h
theorem failP_bad (st : PS) : 0 ≤ (failP st).bad := by
  unfold failP; split
  · show (0 : Int) ≤ (st.next.at_ : Int); omega
  · omega
theorem failP_idem (st : PS) : failP (failP st) = failP st := by
  have := failP_bad st
  rw [failP, if_neg (by omega)]
theorem takeP_fail (s : ByteArray) (st : PS) : takeP s (failP st) = failP st := by
  have := failP_bad st
  unfold takeP; split
  · exact failP_idem st
  · rw [if_neg (by omega)]

theorem Ok.need {s : ByteArray} {st : PS} (h : Ok s st) (x : ByteArray) : Ok s (needP s st x) := by unfold needP; split; exact h.take; exact h.fail
theorem Ok.kind {s : ByteArray} {st : PS} (h : Ok s st) (k : Int) : Ok s (kindP s st k) := by unfold kindP; split; exact h.take; exact h.fail

theorem PA.fail {w : World} {pb : Nat} {s : ByteArray} {st : PS} {O : Nat → Prop} (h : PA w pb s st O) :
    Calls Tryz.prog 68 #[ptr pb] w fun e w' => e = .returned (.tuple #[]) ∧ PA w' pb s (failP st) O ∧ Fr O w O w' := by
  obtain ⟨tv, lv, hp, rfl⟩ := h
  refine (fail_any hp).mono ?_
  rintro e w' ⟨rfl, h1, h2⟩
  exact ⟨rfl, ⟨tv, lv, h1, rfl⟩, h2⟩
theorem PA.is {w : World} {pb : Nat} {s : ByteArray} {st : PS} {O : Nat → Prop} (h : PA w pb s st O) (x : ByteArray) :
    Calls Tryz.prog 67 #[ptr pb, .string x] w fun e w' => e = .returned (.bool (isP st x)) ∧ w' = w := by
  obtain ⟨tv, lv, hp, rfl⟩ := h
  exact is_any hp.blk x
theorem PA.stay {w w' : World} {pb : Nat} {s : ByteArray} {st : PS} {O : Nat → Prop} (h : PA w pb s st O) (hb : Below w.heap.size w w') : PA w' pb s st O := by
  obtain ⟨tv, lv, hp, rfl⟩ := h
  exact ⟨tv, lv, hp.stay hb, rfl⟩
theorem PA.drew {w : World} {pb : Nat} {s : ByteArray} {st : PS} {O : Nat → Prop} (h : PA w pb s st O) : PA w.drew pb s st O := h.stay (Below.refl _ _).drew
theorem PA.drewN {w : World} {pb : Nat} {s : ByteArray} {st : PS} {O : Nat → Prop} (h : PA w pb s st O) (n : Nat) : PA (w.drewN n) pb s st O := h.stay (below_drewN (Below.refl _ _) n)
theorem PA.alloc {w : World} {pb : Nat} {s : ByteArray} {st : PS} {O : Nat → Prop} (h : PA w pb s st O) (o : Obj) : PA (w.alloc o) pb s st O := h.stay ((Below.refl _ _).alloc (Nat.le_refl _) _)
theorem PA.lt {w : World} {pb : Nat} {s : ByteArray} {st : PS} {O : Nat → Prop} (h : PA w pb s st O) {k : Nat} (hk : O k) : k < w.heap.size := by
  obtain ⟨tv, lv, hp, rfl⟩ := h
  exact hp.lt hk
theorem PA.other {w : World} {pb b : Nat} {s : ByteArray} {st : PS} {O : Nat → Prop} (h : PA w pb s st O) (hb : ¬ O b) (o : Nat) (v : Value) : PA (w.setCell ⟨b, o, none⟩ v) pb s st O := by
  obtain ⟨tv, lv, hp, rfl⟩ := h
  exact ⟨tv, lv, hp.other hb o v, rfl⟩
theorem PA.own {w : World} {pb : Nat} {s : ByteArray} {st : PS} {O : Nat → Prop} (h : PA w pb s st O) : O pb := by
  obtain ⟨tv, lv, hp, rfl⟩ := h
  exact Or.inl rfl

set_option maxRecDepth 100000 in
set_option maxHeartbeats 1600000 in
theorem need_any {w : World} {pb : Nat} {s : ByteArray} {st : PS} {O : Nat → Prop} (h : PA w pb s st O) (hk : Ok s st) (x : ByteArray) :
    Calls Tryz.prog 120 #[ptr pb, .string x] w fun e w' => e = .returned (.tuple #[]) ∧ ∃ O', PA w' pb s (needP s st x) O' ∧ Fr O w O' w' := by
  have H := hide h
  have K := hide hk
  clear h hk
  cases hi : isP st x with
  | true =>
    have HN : Hid (needP s st x = takeP s st) := by unfold Hid needP; rw [if_pos hi]
    go_enter Tryz.func120, Tryz.ntmps120
    go_wp2_with (first | (go_at_call 67; refine ((unhide H).is _).mono ?_; rintro e w' ⟨rfl, rfl⟩) | (go_at_call 118; refine (take_any (unhide H) (unhide K)).mono ?_; rintro e w' ⟨rfl, O', hp, hf⟩))
    go_end0
    exact ⟨rfl, O', by rw [unhide HN]; exact hp, hf⟩
  | false =>
    have HN : Hid (needP s st x = failP st) := by unfold Hid needP; rw [if_neg (by rw [hi]; simp)]
    go_enter Tryz.func120, Tryz.ntmps120
    go_wp2_with (first | (go_at_call 67; refine ((unhide H).is _).mono ?_; rintro e w' ⟨rfl, rfl⟩) | (go_at_call 68; refine ((unhide H).fail).mono ?_; rintro e w1 ⟨rfl, hp1, hf1⟩; have H1 := hide hp1; clear hp1) | (go_at_call 118; refine (take_any (unhide H1) (unhide K).fail).mono ?_; rintro e w' ⟨rfl, O', hp, hf⟩))
    go_end0
    exact ⟨rfl, O', by rw [unhide HN, ← takeP_fail s st]; exact hp, hf1.trans hf⟩

set_option maxRecDepth 100000 in
set_option maxHeartbeats 1600000 in
theorem kind_any {w : World} {pb : Nat} {s : ByteArray} {st : PS} {O : Nat → Prop} (h : PA w pb s st O) (hk : Ok s st) (k : Int) :
    Calls Tryz.prog 119 #[ptr pb, .int .u8 k] w fun e w' => e = .returned (tokV st.next) ∧ ∃ O', PA w' pb s (kindP s st k) O' ∧ Fr O w O' w' := by
  have c1 : w.cell? ⟨pb, 1, none⟩ = some (.int .u8 st.next.kind) := by obtain ⟨tv, lv, hp, rfl⟩ := h; exact cell_of_heap hp.blk
  have lp : pb < w.heap.size := h.lt h.own
  have N0 := hide (show ¬ O w.heap.size from fun hk => by have := h.lt hk; omega)
  have H := hide (h.stay (w' := w.alloc (.cells #[.int .u8 0, .string ⟨#[]⟩, .int .i64 0] 121)) ((Below.refl _ _).alloc (Nat.le_refl _) _))
  have K := hide hk
  clear h hk
  by_cases hi : st.next.kind = k
  · have HN : Hid (kindP s st k = takeP s st) := by unfold Hid kindP; rw [if_pos hi]
    have hb : (st.next.kind != k) = false := by simp [hi]
    clear hi
    go_enter Tryz.func119, Tryz.ntmps119
    go_wp2_with (go_at_call 118; refine (take_any (unhide H) (unhide K)).mono ?_; rintro e w' ⟨rfl, O', hp, hf⟩; have q0 : w'.heap[w.heap.size]? = _ := (hf.block w.heap.size (by simp) (unhide N0)).trans (heap_alloc_new w _); have r0 : w'.cell? ⟨w.heap.size, 0, none⟩ = some (.int .u8 0) := (cell_of_heap q0); have r1 : w'.cell? ⟨w.heap.size, 1, none⟩ = some (.string ⟨#[]⟩) := (cell_of_heap q0); have r2 : w'.cell? ⟨w.heap.size, 2, none⟩ = some (.int .i64 0) := (cell_of_heap q0); have zr : ∀ o, w'.frozen? ⟨w.heap.size, o, none⟩ = false := (fun o => frozen_of_heap q0); clear q0)
    have N1 : ¬ O' w.heap.size := fun hk => by
      rcases hf.own _ hk with h | h
      · exact unhide N0 h
      · have h2 : (w.alloc (.cells #[.int .u8 0, .string ⟨#[]⟩, .int .i64 0] 121)).heap.size = w.heap.size + 1 := by simp
        omega
    refine bodyPost_ret (v := tokV st.next) (by simp [results, Tryz.results119, go_sem, r0, r1, r2]) rfl ⟨rfl, O', ?_, ?_⟩
    · rw [unhide HN]; exact ((hp.other N1 _ _).other N1 _ _).other N1 _ _
    · exact (((((Fr.refl _ _).alloc _).trans hf).setCell (Or.inr (Nat.le_refl _)) _).setCell (Or.inr (Nat.le_refl _)) _).setCell (Or.inr (Nat.le_refl _)) _
  · have HN : Hid (kindP s st k = failP st) := by unfold Hid kindP; rw [if_neg hi]
    have hb : (st.next.kind != k) = true := by simp [hi]
    clear hi
    go_enter Tryz.func119, Tryz.ntmps119
    go_wp2_with (first | (go_at_call 68; refine ((unhide H).fail).mono ?_; rintro e w1 ⟨rfl, hp1, hf1⟩; have H1 := hide hp1; clear hp1) | (go_at_call 118; refine (take_any (unhide H1) (unhide K).fail).mono ?_; rintro e w' ⟨rfl, O', hp, hf2⟩; have hf := hf1.trans hf2; have q0 : w'.heap[w.heap.size]? = _ := (hf.block w.heap.size (by simp) (unhide N0)).trans (heap_alloc_new w _); have r0 : w'.cell? ⟨w.heap.size, 0, none⟩ = some (.int .u8 0) := (cell_of_heap q0); have r1 : w'.cell? ⟨w.heap.size, 1, none⟩ = some (.string ⟨#[]⟩) := (cell_of_heap q0); have r2 : w'.cell? ⟨w.heap.size, 2, none⟩ = some (.int .i64 0) := (cell_of_heap q0); have zr : ∀ o, w'.frozen? ⟨w.heap.size, o, none⟩ = false := (fun o => frozen_of_heap q0); clear q0))
    have N1 : ¬ O' w.heap.size := fun hk => by
      rcases hf.own _ hk with h | h
      · exact unhide N0 h
      · have h2 : (w.alloc (.cells #[.int .u8 0, .string ⟨#[]⟩, .int .i64 0] 121)).heap.size = w.heap.size + 1 := by simp
        omega
    refine bodyPost_ret (v := tokV st.next) (by simp [results, Tryz.results119, go_sem, r0, r1, r2]) rfl ⟨rfl, O', ?_, ?_⟩
    · rw [unhide HN, ← takeP_fail s st]; exact ((hp.other N1 _ _).other N1 _ _).other N1 _ _
    · exact (((((Fr.refl _ _).alloc _).trans hf).setCell (Or.inr (Nat.le_refl _)) _).setCell (Or.inr (Nat.le_refl _)) _).setCell (Or.inr (Nat.le_refl _)) _

set_option maxRecDepth 100000 in
set_option maxHeartbeats 1600000 in
theorem starts_any {w : World} {pb : Nat} {s : ByteArray} {st : PS} {O : Nat → Prop} (h : PA w pb s st O) :
    Calls Tryz.prog 175 #[ptr pb] w fun e w' => e = .returned (.bool (startsP st)) ∧ w' = w := by
  have c1 : w.cell? ⟨pb, 1, none⟩ = some (.int .u8 st.next.kind) := by obtain ⟨tv, lv, hp, rfl⟩ := h; exact cell_of_heap hp.blk
  have c7 : w.cell? ⟨pb, 7, none⟩ = some (.int .i64 st.bad) := by obtain ⟨tv, lv, hp, rfl⟩ := h; exact cell_of_heap hp.blk
  have H := hide h
  clear h
  have HS : Hid (startsP st = (decide (st.bad < 0) && (st.next.kind == 48 || isP st wPref || isP st wMed || isP st wLen || isP st wOpen))) := rfl
  have a1 := (unhide H).is wPref
  have a2 := (unhide H).is wMed
  have a3 := (unhide H).is wLen
  have a4 := (unhide H).is wOpen
  generalize isP st wPref = b1 at *
  generalize isP st wMed = b2 at *
  generalize isP st wLen = b3 at *
  generalize isP st wOpen = b4 at *
  have A1 := hide a1
  have A2 := hide a2
  have A3 := hide a3
  have A4 := hide a4
  clear a1 a2 a3 a4
  go_enter Tryz.func175, Tryz.ntmps175
  go_wp2_with fail
  refine (unhide A1).mono ?_
  rintro e w' ⟨rfl, rfl⟩
  go_wp2_with fail
  refine (unhide A2).mono ?_
  rintro e w' ⟨rfl, rfl⟩
  go_wp2_with fail
  refine (unhide A3).mono ?_
  rintro e w' ⟨rfl, rfl⟩
  go_wp2_with fail
  refine (unhide A4).mono ?_
  rintro e w' ⟨rfl, rfl⟩
  by_cases hb : st.bad < 0
  · cases hk : (st.next.kind == 48) <;> cases b1 <;> cases b2 <;> cases b3 <;>
      (go_wp2_with fail; go_ret; exact ⟨ret_bool (by rw [unhide HS, decide_eq_true hb, hk]; simp), rfl⟩)
  · go_wp2_with fail
    go_ret
    exact ⟨ret_bool (by rw [unhide HS, decide_eq_false (by omega)]; rfl), rfl⟩

abbrev treeV (op text : ByteArray) (n a : Int) (kv : Value) : Value := .agg #[.string op, .string text, .int .i64 n, .int .i64 a, kv]
abbrev treeCells (op text : ByteArray) (n a : Int) (kv : Value) : Array Value := #[.string op, .string text, .int .i64 n, .int .i64 a, kv]
abbrev treeZ : Array Value := #[.string ⟨#[]⟩, .string ⟨#[]⟩, .int .i64 0, .int .i64 0, .slice none 0 0]
theorem rtree {w w' : World} {O O' : Nat → Prop} (hf : Fr O (w.alloc (.cells treeZ 115)) O' w') (n0 : ¬ O w.heap.size) : ¬ O' w.heap.size ∧ w.heap.size < w'.heap.size ∧ w'.cell? ⟨w.heap.size, 0, none⟩ = some (.string ⟨#[]⟩) ∧ w'.cell? ⟨w.heap.size, 1, none⟩ = some (.string ⟨#[]⟩) ∧ w'.cell? ⟨w.heap.size, 2, none⟩ = some (.int .i64 0) ∧ w'.cell? ⟨w.heap.size, 3, none⟩ = some (.int .i64 0) ∧ w'.cell? ⟨w.heap.size, 4, none⟩ = some (.slice none 0 0) ∧ (∀ o, w'.frozen? ⟨w.heap.size, o, none⟩ = false) ∧ Fr O w O' w' := by
  have q0 : w'.heap[w.heap.size]? = some (.cells treeZ 115 (0, 0)) := (hf.block w.heap.size (by simp) n0).trans (heap_alloc_new w _)
  obtain ⟨r0, r1, r2, r3, r4⟩ := cells5 q0
  refine ⟨fun hk => ?_, heap_lt q0, r0, r1, r2, r3, r4, fun o => frozen_of_heap q0, ((Fr.refl O w).alloc (.cells treeZ 115)).trans hf⟩
  rcases hf.own _ hk with h | h
  · exact n0 h
  · have h2 : (w.alloc (.cells treeZ 115)).heap.size = w.heap.size + 1 := by simp
    omega

set_option maxRecDepth 100000 in
set_option maxHeartbeats 1600000 in
theorem num_any {w : World} {pb : Nat} {s : ByteArray} {st : PS} {O : Nat → Prop} (h : PA w pb s st O) (hk : Ok s st) (op : ByteArray) :
    Calls Tryz.prog 124 #[ptr pb, .string op] w fun e w' => e = .returned (treeV op ⟨#[]⟩ (numP st.next.text 4294967295) st.next.at_ (.slice none 0 0)) ∧ ∃ O', PA w' pb s (kindP s st 48) O' ∧ Fr O w O' w' := by
  have lp : pb < w.heap.size := h.lt h.own
  have N0 := hide (show ¬ O w.heap.size from fun hk => by have := h.lt hk; omega)
  have H := hide (h.stay (w' := w.alloc (.cells treeZ 115)) ((Below.refl _ _).alloc (Nat.le_refl _) _))
  have K := hide hk
  clear h hk
  go_enter Tryz.func124, Tryz.ntmps124
  go_wp2_with (go_at_call 119; refine (kind_any (unhide H) (unhide K) _).mono ?_; rintro e w' ⟨rfl, O', hp, hf⟩)
  have q0 : w'.heap[w.heap.size]? = some (.cells treeZ 115 (0, 0)) := (hf.block w.heap.size (by simp) (unhide N0)).trans (heap_alloc_new w _)
  have N1 : ¬ O' w.heap.size := fun hk => by
    rcases hf.own _ hk with h | h
    · exact unhide N0 h
    · have h2 : (w.alloc (.cells treeZ 115)).heap.size = w.heap.size + 1 := by simp
      omega
  have hz : w.heap.size < w'.heap.size := heap_lt q0
  obtain ⟨r0, r1, r2, r3, r4⟩ := cells5 q0
  have zr : ∀ o, w'.frozen? ⟨w.heap.size, o, none⟩ = false := fun o => frozen_of_heap q0
  have HP := hide hp
  have HF := hide (((Fr.refl O w).alloc (.cells treeZ 115)).trans hf)
  have HN := hide N1
  clear q0 hp hf N1
  go_region_with (go_at_call 116; refine (number_any _ _ _).mono ?_; rintro e w'' ⟨rfl, rfl⟩)
  all_goals
    go_wp2_with fail
    refine bodyPost_ret (v := treeV op ⟨#[]⟩ (numP st.next.text 4294967295) st.next.at_ (.slice none 0 0)) (by simp [results, Tryz.results124, go_sem, r0, r1, r2, r3, r4, hz]) rfl ⟨rfl, O', ?_, ?_⟩
    · repeat with_reducible first | refine PA.other ?_ (unhide HN) _ _ | refine PA.alloc ?_ _ | refine PA.drew ?_ | refine PA.drewN ?_ _ | exact unhide HP
    · repeat with_reducible first | refine Fr.setCell ?_ (Or.inr (Nat.le_refl _)) _ | refine Fr.setCell ?_ (Or.inl (unhide HO)) _ | refine Fr.alloc ?_ _ | refine Fr.drew ?_ | refine Fr.drewN ?_ _ | exact unhide HF | exact Fr.refl _ _
end Go.Proofs.YtgdeeodifnegiaaGreatDoor.rf
