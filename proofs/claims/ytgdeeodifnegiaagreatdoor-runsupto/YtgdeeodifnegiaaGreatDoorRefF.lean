/- The reference's take (whole), need, kind, num, starts. -/
import Derived.Test.YtgdeeodifnegiaaGreatDoorRefE
namespace Go.Proofs.YtgdeeodifnegiaaGreatDoor.rf
open Go.RowKit

/-- the parser in memory, and which blocks are its own -/
def PA (w : World) (pb : Nat) (s : ByteArray) (st : PS) (O : Nat → Prop) : Prop := ∃ tv lv, PAt w pb s st tv lv ∧ O = POwn pb tv lv

theorem two_alloc (w : World) (A B : Array Value) (TA TB : TypeId) : ((w.alloc (.cells A TA)).alloc (.cells B TB)).heap[w.heap.size]? = some (.cells A TA (0, 0)) ∧ ((w.alloc (.cells A TA)).alloc (.cells B TB)).heap[w.heap.size + 1]? = some (.cells B TB (0, 0)) :=
  ⟨by rw [Below.heap_alloc _ _ _ (by simp)]; exact heap_alloc_new w _, by rw [show w.heap.size + 1 = (w.alloc (.cells A TA)).heap.size by simp]; exact heap_alloc_new _ _⟩
theorem PAt.lt {w : World} {pb : Nat} {s : ByteArray} {st : PS} {tv lv : Value} (h : PAt w pb s st tv lv) {k : Nat} (hk : POwn pb tv lv k) : k < w.heap.size := by
  rcases hk with h1 | h1 | h1
  · rw [h1]; exact heap_lt h.blk
  · exact (h.own1.lt k h1).2
  · exact (h.own2.lt k h1).2

set_option maxRecDepth 100000 in
set_option maxHeartbeats 1600000 in
theorem take_bad {w : World} {pb : Nat} {s : ByteArray} {st : PS} {tv lv : Value} (h : PAt w pb s st tv lv) (hb : st.next.kind = 33 ∨ st.next.kind = 46 ∨ 0 ≤ st.bad) :
    Calls Tryz.prog 118 #[ptr pb] w fun e w' => e = .returned (tokV st.next) ∧ PAt w' pb s (takeP s st) tv lv ∧ Fr (POwn pb tv lv) w (POwn pb tv lv) w' := by
  have c1 : w.cell? ⟨pb, 1, none⟩ = some (.int .u8 st.next.kind) := cell_of_heap h.blk
  have c2 : w.cell? ⟨pb, 2, none⟩ = some (.string st.next.text) := cell_of_heap h.blk
  have c3 : w.cell? ⟨pb, 3, none⟩ = some (.int .i64 st.next.at_) := cell_of_heap h.blk
  have c7 : w.cell? ⟨pb, 7, none⟩ = some (.int .i64 st.bad) := cell_of_heap h.blk
  have lp : pb < w.heap.size := heap_lt h.blk
  have N0 := hide (show ¬ POwn pb tv lv w.heap.size from fun hk => by have := h.lt hk; omega)
  have N1 := hide (show ¬ POwn pb tv lv (w.heap.size + 1) from fun hk => by have := h.lt hk; omega)
  have H := hide h
  clear h
  by_cases hk : st.next.kind = 33 ∨ st.next.kind = 46
  · have HT : Hid (takeP s st = failP st) := by unfold Hid takeP; rw [if_pos hk]
    have hbd : 0 ≤ (failP st).bad := by
      unfold failP; split
      · show (0 : Int) ≤ (st.next.at_ : Int); omega
      · omega
    have hor : ((st.next.kind == 33) = true) ∨ ((st.next.kind == 33) = false ∧ (st.next.kind == 46) = true) := by
      rcases hk with h | h <;> rw [h] <;> simp
    clear hk hb
    rcases hor with h1 | ⟨h1, h2⟩
    all_goals
      go_enter Tryz.func118, Tryz.ntmps118
      go_wp2_with (go_at_call 68; refine (fail_any (tv := tv) (lv := lv) (s := s) (st := st) ?hpp).mono ?_; (case hpp => exact (unhide H).stay (((Below.refl _ _).alloc (Nat.le_refl _) _).alloc (by simp) _)); rintro e w' ⟨rfl, hp, hfr⟩; have c7' : w'.cell? ⟨pb, 7, none⟩ = some (.int .i64 (failP st).bad) := (cell_of_heap hp.blk); have q0 : w'.heap[w.heap.size]? = _ := (hfr.block w.heap.size (by simp; omega) (unhide N0)).trans (two_alloc w _ _ _ _).1; have q1 : w'.heap[w.heap.size + 1]? = _ := (hfr.block (w.heap.size + 1) (by simp) (unhide N1)).trans (two_alloc w _ _ _ _).2; have r0 : w'.cell? ⟨w.heap.size, 0, none⟩ = some (.int .u8 0) := (cell_of_heap q0); have r1 : w'.cell? ⟨w.heap.size, 1, none⟩ = some (.string ⟨#[]⟩) := (cell_of_heap q0); have r2 : w'.cell? ⟨w.heap.size, 2, none⟩ = some (.int .i64 0) := (cell_of_heap q0); have zr : ∀ o, w'.frozen? ⟨w.heap.size, o, none⟩ = false := (fun o => frozen_of_heap q0); have t0 : w'.cell? ⟨w.heap.size + 1, 0, none⟩ = some (.int .u8 st.next.kind) := (cell_of_heap q1); have t1 : w'.cell? ⟨w.heap.size + 1, 1, none⟩ = some (.string st.next.text) := (cell_of_heap q1); have t2 : w'.cell? ⟨w.heap.size + 1, 2, none⟩ = some (.int .i64 st.next.at_) := (cell_of_heap q1); clear q0 q1)
      refine bodyPost_ret (v := tokV st.next) (by simp [results, Tryz.results118, go_sem, r0, r1, r2]) rfl ⟨rfl, ?_, ?_⟩
      · rw [unhide HT]; exact (((hp.other (unhide N0) _ _).other (unhide N0) _ _).other (unhide N0) _ _)
      · exact ((((((Fr.refl _ _).alloc _).alloc _).trans hfr).setCell (Or.inr (Nat.le_refl _)) _).setCell (Or.inr (Nat.le_refl _)) _).setCell (Or.inr (Nat.le_refl _)) _
  · have hbd : 0 ≤ st.bad := by omega
    have HT : Hid (takeP s st = st) := by unfold Hid takeP; rw [if_neg hk, if_neg (by omega)]
    have h1 : (st.next.kind == 33) = false := beq_eq_false_iff_ne.2 (by omega)
    have h2 : (st.next.kind == 46) = false := beq_eq_false_iff_ne.2 (by omega)
    clear hk hb
    go_enter Tryz.func118, Tryz.ntmps118
    go_wp2_with fail
    refine bodyPost_ret (v := tokV st.next) (by simp [results, Tryz.results118, go_sem]) rfl ⟨rfl, ?_, ?_⟩
    · rw [unhide HT]; exact (unhide H).stay (by first | exact (((Below.refl _ _).alloc (Nat.le_refl _) _).alloc (by simp) _) | exact ((((((Below.refl _ _).alloc (Nat.le_refl _) _).alloc (by simp) _).setCell (by simp) _).setCell (by simp) _).setCell (by simp) _))
    · first | exact ((Fr.refl _ _).alloc _).alloc _ | exact (((((Fr.refl _ _).alloc _).alloc _).setCell (Or.inr (Nat.le_refl _)) _).setCell (Or.inr (Nat.le_refl _)) _).setCell (Or.inr (Nat.le_refl _)) _

theorem take_any {w : World} {pb : Nat} {s : ByteArray} {st : PS} {O : Nat → Prop} (h : PA w pb s st O) (hk : Ok s st) :
    Calls Tryz.prog 118 #[ptr pb] w fun e w' => e = .returned (tokV st.next) ∧ ∃ O', PA w' pb s (takeP s st) O' ∧ Fr O w O' w' := by
  obtain ⟨tv, lv, hp, rfl⟩ := h
  by_cases hb : st.next.kind = 33 ∨ st.next.kind = 46 ∨ 0 ≤ st.bad
  · refine (take_bad hp hb).mono ?_
    rintro e w' ⟨rfl, h1, h2⟩
    exact ⟨rfl, _, ⟨tv, lv, h1, rfl⟩, h2⟩
  · have h1 := hk.tk0
    have h2 := hk.hi
    have h3 := hk.hs
    have h4 := hk.ln
    refine (take_good hp hk.hs hk.hi (by omega) (beq_eq_false_iff_ne.2 (by omega)) (beq_eq_false_iff_ne.2 (by omega)) (by omega) (by omega)).mono ?_
    rintro e w' ⟨rfl, tv', lv', h1, h2⟩
    refine ⟨rfl, _, ⟨tv', lv', ?_, rfl⟩, h2⟩
    rw [show takeP s st = tookP s st by unfold takeP; rw [if_neg (by omega), if_pos (by omega)]]
    exact h1
end Go.Proofs.YtgdeeodifnegiaaGreatDoor.rf
