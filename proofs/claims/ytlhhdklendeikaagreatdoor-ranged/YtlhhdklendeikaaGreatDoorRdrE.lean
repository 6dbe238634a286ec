/- The program's reader: page.add. -/
import Derived.Test.YtlhhdklendeikaaGreatDoorRdrD
namespace Go.Proofs.YtlhhdklendeikaaGreatDoor
open Go.RowKit

abbrev tokV (t : TokP) : Value := .agg #[.int .i64 t.kind, .int .i64 t.at_, .string t.text, .int .i64 t.number, .int .i64 t.addr, .int .i64 t.len]
abbrev tokBlk (t : TokP) : Obj := .cells #[.int .i64 t.kind, .int .i64 t.at_, .string t.text, .int .i64 t.number, .int .i64 t.addr, .int .i64 t.len] 88
theorem heap_new (w : World) (c : Array Value) (T : TypeId) : (w.alloc (.cells c T)).heap[w.heap.size]? = some (.cells c T (0, 0)) := heap_alloc_new w _
theorem RA.newTok {w w1 : World} {pb : Nat} {ts : List TokP} {st : RS} {D O O1 : Nat → Prop} (h : RA w pb ts st D O) (t : TokP) (hf : Fr O (w.alloc (tokBlk t)) O1 w1) :
    w1.heap[w.heap.size]? = some (tokBlk t) ∧ Fr O w O1 w1 := by
  refine ⟨(hf.block w.heap.size (by simp) (fun ho => by have := h.lt ho; omega)).trans (heap_new w _ _), ((Fr.refl O w).alloc _).trans hf⟩

set_option maxRecDepth 100000 in
set_option maxHeartbeats 2000000 in
theorem add_semi {w : World} {pb : Nat} {ts : List TokP} {st : RS} {D O : Nat → Prop} (h : RA w pb ts st D O) (t : TokP) (ht : t.text.size ≤ 600) (hp : st.page.length ≤ 1000000) (h27 : t.kind = 27) :
    Calls Tryz.prog 94 #[ptr4 pb 4, tokV t] w fun e w' => e = .returned (.tuple #[]) ∧ ∃ O', RA w' pb ts (addR st t) D O' ∧ Fr O w O' w' := by
  have c0 : (w.alloc (tokBlk t)).cell? ⟨w.heap.size, 2, none⟩ = some (.string t.text) := cell_of_heap (heap_new w _ _)
  have HH := hide h
  have HW := hide (write_any (h.alloc (tokBlk t)).drew t.text (by omega))
  have hk : (t.kind != 27) = false := by rw [h27]; rfl
  have EQ := hide (show addR st t = endLineR { wroteR st t.text with gap := ⟨#[32]⟩ } by simp [addR, h27, endLineR, wroteR])
  have HK := hide h27
  clear h h27 hp ht
  go_enter Tryz.func94, Tryz.ntmps94
  go_wp2_with fail
  go_region_with (go_at_call 120; refine (unhide HW).mono ?_; rintro e w1 ⟨rfl, O1, hr1, hf1⟩)
  all_goals
    have f0 := (unhide HH).newTok t (((Fr.refl _ _).drew).trans hf1)
    have k0 : w1.cell? ⟨w.heap.size, 0, none⟩ = some (.int .i64 27) := by rw [← unhide HK]; exact cell_of_heap f0.1
    obtain ⟨c6, z6, _⟩ := hr1.cells
    have HR1 := hide hr1
    have HF0 := hide f0.2
    clear hr1 hf1 f0
    go_wp2_with (go_at_call 121; refine (endLine_any ((unhide HR1).putGap _)).mono ?_; rintro e w2 ⟨rfl, hr2, hf2⟩)
    go_end0
    exact ⟨rfl, O1, by rw [unhide EQ]; exact hr2, ((unhide HF0).setCell (Or.inl (unhide HR1).own) _).trans hf2⟩
set_option maxRecDepth 100000 in
set_option maxHeartbeats 2000000 in
theorem add_comma {w : World} {pb : Nat} {ts : List TokP} {st : RS} {D O : Nat → Prop} (h : RA w pb ts st D O) (t : TokP) (ht : t.text.size ≤ 600) (hp : st.page.length ≤ 1000000) (h27 : t.kind = 28) :
    Calls Tryz.prog 94 #[ptr4 pb 4, tokV t] w fun e w' => e = .returned (.tuple #[]) ∧ ∃ O', RA w' pb ts (addR st t) D O' ∧ Fr O w O' w' := by
  have c0 : (w.alloc (tokBlk t)).cell? ⟨w.heap.size, 2, none⟩ = some (.string t.text) := cell_of_heap (heap_new w _ _)
  have HH := hide h
  have HW := hide (write_any (h.alloc (tokBlk t)).drew t.text (by omega))
  have hk : (t.kind != 27) = true := by rw [h27]; rfl
  have hk2 : (t.kind != 28) = false := by rw [h27]; rfl
  have EQ := hide (show addR st t = { wroteR st t.text with gap := ⟨#[32]⟩ } by simp [addR, h27, gapS, wroteR])
  have HK := hide h27
  clear h h27 hp ht
  go_enter Tryz.func94, Tryz.ntmps94
  go_wp2_with fail
  go_region_with (go_at_call 120; refine (unhide HW).mono ?_; rintro e w1 ⟨rfl, O1, hr1, hf1⟩)
  all_goals
    have f0 := (unhide HH).newTok t (((Fr.refl _ _).drew).trans hf1)
    have k0 : w1.cell? ⟨w.heap.size, 0, none⟩ = some (.int .i64 28) := by rw [← unhide HK]; exact cell_of_heap f0.1
    obtain ⟨c6, z6, _⟩ := hr1.cells
    have HR1 := hide hr1
    have HF0 := hide f0.2
    clear hr1 hf1 f0
    go_wp2_with fail
    go_end0
    exact ⟨rfl, O1, by rw [unhide EQ]; exact (unhide HR1).putGap _, ((unhide HF0).setCell (Or.inl (unhide HR1).own) _)⟩

set_option maxRecDepth 100000 in
set_option maxHeartbeats 2000000 in
theorem add_else {w : World} {pb : Nat} {ts : List TokP} {st : RS} {D O : Nat → Prop} (h : RA w pb ts st D O) (t : TokP) (ht : t.text.size ≤ 600) (hg : st.gap.size ≤ 1) (hp : st.page.length ≤ 1000000) (h27 : t.kind ≠ 27) (h28 : t.kind ≠ 28) :
    Calls Tryz.prog 94 #[ptr4 pb 4, tokV t] w fun e w' => e = .returned (.tuple #[]) ∧ ∃ O', RA w' pb ts (addR st t) D O' ∧ Fr O w O' w' := by
  have c0 : (w.alloc (tokBlk t)).cell? ⟨w.heap.size, 2, none⟩ = some (.string t.text) := cell_of_heap (heap_new w _ _)
  have c6 : (w.alloc (tokBlk t)).cell? ⟨pb, 6, none⟩ = some (.string st.gap) := (h.alloc (tokBlk t)).cells.1
  have HH := hide h
  have HW := hide (write_any (h.alloc (tokBlk t)).drew st.gap (by omega))
  have hk : (t.kind != 27) = true := by simpa using h27
  have hk2 : (t.kind != 28) = true := by simpa using h28
  have hk3 : (t.kind == 27) = false := by simpa using h27
  have EQ := hide (show addR st t = { wroteR (wroteR st st.gap) t.text with gap := ⟨#[32]⟩ } by simp [addR, h27, h28, gapS, wroteR])
  have HLn : Hid ((wroteR st st.gap).page.length + t.text.size ≤ 1000000000) := by show (st.page ++ st.gap.data.toList).length + _ ≤ _; rw [List.length_append, Array.length_toList]; have : st.gap.data.size ≤ 1 := hg; omega
  clear h h27 h28 hp ht hg
  go_enter Tryz.func94, Tryz.ntmps94
  go_wp2_with fail
  go_region_with (go_at_call 120; refine (unhide HW).mono ?_; rintro e w1 ⟨rfl, O1, hr1, hf1⟩)
  all_goals
    have f0 := (unhide HH).newTok t (((Fr.refl _ _).drew).trans hf1)
    have k0 : w1.cell? ⟨w.heap.size, 0, none⟩ = some (.int .i64 t.kind) := cell_of_heap f0.1
    have k2 : w1.cell? ⟨w.heap.size, 2, none⟩ = some (.string t.text) := cell_of_heap f0.1
    have HB1 := hide f0.1
    have hW1 : Hid (¬ O1 w.heap.size) := fun ho => by
      rcases f0.2.own _ ho with h1 | h1
      · have := (unhide HH).lt h1; omega
      · rcases hf1.own _ ho with h2 | h2
        · have := (unhide HH).lt h2; omega
        · have h3 : ((w.alloc (tokBlk t)).drew).heap.size = w.heap.size + 1 := by simp
          omega
    have HR1 := hide hr1
    have HF0 := hide f0.2
    have HW1 := hide (write_any hr1.drew t.text (unhide HLn))
    clear hr1 hf1 f0
    go_wp2_with fail
    go_region_with (go_at_call 120; refine (unhide HW1).mono ?_; rintro e w2 ⟨rfl, O2, hr2, hf2⟩)
    all_goals
      have k0 : w2.cell? ⟨w.heap.size, 0, none⟩ = some (.int .i64 t.kind) := cell_of_heap ((hf2.block w.heap.size (heap_lt (unhide HB1)) (unhide hW1)).trans (unhide HB1))
      obtain ⟨c6', z6, _⟩ := hr2.cells
      have HR2 := hide hr2
      have HF2 := hide ((unhide HF0).drew.trans hf2)
      clear hr2 hf2
      go_wp2_with fail
      go_end0
      exact ⟨rfl, O2, by rw [unhide EQ]; exact (unhide HR2).putGap _, ((unhide HF2).setCell (Or.inl (unhide HR2).own) _)⟩
theorem add_any {w : World} {pb : Nat} {ts : List TokP} {st : RS} {D O : Nat → Prop} (h : RA w pb ts st D O) (t : TokP) (ht : t.text.size ≤ 600) (hg : st.gap.size ≤ 1) (hp : st.page.length ≤ 1000000) :
    Calls Tryz.prog 94 #[ptr4 pb 4, tokV t] w fun e w' => e = .returned (.tuple #[]) ∧ ∃ O', RA w' pb ts (addR st t) D O' ∧ Fr O w O' w' := by
  by_cases h27 : t.kind = 27
  · exact add_semi h t ht hp h27
  · by_cases h28 : t.kind = 28
    · exact add_comma h t ht hp h28
    · exact add_else h t ht hg hp h27 h28
end Go.Proofs.YtlhhdklendeikaaGreatDoor
