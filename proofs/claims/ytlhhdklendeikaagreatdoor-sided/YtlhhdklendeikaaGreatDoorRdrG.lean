/- The program's reader: took, open, shut, numberWithin and its kin. -/
import Derived.Test.YtlhhdklendeikaaGreatDoorRdrF
namespace Go.Proofs.YtlhhdklendeikaaGreatDoor
open Go.RowKit

theorem goR_ok {ts : List TokP} {st : RS} (h : Ok ts st) (ht : TsOk ts) (hk : 2 ≤ (tokR ts st).kind) : Ok ts (goR ts st) := by
  have hn := h.next
  have h1 := ht.last st.next hn (by rw [tokR_eq hn] at hk; exact hk)
  have h2 : (tokR ts st).text.size ≤ 600 := by rw [tokR_eq hn]; exact ht.text _ hn
  have h3 := h.page
  have h4 : st.gap.data.size ≤ 1 := h.gap
  have h5 : (tokR ts st).text.data.size ≤ 600 := h2
  refine ⟨h1, ?_, ?_⟩
  · show (if _ then _ else _ : List UInt8).length ≤ 700 * (st.next + 1)
    split <;> simp only [List.length_append, Array.length_toList] <;> omega
  · show (if _ then gapN else gapS : ByteArray).size ≤ 1
    split <;> decide
theorem failR_ok {ts : List TokP} {st : RS} (h : Ok ts st) : Ok ts (failR ts st) := ⟨h.next, h.page, h.gap⟩
theorem kindR_tok {ts : List TokP} {st : RS} {k : Int} (h : kindR ts st = k) (hk : 2 ≤ k) : (tokR ts st).kind = k ∧ st.syn = none := by
  unfold kindR at h
  cases hs : st.syn with
  | none => rw [hs] at h; exact ⟨h, rfl⟩
  | some x => rw [hs] at h; simp at h; omega
theorem goR_ok' {ts : List TokP} {st : RS} {k : Int} (h : Ok ts st) (ht : TsOk ts) (e : kindR ts st = k) (hk : 2 ≤ k) : Ok ts (goR ts st) :=
  goR_ok h ht (by rw [(kindR_tok e hk).1]; exact hk)
theorem takeR_ok {ts : List TokP} {st : RS} {k : Int} (h : Ok ts st) (ht : TsOk ts) (hk : 2 ≤ k) : Ok ts (takeR ts k st).1 := by
  unfold takeR
  by_cases e : kindR ts st = k
  · rw [if_pos e]; exact goR_ok' h ht e hk
  · rw [if_neg e]; exact failR_ok h
theorem depth_ok {ts : List TokP} {st : RS} (h : Ok ts st) (d : Int) : Ok ts { st with depth := d } := ⟨h.next, h.page, h.gap⟩
theorem openR_ok {ts : List TokP} {st : RS} {k : Int} (h : Ok ts st) (ht : TsOk ts) (hk : 2 ≤ k) : Ok ts (openR ts k st) := by
  unfold openR
  refine depth_ok (takeR_ok ?_ ht hk) _
  split
  · exact failR_ok h
  · exact h
theorem shutR_ok {ts : List TokP} {st : RS} {k : Int} (h : Ok ts st) (ht : TsOk ts) (hk : 2 ≤ k) : Ok ts (shutR ts k st) := depth_ok (takeR_ok h ht hk) _
theorem decR_ok {ts : List TokP} {st : RS} (h : Ok ts st) : Ok ts (decR st) := depth_ok h _
theorem endLineR_ok {ts : List TokP} {st : RS} (h : Ok ts st) : Ok ts (endLineR st) := ⟨h.next, h.page, by show gapN.size ≤ 1; decide⟩
theorem withinR_ok {ts : List TokP} {st : RS} {a b : Int} (h : Ok ts st) (ht : TsOk ts) : Ok ts (withinR ts a b st).1 := by
  have h1 := takeR_ok (k := 2) h ht (by decide)
  show Ok ts (if _ then _ else _)
  split
  · exact ⟨h1.next, h1.page, h1.gap⟩
  · exact h1

set_option maxRecDepth 100000 in
set_option maxHeartbeats 1000000 in
theorem took_yes {w : World} {pb : Nat} {ts : List TokP} {st : RS} {D O : Nat → Prop} (h : RA w pb ts st D O) (hk : Ok ts st) (ht : TsOk ts) (k : Int) (e : kindR ts st = k) :
    Calls Tryz.prog 67 #[ptr4 pb 0, .int .i64 k] w fun e w' => e = .returned (.bool true) ∧ ∃ O', RA w' pb ts (goR ts st) D O' ∧ Fr O w O' w' := by
  have HK := hide (kind_drew h hk.next ht.n1)
  have hb : (kindR ts st != k) = false := by simpa using e
  have HT := hide (fun W (hW : RA W pb ts st D O) => take_yes hW hk ht.n1 (by rw [tokR_eq hk.next]; exact ht.text _ hk.next) k e)
  clear h e hk ht
  go_enter Tryz.func67, Tryz.ntmps67
  go_wp2_with (first
    | (go_at_call 53; refine (unhide HK).mono ?_; rintro e w1 ⟨rfl, hr1, hf1, _⟩; have HR1 := hide hr1; have HF1 := hide hf1; clear hr1 hf1)
    | (go_at_call 69; refine ((unhide HT) _ (unhide HR1)).mono ?_; rintro e w2 ⟨rfl, O2, hr2, hf2⟩; have HR2 := hide hr2; have HF2 := hide ((unhide HF1).trans hf2); clear hr2 hf2))
  go_ret
  exact ⟨rfl, _, unhide HR2, unhide HF2⟩
set_option maxRecDepth 100000 in
set_option maxHeartbeats 1000000 in
theorem took_no {w : World} {pb : Nat} {ts : List TokP} {st : RS} {D O : Nat → Prop} (h : RA w pb ts st D O) (hk : Ok ts st) (ht : TsOk ts) (k : Int) (e : kindR ts st ≠ k) :
    Calls Tryz.prog 67 #[ptr4 pb 0, .int .i64 k] w fun e w' => e = .returned (.bool false) ∧ RA w' pb ts st D O ∧ Fr O w O w' := by
  have HK := hide (kind_drew h hk.next ht.n1)
  have hb : (kindR ts st != k) = true := by simpa using e
  clear h e hk ht
  go_enter Tryz.func67, Tryz.ntmps67
  go_wp2_with (go_at_call 53; refine (unhide HK).mono ?_; rintro e w1 ⟨rfl, hr1, hf1, _⟩; have HR1 := hide hr1; have HF1 := hide hf1; clear hr1 hf1)
  go_ret
  exact ⟨rfl, unhide HR1, unhide HF1⟩
/-- took, either way -/
theorem took_any {w : World} {pb : Nat} {ts : List TokP} {st : RS} {D O : Nat → Prop} (h : RA w pb ts st D O) (hk : Ok ts st) (ht : TsOk ts) (k : Int) :
    Calls Tryz.prog 67 #[ptr4 pb 0, .int .i64 k] w fun e w' => e = .returned (.bool (decide (kindR ts st = k))) ∧ ∃ O', RA w' pb ts (if kindR ts st = k then goR ts st else st) D O' ∧ Fr O w O' w' := by
  by_cases e : kindR ts st = k
  · refine (took_yes h hk ht k e).mono ?_
    rintro _ w' ⟨rfl, O', h1, h2⟩
    rw [if_pos e, decide_eq_true e]
    exact ⟨rfl, O', h1, h2⟩
  · refine (took_no h hk ht k e).mono ?_
    rintro _ w' ⟨rfl, h1, h2⟩
    rw [if_neg e, decide_eq_false e]
    exact ⟨rfl, O, h1, h2⟩

set_option maxRecDepth 100000 in
set_option maxHeartbeats 1000000 in
theorem shut_any {w : World} {pb : Nat} {ts : List TokP} {st : RS} {D O : Nat → Prop} (h : RA w pb ts st D O) (hk : Ok ts st) (ht : TsOk ts) (k : Int) :
    Calls Tryz.prog 131 #[ptr4 pb 0, .int .i64 k] w fun e w' => e = .returned (.tuple #[]) ∧ ∃ O', RA w' pb ts (shutR ts k st) D O' ∧ Fr O w O' w' := by
  have HT := hide (take_any h hk ht k)
  clear h hk ht
  go_enter Tryz.func131, Tryz.ntmps131
  go_wp2_with (go_at_call 69; refine (unhide HT).mono ?_; rintro e w2 ⟨rfl, O2, hr2, hf2⟩; obtain ⟨_, _, d1, zd1, _⟩ := hr2.cells; have HR2 := hide hr2; have HF2 := hide hf2; clear hr2 hf2)
  go_end0
  exact ⟨rfl, O2, (unhide HR2).putDepth _, (unhide HF2).setCell (Or.inl (unhide HR2).own) _⟩
set_option maxRecDepth 100000 in
set_option maxHeartbeats 1000000 in
theorem open_any {w : World} {pb : Nat} {ts : List TokP} {st : RS} {D O : Nat → Prop} (h : RA w pb ts st D O) (hk : Ok ts st) (ht : TsOk ts) (k : Int) :
    Calls Tryz.prog 130 #[ptr4 pb 0, .int .i64 k] w fun e w' => e = .returned (.tuple #[]) ∧ ∃ O', RA w' pb ts (openR ts k st) D O' ∧ Fr O w O' w' := by
  obtain ⟨_, _, d1, zd1, _⟩ := h.cells
  by_cases h8 : st.depth = 8
  · have HF := hide (fail_any h hk.next ht.n1)
    have HT := hide (fun W (hW : RA W pb ts (failR ts st) D O) => take_any hW (failR_ok hk) ht k)
    have hb : (st.depth == 8) = true := by simpa using h8
    have HQ := hide (show openR ts k st = { (takeR ts k (failR ts st)).1 with depth := wr64 ((takeR ts k (failR ts st)).1.depth + 1) } by simp [openR, h8])
    clear h hk ht h8
    go_enter Tryz.func130, Tryz.ntmps130
    go_wp2_with (first
      | (go_at_call 54; refine (unhide HF).mono ?_; rintro e w1 ⟨rfl, hr1, hf1⟩; have HR1 := hide hr1; have HF1 := hide hf1; clear hr1 hf1)
      | (go_at_call 69; refine ((unhide HT) _ (unhide HR1)).mono ?_; rintro e w2 ⟨rfl, O2, hr2, hf2⟩; obtain ⟨_, _, d2, zd2, _⟩ := hr2.cells; have HR2 := hide hr2; have HF2 := hide ((unhide HF1).trans hf2); clear hr2 hf2))
    go_end0
    exact ⟨rfl, O2, by rw [unhide HQ]; exact (unhide HR2).putDepth _, (unhide HF2).setCell (Or.inl (unhide HR2).own) _⟩
  · have HT := hide (take_any h hk ht k)
    have hb : (st.depth == 8) = false := by simpa using h8
    have HQ := hide (show openR ts k st = { (takeR ts k st).1 with depth := wr64 ((takeR ts k st).1.depth + 1) } by simp [openR, h8])
    clear h hk ht h8
    go_enter Tryz.func130, Tryz.ntmps130
    go_wp2_with (go_at_call 69; refine (unhide HT).mono ?_; rintro e w2 ⟨rfl, O2, hr2, hf2⟩; obtain ⟨_, _, d2, zd2, _⟩ := hr2.cells; have HR2 := hide hr2; have HF2 := hide hf2; clear hr2 hf2)
    go_end0
    exact ⟨rfl, O2, by rw [unhide HQ]; exact (unhide HR2).putDepth _, (unhide HF2).setCell (Or.inl (unhide HR2).own) _⟩
end Go.Proofs.YtlhhdklendeikaaGreatDoor
