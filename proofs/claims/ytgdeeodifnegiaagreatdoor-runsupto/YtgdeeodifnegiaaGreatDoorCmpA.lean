/- Compile, where all goes well (package byway); the tokens of a text are as a reader wants them. -/
import Derived.Test.YtgdeeodifnegiaaGreatDoorRdrR
namespace Go.Proofs.YtgdeeodifnegiaaGreatDoor
open Go.RowKit

/-- a policy in memory -/
def PolC (pp : Nat) (ms : List StpM) (K : Nat → Prop) (W : World) : Prop := K pp ∧ ∃ p sv, W.heap[pp]? = some (.cells #[.string p, sv] 111 (0, 0)) ∧ StepsC sv ms K W
theorem StepsC.mono {sv : Value} {ms : List StpM} {K K' : Nat → Prop} {W : World} (h : StepsC sv ms K W) (hk : ∀ k, K k → K' k) : StepsC sv ms K' W := by
  obtain ⟨h0, vs, h1, h2, h3⟩ := h
  refine ⟨h0, vs, h1, ?_, fun i v m hv hm => (h3 i v m hv hm).mono hk⟩
  rcases h2 with h2 | ⟨S, cap, e1, e2, e3⟩
  · exact Or.inl h2
  · exact Or.inr ⟨S, cap, e1, hk S e2, e3⟩
def ReadOk (s : ByteArray) (ms : List StpM) : Prop := ∀ w, TokTabs w → Calls Tryz.prog 65 #[.string s] w fun e w' => ∃ p sv, e = .returned (.tuple #[.agg #[.string p, sv], .int .i64 0, .int .i64 0]) ∧ Below w.heap.size w w' ∧ Lasts w' (fun k => w.heap.size ≤ k) (StepsC sv ms)
set_option maxRecDepth 100000 in
set_option maxHeartbeats 2000000 in
theorem compile_ok {s : ByteArray} {ms : List StpM} (hr : ReadOk s ms) (w : World) (ht : TokTabs w) :
    Calls Tryz.prog 24 #[.string s] w fun e w' => ∃ pp, e = .returned (.tuple #[ptr4 pp 0, .int .i64 0, .int .i64 0]) ∧ Below w.heap.size w w' ∧ Lasts w' (fun k => w.heap.size ≤ k) (PolC pp ms) := by
  have HR := hide (hr w ht)
  clear hr ht
  go_enter Tryz.func24, Tryz.ntmps24
  go_wp2_with fail
  refine (unhide HR).mono ?_
  rintro e w1 ⟨p, sv, rfl, hb, hl⟩
  have HB := hide hb
  have HL := hide hl
  have hf : ∃ a n c, sv = .slice a n c := by
    obtain ⟨K, h0, vs, h1, h2, _⟩ := hl.now
    rcases h2 with ⟨_, h2⟩ | ⟨S, cap, h2, _⟩
    · exact ⟨_, _, _, h2⟩
    · exact ⟨_, _, _, h2⟩
  obtain ⟨sa, sn, sc, rfl⟩ := hf
  clear hb hl HR
  go_wp2_with fail
  refine bodyPost_ret (v := .tuple #[ptr4 (w1.heap.size + 1) 0, .int .i64 0, .int .i64 0]) (by simp [results, Tryz.results24, go_sem]) rfl ⟨w1.heap.size + 1, rfl, ?_, ?_⟩
  · exact ((unhide HB).alloc (unhide HB).size _).alloc (by have := (unhide HB).size; rw [World.size_alloc]; omega) _
  · obtain ⟨n1, n2, sz⟩ := two_new w1 (.cells #[.string p, .slice sa sn sc] 109) (.cells #[.string p, .slice sa sn sc] 111)
    have h1 := ((unhide HL).mono (alloc_mono w1 (.cells #[.string p, .slice sa sn sc] 109) (fun k => w.heap.size ≤ k)).1 (alloc_mono w1 (.cells #[.string p, .slice sa sn sc] 109) (fun k => w.heap.size ≤ k)).2 (fun _ _ h => h)).mono (alloc_mono _ (.cells #[.string p, .slice sa sn sc] 111) (fun k => w.heap.size ≤ k)).1 (alloc_mono _ (.cells #[.string p, .slice sa sn sc] 111) (fun k => w.heap.size ≤ k)).2 (fun _ _ h => h)
    refine Lasts.one h1 (fun k => k = w1.heap.size + 1) (fun k hk => ⟨by omega, by have := (unhide HB).size; omega⟩) (fun K1 _ q1 W hW hk => ?_)
    exact ⟨Or.inr rfl, p, _, (hk _ (Or.inr rfl)).trans n2, (q1 W hW (fun k h => hk k (Or.inl h))).mono (fun k h => Or.inl h)⟩

theorem extract_size (s : ByteArray) (i j : Nat) : (s.extract i j).size = min j s.size - i := by simp
/-- the tokens of a text -/
theorem allGo_ok {s : ByteArray} (hs : s.size ≤ 600) : ∀ f k, k ≤ s.size → s.size + 1 ≤ f + k → 0 < (allGo s f k).length ∧ (allGo s f k).length ≤ s.size + 1 - k ∧ (∀ i (h : i < (allGo s f k).length), 2 ≤ (allGo s f k)[i].kind → i + 1 < (allGo s f k).length) ∧ (∀ i (h : i < (allGo s f k).length), (allGo s f k)[i].text.size ≤ 600)
  | 0, k, hk, hf => by omega
  | f + 1, k, hk, hf => by
    by_cases hlt : k < s.size
    · cases hb : blankB (bt s k) with
      | true =>
        have e : allGo s (f + 1) k = allGo s f (k + 1) := by rw [allGo, if_pos hlt, if_pos hb]
        rw [e]
        have ih := allGo_ok hs f (k + 1) (by omega) (by omega)
        exact ⟨ih.1, by omega, ih.2.2⟩
      | false =>
        have ht := tkAt_text hlt
        by_cases h0 : (tkAt s k).kind = 0
        · rw [allGo_bad hlt hb h0]
          refine ⟨by simp, by simp; omega, fun i h h2 => ?_, fun i h => ?_⟩
          · obtain rfl : i = 0 := by simpa using h
            simp [h0] at h2
          · obtain rfl : i = 0 := by simpa using h
            simp; omega
        · rw [allGo_step hlt hb h0]
          have ih := allGo_ok hs f (k + (tkAt s k).text.size) ht.2 (by omega)
          refine ⟨by simp, by simp; omega, fun i h h2 => ?_, fun i h => ?_⟩
          · cases i with
            | zero => simp; exact ih.1
            | succ i => have := ih.2.2.1 i (by simpa using h) (by simpa using h2); simp; omega
          · cases i with
            | zero => simp; omega
            | succ i => have := ih.2.2.2 i (by simpa using h); simpa using this
    · have e : allGo s (f + 1) k = [endTok s] := by rw [allGo, if_neg hlt]
      rw [e]
      refine ⟨by simp, by simp; omega, fun i h h2 => ?_, fun i h => ?_⟩
      · obtain rfl : i = 0 := by simpa using h
        simp [endTok] at h2
      · obtain rfl : i = 0 := by simpa using h
        show (⟨#[]⟩ : ByteArray).size ≤ 600; decide
theorem allP_ok {s : ByteArray} (hs : s.size ≤ 600) : TsOk (allP s) ∧ 0 < (allP s).length := by
  have h := allGo_ok hs (s.size + 1) 0 (by omega) (by omega)
  exact ⟨⟨by show (allGo s (s.size + 1) 0).length ≤ 601; omega, h.2.2.1, h.2.2.2⟩, h.1⟩
end Go.Proofs.YtgdeeodifnegiaaGreatDoor
