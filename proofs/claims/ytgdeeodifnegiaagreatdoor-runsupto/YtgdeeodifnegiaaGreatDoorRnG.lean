/- The document's ways: ends at what is repeated; ends, whole (run.go). -/
import Derived.Test.YtgdeeodifnegiaaGreatDoorRnF
namespace Go.Proofs.YtgdeeodifnegiaaGreatDoor.rf
open Go.RowKit

theorem seg_cut {l : List Int} {k j : Nat} {a b : List Int} (hj : j ≤ l.length) (hkj : k ≤ j) (e : (l.take j).drop k = a ++ b) : k + a.length ≤ j ∧ (l.take (k + a.length)).drop k = a ∧ (l.take j).drop (k + a.length) = b := by
  have hle := congrArg List.length e
  rw [seg_len hj, List.length_append] at hle
  have hk : k + a.length ≤ j := by omega
  have e2 := seg_cat (l := l) (i := k) (k := k + a.length) (by omega) hk hj
  rw [e] at e2
  have hla : a.length = ((l.take (k + a.length)).drop k).length := by rw [seg_len (by omega)]; omega
  obtain ⟨ea, eb⟩ := List.append_inj e2 hla
  exact ⟨hk, ea.symm, eb.symm⟩
theorem cp_of {A B : Nat → Nat → Bool} {n i k j : Nat} (hk : k < n) (h1 : A i k = true) (h2 : B k j = true) : cp A B n i j = true := by
  unfold cp
  rw [List.any_eq_true]
  exact ⟨k, List.mem_range.2 hk, by rw [h1, h2]; rfl⟩
theorem like_plus {l : List Int} {A : WayM} {E M : Nat → Nat → Bool} (hE : Like l A E) (h1 : ∀ i j, i ≤ l.length → j ≤ l.length → E i j = true → M i j = true) (h2 : ∀ i j, i ≤ l.length → j ≤ l.length → cp M E (l.length + 1) i j = true → M i j = true)
    (h3 : ∀ i j, i ≤ l.length → j ≤ l.length → M i j = true → i ≤ j ∧ PlusL A ((l.take j).drop i)) : Like l (PlusL A) M := fun i j hi hj => by
  refine ⟨h3 i j hi hj, ?_⟩
  rintro ⟨hij, hp⟩
  have one : ∀ i k j, i ≤ l.length → k ≤ j → j ≤ l.length → (i = k ∨ M i k = true) → A ((l.take j).drop k) → M i j = true := fun i k j hi hkj hj hor ha => by
    have he : E k j = true := (hE k j (by omega) hj).2 ⟨hkj, ha⟩
    rcases hor with rfl | hm
    · exact h1 i j hi hj he
    · exact h2 i j hi hj (cp_of (by omega) hm he)
  have key : ∀ p, PlusL A p → ∀ i k j, i ≤ l.length → k ≤ j → j ≤ l.length → (i = k ∨ M i k = true) → (l.take j).drop k = p → M i j = true := fun p hp => by
    induction hp with
    | one ha => intro i k j hi hkj hj hor e; exact one i k j hi hkj hj hor (by rw [e]; exact ha)
    | @more a b ha _ ih =>
      intro i k j hi hkj hj hor e
      obtain ⟨hk, ea, eb⟩ := seg_cut hj hkj e
      exact ih i (k + a.length) j hi hk hj (Or.inr (one i k (k + a.length) hi (by omega) (by omega) hor (by rw [ea]; exact ha))) eb
  exact key _ hp i i j hi hij hj (Or.inl rfl) rfl
theorem like_opt {l : List Int} {A : WayM} {M : Nat → Nat → Bool} (h : Like l A M) : Like l (optL A) (fun i j => M i j || decide (i = j)) := fun i j hi hj => by
  show (M i j || decide (i = j)) = true ↔ i ≤ j ∧ ((l.take j).drop i = [] ∨ A ((l.take j).drop i))
  rw [Bool.or_eq_true, h i j hi hj, decide_eq_true_eq]
  constructor
  · rintro (⟨a, b⟩ | rfl)
    · exact ⟨a, Or.inr b⟩
    · exact ⟨Nat.le_refl _, Or.inl (List.drop_eq_nil_of_le (by simp; omega))⟩
  · rintro ⟨a, b | b⟩
    · have := seg_len (i := i) hj
      rw [b] at this
      simp at this
      exact Or.inr (by omega)
    · exact Or.inl ⟨a, b⟩
/-- how many marks are not set -/
def cnt (n : Nat) (M : Nat → Nat → Bool) : Nat := (List.range (n * n)).countP fun q => !M (q / n) (q % n)
theorem countP_lt {α : Type} {p q : α → Bool} : ∀ {l : List α}, (∀ x ∈ l, q x = true → p x = true) → (∃ x ∈ l, p x = true ∧ q x = false) → l.countP q < l.countP p
  | [], _, h => by obtain ⟨x, hx, _⟩ := h; cases hx
  | y :: l, h1, h2 => by
    have hle : l.countP q ≤ l.countP p := List.countP_mono_left (fun x hx => h1 x (List.mem_cons_of_mem _ hx))
    rw [List.countP_cons, List.countP_cons]
    obtain ⟨x, hx, hp, hq⟩ := h2
    rcases List.mem_cons.1 hx with rfl | hx
    · rw [if_neg (by rw [hq]; simp), if_pos hp]; omega
    · have := countP_lt (fun x hx => h1 x (List.mem_cons_of_mem _ hx)) ⟨x, hx, hp, hq⟩
      have hy := h1 y List.mem_cons_self
      by_cases hyq : q y = true
      · rw [if_pos hyq, if_pos (hy hyq)]; omega
      · rw [if_neg hyq]; split <;> omega
theorem cnt_max (n : Nat) (M : Nat → Nat → Bool) : cnt n M ≤ n * n := by
  unfold cnt
  exact Nat.le_trans List.countP_le_length (by simp)
theorem cnt_le {n : Nat} {M M' : Nat → Nat → Bool} (h : ∀ a b, M a b = true → M' a b = true) : cnt n M' ≤ cnt n M := by
  unfold cnt
  refine List.countP_mono_left (fun q _ hq => ?_)
  simp only [Bool.not_eq_true'] at hq ⊢
  cases e : M (q / n) (q % n)
  · rfl
  · rw [h _ _ e] at hq; cases hq
theorem cnt_lt {n : Nat} {M M' : Nat → Nat → Bool} (h : ∀ a b, M a b = true → M' a b = true) {a b : Nat} (ha : a < n) (hb : b < n) (h1 : M a b = false) (h2 : M' a b = true) : cnt n M' < cnt n M := by
  unfold cnt
  have hn : 0 < n := by omega
  have e1 : (a * n + b) / n = a := by
    rw [Nat.mul_comm, Nat.mul_add_div hn, Nat.div_eq_of_lt hb]; omega
  have e2 : (a * n + b) % n = b := by
    rw [Nat.mul_comm, Nat.mul_add_mod]; exact Nat.mod_eq_of_lt hb
  have hlt : a * n + b < n * n := by
    have : (a + 1) * n ≤ n * n := Nat.mul_le_mul_right n ha
    rw [Nat.add_mul] at this
    omega
  refine countP_lt (fun q _ hq => ?_) ⟨a * n + b, List.mem_range.2 hlt, ?_, ?_⟩
  · simp only [Bool.not_eq_true'] at hq ⊢
    cases e : M (q / n) (q % n)
    · rfl
    · rw [h _ _ e] at hq; cases hq
  · rw [e1, e2, h1]; rfl
  · rw [e1, e2, h2]; rfl
/-- what holds of the marks while a part is gone through again and again -/
structure Rep (l : List Int) (A C : WayM) (E : Nat → Nat → Bool) (more : Bool) (M : Nat → Nat → Bool) : Prop where
  one : ∀ i j, i ≤ l.length → j ≤ l.length → E i j = true → M i j = true
  plus : ∀ i j, i ≤ l.length → j ≤ l.length → M i j = true → i ≤ j ∧ PlusL A ((l.take j).drop i)
  done : more = false → Like l C M
theorem Rep.start {l : List Int} {A : WayM} {E : Nat → Nat → Bool} {q : Bool} (hE : Like l A E) : Rep l A (if q = true then A else PlusL A) E (!q) (fun i j => false || E i j) := by
  refine ⟨fun i j _ _ h => by simpa using h, fun i j hi hj h => ?_, fun h => ?_⟩
  · have h' : E i j = true := by simpa using h
    obtain ⟨h1, h2⟩ := (hE i j hi hj).1 h'
    exact ⟨h1, .one h2⟩
  · cases q
    · cases h
    · rw [if_pos rfl]
      intro i j hi hj
      show (false || E i j) = true ↔ _
      rw [Bool.false_or]
      exact hE i j hi hj
theorem Rep.round {l : List Int} {A : WayM} {E M : Nat → Nat → Bool} {m x : Bool} (hE : Like l A E) (h : Rep l A (PlusL A) E m M) (hx : x = true ↔ ∃ a b, a < l.length + 1 ∧ b < l.length + 1 ∧ cp M E (l.length + 1) a b = true ∧ M a b = false) :
    Rep l A (PlusL A) E x (fun i j => M i j || cp M E (l.length + 1) i j) := by
  have snd : ∀ i j, i ≤ l.length → j ≤ l.length → cp M E (l.length + 1) i j = true → i ≤ j ∧ PlusL A ((l.take j).drop i) := fun i j hi hj hc => by
    unfold cp at hc
    rw [List.any_eq_true] at hc
    obtain ⟨k, hk, hc⟩ := hc
    have hk' : k ≤ l.length := by have := List.mem_range.1 hk; omega
    rw [Bool.and_eq_true] at hc
    obtain ⟨h1, h2⟩ := h.plus i k hi hk' hc.1
    obtain ⟨h3, h4⟩ := (hE k j hk' hj).1 hc.2
    exact ⟨by omega, by rw [seg_cat h1 h3 hj]; exact h2.snoc h4⟩
  have pl : ∀ i j, i ≤ l.length → j ≤ l.length → (M i j || cp M E (l.length + 1) i j) = true → i ≤ j ∧ PlusL A ((l.take j).drop i) := fun i j hi hj hc => by
    rcases Bool.or_eq_true_iff.1 hc with hc | hc
    · exact h.plus i j hi hj hc
    · exact snd i j hi hj hc
  refine ⟨fun i j hi hj he => by show (M i j || _) = true; rw [h.one i j hi hj he]; rfl, pl, fun h0 => ?_⟩
  have cl : ∀ i j, i ≤ l.length → j ≤ l.length → cp M E (l.length + 1) i j = true → M i j = true := fun i j hi hj hc => by
    cases e : M i j
    · have : x = true := hx.2 ⟨i, j, by omega, by omega, hc, e⟩
      rw [h0] at this; cases this
    · rfl
  have hp := like_plus hE h.one cl h.plus
  intro i j hi hj
  rw [← hp i j hi hj]
  show (M i j || cp M E (l.length + 1) i j) = true ↔ M i j = true
  constructor
  · intro hh
    rcases Bool.or_eq_true_iff.1 hh with hh | hh
    · exact hh
    · exact cl i j hi hj hh
  · intro hh; rw [hh]; rfl
set_option maxRecDepth 100000 in
set_option maxHeartbeats 6400000 in
theorem ends_rep {x : Tr} {A B : WayM} (IX : EndsR x A) (op : ByteArray) (q p : Bool) (hop : (op = wStar ∧ q = false ∧ p = false) ∨ (op = wPlus ∧ q = false ∧ p = true) ∨ (op = wQuest ∧ q = true ∧ p = false)) (hB : B = if p = true then (if q = true then A else PlusL A) else optL (if q = true then A else PlusL A)) : EndsR (.mk op nB 0 0 [x]) B := by
  intro w Q v l pv ht ho hl
  have e0 : (op.toList == [110, 117, 109, 98, 101, 114]) = false := by rcases hop with ⟨rfl, _⟩ | ⟨rfl, _⟩ | ⟨rfl, _⟩ <;> decide +kernel
  have e1 : (op.toList == [46]) = false := by rcases hop with ⟨rfl, _⟩ | ⟨rfl, _⟩ | ⟨rfl, _⟩ <;> decide +kernel
  have e2 : (op.toList == [101, 105, 116, 104, 101, 114]) = false := by rcases hop with ⟨rfl, _⟩ | ⟨rfl, _⟩ | ⟨rfl, _⟩ <;> decide +kernel
  have e3 : (op.toList == [114, 111, 119]) = false := by rcases hop with ⟨rfl, _⟩ | ⟨rfl, _⟩ | ⟨rfl, _⟩ <;> decide +kernel
  have e4 : (op.toList == [63]) = q := by rcases hop with ⟨rfl, rfl, _⟩ | ⟨rfl, rfl, _⟩ | ⟨rfl, rfl, _⟩ <;> decide +kernel
  have e5 : (op.toList == [43]) = p := by rcases hop with ⟨rfl, _, rfl⟩ | ⟨rfl, _, rfl⟩ | ⟨rfl, _, rfl⟩ <;> decide +kernel
  obtain ⟨kv, g, rfl, hk⟩ := ht.kids (by simp)
  obtain ⟨cap, hkv⟩ := hk.sl
  obtain rfl : kv = .slice (some ⟨g, 0, none⟩) 1 cap := by simpa using hkv
  obtain ⟨po, pc, rfl⟩ := owns_sl ho
  have hA : Below w.heap.size w (w.alloc (.cells (treeCells op nB 0 0 (.slice (some ⟨g, 0, none⟩) 1 cap)) 115)) := (Below.refl _ _).alloc (Nat.le_refl _) _
  have q0 : (w.alloc (.cells (treeCells op nB 0 0 (.slice (some ⟨g, 0, none⟩) 1 cap)) 115)).heap[w.heap.size]? = some (.cells (treeCells op nB 0 0 (.slice (some ⟨g, 0, none⟩) 1 cap)) 115 (0, 0)) := heap_alloc_new _ _
  obtain ⟨WA, hWA⟩ : ∃ WA, w.alloc (.cells (treeCells op nB 0 0 (.slice (some ⟨g, 0, none⟩) 1 cap)) 115) = WA := ⟨_, rfl⟩
  have HWA := hide hWA
  rw [hWA] at hA q0
  have lA : w.heap.size < WA.heap.size := heap_lt q0
  have HA := hide hA
  have Q0 := hide q0
  have HO := hide ho
  have HIX := hide IX
  have HK := hide hk
  have HBB := hide hB
  clear hWA hA q0 ho hop IX ht hk hkv hB
  go_enter Tryz.func195, Tryz.ntmps195
  go_upto_region 1 with fail
  rw [unhide HWA]
  go_wp2_with fail
  rw [show ((l.length : Int) + 1) = ((l.length + 1 : Nat) : Int) from by omega]
  refine (nowhere_any WA (l.length + 1) (by omega)).mono ?_
  rintro e w1 ⟨z, bs, rfl, hb1, hbl, hg1⟩
  obtain ⟨zo, zc, rfl⟩ := owns_sl hg1.own
  rw [hbl] at hg1 ⊢
  have c0 : w1.cell? ⟨w.heap.size, 0, none⟩ = some (.string op) := (hb1.cell (p := ⟨w.heap.size, 0, none⟩) lA).trans (cell_of_heap (unhide Q0))
  have c4 : w1.cell? ⟨w.heap.size, 4, none⟩ = some (.slice (some ⟨g, 0, none⟩) 1 cap) := (hb1.cell (p := ⟨w.heap.size, 4, none⟩) lA).trans (cell_of_heap (unhide Q0))
  have hw1 := (unhide HA).trans (hb1.mono (unhide HA).size)
  obtain ⟨a0, a1, a2, a3, a4, y0, y1, y2, y3, y4, tk⟩ := ((unhide HK).below hw1).at_ 0 (by simp)
  have lg := ((unhide HK).below hw1).lt
  have CALL := hide (unhide HIX w1 _ _ l _ tk (owns_of (unhide HO) (fun k hk => hw1.block k ((unhide HO).lt k hk).2)) hl)
  have HB1 := hide hb1
  have HG1 := hide hg1
  have l1 : w.heap.size < w1.heap.size := Nat.lt_of_lt_of_le lA hb1.size
  simp only [Nat.zero_mul, Nat.zero_add] at y0 y1 y2 y3 y4
  clear hb1 hg1 hw1 tk HIX HK
  go_wp2_with fail
  refine (unhide CALL).mono ?_
  rintro e w2 ⟨u, cs, E, rfl, hb2, hcl, hg2, hE⟩
  obtain ⟨uo, uc, rfl⟩ := owns_sl hg2.own
  rw [hcl] at hg2 ⊢
  have hgo := (unhide HG1).later hb2
  have hd := (unhide HG1).apart hg2
  have MC := hide (merge_any hgo hg2 hbl hcl (by omega) hd)
  have HB2 := hide ((unhide HB1).trans (hb2.mono (unhide HB1).size))
  have HG2 := hide hgo
  have HD := hide hd
  have HE := hide hE
  have HL1 := hide (unhide HB1).size
  clear hb2 hg2 hgo hd hE CALL y0 y1 y2 y3 y4 c0 c4 HB1 HG1 lg l1
  go_wp2_with fail
  refine (unhide MC).mono ?_
  rintro e w3 ⟨x0, rfl, _, hg3, hgu, hf3⟩
  have hb3 := below_in (unhide HB2) (unhide HG2) hf3
  have c0 : w3.cell? ⟨w.heap.size, 0, none⟩ = some (.string op) := (hb3.cell (p := ⟨w.heap.size, 0, none⟩) lA).trans (cell_of_heap (unhide Q0))
  have l3 : w.heap.size < w3.heap.size := Nat.lt_of_lt_of_le lA hb3.size
  have HB3 := hide hb3
  have HG3 := hide hg3
  have HGU := hide (hgu.lower (unhide HL1))
  have RP := hide (Rep.start (q := q) (unhide HE))
  clear hg3 hgu hf3 hb3 MC HB2 HG2
  go_wp2_with fail
  go_loopg [12] ((l.length + 1) * (l.length + 1) + 1) (fun k b12 wr => ∃ (more : Bool) (M : Nat → Nat → Bool), cnt (l.length + 1) M + (if more = true then 1 else 0) ≤ k ∧ (q = true → more = false) ∧ b12 = .bool more ∧ Below WA.heap.size WA wr ∧ Grid wr WA.heap.size (l.length + 1) (.slice zo (l.length + 1) zc) bs M ∧ Grid wr WA.heap.size (l.length + 1) (.slice uo (l.length + 1) uc) cs E ∧ Rep l A (if q = true then A else PlusL A) E more M)
  case atStart => exact ⟨!q, _, by have := cnt_max (l.length + 1) (fun i j => false || E i j); split <;> omega, fun h => by rw [h]; rfl, rfl, unhide HB3, unhide HG3, unhide HGU, unhide RP⟩
  case round =>
    clear HB3 HG3 HGU RP c0 l3
    obtain ⟨more, M, hcnt, hq, rfl, hb, hg, hgu, hr⟩ := hrel
    have HB := hide hb
    have HG := hide hg
    have HGU := hide hgu
    have HR := hide hr
    cases more
    · have c0 : wr.cell? ⟨w.heap.size, 0, none⟩ = some (.string op) := (hb.cell (p := ⟨w.heap.size, 0, none⟩) lA).trans (cell_of_heap (unhide Q0))
      have lw : w.heap.size < wr.heap.size := Nat.lt_of_lt_of_le lA hb.size
      have hw := (unhide HA).trans (hb.mono (unhide HA).size)
      have HW := hide hw
      have SC := hide (stay_any hg hbl (by omega))
      clear hb hg hgu hr hw hq hcnt
      cases p
      · go_wp2_with fail
        refine (unhide SC).mono ?_
        rintro e w4 ⟨rfl, hgs, hfs⟩
        have FIN := hide (show Below w.heap.size w w4 ∧ Grid w4 w.heap.size (l.length + 1) (.slice zo (l.length + 1) zc) bs (fun i j => M i j || decide (i = j)) ∧ Like l B (fun i j => M i j || decide (i = j)) from ⟨(unhide HA).trans ((below_in (unhide HB) (unhide HG) hfs).mono (unhide HA).size), hgs.lower (unhide HA).size, by rw [unhide HBB, if_neg (by decide)]; exact like_opt ((unhide HR).done rfl)⟩)
        clear hgs hfs SC
        go_wp2_with fail
        go_ret
        exact ⟨_, bs, _, rfl, (unhide FIN).1, hbl, (unhide FIN).2.1, (unhide FIN).2.2⟩
      · have FIN := hide (show Grid wr w.heap.size (l.length + 1) (.slice zo (l.length + 1) zc) bs M ∧ Like l B M from ⟨(unhide HG).lower (unhide HA).size, by rw [unhide HBB, if_pos rfl]; exact (unhide HR).done rfl⟩)
        clear SC
        go_wp2_with fail
        go_ret
        exact ⟨_, bs, _, rfl, unhide HW, hbl, (unhide FIN).1, (unhide FIN).2⟩
    · obtain rfl : q = false := by
        cases q
        · rfl
        · exact absurd (hq rfl) (by decide)
      rw [if_pos rfl] at hcnt
      have OC := hide (onward_any hg hgu hbl hcl (by omega))
      have HCN := hide hcnt
      clear hb hg hgu hr hq hcnt
      go_wp2_with fail
      refine (unhide OC).mono ?_
      rintro e w4 ⟨z4, ds, rfl, hb4, hdl, hg4⟩
      obtain ⟨yo, yc, rfl⟩ := owns_sl hg4.own
      rw [hdl] at hg4 ⊢
      have hgo := (unhide HG).later hb4
      have MC := hide (merge_any hgo hg4 hbl hdl (by omega) ((unhide HG).apart hg4))
      have HB4 := hide ((unhide HB).trans (hb4.mono (unhide HB).size))
      have HG4 := hide hgo
      have HU4 := hide ((unhide HGU).later hb4)
      clear hb4 hg4 hgo OC
      go_wp2_with fail
      refine (unhide MC).mono ?_
      rintro e w5 ⟨x, rfl, hx, hg5, _, hf5⟩
      have FIN := hide (show Below WA.heap.size WA w5 ∧ Grid w5 WA.heap.size (l.length + 1) (.slice uo (l.length + 1) uc) cs E ∧ Rep l A (if false = true then A else PlusL A) E x (fun i j => M i j || cp M E (l.length + 1) i j) ∧ cnt (l.length + 1) (fun i j => M i j || cp M E (l.length + 1) i j) + (if x = true then 1 else 0) ≤ gk - 1 ∧ gk - 1 < gk from by
        have hc := unhide HCN
        refine ⟨below_in (unhide HB4) (unhide HG4) hf5, (unhide HU4).keep (fun k hk hh => hf5.block k hk (fun hm => ?_)), by rw [if_neg (by decide)]; exact Rep.round (unhide HE) (by have h := unhide HR; rw [if_neg (by decide)] at h; exact h) hx, ?_, by omega⟩
        · rcases hh with e | e
          · exact (unhide HD k hm).2 e
          · exact (unhide HD k hm).1 e
        · cases x
          · have := cnt_le (n := l.length + 1) (M := M) (M' := fun i j => M i j || cp M E (l.length + 1) i j) (fun a b h => by show (M a b || _) = true; rw [h]; rfl)
            rw [if_neg (by decide)]; omega
          · obtain ⟨a, b, ha, hb, h1, h2⟩ := hx.1 rfl
            have := cnt_lt (n := l.length + 1) (M := M) (M' := fun i j => M i j || cp M E (l.length + 1) i j) (fun a b h => by show (M a b || _) = true; rw [h]; rfl) ha hb h2 (by show (M a b || cp M E (l.length + 1) a b) = true; rw [h1, Bool.or_true])
            rw [if_pos rfl]; omega)
      have HG5 := hide hg5
      clear hg5 hf5 hx MC
      go_wp2_with fail
      go_roundg (gk - 1)
      case measure => exact (unhide FIN).2.2.2.2
      case rel => exact ⟨x, _, (unhide FIN).2.2.2.1, fun h => (by cases h), rfl, (unhide FIN).1, unhide HG5, (unhide FIN).2.1, (unhide FIN).2.2.1⟩
mutual
/-- ends, of every way -/
theorem ends_run : ∀ {t : Tr} {A : WayM}, WayT t A → EndsR t A
  | _, _, .num n a => ends_leaf _ n a _ false (Or.inl ⟨rfl, rfl, rfl⟩)
  | _, _, .dot => ends_leaf _ 0 0 _ true (Or.inr ⟨rfl, rfl, rfl⟩)
  | _, _, .either h => ends_either h.len (ends_runs h)
  | _, _, .row h => ends_row h.len (ends_runs h)
  | _, _, .star h => ends_rep (ends_run h) _ false false (Or.inl ⟨rfl, rfl, rfl⟩) rfl
  | _, _, .plus h => ends_rep (ends_run h) _ false true (Or.inr (Or.inl ⟨rfl, rfl, rfl⟩)) rfl
  | _, _, .quest h => ends_rep (ends_run h) _ true false (Or.inr (Or.inr ⟨rfl, rfl, rfl⟩)) rfl
theorem ends_runs : ∀ {ks : List Tr} {ms : List WayM}, WaysT ks ms → ∀ i, (h : i < ks.length) → (h' : i < ms.length) → EndsR ks[i] ms[i]
  | _, _, .cons a _, 0, _, _ => ends_run a
  | _, _, .cons _ b, i + 1, h, h' => ends_runs b i (by simpa using h) (by simpa using h')
end
end Go.Proofs.YtgdeeodifnegiaaGreatDoor.rf
