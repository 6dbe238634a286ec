/- The reference's sum, out of term's contract. -/
import Derived.Test.YtgdeeodifnegiaaGreatDoorRefI
namespace Go.Proofs.YtgdeeodifnegiaaGreatDoor.rf
open Go.RowKit

theorem TrAt.pair {w : World} {Q : Nat → Prop} {S : Nat} {op : ByteArray} {t x : Tr} {a0 a1 a2 a3 a4 b0 b1 b2 b3 b4 : Value} (ht : TrAt w Q t (.agg #[a0, a1, a2, a3, a4])) (hx : TrAt w Q x (.agg #[b0, b1, b2, b3, b4]))
    (hS : w.heap[S]? = some (.cells #[a0, a1, a2, a3, a4, b0, b1, b2, b3, b4] 115 (0, 0))) (hq : ¬ Q S) : TrAt w Q (.mk op ⟨#[]⟩ 0 0 [t, x]) (treeV op ⟨#[]⟩ 0 0 (.slice (some ⟨S, 0, none⟩) 2 2)) := by
  rw [TrAt]
  refine ⟨_, [a0, a1, a2, a3, a4, b0, b1, b2, b3, b4], rfl, ⟨rfl, Or.inr ⟨S, 2, _, rfl, Nat.zero_le _, hS, Nat.le_refl 2, by decide, rfl, rfl⟩⟩, ?_, ?_⟩
  · intro k hk
    obtain rfl : S = k := by simpa [Value.ownBlock] using hk
    exact hq
  · rw [AllTr]
    refine ⟨_, _, _, _, _, _, rfl, ht, ?_⟩
    rw [AllTr]
    exact ⟨_, _, _, _, _, _, rfl, hx, by rw [AllTr]⟩

theorem sumLp_pos {s : ByteArray} {k : Nat} {st : PS} {t : Tr} {r : PS × Tr} (h : sumLp s k st t = some r) : ∃ g, k = g + 1 := by
  cases k with
  | zero => rw [sumLp] at h; cases h
  | succ g => exact ⟨g, rfl⟩
theorem sumLp_stop {s : ByteArray} {g : Nat} {st : PS} {t : Tr} {r : PS × Tr} (h : sumLp s (g + 1) st t = some r) (h1 : isP st wPlus = false) (h2 : isP st wMinus = false) : r = (st, t) := by
  rw [sumLp, if_neg (by simp [h1, h2])] at h
  exact (Option.some.inj h).symm
theorem sumLp_more {s : ByteArray} {g : Nat} {st : PS} {t : Tr} {r : PS × Tr} (h : sumLp s (g + 1) st t = some r) (h1 : (isP st wPlus || isP st wMinus) = true) :
    ∃ st2 x, termTw s g (takeP s st) = some (st2, x) ∧ sumLp s g st2 (.mk st.next.text ⟨#[]⟩ 0 0 [t, x]) = some r := by
  rw [sumLp, if_pos h1] at h
  cases ht : termTw s g (takeP s st) with
  | none => rw [ht] at h; cases h
  | some p => rw [ht] at h; exact ⟨p.1, p.2, rfl, h⟩

/-- the world behind 't = Tree{op: op, kids: []Tree{t, x}}' -/
def sumW (w : World) (B : Nat) (op' text' : ByteArray) (n' a' : Int) (k' : Value) (xop xtext : ByteArray) (xn xa : Int) (xk : Value) (op : ByteArray) : World :=
  ((((((w.setCell ⟨B, 0, none⟩ (.string op)).setCell ⟨B, 1, none⟩ (.string ⟨#[]⟩)).setCell ⟨B, 2, none⟩ (.int .i64 0)).setCell ⟨B, 3, none⟩ (.int .i64 0)).setCell ⟨B, 4, none⟩ (.slice (some ⟨w.heap.size + 1, 0, none⟩) 2 2)).alloc
    (.cells (treeCells xop xtext xn xa xk) 115)).alloc (.cells #[.string op', .string text', .int .i64 n', .int .i64 a', k', .string xop, .string xtext, .int .i64 xn, .int .i64 xa, xk] 115)

theorem sum_round {w wr w2 w3 : World} {pb B : Nat} {s : ByteArray} {s2 : PS} {O Ou O2 O3 : Nat → Prop} {tu x : Tr} {op' text' xop xtext op : ByteArray} {n' a' xn xa : Int} {k' xk : Value}
    (HF : Fr O w Ou wr) (F2 : Fr Ou wr O2 w2) (F3 : Fr O2 w2 O3 w3) (H3 : PA w3 pb s s2 O3) (Q0 : wr.heap[w.heap.size]? = some (.cells treeZ 115 (0, 0))) (Q1 : wr.heap[B]? = some (.cells (treeCells op' text' n' a' k') 115 (0, 0)))
    (NA : ¬ Ou w.heap.size) (NB : ¬ Ou B) (hB : w.heap.size < B) (TU : TrAt wr (fun k => Ou k ∨ k ≤ w.heap.size ∨ k = B) tu (treeV op' text' n' a' k')) (T3 : TrAt w3 (fun k => O3 k ∨ k < w2.heap.size) x (treeV xop xtext xn xa xk)) :
    PA (sumW w3 B op' text' n' a' k' xop xtext xn xa xk op) pb s s2 O3 ∧ Fr O w O3 (sumW w3 B op' text' n' a' k' xop xtext xn xa xk op)
    ∧ (sumW w3 B op' text' n' a' k' xop xtext xn xa xk op).heap[w.heap.size]? = some (.cells treeZ 115 (0, 0))
    ∧ (sumW w3 B op' text' n' a' k' xop xtext xn xa xk op).heap[B]? = some (.cells (treeCells op ⟨#[]⟩ 0 0 (.slice (some ⟨w3.heap.size + 1, 0, none⟩) 2 2)) 115 (0, 0))
    ∧ ¬ O3 w.heap.size ∧ ¬ O3 B
    ∧ TrAt (sumW w3 B op' text' n' a' k' xop xtext xn xa xk op) (fun k => O3 k ∨ k ≤ w.heap.size ∨ k = B) (.mk op ⟨#[]⟩ 0 0 [tu, x]) (treeV op ⟨#[]⟩ 0 0 (.slice (some ⟨w3.heap.size + 1, 0, none⟩) 2 2)) := by
  have F := F2.trans F3
  have lB : B < wr.heap.size := heap_lt Q1
  have lR : w.heap.size < wr.heap.size := heap_lt Q0
  have l2 : wr.heap.size ≤ w2.heap.size := F2.size
  have l3 : w2.heap.size ≤ w3.heap.size := F3.size
  have q0 := (F.block _ lR NA).trans Q0
  have q1 := (F.block _ lB NB).trans Q1
  have na : ¬ O3 w.heap.size := fun h => by rcases F.own _ h with h | h; exact NA h; omega
  have nb : ¬ O3 B := fun h => by rcases F.own _ h with h | h; exact NB h; omega
  have hHN : Hid (¬ O3 B) := nb
  -- the stores alone
  obtain ⟨W, hW⟩ : ∃ W, ((((w3.setCell ⟨B, 0, none⟩ (.string op)).setCell ⟨B, 1, none⟩ (.string ⟨#[]⟩)).setCell ⟨B, 2, none⟩ (.int .i64 0)).setCell ⟨B, 3, none⟩ (.int .i64 0)).setCell ⟨B, 4, none⟩ (.slice (some ⟨w3.heap.size + 1, 0, none⟩) 2 2) = W := ⟨_, rfl⟩
  have pW : PA W pb s s2 O3 := by rw [← hW]; exact ((((H3.other nb _ _).other nb _ _).other nb _ _).other nb _ _).other nb _ _
  have sW : W.heap.size = w3.heap.size := by rw [← hW]; simp [World.setCell]
  have bW : W.heap[B]? = some (.cells (treeCells op ⟨#[]⟩ 0 0 (.slice (some ⟨w3.heap.size + 1, 0, none⟩) 2 2)) 115 (0, 0)) := by
    rw [← hW, heap_set (heap_set (heap_set (heap_set (heap_set q1))))]; rfl
  have oW : ∀ k, k ≠ B → W.heap[k]? = w3.heap[k]? := fun k hk => by
    rw [← hW, heap_set_other hk, heap_set_other hk, heap_set_other hk, heap_set_other hk, heap_set_other hk]
  have fW : Fr (fun k => O3 k ∨ k = B) w3 (fun k => O3 k ∨ k = B) W := by
    rw [← hW]
    have f0 : Fr (fun k => O3 k ∨ k = B) w3 (fun k => O3 k ∨ k = B) w3 := (Fr.refl O3 w3).join (fun k => k = B)
    exact ((((f0.setCell (Or.inl (Or.inr rfl)) _).setCell (Or.inl (Or.inr rfl)) _).setCell (Or.inl (Or.inr rfl)) _).setCell (Or.inl (Or.inr rfl)) _).setCell (Or.inl (Or.inr rfl)) _
  have gW : Fr O w O3 W := by
    rw [← hW]
    have hB' : w.heap.size ≤ B := by omega
    exact (((((HF.trans F).setCell (Or.inr hB') _).setCell (Or.inr hB') _).setCell (Or.inr hB') _).setCell (Or.inr hB') _).setCell (Or.inr hB') _
  have e : sumW w3 B op' text' n' a' k' xop xtext xn xa xk op = (W.alloc (.cells (treeCells xop xtext xn xa xk) 115)).alloc (.cells #[.string op', .string text', .int .i64 n', .int .i64 a', k', .string xop, .string xtext, .int .i64 xn, .int .i64 xa, xk] 115) := by
    unfold sumW; rw [hW]
  rw [e]
  have aW : ∀ k, k < W.heap.size → ((W.alloc (.cells (treeCells xop xtext xn xa xk) 115)).alloc (.cells #[.string op', .string text', .int .i64 n', .int .i64 a', k', .string xop, .string xtext, .int .i64 xn, .int .i64 xa, xk] 115)).heap[k]? = W.heap[k]? := fun k hk => by
    rw [Below.heap_alloc _ _ _ (by simp; omega), Below.heap_alloc _ _ _ hk]
  refine ⟨(pW.alloc _).alloc _, (gW.alloc _).alloc _, ?_, ?_, na, nb, ?_⟩
  · rw [aW _ (by omega), oW _ (by omega)]; exact q0
  · rw [aW _ (by omega)]; exact bW
  · have fF : Fr (fun k => O3 k ∨ k = B) w3 (fun k => O3 k ∨ k = B) ((W.alloc (.cells (treeCells xop xtext xn xa xk) 115)).alloc (.cells #[.string op', .string text', .int .i64 n', .int .i64 a', k', .string xop, .string xtext, .int .i64 xn, .int .i64 xa, xk] 115)) := (fW.alloc _).alloc _
    refine TrAt.pair (a0 := .string op') (a1 := .string text') (a2 := .int .i64 n') (a3 := .int .i64 a') (a4 := k') (b0 := .string xop) (b1 := .string xtext) (b2 := .int .i64 xn) (b3 := .int .i64 xa) (b4 := xk) ?_ ?_ ?_ ?_
    · refine TrAt.step ((F.join (fun k => k = B)).trans fF) (fun k hk => ?_) (fun k hk => ?_) tu _ TU
      · rcases hk with h | h
        · exact Or.inl h
        · exact Or.inr (Or.inr h)
      · rcases hk with h | h | h
        · rcases F.own k h with h1 | h1
          · exact Or.inl (Or.inl h1)
          · exact Or.inr h1
        · exact Or.inl (Or.inr (Or.inl h))
        · exact Or.inl (Or.inr (Or.inr h))
    · refine TrAt.step fF (fun k hk => ?_) (fun k hk => ?_) x _ T3
      · rcases hk with h | h
        · exact Or.inl h
        · exact Or.inr (by omega)
      · rcases hk with h | h | h
        · exact Or.inl (Or.inl h)
        · exact Or.inl (Or.inr (by omega))
        · exact Or.inl (Or.inr (by omega))
    · rw [show w3.heap.size + 1 = (W.alloc (.cells (treeCells xop xtext xn xa xk) 115)).heap.size by simp [sW]]
      exact heap_alloc_new _ _
    · rintro (h | h | h)
      · have := H3.lt h; omega
      · omega
      · omega

set_option maxRecDepth 100000 in
set_option maxHeartbeats 3200000 in
theorem sum_any (pb : Nat) (s : ByteArray) (f : Nat) (IH : ∀ g, g ≤ f → TermC pb s g) : SumC pb s (f + 1) := by
  intro w st O r h hk hr
  rw [sumTw] at hr
  cases ht : termTw s f st with
  | none => rw [ht] at hr; cases hr
  | some p =>
    obtain ⟨st1, t⟩ := p
    rw [ht] at hr
    have lp : pb < w.heap.size := h.lt h.own
    have N0 := hide (show ¬ O w.heap.size from fun hk => by have := h.lt hk; omega)
    have HR := hide (h.alloc (.cells treeZ 115))
    have K := hide hk
    have HT := hide ht
    have HL := hide (show sumLp s f st1 t = some r from hr)
    have HIH := hide IH
    clear h hk ht hr IH
    go_enter Tryz.func123, Tryz.ntmps123
    go_wp2_with fail
    refine (unhide HIH f (Nat.le_refl _) _ _ _ _ (unhide HR) (unhide K) (unhide HT)).mono ?_
    rintro e w1 ⟨v, O1, rfl, hp1, hf1, ht1, hk1⟩
    obtain ⟨op, text, n, a, o, c, l, rfl⟩ := ht1.form
    have H1 := hide (hp1.alloc (.cells (treeCells op text n a (.slice o c l)) 115))
    have N1 := hide (show ¬ O1 w1.heap.size from fun hk => by have := hp1.lt hk; omega)
    have F1 := hide ((((Fr.refl O w).alloc (.cells treeZ 115)).trans hf1).alloc (.cells (treeCells op text n a (.slice o c l)) 115))
    have hlt : w.heap.size < w1.heap.size := by have := hf1.size; simp at this; omega
    have Q1 := hide (show (w1.alloc (.cells (treeCells op text n a (.slice o c l)) 115)).heap[w.heap.size]? = some (.cells treeZ 115 (0, 0)) by rw [Below.heap_alloc _ _ _ hlt]; exact (hf1.block w.heap.size (by simp) (unhide N0)).trans (heap_alloc_new w _))
    have N2 := hide (show ¬ O1 w.heap.size from fun hk => by
      rcases hf1.own _ hk with h | h
      · exact unhide N0 h
      · simp at h; omega)
    have T1 := hide (show TrAt (w1.alloc (.cells (treeCells op text n a (.slice o c l)) 115)) (fun k => O1 k ∨ k ≤ w.heap.size ∨ k = w1.heap.size) t (treeV op text n a (.slice o c l)) from by
      refine TrAt.step ((Fr.refl O1 w1).alloc _) (fun k hk => Or.inl hk) (fun k hk => ?_) t _ ht1
      rcases hk with h | h | h
      · exact Or.inl (Or.inl h)
      · exact Or.inl (Or.inr (by simp; omega))
      · exact Or.inr (by omega))
    have K1 := hide hk1
    clear hp1 hf1 ht1 hk1 HT HR
    go_wp2_with fail
    refine ((unhide H1).is _).mono ?_
    rintro e w0 ⟨rfl, rfl⟩
    go_wp2_with fail
    refine ((unhide H1).is _).mono ?_
    rintro e w0 ⟨rfl, rfl⟩
    go_wp2_with fail
    go_loopg [4, 5] f (fun k b4 b5 wr => ∃ (st1 : PS) (t : Tr) (O1 : Nat → Prop) (op text : ByteArray) (n a : Int) (o : Option Addr) (c l : Nat), b4 = .bool (isP st1 wPlus) ∧ b5 = .bool (isP st1 wMinus) ∧ k ≤ f ∧ PA wr pb s st1 O1 ∧ Ok s st1 ∧ Fr O w O1 wr ∧ wr.heap[w.heap.size]? = some (.cells treeZ 115 (0, 0)) ∧ wr.heap[w1.heap.size]? = some (.cells (treeCells op text n a (.slice o c l)) 115 (0, 0)) ∧ ¬ O1 w.heap.size ∧ ¬ O1 w1.heap.size ∧ TrAt wr (fun k => O1 k ∨ k ≤ w.heap.size ∨ k = w1.heap.size) t (treeV op text n a (.slice o c l)) ∧ sumLp s k st1 t = some r)
    case atStart => exact ⟨st1, t, O1, op, text, n, a, o, c, l, rfl, rfl, Nat.le_refl _, unhide H1, unhide K1, unhide F1, unhide Q1, heap_alloc_new _ _, unhide N2, unhide N1, unhide T1, unhide HL⟩
    case round =>
      clear H1 K1 F1 Q1 N2 N1 T1 HL
      obtain ⟨su, tu, Ou, op', text', n', a', o', c', l', rfl, rfl, hkf, hp, hk, hf, q0, q1, n0, n1, htu, hl⟩ := hrel
      obtain ⟨g, rfl⟩ := sumLp_pos hl
      have HP := hide hp
      have HK := hide hk
      have HF := hide hf
      have Q0 := hide q0
      have Q1 := hide q1
      have NA := hide n0
      have NB := hide n1
      have TU := hide htu
      have hzB' : w1.heap.size < wr.heap.size := heap_lt q1
      by_cases hc : (isP su wPlus || isP su wMinus) = true
      · obtain ⟨s2, x, htm, hl2⟩ := sumLp_more hl hc
        have HTM := hide htm
        have HL2 := hide hl2
        have hor : isP su wPlus = true ∨ (isP su wPlus = false ∧ isP su wMinus = true) := by
          cases h1 : isP su wPlus <;> simp_all
        have hfl := field_text su.next
        clear hp hk hf q0 q1 n0 n1 htu hl hc htm hl2
        rcases hor with h1 | ⟨h1, h2⟩
        all_goals
          go_wp2_with fail
          refine (take_any (unhide HP) (unhide HK)).mono ?_
          rintro e w2 ⟨rfl, O2, hp2, hf2⟩
          have H2 := hide hp2
          have F2 := hide hf2
          have hz2 : w1.heap.size < w2.heap.size := by have := hf2.size; omega
          clear hp2 hf2
          go_wp2_with fail
          refine (unhide HIH g (by omega) _ _ _ _ (unhide H2) (unhide HK).take (unhide HTM)).mono ?_
          rintro e w3 ⟨v, O3, rfl, hp3, hf3, ht3, hk3⟩
          obtain ⟨xop, xtext, xn, xa, xo, xc, xl, rfl⟩ := ht3.form
          have F3 := hide ((unhide F2).trans hf3)
          have qB := ((unhide F3).block w1.heap.size hzB' (unhide NB)).trans (unhide Q1)
          obtain ⟨s0, s1, s2', s3, s4⟩ := cells5 qB
          have zB : ∀ ob, w3.frozen? ⟨w1.heap.size, ob, none⟩ = false := fun ob => frozen_of_heap qB
          have hzB : w1.heap.size < w3.heap.size := heap_lt qB
          have H3 := hide hp3
          have F3b := hide hf3
          have T3 := hide ht3
          have K3 := hide hk3
          have QB := hide qB
          clear hp3 hf3 ht3 hk3 qB
          go_wp2_with fail
          have FIN := hide (sum_round (op := su.next.text) (unhide HF) (unhide F2) (unhide F3b) (unhide H3) (unhide Q0) (unhide Q1) (unhide NA) (unhide NB) hlt (unhide TU) (unhide T3))
          obtain ⟨W, hW⟩ : ∃ W, sumW w3 w1.heap.size op' text' n' a' (.slice o' c' l') xop xtext xn xa (.slice xo xc xl) su.next.text = W := ⟨_, rfl⟩
          rw [hW] at FIN
          have HW := hide hW
          unfold sumW at hW
          rw [hW]
          clear hW s0 s1 s2' s3 s4 zB
          refine ((unhide FIN).1.is _).mono ?_
          rintro e w0 ⟨rfl, rfl⟩
          go_wp2_with fail
          refine ((unhide FIN).1.is _).mono ?_
          rintro e w0 ⟨rfl, rfl⟩
          go_wp2_with fail
          go_roundg g
          case measure => omega
          case rel =>
            obtain ⟨f1, f2, f3, f4, f5, f6, f7⟩ := unhide FIN
            exact ⟨s2, .mk su.next.text ⟨#[]⟩ 0 0 [tu, x], O3, su.next.text, ⟨#[]⟩, 0, 0, _, _, _, rfl, rfl, by omega, f1, unhide K3, f2, f3, f4, f5, f6, f7, unhide HL2⟩
      · have hn1 : isP su wPlus = false := by cases h1 : isP su wPlus <;> simp_all
        have hn2 : isP su wMinus = false := by cases h1 : isP su wMinus <;> simp_all
        obtain rfl := sumLp_stop hl hn1 hn2
        obtain ⟨r0, r1, r2, r3, r4⟩ := cells5 q0
        have zr : ∀ ob, wr.frozen? ⟨w.heap.size, ob, none⟩ = false := fun ob => frozen_of_heap q0
        obtain ⟨s0, s1, s2', s3, s4⟩ := cells5 q1
        have HN := NA
        clear hp hk hf q0 q1 n0 n1 htu hl hc
        go_wp2_with fail
        refine bodyPost_ret (v := treeV op' text' n' a' (.slice o' c' l')) (by simp [results, Tryz.results123, go_sem, r0, r1, r2, r3, r4]) rfl ⟨_, Ou, rfl, ?_, ?_, ?_, unhide HK⟩
        · repeat with_reducible first | refine PA.other ?_ (unhide HN) _ _ | refine PA.alloc ?_ _ | refine PA.drew ?_ | refine PA.drewN ?_ _ | exact unhide HP
        · repeat with_reducible first | refine Fr.setCell ?_ (Or.inr (Nat.le_refl _)) _ | refine Fr.setCell ?_ (Or.inl (unhide HO)) _ | refine Fr.alloc ?_ _ | refine Fr.drew ?_ | refine Fr.drewN ?_ _ | exact unhide HF | exact Fr.refl _ _
        · have f0 : Fr (fun k => Ou k ∨ k = w.heap.size) wr (fun k => Ou k ∨ k = w.heap.size) wr := (Fr.refl Ou wr).join (fun k => k = w.heap.size)
          refine TrAt.step (O := fun k => Ou k ∨ k = w.heap.size) (O' := fun k => Ou k ∨ k = w.heap.size) (w := wr) ?_ ?_ ?_ tu _ (unhide TU)
          · repeat with_reducible first | refine Fr.setCell ?_ (Or.inl (Or.inr rfl)) _ | exact f0
          · intro k hk
            rcases hk with h | h
            · exact Or.inl h
            · exact Or.inr (Or.inl (by omega))
          · intro k hk
            rcases hk with h | h
            · exact Or.inl (Or.inl h)
            · exact Or.inl (Or.inr (Or.inl (by omega)))
theorem term_any (pb : Nat) (s : ByteArray) (f : Nat) (IH : SumC pb s f) : TermC pb s (f + 1) := by
  intro w st O r h hk hr
  rw [termTw] at hr
  by_cases h1 : startsP st = true
  · rw [if_pos h1] at hr
    by_cases h2 : isP st wOpen = true
    · rw [if_pos h2] at hr
      cases ht : sumTw s f (takeP s (opensP st)) with
      | none => rw [ht] at hr; cases hr
      | some p =>
        rw [ht] at hr
        obtain rfl := Option.some.inj hr
        exact term_paren pb s f IH w st O h hk h1 h2 p.1 p.2 ht
    · rw [if_neg h2] at hr
      have := term_flat pb s w st O h hk st (Or.inl ⟨h1, rfl⟩) (by simpa using h2)
      by_cases h3 : st.next.kind = 48
      · rw [if_pos h3] at hr this; obtain rfl := Option.some.inj hr; exact this
      · rw [if_neg h3] at hr this; obtain rfl := Option.some.inj hr; exact this
  · rw [if_neg h1] at hr
    have := term_flat pb s w st O h hk (failP st) (Or.inr ⟨by simpa using h1, rfl⟩) (isP_fail _ _)
    rw [failP_next, kindP_fail, takeP_fail] at this
    by_cases h3 : st.next.kind = 48
    · rw [if_pos h3] at hr this; obtain rfl := Option.some.inj hr; exact this
    · rw [if_neg h3] at hr this; obtain rfl := Option.some.inj hr; exact this

/-- sum and term, at whatever fuel -/
theorem sum_term (pb : Nat) (s : ByteArray) (f : Nat) : (∀ g, g ≤ f → SumC pb s g) ∧ (∀ g, g ≤ f → TermC pb s g) := by
  induction f with
  | zero =>
    refine ⟨fun g hg => ?_, fun g hg => ?_⟩
    · obtain rfl : g = 0 := by omega
      intro w st O r _ _ hr; rw [sumTw] at hr; cases hr
    · obtain rfl : g = 0 := by omega
      intro w st O r _ _ hr; rw [termTw] at hr; cases hr
  | succ f ih =>
    refine ⟨fun g hg => ?_, fun g hg => ?_⟩
    · by_cases e : g = f + 1
      · subst e; exact sum_any pb s f ih.2
      · exact ih.1 g (by omega)
    · by_cases e : g = f + 1
      · subst e; exact term_any pb s f (ih.1 f (Nat.le_refl _))
      · exact ih.2 g (by omega)
end Go.Proofs.YtgdeeodifnegiaaGreatDoor.rf
