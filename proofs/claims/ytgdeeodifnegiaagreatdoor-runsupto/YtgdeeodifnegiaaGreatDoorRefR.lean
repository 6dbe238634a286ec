/- The reference's cond, whole. -/
import Derived.Test.YtgdeeodifnegiaaGreatDoorRefQ
namespace Go.Proofs.YtgdeeodifnegiaaGreatDoor.rf
open Go.RowKit

theorem condLp_pos {s : ByteArray} {k lv : Nat} {st : PS} {t : Tr} {r : PS × Tr} (h : condLp s k lv st t = some r) : ∃ g, k = g + 1 := by
  cases k with
  | zero => rw [condLp] at h; cases h
  | succ g => exact ⟨g, rfl⟩
theorem condLp_stop {s : ByteArray} {g lv : Nat} {st : PS} {t : Tr} {r : PS × Tr} (h1 : isP st (opW lv) = false) (h : condLp s (g + 1) lv st t = some r) : r = (st, t) := by
  rw [condLp, if_neg (by simp [h1])] at h
  exact (Option.some.inj h).symm
theorem condLp_more {s : ByteArray} {g lv : Nat} {st : PS} {t : Tr} {r : PS × Tr} (h1 : isP st (opW lv) = true) (h : condLp s (g + 1) lv st t = some r) :
    ∃ st2 x, condTw s g (lv + 1) (takeP s st) = some (st2, x) ∧ condLp s g lv st2 (.mk (opW lv) ⟨#[]⟩ 0 0 [t, x]) = some r := by
  rw [condLp, if_pos h1] at h
  cases ht : condTw s g (lv + 1) (takeP s st) with
  | none => rw [ht] at h; cases h
  | some p => rw [ht] at h; exact ⟨p.1, p.2, rfl, h⟩

set_option maxRecDepth 100000 in
set_option maxHeartbeats 3200000 in
theorem cond_lv (pb : Nat) (s : ByteArray) (f : Nat) (IH : ∀ g, g ≤ f → CondC pb s g) (w : World) (st : PS) (O : Nat → Prop) (r : PS × Tr) (h : PA w pb s st O) (hk : Ok s st) (lv : Nat) (iv : Int) (wd : ByteArray) (hlv : (lv = 0 ∧ iv = 0 ∧ wd = ⟨#[111, 114]⟩) ∨ (lv = 1 ∧ iv = 1 ∧ wd = ⟨#[97, 110, 100]⟩)) (hop : opW lv = wd) (hr : condTw s (f + 1) lv st = some r) :
    Calls Tryz.prog 125 #[ptr pb, .int .i64 iv] w (TreeC pb s w O r) := by
  rw [condTw, if_pos (by omega)] at hr
  cases ht : condTw s f (lv + 1) st with
  | none => rw [ht] at hr; cases hr
  | some p =>
    obtain ⟨st1, t⟩ := p
    rw [ht] at hr
    have lp : pb < w.heap.size := h.lt h.own
    have N0 := hide (show ¬ O w.heap.size from fun hk => by have := h.lt hk; omega)
    have HR := hide ((h.alloc (.cells treeZ 115)).alloc (.cells #[.string ⟨#[111, 114]⟩, .string ⟨#[97, 110, 100]⟩] 9))
    have K := hide hk
    have HT := hide ht
    have HL := hide (show condLp s f lv st1 t = some r from hr)
    have HIH := hide IH
    clear h hk ht hr IH
    obtain ⟨LP, hLP⟩ : ∃ LP : Nat → PS → Tr → Prop, ∀ k a b, LP k a b ↔ condLp s k lv a b = some r := ⟨_, fun _ _ _ => Iff.rfl⟩
    rcases hlv with ⟨rfl, rfl, hw⟩ | ⟨rfl, rfl, hw⟩
    all_goals
      go_enter Tryz.func125, Tryz.ntmps125
      go_wp2_with fail
      refine (unhide HIH f (Nat.le_refl _) _ _ _ _ _ (by omega) (unhide HR) (unhide K) (unhide HT)).mono ?_
      rintro e w1 ⟨v, O1, rfl, hp1, hf1, ht1, hk1⟩
      obtain ⟨op, text, n, a, o, c, l, rfl⟩ := ht1.form
      have H1 := hide (hp1.alloc (.cells (treeCells op text n a (.slice o c l)) 115))
      have N1 := hide (show ¬ O1 w1.heap.size from fun hk => by have := hp1.lt hk; omega)
      have F1 := hide (((((Fr.refl O w).alloc (.cells treeZ 115)).alloc (.cells #[.string ⟨#[111, 114]⟩, .string ⟨#[97, 110, 100]⟩] 9)).trans hf1).alloc (.cells (treeCells op text n a (.slice o c l)) 115))
      have hlt : w.heap.size < w1.heap.size := by have := hf1.size; simp at this; omega
      have Q1 := hide (show (w1.alloc (.cells (treeCells op text n a (.slice o c l)) 115)).heap[w.heap.size]? = some (.cells treeZ 115 (0, 0)) by rw [Below.heap_alloc _ _ _ hlt]; exact (hf1.block w.heap.size (by simp; omega) (unhide N0)).trans (two_alloc w _ _ _ _).1)
      have N2 := hide (show ¬ O1 w.heap.size from fun hk => by
        rcases hf1.own _ hk with h | h
        · exact unhide N0 h
        · simp at h; omega)
      have T1 := hide (show TrAt (w1.alloc (.cells (treeCells op text n a (.slice o c l)) 115)) (fun k => O1 k ∨ k ≤ w.heap.size ∨ k = w1.heap.size) t (treeV op text n a (.slice o c l)) from by
        refine TrAt.step ((Fr.refl O1 w1).alloc _) (fun k hk => Or.inl hk) (fun k hk => ?_) t _ ht1
        rcases hk with h | h | h
        · exact Or.inl (Or.inl h)
        · exact Or.inl (Or.inr (by simp; omega))
        · exact Or.inr (by omega))
      have K1 := hide hk1
      clear hp1 hf1 ht1 hk1 HT HR
      go_wp2_with fail
      refine ((unhide H1).is _).mono ?_
      rintro e w0 ⟨rfl, rfl⟩
      go_wp2_with fail
      go_loopg [7] f (fun k b7 wr => ∃ (st1 : PS) (t : Tr) (O1 : Nat → Prop) (op text : ByteArray) (n a : Int) (o : Option Addr) (c l : Nat), b7 = .bool (isP st1 wd) ∧ k ≤ f ∧ PA wr pb s st1 O1 ∧ Ok s st1 ∧ Fr O w O1 wr ∧ wr.heap[w.heap.size]? = some (.cells treeZ 115 (0, 0)) ∧ wr.heap[w1.heap.size]? = some (.cells (treeCells op text n a (.slice o c l)) 115 (0, 0)) ∧ ¬ O1 w.heap.size ∧ ¬ O1 w1.heap.size ∧ TrAt wr (fun k => O1 k ∨ k ≤ w.heap.size ∨ k = w1.heap.size) t (treeV op text n a (.slice o c l)) ∧ LP k st1 t)
      case atStart => exact ⟨st1, t, O1, op, text, n, a, o, c, l, by rw [hw], Nat.le_refl _, unhide H1, unhide K1, unhide F1, unhide Q1, heap_alloc_new _ _, unhide N2, unhide N1, unhide T1, (hLP _ _ _).2 (unhide HL)⟩
      case round =>
        clear H1 K1 F1 Q1 N2 N1 T1 HL
        obtain ⟨su, tu, Ou, op', text', n', a', o', c', l', rfl, hkf, hp, hk, hf, q0, q1, n0, n1, htu, hl⟩ := hrel
        replace hl := (hLP _ _ _).1 hl
        obtain ⟨g, rfl⟩ := condLp_pos hl
        have HP := hide hp
        have HK := hide hk
        have HF := hide hf
        have Q0 := hide q0
        have Q1 := hide q1
        have NA := hide n0
        have NB := hide n1
        have TU := hide htu
        have hzB' : w1.heap.size < wr.heap.size := heap_lt q1
        by_cases hc : isP su wd = true
        · obtain ⟨s2, x, htm, hl2⟩ := condLp_more (by rw [hop]; exact hc) hl
          rw [hop] at hl2
          have HTM := hide htm
          have HL2 := hide hl2
          clear hp hk hf q0 q1 n0 n1 htu hl htm hl2
          · rw [hc]
            go_wp2_with fail
            refine (take_any (unhide HP) (unhide HK)).mono ?_
            rintro e w2 ⟨rfl, O2, hp2, hf2⟩
            have H2 := hide hp2
            have F2 := hide hf2
            have hz2 : w1.heap.size < w2.heap.size := by have := hf2.size; omega
            clear hp2 hf2
            go_wp2_with fail
            refine (unhide HIH g (by omega) _ _ _ _ _ (by omega) (unhide H2) (unhide HK).take (unhide HTM)).mono ?_
            rintro e w3 ⟨v, O3, rfl, hp3, hf3, ht3, hk3⟩
            obtain ⟨xop, xtext, xn, xa, xo, xc, xl, rfl⟩ := ht3.form
            have F3 := hide ((unhide F2).trans hf3)
            have qB := ((unhide F3).block w1.heap.size hzB' (unhide NB)).trans (unhide Q1)
            obtain ⟨s0, s1, s2', s3, s4⟩ := cells5 qB
            have zB : ∀ ob, w3.frozen? ⟨w1.heap.size, ob, none⟩ = false := fun ob => frozen_of_heap qB
            have hzB : w1.heap.size < w3.heap.size := heap_lt qB
            have H3 := hide hp3
            have F3b := hide hf3
            have T3 := hide ht3
            have K3 := hide hk3
            have QB := hide qB
            clear hp3 hf3 ht3 hk3 qB
            go_wp2_with fail
            have FIN := hide (sum_round (op := wd) (unhide HF) (unhide F2) (unhide F3b) (unhide H3) (unhide Q0) (unhide Q1) (unhide NA) (unhide NB) hlt (unhide TU) (unhide T3))
            obtain ⟨W, hW⟩ : ∃ W, sumW w3 w1.heap.size op' text' n' a' (.slice o' c' l') xop xtext xn xa (.slice xo xc xl) wd = W := ⟨_, rfl⟩
            rw [hW] at FIN
            have HW := hide hW
            unfold sumW at hW; rw [hw] at hW
            rw [hW]
            clear hW s0 s1 s2' s3 s4 zB
            refine ((unhide FIN).1.is _).mono ?_
            rintro e w0 ⟨rfl, rfl⟩
            go_wp2_with fail
            go_roundg g
            case measure => omega
            case rel =>
              obtain ⟨f1, f2, f3, f4, f5, f6, f7⟩ := unhide FIN
              exact ⟨s2, .mk wd ⟨#[]⟩ 0 0 [tu, x], O3, wd, ⟨#[]⟩, 0, 0, _, _, _, by rw [hw], by omega, f1, unhide K3, f2, f3, f4, f5, f6, f7, (hLP _ _ _).2 (unhide HL2)⟩
        · have hn1 : isP su wd = false := by simpa using hc
          obtain rfl := condLp_stop (by rw [hop]; exact hn1) hl
          obtain ⟨r0, r1, r2, r3, r4⟩ := cells5 q0
          have zr : ∀ ob, wr.frozen? ⟨w.heap.size, ob, none⟩ = false := fun ob => frozen_of_heap q0
          obtain ⟨s0, s1, s2', s3, s4⟩ := cells5 q1
          have HN := NA
          clear hp hk hf q0 q1 n0 n1 htu hl hc
          rw [hn1]
          go_wp2_with fail
          refine bodyPost_ret (v := treeV op' text' n' a' (.slice o' c' l')) (by simp [results, Tryz.results125, go_sem, r0, r1, r2, r3, r4]) rfl ⟨_, Ou, rfl, ?_, ?_, ?_, unhide HK⟩
          · repeat with_reducible first | refine PA.other ?_ (unhide HN) _ _ | refine PA.alloc ?_ _ | refine PA.drew ?_ | refine PA.drewN ?_ _ | exact unhide HP
          · repeat with_reducible first | refine Fr.setCell ?_ (Or.inr (Nat.le_refl _)) _ | refine Fr.setCell ?_ (Or.inl (unhide HO)) _ | refine Fr.alloc ?_ _ | refine Fr.drew ?_ | refine Fr.drewN ?_ _ | exact unhide HF | exact Fr.refl _ _
          · have f0 : Fr (fun k => Ou k ∨ k = w.heap.size) wr (fun k => Ou k ∨ k = w.heap.size) wr := (Fr.refl Ou wr).join (fun k => k = w.heap.size)
            refine TrAt.step (O := fun k => Ou k ∨ k = w.heap.size) (O' := fun k => Ou k ∨ k = w.heap.size) (w := wr) ?_ ?_ ?_ tu _ (unhide TU)
            · repeat with_reducible first | refine Fr.setCell ?_ (Or.inl (Or.inr rfl)) _ | exact f0
            · intro k hk
              rcases hk with h | h
              · exact Or.inl h
              · exact Or.inr (Or.inl (by omega))
            · intro k hk
              rcases hk with h | h
              · exact Or.inl (Or.inl h)
              · exact Or.inl (Or.inr (Or.inl (by omega)))
theorem cond_any (pb : Nat) (s : ByteArray) (f : Nat) (IS : SumC pb s f) (IH : ∀ g, g ≤ f → CondC pb s g) : CondC pb s (f + 1) := by
  intro lv w st O r hlv h hk hr
  rcases lv with _ | _ | _ | lv
  · exact cond_lv pb s f IH w st O r h hk 0 0 _ (Or.inl ⟨rfl, rfl, rfl⟩) rfl hr
  · exact cond_lv pb s f IH w st O r h hk 1 1 _ (Or.inr ⟨rfl, rfl, rfl⟩) rfl hr
  · rw [condTw, if_neg (by omega)] at hr
    by_cases h0 : isP st wNot = true
    · rw [if_pos h0] at hr
      cases ht : condTw s f 2 (takeP s (opensP st)) with
      | none => rw [ht] at hr; cases hr
      | some p =>
        rw [ht] at hr
        obtain rfl := Option.some.inj hr
        exact cond_not pb s f (IH f (Nat.le_refl _)) w st O h hk h0 p.1 p.2 ht
    · rw [if_neg h0] at hr
      have h0 : isP st wNot = false := by simpa using h0
      by_cases h1 : isP st wBrack = true
      · rw [if_pos h1] at hr
        cases ht : condTw s f 0 (takeP s (opensP st)) with
        | none => rw [ht] at hr; cases hr
        | some p =>
          rw [ht] at hr
          obtain rfl := Option.some.inj hr
          exact cond_bracket pb s f (IH f (Nat.le_refl _)) w st O h hk h0 h1 p.1 p.2 ht
      · rw [if_neg h1] at hr
        have h1 : isP st wBrack = false := by simpa using h1
        by_cases h2 : isP st wNet = true
        · rw [if_pos h2] at hr
          obtain rfl := Option.some.inj hr
          exact cond_net pb s w st O h hk h0 h1 h2
        · rw [if_neg h2] at hr
          have h2 : isP st wNet = false := by simpa using h2
          by_cases h3 : isP st wPath = true
          · rw [if_pos h3] at hr
            obtain rfl := Option.some.inj hr
            exact cond_path pb s w st O h hk h0 h1 h2 h3
          · rw [if_neg h3] at hr
            have h3 : isP st wPath = false := by simpa using h3
            by_cases h4 : isP st wMarked = true
            · rw [if_pos h4] at hr
              obtain rfl := Option.some.inj hr
              exact cond_marked pb s w st O h hk h0 h1 h2 h3 h4
            · rw [if_neg h4] at hr
              have h4 : isP st wMarked = false := by simpa using h4
              by_cases h5 : startsP st = false
              · rw [if_pos h5] at hr
                obtain rfl := Option.some.inj hr
                exact cond_none pb s w st O h hk h0 h1 h2 h3 h4 h5
              · rw [if_neg h5] at hr
                have h5 : startsP st = true := by simpa using h5
                cases ht : sumTw s f st with
                | none => rw [ht] at hr; cases hr
                | some p =>
                  rw [ht] at hr
                  cases he : isP p.1 wEq with
                  | true =>
                    simp only [he, if_true] at hr
                    cases hu : sumTw s f (needP s p.1 wEq) with
                    | none => rw [hu] at hr; cases hr
                    | some q =>
                      rw [hu] at hr
                      obtain rfl := Option.some.inj hr
                      exact cond_cmp pb s f IS w st O h hk h0 h1 h2 h3 h4 h5 p.1 p.2 ht q.1 q.2 wEq (Or.inl ⟨he, rfl⟩) hu
                  | false =>
                    simp only [he, Bool.false_eq_true, if_false] at hr
                    cases hu : sumTw s f (needP s p.1 wLess) with
                    | none => rw [hu] at hr; cases hr
                    | some q =>
                      rw [hu] at hr
                      obtain rfl := Option.some.inj hr
                      exact cond_cmp pb s f IS w st O h hk h0 h1 h2 h3 h4 h5 p.1 p.2 ht q.1 q.2 wLess (Or.inr ⟨he, rfl⟩) hu
  · omega

theorem conds (pb : Nat) (s : ByteArray) (f : Nat) : ∀ g, g ≤ f → CondC pb s g := by
  induction f with
  | zero =>
    intro g hg
    obtain rfl : g = 0 := by omega
    intro lv w st O r _ _ _ hr; rw [condTw] at hr; cases hr
  | succ f ih =>
    intro g hg
    by_cases e : g = f + 1
    · subst e; exact cond_any pb s f ((sum_term pb s f).1 f (Nat.le_refl _)) ih
    · exact ih g (by omega)

end Go.Proofs.YtgdeeodifnegiaaGreatDoor.rf
