/- The document's ways: merge, onward (run.go). -/
import Derived.Test.YtgdeeodifnegiaaGreatDoorRnC
import Derived.BigRegion
namespace Go.Proofs.YtgdeeodifnegiaaGreatDoor.rf
open Go.RowKit

/-- the marks that were come by so far: up to the place i, k -/
def mg (M E : Nat → Nat → Bool) (i k a b : Nat) : Bool := M a b || (E a b && decide (a < i ∨ (a = i ∧ b < k)))
def Fresh (M E : Nat → Nat → Bool) (n i k : Nat) (x : Bool) : Prop := x = true ↔ ∃ a b, a < n ∧ b < n ∧ (a < i ∨ (a = i ∧ b < k)) ∧ E a b = true ∧ M a b = false
theorem mg_row {M E : Nat → Nat → Bool} {n i a b : Nat} (hb : b < n) : mg M E i n a b = mg M E (i + 1) 0 a b := by
  unfold mg
  congr 2
  rw [decide_eq_decide]; omega
theorem fresh_row {M E : Nat → Nat → Bool} {n i : Nat} {x : Bool} (h : Fresh M E n i n x) : Fresh M E n (i + 1) 0 x := by
  unfold Fresh at *
  rw [h]
  constructor
  · rintro ⟨a, b, h1, h2, h3, h4⟩
    exact ⟨a, b, h1, h2, by omega, h4⟩
  · rintro ⟨a, b, h1, h2, h3, h4⟩
    exact ⟨a, b, h1, h2, by omega, h4⟩
theorem mg_same {M E : Nat → Nat → Bool} {i k : Nat} (h : E i k = true → M i k = true) (a b : Nat) : mg M E i k a b = mg M E i (k + 1) a b := by
  unfold mg
  by_cases e : a = i ∧ b = k
  · obtain ⟨rfl, rfl⟩ := e
    cases hE : E a b
    · simp
    · simp [h hE]
  · congr 2
    rw [decide_eq_decide]; omega
theorem fresh_same {M E : Nat → Nat → Bool} {n i k : Nat} {x : Bool} (h : E i k = true → M i k = true) (hf : Fresh M E n i k x) : Fresh M E n i (k + 1) x := by
  unfold Fresh at *
  rw [hf]
  constructor
  · rintro ⟨a, b, h1, h2, h3, h4⟩
    exact ⟨a, b, h1, h2, by omega, h4⟩
  · rintro ⟨a, b, h1, h2, h3, h4, h5⟩
    refine ⟨a, b, h1, h2, ?_, h4, h5⟩
    by_cases e : a = i ∧ b = k
    · obtain ⟨rfl, rfl⟩ := e
      rw [h h4] at h5; cases h5
    · omega
theorem mg_here {M E : Nat → Nat → Bool} (i k : Nat) : mg M E i k i k = M i k := by
  unfold mg
  rw [show decide (i < i ∨ (i = i ∧ k < k)) = false from decide_eq_false (by omega), Bool.and_false, Bool.or_false]
set_option maxRecDepth 100000 in
set_option maxHeartbeats 6400000 in
theorem merge_any {w : World} {base base' n : Nat} {v u : Value} {bs cs : List Nat} {M E : Nat → Nat → Bool} (h : Grid w base n v bs M) (g : Grid w base' n u cs E) (hl : bs.length = n) (hl' : cs.length = n) (hn : n ≤ 1000) (hd : ∀ b ∈ bs, b ∉ cs ∧ u.ownBlock ≠ some b) :
    Calls Tryz.prog 239 #[v, u] w fun e w' => ∃ x : Bool, e = .returned (.bool x) ∧ (x = true ↔ ∃ a b, a < n ∧ b < n ∧ E a b = true ∧ M a b = false) ∧ Grid w' base n v bs (fun i j => M i j || E i j) ∧ Grid w' base' n u cs E ∧ Fr (In bs) w (In bs) w' := by
  obtain ⟨vo, vc, rfl⟩ := owns_sl h.own
  obtain ⟨uo, uc, rfl⟩ := owns_sl g.own
  rw [hl] at h ⊢
  rw [hl'] at g hd ⊢
  have H := hide h
  have G := hide g
  have HD := hide hd
  clear h g hd
  have stay : ∀ wr, Fr (In bs) w (In bs) wr → Grid wr base' n (.slice uo n uc) cs E := fun wr hf => (unhide G).keep (fun k hk hh => hf.block k hk (fun hb => by
    rcases hh with e | e
    · exact (unhide HD k hb).2 e
    · exact (unhide HD k hb).1 e))
  have STAY := hide stay
  clear stay
  go_enter Tryz.func239, Tryz.ntmps239
  go_wp2_with fail
  go_loopg [5, 6] n (fun k b5 b6 wr => ∃ (i : Nat) (x : Bool), i + k = n ∧ b6 = .int .i64 i ∧ b5 = .bool x ∧ Fresh M E n i 0 x ∧ Grid wr base n (.slice vo n vc) bs (mg M E i 0) ∧ Fr (In bs) w (In bs) wr)
  case atStart => exact ⟨0, false, by omega, rfl, rfl, by unfold Fresh; simp, (unhide H).congr (fun i j _ _ => by simp [mg]), Fr.refl _ _⟩
  case round =>
    obtain ⟨i, x, hik, rfl, rfl, hfr, hg, hf⟩ := hrel
    have HFR := hide hfr
    have HG := hide hg
    have HF := hide hf
    clear hfr hg hf
    by_cases hi : i < n
    · go_wp2_with fail
      go_loopg [5, 7] n (fun k b5 b7 wr => ∃ (j : Nat) (x : Bool), j + k = n ∧ b7 = .int .i64 j ∧ b5 = .bool x ∧ Fresh M E n i j x ∧ Grid wr base n (.slice vo n vc) bs (mg M E i j) ∧ Fr (In bs) w (In bs) wr)
      case atStart => exact ⟨0, x, by omega, rfl, rfl, unhide HFR, unhide HG, unhide HF⟩
      case round =>
        clear HFR HG HF
        rename World => WS
        obtain ⟨j, x, hjk, rfl, rfl, hfr, hg, hf⟩ := hrel
        have HFR := hide hfr
        have HG := hide hg
        have HF := hide hf
        by_cases hj : j < n
        · obtain ⟨g1, cap1, hv1, lg1, c1, lb1, zb1, cb1⟩ := hg.get (i := i) (by omega)
          obtain ⟨g2, cap2, hv2, lg2, c2, lb2, zb2, cb2⟩ := (unhide STAY _ hf).get (i := i) (by omega)
          simp only [Value.slice.injEq] at hv1 hv2
          obtain ⟨rfl, -, rfl⟩ := hv1
          obtain ⟨rfl, -, rfl⟩ := hv2
          have d1 := cb1 j hj
          have d2 := cb2 j hj
          rw [mg_here] at d1
          obtain ⟨b, hb⟩ : ∃ b, bs[i]'(by omega) = b := ⟨_, rfl⟩
          obtain ⟨c, hc⟩ : ∃ c, cs[i]'(by omega) = c := ⟨_, rfl⟩
          have HNB := hide hb
          rw [hb] at c1 lb1 zb1 d1
          rw [hc] at c2 lb2 d2
          clear cb1 cb2 zb2 hg hf hfr hb hc
          cases hE : E i j
          focus
            have hs : E i j = true → M i j = true := fun h => by rw [hE] at h; cases h
          rotate_left
          focus
            cases hM : M i j
            rotate_left
            focus
              have hs : E i j = true → M i j = true := fun _ => hM
          rotate_left
          focus
            have FIN := hide (show Fresh M E n i (j + 1) true ∧ Grid (WS.setCell ⟨b, j, none⟩ (.bool true)) base n (.slice (some ⟨g1, 0, none⟩) n vc) bs (mg M E i (j + 1)) ∧ Fr (In bs) w (In bs) (WS.setCell ⟨b, j, none⟩ (.bool true)) from by
              have hb := unhide HNB
              refine ⟨?_, ?_, (unhide HF).setCell (p := ⟨b, j, none⟩) (Or.inl (by rw [← hb]; exact List.getElem_mem _)) _⟩
              · unfold Fresh
                exact ⟨fun _ => ⟨i, j, hi, hj, by omega, hE, hM⟩, fun _ => rfl⟩
              · rw [← hb]
                refine ((unhide HG).set (j := j) (by omega) true).congr (fun a b _ _ => ?_)
                by_cases e : a = i ∧ b = j
                · obtain ⟨rfl, rfl⟩ := e
                  rw [if_pos ⟨rfl, rfl⟩]
                  unfold mg
                  rw [hE, show decide (a < a ∨ (a = a ∧ b < b + 1)) = true from decide_eq_true (by omega)]
                  simp
                · rw [if_neg e]
                  unfold mg
                  congr 2
                  rw [decide_eq_decide]; omega)
            rw [hE] at d2
            rw [hM] at d1
            go_wp2_with fail
            go_roundg (n - (j + 1))
            case measure => omega
            case rel => exact ⟨j + 1, true, by omega, by go_num, rfl, (unhide FIN).1, (unhide FIN).2.1, (unhide FIN).2.2⟩
          all_goals
            have FIN := hide (And.intro (fresh_same hs (unhide HFR)) ((unhide HG).congr (fun a b _ _ => mg_same hs a b)))
            rw [hE] at d2
            try rw [hM] at d1
            go_wp2_with fail
            go_roundg (n - (j + 1))
            case measure => omega
            case rel => exact ⟨j + 1, x, by omega, by go_num, rfl, (unhide FIN).1, (unhide FIN).2, unhide HF⟩
        · have hjn : j = n := by omega
          have FIN := hide (show Fresh M E n (i + 1) 0 x ∧ Grid WS base n (.slice vo n vc) bs (mg M E (i + 1) 0) from by
            rw [hjn] at hfr hg
            exact ⟨fresh_row hfr, hg.congr (fun a b _ hb => mg_row hb)⟩)
          clear hfr hg hf
          go_wp2_with fail
          go_roundg (n - (i + 1))
          case measure => omega
          case rel => exact ⟨i + 1, x, by omega, by go_num, rfl, (unhide FIN).1, (unhide FIN).2, unhide HF⟩
    · have hin : i = n := by omega
      have FIN := hide (show (x = true ↔ ∃ a b, a < n ∧ b < n ∧ E a b = true ∧ M a b = false) ∧ Grid wr base n (.slice vo n vc) bs (fun i j => M i j || E i j) from by
        have h1 := unhide HFR
        have h2 := unhide HG
        rw [hin] at h1 h2
        refine ⟨?_, h2.congr (fun a b ha _ => ?_)⟩
        · unfold Fresh at h1
          rw [h1]
          constructor
          · rintro ⟨a, b, h3, h4, _, h5⟩
            exact ⟨a, b, h3, h4, h5⟩
          · rintro ⟨a, b, h3, h4, h5⟩
            exact ⟨a, b, h3, h4, Or.inl h3, h5⟩
        · unfold mg
          rw [show decide (a < n ∨ (a = n ∧ b < 0)) = true from decide_eq_true (by omega), Bool.and_true])
      go_wp2_with fail
      go_ret
      exact ⟨x, rfl, (unhide FIN).1, (unhide FIN).2, unhide STAY _ (unhide HF), unhide HF⟩
/-- the places behind two parts, one behind the other: by way of the first k places -/
def cp (A B : Nat → Nat → Bool) (k a b : Nat) : Bool := (List.range k).any fun c => A a c && B c b
theorem cp_succ (A B : Nat → Nat → Bool) (k a b : Nat) : cp A B (k + 1) a b = (cp A B k a b || (A a k && B k b)) := by simp [cp, List.range_succ]
theorem cp_zero (A B : Nat → Nat → Bool) (a b : Nat) : cp A B 0 a b = false := rfl
def og (A B : Nat → Nat → Bool) (n i k j a b : Nat) : Bool := (decide (a < i) && cp A B n a b) || (decide (a = i) && (cp A B k a b || (A i k && (B k b && decide (b < j)))))
theorem og_row {A B : Nat → Nat → Bool} {n i a b : Nat} : og A B n i n 0 a b = og A B n (i + 1) 0 0 a b := by
  unfold og
  rw [cp_zero, show decide (b < 0) = false from decide_eq_false (by omega)]
  simp only [Bool.and_false, Bool.or_false]
  by_cases e : a = i
  · subst e; simp
  · rw [show decide (a = i) = false from decide_eq_false e, show decide (a < i + 1) = decide (a < i) from by rw [decide_eq_decide]; omega]
    simp
theorem og_col {A B : Nat → Nat → Bool} {n i k j a b : Nat} (h : A i k = false ∨ n ≤ j) (hb : b < n) : og A B n i k j a b = og A B n i (k + 1) 0 a b := by
  unfold og
  rw [cp_succ, show decide (b < 0) = false from decide_eq_false (by omega)]
  simp only [Bool.and_false, Bool.or_false]
  by_cases e : a = i
  · subst e
    rcases h with h | h
    · rw [h]; simp
    · rw [show decide (b < j) = true from decide_eq_true (by omega), Bool.and_true]
  · rw [show decide (a = i) = false from decide_eq_false e]
    simp
theorem og_here {A B : Nat → Nat → Bool} {n i k j : Nat} (h : A i k = true) (a b : Nat) : (if a = i ∧ b = j then (og A B n i k j i j || B k j) else og A B n i k j a b) = og A B n i k (j + 1) a b := by
  by_cases e : a = i ∧ b = j
  · obtain ⟨rfl, rfl⟩ := e
    rw [if_pos ⟨rfl, rfl⟩]
    unfold og
    rw [h, show decide (b < b) = false from decide_eq_false (by omega), show decide (b < b + 1) = true from decide_eq_true (by omega)]
    simp
  · rw [if_neg e]
    unfold og
    by_cases e1 : a = i
    · rw [show decide (b < j + 1) = decide (b < j) from by rw [decide_eq_decide]; omega]
    · rw [show decide (a = i) = false from decide_eq_false e1]
      simp
set_option maxRecDepth 100000 in
set_option maxHeartbeats 6400000 in
theorem onward_any {w : World} {base base' n : Nat} {v u : Value} {bs cs : List Nat} {A B : Nat → Nat → Bool} (h : Grid w base n v bs A) (g : Grid w base' n u cs B) (hl : bs.length = n) (hl' : cs.length = n) (hn : n ≤ 1000) :
    Calls Tryz.prog 241 #[v, u] w fun e w' => ∃ z ds, e = .returned z ∧ Below w.heap.size w w' ∧ ds.length = n ∧ Grid w' w.heap.size n z ds (cp A B n) := by
  obtain ⟨vo, vc, rfl⟩ := owns_sl h.own
  obtain ⟨uo, uc, rfl⟩ := owns_sl g.own
  rw [hl] at h ⊢
  rw [hl'] at g ⊢
  have H := hide h
  have G := hide g
  clear h g
  have stay : ∀ wr, Below w.heap.size w wr → Grid wr base n (.slice vo n vc) bs A ∧ Grid wr base' n (.slice uo n uc) cs B := fun wr hf => ⟨(unhide H).keep (fun k hk _ => hf.block k hk), (unhide G).keep (fun k hk _ => hf.block k hk)⟩
  have STAY := hide stay
  clear stay
  go_enter Tryz.func241, Tryz.ntmps241
  go_wp2_with fail
  refine (nowhere_any w n hn).mono ?_
  rintro e w0 ⟨z, ds, rfl, hb0, hdl, hz⟩
  obtain ⟨zo, zc, rfl⟩ := owns_sl hz.own
  rw [hdl] at hz ⊢
  have HB0 := hide hb0
  have HZ := hide hz
  clear hb0 hz
  go_wp2_with fail
  go_loopg [6] n (fun q b6 wr => ∃ i : Nat, i + q = n ∧ b6 = .int .i64 i ∧ Below w.heap.size w wr ∧ Grid wr w.heap.size n (.slice zo n zc) ds (og A B n i 0 0))
  case atStart => exact ⟨0, by omega, rfl, unhide HB0, (unhide HZ).congr (fun a b _ _ => by simp [og, cp_zero])⟩
  case round =>
    clear HB0 HZ
    obtain ⟨i, hik, rfl, hb, hg⟩ := hrel
    have HB := hide hb
    have HG := hide hg
    by_cases hi : i < n
    · clear hb hg
      go_wp2_with fail
      go_loopg [7] n (fun q b7 wr => ∃ k : Nat, k + q = n ∧ b7 = .int .i64 k ∧ Below w.heap.size w wr ∧ Grid wr w.heap.size n (.slice zo n zc) ds (og A B n i k 0))
      case atStart => exact ⟨0, by omega, rfl, unhide HB, unhide HG⟩
      case round =>
        clear HB HG
        rename World => WS
        obtain ⟨k, hkk, rfl, hb, hg⟩ := hrel
        have HB := hide hb
        have HG := hide hg
        by_cases hk : k < n
        · clear hb hg
          go_wp2_with fail
          go_loopg [8] n (fun q b8 wr => ∃ j : Nat, j + q = n ∧ b8 = .int .i64 j ∧ Below w.heap.size w wr ∧ Grid wr w.heap.size n (.slice zo n zc) ds (og A B n i k j))
          case atStart => exact ⟨0, by omega, rfl, unhide HB, unhide HG⟩
          case round =>
            clear HB HG
            rename World => WT
            obtain ⟨j, hjk, rfl, hb, hg⟩ := hrel
            have HB := hide hb
            have HG := hide hg
            obtain ⟨g1, cap1, hv1, lg1, c1, lb1, _, cb1⟩ := (unhide STAY _ hb).1.get (i := i) (by omega)
            obtain ⟨g2, cap2, hv2, lg2, c2, lb2, _, cb2⟩ := (unhide STAY _ hb).2.get (i := k) (by omega)
            obtain ⟨g3, cap3, hv3, lg3, c3, lb3, zb3, cb3⟩ := hg.get (i := i) (by omega)
            simp only [Value.slice.injEq] at hv1 hv2 hv3
            obtain ⟨rfl, -, rfl⟩ := hv1
            obtain ⟨rfl, -, rfl⟩ := hv2
            obtain ⟨rfl, -, rfl⟩ := hv3
            have d1 := cb1 k hk
            obtain ⟨x1, hx1⟩ : ∃ b, bs[i]'(by omega) = b := ⟨_, rfl⟩
            obtain ⟨x2, hx2⟩ : ∃ b, cs[k]'(by omega) = b := ⟨_, rfl⟩
            obtain ⟨x3, hx3⟩ : ∃ b, ds[i]'(by omega) = b := ⟨_, rfl⟩
            have HX3 := hide hx3
            rw [hx1] at c1 lb1 d1
            by_cases hA : A i k = false ∨ n ≤ j
            · have FIN := hide (hg.congr (fun a b _ hb => og_col (j := j) hA hb))
              clear hb hg cb1 cb2 cb3 hx1 hx2 hx3 c2 c3 zb3
              cases hE : A i k
              all_goals
                rw [hE] at d1
                try (have hjn : ¬ j < n := by (rcases hA with h | h; (rw [hE] at h; cases h); omega))
                clear hA
                go_wp2_with fail
                go_roundg (n - (k + 1))
                case measure => omega
                case rel => exact ⟨k + 1, by omega, by go_num, unhide HB, unhide FIN⟩
            · have hE : A i k = true := by cases h : A i k with | true => rfl | false => exact absurd (Or.inl h) hA
              have hj : j < n := by omega
              have d2 := cb2 j hj
              have d3 := cb3 j hj
              have F := hide (show Below w.heap.size w (WT.setCell ⟨x3, j, none⟩ (.bool (og A B n i k j i j || B k j))) ∧ Grid (WT.setCell ⟨x3, j, none⟩ (.bool (og A B n i k j i j || B k j))) w.heap.size n (.slice (some ⟨g3, 0, none⟩) n zc) ds (og A B n i k (j + 1)) from by
                refine ⟨hb.setCell ?_ _, ?_⟩
                · rw [← hx3]; exact (hg.rows i (by omega)).1
                · rw [← hx3]
                  exact (hg.set (j := j) (by omega) _).congr (fun a b _ _ => og_here hE a b))
              rw [hx2] at c2 lb2 d2
              rw [hx3] at c3 lb3 zb3 d3
              rw [hE] at d1
              clear hb hg cb1 cb2 cb3 hx1 hx2 hx3 hA
              generalize og A B n i k j i j = o at *
              generalize B k j = p at *
              cases o
              all_goals
                cases p
                all_goals
                  go_wp2_with fail
                  go_region
                  go_wp2_with fail
                  go_roundg (n - (j + 1))
                  case measure => omega
                  case rel => exact ⟨j + 1, by omega, by go_num, (unhide F).1.drew, (unhide F).2.keep (fun _ _ _ => rfl)⟩
        · have hkn : k = n := by omega
          have FIN := hide (show Grid WS w.heap.size n (.slice zo n zc) ds (og A B n (i + 1) 0 0) from by rw [hkn] at hg; exact hg.congr (fun a b _ _ => og_row))
          clear hb hg
          go_wp2_with fail
          go_roundg (n - (i + 1))
          case measure => omega
          case rel => exact ⟨i + 1, by omega, by go_num, unhide HB, unhide FIN⟩
    · have hin : i = n := by omega
      have FIN := hide (show Grid wr w.heap.size n (.slice zo n zc) ds (cp A B n) from by
        rw [hin] at hg
        refine hg.congr (fun a b ha _ => ?_)
        unfold og
        rw [cp_zero, show decide (a < n) = true from decide_eq_true (by omega), show decide (b < 0) = false from decide_eq_false (by omega)]
        simp)
      clear hb hg
      go_wp2_with fail
      go_ret
      exact ⟨_, ds, rfl, unhide HB, hdl, unhide FIN⟩
end Go.Proofs.YtgdeeodifnegiaaGreatDoor.rf
