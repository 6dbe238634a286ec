/- A policy of the document is run: marked, mark. -/
import Derived.Test.YtgdeeodifnegiaaGreatDoorRnA
namespace Go.Proofs.YtgdeeodifnegiaaGreatDoor.rf
open Go.RowKit

theorem own_get {w : World} {v : Value} {l : List Int} {i : Nat} (h : w.ownsRow 0 3 1 v l.length (intCells l)) (hi : i < l.length) : ∃ g cap, v = .slice (some ⟨g, 0, none⟩) l.length cap ∧ g < w.heap.size ∧ w.cell? ⟨g, i, none⟩ = some (.int .i64 l[i]) := by
  obtain ⟨g, cap, hv, _⟩ := h.form (by omega)
  refine ⟨g, cap, hv, ?_, ?_⟩
  · rw [hv] at h; exact (h.lt g rfl).2
  · rw [hv] at h
    rw [h.cellAt i (by omega)]
    simp [intCells, List.getElem?_eq_getElem hi]
theorem own_max {w : World} {e : TypeId} {sz : Nat} {v : Value} {n : Nat} {xs : List Value} (h : w.ownsRow 0 e sz v n xs) : n ≤ 9223372036854775807 := by
  rcases h.2 with ⟨_, e⟩ | ⟨_, cap, _, _, _, _, h3, h4, _⟩
  · omega
  · unfold maxLen at h4; omega
/-- the place of a mark; -1: it is not there -/
def markAt (l : List Int) (n : Int) : Int := if n ∈ l then (l.idxOf n : Int) else -1
theorem markAt_here {l : List Int} {n : Int} {i : Nat} (hi : i < l.length) (h1 : ∀ j, (h : j < i) → l[j]? ≠ some n) (h2 : l[i] = n) : markAt l n = i := by
  have hm : n ∈ l := by rw [← h2]; exact List.getElem_mem hi
  unfold markAt
  rw [if_pos hm]
  have hlt : l.idxOf n < l.length := List.idxOf_lt_length_iff.2 hm
  have hg : l[l.idxOf n] = n := List.getElem_idxOf hlt
  have h3 : ¬ l.idxOf n < i := fun h => h1 _ h (by rw [List.getElem?_eq_getElem hlt, hg])
  have h4 : l.idxOf n ≤ i := by
    refine Nat.le_of_not_lt fun h => ?_
    have h5 := List.not_of_lt_findIdx (p := (· == n)) (xs := l) (i := i) h
    simp [h2] at h5
  omega
theorem markAt_none {l : List Int} {n : Int} (h1 : ∀ j, (h : j < l.length) → l[j]? ≠ some n) : markAt l n = -1 := by
  unfold markAt
  rw [if_neg]
  intro hm
  obtain ⟨j, hj, e⟩ := List.getElem_of_mem hm
  exact h1 j hj (by rw [List.getElem?_eq_getElem hj, e])
set_option maxRecDepth 100000 in
set_option maxHeartbeats 1600000 in
theorem marked_any {w : World} {sb pb : Nat} {R : Rt} {pv mv : Value} {ver : Int} (h : StA w sb pb R pv mv ver) (n : Int) :
    Calls Tryz.prog 152 #[ptr sb, .int .i64 n] w fun e w' => e = .returned (.int .i64 (markAt R.marks n)) ∧ w' = w := by
  obtain ⟨mo, mc, rfl⟩ := owns_sl h.own2
  have c4 : w.cell? ⟨sb, 4, none⟩ = some (.slice mo R.marks.length mc) := cell_of_heap h.blk
  have lsb := heap_lt h.blk
  have hmx := own_max h.own2
  have H := hide h.own2
  obtain ⟨l, hl⟩ : ∃ l, R.marks = l := ⟨_, rfl⟩
  rw [hl] at c4 H hmx ⊢
  clear h hl
  go_enter Tryz.func152, Tryz.ntmps152
  go_wp2_with fail
  go_loopg [5] l.length (fun k b5 wr => ∃ i : Nat, i + k = l.length ∧ b5 = .int .i64 i ∧ wr = w ∧ ∀ j, (h : j < i) → l[j]? ≠ some n)
  case atStart => exact ⟨0, by omega, rfl, rfl, fun j hj => by omega⟩
  case round =>
    obtain ⟨i, hik, rfl, rfl, hj⟩ := hrel
    have HJ := hide hj
    clear hj
    by_cases hi : i < l.length
    · obtain ⟨g, cap, hv, hg, y0⟩ := own_get (unhide H) hi
      simp only [Value.slice.injEq] at hv
      obtain ⟨rfl, -, rfl⟩ := hv
      cases he : (l[i] == n)
      · have FIN := hide (show ∀ j, (h : j < i + 1) → l[j]? ≠ some n from fun j h => by
          by_cases hji : j < i
          · exact unhide HJ j hji
          · obtain rfl : j = i := by omega
            rw [List.getElem?_eq_getElem hi]
            intro e
            simp only [Option.some.injEq] at e
            rw [e] at he
            simp at he)
        go_wp2_with fail
        go_roundg (l.length - (i + 1))
        case measure => omega
        case rel => exact ⟨i + 1, by omega, by go_num, rfl, unhide FIN⟩
      · have FIN := hide (markAt_here hi (unhide HJ) (by simpa using he)).symm
        go_wp2_with fail
        go_ret
        exact ⟨ret_int (unhide FIN), rfl⟩
    · have FIN := hide (markAt_none (l := l) (n := n) (fun j hj => unhide HJ j (by omega))).symm
      go_wp2_with fail
      go_ret
      exact ⟨ret_int (unhide FIN), rfl⟩
/-- a row of numbers in new memory -/
structure NewI (w wr : World) (v : Value) (l : List Int) : Prop where
  own : wr.ownsRow 0 3 1 v l.length (intCells l)
  new : ∀ k, v.ownBlock = some k → w.heap.size ≤ k
theorem NewI.app {w W w' : World} {v v' : Value} {l l2 : List Int} (h : NewI w W v l) (hb : Below w.heap.size w W) (hown : w'.ownsRow 0 3 1 v' (l.length + l2.length) (intCells l ++ intCells l2)) (hat : v'.ownBlock = v.ownBlock ∨ v'.ownBlock = some W.heap.size) : NewI w w' v' (l ++ l2) := by
  refine ⟨by simpa [intCells] using hown, fun k hk => ?_⟩
  rcases hat with e | e
  · exact h.new k (by rw [← e]; exact hk)
  · rw [e] at hk
    have := hb.size
    cases hk; exact this
theorem one_ints {l : List Int} : ∀ u ∈ intCells l, u.oneCell' = true := fun u hu => by
  obtain ⟨x, _, rfl⟩ := List.mem_map.1 hu
  rfl
theorem NewI.ne {w wr : World} {v : Value} {l : List Int} (h : NewI w wr v l) {sb : Nat} (hs : sb < w.heap.size) : v.ownBlock ≠ some sb := fun e => by have := h.new sb e; omega
theorem StA.marks {w w2 : World} {sb pb : Nat} {R : Rt} {pv mv v2 : Value} {ver : Int} {l : List Int} (h : StA w sb pb R pv mv ver) (hb : Below w.heap.size w w2) (hn : NewI w w2 v2 l) : StA (w2.setCell ⟨sb, 4, none⟩ v2) sb pb { R with marks := l } pv v2 ver := by
  have h2 := h.below hb
  have hne := hn.ne (heap_lt h.blk)
  exact ⟨heap_set h2.blk, owns_of h2.own1 (fun k hk => heap_set_other (fun e => h.ne1 (by have e' : k = sb := e; rw [← e']; exact hk))), owns_of hn.own (fun k hk => heap_set_other (fun e => hne (by have e' : k = sb := e; rw [← e']; exact hk))), h.ne1, hne⟩
theorem StA.path {w w2 : World} {sb pb : Nat} {R : Rt} {pv mv v2 : Value} {ver : Int} {l : List Int} (h : StA w sb pb R pv mv ver) (hb : Below w.heap.size w w2) (hn : NewI w w2 v2 l) : StA (w2.setCell ⟨sb, 3, none⟩ v2) sb pb { R with path := l } v2 mv ver := by
  have h2 := h.below hb
  have hne := hn.ne (heap_lt h.blk)
  exact ⟨heap_set h2.blk, owns_of hn.own (fun k hk => heap_set_other (fun e => hne (by have e' : k = sb := e; rw [← e']; exact hk))), owns_of h2.own2 (fun k hk => heap_set_other (fun e => h.ne2 (by have e' : k = sb := e; rw [← e']; exact hk))), hne, h.ne2⟩
theorem place_eq {l : List Int} {n : Int} {i : Nat} (hi : i ≤ l.length) (hs : l.Pairwise (· < ·)) (h1 : ∀ j, (h : j < l.length) → j < i → l[j] < n) (h2 : ∀ h : i < l.length, ¬ l[i] < n) : placeM l n = i := by
  unfold placeM
  have e : l.filter (fun x => decide (x < n)) = l.take i := by
    conv => lhs; rw [← List.take_append_drop i l]
    rw [List.filter_append, List.filter_eq_self.2, List.filter_eq_nil_iff.2, List.append_nil]
    · intro x hx
      obtain ⟨j, hj, rfl⟩ := List.getElem_of_mem hx
      rw [List.getElem_drop]
      have hj' : i + j < l.length := by simp at hj; omega
      have h3 := h2 (by omega)
      simp only [decide_eq_true_eq]
      rcases Nat.eq_zero_or_pos j with rfl | hp
      · exact h3
      · have h4 := List.pairwise_iff_getElem.1 hs i (i + j) (by omega) hj' (by omega)
        omega
    · intro x hx
      obtain ⟨j, hj, rfl⟩ := List.getElem_of_mem hx
      simp only [List.length_take] at hj
      rw [List.getElem_take]
      simp only [decide_eq_true_eq]
      exact h1 j (by omega) (by omega)
  rw [e, List.length_take]; omega
theorem markAt_ge {l : List Int} {n : Int} (h : n ∈ l) : 0 ≤ markAt l n := by unfold markAt; rw [if_pos h]; omega
theorem markAt_lt {l : List Int} {n : Int} (h : ¬ n ∈ l) : markAt l n = -1 := by unfold markAt; rw [if_neg h]
def StpP (w : World) (sb pb : Nat) (q : Rt × Int) (e : Ending) (w' : World) : Prop := e = .returned (.tuple #[]) ∧ ∃ pv mv, StA w' sb pb q.1 pv mv q.2 ∧ Fr (Sb sb) w (Sb sb) w'
set_option maxRecDepth 100000 in
set_option maxHeartbeats 3200000 in
theorem mark_run {w : World} {sb pb : Nat} {R : Rt} {pv mv : Value} (h : StA w sb pb R pv mv 0) (hsr : R.marks.Pairwise (· < ·)) (hm8 : R.marks.length ≤ 8) (n : Int) :
    Calls Tryz.prog 151 #[ptr sb, .int .i64 n] w (StpP w sb pb (markM n R)) := by
  obtain ⟨i0, hi0, hz0, hz1, hz2⟩ := info_parts Tryz.infoInt
  obtain ⟨mo, mc, rfl⟩ := owns_sl h.own2
  have c4 : w.cell? ⟨sb, 4, none⟩ = some (.slice mo R.marks.length mc) := cell_of_heap h.blk
  have z4 : ∀ o, w.frozen? ⟨sb, o, none⟩ = false := fun o => frozen_of_heap h.blk
  have c7 : w.cell? ⟨sb, 7, none⟩ = some (.int .i64 0) := cell_of_heap h.blk
  have lsb := heap_lt h.blk
  have H := hide h
  by_cases hn : n ∈ R.marks
  · have hge := markAt_ge hn
    have FIN := hide (show markM n R = (R, 0) from by unfold markM; rw [if_pos (by simpa using hn)])
    clear h
    go_enter Tryz.func151, Tryz.ntmps151
    go_wp2_with fail
    refine (marked_any (unhide H) n).mono ?_
    rintro e w1 ⟨rfl, rfl⟩
    generalize markAt R.marks n = q at *
    go_wp2_with fail
    go_end0
    rw [unhide FIN]
    exact ⟨rfl, _, _, unhide H, Fr.refl _ _⟩
  · have hlt := markAt_lt hn
    by_cases h8 : R.marks.length = 8
    · have e8 : ((R.marks.length : Int) == 8) = true := by rw [h8]; rfl
      have FIN := hide (show markM n R = (R, 3) from by unfold markM; rw [if_neg (by simpa using hn), if_pos h8])
      clear h
      go_enter Tryz.func151, Tryz.ntmps151
      go_wp2_with fail
      refine (marked_any (unhide H) n).mono ?_
      rintro e w1 ⟨rfl, rfl⟩
      rw [hlt]
      go_wp2_with fail
      go_end0
      rw [unhide FIN]
      exact ⟨rfl, _, _, (unhide H).ver 3, (Fr.refl (Sb sb) _).setCell (Or.inl rfl) _⟩
    · have e8 : ((R.marks.length : Int) == 8) = false := by rw [beq_eq_false_iff_ne]; omega
      have HMX := own_max h.own2
      obtain ⟨l, hl⟩ : ∃ l, R.marks = l := ⟨_, rfl⟩
      have hm : markM n R = ({ R with marks := l.take (placeM l n) ++ n :: l.drop (placeM l n) }, 0) := by unfold markM; rw [if_neg (by simpa using hn), if_neg h8, hl]
      have HM := hide hm
      have OW := hide h.own2
      have HL := hide hl
      rw [hl] at hsr hm8 c4 hn hlt e8 OW
      have SR := hide hsr
      clear h hm h8 hl hsr
      go_enter Tryz.func151, Tryz.ntmps151
      go_wp2_with fail
      refine (marked_any (unhide H) n).mono ?_
      rintro e w1 ⟨rfl, rfl⟩
      rw [unhide HL, hlt]
      go_wp2_with fail
      go_loopg [4, 5] l.length (fun k b4 b5 wr => ∃ i : Nat, i + k = l.length ∧ b5 = .int .i64 i ∧ (∀ j, (h : j < l.length) → j < i → l[j] < n) ∧ NewI w1 wr b4 (l.take i) ∧ Below w1.heap.size w1 wr)
      case atStart => exact ⟨0, by omega, rfl, fun j _ h => by omega, ⟨World.ownsRow_nil _ _ _ _, fun k hk => by simp [Value.ownBlock] at hk⟩, Below.refl _ _⟩
      case round =>
        obtain ⟨i, hik, rfl, hlo, hnew, hbw⟩ := hrel
        have c4r : wr.cell? ⟨sb, 4, none⟩ = some (.slice mo l.length mc) := (hbw.cell (p := ⟨sb, 4, none⟩) lsb).trans c4
        have lsr : sb < wr.heap.size := Nat.lt_of_lt_of_le lsb hbw.size
        have zr : ∀ o, wr.frozen? ⟨sb, o, none⟩ = false := fun o => frozen_of_heap ((hbw.block sb lsb).trans (unhide H).blk)
        have HLO := hide hlo
        have NEW := hide hnew
        have HBW := hide hbw
        have hml : l.length ≤ 8 := hm8
        have htl : (l.take i).length = i := by rw [List.length_take]; omega
        clear hlo
        have more : (∃ (hi : i < l.length), l[i] < n) ∨ ((∀ hi : i < l.length, ¬ l[i] < n) ∧ i ≤ l.length) := by
          by_cases hi : i < l.length
          · by_cases hx : l[i] < n
            · exact Or.inl ⟨hi, hx⟩
            · exact Or.inr ⟨fun _ => hx, by omega⟩
          · exact Or.inr ⟨fun h => absurd h hi, by omega⟩
        rcases more with ⟨hi, hx⟩ | ⟨hx, hil⟩
        · obtain ⟨g, cap, hv, hg, y0⟩ := own_get (unhide OW) hi
          simp only [Value.slice.injEq] at hv
          obtain ⟨rfl, -, rfl⟩ := hv
          have y0r : wr.cell? ⟨g, i, none⟩ = some (.int .i64 l[i]) := (hbw.cell (p := ⟨g, i, none⟩) hg).trans y0
          have lgr : g < wr.heap.size := Nat.lt_of_lt_of_le hg hbw.size
          have FIN := hide (show ∀ j, (h : j < l.length) → j < i + 1 → l[j] < n from fun j h1 h2 => by
            by_cases hji : j < i
            · exact unhide HLO j h1 hji
            · obtain rfl : j = i := by omega
              exact hx)
          have HTK := hide (show l.take i ++ [l[i]] = l.take (i + 1) from by rw [List.take_add_one, List.getElem?_eq_getElem hi]; rfl)
          clear hnew hbw
          generalize l[i] = y at *
          go_wp2_with (at_builtin; refine wpList_append_reads rfl _ _ _ rfl 0 3 i0 _ 1 8 Tryz.underlying26 hi0 hz0 hz1 hz2 rfl (by omega) _ _ _ rfl ((unhide NEW).own.alloc _) _ 1 [.int .i64 y] rfl (Or.inr ⟨⟨wr.heap.size, 0, none⟩, 1, rfl, World.news_of_block (cs := #[.int .i64 y]) (t := 3) (fr := (0, 0)) (heap_alloc_new _ _)⟩) rfl (by simp [Value.oneCell']) (by simp only [maxLen]; omega) (by omega) (by omega) ?_; intro v' w' hown hgrow hat)
          have HB' := hide (below_append ((unhide HBW).alloc (unhide HBW).size _) hgrow (by have := (unhide HBW).size; simp; omega) (unhide NEW).new)
          have HN' := hide (NewI.app (l2 := [y]) ⟨(unhide NEW).own.alloc _, (unhide NEW).new⟩ ((unhide HBW).alloc (unhide HBW).size _) hown hat)
          clear hown hgrow hat
          go_wp2_with fail
          go_roundg (l.length - (i + 1))
          case measure => omega
          case rel => exact ⟨i + 1, by omega, by go_num, unhide FIN, by rw [← unhide HTK]; exact unhide HN', unhide HB'⟩
        · have HPL := hide (place_eq hil (unhide SR) (unhide HLO) hx)
          have hsome : (∃ g, mo = some ⟨g, 0, none⟩ ∧ g < w1.heap.size ∧ l.length ≤ mc) ∨ (mo = none ∧ mc = 0 ∧ l = []) := by
            rcases (unhide OW).2 with ⟨h0, h1⟩ | ⟨g, _, _, h0, _, h2, h3, _⟩
            · simp only [Value.slice.injEq] at h0
              exact Or.inr ⟨h0.1, h0.2.2, by simpa using h1⟩
            · simp only [Value.slice.injEq] at h0
              exact Or.inl ⟨g, h0.1, heap_lt h2, by omega⟩
          have hln : (l.take i ++ [n]).length = i + 1 := by simp; omega
          clear hnew hbw
          rcases hsome with ⟨g, rfl, hg, hmc⟩ | ⟨rfl, rfl, rfl⟩
          focus
            have RD := hide (show ∀ W, Below w1.heap.size w1 W → ReadsAs W (.slice (some ⟨g, i, none⟩) (l.length - i) (mc - i)) (l.length - i) (intCells (l.drop i)) from fun W hW => Or.inr ⟨_, _, rfl, fun j u hj => by
              have hj' : (intCells l)[i + j]? = some u := by rw [← hj]; simp [intCells]
              have hlt' : i + j < l.length := by have := (List.getElem?_eq_some_iff.1 hj').1; simpa [intCells] using this
              rw [show (⟨g, i, none⟩ : Addr).add j = ⟨g, i + j, none⟩ from by simp [Addr.add], hW.cell (p := ⟨g, i + j, none⟩) hg, (unhide OW).cellAt (i + j) (by omega)]; exact hj'⟩)
            by_cases hi : i < l.length
            focus
              obtain ⟨g', cap, hv, hg', y0⟩ := own_get (unhide OW) hi
              simp only [Value.slice.injEq, Option.some.injEq, Addr.mk.injEq] at hv
              obtain ⟨⟨rfl, -⟩, -, rfl⟩ := hv
              have y0r : wr.cell? ⟨g, i, none⟩ = some (.int .i64 l[i]) := ((unhide HBW).cell (p := ⟨g, i, none⟩) hg).trans y0
              have lgr : g < wr.heap.size := Nat.lt_of_lt_of_le hg (unhide HBW).size
              have hy := hx hi
              clear hx
              generalize l[i] = y at *
            rotate_left
            focus
              clear RD
              have RD := hide (show ∀ W, Below w1.heap.size w1 W → ReadsAs W (.slice (if mc = i then some ⟨g, 0, none⟩ else some ⟨g, i, none⟩) (l.length - i) (mc - i)) (l.length - i) (intCells (l.drop i)) from fun W hW => by
                split <;> exact Or.inr ⟨_, _, rfl, fun j u hj => by rw [List.drop_eq_nil_of_le (by omega)] at hj; simp [intCells] at hj⟩)
          rotate_left 2
          focus
            obtain rfl : i = 0 := by simpa using hil
            have RD := hide (show ∀ W, Below w1.heap.size w1 W → ReadsAs W (.slice none 0 0) 0 (intCells []) from fun W hW => Or.inl ⟨rfl, rfl, rfl⟩)
          all_goals
            go_upto_region 9 with (at_builtin; refine wpList_append_reads rfl _ _ _ rfl 0 3 i0 _ 1 8 Tryz.underlying26 hi0 hz0 hz1 hz2 rfl (by omega) _ _ _ rfl ((unhide NEW).own.alloc _) _ 1 [.int .i64 n] rfl (Or.inr ⟨⟨wr.heap.size, 0, none⟩, 1, rfl, World.news_of_block (cs := #[.int .i64 n]) (t := 3) (fr := (0, 0)) (heap_alloc_new _ _)⟩) rfl (by simp [Value.oneCell']) (by simp only [maxLen]; omega) (by omega) (by omega) ?_; intro v' w' hown hgrow hat)
            have HB' := hide (below_append ((unhide HBW).alloc (unhide HBW).size _) hgrow (by have := (unhide HBW).size; simp; omega) (unhide NEW).new)
            have HN' := hide (NewI.app (l2 := [n]) ⟨(unhide NEW).own.alloc _, (unhide NEW).new⟩ ((unhide HBW).alloc (unhide HBW).size _) hown hat)
            clear hown hgrow hat
            have c4n := ((unhide HB').cell (p := ⟨sb, 4, none⟩) lsb).trans c4
            go_wp2_with (at_builtin; refine wpList_append_reads rfl _ _ _ rfl 0 3 i0 _ 1 8 Tryz.underlying26 hi0 hz0 hz1 hz2 rfl (by omega) _ _ _ rfl (unhide HN').own _ _ _ rfl (unhide RD _ (unhide HB')) (by simp [intCells]) one_ints (by simp only [maxLen]; omega) (by omega) (by omega) ?_; intro v2 w2 hown hgrow hat; obtain ⟨o2, cc2, rfl⟩ := owns_sl hown; have HB2 := hide (below_append (unhide HB') hgrow (unhide HB').size (unhide HN').new); have HN2 := hide (NewI.app (unhide HN') (unhide HB') (by first | (rw [List.length_drop]; exact hown) | exact hown) hat); have c42 := ((unhide HB2).cell (p := ⟨sb, 4, none⟩) lsb).trans c4; have z42 : ∀ o, w2.frozen? ⟨sb, o, none⟩ = false := (fun o => frozen_of_heap (((unhide HB2).block sb lsb).trans (unhide H).blk)); have ls2 : sb < w2.heap.size := Nat.lt_of_lt_of_le lsb (unhide HB2).size; clear hown hgrow hat)
            all_goals
              go_end0
              rw [unhide HM, unhide HPL]
              have hn2 := unhide HN2
              rw [hln, List.append_assoc] at hn2
              exact ⟨rfl, pv, _, (unhide H).marks (unhide HB2) hn2, Fr.setCell (p := ⟨sb, 4, none⟩) (fr_sb (sb := sb) (unhide HB2)) (Or.inl rfl) _⟩
end Go.Proofs.YtgdeeodifnegiaaGreatDoor.rf
