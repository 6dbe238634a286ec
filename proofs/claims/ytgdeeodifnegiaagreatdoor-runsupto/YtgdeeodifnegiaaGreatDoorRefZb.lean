/- The reference's badNumber. -/
import Derived.Test.YtgdeeodifnegiaaGreatDoorRefZ
namespace Go.Proofs.YtgdeeodifnegiaaGreatDoor.rf
open Go.RowKit

theorem badNums_drop {kids : List Tr} {i : Nat} (h : i < kids.length) : badNums (kids.drop i) = if 0 ≤ badNum kids[i] then badNum kids[i] else badNums (kids.drop (i + 1)) := by
  rw [List.drop_eq_getElem_cons h, badNums]
theorem WfTrs.get : ∀ (l : List Tr), WfTrs l → ∀ i, (h : i < l.length) → WfTr l[i]
  | [], _, i, h => absurd h (by simp)
  | t :: ts, hw, i, h => by
    rw [WfTrs] at hw
    cases i with
    | zero => exact hw.1
    | succ i => exact WfTrs.get ts hw.2 i (by simpa using h)

set_option maxRecDepth 100000 in
set_option maxHeartbeats 12800000 in
theorem badNumber_any (m : Nat) : ∀ (t : Tr) (w : World) (Q : Nat → Prop) (v : Value), trSize t ≤ m → WfTr t → TrAt w Q t v →
    Calls Tryz.prog 129 #[v] w fun e w' => e = .returned (.int .i64 (badNum t)) ∧ Below w.heap.size w w' := by
  induction m with
  | zero => intro t w Q v hm; cases t with | mk op text n a kids => rw [trSize] at hm; omega
  | succ m ih =>
    intro t w Q v hm hwf ht
    cases t with
    | mk op text n a kids =>
      rw [trSize] at hm
      rw [WfTr] at hwf
      rw [TrAt] at ht
      obtain ⟨kv, xs, rfl, ho, hq, ha⟩ := ht
      have hbig : kids.length ≤ 9223372036854775807 := by
        rcases ho.2 with ⟨_, h0⟩ | ⟨g, cap, cur, _, _, _, h1, h2, h3, _⟩
        · omega
        · have := h2; unfold maxLen at this; omega
      have hkid : kids = [] ∨ ∃ g cap, kv = .slice (some ⟨g, 0, none⟩) kids.length cap ∧ 0 < kids.length ∧ g < w.heap.size ∧ w.cell? ⟨g, 2, none⟩ = some (.int .i64 (kid0N kids)) ∧ w.cell? ⟨g, 3, none⟩ = some (.int .i64 (kid0A kids)) := by
        cases kids with
        | nil => left; rfl
        | cons k ks =>
          right
          rcases ho.2 with ⟨_, h0⟩ | ⟨g, cap, cur, e, _⟩
          · simp at h0
          · subst e
            obtain ⟨y0, y1, y2, y3, y4, x0, x1, x2, x3, x4, hk⟩ := AllTr.get _ xs ha 0 (by simp)
            refine ⟨g, cap, rfl, by simp, (ho.lt g rfl).2, ?_, ?_⟩
            · rw [ho.cellAt 2 (by simp; omega)]
              cases k with
              | mk ko kt kn ka kk =>
                rw [List.getElem_cons_zero, TrAt] at hk
                obtain ⟨kv', xs', e, _⟩ := hk
                cases e
                exact x2
            · rw [ho.cellAt 3 (by simp; omega)]
              cases k with
              | mk ko kt kn ka kk =>
                rw [List.getElem_cons_zero, TrAt] at hk
                obtain ⟨kv', xs', e, _⟩ := hk
                cases e
                exact x3
      have HO := hide ho
      have HA := hide ha
      have HIH := hide ih
      have HWF := hide hwf.2
      have hw1 := hwf.1
      have HB : Hid (badNum (.mk op text n a kids) = if (op.toList == lMarked) = true ∧ 65535 < n then a
    else if ((op.toList == lMark) = true ∨ (op.toList == lUnmark) = true) ∧ 65535 < kid0N kids then kid0A kids
    else if (op.toList == lPrepend) = true ∧ (kid0N kids < 1 ∨ 65535 < kid0N kids) then kid0A kids
    else badNums kids) := by unfold Hid; rw [badNum]
      clear ho hq ha ih hwf
      generalize kid0N kids = kn at *
      generalize kid0A kids = ka at *
      -- what the call comes to, by the tests
      by_cases c1 : (op.toList == lMarked) = true ∧ 65535 < n
      · have HW := hide ((unhide HB).trans (if_pos c1))
        obtain ⟨c1, c1'⟩ := c1
        clear hw1 hkid
        go_enter Tryz.func129, Tryz.ntmps129
        go_wp2_with fail
        go_ret
        exact ⟨ret_int (unhide HW).symm, (Below.refl _ _).alloc (Nat.le_refl _) _⟩
      · have hor1 : (op.toList == lMarked) = false ∨ ((op.toList == lMarked) = true ∧ n ≤ 65535) := by
          cases h1 : (op.toList == lMarked)
          · left; rfl
          · right; exact ⟨rfl, by rcases Classical.em (65535 < n) with h2 | h2; exact absurd ⟨h1, h2⟩ c1; omega⟩
        have HB1 := hide ((unhide HB).trans (if_neg c1))
        clear c1 HB
        rcases hkid with hk0 | ⟨g, cap, rfl, hpos, hgw, y2, y3⟩
        · have hk0' : kids.length = 0 := by rw [hk0]; rfl
          have hall : (op.toList == lMark) = false ∧ (op.toList == lUnmark) = false ∧ (op.toList == lPrepend) = false := by
            refine ⟨?_, ?_, ?_⟩
            · cases h : (op.toList == lMark); rfl; have := hw1 (by rw [h]; rfl); omega
            · cases h : (op.toList == lUnmark); rfl; have := hw1 (by rw [h]; simp); omega
            · cases h : (op.toList == lPrepend); rfl; have := hw1 (by rw [h]; simp); omega
          obtain ⟨e2, e3, e4⟩ := hall
          have HW := hide (show badNum (.mk op text n a kids) = badNums kids from (unhide HB1).trans ((if_neg (by simp [e2, e3])).trans (if_neg (by simp [e4]))))
          clear hk0 hk0' hw1 HB1
          rcases hor1 with e1 | ⟨e1, e1'⟩
          all_goals
            go_enter Tryz.func129, Tryz.ntmps129
            go_wp2_with fail
            go_loopg [3] kids.length (fun k i3 wr => ∃ i : Nat, i + k = kids.length ∧ i3 = .int .i64 i ∧ Below (w.heap.size + 1) (w.alloc (.cells (treeCells op text n a kv) 115)) wr ∧ badNums (kids.drop i) = badNums kids)
            case atStart => exact ⟨0, by omega, rfl, Below.refl _ _, rfl⟩
            case round =>
              obtain ⟨i, hik, rfl, hbl, hwd⟩ := hrel
              have q0 : wr.heap[w.heap.size]? = some (.cells (treeCells op text n a kv) 115 (0, 0)) := by rw [hbl.block _ (by omega)]; exact heap_alloc_new _ _
              have c4 : wr.cell? ⟨w.heap.size, 4, none⟩ = some kv := cell_of_heap q0
              have HWD := hide hwd
              have HBL := hide hbl
              clear hwd q0
              by_cases hi : i < kids.length
              · obtain ⟨g, cap, rfl⟩ : ∃ g cap, kv = .slice (some ⟨g, 0, none⟩) kids.length cap := by
                  rcases (unhide HO).2 with ⟨_, h0⟩ | ⟨g, cap, cur, e, _⟩
                  · omega
                  · exact ⟨g, cap, e⟩
                have hg : g < w.heap.size := ((unhide HO).lt g rfl).2
                obtain ⟨y0, y1, y2, y3, y4, x0, x1, x2, x3, x4, hk⟩ := AllTr.get kids xs (unhide HA) i hi
                have hcell : ∀ j y, j < kids.length * 5 → xs[j]? = some y → wr.cell? ⟨g, j, none⟩ = some y := fun j y hj hy => by
                  rw [hbl.cell (p := ⟨g, j, none⟩) (by show g < w.heap.size + 1; omega), World.cell?_of_block (Below.heap_alloc _ _ _ hg), (unhide HO).cellAt j hj]; exact hy
                have k0 := hcell (i * 5) _ (by omega) x0
                have k1 := hcell (i * 5 + 1) _ (by omega) x1
                have k2 := hcell (i * 5 + 2) _ (by omega) x2
                have k3 := hcell (i * 5 + 3) _ (by omega) x3
                have k4 := hcell (i * 5 + 4) _ (by omega) x4
                have TK := hide (show TrAt wr Q kids[i] (.agg #[y0, y1, y2, y3, y4]) from TrAt.keep (fun k hk _ => by rw [hbl.block k (by omega)]; exact Below.heap_alloc _ _ _ hk) (fun _ _ h => h) _ _ hk)
                have SZ := hide (show trSize kids[i] ≤ m by have := trSize_mem (List.getElem_mem hi); omega)
                have STP := hide (badNums_drop hi)
                have WFK := hide (WfTrs.get kids (unhide HWF) i hi)
                have hsb := hbl.size
                clear hcell x0 x1 x2 x3 x4 hk hbl
                go_wp2_with fail
                refine (unhide HIH _ _ _ _ (unhide SZ) (unhide WFK) (unhide TK)).mono ?_
                rintro e w5 ⟨rfl, hb5⟩
                have HB5 := hide ((unhide HBL).trans (hb5.mono (by simp at hsb; omega)))
                clear hb5 hsb k0 k1 k2 k3 k4 c4
                by_cases hw : 0 ≤ badNum kids[i]
                · have FIN := hide (show badNum kids[i] = badNum (.mk op text n a (kids)) from by rw [unhide HW, ← unhide HWD, unhide STP, if_pos hw])
                  generalize badNum kids[i] = q at *
                  go_wp2_with fail
                  go_ret
                  exact ⟨ret_int (unhide FIN), ((Below.refl _ _).alloc (Nat.le_refl _) _).trans ((unhide HB5).mono (by omega))⟩
                · have FIN := hide (show badNums (kids.drop (i + 1)) = badNums kids from by rw [← unhide HWD, unhide STP, if_neg hw])
                  generalize badNum kids[i] = q at *
                  go_wp2_with fail
                  go_roundg (kids.length - (i + 1))
                  case measure => omega
                  case rel => exact ⟨i + 1, by omega, by go_num, unhide HB5, unhide FIN⟩
              · have FIN := hide (show (-1 : Int) = badNum (.mk op text n a kids) from by rw [unhide HW, ← unhide HWD, List.drop_eq_nil_of_le (by omega), badNums])
                obtain ⟨oo, oc, rfl⟩ : ∃ oo oc, kv = .slice oo kids.length oc := by
                  rcases (unhide HO).2 with ⟨e, h0⟩ | ⟨g, cap, cur, e, _⟩
                  · exact ⟨none, 0, by rw [e, h0]⟩
                  · exact ⟨_, _, e⟩
                clear hbl
                go_wp2_with fail
                go_ret
                exact ⟨ret_int (unhide FIN), ((Below.refl _ _).alloc (Nat.le_refl _) _).trans ((unhide HBL).mono (by omega))⟩
        · clear hw1
          by_cases c2 : ((op.toList == lMark) = true ∨ (op.toList == lUnmark) = true) ∧ 65535 < kn
          · have HW := hide ((unhide HB1).trans (if_pos c2))
            obtain ⟨c2, c2'⟩ := c2
            have hor2 : (op.toList == lMark) = true ∨ ((op.toList == lMark) = false ∧ (op.toList == lUnmark) = true) := by
              cases h : (op.toList == lMark)
              · right; rcases c2 with h1 | h1; rw [h] at h1; cases h1; exact ⟨rfl, h1⟩
              · left; rfl
            clear c2 HB1
            rcases hor1 with e1 | ⟨e1, e1'⟩
            all_goals
              rcases hor2 with e2 | ⟨e2, e3⟩
              all_goals
                go_enter Tryz.func129, Tryz.ntmps129
                go_wp2_with fail
                go_ret
                exact ⟨ret_int (unhide HW).symm, (Below.refl _ _).alloc (Nat.le_refl _) _⟩
          · have HB2 := hide ((unhide HB1).trans (if_neg c2))
            have hor2 : ((op.toList == lMark) = false ∧ (op.toList == lUnmark) = false) ∨ ((op.toList == lMark) = true ∧ kn ≤ 65535) ∨ ((op.toList == lMark) = false ∧ (op.toList == lUnmark) = true ∧ kn ≤ 65535) := by
              have hle : ((op.toList == lMark) = true ∨ (op.toList == lUnmark) = true) → kn ≤ 65535 := fun h => by
                rcases Classical.em (65535 < kn) with h2 | h2
                · exact absurd ⟨h, h2⟩ c2
                · omega
              cases h1 : (op.toList == lMark)
              · cases h2 : (op.toList == lUnmark)
                · left; exact ⟨rfl, rfl⟩
                · right; right; exact ⟨rfl, rfl, hle (Or.inr h2)⟩
              · right; left; exact ⟨rfl, hle (Or.inl h1)⟩
            clear c2 HB1
            by_cases c3 : (op.toList == lPrepend) = true ∧ (kn < 1 ∨ 65535 < kn)
            · have HW := hide ((unhide HB2).trans (if_pos c3))
              obtain ⟨e4, c3⟩ := c3
              clear HB2
              rcases hor1 with e1 | ⟨e1, e1'⟩
              all_goals
                rcases hor2 with ⟨e2, e3⟩ | ⟨e2, e2'⟩ | ⟨e2, e3, e3'⟩
                all_goals
                  rcases c3 with c3 | c3
                  all_goals first
                    | (exfalso; omega)
                    | (go_enter Tryz.func129, Tryz.ntmps129; go_wp2_with fail; go_ret; exact ⟨ret_int (unhide HW).symm, (Below.refl _ _).alloc (Nat.le_refl _) _⟩)
            · have HW := hide (show badNum (.mk op text n a kids) = badNums kids from (unhide HB2).trans (if_neg c3))
              have hor3 : (op.toList == lPrepend) = false ∨ ((op.toList == lPrepend) = true ∧ 1 ≤ kn ∧ kn ≤ 65535) := by
                cases h1 : (op.toList == lPrepend)
                · left; rfl
                · right; refine ⟨rfl, ?_, ?_⟩ <;> (rcases Classical.em (kn < 1 ∨ 65535 < kn) with h2 | h2; exact absurd ⟨h1, h2⟩ c3; omega)
              clear c3 HB2
              rcases hor1 with e1 | ⟨e1, e1'⟩
              all_goals
                rcases hor2 with ⟨e2, e3⟩ | ⟨e2, e2'⟩ | ⟨e2, e3, e3'⟩
                all_goals
                  rcases hor3 with e4 | ⟨e4, e4', e4''⟩
                  all_goals
                    go_enter Tryz.func129, Tryz.ntmps129
                    go_wp2_with fail
                    go_loopg [3] kids.length (fun k i3 wr => ∃ i : Nat, i + k = kids.length ∧ i3 = .int .i64 i ∧ Below (w.heap.size + 1) (w.alloc (.cells (treeCells op text n a (.slice (some ⟨g, 0, none⟩) kids.length cap)) 115)) wr ∧ badNums (kids.drop i) = badNums kids)
                    case atStart => exact ⟨0, by omega, rfl, Below.refl _ _, rfl⟩
                    case round =>
                      obtain ⟨i, hik, rfl, hbl, hwd⟩ := hrel
                      have q0 : wr.heap[w.heap.size]? = some (.cells (treeCells op text n a (.slice (some ⟨g, 0, none⟩) kids.length cap)) 115 (0, 0)) := by rw [hbl.block _ (by omega)]; exact heap_alloc_new _ _
                      have c4 : wr.cell? ⟨w.heap.size, 4, none⟩ = some (.slice (some ⟨g, 0, none⟩) kids.length cap) := cell_of_heap q0
                      have HWD := hide hwd
                      have HBL := hide hbl
                      clear hwd q0
                      by_cases hi : i < kids.length
                      · have hg : g < w.heap.size := ((unhide HO).lt g rfl).2
                        obtain ⟨y0, y1, y2, y3, y4, x0, x1, x2, x3, x4, hk⟩ := AllTr.get kids xs (unhide HA) i hi
                        have hcell : ∀ j y, j < kids.length * 5 → xs[j]? = some y → wr.cell? ⟨g, j, none⟩ = some y := fun j y hj hy => by
                          rw [hbl.cell (p := ⟨g, j, none⟩) (by show g < w.heap.size + 1; omega), World.cell?_of_block (Below.heap_alloc _ _ _ hg), (unhide HO).cellAt j hj]; exact hy
                        have k0 := hcell (i * 5) _ (by omega) x0
                        have k1 := hcell (i * 5 + 1) _ (by omega) x1
                        have k2 := hcell (i * 5 + 2) _ (by omega) x2
                        have k3 := hcell (i * 5 + 3) _ (by omega) x3
                        have k4 := hcell (i * 5 + 4) _ (by omega) x4
                        have TK := hide (show TrAt wr Q kids[i] (.agg #[y0, y1, y2, y3, y4]) from TrAt.keep (fun k hk _ => by rw [hbl.block k (by omega)]; exact Below.heap_alloc _ _ _ hk) (fun _ _ h => h) _ _ hk)
                        have SZ := hide (show trSize kids[i] ≤ m by have := trSize_mem (List.getElem_mem hi); omega)
                        have STP := hide (badNums_drop hi)
                        have WFK := hide (WfTrs.get kids (unhide HWF) i hi)
                        have hsb := hbl.size
                        clear hcell x0 x1 x2 x3 x4 hk hbl
                        go_wp2_with fail
                        refine (unhide HIH _ _ _ _ (unhide SZ) (unhide WFK) (unhide TK)).mono ?_
                        rintro e w5 ⟨rfl, hb5⟩
                        have HB5 := hide ((unhide HBL).trans (hb5.mono (by simp at hsb; omega)))
                        clear hb5 hsb k0 k1 k2 k3 k4 c4
                        by_cases hw : 0 ≤ badNum kids[i]
                        · have FIN := hide (show badNum kids[i] = badNum (.mk op text n a (kids)) from by rw [unhide HW, ← unhide HWD, unhide STP, if_pos hw])
                          generalize badNum kids[i] = q at *
                          go_wp2_with fail
                          go_ret
                          exact ⟨ret_int (unhide FIN), ((Below.refl _ _).alloc (Nat.le_refl _) _).trans ((unhide HB5).mono (by omega))⟩
                        · have FIN := hide (show badNums (kids.drop (i + 1)) = badNums kids from by rw [← unhide HWD, unhide STP, if_neg hw])
                          generalize badNum kids[i] = q at *
                          go_wp2_with fail
                          go_roundg (kids.length - (i + 1))
                          case measure => omega
                          case rel => exact ⟨i + 1, by omega, by go_num, unhide HB5, unhide FIN⟩
                      · have FIN := hide (show (-1 : Int) = badNum (.mk op text n a kids) from by rw [unhide HW, ← unhide HWD, List.drop_eq_nil_of_le (by omega), badNums])
                        clear hbl
                        go_wp2_with fail
                        go_ret
                        exact ⟨ret_int (unhide FIN), ((Below.refl _ _).alloc (Nat.le_refl _) _).trans ((unhide HBL).mono (by omega))⟩
end Go.Proofs.YtgdeeodifnegiaaGreatDoor.rf
