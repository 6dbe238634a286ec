/- The reference's stray. -/
import Derived.Test.YtgdeeodifnegiaaGreatDoorRefZc
namespace Go.Proofs.YtgdeeodifnegiaaGreatDoor.rf
open Go.RowKit

theorem strays_drop {ds : List Df} {kids : List Tr} {i : Nat} (h : i < kids.length) : strays ds (kids.drop i) = if 0 ≤ strayT ds kids[i] then strayT ds kids[i] else strays ds (kids.drop (i + 1)) := by
  rw [List.drop_eq_getElem_cons h, strays]

set_option maxRecDepth 100000 in
set_option maxHeartbeats 6400000 in
theorem stray_any (pb : Nat) (ds : List Df) (m : Nat) : ∀ (t : Tr) (w : World) (Q : Nat → Prop) (v : Value), trSize t ≤ m → DefsIn w pb ds → TrAt w Q t v →
    Calls Tryz.prog 127 #[ptr pb, v] w fun e w' => e = .returned (.int .i64 (strayT ds t)) ∧ Below w.heap.size w w' := by
  induction m with
  | zero => intro t w Q v hm; cases t with | mk op text n a kids => rw [trSize] at hm; omega
  | succ m ih =>
    intro t w Q v hm hdf ht
    cases t with
    | mk op text n a kids =>
      rw [trSize] at hm
      rw [TrAt] at ht
      obtain ⟨kv, xs, rfl, ho, hq, ha⟩ := ht
      have hbig : kids.length ≤ 9223372036854775807 := by
        rcases ho.2 with ⟨_, h0⟩ | ⟨g, cap, cur, _, _, _, h1, h2, h3, _⟩
        · omega
        · have := h2; unfold maxLen at this; omega
      have HO := hide ho
      have HA := hide ha
      have HIH := hide ih
      have HDF := hide hdf
      have HDW := hide (hdf.later ((Below.refl w.heap.size w).alloc (Nat.le_refl _) (.cells (treeCells op text n a kv) 115)))
      have HB : Hid (strayT ds (.mk op text n a kids) = if ((op.toList == lIn) = true ∨ (op.toList == lLike) = true) ∧ findI text (op.toList == lLike) ds 0 < 0 then a else strays ds kids) := by unfold Hid; rw [strayT]
      clear ho hq ha ih hdf
      have hor : ((op.toList == lIn) = false ∧ (op.toList == lLike) = false) ∨ ((op.toList == lIn) = true) ∨ ((op.toList == lIn) = false ∧ (op.toList == lLike) = true) := by
        cases (op.toList == lIn) <;> cases (op.toList == lLike) <;> simp
      rcases hor with ⟨e1, e2⟩ | hor
      · have HW := hide ((unhide HB).trans (if_neg (by simp [e1, e2])))
        clear HB
        go_enter Tryz.func127, Tryz.ntmps127
        go_wp2_with fail
        go_loopg [5] kids.length (fun k i3 wr => ∃ i : Nat, i + k = kids.length ∧ i3 = .int .i64 i ∧ Below (w.heap.size + 1) (w.alloc (.cells (treeCells op text n a kv) 115)) wr ∧ strays ds (kids.drop i) = strays ds kids)
        case atStart => exact ⟨0, by omega, rfl, Below.refl _ _, rfl⟩
        case round =>
          obtain ⟨i, hik, rfl, hbl, hwd⟩ := hrel
          have q0 : wr.heap[w.heap.size]? = some (.cells (treeCells op text n a kv) 115 (0, 0)) := by rw [hbl.block _ (by omega)]; exact heap_alloc_new _ _
          have c4 : wr.cell? ⟨w.heap.size, 4, none⟩ = some kv := cell_of_heap q0
          have HWD := hide hwd
          have HBL := hide hbl
          clear hwd q0
          by_cases hi : i < kids.length
          · obtain ⟨g, cap, rfl⟩ : ∃ g cap, kv = .slice (some ⟨g, 0, none⟩) kids.length cap := by
              rcases (unhide HO).2 with ⟨_, h0⟩ | ⟨g, cap, cur, e, _⟩
              · omega
              · exact ⟨g, cap, e⟩
            have hg : g < w.heap.size := ((unhide HO).lt g rfl).2
            obtain ⟨y0, y1, y2, y3, y4, x0, x1, x2, x3, x4, hk⟩ := AllTr.get kids xs (unhide HA) i hi
            have hcell : ∀ j y, j < kids.length * 5 → xs[j]? = some y → wr.cell? ⟨g, j, none⟩ = some y := fun j y hj hy => by
              rw [hbl.cell (p := ⟨g, j, none⟩) (by show g < w.heap.size + 1; omega), World.cell?_of_block (Below.heap_alloc _ _ _ hg), (unhide HO).cellAt j hj]; exact hy
            have k0 := hcell (i * 5) _ (by omega) x0
            have k1 := hcell (i * 5 + 1) _ (by omega) x1
            have k2 := hcell (i * 5 + 2) _ (by omega) x2
            have k3 := hcell (i * 5 + 3) _ (by omega) x3
            have k4 := hcell (i * 5 + 4) _ (by omega) x4
            have TK := hide (show TrAt wr Q kids[i] (.agg #[y0, y1, y2, y3, y4]) from TrAt.keep (fun k hk _ => by rw [hbl.block k (by omega)]; exact Below.heap_alloc _ _ _ hk) (fun _ _ h => h) _ _ hk)
            have SZ := hide (show trSize kids[i] ≤ m by have := trSize_mem (List.getElem_mem hi); omega)
            have STP := hide (strays_drop (ds := ds) hi)
            have hsb := hbl.size
            have DFK := hide (show DefsIn wr pb ds from (unhide HDF).later ⟨hbl.os, hbl.tape, hbl.output, by simp at hsb; omega, fun k hk => (hbl.block k (by omega)).trans (Below.heap_alloc _ _ _ hk)⟩)
            clear hcell x0 x1 x2 x3 x4 hk hbl
            go_wp2_with fail
            refine (unhide HIH _ _ _ _ (unhide SZ) (unhide DFK) (unhide TK)).mono ?_
            rintro e w5 ⟨rfl, hb5⟩
            have HB5 := hide ((unhide HBL).trans (hb5.mono (by simp at hsb; omega)))
            clear hb5 hsb k0 k1 k2 k3 k4 c4
            by_cases hw : 0 ≤ strayT ds kids[i]
            · have FIN := hide (show strayT ds kids[i] = strayT ds (.mk op text n a (kids)) from by rw [unhide HW, ← unhide HWD, unhide STP, if_pos hw])
              generalize strayT ds kids[i] = q at *
              go_wp2_with fail
              go_ret
              exact ⟨ret_int (unhide FIN), ((Below.refl _ _).alloc (Nat.le_refl _) _).trans ((unhide HB5).mono (by omega))⟩
            · have FIN := hide (show strays ds (kids.drop (i + 1)) = strays ds kids from by rw [← unhide HWD, unhide STP, if_neg hw])
              generalize strayT ds kids[i] = q at *
              go_wp2_with fail
              go_roundg (kids.length - (i + 1))
              case measure => omega
              case rel => exact ⟨i + 1, by omega, by go_num, unhide HB5, unhide FIN⟩
          · have FIN := hide (show (-1 : Int) = strayT ds (.mk op text n a kids) from by rw [unhide HW, ← unhide HWD, List.drop_eq_nil_of_le (by omega), strays])
            obtain ⟨oo, oc, rfl⟩ : ∃ oo oc, kv = .slice oo kids.length oc := by
              rcases (unhide HO).2 with ⟨e, h0⟩ | ⟨g, cap, cur, e, _⟩
              · exact ⟨none, 0, by rw [e, h0]⟩
              · exact ⟨_, _, e⟩
            clear hbl
            go_wp2_with fail
            go_ret
            exact ⟨ret_int (unhide FIN), ((Below.refl _ _).alloc (Nat.le_refl _) _).trans ((unhide HBL).mono (by omega))⟩
      · have A1 := hide (find_any (unhide HDW) text (op.toList == lLike))
        have hsome : (op.toList == lIn) = true ∨ (op.toList == lLike) = true := by
          rcases hor with h | h
          · exact Or.inl h
          · exact Or.inr h.2
        by_cases hlt0 : findI text (op.toList == lLike) ds 0 < 0
        · have HW := hide ((unhide HB).trans (if_pos ⟨hsome, hlt0⟩))
          clear HB hsome
          generalize findI text (op.toList == lLike) ds 0 = fi at *
          rcases hor with e1 | ⟨e1, e2⟩
          · cases hlk : (op.toList == lLike)
            all_goals
              rw [hlk] at A1
              go_enter Tryz.func127, Tryz.ntmps127
              go_wp2_with fail
              refine (unhide A1).mono ?_
              rintro e w0 ⟨rfl, rfl⟩
              go_wp2_with fail
              go_ret
              exact ⟨ret_int (unhide HW).symm, (Below.refl _ _).alloc (Nat.le_refl _) _⟩
          · rw [e2] at A1
            go_enter Tryz.func127, Tryz.ntmps127
            go_wp2_with fail
            refine (unhide A1).mono ?_
            rintro e w0 ⟨rfl, rfl⟩
            go_wp2_with fail
            go_ret
            exact ⟨ret_int (unhide HW).symm, (Below.refl _ _).alloc (Nat.le_refl _) _⟩
        · have HW := hide ((unhide HB).trans (if_neg (fun h => hlt0 h.2)))
          clear HB hsome
          generalize findI text (op.toList == lLike) ds 0 = fi at *
          rcases hor with e1 | ⟨e1, e2⟩
          · cases hlk : (op.toList == lLike)
            all_goals
              rw [hlk] at A1
              go_enter Tryz.func127, Tryz.ntmps127
              go_wp2_with fail
              refine (unhide A1).mono ?_
              rintro e w0 ⟨rfl, hw0⟩
              subst hw0
              go_wp2_with fail
              go_loopg [5] kids.length (fun k i3 wr => ∃ i : Nat, i + k = kids.length ∧ i3 = .int .i64 i ∧ Below (w.heap.size + 1) (w.alloc (.cells (treeCells op text n a kv) 115)) wr ∧ strays ds (kids.drop i) = strays ds kids)
              case atStart => exact ⟨0, by omega, rfl, Below.refl _ _, rfl⟩
              case round =>
                obtain ⟨i, hik, rfl, hbl, hwd⟩ := hrel
                have q0 : wr.heap[w.heap.size]? = some (.cells (treeCells op text n a kv) 115 (0, 0)) := by rw [hbl.block _ (by omega)]; exact heap_alloc_new _ _
                have c4 : wr.cell? ⟨w.heap.size, 4, none⟩ = some kv := cell_of_heap q0
                have HWD := hide hwd
                have HBL := hide hbl
                clear hwd q0
                by_cases hi : i < kids.length
                · obtain ⟨g, cap, rfl⟩ : ∃ g cap, kv = .slice (some ⟨g, 0, none⟩) kids.length cap := by
                    rcases (unhide HO).2 with ⟨_, h0⟩ | ⟨g, cap, cur, e, _⟩
                    · omega
                    · exact ⟨g, cap, e⟩
                  have hg : g < w.heap.size := ((unhide HO).lt g rfl).2
                  obtain ⟨y0, y1, y2, y3, y4, x0, x1, x2, x3, x4, hk⟩ := AllTr.get kids xs (unhide HA) i hi
                  have hcell : ∀ j y, j < kids.length * 5 → xs[j]? = some y → wr.cell? ⟨g, j, none⟩ = some y := fun j y hj hy => by
                    rw [hbl.cell (p := ⟨g, j, none⟩) (by show g < w.heap.size + 1; omega), World.cell?_of_block (Below.heap_alloc _ _ _ hg), (unhide HO).cellAt j hj]; exact hy
                  have k0 := hcell (i * 5) _ (by omega) x0
                  have k1 := hcell (i * 5 + 1) _ (by omega) x1
                  have k2 := hcell (i * 5 + 2) _ (by omega) x2
                  have k3 := hcell (i * 5 + 3) _ (by omega) x3
                  have k4 := hcell (i * 5 + 4) _ (by omega) x4
                  have TK := hide (show TrAt wr Q kids[i] (.agg #[y0, y1, y2, y3, y4]) from TrAt.keep (fun k hk _ => by rw [hbl.block k (by omega)]; exact Below.heap_alloc _ _ _ hk) (fun _ _ h => h) _ _ hk)
                  have SZ := hide (show trSize kids[i] ≤ m by have := trSize_mem (List.getElem_mem hi); omega)
                  have STP := hide (strays_drop (ds := ds) hi)
                  have hsb := hbl.size
                  have DFK := hide (show DefsIn wr pb ds from (unhide HDF).later ⟨hbl.os, hbl.tape, hbl.output, by simp at hsb; omega, fun k hk => (hbl.block k (by omega)).trans (Below.heap_alloc _ _ _ hk)⟩)
                  clear hcell x0 x1 x2 x3 x4 hk hbl
                  go_wp2_with fail
                  refine (unhide HIH _ _ _ _ (unhide SZ) (unhide DFK) (unhide TK)).mono ?_
                  rintro e w5 ⟨rfl, hb5⟩
                  have HB5 := hide ((unhide HBL).trans (hb5.mono (by simp at hsb; omega)))
                  clear hb5 hsb k0 k1 k2 k3 k4 c4
                  by_cases hw : 0 ≤ strayT ds kids[i]
                  · have FIN := hide (show strayT ds kids[i] = strayT ds (.mk op text n a (kids)) from by rw [unhide HW, ← unhide HWD, unhide STP, if_pos hw])
                    generalize strayT ds kids[i] = q at *
                    go_wp2_with fail
                    go_ret
                    exact ⟨ret_int (unhide FIN), ((Below.refl _ _).alloc (Nat.le_refl _) _).trans ((unhide HB5).mono (by omega))⟩
                  · have FIN := hide (show strays ds (kids.drop (i + 1)) = strays ds kids from by rw [← unhide HWD, unhide STP, if_neg hw])
                    generalize strayT ds kids[i] = q at *
                    go_wp2_with fail
                    go_roundg (kids.length - (i + 1))
                    case measure => omega
                    case rel => exact ⟨i + 1, by omega, by go_num, unhide HB5, unhide FIN⟩
                · have FIN := hide (show (-1 : Int) = strayT ds (.mk op text n a kids) from by rw [unhide HW, ← unhide HWD, List.drop_eq_nil_of_le (by omega), strays])
                  obtain ⟨oo, oc, rfl⟩ : ∃ oo oc, kv = .slice oo kids.length oc := by
                    rcases (unhide HO).2 with ⟨e, h0⟩ | ⟨g, cap, cur, e, _⟩
                    · exact ⟨none, 0, by rw [e, h0]⟩
                    · exact ⟨_, _, e⟩
                  clear hbl
                  go_wp2_with fail
                  go_ret
                  exact ⟨ret_int (unhide FIN), ((Below.refl _ _).alloc (Nat.le_refl _) _).trans ((unhide HBL).mono (by omega))⟩
          · rw [e2] at A1
            go_enter Tryz.func127, Tryz.ntmps127
            go_wp2_with fail
            refine (unhide A1).mono ?_
            rintro e w0 ⟨rfl, hw0⟩
            subst hw0
            go_wp2_with fail
            go_loopg [5] kids.length (fun k i3 wr => ∃ i : Nat, i + k = kids.length ∧ i3 = .int .i64 i ∧ Below (w.heap.size + 1) (w.alloc (.cells (treeCells op text n a kv) 115)) wr ∧ strays ds (kids.drop i) = strays ds kids)
            case atStart => exact ⟨0, by omega, rfl, Below.refl _ _, rfl⟩
            case round =>
              obtain ⟨i, hik, rfl, hbl, hwd⟩ := hrel
              have q0 : wr.heap[w.heap.size]? = some (.cells (treeCells op text n a kv) 115 (0, 0)) := by rw [hbl.block _ (by omega)]; exact heap_alloc_new _ _
              have c4 : wr.cell? ⟨w.heap.size, 4, none⟩ = some kv := cell_of_heap q0
              have HWD := hide hwd
              have HBL := hide hbl
              clear hwd q0
              by_cases hi : i < kids.length
              · obtain ⟨g, cap, rfl⟩ : ∃ g cap, kv = .slice (some ⟨g, 0, none⟩) kids.length cap := by
                  rcases (unhide HO).2 with ⟨_, h0⟩ | ⟨g, cap, cur, e, _⟩
                  · omega
                  · exact ⟨g, cap, e⟩
                have hg : g < w.heap.size := ((unhide HO).lt g rfl).2
                obtain ⟨y0, y1, y2, y3, y4, x0, x1, x2, x3, x4, hk⟩ := AllTr.get kids xs (unhide HA) i hi
                have hcell : ∀ j y, j < kids.length * 5 → xs[j]? = some y → wr.cell? ⟨g, j, none⟩ = some y := fun j y hj hy => by
                  rw [hbl.cell (p := ⟨g, j, none⟩) (by show g < w.heap.size + 1; omega), World.cell?_of_block (Below.heap_alloc _ _ _ hg), (unhide HO).cellAt j hj]; exact hy
                have k0 := hcell (i * 5) _ (by omega) x0
                have k1 := hcell (i * 5 + 1) _ (by omega) x1
                have k2 := hcell (i * 5 + 2) _ (by omega) x2
                have k3 := hcell (i * 5 + 3) _ (by omega) x3
                have k4 := hcell (i * 5 + 4) _ (by omega) x4
                have TK := hide (show TrAt wr Q kids[i] (.agg #[y0, y1, y2, y3, y4]) from TrAt.keep (fun k hk _ => by rw [hbl.block k (by omega)]; exact Below.heap_alloc _ _ _ hk) (fun _ _ h => h) _ _ hk)
                have SZ := hide (show trSize kids[i] ≤ m by have := trSize_mem (List.getElem_mem hi); omega)
                have STP := hide (strays_drop (ds := ds) hi)
                have hsb := hbl.size
                have DFK := hide (show DefsIn wr pb ds from (unhide HDF).later ⟨hbl.os, hbl.tape, hbl.output, by simp at hsb; omega, fun k hk => (hbl.block k (by omega)).trans (Below.heap_alloc _ _ _ hk)⟩)
                clear hcell x0 x1 x2 x3 x4 hk hbl
                go_wp2_with fail
                refine (unhide HIH _ _ _ _ (unhide SZ) (unhide DFK) (unhide TK)).mono ?_
                rintro e w5 ⟨rfl, hb5⟩
                have HB5 := hide ((unhide HBL).trans (hb5.mono (by simp at hsb; omega)))
                clear hb5 hsb k0 k1 k2 k3 k4 c4
                by_cases hw : 0 ≤ strayT ds kids[i]
                · have FIN := hide (show strayT ds kids[i] = strayT ds (.mk op text n a (kids)) from by rw [unhide HW, ← unhide HWD, unhide STP, if_pos hw])
                  generalize strayT ds kids[i] = q at *
                  go_wp2_with fail
                  go_ret
                  exact ⟨ret_int (unhide FIN), ((Below.refl _ _).alloc (Nat.le_refl _) _).trans ((unhide HB5).mono (by omega))⟩
                · have FIN := hide (show strays ds (kids.drop (i + 1)) = strays ds kids from by rw [← unhide HWD, unhide STP, if_neg hw])
                  generalize strayT ds kids[i] = q at *
                  go_wp2_with fail
                  go_roundg (kids.length - (i + 1))
                  case measure => omega
                  case rel => exact ⟨i + 1, by omega, by go_num, unhide HB5, unhide FIN⟩
              · have FIN := hide (show (-1 : Int) = strayT ds (.mk op text n a kids) from by rw [unhide HW, ← unhide HWD, List.drop_eq_nil_of_le (by omega), strays])
                obtain ⟨oo, oc, rfl⟩ : ∃ oo oc, kv = .slice oo kids.length oc := by
                  rcases (unhide HO).2 with ⟨e, h0⟩ | ⟨g, cap, cur, e, _⟩
                  · exact ⟨none, 0, by rw [e, h0]⟩
                  · exact ⟨_, _, e⟩
                clear hbl
                go_wp2_with fail
                go_ret
                exact ⟨ret_int (unhide FIN), ((Below.refl _ _).alloc (Nat.le_refl _) _).trans ((unhide HBL).mono (by omega))⟩
end Go.Proofs.YtgdeeodifnegiaaGreatDoor.rf
