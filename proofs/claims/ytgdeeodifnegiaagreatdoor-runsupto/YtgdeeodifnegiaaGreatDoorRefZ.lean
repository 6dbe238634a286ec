/- The reference's walks over trees: wayNumber. -/
import Derived.Test.YtgdeeodifnegiaaGreatDoorRefY
namespace Go.Proofs.YtgdeeodifnegiaaGreatDoor.rf
open Go.RowKit

theorem trSize_mem {t : Tr} : ∀ {l : List Tr}, t ∈ l → trSize t ≤ trSizes l
  | [], h => by cases h
  | u :: us, h => by
    rw [trSizes]
    cases h with
    | head => omega
    | tail _ h => have := trSize_mem h; omega
theorem AllTr.get {w : World} {Q : Nat → Prop} : ∀ (ts : List Tr) (xs : List Value), AllTr w Q ts xs → ∀ i, (h : i < ts.length) → ∃ a b c d e, xs[i * 5]? = some a ∧ xs[i * 5 + 1]? = some b ∧ xs[i * 5 + 2]? = some c ∧ xs[i * 5 + 3]? = some d ∧ xs[i * 5 + 4]? = some e ∧ TrAt w Q ts[i] (.agg #[a, b, c, d, e])
  | [], xs, _, i, h => absurd h (by simp)
  | t :: ts, xs, ha, i, h => by
    rw [AllTr] at ha
    obtain ⟨a, b, c, d, e, r, ex, ht, hr⟩ := ha
    subst ex
    cases i with
    | zero => exact ⟨a, b, c, d, e, rfl, rfl, rfl, rfl, rfl, ht⟩
    | succ i =>
      obtain ⟨a', b', c', d', e', h0, h1, h2, h3, h4, h5⟩ := AllTr.get ts r hr i (by simpa using h)
      refine ⟨a', b', c', d', e', ?_, ?_, ?_, ?_, ?_, h5⟩
      · rw [show (i + 1) * 5 = i * 5 + 5 by omega]; simpa using h0
      · rw [show (i + 1) * 5 + 1 = i * 5 + 1 + 5 by omega]; simpa using h1
      · rw [show (i + 1) * 5 + 2 = i * 5 + 2 + 5 by omega]; simpa using h2
      · rw [show (i + 1) * 5 + 3 = i * 5 + 3 + 5 by omega]; simpa using h3
      · rw [show (i + 1) * 5 + 4 = i * 5 + 4 + 5 by omega]; simpa using h4

theorem wayNums_drop {kids : List Tr} {i : Nat} (h : i < kids.length) : wayNums (kids.drop i) = if 0 ≤ wayNum kids[i] then wayNum kids[i] else wayNums (kids.drop (i + 1)) := by
  rw [List.drop_eq_getElem_cons h, wayNums]

set_option maxRecDepth 100000 in
set_option maxHeartbeats 3200000 in
theorem wayNumber_any (m : Nat) : ∀ (t : Tr) (w : World) (Q : Nat → Prop) (v : Value), trSize t ≤ m → TrAt w Q t v →
    Calls Tryz.prog 128 #[v] w fun e w' => e = .returned (.int .i64 (wayNum t)) ∧ Below w.heap.size w w' := by
  induction m with
  | zero => intro t w Q v hm; cases t with | mk op text n a kids => rw [trSize] at hm; omega
  | succ m ih =>
    intro t w Q v hm ht
    cases t with
    | mk op text n a kids =>
      rw [trSize] at hm
      rw [TrAt] at ht
      obtain ⟨kv, xs, rfl, ho, hq, ha⟩ := ht
      have hbig : kids.length ≤ 9223372036854775807 := by
        rcases ho.2 with ⟨_, h0⟩ | ⟨g, cap, cur, _, _, _, h1, h2, h3, _⟩
        · omega
        · have := h2; unfold maxLen at this; omega
      have HO := hide ho
      have HA := hide ha
      have HIH := hide ih
      clear ho hq ha ih
      by_cases hb : (op.toList == lNumber) = true ∧ (n < 1 ∨ 65535 < n)
      · have HW : Hid (wayNum (.mk op text n a kids) = a) := by unfold Hid; rw [wayNum, if_pos hb]
        obtain ⟨h1, h2⟩ := hb
        rcases h2 with h2 | h2
        all_goals
          go_enter Tryz.func128, Tryz.ntmps128
          go_wp2_with fail
          go_ret
          exact ⟨ret_int (unhide HW).symm, (Below.refl _ _).alloc (Nat.le_refl _) _⟩
      · have HW : Hid (wayNum (.mk op text n a kids) = wayNums kids) := by unfold Hid; rw [wayNum, if_neg hb]
        have hor : (op.toList == lNumber) = false ∨ ((op.toList == lNumber) = true ∧ 1 ≤ n ∧ n ≤ 65535) := by
          cases h1 : (op.toList == lNumber)
          · left; rfl
          · right; refine ⟨rfl, ?_, ?_⟩ <;> (rcases Classical.em (n < 1 ∨ 65535 < n) with h2 | h2; exact absurd ⟨h1, h2⟩ hb; omega)
        clear hb
        rcases hor with h1 | ⟨h1, h2, h3⟩
        all_goals
          go_enter Tryz.func128, Tryz.ntmps128
          go_wp2_with fail
          go_loopg [3] kids.length (fun k i3 wr => ∃ i : Nat, i + k = kids.length ∧ i3 = .int .i64 i ∧ Below (w.heap.size + 1) (w.alloc (.cells (treeCells op text n a kv) 115)) wr ∧ wayNums (kids.drop i) = wayNums kids)
          case atStart => exact ⟨0, by omega, rfl, Below.refl _ _, rfl⟩
          case round =>
            obtain ⟨i, hik, rfl, hbl, hwd⟩ := hrel
            have q0 : wr.heap[w.heap.size]? = some (.cells (treeCells op text n a kv) 115 (0, 0)) := by rw [hbl.block _ (by omega)]; exact heap_alloc_new _ _
            have c4 : wr.cell? ⟨w.heap.size, 4, none⟩ = some kv := cell_of_heap q0
            have HWD := hide hwd
            have HBL := hide hbl
            clear hwd q0
            by_cases hi : i < kids.length
            · obtain ⟨g, cap, rfl⟩ : ∃ g cap, kv = .slice (some ⟨g, 0, none⟩) kids.length cap := by
                rcases (unhide HO).2 with ⟨_, h0⟩ | ⟨g, cap, cur, e, _⟩
                · omega
                · exact ⟨g, cap, e⟩
              have hg : g < w.heap.size := ((unhide HO).lt g rfl).2
              obtain ⟨y0, y1, y2, y3, y4, x0, x1, x2, x3, x4, hk⟩ := AllTr.get kids xs (unhide HA) i hi
              have hcell : ∀ j y, j < kids.length * 5 → xs[j]? = some y → wr.cell? ⟨g, j, none⟩ = some y := fun j y hj hy => by
                rw [hbl.cell (p := ⟨g, j, none⟩) (by show g < w.heap.size + 1; omega), World.cell?_of_block (Below.heap_alloc _ _ _ hg), (unhide HO).cellAt j hj]; exact hy
              have k0 := hcell (i * 5) _ (by omega) x0
              have k1 := hcell (i * 5 + 1) _ (by omega) x1
              have k2 := hcell (i * 5 + 2) _ (by omega) x2
              have k3 := hcell (i * 5 + 3) _ (by omega) x3
              have k4 := hcell (i * 5 + 4) _ (by omega) x4
              have TK := hide (show TrAt wr Q kids[i] (.agg #[y0, y1, y2, y3, y4]) from TrAt.keep (fun k hk _ => by rw [hbl.block k (by omega)]; exact Below.heap_alloc _ _ _ hk) (fun _ _ h => h) _ _ hk)
              have SZ := hide (show trSize kids[i] ≤ m by have := trSize_mem (List.getElem_mem hi); omega)
              have STP := hide (wayNums_drop hi)
              have hsb := hbl.size
              clear hcell x0 x1 x2 x3 x4 hk hbl
              go_wp2_with fail
              refine (unhide HIH _ _ _ _ (unhide SZ) (unhide TK)).mono ?_
              rintro e w5 ⟨rfl, hb5⟩
              have HB5 := hide ((unhide HBL).trans (hb5.mono (by simp at hsb; omega)))
              clear hb5 hsb k0 k1 k2 k3 k4 c4
              by_cases hw : 0 ≤ wayNum kids[i]
              · have FIN := hide (show wayNum kids[i] = wayNum (.mk op text n a (kids)) from by rw [unhide HW, ← unhide HWD, unhide STP, if_pos hw])
                generalize wayNum kids[i] = q at *
                go_wp2_with fail
                go_ret
                exact ⟨ret_int (unhide FIN), ((Below.refl _ _).alloc (Nat.le_refl _) _).trans ((unhide HB5).mono (by omega))⟩
              · have FIN := hide (show wayNums (kids.drop (i + 1)) = wayNums kids from by rw [← unhide HWD, unhide STP, if_neg hw])
                generalize wayNum kids[i] = q at *
                go_wp2_with fail
                go_roundg (kids.length - (i + 1))
                case measure => omega
                case rel => exact ⟨i + 1, by omega, by go_num, unhide HB5, unhide FIN⟩
            · have FIN := hide (show (-1 : Int) = wayNum (.mk op text n a kids) from by rw [unhide HW, ← unhide HWD, List.drop_eq_nil_of_le (by omega), wayNums])
              obtain ⟨oo, oc, rfl⟩ : ∃ oo oc, kv = .slice oo kids.length oc := by
                rcases (unhide HO).2 with ⟨e, h0⟩ | ⟨g, cap, cur, e, _⟩
                · exact ⟨none, 0, by rw [e, h0]⟩
                · exact ⟨_, _, e⟩
              clear hbl
              go_wp2_with fail
              go_ret
              exact ⟨ret_int (unhide FIN), ((Below.refl _ _).alloc (Nat.le_refl _) _).trans ((unhide HBL).mono (by omega))⟩
end Go.Proofs.YtgdeeodifnegiaaGreatDoor.rf
