/- The statements' functions path, marks (package bywaykeep): what each call answers; old memory stays as it is. -/
import Derived.Test.YtlhhdklendeikaaGreatDoorKeepA
namespace Go.Proofs.YtlhhdklendeikaaGreatDoor
open Go.RowKit
theorem pathP_snoc {l : List Int} {k : Nat} (h : k < l.length) : pathP l (k + 1) = pathP l k ++ [1 + pickP l[k] 3] := by
  unfold pathP
  rw [List.take_succ_eq_append_getElem h, List.map_append]; rfl
theorem pathP_len {l : List Int} {k : Nat} (h : k ≤ l.length) : (pathP l k).length = k := by unfold pathP; simp; omega
theorem pathP_min (l : List Int) (m : Nat) : pathP l m = pathP l (min l.length m) := by
  unfold pathP
  rcases Nat.le_total l.length m with h | h
  · rw [Nat.min_eq_left h, List.take_of_length_le h, List.take_of_length_le (Nat.le_refl _)]
  · rw [Nat.min_eq_right h]
set_option maxRecDepth 100000 in
set_option maxHeartbeats 800000 in
theorem path_any (l : List Int) (x : Value) (m : Int) (w : World) (hm0 : 0 ≤ m) (hm1 : m ≤ 12) (h : IntsAt w x l) :
    Calls Tryz.prog 19 #[x, .int .i64 m] w fun e w' => ∃ v, e = .returned v ∧ w'.ownsRow w.heap.size 3 1 v (pathP l m.toNat).length ((pathP l m.toNat).map (Value.int .i64)) ∧ Below w.heap.size w w' := by
  obtain ⟨p, c, rfl, hcap, hl, hin, hr⟩ := h
  obtain ⟨mm, rfl⟩ := Int.eq_ofNat_of_zero_le hm0
  rw [Int.toNat_natCast]
  obtain ⟨i0, hi0, hz0, hz1, hz2⟩ := info_parts Tryz.infoInt
  have HR := hide hr
  have HIN := hide hin
  clear hr hin hm0
  go_enter Tryz.func19, Tryz.ntmps19
  go_wp2
  go_loopw [5, 6] (fun v5 i wr => ∃ k : Nat, k ≤ l.length ∧ k ≤ mm ∧ i = .int .i64 k ∧ wr.ownsRow w.heap.size 3 1 v5 k ((pathP l k).map (Value.int .i64)) ∧ Below w.heap.size w wr) (fun _ i _ => l.length - (intOf i).toNat)
  case atStart => exact ⟨0, Nat.zero_le _, Nat.zero_le _, rfl, World.ownsRow_nil _ _ _ _, Below.refl _ _⟩
  case round =>
    obtain ⟨k, hk, hkm, rfl, how, hbl⟩ := hrel
    have HOW := hide how
    have HB := hide hbl
    have hsz : w.heap.size ≤ wr.heap.size := hbl.size
    clear how hbl
    by_cases hlt : k < l.length
    · by_cases hlm : k < mm
      · rcases unhide HR with h | ⟨b, o, rfl, hb, hc⟩
        · rw [h.1] at hlt; simp at hlt
        have hck : wr.cell? ⟨b, o + k, none⟩ = some (.int .i64 l[k]) := ((unhide HB).cell (p := ⟨b, o + k, none⟩) hb).trans (hc k hlt)
        have hI := unhide HIN l[k] (List.getElem_mem _)
        unfold inI at hI
        clear hc
        have hp := pickP_bd (c := l[k]) (n := 3) (by omega)
        go_wp2_with (first | (go_at_call 22; refine (pick_any _ _ _ (by omega) (by omega) (by omega) (by omega)).mono ?_; rintro e w' ⟨rfl, rfl⟩) | (at_builtin; refine wpList_append_lies _ rfl _ _ _ rfl w.heap.size 3 i0 _ 1 8 Tryz.underlying22 hi0 hz0 hz1 hz2 rfl (by omega) u5 k ((pathP l k).map (Value.int .i64)) rfl ((unhide HOW).alloc _) ⟨w'.heap.size, 0, none⟩ 1 1 [.int .i64 (1 + pickP l[k] 3)] rfl rfl (World.news_of_block (cs := #[.int .i64 (1 + pickP l[k] 3)]) (t := 3) (fr := (0, 0)) (heap_alloc_new _ _)) (by simp [Value.oneCell']) (by omega) (by simp [maxLen]; omega) (by omega) (by simp; omega) (w'.heap.size + 1) (by simp) ?_; intro gg cap wn hown hgrow hat hltg))
        go_roundw
        case rel =>
          refine ⟨k + 1, by omega, by omega, by go_num, ?_, ((unhide HB).alloc hsz _).grown hgrow (by simp; omega) (fun j hj => ((unhide HOW).lt j hj).1)⟩
          rw [pathP_snoc hlt, List.map_append]; exact hown
        case measure => simp [intOf]; omega
      · go_wp2
        go_ret
        refine ⟨_, rfl, ?_, unhide HB⟩
        rw [show mm = k by omega, pathP_len hk]; exact unhide HOW
    · by_cases hlm : k < mm
      all_goals
        go_wp2
        go_ret
        refine ⟨_, rfl, ?_, unhide HB⟩
        rw [pathP_min l mm, show min l.length mm = k by omega, pathP_len hk]; exact unhide HOW

theorem marksP_snoc {l : List Int} {k : Nat} (h : k < l.length) : marksP l (k + 1) = marksP l k ++ [(marksP l k).getLastD (-1) + 1 + pickP l[k] 3] := by
  unfold marksP
  rw [List.take_succ_eq_append_getElem h, marksF_snoc]
theorem marksP_len {l : List Int} {k : Nat} (h : k ≤ l.length) : (marksP l k).length = k := by unfold marksP; rw [marksF_len]; simp; omega
theorem marksP_min (l : List Int) (m : Nat) : marksP l m = marksP l (min l.length m) := by
  unfold marksP
  rcases Nat.le_total l.length m with h | h
  · rw [Nat.min_eq_left h, List.take_of_length_le h, List.take_of_length_le (Nat.le_refl _)]
  · rw [Nat.min_eq_right h]
theorem marksP_last (l : List Int) {k : Nat} (h : k ≤ l.length) : -1 ≤ (marksP l k).getLastD (-1) ∧ (marksP l k).getLastD (-1) ≤ 3 * k := by
  induction k with
  | zero => simp [marksP, marksF]
  | succ k ih =>
    obtain ⟨a, b⟩ := ih (by omega)
    have hp := pickP_bd (c := l[k]) (n := 3) (by omega)
    rw [marksP_snoc (by omega)]
    simp only [List.getLastD_concat]
    omega

set_option maxRecDepth 100000 in
set_option maxHeartbeats 800000 in
theorem marks_any (l : List Int) (x : Value) (m : Int) (w : World) (hm0 : 0 ≤ m) (hm1 : m ≤ 8) (h : IntsAt w x l) :
    Calls Tryz.prog 30 #[x, .int .i64 m] w fun e w' => ∃ v, e = .returned v ∧ w'.ownsRow w.heap.size 3 1 v (marksP l m.toNat).length ((marksP l m.toNat).map (Value.int .i64)) ∧ Below w.heap.size w w' := by
  obtain ⟨p, c, rfl, hcap, hl, hin, hr⟩ := h
  obtain ⟨mm, rfl⟩ := Int.eq_ofNat_of_zero_le hm0
  rw [Int.toNat_natCast]
  obtain ⟨i0, hi0, hz0, hz1, hz2⟩ := info_parts Tryz.infoInt
  have HR := hide hr
  have HIN := hide hin
  clear hr hin hm0
  go_enter Tryz.func30, Tryz.ntmps30
  go_wp2
  go_loopw [5, 6, 7] (fun v5 t i wr => ∃ k : Nat, k ≤ l.length ∧ k ≤ mm ∧ i = .int .i64 k ∧ t = .int .i64 ((marksP l k).getLastD (-1)) ∧ wr.ownsRow w.heap.size 3 1 v5 k ((marksP l k).map (Value.int .i64)) ∧ Below w.heap.size w wr) (fun _ _ i _ => l.length - (intOf i).toNat)
  case atStart => exact ⟨0, Nat.zero_le _, Nat.zero_le _, rfl, rfl, World.ownsRow_nil _ _ _ _, Below.refl _ _⟩
  case round =>
    obtain ⟨k, hk, hkm, rfl, rfl, how, hbl⟩ := hrel
    have HOW := hide how
    have HB := hide hbl
    have hsz : w.heap.size ≤ wr.heap.size := hbl.size
    have hla := marksP_last l hk
    clear how hbl
    by_cases hlt : k < l.length
    · by_cases hlm : k < mm
      · rcases unhide HR with h | ⟨b, o, rfl, hb, hc⟩
        · rw [h.1] at hlt; simp at hlt
        have hck : wr.cell? ⟨b, o + k, none⟩ = some (.int .i64 l[k]) := ((unhide HB).cell (p := ⟨b, o + k, none⟩) hb).trans (hc k hlt)
        have hI := unhide HIN l[k] (List.getElem_mem _)
        unfold inI at hI
        clear hc
        have hp := pickP_bd (c := l[k]) (n := 3) (by omega)
        have HSN := hide (marksP_snoc hlt)
        obtain ⟨L, hL⟩ : ∃ L, (marksP l k).getLastD (-1) = L := ⟨_, rfl⟩
        rw [hL] at hla HSN ⊢
        have HL := hide hL
        clear hL
        go_wp2_with (first | (go_at_call 22; refine (pick_any _ _ _ (by omega) (by omega) (by omega) (by omega)).mono ?_; rintro e w' ⟨rfl, rfl⟩) | (at_builtin; refine wpList_append_lies _ rfl _ _ _ rfl w.heap.size 3 i0 _ 1 8 Tryz.underlying22 hi0 hz0 hz1 hz2 rfl (by omega) u5 k ((marksP l k).map (Value.int .i64)) rfl ((unhide HOW).alloc _) ⟨w'.heap.size, 0, none⟩ 1 1 [.int .i64 (L + 1 + pickP l[k] 3)] rfl rfl (World.news_of_block (cs := #[.int .i64 (L + 1 + pickP l[k] 3)]) (t := 3) (fr := (0, 0)) (heap_alloc_new _ _)) (by simp [Value.oneCell']) (by omega) (by simp [maxLen]; omega) (by omega) (by simp; omega) (w'.heap.size + 1) (by simp) ?_; intro gg cap wn hown hgrow hat hltg))
        go_roundw
        case rel =>
          refine ⟨k + 1, by omega, by omega, by go_num, ?_, ?_, ((unhide HB).alloc hsz _).grown hgrow (by simp; omega) (fun j hj => ((unhide HOW).lt j hj).1)⟩
          · rw [unhide HSN]; simp only [List.getLastD_concat]
          · rw [unhide HSN, List.map_append]; exact hown
        case measure => simp [intOf]; omega
      · go_wp2
        go_ret
        refine ⟨_, rfl, ?_, unhide HB⟩
        rw [show mm = k by omega, marksP_len hk]; exact unhide HOW
    · by_cases hlm : k < mm
      all_goals
        go_wp2
        go_ret
        refine ⟨_, rfl, ?_, unhide HB⟩
        rw [marksP_min l mm, show min l.length mm = k by omega, marksP_len hk]; exact unhide HOW

end Go.Proofs.YtlhhdklendeikaaGreatDoor
