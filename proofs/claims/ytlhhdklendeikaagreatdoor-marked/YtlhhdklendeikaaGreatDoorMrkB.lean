/- with, without (package bywaykeep). -/
import Derived.Test.YtlhhdklendeikaaGreatDoorMrkP
import Derived.Test.YtlhhdklendeikaaGreatDoorKeepC
namespace Go.Proofs.YtlhhdklendeikaaGreatDoor
open Go.RowKit

theorem drop_step {l : List Int} {k : Nat} (h : k < l.length) : l.drop k = l[k] :: l.drop (k + 1) := List.drop_eq_getElem_cons h
set_option maxRecDepth 100000 in
set_option maxHeartbeats 2000000 in
theorem with_any (l : List Int) (x : Value) (n : Int) (w : World) (hl : l.length ≤ 1000) (h : IntsAt w x l) :
    Calls Tryz.prog 26 #[x, .int .i64 n] w fun e w' => ∃ v, e = .returned v ∧ w'.ownsRow w.heap.size 3 1 v (withF n false l).length ((withF n false l).map (Value.int .i64)) ∧ Below w.heap.size w w' := by
  obtain ⟨p, c, rfl, hcap, _, _, hr⟩ := h
  obtain ⟨i0, hi0, hz0, hz1, hz2⟩ := info_parts Tryz.infoInt
  have HR := hide hr
  clear hr
  go_enter Tryz.func26, Tryz.ntmps26
  go_wp2_with fail
  go_loopw [5, 6, 7] (fun v5 dv i wr => ∃ (k : Nat) (d : Bool) (out : List Int), k ≤ l.length ∧ i = .int .i64 k ∧ dv = .bool d ∧ out.length ≤ 2 * k ∧ Hid (out ++ withF n d (l.drop k) = withF n false l) ∧ wr.ownsRow w.heap.size 3 1 v5 out.length (out.map (Value.int .i64)) ∧ Below w.heap.size w wr) (fun _ _ i _ => l.length - (intOf i).toNat)
  case atStart => exact ⟨0, false, [], Nat.zero_le _, rfl, rfl, by simp, hide (by simp), World.ownsRow_nil _ _ _ _, Below.refl _ _⟩
  case round =>
    obtain ⟨k, d, out, hk, rfl, rfl, hol, HE, how, hbl⟩ := hrel
    have HOW := hide how
    have HB := hide hbl
    have hsz : w.heap.size ≤ wr.heap.size := hbl.size
    clear how hbl
    by_cases hlt : k < l.length
    · rcases unhide HR with h | ⟨b, o, rfl, hb, hc⟩
      · rw [h.1] at hlt; simp at hlt
      have hck : wr.cell? ⟨b, o + k, none⟩ = some (.int .i64 l[k]) := ((unhide HB).cell (p := ⟨b, o + k, none⟩) hb).trans (hc k hlt)
      have HCK := hide (hc k hlt)
      have hE := unhide HE
      rw [drop_step hlt, withF] at hE
      clear hc HE
      generalize l[k] = X at *
      cases d with
      | true =>
        rw [if_neg (by simp), List.nil_append, Bool.true_or] at hE
        by_cases hX : X = n
        · rw [if_neg (by simp [hX]), List.nil_append] at hE
          have HE := hide hE
          clear hE
          subst hX
          go_wp2_with fail
          go_roundw
          case rel => exact ⟨k + 1, true, out, by omega, by go_num, rfl, by omega, HE, unhide HOW, unhide HB⟩
          case measure => simp [intOf]; omega
        · rw [if_pos hX] at hE
          have HE := hide hE
          clear hE
          have hne : (X == n) = false := by simpa using hX
          go_wp2_with (at_builtin; refine wpList_append_lies _ rfl _ _ _ rfl w.heap.size 3 i0 _ 1 8 Tryz.underlying22 hi0 hz0 hz1 hz2 rfl (by omega) u5 out.length (out.map (Value.int .i64)) rfl ((unhide HOW).alloc _) ⟨wr.heap.size, 0, none⟩ 1 1 [.int .i64 X] rfl rfl (World.news_of_block (cs := #[.int .i64 X]) (t := 3) (fr := (0, 0)) (heap_alloc_new _ _)) (by simp [Value.oneCell']) (by omega) (by simp [maxLen]; omega) (by omega) (by simp; omega) (wr.heap.size + 1) (by simp) ?_; intro gg cap wn hown hgrow hat hltg)
          go_roundw
          case rel =>
            refine ⟨k + 1, true, out ++ [X], by omega, by go_num, rfl, by simp; omega, hide ?_, ?_, ((unhide HB).alloc hsz _).grown hgrow (by simp; omega) (fun j hj => ((unhide HOW).lt j hj).1)⟩
            · rw [List.append_assoc]; exact unhide HE
            · rw [List.map_append, List.length_append]; exact hown
          case measure => simp [intOf]; omega
      | false =>
        by_cases hge : n ≤ X
        · rw [if_pos ⟨rfl, hge⟩, decide_eq_true hge, Bool.or_true] at hE
          by_cases hX : X = n
          · rw [if_neg (by simp [hX]), List.nil_append] at hE
            have HE := hide hE
            clear hE
            subst hX
            go_wp2_with (at_builtin; refine wpList_append_lies _ rfl _ _ _ rfl w.heap.size 3 i0 _ 1 8 Tryz.underlying22 hi0 hz0 hz1 hz2 rfl (by omega) u5 out.length (out.map (Value.int .i64)) rfl ((unhide HOW).alloc _) ⟨wr.heap.size, 0, none⟩ 1 1 [.int .i64 X] rfl rfl (World.news_of_block (cs := #[.int .i64 X]) (t := 3) (fr := (0, 0)) (heap_alloc_new _ _)) (by simp [Value.oneCell']) (by omega) (by simp [maxLen]; omega) (by omega) (by simp; omega) (wr.heap.size + 1) (by simp) ?_; intro gg cap wn hown hgrow hat hltg; have hbn := ((unhide HB).alloc hsz _).grown hgrow (by simp; omega) (fun j hj => ((unhide HOW).lt j hj).1); have hck2 := (hbn.cell (p := ⟨b, o + k, none⟩) hb).trans (unhide HCK); have HB2 := hide hbn; have HO2 := hide hown; clear hbn hown hgrow hat)
            go_roundw
            case rel =>
              refine ⟨k + 1, true, out ++ [X], by omega, by go_num, rfl, by simp; omega, hide ?_, ?_, unhide HB2⟩
              · rw [List.append_assoc]; exact unhide HE
              · rw [List.map_append, List.length_append]; exact unhide HO2
            case measure => simp [intOf]; omega
          · rw [if_pos hX] at hE
            have HE := hide hE
            clear hE
            have hne : (X == n) = false := by simpa using hX
            go_wp2_with (first
              | (at_builtin; refine wpList_append_lies _ rfl _ _ _ rfl w.heap.size 3 i0 _ 1 8 Tryz.underlying22 hi0 hz0 hz1 hz2 rfl (by omega) u5 out.length (out.map (Value.int .i64)) rfl ((unhide HOW).alloc _) ⟨wr.heap.size, 0, none⟩ 1 1 [.int .i64 n] rfl rfl (World.news_of_block (cs := #[.int .i64 n]) (t := 3) (fr := (0, 0)) (heap_alloc_new _ _)) (by simp [Value.oneCell']) (by omega) (by simp [maxLen]; omega) (by omega) (by simp; omega) (wr.heap.size + 1) (by simp) ?_; intro gg cap wn hown hgrow hat hltg; have hbn := ((unhide HB).alloc hsz _).grown hgrow (by simp; omega) (fun j hj => ((unhide HOW).lt j hj).1); have hck2 := (hbn.cell (p := ⟨b, o + k, none⟩) hb).trans (unhide HCK); have hs2 := hbn.size; have HB2 := hide hbn; have HO2 := hide hown; clear hbn hown hgrow hat HOW)
              | (at_builtin; refine wpList_append_lies _ rfl _ _ _ rfl w.heap.size 3 i0 _ 1 8 Tryz.underlying22 hi0 hz0 hz1 hz2 rfl (by omega) (.slice (some ⟨gg, 0, none⟩) (out.length + 1) cap) (out.length + 1) (out.map (Value.int .i64) ++ [.int .i64 n]) rfl ((unhide HO2).alloc _) ⟨wn.heap.size, 0, none⟩ 1 1 [.int .i64 X] rfl rfl (World.news_of_block (cs := #[.int .i64 X]) (t := 3) (fr := (0, 0)) (heap_alloc_new _ _)) (by simp [Value.oneCell']) (by omega) (by simp [maxLen]; omega) (by omega) (by simp; omega) (wn.heap.size + 1) (by simp) ?_; intro gg2 cap2 wn2 hown2 hgrow2 hat2 hltg2))
            go_roundw
            case rel =>
              refine ⟨k + 1, true, out ++ [n] ++ [X], by omega, by go_num, rfl, by simp; omega, hide ?_, ?_, ((unhide HB2).alloc hs2 _).grown hgrow2 (by simp; omega) (fun j hj => ((unhide HO2).lt j hj).1)⟩
              · rw [List.append_assoc, List.append_assoc]; exact unhide HE
              · rw [List.map_append, List.map_append, List.length_append, List.length_append]; exact hown2
            case measure => simp [intOf]; omega
        · rw [if_neg (by simp; omega), List.nil_append, if_pos (by omega), decide_eq_false hge, Bool.or_false] at hE
          have HE := hide hE
          clear hE
          have hne : (X == n) = false := by simp; omega
          go_wp2_with (at_builtin; refine wpList_append_lies _ rfl _ _ _ rfl w.heap.size 3 i0 _ 1 8 Tryz.underlying22 hi0 hz0 hz1 hz2 rfl (by omega) u5 out.length (out.map (Value.int .i64)) rfl ((unhide HOW).alloc _) ⟨wr.heap.size, 0, none⟩ 1 1 [.int .i64 X] rfl rfl (World.news_of_block (cs := #[.int .i64 X]) (t := 3) (fr := (0, 0)) (heap_alloc_new _ _)) (by simp [Value.oneCell']) (by omega) (by simp [maxLen]; omega) (by omega) (by simp; omega) (wr.heap.size + 1) (by simp) ?_; intro gg cap wn hown hgrow hat hltg)
          go_roundw
          case rel =>
            refine ⟨k + 1, false, out ++ [X], by omega, by go_num, rfl, by simp; omega, hide ?_, ?_, ((unhide HB).alloc hsz _).grown hgrow (by simp; omega) (fun j hj => ((unhide HOW).lt j hj).1)⟩
            · rw [List.append_assoc]; exact unhide HE
            · rw [List.map_append, List.length_append]; exact hown
          case measure => simp [intOf]; omega
    · have hE := unhide HE
      rw [List.drop_eq_nil_of_le (by omega), withF] at hE
      clear HE
      cases d with
      | true =>
        rw [if_pos rfl, List.append_nil] at hE
        have HE := hide hE
        clear hE
        go_wp2_with fail
        go_ret
        refine ⟨_, rfl, ?_, unhide HB⟩
        rw [← unhide HE]; exact unhide HOW
      | false =>
        rw [if_neg (by simp)] at hE
        have HE := hide hE
        clear hE
        go_wp2_with (at_builtin; refine wpList_append_lies _ rfl _ _ _ rfl w.heap.size 3 i0 _ 1 8 Tryz.underlying22 hi0 hz0 hz1 hz2 rfl (by omega) u5 out.length (out.map (Value.int .i64)) rfl ((unhide HOW).alloc _) ⟨wr.heap.size, 0, none⟩ 1 1 [.int .i64 n] rfl rfl (World.news_of_block (cs := #[.int .i64 n]) (t := 3) (fr := (0, 0)) (heap_alloc_new _ _)) (by simp [Value.oneCell']) (by omega) (by simp [maxLen]; omega) (by omega) (by simp; omega) (wr.heap.size + 1) (by simp) ?_; intro gg cap wn hown hgrow hat hltg)
        go_ret
        refine ⟨_, rfl, ?_, ((unhide HB).alloc hsz _).grown hgrow (by simp; omega) (fun j hj => ((unhide HOW).lt j hj).1)⟩
        rw [← unhide HE, List.map_append, List.length_append]; exact hown
theorem without_snoc {l : List Int} {k : Nat} (h : k < l.length) (n : Int) : (l.take (k + 1)).filter (fun x => decide (x ≠ n)) = (l.take k).filter (fun x => decide (x ≠ n)) ++ (if l[k] ≠ n then [l[k]] else []) := by
  rw [List.take_succ_eq_append_getElem h, List.filter_append]
  congr 1
  by_cases hx : l[k] = n
  · simp [hx]
  · simp [hx]
set_option maxRecDepth 100000 in
set_option maxHeartbeats 2000000 in
theorem without_any (l : List Int) (x : Value) (n : Int) (w : World) (hl : l.length ≤ 1000) (h : IntsAt w x l) :
    Calls Tryz.prog 27 #[x, .int .i64 n] w fun e w' => ∃ v, e = .returned v ∧ w'.ownsRow w.heap.size 3 1 v (l.filter (fun x => decide (x ≠ n))).length ((l.filter (fun x => decide (x ≠ n))).map (Value.int .i64)) ∧ Below w.heap.size w w' := by
  obtain ⟨p, c, rfl, hcap, _, _, hr⟩ := h
  obtain ⟨i0, hi0, hz0, hz1, hz2⟩ := info_parts Tryz.infoInt
  have HR := hide hr
  clear hr
  go_enter Tryz.func27, Tryz.ntmps27
  go_wp2_with fail
  go_loopw [5, 6] (fun v5 i wr => ∃ (k : Nat) (out : List Int), k ≤ l.length ∧ i = .int .i64 k ∧ out.length ≤ k ∧ Hid (out = (l.take k).filter (fun x => decide (x ≠ n))) ∧ wr.ownsRow w.heap.size 3 1 v5 out.length (out.map (Value.int .i64)) ∧ Below w.heap.size w wr) (fun _ i _ => l.length - (intOf i).toNat)
  case atStart => exact ⟨0, [], Nat.zero_le _, rfl, by simp, hide (by simp), World.ownsRow_nil _ _ _ _, Below.refl _ _⟩
  case round =>
    obtain ⟨k, out, hk, rfl, hol, HE, how, hbl⟩ := hrel
    have HOW := hide how
    have HB := hide hbl
    have hsz : w.heap.size ≤ wr.heap.size := hbl.size
    clear how hbl
    by_cases hlt : k < l.length
    · rcases unhide HR with h | ⟨b, o, rfl, hb, hc⟩
      · rw [h.1] at hlt; simp at hlt
      have hck : wr.cell? ⟨b, o + k, none⟩ = some (.int .i64 l[k]) := ((unhide HB).cell (p := ⟨b, o + k, none⟩) hb).trans (hc k hlt)
      have HS := hide (without_snoc hlt n)
      clear hc
      generalize l[k] = X at *
      by_cases hX : X = n
      · have HE2 : Hid (out = (l.take (k + 1)).filter (fun x => decide (x ≠ n))) := hide (by rw [unhide HS, if_neg (by simp [hX]), List.append_nil]; exact unhide HE)
        clear HE HS
        subst hX
        go_wp2_with fail
        go_roundw
        case rel => exact ⟨k + 1, out, by omega, by go_num, by omega, HE2, unhide HOW, unhide HB⟩
        case measure => simp [intOf]; omega
      · have HE2 : Hid (out ++ [X] = (l.take (k + 1)).filter (fun x => decide (x ≠ n))) := hide (by rw [unhide HS, if_pos hX, ← unhide HE])
        clear HE HS
        have hne : (X == n) = false := by simpa using hX
        go_wp2_with (at_builtin; refine wpList_append_lies _ rfl _ _ _ rfl w.heap.size 3 i0 _ 1 8 Tryz.underlying22 hi0 hz0 hz1 hz2 rfl (by omega) u5 out.length (out.map (Value.int .i64)) rfl ((unhide HOW).alloc _) ⟨wr.heap.size, 0, none⟩ 1 1 [.int .i64 X] rfl rfl (World.news_of_block (cs := #[.int .i64 X]) (t := 3) (fr := (0, 0)) (heap_alloc_new _ _)) (by simp [Value.oneCell']) (by omega) (by simp [maxLen]; omega) (by omega) (by simp; omega) (wr.heap.size + 1) (by simp) ?_; intro gg cap wn hown hgrow hat hltg)
        go_roundw
        case rel =>
          refine ⟨k + 1, out ++ [X], by omega, by go_num, by simp; omega, HE2, ?_, ((unhide HB).alloc hsz _).grown hgrow (by simp; omega) (fun j hj => ((unhide HOW).lt j hj).1)⟩
          rw [List.map_append, List.length_append]; exact hown
        case measure => simp [intOf]; omega
    · have HE2 : Hid (l.filter (fun x => decide (x ≠ n)) = out) := hide (by rw [unhide HE, List.take_of_length_le (by omega)])
      clear HE
      go_wp2_with fail
      go_ret
      refine ⟨_, rfl, ?_, unhide HB⟩
      rw [unhide HE2]; exact unhide HOW
end Go.Proofs.YtlhhdklendeikaaGreatDoor
