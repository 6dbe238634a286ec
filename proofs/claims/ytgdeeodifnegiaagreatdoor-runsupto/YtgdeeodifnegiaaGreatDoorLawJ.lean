/- Lists of ints are lent and taken back (package bywaylaw): lentInts, backInts. -/
import Derived.Test.YtgdeeodifnegiaaGreatDoorLawI
import Derived.Test.YtgdeeodifnegiaaGreatDoorLawC
namespace Go.Proofs.YtgdeeodifnegiaaGreatDoor
open Go.RowKit

theorem eqNilI (w : World) (a : Addr) (n c : Nat) : (binOp .eql 26 (.slice (some a) n c) (.slice none 0 0)).run Tryz.prog w = .ok (.bool false) w := Lib.run_eql_slice_nil w _ _ (some a) n c 0 0 Tryz.underlying26
theorem eqNilI0 (w : World) : (binOp .eql 26 (.slice none 0 0) (.slice none 0 0)).run Tryz.prog w = .ok (.bool true) w := Lib.run_eql_slice_nil w _ _ none 0 0 0 0 Tryz.underlying26
/-- what is lent, in its block: the list, and eight places more -/
def lentC (L : List Int) : List Value := L.map (Value.int .i64) ++ List.replicate 8 (.int .i64 (-77))
def lentK (A : List Value) (x z : Value) (k : Nat) : List Value := A ++ (List.replicate k x ++ List.replicate (8 - k) z)
theorem lentK_set (A : List Value) (x z : Value) {k : Nat} (hk : k < 8) : (lentK A x z k).toArray.setIfInBounds (A.length + k) x = (lentK A x z (k + 1)).toArray := by
  apply Array.ext'
  unfold lentK
  rw [Array.toList_setIfInBounds]
  rw [List.set_append_right _ _ (by omega), show A.length + k - A.length = k by omega, List.set_append_right _ _ (by simp), List.length_replicate, Nat.sub_self, show 8 - k = (8 - (k + 1)) + 1 by omega, List.replicate_succ, List.set_cons_zero, List.replicate_succ']
  simp
theorem lentK_get (A : List Value) (x z : Value) {k : Nat} (hk : k < 8) : (lentK A x z k)[A.length + k]? = some z := by
  unfold lentK
  rw [List.getElem?_append_right (by omega), show A.length + k - A.length = k by omega, List.getElem?_append_right (by simp), List.length_replicate, Nat.sub_self, List.getElem?_replicate, if_pos (by omega)]
theorem lentK_all (A : List Value) (x z : Value) : lentK A x z 8 = A ++ List.replicate 8 x := by simp [lentK]
theorem lentK_zero (A : List Value) (x z : Value) : lentK A x z 0 = A ++ List.replicate 8 z := by simp [lentK]
/-- x, lent as v -/
def LentI (w w' : World) (x v : Value) (L : List Int) : Prop :=
  (x = .slice none 0 0 ∧ v = .slice none 0 0 ∧ L = []) ∨
  ∃ a c g, x = .slice (some a) L.length c ∧ v = .slice (some ⟨g, 0, none⟩) L.length (L.length + 8) ∧ w.heap.size ≤ g ∧ w'.heap[g]? = some (.cells (lentC L).toArray 3 (0, 0))
theorem IntsAt.nilOr {w : World} {x : Value} {L : List Int} (h : IntsAt w x L) : (x = .slice none 0 0 ∧ L = []) ∨ ∃ a c, x = .slice (some a) L.length c := by
  obtain ⟨p, c, hv, hcap, hl, hin, hr⟩ := h
  cases p with
  | none =>
    left
    rcases hr with ⟨h1, h2⟩ | ⟨b, o, hp, _⟩
    · subst h1
      have := h2 rfl
      subst this
      exact ⟨hv, rfl⟩
    · cases hp
  | some a => exact Or.inr ⟨a, c, hv⟩
theorem IntsAt.reads {w : World} {v : Value} {l : List Int} (h : IntsAt w v l) : ReadsAs w v l.length (l.map (Value.int .i64)) := by
  obtain ⟨p, c, rfl, hcap, hl, hin, hr⟩ := h
  rcases hr with ⟨rfl, hp⟩ | ⟨b, o, rfl, hb, hc⟩
  · cases p with
    | none => have := hp rfl; subst this; exact Or.inl ⟨rfl, rfl, rfl⟩
    | some a => exact Or.inr ⟨a, c, rfl, fun j u hj => by simp at hj⟩
  · refine Or.inr ⟨_, _, rfl, fun j u hj => ?_⟩
    have hjl : j < l.length := by
      rcases Nat.lt_or_ge j l.length with h1 | h1
      · exact h1
      · rw [List.getElem?_eq_none (by simpa using h1)] at hj; cases hj
    have hadd : (⟨b, o, none⟩ : Addr).add j = ⟨b, o + j, none⟩ := by unfold Addr.add; split <;> simp_all
    rw [hadd, hc j hjl, ← hj]
    simp [hjl]
theorem one_i64 (l : List Int) : ∀ u ∈ l.map (Value.int .i64), u.oneCell' = true := by
  intro u hu
  obtain ⟨x, _, rfl⟩ := List.mem_map.1 hu
  rfl
theorem LentI.at_ {w w' : World} {x v : Value} {L : List Int} (h : LentI w w' x v L) (hin : ∀ y ∈ L, inI y) (hl : L.length ≤ 16777216) : IntsAt w' v L := by
  rcases h with ⟨_, rfl, rfl⟩ | ⟨a, c, g, _, rfl, _, hg⟩
  · exact ⟨none, 0, rfl, by simp, by simp, by simp, Or.inl ⟨rfl, fun _ => rfl⟩⟩
  · refine ⟨_, _, rfl, by omega, by omega, hin, Or.inr ⟨g, 0, rfl, heap_lt hg, fun j hj => ?_⟩⟩
    rw [cell_of_heap hg]
    unfold lentC
    simp [List.getElem?_append_left, hj]
theorem LentI.below {w w' w'' : World} {x v : Value} {L : List Int} (h : LentI w w' x v L) (hb : Below w'.heap.size w' w'') : LentI w w'' x v L := by
  rcases h with h | ⟨a, c, g, h1, h2, h3, hg⟩
  · exact Or.inl h
  · exact Or.inr ⟨a, c, g, h1, h2, h3, (hb.block g (heap_lt hg)).trans hg⟩

set_option maxRecDepth 100000 in
set_option maxHeartbeats 1600000 in
theorem lentInts_any (L : List Int) (x : Value) (w : World) (h : IntsAt w x L) (hl : L.length ≤ 16777216) :
    Calls Tryz.prog 27 #[x] w fun e w' => ∃ v, e = .returned v ∧ LentI w w' x v L ∧ Below w.heap.size w w' := by
  have HX := hide h
  have q0 := eqNilI0
  have q1 := eqNilI
  rcases h.nilOr with ⟨rfl, rfl⟩ | ⟨a, c, rfl⟩
  · clear h
    go_enter Tryz.func27, Tryz.ntmps27
    go_wp2
    go_ret
    exact ⟨_, rfl, Or.inl ⟨rfl, rfl, rfl⟩, Below.refl _ _⟩
  · clear h
    obtain ⟨i0, hi0, hz0, hz1, hz2⟩ := info_parts Tryz.infoInt
    have hsz : (Tryz.prog.info? 3).map (·.size) = some 1 := by rw [hi0]; simp [hz1]
    have hmk := run_make_n (P := Tryz.prog) w 26 3 i0 (.int .i64 0) Tryz.underlying26 hi0 hz0 (L.length + 8) (by rw [hz2]; omega) (by omega)
    rw [hz1, Nat.mul_one, show (Value.int .i64 0).cells = #[.int .i64 0] from rfl, made_one] at hmk
    obtain ⟨w1, hw1⟩ : ∃ w1, w.alloc (.cells (List.replicate (L.length + 8) (Value.int .i64 0)).toArray 3) = w1 := ⟨_, rfl⟩
    have Q1 := hide (heap_alloc_new w (.cells (List.replicate (L.length + 8) (Value.int .i64 0)).toArray 3))
    have B1 := hide ((Below.refl w.heap.size w).alloc (Nat.le_refl _) (.cells (List.replicate (L.length + 8) (Value.int .i64 0)).toArray 3))
    rw [hw1] at hmk Q1 B1
    have RD := hide ((unhide HX).below (unhide B1)).reads
    obtain ⟨n, hn⟩ : ∃ n, L.length = n := ⟨_, rfl⟩
    rw [hn] at hmk Q1 RD hl ⊢
    have HN := hide hn
    rw [show ((n + 8 : Nat) : Int) = (n : Int) + 8 from by omega] at hmk
    clear hn hw1
    go_enter Tryz.func27, Tryz.ntmps27
    go_upto_region 5 with (refine wpList_copy_head rfl _ _ _ _ rfl 3 Tryz.underlying26 1 hsz w.heap.size (n + 8) (n + 8) rfl (.slice (some a) n c) rfl n (L.map (Value.int .i64)) (unhide RD) (by omega) (by rw [List.length_map, unhide HN]; omega) (List.replicate (n + 8) (.int .i64 0)) 3 (unhide Q1) (by rw [List.length_map, unhide HN]; simp) (one_i64 _) ?_; intro w2 hg2 hgr2)
    have hg3 : w2.heap[w.heap.size]? = some (.cells (lentK (L.map (Value.int .i64)) (.int .i64 (-77)) (.int .i64 0) 0).toArray 3 (0, 0)) := by
      rw [hg2, lentK_zero]
      congr 3
      rw [List.length_map, unhide HN, List.drop_replicate, show n + 8 - n = 8 by omega]
    have G0 := hide hg3
    have BE := hide ((unhide B1).grown hgr2 (unhide B1).size (fun k e => by have : w.heap.size = k := by simpa using e
                                                                            omega))
    have AL := hide (show (L.map (Value.int .i64)).length = n from by rw [List.length_map]; exact unhide HN)
    clear hg2 hg3 hgr2 hmk Q1 B1 RD q0 q1
    go_wp2_with fail
    go_loopw [4] (fun i wr => ∃ k : Nat, k ≤ 8 ∧ i = .int .i64 ((n : Int) + k) ∧ wr.heap[w.heap.size]? = some (.cells (lentK (L.map (Value.int .i64)) (.int .i64 (-77)) (.int .i64 0) k).toArray 3 (0, 0)) ∧ Below w.heap.size w wr) (fun i _ => n + 8 - (intOf i).toNat)
    case atStart => exact ⟨0, by omega, by simp, unhide G0, unhide BE⟩
    case round =>
      rename World => WR
      obtain ⟨k, hk, rfl, hg, hbe⟩ := hrel
      have G := hide hg
      have BW := hide hbe
      clear hbe
      by_cases hlt : k < 8
      · have hgt := lentK_get (L.map (Value.int .i64)) (.int .i64 (-77)) (.int .i64 0) hlt
        rw [unhide AL] at hgt
        have hc : WR.cell? ⟨w.heap.size, n + k, none⟩ = some (.int .i64 0) := by rw [cell_of_heap hg]; simpa using hgt
        have hf : WR.frozen? ⟨w.heap.size, n + k, none⟩ = false := frozen_of_heap hg
        have HS := hide (show (WR.setCell ⟨w.heap.size, n + k, none⟩ (.int .i64 (-77))).heap[w.heap.size]? = some (.cells (lentK (L.map (Value.int .i64)) (.int .i64 (-77)) (.int .i64 0) (k + 1)).toArray 3 (0, 0)) from by
          rw [heap_set hg, ← lentK_set _ _ _ hlt, unhide AL])
        clear hg hgt
        go_wp2
        go_roundw
        case rel => exact ⟨k + 1, by omega, by go_num, unhide HS, (unhide BW).setCell (p := ⟨w.heap.size, n + k, none⟩) (Nat.le_refl _) _⟩
        case measure => simp [intOf]; omega
      · have hk8 : k = 8 := by omega
        subst hk8
        clear hg
        go_wp2
        go_ret
        refine ⟨.slice (some ⟨w.heap.size, 0, none⟩) n (n + 8), rfl, Or.inr ⟨a, c, w.heap.size, ?_, ?_, Nat.le_refl _, ?_⟩, unhide BW⟩
        · rw [unhide HN]
        · rw [unhide HN]
        · have := unhide G
          rw [lentK_all] at this
          exact this

/-- what is taken back, round by round -/
def backK (A : List Value) (y : Value) (k : Nat) : List Value := List.replicate k y ++ A.drop k
theorem backK_set (A : List Value) (y : Value) {k : Nat} (hk : k < A.length) : (backK A y k).toArray.setIfInBounds k y = (backK A y (k + 1)).toArray := by
  apply Array.ext'
  unfold backK
  have e : A.drop k = A[k] :: A.drop (k + 1) := List.drop_eq_getElem_cons hk
  rw [Array.toList_setIfInBounds, List.set_append_right _ _ (by simp), List.length_replicate, Nat.sub_self, e, List.set_cons_zero, List.replicate_succ']
  simp
theorem backK_get (A : List Value) (y : Value) (k : Nat) : (backK A y k)[k]? = A[k]? := by
  unfold backK
  rw [List.getElem?_append_right (by simp), List.length_replicate, Nat.sub_self, List.getElem?_drop, Nat.add_zero]
theorem lentC_lo {L : List Int} {k : Nat} (h : k < L.length) : (lentC L)[k]? = some (.int .i64 L[k]) := by
  unfold lentC
  rw [List.getElem?_append_left (by simpa using h)]
  simp [h]
theorem lentC_hi {L : List Int} {k : Nat} (h1 : L.length ≤ k) (h2 : k < L.length + 8) : (lentC L)[k]? = some (.int .i64 (-77)) := by
  unfold lentC
  rw [List.getElem?_append_right (by simpa using h1), List.length_map, List.getElem?_replicate, if_pos (by omega)]

set_option maxRecDepth 100000 in
set_option maxHeartbeats 1600000 in
theorem backInts_any (L : List Int) (x v : Value) (w0 w : World) (hx : IntsAt w x L) (hv : LentI w0 w x v L) (hs : L = [] ∨ ∀ k, x.ownBlock = some k → v.ownBlock ≠ some k) (hl : L.length ≤ 16777216) :
    Calls Tryz.prog 30 #[v, x] w fun e w' => e = .returned (.bool true) ∧ Fr (fun k => v.ownBlock = some k) w (fun k => v.ownBlock = some k) w' := by
  have q0 := eqNilI0
  have q1 := eqNilI
  rcases hv with ⟨rfl, rfl, rfl⟩ | ⟨a, c, g, rfl, rfl, _, hg⟩
  · clear hx hs
    go_enter Tryz.func30, Tryz.ntmps30
    go_wp2
    go_ret
    exact ⟨rfl, Fr.refl _ _⟩
  · have HX := hide hx
    have HS := hide hs
    have AL := hide (show (lentC L).length = L.length + 8 from by unfold lentC; simp)
    have G0 := hide hg
    obtain ⟨n, hn⟩ : ∃ n, L.length = n := ⟨_, rfl⟩
    rw [hn] at HS AL hl ⊢
    have HN := hide hn
    have hbb : w.heap.size = w.heap.size := rfl
    clear hx hs hg hn hbb
    go_enter Tryz.func30, Tryz.ntmps30
    go_wp2_with fail
    go_loopw [6, 7] (fun ok i wr => ∃ k : Nat, k ≤ n + 8 ∧ ok = .bool true ∧ i = .int .i64 k ∧ wr.heap[g]? = some (.cells (backK (lentC L) (.int .i64 (-78)) k).toArray 3 (0, 0)) ∧ Fr (· = g) w (· = g) wr) (fun _ i _ => n + 8 - (intOf i).toNat)
    case atStart => exact ⟨0, by omega, rfl, rfl, unhide G0, Fr.refl _ _⟩
    case round =>
      rename World => WR
      obtain ⟨k, hk, rfl, rfl, hg, hfr⟩ := hrel
      have FR := hide hfr
      by_cases hlt : k < n + 8
      · have hk2 : k < (lentC L).length := by rw [unhide AL]; exact hlt
        have hgt := backK_get (lentC L) (.int .i64 (-78)) k
        have hf : WR.frozen? ⟨g, k, none⟩ = false := frozen_of_heap hg
        have SET := hide (show (WR.setCell ⟨g, k, none⟩ (.int .i64 (-78))).heap[g]? = some (.cells (backK (lentC L) (.int .i64 (-78)) (k + 1)).toArray 3 (0, 0)) from by
          rw [heap_set hg, ← backK_set _ _ hk2])
        have hc : WR.cell? ⟨g, k, none⟩ = (lentC L)[k]? := by rw [cell_of_heap hg, ← hgt]; simp
        by_cases hkn : k < n
        · have hkL : k < L.length := by rw [unhide HN]; exact hkn
          rw [lentC_lo hkL] at hc
          obtain ⟨p, c2, hxv, _, _, _, hr⟩ := unhide HX
          rcases hr with h | ⟨b, o, hp, hb, hcc⟩
          · exfalso; rw [h.1] at hkL; simp at hkL
          have hpa : a = ⟨b, o, none⟩ := by
            rw [hp] at hxv
            simp only [Value.slice.injEq, Option.some.injEq] at hxv
            exact hxv.1
          subst hpa
          have hbg : b ≠ g := fun e => by
            rcases unhide HS with h | h
            · rw [h] at hkL; simp at hkL
            · exact h b rfl (by rw [e]; rfl)
          have hcx : WR.cell? ⟨b, o + k, none⟩ = some (.int .i64 L[k]) := (World.cell?_of_block (w := w) (a := ⟨b, o + k, none⟩) (hfr.block b hb hbg)).trans (hcc k hkL)
          obtain ⟨X, hX⟩ : ∃ X, L[k] = X := ⟨_, rfl⟩
          rw [hX] at hc hcx
          clear hg hfr hgt hcc hX hxv hp
          go_wp2
          go_roundw
          case rel => exact ⟨k + 1, by omega, by simp, by go_num, unhide SET, (unhide FR).setCell (p := ⟨g, k, none⟩) (Or.inl rfl) _⟩
          case measure => simp [intOf]; omega
        · rw [lentC_hi (by rw [unhide HN]; omega) (by rw [unhide HN]; exact hlt)] at hc
          clear hg hfr hgt
          go_wp2
          go_roundw
          case rel => exact ⟨k + 1, by omega, by simp, by go_num, unhide SET, (unhide FR).setCell (p := ⟨g, k, none⟩) (Or.inl rfl) _⟩
          case measure => simp [intOf]; omega
      · clear hg hfr
        go_wp2
        go_ret
        exact ⟨rfl, by have := unhide FR; simpa [Value.ownBlock, eq_comm] using this⟩
end Go.Proofs.YtgdeeodifnegiaaGreatDoor
