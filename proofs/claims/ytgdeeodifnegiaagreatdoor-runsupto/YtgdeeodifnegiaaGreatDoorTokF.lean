/- Tokens: a prefix (package token). -/
import Derived.Test.YtgdeeodifnegiaaGreatDoorTokC
import Derived.Test.YtgdeeodifnegiaaGreatDoorRtP
import Derived.Test.YtgdeeodifnegiaaGreatDoorShC
namespace Go.Proofs.YtgdeeodifnegiaaGreatDoor
open Go.RowKit

def befS (t : ByteArray) : ByteArray := ⟨(Lib.cut t.data.toList [47]).1.toArray⟩
def behS (t : ByteArray) : ByteArray := ⟨(Lib.cut t.data.toList [47]).2.1.toArray⟩
def dotB : ByteArray := ⟨#[46]⟩
def partsS (t : ByteArray) : List ByteArray := Lib.splitB dotB 0 (Lib.countB (befS t) dotB) (befS t)
def addrS : List ByteArray → Int → Option Int
  | [], a => some a
  | p :: l, a => if numIs p 255 = true then addrS l (a * 256 + numV p 255) else none
/-- a prefix, as the program reads it -/
def prefS (t : ByteArray) : Option (Int × Int) :=
  if (partsS t).length = 4 then
    match addrS (partsS t) 0 with
    | none => none
    | some a => if numIs (behS t) 32 = true ∧ netOkB (a, numV (behS t) 32) = true then some (a, numV (behS t) 32) else none
  else none
theorem cut_len (s c : List UInt8) : (Lib.cut s c).1.length ≤ s.length ∧ (Lib.cut s c).2.1.length ≤ s.length := by
  unfold Lib.cut
  split
  · exact ⟨by simp; omega, by simp⟩
  · exact ⟨Nat.le_refl _, Nat.zero_le _⟩
theorem bef_len (t : ByteArray) : (befS t).size ≤ t.size ∧ (behS t).size ≤ t.size := by
  have h := cut_len t.data.toList [47]
  have e : t.data.toList.length = t.size := Array.length_toList
  rw [e] at h
  exact ⟨h.1, h.2⟩
theorem splitB_size (sep : ByteArray) : ∀ (k : Nat) (s : ByteArray), ∀ p ∈ Lib.splitB sep 0 k s, p.size ≤ s.size
  | 0, s, p, h => by rw [Lib.splitB_zero] at h; rw [List.mem_singleton.1 h]; exact Nat.le_refl _
  | k + 1, s, p, h => by
    rw [Lib.splitB] at h
    split at h
    · rw [List.mem_singleton.1 h]; exact Nat.le_refl _
    · rcases List.mem_cons.1 h with rfl | h
      · simp; omega
      · have := splitB_size sep k _ p h
        simp at this; omega
theorem or_shl {a n : Int} (h0 : 0 ≤ a) (h1 : a ≤ 16777215) (n0 : 0 ≤ n) (n1 : n ≤ 255) : bits .or .i64 (a * 256) n = a * 256 + n :=
  bits_join .i64 62 (by decide) wraps_i64_62 8 (a * 256) n (by omega) (by omega) (by omega) n0 (by omega) (by omega)
theorem addrS_snoc {l : List ByteArray} {k : Nat} (h : k < l.length) {a : Int} : addrS (l.take (k + 1)) a = match addrS (l.take k) a with | none => none | some b => if numIs l[k] 255 = true then some (b * 256 + numV l[k] 255) else none := by
  induction l generalizing k a with
  | nil => simp at h
  | cons p l ih =>
    cases k with
    | zero => simp [addrS]
    | succ k =>
      simp only [List.take_succ_cons, addrS, List.getElem_cons_succ]
      split
      · exact ih (by simpa using h)
      · rfl
theorem addrS_none {l : List ByteArray} {k : Nat} {a : Int} (h : addrS (l.take k) a = none) : addrS l a = none := by
  induction l generalizing k a with
  | nil => simp [addrS] at h
  | cons p l ih =>
    cases k with
    | zero => simp [addrS] at h
    | succ k =>
      simp only [List.take_succ_cons, addrS] at h ⊢
      split
      · rename_i hp; rw [if_pos hp] at h; exact ih h
      · rfl
theorem numV_bd {s : ByteArray} {m : Int} (h : 0 ≤ m) : 0 ≤ numV s m ∧ numV s m ≤ m := by
  unfold numV
  have := numP_le (s := s) h
  split <;> omega
def prefV (t : ByteArray) : Int × Int := (prefS t).getD (0, 0)
def PrefRes (w : World) (t : ByteArray) (e : Ending) (w' : World) : Prop := e = .returned (.tuple #[.agg #[.int .i64 (prefV t).1, .int .i64 (prefV t).2], .bool (prefS t).isSome]) ∧ Below w.heap.size w w'
theorem below_keeps {w w1 : World} {o : Obj} (h : Below (w.alloc o).heap.size (w.alloc o) w1) : w1.heap[w.heap.size]? = some o ∧ Below w.heap.size w w1 :=
  ⟨(h.block w.heap.size (by simp)).trans (heap_alloc_new w o), ((Below.refl _ w).alloc (Nat.le_refl _) o).trans (h.mono (by simp))⟩
theorem cut_call (t : ByteArray) (hs : t.size ≤ 1000) (w : World) (hm : MaxAt w) : Calls Tryz.prog 295 #[.string t, .string ⟨#[47]⟩] w fun e w' => ∃ fd, e = .returned (.tuple #[.string (befS t), .string (behS t), .bool fd]) ∧ Below w.heap.size w w' := by
  obtain ⟨_, m, hm⟩ := hm
  refine (Any.strings_Cut { Tryz.shCut with } t ⟨#[47]⟩ m w (by omega) hm).mono ?_
  rintro e w' ⟨rfl, n, rfl⟩
  exact ⟨_, rfl, below_drewN (Below.refl _ _) n⟩
theorem split_call (s : ByteArray) (hs : s.size ≤ 1000) (w : World) (hm : MaxAt w) : Calls Tryz.prog 296 #[.string s, .string ⟨#[46]⟩] w fun e w' => e = .returned (.slice (some ⟨w.heap.size, 0, none⟩) (Lib.splitB dotB 0 (Lib.countB s dotB) s).length (Lib.splitB dotB 0 (Lib.countB s dotB) s).length) ∧ w'.heap[w.heap.size]? = some (.cells ((Lib.splitB dotB 0 (Lib.countB s dotB) s).map Value.string).toArray 9 (0, 0)) ∧ Below w.heap.size w w' := by
  obtain ⟨_, m, hm⟩ := hm
  rw [show (Lib.splitB dotB 0 (Lib.countB s dotB) s).length = Lib.countB s dotB + 1 from Lib.splitB_all dotB (by decide) 0 _ _ rfl]
  refine (Any.strings_Split { Tryz.shSplit with } Tryz.shSplit.i9 s dotB m w (by omega) hm (by decide)).mono ?_
  rintro e w' ⟨rfl, rfl⟩
  exact ⟨rfl, heap_alloc_new w _, (Below.refl _ _).alloc (Nat.le_refl _) _⟩
theorem parts_cell {w : World} {g k : Nat} {l : List ByteArray} (h : w.heap[g]? = some (.cells (l.map Value.string).toArray 9 (0, 0))) (hk : k < l.length) : w.cell? ⟨g, k, none⟩ = some (.string l[k]) := by
  rw [cell_of_heap h]; simp [hk]
set_option maxRecDepth 100000 in
set_option maxHeartbeats 4000000 in
theorem prefix_any (t : ByteArray) (hs : t.size ≤ 1000) (w : World) (hm : MaxAt w) : Calls Tryz.prog 257 #[.string t] w (PrefRes w t) := by
  obtain ⟨hb1, hb2⟩ := bef_len t
  have HC := hide (cut_call t hs (w.alloc (.cells #[.int .i64 0, .int .i64 0] 25)) (hm.below ((Below.refl _ _).alloc (Nat.le_refl _) _)))
  have HS := hide (fun (W : World) (hW : Below w.heap.size w W) => split_call (befS t) (by omega) W (hm.below hW))
  have HPZ := hide (show ∀ p ∈ partsS t, p.size ≤ 1000 from fun p hp => by have := splitB_size dotB _ _ p hp; omega)
  have hPS : Hid (prefS t = if (partsS t).length = 4 then (match addrS (partsS t) 0 with | none => none | some a => if numIs (behS t) 32 = true ∧ netOkB (a, numV (behS t) 32) = true then some (a, numV (behS t) 32) else none) else none) := rfl
  have HPV : Hid (prefV t = (prefS t).getD (0, 0)) := rfl
  rw [show Lib.splitB dotB 0 (Lib.countB (befS t) dotB) (befS t) = partsS t from rfl] at HS
  have HNB := hide (fun (W : World) => number_any (behS t) 32 (by omega) (by decide) (by decide) W)
  have bNB := numV_bd (s := behS t) (m := 32) (by decide)
  generalize partsS t = L at *
  generalize befS t = BF at *
  generalize behS t = BH at *
  clear hm
  unfold PrefRes
  rw [unhide HPV]
  clear HPV
  generalize prefS t = R at *
  go_enter Tryz.func257, Tryz.ntmps257
  by_cases h4 : L.length = 4
  · have hPS2 := unhide hPS
    rw [if_pos h4] at hPS2
    rw [h4] at HS
    clear hPS
    go_wp2_with (first
      | (go_at_call 295; refine (unhide HC).mono ?_; clear HC; rintro e w1 ⟨fd, rfl, hb1⟩; have hk1 := (hb1.block w.heap.size (by simp)).trans (heap_alloc_new w _); have HB1 := hide (((Below.refl _ w).alloc (Nat.le_refl _) (.cells #[.int .i64 0, .int .i64 0] 25)).trans (hb1.mono (by simp))); have HK1 := hide hk1; clear hb1 hk1)
      | (go_at_call 296; refine ((unhide HS) _ (unhide HB1)).mono ?_; clear HS; rintro e w2 ⟨rfl, hg2, hb2⟩; have hw1 : w.heap.size < w1.heap.size := heap_lt (unhide HK1); have HK2 := hide ((hb2.block w.heap.size hw1).trans (unhide HK1)); have HB2 := hide ((unhide HB1).trans (hb2.mono (unhide HB1).size)); have HG2 := hide hg2; clear hg2 hb2))
    have hk2 := unhide HK2
    have c0 : w2.cell? ⟨w.heap.size, 0, none⟩ = some (.int .i64 0) := cell_of_heap hk2
    have c1 : w2.cell? ⟨w.heap.size, 1, none⟩ = some (.int .i64 0) := cell_of_heap hk2
    have z0 : w2.frozen? ⟨w.heap.size, 0, none⟩ = false := frozen_of_heap hk2
    have z1 : w2.frozen? ⟨w.heap.size, 1, none⟩ = false := frozen_of_heap hk2
    have lw2 : w.heap.size < w2.heap.size := heap_lt hk2
    have HPS := hide hPS2
    clear hk2 hPS2
    go_loop [8, 30] (fun a i => ∃ (k : Nat) (b : Int), k ≤ 4 ∧ i = .int .i64 (k : Nat) ∧ a = .int .i64 b ∧ Hid (addrS (L.take k) 0 = some b) ∧ 0 ≤ b ∧ b < 256 ^ k) (fun _ i => 4 - (intOf i).toNat)
    case atStart => exact ⟨0, 0, Nat.zero_le _, rfl, rfl, rfl, Int.le_refl _, by decide⟩
    case round =>
      obtain ⟨k, b, hk, rfl, rfl, HA, hb0, hbk⟩ := hrel
      by_cases hlt : k < 4
      · have hkL : k < L.length := by omega
        have hck : w2.cell? ⟨w1.heap.size, k, none⟩ = some (.string L[k]) := parts_cell (unhide HG2) hkL
        have HNX := hide (number_any L[k] 255 (unhide HPZ _ (List.getElem_mem _)) (by decide) (by decide) w2)
        have bN := numV_bd (s := L[k]) (m := 255) (by decide)
        have hsn := addrS_snoc hkL (a := 0)
        rw [unhide HA] at hsn
        have hbb : b ≤ 16777215 := by
          rcases (by omega : k = 0 ∨ k = 1 ∨ k = 2 ∨ k = 3) with rfl | rfl | rfl | rfl <;> omega
        generalize L[k] = X at *
        generalize numV X 255 = N at *
        cases hx : numIs X 255 with
        | false =>
          have hR : R = none := by
            simp only [hx] at hsn
            rw [unhide HPS, addrS_none (k := k + 1) (by simpa using hsn)]
          rw [hx] at HNX
          clear hsn HPS
          subst hR
          go_wp2_with (go_at_call 256; refine (unhide HNX).mono ?_; rintro e w3 ⟨rfl, rfl⟩)
          refine bodyPost_ret (v := .tuple #[.agg #[.int .i64 0, .int .i64 0], .bool false]) (by simp [results, Tryz.results257, go_sem, c0, c1]) rfl ⟨rfl, ?_⟩
          exact Below.setCell (p := ⟨w.heap.size, 1, none⟩) (Below.setCell (p := ⟨w.heap.size, 0, none⟩) (unhide HB2) (Nat.le_refl _) _) (Nat.le_refl _) _
        | true =>
          have HA2 : Hid (addrS (L.take (k + 1)) 0 = some (b * 256 + N)) := by
            simp only [hx] at hsn
            exact hsn
          rw [hx] at HNX
          have hor := or_shl hb0 hbb bN.1 bN.2
          have hpw : b * 256 + N < 256 ^ (k + 1) := by
            rw [Int.pow_succ]; omega
          clear hsn
          go_wp2_with (go_at_call 256; refine (unhide HNX).mono ?_; rintro e w3 ⟨rfl, rfl⟩)
          go_round
          case rel => exact ⟨k + 1, b * 256 + N, by omega, by go_num, rfl, HA2, by omega, hpw⟩
          case measure => simp [intOf]; omega
      · obtain rfl : k = 4 := by omega
        have hA := unhide HA
        rw [List.take_of_length_le (by omega)] at hA
        have hPS3 := unhide HPS
        rw [hA] at hPS3
        have hb4 : b ≤ 4294967295 := by omega
        have HVL := hide (fun (W : World) => Valid_any (b, numV BH 32) W (by unfold inI; dsimp only; omega) (by unfold inI; dsimp only; omega))
        clear HA HPS hA
        generalize numV BH 32 = N at *
        cases hx : numIs BH 32 with
        | false =>
          have hR : R = none := by simpa [hx] using hPS3
          rw [hx] at HNB
          clear hPS3
          subst hR
          go_wp2_with (go_at_call 256; refine ((unhide HNB) _).mono ?_; rintro e w3 ⟨rfl, rfl⟩)
          refine bodyPost_ret (v := .tuple #[.agg #[.int .i64 0, .int .i64 0], .bool false]) (by simp [results, Tryz.results257, go_sem, c0, c1, lw2]) rfl ⟨rfl, ?_⟩
          first
            | exact Below.setCell (p := ⟨w.heap.size, 1, none⟩) (Below.setCell (p := ⟨w.heap.size, 0, none⟩) ((unhide HB2).alloc (unhide HB2).size _) (Nat.le_refl _) _) (Nat.le_refl _) _
            | exact Below.alloc (Below.setCell (p := ⟨w.heap.size, 1, none⟩) (Below.setCell (p := ⟨w.heap.size, 0, none⟩) (unhide HB2) (Nat.le_refl _) _) (Nat.le_refl _) _) (by simp [World.setCell]; omega) _
        | true =>
          rw [hx] at HNB
          cases hv : netOkB (b, N) with
          | false =>
            have hR : R = none := by simpa [hx, hv] using hPS3
            rw [hv] at HVL
            clear hPS3
            subst hR
            go_wp2_with (first
              | (go_at_call 256; refine ((unhide HNB) _).mono ?_; rintro e w3 ⟨rfl, rfl⟩)
              | (go_at_call 144; refine ((unhide HVL) _).mono ?_; rintro e w4 ⟨rfl, hb4⟩; obtain ⟨hkn, hb5⟩ := below_keeps hb4; have n0 : w4.cell? ⟨w3.heap.size, 0, none⟩ = some (.int .i64 b) := cell_of_heap hkn; have n1 : w4.cell? ⟨w3.heap.size, 1, none⟩ = some (.int .i64 N) := cell_of_heap hkn; have hkr := (hb5.block w.heap.size lw2).trans (unhide HK2); have d0 : w4.cell? ⟨w.heap.size, 0, none⟩ = some (.int .i64 0) := cell_of_heap hkr; have d1 : w4.cell? ⟨w.heap.size, 1, none⟩ = some (.int .i64 0) := cell_of_heap hkr; have y0 : w4.frozen? ⟨w.heap.size, 0, none⟩ = false := frozen_of_heap hkr; have y1 : w4.frozen? ⟨w.heap.size, 1, none⟩ = false := frozen_of_heap hkr; have HB4 := hide ((unhide HB2).trans (hb5.mono (unhide HB2).size)); clear hb4 hb5 hkn hkr))
            refine bodyPost_ret (v := .tuple #[.agg #[.int .i64 0, .int .i64 0], .bool false]) (by simp [results, Tryz.results257, go_sem, d0, d1]) rfl ⟨rfl, ?_⟩
            exact Below.setCell (p := ⟨w.heap.size, 1, none⟩) (Below.setCell (p := ⟨w.heap.size, 0, none⟩) (unhide HB4) (Nat.le_refl _) _) (Nat.le_refl _) _
          | true =>
            have hR : R = some (b, N) := by simpa [hx, hv] using hPS3
            rw [hv] at HVL
            clear hPS3
            subst hR
            go_wp2_with (first
              | (go_at_call 256; refine ((unhide HNB) _).mono ?_; rintro e w3 ⟨rfl, rfl⟩)
              | (go_at_call 144; refine ((unhide HVL) _).mono ?_; rintro e w4 ⟨rfl, hb4⟩; obtain ⟨hkn, hb5⟩ := below_keeps hb4; have n0 : w4.cell? ⟨w3.heap.size, 0, none⟩ = some (.int .i64 b) := cell_of_heap hkn; have n1 : w4.cell? ⟨w3.heap.size, 1, none⟩ = some (.int .i64 N) := cell_of_heap hkn; have hkr := (hb5.block w.heap.size lw2).trans (unhide HK2); have d0 : w4.cell? ⟨w.heap.size, 0, none⟩ = some (.int .i64 0) := cell_of_heap hkr; have d1 : w4.cell? ⟨w.heap.size, 1, none⟩ = some (.int .i64 0) := cell_of_heap hkr; have y0 : w4.frozen? ⟨w.heap.size, 0, none⟩ = false := frozen_of_heap hkr; have y1 : w4.frozen? ⟨w.heap.size, 1, none⟩ = false := frozen_of_heap hkr; have HB4 := hide ((unhide HB2).trans (hb5.mono (unhide HB2).size)); clear hb4 hb5 hkn hkr))
            refine bodyPost_ret (v := .tuple #[.agg #[.int .i64 b, .int .i64 N], .bool true]) (by simp [results, Tryz.results257, go_sem, d0, d1]) rfl ⟨rfl, ?_⟩
            exact Below.setCell (p := ⟨w.heap.size, 1, none⟩) (Below.setCell (p := ⟨w.heap.size, 0, none⟩) (unhide HB4) (Nat.le_refl _) _) (Nat.le_refl _) _
  · have hPS2 : R = none := by rw [unhide hPS, if_neg h4]
    subst hPS2
    have h4' : ¬ ((L.length : Nat) : Int) = 4 := by omega
    go_wp2_with (first
      | (go_at_call 295; refine (unhide HC).mono ?_; clear HC; rintro e w1 ⟨fd, rfl, hb1⟩; have hk1 := (hb1.block w.heap.size (by simp)).trans (heap_alloc_new w _); have HB1 := hide (((Below.refl _ w).alloc (Nat.le_refl _) (.cells #[.int .i64 0, .int .i64 0] 25)).trans (hb1.mono (by simp))); have HK1 := hide hk1; clear hb1 hk1)
      | (go_at_call 296; refine ((unhide HS) _ (unhide HB1)).mono ?_; clear HS; rintro e w2 ⟨rfl, hg2, hb2⟩; have hw1 : w.heap.size < w1.heap.size := heap_lt (unhide HK1); have hk2 := (hb2.block w.heap.size hw1).trans (unhide HK1); have c0 : w2.cell? ⟨w.heap.size, 0, none⟩ = some (.int .i64 0) := cell_of_heap hk2; have c1 : w2.cell? ⟨w.heap.size, 1, none⟩ = some (.int .i64 0) := cell_of_heap hk2; have hz0 : w2.frozen? ⟨w.heap.size, 0, none⟩ = false := frozen_of_heap hk2; have hz1 : w2.frozen? ⟨w.heap.size, 1, none⟩ = false := frozen_of_heap hk2; have HB2 := hide ((unhide HB1).trans (hb2.mono (unhide HB1).size)); clear hg2 hb2 hk2))
    refine bodyPost_ret (v := .tuple #[.agg #[.int .i64 0, .int .i64 0], .bool false]) (by simp [results, Tryz.results257, go_sem, c0, c1]) rfl ⟨rfl, ?_⟩
    exact Below.setCell (p := ⟨w.heap.size, 1, none⟩) (Below.setCell (p := ⟨w.heap.size, 0, none⟩) (unhide HB2) (Nat.le_refl _) _) (Nat.le_refl _) _
end Go.Proofs.YtgdeeodifnegiaaGreatDoor
