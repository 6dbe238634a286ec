/- The program's putAll (package messages): attribute by attribute. -/
import Derived.Test.YtgngdklkoilaiaaGreatDoorMsgS
namespace Go.Proofs.YtgngdklkoilaiaaGreatDoor
open Go.RowKit

theorem Fr.toBelow {w w0 W : World} {ub : Nat} {O : Nat → Prop} (h : Fr (· = ub) w0 O W) (hb : Below w.heap.size w w0) (hu : w.heap.size ≤ ub) : Below w.heap.size w W :=
  hb.trans ⟨h.os, h.tape, h.output, h.size, fun k hk => h.block k (Nat.lt_of_lt_of_le hk hb.size) (by omega)⟩
theorem attsP_step7 {s : AS} {f n : Int} {v : List Int} {D : List (Int × Int × List Int)} (h : n ≤ s.last ∨ (flK n && (flU n == f)) = false) (hf : 0 ≤ f) : attsP s ((f, n, v) :: D) = .error 7 := by
  simp only [attsP]
  rw [if_pos]
  rcases h with h | h
  · exact Or.inr h
  · left
    intro e
    subst e
    revert h hf
    unfold flK flU flagsP
    by_cases h2 : n = 2
    · subst h2; simp
    · by_cases h5 : n = 5
      · subst h5; simp
      · by_cases h4 : n = 4
        · subst h4; simp
        · by_cases h8 : n = 8
          · subst h8; simp
          · simp [h2, h5, h4, h8]
theorem known_eq {f n : Int} (h : (flK n && (flU n == f)) = true) : f = flagsP n ∧ (n = 2 ∨ n = 4 ∨ n = 5 ∨ n = 8) := by
  simp only [Bool.and_eq_true, beq_iff_eq] at h
  obtain ⟨h1, h2⟩ := h
  unfold flK at h1
  simp only [Bool.or_eq_true, decide_eq_true_eq] at h1
  rcases h1 with rfl | rfl | rfl | rfl
  · exact ⟨by rw [← h2]; rfl, by simp⟩
  · exact ⟨by rw [← h2]; rfl, by simp⟩
  · exact ⟨by rw [← h2]; rfl, by simp⟩
  · exact ⟨by rw [← h2]; rfl, by simp⟩
theorem attsP_step {s : AS} {f n : Int} {v : List Int} {D : List (Int × Int × List Int)} (h1 : ¬ n ≤ s.last) (h2 : f = flagsP n) : attsP s ((f, n, v) :: D) = match into s.u n v with | none => .error 8 | some u => attsP ⟨u, n, s.two || n = 2, s.five || n = 5⟩ D := by
  simp only [attsP]
  rw [if_neg (fun h => h.elim (fun h => h h2) h1)]
  cases into s.u n v <;> rfl

/-- what putAll gives -/
def PutsC (w0 : World) (ub : Nat) (vg vn : Value) (D : List (Int × Int × List Int)) (e : Ending) (W' : World) : Prop :=
  ∃ k : Int, e = .returned (.int .i64 k) ∧ Fr (· = ub) w0 (· = ub) W' ∧ match attsP ⟨msgZ, 0, false, false⟩ D with | .error c => k = c | .ok s => k = 0 ∧ BoxU w0 W' ub vg vn s.u
theorem PutsC.err {w0 W' : World} {ub : Nat} {vg vn : Value} {D : List (Int × Int × List Int)} {c : Int} (h : attsP ⟨msgZ, 0, false, false⟩ D = .error c) (hf : Fr (· = ub) w0 (· = ub) W') : PutsC w0 ub vg vn D (.returned (.int .i64 c)) W' :=
  ⟨c, rfl, hf, by rw [h]⟩
theorem PutsC.ok {w0 W' : World} {ub : Nat} {vg vn : Value} {D : List (Int × Int × List Int)} {s : AS} (h : attsP ⟨msgZ, 0, false, false⟩ D = .ok s) (hf : BoxU w0 W' ub vg vn s.u) : PutsC w0 ub vg vn D (.returned (.int .i64 0)) W' :=
  ⟨0, rfl, hf.fr, by rw [h]; exact ⟨rfl, hf⟩⟩

set_option maxRecDepth 100000 in
set_option maxHeartbeats 3200000 in
theorem putAll_any (A : List (Int × Int × Value)) (D : List (Int × Int × List Int)) (x : Value) (w w0 : World) (ub : Nat) (qg qn : Option Addr) (ng nn cg cn : Nat) (ht : TabAt w) (hw : Below w.heap.size w w0) (hwu : w.heap.size ≤ ub) (hu : ub < w0.heap.size)
    (hB : BoxU w0 w0 ub (.slice qg ng cg) (.slice qn nn cn) msgZ) (hx : RowU w0 x A) (hxu : ∀ k, x.ownBlock = some k → k ≠ ub) (hA : AttsAt w A D) (hlen : A.length ≤ 65535)
    (hD : ∀ d ∈ D, (0 ≤ d.1 ∧ d.1 ≤ 255) ∧ (0 ≤ d.2.1 ∧ d.2.1 ≤ 255) ∧ d.2.2.length ≤ 255 ∧ bytesOk d.2.2) :
    Calls Tryz.prog 135 #[.pointer (some ⟨ub, 0, none⟩), x] w0 (PutsC w0 ub (.slice qg ng cg) (.slice qn nn cn) D) := by
  obtain ⟨p, c, rfl, hcap, hr⟩ := hx
  have HR := hide hr
  have HT := hide ht
  have HA := hide hA
  have HDD := hide hD
  have HW := hide hw
  have HB := hide hB
  have HL := hide hA.len
  clear hr ht hA hD hw hB
  go_enter Tryz.func135, Tryz.ntmps135
  go_wp2_with fail
  go_loopw [5, 10] (fun va i wr => ∃ (k : Nat) (s : AS), k ≤ A.length ∧ i = .int .i64 k ∧ va = .int .u8 s.last ∧ attsP ⟨msgZ, 0, false, false⟩ D = attsP s (D.drop k) ∧ BoxU w0 wr ub (.slice qg ng cg) (.slice qn nn cn) s.u) (fun _ i _ => A.length - (intOf i).toNat)
  case atStart => exact ⟨0, ⟨msgZ, 0, false, false⟩, Nat.zero_le _, rfl, rfl, rfl, unhide HB⟩
  case round =>
    rename World => WR
    obtain ⟨k, s, hk, rfl, rfl, hs, hbx⟩ := hrel
    have HS := hide hs
    have BX := hide hbx
    have FR := hide hbx.fr
    clear hs hbx
    by_cases hlt : k < A.length
    · rcases unhide HR with h | ⟨b, o, rfl, hb, hc⟩
      · rw [h] at hlt; simp at hlt
      have hbu : b ≠ ub := hxu b rfl
      have hltD : k < D.length := by have := unhide HL; omega
      have hck : WR.cell? ⟨b, o + k * 3, none⟩ = some (.int .u8 A[k].1) ∧ WR.cell? ⟨b, o + k * 3 + 1, none⟩ = some (.int .u8 A[k].2.1) ∧ WR.cell? ⟨b, o + k * 3 + 2, none⟩ = some A[k].2.2 := by
        have e := (unhide FR).block b hb hbu
        rw [World.cell?_of_block (w := w0) (a := ⟨b, o + k * 3, none⟩) e, World.cell?_of_block (w := w0) (a := ⟨b, o + k * 3 + 1, none⟩) e, World.cell?_of_block (w := w0) (a := ⟨b, o + k * 3 + 2, none⟩) e]
        exact hc k hlt
      have BWR := hide ((unhide FR).toBelow (unhide HW) hwu)
      obtain ⟨e1, e2, hby⟩ := (unhide HA).get k hlt hltD
      rw [e1, e2] at hck
      obtain ⟨⟨f0, f1⟩, ⟨n0, n1⟩, hvl, hvo⟩ := unhide HDD D[k] (List.getElem_mem _)
      have HDR := hide (List.drop_eq_getElem_cons hltD)
      obtain ⟨q2, k2, hv2⟩ : ∃ q2 k2, A[k].2.2 = .slice q2 D[k].2.2.length k2 := by
        obtain ⟨p, c, hv, _⟩ := hby; exact ⟨p, c, hv⟩
      rw [hv2] at hck hby
      obtain ⟨c0, c1, c2⟩ := hck
      clear hc hv2 e1 e2
      obtain ⟨X, hX⟩ : ∃ X, D[k] = X := ⟨_, rfl⟩
      rw [hX] at f0 f1 n0 n1 hvl hvo c0 c1 c2 hby HDR
      clear hX
      obtain ⟨f, n, Y⟩ := X
      simp only at f0 f1 n0 n1 hvl hvo c0 c1 c2 hby HDR
      have HBY := hide hby
      have HS2 := hide (show attsP ⟨msgZ, 0, false, false⟩ D = attsP s ((f, n, Y) :: D.drop (k + 1)) from by rw [unhide HS, unhide HDR])
      clear hby hvo
      have QA := heap_alloc_new WR (.cells #[.int .u8 f, .int .u8 n, .slice q2 Y.length k2] 279)
      have bA := (Below.refl WR.heap.size WR).alloc (Nat.le_refl _) (.cells #[.int .u8 f, .int .u8 n, .slice q2 Y.length k2] 279)
      obtain ⟨WA, hWA⟩ : ∃ WA, WR.alloc (.cells #[.int .u8 f, .int .u8 n, .slice q2 Y.length k2] 279) = WA := ⟨_, rfl⟩
      rw [hWA] at QA bA
      have HQA := hide QA
      have BA := hide bA
      have HWA := hide hWA
      have hlA : WR.heap.size < WA.heap.size := heap_lt QA
      have a0 : WA.cell? ⟨WR.heap.size, 0, none⟩ = some (.int .u8 f) := cell_of_heap QA
      have a1 : WA.cell? ⟨WR.heap.size, 1, none⟩ = some (.int .u8 n) := cell_of_heap QA
      have a2 : WA.cell? ⟨WR.heap.size, 2, none⟩ = some (.slice q2 Y.length k2) := cell_of_heap QA
      have FRA := hide ((unhide FR).below bA)
      clear QA bA hWA
      by_cases hle : n ≤ s.last
      · have HF := hide (show attsP ⟨msgZ, 0, false, false⟩ D = .error 7 from by rw [unhide HS2]; exact attsP_step7 (Or.inl hle) f0)
        go_wp2
        go_ret
        exact PutsC.err (unhide HF) (by rw [unhide HWA]; exact unhide FRA)
      · go_upto_region 5 with fail
        rw [unhide HWA]
        go_wp2_with fail
        refine (known_any f n q2 _ k2 _ ((unhide HT).below ((unhide BWR).trans ((unhide BA).mono (unhide BWR).size)))).mono ?_
        rintro e w1 ⟨rfl, hb1⟩
        have FR1 := hide ((unhide FRA).below hb1)
        have BX1 := hide (((unhide BX).next (unhide BA)).next hb1)
        have QA1 := hide ((hb1.block _ hlA).trans (unhide HQA))
        have BW1 := hide ((unhide FR1).toBelow (unhide HW) hwu)
        clear hb1 a0 a1 a2
        cases hkn : (flK n && (flU n == f)) with
        | false =>
          have HF := hide (show attsP ⟨msgZ, 0, false, false⟩ D = .error 7 from by rw [unhide HS2]; exact attsP_step7 (Or.inr hkn) f0)
          clear hkn
          go_wp2
          go_ret
          exact PutsC.err (unhide HF) (unhide FR1)
        | true =>
          obtain ⟨hfl, hn4⟩ := known_eq hkn
          have HS3 := hide (show attsP ⟨msgZ, 0, false, false⟩ D = match into s.u n Y with | none => .error 8 | some u => attsP ⟨u, n, s.two || n = 2, s.five || n = 5⟩ (D.drop (k + 1)) from by rw [unhide HS2]; exact attsP_step (by omega) hfl)
          clear hkn hfl
          have a0 : w1.cell? ⟨WR.heap.size, 0, none⟩ = some (.int .u8 f) := cell_of_heap (unhide QA1)
          have a1 : w1.cell? ⟨WR.heap.size, 1, none⟩ = some (.int .u8 n) := cell_of_heap (unhide QA1)
          have a2 : w1.cell? ⟨WR.heap.size, 2, none⟩ = some (.slice q2 Y.length k2) := cell_of_heap (unhide QA1)
          have hl1 : WR.heap.size < w1.heap.size := heap_lt (unhide QA1)
          have hWu : ub < WR.heap.size := Nat.lt_of_lt_of_le hu (unhide FR).size
          go_wp2_with fail
          refine (put_any f n _ Y w0 w1 ub qg qn ng nn cg cn s.u hn4 hu (unhide BX1) ((unhide HBY).below (unhide BW1)) hvl).mono ?_
          rintro e w2 ⟨ok, rfl, hf2, hm⟩
          have FR2 := hide ((unhide FR1).trans hf2)
          have QA2 := (hf2.block WR.heap.size hl1 (by omega)).trans (unhide QA1)
          have a3 : w2.cell? ⟨WR.heap.size, 1, none⟩ = some (.int .u8 n) := cell_of_heap QA2
          clear hf2 a0 a1 a2 hn4
          cases hi : into s.u n Y with
          | none =>
            rw [hi] at hm
            have HF := hide (show attsP ⟨msgZ, 0, false, false⟩ D = .error 8 from by rw [unhide HS3, hi])
            simp only at hm
            subst hm
            clear hi
            go_wp2
            go_ret
            exact PutsC.err (unhide HF) (unhide FR2)
          | some U =>
            rw [hi] at hm
            have HF := hide (show attsP ⟨msgZ, 0, false, false⟩ D = attsP ⟨U, n, s.two || n = 2, s.five || n = 5⟩ (D.drop (k + 1)) from by rw [unhide HS3, hi])
            simp only at hm
            obtain ⟨rfl, hb2⟩ := hm
            have BX2 := hide hb2
            clear hi hb2
            go_wp2_with fail
            exact ⟨⟨k + 1, ⟨U, n, s.two || n = 2, s.five || n = 5⟩, by omega, by go_num, rfl, unhide HF, unhide BX2⟩, by simp [intOf]; omega⟩
    · have HF := hide (show attsP ⟨msgZ, 0, false, false⟩ D = .ok s from by
        have := unhide HL
        rw [unhide HS, List.drop_eq_nil_of_le (by omega)]; rfl)
      go_wp2
      go_ret
      exact PutsC.ok (unhide HF) (unhide BX)
end Go.Proofs.YtgngdklkoilaiaaGreatDoor
