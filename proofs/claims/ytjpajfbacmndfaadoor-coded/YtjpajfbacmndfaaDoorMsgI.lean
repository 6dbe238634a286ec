/- The program's validNets and valid (package messages): what is a message. -/
import Derived.Test.YtjpajfbacmndfaaDoorMsgH
namespace Go.Proofs.YtjpajfbacmndfaaDoor
open Go.RowKit

theorem NetsAt.take {w : World} {p : Option Addr} {n c : Nat} {l : List (Int × Int)} (h : NetsAt w (.slice p n c) l) {k : Nat} (hk : k ≤ n) : NetsAt w (.slice p k c) (l.take k) := by
  obtain ⟨p', c', hv, hcap, hl, hin, hr⟩ := h
  cases hv
  have e : (l.take k).length = k := by rw [List.length_take]; omega
  refine ⟨p, c, by rw [e], by omega, by omega, fun x hx => hin x (List.mem_of_mem_take hx), ?_⟩
  rcases hr with ⟨rfl, h⟩ | ⟨b, o, rfl, hb, hc⟩
  · exact Or.inl ⟨by simp, h⟩
  · refine Or.inr ⟨b, o, rfl, hb, fun j hj => ?_⟩
    rw [List.getElem_take]
    exact hc j (by omega)
theorem netsOkB_mem {l : List (Int × Int)} {k : Nat} (hk : k < l.length) (h : l[k] ∈ l.take k) : netsOkB l = false := by
  obtain ⟨j, hj, e⟩ := List.mem_iff_getElem.1 h
  rw [List.getElem_take] at e
  rw [List.length_take] at hj
  exact netsOkB_twice hk (j := j) (by omega) e.symm

set_option maxRecDepth 100000 in
set_option maxHeartbeats 3200000 in
theorem validNets_any (g t : List (Int × Int)) (x y : Value) (w : World) (hx : NetsAt w x g) (hy : NetsAt w y t) :
    Calls Tryd.prog 24 #[x, y] w fun e w' => e = .returned (.bool (netsOkB (g ++ t))) ∧ Below w.heap.size w w' := by
  have HX := hide hx
  have HY := hide hy
  have HIN : Hid (∀ z ∈ g ++ t, inI z.1 ∧ inI z.2) := by
    obtain ⟨_, _, _, _, _, h1, _⟩ := hx
    obtain ⟨_, _, _, _, _, h2, _⟩ := hy
    intro z hz
    rcases List.mem_append.1 hz with h | h
    · exact h1 z h
    · exact h2 z h
  obtain ⟨px, cx, rfl, -, hlx, -⟩ := hx
  obtain ⟨py, cy, rfl, -, hly, -⟩ := hy
  go_enter Tryd.func24, Tryd.ntmps24
  by_cases h20 : 20 < g.length + t.length
  · have HF := hide (netsOkB_long (l := g ++ t) (by rw [List.length_append]; exact h20))
    go_wp2
    go_ret
    exact ⟨rt_bool (unhide HF).symm, Below.refl _ _⟩
  · go_wp2_with fail
    have b0 := (Below.refl w.heap.size w).alloc (Nat.le_refl _) (.cells #[.slice px g.length cx, .slice py t.length cy] 24)
    refine (Concat_any g t w.heap.size _ _ _ ((unhide HX).below b0) ((unhide HY).below b0) (heap_alloc_new w _) (by omega)).mono ?_
    rintro e w2 ⟨v2, rfl, ho2, hb2⟩
    have B2 := hide (b0.trans (hb2.mono b0.size))
    have hlen : (g ++ t).length ≤ 20 := by rw [List.length_append]; omega
    revert ho2 hlen HIN
    obtain ⟨L, hL⟩ : ∃ L, g ++ t = L := ⟨_, rfl⟩
    have HL := hide hL
    rw [hL]
    intro HIN ho2 hlen
    clear hL hb2 b0 HX HY
    obtain ⟨q5, c5, rfl⟩ := own_slice ho2
    have O2 := hide ho2
    have N2 := hide (ho2.at_ (unhide HIN) (by omega))
    clear ho2
    go_wp2_with fail
    go_loopw [20] (fun i wr => ∃ k : Nat, k ≤ L.length ∧ i = .int .i64 k ∧ (∀ z ∈ L.take k, netOk z) ∧ (L.take k).Nodup ∧ Below w2.heap.size w2 wr) (fun i _ => L.length - (intOf i).toNat)
    case atStart => exact ⟨0, Nat.zero_le _, rfl, by simp, by simp, Below.refl _ _⟩
    case round =>
      rename World => WR
      obtain ⟨k, hk, rfl, hok, hnd, hbe⟩ := hrel
      have BE := hide hbe
      have NR := hide ((unhide N2).below hbe)
      have bw := hide ((unhide B2).trans (hbe.mono (unhide B2).size))
      have HOK := hide hok
      have HND := hide hnd
      have OR := hide ((unhide O2).nextW hbe)
      clear hbe hok hnd
      by_cases hlt : k < L.length
      · obtain ⟨gg, rfl, hg1, hg2, hcell⟩ := (unhide OR).cellW hlt
        obtain ⟨c0, c1⟩ := hcell k hlt
        have hI := unhide HIN L[k] (List.getElem_mem _)
        have hkc : (k : Int) ≤ c5 := by
          rcases (unhide OR).2 with ⟨h1, _⟩ | ⟨_, _, _, h1, _, _, h2, _⟩
          · cases h1
          · cases h1; omega
        have HTK := hide (List.take_succ_eq_append_getElem hlt)
        have HBAD : Hid (netOkB L[k] = false → netsOkB L = false) := fun h => netsOkB_bad hlt h
        have HTW : Hid (L[k] ∈ L.take k → netsOkB L = false) := fun h => netsOkB_mem hlt h
        have HNXT : Hid (L[k] ∉ L.take k → (L.take (k + 1)).Nodup) := fun h => nodup_take_succ hlt (unhide HND) h
        clear hcell
        obtain ⟨X, hX⟩ : ∃ X, L[k] = X := ⟨_, rfl⟩
        rw [hX] at c0 c1 hI HTK HBAD HTW HNXT
        clear hX
        obtain ⟨hI1, hI2⟩ := hI
        go_upto_region 7 with fail
        have q0 := heap_alloc_new WR (.cells #[.int .i64 X.1, .int .i64 X.2] 28)
        have bA := (Below.refl WR.heap.size WR).alloc (Nat.le_refl _) (.cells #[.int .i64 X.1, .int .i64 X.2] 28)
        obtain ⟨WA, hWA⟩ : ∃ WA, WR.alloc (.cells #[.int .i64 X.1, .int .i64 X.2] 28) = WA := ⟨_, rfl⟩
        rw [hWA] at q0 bA ⊢
        have x0 : WA.cell? ⟨WR.heap.size, 0, none⟩ = some (.int .i64 X.1) := cell_of_heap q0
        have x1 : WA.cell? ⟨WR.heap.size, 1, none⟩ = some (.int .i64 X.2) := cell_of_heap q0
        have hlA : WR.heap.size < WA.heap.size := heap_lt q0
        have NA := hide ((unhide NR).below bA)
        have BA := hide bA
        clear hWA q0 bA c0 c1
        go_cut [34] (fun v34 wc => v34 = .bool (!netOkB X || decide (X ∈ L.take k)) ∧ Below WR.heap.size WR wc)
        case first =>
          cases hbn : netOkB X with
          | false =>
            have HBN := hide hbn
            clear hbn
            first
              | (go_region_with (go_at_call 39; refine (Valid_any X _ hI1 hI2).mono ?_; rintro e w3 ⟨rfl, hb3⟩; rw [unhide HBN]))
              | fail
            all_goals
              have B3 : Hid (Below WA.heap.size WA w3) := by
                refine Below.trans ?_ hb3
                repeat (first | exact Below.refl _ _ | refine Below.drew ?_)
              clear hb3
              go_wp2_with fail
              go_meet
              case rel => exact ⟨by simp [unhide HBN], (unhide BA).trans ((unhide B3).mono (unhide BA).size)⟩
          | true =>
            have HBN := hide hbn
            clear hbn
            go_region_with (first | (go_at_call 39; refine (Valid_any X _ hI1 hI2).mono ?_; rintro e w3 ⟨rfl, hb3⟩; rw [unhide HBN]; have B3 : Hid (Below WA.heap.size WA w3) := (by refine Below.trans ?_ hb3; repeat (first | exact Below.refl _ _ | refine Below.drew ?_)); have f0 : w3.cell? ⟨WR.heap.size, 0, none⟩ = some (.int .i64 X.1) := ((unhide B3).cell (p := ⟨WR.heap.size, 0, none⟩) hlA).trans x0; have f1 : w3.cell? ⟨WR.heap.size, 1, none⟩ = some (.int .i64 X.2) := ((unhide B3).cell (p := ⟨WR.heap.size, 1, none⟩) hlA).trans x1; clear hb3) | (go_at_call 40; refine (Contains_any (L.take k) X _ _ (NetsAt.take ((unhide NA).below (unhide B3)) (by omega))).mono ?_; rintro e w4 ⟨rfl, hb4⟩))
            all_goals
              have B4 := hide ((unhide BA).trans (((unhide B3).trans (hb4.mono (unhide B3).size)).mono (unhide BA).size))
              clear hb4
              go_wp2_with fail
              go_meet
              case rel => exact ⟨by simp [unhide HBN], unhide B4⟩
        case rest =>
          rename World => W4
          obtain ⟨rfl, hb4⟩ := hcut
          have B4 := hide hb4
          clear hb4 x0 x1 NA BA hlA
          cases hbn : netOkB X with
          | false =>
            have HF := hide (unhide HBAD hbn)
            clear hbn
            simp only [Bool.not_false, Bool.true_or]
            go_wp2
            go_ret
            exact ⟨rt_bool (by rw [unhide HL]; exact (unhide HF).symm), (unhide bw).trans ((unhide B4).mono (unhide bw).size)⟩
          | true =>
            have HKO := hide (show netOk X from by exact of_decide_eq_true hbn)
            clear hbn
            simp only [Bool.not_true, Bool.false_or]
            cases hmm : decide (X ∈ L.take k) with
            | true =>
              have HF := hide (unhide HTW (by simpa using hmm))
              clear hmm
              go_wp2
              go_ret
              exact ⟨rt_bool (by rw [unhide HL]; exact (unhide HF).symm), (unhide bw).trans ((unhide B4).mono (unhide bw).size)⟩
            | false =>
              have HND2 := hide (unhide HNXT (by simpa using hmm))
              have HOK2 := hide (show ∀ z ∈ L.take (k + 1), netOk z from by
                rw [unhide HTK]
                intro z hz
                simp only [List.mem_append, List.mem_singleton] at hz
                rcases hz with hz | rfl
                · exact unhide HOK z hz
                · exact unhide HKO)
              have BE4 := hide ((unhide BE).trans ((unhide B4).mono (unhide BE).size))
              clear hmm
              go_wp2_with fail
              exact ⟨⟨k + 1, by omega, by go_num, unhide HOK2, unhide HND2, unhide BE4⟩, by simp [intOf]; omega⟩
      · have HT := hide (netsOkB_all hlen (by omega) (unhide HOK) (unhide HND))
        go_wp2
        go_ret
        exact ⟨rt_bool (by rw [unhide HL]; exact (unhide HT).symm), unhide bw⟩
end Go.Proofs.YtjpajfbacmndfaaDoor
