/- The library's Grow, Concat, Index, Contains at nets, and the program's validNets, valid (package messages). -/
import Derived.Test.YtgngdklkoilaiaaGreatDoorMsgF
import Derived.Lib.AppendZeros
namespace Go.Proofs.YtgngdklkoilaiaaGreatDoor
open Go.RowKit

theorem OwnN.zeros {w : World} {n cap : Nat} {z : Array Value} (hz : z.size = 2) (h1 : n ≤ cap) (h2 : cap ≤ maxLen) :
    OwnN (w.alloc (.cells (Builtin.zeroCells z n ++ Builtin.zeroCells z (cap - n)) 30)).drew w.heap.size (.slice (some ⟨w.heap.size, 0, none⟩) 0 cap) [] := by
  refine ⟨by simp [netCells], Or.inr ⟨w.heap.size, cap, _, rfl, Nat.le_refl _, heap_alloc_new w _, Nat.zero_le _, h2, ?_, by simp [netCells]⟩⟩
  simp only [Array.size_append, size_zeroCells, hz, ← Nat.add_mul]
  congr 1
  omega
set_option maxRecDepth 100000 in
set_option maxHeartbeats 800000 in
theorem Grow_any (n : Nat) (w : World) (hn : n ≤ 20) :
    Calls Tryz.prog 234 #[.slice none 0 0, .int .i64 n] w fun e w' => ∃ v, e = .returned v ∧ OwnN w' w.heap.size v [] ∧ Below w.heap.size w w' := by
  obtain ⟨i0, hi0, hz0, hz1, hz2⟩ := info_parts Tryz.infoNetW
  rcases Nat.eq_zero_or_pos n with h0 | h0
  · subst h0
    go_enter Tryz.func234, Tryz.ntmps234
    go_wp2
    go_ret
    exact ⟨_, rfl, World.ownsRow_nil _ _ _ _, Below.refl _ _⟩
  · have hr := Lib.run_append_nil_zeros (P := Tryz.prog) w 24 3 24 30 i0 _ .i64 .i64 Tryz.underlying24 Tryz.underlying3 hi0 hz0 n h0 (by omega) (by omega) (by rw [hz2]; omega)
    have HR := hide hr
    have hge := grownCap_ge w n 0 30
    have hcm : grownCap w n 0 30 ≤ maxLen := grownCap_le_maxLen w n 0 30 (by simp only [maxLen]; omega)
    have HGE := hide hge
    have HCM := hide hcm
    clear hr hge hcm
    go_enter Tryz.func234, Tryz.ntmps234
    go_wp2_with (at_builtin; refine Lib.wpList_append_run _ rfl _ _ _ _ rfl _ _ rfl rfl _ _ (unhide HR) ?_)
    go_ret
    exact ⟨_, rfl, OwnN.zeros rfl (unhide HGE) (unhide HCM), ((Below.refl _ _).alloc (Nat.le_refl _) _).drew⟩

set_option maxRecDepth 100000 in
set_option maxHeartbeats 800000 in
theorem Index_any (l : List (Int × Int)) (y : Int × Int) (x : Value) (w : World) (hx : NetsAt w x l) :
    Calls Tryz.prog 235 #[x, .agg #[.int .i64 y.1, .int .i64 y.2]] w fun e w' => ∃ r : Int, e = .returned (.int .i64 r) ∧ (0 ≤ r ↔ y ∈ l) ∧ Below w.heap.size w w' := by
  obtain ⟨p, c, rfl, hcap, hl, hin, hr⟩ := hx
  have HR := hide hr
  clear hr hin
  obtain ⟨w0, hw0⟩ : ∃ w0, w.alloc (.cells #[.int .i64 y.1, .int .i64 y.2] 30) = w0 := ⟨_, rfl⟩
  have Q0 := hide (heap_alloc_new w (.cells #[.int .i64 y.1, .int .i64 y.2] 30))
  have B0 := hide ((Below.refl w.heap.size w).alloc (Nat.le_refl _) (.cells #[.int .i64 y.1, .int .i64 y.2] 30))
  rw [hw0] at Q0 B0
  have HW0 := hide hw0
  clear hw0
  go_enter Tryz.func235, Tryz.ntmps235
  go_wp2
  rw [unhide HW0]
  go_loopw [8] (fun i wr => ∃ k : Nat, k ≤ l.length ∧ i = .int .i64 k ∧ y ∉ l.take k ∧ Below w0.heap.size w0 wr) (fun i _ => l.length - (intOf i).toNat)
  case atStart => exact ⟨0, Nat.zero_le _, rfl, by simp, Below.refl _ _⟩
  case round =>
    rename World => WR
    obtain ⟨k, hk, rfl, hnm, hbe⟩ := hrel
    have HNM := hide hnm
    have BE := hide hbe
    have bw := hide ((unhide B0).trans (hbe.mono (unhide B0).size))
    have q0 := (hbe.block _ (heap_lt (unhide Q0))).trans (unhide Q0)
    have y0 : WR.cell? ⟨w.heap.size, 0, none⟩ = some (.int .i64 y.1) := cell_of_heap q0
    have y1 : WR.cell? ⟨w.heap.size, 1, none⟩ = some (.int .i64 y.2) := cell_of_heap q0
    clear hnm hbe q0
    by_cases hlt : k < l.length
    · rcases unhide HR with h | ⟨b, o, rfl, hb, hc⟩
      · rw [h.1] at hlt; simp at hlt
      have c01 : WR.cell? ⟨b, o + k * 2, none⟩ = some (.int .i64 l[k].1) ∧ WR.cell? ⟨b, o + k * 2 + 1, none⟩ = some (.int .i64 l[k].2) := by
        rw [(unhide bw).cell (p := ⟨b, o + k * 2, none⟩) hb, (unhide bw).cell (p := ⟨b, o + k * 2 + 1, none⟩) hb]; exact hc k hlt
      obtain ⟨c0, c1⟩ := c01
      have HTK := hide (List.take_succ_eq_append_getElem hlt)
      have HMM := hide (List.getElem_mem hlt)
      clear hc
      obtain ⟨X, hX⟩ : ∃ X, l[k] = X := ⟨_, rfl⟩
      rw [hX] at c0 c1 HTK HMM
      clear hX
      obtain ⟨a, d⟩ := y
      obtain ⟨a2, d2⟩ := X
      simp only at c0 c1 y0 y1
      by_cases e1 : a = a2
      · subst e1
        by_cases e2 : d = d2
        · subst e2
          go_wp2_with fail
          go_quiet (fail)
          go_wp2
          go_ret
          exact ⟨k, rfl, ⟨fun _ => unhide HMM, fun _ => by omega⟩, by exact below_drewN (unhide bw) _⟩
        · have g2 : (d == d2) = false := beq_eq_false_iff_ne.2 e2
          have HNE := hide (show (a, d) ≠ (a, d2) from fun e => e2 (by simpa using e))
          clear e2
          go_wp2_with fail
          go_quiet (fail)
          go_wp2_with fail
          exact ⟨⟨k + 1, by omega, by go_num, by rw [unhide HTK]; simp only [List.mem_append, List.mem_singleton, not_or]; exact ⟨unhide HNM, unhide HNE⟩, by exact below_drewN (unhide BE) _⟩, by simp [intOf]; omega⟩
      · have g1 : (a == a2) = false := beq_eq_false_iff_ne.2 e1
        have HNE := hide (show (a, d) ≠ (a2, d2) from fun e => e1 (by simp at e; exact e.1))
        clear e1
        go_wp2_with fail
        go_quiet (fail)
        go_wp2_with fail
        exact ⟨⟨k + 1, by omega, by go_num, by rw [unhide HTK]; simp only [List.mem_append, List.mem_singleton, not_or]; exact ⟨unhide HNM, unhide HNE⟩, by exact below_drewN (unhide BE) _⟩, by simp [intOf]; omega⟩
    · have HE := hide (show y ∉ l from by have := unhide HNM; rwa [List.take_of_length_le (by omega)] at this)
      go_wp2
      go_ret
      exact ⟨-1, rfl, ⟨fun h => absurd h (by omega), fun h => absurd h (unhide HE)⟩, unhide bw⟩
end Go.Proofs.YtgngdklkoilaiaaGreatDoor

namespace Go.Proofs.YtgngdklkoilaiaaGreatDoor
open Go.RowKit

set_option maxHeartbeats 800000 in
theorem Contains_any (l : List (Int × Int)) (y : Int × Int) (x : Value) (w : World) (hx : NetsAt w x l) :
    Calls Tryz.prog 190 #[x, .agg #[.int .i64 y.1, .int .i64 y.2]] w fun e w' => e = .returned (.bool (decide (y ∈ l))) ∧ Below w.heap.size w w' := by
  have HX := hide hx
  obtain ⟨p, c, rfl, -⟩ := hx
  go_enter Tryz.func190, Tryz.ntmps190
  go_wp2_with fail
  have b0 := (Below.refl w.heap.size w).alloc (Nat.le_refl _) (.cells #[.int .i64 y.1, .int .i64 y.2] 30)
  refine (Index_any l y _ _ ((unhide HX).below b0)).mono ?_
  rintro e w1 ⟨r, rfl, hr, hb1⟩
  have B1 := hide (b0.trans (hb1.mono b0.size))
  have HE := hide (show decide (0 ≤ r) = decide (y ∈ l) from decide_eq_decide.2 hr)
  clear hr hb1 b0
  go_wp2
  go_ret
  exact ⟨rt_bool (unhide HE), unhide B1⟩

def upToN (g t : List (Int × Int)) (k : Nat) : List (Int × Int) := if k = 0 then [] else if k = 1 then g else g ++ t
set_option maxRecDepth 100000 in
set_option maxHeartbeats 1600000 in
theorem Concat_any (g t : List (Int × Int)) (B : Nat) (vg vt : Value) (w : World) (hg : NetsAt w vg g) (ht : NetsAt w vt t) (hB : w.heap[B]? = some (.cells #[vg, vt] 24 (0, 0))) (hlen : g.length + t.length ≤ 20) :
    Calls Tryz.prog 189 #[.slice (some ⟨B, 0, none⟩) 2 2] w fun e w' => ∃ v, e = .returned v ∧ OwnN w' w.heap.size v (g ++ t) ∧ Below w.heap.size w w' := by
  obtain ⟨i0, hi0, hz0, hz1, hz2⟩ := info_parts Tryz.infoNetW
  have HG := hide hg
  have HT := hide ht
  have HB := hide hB
  obtain ⟨pg, cg, rfl, -⟩ := hg
  obtain ⟨pt, ct, rfl, -⟩ := ht
  have e0 : w.cell? ⟨B, 0, none⟩ = some (.slice pg g.length cg) := cell_of_heap hB
  have e1 : w.cell? ⟨B, 1, none⟩ = some (.slice pt t.length ct) := cell_of_heap hB
  have hlB : B < w.heap.size := heap_lt hB
  clear hB
  go_enter Tryz.func189, Tryz.ntmps189
  go_wp2
  go_loop [3, 11] (fun s i => ∃ k : Nat, k ≤ 2 ∧ i = .int .i64 k ∧ s = .int .i64 (upToN g t k).length) (fun _ i => 2 - (intOf i).toNat)
  case atStart => exact ⟨0, by omega, rfl, rfl⟩
  case round =>
    obtain ⟨k, hk, rfl, rfl⟩ := hrel
    rcases (by omega : k = 0 ∨ k = 1 ∨ k = 2) with rfl | rfl | rfl
    · simp only [upToN, if_true, List.length_nil]
      go_wp2
      go_round
      case rel => exact ⟨1, by omega, rfl, by simp⟩
      case measure => simp [intOf]
    · simp only [upToN, if_true, if_neg (show ¬ (1 : Nat) = 0 by omega)]
      go_wp2
      go_round
      case rel => exact ⟨2, by omega, rfl, by simp⟩
      case measure => simp [intOf]
    · have es : (upToN g t 2).length = g.length + t.length := by simp [upToN]
      rw [es]
      clear es
      go_wp2_with fail
      have hgr := Grow_any (g.length + t.length) w hlen
      rw [Int.natCast_add] at hgr
      refine hgr.mono ?_
      clear hgr
      rintro e w1 ⟨v1, rfl, ho1, hb1⟩
      have O1 := hide ho1
      have B1 := hide hb1
      clear ho1 hb1
      go_wp2_with fail
      go_loopw [6, 27] (fun v6 i wr => ∃ k : Nat, k ≤ 2 ∧ i = .int .i64 k ∧ OwnN wr w.heap.size v6 (upToN g t k) ∧ Below w.heap.size w wr) (fun _ i _ => 2 - (intOf i).toNat)
      case atStart => exact ⟨0, by omega, rfl, unhide O1, unhide B1⟩
      case round =>
        rename World => WR
        obtain ⟨k, hk, rfl, ho, hbe⟩ := hrel
        have OR := hide ho
        have BE := hide hbe
        have hsz := hbe.size
        have f0 : WR.cell? ⟨B, 0, none⟩ = some (.slice pg g.length cg) := (hbe.cell (p := ⟨B, 0, none⟩) hlB).trans e0
        have f1 : WR.cell? ⟨B, 1, none⟩ = some (.slice pt t.length ct) := (hbe.cell (p := ⟨B, 1, none⟩) hlB).trans e1
        have RG := hide ((unhide HG).below hbe).reads
        have RT := hide ((unhide HT).below hbe).reads
        clear ho hbe
        rcases (by omega : k = 0 ∨ k = 1 ∨ k = 2) with rfl | rfl | rfl
        · have e : upToN g t 0 = [] := rfl
          rw [e] at OR
          clear e
          go_wp2_with (at_builtin; refine wpList_append_reads rfl _ _ _ rfl w.heap.size 30 i0 _ 2 16 Tryz.underlying24 hi0 hz0 hz1 hz2 rfl (by omega) u6 0 [] rfl (unhide OR) (.slice pg g.length cg) g.length (netCells g) rfl (unhide RG) (netCells_len g) (one_net g) (by simp [maxLen]; omega) (by omega) hsz ?_; intro v' w' hown hgrow hat)
          exact ⟨⟨1, by omega, rfl, by rw [Nat.zero_add, List.nil_append] at hown; exact hown, (unhide BE).grown hgrow hsz (fun j hj => ((unhide OR).lt j hj).1)⟩, by simp [intOf]⟩
        · have e : upToN g t 1 = g := rfl
          rw [e] at OR
          clear e
          go_wp2_with (at_builtin; refine wpList_append_reads rfl _ _ _ rfl w.heap.size 30 i0 _ 2 16 Tryz.underlying24 hi0 hz0 hz1 hz2 rfl (by omega) u6 g.length (netCells g) rfl (unhide OR) (.slice pt t.length ct) t.length (netCells t) rfl (unhide RT) (netCells_len t) (one_net t) (by simp [maxLen]; omega) (by omega) hsz ?_; intro v' w' hown hgrow hat)
          exact ⟨⟨2, by omega, rfl, by rw [← netCells_append, ← List.length_append] at hown; exact hown, (unhide BE).grown hgrow hsz (fun j hj => ((unhide OR).lt j hj).1)⟩, by simp [intOf]⟩
        · have e : upToN g t 2 = g ++ t := rfl
          rw [e] at OR
          clear e
          go_wp2
          go_ret
          exact ⟨_, rfl, unhide OR, unhide BE⟩
end Go.Proofs.YtgngdklkoilaiaaGreatDoor

namespace Go.Proofs.YtgngdklkoilaiaaGreatDoor
open Go.RowKit

theorem NetsAt.take {w : World} {p : Option Addr} {n c : Nat} {l : List (Int × Int)} (h : NetsAt w (.slice p n c) l) {k : Nat} (hk : k ≤ n) : NetsAt w (.slice p k c) (l.take k) := by
  obtain ⟨p', c', hv, hcap, hl, hin, hr⟩ := h
  cases hv
  have e : (l.take k).length = k := by rw [List.length_take]; omega
  refine ⟨p, c, by rw [e], by omega, by omega, fun x hx => hin x (List.mem_of_mem_take hx), ?_⟩
  rcases hr with ⟨rfl, h⟩ | ⟨b, o, rfl, hb, hc⟩
  · exact Or.inl ⟨by simp, h⟩
  · refine Or.inr ⟨b, o, rfl, hb, fun j hj => ?_⟩
    rw [List.getElem_take]
    exact hc j (by omega)
theorem netsOkB_mem {l : List (Int × Int)} {k : Nat} (hk : k < l.length) (h : l[k] ∈ l.take k) : netsOkB l = false := by
  obtain ⟨j, hj, e⟩ := List.mem_iff_getElem.1 h
  rw [List.getElem_take] at e
  rw [List.length_take] at hj
  exact netsOkB_twice hk (j := j) (by omega) e.symm

set_option maxRecDepth 100000 in
set_option maxHeartbeats 3200000 in
theorem validNets_any (g t : List (Int × Int)) (x y : Value) (w : World) (hx : NetsAt w x g) (hy : NetsAt w y t) :
    Calls Tryz.prog 137 #[x, y] w fun e w' => e = .returned (.bool (netsOkB (g ++ t))) ∧ Below w.heap.size w w' := by
  have HX := hide hx
  have HY := hide hy
  have HIN : Hid (∀ z ∈ g ++ t, inI z.1 ∧ inI z.2) := by
    obtain ⟨_, _, _, _, _, h1, _⟩ := hx
    obtain ⟨_, _, _, _, _, h2, _⟩ := hy
    intro z hz
    rcases List.mem_append.1 hz with h | h
    · exact h1 z h
    · exact h2 z h
  obtain ⟨px, cx, rfl, -, hlx, -⟩ := hx
  obtain ⟨py, cy, rfl, -, hly, -⟩ := hy
  go_enter Tryz.func137, Tryz.ntmps137
  by_cases h20 : 20 < g.length + t.length
  · have HF := hide (netsOkB_long (l := g ++ t) (by rw [List.length_append]; exact h20))
    go_wp2
    go_ret
    exact ⟨rt_bool (unhide HF).symm, Below.refl _ _⟩
  · go_wp2_with fail
    have b0 := (Below.refl w.heap.size w).alloc (Nat.le_refl _) (.cells #[.slice px g.length cx, .slice py t.length cy] 24)
    refine (Concat_any g t w.heap.size _ _ _ ((unhide HX).below b0) ((unhide HY).below b0) (heap_alloc_new w _) (by omega)).mono ?_
    rintro e w2 ⟨v2, rfl, ho2, hb2⟩
    have B2 := hide (b0.trans (hb2.mono b0.size))
    have hlen : (g ++ t).length ≤ 20 := by rw [List.length_append]; omega
    revert ho2 hlen HIN
    obtain ⟨L, hL⟩ : ∃ L, g ++ t = L := ⟨_, rfl⟩
    have HL := hide hL
    rw [hL]
    intro HIN ho2 hlen
    clear hL hb2 b0 HX HY
    obtain ⟨q5, c5, rfl⟩ := own_slice ho2
    have O2 := hide ho2
    have N2 := hide (ho2.at_ (unhide HIN) (by omega))
    clear ho2
    go_wp2_with fail
    go_loopw [20] (fun i wr => ∃ k : Nat, k ≤ L.length ∧ i = .int .i64 k ∧ (∀ z ∈ L.take k, netOk z) ∧ (L.take k).Nodup ∧ Below w2.heap.size w2 wr) (fun i _ => L.length - (intOf i).toNat)
    case atStart => exact ⟨0, Nat.zero_le _, rfl, by simp, by simp, Below.refl _ _⟩
    case round =>
      rename World => WR
      obtain ⟨k, hk, rfl, hok, hnd, hbe⟩ := hrel
      have BE := hide hbe
      have NR := hide ((unhide N2).below hbe)
      have bw := hide ((unhide B2).trans (hbe.mono (unhide B2).size))
      have HOK := hide hok
      have HND := hide hnd
      have OR := hide ((unhide O2).nextW hbe)
      clear hbe hok hnd
      by_cases hlt : k < L.length
      · obtain ⟨gg, rfl, hg1, hg2, hcell⟩ := (unhide OR).cellW hlt
        obtain ⟨c0, c1⟩ := hcell k hlt
        have hI := unhide HIN L[k] (List.getElem_mem _)
        have hkc : (k : Int) ≤ c5 := by
          rcases (unhide OR).2 with ⟨h1, _⟩ | ⟨_, _, _, h1, _, _, h2, _⟩
          · cases h1
          · cases h1; omega
        have HTK := hide (List.take_succ_eq_append_getElem hlt)
        have HBAD : Hid (netOkB L[k] = false → netsOkB L = false) := fun h => netsOkB_bad hlt h
        have HTW : Hid (L[k] ∈ L.take k → netsOkB L = false) := fun h => netsOkB_mem hlt h
        have HNXT : Hid (L[k] ∉ L.take k → (L.take (k + 1)).Nodup) := fun h => nodup_take_succ hlt (unhide HND) h
        clear hcell
        obtain ⟨X, hX⟩ : ∃ X, L[k] = X := ⟨_, rfl⟩
        rw [hX] at c0 c1 hI HTK HBAD HTW HNXT
        clear hX
        obtain ⟨hI1, hI2⟩ := hI
        go_upto_region 7 with fail
        have q0 := heap_alloc_new WR (.cells #[.int .i64 X.1, .int .i64 X.2] 30)
        have bA := (Below.refl WR.heap.size WR).alloc (Nat.le_refl _) (.cells #[.int .i64 X.1, .int .i64 X.2] 30)
        obtain ⟨WA, hWA⟩ : ∃ WA, WR.alloc (.cells #[.int .i64 X.1, .int .i64 X.2] 30) = WA := ⟨_, rfl⟩
        rw [hWA] at q0 bA ⊢
        have x0 : WA.cell? ⟨WR.heap.size, 0, none⟩ = some (.int .i64 X.1) := cell_of_heap q0
        have x1 : WA.cell? ⟨WR.heap.size, 1, none⟩ = some (.int .i64 X.2) := cell_of_heap q0
        have hlA : WR.heap.size < WA.heap.size := heap_lt q0
        have NA := hide ((unhide NR).below bA)
        have BA := hide bA
        clear hWA q0 bA c0 c1
        go_cut [34] (fun v34 wc => v34 = .bool (!netOkB X || decide (X ∈ L.take k)) ∧ Below WR.heap.size WR wc)
        case first =>
          cases hbn : netOkB X with
          | false =>
            have HBN := hide hbn
            clear hbn
            first
              | (go_region_with (go_at_call 142; refine (Valid_any X _ hI1 hI2).mono ?_; rintro e w3 ⟨rfl, hb3⟩; rw [unhide HBN]))
              | fail
            all_goals
              have B3 : Hid (Below WA.heap.size WA w3) := by
                refine Below.trans ?_ hb3
                repeat (first | exact Below.refl _ _ | refine Below.drew ?_)
              clear hb3
              go_wp2_with fail
              go_meet
              case rel => exact ⟨by simp [unhide HBN], (unhide BA).trans ((unhide B3).mono (unhide BA).size)⟩
          | true =>
            have HBN := hide hbn
            clear hbn
            go_region_with (first | (go_at_call 142; refine (Valid_any X _ hI1 hI2).mono ?_; rintro e w3 ⟨rfl, hb3⟩; rw [unhide HBN]; have B3 : Hid (Below WA.heap.size WA w3) := (by refine Below.trans ?_ hb3; repeat (first | exact Below.refl _ _ | refine Below.drew ?_)); have f0 : w3.cell? ⟨WR.heap.size, 0, none⟩ = some (.int .i64 X.1) := ((unhide B3).cell (p := ⟨WR.heap.size, 0, none⟩) hlA).trans x0; have f1 : w3.cell? ⟨WR.heap.size, 1, none⟩ = some (.int .i64 X.2) := ((unhide B3).cell (p := ⟨WR.heap.size, 1, none⟩) hlA).trans x1; clear hb3) | (go_at_call 190; refine (Contains_any (L.take k) X _ _ (NetsAt.take ((unhide NA).below (unhide B3)) (by omega))).mono ?_; rintro e w4 ⟨rfl, hb4⟩))
            all_goals
              have B4 := hide ((unhide BA).trans (((unhide B3).trans (hb4.mono (unhide B3).size)).mono (unhide BA).size))
              clear hb4
              go_wp2_with fail
              go_meet
              case rel => exact ⟨by simp [unhide HBN], unhide B4⟩
        case rest =>
          rename World => W4
          obtain ⟨rfl, hb4⟩ := hcut
          have B4 := hide hb4
          clear hb4 x0 x1 NA BA hlA
          cases hbn : netOkB X with
          | false =>
            have HF := hide (unhide HBAD hbn)
            clear hbn
            simp only [Bool.not_false, Bool.true_or]
            go_wp2
            go_ret
            exact ⟨rt_bool (by rw [unhide HL]; exact (unhide HF).symm), (unhide bw).trans ((unhide B4).mono (unhide bw).size)⟩
          | true =>
            have HKO := hide (show netOk X from by exact of_decide_eq_true hbn)
            clear hbn
            simp only [Bool.not_true, Bool.false_or]
            cases hmm : decide (X ∈ L.take k) with
            | true =>
              have HF := hide (unhide HTW (by simpa using hmm))
              clear hmm
              go_wp2
              go_ret
              exact ⟨rt_bool (by rw [unhide HL]; exact (unhide HF).symm), (unhide bw).trans ((unhide B4).mono (unhide bw).size)⟩
            | false =>
              have HND2 := hide (unhide HNXT (by simpa using hmm))
              have HOK2 := hide (show ∀ z ∈ L.take (k + 1), netOk z from by
                rw [unhide HTK]
                intro z hz
                simp only [List.mem_append, List.mem_singleton] at hz
                rcases hz with hz | rfl
                · exact unhide HOK z hz
                · exact unhide HKO)
              have BE4 := hide ((unhide BE).trans ((unhide B4).mono (unhide BE).size))
              clear hmm
              go_wp2_with fail
              exact ⟨⟨k + 1, by omega, by go_num, unhide HOK2, unhide HND2, unhide BE4⟩, by simp [intOf]; omega⟩
      · have HT := hide (netsOkB_all hlen (by omega) (unhide HOK) (unhide HND))
        go_wp2
        go_ret
        exact ⟨rt_bool (by rw [unhide HL]; exact (unhide HT).symm), unhide bw⟩
end Go.Proofs.YtgngdklkoilaiaaGreatDoor

namespace Go.Proofs.YtgngdklkoilaiaaGreatDoor
open Go.RowKit

theorem NetsAt.lt {w : World} {v : Value} {l : List (Int × Int)} (h : NetsAt w v l) : l = [] ∨ ∀ k, v.ownBlock = some k → k < w.heap.size := by
  obtain ⟨p, c, rfl, hcap, hl, hin, hr⟩ := h
  rcases hr with ⟨rfl, hp⟩ | ⟨b, o, rfl, hb, hc⟩
  · exact Or.inl rfl
  · refine Or.inr fun k hk => ?_
    have e : b = k := by simpa [Value.ownBlock] using hk
    omega
theorem IntsAt.lt {w : World} {v : Value} {l : List Int} (h : IntsAt w v l) : l = [] ∨ ∀ k, v.ownBlock = some k → k < w.heap.size := by
  obtain ⟨p, c, rfl, hcap, hl, hin, hr⟩ := h
  rcases hr with ⟨rfl, hp⟩ | ⟨b, o, rfl, hb, hc⟩
  · exact Or.inl rfl
  · refine Or.inr fun k hk => ?_
    have e : b = k := by simpa [Value.ownBlock] using hk
    omega
theorem netOkB00 : netOkB (0, 0) = true := by decide

set_option maxRecDepth 100000 in
set_option maxHeartbeats 3200000 in
theorem valid_any (u : Msg) (vg vn vp vm : Value) (w : World) (hg : NetsAt w vg u.gone) (hn : NetsAt w vn u.nets) (hp : IntsAt w vp u.path) (hm : IntsAt w vm u.marks) :
    Calls Tryz.prog 128 #[.agg #[vg, vn, vp, vm, .int .i64 u.pref, .int .i64 u.med]] w fun e w' => e = .returned (.bool (msgOkB u)) ∧ Below w.heap.size w w' := by
  have HG := hide hg
  have HN := hide hn
  have HP := hide hp
  have HM := hide hm
  obtain ⟨pg, cg, rfl, -⟩ := hg
  obtain ⟨pn, cn, rfl, -, hln, -⟩ := hn
  obtain ⟨pp, cp, rfl, -, hlp, -⟩ := hp
  obtain ⟨pm, cm, rfl, -, hlm, -⟩ := hm
  have b0 := hide ((Below.refl w.heap.size w).alloc (Nat.le_refl _) (.cells #[.slice pg u.gone.length cg, .slice pn u.nets.length cn, .slice pp u.path.length cp, .slice pm u.marks.length cm, .int .i64 u.pref, .int .i64 u.med] 27))
  go_enter Tryz.func128, Tryz.ntmps128
  go_wp2_with fail
  refine (validNets_any u.gone u.nets _ _ _ ((unhide HG).below (unhide b0)) ((unhide HN).below (unhide b0))).mono ?_
  rintro e w1 ⟨rfl, hb1⟩
  have q1 := (hb1.block w.heap.size (by simp)).trans (heap_alloc_new w _)
  obtain ⟨c0, c1, c2, c3, c4, c5⟩ := six_cells q1
  have b1 := hide ((unhide b0).trans (hb1.mono (unhide b0).size))
  clear hb1 q1 b0
  cases hnb : netsOkB (u.gone ++ u.nets) with
  | false =>
    have HF := hide (msgOkB_no (u := u) (fun h => by unfold netsOkB at hnb; simp only [decide_eq_false_iff_not] at hnb; exact hnb h.1))
    clear hnb
    go_wp2
    go_ret
    exact ⟨rt_bool (unhide HF).symm, unhide b1⟩
  | true =>
    have HNB := hide (show netsOk (u.gone ++ u.nets) from of_decide_eq_true hnb)
    clear hnb
    by_cases y0 : u.nets.length = 0
    · have hz : u.nets = [] := List.length_eq_zero_iff.1 y0
      have HQ := hide (show msgOkB u = (((decide (u.path.length = 0) && decide (u.marks.length = 0)) && decide (u.pref = 0)) && decide (u.med = 0)) from by
        unfold msgOkB
        rw [Bool.eq_iff_iff]
        simp only [Bool.and_eq_true, decide_eq_true_eq]
        constructor
        · intro h
          rcases h.2.2.2.2.2 with h1 | ⟨h1, h2, h3, h4⟩
          · exact absurd hz h1
          · exact ⟨⟨⟨by rw [h1]; rfl, by rw [h2]; rfl⟩, h3⟩, h4⟩
        · rintro ⟨⟨⟨h1, h2⟩, h3⟩, h4⟩
          have e1 := List.length_eq_zero_iff.1 h1
          have e2 := List.length_eq_zero_iff.1 h2
          refine ⟨unhide HNB, ?_, ?_, ?_, ?_, Or.inr ⟨e1, e2, h3, h4⟩⟩
          · rw [e1]; exact ⟨by simp, by simp⟩
          · rw [e2]; exact ⟨by simp, rises_nil _⟩
          · rw [h3]; exact ⟨by omega, by omega⟩
          · rw [h4]; exact ⟨by omega, by omega⟩)
      have d0 : ((u.nets.length : Int) == 0) = true := by simp [y0]
      clear y0 hz
      by_cases y1 : u.path.length = 0
      · have d1 : ((u.path.length : Int) == 0) = true := by simp [y1]
        by_cases y2 : u.marks.length = 0
        · have d2 : ((u.marks.length : Int) == 0) = true := by simp [y2]
          by_cases y3 : u.pref = 0
          · have d3 : (u.pref == 0) = true := by simp [y3]
            have HE := hide (show (u.med == 0) = msgOkB u from by rw [unhide HQ]; simp [y1, y2, y3]; rfl)
            clear y1 y2 y3
            go_wp2
            go_ret
            exact ⟨rt_bool (unhide HE), unhide b1⟩
          · have d3 : (u.pref == 0) = false := beq_eq_false_iff_ne.2 y3
            have HE := hide (show false = msgOkB u from by rw [unhide HQ]; simp [y3])
            clear y1 y2 y3
            go_wp2
            go_ret
            exact ⟨rt_bool (unhide HE), unhide b1⟩
        · have d2 : ((u.marks.length : Int) == 0) = false := beq_eq_false_iff_ne.2 (by omega)
          have HE := hide (show false = msgOkB u from by rw [unhide HQ]; simp [y2])
          clear y1 y2
          go_wp2
          go_ret
          exact ⟨rt_bool (unhide HE), unhide b1⟩
      · have d1 : ((u.path.length : Int) == 0) = false := beq_eq_false_iff_ne.2 (by omega)
        have HE := hide (show false = msgOkB u from by rw [unhide HQ]; simp [y1])
        clear y1
        go_wp2
        go_ret
        exact ⟨rt_bool (unhide HE), unhide b1⟩
    · have HQ := hide (show routeOkB (0, 0) u.path u.marks u.pref u.med = msgOkB u from by
        have hz : u.nets ≠ [] := fun e => y0 (by rw [e]; rfl)
        unfold routeOkB msgOkB
        refine decide_eq_decide.2 ⟨fun h => ⟨unhide HNB, h.2.1, h.2.2.1, h.2.2.2.1, h.2.2.2.2, Or.inl hz⟩, fun h => ⟨net00, h.2.1, h.2.2.1, h.2.2.2.1, h.2.2.2.2.1⟩⟩)
      have d0 : ((u.nets.length : Int) == 0) = false := beq_eq_false_iff_ne.2 (by omega)
      clear y0
      go_wp2_with fail
      refine (RValid_any (0, 0) u.path u.marks u.pref u.med _ _ _ (by simp [inI]) (by simp [inI]) ((unhide HP).below (unhide b1)) ((unhide HM).below (unhide b1))).mono ?_
      rintro e w2 ⟨rfl, hb2⟩
      have b2 := hide ((unhide b1).trans (hb2.mono (unhide b1).size))
      clear hb2
      go_wp2
      go_ret
      exact ⟨rt_bool (unhide HQ), unhide b2⟩
end Go.Proofs.YtgngdklkoilaiaaGreatDoor
