/- A script of two kinds of steps is played (package bywaylaw), whatever they do: plays, given what World.step and Book.looks keep. -/
import Derived.Test.YtgdeeodifnegiaaGreatDoorLwB
namespace Go.Proofs.YtgdeeodifnegiaaGreatDoor
open Go.RowKit

/-- a script in memory, each step as G has it -/
def ScriptG (w : World) (v : Value) (S : List (List Value)) (G : List Value → Int → Prop) : Prop :=
  ∃ p c, v = .slice p S.length c ∧ S.length ≤ c ∧ S.length ≤ 999999999990 ∧ (∀ cs ∈ S, ∃ k, G cs k) ∧ (S = [] ∨ ∃ b f, p = some ⟨b, f, none⟩ ∧ b < w.heap.size ∧ ∀ j, (h : j < S.length) → w.rangeAt b (f + j * 18) S[j])
/-- what holds of the script's world behind each step -/
structure Play (W : World) (G : List Value → Int → Prop) (I : Nat → World → Prop) (q1 q2 : Int) (M : Nat) : Prop where
  op : ∀ cs k, G cs k → cs.length = 18 ∧ cs[0]? = some (.int .i64 k)
  be : ∀ m wr, I m wr → Below W.heap.size W wr
  stay : ∀ m wr wr', I m wr → Below wr.heap.size wr wr' → I m wr'
  zero : I 0 (W.alloc (.cells (worldK (.slice none 0 0)) 47))
  step : ∀ m wr cs k, I m wr → m ≤ M → G cs k → (k = q1 ∨ k = q2) → Calls Tryz.prog 8 #[ptr4 W.heap.size 0, .agg cs.toArray] wr fun e w' => e = .returned (.bool true) ∧ I (m + 1) w'
  look : ∀ m wr, I m wr → m ≤ M → Calls Tryz.prog 9 #[.pointer (some ⟨W.heap.size, 2, none⟩)] wr fun e w' => e = .returned (.bool true) ∧ I m w'
def inK (q1 q2 kd : Int) (j : Nat) : Bool := if j = 0 then false else if j = 1 then kd == q1 else (kd == q1 || kd == q2)
set_option maxRecDepth 100000 in
set_option maxHeartbeats 12800000 in
theorem plays2 (W : World) (G : List Value → Int → Prop) (I : Nat → World → Prop) (q1 q2 : Int) (M : Nat) (hP : Play W G I q1 q2 M) (L0 S : List (List Value)) (vs : Value) (ga kb : Nat)
    (hL : L0.length = 2) (lga : ga < W.heap.size) (hga : ∀ j, (h : j < L0.length) → W.rangeAt ga (j * 18) L0[j]) (hG0 : ∀ cs ∈ L0, ∃ k, G cs k ∧ (k = q1 ∨ k = q2))
    (hS : ScriptG W vs S G) (hM : S.length + 10 ≤ M) (hkb : W.heap[kb]? = some (.cells #[.int .i64 q1, .int .i64 q2] 3 (0, 0))) :
    Calls Tryz.prog 6 #[.slice (some ⟨ga, 0, none⟩) 2 2, vs, .slice (some ⟨kb, 0, none⟩) 2 2] W fun e W' => e = .returned (.bool true) ∧ Below W.heap.size W W' := by
  have HP := hide hP
  have HGA := hide hga
  have HG0 := hide hG0
  have HKB := hide hkb
  have lkb : kb < W.heap.size := heap_lt hkb
  obtain ⟨ps, cp, rfl, hcap, hS1, hSO, hSc⟩ := hS
  have HSO := hide hSO
  have HSC := hide hSc
  obtain ⟨N, hN⟩ : ∃ N, S.length = N := ⟨_, rfl⟩
  have HN := hide hN
  rw [hN] at hcap hS1 hM ⊢
  have HL := hide hL
  clear hP hga hkb hSO hSc hN hG0 hL
  have B0 := hide (unhide HP).zero
  go_enter Tryz.func6, Tryz.ntmps6
  go_wp2_with fail
  go_loopw [8] (fun i wr => ∃ (k n : Nat), k ≤ 2 ∧ i = .int .i64 k ∧ I n wr ∧ n ≤ k) (fun i _ => 2 - (intOf i).toNat)
  case atStart => exact ⟨0, 0, by omega, rfl, unhide B0, by omega⟩
  case round =>
    rename World => WR
    obtain ⟨k, n, hk, rfl, hpl, hcn⟩ := hrel
    have BK := hide hpl
    have hbe := (unhide HP).be _ _ hpl
    have sWR := hbe.size
    by_cases hlt : k < 2
    · have hkl : k < L0.length := by rw [unhide HL]; exact hlt
      obtain ⟨o, ho⟩ : ∃ o, L0[k] = o := ⟨_, rfl⟩
      obtain ⟨kd, hkd, hq⟩ := unhide HG0 L0[k] (List.getElem_mem _)
      have hr := unhide HGA k hkl
      rw [ho] at hkd hr
      have q := hide (show WR.rangeAt ga (k * 18) o from fun j v hv => by rw [hbe.cell (p := ⟨ga, k * 18 + j, none⟩) lga]; exact hr j v hv)
      have HO := hide ((unhide HP).op _ _ hkd).1
      have HST := hide ((unhide HP).step _ _ _ _ hpl (by omega) hkd hq)
      clear hpl hbe hr hkd hq ho hkl
      go_wp2_with (refine wpList_load_opL rfl _ rfl ga (k * 18) rfl o (unhide HO) (unhide q) ?_)
      refine (unhide HST).mono ?_
      rintro e w1 ⟨rfl, h2⟩
      have BK' := hide h2
      clear h2 HST
      go_wp2_with fail
      exact ⟨⟨k + 1, n + 1, by omega, by simp, unhide BK', by omega⟩, by simp [intOf]; omega⟩
    · have hk1 : k = 2 := by omega
      subst hk1
      clear hpl hbe hlt hk sWR HGA HG0 HL
      rw [show ((2 : Nat) : Int) = 2 from rfl]
      go_wp2_with fail
      go_loopw [10] (fun i wr => ∃ (k n : Nat), k ≤ N ∧ i = .int .i64 k ∧ I n wr ∧ n ≤ k + 2) (fun i _ => N - (intOf i).toNat)
      case atStart => exact ⟨0, n, by omega, rfl, unhide BK, by omega⟩
      case round =>
        clear hcn BK
        rename World => WS
        obtain ⟨k, n, hk, rfl, hpl, hcn⟩ := hrel
        have BK := hide hpl
        have hbe := (unhide HP).be _ _ hpl
        have BE := hide hbe
        have sWS := hbe.size
        have qk := hide ((hbe.block kb lkb).trans (unhide HKB))
        clear hpl
        by_cases hlt : k < N
        · have hltS : k < S.length := by rw [unhide HN]; exact hlt
          rcases unhide HSC with h | ⟨sb, sf, rfl, lsb, hc⟩
          · rw [h] at hltS; simp at hltS
          obtain ⟨kd, hO⟩ := unhide HSO S[k] (List.getElem_mem _)
          have hck := hc k hltS
          obtain ⟨o, ho⟩ : ∃ o, S[k] = o := ⟨_, rfl⟩
          rw [ho] at hO hck
          have HO := hide hO
          have HOL := hide ((unhide HP).op _ _ hO)
          have HCK := hide hck
          have c0 : WS.cell? ⟨sb, sf + k * 18, none⟩ = some (.int .i64 kd) := by rw [hbe.cell (p := ⟨sb, sf + k * 18, none⟩) lsb]; exact hck 0 _ (unhide HOL).2
          have C0 := hide c0
          have lsb' : sb < WS.heap.size := by omega
          have lkb' : kb < WS.heap.size := by omega
          clear hck hbe c0 hc ho hO
          go_wp2_with fail
          go_loopw [12, 11] (fun i x wr => ∃ j : Nat, j ≤ 2 ∧ i = .int .i64 j ∧ x = .bool (inK q1 q2 kd j) ∧ Below WS.heap.size WS wr) (fun i _ _ => 2 - (intOf i).toNat)
          case atStart => exact ⟨0, by omega, rfl, rfl, Below.refl _ _⟩
          case round =>
            rename World => WT
            obtain ⟨j, hj, rfl, rfl, hbj⟩ := hrel
            have BJ := hide hbj
            have e0 := (hbj.cell (p := ⟨sb, sf + k * 18, none⟩) lsb').trans (unhide C0)
            have qj := (hbj.block kb lkb').trans (unhide qk)
            have k0 : WT.cell? ⟨kb, 0, none⟩ = some (.int .i64 q1) := cell_of_heap qj
            have k1 : WT.cell? ⟨kb, 1, none⟩ = some (.int .i64 q2) := cell_of_heap qj
            clear hbj qj
            rcases (show j = 0 ∨ j = 1 ∨ j = 2 by omega) with rfl | rfl | rfl
            · rw [show inK q1 q2 kd 0 = false from rfl]
              cases he : (kd == q1)
              all_goals
                go_wp2_with fail
                go_quiet ((fail))
                go_wp2_with fail
                exact ⟨⟨1, by omega, by simp, by simp [inK, he], below_drewN (unhide BJ) _⟩, by simp [intOf]⟩
            · rw [show inK q1 q2 kd 1 = (kd == q1) from rfl]
              cases he : (kd == q1)
              all_goals
                cases he2 : (kd == q2)
                all_goals
                  go_wp2_with fail
                  go_quiet ((fail))
                  go_wp2_with fail
                  exact ⟨⟨2, by omega, by simp, by simp [inK, he, he2], below_drewN (unhide BJ) _⟩, by simp [intOf]⟩
            · clear e0 k0 k1
              have BT := hide ((unhide BE).trans ((unhide BJ).mono sWS))
              have BKT := hide ((unhide HP).stay _ _ _ (unhide BK) (unhide BJ))
              cases hin : inK q1 q2 kd 2 with
              | false =>
                go_wp2_with fail
                exact ⟨⟨k + 1, n, by omega, by simp, unhide BKT, by omega⟩, by simp [intOf]; omega⟩
              | true =>
                have hkd : kd = q1 ∨ kd = q2 := by simpa [inK] using hin
                have RT := hide (show WT.rangeAt sb (sf + k * 18) o from fun j v hv => by rw [(unhide BT).cell (p := ⟨sb, sf + k * 18 + j, none⟩) lsb]; exact unhide HCK j v hv)
                have HST := hide ((unhide HP).step _ _ _ _ (unhide BKT) (by omega) (unhide HO) hkd)
                clear hkd
                go_wp2_with (refine wpList_load_opL rfl _ rfl sb (sf + k * 18) rfl o (unhide HOL).1 (unhide RT) ?_)
                refine (unhide HST).mono ?_
                rintro e w1 ⟨rfl, h2⟩
                have BK' := hide h2
                clear h2 HST
                go_wp2_with fail
                refine ((unhide HP).look _ _ (unhide BK') (by omega)).mono ?_
                rintro e w2 ⟨rfl, h3⟩
                have BK3 := hide h3
                clear h3
                go_wp2_with fail
                go_roundw
                case rel => exact ⟨k + 1, n + 1, by omega, by simp, unhide BK3, by omega⟩
                case measure => simp [intOf]; omega
        · go_wp2
          go_ret
          exact ⟨rfl, unhide BE⟩
end Go.Proofs.YtgdeeodifnegiaaGreatDoor
