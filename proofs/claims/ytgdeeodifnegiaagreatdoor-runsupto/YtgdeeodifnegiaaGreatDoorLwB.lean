/- A script of Compiles is played (package bywaylaw): World.step at kind 1, Book.looks of an empty book, plays, taken, Compiles. -/
import Derived.Test.YtgdeeodifnegiaaGreatDoorLwA
import Derived.Deep.MidRow
namespace Go.Proofs.YtgdeeodifnegiaaGreatDoor
open Go.RowKit

theorem wpList_load_opL {ops : Array Oper} {rest : List Oper} {op : Oper} {a : Act} {w : World} {Q : Exit → Act → World → Prop} (hgd : op.guard = none) (x : Operand) (ho : op.op = .load 33 x)
    (b o : Nat) (hx : a.eval x = .pointer (some ⟨b, o, none⟩)) (cs : List Value) (hl : cs.length = 18) (hc : w.rangeAt b o cs)
    (h : wpList Tryz.prog ops Q rest (a.put op.dst (.agg cs.toArray)) w) : wpList Tryz.prog ops Q (op :: rest) a w :=
  wpList_load_mid hgd _ x ho b o hx cs _ hc Tryz.underlying33 rfl (by rw [hl]; kernel_rfl) h
theorem rangeAt_blockL {w : World} {g t : Nat} {fr : Nat × Nat} {cs : List Value} (h : w.heap[g]? = some (.cells cs.toArray t fr)) : w.rangeAt g 0 cs := fun j v hv => by
  rw [Nat.zero_add, cell_of_heap h]; simpa using hv
set_option maxRecDepth 100000 in
set_option maxHeartbeats 3200000 in
theorem wlooks {W : World} {wb n : Nat} {v : Value} {xs : List Value} (hw : WAt W wb n v xs) :
    Calls Tryz.prog 9 #[.pointer (some ⟨wb, 2, none⟩)] W fun e W' => e = .returned (.bool true) ∧ W' = W := by
  have c2 : W.cell? ⟨wb, 2, none⟩ = some (.slice none 0 0) := cell_of_heap hw.blk
  have c3 : W.cell? ⟨wb, 3, none⟩ = some (.slice none 0 0) := cell_of_heap hw.blk
  have c4 : W.cell? ⟨wb, 4, none⟩ = some (.slice none 0 0) := cell_of_heap hw.blk
  have c5 : W.cell? ⟨wb, 5, none⟩ = some (.slice none 0 0) := cell_of_heap hw.blk
  have c6 : W.cell? ⟨wb, 6, none⟩ = some (.slice none 0 0) := cell_of_heap hw.blk
  clear hw
  go_enter Tryz.func9, Tryz.ntmps9
  go_wp2_with fail
  go_loopw [3, 4] (fun ok i wr => ok = .bool true ∧ i = .int .i64 0 ∧ wr = W) (fun _ _ _ => 0)
  case atStart => exact ⟨rfl, rfl, rfl⟩
  case round =>
    obtain ⟨rfl, rfl, hwr⟩ := hrel; rw [hwr]; clear hwr
    go_wp2_with fail
    go_loopw [3, 6] (fun ok i wr => ok = .bool true ∧ i = .int .i64 0 ∧ wr = W) (fun _ _ _ => 0)
    case atStart => exact ⟨rfl, rfl, rfl⟩
    case round =>
      obtain ⟨rfl, rfl, hwr⟩ := hrel; rw [hwr]; clear hwr
      go_wp2_with fail
      go_loopw [3, 8] (fun ok i wr => ok = .bool true ∧ i = .int .i64 0 ∧ wr = W) (fun _ _ _ => 0)
      case atStart => exact ⟨rfl, rfl, rfl⟩
      case round =>
        obtain ⟨rfl, rfl, hwr⟩ := hrel; rw [hwr]; clear hwr
        go_wp2_with fail
        go_loopw [3, 10] (fun ok i wr => ok = .bool true ∧ i = .int .i64 0 ∧ wr = W) (fun _ _ _ => 0)
        case atStart => exact ⟨rfl, rfl, rfl⟩
        case round =>
          obtain ⟨rfl, rfl, hwr⟩ := hrel; rw [hwr]; clear hwr
          go_wp2_with fail
          go_loopw [3, 12] (fun ok i wr => ok = .bool true ∧ i = .int .i64 0 ∧ wr = W) (fun _ _ _ => 0)
          case atStart => exact ⟨rfl, rfl, rfl⟩
          case round =>
            obtain ⟨rfl, rfl, hwr⟩ := hrel; rw [hwr]; clear hwr
            go_wp2_with fail
            go_ret
            exact ⟨rfl, rfl⟩
set_option maxRecDepth 100000 in
set_option maxHeartbeats 3200000 in
theorem wstep {W : World} {wb n : Nat} {v : Value} {xs cs : List Value} {S : ByteArray} (hw : WAt W wb n v xs) (hn : n ≤ 1000000000000) (ho : OpL cs 1 S) (ht : TokTabs W) :
    Calls Tryz.prog 8 #[ptr4 wb 0, .agg cs.toArray] W fun e W' => e = .returned (.bool true) ∧ ∃ n' v' xs', n' ≤ n + 1 ∧ WAt W' wb n' v' xs' ∧ Fr (WOw wb v) W (WOw wb v') W' ∧ (xs' = xs ∨ ∃ a b, xs' = xs ++ [a, b] ∧ PairAt W' (WOw wb v') a b) := by
  have lwb : wb < W.heap.size := heap_lt hw.blk
  have hq : (W.alloc (.cells cs.toArray 33)).heap[W.heap.size]? = some (.cells cs.toArray 33 (0, 0)) := heap_alloc_new _ _
  have q0 : (W.alloc (.cells cs.toArray 33)).cell? ⟨W.heap.size, 0, none⟩ = some (.int .i64 1) := by rw [cell_of_heap hq]; simpa using ho.kind
  have HB0 := hide ((Below.refl W.heap.size W).alloc (Nat.le_refl _) (.cells cs.toArray 33))
  have HW := hide hw
  have HT := hide ht
  have HO := hide ho
  have HR := hide (rangeAt_blockL hq)
  clear hw ht hq ho
  obtain ⟨WA, hWA⟩ : ∃ WA, W.alloc (.cells cs.toArray 33) = WA := ⟨_, rfl⟩
  have HWA := hide hWA
  rw [hWA] at HB0 HR q0
  clear hWA
  go_enter Tryz.func8, Tryz.ntmps8
  go_upto_region 1 with fail
  rw [unhide HWA]
  go_wp2_with (refine wpList_load_opL rfl _ rfl W.heap.size 0 rfl cs (unhide HO).len (unhide HR) ?_)
  refine (wcompile ((unhide HW).below (unhide HB0)) hn (unhide HO) ((unhide HT).below (unhide HB0))).mono ?_
  rintro e w1 ⟨rfl, n', v', xs', h1, h2, h3, h4⟩
  have H2 := hide h2
  have H3 := hide h3
  have H4 := hide h4
  clear h2 h3 h4
  go_wp2_with fail
  go_ret
  exact ⟨rfl, n', v', xs', h1, unhide H2, (Fr.of_below (unhide HB0)).trans (unhide H3), unhide H4⟩
/-- a script in memory -/
def ScriptC (w : World) (v : Value) (S : List (List Value)) : Prop :=
  ∃ p c, v = .slice p S.length c ∧ S.length ≤ c ∧ S.length ≤ 999999999990 ∧ (∀ cs ∈ S, ∃ k s, OpL cs k s) ∧ (S = [] ∨ ∃ b f, p = some ⟨b, f, none⟩ ∧ b < w.heap.size ∧ ∀ j, (h : j < S.length) → ∀ i, i < 18 → w.cell? ⟨b, f + j * 18 + i, none⟩ = S[j][i]?)
theorem ScriptC.below {w w' : World} {v : Value} {S : List (List Value)} (h : ScriptC w v S) (hb : Below w.heap.size w w') : ScriptC w' v S := by
  obtain ⟨p, c, rfl, h1, h2, h3, h4⟩ := h
  refine ⟨p, c, rfl, h1, h2, h3, h4.imp id ?_⟩
  rintro ⟨b, f, rfl, hl, hc⟩
  exact ⟨b, f, rfl, Nat.lt_of_lt_of_le hl hb.size, fun j hj i hi => (hb.cell (p := ⟨b, f + j * 18 + i, none⟩) hl).trans (hc j hj i hi)⟩
/-- the script's world, the empty book in it -/
structure PlC (W wr : World) (n : Nat) (v : Value) (xs : List Value) : Prop where
  at_ : WAt wr W.heap.size n v xs
  fr : Fr rf.nF W (WOw W.heap.size v) wr
theorem PlC.below {W wr : World} {n : Nat} {v : Value} {xs : List Value} (h : PlC W wr n v xs) : Below W.heap.size W wr := rf.Fr.nF_below h.fr
theorem PlC.stay {W wr wr' : World} {n : Nat} {v : Value} {xs : List Value} (h : PlC W wr n v xs) (hb : Below wr.heap.size wr wr') : PlC W wr' n v xs := ⟨h.at_.below hb, h.fr.below hb⟩
theorem plc0 (W : World) : PlC W (W.alloc (.cells (worldK (.slice none 0 0)) 47)) 0 (.slice none 0 0) [] :=
  ⟨⟨heap_alloc_new _ _, World.ownsRow_nil _ _ _ _, by simp [Value.ownBlock]⟩, ((Fr.refl rf.nF W).alloc _).reown (fun k hk => by
    rcases hk with h | h
    · exact Or.inr (by omega)
    · simp [Value.ownBlock] at h)⟩
set_option maxRecDepth 100000 in
set_option maxHeartbeats 12800000 in
theorem wplays (S : List (List Value)) (cs0 : List Value) (s0 : ByteArray) (vs : Value) (ga kb : Nat) (W : World) (ht : TokTabs W) (hga : W.heap[ga]? = some (.cells cs0.toArray 33 (0, 0))) (ho : OpL cs0 1 s0) (hS : ScriptC W vs S)
    (hkb : W.heap[kb]? = some (.cells #[.int .i64 1] 3 (0, 0))) :
    Calls Tryz.prog 6 #[.slice (some ⟨ga, 0, none⟩) 1 1, vs, .slice (some ⟨kb, 0, none⟩) 1 1] W fun e W' => e = .returned (.bool true) ∧ Below W.heap.size W W' := by
  have HT := hide ht
  have HO := hide ho
  have HGA := hide hga
  have HKB := hide hkb
  have lga : ga < W.heap.size := heap_lt hga
  have lkb : kb < W.heap.size := heap_lt hkb
  obtain ⟨ps, cp, rfl, hcap, hS1, hSO, hSc⟩ := hS
  have HSO := hide hSO
  have HSC := hide hSc
  obtain ⟨N, hN⟩ : ∃ N, S.length = N := ⟨_, rfl⟩
  have HN := hide hN
  rw [hN] at hcap hS1 ⊢
  clear ht hga hkb hSO hSc hN ho
  have B0 := hide (plc0 W)
  go_enter Tryz.func6, Tryz.ntmps6
  go_wp2_with fail
  go_loopw [8] (fun i wr => ∃ (k n : Nat) (v : Value) (xs : List Value), k ≤ 1 ∧ i = .int .i64 k ∧ PlC W wr n v xs ∧ n ≤ k) (fun i _ => 1 - (intOf i).toNat)
  case atStart => exact ⟨0, 0, _, _, by omega, rfl, unhide B0, by omega⟩
  case round =>
    rename World => WR
    obtain ⟨k, n, v, xs, hk, rfl, hpl, hcn⟩ := hrel
    have BK := hide hpl
    have hbe := hpl.below
    have sWR := hbe.size
    by_cases hlt : k < 1
    · have hk0 : k = 0 := by omega
      subst hk0
      have q := hide (rangeAt_blockL ((hbe.block ga lga).trans (unhide HGA)))
      have BE := hide hbe
      clear hpl hbe
      go_wp2_with (refine wpList_load_opL rfl _ rfl ga 0 rfl cs0 (unhide HO).len (unhide q) ?_)
      refine (wstep (unhide BK).at_ (by omega) (unhide HO) ((unhide HT).below (unhide BE))).mono ?_
      rintro e w1 ⟨rfl, n', v', xs', h1, h2, h3, _⟩
      have BK' := hide (show PlC W w1 n' v' xs' from ⟨h2, (unhide BK).fr.trans h3⟩)
      clear h2 h3
      go_wp2_with fail
      exact ⟨⟨1, n', v', xs', by omega, by simp, unhide BK', by omega⟩, by simp [intOf]⟩
    · have hk1 : k = 1 := by omega
      subst hk1
      clear hpl hbe hlt hk sWR HO HGA
      rw [show ((1 : Nat) : Int) = 1 from rfl]
      go_wp2_with fail
      go_loopw [10] (fun i wr => ∃ (k n : Nat) (v : Value) (xs : List Value), k ≤ N ∧ i = .int .i64 k ∧ PlC W wr n v xs ∧ n ≤ k + 1) (fun i _ => N - (intOf i).toNat)
      case atStart => exact ⟨0, n, v, xs, by omega, rfl, unhide BK, by omega⟩
      case round =>
        clear hcn BK
        rename World => WS
        obtain ⟨k, n, v, xs, hk, rfl, hpl, hcn⟩ := hrel
        have BK := hide hpl
        have hbe := hpl.below
        have BE := hide hbe
        have sWS := hbe.size
        have qk := hide ((hbe.block kb lkb).trans (unhide HKB))
        clear hpl
        by_cases hlt : k < N
        · have hltS : k < S.length := by rw [unhide HN]; exact hlt
          rcases unhide HSC with h | ⟨sb, sf, rfl, lsb, hc⟩
          · rw [h] at hltS; simp at hltS
          obtain ⟨kd, st, hO⟩ := unhide HSO S[k] (List.getElem_mem _)
          have hck := hc k hltS
          obtain ⟨o, ho⟩ : ∃ o, S[k] = o := ⟨_, rfl⟩
          rw [ho] at hO hck
          have HO := hide hO
          have HCK := hide (show W.rangeAt sb (sf + k * 18) o from fun j v hv => by
            have hj : j < 18 := by rcases Nat.lt_or_ge j 18 with h | h; exact h; rw [List.getElem?_eq_none (by rw [hO.len]; exact h)] at hv; cases hv
            rw [hck j hj]; exact hv)
          have c0 : WS.cell? ⟨sb, sf + k * 18, none⟩ = some (.int .i64 kd) := by rw [hbe.cell (p := ⟨sb, sf + k * 18, none⟩) lsb]; exact (hck 0 (by omega)).trans hO.kind
          have C0 := hide c0
          have lsb' : sb < WS.heap.size := by omega
          have lkb' : kb < WS.heap.size := by omega
          clear hck hbe c0 hc ho hO
          go_wp2_with fail
          go_loopw [12, 11] (fun i x wr => ∃ j : Nat, j ≤ 1 ∧ i = .int .i64 j ∧ x = .bool (if j = 0 then false else kd == 1) ∧ Below WS.heap.size WS wr) (fun i _ _ => 1 - (intOf i).toNat)
          case atStart => exact ⟨0, by omega, rfl, rfl, Below.refl _ _⟩
          case round =>
            rename World => WT
            obtain ⟨j, hj, rfl, rfl, hbj⟩ := hrel
            have BJ := hide hbj
            have e0 := (hbj.cell (p := ⟨sb, sf + k * 18, none⟩) lsb').trans (unhide C0)
            have qj := (hbj.block kb lkb').trans (unhide qk)
            have k0 : WT.cell? ⟨kb, 0, none⟩ = some (.int .i64 1) := cell_of_heap qj
            clear hbj qj
            rcases (show j = 0 ∨ j = 1 by omega) with rfl | rfl
            · rw [if_pos rfl]
              cases he : (kd == 1) with
              | true =>
                go_wp2_with fail
                go_quiet ((fail))
                go_wp2_with fail
                exact ⟨⟨1, by omega, by simp, by simp, below_drewN (unhide BJ) _⟩, by simp [intOf]⟩
              | false =>
                go_wp2_with fail
                go_quiet ((fail))
                go_wp2_with fail
                exact ⟨⟨1, by omega, by simp, by simp, below_drewN (unhide BJ) _⟩, by simp [intOf]⟩
            · rw [if_neg (by decide : ¬ (1 : Nat) = 0)]
              clear e0 k0
              have BT := hide ((unhide BE).trans ((unhide BJ).mono sWS))
              have BKT := hide ((unhide BK).stay (unhide BJ))
              cases hin : (kd == 1) with
              | false =>
                go_wp2_with fail
                exact ⟨⟨k + 1, n, v, xs, by omega, by simp, unhide BKT, by omega⟩, by simp [intOf]; omega⟩
              | true =>
                have hkd : kd = 1 := by simpa using hin
                subst hkd
                have RT := hide (show WT.rangeAt sb (sf + k * 18) o from fun j v hv => by rw [(unhide BT).cell (p := ⟨sb, sf + k * 18 + j, none⟩) lsb]; exact unhide HCK j v hv)
                go_wp2_with (refine wpList_load_opL rfl _ rfl sb (sf + k * 18) rfl o (unhide HO).len (unhide RT) ?_)
                refine (wstep (unhide BKT).at_ (by omega) (unhide HO) ((unhide HT).below (unhide BT))).mono ?_
                rintro e w1 ⟨rfl, n', v', xs', h1, h2, h3, _⟩
                have BK' := hide (show PlC W w1 n' v' xs' from ⟨h2, (unhide BKT).fr.trans h3⟩)
                clear h2 h3
                go_wp2_with fail
                refine (wlooks (unhide BK').at_).mono ?_
                rintro e w2 ⟨rfl, rfl⟩
                go_wp2_with fail
                go_roundw
                case rel => exact ⟨k + 1, n', v', xs', by omega, by simp, unhide BK', by omega⟩
                case measure => simp [intOf]; omega
        · go_wp2
          go_ret
          exact ⟨rfl, unhide BE⟩
end Go.Proofs.YtgdeeodifnegiaaGreatDoor
