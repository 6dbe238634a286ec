/- The statement's own call (package bywaylaw): told, Codes. -/
import Derived.Test.YtgngdklkoilaiaaGreatDoorLawO
import Derived.Test.YtgngdklkoilaiaaGreatDoorLawP
import Derived.Deep.MidRow
namespace Go.Proofs.YtgngdklkoilaiaaGreatDoor
open Go.RowKit

theorem netsAt_one {w : World} {g t : Nat} {fr : Nat × Nat} {a l : Int} (h : w.heap[g]? = some (.cells #[.int .i64 a, .int .i64 l] t fr)) (ha : inI a) (hl : inI l) : NetsAt w (.slice (some ⟨g, 0, none⟩) 1 1) [(a, l)] :=
  ⟨_, 1, rfl, by simp, by simp, by simp [ha, hl], Or.inr ⟨g, 0, rfl, heap_lt h, fun j hj => by
    have hj0 : j = 0 := by simp at hj; omega
    subst hj0
    exact ⟨cell_of_heap h, cell_of_heap h⟩⟩⟩
theorem intsAt_two {w : World} {g t : Nat} {fr : Nat × Nat} {a b : Int} (h : w.heap[g]? = some (.cells #[.int .i64 a, .int .i64 b] t fr)) (ha : inI a) (hb : inI b) : IntsAt w (.slice (some ⟨g, 0, none⟩) 2 2) [a, b] :=
  ⟨_, 2, rfl, by simp, by simp, by simp [ha, hb], Or.inr ⟨g, 0, rfl, heap_lt h, fun j hj => by
    simp at hj
    rcases (show j = 0 ∨ j = 1 by omega) with rfl | rfl
    · exact cell_of_heap h
    · exact cell_of_heap h⟩⟩
theorem below_four (W : World) (a b c d : Obj) : Below W.heap.size W ((((W.alloc a).alloc b).alloc c).alloc d) :=
  ((((Below.refl W.heap.size W).alloc (Nat.le_refl _) a).alloc (by simp) b).alloc (by simp; omega) c).alloc (by simp; omega) d
theorem heap_four (W : World) (a b c d : Obj) : ((((W.alloc a).alloc b).alloc c).alloc d).heap[W.heap.size]? = some a ∧ ((((W.alloc a).alloc b).alloc c).alloc d).heap[W.heap.size + 1]? = some b ∧
    ((((W.alloc a).alloc b).alloc c).alloc d).heap[W.heap.size + 1 + 1]? = some c ∧ ((((W.alloc a).alloc b).alloc c).alloc d).heap[W.heap.size + 1 + 1 + 1]? = some d := by
  have old : ∀ (w : World) (o : Obj) (k : Nat), k < w.heap.size → (w.alloc o).heap[k]? = w.heap[k]? := fun w o k h => by
    show (w.heap.push o)[k]? = w.heap[k]?
    rw [Array.getElem?_push, if_neg (by omega)]
  have sz : ∀ (w : World) (o : Obj), (w.alloc o).heap.size = w.heap.size + 1 := fun w o => by simp
  have new : ∀ (w : World) (o : Obj) (k : Nat), k = w.heap.size → (w.alloc o).heap[k]? = some o := fun w o k h => by subst h; exact heap_alloc_new w o
  refine ⟨?_, ?_, ?_, ?_⟩
  · rw [old _ _ _ (by simp only [sz]; omega), old _ _ _ (by simp only [sz]; omega), old _ _ _ (by simp only [sz]; omega), new _ _ _ rfl]
  · rw [old _ _ _ (by simp only [sz]; omega), old _ _ _ (by simp only [sz]; omega), new _ _ _ (by simp only [sz])]
  · rw [old _ _ _ (by simp only [sz]; omega), new _ _ _ (by simp only [sz])]
  · rw [new _ _ _ (by simp only [sz])]

set_option maxRecDepth 100000 in
set_option maxHeartbeats 3200000 in
theorem told_any (W : World) :
    Calls Tryz.prog 5 #[] W fun e W' => ∃ g h q, e = .returned (.agg #[.slice (some ⟨g, 0, none⟩) 1 1, .slice (some ⟨h, 0, none⟩) 1 1, .slice (some ⟨q, 0, none⟩) 2 2, .slice none 0 0, .int .i64 100, .int .i64 0]) ∧ Below W.heap.size W W' ∧
      NetsAt W' (.slice (some ⟨g, 0, none⟩) 1 1) [(167772160, 8)] ∧ NetsAt W' (.slice (some ⟨h, 0, none⟩) 1 1) [(3232235520, 16)] ∧ IntsAt W' (.slice (some ⟨q, 0, none⟩) 2 2) [3, 4] := by
  go_enter Tryz.func5, Tryz.ntmps5
  go_wp2_with fail
  obtain ⟨h1, h2, h3, h4⟩ := heap_four W (.cells #[.slice (some ⟨W.heap.size + 1, 0, none⟩) 1 1, .slice (some ⟨W.heap.size + 1 + 1, 0, none⟩) 1 1, .slice (some ⟨W.heap.size + 1 + 1 + 1, 0, none⟩) 2 2, .slice none 0 0, .int .i64 100, .int .i64 0] 27)
    (.cells #[.int .i64 167772160, .int .i64 8] 30) (.cells #[.int .i64 3232235520, .int .i64 16] 30) (.cells #[.int .i64 3, .int .i64 4] 3)
  refine bodyPost_ret (results_cell_row Tryz.results5 _ _ W.heap.size _ _ _ _ rfl h1 Tryz.underlying27 rfl (by kernel_rfl)) rfl ?_
  exact ⟨_, _, _, rfl, below_four W _ _ _ _, netsAt_one h2 (by unfold inI; omega) (by unfold inI; omega), netsAt_one h3 (by unfold inI; omega) (by unfold inI; omega), intsAt_two h4 (by unfold inI; omega) (by unfold inI; omega)⟩
end Go.Proofs.YtgngdklkoilaiaaGreatDoor

namespace Go.Proofs.YtgngdklkoilaiaaGreatDoor
open Go.RowKit

/-- what a call of plays must do -/
def PlaysSaid : Prop := ∀ (S : List OpM) (o : OpM) (vs : Value) (ga kb : Nat) (W : World), TabAt W → W.heap[ga]? = some (.cells (opC o) 34 (0, 0)) → o.kind = 4 → OpOk W o → ScriptAt W vs S →
    W.heap[kb]? = some (.cells #[.int .i64 4, .int .i64 5] 3 (0, 0)) →
    Calls Tryz.prog 4 #[.slice (some ⟨ga, 0, none⟩) 1 1, vs, .slice (some ⟨kb, 0, none⟩) 2 2] W fun e W' => e = .returned (.bool true) ∧ Below W.heap.size W W'
theorem ScriptAt.below {w w' : World} {v : Value} {S : List OpM} (h : ScriptAt w v S) (hb : Below w.heap.size w w') : ScriptAt w' v S := by
  obtain ⟨p, c, rfl, h1, h2, h3, h4⟩ := h
  refine ⟨p, c, rfl, h1, h2, fun o ho => (h3 o ho).below hb, h4.imp id ?_⟩
  rintro ⟨b, f, rfl, hl, hc⟩
  exact ⟨b, f, rfl, Nat.lt_of_lt_of_le hl hb.size, fun j hj i hi => (hb.cell (p := ⟨b, f + j * 18 + i, none⟩) hl).trans (hc j hj i hi)⟩
def toldO (g h q : Nat) : OpM := ⟨4, 0, 0, ⟨#[]⟩, 0, 0, .slice none 0 0, .slice none 0 0, 0, 0, .slice (some ⟨g, 0, none⟩) 1 1, .slice (some ⟨h, 0, none⟩) 1 1, .slice (some ⟨q, 0, none⟩) 2 2, .slice none 0 0, ⟨[(167772160, 8)], [(3232235520, 16)], [3, 4], [], 100, 0⟩, .slice none 0 0, .slice none 0 0⟩
theorem toldO_ok {w : World} {g h q : Nat} (h1 : NetsAt w (.slice (some ⟨g, 0, none⟩) 1 1) [(167772160, 8)]) (h2 : NetsAt w (.slice (some ⟨h, 0, none⟩) 1 1) [(3232235520, 16)]) (h3 : IntsAt w (.slice (some ⟨q, 0, none⟩) 2 2) [3, 4]) : OpOk w (toldO g h q) := by
  unfold toldO
  refine ⟨h1, h2, h3, ⟨none, 0, rfl, by simp, by simp, fun x hx => by simp at hx, Or.inl ⟨rfl, fun _ => rfl⟩⟩, ?_, ?_, ?_, ⟨_, _, _, rfl⟩, ⟨_, _, _, rfl⟩, ⟨_, _, _, rfl⟩, ⟨_, _, _, rfl⟩, by simp, by simp, by simp, ?_⟩
  · show inI 100
    unfold inI; omega
  · show inI 0
    unfold inI; omega
  · show inI 0
    unfold inI; omega
  · show (0 : Nat) ≤ 1048576
    omega
theorem below_two (W : World) (a b : Obj) : Below W.heap.size W ((W.alloc a).alloc b) :=
  ((Below.refl W.heap.size W).alloc (Nat.le_refl _) a).alloc (by simp) b
theorem heap_two (W : World) (a b : Obj) : ((W.alloc a).alloc b).heap[W.heap.size]? = some a ∧ ((W.alloc a).alloc b).heap[W.heap.size + 1]? = some b := by
  have sz : (W.alloc a).heap.size = W.heap.size + 1 := by simp
  refine ⟨?_, ?_⟩
  · show ((W.alloc a).heap.push b)[W.heap.size]? = some a
    rw [Array.getElem?_push, if_neg (by omega)]
    exact heap_alloc_new W a
  · rw [← sz]
    exact heap_alloc_new (W.alloc a) b

set_option maxRecDepth 100000 in
set_option maxHeartbeats 6400000 in
theorem codes_any (hp : PlaysSaid) (S : List OpM) (vs : Value) (W : World) (ht : TabAt W) (hS : ScriptAt W vs S) :
    Calls Tryz.prog 3 #[vs] W fun e W' => e = .returned (.bool true) ∧ Below W.heap.size W W' := by
  have HT := hide ht
  have HS := hide hS
  have HP := hide hp
  obtain ⟨ps, cs, rfl, -⟩ := hS
  clear ht hp
  go_enter Tryz.func3, Tryz.ntmps3
  go_wp2_with fail
  refine (told_any W).mono ?_
  rintro e w1 ⟨g, h, q, rfl, hb, n1, n2, n3⟩
  have HB := hide hb
  have HO := hide (toldO_ok n1 n2 n3)
  clear hb n1 n2 n3
  go_wp2_with fail
  obtain ⟨q1, q2⟩ := heap_two w1 (.cells (opC (toldO g h q)) 34) (.cells #[.int .i64 4, .int .i64 5] 3)
  have s1 := (unhide HB).size
  have B2 := hide (below_two w1 (.cells (opC (toldO g h q)) 34) (.cells #[.int .i64 4, .int .i64 5] 3))
  have BW := hide ((unhide HB).trans ((unhide B2).mono s1))
  have s2 := (unhide BW).size
  refine (unhide HP S (toldO g h q) (.slice ps S.length cs) w1.heap.size (w1.heap.size + 1) _ ((unhide HT).below (unhide BW)) q1 rfl ((unhide HO).below (unhide B2)) ((unhide HS).below (unhide BW)) q2).mono ?_
  rintro e w2 ⟨rfl, hb2⟩
  have B3 := hide ((unhide BW).trans (hb2.mono s2))
  clear hb2 q1 q2
  go_wp2_with fail
  go_ret
  exact ⟨rfl, unhide B3⟩
end Go.Proofs.YtgngdklkoilaiaaGreatDoor

namespace Go.Proofs.YtgngdklkoilaiaaGreatDoor
open Go.RowKit

def inB (k : Int) : Nat → Bool
  | 0 => false
  | 1 => k == 4
  | _ => k == 4 || k == 5
theorem inB_kind {k : Int} (h : inB k 2 = true) : k = 4 ∨ k = 5 := by simpa [inB] using h
theorem wpList_load_op {ops : Array Oper} {rest : List Oper} {op : Oper} {a : Act} {w : World} {Q : Exit → Act → World → Prop} (hgd : op.guard = none) (x : Operand) (ho : op.op = .load 34 x)
    (b o : Nat) (hx : a.eval x = .pointer (some ⟨b, o, none⟩)) (m : OpM) (hc : w.rangeAt b o (opC m).toList)
    (h : wpList Tryz.prog ops Q rest (a.put op.dst (.agg (opC m))) w) : wpList Tryz.prog ops Q (op :: rest) a w :=
  wpList_load_mid hgd _ x ho b o hx (opC m).toList _ hc Tryz.underlying34 rfl (by kernel_rfl) h
theorem rangeAt_block {w : World} {g t : Nat} {fr : Nat × Nat} {m : OpM} (h : w.heap[g]? = some (.cells (opC m) t fr)) : w.rangeAt g 0 (opC m).toList := fun j v hv => by
  rw [Nat.zero_add, cell_of_heap h]; simpa using hv

set_option maxRecDepth 100000 in
set_option maxHeartbeats 12800000 in
theorem plays_said : PlaysSaid := by
  intro S o vs ga kb W ht hga hk hO hS hkb
  have HT := hide ht
  have HO := hide hO
  have HGA := hide hga
  have HKB := hide hkb
  have HK := hide hk
  have lga : ga < W.heap.size := heap_lt hga
  have lkb : kb < W.heap.size := heap_lt hkb
  obtain ⟨ps, cs, rfl, hcap, hS1, hSO, hSc⟩ := hS
  have HSO := hide hSO
  have HSC := hide hSc
  obtain ⟨N, hN⟩ : ∃ N, S.length = N := ⟨_, rfl⟩
  have HN := hide hN
  rw [hN] at hcap hS1 ⊢
  clear ht hga hkb hSO hSc hN hO hk
  have B0 := hide (book0 W)
  have D0 := hide ((Below.refl W.heap.size W).alloc (Nat.le_refl _) (.cells (worldC ⟨.slice none 0 0, .slice none 0 0, .slice none 0 0, [], [], []⟩) 47))
  go_enter Tryz.func4, Tryz.ntmps4
  go_wp2_with fail
  go_loopw [8] (fun i wr => ∃ (k : Nat) (b : Bk), k ≤ 1 ∧ i = .int .i64 k ∧ BookAt wr W.heap.size b ∧ Below W.heap.size W wr ∧ b.cnt ≤ 4 * k) (fun i _ => 1 - (intOf i).toNat)
  case atStart => exact ⟨0, _, by omega, rfl, unhide B0, unhide D0, by simp [Bk.cnt]⟩
  case round =>
    rename World => WR
    obtain ⟨k, b, hk, rfl, hbk, hbe, hcn⟩ := hrel
    have BK := hide hbk
    have BE := hide hbe
    have sWR := hbe.size
    by_cases hlt : k < 1
    · have hk0 : k = 0 := by omega
      subst hk0
      have q := hide (rangeAt_block ((hbe.block ga lga).trans (unhide HGA)))
      clear hbk hbe
      go_wp2_with (refine wpList_load_op rfl _ rfl ga 0 rfl o (unhide q) ?_)
      refine (step_any o b W.heap.size WR (Or.inl (unhide HK)) ((unhide HT).below (unhide BE)) (unhide BK) ((unhide HO).below (unhide BE)) (by omega)).mono ?_
      rintro e w1 ⟨rfl, b', hb', hst⟩
      have BK' := hide hb'
      have BE' := hide (hst.below (unhide BE) (unhide BK) (Nat.le_refl _))
      have hcn' := hst.cnt
      clear hb' hst
      go_wp2_with fail
      exact ⟨⟨1, b', by omega, by simp, unhide BK', unhide BE', by omega⟩, by simp [intOf]⟩
    · have hk1 : k = 1 := by omega
      subst hk1
      clear hbk hbe hlt hk sWR HO HGA HK
      rw [show ((1 : Nat) : Int) = 1 from rfl]
      go_wp2_with fail
      go_loopw [10] (fun i wr => ∃ (k : Nat) (b : Bk), k ≤ N ∧ i = .int .i64 k ∧ BookAt wr W.heap.size b ∧ Below W.heap.size W wr ∧ b.cnt ≤ 4 * (k + 1)) (fun i _ => N - (intOf i).toNat)
      case atStart => exact ⟨0, b, by omega, rfl, unhide BK, unhide BE, by omega⟩
      case round =>
        clear hcn BK BE
        rename World => WS
        obtain ⟨k, b, hk, rfl, hbk, hbe, hcn⟩ := hrel
        have BK := hide hbk
        have BE := hide hbe
        have sWS := hbe.size
        have qk := hide ((hbe.block kb lkb).trans (unhide HKB))
        clear hbk
        by_cases hlt : k < N
        · have hltS : k < S.length := by rw [unhide HN]; exact hlt
          rcases unhide HSC with h | ⟨sb, sf, rfl, lsb, hc⟩
          · rw [h] at hltS; simp at hltS
          have hO := unhide HSO S[k] (List.getElem_mem _)
          have hck := hc k hltS
          clear o
          obtain ⟨o, ho⟩ : ∃ o, S[k] = o := ⟨_, rfl⟩
          rw [ho] at hO hck
          have HO := hide hO
          have HCK := hide (show W.rangeAt sb (sf + k * 18) (opC o).toList from fun j v hv => by
            have hj : j < 18 := by rcases Nat.lt_or_ge j 18 with h | h; exact h; rw [List.getElem?_eq_none (show (opC o).toList.length ≤ j from h)] at hv; cases hv
            rw [hck j hj]; simpa using hv)
          have c0 : WS.cell? ⟨sb, sf + k * 18, none⟩ = some (.int .i64 o.kind) := by rw [hbe.cell (p := ⟨sb, sf + k * 18, none⟩) lsb]; exact hck 0 (by omega)
          have C0 := hide c0
          have lsb' : sb < WS.heap.size := by omega
          have lkb' : kb < WS.heap.size := by omega
          clear hck hbe c0 hc ho hO
          go_wp2_with fail
          go_loopw [12, 11] (fun i x wr => ∃ j : Nat, j ≤ 2 ∧ i = .int .i64 j ∧ x = .bool (inB o.kind j) ∧ Below WS.heap.size WS wr) (fun i _ _ => 2 - (intOf i).toNat)
          case atStart => exact ⟨0, by omega, rfl, rfl, Below.refl _ _⟩
          case round =>
            rename World => WT
            obtain ⟨j, hj, rfl, rfl, hbj⟩ := hrel
            have BJ := hide hbj
            have e0 := (hbj.cell (p := ⟨sb, sf + k * 18, none⟩) lsb').trans (unhide C0)
            have qj := (hbj.block kb lkb').trans (unhide qk)
            have k0 : WT.cell? ⟨kb, 0, none⟩ = some (.int .i64 4) := cell_of_heap qj
            have k1 : WT.cell? ⟨kb, 1, none⟩ = some (.int .i64 5) := cell_of_heap qj
            clear hbj qj
            rcases (show j = 0 ∨ j = 1 ∨ j = 2 by omega) with rfl | rfl | rfl
            · simp only [inB]
              cases he : (o.kind == 4) with
              | true =>
                go_wp2_with fail
                go_quiet ((fail))
                go_wp2_with fail
                exact ⟨⟨1, by omega, by simp, by simp, below_drewN (unhide BJ) _⟩, by simp [intOf]⟩
              | false =>
                go_wp2_with fail
                go_quiet ((fail))
                go_wp2_with fail
                exact ⟨⟨1, by omega, by simp, by simp, below_drewN (unhide BJ) _⟩, by simp [intOf]⟩
            · simp only [inB]
              cases he : (o.kind == 4) with
              | true =>
                go_wp2_with fail
                go_quiet ((fail))
                go_wp2_with fail
                exact ⟨⟨2, by omega, by simp, by simp, below_drewN (unhide BJ) _⟩, by simp [intOf]⟩
              | false =>
                cases he5 : (o.kind == 5) with
                | true =>
                  go_wp2_with fail
                  go_quiet ((fail))
                  go_wp2_with fail
                  exact ⟨⟨2, by omega, by simp, by simp, below_drewN (unhide BJ) _⟩, by simp [intOf]⟩
                | false =>
                  go_wp2_with fail
                  go_quiet ((fail))
                  go_wp2_with fail
                  exact ⟨⟨2, by omega, by simp, by simp, below_drewN (unhide BJ) _⟩, by simp [intOf]⟩
            · clear e0 k0 k1
              have BT := hide ((unhide BE).trans ((unhide BJ).mono sWS))
              have BKT := hide ((unhide BK).below (unhide BJ))
              cases hin : inB o.kind 2 with
              | false =>
                go_wp2_with fail
                exact ⟨⟨k + 1, b, by omega, by simp, unhide BKT, unhide BT, by omega⟩, by simp [intOf]; omega⟩
              | true =>
                have hkind := hide (inB_kind hin)
                have RT := hide (show WT.rangeAt sb (sf + k * 18) (opC o).toList from fun j v hv => by rw [(unhide BT).cell (p := ⟨sb, sf + k * 18 + j, none⟩) lsb]; exact unhide HCK j v hv)
                go_wp2_with (refine wpList_load_op rfl _ rfl sb (sf + k * 18) rfl o (unhide RT) ?_)
                refine (step_any o b W.heap.size WT (unhide hkind) ((unhide HT).below (unhide BT)) (unhide BKT) ((unhide HO).below (unhide BT)) (by omega)).mono ?_
                rintro e w1 ⟨rfl, b', hb', hst⟩
                have BK' := hide hb'
                have BE' := hide (hst.below (unhide BT) (unhide BKT) (Nat.le_refl _))
                have hcn' := hst.cnt
                clear hb' hst
                go_wp2_with fail
                refine (looks_any b' W.heap.size w1 (unhide BK') (by omega)).mono ?_
                rintro e w2 ⟨rfl, hb2⟩
                have BL := hide hb2
                have s1 := (unhide BE').size
                clear hb2
                go_wp2_with fail
                go_roundw
                case rel => exact ⟨k + 1, b', by omega, by simp, (unhide BK').below (unhide BL), (unhide BE').trans ((unhide BL).mono s1), by omega⟩
                case measure => simp [intOf]; omega
        · go_wp2
          go_ret
          exact ⟨rfl, unhide BE⟩
end Go.Proofs.YtgngdklkoilaiaaGreatDoor
