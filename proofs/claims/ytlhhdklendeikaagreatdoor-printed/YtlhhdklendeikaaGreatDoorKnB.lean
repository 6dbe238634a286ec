/- known (package bywaykeep): it answers true. -/
import Derived.Test.YtlhhdklendeikaaGreatDoorKnA
import Derived.Test.YtlhhdklendeikaaGreatDoorRunG
import Derived.Test.YtlhhdklendeikaaGreatDoorLexA
import Derived.Test.YtlhhdklendeikaaGreatDoorShA
import Derived.Test.YtlhhdklendeikaaGreatDoorRows
import Derived.Lib.AppendIntMem
import Derived.Test.YtlhhdklendeikaaGreatDoorBase
namespace Go.Proofs.YtlhhdklendeikaaGreatDoor
open Go.RowKit

theorem run_ok {w1 : World} {A : Nat → Prop} {pp : Nat} {ms : List StpM} (hl : Lasts w1 A (PolC pp ms)) (W : World) (hW : Below w1.heap.size w1 W) (r : Rt) (pv mv : Value) (hp : IntsAt W pv r.path) (hm : IntsAt W mv r.marks) (i1 : inI r.addr) (i2 : inI r.len) (n1 : r.path.length ≤ 12) (n2 : r.marks.length ≤ 8) (hok : rtOk r = true) :
    Calls Tryz.prog 14 #[ptr4 pp 0, rtV r pv mv] W fun e w' => ∃ pv' mv', e = .returned (.tuple #[rtV (runM ms r).1 pv' mv', .int .i64 (runM ms r).2, .int .i64 0]) ∧ RtVal w' W.heap.size (runM ms r).1 pv' mv' ∧ Below W.heap.size W w' := by
  obtain ⟨K, hK, hQ⟩ := hl
  exact brun_any w1 K pp ms (fun k hk => (hK k hk).1) hQ W hW.size (fun k hk => hW.block k (hK k hk).1) r pv mv hp hm i1 i2 n1 n2 hok
theorem ints_one {W : World} {b : Nat} {x : Int} (h : W.cell? ⟨b, 0, none⟩ = some (.int .i64 x)) (hx : inI x) : IntsAt W (.slice (some ⟨b, 0, none⟩) 1 1) [x] := by
  refine ⟨some ⟨b, 0, none⟩, 1, rfl, by simp, by simp, fun y hy => ?_, Or.inr ⟨b, 0, rfl, cell_lt h, fun j hj => ?_⟩⟩
  · rcases List.mem_singleton.mp hy with rfl; exact hx
  · obtain rfl : j = 0 := by simpa using hj
    exact h
theorem ints_none (W : World) : IntsAt W (.slice none 0 0) [] := IntsAt.nil W 0 (l := []) (by simp)
/-- cells of a row that is owned -/
theorem owns_cells {W : World} {a : Option Addr} {n c : Nat} {l : List Int} (h : W.ownsRow 0 3 1 (.slice a n c) l.length (intCells l)) (hl : l ≠ []) : ∃ g, a = some ⟨g, 0, none⟩ ∧ n = l.length ∧ g < W.heap.size ∧ ∀ j x, l[j]? = some x → W.cell? ⟨g, j, none⟩ = some (.int .i64 x) := by
  rcases h.2 with ⟨_, h0⟩ | ⟨g, cap, cur, hv, _, hg, hnc, _, hcs, htk⟩
  · exact absurd (List.length_eq_zero_iff.mp h0) hl
  · injection hv with h1 h2 h3
    refine ⟨g, h1, h2, heap_lt hg, fun j x hx => ?_⟩
    rw [cell_of_heap hg]
    have hj : j < l.length := (List.getElem?_eq_some_iff.mp hx).1
    have : (cur.toList.take (l.length * 1))[j]? = some (.int .i64 x) := by rw [htk]; simp [intCells, hx]
    rw [List.getElem?_take, if_pos (by omega)] at this
    simpa using this
def kr (p : Int) : Rt := ⟨167772160, 8, [3], [], p, 0⟩
def krA : Rt := ⟨167772160, 8, [7, 3], [], 100, 0⟩
abbrev kW (w1 : World) : World := (w1.alloc (.cells #[.int .i64 3] 3)).alloc (rtBlk (kr 100) (.slice (some ⟨w1.heap.size, 0, none⟩) 1 1) (.slice none 0 0))
theorem kr_run (p : Int) {w1 : World} {A : Nat → Prop} {pp : Nat} (hl : Lasts w1 A (PolC pp knownMs)) (W : World) (hW : Below w1.heap.size w1 W) (hc : W.cell? ⟨w1.heap.size, 0, none⟩ = some (.int .i64 3)) (hok : rtOk (kr p) = true) {r' : Rt} {v : Int} (hr : runM knownMs (kr p) = (r', v)) :
    Calls Tryz.prog 14 #[ptr4 pp 0, rtV (kr p) (.slice (some ⟨w1.heap.size, 0, none⟩) 1 1) (.slice none 0 0)] W fun e w' => ∃ pv' mv', e = .returned (.tuple #[rtV r' pv' mv', .int .i64 v, .int .i64 0]) ∧ RtVal w' W.heap.size r' pv' mv' ∧ Below W.heap.size W w' := by
  have h := run_ok hl W hW (kr p) (.slice (some ⟨w1.heap.size, 0, none⟩) 1 1) (.slice none 0 0) (ints_one hc (by unfold inI; omega)) (ints_none _) (by unfold inI kr; simp) (by unfold inI kr; simp) (by simp [kr]) (by simp [kr]) hok
  rw [hr] at h; exact h
theorem kr_run1 : runM knownMs (kr 100) = (krA, 1) := rfl
theorem kr_run2 : runM knownMs (kr 99) = (rt0, 2) := rfl
abbrev kX (w1 w2 : World) (blk : Obj) : World := (w2.setCell ⟨w1.heap.size + 1, 4, none⟩ (.int .i64 99)).alloc blk
theorem kn_mem {w1 w2 : World} {f1 f3 : Option Addr} {f2 f4 : Nat} (hb2 : Below (kW w1).heap.size (kW w1) w2) (hv2 : RtVal w2 (kW w1).heap.size krA (.slice f1 2 f2) (.slice f3 0 f4)) (blk : Obj) :
    Below w1.heap.size w1 (kX w1 w2 blk) ∧ (kX w1 w2 blk).cell? ⟨w1.heap.size, 0, none⟩ = some (.int .i64 3) ∧ (kX w1 w2 blk).heap[w2.heap.size]? = some blk ∧ (kX w1 w2 blk).heap.size = w2.heap.size + 1 ∧
    ∃ g, f1 = some ⟨g, 0, none⟩ ∧ g < w2.heap.size ∧ (kX w1 w2 blk).cell? ⟨g, 0, none⟩ = some (.int .i64 7) ∧ (kX w1 w2 blk).cell? ⟨g, 1, none⟩ = some (.int .i64 3) := by
  obtain ⟨n1, n2, sz⟩ := two_new w1 (.cells #[.int .i64 3] 3) (rtBlk (kr 100) (.slice (some ⟨w1.heap.size, 0, none⟩) 1 1) (.slice none 0 0))
  have hkw : (kW w1).heap.size = w1.heap.size + 2 := sz
  have hs2 := hb2.size
  have hB1 : Below w1.heap.size w1 (kW w1) := ((Below.refl _ _).alloc (Nat.le_refl _) _).alloc (by simp) _
  have hss : (w2.setCell ⟨w1.heap.size + 1, 4, none⟩ (.int .i64 99)).heap.size = w2.heap.size := by simp [World.setCell]
  have hkeep : ∀ k, k < w2.heap.size → k ≠ w1.heap.size + 1 → (kX w1 w2 blk).heap[k]? = w2.heap[k]? := fun k hk hne => by
    rw [Below.heap_alloc _ _ _ (by rw [hss]; exact hk), heap_set_other hne]
  obtain ⟨g, hg, _, hgl, hgc⟩ := owns_cells (l := krA.path) hv2.1 (by simp [krA])
  have hgn : (kW w1).heap.size ≤ g := hv2.2.2.1 g (by rw [hg]; rfl)
  refine ⟨((hB1.trans (hb2.mono (by omega))).setCell (p := ⟨w1.heap.size + 1, 4, none⟩) (by simp) _).alloc (by rw [hss]; omega) _, ?_, ?_, by rw [World.size_alloc, hss], g, hg, hgl, ?_, ?_⟩
  · have h1 : (kX w1 w2 blk).heap[w1.heap.size]? = some (.cells #[.int .i64 3] 3 (0, 0)) := (hkeep _ (by omega) (by omega)).trans ((hb2.block _ (by omega)).trans n1)
    exact cell_of_heap h1
  · have := heap_alloc_new (w2.setCell ⟨w1.heap.size + 1, 4, none⟩ (.int .i64 99)) blk
    rw [hss] at this; exact this
  · exact (World.cell?_of_block (a := ⟨g, 0, none⟩) (hkeep g hgl (by omega))).trans (hgc 0 7 rfl)
  · exact (World.cell?_of_block (a := ⟨g, 1, none⟩) (hkeep g hgl (by omega))).trans (hgc 1 3 rfl)
set_option maxRecDepth 100000 in
set_option maxHeartbeats 2000000 in
theorem known_any (w : World) (ht : TokTabs w) : Calls Tryz.prog 9 #[] w fun e w' => e = .returned (.bool true) ∧ Below w.heap.size w w' := by
  have HC := hide (compiled_ok known_read w ht)
  rw [known_bytes] at HC
  clear ht
  go_enter Tryz.func9, Tryz.ntmps9
  go_wp2_with (first
    | (go_at_call 10; refine (unhide HC).mono ?_; rintro e w1 ⟨pp, rfl, hb, hl⟩; have HB := hide hb; have HL := hide hl; clear hb hl HC; have HN := hide (two_new w1 (.cells #[.int .i64 3] 3) (rtBlk (kr 100) (.slice (some ⟨w1.heap.size, 0, none⟩) 1 1) (.slice none 0 0))); have HB1 := hide (((Below.refl w1.heap.size w1).alloc (Nat.le_refl _) (.cells #[.int .i64 3] 3)).alloc (by simp) (rtBlk (kr 100) (.slice (some ⟨w1.heap.size, 0, none⟩) 1 1) (.slice none 0 0))); have HR := hide (kr_run 100 (unhide HL) (kW w1) (unhide HB1) (cell_of_heap (unhide HN).1) (by decide +kernel) kr_run1))
    | (go_at_call 14; refine (unhide HR).mono ?_; clear HR; rintro e w2 ⟨pv2, mv2, rfl, hv2, hb2⟩; obtain ⟨f1, f2, hf1⟩ := owns_form' hv2.1; obtain ⟨f3, f4, hf3⟩ := owns_form' hv2.2.1; change pv2 = .slice f1 2 f2 at hf1; change mv2 = .slice f3 0 f4 at hf3; obtain ⟨g0, g1, g2, g3, g4, g5, gz⟩ := rt6 ((hb2.block (w1.heap.size + 1) (by simp)).trans (unhide HN).2.1); change w2.cell? _ = some (.int .i64 167772160) at g0; change w2.cell? _ = some (.int .i64 8) at g1; change w2.cell? _ = some (.int .i64 100) at g4; change w2.cell? _ = some (.int .i64 0) at g5; have lx : w1.heap.size + 1 < w2.heap.size := (by have := hb2.size; simp at this; omega); unfold rtV krA; dsimp only; subst hf1 hf3; have HM := hide (kn_mem hb2 hv2 (.cells #[.int .i64 167772160, .int .i64 8, .slice f1 2 f2, .slice f3 0 f4, .int .i64 100, .int .i64 0] 32)); have HB2 := hide hb2; clear hv2 hb2; have HR2 := hide (kr_run 99 (unhide HL) _ (unhide HM).1 (unhide HM).2.1 (by decide +kernel) kr_run2); have hal := (bcell' ((Below.refl w2.heap.size w2).alloc (Nat.le_refl _) (.cells #[.int .i64 167772160, .int .i64 8, .slice f1 2 f2, .slice f3 0 f4, .int .i64 100, .int .i64 0] 32))).1; have hal2 := (bcell' ((Below.refl w2.heap.size w2).alloc (Nat.le_refl _) (.cells #[.int .i64 167772160, .int .i64 8, .slice f1 2 f2, .slice f3 0 f4, .int .i64 100, .int .i64 0] 32))).2; have s0' := (hal _ 0 lx).trans g0; have s1' := (hal _ 1 lx).trans g1; have s2' := (hal _ 2 lx).trans g2; have s3' := (hal _ 3 lx).trans g3; have s4' := (hal _ 4 lx).trans g4; have s5' := (hal _ 5 lx).trans g5; have sz' := (hal2 _ 4 lx).trans (gz 4); clear hal hal2)
    | (go_at_call 14; refine (unhide HR2).mono ?_; rintro e w3 ⟨pv3, mv3, rfl, hv3, hb3⟩; obtain ⟨f5, f6, hf5⟩ := owns_form' hv3.1; obtain ⟨f7, f8, hf7⟩ := owns_form' hv3.2.1; change pv3 = .slice f5 0 f6 at hf5; change mv3 = .slice f7 0 f8 at hf7; obtain ⟨_, _, m3, m4, g, hg, hgl, m5, m6⟩ := unhide HM; have a2 : w3.cell? ⟨w2.heap.size, 2, none⟩ = some (.slice f1 2 f2) := cell_of_heap ((hb3.block _ (by rw [m4]; omega)).trans m3); have p0 := (hb3.cell (p := ⟨g, 0, none⟩) (by show g < _; rw [m4]; omega)).trans m5; have p1 := (hb3.cell (p := ⟨g, 1, none⟩) (by show g < _; rw [m4]; omega)).trans m6; have l3 : w2.heap.size < w3.heap.size := (by have := hb3.size; rw [m4] at this; omega); have lg : g < w3.heap.size := (by omega); have HB3 := hide hb3; clear m3 m4 m5 m6 hv3 hb3 hgl s0' s1' s2' s3' s4' s5' sz' g0 g1 g2 g3 g4 g5 gz; unfold rtV rt0; dsimp only; subst hf5 hf7 hg; have hal := (bcell' ((Below.refl w3.heap.size w3).alloc (Nat.le_refl _) (.cells #[.int .i64 0, .int .i64 0, .slice f5 0 f6, .slice f7 0 f8, .int .i64 0, .int .i64 0] 32))).1; have t2 := (hal _ 2 l3).trans a2; have t3 := (hal _ 0 lg).trans p0; have t4 := (hal _ 1 lg).trans p1; clear hal))
  go_ret
  have hB := (unhide HB).trans ((unhide HM).1.mono (unhide HB).size)
  have h1 := (unhide HB).size
  exact ⟨rfl, ((hB.trans ((unhide HB3).mono hB.size)).alloc (by omega) _)⟩
end Go.Proofs.YtlhhdklendeikaaGreatDoor

namespace Go.Proofs.YtlhhdklendeikaaGreatDoor
open Go.RowKit

theorem bsA_app (a b : List UInt8) : bsA a ++ bsA b = bsA (a ++ b) := by
  have h : (bsA a ++ bsA b).data = (bsA (a ++ b)).data := by rw [ByteArray.data_append]; simp
  cases hx : bsA a ++ bsA b with
  | mk d => rw [hx] at h; simp only at h; rw [h]
def quadOf (a : Int) : Quad := ⟨(a / 16777216).toNat, (a / 65536 % 256).toNat, (a / 256 % 256).toNat, (a % 256).toNat⟩
theorem quad_ok {a : Int} (h0 : 0 ≤ a) (h1 : a ≤ 4294967295) : (quadOf a).ok ∧ (quadOf a).addr = a := by
  unfold quadOf Quad.ok Quad.addr
  dsimp only
  refine ⟨⟨by omega, by omega, by omega, by omega⟩, ?_⟩
  rw [Int.toNat_of_nonneg (by omega), Int.toNat_of_nonneg (by omega), Int.toNat_of_nonneg (by omega), Int.toNat_of_nonneg (by omega)]
  omega
theorem xor_i64 (a b : Nat) (ha : a < 4294967296) (hb : b < 4294967296) : bits .xor .i64 (a : Int) (b : Int) = ((a ^^^ b : Nat) : Int) := by
  have hx : a ^^^ b < 2 ^ 32 := Nat.xor_lt_two_pow (by omega) (by omega)
  have h1 : (BitVec.ofInt 64 (a : Int)).toNat = a := by
    rw [BitVec.ofInt_natCast, BitVec.toNat_ofNat]; exact Nat.mod_eq_of_lt (by omega)
  have h2 : (BitVec.ofInt 64 (b : Int)).toNat = b := by
    rw [BitVec.ofInt_natCast, BitVec.toNat_ofNat]; exact Nat.mod_eq_of_lt (by omega)
  show IntKind.i64.wrap ((BitVec.ofInt 64 (a : Int) ^^^ BitVec.ofInt 64 (b : Int)).toNat : Int) = _
  rw [BitVec.toNat_xor, h1, h2, IntKind.wrap_i64]
  omega
theorem xor_div {a b : Int} (s : Nat) (a0 : 0 ≤ a) (a1 : a ≤ 4294967295) (b0 : 0 ≤ b) (b1 : b ≤ 4294967295) : (bits .xor .i64 a b / 2 ^ s == 0) = decide (a / 2 ^ s = b / 2 ^ s) := by
  obtain ⟨x, rfl⟩ := Int.eq_ofNat_of_zero_le a0
  obtain ⟨y, rfl⟩ := Int.eq_ofNat_of_zero_le b0
  rw [xor_i64 x y (by omega) (by omega)]
  have e : ∀ n : Nat, ((n : Int) / 2 ^ s) = ((n / 2 ^ s : Nat) : Int) := fun n => by rw [Int.natCast_ediv]; simp
  rw [e, e, e, ← Nat.shiftRight_eq_div_pow, ← Nat.shiftRight_eq_div_pow, ← Nat.shiftRight_eq_div_pow, Nat.shiftRight_xor_distrib]
  generalize x >>> s = u
  generalize y >>> s = v
  rw [Bool.eq_iff_iff]
  simp only [beq_iff_eq, decide_eq_true_eq]
  constructor
  · intro h
    have h' : u ^^^ v = 0 := by omega
    have h2 : u ^^^ (u ^^^ v) = v := by rw [← Nat.xor_assoc, Nat.xor_self, Nat.zero_xor]
    rw [← h2, h', Nat.xor_zero]
  · intro h
    have h' : u = v := by omega
    rw [h', Nat.xor_self]; rfl
/-- what Ranged asks of a net -/
def wantP (pa pl lo hi a l : Int) : Bool := decide (lo ≤ l) && (decide (l ≤ hi) && decide (a / 2 ^ (32 - pl).toNat = pa / 2 ^ (32 - pl).toNat))
theorem span_want {pa pl lo hi a l : Int} (h : pl ≤ lo) (a0 : 0 ≤ a) (a1 : a ≤ 4294967295) (b0 : 0 ≤ pa) (b1 : pa ≤ 4294967295) : spanM pa pl lo hi a l = wantP pa pl lo hi a l := by
  unfold spanM wantP withinM
  rw [xor_div _ a0 a1 b0 b1]
  by_cases h1 : lo ≤ l
  · rw [decide_eq_true h1, decide_eq_true (show pl ≤ l by omega)]; simp
  · rw [decide_eq_false h1]; simp
theorem span_one {a l : Int} (hn : netOk (a, l)) : spanM 167772160 8 8 8 a l = (decide (l = 8) && decide (a = 167772160)) := by
  obtain ⟨⟨a0, a1⟩, ⟨l0, l1⟩, hm⟩ := hn
  rw [span_want (by omega) a0 a1 (by omega) (by omega)]
  unfold wantP
  by_cases h : l = 8
  · subst h
    have hm' : a % 16777216 = 0 := hm
    rw [Bool.eq_iff_iff]
    simp only [Bool.and_eq_true, decide_eq_true_eq]
    have e : (2 : Int) ^ (32 - 8 : Int).toNat = 16777216 := by decide
    rw [e]
    dsimp only at a0 a1
    constructor
    · rintro ⟨_, _, h⟩
      refine ⟨by trivial, ?_⟩
      omega
    · rintro ⟨_, h⟩
      refine ⟨by decide, by decide, ?_⟩
      rw [h]
  · rw [decide_eq_false h]
    by_cases h1 : 8 ≤ l
    · rw [decide_eq_false (show ¬ l ≤ 8 by omega)]; simp
    · rw [decide_eq_false h1]; simp
def yR (a l : Int) : Rt := ⟨a, l, [], [], 0, 0⟩
theorem ranged_runM (U : SetM) (a l : Int) : (runM (rangedMs U) (yR a l)).2 = if U a l then 1 else 2 := by
  unfold runM rangedMs performM performM chooseM netInM concludeM yR
  dsimp only
  cases h : U a l <;> simp [performM]
set_option maxRecDepth 100000 in
set_option maxHeartbeats 2000000 in
theorem taken_any {w1 : World} {A : Nat → Prop} {pp : Nat} {U : SetM} (hl : Lasts w1 A (PolC pp (rangedMs U))) (W : World) (hW : Below w1.heap.size w1 W) (a l : Int) (hn : netOk (a, l)) :
    Calls Tryz.prog 25 #[ptr4 pp 0, rtV (yR a l) (.slice none 0 0) (.slice none 0 0)] W fun e w' => e = .returned (.bool (U a l)) ∧ Below W.heap.size W w' := by
  have hok : rtOk (yR a l) = true := decide_eq_true ⟨hn, (by decide : pathOk []), (by decide : marksOk []), ⟨by show (0 : Int) ≤ 0; omega, by show (0 : Int) ≤ 4294967295; omega⟩, ⟨by show (0 : Int) ≤ 0; omega, by show (0 : Int) ≤ 4294967295; omega⟩⟩
  obtain ⟨⟨a0, a1⟩, ⟨l0, l1⟩, _⟩ := hn
  have HC := hide (fun (W' : World) (h : Below W.heap.size W W') => run_ok hl W' (hW.trans (h.mono hW.size)) (yR a l) (.slice none 0 0) (.slice none 0 0) (ints_none _) (ints_none _) (by simp only at a0 a1; unfold inI yR; dsimp only; omega) (by simp only at l0 l1; unfold inI yR; dsimp only; omega) (by simp [yR]) (by simp [yR]) hok)
  have hv := ranged_runM U a l
  have HA := hide ((Below.refl W.heap.size W).alloc (Nat.le_refl _) (rtBlk (yR a l) (.slice none 0 0) (.slice none 0 0)))
  clear hl hW hok
  generalize runM (rangedMs U) (yR a l) = R at *
  obtain ⟨r1, v⟩ := R
  dsimp only at hv
  have hv' : (v = 1 ∧ U a l = true) ∨ (v = 2 ∧ U a l = false) := by
    cases h : U a l
    · rw [h] at hv; exact Or.inr ⟨hv, rfl⟩
    · rw [h] at hv; exact Or.inl ⟨hv, rfl⟩
  clear hv
  generalize U a l = B at *
  unfold yR
  rcases hv' with ⟨rfl, rfl⟩ | ⟨rfl, rfl⟩
  · go_enter Tryz.func25, Tryz.ntmps25
    go_wp2_with (go_at_call 14; refine ((unhide HC) _ (unhide HA)).mono ?_; clear HC; rintro e w2 ⟨pv', mv', rfl, hv2, hb2⟩; obtain ⟨fa, fc, rfl⟩ := owns_form' hv2.1; obtain ⟨ga, gc, rfl⟩ := owns_form' hv2.2.1; clear hv2; have HB2 := hide hb2; clear hb2)
    go_ret
    exact ⟨rfl, (unhide HA).trans (((unhide HB2).mono (unhide HA).size).alloc (by have := (unhide HA).size; have := (unhide HB2).size; omega) _)⟩
  · go_enter Tryz.func25, Tryz.ntmps25
    go_wp2_with (go_at_call 14; refine ((unhide HC) _ (unhide HA)).mono ?_; clear HC; rintro e w2 ⟨pv', mv', rfl, hv2, hb2⟩; obtain ⟨fa, fc, rfl⟩ := owns_form' hv2.1; obtain ⟨ga, gc, rfl⟩ := owns_form' hv2.2.1; clear hv2; have HB2 := hide hb2; clear hb2)
    go_ret
    exact ⟨rfl, (unhide HA).trans (((unhide HB2).mono (unhide HA).size).alloc (by have := (unhide HA).size; have := (unhide HB2).size; omega) _)⟩
/-! ## the ranges that are drawn -/
def loAt (L : List Int) (j : Nat) : Int := (netP (L.getD (3 * j) 0)).2 + pickP (L.getD (3 * j + 1) 0) (33 - (netP (L.getD (3 * j) 0)).2)
def hiAt (L : List Int) (j : Nat) : Int := loAt L j + pickP (L.getD (3 * j + 2) 0) (33 - loAt L j)
theorem at_bd (L : List Int) (j : Nat) : 0 ≤ (netP (L.getD (3 * j) 0)).2 ∧ (netP (L.getD (3 * j) 0)).2 ≤ loAt L j ∧ loAt L j ≤ hiAt L j ∧ hiAt L j ≤ 32 := by
  obtain ⟨_, ⟨l0, l1⟩, _⟩ := netP_ok (L.getD (3 * j) 0)
  have h1 := pickP_bd (c := L.getD (3 * j + 1) 0) (n := 33 - (netP (L.getD (3 * j) 0)).2) (by omega)
  have e1 : loAt L j = (netP (L.getD (3 * j) 0)).2 + pickP (L.getD (3 * j + 1) 0) (33 - (netP (L.getD (3 * j) 0)).2) := rfl
  have h2 := pickP_bd (c := L.getD (3 * j + 2) 0) (n := 33 - loAt L j) (by omega)
  have e2 : hiAt L j = loAt L j + pickP (L.getD (3 * j + 2) 0) (33 - loAt L j) := rfl
  exact ⟨l0, by omega, by omega, by omega⟩
def rgAt (L : List Int) (j : Nat) : Rg := ⟨quadOf (netP (L.getD (3 * j) 0)).1, (netP (L.getD (3 * j) 0)).2.toNat, (loAt L j).toNat, (hiAt L j).toNat⟩
theorem rgAt_ok (L : List Int) (j : Nat) : (rgAt L j).ok := by
  obtain ⟨h1, h2, h3, h4⟩ := at_bd L j
  obtain ⟨⟨a0, a1⟩, hl, hm⟩ := netP_ok (L.getD (3 * j) 0)
  obtain ⟨q1, q2⟩ := quad_ok a0 a1
  refine ⟨q1, by show (netP (L.getD (3 * j) 0)).2.toNat ≤ 32; omega, ?_, by show (netP (L.getD (3 * j) 0)).2.toNat ≤ (loAt L j).toNat; omega, by show (loAt L j).toNat ≤ (hiAt L j).toNat; omega, by show (hiAt L j).toNat ≤ 32; omega⟩
  show netOk ((quadOf (netP (L.getD (3 * j) 0)).1).addr, (((netP (L.getD (3 * j) 0)).2.toNat : Nat) : Int))
  rw [q2, Int.toNat_of_nonneg h1]
  exact ⟨⟨a0, a1⟩, hl, hm⟩
def wantAt (L : List Int) (a l : Int) (j : Nat) : Bool := wantP (netP (L.getD (3 * j) 0)).1 (netP (L.getD (3 * j) 0)).2 (loAt L j) (hiAt L j) a l
theorem rgAt_mean (L : List Int) (j : Nat) {a l : Int} (a0 : 0 ≤ a) (a1 : a ≤ 4294967295) : (rgAt L j).mean a l = wantAt L a l j := by
  obtain ⟨h1, h2, h3, h4⟩ := at_bd L j
  obtain ⟨⟨b0, b1⟩, _⟩ := netP_ok (L.getD (3 * j) 0)
  unfold Rg.mean rgAt wantAt
  dsimp only
  rw [(quad_ok b0 b1).2, Int.toNat_of_nonneg h1, Int.toNat_of_nonneg (by omega), Int.toNat_of_nonneg (by omega)]
  exact span_want h2 a0 a1 b0 b1
def rgs (L : List Int) (j : Nat) : List Rg := (List.range j).map (rgAt L)
theorem rgs_snoc (L : List Int) (j : Nat) : rgs L (j + 1) = rgs L j ++ [rgAt L j] := by unfold rgs; rw [List.range_succ]; simp
def wantTo (L : List Int) (a l : Int) (j : Nat) : Bool := (List.range j).any (wantAt L a l)
theorem wantTo_snoc (L : List Int) (a l : Int) (j : Nat) : wantTo L a l (j + 1) = (wantTo L a l j || wantAt L a l j) := by unfold wantTo; rw [List.range_succ]; simp
theorem rgs_union (L : List Int) (j : Nat) {a l : Int} (a0 : 0 ≤ a) (a1 : a ≤ 4294967295) : unionM ((rgs L j).map Rg.mean) a l = wantTo L a l j := by
  unfold unionM rgs wantTo
  rw [List.map_map, List.any_map]
  congr 1
  funext k
  exact rgAt_mean L k a0 a1
def rgBody : List Rg → List Pc
  | [] => []
  | r :: l => rgPc r ++ rgsPc l
def rgText (l : List Rg) : ByteArray := bsA (pcBytes (rgBody l))
theorem rgPc_bytes (r : Rg) : pcBytes (rgPc r) = pfxB r.q r.l ++ 32 :: (Lib.decDigits r.lo ++ 32 :: Lib.decDigits r.hi) := by
  show pfxB r.q r.l ++ 32 :: (Lib.decDigits r.lo ++ 32 :: (Lib.decDigits r.hi ++ [])) = _
  simp
theorem rgText_one (r : Rg) : ((((bsA [] ++ bsA (pfxB r.q r.l)) ++ bsA [32]) ++ bsA (Lib.decDigits r.lo)) ++ bsA [32]) ++ bsA (Lib.decDigits r.hi) = rgText [r] := by
  unfold rgText rgBody
  simp only [bsA_app]
  congr 1
  rw [pcBytes_append, rgPc_bytes]
  simp [rgsPc, pcBytes]
theorem rgText_snoc (x : Rg) (l : List Rg) (r : Rg) : (((((rgText (x :: l) ++ bsA [44, 32]) ++ bsA (pfxB r.q r.l)) ++ bsA [32]) ++ bsA (Lib.decDigits r.lo)) ++ bsA [32]) ++ bsA (Lib.decDigits r.hi) = rgText (x :: l ++ [r]) := by
  unfold rgText
  simp only [bsA_app]
  congr 1
  have e : rgBody (x :: l ++ [r]) = (rgPc x ++ rgsPc l) ++ (sPc 44 :: .sp :: rgPc r) := by
    show rgPc x ++ rgsPc (l ++ [r]) = _
    simp [rgsPc]
  rw [e, pcBytes_append (rgPc x ++ rgsPc l)]
  have e2 : pcBytes (sPc 44 :: .sp :: rgPc r) = [44, 32] ++ pcBytes (rgPc r) := rfl
  rw [e2, rgPc_bytes]
  show pcBytes (rgPc x ++ rgsPc l) ++ _ ++ _ ++ _ ++ _ ++ _ ++ _ = _
  simp
theorem rgText_len {l : List Rg} (h : ∀ r ∈ l, r.ok) : (rgText l).size ≤ 78 * l.length := by
  unfold rgText
  rw [bsA_size]
  match l, h with
  | [], _ => simp [rgBody, pcBytes]
  | r :: l, h =>
    have a := rg_len (h r List.mem_cons_self)
    have b := rgs_len (fun x hx => h x (List.mem_cons_of_mem _ hx))
    show (pcBytes (rgPc r ++ rgsPc l)).length ≤ _
    rw [pcBytes_append, List.length_append]
    simp only [List.length_cons]
    omega
theorem rgs_ok' (L : List Int) (j : Nat) : ∀ r ∈ rgs L j, r.ok := by
  intro r hr
  unfold rgs at hr
  obtain ⟨k, _, rfl⟩ := List.mem_map.mp hr
  exact rgAt_ok L k
theorem rgs_len' (L : List Int) (j : Nat) : (rgs L j).length = j := by unfold rgs; simp
theorem head_bytes : pcBytes headP = [115, 101, 116, 32, 115, 32, 61, 32, 123, 32] := by decide +kernel
theorem tail_bytes : pcBytes tailP = [32, 125, 59, 32, 105, 102, 32, 110, 101, 116, 32, 105, 110, 32, 115, 32, 116, 104, 101, 110, 32, 123, 32, 97, 99, 99, 101, 112, 116, 59, 32, 125] := by decide +kernel
/-- what the whole text says, whatever was drawn -/
theorem ranged_all (L : List Int) (j : Nat) (hj : j ≤ 5) : ∃ U : SetM, ReadOk ((bsA [115, 101, 116, 32, 115, 32, 61, 32, 123, 32] ++ (if j = 0 then bsA [49, 48, 46, 48, 46, 48, 46, 48, 47, 56] else rgText (rgs L j))) ++ bsA [32, 125, 59, 32, 105, 102, 32, 110, 101, 116, 32, 105, 110, 32, 115, 32, 116, 104, 101, 110, 32, 123, 32, 97, 99, 99, 101, 112, 116, 59, 32, 125]) (rangedMs U) ∧
    ∀ a l, netOk (a, l) → U a l = if j = 0 then (decide (l = 8) && decide (a = 167772160)) else wantTo L a l j := by
  match j, hj with
  | 0, _ =>
    refine ⟨unionM [spanM 167772160 8 8 8], ?_, fun a l hn => ?_⟩
    · have h := ranged_none
      have e : pcBytes oneR = pcBytes headP ++ (pfxB ⟨10, 0, 0, 0⟩ 8 ++ pcBytes tailP) := pcBytes_append headP _
      have e2 : pfxB ⟨10, 0, 0, 0⟩ 8 = [49, 48, 46, 48, 46, 48, 46, 48, 47, 56] := by decide +kernel
      rw [e, head_bytes, tail_bytes, e2] at h
      rw [if_pos rfl, bsA_app, bsA_app]
      exact h
    · rw [if_pos rfl, ← span_one hn]
      unfold unionM; simp
  | j + 1, hj =>
    have hl := rgs_len' L (j + 1)
    have ho := rgs_ok' L (j + 1)
    have hu := fun a l a0 a1 => rgs_union L (j + 1) (a := a) (l := l) a0 a1
    match h : rgs L (j + 1) with
    | [] => rw [h] at hl; simp at hl
    | r :: l =>
      rw [h] at hl ho hu
      refine ⟨unionM ((r :: l).map Rg.mean), ?_, fun a l hn => ?_⟩
      · have h := ranged_read r l ho (by simp at hl; omega)
        have e : pcBytes (allR r l) = pcBytes headP ++ (pcBytes (rgBody (r :: l)) ++ pcBytes tailP) := by
          rw [allR, pcBytes_append, ← List.append_assoc (rgPc r), pcBytes_append (rgPc r ++ rgsPc l)]; rfl
        rw [e, head_bytes, tail_bytes] at h
        rw [if_neg (by omega), rgText, bsA_app, bsA_app, List.append_assoc]
        exact h
      · rw [if_neg (by omega)]
        exact hu a l hn.1.1 hn.1.2
end Go.Proofs.YtlhhdklendeikaaGreatDoor

namespace Go.Proofs.YtlhhdklendeikaaGreatDoor
open Go.RowKit

/-- the table of powers, as Go's own text lays it -/
def PowTab (w : World) : Prop := Lib.TabIs Tryz.prog w (Rows.reckonedRow.named.getD 5 Rows.reckonedRow.func) .u64 Lib.pow10Tab
theorem PowTab.below {w w' : World} (h : PowTab w) (hb : Below w.heap.size w w') : PowTab w' := Lib.tabBelow_of_tabIs h w' hb
theorem itoa_any (u : Nat) (hu : u ≤ 4294967295) (w : World) (h : PowTab w) : Calls Tryz.prog 24 #[.int .i64 (u : Int)] w fun e w' => e = .returned (.string (bsA (Lib.decDigits u))) ∧ Below w.heap.size w w' := by
  refine (Any.strconv_Itoa Tryz.shItoa (u : Int) (by omega) (by omega) w h).mono ?_
  rintro e w' ⟨rfl, k, os, rfl⟩
  refine ⟨?_, Lib.below_grow _ _ (Nat.le_refl _) k os⟩
  rw [Lib.itoa, if_neg (by omega), Int.toNat_natCast]

end Go.Proofs.YtlhhdklendeikaaGreatDoor

namespace Go.Proofs.YtlhhdklendeikaaGreatDoor
open Go.RowKit
set_option maxHeartbeats 400000 in
theorem pick_any (c n : Int) (w : World) (h1 : -9223372036854775808 ≤ c) (h2 : c ≤ 9223372036854775807) (h3 : 0 < n) (h4 : n ≤ 4294967296) :
    Calls Tryz.prog 22 #[.int .i64 c, .int .i64 n] w fun e w' => e = .returned (.int .i64 (pickP c n)) ∧ w' = w := by
  have hz : (n == 0) = false := beq_eq_false_iff_ne.2 (by omega)
  by_cases hc : c < 0
  · have HP := hide (show pickP c n = -((c + 1).tmod n) by unfold pickP; rw [if_pos hc, ← Int.neg_tmod, Int.tmod_eq_emod_of_nonneg (by omega)])
    go_enter Tryz.func22, Tryz.ntmps22
    go_wp2
    all_goals (go_ret; exact ⟨rt_int (unhide HP).symm, rfl⟩)
  · have HP := hide (show pickP c n = c % n by unfold pickP; rw [if_neg hc])
    go_enter Tryz.func22, Tryz.ntmps22
    go_wp2
    all_goals (go_ret; exact ⟨rt_int (unhide HP).symm, rfl⟩)

set_option maxHeartbeats 400000 in
theorem sameNet_any (a b : Int × Int) (w : World) :
    Calls Tryz.prog 33 #[.agg #[.int .i64 a.1, .int .i64 a.2], .agg #[.int .i64 b.1, .int .i64 b.2]] w fun e w' => e = .returned (.bool (decide (a = b))) ∧ Below w.heap.size w w' := by
  obtain ⟨a1, a2⟩ := a
  obtain ⟨b1, b2⟩ := b
  simp only
  by_cases h1 : a1 = b1
  · have HP := hide (show decide ((a1, a2) = (b1, b2)) = (a2 == b2) by rw [Bool.eq_iff_iff]; simp [h1])
    have h1b : (a1 == b1) = true := beq_iff_eq.2 h1
    have H1 := hide h1
    clear h1
    go_enter Tryz.func33, Tryz.ntmps33
    go_wp2
    go_ret
    exact ⟨rt_bool (unhide HP).symm, by exact ((Below.refl _ _).alloc (Nat.le_refl _) _).alloc (by simp) _⟩
  · have HP := hide (show decide ((a1, a2) = (b1, b2)) = false by simp [h1])
    have h1b : (a1 == b1) = false := beq_eq_false_iff_ne.2 h1
    have H1 := hide h1
    clear h1
    go_enter Tryz.func33, Tryz.ntmps33
    go_wp2
    go_ret
    exact ⟨rt_bool (unhide HP).symm, by exact ((Below.refl _ _).alloc (Nat.le_refl _) _).alloc (by simp) _⟩

set_option maxHeartbeats 400000 in
theorem sameInts_any (a b : List Int) (x y : Value) (w : World) (ha : IntsAt w x a) (hb : IntsAt w y b) :
    Calls Tryz.prog 34 #[x, y] w fun e w' => e = .returned (.bool (decide (a = b))) ∧ Below w.heap.size w w' := by
  obtain ⟨p, c, rfl, hcap, hl, hin, hr⟩ := ha
  obtain ⟨q, d, rfl, hcap', hl', hin', hr'⟩ := hb
  by_cases hlen : a.length = b.length
  · have hne : ((a.length : Int) != (b.length : Int)) = false := by simp [hlen]
    have HL := hide hlen
    have hle : a.length ≤ b.length := by omega
    have hge : b.length ≤ a.length := by omega
    clear hlen hin hin'
    have HR := hide hr
    have HR' := hide hr'
    clear hr hr'
    go_enter Tryz.func34, Tryz.ntmps34
    go_wp2
    go_loopw [5] (fun i wr => ∃ k : Nat, k ≤ a.length ∧ a.take k = b.take k ∧ i = .int .i64 k ∧ Below w.heap.size w wr) (fun i _ => a.length - (intOf i).toNat)
    case atStart => exact ⟨0, Nat.zero_le _, rfl, rfl, Below.refl _ _⟩
    case round =>
      obtain ⟨k, hk, ht, rfl, hbl⟩ := hrel
      have HT := hide ht
      have HB := hide hbl
      clear ht hbl
      by_cases hlt : k < a.length
      · have hlt' : k < b.length := by omega
        rcases unhide HR with h | ⟨ba, oa, rfl, hba, hca⟩
        · rw [h.1] at hlt; simp at hlt
        rcases unhide HR' with h | ⟨bb, ob, rfl, hbb, hcb⟩
        · rw [h.1] at hlt'; simp at hlt'
        have c1 := ((unhide HB).cell (p := ⟨ba, oa + k, none⟩) hba).trans (hca k hlt)
        have c2 := ((unhide HB).cell (p := ⟨bb, ob + k, none⟩) hbb).trans (hcb k hlt')
        clear hca hcb
        cases he : (a[k] != b[k]) with
        | true =>
          have HN := hide (show decide (a = b) = false from by
            have h1 : a[k] ≠ b[k] := by simpa using he
            simp only [decide_eq_false_iff_not]
            intro h; subst h; exact h1 rfl)
          go_wp2_with fail
          go_quiet ((fail))
          go_wp2
          go_ret
          exact ⟨rt_bool (unhide HN).symm, by exact below_drewN (unhide HB) _⟩
        | false =>
          have HT2 := hide (take_succ_eq (unhide HT) hlt hlt' (by simpa using he))
          go_wp2_with fail
          go_quiet ((fail))
          go_wp2
          go_roundw
          case rel => exact ⟨k + 1, by omega, unhide HT2, by go_num, below_drewN (unhide HB) _⟩
          case measure => simp [intOf]; omega
      · go_wp2
        go_ret
        have hh := take_all_eq (unhide HT) (by omega) (by omega)
        exact ⟨rt_bool (by simp [hh]), unhide HB⟩
  · have hne : ((a.length : Int) != (b.length : Int)) = true := by rw [bne_iff_ne]; omega
    have HN := hide (show decide (a = b) = false from by simp; intro h; exact hlen (by rw [h]))
    clear hlen hin hin' hr hr'
    go_enter Tryz.func34, Tryz.ntmps34
    go_wp2
    go_ret
    exact ⟨rt_bool (unhide HN).symm, Below.refl _ _⟩

end Go.Proofs.YtlhhdklendeikaaGreatDoor

namespace Go.Proofs.YtlhhdklendeikaaGreatDoor
open Go.RowKit
set_option maxHeartbeats 400000 in
theorem at_any (l : List Int) (i : Nat) (v : Value) (w : World) (_hi : i ≤ 1000) (h : IntsAt w v l) :
    Calls Tryz.prog 28 #[v, .int .i64 i] w fun e w' => e = .returned (.int .i64 (atP l i)) ∧ w' = w := by
  obtain ⟨p, c, rfl, hcap, hl, hin, hr⟩ := h
  by_cases hlt : i < l.length
  · have HP := hide (show atP l i = l[i] by unfold atP; rw [List.getElem?_eq_getElem hlt]; rfl)
    rcases hr with ⟨rfl, _⟩ | ⟨b, o, rfl, hb, hc⟩
    · simp at hlt
    · have hck := hc i hlt
      clear hc hin
      go_enter Tryz.func28, Tryz.ntmps28
      go_wp2
      all_goals (go_ret; exact ⟨rt_int (unhide HP).symm, rfl⟩)
  · have HP := hide (show atP l i = 0 by unfold atP; rw [List.getElem?_eq_none (by omega)]; rfl)
    clear hr hin
    go_enter Tryz.func28, Tryz.ntmps28
    go_wp2
    all_goals (go_ret; exact ⟨rt_int (unhide HP).symm, rfl⟩)

end Go.Proofs.YtlhhdklendeikaaGreatDoor
