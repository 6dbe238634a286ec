/- known (package bywaykeep): it answers true. -/
import Derived.Test.YtlhhdklendeikaaGreatDoorKnA
import Derived.Test.YtlhhdklendeikaaGreatDoorRunI
namespace Go.Proofs.YtlhhdklendeikaaGreatDoor
open Go.RowKit

theorem run_ok {w1 : World} {A : Nat → Prop} {pp : Nat} {ms : List StpM} (hl : Lasts w1 A (PolC pp ms)) (W : World) (hW : Below w1.heap.size w1 W) (r : Rt) (pv mv : Value) (hp : IntsAt W pv r.path) (hm : IntsAt W mv r.marks) (i1 : inI r.addr) (i2 : inI r.len) (n1 : r.path.length ≤ 12) (n2 : r.marks.length ≤ 8) (hok : rtOk r = true) :
    Calls Tryz.prog 14 #[ptr4 pp 0, rtV r pv mv] W fun e w' => ∃ pv' mv', e = .returned (.tuple #[rtV (runM ms r).1 pv' mv', .int .i64 (runM ms r).2, .int .i64 0]) ∧ RtVal w' W.heap.size (runM ms r).1 pv' mv' ∧ Below W.heap.size W w' := by
  obtain ⟨K, hK, hQ⟩ := hl
  exact brun_any w1 K pp ms (fun k hk => (hK k hk).1) hQ W hW.size (fun k hk => hW.block k (hK k hk).1) r pv mv hp hm i1 i2 n1 n2 hok
theorem ints_one {W : World} {b : Nat} {x : Int} (h : W.cell? ⟨b, 0, none⟩ = some (.int .i64 x)) (hx : inI x) : IntsAt W (.slice (some ⟨b, 0, none⟩) 1 1) [x] := by
  refine ⟨some ⟨b, 0, none⟩, 1, rfl, by simp, by simp, fun y hy => ?_, Or.inr ⟨b, 0, rfl, cell_lt h, fun j hj => ?_⟩⟩
  · rcases List.mem_singleton.mp hy with rfl; exact hx
  · obtain rfl : j = 0 := by simpa using hj
    exact h
theorem ints_none (W : World) : IntsAt W (.slice none 0 0) [] := IntsAt.nil W 0 (l := []) (by simp)
/-- cells of a row that is owned -/
theorem owns_cells {W : World} {a : Option Addr} {n c : Nat} {l : List Int} (h : W.ownsRow 0 3 1 (.slice a n c) l.length (intCells l)) (hl : l ≠ []) : ∃ g, a = some ⟨g, 0, none⟩ ∧ n = l.length ∧ g < W.heap.size ∧ ∀ j x, l[j]? = some x → W.cell? ⟨g, j, none⟩ = some (.int .i64 x) := by
  rcases h.2 with ⟨_, h0⟩ | ⟨g, cap, cur, hv, _, hg, hnc, _, hcs, htk⟩
  · exact absurd (List.length_eq_zero_iff.mp h0) hl
  · injection hv with h1 h2 h3
    refine ⟨g, h1, h2, heap_lt hg, fun j x hx => ?_⟩
    rw [cell_of_heap hg]
    have hj : j < l.length := (List.getElem?_eq_some_iff.mp hx).1
    have : (cur.toList.take (l.length * 1))[j]? = some (.int .i64 x) := by rw [htk]; simp [intCells, hx]
    rw [List.getElem?_take, if_pos (by omega)] at this
    simpa using this
def kr (p : Int) : Rt := ⟨167772160, 8, [3], [], p, 0⟩
def krA : Rt := ⟨167772160, 8, [7, 3], [], 100, 0⟩
abbrev kW (w1 : World) : World := (w1.alloc (.cells #[.int .i64 3] 3)).alloc (rtBlk (kr 100) (.slice (some ⟨w1.heap.size, 0, none⟩) 1 1) (.slice none 0 0))
theorem kr_run (p : Int) {w1 : World} {A : Nat → Prop} {pp : Nat} (hl : Lasts w1 A (PolC pp knownMs)) (W : World) (hW : Below w1.heap.size w1 W) (hc : W.cell? ⟨w1.heap.size, 0, none⟩ = some (.int .i64 3)) (hok : rtOk (kr p) = true) {r' : Rt} {v : Int} (hr : runM knownMs (kr p) = (r', v)) :
    Calls Tryz.prog 14 #[ptr4 pp 0, rtV (kr p) (.slice (some ⟨w1.heap.size, 0, none⟩) 1 1) (.slice none 0 0)] W fun e w' => ∃ pv' mv', e = .returned (.tuple #[rtV r' pv' mv', .int .i64 v, .int .i64 0]) ∧ RtVal w' W.heap.size r' pv' mv' ∧ Below W.heap.size W w' := by
  have h := run_ok hl W hW (kr p) (.slice (some ⟨w1.heap.size, 0, none⟩) 1 1) (.slice none 0 0) (ints_one hc (by unfold inI; omega)) (ints_none _) (by unfold inI kr; simp) (by unfold inI kr; simp) (by simp [kr]) (by simp [kr]) hok
  rw [hr] at h; exact h
theorem kr_run1 : runM knownMs (kr 100) = (krA, 1) := rfl
theorem kr_run2 : runM knownMs (kr 99) = (rt0, 2) := rfl
abbrev kX (w1 w2 : World) (blk : Obj) : World := (w2.setCell ⟨w1.heap.size + 1, 4, none⟩ (.int .i64 99)).alloc blk
theorem kn_mem {w1 w2 : World} {f1 f3 : Option Addr} {f2 f4 : Nat} (hb2 : Below (kW w1).heap.size (kW w1) w2) (hv2 : RtVal w2 (kW w1).heap.size krA (.slice f1 2 f2) (.slice f3 0 f4)) (blk : Obj) :
    Below w1.heap.size w1 (kX w1 w2 blk) ∧ (kX w1 w2 blk).cell? ⟨w1.heap.size, 0, none⟩ = some (.int .i64 3) ∧ (kX w1 w2 blk).heap[w2.heap.size]? = some blk ∧ (kX w1 w2 blk).heap.size = w2.heap.size + 1 ∧
    ∃ g, f1 = some ⟨g, 0, none⟩ ∧ g < w2.heap.size ∧ (kX w1 w2 blk).cell? ⟨g, 0, none⟩ = some (.int .i64 7) ∧ (kX w1 w2 blk).cell? ⟨g, 1, none⟩ = some (.int .i64 3) := by
  obtain ⟨n1, n2, sz⟩ := two_new w1 (.cells #[.int .i64 3] 3) (rtBlk (kr 100) (.slice (some ⟨w1.heap.size, 0, none⟩) 1 1) (.slice none 0 0))
  have hkw : (kW w1).heap.size = w1.heap.size + 2 := sz
  have hs2 := hb2.size
  have hB1 : Below w1.heap.size w1 (kW w1) := ((Below.refl _ _).alloc (Nat.le_refl _) _).alloc (by simp) _
  have hss : (w2.setCell ⟨w1.heap.size + 1, 4, none⟩ (.int .i64 99)).heap.size = w2.heap.size := by simp [World.setCell]
  have hkeep : ∀ k, k < w2.heap.size → k ≠ w1.heap.size + 1 → (kX w1 w2 blk).heap[k]? = w2.heap[k]? := fun k hk hne => by
    rw [Below.heap_alloc _ _ _ (by rw [hss]; exact hk), heap_set_other hne]
  obtain ⟨g, hg, _, hgl, hgc⟩ := owns_cells (l := krA.path) hv2.1 (by simp [krA])
  have hgn : (kW w1).heap.size ≤ g := hv2.2.2.1 g (by rw [hg]; rfl)
  refine ⟨((hB1.trans (hb2.mono (by omega))).setCell (p := ⟨w1.heap.size + 1, 4, none⟩) (by simp) _).alloc (by rw [hss]; omega) _, ?_, ?_, by rw [World.size_alloc, hss], g, hg, hgl, ?_, ?_⟩
  · have h1 : (kX w1 w2 blk).heap[w1.heap.size]? = some (.cells #[.int .i64 3] 3 (0, 0)) := (hkeep _ (by omega) (by omega)).trans ((hb2.block _ (by omega)).trans n1)
    exact cell_of_heap h1
  · have := heap_alloc_new (w2.setCell ⟨w1.heap.size + 1, 4, none⟩ (.int .i64 99)) blk
    rw [hss] at this; exact this
  · exact (World.cell?_of_block (a := ⟨g, 0, none⟩) (hkeep g hgl (by omega))).trans (hgc 0 7 rfl)
  · exact (World.cell?_of_block (a := ⟨g, 1, none⟩) (hkeep g hgl (by omega))).trans (hgc 1 3 rfl)
set_option maxRecDepth 100000 in
set_option maxHeartbeats 2000000 in
theorem known_any (w : World) (ht : TokTabs w) : Calls Tryz.prog 9 #[] w fun e w' => e = .returned (.bool true) ∧ Below w.heap.size w w' := by
  have HC := hide (compiled_ok known_read w ht)
  rw [known_bytes] at HC
  clear ht
  go_enter Tryz.func9, Tryz.ntmps9
  go_wp2_with (first
    | (go_at_call 10; refine (unhide HC).mono ?_; rintro e w1 ⟨pp, rfl, hb, hl⟩; have HB := hide hb; have HL := hide hl; clear hb hl HC; have HN := hide (two_new w1 (.cells #[.int .i64 3] 3) (rtBlk (kr 100) (.slice (some ⟨w1.heap.size, 0, none⟩) 1 1) (.slice none 0 0))); have HB1 := hide (((Below.refl w1.heap.size w1).alloc (Nat.le_refl _) (.cells #[.int .i64 3] 3)).alloc (by simp) (rtBlk (kr 100) (.slice (some ⟨w1.heap.size, 0, none⟩) 1 1) (.slice none 0 0))); have HR := hide (kr_run 100 (unhide HL) (kW w1) (unhide HB1) (cell_of_heap (unhide HN).1) (by decide +kernel) kr_run1))
    | (go_at_call 14; refine (unhide HR).mono ?_; clear HR; rintro e w2 ⟨pv2, mv2, rfl, hv2, hb2⟩; obtain ⟨f1, f2, hf1⟩ := owns_form' hv2.1; obtain ⟨f3, f4, hf3⟩ := owns_form' hv2.2.1; change pv2 = .slice f1 2 f2 at hf1; change mv2 = .slice f3 0 f4 at hf3; obtain ⟨g0, g1, g2, g3, g4, g5, gz⟩ := rt6 ((hb2.block (w1.heap.size + 1) (by simp)).trans (unhide HN).2.1); change w2.cell? _ = some (.int .i64 167772160) at g0; change w2.cell? _ = some (.int .i64 8) at g1; change w2.cell? _ = some (.int .i64 100) at g4; change w2.cell? _ = some (.int .i64 0) at g5; have lx : w1.heap.size + 1 < w2.heap.size := (by have := hb2.size; simp at this; omega); unfold rtV krA; dsimp only; subst hf1 hf3; have HM := hide (kn_mem hb2 hv2 (.cells #[.int .i64 167772160, .int .i64 8, .slice f1 2 f2, .slice f3 0 f4, .int .i64 100, .int .i64 0] 32)); have HB2 := hide hb2; clear hv2 hb2; have HR2 := hide (kr_run 99 (unhide HL) _ (unhide HM).1 (unhide HM).2.1 (by decide +kernel) kr_run2); have hal := (bcell' ((Below.refl w2.heap.size w2).alloc (Nat.le_refl _) (.cells #[.int .i64 167772160, .int .i64 8, .slice f1 2 f2, .slice f3 0 f4, .int .i64 100, .int .i64 0] 32))).1; have hal2 := (bcell' ((Below.refl w2.heap.size w2).alloc (Nat.le_refl _) (.cells #[.int .i64 167772160, .int .i64 8, .slice f1 2 f2, .slice f3 0 f4, .int .i64 100, .int .i64 0] 32))).2; have s0' := (hal _ 0 lx).trans g0; have s1' := (hal _ 1 lx).trans g1; have s2' := (hal _ 2 lx).trans g2; have s3' := (hal _ 3 lx).trans g3; have s4' := (hal _ 4 lx).trans g4; have s5' := (hal _ 5 lx).trans g5; have sz' := (hal2 _ 4 lx).trans (gz 4); clear hal hal2)
    | (go_at_call 14; refine (unhide HR2).mono ?_; rintro e w3 ⟨pv3, mv3, rfl, hv3, hb3⟩; obtain ⟨f5, f6, hf5⟩ := owns_form' hv3.1; obtain ⟨f7, f8, hf7⟩ := owns_form' hv3.2.1; change pv3 = .slice f5 0 f6 at hf5; change mv3 = .slice f7 0 f8 at hf7; obtain ⟨_, _, m3, m4, g, hg, hgl, m5, m6⟩ := unhide HM; have a2 : w3.cell? ⟨w2.heap.size, 2, none⟩ = some (.slice f1 2 f2) := cell_of_heap ((hb3.block _ (by rw [m4]; omega)).trans m3); have p0 := (hb3.cell (p := ⟨g, 0, none⟩) (by show g < _; rw [m4]; omega)).trans m5; have p1 := (hb3.cell (p := ⟨g, 1, none⟩) (by show g < _; rw [m4]; omega)).trans m6; have l3 : w2.heap.size < w3.heap.size := (by have := hb3.size; rw [m4] at this; omega); have lg : g < w3.heap.size := (by omega); have HB3 := hide hb3; clear m3 m4 m5 m6 hv3 hb3 hgl s0' s1' s2' s3' s4' s5' sz' g0 g1 g2 g3 g4 g5 gz; unfold rtV rt0; dsimp only; subst hf5 hf7 hg; have hal := (bcell' ((Below.refl w3.heap.size w3).alloc (Nat.le_refl _) (.cells #[.int .i64 0, .int .i64 0, .slice f5 0 f6, .slice f7 0 f8, .int .i64 0, .int .i64 0] 32))).1; have t2 := (hal _ 2 l3).trans a2; have t3 := (hal _ 0 lg).trans p0; have t4 := (hal _ 1 lg).trans p1; clear hal))
  go_ret
  have hB := (unhide HB).trans ((unhide HM).1.mono (unhide HB).size)
  have h1 := (unhide HB).size
  exact ⟨rfl, ((hB.trans ((unhide HB3).mono hB.size)).alloc (by omega) _)⟩
end Go.Proofs.YtlhhdklendeikaaGreatDoor
