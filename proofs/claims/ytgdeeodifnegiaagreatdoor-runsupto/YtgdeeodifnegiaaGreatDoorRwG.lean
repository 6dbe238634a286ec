/- The statement's own call (package bywaylaw): Runs; its argument, of a bulk of at most 1048576, opened. -/
import Derived.Test.YtgdeeodifnegiaaGreatDoorRwF
import Derived.Test.YtgdeeodifnegiaaGreatDoorLwD
namespace Go.Proofs.YtgdeeodifnegiaaGreatDoor
open Go.ChangeShapes Go.WideShapes Go.ChangeAt Go.RowKit Go.Deep

theorem OpQ.below {W V : World} {cs : List Value} {k : Int} (h : OpQ W cs k) (hb : Below W.heap.size W V) : OpQ V cs k := by
  obtain ⟨a, S, R, pv, mv, h1, h2, h3⟩ := h
  exact ⟨a, S, R, pv, mv, h1, h2.below hb, h3⟩
theorem script_up {W V : World} {v : Value} {S : List (List Value)} (h : ScriptG W v S (OpQ W)) (hb : Below W.heap.size W V) : ScriptG V v S (OpQ V) := by
  obtain ⟨p, c, rfl, h1, h2, h3, h4⟩ := h
  refine ⟨p, c, rfl, h1, h2, fun cs hcs => ?_, h4.imp id ?_⟩
  · obtain ⟨k, hk⟩ := h3 cs hcs
    exact ⟨k, hk.below hb⟩
  · rintro ⟨b, f, rfl, hl, hc⟩
    exact ⟨b, f, rfl, Nat.lt_of_lt_of_le hl hb.size, fun j hj i v hv => (hb.cell (p := ⟨b, f + j * 18 + i, none⟩) hl).trans (hc j hj i v hv)⟩
def runL (g : Nat) : List Value := [.int .i64 3, .int .i64 0, .int .i64 0, .string ⟨#[]⟩, .int .i64 0, .int .i64 0, .slice (some ⟨g, 0, none⟩) 1 1, .slice none 0 0, .int .i64 100, .int .i64 0, .slice none 0 0, .slice none 0 0, .slice none 0 0, .slice none 0 0, .int .i64 0, .int .i64 0, .slice none 0 0, .slice none 0 0]
theorem ints_nil (W : World) : IntsAt W (.slice none 0 0) [] := ⟨none, 0, rfl, by simp, by simp, fun x hx => by simp at hx, Or.inl ⟨rfl, fun _ => rfl⟩⟩
theorem taken_q (W : World) : OpQ W takenL 1 :=
  ⟨0, takenS, ⟨0, 0, [], [], 0, 0⟩, _, _, takenL_ok, ⟨rfl, rfl, rfl, rfl, rfl, rfl, rfl, ints_nil W, ints_nil W, ⟨by decide, by decide⟩, ⟨by decide, by decide⟩, ⟨by decide, by decide⟩, ⟨by decide, by decide⟩, by simp, by simp⟩, rfl, by decide, by decide⟩
theorem run_q {W : World} {g : Nat} (hg : W.heap[g]? = some (.cells #[.int .i64 3] 3 (0, 0))) : OpQ W (runL g) 3 := by
  have hi : IntsAt W (.slice (some ⟨g, 0, none⟩) 1 1) [3] := ⟨_, 1, rfl, by simp, by simp, fun x hx => by simp at hx; subst hx; exact ⟨by decide, by decide⟩, Or.inr ⟨g, 0, rfl, heap_lt hg, fun j hj => by
    have : j = 0 := by simp at hj; omega
    subst this
    exact cell_of_heap hg⟩⟩
  exact ⟨0, ⟨#[]⟩, ⟨0, 0, [3], [], 100, 0⟩, _, _, ⟨rfl, rfl, rfl⟩, ⟨rfl, rfl, rfl, rfl, rfl, rfl, rfl, hi, ints_nil W, ⟨by decide, by decide⟩, ⟨by decide, by decide⟩, ⟨by decide, by decide⟩, ⟨by decide, by decide⟩, by simp, by simp⟩, rfl, by decide, by decide⟩
theorem two_rangeR {w : World} {g t : Nat} {fr : Nat × Nat} {a b : List Value} (ha : a.length = 18) (h : w.heap[g]? = some (.cells (a ++ b).toArray t fr)) : ∀ j, (hj : j < [a, b].length) → w.rangeAt g (j * 18) [a, b][j] := fun j hj i v hv => by
  have hc : w.cell? ⟨g, j * 18 + i, none⟩ = (a ++ b)[j * 18 + i]? := by rw [cell_of_heap h]; simp
  rw [hc]
  rcases (show j = 0 ∨ j = 1 by simp at hj; omega) with rfl | rfl
  · have hv' : a[i]? = some v := hv
    rw [List.getElem?_append_left (by have := (List.getElem?_eq_some_iff.1 hv').1; omega), Nat.zero_mul, Nat.zero_add]; exact hv'
  · have hv' : b[i]? = some v := hv
    rw [List.getElem?_append_right (by omega), show 1 * 18 + i - a.length = i by omega]; exact hv'
abbrev tkR : Array Value := #[.int .i64 1, .int .i64 0, .int .i64 0, .string takenS, .int .i64 0, .int .i64 0, .slice none 0 0, .slice none 0 0, .int .i64 0, .int .i64 0, .slice none 0 0, .slice none 0 0, .slice none 0 0, .slice none 0 0, .int .i64 0, .int .i64 0, .slice none 0 0, .slice none 0 0]
abbrev opsR (g : Nat) : Array Value := #[.int .i64 1, .int .i64 0, .int .i64 0, .string takenS, .int .i64 0, .int .i64 0, .slice none 0 0, .slice none 0 0, .int .i64 0, .int .i64 0, .slice none 0 0, .slice none 0 0, .slice none 0 0, .slice none 0 0, .int .i64 0, .int .i64 0, .slice none 0 0, .slice none 0 0, .int .i64 3, .int .i64 0, .int .i64 0, .string ⟨#[]⟩, .int .i64 0, .int .i64 0, .slice (some ⟨g, 0, none⟩) 1 1, .slice none 0 0, .int .i64 100, .int .i64 0, .slice none 0 0, .slice none 0 0, .slice none 0 0, .slice none 0 0, .int .i64 0, .int .i64 0, .slice none 0 0, .slice none 0 0]
/-- the script is played, wherever the steps ahead lie -/
theorem plays_at {W V : World} {vs : Value} {S : List (List Value)} {ga kb g : Nat} (ht : TokTabs W) (hS : ScriptG W vs S (OpQ W)) (hl : S.length ≤ 1048576) (hb : Below W.heap.size W V) (h1 : V.heap[ga]? = some (.cells (opsR g) 33 (0, 0))) (h2 : V.heap[kb]? = some (.cells #[.int .i64 1, .int .i64 3] 3 (0, 0))) (h3 : V.heap[g]? = some (.cells #[.int .i64 3] 3 (0, 0))) :
    Calls Tryz.prog 6 #[.slice (some ⟨ga, 0, none⟩) 2 2, vs, .slice (some ⟨kb, 0, none⟩) 2 2] V fun e W' => e = .returned (.bool true) ∧ Below W.heap.size W W' := by
  refine (plays2 V (OpQ V) _ 1 3 8000000 (play_runs V (ht.below hb)) [takenL, runL g] S vs ga kb rfl (heap_lt h1) (two_rangeR rfl h1) ?_ (script_up hS hb) (by omega) h2).mono ?_
  · intro cs hcs
    rcases List.mem_cons.1 hcs with rfl | hcs
    · exact ⟨1, taken_q V, Or.inl rfl⟩
    · rw [List.mem_singleton.1 hcs]
      exact ⟨3, run_q h3, Or.inr rfl⟩
  · rintro e w ⟨rfl, h⟩
    exact ⟨rfl, hb.trans (h.mono hb.size)⟩
theorem plays_a {W w : World} {vs : Value} {S : List (List Value)} (g : Nat) (ht : TokTabs W) (hS : ScriptG W vs S (OpQ W)) (hl : S.length ≤ 1048576) (hb : Below W.heap.size W w) (h3 : w.heap[g]? = some (.cells #[.int .i64 3] 3 (0, 0))) :
    Calls Tryz.prog 6 #[.slice (some ⟨w.heap.size, 0, none⟩) 2 2, vs, .slice (some ⟨w.heap.size + 1, 0, none⟩) 2 2] ((w.alloc (.cells (opsR g) 33)).alloc (.cells #[.int .i64 1, .int .i64 3] 3)) fun e W' => e = .returned (.bool true) ∧ Below W.heap.size W W' := by
  have h := heap_twoL w (.cells (opsR g) 33) (.cells #[.int .i64 1, .int .i64 3] 3)
  have b := below_twoL w (.cells (opsR g) 33) (.cells #[.int .i64 1, .int .i64 3] 3)
  exact plays_at ht hS hl (hb.trans (b.mono hb.size)) h.1 h.2 ((b.block g (heap_lt h3)).trans h3)
theorem plays_b {W w : World} {vs : Value} {S : List (List Value)} (g : Nat) (ht : TokTabs W) (hS : ScriptG W vs S (OpQ W)) (hl : S.length ≤ 1048576) (hb : Below W.heap.size W w) (h3 : w.heap[g]? = some (.cells #[.int .i64 3] 3 (0, 0))) :
    Calls Tryz.prog 6 #[.slice (some ⟨w.heap.size + 1, 0, none⟩) 2 2, vs, .slice (some ⟨w.heap.size, 0, none⟩) 2 2] ((w.alloc (.cells #[.int .i64 1, .int .i64 3] 3)).alloc (.cells (opsR g) 33)) fun e W' => e = .returned (.bool true) ∧ Below W.heap.size W W' := by
  have h := heap_twoL w (.cells #[.int .i64 1, .int .i64 3] 3) (.cells (opsR g) 33)
  have b := below_twoL w (.cells #[.int .i64 1, .int .i64 3] 3) (.cells (opsR g) 33)
  exact plays_at ht hS hl (hb.trans (b.mono hb.size)) h.2 h.1 ((b.block g (heap_lt h3)).trans h3)
theorem plays_c {W w : World} {vs : Value} {S : List (List Value)} (g k : Nat) (ht : TokTabs W) (hS : ScriptG W vs S (OpQ W)) (hl : S.length ≤ 1048576) (hb : Below W.heap.size W w) (h3 : w.heap[g]? = some (.cells #[.int .i64 3] 3 (0, 0))) (hk : w.heap[k]? = some (.cells #[.int .i64 1, .int .i64 3] 3 (0, 0))) :
    Calls Tryz.prog 6 #[.slice (some ⟨w.heap.size, 0, none⟩) 2 2, vs, .slice (some ⟨k, 0, none⟩) 2 2] (w.alloc (.cells (opsR g) 33)) fun e W' => e = .returned (.bool true) ∧ Below W.heap.size W W' := by
  have b := (Below.refl w.heap.size w).alloc (Nat.le_refl _) (.cells (opsR g) 33)
  exact plays_at ht hS hl (hb.trans (b.mono hb.size)) (heap_alloc_new _ _) ((b.block k (heap_lt hk)).trans hk) ((b.block g (heap_lt h3)).trans h3)
set_option maxRecDepth 100000 in
set_option maxHeartbeats 6400000 in
theorem runs_any (S : List (List Value)) (vs : Value) (W : World) (ht : TokTabs W) (hS : ScriptG W vs S (OpQ W)) (hl : S.length ≤ 1048576) :
    Calls Tryz.prog 5 #[vs] W fun e W' => e = .returned (.bool true) ∧ Below W.heap.size W W' := by
  have HT := hide ht
  have HS := hide hS
  obtain ⟨ps, cs, rfl, -⟩ := hS
  clear ht
  go_enter Tryz.func5, Tryz.ntmps5
  go_upto_region 2 with fail
  have q3 : ((W.alloc (.cells #[.int .i64 3] 3)).alloc (rtBlk ⟨0, 0, [3], [], 100, 0⟩ (.slice (some ⟨W.heap.size, 0, none⟩) 1 1) (.slice none 0 0))).heap[W.heap.size]? = some (.cells #[.int .i64 3] 3 (0, 0)) ∧ ((W.alloc (.cells #[.int .i64 3] 3)).alloc (rtBlk ⟨0, 0, [3], [], 100, 0⟩ (.slice (some ⟨W.heap.size, 0, none⟩) 1 1) (.slice none 0 0))).heap[W.heap.size + 1]? = some (rtBlk ⟨0, 0, [3], [], 100, 0⟩ (.slice (some ⟨W.heap.size, 0, none⟩) 1 1) (.slice none 0 0)) := heap_twoL W _ _
  have hb1 : Below W.heap.size W ((W.alloc (.cells #[.int .i64 3] 3)).alloc (rtBlk ⟨0, 0, [3], [], 100, 0⟩ (.slice (some ⟨W.heap.size, 0, none⟩) 1 1) (.slice none 0 0))) := below_twoL W _ _
  obtain ⟨W1, hW1⟩ : ∃ W1, (W.alloc (.cells #[.int .i64 3] 3)).alloc (.cells #[.int .i64 0, .int .i64 0, .slice (some ⟨W.heap.size, 0, none⟩) 1 1, .slice none 0 0, .int .i64 100, .int .i64 0] 28) = W1 := ⟨_, rfl⟩
  rw [hW1]
  have q3' : W1.heap[W.heap.size]? = some (.cells #[.int .i64 3] 3 (0, 0)) := by rw [← hW1]; exact q3.1
  have q4 : W1.heap[W.heap.size + 1]? = some (rtBlk ⟨0, 0, [3], [], 100, 0⟩ (.slice (some ⟨W.heap.size, 0, none⟩) 1 1) (.slice none 0 0)) := by rw [← hW1]; exact q3.2
  have hb1' : Below W.heap.size W W1 := by rw [← hW1]; exact hb1
  have HB1 := hide hb1'
  have Q3 := hide q3'
  have Q4 := hide q4
  have TK := hide (show ∀ V, Below W1.heap.size W1 V → Calls Tryz.prog 7 #[] V fun e w' => e = .returned (.agg tkR) ∧ (Below W.heap.size W w' ∧ w'.heap[W.heap.size]? = some (.cells #[.int .i64 3] 3 (0, 0)) ∧ ∀ k o, V.heap[k]? = some o → w'.heap[k]? = some o) ∧ w'.cell? ⟨W.heap.size + 1, 0, none⟩ = some (.int .i64 0) ∧ w'.cell? ⟨W.heap.size + 1, 1, none⟩ = some (.int .i64 0) ∧ w'.cell? ⟨W.heap.size + 1, 2, none⟩ = some (.slice (some ⟨W.heap.size, 0, none⟩) 1 1) ∧ w'.cell? ⟨W.heap.size + 1, 3, none⟩ = some (.slice none 0 0) ∧ w'.cell? ⟨W.heap.size + 1, 4, none⟩ = some (.int .i64 100) ∧ w'.cell? ⟨W.heap.size + 1, 5, none⟩ = some (.int .i64 0) ∧ W.heap.size + 1 < w'.heap.size from fun V hV => (taken_op V).mono fun e w' ⟨he, hb⟩ => by
      have h := (hb.block (W.heap.size + 1) (Nat.lt_of_lt_of_le (heap_lt (unhide Q4)) hV.size)).trans ((hV.block _ (heap_lt (unhide Q4))).trans (unhide Q4))
      obtain ⟨r0, r1, r2, r3, r4, r5, _⟩ := rt6 h
      have hVW := (unhide HB1).trans (hV.mono (unhide HB1).size)
      exact ⟨he, ⟨hVW.trans (hb.mono hVW.size), (hb.block _ (heap_lt ((hV.block _ (heap_lt (unhide Q3))).trans (unhide Q3)))).trans ((hV.block _ (heap_lt (unhide Q3))).trans (unhide Q3)), fun k o hk => (hb.block k (heap_lt hk)).trans hk⟩, r0, r1, r2, r3, r4, r5, heap_lt h⟩)
  obtain ⟨r0, r1, r2, r3, r4, r5, rz⟩ := rt6 q4
  have l4 : W.heap.size + 1 < W1.heap.size := heap_lt q4
  clear q3 hb1 hb1' q3' q4 hW1 rz
  go_region_with (first
    | (go_at_call 7; refine (unhide TK _ (by first | exact (Below.refl _ _).drew | exact ((Below.refl _ _).alloc (Nat.le_refl _) _).drew)).mono ?_; rintro e w1 ⟨rfl, hb, g0, g1, g2, g3, g4, g5, gl⟩)
    | (go_at_call 6; with_reducible refine (plays_a W.heap.size (unhide HT) (unhide HS) hl hb.1 hb.2.1).mono ?_; rintro e w2 ⟨rfl, hb2⟩)
    | (go_at_call 6; with_reducible refine (plays_b W.heap.size (unhide HT) (unhide HS) hl hb.1 hb.2.1).mono ?_; rintro e w2 ⟨rfl, hb2⟩)
    | (go_at_call 6; have hk := hb.2.2 W1.heap.size _ (heap_alloc_new W1 _); with_reducible refine (plays_c W.heap.size W1.heap.size (unhide HT) (unhide HS) hl hb.1 hb.2.1 hk).mono ?_; rintro e w2 ⟨rfl, hb2⟩))
  all_goals
    go_wp2_with fail
    go_ret
    exact ⟨rfl, hb2⟩
namespace rns
theorem cellsInts : Tryz.prog.cellsOf 26 = 1 := by kernel_rfl
theorem cellsNet : Tryz.prog.cellsOf 25 = 2 := by kernel_rfl
theorem cellsRoute : Tryz.prog.cellsOf 28 = 6 := by kernel_rfl
theorem bulk_pos {H : Type} (d : DataW H) : 1 ≤ Rows.uptoBulk d := by
  cases d with
  | lit l => cases l <;> simp [Rows.uptoBulk]
  | nil => simp [Rows.uptoBulk]
  | ptr d => simp [Rows.uptoBulk]
  | slice a b => simp [Rows.uptoBulk]
  | agg a => simp [Rows.uptoBulk]
  | iface t d => simp [Rows.uptoBulk]
  | map a => simp [Rows.uptoBulk]
  | held h => simp [Rows.uptoBulk]
theorem bulk_mem {H : Type} {d : DataW H} {l : List (DataW H)} (h : d ∈ l) : Rows.uptoBulk d ≤ Rows.uptoBulkAll l := by
  induction l with
  | nil => cases h
  | cons x r ih =>
    rw [Rows.uptoBulkAll]
    rcases List.mem_cons.1 h with e | e
    · subst e; omega
    · have := ih e; omega
theorem bulk_len {H : Type} (l : List (DataW H)) : l.length ≤ Rows.uptoBulkAll l := by
  induction l with
  | nil => simp
  | cons x r ih => rw [Rows.uptoBulkAll, List.length_cons]; have := bulk_pos x; omega
theorem inI_wf {n : Int} (h : (Lit.int .i64 n).wf = true) : inI n := by
  have h1 : IntKind.i64.min = -9223372036854775808 := rfl
  have h2 : IntKind.i64.max = 9223372036854775807 := rfl
  simp only [Lit.wf, Bool.and_eq_true, decide_eq_true_eq] at h
  unfold inI; omega
theorem lits_len {H : Type} (k : IntKind) (l : List Int) : (lits (H := H) k l).length = l.length := by simp [lits]

theorem ints {H : Type} {enc : TypeId × Value → H} {W : World} {fuel : Nat} {cs : List Value} {x : DataW H × List MemPlace}
    (h : DataW.trod enc Tryz.prog W 0 (fun _ => true) true fuel 26 cs = some x) (hb : Rows.uptoBulk x.1 ≤ 1048576) : ∃ v l, cs = [v] ∧ IntsAt W v l ∧ l.length ≤ 1048576 := by
  rcases open_ints Tryz.underlying26 Tryz.underlying3 cps.cellsInt h with ⟨rfl, rfl⟩ | ⟨a, len, cap, zs, rfl, _, hl, hm, hzl, rfl, hcell, hwz⟩
  · exact ⟨_, [], rfl, ⟨none, 0, rfl, by simp, by simp, fun x hx => by simp at hx, Or.inl ⟨rfl, fun _ => rfl⟩⟩, by simp⟩
  · simp only [if_true] at hzl
    have hlt : (zs.take len).length = len := by rw [List.length_take]; omega
    have hbl : len ≤ 1048576 := by
      have h1 := bulk_len (lits (H := H) .i64 (zs.take len))
      rw [lits_len, hlt] at h1
      simp only [Rows.uptoBulk] at hb
      omega
    refine ⟨_, zs.take len, rfl, ⟨some a, cap, by rw [hlt], by omega, by omega, fun x hx => inI_wf (hwz x (List.mem_of_mem_take hx)), ?_⟩, by omega⟩
    by_cases hl0 : len = 0
    · subst hl0
      exact Or.inl ⟨by simp, fun h => by cases h⟩
    · obtain ⟨b, off, spot⟩ := a
      have hspot : spot = none := by simpa [Addr.add] using World.cell?_spot (hcell 0 (by omega))
      subst hspot
      have hc : ∀ j, j < zs.length → W.cell? ⟨b, off + j, none⟩ = some (.int .i64 (zs.getD j 0)) := fun j hj => by rw [← WideShapes.add_plain]; exact hcell j hj
      refine Or.inr ⟨b, off, rfl, cps.cell_lt (hc 0 (by omega)), fun j hj => ?_⟩
      rw [hc j (by omega)]
      simp [List.getD, show j < zs.length by omega]
theorem field {H : Type} {enc : TypeId × Value → H} {W : World} {fuel : Nat} {t : TypeId} {fs : Array Field} {cs : List Value} {x : DataW H × List MemPlace} (ht : Tryz.prog.underlying t = some (.struct fs))
    (h : DataW.trod enc Tryz.prog W 0 (fun _ => true) true fuel t cs = some x) (hb : Rows.uptoBulk x.1 ≤ 1048576) :
    cs.length = Tryz.prog.cellsOf t ∧ ∃ n, ∀ (i o k : Nat) (ty : TypeId), (fs[i]?).map (fun f => (f.offset, f.type)) = some (o, ty) → Tryz.prog.cellsOf ty = k → ∃ y, DataW.trod enc Tryz.prog W 0 (fun _ => true) true n ty ((cs.drop o).take k) = some y ∧ Rows.uptoBulk y.1 ≤ 1048576 := by
  obtain ⟨xs, n, _, rfl, hl, hlen, hf⟩ := DataW.trod_struct ht h
  refine ⟨hl, n, fun i o k ty hi0 hk => ?_⟩
  obtain ⟨f, hi, hoty⟩ := Option.map_eq_some_iff.1 hi0
  obtain ⟨rfl, rfl⟩ := Prod.mk.inj hoty
  subst hk
  have hlt : i < xs.length := by rw [hlen]; exact (Array.getElem?_eq_some_iff.1 hi).1
  refine ⟨xs[i], by rw [hf i f hi, List.getElem?_eq_getElem hlt], ?_⟩
  have hm : Rows.uptoBulk xs[i].1 ≤ Rows.uptoBulkAll (xs.map (fun x => x.1)) := bulk_mem (List.mem_map.2 ⟨xs[i], List.getElem_mem hlt, rfl⟩)
  simp only [Rows.uptoBulk] at hb
  omega
theorem int1 {H : Type} {enc : TypeId × Value → H} {W : World} {fuel : Nat} {cs : List Value} {x : DataW H × List MemPlace}
    (h : DataW.trod enc Tryz.prog W 0 (fun _ => true) true fuel 3 cs = some x) : ∃ n, cs = [.int .i64 n] ∧ inI n := by
  obtain ⟨n, e, _, w⟩ := DataW.trod_int Tryz.underlying3 h
  exact ⟨n, e, inI_wf w⟩
set_option maxRecDepth 100000 in
/-- one step of a script -/
theorem op {H : Type} {enc : TypeId × Value → H} {W : World} {fuel : Nat} {cs : List Value} {x : DataW H × List MemPlace}
    (h : DataW.trod enc Tryz.prog W 0 (fun _ => true) true fuel 33 cs = some x) (hb : Rows.uptoBulk x.1 ≤ 1048576) : ∃ k, OpQ W cs k := by
  obtain ⟨hl, n, F⟩ := field Tryz.underlying33 h hb
  rw [cps.cellsOp] at hl
  match cs, hl with
  | [c0, c1, c2, c3, c4, c5, c6, c7, c8, c9, c10, c11, c12, c13, c14, c15, c16, c17], _ =>
    obtain ⟨y0, h0, _⟩ := F 0 0 1 3 rfl cps.cellsInt
    obtain ⟨y1, h1, _⟩ := F 1 1 1 3 rfl cps.cellsInt
    obtain ⟨y3, h3, _⟩ := F 3 3 1 9 rfl cps.cellsStr
    obtain ⟨y4, h4, b4⟩ := F 4 4 6 28 rfl cellsRoute
    clear F h hb
    simp only [List.drop, List.take] at h0 h1 h3 h4
    obtain ⟨kind, e0, _⟩ := int1 h0
    obtain ⟨oa, e1, i1⟩ := int1 h1
    obtain ⟨os, e3, _⟩ := DataW.trod_string Tryz.underlying9 h3
    obtain ⟨_, n4, F4⟩ := field Tryz.underlying28 h4 b4
    obtain ⟨z0, g0, d0⟩ := F4 0 0 2 25 rfl cellsNet
    obtain ⟨z1, g1, d1⟩ := F4 1 2 1 26 rfl cellsInts
    obtain ⟨z2, g2, d2⟩ := F4 2 3 1 26 rfl cellsInts
    obtain ⟨z3, g3, _⟩ := F4 3 4 1 3 rfl cps.cellsInt
    obtain ⟨z4, g4, _⟩ := F4 4 5 1 3 rfl cps.cellsInt
    clear F4 h4
    simp only [List.drop, List.take] at g0 g1 g2 g3 g4
    obtain ⟨_, n6, F6⟩ := field Tryz.underlying25 g0 d0
    obtain ⟨q0, r0, _⟩ := F6 0 0 1 3 rfl cps.cellsInt
    obtain ⟨q1, r1, _⟩ := F6 1 1 1 3 rfl cps.cellsInt
    clear F6 g0
    simp only [List.drop, List.take] at r0 r1
    obtain ⟨na, e4, i4⟩ := int1 r0
    obtain ⟨nl, e5, i5⟩ := int1 r1
    obtain ⟨v6, l6, e6, n6', s6⟩ := ints g1 d1
    obtain ⟨v7, l7, e7, n7, s7⟩ := ints g2 d2
    obtain ⟨rpref, e8, i8⟩ := int1 g3
    obtain ⟨rmed, e9, i9⟩ := int1 g4
    simp only [List.cons.injEq, and_true] at e0 e1 e3 e4 e5 e6 e7 e8 e9
    subst e0 e1 e3 e4 e5 e6 e7 e8 e9
    exact ⟨kind, oa, os, ⟨na, nl, l6, l7, rpref, rmed⟩, c6, c7, ⟨rfl, rfl, rfl⟩, ⟨rfl, rfl, rfl, rfl, rfl, rfl, rfl, n6', n7, i4, i5, i8, i9, by show l6.length ≤ 16777216; omega, by show l7.length ≤ 16777216; omega⟩, rfl, i1.1, i1.2⟩
set_option maxRecDepth 100000 in
/-- THE SCRIPT -/
theorem script {H : Type} {enc : TypeId × Value → H} {W : World} {base : Nat} {v : Value} {d : DataW H} {p : List MemPlace} (hv : Value.okWide Tryz.prog W .any base 22 v)
    (h : DataW.Trod enc Tryz.prog W 0 (fun _ => true) true 22 v d p) (hb : Rows.uptoBulk d ≤ 1048576) : ∃ S, ScriptG W v S (OpQ W) ∧ S.length ≤ 1048576 := by
  obtain ⟨a0, len, cap, rfl⟩ := okWide_slice Tryz.underlying22 hv
  obtain ⟨fuel, hf⟩ := h
  rcases open_slice Tryz.underlying22 hf with ⟨hcs, hx⟩ | ⟨a, len', cap', m, n, D, Pl, hcs, _, hl, hm, hmm, hx, hel⟩
  · simp [Value.cells] at hcs
    obtain ⟨rfl, rfl, rfl⟩ := hcs
    exact ⟨[], ⟨none, 0, rfl, by simp, by simp, fun o ho => by simp at ho, Or.inl rfl⟩, by simp⟩
  · simp [Value.cells] at hcs
    obtain ⟨rfl, rfl, rfl⟩ := hcs
    simp only [if_true] at hmm
    subst hmm
    simp only [Prod.mk.injEq] at hx
    obtain ⟨rfl, _⟩ := hx
    simp only [Rows.uptoBulk] at hb
    have hbl : len ≤ 1048576 := by
      have h1 := bulk_len ((List.range len).map D)
      rw [List.length_map, List.length_range] at h1
      omega
    rw [cps.cellsOp] at hel
    obtain ⟨S, hSl, hS⟩ := cps.list_of (p := fun i o => (∃ k, OpQ W o k) ∧ ∀ j, j < 18 → W.cell? ((a.add (i * 18)).add j) = o[j]?) len (fun i hi => by
      obtain ⟨cs', h1, h2⟩ := hel i (by omega)
      have hm : Rows.uptoBulk (D i) ≤ Rows.uptoBulkAll ((List.range len).map D) := bulk_mem (List.mem_map.2 ⟨i, List.mem_range.2 hi, rfl⟩)
      obtain ⟨_, _, hcell⟩ := World.cells?_some h1
      exact ⟨cs', op h2 (by show Rows.uptoBulk (D i) ≤ 1048576; omega), fun j hj => hcell j hj⟩)
    refine ⟨S, ⟨some a, m, by rw [hSl], by omega, by omega, fun o ho => ?_, ?_⟩, by omega⟩
    · obtain ⟨j, hj, rfl⟩ := List.getElem_of_mem ho
      exact (hS j hj).1
    · by_cases hl0 : len = 0
      · exact Or.inl (List.eq_nil_of_length_eq_zero (by omega))
      · obtain ⟨b, off, spot⟩ := a
        obtain ⟨⟨k0, a0, s0, R0, p0, m0, o0, _⟩, c0⟩ := hS 0 (by omega)
        have c00 := (c0 0 (by omega)).trans o0.kind
        have hspot : spot = none := by simpa [Addr.add] using World.cell?_spot c00
        subst hspot
        simp only [WideShapes.add_plain] at hS c00
        refine Or.inr ⟨b, off, rfl, cps.cell_lt c00, fun j hj i v hv => ?_⟩
        obtain ⟨⟨k1, a1, s1, R1, p1, m1, o1, _⟩, c1⟩ := hS j hj
        rw [c1 i (by have := (List.getElem?_eq_some_iff.1 hv).1; rw [o1.len] at this; exact this)]; exact hv
end rns
end Go.Proofs.YtgdeeodifnegiaaGreatDoor
