/- A policy of the document is run: statements (run.go: do): unmark. -/
import Derived.Test.YtgdeeodifnegiaaGreatDoorRnL
namespace Go.Proofs.YtgdeeodifnegiaaGreatDoor.rf
open Go.RowKit

set_option maxRecDepth 100000 in
set_option maxHeartbeats 3200000 in
theorem do_unmark (P : Nat → Nat → World → Prop) (n a : Int) (op : ByteArray) (hop : op = wUnmark) : StpR P (.mk op nB 0 0 [.mk wNumber nB n a []]) (unmarkM n) := by
  intro w Q v sb pb R pv mv hQ _ ht hR hs
  obtain ⟨i0, hi0, hz0, hz1, hz2⟩ := info_parts Tryz.infoInt
  have e0 : (op.toList == [97, 99, 99, 101, 112, 116]) = false := by rw [hop]; decide +kernel
  have e1 : (op.toList == [114, 101, 106, 101, 99, 116]) = false := by rw [hop]; decide +kernel
  have e2 : (op.toList == [112, 114, 101, 102]) = false := by rw [hop]; decide +kernel
  have e3 : (op.toList == [109, 101, 100]) = false := by rw [hop]; decide +kernel
  have e4 : (op.toList == [109, 97, 114, 107]) = false := by rw [hop]; decide +kernel
  have e5 : (op.toList == [117, 110, 109, 97, 114, 107]) = true := by rw [hop]; decide +kernel
  obtain ⟨kv, g, rfl, hk⟩ := ht.kids (by simp)
  obtain ⟨cap, hkv⟩ := hk.sl
  obtain rfl : kv = .slice (some ⟨g, 0, none⟩) 1 cap := by simpa using hkv
  have hA : Below w.heap.size w (w.alloc (.cells (treeCells op nB 0 0 (.slice (some ⟨g, 0, none⟩) 1 cap)) 115)) := (Below.refl _ _).alloc (Nat.le_refl _) _
  have q0 : (w.alloc (.cells (treeCells op nB 0 0 (.slice (some ⟨g, 0, none⟩) 1 cap)) 115)).heap[w.heap.size]? = some (.cells (treeCells op nB 0 0 (.slice (some ⟨g, 0, none⟩) 1 cap)) 115 (0, 0)) := heap_alloc_new _ _
  have hk1 := hk.fr hQ (fr_sb hA)
  obtain ⟨mo, mc, rfl⟩ := owns_sl hs.own2
  have hs1 := hs.below hA
  obtain ⟨WA, hWA⟩ : ∃ WA, w.alloc (.cells (treeCells op nB 0 0 (.slice (some ⟨g, 0, none⟩) 1 cap)) 115) = WA := ⟨_, rfl⟩
  have HWA := hide hWA
  rw [hWA] at q0 hk1 hs1 hA
  have HF := hide (show Fr (Sb sb) w (Sb sb) WA from fr_sb hA)
  have c2 := hk1.num
  have k0 : WA.cell? ⟨w.heap.size, 0, none⟩ = some (.string op) := cell_of_heap q0
  have k4 : WA.cell? ⟨w.heap.size, 4, none⟩ = some (.slice (some ⟨g, 0, none⟩) 1 cap) := cell_of_heap q0
  have s4 : WA.cell? ⟨sb, 4, none⟩ = some (.slice mo R.marks.length mc) := cell_of_heap hs1.blk
  have zs : ∀ o, WA.frozen? ⟨sb, o, none⟩ = false := fun o => frozen_of_heap hs1.blk
  have lsb : sb < WA.heap.size := heap_lt hs1.blk
  have HS := hide hs1
  have hm8 := hR.marks
  have MK := hide (marked_any hs1 n)
  have lA : w.heap.size < WA.heap.size := heap_lt q0
  have lg := hk1.lt
  clear hk hk1 hs hs1 hA ht q0 hQ hop hWA hkv hR
  by_cases hn : n ∈ R.marks
  · obtain ⟨i, hi⟩ : ∃ i, R.marks.idxOf n = i := ⟨_, rfl⟩
    have hil : i < R.marks.length := by rw [← hi]; exact List.idxOf_lt_length_iff.2 hn
    have FIN := hide (show unmarkM n R = ({ R with marks := R.marks.take i ++ R.marks.drop (i + 1) }, 0) from by unfold unmarkM; rw [if_pos (by simpa using hn), List.erase_eq_eraseIdx_of_idxOf hi, List.eraseIdx_eq_take_drop_succ])
    have hma : markAt R.marks n = (i : Int) := by unfold markAt; rw [if_pos hn, hi]
    obtain ⟨gm, mcap, hv, hgm, _⟩ := own_get (unhide HS).own2 hil
    simp only [Value.slice.injEq] at hv
    obtain ⟨rfl, -, rfl⟩ := hv
    have hicap : R.marks.length ≤ mc := by
      rcases (unhide HS).own2.2 with ⟨h0, _⟩ | ⟨_, _, _, h0, _, _, h3, _⟩
      · cases h0
      · simp only [Value.slice.injEq] at h0; omega
    obtain ⟨l, hl⟩ : ∃ l, R.marks = l := ⟨_, rfl⟩
    have OW := hide (unhide HS).own2
    rw [hl] at OW FIN hil hm8 s4 hma hicap
    have RD := hide (show ∀ W, Below WA.heap.size WA W → ReadsAs W (.slice (some ⟨gm, 0, none⟩) i mc) i (intCells (l.take i)) from fun W hW => Or.inr ⟨_, _, rfl, fun j u hj => by
      have hj0 := (List.getElem?_eq_some_iff.1 hj).1
      have hj1 : j < i := by simp [intCells] at hj0; omega
      rw [show (⟨gm, 0, none⟩ : Addr).add j = ⟨gm, j, none⟩ from (by simp [Addr.add]; intro h; omega), hW.cell (p := ⟨gm, j, none⟩) hgm, (unhide OW).cellAt j (by omega), ← hj]
      simp [intCells, hj1]⟩)
    have RD2 := hide (show ∀ W, Below WA.heap.size WA W → ReadsAs W (.slice (if mc = i + 1 then some ⟨gm, 0, none⟩ else some ⟨gm, i + 1, none⟩) (l.length - (i + 1)) (mc - (i + 1))) (l.length - (i + 1)) (intCells (l.drop (i + 1))) from fun W hW => by
      split
      · rename_i hmi
        exact Or.inr ⟨_, _, rfl, fun j u hj => by rw [List.drop_eq_nil_of_le (by omega)] at hj; simp [intCells] at hj⟩
      · exact Or.inr ⟨_, _, rfl, fun j u hj => by
          have hj' : (intCells l)[i + 1 + j]? = some u := by rw [← hj]; simp [intCells]
          have hlt' : i + 1 + j < l.length := by have := (List.getElem?_eq_some_iff.1 hj').1; simpa [intCells] using this
          rw [show (⟨gm, i + 1, none⟩ : Addr).add j = ⟨gm, i + 1 + j, none⟩ from by simp [Addr.add], hW.cell (p := ⟨gm, i + 1 + j, none⟩) hgm, (unhide OW).cellAt (i + 1 + j) (by omega)]; exact hj'⟩)
    rw [hl] at MK
    rw [hma] at MK
    have HL := hide hl
    clear hn hi hl hma
    go_enter Tryz.func97, Tryz.ntmps97
    go_upto_region 1 with fail
    rw [unhide HWA]
    go_wp2_with fail
    refine (unhide MK).mono ?_
    rintro e w1 ⟨rfl, rfl⟩
    go_upto_region 20 with (at_builtin; refine wpList_append_reads rfl _ _ _ rfl 0 3 i0 _ 1 8 Tryz.underlying26 hi0 hz0 hz1 hz2 rfl (by omega) _ _ _ rfl (World.ownsRow_nil _ _ _ _) _ _ _ rfl (unhide RD _ (Below.refl _ _)) (by simp [intCells]; omega) one_ints (by simp only [maxLen]; omega) (by omega) (by omega) ?_; intro v2 w2 hown hgrow hat)
    have HB' := hide (below_append (v := .slice none 0 0) (Below.refl w1.heap.size w1) hgrow (Nat.le_refl _) (fun k hk => by simp [Value.ownBlock] at hk))
    have hlt : (l.take i).length = i := by rw [List.length_take]; omega
    have HN' := hide (NewI.app (w := w1) (v := .slice none 0 0) (l := []) (l2 := l.take i) ⟨World.ownsRow_nil _ _ _ _, fun k hk => by simp [Value.ownBlock] at hk⟩ (Below.refl w1.heap.size w1) (by rw [hlt]; exact hown) hat)
    clear hown hgrow hat
    have c4n := ((unhide HB').cell (p := ⟨sb, 4, none⟩) lsb).trans s4
    have lsn : sb < w2.heap.size := Nat.lt_of_lt_of_le lsb (unhide HB').size
    have hln : ([] ++ l.take i).length = i := by simp; omega
    go_wp2_with (at_builtin; refine wpList_append_reads rfl _ _ _ rfl 0 3 i0 _ 1 8 Tryz.underlying26 hi0 hz0 hz1 hz2 rfl (by omega) _ _ _ rfl (unhide HN').own _ _ _ rfl (unhide RD2 _ (unhide HB')) (by simp [intCells]) one_ints (by simp only [maxLen]; omega) (by omega) (by omega) ?_; intro v3 w3 hown hgrow hat; obtain ⟨o2, cc2, rfl⟩ := owns_sl hown; have HB2 := hide (below_append (unhide HB') hgrow (unhide HB').size (unhide HN').new); have HN2 := hide (NewI.app (unhide HN') (unhide HB') (by rw [List.length_drop]; exact hown) hat); have c42 := ((unhide HB2).cell (p := ⟨sb, 4, none⟩) lsb).trans s4; have z42 : ∀ o, w3.frozen? ⟨sb, o, none⟩ = false := (fun o => frozen_of_heap (((unhide HB2).block sb lsb).trans (unhide HS).blk)); have ls2 : sb < w3.heap.size := Nat.lt_of_lt_of_le lsb (unhide HB2).size; clear hown hgrow hat)
    all_goals
      go_end0
      rw [unhide FIN]
      have hn2 := unhide HN2
      rw [hln, List.nil_append] at hn2
      exact ⟨rfl, _, _, (unhide HS).marks (unhide HB2) hn2, Fr.setCell (p := ⟨sb, 4, none⟩) ((unhide HF).trans (fr_sb (sb := sb) (unhide HB2))) (Or.inl rfl) _⟩
  · have FIN := hide (show unmarkM n R = (R, 0) from by unfold unmarkM; rw [if_neg (by simpa using hn)])
    rw [markAt_lt hn] at MK
    go_enter Tryz.func97, Tryz.ntmps97
    go_upto_region 1 with fail
    rw [unhide HWA]
    go_wp2_with fail
    refine (unhide MK).mono ?_
    rintro e w1 ⟨rfl, rfl⟩
    go_wp2_with fail
    go_end0
    rw [unhide FIN]
    exact ⟨rfl, _, _, unhide HS, unhide HF⟩
end Go.Proofs.YtgdeeodifnegiaaGreatDoor.rf
