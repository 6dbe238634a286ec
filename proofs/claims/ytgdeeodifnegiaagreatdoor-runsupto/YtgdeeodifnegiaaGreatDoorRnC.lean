/- The document's ways: the places where one can be, a mark for each (run.go: nowhere, stay, merge, onward). -/
import Derived.Test.YtgdeeodifnegiaaGreatDoorRnB
import Derived.Laws.MakeOwn
namespace Go.Proofs.YtgdeeodifnegiaaGreatDoor.rf
open Go.RowKit

theorem run_mk {P : Program} (w : World) (t e : TypeId) (i : TypeInfo) (z : Value) (ht : P.underlying t = some (.slice e)) (hi : P.info? e = some i) (hz : i.zero = some z) (n : Nat) (hb : i.bytes * n ≤ 281474976710656) (hn : n ≤ 1099511627776) :
    (Instr.makeSlice t (.int .i64 (n : Int)) (.int .i64 (n : Int))).run P w = .ok (.slice (some ⟨w.heap.size, 0, none⟩) n n) (w.alloc (.cells (madeCells z.cells (n * i.size)) e)) := by
  have hb' : (i.bytes : Int) * (n : Int) ≤ 281474976710656 := by
    have h : ((i.bytes * n : Nat) : Int) ≤ 281474976710656 := by omega
    rwa [Int.natCast_mul] at h
  have := run_make (P := P) w t e i z ht hi hz .i64 .i64 (n : Int) (n : Int) (by omega) (Int.le_refl _) hb' (by omega)
  simpa using this
/-- a row of marks -/
def rowC (n : Nat) (f : Nat → Bool) : Array Value := ((List.range n).map fun j => Value.bool (f j)).toArray
theorem rowC_get {n j : Nat} {f : Nat → Bool} (h : j < n) : (rowC n f)[j]? = some (.bool (f j)) := by simp [rowC, h]
theorem rowC_made (n : Nat) : madeCells #[.bool false] n = rowC n fun _ => false := by
  apply Array.ext'
  rw [toList_madeCells_one]
  simp [rowC, List.map_const']
theorem rowC_q {n k : Nat} {f : Nat → Bool} : (rowC n f)[k]? = if k < n then some (.bool (f k)) else none := by
  by_cases h : k < n
  · rw [if_pos h, rowC_get h]
  · rw [if_neg h]; simp [rowC]; omega
theorem rowC_set {n j : Nat} {f : Nat → Bool} (x : Bool) : (rowC n f).setIfInBounds j (.bool x) = rowC n fun k => if k = j then x else f k := by
  apply Array.ext_getElem?
  intro k
  have hs : (rowC n f).size = n := by simp [rowC]
  rw [Array.getElem?_setIfInBounds, rowC_q, rowC_q, hs]
  by_cases e : j = k
  · subst e; simp
  · rw [if_neg e]; simp [show ¬ k = j from fun h => e h.symm]
/-- marks in memory: a row for each place -/
structure Grid (w : World) (base n : Nat) (v : Value) (bs : List Nat) (M : Nat → Nat → Bool) : Prop where
  own : w.ownsRow 0 117 1 v bs.length (bs.map fun b => Value.slice (some ⟨b, 0, none⟩) n n)
  new : ∀ k, v.ownBlock = some k → base ≤ k
  off : ∀ b ∈ bs, v.ownBlock ≠ some b
  nd : bs.Nodup
  rows : ∀ i, (h : i < bs.length) → base ≤ bs[i] ∧ w.heap[bs[i]]? = some (.cells (rowC n (M i)) 4 (0, 0))
/-- one place more -/
theorem Grid.more {w wr w1 w2 w' : World} {n : Nat} {v v' : Value} {bs : List Nat} {M : Nat → Nat → Bool} {o : Obj} (h : Grid wr w.heap.size n v bs M) (hb : Below w.heap.size w wr) (h1 : w1 = wr.alloc (.cells (rowC n (M bs.length)) 4)) (h2 : w2 = w1.alloc o)
    (hgrow : w2.grownBy w' v.ownBlock) (hown : w'.ownsRow 0 117 1 v' (bs.length + 1) ((bs.map fun b => Value.slice (some ⟨b, 0, none⟩) n n) ++ [Value.slice (some ⟨wr.heap.size, 0, none⟩) n n])) (hat : v'.ownBlock = v.ownBlock ∨ v'.ownBlock = some w2.heap.size) :
    Below w.heap.size w w' ∧ Grid w' w.heap.size n v' (bs ++ [wr.heap.size]) M := by
  have s1 : w1.heap.size = wr.heap.size + 1 := by rw [h1]; simp
  have s2 : w2.heap.size = wr.heap.size + 2 := by rw [h2]; simp [s1]
  have hs := hb.size
  have b2 : Below wr.heap.size wr w2 := by
    rw [h2, h1]
    exact ((Below.refl _ _).alloc (Nat.le_refl _) _).alloc (by simp) _
  have hq : w2.heap[wr.heap.size]? = some (.cells (rowC n (M bs.length)) 4 (0, 0)) := by
    rw [h2, Below.heap_alloc _ _ _ (by omega), h1]; exact heap_alloc_new _ _
  have blk : ∀ k, k < w2.heap.size → v.ownBlock ≠ some k → w'.heap[k]? = w2.heap[k]? := fun k hk hn => hgrow.block k hk (fun e => hn e.symm)
  have lt : ∀ b ∈ bs, b < wr.heap.size := fun b hb => by
    obtain ⟨i, hi, rfl⟩ := List.getElem_of_mem hb
    exact heap_lt (h.rows i hi).2
  refine ⟨below_append (hb.trans (b2.mono hs)) hgrow (by omega) h.new, by simpa using hown, fun k hk => ?_, fun b hbm => ?_, ?_, fun i hi => ?_⟩
  · rcases hat with e | e
    · exact h.new k (by rw [← e]; exact hk)
    · rw [e] at hk; cases hk; omega
  · rcases hat with e | e
    · rw [e]
      rcases List.mem_append.1 hbm with hm | hm
      · exact h.off b hm
      · rw [List.mem_singleton.1 hm]
        intro e'
        have := (h.own.lt _ e').2
        omega
    · rw [e]
      intro e'
      cases e'
      rcases List.mem_append.1 hbm with hm | hm
      · have := lt _ hm; omega
      · have := List.mem_singleton.1 hm; omega
  · refine List.nodup_append.2 ⟨h.nd, by simp, fun a ha b hb => ?_⟩
    rw [List.mem_singleton.1 hb]
    have := lt a ha
    omega
  · by_cases hib : i < bs.length
    · rw [List.getElem_append_left hib]
      have hr := h.rows i hib
      refine ⟨hr.1, ?_⟩
      rw [blk _ (by have := heap_lt hr.2; omega) (h.off _ (List.getElem_mem _)), b2.block _ (heap_lt hr.2)]
      exact hr.2
    · have : i = bs.length := by simp at hi; omega
      subst this
      rw [List.getElem_append_right (Nat.le_refl _)]
      simp only [Nat.sub_self, List.getElem_cons_zero]
      refine ⟨hs, ?_⟩
      rw [blk _ (by omega) (fun e => by have := (h.own.lt _ e).2; omega)]
      exact hq
theorem Tryz.infoBools : (Tryz.prog.info? 117).map (fun i => (i.zero, i.size, i.bytes)) = some (some (.slice none 0 0), 1, 24) := by kernel_rfl
set_option maxRecDepth 100000 in
set_option maxHeartbeats 3200000 in
theorem nowhere_any (w : World) (n : Nat) (hn : n ≤ 1000) : Calls Tryz.prog 238 #[.int .i64 n] w fun e w' => ∃ v bs, e = .returned v ∧ Below w.heap.size w w' ∧ bs.length = n ∧ Grid w' w.heap.size n v bs fun _ _ => false := by
  obtain ⟨i0, hi0, hz0, hz1, hz2⟩ := info_parts Tryz.infoBool
  obtain ⟨j0, hj0, hy0, hy1, hy2⟩ := info_parts Tryz.infoBools
  go_enter Tryz.func238, Tryz.ntmps238
  go_wp2_with fail
  go_loopg [3, 4] n (fun k b3 b4 wr => ∃ (i : Nat) (bs : List Nat), i + k = n ∧ b4 = .int .i64 i ∧ bs.length = i ∧ Below w.heap.size w wr ∧ Grid wr w.heap.size n b3 bs fun _ _ => false)
  case atStart => exact ⟨0, [], by omega, rfl, rfl, Below.refl _ _, World.ownsRow_nil _ _ _ _, fun k hk => (by simp [Value.ownBlock] at hk), fun b hb => (by cases hb), List.nodup_nil, fun i h => (by simp at h)⟩
  case round =>
    obtain ⟨i, bs, hik, rfl, hbl, hb, hg⟩ := hrel
    have HB := hide hb
    have HG := hide hg
    by_cases hi : i < n
    · have hmk := run_mk (P := Tryz.prog) wr 117 4 i0 (.bool false) Tryz.underlying117 hi0 hz0 n (by rw [hz2]; omega) (by omega)
      rw [hz1, Nat.mul_one, show (Value.bool false).cells = #[.bool false] from rfl, rowC_made] at hmk
      have Q1 := hide (heap_alloc_new wr (.cells (rowC n fun _ => false) 4))
      have B1 := hide ((Below.refl wr.heap.size wr).alloc (Nat.le_refl _) (.cells (rowC n fun _ => false) 4))
      obtain ⟨w1, hw1⟩ : ∃ w1, wr.alloc (.cells (rowC n fun _ => false) 4) = w1 := ⟨_, rfl⟩
      have S1 := hide (show w1.heap.size = wr.heap.size + 1 by rw [← hw1]; simp)
      have HW1 := hide hw1
      rw [hw1] at hmk Q1 B1
      have OW := hide (show w1.ownsRow 0 117 1 _ bs.length _ from owns_of hg.own (fun k hk => (unhide B1).block k (hg.own.lt k hk).2))
      clear hb hg hw1
      go_wp2_with (at_builtin; refine wpList_append_reads rfl _ _ _ rfl 0 117 j0 _ 1 24 Tryz.underlying290 hj0 hy0 hy1 hy2 rfl (by omega) _ _ _ rfl ((unhide OW).alloc _) _ 1 [.slice (some ⟨wr.heap.size, 0, none⟩) n n] rfl (Or.inr ⟨⟨w1.heap.size, 0, none⟩, 1, rfl, World.news_of_block (cs := #[.slice (some ⟨wr.heap.size, 0, none⟩) n n]) (t := 117) (fr := (0, 0)) (heap_alloc_new _ _)⟩) rfl (by simp [Value.oneCell']) (by simp only [maxLen]; omega) (by omega) (by omega) ?_; intro v' w' hown hgrow hat)
      have FIN := hide (Grid.more (unhide HG) (unhide HB) (unhide HW1).symm rfl hgrow (by simpa using hown) hat)
      clear hown hgrow hat hmk
      go_wp2_with fail
      go_roundg (n - (i + 1))
      case measure => omega
      case rel => exact ⟨i + 1, bs ++ [wr.heap.size], by omega, by go_num, by simp; omega, (unhide FIN).1, (unhide FIN).2⟩
    · have hin : i = n := by omega
      go_wp2_with fail
      go_ret
      exact ⟨_, bs, rfl, unhide HB, by omega, unhide HG⟩
theorem rowC_congr {n : Nat} {f g : Nat → Bool} (h : ∀ j, j < n → f j = g j) : rowC n f = rowC n g := by
  apply Array.ext_getElem?
  intro k
  rw [rowC_q, rowC_q]
  by_cases hk : k < n
  · rw [if_pos hk, if_pos hk, h k hk]
  · rw [if_neg hk, if_neg hk]
theorem Grid.congr {w : World} {base n : Nat} {v : Value} {bs : List Nat} {M M' : Nat → Nat → Bool} (h : Grid w base n v bs M) (hm : ∀ i j, i < bs.length → j < n → M i j = M' i j) : Grid w base n v bs M' :=
  ⟨h.own, h.new, h.off, h.nd, fun i hi => ⟨(h.rows i hi).1, by rw [(h.rows i hi).2, rowC_congr (fun j hj => hm i j hi hj)]⟩⟩
theorem Grid.keep {w w' : World} {base n : Nat} {v : Value} {bs : List Nat} {M : Nat → Nat → Bool} (h : Grid w base n v bs M) (hk : ∀ k, k < w.heap.size → (v.ownBlock = some k ∨ k ∈ bs) → w'.heap[k]? = w.heap[k]?) : Grid w' base n v bs M :=
  ⟨owns_of h.own (fun k e => hk k (h.own.lt k e).2 (Or.inl e)), h.new, h.off, h.nd, fun i hi => ⟨(h.rows i hi).1, by rw [hk _ (heap_lt (h.rows i hi).2) (Or.inr (List.getElem_mem _))]; exact (h.rows i hi).2⟩⟩
theorem Grid.set {w : World} {base n : Nat} {v : Value} {bs : List Nat} {M : Nat → Nat → Bool} {i j : Nat} (h : Grid w base n v bs M) (hi : i < bs.length) (x : Bool) : Grid (w.setCell ⟨bs[i], j, none⟩ (.bool x)) base n v bs fun a b => if a = i ∧ b = j then x else M a b := by
  refine ⟨owns_of h.own (fun k e => heap_set_other (fun e' => h.off _ (List.getElem_mem hi) (by rw [← show k = bs[i] from e']; exact e))), h.new, h.off, h.nd, fun a ha => ⟨(h.rows a ha).1, ?_⟩⟩
  by_cases e : a = i
  · subst e
    rw [heap_set (h.rows a ha).2, rowC_set]
    congr 2
    apply rowC_congr
    intro k _
    simp
  · rw [heap_set_other (fun e' => e ?_), (h.rows a ha).2]
    · congr 2
      apply rowC_congr
      intro k _
      simp [e]
    · exact (List.getElem_inj h.nd).1 e'
/-- what is read of marks -/
theorem Grid.get {w : World} {base n : Nat} {v : Value} {bs : List Nat} {M : Nat → Nat → Bool} (h : Grid w base n v bs M) {i : Nat} (hi : i < bs.length) : ∃ g cap, v = .slice (some ⟨g, 0, none⟩) bs.length cap ∧ g < w.heap.size ∧ w.cell? ⟨g, i, none⟩ = some (.slice (some ⟨bs[i], 0, none⟩) n n) ∧ bs[i] < w.heap.size ∧ (∀ o, w.frozen? ⟨bs[i], o, none⟩ = false) ∧ ∀ j, j < n → w.cell? ⟨bs[i], j, none⟩ = some (.bool (M i j)) := by
  obtain ⟨g, cap, hv, _⟩ := h.own.form (by omega)
  have ho := h.own
  rw [hv] at ho
  refine ⟨g, cap, hv, (ho.lt g rfl).2, ?_, heap_lt (h.rows i hi).2, fun o => frozen_of_heap (h.rows i hi).2, fun j hj => ?_⟩
  · rw [ho.cellAt i (by omega)]; simp [List.getElem?_eq_getElem hi]
  · rw [cell_of_heap (h.rows i hi).2, rowC_get hj]
abbrev In (bs : List Nat) : Nat → Prop := fun k => k ∈ bs
set_option maxRecDepth 100000 in
set_option maxHeartbeats 3200000 in
theorem stay_any {w : World} {base n : Nat} {v : Value} {bs : List Nat} {M : Nat → Nat → Bool} (h : Grid w base n v bs M) (hl : bs.length = n) (hn : n ≤ 1000) :
    Calls Tryz.prog 240 #[v] w fun e w' => e = .returned (.tuple #[]) ∧ Grid w' base n v bs (fun i j => M i j || decide (i = j)) ∧ Fr (In bs) w (In bs) w' := by
  obtain ⟨vo, vc, rfl⟩ := owns_sl h.own
  subst hl
  have H := hide h
  clear h
  go_enter Tryz.func240, Tryz.ntmps240
  go_wp2_with fail
  go_loopg [2] bs.length (fun k b2 wr => ∃ i : Nat, i + k = bs.length ∧ b2 = .int .i64 i ∧ Grid wr base bs.length (.slice vo bs.length vc) bs (fun a b => M a b || (decide (a = b) && decide (a < i))) ∧ Fr (In bs) w (In bs) wr)
  case atStart => exact ⟨0, by omega, rfl, (unhide H).congr (fun i j _ _ => by simp), Fr.refl _ _⟩
  case round =>
    obtain ⟨i, hik, rfl, hg, hf⟩ := hrel
    have HG := hide hg
    have HF := hide hf
    by_cases hi : i < bs.length
    · obtain ⟨g, cap, hv2, lg, c0, lb, zb, cb⟩ := hg.get (i := i) (by omega)
      simp only [Value.slice.injEq] at hv2
      obtain ⟨rfl, -, rfl⟩ := hv2
      have ci := cb i hi
      obtain ⟨b, hb⟩ : ∃ b, bs[i]'(by omega) = b := ⟨_, rfl⟩
      have FIN := hide (show Grid (wr.setCell ⟨b, i, none⟩ (.bool true)) base bs.length (.slice (some ⟨g, 0, none⟩) bs.length vc) bs (fun a b => M a b || (decide (a = b) && decide (a < i + 1))) ∧ Fr (In bs) w (In bs) (wr.setCell ⟨b, i, none⟩ (.bool true)) from by
        refine ⟨?_, hf.setCell (p := ⟨b, i, none⟩) (Or.inl (by rw [← hb]; exact List.getElem_mem _)) _⟩
        rw [← hb]
        refine (hg.set (j := i) (by omega) true).congr (fun a c _ _ => ?_)
        by_cases e1 : a = i
        · by_cases e2 : c = i
          · simp [e1, e2]
          · simp [e1, e2, show ¬ i = c from fun h => e2 h.symm]
        · by_cases e2 : a = c
          · subst e2
            rw [if_neg (fun h => e1 h.1)]
            simp only [decide_true, Bool.true_and]
            congr 1
            rw [decide_eq_decide]; omega
          · simp [e1, e2])
      rw [hb] at c0 lb zb ci
      clear hg hf cb hb
      go_wp2_with fail
      go_roundg (bs.length - (i + 1))
      case measure => omega
      case rel => exact ⟨i + 1, by omega, by go_num, (unhide FIN).1, (unhide FIN).2⟩
    · have FIN := hide (show Grid wr base bs.length (.slice vo bs.length vc) bs (fun i j => M i j || decide (i = j)) from hg.congr (fun a c ha _ => by rw [show decide (a < i) = true from decide_eq_true (by omega), Bool.and_true]))
      clear hg hf
      go_wp2_with fail
      go_end0
      exact ⟨rfl, unhide FIN, unhide HF⟩
end Go.Proofs.YtgdeeodifnegiaaGreatDoor.rf
