/- The program's reader: kind, tell, fail, endLine. -/
import Derived.Test.YtlhhdklendeikaaGreatDoorRdrA
import Derived.Deep.RegionHeld3
import Derived.Deep.RegionLaw
import Derived.Deep.DeepCutAuto
import Derived.Deep.DrawnRows
namespace Go.Proofs.YtlhhdklendeikaaGreatDoor
open Go.RowKit

theorem RAt.tok {w : World} {pb : Nat} {ts : List TokP} {st : RS} {D : Nat → Prop} {tb tc : Nat} {dv av bv : Value} (h : RAt w pb ts st D tb tc dv av bv) (hi : st.next < ts.length) :
    w.cell? ⟨tb, st.next * 6, none⟩ = some (.int .i64 (tokR ts st).kind) ∧ w.cell? ⟨tb, st.next * 6 + 1, none⟩ = some (.int .i64 (tokR ts st).at_) ∧ w.cell? ⟨tb, st.next * 6 + 2, none⟩ = some (.string (tokR ts st).text) ∧ w.cell? ⟨tb, st.next * 6 + 3, none⟩ = some (.int .i64 (tokR ts st).number) ∧ w.cell? ⟨tb, st.next * 6 + 4, none⟩ = some (.int .i64 (tokR ts st).addr) ∧ w.cell? ⟨tb, st.next * 6 + 5, none⟩ = some (.int .i64 (tokR ts st).len) := by
  rw [tokR_eq hi]
  obtain ⟨_, h2⟩ := h.toks
  rcases h2 with ⟨h2, _⟩ | ⟨g, cap, cur, hv, hb, hg, hn, hm, hs, ht⟩
  · cases h2
  cases hv
  obtain ⟨g0, g1, g2, g3, g4, g5⟩ := tokCells_get hi
  have hx : ∀ j v, (tokCells ts)[j]? = some v → w.cell? ⟨tb, j, none⟩ = some v := fun j v hj => by
    rw [cell_of_heap hg, ← Array.getElem?_toList]
    rw [← ht] at hj
    rw [List.getElem?_take] at hj
    split at hj
    · exact hj
    · cases hj
  rw [Nat.mul_comm st.next 6]
  exact ⟨hx _ _ g0, hx _ _ g1, hx _ _ g2, hx _ _ g3, hx _ _ g4, hx _ _ g5⟩

set_option maxRecDepth 100000 in
set_option maxHeartbeats 1000000 in
theorem kind_any {w : World} {pb : Nat} {ts : List TokP} {st : RS} {D O : Nat → Prop} (h : RA w pb ts st D O) (hk : st.next < ts.length) (_hn : ts.length ≤ 601) :
    Calls Tryz.prog 53 #[ptr4 pb 0] w fun e w' => e = .returned (.int .i64 (kindR ts st)) ∧ ∃ q, w' = w.drewN q := by
  obtain ⟨tb, tc, dv, av, bv, h, rfl⟩ := h
  have c0 : w.cell? ⟨pb, 0, none⟩ = some (.slice (some ⟨tb, 0, none⟩) ts.length tc) := cell_of_heap h.blk
  have c1 : w.cell? ⟨pb, 1, none⟩ = some (.int .i64 (st.next : Int)) := cell_of_heap h.blk
  have c7 : w.cell? ⟨pb, 7, none⟩ = some (optB st.syn) := cell_of_heap h.blk
  have t0 := (h.tok hk).1
  have E0 := hide (show kindR ts st = if st.syn.isSome then 0 else (tokR ts st).kind from rfl)
  clear h
  generalize hl : ts.length = N at *
  generalize hx : st.next = n at *
  generalize (tokR ts st).kind = K at *
  cases hs : st.syn with
  | none =>
    rw [hs] at c7
    have c7' : w.cell? ⟨pb, 7, none⟩ = some (.bool false) := c7
    clear c7
    go_enter Tryz.func53, Tryz.ntmps53
    go_wp2_with fail
    go_region
    go_wp2_with fail
    go_ret
    refine ⟨?_, 1, rfl⟩
    rw [unhide E0, hs]; rfl
  | some x =>
    rw [hs] at c7
    have c7' : w.cell? ⟨pb, 7, none⟩ = some (.bool true) := c7
    clear c7
    go_enter Tryz.func53, Tryz.ntmps53
    go_wp2_with fail
    go_ret
    refine ⟨?_, 0, rfl⟩
    rw [unhide E0, hs]; rfl

theorem RAt.synSet {w : World} {pb : Nat} {ts : List TokP} {st : RS} {D : Nat → Prop} {tb tc : Nat} {dv av bv : Value} (h : RAt w pb ts st D tb tc dv av bv) {o : Nat} (x : Int) (st' : RS) (hp : st'.page = st.page) (hd : st'.defs = st.defs)
    (hc : ((rdCells (.slice (some ⟨tb, 0, none⟩) ts.length tc) dv av bv st).setIfInBounds o (.bool true)).setIfInBounds (o + 1) (.int .i64 x) = rdCells (.slice (some ⟨tb, 0, none⟩) ts.length tc) dv av bv st') :
    RAt ((w.setCell ⟨pb, o, none⟩ (.bool true)).setCell ⟨pb, o + 1, none⟩ (.int .i64 x)) pb ts st' D tb tc dv av bv := by
  refine h.set (by simp [World.setCell]) ?_ hp hd (fun k _ hk _ => by rw [heap_set_other hk, heap_set_other hk])
  rw [heap_set (heap_set h.blk), hc]
set_option maxRecDepth 100000 in
set_option maxHeartbeats 1000000 in
/-- a fault is told, at the place o of the reader's block -/
theorem tell_any (w : World) (pb o : Nat) (f : Option Int) (x : Int) (c : Array Value) (hb : w.heap[pb]? = some (.cells c 82 (0, 0))) (h0 : c[o]? = some (optB f)) (h1 : c[o + 1]? = some (optI f)) :
    Calls Tryz.prog 84 #[ptr4 pb o, .int .i64 x] w fun e w' => e = .returned (.tuple #[]) ∧ w' = if f.isSome then w else (w.setCell ⟨pb, o, none⟩ (.bool true)).setCell ⟨pb, o + 1, none⟩ (.int .i64 x) := by
  have c0 : w.cell? ⟨pb, o, none⟩ = some (optB f) := (cell_of_heap hb).trans h0
  have c1 : w.cell? ⟨pb, o + 1, none⟩ = some (optI f) := (cell_of_heap hb).trans h1
  have z0 : w.frozen? ⟨pb, o, none⟩ = false := frozen_of_heap hb
  have z1 : w.frozen? ⟨pb, o + 1, none⟩ = false := frozen_of_heap hb
  clear hb h0 h1
  cases f with
  | none =>
    have c0' : w.cell? ⟨pb, o, none⟩ = some (.bool false) := c0
    have c1' : w.cell? ⟨pb, o + 1, none⟩ = some (.int .i64 0) := c1
    clear c0 c1
    go_enter Tryz.func84, Tryz.ntmps84
    go_wp2_with fail
    go_end0
    exact ⟨rfl, rfl⟩
  | some y =>
    have c0' : w.cell? ⟨pb, o, none⟩ = some (.bool true) := c0
    clear c0 c1
    go_enter Tryz.func84, Tryz.ntmps84
    go_wp2_with fail
    go_end0
    exact ⟨rfl, rfl⟩
end Go.Proofs.YtlhhdklendeikaaGreatDoor
