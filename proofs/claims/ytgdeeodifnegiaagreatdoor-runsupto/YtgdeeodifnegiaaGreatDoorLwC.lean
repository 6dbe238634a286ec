/- The statement's own call (package bywaylaw): taken, Compiles. -/
import Derived.Test.YtgdeeodifnegiaaGreatDoorLwB
namespace Go.Proofs.YtgdeeodifnegiaaGreatDoor
open Go.RowKit

def takenS : ByteArray := ⟨#[105, 102, 32, 112, 114, 101, 102, 32, 60, 32, 49, 48, 48, 32, 116, 104, 101, 110, 32, 123, 32, 114, 101, 106, 101, 99, 116, 59, 32, 125, 32, 112, 114, 101, 112, 101, 110, 100, 32, 55, 59, 32, 97, 99, 99, 101, 112, 116, 59]⟩
def takenL : List Value := [.int .i64 1, .int .i64 0, .int .i64 0, .string takenS, .int .i64 0, .int .i64 0, .slice none 0 0, .slice none 0 0, .int .i64 0, .int .i64 0, .slice none 0 0, .slice none 0 0, .slice none 0 0, .slice none 0 0, .int .i64 0, .int .i64 0, .slice none 0 0, .slice none 0 0]
theorem takenL_ok : OpL takenL 1 takenS := ⟨rfl, rfl, rfl⟩
set_option maxRecDepth 100000 in
set_option maxHeartbeats 3200000 in
theorem taken_op (W : World) : Calls Tryz.prog 7 #[] W fun e W' => e = .returned (.agg takenL.toArray) ∧ Below W.heap.size W W' := by
  go_enter Tryz.func7, Tryz.ntmps7
  go_wp2_with fail
  refine bodyPost_ret (results_cell_row Tryz.results7 _ _ W.heap.size _ _ _ _ rfl (heap_alloc_new W (.cells takenL.toArray 33)) Tryz.underlying33 rfl (by kernel_rfl)) rfl ?_
  exact ⟨rfl, (Below.refl W.heap.size W).alloc (Nat.le_refl _) _⟩
theorem below_twoL (W : World) (a b : Obj) : Below W.heap.size W ((W.alloc a).alloc b) :=
  ((Below.refl W.heap.size W).alloc (Nat.le_refl _) a).alloc (by simp) b
theorem heap_twoL (W : World) (a b : Obj) : ((W.alloc a).alloc b).heap[W.heap.size]? = some a ∧ ((W.alloc a).alloc b).heap[W.heap.size + 1]? = some b := by
  have sz : (W.alloc a).heap.size = W.heap.size + 1 := by simp
  refine ⟨?_, ?_⟩
  · show ((W.alloc a).heap.push b)[W.heap.size]? = some a
    rw [Array.getElem?_push, if_neg (by omega)]
    exact heap_alloc_new W a
  · rw [← sz]
    exact heap_alloc_new (W.alloc a) b
set_option maxRecDepth 100000 in
set_option maxHeartbeats 6400000 in
theorem compiles_any (S : List (List Value)) (vs : Value) (W : World) (ht : TokTabs W) (hS : ScriptC W vs S) :
    Calls Tryz.prog 3 #[vs] W fun e W' => e = .returned (.bool true) ∧ Below W.heap.size W W' := by
  have HT := hide ht
  have HS := hide hS
  obtain ⟨ps, cs, rfl, -⟩ := hS
  clear ht
  go_enter Tryz.func3, Tryz.ntmps3
  go_wp2_with fail
  refine (taken_op W).mono ?_
  rintro e w1 ⟨rfl, hb⟩
  have HB := hide hb
  clear hb
  go_wp2_with fail
  obtain ⟨q1, q2⟩ := heap_twoL w1 (.cells takenL.toArray 33) (.cells #[.int .i64 1] 3)
  have s1 := (unhide HB).size
  have B2 := hide (below_twoL w1 (.cells takenL.toArray 33) (.cells #[.int .i64 1] 3))
  have BW := hide ((unhide HB).trans ((unhide B2).mono s1))
  have s2 := (unhide BW).size
  refine (wplays S takenL takenS (.slice ps S.length cs) w1.heap.size (w1.heap.size + 1) _ ((unhide HT).below (unhide BW)) q1 takenL_ok ((unhide HS).below (unhide BW)) q2).mono ?_
  rintro e w2 ⟨rfl, hb2⟩
  have B3 := hide ((unhide BW).trans (hb2.mono s2))
  clear hb2 q1 q2
  go_wp2_with fail
  go_ret
  exact ⟨rfl, unhide B3⟩
end Go.Proofs.YtgdeeodifnegiaaGreatDoor
