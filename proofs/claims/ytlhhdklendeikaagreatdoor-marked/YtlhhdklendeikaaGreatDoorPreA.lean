/- The closure of prepend. -/
import Derived.Test.YtlhhdklendeikaaGreatDoorInsA
import Derived.Test.YtlhhdklendeikaaGreatDoorRdrO
namespace Go.Proofs.YtlhhdklendeikaaGreatDoor
open Go.RowKit

theorem RtAt.ins {W W1 w2 : World} {b : Nat} {r : Rt} {pv mv v' : Value} {l' : List Int} (h : RtAt W b r pv mv) (hb : Below W.heap.size W W1) (hl : l'.length ≤ 12)
    (ho : w2.ownsRow 0 3 1 v' l'.length (intCells l')) (hg : W1.grownBy w2 pv.ownBlock) (hat : v'.ownBlock = pv.ownBlock ∨ v'.ownBlock = some W1.heap.size) :
    RtAt (w2.setCell ⟨b, 2, none⟩ v') b { r with path := l' } v' mv ∧ Fr (RtOwn b pv mv) W (RtOwn b v' mv) (w2.setCell ⟨b, 2, none⟩ v') := by
  have hbl := heap_lt h.blk
  have hsz := hb.size
  have hbk : w2.heap[b]? = W.heap[b]? := (hg.block b (by omega) (fun e => h.ne1 e.symm)).trans (hb.block b hbl)
  have hmk : ∀ k, mv.ownBlock = some k → w2.heap[k]? = W.heap[k]? := fun k e => by
    have hk := (h.marks.lt k e).2
    refine (hg.block k (by omega) (fun e2 => ?_)).trans (hb.block k hk)
    rcases h.ne3 with h1 | h1
    · rw [h1] at e2; cases e2
    · exact h1 (e2.symm.trans e.symm)
  have hvb : v'.ownBlock ≠ some b := fun e => by
    rcases hat with h1 | h1
    · exact h.ne1 (h1.symm.trans e)
    · rw [h1] at e; cases e; omega
  have hF : Fr (RtOwn b pv mv) W (RtOwn b pv mv) w2 := (Fr.of_below hb).grown hg (fun k e => Or.inl (Or.inr (Or.inl e)))
  refine ⟨⟨?_, owns_of ho (fun k e => heap_set_other (fun e2 => hvb (by rw [e]; exact congrArg some e2))), owns_of h.marks (fun k e => (heap_set_other (fun e2 => h.ne2 (by rw [e]; exact congrArg some e2))).trans (hmk k e)), hvb, h.ne2, ?_, hl, h.n2, h.srt⟩, ?_⟩
  · rw [heap_set (hbk.trans h.blk)]; rfl
  · rcases hat with h1 | h1
    · rw [h1]; exact h.ne3
    · right; rw [h1]; intro e
      have := (h.marks.lt _ e.symm).2; omega
  · refine (hF.reown (O2 := RtOwn b v' mv) (fun k hk => ?_)).setCell (Or.inl (Or.inl rfl)) _
    rcases hk with h1 | h1 | h1
    · exact Or.inl (Or.inl h1)
    · rcases hat with h2 | h2
      · exact Or.inl (Or.inr (Or.inl (h2.symm.trans h1)))
      · rw [h2] at h1; cases h1; exact Or.inr hsz
    · exact Or.inl (Or.inr (Or.inr h1))
set_option maxRecDepth 100000 in
set_option maxHeartbeats 1000000 in
theorem prepend_run (W : World) (B : Nat) (n : Int) (hb : W.cell? ⟨B, 0, none⟩ = some (.int .i64 n)) (b : Nat) (r : Rt) (pv mv : Value) (h : RtAt W b r pv mv) :
    Calls Tryz.prog 113 (#[ptr4 b 0] ++ #[ptr4 B 0]) W (StpRes b pv mv W (prependM n r)) := by
  have HR := hide h
  obtain ⟨pa, pc, hpv⟩ := owns_form' h.path
  have c2 : W.cell? ⟨b, 2, none⟩ = some pv := cell_of_heap h.blk
  have n1 := h.n1
  by_cases hl : r.path.length = 12
  · have EQ := hide (show prependM n r = (r, 3) by rw [prependM, if_pos hl])
    clear h
    subst hpv
    have hl' : ((r.path.length : Nat) : Int) = 12 := by omega
    go_enter Tryz.func113, Tryz.ntmps113
    go_wp2_with fail
    all_goals first | (go_ret; rw [unhide EQ]; exact ⟨rfl, _, mv, unhide HR, Fr.refl _ _⟩) | skip
  · have EQ := hide (show prependM n r = ({ r with path := n :: r.path }, 0) by rw [prependM, if_neg hl])
    have hl' : ¬ ((r.path.length : Nat) : Int) = 12 := by omega
    have HI := hide (fun (W1 : World) (hW : Below W.heap.size W W1) (vb : Nat) (hvb : W1.heap[vb]? = some (.cells #[.int .i64 n] 3 (0, 0))) (hge : W.heap.size ≤ vb) =>
      ins_any W1 pv r.path 0 n vb (owns_of h.path (fun k e => hW.block k (h.path.lt k e).2)) (Nat.zero_le _) (by omega) hvb (fun e => by have := (h.path.lt _ e).2; omega))
    have z2 : W.frozen? ⟨b, 2, none⟩ = false := frozen_of_heap h.blk
    have hbl := heap_lt h.blk
    clear h
    subst hpv
    go_enter Tryz.func113, Tryz.ntmps113
    go_wp2_with fail
    go_region_with (go_at_call 109; refine ((unhide HI) _ ((Below.refl _ _).alloc (Nat.le_refl _) _).drew W.heap.size (heap_alloc_new W _) (Nat.le_refl _)).mono ?_; rintro e w2 ⟨v', rfl, ho, hg, hat⟩; obtain ⟨fa, fc, hf⟩ := owns_form' ho; have HX := hide ((unhide HR).ins ((Below.refl W.heap.size W).alloc (Nat.le_refl _) (.cells #[.int .i64 n] 3)).drew (by simp; omega) ho hg hat); have hbb : w2.heap[b]? = W.heap[b]? := (hg.block b (by simp; omega) (fun e => (unhide HR).ne1 e.symm)).trans (((Below.refl W.heap.size W).alloc (Nat.le_refl _) (.cells #[.int .i64 n] 3)).drew.block b hbl); have y2 : w2.cell? ⟨b, 2, none⟩ = some (.slice pa r.path.length pc) := (World.cell?_of_block (a := ⟨b, 2, none⟩) hbb).trans c2; have yz : w2.frozen? ⟨b, 2, none⟩ = false := (World.frozen?_of_block (a := ⟨b, 2, none⟩) hbb).trans z2; clear ho hg hat hbb; subst hf)
    all_goals
      go_wp2_with fail
      go_ret
      rw [unhide EQ]
      exact ⟨rfl, _, mv, (unhide HX).1, (unhide HX).2⟩
theorem Tryz.entPrepend : Enters Tryz.prog 113 := enters_of Tryz.func113 (by kernel_rfl) rfl
set_option maxRecDepth 100000 in
set_option maxHeartbeats 1000000 in
theorem prepend_call (w : World) (n : Int) :
    Calls Tryz.prog 82 #[.int .i64 n] w fun e w' => e = .returned (.func (.func 113) #[] #[ptr4 w.heap.size 0]) ∧ w' = w.alloc (box1 (.int .i64 n) 3) := by
  have hmf : ∀ (fn : Fn) (first cap : Array Value) (w : World), (Instr.makeFunc fn first cap).run Tryz.prog w = .ok (.func fn first cap) w := fun _ _ _ _ => rfl
  go_enter Tryz.func82, Tryz.ntmps82
  go_wp2_with fail
  go_ret
  exact ⟨rfl, rfl⟩
theorem prepend_said : MkSaid 82 prependM := by
  intro w n A hA
  refine (prepend_call w n).mono ?_
  rintro e w' ⟨rfl, rfl⟩
  refine ⟨_, rfl, rfl, Lasts.new (fun k => k = w.heap.size) (fun k hk => ⟨by subst hk; simp, hA k (by omega)⟩) (fun W hW hk => ?_)⟩
  exact ⟨_, _, rfl, Tryz.entPrepend, fun b r pv mv hr _ => prepend_run W _ n (cell1 (hk _ rfl) (heap_alloc_new w _)) b r pv mv hr⟩
end Go.Proofs.YtlhhdklendeikaaGreatDoor
