/- A script of Compile and Run is played (package bywaylaw). -/
import Derived.Test.YtgdeeodifnegiaaGreatDoorRwE
import Derived.Test.YtgdeeodifnegiaaGreatDoorLxB
namespace Go.Proofs.YtgdeeodifnegiaaGreatDoor
open Go.RowKit

/-- a step of a script, as Runs wants it -/
def OpQ (W : World) (cs : List Value) (k : Int) : Prop := ∃ a S R pv mv, OpL cs k S ∧ OpR W cs R pv mv ∧ cs[1]? = some (.int .i64 a) ∧ -9223372036854775808 ≤ a ∧ a ≤ 9223372036854775807
/-- what holds of a script's world behind each step of Runs -/
def IR (W : World) (m : Nat) (wr : World) : Prop := ∃ n b xs, XAt wr W.heap.size n b xs ∧ Fr rf.nF W (XO W.heap.size b) wr ∧ PairsAt wr (XO W.heap.size b) xs ∧ n ≤ m ∧ b.cnt ≤ 2 * m
def bk0 : Bk := ⟨.slice none 0 0, .slice none 0 0, .slice none 0 0, [], [], [], .slice none 0 0⟩
theorem xat0 (W : World) : XAt (W.alloc (.cells (worldK (.slice none 0 0)) 47)) W.heap.size 0 bk0 [] ∧ Fr rf.nF W (XO W.heap.size bk0) (W.alloc (.cells (worldK (.slice none 0 0)) 47)) := by
  have none' : ∀ k, (Value.slice none 0 0).ownBlock ≠ some k := fun k e => by simp [Value.ownBlock] at e
  refine ⟨⟨⟨heap_alloc_new _ _, World.ownsRow_nil _ _ _ _, World.ownsRow_nil _ _ _ _, World.ownsRow_nil _ _ _ _, fun r hr => (by cases hr), fun r hr => (by cases hr), fun r hr => (by cases hr), fun k hk => ?_, fun k h => absurd h (none' k), fun k h => absurd h (none' k), fun k h => absurd h (none' k)⟩, World.ownsRow_nil _ _ _ _, fun k h => absurd h (none' k)⟩, ((Fr.refl rf.nF W).alloc _).reown (fun k hk => ?_)⟩
  · rcases hk with ⟨r, hr, _⟩ | ⟨r, hr, _⟩ | ⟨r, hr, _⟩ <;> cases hr
  · rcases hk with (rfl | h | h | h) | h
    · exact Or.inr (Nat.le_refl _)
    all_goals exact absurd h (none' k)
theorem RunS.fr {wb n : Nat} {b b' : Bk} {W W' : World} {xs : List Value} (hs : RunS wb b b' W W') (h : XAt W wb n b xs) (hb : BookAt W' wb b') : XAt W' wb n b' xs ∧ Fr (XO wb b) W (XO wb b') W' := by
  have hv := hs.ps
  have lt : ∀ k, b.vp.ownBlock = some k → k < W.heap.size := fun k hk => (h.own.lt k hk).2
  refine ⟨⟨hb, ?_, fun k hk => ?_⟩, ⟨hs.os, hs.tape, hs.output, hs.size, fun k hk hO => hs.block k hk (fun e => hO (Or.inl e)), fun k hk => ?_⟩⟩
  · rw [hv]
    exact owns_of h.own (fun k hk => hs.block k (lt k hk) (h.free k hk).1)
  · rw [hv] at hk
    exact ⟨fun e => (hs.own k e).elim (h.free k hk).1 (fun e => by have := lt k hk; omega), fun e => (hs.recs k e).elim (h.free k hk).2 (fun e => by have := lt k hk; omega)⟩
  · rcases hk with hk | hk
    · exact (hs.own k hk).imp Or.inl id
    · rw [hv] at hk; exact Or.inl (Or.inr hk)
theorem play_runs (W : World) (ht : TokTabs W) : Play W (OpQ W) (IR W) 1 3 8000000 where
  op := fun cs k ⟨_, _, _, _, _, h, _⟩ => ⟨h.len, h.kind⟩
  be := fun m wr ⟨n, b, xs, _, hf, _⟩ => rf.Fr.nF_below hf
  stay := fun m wr wr' ⟨n, b, xs, h, hf, hp, hn, hc⟩ hb => ⟨n, b, xs, h.below hb, hf.below hb, hp.fr (Fr.of_below hb), hn, hc⟩
  zero := ⟨0, bk0, [], (xat0 W).1, (xat0 W).2, fun i a b h => by simp at h, Nat.le_refl _, by simp [Bk.cnt, bk0]⟩
  step := fun m wr cs k ⟨n, b, xs, h, hf, hp, hn, hc⟩ hm ho hk => by
    have hbe := rf.Fr.nF_below hf
    obtain ⟨a, S, R, pv, mv, hol, hor, h1, h2, h3⟩ := ho
    rcases hk with rfl | rfl
    · refine (xstep1 h (by omega) hol (ht.below hbe)).mono ?_
      rintro e w1 ⟨rfl, n', b', xs', g1, g2, gc, g3, g4⟩
      refine ⟨rfl, n', b', xs', g2, hf.trans g3, ?_, by omega, by omega⟩
      rcases g4 with rfl | ⟨a, c, rfl, g4⟩
      · exact hp.fr g3
      · exact (hp.fr g3).snoc h.own.1 g4
    · refine (xstep3 h hp (by omega) (by omega) hol (hor.below hbe) h1 h2 h3).mono ?_
      rintro e w1 ⟨rfl, b', g1, g2⟩
      obtain ⟨g3, g4⟩ := g2.fr h g1
      have gc := g2.cnt
      exact ⟨rfl, n, b', xs, g3, hf.trans g4, hp.fr g4, by omega, by omega⟩
  look := fun m wr ⟨n, b, xs, h, hf, hp, hn, hc⟩ hm => by
    refine (looks_any b W.heap.size wr h.book (by omega)).mono ?_
    rintro e w1 ⟨rfl, hb⟩
    exact ⟨rfl, n, b, xs, h.below hb, hf.below hb, hp.fr (Fr.of_below hb), hn, hc⟩
end Go.Proofs.YtgdeeodifnegiaaGreatDoor
