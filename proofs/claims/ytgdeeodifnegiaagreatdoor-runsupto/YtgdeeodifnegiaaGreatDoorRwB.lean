/- A policy is run by the program and by the document: alike (package bywaylaw: what World.run calls). -/
import Derived.Test.YtgdeeodifnegiaaGreatDoorRwA
import Derived.Test.YtgdeeodifnegiaaGreatDoorRnV
import Derived.Test.YtgdeeodifnegiaaGreatDoorRnW
import Derived.Test.YtgdeeodifnegiaaGreatDoorLwA
import Derived.Test.YtgdeeodifnegiaaGreatDoorLawH
import Derived.Test.YtgdeeodifnegiaaGreatDoorLawJ
namespace Go.Proofs.YtgdeeodifnegiaaGreatDoor
open Go.RowKit

theorem brun_all {W : World} {A : Nat → Prop} {pp : Nat} {ms : List StpM} {x : ByteArray} (hl : Lasts W A (PolX pp ms x)) {R : Rt} {pv mv : Value} (hp : IntsAt W pv R.path) (hm : IntsAt W mv R.marks) (i1 : inI R.addr) (i2 : inI R.len) :
    Calls Tryz.prog 44 #[ptr4 pp 0, rtV R pv mv] W fun e w' => ∃ pv' mv', e = .returned (.tuple #[rtV (rf.runE ms R).1 pv' mv', .int .i64 (rf.runE ms R).2.1, .int .i64 (rf.runE ms R).2.2]) ∧ RtVal w' W.heap.size (rf.runE ms R).1 pv' mv' ∧ Below W.heap.size W w' := by
  unfold rf.runE
  cases hok : rtOk R with
  | true =>
    obtain ⟨K, hK, hQ⟩ := hl
    have ho := rf.rtOk_ok hok
    exact brun_any W K pp ms (fun k hk => (hK k hk).1) (fun V h1 h2 => (hQ V h1 h2).c) W (Nat.le_refl _) (fun _ _ => rfl) R pv mv hp hm i1 i2 ho.path ho.marks hok
  | false =>
    refine (brun_bad hp hm i1 i2 hok).mono ?_
    rintro e w' ⟨rfl, hb⟩
    exact ⟨_, _, rfl, RtVal.zero _ _, hb⟩
theorem rrun_all {W : World} {A : Nat → Prop} {s : ByteArray} {ms : List StpM} {x : ByteArray} {c : rf.PS × List rf.Df × List rf.Tr} {r : RS × List (Option StpM)} {qq : Nat} (hB : Both s ms x c r) (hl : Lasts W A (rf.PolR qq c.2.1 c.2.2 c.1.taken c.1.lines)) {R : Rt} {pv mv : Value} (hp : IntsAt W pv R.path) (hm : IntsAt W mv R.marks) (i1 : inI R.addr) (i2 : inI R.len) (i3 : inI R.pref) (i4 : inI R.med) :
    Calls Tryz.prog 45 #[ptr4 qq 0, rtV R pv mv] W (rf.RunP W (rf.runE ms R)) := by
  unfold rf.runE
  cases hok : rtOk R with
  | true => exact rf.rrun_ok hB.sim.defs (hB.sim.stp ms (by rw [hB.steps]; exact allO_map ms)) hl hp hm i1 i2 i3 i4 hok
  | false => exact rf.rrun_bad hp hm i1 i2 i3 i4 hok
theorem runE_len {Ds : List DefP} {ks : List rf.Tr} {ms : List StpM} (h : StpsT Ds ks ms) (R : Rt) : (rf.runE ms R).1.path.length ≤ 12 ∧ (rf.runE ms R).1.marks.length ≤ 8 := by
  unfold rf.runE
  cases hok : rtOk R with
  | true =>
    rw [if_pos rfl]
    dsimp only
    unfold runM
    split
    · have := rf.keep_perform (rf.stps_keeps h) R (rf.rtOk_ok hok)
      exact ⟨this.path, this.marks⟩
    · simp [rt0]
  | false => rw [if_neg (by decide)]; simp [rt0]
theorem PutR.from {wb : Nat} {b b' : Bk} {l : Value} {W V W' : World} (P : PutR wb b b' l V W') (hV : Below W.heap.size W V) : PutR wb b b' l W W' := by
  have hs := hV.size
  exact ⟨P.os.trans hV.os, P.tape.trans hV.tape, P.output.trans hV.output, Nat.le_trans hs P.size, fun k h1 h2 h3 => (P.block k (by omega) h2 h3).trans (hV.block k h1), fun k h => (P.own k h).imp id (fun h => by omega), fun k h => (P.recs k h).imp id (Or.imp id (fun h => by omega)), P.cnt, P.ps⟩
/-! ## lists that are lent -/
theorem LentI.set {w w' : World} {x v : Value} {L : List Int} (h : LentI w w' x v L) {b o : Nat} (hb : b < w.heap.size) (u : Value) : LentI w (w'.setCell ⟨b, o, none⟩ u) x v L := by
  rcases h with h | ⟨a, c, g, h1, h2, h3, hg⟩
  · exact Or.inl h
  · exact Or.inr ⟨a, c, g, h1, h2, h3, by rw [heap_set_other (by simp only; omega)]; exact hg⟩
theorem LentI.keep {w w' w'' : World} {x v : Value} {L : List Int} {O O' : Nat → Prop} (h : LentI w w' x v L) (hf : Fr O w' O' w'') (hv : ∀ k, v.ownBlock = some k → ¬ O k) : LentI w w'' x v L := by
  rcases h with h | ⟨a, c, g, h1, h2, h3, hg⟩
  · exact Or.inl h
  · exact Or.inr ⟨a, c, g, h1, h2, h3, (hf.block g (heap_lt hg) (hv g (by rw [h2]; rfl))).trans hg⟩
theorem LentI.blk {w w' : World} {x v : Value} {L : List Int} (h : LentI w w' x v L) : ∀ k, v.ownBlock = some k → w.heap.size ≤ k ∧ k < w'.heap.size := by
  intro k hk
  rcases h with ⟨_, h, _⟩ | ⟨a, c, g, h1, h2, h3, hg⟩
  · rw [h] at hk; simp [Value.ownBlock] at hk
  · rw [h2] at hk
    have : g = k := by simpa [Value.ownBlock] using hk
    subst this
    exact ⟨h3, heap_lt hg⟩
theorem LentI.sl {w w' : World} {x v : Value} {L : List Int} (h : LentI w w' x v L) : ∃ q c, v = .slice q L.length c := by
  rcases h with ⟨_, h, h2⟩ | ⟨a, c, g, h1, h2, h3, hg⟩
  · exact ⟨none, 0, by rw [h, h2]; rfl⟩
  · exact ⟨_, _, h2⟩
theorem Fr.belowO {B : Nat} {W w w' : World} {O O' : Nat → Prop} (h : Fr O w O' w') (hb : Below B W w) (hB : B ≤ w.heap.size) (hO : ∀ k, O k → B ≤ k) : Below B W w' :=
  hb.trans ⟨h.os, h.tape, h.output, h.size, fun k hk => h.block k (by omega) (fun ho => by have := hO k ho; omega)⟩
theorem ints_lt {w : World} {v : Value} {l : List Int} (h : IntsAt w v l) : l = [] ∨ ∀ k, v.ownBlock = some k → k < w.heap.size := by
  obtain ⟨p, c, rfl, _, _, _, hr⟩ := h
  rcases hr with ⟨h, _⟩ | ⟨b, o, rfl, hb, _⟩
  · exact Or.inl h
  · exact Or.inr (fun k hk => by have : b = k := by simpa [Value.ownBlock] using hk
                                 omega)
theorem ints_in {w : World} {v : Value} {l : List Int} (h : IntsAt w v l) : ∀ y ∈ l, inI y := by obtain ⟨_, _, _, _, _, h, _⟩ := h; exact h
end Go.Proofs.YtgdeeodifnegiaaGreatDoor
