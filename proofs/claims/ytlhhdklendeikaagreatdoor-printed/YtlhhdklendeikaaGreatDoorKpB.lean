/- sameRoute (package bywaykeep). -/
import Derived.Test.YtlhhdklendeikaaGreatDoorKnB
import Derived.Test.YtlhhdklendeikaaGreatDoorRunG
namespace Go.Proofs.YtlhhdklendeikaaGreatDoor
open Go.RowKit

def sameRt (a b : Rt) : Bool := decide ((a.addr, a.len) = (b.addr, b.len)) && decide (a.path = b.path) && decide (a.marks = b.marks) && decide (a.pref = b.pref) && decide (a.med = b.med)
set_option maxRecDepth 100000 in
set_option maxHeartbeats 2000000 in
theorem sameRoute_any (a b : Rt) (ap am bp bm : Value) (w : World) (h1 : IntsAt w ap a.path) (h2 : IntsAt w am a.marks) (h3 : IntsAt w bp b.path) (h4 : IntsAt w bm b.marks) :
    Calls Tryz.prog 15 #[rtV a ap am, rtV b bp bm] w fun e w' => e = .returned (.bool (sameRt a b)) ∧ Below w.heap.size w w' := by
  obtain ⟨n1, n2, sz⟩ := two_new w (rtBlk a ap am) (rtBlk b bp bm)
  obtain ⟨W0, hW0⟩ : ∃ W0, (w.alloc (rtBlk a ap am)).alloc (rtBlk b bp bm) = W0 := ⟨_, rfl⟩
  rw [hW0] at n1 n2 sz
  have hb0 : Below w.heap.size w W0 := by rw [← hW0]; exact ((Below.refl _ _).alloc (Nat.le_refl _) _).alloc (by simp) _
  have HN1 := hide n1
  have HN2 := hide n2
  have HB0 := hide hb0
  have HS := hide sz
  have HI := hide (show ∀ W, Below W0.heap.size W0 W → IntsAt W ap a.path ∧ IntsAt W am a.marks ∧ IntsAt W bp b.path ∧ IntsAt W bm b.marks from fun W hW => ⟨(h1.below hb0).below hW, (h2.below hb0).below hW, (h3.below hb0).below hW, (h4.below hb0).below hW⟩)
  obtain ⟨c0, c1, c2, c3, c4, c5, cz⟩ := rt6 n1
  obtain ⟨d0, d1, d2, d3, d4, d5, dz⟩ := rt6 n2
  obtain ⟨q1, k1, m1, hap⟩ := reads_form (ints_reads h1)
  obtain ⟨q2, k2, m2, ham⟩ := reads_form (ints_reads h2)
  obtain ⟨q3, k3, m3, hbp⟩ := reads_form (ints_reads h3)
  obtain ⟨q4, k4, m4, hbm⟩ := reads_form (ints_reads h4)
  clear h1 h2 h3 h4 n1 n2 hb0 sz
  subst hap ham hbp hbm
  unfold rtBlk at hW0
  have EQ := hide (show sameRt a b = (decide ((a.addr, a.len) = (b.addr, b.len)) && decide (a.path = b.path) && decide (a.marks = b.marks) && decide (a.pref = b.pref) && decide (a.med = b.med)) from rfl)
  have HP1 := hide (fun (W : World) (hW : Below W0.heap.size W0 W) => sameInts_any a.path b.path _ _ _ ((unhide HI) W hW).1 ((unhide HI) W hW).2.2.1)
  have HP2 := hide (fun (W : World) (hW : Below W0.heap.size W0 W) => sameInts_any a.marks b.marks _ _ _ ((unhide HI) W hW).2.1 ((unhide HI) W hW).2.2.2)
  have HP0 := hide (sameNet_any (a.addr, a.len) (b.addr, b.len) W0)
  generalize hB1 : decide ((a.addr, a.len) = (b.addr, b.len)) = B1 at *
  generalize hB2 : decide (a.path = b.path) = B2 at *
  generalize hB3 : decide (a.marks = b.marks) = B3 at *
  unfold rtV
  go_enter Tryz.func15, Tryz.ntmps15
  go_wp2_with (first
    | (go_at_call 33; refine (unhide HP0).mono ?_; clear HP0; rintro e w1 ⟨rfl, hb1⟩; clear c0 c1 c2 c3 c4 c5 cz d0 d1 d2 d3 d4 d5 dz; have HX := hide hb1; clear hb1; obtain ⟨c0, c1, c2, c3, c4, c5, cz⟩ := rt6 (((unhide HX).block w.heap.size (by have := unhide HS; omega)).trans (unhide HN1)); obtain ⟨d0, d1, d2, d3, d4, d5, dz⟩ := rt6 (((unhide HX).block (w.heap.size + 1) (by have := unhide HS; omega)).trans (unhide HN2)))
    | (go_at_call 34; refine ((unhide HP1) _ (unhide HX)).mono ?_; clear HP1; rintro e w2 ⟨rfl, hb2⟩; clear c0 c1 c2 c3 c4 c5 cz d0 d1 d2 d3 d4 d5 dz; replace HX := hide ((unhide HX).trans (hb2.mono (unhide HX).size)); clear hb2; obtain ⟨c0, c1, c2, c3, c4, c5, cz⟩ := rt6 (((unhide HX).block w.heap.size (by have := unhide HS; omega)).trans (unhide HN1)); obtain ⟨d0, d1, d2, d3, d4, d5, dz⟩ := rt6 (((unhide HX).block (w.heap.size + 1) (by have := unhide HS; omega)).trans (unhide HN2)))
    | (go_at_call 34; refine ((unhide HP2) _ (unhide HX)).mono ?_; clear HP2; rintro e w3 ⟨rfl, hb3⟩; clear c0 c1 c2 c3 c4 c5 cz d0 d1 d2 d3 d4 d5 dz; replace HX := hide ((unhide HX).trans (hb3.mono (unhide HX).size)); clear hb3; obtain ⟨c0, c1, c2, c3, c4, c5, cz⟩ := rt6 (((unhide HX).block w.heap.size (by have := unhide HS; omega)).trans (unhide HN1)); obtain ⟨d0, d1, d2, d3, d4, d5, dz⟩ := rt6 (((unhide HX).block (w.heap.size + 1) (by have := unhide HS; omega)).trans (unhide HN2))))
  all_goals
    have hbe := (unhide HB0).trans ((unhide HX).mono (unhide HB0).size)
    clear c0 c1 c2 c3 c4 c5 cz d0 d1 d2 d3 d4 d5 dz HI HN1 HN2 HX HB0 HS
    go_ret
    refine ⟨rt_bool ?_, hbe⟩
    rw [unhide EQ]
    clear EQ hbe hB1 hB2 hB3
    first | (simp_all; done) | (simp_all; rfl) | (simp_all; exact Bool.eq_iff_iff.2 (by simp))
end Go.Proofs.YtlhhdklendeikaaGreatDoor
