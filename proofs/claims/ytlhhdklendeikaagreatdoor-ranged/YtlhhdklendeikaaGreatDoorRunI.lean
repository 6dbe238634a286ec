/- A policy is run with a route (package byway). -/
import Derived.Test.YtlhhdklendeikaaGreatDoorRunG
import Derived.Test.YtlhhdklendeikaaGreatDoorCmpA
import Derived.Test.YtlhhdklendeikaaGreatDoorRtV
namespace Go.Proofs.YtlhhdklendeikaaGreatDoor
open Go.RowKit

def rtOk (r : Rt) : Bool := routeOkB (r.addr, r.len) r.path r.marks r.pref r.med
theorem rises_pw : ∀ {l : List Int} {n : Int}, rises n l → l.Pairwise (· < ·) ∧ ∀ x ∈ l, n ≤ x
  | [], _, _ => ⟨List.Pairwise.nil, fun x hx => by cases hx⟩
  | y :: l, n, h => by
    obtain ⟨h1, _, h3⟩ := rises_cons.1 h
    obtain ⟨i1, i2⟩ := rises_pw h3
    refine ⟨List.pairwise_cons.2 ⟨fun x hx => by have := i2 x hx; omega, i1⟩, fun x hx => ?_⟩
    rcases List.mem_cons.1 hx with rfl | hx
    · exact h1
    · have := i2 x hx; omega
theorem rtOk_sorted {r : Rt} (h : rtOk r = true) : r.marks.Pairwise (· < ·) := by
  have h1 : routeOk (r.addr, r.len) r.path r.marks r.pref r.med := of_decide_eq_true h
  exact (rises_pw h1.2.2.1.2).1
set_option maxRecDepth 100000 in
set_option maxHeartbeats 4000000 in
theorem brun_any (w0 : World) (K : Nat → Prop) (pp : Nat) (ms : List StpM) (hK : ∀ k, K k → k < w0.heap.size) (HS : ∀ V, w0.heap.size ≤ V.heap.size → (∀ k, K k → V.heap[k]? = w0.heap[k]?) → PolC pp ms K V)
    (w : World) (hw : w0.heap.size ≤ w.heap.size) (hag : ∀ k, K k → w.heap[k]? = w0.heap[k]?) (r : Rt) (pv mv : Value) (hp : IntsAt w pv r.path) (hm : IntsAt w mv r.marks) (i1 : inI r.addr) (i2 : inI r.len) (n1 : r.path.length ≤ 12) (n2 : r.marks.length ≤ 8) (hok : rtOk r = true) :
    Calls Tryz.prog 14 #[ptr4 pp 0, rtV r pv mv] w fun e w' => ∃ pv' mv', e = .returned (.tuple #[rtV (runM ms r).1 pv' mv', .int .i64 (runM ms r).2, .int .i64 0]) ∧ RtVal w' w.heap.size (runM ms r).1 pv' mv' ∧ Below w.heap.size w w' := by
  obtain ⟨kp, p, sv, hpb, hst⟩ := HS w hw hag
  obtain ⟨sa, sn, sc, hsv⟩ : ∃ a n c, sv = .slice a n c := by
    obtain ⟨_, vs, _, h2, _⟩ := hst
    rcases h2 with ⟨_, h2⟩ | ⟨S, cap, h2, _⟩
    · exact ⟨_, _, _, h2⟩
    · exact ⟨_, _, _, h2⟩
  have hst2 : ∀ V, w0.heap.size ≤ V.heap.size → (∀ k, K k → V.heap[k]? = w0.heap[k]?) → StepsC sv ms K V := fun V hV hk => by
    obtain ⟨_, p2, sv2, hb2, hs2⟩ := HS V hV hk
    have e := hb2.symm.trans ((hk pp kp).trans ((hag pp kp).symm.trans hpb))
    simp only [Option.some.injEq, Obj.cells.injEq, and_true] at e
    have e2 : sv2 = sv := by have := congrArg (fun a => a[1]?) e; simpa using this
    rw [← e2]; exact hs2
  obtain ⟨a1, b1, c1, hpv⟩ := reads_form (ints_reads hp)
  obtain ⟨a2, b2, c2, hmv⟩ := reads_form (ints_reads hm)
  obtain ⟨q1, q2, qs⟩ := two_new w (rtBlk r pv mv) (rtBlk rt0 (.slice none 0 0) (.slice none 0 0))
  obtain ⟨W0, hW0⟩ : ∃ W0, (w.alloc (rtBlk r pv mv)).alloc (rtBlk rt0 (.slice none 0 0) (.slice none 0 0)) = W0 := ⟨_, rfl⟩
  have hb0 : Below w.heap.size w W0 := by rw [← hW0]; exact ((Below.refl _ _).alloc (Nat.le_refl _) _).alloc (by rw [World.size_alloc]; omega) _
  rw [hW0] at q1 q2 qs
  have HV := hide (RValid_any (r.addr, r.len) r.path r.marks r.pref r.med pv mv W0 i1 i2 (hp.below hb0) (hm.below hb0))
  rw [show routeOkB (r.addr, r.len) r.path r.marks r.pref r.med = true from hok] at HV
  obtain ⟨c0, c1', c2', c3, c4, c5, cz⟩ := rt6 q1
  have HQ1 := hide q1
  have HQ2 := hide q2
  have HB0 := hide hb0
  have HHS := hide hst2
  have HHK := hide hK
  have HAG := hide hag
  have HP := hide hp
  have HM := hide hm
  have HPB := hide hpb
  have lpp : pp < w.heap.size := heap_lt hpb
  clear hp hm hb0 q1 q2 HS hK hag hst hst2 hpb
  subst hpv hmv hsv
  have hW0' := hW0
  unfold rtBlk rt0 at hW0'
  go_enter Tryz.func14, Tryz.ntmps14
  go_wp2_with fail
  refine (unhide HV).mono ?_
  rintro e w1 ⟨rfl, hb1⟩
  have p1 := (hb1.block w.heap.size (by omega)).trans (unhide HQ1)
  have p2 := (hb1.block (w.heap.size + 1) (by omega)).trans (unhide HQ2)
  have p3 := (hb1.block pp (by omega)).trans (((unhide HB0).block pp lpp).trans (unhide HPB))
  obtain ⟨s0, s1, s2, s3, s4, s5, hz⟩ := rt6 p1
  obtain ⟨z0, z1, z2, z3, z4, z5, zz⟩ := rt6 p2
  have u0 : w1.cell? ⟨pp, 0, none⟩ = some (.string p) := cell_of_heap p3
  have u1 : w1.cell? ⟨pp, 1, none⟩ = some (.slice sa sn sc) := cell_of_heap p3
  have hBw1 := (unhide HB0).trans (hb1.mono (unhide HB0).size)
  have HBw1 := hide hBw1
  have HP2 := hide p2
  have hs1 := hb1.size
  have HPR := hide (fun (W : World) (hW : Below w1.heap.size w1 W) => prun_any w0 K p (.slice sa sn sc) ms (unhide HHK) (unhide HHS) W (by have := hW.size; omega) (fun k hk => (hW.block k (by have := (unhide HHK) k hk; omega)).trans ((hBw1.block k (by have := (unhide HHK) k hk; omega)).trans ((unhide HAG) k hk))) r _ _ (((unhide HP).below hBw1).below hW) (((unhide HM).below hBw1).below hW) n1 n2 (rtOk_sorted hok))
  have lw : w.heap.size < w1.heap.size := by omega
  have lpw : pp < w1.heap.size := by omega
  have hal := (bcell' ((Below.refl w1.heap.size w1).alloc (Nat.le_refl _) (.cells #[.int .i64 0, .int .i64 0, .slice none 0 0, .slice none 0 0, .int .i64 0, .int .i64 0] 32))).1
  have s0' := (hal w.heap.size 0 lw).trans s0
  have s1' := (hal w.heap.size 1 lw).trans s1
  have s2' := (hal w.heap.size 2 lw).trans s2
  have s3' := (hal w.heap.size 3 lw).trans s3
  have s4' := (hal w.heap.size 4 lw).trans s4
  have s5' := (hal w.heap.size 5 lw).trans s5
  have u0' := (hal pp 0 lpw).trans u0
  have u1' := (hal pp 1 lpw).trans u1
  clear hal
  clear hb1 p1 p2 p3 hBw1 c0 c1' c2' c3 c4 c5 cz
  go_wp2_with fail
  go_region_with (go_at_call 32; refine ((unhide HPR) _ (by first | exact (Below.refl _ _).drew | exact ((Below.refl _ _).alloc (Nat.le_refl _) _).drew | exact (Below.refl _ _).drew.alloc (Nat.le_refl _) _)).mono ?_; rintro e w2 ⟨pv2, mv2, rfl, hrv, hb2⟩; obtain ⟨f1, f2, hf1⟩ := owns_form' hrv.1; obtain ⟨f3, f4, hf3⟩ := owns_form' hrv.2.1; (try (have zb : w2.heap[w1.heap.size]? = some (rtBlk rt0 (.slice none 0 0) (.slice none 0 0)) := (hb2.block w1.heap.size (by simp)).trans (heap_alloc_new w1 _); obtain ⟨y0, y1, y2, y3, y4, y5, yz⟩ := rt6 zb; have ZB := hide zb; clear zb)); have hbx : Below w1.heap.size w1 w2 := (by first | exact ((Below.refl _ _).drew).trans (hb2.mono (Nat.le_refl _)) | exact (((Below.refl _ _).alloc (Nat.le_refl _) _).drew).trans (hb2.mono (by simp))); have HBX := hide hbx; have HRV := hide hrv; clear hrv hb2 hbx; subst hf1 hf3)
  all_goals
    obtain ⟨g0, g1, g2, g3, g4, g5, gz⟩ := rt6 (((unhide HBX).block (w.heap.size + 1) (by omega)).trans (unhide HP2))
    have lx : w.heap.size + 1 < w2.heap.size := by have h := (unhide HBX).size; omega
    have lx1 : w1.heap.size ≤ w2.heap.size := (unhide HBX).size
    first | (have zb2 : Hid (w2.heap[w1.heap.size]? = some (rtBlk rt0 (.slice none 0 0) (.slice none 0 0))) := by assumption; have zb3 := rt6 (unhide zb2); obtain ⟨y0, y1, y2, y3, y4, y5, yz⟩ := zb3) | skip
    go_wp2_with fail
    refine bodyPost_ret (v := .tuple #[rtV (runM ms r).1 (.slice f1 (runM ms r).1.path.length f2) (.slice f3 (runM ms r).1.marks.length f4), .int .i64 (runM ms r).2, .int .i64 0]) (by simp [results, Tryz.results14, go_sem, g0, g1, g2, g3, g4, g5, lx]) rfl ?_
    have hv := unhide HRV
    have hbw := (unhide HBw1).trans ((unhide HBX).mono (unhide HBw1).size)
    have hk1 : ∀ k, (Value.slice f1 (runM ms r).1.path.length f2).ownBlock = some k → w1.heap.size ≤ k := fun k e => by have h := hv.2.2.1 k e; simp at h; omega
    have hk2 : ∀ k, (Value.slice f3 (runM ms r).1.marks.length f4).ownBlock = some k → w1.heap.size ≤ k := fun k e => by have h := hv.2.2.2 k e; simp at h; omega
    refine ⟨_, _, rfl, ⟨?_, ?_, fun k e => by have h := hk1 k e; omega, fun k e => by have h := hk2 k e; omega⟩, ?_⟩
    · refine owns_of hv.1 (fun k e => ?_)
      have h := hk1 k e
      have h2 := hv.2.2.1 k e
      first
        | (rw [set6_other (by omega), set6_other (by simp at h2; omega)])
        | (rw [Below.heap_alloc _ _ _ (by rw [set6_size]; exact (hv.1.lt k e).2), set6_other (by omega)])
    · refine owns_of hv.2.1 (fun k e => ?_)
      have h := hk2 k e
      have h2 := hv.2.2.2 k e
      first
        | (rw [set6_other (by omega), set6_other (by simp at h2; omega)])
        | (rw [Below.heap_alloc _ _ _ (by rw [set6_size]; exact (hv.2.1.lt k e).2), set6_other (by omega)])
    · first
        | with_reducible exact set6_below (set6_below hbw (by omega)) (by omega)
        | (with_reducible refine Below.alloc (set6_below hbw (by omega)) ?_ _); (rw [set6_size]; omega)
end Go.Proofs.YtlhhdklendeikaaGreatDoor
