/- Sided (package bywaykeep): it answers true. -/
import Derived.Test.YtlhhdklendeikaaGreatDoorSidV
import Derived.Test.YtlhhdklendeikaaGreatDoorGrdA
import Derived.Deep.CutRange
namespace Go.Proofs.YtlhhdklendeikaaGreatDoor
open Go.RowKit

/-- what holds in every world behind this one -/
def Since (w : World) (P : World → Prop) : Prop := ∀ W, Below w.heap.size w W → P W
theorem Since.on {a b : World} {P : World → Prop} (h : Since a P) (hb : Below a.heap.size a b) : Since b P := fun W hW => h W (hb.trans (hW.mono hb.size))
theorem Since.and {a : World} {P Q : World → Prop} (h : Since a P) (h2 : Since a Q) : Since a (fun W => P W ∧ Q W) := fun W hW => ⟨h W hW, h2 W hW⟩
/-- a route's two rows may be read -/
def RtI (W : World) (r : Rt) (pv mv : Value) : Prop := IntsAt W pv r.path ∧ IntsAt W mv r.marks
theorem RtI.below {w w' : World} {r : Rt} {pv mv : Value} (h : RtI w r pv mv) (hb : Below w.heap.size w w') : RtI w' r pv mv := ⟨h.1.below hb, h.2.below hb⟩
/-- a policy that may be run -/
def RunC (pp : Nat) (ms : List StpM) (W : World) : Prop := ∀ (r : Rt) (pv mv : Value), RtI W r pv mv → Room r → AllIn (runM ms r).1 →
  Calls Tryz.prog 14 #[ptr4 pp 0, rtV r pv mv] W fun e w' => ∃ pv' mv', e = .returned (.tuple #[rtV (runM ms r).1 pv' mv', .int .i64 (runM ms r).2, .int .i64 0]) ∧ RtVal w' W.heap.size (runM ms r).1 pv' mv' ∧ Below W.heap.size W w'
theorem run_since {s : ByteArray} {ms : List StpM} (hr : ReadOk s ms) (w : World) (ht : TokTabs w) : Since w (fun W => Calls Tryz.prog 10 #[.string s] W fun e w' => ∃ pp, e = .returned (ptr4 pp 0) ∧ Below W.heap.size W w' ∧ Since w' (RunC pp ms)) := fun W hW => by
  refine (compiled_ok hr W (ht.below hW)).mono ?_
  rintro e w' ⟨pp, rfl, hb, hl⟩
  refine ⟨pp, rfl, hb, fun V hV r pv mv hi hroom hall => ?_⟩
  have h0 := hroom.all
  obtain ⟨⟨⟨a0, a1⟩, ⟨l0, l1⟩, _⟩, _⟩ := (of_decide_eq_true hroom.ok : routeOk (r.addr, r.len) r.path r.marks r.pref r.med)
  dsimp only at a0 a1 l0 l1
  refine (run_ok hl V hV r pv mv hi.1 hi.2 ⟨by omega, by omega⟩ ⟨by omega, by omega⟩ (by have := hroom.path; omega) (by have := hroom.marks; omega) hroom.ok).mono ?_
  rintro e w' ⟨pv', mv', rfl, hv, hb⟩
  exact ⟨pv', mv', rfl, hv, hb⟩
theorem RtVal.toI {w : World} {n0 : Nat} {r : Rt} {pv mv : Value} (h : RtVal w n0 r pv mv) (ha : AllIn r) : RtI w r pv mv :=
  ⟨IntsAt.own (show w.ownsRow 0 3 1 pv _ _ from h.1) ha.1 (by have := ha.2.2.1; omega), IntsAt.own (show w.ownsRow 0 3 1 mv _ _ from h.2.1) ha.2.1 (by have := ha.2.2.2; omega)⟩
theorem RtVal.keep {w w' : World} {n0 : Nat} {r : Rt} {pv mv : Value} (h : RtVal w n0 r pv mv) (hk : ∀ k, n0 ≤ k → k < w.heap.size → w'.heap[k]? = w.heap[k]?) : RtVal w' n0 r pv mv :=
  ⟨owns_of h.1 (fun k e => hk k (h.2.2.1 k e) (h.1.lt k e).2), owns_of h.2.1 (fun k e => hk k (h.2.2.2 k e) (h.2.1.lt k e).2), h.2.2⟩
theorem bad_since {s : ByteArray} (hr : ReadBad s) (w : World) (ht : TokTabs w) : Since w (fun W => Calls Tryz.prog 10 #[.string s] W fun e w' => e = .returned (.pointer none) ∧ Below W.heap.size W w') := fun W hW => compiled_bad hr W (ht.below hW)
theorem route_rt (l : List Int) (x : Value) (w : World) (h : IntsAt w x l) : Calls Tryz.prog 13 #[x] w fun e w' => ∃ q1 n1 c1 q2 n2 c2, e = .returned (rtV (rteR l) (.slice q1 n1 c1) (.slice q2 n2 c2)) ∧ RtI w' (rteR l) (.slice q1 n1 c1) (.slice q2 n2 c2) ∧ Below w.heap.size w w' := by
  refine (route_any l x w h).mono ?_
  rintro e w' ⟨vp, vm, rfl, hp, hm, hb⟩
  have hall := (rteR_room l).all
  have i1 : IntsAt w' vp (rteR l).path := IntsAt.own hp hall.1 (by have := hall.2.2.1; omega)
  have i2 : IntsAt w' vm (rteR l).marks := IntsAt.own hm hall.2.1 (by have := hall.2.2.2; omega)
  obtain ⟨q1, n1, c1, rfl⟩ := reads_form (ints_reads i1)
  obtain ⟨q2, n2, c2, rfl⟩ := reads_form (ints_reads i2)
  exact ⟨q1, n1, c1, q2, n2, c2, rfl, ⟨i1, i2⟩, hb⟩
/-- a run, its rows told as slices -/
theorem RunC.sl {pp : Nat} {ms : List StpM} {W : World} (h : RunC pp ms W) {r R : Rt} {v : Int} {pv mv : Value} (hi : RtI W r pv mv) (hr : Room r) (he : runM ms r = (R, v)) (ha : AllIn R) :
    Calls Tryz.prog 14 #[ptr4 pp 0, rtV r pv mv] W fun e w' => ∃ q1 n1 c1 q2 n2 c2, e = .returned (.tuple #[rtV R (.slice q1 n1 c1) (.slice q2 n2 c2), .int .i64 v, .int .i64 0]) ∧ RtVal w' W.heap.size R (.slice q1 n1 c1) (.slice q2 n2 c2) ∧ Below W.heap.size W w' := by
  have h1 := h r pv mv hi hr (by rw [he]; exact ha)
  rw [he] at h1
  refine h1.mono ?_
  rintro e w' ⟨pv', mv', rfl, hi', hb⟩
  obtain ⟨q1, c1, rfl⟩ := owns_form' hi'.1
  obtain ⟨q2, c2, rfl⟩ := owns_form' hi'.2.1
  exact ⟨q1, _, c1, q2, _, c2, rfl, hi', hb⟩
theorem same_self (r : Rt) : sameRt r r = true := by simp [sameRt]
theorem same_any {a b : Rt} {ap am bp bm : Value} {w : World} (h1 : RtI w a ap am) (h2 : RtI w b bp bm) : Calls Tryz.prog 15 #[rtV a ap am, rtV b bp bm] w fun e w' => e = .returned (.bool (sameRt a b)) ∧ Below w.heap.size w w' := sameRoute_any a b ap am bp bm w h1.1 h1.2 h2.1 h2.2
set_option maxRecDepth 100000 in
set_option maxHeartbeats 20000000 in
theorem sided_any (w : World) (ht : TokTabs w) (hpt : PowTab w) (la lb : List Int) (ls : List (List Int)) (x y z : Value) (hx : IntsAt w x la) (hy : IntsAt w y lb) (hz : GridAt w z ls) :
    Calls Tryz.prog 6 #[x, y, z] w fun e w' => e = .returned (.bool true) ∧ Below w.heap.size w w' := by
  obtain ⟨X, hX⟩ : ∃ X, condT la 2 0 = X := ⟨_, rfl⟩
  obtain ⟨Y, hY⟩ : ∃ Y, condT lb 2 0 = Y := ⟨_, rfl⟩
  have wX := condT_ok la 2 0
  have wY := condT_ok lb 2 0
  have HWX := hide (fun (W : World) (hW : Below w.heap.size w W) => cond_any la x 2 0 (by omega) (by decide) W (hx.below hW) (hpt.below hW))
  have HWY := hide (fun (W : World) (hW : Below w.heap.size w W) => cond_any lb y 2 0 (by omega) (by decide) W (hy.below hW) (hpt.below hW))
  rw [hX] at wX HWX
  rw [hY] at wY HWY
  have lX := Ct.bs_lt wX.1 wX.2
  have lY := Ct.bs_lt wY.1 wY.2
  have okO : (Tc.or (.brk X) (.brk Y)).ok := ⟨⟨wX.1, by simp only [Ct.h]; omega⟩, ⟨wY.1, by simp only [Ct.h]; omega⟩⟩
  have lnO : (Tc.or (.brk X) (.brk Y)).bs.length ≤ 300 := by
    rw [Tc.bs_or, Ct.bs_brk, Ct.bs_brk]; simp only [List.length_append, List.length_cons, List.length_nil]; omega
  have kp := run_since (p_read (.one X) ⟨wX.1, by omega⟩ (by show X.bs.length ≤ 300; omega)) w ht
  rw [p_text] at kp
  have kq := run_since (q_read (.one (.not (.brk X))) ⟨wX.1, by simp only [Ct.h]; omega⟩ (by show (Ct.not (.brk X)).bs.length ≤ 300; rw [Ct.bs_not, Ct.bs_brk]; simp only [List.length_append, List.length_cons, List.length_nil]; omega)) w ht
  rw [q_text] at kq
  have kr := bad_since (r_read (.brk X) (.brk Y) okO (by omega)) w ht
  rw [r_text] at kr
  have ku := run_since (u_read (.or (.brk X) (.brk Y)) okO lnO) w ht
  rw [u_text] at ku
  have kv := run_since (v_read (.one (.not (.and (.not (.brk X)) (.not (.brk Y))))) ⟨⟨wX.1, wY.1⟩, by simp only [Ct.h]; omega⟩ (by show (Ct.not (.and (.not (.brk X)) (.not (.brk Y)))).bs.length ≤ 400; rw [Ct.bs_not, Ct.bs_and, Ct.bs_not, Ct.bs_not, Ct.bs_brk, Ct.bs_brk]; simp only [List.length_append, List.length_cons, List.length_nil]; omega)) w ht
  rw [v_text] at kv
  have sX : (bsA X.bs).size ≤ 200 := by rw [bsA_size]; omega
  have sY : (bsA Y.bs).size ≤ 200 := by rw [bsA_size]; omega
  have KP := hide kp
  have KQ := hide kq
  have KR := hide kr
  have KU := hide ku
  have KV := hide kv
  have HK := hide (known_any w ht)
  have PQ := hide (fun (r : Rt) (hr : Room r) => sided_pq hr X wX.1)
  have UV := hide (fun (r : Rt) (hr : Room r) => sided_uv hr X Y wX.1 wY.1)
  obtain ⟨xa, xn, xc, hxv⟩ := reads_form (ints_reads hx)
  obtain ⟨ya, yn, yc, hyv⟩ := reads_form (ints_reads hy)
  obtain ⟨p, c, hzv, hzl, hzr⟩ := hz
  have HZ := hide hzr
  clear kp kq kr ku kv ht hpt hx hy hzr hX hY wX wY lX lY okO lnO
  change Hid (Since w fun W => Calls Tryz.prog 10 _ W fun e w' => ∃ pp, e = .returned (ptr4 pp 0) ∧ Below W.heap.size W w' ∧ Since w' (RunC pp [chooseM (X.M S0 W0) oneMs twoMs])) at KP
  change Hid (Since w fun W => Calls Tryz.prog 10 _ W fun e w' => ∃ pp, e = .returned (ptr4 pp 0) ∧ Below W.heap.size W w' ∧ Since w' (RunC pp [chooseM ((Ct.not (.brk X)).M S0 W0) twoMs oneMs, concludeM 2])) at KQ
  change Hid (Since w fun W => Calls Tryz.prog 10 _ W fun e w' => ∃ pp, e = .returned (ptr4 pp 0) ∧ Below W.heap.size W w' ∧ Since w' (RunC pp [chooseM (orM ((Ct.brk X).M S0 W0) ((Ct.brk Y).M S0 W0)) [concludeM 1] []])) at KU
  change Hid (Since w fun W => Calls Tryz.prog 10 _ W fun e w' => ∃ pp, e = .returned (ptr4 pp 0) ∧ Below W.heap.size W w' ∧ Since w' (RunC pp [chooseM ((Ct.not (.and (.not (.brk X)) (.not (.brk Y)))).M S0 W0) [concludeM 1, prependM 9] []])) at KV
  generalize [chooseM (X.M S0 W0) oneMs twoMs] = mp at *
  generalize [chooseM ((Ct.not (.brk X)).M S0 W0) twoMs oneMs, concludeM 2] = mq at *
  generalize [chooseM (orM ((Ct.brk X).M S0 W0) ((Ct.brk Y).M S0 W0)) [concludeM 1] []] = mu at *
  generalize [chooseM ((Ct.not (.and (.not (.brk X)) (.not (.brk Y)))).M S0 W0) [concludeM 1, prependM 9] []] = mv at *
  generalize bsA X.bs = s at *
  generalize bsA Y.bs = t at *
  subst hxv hyv hzv
  have c0 : (9223372036854775807 < 48 + s.size) = False := eq_false (by omega)
  have c1 : (9223372036854775807 < 48 + s.size + 6) = False := eq_false (by omega)
  have c2 : (9223372036854775807 < 48 + s.size + 6 + 31) = False := eq_false (by omega)
  have c3 : (9223372036854775807 < 48 + s.size + 6 + 31 + 5) = False := eq_false (by omega)
  have c4 : (9223372036854775807 < 48 + s.size + 6 + 31 + 5 + 39) = False := eq_false (by omega)
  have c5 : (9223372036854775807 < 54 + s.size) = False := eq_false (by omega)
  have c6 : (9223372036854775807 < 54 + s.size + 8) = False := eq_false (by omega)
  have c7 : (9223372036854775807 < 54 + s.size + 8 + 39) = False := eq_false (by omega)
  have c8 : (9223372036854775807 < 54 + s.size + 8 + 39 + 5) = False := eq_false (by omega)
  have c9 : (9223372036854775807 < 54 + s.size + 8 + 39 + 5 + 31) = False := eq_false (by omega)
  have c10 : (9223372036854775807 < 54 + s.size + 8 + 39 + 5 + 31 + 7) = False := eq_false (by omega)
  have c11 : (9223372036854775807 < 50 + s.size) = False := eq_false (by omega)
  have c12 : (9223372036854775807 < 50 + s.size + 8) = False := eq_false (by omega)
  have c13 : (9223372036854775807 < 50 + s.size + 8 + t.size) = False := eq_false (by omega)
  have c14 : (9223372036854775807 < 50 + s.size + 8 + t.size + 33) = False := eq_false (by omega)
  have c15 : (9223372036854775807 < 50 + s.size + 8 + t.size + 19) = False := eq_false (by omega)
  have c16 : (9223372036854775807 < 60 + s.size) = False := eq_false (by omega)
  have c17 : (9223372036854775807 < 60 + s.size + 13) = False := eq_false (by omega)
  have c18 : (9223372036854775807 < 60 + s.size + 13 + t.size) = False := eq_false (by omega)
  have c19 : (9223372036854775807 < 60 + s.size + 13 + t.size + 32) = False := eq_false (by omega)
  go_enter Tryz.func6, Tryz.ntmps6
  go_wp2_with (first
    | (go_at_call 9; refine (unhide HK).mono ?_; clear HK; rintro e w1 ⟨rfl, hb1⟩; have HB := hide hb1; clear hb1)
    | (go_at_call 11; refine ((unhide HWX) _ (unhide HB)).mono ?_; clear HWX; rintro e w1 ⟨rfl, hb1⟩; replace HB := hide ((unhide HB).trans (hb1.mono (unhide HB).size)); clear hb1)
    | (go_at_call 11; refine ((unhide HWY) _ (unhide HB)).mono ?_; clear HWY; rintro e w1 ⟨rfl, hb1⟩; replace HB := hide ((unhide HB).trans (hb1.mono (unhide HB).size)); clear hb1)
    | (go_at_call 10; refine ((unhide KP) _ (unhide HB)).mono ?_; clear KP; rintro e w1 ⟨p1, rfl, hb1, hl1⟩; replace HB := hide ((unhide HB).trans (hb1.mono (unhide HB).size)); have HS := hide hl1; clear hb1 hl1)
    | (go_at_call 10; refine ((unhide KQ) _ (unhide HB)).mono ?_; clear KQ; rintro e w1 ⟨p2, rfl, hb1, hl1⟩; replace HB := hide ((unhide HB).trans (hb1.mono (unhide HB).size)); replace HS := hide (((unhide HS).on hb1).and hl1); clear hb1 hl1)
    | (go_at_call 10; refine ((unhide KR) _ (unhide HB)).mono ?_; clear KR; rintro e w1 ⟨rfl, hb1⟩; replace HB := hide ((unhide HB).trans (hb1.mono (unhide HB).size)); replace HS := hide ((unhide HS).on hb1); clear hb1)
    | (go_at_call 10; refine ((unhide KU) _ (unhide HB)).mono ?_; clear KU; rintro e w1 ⟨p4, rfl, hb1, hl1⟩; replace HB := hide ((unhide HB).trans (hb1.mono (unhide HB).size)); replace HS := hide (((unhide HS).on hb1).and hl1); clear hb1 hl1)
    | (go_at_call 10; refine ((unhide KV) _ (unhide HB)).mono ?_; clear KV; rintro e w9 ⟨p5, rfl, hb1, hl1⟩; replace HB := hide ((unhide HB).trans (hb1.mono (unhide HB).size)); replace HS := hide (((unhide HS).on hb1).and hl1); clear hb1 hl1))
  have hA9 := (unhide HB).size
  clear c0 c1 c2 c3 c4 c5 c6 c7 c8 c9 c10 c11 c12 c13 c14 c15 c16 c17 c18 c19
  go_loopw [17] (fun i wr => ∃ j : Nat, j ≤ ls.length ∧ j ≤ 10 ∧ i = .int .i64 (j : Nat) ∧ Below w9.heap.size w9 wr) (fun i _ => 10 - (intOf i).toNat)
  case atStart => exact ⟨0, Nat.zero_le _, Nat.zero_le _, rfl, Below.refl _ _⟩
  case round =>
    obtain ⟨j, hj, hj10, rfl, hbl⟩ := hrel
    have HBL := hide hbl
    clear hbl
    by_cases hin : j < ls.length ∧ j < 10
    · obtain ⟨hlt, hj9⟩ := hin
      rcases unhide HZ with h | ⟨b, o, rfl, hb, hc⟩
      · rw [h] at hlt; simp at hlt
      obtain ⟨xv, hcx, hix⟩ := hc j hlt
      have hbw : Below w.heap.size w wr := (unhide HB).trans ((unhide HBL).mono hA9)
      have hcl := (hbw.cell (p := ⟨b, o + j, none⟩) hb).trans hcx
      have HRT := hide (route_rt ls[j] xv wr (hix.below hbw))
      have HRM := hide (rteR_room ls[j])
      obtain ⟨va, vn, vc, hvv⟩ := reads_form (ints_reads hix)
      clear hc hcx hix hbw
      subst hvv
      generalize rteR ls[j] = r at *
      obtain ⟨R, hR, ep, eq_⟩ := (unhide PQ) r (unhide HRM)
      have HAR : Hid (AllIn R) := by rcases hR with rfl | rfl; exact one_in (unhide HRM); exact two_in (unhide HRM)
      have EP := hide ep
      have EQ := hide eq_
      clear hR ep eq_
      go_wp2_with (go_at_call 13; refine (unhide HRT).mono ?_; clear HRT; rintro e w2 ⟨q1, n1, c1, q2, n2, c2, rfl, hi2, hb2⟩; have HI2 := hide hi2; have HB2 := hide ((unhide HBL).trans (hb2.mono (unhide HBL).size)); clear hi2 hb2)
      have h92 := (unhide HB2).size
      obtain ⟨W2, hW2⟩ : ∃ W, w2.alloc (rtBlk r (.slice q1 n1 c1) (.slice q2 n2 c2)) = W := ⟨_, rfl⟩
      have nb := heap_alloc_new w2 (rtBlk r (.slice q1 n1 c1) (.slice q2 n2 c2))
      have hbA := (Below.refl w2.heap.size w2).alloc (Nat.le_refl _) (rtBlk r (.slice q1 n1 c1) (.slice q2 n2 c2))
      rw [hW2] at nb hbA
      unfold rtBlk at hW2
      rw [hW2]
      have HN1 := hide nb
      have HC2 := hide hbA
      replace HB2 := hide ((unhide HB2).trans (hbA.mono (unhide HB2).size))
      clear nb hbA hW2
      refine (((unhide HS) W2 (unhide HB2)).1.1.1.sl ((unhide HI2).below (unhide HC2)) (unhide HRM) (unhide EP) (unhide HAR)).mono ?_
      rintro e w3 ⟨q3, n3, c3, q4, n4, c4, rfl, hv3, hb3⟩
      have hs1 : w2.heap.size < W2.heap.size := heap_lt (unhide HN1)
      replace HN1 := hide ((hb3.block _ hs1).trans (unhide HN1))
      replace HC2 := hide ((unhide HC2).trans (hb3.mono (unhide HC2).size))
      replace HB2 := hide ((unhide HB2).trans (hb3.mono (unhide HB2).size))
      have hs13 : w2.heap.size < w3.heap.size := heap_lt (unhide HN1)
      have HI3 := hide (hv3.toI (unhide HAR))
      obtain ⟨a0, a1, a2, a3, a4, a5, az⟩ := rt6 (unhide HN1)
      clear hv3 hb3 hs1
      go_wp2_with fail
      clear a0 a1 a2 a3 a4 a5 az
      obtain ⟨W3, hW3⟩ : ∃ W, w3.alloc (rtBlk R (.slice q3 n3 c3) (.slice q4 n4 c4)) = W := ⟨_, rfl⟩
      have nb := heap_alloc_new w3 (rtBlk R (.slice q3 n3 c3) (.slice q4 n4 c4))
      have hbA := (Below.refl w3.heap.size w3).alloc (Nat.le_refl _) (rtBlk R (.slice q3 n3 c3) (.slice q4 n4 c4))
      rw [hW3] at nb hbA
      unfold rtBlk at hW3
      rw [hW3]
      have HN2 := hide nb
      replace HN1 := hide ((hbA.block _ hs13).trans (unhide HN1))
      replace HC2 := hide ((unhide HC2).trans (hbA.mono (unhide HC2).size))
      replace HB2 := hide ((unhide HB2).trans (hbA.mono (unhide HB2).size))
      replace HI3 := hide ((unhide HI3).below hbA)
      clear nb hbA hW3
      refine (((unhide HS) W3 (unhide HB2)).1.1.2.sl ((unhide HI2).below (unhide HC2)) (unhide HRM) (unhide EQ) (unhide HAR)).mono ?_
      rintro e w4 ⟨q5, n5, c5, q6, n6, c6, rfl, hv4, hb4⟩
      have hs1 : w2.heap.size < W3.heap.size := heap_lt (unhide HN1)
      have hs2 : w3.heap.size < W3.heap.size := heap_lt (unhide HN2)
      replace HN1 := hide ((hb4.block _ hs1).trans (unhide HN1))
      replace HN2 := hide ((hb4.block _ hs2).trans (unhide HN2))
      replace HC2 := hide ((unhide HC2).trans (hb4.mono (unhide HC2).size))
      replace HB2 := hide ((unhide HB2).trans (hb4.mono (unhide HB2).size))
      replace HI3 := hide ((unhide HI3).below hb4)
      have HI4 := hide (hv4.toI (unhide HAR))
      have hs14 : w2.heap.size < w4.heap.size := heap_lt (unhide HN1)
      have hs24 : w3.heap.size < w4.heap.size := heap_lt (unhide HN2)
      obtain ⟨a0, a1, a2, a3, a4, a5, az⟩ := rt6 (unhide HN2)
      clear hv4 hb4 hs1 hs2
      go_wp2_with fail
      clear a0 a1 a2 a3 a4 a5 az
      obtain ⟨W4, hW4⟩ : ∃ W, w4.alloc (rtBlk R (.slice q5 n5 c5) (.slice q6 n6 c6)) = W := ⟨_, rfl⟩
      have nb := heap_alloc_new w4 (rtBlk R (.slice q5 n5 c5) (.slice q6 n6 c6))
      have hbA := (Below.refl w4.heap.size w4).alloc (Nat.le_refl _) (rtBlk R (.slice q5 n5 c5) (.slice q6 n6 c6))
      rw [hW4] at nb hbA
      unfold rtBlk at hW4
      rw [hW4]
      have HN3 := hide nb
      replace HN1 := hide ((hbA.block _ hs14).trans (unhide HN1))
      replace HN2 := hide ((hbA.block _ hs24).trans (unhide HN2))
      replace HC2 := hide ((unhide HC2).trans (hbA.mono (unhide HC2).size))
      replace HB2 := hide ((unhide HB2).trans (hbA.mono (unhide HB2).size))
      have HSM := hide (same_any ((unhide HI3).below hbA) ((unhide HI4).below hbA))
      rw [same_self] at HSM
      clear nb hbA hW4 HI3 HI4
      refine (unhide HSM).mono ?_
      rintro e w5 ⟨rfl, hb5⟩
      have hs1 : w2.heap.size < W4.heap.size := heap_lt (unhide HN1)
      have hs2 : w3.heap.size < W4.heap.size := heap_lt (unhide HN2)
      have hs3 : w4.heap.size < W4.heap.size := heap_lt (unhide HN3)
      replace HN1 := hide ((hb5.block _ hs1).trans (unhide HN1))
      replace HN2 := hide ((hb5.block _ hs2).trans (unhide HN2))
      replace HN3 := hide ((hb5.block _ hs3).trans (unhide HN3))
      replace HC2 := hide ((unhide HC2).trans (hb5.mono (unhide HC2).size))
      replace HB2 := hide ((unhide HB2).trans (hb5.mono (unhide HB2).size))
      have hs15 : w2.heap.size < w5.heap.size := heap_lt (unhide HN1)
      have hs25 : w3.heap.size < w5.heap.size := heap_lt (unhide HN2)
      have hs35 : w4.heap.size < w5.heap.size := heap_lt (unhide HN3)
      obtain ⟨a0, a1, a2, a3, a4, a5, az⟩ := rt6 (unhide HN1)
      clear HSM hb5 hs1 hs2 hs3
      go_wp2_with fail
      clear a0 a1 a2 a3 a4 a5 az
      obtain ⟨Ru, vu, hu, eu, ev⟩ : ∃ (Ru : Rt) (vu : Int), ((Ru = r ∧ vu = 1) ∨ (Ru = rt0 ∧ vu = 2)) ∧ runM mu r = (Ru, vu) ∧ runM mv r = (Ru, vu) := by
        obtain ⟨bb, e1, e2⟩ := (unhide UV) r (unhide HRM)
        cases bb with
        | true => exact ⟨r, 1, Or.inl ⟨rfl, rfl⟩, e1, e2⟩
        | false => exact ⟨rt0, 2, Or.inr ⟨rfl, rfl⟩, e1, e2⟩
      have HAU : Hid (AllIn Ru) := by
        rcases hu with ⟨rfl, _⟩ | ⟨rfl, _⟩
        · exact (unhide HRM).all
        · exact rt0_in
      have HU := hide hu
      have EU := hide eu
      have EV := hide ev
      clear hu eu ev
      refine (((unhide HS) w5 (unhide HB2)).1.2.sl ((unhide HI2).below (unhide HC2)) (unhide HRM) (unhide EU) (unhide HAU)).mono ?_
      rintro e w6 ⟨q7, n7, c7, q8, n8, c8, rfl, hv6, hb6⟩
      replace HN1 := hide ((hb6.block _ hs15).trans (unhide HN1))
      replace HN2 := hide ((hb6.block _ hs25).trans (unhide HN2))
      replace HN3 := hide ((hb6.block _ hs35).trans (unhide HN3))
      replace HC2 := hide ((unhide HC2).trans (hb6.mono (unhide HC2).size))
      replace HB2 := hide ((unhide HB2).trans (hb6.mono (unhide HB2).size))
      have HV6 := hide hv6
      have hs16 : w2.heap.size < w6.heap.size := heap_lt (unhide HN1)
      have hs26 : w3.heap.size < w6.heap.size := heap_lt (unhide HN2)
      have ne12 : w2.heap.size ≠ w3.heap.size := by omega
      obtain ⟨a0, a1, a2, a3, a4, a5, az⟩ := rt6 (unhide HN1)
      obtain ⟨d0, d1, d2, d3, d4, d5, dz⟩ := rt6 (unhide HN2)
      clear hv6 hb6
      go_wp2_with fail
      clear a0 a1 a2 a3 a4 a5 az d0 d1 d2 d3 d4 d5 dz
      obtain ⟨W6, hW6⟩ : ∃ W, ((((((w6.setCell ⟨w3.heap.size, 0, none⟩ (.int .i64 Ru.addr)).setCell ⟨w3.heap.size, 1, none⟩ (.int .i64 Ru.len)).setCell ⟨w3.heap.size, 2, none⟩ (.slice q7 n7 c7)).setCell ⟨w3.heap.size, 3, none⟩ (.slice q8 n8 c8)).setCell ⟨w3.heap.size, 4, none⟩ (.int .i64 Ru.pref)).setCell ⟨w3.heap.size, 5, none⟩ (.int .i64 Ru.med)) = W := ⟨_, rfl⟩
      have sN : W6.heap[w3.heap.size]? = some (rtBlk Ru (.slice q7 n7 c7) (.slice q8 n8 c8)) := by rw [← hW6]; exact set6_same (unhide HN2)
      have sO : ∀ k, k ≠ w3.heap.size → W6.heap[k]? = w6.heap[k]? := fun k hk => by rw [← hW6]; exact set6_other hk
      have sB : Below w9.heap.size w9 W6 := by rw [← hW6]; exact set6_below (unhide HB2) (by omega)
      have sC : Below w2.heap.size w2 W6 := by rw [← hW6]; exact set6_below (unhide HC2) (by omega)
      have sZ : W6.heap.size = w6.heap.size := by rw [← hW6]; exact set6_size
      rw [hW6]
      replace HN1 := hide ((sO _ ne12).trans (unhide HN1))
      replace HN3 := hide ((sO _ (by omega)).trans (unhide HN3))
      replace HN2 := hide sN
      replace HV6 := hide ((unhide HV6).keep (fun k hk _ => sO k (by omega)))
      replace HB2 := hide sB
      replace HC2 := hide sC
      clear sN sO sB sC hW6
      refine (((unhide HS) W6 (unhide HB2)).2.sl ((unhide HI2).below (unhide HC2)) (unhide HRM) (unhide EV) (unhide HAU)).mono ?_
      rintro e w7 ⟨q9, n9, c9, q10, n10, c10, rfl, hv7, hb7⟩
      have hs1 : w2.heap.size < W6.heap.size := heap_lt (unhide HN1)
      have hs2 : w3.heap.size < W6.heap.size := heap_lt (unhide HN2)
      have hs3 : w4.heap.size < W6.heap.size := heap_lt (unhide HN3)
      replace HN1 := hide ((hb7.block _ hs1).trans (unhide HN1))
      replace HN2 := hide ((hb7.block _ hs2).trans (unhide HN2))
      replace HN3 := hide ((hb7.block _ hs3).trans (unhide HN3))
      replace HC2 := hide ((unhide HC2).trans (hb7.mono (unhide HC2).size))
      replace HB2 := hide ((unhide HB2).trans (hb7.mono (unhide HB2).size))
      replace HV6 := hide ((unhide HV6).keep (fun k _ hk => hb7.block k hk))
      have HV7 := hide hv7
      have hs27 : w3.heap.size < w7.heap.size := heap_lt (unhide HN2)
      have hs37 : w4.heap.size < w7.heap.size := heap_lt (unhide HN3)
      have ne23 : w3.heap.size ≠ w4.heap.size := by omega
      obtain ⟨a0, a1, a2, a3, a4, a5, az⟩ := rt6 (unhide HN2)
      obtain ⟨d0, d1, d2, d3, d4, d5, dz⟩ := rt6 (unhide HN3)
      clear hv7 hb7
      go_wp2_with fail
      clear a0 a1 a2 a3 a4 a5 az d0 d1 d2 d3 d4 d5 dz
      obtain ⟨W7, hW7⟩ : ∃ W, ((((((w7.setCell ⟨w4.heap.size, 0, none⟩ (.int .i64 Ru.addr)).setCell ⟨w4.heap.size, 1, none⟩ (.int .i64 Ru.len)).setCell ⟨w4.heap.size, 2, none⟩ (.slice q9 n9 c9)).setCell ⟨w4.heap.size, 3, none⟩ (.slice q10 n10 c10)).setCell ⟨w4.heap.size, 4, none⟩ (.int .i64 Ru.pref)).setCell ⟨w4.heap.size, 5, none⟩ (.int .i64 Ru.med)) = W := ⟨_, rfl⟩
      have sO : ∀ k, k ≠ w4.heap.size → W7.heap[k]? = w7.heap[k]? := fun k hk => by rw [← hW7]; exact set6_other hk
      have sB : Below w9.heap.size w9 W7 := by rw [← hW7]; exact set6_below (unhide HB2) (by omega)
      have sC : Below w2.heap.size w2 W7 := by rw [← hW7]; exact set6_below (unhide HC2) (by omega)
      rw [hW7]
      replace HN1 := hide ((sO _ (by omega)).trans (unhide HN1))
      replace HN2 := hide ((sO _ ne23).trans (unhide HN2))
      replace HV6 := hide ((unhide HV6).keep (fun k hk _ => sO k (by omega)))
      replace HV7 := hide ((unhide HV7).keep (fun k hk _ => sO k (by omega)))
      replace HB2 := hide sB
      replace HC2 := hide sC
      have HI6 := hide ((unhide HV6).toI (unhide HAU))
      have HSM := hide (same_any (unhide HI6) ((unhide HV7).toI (unhide HAU)))
      rw [same_self] at HSM
      clear sO sB sC hW7 HV6 HV7 HN3
      refine (unhide HSM).mono ?_
      rintro e w8 ⟨rfl, hb8⟩
      have hs1' : w2.heap.size < W7.heap.size := heap_lt (unhide HN1)
      have hs2' : w3.heap.size < W7.heap.size := heap_lt (unhide HN2)
      replace HN1 := hide ((hb8.block _ hs1').trans (unhide HN1))
      replace HN2 := hide ((hb8.block _ hs2').trans (unhide HN2))
      replace HC2 := hide ((unhide HC2).trans (hb8.mono (unhide HC2).size))
      replace HB2 := hide ((unhide HB2).trans (hb8.mono (unhide HB2).size))
      replace HI6 := hide ((unhide HI6).below hb8)
      have hs18 : w2.heap.size < w8.heap.size := heap_lt (unhide HN1)
      have hs28 : w3.heap.size < w8.heap.size := heap_lt (unhide HN2)
      obtain ⟨a0, a1, a2, a3, a4, a5, az⟩ := rt6 (unhide HN1)
      obtain ⟨d0, d1, d2, d3, d4, d5, dz⟩ := rt6 (unhide HN2)
      clear hb8 HSM
      go_wp2_with fail
      clear a0 a1 a2 a3 a4 a5 az d0 d1 d2 d3 d4 d5 dz
      refine (same_any (unhide HI6) ((unhide HI2).below (unhide HC2))).mono ?_
      rintro e w10 ⟨rfl, hb10⟩
      replace HN2 := hide ((hb10.block _ hs28).trans (unhide HN2))
      replace HB2 := hide ((unhide HB2).trans (hb10.mono (unhide HB2).size))
      replace HI6 := hide ((unhide HI6).below hb10)
      have hs210 : w3.heap.size < w10.heap.size := heap_lt (unhide HN2)
      obtain ⟨d0, d1, d2, d3, d4, d5, dz⟩ := rt6 (unhide HN2)
      clear hb10
      go_wp2_with fail
      clear d0 d1 d2 d3 d4 d5 dz
      refine (same_any (b := rt0) (bp := .slice none 0 0) (bm := .slice none 0 0) (unhide HI6) ⟨ints_none _, ints_none _⟩).mono ?_
      rintro e w11 ⟨rfl, hb11⟩
      replace HB2 := hide ((unhide HB2).trans (hb11.mono (unhide HB2).size))
      clear hb11
      rcases unhide HU with ⟨rfl, rfl⟩ | ⟨rfl, rfl⟩
      · rw [same_self]
        go_wp2_with fail
        exact ⟨⟨j + 1, by omega, by omega, by go_num, unhide HB2⟩, by simp [intOf]; omega⟩
      · rw [same_self]
        go_wp2_with fail
        exact ⟨⟨j + 1, by omega, by omega, by go_num, unhide HB2⟩, by simp [intOf]; omega⟩
    · rcases (show ¬ j < ls.length ∨ (j < ls.length ∧ ¬ j < 10) by omega) with g1 | ⟨g1, g2⟩
      all_goals
        clear hin
        go_wp2_with fail
        go_ret
        exact ⟨rfl, (unhide HB).trans ((unhide HBL).mono hA9)⟩
end Go.Proofs.YtlhhdklendeikaaGreatDoor
