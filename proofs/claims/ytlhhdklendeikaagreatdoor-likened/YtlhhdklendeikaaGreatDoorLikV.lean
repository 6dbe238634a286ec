/- Likened (package bywaykeep): it answers true. -/
import Derived.Test.YtlhhdklendeikaaGreatDoorLikS
import Derived.Test.YtlhhdklendeikaaGreatDoorGrdA
import Derived.Deep.CutRange
namespace Go.Proofs.YtlhhdklendeikaaGreatDoor
open Go.RowKit

/-- what holds in every world behind this one -/
def From (w : World) (P : World → Prop) : Prop := ∀ W, Below w.heap.size w W → P W
theorem From.to {a b : World} {P : World → Prop} (h : From a P) (hb : Below a.heap.size a b) : From b P := fun W hW => h W (hb.trans (hW.mono hb.size))
theorem From.and {a : World} {P Q : World → Prop} (h : From a P) (h2 : From a Q) : From a (fun W => P W ∧ Q W) := fun W hW => ⟨h W hW, h2 W hW⟩
def ReadC (pp : Nat) (L : WayM) (W : World) : Prop := ∀ (v : Value) (l : List Int), IntsAt W v l → pathOk l → Calls Tryz.prog 20 #[ptr4 pp 0, v] W fun e w' => e = .returned (.bool (isL L l)) ∧ Below W.heap.size W w'
def LikeC (s : ByteArray) (L : WayM) (W : World) : Prop := Calls Tryz.prog 18 #[.string s] W fun e w' => ∃ pp, e = .returned (ptr4 pp 0) ∧ Below W.heap.size W w' ∧ From w' (ReadC pp L)
theorem like_from (q : Top) (ho : q.ok) (w : World) (ht : TokTabs w) : From w (LikeC (bsA q.bs) q.L) := fun W hW => by
  refine (like_any q ho W (ht.below hW)).mono ?_
  rintro e w' ⟨pp, rfl, hb, hl⟩
  exact ⟨pp, rfl, hb, fun V hV v l hv hp => read_any hl V hV l v hv hp⟩
theorem like_all (X Y : Wt) (hx : X.ok) (hy : Y.ok) (h1 : X.h ≤ 2) (h2 : Y.h ≤ 2) (w : World) (ht : TokTabs w) :
    From w (LikeC (bsA X.bs) X.L) ∧ From w (LikeC (bsA Y.bs) Y.L) ∧ From w (LikeC (bsA X.bs ++ ⟨#[32, 124, 32]⟩ ++ bsA Y.bs) (orL X.L Y.L)) ∧
    From w (LikeC (⟨#[40, 32]⟩ ++ bsA X.bs ++ ⟨#[32, 41, 32, 40, 32]⟩ ++ bsA Y.bs ++ ⟨#[32, 41]⟩) (catL X.L Y.L)) ∧
    From w (LikeC (⟨#[40, 32]⟩ ++ bsA X.bs ++ ⟨#[32, 41, 32, 42]⟩) (optL (PlusL X.L))) ∧ From w (LikeC (⟨#[40, 32]⟩ ++ bsA X.bs ++ ⟨#[32, 41, 32, 43]⟩) (PlusL X.L)) ∧ From w (LikeC (⟨#[40, 32]⟩ ++ bsA X.bs ++ ⟨#[32, 41, 32, 63]⟩) (optL X.L)) := by
  refine ⟨like_from (.one X) ⟨hx, by omega⟩ w ht, like_from (.one Y) ⟨hy, by omega⟩ w ht, ?_, ?_, ?_, ?_, ?_⟩
  · have h := like_from (.either X Y) ⟨⟨hx, by omega⟩, ⟨hy, by omega⟩⟩ w ht
    have e : bsA (Top.either X Y).bs = bsA X.bs ++ bsA [32, 124, 32] ++ bsA Y.bs := by rw [Top.bs_either, bsA_app, bsA_app]
    rw [e] at h; exact h
  · have h := like_from (.two (.par X) (.par Y)) ⟨⟨hx, by simp only [Wt.h]; omega⟩, ⟨hy, by simp only [Wt.h]; omega⟩⟩ w ht
    have e : bsA (Top.two (.par X) (.par Y)).bs = bsA [40, 32] ++ bsA X.bs ++ bsA [32, 41, 32, 40, 32] ++ bsA Y.bs ++ bsA [32, 41] := by
      rw [Top.bs_two, Wt.bs_par, Wt.bs_par, bsA_app, bsA_app, bsA_app, bsA_app]
      congr 1
      simp
    rw [e] at h; exact h
  · have h := like_from (.one (.rep 42 X)) ⟨⟨Or.inl rfl, hx⟩, by simp only [Wt.h]; omega⟩ w ht
    have e : bsA (Top.one (.rep 42 X)).bs = bsA [40, 32] ++ bsA X.bs ++ bsA [32, 41, 32, 42] := by
      show bsA (Wt.rep 42 X).bs = _
      rw [Wt.bs_rep, bsA_app, bsA_app]
    rw [e] at h; exact h
  · have h := like_from (.one (.rep 43 X)) ⟨⟨Or.inr (Or.inl rfl), hx⟩, by simp only [Wt.h]; omega⟩ w ht
    have e : bsA (Top.one (.rep 43 X)).bs = bsA [40, 32] ++ bsA X.bs ++ bsA [32, 41, 32, 43] := by
      show bsA (Wt.rep 43 X).bs = _
      rw [Wt.bs_rep, bsA_app, bsA_app]
    rw [e] at h; exact h
  · have h := like_from (.one (.rep 63 X)) ⟨⟨Or.inr (Or.inr rfl), hx⟩, by simp only [Wt.h]; omega⟩ w ht
    have e : bsA (Top.one (.rep 63 X)).bs = bsA [40, 32] ++ bsA X.bs ++ bsA [32, 41, 32, 63] := by
      show bsA (Wt.rep 63 X).bs = _
      rw [Wt.bs_rep, bsA_app, bsA_app]
    rw [e] at h; exact h
theorem pathP_good (l : List Int) : pathOk (pathP l 6) ∧ (pathP l 6).length ≤ 6 := by
  have hl : (pathP l 6).length ≤ 6 := by unfold pathP; simp; omega
  refine ⟨⟨by omega, fun s hs => ?_⟩, hl⟩
  unfold pathP at hs
  obtain ⟨x, _, rfl⟩ := List.mem_map.1 hs
  have := pickP_bd (c := x) (n := 3) (by omega)
  omega
theorem pathOk_take {l : List Int} (h : pathOk l) (k : Nat) : pathOk (l.take k) := ⟨by have := h.1; simp; omega, fun s hs => h.2 s (List.mem_of_mem_take hs)⟩
theorem pathOk_drop {l : List Int} (h : pathOk l) (k : Nat) : pathOk (l.drop k) := ⟨by have := h.1; simp; omega, fun s hs => h.2 s (List.mem_of_mem_drop hs)⟩
theorem Tryz.sizeInt (W : World) : (sizeOf (Tryz.prog.elem 22)).run Tryz.prog W = .ok 1 W := by kernel_rfl
theorem Tryz.sliceInt : Tryz.prog.underlying 22 = some (.slice (Tryz.prog.elem 22)) := by kernel_rfl
/-- the two parts of a path that is parted, as the program cuts them -/
theorem IntsAt.cut {w : World} {p : Option Addr} {c k : Nat} {l : List Int} (h : IntsAt w (.slice p l.length c) l) (hk : k ≤ l.length) :
    ∃ p1 c1 p2 c2, (∀ W : World, (Instr.slice 22 (.slice p l.length c) none (some (.int .i64 (k : Int))) none).run Tryz.prog W = .ok (.slice p1 k c1) W) ∧ (∀ W : World, (Instr.slice 22 (.slice p l.length c) (some (.int .i64 (k : Int))) none none).run Tryz.prog W = .ok (.slice p2 (l.length - k) c2) W) ∧ IntsAt w (.slice p1 k c1) (l.take k) ∧ IntsAt w (.slice p2 (l.length - k) c2) (l.drop k) := by
  obtain ⟨p', c', hv, hcap, hl, hin, hr⟩ := h
  injection hv with e1 e2 e3
  subst e1 e3
  have h1 : ∀ W : World, (Instr.slice 22 (.slice p l.length c) none (some (.int .i64 (k : Int))) none).run Tryz.prog W = .ok (sliced p 0 k c 1) W := fun W => by
    rw [run_slice_h _ _ _ _ _ Tryz.sliceInt _ _ (by omega) (by omega), Tryz.sizeInt]
    rfl
  have h2 : ∀ W : World, (Instr.slice 22 (.slice p l.length c) (some (.int .i64 (k : Int))) none none).run Tryz.prog W = .ok (sliced p k l.length c 1) W := fun W => by
    rw [run_slice_l _ _ _ _ _ Tryz.sliceInt _ _ (by omega) (by omega), Tryz.sizeInt]
    rfl
  have ht : (l.take k).length = k := by simp; omega
  have hd : (l.drop k).length = l.length - k := by simp
  refine ⟨_, _, _, _, h1, h2, ?_, ?_⟩
  · refine ⟨_, _, by rw [ht], by rw [ht]; omega, by rw [ht]; omega, fun x hx => hin x (List.mem_of_mem_take hx), ?_⟩
    rcases hr with ⟨hn, h0⟩ | ⟨b, o, rfl, hb, hc⟩
    · refine Or.inl ⟨by rw [hn]; simp, fun hp => ?_⟩
      have : p = none := by
        cases p with
        | none => rfl
        | some a => split at hp <;> simp at hp
      have := h0 this
      omega
    · right
      refine ⟨b, o, ?_, hb, fun j hj => ?_⟩
      · split
        · rfl
        · simp [Addr.add]
      · rw [List.getElem_take]
        exact hc j (by rw [ht] at hj; omega)
  · refine ⟨_, _, by rw [hd], by rw [hd]; omega, by rw [hd]; omega, fun x hx => hin x (List.mem_of_mem_drop hx), ?_⟩
    rcases hr with ⟨hn, h0⟩ | ⟨b, o, rfl, hb, hc⟩
    · refine Or.inl ⟨by rw [hn]; simp, fun hp => ?_⟩
      have : p = none := by
        cases p with
        | none => rfl
        | some a => split at hp <;> simp at hp
      have := h0 this
      omega
    · by_cases hck : c = k
      · rw [if_pos hck]
        left
        exact ⟨List.drop_eq_nil_of_le (by omega), fun h => by cases h⟩
      · rw [if_neg hck]
        right
        refine ⟨b, o + k, by simp [Addr.add], hb, fun j hj => ?_⟩
        rw [List.getElem_drop, Nat.add_assoc]
        exact hc (k + j) (by rw [hd] at hj; omega)
set_option maxRecDepth 100000 in
set_option maxHeartbeats 20000000 in
theorem likened_any (w : World) (ht : TokTabs w) (hpt : PowTab w) (la lb : List Int) (ls : List (List Int)) (x y z : Value) (hx : IntsAt w x la) (hy : IntsAt w y lb) (hz : GridAt w z ls) :
    Calls Tryz.prog 4 #[x, y, z] w fun e w' => e = .returned (.bool true) ∧ Below w.heap.size w w' := by
  obtain ⟨X, hX⟩ : ∃ X, wayT la 2 0 = X := ⟨_, rfl⟩
  obtain ⟨Y, hY⟩ : ∃ Y, wayT lb 2 0 = Y := ⟨_, rfl⟩
  have wX := wayT_ok la 2 0
  have wY := wayT_ok lb 2 0
  have HWX := hide (fun (W : World) (hW : Below w.heap.size w W) => way_any la x 2 0 (by omega) (by decide) W (hx.below hW) (hpt.below hW))
  have HWY := hide (fun (W : World) (hW : Below w.heap.size w W) => way_any lb y 2 0 (by omega) (by decide) W (hy.below hW) (hpt.below hW))
  rw [hX] at wX HWX
  rw [hY] at wY HWY
  obtain ⟨k1, k2, k3, k4, k5, k6, k7⟩ := like_all X Y wX.1 wY.1 wX.2 wY.2 w ht
  have sX : (bsA X.bs).size ≤ 200 := by rw [bsA_size]; have := Wt.bs_lt wX.1 (by omega); omega
  have sY : (bsA Y.bs).size ≤ 200 := by rw [bsA_size]; have := Wt.bs_lt wY.1 (by omega); omega
  have K1 := hide k1
  have K2 := hide k2
  have K3 := hide k3
  have K4 := hide k4
  have K5 := hide k5
  have K6 := hide k6
  have K7 := hide k7
  have HK := hide (known_any w ht)
  obtain ⟨xa, xn, xc, hxv⟩ := reads_form (ints_reads hx)
  obtain ⟨ya, yn, yc, hyv⟩ := reads_form (ints_reads hy)
  obtain ⟨p, c, hzv, hzl, hzr⟩ := hz
  have HZ := hide hzr
  clear k1 k2 k3 k4 k5 k6 k7 ht hpt hx hy hzr hX hY wX wY
  generalize X.L = A at *
  generalize Y.L = B at *
  generalize bsA X.bs = s at *
  generalize bsA Y.bs = t at *
  subst hxv hyv hzv
  have c1 : (9223372036854775807 < s.size + 3) = False := eq_false (by omega)
  have c2 : (9223372036854775807 < s.size + 3 + t.size) = False := eq_false (by omega)
  have c3 : (9223372036854775807 < 2 + s.size) = False := eq_false (by omega)
  have c4 : (9223372036854775807 < 2 + s.size + 5) = False := eq_false (by omega)
  have c5 : (9223372036854775807 < 2 + s.size + 5 + t.size) = False := eq_false (by omega)
  have c6 : (9223372036854775807 < 2 + s.size + 5 + t.size + 2) = False := eq_false (by omega)
  have c7 : (9223372036854775807 < 2 + s.size + 4) = False := eq_false (by omega)
  go_enter Tryz.func4, Tryz.ntmps4
  go_wp2_with (first
    | (go_at_call 9; refine (unhide HK).mono ?_; clear HK; rintro e w1 ⟨rfl, hb1⟩; have HB := hide hb1; clear hb1)
    | (go_at_call 17; refine ((unhide HWX) _ (unhide HB)).mono ?_; clear HWX; rintro e w1 ⟨rfl, hb1⟩; replace HB := hide ((unhide HB).trans (hb1.mono (unhide HB).size)); clear hb1)
    | (go_at_call 17; refine ((unhide HWY) _ (unhide HB)).mono ?_; clear HWY; rintro e w1 ⟨rfl, hb1⟩; replace HB := hide ((unhide HB).trans (hb1.mono (unhide HB).size)); clear hb1)
    | (go_at_call 18; refine ((unhide K1) _ (unhide HB)).mono ?_; clear K1; rintro e w1 ⟨p1, rfl, hb1, hl1⟩; replace HB := hide ((unhide HB).trans (hb1.mono (unhide HB).size)); have HS := hide hl1; clear hb1 hl1)
    | (go_at_call 18; refine ((unhide K2) _ (unhide HB)).mono ?_; clear K2; rintro e w1 ⟨p2, rfl, hb1, hl1⟩; replace HB := hide ((unhide HB).trans (hb1.mono (unhide HB).size)); replace HS := hide (((unhide HS).to hb1).and hl1); clear hb1 hl1)
    | (go_at_call 18; refine ((unhide K3) _ (unhide HB)).mono ?_; clear K3; rintro e w1 ⟨p3, rfl, hb1, hl1⟩; replace HB := hide ((unhide HB).trans (hb1.mono (unhide HB).size)); replace HS := hide (((unhide HS).to hb1).and hl1); clear hb1 hl1)
    | (go_at_call 18; refine ((unhide K4) _ (unhide HB)).mono ?_; clear K4; rintro e w1 ⟨p4, rfl, hb1, hl1⟩; replace HB := hide ((unhide HB).trans (hb1.mono (unhide HB).size)); replace HS := hide (((unhide HS).to hb1).and hl1); clear hb1 hl1)
    | (go_at_call 18; refine ((unhide K5) _ (unhide HB)).mono ?_; clear K5; rintro e w1 ⟨p5, rfl, hb1, hl1⟩; replace HB := hide ((unhide HB).trans (hb1.mono (unhide HB).size)); replace HS := hide (((unhide HS).to hb1).and hl1); clear hb1 hl1)
    | (go_at_call 18; refine ((unhide K6) _ (unhide HB)).mono ?_; clear K6; rintro e w1 ⟨p6, rfl, hb1, hl1⟩; replace HB := hide ((unhide HB).trans (hb1.mono (unhide HB).size)); replace HS := hide (((unhide HS).to hb1).and hl1); clear hb1 hl1)
    | (go_at_call 18; refine ((unhide K7) _ (unhide HB)).mono ?_; clear K7; rintro e w9 ⟨p7, rfl, hb1, hl1⟩; replace HB := hide ((unhide HB).trans (hb1.mono (unhide HB).size)); replace HS := hide (((unhide HS).to hb1).and hl1); clear hb1 hl1))
  have hA9 := (unhide HB).size
  clear c1 c2 c3 c4 c5 c6 c7
  go_loopg [17] 8 (fun k i wr => ∃ j : Nat, j + k = 8 ∧ j ≤ ls.length + 1 ∧ i = .int .i64 (j : Int) ∧ Below w9.heap.size w9 wr)
  case atStart => exact ⟨0, rfl, by omega, rfl, Below.refl _ _⟩
  case round =>
    obtain ⟨j, hj8, hjl, rfl, hbl⟩ := hrel
    have HBL := hide hbl
    clear hbl
    by_cases hin : j ≤ ls.length ∧ j < 8
    · obtain ⟨hjn, hj7⟩ := hin
      go_upto_if 109 with fail
      go_cut [18] from 96 to 212 (fun v wx => ∃ (q : Option Addr) (d : Nat) (L : List Int), v = .slice q L.length d ∧ Hid (IntsAt wx (.slice q L.length d) L) ∧ Hid (pathOk L) ∧ L.length ≤ 6 ∧ Hid (Below w9.heap.size w9 wx))
      case first =>
        by_cases hlt : j < ls.length
        · rcases unhide HZ with h | ⟨b, o, rfl, hb, hc⟩
          · rw [h] at hlt; simp at hlt
          obtain ⟨xv, hcx, hix⟩ := hc j hlt
          have hbw : Below w.heap.size w wr := (unhide HB).trans ((unhide HBL).mono hA9)
          have hcl := (hbw.cell (p := ⟨b, o + j, none⟩) hb).trans hcx
          have HPA := hide (path_any ls[j] xv 6 wr (by omega) (by omega) (hix.below hbw))
          have HPG := hide (pathP_good ls[j])
          obtain ⟨va, vn, vc, hvv⟩ := reads_form (ints_reads hix)
          clear hc hcx hix hbw
          subst hvv
          go_wp2_with (go_at_call 19; refine (unhide HPA).mono ?_; clear HPA; rintro e w2 ⟨v2, rfl, hown, hb2⟩; obtain ⟨q2, d2, rfl⟩ := owns_form' hown; have HI2 := hide (IntsAt.own hown (fun y hy => by have := (unhide HPG).1.2 y hy; unfold inI; omega) (by have := (unhide HPG).2; have e6 : (6 : Int).toNat = 6 := rfl; rw [e6]; omega)); have HB2 := hide ((unhide HBL).trans (hb2.mono (unhide HBL).size)); clear hown hb2)
          go_meet
          exact ⟨q2, d2, pathP ls[j] 6, rfl, unhide HI2, (unhide HPG).1, (unhide HPG).2, unhide HB2⟩
        · go_wp2_with fail
          go_meet
          exact ⟨none, 0, [], rfl, ints_none _, ⟨by simp, fun y hy => by cases hy⟩, by simp, unhide HBL⟩
      case rest =>
        obtain ⟨q, d, L, rfl, HI, HO, hL6, HBC⟩ := hcut
        have hC9 := (unhide HBC).size
        have GA := hide (fun (W : World) (h : Below wc.heap.size wc W) (v : Value) (l : List Int) (hv : IntsAt wc v l) (ho : pathOk l) => ((unhide HS) W ((unhide HBC).trans (h.mono hC9))).1.1.1.1.1.1 v l (hv.below h) ho)
        have GB := hide (fun (W : World) (h : Below wc.heap.size wc W) (v : Value) (l : List Int) (hv : IntsAt wc v l) (ho : pathOk l) => ((unhide HS) W ((unhide HBC).trans (h.mono hC9))).1.1.1.1.1.2 v l (hv.below h) ho)
        have GS := hide (fun (W : World) (h : Below wc.heap.size wc W) (v : Value) (l : List Int) (hv : IntsAt wc v l) (ho : pathOk l) => ((unhide HS) W ((unhide HBC).trans (h.mono hC9))).1.1.2 v l (hv.below h) ho)
        have C1 := hide (fun (W : World) (h : Below wc.heap.size wc W) => (unhide GA) W h _ L (unhide HI) (unhide HO))
        have C2 := hide (fun (W : World) (h : Below wc.heap.size wc W) => (unhide GB) W h _ L (unhide HI) (unhide HO))
        have C3 := hide (fun (W : World) (h : Below wc.heap.size wc W) => ((unhide HS) W ((unhide HBC).trans (h.mono hC9))).1.1.1.1.2 _ L ((unhide HI).below h) (unhide HO))
        have C4 := hide (fun (W : World) (h : Below wc.heap.size wc W) => ((unhide HS) W ((unhide HBC).trans (h.mono hC9))).1.1.1.2 _ L ((unhide HI).below h) (unhide HO))
        have C5 := hide (fun (W : World) (h : Below wc.heap.size wc W) => (unhide GS) W h _ L (unhide HI) (unhide HO))
        have C6 := hide (fun (W : World) (h : Below wc.heap.size wc W) => ((unhide HS) W ((unhide HBC).trans (h.mono hC9))).1.2 _ L ((unhide HI).below h) (unhide HO))
        have C7 := hide (fun (W : World) (h : Below wc.heap.size wc W) => ((unhide HS) W ((unhide HBC).trans (h.mono hC9))).2 _ L ((unhide HI).below h) (unhide HO))
        rw [or_law] at C3
        rw [cat_law] at C4
        rw [star_law] at C5
        rw [plus_law] at C6
        rw [opt_law] at C7
        generalize isL A L = one at *
        generalize isL B L = two at *
        have hNL : (L.length : Int) ≤ 6 := by omega
        go_upto_region 21 with (first
          | (go_at_call 20; refine ((unhide C1) _ (Below.refl _ _)).mono ?_; clear C1; rintro e w3 ⟨rfl, hb3⟩; have HBD := hide hb3; clear hb3)
          | (go_at_call 20; refine ((unhide C2) _ (unhide HBD)).mono ?_; clear C2; rintro e w4 ⟨rfl, hb4⟩; replace HBD := hide ((unhide HBD).trans (hb4.mono (unhide HBD).size)); clear hb4))
        go_cut [21] from 96 to 212 (fun v wx => v = .bool (one || two) ∧ w4 = wx)
        case first =>
          cases one <;>
          · go_wp2_with fail
            go_meet
            exact ⟨rfl, rfl⟩
        case rest =>
          obtain ⟨rfl, rfl⟩ := hcut
          go_wp2_with fail
          go_loopg [22, 23, 24] (L.length + 1) (fun k pt tt i wr => ∃ j2 : Nat, j2 + k = L.length + 1 ∧ i = .int .i64 (j2 : Int) ∧ pt = .bool (partTo A B L j2) ∧ tt = .bool (turnTo A (optL (PlusL A)) L j2) ∧ Below wc.heap.size wc wr)
          case atStart => exact ⟨0, by omega, rfl, rfl, rfl, unhide HBD⟩
          case round =>
            obtain ⟨j2, hj2, rfl, rfl, rfl, hbl2⟩ := hrel
            have HBE := hide hbl2
            clear hbl2
            by_cases hle : j2 ≤ L.length
            · obtain ⟨q1, d1, q2, d2, hs1, hs2, i1, i2⟩ := IntsAt.cut (unhide HI) hle
              have CU := hide (fun (W : World) (h : Below wc.heap.size wc W) => (unhide GA) W h _ _ i1 (pathOk_take (unhide HO) j2))
              have CV := hide (fun (W : World) (h : Below wc.heap.size wc W) => (unhide GB) W h _ _ i2 (pathOk_drop (unhide HO) j2))
              have CS := hide (fun (W : World) (h : Below wc.heap.size wc W) => (unhide GS) W h _ _ i2 (pathOk_drop (unhide HO) j2))
              have HPT : Hid (partTo A B L (j2 + 1) = (partTo A B L j2 || (isL A (L.take j2) && isL B (L.drop j2)))) := rfl
              have HTT : Hid (turnTo A (optL (PlusL A)) L (j2 + 1) = (turnTo A (optL (PlusL A)) L j2 || (decide (0 < j2) && (isL A (L.take j2) && isL (optL (PlusL A)) (L.drop j2))))) := rfl
              clear i1 i2
              generalize isL A (L.take j2) = U at *
              generalize isL B (L.drop j2) = V at *
              generalize isL (optL (PlusL A)) (L.drop j2) = S2 at *
              generalize partTo A B L j2 = PT at *
              generalize turnTo A (optL (PlusL A)) L j2 = TT at *
              generalize hn2 : L.length - j2 = n2 at *
              have HN2 := hide hn2
              clear hn2
              have g1 : (j2 : Int) ≤ (L.length : Int) := by omega
              by_cases hpos : 0 < j2
              · rw [decide_eq_true hpos, Bool.true_and] at HTT
                have g2 : (0 : Int) < (j2 : Int) := by omega
                cases PT <;> cases TT <;> cases U <;>
                · go_wp2_with (first
                    | (go_at_call 20; refine ((unhide CU) _ (unhide HBE)).mono ?_; clear CU; rintro e w5 ⟨rfl, hb5⟩; have HBF := hide ((unhide HBE).trans (hb5.mono (unhide HBE).size)); clear hb5)
                    | (go_at_call 20; refine ((unhide CV) _ (unhide HBF)).mono ?_; clear CV; rintro e w6 ⟨rfl, hb6⟩; replace HBF := hide ((unhide HBF).trans (hb6.mono (unhide HBF).size)); clear hb6)
                    | (go_at_call 20; refine ((unhide CS) _ (unhide HBF)).mono ?_; clear CS; rintro e w7 ⟨rfl, hb7⟩; replace HBF := hide ((unhide HBF).trans (hb7.mono (unhide HBF).size)); clear hb7))
                  go_roundg (L.length - j2)
                  case measure => omega
                  case rel => exact ⟨j2 + 1, by omega, by go_num, by rw [unhide HPT]; rfl, by rw [unhide HTT]; rfl, unhide HBF⟩
              · rw [decide_eq_false hpos, Bool.false_and, Bool.or_false] at HTT
                have g2 : ¬ (0 : Int) < (j2 : Int) := by omega
                cases PT <;> cases U <;>
                · go_wp2_with (first
                    | (go_at_call 20; refine ((unhide CU) _ (unhide HBE)).mono ?_; clear CU; rintro e w5 ⟨rfl, hb5⟩; have HBF := hide ((unhide HBE).trans (hb5.mono (unhide HBE).size)); clear hb5)
                    | (go_at_call 20; refine ((unhide CV) _ (unhide HBF)).mono ?_; clear CV; rintro e w6 ⟨rfl, hb6⟩; replace HBF := hide ((unhide HBF).trans (hb6.mono (unhide HBF).size)); clear hb6))
                  go_roundg (L.length - j2)
                  case measure => omega
                  case rel => exact ⟨j2 + 1, by omega, by go_num, by rw [unhide HPT]; rfl, by rw [unhide HTT], unhide HBF⟩
            · have ej : j2 = L.length + 1 := by omega
              rw [← ej] at C4 C5 C6
              have HEJ := hide ej
              have hgt : ¬ (j2 : Int) ≤ (L.length : Int) := by omega
              clear ej
              generalize partTo A B L j2 = PT at *
              generalize turnTo A (optL (PlusL A)) L j2 = TT at *
              have HBG := hide ((unhide HBC).trans ((unhide HBE).mono hC9))
              by_cases N0 : L.length = 0
              · rw [decide_eq_true N0, Bool.true_or] at C5 C7
                have nz : ((L.length : Int) == 0) = true := by simp [N0]
                have HN0 := hide N0
                clear N0
                cases TT <;>
                · go_wp2_with (first
                    | (go_at_call 20; refine ((unhide C3) _ (unhide HBE)).mono ?_; clear C3; rintro e w5 ⟨rfl, hb5⟩; replace HBE := hide ((unhide HBE).trans (hb5.mono (unhide HBE).size)); clear hb5)
                    | (go_at_call 20; refine ((unhide C4) _ (unhide HBE)).mono ?_; clear C4; rintro e w5 ⟨rfl, hb5⟩; replace HBE := hide ((unhide HBE).trans (hb5.mono (unhide HBE).size)); clear hb5)
                    | (go_at_call 20; refine ((unhide C5) _ (unhide HBE)).mono ?_; clear C5; rintro e w5 ⟨rfl, hb5⟩; replace HBE := hide ((unhide HBE).trans (hb5.mono (unhide HBE).size)); clear hb5)
                    | (go_at_call 20; refine ((unhide C6) _ (unhide HBE)).mono ?_; clear C6; rintro e w5 ⟨rfl, hb5⟩; replace HBE := hide ((unhide HBE).trans (hb5.mono (unhide HBE).size)); clear hb5)
                    | (go_at_call 20; refine ((unhide C7) _ (unhide HBE)).mono ?_; clear C7; rintro e w5 ⟨rfl, hb5⟩; replace HBE := hide ((unhide HBE).trans (hb5.mono (unhide HBE).size)); clear hb5))
                  go_roundg (7 - j)
                  case measure => omega
                  case rel => exact ⟨j + 1, by omega, by omega, by go_num, (unhide HBC).trans ((unhide HBE).mono hC9)⟩
              · rw [decide_eq_false N0, Bool.false_or] at C5 C7
                have nz : ((L.length : Int) == 0) = false := by simpa using N0
                have HN0 := hide N0
                clear N0
                cases TT <;>
                · go_wp2_with (first
                    | (go_at_call 20; refine ((unhide C3) _ (unhide HBE)).mono ?_; clear C3; rintro e w5 ⟨rfl, hb5⟩; replace HBE := hide ((unhide HBE).trans (hb5.mono (unhide HBE).size)); clear hb5)
                    | (go_at_call 20; refine ((unhide C4) _ (unhide HBE)).mono ?_; clear C4; rintro e w5 ⟨rfl, hb5⟩; replace HBE := hide ((unhide HBE).trans (hb5.mono (unhide HBE).size)); clear hb5)
                    | (go_at_call 20; refine ((unhide C5) _ (unhide HBE)).mono ?_; clear C5; rintro e w5 ⟨rfl, hb5⟩; replace HBE := hide ((unhide HBE).trans (hb5.mono (unhide HBE).size)); clear hb5)
                    | (go_at_call 20; refine ((unhide C6) _ (unhide HBE)).mono ?_; clear C6; rintro e w5 ⟨rfl, hb5⟩; replace HBE := hide ((unhide HBE).trans (hb5.mono (unhide HBE).size)); clear hb5)
                    | (go_at_call 20; refine ((unhide C7) _ (unhide HBE)).mono ?_; clear C7; rintro e w5 ⟨rfl, hb5⟩; replace HBE := hide ((unhide HBE).trans (hb5.mono (unhide HBE).size)); clear hb5))
                  go_roundg (7 - j)
                  case measure => omega
                  case rel => exact ⟨j + 1, by omega, by omega, by go_num, (unhide HBC).trans ((unhide HBE).mono hC9)⟩
    · rcases (show ¬ j ≤ ls.length ∨ (j ≤ ls.length ∧ ¬ j < 8) by omega) with g1 | ⟨g1, g2⟩
      all_goals
        clear hin
        go_wp2_with fail
        go_ret
        exact ⟨rfl, (unhide HB).trans ((unhide HBL).mono hA9)⟩
end Go.Proofs.YtlhhdklendeikaaGreatDoor
