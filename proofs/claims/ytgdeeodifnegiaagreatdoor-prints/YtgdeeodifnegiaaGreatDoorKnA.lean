/- compiled (package bywaykeep), where the text is a policy; the text of known. -/
import Derived.Test.YtgdeeodifnegiaaGreatDoorRdrR
import Derived.Test.YtgdeeodifnegiaaGreatDoorMrkA
import Derived.Test.YtgdeeodifnegiaaGreatDoorWayC
import Derived.Test.YtgdeeodifnegiaaGreatDoorWayP
set_option maxRecDepth 100000
set_option maxHeartbeats 4000000
namespace Go.Proofs.YtgdeeodifnegiaaGreatDoor
open Go.RowKit
end Go.Proofs.YtgdeeodifnegiaaGreatDoor
namespace Go.Proofs.YtgdeeodifnegiaaGreatDoor
open Go.RowKit
theorem prefV_len (t : ByteArray) : 0 ≤ (prefV t).2 ∧ (prefV t).2 ≤ 32 := by
 unfold prefV
 cases h : prefS t with
 | none => exact ⟨Int.le_refl _, by decide⟩
 | some p =>
  unfold prefS at h
  split at h
  ·split at h
   ·cases h
   ·split at h
    ·rename_i hb
     cases h
     have h2 : netOk (_, numV (behS t) 32) := of_decide_eq_true hb.2
     exact h2.2.1
    ·cases h
  ·cases h
theorem digitsP_len (t : ByteArray) : 0 ≤ (digitsP t).len ∧ (digitsP t).len ≤ 32 := by
 cases h : numIs t 4294967295 with
 | true => rw [digitsP, if_pos h]; exact (by decide : (0 : Int) ≤ 0 ∧ (0 : Int) ≤ 32)
 | false =>
  rw [digitsP, if_neg (by rw [h]; decide)]
  cases h2 : (prefS t).isSome with
  | true => rw [if_pos rfl]; exact prefV_len t
  | false => rw [if_neg (by decide)]; exact (by decide : (0 : Int) ≤ 0 ∧ (0 : Int) ≤ 32)
theorem firstP_len (s : ByteArray) : 0 ≤ (firstP s).len ∧ (firstP s).len ≤ 32 := by
 cases h : lowB (bt s 0) with
 | true => rw [firstP, if_pos h]; exact (by decide : (0 : Int) ≤ 0 ∧ (0 : Int) ≤ 32)
 | false =>
  rw [firstP, if_neg (by rw [h]; decide)]
  cases h2 : digB (bt s 0) with
  | true => rw [if_pos rfl]; exact digitsP_len _
  | false => rw [if_neg (by decide)]; exact (by decide : (0 : Int) ≤ 0 ∧ (0 : Int) ≤ 32)
theorem allGo_len (s : ByteArray) : ∀ f k, LenOk (allGo s f k)
 | 0, _, t, h => by cases h
 | f + 1, k, t, h => by
  rw [allGo] at h
  split at h
  ·split at h
   ·exact allGo_len s f _ t h
   ·split at h
    ·rw [List.mem_singleton.1 h]; exact firstP_len _
    ·rcases List.mem_cons.1 h with rfl | h
     ·exact firstP_len _
     ·exact allGo_len s f _ t h
  ·rw [List.mem_singleton.1 h]; exact ⟨Int.le_refl _, by show (0 : Int) ≤ 32; decide⟩
theorem allP_len (s : ByteArray) : LenOk (allP s) := allGo_len s _ _
end Go.Proofs.YtgdeeodifnegiaaGreatDoor
namespace Go.Proofs.YtgdeeodifnegiaaGreatDoor
open Go.RowKit
def WayO (w : World) (A : Nat → Prop) (v : Value) : Option WayM → Prop
 | none => FnV v
 | some m => Lasts w A (WayC v m)
theorem WayO.fnv {w : World} {A : Nat → Prop} {v : Value} {o : Option WayM} (h : WayO w A v o) : FnV v := by
 cases o with
 | none => exact h
 | some m =>
  obtain ⟨K, g, lb, h1, _⟩ := Lasts.now h
  exact Or.inl ⟨_, _, _, h1⟩
def WayORes (pb : Nat) (ts : List TokP) (w : World) (D O : Nat → Prop) (r : RS × Option WayM) (e : Ending) (w' : World) : Prop :=
 ∃ v O', e = .returned v ∧ RA w' pb ts r.1 D O' ∧ Fr O w O' w' ∧ WayO w' (Free O' D w.heap.size) v r.2 ∧ Ok ts r.1
theorem Tryz.neNilW (w : World) : (Sem.run Tryz.prog (binOp BinOp.neq 305 .nilFunc .nilFunc) w) = .ok (.bool false) w := by kernel_rfl
theorem Tryz.neFnW (f : Fn) (a b : Array Value) (w : World) : (Sem.run Tryz.prog (binOp BinOp.neq 305 (.func f a b) .nilFunc) w) = .ok (.bool true) w := by kernel_rfl
theorem useWay_any {pb : Nat} {ts : List TokP} (ht : TsOk ts) {w : World} {st : RS} {D O : Nat → Prop} (h : RA w pb ts st D O) (hk : Ok ts st) :
  Calls Tryz.prog 376 #[ptr4 pb 0] w (WayORes pb ts w D O (useWayR ts st)) := by
 have HTK := hide (take_any h hk ht 4)
 have HK1 := hide (takeR_ok (k := 4) hk ht (by decide))
 have HW := hide (show useWayR ts st = (match findWay (takeR ts 4 st).1.defs (takeR ts 4 st).2.text with | some s => ((takeR ts 4 st).1, some s) | none => (tellName (takeR ts 4 st).1 (takeR ts 4 st).2.at_, none)) from rfl)
 clear h hk ht
 generalize takeR ts 4 st = P at *
 obtain ⟨s1, t⟩ := P
 dsimp only at HK1 HW
 generalize useWayR ts st = RS2 at *
 have hbf := Tryz.neNilW
 have hbg := Tryz.neFnW
 go_enter Tryz.func376, Tryz.ntmps376
 go_wp2_with (go_at_call 213; refine (unhide HTK).mono ?_; clear HTK; rintro e w1 ⟨rfl, O1, hr1, hf1⟩; have HR := hide (hr1.alloc (tokBlk t)); have HF := hide (hf1.alloc (tokBlk t)); have HN := hide (And.intro (heap_alloc_new w1 (tokBlk t)) (show ¬ O1 w1.heap.size from fun ho => by have := hr1.lt ho; omega)); obtain ⟨dv, xs, hc, hd, hl, hrep⟩ := (hr1.alloc (tokBlk t)).defsV; obtain ⟨q, c, hq⟩ := hd.form; have HD := hide hd; have HRP := hide (And.intro hl hrep); clear hr1 hf1 hd hl hrep; dsimp only; subst hq)
 obtain ⟨W1, hW1⟩ : ∃ W1, w1.alloc (tokBlk t) = W1 := ⟨_, rfl⟩
 rw [hW1] at HR HF HN HD HRP
 unfold tokBlk at hW1
 rw [hW1]
 have hln := (unhide HD).len
 unfold maxLen at hln
 have hwf := (unhide HF).size
 have hn1 : w1.heap.size < W1.heap.size := heap_lt (unhide HN).1
 clear hc
 go_loopw [13] (fun i wr => ∃ j : Nat, j ≤ xs.length ∧ i = .int .i64 (j : Nat) ∧ Hid (findWay (s1.defs.drop j) t.text = findWay s1.defs t.text) ∧ Below W1.heap.size W1 wr) (fun i _ => xs.length - (intOf i).toNat)
 case atStart => exact ⟨0, Nat.zero_le _, rfl, rfl, Below.refl _ _⟩
 case round =>
  obtain ⟨j, hj, rfl, HFS, hbl⟩ := hrel
  have HBL := hide hbl
  have hsb := hbl.size
  clear hbl
  by_cases hlt : j < xs.length
  ·obtain ⟨g, c', hq⟩ := (unhide HD).some_ (fun e => by rw [e] at hlt; simp at hlt)
   injection hq with hq1 hq2 hq3
   subst hq1 hq3
   obtain ⟨hgl, hcell⟩ := ((unhide HD).below (unhide HBL)).cell g c rfl
   have hx : xs[j]? = some xs[j] := List.getElem?_eq_getElem hlt
   have hjd : j < s1.defs.length := by rw [← (unhide HRP).1]; exact hlt
   obtain ⟨k1, k2, k3⟩ := hcell j _ hx
   have hrp := (unhide HRP).2 j s1.defs[j] xs[j] (List.getElem?_eq_getElem hjd) hx
   have hfn := (unhide HD).fn xs[j] (List.getElem_mem _)
   have hdr : s1.defs.drop j = s1.defs[j] :: s1.defs.drop (j + 1) := List.drop_eq_getElem_cons hjd
   have hfs := unhide HFS
   rw [hdr, findWay] at hfs
   have hnk := ((unhide HBL).block w1.heap.size hn1).trans (unhide HN).1
   have ct : wr.cell? ⟨w1.heap.size, 2, none⟩ = some (.string t.text) := cell_of_heap hnk
   have lw : w1.heap.size < wr.heap.size := heap_lt hnk
   clear hcell hx hdr HFS hnk
   generalize s1.defs[j] = dd at *
   generalize xs[j] = X at *
   obtain ⟨n, v1, v2⟩ := X
   obtain ⟨hp1, _, hp2⟩ := hrp
   dsimp only at k1 k2 k3 hfn hp1 hp2
   subst hp1
   obtain ⟨h2, h1⟩ := hfn
   cases hE : dd.name.toList == t.text.toList with
   | true =>
    cases hS : dd.way with
    | some m =>
     rw [hS] at hp2 hfs
     dsimp only at hp2
     rw [hE, if_pos (by simp)] at hfs
     have hR2 : RS2 = (s1, some m) := by rw [unhide HW, ← hfs]
     obtain ⟨K0, g0, lb0, hv0, _⟩ := Lasts.now hp2
     have HP2 := hide hp2
     subst hR2
     clear hp2 hfs h1
     subst hv0
     rcases h2 with ⟨f', a', b', rfl⟩ | rfl <;>
     ·go_wp2_with fail
      go_ret
      refine ⟨_, _, rfl, ((unhide HR).stay (unhide HBL)).alloc _, ((unhide HF).below (unhide HBL)).alloc _, ?_, unhide HK1⟩
      exact Lasts.mono (unhide HP2) (by simp; omega) (fun k hk ha => ⟨(Below.heap_alloc _ _ _ (by omega)).trans ((unhide HBL).block k hk), ha.1, Or.inl ha.2⟩) (fun _ _ h => h)
    | none =>
     rw [hS] at hp2 hfs
     dsimp only at hp2
     rw [if_neg (by simp)] at hfs
     have HFS := hide hfs
     clear hfs h1
     subst hp2
     rcases h2 with ⟨f', a', b', rfl⟩ | rfl <;>
     ·go_wp2_with fail
      exact ⟨⟨j + 1, by omega, by go_num, HFS, (unhide HBL).alloc hsb _⟩, by simp [intOf]; omega⟩
   | false =>
    rw [hE, if_neg (by simp)] at hfs
    have HFS := hide hfs
    clear hfs hp2
    rcases h1 with ⟨f, a, b, rfl⟩ | rfl <;> rcases h2 with ⟨f', a', b', rfl⟩ | rfl <;>
    ·go_wp2_with fail
     exact ⟨⟨j + 1, by omega, by go_num, HFS, (unhide HBL).alloc hsb _⟩, by simp [intOf]; omega⟩
  ·have hfs := unhide HFS
   rw [List.drop_eq_nil_of_le (by rw [← (unhide HRP).1]; omega), findWay] at hfs
   have hR2 : RS2 = (tellName s1 t.at_, none) := by rw [unhide HW, ← hfs]
   subst hR2
   have hnk := ((unhide HBL).block w1.heap.size hn1).trans (unhide HN).1
   have ct : wr.cell? ⟨w1.heap.size, 1, none⟩ = some (.int .i64 t.at_) := cell_of_heap hnk
   have HTL := hide (fun q => tellNam_any (((unhide HR).stay (unhide HBL)).drewN q) t.at_)
   clear hfs HFS hnk
   go_wp2_with fail
   go_region_with (go_at_call 228; refine ((unhide HTL) 1).mono ?_; rintro e w3 ⟨rfl, hr3, hf3⟩)
   all_goals
    have HR2 := hide hr3
    have HF2 := hide ((((unhide HF).below (unhide HBL)).drewN 1).trans hf3)
    clear hr3 hf3
    go_wp2_with fail
    go_ret
    exact ⟨_, _, rfl, unhide HR2, unhide HF2, Or.inr rfl, ⟨(unhide HK1).next, (unhide HK1).page, (unhide HK1).gap⟩⟩
theorem path_at {W : World} {b : Nat} {r : Rt} {pv mv : Value} (h : RtAt W b r pv mv) : PathAt W pv r.path := by
 rcases h.path.2 with ⟨h1, h0⟩ | ⟨g, cap, cur, hv, _, hg, hnc, _, hcs, htk⟩
 ·have hnil : r.path = [] := List.length_eq_zero_iff.mp h0
  exact ⟨none, 0, by rw [h1, hnil]; rfl, Or.inl hnil⟩
 ·refine ⟨_, _, hv, Or.inr ⟨g, 0, rfl, heap_lt hg, fun j hj => ?_⟩⟩
  rw [cell_of_heap hg]
  have h2 : (cur.toList.take (r.path.length * 1))[j]? = some (.int .i64 r.path[j]) := by rw [htk]; simp [intCells, hj]
  rw [List.getElem?_take, if_pos (by omega)] at h2
  simpa using h2
theorem pathLike_run (W : World) (b : Nat) (r : Rt) (pv mv : Value) (h : RtAt W b r pv mv) (va : Value) (ma : WayM) (Ka : Nat → Prop) (ha : WayC va ma Ka W) (B1 : Nat) (c1 : W.cell? ⟨B1, 0, none⟩ = some va) :
  Calls Tryz.prog 384 (#[ptr4 b 0] ++ #[ptr4 B1 0]) W fun e W' => e = .returned (condV (likeM ma r)) ∧ Below W.heap.size W W' := by
 have HP := hide (path_at h)
 have hn := h.n1
 have r2 : W.cell? ⟨b, 2, none⟩ = some pv := cell_of_heap h.blk
 obtain ⟨g, lb, rfl, eg, hc⟩ := ha
 have HA := hide (fun (V : World) (hV : Below W.heap.size W V) => like_run V (.func (.func g) #[] lb) ma Ka ⟨g, lb, rfl, eg, fun U pv l f hU => hc U pv l f (hV.trans (hU.mono hV.size))⟩ pv r.path ((unhide HP).below hV) hn)
 obtain ⟨a, c, hpv⟩ := owns_form' h.path
 have EQ : Hid (condV (likeM ma r) = .tuple #[.bool (@decide (ma r.path) (Classical.propDecidable _)), .bool true]) := rfl
 clear h hc eg hn HP
 rw [unhide EQ]
 subst hpv
 go_enter Tryz.func384, Tryz.ntmps384
 go_wp2_with fail
 go_region_with (go_at_call 385; refine ((unhide HA) _ (Below.refl _ _).drew).mono ?_; rintro e w1 ⟨⟨B, rfl, hB⟩, hb1⟩; have HB1 := hide (((Below.refl W.heap.size W).drew).trans (hb1.mono (Nat.le_refl _))); have HX := hide hB; clear hb1 hB)
 all_goals
  go_wp2_with fail
  go_ret2
  refine ⟨?_, unhide HB1⟩
  have hq : B = @decide (ma r.path) (Classical.propDecidable _) := by
   have h := unhide HX
   cases B with
   | true => exact (@decide_eq_true _ (Classical.propDecidable _) (h.1 rfl)).symm
   | false => exact (@decide_eq_false _ (Classical.propDecidable _) (fun hm => by have := h.2 hm; cases this)).symm
  rw [hq]; rfl
theorem pathLike_call (w : World) (va : Value) (ha : FnV va) :
  Calls Tryz.prog 375 #[va] w fun e w' => e = .returned (.func (.func 384) #[] #[ptr4 w.heap.size 0]) ∧ w' = (w.alloc (box1 va 305)) := by
 have hmf : ∀ (fn : Fn) (first cap : Array Value) (w : World), (Instr.makeFunc fn first cap).run Tryz.prog w = .ok (.func fn first cap) w := fun _ _ _ _ => rfl
 rcases ha with ⟨f, a, b, rfl⟩ | rfl <;>
 ·go_enter Tryz.func375, Tryz.ntmps375
  go_wp2_with fail
  go_ret
  exact ⟨rfl, rfl⟩
theorem Tryz.entPathLike : Enters Tryz.prog 384 := enters_of Tryz.func384 (by kernel_rfl) rfl
theorem WayO.alloc {w : World} {A : Nat → Prop} {v : Value} {o : Option WayM} (h : WayO w A v o) (b : Obj) : WayO (w.alloc b) A v o := by
 cases o with
 | none => exact h
 | some m => exact Lasts.mono h (alloc_mono w b A).1 (alloc_mono w b A).2 (fun _ _ h => h)
theorem WayO.fr {w w' : World} {O O' D : Nat → Prop} {n m : Nat} {v : Value} {o : Option WayM} (h : WayO w (Free O D n) v o) (hf : Fr O w O' w') (hm : m ≤ n) : WayO w' (Free O' D m) v o := by
 cases o with
 | none => exact h
 | some x => exact Lasts.fr h hf hm
theorem pathLike_any (w : World) (va : Value) (oa : Option WayM) (A : Nat → Prop) (hA : ∀ k, w.heap.size ≤ k → A k) (ha : WayO w A va oa) :
  Calls Tryz.prog 375 #[va] w fun e w' => ∃ v, e = .returned v ∧ w' = (w.alloc (box1 va 305)) ∧ CndO w' A v (oa.map likeM) := by
 refine (pathLike_call w va ha.fnv).mono ?_
 rintro e w' ⟨rfl, rfl⟩
 refine ⟨_, rfl, rfl, ?_⟩
 cases oa with
 | none => exact Or.inl ⟨_, _, _, rfl⟩
 | some ma =>
  have h1 : Lasts _ A (WayC va ma) := ha.alloc (box1 va 305)
  refine Lasts.one h1 (fun k => k = w.heap.size) (fun k hk => ⟨by subst hk; simp, hA k (by omega)⟩) (fun K1 _ q1 W hW hk => ?_)
  exact ⟨_, _, rfl, Tryz.entPathLike, fun b r pv mv hr => pathLike_run W b r pv mv hr va ma K1 (q1 W hW (fun k h => hk k (Or.inl h))) _ (cell_of_heap ((hk _ (Or.inr rfl)).trans (heap_alloc_new w _)))⟩
theorem test_path {pb : Nat} {ts : List TokP} (ht : TsOk ts) {w : World} {st : RS} {D O : Nat → Prop} (h : RA w pb ts st D O) (hk : Ok ts st) (e21 : kindR ts st = 23) :
  Calls Tryz.prog 358 #[ptr4 pb 0] w (CndRes pb ts w D O ((useWayR ts (takeR ts 24 (goR ts st)).1).1, (useWayR ts (takeR ts 24 (goR ts st)).1).2.map likeM)) := by
 have HR := hide h
 have HF := hide (Fr.refl O w)
 have HK := hide hk
 have HT := hide ht
 have HE := hide e21
 have n21 := hide (show kindR ts st ≠ 21 by rw [e21]; decide)
 have HG := hide (goR_ok' hk ht e21 (by decide))
 have HG2 := hide (takeR_ok (k := 24) (unhide HG) ht (by decide))
 clear h hk ht e21
 go_enter Tryz.func358, Tryz.ntmps358
 go_wp2_with (first
  | (go_at_call 211; refine (took_no (unhide HR) (unhide HK) (unhide HT) 21 (unhide n21)).mono ?_; rintro e w1 ⟨rfl, hr1, hf1⟩; replace HR := hide hr1; replace HF := hide ((unhide HF).trans hf1); clear hr1 hf1 n21)
  | (go_at_call 211; refine (took_yes (unhide HR) (unhide HK) (unhide HT) 23 (unhide HE)).mono ?_; rintro e w1 ⟨rfl, O1, hr1, hf1⟩; replace HR := hide hr1; replace HF := hide ((unhide HF).trans hf1); clear hr1 hf1)
  | (go_at_call 213; refine (take_any (unhide HR) (unhide HG) (unhide HT) 24).mono ?_; rintro e w2 ⟨rfl, O2, hr2, hf2⟩; replace HR := hide hr2; replace HF := hide ((unhide HF).trans hf2); clear hr2 hf2)
  | (go_at_call 376; refine (useWay_any (unhide HT) (unhide HR) (unhide HG2)).mono ?_; rintro e w3 ⟨v, O3, rfl, hr3, hf3, hv3, hk3⟩; have HV := hide (hv3.fr (Fr.refl _ _) (unhide HF).size); have HK3 := hide hk3; have hfv := hv3.fnv; replace HR := hide hr3; replace HF := hide ((unhide HF).trans hf3); clear hr3 hf3 hv3 hk3))
 refine (pathLike_any _ v _ _ ((unhide HR).newFree (unhide HF)) (unhide HV)).mono ?_
 rintro e w4 ⟨v4, rfl, rfl, hv4⟩
 have HV4 := hide hv4
 replace HR := hide ((unhide HR).alloc (box1 v 305))
 replace HF := hide ((unhide HF).alloc (box1 v 305))
 clear hv4
 go_wp2_with fail
 go_ret
 exact ⟨_, _, rfl, unhide HR, unhide HF, unhide HV4, unhide HK3⟩
end Go.Proofs.YtgdeeodifnegiaaGreatDoor
namespace Go.Proofs.YtgdeeodifnegiaaGreatDoor
open Go.RowKit
theorem repLp_defs (ts : List TokP) : ∀ (n : Nat) (st : RS) (z m : Bool) (r : RS × Bool × Bool), repLp ts n st z m = some r → r.1.defs = st.defs
 | 0, _, _, _, _, h => by cases h
 | n + 1, st, z, m, r, h => by
  rw [repLp] at h
  split at h
  ·rw [repLp_defs ts n _ _ _ r h]; rfl
  ·split at h
   ·rw [repLp_defs ts n _ _ _ r h]; rfl
   ·split at h
    ·rw [repLp_defs ts n _ _ _ r h]; rfl
    ·cases h; rfl
theorem repeatsR_defs {ts : List TokP} {n : Nat} {A : WayM} {st : RS} {r : RS × WayM} (h : repeatsR ts n A st = some r) : r.1.defs = st.defs := by
 unfold repeatsR at h
 split at h
 ·cases h
 ·rename_i s z m hx
  cases h
  exact repLp_defs ts n st false false _ hx
theorem someR_defs {ts : List TokP} {n : Nat} {A : WayM} {st : RS} {r : RS × Option WayM} (h : someR (repeatsR ts n A st) = some r) : r.1.defs = st.defs := by
 unfold someR at h
 split at h
 ·cases h
 ·rename_i s m hx
  cases h
  exact repeatsR_defs hx
theorem moreLp_defs {α : Type} {rd : RS → Option (RS × Option α)} (h0 : ∀ st r, rd st = some r → r.1.defs = st.defs) : ∀ (n : Nat) (st : RS) (l : List α) (r : RS × List α), moreLp rd n st l = some r → r.1.defs = st.defs
 | 0, _, _, _, h => by cases h
 | n + 1, st, l, r, h => by
  rw [moreLp] at h
  split at h
  ·cases h
  ·rename_i s hx
   cases h
   exact h0 _ _ hx
  ·rename_i s x hx
   rw [moreLp_defs h0 n _ _ r h]
   exact h0 _ _ hx
theorem altLp_defs {ts : List TokP} {rd : RS → Option (RS × WayM)} (h0 : ∀ st r, rd st = some r → r.1.defs = st.defs) : ∀ (n : Nat) (st : RS) (l : List WayM) (r : RS × List WayM), altLp ts rd n st l = some r → r.1.defs = st.defs
 | 0, _, _, _, h => by cases h
 | n + 1, st, l, r, h => by
  rw [altLp] at h
  split at h
  ·split at h
   ·cases h
   ·rename_i s m hx
    rw [altLp_defs h0 n _ _ r h]
    exact h0 _ _ hx
  ·cases h; rfl
theorem eithTw_defs (ts : List TokP) (n : Nat) : ∀ (f : Nat) (st : RS) (r : RS × WayM), eithTw ts n f st = some r → r.1.defs = st.defs
 | 0, _, _, h => by cases h
 | f + 1, st, r, h => by
  have hi : ∀ st r, itemBy ts n (eithTw ts n f) st = some r → r.1.defs = st.defs := fun st r h => by
   unfold itemBy at h
   split at h
   ·rw [someR_defs h, withinR_defs]
   ·split at h
    ·rw [someR_defs h]; rfl
    ·split at h
     ·split at h
      ·cases h
      ·rename_i s m hx
       rw [someR_defs h]
       show (takeR ts 34 s).1.defs = _
       have h1 := eithTw_defs ts n f _ _ hx
       dsimp only at h1
       rw [takeR_defs, h1]
       show (takeR ts 33 (if st.depth = 8 then failR ts st else st)).1.defs = _
       rw [takeR_defs]
       split <;> rfl
     ·cases h; rfl
  have hrw : ∀ st r, rowBy ts n (itemBy ts n (eithTw ts n f)) st = some r → r.1.defs = st.defs := fun st r h => by
   unfold rowBy at h
   split at h
   ·cases h
   ·rename_i s l hx
    cases h
    have h1 := moreLp_defs hi n st [] _ hx
    dsimp only at h1 ⊢
    rw [← h1]
    split <;> rfl
  rw [eithTw] at h
  unfold eithBy at h
  split at h
  ·cases h
  ·rename_i s m hx
   split at h
   ·cases h
   ·rename_i s2 l hy
    cases h
    have h1 := altLp_defs hrw n _ _ _ hy
    have h2 := hrw _ _ hx
    dsimp only at h1 h2 ⊢
    rw [h1, h2]
def defW (ts : List TokP) (n f : Nat) (st : RS) : Option (RS × Bool) :=
 if kindR ts st = 6 then
  (match eithTw ts n f (takeR ts 26 (newNameR ts (goR ts st)).1).1 with
   | none => none
   | some (s, m) => some (addDefR (takeR ts 27 s).1 ⟨(newNameR ts (goR ts st)).2, none, some m⟩, true))
 else defR ts n st
def defsW (ts : List TokP) (n f : Nat) : Nat → RS → Option RS
 | 0, st => some st
 | k + 1, st => match defW ts n f st with
  | none => none
  | some (s, true) => defsW ts n f k s
  | some (s, false) => some s
def policyW (ts : List TokP) (n f : Nat) (stmt : RS → Option (RS × Option (Option StpM))) (st : RS) : Option (RS × List (Option StpM)) :=
 match defsW ts n f 8 st with
 | none => none
 | some s => policyTw ts n stmt s
theorem policyW_said {pb : Nat} {ts : List TokP} (ht : TsOk ts) (hL : LenOk ts) {tw : RS → Option (RS × Option (Option StpM))} (IH : StmtSaid pb ts tw) (n f : Nat) (hn : n ≤ 1000) (IE : WaySaid 215 pb ts (eithTw ts n f)) {w : World} {st : RS} {r : RS × List (Option StpM)} {O : Nat → Prop} (h : RA w pb ts st (fun _ => False) O) (hk : Ok ts st) (hd0 : st.defs = []) (hr : policyW ts n f tw st = some r) :
  Calls Tryz.prog 110 #[ptr4 pb 0] w (PolRes pb ts w O r) := by
 unfold policyW at hr
 cases hs : defsW ts n f 8 st with
 | none => rw [hs] at hr; cases hr
 | some sF =>
 rw [hs] at hr
 dsimp only at hr
 unfold policyTw at hr
 cases h1 : moreLp tw n sF [] with
 | none => rw [h1] at hr; cases hr
 | some p =>
  obtain ⟨s1, l⟩ := p
  rw [h1] at hr
  have hmf : ∀ (fn : Fn) (first cap : Array Value) (w : World), (Instr.makeFunc fn first cap).run Tryz.prog w = .ok (.func fn first cap) w := fun _ _ _ _ => rfl
  have HO := hide (fun W D O (hW : RA W pb ts sF D O) (hk : Ok ts sF) => one_said ht IH n hn hW hk h1)
  have HT := hide ht
  have HLL := hide hL
  have HIE := hide IE
  have hq : r = (if kindR ts (if l.length = 0 then failR ts s1 else s1) = 1 then (if l.length = 0 then failR ts s1 else s1) else failR ts (if l.length = 0 then failR ts s1 else s1), l) := (Option.some.inj hr).symm
  have HR := hide h
  have HK := hide hk
  have HSF := hide hs
  have hdl : st.defs.length = 0 := by rw [hd0]; rfl
  clear h hk ht IH h1 hr hs hL hd0 IE
  generalize (if l.length = 0 then failR ts s1 else s1) = s2 at *
  go_enter Tryz.func110, Tryz.ntmps110
  go_wp2_with fail
  go_loopg [3] 8 (fun k i wr => ∃ (j : Nat) (su : RS) (Dj Oj : Nat → Prop), i = .int .i64 (j : Int) ∧ j + k = 8 ∧ su.defs.length ≤ j ∧ RA wr pb ts su Dj Oj ∧ Fr O w Oj wr ∧ (∀ q, Dj q → w.heap.size ≤ q) ∧ Ok ts su ∧ defsW ts n f (8 - j) su = some sF)
  case atStart => exact ⟨0, st, _, O, rfl, rfl, by omega, unhide HR, Fr.refl _ _, fun q hq => hq.elim, unhide HK, unhide HSF⟩
  case round =>
   clear HR HK HSF
   obtain ⟨j, su, Dj, Oj, rfl, hjk, hdj, hr, hf, hDj, hk, hl⟩ := hrel
   have HF := hide hf
   have HDJ := hide hDj
   have HK := hide hk
   have hws := hf.size
   by_cases hj8 : j < 8
   ·rw [show 8 - j = (7 - j) + 1 by omega, defsW, defW] at hl
    by_cases k6 : kindR ts su = 6
    ·rw [if_pos k6] at hl
     cases hrg : eithTw ts n f (takeR ts 26 (newNameR ts (goR ts su)).1).1 with
     | none => rw [hrg] at hl; cases hl
     | some q =>
      obtain ⟨sq, mq⟩ := q
      rw [hrg] at hl
      dsimp only at hl
      have hdd : (takeR ts 27 sq).1.defs = su.defs := by
       rw [takeR_defs]
       have := eithTw_defs ts n f _ _ hrg
       dsimp only at this
       rw [this, takeR_defs, newNameR_defs]; rfl
      have HD := hide (def_way (unhide HT) (unhide HIE) hr hk k6 (by rw [hdd]; omega) hrg)
      have HL := hide hl
      have hdn : (addDefR (takeR ts 27 sq).1 ⟨(newNameR ts (goR ts su)).2, none, some mq⟩).defs.length ≤ j + 1 := by
       show ((takeR ts 27 sq).1.defs ++ [_]).length ≤ _
       rw [hdd]; simp; omega
      clear hr hf hDj hk hl k6 hrg hdd
      generalize addDefR (takeR ts 27 sq).1 ⟨(newNameR ts (goR ts su)).2, none, some mq⟩ = sN at *
      go_wp2_with (go_at_call 167; refine (unhide HD).mono ?_; rintro e w1 ⟨rfl, D1, O1, hr1, hf1, hD1, hk1⟩; have HR1 := hide hr1; have HK1 := hide hk1; have HD1 := hide hD1; replace HF := hide ((unhide HF).trans hf1); clear hr1 hf1 hD1 hk1)
      have hwr := (unhide HF).size
      go_roundg (8 - (j + 1))
      case measure => omega
      case rel => exact ⟨j + 1, sN, D1, O1, by go_num, by omega, hdn, unhide HR1, unhide HF, fun q hq => ((unhide HD1) q hq).elim ((unhide HDJ) q) (fun h => by omega), unhide HK1, by rw [show 8 - (j + 1) = 7 - j by omega]; exact unhide HL⟩
    ·rw [if_neg k6] at hl
     by_cases k5 : kindR ts su = 5
     ·rw [defR, if_pos k5] at hl
      cases hrg : rangesR ts n (takeR ts 26 (newNameR ts (goR ts su)).1).1 with
      | none => rw [hrg] at hl; cases hl
      | some q =>
       obtain ⟨sq, mq⟩ := q
       rw [hrg] at hl
       dsimp only at hl
       have hdd : (takeR ts 27 sq).1.defs = su.defs := by
        rw [takeR_defs]
        have := rangesR_defs hrg
        dsimp only at this
        rw [this, takeR_defs, newNameR_defs]; rfl
       have HD := hide (def_set (unhide HT) (unhide HLL) n hn hr hk k5 (by rw [hdd]; omega) hrg)
       have HL := hide hl
       have hdn : (addDefR (takeR ts 27 sq).1 ⟨(newNameR ts (goR ts su)).2, some mq, none⟩).defs.length ≤ j + 1 := by
        show ((takeR ts 27 sq).1.defs ++ [_]).length ≤ _
        rw [hdd]; simp; omega
       clear hr hf hDj hk hl k5 k6 hrg hdd
       generalize addDefR (takeR ts 27 sq).1 ⟨(newNameR ts (goR ts su)).2, some mq, none⟩ = sN at *
       go_wp2_with (go_at_call 167; refine (unhide HD).mono ?_; rintro e w1 ⟨rfl, D1, O1, hr1, hf1, hD1, hk1⟩; have HR1 := hide hr1; have HK1 := hide hk1; have HD1 := hide hD1; replace HF := hide ((unhide HF).trans hf1); clear hr1 hf1 hD1 hk1)
       have hwr := (unhide HF).size
       go_roundg (8 - (j + 1))
       case measure => omega
       case rel => exact ⟨j + 1, sN, D1, O1, by go_num, by omega, hdn, unhide HR1, unhide HF, fun q hq => ((unhide HD1) q hq).elim ((unhide HDJ) q) (fun h => by omega), unhide HK1, by rw [show 8 - (j + 1) = 7 - j by omega]; exact unhide HL⟩
     ·rw [defR, if_neg k5, if_neg k6] at hl
      dsimp only at hl
      obtain rfl : su = sF := Option.some.inj hl
      have HD := hide (def_no (unhide HT) hr hk k5 k6)
      clear hr hf hDj hk hl k5 k6
      by_cases e1 : kindR ts s2 = 1
      ·rw [if_pos e1] at hq
       have HQ := hide hq
       have HE := hide e1
       clear hq e1
       go_wp2_with (first
        | (go_at_call 167; refine (unhide HD).mono ?_; clear HD; rintro e w1 ⟨rfl, hr1, hf1⟩; have HR := hide hr1; replace HF := hide ((unhide HF).trans hf1); clear hr1 hf1))
       refine ((unhide HO) _ _ _ (unhide HR) (unhide HK)).mono ?_
       rintro e w2 ⟨v, O2, rfl, hr2, hf2, hs2, hk2, ⟨va, vc, rfl⟩, hl2⟩
       have HS := hide (hs2.fr (Fr.refl _ _) (unhide HF).size)
       have HK2 := hide hk2
       have HL2 := hide hl2
       replace HR := hide hr2
       replace HF := hide ((unhide HF).trans hf2)
       clear hr2 hf2 hs2 hk2 hl2
       go_wp2_with (first
        | (go_at_call 170; refine (kind_is (unhide HR) (unhide HK2) (unhide HT) (unhide HE)).mono ?_; rintro e w1 ⟨rfl, hr1, hf1⟩; replace HR := hide hr1; replace HS := hide ((unhide HS).fr hf1 (Nat.le_refl _)); replace HF := hide ((unhide HF).trans hf1); clear hr1 hf1)
        | fail)
       go_ret
       rw [unhide HQ]
       exact ⟨_, _, _, rfl, unhide HR, unhide HF, (unhide HS).allow (fun k _ ha => ⟨ha.1, Or.inr (ha.2.elim ((unhide HDJ) k) id)⟩), unhide HK2, ⟨_, _, rfl⟩, unhide HL2⟩
      ·rw [if_neg e1] at hq
       have HQ := hide hq
       have b1 : (kindR ts s2 != 1) = true := by simpa using e1
       clear hq e1
       go_wp2_with (first
        | (go_at_call 167; refine (unhide HD).mono ?_; clear HD; rintro e w1 ⟨rfl, hr1, hf1⟩; have HR := hide hr1; replace HF := hide ((unhide HF).trans hf1); clear hr1 hf1))
       refine ((unhide HO) _ _ _ (unhide HR) (unhide HK)).mono ?_
       rintro e w2 ⟨v, O2, rfl, hr2, hf2, hs2, hk2, ⟨va, vc, rfl⟩, hl2⟩
       have HS := hide (hs2.fr (Fr.refl _ _) (unhide HF).size)
       have HK2 := hide hk2
       have HL2 := hide hl2
       replace HR := hide hr2
       replace HF := hide ((unhide HF).trans hf2)
       clear hr2 hf2 hs2 hk2 hl2
       go_wp2_with (first
        | (go_at_call 170; refine (kind_is (unhide HR) (unhide HK2) (unhide HT) rfl).mono ?_; rintro e w1 ⟨rfl, hr1, hf1⟩; replace HR := hide hr1; replace HS := hide ((unhide HS).fr hf1 (Nat.le_refl _)); replace HF := hide ((unhide HF).trans hf1); clear hr1 hf1)
        | (go_at_call 171; refine (fail_any (unhide HR) (unhide HK2).next (unhide HT).n1).mono ?_; rintro e w1 ⟨rfl, hr1, hf1⟩; replace HR := hide hr1; replace HS := hide ((unhide HS).fr hf1 (Nat.le_refl _)); replace HF := hide ((unhide HF).trans hf1); clear hr1 hf1))
       go_ret
       rw [unhide HQ]
       exact ⟨_, _, _, rfl, unhide HR, unhide HF, (unhide HS).allow (fun k _ ha => ⟨ha.1, Or.inr (ha.2.elim ((unhide HDJ) k) id)⟩), failR_ok (unhide HK2), ⟨_, _, rfl⟩, unhide HL2⟩
   ·obtain rfl : j = 8 := by omega
    obtain rfl : su = sF := Option.some.inj hl
    have HR := hide hr
    clear hr hf hDj hk hl
    by_cases e1 : kindR ts s2 = 1
    ·rw [if_pos e1] at hq
     have HQ := hide hq
     have HE := hide e1
     clear hq e1
     go_wp2_with fail
     refine ((unhide HO) _ _ _ (unhide HR) (unhide HK)).mono ?_
     rintro e w2 ⟨v, O2, rfl, hr2, hf2, hs2, hk2, ⟨va, vc, rfl⟩, hl2⟩
     have HS := hide (hs2.fr (Fr.refl _ _) (unhide HF).size)
     have HK2 := hide hk2
     have HL2 := hide hl2
     replace HR := hide hr2
     replace HF := hide ((unhide HF).trans hf2)
     clear hr2 hf2 hs2 hk2 hl2
     go_wp2_with (first
      | (go_at_call 170; refine (kind_is (unhide HR) (unhide HK2) (unhide HT) (unhide HE)).mono ?_; rintro e w1 ⟨rfl, hr1, hf1⟩; replace HR := hide hr1; replace HS := hide ((unhide HS).fr hf1 (Nat.le_refl _)); replace HF := hide ((unhide HF).trans hf1); clear hr1 hf1)
      | fail)
     go_ret
     rw [unhide HQ]
     exact ⟨_, _, _, rfl, unhide HR, unhide HF, (unhide HS).allow (fun k _ ha => ⟨ha.1, Or.inr (ha.2.elim ((unhide HDJ) k) id)⟩), unhide HK2, ⟨_, _, rfl⟩, unhide HL2⟩
    ·rw [if_neg e1] at hq
     have HQ := hide hq
     have b1 : (kindR ts s2 != 1) = true := by simpa using e1
     clear hq e1
     go_wp2_with fail
     refine ((unhide HO) _ _ _ (unhide HR) (unhide HK)).mono ?_
     rintro e w2 ⟨v, O2, rfl, hr2, hf2, hs2, hk2, ⟨va, vc, rfl⟩, hl2⟩
     have HS := hide (hs2.fr (Fr.refl _ _) (unhide HF).size)
     have HK2 := hide hk2
     have HL2 := hide hl2
     replace HR := hide hr2
     replace HF := hide ((unhide HF).trans hf2)
     clear hr2 hf2 hs2 hk2 hl2
     go_wp2_with (first
      | (go_at_call 170; refine (kind_is (unhide HR) (unhide HK2) (unhide HT) rfl).mono ?_; rintro e w1 ⟨rfl, hr1, hf1⟩; replace HR := hide hr1; replace HS := hide ((unhide HS).fr hf1 (Nat.le_refl _)); replace HF := hide ((unhide HF).trans hf1); clear hr1 hf1)
      | (go_at_call 171; refine (fail_any (unhide HR) (unhide HK2).next (unhide HT).n1).mono ?_; rintro e w1 ⟨rfl, hr1, hf1⟩; replace HR := hide hr1; replace HS := hide ((unhide HS).fr hf1 (Nat.le_refl _)); replace HF := hide ((unhide HF).trans hf1); clear hr1 hf1))
     go_ret
     rw [unhide HQ]
     exact ⟨_, _, _, rfl, unhide HR, unhide HF, (unhide HS).allow (fun k _ ha => ⟨ha.1, Or.inr (ha.2.elim ((unhide HDJ) k) id)⟩), failR_ok (unhide HK2), ⟨_, _, rfl⟩, unhide HL2⟩
end Go.Proofs.YtgdeeodifnegiaaGreatDoor
namespace Go.Proofs.YtgdeeodifnegiaaGreatDoor
open Go.RowKit
theorem index_hit (c : UInt8) (y : List UInt8) : ∀ (x : List UInt8), c ∉ x → Lib.index (x ++ c :: y) [c] = (x.length : Int)
 | [], _ => by simp [Lib.index, List.isPrefixOf]
 | b :: x, h => by
  have hb : c ≠ b := fun e => h (by rw [e]; exact List.mem_cons_self)
  have ih := index_hit c y x (fun e => h (List.mem_cons_of_mem _ e))
  rw [List.cons_append, Lib.index, if_neg (by simp [List.isPrefixOf, hb]), ih, if_neg (by simp <;> omega)]
  simp
theorem index_miss (c : UInt8) : ∀ (x : List UInt8), c ∉ x → Lib.index x [c] = -1
 | [], _ => by simp [Lib.index]
 | b :: x, h => by
  have hb : c ≠ b := fun e => h (by rw [e]; exact List.mem_cons_self)
  have ih := index_miss c x (fun e => h (List.mem_cons_of_mem _ e))
  rw [Lib.index, if_neg (by simp [List.isPrefixOf, hb]), ih]; rfl
theorem cut_hit (c : UInt8) (x y : List UInt8) (h : c ∉ x) : Lib.cut (x ++ c :: y) [c] = (x, y, true) := by
 have hi := index_hit c y x h
 unfold Lib.cut
 rw [hi, if_pos (by omega), Int.toNat_natCast, List.take_left, show x.length + [c].length = x.length + 1 from rfl, ← List.drop_drop, List.drop_left]; rfl
theorem splitK_hit (c : UInt8) (x y : List UInt8) (h : c ∉ x) (k : Nat) : Lib.splitK [c] 0 (k + 1) (x ++ c :: y) = x :: Lib.splitK [c] 0 k y := by
 have hi := index_hit c y x h
 rw [Lib.splitK, hi, if_neg (by simp <;> omega), Int.toNat_natCast, Nat.add_zero, List.take_left, show x.length + [c].length = x.length + 1 from rfl, ← List.drop_drop, List.drop_left]; rfl
theorem splitK_miss (c : UInt8) (x : List UInt8) (h : c ∉ x) (k : Nat) : Lib.splitK [c] 0 k x = [x] := by
 cases k with
 | zero => rfl
 | succ k => rw [Lib.splitK, index_miss c x h]; rfl
theorem data_inj : ∀ {a b : List ByteArray}, a.map (·.data.toList) = b.map (·.data.toList) → a = b
 | [], [], _ => rfl
 | [], _ :: _, h => by cases h
 | _ :: _, [], h => by cases h
 | x :: a, y :: b, h => by
  simp only [List.map_cons, List.cons.injEq] at h
  rw [data_inj h.2]
  obtain ⟨dx⟩ := x
  obtain ⟨dy⟩ := y
  have : dx = dy := by
   have := congrArg List.toArray h.1
   simpa using this
  rw [this]
end Go.Proofs.YtgdeeodifnegiaaGreatDoor
namespace Go.Proofs.YtgdeeodifnegiaaGreatDoor
open Go.RowKit
end Go.Proofs.YtgdeeodifnegiaaGreatDoor
namespace Go.Proofs.YtgdeeodifnegiaaGreatDoor
open Go.RowKit
end Go.Proofs.YtgdeeodifnegiaaGreatDoor
namespace Go.Proofs.YtgdeeodifnegiaaGreatDoor
open Go.RowKit
end Go.Proofs.YtgdeeodifnegiaaGreatDoor
namespace Go.Proofs.YtgdeeodifnegiaaGreatDoor
open Go.RowKit
end Go.Proofs.YtgdeeodifnegiaaGreatDoor
namespace Go.Proofs.YtgdeeodifnegiaaGreatDoor
open Go.RowKit
theorem scan_all {p : Int → Bool} {s : ByteArray} : ∀ (f i : Nat), i ≤ s.size → ∀ k, i ≤ k → k < scan p s f i → p (bt s k) = true
 | 0, i, _, k, h1, h2 => by rw [scan] at h2; omega
 | f + 1, i, hi, k, h1, h2 => by
  rw [scan] at h2
  split at h2
  ·rename_i hc
   rcases Nat.lt_or_ge i k with h3 | h3
   ·exact scan_all f (i + 1) (by omega) k h3 h2
   ·obtain rfl : i = k := by omega
    exact hc.2
  ·omega
theorem scanTo_all {p : Int → Bool} {s : ByteArray} {b : UInt8} (hb : b ∈ s.data.toList.take (scanTo p s 0)) : p (b.toNat : Int) = true := by
 obtain ⟨k, hk, he⟩ := List.mem_iff_getElem.1 hb
 have hlen : s.data.toList.length = s.size := by simp
 rw [List.length_take] at hk
 have hks : k < s.size := by omega
 have h := scan_all (p := p) (s := s) (s.size - 0) 0 (Nat.zero_le _) k (Nat.zero_le _) (show k < scanTo p s 0 by omega)
 have hb2 : bt s k = (b.toNat : Int) := by
  rw [List.getElem_take] at he
  have : bt (bsA s.data.toList) k = (b.toNat : Int) := bt_bsA (by rw [List.getElem?_eq_getElem (by omega), he])
  rwa [bsA_toList] at this
 rw [← hb2]; exact h
theorem ext_list (s : ByteArray) (n : Nat) : s.extract 0 n = bsA (s.data.toList.take n) := by
 have h : (s.extract 0 n).data = (bsA (s.data.toList.take n)).data := by
  rw [ByteArray.data_extract]
  apply Array.ext'
  simp
 cases hx : s.extract 0 n with
 | mk d => rw [hx] at h; simp only at h; rw [h]
end Go.Proofs.YtgdeeodifnegiaaGreatDoor
namespace Go.Proofs.YtgdeeodifnegiaaGreatDoor
open Go.RowKit
abbrev Gp := List UInt8 × TokP
def rend (l : List Gp) : List UInt8 := l.flatMap fun x => x.1 ++ x.2.text.data.toList
def gapOk (g : List UInt8) : Prop := g = [32] ∨ g = [10]
def sepOk (x : Gp) : Prop := gapOk x.1 ∨ (x.1 = [] ∧ (x.2.kind = 27 ∨ x.2.kind = 28))
end Go.Proofs.YtgdeeodifnegiaaGreatDoor
namespace Go.Proofs.YtgdeeodifnegiaaGreatDoor
open Go.RowKit
end Go.Proofs.YtgdeeodifnegiaaGreatDoor
