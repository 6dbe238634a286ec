/- The program's reader: a new name, the use of a set, 'net in' (package policy). -/
import Derived.Test.YtgdeeodifnegiaaGreatDoorSetA
import Derived.Laws.EntriesVeiled
import Derived.Deep.RegionLaw
namespace Go.Proofs.YtgdeeodifnegiaaGreatDoor
open Go.RowKit

theorem newNameR_ok {ts : List TokP} {st : RS} (h : Ok ts st) (ht : TsOk ts) : Ok ts (newNameR ts st).1 := by
  have h1 := takeR_ok (k := 4) h ht (by decide)
  unfold newNameR
  dsimp only
  split
  · exact ⟨h1.next, h1.page, h1.gap⟩
  · exact h1
set_option maxRecDepth 100000 in
set_option maxHeartbeats 2000000 in
theorem newName_any {pb : Nat} {ts : List TokP} (ht : TsOk ts) {w : World} {st : RS} {D O : Nat → Prop} (h : RA w pb ts st D O) (hk : Ok ts st) :
    Calls Tryz.prog 212 #[ptr4 pb 0] w fun e w' => e = .returned (.string (newNameR ts st).2) ∧ ∃ O', RA w' pb ts (newNameR ts st).1 D O' ∧ Fr O w O' w' := by
  have HT := hide (take_any h hk ht 4)
  have HW := hide (show newNameR ts st = (if isDefR (takeR ts 4 st).1 (takeR ts 4 st).2.text then tellName (takeR ts 4 st).1 (takeR ts 4 st).2.at_ else (takeR ts 4 st).1, (takeR ts 4 st).2.text) from rfl)
  clear h hk ht
  generalize takeR ts 4 st = P at *
  obtain ⟨s1, t⟩ := P
  cases hd : isDefR s1 t.text with
  | true =>
    have EQ : Hid (newNameR ts st = (tellName s1 t.at_, t.text)) := by unfold Hid; rw [unhide HW, hd]; rfl
    clear HW
    go_enter Tryz.func212, Tryz.ntmps212
    go_wp2_with (first
      | (go_at_call 213; refine (unhide HT).mono ?_; clear HT; rintro e w1 ⟨rfl, O1, hr1, hf1⟩; have HR := hide (hr1.alloc (tokBlk t)); have HF := hide (hf1.alloc (tokBlk t)); have HN := hide (And.intro (heap_alloc_new w1 (tokBlk t)) (show ¬ O1 w1.heap.size from fun ho => by have := hr1.lt ho; omega)); clear hr1 hf1; dsimp only)
      | (go_at_call 258; refine (isDefined_any (unhide HR) t.text).mono ?_; rw [hd]; rintro e w2 ⟨rfl, hb2⟩; replace HN := hide (fr_keeps (Fr.of_below hb2) (unhide HN).1 (unhide HN).2); replace HR := hide ((unhide HR).stay hb2); replace HF := hide ((unhide HF).below hb2); clear hb2))
    have c1 : w2.cell? ⟨w1.heap.size, 1, none⟩ = some (.int .i64 t.at_) := cell_of_heap (unhide HN).1
    have HTL := hide (fun q => tellNam_any ((unhide HR).drewN q) t.at_)
    go_region_with (go_at_call 228; refine ((unhide HTL) 1).mono ?_; rintro e w3 ⟨rfl, hr3, hf3⟩)
    all_goals
      have g3 := fr_keeps ((((Fr.refl _ _).drewN 1).trans hf3)) (unhide HN).1 (unhide HN).2
      have c3 : w3.cell? ⟨w1.heap.size, 2, none⟩ = some (.string t.text) := cell_of_heap g3.1
      have HR2 := hide hr3
      have HF2 := hide (((unhide HF).drewN 1).trans hf3)
      clear hr3 hf3 g3
      go_wp2_with fail
      go_ret
      rw [unhide EQ]
      exact ⟨rfl, _, unhide HR2, unhide HF2⟩
  | false =>
    have EQ : Hid (newNameR ts st = (s1, t.text)) := by unfold Hid; rw [unhide HW, hd]; rfl
    clear HW
    go_enter Tryz.func212, Tryz.ntmps212
    go_wp2_with (first
      | (go_at_call 213; refine (unhide HT).mono ?_; clear HT; rintro e w1 ⟨rfl, O1, hr1, hf1⟩; have HR := hide (hr1.alloc (tokBlk t)); have HF := hide (hf1.alloc (tokBlk t)); have HN := hide (And.intro (heap_alloc_new w1 (tokBlk t)) (show ¬ O1 w1.heap.size from fun ho => by have := hr1.lt ho; omega)); clear hr1 hf1; dsimp only)
      | (go_at_call 258; refine (isDefined_any (unhide HR) t.text).mono ?_; rw [hd]; rintro e w2 ⟨rfl, hb2⟩; replace HN := hide (fr_keeps (Fr.of_below hb2) (unhide HN).1 (unhide HN).2); have c2 : w2.cell? ⟨w1.heap.size, 2, none⟩ = some (.string t.text) := cell_of_heap (unhide HN).1; replace HR := hide ((unhide HR).stay hb2); replace HF := hide ((unhide HF).below hb2); clear hb2))
    go_ret
    rw [unhide EQ]
    exact ⟨rfl, _, unhide HR, unhide HF⟩
def SetO (w : World) (A : Nat → Prop) (v : Value) : Option SetM → Prop
  | none => FnV v
  | some m => Lasts w A (SetC v m)
theorem SetO.fnv {w : World} {A : Nat → Prop} {v : Value} {o : Option SetM} (h : SetO w A v o) : FnV v := by
  cases o with
  | none => exact h
  | some m =>
    obtain ⟨K, g, lb, h1, _⟩ := Lasts.now h
    exact Or.inl ⟨_, _, _, h1⟩
def SetORes (pb : Nat) (ts : List TokP) (w : World) (D O : Nat → Prop) (r : RS × Option SetM) (e : Ending) (w' : World) : Prop :=
  ∃ v O', e = .returned v ∧ RA w' pb ts r.1 D O' ∧ Fr O w O' w' ∧ SetO w' (Free O' D w.heap.size) v r.2 ∧ Ok ts r.1
theorem Tryz.neNil (w : World) : (Sem.run Tryz.prog (binOp BinOp.neq 303 .nilFunc .nilFunc) w) = .ok (.bool false) w := by kernel_rfl
theorem Tryz.neFn (f : Fn) (a b : Array Value) (w : World) : (Sem.run Tryz.prog (binOp BinOp.neq 303 (.func f a b) .nilFunc) w) = .ok (.bool true) w := by kernel_rfl
set_option maxRecDepth 100000 in
set_option maxHeartbeats 4000000 in
theorem useSet_any {pb : Nat} {ts : List TokP} (ht : TsOk ts) {w : World} {st : RS} {D O : Nat → Prop} (h : RA w pb ts st D O) (hk : Ok ts st) :
    Calls Tryz.prog 374 #[ptr4 pb 0] w (SetORes pb ts w D O (useSetR ts st)) := by
  have HTK := hide (take_any h hk ht 4)
  have HK1 := hide (takeR_ok (k := 4) hk ht (by decide))
  have HW := hide (show useSetR ts st = (match findSet (takeR ts 4 st).1.defs (takeR ts 4 st).2.text with | some s => ((takeR ts 4 st).1, some s) | none => (tellName (takeR ts 4 st).1 (takeR ts 4 st).2.at_, none)) from rfl)
  clear h hk ht
  generalize takeR ts 4 st = P at *
  obtain ⟨s1, t⟩ := P
  dsimp only at HK1 HW
  generalize useSetR ts st = RS2 at *
  have hbf := Tryz.neNil
  have hbg := Tryz.neFn
  go_enter Tryz.func374, Tryz.ntmps374
  go_wp2_with (go_at_call 213; refine (unhide HTK).mono ?_; clear HTK; rintro e w1 ⟨rfl, O1, hr1, hf1⟩; have HR := hide (hr1.alloc (tokBlk t)); have HF := hide (hf1.alloc (tokBlk t)); have HN := hide (And.intro (heap_alloc_new w1 (tokBlk t)) (show ¬ O1 w1.heap.size from fun ho => by have := hr1.lt ho; omega)); obtain ⟨dv, xs, hc, hd, hl, hrep⟩ := (hr1.alloc (tokBlk t)).defsV; obtain ⟨q, c, hq⟩ := hd.form; have HD := hide hd; have HRP := hide (And.intro hl hrep); clear hr1 hf1 hd hl hrep; dsimp only; subst hq)
  obtain ⟨W1, hW1⟩ : ∃ W1, w1.alloc (tokBlk t) = W1 := ⟨_, rfl⟩
  rw [hW1] at HR HF HN HD HRP
  unfold tokBlk at hW1
  rw [hW1]
  have hln := (unhide HD).len
  unfold maxLen at hln
  have hwf := (unhide HF).size
  have hn1 : w1.heap.size < W1.heap.size := heap_lt (unhide HN).1
  clear hc
  go_loopw [13] (fun i wr => ∃ j : Nat, j ≤ xs.length ∧ i = .int .i64 (j : Nat) ∧ Hid (findSet (s1.defs.drop j) t.text = findSet s1.defs t.text) ∧ Below W1.heap.size W1 wr) (fun i _ => xs.length - (intOf i).toNat)
  case atStart => exact ⟨0, Nat.zero_le _, rfl, rfl, Below.refl _ _⟩
  case round =>
    obtain ⟨j, hj, rfl, HFS, hbl⟩ := hrel
    have HBL := hide hbl
    have hsb := hbl.size
    clear hbl
    by_cases hlt : j < xs.length
    · obtain ⟨g, c', hq⟩ := (unhide HD).some_ (fun e => by rw [e] at hlt; simp at hlt)
      injection hq with hq1 hq2 hq3
      subst hq1 hq3
      obtain ⟨hgl, hcell⟩ := ((unhide HD).below (unhide HBL)).cell g c rfl
      have hx : xs[j]? = some xs[j] := List.getElem?_eq_getElem hlt
      have hjd : j < s1.defs.length := by rw [← (unhide HRP).1]; exact hlt
      obtain ⟨k1, k2, k3⟩ := hcell j _ hx
      have hrp := (unhide HRP).2 j s1.defs[j] xs[j] (List.getElem?_eq_getElem hjd) hx
      have hfn := (unhide HD).fn xs[j] (List.getElem_mem _)
      have hdr : s1.defs.drop j = s1.defs[j] :: s1.defs.drop (j + 1) := List.drop_eq_getElem_cons hjd
      have hfs := unhide HFS
      rw [hdr, findSet] at hfs
      have hnk := ((unhide HBL).block w1.heap.size hn1).trans (unhide HN).1
      have ct : wr.cell? ⟨w1.heap.size, 2, none⟩ = some (.string t.text) := cell_of_heap hnk
      have lw : w1.heap.size < wr.heap.size := heap_lt hnk
      clear hcell hx hdr HFS hnk
      generalize s1.defs[j] = dd at *
      generalize xs[j] = X at *
      obtain ⟨n, v1, v2⟩ := X
      obtain ⟨hp1, hp2, _⟩ := hrp
      dsimp only at k1 k2 k3 hfn hp1 hp2
      subst hp1
      obtain ⟨h1, h2⟩ := hfn
      cases hE : dd.name.toList == t.text.toList with
      | true =>
        cases hS : dd.set with
        | some m =>
          rw [hS] at hp2 hfs
          dsimp only at hp2
          rw [hE, if_pos (by simp)] at hfs
          have hR2 : RS2 = (s1, some m) := by rw [unhide HW, ← hfs]
          obtain ⟨K0, g0, lb0, hv0, _⟩ := Lasts.now hp2
          have HP2 := hide hp2
          subst hR2
          clear hp2 hfs h1
          subst hv0
          rcases h2 with ⟨f', a', b', rfl⟩ | rfl <;>
          · go_wp2_with fail
            go_ret
            refine ⟨_, _, rfl, ((unhide HR).stay (unhide HBL)).alloc _, ((unhide HF).below (unhide HBL)).alloc _, ?_, unhide HK1⟩
            exact Lasts.mono (unhide HP2) (by simp; omega) (fun k hk ha => ⟨(Below.heap_alloc _ _ _ (by omega)).trans ((unhide HBL).block k hk), ha.1, Or.inl ha.2⟩) (fun _ _ h => h)
        | none =>
          rw [hS] at hp2 hfs
          dsimp only at hp2
          rw [if_neg (by simp)] at hfs
          have HFS := hide hfs
          clear hfs h1
          subst hp2
          rcases h2 with ⟨f', a', b', rfl⟩ | rfl <;>
          · go_wp2_with fail
            exact ⟨⟨j + 1, by omega, by go_num, HFS, (unhide HBL).alloc hsb _⟩, by simp [intOf]; omega⟩
      | false =>
        rw [hE, if_neg (by simp)] at hfs
        have HFS := hide hfs
        clear hfs hp2
        rcases h1 with ⟨f, a, b, rfl⟩ | rfl <;> rcases h2 with ⟨f', a', b', rfl⟩ | rfl <;>
        · go_wp2_with fail
          exact ⟨⟨j + 1, by omega, by go_num, HFS, (unhide HBL).alloc hsb _⟩, by simp [intOf]; omega⟩
    · have hfs := unhide HFS
      rw [List.drop_eq_nil_of_le (by rw [← (unhide HRP).1]; omega), findSet] at hfs
      have hR2 : RS2 = (tellName s1 t.at_, none) := by rw [unhide HW, ← hfs]
      subst hR2
      have hnk := ((unhide HBL).block w1.heap.size hn1).trans (unhide HN).1
      have ct : wr.cell? ⟨w1.heap.size, 1, none⟩ = some (.int .i64 t.at_) := cell_of_heap hnk
      have HTL := hide (fun q => tellNam_any (((unhide HR).stay (unhide HBL)).drewN q) t.at_)
      clear hfs HFS hnk
      go_wp2_with fail
      go_region_with (go_at_call 228; refine ((unhide HTL) 1).mono ?_; rintro e w3 ⟨rfl, hr3, hf3⟩)
      all_goals
        have HR2 := hide hr3
        have HF2 := hide ((((unhide HF).below (unhide HBL)).drewN 1).trans hf3)
        clear hr3 hf3
        go_wp2_with fail
        go_ret
        exact ⟨_, _, rfl, unhide HR2, unhide HF2, Or.inr rfl, ⟨(unhide HK1).next, (unhide HK1).page, (unhide HK1).gap⟩⟩
/-! ## net in -/
set_option maxRecDepth 100000 in
set_option maxHeartbeats 1000000 in
theorem netIn_run (W : World) (b : Nat) (r : Rt) (pv mv : Value) (h : RtAt W b r pv mv) (va : Value) (ma : SetM) (Ka : Nat → Prop) (ha : SetC va ma Ka W) (B1 : Nat) (c1 : W.cell? ⟨B1, 0, none⟩ = some va) :
    Calls Tryz.prog 383 (#[ptr4 b 0] ++ #[ptr4 B1 0]) W fun e W' => e = .returned (condV (netInM ma r)) ∧ Below W.heap.size W W' := by
  obtain ⟨g, lb, rfl, eg, hc⟩ := ha
  have e1 := enters_fn eg
  have HA := hide (fun (V : World) (hV : Below W.heap.size W V) => hc V r.addr r.len hV)
  have r0 : W.cell? ⟨b, 0, none⟩ = some (.int .i64 r.addr) := cell_of_heap h.blk
  have r1 : W.cell? ⟨b, 1, none⟩ = some (.int .i64 r.len) := cell_of_heap h.blk
  have EQ : Hid (condV (netInM ma r) = .tuple #[.bool (ma r.addr r.len), .bool true]) := rfl
  clear hc h eg
  rw [unhide EQ]
  generalize ma r.addr r.len = M at *
  go_enter Tryz.func383, Tryz.ntmps383
  go_wp2_with fail
  go_region_with (go_at_fn g; refine ((unhide HA) _ (Below.refl _ _).drew).mono ?_; rintro e w1 ⟨rfl, hb1⟩; have HB1 := hide (((Below.refl W.heap.size W).drew).trans (hb1.mono (Nat.le_refl _))); clear hb1)
  all_goals
    go_wp2_with fail
    go_ret2
    exact ⟨rfl, unhide HB1⟩
set_option maxRecDepth 100000 in
set_option maxHeartbeats 1000000 in
theorem netIn_call (w : World) (va : Value) (ha : FnV va) :
    Calls Tryz.prog 373 #[va] w fun e w' => e = .returned (.func (.func 383) #[] #[ptr4 w.heap.size 0]) ∧ w' = (w.alloc (box1 va 303)) := by
  have hmf : ∀ (fn : Fn) (first cap : Array Value) (w : World), (Instr.makeFunc fn first cap).run Tryz.prog w = .ok (.func fn first cap) w := fun _ _ _ _ => rfl
  rcases ha with ⟨f, a, b, rfl⟩ | rfl <;>
  · go_enter Tryz.func373, Tryz.ntmps373
    go_wp2_with fail
    go_ret
    exact ⟨rfl, rfl⟩
theorem Tryz.entNetIn : Enters Tryz.prog 383 := enters_of Tryz.func383 (by kernel_rfl) rfl
theorem SetO.alloc {w : World} {A : Nat → Prop} {v : Value} {o : Option SetM} (h : SetO w A v o) (b : Obj) : SetO (w.alloc b) A v o := by
  cases o with
  | none => exact h
  | some m => exact Lasts.mono h (alloc_mono w b A).1 (alloc_mono w b A).2 (fun _ _ h => h)
theorem SetO.fr {w w' : World} {O O' D : Nat → Prop} {n m : Nat} {v : Value} {o : Option SetM} (h : SetO w (Free O D n) v o) (hf : Fr O w O' w') (hm : m ≤ n) : SetO w' (Free O' D m) v o := by
  cases o with
  | none => exact h
  | some x => exact Lasts.fr h hf hm
theorem netIn_any (w : World) (va : Value) (oa : Option SetM) (A : Nat → Prop) (hA : ∀ k, w.heap.size ≤ k → A k) (ha : SetO w A va oa) :
    Calls Tryz.prog 373 #[va] w fun e w' => ∃ v, e = .returned v ∧ w' = (w.alloc (box1 va 303)) ∧ CndO w' A v (oa.map netInM) := by
  refine (netIn_call w va ha.fnv).mono ?_
  rintro e w' ⟨rfl, rfl⟩
  refine ⟨_, rfl, rfl, ?_⟩
  cases oa with
  | none => exact Or.inl ⟨_, _, _, rfl⟩
  | some ma =>
    have h1 : Lasts _ A (SetC va ma) := ha.alloc (box1 va 303)
    refine Lasts.one h1 (fun k => k = w.heap.size) (fun k hk => ⟨by subst hk; simp, hA k (by omega)⟩) (fun K1 _ q1 W hW hk => ?_)
    exact ⟨_, _, rfl, Tryz.entNetIn, fun b r pv mv hr => netIn_run W b r pv mv hr va ma K1 (q1 W hW (fun k h => hk k (Or.inl h))) _ (cell_of_heap ((hk _ (Or.inr rfl)).trans (heap_alloc_new w _)))⟩
set_option maxRecDepth 100000 in
set_option maxHeartbeats 2000000 in
theorem test_net {pb : Nat} {ts : List TokP} (ht : TsOk ts) {w : World} {st : RS} {D O : Nat → Prop} (h : RA w pb ts st D O) (hk : Ok ts st) (e21 : kindR ts st = 21) :
    Calls Tryz.prog 358 #[ptr4 pb 0] w (CndRes pb ts w D O ((useSetR ts (takeR ts 22 (goR ts st)).1).1, (useSetR ts (takeR ts 22 (goR ts st)).1).2.map netInM)) := by
  have HR := hide h
  have HF := hide (Fr.refl O w)
  have HK := hide hk
  have HT := hide ht
  have HE := hide e21
  have HG := hide (goR_ok' hk ht e21 (by decide))
  have HG2 := hide (takeR_ok (k := 22) (unhide HG) ht (by decide))
  clear h hk ht e21
  go_enter Tryz.func358, Tryz.ntmps358
  go_wp2_with (first
    | (go_at_call 211; refine (took_yes (unhide HR) (unhide HK) (unhide HT) 21 (unhide HE)).mono ?_; rintro e w1 ⟨rfl, O1, hr1, hf1⟩; replace HR := hide hr1; replace HF := hide ((unhide HF).trans hf1); clear hr1 hf1)
    | (go_at_call 213; refine (take_any (unhide HR) (unhide HG) (unhide HT) 22).mono ?_; rintro e w2 ⟨rfl, O2, hr2, hf2⟩; replace HR := hide hr2; replace HF := hide ((unhide HF).trans hf2); clear hr2 hf2)
    | (go_at_call 374; refine (useSet_any (unhide HT) (unhide HR) (unhide HG2)).mono ?_; rintro e w3 ⟨v, O3, rfl, hr3, hf3, hv3, hk3⟩; have HV := hide (hv3.fr (Fr.refl _ _) (unhide HF).size); have HK3 := hide hk3; have hfv := hv3.fnv; replace HR := hide hr3; replace HF := hide ((unhide HF).trans hf3); clear hr3 hf3 hv3 hk3))
  refine (netIn_any _ v _ _ ((unhide HR).newFree (unhide HF)) (unhide HV)).mono ?_
  rintro e w4 ⟨v4, rfl, rfl, hv4⟩
  have HV4 := hide hv4
  replace HR := hide ((unhide HR).alloc (box1 v 303))
  replace HF := hide ((unhide HF).alloc (box1 v 303))
  clear hv4
  go_wp2_with fail
  go_ret
  exact ⟨_, _, rfl, unhide HR, unhide HF, unhide HV4, unhide HK3⟩
end Go.Proofs.YtgdeeodifnegiaaGreatDoor

namespace Go.Proofs.YtgdeeodifnegiaaGreatDoor
open Go.RowKit

def addDefR (st : RS) (d : DefP) : RS := { st with defs := st.defs ++ [d] }
/-- a DEF of a set; none: it is one of a way -/
def defR (ts : List TokP) (n : Nat) (st : RS) : Option (RS × Bool) :=
  if kindR ts st = 5 then
    (match rangesR ts n (takeR ts 26 (newNameR ts (goR ts st)).1).1 with
     | none => none
     | some (s, m) => some (addDefR (takeR ts 27 s).1 ⟨(newNameR ts (goR ts st)).2, some m, none⟩, true))
  else if kindR ts st = 6 then none
  else some (st, false)
theorem RAt.addDef {w w1 w2 : World} {pb : Nat} {ts : List TokP} {st : RS} {D : Nat → Prop} {tb tc : Nat} {dv av bv : Value} (h : RAt w pb ts st D tb tc dv av bv) (hb : Below w.heap.size w w1) {g cap n0 : Nat} {name : ByteArray} {v : Value} {m : SetM}
    (hv : Lasts w (Free (ROwn pb tb dv bv) D n0) (SetC v m)) {xs : List (ByteArray × Value × Value)} (hx2 : xs.length = st.defs.length) (hx3 : ∀ (i : Nat) (d : DefP) (x : ByteArray × Value × Value), st.defs[i]? = some d → xs[i]? = some x → DefRep w (fun k => ¬ ROwn pb tb dv bv k ∧ D k) d x)
    (hown : w2.ownsRow 0 307 3 (.slice (some ⟨g, 0, none⟩) (st.defs.length + 1) cap) (st.defs.length + 1) (defCells xs ++ [.string name, v, .nilFunc])) (hg : w1.grownBy w2 dv.ownBlock) (hat : dv.ownBlock = some g ∨ g = w1.heap.size) :
    ∃ D', (∀ k, D' k → D k ∨ n0 ≤ k) ∧ RA (w2.setCell ⟨pb, 3, none⟩ (.slice (some ⟨g, 0, none⟩) (st.defs.length + 1) cap)) pb ts (addDefR st ⟨name, some m, none⟩) D' (ROwn pb tb (.slice (some ⟨g, 0, none⟩) (st.defs.length + 1) cap) bv) ∧
      Fr (ROwn pb tb dv bv) w (ROwn pb tb (.slice (some ⟨g, 0, none⟩) (st.defs.length + 1) cap) bv) (w2.setCell ⟨pb, 3, none⟩ (.slice (some ⟨g, 0, none⟩) (st.defs.length + 1) cap)) := by
  obtain ⟨K, hK, hQ⟩ := hv
  have hpl := heap_lt h.blk
  have hs1 := hb.size
  have hs2 := hg.size
  have hag : ∀ k, k < w.heap.size → k ≠ pb → dv.ownBlock ≠ some k → (w2.setCell ⟨pb, 3, none⟩ (.slice (some ⟨g, 0, none⟩) (st.defs.length + 1) cap)).heap[k]? = w.heap[k]? := fun k hk hne hd =>
    (heap_set_other hne).trans ((hg.block k (by omega) (fun e => hd e.symm)).trans (hb.block k hk))
  have hpb : w2.heap[pb]? = w.heap[pb]? := (hg.block pb (by omega) (fun e => h.ne4 e.symm)).trans (hb.block pb hpl)
  have hgp : g ≠ pb := fun e => by
    rcases hat with h1 | h1
    · exact h.ne4 (by rw [h1, e])
    · omega
  have hss : (w2.setCell ⟨pb, 3, none⟩ (.slice (some ⟨g, 0, none⟩) (st.defs.length + 1) cap)).heap.size = w2.heap.size := by simp [World.setCell]
  have hgo : ∀ k, k < w.heap.size → dv.ownBlock ≠ some k → g ≠ k := fun k hk hd e => by
    rcases hat with h1 | h1
    · exact hd (by rw [h1, e])
    · omega
  have hno : ∀ k, k < w.heap.size → ¬ ROwn pb tb dv bv k → ¬ ROwn pb tb (.slice (some ⟨g, 0, none⟩) (st.defs.length + 1) cap) bv k := fun k hk hn ho => by
    rcases ho with e | e | e | e
    · exact hn (Or.inl e)
    · exact hn (Or.inr (Or.inl e))
    · exact hn (Or.inr (Or.inr (Or.inl e)))
    · have e' : g = k := by simpa [Value.ownBlock] using e
      exact hgo k hk (fun e2 => hn (Or.inr (Or.inr (Or.inr e2)))) e'
  have hagn : ∀ k, k < w.heap.size → ¬ ROwn pb tb dv bv k → (w2.setCell ⟨pb, 3, none⟩ (.slice (some ⟨g, 0, none⟩) (st.defs.length + 1) cap)).heap[k]? = w.heap[k]? := fun k hk hn =>
    hag k hk (fun e => hn (Or.inl e)) (fun e => hn (Or.inr (Or.inr (Or.inr e))))
  refine ⟨fun k => D k ∨ K k, fun k hk => hk.elim Or.inl (fun h1 => (hK k h1).2.2), ⟨tb, tc, _, av, bv, ⟨?_, ?_, ?_, h.used, ?_, h.ne1, h.ne2, h.ne3, ?_, ?_, ?_, ?_⟩, rfl⟩, ?_⟩
  · rw [heap_set (hpb.trans h.blk)]; rfl
  · exact owns_of h.toks (fun k e => by
      have e' : tb = k := by simpa [Value.ownBlock] using e
      subst e'
      exact hag tb (h.lt (Or.inr (Or.inl rfl))) h.ne1 h.ne5)
  · exact owns_of h.page (fun k e => hag k (h.lt (Or.inr (Or.inr (Or.inl e)))) (fun e2 => h.ne2 (by rw [e, e2])) (fun e2 => by
      rcases h.ne6 with h1 | h1
      · rw [h1] at e; cases e
      · exact h1 (e.trans e2.symm)))
  · refine ⟨xs ++ [(name, v, .nilFunc)], ?_, by simp [addDefR, hx2], fun i d x hd hx => ?_⟩
    · have e1 : defCells (xs ++ [(name, v, .nilFunc)]) = defCells xs ++ [.string name, v, .nilFunc] := by simp [defCells]
      rw [e1]
      have e2 : (addDefR st ⟨name, some m, none⟩).defs.length = st.defs.length + 1 := by simp [addDefR]
      rw [e2]
      exact owns_of hown (fun k e => by
        have e' : g = k := by simpa [Value.ownBlock] using e
        subst e'
        exact heap_set_other hgp)
    · have hd' : (st.defs ++ [(⟨name, some m, none⟩ : DefP)])[i]? = some d := hd
      rcases Nat.lt_or_ge i st.defs.length with hi | hi
      · rw [List.getElem?_append_left hi] at hd'
        rw [List.getElem?_append_left (by omega)] at hx
        exact (hx3 i d x hd' hx).mono (by omega) (fun k hk ha => ⟨hagn k hk ha.1, hno k hk ha.1, Or.inl ha.2⟩)
      · rw [List.getElem?_append_right hi] at hd'
        rw [List.getElem?_append_right (by omega)] at hx
        have hi0 : i - st.defs.length = 0 := by
          rcases Nat.eq_zero_or_pos (i - st.defs.length) with h1 | h1
          · exact h1
          · rw [List.getElem?_eq_none (by simp; omega)] at hd'; cases hd'
        rw [hi0] at hd'
        rw [hx2, hi0] at hx
        simp at hd' hx
        subst hd' hx
        refine ⟨rfl, ⟨K, fun k hk => ⟨by have := (hK k hk).1; omega, hno k (hK k hk).1 (hK k hk).2.1, Or.inr hk⟩, fun V hV hk => hQ V (by omega) (fun k h1 => (hk k h1).trans (hagn k (hK k h1).1 (hK k h1).2.1))⟩, rfl⟩
  · intro e
    have e' : g = pb := by simpa [Value.ownBlock] using e
    exact hgp e'
  · intro e
    have e' : g = tb := by simpa [Value.ownBlock] using e
    exact hgo tb (h.lt (Or.inr (Or.inl rfl))) h.ne5 e'
  · cases hbo : bv.ownBlock with
    | none => exact Or.inl rfl
    | some k =>
      right
      intro e
      have e' : k = g := by simpa [Value.ownBlock] using e
      have hkl := h.lt (Or.inr (Or.inr (Or.inl hbo)))
      refine hgo k hkl (fun e2 => ?_) e'.symm
      rcases h.ne6 with h1 | h1
      · rw [h1] at hbo; cases hbo
      · exact h1 (hbo.trans e2.symm)
  · intro k hk
    rcases hk with h1 | h1
    · exact ⟨by have := (h.free k h1).1; omega, hno k (h.free k h1).1 (h.free k h1).2⟩
    · exact ⟨by have := (hK k h1).1; omega, hno k (hK k h1).1 (hK k h1).2.1⟩
  · have hF : Fr (ROwn pb tb dv bv) w (ROwn pb tb dv bv) w2 := (Fr.of_below hb).grown hg (fun k e => Or.inl (Or.inr (Or.inr (Or.inr e))))
    refine (hF.reown (O2 := ROwn pb tb (.slice (some ⟨g, 0, none⟩) (st.defs.length + 1) cap) bv) (fun k hk => ?_)).setCell (Or.inl (Or.inl rfl)) _
    rcases hk with e | e | e | e
    · exact Or.inl (Or.inl e)
    · exact Or.inl (Or.inr (Or.inl e))
    · exact Or.inl (Or.inr (Or.inr (Or.inl e)))
    · have e' : g = k := by simpa [Value.ownBlock] using e
      rcases hat with h1 | h1
      · exact Or.inl (Or.inr (Or.inr (Or.inr (by rw [h1, e']))))
      · exact Or.inr (by omega)
def DefRes (pb : Nat) (ts : List TokP) (w : World) (D O : Nat → Prop) (r : RS × Bool) (e : Ending) (w' : World) : Prop :=
  e = .returned (.bool r.2) ∧ ∃ D' O', RA w' pb ts r.1 D' O' ∧ Fr O w O' w' ∧ (∀ k, D' k → D k ∨ w.heap.size ≤ k) ∧ Ok ts r.1
abbrev defBlk (s : ByteArray) (a b : Value) : Obj := .cells #[.string s, a, b] 307
theorem Tryz.infoDef : (Tryz.prog.info? 307).map (fun i => (i.zero, i.size, i.bytes)) = some (some (.agg #[.string ⟨#[]⟩, .nilFunc, .nilFunc]), 3, 32) := by kernel_rfl
set_option maxRecDepth 100000 in
set_option maxHeartbeats 4000000 in
theorem def_set {pb : Nat} {ts : List TokP} (ht : TsOk ts) (hL : LenOk ts) (n : Nat) (hn : n ≤ 1000) {w : World} {st : RS} {D O : Nat → Prop} (h : RA w pb ts st D O) (hk : Ok ts st) (e5 : kindR ts st = 5) {s : RS} {m : SetM} (hdl : (takeR ts 27 s).1.defs.length ≤ 1000)
    (hr : rangesR ts n (takeR ts 26 (newNameR ts (goR ts st)).1).1 = some (s, m)) :
    Calls Tryz.prog 167 #[ptr4 pb 0] w (DefRes pb ts w D O (addDefR (takeR ts 27 s).1 ⟨(newNameR ts (goR ts st)).2, some m, none⟩, true)) := by
  have HT := hide ht
  have HK := hide hk
  have HE := hide e5
  have HRG := hide (fun (W : World) (D O : Nat → Prop) (su : RS) (r : RS × SetM) (h : RA W pb ts su D O) (hk : Ok ts su) (hr : rangesR ts n su = some r) => ranges_said ht hL n hn h hk hr)
  have HG := hide (goR_ok' hk ht e5 (by decide))
  have HG2 := hide (newNameR_ok (unhide HG) ht)
  have HG3 := hide (takeR_ok (k := 26) (unhide HG2) ht (by decide))
  have HS := hide hr
  have HF := hide ((Fr.refl O w).alloc (defBlk ⟨#[]⟩ .nilFunc .nilFunc))
  have HR := hide (h.alloc (defBlk ⟨#[]⟩ .nilFunc .nilFunc))
  have HND : Hid (¬ D w.heap.size) := fun hd => by have := (h.free hd).1; omega
  have HB := hide (And.intro (heap_alloc_new w (defBlk ⟨#[]⟩ .nilFunc .nilFunc)) (show ¬ O w.heap.size from fun ho => by have := h.lt ho; omega))
  clear h hk ht e5 hL hr
  generalize hNN : newNameR ts (goR ts st) = NN at *
  obtain ⟨s2, nm⟩ := NN
  dsimp only at HG2 HG3 HS ⊢
  go_enter Tryz.func167, Tryz.ntmps167
  go_wp2_with (first
    | (go_at_call 211; refine (took_yes (unhide HR) (unhide HK) (unhide HT) 5 (unhide HE)).mono ?_; clear HE; rintro e w1 ⟨rfl, O1, hr1, hf1⟩; replace HB := hide (fr_keeps hf1 (unhide HB).1 (unhide HB).2); replace HR := hide hr1; replace HF := hide ((unhide HF).trans hf1); clear hr1 hf1)
    | (go_at_call 212; refine (newName_any (unhide HT) (unhide HR) (unhide HG)).mono ?_; rw [hNN]; rintro e w2 ⟨rfl, O2, hr2, hf2⟩; dsimp only; replace HB := hide (fr_keeps hf2 (unhide HB).1 (unhide HB).2); have c0 : w2.cell? ⟨w.heap.size, 0, none⟩ = some (.string ⟨#[]⟩) := cell_of_heap (unhide HB).1; have z0 : w2.frozen? ⟨w.heap.size, 0, none⟩ = false := frozen_of_heap (unhide HB).1; replace HR := hide (hr2.other ⟨(unhide HB).2, unhide HND⟩ 0 (.string nm)); replace HF := hide (((unhide HF).trans hf2).setCell (p := ⟨w.heap.size, 0, none⟩) (Or.inr (Nat.le_refl _)) (.string nm)); replace HB := hide (And.intro (show (w2.setCell ⟨w.heap.size, 0, none⟩ (.string nm)).heap[w.heap.size]? = some (defBlk nm .nilFunc .nilFunc) from (heap_set (unhide HB).1).trans rfl) (unhide HB).2); clear hr2 hf2)
    | (go_at_call 213; refine (take_any (unhide HR) (unhide HG2) (unhide HT) 26).mono ?_; clear HG2; rintro e w3 ⟨rfl, O3, hr3, hf3⟩; replace HB := hide (fr_keeps hf3 (unhide HB).1 (unhide HB).2); replace HR := hide hr3; replace HF := hide ((unhide HF).trans hf3); clear hr3 hf3 c0 z0)
    | (go_at_call 214; refine ((unhide HRG) _ _ _ _ _ (unhide HR) (unhide HG3) (unhide HS)).mono ?_; clear HRG; rintro e w4 ⟨v, O4, rfl, hr4, hf4, hfv, hv, hk4⟩; have hbd : w.heap.size < w3.heap.size := heap_lt (unhide HB).1; obtain ⟨K1, g1, lb1, hv1, _⟩ := Lasts.now hv; replace HB := hide (fr_keeps hf4 (unhide HB).1 (unhide HB).2); have c1 : w4.cell? ⟨w.heap.size, 1, none⟩ = some .nilFunc := cell_of_heap (unhide HB).1; have z1 : w4.frozen? ⟨w.heap.size, 1, none⟩ = false := frozen_of_heap (unhide HB).1; have HV := hide (show Lasts (w4.setCell ⟨w.heap.size, 1, none⟩ v) (Free O4 D w3.heap.size) (SetC v m) from hv.mono (by simp [World.setCell]) (fun k hk ha => ⟨heap_set_other (fun e => by (have e' : k = w.heap.size := e); subst e'; (rcases ha.2 with h1 | h1); (exact (unhide HND) h1); omega), ha⟩) (fun _ _ h => h)); replace HR := hide (hr4.other ⟨(unhide HB).2, unhide HND⟩ 1 v); replace HF := hide (((unhide HF).trans hf4).setCell (p := ⟨w.heap.size, 1, none⟩) (Or.inr (Nat.le_refl _)) v); replace HB := hide (And.intro (show (w4.setCell ⟨w.heap.size, 1, none⟩ v).heap[w.heap.size]? = some (defBlk nm v .nilFunc) from (heap_set (unhide HB).1).trans rfl) (unhide HB).2); have HK4 := hide hk4; clear hr4 hf4 hv hk4 hfv; subst hv1)
    | (go_at_call 213; refine (take_any (unhide HR) (unhide HK4) (unhide HT) 27).mono ?_; rintro e w5 ⟨rfl, O5, hr5, hf5⟩; replace HB := hide (fr_keeps hf5 (unhide HB).1 (unhide HB).2); replace HV := hide (Lasts.fr (unhide HV) hf5 (Nat.le_refl _)); replace HR := hide hr5; replace HF := hide ((unhide HF).trans hf5); clear hr5 hf5 c1 z1))
  have HK5 := hide (takeR_ok (k := 27) (unhide HK4) (unhide HT) (by decide))
  generalize takeR ts 27 s = P5 at *
  obtain ⟨s5, t5⟩ := P5
  dsimp only at HK5 hdl HR ⊢
  obtain ⟨tb, tc, dv, av, bv, hrt, hO5⟩ := unhide HR
  subst hO5
  obtain ⟨xs, hx1, hx2, hx3⟩ := hrt.defs
  obtain ⟨i0, hi0, hz0, hz1, hz2⟩ := info_parts Tryz.infoDef
  obtain ⟨da, dc, hdv⟩ := owns_form' hx1
  have hbe : Below w5.heap.size w5 (w5.alloc (defBlk nm (.func (.func g1) #[] lb1) .nilFunc)).drew := ((Below.refl _ _).alloc (Nat.le_refl _) _).drew
  have cdv : w5.cell? ⟨pb, 3, none⟩ = some dv := cell_of_heap hrt.blk
  have hpl := heap_lt hrt.blk
  have d0 : w5.cell? ⟨w.heap.size, 0, none⟩ = some (.string nm) := cell_of_heap (unhide HB).1
  have d1 : w5.cell? ⟨w.heap.size, 1, none⟩ = some (.func (.func g1) #[] lb1) := cell_of_heap (unhide HB).1
  have d2 : w5.cell? ⟨w.heap.size, 2, none⟩ = some .nilFunc := cell_of_heap (unhide HB).1
  have ld := heap_lt (unhide HB).1
  have HX1 := hide hx1
  have HX2 := hide hx2
  have HX3 := hide hx3
  have HRT := hide hrt
  have HBE := hide hbe
  clear hbe hx1 hx2 hx3 hrt HR HB
  subst hdv
  go_region_law ((refine step_append_lies _ (by rfl) _ _ _ (by rfl) 0 307 i0 _ 3 32 Tryz.underlying201 hi0 hz0 hz1 hz2 rfl (by omega) (.slice da s5.defs.length dc) s5.defs.length (defCells xs) (by rfl) (((unhide HX1).alloc _).drew) ⟨w5.heap.size, 0, none⟩ 1 1 [.string nm, .func (.func g1) #[] lb1, .nilFunc] (by rfl) rfl (World.news_of_block (cs := #[.string nm, .func (.func g1) #[] lb1, .nilFunc]) (t := 307) (fr := (0, 0)) (heap_alloc_new w5 _)) (by simp [Value.oneCell']) (by omega) (by unfold maxLen; omega) (by omega) (Nat.zero_le _) _ rfl ?_); (intro g cap w7 hown hg hat hgl; obtain ⟨D', hDD, hra, hfr⟩ := (unhide HRT).addDef (unhide HBE) (unhide HV) (unhide HX2) (unhide HX3) hown hg hat; have hp7 : w7.heap[pb]? = w5.heap[pb]? := (hg.block pb (Nat.lt_of_lt_of_le hpl (unhide HBE).size) (fun e => (unhide HRT).ne4 e.symm)).trans ((unhide HBE).block pb hpl); have cd7 : w7.cell? ⟨pb, 3, none⟩ = some (.slice da s5.defs.length dc) := (World.cell?_of_block (a := ⟨pb, 3, none⟩) hp7).trans cdv; have zd7 : w7.frozen? ⟨pb, 3, none⟩ = false := (World.frozen?_of_block (a := ⟨pb, 3, none⟩) hp7).trans (frozen_of_heap (unhide HRT).blk); have HDD := hide hDD; have HRA := hide hra; have HFR := hide hfr; clear hDD hra hfr hown hg hat hp7))
  all_goals
    go_wp2_with fail
    go_ret
    exact ⟨rfl, _, _, unhide HRA, (unhide HF).trans (unhide HFR), fun k hk => ((unhide HDD) k hk).imp id (fun h => by omega), ⟨(unhide HK5).next, (unhide HK5).page, (unhide HK5).gap⟩⟩
end Go.Proofs.YtgdeeodifnegiaaGreatDoor
