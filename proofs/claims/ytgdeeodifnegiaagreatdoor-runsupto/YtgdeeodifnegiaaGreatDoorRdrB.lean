/- The program's reader: kind, tell, fail, endLine. -/
import Derived.Test.YtgdeeodifnegiaaGreatDoorRdrA
import Derived.Deep.RegionHeld3
import Derived.Deep.RegionLaw
import Derived.Deep.DeepCutAuto
import Derived.Deep.DrawnRows
import Derived.Lib.Builder
import Derived.Lib.FrozenHead
namespace Go.Proofs.YtgdeeodifnegiaaGreatDoor
open Go.RowKit

theorem RAt.tok {w : World} {pb : Nat} {ts : List TokP} {st : RS} {D : Nat → Prop} {tb tc : Nat} {dv av bv : Value} (h : RAt w pb ts st D tb tc dv av bv) (hi : st.next < ts.length) :
    w.cell? ⟨tb, st.next * 6, none⟩ = some (.int .i64 (tokR ts st).kind) ∧ w.cell? ⟨tb, st.next * 6 + 1, none⟩ = some (.int .i64 (tokR ts st).at_) ∧ w.cell? ⟨tb, st.next * 6 + 2, none⟩ = some (.string (tokR ts st).text) ∧ w.cell? ⟨tb, st.next * 6 + 3, none⟩ = some (.int .i64 (tokR ts st).number) ∧ w.cell? ⟨tb, st.next * 6 + 4, none⟩ = some (.int .i64 (tokR ts st).addr) ∧ w.cell? ⟨tb, st.next * 6 + 5, none⟩ = some (.int .i64 (tokR ts st).len) := by
  rw [tokR_eq hi]
  obtain ⟨_, h2⟩ := h.toks
  rcases h2 with ⟨h2, _⟩ | ⟨g, cap, cur, hv, hb, hg, hn, hm, hs, ht⟩
  · cases h2
  cases hv
  obtain ⟨g0, g1, g2, g3, g4, g5⟩ := tokCells_get hi
  have hx : ∀ j v, (tokCells ts)[j]? = some v → w.cell? ⟨tb, j, none⟩ = some v := fun j v hj => by
    rw [cell_of_heap hg, ← Array.getElem?_toList]
    rw [← ht] at hj
    rw [List.getElem?_take] at hj
    split at hj
    · exact hj
    · cases hj
  rw [Nat.mul_comm st.next 6]
  exact ⟨hx _ _ g0, hx _ _ g1, hx _ _ g2, hx _ _ g3, hx _ _ g4, hx _ _ g5⟩

set_option maxRecDepth 100000 in
set_option maxHeartbeats 1000000 in
theorem kind_any {w : World} {pb : Nat} {ts : List TokP} {st : RS} {D O : Nat → Prop} (h : RA w pb ts st D O) (hk : st.next < ts.length) (_hn : ts.length ≤ 601) :
    Calls Tryz.prog 170 #[ptr4 pb 0] w fun e w' => e = .returned (.int .i64 (kindR ts st)) ∧ ∃ q, w' = w.drewN q := by
  obtain ⟨tb, tc, dv, av, bv, h, rfl⟩ := h
  have c0 : w.cell? ⟨pb, 0, none⟩ = some (.slice (some ⟨tb, 0, none⟩) ts.length tc) := cell_of_heap h.blk
  have c1 : w.cell? ⟨pb, 1, none⟩ = some (.int .i64 (st.next : Int)) := cell_of_heap h.blk
  have c7 : w.cell? ⟨pb, 7, none⟩ = some (optB st.syn) := cell_of_heap h.blk
  have t0 := (h.tok hk).1
  have E0 := hide (show kindR ts st = if st.syn.isSome then 0 else (tokR ts st).kind from rfl)
  clear h
  generalize hl : ts.length = N at *
  generalize hx : st.next = n at *
  generalize (tokR ts st).kind = K at *
  cases hs : st.syn with
  | none =>
    rw [hs] at c7
    have c7' : w.cell? ⟨pb, 7, none⟩ = some (.bool false) := c7
    clear c7
    go_enter Tryz.func170, Tryz.ntmps170
    go_wp2_with fail
    go_region
    go_wp2_with fail
    go_ret
    refine ⟨?_, 1, rfl⟩
    rw [unhide E0, hs]; rfl
  | some x =>
    rw [hs] at c7
    have c7' : w.cell? ⟨pb, 7, none⟩ = some (.bool true) := c7
    clear c7
    go_enter Tryz.func170, Tryz.ntmps170
    go_wp2_with fail
    go_ret
    refine ⟨?_, 0, rfl⟩
    rw [unhide E0, hs]; rfl

theorem RAt.synSet {w : World} {pb : Nat} {ts : List TokP} {st : RS} {D : Nat → Prop} {tb tc : Nat} {dv av bv : Value} (h : RAt w pb ts st D tb tc dv av bv) {o : Nat} (x : Int) (st' : RS) (hp : st'.page = st.page) (hd : st'.defs = st.defs)
    (hc : ((rdCells (.slice (some ⟨tb, 0, none⟩) ts.length tc) dv av bv st).setIfInBounds o (.bool true)).setIfInBounds (o + 1) (.int .i64 x) = rdCells (.slice (some ⟨tb, 0, none⟩) ts.length tc) dv av bv st') :
    RAt ((w.setCell ⟨pb, o, none⟩ (.bool true)).setCell ⟨pb, o + 1, none⟩ (.int .i64 x)) pb ts st' D tb tc dv av bv := by
  refine h.set (by simp [World.setCell]) ?_ hp hd (fun k _ hk _ => by rw [heap_set_other hk, heap_set_other hk])
  rw [heap_set (heap_set h.blk), hc]
set_option maxRecDepth 100000 in
set_option maxHeartbeats 1000000 in
/-- a fault is told, at the place o of the reader's block -/
theorem tell_any (w : World) (pb o : Nat) (f : Option Int) (x : Int) (c : Array Value) (hb : w.heap[pb]? = some (.cells c 210 (0, 0))) (h0 : c[o]? = some (optB f)) (h1 : c[o + 1]? = some (optI f)) :
    Calls Tryz.prog 228 #[ptr4 pb o, .int .i64 x] w fun e w' => e = .returned (.tuple #[]) ∧ w' = if f.isSome then w else (w.setCell ⟨pb, o, none⟩ (.bool true)).setCell ⟨pb, o + 1, none⟩ (.int .i64 x) := by
  have c0 : w.cell? ⟨pb, o, none⟩ = some (optB f) := (cell_of_heap hb).trans h0
  have c1 : w.cell? ⟨pb, o + 1, none⟩ = some (optI f) := (cell_of_heap hb).trans h1
  have z0 : w.frozen? ⟨pb, o, none⟩ = false := frozen_of_heap hb
  have z1 : w.frozen? ⟨pb, o + 1, none⟩ = false := frozen_of_heap hb
  clear hb h0 h1
  cases f with
  | none =>
    have c0' : w.cell? ⟨pb, o, none⟩ = some (.bool false) := c0
    have c1' : w.cell? ⟨pb, o + 1, none⟩ = some (.int .i64 0) := c1
    clear c0 c1
    go_enter Tryz.func228, Tryz.ntmps228
    go_wp2_with fail
    go_end0
    exact ⟨rfl, rfl⟩
  | some y =>
    have c0' : w.cell? ⟨pb, o, none⟩ = some (.bool true) := c0
    clear c0 c1
    go_enter Tryz.func228, Tryz.ntmps228
    go_wp2_with fail
    go_end0
    exact ⟨rfl, rfl⟩
end Go.Proofs.YtgdeeodifnegiaaGreatDoor

namespace Go.Proofs.YtgdeeodifnegiaaGreatDoor
open Go.RowKit

set_option maxRecDepth 100000 in
set_option maxHeartbeats 2000000 in
theorem fail_any {w : World} {pb : Nat} {ts : List TokP} {st : RS} {D O : Nat → Prop} (h : RA w pb ts st D O) (hk : st.next < ts.length) (_hn : ts.length ≤ 601) :
    Calls Tryz.prog 171 #[ptr4 pb 0] w fun e w' => e = .returned (.tuple #[]) ∧ RA w' pb ts (failR ts st) D O ∧ Fr O w O w' := by
  obtain ⟨tb, tc, dv, av, bv, h, rfl⟩ := h
  have c0 : w.cell? ⟨pb, 0, none⟩ = some (.slice (some ⟨tb, 0, none⟩) ts.length tc) := cell_of_heap h.blk
  have c1 : w.cell? ⟨pb, 1, none⟩ = some (.int .i64 (st.next : Int)) := cell_of_heap h.blk
  have t1 := (h.tok hk).2.1
  have HT : Hid (∀ q, Calls Tryz.prog 228 #[ptr4 pb 7, .int .i64 (tokR ts st).at_] (w.drewN q) fun e w' => e = .returned (.tuple #[]) ∧ w' = if st.syn.isSome then (w.drewN q) else ((w.drewN q).setCell ⟨pb, 7, none⟩ (.bool true)).setCell ⟨pb, 8, none⟩ (.int .i64 (tokR ts st).at_)) :=
    fun q => tell_any (w.drewN q) pb 7 st.syn _ _ h.blk rfl rfl
  have HZ : Hid (∀ q w', (w' = if st.syn.isSome then (w.drewN q) else ((w.drewN q).setCell ⟨pb, 7, none⟩ (.bool true)).setCell ⟨pb, 8, none⟩ (.int .i64 (tokR ts st).at_)) → RA w' pb ts (failR ts st) D (ROwn pb tb dv bv) ∧ Fr (ROwn pb tb dv bv) w (ROwn pb tb dv bv) w') := by
    intro q w' hw
    cases hs : st.syn with
    | none =>
      rw [hs] at hw; subst hw
      have hD : RAt (w.drewN q) pb ts st D tb tc dv av bv := h.keep (Nat.le_refl _) (fun _ _ _ => rfl)
      refine ⟨⟨tb, tc, dv, av, bv, hD.synSet (o := 7) _ (failR ts st) rfl rfl ?_, rfl⟩, (((Fr.refl _ _).drewN q).setCell (Or.inl (Or.inl rfl)) _).setCell (Or.inl (Or.inl rfl)) _⟩
      simp [rdCells, failR, hs, tellR, optB, optI]
    | some y =>
      rw [hs] at hw; subst hw
      refine ⟨⟨tb, tc, dv, av, bv, ?_, rfl⟩, (Fr.refl _ _).drewN q⟩
      have e : failR ts st = st := by simp [failR, hs, tellR]; rw [← hs]
      rw [e]
      exact h.keep (Nat.le_refl _) (fun _ _ _ => rfl)
  have HC : Hid (∀ q, Calls Tryz.prog 228 #[ptr4 pb 7, .int .i64 (tokR ts st).at_] (w.drewN q) fun e w' => e = .returned (.tuple #[]) ∧ Hid (RA w' pb ts (failR ts st) D (ROwn pb tb dv bv) ∧ Fr (ROwn pb tb dv bv) w (ROwn pb tb dv bv) w')) :=
    fun q => ((unhide HT) q).mono (fun e w' ⟨he, hw⟩ => ⟨he, hide ((unhide HZ) q w' hw)⟩)
  clear h HT HZ
  generalize hl : ts.length = N at *
  generalize hx : st.next = n at *
  generalize (tokR ts st).at_ = K at *
  go_enter Tryz.func171, Tryz.ntmps171
  go_region_with (go_at_call 228; refine ((unhide HC) 1).mono ?_; rintro e w' ⟨rfl, hw⟩)
  all_goals (go_end0; exact ⟨rfl, unhide hw⟩)

/-- a string is appended: where the new row lies -/
theorem app_str {P : Program} (w : World) (t u ty e : TypeId) (i : TypeInfo) (ht : P.underlying t = some (.slice e)) (hu : P.underlying u = some .string) (hi : P.info? e = some i) (hz : i.zero = some (.int .u8 0))
    (hsize : i.size = 1) (hby : i.bytes = 1) (v : Value) (n : Nat) (xs : List Value) (hown : w.ownsRow 0 e 1 v n xs) (s : ByteArray) (h63 : n + s.size ≤ 1000000000) :
    ∃ v' w', (Builtin.append_ #[t, u] ty #[v, .string s]).run P w = .ok v' w' ∧ w'.ownsRow 0 e 1 v' (n + s.size) (xs ++ Lib.strCells s) ∧ w.grownBy w' v.ownBlock ∧ (v'.ownBlock = v.ownBlock ∨ v'.ownBlock = some w.heap.size) := by
  obtain ⟨v', w', hr, h2, h3, h4⟩ := Lib.run_append_own_string (P := P) w 0 t u ty e i ht hu hi hz hsize hby v n xs hown s (by unfold maxLen; omega) (by omega) (Nat.zero_le _)
  refine ⟨v', w', hr, h2, h3, ?_⟩
  have hxl : xs.length = n := by simpa using hown.1
  have hk := hown
  rcases hown.2 with ⟨rfl, rfl⟩ | ⟨g, cap, cur, rfl, hbg, hg, hnc, hcm, hcs, htake⟩
  · have hx : xs = [] := List.eq_nil_of_length_eq_zero hxl
    subst hx
    obtain ⟨v2, w2, hr2, g2, _, _⟩ := Lib.run_append_own_string (P := P) w w.heap.size t u ty e i ht hu hi hz hsize hby (.slice none 0 0) 0 [] (World.ownsRow_nil w w.heap.size e 1) s (by unfold maxLen; omega) (by omega) (Nat.le_refl _)
    rw [hr] at hr2
    cases hr2
    rcases g2.2 with ⟨rfl, _⟩ | ⟨g, cap, cur, rfl, hb, hg, _⟩
    · exact Or.inl rfl
    · right
      have h5 : g < w'.heap.size := heap_lt hg
      by_cases hm : s.size = 0
      · have := (h4.2 ⟨rfl, hm⟩); cases this
      · have hr3 := run_append_nil_string (P := P) w t u ty e i (.int .u8 0) ht hu hi hz s (by omega) (by omega) (by rw [hby]; omega)
        rw [hr] at hr3
        injection hr3 with e1 _
        injection e1 with e2 _ _
        injection e2 with e3
        injection e3 with e4
        show some g = _
        rw [e4]
  · by_cases hroom : n + s.size ≤ cap
    · have hcs' : cur.size = cap := by simpa using hcs
      have hr2 := Lib.run_append_room_string (P := P) w t u ty e i ht hu hi hsize g n cap cur hg s hroom (by omega)
      rw [hr] at hr2
      cases hr2
      exact Or.inl rfl
    · have holds : ∀ j u, xs[j]? = some u → w.cell? ((⟨g, 0, none⟩ : Addr).add j) = some u := hk.cells (g := g) rfl
      have hr2 := Lib.run_append_grow_string (P := P) w t u ty e i (.int .u8 0) ht hu hi hz ⟨g, 0, none⟩ n cap xs (by rw [hsize]; simpa using hxl) holds s (by omega) (by omega) (by rw [hby]; exact growslice_fits (by omega) (by omega))
      rw [hr] at hr2
      cases hr2
      exact Or.inr rfl
theorem wpList_app_str {P : Program} {w : World} {ops : Array Oper} {rest : List Oper} {o : Oper} {a : Act} {Q : Exit → Act → World → Prop} (hgd : o.guard = none) (sl x : Operand) (t u : TypeId)
    (ho : o.op = .call { callee := .builtin .append, args := #[sl, x], argTypes := #[t, u] }) (e : TypeId) (i : TypeInfo) (ht : P.underlying t = some (.slice e)) (hu : P.underlying u = some .string) (hi : P.info? e = some i) (hz : i.zero = some (.int .u8 0))
    (hsize : i.size = 1) (hby : i.bytes = 1) (v : Value) (n : Nat) (xs : List Value) (hs : a.eval sl = v) (hown : w.ownsRow 0 e 1 v n xs) (s : ByteArray) (hx : a.eval x = .string s) (h63 : n + s.size ≤ 1000000000)
    (h : ∀ v' w', w'.ownsRow 0 e 1 v' (n + s.size) (xs ++ Lib.strCells s) → w.grownBy w' v.ownBlock → (v'.ownBlock = v.ownBlock ∨ v'.ownBlock = some w.heap.size) → wpList P ops Q rest (a.put o.dst v') w') : wpList P ops Q (o :: rest) a w := by
  refine wpList_plain hgd fun K hK => ?_
  obtain ⟨v', w', hr, h2, h3, h4⟩ := app_str (P := P) w t u o.type e i ht hu hi hz hsize hby v n xs hown s h63
  unfold Oper.wp execOp
  simp only [ho, resolve, invoke, builtin, Sem.run_bind, Sem.run_pure, Result.andThen_ok, List.map_toArray, List.map_cons, List.map_nil, hs, hx, hr]
  exact hK _ _ (h v' w' h2 h3 h4)

theorem Tryz.infoByte : (Tryz.prog.info? 5).map (fun i => (i.zero, i.size, i.bytes)) = some (some (.int .u8 0), 1, 1) := by kernel_rfl
theorem Tryz.sizeBuilder : (Tryz.prog.info? 204).map (fun i => i.size) = some 2 := by kernel_rfl
theorem Tryz.liesBuilder : liesAt Tryz.prog Tryz.prog.depth 210 (13 / Tryz.prog.cellsOf 210) 4 204 1 = true := by kernel_rfl

set_option maxRecDepth 100000 in
set_option maxHeartbeats 1000000 in
theorem copyCheck_used (pb : Nat) (w : World) (h0 : w.cell? ⟨pb, 4, none⟩ = some (ptr4 pb 4)) :
    Calls Tryz.prog 331 #[ptr4 pb 4] w fun e w' => e = .returned (.tuple #[]) ∧ w' = w := by
  obtain ⟨j, hj, _⟩ := Option.map_eq_some_iff.1 Tryz.sizeBuilder
  go_enter Tryz.func331, Tryz.ntmps331
  go_wp2_with fail
  rw [Lib.run_neq_ptr_same w _ Tryz.underlying202 hj]
  go_wp2_with fail
  go_end0
  exact ⟨rfl, rfl⟩
set_option maxRecDepth 100000 in
set_option maxHeartbeats 1000000 in
theorem copyCheck_new (pb : Nat) (w : World) (h0 : w.cell? ⟨pb, 4, none⟩ = some (.pointer none)) (hsh : w.shape? pb = some (210, 13)) (hfz : w.frozen? ⟨pb, 4, none⟩ = false) :
    Calls Tryz.prog 331 #[ptr4 pb 4] w fun e w' => e = .returned (.tuple #[]) ∧ w' = w.setCell ⟨pb, 4, none⟩ (ptr4 pb 4) := by
  obtain ⟨j, hj, hjs⟩ := Option.map_eq_some_iff.1 Tryz.sizeBuilder
  go_enter Tryz.func331, Tryz.ntmps331
  go_wp2_with fail
  rw [Lib.run_to_unsafe w ⟨pb, 4, none⟩ Tryz.underlying202 Tryz.underlying427 hj (by rw [hjs]; decide) hsh (show 4 < 13 by decide)]
  simp only [Result.andThen]
  rw [Oper.upon_value]
  go_wp2_with fail
  rw [run_callFunc_extern Tryz.func355 (by kernel_rfl) (by kernel_rfl) (by kernel_rfl) (e := Extern.AbiNoEscape.same) (by kernel_rfl)]
  rw [Lib.run_noEscape]
  simp only [Result.andThen]
  rw [Oper.upon_value]
  go_wp2_with fail
  rw [Lib.run_from_unsafe w ⟨pb, 4, none⟩ Tryz.underlying427 Tryz.underlying202 hj hsh Tryz.liesBuilder]
  simp only [Result.andThen]
  rw [Oper.upon_value]
  go_wp2_with fail
  go_end0
  exact ⟨rfl, rfl⟩
end Go.Proofs.YtgdeeodifnegiaaGreatDoor
