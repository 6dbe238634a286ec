/- The program's reader: fail, endLine; strings.Builder within the reader's block. -/
import Derived.Test.YtlhhdklendeikaaGreatDoorRdrB
import Derived.Lib.Builder
import Derived.Lib.FrozenHead
namespace Go.Proofs.YtlhhdklendeikaaGreatDoor
open Go.RowKit

set_option maxRecDepth 100000 in
set_option maxHeartbeats 2000000 in
theorem fail_any {w : World} {pb : Nat} {ts : List TokP} {st : RS} {D O : Nat → Prop} (h : RA w pb ts st D O) (hk : st.next < ts.length) (_hn : ts.length ≤ 601) :
    Calls Tryz.prog 54 #[ptr4 pb 0] w fun e w' => e = .returned (.tuple #[]) ∧ RA w' pb ts (failR ts st) D O ∧ Fr O w O w' := by
  obtain ⟨tb, tc, dv, av, bv, h, rfl⟩ := h
  have c0 : w.cell? ⟨pb, 0, none⟩ = some (.slice (some ⟨tb, 0, none⟩) ts.length tc) := cell_of_heap h.blk
  have c1 : w.cell? ⟨pb, 1, none⟩ = some (.int .i64 (st.next : Int)) := cell_of_heap h.blk
  have t1 := (h.tok hk).2.1
  have HT : Hid (∀ q, Calls Tryz.prog 84 #[ptr4 pb 7, .int .i64 (tokR ts st).at_] (w.drewN q) fun e w' => e = .returned (.tuple #[]) ∧ w' = if st.syn.isSome then (w.drewN q) else ((w.drewN q).setCell ⟨pb, 7, none⟩ (.bool true)).setCell ⟨pb, 8, none⟩ (.int .i64 (tokR ts st).at_)) :=
    fun q => tell_any (w.drewN q) pb 7 st.syn _ _ h.blk rfl rfl
  have HZ : Hid (∀ q w', (w' = if st.syn.isSome then (w.drewN q) else ((w.drewN q).setCell ⟨pb, 7, none⟩ (.bool true)).setCell ⟨pb, 8, none⟩ (.int .i64 (tokR ts st).at_)) → RA w' pb ts (failR ts st) D (ROwn pb tb dv bv) ∧ Fr (ROwn pb tb dv bv) w (ROwn pb tb dv bv) w') := by
    intro q w' hw
    cases hs : st.syn with
    | none =>
      rw [hs] at hw; subst hw
      have hD : RAt (w.drewN q) pb ts st D tb tc dv av bv := h.keep (Nat.le_refl _) (fun _ _ _ => rfl)
      refine ⟨⟨tb, tc, dv, av, bv, hD.synSet (o := 7) _ (failR ts st) rfl rfl ?_, rfl⟩, (((Fr.refl _ _).drewN q).setCell (Or.inl (Or.inl rfl)) _).setCell (Or.inl (Or.inl rfl)) _⟩
      simp [rdCells, failR, hs, tellR, optB, optI]
    | some y =>
      rw [hs] at hw; subst hw
      refine ⟨⟨tb, tc, dv, av, bv, ?_, rfl⟩, (Fr.refl _ _).drewN q⟩
      have e : failR ts st = st := by simp [failR, hs, tellR]; rw [← hs]
      rw [e]
      exact h.keep (Nat.le_refl _) (fun _ _ _ => rfl)
  have HC : Hid (∀ q, Calls Tryz.prog 84 #[ptr4 pb 7, .int .i64 (tokR ts st).at_] (w.drewN q) fun e w' => e = .returned (.tuple #[]) ∧ Hid (RA w' pb ts (failR ts st) D (ROwn pb tb dv bv) ∧ Fr (ROwn pb tb dv bv) w (ROwn pb tb dv bv) w')) :=
    fun q => ((unhide HT) q).mono (fun e w' ⟨he, hw⟩ => ⟨he, hide ((unhide HZ) q w' hw)⟩)
  clear h HT HZ
  generalize hl : ts.length = N at *
  generalize hx : st.next = n at *
  generalize (tokR ts st).at_ = K at *
  go_enter Tryz.func54, Tryz.ntmps54
  go_region_with (go_at_call 84; refine ((unhide HC) 1).mono ?_; rintro e w' ⟨rfl, hw⟩)
  all_goals (go_end0; exact ⟨rfl, unhide hw⟩)

/-- a string is appended: where the new row lies -/
theorem app_str {P : Program} (w : World) (t u ty e : TypeId) (i : TypeInfo) (ht : P.underlying t = some (.slice e)) (hu : P.underlying u = some .string) (hi : P.info? e = some i) (hz : i.zero = some (.int .u8 0))
    (hsize : i.size = 1) (hby : i.bytes = 1) (v : Value) (n : Nat) (xs : List Value) (hown : w.ownsRow 0 e 1 v n xs) (s : ByteArray) (h63 : n + s.size ≤ 1000000000) :
    ∃ v' w', (Builtin.append_ #[t, u] ty #[v, .string s]).run P w = .ok v' w' ∧ w'.ownsRow 0 e 1 v' (n + s.size) (xs ++ Lib.strCells s) ∧ w.grownBy w' v.ownBlock ∧ (v'.ownBlock = v.ownBlock ∨ v'.ownBlock = some w.heap.size) := by
  obtain ⟨v', w', hr, h2, h3, h4⟩ := Lib.run_append_own_string (P := P) w 0 t u ty e i ht hu hi hz hsize hby v n xs hown s (by unfold maxLen; omega) (by omega) (Nat.zero_le _)
  refine ⟨v', w', hr, h2, h3, ?_⟩
  have hxl : xs.length = n := by simpa using hown.1
  have hk := hown
  rcases hown.2 with ⟨rfl, rfl⟩ | ⟨g, cap, cur, rfl, hbg, hg, hnc, hcm, hcs, htake⟩
  · have hx : xs = [] := List.eq_nil_of_length_eq_zero hxl
    subst hx
    obtain ⟨v2, w2, hr2, g2, _, _⟩ := Lib.run_append_own_string (P := P) w w.heap.size t u ty e i ht hu hi hz hsize hby (.slice none 0 0) 0 [] (World.ownsRow_nil w w.heap.size e 1) s (by unfold maxLen; omega) (by omega) (Nat.le_refl _)
    rw [hr] at hr2
    cases hr2
    rcases g2.2 with ⟨rfl, _⟩ | ⟨g, cap, cur, rfl, hb, hg, _⟩
    · exact Or.inl rfl
    · right
      have h5 : g < w'.heap.size := heap_lt hg
      by_cases hm : s.size = 0
      · have := (h4.2 ⟨rfl, hm⟩); cases this
      · have hr3 := run_append_nil_string (P := P) w t u ty e i (.int .u8 0) ht hu hi hz s (by omega) (by omega) (by rw [hby]; omega)
        rw [hr] at hr3
        injection hr3 with e1 _
        injection e1 with e2 _ _
        injection e2 with e3
        injection e3 with e4
        show some g = _
        rw [e4]
  · by_cases hroom : n + s.size ≤ cap
    · have hcs' : cur.size = cap := by simpa using hcs
      have hr2 := Lib.run_append_room_string (P := P) w t u ty e i ht hu hi hsize g n cap cur hg s hroom (by omega)
      rw [hr] at hr2
      cases hr2
      exact Or.inl rfl
    · have holds : ∀ j u, xs[j]? = some u → w.cell? ((⟨g, 0, none⟩ : Addr).add j) = some u := hk.cells (g := g) rfl
      have hr2 := Lib.run_append_grow_string (P := P) w t u ty e i (.int .u8 0) ht hu hi hz ⟨g, 0, none⟩ n cap xs (by rw [hsize]; simpa using hxl) holds s (by omega) (by omega) (by rw [hby]; exact growslice_fits (by omega) (by omega))
      rw [hr] at hr2
      cases hr2
      exact Or.inr rfl
theorem wpList_app_str {P : Program} {w : World} {ops : Array Oper} {rest : List Oper} {o : Oper} {a : Act} {Q : Exit → Act → World → Prop} (hgd : o.guard = none) (sl x : Operand) (t u : TypeId)
    (ho : o.op = .call { callee := .builtin .append, args := #[sl, x], argTypes := #[t, u] }) (e : TypeId) (i : TypeInfo) (ht : P.underlying t = some (.slice e)) (hu : P.underlying u = some .string) (hi : P.info? e = some i) (hz : i.zero = some (.int .u8 0))
    (hsize : i.size = 1) (hby : i.bytes = 1) (v : Value) (n : Nat) (xs : List Value) (hs : a.eval sl = v) (hown : w.ownsRow 0 e 1 v n xs) (s : ByteArray) (hx : a.eval x = .string s) (h63 : n + s.size ≤ 1000000000)
    (h : ∀ v' w', w'.ownsRow 0 e 1 v' (n + s.size) (xs ++ Lib.strCells s) → w.grownBy w' v.ownBlock → (v'.ownBlock = v.ownBlock ∨ v'.ownBlock = some w.heap.size) → wpList P ops Q rest (a.put o.dst v') w') : wpList P ops Q (o :: rest) a w := by
  refine wpList_plain hgd fun K hK => ?_
  obtain ⟨v', w', hr, h2, h3, h4⟩ := app_str (P := P) w t u o.type e i ht hu hi hz hsize hby v n xs hown s h63
  unfold Oper.wp execOp
  simp only [ho, resolve, invoke, builtin, Sem.run_bind, Sem.run_pure, Result.andThen_ok, List.map_toArray, List.map_cons, List.map_nil, hs, hx, hr]
  exact hK _ _ (h v' w' h2 h3 h4)

theorem Tryz.infoByte : (Tryz.prog.info? 5).map (fun i => (i.zero, i.size, i.bytes)) = some (some (.int .u8 0), 1, 1) := by kernel_rfl
theorem Tryz.sizeBuilder : (Tryz.prog.info? 76).map (fun i => i.size) = some 2 := by kernel_rfl
theorem Tryz.liesBuilder : liesAt Tryz.prog Tryz.prog.depth 82 (13 / Tryz.prog.cellsOf 82) 4 76 1 = true := by kernel_rfl

set_option maxRecDepth 100000 in
set_option maxHeartbeats 1000000 in
theorem copyCheck_used (pb : Nat) (w : World) (h0 : w.cell? ⟨pb, 4, none⟩ = some (ptr4 pb 4)) :
    Calls Tryz.prog 145 #[ptr4 pb 4] w fun e w' => e = .returned (.tuple #[]) ∧ w' = w := by
  obtain ⟨j, hj, _⟩ := Option.map_eq_some_iff.1 Tryz.sizeBuilder
  go_enter Tryz.func145, Tryz.ntmps145
  go_wp2_with fail
  rw [Lib.run_neq_ptr_same w _ Tryz.underlying73 hj]
  go_wp2_with fail
  go_end0
  exact ⟨rfl, rfl⟩
set_option maxRecDepth 100000 in
set_option maxHeartbeats 1000000 in
theorem copyCheck_new (pb : Nat) (w : World) (h0 : w.cell? ⟨pb, 4, none⟩ = some (.pointer none)) (hsh : w.shape? pb = some (82, 13)) (hfz : w.frozen? ⟨pb, 4, none⟩ = false) :
    Calls Tryz.prog 145 #[ptr4 pb 4] w fun e w' => e = .returned (.tuple #[]) ∧ w' = w.setCell ⟨pb, 4, none⟩ (ptr4 pb 4) := by
  obtain ⟨j, hj, hjs⟩ := Option.map_eq_some_iff.1 Tryz.sizeBuilder
  go_enter Tryz.func145, Tryz.ntmps145
  go_wp2_with fail
  rw [Lib.run_to_unsafe w ⟨pb, 4, none⟩ Tryz.underlying73 Tryz.underlying198 hj (by rw [hjs]; decide) hsh (show 4 < 13 by decide)]
  simp only [Result.andThen]
  rw [Oper.upon_value]
  go_wp2_with fail
  rw [run_callFunc_extern Tryz.func168 (by kernel_rfl) (by kernel_rfl) (by kernel_rfl) (e := Extern.AbiNoEscape.same) (by kernel_rfl)]
  rw [Lib.run_noEscape]
  simp only [Result.andThen]
  rw [Oper.upon_value]
  go_wp2_with fail
  rw [Lib.run_from_unsafe w ⟨pb, 4, none⟩ Tryz.underlying198 Tryz.underlying73 hj hsh Tryz.liesBuilder]
  simp only [Result.andThen]
  rw [Oper.upon_value]
  go_wp2_with fail
  go_end0
  exact ⟨rfl, rfl⟩
end Go.Proofs.YtlhhdklendeikaaGreatDoor
