/- Bytes are lent and taken back (package bywaylaw): lent, back. -/
import Derived.Test.YtgngdklkoilaiaaGreatDoorLawH
import Derived.Test.YtgngdklkoilaiaaGreatDoorLawB
import Derived.Laws.BytesArg
namespace Go.Proofs.YtgngdklkoilaiaaGreatDoor
open Go.RowKit

theorem eqNilB (w : World) (a : Addr) (n c : Nat) : (binOp .eql 63 (.slice (some a) n c) (.slice none 0 0)).run Tryz.prog w = .ok (.bool false) w := Lib.run_eql_slice_nil w _ _ (some a) n c 0 0 Tryz.underlying63
theorem eqNilB0 (w : World) : (binOp .eql 63 (.slice none 0 0) (.slice none 0 0)).run Tryz.prog w = .ok (.bool true) w := Lib.run_eql_slice_nil w _ _ none 0 0 0 0 Tryz.underlying63
theorem BytesAt.toStr {w : World} {v : Value} {l : List Int} (h : BytesAt w v l) : (convert 63 9 v).run Tryz.prog w = .ok (.string (strOfNums l)) w := by
  obtain ⟨p, c, rfl, hcap, hl, hin, hr⟩ := h
  have hs : Tryz.prog.underlying 63 = some (.slice 5) := Tryz.underlying63
  have he : Tryz.prog.underlying 5 = some (.int .u8) := Tryz.underlying5
  have hd : Tryz.prog.underlying 9 = some .string := Tryz.underlying9
  rcases hr with ⟨rfl, _⟩ | ⟨b, o, rfl, hb, hc⟩
  · rw [run_convert_bytes_string w _ _ _ _ _ _ hs he hd]
    cases p with
    | none => simp [Conv.bytesToString]; rfl
    | some a =>
      have hl0 : (loadCells a 0).run Tryz.prog w = .ok (([] : List Int).map (Value.int .u8)).toArray w := by simpa using run_loadCells_list (P := Tryz.prog) w a [] (fun j v hj => by simp at hj)
      exact (run_bytesToString w a 0 c [] hl0).trans rfl
  · exact run_convert_bytes_arg w _ _ hs he b o l.length c l rfl (fun i hi => by rw [hc i hi]; simp [List.getD, List.getElem?_eq_getElem hi]) _ hd
/-- the bytes of a string, as numbers -/
def bytesS (s : ByteArray) : List Int := s.data.toList.map fun b => (b.toNat : Int)
theorem bytesS_len (s : ByteArray) : (bytesS s).length = s.size := by unfold bytesS; rw [List.length_map]; rfl
theorem bytesS_ok (s : ByteArray) : bytesOk (bytesS s) := by
  intro x hx
  obtain ⟨b, _, rfl⟩ := List.mem_map.1 hx
  have := b.toNat_lt
  omega
theorem bytesS_cells (s : ByteArray) : Lib.byteCells s.data.toList = (bytesS s).map (Value.int .u8) := by
  unfold Lib.byteCells bytesS
  rw [List.map_map]; rfl
theorem bytesS_str (s : ByteArray) : strOfNums (bytesS s) = s := by
  unfold strOfNums bytesS
  rw [List.map_map]
  have e : ((fun n : Int => UInt8.ofNat n.toNat) ∘ fun b : UInt8 => (b.toNat : Int)) = id := by
    funext b; simp
  rw [e, List.map_id]
/-- s, lent as v -/
def LentB (w w' : World) (s : ByteArray) (v : Value) : Prop :=
  (v = .slice none 0 0 ∧ s.size = 0) ∨
  ∃ g, v = .slice (some ⟨g, 0, none⟩) s.size (s.size + 8) ∧ w.heap.size ≤ g ∧ w'.heap[g]? = some (.cells ((bytesS s).map (Value.int .u8) ++ List.replicate 8 (Value.int .u8 77)).toArray 5 (0, 0))
theorem LentB.at_ {w w' : World} {s : ByteArray} {v : Value} (h : LentB w w' s v) (hl : s.size ≤ 16777216) : BytesAt w' v (bytesS s) := by
  rcases h with ⟨rfl, h0⟩ | ⟨g, rfl, _, hg⟩
  · have : bytesS s = [] := List.length_eq_zero_iff.1 (by rw [bytesS_len]; exact h0)
    rw [this]
    exact ⟨none, 0, rfl, by simp, by simp, bytesOk_nil, Or.inl ⟨rfl, fun _ => rfl⟩⟩
  · refine ⟨_, s.size + 8, by rw [bytesS_len], by rw [bytesS_len]; omega, by rw [bytesS_len]; omega, bytesS_ok s, Or.inr ⟨g, 0, rfl, heap_lt hg, fun j hj => ?_⟩⟩
    rw [cell_of_heap hg]
    simp [List.getElem?_append_left, hj]
theorem LentB.below {w w' w'' : World} {s : ByteArray} {v : Value} (h : LentB w w' s v) (hb : Below w'.heap.size w' w'') : LentB w w'' s v := by
  rcases h with h | ⟨g, h2, h3, hg⟩
  · exact Or.inl h
  · exact Or.inr ⟨g, h2, h3, (hb.block g (heap_lt hg)).trans hg⟩
theorem wpList_copy_str {P : Program} {w : World} {ops : Array Oper} {rest : List Oper} {o : Oper} {a : Act} {Q : Exit → Act → World → Prop} (hgd : o.guard = none) (d s : Operand) (dT sT : TypeId)
    (ho : o.op = .call { callee := .builtin .copy, args := #[d, s], argTypes := #[dT, sT] }) (elem : TypeId) (hu : P.underlying dT = some (.slice elem)) (hsz : (P.info? elem).map (·.size) = some 1)
    (g dLen dCap : Nat) (hd : a.eval d = .slice (some ⟨g, 0, none⟩) dLen dCap) (t : ByteArray) (hs : a.eval s = .string t) (hle : t.size ≤ dLen)
    (cur : List Value) (T : TypeId) (hg : w.heap[g]? = some (.cells cur.toArray T (0, 0))) (hfit : t.size ≤ cur.length)
    (h : ∀ w', w'.heap[g]? = some (.cells ((bytesS t).map (Value.int .u8) ++ cur.drop t.size).toArray T (0, 0)) → w.grownBy w' (some g) → wpList P ops Q rest (a.put o.dst (goInt t.size)) w') :
    wpList P ops Q (o :: rest) a w := by
  refine wpList_plain hgd fun K hK => ?_
  have hr := Lib.run_copy_row_string (P := P) w dT sT o.type elem g 0 dLen dCap t cur.toArray T hu hsz hg hle (by simpa using hfit)
  have h2 := setRow_heap w g cur.toArray ((bytesS t).map (Value.int .u8) ++ cur.drop t.size).toArray T (0, 0) hg
  simp only [List.take_zero, List.nil_append, Nat.zero_add, bytesS_cells] at hr
  unfold Oper.wp execOp
  simp only [ho, resolve, invoke, builtin, Sem.run_bind, Sem.run_pure, Result.andThen_ok, List.map_toArray, List.map_cons, List.map_nil, hd, hs, hr]
  exact hK _ _ (h _ h2 ⟨rfl, rfl, rfl, by simp, fun k _ hk => setRow_other w g k _ (fun e => hk (by rw [e]))⟩)

set_option maxRecDepth 100000 in
set_option maxHeartbeats 1600000 in
theorem lent_any (s : ByteArray) (none? : Bool) (w : World) (hl : s.size ≤ 16777216) :
    Calls Tryz.prog 31 #[.string s, .bool none?] w fun e w' => ∃ v, e = .returned v ∧ LentB w w' s v ∧ Below w.heap.size w w' := by
  by_cases h0 : s.size = 0 ∧ none? = true
  · obtain ⟨h0, rfl⟩ := h0
    have hs : s = ⟨#[]⟩ := by
      cases s with | mk d => simp [ByteArray.size] at h0; rw [h0]
    subst hs
    go_enter Tryz.func31, Tryz.ntmps31
    go_wp2
    go_ret
    exact ⟨_, rfl, Or.inl ⟨rfl, rfl⟩, Below.refl _ _⟩
  · have hcase : s.toList.isEmpty = false ∨ none? = false := by
      by_cases hz : s.size = 0
      · right
        cases none? with
        | false => rfl
        | true => exact absurd ⟨hz, rfl⟩ h0
      · left
        cases hE : s.toList.isEmpty with
        | false => rfl
        | true =>
          exfalso
          have h1 := List.isEmpty_iff.1 hE
          have h2 : s.toList.length = s.size := by rw [ByteArray.toList_eq]; rfl
          rw [h1] at h2
          exact hz (by simpa using h2.symm)
    obtain ⟨i0, hi0, hz0, hz1, hz2⟩ := info_parts Tryz.infoByte
    have hsz : (Tryz.prog.info? 5).map (·.size) = some 1 := by rw [hi0]; simp [hz1]
    have hmk := run_make_n (P := Tryz.prog) w 63 5 i0 (.int .u8 0) Tryz.underlying63 hi0 hz0 (s.size + 8) (by rw [hz2]; omega) (by omega)
    rw [hz1, Nat.mul_one, show (Value.int .u8 0).cells = #[.int .u8 0] from rfl, made_one] at hmk
    obtain ⟨w1, hw1⟩ : ∃ w1, w.alloc (.cells (List.replicate (s.size + 8) (Value.int .u8 0)).toArray 5) = w1 := ⟨_, rfl⟩
    have Q1 := hide (heap_alloc_new w (.cells (List.replicate (s.size + 8) (Value.int .u8 0)).toArray 5))
    have B1 := hide ((Below.refl w.heap.size w).alloc (Nat.le_refl _) (.cells (List.replicate (s.size + 8) (Value.int .u8 0)).toArray 5))
    rw [hw1] at hmk Q1 B1
    rw [show ((s.size + 8 : Nat) : Int) = (s.size : Int) + 8 from by omega] at hmk
    have HC := hide hcase
    clear hw1 h0 hcase
    go_enter Tryz.func31, Tryz.ntmps31
    go_upto_region 1 with fail
    go_cut [11] (fun c11 wc => c11 = .bool false ∧ wc = w)
    case first =>
      cases he : s.toList.isEmpty with
      | false =>
        clear hmk
        go_wp2
        go_meet
        exact ⟨rfl, rfl⟩
      | true =>
        have hn : none? = false := (unhide HC).elim (fun h => by rw [he] at h; cases h) id
        subst hn
        clear hmk
        go_wp2
        go_meet
        exact ⟨rfl, rfl⟩
    case rest =>
      obtain ⟨rfl, rfl⟩ := hcut
      have q1 := eqNilB
      go_upto_region 5 with (refine wpList_copy_str rfl _ _ _ _ rfl 5 Tryz.underlying63 hsz wc.heap.size (s.size + 8) (s.size + 8) rfl s rfl (by omega) (List.replicate (s.size + 8) (.int .u8 0)) 5 (unhide Q1) (by simp) ?_; intro w2 hg2 hgr2)
      have AL := hide (show ((bytesS s).map (Value.int .u8)).length = s.size from by rw [List.length_map]; exact bytesS_len s)
      have hg3 : w2.heap[wc.heap.size]? = some (.cells (lentK ((bytesS s).map (Value.int .u8)) (.int .u8 77) (.int .u8 0) 0).toArray 5 (0, 0)) := by
        rw [hg2, lentK_zero]
        congr 3
        rw [List.drop_replicate, show s.size + 8 - s.size = 8 by omega]
      have G0 := hide hg3
      have BE := hide ((unhide B1).grown hgr2 (unhide B1).size (fun k e => by have : wc.heap.size = k := by simpa using e
                                                                              omega))
      clear hg2 hg3 hgr2 hmk Q1 B1 q1
      go_wp2_with fail
      go_loopw [6] (fun i wr => ∃ k : Nat, k ≤ 8 ∧ i = .int .i64 ((s.size : Int) + k) ∧ wr.heap[wc.heap.size]? = some (.cells (lentK ((bytesS s).map (Value.int .u8)) (.int .u8 77) (.int .u8 0) k).toArray 5 (0, 0)) ∧ Below wc.heap.size wc wr) (fun i _ => s.size + 8 - (intOf i).toNat)
      case atStart => exact ⟨0, by omega, by simp, unhide G0, unhide BE⟩
      case round =>
        rename World => WR
        obtain ⟨k, hk, rfl, hg, hbe⟩ := hrel
        have G := hide hg
        have BW := hide hbe
        clear hbe
        by_cases hlt : k < 8
        · have hgt := lentK_get ((bytesS s).map (Value.int .u8)) (.int .u8 77) (.int .u8 0) hlt
          rw [unhide AL] at hgt
          have hc : WR.cell? ⟨wc.heap.size, s.size + k, none⟩ = some (.int .u8 0) := by rw [cell_of_heap hg]; simpa using hgt
          have hf : WR.frozen? ⟨wc.heap.size, s.size + k, none⟩ = false := frozen_of_heap hg
          have HS := hide (show (WR.setCell ⟨wc.heap.size, s.size + k, none⟩ (.int .u8 77)).heap[wc.heap.size]? = some (.cells (lentK ((bytesS s).map (Value.int .u8)) (.int .u8 77) (.int .u8 0) (k + 1)).toArray 5 (0, 0)) from by
            rw [heap_set hg, ← lentK_set _ _ _ hlt, unhide AL])
          clear hg hgt
          go_wp2
          go_roundw
          case rel => exact ⟨k + 1, by omega, by go_num, unhide HS, (unhide BW).setCell (p := ⟨wc.heap.size, s.size + k, none⟩) (Nat.le_refl _) _⟩
          case measure => simp [intOf]; omega
        · have hk8 : k = 8 := by omega
          subst hk8
          clear hg
          go_wp2
          go_ret
          refine ⟨.slice (some ⟨wc.heap.size, 0, none⟩) s.size (s.size + 8), rfl, Or.inr ⟨wc.heap.size, rfl, Nat.le_refl _, ?_⟩, unhide BW⟩
          have := unhide G
          rw [lentK_all] at this
          exact this

set_option maxRecDepth 100000 in
set_option maxHeartbeats 1600000 in
theorem back_any (s : ByteArray) (v : Value) (w0 w : World) (hv : LentB w0 w s v) (hl : s.size ≤ 16777216) :
    Calls Tryz.prog 33 #[v, .string s] w fun e w' => e = .returned (.bool true) ∧ Fr (fun k => v.ownBlock = some k) w (fun k => v.ownBlock = some k) w' := by
  have q0 := eqNilB0
  have q1 := eqNilB
  have hat := hv.at_ hl
  have hcv := hat.toStr
  rw [bytesS_str] at hcv
  rcases hv with ⟨rfl, h0⟩ | ⟨g, rfl, _, hg⟩
  · clear hcv hat
    have hs : s = ⟨#[]⟩ := by
      cases s with | mk d => simp [ByteArray.size] at h0; rw [h0]
    subst hs
    go_enter Tryz.func33, Tryz.ntmps33
    go_wp2
    go_ret
    exact ⟨rfl, Fr.refl _ _⟩
  · have AL := hide (show ((bytesS s).map (Value.int .u8) ++ List.replicate 8 (Value.int .u8 77)).length = s.size + 8 from by rw [List.length_append, List.length_map, bytesS_len]; simp)
    have G0 := hide hg
    clear hg hat
    obtain ⟨A, hA⟩ : ∃ A, (bytesS s).map (Value.int .u8) ++ List.replicate 8 (Value.int .u8 77) = A := ⟨_, rfl⟩
    have HA := hide hA
    rw [hA] at AL G0
    clear hA
    go_enter Tryz.func33, Tryz.ntmps33
    go_wp2_with fail
    go_loopw [5, 7] (fun ok i wr => ∃ k : Nat, k ≤ s.size + 8 ∧ ok = .bool true ∧ i = .int .i64 k ∧ wr.heap[g]? = some (.cells (backK A (.int .u8 78) k).toArray 5 (0, 0)) ∧ Fr (· = g) w (· = g) wr) (fun _ i _ => s.size + 8 - (intOf i).toNat)
    case atStart => exact ⟨0, by omega, by simp, rfl, unhide G0, Fr.refl _ _⟩
    case round =>
      rename World => WR
      obtain ⟨k, hk, rfl, rfl, hg, hfr⟩ := hrel
      have FR := hide hfr
      by_cases hlt : k < s.size + 8
      · have hk2 : k < A.length := by rw [unhide AL]; exact hlt
        have hgt := backK_get A (.int .u8 78) k
        have hf : WR.frozen? ⟨g, k, none⟩ = false := frozen_of_heap hg
        have SET := hide (show (WR.setCell ⟨g, k, none⟩ (.int .u8 78)).heap[g]? = some (.cells (backK A (.int .u8 78) (k + 1)).toArray 5 (0, 0)) from by
          rw [heap_set hg, ← backK_set _ _ hk2])
        have hc : WR.cell? ⟨g, k, none⟩ = A[k]? := by rw [cell_of_heap hg, ← hgt]; simp
        by_cases hkn : k < s.size
        · have e : A[k]? = some (.int .u8 (bytesS s)[k]!) := by
            rw [← unhide HA, List.getElem?_append_left (by rw [List.length_map, bytesS_len]; exact hkn)]
            have : k < (bytesS s).length := by rw [bytesS_len]; exact hkn
            simp [this]
          rw [e] at hc
          clear hg hfr hgt e hcv
          go_wp2
          go_roundw
          case rel => exact ⟨k + 1, by omega, by simp, by go_num, unhide SET, (unhide FR).setCell (p := ⟨g, k, none⟩) (Or.inl rfl) _⟩
          case measure => simp [intOf]; omega
        · have e : A[k]? = some (.int .u8 77) := by
            rw [← unhide HA, List.getElem?_append_right (by rw [List.length_map, bytesS_len]; omega), List.getElem?_replicate, if_pos (by rw [List.length_map, bytesS_len]; omega)]
          rw [e] at hc
          clear hg hfr hgt e hcv
          go_wp2
          go_roundw
          case rel => exact ⟨k + 1, by omega, by simp, by go_num, unhide SET, (unhide FR).setCell (p := ⟨g, k, none⟩) (Or.inl rfl) _⟩
          case measure => simp [intOf]; omega
      · clear hg hfr hcv
        go_wp2
        go_ret
        exact ⟨rfl, by have := unhide FR; simpa [Value.ownBlock, eq_comm] using this⟩
end Go.Proofs.YtgngdklkoilaiaaGreatDoor
