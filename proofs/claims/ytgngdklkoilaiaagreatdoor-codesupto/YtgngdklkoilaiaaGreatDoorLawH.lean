/- The book is looked through (package bywaylaw): Book.looks: each list bears its mark. -/
import Derived.Test.YtgngdklkoilaiaaGreatDoorLawG
import Derived.Test.YtgngdklkoilaiaaGreatDoorLawB
import Derived.Laws.CopyRow
import Derived.Laws.MakeOwn
import Derived.Laws.OwnMore
import Derived.Lib.BufferWrite
namespace Go.Proofs.YtgngdklkoilaiaaGreatDoor
open Go.RowKit

theorem recCells_get : ∀ (l : List Rec) (k : Nat) (h : k < l.length), (recCells l)[k * 5]? = some l[k].v0 ∧ (recCells l)[k * 5 + 1]? = some l[k].v1 ∧ (recCells l)[k * 5 + 2]? = some l[k].v2 ∧ (recCells l)[k * 5 + 3]? = some l[k].v3 ∧ (recCells l)[k * 5 + 4]? = some (.int .i64 l[k].m) := by
  intro l
  induction l with
  | nil => intro k h; simp at h
  | cons r l ih =>
    intro k h
    have e : recCells (r :: l) = r.v0 :: r.v1 :: r.v2 :: r.v3 :: .int .i64 r.m :: recCells l := rfl
    cases k with
    | zero => exact ⟨rfl, rfl, rfl, rfl, rfl⟩
    | succ k =>
      have := ih k (by simpa using h)
      rw [e, show (k + 1) * 5 = k * 5 + 1 + 1 + 1 + 1 + 1 by omega]
      simpa using this
theorem row_rec {W wr : World} {base : Nat} {e : TypeId} {v : Value} {l : List Rec} {k : Nat} (h : W.ownsRow base e 5 v l.length (recCells l)) (hb : Below W.heap.size W wr) (hk : k < l.length) :
    ∃ g cap, v = .slice (some ⟨g, 0, none⟩) l.length cap ∧ l.length ≤ cap ∧ wr.cell? ⟨g, k * 5, none⟩ = some l[k].v0 ∧ wr.cell? ⟨g, k * 5 + 1, none⟩ = some l[k].v1 ∧ wr.cell? ⟨g, k * 5 + 2, none⟩ = some l[k].v2 ∧ wr.cell? ⟨g, k * 5 + 3, none⟩ = some l[k].v3 ∧ wr.cell? ⟨g, k * 5 + 4, none⟩ = some (.int .i64 l[k].m) := by
  rcases h.2 with ⟨_, h2⟩ | ⟨g, cap, cur, hv, _, hg, hn, _⟩
  · omega
  · obtain ⟨a0, a1, a2, a3, a4⟩ := recCells_get l k hk
    have hlt := heap_lt hg
    have one : ∀ j u, (recCells l)[j]? = some u → wr.cell? ⟨g, j, none⟩ = some u := fun j u hu => by
      have := h.cells (show v.ownBlock = some g by rw [hv]; rfl) j u hu
      rw [addr_add] at this
      rw [hb.cell (p := ⟨g, j, none⟩) hlt]; exact this
    exact ⟨g, cap, hv, hn, one _ _ a0, one _ _ a1, one _ _ a2, one _ _ a3, one _ _ a4⟩
theorem slice_len {W : World} {base : Nat} {e : TypeId} {v : Value} {n : Nat} {xs : List Value} (h : W.ownsRow base e 5 v n xs) : ∃ q c, v = .slice q n c := own_slice h

set_option maxRecDepth 100000 in
set_option maxHeartbeats 6400000 in
theorem looks_any (b : Bk) (wb : Nat) (W : World) (h : BookAt W wb b) (hc : b.cnt ≤ 16777216) :
    Calls Tryz.prog 7 #[.pointer (some ⟨wb, 2, none⟩)] W fun e W' => e = .returned (.bool true) ∧ Below W.heap.size W W' := by
  have HB := hide h
  have hcB : b.B.length ≤ 16777216 := by unfold Bk.cnt at hc; omega
  have hcI : b.I.length ≤ 16777216 := by unfold Bk.cnt at hc; omega
  have hcN : b.N.length ≤ 16777216 := by unfold Bk.cnt at hc; omega
  have hwlt : wb < W.heap.size := heap_lt h.blk
  have C2 := hide (show W.cell? ⟨wb, 2, none⟩ = some b.vb from cell_of_heap h.blk)
  have C3 := hide (show W.cell? ⟨wb, 3, none⟩ = some b.vi from cell_of_heap h.blk)
  have C4 := hide (show W.cell? ⟨wb, 4, none⟩ = some b.vn from cell_of_heap h.blk)
  have C5 := hide (show W.cell? ⟨wb, 5, none⟩ = some (.slice none 0 0) from cell_of_heap h.blk)
  have C6 := hide (show W.cell? ⟨wb, 6, none⟩ = some (.slice none 0 0) from cell_of_heap h.blk)
  clear h hc
  go_enter Tryz.func7, Tryz.ntmps7
  go_wp2_with fail
  go_loopw [3, 4] (fun ok i wr => ∃ k : Nat, k ≤ b.B.length ∧ ok = .bool true ∧ i = .int .i64 k ∧ Below W.heap.size W wr) (fun _ i _ => b.B.length - (intOf i).toNat)
  case atStart => exact ⟨0, Nat.zero_le _, rfl, rfl, Below.refl _ _⟩
  case round =>
    rename World => WR
    obtain ⟨k, hk, rfl, rfl, hbe⟩ := hrel
    have BE := hide hbe
    have c2 := (hbe.cell (p := ⟨wb, 2, none⟩) hwlt).trans (unhide C2)
    clear hbe
    by_cases hlt : k < b.B.length
    · obtain ⟨g, cap, hv, hcap, d0, d1, d2, d3, d4⟩ := row_rec (unhide HB).ob (unhide BE) hlt
      have hr := (unhide HB).lb b.B[k] (List.getElem_mem _)
      rw [hv] at c2
      obtain ⟨r, hR⟩ : ∃ r, b.B[k] = r := ⟨_, rfl⟩
      rw [hR] at d0 d1 d2 d3 d4 hr
      have HR := hide hr
      obtain ⟨p0, k0, e0⟩ := hr.m0.1.rep
      obtain ⟨p1, k1, e1⟩ := hr.m1.1.rep
      obtain ⟨p2, k2, e2⟩ := hr.m2.1.rep
      obtain ⟨p3, k3, e3⟩ := hr.m3.1.rep
      rw [e0] at d0
      rw [e1] at d1
      rw [e2] at d2
      rw [e3] at d3
      have E0 := hide e0
      have E1 := hide e1
      have E2 := hide e2
      have E3 := hide e3
      clear hr hR hv e0 e1 e2 e3
      go_wp2_with fail
      refine (Bytes_still_any r.n (r.n + 1) (r.n + 2) (r.n + 3) r.m _ _ _ _ _ (unhide HR).mb (by rw [← unhide E0]; exact (unhide HR).m0.1.below (unhide BE)) (by rw [← unhide E1]; exact (unhide HR).m1.1.below (unhide BE)) (by rw [← unhide E2]; exact (unhide HR).m2.1.below (unhide BE)) (by rw [← unhide E3]; exact (unhide HR).m3.1.below (unhide BE))).mono ?_
      rintro e w1 ⟨rfl, hb1⟩
      have B1 := hide ((unhide BE).trans (hb1.mono (unhide BE).size))
      clear hb1
      go_wp2_with fail
      exact ⟨⟨k + 1, by omega, rfl, by go_num, unhide B1⟩, by simp [intOf]; omega⟩
    · obtain ⟨qq, cc, hvv⟩ := own_slice (unhide HB).ob
      rw [hvv] at c2
      clear hvv
      have BE0 := BE
      clear BE
      go_wp2_with fail
      go_loopw [3, 6] (fun ok i wr => ∃ k : Nat, k ≤ b.I.length ∧ ok = .bool true ∧ i = .int .i64 k ∧ Below W.heap.size W wr) (fun _ i _ => b.I.length - (intOf i).toNat)
      case atStart => exact ⟨0, Nat.zero_le _, rfl, rfl, unhide BE0⟩
      case round =>
        rename World => WR
        obtain ⟨k, hk, rfl, rfl, hbe⟩ := hrel
        have BE := hide hbe
        have c2 := (hbe.cell (p := ⟨wb, 3, none⟩) hwlt).trans (unhide C3)
        clear hbe
        by_cases hlt : k < b.I.length
        · obtain ⟨g, cap, hv, hcap, d0, d1, d2, d3, d4⟩ := row_rec (unhide HB).oi (unhide BE) hlt
          have hr := (unhide HB).li b.I[k] (List.getElem_mem _)
          rw [hv] at c2
          obtain ⟨r, hR⟩ : ∃ r, b.I[k] = r := ⟨_, rfl⟩
          rw [hR] at d0 d1 d2 d3 d4 hr
          have HR := hide hr
          obtain ⟨p0, k0, e0⟩ := hr.m0.1.rep
          obtain ⟨p1, k1, e1⟩ := hr.m1.1.rep
          obtain ⟨p2, k2, e2⟩ := hr.m2.1.rep
          obtain ⟨p3, k3, e3⟩ := hr.m3.1.rep
          rw [e0] at d0
          rw [e1] at d1
          rw [e2] at d2
          rw [e3] at d3
          have E0 := hide e0
          have E1 := hide e1
          have E2 := hide e2
          have E3 := hide e3
          clear hr hR hv e0 e1 e2 e3
          go_wp2_with fail
          refine (Ints_still_any r.n (r.n + 1) (r.n + 2) (r.n + 3) r.m _ _ _ _ _ (unhide HR).mb (by rw [← unhide E0]; exact (unhide HR).m0.1.below (unhide BE)) (by rw [← unhide E1]; exact (unhide HR).m1.1.below (unhide BE)) (by rw [← unhide E2]; exact (unhide HR).m2.1.below (unhide BE)) (by rw [← unhide E3]; exact (unhide HR).m3.1.below (unhide BE))).mono ?_
          rintro e w1 ⟨rfl, hb1⟩
          have B1 := hide ((unhide BE).trans (hb1.mono (unhide BE).size))
          clear hb1
          go_wp2_with fail
          exact ⟨⟨k + 1, by omega, rfl, by go_num, unhide B1⟩, by simp [intOf]; omega⟩
        · obtain ⟨qq, cc, hvv⟩ := own_slice (unhide HB).oi
          rw [hvv] at c2
          clear hvv
          have BE0 := BE
          clear BE
          go_wp2_with fail
          go_loopw [3, 8] (fun ok i wr => ∃ k : Nat, k ≤ b.N.length ∧ ok = .bool true ∧ i = .int .i64 k ∧ Below W.heap.size W wr) (fun _ i _ => b.N.length - (intOf i).toNat)
          case atStart => exact ⟨0, Nat.zero_le _, rfl, rfl, unhide BE0⟩
          case round =>
            rename World => WR
            obtain ⟨k, hk, rfl, rfl, hbe⟩ := hrel
            have BE := hide hbe
            have c2 := (hbe.cell (p := ⟨wb, 4, none⟩) hwlt).trans (unhide C4)
            clear hbe
            by_cases hlt : k < b.N.length
            · obtain ⟨g, cap, hv, hcap, d0, d1, d2, d3, d4⟩ := row_rec (unhide HB).on (unhide BE) hlt
              have hr := (unhide HB).ln b.N[k] (List.getElem_mem _)
              rw [hv] at c2
              obtain ⟨r, hR⟩ : ∃ r, b.N[k] = r := ⟨_, rfl⟩
              rw [hR] at d0 d1 d2 d3 d4 hr
              have HR := hide hr
              obtain ⟨p0, k0, e0⟩ := hr.m0.1.rep
              obtain ⟨p1, k1, e1⟩ := hr.m1.1.rep
              obtain ⟨p2, k2, e2⟩ := hr.m2.1.rep
              obtain ⟨p3, k3, e3⟩ := hr.m3.1.rep
              rw [e0] at d0
              rw [e1] at d1
              rw [e2] at d2
              rw [e3] at d3
              have E0 := hide e0
              have E1 := hide e1
              have E2 := hide e2
              have E3 := hide e3
              clear hr hR hv e0 e1 e2 e3
              go_wp2_with fail
              refine (Nets_still_any r.n (r.n + 1) (r.n + 2) (r.n + 3) r.m _ _ _ _ _ (unhide HR).mb (by rw [← unhide E0]; exact (unhide HR).m0.1.below (unhide BE)) (by rw [← unhide E1]; exact (unhide HR).m1.1.below (unhide BE)) (by rw [← unhide E2]; exact (unhide HR).m2.1.below (unhide BE)) (by rw [← unhide E3]; exact (unhide HR).m3.1.below (unhide BE))).mono ?_
              rintro e w1 ⟨rfl, hb1⟩
              have B1 := hide ((unhide BE).trans (hb1.mono (unhide BE).size))
              clear hb1
              go_wp2_with fail
              exact ⟨⟨k + 1, by omega, rfl, by go_num, unhide B1⟩, by simp [intOf]; omega⟩
            · obtain ⟨qq, cc, hvv⟩ := own_slice (unhide HB).on
              rw [hvv] at c2
              clear hvv
              have BE0 := BE
              clear BE
              go_wp2_with fail
              go_loopw [3, 10] (fun ok i wr => ok = .bool true ∧ i = .int .i64 0 ∧ Below W.heap.size W wr) (fun _ _ _ => 0)
              case atStart => exact ⟨rfl, rfl, unhide BE0⟩
              case round =>
                rename World => WR
                obtain ⟨rfl, rfl, hbe⟩ := hrel
                have BE := hide hbe
                have c5 := (hbe.cell (p := ⟨wb, 5, none⟩) hwlt).trans (unhide C5)
                clear hbe BE0
                go_wp2_with fail
                go_loopw [3, 12] (fun ok i wr => ok = .bool true ∧ i = .int .i64 0 ∧ Below W.heap.size W wr) (fun _ _ _ => 0)
                case atStart => exact ⟨rfl, rfl, unhide BE⟩
                case round =>
                  rename World => WR2
                  obtain ⟨rfl, rfl, hbe⟩ := hrel
                  have BE2 := hide hbe
                  have c6 := (hbe.cell (p := ⟨wb, 6, none⟩) hwlt).trans (unhide C6)
                  clear hbe
                  go_wp2
                  go_ret
                  exact ⟨rfl, unhide BE2⟩
end Go.Proofs.YtgngdklkoilaiaaGreatDoor

namespace Go.Proofs.YtgngdklkoilaiaaGreatDoor
open Go.RowKit

theorem run_copy_row_n {P : Program} (w : World) (dT sT ty elem : TypeId) (size g dLen dCap : Nat) (a : Addr) (sLen sCap : Nat) (cur : Array Value) (t : TypeId) (cs : List Value)
    (hu : P.underlying dT = some (.slice elem)) (hs : (P.info? elem).map (·.size) = some size)
    (hg : w.heap[g]? = some (.cells cur t (0, 0))) (hle : sLen ≤ dLen) (hn : cs.length = sLen * size)
    (hsrc : ∀ j v, cs[j]? = some v → w.cell? (a.add j) = some v) (hfit : cs.length ≤ cur.size) (h1 : ∀ v ∈ cs, v.oneCell' = true) :
    (Builtin.copy_ #[dT, sT] ty #[.slice (some ⟨g, 0, none⟩) dLen dCap, .slice (some a) sLen sCap]).run P w =
      .ok (goInt sLen) (w.setRow g (cs ++ cur.toList.drop cs.length).toArray) := by
  have hl := run_loadCells_list (P := P) w a cs hsrc
  have hst := run_storeCells_at P g 0 t cs 0 cur w hg (by simpa using hfit) h1
  have hmin : Nat.min sLen dLen = sLen := Nat.min_eq_left hle
  cases hq : P.info? elem with
  | none => simp [hq] at hs
  | some i =>
    have hi : i.size = size := by simpa [hq] using hs
    simp only [Nat.add_zero, List.take_zero, List.nil_append, Nat.zero_add] at hst
    rw [hn] at hl
    simp [Builtin.copy_, run_underlying hu, Builtin.lenOf, Builtin.firstCells, sizeOf, typeInfo, hq, hi, hmin, hl, hst]
theorem wpList_copy_head {P : Program} {w : World} {ops : Array Oper} {rest : List Oper} {o : Oper} {a : Act} {Q : Exit → Act → World → Prop} (hgd : o.guard = none) (d s : Operand) (dT sT : TypeId)
    (ho : o.op = .call { callee := .builtin .copy, args := #[d, s], argTypes := #[dT, sT] }) (elem : TypeId) (hu : P.underlying dT = some (.slice elem)) (size : Nat) (hsz : (P.info? elem).map (·.size) = some size)
    (g dLen dCap : Nat) (hd : a.eval d = .slice (some ⟨g, 0, none⟩) dLen dCap) (sv : Value) (hs : a.eval s = sv) (sLen : Nat) (cs : List Value) (hr : ReadsAs w sv sLen cs) (hle : sLen ≤ dLen) (hn : cs.length = sLen * size)
    (cur : List Value) (t : TypeId) (hg : w.heap[g]? = some (.cells cur.toArray t (0, 0))) (hfit : cs.length ≤ cur.length) (h1 : ∀ v ∈ cs, v.oneCell' = true)
    (h : ∀ w', w'.heap[g]? = some (.cells (cs ++ cur.drop cs.length).toArray t (0, 0)) → w.grownBy w' (some g) → wpList P ops Q rest (a.put o.dst (goInt sLen)) w') :
    wpList P ops Q (o :: rest) a w := by
  refine wpList_plain hgd fun K hK => ?_
  have run : ∃ w', (Builtin.copy_ #[dT, sT] o.type #[.slice (some ⟨g, 0, none⟩) dLen dCap, sv]).run P w = .ok (goInt sLen) w' ∧ w'.heap[g]? = some (.cells (cs ++ cur.drop cs.length).toArray t (0, 0)) ∧ w.grownBy w' (some g) := by
    rcases hr with ⟨rfl, rfl, rfl⟩ | ⟨ad, c, rfl, hc⟩
    · exact ⟨w, run_copy_nil P w dT sT o.type elem ⟨g, 0, none⟩ dLen dCap hu (by rw [hsz]; rfl), by simpa using hg, rfl, rfl, rfl, Nat.le_refl _, fun _ _ _ => rfl⟩
    · refine ⟨_, run_copy_row_n w dT sT o.type elem size g dLen dCap ad sLen c cur.toArray t cs hu hsz hg hle hn hc (by simpa using hfit) h1, ?_, rfl, rfl, rfl, by simp, fun k _ hk => setRow_other w g k _ (fun e => hk (by rw [e]))⟩
      have := setRow_heap w g cur.toArray (cs ++ cur.drop cs.length).toArray t (0, 0) hg
      simpa using this
  obtain ⟨w', hr', h2, h3⟩ := run
  unfold Oper.wp execOp
  simp only [ho, resolve, invoke, builtin, Sem.run_bind, Sem.run_pure, Result.andThen_ok, List.map_toArray, List.map_cons, List.map_nil, hd, hs, hr']
  exact hK _ _ (h w' h2 h3)
theorem run_make_n {P : Program} (w : World) (t e : TypeId) (i : TypeInfo) (z : Value) (ht : P.underlying t = some (.slice e)) (hi : P.info? e = some i) (hz : i.zero = some z) (n : Nat) (hb : i.bytes * n ≤ 281474976710656) (hn : n ≤ 1099511627776) :
    (Instr.makeSlice t (.int .i64 (n : Int)) (.int .i64 (n : Int))).run P w = .ok (.slice (some ⟨w.heap.size, 0, none⟩) n n) (w.alloc (.cells (madeCells z.cells (n * i.size)) e)) := by
  have hb' : (i.bytes : Int) * (n : Int) ≤ 281474976710656 := by
    have h : ((i.bytes * n : Nat) : Int) ≤ 281474976710656 := by omega
    rwa [Int.natCast_mul] at h
  have := run_make (P := P) w t e i z ht hi hz .i64 .i64 (n : Int) (n : Int) (by omega) (Int.le_refl _) hb' (by omega)
  simpa using this
theorem made_one (z : Value) (n : Nat) : madeCells #[z] n = (List.replicate n z).toArray := by
  apply Array.ext'
  rw [toList_madeCells_one]
theorem made_pair (x y : Value) : ∀ n, madeCells #[x, y] (n * 2) = ((List.replicate n [x, y]).flatten).toArray := by
  intro n
  apply Array.ext'
  unfold madeCells
  induction n with
  | zero => simp
  | succ n ih =>
    rw [List.replicate_succ', List.flatten_append, show (n + 1) * 2 = n * 2 + 1 + 1 by omega]
    simp only [Array.toList_map, Array.toList_range, List.range_succ, List.map_append, List.append_assoc] at ih ⊢
    rw [ih]
    have e1 : n * 2 % 2 = 0 := by omega
    have e2 : (n * 2 + 1) % 2 = 1 := by omega
    simp [e1, e2]
end Go.Proofs.YtgngdklkoilaiaaGreatDoor

namespace Go.Proofs.YtgngdklkoilaiaaGreatDoor
open Go.RowKit

theorem eqNilI (w : World) (a : Addr) (n c : Nat) : (binOp .eql 25 (.slice (some a) n c) (.slice none 0 0)).run Tryz.prog w = .ok (.bool false) w := Lib.run_eql_slice_nil w _ _ (some a) n c 0 0 Tryz.underlying25
theorem eqNilI0 (w : World) : (binOp .eql 25 (.slice none 0 0) (.slice none 0 0)).run Tryz.prog w = .ok (.bool true) w := Lib.run_eql_slice_nil w _ _ none 0 0 0 0 Tryz.underlying25
/-- what is lent, in its block: the list, and eight places more -/
def lentC (L : List Int) : List Value := L.map (Value.int .i64) ++ List.replicate 8 (.int .i64 (-77))
def lentK (A : List Value) (x z : Value) (k : Nat) : List Value := A ++ (List.replicate k x ++ List.replicate (8 - k) z)
theorem lentK_set (A : List Value) (x z : Value) {k : Nat} (hk : k < 8) : (lentK A x z k).toArray.setIfInBounds (A.length + k) x = (lentK A x z (k + 1)).toArray := by
  apply Array.ext'
  unfold lentK
  rw [Array.toList_setIfInBounds]
  rw [List.set_append_right _ _ (by omega), show A.length + k - A.length = k by omega, List.set_append_right _ _ (by simp), List.length_replicate, Nat.sub_self, show 8 - k = (8 - (k + 1)) + 1 by omega, List.replicate_succ, List.set_cons_zero, List.replicate_succ']
  simp
theorem lentK_get (A : List Value) (x z : Value) {k : Nat} (hk : k < 8) : (lentK A x z k)[A.length + k]? = some z := by
  unfold lentK
  rw [List.getElem?_append_right (by omega), show A.length + k - A.length = k by omega, List.getElem?_append_right (by simp), List.length_replicate, Nat.sub_self, List.getElem?_replicate, if_pos (by omega)]
theorem lentK_all (A : List Value) (x z : Value) : lentK A x z 8 = A ++ List.replicate 8 x := by simp [lentK]
theorem lentK_zero (A : List Value) (x z : Value) : lentK A x z 0 = A ++ List.replicate 8 z := by simp [lentK]
/-- x, lent as v -/
def LentI (w w' : World) (x v : Value) (L : List Int) : Prop :=
  (x = .slice none 0 0 ∧ v = .slice none 0 0 ∧ L = []) ∨
  ∃ a c g, x = .slice (some a) L.length c ∧ v = .slice (some ⟨g, 0, none⟩) L.length (L.length + 8) ∧ w.heap.size ≤ g ∧ w'.heap[g]? = some (.cells (lentC L).toArray 3 (0, 0))
theorem IntsAt.nilOr {w : World} {x : Value} {L : List Int} (h : IntsAt w x L) : (x = .slice none 0 0 ∧ L = []) ∨ ∃ a c, x = .slice (some a) L.length c := by
  obtain ⟨p, c, hv, hcap, hl, hin, hr⟩ := h
  cases p with
  | none =>
    left
    rcases hr with ⟨h1, h2⟩ | ⟨b, o, hp, _⟩
    · subst h1
      have := h2 rfl
      subst this
      exact ⟨hv, rfl⟩
    · cases hp
  | some a => exact Or.inr ⟨a, c, hv⟩
theorem IntsAt.reads {w : World} {v : Value} {l : List Int} (h : IntsAt w v l) : ReadsAs w v l.length (l.map (Value.int .i64)) := by
  obtain ⟨p, c, rfl, hcap, hl, hin, hr⟩ := h
  rcases hr with ⟨rfl, hp⟩ | ⟨b, o, rfl, hb, hc⟩
  · cases p with
    | none => have := hp rfl; subst this; exact Or.inl ⟨rfl, rfl, rfl⟩
    | some a => exact Or.inr ⟨a, c, rfl, fun j u hj => by simp at hj⟩
  · refine Or.inr ⟨_, _, rfl, fun j u hj => ?_⟩
    have hjl : j < l.length := by
      rcases Nat.lt_or_ge j l.length with h1 | h1
      · exact h1
      · rw [List.getElem?_eq_none (by simpa using h1)] at hj; cases hj
    have hadd : (⟨b, o, none⟩ : Addr).add j = ⟨b, o + j, none⟩ := by unfold Addr.add; split <;> simp_all
    rw [hadd, hc j hjl, ← hj]
    simp [hjl]
theorem one_i64 (l : List Int) : ∀ u ∈ l.map (Value.int .i64), u.oneCell' = true := by
  intro u hu
  obtain ⟨x, _, rfl⟩ := List.mem_map.1 hu
  rfl
theorem LentI.at_ {w w' : World} {x v : Value} {L : List Int} (h : LentI w w' x v L) (hin : ∀ y ∈ L, inI y) (hl : L.length ≤ 16777216) : IntsAt w' v L := by
  rcases h with ⟨_, rfl, rfl⟩ | ⟨a, c, g, _, rfl, _, hg⟩
  · exact ⟨none, 0, rfl, by simp, by simp, by simp, Or.inl ⟨rfl, fun _ => rfl⟩⟩
  · refine ⟨_, _, rfl, by omega, by omega, hin, Or.inr ⟨g, 0, rfl, heap_lt hg, fun j hj => ?_⟩⟩
    rw [cell_of_heap hg]
    unfold lentC
    simp [List.getElem?_append_left, hj]
theorem LentI.below {w w' w'' : World} {x v : Value} {L : List Int} (h : LentI w w' x v L) (hb : Below w'.heap.size w' w'') : LentI w w'' x v L := by
  rcases h with h | ⟨a, c, g, h1, h2, h3, hg⟩
  · exact Or.inl h
  · exact Or.inr ⟨a, c, g, h1, h2, h3, (hb.block g (heap_lt hg)).trans hg⟩

set_option maxRecDepth 100000 in
set_option maxHeartbeats 1600000 in
theorem lentInts_any (L : List Int) (x : Value) (w : World) (h : IntsAt w x L) (hl : L.length ≤ 16777216) :
    Calls Tryz.prog 25 #[x] w fun e w' => ∃ v, e = .returned v ∧ LentI w w' x v L ∧ Below w.heap.size w w' := by
  have HX := hide h
  have q0 := eqNilI0
  have q1 := eqNilI
  rcases h.nilOr with ⟨rfl, rfl⟩ | ⟨a, c, rfl⟩
  · clear h
    go_enter Tryz.func25, Tryz.ntmps25
    go_wp2
    go_ret
    exact ⟨_, rfl, Or.inl ⟨rfl, rfl, rfl⟩, Below.refl _ _⟩
  · clear h
    obtain ⟨i0, hi0, hz0, hz1, hz2⟩ := info_parts Tryz.infoInt
    have hsz : (Tryz.prog.info? 3).map (·.size) = some 1 := by rw [hi0]; simp [hz1]
    have hmk := run_make_n (P := Tryz.prog) w 25 3 i0 (.int .i64 0) Tryz.underlying25 hi0 hz0 (L.length + 8) (by rw [hz2]; omega) (by omega)
    rw [hz1, Nat.mul_one, show (Value.int .i64 0).cells = #[.int .i64 0] from rfl, made_one] at hmk
    obtain ⟨w1, hw1⟩ : ∃ w1, w.alloc (.cells (List.replicate (L.length + 8) (Value.int .i64 0)).toArray 3) = w1 := ⟨_, rfl⟩
    have Q1 := hide (heap_alloc_new w (.cells (List.replicate (L.length + 8) (Value.int .i64 0)).toArray 3))
    have B1 := hide ((Below.refl w.heap.size w).alloc (Nat.le_refl _) (.cells (List.replicate (L.length + 8) (Value.int .i64 0)).toArray 3))
    rw [hw1] at hmk Q1 B1
    have RD := hide ((unhide HX).below (unhide B1)).reads
    obtain ⟨n, hn⟩ : ∃ n, L.length = n := ⟨_, rfl⟩
    rw [hn] at hmk Q1 RD hl ⊢
    have HN := hide hn
    rw [show ((n + 8 : Nat) : Int) = (n : Int) + 8 from by omega] at hmk
    clear hn hw1
    go_enter Tryz.func25, Tryz.ntmps25
    go_upto_region 5 with (refine wpList_copy_head rfl _ _ _ _ rfl 3 Tryz.underlying25 1 hsz w.heap.size (n + 8) (n + 8) rfl (.slice (some a) n c) rfl n (L.map (Value.int .i64)) (unhide RD) (by omega) (by rw [List.length_map, unhide HN]; omega) (List.replicate (n + 8) (.int .i64 0)) 3 (unhide Q1) (by rw [List.length_map, unhide HN]; simp) (one_i64 _) ?_; intro w2 hg2 hgr2)
    have hg3 : w2.heap[w.heap.size]? = some (.cells (lentK (L.map (Value.int .i64)) (.int .i64 (-77)) (.int .i64 0) 0).toArray 3 (0, 0)) := by
      rw [hg2, lentK_zero]
      congr 3
      rw [List.length_map, unhide HN, List.drop_replicate, show n + 8 - n = 8 by omega]
    have G0 := hide hg3
    have BE := hide ((unhide B1).grown hgr2 (unhide B1).size (fun k e => by have : w.heap.size = k := by simpa using e
                                                                            omega))
    have AL := hide (show (L.map (Value.int .i64)).length = n from by rw [List.length_map]; exact unhide HN)
    clear hg2 hg3 hgr2 hmk Q1 B1 RD q0 q1
    go_wp2_with fail
    go_loopw [4] (fun i wr => ∃ k : Nat, k ≤ 8 ∧ i = .int .i64 ((n : Int) + k) ∧ wr.heap[w.heap.size]? = some (.cells (lentK (L.map (Value.int .i64)) (.int .i64 (-77)) (.int .i64 0) k).toArray 3 (0, 0)) ∧ Below w.heap.size w wr) (fun i _ => n + 8 - (intOf i).toNat)
    case atStart => exact ⟨0, by omega, by simp, unhide G0, unhide BE⟩
    case round =>
      rename World => WR
      obtain ⟨k, hk, rfl, hg, hbe⟩ := hrel
      have G := hide hg
      have BW := hide hbe
      clear hbe
      by_cases hlt : k < 8
      · have hgt := lentK_get (L.map (Value.int .i64)) (.int .i64 (-77)) (.int .i64 0) hlt
        rw [unhide AL] at hgt
        have hc : WR.cell? ⟨w.heap.size, n + k, none⟩ = some (.int .i64 0) := by rw [cell_of_heap hg]; simpa using hgt
        have hf : WR.frozen? ⟨w.heap.size, n + k, none⟩ = false := frozen_of_heap hg
        have HS := hide (show (WR.setCell ⟨w.heap.size, n + k, none⟩ (.int .i64 (-77))).heap[w.heap.size]? = some (.cells (lentK (L.map (Value.int .i64)) (.int .i64 (-77)) (.int .i64 0) (k + 1)).toArray 3 (0, 0)) from by
          rw [heap_set hg, ← lentK_set _ _ _ hlt, unhide AL])
        clear hg hgt
        go_wp2
        go_roundw
        case rel => exact ⟨k + 1, by omega, by go_num, unhide HS, (unhide BW).setCell (p := ⟨w.heap.size, n + k, none⟩) (Nat.le_refl _) _⟩
        case measure => simp [intOf]; omega
      · have hk8 : k = 8 := by omega
        subst hk8
        clear hg
        go_wp2
        go_ret
        refine ⟨.slice (some ⟨w.heap.size, 0, none⟩) n (n + 8), rfl, Or.inr ⟨a, c, w.heap.size, ?_, ?_, Nat.le_refl _, ?_⟩, unhide BW⟩
        · rw [unhide HN]
        · rw [unhide HN]
        · have := unhide G
          rw [lentK_all] at this
          exact this

/-- what is taken back, round by round -/
def backK (A : List Value) (y : Value) (k : Nat) : List Value := List.replicate k y ++ A.drop k
theorem backK_set (A : List Value) (y : Value) {k : Nat} (hk : k < A.length) : (backK A y k).toArray.setIfInBounds k y = (backK A y (k + 1)).toArray := by
  apply Array.ext'
  unfold backK
  have e : A.drop k = A[k] :: A.drop (k + 1) := List.drop_eq_getElem_cons hk
  rw [Array.toList_setIfInBounds, List.set_append_right _ _ (by simp), List.length_replicate, Nat.sub_self, e, List.set_cons_zero, List.replicate_succ']
  simp
theorem backK_get (A : List Value) (y : Value) (k : Nat) : (backK A y k)[k]? = A[k]? := by
  unfold backK
  rw [List.getElem?_append_right (by simp), List.length_replicate, Nat.sub_self, List.getElem?_drop, Nat.add_zero]
theorem lentC_lo {L : List Int} {k : Nat} (h : k < L.length) : (lentC L)[k]? = some (.int .i64 L[k]) := by
  unfold lentC
  rw [List.getElem?_append_left (by simpa using h)]
  simp [h]
theorem lentC_hi {L : List Int} {k : Nat} (h1 : L.length ≤ k) (h2 : k < L.length + 8) : (lentC L)[k]? = some (.int .i64 (-77)) := by
  unfold lentC
  rw [List.getElem?_append_right (by simpa using h1), List.length_map, List.getElem?_replicate, if_pos (by omega)]

set_option maxRecDepth 100000 in
set_option maxHeartbeats 1600000 in
theorem backInts_any (L : List Int) (x v : Value) (w0 w : World) (hx : IntsAt w x L) (hv : LentI w0 w x v L) (hs : L = [] ∨ ∀ k, x.ownBlock = some k → v.ownBlock ≠ some k) (hl : L.length ≤ 16777216) :
    Calls Tryz.prog 28 #[v, x] w fun e w' => e = .returned (.bool true) ∧ Fr (fun k => v.ownBlock = some k) w (fun k => v.ownBlock = some k) w' := by
  have q0 := eqNilI0
  have q1 := eqNilI
  rcases hv with ⟨rfl, rfl, rfl⟩ | ⟨a, c, g, rfl, rfl, _, hg⟩
  · clear hx hs
    go_enter Tryz.func28, Tryz.ntmps28
    go_wp2
    go_ret
    exact ⟨rfl, Fr.refl _ _⟩
  · have HX := hide hx
    have HS := hide hs
    have AL := hide (show (lentC L).length = L.length + 8 from by unfold lentC; simp)
    have G0 := hide hg
    obtain ⟨n, hn⟩ : ∃ n, L.length = n := ⟨_, rfl⟩
    rw [hn] at HS AL hl ⊢
    have HN := hide hn
    have hbb : w.heap.size = w.heap.size := rfl
    clear hx hs hg hn hbb
    go_enter Tryz.func28, Tryz.ntmps28
    go_wp2_with fail
    go_loopw [6, 7] (fun ok i wr => ∃ k : Nat, k ≤ n + 8 ∧ ok = .bool true ∧ i = .int .i64 k ∧ wr.heap[g]? = some (.cells (backK (lentC L) (.int .i64 (-78)) k).toArray 3 (0, 0)) ∧ Fr (· = g) w (· = g) wr) (fun _ i _ => n + 8 - (intOf i).toNat)
    case atStart => exact ⟨0, by omega, rfl, rfl, unhide G0, Fr.refl _ _⟩
    case round =>
      rename World => WR
      obtain ⟨k, hk, rfl, rfl, hg, hfr⟩ := hrel
      have FR := hide hfr
      by_cases hlt : k < n + 8
      · have hk2 : k < (lentC L).length := by rw [unhide AL]; exact hlt
        have hgt := backK_get (lentC L) (.int .i64 (-78)) k
        have hf : WR.frozen? ⟨g, k, none⟩ = false := frozen_of_heap hg
        have SET := hide (show (WR.setCell ⟨g, k, none⟩ (.int .i64 (-78))).heap[g]? = some (.cells (backK (lentC L) (.int .i64 (-78)) (k + 1)).toArray 3 (0, 0)) from by
          rw [heap_set hg, ← backK_set _ _ hk2])
        have hc : WR.cell? ⟨g, k, none⟩ = (lentC L)[k]? := by rw [cell_of_heap hg, ← hgt]; simp
        by_cases hkn : k < n
        · have hkL : k < L.length := by rw [unhide HN]; exact hkn
          rw [lentC_lo hkL] at hc
          obtain ⟨p, c2, hxv, _, _, _, hr⟩ := unhide HX
          rcases hr with h | ⟨b, o, hp, hb, hcc⟩
          · exfalso; rw [h.1] at hkL; simp at hkL
          have hpa : a = ⟨b, o, none⟩ := by
            rw [hp] at hxv
            simp only [Value.slice.injEq, Option.some.injEq] at hxv
            exact hxv.1
          subst hpa
          have hbg : b ≠ g := fun e => by
            rcases unhide HS with h | h
            · rw [h] at hkL; simp at hkL
            · exact h b rfl (by rw [e]; rfl)
          have hcx : WR.cell? ⟨b, o + k, none⟩ = some (.int .i64 L[k]) := (World.cell?_of_block (w := w) (a := ⟨b, o + k, none⟩) (hfr.block b hb hbg)).trans (hcc k hkL)
          obtain ⟨X, hX⟩ : ∃ X, L[k] = X := ⟨_, rfl⟩
          rw [hX] at hc hcx
          clear hg hfr hgt hcc hX hxv hp
          go_wp2
          go_roundw
          case rel => exact ⟨k + 1, by omega, by simp, by go_num, unhide SET, (unhide FR).setCell (p := ⟨g, k, none⟩) (Or.inl rfl) _⟩
          case measure => simp [intOf]; omega
        · rw [lentC_hi (by rw [unhide HN]; omega) (by rw [unhide HN]; exact hlt)] at hc
          clear hg hfr hgt
          go_wp2
          go_roundw
          case rel => exact ⟨k + 1, by omega, by simp, by go_num, unhide SET, (unhide FR).setCell (p := ⟨g, k, none⟩) (Or.inl rfl) _⟩
          case measure => simp [intOf]; omega
      · clear hg hfr
        go_wp2
        go_ret
        exact ⟨rfl, by have := unhide FR; simpa [Value.ownBlock, eq_comm] using this⟩
end Go.Proofs.YtgngdklkoilaiaaGreatDoor
