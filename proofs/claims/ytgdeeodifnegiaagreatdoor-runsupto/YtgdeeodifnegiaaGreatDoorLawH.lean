/- The book is looked through (package bywaylaw): Book.looks: each list bears its mark. -/
import Derived.Test.YtgdeeodifnegiaaGreatDoorLawG
namespace Go.Proofs.YtgdeeodifnegiaaGreatDoor
open Go.RowKit

theorem recCells_get : ∀ (l : List Rec) (k : Nat) (h : k < l.length), (recCells l)[k * 5]? = some l[k].v0 ∧ (recCells l)[k * 5 + 1]? = some l[k].v1 ∧ (recCells l)[k * 5 + 2]? = some l[k].v2 ∧ (recCells l)[k * 5 + 3]? = some l[k].v3 ∧ (recCells l)[k * 5 + 4]? = some (.int .i64 l[k].m) := by
  intro l
  induction l with
  | nil => intro k h; simp at h
  | cons r l ih =>
    intro k h
    have e : recCells (r :: l) = r.v0 :: r.v1 :: r.v2 :: r.v3 :: .int .i64 r.m :: recCells l := rfl
    cases k with
    | zero => exact ⟨rfl, rfl, rfl, rfl, rfl⟩
    | succ k =>
      have := ih k (by simpa using h)
      rw [e, show (k + 1) * 5 = k * 5 + 1 + 1 + 1 + 1 + 1 by omega]
      simpa using this
theorem row_rec {W wr : World} {base : Nat} {e : TypeId} {v : Value} {l : List Rec} {k : Nat} (h : W.ownsRow base e 5 v l.length (recCells l)) (hb : Below W.heap.size W wr) (hk : k < l.length) :
    ∃ g cap, v = .slice (some ⟨g, 0, none⟩) l.length cap ∧ l.length ≤ cap ∧ wr.cell? ⟨g, k * 5, none⟩ = some l[k].v0 ∧ wr.cell? ⟨g, k * 5 + 1, none⟩ = some l[k].v1 ∧ wr.cell? ⟨g, k * 5 + 2, none⟩ = some l[k].v2 ∧ wr.cell? ⟨g, k * 5 + 3, none⟩ = some l[k].v3 ∧ wr.cell? ⟨g, k * 5 + 4, none⟩ = some (.int .i64 l[k].m) := by
  rcases h.2 with ⟨_, h2⟩ | ⟨g, cap, cur, hv, _, hg, hn, _⟩
  · omega
  · obtain ⟨a0, a1, a2, a3, a4⟩ := recCells_get l k hk
    have hlt := heap_lt hg
    have one : ∀ j u, (recCells l)[j]? = some u → wr.cell? ⟨g, j, none⟩ = some u := fun j u hu => by
      have := h.cells (show v.ownBlock = some g by rw [hv]; rfl) j u hu
      rw [addr_add] at this
      rw [hb.cell (p := ⟨g, j, none⟩) hlt]; exact this
    exact ⟨g, cap, hv, hn, one _ _ a0, one _ _ a1, one _ _ a2, one _ _ a3, one _ _ a4⟩
theorem slice_len {W : World} {base : Nat} {e : TypeId} {v : Value} {n : Nat} {xs : List Value} (h : W.ownsRow base e 5 v n xs) : ∃ q c, v = .slice q n c := own_slice h

set_option maxRecDepth 100000 in
set_option maxHeartbeats 6400000 in
theorem looks_any (b : Bk) (wb : Nat) (W : World) (h : BookAt W wb b) (hc : b.cnt ≤ 16777216) :
    Calls Tryz.prog 9 #[.pointer (some ⟨wb, 2, none⟩)] W fun e W' => e = .returned (.bool true) ∧ Below W.heap.size W W' := by
  have HB := hide h
  have hcB : b.B.length ≤ 16777216 := by unfold Bk.cnt at hc; omega
  have hcI : b.I.length ≤ 16777216 := by unfold Bk.cnt at hc; omega
  have hcN : b.N.length ≤ 16777216 := by unfold Bk.cnt at hc; omega
  have hwlt : wb < W.heap.size := heap_lt h.blk
  have C2 := hide (show W.cell? ⟨wb, 2, none⟩ = some b.vb from cell_of_heap h.blk)
  have C3 := hide (show W.cell? ⟨wb, 3, none⟩ = some b.vi from cell_of_heap h.blk)
  have C4 := hide (show W.cell? ⟨wb, 4, none⟩ = some b.vn from cell_of_heap h.blk)
  have C5 := hide (show W.cell? ⟨wb, 5, none⟩ = some (.slice none 0 0) from cell_of_heap h.blk)
  have C6 := hide (show W.cell? ⟨wb, 6, none⟩ = some (.slice none 0 0) from cell_of_heap h.blk)
  clear h hc
  go_enter Tryz.func9, Tryz.ntmps9
  go_wp2_with fail
  go_loopw [3, 4] (fun ok i wr => ∃ k : Nat, k ≤ b.B.length ∧ ok = .bool true ∧ i = .int .i64 k ∧ Below W.heap.size W wr) (fun _ i _ => b.B.length - (intOf i).toNat)
  case atStart => exact ⟨0, Nat.zero_le _, rfl, rfl, Below.refl _ _⟩
  case round =>
    rename World => WR
    obtain ⟨k, hk, rfl, rfl, hbe⟩ := hrel
    have BE := hide hbe
    have c2 := (hbe.cell (p := ⟨wb, 2, none⟩) hwlt).trans (unhide C2)
    clear hbe
    by_cases hlt : k < b.B.length
    · obtain ⟨g, cap, hv, hcap, d0, d1, d2, d3, d4⟩ := row_rec (unhide HB).ob (unhide BE) hlt
      have hr := (unhide HB).lb b.B[k] (List.getElem_mem _)
      rw [hv] at c2
      obtain ⟨r, hR⟩ : ∃ r, b.B[k] = r := ⟨_, rfl⟩
      rw [hR] at d0 d1 d2 d3 d4 hr
      have HR := hide hr
      obtain ⟨p0, k0, e0⟩ := hr.m0.1.rep
      obtain ⟨p1, k1, e1⟩ := hr.m1.1.rep
      obtain ⟨p2, k2, e2⟩ := hr.m2.1.rep
      obtain ⟨p3, k3, e3⟩ := hr.m3.1.rep
      rw [e0] at d0
      rw [e1] at d1
      rw [e2] at d2
      rw [e3] at d3
      have E0 := hide e0
      have E1 := hide e1
      have E2 := hide e2
      have E3 := hide e3
      clear hr hR hv e0 e1 e2 e3
      go_wp2_with fail
      refine (Bytes_still_any r.n (r.n + 1) (r.n + 2) (r.n + 3) r.m _ _ _ _ _ (unhide HR).mb (by rw [← unhide E0]; exact (unhide HR).m0.1.below (unhide BE)) (by rw [← unhide E1]; exact (unhide HR).m1.1.below (unhide BE)) (by rw [← unhide E2]; exact (unhide HR).m2.1.below (unhide BE)) (by rw [← unhide E3]; exact (unhide HR).m3.1.below (unhide BE))).mono ?_
      rintro e w1 ⟨rfl, hb1⟩
      have B1 := hide ((unhide BE).trans (hb1.mono (unhide BE).size))
      clear hb1
      go_wp2_with fail
      exact ⟨⟨k + 1, by omega, rfl, by go_num, unhide B1⟩, by simp [intOf]; omega⟩
    · obtain ⟨qq, cc, hvv⟩ := own_slice (unhide HB).ob
      rw [hvv] at c2
      clear hvv
      have BE0 := BE
      clear BE
      go_wp2_with fail
      go_loopw [3, 6] (fun ok i wr => ∃ k : Nat, k ≤ b.I.length ∧ ok = .bool true ∧ i = .int .i64 k ∧ Below W.heap.size W wr) (fun _ i _ => b.I.length - (intOf i).toNat)
      case atStart => exact ⟨0, Nat.zero_le _, rfl, rfl, unhide BE0⟩
      case round =>
        rename World => WR
        obtain ⟨k, hk, rfl, rfl, hbe⟩ := hrel
        have BE := hide hbe
        have c2 := (hbe.cell (p := ⟨wb, 3, none⟩) hwlt).trans (unhide C3)
        clear hbe
        by_cases hlt : k < b.I.length
        · obtain ⟨g, cap, hv, hcap, d0, d1, d2, d3, d4⟩ := row_rec (unhide HB).oi (unhide BE) hlt
          have hr := (unhide HB).li b.I[k] (List.getElem_mem _)
          rw [hv] at c2
          obtain ⟨r, hR⟩ : ∃ r, b.I[k] = r := ⟨_, rfl⟩
          rw [hR] at d0 d1 d2 d3 d4 hr
          have HR := hide hr
          obtain ⟨p0, k0, e0⟩ := hr.m0.1.rep
          obtain ⟨p1, k1, e1⟩ := hr.m1.1.rep
          obtain ⟨p2, k2, e2⟩ := hr.m2.1.rep
          obtain ⟨p3, k3, e3⟩ := hr.m3.1.rep
          rw [e0] at d0
          rw [e1] at d1
          rw [e2] at d2
          rw [e3] at d3
          have E0 := hide e0
          have E1 := hide e1
          have E2 := hide e2
          have E3 := hide e3
          clear hr hR hv e0 e1 e2 e3
          go_wp2_with fail
          refine (Ints_still_any r.n (r.n + 1) (r.n + 2) (r.n + 3) r.m _ _ _ _ _ (unhide HR).mb (by rw [← unhide E0]; exact (unhide HR).m0.1.below (unhide BE)) (by rw [← unhide E1]; exact (unhide HR).m1.1.below (unhide BE)) (by rw [← unhide E2]; exact (unhide HR).m2.1.below (unhide BE)) (by rw [← unhide E3]; exact (unhide HR).m3.1.below (unhide BE))).mono ?_
          rintro e w1 ⟨rfl, hb1⟩
          have B1 := hide ((unhide BE).trans (hb1.mono (unhide BE).size))
          clear hb1
          go_wp2_with fail
          exact ⟨⟨k + 1, by omega, rfl, by go_num, unhide B1⟩, by simp [intOf]; omega⟩
        · obtain ⟨qq, cc, hvv⟩ := own_slice (unhide HB).oi
          rw [hvv] at c2
          clear hvv
          have BE0 := BE
          clear BE
          go_wp2_with fail
          go_loopw [3, 8] (fun ok i wr => ∃ k : Nat, k ≤ b.N.length ∧ ok = .bool true ∧ i = .int .i64 k ∧ Below W.heap.size W wr) (fun _ i _ => b.N.length - (intOf i).toNat)
          case atStart => exact ⟨0, Nat.zero_le _, rfl, rfl, unhide BE0⟩
          case round =>
            rename World => WR
            obtain ⟨k, hk, rfl, rfl, hbe⟩ := hrel
            have BE := hide hbe
            have c2 := (hbe.cell (p := ⟨wb, 4, none⟩) hwlt).trans (unhide C4)
            clear hbe
            by_cases hlt : k < b.N.length
            · obtain ⟨g, cap, hv, hcap, d0, d1, d2, d3, d4⟩ := row_rec (unhide HB).on (unhide BE) hlt
              have hr := (unhide HB).ln b.N[k] (List.getElem_mem _)
              rw [hv] at c2
              obtain ⟨r, hR⟩ : ∃ r, b.N[k] = r := ⟨_, rfl⟩
              rw [hR] at d0 d1 d2 d3 d4 hr
              have HR := hide hr
              obtain ⟨p0, k0, e0⟩ := hr.m0.1.rep
              obtain ⟨p1, k1, e1⟩ := hr.m1.1.rep
              obtain ⟨p2, k2, e2⟩ := hr.m2.1.rep
              obtain ⟨p3, k3, e3⟩ := hr.m3.1.rep
              rw [e0] at d0
              rw [e1] at d1
              rw [e2] at d2
              rw [e3] at d3
              have E0 := hide e0
              have E1 := hide e1
              have E2 := hide e2
              have E3 := hide e3
              clear hr hR hv e0 e1 e2 e3
              go_wp2_with fail
              refine (Nets_still_any r.n (r.n + 1) (r.n + 2) (r.n + 3) r.m _ _ _ _ _ (unhide HR).mb (by rw [← unhide E0]; exact (unhide HR).m0.1.below (unhide BE)) (by rw [← unhide E1]; exact (unhide HR).m1.1.below (unhide BE)) (by rw [← unhide E2]; exact (unhide HR).m2.1.below (unhide BE)) (by rw [← unhide E3]; exact (unhide HR).m3.1.below (unhide BE))).mono ?_
              rintro e w1 ⟨rfl, hb1⟩
              have B1 := hide ((unhide BE).trans (hb1.mono (unhide BE).size))
              clear hb1
              go_wp2_with fail
              exact ⟨⟨k + 1, by omega, rfl, by go_num, unhide B1⟩, by simp [intOf]; omega⟩
            · obtain ⟨qq, cc, hvv⟩ := own_slice (unhide HB).on
              rw [hvv] at c2
              clear hvv
              have BE0 := BE
              clear BE
              go_wp2_with fail
              go_loopw [3, 10] (fun ok i wr => ok = .bool true ∧ i = .int .i64 0 ∧ Below W.heap.size W wr) (fun _ _ _ => 0)
              case atStart => exact ⟨rfl, rfl, unhide BE0⟩
              case round =>
                rename World => WR
                obtain ⟨rfl, rfl, hbe⟩ := hrel
                have BE := hide hbe
                have c5 := (hbe.cell (p := ⟨wb, 5, none⟩) hwlt).trans (unhide C5)
                clear hbe BE0
                go_wp2_with fail
                go_loopw [3, 12] (fun ok i wr => ok = .bool true ∧ i = .int .i64 0 ∧ Below W.heap.size W wr) (fun _ _ _ => 0)
                case atStart => exact ⟨rfl, rfl, unhide BE⟩
                case round =>
                  rename World => WR2
                  obtain ⟨rfl, rfl, hbe⟩ := hrel
                  have BE2 := hide hbe
                  have c6 := (hbe.cell (p := ⟨wb, 6, none⟩) hwlt).trans (unhide C6)
                  clear hbe
                  go_wp2
                  go_ret
                  exact ⟨rfl, unhide BE2⟩
end Go.Proofs.YtgdeeodifnegiaaGreatDoor
