/- The reference's Decode (package bywayref): the message of some bytes, or what is wrong with them, as DecC says. -/
import Derived.Test.YtgngdklkoilaiaaGreatDoorWireL
import Derived.Test.YtgngdklkoilaiaaGreatDoorMsgU
namespace Go.Proofs.YtgngdklkoilaiaaGreatDoor
open Go.RowKit

theorem OwnA.cell {w : World} {base : Nat} {q : Option Addr} {c : Nat} {l : List (Int × Int × Value)} (h : OwnA w base (.slice q l.length c) l) {k : Nat} (hk : k < l.length) :
    ∃ g, q = some ⟨g, 0, none⟩ ∧ g < w.heap.size ∧ ∀ j, (hj : j < l.length) → w.cell? ⟨g, j * 3, none⟩ = some (.int .i64 l[j].1) ∧ w.cell? ⟨g, j * 3 + 1, none⟩ = some (.int .i64 l[j].2.1) ∧ w.cell? ⟨g, j * 3 + 2, none⟩ = some l[j].2.2 := by
  have get : ∀ (l : List (Int × Int × Value)) (j : Nat) (hj : j < l.length), (attCells l)[j * 3]? = some (.int .i64 l[j].1) ∧ (attCells l)[j * 3 + 1]? = some (.int .i64 l[j].2.1) ∧ (attCells l)[j * 3 + 2]? = some l[j].2.2 := by
    intro l
    induction l with
    | nil => intro j hj; simp at hj
    | cons a l ih =>
      intro j hj
      have e : attCells (a :: l) = .int .i64 a.1 :: .int .i64 a.2.1 :: a.2.2 :: attCells l := rfl
      cases j with
      | zero => exact ⟨rfl, rfl, rfl⟩
      | succ j =>
        have := ih j (by simpa using hj)
        rw [e, show (j + 1) * 3 = j * 3 + 1 + 1 + 1 by omega]
        simpa using this
  rcases h.2 with ⟨h1, h2⟩ | ⟨g, cap, cur, hv, hb, hg, _⟩
  · omega
  · simp only [Value.slice.injEq] at hv
    refine ⟨g, hv.1, heap_lt hg, fun j hj => ?_⟩
    obtain ⟨a0, a1, a2⟩ := get l j hj
    have one : ∀ i u, (attCells l)[i]? = some u → w.cell? ⟨g, i, none⟩ = some u := fun i u hu => by
      have := h.cells (show (Value.slice q l.length c).ownBlock = some g by rw [hv.1]; rfl) i u hu
      rwa [addr_add] at this
    exact ⟨one _ _ a0, one _ _ a1, one _ _ a2⟩
theorem partsP_len {b g a n : List Int} (h : partsP b = some (g, a, n)) : g.length ≤ b.length ∧ a.length ≤ b.length ∧ n.length ≤ b.length := by
  unfold partsP at h
  split at h
  · cases h
  · split at h
    · cases h
    · split at h
      · cases h
      · simp only [Option.some.injEq, Prod.mk.injEq] at h
        obtain ⟨rfl, rfl, rfl⟩ := h
        simp only [List.length_take, List.length_drop]
        omega
theorem readN_len : ∀ (f : Nat) {b : List Int} {L : List (Int × Int)}, readN f b = some L → L.length ≤ b.length := by
  intro f
  induction f with
  | zero =>
    intro b L h
    cases b with
    | nil => simp only [readN, Option.some.injEq] at h; subst h; simp
    | cons x b => simp [readN] at h
  | succ f ih =>
    intro b L h
    cases b with
    | nil => simp only [readN, Option.some.injEq] at h; subst h; simp
    | cons x b =>
      simp only [readN] at h
      split at h
      · cases h
      · obtain ⟨L', h1, h2⟩ := Option.map_eq_some_iff.1 h
        subst h2
        have := ih h1
        simp only [List.length_drop, List.length_cons] at this ⊢
        omega
/-- the message under way, behind some attributes -/
structure LoopU (D : List (Int × Int × List Int)) (k : Nat) (s : AS) : Prop where
  eq : attsP ⟨msgZ, 0, false, false⟩ D = attsP s (D.drop k)
  last : (k = 0 ∧ s.last = 0) ∨ ∃ h : k - 1 < D.length, 0 < k ∧ s.last = (D[k - 1]).2.1
  path : s.last < 2 → s.u.path = []
  marks : s.last < 8 → s.u.marks = []
theorem LoopU.step {D : List (Int × Int × List Int)} {k : Nat} {s : AS} (h : LoopU D k s) {f n : Int} {v : List Int} (hk : k < D.length) (he : D[k] = (f, n, v)) (hf : f = flagsP n) (hl : ¬ n ≤ s.last) {u : Msg} (hu : into s.u n v = some u) (hn : n = 2 ∨ n = 4 ∨ n = 5 ∨ n = 8) :
    LoopU D (k + 1) ⟨u, n, s.two || n = 2, s.five || n = 5⟩ := by
  have hdr : D.drop k = (f, n, v) :: D.drop (k + 1) := by rw [← he]; exact List.drop_eq_getElem_cons hk
  refine ⟨?_, Or.inr ⟨by simpa using hk, by omega, by simp [he]⟩, ?_, ?_⟩
  · rw [h.eq, hdr, attsP_step hl hf, hu]
  · intro h2
    simp only at h2
    omega
  · intro h8
    simp only at h8 ⊢
    have hm := h.marks (by omega)
    unfold into at hu
    rcases hn with rfl | rfl | rfl | rfl
    · rw [if_pos rfl] at hu
      obtain ⟨p, _, rfl⟩ := Option.map_eq_some_iff.1 hu
      exact hm
    · rw [if_neg (by omega), if_neg (by omega), if_pos rfl] at hu
      split at hu
      · cases hu; exact hm
      · cases hu
    · rw [if_neg (by omega), if_neg (by omega), if_neg (by omega)] at hu
      split at hu
      · cases hu; exact hm
      · cases hu
    · omega
theorem flagsP_known {f n : Int} (hf : f = flagsP n) (h0 : 0 ≤ f) : n = 2 ∨ n = 4 ∨ n = 5 ∨ n = 8 := by
  unfold flagsP at hf
  by_cases h2 : n = 2
  · exact Or.inl h2
  by_cases h5 : n = 5
  · exact Or.inr (Or.inr (Or.inl h5))
  by_cases h4 : n = 4
  · exact Or.inr (Or.inl h4)
  by_cases h8 : n = 8
  · exact Or.inr (Or.inr (Or.inr h8))
  rw [if_neg (by omega), if_neg h4, if_neg h8] at hf
  omega
theorem into_any (f n : Int) (v : Value) (l : List Int) (w0 W : World) (ub : Nat) (qg qn : Option Addr) (ng nn cg cn : Nat) (U : Msg) (hn : n = 2 ∨ n = 4 ∨ n = 5 ∨ n = 8) (hu : ub < w0.heap.size) (hB : BoxU w0 W ub (.slice qg ng cg) (.slice qn nn cn) U)
    (h2 : n = 2 → U.path = []) (h8 : n = 8 → U.marks = []) (hv : BytesAt w0 v l) (hvu : l = [] ∨ v.ownBlock ≠ some ub) (hl : l.length ≤ 255) :
    Calls Tryz.prog 83 #[.agg #[.int .i64 f, .int .i64 n, v], .pointer (some ⟨ub, 0, none⟩)] W (PutD w0 ub (.slice qg ng cg) (.slice qn nn cn) (into U n l)) := by
  rcases hn with rfl | rfl | rfl | rfl
  · exact into_w2 f v l w0 W ub qg qn ng nn cg cn U hu hB (h2 rfl) hv hvu hl
  · exact (into_w45 f 4 v l w0 W ub qg qn ng nn cg cn U (Or.inl rfl) hu hB hv hvu hl).mono (fun e W' h => PutC.toD h hB.fr)
  · exact (into_w45 f 5 v l w0 W ub qg qn ng nn cg cn U (Or.inr rfl) hu hB hv hvu hl).mono (fun e W' h => PutC.toD h hB.fr)
  · exact into_w8 f v l w0 W ub qg qn ng nn cg cn U hu hB (h8 rfl) hv hvu hl

theorem NetsC.split {w w' : World} {l : List Int} {e : Ending} (h : NetsC w l e w') : ∃ q m k ok, e = .returned (.tuple #[.slice q m k, .bool ok]) ∧ ((netsR l = none ∧ ok = false) ∨ ∃ G, netsR l = some G ∧ ok = true ∧ m = G.length ∧ OwnN w' w.heap.size (.slice q m k) G) := by
  obtain ⟨_, h⟩ := h
  cases hn : netsR l with
  | none => rw [hn] at h; exact ⟨none, 0, 0, false, h, Or.inl ⟨rfl, rfl⟩⟩
  | some G =>
    rw [hn] at h
    obtain ⟨v, h1, h2⟩ := h
    obtain ⟨q, c, hv⟩ := own_slice h2
    subst hv
    exact ⟨q, _, c, true, h1, Or.inr ⟨G, rfl, rfl, rfl, h2⟩⟩
theorem AttsC.split {w w' : World} {l : List Int} {e : Ending} (h : AttsC w l e w') : ∃ q m k ok, e = .returned (.tuple #[.slice q m k, .bool ok]) ∧ ((attsR l = none ∧ ok = false) ∨ ∃ A D, attsR l = some D ∧ ok = true ∧ m = A.length ∧ OwnA w' w.heap.size (.slice q m k) A ∧ AttsAt w A D) := by
  obtain ⟨_, h⟩ := h
  cases hn : attsR l with
  | none => rw [hn] at h; exact ⟨none, 0, 0, false, h, Or.inl ⟨rfl, rfl⟩⟩
  | some D =>
    rw [hn] at h
    obtain ⟨v, A, h1, h2, h3⟩ := h
    obtain ⟨q, c, hv⟩ := own_slice h2
    subst hv
    exact ⟨q, _, c, true, h1, Or.inr ⟨A, D, rfl, rfl, rfl, h2, h3⟩⟩

set_option maxRecDepth 100000 in
set_option maxHeartbeats 6400000 in
theorem decode_w (b : List Int) (v : Value) (w : World) (h : BytesAt w v b) (hlen : b.length ≤ 1048576) :
    Calls Tryz.prog 34 #[v] w (DecC b w) := by
  have HX := hide h
  have HOK := hide (show bytesOk b from by obtain ⟨_, _, _, _, _, hh, _⟩ := h; exact hh)
  have VLT := hide (show b = [] ∨ ∀ k, v.ownBlock = some k → k < w.heap.size from by
    obtain ⟨p, c, rfl, _, _, _, hr⟩ := h
    rcases hr with h | ⟨bb, o, rfl, hb, _⟩
    · exact Or.inl h.1
    · exact Or.inr (fun k hk => by have : bb = k := by simpa [Value.ownBlock] using hk
                                   omega))
  clear h
  obtain ⟨wR, hwR⟩ : ∃ wR, w.alloc (.cells #[.slice none 0 0, .slice none 0 0, .slice none 0 0, .slice none 0 0, .int .i64 0, .int .i64 0] 27) = wR := ⟨_, rfl⟩
  have QR := hide (heap_alloc_new w (.cells #[.slice none 0 0, .slice none 0 0, .slice none 0 0, .slice none 0 0, .int .i64 0, .int .i64 0] 27))
  have BR := hide ((Below.refl w.heap.size w).alloc (Nat.le_refl _) (.cells #[.slice none 0 0, .slice none 0 0, .slice none 0 0, .slice none 0 0, .int .i64 0, .int .i64 0] 27))
  have sR : wR.heap.size = w.heap.size + 1 := by rw [← hwR]; simp
  rw [hwR] at QR BR
  obtain ⟨wU, hwU⟩ : ∃ wU, wR.alloc (.cells #[.slice none 0 0, .slice none 0 0, .slice none 0 0, .slice none 0 0, .int .i64 0, .int .i64 0] 27) = wU := ⟨_, rfl⟩
  have QU := hide (heap_alloc_new wR (.cells #[.slice none 0 0, .slice none 0 0, .slice none 0 0, .slice none 0 0, .int .i64 0, .int .i64 0] 27))
  have BU := hide ((Below.refl wR.heap.size wR).alloc (Nat.le_refl _) (.cells #[.slice none 0 0, .slice none 0 0, .slice none 0 0, .slice none 0 0, .int .i64 0, .int .i64 0] 27))
  rw [hwU, sR] at QU
  rw [hwU] at BU
  have QR2 := hide (((unhide BU).block _ (heap_lt (unhide QR))).trans (unhide QR))
  have B2 := hide ((unhide BR).trans ((unhide BU).mono (unhide BR).size))
  have lR : w.heap.size < wU.heap.size := heap_lt (unhide QR2)
  have lU : w.heap.size + 1 < wU.heap.size := heap_lt (unhide QU)
  have HWR := hide hwR
  have HWU := hide hwU
  clear hwR hwU sR QR BR BU
  go_enter Tryz.func34, Tryz.ntmps34
  go_wp2_with fail
  rw [unhide HWR, unhide HWU]
  refine (parts_w b _ wU ((unhide HX).below (unhide B2)) hlen).mono ?_
  rintro e w1 ⟨hb1, hm⟩
  have qr := (hb1.block _ lR).trans (unhide QR2)
  have qu := (hb1.block _ lU).trans (unhide QU)
  have BW1 := hide ((unhide B2).trans (hb1.mono (unhide B2).size))
  have BU1 := hide hb1
  have lR1 : w.heap.size < w1.heap.size := heap_lt qr
  have lU1 : w.heap.size + 1 < w1.heap.size := heap_lt qu
  have HQR := hide qr
  have HQU := hide qu
  obtain ⟨r0, r1, r2, r3, r4, r5⟩ := six_cells qr
  have hf : ∀ o, w1.frozen? ⟨w.heap.size, o, none⟩ = false := fun o => frozen_of_heap qr
  have l1 := hb1.size
  clear qr qu hb1
  cases hp : partsP b with
  | none =>
    rw [hp] at hm
    simp only at hm
    subst hm
    have HE := hide (decP_short hp)
    clear hp
    go_wp2
    refine bodyPost_ret (v := .tuple #[.agg #[.slice none 0 0, .slice none 0 0, .slice none 0 0, .slice none 0 0, .int .i64 0, .int .i64 0], .int .i64 6]) (by simp [results, Tryz.results34, go_sem, r0, r1, r2, r3, r4, r5]) rfl ?_
    exact DecC.err (unhide HE) (below_six6 (unhide BW1) (Nat.le_refl _) _ _ _ _ _ _)
  | some gan =>
    obtain ⟨gb, ab, nb⟩ := gan
    rw [hp] at hm
    simp only at hm
    obtain ⟨vg, va, vn, rfl, hg, ha, hn⟩ := hm
    obtain ⟨g1, a1, n1⟩ := partsP_len hp
    have HP := hide hp
    have HG := hide (hg.below (unhide BU1))
    have HA := hide (ha.below (unhide BU1))
    have HNN := hide (hn.below (unhide BU1))
    obtain ⟨pg, cg, rfl, -⟩ := hg
    obtain ⟨pa, ca, rfl, -⟩ := ha
    obtain ⟨pn, cn, rfl, -⟩ := hn
    clear hp r0 r1 r2 r3 r4 r5 hf
    go_wp2_with fail
    refine (readNets_w gb _ w1 (unhide HG) (by omega)).mono ?_
    rintro e w2 hC2
    obtain ⟨q1, m1, k1, ok1, rfl, hc1⟩ := hC2.split
    have B12 := hide hC2.1
    have C1 := hide hc1
    have s12 := hC2.1.size
    clear hC2 hc1
    go_wp2_with fail
    refine (attrs_w ab _ w2 ((unhide HA).below (unhide B12)) (by omega)).mono ?_
    rintro e w3 hC3
    obtain ⟨q2, m2, k2, ok2, rfl, hc2⟩ := hC3.split
    have B23 := hide hC3.1
    have C2 := hide hc2
    have s23 := hC3.1.size
    clear hC3 hc2
    go_wp2_with fail
    refine (readNets_w nb _ w3 (((unhide HNN).below (unhide B12)).below (unhide B23)) (by omega)).mono ?_
    rintro e w4 hC4
    obtain ⟨q3, m3, k3, ok3, rfl, hc3⟩ := hC4.split
    have B34 := hide hC4.1
    have C3 := hide hc3
    have s34 := hC4.1.size
    clear hC4 hc3
    have B14 := hide ((unhide B12).trans (((unhide B23).trans ((unhide B34).mono s23)).mono s12))
    have BW4 := hide ((unhide BW1).trans ((unhide B14).mono (unhide BW1).size))
    have qr := ((unhide B14).block _ lR1).trans (unhide HQR)
    have qu := ((unhide B14).block _ lU1).trans (unhide HQU)
    have HQR4 := hide qr
    have HQU4 := hide qu
    have lR4 : w.heap.size < w4.heap.size := heap_lt qr
    have lU4 : w.heap.size + 1 < w4.heap.size := heap_lt qu
    obtain ⟨r0, r1, r2, r3, r4, r5⟩ := six_cells qr
    have hf : ∀ o, w4.frozen? ⟨w.heap.size, o, none⟩ = false := fun o => frozen_of_heap qr
    clear qr qu
    by_cases hbad : ok1 = false ∨ ok2 = false ∨ ok3 = false
    · have HE := hide (show decP b = .error 6 from by
        rw [decP_parts (unhide HP)]
        rcases unhide C1 with ⟨e1, _⟩ | ⟨G, e1, o1, _⟩
        · rw [e1]
        · rcases unhide C2 with ⟨e2, _⟩ | ⟨A, D, e2, o2, _⟩
          · rw [e1, e2]
          · rcases unhide C3 with ⟨e3, _⟩ | ⟨T, e3, o3, _⟩
            · rw [e1, e2, e3]
            · rw [o1, o2, o3] at hbad; simp at hbad)
      cases ok1 with
      | false =>
        clear hbad
        go_wp2
        refine bodyPost_ret (v := .tuple #[.agg #[.slice none 0 0, .slice none 0 0, .slice none 0 0, .slice none 0 0, .int .i64 0, .int .i64 0], .int .i64 6]) (by simp [results, Tryz.results34, go_sem, r0, r1, r2, r3, r4, r5]) rfl ?_
        exact DecC.err (unhide HE) (below_six6 (unhide BW4) (Nat.le_refl _) _ _ _ _ _ _)
      | true =>
        cases ok2 with
        | false =>
          clear hbad
          go_wp2
          refine bodyPost_ret (v := .tuple #[.agg #[.slice none 0 0, .slice none 0 0, .slice none 0 0, .slice none 0 0, .int .i64 0, .int .i64 0], .int .i64 6]) (by simp [results, Tryz.results34, go_sem, r0, r1, r2, r3, r4, r5]) rfl ?_
          exact DecC.err (unhide HE) (below_six6 (unhide BW4) (Nat.le_refl _) _ _ _ _ _ _)
        | true =>
          cases ok3 with
          | false =>
            clear hbad
            go_wp2
            refine bodyPost_ret (v := .tuple #[.agg #[.slice none 0 0, .slice none 0 0, .slice none 0 0, .slice none 0 0, .int .i64 0, .int .i64 0], .int .i64 6]) (by simp [results, Tryz.results34, go_sem, r0, r1, r2, r3, r4, r5]) rfl ?_
            exact DecC.err (unhide HE) (below_six6 (unhide BW4) (Nat.le_refl _) _ _ _ _ _ _)
          | true => simp at hbad
    · have o1 : ok1 = true := by cases ok1 <;> simp_all
      have o2 : ok2 = true := by cases ok2 <;> simp_all
      have o3 : ok3 = true := by cases ok3 <;> simp_all
      subst o1 o2 o3
      rcases unhide C1 with ⟨_, e1⟩ | ⟨G, hG, _, rfl, og⟩
      · cases e1
      rcases unhide C2 with ⟨_, e1⟩ | ⟨A, D, hD, _, rfl, oa, aa⟩
      · cases e1
      rcases unhide C3 with ⟨_, e1⟩ | ⟨T, hT, _, rfl, ot⟩
      · cases e1
      have HSP := hide (show splitP b = some (G, D, T) from by unfold splitP; rw [unhide HP]; simp only [Option.bind_some]; rw [hG, hD, hT])
      have HDP := hide (decP_split (unhide HSP))
      have HIN := hide (splitP_in (unhide HOK) (unhide HSP))
      have hGl := Nat.le_trans (readN_len _ hG) g1
      have hTl := Nat.le_trans (readN_len _ hT) n1
      have hAl : A.length ≤ 65535 := by have h1 := aa.len; have h2 := (unhide HIN).2.2.2; omega
      have OG := hide ((og.nextW (unhide B23)).nextW (unhide B34))
      have OA := hide (show OwnA w4 w2.heap.size (.slice q2 A.length k2) A from owns_of oa (fun k hk => (unhide B34).block k (oa.lt k hk).2))
      have OT := hide ot
      have AA := hide ((aa.below (unhide B23)).below (unhide B34))
      have AL := hide aa.len
      have GLT := hide og.lt
      have TLT := hide ot.lt
      have ALT := hide oa.lt
      have BX := hide (show BoxU w4 w4 (w.heap.size + 1) (.slice none 0 0) (.slice none 0 0) msgZ from ⟨⟨_, _, unhide HQU4, World.ownsRow_nil _ _ _ _, World.ownsRow_nil _ _ _ _, apart_nil _⟩, Fr.refl _ _⟩)
      clear hbad hG hD hT og oa ot aa C1 C2 C3 HP HG HA HNN r0 r1 r2 r3 r4 r5 hf
      go_wp2_with fail
      go_loopw [15, 16, 17] (fun v2 v5 i wr => ∃ (k : Nat) (s : AS), k ≤ A.length ∧ v2 = .bool s.two ∧ v5 = .bool s.five ∧ i = .int .i64 k ∧ LoopU D k s ∧ BoxU w4 wr (w.heap.size + 1) (.slice none 0 0) (.slice none 0 0) s.u) (fun _ _ i _ => A.length - (intOf i).toNat)
      case atStart => exact ⟨0, ⟨msgZ, 0, false, false⟩, Nat.zero_le _, rfl, rfl, rfl, ⟨rfl, Or.inl ⟨rfl, rfl⟩, fun _ => rfl, fun _ => rfl⟩, unhide BX⟩
      case round =>
        rename World => WR
        obtain ⟨k, s, hk, rfl, rfl, rfl, hlu, hbx⟩ := hrel
        have LU := hide hlu
        have BX1 := hide hbx
        have FR := hide hbx.fr
        have qr := (hbx.fr.block w.heap.size lR4 (by omega)).trans (unhide HQR4)
        have HQRW := hide qr
        have lRW : w.heap.size < WR.heap.size := heap_lt qr
        have sW := hbx.fr.size
        clear hlu hbx
        by_cases hlt : k < A.length
        · obtain ⟨ga, hqa, hga, hca⟩ := (unhide OA).cell hlt
          subst hqa
          have hltD : k < D.length := by rw [← unhide AL]; exact hlt
          have hgau : ga ≠ w.heap.size + 1 := by have := ((unhide ALT) ga rfl).1; omega
          have hblk := (unhide FR).block ga hga hgau
          have hcW : ∀ j, (hj : j < A.length) → WR.cell? ⟨ga, j * 3, none⟩ = some (.int .i64 A[j].1) ∧ WR.cell? ⟨ga, j * 3 + 1, none⟩ = some (.int .i64 A[j].2.1) ∧ WR.cell? ⟨ga, j * 3 + 2, none⟩ = some A[j].2.2 := fun j hj => by
            rw [World.cell?_of_block (w := w4) (a := ⟨ga, j * 3, none⟩) hblk, World.cell?_of_block (w := w4) (a := ⟨ga, j * 3 + 1, none⟩) hblk, World.cell?_of_block (w := w4) (a := ⟨ga, j * 3 + 2, none⟩) hblk]
            exact hca j hj
          obtain ⟨e1, e2, hby⟩ := (unhide AA).get k hlt hltD
          have hck := hcW k hlt
          rw [e1, e2] at hck
          obtain ⟨⟨f0, f1⟩, ⟨n0, n1'⟩, hvl, hvo⟩ := (unhide HIN).2.2.1 D[k] (List.getElem_mem _)
          obtain ⟨q5, k5, hv5⟩ : ∃ q5 k5, A[k].2.2 = .slice q5 D[k].2.2.length k5 := by
            obtain ⟨p, c, hv, _⟩ := hby; exact ⟨p, c, hv⟩
          rw [hv5] at hck hby
          obtain ⟨c0, c1, c2⟩ := hck
          have HCW := hide hcW
          clear hca hblk hv5 e1 e2 hcW
          obtain ⟨X, hX⟩ : ∃ X, D[k] = X := ⟨_, rfl⟩
          rw [hX] at f0 f1 n0 n1' hvl hvo c0 c1 c2 hby
          obtain ⟨f, n, Y⟩ := X
          simp only at f0 f1 n0 n1' hvl hvo c0 c1 c2 hby
          have HBY := hide hby
          have HX' := hide hX
          have HYU := hide (show Y = [] ∨ (Value.slice q5 Y.length k5).ownBlock ≠ some (w.heap.size + 1) from by
            obtain ⟨p, c, hpc, _, _, _, hr⟩ := hby
            rcases hr with h | ⟨bb, oo, hp, hb, hcc⟩
            · exact Or.inl h.1
            · by_cases hY0 : Y = []
              · exact Or.inl hY0
              · right
                intro e
                rw [hpc, hp] at e
                have e2 : bb = w.heap.size + 1 := by simpa [Value.ownBlock] using e
                subst e2
                have hc0 := hcc 0 (List.length_pos_iff.2 hY0)
                rw [cell_of_heap (unhide HQU4)] at hc0
                rcases Nat.lt_or_ge (oo + 0) 6 with h6 | h6
                · have : oo = 0 ∨ oo = 1 ∨ oo = 2 ∨ oo = 3 ∨ oo = 4 ∨ oo = 5 := by omega
                  rcases this with rfl | rfl | rfl | rfl | rfl | rfl <;> simp at hc0
                · rw [Array.getElem?_eq_none (by simpa using h6)] at hc0; cases hc0)
          clear hby hX
          go_upto_region 15 with fail
          go_cut [90] (fun c90 wc => c90 = .bool (decide (f ≠ flagsP n ∨ n ≤ s.last)) ∧ ∃ j, wc = WR.drewN j)
          case first =>
            by_cases hff : f = flagsP n
            · have hff' : (f != flagsP n) = false := by rw [bne_eq_false_iff_eq]; exact hff
              rcases (unhide LU).last with ⟨hk0, hl0⟩ | ⟨hk1, hkp, hl1⟩
              · subst hk0
                have hpos : ¬ n ≤ s.last := by rw [hl0]; have := flagsP_known hff f0; omega
                have HD := hide (show decide (f ≠ flagsP n ∨ n ≤ s.last) = false from decide_eq_false (fun h => h.elim (fun h => h hff) hpos))
                clear hpos hl0 hff
                go_quiet ((go_at_call 82; exact Calls.quiet_of_same (flags_w n _)))
                go_wp2
                go_meet
                exact ⟨by rw [unhide HD], nq, rfl⟩
              · have hk1A : k - 1 < A.length := by omega
                obtain ⟨d0, d1, d2⟩ := unhide HCW (k - 1) hk1A
                obtain ⟨e3, e4, _⟩ := (unhide AA).get (k - 1) hk1A hk1
                rw [e4, ← hl1] at d1
                have hg0 : (0 : Int) < (k : Int) := by omega
                have hin1 : ((k : Int) - 1).toNat = k - 1 := by omega
                have HFF := hide hff
                clear hl1 e3 e4 d0 d2 hff
                by_cases hnl : n ≤ s.last
                · have HD := hide (show decide (f ≠ flagsP n ∨ n ≤ s.last) = true from decide_eq_true (Or.inr hnl))
                  go_quiet ((go_at_call 82; exact Calls.quiet_of_same (flags_w n _)))
                  go_wp2
                  go_meet
                  exact ⟨by rw [unhide HD], nq, rfl⟩
                · have HD := hide (show decide (f ≠ flagsP n ∨ n ≤ s.last) = false from decide_eq_false (fun h => h.elim (fun h => h (unhide HFF)) hnl))
                  go_quiet ((go_at_call 82; exact Calls.quiet_of_same (flags_w n _)))
                  go_wp2
                  go_meet
                  exact ⟨by rw [unhide HD], nq, rfl⟩
            · have hff' : (f != flagsP n) = true := by rw [bne_iff_ne]; exact hff
              have HD := hide (show decide (f ≠ flagsP n ∨ n ≤ s.last) = true from decide_eq_true (Or.inl hff))
              clear hff
              go_quiet ((go_at_call 82; exact Calls.quiet_of_same (flags_w n _)))
              go_wp2
              go_meet
              exact ⟨by rw [unhide HD], nq, rfl⟩
          case rest =>
            obtain ⟨hc90, j, hwc⟩ := hcut
            have bD : Below WR.heap.size WR wc := by rw [hwc]; exact below_drewN (Below.refl _ _) _
            have hsz : wc.heap.size = WR.heap.size := by rw [hwc]; rfl
            have e0 := (bD.cell (p := ⟨ga, k * 3, none⟩) (by show ga < _; omega)).trans c0
            have e1 := (bD.cell (p := ⟨ga, k * 3 + 1, none⟩) (by show ga < _; omega)).trans c1
            have e2 := (bD.cell (p := ⟨ga, k * 3 + 2, none⟩) (by show ga < _; omega)).trans c2
            have qr' := (bD.block _ lRW).trans (unhide HQRW)
            have BX2 := hide ((unhide BX1).next bD)
            have BWc := hide ((unhide BX2).fr.toBelow (unhide BW4) (by omega))
            have HC90 := hide hc90
            have HQC := hide qr'
            have lRc : w.heap.size < wc.heap.size := heap_lt qr'
            clear hwc hc90 c0 c1 c2 bD qr' qr hsz
            by_cases hbad : f ≠ flagsP n ∨ n ≤ s.last
            · rw [unhide HC90, decide_eq_true hbad]
              have HE := hide (show decP b = .error 7 from by
                rw [unhide HDP, (unhide LU).eq, List.drop_eq_getElem_cons hltD, unhide HX']
                simp only [attsP]
                rw [if_pos hbad])
              obtain ⟨r0, r1, r2, r3, r4, r5⟩ := six_cells (unhide HQC)
              have hf : ∀ o, wc.frozen? ⟨w.heap.size, o, none⟩ = false := fun o => frozen_of_heap (unhide HQC)
              clear hbad
              go_wp2
              refine bodyPost_ret (v := .tuple #[.agg #[.slice none 0 0, .slice none 0 0, .slice none 0 0, .slice none 0 0, .int .i64 0, .int .i64 0], .int .i64 7]) (by simp [results, Tryz.results34, go_sem, r0, r1, r2, r3, r4, r5]) rfl ?_
              exact DecC.err (unhide HE) (below_six6 (unhide BWc) (Nat.le_refl _) _ _ _ _ _ _)
            · rw [unhide HC90, decide_eq_false hbad]
              have hff : f = flagsP n := Classical.byContradiction (fun h => hbad (Or.inl h))
              have hnl : ¬ n ≤ s.last := fun h => hbad (Or.inr h)
              have hkn := flagsP_known hff f0
              have HKN := hide hkn
              have HFF := hide hff
              have HNL := hide hnl
              clear hbad hff hnl hkn
              go_wp2_with fail
              refine (into_any f n _ Y w4 wc (w.heap.size + 1) none none 0 0 0 0 s.u (unhide HKN) lU4 (unhide BX2) (fun h => (unhide LU).path (by have := unhide HNL; omega)) (fun h => (unhide LU).marks (by have := unhide HNL; omega)) (unhide HBY) (unhide HYU) hvl).mono ?_
              rintro e w6 ⟨ok, rfl, hfr6, hm6⟩
              have BW6 := hide (hfr6.toBelow (unhide BW4) (by omega))
              have qr6 := (hfr6.block w.heap.size lR4 (by omega)).trans (unhide HQR4)
              have HQ6 := hide qr6
              have hblk6 := hfr6.block ga hga hgau
              have g0 : w6.cell? ⟨ga, k * 3 + 1, none⟩ = some (.int .i64 n) := by
                have h1 := ((unhide FR).block ga hga hgau)
                have h2 := (unhide HCW k hlt).2.1
                obtain ⟨_, e4, _⟩ := (unhide AA).get k hlt hltD
                rw [e4, unhide HX'] at h2
                rw [World.cell?_of_block (w := w4) (a := ⟨ga, k * 3 + 1, none⟩) hblk6, ← World.cell?_of_block (w := w4) (a := ⟨ga, k * 3 + 1, none⟩) h1]
                exact h2
              clear hblk6 qr6 e0 e1 e2
              cases hi : into s.u n Y with
              | none =>
                rw [hi] at hm6
                simp only at hm6
                subst hm6
                have HE := hide (show decP b = .error 8 from by
                  rw [unhide HDP, (unhide LU).eq, List.drop_eq_getElem_cons hltD, unhide HX', attsP_step (by have := unhide HNL; omega) (unhide HFF), hi])
                obtain ⟨r0, r1, r2, r3, r4, r5⟩ := six_cells (unhide HQ6)
                have hf : ∀ o, w6.frozen? ⟨w.heap.size, o, none⟩ = false := fun o => frozen_of_heap (unhide HQ6)
                clear hi
                go_wp2
                refine bodyPost_ret (v := .tuple #[.agg #[.slice none 0 0, .slice none 0 0, .slice none 0 0, .slice none 0 0, .int .i64 0, .int .i64 0], .int .i64 8]) (by simp [results, Tryz.results34, go_sem, r0, r1, r2, r3, r4, r5]) rfl ?_
                exact DecC.err (unhide HE) (below_six6 (unhide BW6) (Nat.le_refl _) _ _ _ _ _ _)
              | some u =>
                rw [hi] at hm6
                simp only at hm6
                obtain ⟨rfl, hbx6⟩ := hm6
                have BX6 := hide hbx6
                have LU6 := hide ((unhide LU).step hltD (unhide HX') (unhide HFF) (by have := unhide HNL; omega) hi (unhide HKN))
                clear hi hbx6 hfr6
                cases h2 : s.two with
                | true =>
                  cases h5 : s.five with
                  | true =>
                    rw [h2, h5] at LU6
                    clear h2 h5
                    go_wp2_with fail
                    exact ⟨⟨k + 1, _, by omega, rfl, rfl, by go_num, unhide LU6, unhide BX6⟩, by simp [intOf]; omega⟩
                  | false =>
                    rw [h2, h5] at LU6
                    clear h2 h5
                    go_wp2_with fail
                    exact ⟨⟨k + 1, _, by omega, rfl, rfl, by go_num, unhide LU6, unhide BX6⟩, by simp [intOf]; omega⟩
                | false =>
                  cases h5 : s.five with
                  | true =>
                    rw [h2, h5] at LU6
                    clear h2 h5
                    go_wp2_with fail
                    exact ⟨⟨k + 1, _, by omega, rfl, rfl, by go_num, unhide LU6, unhide BX6⟩, by simp [intOf]; omega⟩
                  | false =>
                    rw [h2, h5] at LU6
                    clear h2 h5
                    go_wp2_with fail
                    exact ⟨⟨k + 1, _, by omega, rfl, rfl, by go_num, unhide LU6, unhide BX6⟩, by simp [intOf]; omega⟩
        · have hkk : k = D.length := by rw [← unhide AL]; omega
          have HDQ := hide (show decP b = if (T ≠ [] ∧ ¬ (s.two = true ∧ s.five = true)) ∨ (T = [] ∧ D ≠ []) then .error 9 else if netsOk (G ++ T) then .ok { s.u with gone := G, nets := T } else .error 10 from by
            rw [unhide HDP, (unhide LU).eq, List.drop_of_length_le (by omega)]; rfl)
          have BWW := hide ((unhide FR).toBelow (unhide BW4) (by omega))
          obtain ⟨r0, r1, r2, r3, r4, r5⟩ := six_cells qr
          have hf : ∀ o, WR.frozen? ⟨w.heap.size, o, none⟩ = false := fun o => frozen_of_heap qr
          have HAL := hide (show (D ≠ [] ↔ 0 < A.length) from by rw [unhide AL]; exact List.length_pos_iff.symm)
          obtain ⟨tl, htl⟩ : ∃ tl, T.length = tl := ⟨_, rfl⟩
          have HTL := hide htl
          rw [htl] at hTl ⊢
          obtain ⟨al, hal⟩ : ∃ al, A.length = al := ⟨_, rfl⟩
          have HALL := hide hal
          rw [hal] at hAl hlt hk HAL ⊢
          obtain ⟨tw, htw⟩ : ∃ tw, s.two = tw := ⟨_, rfl⟩
          obtain ⟨fv, hfv⟩ : ∃ fv, s.five = fv := ⟨_, rfl⟩
          have HTW := hide htw
          have HFV := hide hfv
          rw [htw, hfv] at HDQ ⊢
          have HT0 := hide (show T = [] ↔ tl = 0 from by rw [← htl]; exact List.length_eq_zero_iff.symm)
          clear htl hal hkk qr htw hfv
          go_upto_region 22 with fail
          go_cut [138] (fun c138 wc => c138 = .bool (decide ((T ≠ [] ∧ ¬ (tw = true ∧ fv = true)) ∨ (T = [] ∧ D ≠ []))) ∧ wc = WR)
          case first =>
            by_cases h0 : tl = 0
            · subst h0
              by_cases hal0 : al = 0
              · subst hal0
                have HD := hide (show decide ((T ≠ [] ∧ ¬ (tw = true ∧ fv = true)) ∨ (T = [] ∧ D ≠ [])) = false from decide_eq_false (fun h => h.elim (fun h => h.1 ((unhide HT0).2 rfl)) (fun h => by have := (unhide HAL).1 h.2; omega)))
                go_wp2
                go_meet
                exact ⟨by rw [unhide HD], rfl⟩
              · have hap : (0 : Int) < al := by omega
                have HD := hide (show decide ((T ≠ [] ∧ ¬ (tw = true ∧ fv = true)) ∨ (T = [] ∧ D ≠ [])) = true from decide_eq_true (Or.inr ⟨(unhide HT0).2 rfl, (unhide HAL).2 (by omega)⟩))
                go_wp2
                go_meet
                exact ⟨by rw [unhide HD, decide_eq_true (by omega : 0 < al)], rfl⟩
            · have htp : (0 : Int) < tl := by omega
              have ht0 : ((tl : Int) == 0) = false := by rw [beq_eq_false_iff_ne]; omega
              have hTn : T ≠ [] := fun h => h0 ((unhide HT0).1 h)
              cases tw with
              | true =>
                cases fv with
                | true =>
                  have HD := hide (show decide ((T ≠ [] ∧ ¬ (true = true ∧ true = true)) ∨ (T = [] ∧ D ≠ [])) = false from decide_eq_false (fun h => h.elim (fun h => h.2 ⟨rfl, rfl⟩) (fun h => hTn h.1)))
                  clear hTn
                  go_wp2
                  go_meet
                  exact ⟨by rw [unhide HD], rfl⟩
                | false =>
                  have HD := hide (show decide ((T ≠ [] ∧ ¬ (true = true ∧ false = true)) ∨ (T = [] ∧ D ≠ [])) = true from decide_eq_true (Or.inl ⟨hTn, fun h => by cases h.2⟩))
                  clear hTn
                  go_wp2
                  go_meet
                  exact ⟨by rw [unhide HD], rfl⟩
              | false =>
                have HD := hide (show decide ((T ≠ [] ∧ ¬ (false = true ∧ fv = true)) ∨ (T = [] ∧ D ≠ [])) = true from decide_eq_true (Or.inl ⟨hTn, fun h => by cases h.1⟩))
                clear hTn
                go_wp2
                go_meet
                exact ⟨by rw [unhide HD], rfl⟩
          case rest =>
            obtain ⟨hc138, hwc⟩ := hcut
            subst hwc
            have HC138 := hide hc138
            clear hc138
            by_cases h9 : (T ≠ [] ∧ ¬ (tw = true ∧ fv = true)) ∨ (T = [] ∧ D ≠ [])
            · rw [unhide HC138, decide_eq_true h9]
              have HE := hide (show decP b = .error 9 from by rw [unhide HDQ, if_pos h9])
              clear h9
              go_wp2
              refine bodyPost_ret (v := .tuple #[.agg #[.slice none 0 0, .slice none 0 0, .slice none 0 0, .slice none 0 0, .int .i64 0, .int .i64 0], .int .i64 9]) (by simp [results, Tryz.results34, go_sem, r0, r1, r2, r3, r4, r5]) rfl ?_
              exact DecC.err (unhide HE) (below_six6 (unhide BWW) (Nat.le_refl _) _ _ _ _ _ _)
            · rw [unhide HC138, decide_eq_false h9]
              have HDR := hide (show decP b = if netsOk (G ++ T) then .ok { s.u with gone := G, nets := T } else .error 10 from by rw [unhide HDQ, if_neg h9])
              have gu : ∀ k, (Value.slice q1 G.length k1).ownBlock = some k → k ≠ w.heap.size + 1 := fun k hk => by have := (unhide GLT k hk).1; omega
              have tu : ∀ k, (Value.slice q3 T.length k3).ownBlock = some k → k ≠ w.heap.size + 1 := fun k hk => by have := (unhide TLT k hk).1; omega
              have OGW := hide (show OwnN wc w1.heap.size (.slice q1 G.length k1) G from (unhide FR).owns (unhide OG) gu)
              have OTW := hide (show OwnN wc w3.heap.size (.slice q3 T.length k3) T from (unhide FR).owns (unhide OT) tu)
              have HGA := hide ((unhide OGW).at_ (fun x hx => (unhide HIN).1 x hx) (by omega))
              have HTA := hide ((unhide OTW).at_ (fun x hx => (unhide HIN).2.1 x hx) (by have := unhide HTL; omega))
              have gl : G.length + T.length ≤ 4194304 := by have := unhide HTL; omega
              rw [unhide HTL] at HTA
              clear h9 gu tu r0 r1 r2 r3 r4 r5 hf
              go_wp2_with fail
              refine (nets_w G T _ _ wc (unhide HGA) (unhide HTA) gl).mono ?_
              rintro e w7 ⟨rfl, hb7⟩
              have B7 := hide hb7
              have BW7 := hide ((unhide BWW).trans (hb7.mono (unhide BWW).size))
              have qr7 := (hb7.block _ lRW).trans (unhide HQRW)
              have BX7 := hide ((unhide BX1).next hb7)
              have s7 := hb7.size
              obtain ⟨r0, r1, r2, r3, r4, r5⟩ := six_cells qr7
              have hf : ∀ o, w7.frozen? ⟨w.heap.size, o, none⟩ = false := fun o => frozen_of_heap qr7
              clear hb7 qr7
              cases hn : netsOkB (G ++ T) with
              | false =>
                have HE := hide (show decP b = .error 10 from by rw [unhide HDR, if_neg (of_decide_eq_false hn)])
                clear hn
                go_wp2
                refine bodyPost_ret (v := .tuple #[.agg #[.slice none 0 0, .slice none 0 0, .slice none 0 0, .slice none 0 0, .int .i64 0, .int .i64 0], .int .i64 10]) (by simp [results, Tryz.results34, go_sem, r0, r1, r2, r3, r4, r5]) rfl ?_
                exact DecC.err (unhide HE) (below_six6 (unhide BW7) (Nat.le_refl _) _ _ _ _ _ _)
              | true =>
                have HE := hide (show decP b = .ok { s.u with gone := G, nets := T } from by rw [unhide HDR, if_pos (of_decide_eq_true hn)])
                obtain ⟨⟨vp, vm, hbk, op, om, apm⟩, -⟩ := unhide BX7
                obtain ⟨u0, u1, u2, u3', u4, u5⟩ := six_cells hbk
                have hfu : ∀ o, w7.frozen? ⟨w.heap.size + 1, o, none⟩ = false := fun o => frozen_of_heap hbk
                obtain ⟨qp, cp, rfl⟩ := own_slice op
                obtain ⟨qm, cm, rfl⟩ := own_slice om
                have OP := hide op
                have OM := hide om
                have APM := hide apm
                have OG7 := hide ((unhide OGW).nextW (unhide B7))
                have OT7 := hide ((unhide OTW).nextW (unhide B7))
                rw [unhide HTL] at OT7 TLT
                clear hn hbk op om apm
                go_wp2
                refine bodyPost_ret (v := .tuple #[.agg #[.slice q1 G.length k1, .slice q3 tl k3, .slice qp s.u.path.length cp, .slice qm s.u.marks.length cm, .int .i64 s.u.pref, .int .i64 s.u.med], .int .i64 0]) (by simp [results, Tryz.results34, go_sem, r0, r1, r2, r3, r4, r5]) rfl ?_
                have d1 : decM b = { s.u with gone := G, nets := T } := by unfold decM; rw [unhide HE]
                have d2 : decE b = 0 := by unfold decE; rw [unhide HE]
                refine ⟨below_six6 (((unhide BW7).setCell (p := ⟨w.heap.size + 1, 0, none⟩) (by simp only; omega) _).setCell (p := ⟨w.heap.size + 1, 1, none⟩) (by simp only; omega) _) (Nat.le_refl _) _ _ _ _ _ _, _, _, _, _, by rw [d1, d2], ?_⟩
                rw [d1]
                have own2 : ∀ {base : Nat} {e : TypeId} {size : Nat} {v : Value} {n : Nat} {xs : List Value}, w7.ownsRow base e size v n xs → w.heap.size + 1 < base → ((w7.setCell ⟨w.heap.size + 1, 0, none⟩ (.slice q1 G.length k1)).setCell ⟨w.heap.size + 1, 1, none⟩ (.slice q3 tl k3)).ownsRow base e size v n xs := fun h hb => ownsRow_setCell_below (ownsRow_setCell_below h hb _) hb _
                refine ⟨OwnN.base (own_six6 (own2 (unhide OG7) lU1) (by omega) _ _ _ _ _ _) (by omega), OwnN.base (own_six6 (own2 (unhide OT7) (by omega)) (by omega) _ _ _ _ _ _) (by omega), OwnI.base (own_six6 (own2 (unhide OP) lU4) (by omega) _ _ _ _ _ _) (by omega), OwnI.base (own_six6 (own2 (unhide OM) lU4) (by omega) _ _ _ _ _ _) (by omega), ?_, ?_, ?_, ?_, ?_, unhide APM⟩
                · intro k h1 h2
                  have := (unhide GLT k h1).2
                  have := (unhide TLT k h2).1
                  omega
                · intro k h1 h2
                  have := (unhide GLT k h1).2
                  have := ((unhide OP).lt k h2).1
                  omega
                · intro k h1 h2
                  have := (unhide GLT k h1).2
                  have := ((unhide OM).lt k h2).1
                  omega
                · intro k h1 h2
                  have := (unhide TLT k h1).2
                  have := ((unhide OP).lt k h2).1
                  omega
                · intro k h1 h2
                  have := (unhide TLT k h1).2
                  have := ((unhide OM).lt k h2).1
                  omega
end Go.Proofs.YtgngdklkoilaiaaGreatDoor
