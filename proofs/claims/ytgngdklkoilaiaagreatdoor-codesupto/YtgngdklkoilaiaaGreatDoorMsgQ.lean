/- The program's split (package messages): what stands in a message's bytes. -/
import Derived.Test.YtgngdklkoilaiaaGreatDoorMsgP
namespace Go.Proofs.YtgngdklkoilaiaaGreatDoor
open Go.RowKit

def splitP (b : List Int) : Option (List (Int × Int) × List (Int × Int × List Int) × List (Int × Int)) :=
  (partsP b).bind fun x => match netsR x.1, attsR x.2.1, netsR x.2.2 with | some G, some D, some T => some (G, D, T) | _, _, _ => none
theorem decP_split_none {b : List Int} (h : splitP b = none) : decP b = .error 6 := by
  unfold splitP at h
  cases hp : partsP b with
  | none => exact decP_short hp
  | some x =>
    obtain ⟨g, a, n⟩ := x
    rw [decP_parts hp]
    rw [hp] at h
    simp only [Option.bind_some] at h
    split at h
    · cases h
    · rename_i hh
      split
      · rename_i a1 a2 a3
        exact (hh _ _ _ a1 a2 a3).elim
      · rfl
theorem decP_split {b : List Int} {G T : List (Int × Int)} {D : List (Int × Int × List Int)} (h : splitP b = some (G, D, T)) : decP b =
    match attsP ⟨msgZ, 0, false, false⟩ D with
    | .error e => .error e
    | .ok s =>
      if (T ≠ [] ∧ ¬ (s.two = true ∧ s.five = true)) ∨ (T = [] ∧ D ≠ []) then .error 9
      else if netsOk (G ++ T) then .ok { s.u with gone := G, nets := T } else .error 10 := by
  unfold splitP at h
  cases hp : partsP b with
  | none => rw [hp] at h; cases h
  | some x =>
    obtain ⟨g, a, n⟩ := x
    rw [decP_parts hp]
    rw [hp] at h
    simp only [Option.bind_some] at h
    split at h
    · rename_i a1 a2 a3
      simp only [Option.some.injEq, Prod.mk.injEq] at h
      obtain ⟨rfl, rfl, rfl⟩ := h
      simp only [a1, a2, a3]
      rfl
    · cases h

/-- what split gives -/
structure SplitC (l : List Int) (w : World) (e : Ending) (w' : World) : Prop where
  be : Below w.heap.size w w'
  ex : ∃ (q1 q2 q3 : Option Addr) (n1 n2 n3 c1 c2 c3 : Nat) (ok : Bool), e = .returned (.tuple #[.agg #[.slice q1 n1 c1, .slice q2 n2 c2, .slice q3 n3 c3], .bool ok]) ∧
    match splitP l with
    | none => ok = false
    | some (G, D, T) => ok = true ∧ OwnN w' w.heap.size (.slice q1 n1 c1) (G.take 21) ∧ OwnN w' w.heap.size (.slice q2 n2 c2) (T.take 21) ∧ Apart (.slice q1 n1 c1) (.slice q2 n2 c2) ∧ ∃ A, OwnU w' w.heap.size (.slice q3 n3 c3) A ∧ AttsAt w A D
theorem cutC_len {l p q : List Int} (h : cutC l = some (p, q)) (hb : bytesOk l) : p.length ≤ 65535 := by
  unfold cutC at h
  split at h
  · cases h
  · rename_i h1
    split at h
    · cases h
    · simp only [Option.some.injEq, Prod.mk.injEq] at h
      have := val2_bd (bytesOk_take hb 2) (by simp; omega)
      rw [← h.1, List.length_take]
      omega

theorem NetsT.form {l : List Int} {w w' : World} {e : Ending} (h : NetsT l w e w') : Below w.heap.size w w' ∧ ∃ (q : Option Addr) (n c : Nat) (ok : Bool), e = .returned (.tuple #[.slice q n c, .bool ok]) ∧
    (match netsR l with | none => ok = false | some L => ok = true ∧ OwnN w' w.heap.size (.slice q n c) (L.take 21)) := by
  obtain ⟨hb, hm⟩ := h
  refine ⟨hb, ?_⟩
  cases hn : netsR l with
  | none => rw [hn] at hm; exact ⟨_, _, _, false, hm, rfl⟩
  | some L =>
    rw [hn] at hm
    obtain ⟨v, rfl, ho⟩ := hm
    obtain ⟨q, c, rfl⟩ := own_slice ho
    exact ⟨_, _, _, true, rfl, rfl, ho⟩
theorem AttsT.form {l : List Int} {wB w w' : World} {e : Ending} (h : AttsT l wB w e w') : Below w.heap.size w w' ∧ ∃ (q : Option Addr) (n c : Nat) (ok : Bool), e = .returned (.tuple #[.slice q n c, .bool ok]) ∧
    (match attsR l with | none => ok = false | some D => ok = true ∧ ∃ A, OwnU w' w.heap.size (.slice q n c) A ∧ AttsAt wB A D) := by
  obtain ⟨hb, hm⟩ := h
  refine ⟨hb, ?_⟩
  cases hn : attsR l with
  | none => rw [hn] at hm; exact ⟨_, _, _, false, hm, rfl⟩
  | some D =>
    rw [hn] at hm
    obtain ⟨v, A, rfl, ho, ha⟩ := hm
    obtain ⟨q, c, rfl⟩ := own_slice ho
    exact ⟨_, _, _, true, rfl, rfl, A, ho, ha⟩
theorem OwnU.base {w : World} {base b2 : Nat} {v : Value} {l : List (Int × Int × Value)} (h : OwnU w base v l) (hb : b2 ≤ base) : OwnU w b2 v l := owns_base h hb
theorem OwnN.base {w : World} {base b2 : Nat} {v : Value} {l : List (Int × Int)} (h : OwnN w base v l) (hb : b2 ≤ base) : OwnN w b2 v l := owns_base h hb
theorem own_three {w : World} {base : Nat} {e : TypeId} {size : Nat} {v : Value} {n : Nat} {xs : List Value} (h : w.ownsRow base e size v n xs) {b : Nat} (hb : b < base) (x0 x1 x2 : Value) :
    (((w.setCell ⟨b, 0, none⟩ x0).setCell ⟨b, 1, none⟩ x1).setCell ⟨b, 2, none⟩ x2).ownsRow base e size v n xs :=
  owns_of h (fun k hk => by
    have hne : k ≠ b := by have := (h.lt k hk).1; omega
    rw [heap_set_other hne, heap_set_other hne, heap_set_other hne])

set_option maxRecDepth 100000 in
set_option maxHeartbeats 3200000 in
theorem split_any (l : List Int) (x : Value) (w : World) (h : BytesAt w x l) :
    Calls Tryz.prog 134 #[x] w (SplitC l w) := by
  have HX := hide h
  have HOK := hide (show bytesOk l from by obtain ⟨_, _, _, _, _, hh, _⟩ := h; exact hh)
  clear h
  have HSP := hide (show splitP l = (cutC l).bind (fun x => ((cutC x.2).map (fun y => (x.1, y.1, y.2))).bind fun x => match netsR x.1, attsR x.2.1, netsR x.2.2 with | some G, some D, some T => some (G, D, T) | _, _, _ => none) from by
    unfold splitP
    rw [partsP_cut, Option.bind_assoc])
  obtain ⟨w0, hw0⟩ : ∃ w0, w.alloc (.cells #[.slice none 0 0, .slice none 0 0, .slice none 0 0] 240) = w0 := ⟨_, rfl⟩
  have Q0 := hide (heap_alloc_new w (.cells #[.slice none 0 0, .slice none 0 0, .slice none 0 0] 240))
  have B0 := hide ((Below.refl w.heap.size w).alloc (Nat.le_refl _) (.cells #[.slice none 0 0, .slice none 0 0, .slice none 0 0] 240))
  rw [hw0] at Q0 B0
  have hl0 : w.heap.size < w0.heap.size := heap_lt (unhide Q0)
  have HW0 := hide hw0
  clear hw0
  go_enter Tryz.func134, Tryz.ntmps134
  go_wp2_with fail
  rw [unhide HW0]
  refine (cutCounted_any l _ w _ (unhide B0) (unhide HX)).mono ?_
  rintro e w1 ⟨hb1, hm⟩
  have B1 := hide ((unhide B0).trans (hb1.mono (unhide B0).size))
  have q1 := (hb1.block _ hl0).trans (unhide Q0)
  have Q1 := hide q1
  have B01 := hide hb1
  clear hb1
  cases hc : cutC l with
  | none =>
    rw [hc] at hm
    have HE := hide (show splitP l = none from by rw [unhide HSP, hc]; rfl)
    subst hm
    clear hc
    have c0 : w1.cell? ⟨w.heap.size, 0, none⟩ = some (.slice none 0 0) := cell_of_heap q1
    have c1 : w1.cell? ⟨w.heap.size, 1, none⟩ = some (.slice none 0 0) := cell_of_heap q1
    have c2 : w1.cell? ⟨w.heap.size, 2, none⟩ = some (.slice none 0 0) := cell_of_heap q1
    have hf : ∀ o, w1.frozen? ⟨w.heap.size, o, none⟩ = false := fun o => frozen_of_heap q1
    clear q1
    go_wp2
    refine bodyPost_ret (v := .tuple #[.agg #[.slice none 0 0, .slice none 0 0, .slice none 0 0], .bool false]) (by simp [results, Tryz.results134, go_sem, c0, c1, c2]) rfl ⟨?_, ?_⟩
    · exact (((unhide B1).setCell (Nat.le_refl _) _).setCell (Nat.le_refl _) _).setCell (Nat.le_refl _) _
    · refine ⟨_, _, _, _, _, _, _, _, _, false, rfl, ?_⟩
      rw [unhide HE]
  | some pq =>
    obtain ⟨g, r⟩ := pq
    rw [hc] at hm
    obtain ⟨vg, vr, rfl, hgb, hrb⟩ := hm
    have HC := hide hc
    have HGB := hide hgb
    have HRB := hide hrb
    clear hc hgb hrb q1
    have hrok : bytesOk r := by obtain ⟨_, _, _, _, _, hh, _⟩ := unhide HRB; exact hh
    have HROK := hide hrok
    clear hrok
    go_wp2_with fail
    refine (cutCounted_any r _ w _ (unhide B1) (unhide HRB)).mono ?_
    rintro e w2 ⟨hb2, hm⟩
    have B12 := hide hb2
    have B02 := hide ((unhide B01).trans (hb2.mono (unhide B01).size))
    have B2 := hide ((unhide B0).trans ((unhide B02).mono (unhide B0).size))
    clear hb2
    cases hc : cutC r with
    | none =>
      rw [hc] at hm
      have HE := hide (show splitP l = none from by rw [unhide HSP, unhide HC]; simp only [Option.bind_some]; rw [hc]; rfl)
      subst hm
      have q2 := ((unhide B02).block _ hl0).trans (unhide Q0)
      have c0 : w2.cell? ⟨w.heap.size, 0, none⟩ = some (.slice none 0 0) := cell_of_heap q2
      have c1 : w2.cell? ⟨w.heap.size, 1, none⟩ = some (.slice none 0 0) := cell_of_heap q2
      have c2 : w2.cell? ⟨w.heap.size, 2, none⟩ = some (.slice none 0 0) := cell_of_heap q2
      have hf : ∀ o, w2.frozen? ⟨w.heap.size, o, none⟩ = false := fun o => frozen_of_heap q2
      clear hc q2
      go_wp2
      refine bodyPost_ret (v := .tuple #[.agg #[.slice none 0 0, .slice none 0 0, .slice none 0 0], .bool false]) (by simp [results, Tryz.results134, go_sem, c0, c1, c2]) rfl ⟨?_, ?_⟩
      · exact (((unhide B2).setCell (Nat.le_refl _) _).setCell (Nat.le_refl _) _).setCell (Nat.le_refl _) _
      · refine ⟨_, _, _, _, _, _, _, _, _, false, rfl, ?_⟩
        rw [unhide HE]
    | some pq =>
      obtain ⟨a, n⟩ := pq
      rw [hc] at hm
      obtain ⟨va, vn, rfl, hab, hnb⟩ := hm
      have HAL := hide (cutC_len hc (unhide HROK))
      have HSQ := hide (show splitP l = match netsR g, attsR a, netsR n with | some G, some D, some T => some (G, D, T) | _, _, _ => none from by
        rw [unhide HSP, unhide HC]; simp only [Option.bind_some]; rw [hc]; rfl)
      have HAB := hide hab
      have HNB := hide hnb
      clear hc hab hnb HC HSP
      go_wp2_with fail
      refine (splitNets_any g _ _ ((unhide HGB).below (unhide B2))).mono ?_
      rintro e w3 hN3
      obtain ⟨hb3, qg, ng, cg, okg, rfl, hmg⟩ := hN3.form
      have B23 := hide hb3
      have HMG := hide hmg
      clear hN3 hb3 hmg
      go_wp2_with fail
      refine (splitAttributes_any a _ w _ ((unhide B2).trans ((unhide B23).mono (unhide B2).size)) (unhide HAB) (unhide HAL)).mono ?_
      rintro e w4 hN4
      obtain ⟨hb4, qa, na, ca, oka, rfl, hma⟩ := hN4.form
      have B34 := hide hb4
      have HMA := hide hma
      clear hN4 hb4 hma
      have B24 := hide ((unhide B23).trans ((unhide B34).mono (unhide B23).size))
      go_wp2_with fail
      refine (splitNets_any n _ _ ((unhide HNB).below ((unhide B2).trans ((unhide B24).mono (unhide B2).size)))).mono ?_
      rintro e w5 hN5
      obtain ⟨hb5, qn, nn, cn, okn, rfl, hmn⟩ := hN5.form
      have B45 := hide hb5
      have HMN := hide hmn
      clear hN5 hb5 hmn
      have B25 := hide ((unhide B24).trans ((unhide B45).mono (unhide B24).size))
      have B05 := hide ((unhide B02).trans ((unhide B25).mono (unhide B02).size))
      have B5 := hide ((unhide B0).trans ((unhide B05).mono (unhide B0).size))
      have q5 := ((unhide B05).block _ hl0).trans (unhide Q0)
      have c0 : w5.cell? ⟨w.heap.size, 0, none⟩ = some (.slice none 0 0) := cell_of_heap q5
      have c1 : w5.cell? ⟨w.heap.size, 1, none⟩ = some (.slice none 0 0) := cell_of_heap q5
      have c2 : w5.cell? ⟨w.heap.size, 2, none⟩ = some (.slice none 0 0) := cell_of_heap q5
      have hf : ∀ o, w5.frozen? ⟨w.heap.size, o, none⟩ = false := fun o => frozen_of_heap q5
      clear q5
      have FIN : Hid (∀ ok, ok = (okg && (oka && okn)) → SplitC l w (.returned (.tuple #[.agg #[.slice qg ng cg, .slice qn nn cn, .slice qa na ca], .bool ok])) (((w5.setCell ⟨w.heap.size, 0, none⟩ (.slice qg ng cg)).setCell ⟨w.heap.size, 1, none⟩ (.slice qn nn cn)).setCell ⟨w.heap.size, 2, none⟩ (.slice qa na ca))) := by
        intro ok hok
        refine ⟨(((unhide B5).setCell (Nat.le_refl _) _).setCell (Nat.le_refl _) _).setCell (Nat.le_refl _) _, _, _, _, _, _, _, _, _, _, ok, rfl, ?_⟩
        have h1 := unhide HMG
        have h2 := unhide HMA
        have h3 := unhide HMN
        rw [unhide HSQ]
        cases e1 : netsR g with
        | none => rw [e1] at h1; simp only at h1; subst h1; simpa using hok
        | some G =>
          rw [e1] at h1
          cases e2 : attsR a with
          | none => rw [e2] at h2; simp only at h2; subst h2; simpa using hok
          | some D =>
            rw [e2] at h2
            cases e3 : netsR n with
            | none => rw [e3] at h3; simp only at h3; subst h3; simpa using hok
            | some T =>
              rw [e3] at h3
              simp only at h1 h2 h3 ⊢
              obtain ⟨rfl, o1⟩ := h1
              obtain ⟨rfl, A, o2, a2⟩ := h2
              obtain ⟨rfl, o3⟩ := h3
              have s2 := (unhide B2).size
              have s02 := (unhide B02).size
              have s23 := (unhide B23).size
              have s34 := (unhide B34).size
              have s45 := (unhide B45).size
              have o1' := o1.nextW ((unhide B34).trans ((unhide B45).mono (unhide B34).size))
              have o2' := o2.next (unhide B45)
              refine ⟨by simpa using hok, (OwnN.base (own_three o1' (b := w.heap.size) (by omega) _ _ _) (by omega)), (OwnN.base (own_three o3 (b := w.heap.size) (by omega) _ _ _) (by omega)), fun k h5 h6 => ?_, A, (OwnU.base (own_three o2' (b := w.heap.size) (by omega) _ _ _) (by omega)), ?_⟩
              · have := (o1.lt k h5).2
                have := (o3.lt k h6).1
                omega
              · exact a2
      cases hg : okg with
      | false =>
        subst hg
        go_wp2
        refine bodyPost_ret (v := .tuple #[.agg #[.slice qg ng cg, .slice qn nn cn, .slice qa na ca], .bool false]) (by simp [results, Tryz.results134, go_sem, c0, c1, c2]) rfl (unhide FIN false rfl)
      | true =>
        subst hg
        cases ha : oka with
        | false =>
          subst ha
          go_wp2
          refine bodyPost_ret (v := .tuple #[.agg #[.slice qg ng cg, .slice qn nn cn, .slice qa na ca], .bool false]) (by simp [results, Tryz.results134, go_sem, c0, c1, c2]) rfl (unhide FIN false rfl)
        | true =>
          subst ha
          go_wp2
          refine bodyPost_ret (v := .tuple #[.agg #[.slice qg ng cg, .slice qn nn cn, .slice qa na ca], .bool okn]) (by simp [results, Tryz.results134, go_sem, c0, c1, c2]) rfl (unhide FIN okn (by simp))
end Go.Proofs.YtgngdklkoilaiaaGreatDoor
