/- The program's has and complete (package messages); plain facts on what split gives. -/
import Derived.Test.YtgngdklkoilaiaaGreatDoorMsgQ
namespace Go.Proofs.YtgngdklkoilaiaaGreatDoor
open Go.RowKit

def hasA (A : List (Int × Int × Value)) (n : Int) : Bool := A.any (fun a => a.2.1 == n)
set_option maxRecDepth 100000 in
set_option maxHeartbeats 800000 in
theorem has_any (A : List (Int × Int × Value)) (n : Int) (x : Value) (w : World) (hx : RowU w x A) (hlen : A.length ≤ 65535) (hv : ∀ a ∈ A, ∃ q k c, a.2.2 = .slice q k c) :
    Calls Tryz.prog 188 #[x, .int .u8 n] w fun e w' => e = .returned (.bool (hasA A n)) ∧ Below w.heap.size w w' := by
  obtain ⟨p, c, rfl, hcap, hr⟩ := hx
  have HR := hide hr
  have HV := hide hv
  clear hr hv
  go_enter Tryz.func188, Tryz.ntmps188
  go_wp2
  go_loopw [9] (fun i wr => ∃ k : Nat, k ≤ A.length ∧ i = .int .i64 k ∧ hasA (A.take k) n = false ∧ Below w.heap.size w wr) (fun i _ => A.length - (intOf i).toNat)
  case atStart => exact ⟨0, Nat.zero_le _, rfl, rfl, Below.refl _ _⟩
  case round =>
    rename World => WR
    obtain ⟨k, hk, rfl, hno, hbe⟩ := hrel
    have HNO := hide hno
    have BE := hide hbe
    have hsz := hbe.size
    clear hno hbe
    by_cases hlt : k < A.length
    · rcases unhide HR with h | ⟨b, o, rfl, hb, hc⟩
      · rw [h] at hlt; simp at hlt
      have hck : WR.cell? ⟨b, o + k * 3, none⟩ = some (.int .u8 A[k].1) ∧ WR.cell? ⟨b, o + k * 3 + 1, none⟩ = some (.int .u8 A[k].2.1) ∧ WR.cell? ⟨b, o + k * 3 + 2, none⟩ = some A[k].2.2 := by
        rw [(unhide BE).cell (p := ⟨b, o + k * 3, none⟩) hb, (unhide BE).cell (p := ⟨b, o + k * 3 + 1, none⟩) hb, (unhide BE).cell (p := ⟨b, o + k * 3 + 2, none⟩) hb]
        exact hc k hlt
      obtain ⟨q, kk, cc, hq⟩ := unhide HV A[k] (List.getElem_mem _)
      rw [hq] at hck
      obtain ⟨c0, c1, c2⟩ := hck
      have HT := hide (show hasA (A.take (k + 1)) n = (hasA (A.take k) n || (A[k].2.1 == n)) from by
        unfold hasA; rw [List.take_succ_eq_append_getElem hlt, List.any_append]; simp)
      have HY : Hid (A[k].2.1 = n → hasA A n = true) := fun h => by
        unfold hasA; rw [List.any_eq_true]; exact ⟨A[k], List.getElem_mem _, by simpa using h⟩
      clear hc hq
      obtain ⟨X, hX⟩ : ∃ X, A[k].2.1 = X := ⟨_, rfl⟩
      obtain ⟨Y, hY⟩ : ∃ Y, A[k].1 = Y := ⟨_, rfl⟩
      rw [hX] at c1 HT HY
      rw [hY] at c0
      clear hX hY
      by_cases he : X = n
      · have d : (X == n) = true := by simpa using he
        have HE := hide (unhide HY he)
        clear he
        go_wp2
        go_ret
        exact ⟨rt_bool (unhide HE).symm, (unhide BE).alloc hsz _⟩
      · have d : (X == n) = false := by simpa using he
        have HE := hide (show hasA (A.take (k + 1)) n = false from by rw [unhide HT, unhide HNO, d]; rfl)
        clear he
        go_wp2_with fail
        exact ⟨⟨k + 1, by omega, by go_num, unhide HE, (unhide BE).alloc hsz _⟩, by simp [intOf]; omega⟩
    · have HE := hide (show hasA A n = false from by have := unhide HNO; rwa [List.take_of_length_le (by omega)] at this)
      go_wp2
      go_ret
      exact ⟨rt_bool (unhide HE).symm, unhide BE⟩

def complP (n : Nat) (A : List (Int × Int × Value)) : Bool := if n = 0 then A.length == 0 else hasA A 2 && hasA A 5
set_option maxRecDepth 100000 in
set_option maxHeartbeats 800000 in
theorem complete_any (A : List (Int × Int × Value)) (q1 q2 : Option Addr) (n1 n2 c1 c2 : Nat) (x : Value) (w : World) (hx : RowU w x A) (hlen : A.length ≤ 65535) (hv : ∀ a ∈ A, ∃ q k c, a.2.2 = .slice q k c) (_hn : n2 ≤ 65535) :
    Calls Tryz.prog 136 #[.agg #[.slice q1 n1 c1, .slice q2 n2 c2, x]] w fun e w' => e = .returned (.bool (complP n2 A)) ∧ Below w.heap.size w w' := by
  have HX := hide hx
  have HV := hide hv
  clear hv
  obtain ⟨p, c, rfl, -⟩ := hx
  have b0 := hide ((Below.refl w.heap.size w).alloc (Nat.le_refl _) (.cells #[.slice q1 n1 c1, .slice q2 n2 c2, .slice p A.length c] 240))
  by_cases h0 : n2 = 0
  · have HE := hide (show complP n2 A = ((A.length : Int) == 0) from by unfold complP; rw [if_pos h0, Bool.eq_iff_iff]; simp)
    have d : ((n2 : Int) == 0) = true := by simp [h0]
    clear h0
    go_enter Tryz.func136, Tryz.ntmps136
    go_wp2
    go_ret
    exact ⟨rt_bool (unhide HE).symm, unhide b0⟩
  · have HE := hide (show complP n2 A = (hasA A 2 && hasA A 5) from by unfold complP; rw [if_neg h0])
    have d : ((n2 : Int) == 0) = false := beq_eq_false_iff_ne.2 (by omega)
    clear h0
    go_enter Tryz.func136, Tryz.ntmps136
    go_wp2_with fail
    refine (has_any A 2 _ _ ((unhide HX).below (unhide b0)) hlen (unhide HV)).mono ?_
    rintro e w1 ⟨rfl, hb1⟩
    have B1 := hide ((unhide b0).trans (hb1.mono (unhide b0).size))
    have q1 := (hb1.block w.heap.size (by simp)).trans (heap_alloc_new w _)
    have e2 : w1.cell? ⟨w.heap.size, 2, none⟩ = some (.slice p A.length c) := cell_of_heap q1
    clear hb1 q1
    cases h2 : hasA A 2 with
    | false =>
      have H2 := hide h2
      clear h2
      go_wp2
      go_ret
      exact ⟨rt_bool (by rw [unhide HE, unhide H2]; rfl), unhide B1⟩
    | true =>
      have H2 := hide h2
      clear h2
      go_wp2_with fail
      refine (has_any A 5 _ _ ((unhide HX).below (unhide B1)) hlen (unhide HV)).mono ?_
      rintro e w2 ⟨rfl, hb2⟩
      have B2 := hide ((unhide B1).trans (hb2.mono (unhide B1).size))
      clear hb2
      go_wp2
      go_ret
      exact ⟨rt_bool (by rw [unhide HE, unhide H2]; rfl), unhide B2⟩

/-! ## plain -/
theorem attsP_two : ∀ {D : List (Int × Int × List Int)} {s s' : AS}, attsP s D = .ok s' → s'.two = (s.two || D.any (fun d => d.2.1 == 2)) ∧ s'.five = (s.five || D.any (fun d => d.2.1 == 5)) := by
  intro D
  induction D with
  | nil => intro s s' h; simp only [attsP, Except.ok.injEq] at h; subst h; simp
  | cons d D ih =>
    intro s s' h
    obtain ⟨f, n, v⟩ := d
    simp only [attsP] at h
    split at h
    · cases h
    · split at h
      · cases h
      · have := ih h
        rw [this.1, this.2]
        simp only [List.any_cons, Bool.or_assoc]
        constructor <;> congr 2
theorem AttsAt.any {w : World} : ∀ {A : List (Int × Int × Value)} {D : List (Int × Int × List Int)}, AttsAt w A D → ∀ n : Int, hasA A n = D.any (fun d => d.2.1 == n) := by
  intro A
  induction A with
  | nil => intro D h n; cases D with | nil => rfl | cons _ _ => cases h
  | cons a A ih =>
    intro D h n
    cases D with
    | nil => cases h
    | cons d D =>
      have := ih h.2 n
      unfold hasA at this ⊢
      rw [List.any_cons, List.any_cons, this, h.1.2.1]
theorem AttsAt.slices {w : World} : ∀ {A : List (Int × Int × Value)} {D : List (Int × Int × List Int)}, AttsAt w A D → ∀ a ∈ A, ∃ q k c, a.2.2 = .slice q k c := by
  intro A
  induction A with
  | nil => intro D _ a ha; simp at ha
  | cons a A ih =>
    intro D h b hb
    cases D with
    | nil => cases h
    | cons d D =>
      simp only [List.mem_cons] at hb
      rcases hb with rfl | hb
      · obtain ⟨p, c, hv, _⟩ := h.1.2.2; exact ⟨_, _, _, hv⟩
      · exact ih h.2 b hb
theorem netsR_in : ∀ (f : Nat) {b : List Int} {L : List (Int × Int)}, bytesOk b → readN f b = some L → ∀ x ∈ L, inI x.1 ∧ inI x.2 := by
  intro f
  induction f with
  | zero =>
    intro b L hb h x hx
    cases b with
    | nil => simp only [readN, Option.some.injEq] at h; subst h; simp at hx
    | cons _ _ => simp [readN] at h
  | succ f ih =>
    intro b L hb h x hx
    cases b with
    | nil => simp only [readN, Option.some.injEq] at h; subst h; simp at hx
    | cons n t =>
      rw [bytesOk_cons] at hb
      simp only [readN] at h
      split at h
      · cases h
      · obtain ⟨L', hL', rfl⟩ := Option.map_eq_some_iff.1 h
        simp only [List.mem_cons] at hx
        rcases hx with rfl | hx
        · have h4 := takes_le hb.1.1
          have := valPad_bd (l := t.take (takesP n)) (bytesOk_take hb.2 _) (by rw [List.length_take]; omega)
          unfold inI
          simp only
          omega
        · exact ih (bytesOk_drop hb.2 _) hL' x hx
theorem attsB_mem {D : List (Int × Int × List Int)} (h : bytesOk (attsB D)) : ∀ d ∈ D, (0 ≤ d.1 ∧ d.1 ≤ 255) ∧ (0 ≤ d.2.1 ∧ d.2.1 ≤ 255) ∧ d.2.2.length ≤ 255 := by
  intro d hd
  have hsub : ∀ x ∈ attB d, 0 ≤ x ∧ x ≤ 255 := fun x hx => h x (by unfold attsB; exact List.mem_flatMap.2 ⟨d, hd, hx⟩)
  unfold attB at hsub
  refine ⟨hsub d.1 (by simp), hsub d.2.1 (by simp), ?_⟩
  have := hsub d.2.2.length (by simp)
  omega
theorem splitP_in {b : List Int} {G T : List (Int × Int)} {D : List (Int × Int × List Int)} (hb : bytesOk b) (h : splitP b = some (G, D, T)) :
    (∀ x ∈ G, inI x.1 ∧ inI x.2) ∧ (∀ x ∈ T, inI x.1 ∧ inI x.2) ∧ (∀ d ∈ D, (0 ≤ d.1 ∧ d.1 ≤ 255) ∧ (0 ≤ d.2.1 ∧ d.2.1 ≤ 255) ∧ d.2.2.length ≤ 255 ∧ bytesOk d.2.2) ∧ D.length ≤ 65535 := by
  unfold splitP at h
  rw [partsP_cut] at h
  cases h1 : cutC b with
  | none => rw [h1] at h; cases h
  | some x =>
    obtain ⟨g, r⟩ := x
    rw [h1] at h
    simp only [Option.bind_some] at h
    have hg : bytesOk g ∧ bytesOk r := by
      unfold cutC at h1
      split at h1
      · cases h1
      · split at h1
        · cases h1
        · simp only [Option.some.injEq, Prod.mk.injEq] at h1
          rw [← h1.1, ← h1.2]
          exact ⟨bytesOk_take (bytesOk_drop hb 2) _, bytesOk_drop (bytesOk_drop hb 2) _⟩
    cases h2 : cutC r with
    | none => rw [h2] at h; cases h
    | some y =>
      obtain ⟨a, n⟩ := y
      rw [h2] at h
      have hl := cutC_len h2 hg.2
      have ha : bytesOk a ∧ bytesOk n := by
        unfold cutC at h2
        split at h2
        · cases h2
        · split at h2
          · cases h2
          · simp only [Option.some.injEq, Prod.mk.injEq] at h2
            rw [← h2.1, ← h2.2]
            exact ⟨bytesOk_take (bytesOk_drop hg.2 2) _, bytesOk_drop (bytesOk_drop hg.2 2) _⟩
      simp only [Option.map_some, Option.bind_some] at h
      split at h
      · rename_i a1 a2 a3
        simp only [Option.some.injEq, Prod.mk.injEq] at h
        obtain ⟨rfl, rfl, rfl⟩ := h
        have hB := B_attsR _ ha.1 a2
        have hm := attsB_mem (by rw [hB.1]; exact ha.1)
        refine ⟨netsR_in _ hg.1 a1, netsR_in _ ha.2 a3, fun d hd => ⟨(hm d hd).1, (hm d hd).2.1, (hm d hd).2.2, hB.2 d hd⟩, ?_⟩
        have h3 : ∀ (E : List (Int × Int × List Int)), E.length ≤ (attsB E).length := by
          intro E
          induction E with
          | nil => simp
          | cons e E ih =>
            have e2 : attsB (e :: E) = attB e ++ attsB E := by simp [attsB]
            rw [e2, List.length_append, attB_len, List.length_cons]
            omega
        have h4 := h3 ‹_›
        rw [hB.1] at h4
        omega
      · cases h
theorem netsOkB_take (G T : List (Int × Int)) : netsOkB (G.take 21 ++ T.take 21) = netsOkB (G ++ T) := by
  by_cases h : G.length ≤ 21 ∧ T.length ≤ 21
  · rw [List.take_of_length_le h.1, List.take_of_length_le h.2]
  · rw [netsOkB_long (by rw [List.length_append, List.length_take, List.length_take]; omega), netsOkB_long (by rw [List.length_append]; omega)]
end Go.Proofs.YtgngdklkoilaiaaGreatDoor
