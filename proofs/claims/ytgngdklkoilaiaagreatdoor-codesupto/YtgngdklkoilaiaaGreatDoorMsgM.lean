/- The program's readPath and readMarks (package messages). -/
import Derived.Test.YtgngdklkoilaiaaGreatDoorMsgL
namespace Go.Proofs.YtgngdklkoilaiaaGreatDoor
open Go.RowKit

theorem words_len {l : List Int} (hb : bytesOk l) (h : l.length % 2 = 0) : (words l).length = l.length / 2 ∧ ∀ x ∈ words l, 0 ≤ x ∧ x ≤ 65535 := by
  have := B_words (l.length / 2) (l := l) (by omega) hb
  exact ⟨this.2.1, this.2.2⟩
theorem words_le : ∀ (n : Nat) {l : List Int}, l.length ≤ n → bytesOk l → 2 * (words l).length ≤ l.length ∧ ∀ x ∈ words l, 0 ≤ x ∧ x ≤ 65535 := by
  intro n
  induction n using Nat.strongRecOn with
  | _ n ih =>
    intro l hl hb
    match l, hl, hb with
    | [], _, _ => simp [words]
    | [_], _, _ => simp [words]
    | x :: y :: t, hl, hb =>
      have h1 := ih t.length (by simp at hl; omega) (Nat.le_refl _) (fun z hz => hb z (by simp [hz]))
      have hx := hb x (by simp)
      have hy := hb y (by simp)
      rw [words_two]
      refine ⟨by simp; omega, fun z hz => ?_⟩
      simp only [List.mem_cons] at hz
      rcases hz with rfl | hz
      · omega
      · exact h1.2 z hz
theorem marksR_prog {l : List Int} (hb : bytesOk l) : marksR l = if (decide (l.length % 2 = 0) && (decide (0 < (words l).length) && marksOkB (words l))) = true then some (words l) else none := by
  unfold marksR
  by_cases he : l.length % 2 = 0
  · have hw := (words_len hb he).1
    have e : (l ≠ [] ∧ l.length % 2 = 0 ∧ l.length ≤ 16 ∧ rises 0 (words l)) ↔ ((decide (l.length % 2 = 0) && (decide (0 < (words l).length) && marksOkB (words l))) = true) := by
      simp only [Bool.and_eq_true, decide_eq_true_eq, marksOkB_iff]
      constructor
      · rintro ⟨h1, h2, h3, h4⟩
        have := List.length_pos_iff.2 h1
        exact ⟨h2, by omega, by omega, h4⟩
      · rintro ⟨h1, h2, h3, h4⟩
        exact ⟨fun e => by have h5 : l.length = 0 := (by rw [e]; rfl); omega, h1, by omega, h4⟩
    by_cases hc : l ≠ [] ∧ l.length % 2 = 0 ∧ l.length ≤ 16 ∧ rises 0 (words l)
    · rw [if_pos hc, if_pos (e.1 hc)]
    · rw [if_neg hc, if_neg (fun h => hc (e.2 h))]
  · rw [if_neg (fun h => he h.2.1), if_neg (by simp [he])]

/-- what readPath and readMarks give -/
def ListC (r : Option (List Int)) (w : World) (e : Ending) (w' : World) : Prop :=
  ∃ (v : Value) (L : List Int) (ok : Bool), e = .returned (.tuple #[v, .bool ok]) ∧ OwnI w' w.heap.size v L ∧ r = (if ok = true then some L else none) ∧ Below w.heap.size w w'

set_option maxRecDepth 100000 in
set_option maxHeartbeats 800000 in
theorem readMarks_any (l : List Int) (x : Value) (w : World) (h : BytesAt w x l) (hlen : l.length ≤ 255) :
    Calls Tryz.prog 233 #[x] w (ListC (marksR l) w) := by
  have HX := hide h
  have hb : bytesOk l := by obtain ⟨_, _, _, _, _, hh, _⟩ := h; exact hh
  have HR := hide (marksR_prog hb)
  have hwl := (words_le l.length (Nat.le_refl _) hb)
  have hwl1 := hwl.1
  have HWI := hide hwl.2
  clear h hb hwl
  go_enter Tryz.func233, Tryz.ntmps233
  go_wp2_with fail
  refine (readPairs_any l _ _ (unhide HX) (by omega)).mono ?_
  rintro e w1 ⟨v, rfl, ho, hb1⟩
  obtain ⟨q, c, rfl⟩ := own_slice ho
  have O1 := hide ho
  have B1 := hide hb1
  have I1 := hide (IntsAt.own ho (fun x hx => by have := unhide HWI x hx; unfold inI; omega) (by omega))
  clear ho hb1
  cases he : decide (l.length % 2 = 0) with
  | false =>
    have HE := hide he
    clear he
    go_wp2
    go_ret2
    exact ⟨_, _, false, rfl, unhide O1, by rw [unhide HR, unhide HE]; rfl, unhide B1⟩
  | true =>
    have HE := hide he
    clear he
    by_cases h0 : 0 < (words l).length
    · go_wp2_with fail
      refine (ValidMarks_any (words l) _ _ (unhide I1)).mono ?_
      rintro e w0 ⟨rfl, rfl⟩
      go_wp2
      go_ret2
      exact ⟨_, _, marksOkB (words l), rfl, unhide O1, by rw [unhide HR, unhide HE, decide_eq_true h0]; simp, unhide B1⟩
    · go_wp2
      go_ret2
      exact ⟨_, _, false, rfl, unhide O1, by rw [unhide HR, unhide HE, decide_eq_false h0]; rfl, unhide B1⟩

theorem pathR_two {x n : Int} {t : List Int} (hb : bytesOk t) (hx : x = 2) (hn : 1 ≤ n) : pathR (x :: n :: t) = if (decide (t.length % 2 = 0) && (decide (((words t).length : Int) = n) && pathOkB (words t))) = true then some (words t) else none := by
  have e : (x = 2 ∧ 1 ≤ n ∧ n ≤ 12 ∧ (t.length : Int) = 2 * n ∧ (∀ s ∈ words t, s ≠ 0)) ↔ ((decide (t.length % 2 = 0) && (decide (((words t).length : Int) = n) && pathOkB (words t))) = true) := by
    simp only [Bool.and_eq_true, decide_eq_true_eq, pathOkB_iff]
    constructor
    · rintro ⟨_, h2, h3, h4, h5⟩
      have he : t.length % 2 = 0 := by omega
      have hw := words_len hb he
      exact ⟨he, by omega, ⟨by omega, fun s hs => by have h6 := hw.2 s hs; have h7 := h5 s hs; omega⟩⟩
    · rintro ⟨he, h2, h3, h4⟩
      have hw := words_len hb he
      exact ⟨hx, hn, by omega, by omega, fun s hs => by have := h4 s hs; omega⟩
  by_cases hc : x = 2 ∧ 1 ≤ n ∧ n ≤ 12 ∧ (t.length : Int) = 2 * n ∧ (∀ s ∈ words t, s ≠ 0)
  · rw [if_pos (e.1 hc)]; simp only [pathR]; rw [if_pos hc]
  · rw [if_neg (fun h => hc (e.2 h))]; simp only [pathR]; rw [if_neg hc]
theorem two_of {l : List Int} (h : ¬ l.length < 2) : ∃ y n t, l = y :: n :: t := by
  match l, h with
  | [], h => simp at h
  | [_], h => simp at h
  | y :: n :: t, _ => exact ⟨y, n, t, rfl⟩
theorem pathR_one {l : List Int} (h : l.length = 1) : pathR l = none := by
  match l, h with
  | [_], _ => rfl
theorem pathR_bad {x n : Int} {t : List Int} (h : x ≠ 2 ∨ n = 0) : pathR (x :: n :: t) = none := by
  simp only [pathR]
  rw [if_neg]
  rintro ⟨h1, h2, _⟩
  rcases h with h | h
  · exact h h1
  · omega

set_option maxRecDepth 100000 in
set_option maxHeartbeats 1600000 in
theorem readPath_any (l : List Int) (x : Value) (w : World) (h : BytesAt w x l) (hlen : l.length ≤ 255) :
    Calls Tryz.prog 231 #[x] w (ListC (pathR l) w) := by
  have HX := hide h
  obtain ⟨p, c, rfl, hcap, hl, hin, hr⟩ := h
  by_cases h0 : l.length = 0
  · have HE := hide (show pathR l = some [] from by rw [List.length_eq_zero_iff.1 h0]; rfl)
    have d0 : ((l.length : Int) == 0) = true := by simp [h0]
    clear h0 hr hin
    go_enter Tryz.func231, Tryz.ntmps231
    go_wp2
    go_ret2
    exact ⟨_, [], true, rfl, World.ownsRow_nil _ _ _ _, by rw [unhide HE]; rfl, Below.refl _ _⟩
  · have d0 : ((l.length : Int) == 0) = false := beq_eq_false_iff_ne.2 (by omega)
    rcases hr with h | ⟨b, o, rfl, hb, hc⟩
    · exact absurd (by rw [h.1]; rfl) h0
    by_cases h1 : l.length < 2
    · have HE := hide (pathR_one (l := l) (by omega))
      clear h0 hin hc
      go_enter Tryz.func231, Tryz.ntmps231
      go_wp2
      go_ret2
      exact ⟨_, [], false, rfl, World.ownsRow_nil _ _ _ _, by rw [unhide HE]; rfl, Below.refl _ _⟩
    · obtain ⟨y, n, t, hl2⟩ := two_of h1
      subst hl2
      have c0 : w.cell? ⟨b, o, none⟩ = some (.int .u8 y) := hc 0 (by simp)
      have c1 : w.cell? ⟨b, o + 1, none⟩ = some (.int .u8 n) := hc 1 (by simp)
      have hy := hin y (by simp)
      have hn := hin n (by simp)
      have htb : bytesOk t := fun z hz => hin z (by simp [hz])
      have HTB := hide htb
      have HPB : Hid ((y ≠ 2 ∨ n = 0) → pathR (y :: n :: t) = none) := pathR_bad
      have HPT : Hid (y = 2 → 1 ≤ n → pathR (y :: n :: t) = if (decide (t.length % 2 = 0) && (decide (((words t).length : Int) = n) && pathOkB (words t))) = true then some (words t) else none) := pathR_two htb
      have HDR : Hid (t = (y :: n :: t).drop 2) := rfl
      obtain ⟨N, hN⟩ : ∃ N, (y :: n :: t).length = N := ⟨_, rfl⟩
      rw [hN] at HX hcap hl hlen h1 d0 ⊢
      have hNt : N = t.length + 2 := by rw [← hN]; rfl
      have HNT := hide hNt
      clear h0 hin hc htb hN hNt
      obtain ⟨PR, hPR⟩ : ∃ PR, pathR (y :: n :: t) = PR := ⟨_, rfl⟩
      rw [hPR] at HPB HPT ⊢
      clear hPR
      by_cases hy2 : y = 2
      · subst hy2
        by_cases hn0 : n = 0
        · have HE := hide (unhide HPB (Or.inr hn0))
          subst hn0
          go_enter Tryz.func231, Tryz.ntmps231
          go_wp2
          go_ret2
          exact ⟨_, [], false, rfl, World.ownsRow_nil _ _ _ _, by rw [unhide HE]; rfl, Below.refl _ _⟩
        · have dn : (n == 0) = false := beq_eq_false_iff_ne.2 hn0
          have HE := hide (unhide HPT rfl (by omega))
          clear hn0 HPB HPT
          have NX : ∃ p2 n2 k2, Hid (BytesAt w (.slice p2 n2 k2) t) ∧ ((2 < c ∧ p2 = some ⟨b, o + 2, none⟩ ∧ n2 = N - 2 ∧ k2 = c - 2) ∨ (c = 2 ∧ N = 2 ∧ p2 = some ⟨b, o, none⟩ ∧ n2 = 0 ∧ k2 = 0)) := by
            by_cases hcc : 2 < c
            · exact ⟨_, _, _, hide ((unhide HX).cut (i := 2) (by omega) hcc), Or.inl ⟨hcc, rfl, rfl, rfl⟩⟩
            · exact ⟨_, _, _, hide ((unhide HX).cutEnd (i := 2) (by omega)), Or.inr ⟨by omega, by omega, rfl, rfl, rfl⟩⟩
          have hwl := (words_le t.length (Nat.le_refl _) (unhide HTB))
          have hwl1 : (words t).length ≤ 255 := by have := hwl.1; have := unhide HNT; omega
          have HWI := hide hwl.2
          have HTL := hide (show t.length ≤ 255 from by have := unhide HNT; omega)
          clear hwl hy
          obtain ⟨p2, n2, k2, HNX, hor⟩ := NX
          have HC1 := hide (show ∀ W, Below w.heap.size w W → W.cell? ⟨b, o + 1, none⟩ = some (.int .u8 n) from fun W hW => (hW.cell (p := ⟨b, o + 1, none⟩) hb).trans c1)
          rcases hor with ⟨hcc, rfl, rfl, rfl⟩ | ⟨rfl, rfl, rfl, rfl, rfl⟩
          all_goals
            go_enter Tryz.func231, Tryz.ntmps231
            go_wp2_with fail
            refine (readPairs_any t _ _ (unhide HNX) (by have := unhide HTL; omega)).mono ?_
            rintro e w1 ⟨v, rfl, ho, hb1⟩
            obtain ⟨q, cq, rfl⟩ := own_slice ho
            have O1 := hide ho
            have B1 := hide hb1
            have I1 := hide (IntsAt.own ho (fun x hx => by have := unhide HWI x hx; unfold inI; omega) (by omega))
            have f1 := unhide HC1 w1 hb1
            clear ho hb1 c0 c1
            cases he : decide (t.length % 2 = 0) with
            | false =>
              have HT := hide he
              clear he
              go_wp2
              go_ret2
              exact ⟨_, _, false, rfl, unhide O1, by rw [unhide HE, unhide HT]; rfl, unhide B1⟩
            | true =>
              have HT := hide he
              clear he
              by_cases h0 : ((words t).length : Int) = n
              · have HQ := hide h0
                have dq : (((words t).length : Int) == n) = true := beq_iff_eq.2 h0
                clear h0
                go_wp2_with fail
                refine (ValidPath_any (words t) _ _ (unhide I1)).mono ?_
                rintro e w0 ⟨rfl, rfl⟩
                go_wp2
                go_ret2
                exact ⟨_, _, pathOkB (words t), rfl, unhide O1, by rw [unhide HE, unhide HT, decide_eq_true (unhide HQ)]; simp, unhide B1⟩
              · have HQ := hide h0
                have dq : (((words t).length : Int) == n) = false := beq_eq_false_iff_ne.2 h0
                clear h0
                go_wp2
                go_ret2
                exact ⟨_, _, false, rfl, unhide O1, by rw [unhide HE, unhide HT, decide_eq_false (unhide HQ)]; rfl, unhide B1⟩
      · have dy : (y != 2) = true := by simpa using hy2
        have HE := hide (unhide HPB (Or.inl hy2))
        clear hy2
        go_enter Tryz.func231, Tryz.ntmps231
        go_wp2
        go_ret2
        exact ⟨_, [], false, rfl, World.ownsRow_nil _ _ _ _, by rw [unhide HE]; rfl, Below.refl _ _⟩
end Go.Proofs.YtgngdklkoilaiaaGreatDoor
