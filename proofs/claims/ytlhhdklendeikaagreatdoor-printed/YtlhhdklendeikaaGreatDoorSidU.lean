/- condition (package bywaykeep): the text of a condition, out of raw numbers. -/
import Derived.Test.YtlhhdklendeikaaGreatDoorNotA
import Derived.Test.YtlhhdklendeikaaGreatDoorKnB
import Derived.Test.YtlhhdklendeikaaGreatDoorKeepB
namespace Go.Proofs.YtlhhdklendeikaaGreatDoor
open Go.RowKit

def leafC (x : Int) : Ct :=
  if pickP (x.tdiv 8) 6 = 0 then .net else if pickP (x.tdiv 8) 6 = 1 then .way else if pickP (x.tdiv 8) 6 = 2 then .mrk (pickP (x.tdiv 48) 6).toNat
  else if pickP (x.tdiv 8) 6 = 3 then .len (pickP (x.tdiv 48) 5).toNat else if pickP (x.tdiv 8) 6 = 4 then .prf (pickP (x.tdiv 48) 4).toNat else .med (pickP (x.tdiv 48) 4).toNat
def nodeC (k : Int) (a b : Ct) : Ct := if k = 0 then .not a else if k = 1 ∨ k = 2 then .and a b else .or a b
def condT (l : List Int) : Nat → Nat → Ct
  | 0, i => leafC (atP l i)
  | d + 1, i => if 5 ≤ pickP (atP l i) 8 then leafC (atP l i) else nodeC (pickP (atP l i) 8) (condT l d (2 * i + 1)) (condT l d (2 * i + 2))
theorem leafC_ok (x : Int) : (leafC x).ok ∧ (leafC x).h = 0 := by
  have h6 := pickP_bd (c := x.tdiv 48) (n := 6) (by omega)
  have h5 := pickP_bd (c := x.tdiv 48) (n := 5) (by omega)
  have h4 := pickP_bd (c := x.tdiv 48) (n := 4) (by omega)
  unfold leafC
  split
  · exact ⟨trivial, rfl⟩
  · split
    · exact ⟨trivial, rfl⟩
    · split
      · exact ⟨show _ ≤ 9 by omega, rfl⟩
      · split
        · exact ⟨show _ ≤ 9 by omega, rfl⟩
        · split
          · exact ⟨show _ ≤ 9 by omega, rfl⟩
          · exact ⟨show _ ≤ 9 by omega, rfl⟩
theorem nodeC_ok {k : Int} {a b : Ct} (ha : a.ok) (hb : b.ok) {n : Nat} (h1 : a.h ≤ n) (h2 : b.h ≤ n) : (nodeC k a b).ok ∧ (nodeC k a b).h ≤ n + 1 := by
  unfold nodeC
  split
  · exact ⟨ha, by simp only [Ct.h]; omega⟩
  · split
    · exact ⟨⟨ha, hb⟩, by simp only [Ct.h]; omega⟩
    · exact ⟨⟨ha, hb⟩, by simp only [Ct.h]; omega⟩
theorem condT_ok (l : List Int) : ∀ d i, (condT l d i).ok ∧ (condT l d i).h ≤ d
  | 0, i => ⟨(leafC_ok _).1, Nat.le_of_eq (leafC_ok _).2⟩
  | d + 1, i => by
    rw [condT]
    split
    · exact ⟨(leafC_ok _).1, by rw [(leafC_ok _).2]; omega⟩
    · exact nodeC_ok (condT_ok l d _).1 (condT_ok l d _).1 (condT_ok l d _).2 (condT_ok l d _).2
theorem lit_app (a b : List UInt8) : (⟨a.toArray⟩ ++ bsA b : ByteArray) = bsA (a ++ b) := by
  rw [app_bsA]
set_option maxRecDepth 100000 in
set_option maxHeartbeats 4000000 in
theorem cond_leaf (l : List Int) (v : Value) (i d : Nat) (hi : i ≤ 1000) (hd : d ≤ 1000) (W : World) (hv : IntsAt W v l) (hpt : PowTab W) (h : d = 0 ∨ 5 ≤ pickP (atP l i) 8) :
    Calls Tryz.prog 11 #[v, .int .i64 i, .int .i64 d] W fun e w' => e = .returned (.string (bsA (leafC (atP l i)).bs)) ∧ Below W.heap.size W w' := by
  have HAT := hide (at_any l i v W hi hv)
  have hin : inI (atP l i) := by
    obtain ⟨_, _, _, _, _, hin, _⟩ := hv
    exact atP_in hin i
  unfold inI at hin
  obtain ⟨pa, pn, pc, hpv⟩ := reads_form (ints_reads hv)
  generalize atP l i = X at *
  have hk := pickP_bd (c := X) (n := 8) (by omega)
  have d8 := tdiv_in hin.1 hin.2 (k := 8) (by omega)
  have d48 := tdiv_in hin.1 hin.2 (k := 48) (by omega)
  have hj := pickP_bd (c := X.tdiv 8) (n := 6) (by omega)
  have p6 := pickP_bd (c := X.tdiv 48) (n := 6) (by omega)
  have p5 := pickP_bd (c := X.tdiv 48) (n := 5) (by omega)
  have p4 := pickP_bd (c := X.tdiv 48) (n := 4) (by omega)
  have HP := hide (pick_any X 8 W hin.1 hin.2 (by omega) (by omega))
  have HPJ := hide (pick_any (X.tdiv 8) 6 W (by omega) (by omega) (by omega) (by omega))
  have HP6 := hide (pick_any (X.tdiv 48) 6 W (by omega) (by omega) (by omega) (by omega))
  have HP5 := hide (pick_any (X.tdiv 48) 5 W (by omega) (by omega) (by omega) (by omega))
  have HP4 := hide (pick_any (X.tdiv 48) 4 W (by omega) (by omega) (by omega) (by omega))
  have HI6 := hide (itoa_any (pickP (X.tdiv 48) 6).toNat (by omega) W hpt)
  have HI5 := hide (itoa_any (pickP (X.tdiv 48) 5).toNat (by omega) W hpt)
  have HI4 := hide (itoa_any (pickP (X.tdiv 48) 4).toNat (by omega) W hpt)
  rw [Int.toNat_of_nonneg (by omega)] at HI6 HI5 HI4
  have n6 := dec_len (u := (pickP (X.tdiv 48) 6).toNat) (by omega)
  have n5 := dec_len (u := (pickP (X.tdiv 48) 5).toNat) (by omega)
  have n4 := dec_len (u := (pickP (X.tdiv 48) 4).toNat) (by omega)
  have HL : Hid (leafC X = if pickP (X.tdiv 8) 6 = 0 then .net else if pickP (X.tdiv 8) 6 = 1 then .way else if pickP (X.tdiv 8) 6 = 2 then .mrk (pickP (X.tdiv 48) 6).toNat else if pickP (X.tdiv 8) 6 = 3 then .len (pickP (X.tdiv 48) 5).toNat else if pickP (X.tdiv 8) 6 = 4 then .prf (pickP (X.tdiv 48) 4).toNat else .med (pickP (X.tdiv 48) 4).toNat) := rfl
  generalize leafC X = T at *
  generalize pickP X 8 = K at *
  generalize pickP (X.tdiv 8) 6 = J at *
  generalize pickP (X.tdiv 48) 6 = P6 at *
  generalize pickP (X.tdiv 48) 5 = P5 at *
  generalize pickP (X.tdiv 48) 4 = P4 at *
  clear hv hpt
  subst hpv
  have hd2 : (d = 0 ∧ True) ∨ (0 < d ∧ 5 ≤ K) := by
    rcases Nat.eq_zero_or_pos d with h0 | h0
    · exact Or.inl ⟨h0, trivial⟩
    · exact Or.inr ⟨h0, h.resolve_left (by omega)⟩
  clear h
  rcases hd2 with ⟨rfl, _⟩ | ⟨hd0, hK5⟩
  · clear HP
    rcases (show J = 0 ∨ J = 1 ∨ J = 2 ∨ J = 3 ∨ J = 4 ∨ J = 5 by omega) with rfl | rfl | rfl | rfl | rfl | rfl
    · have hT : T = .net := by
        have h := unhide HL
        rw [if_pos rfl] at h; exact h
      rw [hT, Ct.bs_net]
      clear HL hT
      go_enter Tryz.func11, Tryz.ntmps11
      go_wp2_with (first
        | (go_at_call 28; refine (unhide HAT).mono ?_; rintro e w' ⟨rfl, rfl⟩)
        | (go_at_call 22; refine (unhide HPJ).mono ?_; clear HPJ; rintro e w' ⟨rfl, rfl⟩))
      go_ret
      exact ⟨rfl, Below.refl _ _⟩
    · have hT : T = .way := by
        have h := unhide HL
        rw [if_neg (by decide), if_pos rfl] at h; exact h
      rw [hT, Ct.bs_way]
      clear HL hT
      go_enter Tryz.func11, Tryz.ntmps11
      go_wp2_with (first
        | (go_at_call 28; refine (unhide HAT).mono ?_; rintro e w' ⟨rfl, rfl⟩)
        | (go_at_call 22; refine (unhide HPJ).mono ?_; clear HPJ; rintro e w' ⟨rfl, rfl⟩))
      go_ret
      exact ⟨rfl, Below.refl _ _⟩
    · have hT : T = .mrk P6.toNat := by
        have h := unhide HL
        rw [if_neg (by decide), if_neg (by decide), if_pos rfl] at h; exact h
      rw [hT, Ct.bs_mrk]
      clear HL hT
      rw [show bsA ([109, 97, 114, 107, 101, 100, 32] ++ Lib.decDigits P6.toNat) = (⟨#[109, 97, 114, 107, 101, 100, 32]⟩ ++ bsA (Lib.decDigits P6.toNat) : ByteArray) from (lit_app _ _).symm]
      have sz : (bsA (Lib.decDigits P6.toNat)).size ≤ 10 := by rw [bsA_size]; exact n6
      generalize bsA (Lib.decDigits P6.toNat) = s at *
      have c1 : (9223372036854775807 < 7 + s.size) = False := eq_false (by omega)
      go_enter Tryz.func11, Tryz.ntmps11
      go_wp2_with (first
        | (go_at_call 28; refine (unhide HAT).mono ?_; rintro e w' ⟨rfl, rfl⟩)
        | (go_at_call 22; refine (unhide HPJ).mono ?_; clear HPJ; rintro e w' ⟨rfl, rfl⟩)
        | (go_at_call 22; refine (unhide HP6).mono ?_; clear HP6; rintro e w' ⟨rfl, rfl⟩)
        | (go_at_call 24; refine (unhide HI6).mono ?_; clear HI6; rintro e w1 ⟨rfl, hb1⟩; have HB := hide hb1; clear hb1))
      go_ret
      exact ⟨rfl, unhide HB⟩
    · have hT : T = .len P5.toNat := by
        have h := unhide HL
        rw [if_neg (by decide), if_neg (by decide), if_neg (by decide), if_pos rfl] at h; exact h
      rw [hT, Ct.bs_lenN]
      clear HL hT
      rw [show bsA ([108, 101, 110, 32, 60, 32] ++ Lib.decDigits P5.toNat) = (⟨#[108, 101, 110, 32, 60, 32]⟩ ++ bsA (Lib.decDigits P5.toNat) : ByteArray) from (lit_app _ _).symm]
      have sz : (bsA (Lib.decDigits P5.toNat)).size ≤ 10 := by rw [bsA_size]; exact n5
      generalize bsA (Lib.decDigits P5.toNat) = s at *
      have c1 : (9223372036854775807 < 6 + s.size) = False := eq_false (by omega)
      go_enter Tryz.func11, Tryz.ntmps11
      go_wp2_with (first
        | (go_at_call 28; refine (unhide HAT).mono ?_; rintro e w' ⟨rfl, rfl⟩)
        | (go_at_call 22; refine (unhide HPJ).mono ?_; clear HPJ; rintro e w' ⟨rfl, rfl⟩)
        | (go_at_call 22; refine (unhide HP5).mono ?_; clear HP5; rintro e w' ⟨rfl, rfl⟩)
        | (go_at_call 24; refine (unhide HI5).mono ?_; clear HI5; rintro e w1 ⟨rfl, hb1⟩; have HB := hide hb1; clear hb1))
      go_ret
      exact ⟨rfl, unhide HB⟩
    · have hT : T = .prf P4.toNat := by
        have h := unhide HL
        rw [if_neg (by decide), if_neg (by decide), if_neg (by decide), if_neg (by decide), if_pos rfl] at h; exact h
      rw [hT, Ct.bs_prf]
      clear HL hT
      rw [show bsA ([112, 114, 101, 102, 32, 61, 32] ++ Lib.decDigits P4.toNat) = (⟨#[112, 114, 101, 102, 32, 61, 32]⟩ ++ bsA (Lib.decDigits P4.toNat) : ByteArray) from (lit_app _ _).symm]
      have sz : (bsA (Lib.decDigits P4.toNat)).size ≤ 10 := by rw [bsA_size]; exact n4
      generalize bsA (Lib.decDigits P4.toNat) = s at *
      have c1 : (9223372036854775807 < 7 + s.size) = False := eq_false (by omega)
      go_enter Tryz.func11, Tryz.ntmps11
      go_wp2_with (first
        | (go_at_call 28; refine (unhide HAT).mono ?_; rintro e w' ⟨rfl, rfl⟩)
        | (go_at_call 22; refine (unhide HPJ).mono ?_; clear HPJ; rintro e w' ⟨rfl, rfl⟩)
        | (go_at_call 22; refine (unhide HP4).mono ?_; clear HP4; rintro e w' ⟨rfl, rfl⟩)
        | (go_at_call 24; refine (unhide HI4).mono ?_; clear HI4; rintro e w1 ⟨rfl, hb1⟩; have HB := hide hb1; clear hb1))
      go_ret
      exact ⟨rfl, unhide HB⟩
    · have hT : T = .med P4.toNat := by
        have h := unhide HL
        rw [if_neg (by decide), if_neg (by decide), if_neg (by decide), if_neg (by decide), if_neg (by decide)] at h; exact h
      rw [hT, Ct.bs_med]
      clear HL hT
      rw [show bsA ([109, 101, 100, 32, 43, 32, 49, 32, 60, 32, 112, 114, 101, 102, 32, 43, 32] ++ Lib.decDigits P4.toNat) = (⟨#[109, 101, 100, 32, 43, 32, 49, 32, 60, 32, 112, 114, 101, 102, 32, 43, 32]⟩ ++ bsA (Lib.decDigits P4.toNat) : ByteArray) from (lit_app _ _).symm]
      have sz : (bsA (Lib.decDigits P4.toNat)).size ≤ 10 := by rw [bsA_size]; exact n4
      generalize bsA (Lib.decDigits P4.toNat) = s at *
      have c1 : (9223372036854775807 < 17 + s.size) = False := eq_false (by omega)
      go_enter Tryz.func11, Tryz.ntmps11
      go_wp2_with (first
        | (go_at_call 28; refine (unhide HAT).mono ?_; rintro e w' ⟨rfl, rfl⟩)
        | (go_at_call 22; refine (unhide HPJ).mono ?_; clear HPJ; rintro e w' ⟨rfl, rfl⟩)
        | (go_at_call 22; refine (unhide HP4).mono ?_; clear HP4; rintro e w' ⟨rfl, rfl⟩)
        | (go_at_call 24; refine (unhide HI4).mono ?_; clear HI4; rintro e w1 ⟨rfl, hb1⟩; have HB := hide hb1; clear hb1))
      go_ret
      exact ⟨rfl, unhide HB⟩
  · have hdi : (0 : Int) < (d : Int) := by omega
    have q0 : (K == 0) = false := by simp; omega
    have q1 : (K == 1) = false := by simp; omega
    have q2 : (K == 2) = false := by simp; omega
    have q3 : (K == 3) = false := by simp; omega
    have q4 : (K == 4) = false := by simp; omega
    clear hK5 hk
    rcases (show J = 0 ∨ J = 1 ∨ J = 2 ∨ J = 3 ∨ J = 4 ∨ J = 5 by omega) with rfl | rfl | rfl | rfl | rfl | rfl
    · have hT : T = .net := by
        have h := unhide HL
        rw [if_pos rfl] at h; exact h
      rw [hT, Ct.bs_net]
      clear HL hT
      go_enter Tryz.func11, Tryz.ntmps11
      go_wp2_with (first
        | (go_at_call 28; refine (unhide HAT).mono ?_; rintro e w' ⟨rfl, rfl⟩)
        | (go_at_call 22; refine (unhide HP).mono ?_; clear HP; rintro e w' ⟨rfl, rfl⟩)
        | (go_at_call 22; refine (unhide HPJ).mono ?_; clear HPJ; rintro e w' ⟨rfl, rfl⟩))
      go_ret
      exact ⟨rfl, Below.refl _ _⟩
    · have hT : T = .way := by
        have h := unhide HL
        rw [if_neg (by decide), if_pos rfl] at h; exact h
      rw [hT, Ct.bs_way]
      clear HL hT
      go_enter Tryz.func11, Tryz.ntmps11
      go_wp2_with (first
        | (go_at_call 28; refine (unhide HAT).mono ?_; rintro e w' ⟨rfl, rfl⟩)
        | (go_at_call 22; refine (unhide HP).mono ?_; clear HP; rintro e w' ⟨rfl, rfl⟩)
        | (go_at_call 22; refine (unhide HPJ).mono ?_; clear HPJ; rintro e w' ⟨rfl, rfl⟩))
      go_ret
      exact ⟨rfl, Below.refl _ _⟩
    · have hT : T = .mrk P6.toNat := by
        have h := unhide HL
        rw [if_neg (by decide), if_neg (by decide), if_pos rfl] at h; exact h
      rw [hT, Ct.bs_mrk]
      clear HL hT
      rw [show bsA ([109, 97, 114, 107, 101, 100, 32] ++ Lib.decDigits P6.toNat) = (⟨#[109, 97, 114, 107, 101, 100, 32]⟩ ++ bsA (Lib.decDigits P6.toNat) : ByteArray) from (lit_app _ _).symm]
      have sz : (bsA (Lib.decDigits P6.toNat)).size ≤ 10 := by rw [bsA_size]; exact n6
      generalize bsA (Lib.decDigits P6.toNat) = s at *
      have c1 : (9223372036854775807 < 7 + s.size) = False := eq_false (by omega)
      go_enter Tryz.func11, Tryz.ntmps11
      go_wp2_with (first
        | (go_at_call 28; refine (unhide HAT).mono ?_; rintro e w' ⟨rfl, rfl⟩)
        | (go_at_call 22; refine (unhide HP).mono ?_; clear HP; rintro e w' ⟨rfl, rfl⟩)
        | (go_at_call 22; refine (unhide HPJ).mono ?_; clear HPJ; rintro e w' ⟨rfl, rfl⟩)
        | (go_at_call 22; refine (unhide HP6).mono ?_; clear HP6; rintro e w' ⟨rfl, rfl⟩)
        | (go_at_call 24; refine (unhide HI6).mono ?_; clear HI6; rintro e w1 ⟨rfl, hb1⟩; have HB := hide hb1; clear hb1))
      go_ret
      exact ⟨rfl, unhide HB⟩
    · have hT : T = .len P5.toNat := by
        have h := unhide HL
        rw [if_neg (by decide), if_neg (by decide), if_neg (by decide), if_pos rfl] at h; exact h
      rw [hT, Ct.bs_lenN]
      clear HL hT
      rw [show bsA ([108, 101, 110, 32, 60, 32] ++ Lib.decDigits P5.toNat) = (⟨#[108, 101, 110, 32, 60, 32]⟩ ++ bsA (Lib.decDigits P5.toNat) : ByteArray) from (lit_app _ _).symm]
      have sz : (bsA (Lib.decDigits P5.toNat)).size ≤ 10 := by rw [bsA_size]; exact n5
      generalize bsA (Lib.decDigits P5.toNat) = s at *
      have c1 : (9223372036854775807 < 6 + s.size) = False := eq_false (by omega)
      go_enter Tryz.func11, Tryz.ntmps11
      go_wp2_with (first
        | (go_at_call 28; refine (unhide HAT).mono ?_; rintro e w' ⟨rfl, rfl⟩)
        | (go_at_call 22; refine (unhide HP).mono ?_; clear HP; rintro e w' ⟨rfl, rfl⟩)
        | (go_at_call 22; refine (unhide HPJ).mono ?_; clear HPJ; rintro e w' ⟨rfl, rfl⟩)
        | (go_at_call 22; refine (unhide HP5).mono ?_; clear HP5; rintro e w' ⟨rfl, rfl⟩)
        | (go_at_call 24; refine (unhide HI5).mono ?_; clear HI5; rintro e w1 ⟨rfl, hb1⟩; have HB := hide hb1; clear hb1))
      go_ret
      exact ⟨rfl, unhide HB⟩
    · have hT : T = .prf P4.toNat := by
        have h := unhide HL
        rw [if_neg (by decide), if_neg (by decide), if_neg (by decide), if_neg (by decide), if_pos rfl] at h; exact h
      rw [hT, Ct.bs_prf]
      clear HL hT
      rw [show bsA ([112, 114, 101, 102, 32, 61, 32] ++ Lib.decDigits P4.toNat) = (⟨#[112, 114, 101, 102, 32, 61, 32]⟩ ++ bsA (Lib.decDigits P4.toNat) : ByteArray) from (lit_app _ _).symm]
      have sz : (bsA (Lib.decDigits P4.toNat)).size ≤ 10 := by rw [bsA_size]; exact n4
      generalize bsA (Lib.decDigits P4.toNat) = s at *
      have c1 : (9223372036854775807 < 7 + s.size) = False := eq_false (by omega)
      go_enter Tryz.func11, Tryz.ntmps11
      go_wp2_with (first
        | (go_at_call 28; refine (unhide HAT).mono ?_; rintro e w' ⟨rfl, rfl⟩)
        | (go_at_call 22; refine (unhide HP).mono ?_; clear HP; rintro e w' ⟨rfl, rfl⟩)
        | (go_at_call 22; refine (unhide HPJ).mono ?_; clear HPJ; rintro e w' ⟨rfl, rfl⟩)
        | (go_at_call 22; refine (unhide HP4).mono ?_; clear HP4; rintro e w' ⟨rfl, rfl⟩)
        | (go_at_call 24; refine (unhide HI4).mono ?_; clear HI4; rintro e w1 ⟨rfl, hb1⟩; have HB := hide hb1; clear hb1))
      go_ret
      exact ⟨rfl, unhide HB⟩
    · have hT : T = .med P4.toNat := by
        have h := unhide HL
        rw [if_neg (by decide), if_neg (by decide), if_neg (by decide), if_neg (by decide), if_neg (by decide)] at h; exact h
      rw [hT, Ct.bs_med]
      clear HL hT
      rw [show bsA ([109, 101, 100, 32, 43, 32, 49, 32, 60, 32, 112, 114, 101, 102, 32, 43, 32] ++ Lib.decDigits P4.toNat) = (⟨#[109, 101, 100, 32, 43, 32, 49, 32, 60, 32, 112, 114, 101, 102, 32, 43, 32]⟩ ++ bsA (Lib.decDigits P4.toNat) : ByteArray) from (lit_app _ _).symm]
      have sz : (bsA (Lib.decDigits P4.toNat)).size ≤ 10 := by rw [bsA_size]; exact n4
      generalize bsA (Lib.decDigits P4.toNat) = s at *
      have c1 : (9223372036854775807 < 17 + s.size) = False := eq_false (by omega)
      go_enter Tryz.func11, Tryz.ntmps11
      go_wp2_with (first
        | (go_at_call 28; refine (unhide HAT).mono ?_; rintro e w' ⟨rfl, rfl⟩)
        | (go_at_call 22; refine (unhide HP).mono ?_; clear HP; rintro e w' ⟨rfl, rfl⟩)
        | (go_at_call 22; refine (unhide HPJ).mono ?_; clear HPJ; rintro e w' ⟨rfl, rfl⟩)
        | (go_at_call 22; refine (unhide HP4).mono ?_; clear HP4; rintro e w' ⟨rfl, rfl⟩)
        | (go_at_call 24; refine (unhide HI4).mono ?_; clear HI4; rintro e w1 ⟨rfl, hb1⟩; have HB := hide hb1; clear hb1))
      go_ret
      exact ⟨rfl, unhide HB⟩
theorem not_cat (a : List UInt8) : (⟨#[110, 111, 116, 32]⟩ ++ bsA a : ByteArray) = bsA ([110, 111, 116, 32] ++ a) := by rw [app_bsA]
theorem and_cat (a b : List UInt8) : (⟨#[91, 32]⟩ ++ bsA a ++ ⟨#[32, 97, 110, 100, 32]⟩ ++ bsA b ++ ⟨#[32, 93]⟩ : ByteArray) = bsA ([91, 32] ++ a ++ [32, 97, 110, 100, 32] ++ b ++ [32, 93]) := by
  rw [app_bsA, app_bsA, app_bsA, app_bsA]
theorem or_cat (a b : List UInt8) : (⟨#[91, 32]⟩ ++ bsA a ++ ⟨#[32, 111, 114, 32]⟩ ++ bsA b ++ ⟨#[32, 93]⟩ : ByteArray) = bsA ([91, 32] ++ a ++ [32, 111, 114, 32] ++ b ++ [32, 93]) := by
  rw [app_bsA, app_bsA, app_bsA, app_bsA]
set_option maxRecDepth 100000 in
set_option maxHeartbeats 4000000 in
theorem cond_node (l : List Int) (v : Value) (i d : Nat) (hi : i ≤ 1000) (hd : d ≤ 1000) (W : World) (hv : IntsAt W v l) (a b : Ct) (ha : a.bs.length ≤ 1000) (hb : b.bs.length ≤ 1000) (h3 : ¬ 5 ≤ pickP (atP l i) 8)
    (H1 : ∀ V, Below W.heap.size W V → Calls Tryz.prog 11 #[v, .int .i64 (2 * i + 1 : Nat), .int .i64 d] V fun e w' => e = .returned (.string (bsA a.bs)) ∧ Below V.heap.size V w')
    (H2 : ∀ V, Below W.heap.size W V → Calls Tryz.prog 11 #[v, .int .i64 (2 * i + 2 : Nat), .int .i64 d] V fun e w' => e = .returned (.string (bsA b.bs)) ∧ Below V.heap.size V w') :
    Calls Tryz.prog 11 #[v, .int .i64 i, .int .i64 (d + 1 : Nat)] W fun e w' => e = .returned (.string (bsA (nodeC (pickP (atP l i) 8) a b).bs)) ∧ Below W.heap.size W w' := by
  have HAT := hide (at_any l i v W hi hv)
  have hin : inI (atP l i) := by
    obtain ⟨_, _, _, _, _, hin, _⟩ := hv
    exact atP_in hin i
  unfold inI at hin
  obtain ⟨pa, pn, pc, hpv⟩ := reads_form (ints_reads hv)
  generalize atP l i = X at *
  have hk := pickP_bd (c := X) (n := 8) (by omega)
  have HP := hide (pick_any X 8 W hin.1 hin.2 (by omega) (by omega))
  generalize pickP X 8 = K at *
  have e1 : ((2 * i + 1 : Nat) : Int) = 2 * (i : Int) + 1 := by omega
  have e2 : ((2 * i + 2 : Nat) : Int) = 2 * (i : Int) + 2 := by omega
  have e3 : ((d + 1 : Nat) : Int) = (d : Int) + 1 := by omega
  rw [e1] at H1
  rw [e2] at H2
  rw [e3]
  have HH1 := hide H1
  have HH2 := hide H2
  have sa : (bsA a.bs).size ≤ 1000 := by rw [bsA_size]; exact ha
  have sb : (bsA b.bs).size ≤ 1000 := by rw [bsA_size]; exact hb
  have hdi : (0 : Int) < (d : Int) + 1 := by omega
  clear hv H1 H2 ha hb
  subst hpv
  rcases (show K = 0 ∨ K = 1 ∨ K = 2 ∨ K = 3 ∨ K = 4 by omega) with rfl | rfl | rfl | rfl | rfl
  · have HE : Hid (bsA (nodeC 0 a b).bs = ⟨#[110, 111, 116, 32]⟩ ++ bsA a.bs) := by
      show bsA (Ct.not a).bs = _
      rw [Ct.bs_not, not_cat]
    rw [unhide HE]
    clear h3 hk HE
    generalize bsA a.bs = s at *
    generalize bsA b.bs = t at *
    have c1 : (9223372036854775807 < 4 + s.size) = False := eq_false (by omega)
    go_enter Tryz.func11, Tryz.ntmps11
    go_wp2_with (first
      | (go_at_call 28; refine (unhide HAT).mono ?_; rintro e w' ⟨rfl, rfl⟩)
      | (go_at_call 22; refine (unhide HP).mono ?_; clear HP; rintro e w' ⟨rfl, rfl⟩)
      | (go_at_call 11; refine ((unhide HH1) _ (Below.refl _ _)).mono ?_; clear HH1; rintro e w1 ⟨rfl, hb1⟩; have HB := hide hb1; clear hb1))
    go_ret
    exact ⟨rfl, unhide HB⟩
  · have HE : Hid (bsA (nodeC 1 a b).bs = ⟨#[91, 32]⟩ ++ bsA a.bs ++ ⟨#[32, 97, 110, 100, 32]⟩ ++ bsA b.bs ++ ⟨#[32, 93]⟩) := by
      show bsA (Ct.and a b).bs = _
      rw [Ct.bs_and, and_cat]
    rw [unhide HE]
    clear h3 hk HE
    generalize bsA a.bs = s at *
    generalize bsA b.bs = t at *
    have c1 : (9223372036854775807 < 2 + s.size) = False := eq_false (by omega)
    have c2 : (9223372036854775807 < 2 + s.size + 5) = False := eq_false (by omega)
    have c3 : (9223372036854775807 < 2 + s.size + 5 + t.size) = False := eq_false (by omega)
    have c4 : (9223372036854775807 < 2 + s.size + 5 + t.size + 2) = False := eq_false (by omega)
    go_enter Tryz.func11, Tryz.ntmps11
    go_wp2_with (first
      | (go_at_call 28; refine (unhide HAT).mono ?_; rintro e w' ⟨rfl, rfl⟩)
      | (go_at_call 22; refine (unhide HP).mono ?_; clear HP; rintro e w' ⟨rfl, rfl⟩)
      | (go_at_call 11; refine ((unhide HH1) _ (Below.refl _ _)).mono ?_; clear HH1; rintro e w1 ⟨rfl, hb1⟩; have HB := hide hb1; clear hb1)
      | (go_at_call 11; refine ((unhide HH2) _ (unhide HB)).mono ?_; clear HH2; rintro e w2 ⟨rfl, hb2⟩; have HB2 := hide ((unhide HB).trans (hb2.mono (unhide HB).size)); clear hb2))
    go_ret
    exact ⟨rfl, unhide HB2⟩
  · have HE : Hid (bsA (nodeC 2 a b).bs = ⟨#[91, 32]⟩ ++ bsA a.bs ++ ⟨#[32, 97, 110, 100, 32]⟩ ++ bsA b.bs ++ ⟨#[32, 93]⟩) := by
      show bsA (Ct.and a b).bs = _
      rw [Ct.bs_and, and_cat]
    rw [unhide HE]
    clear h3 hk HE
    generalize bsA a.bs = s at *
    generalize bsA b.bs = t at *
    have c1 : (9223372036854775807 < 2 + s.size) = False := eq_false (by omega)
    have c2 : (9223372036854775807 < 2 + s.size + 5) = False := eq_false (by omega)
    have c3 : (9223372036854775807 < 2 + s.size + 5 + t.size) = False := eq_false (by omega)
    have c4 : (9223372036854775807 < 2 + s.size + 5 + t.size + 2) = False := eq_false (by omega)
    go_enter Tryz.func11, Tryz.ntmps11
    go_wp2_with (first
      | (go_at_call 28; refine (unhide HAT).mono ?_; rintro e w' ⟨rfl, rfl⟩)
      | (go_at_call 22; refine (unhide HP).mono ?_; clear HP; rintro e w' ⟨rfl, rfl⟩)
      | (go_at_call 11; refine ((unhide HH1) _ (Below.refl _ _)).mono ?_; clear HH1; rintro e w1 ⟨rfl, hb1⟩; have HB := hide hb1; clear hb1)
      | (go_at_call 11; refine ((unhide HH2) _ (unhide HB)).mono ?_; clear HH2; rintro e w2 ⟨rfl, hb2⟩; have HB2 := hide ((unhide HB).trans (hb2.mono (unhide HB).size)); clear hb2))
    go_ret
    exact ⟨rfl, unhide HB2⟩
  · have HE : Hid (bsA (nodeC 3 a b).bs = ⟨#[91, 32]⟩ ++ bsA a.bs ++ ⟨#[32, 111, 114, 32]⟩ ++ bsA b.bs ++ ⟨#[32, 93]⟩) := by
      show bsA (Ct.or a b).bs = _
      rw [Ct.bs_or, or_cat]
    rw [unhide HE]
    clear h3 hk HE
    generalize bsA a.bs = s at *
    generalize bsA b.bs = t at *
    have c1 : (9223372036854775807 < 2 + s.size) = False := eq_false (by omega)
    have c2 : (9223372036854775807 < 2 + s.size + 4) = False := eq_false (by omega)
    have c3 : (9223372036854775807 < 2 + s.size + 4 + t.size) = False := eq_false (by omega)
    have c4 : (9223372036854775807 < 2 + s.size + 4 + t.size + 2) = False := eq_false (by omega)
    go_enter Tryz.func11, Tryz.ntmps11
    go_wp2_with (first
      | (go_at_call 28; refine (unhide HAT).mono ?_; rintro e w' ⟨rfl, rfl⟩)
      | (go_at_call 22; refine (unhide HP).mono ?_; clear HP; rintro e w' ⟨rfl, rfl⟩)
      | (go_at_call 11; refine ((unhide HH1) _ (Below.refl _ _)).mono ?_; clear HH1; rintro e w1 ⟨rfl, hb1⟩; have HB := hide hb1; clear hb1)
      | (go_at_call 11; refine ((unhide HH2) _ (unhide HB)).mono ?_; clear HH2; rintro e w2 ⟨rfl, hb2⟩; have HB2 := hide ((unhide HB).trans (hb2.mono (unhide HB).size)); clear hb2))
    go_ret
    exact ⟨rfl, unhide HB2⟩
  · have HE : Hid (bsA (nodeC 4 a b).bs = ⟨#[91, 32]⟩ ++ bsA a.bs ++ ⟨#[32, 111, 114, 32]⟩ ++ bsA b.bs ++ ⟨#[32, 93]⟩) := by
      show bsA (Ct.or a b).bs = _
      rw [Ct.bs_or, or_cat]
    rw [unhide HE]
    clear h3 hk HE
    generalize bsA a.bs = s at *
    generalize bsA b.bs = t at *
    have c1 : (9223372036854775807 < 2 + s.size) = False := eq_false (by omega)
    have c2 : (9223372036854775807 < 2 + s.size + 4) = False := eq_false (by omega)
    have c3 : (9223372036854775807 < 2 + s.size + 4 + t.size) = False := eq_false (by omega)
    have c4 : (9223372036854775807 < 2 + s.size + 4 + t.size + 2) = False := eq_false (by omega)
    go_enter Tryz.func11, Tryz.ntmps11
    go_wp2_with (first
      | (go_at_call 28; refine (unhide HAT).mono ?_; rintro e w' ⟨rfl, rfl⟩)
      | (go_at_call 22; refine (unhide HP).mono ?_; clear HP; rintro e w' ⟨rfl, rfl⟩)
      | (go_at_call 11; refine ((unhide HH1) _ (Below.refl _ _)).mono ?_; clear HH1; rintro e w1 ⟨rfl, hb1⟩; have HB := hide hb1; clear hb1)
      | (go_at_call 11; refine ((unhide HH2) _ (unhide HB)).mono ?_; clear HH2; rintro e w2 ⟨rfl, hb2⟩; have HB2 := hide ((unhide HB).trans (hb2.mono (unhide HB).size)); clear hb2))
    go_ret
    exact ⟨rfl, unhide HB2⟩
theorem cond_any (l : List Int) (v : Value) : ∀ (d i : Nat), d ≤ 2 → (i + 2) * 2 ^ d ≤ 1000 → ∀ (W : World), IntsAt W v l → PowTab W →
    Calls Tryz.prog 11 #[v, .int .i64 i, .int .i64 d] W fun e w' => e = .returned (.string (bsA (condT l d i).bs)) ∧ Below W.heap.size W w'
  | 0, i, _, hi, W, hv, hpt => cond_leaf l v i 0 (by omega) (by omega) W hv hpt (Or.inl rfl)
  | d + 1, i, hd, hi, W, hv, hpt => by
    have hi2 : i ≤ 1000 := by
      have : i + 2 ≤ (i + 2) * 2 ^ (d + 1) := Nat.le_mul_of_pos_right _ (Nat.two_pow_pos _)
      omega
    rw [condT]
    by_cases h : 5 ≤ pickP (atP l i) 8
    · rw [if_pos h]
      exact cond_leaf l v i (d + 1) hi2 (by omega) W hv hpt (Or.inr h)
    · rw [if_neg h]
      have q1 : (2 * i + 1 + 2) * 2 ^ d ≤ 1000 := by
        refine Nat.le_trans ?_ hi
        rw [Nat.pow_succ, Nat.mul_comm (2 ^ d) 2, ← Nat.mul_assoc]
        exact Nat.mul_le_mul_right _ (by omega)
      have q2 : (2 * i + 2 + 2) * 2 ^ d ≤ 1000 := by
        refine Nat.le_trans ?_ hi
        rw [Nat.pow_succ, Nat.mul_comm (2 ^ d) 2, ← Nat.mul_assoc]
        exact Nat.mul_le_mul_right _ (by omega)
      have w1 := condT_ok l d (2 * i + 1)
      have w2 := condT_ok l d (2 * i + 2)
      have b1 := Ct.bs_lt w1.1 (by omega)
      have b2 := Ct.bs_lt w2.1 (by omega)
      exact cond_node l v i d hi2 (by omega) W hv _ _ (by omega) (by omega) h
        (fun V hV => cond_any l v d (2 * i + 1) (by omega) q1 V (hv.below hV) (hpt.below hV))
        (fun V hV => cond_any l v d (2 * i + 2) (by omega) q2 V (hv.below hV) (hpt.below hV))
end Go.Proofs.YtlhhdklendeikaaGreatDoor
