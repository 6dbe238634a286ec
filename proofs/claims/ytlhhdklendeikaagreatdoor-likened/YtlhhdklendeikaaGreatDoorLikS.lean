/- Likened: what it asks of ways, plain; taken, read, like, way (package bywaykeep). -/
import Derived.Test.YtlhhdklendeikaaGreatDoorKnA
import Derived.Test.YtlhhdklendeikaaGreatDoorKnB
import Derived.Test.YtlhhdklendeikaaGreatDoorKeepB
namespace Go.Proofs.YtlhhdklendeikaaGreatDoor
open Go.RowKit

noncomputable def isL (L : WayM) (l : List Int) : Bool := @decide (L l) (Classical.propDecidable _)
theorem isL_iff {L : WayM} {l : List Int} : isL L l = true ↔ L l := by unfold isL; exact @decide_eq_true_iff _ (Classical.propDecidable _)
/-- parted somewhere ahead of k -/
noncomputable def partTo (A B : WayM) (l : List Int) : Nat → Bool
  | 0 => false
  | k + 1 => partTo A B l k || (isL A (l.take k) && isL B (l.drop k))
noncomputable def turnTo (A S : WayM) (l : List Int) : Nat → Bool
  | 0 => false
  | k + 1 => turnTo A S l k || (decide (0 < k) && (isL A (l.take k) && isL S (l.drop k)))
theorem partTo_iff (A B : WayM) (l : List Int) : ∀ k, partTo A B l k = true ↔ ∃ i, i < k ∧ A (l.take i) ∧ B (l.drop i)
  | 0 => by simp [partTo]
  | k + 1 => by
    rw [partTo, Bool.or_eq_true, partTo_iff A B l k, Bool.and_eq_true, isL_iff, isL_iff]
    constructor
    · rintro (⟨i, h1, h2⟩ | h)
      · exact ⟨i, by omega, h2⟩
      · exact ⟨k, by omega, h⟩
    · rintro ⟨i, h1, h2⟩
      rcases Nat.lt_or_ge i k with h | h
      · exact Or.inl ⟨i, h, h2⟩
      · obtain rfl : i = k := by omega
        exact Or.inr h2
theorem turnTo_iff (A S : WayM) (l : List Int) : ∀ k, turnTo A S l k = true ↔ ∃ i, i < k ∧ 0 < i ∧ A (l.take i) ∧ S (l.drop i)
  | 0 => by simp [turnTo]
  | k + 1 => by
    rw [turnTo, Bool.or_eq_true, turnTo_iff A S l k, Bool.and_eq_true, Bool.and_eq_true, isL_iff, isL_iff, decide_eq_true_eq]
    constructor
    · rintro (⟨i, h1, h2⟩ | h)
      · exact ⟨i, by omega, h2⟩
      · exact ⟨k, by omega, h⟩
    · rintro ⟨i, h1, h2⟩
      rcases Nat.lt_or_ge i k with h | h
      · exact Or.inl ⟨i, h, h2⟩
      · obtain rfl : i = k := by omega
        exact Or.inr h2
theorem or_law (A B : WayM) (l : List Int) : isL (orL A B) l = (isL A l || isL B l) := by
  rw [Bool.eq_iff_iff, Bool.or_eq_true, isL_iff, isL_iff, isL_iff]; exact Iff.rfl
theorem cat_law (A B : WayM) (l : List Int) : isL (catL A B) l = partTo A B l (l.length + 1) := by
  rw [Bool.eq_iff_iff, isL_iff, partTo_iff]
  constructor
  · rintro ⟨a, b, h1, h2, h3⟩
    subst h1
    exact ⟨a.length, by simp; omega, by simpa using h2, by simpa using h3⟩
  · rintro ⟨i, _, h2, h3⟩
    exact ⟨_, _, (List.take_append_drop i l).symm, h2, h3⟩
theorem opt_law (A : WayM) (l : List Int) : isL (optL A) l = (decide (l.length = 0) || isL A l) := by
  rw [Bool.eq_iff_iff, Bool.or_eq_true, isL_iff, isL_iff, decide_eq_true_eq, List.length_eq_zero_iff]; exact Iff.rfl
theorem plus_parts {A : WayM} {p : List Int} (h : PlusL A p) : A p ∨ ∃ i, i < p.length + 1 ∧ 0 < i ∧ A (p.take i) ∧ optL (PlusL A) (p.drop i) := by
  induction h with
  | one h => exact Or.inl h
  | @more a b ha hb ih =>
    cases a with
    | nil => exact ih
    | cons x a =>
      right
      refine ⟨(x :: a).length, by simp; omega, by simp, ?_, ?_⟩
      · rw [List.take_left]; exact ha
      · rw [List.drop_left]; exact Or.inr hb
theorem parts_plus {A : WayM} {p : List Int} {i : Nat} (h1 : A (p.take i)) (h2 : optL (PlusL A) (p.drop i)) : PlusL A p := by
  rcases h2 with h2 | h2
  · have : p.take i = p := by
      have := List.take_append_drop i p
      rw [h2, List.append_nil] at this; exact this
    rw [this] at h1; exact .one h1
  · have := PlusL.more h1 h2
    rw [List.take_append_drop] at this; exact this
theorem plus_law (A : WayM) (l : List Int) : isL (PlusL A) l = (turnTo A (optL (PlusL A)) l (l.length + 1) || isL A l) := by
  rw [Bool.eq_iff_iff, Bool.or_eq_true, isL_iff, isL_iff, turnTo_iff]
  constructor
  · intro h
    rcases plus_parts h with h | h
    · exact Or.inr h
    · exact Or.inl h
  · rintro (⟨i, _, _, h1, h2⟩ | h)
    · exact parts_plus h1 h2
    · exact .one h
theorem star_law (A : WayM) (l : List Int) : isL (optL (PlusL A)) l = (decide (l.length = 0) || turnTo A (optL (PlusL A)) l (l.length + 1)) := by
  rw [opt_law, plus_law]
  by_cases h : l.length = 0
  · simp [h]
  · rw [decide_eq_false h, Bool.false_or, Bool.false_or, Bool.eq_iff_iff, Bool.or_eq_true]
    constructor
    · rintro (h1 | h1)
      · exact h1
      · rw [turnTo_iff]
        exact ⟨l.length, by omega, by omega, by rw [List.take_length]; exact isL_iff.1 h1, Or.inl (List.drop_length)⟩
    · exact Or.inl
/-! ## taken, read, like -/
def pR (l : List Int) : Rt := ⟨0, 0, l, [], 0, 0⟩
theorem like_runM (L : WayM) (l : List Int) : (runM (likeMs L) (pR l)).2 = if isL L l then 1 else 2 := by
  have h0 : likeM L (pR l) = some (isL L l) := rfl
  unfold runM likeMs performM performM chooseM
  rw [h0]
  cases h : isL L l <;> simp [performM, concludeM]
set_option maxRecDepth 100000 in
set_option maxHeartbeats 2000000 in
theorem takenP_any {w1 : World} {A : Nat → Prop} {pp : Nat} {L : WayM} (hl : Lasts w1 A (PolC pp (likeMs L))) (W : World) (hW : Below w1.heap.size w1 W) (l : List Int) (pv : Value) (hp : IntsAt W pv l) (ho : pathOk l) :
    Calls Tryz.prog 25 #[ptr4 pp 0, rtV (pR l) pv (.slice none 0 0)] W fun e w' => e = .returned (.bool (isL L l)) ∧ Below W.heap.size W w' := by
  have hok : rtOk (pR l) = true := decide_eq_true ⟨(by decide : netOk (0, 0)), ho, (by decide : marksOk []), ⟨by show (0 : Int) ≤ 0; omega, by show (0 : Int) ≤ 4294967295; omega⟩, ⟨by show (0 : Int) ≤ 0; omega, by show (0 : Int) ≤ 4294967295; omega⟩⟩
  have hn : l.length ≤ 12 := ho.1
  have HC := hide (fun (W' : World) (h : Below W.heap.size W W') => run_ok hl W' (hW.trans (h.mono hW.size)) (pR l) pv (.slice none 0 0) (hp.below h) (ints_none _) (by unfold inI pR; dsimp only; omega) (by unfold inI pR; dsimp only; omega) hn (by simp [pR]) hok)
  have hv := like_runM L l
  have HA := hide ((Below.refl W.heap.size W).alloc (Nat.le_refl _) (rtBlk (pR l) pv (.slice none 0 0)))
  obtain ⟨pa, pn, pc, hpv⟩ := reads_form (ints_reads hp)
  clear hl hW hok hp ho
  subst hpv
  generalize runM (likeMs L) (pR l) = R at *
  obtain ⟨r1, v⟩ := R
  dsimp only at hv
  have hv' : (v = 1 ∧ isL L l = true) ∨ (v = 2 ∧ isL L l = false) := by
    cases h : isL L l
    · rw [h] at hv; exact Or.inr ⟨hv, rfl⟩
    · rw [h] at hv; exact Or.inl ⟨hv, rfl⟩
  clear hv
  generalize isL L l = B at *
  unfold pR
  rcases hv' with ⟨rfl, rfl⟩ | ⟨rfl, rfl⟩
  · go_enter Tryz.func25, Tryz.ntmps25
    go_wp2_with (go_at_call 14; refine ((unhide HC) _ (unhide HA)).mono ?_; clear HC; rintro e w2 ⟨pv', mv', rfl, hv2, hb2⟩; obtain ⟨fa, fc, rfl⟩ := owns_form' hv2.1; obtain ⟨ga, gc, rfl⟩ := owns_form' hv2.2.1; clear hv2; have HB2 := hide hb2; clear hb2)
    go_ret
    exact ⟨rfl, (unhide HA).trans (((unhide HB2).mono (unhide HA).size).alloc (by have := (unhide HA).size; have := (unhide HB2).size; omega) _)⟩
  · go_enter Tryz.func25, Tryz.ntmps25
    go_wp2_with (go_at_call 14; refine ((unhide HC) _ (unhide HA)).mono ?_; clear HC; rintro e w2 ⟨pv', mv', rfl, hv2, hb2⟩; obtain ⟨fa, fc, rfl⟩ := owns_form' hv2.1; obtain ⟨ga, gc, rfl⟩ := owns_form' hv2.2.1; clear hv2; have HB2 := hide hb2; clear hb2)
    go_ret
    exact ⟨rfl, (unhide HA).trans (((unhide HB2).mono (unhide HA).size).alloc (by have := (unhide HA).size; have := (unhide HB2).size; omega) _)⟩
set_option maxRecDepth 100000 in
set_option maxHeartbeats 2000000 in
theorem read_any {w1 : World} {A : Nat → Prop} {pp : Nat} {L : WayM} (hl : Lasts w1 A (PolC pp (likeMs L))) (W : World) (hW : Below w1.heap.size w1 W) (l : List Int) (pv : Value) (hp : IntsAt W pv l) (ho : pathOk l) :
    Calls Tryz.prog 20 #[ptr4 pp 0, pv] W fun e w' => e = .returned (.bool (isL L l)) ∧ Below W.heap.size W w' := by
  have HC := hide (takenP_any hl W hW l pv hp ho)
  obtain ⟨pa, pn, pc, hpv⟩ := reads_form (ints_reads hp)
  clear hl hW hp ho
  subst hpv
  generalize isL L l = B at *
  unfold pR at HC
  go_enter Tryz.func20, Tryz.ntmps20
  go_wp2_with (go_at_call 25; refine (unhide HC).mono ?_; clear HC; rintro e w2 ⟨rfl, hb2⟩; have HB2 := hide hb2; clear hb2)
  go_ret
  exact ⟨rfl, unhide HB2⟩
theorem like_cat (b : List UInt8) : (⟨#[119, 97, 121, 32, 119, 32, 61, 32]⟩ ++ bsA b ++ ⟨#[59, 32, 105, 102, 32, 112, 97, 116, 104, 32, 108, 105, 107, 101, 32, 119, 32, 116, 104, 101, 110, 32, 123, 32, 97, 99, 99, 101, 112, 116, 59, 32, 125]⟩ : ByteArray) = bsA (likeB b) := by
  show bsA [119, 97, 121, 32, 119, 32, 61, 32] ++ bsA b ++ bsA [59, 32, 105, 102, 32, 112, 97, 116, 104, 32, 108, 105, 107, 101, 32, 119, 32, 116, 104, 101, 110, 32, 123, 32, 97, 99, 99, 101, 112, 116, 59, 32, 125] = _
  rw [bsA_app, bsA_app]; rfl
set_option maxRecDepth 100000 in
set_option maxHeartbeats 2000000 in
theorem like_any (q : Top) (ho : q.ok) (w : World) (ht : TokTabs w) :
    Calls Tryz.prog 18 #[.string (bsA q.bs)] w fun e w' => ∃ pp, e = .returned (ptr4 pp 0) ∧ Below w.heap.size w w' ∧ Lasts w' (fun k => w.heap.size ≤ k) (PolC pp (likeMs q.L)) := by
  have HC := hide (compiled_ok (like_read q ho) w ht)
  rw [← like_cat] at HC
  have hs : (bsA q.bs).size ≤ 300 := by rw [bsA_size]; have := Top.bs_lt ho; omega
  clear ht ho
  generalize bsA q.bs = s at *
  have c1 : (9223372036854775807 < 8 + s.size) = False := eq_false (by omega)
  have c2 : (9223372036854775807 < 8 + s.size + 33) = False := eq_false (by omega)
  go_enter Tryz.func18, Tryz.ntmps18
  go_wp2_with (go_at_call 10; refine (unhide HC).mono ?_; rintro e w1 ⟨pp, rfl, hb, hl⟩; have HX := hide (And.intro hb hl); clear hb hl)
  go_ret
  exact ⟨pp, rfl, (unhide HX).1, (unhide HX).2⟩
end Go.Proofs.YtlhhdklendeikaaGreatDoor

namespace Go.Proofs.YtlhhdklendeikaaGreatDoor
open Go.RowKit

def leafT (x : Int) : Wt := if pickP x 9 % 3 = 0 then .dot else .num (1 + pickP (x.tdiv 9) 3).toNat
def nodeT (k : Int) (a b : Wt) : Wt := if k = 3 then .rep 42 a else if k = 4 then .rep 43 a else if k = 5 then .rep 63 a else if k = 6 then .alt a b else .cat a b
def wayT (l : List Int) : Nat → Nat → Wt
  | 0, i => leafT (atP l i)
  | d + 1, i => if pickP (atP l i) 9 < 3 then leafT (atP l i) else nodeT (pickP (atP l i) 9) (wayT l d (2 * i + 1)) (wayT l d (2 * i + 2))
theorem leafT_ok (x : Int) : (leafT x).ok ∧ (leafT x).h = 0 := by
  have h := pickP_bd (c := x.tdiv 9) (n := 3) (by omega)
  unfold leafT
  split
  · exact ⟨trivial, rfl⟩
  · exact ⟨⟨by omega, by omega⟩, rfl⟩
theorem nodeT_ok {k : Int} {a b : Wt} (ha : a.ok) (hb : b.ok) {n : Nat} (h1 : a.h ≤ n) (h2 : b.h ≤ n) : (nodeT k a b).ok ∧ (nodeT k a b).h ≤ n + 1 := by
  unfold nodeT
  split
  · exact ⟨⟨Or.inl rfl, ha⟩, by simp only [Wt.h]; omega⟩
  · split
    · exact ⟨⟨Or.inr (Or.inl rfl), ha⟩, by simp only [Wt.h]; omega⟩
    · split
      · exact ⟨⟨Or.inr (Or.inr rfl), ha⟩, by simp only [Wt.h]; omega⟩
      · split
        · exact ⟨⟨ha, hb⟩, by simp only [Wt.h]; omega⟩
        · exact ⟨⟨ha, hb⟩, by simp only [Wt.h]; omega⟩
theorem wayT_ok (l : List Int) : ∀ d i, (wayT l d i).ok ∧ (wayT l d i).h ≤ d
  | 0, i => ⟨(leafT_ok _).1, Nat.le_of_eq (leafT_ok _).2⟩
  | d + 1, i => by
    rw [wayT]
    split
    · exact ⟨(leafT_ok _).1, by rw [(leafT_ok _).2]; omega⟩
    · exact nodeT_ok (wayT_ok l d _).1 (wayT_ok l d _).1 (wayT_ok l d _).2 (wayT_ok l d _).2
theorem num_bs (n : Nat) : (Wt.num n).bs = Lib.decDigits n := by show Lib.decDigits n ++ [] = _; simp
set_option maxRecDepth 100000 in
set_option maxHeartbeats 4000000 in
theorem way_leaf (l : List Int) (v : Value) (i d : Nat) (hi : i ≤ 1000) (hd : d ≤ 1000) (W : World) (hv : IntsAt W v l) (hpt : PowTab W) (h : d = 0 ∨ pickP (atP l i) 9 < 3) :
    Calls Tryz.prog 17 #[v, .int .i64 i, .int .i64 d] W fun e w' => e = .returned (.string (bsA (leafT (atP l i)).bs)) ∧ Below W.heap.size W w' := by
  have HAT := hide (at_any l i v W hi hv)
  have hin : inI (atP l i) := by
    obtain ⟨_, _, _, _, _, hin, _⟩ := hv
    exact atP_in hin i
  unfold inI at hin
  obtain ⟨pa, pn, pc, hpv⟩ := reads_form (ints_reads hv)
  have HL : Hid (leafT (atP l i) = if pickP (atP l i) 9 % 3 = 0 then .dot else .num (1 + pickP ((atP l i).tdiv 9) 3).toNat) := rfl
  generalize leafT (atP l i) = T at *
  generalize atP l i = X at *
  have hk := pickP_bd (c := X) (n := 9) (by omega)
  have HP := hide (pick_any X 9 W hin.1 hin.2 (by omega) (by omega))
  have d9 := tdiv_in hin.1 hin.2 (k := 9) (by omega)
  have hp3 := pickP_bd (c := X.tdiv 9) (n := 3) (by omega)
  have HP3 := hide (pick_any (X.tdiv 9) 3 W (by omega) (by omega) (by omega) (by omega))
  have HIT := hide (itoa_any (1 + pickP (X.tdiv 9) 3).toNat (by omega) W hpt)
  rw [Int.toNat_of_nonneg (by omega)] at HIT
  generalize pickP X 9 = K at *
  generalize pickP (X.tdiv 9) 3 = P at *
  clear hv hpt
  subst hpv
  have hkk : K = 0 ∨ K = 1 ∨ K = 2 ∨ K = 3 ∨ K = 4 ∨ K = 5 ∨ K = 6 ∨ K = 7 ∨ K = 8 := by omega
  clear hk
  by_cases hd0 : d = 0
  · subst hd0
    clear h
    rcases hkk with rfl | rfl | rfl | rfl | rfl | rfl | rfl | rfl | rfl <;>
    · first
        | (have HL2 : Hid (T = .dot) := (unhide HL).trans (if_pos (by decide)))
        | (have HL2 : Hid (T = .num (1 + P).toNat) := (unhide HL).trans (if_neg (by decide)))
      rw [unhide HL2]
      try rw [num_bs]
      go_enter Tryz.func17, Tryz.ntmps17
      go_wp2_with (first
        | (go_at_call 28; refine (unhide HAT).mono ?_; rintro e w' ⟨rfl, rfl⟩)
        | (go_at_call 22; refine (unhide HP).mono ?_; clear HP; rintro e w' ⟨rfl, rfl⟩)
        | (go_at_call 22; refine (unhide HP3).mono ?_; clear HP3; rintro e w' ⟨rfl, rfl⟩)
        | (go_at_call 24; refine (unhide HIT).mono ?_; clear HIT; rintro e w1 ⟨rfl, hb1⟩; have HB := hide hb1; clear hb1))
      go_ret
      first
        | exact ⟨rfl, unhide HB⟩
        | exact ⟨rfl, Below.refl _ _⟩
  · have hk3 : K < 3 := h.resolve_left hd0
    have hdb : ((d : Int) == 0) = false := by simpa using hd0
    clear h hd0
    rcases hkk with rfl | rfl | rfl | rfl | rfl | rfl | rfl | rfl | rfl
    rotate_left 3
    all_goals first
      | (exfalso; omega)
      | skip
    all_goals
      first
        | (have HL2 : Hid (T = .dot) := (unhide HL).trans (if_pos (by decide)))
        | (have HL2 : Hid (T = .num (1 + P).toNat) := (unhide HL).trans (if_neg (by decide)))
      rw [unhide HL2]
      try rw [num_bs]
      clear hk3
      go_enter Tryz.func17, Tryz.ntmps17
      go_wp2_with (first
        | (go_at_call 28; refine (unhide HAT).mono ?_; rintro e w' ⟨rfl, rfl⟩)
        | (go_at_call 22; refine (unhide HP).mono ?_; clear HP; rintro e w' ⟨rfl, rfl⟩)
        | (go_at_call 22; refine (unhide HP3).mono ?_; clear HP3; rintro e w' ⟨rfl, rfl⟩)
        | (go_at_call 24; refine (unhide HIT).mono ?_; clear HIT; rintro e w1 ⟨rfl, hb1⟩; have HB := hide hb1; clear hb1))
      go_ret
      first
        | exact ⟨rfl, unhide HB⟩
        | exact ⟨rfl, Below.refl _ _⟩
theorem rep_cat (c : UInt8) (a : List UInt8) : (⟨#[40, 32]⟩ ++ bsA a ++ ⟨#[32, 41, 32, c]⟩ : ByteArray) = bsA ([40, 32] ++ a ++ [32, 41, 32, c]) := by
  show bsA [40, 32] ++ bsA a ++ bsA [32, 41, 32, c] = _
  rw [bsA_app, bsA_app]
theorem alt_cat (a b : List UInt8) : (⟨#[40, 32]⟩ ++ bsA a ++ ⟨#[32, 124, 32]⟩ ++ bsA b ++ ⟨#[32, 41]⟩ : ByteArray) = bsA ([40, 32] ++ a ++ [32, 124, 32] ++ b ++ [32, 41]) := by
  show bsA [40, 32] ++ bsA a ++ bsA [32, 124, 32] ++ bsA b ++ bsA [32, 41] = _
  rw [bsA_app, bsA_app, bsA_app, bsA_app]
theorem cat_cat (a b : List UInt8) : (⟨#[40, 32]⟩ ++ bsA a ++ ⟨#[32]⟩ ++ bsA b ++ ⟨#[32, 41]⟩ : ByteArray) = bsA ([40, 32] ++ a ++ [32] ++ b ++ [32, 41]) := by
  show bsA [40, 32] ++ bsA a ++ bsA [32] ++ bsA b ++ bsA [32, 41] = _
  rw [bsA_app, bsA_app, bsA_app, bsA_app]
set_option maxRecDepth 100000 in
set_option maxHeartbeats 4000000 in
theorem way_node (l : List Int) (v : Value) (i d : Nat) (hi : i ≤ 1000) (hd : d ≤ 1000) (W : World) (hv : IntsAt W v l) (a b : Wt) (ha : a.bs.length ≤ 1000) (hb : b.bs.length ≤ 1000) (h3 : ¬ pickP (atP l i) 9 < 3)
    (H1 : ∀ V, Below W.heap.size W V → Calls Tryz.prog 17 #[v, .int .i64 (2 * i + 1 : Nat), .int .i64 d] V fun e w' => e = .returned (.string (bsA a.bs)) ∧ Below V.heap.size V w')
    (H2 : ∀ V, Below W.heap.size W V → Calls Tryz.prog 17 #[v, .int .i64 (2 * i + 2 : Nat), .int .i64 d] V fun e w' => e = .returned (.string (bsA b.bs)) ∧ Below V.heap.size V w') :
    Calls Tryz.prog 17 #[v, .int .i64 i, .int .i64 (d + 1 : Nat)] W fun e w' => e = .returned (.string (bsA (nodeT (pickP (atP l i) 9) a b).bs)) ∧ Below W.heap.size W w' := by
  have HAT := hide (at_any l i v W hi hv)
  have hin : inI (atP l i) := by
    obtain ⟨_, _, _, _, _, hin, _⟩ := hv
    exact atP_in hin i
  unfold inI at hin
  obtain ⟨pa, pn, pc, hpv⟩ := reads_form (ints_reads hv)
  generalize atP l i = X at *
  have hk := pickP_bd (c := X) (n := 9) (by omega)
  have HP := hide (pick_any X 9 W hin.1 hin.2 (by omega) (by omega))
  generalize pickP X 9 = K at *
  have e1 : ((2 * i + 1 : Nat) : Int) = 2 * (i : Int) + 1 := by omega
  have e2 : ((2 * i + 2 : Nat) : Int) = 2 * (i : Int) + 2 := by omega
  have e3 : ((d + 1 : Nat) : Int) = (d : Int) + 1 := by omega
  have e4 : ((d : Int) + 1 == 0) = false := by simp; omega
  rw [e1] at H1
  rw [e2] at H2
  rw [e3]
  have HH1 := hide H1
  have HH2 := hide H2
  have sa : (bsA a.bs).size ≤ 1000 := by rw [bsA_size]; exact ha
  have sb : (bsA b.bs).size ≤ 1000 := by rw [bsA_size]; exact hb
  clear hv H1 H2 ha hb
  subst hpv
  rcases (show K = 3 ∨ K = 4 ∨ K = 5 ∨ K = 6 ∨ K = 7 ∨ K = 8 by omega) with rfl | rfl | rfl | rfl | rfl | rfl
  · have HE : Hid (bsA (nodeT 3 a b).bs = ⟨#[40, 32]⟩ ++ bsA a.bs ++ ⟨#[32, 41, 32, 42]⟩) := by
      show bsA (Wt.rep 42 a).bs = _
      rw [Wt.bs_rep, rep_cat]
    rw [unhide HE]
    clear h3 hk HE
    generalize bsA a.bs = s at *
    generalize bsA b.bs = t at *
    have c1 : (9223372036854775807 < 2 + s.size) = False := eq_false (by omega)
    have c2 : (9223372036854775807 < 2 + s.size + 4) = False := eq_false (by omega)
    go_enter Tryz.func17, Tryz.ntmps17
    go_wp2_with (first
      | (go_at_call 28; refine (unhide HAT).mono ?_; rintro e w' ⟨rfl, rfl⟩)
      | (go_at_call 22; refine (unhide HP).mono ?_; clear HP; rintro e w' ⟨rfl, rfl⟩)
      | (go_at_call 17; refine ((unhide HH1) _ (Below.refl _ _)).mono ?_; clear HH1; rintro e w1 ⟨rfl, hb1⟩; have HB := hide hb1; clear hb1)
      | (go_at_call 17; refine ((unhide HH2) _ (unhide HB)).mono ?_; clear HH2; rintro e w2 ⟨rfl, hb2⟩; have HB2 := hide ((unhide HB).trans (hb2.mono (unhide HB).size)); clear hb2))
    go_ret
    exact ⟨rfl, unhide HB2⟩
  · have HE : Hid (bsA (nodeT 4 a b).bs = ⟨#[40, 32]⟩ ++ bsA a.bs ++ ⟨#[32, 41, 32, 43]⟩) := by
      show bsA (Wt.rep 43 a).bs = _
      rw [Wt.bs_rep, rep_cat]
    rw [unhide HE]
    clear h3 hk HE
    generalize bsA a.bs = s at *
    generalize bsA b.bs = t at *
    have c1 : (9223372036854775807 < 2 + s.size) = False := eq_false (by omega)
    have c2 : (9223372036854775807 < 2 + s.size + 4) = False := eq_false (by omega)
    go_enter Tryz.func17, Tryz.ntmps17
    go_wp2_with (first
      | (go_at_call 28; refine (unhide HAT).mono ?_; rintro e w' ⟨rfl, rfl⟩)
      | (go_at_call 22; refine (unhide HP).mono ?_; clear HP; rintro e w' ⟨rfl, rfl⟩)
      | (go_at_call 17; refine ((unhide HH1) _ (Below.refl _ _)).mono ?_; clear HH1; rintro e w1 ⟨rfl, hb1⟩; have HB := hide hb1; clear hb1)
      | (go_at_call 17; refine ((unhide HH2) _ (unhide HB)).mono ?_; clear HH2; rintro e w2 ⟨rfl, hb2⟩; have HB2 := hide ((unhide HB).trans (hb2.mono (unhide HB).size)); clear hb2))
    go_ret
    exact ⟨rfl, unhide HB2⟩
  · have HE : Hid (bsA (nodeT 5 a b).bs = ⟨#[40, 32]⟩ ++ bsA a.bs ++ ⟨#[32, 41, 32, 63]⟩) := by
      show bsA (Wt.rep 63 a).bs = _
      rw [Wt.bs_rep, rep_cat]
    rw [unhide HE]
    clear h3 hk HE
    generalize bsA a.bs = s at *
    generalize bsA b.bs = t at *
    have c1 : (9223372036854775807 < 2 + s.size) = False := eq_false (by omega)
    have c2 : (9223372036854775807 < 2 + s.size + 4) = False := eq_false (by omega)
    go_enter Tryz.func17, Tryz.ntmps17
    go_wp2_with (first
      | (go_at_call 28; refine (unhide HAT).mono ?_; rintro e w' ⟨rfl, rfl⟩)
      | (go_at_call 22; refine (unhide HP).mono ?_; clear HP; rintro e w' ⟨rfl, rfl⟩)
      | (go_at_call 17; refine ((unhide HH1) _ (Below.refl _ _)).mono ?_; clear HH1; rintro e w1 ⟨rfl, hb1⟩; have HB := hide hb1; clear hb1)
      | (go_at_call 17; refine ((unhide HH2) _ (unhide HB)).mono ?_; clear HH2; rintro e w2 ⟨rfl, hb2⟩; have HB2 := hide ((unhide HB).trans (hb2.mono (unhide HB).size)); clear hb2))
    go_ret
    exact ⟨rfl, unhide HB2⟩
  · have HE : Hid (bsA (nodeT 6 a b).bs = ⟨#[40, 32]⟩ ++ bsA a.bs ++ ⟨#[32, 124, 32]⟩ ++ bsA b.bs ++ ⟨#[32, 41]⟩) := by
      show bsA (Wt.alt a b).bs = _
      rw [Wt.bs_alt, alt_cat]
    rw [unhide HE]
    clear h3 hk HE
    generalize bsA a.bs = s at *
    generalize bsA b.bs = t at *
    have c1 : (9223372036854775807 < 2 + s.size) = False := eq_false (by omega)
    have c2 : (9223372036854775807 < 2 + s.size + 3) = False := eq_false (by omega)
    have c3 : (9223372036854775807 < 2 + s.size + 3 + t.size) = False := eq_false (by omega)
    have c4 : (9223372036854775807 < 2 + s.size + 3 + t.size + 2) = False := eq_false (by omega)
    go_enter Tryz.func17, Tryz.ntmps17
    go_wp2_with (first
      | (go_at_call 28; refine (unhide HAT).mono ?_; rintro e w' ⟨rfl, rfl⟩)
      | (go_at_call 22; refine (unhide HP).mono ?_; clear HP; rintro e w' ⟨rfl, rfl⟩)
      | (go_at_call 17; refine ((unhide HH1) _ (Below.refl _ _)).mono ?_; clear HH1; rintro e w1 ⟨rfl, hb1⟩; have HB := hide hb1; clear hb1)
      | (go_at_call 17; refine ((unhide HH2) _ (unhide HB)).mono ?_; clear HH2; rintro e w2 ⟨rfl, hb2⟩; have HB2 := hide ((unhide HB).trans (hb2.mono (unhide HB).size)); clear hb2))
    go_ret
    exact ⟨rfl, unhide HB2⟩
  all_goals
    have HE : Hid (bsA (Wt.cat a b).bs = ⟨#[40, 32]⟩ ++ bsA a.bs ++ ⟨#[32]⟩ ++ bsA b.bs ++ ⟨#[32, 41]⟩) := by
      show bsA (Wt.cat a b).bs = _
      rw [Wt.bs_cat, cat_cat]
    first
      | rw [show nodeT 7 a b = Wt.cat a b from rfl, unhide HE]
      | rw [show nodeT 8 a b = Wt.cat a b from rfl, unhide HE]
    clear h3 hk HE
    generalize bsA a.bs = s at *
    generalize bsA b.bs = t at *
    have c1 : (9223372036854775807 < 2 + s.size) = False := eq_false (by omega)
    have c2 : (9223372036854775807 < 2 + s.size + 1) = False := eq_false (by omega)
    have c3 : (9223372036854775807 < 2 + s.size + 1 + t.size) = False := eq_false (by omega)
    have c4 : (9223372036854775807 < 2 + s.size + 1 + t.size + 2) = False := eq_false (by omega)
    go_enter Tryz.func17, Tryz.ntmps17
    go_wp2_with (first
      | (go_at_call 28; refine (unhide HAT).mono ?_; rintro e w' ⟨rfl, rfl⟩)
      | (go_at_call 22; refine (unhide HP).mono ?_; clear HP; rintro e w' ⟨rfl, rfl⟩)
      | (go_at_call 17; refine ((unhide HH1) _ (Below.refl _ _)).mono ?_; clear HH1; rintro e w1 ⟨rfl, hb1⟩; have HB := hide hb1; clear hb1)
      | (go_at_call 17; refine ((unhide HH2) _ (unhide HB)).mono ?_; clear HH2; rintro e w2 ⟨rfl, hb2⟩; have HB2 := hide ((unhide HB).trans (hb2.mono (unhide HB).size)); clear hb2))
    go_ret
    exact ⟨rfl, unhide HB2⟩
theorem way_any (l : List Int) (v : Value) : ∀ (d i : Nat), d ≤ 3 → (i + 2) * 2 ^ d ≤ 1000 → ∀ (W : World), IntsAt W v l → PowTab W →
    Calls Tryz.prog 17 #[v, .int .i64 i, .int .i64 d] W fun e w' => e = .returned (.string (bsA (wayT l d i).bs)) ∧ Below W.heap.size W w'
  | 0, i, _, hi, W, hv, hpt => way_leaf l v i 0 (by omega) (by omega) W hv hpt (Or.inl rfl)
  | d + 1, i, hd, hi, W, hv, hpt => by
    have hi2 : i ≤ 1000 := by
      have : i + 2 ≤ (i + 2) * 2 ^ (d + 1) := Nat.le_mul_of_pos_right _ (Nat.two_pow_pos _)
      omega
    rw [wayT]
    by_cases h : pickP (atP l i) 9 < 3
    · rw [if_pos h]
      exact way_leaf l v i (d + 1) hi2 (by omega) W hv hpt (Or.inr h)
    · rw [if_neg h]
      have q1 : (2 * i + 1 + 2) * 2 ^ d ≤ 1000 := by
        refine Nat.le_trans ?_ hi
        rw [Nat.pow_succ, Nat.mul_comm (2 ^ d) 2, ← Nat.mul_assoc]
        exact Nat.mul_le_mul_right _ (by omega)
      have q2 : (2 * i + 2 + 2) * 2 ^ d ≤ 1000 := by
        refine Nat.le_trans ?_ hi
        rw [Nat.pow_succ, Nat.mul_comm (2 ^ d) 2, ← Nat.mul_assoc]
        exact Nat.mul_le_mul_right _ (by omega)
      have w1 := wayT_ok l d (2 * i + 1)
      have w2 := wayT_ok l d (2 * i + 2)
      have b1 := Wt.bs_lt w1.1 (by omega)
      have b2 := Wt.bs_lt w2.1 (by omega)
      exact way_node l v i d hi2 (by omega) W hv _ _ (by omega) (by omega) h
        (fun V hV => way_any l v d (2 * i + 1) (by omega) q1 V (hv.below hV) (hpt.below hV))
        (fun V hV => way_any l v d (2 * i + 2) (by omega) q2 V (hv.below hV) (hpt.below hV))
end Go.Proofs.YtlhhdklendeikaaGreatDoor
