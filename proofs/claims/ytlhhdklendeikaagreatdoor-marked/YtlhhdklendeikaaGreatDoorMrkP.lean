/- Marked: the text that is put together, and what it means; no program. -/
import Derived.Test.YtlhhdklendeikaaGreatDoorRecA
import Derived.Test.YtlhhdklendeikaaGreatDoorRunH
import Derived.Test.YtlhhdklendeikaaGreatDoorKeepC
import Derived.Test.YtlhhdklendeikaaGreatDoorKnB
import Derived.Test.YtlhhdklendeikaaGreatDoorKpB
namespace Go.Proofs.YtlhhdklendeikaaGreatDoor
open Go.RowKit

/-- a step -/
inductive Mk where
  | put
  | drop
  | pre
abbrev Mks := List (Mk × Nat)
def Mk.wo : Mk → Nat
  | .put => 6
  | .drop => 7
  | .pre => 8
def Mk.kd : Mk → Int
  | .put => 11
  | .drop => 12
  | .pre => 13
def Mk.mean : Mk → Nat → StpM
  | .put, n => markM (n : Int)
  | .drop, n => unmarkM (n : Int)
  | .pre, n => prependM (n : Int)
def mkOk (p : Mk × Nat) : Prop := p.2 ≤ 65535 ∧ (p.1 = .pre → 1 ≤ p.2)
def mkIts (l : Mks) : List It := l.flatMap fun p => [.wo p.1.wo, .sp, .nm p.2, .sg 59, .sp]
def mkKN (l : Mks) : List (Int × Int) := l.flatMap fun p => [(p.1.kd, 0), (2, (p.2 : Int)), (27, 0)]
def mkEnd : List It := [.wo 2, .sg 59]
def mkAll (l : Mks) : List It := mkIts l ++ mkEnd
def mkMs (l : Mks) : List StpM := l.map (fun p => p.1.mean p.2) ++ [concludeM 1]
theorem mk_kn (l : Mks) (b : List It) : itKN (mkIts l ++ b) = mkKN l ++ itKN b := by
  induction l with
  | nil => rfl
  | cons p l ih =>
    obtain ⟨s, n⟩ := p
    show itKN (.wo s.wo :: .sp :: .nm n :: .sg 59 :: .sp :: (mkIts l ++ b)) = (s.kd, 0) :: (2, (n : Int)) :: (27, 0) :: (mkKN l ++ itKN b)
    have h1 : signK ((59 : UInt8).toNat : Int) = 27 := by decide +kernel
    have h2 : 5 + (s.wo : Int) = s.kd := by cases s <;> rfl
    rw [itKN, itKN, itKN, itKN, itKN, h1, h2, ← ih]
theorem mk_ok (l : Mks) (h : ∀ p ∈ l, mkOk p) : itsOk (mkIts l ++ mkEnd) = true := by
  induction l with
  | nil => decide +kernel
  | cons p l ih =>
    obtain ⟨s, n⟩ := p
    have hp := (h (s, n) List.mem_cons_self).1
    have i1 := ih (fun q hq => h q (List.mem_cons_of_mem _ hq))
    show itsOk (.wo s.wo :: .sp :: .nm n :: .sg 59 :: .sp :: (mkIts l ++ mkEnd)) = true
    have h1 : It.ok (.wo s.wo) = true := by cases s <;> rfl
    have h2 : It.ok (.nm n) = true := by
      show decide (n ≤ 4294967295) = true
      have : n ≤ 4294967295 := by dsimp only at hp; omega
      simpa using this
    have h3 : It.ok (.sg 59) = true := by decide +kernel
    have h4 : It.then_ (.nm n) (.sg 59 :: .sp :: (mkIts l ++ mkEnd)) = true := by
      show decide ((59 : UInt8).toNat ≠ 46) = true
      decide
    rw [itsOk, itsOk, itsOk, itsOk, itsOk, i1, h1, h2, h3, h4]; rfl
theorem mk_len (l : Mks) (h : ∀ p ∈ l, mkOk p) : (itBytes (mkIts l)).length ≤ 20 * l.length := by
  induction l with
  | nil => simp [mkIts, itBytes]
  | cons p l ih =>
    obtain ⟨s, n⟩ := p
    have hp := (h (s, n) List.mem_cons_self).1
    have i1 := ih (fun q hq => h q (List.mem_cons_of_mem _ hq))
    show (itBytes (.wo s.wo :: .sp :: .nm n :: .sg 59 :: .sp :: mkIts l)).length ≤ _
    have h1 : (It.bytes (.wo s.wo)).length ≤ 7 := by cases s <;> decide +kernel
    have h2 : (It.bytes (.nm n)).length ≤ 10 := dec_len (by dsimp only at hp; omega)
    have e1 : (It.bytes .sp).length = 1 := rfl
    have e2 : (It.bytes (.sg 59)).length = 1 := rfl
    rw [itBytes_cons, itBytes_cons, itBytes_cons, itBytes_cons, itBytes_cons]
    simp only [List.length_append, e1, e2, List.length_cons]
    omega
theorem mk_many {its : List It} : ∀ (l : Mks) (k : Nat), (∀ p ∈ l, mkOk p) → (itKN its).drop k = mkKN l ++ [(7, 0), (27, 0), (1, 0)] →
    Many (itToks 0 its) (stmS (itToks 0 its) 1) 0 k (k + 3 * l.length + 2) (mkMs l) ∧ kAt (itToks 0 its) (k + 3 * l.length + 2) = 1
  | [], k, _, h => by
    obtain ⟨b1, _, d6⟩ := drop_kAt (show (itKN its).drop k = (7, 0) :: [(27, 0), (1, 0)] from h)
    obtain ⟨b2, _, d7⟩ := drop_kAt d6
    obtain ⟨b3, _, _⟩ := drop_kAt d7
    refine ⟨.cons (k1 := k + 2) (stmt_accept' b1 rfl b2) (.nil (stmt_none' ?_ ?_)), b3⟩
    · show noStmt (kAt _ (k + 1 + 1))
      rw [b3]; decide
    · show okP (kAt _ (k + 1 + 1)) = true
      rw [b3]; rfl
  | (s, n) :: l, k, ho, h => by
    obtain ⟨b1, _, d6⟩ := drop_kAt (show (itKN its).drop k = (s.kd, 0) :: ((2, (n : Int)) :: (27, 0) :: (mkKN l ++ [(7, 0), (27, 0), (1, 0)])) from h)
    obtain ⟨b2, n2, d7⟩ := drop_kAt d6
    obtain ⟨b3, _, d8⟩ := drop_kAt d7
    obtain ⟨hp, hp1⟩ := ho (s, n) List.mem_cons_self
    dsimp only at hp hp1 n2
    obtain ⟨i1, i2⟩ := mk_many l (k + 1 + 1 + 1) (fun q hq => ho q (List.mem_cons_of_mem _ hq)) d8
    have hk : k + 3 * ((s, n) :: l).length + 2 = k + 1 + 1 + 1 + 3 * l.length + 2 := by simp only [List.length_cons]; omega
    rw [hk]
    refine ⟨.cons (k1 := k + 3) ?_ i1, i2⟩
    cases s with
    | put =>
      have := stmt_mark' (ts := itToks 0 its) (n := 100) (f := 0) (ok := okP) (sum := sumS (itToks 0 its)) (cnd := cndS (itToks 0 its)) (d := 0) b1 rfl b2 (by rw [n2]; omega) (by rw [n2]; omega) b3
      rw [n2] at this; exact this
    | drop =>
      have := stmt_unmark' (ts := itToks 0 its) (n := 100) (f := 0) (ok := okP) (sum := sumS (itToks 0 its)) (cnd := cndS (itToks 0 its)) (d := 0) b1 rfl b2 (by rw [n2]; omega) (by rw [n2]; omega) b3
      rw [n2] at this; exact this
    | pre =>
      have h1 := hp1 rfl
      have := stmt_prepend' (ts := itToks 0 its) (n := 100) (f := 0) (ok := okP) (sum := sumS (itToks 0 its)) (cnd := cndS (itToks 0 its)) (d := 0) b1 rfl b2 (by rw [n2]; omega) (by rw [n2]; omega) b3
      rw [n2] at this; exact this
theorem mk_read (l : Mks) (hn : l.length ≤ 20) (h : ∀ p ∈ l, mkOk p) : ReadOk (bsA (itBytes (mkAll l))) (mkMs l) := by
  have hk : itKN (mkAll l) = mkKN l ++ [(7, 0), (27, 0), (1, 0)] := by
    have h2 : itKN mkEnd = [(7, 0), (27, 0), (1, 0)] := by decide +kernel
    rw [mkAll, mk_kn, h2]
  obtain ⟨h1, h2⟩ := mk_many (its := mkAll l) l 0 h hk
  have a0 : kAt (itToks 0 (mkAll l)) 0 ≠ 5 ∧ kAt (itToks 0 (mkAll l)) 0 ≠ 6 := by
    rw [its_kAt, hk]
    cases l with
    | nil => decide
    | cons p l =>
      obtain ⟨s, n⟩ := p
      show s.kd ≠ 5 ∧ s.kd ≠ 6
      cases s <;> decide
  refine readOk_of (mk_ok l h) ?_ h1 (by simp [mkMs]) (by simp [mkMs]; omega) h2 ?_ a0.1 a0.2
  · have h3 := mk_len l h
    have h4 : (itBytes mkEnd).length = 7 := by decide +kernel
    rw [mkAll, itBytes_append, List.length_append]; omega
  · cases l with
    | nil =>
      show (wd 2).data.toList ≠ []
      decide +kernel
    | cons p l =>
      obtain ⟨s, n⟩ := p
      show (wd s.wo).data.toList ≠ []
      cases s <;> decide +kernel

/-! ## what the steps do -/
/-- with, as its loop does it -/
def withF (n : Int) : Bool → List Int → List Int
  | d, [] => if d then [] else [n]
  | d, x :: t => (if d = false ∧ n ≤ x then [n] else []) ++ ((if x ≠ n then [x] else []) ++ withF n (d || decide (n ≤ x)) t)
theorem with_done (n : Int) : ∀ {l : List Int}, (∀ x ∈ l, n < x) → withF n true l = l
  | [], _ => rfl
  | x :: t, h => by
    have h1 := h x List.mem_cons_self
    rw [withF, if_neg (by simp), if_pos (by omega), Bool.true_or, with_done n (fun y hy => h y (List.mem_cons_of_mem _ hy))]; rfl
theorem with_sorted (n : Int) : ∀ {l : List Int}, l.Pairwise (· < ·) → withF n false l = if l.contains n then l else l.take (placeM l n) ++ n :: l.drop (placeM l n)
  | [], _ => by simp [withF, placeM]
  | x :: t, hs => by
    obtain ⟨h1, h2⟩ := List.pairwise_cons.1 hs
    have ih := with_sorted n h2
    rw [withF]
    rcases Int.lt_trichotomy x n with hx | hx | hx
    · rw [if_neg (by simp; omega), if_pos (by omega), decide_eq_false (by omega), Bool.or_false, ih, place_cons, if_pos hx, List.contains_cons, show (n == x) = false by simp; omega, Bool.false_or]
      split <;> rfl
    · subst hx
      rw [if_pos ⟨rfl, Int.le_refl _⟩, if_neg (by simp), decide_eq_true (Int.le_refl _), Bool.or_true, with_done x h1, if_pos (by simp)]; rfl
    · have hnc : (x :: t).contains n = false := by
        rw [List.contains_eq_mem]
        simp only [decide_eq_false_iff_not, List.mem_cons, not_or]
        exact ⟨by omega, fun e => by have := h1 n e; omega⟩
      have hp : placeM (x :: t) n = 0 := place_zero fun y hy => by
        rcases List.mem_cons.1 hy with rfl | hy
        · omega
        · have := h1 y hy; omega
      rw [if_pos ⟨rfl, by omega⟩, if_pos (by omega), decide_eq_true (by omega), Bool.or_true, with_done n (fun y hy => by have := h1 y hy; omega), hnc, hp]; rfl
theorem without_sorted (n : Int) {l : List Int} (hs : l.Pairwise (· < ·)) : l.filter (fun x => decide (x ≠ n)) = if l.contains n then l.erase n else l := by
  have hnd : l.Nodup := hs.imp (fun h => by omega)
  by_cases hc : l.contains n = true
  · rw [if_pos hc, hnd.erase_eq_filter]
    congr 1
    funext x
    by_cases hx : x = n <;> simp [hx]
  · rw [if_neg hc, List.filter_eq_self]
    intro x hx
    have : x ≠ n := fun e => hc (by rw [← e]; simpa using hx)
    simpa using this
def mkStep (a : Rt × Bool) (p : Mk × Nat) : Rt × Bool :=
  match p.1 with
  | .put => if a.2 || decide (8 < (withF (p.2 : Int) false a.1.marks).length) then (a.1, true) else ({ a.1 with marks := withF (p.2 : Int) false a.1.marks }, false)
  | .drop => ({ a.1 with marks := a.1.marks.filter (fun x => decide (x ≠ (p.2 : Int))) }, a.2)
  | .pre => if a.2 || decide (12 < a.1.path.length + 1) then (a.1, true) else ({ a.1 with path := (p.2 : Int) :: a.1.path }, false)
def mkV (r : Rt) (l : Mks) : Rt × Bool := l.foldl mkStep (r, false)
theorem mkV_snoc (r : Rt) (l : Mks) (p : Mk × Nat) : mkV r (l ++ [p]) = mkStep (mkV r l) p := by unfold mkV; rw [List.foldl_append]; rfl
theorem mk_stuck : ∀ (l : Mks) (r : Rt), (l.foldl mkStep (r, true)).2 = true
  | [], _ => rfl
  | (s, n) :: l, r => by
    rw [List.foldl_cons]
    cases s with
    | put => exact mk_stuck l r
    | drop => exact mk_stuck l _
    | pre => exact mk_stuck l r
def mkGood (r : Rt) : Prop := r.marks.Pairwise (· < ·) ∧ r.marks.length ≤ 8 ∧ r.path.length ≤ 12
theorem mk_run : ∀ (l : Mks) (r : Rt), mkGood r → (if (mkV r l).2 = true then (performM (mkMs l) r).2 = 3 else performM (mkMs l) r = ((mkV r l).1, 1))
  | [], r, _ => by
    rw [if_neg (by simp [mkV])]; rfl
  | (s, n) :: l, r, hg => by
    obtain ⟨g1, g2, g3⟩ := hg
    have hm : mkMs ((s, n) :: l) = s.mean n :: mkMs l := rfl
    have hv : mkV r ((s, n) :: l) = l.foldl mkStep (mkStep (r, false) (s, n)) := rfl
    rw [hm, hv]
    cases s with
    | put =>
      have hw := with_sorted (n : Int) g1
      by_cases hc : r.marks.contains (n : Int) = true
      · rw [if_pos hc] at hw
        have e1 : mkStep (r, false) (.put, n) = (r, false) := by
          simp only [mkStep, hw, Bool.false_or]
          rw [if_neg (by simp; omega)]
        have e2 : Mk.mean .put n r = (r, 0) := by show markM n r = _; rw [markM, if_pos hc]
        rw [e1, performM, e2]
        exact mk_run l r ⟨g1, g2, g3⟩
      · have hcf : r.marks.contains (n : Int) = false := by simpa using hc
        rw [if_neg hc] at hw
        have hwl : (withF (n : Int) false r.marks).length = r.marks.length + 1 := by rw [hw, ins_len]
        by_cases h8 : r.marks.length = 8
        · have e1 : mkStep (r, false) (.put, n) = (r, true) := by
            simp only [mkStep, Bool.false_or]
            rw [if_pos (by rw [hwl]; simp; omega)]
          have e2 : Mk.mean .put n r = (r, 3) := by show markM n r = _; rw [markM, if_neg hc, if_pos h8]
          rw [e1, if_pos (mk_stuck l r), performM, e2]; rfl
        · have e1 : mkStep (r, false) (.put, n) = ({ r with marks := withF (n : Int) false r.marks }, false) := by
            simp only [mkStep, Bool.false_or]
            rw [if_neg (by rw [hwl]; simp; omega)]
          have e2 : Mk.mean .put n r = ({ r with marks := withF (n : Int) false r.marks }, 0) := by show markM n r = _; rw [markM, if_neg hc, if_neg h8, hw]
          rw [e1, performM, e2]
          refine mk_run l _ ⟨?_, ?_, g3⟩
          · show (withF (n : Int) false r.marks).Pairwise _
            rw [hw]; exact ins_sorted g1 (by simpa using hcf)
          · show (withF (n : Int) false r.marks).length ≤ 8
            omega
    | drop =>
      have hw := without_sorted (n : Int) g1
      have e2 : Mk.mean .drop n r = ({ r with marks := r.marks.filter (fun x => decide (x ≠ (n : Int))) }, 0) := by
        show unmarkM n r = _
        rw [unmarkM, hw]
        split <;> rfl
      have e1 : mkStep (r, false) (.drop, n) = ({ r with marks := r.marks.filter (fun x => decide (x ≠ (n : Int))) }, false) := rfl
      rw [e1, performM, e2]
      exact mk_run l _ ⟨g1.filter _, Nat.le_trans (List.length_filter_le _ _) g2, g3⟩
    | pre =>
      by_cases h12 : r.path.length = 12
      · have e1 : mkStep (r, false) (.pre, n) = (r, true) := by
          simp only [mkStep, Bool.false_or]
          rw [if_pos (by simp; omega)]
        have e2 : Mk.mean .pre n r = (r, 3) := by show prependM n r = _; rw [prependM, if_pos h12]
        rw [e1, if_pos (mk_stuck l r), performM, e2]; rfl
      · have e1 : mkStep (r, false) (.pre, n) = ({ r with path := (n : Int) :: r.path }, false) := by
          simp only [mkStep, Bool.false_or]
          rw [if_neg (by simp; omega)]
        have e2 : Mk.mean .pre n r = ({ r with path := (n : Int) :: r.path }, 0) := by show prependM n r = _; rw [prependM, if_neg h12]
        rw [e1, performM, e2]
        exact mk_run l _ ⟨g1, g2, by show r.path.length + 1 ≤ 12; omega⟩
theorem mk_runM (l : Mks) (r : Rt) (hg : mkGood r) : runM (mkMs l) r = if (mkV r l).2 = true then (rt0, 3) else ((mkV r l).1, 1) := by
  have h := mk_run l r hg
  unfold runM
  by_cases hf : (mkV r l).2 = true
  · rw [if_pos hf] at h
    rw [if_pos hf, h]; rfl
  · rw [if_neg hf] at h
    rw [if_neg hf, h]; rfl
end Go.Proofs.YtlhhdklendeikaaGreatDoor

namespace Go.Proofs.YtlhhdklendeikaaGreatDoor
open Go.RowKit

theorem drop_step {l : List Int} {k : Nat} (h : k < l.length) : l.drop k = l[k] :: l.drop (k + 1) := List.drop_eq_getElem_cons h
set_option maxRecDepth 100000 in
set_option maxHeartbeats 2000000 in
theorem with_any (l : List Int) (x : Value) (n : Int) (w : World) (hl : l.length ≤ 1000) (h : IntsAt w x l) :
    Calls Tryz.prog 26 #[x, .int .i64 n] w fun e w' => ∃ v, e = .returned v ∧ w'.ownsRow w.heap.size 3 1 v (withF n false l).length ((withF n false l).map (Value.int .i64)) ∧ Below w.heap.size w w' := by
  obtain ⟨p, c, rfl, hcap, _, _, hr⟩ := h
  obtain ⟨i0, hi0, hz0, hz1, hz2⟩ := info_parts Tryz.infoInt
  have HR := hide hr
  clear hr
  go_enter Tryz.func26, Tryz.ntmps26
  go_wp2_with fail
  go_loopw [5, 6, 7] (fun v5 dv i wr => ∃ (k : Nat) (d : Bool) (out : List Int), k ≤ l.length ∧ i = .int .i64 k ∧ dv = .bool d ∧ out.length ≤ 2 * k ∧ Hid (out ++ withF n d (l.drop k) = withF n false l) ∧ wr.ownsRow w.heap.size 3 1 v5 out.length (out.map (Value.int .i64)) ∧ Below w.heap.size w wr) (fun _ _ i _ => l.length - (intOf i).toNat)
  case atStart => exact ⟨0, false, [], Nat.zero_le _, rfl, rfl, by simp, hide (by simp), World.ownsRow_nil _ _ _ _, Below.refl _ _⟩
  case round =>
    obtain ⟨k, d, out, hk, rfl, rfl, hol, HE, how, hbl⟩ := hrel
    have HOW := hide how
    have HB := hide hbl
    have hsz : w.heap.size ≤ wr.heap.size := hbl.size
    clear how hbl
    by_cases hlt : k < l.length
    · rcases unhide HR with h | ⟨b, o, rfl, hb, hc⟩
      · rw [h.1] at hlt; simp at hlt
      have hck : wr.cell? ⟨b, o + k, none⟩ = some (.int .i64 l[k]) := ((unhide HB).cell (p := ⟨b, o + k, none⟩) hb).trans (hc k hlt)
      have HCK := hide (hc k hlt)
      have hE := unhide HE
      rw [drop_step hlt, withF] at hE
      clear hc HE
      generalize l[k] = X at *
      cases d with
      | true =>
        rw [if_neg (by simp), List.nil_append, Bool.true_or] at hE
        by_cases hX : X = n
        · rw [if_neg (by simp [hX]), List.nil_append] at hE
          have HE := hide hE
          clear hE
          subst hX
          go_wp2_with fail
          go_roundw
          case rel => exact ⟨k + 1, true, out, by omega, by go_num, rfl, by omega, HE, unhide HOW, unhide HB⟩
          case measure => simp [intOf]; omega
        · rw [if_pos hX] at hE
          have HE := hide hE
          clear hE
          have hne : (X == n) = false := by simpa using hX
          go_wp2_with (at_builtin; refine wpList_append_lies _ rfl _ _ _ rfl w.heap.size 3 i0 _ 1 8 Tryz.underlying22 hi0 hz0 hz1 hz2 rfl (by omega) u5 out.length (out.map (Value.int .i64)) rfl ((unhide HOW).alloc _) ⟨wr.heap.size, 0, none⟩ 1 1 [.int .i64 X] rfl rfl (World.news_of_block (cs := #[.int .i64 X]) (t := 3) (fr := (0, 0)) (heap_alloc_new _ _)) (by simp [Value.oneCell']) (by omega) (by simp [maxLen]; omega) (by omega) (by simp; omega) (wr.heap.size + 1) (by simp) ?_; intro gg cap wn hown hgrow hat hltg)
          go_roundw
          case rel =>
            refine ⟨k + 1, true, out ++ [X], by omega, by go_num, rfl, by simp; omega, hide ?_, ?_, ((unhide HB).alloc hsz _).grown hgrow (by simp; omega) (fun j hj => ((unhide HOW).lt j hj).1)⟩
            · rw [List.append_assoc]; exact unhide HE
            · rw [List.map_append, List.length_append]; exact hown
          case measure => simp [intOf]; omega
      | false =>
        by_cases hge : n ≤ X
        · rw [if_pos ⟨rfl, hge⟩, decide_eq_true hge, Bool.or_true] at hE
          by_cases hX : X = n
          · rw [if_neg (by simp [hX]), List.nil_append] at hE
            have HE := hide hE
            clear hE
            subst hX
            go_wp2_with (at_builtin; refine wpList_append_lies _ rfl _ _ _ rfl w.heap.size 3 i0 _ 1 8 Tryz.underlying22 hi0 hz0 hz1 hz2 rfl (by omega) u5 out.length (out.map (Value.int .i64)) rfl ((unhide HOW).alloc _) ⟨wr.heap.size, 0, none⟩ 1 1 [.int .i64 X] rfl rfl (World.news_of_block (cs := #[.int .i64 X]) (t := 3) (fr := (0, 0)) (heap_alloc_new _ _)) (by simp [Value.oneCell']) (by omega) (by simp [maxLen]; omega) (by omega) (by simp; omega) (wr.heap.size + 1) (by simp) ?_; intro gg cap wn hown hgrow hat hltg; have hbn := ((unhide HB).alloc hsz _).grown hgrow (by simp; omega) (fun j hj => ((unhide HOW).lt j hj).1); have hck2 := (hbn.cell (p := ⟨b, o + k, none⟩) hb).trans (unhide HCK); have HB2 := hide hbn; have HO2 := hide hown; clear hbn hown hgrow hat)
            go_roundw
            case rel =>
              refine ⟨k + 1, true, out ++ [X], by omega, by go_num, rfl, by simp; omega, hide ?_, ?_, unhide HB2⟩
              · rw [List.append_assoc]; exact unhide HE
              · rw [List.map_append, List.length_append]; exact unhide HO2
            case measure => simp [intOf]; omega
          · rw [if_pos hX] at hE
            have HE := hide hE
            clear hE
            have hne : (X == n) = false := by simpa using hX
            go_wp2_with (first
              | (at_builtin; refine wpList_append_lies _ rfl _ _ _ rfl w.heap.size 3 i0 _ 1 8 Tryz.underlying22 hi0 hz0 hz1 hz2 rfl (by omega) u5 out.length (out.map (Value.int .i64)) rfl ((unhide HOW).alloc _) ⟨wr.heap.size, 0, none⟩ 1 1 [.int .i64 n] rfl rfl (World.news_of_block (cs := #[.int .i64 n]) (t := 3) (fr := (0, 0)) (heap_alloc_new _ _)) (by simp [Value.oneCell']) (by omega) (by simp [maxLen]; omega) (by omega) (by simp; omega) (wr.heap.size + 1) (by simp) ?_; intro gg cap wn hown hgrow hat hltg; have hbn := ((unhide HB).alloc hsz _).grown hgrow (by simp; omega) (fun j hj => ((unhide HOW).lt j hj).1); have hck2 := (hbn.cell (p := ⟨b, o + k, none⟩) hb).trans (unhide HCK); have hs2 := hbn.size; have HB2 := hide hbn; have HO2 := hide hown; clear hbn hown hgrow hat HOW)
              | (at_builtin; refine wpList_append_lies _ rfl _ _ _ rfl w.heap.size 3 i0 _ 1 8 Tryz.underlying22 hi0 hz0 hz1 hz2 rfl (by omega) (.slice (some ⟨gg, 0, none⟩) (out.length + 1) cap) (out.length + 1) (out.map (Value.int .i64) ++ [.int .i64 n]) rfl ((unhide HO2).alloc _) ⟨wn.heap.size, 0, none⟩ 1 1 [.int .i64 X] rfl rfl (World.news_of_block (cs := #[.int .i64 X]) (t := 3) (fr := (0, 0)) (heap_alloc_new _ _)) (by simp [Value.oneCell']) (by omega) (by simp [maxLen]; omega) (by omega) (by simp; omega) (wn.heap.size + 1) (by simp) ?_; intro gg2 cap2 wn2 hown2 hgrow2 hat2 hltg2))
            go_roundw
            case rel =>
              refine ⟨k + 1, true, out ++ [n] ++ [X], by omega, by go_num, rfl, by simp; omega, hide ?_, ?_, ((unhide HB2).alloc hs2 _).grown hgrow2 (by simp; omega) (fun j hj => ((unhide HO2).lt j hj).1)⟩
              · rw [List.append_assoc, List.append_assoc]; exact unhide HE
              · rw [List.map_append, List.map_append, List.length_append, List.length_append]; exact hown2
            case measure => simp [intOf]; omega
        · rw [if_neg (by simp; omega), List.nil_append, if_pos (by omega), decide_eq_false hge, Bool.or_false] at hE
          have HE := hide hE
          clear hE
          have hne : (X == n) = false := by simp; omega
          go_wp2_with (at_builtin; refine wpList_append_lies _ rfl _ _ _ rfl w.heap.size 3 i0 _ 1 8 Tryz.underlying22 hi0 hz0 hz1 hz2 rfl (by omega) u5 out.length (out.map (Value.int .i64)) rfl ((unhide HOW).alloc _) ⟨wr.heap.size, 0, none⟩ 1 1 [.int .i64 X] rfl rfl (World.news_of_block (cs := #[.int .i64 X]) (t := 3) (fr := (0, 0)) (heap_alloc_new _ _)) (by simp [Value.oneCell']) (by omega) (by simp [maxLen]; omega) (by omega) (by simp; omega) (wr.heap.size + 1) (by simp) ?_; intro gg cap wn hown hgrow hat hltg)
          go_roundw
          case rel =>
            refine ⟨k + 1, false, out ++ [X], by omega, by go_num, rfl, by simp; omega, hide ?_, ?_, ((unhide HB).alloc hsz _).grown hgrow (by simp; omega) (fun j hj => ((unhide HOW).lt j hj).1)⟩
            · rw [List.append_assoc]; exact unhide HE
            · rw [List.map_append, List.length_append]; exact hown
          case measure => simp [intOf]; omega
    · have hE := unhide HE
      rw [List.drop_eq_nil_of_le (by omega), withF] at hE
      clear HE
      cases d with
      | true =>
        rw [if_pos rfl, List.append_nil] at hE
        have HE := hide hE
        clear hE
        go_wp2_with fail
        go_ret
        refine ⟨_, rfl, ?_, unhide HB⟩
        rw [← unhide HE]; exact unhide HOW
      | false =>
        rw [if_neg (by simp)] at hE
        have HE := hide hE
        clear hE
        go_wp2_with (at_builtin; refine wpList_append_lies _ rfl _ _ _ rfl w.heap.size 3 i0 _ 1 8 Tryz.underlying22 hi0 hz0 hz1 hz2 rfl (by omega) u5 out.length (out.map (Value.int .i64)) rfl ((unhide HOW).alloc _) ⟨wr.heap.size, 0, none⟩ 1 1 [.int .i64 n] rfl rfl (World.news_of_block (cs := #[.int .i64 n]) (t := 3) (fr := (0, 0)) (heap_alloc_new _ _)) (by simp [Value.oneCell']) (by omega) (by simp [maxLen]; omega) (by omega) (by simp; omega) (wr.heap.size + 1) (by simp) ?_; intro gg cap wn hown hgrow hat hltg)
        go_ret
        refine ⟨_, rfl, ?_, ((unhide HB).alloc hsz _).grown hgrow (by simp; omega) (fun j hj => ((unhide HOW).lt j hj).1)⟩
        rw [← unhide HE, List.map_append, List.length_append]; exact hown
theorem without_snoc {l : List Int} {k : Nat} (h : k < l.length) (n : Int) : (l.take (k + 1)).filter (fun x => decide (x ≠ n)) = (l.take k).filter (fun x => decide (x ≠ n)) ++ (if l[k] ≠ n then [l[k]] else []) := by
  rw [List.take_succ_eq_append_getElem h, List.filter_append]
  congr 1
  by_cases hx : l[k] = n
  · simp [hx]
  · simp [hx]
set_option maxRecDepth 100000 in
set_option maxHeartbeats 2000000 in
theorem without_any (l : List Int) (x : Value) (n : Int) (w : World) (hl : l.length ≤ 1000) (h : IntsAt w x l) :
    Calls Tryz.prog 27 #[x, .int .i64 n] w fun e w' => ∃ v, e = .returned v ∧ w'.ownsRow w.heap.size 3 1 v (l.filter (fun x => decide (x ≠ n))).length ((l.filter (fun x => decide (x ≠ n))).map (Value.int .i64)) ∧ Below w.heap.size w w' := by
  obtain ⟨p, c, rfl, hcap, _, _, hr⟩ := h
  obtain ⟨i0, hi0, hz0, hz1, hz2⟩ := info_parts Tryz.infoInt
  have HR := hide hr
  clear hr
  go_enter Tryz.func27, Tryz.ntmps27
  go_wp2_with fail
  go_loopw [5, 6] (fun v5 i wr => ∃ (k : Nat) (out : List Int), k ≤ l.length ∧ i = .int .i64 k ∧ out.length ≤ k ∧ Hid (out = (l.take k).filter (fun x => decide (x ≠ n))) ∧ wr.ownsRow w.heap.size 3 1 v5 out.length (out.map (Value.int .i64)) ∧ Below w.heap.size w wr) (fun _ i _ => l.length - (intOf i).toNat)
  case atStart => exact ⟨0, [], Nat.zero_le _, rfl, by simp, hide (by simp), World.ownsRow_nil _ _ _ _, Below.refl _ _⟩
  case round =>
    obtain ⟨k, out, hk, rfl, hol, HE, how, hbl⟩ := hrel
    have HOW := hide how
    have HB := hide hbl
    have hsz : w.heap.size ≤ wr.heap.size := hbl.size
    clear how hbl
    by_cases hlt : k < l.length
    · rcases unhide HR with h | ⟨b, o, rfl, hb, hc⟩
      · rw [h.1] at hlt; simp at hlt
      have hck : wr.cell? ⟨b, o + k, none⟩ = some (.int .i64 l[k]) := ((unhide HB).cell (p := ⟨b, o + k, none⟩) hb).trans (hc k hlt)
      have HS := hide (without_snoc hlt n)
      clear hc
      generalize l[k] = X at *
      by_cases hX : X = n
      · have HE2 : Hid (out = (l.take (k + 1)).filter (fun x => decide (x ≠ n))) := hide (by rw [unhide HS, if_neg (by simp [hX]), List.append_nil]; exact unhide HE)
        clear HE HS
        subst hX
        go_wp2_with fail
        go_roundw
        case rel => exact ⟨k + 1, out, by omega, by go_num, by omega, HE2, unhide HOW, unhide HB⟩
        case measure => simp [intOf]; omega
      · have HE2 : Hid (out ++ [X] = (l.take (k + 1)).filter (fun x => decide (x ≠ n))) := hide (by rw [unhide HS, if_pos hX, ← unhide HE])
        clear HE HS
        have hne : (X == n) = false := by simpa using hX
        go_wp2_with (at_builtin; refine wpList_append_lies _ rfl _ _ _ rfl w.heap.size 3 i0 _ 1 8 Tryz.underlying22 hi0 hz0 hz1 hz2 rfl (by omega) u5 out.length (out.map (Value.int .i64)) rfl ((unhide HOW).alloc _) ⟨wr.heap.size, 0, none⟩ 1 1 [.int .i64 X] rfl rfl (World.news_of_block (cs := #[.int .i64 X]) (t := 3) (fr := (0, 0)) (heap_alloc_new _ _)) (by simp [Value.oneCell']) (by omega) (by simp [maxLen]; omega) (by omega) (by simp; omega) (wr.heap.size + 1) (by simp) ?_; intro gg cap wn hown hgrow hat hltg)
        go_roundw
        case rel =>
          refine ⟨k + 1, out ++ [X], by omega, by go_num, by simp; omega, HE2, ?_, ((unhide HB).alloc hsz _).grown hgrow (by simp; omega) (fun j hj => ((unhide HOW).lt j hj).1)⟩
          rw [List.map_append, List.length_append]; exact hown
        case measure => simp [intOf]; omega
    · have HE2 : Hid (l.filter (fun x => decide (x ≠ n)) = out) := hide (by rw [unhide HE, List.take_of_length_le (by omega)])
      clear HE
      go_wp2_with fail
      go_ret
      refine ⟨_, rfl, ?_, unhide HB⟩
      rw [unhide HE2]; exact unhide HOW
end Go.Proofs.YtlhhdklendeikaaGreatDoor

namespace Go.Proofs.YtlhhdklendeikaaGreatDoor
open Go.RowKit

/-! ## plain -/
def opAt (x : Int) : Mk × Nat := if pickP x 3 = 0 then (.put, (pickP (x.tdiv 3) 12).toNat) else if pickP x 3 = 1 then (.drop, (pickP (x.tdiv 3) 12).toNat) else (.pre, (pickP (x.tdiv 3) 12).toNat + 1)
def opsTo (steps : List Int) (j : Nat) : Mks := (List.range j).map fun i => opAt (steps.getD i 0)
theorem opsTo_snoc (steps : List Int) (j : Nat) : opsTo steps (j + 1) = opsTo steps j ++ [opAt (steps.getD j 0)] := by unfold opsTo; rw [List.range_succ, List.map_append]; rfl
theorem opsTo_len (steps : List Int) (j : Nat) : (opsTo steps j).length = j := by simp [opsTo]
theorem opAt_ok (x : Int) : mkOk (opAt x) := by
  have h := pickP_bd (c := x.tdiv 3) (n := 12) (by omega)
  unfold opAt mkOk
  split
  · exact ⟨by dsimp only; omega, fun e => by cases e⟩
  · split
    · exact ⟨by dsimp only; omega, fun e => by cases e⟩
    · exact ⟨by dsimp only; omega, fun _ => by dsimp only; omega⟩
theorem opsTo_ok (steps : List Int) (j : Nat) : ∀ p ∈ opsTo steps j, mkOk p := fun p hp => by
  obtain ⟨i, _, rfl⟩ := List.mem_map.1 hp
  exact opAt_ok _
def mkS (l : Mks) : ByteArray := bsA (itBytes (mkIts l))
theorem mkS_snoc (l : Mks) (s : Mk) (n : Nat) : ((mkS l ++ bsA ((wd s.wo).data.toList ++ [32])) ++ bsA (Lib.decDigits n)) ++ bsA [59, 32] = mkS (l ++ [(s, n)]) := by
  unfold mkS
  rw [bsA_append, bsA_append, bsA_append]
  congr 1
  have e : mkIts (l ++ [(s, n)]) = mkIts l ++ [.wo s.wo, .sp, .nm n, .sg 59, .sp] := by simp [mkIts]
  rw [e, itBytes_append, itBytes_cons, itBytes_cons, itBytes_cons, itBytes_cons, itBytes_cons]
  simp [It.bytes, itBytes]
theorem mkS_all (l : Mks) : mkS l ++ bsA [97, 99, 99, 101, 112, 116, 59] = bsA (itBytes (mkAll l)) := by
  unfold mkS
  rw [bsA_append, mkAll, itBytes_append]
  congr 2
theorem mkS_len (l : Mks) (h : ∀ p ∈ l, mkOk p) : (mkS l).size ≤ 20 * l.length := by
  unfold mkS
  rw [bsA_size]; exact mk_len l h
def routeR (l : List Int) : Rt := ⟨(netP (atP l 0)).1, (netP (atP l 0)).2, pathP (l.drop 3) (pickP (atP l 1) 6).toNat, marksP (l.drop 6) (pickP (atP l 2) 5).toNat, pickP (atP l 3) 4, pickP (atP l 4) 5⟩
theorem routeR_ok (l : List Int) : rtOk (routeR l) = true := by
  have h1 := pickP_bd (c := atP l 1) (n := 6) (by omega)
  have h2 := pickP_bd (c := atP l 2) (n := 5) (by omega)
  have h3 := pickP_bd (c := atP l 3) (n := 4) (by omega)
  have h4 := pickP_bd (c := atP l 4) (n := 5) (by omega)
  exact decide_eq_true ⟨netP_ok (atP l 0), pathP_ok (l.drop 3) (by omega), marksP_ok (l.drop 6) (by omega), ⟨by show 0 ≤ pickP _ _; omega, by show pickP _ _ ≤ _; omega⟩, ⟨by show 0 ≤ pickP _ _; omega, by show pickP _ _ ≤ _; omega⟩⟩
theorem rtOk_parts {r : Rt} (h : rtOk r = true) : routeOk (r.addr, r.len) r.path r.marks r.pref r.med := of_decide_eq_true h
theorem rtOk_in {r : Rt} (h : rtOk r = true) : inI r.addr ∧ inI r.len ∧ (∀ x ∈ r.path, inI x) ∧ (∀ x ∈ r.marks, inI x) ∧ r.path.length ≤ 12 ∧ r.marks.length ≤ 8 := by
  obtain ⟨⟨h1, h2, _⟩, ⟨h3, h4⟩, ⟨h5, h6⟩, _⟩ := rtOk_parts h
  dsimp only at h1 h2
  refine ⟨⟨by omega, by omega⟩, ⟨by omega, by omega⟩, fun x hx => ?_, fun x hx => ?_, h3, h5⟩
  · have := h4 x hx; unfold inI; omega
  · have := rises_all h6 x hx; unfold inI; omega
theorem routeR_good (l : List Int) : mkGood (routeR l) := by
  have h := rtOk_in (routeR_ok l)
  exact ⟨rtOk_sorted (routeR_ok l), h.2.2.2.2.2, h.2.2.2.2.1⟩
theorem withF_mem (n : Int) : ∀ (l : List Int) (d : Bool) (x : Int), x ∈ withF n d l → x = n ∨ x ∈ l
  | [], d, x, h => by
    cases d with
    | true => simp [withF] at h
    | false => left; simpa [withF] using h
  | y :: t, d, x, h => by
    rw [withF, List.mem_append, List.mem_append] at h
    rcases h with h | h | h
    · split at h
      · left; simpa using h
      · cases h
    · split at h
      · right; rw [List.mem_singleton.1 h]; exact List.mem_cons_self
      · cases h
    · rcases withF_mem n t _ x h with e | e
      · exact Or.inl e
      · exact Or.inr (List.mem_cons_of_mem _ e)
/-- bounds that every step keeps -/
def mkBd (r : Rt) : Prop := r.marks.length ≤ 8 ∧ r.path.length ≤ 12
theorem mkStep_bd {a : Rt × Bool} (h : mkBd a.1) (p : Mk × Nat) : mkBd (mkStep a p).1 := by
  obtain ⟨r, f⟩ := a
  obtain ⟨s, n⟩ := p
  obtain ⟨h1, h2⟩ := h
  dsimp only at h1 h2
  cases s with
  | put =>
    simp only [mkStep]
    split
    · exact ⟨h1, h2⟩
    · rename_i h3
      simp at h3
      exact ⟨by dsimp only; omega, h2⟩
  | drop => exact ⟨Nat.le_trans (List.length_filter_le _ _) h1, h2⟩
  | pre =>
    simp only [mkStep]
    split
    · exact ⟨h1, h2⟩
    · rename_i h3
      simp at h3
      exact ⟨h1, by simp; omega⟩
theorem mkV_bd {r : Rt} (h : mkBd r) (l : Mks) : mkBd (mkV r l).1 := by
  have : ∀ (l : Mks) (a : Rt × Bool), mkBd a.1 → mkBd (l.foldl mkStep a).1 := by
    intro l
    induction l with
    | nil => intro a h; exact h
    | cons p l ih => intro a h; exact ih _ (mkStep_bd h p)
  exact this l (r, false) h
/-! ## in memory -/
theorem ints_block {w w' : World} {v : Value} {l : List Int} (h : IntsAt w v l) (hs : w.heap.size ≤ w'.heap.size) (hk : ∀ k, v.ownBlock = some k → w'.heap[k]? = w.heap[k]?) : IntsAt w' v l := by
  obtain ⟨p, c, rfl, hcap, hl, hin, hr⟩ := h
  refine ⟨p, c, rfl, hcap, hl, hin, ?_⟩
  rcases hr with h | ⟨b, o, rfl, hb, hc⟩
  · exact Or.inl h
  · exact Or.inr ⟨b, o, rfl, by omega, fun j hj => (World.cell?_of_block (w := w) (a := ⟨b, o + j, none⟩) (hk b rfl)).trans (hc j hj)⟩
theorem owns_int_base {w : World} {base g cap : Nat} {cur : Array Value} {l : List Int} (hb : base ≤ g) (h : w.heap[g]? = some (.cells cur 3 (0, 0))) (hn : l.length ≤ cap) (hc : cap ≤ maxLen) (hs : cur.size = cap) (hx : ∀ (j : Nat) (x : Int), l[j]? = some x → cur[j]? = some (Value.int .i64 x)) :
    w.ownsRow base 3 1 (.slice (some ⟨g, 0, none⟩) l.length cap) l.length (intCells l) := by
  obtain ⟨h1, h2⟩ := owns_int_of h hn hc hs hx
  refine ⟨h1, ?_⟩
  rcases h2 with h2 | ⟨g', cap', cur', h3, _, h4⟩
  · cases h2.1
  · refine Or.inr ⟨g', cap', cur', h3, ?_, h4⟩
    injection h3 with h5
    injection h5 with h6
    injection h6 with h7
    omega
/-- the route that is wanted, at B, and all that lay below B -/
structure MI (w0 : World) (r : Rt) (pv mv : Value) (W : World) : Prop where
  blk : W.heap[w0.heap.size]? = some (rtBlk r pv mv)
  path : IntsAt W pv r.path
  marks : IntsAt W mv r.marks
  np : pv.ownBlock ≠ some w0.heap.size
  nm : mv.ownBlock ≠ some w0.heap.size
  bel : Below w0.heap.size w0 W
theorem MI.below {w0 : World} {r : Rt} {pv mv : Value} {W W' : World} (h : MI w0 r pv mv W) (hb : Below W.heap.size W W') : MI w0 r pv mv W' :=
  ⟨(hb.block _ (heap_lt h.blk)).trans h.blk, h.path.below hb, h.marks.below hb, h.np, h.nm, h.bel.trans (hb.mono h.bel.size)⟩
theorem MI.setMarks {w0 : World} {r : Rt} {pv mv v : Value} {W W' : World} {L : List Int} {base : Nat} (h : MI w0 r pv mv W) (hb : Below W.heap.size W W') (hn : W.heap.size ≤ base) (ho : W'.ownsRow base 3 1 v L.length (L.map (Value.int .i64))) (hin : ∀ x ∈ L, inI x) (hl : L.length ≤ 1000) :
    MI w0 { r with marks := L } pv v (W'.setCell ⟨w0.heap.size, 3, none⟩ v) := by
  have h' := h.below hb
  have hB := heap_lt h.blk
  have hne : v.ownBlock ≠ some w0.heap.size := fun e => by have := (ho.lt _ e).1; omega
  have hss : (W'.setCell ⟨w0.heap.size, 3, none⟩ v).heap.size = W'.heap.size := by simp [World.setCell]
  refine ⟨by rw [heap_set h'.blk]; rfl, ints_block h'.path (by omega) (fun k e => heap_set_other (fun e2 => h.np (by rw [e]; exact congrArg some e2))), ?_, h.np, hne, h'.bel.setCell (p := ⟨w0.heap.size, 3, none⟩) (Nat.le_refl _) _⟩
  exact ints_block (IntsAt.own (l := L) ho hin (by omega)) (by omega) (fun k e => heap_set_other (fun e2 => hne (by rw [e]; exact congrArg some e2)))
theorem MI.setPath {w0 : World} {r : Rt} {pv mv v : Value} {W W' : World} {L : List Int} {base : Nat} (h : MI w0 r pv mv W) (hb : Below W.heap.size W W') (hn : W.heap.size ≤ base) (ho : W'.ownsRow base 3 1 v L.length (L.map (Value.int .i64))) (hin : ∀ x ∈ L, inI x) (hl : L.length ≤ 1000) :
    MI w0 { r with path := L } v mv (W'.setCell ⟨w0.heap.size, 2, none⟩ v) := by
  have h' := h.below hb
  have hB := heap_lt h.blk
  have hne : v.ownBlock ≠ some w0.heap.size := fun e => by have := (ho.lt _ e).1; omega
  have hss : (W'.setCell ⟨w0.heap.size, 2, none⟩ v).heap.size = W'.heap.size := by simp [World.setCell]
  refine ⟨by rw [heap_set h'.blk]; rfl, ?_, ints_block h'.marks (by omega) (fun k e => heap_set_other (fun e2 => h.nm (by rw [e]; exact congrArg some e2))), hne, h.nm, h'.bel.setCell (p := ⟨w0.heap.size, 2, none⟩) (Nat.le_refl _) _⟩
  exact ints_block (IntsAt.own (l := L) ho hin (by omega)) (by omega) (fun k e => heap_set_other (fun e2 => hne (by rw [e]; exact congrArg some e2)))
/-- the run of the policy -/
theorem mk_call_fail {w2 W : World} {A : Nat → Prop} {pp : Nat} {l : Mks} {r : Rt} {pv mv : Value} (hl : Lasts w2 A (PolC pp (mkMs l))) (hW : Below w2.heap.size w2 W) (hp : IntsAt W pv r.path) (hm : IntsAt W mv r.marks) (hok : rtOk r = true) (hf : (mkV r l).2 = true) :
    Calls Tryz.prog 14 #[ptr4 pp 0, rtV r pv mv] W fun e w' => ∃ pv' mv', e = .returned (.tuple #[rtV rt0 pv' mv', .int .i64 3, .int .i64 0]) ∧ RtVal w' W.heap.size rt0 pv' mv' ∧ Below W.heap.size W w' := by
  obtain ⟨i1, i2, _, _, n1, n2⟩ := rtOk_in hok
  have h := run_ok hl W hW r pv mv hp hm i1 i2 n1 n2 hok
  rw [mk_runM l r ⟨rtOk_sorted hok, n2, n1⟩, if_pos hf] at h
  exact h
theorem mk_call_ok {w2 W : World} {A : Nat → Prop} {pp : Nat} {l : Mks} {r r1 : Rt} {pv mv : Value} (hl : Lasts w2 A (PolC pp (mkMs l))) (hW : Below w2.heap.size w2 W) (hp : IntsAt W pv r.path) (hm : IntsAt W mv r.marks) (hok : rtOk r = true) (hf : mkV r l = (r1, false)) :
    Calls Tryz.prog 14 #[ptr4 pp 0, rtV r pv mv] W fun e w' => ∃ pv' mv', e = .returned (.tuple #[rtV r1 pv' mv', .int .i64 1, .int .i64 0]) ∧ RtVal w' W.heap.size r1 pv' mv' ∧ Below W.heap.size W w' := by
  obtain ⟨i1, i2, _, _, n1, n2⟩ := rtOk_in hok
  have h := run_ok hl W hW r pv mv hp hm i1 i2 n1 n2 hok
  rw [mk_runM l r ⟨rtOk_sorted hok, n2, n1⟩, hf, if_neg (by simp)] at h
  exact h
theorem same_self {r : Rt} {ap am bp bm : Value} {W : World} (h1 : IntsAt W ap r.path) (h2 : IntsAt W am r.marks) (h3 : IntsAt W bp r.path) (h4 : IntsAt W bm r.marks) :
    Calls Tryz.prog 15 #[rtV r ap am, rtV r bp bm] W fun e w' => e = .returned (.bool true) ∧ Below W.heap.size W w' := by
  have h := sameRoute_any r r ap am bp bm W h1 h2 h3 h4
  rw [show sameRt r r = true by simp [sameRt]] at h
  exact h
theorem route_said (l : List Int) (x : Value) (w : World) (h : IntsAt w x l) :
    Calls Tryz.prog 13 #[x] w fun e w' => ∃ vp vm, e = .returned (rtV (routeR l) vp vm) ∧ w'.ownsRow w.heap.size 3 1 vp (routeR l).path.length (intCells (routeR l).path) ∧ w'.ownsRow w.heap.size 3 1 vm (routeR l).marks.length (intCells (routeR l).marks) ∧ Below w.heap.size w w' := route_any l x w h
theorem rtVal_ints {w : World} {n : Nat} {r : Rt} {pv mv : Value} (h : RtVal w n r pv mv) (h1 : ∀ x ∈ r.path, inI x) (h2 : ∀ x ∈ r.marks, inI x) (n1 : r.path.length ≤ 1000) (n2 : r.marks.length ≤ 1000) : IntsAt w pv r.path ∧ IntsAt w mv r.marks :=
  ⟨IntsAt.own h.1 h1 (by omega), IntsAt.own h.2.1 h2 (by omega)⟩
end Go.Proofs.YtlhhdklendeikaaGreatDoor
