/- Sided: what its policies do with a route; no program. -/
import Derived.Test.YtlhhdklendeikaaGreatDoorSidU
import Derived.Test.YtlhhdklendeikaaGreatDoorKpB
namespace Go.Proofs.YtlhhdklendeikaaGreatDoor
open Go.RowKit

def rteR (l : List Int) : Rt := ⟨(netP (atP l 0)).1, (netP (atP l 0)).2, pathP (l.drop 3) (pickP (atP l 1) 6).toNat, marksP (l.drop 6) (pickP (atP l 2) 5).toNat, pickP (atP l 3) 4, pickP (atP l 4) 5⟩
theorem rteR_ok (l : List Int) : rtOk (rteR l) = true := by
  have h1 := pickP_bd (c := atP l 1) (n := 6) (by omega)
  have h2 := pickP_bd (c := atP l 2) (n := 5) (by omega)
  have h3 := pickP_bd (c := atP l 3) (n := 4) (by omega)
  have h4 := pickP_bd (c := atP l 4) (n := 5) (by omega)
  exact decide_eq_true ⟨netP_ok (atP l 0), pathP_ok (l.drop 3) (by omega), marksP_ok (l.drop 6) (by omega), ⟨by show 0 ≤ pickP _ _; omega, by show pickP _ _ ≤ _; omega⟩, ⟨by show 0 ≤ pickP _ _; omega, by show pickP _ _ ≤ _; omega⟩⟩
/-- a route that leaves room -/
structure Room (r : Rt) : Prop where
  ok : rtOk r = true
  path : r.path.length ≤ 6
  marks : r.marks.length ≤ 5
  pref : 0 ≤ r.pref ∧ r.pref ≤ 9
  med : 0 ≤ r.med ∧ r.med ≤ 9
theorem rteR_room (l : List Int) : Room (rteR l) := by
  have h1 := pickP_bd (c := atP l 1) (n := 6) (by omega)
  have h2 := pickP_bd (c := atP l 2) (n := 5) (by omega)
  have h3 := pickP_bd (c := atP l 3) (n := 4) (by omega)
  have h4 := pickP_bd (c := atP l 4) (n := 5) (by omega)
  refine ⟨rteR_ok l, ?_, ?_, ⟨h3.1, by show pickP _ _ ≤ 9; omega⟩, ⟨h4.1, by show pickP _ _ ≤ 9; omega⟩⟩
  · show (pathP (l.drop 3) (pickP (atP l 1) 6).toNat).length ≤ 6
    unfold pathP; simp; omega
  · show (marksP (l.drop 6) (pickP (atP l 2) 5).toNat).length ≤ 5
    unfold marksP
    rw [marksF_len]; simp; omega
theorem plus_tot {x y : Int} (hx : 0 ≤ x ∧ x ≤ 9) (hy : 0 ≤ y ∧ y ≤ 9) : plusN 1 x y = some (x + y) := by
  have e : wr64 (x + wr64 (1 * y)) = x + y := by
    unfold wr64 wrap64; omega
  unfold plusN
  rw [e, if_pos ⟨by omega, by omega⟩]
/-- a condition is always told -/
theorem Ct.tot {r : Rt} (hr : Room r) : ∀ (a : Ct), a.ok → ∃ b, a.M S0 W0 r = some b
  | .net, _ => ⟨_, rfl⟩
  | .way, _ => ⟨_, rfl⟩
  | .mrk _, _ => ⟨_, rfl⟩
  | .len _, _ => ⟨_, rfl⟩
  | .prf _, _ => ⟨_, rfl⟩
  | .med n, ho => by
    have hn : n ≤ 9 := ho
    refine ⟨decide (r.med + 1 < r.pref + n), ?_⟩
    show cmpM _ (plusM medM (constM 1) 1) (plusM prefM (constM (n : Int)) 1) r = _
    have e1 : plusM medM (constM 1) 1 r = some (r.med + 1) := by
      show plusN 1 r.med 1 = _
      exact plus_tot hr.med ⟨by omega, by omega⟩
    have e2 : plusM prefM (constM (n : Int)) 1 r = some (r.pref + n) := by
      show plusN 1 r.pref (n : Int) = _
      exact plus_tot hr.pref ⟨by omega, by omega⟩
    unfold cmpM
    rw [e1, e2]
  | .not a, ho => by
    obtain ⟨b, h⟩ := a.tot hr ho
    exact ⟨!b, by show (a.M S0 W0 r).map _ = _; rw [h]; rfl⟩
  | .brk a, ho => a.tot hr ho
  | .and a b, ho => by
    obtain ⟨x, h1⟩ := a.tot hr ho.1
    obtain ⟨y, h2⟩ := b.tot hr ho.2
    refine ⟨x && y, ?_⟩
    show andM (a.M S0 W0) (b.M S0 W0) r = _
    unfold andM
    rw [h1]
    cases x with
    | false => rfl
    | true => exact h2
  | .or a b, ho => by
    obtain ⟨x, h1⟩ := a.tot hr ho.1
    obtain ⟨y, h2⟩ := b.tot hr ho.2
    refine ⟨x || y, ?_⟩
    show orM (a.M S0 W0) (b.M S0 W0) r = _
    unfold orM
    rw [h1]
    cases x with
    | true => rfl
    | false => exact h2
/-! ## the two blocks -/
theorem one_eq {r : Rt} (hr : Room r) : performM oneMs r = ((markM 3 { r with path := 5 :: r.path }).1, 1) := by
  have h1 : prependM 5 r = ({ r with path := 5 :: r.path }, 0) := by
    unfold prependM; rw [if_neg (by have := hr.path; omega)]
  have h2 : (markM 3 { r with path := 5 :: r.path }).2 = 0 := by
    unfold markM
    split
    · rfl
    · rw [if_neg (by have := hr.marks; show ¬ r.marks.length = 8; omega)]
  unfold oneMs
  rw [performM, h1, if_pos rfl, performM, if_pos h2, performM]
  rfl
theorem one_run {r : Rt} (hr : Room r) : (performM oneMs r).2 = 1 := by rw [one_eq hr]
theorem two_eq {r : Rt} (hr : Room r) : performM twoMs r = ((unmarkM 2 { r with pref := r.pref + 1 }).1, 1) := by
  have e1 : plusM prefM (constM 1) 1 r = some (r.pref + 1) := by
    show plusN 1 r.pref 1 = _
    exact plus_tot hr.pref ⟨by omega, by omega⟩
  have h1 : setPrefM (plusM prefM (constM 1) 1) r = ({ r with pref := r.pref + 1 }, 0) := by
    unfold setPrefM; rw [e1]
  have h2 : (unmarkM 2 { r with pref := r.pref + 1 }).2 = 0 := by
    unfold unmarkM; split <;> rfl
  unfold twoMs
  rw [performM, h1, if_pos rfl, performM, if_pos h2, performM]
  rfl
theorem two_run {r : Rt} (hr : Room r) : (performM twoMs r).2 = 1 := by rw [two_eq hr]
/-- its numbers are numbers -/
def AllIn (r : Rt) : Prop := (∀ x ∈ r.path, inI x) ∧ (∀ x ∈ r.marks, inI x) ∧ (r.path.length : Int) ≤ 100 ∧ (r.marks.length : Int) ≤ 100
theorem Room.all {r : Rt} (hr : Room r) : AllIn r := by
  obtain ⟨⟨_, _, _⟩, ⟨_, h4⟩, ⟨_, h6⟩, _⟩ := (of_decide_eq_true hr.ok : routeOk (r.addr, r.len) r.path r.marks r.pref r.med)
  refine ⟨fun x hx => ?_, fun x hx => ?_, by have := hr.path; omega, by have := hr.marks; omega⟩
  · have := h4 x hx; unfold inI; omega
  · have := rises_all h6 x hx; unfold inI; omega
theorem one_in {r : Rt} (hr : Room r) : AllIn (performM oneMs r).1 := by
  obtain ⟨h1, h2, h3, h4⟩ := hr.all
  rw [one_eq hr]
  have hm := hr.marks
  have hp := hr.path
  have h5 : ∀ x ∈ (5 :: r.path), inI x := fun x hx => by
    rcases List.mem_cons.1 hx with rfl | hx
    · unfold inI; omega
    · exact h1 x hx
  unfold markM
  split
  · exact ⟨h5, h2, by simp; omega, h4⟩
  · split
    · exact ⟨h5, h2, by simp; omega, h4⟩
    · refine ⟨h5, fun x hx => ?_, by simp; omega, ?_⟩
      · rcases List.mem_append.1 hx with hx | hx
        · exact h2 x (List.mem_of_mem_take hx)
        · rcases List.mem_cons.1 hx with rfl | hx
          · unfold inI; omega
          · exact h2 x (List.mem_of_mem_drop hx)
      · simp; omega
theorem two_in {r : Rt} (hr : Room r) : AllIn (performM twoMs r).1 := by
  obtain ⟨h1, h2, h3, h4⟩ := hr.all
  rw [two_eq hr]
  have hm := hr.marks
  unfold unmarkM
  split
  · refine ⟨h1, fun x hx => h2 x (List.mem_of_mem_erase hx), h3, ?_⟩
    have := List.length_erase_le (a := (2 : Int)) (l := r.marks)
    show ((r.marks.erase 2).length : Int) ≤ 100
    omega
  · exact ⟨h1, h2, h3, h4⟩
theorem rt0_in : AllIn rt0 := ⟨fun x hx => (by cases hx), fun x hx => (by cases hx), by decide, by decide⟩
/-- what is done, told by the block -/
theorem runM_one {c : CndM} {yes no rest : List StpM} {r : Rt} {b : Bool} (hc : c r = some b) (hy : (performM yes r).2 = 1) (hn : (performM no r).2 = 1) : runM (chooseM c yes no :: rest) r = (if b then (performM yes r).1 else (performM no r).1, 1) := by
  have h0 : performM (chooseM c yes no :: rest) r = if b then performM yes r else performM no r := by
    rw [performM]
    unfold chooseM
    rw [hc]
    cases b with
    | true => dsimp only; rw [if_neg (by rw [hy]; decide)]; rfl
    | false => dsimp only; rw [if_neg (by rw [hn]; decide)]; rfl
  unfold runM
  rw [h0]
  cases b with
  | true => simp [hy]
  | false => simp [hn]
theorem runM_acc {c : CndM} {yes : List StpM} {r : Rt} {b : Bool} (hc : c r = some b) (hy : performM yes r = (r, 1)) : runM [chooseM c yes []] r = if b then (r, 1) else (rt0, 2) := by
  have h0 : performM [chooseM c yes []] r = if b then (r, 1) else (r, 0) := by
    rw [performM]
    unfold chooseM
    rw [hc]
    cases b with
    | true => dsimp only; rw [hy]; rfl
    | false => rfl
  unfold runM
  rw [h0]
  cases b <;> rfl
/-- p and q do the same; u and v do the same -/
theorem sided_pq {r : Rt} (hr : Room r) (x : Ct) (hx : x.ok) : ∃ R, (R = (performM oneMs r).1 ∨ R = (performM twoMs r).1) ∧ runM [chooseM (x.M S0 W0) oneMs twoMs] r = (R, 1) ∧ runM [chooseM ((Ct.not (.brk x)).M S0 W0) twoMs oneMs, concludeM 2] r = (R, 1) := by
  obtain ⟨b, hb⟩ := x.tot hr hx
  have hn : (Ct.not (.brk x)).M S0 W0 r = some (!b) := by
    show (x.M S0 W0 r).map _ = _
    rw [hb]; rfl
  refine ⟨if b then (performM oneMs r).1 else (performM twoMs r).1, ?_, runM_one hb (one_run hr) (two_run hr), ?_⟩
  · cases b
    · exact Or.inr rfl
    · exact Or.inl rfl
  · rw [runM_one hn (two_run hr) (one_run hr)]
    cases b <;> rfl
theorem sided_uv {r : Rt} (hr : Room r) (x y : Ct) (hx : x.ok) (hy : y.ok) : ∃ b : Bool, runM [chooseM (orM ((Ct.brk x).M S0 W0) ((Ct.brk y).M S0 W0)) [concludeM 1] []] r = (if b then (r, 1) else (rt0, 2)) ∧
    runM [chooseM ((Ct.not (.and (.not (.brk x)) (.not (.brk y)))).M S0 W0) [concludeM 1, prependM 9] []] r = (if b then (r, 1) else (rt0, 2)) := by
  obtain ⟨a, ha⟩ := x.tot hr hx
  obtain ⟨b, hb⟩ := y.tot hr hy
  have h1 : orM ((Ct.brk x).M S0 W0) ((Ct.brk y).M S0 W0) r = some (a || b) := by
    show orM (x.M S0 W0) (y.M S0 W0) r = _
    unfold orM
    rw [ha]
    cases a with
    | true => rfl
    | false => exact hb
  have h2 : (Ct.not (.and (.not (.brk x)) (.not (.brk y)))).M S0 W0 r = some (a || b) := by
    show (andM (notM (x.M S0 W0)) (notM (y.M S0 W0)) r).map _ = _
    have e1 : notM (x.M S0 W0) r = some (!a) := by show (x.M S0 W0 r).map _ = _; rw [ha]; rfl
    have e2 : notM (y.M S0 W0) r = some (!b) := by show (y.M S0 W0 r).map _ = _; rw [hb]; rfl
    unfold andM
    rw [e1]
    cases a with
    | true => rfl
    | false =>
      show Option.map _ (notM (y.M S0 W0) r) = _
      rw [e2]
      cases b <;> rfl
  exact ⟨a || b, runM_acc h1 rfl, runM_acc h2 rfl⟩
end Go.Proofs.YtlhhdklendeikaaGreatDoor
