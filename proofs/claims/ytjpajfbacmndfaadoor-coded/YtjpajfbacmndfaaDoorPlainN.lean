/- What the statement Coded makes out of raw numbers, plain, no program: nets, a path, marks, a message; it is a message. -/
import Derived.Test.YtjpajfbacmndfaaDoorPlainM
namespace Go.Proofs.YtjpajfbacmndfaaDoor
open Go.RowKit

def pickP (c n : Int) : Int := (if c < 0 then -(c + 1) else c) % n
theorem pickP_bd {c n : Int} (h : 0 < n) : 0 ≤ pickP c n ∧ pickP c n < n := by
  unfold pickP; exact ⟨Int.emod_nonneg _ (by omega), Int.emod_lt_of_pos _ h⟩
def szP (k : Int) : Int := if k = 0 then 8 else if k = 1 then 16 else if k = 2 then 24 else if k = 3 then 32 else if k = 4 then 0 else if k = 5 then 9 else if k = 6 then 17 else 25
theorem szP_bd (k : Int) : 0 ≤ szP k ∧ szP k ≤ 32 := by unfold szP; repeat' split <;> omega
def rawA (n : Int) : Int := 167772160 + pickP (n.tdiv 8) 3 * 65536 + pickP (n.tdiv 24) 2 * 256 + pickP (n.tdiv 48) 2
theorem rawA_bd (n : Int) : 167772160 ≤ rawA n ∧ rawA n ≤ 167903489 := by
  have h1 := pickP_bd (c := n.tdiv 8) (n := 3) (by omega)
  have h2 := pickP_bd (c := n.tdiv 24) (n := 2) (by omega)
  have h3 := pickP_bd (c := n.tdiv 48) (n := 2) (by omega)
  unfold rawA; omega
def netP (n : Int) : Int × Int := (rawA n / powP (szP (pickP n 8)) * powP (szP (pickP n 8)), szP (pickP n 8))
theorem powP_pos (n : Int) : 0 < powP n := by unfold powP; exact Int.pow_pos (by omega)
theorem div_mul_bd {a p : Int} (h : 0 < p) (ha : 0 ≤ a) : 0 ≤ a / p * p ∧ a / p * p ≤ a ∧ a / p * p % p = 0 := by
  have h1 := Int.ediv_nonneg ha (Int.le_of_lt h)
  have h2 := Int.ediv_mul_le a (b := p) (by omega)
  exact ⟨Int.mul_nonneg h1 (by omega), h2, Int.mul_emod_left ..⟩
theorem netP_ok (n : Int) : netOk (netP n) := by
  have h1 := szP_bd (pickP n 8)
  have h3 := rawA_bd n
  have h4 := div_mul_bd (powP_pos (szP (pickP n 8))) (a := rawA n) (by omega)
  unfold netP
  exact ⟨⟨h4.1, by have := h4.2.1; simp only; omega⟩, h1, h4.2.2⟩
theorem netP_ne (n : Int) : netP n ≠ (1, 32) := by
  intro h
  have h3 := rawA_bd n
  unfold netP at h
  simp only [Prod.mk.injEq] at h
  obtain ⟨h1, h2⟩ := h
  rw [h2] at h1
  have : powP 32 = 1 := rfl
  rw [this] at h1
  omega

def pathP (l : List Int) (most : Nat) : List Int := (l.take most).map (fun x => 1 + pickP x 3)
theorem pathP_ok (l : List Int) {most : Nat} (h : most ≤ 12) : pathOk (pathP l most) := by
  unfold pathP
  refine ⟨by simp; omega, fun s hs => ?_⟩
  obtain ⟨x, _, rfl⟩ := List.mem_map.1 hs
  have := pickP_bd (c := x) (n := 3) (by omega)
  omega
def marksF : Int → List Int → List Int
  | _, [] => []
  | n, x :: l => (n + 1 + pickP x 3) :: marksF (n + 1 + pickP x 3) l
def marksP (l : List Int) (most : Nat) : List Int := marksF (-1) (l.take most)
theorem marksF_len : ∀ (l : List Int) (n : Int), (marksF n l).length = l.length := by
  intro l
  induction l with
  | nil => intro n; rfl
  | cons x l ih => intro n; simp [marksF, ih]
theorem marksF_rises : ∀ (l : List Int) (n : Int), n + 3 * l.length ≤ 65535 → rises (n + 1) (marksF n l) := by
  intro l
  induction l with
  | nil => intro n _; exact rises_nil _
  | cons x l ih =>
    intro n h
    have := pickP_bd (c := x) (n := 3) (by omega)
    simp only [List.length_cons] at h
    exact rises_cons.2 ⟨by omega, by omega, ih _ (by omega)⟩
theorem marksP_ok (l : List Int) {most : Nat} (h : most ≤ 8) : marksOk (marksP l most) := by
  unfold marksP
  refine ⟨by rw [marksF_len]; simp; omega, ?_⟩
  have h1 := marksF_rises (l.take most) (-1) (by have : (l.take most).length ≤ most := List.length_take_le _ _; omega)
  simpa using h1
theorem marksF_snoc : ∀ (l : List Int) (n x : Int), marksF n (l ++ [x]) = marksF n l ++ [(marksF n l).getLastD n + 1 + pickP x 3] := by
  intro l
  induction l with
  | nil => intro n x; rfl
  | cons y l ih =>
    intro n x
    simp only [List.cons_append, marksF, ih]
    cases hm : marksF (n + 1 + pickP y 3) l with
    | nil => simp
    | cons a b => simp [List.getLast?_cons]

/-- the i-th raw number, 0 behind the end -/
def atP (l : List Int) (i : Nat) : Int := l[i]?.getD 0
/-- the i-th net that is put in -/
def nthP (gone nets : List Int) (i : Nat) : Int × Int := if i < gone.length then netP (atP gone i) else netP (atP nets (i - gone.length))
def putP (gone nets : List Int) (i : Nat) (s : List (Int × Int) × List (Int × Int)) : List (Int × Int) × List (Int × Int) :=
  if nthP gone nets i ∈ s.1 ∨ nthP gone nets i ∈ s.2 then s
  else if i < gone.length then (s.1 ++ [nthP gone nets i], s.2) else (s.1, s.2 ++ [nthP gone nets i])
def putTo (gone nets : List Int) : Nat → List (Int × Int) × List (Int × Int)
  | 0 => ([], [])
  | k + 1 => putP gone nets k (putTo gone nets k)
theorem nthP_ok (gone nets : List Int) (i : Nat) : netOk (nthP gone nets i) ∧ nthP gone nets i ≠ (1, 32) := by
  unfold nthP; split <;> exact ⟨netP_ok _, netP_ne _⟩
theorem putTo_ok (gone nets : List Int) (k : Nat) :
    ((putTo gone nets k).1 ++ (putTo gone nets k).2).Nodup ∧ ((putTo gone nets k).1.length + (putTo gone nets k).2.length ≤ k) ∧
    (∀ x ∈ (putTo gone nets k).1 ++ (putTo gone nets k).2, netOk x ∧ x ≠ (1, 32)) := by
  induction k with
  | zero => simp [putTo]
  | succ k ih =>
    obtain ⟨h1, h2, h3⟩ := ih
    simp only [putTo, putP]
    generalize putTo gone nets k = s at h1 h2 h3
    have hx := nthP_ok gone nets k
    generalize nthP gone nets k = x at hx
    split
    · exact ⟨h1, by omega, h3⟩
    · rename_i hn
      rw [List.nodup_append] at h1
      split
      · refine ⟨?_, by simp; omega, ?_⟩
        · simp only [List.nodup_append, List.mem_append, List.mem_singleton]
          grind
        · intro y hy
          simp only [List.mem_append, List.mem_singleton] at hy
          rcases hy with (hy | rfl) | hy
          · exact h3 y (by simp [hy])
          · exact hx
          · exact h3 y (by simp [hy])
      · refine ⟨?_, by simp; omega, ?_⟩
        · simp only [List.nodup_append, List.mem_append, List.mem_singleton]
          grind
        · intro y hy
          simp only [List.mem_append, List.mem_singleton] at hy
          rcases hy with hy | (hy | rfl)
          · exact h3 y (by simp [hy])
          · exact h3 y (by simp [hy])
          · exact hx
def netsOr (l : List (Int × Int)) : List (Int × Int) := if l = [] then [(1, 32)] else l
/-- the message that is made -/
def codedM (gone nets r : List Int) : Msg :=
  let s := putTo gone nets (min (gone.length + nets.length) 19)
  { gone := s.1, nets := netsOr s.2,
    path := pathP (r.drop 3) (pickP (atP r 1) 6).toNat, marks := marksP (r.drop 6) (pickP (atP r 2) 5).toNat,
    pref := pickP (atP r 3) 4294967296, med := pickP (atP r 4) 3 * pickP (atP r 5) 1073741824 }
theorem codedM_ok (gone nets r : List Int) : msgOk (codedM gone nets r) := by
  obtain ⟨h1, h2, h3⟩ := putTo_ok gone nets (min (gone.length + nets.length) 19)
  have p1 := pickP_bd (c := atP r 1) (n := 6) (by omega)
  have p2 := pickP_bd (c := atP r 2) (n := 5) (by omega)
  have p3 := pickP_bd (c := atP r 3) (n := 4294967296) (by omega)
  have p4 := pickP_bd (c := atP r 4) (n := 3) (by omega)
  have p5 := pickP_bd (c := atP r 5) (n := 1073741824) (by omega)
  unfold codedM
  simp only
  generalize putTo gone nets (min (gone.length + nets.length) 19) = s at h1 h2 h3
  refine ⟨?_, pathP_ok _ (by omega), marksP_ok _ (by omega), ⟨p3.1, by simp only; omega⟩, ?_, Or.inl ?_⟩
  · simp only
    unfold netsOr
    split
    · rename_i hz
      rw [hz] at h1 h2 h3
      simp only [List.append_nil] at h1 h3
      refine ⟨by simp; omega, ?_, ?_⟩
      · intro x hx
        simp only [List.mem_append, List.mem_singleton] at hx
        rcases hx with hx | rfl
        · exact (h3 x hx).1
        · decide
      · rw [List.nodup_append]
        refine ⟨h1, by simp, fun x hx y hy => ?_⟩
        simp only [List.mem_singleton] at hy
        subst hy
        exact (h3 x hx).2
    · exact ⟨by simp; omega, fun x hx => (h3 x hx).1, h1⟩
  · simp only [numOk]
    rcases (by omega : pickP (atP r 4) 3 = 0 ∨ pickP (atP r 4) 3 = 1 ∨ pickP (atP r 4) 3 = 2) with h | h | h <;> rw [h] <;> omega
  · simp only
    unfold netsOr
    split
    · simp
    · assumption
end Go.Proofs.YtjpajfbacmndfaaDoor
