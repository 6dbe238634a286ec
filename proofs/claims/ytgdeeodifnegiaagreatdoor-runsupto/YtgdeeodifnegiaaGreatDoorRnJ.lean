/- A name that is defined: the document finds the definition whose meaning the program's reader found. No program. -/
import Derived.Test.YtgdeeodifnegiaaGreatDoorRnI
import Derived.Test.YtgdeeodifnegiaaGreatDoorEqG
namespace Go.Proofs.YtgdeeodifnegiaaGreatDoor.rf
open Go.RowKit

theorem findI_ge (t : ByteArray) (b : Bool) : ∀ (ds : List Df) (i : Nat), findI t b ds i < 0 ∨ (i : Int) ≤ findI t b ds i
  | [], i => by left; simp [findI]
  | d :: ds, i => by
    rw [findI]
    split
    · right; omega
    · rcases findI_ge t b ds (i + 1) with h | h
      · exact Or.inl h
      · exact Or.inr (by omega)
theorem find_set {ds : List Df} {Ds : List DefP} (h : DefsT ds Ds) {t : ByteArray} {S : SetM} : findSet Ds t = some S → ∀ i : Nat, ∃ j, ∃ hj : j < ds.length, findI t false ds i = ((i + j : Nat) : Int) ∧ S = unionM (ds[j].ranges.map rgSet) ∧ ∀ x ∈ ds[j].ranges, NetN x.addr x.len := by
  induction h with
  | nil => intro hf; simp [findSet] at hf
  | cons a b ih =>
    intro hf i
    cases a with
    | set hn =>
      rename_i nm l t'
      rw [findSet] at hf
      rw [findI]
      cases hc : (nm.text.toList == t.toList) with
      | true =>
        rw [hc] at hf
        simp only [Option.isSome_some, Bool.and_true, if_true, Option.some.injEq] at hf
        refine ⟨0, by simp, ?_, hf.symm, hn⟩
        rw [if_pos (by simp [hc])]
        simp
      | false =>
        rw [hc] at hf
        simp only [Bool.false_and, Bool.false_eq_true, if_false] at hf
        obtain ⟨j, hj, h1, h2, h3⟩ := ih hf (i + 1)
        refine ⟨j + 1, by simpa using hj, ?_, by simpa using h2, by simpa using h3⟩
        rw [if_neg (by simp [hc]), h1]
        congr 1; omega
    | way hw =>
      rename_i nm l t' W
      rw [findSet] at hf
      rw [findI]
      simp only [Option.isSome_none, Bool.and_false, Bool.false_eq_true, if_false] at hf
      obtain ⟨j, hj, h1, h2, h3⟩ := ih hf (i + 1)
      refine ⟨j + 1, by simpa using hj, ?_, by simpa using h2, by simpa using h3⟩
      rw [if_neg (by simp), h1]
      congr 1; omega
theorem find_way {ds : List Df} {Ds : List DefP} (h : DefsT ds Ds) {t : ByteArray} {W : WayM} : findWay Ds t = some W → ∀ i : Nat, ∃ j, ∃ hj : j < ds.length, findI t true ds i = ((i + j : Nat) : Int) ∧ WayT ds[j].way W := by
  induction h with
  | nil => intro hf; simp [findWay] at hf
  | cons a b ih =>
    intro hf i
    cases a with
    | set hn =>
      rename_i nm l t'
      rw [findWay] at hf
      rw [findI]
      simp only [Option.isSome_none, Bool.and_false, Bool.false_eq_true, if_false] at hf
      obtain ⟨j, hj, h1, h2⟩ := ih hf (i + 1)
      refine ⟨j + 1, by simpa using hj, ?_, by simpa using h2⟩
      rw [if_neg (by simp), h1]
      congr 1; omega
    | way hw =>
      rename_i nm l t' W'
      rw [findWay] at hf
      rw [findI]
      cases hc : (nm.text.toList == t.toList) with
      | true =>
        rw [hc] at hf
        simp only [Option.isSome_some, Bool.and_true, if_true, Option.some.injEq] at hf
        subst hf
        refine ⟨0, by simp, ?_, hw⟩
        rw [if_pos (by simp [hc])]
        simp
      | false =>
        rw [hc] at hf
        simp only [Bool.false_and, Bool.false_eq_true, if_false] at hf
        obtain ⟨j, hj, h1, h2⟩ := ih hf (i + 1)
        refine ⟨j + 1, by simpa using hj, ?_, by simpa using h2⟩
        rw [if_neg (by simp [hc]), h1]
        congr 1; omega
/-- the policy that is run, in memory, but for the state's own block -/
def PolW (ds : List Df) (ks : List Tr) (tk : List Tok) (ln : List Bool) (sb pb : Nat) (w : World) : Prop := Lasts w (fun k => k ≠ sb) (PolR pb ds ks tk ln)
theorem PolW.fr {ds : List Df} {ks : List Tr} {tk : List Tok} {ln : List Bool} (sb pb : Nat) (w w' : World) (h : PolW ds ks tk ln sb pb w) (hf : Fr (Sb sb) w (Sb sb) w') : PolW ds ks tk ln sb pb w' :=
  Lasts.mono h hf.size (fun k hk hn => ⟨hf.block k hk hn, hn⟩) (fun _ _ h => h)
end Go.Proofs.YtgdeeodifnegiaaGreatDoor.rf
