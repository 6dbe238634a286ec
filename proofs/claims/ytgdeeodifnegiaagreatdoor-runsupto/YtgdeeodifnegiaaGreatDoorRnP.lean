/- A policy of the document is run: every statement does what its meaning says (run.go: do), given the conditions. -/
import Derived.Test.YtgdeeodifnegiaaGreatDoorRnO
import Derived.Test.YtgdeeodifnegiaaGreatDoorMrkA
namespace Go.Proofs.YtgdeeodifnegiaaGreatDoor.rf
open Go.RowKit

theorem keep_mark (n : Int) : Keeps' (markM n) := fun R h => by
  unfold markM
  split
  · exact h
  · rename_i hc
    split
    · exact h
    · rename_i h8
      have hm := h.marks
      refine ⟨h.path, ?_, ins_sorted h.rise (by simpa using hc), h.net⟩
      have := place_le R.marks n
      show (R.marks.take (placeM R.marks n) ++ n :: R.marks.drop (placeM R.marks n)).length ≤ 8
      simp
      omega
theorem keep_unmark (n : Int) : Keeps' (unmarkM n) := fun R h => by
  unfold unmarkM
  split
  · exact ⟨h.path, Nat.le_trans List.length_erase_le h.marks, h.rise.sublist List.erase_sublist, h.net⟩
  · exact h
theorem keep_prepend (n : Int) : Keeps' (prependM n) := fun R h => by
  unfold prependM
  split
  · exact h
  · rename_i h12
    have := h.path
    exact ⟨by show (n :: R.path).length ≤ 12; simp; omega, h.marks, h.rise, h.net⟩
theorem keep_pref (a : AmtM) : Keeps' (setPrefM a) := fun R h => by
  unfold setPrefM
  split
  · exact h
  · exact ⟨h.path, h.marks, h.rise, h.net⟩
theorem keep_med (a : AmtM) : Keeps' (setMedM a) := fun R h => by
  unfold setMedM
  split
  · exact h
  · exact ⟨h.path, h.marks, h.rise, h.net⟩
theorem keep_perform : ∀ {ms : List StpM}, (∀ m ∈ ms, Keeps' m) → Keeps' (performM ms)
  | [], _ => fun _ h => h
  | m :: ms, hm => fun R h => by
    rw [performM]
    split
    · exact keep_perform (fun m' h' => hm m' (List.mem_cons_of_mem _ h')) _ (hm m List.mem_cons_self R h)
    · exact hm m List.mem_cons_self R h
theorem keep_choose {c : CndM} {yes no : List StpM} (hy : Keeps' (performM yes)) (hn : Keeps' (performM no)) : Keeps' (chooseM c yes no) := fun R h => by
  unfold chooseM
  split
  · exact h
  · exact hy R h
  · exact hn R h
mutual
theorem stp_keeps {Ds : List DefP} : ∀ {t : Tr} {m : StpM}, StpT Ds t m → Keeps' m
  | _, _, .accept => fun _ h => h
  | _, _, .reject => fun _ h => h
  | _, _, .pref _ => keep_pref _
  | _, _, .med _ => keep_med _
  | _, _, .mark n _ => keep_mark n
  | _, _, .unmark n _ => keep_unmark n
  | _, _, .prepend n _ => keep_prepend n
  | _, _, .if1 _ h => keep_choose (keep_perform (stps_keeps h)) (fun _ h => h)
  | _, _, .if2 _ h g => keep_choose (keep_perform (stps_keeps h)) (keep_perform (stps_keeps g))
theorem stps_keeps {Ds : List DefP} : ∀ {ks : List Tr} {ms : List StpM}, StpsT Ds ks ms → ∀ m ∈ ms, Keeps' m
  | _, _, .nil, _, h => by cases h
  | _, _, .cons a b, m, h => by
    rcases List.mem_cons.1 h with rfl | h
    · exact stp_keeps a
    · exact stps_keeps b m h
end
theorem StpsT.len {Ds : List DefP} : ∀ {ks : List Tr} {ms : List StpM}, StpsT Ds ks ms → ks.length = ms.length
  | _, _, .nil => rfl
  | _, _, .cons _ b => by simp [StpsT.len b]
section
variable {Ds : List DefP} {P : Nat → Nat → World → Prop} (hP : ∀ sb pb w w', P sb pb w → Fr (Sb sb) w (Sb sb) w' → P sb pb w') (HC : ∀ t m, CndT Ds t m → CndR P t m)
include hP HC
mutual
/-- a statement -/
theorem do_run : ∀ {t : Tr} {m : StpM}, StpT Ds t m → StpR P t m
  | _, _, .accept => do_end P _ 1 true (Or.inl ⟨rfl, rfl, rfl⟩)
  | _, _, .reject => do_end P _ 2 false (Or.inr ⟨rfl, rfl, rfl⟩)
  | _, _, .pref h => do_set P (sum_run h) _ true (Or.inl ⟨rfl, rfl, rfl⟩)
  | _, _, .med h => do_set P (sum_run h) _ false (Or.inr ⟨rfl, rfl, rfl⟩)
  | _, _, .mark n a => do_mark P n a _ rfl
  | _, _, .unmark n a => do_unmark P n a _ rfl
  | _, _, .prepend n a => do_prepend P n a _ rfl
  | _, _, .if1 hc h => do_if hP (HC _ _ hc) (do_block hP (StpsT.len h) (do_runs h) _ rfl) (Or.inl ⟨rfl, rfl⟩) _ rfl
  | _, _, .if2 hc h g => do_if hP (HC _ _ hc) (do_block hP (StpsT.len h) (do_runs h) _ rfl) (Or.inr ⟨_, rfl, do_block hP (StpsT.len g) (do_runs g) _ rfl⟩) _ rfl
theorem do_runs : ∀ {ks : List Tr} {ms : List StpM}, StpsT Ds ks ms → ∀ i, (h : i < ks.length) → (h' : i < ms.length) → StpR P ks[i] ms[i] ∧ Keeps' ms[i]
  | _, _, .cons a _, 0, _, _ => ⟨do_run a, stp_keeps a⟩
  | _, _, .cons _ b, i + 1, h, h' => do_runs b i (by simpa using h) (by simpa using h')
end
end
end Go.Proofs.YtgdeeodifnegiaaGreatDoor.rf
