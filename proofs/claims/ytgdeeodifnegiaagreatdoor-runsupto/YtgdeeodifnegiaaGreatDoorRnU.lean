/- A policy of the document is run, whole (run.go: Run). -/
import Derived.Test.YtgdeeodifnegiaaGreatDoorRnR
import Derived.Test.YtgdeeodifnegiaaGreatDoorRnS
import Derived.Test.YtgdeeodifnegiaaGreatDoorRnQ
import Derived.Test.YtgdeeodifnegiaaGreatDoorRnT
namespace Go.Proofs.YtgdeeodifnegiaaGreatDoor.rf
open Go.RowKit

/-! ## what is said of every statement, of every condition -/
def VerOk (m : StpM) : Prop := ∀ R, (m R).2 = 0 ∨ (m R).2 = 1 ∨ (m R).2 = 2 ∨ (m R).2 = 3
theorem ver_perform : ∀ {ms : List StpM}, (∀ m ∈ ms, VerOk m) → VerOk (performM ms)
  | [], _ => fun _ => Or.inl rfl
  | m :: ms, hm => fun R => by
    rw [performM]
    split
    · exact ver_perform (fun m' h' => hm m' (List.mem_cons_of_mem _ h')) _
    · exact hm m List.mem_cons_self R
theorem ver_choose {c : CndM} {yes no : List StpM} (hy : VerOk (performM yes)) (hn : VerOk (performM no)) : VerOk (chooseM c yes no) := fun R => by
  unfold chooseM
  split
  · exact Or.inr (Or.inr (Or.inr rfl))
  · exact hy R
  · exact hn R
mutual
theorem stp_ver {Ds : List DefP} : ∀ {t : Tr} {m : StpM}, StpT Ds t m → VerOk m
  | _, _, .accept => fun _ => Or.inr (Or.inl rfl)
  | _, _, .reject => fun _ => Or.inr (Or.inr (Or.inl rfl))
  | _, _, .pref _ => fun R => by unfold setPrefM; split <;> simp
  | _, _, .med _ => fun R => by unfold setMedM; split <;> simp
  | _, _, .mark n a => fun R => by unfold markM; split <;> (try split) <;> simp
  | _, _, .unmark n a => fun R => by unfold unmarkM; split <;> simp
  | _, _, .prepend n a => fun R => by unfold prependM; split <;> simp
  | _, _, .if1 _ h => ver_choose (ver_perform (stps_ver h)) (fun _ => Or.inl rfl)
  | _, _, .if2 _ h g => ver_choose (ver_perform (stps_ver h)) (ver_perform (stps_ver g))
theorem stps_ver {Ds : List DefP} : ∀ {ks : List Tr} {ms : List StpM}, StpsT Ds ks ms → ∀ m ∈ ms, VerOk m
  | _, _, .nil => fun _ h => by cases h
  | _, _, .cons a b => fun m h => by
    rcases List.mem_cons.1 h with rfl | h
    · exact stp_ver a
    · exact stps_ver b m h
end
theorem cond_run {ds : List Df} {Ds : List DefP} (hDs : DefsT ds Ds) (ks : List Tr) (tk : List Tok) (ln : List Bool) {t : Tr} {m : CndM} (h : CndT Ds t m) : CndR (PolW ds ks tk ln) t m := by
  induction h with
  | eq a b => exact cnd_cmp _ (sum_run a) (sum_run b) _ true _ (Or.inl ⟨rfl, rfl, rfl⟩)
  | lt a b => exact cnd_cmp _ (sum_run a) (sum_run b) _ false _ (Or.inr ⟨rfl, rfl, rfl⟩)
  | or _ _ ha hb => exact cnd_bin PolW.fr ha hb _ false (Or.inr ⟨rfl, rfl, rfl⟩)
  | and _ _ ha hb => exact cnd_bin PolW.fr ha hb _ true (Or.inl ⟨rfl, rfl, rfl⟩)
  | not _ ha => exact cnd_not PolW.fr ha _ rfl
  | marked n a => exact cnd_marked _ n a
  | net t a hS => exact cnd_in hDs ks tk ln t a hS
  | like t a hS => exact cnd_like hDs ks tk ln t a hS
/-! ## Run -/
theorem below_sb {w W w' : World} {sb : Nat} (hb : Below w.heap.size w W) (hs : w.heap.size ≤ sb) (hf : Fr (Sb sb) W (Sb sb) w') : Below w.heap.size w w' :=
  ⟨hf.os.trans hb.os, hf.tape.trans hb.tape, hf.output.trans hb.output, Nat.le_trans hb.size hf.size, fun k hk => (hf.block k (Nat.lt_of_lt_of_le hk hb.size) (fun hm => by have : k = sb := hm; omega)).trans (hb.block k hk)⟩
/-- a row of ints does not lie in a block of another type -/
theorem own_other {w : World} {v : Value} {n : Nat} {xs : List Value} {b : Nat} {cs : Array Value} {t : TypeId} {f : Nat × Nat} (h : w.ownsRow 0 3 1 v n xs) (hb : w.heap[b]? = some (.cells cs t f)) (ht : t ≠ 3) : v.ownBlock ≠ some b := fun e => by
  rcases h.2 with ⟨e1, _⟩ | ⟨g, cap, cur, e1, _, h3, _⟩
  · rw [e1] at e; simp [Value.ownBlock] at e
  · rw [e1] at e
    simp only [Value.ownBlock, Option.some.injEq] at e
    subst e
    have h4 := hb.symm.trans h3
    simp at h4
    exact ht h4.2.1
/-- what a route's answer is, with the error's number -/
def runE (ms : List StpM) (R : Rt) : Rt × Int × Int := if rtOk R = true then ((runM ms R).1, (runM ms R).2, 0) else (rt0, 0, 5)
def RunP (w : World) (q : Rt × Int × Int) (e : Ending) (w' : World) : Prop := ∃ pv mv, e = .returned (.tuple #[.agg (rtC q.1 pv mv), .int .i64 q.2.1, .int .i64 q.2.2]) ∧ w'.ownsRow 0 3 1 pv q.1.path.length (intCells q.1.path) ∧ w'.ownsRow 0 3 1 mv q.1.marks.length (intCells q.1.marks) ∧ Below w.heap.size w w'
end Go.Proofs.YtgdeeodifnegiaaGreatDoor.rf
