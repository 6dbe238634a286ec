/- The policy that Printed makes: its text, its printed text; what it does with a route. -/
import Derived.Test.YtlhhdklendeikaaGreatDoorPrtK
import Derived.Test.YtlhhdklendeikaaGreatDoorSidV
import Derived.Test.YtlhhdklendeikaaGreatDoorSidW
namespace Go.Proofs.YtlhhdklendeikaaGreatDoor
open Go.RowKit

def txt (l : List TokP) : Nat := (l.map (fun t => t.text.size)).sum
theorem allGo_txt (s : ByteArray) : ∀ f k, k ≤ s.size → txt (allGo s f k) + k ≤ s.size
  | 0, k, h => by simpa [allGo, txt] using h
  | f + 1, k, h => by
    rw [allGo]
    split
    · rename_i hlt
      have ht := tkAt_text hlt
      split
      · have := allGo_txt s f (k + 1) (by omega); omega
      · split
        · show ((tkAt s k).text.size + 0) + k ≤ s.size; omega
        · have := allGo_txt s f (k + (tkAt s k).text.size) ht.2
          show ((tkAt s k).text.size + txt (allGo s f (k + (tkAt s k).text.size))) + k ≤ s.size
          omega
    · show (0 + 0) + k ≤ s.size; omega
theorem allP_txt (s : ByteArray) : txt (allP s) ≤ s.size := allGo_txt s (s.size + 1) 0 (Nat.zero_le _)
theorem txt_take (l : List TokP) : ∀ n, txt (l.take n) ≤ txt l := by
  induction l with
  | nil => intro n; simp [txt]
  | cons t l ih =>
    intro n
    cases n with
    | zero => simp [txt]
    | succ n =>
      have := ih n
      show t.text.size + txt (l.take n) ≤ t.text.size + txt l
      omega
theorem rend_len : ∀ (l : List Gp), (∀ x ∈ l, x.1.length ≤ 1) → (rend l).length ≤ txt (l.map (·.2)) + l.length
  | [], _ => by simp [rend, txt]
  | x :: l, h => by
    have h1 := h x List.mem_cons_self
    have h2 := rend_len l (fun y hy => h y (List.mem_cons_of_mem _ hy))
    have e : rend (x :: l) = x.1 ++ x.2.text.data.toList ++ rend l := rfl
    rw [e]
    simp only [List.length_append, List.length_cons]
    show x.1.length + x.2.text.data.toList.length + (rend l).length ≤ (x.2.text.size + txt (l.map (·.2))) + (l.length + 1)
    have h3 : x.2.text.data.toList.length = x.2.text.size := by simp
    omega
theorem gap_len {g : List UInt8} (h : gapOk g) : g.length ≤ 1 := by rcases h with rfl | rfl <;> simp
theorem printed_len {ts : List TokP} {st : RS} (hp : Pg ts st) : (printed st).size ≤ txt ts + st.next + 1 := by
  obtain ⟨⟨l, hpe, hpm, hs, hh⟩, hg⟩ := hp
  have hl : ∀ x ∈ l, x.1.length ≤ 1 := fun x hx => by
    cases l with
    | nil => cases hx
    | cons a l =>
      rcases List.mem_cons.1 hx with rfl | hx
      · rcases hh x rfl with h | h
        · rw [h]; simp
        · exact gap_len h
      · rcases hs x hx with h | ⟨h, _⟩
        · exact gap_len h
        · rw [h]; simp
  have h1 := rend_len l hl
  have h2 : l.length ≤ st.next := by
    have := congrArg List.length hpm
    rw [List.length_map, List.length_take] at this; omega
  have h3 := txt_take ts st.next
  rw [← hpm] at h3
  have h4 : st.gap.data.toList.length ≤ 1 := by
    rcases hg with ⟨h, _⟩ | h
    · rw [h]; simp
    · exact gap_len h
  unfold printed
  rw [bsA_size, List.length_append, hpe]
  omega
theorem Ct.n_le : ∀ (a : Ct), a.n + 3 ≤ 10 * 2 ^ a.h
  | .net => by decide
  | .way => by decide
  | .mrk _ => by simp [Ct.n, Ct.h]
  | .len _ => by simp [Ct.n, Ct.h]
  | .prf _ => by simp [Ct.n, Ct.h]
  | .med _ => by simp [Ct.n, Ct.h]
  | .not a => by
    have := a.n_le
    simp only [Ct.n, Ct.h, Nat.pow_succ]; omega
  | .brk a => by
    have := a.n_le
    have h0 : 3 ≤ a.n + 3 := by omega
    simp only [Ct.n, Ct.h, Nat.pow_succ]; omega
  | .and a b => by
    have h1 := a.n_le
    have h2 := b.n_le
    have h3 : 2 ^ a.h ≤ 2 ^ max a.h b.h := Nat.pow_le_pow_right (by decide) (Nat.le_max_left _ _)
    have h4 : 2 ^ b.h ≤ 2 ^ max a.h b.h := Nat.pow_le_pow_right (by decide) (Nat.le_max_right _ _)
    simp only [Ct.n, Ct.h, Nat.pow_succ]; omega
  | .or a b => by
    have h1 := a.n_le
    have h2 := b.n_le
    have h3 : 2 ^ a.h ≤ 2 ^ max a.h b.h := Nat.pow_le_pow_right (by decide) (Nat.le_max_left _ _)
    have h4 : 2 ^ b.h ≤ 2 ^ max a.h b.h := Nat.pow_le_pow_right (by decide) (Nat.le_max_right _ _)
    simp only [Ct.n, Ct.h, Nat.pow_succ]; omega
theorem Ct.n_lt {a : Ct} (h : a.h ≤ 2) : a.n ≤ 37 := by
  have h1 := a.n_le
  have h2 : 2 ^ a.h ≤ 2 ^ 2 := Nat.pow_le_pow_right (by decide) h
  omega
/-! ## its text -/
def tBy1 : List UInt8 := [123, 32, 109, 97, 114, 107, 32, 49, 59, 32, 105, 102, 32]
def tBy2 : List UInt8 := [123, 32, 97, 99, 99, 101, 112, 116, 59, 32, 125, 32, 101, 108, 115, 101, 32, 123, 32, 125, 32, 125, 32, 101, 108, 115, 101, 32, 123, 32, 112, 114, 101, 112, 101, 110, 100, 32, 51, 59, 32, 97, 99, 99, 101, 112, 116, 59, 32, 125, 32, 112, 114, 101, 102, 32, 61, 32, 40, 32, 112, 114, 101, 102, 32, 43, 32, 50, 32, 41, 32, 45, 32, 109, 101, 100, 59, 32, 97, 99, 99, 101, 112, 116, 59]
theorem tC_bytes : pcBytes tC = tBy2 := by
  simp only [tC, pcBytes, wPc, sPc, nPc, wds.2.2.1, wds.2.2.2.2.2.2.1, wds.2.2.2.2.2.2.2.2.2, wd_bytes.2.2.2.2.2.2.1, wd_bytes.2.2.2.2.2.2.2.1, dec_small (u := 3) (by decide), dec_small (u := 2) (by decide)]
  decide +kernel
theorem tL_bytes (x y : Ct) : pcBytes (tL x y) = dfB ++ ([105, 102, 32] ++ (x.bs ++ ([32, 116, 104, 101, 110, 32] ++ (tBy1 ++ (y.bs ++ ([32, 116, 104, 101, 110, 32] ++ tBy2)))))) := by
  rw [tL, if_bytes, show (Tc.one x).bs = x.bs from rfl]
  congr 4
  show [123] ++ 32 :: ((wd 6).data.toList ++ 32 :: (Lib.decDigits 1 ++ ([59] ++ 32 :: ((wd 9).data.toList ++ 32 :: pcBytes (y.pc _))))) = _
  rw [y.hd, wds.2.2.2.2.1, wds.2.2.2.2.2.2.2.1, dec_small (by decide)]
  simp only [pcBytes, wPc, wds.2.2.2.2.2.2.2.2.1, tC_bytes, tBy1]
  simp [Ct.bs]
theorem tBy2_len : tBy2.length = 85 := by decide +kernel
/-- it is taken; what it is printed as is taken too -/
theorem t_read {x y : Ct} (hx : x.ok ∧ x.h ≤ 2) (hy : y.ok ∧ y.h ≤ 2) : ∃ X : ByteArray, X.size ≤ 600 ∧ ReadX (bsA (pcBytes (tL x y))) (tMs x y) X ∧ ReadX X (tMs x y) X := by
  obtain ⟨st, hp, g⟩ := t_policy (x := x) (y := y) ⟨hx.1, by omega⟩ ⟨hy.1, by omega⟩
  have hall := pcs_all (tL_ok (x := x) (y := y) ⟨hx.1, by omega⟩ hy.1)
  have lX := Ct.bs_lt hx.1 hx.2
  have lY := Ct.bs_lt hy.1 hy.2
  have nX := Ct.n_lt hx.2
  have nY := Ct.n_lt hy.2
  have hs : (bsA (pcBytes (tL x y))).size ≤ 430 := by
    rw [bsA_size, tL_bytes]
    simp only [List.length_append, show dfB.length = 45 from rfl, show tBy1.length = 13 from rfl, tBy2_len, List.length_cons, List.length_nil]
    omega
  obtain ⟨r, hr, hsim, hr2⟩ := polA_more (f := 3) (by decide) hp
  dsimp only at hsim hr2
  have hn : ¬ Told r.1 := by
    unfold Told
    rw [hsim.syn, hsim.nam, hsim.num, g.syn, g.nam, g.num]
    simp
  rw [← hall] at hr
  obtain ⟨hpg, r', e1, e2, e3, e4, e5⟩ := again hr hn
  have hP := policy_page (fun I C => stmA_keeps _ I C) hr
  have hsz := printed_len hP
  have hnx : r.1.next = 17 + x.n + 1 + 5 + y.n + 1 + 28 := by rw [hsim.next, g.next]
  have htx : txt (allP (bsA (pcBytes (tL x y)))) ≤ (bsA (pcBytes (tL x y))).size := by
    exact allP_txt _
  have hx6 : (printed r.1).size ≤ 600 := by omega
  refine ⟨printed r.1, hx6, readX_of (by omega) hr hn hr2 hpg, ?_⟩
  have := readX_of hx6 e1 e3 (by rw [e2]; exact hr2) (by rw [e5]; exact hpg)
  rw [e4] at this
  exact this
/-! ## what it does -/
def BIn (k : Nat) (r : Rt) : Prop := (∀ x ∈ r.path, inI x) ∧ (∀ x ∈ r.marks, inI x) ∧ r.path.length ≤ 20 + k ∧ r.marks.length ≤ 20 + k
def StIn (c : Nat) (m : StpM) : Prop := ∀ k r, BIn k r → BIn (k + c) (m r).1
theorem BIn.mono {k j : Nat} {r : Rt} (h : BIn k r) (hj : k ≤ j) : BIn j r := ⟨h.1, h.2.1, Nat.le_trans h.2.2.1 (by omega), Nat.le_trans h.2.2.2 (by omega)⟩
theorem mark_in {n : Int} (hn : inI n) : StIn 1 (markM n) := fun k r h => by
  unfold markM
  split
  · exact h.mono (by omega)
  · split
    · exact h.mono (by omega)
    · obtain ⟨h1, h2, h3, h4⟩ := h
      refine ⟨h1, fun x hx => ?_, by show r.path.length ≤ _; omega, ?_⟩
      · rcases List.mem_append.1 hx with hx | hx
        · exact h2 x (List.mem_of_mem_take hx)
        · rcases List.mem_cons.1 hx with rfl | hx
          · exact hn
          · exact h2 x (List.mem_of_mem_drop hx)
      · simp only [List.length_append, List.length_take, List.length_cons, List.length_drop]; omega
theorem prepend_in {n : Int} (hn : inI n) : StIn 1 (prependM n) := fun k r h => by
  unfold prependM
  split
  · exact h.mono (by omega)
  · obtain ⟨h1, h2, h3, h4⟩ := h
    refine ⟨fun x hx => ?_, h2, by simp only [List.length_cons]; omega, by show r.marks.length ≤ _; omega⟩
    rcases List.mem_cons.1 hx with rfl | hx
    · exact hn
    · exact h1 x hx
theorem conclude_in (v : Int) : StIn 0 (concludeM v) := fun _ _ h => h
theorem setPref_in (a : AmtM) : StIn 0 (setPrefM a) := fun k r h => by
  unfold setPrefM
  split
  · exact h
  · exact h
theorem perform_in : ∀ (l : List (Nat × StpM)), (∀ p ∈ l, StIn p.1 p.2) → ∀ k r, BIn k r → BIn (k + (l.map (·.1)).sum) (performM (l.map (·.2)) r).1
  | [], _, _, _, h => h
  | p :: l, hp, k, r, h => by
    have h1 := hp p List.mem_cons_self k r h
    have e : performM ((p :: l).map (·.2)) r = if (p.2 r).2 = 0 then performM (l.map (·.2)) (p.2 r).1 else p.2 r := rfl
    rw [e]
    have hsum : ((p :: l).map (·.1)).sum = p.1 + (l.map (·.1)).sum := rfl
    rw [hsum]
    split
    · have := perform_in l (fun q hq => hp q (List.mem_cons_of_mem _ hq)) (k + p.1) (p.2 r).1 h1
      rw [Nat.add_assoc] at this
      exact this
    · exact h1.mono (by omega)
theorem choose_in (c : CndM) {n : Nat} {yes no : List StpM} (hy : ∀ k r, BIn k r → BIn (k + n) (performM yes r).1) (hn : ∀ k r, BIn k r → BIn (k + n) (performM no r).1) : StIn n (chooseM c yes no) := fun k r h => by
  unfold chooseM
  split
  · exact h.mono (by omega)
  · exact hy k r h
  · exact hn k r h
theorem t_in (x y : Ct) {r : Rt} (hr : Room r) : AllIn (runM (tMs x y) r).1 := by
  have i1 : inI 1 := by unfold inI; decide
  have i3 : inI 3 := by unfold inI; decide
  have hy : StIn 2 (chooseM (y.M S0 W0) [concludeM 1] []) := choose_in _ (fun k r h => (perform_in [(0, concludeM 1)] (fun p hp => by rw [List.mem_singleton.1 hp]; exact conclude_in 1) k r h).mono (by simp)) (fun k r h => h.mono (by omega))
  have h1 : StIn 3 (chooseM (x.M S0 W0) [markM 1, chooseM (y.M S0 W0) [concludeM 1] []] [prependM 3, concludeM 1]) := by
    refine choose_in _ (fun k r h => ?_) (fun k r h => ?_)
    · exact perform_in [(1, markM 1), (2, chooseM (y.M S0 W0) [concludeM 1] [])] (fun p hp => by
        simp only [List.mem_cons, List.not_mem_nil, or_false] at hp
        rcases hp with rfl | rfl
        · exact mark_in i1
        · exact hy) k r h
    · exact (perform_in [(1, prependM 3), (0, concludeM 1)] (fun p hp => by
        simp only [List.mem_cons, List.not_mem_nil, or_false] at hp
        rcases hp with rfl | rfl
        · exact prepend_in i3
        · exact conclude_in 1) k r h).mono (by simp)
  have h0 : BIn 0 r := by
    obtain ⟨a, b, _, _⟩ := hr.all
    exact ⟨a, b, by have := hr.path; omega, by have := hr.marks; omega⟩
  have hp : BIn (0 + 3) (performM (tMs x y) r).1 := perform_in [(3, chooseM (x.M S0 W0) [markM 1, chooseM (y.M S0 W0) [concludeM 1] []] [prependM 3, concludeM 1]), (0, setPrefM (plusM (plusM prefM (constM 2) 1) medM (-1))), (0, concludeM 1)] (fun p hp => by
        simp only [List.mem_cons, List.not_mem_nil, or_false] at hp
        rcases hp with rfl | rfl | rfl
        · exact h1
        · exact setPref_in _
        · exact conclude_in 1) 0 r h0
  unfold runM
  split
  · obtain ⟨a, b, c, d⟩ := hp
    exact ⟨a, b, by dsimp only; omega, by dsimp only; omega⟩
  · exact rt0_in
end Go.Proofs.YtlhhdklendeikaaGreatDoor

namespace Go.Proofs.YtlhhdklendeikaaGreatDoor
open Go.RowKit

theorem t_text (x y : Ct) : bsA (pcBytes (tL x y)) = (⟨#[115, 101, 116, 32, 115, 32, 61, 32, 123, 32, 49, 48, 46, 48, 46, 48, 46, 48, 47, 56, 32, 49, 54, 32, 50, 52, 32, 125, 59, 32, 119, 97, 121, 32, 119, 32, 61, 32, 49, 32, 46, 32, 42, 59, 32, 105, 102, 32]⟩ ++ bsA x.bs ++ ⟨#[32, 116, 104, 101, 110, 32, 123, 32, 109, 97, 114, 107, 32, 49, 59, 32, 105, 102, 32]⟩ ++ bsA y.bs ++ ⟨#[32, 116, 104, 101, 110, 32, 123, 32, 97, 99, 99, 101, 112, 116, 59, 32, 125, 32, 101, 108, 115, 101, 32, 123, 32, 125, 32, 125, 32, 101, 108, 115, 101, 32, 123, 32, 112, 114, 101, 112, 101, 110, 100, 32, 51, 59, 32, 97, 99, 99, 101, 112, 116, 59, 32, 125, 32, 112, 114, 101, 102, 32, 61, 32, 40, 32, 112, 114, 101, 102, 32, 43, 32, 50, 32, 41, 32, 45, 32, 109, 101, 100, 59, 32, 97, 99, 99, 101, 112, 116, 59]⟩ : ByteArray) := by
  show _ = bsA [115, 101, 116, 32, 115, 32, 61, 32, 123, 32, 49, 48, 46, 48, 46, 48, 46, 48, 47, 56, 32, 49, 54, 32, 50, 52, 32, 125, 59, 32, 119, 97, 121, 32, 119, 32, 61, 32, 49, 32, 46, 32, 42, 59, 32, 105, 102, 32] ++ bsA x.bs ++ bsA [32, 116, 104, 101, 110, 32, 123, 32, 109, 97, 114, 107, 32, 49, 59, 32, 105, 102, 32] ++ bsA y.bs ++ bsA [32, 116, 104, 101, 110, 32, 123, 32, 97, 99, 99, 101, 112, 116, 59, 32, 125, 32, 101, 108, 115, 101, 32, 123, 32, 125, 32, 125, 32, 101, 108, 115, 101, 32, 123, 32, 112, 114, 101, 112, 101, 110, 100, 32, 51, 59, 32, 97, 99, 99, 101, 112, 116, 59, 32, 125, 32, 112, 114, 101, 102, 32, 61, 32, 40, 32, 112, 114, 101, 102, 32, 43, 32, 50, 32, 41, 32, 45, 32, 109, 101, 100, 59, 32, 97, 99, 99, 101, 112, 116, 59]
  simp only [← app_bsA]
  congr 1
  have h : tBy2 = [123, 32, 97, 99, 99, 101, 112, 116, 59, 32, 125, 32, 101, 108, 115, 101, 32, 123, 32, 125, 32, 125, 32, 101, 108, 115, 101, 32, 123, 32, 112, 114, 101, 112, 101, 110, 100, 32, 51, 59, 32, 97, 99, 99, 101, 112, 116, 59, 32, 125, 32, 112, 114, 101, 102, 32, 61, 32, 40, 32, 112, 114, 101, 102, 32, 43, 32, 50, 32, 41, 32, 45, 32, 109, 101, 100, 59, 32, 97, 99, 99, 101, 112, 116, 59] := by decide +kernel
  rw [tL_bytes, h]
  simp [dfB, tBy1]
/-- a policy that may be printed -/
def PrnC (pp : Nat) (x : ByteArray) (W : World) : Prop := Calls Tryz.prog 12 #[ptr4 pp 0] W fun e v => e = .returned (.string x) ∧ Below W.heap.size W v
theorem lasts_prn {w : World} {A : Nat → Prop} {pp : Nat} {ms : List StpM} {x : ByteArray} (hl : Lasts w A (PolX pp ms x)) : Since w (PrnC pp x) := fun V hV => by
  obtain ⟨K, hK, hQ⟩ := hl
  obtain ⟨h0, sv, h1, _, vs, _, h2, _⟩ := hQ V hV.size (fun k hk => hV.block k (hK k hk).1)
  rcases h2 with ⟨_, h2⟩ | ⟨S, cap, h2, _⟩
  · subst h2; exact print_any V pp x _ _ _ h1
  · subst h2; exact print_any V pp x _ _ _ h1
theorem lasts_run {w : World} {A : Nat → Prop} {pp : Nat} {ms : List StpM} {x : ByteArray} (hl : Lasts w A (PolX pp ms x)) : Since w (RunC pp ms) := fun V hV r pv mv hi hroom hall => by
  have hl' : Lasts w A (PolC pp ms) := hl.mono (Nat.le_refl _) (fun k _ h => ⟨rfl, h⟩) (fun _ _ h => h.c)
  have h0 := hroom.all
  obtain ⟨⟨⟨a0, a1⟩, ⟨l0, l1⟩, _⟩, _⟩ := (of_decide_eq_true hroom.ok : routeOk (r.addr, r.len) r.path r.marks r.pref r.med)
  dsimp only at a0 a1 l0 l1
  refine (run_ok hl' V hV r pv mv hi.1 hi.2 ⟨by omega, by omega⟩ ⟨by omega, by omega⟩ (by have := hroom.path; omega) (by have := hroom.marks; omega) hroom.ok).mono ?_
  rintro e w' ⟨pv', mv', rfl, hv, hb⟩
  exact ⟨pv', mv', rfl, hv, hb⟩
theorem compiledx_since {s x : ByteArray} {ms : List StpM} (hr : ReadX s ms x) (w : World) (ht : TokTabs w) : Since w (fun W => Calls Tryz.prog 10 #[.string s] W fun e w' => ∃ pp, e = .returned (ptr4 pp 0) ∧ Below W.heap.size W w' ∧ Since w' (PrnC pp x) ∧ Since w' (RunC pp ms)) := fun W hW => by
  refine (compiled_x hr W (ht.below hW)).mono ?_
  rintro e w' ⟨pp, rfl, hb, hl⟩
  exact ⟨pp, rfl, hb, lasts_prn hl, lasts_run hl⟩
theorem compilex_since {s x : ByteArray} {ms : List StpM} (hr : ReadX s ms x) (w : World) (ht : TokTabs w) : Since w (fun W => Calls Tryz.prog 16 #[.string s] W fun e w' => ∃ pp, e = .returned (.tuple #[ptr4 pp 0, .int .i64 0, .int .i64 0]) ∧ Below W.heap.size W w' ∧ Since w' (PrnC pp x)) := fun W hW => by
  refine (compile_x hr W (ht.below hW)).mono ?_
  rintro e w' ⟨pp, rfl, hb, hl⟩
  exact ⟨pp, rfl, hb, lasts_prn hl⟩
theorem end_cases (s : ByteArray) : (∃ er at_ : Int, er ≠ 0 ∧ ReadE s er at_) ∨ ∃ ms x, ReadX s ms x ∧ (x.size ≤ 600 → ReadX x ms x) := by
  by_cases h : 600 < s.size
  · exact Or.inl ⟨1, 0, by decide, read_long s h⟩
  · rcases read_any (s := s) (by omega) with ⟨er, at_, he, hr⟩ | h
    · exact Or.inl ⟨er, at_, by omega, hr⟩
    · exact Or.inr h
set_option maxRecDepth 100000 in
set_option maxHeartbeats 20000000 in
theorem printed_any (w : World) (ht : TokTabs w) (hpt : PowTab w) (S : ByteArray) (la lb : List Int) (ls : List (List Int)) (x y z : Value) (hx : IntsAt w x la) (hy : IntsAt w y lb) (hz : GridAt w z ls) :
    Calls Tryz.prog 3 #[.string S, x, y, z] w fun e w' => e = .returned (.bool true) ∧ Below w.heap.size w w' := by
  obtain ⟨X, hX⟩ : ∃ X, condT la 2 0 = X := ⟨_, rfl⟩
  obtain ⟨Y, hY⟩ : ∃ Y, condT lb 1 0 = Y := ⟨_, rfl⟩
  have wX := condT_ok la 2 0
  have wY := condT_ok lb 1 0
  have HWX := hide (fun (W : World) (hW : Below w.heap.size w W) => cond_any la x 2 0 (by omega) (by decide) W (hx.below hW) (hpt.below hW))
  have HWY := hide (fun (W : World) (hW : Below w.heap.size w W) => cond_any lb y 1 0 (by omega) (by decide) W (hy.below hW) (hpt.below hW))
  rw [hX] at wX HWX
  rw [hY] at wY HWY
  have lX := Ct.bs_lt wX.1 wX.2
  have lY := Ct.bs_lt wY.1 (Nat.le_trans wY.2 (by decide))
  obtain ⟨tx, tsz, kr, kr2⟩ := t_read (x := X) (y := Y) wX ⟨wY.1, Nat.le_trans wY.2 (by decide)⟩
  have kp := compiledx_since kr w ht
  rw [t_text] at kp
  have kq := compiledx_since kr2 w ht
  have HALL := hide (fun (r : Rt) (hr : Room r) => t_in X Y hr)
  have sX : (bsA X.bs).size ≤ 200 := by rw [bsA_size]; omega
  have sY : (bsA Y.bs).size ≤ 200 := by rw [bsA_size]; omega
  have KP := hide kp
  have KQ := hide kq
  have HK := hide (known_any w ht)
  have HT := hide ht
  obtain ⟨xa, xn, xc, hxv⟩ := reads_form (ints_reads hx)
  obtain ⟨ya, yn, yc, hyv⟩ := reads_form (ints_reads hy)
  obtain ⟨p, c, hzv, hzl, hzr⟩ := hz
  have HZ := hide hzr
  clear kp kq kr kr2 ht hpt hx hy hzr hX hY wX wY lX lY
  generalize tMs X Y = mp at *
  generalize bsA X.bs = s at *
  generalize bsA Y.bs = t at *
  subst hxv hyv hzv
  have c0 : (9223372036854775807 < 48 + s.size) = False := eq_false (by omega)
  have c1 : (9223372036854775807 < 48 + s.size + 19) = False := eq_false (by omega)
  have c2 : (9223372036854775807 < 48 + s.size + 19 + t.size) = False := eq_false (by omega)
  have c3 : (9223372036854775807 < 48 + s.size + 19 + t.size + 91) = False := eq_false (by omega)
  go_enter Tryz.func3, Tryz.ntmps3
  go_wp2_with (first
    | (go_at_call 9; refine (unhide HK).mono ?_; clear HK; rintro e w1 ⟨rfl, hb1⟩; have HB := hide hb1; clear hb1)
    | (go_at_call 11; refine ((unhide HWX) _ (unhide HB)).mono ?_; clear HWX; rintro e w1 ⟨rfl, hb1⟩; replace HB := hide ((unhide HB).trans (hb1.mono (unhide HB).size)); clear hb1)
    | (go_at_call 11; refine ((unhide HWY) _ (unhide HB)).mono ?_; clear HWY; rintro e w1 ⟨rfl, hb1⟩; replace HB := hide ((unhide HB).trans (hb1.mono (unhide HB).size)); clear hb1)
    | (go_at_call 10; refine ((unhide KP) _ (unhide HB)).mono ?_; clear KP; rintro e w1 ⟨p1, rfl, hb1, hl1⟩; replace HB := hide ((unhide HB).trans (hb1.mono (unhide HB).size)); have HS := hide (hl1.1.and hl1.2); clear hb1 hl1)
    | (go_at_call 12; refine ((unhide HS) _ (Below.refl _ _)).1.mono ?_; rintro e w1 ⟨rfl, hb1⟩; replace HB := hide ((unhide HB).trans (hb1.mono (unhide HB).size)); replace HS := hide ((unhide HS).on hb1); clear hb1)
    | (go_at_call 10; refine ((unhide KQ) _ (unhide HB)).mono ?_; clear KQ; rintro e w1 ⟨p2, rfl, hb1, hl1⟩; replace HB := hide ((unhide HB).trans (hb1.mono (unhide HB).size)); replace HS := hide (((unhide HS).on hb1).and hl1.2); have HQ := hide hl1.1; clear hb1 hl1)
    | (go_at_call 12; refine ((unhide HQ) _ (Below.refl _ _)).mono ?_; clear HQ; rintro e w9 ⟨rfl, hb1⟩; replace HB := hide ((unhide HB).trans (hb1.mono (unhide HB).size)); replace HS := hide ((unhide HS).on hb1); clear hb1))
  have hA9 := (unhide HB).size
  clear c0 c1 c2 c3
  go_loopw [14] (fun i wr => ∃ j : Nat, j ≤ ls.length ∧ j ≤ 6 ∧ i = .int .i64 (j : Nat) ∧ Below w9.heap.size w9 wr) (fun i _ => 6 - (intOf i).toNat)
  case atStart => exact ⟨0, Nat.zero_le _, Nat.zero_le _, rfl, Below.refl _ _⟩
  case round =>
    obtain ⟨j, hj, hj10, rfl, hbl⟩ := hrel
    have HBL := hide hbl
    clear hbl
    by_cases hin : j < ls.length ∧ j < 6
    · obtain ⟨hlt, hj9⟩ := hin
      rcases unhide HZ with h | ⟨b, o, rfl, hb, hc⟩
      · rw [h] at hlt; simp at hlt
      obtain ⟨xv, hcx, hix⟩ := hc j hlt
      have hbw : Below w.heap.size w wr := (unhide HB).trans ((unhide HBL).mono hA9)
      have hcl := (hbw.cell (p := ⟨b, o + j, none⟩) hb).trans hcx
      have HRT := hide (route_rt ls[j] xv wr (hix.below hbw))
      have HRM := hide (rteR_room ls[j])
      obtain ⟨va, vn, vc, hvv⟩ := reads_form (ints_reads hix)
      clear hc hcx hix hbw
      subst hvv
      generalize rteR ls[j] = r at *
      obtain ⟨⟨R, v⟩, ep⟩ : ∃ q, runM mp r = q := ⟨_, rfl⟩
      have HAR : Hid (AllIn R) := hide (by have := (unhide HALL) r (unhide HRM); rw [ep] at this; exact this)
      have EP := hide ep
      clear ep
      go_wp2_with (go_at_call 13; refine (unhide HRT).mono ?_; clear HRT; rintro e w2 ⟨q1, n1, c1, q2, n2, c2, rfl, hi2, hb2⟩; have HI2 := hide hi2; have HB2 := hide ((unhide HBL).trans (hb2.mono (unhide HBL).size)); clear hi2 hb2)
      have h92 := (unhide HB2).size
      obtain ⟨W2, hW2⟩ : ∃ W, w2.alloc (rtBlk r (.slice q1 n1 c1) (.slice q2 n2 c2)) = W := ⟨_, rfl⟩
      have nb := heap_alloc_new w2 (rtBlk r (.slice q1 n1 c1) (.slice q2 n2 c2))
      have hbA := (Below.refl w2.heap.size w2).alloc (Nat.le_refl _) (rtBlk r (.slice q1 n1 c1) (.slice q2 n2 c2))
      rw [hW2] at nb hbA
      unfold rtBlk at hW2
      rw [hW2]
      have HN1 := hide nb
      have HC2 := hide hbA
      replace HB2 := hide ((unhide HB2).trans (hbA.mono (unhide HB2).size))
      clear nb hbA hW2
      refine (((unhide HS) W2 (unhide HB2)).1.2.sl ((unhide HI2).below (unhide HC2)) (unhide HRM) (unhide EP) (unhide HAR)).mono ?_
      rintro e w3 ⟨q3, n3, c3, q4, n4, c4, rfl, hv3, hb3⟩
      have hs1 : w2.heap.size < W2.heap.size := heap_lt (unhide HN1)
      replace HN1 := hide ((hb3.block _ hs1).trans (unhide HN1))
      replace HC2 := hide ((unhide HC2).trans (hb3.mono (unhide HC2).size))
      replace HB2 := hide ((unhide HB2).trans (hb3.mono (unhide HB2).size))
      have hs13 : w2.heap.size < w3.heap.size := heap_lt (unhide HN1)
      have HI3 := hide (hv3.toI (unhide HAR))
      obtain ⟨a0, a1, a2, a3, a4, a5, az⟩ := rt6 (unhide HN1)
      clear hv3 hb3 hs1
      go_wp2_with fail
      clear a0 a1 a2 a3 a4 a5 az
      obtain ⟨W3, hW3⟩ : ∃ W, w3.alloc (rtBlk R (.slice q3 n3 c3) (.slice q4 n4 c4)) = W := ⟨_, rfl⟩
      have nb := heap_alloc_new w3 (rtBlk R (.slice q3 n3 c3) (.slice q4 n4 c4))
      have hbA := (Below.refl w3.heap.size w3).alloc (Nat.le_refl _) (rtBlk R (.slice q3 n3 c3) (.slice q4 n4 c4))
      rw [hW3] at nb hbA
      unfold rtBlk at hW3
      rw [hW3]
      have HN2 := hide nb
      replace HN1 := hide ((hbA.block _ hs13).trans (unhide HN1))
      replace HC2 := hide ((unhide HC2).trans (hbA.mono (unhide HC2).size))
      replace HB2 := hide ((unhide HB2).trans (hbA.mono (unhide HB2).size))
      replace HI3 := hide ((unhide HI3).below hbA)
      clear nb hbA hW3
      refine (((unhide HS) W3 (unhide HB2)).2.sl ((unhide HI2).below (unhide HC2)) (unhide HRM) (unhide EP) (unhide HAR)).mono ?_
      rintro e w4 ⟨q5, n5, c5, q6, n6, c6, rfl, hv4, hb4⟩
      have hs2 : w3.heap.size < W3.heap.size := heap_lt (unhide HN2)
      replace HN2 := hide ((hb4.block _ hs2).trans (unhide HN2))
      replace HB2 := hide ((unhide HB2).trans (hb4.mono (unhide HB2).size))
      replace HI3 := hide ((unhide HI3).below hb4)
      have HI4 := hide (hv4.toI (unhide HAR))
      have hs24 : w3.heap.size < w4.heap.size := heap_lt (unhide HN2)
      obtain ⟨a0, a1, a2, a3, a4, a5, az⟩ := rt6 (unhide HN2)
      clear hv4 hb4 hs2 HN1
      go_wp2_with fail
      clear a0 a1 a2 a3 a4 a5 az
      obtain ⟨W4, hW4⟩ : ∃ W, w4.alloc (rtBlk R (.slice q5 n5 c5) (.slice q6 n6 c6)) = W := ⟨_, rfl⟩
      have nb := heap_alloc_new w4 (rtBlk R (.slice q5 n5 c5) (.slice q6 n6 c6))
      have hbA := (Below.refl w4.heap.size w4).alloc (Nat.le_refl _) (rtBlk R (.slice q5 n5 c5) (.slice q6 n6 c6))
      rw [hW4] at nb hbA
      unfold rtBlk at hW4
      rw [hW4]
      replace HB2 := hide ((unhide HB2).trans (hbA.mono (unhide HB2).size))
      have HSM := hide (same_any ((unhide HI3).below hbA) ((unhide HI4).below hbA))
      rw [same_self] at HSM
      clear nb hbA hW4 HI3 HI4
      refine (unhide HSM).mono ?_
      rintro e w5 ⟨rfl, hb5⟩
      replace HB2 := hide ((unhide HB2).trans (hb5.mono (unhide HB2).size))
      clear HSM hb5
      go_wp2_with fail
      exact ⟨⟨j + 1, by omega, by omega, by go_num, unhide HB2⟩, by simp [intOf]; omega⟩
    · have HBW : Hid (Below w.heap.size w wr) := hide ((unhide HB).trans ((unhide HBL).mono hA9))
      clear HS HALL HZ HB HBL
      rcases end_cases S with ⟨er, at_, hne, hr⟩ | ⟨ms, X1, hr, hr2⟩
      · have HC := hide (compile_err hne hr wr ((unhide HT).below (unhide HBW)))
        have hb0 : (er != 0) = true := by simpa using hne
        have hb1 : (er == 0) = false := by simpa using hne
        clear hne hr HT
        rcases (show ¬ j < ls.length ∨ (j < ls.length ∧ ¬ j < 6) by omega) with g1 | ⟨g1, g2⟩
        all_goals
          clear hin
          go_wp2_with (go_at_call 16; refine (unhide HC).mono ?_; clear HC; rintro e w2 ⟨rfl, hb2⟩; replace HBW := hide ((unhide HBW).trans (hb2.mono (unhide HBW).size)); clear hb2)
          go_ret
          exact ⟨rfl, unhide HBW⟩
      · have HC := hide (compilex_since hr w (unhide HT))
        by_cases hlong : 600 < X1.size
        · have hd : decide ((600 : Int) < (X1.size : Int)) = true := decide_eq_true (by omega)
          clear hr hr2 HT
          rcases (show ¬ j < ls.length ∨ (j < ls.length ∧ ¬ j < 6) by omega) with g1 | ⟨g1, g2⟩
          all_goals
            clear hin
            go_wp2_with (first
              | (go_at_call 16; refine ((unhide HC) _ (unhide HBW)).mono ?_; clear HC; rintro e w2 ⟨p3, rfl, hb2, hl2⟩; replace HBW := hide ((unhide HBW).trans (hb2.mono (unhide HBW).size)); have HQ := hide hl2; clear hb2 hl2)
              | (go_at_call 12; refine ((unhide HQ) _ (Below.refl _ _)).mono ?_; clear HQ; rintro e w3 ⟨rfl, hb1⟩; replace HBW := hide ((unhide HBW).trans (hb1.mono (unhide HBW).size)); clear hb1))
            go_ret
            exact ⟨rfl, unhide HBW⟩
        · have hd : decide ((600 : Int) < (X1.size : Int)) = false := decide_eq_false (by omega)
          have HC2 := hide (compiledx_since (hr2 (by omega)) w (unhide HT))
          clear hr hr2 HT
          rcases (show ¬ j < ls.length ∨ (j < ls.length ∧ ¬ j < 6) by omega) with g1 | ⟨g1, g2⟩
          all_goals
            clear hin
            go_wp2_with (first
              | (go_at_call 16; refine ((unhide HC) _ (unhide HBW)).mono ?_; clear HC; rintro e w2 ⟨p3, rfl, hb2, hl2⟩; replace HBW := hide ((unhide HBW).trans (hb2.mono (unhide HBW).size)); have HQ := hide hl2; clear hb2 hl2)
              | (go_at_call 12; refine ((unhide HQ) _ (Below.refl _ _)).mono ?_; clear HQ; rintro e w3 ⟨rfl, hb1⟩; replace HBW := hide ((unhide HBW).trans (hb1.mono (unhide HBW).size)); clear hb1)
              | (go_at_call 10; refine ((unhide HC2) _ (unhide HBW)).mono ?_; clear HC2; rintro e w4 ⟨p4, rfl, hb2, hl2⟩; replace HBW := hide ((unhide HBW).trans (hb2.mono (unhide HBW).size)); have HQ := hide hl2.1; clear hb2 hl2))
            go_ret
            exact ⟨by simp, unhide HBW⟩
end Go.Proofs.YtlhhdklendeikaaGreatDoor
