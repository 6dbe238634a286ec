/- The program's reader: none or more statements. -/
import Derived.Test.YtgdeeodifnegiaaGreatDoorRdrK
import Derived.Test.YtgdeeodifnegiaaGreatDoorRunF
import Derived.Deep.AppendLies
namespace Go.Proofs.YtgdeeodifnegiaaGreatDoor
open Go.RowKit

def StmtRes (pb : Nat) (ts : List TokP) (w : World) (D O : Nat → Prop) (r : RS × Option (Option StpM)) (e : Ending) (w' : World) : Prop :=
  ∃ v O', e = .returned (.tuple #[v, .bool r.2.isSome]) ∧ RA w' pb ts r.1 D O' ∧ Fr O w O' w' ∧ FnV v ∧ (∀ o, r.2 = some o → StpO w' (Free O' D w.heap.size) v o) ∧ Ok ts r.1
def StmtSaid (pb : Nat) (ts : List TokP) (tw : RS → Option (RS × Option (Option StpM))) : Prop := ∀ (w : World) (st : RS) (D O : Nat → Prop) (r : RS × Option (Option StpM)), RA w pb ts st D O → Ok ts st → tw st = some r → Calls Tryz.prog 169 #[ptr4 pb 0] w (StmtRes pb ts w D O r)
def StepsRes (pb : Nat) (ts : List TokP) (w : World) (D O : Nat → Prop) (r : RS × List (Option StpM)) (e : Ending) (w' : World) : Prop :=
  ∃ v O', e = .returned v ∧ RA w' pb ts r.1 D O' ∧ Fr O w O' w' ∧ StepsL w' (Free O' D w.heap.size) v r.2 ∧ Ok ts r.1 ∧ (∃ a c, v = .slice a r.2.length c) ∧ r.2.length ≤ 1000000

/-- the list so far -/
structure AccAt (wr : World) (n0 : Nat) (Ou D : Nat → Prop) (sv : Value) (acc : List (Option StpM)) (vs : List Value) : Prop where
  own : wr.ownsRow 0 272 1 sv acc.length vs
  new : ∀ k, sv.ownBlock = some k → n0 ≤ k ∧ ¬ Ou k
  elt : ∀ (i : Nat) (v : Value) (o : Option StpM), vs[i]? = some v → acc[i]? = some o → StpO wr (fun k => Free Ou D n0 k ∧ sv.ownBlock ≠ some k) v o
theorem StpO.mono {w w' : World} {A A' : Nat → Prop} {v : Value} {o : Option StpM} (h : StpO w A v o) (hs : w.heap.size ≤ w'.heap.size) (hb : ∀ k, k < w.heap.size → A k → w'.heap[k]? = w.heap[k]? ∧ A' k) : StpO w' A' v o := by
  cases o with
  | none => exact h
  | some m => exact Lasts.mono h hs hb (fun _ _ h => h)
theorem AccAt.fr {wr w1 : World} {n0 : Nat} {Ou O1 D : Nat → Prop} {sv : Value} {acc : List (Option StpM)} {vs : List Value} (h : AccAt wr n0 Ou D sv acc vs) (hf : Fr Ou wr O1 w1) : AccAt w1 n0 O1 D sv acc vs := by
  have hO : ∀ k, k < wr.heap.size → ¬ Ou k → ¬ O1 k := fun k hk hn ho => by
    rcases hf.own k ho with h1 | h1
    · exact hn h1
    · omega
  refine ⟨owns_of h.own (fun k e => hf.block k (h.own.lt k e).2 (h.new k e).2), fun k e => ⟨(h.new k e).1, hO k (h.own.lt k e).2 (h.new k e).2⟩, fun i v o hv ho => ?_⟩
  exact (h.elt i v o hv ho).mono hf.size (fun k hk ha => ⟨hf.block k hk ha.1.1, ⟨hO k hk ha.1.1, ha.1.2⟩, ha.2⟩)
/-- one more -/
theorem AccAt.snoc {w1 w2 : World} {n0 g cap : Nat} {O1 D : Nat → Prop} {sv v : Value} {acc : List (Option StpM)} {vs : List Value} {o : Option StpM} (h : AccAt w1 n0 O1 D sv acc vs) (hO : ∀ k, O1 k → k < w1.heap.size) (hn0 : n0 ≤ w1.heap.size)
    (hv : StpO w1 (fun k => Free O1 D n0 k ∧ sv.ownBlock ≠ some k) v o) (hg : w1.grownBy w2 sv.ownBlock) (hat : sv.ownBlock = some g ∨ w1.heap.size ≤ g)
    (hown : w2.ownsRow 0 272 1 (.slice (some ⟨g, 0, none⟩) (acc.length + 1) cap) (acc.length + 1) (vs ++ [v])) :
    AccAt w2 n0 O1 D (.slice (some ⟨g, 0, none⟩) (acc.length + 1) cap) (acc ++ [o]) (vs ++ [v]) := by
  have hvl : vs.length = acc.length := by simpa using h.own.1
  have hmono : ∀ (x : Value) (p : Option StpM), StpO w1 (fun k => Free O1 D n0 k ∧ sv.ownBlock ≠ some k) x p → StpO w2 (fun k => Free O1 D n0 k ∧ (Value.slice (some ⟨g, 0, none⟩) (acc.length + 1) cap).ownBlock ≠ some k) x p := fun x p hx => by
    refine hx.mono hg.size (fun k hk ha => ⟨hg.block k hk (fun e => ha.2 e.symm), ha.1, fun e => ?_⟩)
    have e' : g = k := by simpa [Value.ownBlock] using e
    rcases hat with h1 | h1
    · exact ha.2 (by rw [h1, e'])
    · omega
  refine ⟨by rw [List.length_append]; exact hown, fun k e => ?_, fun i x p hx hp => ?_⟩
  · have e' : g = k := by simpa [Value.ownBlock] using e
    subst e'
    rcases hat with h1 | h1
    · exact h.new g h1
    · exact ⟨by omega, fun ho => by have := hO g ho; omega⟩
  · rcases Nat.lt_or_ge i acc.length with hi | hi
    · rw [List.getElem?_append_left (by omega)] at hx
      rw [List.getElem?_append_left hi] at hp
      exact hmono x p (h.elt i x p hx hp)
    · rw [List.getElem?_append_right (by omega)] at hx
      rw [List.getElem?_append_right hi] at hp
      have hi0 : i - acc.length = 0 := by
        rcases Nat.eq_zero_or_pos (i - acc.length) with h1 | h1
        · exact h1
        · rw [List.getElem?_eq_none (by simp; omega)] at hp; cases hp
      rw [hi0] at hp
      rw [hvl, hi0] at hx
      simp at hx hp
      subst hx hp
      exact hmono _ _ hv
theorem moreLp_pos {tw : RS → Option (RS × Option (Option StpM))} {k : Nat} {st : RS} {l : List (Option StpM)} {r : RS × List (Option StpM)} (h : moreLp tw k st l = some r) : ∃ g, k = g + 1 := by
  cases k with
  | zero => rw [moreLp] at h; cases h
  | succ g => exact ⟨g, rfl⟩
/-- what is still to do, behind a reading -/
def moreK (tw : RS → Option (RS × Option (Option StpM))) (k : Nat) (su : RS) (x : Option (Option StpM)) (l : List (Option StpM)) : Option (RS × List (Option StpM)) :=
  match x with
  | none => some (su, l)
  | some y => moreLp tw k su (l ++ [y])
theorem moreLp_step {tw : RS → Option (RS × Option (Option StpM))} {k : Nat} {st : RS} {l : List (Option StpM)} {r : RS × List (Option StpM)} (h : moreLp tw (k + 1) st l = some r) :
    ∃ su x, tw st = some (su, x) ∧ moreK tw k su x l = some r := by
  rw [moreLp] at h
  cases h1 : tw st with
  | none => rw [h1] at h; cases h
  | some p =>
    obtain ⟨su, x⟩ := p
    rw [h1] at h
    refine ⟨su, x, rfl, ?_⟩
    cases x with
    | none => exact h
    | some y => exact h
theorem Tryz.infoStep : (Tryz.prog.info? 272).map (fun i => (i.zero, i.size, i.bytes)) = some (some .nilFunc, 1, 8) := by kernel_rfl

theorem RA.grown {w w2 : World} {pb : Nat} {ts : List TokP} {st : RS} {D O : Nat → Prop} {row : Option Nat} (h : RA w pb ts st D O) (hg : w.grownBy w2 row) (hr : ∀ k, row = some k → ¬ O k ∧ ¬ D k) : RA w2 pb ts st D O := by
  obtain ⟨tb, tc, dv, av, bv, h, rfl⟩ := h
  refine ⟨tb, tc, dv, av, bv, h.keep hg.size (fun k hl hk => hg.block k hl (fun e => ?_)), rfl⟩
  rcases hk with h1 | h1
  · exact (hr k e.symm).1 h1
  · exact (hr k e.symm).2 h1
theorem AccAt.alloc {wr : World} {n0 : Nat} {Ou D : Nat → Prop} {sv : Value} {acc : List (Option StpM)} {vs : List Value} (h : AccAt wr n0 Ou D sv acc vs) (o : Obj) : AccAt (wr.alloc o) n0 Ou D sv acc vs := h.fr ((Fr.refl _ _).alloc o)
set_option maxRecDepth 100000 in
set_option maxHeartbeats 4000000 in
theorem more_said {pb : Nat} {ts : List TokP} {tw : RS → Option (RS × Option (Option StpM))} (IH : StmtSaid pb ts tw) (n : Nat) (hn : n ≤ 1000) {w : World} {st : RS} {D O : Nat → Prop} {r : RS × List (Option StpM)} (h : RA w pb ts st D O) (hk : Ok ts st) (hr : moreLp tw n st [] = some r) :
    Calls Tryz.prog 216 #[.func (.func 169) #[ptr4 pb 0] #[]] w (StepsRes pb ts w D O r) := by
  obtain ⟨n, rfl⟩ := moreLp_pos hr
  obtain ⟨su, x, h1, h2⟩ := moreLp_step hr
  obtain ⟨i0, hi0, hz0, hz1, hz2⟩ := info_parts Tryz.infoStep
  have HIH := hide IH
  have H1 := hide (IH w st D O (su, x) h hk h1)
  have HL := hide h2
  have HH := hide h
  clear hr h hk h1 h2 IH
  go_enter Tryz.func216, Tryz.ntmps216
  go_wp2_with fail
  refine (unhide H1).mono ?_
  rintro e w1 ⟨v, O1, rfl, hr1, hf1, hfv, hv1, hk1⟩
  have HR := hide hr1
  have HF := hide hf1
  have HV := hide hv1
  have HK := hide hk1
  have HFV := hide hfv
  clear hr1 hf1 hv1 hk1 H1 hfv
  go_wp2_with fail
  go_loopg [3, 4, 5] n (fun k s3 v4 b5 wr => ∃ (su : RS) (x : Option (Option StpM)) (acc : List (Option StpM)) (vs : List Value) (Ou : Nat → Prop), b5 = .bool x.isSome ∧ acc.length + k ≤ n ∧ RA wr pb ts su D Ou ∧ Fr O w Ou wr ∧ AccAt wr w.heap.size Ou D s3 acc vs ∧ FnV v4 ∧ (∀ o, x = some o → StpO wr (fun k => Free Ou D w.heap.size k ∧ s3.ownBlock ≠ some k) v4 o) ∧ Ok ts su ∧ moreK tw k su x acc = some r)
  case atStart =>
    refine ⟨su, x, [], [], O1, rfl, by simp, unhide HR, unhide HF, ⟨World.ownsRow_nil _ _ _ _, fun k e => by simp [Value.ownBlock] at e, fun i v o hv => by simp at hv⟩, unhide HFV, fun o ho => ?_, unhide HK, unhide HL⟩
    exact ((unhide HV) o ho).mono (Nat.le_refl _) (fun k _ ha => ⟨rfl, ha, by simp [Value.ownBlock]⟩)
  case round =>
    clear HR HF HV HK HL HFV
    obtain ⟨su, x, acc, vs, Ou, rfl, hlen, hr, hf, hacc, hfv, hv, hk, hl⟩ := hrel
    have HR := hide hr
    have HF := hide hf
    have HA := hide hacc
    have HK := hide hk
    obtain ⟨sa, sc, hsv⟩ := owns_form' hacc.own
    subst hsv
    cases x with
    | none =>
      cases hl
      clear hr hf hacc hk hv
      go_wp2_with fail
      go_ret
      refine ⟨_, _, rfl, unhide HR, unhide HF, stepsL_of (unhide HA).own (show acc.length ≤ 1000000 by omega) (fun k e => ⟨((unhide HA).new k e).2, Or.inr ((unhide HA).new k e).1⟩) (fun i v o h1 h2 => ((unhide HA).elt i v o h1 h2).mono (Nat.le_refl _) (fun k _ ha => ⟨rfl, ha.1⟩)), unhide HK, ⟨_, _, rfl⟩, by show acc.length ≤ _; omega⟩
    | some y =>
      have hl' : moreLp tw _ su (acc ++ [y]) = some r := hl
      obtain ⟨g, rfl⟩ := moreLp_pos hl'
      obtain ⟨su2, x2, h3, h4⟩ := moreLp_step hl'
      have HS := hide h3
      have HL := hide h4
      have HV := hide (hv y rfl)
      have HFV := hide hfv
      have hln : acc.length ≤ 1000 := by omega
      clear hr hf hacc hk hv hl hl' h3 h4
      have HR1 := hide ((unhide HR).alloc (box1 u4 272))
      have HA1 := hide ((unhide HA).alloc (box1 u4 272))
      have HV1 := hide ((unhide HV).mono (alloc_mono wr (box1 u4 272) (fun k => Free Ou D w.heap.size k ∧ (Value.slice sa acc.length sc).ownBlock ≠ some k)).1 (alloc_mono wr (box1 u4 272) _).2)
      rcases hfv with ⟨f1, f2, f3, rfl⟩ | rfl
      ·
        go_wp2_with (at_builtin; refine wpList_append_lies _ rfl _ _ _ rfl 0 272 i0 _ 1 8 Tryz.underlying107 hi0 hz0 hz1 hz2 rfl (by omega) (.slice sa acc.length sc) acc.length vs rfl (unhide HA1).own ⟨wr.heap.size, 0, none⟩ 1 1 [.func f1 f2 f3] rfl rfl (World.news_of_block (cs := #[.func f1 f2 f3]) (t := 272) (fr := (0, 0)) (heap_alloc_new _ _)) (by simp [Value.oneCell']) (by omega) (by simp [maxLen]; omega) (by omega) (Nat.zero_le _) (wr.heap.size + 1) (by simp) ?_; intro gg cap w2 hown hgrow hat hltg)
        have HR2 := hide ((unhide HR1).grown hgrow (fun k e => ⟨((unhide HA1).new k e).2, fun hd => by have h1 := ((unhide HA1).new k e).1; have h2 := ((unhide HH).free hd).1; omega⟩))
        have HF2 := hide (((unhide HF).alloc (box1 (.func f1 f2 f3) 272)).grown hgrow (fun k e => Or.inr ((unhide HA1).new k e).1))
        have HA2 := hide (AccAt.snoc (unhide HA1) (fun k ho => (unhide HR1).lt ho) (by have := (unhide HF).size; simp; omega) (unhide HV1) hgrow (hat.imp id (fun h => by simp; omega)) hown)
        have hs2 := hgrow.size
        clear hown hgrow hat hltg HR1 HA1 HV1 HV HA
        refine ((unhide HIH) _ _ _ _ _ (unhide HR2) (unhide HK) (unhide HS)).mono ?_
        rintro e w3 ⟨v3, O3, rfl, hr3, hf3, hfv3, hv3, hk3⟩
        have HR3 := hide hr3
        have HF3 := hide ((unhide HF2).trans hf3)
        have HA3 := hide ((unhide HA2).fr hf3)
        have HK3 := hide hk3
        have HFV3 := hide hfv3
        have HV3 : Hid (∀ o, x2 = some o → StpO w3 (fun k => Free O3 D w.heap.size k ∧ (Value.slice (some ⟨gg, 0, none⟩) (acc.length + 1) cap).ownBlock ≠ some k) v3 o) := by
          intro o ho
          refine (hv3 o ho).mono (Nat.le_refl _) (fun k _ ha => ⟨rfl, ⟨ha.1, ?_⟩, fun e => ?_⟩)
          · rcases ha.2 with h1 | h1
            · exact Or.inl h1
            · exact Or.inr (by have := (unhide HF2).size; omega)
          · have e' : gg = k := by simpa [Value.ownBlock] using e
            have hl2 := ((unhide HA2).own.lt gg rfl).2
            rcases ha.2 with h1 | h1
            · have h2 := ((unhide HA2).new gg rfl).1
              have h3 := ((unhide HH).free h1).1
              omega
            · omega
        clear hr3 hf3 hv3 hk3 hfv3
        go_wp2_with fail
        go_roundg g
        case measure => omega
        case rel => exact ⟨su2, x2, acc ++ [y], _, O3, rfl, by rw [List.length_append, List.length_singleton]; omega, unhide HR3, unhide HF3, unhide HA3, unhide HFV3, unhide HV3, unhide HK3, unhide HL⟩
      ·
        go_wp2_with (at_builtin; refine wpList_append_lies _ rfl _ _ _ rfl 0 272 i0 _ 1 8 Tryz.underlying107 hi0 hz0 hz1 hz2 rfl (by omega) (.slice sa acc.length sc) acc.length vs rfl (unhide HA1).own ⟨wr.heap.size, 0, none⟩ 1 1 [.nilFunc] rfl rfl (World.news_of_block (cs := #[.nilFunc]) (t := 272) (fr := (0, 0)) (heap_alloc_new _ _)) (by simp [Value.oneCell']) (by omega) (by simp [maxLen]; omega) (by omega) (Nat.zero_le _) (wr.heap.size + 1) (by simp) ?_; intro gg cap w2 hown hgrow hat hltg)
        have HR2 := hide ((unhide HR1).grown hgrow (fun k e => ⟨((unhide HA1).new k e).2, fun hd => by have h1 := ((unhide HA1).new k e).1; have h2 := ((unhide HH).free hd).1; omega⟩))
        have HF2 := hide (((unhide HF).alloc (box1 (.nilFunc) 272)).grown hgrow (fun k e => Or.inr ((unhide HA1).new k e).1))
        have HA2 := hide (AccAt.snoc (unhide HA1) (fun k ho => (unhide HR1).lt ho) (by have := (unhide HF).size; simp; omega) (unhide HV1) hgrow (hat.imp id (fun h => by simp; omega)) hown)
        have hs2 := hgrow.size
        clear hown hgrow hat hltg HR1 HA1 HV1 HV HA
        refine ((unhide HIH) _ _ _ _ _ (unhide HR2) (unhide HK) (unhide HS)).mono ?_
        rintro e w3 ⟨v3, O3, rfl, hr3, hf3, hfv3, hv3, hk3⟩
        have HR3 := hide hr3
        have HF3 := hide ((unhide HF2).trans hf3)
        have HA3 := hide ((unhide HA2).fr hf3)
        have HK3 := hide hk3
        have HFV3 := hide hfv3
        have HV3 : Hid (∀ o, x2 = some o → StpO w3 (fun k => Free O3 D w.heap.size k ∧ (Value.slice (some ⟨gg, 0, none⟩) (acc.length + 1) cap).ownBlock ≠ some k) v3 o) := by
          intro o ho
          refine (hv3 o ho).mono (Nat.le_refl _) (fun k _ ha => ⟨rfl, ⟨ha.1, ?_⟩, fun e => ?_⟩)
          · rcases ha.2 with h1 | h1
            · exact Or.inl h1
            · exact Or.inr (by have := (unhide HF2).size; omega)
          · have e' : gg = k := by simpa [Value.ownBlock] using e
            have hl2 := ((unhide HA2).own.lt gg rfl).2
            rcases ha.2 with h1 | h1
            · have h2 := ((unhide HA2).new gg rfl).1
              have h3 := ((unhide HH).free h1).1
              omega
            · omega
        clear hr3 hf3 hv3 hk3 hfv3
        go_wp2_with fail
        go_roundg g
        case measure => omega
        case rel => exact ⟨su2, x2, acc ++ [y], _, O3, rfl, by rw [List.length_append, List.length_singleton]; omega, unhide HR3, unhide HF3, unhide HA3, unhide HFV3, unhide HV3, unhide HK3, unhide HL⟩
end Go.Proofs.YtgdeeodifnegiaaGreatDoor
