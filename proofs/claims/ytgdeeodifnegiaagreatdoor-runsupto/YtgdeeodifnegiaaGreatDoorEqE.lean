/- The two readers side by side: ways; no program. -/
import Derived.Test.YtgdeeodifnegiaaGreatDoorEqC
namespace Go.Proofs.YtgdeeodifnegiaaGreatDoor
open Go.RowKit

/-! ## repeats -/
theorem plus_app {A : WayM} {a b : List Int} (h : PlusL A a) (hb : PlusL A b) : PlusL A (a ++ b) := by
  induction h with
  | one h => exact .more h hb
  | more h _ ih => rw [List.append_assoc]; exact .more h ih
theorem plus_plus (A : WayM) : PlusL (PlusL A) = PlusL A := by
  funext p
  refine propext ⟨fun h => ?_, fun h => .one h⟩
  induction h with
  | one h => exact h
  | more h _ ih => exact plus_app h ih
theorem plus_opt (A : WayM) : PlusL (optL A) = optL (PlusL A) := by
  funext p
  refine propext ⟨fun h => ?_, fun h => ?_⟩
  · induction h with
    | one h => exact h.imp id .one
    | more h _ ih =>
      rcases h with rfl | h
      · exact ih
      · rcases ih with rfl | ih
        · rw [List.append_nil]; exact Or.inr (.one h)
        · exact Or.inr (.more h ih)
  · rcases h with rfl | h
    · exact .one (Or.inl rfl)
    · induction h with
      | one h => exact .one (Or.inr h)
      | more h _ ih => exact .more (Or.inr h) ih
theorem opt_opt (A : WayM) : optL (optL A) = optL A := by
  funext p
  exact propext ⟨fun h => h.elim Or.inl id, Or.inr⟩
theorem rep_star (z m : Bool) (A : WayM) : optL (PlusL (repL z m A)) = repL true true A := by
  cases z <;> cases m <;> simp only [repL, if_true, if_false, Bool.false_eq_true] <;> simp only [plus_opt, plus_plus, opt_opt]
theorem rep_plus (z m : Bool) (A : WayM) : PlusL (repL z m A) = repL z true A := by
  cases z <;> cases m <;> simp only [repL, if_true, if_false, Bool.false_eq_true] <;> simp only [plus_opt, plus_plus]
theorem rep_quest (z m : Bool) (A : WayM) : optL (repL z m A) = repL true m A := by
  cases z <;> cases m <;> simp only [repL, if_true, if_false, Bool.false_eq_true] <;> simp only [opt_opt]
theorem rep_none (A : WayM) : repL false false A = A := rfl
/-! ## what a way's tree says -/
mutual
inductive WayT : rf.Tr → WayM → Prop
  | num (n a : Int) : WayT (.mk rf.wNumber nB n a []) (numL n)
  | dot : WayT (.mk rf.wDot nB 0 0 []) dotL
  | either {ks : List rf.Tr} {ms : List WayM} : WaysT ks ms → WayT (.mk rf.wEither nB 0 0 ks) (anyL ms)
  | row {ks : List rf.Tr} {ms : List WayM} : WaysT ks ms → WayT (.mk rf.wRow nB 0 0 ks) (rowL ms)
  | star {x : rf.Tr} {A : WayM} : WayT x A → WayT (.mk rf.wStar nB 0 0 [x]) (optL (PlusL A))
  | plus {x : rf.Tr} {A : WayM} : WayT x A → WayT (.mk rf.wPlus nB 0 0 [x]) (PlusL A)
  | quest {x : rf.Tr} {A : WayM} : WayT x A → WayT (.mk rf.wQuest nB 0 0 [x]) (optL A)
inductive WaysT : List rf.Tr → List WayM → Prop
  | nil : WaysT [] []
  | cons {t : rf.Tr} {m : WayM} {ts : List rf.Tr} {ms : List WayM} : WayT t m → WaysT ts ms → WaysT (t :: ts) (m :: ms)
end
theorem WaysT.snoc : ∀ {ks : List rf.Tr} {ms : List WayM} {t : rf.Tr} {m : WayM}, WaysT ks ms → WayT t m → WaysT (ks ++ [t]) (ms ++ [m])
  | [], [], _, _, _, h => .cons h .nil
  | _ :: _, _ :: _, _, _, .cons a b, h => .cons a (b.snoc h)
theorem WaysT.len : ∀ {ks : List rf.Tr} {ms : List WayM}, WaysT ks ms → ks.length = ms.length
  | [], [], _ => rfl
  | _ :: _, _ :: _, .cons _ b => by simp [b.len]
theorem ways_nil : rf.wayNums [] = -1 := by rw [rf.wayNums]
theorem ways_cons (t : rf.Tr) (l : List rf.Tr) : rf.wayNums (t :: l) = if 0 ≤ rf.wayNum t then rf.wayNum t else rf.wayNums l := by rw [rf.wayNums]
theorem way_other {op : ByteArray} (h : (op.toList == rf.lNumber) = false) (x : ByteArray) (n a : Int) (ks : List rf.Tr) : rf.wayNum (.mk op x n a ks) = rf.wayNums ks := by
  rw [rf.wayNum, if_neg (by rw [h]; simp)]
theorem ways_snoc : ∀ (l : List rf.Tr) (x : rf.Tr), rf.wayNums (l ++ [x]) = if 0 ≤ rf.wayNums l then rf.wayNums l else if 0 ≤ rf.wayNum x then rf.wayNum x else -1
  | [], x => by rw [ways_nil, if_neg (by decide), List.nil_append, ways_cons, ways_nil]
  | t :: l, x => by
    rw [List.cons_append, ways_cons, ways_cons]
    by_cases h : 0 ≤ rf.wayNum t
    · simp only [if_pos h]
    · simp only [if_neg h]; exact ways_snoc l x
section
variable {s : ByteArray} {ts : List TokP}
structure WayQR (s : ByteArray) (ts : List TokP) (r : RS) (q : rf.PS × rf.Tr) (z : RS × WayM) : Prop where
  al : Al s ts q.1 z.1
  gap : z.1.gap = gapS
  defs : z.1.defs = r.defs
  nam : z.1.nam = r.nam
  num : z.1.num = orT r.num (rf.wayNum q.2)
  way : WayT q.2 z.2
def WayQ (s : ByteArray) (ts : List TokP) (r : RS) (q : rf.PS × rf.Tr) (z : RS × WayM) : Prop := De q.1 z.1 ∨ WayQR s ts r q z
/-! ## the signs behind an item -/
theorem suf_flag (w : ByteArray) {q : rf.PS × rf.Tr × Bool} (h : q.2.2 = true) : (rf.sufStep s w q).2.2 = true := by
  unfold rf.sufStep; split
  · rfl
  · exact h
theorem suf_none {p : rf.PS} {x : rf.Tr} (h : (rf.suf3 s p x).2.2 = false) : rf.suf3 s p x = (p, x, false) ∧ rf.isP p rf.wStar = false ∧ rf.isP p rf.wPlus = false ∧ rf.isP p rf.wQuest = false := by
  unfold rf.suf3 at h ⊢
  cases h1 : rf.isP p rf.wStar with
  | true =>
    have e : (rf.sufStep s rf.wStar (p, x, false)).2.2 = true := by unfold rf.sufStep; rw [if_pos h1]
    rw [suf_flag _ (suf_flag _ e)] at h; cases h
  | false =>
    have e : rf.sufStep s rf.wStar (p, x, false) = (p, x, false) := by unfold rf.sufStep; rw [if_neg (by simp [h1])]
    rw [e] at h ⊢
    cases h2 : rf.isP p rf.wPlus with
    | true =>
      have e : (rf.sufStep s rf.wPlus (p, x, false)).2.2 = true := by unfold rf.sufStep; rw [if_pos h2]
      rw [suf_flag _ e] at h; cases h
    | false =>
      have e : rf.sufStep s rf.wPlus (p, x, false) = (p, x, false) := by unfold rf.sufStep; rw [if_neg (by simp [h2])]
      rw [e] at h ⊢
      cases h3 : rf.isP p rf.wQuest with
      | true =>
        have e : (rf.sufStep s rf.wQuest (p, x, false)).2.2 = true := by unfold rf.sufStep; rw [if_pos h3]
        rw [e] at h; cases h
      | false =>
        have e : rf.sufStep s rf.wQuest (p, x, false) = (p, x, false) := by unfold rf.sufStep; rw [if_neg (by simp [h3])]
        exact ⟨e, rfl, rfl, rfl⟩
/-- where the signs are read: the item so far -/
structure SufQ (s : ByteArray) (ts : List TokP) (r0 : RS) (A : WayM) (p : rf.PS) (x : rf.Tr) (r : RS) (z m : Bool) : Prop where
  al : Al s ts p r
  gap : r.gap = gapS
  defs : r.defs = r0.defs
  nam : r.nam = r0.nam
  num : r.num = orT r0.num (rf.wayNum x)
  way : WayT x (repL z m A)
theorem suf_step (L : Lx s ts) {r0 : RS} {A : WayM} {p : rf.PS} {x : rf.Tr} {r : RS} {z m b : Bool} {k : Nat} {R : RS × Bool × Bool} (h : SufQ s ts r0 A p x r z m) (hk : repLp ts k r z m = some R) {w : ByteArray} (hw : w = rf.wStar ∨ w = rf.wPlus ∨ w = rf.wQuest) :
    ∃ r' k' z' m', SufQ s ts r0 A (rf.sufStep s w (p, x, b)).1 (rf.sufStep s w (p, x, b)).2.1 r' z' m' ∧ repLp ts k' r' z' m' = some R := by
  obtain ⟨_, _, _, _, _, w6, _⟩ := words_are
  obtain ⟨_, _, _, _, _, _, _, _, _, _, _, _, _, v14, v15, _⟩ := words_more
  have hp : rf.isP p rf.wPlus = decide (kindR ts r = 38) := h.al.isS L rf.wPlus 12 38 (by decide) w6 rfl
  have hs : rf.isP p rf.wStar = decide (kindR ts r = 36) := h.al.isS L rf.wStar 10 36 (by decide) v14 rfl
  have hq : rf.isP p rf.wQuest = decide (kindR ts r = 37) := h.al.isS L rf.wQuest 11 37 (by decide) v15 rfl
  unfold rf.sufStep
  cases hi : rf.isP p w with
  | false =>
    dsimp only
    rw [if_neg (by decide)]
    exact ⟨r, k, z, m, h, hk⟩
  | true =>
    dsimp only
    rw [if_pos rfl]
    cases k with
    | zero => cases hk
    | succ k =>
    rw [repLp] at hk
    have hno : ∀ op, (op.toList == rf.lNumber) = false → (goR ts r).num = orT r0.num (rf.wayNum (.mk op nB 0 0 [x])) := fun op ho => by
      rw [way_other ho, ways_cons, ways_nil, orT_max]; exact h.num
    rcases hw with rfl | rfl | rfl
    · rw [hs] at hi
      have e := of_decide_eq_true hi
      rw [if_pos e] at hk
      exact ⟨goR ts r, k, true, true, ⟨h.al.go L (by omega) (by omega), go_gap (by omega) h.al, h.defs, h.nam, hno _ (by decide +kernel), by rw [← rep_star z m A]; exact .star h.way⟩, hk⟩
    · rw [hp] at hi
      have e := of_decide_eq_true hi
      rw [if_neg (by omega), if_pos e] at hk
      exact ⟨goR ts r, k, z, true, ⟨h.al.go L (by omega) (by omega), go_gap (by omega) h.al, h.defs, h.nam, hno _ (by decide +kernel), by rw [← rep_plus z m A]; exact .plus h.way⟩, hk⟩
    · rw [hq] at hi
      have e := of_decide_eq_true hi
      rw [if_neg (by omega), if_neg (by omega), if_pos e] at hk
      exact ⟨goR ts r, k, true, m, ⟨h.al.go L (by omega) (by omega), go_gap (by omega) h.al, h.defs, h.nam, hno _ (by decide +kernel), by rw [← rep_quest z m A]; exact .quest h.way⟩, hk⟩
theorem sim_suf (L : Lx s ts) {r0 : RS} {A : WayM} : ∀ (f : Nat) {p : rf.PS} {x : rf.Tr} {r : RS} {z m : Bool} {k : Nat} {q : rf.PS × rf.Tr} {R : RS × Bool × Bool}, SufQ s ts r0 A p x r z m → rf.sufLp s f p x = some q → repLp ts k r z m = some R → WayQR s ts r0 q (R.1, repL R.2.1 R.2.2 A)
  | 0, _, _, _, _, _, _, _, _, _, h, _ => by simp [rf.sufLp] at h
  | f + 1, p, x, r, z, m, k, q, R, h, h1, h2 => by
    rw [rf.sufLp] at h1
    cases hf : (rf.suf3 s p x).2.2 with
    | true =>
      rw [hf, if_pos rfl] at h1
      obtain ⟨r1, k1, z1, m1, a1, b1⟩ := suf_step L (b := false) h h2 (Or.inl rfl)
      obtain ⟨r2, k2, z2, m2, a2, b2⟩ := suf_step L (b := (rf.sufStep s rf.wStar (p, x, false)).2.2) a1 b1 (Or.inr (Or.inl rfl))
      obtain ⟨r3, k3, z3, m3, a3, b3⟩ := suf_step L (b := (rf.sufStep s rf.wPlus (rf.sufStep s rf.wStar (p, x, false))).2.2) a2 b2 (Or.inr (Or.inr rfl))
      exact sim_suf L f a3 h1 b3
    | false =>
      rw [hf, if_neg (by decide)] at h1
      obtain ⟨e, i1, i2, i3⟩ := suf_none hf
      rw [e] at h1
      cases h1
      obtain ⟨_, _, _, _, _, w6, _⟩ := words_are
      obtain ⟨_, _, _, _, _, _, _, _, _, _, _, _, _, v14, v15, _⟩ := words_more
      rw [h.al.isS L rf.wPlus 12 38 (by decide) w6 rfl] at i2
      rw [h.al.isS L rf.wStar 10 36 (by decide) v14 rfl] at i1
      rw [h.al.isS L rf.wQuest 11 37 (by decide) v15 rfl] at i3
      cases k with
      | zero => cases h2
      | succ k =>
      rw [repLp, if_neg (of_decide_eq_false i1), if_neg (of_decide_eq_false i2), if_neg (of_decide_eq_false i3)] at h2
      cases h2
      exact ⟨h.al, h.gap, h.defs, h.nam, h.num, h.way⟩
/-! ## ways -/
theorem bad_more {p : rf.PS} (h : 0 ≤ p.bad) : rf.moreP p = false := by unfold rf.moreP; rw [decide_eq_false (by omega), bad_is h, bad_is h]; rfl
theorem bad_suf {p : rf.PS} (h : 0 ≤ p.bad) (x : rf.Tr) : rf.suf3 s p x = (p, x, false) := by
  unfold rf.suf3 rf.sufStep
  simp [bad_is h]
theorem bad_sufs (s : ByteArray) : ∀ f x, KeepsB (fun p => rf.sufLp s f p x)
  | 0, _ => fun _ _ _ h => by simp [rf.sufLp] at h
  | f + 1, x => fun p q hb h => by
    dsimp only at h
    rw [rf.sufLp, bad_suf hb, if_neg (by simp)] at h
    cases h; rfl
theorem bad_ways (s : ByteArray) : ∀ f, KeepsB (rf.eitherTw s f) ∧ (∀ ks, KeepsB (fun p => rf.eitherLp s f p ks)) ∧ KeepsB (rf.rowTw s f) ∧ (∀ ks, KeepsB (fun p => rf.rowLp s f p ks)) ∧ KeepsB (rf.oneTw s f)
  | 0 => ⟨fun _ _ _ h => by simp [rf.eitherTw] at h, fun _ _ _ _ h => by simp [rf.eitherLp] at h, fun _ _ _ h => by simp [rf.rowTw] at h, fun _ _ _ _ h => by simp [rf.rowLp] at h, fun _ _ _ h => by simp [rf.oneTw] at h⟩
  | f + 1 => by
    obtain ⟨h1, h2, h3, h4, h5⟩ := bad_ways s f
    refine ⟨fun p q hb h => ?_, fun ks p q hb h => ?_, fun p q hb h => ?_, fun ks p q hb h => ?_, fun p q hb h => ?_⟩
    · rw [rf.eitherTw] at h; exact h2 [] p q hb h
    · dsimp only at h
      rw [rf.eitherLp] at h
      split at h
      · cases h
      · rename_i p1 r1 e1
        have b1 := h3 _ _ hb e1
        dsimp only at b1
        rw [bad_is (by omega), if_neg (by decide)] at h
        cases h; exact b1
    · rw [rf.rowTw] at h; exact h4 [] p q hb h
    · dsimp only at h
      rw [rf.rowLp] at h
      split at h
      · cases h
      · rename_i p1 x e1
        have b1 := h5 _ _ hb e1
        dsimp only at b1
        split at h
        · cases h
        · rename_i p2 x2 e2
          have b2 := bad_sufs s f x _ _ (by omega) e2
          dsimp only at b2
          rw [bad_more (by omega), if_neg (by decide)] at h
          cases h; exact b2.trans b1
    · rw [rf.oneTw, bad_is hb, bad_is hb, if_neg (by decide), if_neg (by decide)] at h
      cases h
      dsimp only
      rw [bad_kind hb]
theorem keeps_item {I : RS → Prop} (C : Cl ts I) {n : Nat} {eith : RS → Option (RS × WayM)} (he : Keeps I eith) : Keeps I (itemBy ts n eith) := fun st r hi h => by
  unfold itemBy at h
  split at h
  · exact C.someR (C.within hi _ _) h
  · split at h
    · rename_i e; exact C.someR (C.go st 41 hi e (by decide)) h
    · split at h
      · split at h
        · cases h
        · rename_i s1 m hx
          exact C.someR (C.shut (he _ _ (C.open_ hi (by decide)) hx) (by decide)) h
      · cases h; exact hi
theorem keeps_row {I : RS → Prop} (C : Cl ts I) {n : Nat} {eith : RS → Option (RS × WayM)} (he : Keeps I eith) : Keeps I (rowBy ts n (itemBy ts n eith)) := fun st r hi h => by
  unfold rowBy at h
  split at h
  · cases h
  · rename_i s1 l hx
    cases h
    have := keeps_more (keeps_item C he) n _ _ _ hi hx
    dsimp only
    split
    · exact C.fail _ this
    · exact this
theorem someR_some {o : Option (RS × WayM)} {z : RS × Option WayM} (h : someR o = some z) : ∃ s m, o = some (s, m) ∧ z = (s, some m) := by
  cases o with
  | none => cases h
  | some x => exact ⟨x.1, x.2, rfl, (Option.some.inj h).symm⟩
theorem repeats_some {n : Nat} {A : WayM} {st s1 : RS} {m : WayM} (h : repeatsR ts n A st = some (s1, m)) : ∃ R, repLp ts n st false false = some R ∧ s1 = R.1 ∧ m = repL R.2.1 R.2.2 A := by
  unfold repeatsR at h
  split at h
  · cases h
  · rename_i s2 z m2 hx
    cases h
    exact ⟨_, hx, rfl, rfl⟩
theorem orT_num_at {x : Int} {n : Nat} (c : Prop) [Decidable c] (h : x = if c then (n : Int) else -1) (o : Option Int) : orT o (if c then (n : Int) else -1) = orT o x := by rw [h]
theorem sim_ways (L : Lx s ts) (n : Nat) : ∀ f,
    (∀ p r g q z, Al s ts p r → rf.eitherTw s f p = some q → eithTw ts n g r = some z → WayQ s ts r q z) ∧
    (∀ p r r0 g k ks l q z, Al s ts p r → r.defs = r0.defs → r.nam = r0.nam → r.num = orT r0.num (rf.wayNums ks) → WaysT ks l → rf.eitherLp s f p ks = some q →
      (match rowBy ts n (itemBy ts n (eithTw ts n g)) r with | none => none | some (s1, m) => altLp ts (rowBy ts n (itemBy ts n (eithTw ts n g))) k s1 (l ++ [m])) = some z → WayQ s ts r0 q (z.1, anyL z.2)) ∧
    (∀ p r g q z, Al s ts p r → rf.rowTw s f p = some q → rowBy ts n (itemBy ts n (eithTw ts n g)) r = some z → WayQ s ts r q z) ∧
    (∀ p r r0 g k ks l q z, Al s ts p r → (ks = [] ∨ kindR ts r = 2 ∨ kindR ts r = 41 ∨ kindR ts r = 33) → r.defs = r0.defs → r.nam = r0.nam → r.num = orT r0.num (rf.wayNums ks) → WaysT ks l → rf.rowLp s f p ks = some q → moreLp (itemBy ts n (eithTw ts n g)) k r l = some z → WayQ s ts r0 q (if z.2.length = 0 then failR ts z.1 else z.1, rowL z.2)) ∧
    (∀ p r g p1 x q z f2, Al s ts p r → (kindR ts r = 2 ∨ kindR ts r = 41 ∨ kindR ts r = 33) → rf.oneTw s f p = some (p1, x) → rf.sufLp s f2 p1 x = some q → itemBy ts n (eithTw ts n g) r = some z → ∃ m, z.2 = some m ∧ WayQ s ts r q (z.1, m))
  | 0 => ⟨fun _ _ _ _ _ _ h => by simp [rf.eitherTw] at h, fun _ _ _ _ _ _ _ _ _ _ _ _ _ _ h => by simp [rf.eitherLp] at h, fun _ _ _ _ _ _ h => by simp [rf.rowTw] at h, fun _ _ _ _ _ _ _ _ _ _ _ _ _ _ _ h => by simp [rf.rowLp] at h, fun _ _ _ _ _ _ _ _ _ _ h => by simp [rf.oneTw] at h⟩
  | f + 1 => by
    obtain ⟨i1, i2, i3, i4, i5⟩ := sim_ways L n f
    obtain ⟨_, _, _, w4, w5, _⟩ := words_are
    obtain ⟨_, _, _, _, _, _, _, _, _, _, _, v12, v13, _⟩ := words_more
    have KE : ∀ x g, Keeps (fun st : RS => st.syn = some x) (eithTw ts n g) := fun x g => (syn_cl ts x).eithTw n g
    have KR : ∀ x g, Keeps (fun st : RS => st.syn = some x) (rowBy ts n (itemBy ts n (eithTw ts n g))) := fun x g => keeps_row (syn_cl ts x) (KE x g)
    refine ⟨fun p r g q z h h1 h2 => ?_, fun p r r0 g k ks l q z h hd hn hu hw h1 h2 => ?_, fun p r g q z h h1 h2 => ?_, fun p r r0 g k ks l q z h hor hd hn hu hw h1 h2 => ?_, fun p r g p1 x q z f2 h hor h1 h3 h2 => ?_⟩
    · cases g with
      | zero => cases h2
      | succ g =>
      rw [rf.eitherTw] at h1
      rw [eithTw] at h2
      unfold eithBy at h2
      split at h2
      · cases h2
      · rename_i s1 m e1
        split at h2
        · cases h2
        · rename_i s2 l e2
          cases h2
          refine i2 p r r g n [] [] q (s2, l) h rfl rfl ?_ .nil h1 ?_
          · rw [ways_nil, orT_neg (by decide)]
          · rw [e1]; exact e2
    · rw [rf.eitherLp] at h1
      split at h1
      · cases h1
      · rename_i p1 t1 e1
        split at h2
        · cases h2
        · rename_i r1 m1 e2
          rcases i3 _ _ g _ _ h e1 e2 with hde | hs
          · left
            obtain ⟨x, x0, x1, x2⟩ := hde
            dsimp only at x1 x2
            rw [bad_is (by omega), if_neg (by decide)] at h1
            cases h1
            exact ⟨x, x0, x1, (syn_cl ts x).altLp (KR x g) k _ _ _ x2 h2⟩
          · have hal := hs.al
            dsimp only at hal
            have hnum : r1.num = orT r0.num (rf.wayNums (ks ++ [t1])) := by
              rw [ways_snoc, orT_pair, ← hu]; exact hs.num
            have hwt := hw.snoc hs.way
            dsimp only at hwt
            rw [hal.isS L rf.wBar 9 35 (by decide) v13 rfl] at h1
            cases k with
            | zero => cases h2
            | succ k =>
            rw [altLp] at h2
            by_cases e35 : kindR ts r1 = 35
            · rw [decide_eq_true e35, if_pos rfl] at h1
              rw [if_pos e35] at h2
              exact i2 _ (goR ts r1) r0 g k _ _ q z (hal.go L (by omega) (by omega)) (hs.defs.trans hd) (hs.nam.trans hn) hnum hwt h1 h2
            · rw [decide_eq_false e35, if_neg (by decide)] at h1
              rw [if_neg e35] at h2
              cases h1; cases h2
              refine Or.inr ⟨hal, hs.gap, hs.defs.trans hd, hs.nam.trans hn, ?_, .either hwt⟩
              dsimp only
              rw [way_other (by decide +kernel)]; exact hnum
    · rw [rf.rowTw] at h1
      unfold rowBy at h2
      split at h2
      · cases h2
      · rename_i s1 l e1
        cases h2
        exact i4 p r r g n [] [] q (s1, l) h (Or.inl rfl) rfl rfl (by rw [ways_nil, orT_neg (by decide)]) .nil h1 e1
    · rw [rf.rowLp] at h1
      split at h1
      · cases h1
      · rename_i p1 x e1
        split at h1
        · cases h1
        · rename_i p2 x2 e2
          cases k with
          | zero => cases h2
          | succ k =>
          rw [moreLp] at h2
          by_cases hk : kindR ts r = 2 ∨ kindR ts r = 41 ∨ kindR ts r = 33
          · split at h2
            · cases h2
            · rename_i r1 e3
              obtain ⟨m, hm, _⟩ := i5 p r g p1 x _ _ f h hk e1 e2 e3
              cases hm
            · rename_i r1 m1 e3
              obtain ⟨m, hm, hq⟩ := i5 p r g p1 x _ _ f h hk e1 e2 e3
              dsimp only at hm hq
              cases hm
              rcases hq with hde | hs
              · left
                obtain ⟨y, y0, y1, y2⟩ := hde
                dsimp only at y1 y2
                rw [bad_more (by omega), if_neg (by decide)] at h1
                cases h1
                refine ⟨y, y0, y1, ?_⟩
                have := keeps_more (keeps_item (syn_cl ts y) (KE y g)) k _ _ _ y2 h2
                dsimp only
                split
                · exact (syn_cl ts y).fail _ this
                · exact this
              · have hal := hs.al
                dsimp only at hal
                have hnum : r1.num = orT r0.num (rf.wayNums (ks ++ [x2])) := by
                  rw [ways_snoc, orT_pair, ← hu]; exact hs.num
                have hwt := hw.snoc hs.way
                dsimp only at hwt
                have hmore : rf.moreP p2 = decide (kindR ts r1 = 2 ∨ kindR ts r1 = 41 ∨ kindR ts r1 = 33) := by
                  unfold rf.moreP
                  rw [decide_eq_true hal.bad, hal.isS L rf.wDot 15 41 (by decide) v12 rfl, hal.isS L rf.wOpen 7 33 (by decide) w4 rfl]
                  have e48 : (p2.next.kind == 48) = decide (kindR ts r1 = 2) := by
                    rw [Bool.eq_iff_iff]; simp [(hal.kinds L).1]
                  rw [e48, Bool.true_and, Bool.decide_or, Bool.decide_or, Bool.or_assoc]
                rw [hmore] at h1
                by_cases hk2 : kindR ts r1 = 2 ∨ kindR ts r1 = 41 ∨ kindR ts r1 = 33
                · rw [decide_eq_true hk2, if_pos rfl] at h1
                  exact i4 p2 r1 r0 g k _ _ q z hal (Or.inr hk2) (hs.defs.trans hd) (hs.nam.trans hn) hnum hwt h1 h2
                · rw [decide_eq_false hk2, if_neg (by decide)] at h1
                  cases h1
                  cases k with
                  | zero => cases h2
                  | succ k =>
                  have e4 : itemBy ts n (eithTw ts n g) r1 = some (r1, none) := by
                    unfold itemBy; rw [if_neg (by omega), if_neg (by omega), if_neg (by omega)]
                  rw [moreLp, e4] at h2
                  cases h2
                  right
                  dsimp only
                  rw [if_neg (by simp)]
                  refine ⟨hal, hs.gap, hs.defs.trans hd, hs.nam.trans hn, ?_, .row hwt⟩
                  dsimp only
                  rw [way_other (by decide +kernel)]; exact hnum
          · have hks : ks = [] := hor.resolve_right hk
            subst hks
            cases hw
            have e4 : itemBy ts n (eithTw ts n g) r = some (r, none) := by
              unfold itemBy; rw [if_neg (by omega), if_neg (by omega), if_neg (by omega)]
            rw [e4] at h2
            cases h2
            left
            obtain ⟨y, y0, y1, y2⟩ := h.fail L
            have hp1 : p1 = rf.failP p := by
              cases f with
              | zero => simp [rf.oneTw] at e1
              | succ f =>
                rw [rf.oneTw, h.isS L rf.wDot 15 41 (by decide) v12 rfl, h.isS L rf.wOpen 7 33 (by decide) w4 rfl, decide_eq_false (by omega), decide_eq_false (by omega), if_neg (by decide), if_neg (by decide)] at e1
                cases e1
                unfold rf.kindP
                rw [if_neg (fun e => hk (Or.inl ((h.kinds L).1.1 e)))]
            subst hp1
            have b2 := bad_sufs s f x _ _ (by omega) e2
            dsimp only at b2
            rw [bad_more (by omega), if_neg (by decide)] at h1
            cases h1
            exact ⟨y, y0, b2.trans y1, y2⟩
    · have hsuf : ∀ {A : WayM} {r1 : RS}, SufQ s ts r A p1 x r1 false false → someR (repeatsR ts n A r1) = some z → ∃ m, z.2 = some m ∧ WayQ s ts r q (z.1, m) := fun {A r1} ha hz => by
        obtain ⟨s1, m, e1, rfl⟩ := someR_some hz
        obtain ⟨R, e2, rfl, rfl⟩ := repeats_some e1
        exact ⟨_, rfl, Or.inr (sim_suf L f2 ha h3 e2)⟩
      have hdead : ∀ {A : WayM} {r1 : RS}, De p1 r1 → someR (repeatsR ts n A r1) = some z → ∃ m, z.2 = some m ∧ WayQ s ts r q (z.1, m) := fun {A r1} hde hz => by
        obtain ⟨y, y0, y1, y2⟩ := hde
        obtain ⟨s1, m, e1, rfl⟩ := someR_some hz
        refine ⟨_, rfl, Or.inl ⟨y, y0, (bad_sufs s f2 x _ _ (by omega) h3).trans y1, ?_⟩⟩
        exact (syn_cl ts y).repeats n A _ _ y2 e1
      unfold itemBy at h2
      rw [rf.oneTw, h.isS L rf.wDot 15 41 (by decide) v12 rfl, h.isS L rf.wOpen 7 33 (by decide) w4 rfl] at h1
      by_cases e2 : kindR ts r = 2
      · rw [decide_eq_false (by omega), decide_eq_false (by omega), if_neg (by decide), if_neg (by decide)] at h1
        rw [if_pos e2] at h2
        cases h1
        rcases h.within L 1 65535 with hde | ⟨u1, u2, u3, u4, u5, u6, u7⟩
        · exact hdead hde h2
        · refine hsuf ⟨u1, u2, u3, u4, ?_, ?_⟩ h2
          · rw [u5, rf.wayNum]
            simp only [show (rf.wNumber.toList == rf.lNumber) = true by decide +kernel, true_and, ways_nil]
          · rw [rep_none, u6]; exact .num _ _
      · rw [if_neg e2] at h2
        by_cases e41 : kindR ts r = 41
        · rw [decide_eq_true e41, if_pos rfl] at h1
          rw [if_pos e41] at h2
          cases h1
          refine hsuf ⟨h.go L (by omega) (by omega), go_gap (by omega) h, rfl, rfl, ?_, ?_⟩ h2
          · rw [way_other (by decide +kernel), ways_nil, orT_neg (by decide)]; rfl
          · rw [rep_none]; exact .dot
        · have e33 : kindR ts r = 33 := by omega
          rw [decide_eq_false e41, decide_eq_true e33, if_neg (by decide), if_pos rfl] at h1
          rw [if_neg e41, if_pos e33] at h2
          split at h1
          · cases h1
          · rename_i p2 t2 e3
            split at h2
            · cases h2
            · rename_i r2 m2 e4
              cases h1
              rcases h.open_ L e33 (by decide) (by decide) (by decide) with ⟨ho, o1, o2, o3, o4⟩ | hde
              · rcases i1 _ _ g _ _ ho e3 e4 with hde | hs
                · exact hdead ((hde.need (s := s) (ts := ts) rf.wShut (k := 34) (by decide)).dec) h2
                · have hal := hs.al
                  dsimp only at hal
                  rw [w5] at hsuf hdead
                  rcases hal.needS L (j := 8) (by decide) (by omega) with ⟨k1, k2, k3⟩ | hde
                  · have e34 : shutR ts 34 r2 = decR (goR ts r2) := by
                      unfold shutR
                      exact congrArg (fun x => decR x.1) k3
                    rw [e34] at h2
                    refine hsuf ⟨k2.dec, go_gap (by rw [k1]; decide) hal, hs.defs.trans o2, hs.nam.trans o3, ?_, ?_⟩ h2
                    · have := hs.num
                      dsimp only at this
                      rw [o4] at this
                      exact this
                    · rw [rep_none]; exact hs.way
                  · exact hdead hde.dec h2
              · obtain ⟨y, y0, y1, y2⟩ := hde
                refine hdead (De.dec (De.need ⟨y, y0, ?_, ?_⟩ rf.wShut (k := 34) (by decide))) h2
                · exact ((bad_ways s f).1 _ _ (by omega) e3).trans y1
                · exact KE y g _ _ y2 e4
end
end Go.Proofs.YtgdeeodifnegiaaGreatDoor
