/- What every step of the reader keeps, the reader's twins keep; no program. -/
import Derived.Test.YtgdeeodifnegiaaGreatDoorSidP
import Derived.Test.YtgdeeodifnegiaaGreatDoorPrtA
namespace Go.Proofs.YtgdeeodifnegiaaGreatDoor
open Go.RowKit

structure Cl (ts : List TokP) (I : RS → Prop) : Prop where
  go : ∀ st k, I st → kindR ts st = k → 2 ≤ k → I (goR ts st)
  fail : ∀ st, I st → I (failR ts st)
  line : ∀ st, I st → I (endLineR st)
  same : ∀ st st', I st → st'.next = st.next → st'.page = st.page → st'.gap = st.gap → st'.syn = st.syn → (st.nam.isSome = true → st'.nam.isSome = true) → (st.num.isSome = true → st'.num.isSome = true) → I st'
theorem tell_some (f : Option Int) (x : Int) : (tellR f x).isSome = true := by cases f <;> rfl
section
variable {ts : List TokP} {I : RS → Prop} (C : Cl ts I)
include C
theorem Cl.take {st : RS} (h : I st) {k : Int} (hk : 2 ≤ k) : I (takeR ts k st).1 := by
  unfold takeR
  split
  · rename_i e; exact C.go st k h e hk
  · exact C.fail st h
theorem Cl.open_ {st : RS} (h : I st) {k : Int} (hk : 2 ≤ k) : I (openR ts k st) := by
  have h1 : I (takeR ts k (if st.depth = 8 then failR ts st else st)).1 := by
    refine C.take ?_ hk
    split
    · exact C.fail st h
    · exact h
  exact C.same _ _ h1 rfl rfl rfl rfl (by first | exact fun h => h | exact fun _ => tell_some _ _) (by first | exact fun h => h | exact fun _ => tell_some _ _)
theorem Cl.dec {st : RS} (h : I st) : I (decR st) := C.same _ _ h rfl rfl rfl rfl (by first | exact fun h => h | exact fun _ => tell_some _ _) (by first | exact fun h => h | exact fun _ => tell_some _ _)
theorem Cl.shut {st : RS} (h : I st) {k : Int} (hk : 2 ≤ k) : I (shutR ts k st) := C.dec (C.take h hk)
theorem Cl.within {st : RS} (h : I st) (a b : Int) : I (withinR ts a b st).1 := by
  unfold withinR
  dsimp only
  split
  · exact C.same _ _ (C.take h (k := 2) (by decide)) rfl rfl rfl rfl (by first | exact fun h => h | exact fun _ => tell_some _ _) (by first | exact fun h => h | exact fun _ => tell_some _ _)
  · exact C.take h (by decide)
theorem Cl.newName {st : RS} (h : I st) : I (newNameR ts st).1 := by
  unfold newNameR
  dsimp only
  split
  · exact C.same _ _ (C.take h (k := 4) (by decide)) rfl rfl rfl rfl (by first | exact fun h => h | exact fun _ => tell_some _ _) (by first | exact fun h => h | exact fun _ => tell_some _ _)
  · exact C.take h (by decide)
theorem Cl.useSet {st : RS} (h : I st) : I (useSetR ts st).1 := by
  unfold useSetR
  dsimp only
  split
  · exact C.take h (by decide)
  · exact C.same _ _ (C.take h (k := 4) (by decide)) rfl rfl rfl rfl (by first | exact fun h => h | exact fun _ => tell_some _ _) (by first | exact fun h => h | exact fun _ => tell_some _ _)
theorem Cl.useWay {st : RS} (h : I st) : I (useWayR ts st).1 := by
  unfold useWayR
  dsimp only
  split
  · exact C.take h (by decide)
  · exact C.same _ _ (C.take h (k := 4) (by decide)) rfl rfl rfl rfl (by first | exact fun h => h | exact fun _ => tell_some _ _) (by first | exact fun h => h | exact fun _ => tell_some _ _)
def Keeps {α : Type} (I : RS → Prop) (rd : RS → Option (RS × α)) : Prop := ∀ st r, I st → rd st = some r → I r.1
omit C in
theorem keeps_none {α : Type} : Keeps (α := α) I (fun _ => none) := fun _ _ _ h => by cases h
theorem Cl.sumLp {tm : RS → Option (RS × Option AmtM)} (h0 : Keeps I tm) : ∀ (n : Nat) (st : RS) (a : Option AmtM) (r : RS × Option AmtM), I st → sumLp ts tm n st a = some r → I r.1
  | 0, _, _, _, _, h => by cases h
  | n + 1, st, a, r, hi, h => by
    rw [Go.Proofs.YtgdeeodifnegiaaGreatDoor.sumLp] at h
    split at h
    · rename_i e
      split at h
      · cases h
      · rename_i s b hx
        exact Cl.sumLp h0 n _ _ r (h0 _ _ (C.go st 38 hi e (by decide)) hx) h
    · split at h
      · rename_i e
        split at h
        · cases h
        · rename_i s b hx
          exact Cl.sumLp h0 n _ _ r (h0 _ _ (C.go st 39 hi e (by decide)) hx) h
      · cases h; exact hi
theorem Cl.sumBy {tm : RS → Option (RS × Option AmtM)} (h0 : Keeps I tm) (n : Nat) : Keeps I (sumBy ts tm n) := fun st r hi h => by
  unfold Go.Proofs.YtgdeeodifnegiaaGreatDoor.sumBy at h
  split at h
  · cases h
  · rename_i s a hx
    exact C.sumLp h0 n _ _ r (h0 _ _ hi hx) h
theorem Cl.termTw (n : Nat) : ∀ f, Keeps I (termTw ts n f)
  | 0 => fun _ _ _ h => by cases h
  | f + 1 => fun st r hi h => by
    rw [Go.Proofs.YtgdeeodifnegiaaGreatDoor.termTw] at h
    split at h
    · rename_i e; cases h; exact C.go st 2 hi e (by decide)
    · split at h
      · rename_i e; cases h; exact C.go st 9 hi e (by decide)
      · split at h
        · rename_i e; cases h; exact C.go st 10 hi e (by decide)
        · split at h
          · rename_i e; cases h; exact C.go st 17 hi e (by decide)
          · split at h
            · split at h
              · cases h
              · rename_i s a hx
                cases h
                exact C.shut (C.sumBy (Cl.termTw n f) n _ _ (C.open_ hi (by decide)) hx) (by decide)
            · cases h; exact C.fail st hi
theorem Cl.sumTw (n f : Nat) : Keeps I (sumTw ts n f) := C.sumBy (C.termTw n f) n
theorem Cl.compare {sum : RS → Option (RS × Option AmtM)} (h0 : Keeps I sum) : Keeps I (compareBy ts sum) := fun st r hi h => by
  unfold compareBy at h
  split at h
  · cases h
  · rename_i s a hx
    have h1 := h0 _ _ hi hx
    split at h
    · rename_i e
      split at h
      · cases h
      · rename_i s2 b hy
        cases h
        exact h0 _ _ (C.go s 40 h1 e (by decide)) hy
    · split at h
      · cases h
      · rename_i s2 b hy
        cases h
        exact h0 _ _ (C.take h1 (by decide)) hy
theorem Cl.binLp {q : Int} (hq : 2 ≤ q) {m : CndM → CndM → CndM} {rd : RS → Option (RS × Option CndM)} (h0 : Keeps I rd) : ∀ (n : Nat) (st : RS) (a : Option CndM) (r : RS × Option CndM), I st → binLp ts q m rd n st a = some r → I r.1
  | 0, _, _, _, _, h => by cases h
  | n + 1, st, a, r, hi, h => by
    rw [Go.Proofs.YtgdeeodifnegiaaGreatDoor.binLp] at h
    split at h
    · rename_i e
      split at h
      · cases h
      · rename_i s b hx
        exact Cl.binLp hq h0 n _ _ r (h0 _ _ (C.go st q hi e hq) hx) h
    · cases h; exact hi
theorem Cl.binBy {q : Int} (hq : 2 ≤ q) {m : CndM → CndM → CndM} {rd : RS → Option (RS × Option CndM)} (h0 : Keeps I rd) (n : Nat) : Keeps I (binBy ts q m rd n) := fun st r hi h => by
  unfold Go.Proofs.YtgdeeodifnegiaaGreatDoor.binBy at h
  split at h
  · cases h
  · rename_i s a hx
    exact C.binLp hq h0 n _ _ r (h0 _ _ hi hx) h
theorem Cl.cond {nt : RS → Option (RS × Option CndM)} (h0 : Keeps I nt) (n : Nat) : Keeps I (condBy ts nt n) := C.binBy (by decide) (C.binBy (by decide) h0 n) n
theorem Cl.notTw {sum : RS → Option (RS × Option AmtM)} (h0 : Keeps I sum) (n : Nat) : ∀ f, Keeps I (notTw ts n sum f)
  | 0 => fun _ _ _ h => by cases h
  | f + 1 => fun st r hi h => by
    rw [Go.Proofs.YtgdeeodifnegiaaGreatDoor.notTw] at h
    split at h
    · split at h
      · cases h
      · rename_i s c hx
        cases h
        exact C.dec (Cl.notTw h0 n f _ _ (C.open_ hi (by decide)) hx)
    · split at h
      · rename_i e
        cases h
        exact C.useSet (C.take (C.go st 21 hi e (by decide)) (by decide))
      · split at h
        · rename_i e
          cases h
          exact C.useWay (C.take (C.go st 23 hi e (by decide)) (by decide))
        · split at h
          · rename_i e
            cases h
            exact C.within (C.go st 25 hi e (by decide)) _ _
          · split at h
            · split at h
              · cases h
              · rename_i s c hx
                cases h
                exact C.shut (C.cond (Cl.notTw h0 n f) n _ _ (C.open_ hi (by decide)) hx) (by decide)
            · exact C.compare h0 _ _ hi h
/-! ## ways, ranges, definitions -/
theorem Cl.repLp : ∀ (n : Nat) (st : RS) (z m : Bool) (r : RS × Bool × Bool), I st → repLp ts n st z m = some r → I r.1
  | 0, _, _, _, _, _, h => by cases h
  | n + 1, st, z, m, r, hi, h => by
    rw [Go.Proofs.YtgdeeodifnegiaaGreatDoor.repLp] at h
    split at h
    · rename_i e; exact Cl.repLp n _ _ _ r (C.go st 36 hi e (by decide)) h
    · split at h
      · rename_i e; exact Cl.repLp n _ _ _ r (C.go st 38 hi e (by decide)) h
      · split at h
        · rename_i e; exact Cl.repLp n _ _ _ r (C.go st 37 hi e (by decide)) h
        · cases h; exact hi
theorem Cl.repeats (n : Nat) (A : WayM) : Keeps I (repeatsR ts n A) := fun st r hi h => by
  unfold repeatsR at h
  split at h
  · cases h
  · rename_i s z m hx
    cases h
    exact C.repLp n st false false _ hi hx
theorem Cl.someR {n : Nat} {A : WayM} {st : RS} {r : RS × Option WayM} (hi : I st) (h : someR (repeatsR ts n A st) = some r) : I r.1 := by
  unfold Go.Proofs.YtgdeeodifnegiaaGreatDoor.someR at h
  split at h
  · cases h
  · rename_i s m hx
    cases h
    exact C.repeats n A _ _ hi hx
omit C in
theorem keeps_more {α : Type} {rd : RS → Option (RS × Option α)} (h0 : Keeps I rd) : ∀ (n : Nat) (st : RS) (l : List α) (r : RS × List α), I st → moreLp rd n st l = some r → I r.1
  | 0, _, _, _, _, h => by cases h
  | n + 1, st, l, r, hi, h => by
    rw [moreLp] at h
    split at h
    · cases h
    · rename_i s hx
      cases h
      exact h0 _ _ hi hx
    · rename_i s x hx
      exact keeps_more h0 n _ _ r (h0 _ _ hi hx) h
theorem Cl.altLp {rd : RS → Option (RS × WayM)} (h0 : Keeps I rd) : ∀ (n : Nat) (st : RS) (l : List WayM) (r : RS × List WayM), I st → altLp ts rd n st l = some r → I r.1
  | 0, _, _, _, _, h => by cases h
  | n + 1, st, l, r, hi, h => by
    rw [Go.Proofs.YtgdeeodifnegiaaGreatDoor.altLp] at h
    split at h
    · rename_i e
      split at h
      · cases h
      · rename_i s m hx
        exact Cl.altLp h0 n _ _ r (h0 _ _ (C.go st 35 hi e (by decide)) hx) h
    · cases h; exact hi
theorem Cl.eithTw (n : Nat) : ∀ f, Keeps I (eithTw ts n f)
  | 0 => fun _ _ _ h => by cases h
  | f + 1 => fun st r hi h => by
    have hit : Keeps I (itemBy ts n (Go.Proofs.YtgdeeodifnegiaaGreatDoor.eithTw ts n f)) := fun st r hi h => by
      unfold itemBy at h
      split at h
      · exact C.someR (C.within hi _ _) h
      · split at h
        · rename_i e; exact C.someR (C.go st 41 hi e (by decide)) h
        · split at h
          · split at h
            · cases h
            · rename_i s m hx
              exact C.someR (C.shut (Cl.eithTw n f _ _ (C.open_ hi (by decide)) hx) (by decide)) h
          · cases h; exact hi
    have hrw : Keeps I (rowBy ts n (itemBy ts n (Go.Proofs.YtgdeeodifnegiaaGreatDoor.eithTw ts n f))) := fun st r hi h => by
      unfold rowBy at h
      split at h
      · cases h
      · rename_i s l hx
        cases h
        have h1 := keeps_more hit n st [] _ hi hx
        dsimp only at h1 ⊢
        split
        · exact C.fail _ h1
        · exact h1
    rw [Go.Proofs.YtgdeeodifnegiaaGreatDoor.eithTw] at h
    unfold eithBy at h
    split at h
    · cases h
    · rename_i s m hx
      split at h
      · cases h
      · rename_i s2 l hy
        cases h
        exact C.altLp hrw n _ _ _ (hrw _ _ hi hx) hy
theorem Cl.oneRange {st : RS} (hi : I st) : I (oneRangeR ts st).1 := by
  have h1 := C.take hi (k := 3) (by decide)
  unfold oneRangeR
  split
  · exact C.within (C.within h1 _ _) _ _
  · exact h1
theorem Cl.rangesLp : ∀ (n : Nat) (st : RS) (l : List SetM) (r : RS × List SetM), I st → rangesLp ts n st l = some r → I r.1
  | 0, _, _, _, _, h => by cases h
  | n + 1, st, l, r, hi, h => by
    rw [Go.Proofs.YtgdeeodifnegiaaGreatDoor.rangesLp] at h
    split at h
    · rename_i e; exact Cl.rangesLp n _ _ r (C.oneRange (C.go st 28 hi e (by decide))) h
    · cases h; exact hi
theorem Cl.ranges (n : Nat) : Keeps I (rangesR ts n) := fun st r hi h => by
  unfold rangesR at h
  split at h
  · cases h
  · rename_i s l hx
    cases h
    exact C.take (C.rangesLp n _ _ _ (C.oneRange (C.take hi (by decide))) hx) (by decide)
theorem Cl.defW (n f : Nat) : Keeps I (defW ts n f) := fun st r hi h => by
  unfold Go.Proofs.YtgdeeodifnegiaaGreatDoor.defW at h
  split at h
  · rename_i e
    split at h
    · cases h
    · rename_i s m hx
      cases h
      exact C.same _ _ (C.take (C.eithTw n f _ _ (C.take (C.newName (C.go st 6 hi e (by decide))) (by decide)) hx) (k := 27) (by decide)) rfl rfl rfl rfl (by first | exact fun h => h | exact fun _ => tell_some _ _) (by first | exact fun h => h | exact fun _ => tell_some _ _)
  · unfold defR at h
    split at h
    · rename_i e
      split at h
      · cases h
      · rename_i s m hx
        cases h
        exact C.same _ _ (C.take (C.ranges n _ _ (C.take (C.newName (C.go st 5 hi e (by decide))) (by decide)) hx) (k := 27) (by decide)) rfl rfl rfl rfl (by first | exact fun h => h | exact fun _ => tell_some _ _) (by first | exact fun h => h | exact fun _ => tell_some _ _)
    · first
        | (cases h; exact hi)
        | (split at h; (cases h); (cases h; exact hi))
theorem Cl.defsW (n f : Nat) : ∀ (k : Nat) (st s : RS), I st → defsW ts n f k st = some s → I s
  | 0, st, s, hi, h => by cases h; exact hi
  | k + 1, st, s, hi, h => by
    rw [Go.Proofs.YtgdeeodifnegiaaGreatDoor.defsW] at h
    split at h
    · cases h
    · rename_i s1 hx
      exact Cl.defsW n f k _ _ (C.defW n f _ _ hi hx) h
    · rename_i s1 hx
      cases h
      exact C.defW n f _ _ hi hx
/-! ## statements -/
theorem Cl.block {rd : RS → Option (RS × Option (Option StpM))} (h0 : Keeps I rd) (n : Nat) : Keeps I (blockBy ts rd n) := fun st r hi h => by
  unfold blockBy at h
  split at h
  · cases h
  · rename_i s l hx
    cases h
    exact C.line _ (C.shut (keeps_more h0 n _ _ _ (C.line _ (C.open_ hi (by decide))) hx) (by decide))
theorem Cl.end_ {st : RS} (h : I st) : I (endR ts st) := C.take h (by decide)
theorem Cl.stmtTw (n : Nat) (ok : Int → Bool) {sum : RS → Option (RS × Option AmtM)} (hs : Keeps I sum) {cnd : RS → Option (RS × Option CndM)} (hc : Keeps I cnd) : ∀ f, Keeps I (stmtTw ts n ok sum cnd f)
  | 0 => fun _ _ _ h => by cases h
  | f + 1 => fun st r hi h => by
    have IH := Cl.stmtTw n ok hs hc f
    rw [Go.Proofs.YtgdeeodifnegiaaGreatDoor.stmtTw] at h
    split at h
    · cases h
    · split at h
      · rename_i e
        split at h
        · cases h
        · rename_i s1 c hx
          have h1 := hc _ _ (C.go st 14 hi e (by decide)) hx
          split at h
          · cases h
          · rename_i s2 yes hy
            have h2 := C.block IH n _ _ (C.take h1 (by decide)) hy
            split at h
            · rename_i e2
              split at h
              · cases h
              · rename_i s3 no hz
                cases h
                exact C.block IH n _ _ (C.go s2 16 h2 e2 (by decide)) hz
            · cases h; exact h2
      · split at h
        · rename_i e; cases h; exact C.end_ (C.go st 7 hi e (by decide))
        · split at h
          · rename_i e; cases h; exact C.end_ (C.go st 8 hi e (by decide))
          · split at h
            · rename_i e
              split at h
              · cases h
              · rename_i s1 a hx
                cases h
                exact C.end_ (hs _ _ (C.take (C.go st 9 hi e (by decide)) (by decide)) hx)
            · split at h
              · rename_i e
                split at h
                · cases h
                · rename_i s1 a hx
                  cases h
                  exact C.end_ (hs _ _ (C.take (C.go st 10 hi e (by decide)) (by decide)) hx)
              · split at h
                · rename_i e; cases h; exact C.end_ (C.within (C.go st 11 hi e (by decide)) _ _)
                · split at h
                  · rename_i e; cases h; exact C.end_ (C.within (C.go st 12 hi e (by decide)) _ _)
                  · split at h
                    · rename_i e; cases h; exact C.end_ (C.within (C.go st 13 hi e (by decide)) _ _)
                    · cases h; exact hi
theorem Cl.policyW (n f : Nat) {stmt : RS → Option (RS × Option (Option StpM))} (h0 : Keeps I stmt) : Keeps I (policyW ts n f stmt) := fun st r hi h => by
  unfold Go.Proofs.YtgdeeodifnegiaaGreatDoor.policyW at h
  split at h
  · cases h
  · rename_i s hx
    have h1 := C.defsW n f 8 _ _ hi hx
    unfold policyTw at h
    split at h
    · cases h
    · rename_i s1 l hy
      have h2 := keeps_more h0 n _ _ _ h1 hy
      cases h
      dsimp only at h2 ⊢
      have h3 : I (if l.length = 0 then failR ts s1 else s1) := by
        split
        · exact C.fail _ h2
        · exact h2
      generalize (if l.length = 0 then failR ts s1 else s1) = s2 at *
      split
      · exact h3
      · exact C.fail _ h3
end
end Go.Proofs.YtgdeeodifnegiaaGreatDoor

namespace Go.Proofs.YtgdeeodifnegiaaGreatDoor
open Go.RowKit

structure Pg (ts : List TokP) (st : RS) : Prop where
  ex : ∃ l : List Gp, st.page = rend l ∧ l.map (·.2) = ts.take st.next ∧ (∀ x ∈ l.tail, sepOk x) ∧ (∀ x, l.head? = some x → x.1 = [] ∨ gapOk x.1)
  gap : (st.gap.data.toList = [] ∧ st.next = 0) ∨ gapOk st.gap.data.toList
theorem rend_snoc (l : List Gp) (x : Gp) : rend (l ++ [x]) = rend l ++ (x.1 ++ x.2.text.data.toList) := by simp [rend]
theorem tok_at {ts : List TokP} {st : RS} {k : Int} (e : kindR ts st = k) (hk : 2 ≤ k) : ts[st.next]? = some (tokR ts st) := by
  obtain ⟨h1, _⟩ := kindR_tok e hk
  unfold tokR at h1 ⊢
  cases h : ts[st.next]? with
  | none =>
    rw [h] at h1
    have : (0 : Int) = k := h1
    omega
  | some t => rfl
theorem pg_cl (ts : List TokP) : Cl ts (Pg ts) := by
  refine ⟨fun st k h e hk => ?_, fun st h => ⟨h.ex, h.gap⟩, fun st h => ⟨h.ex, Or.inr (Or.inr rfl)⟩, fun st st' h h1 h2 h3 _ _ _ => ⟨by rw [h1, h2]; exact h.ex, by rw [h1, h3]; exact h.gap⟩⟩
  obtain ⟨⟨l, hp, hm, hs, hh⟩, hg⟩ := h
  have hat := tok_at e hk
  have htk : ts.take (st.next + 1) = ts.take st.next ++ [tokR ts st] := by rw [List.take_add_one, hat]; rfl
  have hgap : ∀ g : Int, gapOk ((if g = 27 then gapN else gapS) : ByteArray).data.toList := fun g => by
    split
    · exact Or.inr rfl
    · exact Or.inl rfl
  have hlast : l ≠ [] → gapOk st.gap.data.toList := fun hne => by
    rcases hg with ⟨_, h0⟩ | hg
    · rw [h0] at hm
      exact absurd (List.map_eq_nil_iff.1 hm) hne
    · exact hg
  have key : ∀ x : Gp, x.2 = tokR ts st → (l ≠ [] → sepOk x) → (x.1 = [] ∨ gapOk x.1) → ∃ l2 : List Gp, rend l ++ (x.1 ++ (tokR ts st).text.data.toList) = rend l2 ∧ l2.map (·.2) = ts.take (st.next + 1) ∧ (∀ y ∈ l2.tail, sepOk y) ∧ (∀ y, l2.head? = some y → y.1 = [] ∨ gapOk y.1) := fun x hx hsx hx0 => by
    refine ⟨l ++ [x], by rw [rend_snoc, hx], by rw [List.map_append, hm, htk]; simp [hx], fun y hy => ?_, fun y hy => ?_⟩
    · cases l with
      | nil => simp at hy
      | cons a l =>
        simp only [List.cons_append, List.tail_cons, List.mem_append, List.mem_singleton] at hy
        rcases hy with hy | rfl
        · exact hs y hy
        · exact hsx (by simp)
    · cases l with
      | nil => simp at hy; rw [← hy]; exact hx0
      | cons a l => exact hh y (by simpa using hy)
  by_cases hq : (tokR ts st).kind = 27 ∨ (tokR ts st).kind = 28
  · obtain ⟨l2, k1, k2, k3, k4⟩ := key ([], tokR ts st) rfl (fun _ => Or.inr ⟨rfl, hq⟩) (Or.inl rfl)
    refine ⟨⟨l2, ?_, k2, k3, k4⟩, Or.inr (hgap _)⟩
    show (if (tokR ts st).kind = 27 ∨ (tokR ts st).kind = 28 then st.page ++ (tokR ts st).text.data.toList else _) = _
    rw [if_pos hq, hp, ← k1]; rfl
  · obtain ⟨l2, k1, k2, k3, k4⟩ := key (st.gap.data.toList, tokR ts st) rfl (fun hne => Or.inl (hlast hne)) (hg.elim (fun h => Or.inl h.1) Or.inr)
    refine ⟨⟨l2, ?_, k2, k3, k4⟩, Or.inr (hgap _)⟩
    show (if (tokR ts st).kind = 27 ∨ (tokR ts st).kind = 28 then st.page ++ (tokR ts st).text.data.toList else (st.page ++ st.gap.data.toList) ++ (tokR ts st).text.data.toList) = _
    rw [if_neg hq, hp, ← k1, List.append_assoc]
theorem pg0 (ts : List TokP) : Pg ts rs0 := ⟨⟨[], rfl, by simp [rs0], fun x hx => (by cases hx), fun x hx => (by cases hx)⟩, Or.inl ⟨rfl, rfl⟩⟩
/-- what a policy's reader has on its page, at the end -/
theorem policy_page {ts : List TokP} {n f : Nat} {stmt : RS → Option (RS × Option (Option StpM))} (h0 : ∀ I, Cl ts I → Keeps I stmt) {r : RS × List (Option StpM)} (h : policyW ts n f stmt rs0 = some r) : Pg ts r.1 :=
  (pg_cl ts).policyW n f (h0 _ (pg_cl ts)) _ _ (pg0 ts) h
/-- the printed text is read as the tokens that were taken, and the end -/
theorem page_lex {ts : List TokP} (hself : ∀ t ∈ ts, 2 ≤ t.kind → SelfT t) {st : RS} (hp : Pg ts st) (h2 : ∀ t ∈ ts.take st.next, 2 ≤ t.kind) :
    ∃ T, allP (bsA (st.page ++ st.gap.data.toList)) = T ∧ T.map (fun t => (t.kind, t.text, t.number, t.addr, t.len)) = (ts.take st.next).map (fun t => (t.kind, t.text, t.number, t.addr, t.len)) ++ [(1, ⟨#[]⟩, 0, 0, 0)] := by
  obtain ⟨⟨l, hpg, hm, hs, hh⟩, hg⟩ := hp
  have hg' : st.gap.data.toList = [] ∨ gapOk st.gap.data.toList := hg.imp (fun h => h.1) id
  have hl : ∀ x ∈ l, SelfT x.2 := fun x hx => by
    have hx2 : x.2 ∈ ts.take st.next := by rw [← hm]; exact List.mem_map.2 ⟨x, hx, rfl⟩
    exact hself _ (List.mem_of_mem_take hx2) (h2 _ hx2)
  refine ⟨_, rfl, ?_⟩
  rw [hpg]
  cases l with
  | nil =>
    have h := lex_rest hg' [] 0 (fun x hx => by cases hx)
    have e := lex_all (s := bsA (rend [] ++ st.gap.data.toList)) (by simpa using h)
    rw [e, rendT_map, ← hm]; rfl
  | cons x l =>
    have hx0 := hh x rfl
    have hs' : ∀ y ∈ l, SelfT y.2 ∧ sepOk y := fun y hy => ⟨hl y (List.mem_cons_of_mem _ hy), hs y hy⟩
    have h : Lex (rend (x :: l) ++ st.gap.data.toList) 0 (rendT 0 (x :: l) st.gap.data.toList.length) := by
      have e : rend (x :: l) ++ st.gap.data.toList = x.1 ++ (x.2.text.data.toList ++ (rend l ++ st.gap.data.toList)) := by simp [rend]
      rw [e]
      refine lex_blank hx0 ?_
      exact Lex.tok (t := { x.2 with at_ := 0 }) ((hl x List.mem_cons_self).lex _ (hd_of hs' hg')) (lex_rest hg' l _ hs')
    have e := lex_all (s := bsA (rend (x :: l) ++ st.gap.data.toList)) (by simpa using h)
    rw [e, rendT_map, ← hm, List.map_map]; rfl
end Go.Proofs.YtgdeeodifnegiaaGreatDoor

namespace Go.Proofs.YtgdeeodifnegiaaGreatDoor
open Go.RowKit

/-- alike, but for the faults' places -/
structure Sim (a b : RS) : Prop where
  next : b.next = a.next
  depth : b.depth = a.depth
  defs : b.defs = a.defs
  page : b.page = a.page
  gap : b.gap = a.gap
  syn : b.syn.isSome = a.syn.isSome
  nam : b.nam.isSome = a.nam.isSome
  num : b.num.isSome = a.num.isSome
/-- a reading that answers alike -/
def SimR {α : Type} (rd rd' : RS → Option (RS × α)) : Prop := ∀ a b, Sim a b → ∀ r, rd a = some r → ∃ r', rd' b = some r' ∧ Sim r.1 r'.1 ∧ r'.2 = r.2
section
variable {ts us : List TokP} (H : TsIs ts us)
include H
theorem tok_sim {a b : RS} (h : Sim a b) : (tokR us b).kind = (tokR ts a).kind ∧ (tokR us b).text = (tokR ts a).text ∧ (tokR us b).number = (tokR ts a).number ∧ (tokR us b).addr = (tokR ts a).addr ∧ (tokR us b).len = (tokR ts a).len := by
  have e := H a.next
  unfold tokR
  rw [h.next]
  unfold tAt at e
  simp only [Prod.mk.injEq] at e
  exact ⟨e.1.symm, e.2.1.symm, e.2.2.1.symm, e.2.2.2.1.symm, e.2.2.2.2.symm⟩
theorem kind_sim {a b : RS} (h : Sim a b) : kindR us b = kindR ts a := by
  unfold kindR
  rw [h.syn, (tok_sim H h).1]
omit H in
theorem fail_sim {a b : RS} (h : Sim a b) : Sim (failR ts a) (failR us b) :=
  ⟨h.next, h.depth, h.defs, h.page, h.gap, by show (tellR _ _).isSome = (tellR _ _).isSome; rw [tell_some, tell_some], h.nam, h.num⟩
theorem go_sim {a b : RS} (h : Sim a b) : Sim (goR ts a) (goR us b) := by
  obtain ⟨h1, h2, _⟩ := tok_sim H h
  refine ⟨by show b.next + 1 = a.next + 1; rw [h.next], h.depth, h.defs, ?_, ?_, h.syn, h.nam, h.num⟩
  · show (if (tokR us b).kind = 27 ∨ (tokR us b).kind = 28 then b.page ++ (tokR us b).text.data.toList else (b.page ++ b.gap.data.toList) ++ (tokR us b).text.data.toList) = (if (tokR ts a).kind = 27 ∨ (tokR ts a).kind = 28 then a.page ++ (tokR ts a).text.data.toList else (a.page ++ a.gap.data.toList) ++ (tokR ts a).text.data.toList)
    rw [h1, h2, h.page, h.gap]
  · show (if (tokR us b).kind = 27 then gapN else gapS) = (if (tokR ts a).kind = 27 then gapN else gapS)
    rw [h1]
theorem take_sim {a b : RS} (h : Sim a b) (k : Int) : Sim (takeR ts k a).1 (takeR us k b).1 ∧ (takeR us k b).2.text = (takeR ts k a).2.text ∧ (takeR us k b).2.number = (takeR ts k a).2.number ∧ (takeR us k b).2.addr = (takeR ts k a).2.addr ∧ (takeR us k b).2.len = (takeR ts k a).2.len := by
  unfold takeR
  rw [kind_sim H h]
  split
  · obtain ⟨_, h2, h3, h4, h5⟩ := tok_sim H h
    exact ⟨go_sim H h, h2, h3, h4, h5⟩
  · exact ⟨fail_sim h, rfl, rfl, rfl, rfl⟩
omit H in
theorem depth_sim {a b : RS} (h : Sim a b) {x y : Int} (e : y = x) : Sim { a with depth := x } { b with depth := y } := ⟨h.next, e, h.defs, h.page, h.gap, h.syn, h.nam, h.num⟩
theorem open_sim {a b : RS} (h : Sim a b) (k : Int) : Sim (openR ts k a) (openR us k b) := by
  have h1 : Sim (if a.depth = 8 then failR ts a else a) (if b.depth = 8 then failR us b else b) := by
    rw [h.depth]
    split
    · exact fail_sim h
    · exact h
  have h2 := (take_sim H h1 k).1
  exact depth_sim h2 (by rw [h2.depth])
omit H in
theorem dec_sim {a b : RS} (h : Sim a b) : Sim (decR a) (decR b) := depth_sim h (by rw [h.depth])
theorem shut_sim {a b : RS} (h : Sim a b) (k : Int) : Sim (shutR ts k a) (shutR us k b) := dec_sim (take_sim H h k).1
omit H in
theorem line_sim {a b : RS} (h : Sim a b) : Sim (endLineR a) (endLineR b) := ⟨h.next, h.depth, h.defs, h.page, rfl, h.syn, h.nam, h.num⟩
omit H in
theorem name_sim {a b : RS} (h : Sim a b) (x y : Int) : Sim (tellName a x) (tellName b y) := ⟨h.next, h.depth, h.defs, h.page, h.gap, h.syn, by show (tellR _ _).isSome = (tellR _ _).isSome; rw [tell_some, tell_some], h.num⟩
omit H in
theorem num_sim {a b : RS} (h : Sim a b) (x y : Int) : Sim (tellNum a x) (tellNum b y) := ⟨h.next, h.depth, h.defs, h.page, h.gap, h.syn, h.nam, by show (tellR _ _).isSome = (tellR _ _).isSome; rw [tell_some, tell_some]⟩
theorem within_sim {a b : RS} (h : Sim a b) (lo hi : Int) : Sim (withinR ts lo hi a).1 (withinR us lo hi b).1 ∧ (withinR us lo hi b).2 = (withinR ts lo hi a).2 := by
  obtain ⟨h1, _, h3, _⟩ := take_sim H h 2
  unfold withinR
  dsimp only
  rw [h3]
  refine ⟨?_, rfl⟩
  split
  · exact num_sim h1 _ _
  · exact h1
theorem newName_sim {a b : RS} (h : Sim a b) : Sim (newNameR ts a).1 (newNameR us b).1 ∧ (newNameR us b).2 = (newNameR ts a).2 := by
  obtain ⟨h1, h2, _⟩ := take_sim H h 4
  unfold newNameR
  dsimp only
  have hd : isDefR (takeR us 4 b).1 (takeR us 4 b).2.text = isDefR (takeR ts 4 a).1 (takeR ts 4 a).2.text := by unfold isDefR; rw [h1.defs, h2]
  rw [hd, h2]
  refine ⟨?_, rfl⟩
  split
  · exact name_sim h1 _ _
  · exact h1
theorem useSet_sim {a b : RS} (h : Sim a b) : Sim (useSetR ts a).1 (useSetR us b).1 ∧ (useSetR us b).2 = (useSetR ts a).2 := by
  obtain ⟨h1, h2, _⟩ := take_sim H h 4
  unfold useSetR
  dsimp only
  rw [h1.defs, h2]
  split
  · exact ⟨h1, rfl⟩
  · exact ⟨name_sim h1 _ _, rfl⟩
theorem useWay_sim {a b : RS} (h : Sim a b) : Sim (useWayR ts a).1 (useWayR us b).1 ∧ (useWayR us b).2 = (useWayR ts a).2 := by
  obtain ⟨h1, h2, _⟩ := take_sim H h 4
  unfold useWayR
  dsimp only
  rw [h1.defs, h2]
  split
  · exact ⟨h1, rfl⟩
  · exact ⟨name_sim h1 _ _, rfl⟩
/-! ## sums, conditions -/
theorem sumLp_sim {tm tm' : RS → Option (RS × Option AmtM)} (h0 : SimR tm tm') {j : Nat} : ∀ (n : Nat) (x : Option AmtM), SimR (fun st => sumLp ts tm n st x) (fun st => sumLp us tm' (j + n) st x)
  | 0, _ => fun a b _ r h => by cases h
  | n + 1, x => fun a b hs r h => by
    have h' : sumLp ts tm (n + 1) a x = some r := h
    show ∃ r', sumLp us tm' (j + n + 1) b x = some r' ∧ _
    rw [sumLp] at h' ⊢
    rw [kind_sim H hs]
    split at h'
    · rename_i e
      rw [if_pos e]
      cases hx : tm (goR ts a) with
      | none => rw [hx] at h'; cases h'
      | some q =>
        rw [hx] at h'
        obtain ⟨⟨s1, y1⟩, e1, g1, q1⟩ := h0 _ _ (go_sim H hs) _ hx
        obtain ⟨s2, y2⟩ := q
        dsimp only at h' q1 g1
        rw [e1]
        subst q1
        exact sumLp_sim h0 n _ _ _ g1 _ h'
    · rename_i e
      rw [if_neg e]
      split at h'
      · rename_i e2
        rw [if_pos e2]
        cases hx : tm (goR ts a) with
        | none => rw [hx] at h'; cases h'
        | some q =>
          rw [hx] at h'
          obtain ⟨⟨s1, y1⟩, e1, g1, q1⟩ := h0 _ _ (go_sim H hs) _ hx
          obtain ⟨s2, y2⟩ := q
          dsimp only at h' q1 g1
          rw [e1]
          subst q1
          exact sumLp_sim h0 n _ _ _ g1 _ h'
      · rename_i e2
        rw [if_neg e2]
        cases h'
        exact ⟨_, rfl, hs, rfl⟩
theorem sumBy_sim {tm tm' : RS → Option (RS × Option AmtM)} (h0 : SimR tm tm') {j : Nat} (n : Nat) : SimR (sumBy ts tm n) (sumBy us tm' (j + n)) := fun a b hs r h => by
  unfold sumBy at h ⊢
  cases hx : tm a with
  | none => rw [hx] at h; cases h
  | some q =>
    rw [hx] at h
    obtain ⟨⟨s1, y1⟩, e1, g1, q1⟩ := h0 _ _ hs _ hx
    obtain ⟨s2, y2⟩ := q
    dsimp only at h q1 g1
    rw [e1]
    subst q1
    exact sumLp_sim H h0 n _ _ _ g1 _ h
theorem term_sim {j g : Nat} (n : Nat) : ∀ f, SimR (termTw ts n f) (termTw us (j + n) (g + f))
  | 0 => fun a b _ r h => by cases h
  | f + 1 => fun a b hs r h => by
    show ∃ r', termTw us (j + n) (g + f + 1) b = some r' ∧ _
    rw [termTw] at h ⊢
    rw [kind_sim H hs]
    split at h
    · rename_i e
      rw [if_pos e]; cases h
      exact ⟨_, rfl, go_sim H hs, by dsimp only; rw [(tok_sim H hs).2.2.1]⟩
    · rename_i e
      rw [if_neg e]
      split at h
      · rename_i e
        rw [if_pos e]; cases h
        exact ⟨_, rfl, go_sim H hs, rfl⟩
      · rename_i e
        rw [if_neg e]
        split at h
        · rename_i e
          rw [if_pos e]; cases h
          exact ⟨_, rfl, go_sim H hs, rfl⟩
        · rename_i e
          rw [if_neg e]
          split at h
          · rename_i e
            rw [if_pos e]; cases h
            exact ⟨_, rfl, go_sim H hs, rfl⟩
          · rename_i e
            rw [if_neg e]
            split at h
            · rename_i e
              rw [if_pos e]
              cases hx : sumBy ts (termTw ts n f) n (openR ts 33 a) with
              | none => rw [hx] at h; cases h
              | some q =>
                rw [hx] at h
                obtain ⟨⟨s1, y1⟩, e1, g1, q1⟩ := sumBy_sim H (j := j) (term_sim (j := j) (g := g) n f) n _ _ (open_sim H hs 33) _ hx
                obtain ⟨s2, y2⟩ := q
                dsimp only at h q1 g1
                rw [e1]
                subst q1
                cases h
                exact ⟨_, rfl, shut_sim H g1 34, rfl⟩
            · rename_i e
              rw [if_neg e]; cases h
              exact ⟨_, rfl, fail_sim hs, rfl⟩
theorem sumTw_sim {j g : Nat} (n f : Nat) : SimR (sumTw ts n f) (sumTw us (j + n) (g + f)) := sumBy_sim H (term_sim H n f) n
theorem compare_sim {sm sm' : RS → Option (RS × Option AmtM)} (h0 : SimR sm sm') : SimR (compareBy ts sm) (compareBy us sm') := fun a b hs r h => by
  unfold compareBy at h ⊢
  cases hx : sm a with
  | none => rw [hx] at h; cases h
  | some q =>
    rw [hx] at h
    obtain ⟨⟨s1, y1⟩, e1, g1, q1⟩ := h0 _ _ hs _ hx
    obtain ⟨s2, y2⟩ := q
    dsimp only at h q1 g1
    rw [e1]
    subst q1
    dsimp only
    rw [kind_sim H g1]
    split at h
    · rename_i e
      rw [if_pos e]
      cases hy : sm (goR ts s2) with
      | none => rw [hy] at h; cases h
      | some q =>
        rw [hy] at h
        obtain ⟨⟨s3, y3⟩, e3, g3, q3⟩ := h0 _ _ (go_sim H g1) _ hy
        obtain ⟨s4, y4⟩ := q
        dsimp only at h q3 g3
        rw [e3]
        subst q3
        cases h
        exact ⟨_, rfl, g3, rfl⟩
    · rename_i e
      rw [if_neg e]
      cases hy : sm (takeR ts 26 s2).1 with
      | none => rw [hy] at h; cases h
      | some q =>
        rw [hy] at h
        obtain ⟨⟨s3, y3⟩, e3, g3, q3⟩ := h0 _ _ (take_sim H g1 26).1 _ hy
        obtain ⟨s4, y4⟩ := q
        dsimp only at h q3 g3
        rw [e3]
        subst q3
        cases h
        exact ⟨_, rfl, g3, rfl⟩
theorem binLp_sim {q : Int} {m : CndM → CndM → CndM} {rd rd' : RS → Option (RS × Option CndM)} (h0 : SimR rd rd') {j : Nat} : ∀ (n : Nat) (x : Option CndM), SimR (fun st => binLp ts q m rd n st x) (fun st => binLp us q m rd' (j + n) st x)
  | 0, _ => fun a b _ r h => by cases h
  | n + 1, x => fun a b hs r h => by
    have h' : binLp ts q m rd (n + 1) a x = some r := h
    show ∃ r', binLp us q m rd' (j + n + 1) b x = some r' ∧ _
    rw [binLp] at h' ⊢
    rw [kind_sim H hs]
    split at h'
    · rename_i e
      rw [if_pos e]
      cases hx : rd (goR ts a) with
      | none => rw [hx] at h'; cases h'
      | some p =>
        rw [hx] at h'
        obtain ⟨⟨s1, y1⟩, e1, g1, q1⟩ := h0 _ _ (go_sim H hs) _ hx
        obtain ⟨s2, y2⟩ := p
        dsimp only at h' q1 g1
        rw [e1]
        subst q1
        exact binLp_sim h0 n _ _ _ g1 _ h'
    · rename_i e
      rw [if_neg e]
      cases h'
      exact ⟨_, rfl, hs, rfl⟩
theorem binBy_sim {q : Int} {m : CndM → CndM → CndM} {rd rd' : RS → Option (RS × Option CndM)} (h0 : SimR rd rd') {j : Nat} (n : Nat) : SimR (binBy ts q m rd n) (binBy us q m rd' (j + n)) := fun a b hs r h => by
  unfold binBy at h ⊢
  cases hx : rd a with
  | none => rw [hx] at h; cases h
  | some p =>
    rw [hx] at h
    obtain ⟨⟨s1, y1⟩, e1, g1, q1⟩ := h0 _ _ hs _ hx
    obtain ⟨s2, y2⟩ := p
    dsimp only at h q1 g1
    rw [e1]
    subst q1
    exact binLp_sim H h0 n _ _ _ g1 _ h
theorem cond_sim {nt nt' : RS → Option (RS × Option CndM)} (h0 : SimR nt nt') {j : Nat} (n : Nat) : SimR (condBy ts nt n) (condBy us nt' (j + n)) := binBy_sim H (binBy_sim H h0 n) n
theorem not_sim {sm sm' : RS → Option (RS × Option AmtM)} (h0 : SimR sm sm') {j g : Nat} (n : Nat) : ∀ f, SimR (notTw ts n sm f) (notTw us (j + n) sm' (g + f))
  | 0 => fun a b _ r h => by cases h
  | f + 1 => fun a b hs r h => by
    show ∃ r', notTw us (j + n) sm' (g + f + 1) b = some r' ∧ _
    rw [notTw] at h ⊢
    rw [kind_sim H hs]
    split at h
    · rename_i e
      rw [if_pos e]
      cases hx : notTw ts n sm f (openR ts 20 a) with
      | none => rw [hx] at h; cases h
      | some q =>
        rw [hx] at h
        obtain ⟨⟨s1, y1⟩, e1, g1, q1⟩ := not_sim h0 (j := j) (g := g) n f _ _ (open_sim H hs 20) _ hx
        obtain ⟨s2, y2⟩ := q
        dsimp only at h q1 g1
        rw [e1]
        subst q1
        cases h
        exact ⟨_, rfl, dec_sim g1, rfl⟩
    · rename_i e
      rw [if_neg e]
      split at h
      · rename_i e
        rw [if_pos e]; cases h
        have hu := useSet_sim H (take_sim H (go_sim H hs) 22).1
        exact ⟨_, rfl, hu.1, by dsimp only; rw [hu.2]⟩
      · rename_i e
        rw [if_neg e]
        split at h
        · rename_i e
          rw [if_pos e]; cases h
          have hu := useWay_sim H (take_sim H (go_sim H hs) 24).1
          exact ⟨_, rfl, hu.1, by dsimp only; rw [hu.2]⟩
        · rename_i e
          rw [if_neg e]
          split at h
          · rename_i e
            rw [if_pos e]; cases h
            have hu := within_sim H (go_sim H hs) 0 65535
            exact ⟨_, rfl, hu.1, by dsimp only; rw [hu.2]⟩
          · rename_i e
            rw [if_neg e]
            split at h
            · rename_i e
              rw [if_pos e]
              cases hx : condBy ts (notTw ts n sm f) n (openR ts 31 a) with
              | none => rw [hx] at h; cases h
              | some q =>
                rw [hx] at h
                obtain ⟨⟨s1, y1⟩, e1, g1, q1⟩ := cond_sim H (j := j) (not_sim h0 (j := j) (g := g) n f) n _ _ (open_sim H hs 31) _ hx
                obtain ⟨s2, y2⟩ := q
                dsimp only at h q1 g1
                rw [e1]
                subst q1
                cases h
                exact ⟨_, rfl, shut_sim H g1 32, rfl⟩
            · rename_i e
              rw [if_neg e]
              exact compare_sim H h0 _ _ hs _ h
end
end Go.Proofs.YtgdeeodifnegiaaGreatDoor

namespace Go.Proofs.YtgdeeodifnegiaaGreatDoor
open Go.RowKit

section
variable {ts us : List TokP} (H : TsIs ts us)
include H
theorem repLp_sim {j : Nat} : ∀ (n : Nat) (z m : Bool), SimR (fun st => repLp ts n st z m) (fun st => repLp us (j + n) st z m)
  | 0, _, _ => fun a b _ r h => by cases h
  | n + 1, z, m => fun a b hs r h => by
    have h' : repLp ts (n + 1) a z m = some r := h
    show ∃ r', repLp us (j + n + 1) b z m = some r' ∧ _
    rw [repLp] at h' ⊢
    rw [kind_sim H hs]
    split at h'
    · rename_i e; rw [if_pos e]; exact repLp_sim n _ _ _ _ (go_sim H hs) _ h'
    · rename_i e
      rw [if_neg e]
      split at h'
      · rename_i e; rw [if_pos e]; exact repLp_sim n _ _ _ _ (go_sim H hs) _ h'
      · rename_i e
        rw [if_neg e]
        split at h'
        · rename_i e; rw [if_pos e]; exact repLp_sim n _ _ _ _ (go_sim H hs) _ h'
        · rename_i e
          rw [if_neg e]
          cases h'
          exact ⟨_, rfl, hs, rfl⟩
theorem someR_sim {j : Nat} (n : Nat) (A : WayM) : SimR (fun st => someR (repeatsR ts n A st)) (fun st => someR (repeatsR us (j + n) A st)) := fun a b hs r h => by
  have h' : someR (repeatsR ts n A a) = some r := h
  show ∃ r', someR (repeatsR us (j + n) A b) = some r' ∧ _
  unfold repeatsR at h' ⊢
  cases hx : repLp ts n a false false with
  | none => rw [hx] at h'; cases h'
  | some q =>
    rw [hx] at h'
    obtain ⟨⟨s1, y1⟩, e1, g1, q1⟩ := repLp_sim H (j := j) n false false _ _ hs _ hx
    have e1' : repLp us (j + n) b false false = some (s1, y1) := e1
    obtain ⟨s2, y2⟩ := q
    dsimp only at h' q1 g1
    rw [e1']
    subst q1
    cases h'
    exact ⟨_, rfl, g1, rfl⟩
omit H in
theorem more_sim {α : Type} {rd rd' : RS → Option (RS × Option α)} (h0 : SimR rd rd') {j : Nat} : ∀ (n : Nat) (l : List α), SimR (fun st => moreLp rd n st l) (fun st => moreLp rd' (j + n) st l)
  | 0, _ => fun a b _ r h => by cases h
  | n + 1, l => fun a b hs r h => by
    have h' : moreLp rd (n + 1) a l = some r := h
    show ∃ r', moreLp rd' (j + n + 1) b l = some r' ∧ _
    rw [moreLp] at h' ⊢
    cases hx : rd a with
    | none => rw [hx] at h'; cases h'
    | some q =>
      rw [hx] at h'
      obtain ⟨⟨s1, y1⟩, e1, g1, q1⟩ := h0 _ _ hs _ hx
      obtain ⟨s2, y2⟩ := q
      dsimp only at q1 g1
      rw [e1]
      subst q1
      cases y1 with
      | none => cases h'; exact ⟨_, rfl, g1, rfl⟩
      | some x => exact more_sim h0 n _ _ _ g1 _ h'
theorem altLp_sim {rd rd' : RS → Option (RS × WayM)} (h0 : SimR rd rd') {j : Nat} : ∀ (n : Nat) (l : List WayM), SimR (fun st => altLp ts rd n st l) (fun st => altLp us rd' (j + n) st l)
  | 0, _ => fun a b _ r h => by cases h
  | n + 1, l => fun a b hs r h => by
    have h' : altLp ts rd (n + 1) a l = some r := h
    show ∃ r', altLp us rd' (j + n + 1) b l = some r' ∧ _
    rw [altLp] at h' ⊢
    rw [kind_sim H hs]
    split at h'
    · rename_i e
      rw [if_pos e]
      cases hx : rd (goR ts a) with
      | none => rw [hx] at h'; cases h'
      | some q =>
        rw [hx] at h'
        obtain ⟨⟨s1, y1⟩, e1, g1, q1⟩ := h0 _ _ (go_sim H hs) _ hx
        obtain ⟨s2, y2⟩ := q
        dsimp only at h' q1 g1
        rw [e1]
        subst q1
        exact altLp_sim h0 n _ _ _ g1 _ h'
    · rename_i e
      rw [if_neg e]
      cases h'
      exact ⟨_, rfl, hs, rfl⟩
theorem item_sim {j : Nat} (n : Nat) {ei ei' : RS → Option (RS × WayM)} (h0 : SimR ei ei') : SimR (itemBy ts n ei) (itemBy us (j + n) ei') := fun a b hs r h => by
  unfold itemBy at h ⊢
  rw [kind_sim H hs]
  split at h
  · rename_i e
    rw [if_pos e]
    have hw := within_sim H hs 1 65535
    rw [hw.2]
    exact someR_sim H n _ _ _ hw.1 _ h
  · rename_i e
    rw [if_neg e]
    split at h
    · rename_i e; rw [if_pos e]; exact someR_sim H n _ _ _ (go_sim H hs) _ h
    · rename_i e
      rw [if_neg e]
      split at h
      · rename_i e
        rw [if_pos e]
        cases hx : ei (openR ts 33 a) with
        | none => rw [hx] at h; cases h
        | some q =>
          rw [hx] at h
          obtain ⟨⟨s1, y1⟩, e1, g1, q1⟩ := h0 _ _ (open_sim H hs 33) _ hx
          obtain ⟨s2, y2⟩ := q
          dsimp only at h q1 g1
          rw [e1]
          subst q1
          exact someR_sim H n _ _ _ (shut_sim H g1 34) _ h
      · rename_i e
        rw [if_neg e]
        cases h
        exact ⟨_, rfl, hs, rfl⟩
omit H in
theorem row_sim {j : Nat} (n : Nat) {it it' : RS → Option (RS × Option WayM)} (h0 : SimR it it') : SimR (rowBy ts n it) (rowBy us (j + n) it') := fun a b hs r h => by
  unfold rowBy at h ⊢
  cases hx : moreLp it n a [] with
  | none => rw [hx] at h; cases h
  | some q =>
    rw [hx] at h
    obtain ⟨⟨s1, y1⟩, e1, g1, q1⟩ := more_sim h0 (j := j) n [] _ _ hs _ hx
    have e1' : moreLp it' (j + n) b [] = some (s1, y1) := e1
    obtain ⟨s2, y2⟩ := q
    dsimp only at h q1 g1
    rw [e1']
    subst q1
    cases h
    refine ⟨_, rfl, ?_, rfl⟩
    dsimp only
    split
    · exact fail_sim g1
    · exact g1
theorem eith_sim {j g : Nat} (n : Nat) : ∀ f, SimR (eithTw ts n f) (eithTw us (j + n) (g + f))
  | 0 => fun a b _ r h => by cases h
  | f + 1 => fun a b hs r h => by
    have hrw := row_sim (ts := ts) (us := us) (j := j) n (item_sim H (j := j) n (eith_sim (j := j) (g := g) n f))
    show ∃ r', eithTw us (j + n) (g + f + 1) b = some r' ∧ _
    rw [eithTw] at h ⊢
    unfold eithBy at h ⊢
    cases hx : rowBy ts n (itemBy ts n (eithTw ts n f)) a with
    | none => rw [hx] at h; cases h
    | some q =>
      rw [hx] at h
      obtain ⟨⟨s1, y1⟩, e1, g1, q1⟩ := hrw _ _ hs _ hx
      obtain ⟨s2, y2⟩ := q
      dsimp only at h q1 g1
      rw [e1]
      subst q1
      dsimp only
      cases hy : altLp ts (rowBy ts n (itemBy ts n (eithTw ts n f))) n s2 [y1] with
      | none => rw [hy] at h; cases h
      | some q =>
        rw [hy] at h
        obtain ⟨⟨s3, y3⟩, e3, g3, q3⟩ := altLp_sim H hrw (j := j) n [y1] _ _ g1 _ hy
        have e3' : altLp us (rowBy us (j + n) (itemBy us (j + n) (eithTw us (j + n) (g + f)))) (j + n) s1 [y1] = some (s3, y3) := e3
        obtain ⟨s4, y4⟩ := q
        dsimp only at h q3 g3
        rw [e3']
        subst q3
        cases h
        exact ⟨_, rfl, g3, rfl⟩
theorem oneRange_sim {a b : RS} (hs : Sim a b) : Sim (oneRangeR ts a).1 (oneRangeR us b).1 ∧ (oneRangeR us b).2 = (oneRangeR ts a).2 := by
  obtain ⟨h1, _, _, h4, h5⟩ := take_sim H hs 3
  have w1 := within_sim H h1 (takeR ts 3 a).2.len 32
  have w2 := within_sim H w1.1 (withinR ts (takeR ts 3 a).2.len 32 (takeR ts 3 a).1).2 32
  unfold oneRangeR
  rw [kind_sim H h1, h4, h5]
  split
  · refine ⟨?_, ?_⟩
    · dsimp only; rw [w1.2]; exact w2.1
    · dsimp only; rw [w1.2, w2.2]
  · exact ⟨h1, rfl⟩
theorem rangesLp_sim {j : Nat} : ∀ (n : Nat) (l : List SetM), SimR (fun st => rangesLp ts n st l) (fun st => rangesLp us (j + n) st l)
  | 0, _ => fun a b _ r h => by cases h
  | n + 1, l => fun a b hs r h => by
    have h' : rangesLp ts (n + 1) a l = some r := h
    show ∃ r', rangesLp us (j + n + 1) b l = some r' ∧ _
    rw [rangesLp] at h' ⊢
    rw [kind_sim H hs]
    split at h'
    · rename_i e
      rw [if_pos e]
      have ho := oneRange_sim H (go_sim H hs)
      rw [ho.2]
      exact rangesLp_sim n _ _ _ ho.1 _ h'
    · rename_i e
      rw [if_neg e]
      cases h'
      exact ⟨_, rfl, hs, rfl⟩
theorem ranges_sim {j : Nat} (n : Nat) : SimR (rangesR ts n) (rangesR us (j + n)) := fun a b hs r h => by
  have ho := oneRange_sim H (take_sim H hs 29).1
  unfold rangesR at h ⊢
  rw [ho.2]
  cases hx : rangesLp ts n (oneRangeR ts (takeR ts 29 a).1).1 [(oneRangeR ts (takeR ts 29 a).1).2] with
  | none => rw [hx] at h; cases h
  | some q =>
    rw [hx] at h
    obtain ⟨⟨s1, y1⟩, e1, g1, q1⟩ := rangesLp_sim H (j := j) n _ _ _ ho.1 _ hx
    have e1' : rangesLp us (j + n) (oneRangeR us (takeR us 29 b).1).1 [(oneRangeR ts (takeR ts 29 a).1).2] = some (s1, y1) := e1
    obtain ⟨s2, y2⟩ := q
    dsimp only at h q1 g1
    rw [e1']
    subst q1
    cases h
    exact ⟨_, rfl, (take_sim H g1 30).1, rfl⟩
omit H in
theorem addDef_sim {a b : RS} (h : Sim a b) (d : DefP) : Sim (addDefR a d) (addDefR b d) := ⟨h.next, h.depth, by show b.defs ++ [d] = a.defs ++ [d]; rw [h.defs], h.page, h.gap, h.syn, h.nam, h.num⟩
theorem def_sim {j g : Nat} (n f : Nat) : SimR (defW ts n f) (defW us (j + n) (g + f)) := fun a b hs r h => by
  have hn := newName_sim H (go_sim H hs)
  unfold defW defR at h ⊢
  rw [kind_sim H hs, hn.2]
  split at h
  · rename_i e
    rw [if_pos e]
    cases hx : eithTw ts n f (takeR ts 26 (newNameR ts (goR ts a)).1).1 with
    | none => rw [hx] at h; cases h
    | some q =>
      rw [hx] at h
      obtain ⟨⟨s1, y1⟩, e1, g1, q1⟩ := eith_sim H (j := j) (g := g) n f _ _ (take_sim H hn.1 26).1 _ hx
      obtain ⟨s2, y2⟩ := q
      dsimp only at h q1 g1
      rw [e1]
      subst q1
      cases h
      exact ⟨_, rfl, addDef_sim (take_sim H g1 27).1 _, rfl⟩
  · rename_i e
    rw [if_neg e]
    split at h
    · rename_i e5
      rw [if_pos e5]
      cases hx : rangesR ts n (takeR ts 26 (newNameR ts (goR ts a)).1).1 with
      | none => rw [hx] at h; cases h
      | some q =>
        rw [hx] at h
        obtain ⟨⟨s1, y1⟩, e1, g1, q1⟩ := ranges_sim H (j := j) n _ _ (take_sim H hn.1 26).1 _ hx
        obtain ⟨s2, y2⟩ := q
        dsimp only at h q1 g1
        rw [e1]
        subst q1
        cases h
        exact ⟨_, rfl, addDef_sim (take_sim H g1 27).1 _, rfl⟩
    · rename_i e5
      rw [if_neg e5]
      rw [if_neg e] at *
      cases h
      exact ⟨_, rfl, hs, rfl⟩
theorem defs_sim {j g : Nat} (n f : Nat) : ∀ (k : Nat) (a b s : RS), Sim a b → defsW ts n f k a = some s → ∃ s', defsW us (j + n) (g + f) k b = some s' ∧ Sim s s'
  | 0, a, b, s, hs, h => by cases h; exact ⟨b, rfl, hs⟩
  | k + 1, a, b, s, hs, h => by
    rw [defsW] at h ⊢
    cases hx : defW ts n f a with
    | none => rw [hx] at h; cases h
    | some q =>
      rw [hx] at h
      obtain ⟨⟨s1, y1⟩, e1, g1, q1⟩ := def_sim H (j := j) (g := g) n f _ _ hs _ hx
      obtain ⟨s2, y2⟩ := q
      dsimp only at q1 g1
      rw [e1]
      subst q1
      cases y1 with
      | true => exact defs_sim n f k _ _ _ g1 h
      | false => cases h; exact ⟨_, rfl, g1⟩
theorem block_sim {rd rd' : RS → Option (RS × Option (Option StpM))} (h0 : SimR rd rd') {j : Nat} (n : Nat) : SimR (blockBy ts rd n) (blockBy us rd' (j + n)) := fun a b hs r h => by
  unfold blockBy at h ⊢
  cases hx : moreLp rd n (endLineR (openR ts 29 a)) [] with
  | none => rw [hx] at h; cases h
  | some q =>
    rw [hx] at h
    obtain ⟨⟨s1, y1⟩, e1, g1, q1⟩ := more_sim h0 (j := j) n [] _ _ (line_sim (open_sim H hs 29)) _ hx
    have e1' : moreLp rd' (j + n) (endLineR (openR us 29 b)) [] = some (s1, y1) := e1
    obtain ⟨s2, y2⟩ := q
    dsimp only at h q1 g1
    rw [e1']
    subst q1
    cases h
    exact ⟨_, rfl, line_sim (shut_sim H g1 30), rfl⟩
theorem end_sim {a b : RS} (h : Sim a b) : Sim (endR ts a) (endR us b) := (take_sim H h 27).1
theorem stmt_sim {j g : Nat} (n : Nat) (ok : Int → Bool) {sm sm' : RS → Option (RS × Option AmtM)} (hsm : SimR sm sm') {cd cd' : RS → Option (RS × Option CndM)} (hcd : SimR cd cd') : ∀ f, SimR (stmtTw ts n ok sm cd f) (stmtTw us (j + n) ok sm' cd' (g + f))
  | 0 => fun a b _ r h => by cases h
  | f + 1 => fun a b hs r h => by
    have IH := stmt_sim (j := j) (g := g) n ok hsm hcd f
    show ∃ r', stmtTw us (j + n) ok sm' cd' (g + f + 1) b = some r' ∧ _
    rw [stmtTw] at h ⊢
    rw [kind_sim H hs]
    split at h
    · cases h
    · rename_i e
      rw [if_neg e]
      split at h
      · rename_i e
        rw [if_pos e]
        cases hx : cd (goR ts a) with
        | none => rw [hx] at h; cases h
        | some q =>
          rw [hx] at h
          obtain ⟨⟨s1, y1⟩, e1, g1, q1⟩ := hcd _ _ (go_sim H hs) _ hx
          obtain ⟨s2, y2⟩ := q
          dsimp only at h q1 g1
          rw [e1]
          subst q1
          dsimp only
          cases hy : blockBy ts (stmtTw ts n ok sm cd f) n (takeR ts 15 s2).1 with
          | none => rw [hy] at h; cases h
          | some q =>
            rw [hy] at h
            obtain ⟨⟨s3, y3⟩, e3, g3, q3⟩ := block_sim H IH (j := j) n _ _ (take_sim H g1 15).1 _ hy
            obtain ⟨s4, y4⟩ := q
            dsimp only at h q3 g3
            rw [e3]
            subst q3
            dsimp only
            rw [kind_sim H g3]
            split at h
            · rename_i e2
              rw [if_pos e2]
              cases hz : blockBy ts (stmtTw ts n ok sm cd f) n (goR ts s4) with
              | none => rw [hz] at h; cases h
              | some q =>
                rw [hz] at h
                obtain ⟨⟨s5, y5⟩, e5, g5, q5⟩ := block_sim H IH (j := j) n _ _ (go_sim H g3) _ hz
                obtain ⟨s6, y6⟩ := q
                dsimp only at h q5 g5
                rw [e5]
                subst q5
                cases h
                exact ⟨_, rfl, g5, rfl⟩
            · rename_i e2
              rw [if_neg e2]
              cases h
              exact ⟨_, rfl, g3, rfl⟩
      · rename_i e
        rw [if_neg e]
        split at h
        · rename_i e; rw [if_pos e]; cases h; exact ⟨_, rfl, end_sim H (go_sim H hs), rfl⟩
        · rename_i e
          rw [if_neg e]
          split at h
          · rename_i e; rw [if_pos e]; cases h; exact ⟨_, rfl, end_sim H (go_sim H hs), rfl⟩
          · rename_i e
            rw [if_neg e]
            split at h
            · rename_i e
              rw [if_pos e]
              cases hx : sm (takeR ts 26 (goR ts a)).1 with
              | none => rw [hx] at h; cases h
              | some q =>
                rw [hx] at h
                obtain ⟨⟨s1, y1⟩, e1, g1, q1⟩ := hsm _ _ (take_sim H (go_sim H hs) 26).1 _ hx
                obtain ⟨s2, y2⟩ := q
                dsimp only at h q1 g1
                rw [e1]
                subst q1
                cases h
                exact ⟨_, rfl, end_sim H g1, rfl⟩
            · rename_i e
              rw [if_neg e]
              split at h
              · rename_i e
                rw [if_pos e]
                cases hx : sm (takeR ts 26 (goR ts a)).1 with
                | none => rw [hx] at h; cases h
                | some q =>
                  rw [hx] at h
                  obtain ⟨⟨s1, y1⟩, e1, g1, q1⟩ := hsm _ _ (take_sim H (go_sim H hs) 26).1 _ hx
                  obtain ⟨s2, y2⟩ := q
                  dsimp only at h q1 g1
                  rw [e1]
                  subst q1
                  cases h
                  exact ⟨_, rfl, end_sim H g1, rfl⟩
              · rename_i e
                rw [if_neg e]
                split at h
                · rename_i e
                  rw [if_pos e]; cases h
                  have hw := within_sim H (go_sim H hs) 0 65535
                  exact ⟨_, rfl, end_sim H hw.1, by dsimp only; rw [hw.2]⟩
                · rename_i e
                  rw [if_neg e]
                  split at h
                  · rename_i e
                    rw [if_pos e]; cases h
                    have hw := within_sim H (go_sim H hs) 0 65535
                    exact ⟨_, rfl, end_sim H hw.1, by dsimp only; rw [hw.2]⟩
                  · rename_i e
                    rw [if_neg e]
                    split at h
                    · rename_i e
                      rw [if_pos e]; cases h
                      have hw := within_sim H (go_sim H hs) 1 65535
                      exact ⟨_, rfl, end_sim H hw.1, by dsimp only; rw [hw.2]⟩
                    · rename_i e
                      rw [if_neg e]
                      cases h
                      exact ⟨_, rfl, hs, rfl⟩
theorem policy_sim {j g : Nat} (n f : Nat) {st st' : RS → Option (RS × Option (Option StpM))} (h0 : SimR st st') : SimR (policyW ts n f st) (policyW us (j + n) (g + f) st') := fun a b hs r h => by
  unfold policyW at h ⊢
  cases hx : defsW ts n f 8 a with
  | none => rw [hx] at h; cases h
  | some s =>
    rw [hx] at h
    obtain ⟨s', e', g'⟩ := defs_sim H (j := j) (g := g) n f 8 _ _ _ hs hx
    rw [e']
    dsimp only at h ⊢
    unfold policyTw at h ⊢
    cases hy : moreLp st n s [] with
    | none => rw [hy] at h; cases h
    | some q =>
      rw [hy] at h
      obtain ⟨⟨s1, y1⟩, e1, g1, q1⟩ := more_sim h0 (j := j) n [] _ _ g' _ hy
      have e1' : moreLp st' (j + n) s' [] = some (s1, y1) := e1
      obtain ⟨s2, y2⟩ := q
      dsimp only at h q1 g1
      rw [e1']
      subst q1
      cases h
      refine ⟨_, rfl, ?_, rfl⟩
      dsimp only
      have h3 : Sim (if y1.length = 0 then failR ts s2 else s2) (if y1.length = 0 then failR us s1 else s1) := by
        split
        · exact fail_sim g1
        · exact g1
      generalize (if y1.length = 0 then failR ts s2 else s2) = p1 at *
      generalize (if y1.length = 0 then failR us s1 else s1) = p2 at *
      rw [kind_sim H h3]
      split
      · exact h3
      · exact fail_sim h3
end
end Go.Proofs.YtgdeeodifnegiaaGreatDoor

namespace Go.Proofs.YtgdeeodifnegiaaGreatDoor
open Go.RowKit

/-- how many tokens are left; none behind a fault of syntax -/
def lft (ts : List TokP) (st : RS) : Nat := if st.syn.isSome then 0 else ts.length - st.next
def Tot {α : Type} (ts : List TokP) (N : Nat) (rd : RS → Option (RS × α)) : Prop := ∀ st, lft ts st < N → ∃ r, rd st = some r ∧ lft ts r.1 ≤ lft ts st
section
variable {ts : List TokP}
theorem go_lft {st : RS} {k : Int} (e : kindR ts st = k) (hk : 2 ≤ k) : lft ts (goR ts st) + 1 = lft ts st := by
  have hat := tok_at e hk
  obtain ⟨_, hs⟩ := kindR_tok e hk
  have hlt : st.next < ts.length := (List.getElem?_eq_some_iff.1 hat).1
  have h1 : lft ts (goR ts st) = ts.length - (st.next + 1) := by
    unfold lft
    rw [show (goR ts st).syn = st.syn from rfl, hs]; rfl
  have h2 : lft ts st = ts.length - st.next := by
    unfold lft; rw [hs]; rfl
  omega
theorem fail_lft (st : RS) : lft ts (failR ts st) = 0 := by
  unfold lft
  rw [show (failR ts st).syn = tellR st.syn _ from rfl, if_pos (tell_some _ _)]
theorem take_lft (st : RS) {k : Int} (hk : 2 ≤ k) : lft ts (takeR ts k st).1 ≤ lft ts st - 1 := by
  unfold takeR
  split
  · rename_i e
    have := go_lft e hk
    dsimp only; omega
  · dsimp only; rw [fail_lft]; omega
theorem open_lft (st : RS) {k : Int} (hk : 2 ≤ k) : lft ts (openR ts k st) ≤ lft ts st - 1 := by
  show lft ts (takeR ts k (if st.depth = 8 then failR ts st else st)).1 ≤ _
  split
  · have := take_lft (ts := ts) (failR ts st) hk
    rw [fail_lft] at this
    omega
  · exact take_lft st hk
theorem shut_lft (st : RS) {k : Int} (hk : 2 ≤ k) : lft ts (shutR ts k st) ≤ lft ts st - 1 := take_lft st hk
theorem within_lft (st : RS) (a b : Int) : lft ts (withinR ts a b st).1 ≤ lft ts st - 1 := by
  have := take_lft (ts := ts) st (k := 2) (by decide)
  unfold withinR
  dsimp only
  split
  · exact this
  · exact this
theorem useSet_lft (st : RS) : lft ts (useSetR ts st).1 ≤ lft ts st - 1 := by
  have := take_lft (ts := ts) st (k := 4) (by decide)
  unfold useSetR
  dsimp only
  split
  · exact this
  · exact this
theorem useWay_lft (st : RS) : lft ts (useWayR ts st).1 ≤ lft ts st - 1 := by
  have := take_lft (ts := ts) st (k := 4) (by decide)
  unfold useWayR
  dsimp only
  split
  · exact this
  · exact this
theorem sumLp_tot {tm : RS → Option (RS × Option AmtM)} {N : Nat} (h0 : Tot ts N tm) : ∀ (n : Nat) (st : RS) (x : Option AmtM), lft ts st < n → lft ts st < N → ∃ r, sumLp ts tm n st x = some r ∧ lft ts r.1 ≤ lft ts st
  | 0, _, _, h, _ => by omega
  | n + 1, st, x, h1, h2 => by
    rw [sumLp]
    split
    · rename_i e
      have hg := go_lft e (by decide)
      obtain ⟨⟨s, y⟩, e1, l1⟩ := h0 (goR ts st) (by omega)
      dsimp only at l1
      rw [e1]
      obtain ⟨r, e2, l2⟩ := sumLp_tot h0 n s (plusO x y 1) (by omega) (by omega)
      exact ⟨r, e2, by omega⟩
    · split
      · rename_i e
        have hg := go_lft e (by decide)
        obtain ⟨⟨s, y⟩, e1, l1⟩ := h0 (goR ts st) (by omega)
        dsimp only at l1
        rw [e1]
        obtain ⟨r, e2, l2⟩ := sumLp_tot h0 n s (plusO x y (-1)) (by omega) (by omega)
        exact ⟨r, e2, by omega⟩
      · exact ⟨_, rfl, Nat.le_refl _⟩
theorem sumBy_tot {tm : RS → Option (RS × Option AmtM)} {N n : Nat} (h0 : Tot ts N tm) (hn : N ≤ n) : Tot ts N (sumBy ts tm n) := fun st h => by
  obtain ⟨⟨s, y⟩, e1, l1⟩ := h0 st h
  dsimp only at l1
  unfold sumBy
  rw [e1]
  obtain ⟨r, e2, l2⟩ := sumLp_tot h0 n s y (by omega) (by omega)
  exact ⟨r, e2, by omega⟩
theorem term_tot (n : Nat) : ∀ f, f ≤ n → Tot ts f (termTw ts n f)
  | 0, _ => fun st h => by omega
  | f + 1, hf => fun st h => by
    rw [termTw]
    split
    · rename_i e; have := go_lft e (by decide); exact ⟨_, rfl, by dsimp only; omega⟩
    · split
      · rename_i e; have := go_lft e (by decide); exact ⟨_, rfl, by dsimp only; omega⟩
      · split
        · rename_i e; have := go_lft e (by decide); exact ⟨_, rfl, by dsimp only; omega⟩
        · split
          · rename_i e; have := go_lft e (by decide); exact ⟨_, rfl, by dsimp only; omega⟩
          · split
            · rename_i e
              have hg := go_lft e (by decide)
              have ho := open_lft (ts := ts) st (k := 33) (by decide)
              obtain ⟨⟨s, y⟩, e1, l1⟩ := sumBy_tot (term_tot n f (by omega)) (n := n) (by omega) (openR ts 33 st) (by omega)
              dsimp only at l1
              rw [e1]
              have hs := shut_lft (ts := ts) s (k := 34) (by decide)
              exact ⟨_, rfl, by dsimp only; omega⟩
            · exact ⟨_, rfl, by dsimp only; rw [fail_lft]; omega⟩
theorem sumTw_tot {n f : Nat} (h : f ≤ n) : Tot ts f (sumTw ts n f) := sumBy_tot (term_tot n f h) h
theorem compare_tot {sm : RS → Option (RS × Option AmtM)} {N : Nat} (h0 : Tot ts N sm) : Tot ts N (compareBy ts sm) := fun st h => by
  obtain ⟨⟨s, y⟩, e1, l1⟩ := h0 st h
  dsimp only at l1
  unfold compareBy
  rw [e1]
  dsimp only
  split
  · rename_i e
    have hg := go_lft e (by decide)
    obtain ⟨⟨s2, y2⟩, e2, l2⟩ := h0 (goR ts s) (by omega)
    dsimp only at l2
    rw [e2]
    exact ⟨_, rfl, by dsimp only; omega⟩
  · have hg := take_lft (ts := ts) s (k := 26) (by decide)
    obtain ⟨⟨s2, y2⟩, e2, l2⟩ := h0 (takeR ts 26 s).1 (by omega)
    dsimp only at l2
    rw [e2]
    exact ⟨_, rfl, by dsimp only; omega⟩
theorem binLp_tot {q : Int} (hq : 2 ≤ q) {m : CndM → CndM → CndM} {rd : RS → Option (RS × Option CndM)} {N : Nat} (h0 : Tot ts N rd) : ∀ (n : Nat) (st : RS) (x : Option CndM), lft ts st < n → lft ts st < N → ∃ r, binLp ts q m rd n st x = some r ∧ lft ts r.1 ≤ lft ts st
  | 0, _, _, h, _ => by omega
  | n + 1, st, x, h1, h2 => by
    rw [binLp]
    split
    · rename_i e
      have hg := go_lft e hq
      obtain ⟨⟨s, y⟩, e1, l1⟩ := h0 (goR ts st) (by omega)
      dsimp only at l1
      rw [e1]
      obtain ⟨r, e2, l2⟩ := binLp_tot hq h0 n s (binO m x y) (by omega) (by omega)
      exact ⟨r, e2, by omega⟩
    · exact ⟨_, rfl, Nat.le_refl _⟩
theorem binBy_tot {q : Int} (hq : 2 ≤ q) {m : CndM → CndM → CndM} {rd : RS → Option (RS × Option CndM)} {N n : Nat} (h0 : Tot ts N rd) (hn : N ≤ n) : Tot ts N (binBy ts q m rd n) := fun st h => by
  obtain ⟨⟨s, y⟩, e1, l1⟩ := h0 st h
  dsimp only at l1
  unfold binBy
  rw [e1]
  obtain ⟨r, e2, l2⟩ := binLp_tot (m := m) hq h0 n s y (by omega) (by omega)
  exact ⟨r, e2, by omega⟩
theorem cond_tot {nt : RS → Option (RS × Option CndM)} {N n : Nat} (h0 : Tot ts N nt) (hn : N ≤ n) : Tot ts N (condBy ts nt n) := binBy_tot (by decide) (binBy_tot (by decide) h0 hn) hn
theorem not_tot {sm : RS → Option (RS × Option AmtM)} {n : Nat} : ∀ f, f ≤ n → Tot ts f sm → Tot ts f (notTw ts n sm f)
  | 0, _, _ => fun st h => by omega
  | f + 1, hf, h0 => fun st h => by
    have IH : Tot ts f (notTw ts n sm f) := not_tot f (by omega) (fun st h => h0 st (by omega))
    rw [notTw]
    split
    · rename_i e
      have hg := go_lft e (by decide)
      have ho := open_lft (ts := ts) st (k := 20) (by decide)
      obtain ⟨⟨s, y⟩, e1, l1⟩ := IH (openR ts 20 st) (by omega)
      dsimp only at l1
      rw [e1]
      exact ⟨_, rfl, by show lft ts s ≤ _; omega⟩
    · split
      · rename_i e
        have hg := go_lft e (by decide)
        have h1 := take_lft (ts := ts) (goR ts st) (k := 22) (by decide)
        have h2 := useSet_lft (ts := ts) (takeR ts 22 (goR ts st)).1
        exact ⟨_, rfl, by dsimp only; omega⟩
      · split
        · rename_i e
          have hg := go_lft e (by decide)
          have h1 := take_lft (ts := ts) (goR ts st) (k := 24) (by decide)
          have h2 := useWay_lft (ts := ts) (takeR ts 24 (goR ts st)).1
          exact ⟨_, rfl, by dsimp only; omega⟩
        · split
          · rename_i e
            have hg := go_lft e (by decide)
            have h2 := within_lft (ts := ts) (goR ts st) 0 65535
            exact ⟨_, rfl, by dsimp only; omega⟩
          · split
            · rename_i e
              have hg := go_lft e (by decide)
              have ho := open_lft (ts := ts) st (k := 31) (by decide)
              obtain ⟨⟨s, y⟩, e1, l1⟩ := cond_tot IH (n := n) (by omega) (openR ts 31 st) (by omega)
              dsimp only at l1
              rw [e1]
              have hs := shut_lft (ts := ts) s (k := 32) (by decide)
              exact ⟨_, rfl, by dsimp only; omega⟩
            · exact compare_tot h0 st h
end
end Go.Proofs.YtgdeeodifnegiaaGreatDoor

namespace Go.Proofs.YtgdeeodifnegiaaGreatDoor
open Go.RowKit

/-- .. and what is read takes a token -/
def TotM {α : Type} (ts : List TokP) (N : Nat) (rd : RS → Option (RS × Option α)) : Prop := ∀ st, lft ts st < N → ∃ r, rd st = some r ∧ lft ts r.1 ≤ lft ts st ∧ (r.2.isSome = true → lft ts r.1 < lft ts st)
section
variable {ts : List TokP}
theorem repLp_tot : ∀ (n : Nat) (st : RS) (z m : Bool), lft ts st < n → ∃ r, repLp ts n st z m = some r ∧ lft ts r.1 ≤ lft ts st
  | 0, _, _, _, h => by omega
  | n + 1, st, z, m, h => by
    rw [repLp]
    split
    · rename_i e
      have hg := go_lft e (by decide)
      obtain ⟨r, e1, l1⟩ := repLp_tot n (goR ts st) true true (by omega)
      exact ⟨r, e1, by omega⟩
    · split
      · rename_i e
        have hg := go_lft e (by decide)
        obtain ⟨r, e1, l1⟩ := repLp_tot n (goR ts st) z true (by omega)
        exact ⟨r, e1, by omega⟩
      · split
        · rename_i e
          have hg := go_lft e (by decide)
          obtain ⟨r, e1, l1⟩ := repLp_tot n (goR ts st) true m (by omega)
          exact ⟨r, e1, by omega⟩
        · exact ⟨_, rfl, Nat.le_refl _⟩
theorem someR_tot (n : Nat) (A : WayM) (st : RS) (h : lft ts st < n) : ∃ r, someR (repeatsR ts n A st) = some r ∧ lft ts r.1 ≤ lft ts st := by
  obtain ⟨⟨s, z, m⟩, e1, l1⟩ := repLp_tot n st false false h
  unfold repeatsR
  rw [e1]
  exact ⟨_, rfl, l1⟩
theorem more_tot {α : Type} {rd : RS → Option (RS × Option α)} {N : Nat} (h0 : TotM ts N rd) : ∀ (n : Nat) (st : RS) (l : List α), lft ts st < n → lft ts st < N → ∃ r, moreLp rd n st l = some r ∧ lft ts r.1 ≤ lft ts st
  | 0, _, _, h, _ => by omega
  | n + 1, st, l, h1, h2 => by
    rw [moreLp]
    obtain ⟨⟨s, y⟩, e1, l1, l2⟩ := h0 st h2
    dsimp only at l1 l2
    rw [e1]
    cases y with
    | none => exact ⟨_, rfl, l1⟩
    | some x =>
      have h3 := l2 rfl
      obtain ⟨r, e2, l4⟩ := more_tot h0 n s (l ++ [x]) (by omega) (by omega)
      exact ⟨r, e2, by omega⟩
theorem item_tot {n N : Nat} (hn : N ≤ n) {ei : RS → Option (RS × WayM)} (h0 : ∀ st, lft ts st + 1 < N → ∃ r, ei st = some r ∧ lft ts r.1 ≤ lft ts st) : TotM ts N (itemBy ts n ei) := fun st h => by
  unfold itemBy
  split
  · rename_i e
    have hg := go_lft e (by decide)
    have hw := within_lft (ts := ts) st 1 65535
    obtain ⟨r, e1, l1⟩ := someR_tot (ts := ts) n (numL (withinR ts 1 65535 st).2) (withinR ts 1 65535 st).1 (by omega)
    exact ⟨r, e1, by omega, fun _ => by omega⟩
  · split
    · rename_i e
      have hg := go_lft e (by decide)
      obtain ⟨r, e1, l1⟩ := someR_tot (ts := ts) n dotL (goR ts st) (by omega)
      exact ⟨r, e1, by omega, fun _ => by omega⟩
    · split
      · rename_i e
        have hg := go_lft e (by decide)
        have ho := open_lft (ts := ts) st (k := 33) (by decide)
        obtain ⟨⟨s, m⟩, e1, l1⟩ := h0 (openR ts 33 st) (by omega)
        dsimp only at l1
        rw [e1]
        have hs := shut_lft (ts := ts) s (k := 34) (by decide)
        obtain ⟨r, e2, l2⟩ := someR_tot (ts := ts) n m (shutR ts 34 s) (by omega)
        exact ⟨r, e2, by omega, fun _ => by omega⟩
      · exact ⟨_, rfl, Nat.le_refl _, fun h => by cases h⟩
theorem row_tot {n N : Nat} (hn : N ≤ n) {it : RS → Option (RS × Option WayM)} (h0 : TotM ts N it) : Tot ts N (rowBy ts n it) := fun st h => by
  obtain ⟨⟨s, l⟩, e1, l1⟩ := more_tot h0 n st [] (by omega) h
  dsimp only at l1
  unfold rowBy
  rw [e1]
  refine ⟨_, rfl, ?_⟩
  dsimp only
  split
  · rw [fail_lft]; omega
  · exact l1
theorem altLp_tot {rd : RS → Option (RS × WayM)} {N : Nat} (h0 : Tot ts N rd) : ∀ (n : Nat) (st : RS) (l : List WayM), lft ts st < n → lft ts st < N → ∃ r, altLp ts rd n st l = some r ∧ lft ts r.1 ≤ lft ts st
  | 0, _, _, h, _ => by omega
  | n + 1, st, l, h1, h2 => by
    rw [altLp]
    split
    · rename_i e
      have hg := go_lft e (by decide)
      obtain ⟨⟨s, m⟩, e1, l1⟩ := h0 (goR ts st) (by omega)
      dsimp only at l1
      rw [e1]
      obtain ⟨r, e2, l2⟩ := altLp_tot h0 n s (l ++ [m]) (by omega) (by omega)
      exact ⟨r, e2, by omega⟩
    · exact ⟨_, rfl, Nat.le_refl _⟩
theorem eith_tot {n : Nat} : ∀ f, f ≤ n → Tot ts f (eithTw ts n f)
  | 0, _ => fun st h => by omega
  | f + 1, hf => fun st h => by
    have IH : Tot ts f (eithTw ts n f) := eith_tot f (by omega)
    have hrw : Tot ts (f + 1) (rowBy ts n (itemBy ts n (eithTw ts n f))) := row_tot hf (item_tot hf (fun st h => IH st (by omega)))
    rw [eithTw]
    unfold eithBy
    obtain ⟨⟨s, m⟩, e1, l1⟩ := hrw st h
    dsimp only at l1
    rw [e1]
    dsimp only
    obtain ⟨⟨s2, l2⟩, e2, l3⟩ := altLp_tot hrw n s [m] (by omega) (by omega)
    dsimp only at l3
    rw [e2]
    exact ⟨_, rfl, by dsimp only; omega⟩
theorem oneRange_lft (st : RS) : lft ts (oneRangeR ts st).1 ≤ lft ts st := by
  have h1 := take_lft (ts := ts) st (k := 3) (by decide)
  unfold oneRangeR
  split
  · have h2 := within_lft (ts := ts) (takeR ts 3 st).1 (takeR ts 3 st).2.len 32
    have h3 := within_lft (ts := ts) (withinR ts (takeR ts 3 st).2.len 32 (takeR ts 3 st).1).1 (withinR ts (takeR ts 3 st).2.len 32 (takeR ts 3 st).1).2 32
    dsimp only; omega
  · dsimp only; omega
theorem rangesLp_tot : ∀ (n : Nat) (st : RS) (l : List SetM), lft ts st < n → ∃ r, rangesLp ts n st l = some r ∧ lft ts r.1 ≤ lft ts st
  | 0, _, _, h => by omega
  | n + 1, st, l, h => by
    rw [rangesLp]
    split
    · rename_i e
      have hg := go_lft e (by decide)
      have ho := oneRange_lft (ts := ts) (goR ts st)
      obtain ⟨r, e1, l1⟩ := rangesLp_tot n (oneRangeR ts (goR ts st)).1 (l ++ [(oneRangeR ts (goR ts st)).2]) (by omega)
      exact ⟨r, e1, by omega⟩
    · exact ⟨_, rfl, Nat.le_refl _⟩
theorem ranges_tot (n : Nat) : Tot ts n (rangesR ts n) := fun st h => by
  have h1 := take_lft (ts := ts) st (k := 29) (by decide)
  have h2 := oneRange_lft (ts := ts) (takeR ts 29 st).1
  obtain ⟨⟨s, l⟩, e1, l1⟩ := rangesLp_tot (ts := ts) n (oneRangeR ts (takeR ts 29 st).1).1 [(oneRangeR ts (takeR ts 29 st).1).2] (by omega)
  dsimp only at l1
  unfold rangesR
  rw [e1]
  have h3 := take_lft (ts := ts) s (k := 30) (by decide)
  exact ⟨_, rfl, by dsimp only; omega⟩
theorem newName_lft (st : RS) : lft ts (newNameR ts st).1 ≤ lft ts st - 1 := by
  have := take_lft (ts := ts) st (k := 4) (by decide)
  unfold newNameR
  dsimp only
  split
  · exact this
  · exact this
theorem def_tot {n f : Nat} (hf : f ≤ n) : Tot ts f (defW ts n f) := fun st h => by
  unfold defW
  split
  · rename_i e
    have hg := go_lft e (by decide)
    have h1 := newName_lft (ts := ts) (goR ts st)
    have h2 := take_lft (ts := ts) (newNameR ts (goR ts st)).1 (k := 26) (by decide)
    obtain ⟨⟨s, m⟩, e1, l1⟩ := eith_tot (ts := ts) f hf (takeR ts 26 (newNameR ts (goR ts st)).1).1 (by omega)
    dsimp only at l1
    rw [e1]
    have h3 := take_lft (ts := ts) s (k := 27) (by decide)
    exact ⟨_, rfl, by show lft ts (takeR ts 27 s).1 ≤ _; omega⟩
  · rename_i e6
    unfold defR
    split
    · rename_i e
      have hg := go_lft e (by decide)
      have h1 := newName_lft (ts := ts) (goR ts st)
      have h2 := take_lft (ts := ts) (newNameR ts (goR ts st)).1 (k := 26) (by decide)
      obtain ⟨⟨s, m⟩, e1, l1⟩ := ranges_tot (ts := ts) n (takeR ts 26 (newNameR ts (goR ts st)).1).1 (by omega)
      dsimp only at l1
      rw [e1]
      have h3 := take_lft (ts := ts) s (k := 27) (by decide)
      exact ⟨_, rfl, by show lft ts (takeR ts 27 s).1 ≤ _; omega⟩
    · exact ⟨_, rfl, Nat.le_refl _⟩
theorem defs_tot {n f : Nat} (hf : f ≤ n) : ∀ (k : Nat) (st : RS), lft ts st < f → ∃ s, defsW ts n f k st = some s ∧ lft ts s ≤ lft ts st
  | 0, st, _ => ⟨st, rfl, Nat.le_refl _⟩
  | k + 1, st, h => by
    obtain ⟨⟨s, y⟩, e1, l1⟩ := def_tot hf st h
    dsimp only at l1
    rw [defsW, e1]
    cases y with
    | true =>
      obtain ⟨s2, e2, l2⟩ := defs_tot hf k s (by omega)
      exact ⟨s2, e2, by omega⟩
    | false => exact ⟨s, rfl, l1⟩
theorem block_tot {rd : RS → Option (RS × Option (Option StpM))} {n N : Nat} (hn : N ≤ n) (h0 : TotM ts N rd) (st : RS) (h : lft ts st < N) : ∃ r, blockBy ts rd n st = some r ∧ lft ts r.1 ≤ lft ts st := by
  have ho := open_lft (ts := ts) st (k := 29) (by decide)
  have hl : lft ts (endLineR (openR ts 29 st)) = lft ts (openR ts 29 st) := rfl
  obtain ⟨⟨s, l⟩, e1, l1⟩ := more_tot h0 n (endLineR (openR ts 29 st)) [] (by omega) (by omega)
  dsimp only at l1
  unfold blockBy
  rw [e1]
  have hs := shut_lft (ts := ts) s (k := 30) (by decide)
  exact ⟨_, rfl, by show lft ts (shutR ts 30 s) ≤ _; omega⟩
theorem end_lft (st : RS) : lft ts (endR ts st) ≤ lft ts st - 1 := take_lft st (by decide)
theorem stmt_tot {n : Nat} {ok : Int → Bool} (hok : ∀ k, ok k = true) {sm : RS → Option (RS × Option AmtM)} {cd : RS → Option (RS × Option CndM)} : ∀ f, f ≤ n → Tot ts f sm → Tot ts f cd → TotM ts f (stmtTw ts n ok sm cd f)
  | 0, _, _, _ => fun st h => by omega
  | f + 1, hf, hs, hc => fun st h => by
    have IH : TotM ts f (stmtTw ts n ok sm cd f) := stmt_tot hok f (by omega) (fun st h => hs st (by omega)) (fun st h => hc st (by omega))
    rw [stmtTw, if_neg (by rw [hok]; decide)]
    split
    · rename_i e
      have hg := go_lft e (by decide)
      obtain ⟨⟨s1, c⟩, e1, l1⟩ := hc (goR ts st) (by omega)
      dsimp only at l1
      rw [e1]
      dsimp only
      have h1 := take_lft (ts := ts) s1 (k := 15) (by decide)
      obtain ⟨⟨s2, y⟩, e2, l2⟩ := block_tot (n := n) (by omega) IH (takeR ts 15 s1).1 (by omega)
      dsimp only at l2
      rw [e2]
      dsimp only
      split
      · rename_i e16
        have hg2 := go_lft e16 (by decide)
        obtain ⟨⟨s3, z⟩, e3, l3⟩ := block_tot (n := n) (by omega) IH (goR ts s2) (by omega)
        dsimp only at l3
        rw [e3]
        exact ⟨_, rfl, by dsimp only; omega, fun _ => by dsimp only; omega⟩
      · exact ⟨_, rfl, by dsimp only; omega, fun _ => by dsimp only; omega⟩
    · split
      · rename_i e
        have hg := go_lft e (by decide)
        have h2 := end_lft (ts := ts) (goR ts st)
        exact ⟨_, rfl, by dsimp only; omega, fun _ => by dsimp only; omega⟩
      · split
        · rename_i e
          have hg := go_lft e (by decide)
          have h2 := end_lft (ts := ts) (goR ts st)
          exact ⟨_, rfl, by dsimp only; omega, fun _ => by dsimp only; omega⟩
        · split
          · rename_i e
            have hg := go_lft e (by decide)
            have h1 := take_lft (ts := ts) (goR ts st) (k := 26) (by decide)
            obtain ⟨⟨s1, y⟩, e1, l1⟩ := hs (takeR ts 26 (goR ts st)).1 (by omega)
            dsimp only at l1
            rw [e1]
            have h2 := end_lft (ts := ts) s1
            exact ⟨_, rfl, by dsimp only; omega, fun _ => by dsimp only; omega⟩
          · split
            · rename_i e
              have hg := go_lft e (by decide)
              have h1 := take_lft (ts := ts) (goR ts st) (k := 26) (by decide)
              obtain ⟨⟨s1, y⟩, e1, l1⟩ := hs (takeR ts 26 (goR ts st)).1 (by omega)
              dsimp only at l1
              rw [e1]
              have h2 := end_lft (ts := ts) s1
              exact ⟨_, rfl, by dsimp only; omega, fun _ => by dsimp only; omega⟩
            · split
              · rename_i e
                have hg := go_lft e (by decide)
                have h1 := within_lft (ts := ts) (goR ts st) 0 65535
                have h2 := end_lft (ts := ts) (withinR ts 0 65535 (goR ts st)).1
                exact ⟨_, rfl, by dsimp only; omega, fun _ => by dsimp only; omega⟩
              · split
                · rename_i e
                  have hg := go_lft e (by decide)
                  have h1 := within_lft (ts := ts) (goR ts st) 0 65535
                  have h2 := end_lft (ts := ts) (withinR ts 0 65535 (goR ts st)).1
                  exact ⟨_, rfl, by dsimp only; omega, fun _ => by dsimp only; omega⟩
                · split
                  · rename_i e
                    have hg := go_lft e (by decide)
                    have h1 := within_lft (ts := ts) (goR ts st) 1 65535
                    have h2 := end_lft (ts := ts) (withinR ts 1 65535 (goR ts st)).1
                    exact ⟨_, rfl, by dsimp only; omega, fun _ => by dsimp only; omega⟩
                  · exact ⟨_, rfl, Nat.le_refl _, fun h => by cases h⟩
theorem policy_tot {n f N : Nat} (hf : f ≤ n) {stmt : RS → Option (RS × Option (Option StpM))} (h0 : TotM ts N stmt) (st : RS) (h1 : lft ts st < f) (h2 : lft ts st < N) : ∃ r, policyW ts n f stmt st = some r := by
  obtain ⟨s, e1, l1⟩ := defs_tot hf 8 st h1
  unfold policyW
  rw [e1]
  dsimp only
  unfold policyTw
  obtain ⟨⟨s2, l⟩, e2, _⟩ := more_tot h0 n s [] (by omega) (by omega)
  rw [e2]
  exact ⟨_, rfl⟩
end
end Go.Proofs.YtgdeeodifnegiaaGreatDoor

namespace Go.Proofs.YtgdeeodifnegiaaGreatDoor
open Go.RowKit

def Told (st : RS) : Prop := st.syn.isSome = true ∨ st.nam.isSome = true ∨ st.num.isSome = true
theorem told_cl (ts : List TokP) : Cl ts Told :=
  ⟨fun _ _ h _ _ => h, fun _ _ => Or.inl (tell_some _ _), fun _ h => h, fun st st' h _ _ _ h4 h5 h6 => by
    unfold Told at *; rw [h4]; exact h.imp id (fun h => h.imp h5 h6)⟩
def NT {α : Type} (rd : RS → Option (RS × Option α)) : Prop := ∀ st r, rd st = some r → r.2 = none → Told r.1
section
variable {ts : List TokP}
theorem fail_told (st : RS) : Told (failR ts st) := Or.inl (tell_some _ _)
theorem go_told {st : RS} (h : Told st) : Told (goR ts st) := h
theorem plusO_none {a b : Option AmtM} {s : Int} (h : plusO a b s = none) : a = none ∨ b = none := by
  cases a with
  | none => exact Or.inl rfl
  | some x => cases b with
    | none => exact Or.inr rfl
    | some y => cases h
theorem binO_none {m : CndM → CndM → CndM} {a b : Option CndM} (h : binO m a b = none) : a = none ∨ b = none := by
  cases a with
  | none => exact Or.inl rfl
  | some x => cases b with
    | none => exact Or.inr rfl
    | some y => cases h
theorem cmpO_none {m : AmtM → AmtM → CndM} {a b : Option AmtM} (h : cmpO m a b = none) : a = none ∨ b = none := by
  cases a with
  | none => exact Or.inl rfl
  | some x => cases b with
    | none => exact Or.inr rfl
    | some y => cases h
theorem sumLp_nt {tm : RS → Option (RS × Option AmtM)} (hk : Keeps Told tm) (h0 : NT tm) : ∀ (n : Nat) (st : RS) (a : Option AmtM) (r : RS × Option AmtM), (a = none → Told st) → sumLp ts tm n st a = some r → r.2 = none → Told r.1
  | 0, _, _, _, _, h, _ => by cases h
  | n + 1, st, a, r, ha, h, hn => by
    rw [sumLp] at h
    split at h
    · split at h
      · cases h
      · rename_i s b hx
        refine sumLp_nt hk h0 n s _ r (fun e => ?_) h hn
        rcases plusO_none e with e | e
        · exact hk _ _ (go_told (ha e)) hx
        · exact h0 _ _ hx e
    · split at h
      · split at h
        · cases h
        · rename_i s b hx
          refine sumLp_nt hk h0 n s _ r (fun e => ?_) h hn
          rcases plusO_none e with e | e
          · exact hk _ _ (go_told (ha e)) hx
          · exact h0 _ _ hx e
      · cases h; exact ha hn
theorem sumBy_nt {tm : RS → Option (RS × Option AmtM)} (hk : Keeps Told tm) (h0 : NT tm) (n : Nat) : NT (sumBy ts tm n) := fun st r h hn => by
  unfold sumBy at h
  split at h
  · cases h
  · rename_i s a hx
    exact sumLp_nt hk h0 n s a r (fun e => h0 _ _ hx e) h hn
theorem term_nt (n : Nat) : ∀ f, NT (termTw ts n f)
  | 0 => fun _ _ h _ => by cases h
  | f + 1 => fun st r h hn => by
    rw [termTw] at h
    split at h
    · cases h; cases hn
    · split at h
      · cases h; cases hn
      · split at h
        · cases h; cases hn
        · split at h
          · cases h; cases hn
          · split at h
            · split at h
              · cases h
              · rename_i s a hx
                cases h
                exact (told_cl ts).shut (sumBy_nt ((told_cl ts).termTw n f) (term_nt n f) n _ _ hx hn) (by decide)
            · cases h; exact fail_told st
theorem sumTw_nt (n f : Nat) : NT (sumTw ts n f) := sumBy_nt ((told_cl ts).termTw n f) (term_nt n f) n
theorem compare_nt {sm : RS → Option (RS × Option AmtM)} (hk : Keeps Told sm) (h0 : NT sm) : NT (compareBy ts sm) := fun st r h hn => by
  unfold compareBy at h
  split at h
  · cases h
  · rename_i s a hx
    split at h
    · split at h
      · cases h
      · rename_i s2 b hy
        cases h
        rcases cmpO_none hn with e | e
        · exact hk _ _ (go_told (h0 _ _ hx e)) hy
        · exact h0 _ _ hy e
    · split at h
      · cases h
      · rename_i s2 b hy
        cases h
        rcases cmpO_none hn with e | e
        · exact hk _ _ ((told_cl ts).take (h0 _ _ hx e) (by decide)) hy
        · exact h0 _ _ hy e
theorem binLp_nt {q : Int} {m : CndM → CndM → CndM} {rd : RS → Option (RS × Option CndM)} (hk : Keeps Told rd) (h0 : NT rd) : ∀ (n : Nat) (st : RS) (a : Option CndM) (r : RS × Option CndM), (a = none → Told st) → binLp ts q m rd n st a = some r → r.2 = none → Told r.1
  | 0, _, _, _, _, h, _ => by cases h
  | n + 1, st, a, r, ha, h, hn => by
    rw [binLp] at h
    split at h
    · split at h
      · cases h
      · rename_i s b hx
        refine binLp_nt hk h0 n s _ r (fun e => ?_) h hn
        rcases binO_none e with e | e
        · exact hk _ _ (go_told (ha e)) hx
        · exact h0 _ _ hx e
    · cases h; exact ha hn
theorem binBy_nt {q : Int} {m : CndM → CndM → CndM} {rd : RS → Option (RS × Option CndM)} (hk : Keeps Told rd) (h0 : NT rd) (n : Nat) : NT (binBy ts q m rd n) := fun st r h hn => by
  unfold binBy at h
  split at h
  · cases h
  · rename_i s a hx
    exact binLp_nt hk h0 n s a r (fun e => h0 _ _ hx e) h hn
theorem cond_nt {nt : RS → Option (RS × Option CndM)} (hk : Keeps Told nt) (h0 : NT nt) (n : Nat) : NT (condBy ts nt n) := binBy_nt ((told_cl ts).binBy (by decide) hk n) (binBy_nt hk h0 n) n
theorem useSet_nt {st : RS} (h : (useSetR ts st).2 = none) : Told (useSetR ts st).1 := by
  unfold useSetR at h ⊢
  dsimp only at h ⊢
  split at h
  · cases h
  · exact Or.inr (Or.inl (tell_some _ _))
theorem useWay_nt {st : RS} (h : (useWayR ts st).2 = none) : Told (useWayR ts st).1 := by
  unfold useWayR at h ⊢
  dsimp only at h ⊢
  split at h
  · cases h
  · exact Or.inr (Or.inl (tell_some _ _))
theorem not_nt {sm : RS → Option (RS × Option AmtM)} (hk : Keeps Told sm) (h0 : NT sm) (n : Nat) : ∀ f, NT (notTw ts n sm f)
  | 0 => fun _ _ h _ => by cases h
  | f + 1 => fun st r h hn => by
    have IH := not_nt hk h0 n f
    rw [notTw] at h
    split at h
    · split at h
      · cases h
      · rename_i s c hx
        cases h
        exact (told_cl ts).dec (IH _ _ hx (Option.map_eq_none_iff.1 hn))
    · split at h
      · cases h; exact useSet_nt (Option.map_eq_none_iff.1 hn)
      · split at h
        · cases h; exact useWay_nt (Option.map_eq_none_iff.1 hn)
        · split at h
          · cases h; cases hn
          · split at h
            · split at h
              · cases h
              · rename_i s c hx
                cases h
                exact (told_cl ts).shut (cond_nt ((told_cl ts).notTw hk n f) IH n _ _ hx hn) (by decide)
            · exact compare_nt hk h0 _ _ h hn
/-! ## statements -/
def NTS (rd : RS → Option (RS × Option (Option StpM))) : Prop := ∀ st r, rd st = some r → r.2 = some none → Told r.1
theorem more_nt {rd : RS → Option (RS × Option (Option StpM))} (hk : Keeps Told rd) (h0 : NTS rd) : ∀ (n : Nat) (st : RS) (l : List (Option StpM)) (r : RS × List (Option StpM)), (none ∈ l → Told st) → moreLp rd n st l = some r → none ∈ r.2 → Told r.1
  | 0, _, _, _, _, h, _ => by cases h
  | n + 1, st, l, r, ha, h, hn => by
    rw [moreLp] at h
    split at h
    · cases h
    · rename_i s hx
      cases h
      exact hk _ _ (ha hn) hx
    · rename_i s x hx
      refine more_nt hk h0 n s _ r (fun e => ?_) h hn
      rcases List.mem_append.1 e with e | e
      · exact hk _ _ (ha e) hx
      · exact h0 _ _ hx (by rw [← List.mem_singleton.1 e])
theorem allO_none : ∀ {l : List (Option StpM)}, allO l = none → none ∈ l
  | [], h => by cases h
  | none :: _, _ => List.mem_cons_self
  | some x :: l, h => List.mem_cons_of_mem _ (allO_none (Option.map_eq_none_iff.1 h))
theorem chooseO_none {c : Option CndM} {yes no : List (Option StpM)} (h : chooseO c yes no = none) : c = none ∨ none ∈ yes ∨ none ∈ no := by
  unfold chooseO at h
  split at h
  · exact Or.inl rfl
  · split at h
    · rename_i e; exact Or.inr (Or.inl (allO_none e))
    · split at h
      · rename_i e; exact Or.inr (Or.inr (allO_none e))
      · cases h
theorem block_nt {rd : RS → Option (RS × Option (Option StpM))} (hk : Keeps Told rd) (h0 : NTS rd) (n : Nat) {st : RS} {r : RS × List (Option StpM)} (h : blockBy ts rd n st = some r) (hn : none ∈ r.2) : Told r.1 := by
  unfold blockBy at h
  split at h
  · cases h
  · rename_i s l hx
    cases h
    exact (told_cl ts).line _ ((told_cl ts).shut (more_nt hk h0 n _ _ _ (fun e => by cases e) hx hn) (by decide))
theorem stmt_nt (n : Nat) (ok : Int → Bool) {sm : RS → Option (RS × Option AmtM)} (ks : Keeps Told sm) (hs : NT sm) {cd : RS → Option (RS × Option CndM)} (kc : Keeps Told cd) (hc : NT cd) : ∀ f, NTS (stmtTw ts n ok sm cd f)
  | 0 => fun _ _ h _ => by cases h
  | f + 1 => fun st r h hn => by
    have IH := stmt_nt n ok ks hs kc hc f
    have IK := (told_cl ts).stmtTw n ok ks kc f
    rw [stmtTw] at h
    split at h
    · cases h
    · split at h
      · split at h
        · cases h
        · rename_i s1 c hx
          split at h
          · cases h
          · rename_i s2 yes hy
            have k2 : c = none ∨ none ∈ yes → Told s2 := fun e => by
              rcases e with e | e
              · exact (told_cl ts).block IK n _ _ ((told_cl ts).take (hc _ _ hx e) (by decide)) hy
              · exact block_nt IK IH n hy e
            split at h
            · split at h
              · cases h
              · rename_i s3 no hz
                cases h
                rcases chooseO_none (Option.some.inj hn) with e | e | e
                · exact (told_cl ts).block IK n _ _ (go_told (k2 (Or.inl e))) hz
                · exact (told_cl ts).block IK n _ _ (go_told (k2 (Or.inr e))) hz
                · exact block_nt IK IH n hz e
            · cases h
              rcases chooseO_none (Option.some.inj hn) with e | e | e
              · exact k2 (Or.inl e)
              · exact k2 (Or.inr e)
              · cases e
      · split at h
        · cases h; cases hn
        · split at h
          · cases h; cases hn
          · split at h
            · split at h
              · cases h
              · rename_i s1 a hx
                cases h
                exact (told_cl ts).end_ (hs _ _ hx (Option.map_eq_none_iff.1 (Option.some.inj hn)))
            · split at h
              · split at h
                · cases h
                · rename_i s1 a hx
                  cases h
                  exact (told_cl ts).end_ (hs _ _ hx (Option.map_eq_none_iff.1 (Option.some.inj hn)))
              · split at h
                · cases h; cases hn
                · split at h
                  · cases h; cases hn
                  · split at h
                    · cases h; cases hn
                    · cases h; cases hn
theorem policy_nt (n f : Nat) {stmt : RS → Option (RS × Option (Option StpM))} (hk : Keeps Told stmt) (h0 : NTS stmt) {st : RS} {r : RS × List (Option StpM)} (h : policyW ts n f stmt st = some r) (hn : none ∈ r.2) : Told r.1 := by
  unfold policyW at h
  split at h
  · cases h
  · rename_i s hx
    unfold policyTw at h
    split at h
    · cases h
    · rename_i s1 l hy
      cases h
      have h2 := more_nt hk h0 n _ _ _ (fun e => by cases e) hy hn
      dsimp only at h2 ⊢
      have h3 : Told (if l.length = 0 then failR ts s1 else s1) := by
        split
        · exact fail_told _
        · exact h2
      generalize (if l.length = 0 then failR ts s1 else s1) = s2 at *
      split
      · exact h3
      · exact fail_told _
/-- where no fault of syntax was told: all was read, and it is not nothing -/
theorem policy_end {n f : Nat} {stmt : RS → Option (RS × Option (Option StpM))} {st : RS} {r : RS × List (Option StpM)} (h : policyW ts n f stmt st = some r) (h1 : r.1.syn = none) : kindR ts r.1 = 1 ∧ r.2 ≠ [] := by
  unfold policyW at h
  split at h
  · cases h
  · rename_i s hx
    unfold policyTw at h
    split at h
    · cases h
    · rename_i s1 l hy
      cases h
      dsimp only at h1 ⊢
      have hno : ∀ q : RS, (failR ts q).syn ≠ none := fun q e => by
        have h2 : (failR ts q).syn.isSome = true := tell_some _ _
        rw [e] at h2; cases h2
      by_cases e0 : l.length = 0
      · rw [if_pos e0] at h1
        exfalso
        split at h1
        · exact hno _ h1
        · exact hno _ h1
      · rw [if_neg e0] at h1 ⊢
        by_cases e : kindR ts s1 = 1
        · rw [if_pos e]
          exact ⟨e, fun e1 => e0 (by rw [e1]; rfl)⟩
        · rw [if_neg e] at h1
          exact absurd h1 (hno _)
theorem some_all : ∀ {l : List (Option StpM)}, none ∉ l → ∃ ms : List StpM, l = ms.map some
  | [], _ => ⟨[], rfl⟩
  | none :: _, h => absurd List.mem_cons_self h
  | some x :: l, h => by
    obtain ⟨ms, e⟩ := some_all (l := l) (fun hm => h (List.mem_cons_of_mem _ hm))
    exact ⟨x :: ms, by rw [e]; rfl⟩
end
/-! ## the tokens -/
theorem firstP_kind (s : ByteArray) (h0 : 0 < s.size) : (firstP s).kind ≠ 1 := by
  have hs : ∀ n : Nat, n < 256 → signK (n : Int) ≠ 1 := by decide +kernel
  obtain ⟨c, hc⟩ : ∃ c : UInt8, bt s 0 = (c.toNat : Int) := ⟨s[0], by rw [bt_eq h0]⟩
  unfold firstP
  split
  · have hw := wordK_bd (s.extract 0 (scanTo lowB s 0))
    show (if wordK (s.extract 0 (scanTo lowB s 0)) = 0 ∧ (s.extract 0 (scanTo lowB s 0)).size ≤ 8 then 4 else wordK (s.extract 0 (scanTo lowB s 0))) ≠ 1
    split <;> omega
  · split
    · unfold digitsP
      split
      · show (2 : Int) ≠ 1; decide
      · split
        · show (3 : Int) ≠ 1; decide
        · show (0 : Int) ≠ 1; decide
    · show signK (bt s 0) ≠ 1
      rw [hc]; exact hs _ c.toNat_lt
theorem allGo_end (s : ByteArray) : ∀ (f k i : Nat) (t : TokP), (allGo s f k)[i]? = some t → t.kind = 1 → i + 1 = (allGo s f k).length ∧ t = endTok s
  | 0, _, _, _, h, _ => by cases h
  | f + 1, k, i, t, h, h1 => by
    rw [allGo] at h ⊢
    split at h
    · rename_i hlt
      rw [if_pos hlt]
      have h0 : 0 < (s.extract k s.size).size := by simp; omega
      have hk1 : (tkAt s k).kind ≠ 1 := firstP_kind _ h0
      split at h
      · rename_i hb
        rw [if_pos hb]
        exact allGo_end s f _ i t h h1
      · rename_i hb
        rw [if_neg hb]
        split at h
        · rename_i hz
          rw [if_pos hz]
          cases i with
          | zero => cases h; exact absurd h1 hk1
          | succ i => cases h
        · rename_i hz
          rw [if_neg hz]
          cases i with
          | zero => cases h; exact absurd h1 hk1
          | succ i =>
            obtain ⟨e1, e2⟩ := allGo_end s f _ i t h h1
            exact ⟨by rw [List.length_cons, ← e1], e2⟩
    · rename_i hlt
      rw [if_neg hlt]
      cases i with
      | zero => cases h; exact ⟨rfl, rfl⟩
      | succ i => cases h
theorem taken_cl (ts : List TokP) : Cl ts (fun st => ∀ t ∈ ts.take st.next, 2 ≤ t.kind) := by
  refine ⟨fun st k h e hk => ?_, fun st h => h, fun st h => h, fun st st' h h1 _ _ _ _ _ => by rw [h1]; exact h⟩
  have hat := tok_at e hk
  intro t ht
  have htk : ts.take (st.next + 1) = ts.take st.next ++ [tokR ts st] := by rw [List.take_add_one, hat]; rfl
  have ht' : t ∈ ts.take (st.next + 1) := ht
  rw [htk] at ht'
  rcases List.mem_append.1 ht' with h1 | h1
  · exact h t h1
  · rw [List.mem_singleton.1 h1]
    obtain ⟨h2, _⟩ := kindR_tok e hk
    rw [h2]; exact hk
/-! ## the twins, with fuel for any text -/
abbrev sumA (ts : List TokP) : RS → Option (RS × Option AmtM) := sumTw ts 700 700
noncomputable abbrev cndA (ts : List TokP) : RS → Option (RS × Option CndM) := condBy ts (notTw ts 700 (sumA ts) 700) 700
noncomputable abbrev stmA (ts : List TokP) : RS → Option (RS × Option (Option StpM)) := stmtTw ts 700 okP (sumA ts) (cndA ts) 700
noncomputable abbrev polA (ts : List TokP) : Option (RS × List (Option StpM)) := policyW ts 700 700 (stmA ts) rs0
theorem stmA_keeps (ts : List TokP) (I : RS → Prop) (C : Cl ts I) : Keeps I (stmA ts) :=
  C.stmtTw 700 okP (C.sumTw 700 700) (C.cond (C.notTw (C.sumTw 700 700) 700 700) 700) 700
theorem polA_tot {ts : List TokP} (h : ts.length < 700) : ∃ r, polA ts = some r := by
  have hl : lft ts rs0 < 700 := by
    show (if (none : Option Int).isSome then 0 else ts.length - 0) < 700
    simp; omega
  have hs : Tot ts 700 (sumA ts) := sumTw_tot (Nat.le_refl _)
  have hn : Tot ts 700 (notTw ts 700 (sumA ts) 700) := not_tot 700 (Nat.le_refl _) hs
  exact policy_tot (Nat.le_refl _) (stmt_tot (fun _ => rfl) 700 (Nat.le_refl _) hs (cond_tot hn (Nat.le_refl _))) rs0 hl hl
theorem polA_sim {ts us : List TokP} (H : TsIs ts us) {r : RS × List (Option StpM)} (h : polA ts = some r) : ∃ r', polA us = some r' ∧ Sim r.1 r'.1 ∧ r'.2 = r.2 := by
  have hs : SimR (sumA ts) (sumA us) := sumTw_sim H (j := 0) (g := 0) 700 700
  have hn : SimR (notTw ts 700 (sumA ts) 700) (notTw us 700 (sumA us) 700) := not_sim H hs (j := 0) (g := 0) 700 700
  have hc : SimR (cndA ts) (cndA us) := cond_sim H hn (j := 0) 700
  have ht : SimR (stmA ts) (stmA us) := stmt_sim H (j := 0) (g := 0) 700 okP hs hc 700
  exact policy_sim H (j := 0) (g := 0) 700 700 ht rs0 rs0 ⟨rfl, rfl, rfl, rfl, rfl, rfl, rfl, rfl⟩ r h
/-- what was read with less fuel is read with this -/
theorem polA_more {ts : List TokP} {f : Nat} (hf : f ≤ 700) {r : RS × List (Option StpM)} (h : policyW ts 100 20 (stmF ts f) rs0 = some r) : ∃ r', polA ts = some r' ∧ Sim r.1 r'.1 ∧ r'.2 = r.2 := by
  have H : TsIs ts ts := fun _ => rfl
  have hs : SimR (sumS ts) (sumA ts) := sumTw_sim H (j := 600) (g := 680) 100 20
  have hn : SimR (notTw ts 100 (sumS ts) 20) (notTw ts 700 (sumA ts) 700) := not_sim H hs (j := 600) (g := 680) 100 20
  have hc : SimR (cndF ts) (cndA ts) := cond_sim H hn (j := 600) 100
  have ht : SimR (stmF ts f) (stmA ts) := by
    have := stmt_sim H (j := 600) (g := 700 - f) 100 okP hs hc f
    rw [Nat.sub_add_cancel hf] at this
    exact this
  exact policy_sim H (j := 600) (g := 680) 100 20 ht rs0 rs0 ⟨rfl, rfl, rfl, rfl, rfl, rfl, rfl, rfl⟩ r h
theorem polA_some {ts : List TokP} {r : RS × List (Option StpM)} (h : polA ts = some r) (hn : ¬ Told r.1) : ∃ ms : List StpM, r.2 = ms.map some := by
  refine some_all (fun hm => hn (policy_nt 700 700 (stmA_keeps ts _ (told_cl ts)) ?_ h hm))
  have k1 := (told_cl ts).sumTw 700 700
  exact stmt_nt 700 okP k1 (sumTw_nt 700 700) ((told_cl ts).cond ((told_cl ts).notTw k1 700 700) 700) (cond_nt ((told_cl ts).notTw k1 700 700) (not_nt k1 (sumTw_nt 700 700) 700 700) 700) 700
/-- a policy's printed text -/
def printed (st : RS) : ByteArray := bsA (st.page ++ st.gap.data.toList)
theorem map_is {ts us : List TokP} (h : ts.map (fun t => (t.kind, t.text, t.number, t.addr, t.len)) = us.map (fun t => (t.kind, t.text, t.number, t.addr, t.len))) : TsIs ts us := fun k => by
  have h1 := congrArg (·[k]?) h
  simp only [List.getElem?_map] at h1
  unfold tAt
  cases ha : ts[k]? with
  | none =>
    cases hb : us[k]? with
    | none => rfl
    | some y => rw [ha, hb] at h1; cases h1
  | some x =>
    cases hb : us[k]? with
    | none => rw [ha, hb] at h1; cases h1
    | some y => rw [ha, hb] at h1; exact Option.some.inj h1
/-- what is printed is read as the policy again, and printed the same -/
theorem again {s : ByteArray} {r : RS × List (Option StpM)} (h : polA (allP s) = some r) (hn : ¬ Told r.1) :
    r.1.page ≠ [] ∧ ∃ r', polA (allP (printed r.1)) = some r' ∧ r'.2 = r.2 ∧ ¬ Told r'.1 ∧ printed r'.1 = printed r.1 ∧ r'.1.page = r.1.page := by
  have hsyn : r.1.syn = none := by
    cases e : r.1.syn with
    | none => rfl
    | some x => exact absurd (Or.inl (by rw [e]; rfl)) hn
  obtain ⟨hk, hne⟩ := policy_end h hsyn
  have hp := policy_page (fun I C => stmA_keeps _ I C) h
  have htk := (taken_cl (allP s)).policyW 700 700 (stmA_keeps _ _ (taken_cl _)) _ _ (fun t ht => by simp [rs0] at ht) h
  have hkt : (tokR (allP s) r.1).kind = 1 := by
    unfold kindR at hk
    rw [hsyn] at hk
    simpa using hk
  obtain ⟨t, ht⟩ : ∃ t, (allP s)[r.1.next]? = some t := by
    cases e : (allP s)[r.1.next]? with
    | none =>
      unfold tokR at hkt
      rw [e] at hkt
      cases hkt
    | some t => exact ⟨t, rfl⟩
  have hk1 : t.kind = 1 := by
    unfold tokR at hkt
    rw [ht] at hkt; exact hkt
  obtain ⟨el, et⟩ := allGo_end s _ _ _ t ht hk1
  have el' : r.1.next + 1 = (allP s).length := el
  have hall : allP s = (allP s).take r.1.next ++ [endTok s] := by
    have h1 := List.take_add_one (l := allP s) (i := r.1.next)
    rw [ht, el', List.take_length, et] at h1
    exact h1
  obtain ⟨T, hT, hm⟩ := page_lex (fun t ht h2 => allP_self ht h2) hp htk
  have hT' : allP (printed r.1) = T := hT
  have his : TsIs (allP s) (allP (printed r.1)) := by
    rw [hT']
    refine map_is ?_
    rw [hm]
    conv => lhs; rw [hall]
    rw [List.map_append]; rfl
  obtain ⟨r', e1, hs, e2⟩ := polA_sim his h
  have hpg : printed r'.1 = printed r.1 := by unfold printed; rw [hs.page, hs.gap]
  refine ⟨fun e => ?_, r', e1, e2, fun ht' => hn ?_, hpg, hs.page⟩
  · obtain ⟨l, hpe, hpm, _⟩ := hp.ex
    have hl0 : l = [] := by
      cases l with
      | nil => rfl
      | cons x l =>
        have hx2 : x.2 ∈ (allP s).take r.1.next := by rw [← hpm]; exact List.mem_cons_self
        have hself := allP_self (List.mem_of_mem_take hx2) (htk _ hx2)
        have hne := (hself.lex [] (fun b hb => by cases hb)).1
        rw [hpe] at e
        have e' : x.1 ++ x.2.text.data.toList ++ rend l = [] := e
        simp only [List.append_eq_nil_iff] at e'
        exact absurd e'.1.2 hne
    have hnx : r.1.next = 0 := by
      rw [hl0] at hpm
      have h1 := congrArg List.length hpm
      rw [List.length_take] at h1
      simp only [List.map_nil, List.length_nil] at h1
      omega
    rw [hnx] at ht
    have hk0 : kindR (allP s) rs0 = 1 := by
      show (tokR (allP s) rs0).kind = 1
      unfold tokR
      rw [show rs0.next = 0 from rfl, ht]; exact hk1
    refine hne ?_
    unfold polA policyW at h
    have hd : defsW (allP s) 700 700 8 rs0 = some rs0 := by
      rw [defsW]
      unfold defW defR
      rw [hk0, if_neg (by decide), if_neg (by decide), if_neg (by decide)]
    rw [hd] at h
    dsimp only at h
    unfold policyTw at h
    have hst : stmA (allP s) rs0 = some (rs0, none) := by
      unfold stmA
      rw [show (700 : Nat) = 699 + 1 from rfl, stmtTw, hk0, if_neg (by decide), if_neg (by decide), if_neg (by decide), if_neg (by decide), if_neg (by decide), if_neg (by decide), if_neg (by decide), if_neg (by decide), if_neg (by decide)]
    have hmo : moreLp (stmA (allP s)) 700 rs0 [] = some (rs0, []) := by
      rw [show (700 : Nat) = 699 + 1 from rfl, moreLp, hst]
    rw [hmo] at h
    cases h; rfl
  · unfold Told at *
    rw [hs.syn, hs.nam, hs.num] at ht'
    exact ht'
end Go.Proofs.YtgdeeodifnegiaaGreatDoor
