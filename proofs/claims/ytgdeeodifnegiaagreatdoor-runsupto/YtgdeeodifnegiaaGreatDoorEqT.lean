/- The document's reader, plain, always answers, given fuel for the tokens that are left; no program. -/
import Derived.Test.YtgdeeodifnegiaaGreatDoorEqG
namespace Go.Proofs.YtgdeeodifnegiaaGreatDoor
open Go.RowKit

/-- how many tokens are left; none behind a fault -/
def Rk (s : ByteArray) (ts : List TokP) (p : rf.PS) (m : Nat) : Prop := (0 ≤ p.bad ∧ m = 0) ∨ (p.bad < 0 ∧ ∃ k, k < ts.length ∧ m = ts.length - k ∧ p.next = (cutsP s k).1 ∧ p.i = (cutsP s k).2)
section
variable {s : ByteArray} {ts : List TokP}
theorem Rk.dead {p : rf.PS} (h : 0 ≤ p.bad) : Rk s ts p 0 := Or.inl ⟨h, rfl⟩
theorem Rk.alive {p : rf.PS} {m : Nat} (h : Rk s ts p m) (hm : 0 < m) : p.bad < 0 := by
  rcases h with ⟨_, h⟩ | h
  · omega
  · exact h.1
theorem Rk.zero {p : rf.PS} {m : Nat} (h : Rk s ts p m) (hm : m = 0) : 0 ≤ p.bad := by
  rcases h with h | ⟨_, k, h1, h2, _⟩
  · exact h.1
  · omega
theorem rfail_bad (p : rf.PS) : 0 ≤ (rf.failP p).bad := by
  unfold rf.failP
  split
  · exact Int.natCast_nonneg _
  · omega
theorem Rk.fail {p : rf.PS} (q : rf.PS) (h : q = rf.failP p) : Rk s ts q 0 := by rw [h]; exact .dead (rfail_bad p)
theorem Rk.take (L : Lx s ts) {p : rf.PS} {m : Nat} (h : Rk s ts p m) : ∃ m', Rk s ts (rf.takeP s p) m' ∧ m' ≤ m - 1 := by
  rcases h with ⟨h, rfl⟩ | ⟨hb, k, h1, h2, h3, h4⟩
  · exact ⟨0, by rw [bad_take h]; exact .dead h, by omega⟩
  · unfold rf.takeP
    by_cases he : p.next.kind = 33 ∨ p.next.kind = 46
    · rw [if_pos he]; exact ⟨0, .fail _ rfl, by omega⟩
    · rw [if_neg he, if_pos hb]
      have hk : 2 ≤ ts[k].kind := by
        have hr := (L.rel k h1).how
        rw [← h3] at hr
        have n33 : p.next.kind ≠ 33 := fun e => he (Or.inl e)
        have n46 : p.next.kind ≠ 46 := fun e => he (Or.inr e)
        rcases hr with ⟨a, b⟩ | ⟨a, b⟩ | ⟨a, b, _⟩ | ⟨a, b, _⟩ | ⟨a, b, _⟩ | ⟨a, j, _, b, _⟩ | ⟨a, j, _, b, _⟩
        · exact absurd a n46
        · exact absurd a n33
        all_goals rw [b]; omega
      have := L.more k h1 hk
      refine ⟨ts.length - (k + 1), Or.inr ⟨hb, k + 1, this, rfl, ?_, ?_⟩, by omega⟩
      · show (cutP s p.i).1 = _; rw [h4]; rfl
      · show (cutP s p.i).2 = _; rw [h4]; rfl
theorem Rk.need (L : Lx s ts) {p : rf.PS} {m : Nat} (h : Rk s ts p m) (x : ByteArray) : ∃ m', Rk s ts (rf.needP s p x) m' ∧ m' ≤ m - 1 := by
  unfold rf.needP
  split
  · exact h.take L
  · exact ⟨0, .fail _ rfl, by omega⟩
theorem Rk.kind (L : Lx s ts) {p : rf.PS} {m : Nat} (h : Rk s ts p m) (k : Int) : ∃ m', Rk s ts (rf.kindP s p k) m' ∧ m' ≤ m - 1 := by
  unfold rf.kindP
  split
  · exact h.take L
  · exact ⟨0, .fail _ rfl, by omega⟩
theorem Rk.opn {p q : rf.PS} {m : Nat} (h : Rk s ts p m) (h1 : q.bad = p.bad) (h2 : q.next = p.next) (h3 : q.i = p.i) : Rk s ts q m := by
  unfold Rk at *
  rw [h1, h2, h3]; exact h
theorem Rk.opens {p : rf.PS} {m : Nat} (h : Rk s ts p m) : ∃ m', Rk s ts (rf.opensP p) m' ∧ m' ≤ m := by
  unfold rf.opensP
  split
  · exact ⟨0, .dead (rfail_bad p), by omega⟩
  · exact ⟨m, h.opn rfl rfl rfl, by omega⟩
theorem Rk.dec {p : rf.PS} {m : Nat} (h : Rk s ts p m) : Rk s ts (rf.decP p) m := h.opn rfl rfl rfl
theorem Rk.line {p : rf.PS} {m : Nat} (h : Rk s ts p m) : Rk s ts (rf.lineP p) m := by
  unfold rf.lineP
  split
  · exact h.opn rfl rfl rfl
  · exact h
theorem Rk.openTake (L : Lx s ts) {p : rf.PS} {m : Nat} (h : Rk s ts p m) : ∃ m', Rk s ts (rf.takeP s (rf.opensP p)) m' ∧ m' ≤ m - 1 := by
  obtain ⟨m1, h1, l1⟩ := h.opens
  obtain ⟨m2, h2, l2⟩ := h1.take L
  exact ⟨m2, h2, by omega⟩
def Tt {α : Type} (s : ByteArray) (ts : List TokP) (c f : Nat) (X : rf.PS → Option (rf.PS × α)) : Prop := ∀ p m, Rk s ts p m → (m = 0 → 5 ≤ f) → (0 < m → 16 * m + c ≤ f) → ∃ r m', X p = some r ∧ Rk s ts r.1 m' ∧ m' ≤ m - 1
def Tl {α : Type} (s : ByteArray) (ts : List TokP) (c f : Nat) (X : rf.PS → Option (rf.PS × α)) : Prop := ∀ p m, Rk s ts p m → (m = 0 → 1 ≤ f) → (0 < m → 16 * m + c ≤ f) → ∃ r m', X p = some r ∧ Rk s ts r.1 m' ∧ m' ≤ m
/-- behind a fault -/
theorem tt_of {α : Type} {c f : Nat} {X : rf.PS → Option (rf.PS × α)} (hk : KeepsB X) (hd : 5 ≤ f → ∀ p, 0 ≤ p.bad → ∃ r, X p = some r) (h : ∀ p m, Rk s ts p m → 0 < m → p.bad < 0 → 16 * m + c ≤ f → ∃ r m', X p = some r ∧ Rk s ts r.1 m' ∧ m' ≤ m - 1) : Tt s ts c f X := fun p m hr h1 h2 => by
  by_cases hm : m = 0
  · have hb := hr.zero hm
    obtain ⟨r, e⟩ := hd (h1 hm) p hb
    have := hk p r hb e
    exact ⟨r, 0, e, .dead (by omega), by omega⟩
  · exact h p m hr (by omega) (hr.alive (by omega)) (h2 (by omega))
/-! ## behind a fault -/
theorem dead_term {p : rf.PS} (hb : 0 ≤ p.bad) (f : Nat) : ∃ r, rf.termTw s (f + 1) p = some r := by
  rw [rf.termTw, bad_starts hb, if_neg (by decide)]
  split <;> exact ⟨_, rfl⟩
theorem dead_sumLp {p : rf.PS} (hb : 0 ≤ p.bad) (f : Nat) (t : rf.Tr) : rf.sumLp s (f + 1) p t = some (p, t) := by
  rw [rf.sumLp, bad_is hb, bad_is hb, if_neg (by decide)]
theorem dead_sum {p : rf.PS} (hb : 0 ≤ p.bad) (f : Nat) : ∃ r, rf.sumTw s (f + 2) p = some r := by
  obtain ⟨r, e⟩ := dead_term (s := s) hb f
  have := (bad_sums s (f + 1)).2.2 p r hb e
  rw [rf.sumTw, e]
  exact ⟨_, dead_sumLp (by omega) f _⟩
theorem dead_condLp {p : rf.PS} (hb : 0 ≤ p.bad) (f lv : Nat) (t : rf.Tr) : rf.condLp s (f + 1) lv p t = some (p, t) := by
  rw [rf.condLp, bad_is hb, if_neg (by decide)]
theorem dead_cond2 {p : rf.PS} (hb : 0 ≤ p.bad) (f : Nat) : ∃ r, rf.condTw s (f + 1) 2 p = some r := by
  rw [rf.condTw, if_neg (by decide), bad_is hb, bad_is hb, bad_is hb, bad_is hb, bad_is hb, bad_starts hb, if_neg (by decide), if_neg (by decide), if_neg (by decide), if_neg (by decide), if_neg (by decide), if_pos rfl]
  exact ⟨_, rfl⟩
theorem dead_cond {p : rf.PS} (hb : 0 ≤ p.bad) (f : Nat) : ∃ r, rf.condTw s (f + 3) 0 p = some r := by
  obtain ⟨r, e⟩ := dead_cond2 (s := s) hb f
  have h1 := (bad_conds s (f + 1)).1 2 p r hb e
  have e1 : rf.condTw s (f + 2) 1 p = some (r.1, r.2) := by
    rw [rf.condTw, if_pos (by decide), e]
    exact dead_condLp (by omega) f 1 _
  rw [rf.condTw, if_pos (by decide), e1]
  exact ⟨_, dead_condLp (by omega) (f + 1) 0 _⟩
theorem dead_either {p : rf.PS} (hb : 0 ≤ p.bad) (f : Nat) : ∃ r, rf.eitherTw s (f + 5) p = some r := by
  have e1 : ∃ x, rf.oneTw s (f + 1) p = some (p, x) := by
    rw [rf.oneTw, bad_is hb, bad_is hb, if_neg (by decide), if_neg (by decide), bad_kind hb]
    exact ⟨_, rfl⟩
  obtain ⟨x, e1⟩ := e1
  have e2 : rf.sufLp s (f + 1) p x = some (p, x) := by rw [rf.sufLp, bad_suf hb, if_neg (by simp)]
  have e3 : ∃ y, rf.rowLp s (f + 2) p [] = some (p, y) := by
    rw [rf.rowLp, e1]
    dsimp only
    rw [e2]
    dsimp only
    rw [bad_more hb, if_neg (by decide)]
    exact ⟨_, rfl⟩
  obtain ⟨y, e3⟩ := e3
  rw [rf.eitherTw, rf.eitherLp, rf.rowTw, e3]
  dsimp only
  rw [bad_is hb, if_neg (by decide)]
  exact ⟨_, rfl⟩
theorem dead_blockLp {p : rf.PS} (hb : 0 ≤ p.bad) (f : Nat) (ks : List rf.Tr) : ∃ r, rf.blockLp s (f + 1) p ks = some r := by
  rw [rf.blockLp, if_neg (by omega)]
  exact ⟨_, rfl⟩
theorem dead_block {p : rf.PS} (hb : 0 ≤ p.bad) (f : Nat) : ∃ r, rf.blockTw s (f + 2) p = some r := by
  rw [rf.blockTw, bad_is hb, if_neg (by decide), bad_need hb, bad_line hb]
  exact dead_blockLp hb f []
theorem dead_rest {p : rf.PS} (hb : 0 ≤ p.bad) (f : Nat) : ∃ r, rf.stmtRest s (f + 4) p = some r := by
  rw [rf.stmtRest, bad_take hb, bad_need hb, bad_need hb, bad_kind hb, bad_need hb]
  split
  · obtain ⟨r, e⟩ := dead_sum (s := s) hb (f + 1)
    rw [e]; exact ⟨_, rfl⟩
  · split
    · exact ⟨_, rfl⟩
    · split
      · obtain ⟨r, e⟩ := dead_cond (s := s) hb f
        have h1 := (bad_conds s (f + 3)).1 0 p r hb e
        rw [e]
        dsimp only
        rw [bad_need (by omega)]
        obtain ⟨r2, e2⟩ := dead_block (s := s) (p := r.1) (by omega) (f + 1)
        have h2 := (bad_stmts s (f + 3)).1 r.1 r2 (by omega) e2
        rw [e2]
        dsimp only
        rw [bad_is (by omega), if_neg (by decide)]
        exact ⟨_, rfl⟩
      · exact ⟨_, rfl⟩
theorem dead_stmt {p : rf.PS} (hb : 0 ≤ p.bad) (f : Nat) : ∃ r, rf.stmtTw s (f + 5) p = some r := by
  rw [rf.stmtTw]
  have : (if rf.beginsP p = true then p else rf.failP p) = p := by split; rfl; exact bad_fail hb
  rw [this]
  exact dead_rest hb f
/-! ## sums -/
theorem tot_sums (L : Lx s ts) : ∀ f, Tt s ts 2 f (rf.sumTw s f) ∧ (∀ t, Tl s ts 1 f (fun p => rf.sumLp s f p t)) ∧ Tt s ts 1 f (rf.termTw s f)
  | 0 => ⟨fun p m h h1 h2 => by omega, fun t p m h h1 h2 => by omega, fun p m h h1 h2 => by omega⟩
  | f + 1 => by
    obtain ⟨i1, i2, i3⟩ := tot_sums L f
    refine ⟨?_, fun t p m h h1 h2 => ?_, ?_⟩
    · refine tt_of (bad_sums s (f + 1)).1 (fun hf p hb => ?_) (fun p m h hm hb hf => ?_)
      · obtain ⟨g, rfl⟩ : ∃ g, f = g + 1 := ⟨f - 1, by omega⟩
        exact dead_sum hb g
      · obtain ⟨⟨p1, t1⟩, m1, e1, r1, l1⟩ := i3 p m h (by omega) (by omega)
        obtain ⟨r2, m2, e2, r3, l2⟩ := i2 t1 p1 m1 r1 (by omega) (by omega)
        rw [rf.sumTw, e1]
        exact ⟨r2, m2, e2, r3, by omega⟩
    · dsimp only
      rw [rf.sumLp]
      by_cases hc : (rf.isP p rf.wPlus || rf.isP p rf.wMinus) = true
      · rw [if_pos hc]
        have hm : 0 < m := by
          rcases Nat.eq_zero_or_pos m with hz | hz
          · have hb := h.zero hz
            rw [bad_is hb, bad_is hb] at hc; cases hc
          · exact hz
        obtain ⟨m1, r1, l1⟩ := h.take L
        obtain ⟨⟨p2, x⟩, m2, e2, r2, l2⟩ := i3 _ m1 r1 (by omega) (by omega)
        rw [e2]
        obtain ⟨r3, m3, e3, r4, l3⟩ := i2 (.mk p.next.text ⟨#[]⟩ 0 0 [t, x]) p2 m2 r2 (by omega) (by omega)
        exact ⟨r3, m3, e3, r4, by omega⟩
      · rw [if_neg hc]
        exact ⟨_, m, rfl, h, Nat.le_refl _⟩
    · refine tt_of (bad_sums s (f + 1)).2.2 (fun hf p hb => dead_term hb f) (fun p m h hm hb hf => ?_)
      rw [rf.termTw]
      split
      · split
        · obtain ⟨m1, r1, l1⟩ := h.openTake L
          obtain ⟨⟨p2, x⟩, m2, e2, r2, l2⟩ := i1 _ m1 r1 (by omega) (by omega)
          rw [e2]
          obtain ⟨m3, r3, l3⟩ := Rk.need L (x := rf.wShut) r2
          exact ⟨_, m3, rfl, r3.dec, by omega⟩
        · split
          · obtain ⟨m1, r1, l1⟩ := h.kind L 48
            exact ⟨_, m1, rfl, r1, l1⟩
          · obtain ⟨m1, r1, l1⟩ := h.take L
            exact ⟨_, m1, rfl, r1, l1⟩
      · split
        · exact ⟨_, 0, rfl, .fail _ rfl, by omega⟩
        · exact ⟨_, 0, rfl, .fail _ rfl, by omega⟩
/-! ## conditions -/
theorem tot_conds (L : Lx s ts) : ∀ f, (∀ lv, lv ≤ 2 → ∀ p m, Rk s ts p m → (m = 0 → 5 ≤ f + lv) → (0 < m → 16 * m + (5 - lv) ≤ f) → ∃ r m', rf.condTw s f lv p = some r ∧ Rk s ts r.1 m' ∧ m' ≤ m - 1) ∧ (∀ lv, lv < 2 → ∀ t, Tl s ts 1 f (fun p => rf.condLp s f lv p t))
  | 0 => ⟨fun lv hl p m h h1 h2 => by omega, fun lv hl t p m h h1 h2 => by omega⟩
  | f + 1 => by
    obtain ⟨i1, i2⟩ := tot_conds L f
    obtain ⟨j1, _, _⟩ := tot_sums L f
    refine ⟨fun lv hl p m h h1 h2 => ?_, fun lv hl t p m h h1 h2 => ?_⟩
    · by_cases hlv : lv < 2
      · rw [rf.condTw, if_pos hlv]
        obtain ⟨⟨p1, t1⟩, m1, e1, r1, l1⟩ := i1 (lv + 1) (by omega) p m h (by omega) (by omega)
        rw [e1]
        obtain ⟨r2, m2, e2, r3, l2⟩ := i2 lv hlv t1 p1 m1 r1 (by omega) (by omega)
        exact ⟨r2, m2, e2, r3, by omega⟩
      · obtain rfl : lv = 2 := by omega
        by_cases hm : m = 0
        · have hb := h.zero hm
          obtain ⟨r, e⟩ := dead_cond2 (s := s) hb f
          have := (bad_conds s (f + 1)).1 2 p r hb e
          exact ⟨r, 0, e, .dead (by omega), by omega⟩
        · have hf := h2 (by omega)
          rw [rf.condTw, if_neg (by decide)]
          split
          · obtain ⟨m1, r1, l1⟩ := h.openTake L
            obtain ⟨⟨p2, x⟩, m2, e2, r2, l2⟩ := i1 2 (Nat.le_refl _) _ m1 r1 (by omega) (by omega)
            rw [e2]
            exact ⟨_, m2, rfl, r2.dec, by omega⟩
          · split
            · obtain ⟨m1, r1, l1⟩ := h.openTake L
              obtain ⟨⟨p2, x⟩, m2, e2, r2, l2⟩ := i1 0 (by decide) _ m1 r1 (by omega) (by omega)
              rw [e2]
              obtain ⟨m3, r3, l3⟩ := Rk.need L (x := rf.wBrack2) r2
              exact ⟨_, m3, rfl, r3.dec, by omega⟩
            · split
              · obtain ⟨m1, r1, l1⟩ := h.take L
                obtain ⟨m2, r2, l2⟩ := r1.need L rf.wIn
                obtain ⟨m3, r3, l3⟩ := r2.kind L 110
                exact ⟨_, m3, rfl, r3, by omega⟩
              · split
                · obtain ⟨m1, r1, l1⟩ := h.take L
                  obtain ⟨m2, r2, l2⟩ := r1.need L rf.wLike
                  obtain ⟨m3, r3, l3⟩ := r2.kind L 110
                  exact ⟨_, m3, rfl, r3, by omega⟩
                · split
                  · obtain ⟨m1, r1, l1⟩ := h.take L
                    obtain ⟨m3, r3, l3⟩ := r1.kind L 48
                    exact ⟨_, m3, rfl, r3, by omega⟩
                  · split
                    · exact ⟨_, 0, rfl, .fail _ rfl, by omega⟩
                    · obtain ⟨⟨p1, a⟩, m1, e1, r1, l1⟩ := j1 p m h (by omega) (by omega)
                      rw [e1]
                      dsimp only
                      obtain ⟨m2, r2, l2⟩ := Rk.need L (x := if rf.isP p1 rf.wEq = true then rf.wEq else rf.wLess) r1
                      obtain ⟨⟨p3, b⟩, m3, e3, r3, l3⟩ := j1 _ m2 r2 (by omega) (by omega)
                      rw [e3]
                      exact ⟨_, m3, rfl, r3, by omega⟩
    · dsimp only
      rw [rf.condLp]
      by_cases hc : rf.isP p (rf.opW lv) = true
      · rw [if_pos hc]
        have hm : 0 < m := by
          rcases Nat.eq_zero_or_pos m with hz | hz
          · rw [bad_is (h.zero hz)] at hc; cases hc
          · exact hz
        obtain ⟨m1, r1, l1⟩ := h.take L
        obtain ⟨⟨p2, x⟩, m2, e2, r2, l2⟩ := i1 (lv + 1) (by omega) _ m1 r1 (by omega) (by omega)
        rw [e2]
        obtain ⟨r3, m3, e3, r4, l3⟩ := i2 lv hl (.mk (rf.opW lv) ⟨#[]⟩ 0 0 [t, x]) p2 m2 r2 (by omega) (by omega)
        exact ⟨r3, m3, e3, r4, by omega⟩
      · rw [if_neg hc]
        exact ⟨_, m, rfl, h, Nat.le_refl _⟩
/-! ## ways -/
theorem suf_rk (L : Lx s ts) {q : rf.PS × rf.Tr × Bool} {m : Nat} (h : Rk s ts q.1 m) (w : ByteArray) : ∃ m', Rk s ts (rf.sufStep s w q).1 m' ∧ m' ≤ m ∧ ((rf.sufStep s w q).2.2 = true → q.2.2 = true ∨ m' ≤ m - 1 ∧ 0 < m) := by
  unfold rf.sufStep
  by_cases hc : rf.isP q.1 w = true
  · rw [if_pos hc]
    obtain ⟨m1, r1, l1⟩ := h.take L
    have hm : 0 < m := by
      rcases Nat.eq_zero_or_pos m with hz | hz
      · rw [bad_is (h.zero hz)] at hc; cases hc
      · exact hz
    exact ⟨m1, r1, by omega, fun _ => Or.inr ⟨l1, hm⟩⟩
  · rw [if_neg hc]
    exact ⟨m, h, Nat.le_refl _, fun e => Or.inl e⟩
theorem tot_suf (L : Lx s ts) : ∀ f x, Tl s ts 1 f (fun p => rf.sufLp s f p x)
  | 0, x => fun p m h h1 h2 => by omega
  | f + 1, x => fun p m h h1 h2 => by
    dsimp only
    rw [rf.sufLp]
    obtain ⟨m1, r1, l1, f1⟩ := suf_rk L (q := (p, x, false)) h rf.wStar
    obtain ⟨m2, r2, l2, f2⟩ := suf_rk L r1 rf.wPlus
    obtain ⟨m3, r3, l3, f3⟩ := suf_rk L r2 rf.wQuest
    have r3' : Rk s ts (rf.suf3 s p x).1 m3 := r3
    split
    · rename_i hc
      have hlt : m3 ≤ m - 1 ∧ 0 < m := by
        rcases f3 hc with e | e
        · rcases f2 e with e | e
          · rcases f1 e with e | e
            · cases e
            · omega
          · omega
        · omega
      obtain ⟨r, m4, e4, r4, l4⟩ := tot_suf L f (rf.suf3 s p x).2.1 _ m3 r3' (by omega) (by omega)
      exact ⟨r, m4, e4, r4, by omega⟩
    · exact ⟨_, m3, rfl, r3', by omega⟩
theorem tot_ways (L : Lx s ts) : ∀ f, Tt s ts 5 f (rf.eitherTw s f) ∧ (∀ ks p m, Rk s ts p m → 0 < m → 16 * m + 4 ≤ f → ∃ r m', rf.eitherLp s f p ks = some r ∧ Rk s ts r.1 m' ∧ m' ≤ m - 1) ∧ (∀ p m, Rk s ts p m → 0 < m → 16 * m + 3 ≤ f → ∃ r m', rf.rowTw s f p = some r ∧ Rk s ts r.1 m' ∧ m' ≤ m - 1) ∧ (∀ ks p m, Rk s ts p m → 0 < m → 16 * m + 2 ≤ f → ∃ r m', rf.rowLp s f p ks = some r ∧ Rk s ts r.1 m' ∧ m' ≤ m - 1) ∧ (∀ p m, Rk s ts p m → 0 < m → 16 * m + 1 ≤ f → ∃ r m', rf.oneTw s f p = some r ∧ Rk s ts r.1 m' ∧ m' ≤ m - 1)
  | 0 => ⟨fun p m h h1 h2 => by omega, fun ks p m h h1 h2 => by omega, fun p m h h1 h2 => by omega, fun ks p m h h1 h2 => by omega, fun p m h h1 h2 => by omega⟩
  | f + 1 => by
    obtain ⟨i1, i2, i3, i4, i5⟩ := tot_ways L f
    refine ⟨?_, fun ks p m h hm hf => ?_, fun p m h hm hf => ?_, fun ks p m h hm hf => ?_, fun p m h hm hf => ?_⟩
    · refine tt_of (bad_ways s (f + 1)).1 (fun hf p hb => ?_) (fun p m h hm hb hf => ?_)
      · obtain ⟨g, rfl⟩ : ∃ g, f = g + 4 := ⟨f - 4, by omega⟩
        exact dead_either hb g
      · rw [rf.eitherTw]
        exact i2 [] p m h hm (by omega)
    · rw [rf.eitherLp]
      obtain ⟨⟨p1, r1⟩, m1, e1, k1, l1⟩ := i3 p m h hm (by omega)
      rw [e1]
      dsimp only
      by_cases hc : rf.isP p1 rf.wBar = true
      · rw [if_pos hc]
        have hm1 : 0 < m1 := by
          rcases Nat.eq_zero_or_pos m1 with hz | hz
          · rw [bad_is (k1.zero hz)] at hc; cases hc
          · exact hz
        obtain ⟨m2, k2, l2⟩ := Rk.take L k1
        dsimp only at k2
        by_cases hz : m2 = 0
        · have hb := k2.zero hz
          obtain ⟨g, rfl⟩ : ∃ g, f = g + 4 := ⟨f - 4, by omega⟩
          have e2 : ∃ r, rf.eitherLp s (g + 4) (rf.takeP s p1) (ks ++ [r1]) = some r := by
            have e1 : ∃ x, rf.oneTw s (g + 1) (rf.takeP s p1) = some (rf.takeP s p1, x) := by
              rw [rf.oneTw, bad_is hb, bad_is hb, if_neg (by decide), if_neg (by decide), bad_kind hb]
              exact ⟨_, rfl⟩
            obtain ⟨x, e1⟩ := e1
            have e2 : rf.sufLp s (g + 1) (rf.takeP s p1) x = some (rf.takeP s p1, x) := by rw [rf.sufLp, bad_suf hb, if_neg (by simp)]
            rw [rf.eitherLp, rf.rowTw, rf.rowLp, e1]
            dsimp only
            rw [e2]
            dsimp only
            rw [bad_more hb, if_neg (by decide)]
            dsimp only
            rw [bad_is hb, if_neg (by decide)]
            exact ⟨_, rfl⟩
          obtain ⟨r, e2⟩ := e2
          have := (bad_ways s (g + 4)).2.1 _ _ _ hb e2
          exact ⟨r, 0, e2, .dead (by omega), by omega⟩
        · obtain ⟨r, m3, e3, k3, l3⟩ := i2 (ks ++ [r1]) _ m2 k2 (by omega) (by omega)
          exact ⟨r, m3, e3, k3, by omega⟩
      · rw [if_neg hc]
        exact ⟨_, m1, rfl, k1, l1⟩
    · rw [rf.rowTw]
      exact i4 [] p m h hm (by omega)
    · rw [rf.rowLp]
      obtain ⟨⟨p1, x⟩, m1, e1, k1, l1⟩ := i5 p m h hm (by omega)
      rw [e1]
      dsimp only
      obtain ⟨⟨p2, x2⟩, m2, e2, k2, l2⟩ := tot_suf L f x p1 m1 k1 (by omega) (by omega)
      dsimp only at e2
      rw [e2]
      dsimp only
      by_cases hc : rf.moreP p2 = true
      · rw [if_pos hc]
        have hm2 : 0 < m2 := by
          rcases Nat.eq_zero_or_pos m2 with hz | hz
          · rw [bad_more (k2.zero hz)] at hc; cases hc
          · exact hz
        obtain ⟨r, m3, e3, k3, l3⟩ := i4 (ks ++ [x2]) p2 m2 k2 hm2 (by omega)
        exact ⟨r, m3, e3, k3, by omega⟩
      · rw [if_neg hc]
        exact ⟨_, m2, rfl, k2, by omega⟩
    · rw [rf.oneTw]
      split
      · obtain ⟨m1, k1, l1⟩ := h.take L
        exact ⟨_, m1, rfl, k1, l1⟩
      · split
        · obtain ⟨m1, k1, l1⟩ := h.openTake L
          obtain ⟨⟨p2, t⟩, m2, e2, k2, l2⟩ := i1 _ m1 k1 (by omega) (by omega)
          rw [e2]
          obtain ⟨m3, k3, l3⟩ := Rk.need L (x := rf.wShut) k2
          exact ⟨_, m3, rfl, k3.dec, by omega⟩
        · obtain ⟨m1, k1, l1⟩ := h.kind L 48
          exact ⟨_, m1, rfl, k1, l1⟩
/-! ## statements -/
theorem tot_stmts (L : Lx s ts) : ∀ f, Tt s ts 1 f (rf.blockTw s f) ∧ (∀ ks, Tl s ts 8 f (fun p => rf.blockLp s f p ks)) ∧ Tt s ts 7 f (rf.stmtTw s f) ∧ (∀ p m, Rk s ts p m → (m = 0 → 4 ≤ f) → (0 < m → 16 * m + 6 ≤ f) → ∃ r m', rf.stmtRest s f p = some r ∧ Rk s ts r.1 m' ∧ m' ≤ m - 1)
  | 0 => ⟨fun p m h h1 h2 => by omega, fun ks p m h h1 h2 => by omega, fun p m h h1 h2 => by omega, fun p m h h1 h2 => by omega⟩
  | f + 1 => by
    obtain ⟨i1, i2, i3, i4⟩ := tot_stmts L f
    obtain ⟨j1, _, _⟩ := tot_sums L f
    obtain ⟨c1, _⟩ := tot_conds L f
    refine ⟨?_, fun ks p m h h1 h2 => ?_, ?_, fun p m h h1 h2 => ?_⟩
    · refine tt_of (bad_stmts s (f + 1)).1 (fun hf p hb => ?_) (fun p m h hm hb hf => ?_)
      · obtain ⟨g, rfl⟩ : ∃ g, f = g + 1 := ⟨f - 1, by omega⟩
        exact dead_block hb g
      · rw [rf.blockTw]
        have ho : ∃ m1, Rk s ts (if rf.isP p rf.wBrace = true then rf.opensP p else p) m1 ∧ m1 ≤ m := by
          split
          · exact h.opens
          · exact ⟨m, h, Nat.le_refl _⟩
        obtain ⟨m1, k1, l1⟩ := ho
        obtain ⟨m2, k2, l2⟩ := k1.need L rf.wBrace
        obtain ⟨r, m3, e3, k3, l3⟩ := i2 [] _ m2 k2.line (by omega) (by omega)
        exact ⟨r, m3, e3, k3, by omega⟩
    · dsimp only
      rw [rf.blockLp]
      by_cases hc : rf.isP p rf.wBrace2 = false ∧ p.bad < 0
      · rw [if_pos hc]
        have hm : 0 < m := by
          rcases Nat.eq_zero_or_pos m with hz | hz
          · have := h.zero hz; omega
          · exact hz
        obtain ⟨⟨p1, x⟩, m1, e1, k1, l1⟩ := i3 p m h (by omega) (by omega)
        rw [e1]
        dsimp only
        obtain ⟨r, m2, e2, k2, l2⟩ := i2 (ks ++ [x]) p1 m1 k1 (by omega) (by omega)
        exact ⟨r, m2, e2, k2, by omega⟩
      · rw [if_neg hc]
        obtain ⟨m1, k1, l1⟩ := h.need L rf.wBrace2
        exact ⟨_, m1, rfl, k1.line.dec, by omega⟩
    · refine tt_of (bad_stmts s (f + 1)).2.2.1 (fun hf p hb => ?_) (fun p m h hm hb hf => ?_)
      · obtain ⟨g, rfl⟩ : ∃ g, f = g + 4 := ⟨f - 4, by omega⟩
        exact dead_stmt hb g
      · rw [rf.stmtTw]
        split
        · exact i4 p m h (by omega) (by omega)
        · obtain ⟨r, m1, e1, k1, l1⟩ := i4 (rf.failP p) 0 (.fail _ rfl) (by omega) (by omega)
          exact ⟨r, m1, e1, k1, by omega⟩
    · by_cases hm : m = 0
      · have hb := h.zero hm
        obtain ⟨g, rfl⟩ : ∃ g, f = g + 3 := ⟨f - 3, by omega⟩
        obtain ⟨r, e⟩ := dead_rest (s := s) hb g
        have := (bad_stmts s (g + 3 + 1)).2.2.2 p r hb e
        exact ⟨r, 0, e, .dead (by omega), by omega⟩
      · have hf := h2 (by omega)
        obtain ⟨m1, k1, l1⟩ := h.take L
        rw [rf.stmtRest]
        split
        · obtain ⟨m2, k2, l2⟩ := k1.need L rf.wEq
          obtain ⟨⟨p3, x⟩, m3, e3, k3, l3⟩ := j1 _ m2 k2 (by omega) (by omega)
          rw [e3]
          obtain ⟨m4, k4, l4⟩ := Rk.need L (x := rf.wSemi) k3
          exact ⟨_, m4, rfl, k4, by omega⟩
        · split
          · obtain ⟨m2, k2, l2⟩ := k1.kind L 48
            obtain ⟨m3, k3, l3⟩ := k2.need L rf.wSemi
            exact ⟨_, m3, rfl, k3, by omega⟩
          · split
            · obtain ⟨⟨p2, c⟩, m2, e2, k2, l2⟩ := c1 0 (by decide) _ m1 k1 (by omega) (by omega)
              rw [e2]
              dsimp only
              obtain ⟨m3, k3, l3⟩ := Rk.need L (x := rf.wThen) k2
              obtain ⟨⟨p4, b⟩, m4, e4, k4, l4⟩ := i1 _ m3 k3 (by omega) (by omega)
              dsimp only at e4
              rw [e4]
              dsimp only
              split
              · obtain ⟨m5, k5, l5⟩ := Rk.take L k4
                dsimp only at k5
                obtain ⟨⟨p6, y⟩, m6, e6, k6, l6⟩ := i1 _ m5 k5 (by omega) (by omega)
                rw [e6]
                exact ⟨_, m6, rfl, k6, by omega⟩
              · exact ⟨_, m4, rfl, k4, by omega⟩
            · obtain ⟨m3, k3, l3⟩ := k1.need L rf.wSemi
              exact ⟨_, m3, rfl, k3, by omega⟩
/-! ## sets, definitions, the whole -/
theorem range_rk (L : Lx s ts) {p : rf.PS} {m : Nat} (h : Rk s ts p m) : ∃ m', Rk s ts (rf.rangeP s p).1 m' ∧ m' ≤ m - 1 := by
  obtain ⟨m1, k1, l1⟩ := h.kind L 47
  unfold rf.rangeP
  split
  · obtain ⟨m2, k2, l2⟩ := k1.kind L 48
    obtain ⟨m3, k3, l3⟩ := k2.kind L 48
    exact ⟨m3, k3, by omega⟩
  · exact ⟨m1, k1, l1⟩
theorem tot_rgs (L : Lx s ts) : ∀ f b l, Tl s ts 2 f (fun p => rf.rangesLp s f b p l)
  | 0, b, l => fun p m h h1 h2 => by omega
  | f + 1, b, l => fun p m h h1 h2 => by
    dsimp only
    rw [rf.rangesLp]
    by_cases hc : b = true ∧ p.bad < 0
    · rw [if_pos hc]
      have hm : 0 < m := by
        rcases Nat.eq_zero_or_pos m with hz | hz
        · have := h.zero hz; omega
        · exact hz
      obtain ⟨m1, k1, l1⟩ := range_rk L h
      split
      · obtain ⟨m2, k2, l2⟩ := k1.take L
        obtain ⟨r, m3, e3, k3, l3⟩ := tot_rgs L f true (l ++ [(rf.rangeP s p).2]) _ m2 k2 (by omega) (by omega)
        exact ⟨r, m3, e3, k3, by omega⟩
      · obtain ⟨r, m3, e3, k3, l3⟩ := tot_rgs L f false (l ++ [(rf.rangeP s p).2]) _ m1 k1 (by omega) (by omega)
        exact ⟨r, m3, e3, k3, by omega⟩
    · rw [if_neg hc]
      obtain ⟨m1, k1, l1⟩ := h.need L rf.xBrace2
      exact ⟨_, m1, rfl, k1, by omega⟩
theorem tot_def (L : Lx s ts) {f m : Nat} {p : rf.PS} (h : Rk s ts p m) (hf : 16 * m + 5 ≤ f) : ∃ r m', rf.defTw s f p = some r ∧ Rk s ts r.1 m' ∧ m' ≤ m - 1 := by
  obtain ⟨m1, k1, l1⟩ := h.take L
  obtain ⟨m2, k2, l2⟩ := k1.kind L 110
  obtain ⟨m3, k3, l3⟩ := k2.need L rf.wEq
  unfold rf.defTw
  split
  · obtain ⟨⟨p4, t⟩, m4, e4, k4, l4⟩ := (tot_ways L f).1 _ m3 k3 (by omega) (by omega)
    rw [e4]
    obtain ⟨m5, k5, l5⟩ := Rk.need L (x := rf.wSemi) k4
    exact ⟨_, m5, rfl, k5, by omega⟩
  · obtain ⟨m4, k4, l4⟩ := k3.need L rf.xBrace
    obtain ⟨⟨p5, l⟩, m5, e5, k5, l5⟩ := tot_rgs L f true [] _ m4 k4 (by omega) (by omega)
    dsimp only at e5
    unfold rf.rangesTw
    rw [e5]
    obtain ⟨m6, k6, l6⟩ := Rk.need L (x := rf.wSemi) k5
    exact ⟨_, m6, rfl, k6, by omega⟩
theorem tot_defs (L : Lx s ts) {F N : Nat} (hF : 16 * N + 5 ≤ F) : ∀ (k : Nat) {p : rf.PS} {m : Nat} (l : List rf.Df), Rk s ts p m → m ≤ N → m + 1 ≤ k → ∃ r m', rf.defsLp s F k p l = some r ∧ Rk s ts r.1 m' ∧ m' ≤ m
  | 0, p, m, l, h, h1, h2 => by omega
  | k + 1, p, m, l, h, h1, h2 => by
    rw [rf.defsLp]
    by_cases hc : (rf.isP p rf.wSet || rf.isP p rf.wWay) = true
    · rw [if_pos hc]
      have hm : 0 < m := by
        rcases Nat.eq_zero_or_pos m with hz | hz
        · have hb := h.zero hz
          rw [bad_is hb, bad_is hb] at hc; cases hc
        · exact hz
      have hp : ∃ m1, Rk s ts (if l.length = 8 then rf.failP p else p) m1 ∧ m1 ≤ m := by
        split
        · exact ⟨0, .fail _ rfl, by omega⟩
        · exact ⟨m, h, Nat.le_refl _⟩
      obtain ⟨m1, k1, l1⟩ := hp
      obtain ⟨⟨p2, d⟩, m2, e2, k2, l2⟩ := tot_def L k1 (f := F) (by omega)
      rw [e2]
      dsimp only
      obtain ⟨r, m3, e3, k3, l3⟩ := tot_defs L hF k (l ++ [d]) k2 (by omega) (by omega)
      exact ⟨r, m3, e3, k3, by omega⟩
    · rw [if_neg hc]
      exact ⟨_, m, rfl, h, Nat.le_refl _⟩
theorem tot_body (L : Lx s ts) {F N : Nat} (hF : 16 * N + 7 ≤ F) : ∀ (k : Nat) (b : Bool) {p : rf.PS} {m : Nat} (l : List rf.Tr), Rk s ts p m → m ≤ N → m + 1 ≤ k → ∃ r, rf.bodyLp s F k b p l = some r
  | 0, b, p, m, l, h, h1, h2 => by omega
  | k + 1, b, p, m, l, h, h1, h2 => by
    rw [rf.bodyLp]
    by_cases hc : b = true ∧ p.bad < 0
    · rw [if_pos hc]
      have hm : 0 < m := by
        rcases Nat.eq_zero_or_pos m with hz | hz
        · have := h.zero hz; omega
        · exact hz
      obtain ⟨⟨p2, x⟩, m2, e2, k2, l2⟩ := (tot_stmts L F).2.2.1 p m h (by omega) (by omega)
      rw [e2]
      dsimp only
      exact tot_body L hF k _ (l ++ [x]) k2 (by omega) (by omega)
    · rw [if_neg hc]
      exact ⟨_, rfl⟩
end
theorem comp_tot {s : ByteArray} (hs : s.size ≤ 600) : ∃ c, rf.compP s 10000 = some c := by
  obtain ⟨hok, hl0⟩ := allP_ok hs
  have L := lx_all hs
  have hn := hok.n1
  have h0 : Rk s (allP s) (rf.ps0 s) (allP s).length := Or.inr ⟨by show (-1 : Int) < 0; decide, 0, hl0, by omega, rfl, rfl⟩
  obtain ⟨⟨p1, ds⟩, m1, e1, k1, l1⟩ := tot_defs L (F := 10000) (N := (allP s).length) (by omega) 10000 [] h0 (Nat.le_refl _) (by omega)
  obtain ⟨⟨p2, ks⟩, e2⟩ := tot_body L (F := 10000) (N := (allP s).length) (by omega) 10000 true [] k1 l1 (by omega)
  unfold rf.compP
  rw [e1]
  dsimp only
  dsimp only at e2
  rw [e2]
  exact ⟨_, rfl⟩
end Go.Proofs.YtgdeeodifnegiaaGreatDoor
