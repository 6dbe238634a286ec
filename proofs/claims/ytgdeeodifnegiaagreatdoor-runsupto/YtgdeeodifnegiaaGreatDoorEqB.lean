/- The two readers side by side: sums, conditions; no program. -/
import Derived.Test.YtgdeeodifnegiaaGreatDoorEqA
namespace Go.Proofs.YtgdeeodifnegiaaGreatDoor
open Go.RowKit

/-! ## what a tree says -/
abbrev nB : ByteArray := ⟨#[]⟩
inductive AmtT : rf.Tr → AmtM → Prop
  | num (n a : Int) : AmtT (.mk rf.wNumber nB n a []) (constM n)
  | pref : AmtT (.mk rf.wPref nB 0 0 []) prefM
  | med : AmtT (.mk rf.wMed nB 0 0 []) medM
  | len : AmtT (.mk rf.wLen nB 0 0 []) lenM
  | plus {x y : rf.Tr} {a b : AmtM} : AmtT x a → AmtT y b → AmtT (.mk rf.wPlus nB 0 0 [x, y]) (plusM a b 1)
  | minus {x y : rf.Tr} {a b : AmtM} : AmtT x a → AmtT y b → AmtT (.mk rf.wMinus nB 0 0 [x, y]) (plusM a b (-1))
inductive CndT (Ds : List DefP) : rf.Tr → CndM → Prop
  | eq {x y : rf.Tr} {a b : AmtM} : AmtT x a → AmtT y b → CndT Ds (.mk rf.wEq nB 0 0 [x, y]) (eqM a b)
  | lt {x y : rf.Tr} {a b : AmtM} : AmtT x a → AmtT y b → CndT Ds (.mk rf.wLess nB 0 0 [x, y]) (ltM a b)
  | or {x y : rf.Tr} {a b : CndM} : CndT Ds x a → CndT Ds y b → CndT Ds (.mk rf.wOr nB 0 0 [x, y]) (orM a b)
  | and {x y : rf.Tr} {a b : CndM} : CndT Ds x a → CndT Ds y b → CndT Ds (.mk rf.wAnd nB 0 0 [x, y]) (andM a b)
  | not {x : rf.Tr} {a : CndM} : CndT Ds x a → CndT Ds (.mk rf.wNot nB 0 0 [x]) (notM a)
  | marked (n a : Int) : CndT Ds (.mk rf.wMarked nB n a []) (markedM n)
  | net (t : ByteArray) (a : Int) {S : SetM} : findSet Ds t = some S → CndT Ds (.mk rf.wIn t 0 a []) (netInM S)
  | like (t : ByteArray) (a : Int) {W : WayM} : findWay Ds t = some W → CndT Ds (.mk rf.wLike t 0 a []) (likeM W)
/-- the first fault stays -/
def orT (o : Option Int) (x : Int) : Option Int := match o with | some a => some a | none => if 0 ≤ x then some x else none
theorem orT_neg {o : Option Int} {x : Int} (h : x < 0) : orT o x = o := by cases o <;> simp [orT] <;> omega
theorem orT_two (o : Option Int) (x y : Int) : orT (orT o x) y = orT o (if 0 ≤ x then x else y) := by
  cases o with
  | some a => rfl
  | none =>
    by_cases h : 0 ≤ x
    · rw [if_pos h]; simp [orT, h]
    · rw [if_neg h]; simp [orT, h]
theorem tell_orT (o : Option Int) {x : Int} (h : 0 ≤ x) : tellR o x = orT o x := by cases o <;> simp [tellR, orT, h]
/-- the definitions' names, to both -/
def DsOk (ds : List rf.Df) (Ds : List DefP) : Prop := ∀ t, (rf.findI t false ds 0 < 0 ↔ findSet Ds t = none) ∧ (rf.findI t true ds 0 < 0 ↔ findWay Ds t = none)
theorem strays_nil (ds : List rf.Df) : rf.strays ds [] = -1 := by rw [rf.strays]
theorem strays_cons (ds : List rf.Df) (t : rf.Tr) (l : List rf.Tr) : rf.strays ds (t :: l) = if 0 ≤ rf.strayT ds t then rf.strayT ds t else rf.strays ds l := by rw [rf.strays]
theorem bads_nil : rf.badNums [] = -1 := by rw [rf.badNums]
theorem bads_cons (t : rf.Tr) (l : List rf.Tr) : rf.badNums (t :: l) = if 0 ≤ rf.badNum t then rf.badNum t else rf.badNums l := by rw [rf.badNums]
/-- a tree that is no name -/
def noName (op : ByteArray) : Bool := !(op.toList == rf.lIn) && !(op.toList == rf.lLike)
def noNum (op : ByteArray) : Bool := !(op.toList == rf.lMarked) && !(op.toList == rf.lMark) && !(op.toList == rf.lUnmark) && !(op.toList == rf.lPrepend)
theorem stray_other (ds : List rf.Df) {op : ByteArray} (h : noName op = true) (x : ByteArray) (n a : Int) (ks : List rf.Tr) : rf.strayT ds (.mk op x n a ks) = rf.strays ds ks := by
  unfold noName at h
  simp only [Bool.and_eq_true, Bool.not_eq_true'] at h
  rw [rf.strayT, if_neg (by rw [h.1, h.2]; simp)]
theorem bad_other {op : ByteArray} (h : noNum op = true) (x : ByteArray) (n a : Int) (ks : List rf.Tr) : rf.badNum (.mk op x n a ks) = rf.badNums ks := by
  unfold noNum at h
  simp only [Bool.and_eq_true, Bool.not_eq_true'] at h
  rw [rf.badNum, if_neg (by rw [h.1.1.1]; simp), if_neg (by rw [h.1.1.2, h.1.2]; simp), if_neg (by rw [h.2]; simp)]
theorem AmtT.quiet {t : rf.Tr} {m : AmtM} (h : AmtT t m) (ds : List rf.Df) : rf.strayT ds t = -1 ∧ rf.badNum t = -1 := by
  induction h with
  | num n a => exact ⟨by rw [stray_other ds (by decide +kernel), strays_nil], by rw [bad_other (by decide +kernel), bads_nil]⟩
  | pref => exact ⟨by rw [stray_other ds (by decide +kernel), strays_nil], by rw [bad_other (by decide +kernel), bads_nil]⟩
  | med => exact ⟨by rw [stray_other ds (by decide +kernel), strays_nil], by rw [bad_other (by decide +kernel), bads_nil]⟩
  | len => exact ⟨by rw [stray_other ds (by decide +kernel), strays_nil], by rw [bad_other (by decide +kernel), bads_nil]⟩
  | plus _ _ ih1 ih2 => exact ⟨by rw [stray_other ds (by decide +kernel), strays_cons, strays_cons, strays_nil, ih1.1, ih2.1]; rfl, by rw [bad_other (by decide +kernel), bads_cons, bads_cons, bads_nil, ih1.2, ih2.2]; rfl⟩
  | minus _ _ ih1 ih2 => exact ⟨by rw [stray_other ds (by decide +kernel), strays_cons, strays_cons, strays_nil, ih1.1, ih2.1]; rfl, by rw [bad_other (by decide +kernel), bads_cons, bads_cons, bads_nil, ih1.2, ih2.2]; rfl⟩
/-! ## marks and their kin have a kid -/
def noKid (op : ByteArray) : Bool := !((op.toList == rf.lMark) || (op.toList == rf.lUnmark) || (op.toList == rf.lPrepend))
theorem wf_op {op : ByteArray} (h : noKid op = true) (x : ByteArray) (n a : Int) {ks : List rf.Tr} (hk : rf.WfTrs ks) : rf.WfTr (.mk op x n a ks) := by
  rw [rf.WfTr]
  refine ⟨fun e => ?_, hk⟩
  unfold noKid at h
  rw [e] at h; cases h
theorem wf_kid (op x : ByteArray) (n a : Int) {k : rf.Tr} {ks : List rf.Tr} (hk : rf.WfTrs (k :: ks)) : rf.WfTr (.mk op x n a (k :: ks)) := by
  rw [rf.WfTr]
  exact ⟨fun _ => by simp, hk⟩
theorem wfs0 : rf.WfTrs [] := by rw [rf.WfTrs]; trivial
theorem wfs_cons {t : rf.Tr} {l : List rf.Tr} (h : rf.WfTr t) (hl : rf.WfTrs l) : rf.WfTrs (t :: l) := by rw [rf.WfTrs]; exact ⟨h, hl⟩
theorem wfs1 {t : rf.Tr} (h : rf.WfTr t) : rf.WfTrs [t] := wfs_cons h wfs0
theorem wfs2 {t u : rf.Tr} (h : rf.WfTr t) (hu : rf.WfTr u) : rf.WfTrs [t, u] := wfs_cons h (wfs1 hu)
theorem wfs_snoc : ∀ {l : List rf.Tr} {t : rf.Tr}, rf.WfTrs l → rf.WfTr t → rf.WfTrs (l ++ [t])
  | [], _, _, h => wfs1 h
  | x :: l, _, h, ht => by
    rw [rf.WfTrs] at h
    exact wfs_cons h.1 (wfs_snoc h.2 ht)
theorem AmtT.wf {t : rf.Tr} {m : AmtM} (h : AmtT t m) : rf.WfTr t := by
  induction h with
  | num n a => exact wf_op (by decide +kernel) _ _ _ wfs0
  | pref => exact wf_op (by decide +kernel) _ _ _ wfs0
  | med => exact wf_op (by decide +kernel) _ _ _ wfs0
  | len => exact wf_op (by decide +kernel) _ _ _ wfs0
  | plus _ _ i1 i2 => exact wf_op (by decide +kernel) _ _ _ (wfs2 i1 i2)
  | minus _ _ i1 i2 => exact wf_op (by decide +kernel) _ _ _ (wfs2 i1 i2)
/-! ## sums -/
structure SumQR (s : ByteArray) (ts : List TokP) (r : RS) (q : rf.PS × rf.Tr) (z : RS × Option AmtM) : Prop where
  al : Al s ts q.1 z.1
  gap : z.1.gap = gapS
  defs : z.1.defs = r.defs
  nam : z.1.nam = r.nam
  num : z.1.num = r.num
  amt : ∃ m, z.2 = some m ∧ AmtT q.2 m
def SumQ (s : ByteArray) (ts : List TokP) (r : RS) (q : rf.PS × rf.Tr) (z : RS × Option AmtM) : Prop := De q.1 z.1 ∨ SumQR s ts r q z
def KeepsB {α : Type} (rd : rf.PS → Option (rf.PS × α)) : Prop := ∀ p q, 0 ≤ p.bad → rd p = some q → q.1.bad = p.bad
theorem bad_sums (s : ByteArray) : ∀ f, KeepsB (rf.sumTw s f) ∧ (∀ t, KeepsB (fun p => rf.sumLp s f p t)) ∧ KeepsB (rf.termTw s f)
  | 0 => ⟨fun _ _ _ h => by simp [rf.sumTw] at h, fun _ _ _ _ h => by simp [rf.sumLp] at h, fun _ _ _ h => by simp [rf.termTw] at h⟩
  | f + 1 => by
    obtain ⟨h1, h2, h3⟩ := bad_sums s f
    refine ⟨fun p q hb h => ?_, fun t p q hb h => ?_, fun p q hb h => ?_⟩
    · rw [rf.sumTw] at h
      split at h
      · cases h
      · rename_i st1 t hx
        have e1 := h3 _ _ hb hx
        have e2 := h2 t _ _ (by rw [e1]; exact hb) h
        exact e2.trans e1
    · dsimp only at h
      rw [rf.sumLp, bad_is hb, bad_is hb, if_neg (by decide)] at h
      cases h; rfl
    · rw [rf.termTw, bad_starts hb, if_neg (by decide)] at h
      split at h
      · cases h; rw [bad_fail hb]
      · cases h; rw [bad_fail hb]
section
variable {s : ByteArray} {ts : List TokP}
theorem words_are : rf.wPref = wd 4 ∧ rf.wMed = wd 5 ∧ rf.wLen = wd 12 ∧ rf.wOpen = sgT 7 ∧ rf.wShut = sgT 8 ∧ rf.wPlus = sgT 12 ∧ rf.wMinus = sgT 13 ∧ rf.wNot = wd 15 ∧ rf.wBrack = sgT 5 ∧ rf.wBrack2 = sgT 6 ∧ rf.wNet = wd 16 ∧ rf.wPath = wd 18 ∧ rf.wMarked = wd 20 ∧ rf.wIn = wd 17 ∧ rf.wLike = wd 19 ∧ rf.wEq = sgT 0 ∧ rf.wLess = sgT 14 ∧ rf.wOr = wd 13 ∧ rf.wAnd = wd 14 := by decide +kernel
theorem words_more : rf.wBrace = sgT 3 ∧ rf.wBrace2 = sgT 4 ∧ rf.wSemi = sgT 1 ∧ rf.wIf = wd 9 ∧ rf.wThen = wd 10 ∧ rf.wElse = wd 11 ∧ rf.wMark = wd 6 ∧ rf.wUnmark = wd 7 ∧ rf.wPrepend = wd 8 ∧ rf.wAccept = wd 2 ∧ rf.wReject = wd 3 ∧ rf.wDot = sgT 15 ∧ rf.wBar = sgT 9 ∧ rf.wStar = sgT 10 ∧ rf.wQuest = sgT 11 ∧ rf.xBrace = sgT 3 ∧ rf.xBrace2 = sgT 4 ∧ rf.xComma = sgT 2 ∧ rf.wWay = wd 1 ∧ rf.wSet = wd 0 := by decide +kernel
theorem Al.isW (L : Lx s ts) {p : rf.PS} {r : RS} (h : Al s ts p r) (x : ByteArray) (j : Nat) (k : Int) (hj : j < 21) (hx : x = wd j) (hk : k = 5 + (j : Int)) : rf.isP p x = decide (kindR ts r = k) := by rw [hx, hk]; exact h.word L hj
theorem Al.isS (L : Lx s ts) {p : rf.PS} {r : RS} (h : Al s ts p r) (x : ByteArray) (j : Nat) (k : Int) (hj : j < 16) (hx : x = sgT j) (hk : k = 26 + (j : Int)) : rf.isP p x = decide (kindR ts r = k) := by rw [hx, hk]; exact h.sign L hj
theorem Al.starts (L : Lx s ts) {p : rf.PS} {r : RS} (h : Al s ts p r) : rf.startsP p = decide (kindR ts r = 2 ∨ kindR ts r = 9 ∨ kindR ts r = 10 ∨ kindR ts r = 17 ∨ kindR ts r = 33) := by
  obtain ⟨w1, w2, w3, w4, _⟩ := words_are
  unfold rf.startsP
  rw [decide_eq_true h.bad, h.isW L rf.wPref 4 9 (by decide) w1 rfl, h.isW L rf.wMed 5 10 (by decide) w2 rfl, h.isW L rf.wLen 12 17 (by decide) w3 rfl, h.isS L rf.wOpen 7 33 (by decide) w4 rfl]
  have hk := (h.kinds L).1
  have e : (p.next.kind == 48) = decide (kindR ts r = 2) := by
    rw [Bool.eq_iff_iff]; simp [hk]
  rw [e]
  simp only [Bool.true_and, Bool.decide_or, Bool.or_assoc]
theorem de_sum {f n g k : Nat} {p : rf.PS} {r : RS} {t : rf.Tr} {a : Option AmtM} {q : rf.PS × rf.Tr} {z : RS × Option AmtM} (h : De p r) (h1 : rf.sumLp s f p t = some q) (h2 : sumLp ts (termTw ts n g) k r a = some z) : De q.1 z.1 := by
  obtain ⟨x, x0, x1, x2⟩ := h
  refine ⟨x, x0, ?_, ?_⟩
  · rw [(bad_sums s f).2.1 t p q (by omega) h1]; exact x1
  · exact (syn_cl ts x).sumLp ((syn_cl ts x).termTw n g) k r a z x2 h2
theorem sim_sums (L : Lx s ts) (n : Nat) : ∀ f,
    (∀ p r g q z, Al s ts p r → rf.sumTw s f p = some q → sumTw ts n g r = some z → SumQ s ts r q z) ∧
    (∀ p r r0 g k t m q z, Al s ts p r → r.gap = gapS → r.defs = r0.defs → r.nam = r0.nam → r.num = r0.num → AmtT t m → rf.sumLp s f p t = some q → sumLp ts (termTw ts n g) k r (some m) = some z → SumQ s ts r0 q z) ∧
    (∀ p r g q z, Al s ts p r → rf.termTw s f p = some q → termTw ts n g r = some z → SumQ s ts r q z)
  | 0 => ⟨fun _ _ _ _ _ _ h => by simp [rf.sumTw] at h, fun _ _ _ _ _ _ _ _ _ _ _ _ _ _ _ h => by simp [rf.sumLp] at h, fun _ _ _ _ _ _ h => by simp [rf.termTw] at h⟩
  | f + 1 => by
    obtain ⟨i1, i2, i3⟩ := sim_sums L n f
    obtain ⟨w1, w2, w3, w4, w5, w6, w7, _⟩ := words_are
    refine ⟨fun p r g q z h h1 h2 => ?_, fun p r r0 g k t m q z h hg hd hn hu ht h1 h2 => ?_, fun p r g q z h h1 h2 => ?_⟩
    · rw [rf.sumTw] at h1
      unfold sumTw sumBy at h2
      split at h1
      · cases h1
      · rename_i p1 t1 e1
        split at h2
        · cases h2
        · rename_i r1 a1 e2
          rcases i3 p r g _ _ h e1 e2 with hde | hs
          · exact Or.inl (de_sum hde h1 h2)
          · obtain ⟨m, hm, ht⟩ := hs.amt
            dsimp only at hm ht
            subst hm
            exact i2 p1 r1 r g n t1 m q z hs.al hs.gap hs.defs hs.nam hs.num ht h1 h2
    · rw [rf.sumLp, h.isS L rf.wPlus 12 38 (by decide) w6 rfl, h.isS L rf.wMinus 13 39 (by decide) w7 rfl] at h1
      cases k with
      | zero => cases h2
      | succ k =>
      rw [sumLp] at h2
      by_cases e38 : kindR ts r = 38
      · rw [decide_eq_true e38, Bool.true_or, if_pos rfl] at h1
        rw [if_pos e38] at h2
        split at h1
        · cases h1
        · rename_i p2 x e1
          split at h2
          · cases h2
          · rename_i r2 b e2
            rcases i3 _ _ g _ _ (h.go L (by omega) (by omega)) e1 e2 with hde | hs
            · exact Or.inl (de_sum hde h1 h2)
            · obtain ⟨m2, hm, ht2⟩ := hs.amt
              dsimp only at hm ht2
              subst hm
              refine i2 p2 r2 r0 g k _ (plusM m m2 1) q z hs.al hs.gap (hs.defs.trans hd) (hs.nam.trans hn) (hs.num.trans hu) ?_ h1 h2
              rw [(h.stext L (j := 12) (by decide) e38).2, ← w6]
              exact .plus ht ht2
      · rw [decide_eq_false e38] at h1
        rw [if_neg e38] at h2
        by_cases e39 : kindR ts r = 39
        · rw [decide_eq_true e39, if_pos (by simp)] at h1
          rw [if_pos e39] at h2
          split at h1
          · cases h1
          · rename_i p2 x e1
            split at h2
            · cases h2
            · rename_i r2 b e2
              rcases i3 _ _ g _ _ (h.go L (by omega) (by omega)) e1 e2 with hde | hs
              · exact Or.inl (de_sum hde h1 h2)
              · obtain ⟨m2, hm, ht2⟩ := hs.amt
                dsimp only at hm ht2
                subst hm
                refine i2 p2 r2 r0 g k _ (plusM m m2 (-1)) q z hs.al hs.gap (hs.defs.trans hd) (hs.nam.trans hn) (hs.num.trans hu) ?_ h1 h2
                rw [(h.stext L (j := 13) (by decide) e39).2, ← w7]
                exact .minus ht ht2
        · rw [decide_eq_false e39, if_neg (by simp)] at h1
          rw [if_neg e39] at h2
          cases h1; cases h2
          exact Or.inr ⟨h, hg, hd, hn, hu, m, rfl, ht⟩
    · cases g with
      | zero => cases h2
      | succ g =>
      rw [termTw] at h2
      rw [rf.termTw, h.starts L] at h1
      by_cases e33 : kindR ts r = 33
      · rw [decide_eq_true (by omega), if_pos rfl, h.isS L rf.wOpen 7 33 (by decide) w4 rfl, decide_eq_true e33, if_pos rfl] at h1
        rw [if_neg (by omega), if_neg (by omega), if_neg (by omega), if_neg (by omega), if_pos e33] at h2
        split at h1
        · cases h1
        · rename_i p1 t1 e1
          split at h2
          · cases h2
          · rename_i r1 a1 e2
            cases h1; cases h2
            rcases h.open_ L e33 (by decide) (by decide) (by decide) with ⟨ho, o1, o2, o3, o4⟩ | hde
            · rcases i1 _ _ g _ _ ho e1 e2 with hde | hs
              · exact Or.inl ((hde.need (s := s) (ts := ts) rf.wShut (k := 34) (by decide)).dec)
              · rw [w5]
                rcases hs.al.needS L (j := 8) (by decide) (by omega) with ⟨k1, k2, k3⟩ | hde
                · right
                  have e34 : shutR ts 34 r1 = decR (goR ts r1) := by
                    unfold shutR
                    exact congrArg (fun x => decR x.1) k3
                  obtain ⟨m, hm, ht⟩ := hs.amt
                  refine ⟨?_, ?_, ?_, ?_, ?_, m, hm, ht⟩
                  · dsimp only; rw [e34]; exact k2.dec
                  · dsimp only; rw [e34]; exact go_gap (by rw [k1]; decide) hs.al
                  · dsimp only; rw [e34]; exact hs.defs.trans o2
                  · dsimp only; rw [e34]; exact hs.nam.trans o3
                  · dsimp only; rw [e34]; exact hs.num.trans o4
                · exact Or.inl hde.dec
            · obtain ⟨x, x0, x1, x2⟩ := hde
              refine Or.inl (De.dec (De.need ⟨x, x0, ?_, ?_⟩ rf.wShut (k := 34) (by decide)))
              · exact ((bad_sums s f).1 _ _ (by omega) e1).trans x1
              · exact (syn_cl ts x).sumTw n g _ _ x2 e2
      · by_cases e2 : kindR ts r = 2
        · rw [decide_eq_true (by omega), if_pos rfl, h.isS L rf.wOpen 7 33 (by decide) w4 rfl, decide_eq_false e33, if_neg (by decide), if_pos ((h.kinds L).1.2 e2)] at h1
          rw [if_pos e2] at h2
          cases h1; cases h2
          rcases h.kind L (q := 48) (k := 2) (by simp) with ⟨k1, k2, k3⟩ | hde
          · refine Or.inr ⟨k2, go_gap (by omega) h, rfl, rfl, rfl, _, rfl, ?_⟩
            dsimp only
            rw [(h.number L e2).1]
            exact .num _ _
          · have : takeR ts 2 r = (goR ts r, tokR ts r) := by unfold takeR; rw [if_pos e2]
            rw [this] at hde
            exact Or.inl hde
        · have hno : ∀ k : Int, 2 ≤ k → kindR ts r = k → k ≠ 27 → k ≠ 28 → Al s ts (rf.takeP s p) (goR ts r) := fun k hk e a b => h.go L (by omega) (by omega)
          by_cases e9 : kindR ts r = 9
          · rw [decide_eq_true (by omega), if_pos rfl, h.isS L rf.wOpen 7 33 (by decide) w4 rfl, decide_eq_false e33, if_neg (by decide), if_neg (fun x => e2 ((h.kinds L).1.1 x))] at h1
            rw [if_neg e2, if_pos e9] at h2
            cases h1; cases h2
            refine Or.inr ⟨hno 9 (by decide) e9 (by decide) (by decide), go_gap (by omega) h, rfl, rfl, rfl, _, rfl, ?_⟩
            dsimp only
            rw [h.wtext L (j := 4) (by decide) e9, ← w1]
            exact .pref
          · by_cases e10 : kindR ts r = 10
            · rw [decide_eq_true (by omega), if_pos rfl, h.isS L rf.wOpen 7 33 (by decide) w4 rfl, decide_eq_false e33, if_neg (by decide), if_neg (fun x => e2 ((h.kinds L).1.1 x))] at h1
              rw [if_neg e2, if_neg e9, if_pos e10] at h2
              cases h1; cases h2
              refine Or.inr ⟨hno 10 (by decide) e10 (by decide) (by decide), go_gap (by omega) h, rfl, rfl, rfl, _, rfl, ?_⟩
              dsimp only
              rw [h.wtext L (j := 5) (by decide) e10, ← w2]
              exact .med
            · by_cases e17 : kindR ts r = 17
              · rw [decide_eq_true (by omega), if_pos rfl, h.isS L rf.wOpen 7 33 (by decide) w4 rfl, decide_eq_false e33, if_neg (by decide), if_neg (fun x => e2 ((h.kinds L).1.1 x))] at h1
                rw [if_neg e2, if_neg e9, if_neg e10, if_pos e17] at h2
                cases h1; cases h2
                refine Or.inr ⟨hno 17 (by decide) e17 (by decide) (by decide), go_gap (by omega) h, rfl, rfl, rfl, _, rfl, ?_⟩
                dsimp only
                rw [h.wtext L (j := 12) (by decide) e17, ← w3]
                exact .len
              · rw [decide_eq_false (by omega), if_neg (by decide)] at h1
                rw [if_neg e2, if_neg e9, if_neg e10, if_neg e17, if_neg e33] at h2
                cases h2
                left
                split at h1
                · cases h1; exact h.fail L
                · cases h1; exact h.fail L
end
end Go.Proofs.YtgdeeodifnegiaaGreatDoor
