/- The two readers side by side: statements, blocks; no program. -/
import Derived.Test.YtgdeeodifnegiaaGreatDoorEqC
namespace Go.Proofs.YtgdeeodifnegiaaGreatDoor
open Go.RowKit

mutual
inductive StpT (Ds : List DefP) : rf.Tr → StpM → Prop
  | accept : StpT Ds (.mk rf.wAccept nB 0 0 []) (concludeM 1)
  | reject : StpT Ds (.mk rf.wReject nB 0 0 []) (concludeM 2)
  | pref {x : rf.Tr} {a : AmtM} : AmtT x a → StpT Ds (.mk rf.wPref nB 0 0 [x]) (setPrefM a)
  | med {x : rf.Tr} {a : AmtM} : AmtT x a → StpT Ds (.mk rf.wMed nB 0 0 [x]) (setMedM a)
  | mark (n a : Int) : StpT Ds (.mk rf.wMark nB 0 0 [.mk rf.wNumber nB n a []]) (markM n)
  | unmark (n a : Int) : StpT Ds (.mk rf.wUnmark nB 0 0 [.mk rf.wNumber nB n a []]) (unmarkM n)
  | prepend (n a : Int) : StpT Ds (.mk rf.wPrepend nB 0 0 [.mk rf.wNumber nB n a []]) (prependM n)
  | if1 {c : rf.Tr} {m : CndM} {ks : List rf.Tr} {yes : List StpM} : CndT Ds c m → StpsT Ds ks yes → StpT Ds (.mk rf.wIf nB 0 0 [c, .mk rf.wBlock nB 0 0 ks]) (chooseM m yes [])
  | if2 {c : rf.Tr} {m : CndM} {ks js : List rf.Tr} {yes no : List StpM} : CndT Ds c m → StpsT Ds ks yes → StpsT Ds js no → StpT Ds (.mk rf.wIf nB 0 0 [c, .mk rf.wBlock nB 0 0 ks, .mk rf.wBlock nB 0 0 js]) (chooseM m yes no)
inductive StpsT (Ds : List DefP) : List rf.Tr → List StpM → Prop
  | nil : StpsT Ds [] []
  | cons {t : rf.Tr} {m : StpM} {ts : List rf.Tr} {ms : List StpM} : StpT Ds t m → StpsT Ds ts ms → StpsT Ds (t :: ts) (m :: ms)
end
theorem StpsT.snoc {Ds : List DefP} : ∀ {ks : List rf.Tr} {ms : List StpM} {t : rf.Tr} {m : StpM}, StpsT Ds ks ms → StpT Ds t m → StpsT Ds (ks ++ [t]) (ms ++ [m])
  | [], [], _, _, _, h => .cons h .nil
  | _ :: _, _ :: _, _, _, .cons a b, h => .cons a (b.snoc h)
theorem allO_snoc : ∀ {l : List (Option StpM)} {o : Option StpM} {ms : List StpM}, allO (l ++ [o]) = some ms → ∃ ms0 m, allO l = some ms0 ∧ o = some m ∧ ms = ms0 ++ [m]
  | [], o, ms, h => by
    cases o with
    | none => cases h
    | some m => exact ⟨[], m, rfl, rfl, (Option.some.inj h).symm⟩
  | none :: l, o, ms, h => by cases h
  | some x :: l, o, ms, h => by
    have h' : (allO (l ++ [o])).map (fun t => x :: t) = some ms := h
    obtain ⟨ms1, h1, rfl⟩ := Option.map_eq_some_iff.1 h'
    obtain ⟨ms0, m, e1, e2, rfl⟩ := allO_snoc h1
    exact ⟨x :: ms0, m, by show (allO l).map _ = _; rw [e1]; rfl, e2, rfl⟩
theorem chooseO_some {c : Option CndM} {yes no : List (Option StpM)} {m : StpM} (h : chooseO c yes no = some m) : ∃ x y z, c = some x ∧ allO yes = some y ∧ allO no = some z ∧ m = chooseM x y z := by
  unfold chooseO at h
  split at h
  · cases h
  · rename_i x
    split at h
    · cases h
    · rename_i y e1
      split at h
      · cases h
      · rename_i z e2
        exact ⟨x, y, z, rfl, e1, e2, (Option.some.inj h).symm⟩
theorem strays_snoc (ds : List rf.Df) : ∀ (l : List rf.Tr) (x : rf.Tr), rf.strays ds (l ++ [x]) = if 0 ≤ rf.strays ds l then rf.strays ds l else if 0 ≤ rf.strayT ds x then rf.strayT ds x else -1
  | [], x => by rw [strays_nil, if_neg (by decide), List.nil_append, strays_cons, strays_nil]
  | t :: l, x => by
    rw [List.cons_append, strays_cons, strays_cons]
    by_cases h : 0 ≤ rf.strayT ds t
    · simp only [if_pos h]
    · simp only [if_neg h]; exact strays_snoc ds l x
theorem bads_snoc : ∀ (l : List rf.Tr) (x : rf.Tr), rf.badNums (l ++ [x]) = if 0 ≤ rf.badNums l then rf.badNums l else if 0 ≤ rf.badNum x then rf.badNum x else -1
  | [], x => by rw [bads_nil, if_neg (by decide), List.nil_append, bads_cons, bads_nil]
  | t :: l, x => by
    rw [List.cons_append, bads_cons, bads_cons]
    by_cases h : 0 ≤ rf.badNum t
    · simp only [if_pos h]
    · simp only [if_neg h]; exact bads_snoc l x
section
variable {s : ByteArray} {ts : List TokP}
structure StmQR (s : ByteArray) (ts : List TokP) (ds : List rf.Df) (r : RS) (q : rf.PS × rf.Tr) (z : RS × Option (Option StpM)) : Prop where
  al : Al s ts q.1 z.1
  defs : z.1.defs = r.defs
  nam : z.1.nam = orT r.nam (rf.strayT ds q.2)
  num : z.1.num = orT r.num (rf.badNum q.2)
  stp : ∀ m, z.2 = some (some m) → StpT r.defs q.2 m
  wf : rf.WfTr q.2
def StmQ (s : ByteArray) (ts : List TokP) (ds : List rf.Df) (r : RS) (q : rf.PS × rf.Tr) (z : RS × Option (Option StpM)) : Prop := (∃ o, z.2 = some o) ∧ (De q.1 z.1 ∨ StmQR s ts ds r q z)
structure BlkQR (s : ByteArray) (ts : List TokP) (ds : List rf.Df) (r0 : RS) (p : rf.PS) (ks : List rf.Tr) (r : RS) (l : List (Option StpM)) : Prop where
  al : Al s ts p r
  defs : r.defs = r0.defs
  nam : r.nam = orT r0.nam (rf.strays ds ks)
  num : r.num = orT r0.num (rf.badNums ks)
  stp : ∀ ms, allO l = some ms → StpsT r0.defs ks ms
  wf : rf.WfTrs ks
def BlkQ (s : ByteArray) (ts : List TokP) (ds : List rf.Df) (r : RS) (q : rf.PS × rf.Tr) (z : RS × List (Option StpM)) : Prop := De q.1 z.1 ∨ ∃ ks, q.2 = .mk rf.wBlock nB 0 0 ks ∧ BlkQR s ts ds r q.1 ks z.1 z.2
theorem Al.semi (L : Lx s ts) {p : rf.PS} {r : RS} (h : Al s ts p r) (hg : r.gap = gapS) : De (rf.needP s p rf.wSemi) (endR ts r) ∨ (Al s ts (rf.needP s p rf.wSemi) (endR ts r) ∧ (endR ts r).defs = r.defs ∧ (endR ts r).nam = r.nam ∧ (endR ts r).num = r.num) := by
  rw [words_more.2.2.1]
  rcases h.needS L (j := 1) (by decide) (fun _ => hg) with ⟨k1, k2, k3⟩ | hde
  · right
    have e : endR ts r = goR ts r := by unfold endR; exact congrArg Prod.fst k3
    rw [e]
    exact ⟨k2, rfl, rfl, rfl⟩
  · exact Or.inl hde
theorem De.semi {p : rf.PS} {r : RS} (h : De p r) : De (rf.needP s p rf.wSemi) (endR ts r) := h.need (s := s) (ts := ts) rf.wSemi (k := 27) (by decide)
theorem eqB_wd : ∀ j, j < 10 → (rf.eqB (wd j) rf.lPref = decide (j = 4)) ∧ (rf.eqB (wd j) rf.lMed = decide (j = 5)) ∧ (rf.eqB (wd j) rf.lMark = decide (j = 6)) ∧ (rf.eqB (wd j) rf.lUnmark = decide (j = 7)) ∧ (rf.eqB (wd j) rf.lPrepend = decide (j = 8)) ∧ (rf.eqB (wd j) rf.lIf = decide (j = 9)) := by decide +kernel
theorem bad_stmts (s : ByteArray) : ∀ f, KeepsB (rf.blockTw s f) ∧ (∀ ks, KeepsB (fun p => rf.blockLp s f p ks)) ∧ KeepsB (rf.stmtTw s f) ∧ KeepsB (rf.stmtRest s f)
  | 0 => ⟨fun _ _ _ h => by simp [rf.blockTw] at h, fun _ _ _ _ h => by simp [rf.blockLp] at h, fun _ _ _ h => by simp [rf.stmtTw] at h, fun _ _ _ h => by simp [rf.stmtRest] at h⟩
  | f + 1 => by
    obtain ⟨h1, h2, h3, h4⟩ := bad_stmts s f
    obtain ⟨k1, _, _⟩ := bad_sums s f
    obtain ⟨c1, _⟩ := bad_conds s f
    refine ⟨fun p q hb h => ?_, fun ks p q hb h => ?_, fun p q hb h => ?_, fun p q hb h => ?_⟩
    · rw [rf.blockTw, bad_is hb, if_neg (by decide), bad_need hb, bad_line hb] at h
      exact h2 _ _ _ hb h
    · dsimp only at h
      rw [rf.blockLp, if_neg (by omega)] at h
      cases h
      show (rf.lineP (rf.needP s p rf.wBrace2)).bad = _
      rw [bad_need hb, bad_line hb]
    · rw [rf.stmtTw] at h
      have : (if rf.beginsP p = true then p else rf.failP p) = p := by split; rfl; exact bad_fail hb
      rw [this] at h
      exact h4 _ _ hb h
    · rw [rf.stmtRest, bad_take hb, bad_need hb, bad_need hb, bad_kind hb, bad_need hb] at h
      split at h
      · split at h
        · cases h
        · rename_i st3 x e
          cases h
          have e1 := k1 _ _ hb e
          dsimp only at e1 ⊢
          rw [bad_need (by omega)]; exact e1
      · split at h
        · cases h; rfl
        · split at h
          · split at h
            · cases h
            · rename_i st2 c e
              have e1 := c1 _ _ _ hb e
              dsimp only at e1
              rw [bad_need (by omega)] at h
              split at h
              · cases h
              · rename_i st3 b e2
                have e3 := h1 _ _ (by omega) e2
                dsimp only at e3
                rw [bad_is (by omega), if_neg (by decide)] at h
                cases h
                exact e3.trans e1
          · cases h; rfl
theorem sim_stmts (L : Lx s ts) (n g0 g1 : Nat) (ds : List rf.Df) {stm : Nat → RS → Option (RS × Option (Option StpM))} (hstm : stm = stmtTw ts n okP (sumTw ts n g0) (condBy ts (notTw ts n (sumTw ts n g0) g1) n)) : ∀ f,
    (∀ p r g q z, DsOk ds r.defs → Al s ts p r → rf.blockTw s f p = some q → blockBy ts (stm g) n r = some z → BlkQ s ts ds r q z) ∧
    (∀ p r r0 g k ks l q z, DsOk ds r0.defs → BlkQR s ts ds r0 p ks r l → rf.blockLp s f p ks = some q → moreLp (stm g) k r l = some z → BlkQ s ts ds r0 q (endLineR (shutR ts 30 z.1), z.2)) ∧
    (∀ p r g q z, DsOk ds r.defs → Al s ts p r → 7 ≤ kindR ts r ∧ kindR ts r ≤ 14 → rf.stmtRest s f p = some q → stm g r = some z → StmQ s ts ds r q z)
  | 0 => ⟨fun _ _ _ _ _ _ _ h => by simp [rf.blockTw] at h, fun _ _ _ _ _ _ _ _ _ _ _ h => by simp [rf.blockLp] at h, fun _ _ _ _ _ _ _ _ h => by simp [rf.stmtRest] at h⟩
  | f + 1 => by
    obtain ⟨i1, i2, i3⟩ := sim_stmts L n g0 g1 ds hstm f
    obtain ⟨v1, v2, v3, v4, v5, v6, v7, v8, v9, v10, v11, _⟩ := words_more
    obtain ⟨w1, w2, _, _, _, _, _, _, _, _, _, _, _, _, _, w16, _⟩ := words_are
    have KS : ∀ x g, Keeps (fun st : RS => st.syn = some x) (stm g) := fun x g => by
      rw [hstm]
      exact (syn_cl ts x).stmtTw n okP ((syn_cl ts x).sumTw n g0) ((syn_cl ts x).cond ((syn_cl ts x).notTw ((syn_cl ts x).sumTw n g0) n g1) n) g
    refine ⟨fun p r g q z hds h h1 h2 => ?_, fun p r r0 g k ks l q z hds h h1 h2 => ?_, fun p r g q z hds h hb h1 h2 => ?_⟩
    · rw [rf.blockTw, h.isS L rf.wBrace 3 29 (by decide) v1 rfl] at h1
      unfold blockBy at h2
      split at h2
      · cases h2
      · rename_i r1 l1 e2
        cases h2
        by_cases e29 : kindR ts r = 29
        · rw [decide_eq_true e29, if_pos rfl] at h1
          have hneed : rf.needP s (rf.opensP p) rf.wBrace = rf.takeP s (rf.opensP p) := by
            have his : rf.isP p rf.wBrace = true := by rw [h.isS L rf.wBrace 3 29 (by decide) v1 rfl, decide_eq_true e29]
            by_cases e8 : p.opn = 8
            · have hb : 0 ≤ (rf.opensP p).bad := by
                unfold rf.opensP; rw [if_pos e8]
                show 0 ≤ (rf.failP p).bad
                unfold rf.failP; rw [if_pos h.bad]
                exact Int.natCast_nonneg _
              rw [bad_need hb, bad_take hb]
            · have hq : rf.isP (rf.opensP p) rf.wBrace = true := by
                unfold rf.opensP; rw [if_neg e8]; exact his
              unfold rf.needP; rw [hq, if_pos rfl]
          rw [hneed] at h1
          rcases h.open_ L e29 (by decide) (by decide) (by decide) with ⟨ho, o1, o2, o3, o4⟩ | hde
          · have hl := ho.line o1
            refine i2 _ _ r g n [] [] q (r1, l1) hds ⟨hl, o2, ?_, ?_, fun ms hms => ?_, wfs0⟩ h1 e2
            · rw [strays_nil, orT_neg (by decide)]; exact o3
            · rw [bads_nil, orT_neg (by decide)]; exact o4
            · cases hms; exact .nil
          · left
            obtain ⟨x, x0, x1, x2⟩ := hde.line
            refine ⟨x, x0, ((bad_stmts s f).2.1 [] _ _ (by omega) h1).trans x1, ?_⟩
            have C := syn_cl ts x
            exact C.line _ (C.shut (keeps_more (KS x g) n _ _ _ x2 e2) (by decide))
        · rw [decide_eq_false e29, if_neg (by decide)] at h1
          have hneed : rf.needP s p rf.wBrace = rf.failP p := by
            unfold rf.needP; rw [h.isS L rf.wBrace 3 29 (by decide) v1 rfl, decide_eq_false e29, if_neg (by decide)]
          rw [hneed] at h1
          left
          obtain ⟨x, x0, x1, x2⟩ := h.fail L
          have C := syn_cl ts x
          have ho : (openR ts 29 r).syn = some x := by
            show (takeR ts 29 (if r.depth = 8 then failR ts r else r)).1.syn = _
            split
            · exact C.take x2 (by decide)
            · unfold takeR; rw [if_neg e29]; exact x2
          rw [bad_line (by omega)] at h1
          refine ⟨x, x0, ((bad_stmts s f).2.1 [] _ _ (by omega) h1).trans x1, ?_⟩
          exact C.line _ (C.shut (keeps_more (KS x g) n _ _ _ (C.line _ ho) e2) (by decide))
    · have hal := h.al
      rw [rf.blockLp, hal.isS L rf.wBrace2 4 30 (by decide) v2 rfl] at h1
      cases k with
      | zero => cases h2
      | succ k =>
      rw [moreLp] at h2
      by_cases e30 : kindR ts r = 30
      · rw [decide_eq_true e30, if_neg (by simp)] at h1
        cases h1
        have hst : stm g r = none ∨ stm g r = some (r, none) := by
          rw [hstm]
          cases g with
          | zero => exact Or.inl rfl
          | succ g =>
            right
            rw [stmtTw, e30]
            rfl
        rcases hst with e | e
        · rw [e] at h2; cases h2
        · rw [e] at h2
          cases h2
          rw [v2]
          rcases hal.needS L (j := 4) (by decide) (by omega) with ⟨k1, k2, k3⟩ | hde
          · right
            have e4 : shutR ts 30 r = decR (goR ts r) := by unfold shutR; exact congrArg (fun x => decR x.1) k3
            have hg : (goR ts r).gap = gapS := go_gap (by omega) hal
            (try dsimp only)
            rw [e4]
            refine ⟨ks, rfl, (k2.line hg).dec, h.defs, h.nam, h.num, h.stp, h.wf⟩
          · left
            exact hde.line.dec
      · rw [decide_eq_false e30, if_pos ⟨rfl, hal.bad⟩] at h1
        split at h1
        · cases h1
        · rename_i p1 x e1
          cases f with
          | zero => simp [rf.stmtTw] at e1
          | succ f =>
          have hbe : rf.beginsP p = decide (7 ≤ kindR ts r ∧ kindR ts r ≤ 14) := by
            unfold rf.beginsP rf.beginL
            simp only [List.any_cons, List.any_nil, Bool.or_false]
            rw [hal.isW L rf.wAccept 2 7 (by decide) v10 rfl, hal.isW L rf.wReject 3 8 (by decide) v11 rfl, hal.isW L rf.wPref 4 9 (by decide) w1 rfl, hal.isW L rf.wMed 5 10 (by decide) w2 rfl, hal.isW L rf.wMark 6 11 (by decide) v7 rfl, hal.isW L rf.wUnmark 7 12 (by decide) v8 rfl, hal.isW L rf.wPrepend 8 13 (by decide) v9 rfl, hal.isW L rf.wIf 9 14 (by decide) v4 rfl]
            rw [Bool.eq_iff_iff]
            simp only [Bool.or_eq_true, decide_eq_true_eq]
            omega
          rw [rf.stmtTw, hbe] at e1
          by_cases hb : 7 ≤ kindR ts r ∧ kindR ts r ≤ 14
          · rw [decide_eq_true hb, if_pos rfl] at e1
            split at h2
            · cases h2
            · rename_i r1 e2
              obtain ⟨⟨o, ho⟩, _⟩ := (sim_stmts L n g0 g1 ds hstm f).2.2 p r g _ _ (by rw [h.defs]; exact hds) hal hb e1 e2
              cases ho
            · rename_i r1 o e2
              obtain ⟨_, hst⟩ := (sim_stmts L n g0 g1 ds hstm f).2.2 p r g _ _ (by rw [h.defs]; exact hds) hal hb e1 e2
              rcases hst with hde | hs
              · left
                obtain ⟨y, y0, y1, y2⟩ := hde
                dsimp only at y1 y2
                refine ⟨y, y0, ((bad_stmts s (f + 1)).2.1 _ _ _ (by omega) h1).trans y1, ?_⟩
                have C := syn_cl ts y
                exact C.line _ (C.shut (keeps_more (KS y g) k _ _ _ y2 h2) (by decide))
              · have hd := hs.defs
                dsimp only at hd
                refine i2 p1 r1 r0 g k _ _ q z hds ⟨hs.al, hd.trans h.defs, ?_, ?_, fun ms hms => ?_, wfs_snoc h.wf hs.wf⟩ h1 h2
                · rw [strays_snoc, orT_pair, ← h.nam]; exact hs.nam
                · rw [bads_snoc, orT_pair, ← h.num]; exact hs.num
                · obtain ⟨ms0, m, a1, a2, rfl⟩ := allO_snoc hms
                  have := hs.stp m (by dsimp only; rw [a2])
                  rw [h.defs] at this
                  exact (h.stp ms0 a1).snoc this
          · rw [decide_eq_false hb, if_neg (by decide)] at e1
            have hst : stm g r = none ∨ stm g r = some (r, none) := by
              rw [hstm]
              cases g with
              | zero => exact Or.inl rfl
              | succ g =>
                right
                rw [stmtTw, if_neg (by simp [okP]), if_neg (by omega), if_neg (by omega), if_neg (by omega), if_neg (by omega), if_neg (by omega), if_neg (by omega), if_neg (by omega), if_neg (by omega)]
            rcases hst with e | e
            · rw [e] at h2; cases h2
            · rw [e] at h2
              cases h2
              left
              obtain ⟨y, y0, y1, y2⟩ := hal.fail L
              have b1 := (bad_stmts s f).2.2.2 _ _ (by omega) e1
              dsimp only at b1
              refine ⟨y, y0, ((bad_stmts s (f + 1)).2.1 _ _ _ (by omega) h1).trans (b1.trans y1), ?_⟩
              (try dsimp only)
              show (takeR ts 30 r).1.syn = _
              unfold takeR; rw [if_neg e30]; exact y2
    · have hsg : ∀ {a : Option (RS × Option (Option StpM))}, stm g r = a → a = some z := fun e => e.symm.trans h2
      cases g with
      | zero => rw [hstm] at h2; cases h2
      | succ g =>
      have hk : ∃ j : Nat, 2 ≤ j ∧ j < 10 ∧ kindR ts r = 5 + (j : Int) := ⟨(kindR ts r - 5).toNat, by omega, by omega, by omega⟩
      obtain ⟨j, j2, j10, ej⟩ := hk
      have tx := h.wtext L (j := j) (by omega) ej
      obtain ⟨q1, q2, q3, q4, q5, q6⟩ := eqB_wd j j10
      rw [rf.stmtRest, tx, q1, q2, q3, q4, q5, q6] at h1
      have e2 := h2
      rw [hstm, stmtTw, if_neg (by simp [okP])] at e2
      rw [← hstm] at e2
      have hgo := h.go L (by omega) (by omega)
      have hgap : (goR ts r).gap = gapS := go_gap (by omega) h
      rcases (show j = 2 ∨ j = 3 ∨ j = 4 ∨ j = 5 ∨ j = 6 ∨ j = 7 ∨ j = 8 ∨ j = 9 by omega) with rfl | rfl | rfl | rfl | rfl | rfl | rfl | rfl
      · -- accept
        rw [if_neg (by decide), if_neg (by decide), if_neg (by decide)] at h1
        rw [if_neg (by omega), if_pos (by omega)] at e2
        cases h1; cases e2
        refine ⟨⟨_, rfl⟩, ?_⟩
        rcases hgo.semi L hgap with hde | ⟨a1, a2, a3, a4⟩
        · exact Or.inl hde
        · right
          refine ⟨a1, a2, ?_, ?_, fun m hm => ?_, wf_op (by decide +kernel) _ _ _ wfs0⟩
          · rw [stray_other ds (by decide +kernel), strays_nil, orT_neg (by decide)]
            exact a3
          · rw [bad_other (by decide +kernel), bads_nil, orT_neg (by decide)]
            exact a4
          · cases hm; rw [← v10]; exact .accept
      · -- reject
        rw [if_neg (by decide), if_neg (by decide), if_neg (by decide)] at h1
        rw [if_neg (by omega), if_neg (by omega), if_pos (by omega)] at e2
        cases h1; cases e2
        refine ⟨⟨_, rfl⟩, ?_⟩
        rcases hgo.semi L hgap with hde | ⟨a1, a2, a3, a4⟩
        · exact Or.inl hde
        · right
          refine ⟨a1, a2, ?_, ?_, fun m hm => ?_, wf_op (by decide +kernel) _ _ _ wfs0⟩
          · rw [stray_other ds (by decide +kernel), strays_nil, orT_neg (by decide)]
            exact a3
          · rw [bad_other (by decide +kernel), bads_nil, orT_neg (by decide)]
            exact a4
          · cases hm; rw [← v11]; exact .reject
      · -- pref
        rw [if_pos (by decide)] at h1
        rw [if_neg (by omega), if_neg (by omega), if_neg (by omega), if_pos (by omega)] at e2
        split at h1
        · cases h1
        · rename_i p3 x e1
          split at e2
          · cases e2
          · rename_i r3 a e3
            cases h1; cases e2
            refine ⟨⟨_, rfl⟩, ?_⟩
            rw [w16] at e1
            rcases hgo.needS L (j := 0) (by decide) (by omega) with ⟨k1, k2, k3⟩ | hde
            · rw [show takeR ts 26 (goR ts r) = (goR ts (goR ts r), tokR ts (goR ts r)) from k3] at e3
              rcases (sim_sums L n f).1 _ _ g0 _ _ k2 e1 e3 with hde | hs
              · exact Or.inl hde.semi
              · rcases hs.al.semi L hs.gap with hde | ⟨a1, a2, a3, a4⟩
                · exact Or.inl hde
                · right
                  obtain ⟨m, hm, ha⟩ := hs.amt
                  dsimp only at hm ha
                  obtain ⟨q1, q2⟩ := ha.quiet ds
                  refine ⟨a1, a2.trans hs.defs, ?_, ?_, fun m' hm' => ?_, wf_op (by decide +kernel) _ _ _ (wfs1 ha.wf)⟩
                  · rw [stray_other ds (by decide +kernel), strays_cons, strays_nil, orT_max, q1, orT_neg (by decide)]
                    exact a3.trans hs.nam
                  · rw [bad_other (by decide +kernel), bads_cons, bads_nil, orT_max, q2, orT_neg (by decide)]
                    exact a4.trans hs.num
                  · subst hm
                    cases hm'
                    rw [← w1]; exact .pref ha
            · left
              obtain ⟨y, y0, y1, y2⟩ := hde
              exact De.semi ⟨y, y0, ((bad_sums s f).1 _ _ (by omega) e1).trans y1, (syn_cl ts y).sumTw n g0 _ _ y2 e3⟩
      · -- med
        rw [if_pos (by decide)] at h1
        rw [if_neg (by omega), if_neg (by omega), if_neg (by omega), if_neg (by omega), if_pos (by omega)] at e2
        split at h1
        · cases h1
        · rename_i p3 x e1
          split at e2
          · cases e2
          · rename_i r3 a e3
            cases h1; cases e2
            refine ⟨⟨_, rfl⟩, ?_⟩
            rw [w16] at e1
            rcases hgo.needS L (j := 0) (by decide) (by omega) with ⟨k1, k2, k3⟩ | hde
            · rw [show takeR ts 26 (goR ts r) = (goR ts (goR ts r), tokR ts (goR ts r)) from k3] at e3
              rcases (sim_sums L n f).1 _ _ g0 _ _ k2 e1 e3 with hde | hs
              · exact Or.inl hde.semi
              · rcases hs.al.semi L hs.gap with hde | ⟨a1, a2, a3, a4⟩
                · exact Or.inl hde
                · right
                  obtain ⟨m, hm, ha⟩ := hs.amt
                  dsimp only at hm ha
                  obtain ⟨q1, q2⟩ := ha.quiet ds
                  refine ⟨a1, a2.trans hs.defs, ?_, ?_, fun m' hm' => ?_, wf_op (by decide +kernel) _ _ _ (wfs1 ha.wf)⟩
                  · rw [stray_other ds (by decide +kernel), strays_cons, strays_nil, orT_max, q1, orT_neg (by decide)]
                    exact a3.trans hs.nam
                  · rw [bad_other (by decide +kernel), bads_cons, bads_nil, orT_max, q2, orT_neg (by decide)]
                    exact a4.trans hs.num
                  · subst hm
                    cases hm'
                    rw [← w2]; exact .med ha
            · left
              obtain ⟨y, y0, y1, y2⟩ := hde
              exact De.semi ⟨y, y0, ((bad_sums s f).1 _ _ (by omega) e1).trans y1, (syn_cl ts y).sumTw n g0 _ _ y2 e3⟩
      · -- mark
        rw [if_neg (by decide), if_pos (by decide)] at h1
        rw [if_neg (by omega), if_neg (by omega), if_neg (by omega), if_neg (by omega), if_neg (by omega), if_pos (by omega)] at e2
        cases h1; cases e2
        refine ⟨⟨_, rfl⟩, ?_⟩
        rcases hgo.within L 0 65535 with hde | ⟨u1, u2, u3, u4, u5, u6, u7⟩
        · exact Or.inl hde.semi
        · rcases u1.semi L u2 with hde | ⟨a1, a2, a3, a4⟩
          · exact Or.inl hde
          · right
            refine ⟨a1, a2.trans u3, ?_, ?_, fun m hm => ?_, wf_kid _ _ _ _ (wfs1 (wf_op (by decide +kernel) _ _ _ wfs0))⟩
            · rw [stray_other ds (by decide +kernel), strays_cons, strays_nil, stray_other ds (by decide +kernel), strays_nil, orT_max, orT_neg (by decide)]
              exact a3.trans u4
            · dsimp only
              rw [a4, u5, rf.badNum]
              simp only [show ((wd 6).toList == rf.lMarked) = false by decide +kernel, show ((wd 6).toList == rf.lMark) = true by decide +kernel, show ((wd 6).toList == rf.lPrepend) = false by decide +kernel, rf.kid0N, rf.kid0A, true_or, true_and, Bool.false_eq_true, false_and, if_false]
              by_cases hb : 65535 < numP (rf.takeP s p).next.text 4294967295
              · rw [if_pos (Or.inr hb), if_pos hb]; rfl
              · rw [if_neg (by omega), if_neg hb, bads_cons, bads_nil, bad_other (by decide +kernel), bads_nil]; rfl
            · cases hm; rw [u6, ← v7]; exact .mark _ _
      · -- unmark
        rw [if_neg (by decide), if_pos (by decide)] at h1
        rw [if_neg (by omega), if_neg (by omega), if_neg (by omega), if_neg (by omega), if_neg (by omega), if_neg (by omega), if_pos (by omega)] at e2
        cases h1; cases e2
        refine ⟨⟨_, rfl⟩, ?_⟩
        rcases hgo.within L 0 65535 with hde | ⟨u1, u2, u3, u4, u5, u6, u7⟩
        · exact Or.inl hde.semi
        · rcases u1.semi L u2 with hde | ⟨a1, a2, a3, a4⟩
          · exact Or.inl hde
          · right
            refine ⟨a1, a2.trans u3, ?_, ?_, fun m hm => ?_, wf_kid _ _ _ _ (wfs1 (wf_op (by decide +kernel) _ _ _ wfs0))⟩
            · rw [stray_other ds (by decide +kernel), strays_cons, strays_nil, stray_other ds (by decide +kernel), strays_nil, orT_max, orT_neg (by decide)]
              exact a3.trans u4
            · dsimp only
              rw [a4, u5, rf.badNum]
              simp only [show ((wd 7).toList == rf.lMarked) = false by decide +kernel, show ((wd 7).toList == rf.lUnmark) = true by decide +kernel, show ((wd 7).toList == rf.lPrepend) = false by decide +kernel, rf.kid0N, rf.kid0A, or_true, true_and, Bool.false_eq_true, false_and, if_false]
              by_cases hb : 65535 < numP (rf.takeP s p).next.text 4294967295
              · rw [if_pos (Or.inr hb), if_pos hb]; rfl
              · rw [if_neg (by omega), if_neg hb, bads_cons, bads_nil, bad_other (by decide +kernel), bads_nil]; rfl
            · cases hm; rw [u6, ← v8]; exact .unmark _ _
      · -- prepend
        rw [if_neg (by decide), if_pos (by decide)] at h1
        rw [if_neg (by omega), if_neg (by omega), if_neg (by omega), if_neg (by omega), if_neg (by omega), if_neg (by omega), if_neg (by omega), if_pos (by omega)] at e2
        cases h1; cases e2
        refine ⟨⟨_, rfl⟩, ?_⟩
        rcases hgo.within L 1 65535 with hde | ⟨u1, u2, u3, u4, u5, u6, u7⟩
        · exact Or.inl hde.semi
        · rcases u1.semi L u2 with hde | ⟨a1, a2, a3, a4⟩
          · exact Or.inl hde
          · right
            refine ⟨a1, a2.trans u3, ?_, ?_, fun m hm => ?_, wf_kid _ _ _ _ (wfs1 (wf_op (by decide +kernel) _ _ _ wfs0))⟩
            · rw [stray_other ds (by decide +kernel), strays_cons, strays_nil, stray_other ds (by decide +kernel), strays_nil, orT_max, orT_neg (by decide)]
              exact a3.trans u4
            · dsimp only
              rw [a4, u5, rf.badNum]
              simp only [show ((wd 8).toList == rf.lMarked) = false by decide +kernel, show ((wd 8).toList == rf.lMark) = false by decide +kernel, show ((wd 8).toList == rf.lUnmark) = false by decide +kernel, show ((wd 8).toList == rf.lPrepend) = true by decide +kernel, rf.kid0N, rf.kid0A, true_and, Bool.false_eq_true, false_or, false_and, if_false]
              by_cases hb : numP (rf.takeP s p).next.text 4294967295 < 1 ∨ 65535 < numP (rf.takeP s p).next.text 4294967295
              · rw [if_pos hb, if_pos hb]; rfl
              · rw [if_neg hb, if_neg hb, bads_cons, bads_nil, bad_other (by decide +kernel), bads_nil]; rfl
            · cases hm; rw [u6, ← v9]; exact .prepend _ _
      · -- if
        rw [if_neg (by decide), if_neg (by decide), if_pos (by decide)] at h1
        rw [if_pos (by omega)] at e2
        split at h1
        · cases h1
        · rename_i p2 c e1
          split at e2
          · cases e2
          · rename_i r2 m e3
            split at h1
            · cases h1
            · rename_i p3 b e4
              split at e2
              · cases e2
              · rename_i r3 yes e5
                have KC : ∀ x, Keeps (fun st : RS => st.syn = some x) (condBy ts (notTw ts n (sumTw ts n g0) g1) n) := fun x => (syn_cl ts x).cond ((syn_cl ts x).notTw ((syn_cl ts x).sumTw n g0) n g1) n
                -- dead behind the first block
                have hdead : De p3 r3 → StmQ s ts ds r q z := fun hde => by
                  obtain ⟨y, y0, y1, y2⟩ := hde
                  rw [bad_is (by omega), if_neg (by decide)] at h1
                  rw [show kindR ts r3 = 0 by unfold kindR; rw [y2]; rfl, if_neg (by decide)] at e2
                  cases h1; cases e2
                  exact ⟨⟨_, rfl⟩, Or.inl ⟨y, y0, y1, y2⟩⟩
                have hdead0 : De (rf.needP s p2 rf.wThen) (takeR ts 15 r2).1 → De p3 r3 := fun hde => by
                  obtain ⟨y, y0, y1, y2⟩ := hde
                  exact ⟨y, y0, ((bad_stmts s f).1 _ _ (by omega) e4).trans y1, (syn_cl ts y).block (KS y g) n _ _ y2 e5⟩
                rcases (sim_conds L n g0 ds f).1 0 _ (goR ts r) g1 _ _ (by decide) hds hgo e1 e3 with hde | hc
                · exact hdead (hdead0 (hde.need (s := s) (ts := ts) rf.wThen (k := 15) (by decide)))
                · have hcal := hc.al
                  dsimp only at hcal
                  rw [v5] at e4 hdead0
                  rcases hcal.needW L (j := 10) (by decide) with ⟨k1, k2, k3⟩ | hde
                  · rw [show takeR ts 15 r2 = (goR ts r2, tokR ts r2) from k3] at e5
                    have hd2 : (goR ts r2).defs = r.defs := hc.defs
                    rcases i1 _ _ g _ _ (by rw [hd2]; exact hds) k2 e4 e5 with hde | ⟨ks, hb1, hb2⟩
                    · exact hdead hde
                    · dsimp only at hb1
                      subst hb1
                      have hbal := hb2.al
                      dsimp only at hbal
                      have hn2 : r3.nam = orT (orT r.nam (rf.strayT ds c)) (rf.strays ds ks) := by
                        have a := hb2.nam; have b := hc.nam
                        dsimp only at a b
                        rw [a, show (goR ts r2).nam = r2.nam from rfl, b]; rfl
                      have hu2 : r3.num = orT (orT r.num (rf.badNum c)) (rf.badNums ks) := by
                        have a := hb2.num; have b := hc.num
                        dsimp only at a b
                        rw [a, show (goR ts r2).num = r2.num from rfl, b]; rfl
                      have sblk : ∀ l, rf.strayT ds (.mk rf.wBlock nB 0 0 l) = rf.strays ds l := fun l => stray_other ds (by decide +kernel) _ _ _ l
                      have nblk : ∀ l, rf.badNum (.mk rf.wBlock nB 0 0 l) = rf.badNums l := fun l => bad_other (by decide +kernel) _ _ _ l
                      have sif : ∀ l, rf.strayT ds (.mk (wd 9) nB 0 0 l) = rf.strays ds l := fun l => stray_other ds (by decide +kernel) _ _ _ l
                      have nif : ∀ l, rf.badNum (.mk (wd 9) nB 0 0 l) = rf.badNums l := fun l => bad_other (by decide +kernel) _ _ _ l
                      rw [hbal.isW L rf.wElse 11 16 (by decide) v6 rfl] at h1
                      by_cases e16 : kindR ts r3 = 16
                      · rw [decide_eq_true e16, if_pos rfl] at h1
                        rw [if_pos e16] at e2
                        split at h1
                        · cases h1
                        · rename_i p4 x e6
                          split at e2
                          · cases e2
                          · rename_i r4 no e7
                            cases h1; cases e2
                            refine ⟨⟨_, rfl⟩, ?_⟩
                            have hd3 : (goR ts r3).defs = r.defs := hb2.defs.trans hd2
                            rcases i1 _ _ g _ _ (by rw [hd3]; exact hds) (hbal.go L (by omega) (by omega)) e6 e7 with hde | ⟨js, hx1, hx2⟩
                            · exact Or.inl hde
                            · dsimp only at hx1
                              subst hx1
                              right
                              refine ⟨hx2.al, hx2.defs.trans hd3, ?_, ?_, fun m' hm' => ?_, wf_op (by decide +kernel) _ _ _ (wfs_cons hc.wf (wfs2 (wf_op (by decide +kernel) _ _ _ hb2.wf) (wf_op (by decide +kernel) _ _ _ hx2.wf)))⟩
                              · have a := hx2.nam
                                dsimp only at a ⊢
                                rw [a, show (goR ts r3).nam = r3.nam from rfl, hn2, sif, strays_cons, strays_cons, strays_cons, strays_nil]
                                rw [← orT_two, ← orT_two, orT_max, sblk, sblk]
                              · have a := hx2.num
                                dsimp only at a ⊢
                                rw [a, show (goR ts r3).num = r3.num from rfl, hu2, nif, bads_cons, bads_cons, bads_cons, bads_nil]
                                rw [← orT_two, ← orT_two, orT_max, nblk, nblk]
                              · obtain ⟨x1, y1, z1, a1, a2, a3, rfl⟩ := chooseO_some (Option.some.inj hm')
                                rw [← v4]
                                have t1 := hc.cnd x1 a1
                                have t2 := hb2.stp y1 a2
                                have t3 := hx2.stp z1 a3
                                rw [hd2] at t2
                                rw [hd3] at t3
                                exact .if2 t1 t2 t3
                      · rw [decide_eq_false e16, if_neg (by decide)] at h1
                        rw [if_neg e16] at e2
                        cases h1; cases e2
                        refine ⟨⟨_, rfl⟩, Or.inr ⟨hbal, hb2.defs.trans hd2, ?_, ?_, fun m' hm' => ?_, wf_op (by decide +kernel) _ _ _ (wfs2 hc.wf (wf_op (by decide +kernel) _ _ _ hb2.wf))⟩⟩
                        · dsimp only
                          rw [hn2, sif, strays_cons, strays_cons, strays_nil, orT_pair, sblk]
                        · dsimp only
                          rw [hu2, nif, bads_cons, bads_cons, bads_nil, orT_pair, nblk]
                        · obtain ⟨x1, y1, z1, a1, a2, a3, rfl⟩ := chooseO_some (Option.some.inj hm')
                          cases a3
                          rw [← v4]
                          have t1 := hc.cnd x1 a1
                          have t2 := hb2.stp y1 a2
                          rw [hd2] at t2
                          exact .if1 t1 t2
                  · exact hdead (hdead0 hde)
end
end Go.Proofs.YtgdeeodifnegiaaGreatDoor
