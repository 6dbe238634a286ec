/- The two readers side by side: conditions; no program. -/
import Derived.Test.YtgdeeodifnegiaaGreatDoorEqB
namespace Go.Proofs.YtgdeeodifnegiaaGreatDoor
open Go.RowKit

section
variable {s : ByteArray} {ts : List TokP}
theorem Al.same {p : rf.PS} {r r' : RS} (h : Al s ts p r) (h1 : r'.syn = r.syn) (h2 : r'.next = r.next) (h3 : r'.depth = r.depth) (h4 : r'.page = r.page) (h5 : r'.gap = r.gap) : Al s ts p r' :=
  ⟨h.bad, h1.trans h.syn, by rw [h2]; exact h.lt, by rw [h2]; exact h.next, by rw [h2]; exact h.i, by rw [h3]; exact h.opn, ⟨by rw [h4, h5]; exact h.pg.ex⟩⟩
/-- a name of a set is used -/
theorem Al.useSet (L : Lx s ts) {p : rf.PS} {r : RS} (h : Al s ts p r) {ds : List rf.Df} (hd : DsOk ds r.defs) :
    De (rf.kindP s p 110) (useSetR ts r).1 ∨ (Al s ts (rf.kindP s p 110) (useSetR ts r).1 ∧ (useSetR ts r).1.gap = gapS ∧ (useSetR ts r).1.defs = r.defs ∧ (useSetR ts r).1.num = r.num ∧
      (useSetR ts r).1.nam = orT r.nam (if rf.findI p.next.text false ds 0 < 0 then (p.next.at_ : Int) else -1) ∧ (∀ S, (useSetR ts r).2 = some S → findSet r.defs p.next.text = some S)) := by
  rcases h.kind L (q := 110) (k := 4) (by simp) with ⟨k1, k2, k3⟩ | hde
  · right
    have tx := h.text L (by omega)
    have hat := h.at_ L
    have hg : (goR ts r).gap = gapS := go_gap (by omega) h
    have hdf : (goR ts r).defs = r.defs := rfl
    unfold useSetR
    (try dsimp only)
    rw [k3]
    (try dsimp only)
    rw [hdf, tx]
    cases hf : findSet r.defs p.next.text with
    | none =>
      (try dsimp only)
      rw [if_pos ((hd p.next.text).1.2 hf)]
      refine ⟨k2.same rfl rfl rfl rfl rfl, hg, hdf, rfl, ?_, fun S e => by cases e⟩
      show tellR r.nam _ = _
      rw [hat, tell_orT _ (Int.natCast_nonneg _)]
    | some S =>
      (try dsimp only)
      rw [if_neg (fun e => by rw [(hd p.next.text).1.1 e] at hf; cases hf), orT_neg (by decide)]
      exact ⟨k2, hg, hdf, rfl, rfl, fun S' e => by cases e; rfl⟩
  · left
    obtain ⟨a, a0, a1, a2⟩ := hde
    refine ⟨a, a0, a1, ?_⟩
    unfold useSetR
    (try dsimp only)
    split
    · exact a2
    · exact a2
theorem Al.useWay (L : Lx s ts) {p : rf.PS} {r : RS} (h : Al s ts p r) {ds : List rf.Df} (hd : DsOk ds r.defs) :
    De (rf.kindP s p 110) (useWayR ts r).1 ∨ (Al s ts (rf.kindP s p 110) (useWayR ts r).1 ∧ (useWayR ts r).1.gap = gapS ∧ (useWayR ts r).1.defs = r.defs ∧ (useWayR ts r).1.num = r.num ∧
      (useWayR ts r).1.nam = orT r.nam (if rf.findI p.next.text true ds 0 < 0 then (p.next.at_ : Int) else -1) ∧ (∀ S, (useWayR ts r).2 = some S → findWay r.defs p.next.text = some S)) := by
  rcases h.kind L (q := 110) (k := 4) (by simp) with ⟨k1, k2, k3⟩ | hde
  · right
    have tx := h.text L (by omega)
    have hat := h.at_ L
    have hg : (goR ts r).gap = gapS := go_gap (by omega) h
    have hdf : (goR ts r).defs = r.defs := rfl
    unfold useWayR
    (try dsimp only)
    rw [k3]
    (try dsimp only)
    rw [hdf, tx]
    cases hf : findWay r.defs p.next.text with
    | none =>
      (try dsimp only)
      rw [if_pos ((hd p.next.text).2.2 hf)]
      refine ⟨k2.same rfl rfl rfl rfl rfl, hg, hdf, rfl, ?_, fun S e => by cases e⟩
      show tellR r.nam _ = _
      rw [hat, tell_orT _ (Int.natCast_nonneg _)]
    | some S =>
      (try dsimp only)
      rw [if_neg (fun e => by rw [(hd p.next.text).2.1 e] at hf; cases hf), orT_neg (by decide)]
      exact ⟨k2, hg, hdf, rfl, rfl, fun S' e => by cases e; rfl⟩
  · left
    obtain ⟨a, a0, a1, a2⟩ := hde
    refine ⟨a, a0, a1, ?_⟩
    unfold useWayR
    (try dsimp only)
    split
    · exact a2
    · exact a2
/-- a number within bounds -/
theorem Al.within (L : Lx s ts) {p : rf.PS} {r : RS} (h : Al s ts p r) (lo hi : Int) :
    De (rf.kindP s p 48) (withinR ts lo hi r).1 ∨ (Al s ts (rf.kindP s p 48) (withinR ts lo hi r).1 ∧ (withinR ts lo hi r).1.gap = gapS ∧ (withinR ts lo hi r).1.defs = r.defs ∧ (withinR ts lo hi r).1.nam = r.nam ∧
      (withinR ts lo hi r).1.num = orT r.num (if numP p.next.text 4294967295 < lo ∨ hi < numP p.next.text 4294967295 then (p.next.at_ : Int) else -1) ∧ (withinR ts lo hi r).2 = numP p.next.text 4294967295 ∧ 0 ≤ numP p.next.text 4294967295) := by
  rcases h.kind L (q := 48) (k := 2) (by simp) with ⟨k1, k2, k3⟩ | hde
  · right
    obtain ⟨nx, n0⟩ := h.number L k1
    have hat := h.at_ L
    have hg : (goR ts r).gap = gapS := go_gap (by omega) h
    unfold withinR
    (try dsimp only)
    rw [k3]
    (try dsimp only)
    rw [nx]
    by_cases hb : numP p.next.text 4294967295 < lo ∨ hi < numP p.next.text 4294967295
    · rw [if_pos hb, if_pos hb]
      refine ⟨k2.same rfl rfl rfl rfl rfl, hg, rfl, rfl, ?_, rfl, n0⟩
      show tellR r.num _ = _
      rw [hat, tell_orT _ (Int.natCast_nonneg _)]
    · rw [if_neg hb, if_neg hb, orT_neg (by decide)]
      exact ⟨k2, hg, rfl, rfl, rfl, rfl, n0⟩
  · left
    obtain ⟨a, a0, a1, a2⟩ := hde
    refine ⟨a, a0, a1, ?_⟩
    unfold withinR
    (try dsimp only)
    split
    · exact a2
    · exact a2
/-! ## conditions -/
structure CndQR (s : ByteArray) (ts : List TokP) (ds : List rf.Df) (r : RS) (q : rf.PS × rf.Tr) (z : RS × Option CndM) : Prop where
  al : Al s ts q.1 z.1
  gap : z.1.gap = gapS
  defs : z.1.defs = r.defs
  nam : z.1.nam = orT r.nam (rf.strayT ds q.2)
  num : z.1.num = orT r.num (rf.badNum q.2)
  cnd : ∀ c, z.2 = some c → CndT r.defs q.2 c
  wf : rf.WfTr q.2
def CndQ (s : ByteArray) (ts : List TokP) (ds : List rf.Df) (r : RS) (q : rf.PS × rf.Tr) (z : RS × Option CndM) : Prop := De q.1 z.1 ∨ CndQR s ts ds r q z
theorem bad_conds (s : ByteArray) : ∀ f, (∀ lv, KeepsB (rf.condTw s f lv)) ∧ (∀ lv t, KeepsB (fun p => rf.condLp s f lv p t))
  | 0 => ⟨fun _ _ _ _ h => by simp [rf.condTw] at h, fun _ _ _ _ _ h => by simp [rf.condLp] at h⟩
  | f + 1 => by
    obtain ⟨h1, h2⟩ := bad_conds s f
    obtain ⟨k1, _, _⟩ := bad_sums s f
    refine ⟨fun lv p q hb h => ?_, fun lv t p q hb h => ?_⟩
    · rw [rf.condTw] at h
      split at h
      · split at h
        · cases h
        · rename_i st1 t hx
          have e1 := h1 _ _ _ hb hx
          exact (h2 lv t _ _ (by rw [e1]; exact hb) h).trans e1
      · rw [bad_is hb, bad_is hb, bad_is hb, bad_is hb, bad_is hb, bad_starts hb, if_neg (by decide), if_neg (by decide), if_neg (by decide), if_neg (by decide), if_neg (by decide), if_pos rfl] at h
        cases h
        rw [bad_fail hb]
    · dsimp only at h
      rw [rf.condLp, bad_is hb, if_neg (by decide)] at h
      cases h; rfl
/-- the kind, the meaning, the reader of a level -/
noncomputable def lvK (lv : Nat) : Int := if lv = 0 then 18 else 19
noncomputable def lvM (lv : Nat) : CndM → CndM → CndM := if lv = 0 then orM else andM
noncomputable def lvR (ts : List TokP) (n : Nat) (nt : RS → Option (RS × Option CndM)) (lv : Nat) : RS → Option (RS × Option CndM) := if lv = 0 then condBy ts nt n else if lv = 1 then andBy ts nt n else nt
theorem lvR_is {n lv : Nat} {nt : RS → Option (RS × Option CndM)} (h : lv < 2) (st : RS) : lvR ts n nt lv st = match lvR ts n nt (lv + 1) st with | none => none | some (st1, a) => binLp ts (lvK lv) (lvM lv) (lvR ts n nt (lv + 1)) n st1 a := by
  rcases (show lv = 0 ∨ lv = 1 by omega) with rfl | rfl
  · rfl
  · rfl
theorem keeps_lv {I : RS → Prop} (C : Cl ts I) {nt : RS → Option (RS × Option CndM)} (h0 : Keeps I nt) (n lv : Nat) : Keeps I (lvR ts n nt lv) := by
  unfold lvR
  split
  · exact C.cond h0 n
  · split
    · exact C.binBy (by decide) h0 n
    · exact h0
theorem stray_two (ds : List rf.Df) (op : ByteArray) (h : noName op = true) (x y : rf.Tr) : rf.strayT ds (.mk op nB 0 0 [x, y]) = if 0 ≤ rf.strayT ds x then rf.strayT ds x else if 0 ≤ rf.strayT ds y then rf.strayT ds y else -1 := by
  rw [stray_other ds h, strays_cons, strays_cons, strays_nil]
theorem orT_max (o : Option Int) (x : Int) : orT o (if 0 ≤ x then x else -1) = orT o x := by
  by_cases h : 0 ≤ x
  · rw [if_pos h]
  · rw [if_neg h, orT_neg (by decide), orT_neg (by omega)]
theorem orT_pair (o : Option Int) (x y : Int) : orT o (if 0 ≤ x then x else if 0 ≤ y then y else -1) = orT (orT o x) y := by
  rw [← orT_two, orT_max]
theorem bad_two (op : ByteArray) (h : noNum op = true) (x y : rf.Tr) : rf.badNum (.mk op nB 0 0 [x, y]) = if 0 ≤ rf.badNum x then rf.badNum x else if 0 ≤ rf.badNum y then rf.badNum y else -1 := by
  rw [bad_other h, bads_cons, bads_cons, bads_nil]
theorem binO_some {m : CndM → CndM → CndM} {a b : Option CndM} {c : CndM} (h : binO m a b = some c) : ∃ x y, a = some x ∧ b = some y ∧ c = m x y := by
  cases a with
  | none => cases h
  | some x => cases b with
    | none => cases h
    | some y => exact ⟨x, y, rfl, rfl, (Option.some.inj h).symm⟩
theorem cmpO_some {m : AmtM → AmtM → CndM} {a b : AmtM} {c : CndM} (h : cmpO m (some a) (some b) = some c) : c = m a b := (Option.some.inj h).symm
theorem sim_compare (L : Lx s ts) (n g0 f : Nat) (ds : List rf.Df) {p : rf.PS} {r : RS} {q : rf.PS × rf.Tr} {z : RS × Option CndM} (h : Al s ts p r)
    (h1 : (match rf.sumTw s f p with | none => none | some (st1, a) => match rf.sumTw s f (rf.needP s st1 (if rf.isP st1 rf.wEq = true then rf.wEq else rf.wLess)) with | none => none | some (st2, b) => some (st2, rf.Tr.mk (if rf.isP st1 rf.wEq = true then rf.wEq else rf.wLess) ⟨#[]⟩ 0 0 [a, b])) = some q)
    (h2 : compareBy ts (sumTw ts n g0) r = some z) : CndQ s ts ds r q z := by
  obtain ⟨_, _, _, _, _, _, _, _, _, _, _, _, _, _, _, w16, w17, _⟩ := words_are
  obtain ⟨j1, _, _⟩ := sim_sums L n f
  unfold compareBy at h2
  split at h1
  · cases h1
  · rename_i p1 a e1
    split at h2
    · cases h2
    · rename_i r1 m e2
      split at h1
      · cases h1
      · rename_i p2 b e3
        cases h1
        rcases j1 _ _ g0 _ _ h e1 e2 with hde | hs
        · left
          obtain ⟨x, x0, x1, x2⟩ := hde
          dsimp only at x1 x2
          refine ⟨x, x0, ?_, ?_⟩
          · rw [bad_need (by omega)] at e3
            exact ((bad_sums s f).1 _ _ (by omega) e3).trans x1
          · have C := syn_cl ts x
            split at h2
            · rename_i e40
              rw [show kindR ts r1 = 0 from De.kd (p := p1) ⟨x, x0, x1, x2⟩] at e40
              exact absurd e40 (by decide)
            · split at h2
              · cases h2
              · rename_i r2 b2 e4
                cases h2
                exact C.sumTw n g0 _ _ (C.take x2 (by decide)) e4
        · obtain ⟨a1, hm, ha⟩ := hs.amt
          dsimp only at hm ha
          subst hm
          have hal := hs.al
          dsimp only at hal
          have hq := (ha.quiet ds)
          have heq := hal.isS L rf.wEq 0 26 (by decide) w16 rfl
          have hlt := hal.isS L rf.wLess 14 40 (by decide) w17 rfl
          by_cases e26 : kindR ts r1 = 26
          · rw [heq, decide_eq_true e26, if_pos rfl] at e3
            (try dsimp only)
            rw [heq, decide_eq_true e26, if_pos rfl]
            rw [if_neg (by omega)] at h2
            split at h2
            · cases h2
            · rename_i r2 b2 e4
              cases h2
              rw [w16] at e3
              rcases hal.needS L (j := 0) (by decide) (by omega) with ⟨k1, k2, k3⟩ | hde
              · rw [show takeR ts 26 r1 = (goR ts r1, tokR ts r1) from k3] at e4
                rcases j1 _ _ g0 _ _ k2 e3 e4 with hde | ht
                · exact Or.inl hde
                · right
                  obtain ⟨b1, hm2, hb⟩ := ht.amt
                  dsimp only at hm2 hb
                  subst hm2
                  have hq2 := hb.quiet ds
                  refine ⟨ht.al, ht.gap, ht.defs.trans hs.defs, ?_, ?_, fun c hc => ?_, wf_op (by decide +kernel) _ _ _ (wfs2 ha.wf hb.wf)⟩
                  · dsimp only
                    rw [stray_two ds rf.wEq (by decide +kernel), orT_pair, hq.1, hq2.1, orT_neg (by decide), orT_neg (by decide)]
                    exact ht.nam.trans hs.nam
                  · dsimp only
                    rw [bad_two rf.wEq (by decide +kernel), orT_pair, hq.2, hq2.2, orT_neg (by decide), orT_neg (by decide)]
                    exact ht.num.trans hs.num
                  · rw [cmpO_some hc]; exact .eq ha hb
              · left
                obtain ⟨x, x0, x1, x2⟩ := hde
                exact ⟨x, x0, ((bad_sums s f).1 _ _ (by omega) e3).trans x1, (syn_cl ts x).sumTw n g0 _ _ x2 e4⟩
          · rw [heq, decide_eq_false e26, if_neg (by decide)] at e3
            (try dsimp only)
            rw [heq, decide_eq_false e26, if_neg (by decide)]
            by_cases e40 : kindR ts r1 = 40
            · rw [if_pos e40] at h2
              split at h2
              · cases h2
              · rename_i r2 b2 e4
                cases h2
                rw [w17] at e3
                rcases hal.needS L (j := 14) (by decide) (by omega) with ⟨k1, k2, k3⟩ | hde
                · rcases j1 _ _ g0 _ _ k2 e3 e4 with hde | ht
                  · exact Or.inl hde
                  · right
                    obtain ⟨b1, hm2, hb⟩ := ht.amt
                    dsimp only at hm2 hb
                    subst hm2
                    have hq2 := hb.quiet ds
                    refine ⟨ht.al, ht.gap, ht.defs.trans hs.defs, ?_, ?_, fun c hc => ?_, wf_op (by decide +kernel) _ _ _ (wfs2 ha.wf hb.wf)⟩
                    · dsimp only
                      rw [stray_two ds rf.wLess (by decide +kernel), orT_pair, hq.1, hq2.1, orT_neg (by decide), orT_neg (by decide)]
                      exact ht.nam.trans hs.nam
                    · dsimp only
                      rw [bad_two rf.wLess (by decide +kernel), orT_pair, hq.2, hq2.2, orT_neg (by decide), orT_neg (by decide)]
                      exact ht.num.trans hs.num
                    · rw [cmpO_some hc]; exact .lt ha hb
                · exfalso
                  obtain ⟨x, x0, x1, x2⟩ := hde
                  rw [show takeR ts (26 + ((14 : Nat) : Int)) r1 = (goR ts r1, tokR ts r1) by unfold takeR; rw [if_pos (by rw [e40]; rfl)]] at x2
                  rw [show (goR ts r1).syn = r1.syn from rfl, hal.syn] at x2
                  cases x2
            · rw [if_neg e40] at h2
              left
              split at h2
              · cases h2
              · rename_i r2 b2 e4
                cases h2
                have hf := hal.fail L
                obtain ⟨x, x0, x1, x2⟩ := hf
                have en : rf.needP s p1 rf.wLess = rf.failP p1 := by unfold rf.needP; rw [hlt, decide_eq_false e40, if_neg (by decide)]
                have et : (takeR ts 26 r1).1 = failR ts r1 := by unfold takeR; rw [if_neg e26]
                rw [en] at e3
                rw [et] at e4
                exact ⟨x, x0, ((bad_sums s f).1 _ _ (by omega) e3).trans x1, (syn_cl ts x).sumTw n g0 _ _ x2 e4⟩
theorem sim_conds (L : Lx s ts) (n g0 : Nat) (ds : List rf.Df) : ∀ f,
    (∀ lv p r g q z, lv ≤ 2 → DsOk ds r.defs → Al s ts p r → rf.condTw s f lv p = some q → lvR ts n (notTw ts n (sumTw ts n g0) g) lv r = some z → CndQ s ts ds r q z) ∧
    (∀ lv p r r0 g k t a q z, lv < 2 → DsOk ds r.defs → CndQR s ts ds r0 (p, t) (r, a) → rf.condLp s f lv p t = some q → binLp ts (lvK lv) (lvM lv) (lvR ts n (notTw ts n (sumTw ts n g0) g) (lv + 1)) k r a = some z → CndQ s ts ds r0 q z)
  | 0 => ⟨fun _ _ _ _ _ _ _ _ _ h => by simp [rf.condTw] at h, fun _ _ _ _ _ _ _ _ _ _ _ _ _ h => by simp [rf.condLp] at h⟩
  | f + 1 => by
    obtain ⟨i1, i2⟩ := sim_conds L n g0 ds f
    obtain ⟨_, _, _, _, _, _, _, w8, w9, w10, w11, w12, w13, w14, w15, w16, w17, w18, w19⟩ := words_are
    have KN : ∀ x g, Keeps (fun st : RS => st.syn = some x) (notTw ts n (sumTw ts n g0) g) := fun x g => (syn_cl ts x).notTw ((syn_cl ts x).sumTw n g0) n g
    have hlp : ∀ {lv : Nat} {p : rf.PS} {r : RS} {g k t a q z}, lv < 2 → De p r → rf.condLp s f lv p t = some q → binLp ts (lvK lv) (lvM lv) (lvR ts n (notTw ts n (sumTw ts n g0) g) (lv + 1)) k r a = some z → De q.1 z.1 := by
      intro lv p r g k t a q z hlv h h1 h2
      obtain ⟨x, x0, x1, x2⟩ := h
      refine ⟨x, x0, ((bad_conds s f).2 lv t p q (by omega) h1).trans x1, ?_⟩
      exact (syn_cl ts x).binLp (by unfold lvK; split <;> decide) (keeps_lv (syn_cl ts x) (KN x g) n (lv + 1)) k r a z x2 h2
    refine ⟨fun lv p r g q z hlv hds h h1 h2 => ?_, fun lv p r r0 g k t a q z hlv hds h h1 h2 => ?_⟩
    · by_cases hl : lv < 2
      · rw [rf.condTw, if_pos hl] at h1
        rw [lvR_is hl] at h2
        split at h1
        · cases h1
        · rename_i p1 t1 e1
          split at h2
          · cases h2
          · rename_i r1 a1 e2
            rcases i1 (lv + 1) p r g _ _ (by omega) hds h e1 e2 with hde | hs
            · exact Or.inl (hlp hl hde h1 h2)
            · exact i2 lv p1 r1 r g n t1 a1 q z hl (by rw [hs.defs]; exact hds) hs h1 h2
      · obtain rfl : lv = 2 := by omega
        have e2 : lvR ts n (notTw ts n (sumTw ts n g0) g) 2 = notTw ts n (sumTw ts n g0) g := rfl
        rw [e2] at h2
        cases g with
        | zero => cases h2
        | succ g =>
        rw [notTw] at h2
        rw [rf.condTw, if_neg (by decide), h.isW L rf.wNot 15 20 (by decide) w8 rfl, h.isS L rf.wBrack 5 31 (by decide) w9 rfl, h.isW L rf.wNet 16 21 (by decide) w11 rfl, h.isW L rf.wPath 18 23 (by decide) w12 rfl, h.isW L rf.wMarked 20 25 (by decide) w13 rfl, h.starts L] at h1
        by_cases e20 : kindR ts r = 20
        · rw [decide_eq_true e20, if_pos rfl] at h1
          rw [if_pos e20] at h2
          split at h1
          · cases h1
          · rename_i p1 t1 e1
            split at h2
            · cases h2
            · rename_i r1 a1 e3
              cases h1; cases h2
              rcases h.open_ L e20 (by decide) (by decide) (by decide) with ⟨ho, o1, o2, o3, o4⟩ | hde
              · rcases i1 2 _ _ g _ _ (Nat.le_refl _) (by rw [o2]; exact hds) ho e1 e3 with hde | hs
                · exact Or.inl hde.dec
                · right
                  refine ⟨hs.al.dec, hs.gap, hs.defs.trans o2, ?_, ?_, fun c hc => ?_, wf_op (by decide +kernel) _ _ _ (wfs1 hs.wf)⟩
                  · show r1.nam = _
                    rw [stray_other ds (by decide +kernel), strays_cons, strays_nil, orT_max, ← o3]; exact hs.nam
                  · show r1.num = _
                    rw [bad_other (by decide +kernel), bads_cons, bads_nil, orT_max, ← o4]; exact hs.num
                  · obtain ⟨c1, hc1, rfl⟩ := Option.map_eq_some_iff.1 hc
                    have := hs.cnd c1 hc1
                    rw [o2] at this
                    exact .not this
              · left
                obtain ⟨x, x0, x1, x2⟩ := hde
                exact ⟨x, x0, ((bad_conds s f).1 2 _ _ (by omega) e1).trans x1, KN x g _ (r1, a1) x2 e3⟩
        · rw [decide_eq_false e20, if_neg (by decide)] at h1
          rw [if_neg e20] at h2
          by_cases e31 : kindR ts r = 31
          · rw [decide_eq_true e31, if_pos rfl] at h1
            rw [if_neg (by omega), if_neg (by omega), if_neg (by omega), if_pos e31] at h2
            split at h1
            · cases h1
            · rename_i p1 t1 e1
              split at h2
              · cases h2
              · rename_i r1 a1 e3
                cases h1; cases h2
                rcases h.open_ L e31 (by decide) (by decide) (by decide) with ⟨ho, o1, o2, o3, o4⟩ | hde
                · rcases i1 0 _ _ g _ _ (by decide) (by rw [o2]; exact hds) ho e1 e3 with hde | hs
                  · exact Or.inl ((hde.need (s := s) (ts := ts) rf.wBrack2 (k := 32) (by decide)).dec)
                  · rw [w10]
                    rcases hs.al.needS L (j := 6) (by decide) (by omega) with ⟨k1, k2, k3⟩ | hde
                    · right
                      have e32 : shutR ts 32 r1 = decR (goR ts r1) := by
                        unfold shutR
                        exact congrArg (fun x => decR x.1) k3
                      refine ⟨?_, ?_, ?_, ?_, ?_, ?_, hs.wf⟩
                      · dsimp only; rw [e32]; exact k2.dec
                      · dsimp only; rw [e32]; exact go_gap (by rw [k1]; decide) hs.al
                      · dsimp only; rw [e32]; exact hs.defs.trans o2
                      · dsimp only; rw [e32, ← o3]; exact hs.nam
                      · dsimp only; rw [e32, ← o4]; exact hs.num
                      · intro c hc; have := hs.cnd c hc; rw [o2] at this; exact this
                    · exact Or.inl hde.dec
                · left
                  obtain ⟨x, x0, x1, x2⟩ := hde
                  refine De.dec (De.need ⟨x, x0, ((bad_conds s f).1 0 _ _ (by omega) e1).trans x1, ?_⟩ rf.wBrack2 (k := 32) (by decide))
                  exact (syn_cl ts x).cond (KN x g) n _ _ x2 e3
          · rw [decide_eq_false e31, if_neg (by decide)] at h1
            by_cases e21 : kindR ts r = 21
            · rw [decide_eq_true e21, if_pos rfl] at h1
              rw [if_pos e21] at h2
              cases h1; cases h2
              have hg := h.go L (by omega) (by omega)
              rw [w14]
              rcases hg.needW L (j := 17) (by decide) with ⟨k1, k2, k3⟩ | hde
              · have k3' : takeR ts 22 (goR ts r) = (goR ts (goR ts r), tokR ts (goR ts r)) := k3
                (try dsimp only)
                rw [k3']
                rcases k2.useSet L (ds := ds) hds with hde | ⟨u1, u2, u3, u4, u5, u6⟩
                · exact Or.inl hde
                · right
                  refine ⟨u1, u2, u3, ?_, ?_, fun c hc => ?_, wf_op (by decide +kernel) _ _ _ wfs0⟩
                  · show (useSetR ts (goR ts (goR ts r))).1.nam = _
                    rw [rf.strayT]
                    simp only [strays_nil, show ((wd 17).toList == rf.lIn) = true by decide +kernel, show ((wd 17).toList == rf.lLike) = false by decide +kernel, true_or, true_and]
                    exact u5
                  · show (useSetR ts (goR ts (goR ts r))).1.num = _
                    rw [bad_other (by decide +kernel), bads_nil, orT_neg (by decide)]
                    exact u4
                  · obtain ⟨S, hS, rfl⟩ := Option.map_eq_some_iff.1 hc
                    have := u6 S hS
                    rw [← w14]
                    exact .net _ _ this
              · left
                obtain ⟨x, x0, x1, x2⟩ := hde
                exact ⟨x, x0, by dsimp only; rw [bad_kind (by omega)]; exact x1, (syn_cl ts x).useSet x2⟩
            · rw [decide_eq_false e21, if_neg (by decide)] at h1
              rw [if_neg e21] at h2
              by_cases e23 : kindR ts r = 23
              · rw [decide_eq_true e23, if_pos rfl] at h1
                rw [if_pos e23] at h2
                cases h1; cases h2
                have hg := h.go L (by omega) (by omega)
                rw [w15]
                rcases hg.needW L (j := 19) (by decide) with ⟨k1, k2, k3⟩ | hde
                · have k3' : takeR ts 24 (goR ts r) = (goR ts (goR ts r), tokR ts (goR ts r)) := k3
                  (try dsimp only)
                  rw [k3']
                  rcases k2.useWay L (ds := ds) hds with hde | ⟨u1, u2, u3, u4, u5, u6⟩
                  · exact Or.inl hde
                  · right
                    refine ⟨u1, u2, u3, ?_, ?_, fun c hc => ?_, wf_op (by decide +kernel) _ _ _ wfs0⟩
                    · show (useWayR ts (goR ts (goR ts r))).1.nam = _
                      rw [rf.strayT]
                      simp only [strays_nil, show ((wd 19).toList == rf.lIn) = false by decide +kernel, show ((wd 19).toList == rf.lLike) = true by decide +kernel, or_true, true_and]
                      exact u5
                    · show (useWayR ts (goR ts (goR ts r))).1.num = _
                      rw [bad_other (by decide +kernel), bads_nil, orT_neg (by decide)]
                      exact u4
                    · obtain ⟨S, hS, rfl⟩ := Option.map_eq_some_iff.1 hc
                      have := u6 S hS
                      rw [← w15]
                      exact .like _ _ this
                · left
                  obtain ⟨x, x0, x1, x2⟩ := hde
                  exact ⟨x, x0, by dsimp only; rw [bad_kind (by omega)]; exact x1, (syn_cl ts x).useWay x2⟩
              · rw [decide_eq_false e23, if_neg (by decide)] at h1
                rw [if_neg e23] at h2
                by_cases e25 : kindR ts r = 25
                · rw [decide_eq_true e25, if_pos rfl] at h1
                  rw [if_pos e25] at h2
                  cases h1; cases h2
                  have hg := h.go L (by omega) (by omega)
                  rcases hg.within L 0 65535 with hde | ⟨u1, u2, u3, u4, u5, u6, u7⟩
                  · exact Or.inl hde
                  · right
                    refine ⟨u1, u2, u3, ?_, ?_, fun c hc => ?_, wf_op (by decide +kernel) _ _ _ wfs0⟩
                    · rw [stray_other ds (by decide +kernel), strays_nil, orT_neg (by decide)]
                      exact u4
                    · rw [rf.badNum]
                      (try dsimp only)
                      rw [u5]
                      simp only [show (rf.wMarked.toList == rf.lMarked) = true by decide +kernel, show (rf.wMarked.toList == rf.lMark) = false by decide +kernel, show (rf.wMarked.toList == rf.lUnmark) = false by decide +kernel, show (rf.wMarked.toList == rf.lPrepend) = false by decide +kernel, true_and, bads_nil]
                      by_cases hb : 65535 < numP (rf.takeP s p).next.text 4294967295
                      · rw [if_pos (Or.inr hb), if_pos hb]; rfl
                      · rw [if_neg (by omega), if_neg hb]
                        simp; rfl
                    · cases hc
                      rw [u6]
                      exact .marked _ _
                · rw [decide_eq_false e25, if_neg (by decide)] at h1
                  rw [if_neg e25, if_neg e31] at h2
                  by_cases hst : kindR ts r = 2 ∨ kindR ts r = 9 ∨ kindR ts r = 10 ∨ kindR ts r = 17 ∨ kindR ts r = 33
                  · rw [decide_eq_true hst, if_neg (by decide)] at h1
                    exact sim_compare L n g0 f ds h h1 h2
                  · rw [decide_eq_false hst, if_pos rfl] at h1
                    cases h1
                    left
                    obtain ⟨x, x0, x1, x2⟩ := h.fail L
                    refine ⟨x, x0, x1, ?_⟩
                    unfold compareBy at h2
                    split at h2
                    · cases h2
                    · rename_i r1 m e3
                      have hr1 : r1.syn = some x := by
                        unfold sumTw sumBy at e3
                        split at e3
                        · cases e3
                        · rename_i r2 a2 e4
                          have hr2 : r2.syn = some x := by
                            cases g0 with
                            | zero => cases e4
                            | succ g0 =>
                              rw [termTw, if_neg (by omega), if_neg (by omega), if_neg (by omega), if_neg (by omega), if_neg (by omega)] at e4
                              cases e4; exact x2
                          exact (syn_cl ts x).sumLp ((syn_cl ts x).termTw n g0) n _ _ _ hr2 e3
                      have C := syn_cl ts x
                      split at h2
                      · rename_i e40
                        rw [show kindR ts r1 = 0 by unfold kindR; rw [hr1]; rfl] at e40
                        exact absurd e40 (by decide)
                      · split at h2
                        · cases h2
                        · rename_i r3 b3 e5
                          cases h2
                          exact C.sumTw n g0 _ _ (C.take hr1 (by decide)) e5
    · have hal := h.al
      dsimp only at hal
      have hop : rf.isP p (rf.opW lv) = decide (kindR ts r = lvK lv) := by
        rcases (show lv = 0 ∨ lv = 1 by omega) with rfl | rfl
        · exact hal.isW L rf.wOr 13 18 (by decide) w18 rfl
        · exact hal.isW L rf.wAnd 14 19 (by decide) w19 rfl
      rw [rf.condLp, hop] at h1
      cases k with
      | zero => cases h2
      | succ k =>
      rw [binLp] at h2
      by_cases ek : kindR ts r = lvK lv
      · rw [decide_eq_true ek, if_pos rfl] at h1
        rw [if_pos ek] at h2
        have hk2 : 2 ≤ kindR ts r ∧ kindR ts r ≠ 27 ∧ kindR ts r ≠ 28 := by
          rw [ek]; unfold lvK; split <;> decide
        split at h1
        · cases h1
        · rename_i p2 x e1
          split at h2
          · cases h2
          · rename_i r2 b e2
            rcases i1 (lv + 1) _ (goR ts r) g _ _ (by omega) hds (hal.go L hk2.1 (by omega)) e1 e2 with hde | hs
            · exact Or.inl (hlp hlv hde h1 h2)
            · have hd := h.defs
              dsimp only at hd
              have hdd : r2.defs = r0.defs := (hs.defs.trans rfl).trans hd
              refine i2 lv p2 r2 r0 g k (.mk (rf.opW lv) nB 0 0 [t, x]) (binO (lvM lv) a b) q z hlv (by rw [hdd, ← hd]; exact hds) ⟨hs.al, hs.gap, hdd, ?_, ?_, fun c hc => ?_, wf_op (by unfold rf.opW; split <;> decide +kernel) _ _ _ (wfs2 h.wf hs.wf)⟩ h1 h2
              · have e3 := hs.nam
                dsimp only at e3 ⊢
                rw [e3]
                rw [show (goR ts r).nam = r.nam from rfl, h.nam]
                rcases (show lv = 0 ∨ lv = 1 by omega) with rfl | rfl
                · exact (by rw [show rf.opW 0 = rf.wOr from rfl, stray_two ds rf.wOr (by decide +kernel), orT_pair])
                · exact (by rw [show rf.opW 1 = rf.wAnd from rfl, stray_two ds rf.wAnd (by decide +kernel), orT_pair])
              · have e3 := hs.num
                dsimp only at e3 ⊢
                rw [e3]
                rw [show (goR ts r).num = r.num from rfl, h.num]
                rcases (show lv = 0 ∨ lv = 1 by omega) with rfl | rfl
                · exact (by rw [show rf.opW 0 = rf.wOr from rfl, bad_two rf.wOr (by decide +kernel), orT_pair])
                · exact (by rw [show rf.opW 1 = rf.wAnd from rfl, bad_two rf.wAnd (by decide +kernel), orT_pair])
              · obtain ⟨c1, c2, ha, hb, rfl⟩ := binO_some hc
                have t1 := h.cnd c1 ha
                have t2 := hs.cnd c2 hb
                rw [show (goR ts r).defs = r.defs from rfl, hd] at t2
                dsimp only at t1 t2 ⊢
                rcases (show lv = 0 ∨ lv = 1 by omega) with rfl | rfl
                · exact .or t1 t2
                · exact .and t1 t2
      · rw [decide_eq_false ek, if_neg (by decide)] at h1
        rw [if_neg ek] at h2
        cases h1; cases h2
        exact Or.inr h
end
end Go.Proofs.YtgdeeodifnegiaaGreatDoor
