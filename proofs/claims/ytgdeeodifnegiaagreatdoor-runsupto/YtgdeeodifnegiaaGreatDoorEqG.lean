/- The two readers side by side: a whole text; no program. -/
import Derived.Test.YtgdeeodifnegiaaGreatDoorEqF
namespace Go.Proofs.YtgdeeodifnegiaaGreatDoor
open Go.RowKit

section
variable {s : ByteArray} {ts : List TokP}
structure DefsQR (s : ByteArray) (ts : List TokP) (p : rf.PS) (ds : List rf.Df) (r : RS) : Prop where
  al : Al s ts p r
  defs : DefsT ds r.defs
  nam : r.nam = orT none (dupO [] ds)
  num : r.num = orT none (dfsNum ds)
  ok : ∀ d ∈ ds, DfOk d
theorem keepsD {I : RS → Prop} (C : Cl ts I) (n f : Nat) : Keeps I (defW ts n f) := C.defW n f
theorem sim_defs (L : Lx s ts) (hL : LenOk ts) (n g F : Nat) : ∀ (k j : Nat) {p : rf.PS} {r : RS} {ds : List rf.Df} {q : rf.PS × List rf.Df} {r' : RS}, DefsQR s ts p ds r → ds.length + j = 8 → rf.defsLp s F k p ds = some q → defsW ts n g j r = some r' →
    De q.1 r' ∨ DefsQR s ts q.1 q.2 r' ∨ (∃ p', Al s ts p' r' ∧ (kindR ts r' = 5 ∨ kindR ts r' = 6) ∧ q.1.bad = (p'.next.at_ : Int))
  | 0, _, _, _, _, _, _, _, _, h, _ => by cases h
  | k + 1, j, p, r, ds, q, r', h, hj, h1, h2 => by
    obtain ⟨_, _, _, _, _, _, _, _, _, _, _, _, _, _, _, _, _, _, v19, v20⟩ := words_more
    have hal := h.al
    rw [rf.defsLp, hal.isW L rf.wWay 1 6 (by decide) v19 rfl, hal.isW L rf.wSet 0 5 (by decide) v20 rfl] at h1
    by_cases hk : kindR ts r = 5 ∨ kindR ts r = 6
    · rw [if_pos (by simp only [Bool.or_eq_true, decide_eq_true_eq]; exact hk)] at h1
      split at h1
      · cases h1
      · rename_i p1 d e1
        cases j with
        | zero =>
          rw [if_pos (by omega)] at e1
          have hb : (rf.failP p).bad = (p.next.at_ : Int) := by unfold rf.failP; rw [if_pos hal.bad]
          have h0 : (0 : Int) ≤ (p.next.at_ : Int) := Int.natCast_nonneg _
          have b1 := bad_def s F _ _ (by omega) e1
          dsimp only at b1
          cases k with
          | zero => cases h1
          | succ k =>
          rw [rf.defsLp, bad_is (by omega), bad_is (by omega), if_neg (by decide)] at h1
          cases h1
          rw [defsW] at h2
          cases h2
          exact Or.inr (Or.inr ⟨p, hal, hk, b1.trans hb⟩)
        | succ j =>
          rw [if_neg (by omega)] at e1
          rw [defsW] at h2
          split at h2
          · cases h2
          · rename_i r1 e2
            obtain ⟨_, hs⟩ := sim_def L hL n g F hal h.defs hk e1 e2
            rcases hs with hde | hs
            · left
              obtain ⟨y, y0, y1, y2⟩ := hde
              dsimp only at y1 y2
              cases k with
              | zero => cases h1
              | succ k =>
              rw [rf.defsLp, bad_is (by omega), bad_is (by omega), if_neg (by decide)] at h1
              cases h1
              exact ⟨y, y0, y1, (syn_cl ts y).defsW n g j _ _ y2 h2⟩
            · obtain ⟨D, hD, hT⟩ := hs.defs
              refine sim_defs L hL n g F k j ⟨hs.al, by rw [hD]; exact h.defs.snoc hT, ?_, ?_, fun x hx => ?_⟩ (by simp; omega) h1 h2
              · have := hs.nam
                dsimp only at this
                rw [this, h.nam, dupO_snoc, List.nil_append]
              · have := hs.num
                dsimp only at this
                rw [this, h.num, dfsNum_snoc]
              · rcases List.mem_append.1 hx with hx | hx
                · exact h.ok x hx
                · rw [List.mem_singleton.1 hx]; exact hs.ok
          · rename_i r1 e2
            obtain ⟨hz, _⟩ := sim_def L hL n g F hal h.defs hk e1 e2
            cases hz
    · rw [if_neg (by simp only [Bool.or_eq_true, decide_eq_true_eq]; exact hk)] at h1
      cases h1
      have hr : r' = r := by
        cases j with
        | zero => rw [defsW] at h2; cases h2; rfl
        | succ j =>
          have e : defW ts n g r = some (r, false) := by
            unfold defW defR; rw [if_neg (by omega), if_neg (by omega), if_neg (by omega)]
          rw [defsW, e] at h2
          cases h2; rfl
      subst hr
      exact Or.inr (Or.inl h)
/-- how a policy ends -/
def midP (ts : List TokP) (z : RS × List (Option StpM)) : RS := if z.2.length = 0 then failR ts z.1 else z.1
def endP (ts : List TokP) (z : RS × List (Option StpM)) : RS := if kindR ts (midP ts z) = 1 then midP ts z else failR ts (midP ts z)
theorem endP_syn {z : RS × List (Option StpM)} {a : Int} (h : z.1.syn = some a) : (endP ts z).syn = some a := by
  have C := syn_cl ts a
  have h1 : (midP ts z).syn = some a := by
    unfold midP
    split
    · exact C.fail _ h
    · exact h
  unfold endP
  split
  · exact h1
  · exact C.fail _ h1
theorem begins_eq (L : Lx s ts) {p : rf.PS} {r : RS} (hal : Al s ts p r) : rf.beginsP p = decide (7 ≤ kindR ts r ∧ kindR ts r ≤ 14) := by
  obtain ⟨v1, v2, v3, v4, v5, v6, v7, v8, v9, v10, v11, _⟩ := words_more
  obtain ⟨w1, w2, _⟩ := words_are
  unfold rf.beginsP rf.beginL
  simp only [List.any_cons, List.any_nil, Bool.or_false]
  rw [hal.isW L rf.wAccept 2 7 (by decide) v10 rfl, hal.isW L rf.wReject 3 8 (by decide) v11 rfl, hal.isW L rf.wPref 4 9 (by decide) w1 rfl, hal.isW L rf.wMed 5 10 (by decide) w2 rfl, hal.isW L rf.wMark 6 11 (by decide) v7 rfl, hal.isW L rf.wUnmark 7 12 (by decide) v8 rfl, hal.isW L rf.wPrepend 8 13 (by decide) v9 rfl, hal.isW L rf.wIf 9 14 (by decide) v4 rfl]
  rw [Bool.eq_iff_iff]
  simp only [Bool.or_eq_true, decide_eq_true_eq]
  omega
theorem stm_none {n g0 g1 g : Nat} {r : RS} {z : RS × Option (Option StpM)} (hb : ¬ (7 ≤ kindR ts r ∧ kindR ts r ≤ 14)) (h : stmtTw ts n okP (sumTw ts n g0) (condBy ts (notTw ts n (sumTw ts n g0) g1) n) g r = some z) : z = (r, none) := by
  cases g with
  | zero => cases h
  | succ g =>
    rw [stmtTw, if_neg (by simp [okP]), if_neg (by omega), if_neg (by omega), if_neg (by omega), if_neg (by omega), if_neg (by omega), if_neg (by omega), if_neg (by omega), if_neg (by omega)] at h
    exact (Option.some.inj h).symm
theorem sim_body (L : Lx s ts) (n g0 g1 g F : Nat) (ds : List rf.Df) : ∀ (k : Nat) {p : rf.PS} {r r0 : RS} {m : Nat} {ks : List rf.Tr} {l : List (Option StpM)} {q : rf.PS × List rf.Tr} {z : RS × List (Option StpM)}, DsOk ds r0.defs → BlkQR s ts ds r0 p ks r l → ks.length = l.length → (ks = [] ∨ kindR ts r ≠ 1) →
    rf.bodyLp s F k true p ks = some q → moreLp (stmtTw ts n okP (sumTw ts n g0) (condBy ts (notTw ts n (sumTw ts n g0) g1) n) g) m r l = some z → De q.1 (endP ts z) ∨ BlkQR s ts ds r0 q.1 q.2 (endP ts z) z.2
  | 0, _, _, _, _, _, _, _, _, _, _, _, _, h, _ => by cases h
  | k + 1, p, r, r0, m, ks, l, q, z, hds, h, hlen, hor, h1, h2 => by
    have hal := h.al
    rw [rf.bodyLp, if_pos ⟨rfl, hal.bad⟩] at h1
    split at h1
    · cases h1
    · rename_i p1 x e1
      cases F with
      | zero => simp [rf.stmtTw] at e1
      | succ F =>
      rw [rf.stmtTw, begins_eq L hal] at e1
      cases m with
      | zero => cases h2
      | succ m =>
      rw [moreLp] at h2
      have KS : ∀ y, Keeps (fun st : RS => st.syn = some y) (stmtTw ts n okP (sumTw ts n g0) (condBy ts (notTw ts n (sumTw ts n g0) g1) n) g) := fun y =>
        (syn_cl ts y).stmtTw n okP ((syn_cl ts y).sumTw n g0) ((syn_cl ts y).cond ((syn_cl ts y).notTw ((syn_cl ts y).sumTw n g0) n g1) n) g
      have hstop : ∀ {b : Bool} {q' : rf.PS × List rf.Tr}, 0 ≤ p1.bad → rf.bodyLp s (F + 1) k b p1 (ks ++ [x]) = some q' → q'.1 = p1 := fun {b q'} hb he => by
        cases k with
        | zero => cases he
        | succ k =>
          rw [rf.bodyLp, if_neg (by omega)] at he
          cases he; rfl
      by_cases hb : 7 ≤ kindR ts r ∧ kindR ts r ≤ 14
      · rw [decide_eq_true hb, if_pos rfl] at e1
        split at h2
        · cases h2
        · rename_i r1 e2
          obtain ⟨⟨o, ho⟩, _⟩ := (sim_stmts L n g0 g1 ds rfl F).2.2 p r g _ _ (by rw [h.defs]; exact hds) hal hb e1 e2
          cases ho
        · rename_i r1 o e2
          obtain ⟨_, hst⟩ := (sim_stmts L n g0 g1 ds rfl F).2.2 p r g _ _ (by rw [h.defs]; exact hds) hal hb e1 e2
          rcases hst with hde | hs
          · left
            obtain ⟨y, y0, y1, y2⟩ := hde
            dsimp only at y1 y2
            refine ⟨y, y0, by rw [hstop (by omega) h1]; exact y1, endP_syn ?_⟩
            exact keeps_more (KS y) m _ _ _ y2 h2
          · have hd := hs.defs
            dsimp only at hd
            have hal1 := hs.al
            dsimp only at hal1
            have hq : BlkQR s ts ds r0 p1 (ks ++ [x]) r1 (l ++ [o]) := by
              refine ⟨hal1, hd.trans h.defs, ?_, ?_, fun ms hms => ?_, wfs_snoc h.wf hs.wf⟩
              · rw [strays_snoc, orT_pair, ← h.nam]; exact hs.nam
              · rw [bads_snoc, orT_pair, ← h.num]; exact hs.num
              · obtain ⟨ms0, mm, a1, a2, rfl⟩ := allO_snoc hms
                have := hs.stp mm (by dsimp only; rw [a2])
                rw [h.defs] at this
                exact (h.stp ms0 a1).snoc this
            have hl2 : (ks ++ [x]).length = (l ++ [o]).length := by simp [hlen]
            by_cases e1' : kindR ts r1 = 1
            · have h46 : (p1.next.kind != 46) = false := by rw [(hal1.kinds L).2.2.2.1.2 e1']; rfl
              rw [h46] at h1
              cases k with
              | zero => cases h1
              | succ k =>
              rw [rf.bodyLp, if_neg (by simp)] at h1
              cases h1
              cases m with
              | zero => cases h2
              | succ m =>
              rw [moreLp] at h2
              split at h2
              · cases h2
              · rename_i r2 e3
                have := stm_none (by omega) e3
                cases this
                cases h2
                right
                have he : endP ts (r1, l ++ [o]) = r1 := by
                  have hm : midP ts (r1, l ++ [o]) = r1 := by unfold midP; rw [if_neg (by simp)]
                  unfold endP
                  rw [hm, if_pos e1']
                rw [he]
                exact hq
              · rename_i r2 o2 e3
                have := stm_none (by omega) e3
                cases this
            · have h46 : (p1.next.kind != 46) = true := by
                rw [bne_iff_ne]; intro e; exact e1' ((hal1.kinds L).2.2.2.1.1 e)
              rw [h46] at h1
              exact sim_body L n g0 g1 g (F + 1) ds k hds hq hl2 (Or.inr e1') h1 h2
      · rw [decide_eq_false hb, if_neg (by decide)] at e1
        left
        obtain ⟨y, y0, y1, y2⟩ := hal.fail L
        have b1 := (bad_stmts s F).2.2.2 _ _ (by omega) e1
        dsimp only at b1
        have hz : z = (r, l) := by
          split at h2
          · cases h2
          · rename_i r1 e2
            have := stm_none hb e2
            cases this
            exact (Option.some.inj h2).symm
          · rename_i r1 o e2
            have := stm_none hb e2
            cases this
        subst hz
        refine ⟨y, y0, by rw [hstop (by omega) h1]; exact b1.trans y1, ?_⟩
        unfold endP
        by_cases hl : l.length = 0
        · rw [show midP ts (r, l) = failR ts r by unfold midP; rw [if_pos hl]]
          split
          · exact y2
          · exact (syn_cl ts y).fail _ y2
        · have hk1 : kindR ts r ≠ 1 := hor.resolve_left (fun e => hl (by rw [← hlen, e]; rfl))
          rw [show midP ts (r, l) = r by unfold midP; rw [if_neg hl], if_neg hk1]
          exact y2
end
/-! ## the whole -/
structure CompQR (s : ByteArray) (c : rf.PS × List rf.Df × List rf.Tr) (r : RS × List (Option StpM)) : Prop where
  al : Al s (allP s) c.1 r.1
  defs : DefsT c.2.1 r.1.defs
  nam : r.1.nam = orT none (rf.namesP c.2.1 (.mk rf.wBlock nB 0 0 c.2.2))
  num : r.1.num = orT none (rf.numbersP c.2.1 (.mk rf.wBlock nB 0 0 c.2.2))
  stp : ∀ ms, allO r.2 = some ms → StpsT r.1.defs c.2.2 ms
  wf : rf.WfTrs c.2.2
theorem al0 {s : ByteArray} (h : 0 < (allP s).length) : Al s (allP s) (rf.ps0 s) rs0 :=
  ⟨by show (-1 : Int) < 0; decide, rfl, h, rfl, rfl, rfl, ⟨[], rfl, rfl, rfl, Or.inl ⟨rfl, rfl⟩⟩⟩
theorem comp_sim {s : ByteArray} (hs : s.size ≤ 600) {F : Nat} {c : rf.PS × List rf.Df × List rf.Tr} {r : RS × List (Option StpM)} (h1 : rf.compP s F = some c) (h2 : polA (allP s) = some r) : De c.1 r.1 ∨ CompQR s c r := by
  obtain ⟨hok, hl0⟩ := allP_ok hs
  have L := lx_all hs
  have hL := allP_len s
  unfold rf.compP at h1
  split at h1
  · cases h1
  · rename_i p1 ds e1
    split at h1
    · cases h1
    · rename_i p2 ks e2
      cases h1
      have h2' : policyW (allP s) 700 700 (stmA (allP s)) rs0 = some r := h2
      unfold policyW at h2'
      split at h2'
      · cases h2'
      · rename_i r1 e3
        unfold policyTw at h2'
        split at h2'
        · cases h2'
        · rename_i r2 l e4
          have hr : r = (endP (allP s) (r2, l), l) := (Option.some.inj h2').symm
          subst hr
          have e4' : moreLp (stmtTw (allP s) 700 okP (sumTw (allP s) 700 700) (condBy (allP s) (notTw (allP s) 700 (sumTw (allP s) 700 700) 700) 700) 700) 700 r1 [] = some (r2, l) := e4
          have hdead : ∀ y : Int, p1.bad = y → 0 ≤ y → p2.bad = y := fun y hy h0 => by
            cases F with
            | zero => cases e2
            | succ F =>
              rw [rf.bodyLp, if_neg (by omega)] at e2
              cases e2; exact hy
          rcases sim_defs L hL 700 700 F F 8 (p := rf.ps0 s) (r := rs0) (ds := []) ⟨al0 hl0, .nil, rfl, rfl, fun d hd => by cases hd⟩ rfl e1 e3 with hde | hq | ⟨p', hal, hk, hb⟩
          · left
            obtain ⟨y, y0, y1, y2⟩ := hde
            dsimp only at y1 y2
            refine ⟨y, y0, hdead y y1 y0, endP_syn ?_⟩
            exact keeps_more (stmA_keeps _ _ (syn_cl _ y)) 700 _ _ _ y2 e4
          · have hd := hq.defs
            dsimp only at hd
            have hal := hq.al
            dsimp only at hal
            rcases sim_body L 700 700 700 700 F ds F (p := p1) (r := r1) (r0 := r1) (m := 700) (ks := []) (l := []) hd.ok ⟨hal, rfl, by rw [strays_nil, orT_neg (by decide)], by rw [bads_nil, orT_neg (by decide)], fun ms hms => (by cases hms; exact .nil), wfs0⟩ rfl (Or.inl rfl) e2 e4' with hde | hb
            · exact Or.inl hde
            · right
              have hdf := hb.defs
              refine ⟨hb.al, by dsimp only; rw [hdf]; exact hd, ?_, ?_, fun ms hms => ?_, hb.wf⟩
              · have a := hb.nam
                have b := hq.nam
                dsimp only at a b ⊢
                rw [a, b, names_eq, orT_two, stray_other ds (by decide +kernel)]
              · have a := hb.num
                have b := hq.num
                dsimp only at a b ⊢
                unfold rf.numbersP
                rw [a, b, numbers_eq _ ds hq.ok, orT_two, bad_other (by decide +kernel)]
              · dsimp only
                rw [hdf]
                exact hb.stp ms hms
          · left
            dsimp only at hb
            have h0 : (0 : Int) ≤ (p'.next.at_ : Int) := Int.natCast_nonneg _
            obtain ⟨y, y0, y1, y2⟩ := hal.fail L
            have hy : y = (p'.next.at_ : Int) := by
              rw [← y1]; unfold rf.failP; rw [if_pos hal.bad]
            subst hy
            refine ⟨_, y0, hdead _ hb y0, ?_⟩
            have hnone : ∀ z, stmA (allP s) r1 = some z → z = (r1, none) := fun z hz => stm_none (g0 := 700) (g1 := 700) (g := 700) (n := 700) (by omega) hz
            have hz : (r2, l) = (r1, []) := by
              rw [moreLp] at e4
              split at e4
              · cases e4
              · rename_i r3 e5
                have := hnone _ e5
                cases this
                exact (Option.some.inj e4).symm
              · rename_i r3 o e5
                have := hnone _ e5
                cases this
            cases hz
            unfold endP
            rw [show midP (allP s) (r1, []) = failR (allP s) r1 from rfl]
            split
            · exact y2
            · exact (syn_cl _ _).fail _ y2
end Go.Proofs.YtgdeeodifnegiaaGreatDoor
