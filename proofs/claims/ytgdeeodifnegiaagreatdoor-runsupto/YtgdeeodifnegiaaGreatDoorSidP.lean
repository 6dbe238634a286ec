/- Conditions as texts, and how they are read by the reader's twin; no program. -/
import Derived.Test.YtgdeeodifnegiaaGreatDoorKnA
namespace Go.Proofs.YtgdeeodifnegiaaGreatDoor
open Go.RowKit

/-! ## sums and comparisons leave what is defined -/
theorem sumLp_defs {ts : List TokP} {tm : RS → Option (RS × Option AmtM)} (h0 : ∀ st r, tm st = some r → r.1.defs = st.defs) : ∀ (n : Nat) (st : RS) (a : Option AmtM) (r : RS × Option AmtM), sumLp ts tm n st a = some r → r.1.defs = st.defs
  | 0, _, _, _, h => by cases h
  | n + 1, st, a, r, h => by
    rw [sumLp] at h
    split at h
    · split at h
      · cases h
      · rename_i s b hx
        rw [sumLp_defs h0 n _ _ r h]; exact h0 _ _ hx
    · split at h
      · split at h
        · cases h
        · rename_i s b hx
          rw [sumLp_defs h0 n _ _ r h]; exact h0 _ _ hx
      · cases h; rfl
theorem sumBy_defs {ts : List TokP} {tm : RS → Option (RS × Option AmtM)} {n : Nat} (h0 : ∀ st r, tm st = some r → r.1.defs = st.defs) {st : RS} {r : RS × Option AmtM} (h : sumBy ts tm n st = some r) : r.1.defs = st.defs := by
  unfold sumBy at h
  split at h
  · cases h
  · rename_i s a hx
    rw [sumLp_defs h0 n _ _ r h]; exact h0 _ _ hx
theorem openR_defs (ts : List TokP) (k : Int) (st : RS) : (openR ts k st).defs = st.defs := by
  show (takeR ts k (if st.depth = 8 then failR ts st else st)).1.defs = _
  rw [takeR_defs]; split <;> rfl
theorem shutR_defs (ts : List TokP) (k : Int) (st : RS) : (shutR ts k st).defs = st.defs := by
  show (takeR ts k st).1.defs = _
  rw [takeR_defs]
theorem termTw_defs (ts : List TokP) (n : Nat) : ∀ (f : Nat) (st : RS) (r : RS × Option AmtM), termTw ts n f st = some r → r.1.defs = st.defs
  | 0, _, _, h => by cases h
  | f + 1, st, r, h => by
    rw [termTw] at h
    split at h
    · cases h; rfl
    · split at h
      · cases h; rfl
      · split at h
        · cases h; rfl
        · split at h
          · cases h; rfl
          · split at h
            · split at h
              · cases h
              · rename_i s a hx
                cases h
                show (shutR ts 34 s).defs = _
                have h1 := sumBy_defs (termTw_defs ts n f) hx
                dsimp only at h1
                rw [shutR_defs, h1, openR_defs]
            · cases h; rfl
theorem sumS_defs {ts : List TokP} {st : RS} {r : RS × Option AmtM} (h : sumS ts st = some r) : r.1.defs = st.defs := sumBy_defs (termTw_defs ts 100 20) h
theorem compare_defs {ts : List TokP} {st : RS} {r : RS × Option CndM} (h : compareBy ts (sumS ts) st = some r) : r.1.defs = st.defs := by
  unfold compareBy at h
  split at h
  · cases h
  · rename_i s a hx
    have h1 := sumS_defs hx
    dsimp only at h1
    split at h
    · split at h
      · cases h
      · rename_i s2 b hy
        cases h
        have h2 := sumS_defs hy
        dsimp only at h2 ⊢
        rw [h2]; exact h1
    · split at h
      · cases h
      · rename_i s2 b hy
        cases h
        have h2 := sumS_defs hy
        dsimp only at h2 ⊢
        rw [h2, takeR_defs]; exact h1
/-! ## the texts -/
inductive Ct where
  | net
  | way
  | mrk (n : Nat)
  | len (n : Nat)
  | prf (n : Nat)
  | med (n : Nat)
  | not (a : Ct)
  | brk (a : Ct)
  | and (a b : Ct)
  | or (a b : Ct)
def Ct.pc : Ct → List Pc → List Pc
  | .net, R => wPc 16 :: .sp :: wPc 17 :: .sp :: sName :: R
  | .way, R => wPc 18 :: .sp :: wPc 19 :: .sp :: wName :: R
  | .mrk n, R => wPc 20 :: .sp :: nPc n :: R
  | .len n, R => wPc 12 :: .sp :: sPc 60 :: .sp :: nPc n :: R
  | .prf n, R => wPc 4 :: .sp :: sPc 61 :: .sp :: nPc n :: R
  | .med n, R => wPc 5 :: .sp :: sPc 43 :: .sp :: nPc 1 :: .sp :: sPc 60 :: .sp :: wPc 4 :: .sp :: sPc 43 :: .sp :: nPc n :: R
  | .not a, R => wPc 15 :: .sp :: a.pc R
  | .brk a, R => sPc 91 :: .sp :: a.pc (.sp :: sPc 93 :: R)
  | .and a b, R => sPc 91 :: .sp :: a.pc (.sp :: wPc 14 :: .sp :: b.pc (.sp :: sPc 93 :: R))
  | .or a b, R => sPc 91 :: .sp :: a.pc (.sp :: wPc 13 :: .sp :: b.pc (.sp :: sPc 93 :: R))
def Ct.tk : Ct → List TokP → List TokP
  | .net, R => wT 16 :: wT 17 :: nameT :: R
  | .way, R => wT 18 :: wT 19 :: nameW :: R
  | .mrk n, R => wT 20 :: nT n :: R
  | .len n, R => wT 12 :: sT 60 :: nT n :: R
  | .prf n, R => wT 4 :: sT 61 :: nT n :: R
  | .med n, R => wT 5 :: sT 43 :: nT 1 :: sT 60 :: wT 4 :: sT 43 :: nT n :: R
  | .not a, R => wT 15 :: a.tk R
  | .brk a, R => sT 91 :: a.tk (sT 93 :: R)
  | .and a b, R => sT 91 :: a.tk (wT 14 :: b.tk (sT 93 :: R))
  | .or a b, R => sT 91 :: a.tk (wT 13 :: b.tk (sT 93 :: R))
def Ct.n : Ct → Nat
  | .net => 3
  | .way => 3
  | .mrk _ => 2
  | .len _ => 3
  | .prf _ => 3
  | .med _ => 7
  | .not a => a.n + 1
  | .brk a => a.n + 2
  | .and a b => a.n + b.n + 3
  | .or a b => a.n + b.n + 3
def Ct.h : Ct → Nat
  | .not a => a.h + 1
  | .brk a => a.h + 1
  | .and a b => max a.h b.h + 1
  | .or a b => max a.h b.h + 1
  | _ => 0
def Ct.ok : Ct → Prop
  | .net => True
  | .way => True
  | .mrk n => n ≤ 9
  | .len n => n ≤ 9
  | .prf n => n ≤ 9
  | .med n => n ≤ 9
  | .not a => a.ok
  | .brk a => a.ok
  | .and a b => a.ok ∧ b.ok
  | .or a b => a.ok ∧ b.ok
noncomputable def Ct.M (S : SetM) (W : WayM) : Ct → CndM
  | .net => netInM S
  | .way => likeM W
  | .mrk n => markedM (n : Int)
  | .len n => ltM lenM (constM (n : Int))
  | .prf n => eqM prefM (constM (n : Int))
  | .med n => ltM (plusM medM (constM 1) 1) (plusM prefM (constM (n : Int)) 1)
  | .not a => notM (a.M S W)
  | .brk a => a.M S W
  | .and a b => andM (a.M S W) (b.M S W)
  | .or a b => orM (a.M S W) (b.M S W)
theorem Ct.pc_T : ∀ (a : Ct) (R : List Pc), pcT (a.pc R) = a.tk (pcT R)
  | .net, _ => rfl
  | .way, _ => rfl
  | .mrk _, _ => rfl
  | .len _, _ => rfl
  | .prf _, _ => rfl
  | .med _, _ => rfl
  | .not a, R => by show wT 15 :: pcT (a.pc R) = _; rw [a.pc_T]; rfl
  | .brk a, R => by show sT 91 :: pcT (a.pc _) = _; rw [a.pc_T]; rfl
  | .and a b, R => by
    show sT 91 :: pcT (a.pc _) = _
    rw [a.pc_T]
    show sT 91 :: a.tk (wT 14 :: pcT (b.pc _)) = _
    rw [b.pc_T]; rfl
  | .or a b, R => by
    show sT 91 :: pcT (a.pc _) = _
    rw [a.pc_T]
    show sT 91 :: a.tk (wT 13 :: pcT (b.pc _)) = _
    rw [b.pc_T]; rfl
theorem s91 : signK ((91 : UInt8).toNat : Int) = 31 := by decide +kernel
theorem s93 : signK ((93 : UInt8).toNat : Int) = 32 := by decide +kernel
theorem s60 : signK ((60 : UInt8).toNat : Int) = 40 := by decide +kernel
theorem s61 : signK ((61 : UInt8).toNat : Int) = 26 := by decide +kernel
theorem s59 : signK ((59 : UInt8).toNat : Int) = 27 := by decide +kernel
theorem s123 : signK ((123 : UInt8).toNat : Int) = 29 := by decide +kernel
theorem s125 : signK ((125 : UInt8).toNat : Int) = 30 := by decide +kernel
/-- a blank ahead -/
def spAhead (R : List Pc) : Prop := hdLow (pcBytes R) ∧ hdNum (pcBytes R)
theorem sp_ahead (R : List Pc) : spAhead (.sp :: R) := hd_sp _
theorem Ct.pc_ok : ∀ (a : Ct) (R : List Pc), a.ok → pcOk R → spAhead R → pcOk (a.pc R)
  | .net, _, _, h, hs => ok_w (by decide) (ok_w (by decide) (ok_name h hs.1) (hd_sp _).1) (hd_sp _).1
  | .way, _, _, h, hs => ok_w (by decide) (ok_w (by decide) (ok_nameW h hs.1) (hd_sp _).1) (hd_sp _).1
  | .mrk n, _, ho, h, hs => ok_w (by decide) (ok_n (Nat.le_trans ho (by decide)) h hs.2) (hd_sp _).1
  | .len n, _, ho, h, hs => ok_w (by decide) (ok_s (by rw [s60]; decide) (ok_n (Nat.le_trans ho (by decide)) h hs.2)) (hd_sp _).1
  | .prf n, _, ho, h, hs => ok_w (by decide) (ok_s (by rw [s61]; decide) (ok_n (Nat.le_trans ho (by decide)) h hs.2)) (hd_sp _).1
  | .med n, _, ho, h, hs => ok_w (by decide) (ok_s (by rw [s43]; decide) (ok_n (by decide) (ok_s (by rw [s60]; decide) (ok_w (by decide) (ok_s (by rw [s43]; decide) (ok_n (Nat.le_trans ho (by decide)) h hs.2)) (hd_sp _).1)) (hd_sp _).2)) (hd_sp _).1
  | .not a, R, ho, h, hs => ok_w (by decide) (a.pc_ok R ho h hs) (hd_sp _).1
  | .brk a, _, ho, h, _ => ok_s (by rw [s91]; decide) (a.pc_ok _ ho (ok_s (by rw [s93]; decide) h) (sp_ahead _))
  | .and a b, _, ho, h, _ => ok_s (by rw [s91]; decide) (a.pc_ok _ ho.1 (ok_w (by decide) (b.pc_ok _ ho.2 (ok_s (by rw [s93]; decide) h) (sp_ahead _)) (hd_sp _).1) (sp_ahead _))
  | .or a b, _, ho, h, _ => ok_s (by rw [s91]; decide) (a.pc_ok _ ho.1 (ok_w (by decide) (b.pc_ok _ ho.2 (ok_s (by rw [s93]; decide) h) (sp_ahead _)) (hd_sp _).1) (sp_ahead _))
/-! ## reading -/
/-- tokens as a list has them, but for their places -/
def TsIs (ts T : List TokP) : Prop := ∀ k, tAt ts k = tAt T k
theorem TsIs.pcs (L : List Pc) : TsIs (pcToks 0 L) (pcT L) := fun k => pcs_tAt L k
theorem dropT {ts T : List TokP} (h : TsIs ts T) {k : Nat} {t : TokP} {r : List TokP} (hd : T.drop k = t :: r) : tAt ts k = (t.kind, t.text, t.number, t.addr, t.len) ∧ T.drop (k + 1) = r := by
  have e : T[k]? = some t := by
    have := congrArg (·[0]?) hd
    simpa [List.getElem?_drop] using this
  refine ⟨?_, by rw [← List.drop_drop, hd]; rfl⟩
  rw [h k]
  unfold tAt
  rw [e]; rfl
theorem nxtT {ts T : List TokP} (h : TsIs ts T) {k : Nat} {t : TokP} {r : List TokP} (hd : T.drop k = t :: r) : kAt ts k = t.kind := kAt_of (dropT h hd).1
def ReadsD {α : Type} (Ds : List DefP) (ts : List TokP) (rd : RS → Option (RS × α)) (d : Int) (k k' : Nat) (m : α) : Prop := ∀ st, Good ts st d k → st.defs = Ds → ∃ st', rd st = some (st', m) ∧ Good ts st' d k' ∧ st'.defs = Ds
def noSum (k : Int) : Prop := k ≠ 38 ∧ k ≠ 39
theorem cmpD {Ds : List DefP} {ts : List TokP} {f n : Nat} {d : Int} {k k' : Nat} {c : CndM} (h : Reads ts (compareBy ts (sumS ts)) d k k' (some c)) (e : kAt ts k = 9 ∨ kAt ts k = 10 ∨ kAt ts k = 17) : ReadsD Ds ts (notTw ts n (sumS ts) (f + 1)) d k k' (some c) := fun st g hd => by
  obtain ⟨s, e1, g1⟩ := h st g
  refine ⟨s, ?_, g1, (compare_defs e1).trans hd⟩
  rw [notTw, g.kind, if_neg (by omega), if_neg (by omega), if_neg (by omega), if_neg (by omega), if_neg (by omega)]; exact e1
theorem bin_twoD {Ds : List DefP} {ts : List TokP} {q : Int} {m : CndM → CndM → CndM} {rd : RS → Option (RS × Option CndM)} {d : Int} {k k1 k' n : Nat} {a b : CndM} (h1 : ReadsD Ds ts rd d k k1 (some a)) (e1 : kAt ts k1 = q) (h2 : ReadsD Ds ts rd d (k1 + 1) k' (some b)) (e2 : kAt ts k' ≠ q) : ReadsD Ds ts (binBy ts q m rd (n + 2)) d k k' (some (m a b)) := fun st g hd => by
  obtain ⟨s1, a1, g1, d1⟩ := h1 st g hd
  obtain ⟨s2, a2, g2, d2⟩ := h2 _ g1.go d1
  refine ⟨s2, ?_, g2, d2⟩
  rw [binBy, a1]
  dsimp only
  rw [binLp, g1.kind, if_pos e1, a2]
  dsimp only
  rw [binLp, g2.kind, if_neg e2]; rfl
theorem bin_oneD {Ds : List DefP} {ts : List TokP} {q : Int} {m : CndM → CndM → CndM} {rd : RS → Option (RS × Option CndM)} {d : Int} {k k' n : Nat} {a : CndM} (h1 : ReadsD Ds ts rd d k k' (some a)) (e1 : kAt ts k' ≠ q) : ReadsD Ds ts (binBy ts q m rd (n + 1)) d k k' (some a) := fun st g hd => by
  obtain ⟨s1, a1, g1, d1⟩ := h1 st g hd
  refine ⟨s1, ?_, g1, d1⟩
  rw [binBy, a1]
  dsimp only
  rw [binLp, g1.kind, if_neg e1]
theorem cond_oneD {Ds : List DefP} {ts : List TokP} {nt : RS → Option (RS × Option CndM)} {d : Int} {k k' : Nat} {a : CndM} (h1 : ReadsD Ds ts nt d k k' (some a)) (e1 : kAt ts k' ≠ 18) (e2 : kAt ts k' ≠ 19) : ReadsD Ds ts (condBy ts nt 100) d k k' (some a) :=
  bin_oneD (n := 99) (bin_oneD (n := 99) h1 e2) e1
theorem cond_andD {Ds : List DefP} {ts : List TokP} {nt : RS → Option (RS × Option CndM)} {d : Int} {k k1 k' : Nat} {a b : CndM} (h1 : ReadsD Ds ts nt d k k1 (some a)) (e0 : kAt ts k1 = 19) (h2 : ReadsD Ds ts nt d (k1 + 1) k' (some b)) (e1 : kAt ts k' ≠ 18) (e2 : kAt ts k' ≠ 19) : ReadsD Ds ts (condBy ts nt 100) d k k' (some (andM a b)) :=
  bin_oneD (n := 99) (bin_twoD (n := 98) h1 e0 h2 e2) e1
theorem cond_orD {Ds : List DefP} {ts : List TokP} {nt : RS → Option (RS × Option CndM)} {d : Int} {k k1 k' : Nat} {a b : CndM} (h1 : ReadsD Ds ts nt d k k1 (some a)) (e0 : kAt ts k1 = 18) (h2 : ReadsD Ds ts nt d (k1 + 1) k' (some b)) (e1 : kAt ts k' ≠ 18) (e2 : kAt ts k' ≠ 19) : ReadsD Ds ts (condBy ts nt 100) d k k' (some (orM a b)) :=
  bin_twoD (n := 98) (bin_oneD (n := 99) h1 (by rw [e0]; decide)) e0 (bin_oneD (n := 99) h2 e2) e1
theorem brkD {Ds : List DefP} {ts : List TokP} {f : Nat} {d : Int} {k k1 : Nat} {c : CndM} (h0 : 0 ≤ d) (h8 : d < 8) (e0 : kAt ts k = 31) (h1 : ReadsD Ds ts (condBy ts (notTw ts 100 (sumS ts) f) 100) (d + 1) (k + 1) k1 (some c)) (e1 : kAt ts k1 = 32) : ReadsD Ds ts (notTw ts 100 (sumS ts) (f + 1)) d k (k1 + 1) (some c) := fun st g hd => by
  obtain ⟨s1, a1, g1, d1⟩ := h1 _ (g.open e0 h0 h8) (by rw [openR_defs]; exact hd)
  refine ⟨_, ?_, g1.shut e1 h0 h8, by rw [shutR_defs]; exact d1⟩
  rw [notTw, g.kind, e0, if_neg (by decide), if_neg (by decide), if_neg (by decide), if_neg (by decide), if_pos rfl, a1]
theorem notD {Ds : List DefP} {ts : List TokP} {f : Nat} {d : Int} {k k1 : Nat} {c : CndM} (h0 : 0 ≤ d) (h8 : d < 8) (e0 : kAt ts k = 20) (h1 : ReadsD Ds ts (notTw ts 100 (sumS ts) f) (d + 1) (k + 1) k1 (some c)) : ReadsD Ds ts (notTw ts 100 (sumS ts) (f + 1)) d k k1 (some (notM c)) := fun st g hd => by
  obtain ⟨s1, a1, g1, d1⟩ := h1 _ (g.open e0 h0 h8) (by rw [openR_defs]; exact hd)
  refine ⟨_, ?_, g1.dec h0 h8, d1⟩
  rw [notTw, g.kind, e0, if_pos rfl, a1]; rfl
theorem Ct.reads {ts T : List TokP} (hts : TsIs ts T) {Ds : List DefP} {S : SetM} {W : WayM} (hS : findSet Ds (bsA [115]) = some S) (hW : findWay Ds (bsA [119]) = some W) : ∀ (a : Ct) (f : Nat) (d : Int) (k : Nat) (t : TokP) (R : List TokP), a.ok → a.h < f → 0 ≤ d → d + (a.h : Int) ≤ 8 → noSum t.kind → T.drop k = a.tk (t :: R) →
    ReadsD Ds ts (notTw ts 100 (sumS ts) f) d k (k + a.n) (some (a.M S W)) ∧ T.drop (k + a.n) = t :: R
  | .net, f, d, k, t, R, _, hf, _, _, _, hd => by
    obtain ⟨f, rfl⟩ : ∃ g, f = g + 1 := ⟨f - 1, by omega⟩
    obtain ⟨e0, d1⟩ := dropT hts (show T.drop k = wT 16 :: _ from hd)
    obtain ⟨e1, d2⟩ := dropT hts d1
    obtain ⟨e2, d3⟩ := dropT hts d2
    refine ⟨fun st g hds => ?_, d3⟩
    have g2 := g.go.go
    obtain ⟨tx, _, _, _⟩ := tokR_at g2 e2
    dsimp only at tx
    have hu : useSetR ts (goR ts (goR ts st)) = (goR ts (goR ts (goR ts st)), some S) := by
      unfold useSetR
      rw [g2.take (show kAt ts (k + 1 + 1) = 4 from kAt_of e2)]
      dsimp only
      rw [tx]
      have : findSet (goR ts (goR ts (goR ts st))).defs (bsA [115]) = some S := by
        show findSet st.defs _ = _
        rw [hds]; exact hS
      show (match findSet _ (bsA [115]) with | some s => _ | none => _) = _
      rw [this]
    have hk : kAt ts k = 21 := kAt_of e0
    have hk1 : kAt ts (k + 1) = 22 := kAt_of e1
    refine ⟨_, ?_, g2.go, hds⟩
    rw [notTw, g.kind, hk, if_neg (by decide), if_pos rfl, g.go.take hk1]
    dsimp only
    rw [hu]; rfl
  | .way, f, d, k, t, R, _, hf, _, _, _, hd => by
    obtain ⟨f, rfl⟩ : ∃ g, f = g + 1 := ⟨f - 1, by omega⟩
    obtain ⟨e0, d1⟩ := dropT hts (show T.drop k = wT 18 :: _ from hd)
    obtain ⟨e1, d2⟩ := dropT hts d1
    obtain ⟨e2, d3⟩ := dropT hts d2
    refine ⟨fun st g hds => ?_, d3⟩
    have g2 := g.go.go
    obtain ⟨tx, _, _, _⟩ := tokR_at g2 e2
    dsimp only at tx
    have hu : useWayR ts (goR ts (goR ts st)) = (goR ts (goR ts (goR ts st)), some W) := by
      unfold useWayR
      rw [g2.take (show kAt ts (k + 1 + 1) = 4 from kAt_of e2)]
      dsimp only
      rw [tx]
      have : findWay (goR ts (goR ts (goR ts st))).defs (bsA [119]) = some W := by
        show findWay st.defs _ = _
        rw [hds]; exact hW
      show (match findWay _ (bsA [119]) with | some s => _ | none => _) = _
      rw [this]
    have hk : kAt ts k = 23 := kAt_of e0
    have hk1 : kAt ts (k + 1) = 24 := kAt_of e1
    refine ⟨_, ?_, g2.go, hds⟩
    rw [notTw, g.kind, hk, if_neg (by decide), if_neg (by decide), if_pos rfl, g.go.take hk1]
    dsimp only
    rw [hu]; rfl
  | .mrk n, f, d, k, t, R, ho, hf, _, _, _, hd => by
    obtain ⟨f, rfl⟩ : ∃ g, f = g + 1 := ⟨f - 1, by omega⟩
    obtain ⟨e0, d1⟩ := dropT hts (show T.drop k = wT 20 :: _ from hd)
    obtain ⟨e1, d2⟩ := dropT hts d1
    refine ⟨fun st g hds => ?_, d2⟩
    have hn := nAt_of e1
    have ho' : n ≤ 9 := ho
    have hw := g.go.within (lo := 0) (hi := 65535) (kAt_of e1) (by rw [hn]; show (0 : Int) ≤ (n : Int); omega) (by rw [hn]; show (n : Int) ≤ 65535; omega)
    rw [hn] at hw
    have hk : kAt ts k = 25 := kAt_of e0
    refine ⟨_, ?_, g.go.go, hds⟩
    rw [notTw, g.kind, hk, if_neg (by decide), if_neg (by decide), if_neg (by decide), if_pos rfl, hw]; rfl
  | .len n, f, d, k, t, R, _, hf, _, _, ht, hd => by
    obtain ⟨f, rfl⟩ : ∃ g, f = g + 1 := ⟨f - 1, by omega⟩
    obtain ⟨e0, d1⟩ := dropT hts (show T.drop k = wT 12 :: _ from hd)
    obtain ⟨e1, d2⟩ := dropT hts d1
    obtain ⟨e2, d3⟩ := dropT hts d2
    have hk : kAt ts k = 17 := kAt_of e0
    have hk1 : kAt ts (k + 1) = 40 := (kAt_of e1).trans s60
    have hk3 : kAt ts (k + 3) = t.kind := nxtT hts d3
    have hn2 := nAt_of e2
    have r2 := term_num' (ts := ts) (n := 100) (f := 19) (d := d) (k := k + 2) (kAt_of e2)
    rw [hn2] at r2
    exact ⟨cmpD (cmp_lt (k1 := k + 1) (sum_one (n := 100) (term_len' (f := 19) hk) (by rw [hk1]; decide) (by rw [hk1]; decide) (by decide)) hk1 (sum_one (n := 100) (k1 := k + 3) r2 (by rw [hk3]; exact ht.1) (by rw [hk3]; exact ht.2) (by decide))) (Or.inr (Or.inr hk)), d3⟩
  | .prf n, f, d, k, t, R, _, hf, _, _, ht, hd => by
    obtain ⟨f, rfl⟩ : ∃ g, f = g + 1 := ⟨f - 1, by omega⟩
    obtain ⟨e0, d1⟩ := dropT hts (show T.drop k = wT 4 :: _ from hd)
    obtain ⟨e1, d2⟩ := dropT hts d1
    obtain ⟨e2, d3⟩ := dropT hts d2
    have hk : kAt ts k = 9 := kAt_of e0
    have hk1 : kAt ts (k + 1) = 26 := (kAt_of e1).trans s61
    have hk3 : kAt ts (k + 3) = t.kind := nxtT hts d3
    have hn2 := nAt_of e2
    have r2 := term_num' (ts := ts) (n := 100) (f := 19) (d := d) (k := k + 2) (kAt_of e2)
    rw [hn2] at r2
    exact ⟨cmpD (cmp_eq (k1 := k + 1) (sum_one (n := 100) (term_pref' (f := 19) hk) (by rw [hk1]; decide) (by rw [hk1]; decide) (by decide)) hk1 (sum_one (n := 100) (k1 := k + 3) r2 (by rw [hk3]; exact ht.1) (by rw [hk3]; exact ht.2) (by decide))) (Or.inl hk), d3⟩
  | .med n, f, d, k, t, R, _, hf, _, _, ht, hd => by
    obtain ⟨f, rfl⟩ : ∃ g, f = g + 1 := ⟨f - 1, by omega⟩
    obtain ⟨e0, d1⟩ := dropT hts (show T.drop k = wT 5 :: _ from hd)
    obtain ⟨e1, d2⟩ := dropT hts d1
    obtain ⟨e2, d3⟩ := dropT hts d2
    obtain ⟨e3, d4⟩ := dropT hts d3
    obtain ⟨e4, d5⟩ := dropT hts d4
    obtain ⟨e5, d6⟩ := dropT hts d5
    obtain ⟨e6, d7⟩ := dropT hts d6
    have hk : kAt ts k = 10 := kAt_of e0
    have hk1 : kAt ts (k + 1) = 38 := (kAt_of e1).trans s43
    have hk3 : kAt ts (k + 3) = 40 := (kAt_of e3).trans s60
    have hk4 : kAt ts (k + 4) = 9 := kAt_of e4
    have hk5 : kAt ts (k + 5) = 38 := (kAt_of e5).trans s43
    have hk7 : kAt ts (k + 7) = t.kind := nxtT hts d7
    have r2 := term_num' (ts := ts) (n := 100) (f := 19) (d := d) (k := k + 2) (kAt_of e2)
    rw [nAt_of e2] at r2
    have r6 := term_num' (ts := ts) (n := 100) (f := 19) (d := d) (k := k + 6) (kAt_of e6)
    rw [nAt_of e6] at r6
    have a1 : Reads ts (sumS ts) d k (k + 3) (some (plusM medM (constM 1) 1)) :=
      sum_reads (n := 100) (term_med' (f := 19) hk) (.plus (k1 := k + 3) hk1 r2 (.nil (by rw [hk3]; decide) (by rw [hk3]; decide))) (by decide)
    have a2 : Reads ts (sumS ts) d (k + 3 + 1) (k + 7) (some (plusM prefM (constM (n : Int)) 1)) :=
      sum_reads (n := 100) (k1 := k + 5) (term_pref' (f := 19) hk4) (.plus (k1 := k + 7) hk5 r6 (.nil (by rw [hk7]; exact ht.1) (by rw [hk7]; exact ht.2))) (by decide)
    exact ⟨cmpD (cmp_lt a1 hk3 a2) (Or.inr (Or.inl hk)), d7⟩
  | .not a, f, d, k, t, R, ho, hf, h0, h8, ht, hd => by
    simp only [Ct.h] at hf h8
    obtain ⟨f, rfl⟩ : ∃ g, f = g + 1 := ⟨f - 1, by omega⟩
    obtain ⟨e0, d1⟩ := dropT hts (show T.drop k = wT 15 :: _ from hd)
    obtain ⟨r1, d2⟩ := a.reads hts hS hW f (d + 1) (k + 1) t R ho (by omega) (by omega) (by omega) ht d1
    have hk : k + (Ct.not a).n = k + 1 + a.n := by simp only [Ct.n]; omega
    rw [hk]
    exact ⟨notD h0 (by omega) (kAt_of e0) r1, d2⟩
  | .brk a, f, d, k, t, R, ho, hf, h0, h8, ht, hd => by
    simp only [Ct.h] at hf h8
    obtain ⟨f, rfl⟩ : ∃ g, f = g + 1 := ⟨f - 1, by omega⟩
    obtain ⟨e0, d1⟩ := dropT hts (show T.drop k = sT 91 :: _ from hd)
    obtain ⟨r1, d2⟩ := a.reads hts hS hW f (d + 1) (k + 1) (sT 93) (t :: R) ho (by omega) (by omega) (by omega) (by have h : (sT 93).kind = 32 := s93; rw [h]; exact ⟨by decide, by decide⟩) d1
    have k2 : kAt ts (k + 1 + a.n) = 32 := (nxtT hts d2).trans s93
    obtain ⟨_, d3⟩ := dropT hts d2
    have hk : k + (Ct.brk a).n = k + 1 + a.n + 1 := by simp only [Ct.n]; omega
    rw [hk]
    exact ⟨brkD h0 (by omega) ((kAt_of e0).trans s91) (cond_oneD r1 (by rw [k2]; decide) (by rw [k2]; decide)) k2, d3⟩
  | .and a b, f, d, k, t, R, ho, hf, h0, h8, ht, hd => by
    simp only [Ct.h] at hf h8
    obtain ⟨f, rfl⟩ : ∃ g, f = g + 1 := ⟨f - 1, by omega⟩
    obtain ⟨e0, d1⟩ := dropT hts (show T.drop k = sT 91 :: _ from hd)
    obtain ⟨r1, d2⟩ := a.reads hts hS hW f (d + 1) (k + 1) (wT 14) (b.tk (sT 93 :: t :: R)) ho.1 (by omega) (by omega) (by omega) ⟨by decide, by decide⟩ d1
    have k2 : kAt ts (k + 1 + a.n) = 19 := nxtT hts d2
    obtain ⟨_, d3⟩ := dropT hts d2
    obtain ⟨r2, d4⟩ := b.reads hts hS hW f (d + 1) (k + 1 + a.n + 1) (sT 93) (t :: R) ho.2 (by omega) (by omega) (by omega) (by have h : (sT 93).kind = 32 := s93; rw [h]; exact ⟨by decide, by decide⟩) d3
    have k4 : kAt ts (k + 1 + a.n + 1 + b.n) = 32 := (nxtT hts d4).trans s93
    obtain ⟨_, d5⟩ := dropT hts d4
    have hk : k + (Ct.and a b).n = k + 1 + a.n + 1 + b.n + 1 := by simp only [Ct.n]; omega
    rw [hk]
    exact ⟨brkD h0 (by omega) ((kAt_of e0).trans s91) (cond_andD r1 k2 r2 (by rw [k4]; decide) (by rw [k4]; decide)) k4, d5⟩
  | .or a b, f, d, k, t, R, ho, hf, h0, h8, ht, hd => by
    simp only [Ct.h] at hf h8
    obtain ⟨f, rfl⟩ : ∃ g, f = g + 1 := ⟨f - 1, by omega⟩
    obtain ⟨e0, d1⟩ := dropT hts (show T.drop k = sT 91 :: _ from hd)
    obtain ⟨r1, d2⟩ := a.reads hts hS hW f (d + 1) (k + 1) (wT 13) (b.tk (sT 93 :: t :: R)) ho.1 (by omega) (by omega) (by omega) ⟨by decide, by decide⟩ d1
    have k2 : kAt ts (k + 1 + a.n) = 18 := nxtT hts d2
    obtain ⟨_, d3⟩ := dropT hts d2
    obtain ⟨r2, d4⟩ := b.reads hts hS hW f (d + 1) (k + 1 + a.n + 1) (sT 93) (t :: R) ho.2 (by omega) (by omega) (by omega) (by have h : (sT 93).kind = 32 := s93; rw [h]; exact ⟨by decide, by decide⟩) d3
    have k4 : kAt ts (k + 1 + a.n + 1 + b.n) = 32 := (nxtT hts d4).trans s93
    obtain ⟨_, d5⟩ := dropT hts d4
    have hk : k + (Ct.or a b).n = k + 1 + a.n + 1 + b.n + 1 := by simp only [Ct.n]; omega
    rw [hk]
    exact ⟨brkD h0 (by omega) ((kAt_of e0).trans s91) (cond_orD r1 k2 r2 (by rw [k4]; decide) (by rw [k4]; decide)) k4, d5⟩
end Go.Proofs.YtgdeeodifnegiaaGreatDoor

namespace Go.Proofs.YtgdeeodifnegiaaGreatDoor
open Go.RowKit

/-! ## bytes -/
theorem Ct.hd : ∀ (a : Ct) (R : List Pc), pcBytes (a.pc R) = pcBytes (a.pc []) ++ pcBytes R
  | .net, R => by simp [Ct.pc, pcBytes, wPc, sName]
  | .way, R => by simp [Ct.pc, pcBytes, wPc, wName]
  | .mrk n, R => by simp [Ct.pc, pcBytes, wPc, nPc]
  | .len n, R => by simp [Ct.pc, pcBytes, wPc, nPc, sPc]
  | .prf n, R => by simp [Ct.pc, pcBytes, wPc, nPc, sPc]
  | .med n, R => by simp [Ct.pc, pcBytes, wPc, nPc, sPc]
  | .not a, R => by
    show (wd 15).data.toList ++ 32 :: pcBytes (a.pc R) = ((wd 15).data.toList ++ 32 :: pcBytes (a.pc [])) ++ _
    rw [a.hd]; simp
  | .brk a, R => by
    show 91 :: 32 :: pcBytes (a.pc _) = (91 :: 32 :: pcBytes (a.pc _)) ++ _
    rw [a.hd, a.hd [.sp, sPc 93]]
    simp [pcBytes, sPc]
  | .and a b, R => by
    show 91 :: 32 :: pcBytes (a.pc _) = (91 :: 32 :: pcBytes (a.pc _)) ++ _
    rw [a.hd, a.hd (.sp :: wPc 14 :: .sp :: b.pc [.sp, sPc 93])]
    simp only [pcBytes, sPc, wPc]
    rw [b.hd, b.hd [.sp, .tk [93] _]]
    simp [pcBytes]
  | .or a b, R => by
    show 91 :: 32 :: pcBytes (a.pc _) = (91 :: 32 :: pcBytes (a.pc _)) ++ _
    rw [a.hd, a.hd (.sp :: wPc 13 :: .sp :: b.pc [.sp, sPc 93])]
    simp only [pcBytes, sPc, wPc]
    rw [b.hd, b.hd [.sp, .tk [93] _]]
    simp [pcBytes]
def Ct.bs (a : Ct) : List UInt8 := pcBytes (a.pc [])
theorem wd_bytes : (wd 16).data.toList = [110, 101, 116] ∧ (wd 17).data.toList = [105, 110] ∧ (wd 18).data.toList = [112, 97, 116, 104] ∧ (wd 19).data.toList = [108, 105, 107, 101] ∧ (wd 20).data.toList = [109, 97, 114, 107, 101, 100] ∧ (wd 12).data.toList = [108, 101, 110] ∧ (wd 4).data.toList = [112, 114, 101, 102] ∧ (wd 5).data.toList = [109, 101, 100] ∧ (wd 15).data.toList = [110, 111, 116] ∧ (wd 14).data.toList = [97, 110, 100] ∧ (wd 13).data.toList = [111, 114] := by decide +kernel
theorem dec_one : Lib.decDigits 1 = [49] := by rw [dec_unfold, if_pos (by decide)]; rfl
theorem Ct.bs_net : Ct.net.bs = [110, 101, 116, 32, 105, 110, 32, 115] := by
  simp [Ct.bs, Ct.pc, pcBytes, wPc, sName, wd_bytes.1, wd_bytes.2.1]
theorem Ct.bs_way : Ct.way.bs = [112, 97, 116, 104, 32, 108, 105, 107, 101, 32, 119] := by
  simp [Ct.bs, Ct.pc, pcBytes, wPc, wName, wd_bytes.2.2.1, wd_bytes.2.2.2.1]
theorem Ct.bs_mrk (n : Nat) : (Ct.mrk n).bs = [109, 97, 114, 107, 101, 100, 32] ++ Lib.decDigits n := by
  simp [Ct.bs, Ct.pc, pcBytes, wPc, nPc, wd_bytes.2.2.2.2.1]
theorem Ct.bs_lenN (n : Nat) : (Ct.len n).bs = [108, 101, 110, 32, 60, 32] ++ Lib.decDigits n := by
  simp [Ct.bs, Ct.pc, pcBytes, wPc, nPc, sPc, wd_bytes.2.2.2.2.2.1]
theorem Ct.bs_prf (n : Nat) : (Ct.prf n).bs = [112, 114, 101, 102, 32, 61, 32] ++ Lib.decDigits n := by
  simp [Ct.bs, Ct.pc, pcBytes, wPc, nPc, sPc, wd_bytes.2.2.2.2.2.2.1]
theorem Ct.bs_med (n : Nat) : (Ct.med n).bs = [109, 101, 100, 32, 43, 32, 49, 32, 60, 32, 112, 114, 101, 102, 32, 43, 32] ++ Lib.decDigits n := by
  simp [Ct.bs, Ct.pc, pcBytes, wPc, nPc, sPc, wd_bytes.2.2.2.2.2.2.1, wd_bytes.2.2.2.2.2.2.2.1, dec_one]
theorem Ct.bs_not (a : Ct) : (Ct.not a).bs = [110, 111, 116, 32] ++ a.bs := by
  show (wd 15).data.toList ++ 32 :: pcBytes (a.pc []) = _
  rw [wd_bytes.2.2.2.2.2.2.2.2.1]; rfl
theorem Ct.bs_brk (a : Ct) : (Ct.brk a).bs = [91, 32] ++ a.bs ++ [32, 93] := by
  show 91 :: 32 :: pcBytes (a.pc [.sp, sPc 93]) = _
  rw [a.hd]
  simp [pcBytes, sPc, Ct.bs]
theorem Ct.bs_and (a b : Ct) : (Ct.and a b).bs = [91, 32] ++ a.bs ++ [32, 97, 110, 100, 32] ++ b.bs ++ [32, 93] := by
  show 91 :: 32 :: pcBytes (a.pc (.sp :: wPc 14 :: .sp :: b.pc [.sp, sPc 93])) = _
  rw [a.hd]
  simp only [pcBytes, sPc, wPc]
  rw [b.hd, wd_bytes.2.2.2.2.2.2.2.2.2.1]
  simp [pcBytes, Ct.bs]
theorem Ct.bs_or (a b : Ct) : (Ct.or a b).bs = [91, 32] ++ a.bs ++ [32, 111, 114, 32] ++ b.bs ++ [32, 93] := by
  show 91 :: 32 :: pcBytes (a.pc (.sp :: wPc 13 :: .sp :: b.pc [.sp, sPc 93])) = _
  rw [a.hd]
  simp only [pcBytes, sPc, wPc]
  rw [b.hd, wd_bytes.2.2.2.2.2.2.2.2.2.2]
  simp [pcBytes, Ct.bs]
theorem Ct.bs_len : ∀ (a : Ct), a.ok → a.bs.length + 9 ≤ 36 * 2 ^ a.h
  | .net, _ => by rw [Ct.bs_net]; decide
  | .way, _ => by rw [Ct.bs_way]; decide
  | .mrk n, ho => by
    have := dec_len (u := n) (Nat.le_trans ho (by decide))
    rw [Ct.bs_mrk]; simp only [List.length_append, List.length_cons, List.length_nil, Ct.h]; omega
  | .len n, ho => by
    have := dec_len (u := n) (Nat.le_trans ho (by decide))
    rw [Ct.bs_lenN]; simp only [List.length_append, List.length_cons, List.length_nil, Ct.h]; omega
  | .prf n, ho => by
    have := dec_len (u := n) (Nat.le_trans ho (by decide))
    rw [Ct.bs_prf]; simp only [List.length_append, List.length_cons, List.length_nil, Ct.h]; omega
  | .med n, ho => by
    have := dec_len (u := n) (Nat.le_trans ho (by decide))
    rw [Ct.bs_med]; simp only [List.length_append, List.length_cons, List.length_nil, Ct.h]; omega
  | .not a, ho => by
    have := a.bs_len ho
    rw [Ct.bs_not]; simp only [List.length_append, List.length_cons, List.length_nil, Ct.h, Nat.pow_succ]; omega
  | .brk a, ho => by
    have := a.bs_len ho
    rw [Ct.bs_brk]; simp only [List.length_append, List.length_cons, List.length_nil, Ct.h, Nat.pow_succ]; omega
  | .and a b, ho => by
    have h1 := a.bs_len ho.1
    have h2 := b.bs_len ho.2
    have h3 : 2 ^ a.h ≤ 2 ^ (max a.h b.h) := Nat.pow_le_pow_right (by decide) (Nat.le_max_left _ _)
    have h4 : 2 ^ b.h ≤ 2 ^ (max a.h b.h) := Nat.pow_le_pow_right (by decide) (Nat.le_max_right _ _)
    rw [Ct.bs_and]; simp only [List.length_append, List.length_cons, List.length_nil, Ct.h, Nat.pow_succ]; omega
  | .or a b, ho => by
    have h1 := a.bs_len ho.1
    have h2 := b.bs_len ho.2
    have h3 : 2 ^ a.h ≤ 2 ^ (max a.h b.h) := Nat.pow_le_pow_right (by decide) (Nat.le_max_left _ _)
    have h4 : 2 ^ b.h ≤ 2 ^ (max a.h b.h) := Nat.pow_le_pow_right (by decide) (Nat.le_max_right _ _)
    rw [Ct.bs_or]; simp only [List.length_append, List.length_cons, List.length_nil, Ct.h, Nat.pow_succ]; omega
theorem Ct.bs_lt {a : Ct} (ho : a.ok) (h : a.h ≤ 2) : a.bs.length ≤ 135 := by
  have h1 := a.bs_len ho
  have h2 : 2 ^ a.h ≤ 2 ^ 2 := Nat.pow_le_pow_right (by decide) h
  omega
/-! ## the definitions -/
def dfP : List Pc := [wPc 0, .sp, sName, .sp, sPc 61, .sp, sPc 123, .sp, pPc ⟨10, 0, 0, 0⟩ 8, .sp, nPc 16, .sp, nPc 24, .sp, sPc 125, sPc 59, .sp, wPc 1, .sp, wName, .sp, sPc 61, .sp, nPc 1, .sp, sPc 46, .sp, sPc 42, sPc 59, .sp]
def dfT : List TokP := [wT 0, nameT, sT 61, sT 123, pT ⟨10, 0, 0, 0⟩ 8, nT 16, nT 24, sT 125, sT 59, wT 1, nameW, sT 61, nT 1, sT 46, sT 42, sT 59]
def S0 : SetM := unionM [spanM 167772160 8 16 24]
def W0 : WayM := catL (numL 1) (repL true true dotL)
def Ds0 : List DefP := [⟨bsA [115], some S0, none⟩, ⟨bsA [119], none, some W0⟩]
theorem dfP_ok {l : List Pc} (h : pcOk l) : pcOk (dfP ++ l) := by
  have hq : (⟨10, 0, 0, 0⟩ : Quad).ok := ⟨by decide, by decide, by decide, by decide⟩
  have hn : netOk ((⟨10, 0, 0, 0⟩ : Quad).addr, ((8 : Nat) : Int)) := by decide
  refine ok_w (by decide) ?_ (hd_sp _).1
  refine ok_name ?_ (hd_sp _).1
  refine ok_s (by decide +kernel) (ok_s (by decide +kernel) ?_)
  refine ok_p hq (by decide) hn ?_ (hd_sp _).2
  refine ok_n (by decide) ?_ (hd_sp _).2
  refine ok_n (by decide) ?_ (hd_sp _).2
  refine ok_s (by decide +kernel) (ok_s (by decide +kernel) ?_)
  refine ok_w (by decide) ?_ (hd_sp _).1
  refine ok_nameW ?_ (hd_sp _).1
  refine ok_s (by decide +kernel) ?_
  refine ok_n (by decide) ?_ (hd_sp _).2
  exact ok_s (by decide +kernel) (ok_s (by decide +kernel) (ok_s (by decide +kernel) h))
/-- way NAME = ..; behind other definitions -/
theorem defW_more {ts : List TokP} {st : RS} {k k' n f : Nat} {nm : ByteArray} {z a l : Int} {m : WayM} (g : Good ts st 0 k) (hnd : isDefR st nm = false) (e0 : kAt ts k = 6) (e1 : tAt ts (k + 1) = (4, nm, z, a, l)) (e2 : kAt ts (k + 2) = 26)
    (hr : Reads2 ts (eithTw ts n f) 0 (k + 3) k' m) (e3 : kAt ts k' = 27) :
    ∃ st', defW ts n f st = some (st', true) ∧ Good ts st' 0 (k' + 1) ∧ st'.defs = st.defs ++ [⟨nm, none, some m⟩] := by
  have g1 := g.go
  obtain ⟨tx, _, _, _⟩ := tokR_at g1 e1
  dsimp only at tx
  have hnn : newNameR ts (goR ts st) = (goR ts (goR ts st), nm) := by
    unfold newNameR
    rw [g1.take (kAt_of e1)]
    dsimp only
    have hnd2 : isDefR (goR ts (goR ts st)) (tokR ts (goR ts st)).text = false := by rw [tx]; exact hnd
    rw [hnd2, tx]; rfl
  obtain ⟨s', a1, g2, d2⟩ := hr _ g1.go.go
  refine ⟨addDefR (goR ts s') ⟨nm, none, some m⟩, ?_, ?_, ?_⟩
  · unfold defW
    rw [g.kind, if_pos e0, hnn]
    dsimp only
    rw [g1.go.take e2]
    dsimp only
    rw [a1]
    dsimp only
    rw [g2.take e3]
  · have g3 := g2.go
    exact ⟨g3.next, g3.depth, g3.syn, g3.nam, g3.num, g3.t0, g3.page⟩
  · show s'.defs ++ [_] = _
    rw [d2]; rfl
theorem defs_read {ts T : List TokP} (hts : TsIs ts T) {R : List TokP} (hT : T = dfT ++ R) {t : TokP} {R' : List TokP} (hR : R = t :: R') (ht : t.kind = 14) :
    ∃ st, defsW ts 100 20 8 rs0 = some st ∧ Good ts st 0 16 ∧ st.defs = Ds0 ∧ T.drop 16 = R := by
  have d0 : T.drop 0 = dfT ++ R := hT
  have d16 : T.drop 16 = R := by rw [hT]; rfl
  obtain ⟨a0, d1⟩ := dropT hts (show T.drop 0 = wT 0 :: _ from d0)
  obtain ⟨a1, d2⟩ := dropT hts d1
  obtain ⟨a2, d3⟩ := dropT hts d2
  obtain ⟨a3, d4⟩ := dropT hts d3
  obtain ⟨a4, d5⟩ := dropT hts d4
  obtain ⟨a5, d6⟩ := dropT hts d5
  obtain ⟨a6, d7⟩ := dropT hts d6
  obtain ⟨a7, d8⟩ := dropT hts d7
  obtain ⟨a8, d9⟩ := dropT hts d8
  obtain ⟨a9, d10⟩ := dropT hts d9
  obtain ⟨a10, d11⟩ := dropT hts d10
  obtain ⟨a11, d12⟩ := dropT hts d11
  obtain ⟨a12, d13⟩ := dropT hts d12
  obtain ⟨a13, d14⟩ := dropT hts d13
  obtain ⟨a14, d15⟩ := dropT hts d14
  obtain ⟨a15, _⟩ := dropT hts d15
  have k16 : kAt ts 16 = 14 := by
    have h := d16
    rw [hR] at h
    exact (nxtT hts h).trans ht
  have k12 : kAt ts 12 = 2 := kAt_of a12
  have k13' : noSign (kAt ts 13) := by rw [(kAt_of a13).trans s46]; exact ⟨by decide, by decide, by decide⟩
  have hi1 : Reads2 ts (itemBy ts 100 (eithTw ts 100 19)) 0 12 13 (some (numL 1)) := fun st g => by
    have hn := nAt_of a12
    have hw := g.within (lo := 1) (hi := 65535) k12 (by rw [hn]; decide) (by rw [hn]; decide)
    rw [hn] at hw
    obtain ⟨s, b1, g1, q1⟩ := someR_of (repeats_none (ts := ts) (d := 0) (k := 13) (n := 99) (numL 1) k13') _ g.go
    refine ⟨s, ?_, g1, q1⟩
    unfold itemBy
    rw [g.kind, k12, if_pos rfl, hw]; exact b1
  have k13 : kAt ts 13 = 41 := (kAt_of a13).trans s46
  have k14 : kAt ts 14 = 36 := (kAt_of a14).trans s42
  have k15 : kAt ts 15 = 27 := (kAt_of a15).trans s59
  have n15 : noSign (kAt ts (14 + 1)) := by rw [k15]; exact ⟨by decide, by decide, by decide⟩
  have hi2 : Reads2 ts (itemBy ts 100 (eithTw ts 100 19)) 0 13 15 (some (repL true true dotL)) := fun st g => by
    obtain ⟨s, b1, g1, q1⟩ := someR_of (repeats_one (ts := ts) (d := 0) (k := 14) (n := 98) dotL 42 (Or.inl rfl) (k14.trans s42.symm) n15) _ g.go
    refine ⟨s, ?_, g1, q1⟩
    unfold itemBy
    rw [g.kind, k13, if_neg (by decide), if_pos rfl]; exact b1
  have he : eithTw ts 100 20 = eithBy ts 100 (rowBy ts 100 (itemBy ts 100 (eithTw ts 100 19))) := by funext st; rfl
  have hw : Reads2 ts (eithTw ts 100 20) 0 12 15 W0 := by
    rw [he]
    exact eith_one (n := 99) (row_two (n := 97) hi1 hi2 (item_end (by rw [k15]; rintro (h | h | h) <;> cases h))) (by rw [k15]; decide)
  clear d0 d1 d2 d3 d4 d5 d6 d7 d8 d9 d10 d11 d12 d13 d14 d15 hi1 hi2 he
  have t0 : (ts[0]?.getD tok0).text.data.toList ≠ [] := by
    have : (ts[0]?.getD tok0).text = wd 0 := congrArg (fun x => x.2.1) a0
    rw [this]; decide +kernel
  have g0 : Good ts rs0 0 0 := ⟨rfl, rfl, rfl, rfl, rfl, t0, Or.inl rfl⟩
  have h125 : kAt ts 7 = 30 := (kAt_of a7).trans s125
  obtain ⟨st1, c1, g1, hd1⟩ := def_reads (n := 100) g0 rfl (kAt_of a0) a1 ((kAt_of a2).trans s61) (fun s g => ranges_reads g ((kAt_of a3).trans s123) (fun st d g => oneRange_two g a4 a5 a6 (by decide) (by decide) (by decide) (by decide)) (.nil (by rw [h125]; decide)) (by decide) h125) ((kAt_of a8).trans s59)
  have hk1 : kindR ts st1 = 6 := by rw [g1.kind]; exact kAt_of a9
  have hd0 : defW ts 100 20 rs0 = some (st1, true) := by
    have h6 : kindR ts rs0 = 5 := by rw [g0.kind]; exact kAt_of a0
    unfold defW
    rw [h6, if_neg (by decide)]; exact c1
  obtain ⟨st2, c2, g2, hd2⟩ := defW_more (n := 100) (f := 20) g1 (by unfold isDefR; rw [hd1]; decide +kernel) (kAt_of a9) a10 ((kAt_of a11).trans s61) hw k15
  have hk2 : kindR ts st2 = 14 := by rw [g2.kind]; exact k16
  refine ⟨st2, ?_, g2, ?_, d16⟩
  · rw [show (8 : Nat) = 7 + 1 from rfl, defsW, hd0]
    dsimp only
    rw [show (7 : Nat) = 6 + 1 from rfl, defsW, c2]
    dsimp only
    rw [show (6 : Nat) = 5 + 1 from rfl, defsW, defW, hk2, if_neg (by decide), defR, hk2, if_neg (by decide), if_neg (by decide)]
  · rw [hd2, hd1]; rfl
end Go.Proofs.YtgdeeodifnegiaaGreatDoor

namespace Go.Proofs.YtgdeeodifnegiaaGreatDoor
open Go.RowKit

noncomputable abbrev cndF (ts : List TokP) : RS → Option (RS × Option CndM) := condBy ts (notTw ts 100 (sumS ts) 20) 100
noncomputable abbrev stmF (ts : List TokP) (f : Nat) : RS → Option (RS × Option (Option StpM)) := stmtTw ts 100 okP (sumS ts) (cndF ts) f
inductive Tc where
  | one (a : Ct)
  | or (a b : Ct)
def Tc.pc : Tc → List Pc → List Pc
  | .one a, R => a.pc R
  | .or a b, R => a.pc (.sp :: wPc 13 :: .sp :: b.pc R)
def Tc.n : Tc → Nat
  | .one a => a.n
  | .or a b => a.n + b.n + 1
def Tc.ok : Tc → Prop
  | .one a => a.ok ∧ a.h ≤ 6
  | .or a b => (a.ok ∧ a.h ≤ 6) ∧ (b.ok ∧ b.h ≤ 6)
noncomputable def Tc.M : Tc → CndM
  | .one a => a.M S0 W0
  | .or a b => orM (a.M S0 W0) (b.M S0 W0)
theorem Tc.pc_ok {q : Tc} (ho : q.ok) {R : List Pc} (h : pcOk R) (hs : spAhead R) : pcOk (q.pc R) := by
  cases q with
  | one a => exact a.pc_ok R ho.1 h hs
  | or a b => exact a.pc_ok _ ho.1.1 (ok_w (by decide) (b.pc_ok R ho.2.1 h hs) (hd_sp _).1) (sp_ahead _)
theorem find_s : findSet Ds0 (bsA [115]) = some S0 := by
  unfold Ds0
  rw [findSet, if_pos (by simp)]
theorem find_w : findWay Ds0 (bsA [119]) = some W0 := by
  unfold Ds0
  rw [findWay, if_neg (by simp), findWay, if_pos (by simp)]
theorem Tc.reads {ts T : List TokP} (hts : TsIs ts T) (q : Tc) (k : Nat) (R : List Pc) (t : TokP) (RT : List TokP) (ho : q.ok) (hR : pcT R = t :: RT) (ht : t.kind = 15) (hd : T.drop k = pcT (q.pc R)) :
    ReadsD Ds0 ts (cndF ts) 0 k (k + q.n) (some q.M) ∧ T.drop (k + q.n) = t :: RT := by
  have hns : noSum t.kind := by rw [ht]; exact ⟨by decide, by decide⟩
  cases q with
  | one a =>
    have hd' : T.drop k = a.tk (t :: RT) := by rw [hd]; show pcT (a.pc R) = _; rw [a.pc_T, hR]
    obtain ⟨r1, d1⟩ := a.reads hts find_s find_w 20 0 k t RT ho.1 (by have := ho.2; omega) (by omega) (by have := ho.2; omega) hns hd'
    have hk : k + (Tc.one a).n = k + a.n := rfl
    rw [hk]
    exact ⟨cond_oneD r1 (by rw [nxtT hts d1, ht]; decide) (by rw [nxtT hts d1, ht]; decide), d1⟩
  | or a b =>
    have hd' : T.drop k = a.tk (wT 13 :: b.tk (t :: RT)) := by
      rw [hd]
      show pcT (a.pc (.sp :: wPc 13 :: .sp :: b.pc R)) = _
      rw [a.pc_T]
      show a.tk (wT 13 :: pcT (b.pc R)) = _
      rw [b.pc_T, hR]
    obtain ⟨r1, d1⟩ := a.reads hts find_s find_w 20 0 k (wT 13) (b.tk (t :: RT)) ho.1.1 (by have := ho.1.2; omega) (by omega) (by have := ho.1.2; omega) ⟨by decide, by decide⟩ hd'
    have k1 : kAt ts (k + a.n) = 18 := nxtT hts d1
    obtain ⟨_, d2⟩ := dropT hts d1
    obtain ⟨r2, d3⟩ := b.reads hts find_s find_w 20 0 (k + a.n + 1) t RT ho.2.1 (by have := ho.2.2; omega) (by omega) (by have := ho.2.2; omega) hns d2
    have hk : k + (Tc.or a b).n = k + a.n + 1 + b.n := by simp only [Tc.n]; omega
    rw [hk]
    exact ⟨cond_orD r1 k1 r2 (by rw [nxtT hts d3, ht]; decide) (by rw [nxtT hts d3, ht]; decide), d3⟩
/-! ## an if, where what is defined is known -/
theorem ifD {ts : List TokP} {st : RS} {f k k1 k2 : Nat} {c : CndM} {yes : List StpM} (g : Good ts st 0 k) (hds : st.defs = Ds0) (e : kAt ts k = 14) (hc : ReadsD Ds0 ts (cndF ts) 0 (k + 1) k1 (some c)) (e1 : kAt ts k1 = 15) (hy : Reads ts (blockBy ts (stmF ts f) 100) 0 (k1 + 1) k2 (yes.map some)) (e2 : kAt ts k2 ≠ 16) :
    ∃ s, stmF ts (f + 1) st = some (s, some (some (chooseM c yes []))) ∧ Good ts s 0 k2 := by
  obtain ⟨s1, h1, g1, _⟩ := hc _ g.go hds
  obtain ⟨s2, h2, g2⟩ := hy _ g1.go
  refine ⟨s2, ?_, g2⟩
  have h2' : blockBy ts (stmtTw ts 100 okP (sumS ts) (cndF ts) f) 100 (goR ts s1) = some (s2, yes.map some) := h2
  unfold stmF
  rw [stmtTw, g.kind, e, if_neg (by decide), if_pos rfl, h1]
  dsimp only
  rw [g1.take e1]
  dsimp only
  rw [h2']
  dsimp only
  rw [g2.kind, if_neg e2, chooseO, allO_map]; rfl
theorem ifelseD {ts : List TokP} {st : RS} {f k k1 k2 k3 : Nat} {c : CndM} {yes no : List StpM} (g : Good ts st 0 k) (hds : st.defs = Ds0) (e : kAt ts k = 14) (hc : ReadsD Ds0 ts (cndF ts) 0 (k + 1) k1 (some c)) (e1 : kAt ts k1 = 15) (hy : Reads ts (blockBy ts (stmF ts f) 100) 0 (k1 + 1) k2 (yes.map some)) (e2 : kAt ts k2 = 16) (hn : Reads ts (blockBy ts (stmF ts f) 100) 0 (k2 + 1) k3 (no.map some)) :
    ∃ s, stmF ts (f + 1) st = some (s, some (some (chooseM c yes no))) ∧ Good ts s 0 k3 := by
  obtain ⟨s1, h1, g1, _⟩ := hc _ g.go hds
  obtain ⟨s2, h2, g2⟩ := hy _ g1.go
  obtain ⟨s3, h3, g3⟩ := hn _ g2.go
  refine ⟨s3, ?_, g3⟩
  have h2' : blockBy ts (stmtTw ts 100 okP (sumS ts) (cndF ts) f) 100 (goR ts s1) = some (s2, yes.map some) := h2
  have h3' : blockBy ts (stmtTw ts 100 okP (sumS ts) (cndF ts) f) 100 (goR ts s2) = some (s3, no.map some) := h3
  unfold stmF
  rw [stmtTw, g.kind, e, if_neg (by decide), if_pos rfl, h1]
  dsimp only
  rw [g1.take e1]
  dsimp only
  rw [h2']
  dsimp only
  rw [g2.kind, if_pos e2, h3']
  dsimp only
  rw [chooseO, allO_map]
  dsimp only
  rw [allO_map]
theorem pol_done {ts : List TokP} {st1 s2 : RS} {m : StpM} {ms : List StpM} {k2 K : Nat} (hds : defsW ts 100 20 8 rs0 = some st1) (h1 : stmF ts 3 st1 = some (s2, some (some m))) (g2 : Good ts s2 0 k2) (hm : Many ts (stmF ts 3) 0 k2 K ms) (hl : ms.length < 50) (hK : kAt ts K = 1) :
    ∃ st, policyW ts 100 20 (stmF ts 3) rs0 = some (st, (m :: ms).map some) ∧ Good ts st 0 K := by
  obtain ⟨s3, h3, g3⟩ := many_lp hm 99 (by omega) s2 ([] ++ [some m]) g2
  refine ⟨s3, ?_, g3⟩
  unfold policyW
  rw [hds]
  dsimp only
  unfold policyTw
  rw [show (100 : Nat) = 99 + 1 from rfl, moreLp, h1]
  dsimp only
  rw [h3]
  dsimp only
  have hlen : ¬ ([] ++ [some m] ++ ms.map some : List (Option StpM)).length = 0 := by simp
  rw [if_neg hlen, g3.kind, if_pos hK]
  simp
/-! ## the blocks -/
def oneP (R : List Pc) : List Pc := sPc 123 :: .sp :: wPc 8 :: .sp :: nPc 5 :: sPc 59 :: .sp :: wPc 6 :: .sp :: nPc 3 :: sPc 59 :: .sp :: wPc 2 :: sPc 59 :: .sp :: sPc 125 :: .sp :: R
def twoP (R : List Pc) : List Pc := sPc 123 :: .sp :: wPc 4 :: .sp :: sPc 61 :: .sp :: wPc 4 :: .sp :: sPc 43 :: .sp :: nPc 1 :: sPc 59 :: .sp :: wPc 7 :: .sp :: nPc 2 :: sPc 59 :: .sp :: wPc 2 :: sPc 59 :: .sp :: sPc 125 :: .sp :: R
def accP (R : List Pc) : List Pc := sPc 123 :: .sp :: wPc 2 :: sPc 59 :: .sp :: sPc 125 :: R
def nineP (R : List Pc) : List Pc := sPc 123 :: .sp :: wPc 2 :: sPc 59 :: .sp :: wPc 8 :: .sp :: nPc 9 :: sPc 59 :: .sp :: sPc 125 :: R
def oneMs : List StpM := [prependM 5, markM 3, concludeM 1]
def twoMs : List StpM := [setPrefM (plusM prefM (constM 1) 1), unmarkM 2, concludeM 1]
theorem hd59 (l : List UInt8) : hdLow (59 :: l) ∧ hdNum (59 :: l) := ⟨fun b hb => by rcases Option.some.inj hb with rfl; decide, fun b hb => by rcases Option.some.inj hb with rfl; decide⟩
theorem okSign {c : UInt8} {l : List Pc} (h : pcOk l) (hc : c = 123 ∨ c = 125 ∨ c = 59 ∨ c = 61 ∨ c = 43) : pcOk (sPc c :: l) := by
  rcases hc with rfl | rfl | rfl | rfl | rfl
  · exact ok_s (by rw [s123]; decide) h
  · exact ok_s (by rw [s125]; decide) h
  · exact ok_s (by rw [s59]; decide) h
  · exact ok_s (by rw [s61]; decide) h
  · exact ok_s (by rw [s43]; decide) h
theorem oneP_ok {R : List Pc} (h : pcOk R) : pcOk (oneP R) := by
  refine okSign ?_ (by simp)
  refine ok_w (by decide) ?_ (hd_sp _).1
  refine ok_n (by decide) (okSign ?_ (by simp)) (hd59 _).2
  refine ok_w (by decide) ?_ (hd_sp _).1
  refine ok_n (by decide) (okSign ?_ (by simp)) (hd59 _).2
  exact ok_w (by decide) (okSign (okSign h (by simp)) (by simp)) (hd59 _).1
theorem twoP_ok {R : List Pc} (h : pcOk R) : pcOk (twoP R) := by
  refine okSign ?_ (by simp)
  refine ok_w (by decide) ?_ (hd_sp _).1
  refine okSign ?_ (by simp)
  refine ok_w (by decide) ?_ (hd_sp _).1
  refine okSign ?_ (by simp)
  refine ok_n (by decide) (okSign ?_ (by simp)) (hd59 _).2
  refine ok_w (by decide) ?_ (hd_sp _).1
  refine ok_n (by decide) (okSign ?_ (by simp)) (hd59 _).2
  exact ok_w (by decide) (okSign (okSign h (by simp)) (by simp)) (hd59 _).1
theorem accP_ok {R : List Pc} (h : pcOk R) : pcOk (accP R) :=
  okSign (ok_w (by decide) (okSign (okSign h (by simp)) (by simp)) (hd59 _).1) (by simp)
theorem nineP_ok {R : List Pc} (h : pcOk R) : pcOk (nineP R) := by
  refine okSign ?_ (by simp)
  refine ok_w (by decide) (okSign ?_ (by simp)) (hd59 _).1
  refine ok_w (by decide) ?_ (hd_sp _).1
  exact ok_n (by decide) (okSign (okSign h (by simp)) (by simp)) (hd59 _).2
theorem none125 {ts : List TokP} {n f : Nat} {sum : RS → Option (RS × Option AmtM)} {cnd : RS → Option (RS × Option CndM)} {d : Int} {k : Nat} (h : kAt ts k = 30) : Reads ts (stmtTw ts n okP sum cnd (f + 1)) d k k none :=
  stmt_none' (by rw [h]; decide) (by rw [h]; rfl)
theorem oneP_reads {ts T : List TokP} (hts : TsIs ts T) {R : List Pc} {f k : Nat} (hd : T.drop k = pcT (oneP R)) : Reads ts (blockBy ts (stmF ts (f + 1)) 100) 0 k (k + 10) (oneMs.map some) ∧ T.drop (k + 10) = pcT R := by
  obtain ⟨e0, d1⟩ := dropT hts (show T.drop k = sT 123 :: _ from hd)
  obtain ⟨e1, d2⟩ := dropT hts d1
  obtain ⟨e2, d3⟩ := dropT hts d2
  obtain ⟨e3, d4⟩ := dropT hts d3
  obtain ⟨e4, d5⟩ := dropT hts d4
  obtain ⟨e5, d6⟩ := dropT hts d5
  obtain ⟨e6, d7⟩ := dropT hts d6
  obtain ⟨e7, d8⟩ := dropT hts d7
  obtain ⟨e8, d9⟩ := dropT hts d8
  obtain ⟨e9, d10⟩ := dropT hts d9
  refine ⟨block_reads (k' := k + 9) ((kAt_of e0).trans s123) (by decide) (by decide) ?_ (by decide) ((kAt_of e9).trans s125), d10⟩
  have r1 := stmt_prepend' (ts := ts) (n := 100) (f := f) (ok := okP) (sum := sumS ts) (cnd := cndF ts) (d := 0 + 1) (k := k + 1) (kAt_of e1) rfl (kAt_of e2) (by rw [nAt_of e2]; decide) (by rw [nAt_of e2]; decide) ((kAt_of e3).trans s59)
  rw [nAt_of e2] at r1
  have r2 := stmt_mark' (ts := ts) (n := 100) (f := f) (ok := okP) (sum := sumS ts) (cnd := cndF ts) (d := 0 + 1) (k := k + 4) (kAt_of e4) rfl (kAt_of e5) (by rw [nAt_of e5]; decide) (by rw [nAt_of e5]; decide) ((kAt_of e6).trans s59)
  rw [nAt_of e5] at r2
  exact .cons r1 (.cons r2 (.cons (k1 := k + 9) (stmt_accept' (kAt_of e7) rfl ((kAt_of e8).trans s59)) (.nil (none125 ((kAt_of e9).trans s125)))))
theorem twoP_reads {ts T : List TokP} (hts : TsIs ts T) {R : List Pc} {f k : Nat} (hd : T.drop k = pcT (twoP R)) : Reads ts (blockBy ts (stmF ts (f + 1)) 100) 0 k (k + 13) (twoMs.map some) ∧ T.drop (k + 13) = pcT R := by
  obtain ⟨e0, d1⟩ := dropT hts (show T.drop k = sT 123 :: _ from hd)
  obtain ⟨e1, d2⟩ := dropT hts d1
  obtain ⟨e2, d3⟩ := dropT hts d2
  obtain ⟨e3, d4⟩ := dropT hts d3
  obtain ⟨e4, d5⟩ := dropT hts d4
  obtain ⟨e5, d6⟩ := dropT hts d5
  obtain ⟨e6, d7⟩ := dropT hts d6
  obtain ⟨e7, d8⟩ := dropT hts d7
  obtain ⟨e8, d9⟩ := dropT hts d8
  obtain ⟨e9, d10⟩ := dropT hts d9
  obtain ⟨e10, d11⟩ := dropT hts d10
  obtain ⟨e11, d12⟩ := dropT hts d11
  obtain ⟨e12, d13⟩ := dropT hts d12
  refine ⟨block_reads (k' := k + 12) ((kAt_of e0).trans s123) (by decide) (by decide) ?_ (by decide) ((kAt_of e12).trans s125), d13⟩
  have k6 : kAt ts (k + 6) = 27 := (kAt_of e6).trans s59
  have t5 := term_num' (ts := ts) (n := 100) (f := 19) (d := 0 + 1) (k := k + 5) (kAt_of e5)
  rw [nAt_of e5] at t5
  have hs : Reads ts (sumS ts) (0 + 1) (k + 3) (k + 6) (some (plusM prefM (constM 1) 1)) :=
    sum_reads (n := 100) (k1 := k + 4) (term_pref' (f := 19) (kAt_of e3)) (.plus (k1 := k + 6) ((kAt_of e4).trans s43) t5 (.nil (by rw [k6]; decide) (by rw [k6]; decide))) (by decide)
  have r1 := stmt_pref' (ts := ts) (n := 100) (f := f) (ok := okP) (sum := sumS ts) (cnd := cndF ts) (d := 0 + 1) (k := k + 1) (kAt_of e1) rfl ((kAt_of e2).trans s61) hs k6
  have r2 := stmt_unmark' (ts := ts) (n := 100) (f := f) (ok := okP) (sum := sumS ts) (cnd := cndF ts) (d := 0 + 1) (k := k + 7) (kAt_of e7) rfl (kAt_of e8) (by rw [nAt_of e8]; decide) (by rw [nAt_of e8]; decide) ((kAt_of e9).trans s59)
  rw [nAt_of e8] at r2
  exact .cons r1 (.cons r2 (.cons (k1 := k + 12) (stmt_accept' (kAt_of e10) rfl ((kAt_of e11).trans s59)) (.nil (none125 ((kAt_of e12).trans s125)))))
theorem accP_reads {ts T : List TokP} (hts : TsIs ts T) {R : List Pc} {f k : Nat} (hd : T.drop k = pcT (accP R)) : Reads ts (blockBy ts (stmF ts (f + 1)) 100) 0 k (k + 4) ([concludeM 1].map some) ∧ T.drop (k + 4) = pcT R := by
  obtain ⟨e0, d1⟩ := dropT hts (show T.drop k = sT 123 :: _ from hd)
  obtain ⟨e1, d2⟩ := dropT hts d1
  obtain ⟨e2, d3⟩ := dropT hts d2
  obtain ⟨e3, d4⟩ := dropT hts d3
  refine ⟨block_reads (k' := k + 3) ((kAt_of e0).trans s123) (by decide) (by decide) ?_ (by decide) ((kAt_of e3).trans s125), d4⟩
  exact .cons (k1 := k + 3) (stmt_accept' (kAt_of e1) rfl ((kAt_of e2).trans s59)) (.nil (none125 ((kAt_of e3).trans s125)))
theorem nineP_reads {ts T : List TokP} (hts : TsIs ts T) {R : List Pc} {f k : Nat} (hd : T.drop k = pcT (nineP R)) : Reads ts (blockBy ts (stmF ts (f + 1)) 100) 0 k (k + 7) ([concludeM 1, prependM 9].map some) ∧ T.drop (k + 7) = pcT R := by
  obtain ⟨e0, d1⟩ := dropT hts (show T.drop k = sT 123 :: _ from hd)
  obtain ⟨e1, d2⟩ := dropT hts d1
  obtain ⟨e2, d3⟩ := dropT hts d2
  obtain ⟨e3, d4⟩ := dropT hts d3
  obtain ⟨e4, d5⟩ := dropT hts d4
  obtain ⟨e5, d6⟩ := dropT hts d5
  obtain ⟨e6, d7⟩ := dropT hts d6
  refine ⟨block_reads (k' := k + 6) ((kAt_of e0).trans s123) (by decide) (by decide) ?_ (by decide) ((kAt_of e6).trans s125), d7⟩
  have r1 := stmt_prepend' (ts := ts) (n := 100) (f := f) (ok := okP) (sum := sumS ts) (cnd := cndF ts) (d := 0 + 1) (k := k + 3) (kAt_of e3) rfl (kAt_of e4) (by rw [nAt_of e4]; decide) (by rw [nAt_of e4]; decide) ((kAt_of e5).trans s59)
  rw [nAt_of e4] at r1
  exact .cons (k1 := k + 3) (stmt_accept' (kAt_of e1) rfl ((kAt_of e2).trans s59)) (.cons r1 (.nil (none125 ((kAt_of e6).trans s125))))
theorem end_none {ts : List TokP} {k : Nat} (h : kAt ts k = 1) : Reads ts (stmF ts 3) 0 k k none :=
  stmt_none' (by rw [h]; decide) (by rw [h]; rfl)
/-! ## the policies -/
def pL (q : Tc) : List Pc := dfP ++ (wPc 9 :: .sp :: q.pc (.sp :: wPc 10 :: .sp :: oneP (wPc 11 :: .sp :: twoP [])))
def qL (q : Tc) : List Pc := dfP ++ (wPc 9 :: .sp :: q.pc (.sp :: wPc 10 :: .sp :: twoP (wPc 11 :: .sp :: oneP [wPc 3, sPc 59])))
def uL (q : Tc) : List Pc := dfP ++ (wPc 9 :: .sp :: q.pc (.sp :: wPc 10 :: .sp :: accP []))
def vL (q : Tc) : List Pc := dfP ++ (wPc 9 :: .sp :: q.pc (.sp :: wPc 10 :: .sp :: nineP []))
theorem cond_at16 {ts T : List TokP} (hts : TsIs ts T) {q : Tc} {B : List Pc} (ho : q.ok) (hT : T = dfT ++ pcT (wPc 9 :: .sp :: q.pc (.sp :: wPc 10 :: .sp :: B))) :
    ∃ st, defsW ts 100 20 8 rs0 = some st ∧ Good ts st 0 16 ∧ st.defs = Ds0 ∧ kAt ts 16 = 14 ∧ ReadsD Ds0 ts (cndF ts) 0 17 (17 + q.n) (some q.M) ∧ kAt ts (17 + q.n) = 15 ∧ T.drop (17 + q.n + 1) = pcT B := by
  obtain ⟨st, h1, g1, hd, d16⟩ := defs_read hts (t := wT 9) hT rfl rfl
  obtain ⟨e16, d17⟩ := dropT hts (show T.drop 16 = wT 9 :: pcT (q.pc (.sp :: wPc 10 :: .sp :: B)) from d16)
  obtain ⟨r1, dk⟩ := q.reads hts 17 (.sp :: wPc 10 :: .sp :: B) (wT 10) (pcT B) ho rfl rfl d17
  obtain ⟨e2, d2⟩ := dropT hts dk
  exact ⟨st, h1, g1, hd, kAt_of e16, r1, kAt_of e2, d2⟩
theorem p_policy (q : Tc) (ho : q.ok) : ∃ st K, policyW (pcToks 0 (pL q)) 100 20 (stmF (pcToks 0 (pL q)) 3) rs0 = some (st, [chooseM q.M oneMs twoMs].map some) ∧ Good (pcToks 0 (pL q)) st 0 (K + 1) := by
  obtain ⟨st, h1, g1, hd, k16, r1, k15, dB⟩ := cond_at16 (TsIs.pcs (pL q)) (B := oneP (wPc 11 :: .sp :: twoP [])) ho rfl
  obtain ⟨b1, d1⟩ := oneP_reads (TsIs.pcs (pL q)) (f := 1) dB
  obtain ⟨e11, d2⟩ := drop_tAt (show (pcT (pL q)).drop _ = wT 11 :: pcT (twoP []) from d1)
  obtain ⟨b2, d3⟩ := twoP_reads (TsIs.pcs (pL q)) (f := 1) d2
  obtain ⟨eE, _⟩ := drop_tAt (show (pcT (pL q)).drop _ = ⟨1, 0, ⟨#[]⟩, 0, 0, 0⟩ :: [] from d3)
  obtain ⟨s2, h2, g2⟩ := ifelseD (f := 2) g1 hd k16 r1 k15 b1 (kAt_of e11) b2
  obtain ⟨s3, h3, g3⟩ := pol_done h1 h2 g2 (.nil (end_none (kAt_of eE))) (by decide) (kAt_of eE)
  exact ⟨s3, _, h3, g3⟩
theorem q_policy (q : Tc) (ho : q.ok) : ∃ st K, policyW (pcToks 0 (qL q)) 100 20 (stmF (pcToks 0 (qL q)) 3) rs0 = some (st, [chooseM q.M twoMs oneMs, concludeM 2].map some) ∧ Good (pcToks 0 (qL q)) st 0 (K + 1) := by
  obtain ⟨st, h1, g1, hd, k16, r1, k15, dB⟩ := cond_at16 (TsIs.pcs (qL q)) (B := twoP (wPc 11 :: .sp :: oneP [wPc 3, sPc 59])) ho rfl
  obtain ⟨b1, d1⟩ := twoP_reads (TsIs.pcs (qL q)) (f := 1) dB
  obtain ⟨e11, d2⟩ := drop_tAt (show (pcT (qL q)).drop _ = wT 11 :: pcT (oneP [wPc 3, sPc 59]) from d1)
  obtain ⟨b2, d3⟩ := oneP_reads (TsIs.pcs (qL q)) (f := 1) d2
  obtain ⟨e3, d4⟩ := drop_tAt (show (pcT (qL q)).drop _ = wT 3 :: sT 59 :: [⟨1, 0, ⟨#[]⟩, 0, 0, 0⟩] from d3)
  obtain ⟨e4, d5⟩ := drop_tAt d4
  obtain ⟨eE, _⟩ := drop_tAt d5
  obtain ⟨s2, h2, g2⟩ := ifelseD (f := 2) g1 hd k16 r1 k15 b1 (kAt_of e11) b2
  obtain ⟨s3, h3, g3⟩ := pol_done h1 h2 g2 (.cons (stmt_reject' (kAt_of e3) rfl ((kAt_of e4).trans s59)) (.nil (end_none (kAt_of eE)))) (by decide) (kAt_of eE)
  exact ⟨s3, _, h3, g3⟩
theorem u_policy (q : Tc) (ho : q.ok) : ∃ st K, policyW (pcToks 0 (uL q)) 100 20 (stmF (pcToks 0 (uL q)) 3) rs0 = some (st, [chooseM q.M [concludeM 1] []].map some) ∧ Good (pcToks 0 (uL q)) st 0 (K + 1) := by
  obtain ⟨st, h1, g1, hd, k16, r1, k15, dB⟩ := cond_at16 (TsIs.pcs (uL q)) (B := accP []) ho rfl
  obtain ⟨b1, d1⟩ := accP_reads (TsIs.pcs (uL q)) (f := 1) dB
  obtain ⟨eE, _⟩ := drop_tAt (show (pcT (uL q)).drop _ = ⟨1, 0, ⟨#[]⟩, 0, 0, 0⟩ :: [] from d1)
  have kE := kAt_of eE
  dsimp only at kE
  obtain ⟨s2, h2, g2⟩ := ifD (f := 2) g1 hd k16 r1 k15 b1 (by rw [kE]; decide)
  obtain ⟨s3, h3, g3⟩ := pol_done h1 h2 g2 (.nil (end_none kE)) (by decide) kE
  exact ⟨s3, _, h3, g3⟩
theorem v_policy (q : Tc) (ho : q.ok) : ∃ st K, policyW (pcToks 0 (vL q)) 100 20 (stmF (pcToks 0 (vL q)) 3) rs0 = some (st, [chooseM q.M [concludeM 1, prependM 9] []].map some) ∧ Good (pcToks 0 (vL q)) st 0 (K + 1) := by
  obtain ⟨st, h1, g1, hd, k16, r1, k15, dB⟩ := cond_at16 (TsIs.pcs (vL q)) (B := nineP []) ho rfl
  obtain ⟨b1, d1⟩ := nineP_reads (TsIs.pcs (vL q)) (f := 1) dB
  obtain ⟨eE, _⟩ := drop_tAt (show (pcT (vL q)).drop _ = ⟨1, 0, ⟨#[]⟩, 0, 0, 0⟩ :: [] from d1)
  have kE := kAt_of eE
  dsimp only at kE
  obtain ⟨s2, h2, g2⟩ := ifD (f := 2) g1 hd k16 r1 k15 b1 (by rw [kE]; decide)
  obtain ⟨s3, h3, g3⟩ := pol_done h1 h2 g2 (.nil (end_none kE)) (by decide) kE
  exact ⟨s3, _, h3, g3⟩
end Go.Proofs.YtgdeeodifnegiaaGreatDoor

namespace Go.Proofs.YtgdeeodifnegiaaGreatDoor
open Go.RowKit

/-! ## tokens ahead of a row of bytes that is none -/
def pcToksE (E : Nat → List TokP) : Nat → List Pc → List TokP
  | k, [] => E k
  | k, .sp :: l => pcToksE E (k + 1) l
  | k, .tk bs t :: l => { t with at_ := (k : Int) } :: pcToksE E (k + bs.length) l
def pcOkE (R : List UInt8) : List Pc → Prop
  | [] => True
  | .sp :: l => pcOkE R l
  | .tk bs t :: l => LexAt bs t (pcBytes l ++ R) ∧ pcOkE R l
def pcTE (E : List TokP) : List Pc → List TokP
  | [] => E
  | .sp :: l => pcTE E l
  | .tk _ t :: l => t :: pcTE E l
theorem pcsE_go (s : ByteArray) (R : List UInt8) (E : Nat → List TokP) (hE : ∀ k f, s.data.toList.drop k = R → k ≤ s.size → s.size + 1 ≤ f + k → allGo s f k = E k) : ∀ (l : List Pc) (k f : Nat), pcOkE R l → s.data.toList.drop k = pcBytes l ++ R → k ≤ s.size → s.size + 1 ≤ f + k → allGo s f k = pcToksE E k l
  | [], k, f, _, hd, hk, hf => hE k f hd hk hf
  | .sp :: l, k, f, ho, hd, hk, hf => by
    have hd' : s.data.toList.drop k = 32 :: (pcBytes l ++ R) := hd
    have h2 : s.data.toList.length = s.size := by simp
    have hlt : k < s.size := by
      have h1 : (s.data.toList.drop k).length = (pcBytes l ++ R).length + 1 := by rw [hd']; rfl
      rw [List.length_drop] at h1; omega
    obtain ⟨f, rfl⟩ : ∃ g, f = g + 1 := ⟨f - 1, by omega⟩
    have hbt : bt s k = ((32 : UInt8).toNat : Int) := by
      rw [← bt_extract hlt, ext_drop, hd']; exact bt_cons 32 _
    have hr : s.data.toList.drop (k + 1) = pcBytes l ++ R := by
      rw [← List.drop_drop, hd']; rfl
    rw [allGo, if_pos hlt, if_pos (by rw [hbt]; decide)]
    exact pcsE_go s R E hE l (k + 1) f ho hr (by omega) (by omega)
  | .tk bs t :: l, k, f, ho, hd, hk, hf => by
    obtain ⟨ha, ho⟩ := ho
    have hd' : s.data.toList.drop k = bs ++ (pcBytes l ++ R) := by rw [hd]; show (bs ++ pcBytes l) ++ R = _; simp
    have h2 : s.data.toList.length = s.size := by simp
    have hbl : 0 < bs.length := List.length_pos_iff.mpr ha.ne
    have hln : k + bs.length ≤ s.size := by
      have h1 : (s.data.toList.drop k).length = bs.length + (pcBytes l ++ R).length := by rw [hd']; simp
      rw [List.length_drop] at h1; omega
    have hlt : k < s.size := by omega
    obtain ⟨f, rfl⟩ : ∃ g, f = g + 1 := ⟨f - 1, by omega⟩
    have hbt : blankB (bt s k) = false := by
      rw [← bt_extract hlt, ext_drop, hd']
      cases hbs : bs with
      | nil => exact absurd hbs ha.ne
      | cons b r => rw [List.cons_append, bt_cons]; exact ha.solid b (by rw [hbs]; rfl)
    have htk : tkAt s k = { t with at_ := (k : Int) } := by
      unfold tkAt; rw [ext_drop, hd', ha.first]
    have hr : s.data.toList.drop (k + bs.length) = pcBytes l ++ R := by
      rw [← List.drop_drop, hd', List.drop_left]
    have hk0 : (tkAt s k).kind ≠ 0 := by rw [htk]; exact ha.kind
    rw [allGo_step hlt hbt hk0]
    have hsz : (tkAt s k).text.size = bs.length := by rw [htk]; exact ha.size
    rw [hsz, pcsE_go s R E hE l _ f ho hr hln (by omega), htk]; rfl
def badR : List UInt8 := [48, 48, 48, 49, 59, 32, 125]
def badT : TokP := ⟨0, 0, bsA [48, 48, 48, 49], 0, 0, 0⟩
def badE (k : Nat) : List TokP := [{ badT with at_ := (k : Int) }]
theorem bad_first : firstP (bsA badR) = badT := by kernel_rfl
theorem badE_go (s : ByteArray) (k f : Nat) (hd : s.data.toList.drop k = badR) (hk : k ≤ s.size) (hf : s.size + 1 ≤ f + k) : allGo s f k = badE k := by
  have h2 : s.data.toList.length = s.size := by simp
  have hlt : k < s.size := by
    have h1 : (s.data.toList.drop k).length = 7 := by rw [hd]; rfl
    rw [List.length_drop] at h1; omega
  obtain ⟨f, rfl⟩ : ∃ g, f = g + 1 := ⟨f - 1, by omega⟩
  have htk : tkAt s k = { badT with at_ := (k : Int) } := by
    unfold tkAt; rw [ext_drop, hd, bad_first]
  have hbt : blankB (bt s k) = false := by
    rw [← bt_extract hlt, ext_drop, hd]; decide +kernel
  rw [allGo_bad hlt hbt (by rw [htk]; rfl), htk]; rfl
theorem bad_all {l : List Pc} (ho : pcOkE badR l) : allP (bsA (pcBytes l ++ badR)) = pcToksE badE 0 l :=
  pcsE_go _ badR badE (badE_go _) l 0 _ ho (by simp) (Nat.zero_le _) (by omega)
theorem pcsE_map : ∀ (l : List Pc) (k : Nat), (pcToksE badE k l).map (fun t => (t.kind, t.text, t.number, t.addr, t.len)) = (pcTE [badT] l).map (fun t => (t.kind, t.text, t.number, t.addr, t.len))
  | [], _ => rfl
  | .sp :: l, k => pcsE_map l (k + 1)
  | .tk bs t :: l, k => by rw [pcToksE, pcTE, List.map_cons, List.map_cons, pcsE_map l]
theorem TsIs.bad (l : List Pc) : TsIs (pcToksE badE 0 l) (pcTE [badT] l) := fun k => by
  have h := congrArg (·[k]?) (pcsE_map l 0)
  simp only [List.getElem?_map] at h
  unfold tAt
  cases h1 : (pcToksE badE 0 l)[k]? with
  | none =>
    rw [h1] at h
    cases h2 : (pcTE [badT] l)[k]? with
    | none => rfl
    | some y => rw [h2] at h; cases h
  | some x =>
    rw [h1] at h
    cases h2 : (pcTE [badT] l)[k]? with
    | none => rw [h2] at h; cases h
    | some y =>
      rw [h2] at h
      simp only [Option.map_some, Option.some.injEq] at h
      exact h
/-! ## the pieces, ahead of a row of bytes -/
section
variable {R : List UInt8}
theorem okE_w {j : Nat} (hj : j < 21) {l : List Pc} (h : pcOkE R l) (hl : hdLow (pcBytes l ++ R)) : pcOkE R (wPc j :: l) := ⟨lex_word j hj _ hl, h⟩
theorem okE_s {c : UInt8} (hc : signK (c.toNat : Int) ≠ 0) {l : List Pc} (h : pcOkE R l) : pcOkE R (sPc c :: l) := ⟨lex_sign c _ hc, h⟩
theorem okE_n {u : Nat} (hu : u ≤ 4294967295) {l : List Pc} (h : pcOkE R l) (hl : hdNum (pcBytes l ++ R)) : pcOkE R (nPc u :: l) := ⟨lex_dec u hu _ hl, h⟩
theorem okE_p {q : Quad} {x : Nat} (hq : q.ok) (hx : x ≤ 32) (hn : netOk (q.addr, (x : Int))) {l : List Pc} (h : pcOkE R l) (hl : hdNum (pcBytes l ++ R)) : pcOkE R (pPc q x :: l) := ⟨lex_pfx q x hq hx hn _ hl, h⟩
theorem okE_name {l : List Pc} (h : pcOkE R l) (hl : hdLow (pcBytes l ++ R)) : pcOkE R (sName :: l) := ⟨lex_name [115] (by simp) (by decide) (by decide +kernel) (by decide) _ hl, h⟩
theorem okE_nameW {l : List Pc} (h : pcOkE R l) (hl : hdLow (pcBytes l ++ R)) : pcOkE R (wName :: l) := ⟨lex_name [119] (by simp) (by decide) (by decide +kernel) (by decide) _ hl, h⟩
end
def spE (R : List UInt8) (l : List Pc) : Prop := hdLow (pcBytes l ++ R) ∧ hdNum (pcBytes l ++ R)
theorem sp_E (R : List UInt8) (l : List Pc) : spE R (.sp :: l) := hd_sp _
theorem Ct.pc_okE (R : List UInt8) : ∀ (a : Ct) (l : List Pc), a.ok → pcOkE R l → spE R l → pcOkE R (a.pc l)
  | .net, _, _, h, hs => okE_w (by decide) (okE_w (by decide) (okE_name h hs.1) (hd_sp _).1) (hd_sp _).1
  | .way, _, _, h, hs => okE_w (by decide) (okE_w (by decide) (okE_nameW h hs.1) (hd_sp _).1) (hd_sp _).1
  | .mrk n, _, ho, h, hs => okE_w (by decide) (okE_n (Nat.le_trans ho (by decide)) h hs.2) (hd_sp _).1
  | .len n, _, ho, h, hs => okE_w (by decide) (okE_s (by rw [s60]; decide) (okE_n (Nat.le_trans ho (by decide)) h hs.2)) (hd_sp _).1
  | .prf n, _, ho, h, hs => okE_w (by decide) (okE_s (by rw [s61]; decide) (okE_n (Nat.le_trans ho (by decide)) h hs.2)) (hd_sp _).1
  | .med n, _, ho, h, hs => okE_w (by decide) (okE_s (by rw [s43]; decide) (okE_n (by decide) (okE_s (by rw [s60]; decide) (okE_w (by decide) (okE_s (by rw [s43]; decide) (okE_n (Nat.le_trans ho (by decide)) h hs.2)) (hd_sp _).1)) (hd_sp _).2)) (hd_sp _).1
  | .not a, l, ho, h, hs => okE_w (by decide) (a.pc_okE R l ho h hs) (hd_sp _).1
  | .brk a, _, ho, h, _ => okE_s (by rw [s91]; decide) (a.pc_okE R _ ho (okE_s (by rw [s93]; decide) h) (sp_E _ _))
  | .and a b, _, ho, h, _ => okE_s (by rw [s91]; decide) (a.pc_okE R _ ho.1 (okE_w (by decide) (b.pc_okE R _ ho.2 (okE_s (by rw [s93]; decide) h) (sp_E _ _)) (hd_sp _).1) (sp_E _ _))
  | .or a b, _, ho, h, _ => okE_s (by rw [s91]; decide) (a.pc_okE R _ ho.1 (okE_w (by decide) (b.pc_okE R _ ho.2 (okE_s (by rw [s93]; decide) h) (sp_E _ _)) (hd_sp _).1) (sp_E _ _))
theorem dfP_okE {R : List UInt8} {l : List Pc} (h : pcOkE R l) : pcOkE R (dfP ++ l) := by
  have hq : (⟨10, 0, 0, 0⟩ : Quad).ok := ⟨by decide, by decide, by decide, by decide⟩
  have hn : netOk ((⟨10, 0, 0, 0⟩ : Quad).addr, ((8 : Nat) : Int)) := by decide
  refine okE_w (by decide) ?_ (hd_sp _).1
  refine okE_name ?_ (hd_sp _).1
  refine okE_s (by decide +kernel) (okE_s (by decide +kernel) ?_)
  refine okE_p hq (by decide) hn ?_ (hd_sp _).2
  refine okE_n (by decide) ?_ (hd_sp _).2
  refine okE_n (by decide) ?_ (hd_sp _).2
  refine okE_s (by decide +kernel) (okE_s (by decide +kernel) ?_)
  refine okE_w (by decide) ?_ (hd_sp _).1
  refine okE_nameW ?_ (hd_sp _).1
  refine okE_s (by decide +kernel) ?_
  refine okE_n (by decide) ?_ (hd_sp _).2
  exact okE_s (by decide +kernel) (okE_s (by decide +kernel) (okE_s (by decide +kernel) h))
theorem Tc.pc_okE {R : List UInt8} {q : Tc} (ho : q.ok) {l : List Pc} (h : pcOkE R l) (hs : spE R l) : pcOkE R (q.pc l) := by
  cases q with
  | one a => exact a.pc_okE R l ho.1 h hs
  | or a b => exact a.pc_okE R _ ho.1.1 (okE_w (by decide) (b.pc_okE R l ho.2.1 h hs) (hd_sp _).1) (sp_E _ _)
/-! ## the text -/
def rTail : List Pc := [.sp, wPc 10, .sp, sPc 123, .sp, wPc 2, sPc 59, .sp, wPc 8, .sp]
def rL (q : Tc) : List Pc := dfP ++ (wPc 9 :: .sp :: q.pc rTail)
theorem rTail_ok : pcOkE badR rTail := by
  refine okE_w (by decide) ?_ (hd_sp _).1
  refine okE_s (by rw [s123]; decide) ?_
  refine okE_w (by decide) (okE_s (by rw [s59]; decide) ?_) (hd59 _).1
  exact okE_w (by decide) trivial (hd_sp _).1
theorem rL_ok (q : Tc) (ho : q.ok) : pcOkE badR (rL q) :=
  dfP_okE (okE_w (by decide) (Tc.pc_okE ho rTail_ok (sp_E _ _)) (hd_sp _).1)
theorem Ct.pc_TE : ∀ (a : Ct) (E : List TokP) (R : List Pc), pcTE E (a.pc R) = a.tk (pcTE E R)
  | .net, _, _ => rfl
  | .way, _, _ => rfl
  | .mrk _, _, _ => rfl
  | .len _, _, _ => rfl
  | .prf _, _, _ => rfl
  | .med _, _, _ => rfl
  | .not a, E, R => by show wT 15 :: pcTE E (a.pc R) = _; rw [a.pc_TE]; rfl
  | .brk a, E, R => by show sT 91 :: pcTE E (a.pc _) = _; rw [a.pc_TE]; rfl
  | .and a b, E, R => by
    show sT 91 :: pcTE E (a.pc _) = _
    rw [a.pc_TE]
    show sT 91 :: a.tk (wT 14 :: pcTE E (b.pc _)) = _
    rw [b.pc_TE]; rfl
  | .or a b, E, R => by
    show sT 91 :: pcTE E (a.pc _) = _
    rw [a.pc_TE]
    show sT 91 :: a.tk (wT 13 :: pcTE E (b.pc _)) = _
    rw [b.pc_TE]; rfl
/-! ## what is read once a fault of syntax was told -/
def Bad (st : RS) : Prop := ∃ a, st.syn = some a
theorem Bad.kind {ts : List TokP} {st : RS} (h : Bad st) : kindR ts st = 0 := by
  obtain ⟨a, h⟩ := h
  unfold kindR; rw [h]; rfl
theorem Bad.fail {ts : List TokP} {st : RS} (h : Bad st) : Bad (failR ts st) := by
  obtain ⟨a, h⟩ := h
  exact ⟨a, by show tellR st.syn _ = _; rw [h]; rfl⟩
theorem fail_bad (ts : List TokP) (st : RS) : Bad (failR ts st) := by
  show ∃ a, tellR st.syn _ = some a
  cases h : st.syn with
  | none => exact ⟨_, rfl⟩
  | some x => exact ⟨_, rfl⟩
theorem Bad.take {ts : List TokP} {st : RS} (h : Bad st) {k : Int} (hk : k ≠ 0) : takeR ts k st = (failR ts st, tok0) := by
  unfold takeR; rw [h.kind, if_neg (Ne.symm hk)]
theorem Bad.stmt {ts : List TokP} {st : RS} (h : Bad st) (f : Nat) : stmF ts (f + 1) st = some (st, none) := by
  unfold stmF
  rw [stmtTw, h.kind, if_neg (by decide), if_neg (by decide), if_neg (by decide), if_neg (by decide), if_neg (by decide), if_neg (by decide), if_neg (by decide), if_neg (by decide), if_neg (by decide)]
theorem r_policy (q : Tc) (a b : Ct) (hq : q = .or a b) (ho : q.ok) : ∃ st l, policyW (pcToksE badE 0 (rL q)) 100 20 (stmF (pcToksE badE 0 (rL q)) 3) rs0 = some (st, l) ∧ Bad st := by
  have hts := TsIs.bad (rL q)
  have hT0 : pcTE [badT] (q.pc rTail) = a.tk (wT 13 :: b.tk [wT 10, sT 123, wT 2, sT 59, wT 8, badT]) := by
    subst hq
    show pcTE [badT] (a.pc (.sp :: wPc 13 :: .sp :: b.pc rTail)) = _
    rw [a.pc_TE]
    show a.tk (wT 13 :: pcTE [badT] (b.pc rTail)) = _
    rw [b.pc_TE]; rfl
  have hT : pcTE [badT] (rL q) = dfT ++ (wT 9 :: pcTE [badT] (q.pc rTail)) := rfl
  subst hq
  generalize pcToksE badE 0 (rL (.or a b)) = ts at *
  generalize pcTE [badT] (rL (.or a b)) = T at *
  obtain ⟨st, h1, g1, hd, d16⟩ := defs_read hts (t := wT 9) hT rfl rfl
  obtain ⟨e16, d17⟩ := dropT hts d16
  rw [hT0] at d17
  obtain ⟨r1, dk⟩ := a.reads hts find_s find_w 20 0 17 (wT 13) (b.tk [wT 10, sT 123, wT 2, sT 59, wT 8, badT]) ho.1.1 (by have := ho.1.2; omega) (by omega) (by have := ho.1.2; omega) ⟨by decide, by decide⟩ d17
  have k1 : kAt ts (17 + a.n) = 18 := nxtT hts dk
  obtain ⟨_, d2⟩ := dropT hts dk
  obtain ⟨r2, d3⟩ := b.reads hts find_s find_w 20 0 (17 + a.n + 1) (wT 10) [sT 123, wT 2, sT 59, wT 8, badT] ho.2.1 (by have := ho.2.2; omega) (by omega) (by have := ho.2.2; omega) ⟨by decide, by decide⟩ d2
  have k2 : kAt ts (17 + a.n + 1 + b.n) = 15 := nxtT hts d3
  generalize 17 + a.n + 1 + b.n = K at *
  obtain ⟨_, f1⟩ := dropT hts d3
  obtain ⟨b1, f2⟩ := dropT hts f1
  obtain ⟨b2, f3⟩ := dropT hts f2
  obtain ⟨b3, f4⟩ := dropT hts f3
  obtain ⟨b4, f5⟩ := dropT hts f4
  obtain ⟨b5, _⟩ := dropT hts f5
  have hc : ReadsD Ds0 ts (cndF ts) 0 17 K (some (orM (a.M S0 W0) (b.M S0 W0))) := cond_orD r1 k1 r2 (by rw [k2]; decide) (by rw [k2]; decide)
  obtain ⟨s1, c1, g2, _⟩ := hc _ g1.go hd
  have kb1 : kAt ts (K + 1) = 29 := (kAt_of b1).trans s123
  have g3 := ((g2.go).open kb1 (by decide) (by decide)).endLine
  obtain ⟨s4, c4, g4⟩ := (stmt_accept' (ts := ts) (n := 100) (f := 1) (ok := okP) (sum := sumS ts) (cnd := cndF ts) (d := 0 + 1) (k := K + 1 + 1) (kAt_of b2) rfl ((kAt_of b3).trans s59)) _ g3
  have kb4 : kAt ts (K + 1 + 1 + 2) = 13 := kAt_of b4
  have kb5 : kAt ts (K + 1 + 1 + 2 + 1) = 0 := kAt_of b5
  have hw : ∃ s6, withinR ts 1 65535 (goR ts s4) = (s6, 0) ∧ Bad s6 := by
    refine ⟨tellNum (failR ts (goR ts s4)) tok0.at_, ?_, ?_⟩
    · unfold withinR takeR
      rw [g4.go.kind, kb5, if_neg (by decide)]
      dsimp only
      rw [if_pos (by decide)]; rfl
    · exact fail_bad ts (goR ts s4)
  obtain ⟨s6, hw6, bad6⟩ := hw
  have hst : stmF ts 2 s4 = some (failR ts s6, some (some (prependM 0))) := by
    unfold stmF
    rw [stmtTw, g4.kind, kb4, if_neg (by decide), if_neg (by decide), if_neg (by decide), if_neg (by decide), if_neg (by decide), if_neg (by decide), if_neg (by decide), if_neg (by decide), if_pos rfl, hw6]
    dsimp only
    unfold endR
    rw [bad6.take (by decide)]
  have bad7 : Bad (failR ts s6) := bad6.fail
  have c4' : stmF ts 2 (endLineR (openR ts 29 (goR ts s1))) = some (s4, some (some (concludeM 1))) := c4
  have hml : moreLp (stmF ts 2) 100 (endLineR (openR ts 29 (goR ts s1))) [] = some (failR ts s6, [some (concludeM 1), some (prependM 0)]) := by
    rw [show (100 : Nat) = 97 + 1 + 1 + 1 from rfl, moreLp, c4']
    dsimp only
    rw [moreLp, hst]
    dsimp only
    rw [moreLp, bad7.stmt 1]
    rfl
  have hbl : blockBy ts (stmtTw ts 100 okP (sumS ts) (cndF ts) 2) 100 (goR ts s1) = some (endLineR (shutR ts 30 (failR ts s6)), [concludeM 1, prependM 0].map some) := by
    unfold blockBy
    rw [show moreLp (stmtTw ts 100 okP (sumS ts) (cndF ts) 2) 100 (endLineR (openR ts 29 (goR ts s1))) [] = _ from hml]
    rfl
  have bad8 : Bad (endLineR (shutR ts 30 (failR ts s6))) := by
    show Bad (shutR ts 30 (failR ts s6))
    unfold shutR
    rw [bad7.take (by decide)]
    obtain ⟨x, hx⟩ := bad7.fail (ts := ts)
    exact ⟨x, hx⟩
  have hif : stmF ts 3 st = some (endLineR (shutR ts 30 (failR ts s6)), some (some (chooseM (orM (a.M S0 W0) (b.M S0 W0)) [concludeM 1, prependM 0] []))) := by
    unfold stmF
    rw [stmtTw, g1.kind, show kAt ts 16 = 14 from kAt_of e16, if_neg (by decide), if_pos rfl, c1]
    dsimp only
    rw [g2.take k2]
    dsimp only
    rw [hbl]
    dsimp only
    rw [bad8.kind, if_neg (by decide), chooseO, allO_map]; rfl
  refine ⟨failR ts (endLineR (shutR ts 30 (failR ts s6))), [some (chooseM (orM (a.M S0 W0) (b.M S0 W0)) [concludeM 1, prependM 0] [])], ?_, bad8.fail⟩
  unfold policyW
  rw [h1]
  dsimp only
  unfold policyTw
  rw [show (100 : Nat) = 98 + 1 + 1 from rfl, moreLp, hif]
  dsimp only
  rw [moreLp, bad8.stmt 2]
  dsimp only
  have hlen : ¬ ([] ++ [some (chooseM (orM (a.M S0 W0) (b.M S0 W0)) [concludeM 1, prependM 0] [])] : List (Option StpM)).length = 0 := by simp
  rw [if_neg hlen, bad8.kind, if_neg (by decide)]
  rfl
end Go.Proofs.YtgdeeodifnegiaaGreatDoor
