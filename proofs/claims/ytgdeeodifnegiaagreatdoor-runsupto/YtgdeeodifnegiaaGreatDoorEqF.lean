/- The two readers side by side: sets, definitions, a whole policy; no program. -/
import Derived.Test.YtgdeeodifnegiaaGreatDoorEqD
import Derived.Test.YtgdeeodifnegiaaGreatDoorEqE
import Derived.Test.YtgdeeodifnegiaaGreatDoorEqL
namespace Go.Proofs.YtgdeeodifnegiaaGreatDoor
open Go.RowKit

/-! ## sets -/
/-- a net's numbers -/
def NetN (a l : Int) : Prop := 0 ≤ a ∧ a ≤ 4294967295 ∧ 0 ≤ l ∧ l ≤ 32
theorem prefGo_net (s : ByteArray) : ∀ (f i p q : Nat) (a l : Int), (prefGo s f i p q a l).2.2 = true → NetN (prefGo s f i p q a l).1 (prefGo s f i p q a l).2.1
  | 0, i, p, q, a, l, h => by
    have h' : netB a l = true := h
    unfold netB at h'
    simp only [decide_eq_true_eq] at h'
    exact ⟨h'.1, h'.2.1, h'.2.2.1, h'.2.2.2.1⟩
  | f + 1, i, p, q, a, l, h => by
    rw [prefGo] at h ⊢
    by_cases c1 : i < s.size ∧ (digB (bt s i) = true ∨ p = 4)
    · rw [if_pos c1] at h ⊢
      exact prefGo_net s f _ _ _ _ _ h
    · rw [if_neg c1] at h ⊢
      by_cases c2 : (i < s.size ∧ bt s i ≠ (if p = 3 then 47 else 46)) ∨ (s.size ≤ i ∧ p ≠ 4)
      · rw [if_pos c2] at h; cases h
      · rw [if_neg c2] at h ⊢
        by_cases c3 : numP (s.extract q i) (if p = 4 then 32 else 255) < 0
        · rw [if_pos c3] at h; cases h
        · rw [if_neg c3] at h ⊢
          by_cases c4 : p = 4
          · rw [if_pos c4] at h ⊢
            exact prefGo_net s f _ _ _ _ _ h
          · rw [if_neg c4] at h ⊢
            exact prefGo_net s f _ _ _ _ _ h
theorem prefR_net {s : ByteArray} (h : (prefR s).2.2 = true) : NetN (prefR s).1 (prefR s).2.1 := prefGo_net s _ _ _ _ _ _ h
def rgNum (x : rf.Rg) : Int := match rf.rgBad x with | some a => a | none => -1
def rgSet (x : rf.Rg) : SetM := spanM x.addr x.len x.lo x.hi
def rgsNum (l : List rf.Rg) : Int := match rf.rgsBad l with | some a => a | none => -1
section
variable {s : ByteArray} {ts : List TokP}
structure RngQR (s : ByteArray) (ts : List TokP) (r : RS) (q : rf.PS × rf.Rg) (z : RS × SetM) : Prop where
  al : Al s ts q.1 z.1
  gap : z.1.gap = gapS
  defs : z.1.defs = r.defs
  nam : z.1.nam = r.nam
  num : z.1.num = orT r.num (rgNum q.2)
  at_ : ∀ a, rf.rgBad q.2 = some a → 0 ≤ a
  set : z.2 = rgSet q.2
  net : NetN q.2.addr q.2.len
theorem sim_range (L : Lx s ts) (hL : LenOk ts) {p : rf.PS} {r : RS} (h : Al s ts p r) : De (rf.rangeP s p).1 (oneRangeR ts r).1 ∨ RngQR s ts r (rf.rangeP s p) (oneRangeR ts r) := by
  unfold rf.rangeP oneRangeR
  rcases h.kind L (q := 47) (k := 3) (by simp) with ⟨k1, k2, k3⟩ | hde
  · have hlen : 0 ≤ (tokR ts r).len ∧ (tokR ts r).len ≤ 32 := by
      rw [h.tk]; exact hL _ (List.getElem_mem h.lt)
    obtain ⟨pa, pl, pn⟩ := h.pfx L k1
    have hnet := prefR_net pn
    rw [k3]
    dsimp only
    by_cases e2 : kindR ts (goR ts r) = 2
    · rw [if_pos ⟨k2.bad, (k2.kinds L).1.2 e2⟩, if_pos e2]
      dsimp only
      rcases k2.within L (tokR ts r).len 32 with hde | ⟨u1, u2, u3, u4, u5, u6, u7⟩
      · left
        obtain ⟨y, y0, y1, y2⟩ := hde
        exact ⟨y, y0, by rw [bad_kind (by omega)]; exact y1, (syn_cl ts y).within y2 _ _⟩
      · rcases u1.within L (withinR ts (tokR ts r).len 32 (goR ts r)).2 32 with hde | ⟨t1, t2, t3, t4, t5, t6, t7⟩
        · exact Or.inl hde
        · right
          refine ⟨t1, t2, t3.trans u3, t4.trans u4, ?_, ?_, ?_, hnet⟩
          · dsimp only
            rw [t5, u5, u6, show (goR ts r).num = r.num from rfl]
            unfold rgNum rf.rgBad
            dsimp only
            rw [pl]
            by_cases c1 : numP (rf.kindP s p 47).next.text 4294967295 < (tokR ts r).len ∨ 32 < numP (rf.kindP s p 47).next.text 4294967295
            · rw [if_pos c1, if_pos c1, orT_two, if_pos (Int.natCast_nonneg _)]
            · rw [if_neg c1, if_neg c1, orT_neg (x := -1) (by decide)]
              by_cases c2 : numP (rf.kindP s (rf.kindP s p 47) 48).next.text 4294967295 < numP (rf.kindP s p 47).next.text 4294967295 ∨ 32 < numP (rf.kindP s (rf.kindP s p 47) 48).next.text 4294967295
              · rw [if_pos c2, if_pos c2]
              · rw [if_neg c2, if_neg c2]
          · intro a ha
            unfold rf.rgBad at ha
            dsimp only at ha
            split at ha
            · cases ha; exact Int.natCast_nonneg _
            · split at ha
              · cases ha; exact Int.natCast_nonneg _
              · cases ha
          · unfold rgSet
            dsimp only
            rw [pa, pl, t6, u6]
    · rw [if_neg (fun e => e2 ((k2.kinds L).1.1 e.2)), if_neg e2]
      right
      have hb : rf.rgBad ⟨(prefR p.next.text).1, (prefR p.next.text).2.1, (prefR p.next.text).2.1, (prefR p.next.text).2.1, -1, -1⟩ = none := by
        unfold rf.rgBad
        dsimp only
        rw [pl, if_neg (by omega), if_neg (by omega)]
      refine ⟨k2, go_gap (by omega) h, rfl, rfl, ?_, fun a ha => ?_, ?_, hnet⟩
      · dsimp only
        unfold rgNum
        rw [hb, orT_neg (by decide)]; rfl
      · dsimp only at ha
        rw [hb] at ha; cases ha
      · unfold rgSet
        dsimp only
        rw [pa, pl]
  · left
    obtain ⟨y, y0, y1, y2⟩ := hde
    rw [if_neg (by omega), if_neg (by rw [show kindR ts (takeR ts 3 r).1 = 0 by unfold kindR; rw [y2]; rfl]; decide)]
    exact ⟨y, y0, y1, y2⟩
theorem rgsBad_snoc : ∀ (l : List rf.Rg) (x : rf.Rg), rf.rgsBad (l ++ [x]) = match rf.rgsBad l with | some a => some a | none => rf.rgBad x
  | [], x => by
    show (match rf.rgBad x with | some a => some a | none => none) = rf.rgBad x
    cases rf.rgBad x <;> rfl
  | y :: l, x => by
    show (match rf.rgBad y with | some a => some a | none => rf.rgsBad (l ++ [x])) = match (match rf.rgBad y with | some a => some a | none => rf.rgsBad l) with | some a => some a | none => rf.rgBad x
    cases rf.rgBad y with
    | some a => rfl
    | none => exact rgsBad_snoc l x
structure RgsQR (s : ByteArray) (ts : List TokP) (r0 : RS) (p : rf.PS) (l : List rf.Rg) (r : RS) (S : List SetM) : Prop where
  al : Al s ts p r
  gap : r.gap = gapS
  defs : r.defs = r0.defs
  nam : r.nam = r0.nam
  num : r.num = orT r0.num (rgsNum l)
  at_ : ∀ a, rf.rgsBad l = some a → 0 ≤ a
  set : S = l.map rgSet
  nets : ∀ x ∈ l, NetN x.addr x.len
theorem RgsQR.snoc {r0 r r1 : RS} {p1 : rf.PS} {l : List rf.Rg} {S : List SetM} {x : rf.Rg} {m : SetM} (hu : r.num = orT r0.num (rgsNum l)) (ha : ∀ a, rf.rgsBad l = some a → 0 ≤ a) (hS : S = l.map rgSet) (hN : ∀ x ∈ l, NetN x.addr x.len) (hd : r.defs = r0.defs) (hn : r.nam = r0.nam) (h : RngQR s ts r (p1, x) (r1, m)) :
    RgsQR s ts r0 p1 (l ++ [x]) r1 (S ++ [m]) := by
  have e := rgsBad_snoc l x
  refine ⟨h.al, h.gap, h.defs.trans hd, h.nam.trans hn, ?_, fun a he => ?_, by have hm := h.set; dsimp only at hm; rw [hS, hm]; simp, fun y hy => ?_⟩
  · have := h.num
    dsimp only at this
    rw [this, hu]
    unfold rgsNum
    rw [e]
    cases hb : rf.rgsBad l with
    | some a =>
      have := ha a hb
      dsimp only
      rw [orT_two, if_pos this]
    | none =>
      dsimp only
      rw [orT_neg (x := -1) (by decide)]
      unfold rgNum; rfl
  · rw [e] at he
    cases hb : rf.rgsBad l with
    | some b => rw [hb] at he; exact ha a (hb.trans he)
    | none => rw [hb] at he; exact h.at_ a he
  · rcases List.mem_append.1 hy with hy | hy
    · exact hN y hy
    · rw [List.mem_singleton.1 hy]; exact h.net
theorem bad_range {p : rf.PS} (h : 0 ≤ p.bad) : (rf.rangeP s p).1 = p := by
  unfold rf.rangeP
  simp only [bad_kind h]
  rw [if_neg (by omega)]
theorem bad_rgs (s : ByteArray) : ∀ f m l, KeepsB (fun p => rf.rangesLp s f m p l)
  | 0, _, _ => fun _ _ _ h => by simp [rf.rangesLp] at h
  | f + 1, m, l => fun p q hb h => by
    dsimp only at h
    rw [rf.rangesLp, if_neg (by omega)] at h
    cases h
    dsimp only
    rw [bad_need hb]
def RgsQ (s : ByteArray) (ts : List TokP) (r0 : RS) (q : rf.PS × List rf.Rg) (z : RS × List SetM) : Prop := De q.1 z.1 ∨ RgsQR s ts r0 q.1 q.2 z.1 z.2
theorem sim_rgs (L : Lx s ts) (hL : LenOk ts) : ∀ (f : Nat) {p : rf.PS} {r r0 : RS} {l : List rf.Rg} {S : List SetM} {k : Nat} {q : rf.PS × List rf.Rg} {z : RS × List SetM}, Al s ts p r → r.num = orT r0.num (rgsNum l) → (∀ a, rf.rgsBad l = some a → 0 ≤ a) → S = l.map rgSet → (∀ x ∈ l, NetN x.addr x.len) → r.defs = r0.defs → r.nam = r0.nam →
    rf.rangesLp s f true p l = some q → rangesLp ts k (oneRangeR ts r).1 (S ++ [(oneRangeR ts r).2]) = some z → RgsQ s ts r0 q ((takeR ts 30 z.1).1, z.2)
  | 0, _, _, _, _, _, _, _, _, _, _, _, _, _, _, _, h, _ => by simp [rf.rangesLp] at h
  | f + 1, p, r, r0, l, S, k, q, z, h, hu, ha, hS, hN, hd, hn, h1, h2 => by
    obtain ⟨_, _, _, _, _, _, _, _, _, _, _, _, _, _, _, v16, v17, v18, _⟩ := words_more
    rw [rf.rangesLp, if_pos ⟨rfl, h.bad⟩] at h1
    cases k with
    | zero => cases h2
    | succ k =>
    rcases sim_range L hL h with hde | hs
    · left
      obtain ⟨y, y0, y1, y2⟩ := hde
      rw [bad_is (by omega), if_neg (by decide)] at h1
      rw [rangesLp, if_neg (by rw [show kindR ts (oneRangeR ts r).1 = 0 by unfold kindR; rw [y2]; rfl]; decide)] at h2
      cases h2
      exact ⟨y, y0, (bad_rgs s f false _ _ _ (by omega) h1).trans y1, (syn_cl ts y).take y2 (by decide)⟩
    · have hsn := RgsQR.snoc (p1 := (rf.rangeP s p).1) (x := (rf.rangeP s p).2) (r1 := (oneRangeR ts r).1) (m := (oneRangeR ts r).2) (S := S) hu ha hS hN hd hn hs
      have hal := hs.al
      rw [hal.isS L rf.xComma 2 28 (by decide) v18 rfl] at h1
      rw [rangesLp] at h2
      by_cases e28 : kindR ts (oneRangeR ts r).1 = 28
      · rw [decide_eq_true e28, if_pos rfl] at h1
        rw [if_pos e28] at h2
        exact sim_rgs L hL f (hal.go L (by omega) (fun _ => hs.gap)) hsn.num hsn.at_ hsn.set hsn.nets hsn.defs hsn.nam h1 h2
      · rw [decide_eq_false e28, if_neg (by decide)] at h1
        rw [if_neg e28] at h2
        cases h2
        cases f with
        | zero => simp [rf.rangesLp] at h1
        | succ f =>
        rw [rf.rangesLp, if_neg (by simp)] at h1
        cases h1
        rw [v17]
        rcases hal.needS L (j := 4) (by decide) (by omega) with ⟨k1, k2, k3⟩ | hde
        · right
          dsimp only
          rw [show takeR ts 30 (oneRangeR ts r).1 = (goR ts (oneRangeR ts r).1, tokR ts (oneRangeR ts r).1) from k3]
          exact ⟨k2, go_gap (by rw [k1]; decide) hal, hsn.defs, hsn.nam, hsn.num, hsn.at_, hsn.set, hsn.nets⟩
        · exact Or.inl hde
/-! ## definitions -/
inductive DefT : rf.Df → DefP → Prop
  | set {nm : Tok} {l : List rf.Rg} {t : rf.Tr} : (∀ x ∈ l, NetN x.addr x.len) → DefT ⟨nm, false, l, t⟩ ⟨nm.text, some (unionM (l.map rgSet)), none⟩
  | way {nm : Tok} {l : List rf.Rg} {t : rf.Tr} {W : WayM} : WayT t W → DefT ⟨nm, true, l, t⟩ ⟨nm.text, none, some W⟩
inductive DefsT : List rf.Df → List DefP → Prop
  | nil : DefsT [] []
  | cons {d : rf.Df} {D : DefP} {ds : List rf.Df} {Ds : List DefP} : DefT d D → DefsT ds Ds → DefsT (d :: ds) (D :: Ds)
theorem DefsT.snoc : ∀ {ds : List rf.Df} {Ds : List DefP} {d : rf.Df} {D : DefP}, DefsT ds Ds → DefT d D → DefsT (ds ++ [d]) (Ds ++ [D])
  | [], [], _, _, _, h => .cons h .nil
  | _ :: _, _ :: _, _, _, .cons a b, h => .cons a (b.snoc h)
theorem DefT.name {d : rf.Df} {D : DefP} (h : DefT d D) : D.name = d.name.text := by cases h <;> rfl
theorem DefsT.seen : ∀ {ds : List rf.Df} {Ds : List DefP} (x : ByteArray), DefsT ds Ds → Ds.any (fun d => d.name.toList == x.toList) = rf.seenB ds x
  | [], [], _, _ => rfl
  | _ :: _, _ :: _, x, .cons a b => by
    unfold rf.seenB
    rw [List.any_cons, List.any_cons, a.name, b.seen x]; rfl
theorem DefsT.ok {ds : List rf.Df} {Ds : List DefP} (h : DefsT ds Ds) : DsOk ds Ds := by
  have key : ∀ t i, (rf.findI t false ds i < 0 ↔ findSet Ds t = none) ∧ (rf.findI t true ds i < 0 ↔ findWay Ds t = none) := by
    induction h with
    | nil => intro t i; simp [rf.findI, findSet, findWay]
    | cons a b ih =>
      intro t i
      have hi := ih t (i + 1)
      cases a with
      | set hn =>
        rename_i nm l t'
        rw [rf.findI, rf.findI, findSet, findWay]
        cases hc : (nm.text.toList == t.toList) with
        | true => simp [hi.2]
        | false => simp [hi.1, hi.2]
      | way hw =>
        rename_i nm l t' W
        rw [rf.findI, rf.findI, findSet, findWay]
        cases hc : (nm.text.toList == t.toList) with
        | true => simp [hi.1]
        | false => simp [hi.1, hi.2]
  exact fun t => key t 0
/-- the first name that is there twice; the first number at fault -/
def dupO : List rf.Df → List rf.Df → Int
  | _, [] => -1
  | seen, d :: ds => if rf.seenB seen d.name.text = true then (d.name.at_ : Int) else dupO (seen ++ [d]) ds
theorem dupO_snoc (d : rf.Df) : ∀ (ds seen : List rf.Df) (o : Option Int), orT o (dupO seen (ds ++ [d])) = orT (orT o (dupO seen ds)) (if rf.seenB (seen ++ ds) d.name.text = true then (d.name.at_ : Int) else -1)
  | [], seen, o => by
    rw [List.nil_append, dupO, dupO, dupO, orT_neg (x := -1) (by decide), List.append_nil]
  | x :: ds, seen, o => by
    rw [List.cons_append, dupO, dupO]
    by_cases h : rf.seenB seen x.name.text = true
    · rw [if_pos h, if_pos h, orT_two, if_pos (Int.natCast_nonneg _)]
    · rw [if_neg h, if_neg h, dupO_snoc d ds (seen ++ [x]) o]; simp
theorem dups_eq (all : List rf.Df) (body : rf.Tr) : ∀ (f i : Nat) (ds : List rf.Df), all.drop i = ds → ds.length ≤ f → rf.dups all body f i = if 0 ≤ dupO (all.take i) ds then dupO (all.take i) ds else rf.strayT all body
  | 0, i, ds, h1, h2 => by
    have : ds = [] := List.length_eq_zero_iff.1 (by omega)
    subst this
    rw [rf.dups, dupO, if_neg (by decide)]
  | f + 1, i, ds, h1, h2 => by
    rw [rf.dups]
    by_cases hi : i < all.length
    · rw [dif_pos hi]
      have hd : all.drop i = all[i] :: all.drop (i + 1) := (List.drop_eq_getElem_cons hi)
      rw [← h1, hd, dupO]
      by_cases hs : rf.seenB (all.take i) all[i].name.text = true
      · rw [if_pos hs, if_pos hs, if_pos (Int.natCast_nonneg _)]
      · rw [if_neg hs, if_neg hs, dups_eq all body f (i + 1) _ rfl (by rw [← h1, hd] at h2; simp at h2; simp; omega), List.take_succ_eq_append_getElem hi]
    · rw [dif_neg hi]
      have : ds = [] := by rw [← h1]; exact List.drop_eq_nil_iff.2 (by omega)
      subst this
      rw [dupO, if_neg (by decide)]
theorem names_eq (ds : List rf.Df) (body : rf.Tr) : rf.namesP ds body = if 0 ≤ dupO [] ds then dupO [] ds else rf.strayT ds body := dups_eq ds body ds.length 0 ds rfl (Nat.le_refl _)
def dfNum (d : rf.Df) : Int := match rf.dfBad d with | some a => a | none => -1
def dfsNum : List rf.Df → Int
  | [] => -1
  | d :: ds => if 0 ≤ dfNum d then dfNum d else dfsNum ds
theorem dfsNum_snoc (d : rf.Df) : ∀ (ds : List rf.Df) (o : Option Int), orT o (dfsNum (ds ++ [d])) = orT (orT o (dfsNum ds)) (dfNum d)
  | [], o => by
    rw [List.nil_append, show dfsNum [d] = if 0 ≤ dfNum d then dfNum d else -1 from rfl, show dfsNum [] = -1 from rfl, orT_neg (x := -1) (by decide), orT_max]
  | x :: ds, o => by
    rw [List.cons_append, dfsNum, dfsNum]
    by_cases h : 0 ≤ dfNum x
    · rw [if_pos h, if_pos h, orT_two, if_pos h]
    · rw [if_neg h, if_neg h, dfsNum_snoc d ds o]
/-- the places of faults are places -/
def DfOk (d : rf.Df) : Prop := ∀ a, rf.dfBad d = some a → 0 ≤ a
theorem numbers_eq (body : rf.Tr) : ∀ (ds : List rf.Df), (∀ d ∈ ds, DfOk d) → rf.dfsBad body ds = if 0 ≤ dfsNum ds then dfsNum ds else rf.badNum body
  | [], _ => by rw [rf.dfsBad, dfsNum, if_neg (by decide)]
  | d :: ds, h => by
    rw [rf.dfsBad, dfsNum]
    cases hb : rf.dfBad d with
    | some a =>
      have := h d List.mem_cons_self a hb
      have e : dfNum d = a := by unfold dfNum; rw [hb]
      dsimp only
      rw [e, if_pos this, if_pos this]
    | none =>
      have e : dfNum d = -1 := by unfold dfNum; rw [hb]
      dsimp only
      rw [e]
      simp only [show ¬ (0 : Int) ≤ -1 by decide, if_false]
      exact numbers_eq body ds (fun d hd => h d (List.mem_cons_of_mem _ hd))
structure DefQR (s : ByteArray) (ts : List TokP) (ds : List rf.Df) (r : RS) (q : rf.PS × rf.Df) (r' : RS) : Prop where
  al : Al s ts q.1 r'
  defs : ∃ D, r'.defs = r.defs ++ [D] ∧ DefT q.2 D
  nam : r'.nam = orT r.nam (if rf.seenB ds q.2.name.text = true then (q.2.name.at_ : Int) else -1)
  num : r'.num = orT r.num (dfNum q.2)
  ok : DfOk q.2
theorem wayNum_ok (d : rf.Df) (hd : d.isWay = true) : DfOk d ∧ dfNum d = if 0 ≤ rf.wayNum d.way then rf.wayNum d.way else -1 := by
  unfold DfOk dfNum rf.dfBad
  rw [if_pos hd]
  by_cases h : 0 ≤ rf.wayNum d.way
  · rw [if_pos h, if_pos h]; exact ⟨fun a ha => by cases ha; exact h, rfl⟩
  · rw [if_neg h, if_neg h]; exact ⟨fun a ha => (by cases ha), rfl⟩
/-- the name of a definition -/
theorem Al.newName (L : Lx s ts) {p : rf.PS} {r : RS} (h : Al s ts p r) {ds : List rf.Df} (hd : DefsT ds r.defs) :
    De (rf.kindP s p 110) (newNameR ts r).1 ∨ (Al s ts (rf.kindP s p 110) (newNameR ts r).1 ∧ (newNameR ts r).1.gap = gapS ∧ (newNameR ts r).1.defs = r.defs ∧ (newNameR ts r).1.num = r.num ∧
      (newNameR ts r).1.nam = orT r.nam (if rf.seenB ds p.next.text = true then (p.next.at_ : Int) else -1) ∧ (newNameR ts r).2 = p.next.text) := by
  rcases h.kind L (q := 110) (k := 4) (by simp) with ⟨k1, k2, k3⟩ | hde
  · right
    have tx := h.text L (by omega)
    have hat := h.at_ L
    have hg : (goR ts r).gap = gapS := go_gap (by omega) h
    have hs := hd.seen p.next.text
    have hdf : (goR ts r).defs = r.defs := rfl
    unfold newNameR isDefR
    dsimp only
    rw [k3]
    dsimp only
    rw [tx, hdf, hs]
    by_cases hb : rf.seenB ds p.next.text = true
    · rw [if_pos hb, if_pos hb]
      refine ⟨k2.same rfl rfl rfl rfl rfl, hg, rfl, rfl, ?_, rfl⟩
      show tellR r.nam _ = _
      rw [hat, tell_orT _ (Int.natCast_nonneg _)]
    · rw [if_neg hb, if_neg hb, orT_neg (by decide)]
      exact ⟨k2, hg, rfl, rfl, rfl, rfl⟩
  · left
    obtain ⟨a, a0, a1, a2⟩ := hde
    refine ⟨a, a0, a1, ?_⟩
    unfold newNameR
    dsimp only
    split
    · exact a2
    · exact a2
theorem bad_def (s : ByteArray) (f : Nat) : KeepsB (rf.defTw s f) := fun p q hb h => by
  unfold rf.defTw at h
  rw [bad_is hb, if_neg (by decide), bad_take hb, bad_kind hb, bad_need hb] at h
  unfold rf.rangesTw at h
  rw [bad_need hb] at h
  split at h
  · cases h
  · rename_i p4 l e
    cases h
    have := bad_rgs s f true [] _ _ hb e
    dsimp only at this ⊢
    rw [bad_need (by omega)]; exact this
theorem sim_def (L : Lx s ts) (hL : LenOk ts) (n g f : Nat) {p : rf.PS} {r : RS} {ds : List rf.Df} {q : rf.PS × rf.Df} {z : RS × Bool} (h : Al s ts p r) (hds : DefsT ds r.defs) (hk : kindR ts r = 5 ∨ kindR ts r = 6) (h1 : rf.defTw s f p = some q) (h2 : defW ts n g r = some z) :
    z.2 = true ∧ (De q.1 z.1 ∨ DefQR s ts ds r q z.1) := by
  obtain ⟨_, _, _, _, _, _, _, _, _, _, _, _, _, _, _, w16, _⟩ := words_are
  obtain ⟨_, _, v3, _, _, _, _, _, _, _, _, _, _, _, _, v16, v17, v18, v19, v20⟩ := words_more
  have hgo := h.go L (by omega) (by omega)
  have hgd : (goR ts r).defs = r.defs := rfl
  unfold rf.defTw at h1
  rw [h.isW L rf.wWay 1 6 (by decide) v19 rfl] at h1
  unfold defW at h2
  -- the name, and the sign behind it
  have hname : De (rf.needP s (rf.kindP s (rf.takeP s p) 110) rf.wEq) (takeR ts 26 (newNameR ts (goR ts r)).1).1 ∨ (Al s ts (rf.needP s (rf.kindP s (rf.takeP s p) 110) rf.wEq) (takeR ts 26 (newNameR ts (goR ts r)).1).1 ∧ (takeR ts 26 (newNameR ts (goR ts r)).1).1.defs = r.defs ∧ (takeR ts 26 (newNameR ts (goR ts r)).1).1.num = r.num ∧
      (takeR ts 26 (newNameR ts (goR ts r)).1).1.nam = orT r.nam (if rf.seenB ds (rf.takeP s p).next.text = true then ((rf.takeP s p).next.at_ : Int) else -1) ∧ (newNameR ts (goR ts r)).2 = (rf.takeP s p).next.text) := by
    rcases hgo.newName L (ds := ds) hds with hde | ⟨a1, a2, a3, a4, a5, a6⟩
    · exact Or.inl (hde.need (s := s) (ts := ts) rf.wEq (k := 26) (by decide))
    · rw [w16]
      rcases a1.needS L (j := 0) (by decide) (by omega) with ⟨k1, k2, k3⟩ | hde
      · right
        rw [show takeR ts 26 (newNameR ts (goR ts r)).1 = (goR ts (newNameR ts (goR ts r)).1, tokR ts (newNameR ts (goR ts r)).1) from k3]
        exact ⟨k2, a3, a4, a5, a6⟩
      · exact Or.inl hde
  by_cases e6 : kindR ts r = 6
  · rw [decide_eq_true e6, if_pos rfl] at h1
    rw [if_pos e6] at h2
    split at h1
    · cases h1
    · rename_i p4 t e1
      split at h2
      · cases h2
      · rename_i r4 W e2
        cases h1; cases h2
        refine ⟨rfl, ?_⟩
        rcases hname with hde | ⟨a1, a3, a4, a5, a6⟩
        · left
          obtain ⟨y, y0, y1, y2⟩ := hde
          have hy : De p4 r4 := ⟨y, y0, ((bad_ways s f).1 _ _ (by omega) e1).trans y1, (syn_cl ts y).eithTw n g _ _ y2 e2⟩
          exact hy.semi (s := s) (ts := ts)
        · rcases (sim_ways L n f).1 _ _ g _ _ a1 e1 e2 with hde | hs
          · exact Or.inl (hde.semi (s := s) (ts := ts))
          · have hal := hs.al
            dsimp only at hal
            rcases hal.semi L hs.gap with hde | ⟨b1, b2, b3, b4⟩
            · exact Or.inl hde
            · right
              have hw := wayNum_ok ⟨(rf.takeP s p).next, true, [], t⟩ rfl
              refine ⟨b1.same rfl rfl rfl rfl rfl, ⟨⟨(newNameR ts (goR ts r)).2, none, some W⟩, ?_, ?_⟩, ?_, ?_, hw.1⟩
              · show (endR ts r4).defs ++ _ = _
                rw [b2, hs.defs, a3]
              · rw [a6]; exact .way hs.way
              · show (endR ts r4).nam = _
                rw [b3, hs.nam]; exact a5
              · show (endR ts r4).num = _
                rw [b4, hs.num, a4, hw.2, orT_max]
  · have e5 : kindR ts r = 5 := by omega
    rw [decide_eq_false e6, if_neg (by decide)] at h1
    rw [if_neg e6] at h2
    unfold defR at h2
    rw [if_pos e5] at h2
    split at h1
    · cases h1
    · rename_i p4 l e1
      split at h2
      · cases h2
      · rename_i r4 S e2
        cases h1; cases h2
        refine ⟨rfl, ?_⟩
        unfold rf.rangesTw at e1
        unfold rangesR at e2
        split at e2
        · cases e2
        · rename_i r5 S5 e3
          cases e2
          have hdead : De (rf.needP s (rf.needP s (rf.kindP s (rf.takeP s p) 110) rf.wEq) rf.xBrace) (takeR ts 29 (takeR ts 26 (newNameR ts (goR ts r)).1).1).1 → De p4 (takeR ts 30 r5).1 := fun hde => by
            obtain ⟨y, y0, y1, y2⟩ := hde
            have C := syn_cl ts y
            exact ⟨y, y0, (bad_rgs s f true [] _ _ (by omega) e1).trans y1, C.take (C.rangesLp n _ _ _ (C.oneRange y2) e3) (by decide)⟩
          have hend : De p4 (takeR ts 30 r5).1 → De (rf.needP s p4 rf.wSemi) (addDefR (takeR ts 27 (takeR ts 30 r5).1).1 ⟨(newNameR ts (goR ts r)).2, some (unionM S5), none⟩) := fun hde => hde.semi (s := s) (ts := ts)
          rcases hname with hde | ⟨a1, a3, a4, a5, a6⟩
          · exact Or.inl (hend (hdead (hde.need (s := s) (ts := ts) rf.xBrace (k := 29) (by decide))))
          · rw [v16] at e1 hdead
            rcases a1.needS L (j := 3) (by decide) (by omega) with ⟨k1, k2, k3⟩ | hde
            · rw [show takeR ts 29 (takeR ts 26 (newNameR ts (goR ts r)).1).1 = (goR ts (takeR ts 26 (newNameR ts (goR ts r)).1).1, tokR ts (takeR ts 26 (newNameR ts (goR ts r)).1).1) from k3] at e3
              rcases sim_rgs L hL f (r0 := goR ts (takeR ts 26 (newNameR ts (goR ts r)).1).1) (l := []) (S := []) k2 (by rw [show rgsNum [] = -1 from rfl, orT_neg (by decide)]) (fun a ha => by cases ha) rfl (fun _ hx => (by cases hx)) rfl rfl e1 (z := (r5, S5)) e3 with hde | hs
              · exact Or.inl (hend hde)
              · have hal := hs.al
                dsimp only at hal
                rcases hal.semi L hs.gap with hde | ⟨b1, b2, b3, b4⟩
                · exact Or.inl hde
                · right
                  have hset := hs.set
                  dsimp only at hset
                  have hn : dfNum ⟨(rf.takeP s p).next, false, l, rf.trZ⟩ = rgsNum l := rfl
                  refine ⟨b1.same rfl rfl rfl rfl rfl, ⟨⟨(newNameR ts (goR ts r)).2, some (unionM S5), none⟩, ?_, ?_⟩, ?_, ?_, fun a ha => hs.at_ a ha⟩
                  · show (endR ts (takeR ts 30 r5).1).defs ++ _ = _
                    rw [b2, hs.defs]
                    show (takeR ts 26 (newNameR ts (goR ts r)).1).1.defs ++ _ = _
                    rw [a3]
                  · rw [a6, hset]; exact .set hs.nets
                  · show (endR ts (takeR ts 30 r5).1).nam = _
                    rw [b3, hs.nam]; exact a5
                  · show (endR ts (takeR ts 30 r5).1).num = _
                    rw [b4, hs.num, hn]
                    show orT (takeR ts 26 (newNameR ts (goR ts r)).1).1.num _ = _
                    rw [a4]
            · exact Or.inl (hend (hdead hde))
end
end Go.Proofs.YtgdeeodifnegiaaGreatDoor
