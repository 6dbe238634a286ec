/- The program's reader: a policy with definitions (package policy). -/
import Derived.Test.YtlhhdklendeikaaGreatDoorDefB
import Derived.Test.YtlhhdklendeikaaGreatDoorRdrP
namespace Go.Proofs.YtlhhdklendeikaaGreatDoor
open Go.RowKit

/-! ## what is defined is not touched elsewhere -/
theorem takeR_defs (ts : List TokP) (k : Int) (st : RS) : (takeR ts k st).1.defs = st.defs := by
  unfold takeR; split <;> rfl
theorem withinR_defs (ts : List TokP) (a b : Int) (st : RS) : (withinR ts a b st).1.defs = st.defs := by
  unfold withinR; dsimp only; split
  · exact takeR_defs ts 2 st
  · exact takeR_defs ts 2 st
theorem newNameR_defs (ts : List TokP) (st : RS) : (newNameR ts st).1.defs = st.defs := by
  unfold newNameR; dsimp only; split
  · exact takeR_defs ts 4 st
  · exact takeR_defs ts 4 st
theorem oneRangeR_defs (ts : List TokP) (st : RS) : (oneRangeR ts st).1.defs = st.defs := by
  unfold oneRangeR; split
  · dsimp only; rw [withinR_defs, withinR_defs, takeR_defs]
  · exact takeR_defs ts 3 st
theorem rangesLp_defs (ts : List TokP) : ∀ (n : Nat) (st : RS) (l : List SetM) (r : RS × List SetM), rangesLp ts n st l = some r → r.1.defs = st.defs
  | 0, _, _, _, h => by cases h
  | n + 1, st, l, r, h => by
    rw [rangesLp] at h
    split at h
    · rw [rangesLp_defs ts n _ _ r h, oneRangeR_defs]; rfl
    · cases h; rfl
theorem rangesR_defs {ts : List TokP} {n : Nat} {st : RS} {r : RS × SetM} (h : rangesR ts n st = some r) : r.1.defs = st.defs := by
  unfold rangesR at h
  split at h
  · cases h
  · rename_i s l hx
    cases h
    dsimp only
    rw [takeR_defs, rangesLp_defs ts n _ _ _ hx, oneRangeR_defs, takeR_defs]
def defsLp (ts : List TokP) (n : Nat) : Nat → RS → Option RS
  | 0, st => some st
  | k + 1, st => match defR ts n st with
    | none => none
    | some (s, true) => defsLp ts n k s
    | some (s, false) => some s
def policyD (ts : List TokP) (n : Nat) (stmt : RS → Option (RS × Option (Option StpM))) (st : RS) : Option (RS × List (Option StpM)) :=
  match defsLp ts n 8 st with
  | none => none
  | some s => policyTw ts n stmt s
theorem StepsL.allow {w : World} {A A' : Nat → Prop} {v : Value} {l : List (Option StpM)} (h : StepsL w A v l) (hb : ∀ k, k < w.heap.size → A k → A' k) : StepsL w A' v l :=
  ⟨h.1, fun ms hms => (h.2 ms hms).allow hb⟩
set_option maxRecDepth 100000 in
set_option maxHeartbeats 4000000 in
theorem policyD_said {pb : Nat} {ts : List TokP} (ht : TsOk ts) (hL : LenOk ts) {tw : RS → Option (RS × Option (Option StpM))} (IH : StmtSaid pb ts tw) (n : Nat) (hn : n ≤ 1000) {w : World} {st : RS} {r : RS × List (Option StpM)} {O : Nat → Prop} (h : RA w pb ts st (fun _ => False) O) (hk : Ok ts st) (hd0 : st.defs = []) (hr : policyD ts n tw st = some r) :
    Calls Tryz.prog 44 #[ptr4 pb 0] w (PolRes pb ts w O r) := by
  unfold policyD at hr
  cases hs : defsLp ts n 8 st with
  | none => rw [hs] at hr; cases hr
  | some sF =>
  rw [hs] at hr
  dsimp only at hr
  unfold policyTw at hr
  cases h1 : moreLp tw n sF [] with
  | none => rw [h1] at hr; cases hr
  | some p =>
    obtain ⟨s1, l⟩ := p
    rw [h1] at hr
    have hmf : ∀ (fn : Fn) (first cap : Array Value) (w : World), (Instr.makeFunc fn first cap).run Tryz.prog w = .ok (.func fn first cap) w := fun _ _ _ _ => rfl
    have HO := hide (fun W D O (hW : RA W pb ts sF D O) (hk : Ok ts sF) => one_said ht IH n hn hW hk h1)
    have HT := hide ht
    have HLL := hide hL
    have hq : r = (if kindR ts (if l.length = 0 then failR ts s1 else s1) = 1 then (if l.length = 0 then failR ts s1 else s1) else failR ts (if l.length = 0 then failR ts s1 else s1), l) := (Option.some.inj hr).symm
    have HR := hide h
    have HK := hide hk
    have HSF := hide hs
    have hdl : st.defs.length = 0 := by rw [hd0]; rfl
    clear h hk ht IH h1 hr hs hL hd0
    generalize (if l.length = 0 then failR ts s1 else s1) = s2 at *
    go_enter Tryz.func44, Tryz.ntmps44
    go_wp2_with fail
    go_loopg [3] 8 (fun k i wr => ∃ (j : Nat) (su : RS) (Dj Oj : Nat → Prop), i = .int .i64 (j : Int) ∧ j + k = 8 ∧ su.defs.length ≤ j ∧ RA wr pb ts su Dj Oj ∧ Fr O w Oj wr ∧ (∀ q, Dj q → w.heap.size ≤ q) ∧ Ok ts su ∧ defsLp ts n (8 - j) su = some sF)
    case atStart => exact ⟨0, st, _, O, rfl, rfl, by omega, unhide HR, Fr.refl _ _, fun q hq => hq.elim, unhide HK, unhide HSF⟩
    case round =>
      clear HR HK HSF
      obtain ⟨j, su, Dj, Oj, rfl, hjk, hdj, hr, hf, hDj, hk, hl⟩ := hrel
      have HF := hide hf
      have HDJ := hide hDj
      have HK := hide hk
      have hws := hf.size
      by_cases hj8 : j < 8
      · rw [show 8 - j = (7 - j) + 1 by omega, defsLp, defR] at hl
        by_cases k5 : kindR ts su = 5
        · rw [if_pos k5] at hl
          cases hrg : rangesR ts n (takeR ts 26 (newNameR ts (goR ts su)).1).1 with
          | none => rw [hrg] at hl; cases hl
          | some q =>
            obtain ⟨sq, mq⟩ := q
            rw [hrg] at hl
            dsimp only at hl
            have hdd : (takeR ts 27 sq).1.defs = su.defs := by
              rw [takeR_defs]
              have := rangesR_defs hrg
              dsimp only at this
              rw [this, takeR_defs, newNameR_defs]; rfl
            have HD := hide (def_set (unhide HT) (unhide HLL) n hn hr hk k5 (by rw [hdd]; omega) hrg)
            have HL := hide hl
            have hdn : (addDefR (takeR ts 27 sq).1 ⟨(newNameR ts (goR ts su)).2, some mq, none⟩).defs.length ≤ j + 1 := by
              show ((takeR ts 27 sq).1.defs ++ [_]).length ≤ _
              rw [hdd]; simp; omega
            clear hr hf hDj hk hl k5 hrg hdd
            generalize addDefR (takeR ts 27 sq).1 ⟨(newNameR ts (goR ts su)).2, some mq, none⟩ = sN at *
            go_wp2_with (go_at_call 50; refine (unhide HD).mono ?_; rintro e w1 ⟨rfl, D1, O1, hr1, hf1, hD1, hk1⟩; have HR1 := hide hr1; have HK1 := hide hk1; have HD1 := hide hD1; replace HF := hide ((unhide HF).trans hf1); clear hr1 hf1 hD1 hk1)
            have hwr := (unhide HF).size
            go_roundg (8 - (j + 1))
            case measure => omega
            case rel => exact ⟨j + 1, sN, D1, O1, by go_num, by omega, hdn, unhide HR1, unhide HF, fun q hq => ((unhide HD1) q hq).elim ((unhide HDJ) q) (fun h => by omega), unhide HK1, by rw [show 8 - (j + 1) = 7 - j by omega]; exact unhide HL⟩
        · rw [if_neg k5] at hl
          by_cases k6 : kindR ts su = 6
          · rw [if_pos k6] at hl; cases hl
          · rw [if_neg k6] at hl
            dsimp only at hl
            obtain rfl : su = sF := Option.some.inj hl
            have HD := hide (def_no (unhide HT) hr hk k5 k6)
            clear hr hf hDj hk hl k5 k6
            by_cases e1 : kindR ts s2 = 1
            · rw [if_pos e1] at hq
              have HQ := hide hq
              have HE := hide e1
              clear hq e1
              go_wp2_with (first
                | (go_at_call 50; refine (unhide HD).mono ?_; clear HD; rintro e w1 ⟨rfl, hr1, hf1⟩; have HR := hide hr1; replace HF := hide ((unhide HF).trans hf1); clear hr1 hf1))
              refine ((unhide HO) _ _ _ (unhide HR) (unhide HK)).mono ?_
              rintro e w2 ⟨v, O2, rfl, hr2, hf2, hs2, hk2, ⟨va, vc, rfl⟩, hl2⟩
              have HS := hide (hs2.fr (Fr.refl _ _) (unhide HF).size)
              have HK2 := hide hk2
              have HL2 := hide hl2
              replace HR := hide hr2
              replace HF := hide ((unhide HF).trans hf2)
              clear hr2 hf2 hs2 hk2 hl2
              go_wp2_with (first
                | (go_at_call 53; refine (kind_is (unhide HR) (unhide HK2) (unhide HT) (unhide HE)).mono ?_; rintro e w1 ⟨rfl, hr1, hf1⟩; replace HR := hide hr1; replace HS := hide ((unhide HS).fr hf1 (Nat.le_refl _)); replace HF := hide ((unhide HF).trans hf1); clear hr1 hf1)
                | fail)
              go_ret
              rw [unhide HQ]
              exact ⟨_, _, _, rfl, unhide HR, unhide HF, (unhide HS).allow (fun k _ ha => ⟨ha.1, Or.inr (ha.2.elim ((unhide HDJ) k) id)⟩), unhide HK2, ⟨_, _, rfl⟩, unhide HL2⟩
            · rw [if_neg e1] at hq
              have HQ := hide hq
              have b1 : (kindR ts s2 != 1) = true := by simpa using e1
              clear hq e1
              go_wp2_with (first
                | (go_at_call 50; refine (unhide HD).mono ?_; clear HD; rintro e w1 ⟨rfl, hr1, hf1⟩; have HR := hide hr1; replace HF := hide ((unhide HF).trans hf1); clear hr1 hf1))
              refine ((unhide HO) _ _ _ (unhide HR) (unhide HK)).mono ?_
              rintro e w2 ⟨v, O2, rfl, hr2, hf2, hs2, hk2, ⟨va, vc, rfl⟩, hl2⟩
              have HS := hide (hs2.fr (Fr.refl _ _) (unhide HF).size)
              have HK2 := hide hk2
              have HL2 := hide hl2
              replace HR := hide hr2
              replace HF := hide ((unhide HF).trans hf2)
              clear hr2 hf2 hs2 hk2 hl2
              go_wp2_with (first
                | (go_at_call 53; refine (kind_is (unhide HR) (unhide HK2) (unhide HT) rfl).mono ?_; rintro e w1 ⟨rfl, hr1, hf1⟩; replace HR := hide hr1; replace HS := hide ((unhide HS).fr hf1 (Nat.le_refl _)); replace HF := hide ((unhide HF).trans hf1); clear hr1 hf1)
                | (go_at_call 54; refine (fail_any (unhide HR) (unhide HK2).next (unhide HT).n1).mono ?_; rintro e w1 ⟨rfl, hr1, hf1⟩; replace HR := hide hr1; replace HS := hide ((unhide HS).fr hf1 (Nat.le_refl _)); replace HF := hide ((unhide HF).trans hf1); clear hr1 hf1))
              go_ret
              rw [unhide HQ]
              exact ⟨_, _, _, rfl, unhide HR, unhide HF, (unhide HS).allow (fun k _ ha => ⟨ha.1, Or.inr (ha.2.elim ((unhide HDJ) k) id)⟩), failR_ok (unhide HK2), ⟨_, _, rfl⟩, unhide HL2⟩
      · obtain rfl : j = 8 := by omega
        obtain rfl : su = sF := Option.some.inj hl
        have HR := hide hr
        clear hr hf hDj hk hl
        by_cases e1 : kindR ts s2 = 1
        · rw [if_pos e1] at hq
          have HQ := hide hq
          have HE := hide e1
          clear hq e1
          go_wp2_with fail
          refine ((unhide HO) _ _ _ (unhide HR) (unhide HK)).mono ?_
          rintro e w2 ⟨v, O2, rfl, hr2, hf2, hs2, hk2, ⟨va, vc, rfl⟩, hl2⟩
          have HS := hide (hs2.fr (Fr.refl _ _) (unhide HF).size)
          have HK2 := hide hk2
          have HL2 := hide hl2
          replace HR := hide hr2
          replace HF := hide ((unhide HF).trans hf2)
          clear hr2 hf2 hs2 hk2 hl2
          go_wp2_with (first
            | (go_at_call 53; refine (kind_is (unhide HR) (unhide HK2) (unhide HT) (unhide HE)).mono ?_; rintro e w1 ⟨rfl, hr1, hf1⟩; replace HR := hide hr1; replace HS := hide ((unhide HS).fr hf1 (Nat.le_refl _)); replace HF := hide ((unhide HF).trans hf1); clear hr1 hf1)
            | fail)
          go_ret
          rw [unhide HQ]
          exact ⟨_, _, _, rfl, unhide HR, unhide HF, (unhide HS).allow (fun k _ ha => ⟨ha.1, Or.inr (ha.2.elim ((unhide HDJ) k) id)⟩), unhide HK2, ⟨_, _, rfl⟩, unhide HL2⟩
        · rw [if_neg e1] at hq
          have HQ := hide hq
          have b1 : (kindR ts s2 != 1) = true := by simpa using e1
          clear hq e1
          go_wp2_with fail
          refine ((unhide HO) _ _ _ (unhide HR) (unhide HK)).mono ?_
          rintro e w2 ⟨v, O2, rfl, hr2, hf2, hs2, hk2, ⟨va, vc, rfl⟩, hl2⟩
          have HS := hide (hs2.fr (Fr.refl _ _) (unhide HF).size)
          have HK2 := hide hk2
          have HL2 := hide hl2
          replace HR := hide hr2
          replace HF := hide ((unhide HF).trans hf2)
          clear hr2 hf2 hs2 hk2 hl2
          go_wp2_with (first
            | (go_at_call 53; refine (kind_is (unhide HR) (unhide HK2) (unhide HT) rfl).mono ?_; rintro e w1 ⟨rfl, hr1, hf1⟩; replace HR := hide hr1; replace HS := hide ((unhide HS).fr hf1 (Nat.le_refl _)); replace HF := hide ((unhide HF).trans hf1); clear hr1 hf1)
            | (go_at_call 54; refine (fail_any (unhide HR) (unhide HK2).next (unhide HT).n1).mono ?_; rintro e w1 ⟨rfl, hr1, hf1⟩; replace HR := hide hr1; replace HS := hide ((unhide HS).fr hf1 (Nat.le_refl _)); replace HF := hide ((unhide HF).trans hf1); clear hr1 hf1))
          go_ret
          rw [unhide HQ]
          exact ⟨_, _, _, rfl, unhide HR, unhide HF, (unhide HS).allow (fun k _ ha => ⟨ha.1, Or.inr (ha.2.elim ((unhide HDJ) k) id)⟩), failR_ok (unhide HK2), ⟨_, _, rfl⟩, unhide HL2⟩
end Go.Proofs.YtlhhdklendeikaaGreatDoor
