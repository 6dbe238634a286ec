/- The program's reader: and, cond. -/
import Derived.Test.YtgdeeodifnegiaaGreatDoorRdrH
import Derived.Test.YtgdeeodifnegiaaGreatDoorRunD
namespace Go.Proofs.YtgdeeodifnegiaaGreatDoor
open Go.RowKit

theorem binLp_pos {ts : List TokP} {c : Int} {m : CndM → CndM → CndM} {tm : RS → Option (RS × Option CndM)} {k : Nat} {st : RS} {a : Option CndM} {r : RS × Option CndM} (h : binLp ts c m tm k st a = some r) : ∃ g, k = g + 1 := by
  cases k with
  | zero => rw [binLp] at h; cases h
  | succ g => exact ⟨g, rfl⟩
set_option maxRecDepth 100000 in
set_option maxHeartbeats 4000000 in
theorem and_said {pb : Nat} {ts : List TokP} (ht : TsOk ts) {tm : RS → Option (RS × Option CndM)} (IH : CndSaid 339 pb ts tm) (n : Nat) : CndSaid 312 pb ts (binBy ts 19 andM tm n) := by
  intro w st D O r h hk hr
  unfold binBy at hr
  cases h1 : tm st with
  | none => rw [h1] at hr; cases hr
  | some p =>
    obtain ⟨st1, a⟩ := p
    rw [h1] at hr
    have HL := hide (show binLp ts 19 andM tm n st1 a = some r from hr)
    have HT := hide ht
    have HIH := hide IH
    have H1 := hide (IH w st D O (st1, a) h hk h1)
    clear hr h hk h1 ht IH
    go_enter Tryz.func312, Tryz.ntmps312
    go_wp2_with fail
    refine (unhide H1).mono ?_
    rintro e w1 ⟨v, O1, rfl, hr1, hf1, hv1, hk1⟩
    have HR := hide hr1
    have HF := hide hf1
    have HV := hide hv1
    have HK := hide hk1
    clear hr1 hf1 hv1 hk1 H1
    go_wp2_with fail
    go_loopg [3] n (fun k v3 wr => ∃ (su : RS) (o : Option CndM) (Ou : Nat → Prop), RA wr pb ts su D Ou ∧ Fr O w Ou wr ∧ CndO wr (Free Ou D w.heap.size) v3 o ∧ Ok ts su ∧ binLp ts 19 andM tm k su o = some r)
    case atStart => exact ⟨st1, a, O1, unhide HR, unhide HF, unhide HV, unhide HK, unhide HL⟩
    case round =>
      clear HR HF HV HK HL
      obtain ⟨su, o, Ou, hr, hf, hv, hk, hl⟩ := hrel
      obtain ⟨g, rfl⟩ := binLp_pos hl
      rw [binLp] at hl
      have HR := hide hr
      have HF := hide hf
      have HV := hide hv
      have HK := hide hk
      clear hr hf hv hk
      by_cases e0 : kindR ts su = 19
      · rw [if_pos e0] at hl
        cases h2 : tm (goR ts su) with
        | none => rw [h2] at hl; cases hl
        | some p =>
          obtain ⟨st2, b⟩ := p
          rw [h2] at hl
          have HL2 := hide (show binLp ts 19 andM tm g st2 (binO andM o b) = some r from hl)
          have HTM := hide h2
          have HE := hide e0
          clear hl h2 e0
          go_wp2_with (go_at_call 211; refine (took_yes (unhide HR) (unhide HK) (unhide HT) 19 (unhide HE)).mono ?_; rintro e w2 ⟨rfl, O2, hr2, hf2⟩; replace HV := hide ((unhide HV).fr hf2 (Nat.le_refl _)); replace HR := hide hr2; replace HF := hide ((unhide HF).trans hf2); clear hr2 hf2)
          refine ((unhide HIH) _ _ _ _ _ (unhide HR) (goR_ok' (unhide HK) (unhide HT) (unhide HE) (by decide)) (unhide HTM)).mono ?_
          rintro e w3 ⟨v3, O3, rfl, hr3, hf3, hv3, hk3⟩
          replace HV := hide ((unhide HV).fr hf3 (Nat.le_refl _))
          have HV3 := hide (hv3.fr (Fr.refl _ _) (unhide HF).size)
          replace HR := hide hr3
          replace HF := hide ((unhide HF).trans hf3)
          have HK3 := hide hk3
          clear hr3 hf3 hv3 hk3
          go_wp2_with fail
          refine (and_any _ _ _ _ _ _ ((unhide HR).newFree (unhide HF)) (unhide HV) (unhide HV3)).mono ?_
          rintro e w4 ⟨v4, rfl, rfl, hv4⟩
          have HV4 := hide hv4
          clear hv4
          go_wp2_with fail
          go_roundg g
          case measure => omega
          case rel => exact ⟨st2, _, O3, ((unhide HR).alloc _).alloc _, ((unhide HF).alloc _).alloc _, unhide HV4, unhide HK3, unhide HL2⟩
      · rw [if_neg e0] at hl
        have N0 := hide e0
        cases hl
        clear e0
        have hfv := (unhide HV).fnv
        rcases hfv with ⟨f1, f2, f3, rfl⟩ | rfl <;>
        · go_wp2_with (go_at_call 211; refine (took_no (unhide HR) (unhide HK) (unhide HT) 19 (unhide N0)).mono ?_; rintro e w2 ⟨rfl, hr2, hf2⟩; replace HV := hide ((unhide HV).fr hf2 (Nat.le_refl _)); replace HR := hide hr2; replace HF := hide ((unhide HF).trans hf2); clear hr2 hf2)
          go_ret
          exact ⟨_, _, rfl, unhide HR, unhide HF, unhide HV, unhide HK⟩
set_option maxRecDepth 100000 in
set_option maxHeartbeats 4000000 in
theorem cond_said0 {pb : Nat} {ts : List TokP} (ht : TsOk ts) {tm : RS → Option (RS × Option CndM)} (IH : CndSaid 312 pb ts tm) (n : Nat) : CndSaid 266 pb ts (binBy ts 18 orM tm n) := by
  intro w st D O r h hk hr
  unfold binBy at hr
  cases h1 : tm st with
  | none => rw [h1] at hr; cases hr
  | some p =>
    obtain ⟨st1, a⟩ := p
    rw [h1] at hr
    have HL := hide (show binLp ts 18 orM tm n st1 a = some r from hr)
    have HT := hide ht
    have HIH := hide IH
    have H1 := hide (IH w st D O (st1, a) h hk h1)
    clear hr h hk h1 ht IH
    go_enter Tryz.func266, Tryz.ntmps266
    go_wp2_with fail
    refine (unhide H1).mono ?_
    rintro e w1 ⟨v, O1, rfl, hr1, hf1, hv1, hk1⟩
    have HR := hide hr1
    have HF := hide hf1
    have HV := hide hv1
    have HK := hide hk1
    clear hr1 hf1 hv1 hk1 H1
    go_wp2_with fail
    go_loopg [3] n (fun k v3 wr => ∃ (su : RS) (o : Option CndM) (Ou : Nat → Prop), RA wr pb ts su D Ou ∧ Fr O w Ou wr ∧ CndO wr (Free Ou D w.heap.size) v3 o ∧ Ok ts su ∧ binLp ts 18 orM tm k su o = some r)
    case atStart => exact ⟨st1, a, O1, unhide HR, unhide HF, unhide HV, unhide HK, unhide HL⟩
    case round =>
      clear HR HF HV HK HL
      obtain ⟨su, o, Ou, hr, hf, hv, hk, hl⟩ := hrel
      obtain ⟨g, rfl⟩ := binLp_pos hl
      rw [binLp] at hl
      have HR := hide hr
      have HF := hide hf
      have HV := hide hv
      have HK := hide hk
      clear hr hf hv hk
      by_cases e0 : kindR ts su = 18
      · rw [if_pos e0] at hl
        cases h2 : tm (goR ts su) with
        | none => rw [h2] at hl; cases hl
        | some p =>
          obtain ⟨st2, b⟩ := p
          rw [h2] at hl
          have HL2 := hide (show binLp ts 18 orM tm g st2 (binO orM o b) = some r from hl)
          have HTM := hide h2
          have HE := hide e0
          clear hl h2 e0
          go_wp2_with (go_at_call 211; refine (took_yes (unhide HR) (unhide HK) (unhide HT) 18 (unhide HE)).mono ?_; rintro e w2 ⟨rfl, O2, hr2, hf2⟩; replace HV := hide ((unhide HV).fr hf2 (Nat.le_refl _)); replace HR := hide hr2; replace HF := hide ((unhide HF).trans hf2); clear hr2 hf2)
          refine ((unhide HIH) _ _ _ _ _ (unhide HR) (goR_ok' (unhide HK) (unhide HT) (unhide HE) (by decide)) (unhide HTM)).mono ?_
          rintro e w3 ⟨v3, O3, rfl, hr3, hf3, hv3, hk3⟩
          replace HV := hide ((unhide HV).fr hf3 (Nat.le_refl _))
          have HV3 := hide (hv3.fr (Fr.refl _ _) (unhide HF).size)
          replace HR := hide hr3
          replace HF := hide ((unhide HF).trans hf3)
          have HK3 := hide hk3
          clear hr3 hf3 hv3 hk3
          go_wp2_with fail
          refine (or_any _ _ _ _ _ _ ((unhide HR).newFree (unhide HF)) (unhide HV) (unhide HV3)).mono ?_
          rintro e w4 ⟨v4, rfl, rfl, hv4⟩
          have HV4 := hide hv4
          clear hv4
          go_wp2_with fail
          go_roundg g
          case measure => omega
          case rel => exact ⟨st2, _, O3, ((unhide HR).alloc _).alloc _, ((unhide HF).alloc _).alloc _, unhide HV4, unhide HK3, unhide HL2⟩
      · rw [if_neg e0] at hl
        have N0 := hide e0
        cases hl
        clear e0
        have hfv := (unhide HV).fnv
        rcases hfv with ⟨f1, f2, f3, rfl⟩ | rfl <;>
        · go_wp2_with (go_at_call 211; refine (took_no (unhide HR) (unhide HK) (unhide HT) 18 (unhide N0)).mono ?_; rintro e w2 ⟨rfl, hr2, hf2⟩; replace HV := hide ((unhide HV).fr hf2 (Nat.le_refl _)); replace HR := hide hr2; replace HF := hide ((unhide HF).trans hf2); clear hr2 hf2)
          go_ret
          exact ⟨_, _, rfl, unhide HR, unhide HF, unhide HV, unhide HK⟩
theorem cond_said {pb : Nat} {ts : List TokP} (ht : TsOk ts) {nt : RS → Option (RS × Option CndM)} (IH : CndSaid 339 pb ts nt) (n : Nat) : CndSaid 266 pb ts (condBy ts nt n) :=
  cond_said0 ht (and_said ht IH n) n
end Go.Proofs.YtgdeeodifnegiaaGreatDoor
