/- The program's reader: term and sum. -/
import Derived.Test.YtgdeeodifnegiaaGreatDoorRdrF
import Derived.Test.YtgdeeodifnegiaaGreatDoorRunA
import Derived.Deep.LoopGhost
namespace Go.Proofs.YtgdeeodifnegiaaGreatDoor
open Go.RowKit

/-- a call that gives an amount -/
def AmtRes (pb : Nat) (ts : List TokP) (w : World) (D O : Nat → Prop) (r : RS × Option AmtM) (e : Ending) (w' : World) : Prop :=
  ∃ v O', e = .returned v ∧ RA w' pb ts r.1 D O' ∧ Fr O w O' w' ∧ AmtO w' (Free O' D w.heap.size) v r.2 ∧ Ok ts r.1
def TermSaid (pb : Nat) (ts : List TokP) (tw : RS → Option (RS × Option AmtM)) : Prop := ∀ (w : World) (st : RS) (D O : Nat → Prop) (r : RS × Option AmtM), RA w pb ts st D O → Ok ts st → tw st = some r → Calls Tryz.prog 315 #[ptr4 pb 0] w (AmtRes pb ts w D O r)
def SumSaid (pb : Nat) (ts : List TokP) (tw : RS → Option (RS × Option AmtM)) : Prop := ∀ (w : World) (st : RS) (D O : Nat → Prop) (r : RS × Option AmtM), RA w pb ts st D O → Ok ts st → tw st = some r → Calls Tryz.prog 271 #[ptr4 pb 0] w (AmtRes pb ts w D O r)

theorem kind_is {w : World} {pb : Nat} {ts : List TokP} {st : RS} {D O : Nat → Prop} (h : RA w pb ts st D O) (hk : Ok ts st) (ht : TsOk ts) {k : Int} (e : kindR ts st = k) :
    Calls Tryz.prog 170 #[ptr4 pb 0] w fun e w' => e = .returned (.int .i64 k) ∧ RA w' pb ts st D O ∧ Fr O w O w' := by
  refine (kind_drew h hk.next ht.n1).mono ?_
  rintro _ w' ⟨rfl, h1, h2, _⟩
  rw [e]; exact ⟨rfl, h1, h2⟩
theorem RA.newFree {w w1 : World} {pb : Nat} {ts : List TokP} {st : RS} {D O O1 : Nat → Prop} (h : RA w1 pb ts st D O1) (hf : Fr O w O1 w1) : ∀ k, w1.heap.size ≤ k → Free O1 D w.heap.size k :=
  fun k hk => ⟨(h.noNew hk).1, Or.inr (by have := hf.size; omega)⟩
/-- values of functions alone -/
theorem AmtO.fix {w : World} {A : Nat → Prop} {g : Nat} {m : AmtM} (e : Enters Tryz.prog g) (h : ∀ (W : World) (b : Nat) (r : Rt) (pv mv : Value), RtAt W b r pv mv → Calls Tryz.prog g (#[ptr4 b 0] ++ #[]) W fun e W' => e = .returned (amtV (m r)) ∧ W' = W) : AmtO w A (.func (.func g) #[] #[]) (some m) :=
  Lasts.new (fun _ => False) (fun _ h => h.elim) (fun W _ _ => ⟨g, #[], rfl, e, fun b r pv mv hr => h W b r pv mv hr⟩)
theorem Tryz.entPref : Enters Tryz.prog 343 := enters_of Tryz.func343 (by kernel_rfl) rfl
theorem Tryz.entMed : Enters Tryz.prog 344 := enters_of Tryz.func344 (by kernel_rfl) rfl
theorem Tryz.entLen : Enters Tryz.prog 345 := enters_of Tryz.func345 (by kernel_rfl) rfl
theorem field3 (t : TokP) (w : World) : (Instr.field 216 (tokV t) 3).run Tryz.prog w = .ok (.int .i64 t.number) w := by kernel_rfl

set_option maxRecDepth 100000 in
set_option maxHeartbeats 2000000 in
theorem term_num {pb : Nat} {ts : List TokP} (ht : TsOk ts) {w : World} {st : RS} {D O : Nat → Prop} (h : RA w pb ts st D O) (hk : Ok ts st) (e : kindR ts st = 2) :
    Calls Tryz.prog 315 #[ptr4 pb 0] w (AmtRes pb ts w D O (goR ts st, some (constM (tokR ts st).number))) := by
  have HR := hide h
  have HF := hide (Fr.refl O w)
  have HK := hide hk
  have HT := hide ht
  have HE := hide e
  have hfl := field3 (tokR ts st)
  have OK := hide (goR_ok' hk ht e (by decide))
  clear h hk ht e
  go_enter Tryz.func315, Tryz.ntmps315
  go_wp2_with (first
    | (go_at_call 170; refine (kind_is (unhide HR) (unhide HK) (unhide HT) (unhide HE)).mono ?_; rintro e w1 ⟨rfl, hr1, hf1⟩; replace HR := hide hr1; replace HF := hide ((unhide HF).trans hf1); clear hr1 hf1)
    | (go_at_call 213; refine (take_yes (unhide HR) (unhide HK) (unhide HT).n1 (by rw [tokR_eq (unhide HK).next]; exact (unhide HT).text _ (unhide HK).next) _ (unhide HE)).mono ?_; rintro e w1 ⟨rfl, O1, hr1, hf1⟩; replace HR := hide hr1; replace HF := hide ((unhide HF).trans hf1); clear hr1 hf1)
    | (go_at_call 342; refine (constant_any _ _ _ ((unhide HR).newFree (unhide HF) _ (Nat.le_refl _))).mono ?_; rintro e w2 ⟨v, rfl, rfl, hv⟩; replace HR := hide ((unhide HR).alloc (.cells #[.int .i64 (tokR ts st).number] 3)); replace HF := hide ((unhide HF).alloc (.cells #[.int .i64 (tokR ts st).number] 3)); have HV := hide hv; clear hv))
  go_ret
  exact ⟨_, _, rfl, unhide HR, unhide HF, unhide HV, unhide OK⟩
set_option maxRecDepth 100000 in
set_option maxHeartbeats 2000000 in
theorem term_pref {pb : Nat} {ts : List TokP} (ht : TsOk ts) {w : World} {st : RS} {D O : Nat → Prop} (h : RA w pb ts st D O) (hk : Ok ts st) (e : kindR ts st = 9) :
    Calls Tryz.prog 315 #[ptr4 pb 0] w (AmtRes pb ts w D O (goR ts st, some prefM)) := by
  have HR := hide h
  have HF := hide (Fr.refl O w)
  have HK := hide hk
  have HT := hide ht
  have HE := hide e
  have OK := hide (goR_ok' hk ht e (by decide))
  clear h hk ht e
  go_enter Tryz.func315, Tryz.ntmps315
  go_wp2_with (first
    | (go_at_call 170; refine (kind_is (unhide HR) (unhide HK) (unhide HT) (unhide HE)).mono ?_; rintro e w1 ⟨rfl, hr1, hf1⟩; replace HR := hide hr1; replace HF := hide ((unhide HF).trans hf1); clear hr1 hf1)
    | (go_at_call 211; refine (took_yes (unhide HR) (unhide HK) (unhide HT) _ (unhide HE)).mono ?_; rintro e w1 ⟨rfl, O1, hr1, hf1⟩; replace HR := hide hr1; replace HF := hide ((unhide HF).trans hf1); clear hr1 hf1))
  go_ret
  exact ⟨_, _, rfl, unhide HR, unhide HF, AmtO.fix Tryz.entPref thePref_run, unhide OK⟩
set_option maxRecDepth 100000 in
set_option maxHeartbeats 2000000 in
theorem term_med {pb : Nat} {ts : List TokP} (ht : TsOk ts) {w : World} {st : RS} {D O : Nat → Prop} (h : RA w pb ts st D O) (hk : Ok ts st) (e : kindR ts st = 10) :
    Calls Tryz.prog 315 #[ptr4 pb 0] w (AmtRes pb ts w D O (goR ts st, some medM)) := by
  have HR := hide h
  have HF := hide (Fr.refl O w)
  have HK := hide hk
  have HT := hide ht
  have HE := hide e
  have OK := hide (goR_ok' hk ht e (by decide))
  have n9 := hide (show kindR ts st ≠ 9 by rw [e]; decide)
  clear h hk ht e
  go_enter Tryz.func315, Tryz.ntmps315
  go_wp2_with (first
    | (go_at_call 170; refine (kind_is (unhide HR) (unhide HK) (unhide HT) (unhide HE)).mono ?_; rintro e w1 ⟨rfl, hr1, hf1⟩; replace HR := hide hr1; replace HF := hide ((unhide HF).trans hf1); clear hr1 hf1)
    | (go_at_call 211; refine (took_no (unhide HR) (unhide HK) (unhide HT) 9 (unhide n9)).mono ?_; rintro e w1 ⟨rfl, hr1, hf1⟩; replace HR := hide hr1; replace HF := hide ((unhide HF).trans hf1); clear hr1 hf1 n9)
    | (go_at_call 211; refine (took_yes (unhide HR) (unhide HK) (unhide HT) _ (unhide HE)).mono ?_; rintro e w1 ⟨rfl, O1, hr1, hf1⟩; replace HR := hide hr1; replace HF := hide ((unhide HF).trans hf1); clear hr1 hf1))
  go_ret
  exact ⟨_, _, rfl, unhide HR, unhide HF, AmtO.fix Tryz.entMed theMed_run, unhide OK⟩
set_option maxRecDepth 100000 in
set_option maxHeartbeats 2000000 in
theorem term_len {pb : Nat} {ts : List TokP} (ht : TsOk ts) {w : World} {st : RS} {D O : Nat → Prop} (h : RA w pb ts st D O) (hk : Ok ts st) (e : kindR ts st = 17) :
    Calls Tryz.prog 315 #[ptr4 pb 0] w (AmtRes pb ts w D O (goR ts st, some lenM)) := by
  have HR := hide h
  have HF := hide (Fr.refl O w)
  have HK := hide hk
  have HT := hide ht
  have HE := hide e
  have OK := hide (goR_ok' hk ht e (by decide))
  have n9 := hide (show kindR ts st ≠ 9 by rw [e]; decide)
  have n10 := hide (show kindR ts st ≠ 10 by rw [e]; decide)
  clear h hk ht e
  go_enter Tryz.func315, Tryz.ntmps315
  go_wp2_with (first
    | (go_at_call 170; refine (kind_is (unhide HR) (unhide HK) (unhide HT) (unhide HE)).mono ?_; rintro e w1 ⟨rfl, hr1, hf1⟩; replace HR := hide hr1; replace HF := hide ((unhide HF).trans hf1); clear hr1 hf1)
    | (go_at_call 211; refine (took_no (unhide HR) (unhide HK) (unhide HT) 9 (unhide n9)).mono ?_; rintro e w1 ⟨rfl, hr1, hf1⟩; replace HR := hide hr1; replace HF := hide ((unhide HF).trans hf1); clear hr1 hf1 n9)
    | (go_at_call 211; refine (took_no (unhide HR) (unhide HK) (unhide HT) 10 (unhide n10)).mono ?_; rintro e w1 ⟨rfl, hr1, hf1⟩; replace HR := hide hr1; replace HF := hide ((unhide HF).trans hf1); clear hr1 hf1 n10)
    | (go_at_call 211; refine (took_yes (unhide HR) (unhide HK) (unhide HT) _ (unhide HE)).mono ?_; rintro e w1 ⟨rfl, O1, hr1, hf1⟩; replace HR := hide hr1; replace HF := hide ((unhide HF).trans hf1); clear hr1 hf1))
  go_ret
  exact ⟨_, _, rfl, unhide HR, unhide HF, AmtO.fix Tryz.entLen theLen_run, unhide OK⟩
set_option maxRecDepth 100000 in
set_option maxHeartbeats 2000000 in
theorem term_paren {pb : Nat} {ts : List TokP} (ht : TsOk ts) {tw : RS → Option (RS × Option AmtM)} (IH : SumSaid pb ts tw) {w : World} {st : RS} {D O : Nat → Prop} (h : RA w pb ts st D O) (hk : Ok ts st) (e : kindR ts st = 33) {st1 : RS} {a : Option AmtM} (hs : tw (openR ts 33 st) = some (st1, a)) :
    Calls Tryz.prog 315 #[ptr4 pb 0] w (AmtRes pb ts w D O (shutR ts 34 st1, a)) := by
  have HR := hide h
  have HF := hide (Fr.refl O w)
  have HK := hide hk
  have HT := hide ht
  have HE := hide e
  have HIH := hide IH
  have HS := hide hs
  have n9 := hide (show kindR ts st ≠ 9 by rw [e]; decide)
  have n10 := hide (show kindR ts st ≠ 10 by rw [e]; decide)
  have n17 := hide (show kindR ts st ≠ 17 by rw [e]; decide)
  clear h hk ht e IH hs
  go_enter Tryz.func315, Tryz.ntmps315
  go_wp2_with (first
    | (go_at_call 170; refine (kind_is (unhide HR) (unhide HK) (unhide HT) (unhide HE)).mono ?_; rintro e w1 ⟨rfl, hr1, hf1⟩; replace HR := hide hr1; replace HF := hide ((unhide HF).trans hf1); clear hr1 hf1)
    | (go_at_call 211; refine (took_no (unhide HR) (unhide HK) (unhide HT) 9 (unhide n9)).mono ?_; rintro e w1 ⟨rfl, hr1, hf1⟩; replace HR := hide hr1; replace HF := hide ((unhide HF).trans hf1); clear hr1 hf1 n9)
    | (go_at_call 211; refine (took_no (unhide HR) (unhide HK) (unhide HT) 10 (unhide n10)).mono ?_; rintro e w1 ⟨rfl, hr1, hf1⟩; replace HR := hide hr1; replace HF := hide ((unhide HF).trans hf1); clear hr1 hf1 n10)
    | (go_at_call 211; refine (took_no (unhide HR) (unhide HK) (unhide HT) 17 (unhide n17)).mono ?_; rintro e w1 ⟨rfl, hr1, hf1⟩; replace HR := hide hr1; replace HF := hide ((unhide HF).trans hf1); clear hr1 hf1 n17)
    | (go_at_call 309; refine (open_any (unhide HR) (unhide HK) (unhide HT) 33).mono ?_; rintro e w1 ⟨rfl, O1, hr1, hf1⟩; replace HR := hide hr1; replace HF := hide ((unhide HF).trans hf1); clear hr1 hf1))
  refine ((unhide HIH) _ _ _ _ _ (unhide HR) (openR_ok (unhide HK) (unhide HT) (by decide)) (unhide HS)).mono ?_
  rintro e w2 ⟨v, O2, rfl, hr2, hf2, hv2, hk2⟩
  have F2 := hide ((unhide HF).trans hf2)
  have HK2 := hide hk2
  have V2 := hide (hv2.mono (Nat.le_refl _) (A' := Free O2 D w.heap.size) (fun k _ ha => ⟨rfl, ha.1, ha.2.imp id (fun h => Nat.le_trans (unhide HF).size h)⟩))
  replace HR := hide hr2
  have hfv := hv2.fnv
  clear hr2 hf2 hv2 hk2 HF
  rcases hfv with ⟨f1, f2, f3, rfl⟩ | rfl <;>
  · go_wp2_with fail
    refine (shut_any (unhide HR) (unhide HK2) (unhide HT) 34).mono ?_
    rintro e w3 ⟨rfl, O3, hr3, hf3⟩
    have HR3 := hide hr3
    have F3 := hide hf3
    clear hr3 hf3
    go_wp2_with fail
    go_ret
    refine ⟨_, _, rfl, unhide HR3, (unhide F2).trans (unhide F3), (unhide V2).mono (unhide F3).size (fun k hk ha => ⟨(unhide F3).block k hk ha.1, fun ho => ?_, ha.2⟩), shutR_ok (unhide HK2) (unhide HT) (by decide)⟩
    rcases (unhide F3).own k ho with h1 | h1
    · exact ha.1 h1
    · omega
set_option maxRecDepth 100000 in
set_option maxHeartbeats 2000000 in
theorem term_else {pb : Nat} {ts : List TokP} (ht : TsOk ts) {w : World} {st : RS} {D O : Nat → Prop} (h : RA w pb ts st D O) (hk : Ok ts st) (e2 : kindR ts st ≠ 2) (e9 : kindR ts st ≠ 9) (e10 : kindR ts st ≠ 10) (e17 : kindR ts st ≠ 17) (e33 : kindR ts st ≠ 33) :
    Calls Tryz.prog 315 #[ptr4 pb 0] w (AmtRes pb ts w D O (failR ts st, none)) := by
  have HR := hide h
  have HF := hide (Fr.refl O w)
  have HK := hide hk
  have HT := hide ht
  have n9 := hide e9
  have n10 := hide e10
  have n17 := hide e17
  have b2 : (kindR ts st == 2) = false := by simpa using e2
  have b33 : (kindR ts st == 33) = false := by simpa using e33
  clear h hk ht e2 e9 e10 e17 e33
  go_enter Tryz.func315, Tryz.ntmps315
  go_wp2_with (first
    | (go_at_call 170; refine (kind_is (unhide HR) (unhide HK) (unhide HT) rfl).mono ?_; rintro e w1 ⟨rfl, hr1, hf1⟩; replace HR := hide hr1; replace HF := hide ((unhide HF).trans hf1); clear hr1 hf1)
    | (go_at_call 211; refine (took_no (unhide HR) (unhide HK) (unhide HT) 9 (unhide n9)).mono ?_; rintro e w1 ⟨rfl, hr1, hf1⟩; replace HR := hide hr1; replace HF := hide ((unhide HF).trans hf1); clear hr1 hf1 n9)
    | (go_at_call 211; refine (took_no (unhide HR) (unhide HK) (unhide HT) 10 (unhide n10)).mono ?_; rintro e w1 ⟨rfl, hr1, hf1⟩; replace HR := hide hr1; replace HF := hide ((unhide HF).trans hf1); clear hr1 hf1 n10)
    | (go_at_call 211; refine (took_no (unhide HR) (unhide HK) (unhide HT) 17 (unhide n17)).mono ?_; rintro e w1 ⟨rfl, hr1, hf1⟩; replace HR := hide hr1; replace HF := hide ((unhide HF).trans hf1); clear hr1 hf1 n17)
    | (go_at_call 171; refine (fail_any (unhide HR) (unhide HK).next (unhide HT).n1).mono ?_; rintro e w1 ⟨rfl, hr1, hf1⟩; replace HR := hide hr1; replace HF := hide ((unhide HF).trans hf1); clear hr1 hf1))
  go_ret
  exact ⟨_, _, rfl, unhide HR, unhide HF, Or.inr rfl, failR_ok (unhide HK)⟩
end Go.Proofs.YtgdeeodifnegiaaGreatDoor

namespace Go.Proofs.YtgdeeodifnegiaaGreatDoor
open Go.RowKit

theorem AmtO.fr {w w' : World} {O O' D : Nat → Prop} {n m : Nat} {v : Value} {o : Option AmtM} (h : AmtO w (Free O D n) v o) (hf : Fr O w O' w') (hm : m ≤ n) : AmtO w' (Free O' D m) v o := by
  cases o with
  | none => exact h
  | some x => exact Lasts.fr h hf hm
theorem CndO.fr {w w' : World} {O O' D : Nat → Prop} {n m : Nat} {v : Value} {o : Option CndM} (h : CndO w (Free O D n) v o) (hf : Fr O w O' w') (hm : m ≤ n) : CndO w' (Free O' D m) v o := by
  cases o with
  | none => exact h
  | some x => exact Lasts.fr h hf hm

theorem sumLp_pos {ts : List TokP} {tm : RS → Option (RS × Option AmtM)} {k : Nat} {st : RS} {a : Option AmtM} {r : RS × Option AmtM} (h : sumLp ts tm k st a = some r) : ∃ g, k = g + 1 := by
  cases k with
  | zero => rw [sumLp] at h; cases h
  | succ g => exact ⟨g, rfl⟩
set_option maxRecDepth 100000 in
set_option maxHeartbeats 4000000 in
theorem sum_said {pb : Nat} {ts : List TokP} (ht : TsOk ts) {tm : RS → Option (RS × Option AmtM)} (IH : TermSaid pb ts tm) (n : Nat) : SumSaid pb ts (sumBy ts tm n) := by
  intro w st D O r h hk hr
  unfold sumBy at hr
  cases h1 : tm st with
  | none => rw [h1] at hr; cases hr
  | some p =>
    obtain ⟨st1, a⟩ := p
    rw [h1] at hr
    have HL := hide (show sumLp ts tm n st1 a = some r from hr)
    have HT := hide ht
    have HIH := hide IH
    have H1 := hide (IH w st D O (st1, a) h hk h1)
    clear hr h hk h1 ht IH
    go_enter Tryz.func271, Tryz.ntmps271
    go_wp2_with fail
    refine (unhide H1).mono ?_
    rintro e w1 ⟨v, O1, rfl, hr1, hf1, hv1, hk1⟩
    have HR := hide hr1
    have HF := hide hf1
    have HV := hide hv1
    have HK := hide hk1
    clear hr1 hf1 hv1 hk1 H1
    go_wp2_with fail
    go_loopg [3] n (fun k v3 wr => ∃ (su : RS) (o : Option AmtM) (Ou : Nat → Prop), RA wr pb ts su D Ou ∧ Fr O w Ou wr ∧ AmtO wr (Free Ou D w.heap.size) v3 o ∧ Ok ts su ∧ sumLp ts tm k su o = some r)
    case atStart => exact ⟨st1, a, O1, unhide HR, unhide HF, unhide HV, unhide HK, unhide HL⟩
    case round =>
      clear HR HF HV HK HL
      obtain ⟨su, o, Ou, hr, hf, hv, hk, hl⟩ := hrel
      obtain ⟨g, rfl⟩ := sumLp_pos hl
      rw [sumLp] at hl
      have HR := hide hr
      have HF := hide hf
      have HV := hide hv
      have HK := hide hk
      clear hr hf hv hk
      by_cases e38 : kindR ts su = 38
      · rw [if_pos e38] at hl
        cases h2 : tm (goR ts su) with
        | none => rw [h2] at hl; cases hl
        | some p =>
          obtain ⟨st2, b⟩ := p
          rw [h2] at hl
          have HL2 := hide (show sumLp ts tm g st2 (plusO o b 1) = some r from hl)
          have HTM := hide h2
          have HE := hide e38
          clear hl h2 e38
          go_wp2_with (first
    | (go_at_call 211; refine (took_yes (unhide HR) (unhide HK) (unhide HT) 38 (unhide HE)).mono ?_; rintro e w2 ⟨rfl, O2, hr2, hf2⟩; replace HV := hide ((unhide HV).fr hf2 (Nat.le_refl _)); replace HR := hide hr2; replace HF := hide ((unhide HF).trans hf2); clear hr2 hf2))
          refine ((unhide HIH) _ _ _ _ _ (unhide HR) (goR_ok' (unhide HK) (unhide HT) (unhide HE) (by decide)) (unhide HTM)).mono ?_
          rintro e w3 ⟨v3, O3, rfl, hr3, hf3, hv3, hk3⟩
          replace HV := hide ((unhide HV).fr hf3 (Nat.le_refl _))
          have HV3 := hide (hv3.fr (Fr.refl _ _) (unhide HF).size)
          replace HR := hide hr3
          replace HF := hide ((unhide HF).trans hf3)
          have HK3 := hide hk3
          clear hr3 hf3 hv3 hk3
          go_wp2_with fail
          refine (plus_any _ _ _ _ _ 1 _ ((unhide HR).newFree (unhide HF)) (unhide HV) (unhide HV3)).mono ?_
          rintro e w4 ⟨v4, rfl, rfl, hv4⟩
          have HV4 := hide hv4
          clear hv4
          go_wp2_with fail
          go_roundg g
          case measure => omega
          case rel => exact ⟨st2, _, O3, (((unhide HR).alloc _).alloc _).alloc _, (((unhide HF).alloc _).alloc _).alloc _, unhide HV4, unhide HK3, unhide HL2⟩
      · rw [if_neg e38] at hl
        have N38 := hide e38
        by_cases e39 : kindR ts su = 39
        · rw [if_pos e39] at hl
          cases h2 : tm (goR ts su) with
          | none => rw [h2] at hl; cases hl
          | some p =>
          obtain ⟨st2, b⟩ := p
          rw [h2] at hl
          have HL2 := hide (show sumLp ts tm g st2 (plusO o b (-1)) = some r from hl)
          have HTM := hide h2
          have HE := hide e39
          clear hl h2 e38 e39
          go_wp2_with (first
    | (go_at_call 211; refine (took_no (unhide HR) (unhide HK) (unhide HT) 38 (unhide N38)).mono ?_; rintro e w2 ⟨rfl, hr2, hf2⟩; replace HV := hide ((unhide HV).fr hf2 (Nat.le_refl _)); replace HR := hide hr2; replace HF := hide ((unhide HF).trans hf2); clear hr2 hf2 N38)
    | (go_at_call 211; refine (took_yes (unhide HR) (unhide HK) (unhide HT) 39 (unhide HE)).mono ?_; rintro e w2 ⟨rfl, O2, hr2, hf2⟩; replace HV := hide ((unhide HV).fr hf2 (Nat.le_refl _)); replace HR := hide hr2; replace HF := hide ((unhide HF).trans hf2); clear hr2 hf2))
          refine ((unhide HIH) _ _ _ _ _ (unhide HR) (goR_ok' (unhide HK) (unhide HT) (unhide HE) (by decide)) (unhide HTM)).mono ?_
          rintro e w3 ⟨v3, O3, rfl, hr3, hf3, hv3, hk3⟩
          replace HV := hide ((unhide HV).fr hf3 (Nat.le_refl _))
          have HV3 := hide (hv3.fr (Fr.refl _ _) (unhide HF).size)
          replace HR := hide hr3
          replace HF := hide ((unhide HF).trans hf3)
          have HK3 := hide hk3
          clear hr3 hf3 hv3 hk3
          go_wp2_with fail
          refine (plus_any _ _ _ _ _ (-1) _ ((unhide HR).newFree (unhide HF)) (unhide HV) (unhide HV3)).mono ?_
          rintro e w4 ⟨v4, rfl, rfl, hv4⟩
          have HV4 := hide hv4
          clear hv4
          go_wp2_with fail
          go_roundg g
          case measure => omega
          case rel => exact ⟨st2, _, O3, (((unhide HR).alloc _).alloc _).alloc _, (((unhide HF).alloc _).alloc _).alloc _, unhide HV4, unhide HK3, unhide HL2⟩
        · rw [if_neg e39] at hl
          have N39 := hide e39
          cases hl
          clear e38 e39
          have hfv := (unhide HV).fnv
          rcases hfv with ⟨f1, f2, f3, rfl⟩ | rfl <;>
          · go_wp2_with (first
    | (go_at_call 211; refine (took_no (unhide HR) (unhide HK) (unhide HT) 38 (unhide N38)).mono ?_; rintro e w2 ⟨rfl, hr2, hf2⟩; replace HV := hide ((unhide HV).fr hf2 (Nat.le_refl _)); replace HR := hide hr2; replace HF := hide ((unhide HF).trans hf2); clear hr2 hf2 N38)
    | (go_at_call 211; refine (took_no (unhide HR) (unhide HK) (unhide HT) 39 (unhide N39)).mono ?_; rintro e w2 ⟨rfl, hr2, hf2⟩; replace HV := hide ((unhide HV).fr hf2 (Nat.le_refl _)); replace HR := hide hr2; replace HF := hide ((unhide HF).trans hf2); clear hr2 hf2 N39))
            go_ret
            exact ⟨_, _, rfl, unhide HR, unhide HF, unhide HV, unhide HK⟩

theorem term_said {pb : Nat} {ts : List TokP} (ht : TsOk ts) (n f : Nat) : TermSaid pb ts (termTw ts n f) := by
  induction f with
  | zero => intro w st D O r h hk hr; rw [termTw] at hr; cases hr
  | succ f ih =>
    intro w st D O r h hk hr
    rw [termTw] at hr
    by_cases e2 : kindR ts st = 2
    · rw [if_pos e2] at hr; cases hr; exact term_num ht h hk e2
    rw [if_neg e2] at hr
    by_cases e9 : kindR ts st = 9
    · rw [if_pos e9] at hr; cases hr; exact term_pref ht h hk e9
    rw [if_neg e9] at hr
    by_cases e10 : kindR ts st = 10
    · rw [if_pos e10] at hr; cases hr; exact term_med ht h hk e10
    rw [if_neg e10] at hr
    by_cases e17 : kindR ts st = 17
    · rw [if_pos e17] at hr; cases hr; exact term_len ht h hk e17
    rw [if_neg e17] at hr
    by_cases e33 : kindR ts st = 33
    · rw [if_pos e33] at hr
      cases h1 : sumBy ts (termTw ts n f) n (openR ts 33 st) with
      | none => rw [h1] at hr; cases hr
      | some p =>
        obtain ⟨st1, a⟩ := p
        rw [h1] at hr; cases hr
        exact term_paren ht (sum_said ht ih n) h hk e33 h1
    rw [if_neg e33] at hr; cases hr
    exact term_else ht h hk e2 e9 e10 e17 e33
theorem sumTw_said {pb : Nat} {ts : List TokP} (ht : TsOk ts) (n f : Nat) : SumSaid pb ts (sumTw ts n f) := sum_said ht (term_said ht n f) n
end Go.Proofs.YtgdeeodifnegiaaGreatDoor

namespace Go.Proofs.YtgdeeodifnegiaaGreatDoor
open Go.RowKit

/-- a call that gives a condition -/
def CndRes (pb : Nat) (ts : List TokP) (w : World) (D O : Nat → Prop) (r : RS × Option CndM) (e : Ending) (w' : World) : Prop :=
  ∃ v O', e = .returned v ∧ RA w' pb ts r.1 D O' ∧ Fr O w O' w' ∧ CndO w' (Free O' D w.heap.size) v r.2 ∧ Ok ts r.1
def CndSaid (fn : Nat) (pb : Nat) (ts : List TokP) (tw : RS → Option (RS × Option CndM)) : Prop := ∀ (w : World) (st : RS) (D O : Nat → Prop) (r : RS × Option CndM), RA w pb ts st D O → Ok ts st → tw st = some r → Calls Tryz.prog fn #[ptr4 pb 0] w (CndRes pb ts w D O r)

set_option maxRecDepth 100000 in
set_option maxHeartbeats 2000000 in
theorem compare_said {pb : Nat} {ts : List TokP} (ht : TsOk ts) {sum : RS → Option (RS × Option AmtM)} (IH : SumSaid pb ts sum) : CndSaid 378 pb ts (compareBy ts sum) := by
  intro w st D O r h hk hr
  unfold compareBy at hr
  cases h1 : sum st with
  | none => rw [h1] at hr; cases hr
  | some p =>
    obtain ⟨st1, a⟩ := p
    rw [h1] at hr
    have HT := hide ht
    have HIH := hide IH
    have H1 := hide (IH w st D O (st1, a) h hk h1)
    dsimp only at hr
    clear h hk h1 ht IH
    by_cases e40 : kindR ts st1 = 40
    · rw [if_pos e40] at hr
      cases h2 : sum (goR ts st1) with
      | none => rw [h2] at hr; cases hr
      | some p =>
        obtain ⟨st2, b⟩ := p
        rw [h2] at hr
        cases hr
        have HE := hide e40
        have HTM := hide h2
        clear e40 h2
        go_enter Tryz.func378, Tryz.ntmps378
        go_wp2_with fail
        refine (unhide H1).mono ?_
        rintro e w1 ⟨v, O1, rfl, hr1, hf1, hv1, hk1⟩
        have HR := hide hr1
        have HF := hide hf1
        have HV := hide hv1
        have HK := hide hk1
        clear hr1 hf1 hv1 hk1 H1
        go_wp2_with (go_at_call 211; refine (took_yes (unhide HR) (unhide HK) (unhide HT) 40 (unhide HE)).mono ?_; rintro e w2 ⟨rfl, O2, hr2, hf2⟩; replace HV := hide ((unhide HV).fr hf2 (Nat.le_refl _)); replace HR := hide hr2; replace HF := hide ((unhide HF).trans hf2); clear hr2 hf2)
        refine ((unhide HIH) _ _ _ _ _ (unhide HR) (goR_ok' (unhide HK) (unhide HT) (unhide HE) (by decide)) (unhide HTM)).mono ?_
        rintro e w3 ⟨v3, O3, rfl, hr3, hf3, hv3, hk3⟩
        replace HV := hide ((unhide HV).fr hf3 (Nat.le_refl _))
        have HV3 := hide (hv3.fr (Fr.refl _ _) (unhide HF).size)
        replace HR := hide hr3
        replace HF := hide ((unhide HF).trans hf3)
        have HK3 := hide hk3
        clear hr3 hf3 hv3 hk3
        go_wp2_with fail
        refine (less_any _ _ _ _ _ _ ((unhide HR).newFree (unhide HF)) (unhide HV) (unhide HV3)).mono ?_
        rintro e w4 ⟨v4, rfl, rfl, hv4⟩
        have HV4 := hide hv4
        clear hv4
        go_wp2_with fail
        go_ret
        exact ⟨_, _, rfl, ((unhide HR).alloc _).alloc _, ((unhide HF).alloc _).alloc _, unhide HV4, unhide HK3⟩
    · rw [if_neg e40] at hr
      cases h2 : sum (takeR ts 26 st1).1 with
      | none => rw [h2] at hr; cases hr
      | some p =>
        obtain ⟨st2, b⟩ := p
        rw [h2] at hr
        cases hr
        have HE := hide e40
        have HTM := hide h2
        clear e40 h2
        go_enter Tryz.func378, Tryz.ntmps378
        go_wp2_with fail
        refine (unhide H1).mono ?_
        rintro e w1 ⟨v, O1, rfl, hr1, hf1, hv1, hk1⟩
        have HR := hide hr1
        have HF := hide hf1
        have HV := hide hv1
        have HK := hide hk1
        clear hr1 hf1 hv1 hk1 H1
        go_wp2_with (first
          | (go_at_call 211; refine (took_no (unhide HR) (unhide HK) (unhide HT) 40 (unhide HE)).mono ?_; rintro e w2 ⟨rfl, hr2, hf2⟩; replace HV := hide ((unhide HV).fr hf2 (Nat.le_refl _)); replace HR := hide hr2; replace HF := hide ((unhide HF).trans hf2); clear hr2 hf2)
          | (go_at_call 213; refine (take_any (unhide HR) (unhide HK) (unhide HT) 26).mono ?_; rintro e w2 ⟨rfl, O2, hr2, hf2⟩; replace HV := hide ((unhide HV).fr hf2 (Nat.le_refl _)); replace HR := hide hr2; replace HF := hide ((unhide HF).trans hf2); clear hr2 hf2))
        refine ((unhide HIH) _ _ _ _ _ (unhide HR) (takeR_ok (unhide HK) (unhide HT) (by decide)) (unhide HTM)).mono ?_
        rintro e w3 ⟨v3, O3, rfl, hr3, hf3, hv3, hk3⟩
        replace HV := hide ((unhide HV).fr hf3 (Nat.le_refl _))
        have HV3 := hide (hv3.fr (Fr.refl _ _) (unhide HF).size)
        replace HR := hide hr3
        replace HF := hide ((unhide HF).trans hf3)
        have HK3 := hide hk3
        clear hr3 hf3 hv3 hk3
        go_wp2_with fail
        refine (equal_any _ _ _ _ _ _ ((unhide HR).newFree (unhide HF)) (unhide HV) (unhide HV3)).mono ?_
        rintro e w4 ⟨v4, rfl, rfl, hv4⟩
        have HV4 := hide hv4
        clear hv4
        go_wp2_with fail
        go_ret
        exact ⟨_, _, rfl, ((unhide HR).alloc _).alloc _, ((unhide HF).alloc _).alloc _, unhide HV4, unhide HK3⟩

set_option maxRecDepth 100000 in
set_option maxHeartbeats 2000000 in
theorem test_cmp {pb : Nat} {ts : List TokP} (ht : TsOk ts) {tw : RS → Option (RS × Option CndM)} (IH : CndSaid 378 pb ts tw) {w : World} {st : RS} {D O : Nat → Prop} {r : RS × Option CndM} (h : RA w pb ts st D O) (hk : Ok ts st) (hr : tw st = some r)
    (e21 : kindR ts st ≠ 21) (e23 : kindR ts st ≠ 23) (e25 : kindR ts st ≠ 25) (e31 : kindR ts st ≠ 31) : Calls Tryz.prog 358 #[ptr4 pb 0] w (CndRes pb ts w D O r) := by
  have HR := hide h
  have HF := hide (Fr.refl O w)
  have HK := hide hk
  have HT := hide ht
  have n21 := hide e21
  have n23 := hide e23
  have n25 := hide e25
  have b31 : (kindR ts st == 31) = false := by simpa using e31
  have HI := hide IH
  have HW := hide hr
  clear h hk ht e21 e23 e25 e31 IH hr
  go_enter Tryz.func358, Tryz.ntmps358
  go_wp2_with (first
    | (go_at_call 170; refine (kind_is (unhide HR) (unhide HK) (unhide HT) rfl).mono ?_; rintro e w1 ⟨rfl, hr1, hf1⟩; replace HR := hide hr1; replace HF := hide ((unhide HF).trans hf1); clear hr1 hf1)
    | (go_at_call 211; refine (took_no (unhide HR) (unhide HK) (unhide HT) 21 (unhide n21)).mono ?_; rintro e w1 ⟨rfl, hr1, hf1⟩; replace HR := hide hr1; replace HF := hide ((unhide HF).trans hf1); clear hr1 hf1 n21)
    | (go_at_call 211; refine (took_no (unhide HR) (unhide HK) (unhide HT) 23 (unhide n23)).mono ?_; rintro e w1 ⟨rfl, hr1, hf1⟩; replace HR := hide hr1; replace HF := hide ((unhide HF).trans hf1); clear hr1 hf1 n23)
    | (go_at_call 211; refine (took_no (unhide HR) (unhide HK) (unhide HT) 25 (unhide n25)).mono ?_; rintro e w1 ⟨rfl, hr1, hf1⟩; replace HR := hide hr1; replace HF := hide ((unhide HF).trans hf1); clear hr1 hf1 n25))
  refine ((unhide HI) _ _ _ _ _ (unhide HR) (unhide HK) (unhide HW)).mono ?_
  rintro e w2 ⟨v, O2, rfl, hr2, hf2, hv2, hk2⟩
  have HV := hide (hv2.fr (Fr.refl _ _) (unhide HF).size)
  have HK2 := hide hk2
  replace HR := hide hr2
  replace HF := hide ((unhide HF).trans hf2)
  clear hr2 hf2 hv2 hk2
  go_wp2_with fail
  go_ret
  exact ⟨_, _, rfl, unhide HR, unhide HF, unhide HV, unhide HK2⟩
set_option maxRecDepth 100000 in
set_option maxHeartbeats 2000000 in
theorem not_cmp {pb : Nat} {ts : List TokP} (ht : TsOk ts) {sum : RS → Option (RS × Option AmtM)} (IH : SumSaid pb ts sum) : CndSaid 339 pb ts (notC ts sum) := by
  intro w st D O r h hk hr
  unfold notC at hr
  by_cases hc : kindR ts st = 20 ∨ kindR ts st = 21 ∨ kindR ts st = 23 ∨ kindR ts st = 25 ∨ kindR ts st = 31
  · rw [if_pos hc] at hr; cases hr
  rw [if_neg hc] at hr
  have HTS := hide (fun W (hW : RA W pb ts st D O) => test_cmp ht (compare_said ht IH) hW hk hr (fun h => hc (by simp [h])) (fun h => hc (by simp [h])) (fun h => hc (by simp [h])) (fun h => hc (by simp [h])))
  have HR := hide h
  have HF := hide (Fr.refl O w)
  have HK := hide hk
  have HT := hide ht
  have b20 : (kindR ts st != 20) = true := by simp; exact fun h => hc (Or.inl h)
  clear h hk ht hr hc IH
  go_enter Tryz.func339, Tryz.ntmps339
  go_wp2_with (go_at_call 170; refine (kind_is (unhide HR) (unhide HK) (unhide HT) rfl).mono ?_; rintro e w1 ⟨rfl, hr1, hf1⟩; replace HR := hide hr1; replace HF := hide ((unhide HF).trans hf1); clear hr1 hf1)
  refine ((unhide HTS) _ (unhide HR)).mono ?_
  rintro e w2 ⟨v, O2, rfl, hr2, hf2, hv2, hk2⟩
  have HV := hide (hv2.fr (Fr.refl _ _) (unhide HF).size)
  have HK2 := hide hk2
  replace HR := hide hr2
  replace HF := hide ((unhide HF).trans hf2)
  clear hr2 hf2 hv2 hk2
  go_wp2_with fail
  go_ret
  exact ⟨_, _, rfl, unhide HR, unhide HF, unhide HV, unhide HK2⟩
end Go.Proofs.YtgdeeodifnegiaaGreatDoor
