/- The program's reader: statement, each way; the whole policy. -/
import Derived.Test.YtlhhdklendeikaaGreatDoorRdrM
namespace Go.Proofs.YtlhhdklendeikaaGreatDoor
open Go.RowKit

/-- a maker of statements out of a number -/
def MkSaid (fn : Nat) (m : Int → StpM) : Prop := ∀ (w : World) (n : Int) (A : Nat → Prop), (∀ k, w.heap.size ≤ k → A k) → Calls Tryz.prog fn #[.int .i64 n] w fun e w' => ∃ v, e = .returned v ∧ w' = w.alloc (box1 (.int .i64 n) 3) ∧ StpO w' A v (some (m n))
set_option maxRecDepth 100000 in
set_option maxHeartbeats 2000000 in
theorem stmt_accept {pb : Nat} {ts : List TokP} (ht : TsOk ts) {w : World} {st : RS} {D O : Nat → Prop} (h : RA w pb ts st D O) (hk : Ok ts st) (e : kindR ts st = 7)  :
    Calls Tryz.prog 52 #[ptr4 pb 0] w (StmtRes pb ts w D O (endR ts (goR ts st), some (some (concludeM 1)))) := by
  have HR := hide h
  have HF := hide (Fr.refl O w)
  have HK := hide hk
  have HT := hide ht
  have OK := hide (goR_ok' hk ht e (by decide))
  have HE := hide e
  have n14 := hide (show kindR ts st ≠ 14 by rw [e]; decide)
  clear h hk ht e
  go_enter Tryz.func52, Tryz.ntmps52
  go_wp2_with (first
    | (go_at_call 67; refine (took_no (unhide HR) (unhide HK) (unhide HT) 14 (unhide n14)).mono ?_; rintro e w1 ⟨rfl, hr1, hf1⟩; replace HR := hide hr1; replace HF := hide ((unhide HF).trans hf1); clear hr1 hf1 n14)
    | (go_at_call 67; refine (took_yes (unhide HR) (unhide HK) (unhide HT) 7 (unhide HE)).mono ?_; rintro e w1 ⟨rfl, O1, hr1, hf1⟩; replace HR := hide hr1; replace HF := hide ((unhide HF).trans hf1); clear hr1 hf1)
    | (go_at_call 74; refine (conclude_any _ 1 _ ((unhide HR).newFree (unhide HF))).mono ?_; rintro e w2 ⟨v, rfl, rfl, hv⟩; replace HR := hide ((unhide HR).alloc (box1 (.int .i64 1) 3)); replace HF := hide ((unhide HF).alloc (box1 (.int .i64 1) 3)); have HV := hide hv; clear hv))
  have hfv := (unhide HV).fnv
  have HK1 := OK
  rcases hfv with ⟨f1, f2, f3, rfl⟩ | rfl <;>
  · go_wp2_with ((go_at_call 69; refine (take_any (unhide HR) (unhide HK1) (unhide HT) 27).mono ?_; rintro e w1 ⟨rfl, O1, hr1, hf1⟩; replace HR := hide hr1; replace HV := hide ((unhide HV).fr hf1 (Nat.le_refl _)); replace HF := hide ((unhide HF).trans hf1); clear hr1 hf1))
    go_ret2
    refine ⟨_, _, rfl, unhide HR, unhide HF, (unhide HV).fnv, fun o ho => ?_, takeR_ok (unhide HK1) (unhide HT) (by decide)⟩
    cases ho; exact unhide HV
set_option maxRecDepth 100000 in
set_option maxHeartbeats 2000000 in
theorem stmt_reject {pb : Nat} {ts : List TokP} (ht : TsOk ts) {w : World} {st : RS} {D O : Nat → Prop} (h : RA w pb ts st D O) (hk : Ok ts st) (e : kindR ts st = 8)  :
    Calls Tryz.prog 52 #[ptr4 pb 0] w (StmtRes pb ts w D O (endR ts (goR ts st), some (some (concludeM 2)))) := by
  have HR := hide h
  have HF := hide (Fr.refl O w)
  have HK := hide hk
  have HT := hide ht
  have OK := hide (goR_ok' hk ht e (by decide))
  have HE := hide e
  have n14 := hide (show kindR ts st ≠ 14 by rw [e]; decide)
  have n7 := hide (show kindR ts st ≠ 7 by rw [e]; decide)
  clear h hk ht e
  go_enter Tryz.func52, Tryz.ntmps52
  go_wp2_with (first
    | (go_at_call 67; refine (took_no (unhide HR) (unhide HK) (unhide HT) 14 (unhide n14)).mono ?_; rintro e w1 ⟨rfl, hr1, hf1⟩; replace HR := hide hr1; replace HF := hide ((unhide HF).trans hf1); clear hr1 hf1 n14)
    | (go_at_call 67; refine (took_no (unhide HR) (unhide HK) (unhide HT) 7 (unhide n7)).mono ?_; rintro e w1 ⟨rfl, hr1, hf1⟩; replace HR := hide hr1; replace HF := hide ((unhide HF).trans hf1); clear hr1 hf1 n7)
    | (go_at_call 67; refine (took_yes (unhide HR) (unhide HK) (unhide HT) 8 (unhide HE)).mono ?_; rintro e w1 ⟨rfl, O1, hr1, hf1⟩; replace HR := hide hr1; replace HF := hide ((unhide HF).trans hf1); clear hr1 hf1)
    | (go_at_call 74; refine (conclude_any _ 2 _ ((unhide HR).newFree (unhide HF))).mono ?_; rintro e w2 ⟨v, rfl, rfl, hv⟩; replace HR := hide ((unhide HR).alloc (box1 (.int .i64 2) 3)); replace HF := hide ((unhide HF).alloc (box1 (.int .i64 2) 3)); have HV := hide hv; clear hv))
  have hfv := (unhide HV).fnv
  have HK1 := OK
  rcases hfv with ⟨f1, f2, f3, rfl⟩ | rfl <;>
  · go_wp2_with ((go_at_call 69; refine (take_any (unhide HR) (unhide HK1) (unhide HT) 27).mono ?_; rintro e w1 ⟨rfl, O1, hr1, hf1⟩; replace HR := hide hr1; replace HV := hide ((unhide HV).fr hf1 (Nat.le_refl _)); replace HF := hide ((unhide HF).trans hf1); clear hr1 hf1))
    go_ret2
    refine ⟨_, _, rfl, unhide HR, unhide HF, (unhide HV).fnv, fun o ho => ?_, takeR_ok (unhide HK1) (unhide HT) (by decide)⟩
    cases ho; exact unhide HV
set_option maxRecDepth 100000 in
set_option maxHeartbeats 2000000 in
theorem stmt_pref {pb : Nat} {ts : List TokP} (ht : TsOk ts) {w : World} {st : RS} {D O : Nat → Prop} (h : RA w pb ts st D O) (hk : Ok ts st) (e : kindR ts st = 9) {sum : RS → Option (RS × Option AmtM)} (IH : SumSaid pb ts sum) {s1 : RS} {a : Option AmtM} (hs : sum (takeR ts 26 (goR ts st)).1 = some (s1, a)) :
    Calls Tryz.prog 52 #[ptr4 pb 0] w (StmtRes pb ts w D O (endR ts s1, some (a.map setPrefM))) := by
  have HR := hide h
  have HF := hide (Fr.refl O w)
  have HK := hide hk
  have HT := hide ht
  have OK := hide (goR_ok' hk ht e (by decide))
  have HE := hide e
  have n14 := hide (show kindR ts st ≠ 14 by rw [e]; decide)
  have n7 := hide (show kindR ts st ≠ 7 by rw [e]; decide)
  have n8 := hide (show kindR ts st ≠ 8 by rw [e]; decide)
  have HI := hide IH
  have HS := hide hs
  clear h hk ht IH hs e
  go_enter Tryz.func52, Tryz.ntmps52
  go_wp2_with (first
    | (go_at_call 67; refine (took_no (unhide HR) (unhide HK) (unhide HT) 14 (unhide n14)).mono ?_; rintro e w1 ⟨rfl, hr1, hf1⟩; replace HR := hide hr1; replace HF := hide ((unhide HF).trans hf1); clear hr1 hf1 n14)
    | (go_at_call 67; refine (took_no (unhide HR) (unhide HK) (unhide HT) 7 (unhide n7)).mono ?_; rintro e w1 ⟨rfl, hr1, hf1⟩; replace HR := hide hr1; replace HF := hide ((unhide HF).trans hf1); clear hr1 hf1 n7)
    | (go_at_call 67; refine (took_no (unhide HR) (unhide HK) (unhide HT) 8 (unhide n8)).mono ?_; rintro e w1 ⟨rfl, hr1, hf1⟩; replace HR := hide hr1; replace HF := hide ((unhide HF).trans hf1); clear hr1 hf1 n8)
    | (go_at_call 67; refine (took_yes (unhide HR) (unhide HK) (unhide HT) 9 (unhide HE)).mono ?_; rintro e w1 ⟨rfl, O1, hr1, hf1⟩; replace HR := hide hr1; replace HF := hide ((unhide HF).trans hf1); clear hr1 hf1))
  refine (newValue_any (unhide HT) (unhide HI) (unhide HR) (unhide OK) (unhide HS)).mono ?_
  rintro e w2 ⟨v, O2, rfl, hr2, hf2, hv2, hk2⟩
  have HV0 := hide (hv2.fr (Fr.refl _ _) (unhide HF).size)
  have HK1 := hide hk2
  replace HR := hide hr2
  replace HF := hide ((unhide HF).trans hf2)
  clear hr2 hf2 hv2 hk2
  go_wp2_with fail
  refine (assignPref_any _ _ _ _ ((unhide HR).newFree (unhide HF)) (unhide HV0)).mono ?_
  rintro e w2 ⟨v2, rfl, rfl, hv⟩
  replace HR := hide (((unhide HR).alloc (box1 v 123)).alloc (box1 (.func (.func 77) #[] #[]) 125))
  replace HF := hide (((unhide HF).alloc (box1 v 123)).alloc (box1 (.func (.func 77) #[] #[]) 125))
  have HV := hide hv
  have hfv := hv.fnv
  clear hv
  rcases hfv with ⟨f1, f2, f3, rfl⟩ | rfl <;>
  · go_wp2_with ((go_at_call 69; refine (take_any (unhide HR) (unhide HK1) (unhide HT) 27).mono ?_; rintro e w1 ⟨rfl, O1, hr1, hf1⟩; replace HR := hide hr1; replace HV := hide ((unhide HV).fr hf1 (Nat.le_refl _)); replace HF := hide ((unhide HF).trans hf1); clear hr1 hf1))
    go_ret2
    refine ⟨_, _, rfl, unhide HR, unhide HF, (unhide HV).fnv, fun o ho => ?_, takeR_ok (unhide HK1) (unhide HT) (by decide)⟩
    cases ho; exact unhide HV
set_option maxRecDepth 100000 in
set_option maxHeartbeats 2000000 in
theorem stmt_med {pb : Nat} {ts : List TokP} (ht : TsOk ts) {w : World} {st : RS} {D O : Nat → Prop} (h : RA w pb ts st D O) (hk : Ok ts st) (e : kindR ts st = 10) {sum : RS → Option (RS × Option AmtM)} (IH : SumSaid pb ts sum) {s1 : RS} {a : Option AmtM} (hs : sum (takeR ts 26 (goR ts st)).1 = some (s1, a)) :
    Calls Tryz.prog 52 #[ptr4 pb 0] w (StmtRes pb ts w D O (endR ts s1, some (a.map setMedM))) := by
  have HR := hide h
  have HF := hide (Fr.refl O w)
  have HK := hide hk
  have HT := hide ht
  have OK := hide (goR_ok' hk ht e (by decide))
  have HE := hide e
  have n14 := hide (show kindR ts st ≠ 14 by rw [e]; decide)
  have n7 := hide (show kindR ts st ≠ 7 by rw [e]; decide)
  have n8 := hide (show kindR ts st ≠ 8 by rw [e]; decide)
  have n9 := hide (show kindR ts st ≠ 9 by rw [e]; decide)
  have HI := hide IH
  have HS := hide hs
  clear h hk ht IH hs e
  go_enter Tryz.func52, Tryz.ntmps52
  go_wp2_with (first
    | (go_at_call 67; refine (took_no (unhide HR) (unhide HK) (unhide HT) 14 (unhide n14)).mono ?_; rintro e w1 ⟨rfl, hr1, hf1⟩; replace HR := hide hr1; replace HF := hide ((unhide HF).trans hf1); clear hr1 hf1 n14)
    | (go_at_call 67; refine (took_no (unhide HR) (unhide HK) (unhide HT) 7 (unhide n7)).mono ?_; rintro e w1 ⟨rfl, hr1, hf1⟩; replace HR := hide hr1; replace HF := hide ((unhide HF).trans hf1); clear hr1 hf1 n7)
    | (go_at_call 67; refine (took_no (unhide HR) (unhide HK) (unhide HT) 8 (unhide n8)).mono ?_; rintro e w1 ⟨rfl, hr1, hf1⟩; replace HR := hide hr1; replace HF := hide ((unhide HF).trans hf1); clear hr1 hf1 n8)
    | (go_at_call 67; refine (took_no (unhide HR) (unhide HK) (unhide HT) 9 (unhide n9)).mono ?_; rintro e w1 ⟨rfl, hr1, hf1⟩; replace HR := hide hr1; replace HF := hide ((unhide HF).trans hf1); clear hr1 hf1 n9)
    | (go_at_call 67; refine (took_yes (unhide HR) (unhide HK) (unhide HT) 10 (unhide HE)).mono ?_; rintro e w1 ⟨rfl, O1, hr1, hf1⟩; replace HR := hide hr1; replace HF := hide ((unhide HF).trans hf1); clear hr1 hf1))
  refine (newValue_any (unhide HT) (unhide HI) (unhide HR) (unhide OK) (unhide HS)).mono ?_
  rintro e w2 ⟨v, O2, rfl, hr2, hf2, hv2, hk2⟩
  have HV0 := hide (hv2.fr (Fr.refl _ _) (unhide HF).size)
  have HK1 := hide hk2
  replace HR := hide hr2
  replace HF := hide ((unhide HF).trans hf2)
  clear hr2 hf2 hv2 hk2
  go_wp2_with fail
  refine (assignMed_any _ _ _ _ ((unhide HR).newFree (unhide HF)) (unhide HV0)).mono ?_
  rintro e w2 ⟨v2, rfl, rfl, hv⟩
  replace HR := hide (((unhide HR).alloc (box1 v 123)).alloc (box1 (.func (.func 78) #[] #[]) 125))
  replace HF := hide (((unhide HF).alloc (box1 v 123)).alloc (box1 (.func (.func 78) #[] #[]) 125))
  have HV := hide hv
  have hfv := hv.fnv
  clear hv
  rcases hfv with ⟨f1, f2, f3, rfl⟩ | rfl <;>
  · go_wp2_with ((go_at_call 69; refine (take_any (unhide HR) (unhide HK1) (unhide HT) 27).mono ?_; rintro e w1 ⟨rfl, O1, hr1, hf1⟩; replace HR := hide hr1; replace HV := hide ((unhide HV).fr hf1 (Nat.le_refl _)); replace HF := hide ((unhide HF).trans hf1); clear hr1 hf1))
    go_ret2
    refine ⟨_, _, rfl, unhide HR, unhide HF, (unhide HV).fnv, fun o ho => ?_, takeR_ok (unhide HK1) (unhide HT) (by decide)⟩
    cases ho; exact unhide HV
set_option maxRecDepth 100000 in
set_option maxHeartbeats 2000000 in
theorem stmt_mark {pb : Nat} {ts : List TokP} (ht : TsOk ts) {w : World} {st : RS} {D O : Nat → Prop} (h : RA w pb ts st D O) (hk : Ok ts st) (e : kindR ts st = 11) (HMK : MkSaid 79 markM) :
    Calls Tryz.prog 52 #[ptr4 pb 0] w (StmtRes pb ts w D O (endR ts (withinR ts 0 65535 (goR ts st)).1, some (some (markM (withinR ts 0 65535 (goR ts st)).2)))) := by
  have HR := hide h
  have HF := hide (Fr.refl O w)
  have HK := hide hk
  have HT := hide ht
  have OK := hide (goR_ok' hk ht e (by decide))
  have HE := hide e
  have n14 := hide (show kindR ts st ≠ 14 by rw [e]; decide)
  have n7 := hide (show kindR ts st ≠ 7 by rw [e]; decide)
  have n8 := hide (show kindR ts st ≠ 8 by rw [e]; decide)
  have n9 := hide (show kindR ts st ≠ 9 by rw [e]; decide)
  have n10 := hide (show kindR ts st ≠ 10 by rw [e]; decide)
  have HM := hide HMK
  clear h hk ht HMK e
  go_enter Tryz.func52, Tryz.ntmps52
  go_wp2_with (first
    | (go_at_call 67; refine (took_no (unhide HR) (unhide HK) (unhide HT) 14 (unhide n14)).mono ?_; rintro e w1 ⟨rfl, hr1, hf1⟩; replace HR := hide hr1; replace HF := hide ((unhide HF).trans hf1); clear hr1 hf1 n14)
    | (go_at_call 67; refine (took_no (unhide HR) (unhide HK) (unhide HT) 7 (unhide n7)).mono ?_; rintro e w1 ⟨rfl, hr1, hf1⟩; replace HR := hide hr1; replace HF := hide ((unhide HF).trans hf1); clear hr1 hf1 n7)
    | (go_at_call 67; refine (took_no (unhide HR) (unhide HK) (unhide HT) 8 (unhide n8)).mono ?_; rintro e w1 ⟨rfl, hr1, hf1⟩; replace HR := hide hr1; replace HF := hide ((unhide HF).trans hf1); clear hr1 hf1 n8)
    | (go_at_call 67; refine (took_no (unhide HR) (unhide HK) (unhide HT) 9 (unhide n9)).mono ?_; rintro e w1 ⟨rfl, hr1, hf1⟩; replace HR := hide hr1; replace HF := hide ((unhide HF).trans hf1); clear hr1 hf1 n9)
    | (go_at_call 67; refine (took_no (unhide HR) (unhide HK) (unhide HT) 10 (unhide n10)).mono ?_; rintro e w1 ⟨rfl, hr1, hf1⟩; replace HR := hide hr1; replace HF := hide ((unhide HF).trans hf1); clear hr1 hf1 n10)
    | (go_at_call 67; refine (took_yes (unhide HR) (unhide HK) (unhide HT) 11 (unhide HE)).mono ?_; rintro e w1 ⟨rfl, O1, hr1, hf1⟩; replace HR := hide hr1; replace HF := hide ((unhide HF).trans hf1); clear hr1 hf1)
    | (go_at_call 80; refine (mark_any (unhide HT) (unhide HR) (unhide OK)).mono ?_; rintro e w1 ⟨rfl, O1, hr1, hf1⟩; replace HR := hide hr1; replace HF := hide ((unhide HF).trans hf1); clear hr1 hf1)
    | (go_at_call 79; refine ((unhide HM) _ _ _ ((unhide HR).newFree (unhide HF))).mono ?_; rintro e w2 ⟨v, rfl, rfl, hv⟩; replace HR := hide ((unhide HR).alloc (box1 (.int .i64 (withinR ts 0 65535 (goR ts st)).2) 3)); replace HF := hide ((unhide HF).alloc (box1 (.int .i64 (withinR ts 0 65535 (goR ts st)).2) 3)); have HV := hide hv; clear hv))
  have hfv := (unhide HV).fnv
  have HK1 := hide (withinR_ok (a := 0) (b := 65535) (unhide OK) (unhide HT))
  rcases hfv with ⟨f1, f2, f3, rfl⟩ | rfl <;>
  · go_wp2_with ((go_at_call 69; refine (take_any (unhide HR) (unhide HK1) (unhide HT) 27).mono ?_; rintro e w1 ⟨rfl, O1, hr1, hf1⟩; replace HR := hide hr1; replace HV := hide ((unhide HV).fr hf1 (Nat.le_refl _)); replace HF := hide ((unhide HF).trans hf1); clear hr1 hf1))
    go_ret2
    refine ⟨_, _, rfl, unhide HR, unhide HF, (unhide HV).fnv, fun o ho => ?_, takeR_ok (unhide HK1) (unhide HT) (by decide)⟩
    cases ho; exact unhide HV
set_option maxRecDepth 100000 in
set_option maxHeartbeats 2000000 in
theorem stmt_unmark {pb : Nat} {ts : List TokP} (ht : TsOk ts) {w : World} {st : RS} {D O : Nat → Prop} (h : RA w pb ts st D O) (hk : Ok ts st) (e : kindR ts st = 12) (HMK : MkSaid 81 unmarkM) :
    Calls Tryz.prog 52 #[ptr4 pb 0] w (StmtRes pb ts w D O (endR ts (withinR ts 0 65535 (goR ts st)).1, some (some (unmarkM (withinR ts 0 65535 (goR ts st)).2)))) := by
  have HR := hide h
  have HF := hide (Fr.refl O w)
  have HK := hide hk
  have HT := hide ht
  have OK := hide (goR_ok' hk ht e (by decide))
  have HE := hide e
  have n14 := hide (show kindR ts st ≠ 14 by rw [e]; decide)
  have n7 := hide (show kindR ts st ≠ 7 by rw [e]; decide)
  have n8 := hide (show kindR ts st ≠ 8 by rw [e]; decide)
  have n9 := hide (show kindR ts st ≠ 9 by rw [e]; decide)
  have n10 := hide (show kindR ts st ≠ 10 by rw [e]; decide)
  have n11 := hide (show kindR ts st ≠ 11 by rw [e]; decide)
  have HM := hide HMK
  clear h hk ht HMK e
  go_enter Tryz.func52, Tryz.ntmps52
  go_wp2_with (first
    | (go_at_call 67; refine (took_no (unhide HR) (unhide HK) (unhide HT) 14 (unhide n14)).mono ?_; rintro e w1 ⟨rfl, hr1, hf1⟩; replace HR := hide hr1; replace HF := hide ((unhide HF).trans hf1); clear hr1 hf1 n14)
    | (go_at_call 67; refine (took_no (unhide HR) (unhide HK) (unhide HT) 7 (unhide n7)).mono ?_; rintro e w1 ⟨rfl, hr1, hf1⟩; replace HR := hide hr1; replace HF := hide ((unhide HF).trans hf1); clear hr1 hf1 n7)
    | (go_at_call 67; refine (took_no (unhide HR) (unhide HK) (unhide HT) 8 (unhide n8)).mono ?_; rintro e w1 ⟨rfl, hr1, hf1⟩; replace HR := hide hr1; replace HF := hide ((unhide HF).trans hf1); clear hr1 hf1 n8)
    | (go_at_call 67; refine (took_no (unhide HR) (unhide HK) (unhide HT) 9 (unhide n9)).mono ?_; rintro e w1 ⟨rfl, hr1, hf1⟩; replace HR := hide hr1; replace HF := hide ((unhide HF).trans hf1); clear hr1 hf1 n9)
    | (go_at_call 67; refine (took_no (unhide HR) (unhide HK) (unhide HT) 10 (unhide n10)).mono ?_; rintro e w1 ⟨rfl, hr1, hf1⟩; replace HR := hide hr1; replace HF := hide ((unhide HF).trans hf1); clear hr1 hf1 n10)
    | (go_at_call 67; refine (took_no (unhide HR) (unhide HK) (unhide HT) 11 (unhide n11)).mono ?_; rintro e w1 ⟨rfl, hr1, hf1⟩; replace HR := hide hr1; replace HF := hide ((unhide HF).trans hf1); clear hr1 hf1 n11)
    | (go_at_call 67; refine (took_yes (unhide HR) (unhide HK) (unhide HT) 12 (unhide HE)).mono ?_; rintro e w1 ⟨rfl, O1, hr1, hf1⟩; replace HR := hide hr1; replace HF := hide ((unhide HF).trans hf1); clear hr1 hf1)
    | (go_at_call 80; refine (mark_any (unhide HT) (unhide HR) (unhide OK)).mono ?_; rintro e w1 ⟨rfl, O1, hr1, hf1⟩; replace HR := hide hr1; replace HF := hide ((unhide HF).trans hf1); clear hr1 hf1)
    | (go_at_call 81; refine ((unhide HM) _ _ _ ((unhide HR).newFree (unhide HF))).mono ?_; rintro e w2 ⟨v, rfl, rfl, hv⟩; replace HR := hide ((unhide HR).alloc (box1 (.int .i64 (withinR ts 0 65535 (goR ts st)).2) 3)); replace HF := hide ((unhide HF).alloc (box1 (.int .i64 (withinR ts 0 65535 (goR ts st)).2) 3)); have HV := hide hv; clear hv))
  have hfv := (unhide HV).fnv
  have HK1 := hide (withinR_ok (a := 0) (b := 65535) (unhide OK) (unhide HT))
  rcases hfv with ⟨f1, f2, f3, rfl⟩ | rfl <;>
  · go_wp2_with ((go_at_call 69; refine (take_any (unhide HR) (unhide HK1) (unhide HT) 27).mono ?_; rintro e w1 ⟨rfl, O1, hr1, hf1⟩; replace HR := hide hr1; replace HV := hide ((unhide HV).fr hf1 (Nat.le_refl _)); replace HF := hide ((unhide HF).trans hf1); clear hr1 hf1))
    go_ret2
    refine ⟨_, _, rfl, unhide HR, unhide HF, (unhide HV).fnv, fun o ho => ?_, takeR_ok (unhide HK1) (unhide HT) (by decide)⟩
    cases ho; exact unhide HV
set_option maxRecDepth 100000 in
set_option maxHeartbeats 2000000 in
theorem stmt_prepend {pb : Nat} {ts : List TokP} (ht : TsOk ts) {w : World} {st : RS} {D O : Nat → Prop} (h : RA w pb ts st D O) (hk : Ok ts st) (e : kindR ts st = 13) (HMK : MkSaid 82 prependM) :
    Calls Tryz.prog 52 #[ptr4 pb 0] w (StmtRes pb ts w D O (endR ts (withinR ts 1 65535 (goR ts st)).1, some (some (prependM (withinR ts 1 65535 (goR ts st)).2)))) := by
  have HR := hide h
  have HF := hide (Fr.refl O w)
  have HK := hide hk
  have HT := hide ht
  have OK := hide (goR_ok' hk ht e (by decide))
  have HE := hide e
  have n14 := hide (show kindR ts st ≠ 14 by rw [e]; decide)
  have n7 := hide (show kindR ts st ≠ 7 by rw [e]; decide)
  have n8 := hide (show kindR ts st ≠ 8 by rw [e]; decide)
  have n9 := hide (show kindR ts st ≠ 9 by rw [e]; decide)
  have n10 := hide (show kindR ts st ≠ 10 by rw [e]; decide)
  have n11 := hide (show kindR ts st ≠ 11 by rw [e]; decide)
  have n12 := hide (show kindR ts st ≠ 12 by rw [e]; decide)
  have HM := hide HMK
  clear h hk ht HMK e
  go_enter Tryz.func52, Tryz.ntmps52
  go_wp2_with (first
    | (go_at_call 67; refine (took_no (unhide HR) (unhide HK) (unhide HT) 14 (unhide n14)).mono ?_; rintro e w1 ⟨rfl, hr1, hf1⟩; replace HR := hide hr1; replace HF := hide ((unhide HF).trans hf1); clear hr1 hf1 n14)
    | (go_at_call 67; refine (took_no (unhide HR) (unhide HK) (unhide HT) 7 (unhide n7)).mono ?_; rintro e w1 ⟨rfl, hr1, hf1⟩; replace HR := hide hr1; replace HF := hide ((unhide HF).trans hf1); clear hr1 hf1 n7)
    | (go_at_call 67; refine (took_no (unhide HR) (unhide HK) (unhide HT) 8 (unhide n8)).mono ?_; rintro e w1 ⟨rfl, hr1, hf1⟩; replace HR := hide hr1; replace HF := hide ((unhide HF).trans hf1); clear hr1 hf1 n8)
    | (go_at_call 67; refine (took_no (unhide HR) (unhide HK) (unhide HT) 9 (unhide n9)).mono ?_; rintro e w1 ⟨rfl, hr1, hf1⟩; replace HR := hide hr1; replace HF := hide ((unhide HF).trans hf1); clear hr1 hf1 n9)
    | (go_at_call 67; refine (took_no (unhide HR) (unhide HK) (unhide HT) 10 (unhide n10)).mono ?_; rintro e w1 ⟨rfl, hr1, hf1⟩; replace HR := hide hr1; replace HF := hide ((unhide HF).trans hf1); clear hr1 hf1 n10)
    | (go_at_call 67; refine (took_no (unhide HR) (unhide HK) (unhide HT) 11 (unhide n11)).mono ?_; rintro e w1 ⟨rfl, hr1, hf1⟩; replace HR := hide hr1; replace HF := hide ((unhide HF).trans hf1); clear hr1 hf1 n11)
    | (go_at_call 67; refine (took_no (unhide HR) (unhide HK) (unhide HT) 12 (unhide n12)).mono ?_; rintro e w1 ⟨rfl, hr1, hf1⟩; replace HR := hide hr1; replace HF := hide ((unhide HF).trans hf1); clear hr1 hf1 n12)
    | (go_at_call 67; refine (took_yes (unhide HR) (unhide HK) (unhide HT) 13 (unhide HE)).mono ?_; rintro e w1 ⟨rfl, O1, hr1, hf1⟩; replace HR := hide hr1; replace HF := hide ((unhide HF).trans hf1); clear hr1 hf1)
    | (go_at_call 83; refine (system_any (unhide HT) (unhide HR) (unhide OK)).mono ?_; rintro e w1 ⟨rfl, O1, hr1, hf1⟩; replace HR := hide hr1; replace HF := hide ((unhide HF).trans hf1); clear hr1 hf1)
    | (go_at_call 82; refine ((unhide HM) _ _ _ ((unhide HR).newFree (unhide HF))).mono ?_; rintro e w2 ⟨v, rfl, rfl, hv⟩; replace HR := hide ((unhide HR).alloc (box1 (.int .i64 (withinR ts 1 65535 (goR ts st)).2) 3)); replace HF := hide ((unhide HF).alloc (box1 (.int .i64 (withinR ts 1 65535 (goR ts st)).2) 3)); have HV := hide hv; clear hv))
  have hfv := (unhide HV).fnv
  have HK1 := hide (withinR_ok (a := 1) (b := 65535) (unhide OK) (unhide HT))
  rcases hfv with ⟨f1, f2, f3, rfl⟩ | rfl <;>
  · go_wp2_with ((go_at_call 69; refine (take_any (unhide HR) (unhide HK1) (unhide HT) 27).mono ?_; rintro e w1 ⟨rfl, O1, hr1, hf1⟩; replace HR := hide hr1; replace HV := hide ((unhide HV).fr hf1 (Nat.le_refl _)); replace HF := hide ((unhide HF).trans hf1); clear hr1 hf1))
    go_ret2
    refine ⟨_, _, rfl, unhide HR, unhide HF, (unhide HV).fnv, fun o ho => ?_, takeR_ok (unhide HK1) (unhide HT) (by decide)⟩
    cases ho; exact unhide HV
set_option maxRecDepth 100000 in
set_option maxHeartbeats 2000000 in
theorem stmt_if {pb : Nat} {ts : List TokP} (ht : TsOk ts) {w : World} {st : RS} {D O : Nat → Prop} (h : RA w pb ts st D O) (hk : Ok ts st) (e : kindR ts st = 14) {r : RS × Option StpM} (HC : ∀ (W : World) (O1 : Nat → Prop), RA W pb ts (goR ts st) D O1 → Calls Tryz.prog 73 #[ptr4 pb 0] W (StpRes1 pb ts W D O1 r)) :
    Calls Tryz.prog 52 #[ptr4 pb 0] w (StmtRes pb ts w D O (r.1, some r.2)) := by
  have HR := hide h
  have HF := hide (Fr.refl O w)
  have HK := hide hk
  have HT := hide ht
  have OK := hide (goR_ok' hk ht e (by decide))
  have HE := hide e
  have HCH := hide HC
  clear h hk ht HC e
  go_enter Tryz.func52, Tryz.ntmps52
  go_wp2_with ((go_at_call 67; refine (took_yes (unhide HR) (unhide HK) (unhide HT) 14 (unhide HE)).mono ?_; rintro e w1 ⟨rfl, O1, hr1, hf1⟩; replace HR := hide hr1; replace HF := hide ((unhide HF).trans hf1); clear hr1 hf1))
  refine ((unhide HCH) _ _ (unhide HR)).mono ?_
  rintro e w2 ⟨v, O2, rfl, hr2, hf2, hv2, hk2⟩
  have HV := hide (hv2.fr (Fr.refl _ _) (unhide HF).size)
  have HK1 := hide hk2
  have hfv := hv2.fnv
  replace HR := hide hr2
  replace HF := hide ((unhide HF).trans hf2)
  clear hr2 hf2 hv2 hk2
  rcases hfv with ⟨f1, f2, f3, rfl⟩ | rfl <;>
  · go_wp2_with fail
    go_ret2
    refine ⟨_, _, rfl, unhide HR, unhide HF, (unhide HV).fnv, fun o ho => ?_, unhide HK1⟩
    cases ho; exact unhide HV
set_option maxRecDepth 100000 in
set_option maxHeartbeats 2000000 in
theorem stmt_none {pb : Nat} {ts : List TokP} (ht : TsOk ts) {w : World} {st : RS} {D O : Nat → Prop} (h : RA w pb ts st D O) (hk : Ok ts st) (e14 : kindR ts st ≠ 14) (e7 : kindR ts st ≠ 7) (e8 : kindR ts st ≠ 8) (e9 : kindR ts st ≠ 9) (e10 : kindR ts st ≠ 10) (e11 : kindR ts st ≠ 11) (e12 : kindR ts st ≠ 12) (e13 : kindR ts st ≠ 13)  :
    Calls Tryz.prog 52 #[ptr4 pb 0] w (StmtRes pb ts w D O (st, none)) := by
  have HR := hide h
  have HF := hide (Fr.refl O w)
  have HK := hide hk
  have HT := hide ht
  have n14 := hide e14
  have n7 := hide e7
  have n8 := hide e8
  have n9 := hide e9
  have n10 := hide e10
  have n11 := hide e11
  have n12 := hide e12
  have n13 := hide e13
  clear h hk ht e14 e7 e8 e9 e10 e11 e12 e13
  go_enter Tryz.func52, Tryz.ntmps52
  go_wp2_with (first
    | (go_at_call 67; refine (took_no (unhide HR) (unhide HK) (unhide HT) 14 (unhide n14)).mono ?_; rintro e w1 ⟨rfl, hr1, hf1⟩; replace HR := hide hr1; replace HF := hide ((unhide HF).trans hf1); clear hr1 hf1 n14)
    | (go_at_call 67; refine (took_no (unhide HR) (unhide HK) (unhide HT) 7 (unhide n7)).mono ?_; rintro e w1 ⟨rfl, hr1, hf1⟩; replace HR := hide hr1; replace HF := hide ((unhide HF).trans hf1); clear hr1 hf1 n7)
    | (go_at_call 67; refine (took_no (unhide HR) (unhide HK) (unhide HT) 8 (unhide n8)).mono ?_; rintro e w1 ⟨rfl, hr1, hf1⟩; replace HR := hide hr1; replace HF := hide ((unhide HF).trans hf1); clear hr1 hf1 n8)
    | (go_at_call 67; refine (took_no (unhide HR) (unhide HK) (unhide HT) 9 (unhide n9)).mono ?_; rintro e w1 ⟨rfl, hr1, hf1⟩; replace HR := hide hr1; replace HF := hide ((unhide HF).trans hf1); clear hr1 hf1 n9)
    | (go_at_call 67; refine (took_no (unhide HR) (unhide HK) (unhide HT) 10 (unhide n10)).mono ?_; rintro e w1 ⟨rfl, hr1, hf1⟩; replace HR := hide hr1; replace HF := hide ((unhide HF).trans hf1); clear hr1 hf1 n10)
    | (go_at_call 67; refine (took_no (unhide HR) (unhide HK) (unhide HT) 11 (unhide n11)).mono ?_; rintro e w1 ⟨rfl, hr1, hf1⟩; replace HR := hide hr1; replace HF := hide ((unhide HF).trans hf1); clear hr1 hf1 n11)
    | (go_at_call 67; refine (took_no (unhide HR) (unhide HK) (unhide HT) 12 (unhide n12)).mono ?_; rintro e w1 ⟨rfl, hr1, hf1⟩; replace HR := hide hr1; replace HF := hide ((unhide HF).trans hf1); clear hr1 hf1 n12)
    | (go_at_call 67; refine (took_no (unhide HR) (unhide HK) (unhide HT) 13 (unhide n13)).mono ?_; rintro e w1 ⟨rfl, hr1, hf1⟩; replace HR := hide hr1; replace HF := hide ((unhide HF).trans hf1); clear hr1 hf1 n13))
  go_ret2
  exact ⟨_, _, rfl, unhide HR, unhide HF, Or.inr rfl, (fun o ho => by cases ho), unhide HK⟩

theorem stmt_said {pb : Nat} {ts : List TokP} (ht : TsOk ts) (n : Nat) (hn : n ≤ 1000) (ok : Int → Bool) (h11 : ok 11 = true → MkSaid 79 markM) (h12 : ok 12 = true → MkSaid 81 unmarkM) (h13 : ok 13 = true → MkSaid 82 prependM)
    {sum : RS → Option (RS × Option AmtM)} (IS : SumSaid pb ts sum) {cnd : RS → Option (RS × Option CndM)} (IC : CndSaid 101 pb ts cnd) (f : Nat) : StmtSaid pb ts (stmtTw ts n ok sum cnd f) := by
  induction f with
  | zero => intro w st D O r h hk hr; rw [stmtTw] at hr; cases hr
  | succ f ih =>
    intro w st D O r h hk hr
    rw [stmtTw] at hr
    by_cases hok : ok (kindR ts st) = false
    · rw [if_pos hok] at hr; cases hr
    rw [if_neg hok] at hr
    have IB := block_said ht ih n hn
    by_cases e14 : kindR ts st = 14
    · rw [if_pos e14] at hr
      have OK := goR_ok' hk ht e14 (by decide)
      cases hc : cnd (goR ts st) with
      | none => rw [hc] at hr; cases hr
      | some p =>
        obtain ⟨s1, c⟩ := p
        rw [hc] at hr
        dsimp only at hr
        cases hb : blockBy ts (stmtTw ts n ok sum cnd f) n (takeR ts 15 s1).1 with
        | none => rw [hb] at hr; cases hr
        | some q =>
          obtain ⟨s2, yes⟩ := q
          rw [hb] at hr
          dsimp only at hr
          by_cases e16 : kindR ts s2 = 16
          · rw [if_pos e16] at hr
            cases hb2 : blockBy ts (stmtTw ts n ok sum cnd f) n (goR ts s2) with
            | none => rw [hb2] at hr; cases hr
            | some q2 =>
              obtain ⟨s3, no⟩ := q2
              rw [hb2] at hr
              cases hr
              exact stmt_if ht h hk e14 (fun W O1 hW => choice_two ht IC IB hW OK hc hb e16 hb2)
          · rw [if_neg e16] at hr
            cases hr
            exact stmt_if ht h hk e14 (fun W O1 hW => choice_one ht IC IB hW OK hc hb e16)
    rw [if_neg e14] at hr
    by_cases e7 : kindR ts st = 7
    · rw [if_pos e7] at hr; cases hr; exact stmt_accept ht h hk e7
    rw [if_neg e7] at hr
    by_cases e8 : kindR ts st = 8
    · rw [if_pos e8] at hr; cases hr; exact stmt_reject ht h hk e8
    rw [if_neg e8] at hr
    by_cases e9 : kindR ts st = 9
    · rw [if_pos e9] at hr
      cases hs : sum (takeR ts 26 (goR ts st)).1 with
      | none => rw [hs] at hr; cases hr
      | some p =>
        obtain ⟨s1, a⟩ := p
        rw [hs] at hr; cases hr
        exact stmt_pref ht h hk e9 IS hs
    rw [if_neg e9] at hr
    by_cases e10 : kindR ts st = 10
    · rw [if_pos e10] at hr
      cases hs : sum (takeR ts 26 (goR ts st)).1 with
      | none => rw [hs] at hr; cases hr
      | some p =>
        obtain ⟨s1, a⟩ := p
        rw [hs] at hr; cases hr
        exact stmt_med ht h hk e10 IS hs
    rw [if_neg e10] at hr
    by_cases e11 : kindR ts st = 11
    · rw [if_pos e11] at hr; cases hr; exact stmt_mark ht h hk e11 (h11 (by rw [e11] at hok; simpa using hok))
    rw [if_neg e11] at hr
    by_cases e12 : kindR ts st = 12
    · rw [if_pos e12] at hr; cases hr; exact stmt_unmark ht h hk e12 (h12 (by rw [e12] at hok; simpa using hok))
    rw [if_neg e12] at hr
    by_cases e13 : kindR ts st = 13
    · rw [if_pos e13] at hr; cases hr; exact stmt_prepend ht h hk e13 (h13 (by rw [e13] at hok; simpa using hok))
    rw [if_neg e13] at hr
    cases hr
    exact stmt_none ht h hk e14 e7 e8 e9 e10 e11 e12 e13
end Go.Proofs.YtlhhdklendeikaaGreatDoor
