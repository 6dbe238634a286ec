/- The program's reader: statement, each way; the whole policy. -/
import Derived.Test.YtgdeeodifnegiaaGreatDoorRdrM
import Derived.Shelf.RegionOpenPlain
import Derived.Lib.UnsafeStr
namespace Go.Proofs.YtgdeeodifnegiaaGreatDoor
open Go.RowKit

/-- a maker of statements out of a number -/
def MkSaid (fn : Nat) (m : Int → StpM) : Prop := ∀ (w : World) (n : Int) (A : Nat → Prop), (∀ k, w.heap.size ≤ k → A k) → Calls Tryz.prog fn #[.int .i64 n] w fun e w' => ∃ v, e = .returned v ∧ w' = w.alloc (box1 (.int .i64 n) 3) ∧ StpO w' A v (some (m n))
set_option maxRecDepth 100000 in
set_option maxHeartbeats 2000000 in
theorem stmt_accept {pb : Nat} {ts : List TokP} (ht : TsOk ts) {w : World} {st : RS} {D O : Nat → Prop} (h : RA w pb ts st D O) (hk : Ok ts st) (e : kindR ts st = 7)  :
    Calls Tryz.prog 169 #[ptr4 pb 0] w (StmtRes pb ts w D O (endR ts (goR ts st), some (some (concludeM 1)))) := by
  have HR := hide h
  have HF := hide (Fr.refl O w)
  have HK := hide hk
  have HT := hide ht
  have OK := hide (goR_ok' hk ht e (by decide))
  have HE := hide e
  have n14 := hide (show kindR ts st ≠ 14 by rw [e]; decide)
  clear h hk ht e
  go_enter Tryz.func169, Tryz.ntmps169
  go_wp2_with (first
    | (go_at_call 211; refine (took_no (unhide HR) (unhide HK) (unhide HT) 14 (unhide n14)).mono ?_; rintro e w1 ⟨rfl, hr1, hf1⟩; replace HR := hide hr1; replace HF := hide ((unhide HF).trans hf1); clear hr1 hf1 n14)
    | (go_at_call 211; refine (took_yes (unhide HR) (unhide HK) (unhide HT) 7 (unhide HE)).mono ?_; rintro e w1 ⟨rfl, O1, hr1, hf1⟩; replace HR := hide hr1; replace HF := hide ((unhide HF).trans hf1); clear hr1 hf1)
    | (go_at_call 218; refine (conclude_any _ 1 _ ((unhide HR).newFree (unhide HF))).mono ?_; rintro e w2 ⟨v, rfl, rfl, hv⟩; replace HR := hide ((unhide HR).alloc (box1 (.int .i64 1) 3)); replace HF := hide ((unhide HF).alloc (box1 (.int .i64 1) 3)); have HV := hide hv; clear hv))
  have hfv := (unhide HV).fnv
  have HK1 := OK
  rcases hfv with ⟨f1, f2, f3, rfl⟩ | rfl <;>
  · go_wp2_with ((go_at_call 213; refine (take_any (unhide HR) (unhide HK1) (unhide HT) 27).mono ?_; rintro e w1 ⟨rfl, O1, hr1, hf1⟩; replace HR := hide hr1; replace HV := hide ((unhide HV).fr hf1 (Nat.le_refl _)); replace HF := hide ((unhide HF).trans hf1); clear hr1 hf1))
    go_ret2
    refine ⟨_, _, rfl, unhide HR, unhide HF, (unhide HV).fnv, fun o ho => ?_, takeR_ok (unhide HK1) (unhide HT) (by decide)⟩
    cases ho; exact unhide HV
set_option maxRecDepth 100000 in
set_option maxHeartbeats 2000000 in
theorem stmt_reject {pb : Nat} {ts : List TokP} (ht : TsOk ts) {w : World} {st : RS} {D O : Nat → Prop} (h : RA w pb ts st D O) (hk : Ok ts st) (e : kindR ts st = 8)  :
    Calls Tryz.prog 169 #[ptr4 pb 0] w (StmtRes pb ts w D O (endR ts (goR ts st), some (some (concludeM 2)))) := by
  have HR := hide h
  have HF := hide (Fr.refl O w)
  have HK := hide hk
  have HT := hide ht
  have OK := hide (goR_ok' hk ht e (by decide))
  have HE := hide e
  have n14 := hide (show kindR ts st ≠ 14 by rw [e]; decide)
  have n7 := hide (show kindR ts st ≠ 7 by rw [e]; decide)
  clear h hk ht e
  go_enter Tryz.func169, Tryz.ntmps169
  go_wp2_with (first
    | (go_at_call 211; refine (took_no (unhide HR) (unhide HK) (unhide HT) 14 (unhide n14)).mono ?_; rintro e w1 ⟨rfl, hr1, hf1⟩; replace HR := hide hr1; replace HF := hide ((unhide HF).trans hf1); clear hr1 hf1 n14)
    | (go_at_call 211; refine (took_no (unhide HR) (unhide HK) (unhide HT) 7 (unhide n7)).mono ?_; rintro e w1 ⟨rfl, hr1, hf1⟩; replace HR := hide hr1; replace HF := hide ((unhide HF).trans hf1); clear hr1 hf1 n7)
    | (go_at_call 211; refine (took_yes (unhide HR) (unhide HK) (unhide HT) 8 (unhide HE)).mono ?_; rintro e w1 ⟨rfl, O1, hr1, hf1⟩; replace HR := hide hr1; replace HF := hide ((unhide HF).trans hf1); clear hr1 hf1)
    | (go_at_call 218; refine (conclude_any _ 2 _ ((unhide HR).newFree (unhide HF))).mono ?_; rintro e w2 ⟨v, rfl, rfl, hv⟩; replace HR := hide ((unhide HR).alloc (box1 (.int .i64 2) 3)); replace HF := hide ((unhide HF).alloc (box1 (.int .i64 2) 3)); have HV := hide hv; clear hv))
  have hfv := (unhide HV).fnv
  have HK1 := OK
  rcases hfv with ⟨f1, f2, f3, rfl⟩ | rfl <;>
  · go_wp2_with ((go_at_call 213; refine (take_any (unhide HR) (unhide HK1) (unhide HT) 27).mono ?_; rintro e w1 ⟨rfl, O1, hr1, hf1⟩; replace HR := hide hr1; replace HV := hide ((unhide HV).fr hf1 (Nat.le_refl _)); replace HF := hide ((unhide HF).trans hf1); clear hr1 hf1))
    go_ret2
    refine ⟨_, _, rfl, unhide HR, unhide HF, (unhide HV).fnv, fun o ho => ?_, takeR_ok (unhide HK1) (unhide HT) (by decide)⟩
    cases ho; exact unhide HV
set_option maxRecDepth 100000 in
set_option maxHeartbeats 2000000 in
theorem stmt_pref {pb : Nat} {ts : List TokP} (ht : TsOk ts) {w : World} {st : RS} {D O : Nat → Prop} (h : RA w pb ts st D O) (hk : Ok ts st) (e : kindR ts st = 9) {sum : RS → Option (RS × Option AmtM)} (IH : SumSaid pb ts sum) {s1 : RS} {a : Option AmtM} (hs : sum (takeR ts 26 (goR ts st)).1 = some (s1, a)) :
    Calls Tryz.prog 169 #[ptr4 pb 0] w (StmtRes pb ts w D O (endR ts s1, some (a.map setPrefM))) := by
  have HR := hide h
  have HF := hide (Fr.refl O w)
  have HK := hide hk
  have HT := hide ht
  have OK := hide (goR_ok' hk ht e (by decide))
  have HE := hide e
  have n14 := hide (show kindR ts st ≠ 14 by rw [e]; decide)
  have n7 := hide (show kindR ts st ≠ 7 by rw [e]; decide)
  have n8 := hide (show kindR ts st ≠ 8 by rw [e]; decide)
  have HI := hide IH
  have HS := hide hs
  clear h hk ht IH hs e
  go_enter Tryz.func169, Tryz.ntmps169
  go_wp2_with (first
    | (go_at_call 211; refine (took_no (unhide HR) (unhide HK) (unhide HT) 14 (unhide n14)).mono ?_; rintro e w1 ⟨rfl, hr1, hf1⟩; replace HR := hide hr1; replace HF := hide ((unhide HF).trans hf1); clear hr1 hf1 n14)
    | (go_at_call 211; refine (took_no (unhide HR) (unhide HK) (unhide HT) 7 (unhide n7)).mono ?_; rintro e w1 ⟨rfl, hr1, hf1⟩; replace HR := hide hr1; replace HF := hide ((unhide HF).trans hf1); clear hr1 hf1 n7)
    | (go_at_call 211; refine (took_no (unhide HR) (unhide HK) (unhide HT) 8 (unhide n8)).mono ?_; rintro e w1 ⟨rfl, hr1, hf1⟩; replace HR := hide hr1; replace HF := hide ((unhide HF).trans hf1); clear hr1 hf1 n8)
    | (go_at_call 211; refine (took_yes (unhide HR) (unhide HK) (unhide HT) 9 (unhide HE)).mono ?_; rintro e w1 ⟨rfl, O1, hr1, hf1⟩; replace HR := hide hr1; replace HF := hide ((unhide HF).trans hf1); clear hr1 hf1))
  refine (newValue_any (unhide HT) (unhide HI) (unhide HR) (unhide OK) (unhide HS)).mono ?_
  rintro e w2 ⟨v, O2, rfl, hr2, hf2, hv2, hk2⟩
  have HV0 := hide (hv2.fr (Fr.refl _ _) (unhide HF).size)
  have HK1 := hide hk2
  replace HR := hide hr2
  replace HF := hide ((unhide HF).trans hf2)
  clear hr2 hf2 hv2 hk2
  go_wp2_with fail
  refine (assignPref_any _ _ _ _ ((unhide HR).newFree (unhide HF)) (unhide HV0)).mono ?_
  rintro e w2 ⟨v2, rfl, rfl, hv⟩
  replace HR := hide (((unhide HR).alloc (box1 v 317)).alloc (box1 (.func (.func 221) #[] #[]) 319))
  replace HF := hide (((unhide HF).alloc (box1 v 317)).alloc (box1 (.func (.func 221) #[] #[]) 319))
  have HV := hide hv
  have hfv := hv.fnv
  clear hv
  rcases hfv with ⟨f1, f2, f3, rfl⟩ | rfl <;>
  · go_wp2_with ((go_at_call 213; refine (take_any (unhide HR) (unhide HK1) (unhide HT) 27).mono ?_; rintro e w1 ⟨rfl, O1, hr1, hf1⟩; replace HR := hide hr1; replace HV := hide ((unhide HV).fr hf1 (Nat.le_refl _)); replace HF := hide ((unhide HF).trans hf1); clear hr1 hf1))
    go_ret2
    refine ⟨_, _, rfl, unhide HR, unhide HF, (unhide HV).fnv, fun o ho => ?_, takeR_ok (unhide HK1) (unhide HT) (by decide)⟩
    cases ho; exact unhide HV
set_option maxRecDepth 100000 in
set_option maxHeartbeats 2000000 in
theorem stmt_med {pb : Nat} {ts : List TokP} (ht : TsOk ts) {w : World} {st : RS} {D O : Nat → Prop} (h : RA w pb ts st D O) (hk : Ok ts st) (e : kindR ts st = 10) {sum : RS → Option (RS × Option AmtM)} (IH : SumSaid pb ts sum) {s1 : RS} {a : Option AmtM} (hs : sum (takeR ts 26 (goR ts st)).1 = some (s1, a)) :
    Calls Tryz.prog 169 #[ptr4 pb 0] w (StmtRes pb ts w D O (endR ts s1, some (a.map setMedM))) := by
  have HR := hide h
  have HF := hide (Fr.refl O w)
  have HK := hide hk
  have HT := hide ht
  have OK := hide (goR_ok' hk ht e (by decide))
  have HE := hide e
  have n14 := hide (show kindR ts st ≠ 14 by rw [e]; decide)
  have n7 := hide (show kindR ts st ≠ 7 by rw [e]; decide)
  have n8 := hide (show kindR ts st ≠ 8 by rw [e]; decide)
  have n9 := hide (show kindR ts st ≠ 9 by rw [e]; decide)
  have HI := hide IH
  have HS := hide hs
  clear h hk ht IH hs e
  go_enter Tryz.func169, Tryz.ntmps169
  go_wp2_with (first
    | (go_at_call 211; refine (took_no (unhide HR) (unhide HK) (unhide HT) 14 (unhide n14)).mono ?_; rintro e w1 ⟨rfl, hr1, hf1⟩; replace HR := hide hr1; replace HF := hide ((unhide HF).trans hf1); clear hr1 hf1 n14)
    | (go_at_call 211; refine (took_no (unhide HR) (unhide HK) (unhide HT) 7 (unhide n7)).mono ?_; rintro e w1 ⟨rfl, hr1, hf1⟩; replace HR := hide hr1; replace HF := hide ((unhide HF).trans hf1); clear hr1 hf1 n7)
    | (go_at_call 211; refine (took_no (unhide HR) (unhide HK) (unhide HT) 8 (unhide n8)).mono ?_; rintro e w1 ⟨rfl, hr1, hf1⟩; replace HR := hide hr1; replace HF := hide ((unhide HF).trans hf1); clear hr1 hf1 n8)
    | (go_at_call 211; refine (took_no (unhide HR) (unhide HK) (unhide HT) 9 (unhide n9)).mono ?_; rintro e w1 ⟨rfl, hr1, hf1⟩; replace HR := hide hr1; replace HF := hide ((unhide HF).trans hf1); clear hr1 hf1 n9)
    | (go_at_call 211; refine (took_yes (unhide HR) (unhide HK) (unhide HT) 10 (unhide HE)).mono ?_; rintro e w1 ⟨rfl, O1, hr1, hf1⟩; replace HR := hide hr1; replace HF := hide ((unhide HF).trans hf1); clear hr1 hf1))
  refine (newValue_any (unhide HT) (unhide HI) (unhide HR) (unhide OK) (unhide HS)).mono ?_
  rintro e w2 ⟨v, O2, rfl, hr2, hf2, hv2, hk2⟩
  have HV0 := hide (hv2.fr (Fr.refl _ _) (unhide HF).size)
  have HK1 := hide hk2
  replace HR := hide hr2
  replace HF := hide ((unhide HF).trans hf2)
  clear hr2 hf2 hv2 hk2
  go_wp2_with fail
  refine (assignMed_any _ _ _ _ ((unhide HR).newFree (unhide HF)) (unhide HV0)).mono ?_
  rintro e w2 ⟨v2, rfl, rfl, hv⟩
  replace HR := hide (((unhide HR).alloc (box1 v 317)).alloc (box1 (.func (.func 222) #[] #[]) 319))
  replace HF := hide (((unhide HF).alloc (box1 v 317)).alloc (box1 (.func (.func 222) #[] #[]) 319))
  have HV := hide hv
  have hfv := hv.fnv
  clear hv
  rcases hfv with ⟨f1, f2, f3, rfl⟩ | rfl <;>
  · go_wp2_with ((go_at_call 213; refine (take_any (unhide HR) (unhide HK1) (unhide HT) 27).mono ?_; rintro e w1 ⟨rfl, O1, hr1, hf1⟩; replace HR := hide hr1; replace HV := hide ((unhide HV).fr hf1 (Nat.le_refl _)); replace HF := hide ((unhide HF).trans hf1); clear hr1 hf1))
    go_ret2
    refine ⟨_, _, rfl, unhide HR, unhide HF, (unhide HV).fnv, fun o ho => ?_, takeR_ok (unhide HK1) (unhide HT) (by decide)⟩
    cases ho; exact unhide HV
set_option maxRecDepth 100000 in
set_option maxHeartbeats 2000000 in
theorem stmt_mark {pb : Nat} {ts : List TokP} (ht : TsOk ts) {w : World} {st : RS} {D O : Nat → Prop} (h : RA w pb ts st D O) (hk : Ok ts st) (e : kindR ts st = 11) (HMK : MkSaid 223 markM) :
    Calls Tryz.prog 169 #[ptr4 pb 0] w (StmtRes pb ts w D O (endR ts (withinR ts 0 65535 (goR ts st)).1, some (some (markM (withinR ts 0 65535 (goR ts st)).2)))) := by
  have HR := hide h
  have HF := hide (Fr.refl O w)
  have HK := hide hk
  have HT := hide ht
  have OK := hide (goR_ok' hk ht e (by decide))
  have HE := hide e
  have n14 := hide (show kindR ts st ≠ 14 by rw [e]; decide)
  have n7 := hide (show kindR ts st ≠ 7 by rw [e]; decide)
  have n8 := hide (show kindR ts st ≠ 8 by rw [e]; decide)
  have n9 := hide (show kindR ts st ≠ 9 by rw [e]; decide)
  have n10 := hide (show kindR ts st ≠ 10 by rw [e]; decide)
  have HM := hide HMK
  clear h hk ht HMK e
  go_enter Tryz.func169, Tryz.ntmps169
  go_wp2_with (first
    | (go_at_call 211; refine (took_no (unhide HR) (unhide HK) (unhide HT) 14 (unhide n14)).mono ?_; rintro e w1 ⟨rfl, hr1, hf1⟩; replace HR := hide hr1; replace HF := hide ((unhide HF).trans hf1); clear hr1 hf1 n14)
    | (go_at_call 211; refine (took_no (unhide HR) (unhide HK) (unhide HT) 7 (unhide n7)).mono ?_; rintro e w1 ⟨rfl, hr1, hf1⟩; replace HR := hide hr1; replace HF := hide ((unhide HF).trans hf1); clear hr1 hf1 n7)
    | (go_at_call 211; refine (took_no (unhide HR) (unhide HK) (unhide HT) 8 (unhide n8)).mono ?_; rintro e w1 ⟨rfl, hr1, hf1⟩; replace HR := hide hr1; replace HF := hide ((unhide HF).trans hf1); clear hr1 hf1 n8)
    | (go_at_call 211; refine (took_no (unhide HR) (unhide HK) (unhide HT) 9 (unhide n9)).mono ?_; rintro e w1 ⟨rfl, hr1, hf1⟩; replace HR := hide hr1; replace HF := hide ((unhide HF).trans hf1); clear hr1 hf1 n9)
    | (go_at_call 211; refine (took_no (unhide HR) (unhide HK) (unhide HT) 10 (unhide n10)).mono ?_; rintro e w1 ⟨rfl, hr1, hf1⟩; replace HR := hide hr1; replace HF := hide ((unhide HF).trans hf1); clear hr1 hf1 n10)
    | (go_at_call 211; refine (took_yes (unhide HR) (unhide HK) (unhide HT) 11 (unhide HE)).mono ?_; rintro e w1 ⟨rfl, O1, hr1, hf1⟩; replace HR := hide hr1; replace HF := hide ((unhide HF).trans hf1); clear hr1 hf1)
    | (go_at_call 224; refine (mark_any (unhide HT) (unhide HR) (unhide OK)).mono ?_; rintro e w1 ⟨rfl, O1, hr1, hf1⟩; replace HR := hide hr1; replace HF := hide ((unhide HF).trans hf1); clear hr1 hf1)
    | (go_at_call 223; refine ((unhide HM) _ _ _ ((unhide HR).newFree (unhide HF))).mono ?_; rintro e w2 ⟨v, rfl, rfl, hv⟩; replace HR := hide ((unhide HR).alloc (box1 (.int .i64 (withinR ts 0 65535 (goR ts st)).2) 3)); replace HF := hide ((unhide HF).alloc (box1 (.int .i64 (withinR ts 0 65535 (goR ts st)).2) 3)); have HV := hide hv; clear hv))
  have hfv := (unhide HV).fnv
  have HK1 := hide (withinR_ok (a := 0) (b := 65535) (unhide OK) (unhide HT))
  rcases hfv with ⟨f1, f2, f3, rfl⟩ | rfl <;>
  · go_wp2_with ((go_at_call 213; refine (take_any (unhide HR) (unhide HK1) (unhide HT) 27).mono ?_; rintro e w1 ⟨rfl, O1, hr1, hf1⟩; replace HR := hide hr1; replace HV := hide ((unhide HV).fr hf1 (Nat.le_refl _)); replace HF := hide ((unhide HF).trans hf1); clear hr1 hf1))
    go_ret2
    refine ⟨_, _, rfl, unhide HR, unhide HF, (unhide HV).fnv, fun o ho => ?_, takeR_ok (unhide HK1) (unhide HT) (by decide)⟩
    cases ho; exact unhide HV
set_option maxRecDepth 100000 in
set_option maxHeartbeats 2000000 in
theorem stmt_unmark {pb : Nat} {ts : List TokP} (ht : TsOk ts) {w : World} {st : RS} {D O : Nat → Prop} (h : RA w pb ts st D O) (hk : Ok ts st) (e : kindR ts st = 12) (HMK : MkSaid 225 unmarkM) :
    Calls Tryz.prog 169 #[ptr4 pb 0] w (StmtRes pb ts w D O (endR ts (withinR ts 0 65535 (goR ts st)).1, some (some (unmarkM (withinR ts 0 65535 (goR ts st)).2)))) := by
  have HR := hide h
  have HF := hide (Fr.refl O w)
  have HK := hide hk
  have HT := hide ht
  have OK := hide (goR_ok' hk ht e (by decide))
  have HE := hide e
  have n14 := hide (show kindR ts st ≠ 14 by rw [e]; decide)
  have n7 := hide (show kindR ts st ≠ 7 by rw [e]; decide)
  have n8 := hide (show kindR ts st ≠ 8 by rw [e]; decide)
  have n9 := hide (show kindR ts st ≠ 9 by rw [e]; decide)
  have n10 := hide (show kindR ts st ≠ 10 by rw [e]; decide)
  have n11 := hide (show kindR ts st ≠ 11 by rw [e]; decide)
  have HM := hide HMK
  clear h hk ht HMK e
  go_enter Tryz.func169, Tryz.ntmps169
  go_wp2_with (first
    | (go_at_call 211; refine (took_no (unhide HR) (unhide HK) (unhide HT) 14 (unhide n14)).mono ?_; rintro e w1 ⟨rfl, hr1, hf1⟩; replace HR := hide hr1; replace HF := hide ((unhide HF).trans hf1); clear hr1 hf1 n14)
    | (go_at_call 211; refine (took_no (unhide HR) (unhide HK) (unhide HT) 7 (unhide n7)).mono ?_; rintro e w1 ⟨rfl, hr1, hf1⟩; replace HR := hide hr1; replace HF := hide ((unhide HF).trans hf1); clear hr1 hf1 n7)
    | (go_at_call 211; refine (took_no (unhide HR) (unhide HK) (unhide HT) 8 (unhide n8)).mono ?_; rintro e w1 ⟨rfl, hr1, hf1⟩; replace HR := hide hr1; replace HF := hide ((unhide HF).trans hf1); clear hr1 hf1 n8)
    | (go_at_call 211; refine (took_no (unhide HR) (unhide HK) (unhide HT) 9 (unhide n9)).mono ?_; rintro e w1 ⟨rfl, hr1, hf1⟩; replace HR := hide hr1; replace HF := hide ((unhide HF).trans hf1); clear hr1 hf1 n9)
    | (go_at_call 211; refine (took_no (unhide HR) (unhide HK) (unhide HT) 10 (unhide n10)).mono ?_; rintro e w1 ⟨rfl, hr1, hf1⟩; replace HR := hide hr1; replace HF := hide ((unhide HF).trans hf1); clear hr1 hf1 n10)
    | (go_at_call 211; refine (took_no (unhide HR) (unhide HK) (unhide HT) 11 (unhide n11)).mono ?_; rintro e w1 ⟨rfl, hr1, hf1⟩; replace HR := hide hr1; replace HF := hide ((unhide HF).trans hf1); clear hr1 hf1 n11)
    | (go_at_call 211; refine (took_yes (unhide HR) (unhide HK) (unhide HT) 12 (unhide HE)).mono ?_; rintro e w1 ⟨rfl, O1, hr1, hf1⟩; replace HR := hide hr1; replace HF := hide ((unhide HF).trans hf1); clear hr1 hf1)
    | (go_at_call 224; refine (mark_any (unhide HT) (unhide HR) (unhide OK)).mono ?_; rintro e w1 ⟨rfl, O1, hr1, hf1⟩; replace HR := hide hr1; replace HF := hide ((unhide HF).trans hf1); clear hr1 hf1)
    | (go_at_call 225; refine ((unhide HM) _ _ _ ((unhide HR).newFree (unhide HF))).mono ?_; rintro e w2 ⟨v, rfl, rfl, hv⟩; replace HR := hide ((unhide HR).alloc (box1 (.int .i64 (withinR ts 0 65535 (goR ts st)).2) 3)); replace HF := hide ((unhide HF).alloc (box1 (.int .i64 (withinR ts 0 65535 (goR ts st)).2) 3)); have HV := hide hv; clear hv))
  have hfv := (unhide HV).fnv
  have HK1 := hide (withinR_ok (a := 0) (b := 65535) (unhide OK) (unhide HT))
  rcases hfv with ⟨f1, f2, f3, rfl⟩ | rfl <;>
  · go_wp2_with ((go_at_call 213; refine (take_any (unhide HR) (unhide HK1) (unhide HT) 27).mono ?_; rintro e w1 ⟨rfl, O1, hr1, hf1⟩; replace HR := hide hr1; replace HV := hide ((unhide HV).fr hf1 (Nat.le_refl _)); replace HF := hide ((unhide HF).trans hf1); clear hr1 hf1))
    go_ret2
    refine ⟨_, _, rfl, unhide HR, unhide HF, (unhide HV).fnv, fun o ho => ?_, takeR_ok (unhide HK1) (unhide HT) (by decide)⟩
    cases ho; exact unhide HV
set_option maxRecDepth 100000 in
set_option maxHeartbeats 2000000 in
theorem stmt_prepend {pb : Nat} {ts : List TokP} (ht : TsOk ts) {w : World} {st : RS} {D O : Nat → Prop} (h : RA w pb ts st D O) (hk : Ok ts st) (e : kindR ts st = 13) (HMK : MkSaid 226 prependM) :
    Calls Tryz.prog 169 #[ptr4 pb 0] w (StmtRes pb ts w D O (endR ts (withinR ts 1 65535 (goR ts st)).1, some (some (prependM (withinR ts 1 65535 (goR ts st)).2)))) := by
  have HR := hide h
  have HF := hide (Fr.refl O w)
  have HK := hide hk
  have HT := hide ht
  have OK := hide (goR_ok' hk ht e (by decide))
  have HE := hide e
  have n14 := hide (show kindR ts st ≠ 14 by rw [e]; decide)
  have n7 := hide (show kindR ts st ≠ 7 by rw [e]; decide)
  have n8 := hide (show kindR ts st ≠ 8 by rw [e]; decide)
  have n9 := hide (show kindR ts st ≠ 9 by rw [e]; decide)
  have n10 := hide (show kindR ts st ≠ 10 by rw [e]; decide)
  have n11 := hide (show kindR ts st ≠ 11 by rw [e]; decide)
  have n12 := hide (show kindR ts st ≠ 12 by rw [e]; decide)
  have HM := hide HMK
  clear h hk ht HMK e
  go_enter Tryz.func169, Tryz.ntmps169
  go_wp2_with (first
    | (go_at_call 211; refine (took_no (unhide HR) (unhide HK) (unhide HT) 14 (unhide n14)).mono ?_; rintro e w1 ⟨rfl, hr1, hf1⟩; replace HR := hide hr1; replace HF := hide ((unhide HF).trans hf1); clear hr1 hf1 n14)
    | (go_at_call 211; refine (took_no (unhide HR) (unhide HK) (unhide HT) 7 (unhide n7)).mono ?_; rintro e w1 ⟨rfl, hr1, hf1⟩; replace HR := hide hr1; replace HF := hide ((unhide HF).trans hf1); clear hr1 hf1 n7)
    | (go_at_call 211; refine (took_no (unhide HR) (unhide HK) (unhide HT) 8 (unhide n8)).mono ?_; rintro e w1 ⟨rfl, hr1, hf1⟩; replace HR := hide hr1; replace HF := hide ((unhide HF).trans hf1); clear hr1 hf1 n8)
    | (go_at_call 211; refine (took_no (unhide HR) (unhide HK) (unhide HT) 9 (unhide n9)).mono ?_; rintro e w1 ⟨rfl, hr1, hf1⟩; replace HR := hide hr1; replace HF := hide ((unhide HF).trans hf1); clear hr1 hf1 n9)
    | (go_at_call 211; refine (took_no (unhide HR) (unhide HK) (unhide HT) 10 (unhide n10)).mono ?_; rintro e w1 ⟨rfl, hr1, hf1⟩; replace HR := hide hr1; replace HF := hide ((unhide HF).trans hf1); clear hr1 hf1 n10)
    | (go_at_call 211; refine (took_no (unhide HR) (unhide HK) (unhide HT) 11 (unhide n11)).mono ?_; rintro e w1 ⟨rfl, hr1, hf1⟩; replace HR := hide hr1; replace HF := hide ((unhide HF).trans hf1); clear hr1 hf1 n11)
    | (go_at_call 211; refine (took_no (unhide HR) (unhide HK) (unhide HT) 12 (unhide n12)).mono ?_; rintro e w1 ⟨rfl, hr1, hf1⟩; replace HR := hide hr1; replace HF := hide ((unhide HF).trans hf1); clear hr1 hf1 n12)
    | (go_at_call 211; refine (took_yes (unhide HR) (unhide HK) (unhide HT) 13 (unhide HE)).mono ?_; rintro e w1 ⟨rfl, O1, hr1, hf1⟩; replace HR := hide hr1; replace HF := hide ((unhide HF).trans hf1); clear hr1 hf1)
    | (go_at_call 227; refine (system_any (unhide HT) (unhide HR) (unhide OK)).mono ?_; rintro e w1 ⟨rfl, O1, hr1, hf1⟩; replace HR := hide hr1; replace HF := hide ((unhide HF).trans hf1); clear hr1 hf1)
    | (go_at_call 226; refine ((unhide HM) _ _ _ ((unhide HR).newFree (unhide HF))).mono ?_; rintro e w2 ⟨v, rfl, rfl, hv⟩; replace HR := hide ((unhide HR).alloc (box1 (.int .i64 (withinR ts 1 65535 (goR ts st)).2) 3)); replace HF := hide ((unhide HF).alloc (box1 (.int .i64 (withinR ts 1 65535 (goR ts st)).2) 3)); have HV := hide hv; clear hv))
  have hfv := (unhide HV).fnv
  have HK1 := hide (withinR_ok (a := 1) (b := 65535) (unhide OK) (unhide HT))
  rcases hfv with ⟨f1, f2, f3, rfl⟩ | rfl <;>
  · go_wp2_with ((go_at_call 213; refine (take_any (unhide HR) (unhide HK1) (unhide HT) 27).mono ?_; rintro e w1 ⟨rfl, O1, hr1, hf1⟩; replace HR := hide hr1; replace HV := hide ((unhide HV).fr hf1 (Nat.le_refl _)); replace HF := hide ((unhide HF).trans hf1); clear hr1 hf1))
    go_ret2
    refine ⟨_, _, rfl, unhide HR, unhide HF, (unhide HV).fnv, fun o ho => ?_, takeR_ok (unhide HK1) (unhide HT) (by decide)⟩
    cases ho; exact unhide HV
set_option maxRecDepth 100000 in
set_option maxHeartbeats 2000000 in
theorem stmt_if {pb : Nat} {ts : List TokP} (ht : TsOk ts) {w : World} {st : RS} {D O : Nat → Prop} (h : RA w pb ts st D O) (hk : Ok ts st) (e : kindR ts st = 14) {r : RS × Option StpM} (HC : ∀ (W : World) (O1 : Nat → Prop), RA W pb ts (goR ts st) D O1 → Calls Tryz.prog 217 #[ptr4 pb 0] W (StpRes1 pb ts W D O1 r)) :
    Calls Tryz.prog 169 #[ptr4 pb 0] w (StmtRes pb ts w D O (r.1, some r.2)) := by
  have HR := hide h
  have HF := hide (Fr.refl O w)
  have HK := hide hk
  have HT := hide ht
  have OK := hide (goR_ok' hk ht e (by decide))
  have HE := hide e
  have HCH := hide HC
  clear h hk ht HC e
  go_enter Tryz.func169, Tryz.ntmps169
  go_wp2_with ((go_at_call 211; refine (took_yes (unhide HR) (unhide HK) (unhide HT) 14 (unhide HE)).mono ?_; rintro e w1 ⟨rfl, O1, hr1, hf1⟩; replace HR := hide hr1; replace HF := hide ((unhide HF).trans hf1); clear hr1 hf1))
  refine ((unhide HCH) _ _ (unhide HR)).mono ?_
  rintro e w2 ⟨v, O2, rfl, hr2, hf2, hv2, hk2⟩
  have HV := hide (hv2.fr (Fr.refl _ _) (unhide HF).size)
  have HK1 := hide hk2
  have hfv := hv2.fnv
  replace HR := hide hr2
  replace HF := hide ((unhide HF).trans hf2)
  clear hr2 hf2 hv2 hk2
  rcases hfv with ⟨f1, f2, f3, rfl⟩ | rfl <;>
  · go_wp2_with fail
    go_ret2
    refine ⟨_, _, rfl, unhide HR, unhide HF, (unhide HV).fnv, fun o ho => ?_, unhide HK1⟩
    cases ho; exact unhide HV
set_option maxRecDepth 100000 in
set_option maxHeartbeats 2000000 in
theorem stmt_none {pb : Nat} {ts : List TokP} (ht : TsOk ts) {w : World} {st : RS} {D O : Nat → Prop} (h : RA w pb ts st D O) (hk : Ok ts st) (e14 : kindR ts st ≠ 14) (e7 : kindR ts st ≠ 7) (e8 : kindR ts st ≠ 8) (e9 : kindR ts st ≠ 9) (e10 : kindR ts st ≠ 10) (e11 : kindR ts st ≠ 11) (e12 : kindR ts st ≠ 12) (e13 : kindR ts st ≠ 13)  :
    Calls Tryz.prog 169 #[ptr4 pb 0] w (StmtRes pb ts w D O (st, none)) := by
  have HR := hide h
  have HF := hide (Fr.refl O w)
  have HK := hide hk
  have HT := hide ht
  have n14 := hide e14
  have n7 := hide e7
  have n8 := hide e8
  have n9 := hide e9
  have n10 := hide e10
  have n11 := hide e11
  have n12 := hide e12
  have n13 := hide e13
  clear h hk ht e14 e7 e8 e9 e10 e11 e12 e13
  go_enter Tryz.func169, Tryz.ntmps169
  go_wp2_with (first
    | (go_at_call 211; refine (took_no (unhide HR) (unhide HK) (unhide HT) 14 (unhide n14)).mono ?_; rintro e w1 ⟨rfl, hr1, hf1⟩; replace HR := hide hr1; replace HF := hide ((unhide HF).trans hf1); clear hr1 hf1 n14)
    | (go_at_call 211; refine (took_no (unhide HR) (unhide HK) (unhide HT) 7 (unhide n7)).mono ?_; rintro e w1 ⟨rfl, hr1, hf1⟩; replace HR := hide hr1; replace HF := hide ((unhide HF).trans hf1); clear hr1 hf1 n7)
    | (go_at_call 211; refine (took_no (unhide HR) (unhide HK) (unhide HT) 8 (unhide n8)).mono ?_; rintro e w1 ⟨rfl, hr1, hf1⟩; replace HR := hide hr1; replace HF := hide ((unhide HF).trans hf1); clear hr1 hf1 n8)
    | (go_at_call 211; refine (took_no (unhide HR) (unhide HK) (unhide HT) 9 (unhide n9)).mono ?_; rintro e w1 ⟨rfl, hr1, hf1⟩; replace HR := hide hr1; replace HF := hide ((unhide HF).trans hf1); clear hr1 hf1 n9)
    | (go_at_call 211; refine (took_no (unhide HR) (unhide HK) (unhide HT) 10 (unhide n10)).mono ?_; rintro e w1 ⟨rfl, hr1, hf1⟩; replace HR := hide hr1; replace HF := hide ((unhide HF).trans hf1); clear hr1 hf1 n10)
    | (go_at_call 211; refine (took_no (unhide HR) (unhide HK) (unhide HT) 11 (unhide n11)).mono ?_; rintro e w1 ⟨rfl, hr1, hf1⟩; replace HR := hide hr1; replace HF := hide ((unhide HF).trans hf1); clear hr1 hf1 n11)
    | (go_at_call 211; refine (took_no (unhide HR) (unhide HK) (unhide HT) 12 (unhide n12)).mono ?_; rintro e w1 ⟨rfl, hr1, hf1⟩; replace HR := hide hr1; replace HF := hide ((unhide HF).trans hf1); clear hr1 hf1 n12)
    | (go_at_call 211; refine (took_no (unhide HR) (unhide HK) (unhide HT) 13 (unhide n13)).mono ?_; rintro e w1 ⟨rfl, hr1, hf1⟩; replace HR := hide hr1; replace HF := hide ((unhide HF).trans hf1); clear hr1 hf1 n13))
  go_ret2
  exact ⟨_, _, rfl, unhide HR, unhide HF, Or.inr rfl, (fun o ho => by cases ho), unhide HK⟩

theorem stmt_said {pb : Nat} {ts : List TokP} (ht : TsOk ts) (n : Nat) (hn : n ≤ 1000) (ok : Int → Bool) (h11 : ok 11 = true → MkSaid 223 markM) (h12 : ok 12 = true → MkSaid 225 unmarkM) (h13 : ok 13 = true → MkSaid 226 prependM)
    {sum : RS → Option (RS × Option AmtM)} (IS : SumSaid pb ts sum) {cnd : RS → Option (RS × Option CndM)} (IC : CndSaid 266 pb ts cnd) (f : Nat) : StmtSaid pb ts (stmtTw ts n ok sum cnd f) := by
  induction f with
  | zero => intro w st D O r h hk hr; rw [stmtTw] at hr; cases hr
  | succ f ih =>
    intro w st D O r h hk hr
    rw [stmtTw] at hr
    by_cases hok : ok (kindR ts st) = false
    · rw [if_pos hok] at hr; cases hr
    rw [if_neg hok] at hr
    have IB := block_said ht ih n hn
    by_cases e14 : kindR ts st = 14
    · rw [if_pos e14] at hr
      have OK := goR_ok' hk ht e14 (by decide)
      cases hc : cnd (goR ts st) with
      | none => rw [hc] at hr; cases hr
      | some p =>
        obtain ⟨s1, c⟩ := p
        rw [hc] at hr
        dsimp only at hr
        cases hb : blockBy ts (stmtTw ts n ok sum cnd f) n (takeR ts 15 s1).1 with
        | none => rw [hb] at hr; cases hr
        | some q =>
          obtain ⟨s2, yes⟩ := q
          rw [hb] at hr
          dsimp only at hr
          by_cases e16 : kindR ts s2 = 16
          · rw [if_pos e16] at hr
            cases hb2 : blockBy ts (stmtTw ts n ok sum cnd f) n (goR ts s2) with
            | none => rw [hb2] at hr; cases hr
            | some q2 =>
              obtain ⟨s3, no⟩ := q2
              rw [hb2] at hr
              cases hr
              exact stmt_if ht h hk e14 (fun W O1 hW => choice_two ht IC IB hW OK hc hb e16 hb2)
          · rw [if_neg e16] at hr
            cases hr
            exact stmt_if ht h hk e14 (fun W O1 hW => choice_one ht IC IB hW OK hc hb e16)
    rw [if_neg e14] at hr
    by_cases e7 : kindR ts st = 7
    · rw [if_pos e7] at hr; cases hr; exact stmt_accept ht h hk e7
    rw [if_neg e7] at hr
    by_cases e8 : kindR ts st = 8
    · rw [if_pos e8] at hr; cases hr; exact stmt_reject ht h hk e8
    rw [if_neg e8] at hr
    by_cases e9 : kindR ts st = 9
    · rw [if_pos e9] at hr
      cases hs : sum (takeR ts 26 (goR ts st)).1 with
      | none => rw [hs] at hr; cases hr
      | some p =>
        obtain ⟨s1, a⟩ := p
        rw [hs] at hr; cases hr
        exact stmt_pref ht h hk e9 IS hs
    rw [if_neg e9] at hr
    by_cases e10 : kindR ts st = 10
    · rw [if_pos e10] at hr
      cases hs : sum (takeR ts 26 (goR ts st)).1 with
      | none => rw [hs] at hr; cases hr
      | some p =>
        obtain ⟨s1, a⟩ := p
        rw [hs] at hr; cases hr
        exact stmt_med ht h hk e10 IS hs
    rw [if_neg e10] at hr
    by_cases e11 : kindR ts st = 11
    · rw [if_pos e11] at hr; cases hr; exact stmt_mark ht h hk e11 (h11 (by rw [e11] at hok; simpa using hok))
    rw [if_neg e11] at hr
    by_cases e12 : kindR ts st = 12
    · rw [if_pos e12] at hr; cases hr; exact stmt_unmark ht h hk e12 (h12 (by rw [e12] at hok; simpa using hok))
    rw [if_neg e12] at hr
    by_cases e13 : kindR ts st = 13
    · rw [if_pos e13] at hr; cases hr; exact stmt_prepend ht h hk e13 (h13 (by rw [e13] at hok; simpa using hok))
    rw [if_neg e13] at hr
    cases hr
    exact stmt_none ht h hk e14 e7 e8 e9 e10 e11 e12 e13
end Go.Proofs.YtgdeeodifnegiaaGreatDoor

namespace Go.Proofs.YtgdeeodifnegiaaGreatDoor
open Go.RowKit

set_option maxRecDepth 100000 in
set_option maxHeartbeats 2000000 in
theorem one_said {pb : Nat} {ts : List TokP} (ht : TsOk ts) {tw : RS → Option (RS × Option (Option StpM))} (IH : StmtSaid pb ts tw) (n : Nat) (hn : n ≤ 1000) {w : World} {st s1 : RS} {l : List (Option StpM)} {D O : Nat → Prop} (h : RA w pb ts st D O) (hk : Ok ts st) (hr : moreLp tw n st [] = some (s1, l)) :
    Calls Tryz.prog 168 #[ptr4 pb 0, .func (.func 169) #[ptr4 pb 0] #[]] w (StepsRes pb ts w D O (if l.length = 0 then failR ts s1 else s1, l)) := by
  have HM := hide (more_said IH n hn h hk hr)
  have HT := hide ht
  clear h hk ht IH hr
  by_cases h0 : l.length = 0
  · rw [if_pos h0]
    have hb : (((l.length : Nat) : Int) == 0) = true := by simp [h0]
    go_enter Tryz.func168, Tryz.ntmps168
    go_wp2_with fail
    refine (unhide HM).mono ?_
    rintro e w2 ⟨v, O2, rfl, hr2, hf2, hs2, hk2, ⟨va, vc, rfl⟩, hl2⟩
    have HS := hide hs2
    have HK := hide hk2
    have HR := hide hr2
    have HF := hide hf2
    have hl3 : l.length ≤ 1000000 := hl2
    clear hr2 hf2 hs2 hk2 HM hl2
    dsimp only
    generalize hN : l.length = N at *
    subst h0
    go_wp2_with (go_at_call 171; refine (fail_any (unhide HR) (unhide HK).next (unhide HT).n1).mono ?_; rintro e w1 ⟨rfl, hr1, hf1⟩; replace HR := hide hr1; replace HS := hide ((unhide HS).fr hf1 (Nat.le_refl _)); replace HF := hide ((unhide HF).trans hf1); clear hr1 hf1)
    go_ret
    exact ⟨_, _, rfl, unhide HR, unhide HF, unhide HS, failR_ok (unhide HK), ⟨va, vc, by show Value.slice va _ vc = Value.slice va l.length vc; rw [hN]⟩, by show l.length ≤ _; omega⟩
  · rw [if_neg h0]
    have hb : (((l.length : Nat) : Int) == 0) = false := by simpa using h0
    go_enter Tryz.func168, Tryz.ntmps168
    go_wp2_with fail
    refine (unhide HM).mono ?_
    rintro e w2 ⟨v, O2, rfl, hr2, hf2, hs2, hk2, ⟨va, vc, rfl⟩, hl2⟩
    have HS := hide hs2
    have HK := hide hk2
    have HR := hide hr2
    have HF := hide hf2
    have hl3 : l.length ≤ 1000000 := hl2
    clear hr2 hf2 hs2 hk2 HM hl2
    dsimp only
    generalize hN : l.length = N at *
    go_wp2_with fail
    go_ret
    exact ⟨_, _, rfl, unhide HR, unhide HF, unhide HS, unhide HK, ⟨va, vc, by show Value.slice va _ vc = Value.slice va l.length vc; rw [hN]⟩, by show l.length ≤ _; omega⟩
set_option maxRecDepth 100000 in
set_option maxHeartbeats 2000000 in
theorem def_no {pb : Nat} {ts : List TokP} (ht : TsOk ts) {w : World} {st : RS} {D O : Nat → Prop} (h : RA w pb ts st D O) (hk : Ok ts st) (e5 : kindR ts st ≠ 5) (e6 : kindR ts st ≠ 6) :
    Calls Tryz.prog 167 #[ptr4 pb 0] w fun e w' => e = .returned (.bool false) ∧ RA w' pb ts st D O ∧ Fr O w O w' := by
  have HR := hide (h.alloc (.cells #[.string ⟨#[]⟩, .nilFunc, .nilFunc] 307))
  have HF := hide ((Fr.refl O w).alloc (.cells #[.string ⟨#[]⟩, .nilFunc, .nilFunc] 307))
  have HK := hide hk
  have HT := hide ht
  have n5 := hide e5
  have n6 := hide e6
  clear h hk ht e5 e6
  have hsn : ∀ (w : World) (a : Addr), (store a .nilFunc).run Tryz.prog w = stored Tryz.prog w a .nilFunc .plain := fun w a => run_store Tryz.prog w a .nilFunc .plain rfl
  go_enter Tryz.func167, Tryz.ntmps167
  go_wp2_with (first
    | (go_at_call 211; refine (took_no (unhide HR) (unhide HK) (unhide HT) 5 (unhide n5)).mono ?_; rintro e w1 ⟨rfl, hr1, hf1⟩; replace HR := hide hr1; replace HF := hide ((unhide HF).trans hf1); clear hr1 hf1 n5)
    | (go_at_call 211; refine (took_no (unhide HR) (unhide HK) (unhide HT) 6 (unhide n6)).mono ?_; rintro e w1 ⟨rfl, hr1, hf1⟩; replace HR := hide hr1; replace HF := hide ((unhide HF).trans hf1); clear hr1 hf1 n6))
  go_ret
  exact ⟨rfl, unhide HR, unhide HF⟩
/-- what the reader's policy gives, with definitions or without -/
def PolRes (pb : Nat) (ts : List TokP) (w : World) (O : Nat → Prop) (r : RS × List (Option StpM)) (e : Ending) (w' : World) : Prop :=
  ∃ v O' D', e = .returned v ∧ RA w' pb ts r.1 D' O' ∧ Fr O w O' w' ∧ StepsL w' (Free O' (fun _ => False) w.heap.size) v r.2 ∧ Ok ts r.1 ∧ (∃ a c, v = .slice a r.2.length c) ∧ r.2.length ≤ 1000000
set_option maxRecDepth 100000 in
set_option maxHeartbeats 2000000 in
theorem policy_said {pb : Nat} {ts : List TokP} (ht : TsOk ts) {tw : RS → Option (RS × Option (Option StpM))} (IH : StmtSaid pb ts tw) (n : Nat) (hn : n ≤ 1000) {w : World} {st : RS} {r : RS × List (Option StpM)} {D O : Nat → Prop} (h : RA w pb ts st D O) (hk : Ok ts st) (hr : policyTw ts n tw st = some r) (e5 : kindR ts st ≠ 5) (e6 : kindR ts st ≠ 6) :
    Calls Tryz.prog 110 #[ptr4 pb 0] w (StepsRes pb ts w D O r) := by
  unfold policyTw at hr
  cases h1 : moreLp tw n st [] with
  | none => rw [h1] at hr; cases hr
  | some p =>
    obtain ⟨s1, l⟩ := p
    rw [h1] at hr
    have hmf : ∀ (fn : Fn) (first cap : Array Value) (w : World), (Instr.makeFunc fn first cap).run Tryz.prog w = .ok (.func fn first cap) w := fun _ _ _ _ => rfl
    have HD := hide (def_no ht h hk e5 e6)
    have HO := hide (fun W (hW : RA W pb ts st D O) => one_said ht IH n hn hW hk h1)
    have HT := hide ht
    have hq : r = (if kindR ts (if l.length = 0 then failR ts s1 else s1) = 1 then (if l.length = 0 then failR ts s1 else s1) else failR ts (if l.length = 0 then failR ts s1 else s1), l) := (Option.some.inj hr).symm
    clear h hk ht IH h1 e5 e6 hr
    generalize (if l.length = 0 then failR ts s1 else s1) = s2 at *
    by_cases e1 : kindR ts s2 = 1
    · rw [if_pos e1] at hq
      have HQ := hide hq
      have HE := hide e1
      clear hq e1
      go_enter Tryz.func110, Tryz.ntmps110
      go_wp2_with fail
      go_loopg [3] 0 (fun k i wr => i = .int .i64 0 ∧ wr = w)
      case atStart => exact ⟨rfl, rfl⟩
      case round =>
        obtain ⟨rfl, rfl⟩ := hrel
        go_wp2_with (first
          | (go_at_call 167; refine (unhide HD).mono ?_; rintro e w1 ⟨rfl, hr1, hf1⟩; have HR := hide hr1; have HF := hide hf1; clear hr1 hf1))
        refine ((unhide HO) _ (unhide HR)).mono ?_
        rintro e w2 ⟨v, O2, rfl, hr2, hf2, hs2, hk2, ⟨va, vc, rfl⟩, hl2⟩
        have HS := hide (hs2.fr (Fr.refl _ _) (unhide HF).size)
        have HK := hide hk2
        have HL := hide hl2
        replace HR := hide hr2
        replace HF := hide ((unhide HF).trans hf2)
        clear hr2 hf2 hs2 hk2 hl2
        go_wp2_with (first
          | (go_at_call 170; refine (kind_is (unhide HR) (unhide HK) (unhide HT) (unhide HE)).mono ?_; rintro e w1 ⟨rfl, hr1, hf1⟩; replace HR := hide hr1; replace HS := hide ((unhide HS).fr hf1 (Nat.le_refl _)); replace HF := hide ((unhide HF).trans hf1); clear hr1 hf1)
          | fail)
        go_ret
        rw [unhide HQ]
        exact ⟨_, _, rfl, unhide HR, unhide HF, unhide HS, unhide HK, ⟨_, _, rfl⟩, unhide HL⟩
    · rw [if_neg e1] at hq
      have HQ := hide hq
      have b1 : (kindR ts s2 != 1) = true := by simpa using e1
      clear hq e1
      go_enter Tryz.func110, Tryz.ntmps110
      go_wp2_with fail
      go_loopg [3] 0 (fun k i wr => i = .int .i64 0 ∧ wr = w)
      case atStart => exact ⟨rfl, rfl⟩
      case round =>
        obtain ⟨rfl, rfl⟩ := hrel
        go_wp2_with (first
          | (go_at_call 167; refine (unhide HD).mono ?_; rintro e w1 ⟨rfl, hr1, hf1⟩; have HR := hide hr1; have HF := hide hf1; clear hr1 hf1))
        refine ((unhide HO) _ (unhide HR)).mono ?_
        rintro e w2 ⟨v, O2, rfl, hr2, hf2, hs2, hk2, ⟨va, vc, rfl⟩, hl2⟩
        have HS := hide (hs2.fr (Fr.refl _ _) (unhide HF).size)
        have HK := hide hk2
        have HL := hide hl2
        replace HR := hide hr2
        replace HF := hide ((unhide HF).trans hf2)
        clear hr2 hf2 hs2 hk2 hl2
        go_wp2_with (first
          | (go_at_call 170; refine (kind_is (unhide HR) (unhide HK) (unhide HT) rfl).mono ?_; rintro e w1 ⟨rfl, hr1, hf1⟩; replace HR := hide hr1; replace HS := hide ((unhide HS).fr hf1 (Nat.le_refl _)); replace HF := hide ((unhide HF).trans hf1); clear hr1 hf1)
          | (go_at_call 171; refine (fail_any (unhide HR) (unhide HK).next (unhide HT).n1).mono ?_; rintro e w1 ⟨rfl, hr1, hf1⟩; replace HR := hide hr1; replace HS := hide ((unhide HS).fr hf1 (Nat.le_refl _)); replace HF := hide ((unhide HF).trans hf1); clear hr1 hf1))
        go_ret
        rw [unhide HQ]
        exact ⟨_, _, rfl, unhide HR, unhide HF, unhide HS, failR_ok (unhide HK), ⟨_, _, rfl⟩, unhide HL⟩
end Go.Proofs.YtgdeeodifnegiaaGreatDoor

namespace Go.Proofs.YtgdeeodifnegiaaGreatDoor
open Go.RowKit

theorem freeze_other {w : World} {a : Addr} {n k : Nat} (h : k ≠ a.block) : (w.freeze a n).heap[k]? = w.heap[k]? := by
  unfold World.freeze
  split
  · rfl
  · simp [Array.getElem?_modify, Ne.symm h]
theorem freeze_rest (w : World) (a : Addr) (n : Nat) : (w.freeze a n).os = w.os ∧ (w.freeze a n).tape = w.tape ∧ (w.freeze a n).output = w.output ∧ (w.freeze a n).heap.size = w.heap.size := by
  unfold World.freeze
  split
  · exact ⟨rfl, rfl, rfl, rfl⟩
  · exact ⟨rfl, rfl, rfl, by simp⟩
theorem Fr.freeze {O O' : Nat → Prop} {w w' : World} (h : Fr O w O' w') {p : Addr} (hp : O' p.block ∨ w.heap.size ≤ p.block) (n : Nat) : Fr O w O' (w'.freeze p n) :=
  ⟨(freeze_rest w' p n).1.trans h.os, (freeze_rest w' p n).2.1.trans h.tape, (freeze_rest w' p n).2.2.1.trans h.output, by rw [(freeze_rest w' p n).2.2.2]; exact h.size,
   fun k hk hn => (freeze_other (fun e => by
     rcases hp with h1 | h1
     · rw [← e] at h1; rcases h.own k h1 with h2 | h2; exact hn h2; omega
     · omega)).trans (h.block k hk hn), h.own⟩
theorem Tryz.cellsByte : Tryz.prog.cellsOf 5 = 1 := by kernel_rfl
set_option maxRecDepth 100000 in
set_option maxHeartbeats 1000000 in
theorem string_any {w : World} {pb : Nat} {ts : List TokP} {st : RS} {D O : Nat → Prop} (h : RA w pb ts st D O) (h0 : st.page ≠ []) (hn : st.page.length ≤ 1000000) :
    Calls Tryz.prog 172 #[ptr4 pb 4] w fun e w' => e = .returned (.string ⟨st.page.toArray⟩) ∧ Fr O w O w' ∧ (∀ k, ¬ O k → w'.heap[k]? = w.heap[k]?) ∧ w'.heap[pb]? = w.heap[pb]? := by
  obtain ⟨tb, tc, dv, av, bv, h, rfl⟩ := h
  have hl0 : st.page.length ≠ 0 := by simpa using h0
  obtain ⟨g, cap, cur, rfl, hbg, hg, hnc, hcm, hcs, htake⟩ : ∃ g cap cur, bv = .slice (some ⟨g, 0, none⟩) st.page.length cap ∧ 0 ≤ g ∧ w.heap[g]? = some (.cells cur 5 (0, 0)) ∧ st.page.length ≤ cap ∧ cap ≤ maxLen ∧ cur.size = cap * 1 ∧ cur.toList.take (st.page.length * 1) = byteCells st.page := by
    rcases h.page.2 with ⟨_, hz⟩ | ⟨g, cap, cur, hv, r⟩
    · exact absurd hz hl0
    · exact ⟨g, cap, cur, hv, r⟩
  have c1 : w.drew.cell? ⟨pb, 5, none⟩ = some (.slice (some ⟨g, 0, none⟩) st.page.length cap) := cell_of_heap (w := w) h.blk
  have hSD : (Builtin.unsafeSliceData_ #[63] 320 #[.slice (some ⟨g, 0, none⟩) st.page.length cap]).run Tryz.prog w.drew = .ok (.pointer (some ⟨g, 0, none⟩)) w.drew :=
    Lib.run_unsafeSliceData_row _ _ _ _ _ _ (by omega)
  have hUS : (Builtin.unsafeString_ #[320, 3] 9 #[.pointer (some ⟨g, 0, none⟩), .int .i64 st.page.length]).run Tryz.prog w.drew = .ok (.string ⟨st.page.toArray⟩) (w.drew.freeze ⟨g, 0, none⟩ st.page.length) := by
    refine Lib.run_unsafeString_row w.drew 320 3 9 5 Tryz.underlying320 Tryz.cellsByte g cur.size (by have hg' : w.drew.heap[g]? = some (.cells cur 5 (0, 0)) := hg; simp [World.shape?, hg']) st.page h0 (by omega) (by unfold maxLen at hcm; omega) ?_
    intro j x hx
    have := h.page.cells (g := g) rfl j (.int .u8 x.toNat) (by simp [byteCells, hx])
    exact this
  have c1' : w.cell? ⟨pb, 5, none⟩ = some (.slice (some ⟨g, 0, none⟩) st.page.length cap) := cell_of_heap (w := w) h.blk
  have HO := hide (show ROwn pb tb dv (.slice (some ⟨g, 0, none⟩) st.page.length cap) g from Or.inr (Or.inr (Or.inl rfl)))
  have hgp : pb ≠ g := fun e => h.ne2 (by rw [e]; rfl)
  have HGP := hide hgp
  clear h hg hcm hcs htake hbg hgp
  go_enter Tryz.func172, Tryz.ntmps172
  go_wp2_with fail
  go_region
  all_goals
    go_wp2_with fail
    go_ret
    exact ⟨rfl, ((Fr.refl _ _).drew).freeze (Or.inl (unhide HO)) _, fun k hk => freeze_other (fun e => hk (by rw [show k = g from e]; exact unhide HO)), freeze_other (unhide HGP)⟩

set_option maxRecDepth 100000 in
set_option maxHeartbeats 1000000 in
theorem done_any {w : World} {pb : Nat} {ts : List TokP} {st : RS} {D O : Nat → Prop} (h : RA w pb ts st D O) (h0 : st.page ≠ []) (hn : st.page.length ≤ 1000000) (hg : st.gap.size ≤ 1) :
    Calls Tryz.prog 111 #[ptr4 pb 4] w fun e w' => (∃ p, e = .returned (.string p)) ∧ Fr O w O w' := by
  obtain ⟨c6, _⟩ := h.cells
  have HS := hide (string_any h.drew h0 hn)
  have HH := hide h
  have hps : (⟨st.page.toArray⟩ : ByteArray).size ≤ 1000000 := by show st.page.toArray.size ≤ _; simpa using hn
  generalize (⟨st.page.toArray⟩ : ByteArray) = PG at *
  clear h h0 hn
  go_enter Tryz.func111, Tryz.ntmps111
  go_wp2_with fail
  go_region_with (go_at_call 172; refine (unhide HS).mono ?_; rintro e w1 ⟨rfl, hf1, hk1, hb1⟩; have c6' : w1.cell? ⟨pb, 6, none⟩ = some (.string st.gap) := (by unfold World.cell? at c6 ⊢; rw [show w1.heap[pb]? = w.heap[pb]? from hb1]; exact c6); have HF1 := hide hf1; clear hf1 hk1 hb1)
  all_goals
    go_wp2_with fail
    go_ret
    exact ⟨⟨_, rfl⟩, ((Fr.refl _ _).drew).trans (unhide HF1)⟩
end Go.Proofs.YtgdeeodifnegiaaGreatDoor
