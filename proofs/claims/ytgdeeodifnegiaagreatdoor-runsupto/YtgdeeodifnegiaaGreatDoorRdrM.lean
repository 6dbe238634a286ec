/- The program's reader: numbers within bounds, one or more, a block, a choice. -/
import Derived.Test.YtgdeeodifnegiaaGreatDoorRdrL
namespace Go.Proofs.YtgdeeodifnegiaaGreatDoor
open Go.RowKit

theorem tellNum_any {w : World} {pb : Nat} {ts : List TokP} {st : RS} {D O : Nat → Prop} (h : RA w pb ts st D O) (x : Int) :
    Calls Tryz.prog 228 #[ptr4 pb 11, .int .i64 x] w fun e w' => e = .returned (.tuple #[]) ∧ RA w' pb ts (tellNum st x) D O ∧ Fr O w O w' := by
  obtain ⟨tb, tc, dv, av, bv, h, rfl⟩ := h
  refine (tell_any w pb 11 st.num x _ h.blk rfl rfl).mono ?_
  rintro e w' ⟨rfl, rfl⟩
  refine ⟨rfl, ?_⟩
  cases hs : st.num with
  | none =>
    refine ⟨⟨tb, tc, dv, av, bv, h.synSet (o := 11) _ (tellNum st x) rfl rfl ?_, rfl⟩, ((Fr.refl _ _).setCell (Or.inl (Or.inl rfl)) _).setCell (Or.inl (Or.inl rfl)) _⟩
    simp [rdCells, tellNum, hs, tellR, optB, optI]
  | some y =>
    have e : tellNum st x = st := by simp [tellNum, hs, tellR]; rw [← hs]
    rw [e]
    exact ⟨⟨tb, tc, dv, av, bv, h, rfl⟩, Fr.refl _ _⟩
set_option maxRecDepth 100000 in
set_option maxHeartbeats 2000000 in
theorem within_any {pb : Nat} {ts : List TokP} (ht : TsOk ts) {w : World} {st : RS} {D O : Nat → Prop} (h : RA w pb ts st D O) (hk : Ok ts st) (lo hi : Int) :
    Calls Tryz.prog 275 #[ptr4 pb 0, .int .i64 lo, .int .i64 hi] w fun e w' => e = .returned (.int .i64 (withinR ts lo hi st).2) ∧ ∃ O', RA w' pb ts (withinR ts lo hi st).1 D O' ∧ Fr O w O' w' := by
  have HT := hide (take_any h hk ht 2)
  have HW := hide (show withinR ts lo hi st = (if (takeR ts 2 st).2.number < lo ∨ hi < (takeR ts 2 st).2.number then tellNum (takeR ts 2 st).1 (takeR ts 2 st).2.at_ else (takeR ts 2 st).1, (takeR ts 2 st).2.number) from rfl)
  clear h hk ht
  generalize takeR ts 2 st = P at *
  obtain ⟨s1, t⟩ := P
  by_cases h1 : t.number < lo
  · have EQ : Hid (withinR ts lo hi st = (tellNum s1 t.at_, t.number)) := by unfold Hid; rw [unhide HW, if_pos (Or.inl h1)]
    clear HW
    go_enter Tryz.func275, Tryz.ntmps275
    go_wp2_with (go_at_call 213; refine (unhide HT).mono ?_; rintro e w1 ⟨rfl, O1, hr1, hf1⟩; have HR := hide hr1; have HF := hide hf1; clear hr1 hf1; dsimp only)
    have cb := heap_new w1 #[.int .i64 t.kind, .int .i64 t.at_, .string t.text, .int .i64 t.number, .int .i64 t.addr, .int .i64 t.len] 216
    have HB := hide cb
    have c1 : (w1.alloc (tokBlk t)).cell? ⟨w1.heap.size, 1, none⟩ = some (.int .i64 t.at_) := cell_of_heap cb
    have HTL := hide (fun q => tellNum_any (((unhide HR).alloc (tokBlk t)).drewN q) t.at_)
    clear cb
    go_region_with (go_at_call 228; refine ((unhide HTL) 1).mono ?_; rintro e w2 ⟨rfl, hr2, hf2⟩)
    all_goals
      have g2 := fr_keeps ((((Fr.refl _ _).drewN 1).trans hf2)) (unhide HB) (fun ho => by have := (unhide HR).lt ho; omega)
      have c3 : w2.cell? ⟨w1.heap.size, 3, none⟩ = some (.int .i64 t.number) := cell_of_heap g2.1
      have HR2 := hide hr2
      have HF2 := hide ((((unhide HF).alloc (tokBlk t)).drewN 1).trans hf2)
      clear hr2 hf2 g2
      go_wp2_with fail
      go_ret
      rw [unhide EQ]
      exact ⟨rfl, _, unhide HR2, unhide HF2⟩
  · by_cases h2 : hi < t.number
    · have EQ : Hid (withinR ts lo hi st = (tellNum s1 t.at_, t.number)) := by unfold Hid; rw [unhide HW, if_pos (Or.inr h2)]
      clear HW
      go_enter Tryz.func275, Tryz.ntmps275
      go_wp2_with (go_at_call 213; refine (unhide HT).mono ?_; rintro e w1 ⟨rfl, O1, hr1, hf1⟩; have HR := hide hr1; have HF := hide hf1; clear hr1 hf1; dsimp only)
      have cb := heap_new w1 #[.int .i64 t.kind, .int .i64 t.at_, .string t.text, .int .i64 t.number, .int .i64 t.addr, .int .i64 t.len] 216
      have HB := hide cb
      have c1 : (w1.alloc (tokBlk t)).cell? ⟨w1.heap.size, 1, none⟩ = some (.int .i64 t.at_) := cell_of_heap cb
      have HTL := hide (fun q => tellNum_any (((unhide HR).alloc (tokBlk t)).drewN q) t.at_)
      clear cb
      go_region_with (go_at_call 228; refine ((unhide HTL) 1).mono ?_; rintro e w2 ⟨rfl, hr2, hf2⟩)
      all_goals
        have g2 := fr_keeps ((((Fr.refl _ _).drewN 1).trans hf2)) (unhide HB) (fun ho => by have := (unhide HR).lt ho; omega)
        have c3 : w2.cell? ⟨w1.heap.size, 3, none⟩ = some (.int .i64 t.number) := cell_of_heap g2.1
        have HR2 := hide hr2
        have HF2 := hide ((((unhide HF).alloc (tokBlk t)).drewN 1).trans hf2)
        clear hr2 hf2 g2
        go_wp2_with fail
        go_ret
        rw [unhide EQ]
        exact ⟨rfl, _, unhide HR2, unhide HF2⟩
    · have EQ : Hid (withinR ts lo hi st = (s1, t.number)) := by unfold Hid; rw [unhide HW, if_neg (fun h => h.elim h1 h2)]
      clear HW
      go_enter Tryz.func275, Tryz.ntmps275
      go_wp2_with (go_at_call 213; refine (unhide HT).mono ?_; rintro e w1 ⟨rfl, O1, hr1, hf1⟩; have HR := hide hr1; have HF := hide hf1; clear hr1 hf1; dsimp only)
      go_ret
      rw [unhide EQ]
      exact ⟨rfl, _, (unhide HR).alloc _, (unhide HF).alloc _⟩
end Go.Proofs.YtgdeeodifnegiaaGreatDoor

namespace Go.Proofs.YtgdeeodifnegiaaGreatDoor
open Go.RowKit

set_option maxRecDepth 100000 in
set_option maxHeartbeats 1000000 in
theorem system_any {pb : Nat} {ts : List TokP} (ht : TsOk ts) {w : World} {st : RS} {D O : Nat → Prop} (h : RA w pb ts st D O) (hk : Ok ts st) :
    Calls Tryz.prog 227 #[ptr4 pb 0] w fun e w' => e = .returned (.int .i64 (withinR ts 1 65535 st).2) ∧ ∃ O', RA w' pb ts (withinR ts 1 65535 st).1 D O' ∧ Fr O w O' w' := by
  have HW := hide (within_any ht h hk 1 65535)
  clear h hk ht
  go_enter Tryz.func227, Tryz.ntmps227
  go_wp2_with (go_at_call 275; refine (unhide HW).mono ?_; rintro e w1 ⟨rfl, O1, hr1, hf1⟩; have HR := hide hr1; have HF := hide hf1; clear hr1 hf1)
  go_ret
  exact ⟨rfl, _, unhide HR, unhide HF⟩
set_option maxRecDepth 100000 in
set_option maxHeartbeats 1000000 in
theorem mark_any {pb : Nat} {ts : List TokP} (ht : TsOk ts) {w : World} {st : RS} {D O : Nat → Prop} (h : RA w pb ts st D O) (hk : Ok ts st) :
    Calls Tryz.prog 224 #[ptr4 pb 0] w fun e w' => e = .returned (.int .i64 (withinR ts 0 65535 st).2) ∧ ∃ O', RA w' pb ts (withinR ts 0 65535 st).1 D O' ∧ Fr O w O' w' := by
  have HW := hide (within_any ht h hk 0 65535)
  clear h hk ht
  go_enter Tryz.func224, Tryz.ntmps224
  go_wp2_with (go_at_call 275; refine (unhide HW).mono ?_; rintro e w1 ⟨rfl, O1, hr1, hf1⟩; have HR := hide hr1; have HF := hide hf1; clear hr1 hf1)
  go_ret
  exact ⟨rfl, _, unhide HR, unhide HF⟩

def BlockSaid (pb : Nat) (ts : List TokP) (tw : RS → Option (RS × List (Option StpM))) : Prop := ∀ (w : World) (st : RS) (D O : Nat → Prop) (r : RS × List (Option StpM)), RA w pb ts st D O → Ok ts st → tw st = some r → Calls Tryz.prog 267 #[ptr4 pb 0] w (StepsRes pb ts w D O r)
set_option maxRecDepth 100000 in
set_option maxHeartbeats 2000000 in
theorem block_said {pb : Nat} {ts : List TokP} (ht : TsOk ts) {tw : RS → Option (RS × Option (Option StpM))} (IH : StmtSaid pb ts tw) (n : Nat) (hn : n ≤ 1000) : BlockSaid pb ts (blockBy ts tw n) := by
  intro w st D O r h hk hr
  unfold blockBy at hr
  cases h1 : moreLp tw n (endLineR (openR ts 29 st)) [] with
  | none => rw [h1] at hr; cases hr
  | some p =>
    obtain ⟨s1, l⟩ := p
    rw [h1] at hr
    cases hr
    have hmf : ∀ (fn : Fn) (first cap : Array Value) (w : World), (Instr.makeFunc fn first cap).run Tryz.prog w = .ok (.func fn first cap) w := fun _ _ _ _ => rfl
    have HOK1 := hide (openR_ok (k := 29) hk ht (by decide))
    have HR := hide h
    have HK := hide hk
    have HT := hide ht
    have HF := hide (Fr.refl O w)
    have HM := hide (fun W O1 (hW : RA W pb ts (endLineR (openR ts 29 st)) D O1) => more_said IH n hn hW (endLineR_ok (unhide HOK1)) h1)
    clear h hk ht IH h1
    go_enter Tryz.func267, Tryz.ntmps267
    go_wp2_with (first
      | (go_at_call 309; refine (open_any (unhide HR) (unhide HK) (unhide HT) 29).mono ?_; rintro e w1 ⟨rfl, O1, hr1, hf1⟩; replace HR := hide hr1; replace HF := hide ((unhide HF).trans hf1); clear hr1 hf1)
      | (go_at_call 300; refine (endLine_any (unhide HR)).mono ?_; rintro e w1 ⟨rfl, hr1, hf1⟩; replace HR := hide hr1; replace HF := hide ((unhide HF).trans hf1); clear hr1 hf1))
    refine ((unhide HM) _ _ (unhide HR)).mono ?_
    rintro e w2 ⟨v, O2, rfl, hr2, hf2, hs2, hk2, ⟨va, vc, rfl⟩, hl2⟩
    have HS := hide (hs2.fr (Fr.refl _ _) (unhide HF).size)
    have HK2 := hide hk2
    have HL2 := hide hl2
    replace HR := hide hr2
    replace HF := hide ((unhide HF).trans hf2)
    clear hr2 hf2 hs2 hk2 hl2 HM
    go_wp2_with (first
      | (go_at_call 310; refine (shut_any (unhide HR) (unhide HK2) (unhide HT) 30).mono ?_; rintro e w1 ⟨rfl, O1, hr1, hf1⟩; replace HR := hide hr1; replace HS := hide ((unhide HS).fr hf1 (Nat.le_refl _)); replace HF := hide ((unhide HF).trans hf1); clear hr1 hf1)
      | (go_at_call 300; refine (endLine_any (unhide HR)).mono ?_; rintro e w1 ⟨rfl, hr1, hf1⟩; replace HR := hide hr1; replace HS := hide ((unhide HS).fr hf1 (Nat.le_refl _)); replace HF := hide ((unhide HF).trans hf1); clear hr1 hf1))
    go_ret
    exact ⟨_, _, rfl, unhide HR, unhide HF, unhide HS, endLineR_ok (shutR_ok (unhide HK2) (unhide HT) (by decide)), ⟨_, _, rfl⟩, unhide HL2⟩
set_option maxRecDepth 100000 in
set_option maxHeartbeats 2000000 in
theorem newValue_any {pb : Nat} {ts : List TokP} (ht : TsOk ts) {sum : RS → Option (RS × Option AmtM)} (IH : SumSaid pb ts sum) {w : World} {st : RS} {D O : Nat → Prop} {r : RS × Option AmtM} (h : RA w pb ts st D O) (hk : Ok ts st) (hr : sum (takeR ts 26 st).1 = some r) :
    Calls Tryz.prog 220 #[ptr4 pb 0] w (AmtRes pb ts w D O r) := by
  have HR := hide h
  have HF := hide (Fr.refl O w)
  have HK := hide hk
  have HT := hide ht
  have HI := hide IH
  have HS := hide hr
  clear h hk ht IH hr
  go_enter Tryz.func220, Tryz.ntmps220
  go_wp2_with (go_at_call 213; refine (take_any (unhide HR) (unhide HK) (unhide HT) 26).mono ?_; rintro e w1 ⟨rfl, O1, hr1, hf1⟩; replace HR := hide hr1; replace HF := hide ((unhide HF).trans hf1); clear hr1 hf1)
  refine ((unhide HI) _ _ _ _ _ (unhide HR) (takeR_ok (unhide HK) (unhide HT) (by decide)) (unhide HS)).mono ?_
  rintro e w2 ⟨v, O2, rfl, hr2, hf2, hv2, hk2⟩
  have HV := hide (hv2.fr (Fr.refl _ _) (unhide HF).size)
  have HK2 := hide hk2
  replace HR := hide hr2
  replace HF := hide ((unhide HF).trans hf2)
  clear hr2 hf2 hv2 hk2
  go_wp2_with fail
  go_ret
  exact ⟨_, _, rfl, unhide HR, unhide HF, unhide HV, unhide HK2⟩

/-- a call that gives a statement -/
def StpRes1 (pb : Nat) (ts : List TokP) (w : World) (D O : Nat → Prop) (r : RS × Option StpM) (e : Ending) (w' : World) : Prop :=
  ∃ v O', e = .returned v ∧ RA w' pb ts r.1 D O' ∧ Fr O w O' w' ∧ StpO w' (Free O' D w.heap.size) v r.2 ∧ Ok ts r.1
theorem StepsL.nil (w : World) (A : Nat → Prop) : StepsL w A (.slice none 0 0) [] :=
  stepsL_of (vs := []) (World.ownsRow_nil _ _ _ _) (by simp) (fun k e => by simp [Value.ownBlock] at e) (fun i v o hv => by simp at hv)
set_option maxRecDepth 100000 in
set_option maxHeartbeats 2000000 in
theorem choice_one {pb : Nat} {ts : List TokP} (ht : TsOk ts) {cnd : RS → Option (RS × Option CndM)} (IC : CndSaid 266 pb ts cnd) {blk : RS → Option (RS × List (Option StpM))} (IB : BlockSaid pb ts blk) {w : World} {st s1 s2 : RS} {D O : Nat → Prop} {c : Option CndM} {yes : List (Option StpM)}
    (h : RA w pb ts st D O) (hk : Ok ts st) (hc : cnd st = some (s1, c)) (hb : blk (takeR ts 15 s1).1 = some (s2, yes)) (e16 : kindR ts s2 ≠ 16) :
    Calls Tryz.prog 217 #[ptr4 pb 0] w (StpRes1 pb ts w D O (s2, chooseO c yes [])) := by
  have HT := hide ht
  have HC := hide (IC w st D O (s1, c) h hk hc)
  have HIB := hide IB
  have HB := hide hb
  have HE := hide e16
  clear h hk ht IC IB hc hb e16
  go_enter Tryz.func217, Tryz.ntmps217
  go_wp2_with fail
  refine (unhide HC).mono ?_
  rintro e w1 ⟨v, O1, rfl, hr1, hf1, hv1, hk1⟩
  have HR := hide hr1
  have HF := hide hf1
  have HV := hide hv1
  have HK := hide hk1
  clear hr1 hf1 hv1 hk1 HC
  go_wp2_with (go_at_call 213; refine (take_any (unhide HR) (unhide HK) (unhide HT) 15).mono ?_; rintro e w1 ⟨rfl, O1, hr1, hf1⟩; replace HR := hide hr1; replace HV := hide ((unhide HV).fr hf1 (Nat.le_refl _)); replace HF := hide ((unhide HF).trans hf1); clear hr1 hf1)
  refine ((unhide HIB) _ _ _ _ _ (unhide HR) (takeR_ok (unhide HK) (unhide HT) (by decide)) (unhide HB)).mono ?_
  rintro e w2 ⟨v2, O2, rfl, hr2, hf2, hs2, hk2, ⟨va, vc, rfl⟩, hl2⟩
  have HS := hide (hs2.fr (Fr.refl _ _) (unhide HF).size)
  have HK2 := hide hk2
  replace HR := hide hr2
  replace HV := hide ((unhide HV).fr hf2 (Nat.le_refl _))
  replace HF := hide ((unhide HF).trans hf2)
  clear hr2 hf2 hs2 hk2 hl2
  go_wp2_with (first
    | (go_at_call 211; refine (took_no (unhide HR) (unhide HK2) (unhide HT) 16 (unhide HE)).mono ?_; rintro e w1 ⟨rfl, hr1, hf1⟩; replace HR := hide hr1; replace HV := hide ((unhide HV).fr hf1 (Nat.le_refl _)); replace HS := hide ((unhide HS).fr hf1 (Nat.le_refl _)); replace HF := hide ((unhide HF).trans hf1); clear hr1 hf1)
    | (go_at_call 268; refine (choose_any _ _ _ _ _ _ _ _ ((unhide HR).newFree (unhide HF)) (unhide HV) (unhide HS) (StepsL.nil _ _)).mono ?_; rintro e w4 ⟨v4, rfl, rfl, hv4⟩; have HV4 := hide hv4; clear hv4))
  go_ret
  exact ⟨_, _, rfl, (((unhide HR).alloc _).alloc _).alloc _, (((unhide HF).alloc _).alloc _).alloc _, unhide HV4, unhide HK2⟩
set_option maxRecDepth 100000 in
set_option maxHeartbeats 2000000 in
theorem choice_two {pb : Nat} {ts : List TokP} (ht : TsOk ts) {cnd : RS → Option (RS × Option CndM)} (IC : CndSaid 266 pb ts cnd) {blk : RS → Option (RS × List (Option StpM))} (IB : BlockSaid pb ts blk) {w : World} {st s1 s2 s3 : RS} {D O : Nat → Prop} {c : Option CndM} {yes no : List (Option StpM)}
    (h : RA w pb ts st D O) (hk : Ok ts st) (hc : cnd st = some (s1, c)) (hb : blk (takeR ts 15 s1).1 = some (s2, yes)) (e16 : kindR ts s2 = 16) (hn : blk (goR ts s2) = some (s3, no)) :
    Calls Tryz.prog 217 #[ptr4 pb 0] w (StpRes1 pb ts w D O (s3, chooseO c yes no)) := by
  have HT := hide ht
  have HC := hide (IC w st D O (s1, c) h hk hc)
  have HIB := hide IB
  have HB := hide hb
  have HN := hide hn
  have HE := hide e16
  clear h hk ht IC IB hc hb e16 hn
  go_enter Tryz.func217, Tryz.ntmps217
  go_wp2_with fail
  refine (unhide HC).mono ?_
  rintro e w1 ⟨v, O1, rfl, hr1, hf1, hv1, hk1⟩
  have HR := hide hr1
  have HF := hide hf1
  have HV := hide hv1
  have HK := hide hk1
  clear hr1 hf1 hv1 hk1 HC
  go_wp2_with (go_at_call 213; refine (take_any (unhide HR) (unhide HK) (unhide HT) 15).mono ?_; rintro e w1 ⟨rfl, O1, hr1, hf1⟩; replace HR := hide hr1; replace HV := hide ((unhide HV).fr hf1 (Nat.le_refl _)); replace HF := hide ((unhide HF).trans hf1); clear hr1 hf1)
  refine ((unhide HIB) _ _ _ _ _ (unhide HR) (takeR_ok (unhide HK) (unhide HT) (by decide)) (unhide HB)).mono ?_
  rintro e w2 ⟨v2, O2, rfl, hr2, hf2, hs2, hk2, ⟨va, vc, rfl⟩, hl2⟩
  have HS := hide (hs2.fr (Fr.refl _ _) (unhide HF).size)
  have HK2 := hide hk2
  replace HR := hide hr2
  replace HV := hide ((unhide HV).fr hf2 (Nat.le_refl _))
  replace HF := hide ((unhide HF).trans hf2)
  clear hr2 hf2 hs2 hk2 hl2
  go_wp2_with (go_at_call 211; refine (took_yes (unhide HR) (unhide HK2) (unhide HT) 16 (unhide HE)).mono ?_; rintro e w1 ⟨rfl, O1, hr1, hf1⟩; replace HR := hide hr1; replace HV := hide ((unhide HV).fr hf1 (Nat.le_refl _)); replace HS := hide ((unhide HS).fr hf1 (Nat.le_refl _)); replace HF := hide ((unhide HF).trans hf1); clear hr1 hf1)
  refine ((unhide HIB) _ _ _ _ _ (unhide HR) (goR_ok' (unhide HK2) (unhide HT) (unhide HE) (by decide)) (unhide HN)).mono ?_
  rintro e w2 ⟨v2, O2, rfl, hr2, hf2, hs2, hk2, ⟨na, nc, rfl⟩, hl2⟩
  have HSN := hide (hs2.fr (Fr.refl _ _) (unhide HF).size)
  have HK3 := hide hk2
  replace HR := hide hr2
  replace HV := hide ((unhide HV).fr hf2 (Nat.le_refl _))
  replace HS := hide ((unhide HS).fr hf2 (Nat.le_refl _))
  replace HF := hide ((unhide HF).trans hf2)
  clear hr2 hf2 hs2 hk2 hl2
  go_wp2_with (go_at_call 268; refine (choose_any _ _ _ _ _ _ _ _ ((unhide HR).newFree (unhide HF)) (unhide HV) (unhide HS) (unhide HSN)).mono ?_; rintro e w4 ⟨v4, rfl, rfl, hv4⟩; have HV4 := hide hv4; clear hv4)
  go_ret
  exact ⟨_, _, rfl, (((unhide HR).alloc _).alloc _).alloc _, (((unhide HF).alloc _).alloc _).alloc _, unhide HV4, unhide HK3⟩
end Go.Proofs.YtgdeeodifnegiaaGreatDoor
