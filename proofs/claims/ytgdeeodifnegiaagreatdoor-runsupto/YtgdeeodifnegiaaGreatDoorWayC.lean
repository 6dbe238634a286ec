/- Ways: the reader's item, its rows, either (package policy). -/
import Derived.Test.YtgdeeodifnegiaaGreatDoorWayP
import Derived.Test.YtgdeeodifnegiaaGreatDoorRdrO
import Derived.Test.YtgdeeodifnegiaaGreatDoorDefB
namespace Go.Proofs.YtgdeeodifnegiaaGreatDoor
open Go.RowKit

def ItemRes (pb : Nat) (ts : List TokP) (w : World) (D O : Nat → Prop) (r : RS × Option WayM) (e : Ending) (w' : World) : Prop :=
  ∃ v O', e = .returned (.tuple #[v, .bool r.2.isSome]) ∧ RA w' pb ts r.1 D O' ∧ Fr O w O' w' ∧ FnV v ∧ (∀ m, r.2 = some m → WayL w' (Free O' D w.heap.size) v m) ∧ Ok ts r.1
def ItemSaid (pb : Nat) (ts : List TokP) (tw : RS → Option (RS × Option WayM)) : Prop := ∀ (w : World) (st : RS) (D O : Nat → Prop) (r : RS × Option WayM), RA w pb ts st D O → Ok ts st → tw st = some r → Calls Tryz.prog 264 #[ptr4 pb 0] w (ItemRes pb ts w D O r)
theorem someR_eq {r : Option (RS × WayM)} {q : RS × Option WayM} (h : someR r = some q) : ∃ p, r = some p ∧ q = (p.1, some p.2) := by
  unfold someR at h
  split at h
  · cases h
  · exact ⟨_, rfl, (Option.some.inj h).symm⟩
set_option maxRecDepth 100000 in
set_option maxHeartbeats 2000000 in
theorem item_num {pb : Nat} {ts : List TokP} (ht : TsOk ts) (n : Nat) {w : World} {st : RS} {D O : Nat → Prop} (h : RA w pb ts st D O) (hk : Ok ts st) (e : kindR ts st = 2) {r : RS × WayM} (hr : repeatsR ts n (numL (withinR ts 1 65535 st).2) (withinR ts 1 65535 st).1 = some r) :
    Calls Tryz.prog 264 #[ptr4 pb 0] w (ItemRes pb ts w D O (r.1, some r.2)) := by
  have HSY := hide (fun (W : World) (h : RA W pb ts st D O) => system_any ht h hk)
  have HK1 := hide (withinR_ok (a := 1) (b := 65535) hk ht)
  have HR := hide h
  have HF := hide (Fr.refl O w)
  have HK := hide hk
  have HT := hide ht
  have HE := hide e
  have HQ := hide hr
  clear h hk ht e hr
  generalize withinR ts 1 65535 st = P at *
  obtain ⟨s1, x1⟩ := P
  dsimp only at HK1 HQ HSY
  go_enter Tryz.func264, Tryz.ntmps264
  go_wp2_with (first
    | (go_at_call 170; refine (kind_is (unhide HR) (unhide HK) (unhide HT) (unhide HE)).mono ?_; rintro e w1 ⟨rfl, hr1, hf1⟩; replace HR := hide hr1; replace HF := hide ((unhide HF).trans hf1); clear hr1 hf1)
    | (go_at_call 227; refine ((unhide HSY) _ (unhide HR)).mono ?_; clear HSY; rintro e w2 ⟨rfl, O2, hr2, hf2⟩; replace HR := hide hr2; replace HF := hide ((unhide HF).trans hf2); clear hr2 hf2)
    | (go_at_call 307; refine (system_said _ x1 _ ((unhide HR).newFree (unhide HF))).mono ?_; rintro e w3 ⟨v3, rfl, hfv, rfl, hv⟩; obtain ⟨K3, g3, lb3, hv3, _⟩ := Lasts.now hv; have HV := hide hv; replace HR := hide ((unhide HR).alloc (box1 (.int .i64 x1) 3)); replace HF := hide ((unhide HF).alloc (box1 (.int .i64 x1) 3)); clear hv hfv; subst hv3)
    | (go_at_call 306; refine (repeats_said (unhide HT) n (unhide HR) (unhide HK1) (unhide HF) (unhide HV) (unhide HQ)).mono ?_; rintro e w4 ⟨v4, O4, rfl, hr4, hf4, hfv4, hv4, hk4⟩; obtain ⟨K4, g4, lb4, hv5, _⟩ := Lasts.now hv4; have HV4 := hide hv4; have HFV := hide hfv4; have HR4 := hide hr4; have HF4 := hide hf4; have HK4 := hide hk4; clear hv4 hfv4 hr4 hf4 hk4; subst hv5))
  go_ret2
  refine ⟨_, _, rfl, unhide HR4, unhide HF4, unhide HFV, fun m hm => ?_, unhide HK4⟩
  cases hm; exact unhide HV4
set_option maxRecDepth 100000 in
set_option maxHeartbeats 2000000 in
theorem item_dot {pb : Nat} {ts : List TokP} (ht : TsOk ts) (n : Nat) {w : World} {st : RS} {D O : Nat → Prop} (h : RA w pb ts st D O) (hk : Ok ts st) (e : kindR ts st = 41) {r : RS × WayM} (hr : repeatsR ts n dotL (goR ts st) = some r) :
    Calls Tryz.prog 264 #[ptr4 pb 0] w (ItemRes pb ts w D O (r.1, some r.2)) := by
  have htk : takeR ts 41 st = (goR ts st, tokR ts st) := by unfold takeR; rw [if_pos e]
  have HTK := hide (fun (W : World) (O : Nat → Prop) (h : RA W pb ts st D O) => take_any h hk ht 41)
  rw [htk] at HTK
  have HK1 := hide (goR_ok' hk ht e (by decide))
  have HR := hide h
  have HF := hide (Fr.refl O w)
  have HK := hide hk
  have HT := hide ht
  have HE := hide e
  have HQ := hide hr
  clear h hk ht e hr htk
  go_enter Tryz.func264, Tryz.ntmps264
  go_wp2_with (first
    | (go_at_call 170; refine (kind_is (unhide HR) (unhide HK) (unhide HT) (unhide HE)).mono ?_; rintro e w1 ⟨rfl, hr1, hf1⟩; replace HR := hide hr1; replace HF := hide ((unhide HF).trans hf1); clear hr1 hf1)
    | (go_at_call 213; refine ((unhide HTK) _ _ (unhide HR)).mono ?_; clear HTK; rintro e w2 ⟨rfl, O2, hr2, hf2⟩; replace HR := hide hr2; replace HF := hide ((unhide HF).trans hf2); clear hr2 hf2)
    | (go_at_call 306; refine (repeats_said (unhide HT) n (unhide HR) (unhide HK1) (unhide HF) (dot_said _ _) (unhide HQ)).mono ?_; rintro e w4 ⟨v4, O4, rfl, hr4, hf4, hfv4, hv4, hk4⟩; obtain ⟨K4, g4, lb4, hv5, _⟩ := Lasts.now hv4; have HV4 := hide hv4; have HFV := hide hfv4; have HR4 := hide hr4; have HF4 := hide hf4; have HK4 := hide hk4; clear hv4 hfv4 hr4 hf4 hk4; subst hv5))
  go_ret2
  refine ⟨_, _, rfl, unhide HR4, unhide HF4, unhide HFV, fun m hm => ?_, unhide HK4⟩
  cases hm; exact unhide HV4
set_option maxRecDepth 100000 in
set_option maxHeartbeats 2000000 in
theorem item_par {pb : Nat} {ts : List TokP} (ht : TsOk ts) (n : Nat) {ei : RS → Option (RS × WayM)} (IE : WaySaid 215 pb ts ei) {w : World} {st s1 : RS} {m1 : WayM} {D O : Nat → Prop} (h : RA w pb ts st D O) (hk : Ok ts st) (e : kindR ts st = 33) (h1 : ei (openR ts 33 st) = some (s1, m1)) {r : RS × WayM} (hr : repeatsR ts n m1 (shutR ts 34 s1) = some r) :
    Calls Tryz.prog 264 #[ptr4 pb 0] w (ItemRes pb ts w D O (r.1, some r.2)) := by
  have HK1 := hide (openR_ok (k := 33) hk ht (by decide))
  have HIE := hide IE
  have HR := hide h
  have HF := hide (Fr.refl O w)
  have HK := hide hk
  have HT := hide ht
  have HE := hide e
  have HQ := hide hr
  have H1 := hide h1
  clear h hk ht e hr IE h1
  go_enter Tryz.func264, Tryz.ntmps264
  go_wp2_with (first
    | (go_at_call 170; refine (kind_is (unhide HR) (unhide HK) (unhide HT) (unhide HE)).mono ?_; rintro e w1 ⟨rfl, hr1, hf1⟩; replace HR := hide hr1; replace HF := hide ((unhide HF).trans hf1); clear hr1 hf1)
    | (go_at_call 309; refine (open_any (unhide HR) (unhide HK) (unhide HT) 33).mono ?_; rintro e w2 ⟨rfl, O2, hr2, hf2⟩; replace HR := hide hr2; replace HF := hide ((unhide HF).trans hf2); clear hr2 hf2))
  refine ((unhide HIE) _ _ _ _ _ (unhide HR) (unhide HK1) (unhide H1)).mono ?_
  rintro e w3 ⟨v3, O3, rfl, hr3, hf3, hfv3, hv3, hk3⟩
  obtain ⟨K3, g3, lb3, hv4, _⟩ := Lasts.now hv3
  have HV := hide (Lasts.fr hv3 (Fr.refl _ _) (unhide HF).size)
  have HK3 := hide hk3
  replace HR := hide hr3
  replace HF := hide ((unhide HF).trans hf3)
  clear hv3 hr3 hf3 hk3 hfv3
  subst hv4
  go_wp2_with (go_at_call 310; refine (shut_any (unhide HR) (unhide HK3) (unhide HT) 34).mono ?_; rintro e w4 ⟨rfl, O4, hr4, hf4⟩; replace HR := hide hr4; replace HV := hide (Lasts.fr (unhide HV) hf4 (Nat.le_refl _)); replace HF := hide ((unhide HF).trans hf4); clear hr4 hf4)
  refine (repeats_said (unhide HT) n (unhide HR) (shutR_ok (unhide HK3) (unhide HT) (by decide)) (unhide HF) (unhide HV) (unhide HQ)).mono ?_
  rintro e w5 ⟨v4, O4, rfl, hr4, hf4, hfv4, hv4, hk4⟩
  obtain ⟨K4, g4, lb4, hv5, _⟩ := Lasts.now hv4
  have HV4 := hide hv4
  have HFV := hide hfv4
  have HR4 := hide hr4
  have HF4 := hide hf4
  have HK4 := hide hk4
  clear hv4 hfv4 hr4 hf4 hk4
  subst hv5
  go_wp2_with fail
  go_ret2
  refine ⟨_, _, rfl, unhide HR4, unhide HF4, unhide HFV, fun m hm => ?_, unhide HK4⟩
  cases hm; exact unhide HV4
set_option maxRecDepth 100000 in
set_option maxHeartbeats 2000000 in
theorem item_else {pb : Nat} {ts : List TokP} (ht : TsOk ts) {w : World} {st : RS} {D O : Nat → Prop} (h : RA w pb ts st D O) (hk : Ok ts st) (e2 : kindR ts st ≠ 2) (e41 : kindR ts st ≠ 41) (e33 : kindR ts st ≠ 33) :
    Calls Tryz.prog 264 #[ptr4 pb 0] w (ItemRes pb ts w D O (st, none)) := by
  have HR := hide h
  have HF := hide (Fr.refl O w)
  have HK := hide hk
  have HT := hide ht
  have b2 : (kindR ts st == 2) = false := by simpa using e2
  have b41 : (kindR ts st == 41) = false := by simpa using e41
  have b33 : (kindR ts st == 33) = false := by simpa using e33
  clear h hk ht e2 e41 e33
  go_enter Tryz.func264, Tryz.ntmps264
  go_wp2_with (go_at_call 170; refine (kind_is (unhide HR) (unhide HK) (unhide HT) rfl).mono ?_; rintro e w1 ⟨rfl, hr1, hf1⟩; replace HR := hide hr1; replace HF := hide ((unhide HF).trans hf1); clear hr1 hf1)
  go_ret2
  exact ⟨_, _, rfl, unhide HR, unhide HF, Or.inr rfl, fun m hm => (by cases hm), unhide HK⟩
theorem item_said {pb : Nat} {ts : List TokP} (ht : TsOk ts) (n : Nat) {ei : RS → Option (RS × WayM)} (IE : WaySaid 215 pb ts ei) : ItemSaid pb ts (itemBy ts n ei) := by
  intro w st D O r h hk hr
  unfold itemBy at hr
  by_cases e2 : kindR ts st = 2
  · rw [if_pos e2] at hr
    obtain ⟨p, h1, rfl⟩ := someR_eq hr
    exact item_num ht n h hk e2 h1
  · rw [if_neg e2] at hr
    by_cases e41 : kindR ts st = 41
    · rw [if_pos e41] at hr
      obtain ⟨p, h1, rfl⟩ := someR_eq hr
      exact item_dot ht n h hk e41 h1
    · rw [if_neg e41] at hr
      by_cases e33 : kindR ts st = 33
      · rw [if_pos e33] at hr
        cases h1 : ei (openR ts 33 st) with
        | none => rw [h1] at hr; cases hr
        | some q =>
          obtain ⟨s1, m1⟩ := q
          rw [h1] at hr
          dsimp only at hr
          obtain ⟨p, h2, rfl⟩ := someR_eq hr
          exact item_par ht n IE h hk e33 h1 h2
      · rw [if_neg e33] at hr
        cases hr
        exact item_else ht h hk e2 e41 e33
theorem moreLpW_pos {tw : RS → Option (RS × Option WayM)} {k : Nat} {st : RS} {l : List WayM} {r : RS × List WayM} (h : moreLp tw k st l = some r) : ∃ g, k = g + 1 := by
  cases k with
  | zero => rw [moreLp] at h; cases h
  | succ g => exact ⟨g, rfl⟩
/-- what is still to do, behind a reading -/
def moreKW (tw : RS → Option (RS × Option WayM)) (k : Nat) (su : RS) (x : Option WayM) (l : List WayM) : Option (RS × List WayM) :=
  match x with
  | none => some (su, l)
  | some y => moreLp tw k su (l ++ [y])
theorem moreLpW_step {tw : RS → Option (RS × Option WayM)} {k : Nat} {st : RS} {l : List WayM} {r : RS × List WayM} (h : moreLp tw (k + 1) st l = some r) :
    ∃ su x, tw st = some (su, x) ∧ moreKW tw k su x l = some r := by
  rw [moreLp] at h
  cases h1 : tw st with
  | none => rw [h1] at h; cases h
  | some p =>
    obtain ⟨su, x⟩ := p
    rw [h1] at h
    refine ⟨su, x, rfl, ?_⟩
    cases x with
    | none => exact h
    | some y => exact h
theorem Tryz.infoWay : (Tryz.prog.info? 305).map (fun i => (i.zero, i.size, i.bytes)) = some (some .nilFunc, 1, 8) := by kernel_rfl
def WaysRes (pb : Nat) (ts : List TokP) (w : World) (D O : Nat → Prop) (r : RS × List WayM) (e : Ending) (w' : World) : Prop :=
  ∃ v O', e = .returned v ∧ RA w' pb ts r.1 D O' ∧ Fr O w O' w' ∧ Lasts w' (Free O' D w.heap.size) (WaysC v r.2) ∧ Ok ts r.1 ∧ (∃ a c, v = .slice a r.2.length c) ∧ r.2.length ≤ 1000000
set_option maxRecDepth 100000 in
set_option maxHeartbeats 4000000 in
theorem moreW_said {pb : Nat} {ts : List TokP} {tw : RS → Option (RS × Option WayM)} (IH : ItemSaid pb ts tw) (n : Nat) (hn : n ≤ 1000) {w : World} {st : RS} {D O : Nat → Prop} {r : RS × List WayM} (h : RA w pb ts st D O) (hk : Ok ts st) (hr : moreLp tw n st [] = some r) :
    Calls Tryz.prog 305 #[.func (.func 264) #[ptr4 pb 0] #[]] w (WaysRes pb ts w D O r) := by
  obtain ⟨n, rfl⟩ := moreLpW_pos hr
  obtain ⟨su, x, h1, h2⟩ := moreLpW_step hr
  obtain ⟨i0, hi0, hz0, hz1, hz2⟩ := info_parts Tryz.infoWay
  have HIH := hide IH
  have H1 := hide (IH w st D O (su, x) h hk h1)
  have HL := hide h2
  have HH := hide h
  clear hr h hk h1 h2 IH
  go_enter Tryz.func305, Tryz.ntmps305
  go_wp2_with fail
  refine (unhide H1).mono ?_
  rintro e w1 ⟨v, O1, rfl, hr1, hf1, hfv, hv1, hk1⟩
  have HR := hide hr1
  have HF := hide hf1
  have HV := hide hv1
  have HK := hide hk1
  have HFV := hide hfv
  clear hr1 hf1 hv1 hk1 H1 hfv
  go_wp2_with fail
  go_loopg [3, 4, 5] n (fun k s3 v4 b5 wr => ∃ (su : RS) (x : Option WayM) (acc : List WayM) (vs : List Value) (Ou : Nat → Prop), b5 = .bool x.isSome ∧ acc.length + k ≤ n ∧ RA wr pb ts su D Ou ∧ Fr O w Ou wr ∧ AccL 305 WayC wr w.heap.size Ou D s3 acc vs ∧ FnV v4 ∧ (∀ o, x = some o → Lasts wr (fun k => Free Ou D w.heap.size k ∧ s3.ownBlock ≠ some k) (WayC v4 o)) ∧ Ok ts su ∧ moreKW tw k su x acc = some r)
  case atStart =>
    refine ⟨su, x, [], [], O1, rfl, by simp, unhide HR, unhide HF, ⟨World.ownsRow_nil _ _ _ _, fun k e => by simp [Value.ownBlock] at e, fun i v o hv => by simp at hv⟩, unhide HFV, fun o ho => ?_, unhide HK, unhide HL⟩
    exact ((unhide HV) o ho).mono (Nat.le_refl _) (fun k _ ha => ⟨rfl, ha, by simp [Value.ownBlock]⟩) (fun _ _ h => h)
  case round =>
    clear HR HF HV HK HL HFV
    obtain ⟨su, x, acc, vs, Ou, rfl, hlen, hr, hf, hacc, hfv, hv, hk, hl⟩ := hrel
    have HR := hide hr
    have HF := hide hf
    have HA := hide hacc
    have HK := hide hk
    obtain ⟨sa, sc, hsv⟩ := owns_form' hacc.own
    subst hsv
    cases x with
    | none =>
      cases hl
      clear hr hf hacc hk hv
      go_wp2_with fail
      go_ret
      refine ⟨_, _, rfl, unhide HR, unhide HF, waysL_of (unhide HA).own (show acc.length ≤ 1000000 by omega) (fun k e => ⟨((unhide HA).new k e).2, Or.inr ((unhide HA).new k e).1⟩) (fun i v o h1 h2 => ((unhide HA).elt i v o h1 h2).mono (Nat.le_refl _) (fun k _ ha => ⟨rfl, ha.1⟩) (fun _ _ h => h)), unhide HK, ⟨_, _, rfl⟩, by show acc.length ≤ _; omega⟩
    | some y =>
      have hl' : moreLp tw _ su (acc ++ [y]) = some r := hl
      obtain ⟨g, rfl⟩ := moreLpW_pos hl'
      obtain ⟨su2, x2, h3, h4⟩ := moreLpW_step hl'
      have HS := hide h3
      have HL := hide h4
      have HV := hide (hv y rfl)
      have HFV := hide hfv
      have hln : acc.length ≤ 1000 := by omega
      clear hr hf hacc hk hv hl hl' h3 h4
      have HR1 := hide ((unhide HR).alloc (box1 u4 305))
      have HA1 := hide ((unhide HA).alloc (box1 u4 305))
      have HV1 := hide ((unhide HV).mono (alloc_mono wr (box1 u4 305) (fun k => Free Ou D w.heap.size k ∧ (Value.slice sa acc.length sc).ownBlock ≠ some k)).1 (alloc_mono wr (box1 u4 305) _).2 (fun _ _ h => h))
      rcases hfv with ⟨f1, f2, f3, rfl⟩ | rfl
      ·
        go_wp2_with (at_builtin; refine wpList_append_lies _ rfl _ _ _ rfl 0 305 i0 _ 1 8 Tryz.underlying353 hi0 hz0 hz1 hz2 rfl (by omega) (.slice sa acc.length sc) acc.length vs rfl (unhide HA1).own ⟨wr.heap.size, 0, none⟩ 1 1 [.func f1 f2 f3] rfl rfl (World.news_of_block (cs := #[.func f1 f2 f3]) (t := 305) (fr := (0, 0)) (heap_alloc_new _ _)) (by simp [Value.oneCell']) (by omega) (by simp [maxLen]; omega) (by omega) (Nat.zero_le _) (wr.heap.size + 1) (by simp) ?_; intro gg cap w2 hown hgrow hat hltg)
        have HR2 := hide ((unhide HR1).grown hgrow (fun k e => ⟨((unhide HA1).new k e).2, fun hd => by have h1 := ((unhide HA1).new k e).1; have h2 := ((unhide HH).free hd).1; omega⟩))
        have HF2 := hide (((unhide HF).alloc (box1 (.func f1 f2 f3) 305)).grown hgrow (fun k e => Or.inr ((unhide HA1).new k e).1))
        have HA2 := hide (AccL.snoc (unhide HA1) (fun k ho => (unhide HR1).lt ho) (by have := (unhide HF).size; simp; omega) (unhide HV1) hgrow (hat.imp id (fun h => by simp; omega)) hown)
        have hs2 := hgrow.size
        clear hown hgrow hat hltg HR1 HA1 HV1 HV HA
        refine ((unhide HIH) _ _ _ _ _ (unhide HR2) (unhide HK) (unhide HS)).mono ?_
        rintro e w3 ⟨v3, O3, rfl, hr3, hf3, hfv3, hv3, hk3⟩
        have HR3 := hide hr3
        have HF3 := hide ((unhide HF2).trans hf3)
        have HA3 := hide ((unhide HA2).fr hf3)
        have HK3 := hide hk3
        have HFV3 := hide hfv3
        have HV3 : Hid (∀ o, x2 = some o → Lasts w3 (fun k => Free O3 D w.heap.size k ∧ (Value.slice (some ⟨gg, 0, none⟩) (acc.length + 1) cap).ownBlock ≠ some k) (WayC v3 o)) := by
          intro o ho
          refine (hv3 o ho).mono (Nat.le_refl _) (fun k _ ha => ⟨rfl, ⟨ha.1, ?_⟩, fun e => ?_⟩) (fun _ _ h => h)
          · rcases ha.2 with h1 | h1
            · exact Or.inl h1
            · exact Or.inr (by have := (unhide HF2).size; omega)
          · have e' : gg = k := by simpa [Value.ownBlock] using e
            have hl2 := ((unhide HA2).own.lt gg rfl).2
            rcases ha.2 with h1 | h1
            · have h2 := ((unhide HA2).new gg rfl).1
              have h3 := ((unhide HH).free h1).1
              omega
            · omega
        clear hr3 hf3 hv3 hk3 hfv3
        go_wp2_with fail
        go_roundg g
        case measure => omega
        case rel => exact ⟨su2, x2, acc ++ [y], _, O3, rfl, by rw [List.length_append, List.length_singleton]; omega, unhide HR3, unhide HF3, unhide HA3, unhide HFV3, unhide HV3, unhide HK3, unhide HL⟩
      ·
        go_wp2_with (at_builtin; refine wpList_append_lies _ rfl _ _ _ rfl 0 305 i0 _ 1 8 Tryz.underlying353 hi0 hz0 hz1 hz2 rfl (by omega) (.slice sa acc.length sc) acc.length vs rfl (unhide HA1).own ⟨wr.heap.size, 0, none⟩ 1 1 [.nilFunc] rfl rfl (World.news_of_block (cs := #[.nilFunc]) (t := 305) (fr := (0, 0)) (heap_alloc_new _ _)) (by simp [Value.oneCell']) (by omega) (by simp [maxLen]; omega) (by omega) (Nat.zero_le _) (wr.heap.size + 1) (by simp) ?_; intro gg cap w2 hown hgrow hat hltg)
        have HR2 := hide ((unhide HR1).grown hgrow (fun k e => ⟨((unhide HA1).new k e).2, fun hd => by have h1 := ((unhide HA1).new k e).1; have h2 := ((unhide HH).free hd).1; omega⟩))
        have HF2 := hide (((unhide HF).alloc (box1 (.nilFunc) 305)).grown hgrow (fun k e => Or.inr ((unhide HA1).new k e).1))
        have HA2 := hide (AccL.snoc (unhide HA1) (fun k ho => (unhide HR1).lt ho) (by have := (unhide HF).size; simp; omega) (unhide HV1) hgrow (hat.imp id (fun h => by simp; omega)) hown)
        have hs2 := hgrow.size
        clear hown hgrow hat hltg HR1 HA1 HV1 HV HA
        refine ((unhide HIH) _ _ _ _ _ (unhide HR2) (unhide HK) (unhide HS)).mono ?_
        rintro e w3 ⟨v3, O3, rfl, hr3, hf3, hfv3, hv3, hk3⟩
        have HR3 := hide hr3
        have HF3 := hide ((unhide HF2).trans hf3)
        have HA3 := hide ((unhide HA2).fr hf3)
        have HK3 := hide hk3
        have HFV3 := hide hfv3
        have HV3 : Hid (∀ o, x2 = some o → Lasts w3 (fun k => Free O3 D w.heap.size k ∧ (Value.slice (some ⟨gg, 0, none⟩) (acc.length + 1) cap).ownBlock ≠ some k) (WayC v3 o)) := by
          intro o ho
          refine (hv3 o ho).mono (Nat.le_refl _) (fun k _ ha => ⟨rfl, ⟨ha.1, ?_⟩, fun e => ?_⟩) (fun _ _ h => h)
          · rcases ha.2 with h1 | h1
            · exact Or.inl h1
            · exact Or.inr (by have := (unhide HF2).size; omega)
          · have e' : gg = k := by simpa [Value.ownBlock] using e
            have hl2 := ((unhide HA2).own.lt gg rfl).2
            rcases ha.2 with h1 | h1
            · have h2 := ((unhide HA2).new gg rfl).1
              have h3 := ((unhide HH).free h1).1
              omega
            · omega
        clear hr3 hf3 hv3 hk3 hfv3
        go_wp2_with fail
        go_roundg g
        case measure => omega
        case rel => exact ⟨su2, x2, acc ++ [y], _, O3, rfl, by rw [List.length_append, List.length_singleton]; omega, unhide HR3, unhide HF3, unhide HA3, unhide HFV3, unhide HV3, unhide HK3, unhide HL⟩
set_option maxRecDepth 100000 in
set_option maxHeartbeats 2000000 in
theorem oneW_said {pb : Nat} {ts : List TokP} (ht : TsOk ts) {tw : RS → Option (RS × Option WayM)} (IH : ItemSaid pb ts tw) (n : Nat) (hn : n ≤ 1000) {w : World} {st s1 : RS} {l : List WayM} {D O : Nat → Prop} (h : RA w pb ts st D O) (hk : Ok ts st) (hr : moreLp tw n st [] = some (s1, l)) :
    Calls Tryz.prog 263 #[ptr4 pb 0, .func (.func 264) #[ptr4 pb 0] #[]] w (WaysRes pb ts w D O (if l.length = 0 then failR ts s1 else s1, l)) := by
  have HM := hide (moreW_said IH n hn h hk hr)
  have HT := hide ht
  clear h hk ht IH hr
  by_cases h0 : l.length = 0
  · rw [if_pos h0]
    have hb : (((l.length : Nat) : Int) == 0) = true := by simp [h0]
    go_enter Tryz.func263, Tryz.ntmps263
    go_wp2_with fail
    refine (unhide HM).mono ?_
    rintro e w2 ⟨v, O2, rfl, hr2, hf2, hs2, hk2, ⟨va, vc, rfl⟩, hl2⟩
    have HS := hide hs2
    have HK := hide hk2
    have HR := hide hr2
    have HF := hide hf2
    have hl3 : l.length ≤ 1000000 := hl2
    clear hr2 hf2 hs2 hk2 HM hl2
    dsimp only
    generalize hN : l.length = N at *
    subst h0
    go_wp2_with (go_at_call 171; refine (fail_any (unhide HR) (unhide HK).next (unhide HT).n1).mono ?_; rintro e w1 ⟨rfl, hr1, hf1⟩; replace HR := hide hr1; replace HS := hide (Lasts.fr (unhide HS) hf1 (Nat.le_refl _)); replace HF := hide ((unhide HF).trans hf1); clear hr1 hf1)
    go_ret
    exact ⟨_, _, rfl, unhide HR, unhide HF, unhide HS, failR_ok (unhide HK), ⟨va, vc, by show Value.slice va _ vc = Value.slice va l.length vc; rw [hN]⟩, by show l.length ≤ _; omega⟩
  · rw [if_neg h0]
    have hb : (((l.length : Nat) : Int) == 0) = false := by simpa using h0
    go_enter Tryz.func263, Tryz.ntmps263
    go_wp2_with fail
    refine (unhide HM).mono ?_
    rintro e w2 ⟨v, O2, rfl, hr2, hf2, hs2, hk2, ⟨va, vc, rfl⟩, hl2⟩
    have HS := hide hs2
    have HK := hide hk2
    have HR := hide hr2
    have HF := hide hf2
    have hl3 : l.length ≤ 1000000 := hl2
    clear hr2 hf2 hs2 hk2 HM hl2
    dsimp only
    generalize hN : l.length = N at *
    go_wp2_with fail
    go_ret
    exact ⟨_, _, rfl, unhide HR, unhide HF, unhide HS, unhide HK, ⟨va, vc, by show Value.slice va _ vc = Value.slice va l.length vc; rw [hN]⟩, by show l.length ≤ _; omega⟩
theorem altLp_pos {ts : List TokP} {rd : RS → Option (RS × WayM)} {k : Nat} {st : RS} {l : List WayM} {r : RS × List WayM} (h : altLp ts rd k st l = some r) : ∃ g, k = g + 1 := by
  cases k with
  | zero => cases h
  | succ g => exact ⟨g, rfl⟩
/-- what a row's two calls give -/
def RowSaid (pb : Nat) (ts : List TokP) (n : Nat) (it : RS → Option (RS × Option WayM)) : Prop := ∀ (w : World) (st : RS) (D O : Nat → Prop) (s : RS) (m : WayM), RA w pb ts st D O → Ok ts st → rowBy ts n it st = some (s, m) →
  ∃ l, m = rowL l ∧ Calls Tryz.prog 263 #[ptr4 pb 0, .func (.func 264) #[ptr4 pb 0] #[]] w (WaysRes pb ts w D O (s, l))
theorem row_of {pb : Nat} {ts : List TokP} (ht : TsOk ts) {it : RS → Option (RS × Option WayM)} (IH : ItemSaid pb ts it) (n : Nat) (hn : n ≤ 1000) : RowSaid pb ts n it := by
  intro w st D O s m h hk hr
  unfold rowBy at hr
  cases h1 : moreLp it n st [] with
  | none => rw [h1] at hr; cases hr
  | some p =>
    obtain ⟨s1, l⟩ := p
    rw [h1] at hr
    cases hr
    exact ⟨l, rfl, oneW_said ht IH n hn h hk h1⟩
set_option maxRecDepth 100000 in
set_option maxHeartbeats 4000000 in
theorem eith_said {pb : Nat} {ts : List TokP} (ht : TsOk ts) {it : RS → Option (RS × Option WayM)} (n : Nat) (hn : n ≤ 1000) (IR : RowSaid pb ts n it) : WaySaid 215 pb ts (eithBy ts n (rowBy ts n it)) := by
  intro w st D O r h hk hr
  unfold eithBy at hr
  cases h1 : rowBy ts n it st with
  | none => rw [h1] at hr; cases hr
  | some p =>
    obtain ⟨s2, m2⟩ := p
    rw [h1] at hr
    dsimp only at hr
    obtain ⟨r1, hr1, hr2⟩ : ∃ r1, altLp ts (rowBy ts n it) n s2 [m2] = some r1 ∧ r = (r1.1, anyL r1.2) := by
      split at hr
      · cases hr
      · rename_i s l hx
        exact ⟨(s, l), hx, (Option.some.inj hr).symm⟩
    obtain ⟨l2, hl2, hc2⟩ := IR w st D O s2 m2 h hk h1
    have hmf : ∀ (fn : Fn) (first cap : Array Value) (w : World), (Instr.makeFunc fn first cap).run Tryz.prog w = .ok (.func fn first cap) w := fun _ _ _ _ => rfl
    obtain ⟨i0, hi0, hz0, hz1, hz2⟩ := info_parts Tryz.infoWay
    have HH := hide h
    have HT := hide ht
    have HL := hide hr1
    have HC := hide hc2
    have HIR := hide IR
    clear h hk ht hr hr1 h1 IR hc2
    subst hr2 hl2
    go_enter Tryz.func215, Tryz.ntmps215
    go_wp2_with fail
    refine (unhide HC).mono ?_
    rintro e w2 ⟨v2, O2, rfl, hr2, hf2, hs2, hk2, ⟨va, vc, rfl⟩, hln⟩
    have HR := hide hr2
    have HF := hide hf2
    have HS := hide hs2
    have HK2 := hide hk2
    clear hr2 hf2 hs2 hk2 HC hln
    dsimp only at HS
    go_wp2_with (go_at_call 262; refine (row_said _ _ l2 _ ((unhide HR).newFree (unhide HF)) (unhide HS) ⟨_, _, _, rfl⟩).mono ?_; rintro e w3 ⟨v3, rfl, hfv, hw3, hv⟩; obtain ⟨K0, g0, lb0, hv0, _⟩ := Lasts.now hv; have HV := hide hv; replace HR := hide ((unhide HR).alloc (box1 (.slice va l2.length vc) 353)); replace HF := hide ((unhide HF).alloc (box1 (.slice va l2.length vc) 353)); rw [← hw3] at HR HF; clear hv hfv hw3; subst hv0)
    have HA0 := hide (AccL.one (T := 305) (Q := WayC) (unhide HV) (fun k ho => (unhide HR).lt ho) (unhide HF).size rfl)
    have HR0 := hide ((unhide HR).alloc (box1 (.func (.func g0) #[] lb0) 305))
    have HF0 := hide ((unhide HF).alloc (box1 (.func (.func g0) #[] lb0) 305))
    clear HV HR HF HS
    go_loopg [3] n (fun k s3 wr => ∃ (su : RS) (acc : List WayM) (vs : List Value) (Ou : Nat → Prop), acc.length + k ≤ n + 1 ∧ RA wr pb ts su D Ou ∧ Fr O w Ou wr ∧ AccL 305 WayC wr w.heap.size Ou D s3 acc vs ∧ Ok ts su ∧ altLp ts (rowBy ts n it) k su acc = some r1)
    case atStart => exact ⟨s2, [rowL l2], _, O2, by simp; omega, unhide HR0, unhide HF0, unhide HA0, unhide HK2, unhide HL⟩
    case round =>
      clear HA0 HR0 HF0 HK2 HL
      obtain ⟨su, acc, vs, Ou, hlen, hr, hf, hacc, hk, hl⟩ := hrel
      obtain ⟨g, rfl⟩ := altLp_pos hl
      obtain ⟨sa, sc, hsv⟩ := owns_form' hacc.own
      subst hsv
      have hln : acc.length ≤ 1001 := by omega
      by_cases h35 : kindR ts su = 35
      · rw [altLp, if_pos h35] at hl
        cases h1 : rowBy ts n it (goR ts su) with
        | none => rw [h1] at hl; cases hl
        | some p =>
          obtain ⟨s5, m5⟩ := p
          rw [h1] at hl
          dsimp only at hl
          have HTO := hide (took_yes hr hk (unhide HT) 35 h35)
          have HKG := hide (goR_ok' hk (unhide HT) h35 (by decide))
          have HLL := hide hl
          have HF := hide hf
          have HA := hide hacc
          have H1 := hide h1
          clear hr hf hacc hk hl h35 h1
          go_wp2_with (go_at_call 211; refine (unhide HTO).mono ?_; clear HTO; rintro e w3 ⟨rfl, O3, hr3, hf3⟩; have HR := hide hr3; replace HA := hide ((unhide HA).fr hf3); replace HF := hide ((unhide HF).trans hf3); clear hr3 hf3)
          obtain ⟨l5, rfl, hc5⟩ := (unhide HIR) _ _ _ _ _ _ (unhide HR) (unhide HKG) (unhide H1)
          refine hc5.mono ?_
          rintro e w4 ⟨v4, O4, rfl, hr4, hf4, hs4, hk4, ⟨wa, wc, rfl⟩, hln4⟩
          clear hc5
          have hlt3 := ((unhide HA).own.lt)
          have HS := hide (show Lasts w4 (fun k => Free O4 D w.heap.size k ∧ (Value.slice sa acc.length sc).ownBlock ≠ some k) (WaysC (.slice wa l5.length wc) l5) from hs4.mono (Nat.le_refl _) (fun k _ ha => ⟨rfl, ⟨ha.1, ha.2.imp id (fun h => by have := (unhide HF).size; omega)⟩, fun e => by
            rcases ha.2 with h1 | h1
            · have h2 := ((unhide HA).new k e).1
              have h3 := ((unhide HH).free h1).1
              omega
            · have h2 := (hlt3 k e).2
              omega⟩) (fun _ _ h => h))
          replace HA := hide ((unhide HA).fr hf4)
          replace HF := hide ((unhide HF).trans hf4)
          replace HR := hide hr4
          have HK4 := hide hk4
          have hlt4 := hide ((unhide HA).own.lt)
          clear hr4 hf4 hs4 hk4 hln4 hlt3
          dsimp only
          go_wp2_with (first
            | (go_at_call 262; refine (row_said _ _ l5 _ (fun k hk => ⟨(unhide HR).newFree (unhide HF) k hk, fun e => by have := ((unhide hlt4) k e).2; omega⟩) (unhide HS) ⟨_, _, _, rfl⟩).mono ?_; rintro e w5 ⟨v5, rfl, hfv, hw5, hv⟩; obtain ⟨K1, g1, lb1, hv1, _⟩ := Lasts.now hv; have HV := hide hv; replace HR := hide ((unhide HR).alloc (box1 (.slice wa l5.length wc) 353)); replace HF := hide ((unhide HF).alloc (box1 (.slice wa l5.length wc) 353)); replace HA := hide ((unhide HA).alloc (box1 (.slice wa l5.length wc) 353)); rw [← hw5] at HR HF HA; clear hv hfv hw5; subst hv1; have HA1 := hide ((unhide HA).alloc (box1 (.func (.func g1) #[] lb1) 305)); have HR1 := hide ((unhide HR).alloc (box1 (.func (.func g1) #[] lb1) 305)); have HV1 := hide ((unhide HV).mono (alloc_mono _ (box1 (.func (.func g1) #[] lb1) 305) (fun k => Free O4 D w.heap.size k ∧ (Value.slice sa acc.length sc).ownBlock ≠ some k)).1 (alloc_mono _ (box1 (.func (.func g1) #[] lb1) 305) _).2 (fun _ _ h => h)))
            | (at_builtin; refine wpList_append_lies _ rfl _ _ _ rfl 0 305 i0 _ 1 8 Tryz.underlying353 hi0 hz0 hz1 hz2 rfl (by omega) (.slice sa acc.length sc) acc.length vs rfl (unhide HA1).own ⟨w5.heap.size, 0, none⟩ 1 1 [.func (.func g1) #[] lb1] rfl rfl (World.news_of_block (cs := #[.func (.func g1) #[] lb1]) (t := 305) (fr := (0, 0)) (heap_alloc_new _ _)) (by simp [Value.oneCell']) (by omega) (by simp [maxLen]; omega) (by omega) (Nat.zero_le _) (w5.heap.size + 1) (by simp) ?_; intro gg cap w6 hown hgrow hat hltg))
          have HR2 := hide ((unhide HR1).grown hgrow (fun k e => ⟨((unhide HA1).new k e).2, fun hd => by have h1 := ((unhide HA1).new k e).1; have h2 := ((unhide HH).free hd).1; omega⟩))
          have HF2 := hide (((unhide HF).alloc (box1 (.func (.func g1) #[] lb1) 305)).grown hgrow (fun k e => Or.inr ((unhide HA1).new k e).1))
          have HA2 := hide (AccL.snoc (unhide HA1) (fun k ho => (unhide HR1).lt ho) (by have := (unhide HF).size; simp; omega) (unhide HV1) hgrow (hat.imp id (fun h => by simp; omega)) hown)
          clear hown hgrow hat hltg HR1 HA1 HV1 HV HA
          go_roundg g
          case measure => omega
          case rel => exact ⟨s5, acc ++ [rowL l5], _, O4, by rw [List.length_append, List.length_singleton]; omega, unhide HR2, unhide HF2, unhide HA2, unhide HK4, unhide HLL⟩
      · have hl' : (su, acc) = r1 := by rw [altLp, if_neg h35] at hl; exact Option.some.inj hl
        have HTO := hide (took_no hr hk (unhide HT) 35 h35)
        have HF := hide hf
        have HA := hide hacc
        have HK := hide hk
        subst hl'
        dsimp only
        clear hr hf hacc hk hl h35
        go_wp2_with (first
          | (go_at_call 211; refine (unhide HTO).mono ?_; clear HTO; rintro e w3 ⟨rfl, hr3, hf3⟩; have HR := hide hr3; replace HA := hide ((unhide HA).fr hf3); replace HF := hide ((unhide HF).trans hf3); clear hr3 hf3)
          | (go_at_call 265; refine (oneOf_said _ _ acc (Free Ou D w.heap.size) ((unhide HR).newFree (unhide HF)) (waysL_of (unhide HA).own (by omega) (fun k e => ⟨((unhide HA).new k e).2, Or.inr ((unhide HA).new k e).1⟩) (fun i v o h1 h2 => ((unhide HA).elt i v o h1 h2).mono (Nat.le_refl _) (fun k _ ha => ⟨rfl, ha.1⟩) (fun _ _ h => h))) ⟨_, _, _, rfl⟩).mono ?_; rintro e w5 ⟨v, rfl, hfv, rfl, hv⟩; obtain ⟨K1, g1, lb1, hv1, _⟩ := Lasts.now hv; have HV := hide hv; have HFV := hide hfv; clear hv hfv; subst hv1))
        go_ret
        exact ⟨_, _, rfl, (unhide HR).alloc _, (unhide HF).alloc _, unhide HFV, unhide HV, unhide HK⟩
theorem either_said {pb : Nat} {ts : List TokP} (ht : TsOk ts) (n : Nat) (hn : n ≤ 1000) : ∀ f, WaySaid 215 pb ts (eithTw ts n f)
  | 0 => fun w st D O r h hk hr => by cases hr
  | f + 1 => eith_said ht n hn (row_of ht (item_said ht n (either_said ht n hn f)) n hn)
end Go.Proofs.YtgdeeodifnegiaaGreatDoor

namespace Go.Proofs.YtgdeeodifnegiaaGreatDoor
open Go.RowKit

theorem RAt.addWay {w w1 w2 : World} {pb : Nat} {ts : List TokP} {st : RS} {D : Nat → Prop} {tb tc : Nat} {dv av bv : Value} (h : RAt w pb ts st D tb tc dv av bv) (hb : Below w.heap.size w w1) {g cap n0 : Nat} {name : ByteArray} {v : Value} {m : WayM}
    (hv : Lasts w (Free (ROwn pb tb dv bv) D n0) (WayC v m)) {xs : List (ByteArray × Value × Value)} (hx2 : xs.length = st.defs.length) (hx3 : ∀ (i : Nat) (d : DefP) (x : ByteArray × Value × Value), st.defs[i]? = some d → xs[i]? = some x → DefRep w (fun k => ¬ ROwn pb tb dv bv k ∧ D k) d x)
    (hown : w2.ownsRow 0 307 3 (.slice (some ⟨g, 0, none⟩) (st.defs.length + 1) cap) (st.defs.length + 1) (defCells xs ++ [.string name, .nilFunc, v])) (hg : w1.grownBy w2 dv.ownBlock) (hat : dv.ownBlock = some g ∨ g = w1.heap.size) :
    ∃ D', (∀ k, D' k → D k ∨ n0 ≤ k) ∧ RA (w2.setCell ⟨pb, 3, none⟩ (.slice (some ⟨g, 0, none⟩) (st.defs.length + 1) cap)) pb ts (addDefR st ⟨name, none, some m⟩) D' (ROwn pb tb (.slice (some ⟨g, 0, none⟩) (st.defs.length + 1) cap) bv) ∧
      Fr (ROwn pb tb dv bv) w (ROwn pb tb (.slice (some ⟨g, 0, none⟩) (st.defs.length + 1) cap) bv) (w2.setCell ⟨pb, 3, none⟩ (.slice (some ⟨g, 0, none⟩) (st.defs.length + 1) cap)) := by
  obtain ⟨K, hK, hQ⟩ := hv
  have hpl := heap_lt h.blk
  have hs1 := hb.size
  have hs2 := hg.size
  have hag : ∀ k, k < w.heap.size → k ≠ pb → dv.ownBlock ≠ some k → (w2.setCell ⟨pb, 3, none⟩ (.slice (some ⟨g, 0, none⟩) (st.defs.length + 1) cap)).heap[k]? = w.heap[k]? := fun k hk hne hd =>
    (heap_set_other hne).trans ((hg.block k (by omega) (fun e => hd e.symm)).trans (hb.block k hk))
  have hpb : w2.heap[pb]? = w.heap[pb]? := (hg.block pb (by omega) (fun e => h.ne4 e.symm)).trans (hb.block pb hpl)
  have hgp : g ≠ pb := fun e => by
    rcases hat with h1 | h1
    · exact h.ne4 (by rw [h1, e])
    · omega
  have hss : (w2.setCell ⟨pb, 3, none⟩ (.slice (some ⟨g, 0, none⟩) (st.defs.length + 1) cap)).heap.size = w2.heap.size := by simp [World.setCell]
  have hgo : ∀ k, k < w.heap.size → dv.ownBlock ≠ some k → g ≠ k := fun k hk hd e => by
    rcases hat with h1 | h1
    · exact hd (by rw [h1, e])
    · omega
  have hno : ∀ k, k < w.heap.size → ¬ ROwn pb tb dv bv k → ¬ ROwn pb tb (.slice (some ⟨g, 0, none⟩) (st.defs.length + 1) cap) bv k := fun k hk hn ho => by
    rcases ho with e | e | e | e
    · exact hn (Or.inl e)
    · exact hn (Or.inr (Or.inl e))
    · exact hn (Or.inr (Or.inr (Or.inl e)))
    · have e' : g = k := by simpa [Value.ownBlock] using e
      exact hgo k hk (fun e2 => hn (Or.inr (Or.inr (Or.inr e2)))) e'
  have hagn : ∀ k, k < w.heap.size → ¬ ROwn pb tb dv bv k → (w2.setCell ⟨pb, 3, none⟩ (.slice (some ⟨g, 0, none⟩) (st.defs.length + 1) cap)).heap[k]? = w.heap[k]? := fun k hk hn =>
    hag k hk (fun e => hn (Or.inl e)) (fun e => hn (Or.inr (Or.inr (Or.inr e))))
  refine ⟨fun k => D k ∨ K k, fun k hk => hk.elim Or.inl (fun h1 => (hK k h1).2.2), ⟨tb, tc, _, av, bv, ⟨?_, ?_, ?_, h.used, ?_, h.ne1, h.ne2, h.ne3, ?_, ?_, ?_, ?_⟩, rfl⟩, ?_⟩
  · rw [heap_set (hpb.trans h.blk)]; rfl
  · exact owns_of h.toks (fun k e => by
      have e' : tb = k := by simpa [Value.ownBlock] using e
      subst e'
      exact hag tb (h.lt (Or.inr (Or.inl rfl))) h.ne1 h.ne5)
  · exact owns_of h.page (fun k e => hag k (h.lt (Or.inr (Or.inr (Or.inl e)))) (fun e2 => h.ne2 (by rw [e, e2])) (fun e2 => by
      rcases h.ne6 with h1 | h1
      · rw [h1] at e; cases e
      · exact h1 (e.trans e2.symm)))
  · refine ⟨xs ++ [(name, .nilFunc, v)], ?_, by simp [addDefR, hx2], fun i d x hd hx => ?_⟩
    · have e1 : defCells (xs ++ [(name, .nilFunc, v)]) = defCells xs ++ [.string name, .nilFunc, v] := by simp [defCells]
      rw [e1]
      have e2 : (addDefR st ⟨name, none, some m⟩).defs.length = st.defs.length + 1 := by simp [addDefR]
      rw [e2]
      exact owns_of hown (fun k e => by
        have e' : g = k := by simpa [Value.ownBlock] using e
        subst e'
        exact heap_set_other hgp)
    · have hd' : (st.defs ++ [(⟨name, none, some m⟩ : DefP)])[i]? = some d := hd
      rcases Nat.lt_or_ge i st.defs.length with hi | hi
      · rw [List.getElem?_append_left hi] at hd'
        rw [List.getElem?_append_left (by omega)] at hx
        exact (hx3 i d x hd' hx).mono (by omega) (fun k hk ha => ⟨hagn k hk ha.1, hno k hk ha.1, Or.inl ha.2⟩)
      · rw [List.getElem?_append_right hi] at hd'
        rw [List.getElem?_append_right (by omega)] at hx
        have hi0 : i - st.defs.length = 0 := by
          rcases Nat.eq_zero_or_pos (i - st.defs.length) with h1 | h1
          · exact h1
          · rw [List.getElem?_eq_none (by simp; omega)] at hd'; cases hd'
        rw [hi0] at hd'
        rw [hx2, hi0] at hx
        simp at hd' hx
        subst hd' hx
        refine ⟨rfl, rfl, ⟨K, fun k hk => ⟨by have := (hK k hk).1; omega, hno k (hK k hk).1 (hK k hk).2.1, Or.inr hk⟩, fun V hV hk => hQ V (by omega) (fun k h1 => (hk k h1).trans (hagn k (hK k h1).1 (hK k h1).2.1))⟩⟩
  · intro e
    have e' : g = pb := by simpa [Value.ownBlock] using e
    exact hgp e'
  · intro e
    have e' : g = tb := by simpa [Value.ownBlock] using e
    exact hgo tb (h.lt (Or.inr (Or.inl rfl))) h.ne5 e'
  · cases hbo : bv.ownBlock with
    | none => exact Or.inl rfl
    | some k =>
      right
      intro e
      have e' : k = g := by simpa [Value.ownBlock] using e
      have hkl := h.lt (Or.inr (Or.inr (Or.inl hbo)))
      refine hgo k hkl (fun e2 => ?_) e'.symm
      rcases h.ne6 with h1 | h1
      · rw [h1] at hbo; cases hbo
      · exact h1 (hbo.trans e2.symm)
  · intro k hk
    rcases hk with h1 | h1
    · exact ⟨by have := (h.free k h1).1; omega, hno k (h.free k h1).1 (h.free k h1).2⟩
    · exact ⟨by have := (hK k h1).1; omega, hno k (hK k h1).1 (hK k h1).2.1⟩
  · have hF : Fr (ROwn pb tb dv bv) w (ROwn pb tb dv bv) w2 := (Fr.of_below hb).grown hg (fun k e => Or.inl (Or.inr (Or.inr (Or.inr e))))
    refine (hF.reown (O2 := ROwn pb tb (.slice (some ⟨g, 0, none⟩) (st.defs.length + 1) cap) bv) (fun k hk => ?_)).setCell (Or.inl (Or.inl rfl)) _
    rcases hk with e | e | e | e
    · exact Or.inl (Or.inl e)
    · exact Or.inl (Or.inr (Or.inl e))
    · exact Or.inl (Or.inr (Or.inr (Or.inl e)))
    · have e' : g = k := by simpa [Value.ownBlock] using e
      rcases hat with h1 | h1
      · exact Or.inl (Or.inr (Or.inr (Or.inr (by rw [h1, e']))))
      · exact Or.inr (by omega)
set_option maxRecDepth 100000 in
set_option maxHeartbeats 4000000 in
theorem def_way {pb : Nat} {ts : List TokP} (ht : TsOk ts) {ei : RS → Option (RS × WayM)} (IE : WaySaid 215 pb ts ei) {w : World} {st : RS} {D O : Nat → Prop} (h : RA w pb ts st D O) (hk : Ok ts st) (e5 : kindR ts st = 6) {s : RS} {m : WayM} (hdl : (takeR ts 27 s).1.defs.length ≤ 1000)
    (hr : ei (takeR ts 26 (newNameR ts (goR ts st)).1).1 = some (s, m)) :
    Calls Tryz.prog 167 #[ptr4 pb 0] w (DefRes pb ts w D O (addDefR (takeR ts 27 s).1 ⟨(newNameR ts (goR ts st)).2, none, some m⟩, true)) := by
  have HT := hide ht
  have HK := hide hk
  have HE := hide e5
  have HRG := hide IE
  have n5 := hide (show kindR ts st ≠ 5 by rw [e5]; decide)
  have HG := hide (goR_ok' hk ht e5 (by decide))
  have HG2 := hide (newNameR_ok (unhide HG) ht)
  have HG3 := hide (takeR_ok (k := 26) (unhide HG2) ht (by decide))
  have HS := hide hr
  have HF := hide ((Fr.refl O w).alloc (defBlk ⟨#[]⟩ .nilFunc .nilFunc))
  have HR := hide (h.alloc (defBlk ⟨#[]⟩ .nilFunc .nilFunc))
  have HND : Hid (¬ D w.heap.size) := fun hd => by have := (h.free hd).1; omega
  have HB := hide (And.intro (heap_alloc_new w (defBlk ⟨#[]⟩ .nilFunc .nilFunc)) (show ¬ O w.heap.size from fun ho => by have := h.lt ho; omega))
  clear h hk ht e5 IE hr
  generalize hNN : newNameR ts (goR ts st) = NN at *
  obtain ⟨s2, nm⟩ := NN
  dsimp only at HG2 HG3 HS ⊢
  go_enter Tryz.func167, Tryz.ntmps167
  go_wp2_with (first
    | (go_at_call 211; refine (took_no (unhide HR) (unhide HK) (unhide HT) 5 (unhide n5)).mono ?_; rintro e w1 ⟨rfl, hr1, hf1⟩; replace HB := hide (fr_keeps hf1 (unhide HB).1 (unhide HB).2); replace HR := hide hr1; replace HF := hide ((unhide HF).trans hf1); clear hr1 hf1 n5)
    | (go_at_call 211; refine (took_yes (unhide HR) (unhide HK) (unhide HT) 6 (unhide HE)).mono ?_; clear HE; rintro e w1 ⟨rfl, O1, hr1, hf1⟩; replace HB := hide (fr_keeps hf1 (unhide HB).1 (unhide HB).2); replace HR := hide hr1; replace HF := hide ((unhide HF).trans hf1); clear hr1 hf1)
    | (go_at_call 212; refine (newName_any (unhide HT) (unhide HR) (unhide HG)).mono ?_; rw [hNN]; rintro e w2 ⟨rfl, O2, hr2, hf2⟩; dsimp only; replace HB := hide (fr_keeps hf2 (unhide HB).1 (unhide HB).2); have c0 : w2.cell? ⟨w.heap.size, 0, none⟩ = some (.string ⟨#[]⟩) := cell_of_heap (unhide HB).1; have z0 : w2.frozen? ⟨w.heap.size, 0, none⟩ = false := frozen_of_heap (unhide HB).1; replace HR := hide (hr2.other ⟨(unhide HB).2, unhide HND⟩ 0 (.string nm)); replace HF := hide (((unhide HF).trans hf2).setCell (p := ⟨w.heap.size, 0, none⟩) (Or.inr (Nat.le_refl _)) (.string nm)); replace HB := hide (And.intro (show (w2.setCell ⟨w.heap.size, 0, none⟩ (.string nm)).heap[w.heap.size]? = some (defBlk nm .nilFunc .nilFunc) from (heap_set (unhide HB).1).trans rfl) (unhide HB).2); clear hr2 hf2)
    | (go_at_call 213; refine (take_any (unhide HR) (unhide HG2) (unhide HT) 26).mono ?_; clear HG2; rintro e w3 ⟨rfl, O3, hr3, hf3⟩; replace HB := hide (fr_keeps hf3 (unhide HB).1 (unhide HB).2); replace HR := hide hr3; replace HF := hide ((unhide HF).trans hf3); clear hr3 hf3 c0 z0)
    | (go_at_call 215; refine ((unhide HRG) _ _ _ _ _ (unhide HR) (unhide HG3) (unhide HS)).mono ?_; clear HRG; rintro e w4 ⟨v, O4, rfl, hr4, hf4, hfv, hv, hk4⟩; have hbd : w.heap.size < w3.heap.size := heap_lt (unhide HB).1; obtain ⟨K1, g1, lb1, hv1, _⟩ := Lasts.now hv; replace HB := hide (fr_keeps hf4 (unhide HB).1 (unhide HB).2); have c1 : w4.cell? ⟨w.heap.size, 2, none⟩ = some .nilFunc := cell_of_heap (unhide HB).1; have z1 : w4.frozen? ⟨w.heap.size, 2, none⟩ = false := frozen_of_heap (unhide HB).1; have HV := hide (show Lasts (w4.setCell ⟨w.heap.size, 2, none⟩ v) (Free O4 D w3.heap.size) (WayC v m) from hv.mono (by simp [World.setCell]) (fun k hk ha => ⟨heap_set_other (fun e => by (have e' : k = w.heap.size := e); subst e'; (rcases ha.2 with h1 | h1); (exact (unhide HND) h1); omega), ha⟩) (fun _ _ h => h)); replace HR := hide (hr4.other ⟨(unhide HB).2, unhide HND⟩ 2 v); replace HF := hide (((unhide HF).trans hf4).setCell (p := ⟨w.heap.size, 2, none⟩) (Or.inr (Nat.le_refl _)) v); replace HB := hide (And.intro (show (w4.setCell ⟨w.heap.size, 2, none⟩ v).heap[w.heap.size]? = some (defBlk nm .nilFunc v) from (heap_set (unhide HB).1).trans rfl) (unhide HB).2); have HK4 := hide hk4; clear hr4 hf4 hv hk4 hfv; subst hv1)
    | (go_at_call 213; refine (take_any (unhide HR) (unhide HK4) (unhide HT) 27).mono ?_; rintro e w5 ⟨rfl, O5, hr5, hf5⟩; replace HB := hide (fr_keeps hf5 (unhide HB).1 (unhide HB).2); replace HV := hide (Lasts.fr (unhide HV) hf5 (Nat.le_refl _)); replace HR := hide hr5; replace HF := hide ((unhide HF).trans hf5); clear hr5 hf5 c1 z1))
  have HK5 := hide (takeR_ok (k := 27) (unhide HK4) (unhide HT) (by decide))
  generalize takeR ts 27 s = P5 at *
  obtain ⟨s5, t5⟩ := P5
  dsimp only at HK5 hdl HR ⊢
  obtain ⟨tb, tc, dv, av, bv, hrt, hO5⟩ := unhide HR
  subst hO5
  obtain ⟨xs, hx1, hx2, hx3⟩ := hrt.defs
  obtain ⟨i0, hi0, hz0, hz1, hz2⟩ := info_parts Tryz.infoDef
  obtain ⟨da, dc, hdv⟩ := owns_form' hx1
  have hbe : Below w5.heap.size w5 (w5.alloc (defBlk nm .nilFunc (.func (.func g1) #[] lb1))).drew := ((Below.refl _ _).alloc (Nat.le_refl _) _).drew
  have cdv : w5.cell? ⟨pb, 3, none⟩ = some dv := cell_of_heap hrt.blk
  have hpl := heap_lt hrt.blk
  have d0 : w5.cell? ⟨w.heap.size, 0, none⟩ = some (.string nm) := cell_of_heap (unhide HB).1
  have d1 : w5.cell? ⟨w.heap.size, 1, none⟩ = some .nilFunc := cell_of_heap (unhide HB).1
  have d2 : w5.cell? ⟨w.heap.size, 2, none⟩ = some (.func (.func g1) #[] lb1) := cell_of_heap (unhide HB).1
  have ld := heap_lt (unhide HB).1
  have HX1 := hide hx1
  have HX2 := hide hx2
  have HX3 := hide hx3
  have HRT := hide hrt
  have HBE := hide hbe
  clear hbe hx1 hx2 hx3 hrt HR HB
  subst hdv
  go_region_law ((refine step_append_lies _ (by rfl) _ _ _ (by rfl) 0 307 i0 _ 3 32 Tryz.underlying201 hi0 hz0 hz1 hz2 rfl (by omega) (.slice da s5.defs.length dc) s5.defs.length (defCells xs) (by rfl) (((unhide HX1).alloc _).drew) ⟨w5.heap.size, 0, none⟩ 1 1 [.string nm, .nilFunc, .func (.func g1) #[] lb1] (by rfl) rfl (World.news_of_block (cs := #[.string nm, .nilFunc, .func (.func g1) #[] lb1]) (t := 307) (fr := (0, 0)) (heap_alloc_new w5 _)) (by simp [Value.oneCell']) (by omega) (by unfold maxLen; omega) (by omega) (Nat.zero_le _) _ rfl ?_); (intro g cap w7 hown hg hat hgl; obtain ⟨D', hDD, hra, hfr⟩ := (unhide HRT).addWay (unhide HBE) (unhide HV) (unhide HX2) (unhide HX3) hown hg hat; have hp7 : w7.heap[pb]? = w5.heap[pb]? := (hg.block pb (Nat.lt_of_lt_of_le hpl (unhide HBE).size) (fun e => (unhide HRT).ne4 e.symm)).trans ((unhide HBE).block pb hpl); have cd7 : w7.cell? ⟨pb, 3, none⟩ = some (.slice da s5.defs.length dc) := (World.cell?_of_block (a := ⟨pb, 3, none⟩) hp7).trans cdv; have zd7 : w7.frozen? ⟨pb, 3, none⟩ = false := (World.frozen?_of_block (a := ⟨pb, 3, none⟩) hp7).trans (frozen_of_heap (unhide HRT).blk); have HDD := hide hDD; have HRA := hide hra; have HFR := hide hfr; clear hDD hra hfr hown hg hat hp7))
  all_goals
    go_wp2_with fail
    go_ret
    exact ⟨rfl, _, _, unhide HRA, (unhide HF).trans (unhide HFR), fun k hk => ((unhide HDD) k hk).imp id (fun h => by omega), ⟨(unhide HK5).next, (unhide HK5).page, (unhide HK5).gap⟩⟩
end Go.Proofs.YtgdeeodifnegiaaGreatDoor

namespace Go.Proofs.YtgdeeodifnegiaaGreatDoor
open Go.RowKit

/-! ## what is defined is not touched elsewhere -/
theorem takeR_defs (ts : List TokP) (k : Int) (st : RS) : (takeR ts k st).1.defs = st.defs := by
  unfold takeR; split <;> rfl
theorem withinR_defs (ts : List TokP) (a b : Int) (st : RS) : (withinR ts a b st).1.defs = st.defs := by
  unfold withinR; dsimp only; split
  · exact takeR_defs ts 2 st
  · exact takeR_defs ts 2 st
theorem newNameR_defs (ts : List TokP) (st : RS) : (newNameR ts st).1.defs = st.defs := by
  unfold newNameR; dsimp only; split
  · exact takeR_defs ts 4 st
  · exact takeR_defs ts 4 st
theorem oneRangeR_defs (ts : List TokP) (st : RS) : (oneRangeR ts st).1.defs = st.defs := by
  unfold oneRangeR; split
  · dsimp only; rw [withinR_defs, withinR_defs, takeR_defs]
  · exact takeR_defs ts 3 st
theorem rangesLp_defs (ts : List TokP) : ∀ (n : Nat) (st : RS) (l : List SetM) (r : RS × List SetM), rangesLp ts n st l = some r → r.1.defs = st.defs
  | 0, _, _, _, h => by cases h
  | n + 1, st, l, r, h => by
    rw [rangesLp] at h
    split at h
    · rw [rangesLp_defs ts n _ _ r h, oneRangeR_defs]; rfl
    · cases h; rfl
theorem rangesR_defs {ts : List TokP} {n : Nat} {st : RS} {r : RS × SetM} (h : rangesR ts n st = some r) : r.1.defs = st.defs := by
  unfold rangesR at h
  split at h
  · cases h
  · rename_i s l hx
    cases h
    dsimp only
    rw [takeR_defs, rangesLp_defs ts n _ _ _ hx, oneRangeR_defs, takeR_defs]
def defsLp (ts : List TokP) (n : Nat) : Nat → RS → Option RS
  | 0, st => some st
  | k + 1, st => match defR ts n st with
    | none => none
    | some (s, true) => defsLp ts n k s
    | some (s, false) => some s
def policyD (ts : List TokP) (n : Nat) (stmt : RS → Option (RS × Option (Option StpM))) (st : RS) : Option (RS × List (Option StpM)) :=
  match defsLp ts n 8 st with
  | none => none
  | some s => policyTw ts n stmt s
theorem StepsL.allow {w : World} {A A' : Nat → Prop} {v : Value} {l : List (Option StpM)} (h : StepsL w A v l) (hb : ∀ k, k < w.heap.size → A k → A' k) : StepsL w A' v l :=
  ⟨h.1, fun ms hms => (h.2 ms hms).allow hb⟩
set_option maxRecDepth 100000 in
set_option maxHeartbeats 4000000 in
theorem policyD_said {pb : Nat} {ts : List TokP} (ht : TsOk ts) (hL : LenOk ts) {tw : RS → Option (RS × Option (Option StpM))} (IH : StmtSaid pb ts tw) (n : Nat) (hn : n ≤ 1000) {w : World} {st : RS} {r : RS × List (Option StpM)} {O : Nat → Prop} (h : RA w pb ts st (fun _ => False) O) (hk : Ok ts st) (hd0 : st.defs = []) (hr : policyD ts n tw st = some r) :
    Calls Tryz.prog 110 #[ptr4 pb 0] w (PolRes pb ts w O r) := by
  unfold policyD at hr
  cases hs : defsLp ts n 8 st with
  | none => rw [hs] at hr; cases hr
  | some sF =>
  rw [hs] at hr
  dsimp only at hr
  unfold policyTw at hr
  cases h1 : moreLp tw n sF [] with
  | none => rw [h1] at hr; cases hr
  | some p =>
    obtain ⟨s1, l⟩ := p
    rw [h1] at hr
    have hmf : ∀ (fn : Fn) (first cap : Array Value) (w : World), (Instr.makeFunc fn first cap).run Tryz.prog w = .ok (.func fn first cap) w := fun _ _ _ _ => rfl
    have HO := hide (fun W D O (hW : RA W pb ts sF D O) (hk : Ok ts sF) => one_said ht IH n hn hW hk h1)
    have HT := hide ht
    have HLL := hide hL
    have hq : r = (if kindR ts (if l.length = 0 then failR ts s1 else s1) = 1 then (if l.length = 0 then failR ts s1 else s1) else failR ts (if l.length = 0 then failR ts s1 else s1), l) := (Option.some.inj hr).symm
    have HR := hide h
    have HK := hide hk
    have HSF := hide hs
    have hdl : st.defs.length = 0 := by rw [hd0]; rfl
    clear h hk ht IH h1 hr hs hL hd0
    generalize (if l.length = 0 then failR ts s1 else s1) = s2 at *
    go_enter Tryz.func110, Tryz.ntmps110
    go_wp2_with fail
    go_loopg [3] 8 (fun k i wr => ∃ (j : Nat) (su : RS) (Dj Oj : Nat → Prop), i = .int .i64 (j : Int) ∧ j + k = 8 ∧ su.defs.length ≤ j ∧ RA wr pb ts su Dj Oj ∧ Fr O w Oj wr ∧ (∀ q, Dj q → w.heap.size ≤ q) ∧ Ok ts su ∧ defsLp ts n (8 - j) su = some sF)
    case atStart => exact ⟨0, st, _, O, rfl, rfl, by omega, unhide HR, Fr.refl _ _, fun q hq => hq.elim, unhide HK, unhide HSF⟩
    case round =>
      clear HR HK HSF
      obtain ⟨j, su, Dj, Oj, rfl, hjk, hdj, hr, hf, hDj, hk, hl⟩ := hrel
      have HF := hide hf
      have HDJ := hide hDj
      have HK := hide hk
      have hws := hf.size
      by_cases hj8 : j < 8
      · rw [show 8 - j = (7 - j) + 1 by omega, defsLp, defR] at hl
        by_cases k5 : kindR ts su = 5
        · rw [if_pos k5] at hl
          cases hrg : rangesR ts n (takeR ts 26 (newNameR ts (goR ts su)).1).1 with
          | none => rw [hrg] at hl; cases hl
          | some q =>
            obtain ⟨sq, mq⟩ := q
            rw [hrg] at hl
            dsimp only at hl
            have hdd : (takeR ts 27 sq).1.defs = su.defs := by
              rw [takeR_defs]
              have := rangesR_defs hrg
              dsimp only at this
              rw [this, takeR_defs, newNameR_defs]; rfl
            have HD := hide (def_set (unhide HT) (unhide HLL) n hn hr hk k5 (by rw [hdd]; omega) hrg)
            have HL := hide hl
            have hdn : (addDefR (takeR ts 27 sq).1 ⟨(newNameR ts (goR ts su)).2, some mq, none⟩).defs.length ≤ j + 1 := by
              show ((takeR ts 27 sq).1.defs ++ [_]).length ≤ _
              rw [hdd]; simp; omega
            clear hr hf hDj hk hl k5 hrg hdd
            generalize addDefR (takeR ts 27 sq).1 ⟨(newNameR ts (goR ts su)).2, some mq, none⟩ = sN at *
            go_wp2_with (go_at_call 167; refine (unhide HD).mono ?_; rintro e w1 ⟨rfl, D1, O1, hr1, hf1, hD1, hk1⟩; have HR1 := hide hr1; have HK1 := hide hk1; have HD1 := hide hD1; replace HF := hide ((unhide HF).trans hf1); clear hr1 hf1 hD1 hk1)
            have hwr := (unhide HF).size
            go_roundg (8 - (j + 1))
            case measure => omega
            case rel => exact ⟨j + 1, sN, D1, O1, by go_num, by omega, hdn, unhide HR1, unhide HF, fun q hq => ((unhide HD1) q hq).elim ((unhide HDJ) q) (fun h => by omega), unhide HK1, by rw [show 8 - (j + 1) = 7 - j by omega]; exact unhide HL⟩
        · rw [if_neg k5] at hl
          by_cases k6 : kindR ts su = 6
          · rw [if_pos k6] at hl; cases hl
          · rw [if_neg k6] at hl
            dsimp only at hl
            obtain rfl : su = sF := Option.some.inj hl
            have HD := hide (def_no (unhide HT) hr hk k5 k6)
            clear hr hf hDj hk hl k5 k6
            by_cases e1 : kindR ts s2 = 1
            · rw [if_pos e1] at hq
              have HQ := hide hq
              have HE := hide e1
              clear hq e1
              go_wp2_with (first
                | (go_at_call 167; refine (unhide HD).mono ?_; clear HD; rintro e w1 ⟨rfl, hr1, hf1⟩; have HR := hide hr1; replace HF := hide ((unhide HF).trans hf1); clear hr1 hf1))
              refine ((unhide HO) _ _ _ (unhide HR) (unhide HK)).mono ?_
              rintro e w2 ⟨v, O2, rfl, hr2, hf2, hs2, hk2, ⟨va, vc, rfl⟩, hl2⟩
              have HS := hide (hs2.fr (Fr.refl _ _) (unhide HF).size)
              have HK2 := hide hk2
              have HL2 := hide hl2
              replace HR := hide hr2
              replace HF := hide ((unhide HF).trans hf2)
              clear hr2 hf2 hs2 hk2 hl2
              go_wp2_with (first
                | (go_at_call 170; refine (kind_is (unhide HR) (unhide HK2) (unhide HT) (unhide HE)).mono ?_; rintro e w1 ⟨rfl, hr1, hf1⟩; replace HR := hide hr1; replace HS := hide ((unhide HS).fr hf1 (Nat.le_refl _)); replace HF := hide ((unhide HF).trans hf1); clear hr1 hf1)
                | fail)
              go_ret
              rw [unhide HQ]
              exact ⟨_, _, _, rfl, unhide HR, unhide HF, (unhide HS).allow (fun k _ ha => ⟨ha.1, Or.inr (ha.2.elim ((unhide HDJ) k) id)⟩), unhide HK2, ⟨_, _, rfl⟩, unhide HL2⟩
            · rw [if_neg e1] at hq
              have HQ := hide hq
              have b1 : (kindR ts s2 != 1) = true := by simpa using e1
              clear hq e1
              go_wp2_with (first
                | (go_at_call 167; refine (unhide HD).mono ?_; clear HD; rintro e w1 ⟨rfl, hr1, hf1⟩; have HR := hide hr1; replace HF := hide ((unhide HF).trans hf1); clear hr1 hf1))
              refine ((unhide HO) _ _ _ (unhide HR) (unhide HK)).mono ?_
              rintro e w2 ⟨v, O2, rfl, hr2, hf2, hs2, hk2, ⟨va, vc, rfl⟩, hl2⟩
              have HS := hide (hs2.fr (Fr.refl _ _) (unhide HF).size)
              have HK2 := hide hk2
              have HL2 := hide hl2
              replace HR := hide hr2
              replace HF := hide ((unhide HF).trans hf2)
              clear hr2 hf2 hs2 hk2 hl2
              go_wp2_with (first
                | (go_at_call 170; refine (kind_is (unhide HR) (unhide HK2) (unhide HT) rfl).mono ?_; rintro e w1 ⟨rfl, hr1, hf1⟩; replace HR := hide hr1; replace HS := hide ((unhide HS).fr hf1 (Nat.le_refl _)); replace HF := hide ((unhide HF).trans hf1); clear hr1 hf1)
                | (go_at_call 171; refine (fail_any (unhide HR) (unhide HK2).next (unhide HT).n1).mono ?_; rintro e w1 ⟨rfl, hr1, hf1⟩; replace HR := hide hr1; replace HS := hide ((unhide HS).fr hf1 (Nat.le_refl _)); replace HF := hide ((unhide HF).trans hf1); clear hr1 hf1))
              go_ret
              rw [unhide HQ]
              exact ⟨_, _, _, rfl, unhide HR, unhide HF, (unhide HS).allow (fun k _ ha => ⟨ha.1, Or.inr (ha.2.elim ((unhide HDJ) k) id)⟩), failR_ok (unhide HK2), ⟨_, _, rfl⟩, unhide HL2⟩
      · obtain rfl : j = 8 := by omega
        obtain rfl : su = sF := Option.some.inj hl
        have HR := hide hr
        clear hr hf hDj hk hl
        by_cases e1 : kindR ts s2 = 1
        · rw [if_pos e1] at hq
          have HQ := hide hq
          have HE := hide e1
          clear hq e1
          go_wp2_with fail
          refine ((unhide HO) _ _ _ (unhide HR) (unhide HK)).mono ?_
          rintro e w2 ⟨v, O2, rfl, hr2, hf2, hs2, hk2, ⟨va, vc, rfl⟩, hl2⟩
          have HS := hide (hs2.fr (Fr.refl _ _) (unhide HF).size)
          have HK2 := hide hk2
          have HL2 := hide hl2
          replace HR := hide hr2
          replace HF := hide ((unhide HF).trans hf2)
          clear hr2 hf2 hs2 hk2 hl2
          go_wp2_with (first
            | (go_at_call 170; refine (kind_is (unhide HR) (unhide HK2) (unhide HT) (unhide HE)).mono ?_; rintro e w1 ⟨rfl, hr1, hf1⟩; replace HR := hide hr1; replace HS := hide ((unhide HS).fr hf1 (Nat.le_refl _)); replace HF := hide ((unhide HF).trans hf1); clear hr1 hf1)
            | fail)
          go_ret
          rw [unhide HQ]
          exact ⟨_, _, _, rfl, unhide HR, unhide HF, (unhide HS).allow (fun k _ ha => ⟨ha.1, Or.inr (ha.2.elim ((unhide HDJ) k) id)⟩), unhide HK2, ⟨_, _, rfl⟩, unhide HL2⟩
        · rw [if_neg e1] at hq
          have HQ := hide hq
          have b1 : (kindR ts s2 != 1) = true := by simpa using e1
          clear hq e1
          go_wp2_with fail
          refine ((unhide HO) _ _ _ (unhide HR) (unhide HK)).mono ?_
          rintro e w2 ⟨v, O2, rfl, hr2, hf2, hs2, hk2, ⟨va, vc, rfl⟩, hl2⟩
          have HS := hide (hs2.fr (Fr.refl _ _) (unhide HF).size)
          have HK2 := hide hk2
          have HL2 := hide hl2
          replace HR := hide hr2
          replace HF := hide ((unhide HF).trans hf2)
          clear hr2 hf2 hs2 hk2 hl2
          go_wp2_with (first
            | (go_at_call 170; refine (kind_is (unhide HR) (unhide HK2) (unhide HT) rfl).mono ?_; rintro e w1 ⟨rfl, hr1, hf1⟩; replace HR := hide hr1; replace HS := hide ((unhide HS).fr hf1 (Nat.le_refl _)); replace HF := hide ((unhide HF).trans hf1); clear hr1 hf1)
            | (go_at_call 171; refine (fail_any (unhide HR) (unhide HK2).next (unhide HT).n1).mono ?_; rintro e w1 ⟨rfl, hr1, hf1⟩; replace HR := hide hr1; replace HS := hide ((unhide HS).fr hf1 (Nat.le_refl _)); replace HF := hide ((unhide HF).trans hf1); clear hr1 hf1))
          go_ret
          rw [unhide HQ]
          exact ⟨_, _, _, rfl, unhide HR, unhide HF, (unhide HS).allow (fun k _ ha => ⟨ha.1, Or.inr (ha.2.elim ((unhide HDJ) k) id)⟩), failR_ok (unhide HK2), ⟨_, _, rfl⟩, unhide HL2⟩
end Go.Proofs.YtgdeeodifnegiaaGreatDoor
