/- Conditions: marked, not, brackets (package policy). -/
import Derived.Test.YtgdeeodifnegiaaGreatDoorKnA
import Derived.Test.YtgdeeodifnegiaaGreatDoorRdrR
import Derived.Test.YtgdeeodifnegiaaGreatDoorCmpA
import Derived.Test.YtgdeeodifnegiaaGreatDoorSidP
namespace Go.Proofs.YtgdeeodifnegiaaGreatDoor
open Go.RowKit

/-! ## marked -/
theorem marks_at {W : World} {b : Nat} {r : Rt} {pv mv : Value} (h : RtAt W b r pv mv) : PathAt W mv r.marks := by
  rcases h.marks.2 with ⟨h1, h0⟩ | ⟨g, cap, cur, hv, _, hg, hnc, _, hcs, htk⟩
  · have hnil : r.marks = [] := List.length_eq_zero_iff.mp h0
    exact ⟨none, 0, by rw [h1, hnil]; rfl, Or.inl hnil⟩
  · refine ⟨_, _, hv, Or.inr ⟨g, 0, rfl, heap_lt hg, fun j hj => ?_⟩⟩
    rw [cell_of_heap hg]
    have h2 : (cur.toList.take (r.marks.length * 1))[j]? = some (.int .i64 r.marks[j]) := by rw [htk]; simp [intCells, hj]
    rw [List.getElem?_take, if_pos (by omega)] at h2
    simpa using h2
set_option maxRecDepth 100000 in
set_option maxHeartbeats 1000000 in
theorem index_run (V : World) (mv : Value) (l : List Int) (n : Int) (hp : PathAt V mv l) (hl : l.length ≤ 8) :
    Calls Tryz.prog 390 #[mv, .int .i64 n] V fun e V' => (∃ k : Int, e = .returned (.int .i64 k) ∧ -1 ≤ k ∧ k ≤ 8 ∧ (0 ≤ k ↔ n ∈ l)) ∧ Below V.heap.size V V' := by
  obtain ⟨p, c, rfl, hr⟩ := hp
  have HR := hide hr
  clear hr
  have hN : (l.length : Int) ≤ 8 := by omega
  go_enter Tryz.func390, Tryz.ntmps390
  go_wp2_with fail
  go_loopw [8] (fun i wr => ∃ j : Nat, j ≤ l.length ∧ i = .int .i64 (j : Nat) ∧ Hid (∀ k, (h : k < l.length) → k < j → n ≠ l[k]) ∧ Below V.heap.size V wr) (fun i _ => l.length - (intOf i).toNat)
  case atStart => exact ⟨0, Nat.zero_le _, rfl, fun k _ hk => absurd hk (Nat.not_lt_zero _), Below.refl _ _⟩
  case round =>
    obtain ⟨j, hj, rfl, HF, hbl⟩ := hrel
    have HB := hide hbl
    clear hbl
    by_cases hlt : j < l.length
    · rcases unhide HR with h | ⟨b, o, rfl, hb, hcc⟩
      · rw [h] at hlt; simp at hlt
      have hcl := ((unhide HB).cell (p := ⟨b, o + j, none⟩) hb).trans (hcc j hlt)
      clear hcc
      by_cases he : n = l[j]
      · have hb1 : (n == l[j]) = true := by simpa using he
        have HM := hide (show n ∈ l by rw [he]; exact List.getElem_mem _)
        clear he
        go_wp2_with fail
        go_ret
        exact ⟨⟨(j : Int), rfl, by omega, by omega, fun _ => unhide HM, fun _ => by omega⟩, unhide HB⟩
      · have hb1 : (n == l[j]) = false := by simpa using he
        have HF2 : Hid (∀ k, (h : k < l.length) → k < j + 1 → n ≠ l[k]) := fun k hk hk2 => by
          rcases Nat.lt_or_ge k j with h1 | h1
          · exact (unhide HF) k hk h1
          · obtain rfl : k = j := by omega
            exact he
        clear he
        go_wp2_with fail
        exact ⟨⟨j + 1, by omega, by go_num, HF2, unhide HB⟩, by simp [intOf]; omega⟩
    · have HF2 : Hid (¬ n ∈ l) := fun hm => by
        obtain ⟨k, hk, he⟩ := List.mem_iff_getElem.1 hm
        exact (unhide HF) k hk (by omega) he.symm
      go_wp2_with fail
      go_ret
      exact ⟨⟨-1, rfl, by omega, by omega, fun h => by omega, fun h => absurd h (unhide HF2)⟩, unhide HB⟩
set_option maxRecDepth 100000 in
set_option maxHeartbeats 1000000 in
theorem contains_run (V : World) (mv : Value) (l : List Int) (n : Int) (hp : PathAt V mv l) (hl : l.length ≤ 8) :
    Calls Tryz.prog 387 #[mv, .int .i64 n] V fun e V' => e = .returned (.bool (l.contains n)) ∧ Below V.heap.size V V' := by
  have HI := hide (index_run V mv l n hp hl)
  obtain ⟨p, c, rfl, _⟩ := hp
  clear hl
  go_enter Tryz.func387, Tryz.ntmps387
  go_wp2_with (go_at_call 390; refine (unhide HI).mono ?_; clear HI; rintro e w1 ⟨⟨k, rfl, hk1, hk2, hk⟩, hb1⟩; have HX := hide (And.intro hk hb1); clear hk hb1)
  go_ret
  refine ⟨rt_bool ?_, (unhide HX).2⟩
  rw [Bool.eq_iff_iff, List.contains_iff_mem, ← (unhide HX).1]
  simp
set_option maxRecDepth 100000 in
set_option maxHeartbeats 1000000 in
theorem marked_run (W : World) (b : Nat) (r : Rt) (pv mv : Value) (h : RtAt W b r pv mv) (B1 : Nat) (n : Int) (c1 : W.cell? ⟨B1, 0, none⟩ = some (.int .i64 n)) :
    Calls Tryz.prog 386 (#[ptr4 b 0] ++ #[ptr4 B1 0]) W fun e W' => e = .returned (condV (markedM n r)) ∧ Below W.heap.size W W' := by
  have r3 : W.cell? ⟨b, 3, none⟩ = some mv := cell_of_heap h.blk
  have HP := hide (marks_at h)
  have hn := h.n2
  have HA := hide (fun (V : World) (hV : Below W.heap.size W V) => contains_run V mv r.marks n ((unhide HP).below hV) hn)
  obtain ⟨a, c, hmv⟩ := owns_form' h.marks
  have EQ : Hid (condV (markedM n r) = .tuple #[.bool (r.marks.contains n), .bool true]) := rfl
  clear h hn HP
  rw [unhide EQ]
  subst hmv
  generalize r.marks.contains n = M at *
  go_enter Tryz.func386, Tryz.ntmps386
  go_wp2_with fail
  go_region_with (go_at_call 387; refine ((unhide HA) _ (Below.refl _ _).drew).mono ?_; rintro e w1 ⟨rfl, hb1⟩; have HB1 := hide (((Below.refl W.heap.size W).drew).trans (hb1.mono (Nat.le_refl _))); clear hb1)
  all_goals
    go_wp2_with fail
    go_ret2
    exact ⟨rfl, unhide HB1⟩
theorem Tryz.entMarked : Enters Tryz.prog 386 := enters_of Tryz.func386 (by kernel_rfl) rfl
set_option maxRecDepth 100000 in
set_option maxHeartbeats 1000000 in
theorem marked_call (w : World) (n : Int) :
    Calls Tryz.prog 377 #[.int .i64 n] w fun e w' => e = .returned (.func (.func 386) #[] #[ptr4 w.heap.size 0]) ∧ w' = w.alloc (box1 (.int .i64 n) 3) := by
  have hmf : ∀ (fn : Fn) (first cap : Array Value) (w : World), (Instr.makeFunc fn first cap).run Tryz.prog w = .ok (.func fn first cap) w := fun _ _ _ _ => rfl
  go_enter Tryz.func377, Tryz.ntmps377
  go_wp2_with fail
  go_ret
  exact ⟨rfl, rfl⟩
theorem marked_any (w : World) (n : Int) (A : Nat → Prop) (hA : ∀ k, w.heap.size ≤ k → A k) :
    Calls Tryz.prog 377 #[.int .i64 n] w fun e w' => ∃ v, e = .returned v ∧ w' = w.alloc (box1 (.int .i64 n) 3) ∧ CndO w' A v (some (markedM n)) := by
  refine (marked_call w n).mono ?_
  rintro e w' ⟨rfl, rfl⟩
  refine ⟨_, rfl, rfl, Lasts.new (fun k => k = w.heap.size) (fun k hk => ⟨by subst hk; simp, hA k (by omega)⟩) (fun W _ hk => ?_)⟩
  exact ⟨_, _, rfl, Tryz.entMarked, fun b r pv mv hr => marked_run W b r pv mv hr _ n (cell_of_heap ((hk _ rfl).trans (heap_alloc_new w _)))⟩
set_option maxRecDepth 100000 in
set_option maxHeartbeats 2000000 in
theorem test_marked {pb : Nat} {ts : List TokP} (ht : TsOk ts) {w : World} {st : RS} {D O : Nat → Prop} (h : RA w pb ts st D O) (hk : Ok ts st) (e25 : kindR ts st = 25) :
    Calls Tryz.prog 358 #[ptr4 pb 0] w (CndRes pb ts w D O ((withinR ts 0 65535 (goR ts st)).1, some (markedM (withinR ts 0 65535 (goR ts st)).2))) := by
  have HR := hide h
  have HF := hide (Fr.refl O w)
  have HK := hide hk
  have HT := hide ht
  have HE := hide e25
  have n21 := hide (show kindR ts st ≠ 21 by rw [e25]; decide)
  have n23 := hide (show kindR ts st ≠ 23 by rw [e25]; decide)
  have HG := hide (goR_ok' hk ht e25 (by decide))
  have HG2 := hide (withinR_ok (a := 0) (b := 65535) (unhide HG) ht)
  have HM := hide (fun (W : World) (O : Nat → Prop) (h : RA W pb ts (goR ts st) D O) => mark_any ht h (unhide HG))
  clear h hk ht e25
  generalize withinR ts 0 65535 (goR ts st) = P at *
  obtain ⟨s1, x1⟩ := P
  dsimp only at HG2 HM ⊢
  go_enter Tryz.func358, Tryz.ntmps358
  go_wp2_with (first
    | (go_at_call 211; refine (took_no (unhide HR) (unhide HK) (unhide HT) 21 (unhide n21)).mono ?_; rintro e w1 ⟨rfl, hr1, hf1⟩; replace HR := hide hr1; replace HF := hide ((unhide HF).trans hf1); clear hr1 hf1 n21)
    | (go_at_call 211; refine (took_no (unhide HR) (unhide HK) (unhide HT) 23 (unhide n23)).mono ?_; rintro e w1 ⟨rfl, hr1, hf1⟩; replace HR := hide hr1; replace HF := hide ((unhide HF).trans hf1); clear hr1 hf1 n23)
    | (go_at_call 211; refine (took_yes (unhide HR) (unhide HK) (unhide HT) 25 (unhide HE)).mono ?_; rintro e w1 ⟨rfl, O1, hr1, hf1⟩; replace HR := hide hr1; replace HF := hide ((unhide HF).trans hf1); clear hr1 hf1)
    | (go_at_call 224; refine ((unhide HM) _ _ (unhide HR)).mono ?_; clear HM; rintro e w2 ⟨rfl, O2, hr2, hf2⟩; replace HR := hide hr2; replace HF := hide ((unhide HF).trans hf2); clear hr2 hf2)
    | (go_at_call 377; refine (marked_any _ x1 _ ((unhide HR).newFree (unhide HF))).mono ?_; rintro e w4 ⟨v4, rfl, rfl, hv4⟩; have HV4 := hide hv4; replace HR := hide ((unhide HR).alloc (box1 (.int .i64 x1) 3)); replace HF := hide ((unhide HF).alloc (box1 (.int .i64 x1) 3)); have hfv := hv4.fnv; clear hv4))
  rcases hfv with ⟨f1, f2, f3, rfl⟩ | rfl <;>
  · go_wp2_with fail
    go_ret
    exact ⟨_, _, rfl, unhide HR, unhide HF, unhide HV4, unhide HG2⟩
/-! ## brackets -/
set_option maxRecDepth 100000 in
set_option maxHeartbeats 2000000 in
theorem test_brk {pb : Nat} {ts : List TokP} (ht : TsOk ts) {cnd : RS → Option (RS × Option CndM)} (IC : CndSaid 266 pb ts cnd) {w : World} {st s1 : RS} {c : Option CndM} {D O : Nat → Prop} (h : RA w pb ts st D O) (hk : Ok ts st) (e31 : kindR ts st = 31) (hc : cnd (openR ts 31 st) = some (s1, c)) :
    Calls Tryz.prog 358 #[ptr4 pb 0] w (CndRes pb ts w D O (shutR ts 32 s1, c)) := by
  have HR := hide h
  have HF := hide (Fr.refl O w)
  have HK := hide hk
  have HT := hide ht
  have HE := hide e31
  have n21 := hide (show kindR ts st ≠ 21 by rw [e31]; decide)
  have n23 := hide (show kindR ts st ≠ 23 by rw [e31]; decide)
  have n25 := hide (show kindR ts st ≠ 25 by rw [e31]; decide)
  have HK1 := hide (openR_ok (k := 31) hk ht (by decide))
  have HIC := hide IC
  have HC := hide hc
  clear h hk ht e31 IC hc
  go_enter Tryz.func358, Tryz.ntmps358
  go_wp2_with (first
    | (go_at_call 211; refine (took_no (unhide HR) (unhide HK) (unhide HT) 21 (unhide n21)).mono ?_; rintro e w1 ⟨rfl, hr1, hf1⟩; replace HR := hide hr1; replace HF := hide ((unhide HF).trans hf1); clear hr1 hf1 n21)
    | (go_at_call 211; refine (took_no (unhide HR) (unhide HK) (unhide HT) 23 (unhide n23)).mono ?_; rintro e w1 ⟨rfl, hr1, hf1⟩; replace HR := hide hr1; replace HF := hide ((unhide HF).trans hf1); clear hr1 hf1 n23)
    | (go_at_call 211; refine (took_no (unhide HR) (unhide HK) (unhide HT) 25 (unhide n25)).mono ?_; rintro e w1 ⟨rfl, hr1, hf1⟩; replace HR := hide hr1; replace HF := hide ((unhide HF).trans hf1); clear hr1 hf1 n25)
    | (go_at_call 170; refine (kind_is (unhide HR) (unhide HK) (unhide HT) (unhide HE)).mono ?_; rintro e w1 ⟨rfl, hr1, hf1⟩; replace HR := hide hr1; replace HF := hide ((unhide HF).trans hf1); clear hr1 hf1)
    | (go_at_call 309; refine (open_any (unhide HR) (unhide HK) (unhide HT) 31).mono ?_; rintro e w2 ⟨rfl, O2, hr2, hf2⟩; replace HR := hide hr2; replace HF := hide ((unhide HF).trans hf2); clear hr2 hf2))
  refine ((unhide HIC) _ _ _ _ _ (unhide HR) (unhide HK1) (unhide HC)).mono ?_
  rintro e w3 ⟨v, O3, rfl, hr3, hf3, hv3, hk3⟩
  have hfv := hv3.fnv
  have HV := hide (hv3.fr (Fr.refl _ _) (unhide HF).size)
  have HK3 := hide hk3
  replace HR := hide hr3
  replace HF := hide ((unhide HF).trans hf3)
  clear hr3 hf3 hv3 hk3
  rcases hfv with ⟨f1, f2, f3, rfl⟩ | rfl <;>
  · go_wp2_with (go_at_call 310; refine (shut_any (unhide HR) (unhide HK3) (unhide HT) 32).mono ?_; rintro e w4 ⟨rfl, O4, hr4, hf4⟩; replace HR := hide hr4; replace HV := hide ((unhide HV).fr hf4 (Nat.le_refl _)); replace HF := hide ((unhide HF).trans hf4); clear hr4 hf4)
    go_ret
    exact ⟨_, _, rfl, unhide HR, unhide HF, unhide HV, shutR_ok (unhide HK3) (unhide HT) (by decide)⟩
/-! ## not -/
set_option maxRecDepth 100000 in
set_option maxHeartbeats 2000000 in
theorem not_not {pb : Nat} {ts : List TokP} (ht : TsOk ts) {nt : RS → Option (RS × Option CndM)} (IH : CndSaid 339 pb ts nt) {w : World} {st s1 : RS} {c : Option CndM} {D O : Nat → Prop} (h : RA w pb ts st D O) (hk : Ok ts st) (e20 : kindR ts st = 20) (hc : nt (openR ts 20 st) = some (s1, c)) :
    Calls Tryz.prog 339 #[ptr4 pb 0] w (CndRes pb ts w D O (decR s1, c.map notM)) := by
  have HR := hide h
  have HF := hide (Fr.refl O w)
  have HK := hide hk
  have HT := hide ht
  have HE := hide e20
  have HK1 := hide (openR_ok (k := 20) hk ht (by decide))
  have HI := hide IH
  have HC := hide hc
  clear h hk ht e20 IH hc
  go_enter Tryz.func339, Tryz.ntmps339
  go_wp2_with (first
    | (go_at_call 170; refine (kind_is (unhide HR) (unhide HK) (unhide HT) (unhide HE)).mono ?_; rintro e w1 ⟨rfl, hr1, hf1⟩; replace HR := hide hr1; replace HF := hide ((unhide HF).trans hf1); clear hr1 hf1)
    | (go_at_call 309; refine (open_any (unhide HR) (unhide HK) (unhide HT) 20).mono ?_; rintro e w2 ⟨rfl, O2, hr2, hf2⟩; replace HR := hide hr2; replace HF := hide ((unhide HF).trans hf2); clear hr2 hf2))
  refine ((unhide HI) _ _ _ _ _ (unhide HR) (unhide HK1) (unhide HC)).mono ?_
  rintro e w3 ⟨v, O3, rfl, hr3, hf3, hv3, hk3⟩
  have HV := hide (hv3.fr (Fr.refl _ _) (unhide HF).size)
  have HK3 := hide hk3
  replace HR := hide hr3
  replace HF := hide ((unhide HF).trans hf3)
  clear hr3 hf3 hv3 hk3
  go_wp2_with fail
  refine (not_any _ _ _ _ ((unhide HR).newFree (unhide HF)) (unhide HV)).mono ?_
  rintro e w4 ⟨v4, rfl, hw4, hv4⟩
  have hfv := hv4.fnv
  have HV4 := hide hv4
  have hR4 := (unhide HR).alloc (box1 v 358)
  have hF4 := (unhide HF).alloc (box1 v 358)
  rw [← hw4] at hR4 hF4
  replace HR := hide hR4
  replace HF := hide hF4
  obtain ⟨_, _, d1, zd1, _⟩ := hR4.cells
  clear hv4 hR4 hF4 hw4
  rcases hfv with ⟨f1, f2, f3, rfl⟩ | rfl <;>
  · go_wp2_with fail
    go_ret
    exact ⟨_, _, rfl, (unhide HR).putDepth _, (unhide HF).setCell (Or.inl (unhide HR).own) _, (unhide HV4).fr ((Fr.refl _ _).setCell (Or.inl (unhide HR).own) _) (Nat.le_refl _), decR_ok (unhide HK3)⟩
set_option maxRecDepth 100000 in
set_option maxHeartbeats 2000000 in
theorem not_test {pb : Nat} {ts : List TokP} (ht : TsOk ts) {w : World} {st : RS} {D O : Nat → Prop} {r : RS × Option CndM} (h : RA w pb ts st D O) (hk : Ok ts st) (e20 : kindR ts st ≠ 20) (hT : ∀ W, RA W pb ts st D O → Calls Tryz.prog 358 #[ptr4 pb 0] W (CndRes pb ts W D O r)) :
    Calls Tryz.prog 339 #[ptr4 pb 0] w (CndRes pb ts w D O r) := by
  have HTS := hide hT
  have HR := hide h
  have HF := hide (Fr.refl O w)
  have HK := hide hk
  have HT := hide ht
  have b20 : (kindR ts st != 20) = true := by simpa using e20
  clear h hk ht hT e20
  go_enter Tryz.func339, Tryz.ntmps339
  go_wp2_with (go_at_call 170; refine (kind_is (unhide HR) (unhide HK) (unhide HT) rfl).mono ?_; rintro e w1 ⟨rfl, hr1, hf1⟩; replace HR := hide hr1; replace HF := hide ((unhide HF).trans hf1); clear hr1 hf1)
  refine ((unhide HTS) _ (unhide HR)).mono ?_
  rintro e w2 ⟨v, O2, rfl, hr2, hf2, hv2, hk2⟩
  have HV := hide (hv2.fr (Fr.refl _ _) (unhide HF).size)
  have HK2 := hide hk2
  replace HR := hide hr2
  replace HF := hide ((unhide HF).trans hf2)
  clear hr2 hf2 hv2 hk2
  go_wp2_with fail
  go_ret
  exact ⟨_, _, rfl, unhide HR, unhide HF, unhide HV, unhide HK2⟩
/-- NOT, whole -/
theorem not_said {pb : Nat} {ts : List TokP} (ht : TsOk ts) {sum : RS → Option (RS × Option AmtM)} (IS : SumSaid pb ts sum) (n : Nat) : ∀ f, CndSaid 339 pb ts (notTw ts n sum f)
  | 0 => fun w st D O r h hk hr => by cases hr
  | f + 1 => fun w st D O r h hk hr => by
    have IH := not_said ht IS n f
    rw [notTw] at hr
    by_cases e20 : kindR ts st = 20
    · rw [if_pos e20] at hr
      cases h1 : notTw ts n sum f (openR ts 20 st) with
      | none => rw [h1] at hr; cases hr
      | some p =>
        obtain ⟨s1, c⟩ := p
        rw [h1] at hr
        cases hr
        exact not_not ht IH h hk e20 h1
    rw [if_neg e20] at hr
    refine not_test ht h hk e20 (fun W hW => ?_)
    by_cases e21 : kindR ts st = 21
    · rw [if_pos e21] at hr
      cases hr
      exact test_net ht hW hk e21
    rw [if_neg e21] at hr
    by_cases e23 : kindR ts st = 23
    · rw [if_pos e23] at hr
      cases hr
      exact test_path ht hW hk e23
    rw [if_neg e23] at hr
    by_cases e25 : kindR ts st = 25
    · rw [if_pos e25] at hr
      cases hr
      exact test_marked ht hW hk e25
    rw [if_neg e25] at hr
    by_cases e31 : kindR ts st = 31
    · rw [if_pos e31] at hr
      cases h1 : condBy ts (notTw ts n sum f) n (openR ts 31 st) with
      | none => rw [h1] at hr; cases hr
      | some p =>
        obtain ⟨s1, c⟩ := p
        rw [h1] at hr
        cases hr
        exact test_brk ht (cond_said ht IH n) hW hk e31 h1
    rw [if_neg e31] at hr
    exact test_cmp ht (compare_said ht IS) hW hk hr e21 e23 e25 e31
end Go.Proofs.YtgdeeodifnegiaaGreatDoor

namespace Go.Proofs.YtgdeeodifnegiaaGreatDoor
open Go.RowKit Go.Shelf
attribute [local go_sem] Oper.semAt_some

set_option maxRecDepth 100000 in
set_option maxHeartbeats 4000000 in
theorem read_bad (s : ByteArray) (hs : s.size ≤ 600) (w : World) (ht : TokTabs w) (_hts : TsOk (allP s)) (hl0 : 0 < (allP s).length) {st : RS} {l : List (Option StpM)} {a er : Int}
    (hpol : ∀ (pb : Nat) (W : World) (O : Nat → Prop), RA W pb (allP s) rs0 (fun _ => False) O → Ok (allP s) rs0 → Calls Tryz.prog 110 #[ptr4 pb 0] W (PolRes pb (allP s) W O (st, l))) (hx : (st.syn = some a ∧ er = 2) ∨ (st.syn = none ∧ st.nam = some a ∧ er = 3) ∨ (st.syn = none ∧ st.nam = none ∧ st.num = some a ∧ er = 4)) :
    Calls Tryz.prog 65 #[.string s] w fun e w' => e = .returned (.tuple #[.agg #[.string ⟨#[]⟩, .slice none 0 0], .int .i64 er, .int .i64 a]) ∧ Below w.heap.size w w' := by
  obtain ⟨x1, f1⟩ : ∃ x, st.syn = x := ⟨_, rfl⟩
  obtain ⟨x2, f2⟩ : ∃ x, st.nam = x := ⟨_, rfl⟩
  obtain ⟨x3, f3⟩ : ∃ x, st.num = x := ⟨_, rfl⟩
  rw [f1, f2, f3] at hx
  rcases hx with ⟨rfl, her⟩ | ⟨rfl, rfl, her⟩ | ⟨rfl, rfl, rfl, her⟩
  all_goals
    obtain ⟨i0, hi0, hz0, hz1, hz2⟩ := info_parts Tryz.infoTok
    refine (callsIn_wide (n := 6)).1 ?_
    refine callsIn_of_wp_marks Tryz.func65 rfl trivial ?_ rfl
    simp only [Tryz.ntmps65, List.size_toArray, List.length_cons, List.length_nil, Nat.reduceAdd, Nat.reduceSub, Array.replicate_succ, Array.replicate_zero, List.push_toArray, List.append_toArray, List.nil_append, List.cons_append]
    gi_wp2_with (refine ⟨trivial, ?_⟩; gi_at_call 109; refine ((callsIn_wide).2 (All_call _ _)).mono ?_; rintro e w' ⟨rfl, rfl⟩)
    obtain ⟨n1, n2, n3, sz⟩ := three_new w polBlk (rdBlk (.slice none 0 0)) (box1 (.string s) 9)
    have hB0 := W0_below s w
    have hsz0 := W0_size s w
    refine wpIn_rangeFunc_ownH (w0 := W0of s w) rfl (by decide) (gf := 164) (lb := #[ptr4 (w.heap.size + 1 + 1) 0]) rfl trivial (enters_of Tryz.func164 (by kernel_rfl) rfl)
      (all_stops 5 (by decide) s hs w ht) (fun h g => KpR.trans h g) (fun W l o o' hl hlo ho _ => KpR.putObj (by have h : (W0of s w).heap.size ≤ l := hl; omega) hlo ho) (Below.refl _ _) (fun _ => rfl)
      (RdI w (w.heap.size + 1) (w.heap.size + 3)) (fun _ _ _ => False) ?hI (fun _ _ _ _ _ h _ _ => h) ?h0 (RdAx s w (w.heap.size + 1) (w.heap.size + 3)) ?hAx ?assign ?body ?done ?stop
    case hI => have h := RdI.own w (w.heap.size + 1) (w.heap.size + 3) (by omega); exact (show OwnFrom (W0of s w).heap.size _ by rw [hsz0]; exact h)
    case h0 => exact ⟨⟨_, n2, World.ownsRow_nil _ _ _ _, fun k e => by simp [Value.ownBlock] at e⟩, n1, hB0, Nat.le_of_eq hsz0.symm⟩
    case hAx => intro x a'; have h := RdAx.own s w (w.heap.size + 1) (w.heap.size + 3) (by omega) x a'; exact (show OwnFrom (W0of s w).heap.size _ by rw [hsz0]; exact h)
    case assign =>
      rintro l pre x W K hi hK
      have HI := hide hi
      obtain ⟨⟨v, hb, ho, hn⟩, hR, hBw, hzz⟩ := hi
      have hpw : w.heap.size + 1 < W.heap.size := heap_lt hb
      have HRW := hide (show rowOf (w.heap.size + 1) W ≠ some W.heap.size from fun e => by rw [rowOf_rd hb] at e; have := (ho.lt _ e).2; omega)
      have HK := hide hK
      clear hb ho hn hR hBw hK
      gi_wp2
      refine (unhide HK) _ _ ((KeepsOthers.alloc _ _).from _) (KpR.of_below hpw ((Below.refl _ _).alloc (Nat.le_refl _) _)) ((RdI.own w (w.heap.size + 1) (w.heap.size + 3) (by omega)).alloc _ (unhide HI)) ⟨W.heap.size, hzz, heap_new W _ _, ?_, by rw [World.size_alloc]; omega, rfl⟩
      · rw [rowOf_below hpw ((Below.refl _ _).alloc (Nat.le_refl _) _)]; exact unhide HRW
    case body =>
      rintro l pre x a' W hl ⟨r, hr⟩ ⟨⟨v, hb, ho, hn⟩, hR, hBw, hnW⟩ ⟨Bx, hBx, hbx, hrow, hpw, rfl⟩ hlt
      have c0 : W.cell? ⟨w.heap.size + 1, 0, none⟩ = some v := cell_of_heap hb
      have z0 : W.frozen? ⟨w.heap.size + 1, 0, none⟩ = false := frozen_of_heap hb
      obtain ⟨t0, t1, t2, t3, t4, t5, tz⟩ := tok6 hbx
      obtain ⟨va, vc, rfl⟩ := owns_form' ho
      have HB := hide hb
      have HO := hide ho
      have HN := hide hn
      have HR := hide hR
      have HBW := hide hBw
      have hln : pre.length ≤ 1000 := by omega
      clear hb ho hn hR hBw hbx
      unfold rdTmps
      gi_wp2_with (gi_at_builtin; refine wpListIn_append_own_at _ rfl _ _ 200 rfl 0 216 i0 _ 6 56 Tryz.underlying200 hi0 hz0 hz1 hz2 rfl (by decide) (.slice va pre.length vc) pre.length (tokCells pre) rfl ((unhide HO).alloc (tokBlk x)) ⟨W.heap.size, 0, none⟩ 1 1 [.int .i64 x.kind, .int .i64 x.at_, .string x.text, .int .i64 x.number, .int .i64 x.addr, .int .i64 x.len] rfl rfl (World.news_of_block (cs := #[.int .i64 x.kind, .int .i64 x.at_, .string x.text, .int .i64 x.number, .int .i64 x.addr, .int .i64 x.len]) (t := 216) (fr := (0, 0)) (heap_alloc_new _ _)) (by simp [Value.oneCell']) (by simp [maxLen]; omega) (by omega) (Nat.zero_le _) ?_; intro v' w1 hown hgrow hnil hat; obtain ⟨fa, fb, hfv⟩ := owns_form' hown; have hpb1 : w1.heap[w.heap.size + 1]? = some (rdBlk (.slice va pre.length vc)) := (hgrow.block _ (by rw [World.size_alloc]; omega) (fun e => by have := (unhide HN) _ e.symm; omega)).trans ((Below.heap_alloc _ _ _ hpw).trans (unhide HB)); have d0 : w1.cell? ⟨w.heap.size + 1, 0, none⟩ = some (.slice va pre.length vc) := cell_of_heap hpb1; have dz : w1.frozen? ⟨w.heap.size + 1, 0, none⟩ = false := frozen_of_heap hpb1; have HFIN := hide (RdI.snoc (unhide HB) (unhide HO) (unhide HN) (unhide HR) (unhide HBW) (by omega) (by omega) hnW hown hgrow hat); clear hown hgrow hat hnil hpb1; subst hfv)
      exact ⟨(show KeepsFrom (W0of s w).heap.size _ _ by rw [hsz0]; exact (unhide HFIN).1), (unhide HFIN).2.1, (unhide HFIN).2.2⟩
    case done =>
      rintro D xs W hD rfl ⟨⟨v, hb, ho, hn0⟩, hR, hBw, hz⟩ hK
      have hD0 : (W0of s w).heap.size ≤ D := hD
      obtain ⟨tb, tc, rfl, _, htb⟩ := World.ownsRow.form ho hl0
      have htn : w.heap.size + 3 ≤ tb := hn0 tb rfl
      have hra : RAt W (w.heap.size + 1) (allP s) rs0 (fun _ => False) tb tc (.slice none 0 0) (.pointer none) (.slice none 0 0) :=
        ⟨hb, ho, World.ownsRow_nil _ _ _ _, Or.inl rfl, ⟨[], World.ownsRow_nil _ _ _ _, rfl, fun i d x hi => by simp [rs0] at hi⟩, by omega, by simp [Value.ownBlock], by simp [Value.ownBlock], by simp [Value.ownBlock], by simp [Value.ownBlock], Or.inl rfl, fun k h => h.elim⟩
      have HRA : Hid (RA W (w.heap.size + 1) (allP s) rs0 (fun _ => False) (ROwn (w.heap.size + 1) tb (.slice none 0 0) (.slice none 0 0))) := ⟨tb, tc, _, _, _, hra, rfl⟩
      have hDt : tb ≠ D := fun e => by
        obtain ⟨_, h2⟩ := ho
        rcases h2 with ⟨h2, _⟩ | ⟨g, cap, cur, hv, _, hg, _⟩
        · cases h2
        · cases hv; rw [e, hK] at hg; cases hg
      have hOD : ¬ ROwn (w.heap.size + 1) tb (.slice none 0 0) (.slice none 0 0) D := fun h => by
        rcases h with h | h | h | h
        · omega
        · exact hDt h.symm
        · cases h
        · cases h
      have hOR : ¬ ROwn (w.heap.size + 1) tb (.slice none 0 0) (.slice none 0 0) w.heap.size := fun h => by
        rcases h with h | h | h | h
        · omega
        · omega
        · cases h
        · cases h
      have hOlow : Hid (∀ k, k < w.heap.size → ¬ ROwn (w.heap.size + 1) tb (.slice none 0 0) (.slice none 0 0) k) := fun k hk h => by
        rcases h with h | h | h | h
        · omega
        · omega
        · cases h
        · cases h
      have HOK0 : Hid (Ok (allP s) rs0) := ⟨hl0, by simp [rs0], by simp [rs0, ByteArray.size]⟩
      have HPOL := hide (hpol _ _ _ (unhide HRA) (unhide HOK0))
      have HBW := hide hBw
      have hsW : W.heap.size = W.heap.size := rfl
      clear hra ho hb hn0 hBw hz
      gi_wp2_with (refine ⟨trivial, ?_⟩; gi_at_call 110; refine ((callsIn_wide).2 (unhide HPOL)).mono ?_; rintro e w2 ⟨sv, O2, D2, rfl, hr2, hf2, hs2, hk2, ⟨sa, sc, rfl⟩, hl2⟩; have g1 := fr_keeps hf2 hK hOD; have g2 := fr_keeps hf2 hR hOR; have HR2 := hide hr2; have HF2 := hide hf2; have HS2 := hide hs2; have HK2 := hide hk2; have G1 := hide g1; have G2 := hide g2; obtain ⟨tb2, tc2, dv2, av2, bv2, h2, hO2⟩ := hr2; have q7 : w2.cell? ⟨w.heap.size + 1, 7, none⟩ = some (optB st.syn) := cell_of_heap h2.blk; rw [f1] at q7; have q8 : w2.cell? ⟨w.heap.size + 1, 8, none⟩ = some (optI st.syn) := cell_of_heap h2.blk; rw [f1] at q8; have q9 : w2.cell? ⟨w.heap.size + 1, 9, none⟩ = some (optB st.nam) := cell_of_heap h2.blk; rw [f2] at q9; have q10 : w2.cell? ⟨w.heap.size + 1, 10, none⟩ = some (optI st.nam) := cell_of_heap h2.blk; rw [f2] at q10; have q11 : w2.cell? ⟨w.heap.size + 1, 11, none⟩ = some (optB st.num) := cell_of_heap h2.blk; rw [f3] at q11; have q12 : w2.cell? ⟨w.heap.size + 1, 12, none⟩ = some (optI st.num) := cell_of_heap h2.blk; rw [f3] at q12; dsimp only [optB, optI, Option.isSome, Option.getD] at q7 q8 q9 q10 q11 q12; have s0 : w2.cell? ⟨w.heap.size, 0, none⟩ = some (.string ⟨#[]⟩) := cell_of_heap g2.1; have s1 : w2.cell? ⟨w.heap.size, 1, none⟩ = some (.slice none 0 0) := cell_of_heap g2.1; have sz0 : ∀ o, w2.frozen? ⟨w.heap.size, o, none⟩ = false := fun o => frozen_of_heap g2.1; clear g1 g2 hf2 hs2 hk2 h2 hO2)
      gi_region
      all_goals
        gi_wp2
        have hRD : w.heap.size ≠ D := by omega
        obtain ⟨W5, hW5⟩ : ∃ W5, ((w2.setCell ⟨w.heap.size, 0, none⟩ (.string ⟨#[]⟩)).setCell ⟨w.heap.size, 1, none⟩ (.slice none 0 0)).drew = W5 := ⟨_, rfl⟩
        have hKf : W5.heap[D]? = some (.deferred (some [])) := by
          rw [← hW5]
          show ((w2.setCell ⟨w.heap.size, 0, none⟩ (.string ⟨#[]⟩)).setCell ⟨w.heap.size, 1, none⟩ (.slice none 0 0)).heap[D]? = _
          rw [heap_set_other (Ne.symm hRD), heap_set_other (Ne.symm hRD)]; exact (unhide G1).1
        have hRf : W5.heap[w.heap.size]? = some (.cells #[.string ⟨#[]⟩, .slice none 0 0] 109 (0, 0)) := by
          rw [← hW5]
          show ((w2.setCell ⟨w.heap.size, 0, none⟩ (.string ⟨#[]⟩)).setCell ⟨w.heap.size, 1, none⟩ (.slice none 0 0)).heap[w.heap.size]? = _
          rw [heap_set (heap_set (unhide G2).1)]; rfl
        have hDW : D < W.heap.size := heap_lt hK
        have hRW : w.heap.size < W.heap.size := heap_lt hR
        rw [hW5]
        refine ⟨by simp, .inl ⟨_, _, rfl, run_takeDeferred hKf, ?_⟩⟩
        have hblk : ∀ k, k ≠ w.heap.size → k ≠ D → (W5.putObj D (.deferred none)).heap[k]? = w2.heap[k]? := fun k h1 h2 => by
          rw [World.putObj_heap_other h2, ← hW5]
          show ((w2.setCell ⟨w.heap.size, 0, none⟩ (.string ⟨#[]⟩)).setCell ⟨w.heap.size, 1, none⟩ (.slice none 0 0)).heap[k]? = _
          rw [heap_set_other h1, heap_set_other h1]
        have hR6 : (W5.putObj D (.deferred none)).heap[w.heap.size]? = some (.cells #[.string ⟨#[]⟩, .slice none 0 0] 109 (0, 0)) := by
          rw [World.putObj_heap_other hRD]; exact hRf
        have hs6 : (W5.putObj D (.deferred none)).heap.size = w2.heap.size := by rw [← hW5]; simp [World.setCell, World.drew]
        have hos : (W5.putObj D (.deferred none)).os = w2.os ∧ (W5.putObj D (.deferred none)).tape = w2.tape ∧ (W5.putObj D (.deferred none)).output = w2.output := by rw [← hW5]; exact ⟨rfl, rfl, rfl⟩
        obtain ⟨W6, hW6⟩ : ∃ W6, W5.putObj D (.deferred none) = W6 := ⟨_, rfl⟩
        rw [hW6] at hblk hR6 hs6 hos ⊢
        have u0 : W6.cell? ⟨w.heap.size, 0, none⟩ = some (.string ⟨#[]⟩) := cell_of_heap hR6
        have u1 : W6.cell? ⟨w.heap.size, 1, none⟩ = some (.slice none 0 0) := cell_of_heap hR6
        refine ⟨.tuple #[.agg #[.string ⟨#[]⟩, .slice none 0 0], .int .i64 er, .int .i64 a], by simp [results, Tryz.results65, go_sem, u0, u1, her], rfl, ?_⟩
        refine ⟨hos.1.trans ((unhide HF2).os.trans (unhide HBW).os), hos.2.1.trans ((unhide HF2).tape.trans (unhide HBW).tape), hos.2.2.trans ((unhide HF2).output.trans (unhide HBW).output), by have h1 := (unhide HF2).size; have h2 := (unhide HBW).size; omega, fun k hk => ?_⟩
        rw [hblk k (by omega) (by omega), (unhide HF2).block k (by omega) ((unhide hOlow) k hk)]
        exact (unhide HBW).block k hk
    case stop => intro D c pre W _ _ h _; exact h.elim
end Go.Proofs.YtgdeeodifnegiaaGreatDoor

namespace Go.Proofs.YtgdeeodifnegiaaGreatDoor
open Go.RowKit

def ReadBad (s : ByteArray) : Prop := ∀ w, TokTabs w → Calls Tryz.prog 65 #[.string s] w fun e w' => ∃ er at_ : Int, er ≠ 0 ∧ e = .returned (.tuple #[.agg #[.string ⟨#[]⟩, .slice none 0 0], .int .i64 er, .int .i64 at_]) ∧ Below w.heap.size w w'
set_option maxRecDepth 100000 in
set_option maxHeartbeats 2000000 in
theorem compile_bad {s : ByteArray} (hr : ReadBad s) (w : World) (ht : TokTabs w) :
    Calls Tryz.prog 24 #[.string s] w fun e w' => ∃ er at_ : Int, er ≠ 0 ∧ e = .returned (.tuple #[.pointer none, .int .i64 er, .int .i64 at_]) ∧ Below w.heap.size w w' := by
  have HR := hide (hr w ht)
  clear hr ht
  go_enter Tryz.func24, Tryz.ntmps24
  go_wp2_with fail
  refine (unhide HR).mono ?_
  rintro e w1 ⟨er, at_, hne, rfl, hb⟩
  have HB := hide hb
  have hb0 : (er != 0) = true := by simpa using hne
  have hb1 : (er == 0) = false := by simpa using hne
  have HN := hide hne
  clear hb HR hne
  go_wp2_with fail
  refine bodyPost_ret (v := .tuple #[.pointer none, .int .i64 er, .int .i64 at_]) (by simp [results, Tryz.results24, go_sem]) rfl ⟨er, at_, unhide HN, rfl, ?_⟩
  exact (unhide HB).alloc (unhide HB).size _
end Go.Proofs.YtgdeeodifnegiaaGreatDoor

namespace Go.Proofs.YtgdeeodifnegiaaGreatDoor
open Go.RowKit

theorem app_bsA (a b : List UInt8) : bsA (a ++ b) = bsA a ++ bsA b := by
  have h : (bsA a ++ bsA b).data = (bsA (a ++ b)).data := by rw [ByteArray.data_append]; simp
  cases hx : bsA a ++ bsA b with
  | mk d => rw [hx] at h; simp only at h; rw [h]
theorem dec_small {u : Nat} (h : u < 10) : Lib.decDigits u = [UInt8.ofNat (48 + u)] := by rw [dec_unfold, if_pos h]
theorem dec16 : Lib.decDigits 16 = [49, 54] := by rw [dec_unfold, if_neg (by decide), dec_small (by decide)]; rfl
theorem dec24 : Lib.decDigits 24 = [50, 52] := by rw [dec_unfold, if_neg (by decide), dec_small (by decide)]; rfl
theorem dec10 : Lib.decDigits 10 = [49, 48] := by rw [dec_unfold, if_neg (by decide), dec_small (by decide)]; rfl
theorem pfx10 : pfxB ⟨10, 0, 0, 0⟩ 8 = [49, 48, 46, 48, 46, 48, 46, 48, 47, 56] := by
  simp only [pfxB, befB, dec10, dec_small (u := 0) (by decide), dec_small (u := 8) (by decide)]; rfl
theorem wds : (wd 0).data.toList = [115, 101, 116] ∧ (wd 1).data.toList = [119, 97, 121] ∧ (wd 2).data.toList = [97, 99, 99, 101, 112, 116] ∧ (wd 3).data.toList = [114, 101, 106, 101, 99, 116] ∧ (wd 6).data.toList = [109, 97, 114, 107] ∧ (wd 7).data.toList = [117, 110, 109, 97, 114, 107] ∧ (wd 8).data.toList = [112, 114, 101, 112, 101, 110, 100] ∧ (wd 9).data.toList = [105, 102] ∧ (wd 10).data.toList = [116, 104, 101, 110] ∧ (wd 11).data.toList = [101, 108, 115, 101] := by decide +kernel
def dfB : List UInt8 := [115, 101, 116, 32, 115, 32, 61, 32, 123, 32, 49, 48, 46, 48, 46, 48, 46, 48, 47, 56, 32, 49, 54, 32, 50, 52, 32, 125, 59, 32, 119, 97, 121, 32, 119, 32, 61, 32, 49, 32, 46, 32, 42, 59, 32]
theorem dfP_bytes (l : List Pc) : pcBytes (dfP ++ l) = dfB ++ pcBytes l := by
  rw [pcBytes_append]
  congr 1
  simp only [dfP, pcBytes, wPc, sPc, nPc, pPc, sName, wName, wds.1, wds.2.1, dec16, dec24, pfx10, dec_small (u := 1) (by decide)]
  rfl
def oneBy : List UInt8 := [123, 32, 112, 114, 101, 112, 101, 110, 100, 32, 53, 59, 32, 109, 97, 114, 107, 32, 51, 59, 32, 97, 99, 99, 101, 112, 116, 59, 32, 125, 32]
def twoBy : List UInt8 := [123, 32, 112, 114, 101, 102, 32, 61, 32, 112, 114, 101, 102, 32, 43, 32, 49, 59, 32, 117, 110, 109, 97, 114, 107, 32, 50, 59, 32, 97, 99, 99, 101, 112, 116, 59, 32, 125, 32]
theorem oneP_bytes (l : List Pc) : pcBytes (oneP l) = oneBy ++ pcBytes l := by
  simp only [oneP, pcBytes, wPc, sPc, nPc, wds.2.2.1, wds.2.2.2.2.1, wds.2.2.2.2.2.2.1, dec_small (u := 5) (by decide), dec_small (u := 3) (by decide)]
  rfl
theorem twoP_bytes (l : List Pc) : pcBytes (twoP l) = twoBy ++ pcBytes l := by
  simp only [twoP, pcBytes, wPc, sPc, nPc, wds.2.2.1, wds.2.2.2.2.2.1, wd_bytes.2.2.2.2.2.2.1, dec_small (u := 1) (by decide), dec_small (u := 2) (by decide)]
  rfl
theorem Tc.hd (q : Tc) (R : List Pc) : pcBytes (q.pc R) = pcBytes (q.pc []) ++ pcBytes R := by
  cases q with
  | one a => exact a.hd R
  | or a b =>
    show pcBytes (a.pc (.sp :: wPc 13 :: .sp :: b.pc R)) = pcBytes (a.pc (.sp :: wPc 13 :: .sp :: b.pc [])) ++ _
    rw [a.hd, a.hd (.sp :: wPc 13 :: .sp :: b.pc [])]
    simp only [pcBytes, wPc]
    rw [b.hd]
    simp
def Tc.bs (q : Tc) : List UInt8 := pcBytes (q.pc [])
theorem Tc.bs_or (a b : Ct) : (Tc.or a b).bs = a.bs ++ [32, 111, 114, 32] ++ b.bs := by
  show pcBytes (a.pc (.sp :: wPc 13 :: .sp :: b.pc [])) = _
  rw [a.hd]
  simp only [pcBytes, wPc, wd_bytes.2.2.2.2.2.2.2.2.2.2]
  simp [Ct.bs]
theorem if_bytes (q : Tc) (R : List Pc) : pcBytes (dfP ++ (wPc 9 :: .sp :: q.pc (.sp :: wPc 10 :: .sp :: R))) = dfB ++ ([105, 102, 32] ++ (q.bs ++ ([32, 116, 104, 101, 110, 32] ++ pcBytes R))) := by
  rw [dfP_bytes]
  congr 1
  show (wd 9).data.toList ++ 32 :: pcBytes (q.pc _) = _
  rw [q.hd, wds.2.2.2.2.2.2.2.1]
  simp only [pcBytes, wPc, wds.2.2.2.2.2.2.2.2.1, Tc.bs]
  simp
theorem pL_bytes (q : Tc) : pcBytes (pL q) = dfB ++ ([105, 102, 32] ++ (q.bs ++ ([32, 116, 104, 101, 110, 32] ++ (oneBy ++ ([101, 108, 115, 101, 32] ++ twoBy))))) := by
  rw [pL, if_bytes, oneP_bytes]
  simp only [pcBytes, wPc, wds.2.2.2.2.2.2.2.2.2]
  rw [twoP_bytes]
  simp [pcBytes]
theorem qL_bytes (q : Tc) : pcBytes (qL q) = dfB ++ ([105, 102, 32] ++ (q.bs ++ ([32, 116, 104, 101, 110, 32] ++ (twoBy ++ ([101, 108, 115, 101, 32] ++ (oneBy ++ [114, 101, 106, 101, 99, 116, 59])))))) := by
  rw [qL, if_bytes, twoP_bytes]
  simp only [pcBytes, wPc, wds.2.2.2.2.2.2.2.2.2]
  rw [oneP_bytes]
  simp only [pcBytes, sPc, wds.2.2.2.1]
  simp
theorem uL_bytes (q : Tc) : pcBytes (uL q) = dfB ++ ([105, 102, 32] ++ (q.bs ++ ([32, 116, 104, 101, 110, 32] ++ [123, 32, 97, 99, 99, 101, 112, 116, 59, 32, 125]))) := by
  rw [uL, if_bytes]
  simp only [accP, pcBytes, wPc, sPc, wds.2.2.1]
  simp
theorem vL_bytes (q : Tc) : pcBytes (vL q) = dfB ++ ([105, 102, 32] ++ (q.bs ++ ([32, 116, 104, 101, 110, 32] ++ [123, 32, 97, 99, 99, 101, 112, 116, 59, 32, 112, 114, 101, 112, 101, 110, 100, 32, 57, 59, 32, 125]))) := by
  rw [vL, if_bytes]
  simp only [nineP, pcBytes, wPc, sPc, nPc, wds.2.2.1, wds.2.2.2.2.2.2.1, dec_small (u := 9) (by decide)]
  rfl
theorem rL_bytes (q : Tc) : pcBytes (rL q) ++ badR = dfB ++ ([105, 102, 32] ++ (q.bs ++ ([32, 116, 104, 101, 110, 32] ++ [123, 32, 97, 99, 99, 101, 112, 116, 59, 32, 112, 114, 101, 112, 101, 110, 100, 32, 48, 48, 48, 49, 59, 32, 125]))) := by
  have h : rL q = dfP ++ (wPc 9 :: .sp :: q.pc (.sp :: wPc 10 :: .sp :: [sPc 123, .sp, wPc 2, sPc 59, .sp, wPc 8, .sp])) := rfl
  rw [h, if_bytes]
  simp only [pcBytes, wPc, sPc, wds.2.2.1, wds.2.2.2.2.2.2.1]
  simp [badR]
/-! ## Read -/
theorem readF_of {s : ByteArray} {ts : List TokP} (hts : allP s = ts) (hs : s.size ≤ 600) {ms : List StpM} {f : Nat} {st : RS} (hp : policyW ts 100 20 (stmF ts f) rs0 = some (st, ms.map some)) (f1 : st.syn = none) (f2 : st.nam = none) (f3 : st.num = none) (hpage : st.page ≠ []) : ReadOk s ms := by
  intro w ht
  subst hts
  obtain ⟨h1, h2⟩ := allP_ok hs
  have IS : ∀ pb, SumSaid pb (allP s) (sumS (allP s)) := fun pb => sumTw_said h1 100 20
  have IH : ∀ pb, StmtSaid pb (allP s) (stmF (allP s) f) := fun pb =>
    stmt_said h1 100 (by decide) okP (fun _ => putMark_said) (fun _ => dropMark_said) (fun _ => prepend_said) (IS pb) (cond_said h1 (not_said h1 (IS pb) 100 20) 100) f
  exact read_gen s hs w ht h1 h2 (fun pb W O h hk => policyW_said h1 (allP_len s) (IH pb) 100 20 (by decide) (either_said h1 100 (by decide) 20) h hk rfl hp) f1 f2 f3 (allO_map ms) hpage
theorem readF_bad {s : ByteArray} {ts : List TokP} (hts : allP s = ts) (hs : s.size ≤ 600) {l : List (Option StpM)} {f : Nat} {st : RS} (hp : policyW ts 100 20 (stmF ts f) rs0 = some (st, l)) (hb : Bad st) : ReadBad s := by
  intro w ht
  subst hts
  obtain ⟨a, ha⟩ := hb
  obtain ⟨h1, h2⟩ := allP_ok hs
  have IS : ∀ pb, SumSaid pb (allP s) (sumS (allP s)) := fun pb => sumTw_said h1 100 20
  have IH : ∀ pb, StmtSaid pb (allP s) (stmF (allP s) f) := fun pb =>
    stmt_said h1 100 (by decide) okP (fun _ => putMark_said) (fun _ => dropMark_said) (fun _ => prepend_said) (IS pb) (cond_said h1 (not_said h1 (IS pb) 100 20) 100) f
  refine (read_bad s hs w ht h1 h2 (fun pb W O h hk => policyW_said h1 (allP_len s) (IH pb) 100 20 (by decide) (either_said h1 100 (by decide) 20) h hk rfl hp) (Or.inl ⟨ha, rfl⟩)).mono ?_
  rintro e w' ⟨rfl, hb⟩
  exact ⟨2, a, by decide, rfl, hb⟩
theorem spA (R : List Pc) : spAhead (.sp :: R) := sp_ahead R
theorem p_read (q : Tc) (ho : q.ok) (hl : q.bs.length ≤ 300) : ReadOk (bsA (pcBytes (pL q))) [chooseM q.M oneMs twoMs] := by
  obtain ⟨st, K, hp, g⟩ := p_policy q ho
  have hok : pcOk (pL q) := dfP_ok (ok_w (by decide) (q.pc_ok ho (ok_w (by decide) (oneP_ok (ok_w (by decide) (twoP_ok trivial) (hd_sp _).1)) (hd_sp _).1) (spA _)) (hd_sp _).1)
  refine readF_of (pcs_all hok) ?_ hp g.syn g.nam g.num (g.page.resolve_left (by omega))
  rw [bsA_size, pL_bytes]
  simp only [List.length_append, show dfB.length = 45 from rfl, show oneBy.length = 31 from rfl, show twoBy.length = 39 from rfl, List.length_cons, List.length_nil]
  omega
theorem q_read (q : Tc) (ho : q.ok) (hl : q.bs.length ≤ 300) : ReadOk (bsA (pcBytes (qL q))) [chooseM q.M twoMs oneMs, concludeM 2] := by
  obtain ⟨st, K, hp, g⟩ := q_policy q ho
  have hok : pcOk (qL q) := dfP_ok (ok_w (by decide) (q.pc_ok ho (ok_w (by decide) (twoP_ok (ok_w (by decide) (oneP_ok (ok_w (by decide) (okSign trivial (by simp)) (hd59 _).1)) (hd_sp _).1)) (hd_sp _).1) (spA _)) (hd_sp _).1)
  refine readF_of (pcs_all hok) ?_ hp g.syn g.nam g.num (g.page.resolve_left (by omega))
  rw [bsA_size, qL_bytes]
  simp only [List.length_append, show dfB.length = 45 from rfl, show oneBy.length = 31 from rfl, show twoBy.length = 39 from rfl, List.length_cons, List.length_nil]
  omega
theorem u_read (q : Tc) (ho : q.ok) (hl : q.bs.length ≤ 300) : ReadOk (bsA (pcBytes (uL q))) [chooseM q.M [concludeM 1] []] := by
  obtain ⟨st, K, hp, g⟩ := u_policy q ho
  have hok : pcOk (uL q) := dfP_ok (ok_w (by decide) (q.pc_ok ho (ok_w (by decide) (accP_ok trivial) (hd_sp _).1) (spA _)) (hd_sp _).1)
  refine readF_of (pcs_all hok) ?_ hp g.syn g.nam g.num (g.page.resolve_left (by omega))
  rw [bsA_size, uL_bytes]
  simp only [List.length_append, show dfB.length = 45 from rfl, List.length_cons, List.length_nil]
  omega
theorem v_read (q : Tc) (ho : q.ok) (hl : q.bs.length ≤ 400) : ReadOk (bsA (pcBytes (vL q))) [chooseM q.M [concludeM 1, prependM 9] []] := by
  obtain ⟨st, K, hp, g⟩ := v_policy q ho
  have hok : pcOk (vL q) := dfP_ok (ok_w (by decide) (q.pc_ok ho (ok_w (by decide) (nineP_ok trivial) (hd_sp _).1) (spA _)) (hd_sp _).1)
  refine readF_of (pcs_all hok) ?_ hp g.syn g.nam g.num (g.page.resolve_left (by omega))
  rw [bsA_size, vL_bytes]
  simp only [List.length_append, show dfB.length = 45 from rfl, List.length_cons, List.length_nil]
  omega
theorem r_read (a b : Ct) (ho : (Tc.or a b).ok) (hl : (Tc.or a b).bs.length ≤ 400) : ReadBad (bsA (pcBytes (rL (.or a b)) ++ badR)) := by
  obtain ⟨st, l, hp, hb⟩ := r_policy (.or a b) a b rfl ho
  refine readF_bad (bad_all (rL_ok _ ho)) ?_ hp hb
  rw [bsA_size, rL_bytes]
  simp only [List.length_append, show dfB.length = 45 from rfl, List.length_cons, List.length_nil]
  omega
theorem p_text (x : Ct) : bsA (pcBytes (pL (.one x))) = (⟨#[115, 101, 116, 32, 115, 32, 61, 32, 123, 32, 49, 48, 46, 48, 46, 48, 46, 48, 47, 56, 32, 49, 54, 32, 50, 52, 32, 125, 59, 32, 119, 97, 121, 32, 119, 32, 61, 32, 49, 32, 46, 32, 42, 59, 32, 105, 102, 32]⟩ ++ bsA x.bs ++ ⟨#[32, 116, 104, 101, 110, 32]⟩ ++ ⟨#[123, 32, 112, 114, 101, 112, 101, 110, 100, 32, 53, 59, 32, 109, 97, 114, 107, 32, 51, 59, 32, 97, 99, 99, 101, 112, 116, 59, 32, 125, 32]⟩ ++ ⟨#[101, 108, 115, 101, 32]⟩ ++ ⟨#[123, 32, 112, 114, 101, 102, 32, 61, 32, 112, 114, 101, 102, 32, 43, 32, 49, 59, 32, 117, 110, 109, 97, 114, 107, 32, 50, 59, 32, 97, 99, 99, 101, 112, 116, 59, 32, 125, 32]⟩ : ByteArray) := by
  show _ = bsA [115, 101, 116, 32, 115, 32, 61, 32, 123, 32, 49, 48, 46, 48, 46, 48, 46, 48, 47, 56, 32, 49, 54, 32, 50, 52, 32, 125, 59, 32, 119, 97, 121, 32, 119, 32, 61, 32, 49, 32, 46, 32, 42, 59, 32, 105, 102, 32] ++ bsA x.bs ++ bsA [32, 116, 104, 101, 110, 32] ++ bsA [123, 32, 112, 114, 101, 112, 101, 110, 100, 32, 53, 59, 32, 109, 97, 114, 107, 32, 51, 59, 32, 97, 99, 99, 101, 112, 116, 59, 32, 125, 32] ++ bsA [101, 108, 115, 101, 32] ++ bsA [123, 32, 112, 114, 101, 102, 32, 61, 32, 112, 114, 101, 102, 32, 43, 32, 49, 59, 32, 117, 110, 109, 97, 114, 107, 32, 50, 59, 32, 97, 99, 99, 101, 112, 116, 59, 32, 125, 32]
  simp only [← app_bsA]
  congr 1
  rw [pL_bytes, show (Tc.one x).bs = x.bs from rfl]
  simp [dfB, oneBy, twoBy]
theorem q_text (x : Ct) : bsA (pcBytes (qL (.one (.not (.brk x))))) = (⟨#[115, 101, 116, 32, 115, 32, 61, 32, 123, 32, 49, 48, 46, 48, 46, 48, 46, 48, 47, 56, 32, 49, 54, 32, 50, 52, 32, 125, 59, 32, 119, 97, 121, 32, 119, 32, 61, 32, 49, 32, 46, 32, 42, 59, 32, 105, 102, 32, 110, 111, 116, 32, 91, 32]⟩ ++ bsA x.bs ++ ⟨#[32, 93, 32, 116, 104, 101, 110, 32]⟩ ++ ⟨#[123, 32, 112, 114, 101, 102, 32, 61, 32, 112, 114, 101, 102, 32, 43, 32, 49, 59, 32, 117, 110, 109, 97, 114, 107, 32, 50, 59, 32, 97, 99, 99, 101, 112, 116, 59, 32, 125, 32]⟩ ++ ⟨#[101, 108, 115, 101, 32]⟩ ++ ⟨#[123, 32, 112, 114, 101, 112, 101, 110, 100, 32, 53, 59, 32, 109, 97, 114, 107, 32, 51, 59, 32, 97, 99, 99, 101, 112, 116, 59, 32, 125, 32]⟩ ++ ⟨#[114, 101, 106, 101, 99, 116, 59]⟩ : ByteArray) := by
  show _ = bsA [115, 101, 116, 32, 115, 32, 61, 32, 123, 32, 49, 48, 46, 48, 46, 48, 46, 48, 47, 56, 32, 49, 54, 32, 50, 52, 32, 125, 59, 32, 119, 97, 121, 32, 119, 32, 61, 32, 49, 32, 46, 32, 42, 59, 32, 105, 102, 32, 110, 111, 116, 32, 91, 32] ++ bsA x.bs ++ bsA [32, 93, 32, 116, 104, 101, 110, 32] ++ bsA [123, 32, 112, 114, 101, 102, 32, 61, 32, 112, 114, 101, 102, 32, 43, 32, 49, 59, 32, 117, 110, 109, 97, 114, 107, 32, 50, 59, 32, 97, 99, 99, 101, 112, 116, 59, 32, 125, 32] ++ bsA [101, 108, 115, 101, 32] ++ bsA [123, 32, 112, 114, 101, 112, 101, 110, 100, 32, 53, 59, 32, 109, 97, 114, 107, 32, 51, 59, 32, 97, 99, 99, 101, 112, 116, 59, 32, 125, 32] ++ bsA [114, 101, 106, 101, 99, 116, 59]
  simp only [← app_bsA]
  congr 1
  rw [qL_bytes, show (Tc.one (.not (.brk x))).bs = (Ct.not (.brk x)).bs from rfl, Ct.bs_not, Ct.bs_brk]
  simp [dfB, oneBy, twoBy]
theorem r_text (x y : Ct) : bsA (pcBytes (rL (.or (.brk x) (.brk y))) ++ badR) = (⟨#[115, 101, 116, 32, 115, 32, 61, 32, 123, 32, 49, 48, 46, 48, 46, 48, 46, 48, 47, 56, 32, 49, 54, 32, 50, 52, 32, 125, 59, 32, 119, 97, 121, 32, 119, 32, 61, 32, 49, 32, 46, 32, 42, 59, 32, 105, 102, 32, 91, 32]⟩ ++ bsA x.bs ++ ⟨#[32, 93, 32, 111, 114, 32, 91, 32]⟩ ++ bsA y.bs ++ ⟨#[32, 93, 32, 116, 104, 101, 110, 32, 123, 32, 97, 99, 99, 101, 112, 116, 59, 32, 112, 114, 101, 112, 101, 110, 100, 32, 48, 48, 48, 49, 59, 32, 125]⟩ : ByteArray) := by
  show _ = bsA [115, 101, 116, 32, 115, 32, 61, 32, 123, 32, 49, 48, 46, 48, 46, 48, 46, 48, 47, 56, 32, 49, 54, 32, 50, 52, 32, 125, 59, 32, 119, 97, 121, 32, 119, 32, 61, 32, 49, 32, 46, 32, 42, 59, 32, 105, 102, 32, 91, 32] ++ bsA x.bs ++ bsA [32, 93, 32, 111, 114, 32, 91, 32] ++ bsA y.bs ++ bsA [32, 93, 32, 116, 104, 101, 110, 32, 123, 32, 97, 99, 99, 101, 112, 116, 59, 32, 112, 114, 101, 112, 101, 110, 100, 32, 48, 48, 48, 49, 59, 32, 125]
  simp only [← app_bsA]
  congr 1
  rw [rL_bytes, Tc.bs_or, Ct.bs_brk, Ct.bs_brk]
  simp [dfB]
theorem u_text (x y : Ct) : bsA (pcBytes (uL (.or (.brk x) (.brk y)))) = (⟨#[115, 101, 116, 32, 115, 32, 61, 32, 123, 32, 49, 48, 46, 48, 46, 48, 46, 48, 47, 56, 32, 49, 54, 32, 50, 52, 32, 125, 59, 32, 119, 97, 121, 32, 119, 32, 61, 32, 49, 32, 46, 32, 42, 59, 32, 105, 102, 32, 91, 32]⟩ ++ bsA x.bs ++ ⟨#[32, 93, 32, 111, 114, 32, 91, 32]⟩ ++ bsA y.bs ++ ⟨#[32, 93, 32, 116, 104, 101, 110, 32, 123, 32, 97, 99, 99, 101, 112, 116, 59, 32, 125]⟩ : ByteArray) := by
  show _ = bsA [115, 101, 116, 32, 115, 32, 61, 32, 123, 32, 49, 48, 46, 48, 46, 48, 46, 48, 47, 56, 32, 49, 54, 32, 50, 52, 32, 125, 59, 32, 119, 97, 121, 32, 119, 32, 61, 32, 49, 32, 46, 32, 42, 59, 32, 105, 102, 32, 91, 32] ++ bsA x.bs ++ bsA [32, 93, 32, 111, 114, 32, 91, 32] ++ bsA y.bs ++ bsA [32, 93, 32, 116, 104, 101, 110, 32, 123, 32, 97, 99, 99, 101, 112, 116, 59, 32, 125]
  simp only [← app_bsA]
  congr 1
  rw [uL_bytes, Tc.bs_or, Ct.bs_brk, Ct.bs_brk]
  simp [dfB]
theorem v_text (x y : Ct) : bsA (pcBytes (vL (.one (.not (.and (.not (.brk x)) (.not (.brk y))))))) = (⟨#[115, 101, 116, 32, 115, 32, 61, 32, 123, 32, 49, 48, 46, 48, 46, 48, 46, 48, 47, 56, 32, 49, 54, 32, 50, 52, 32, 125, 59, 32, 119, 97, 121, 32, 119, 32, 61, 32, 49, 32, 46, 32, 42, 59, 32, 105, 102, 32, 110, 111, 116, 32, 91, 32, 110, 111, 116, 32, 91, 32]⟩ ++ bsA x.bs ++ ⟨#[32, 93, 32, 97, 110, 100, 32, 110, 111, 116, 32, 91, 32]⟩ ++ bsA y.bs ++ ⟨#[32, 93, 32, 93, 32, 116, 104, 101, 110, 32, 123, 32, 97, 99, 99, 101, 112, 116, 59, 32, 112, 114, 101, 112, 101, 110, 100, 32, 57, 59, 32, 125]⟩ : ByteArray) := by
  show _ = bsA [115, 101, 116, 32, 115, 32, 61, 32, 123, 32, 49, 48, 46, 48, 46, 48, 46, 48, 47, 56, 32, 49, 54, 32, 50, 52, 32, 125, 59, 32, 119, 97, 121, 32, 119, 32, 61, 32, 49, 32, 46, 32, 42, 59, 32, 105, 102, 32, 110, 111, 116, 32, 91, 32, 110, 111, 116, 32, 91, 32] ++ bsA x.bs ++ bsA [32, 93, 32, 97, 110, 100, 32, 110, 111, 116, 32, 91, 32] ++ bsA y.bs ++ bsA [32, 93, 32, 93, 32, 116, 104, 101, 110, 32, 123, 32, 97, 99, 99, 101, 112, 116, 59, 32, 112, 114, 101, 112, 101, 110, 100, 32, 57, 59, 32, 125]
  simp only [← app_bsA]
  congr 1
  rw [vL_bytes, show (Tc.one (.not (.and (.not (.brk x)) (.not (.brk y))))).bs = (Ct.not (.and (.not (.brk x)) (.not (.brk y)))).bs from rfl, Ct.bs_not, Ct.bs_and, Ct.bs_not, Ct.bs_not, Ct.bs_brk, Ct.bs_brk]
  simp [dfB]
end Go.Proofs.YtgdeeodifnegiaaGreatDoor
