/- compiled (package bywaykeep), where the text is a policy; the text of known. -/
import Derived.Test.YtgdeeodifnegiaaGreatDoorLexA
import Derived.Test.YtgdeeodifnegiaaGreatDoorMrkA
import Derived.Test.YtgdeeodifnegiaaGreatDoorWayC
import Derived.Test.YtgdeeodifnegiaaGreatDoorWayP
namespace Go.Proofs.YtgdeeodifnegiaaGreatDoor
open Go.RowKit

theorem readOk_of {l : List It} {ms : List StpM} {k' f : Nat} (hl : itsOk l = true) (hs : (itBytes l).length ≤ 600) (hm : Many (itToks 0 l) (stmS (itToks 0 l) f) 0 0 k' ms) (hne : ms ≠ []) (hn : ms.length < 100) (he : kAt (itToks 0 l) k' = 1) (h0 : ((itToks 0 l)[0]?.getD tok0).text.data.toList ≠ [])
    (h5 : kAt (itToks 0 l) 0 ≠ 5) (h6 : kAt (itToks 0 l) 0 ≠ 6) : ReadOk (bsA (itBytes l)) ms := by
  intro w ht
  have ha := its_all hl
  have hsz : (bsA (itBytes l)).size ≤ 600 := by rw [bsA_size]; exact hs
  obtain ⟨hts, hpos⟩ := allP_ok hsz
  obtain ⟨st, hp, g⟩ := policy_reads (n := 100) hm hne hn he h0
  have hk0 : kindR (itToks 0 l) rs0 = kAt (itToks 0 l) 0 := (⟨rfl, rfl, rfl, rfl, rfl, h0, Or.inl rfl⟩ : Good (itToks 0 l) rs0 0 0).kind
  have hpage : st.page ≠ [] := by
    rcases g.page with h | h
    · subst h
      exfalso
      have hd := hm
      cases hd with
      | nil => exact hne rfl
      | cons h1 h2 =>
        have : ∀ {k k' : Nat} {l' : List StpM}, Many (itToks 0 l) (stmS (itToks 0 l) f) 0 k k' l' → True := fun _ => trivial
        have hz : kAt (itToks 0 l) 0 = 1 := he
        obtain ⟨s1, e1, g1⟩ := h1 rs0 ⟨rfl, rfl, rfl, rfl, rfl, h0, Or.inl rfl⟩
        cases f with
        | zero => rw [stmS, stmtTw] at e1; cases e1
        | succ f =>
          rw [stmS, stmtTw, hk0, hz, if_neg (by decide), if_neg (by decide), if_neg (by decide), if_neg (by decide), if_neg (by decide), if_neg (by decide), if_neg (by decide), if_neg (by decide), if_neg (by decide)] at e1
          cases e1
    · exact h
  rw [← ha] at hp hk0 h5 h6
  have IS : ∀ pb, SumSaid pb (allP (bsA (itBytes l))) (sumS (allP (bsA (itBytes l)))) := fun pb => sumTw_said hts 100 20
  have IH : ∀ pb, StmtSaid pb (allP (bsA (itBytes l))) (stmS (allP (bsA (itBytes l))) f) := fun pb =>
    stmt_said hts 100 (by decide) okP (fun _ => putMark_said) (fun _ => dropMark_said) (fun _ => prepend_said) (IS pb) (cond_said hts (not_cmp hts (IS pb)) 100) f
  exact read_ok _ hsz w ht hts (n := 100) (by decide) IH hpos (by rw [hk0]; exact h5) (by rw [hk0]; exact h6) hp g.syn g.nam g.num (allO_map ms) hpage

/-- if pref < 100 then { reject; } prepend 7; accept; -/
def knownIts : List It := [.wo 9, .sp, .wo 4, .sp, .sg 60, .sp, .nm 100, .sp, .wo 10, .sp, .sg 123, .sp, .wo 3, .sg 59, .sp, .sg 125, .sp, .wo 8, .sp, .nm 7, .sg 59, .sp, .wo 2, .sg 59]
def knownMs : List StpM := [chooseM (ltM prefM (constM 100)) [concludeM 2] [], prependM 7, concludeM 1]
theorem known_bytes : bsA (itBytes knownIts) = ⟨#[105, 102, 32, 112, 114, 101, 102, 32, 60, 32, 49, 48, 48, 32, 116, 104, 101, 110, 32, 123, 32, 114, 101, 106, 101, 99, 116, 59, 32, 125, 32, 112, 114, 101, 112, 101, 110, 100, 32, 55, 59, 32, 97, 99, 99, 101, 112, 116, 59]⟩ := by
  have h1 : Lib.decDigits 100 = [49, 48, 48] := by rw [dec_unfold, if_neg (by decide), dec_unfold, if_neg (by decide), dec_unfold, if_pos (by decide)]; rfl
  have h2 : Lib.decDigits 7 = [55] := by rw [dec_unfold, if_pos (by decide)]; rfl
  simp only [knownIts, itBytes_cons, It.bytes, h1, h2]
  rfl
theorem known_kn : itKN knownIts = [(14, 0), (9, 0), (40, 0), (2, 100), (15, 0), (29, 0), (8, 0), (27, 0), (30, 0), (13, 0), (2, 7), (27, 0), (7, 0), (27, 0), (1, 0)] := by decide +kernel
theorem known_k (i : Nat) (q : Int) (h : (([(14, 0), (9, 0), (40, 0), (2, 100), (15, 0), (29, 0), (8, 0), (27, 0), (30, 0), (13, 0), (2, 7), (27, 0), (7, 0), (27, 0), (1, 0)] : List (Int × Int))[i]?.getD (0, 0)).1 = q) : kAt (itToks 0 knownIts) i = q := by
  rw [its_kAt, known_kn]; exact h
theorem known_n (i : Nat) (q : Int) (h : (([(14, 0), (9, 0), (40, 0), (2, 100), (15, 0), (29, 0), (8, 0), (27, 0), (30, 0), (13, 0), (2, 7), (27, 0), (7, 0), (27, 0), (1, 0)] : List (Int × Int))[i]?.getD (0, 0)).2 = q) : nAt (itToks 0 knownIts) i = q := by
  rw [its_nAt, known_kn]; exact h
theorem known_many : Many (itToks 0 knownIts) (stmS (itToks 0 knownIts) 3) 0 0 14 knownMs := by
  have k := known_k
  have n3 : nAt (itToks 0 knownIts) 3 = 100 := known_n 3 _ rfl
  have n10 : nAt (itToks 0 knownIts) 10 = 7 := known_n 10 _ rfl
  have hc : Reads (itToks 0 knownIts) (cndS (itToks 0 knownIts)) 0 1 4 (some (ltM prefM (constM 100))) := by
    refine cond_one (notC_cmp (cmp_lt (k1 := 2) (sum_one (term_pref' (k 1 9 rfl)) (by rw [k 2 40 rfl]; decide) (by rw [k 2 40 rfl]; decide) (by decide)) (k 2 40 rfl) (sum_one (k1 := 4) ?_ (by rw [k 4 15 rfl]; decide) (by rw [k 4 15 rfl]; decide) (by decide))) (by rw [k 1 9 rfl]; decide)) (by rw [k 4 15 rfl]; decide) (by rw [k 4 15 rfl]; decide) (by decide)
    have := term_num' (ts := itToks 0 knownIts) (n := 100) (f := 19) (d := 0) (k 3 2 rfl)
    rw [n3] at this; exact this
  have hb : Reads (itToks 0 knownIts) (blockBy (itToks 0 knownIts) (stmS (itToks 0 knownIts) 2) 100) 0 5 9 ([concludeM 2].map some) :=
    block_reads (k' := 8) (k 5 29 rfl) (by decide) (by decide) (.cons (stmt_reject' (k 6 8 rfl) rfl (k 7 27 rfl)) (.nil (stmt_none' (by rw [k 8 30 rfl]; decide) (by rw [k 8 30 rfl]; rfl)))) (by decide) (k 8 30 rfl)
  refine .cons (k1 := 9) (stmt_if' (k 0 14 rfl) rfl hc (k 4 15 rfl) hb (by rw [k 9 13 rfl]; decide)) (.cons (k1 := 12) ?_ (.cons (k1 := 14) (stmt_accept' (k 12 7 rfl) rfl (k 13 27 rfl)) (.nil (stmt_none' (by rw [k 14 1 rfl]; decide) (by rw [k 14 1 rfl]; rfl)))))
  have := stmt_prepend' (ts := itToks 0 knownIts) (n := 100) (f := 2) (ok := okP) (sum := sumS (itToks 0 knownIts)) (cnd := cndS (itToks 0 knownIts)) (d := 0) (k 9 13 rfl) rfl (k 10 2 rfl) (by rw [n10]; decide) (by rw [n10]; decide) (k 11 27 rfl)
  rw [n10] at this; exact this
theorem known_read : ReadOk (bsA (itBytes knownIts)) knownMs :=
  readOk_of (by decide +kernel) (by rw [← bsA_size, known_bytes]; decide) known_many (by simp [knownMs]) (by simp [knownMs]) (known_k 14 1 rfl) (by decide +kernel) (by rw [known_k 0 14 rfl]; decide) (by rw [known_k 0 14 rfl]; decide)
end Go.Proofs.YtgdeeodifnegiaaGreatDoor

namespace Go.Proofs.YtgdeeodifnegiaaGreatDoor
open Go.RowKit

/-- a comparison, or 'net in' -/
def notN (ts : List TokP) (sum : RS → Option (RS × Option AmtM)) (st : RS) : Option (RS × Option CndM) :=
  if kindR ts st = 21 then some ((useSetR ts (takeR ts 22 (goR ts st)).1).1, (useSetR ts (takeR ts 22 (goR ts st)).1).2.map netInM) else notC ts sum st
set_option maxRecDepth 100000 in
set_option maxHeartbeats 2000000 in
theorem not_net {pb : Nat} {ts : List TokP} (ht : TsOk ts) {sum : RS → Option (RS × Option AmtM)} (IH : SumSaid pb ts sum) : CndSaid 339 pb ts (notN ts sum) := by
  intro w st D O r h hk hr
  unfold notN at hr
  by_cases hc : kindR ts st = 21
  · rw [if_pos hc] at hr
    obtain rfl := Option.some.inj hr
    have HTS := hide (fun W (hW : RA W pb ts st D O) => test_net ht hW hk hc)
    have HR := hide h
    have HF := hide (Fr.refl O w)
    have HK := hide hk
    have HT := hide ht
    have b20 : (kindR ts st != 20) = true := by rw [hc]; decide
    clear h hk ht hr hc IH
    go_enter Tryz.func339, Tryz.ntmps339
    go_wp2_with (go_at_call 170; refine (kind_is (unhide HR) (unhide HK) (unhide HT) rfl).mono ?_; rintro e w1 ⟨rfl, hr1, hf1⟩; replace HR := hide hr1; replace HF := hide ((unhide HF).trans hf1); clear hr1 hf1)
    refine ((unhide HTS) _ (unhide HR)).mono ?_
    rintro e w2 ⟨v, O2, rfl, hr2, hf2, hv2, hk2⟩
    have HV := hide (hv2.fr (Fr.refl _ _) (unhide HF).size)
    have HK2 := hide hk2
    replace HR := hide hr2
    replace HF := hide ((unhide HF).trans hf2)
    clear hr2 hf2 hv2 hk2
    go_wp2_with fail
    go_ret
    exact ⟨_, _, rfl, unhide HR, unhide HF, unhide HV, unhide HK2⟩
  · rw [if_neg hc] at hr
    exact not_cmp ht IH w st D O r h hk hr
/-! ## the tokens' nets -/
theorem prefV_len (t : ByteArray) : 0 ≤ (prefV t).2 ∧ (prefV t).2 ≤ 32 := by
  unfold prefV
  cases h : prefS t with
  | none => exact ⟨Int.le_refl _, by decide⟩
  | some p =>
    unfold prefS at h
    split at h
    · split at h
      · cases h
      · split at h
        · rename_i hb
          cases h
          have h2 : netOk (_, numV (behS t) 32) := of_decide_eq_true hb.2
          exact h2.2.1
        · cases h
    · cases h
theorem digitsP_len (t : ByteArray) : 0 ≤ (digitsP t).len ∧ (digitsP t).len ≤ 32 := by
  cases h : numIs t 4294967295 with
  | true => rw [digitsP, if_pos h]; exact (by decide : (0 : Int) ≤ 0 ∧ (0 : Int) ≤ 32)
  | false =>
    rw [digitsP, if_neg (by rw [h]; decide)]
    cases h2 : (prefS t).isSome with
    | true => rw [if_pos rfl]; exact prefV_len t
    | false => rw [if_neg (by decide)]; exact (by decide : (0 : Int) ≤ 0 ∧ (0 : Int) ≤ 32)
theorem firstP_len (s : ByteArray) : 0 ≤ (firstP s).len ∧ (firstP s).len ≤ 32 := by
  cases h : lowB (bt s 0) with
  | true => rw [firstP, if_pos h]; exact (by decide : (0 : Int) ≤ 0 ∧ (0 : Int) ≤ 32)
  | false =>
    rw [firstP, if_neg (by rw [h]; decide)]
    cases h2 : digB (bt s 0) with
    | true => rw [if_pos rfl]; exact digitsP_len _
    | false => rw [if_neg (by decide)]; exact (by decide : (0 : Int) ≤ 0 ∧ (0 : Int) ≤ 32)
theorem allGo_len (s : ByteArray) : ∀ f k, LenOk (allGo s f k)
  | 0, _, t, h => by cases h
  | f + 1, k, t, h => by
    rw [allGo] at h
    split at h
    · split at h
      · exact allGo_len s f _ t h
      · split at h
        · rw [List.mem_singleton.1 h]; exact firstP_len _
        · rcases List.mem_cons.1 h with rfl | h
          · exact firstP_len _
          · exact allGo_len s f _ t h
    · rw [List.mem_singleton.1 h]; exact ⟨Int.le_refl _, by show (0 : Int) ≤ 32; decide⟩
theorem allP_len (s : ByteArray) : LenOk (allP s) := allGo_len s _ _
/-! ## Read -/
abbrev cndN (ts : List TokP) : RS → Option (RS × Option CndM) := condBy ts (notN ts (sumS ts)) 100
abbrev stmN (ts : List TokP) (f : Nat) : RS → Option (RS × Option (Option StpM)) := stmtTw ts 100 okP (sumS ts) (cndN ts) f
theorem readD_of {s : ByteArray} {ts : List TokP} (hts : allP s = ts) (hs : s.size ≤ 600) {ms : List StpM} {f : Nat} {st : RS} (hp : policyD ts 100 (stmN ts f) rs0 = some (st, ms.map some)) (f1 : st.syn = none) (f2 : st.nam = none) (f3 : st.num = none) (hpage : st.page ≠ []) : ReadOk s ms := by
  intro w ht
  subst hts
  obtain ⟨h1, h2⟩ := allP_ok hs
  have IS : ∀ pb, SumSaid pb (allP s) (sumS (allP s)) := fun pb => sumTw_said h1 100 20
  have IH : ∀ pb, StmtSaid pb (allP s) (stmN (allP s) f) := fun pb =>
    stmt_said h1 100 (by decide) okP (fun _ => putMark_said) (fun _ => dropMark_said) (fun _ => prepend_said) (IS pb) (cond_said h1 (not_net h1 (IS pb)) 100) f
  exact read_gen s hs w ht h1 h2 (fun pb W O h hk => policyD_said h1 (allP_len s) (IH pb) 100 (by decide) h hk rfl hp) f1 f2 f3 (allO_map ms) hpage
end Go.Proofs.YtgdeeodifnegiaaGreatDoor

namespace Go.Proofs.YtgdeeodifnegiaaGreatDoor
open Go.RowKit

def WayO (w : World) (A : Nat → Prop) (v : Value) : Option WayM → Prop
  | none => FnV v
  | some m => Lasts w A (WayC v m)
theorem WayO.fnv {w : World} {A : Nat → Prop} {v : Value} {o : Option WayM} (h : WayO w A v o) : FnV v := by
  cases o with
  | none => exact h
  | some m =>
    obtain ⟨K, g, lb, h1, _⟩ := Lasts.now h
    exact Or.inl ⟨_, _, _, h1⟩
def WayORes (pb : Nat) (ts : List TokP) (w : World) (D O : Nat → Prop) (r : RS × Option WayM) (e : Ending) (w' : World) : Prop :=
  ∃ v O', e = .returned v ∧ RA w' pb ts r.1 D O' ∧ Fr O w O' w' ∧ WayO w' (Free O' D w.heap.size) v r.2 ∧ Ok ts r.1
theorem Tryz.neNilW (w : World) : (Sem.run Tryz.prog (binOp BinOp.neq 305 .nilFunc .nilFunc) w) = .ok (.bool false) w := by kernel_rfl
theorem Tryz.neFnW (f : Fn) (a b : Array Value) (w : World) : (Sem.run Tryz.prog (binOp BinOp.neq 305 (.func f a b) .nilFunc) w) = .ok (.bool true) w := by kernel_rfl
set_option maxRecDepth 100000 in
set_option maxHeartbeats 4000000 in
theorem useWay_any {pb : Nat} {ts : List TokP} (ht : TsOk ts) {w : World} {st : RS} {D O : Nat → Prop} (h : RA w pb ts st D O) (hk : Ok ts st) :
    Calls Tryz.prog 376 #[ptr4 pb 0] w (WayORes pb ts w D O (useWayR ts st)) := by
  have HTK := hide (take_any h hk ht 4)
  have HK1 := hide (takeR_ok (k := 4) hk ht (by decide))
  have HW := hide (show useWayR ts st = (match findWay (takeR ts 4 st).1.defs (takeR ts 4 st).2.text with | some s => ((takeR ts 4 st).1, some s) | none => (tellName (takeR ts 4 st).1 (takeR ts 4 st).2.at_, none)) from rfl)
  clear h hk ht
  generalize takeR ts 4 st = P at *
  obtain ⟨s1, t⟩ := P
  dsimp only at HK1 HW
  generalize useWayR ts st = RS2 at *
  have hbf := Tryz.neNilW
  have hbg := Tryz.neFnW
  go_enter Tryz.func376, Tryz.ntmps376
  go_wp2_with (go_at_call 213; refine (unhide HTK).mono ?_; clear HTK; rintro e w1 ⟨rfl, O1, hr1, hf1⟩; have HR := hide (hr1.alloc (tokBlk t)); have HF := hide (hf1.alloc (tokBlk t)); have HN := hide (And.intro (heap_alloc_new w1 (tokBlk t)) (show ¬ O1 w1.heap.size from fun ho => by have := hr1.lt ho; omega)); obtain ⟨dv, xs, hc, hd, hl, hrep⟩ := (hr1.alloc (tokBlk t)).defsV; obtain ⟨q, c, hq⟩ := hd.form; have HD := hide hd; have HRP := hide (And.intro hl hrep); clear hr1 hf1 hd hl hrep; dsimp only; subst hq)
  obtain ⟨W1, hW1⟩ : ∃ W1, w1.alloc (tokBlk t) = W1 := ⟨_, rfl⟩
  rw [hW1] at HR HF HN HD HRP
  unfold tokBlk at hW1
  rw [hW1]
  have hln := (unhide HD).len
  unfold maxLen at hln
  have hwf := (unhide HF).size
  have hn1 : w1.heap.size < W1.heap.size := heap_lt (unhide HN).1
  clear hc
  go_loopw [13] (fun i wr => ∃ j : Nat, j ≤ xs.length ∧ i = .int .i64 (j : Nat) ∧ Hid (findWay (s1.defs.drop j) t.text = findWay s1.defs t.text) ∧ Below W1.heap.size W1 wr) (fun i _ => xs.length - (intOf i).toNat)
  case atStart => exact ⟨0, Nat.zero_le _, rfl, rfl, Below.refl _ _⟩
  case round =>
    obtain ⟨j, hj, rfl, HFS, hbl⟩ := hrel
    have HBL := hide hbl
    have hsb := hbl.size
    clear hbl
    by_cases hlt : j < xs.length
    · obtain ⟨g, c', hq⟩ := (unhide HD).some_ (fun e => by rw [e] at hlt; simp at hlt)
      injection hq with hq1 hq2 hq3
      subst hq1 hq3
      obtain ⟨hgl, hcell⟩ := ((unhide HD).below (unhide HBL)).cell g c rfl
      have hx : xs[j]? = some xs[j] := List.getElem?_eq_getElem hlt
      have hjd : j < s1.defs.length := by rw [← (unhide HRP).1]; exact hlt
      obtain ⟨k1, k2, k3⟩ := hcell j _ hx
      have hrp := (unhide HRP).2 j s1.defs[j] xs[j] (List.getElem?_eq_getElem hjd) hx
      have hfn := (unhide HD).fn xs[j] (List.getElem_mem _)
      have hdr : s1.defs.drop j = s1.defs[j] :: s1.defs.drop (j + 1) := List.drop_eq_getElem_cons hjd
      have hfs := unhide HFS
      rw [hdr, findWay] at hfs
      have hnk := ((unhide HBL).block w1.heap.size hn1).trans (unhide HN).1
      have ct : wr.cell? ⟨w1.heap.size, 2, none⟩ = some (.string t.text) := cell_of_heap hnk
      have lw : w1.heap.size < wr.heap.size := heap_lt hnk
      clear hcell hx hdr HFS hnk
      generalize s1.defs[j] = dd at *
      generalize xs[j] = X at *
      obtain ⟨n, v1, v2⟩ := X
      obtain ⟨hp1, _, hp2⟩ := hrp
      dsimp only at k1 k2 k3 hfn hp1 hp2
      subst hp1
      obtain ⟨h2, h1⟩ := hfn
      cases hE : dd.name.toList == t.text.toList with
      | true =>
        cases hS : dd.way with
        | some m =>
          rw [hS] at hp2 hfs
          dsimp only at hp2
          rw [hE, if_pos (by simp)] at hfs
          have hR2 : RS2 = (s1, some m) := by rw [unhide HW, ← hfs]
          obtain ⟨K0, g0, lb0, hv0, _⟩ := Lasts.now hp2
          have HP2 := hide hp2
          subst hR2
          clear hp2 hfs h1
          subst hv0
          rcases h2 with ⟨f', a', b', rfl⟩ | rfl <;>
          · go_wp2_with fail
            go_ret
            refine ⟨_, _, rfl, ((unhide HR).stay (unhide HBL)).alloc _, ((unhide HF).below (unhide HBL)).alloc _, ?_, unhide HK1⟩
            exact Lasts.mono (unhide HP2) (by simp; omega) (fun k hk ha => ⟨(Below.heap_alloc _ _ _ (by omega)).trans ((unhide HBL).block k hk), ha.1, Or.inl ha.2⟩) (fun _ _ h => h)
        | none =>
          rw [hS] at hp2 hfs
          dsimp only at hp2
          rw [if_neg (by simp)] at hfs
          have HFS := hide hfs
          clear hfs h1
          subst hp2
          rcases h2 with ⟨f', a', b', rfl⟩ | rfl <;>
          · go_wp2_with fail
            exact ⟨⟨j + 1, by omega, by go_num, HFS, (unhide HBL).alloc hsb _⟩, by simp [intOf]; omega⟩
      | false =>
        rw [hE, if_neg (by simp)] at hfs
        have HFS := hide hfs
        clear hfs hp2
        rcases h1 with ⟨f, a, b, rfl⟩ | rfl <;> rcases h2 with ⟨f', a', b', rfl⟩ | rfl <;>
        · go_wp2_with fail
          exact ⟨⟨j + 1, by omega, by go_num, HFS, (unhide HBL).alloc hsb _⟩, by simp [intOf]; omega⟩
    · have hfs := unhide HFS
      rw [List.drop_eq_nil_of_le (by rw [← (unhide HRP).1]; omega), findWay] at hfs
      have hR2 : RS2 = (tellName s1 t.at_, none) := by rw [unhide HW, ← hfs]
      subst hR2
      have hnk := ((unhide HBL).block w1.heap.size hn1).trans (unhide HN).1
      have ct : wr.cell? ⟨w1.heap.size, 1, none⟩ = some (.int .i64 t.at_) := cell_of_heap hnk
      have HTL := hide (fun q => tellNam_any (((unhide HR).stay (unhide HBL)).drewN q) t.at_)
      clear hfs HFS hnk
      go_wp2_with fail
      go_region_with (go_at_call 228; refine ((unhide HTL) 1).mono ?_; rintro e w3 ⟨rfl, hr3, hf3⟩)
      all_goals
        have HR2 := hide hr3
        have HF2 := hide ((((unhide HF).below (unhide HBL)).drewN 1).trans hf3)
        clear hr3 hf3
        go_wp2_with fail
        go_ret
        exact ⟨_, _, rfl, unhide HR2, unhide HF2, Or.inr rfl, ⟨(unhide HK1).next, (unhide HK1).page, (unhide HK1).gap⟩⟩
/-! ## path like -/
theorem path_at {W : World} {b : Nat} {r : Rt} {pv mv : Value} (h : RtAt W b r pv mv) : PathAt W pv r.path := by
  rcases h.path.2 with ⟨h1, h0⟩ | ⟨g, cap, cur, hv, _, hg, hnc, _, hcs, htk⟩
  · have hnil : r.path = [] := List.length_eq_zero_iff.mp h0
    exact ⟨none, 0, by rw [h1, hnil]; rfl, Or.inl hnil⟩
  · refine ⟨_, _, hv, Or.inr ⟨g, 0, rfl, heap_lt hg, fun j hj => ?_⟩⟩
    rw [cell_of_heap hg]
    have h2 : (cur.toList.take (r.path.length * 1))[j]? = some (.int .i64 r.path[j]) := by rw [htk]; simp [intCells, hj]
    rw [List.getElem?_take, if_pos (by omega)] at h2
    simpa using h2
set_option maxRecDepth 100000 in
set_option maxHeartbeats 1000000 in
theorem pathLike_run (W : World) (b : Nat) (r : Rt) (pv mv : Value) (h : RtAt W b r pv mv) (va : Value) (ma : WayM) (Ka : Nat → Prop) (ha : WayC va ma Ka W) (B1 : Nat) (c1 : W.cell? ⟨B1, 0, none⟩ = some va) :
    Calls Tryz.prog 384 (#[ptr4 b 0] ++ #[ptr4 B1 0]) W fun e W' => e = .returned (condV (likeM ma r)) ∧ Below W.heap.size W W' := by
  have HP := hide (path_at h)
  have hn := h.n1
  have r2 : W.cell? ⟨b, 2, none⟩ = some pv := cell_of_heap h.blk
  obtain ⟨g, lb, rfl, eg, hc⟩ := ha
  have HA := hide (fun (V : World) (hV : Below W.heap.size W V) => like_run V (.func (.func g) #[] lb) ma Ka ⟨g, lb, rfl, eg, fun U pv l f hU => hc U pv l f (hV.trans (hU.mono hV.size))⟩ pv r.path ((unhide HP).below hV) hn)
  obtain ⟨a, c, hpv⟩ := owns_form' h.path
  have EQ : Hid (condV (likeM ma r) = .tuple #[.bool (@decide (ma r.path) (Classical.propDecidable _)), .bool true]) := rfl
  clear h hc eg hn HP
  rw [unhide EQ]
  subst hpv
  go_enter Tryz.func384, Tryz.ntmps384
  go_wp2_with fail
  go_region_with (go_at_call 385; refine ((unhide HA) _ (Below.refl _ _).drew).mono ?_; rintro e w1 ⟨⟨B, rfl, hB⟩, hb1⟩; have HB1 := hide (((Below.refl W.heap.size W).drew).trans (hb1.mono (Nat.le_refl _))); have HX := hide hB; clear hb1 hB)
  all_goals
    go_wp2_with fail
    go_ret2
    refine ⟨?_, unhide HB1⟩
    have hq : B = @decide (ma r.path) (Classical.propDecidable _) := by
      have h := unhide HX
      cases B with
      | true => exact (@decide_eq_true _ (Classical.propDecidable _) (h.1 rfl)).symm
      | false => exact (@decide_eq_false _ (Classical.propDecidable _) (fun hm => by have := h.2 hm; cases this)).symm
    rw [hq]; rfl
set_option maxRecDepth 100000 in
set_option maxHeartbeats 1000000 in
theorem pathLike_call (w : World) (va : Value) (ha : FnV va) :
    Calls Tryz.prog 375 #[va] w fun e w' => e = .returned (.func (.func 384) #[] #[ptr4 w.heap.size 0]) ∧ w' = (w.alloc (box1 va 305)) := by
  have hmf : ∀ (fn : Fn) (first cap : Array Value) (w : World), (Instr.makeFunc fn first cap).run Tryz.prog w = .ok (.func fn first cap) w := fun _ _ _ _ => rfl
  rcases ha with ⟨f, a, b, rfl⟩ | rfl <;>
  · go_enter Tryz.func375, Tryz.ntmps375
    go_wp2_with fail
    go_ret
    exact ⟨rfl, rfl⟩
theorem Tryz.entPathLike : Enters Tryz.prog 384 := enters_of Tryz.func384 (by kernel_rfl) rfl
theorem WayO.alloc {w : World} {A : Nat → Prop} {v : Value} {o : Option WayM} (h : WayO w A v o) (b : Obj) : WayO (w.alloc b) A v o := by
  cases o with
  | none => exact h
  | some m => exact Lasts.mono h (alloc_mono w b A).1 (alloc_mono w b A).2 (fun _ _ h => h)
theorem WayO.fr {w w' : World} {O O' D : Nat → Prop} {n m : Nat} {v : Value} {o : Option WayM} (h : WayO w (Free O D n) v o) (hf : Fr O w O' w') (hm : m ≤ n) : WayO w' (Free O' D m) v o := by
  cases o with
  | none => exact h
  | some x => exact Lasts.fr h hf hm
theorem pathLike_any (w : World) (va : Value) (oa : Option WayM) (A : Nat → Prop) (hA : ∀ k, w.heap.size ≤ k → A k) (ha : WayO w A va oa) :
    Calls Tryz.prog 375 #[va] w fun e w' => ∃ v, e = .returned v ∧ w' = (w.alloc (box1 va 305)) ∧ CndO w' A v (oa.map likeM) := by
  refine (pathLike_call w va ha.fnv).mono ?_
  rintro e w' ⟨rfl, rfl⟩
  refine ⟨_, rfl, rfl, ?_⟩
  cases oa with
  | none => exact Or.inl ⟨_, _, _, rfl⟩
  | some ma =>
    have h1 : Lasts _ A (WayC va ma) := ha.alloc (box1 va 305)
    refine Lasts.one h1 (fun k => k = w.heap.size) (fun k hk => ⟨by subst hk; simp, hA k (by omega)⟩) (fun K1 _ q1 W hW hk => ?_)
    exact ⟨_, _, rfl, Tryz.entPathLike, fun b r pv mv hr => pathLike_run W b r pv mv hr va ma K1 (q1 W hW (fun k h => hk k (Or.inl h))) _ (cell_of_heap ((hk _ (Or.inr rfl)).trans (heap_alloc_new w _)))⟩
set_option maxRecDepth 100000 in
set_option maxHeartbeats 2000000 in
theorem test_path {pb : Nat} {ts : List TokP} (ht : TsOk ts) {w : World} {st : RS} {D O : Nat → Prop} (h : RA w pb ts st D O) (hk : Ok ts st) (e21 : kindR ts st = 23) :
    Calls Tryz.prog 358 #[ptr4 pb 0] w (CndRes pb ts w D O ((useWayR ts (takeR ts 24 (goR ts st)).1).1, (useWayR ts (takeR ts 24 (goR ts st)).1).2.map likeM)) := by
  have HR := hide h
  have HF := hide (Fr.refl O w)
  have HK := hide hk
  have HT := hide ht
  have HE := hide e21
  have n21 := hide (show kindR ts st ≠ 21 by rw [e21]; decide)
  have HG := hide (goR_ok' hk ht e21 (by decide))
  have HG2 := hide (takeR_ok (k := 24) (unhide HG) ht (by decide))
  clear h hk ht e21
  go_enter Tryz.func358, Tryz.ntmps358
  go_wp2_with (first
    | (go_at_call 211; refine (took_no (unhide HR) (unhide HK) (unhide HT) 21 (unhide n21)).mono ?_; rintro e w1 ⟨rfl, hr1, hf1⟩; replace HR := hide hr1; replace HF := hide ((unhide HF).trans hf1); clear hr1 hf1 n21)
    | (go_at_call 211; refine (took_yes (unhide HR) (unhide HK) (unhide HT) 23 (unhide HE)).mono ?_; rintro e w1 ⟨rfl, O1, hr1, hf1⟩; replace HR := hide hr1; replace HF := hide ((unhide HF).trans hf1); clear hr1 hf1)
    | (go_at_call 213; refine (take_any (unhide HR) (unhide HG) (unhide HT) 24).mono ?_; rintro e w2 ⟨rfl, O2, hr2, hf2⟩; replace HR := hide hr2; replace HF := hide ((unhide HF).trans hf2); clear hr2 hf2)
    | (go_at_call 376; refine (useWay_any (unhide HT) (unhide HR) (unhide HG2)).mono ?_; rintro e w3 ⟨v, O3, rfl, hr3, hf3, hv3, hk3⟩; have HV := hide (hv3.fr (Fr.refl _ _) (unhide HF).size); have HK3 := hide hk3; have hfv := hv3.fnv; replace HR := hide hr3; replace HF := hide ((unhide HF).trans hf3); clear hr3 hf3 hv3 hk3))
  refine (pathLike_any _ v _ _ ((unhide HR).newFree (unhide HF)) (unhide HV)).mono ?_
  rintro e w4 ⟨v4, rfl, rfl, hv4⟩
  have HV4 := hide hv4
  replace HR := hide ((unhide HR).alloc (box1 v 305))
  replace HF := hide ((unhide HF).alloc (box1 v 305))
  clear hv4
  go_wp2_with fail
  go_ret
  exact ⟨_, _, rfl, unhide HR, unhide HF, unhide HV4, unhide HK3⟩
/-- a comparison, or 'net in', or 'path like' -/
noncomputable def notW (ts : List TokP) (sum : RS → Option (RS × Option AmtM)) (st : RS) : Option (RS × Option CndM) :=
  if kindR ts st = 23 then some ((useWayR ts (takeR ts 24 (goR ts st)).1).1, (useWayR ts (takeR ts 24 (goR ts st)).1).2.map likeM) else notN ts sum st
set_option maxRecDepth 100000 in
set_option maxHeartbeats 2000000 in
theorem not_way {pb : Nat} {ts : List TokP} (ht : TsOk ts) {sum : RS → Option (RS × Option AmtM)} (IH : SumSaid pb ts sum) : CndSaid 339 pb ts (notW ts sum) := by
  intro w st D O r h hk hr
  unfold notW at hr
  by_cases hc : kindR ts st = 23
  · rw [if_pos hc] at hr
    obtain rfl := Option.some.inj hr
    have HTS := hide (fun W (hW : RA W pb ts st D O) => test_path ht hW hk hc)
    have HR := hide h
    have HF := hide (Fr.refl O w)
    have HK := hide hk
    have HT := hide ht
    have b20 : (kindR ts st != 20) = true := by rw [hc]; decide
    clear h hk ht hr hc IH
    go_enter Tryz.func339, Tryz.ntmps339
    go_wp2_with (go_at_call 170; refine (kind_is (unhide HR) (unhide HK) (unhide HT) rfl).mono ?_; rintro e w1 ⟨rfl, hr1, hf1⟩; replace HR := hide hr1; replace HF := hide ((unhide HF).trans hf1); clear hr1 hf1)
    refine ((unhide HTS) _ (unhide HR)).mono ?_
    rintro e w2 ⟨v, O2, rfl, hr2, hf2, hv2, hk2⟩
    have HV := hide (hv2.fr (Fr.refl _ _) (unhide HF).size)
    have HK2 := hide hk2
    replace HR := hide hr2
    replace HF := hide ((unhide HF).trans hf2)
    clear hr2 hf2 hv2 hk2
    go_wp2_with fail
    go_ret
    exact ⟨_, _, rfl, unhide HR, unhide HF, unhide HV, unhide HK2⟩
  · rw [if_neg hc] at hr
    exact not_net ht IH w st D O r h hk hr
end Go.Proofs.YtgdeeodifnegiaaGreatDoor

namespace Go.Proofs.YtgdeeodifnegiaaGreatDoor
open Go.RowKit

/-! ## what is defined is not touched by a way -/
theorem repLp_defs (ts : List TokP) : ∀ (n : Nat) (st : RS) (z m : Bool) (r : RS × Bool × Bool), repLp ts n st z m = some r → r.1.defs = st.defs
  | 0, _, _, _, _, h => by cases h
  | n + 1, st, z, m, r, h => by
    rw [repLp] at h
    split at h
    · rw [repLp_defs ts n _ _ _ r h]; rfl
    · split at h
      · rw [repLp_defs ts n _ _ _ r h]; rfl
      · split at h
        · rw [repLp_defs ts n _ _ _ r h]; rfl
        · cases h; rfl
theorem repeatsR_defs {ts : List TokP} {n : Nat} {A : WayM} {st : RS} {r : RS × WayM} (h : repeatsR ts n A st = some r) : r.1.defs = st.defs := by
  unfold repeatsR at h
  split at h
  · cases h
  · rename_i s z m hx
    cases h
    exact repLp_defs ts n st false false _ hx
theorem someR_defs {ts : List TokP} {n : Nat} {A : WayM} {st : RS} {r : RS × Option WayM} (h : someR (repeatsR ts n A st) = some r) : r.1.defs = st.defs := by
  unfold someR at h
  split at h
  · cases h
  · rename_i s m hx
    cases h
    exact repeatsR_defs hx
theorem moreLp_defs {α : Type} {rd : RS → Option (RS × Option α)} (h0 : ∀ st r, rd st = some r → r.1.defs = st.defs) : ∀ (n : Nat) (st : RS) (l : List α) (r : RS × List α), moreLp rd n st l = some r → r.1.defs = st.defs
  | 0, _, _, _, h => by cases h
  | n + 1, st, l, r, h => by
    rw [moreLp] at h
    split at h
    · cases h
    · rename_i s hx
      cases h
      exact h0 _ _ hx
    · rename_i s x hx
      rw [moreLp_defs h0 n _ _ r h]
      exact h0 _ _ hx
theorem altLp_defs {ts : List TokP} {rd : RS → Option (RS × WayM)} (h0 : ∀ st r, rd st = some r → r.1.defs = st.defs) : ∀ (n : Nat) (st : RS) (l : List WayM) (r : RS × List WayM), altLp ts rd n st l = some r → r.1.defs = st.defs
  | 0, _, _, _, h => by cases h
  | n + 1, st, l, r, h => by
    rw [altLp] at h
    split at h
    · split at h
      · cases h
      · rename_i s m hx
        rw [altLp_defs h0 n _ _ r h]
        exact h0 _ _ hx
    · cases h; rfl
theorem eithTw_defs (ts : List TokP) (n : Nat) : ∀ (f : Nat) (st : RS) (r : RS × WayM), eithTw ts n f st = some r → r.1.defs = st.defs
  | 0, _, _, h => by cases h
  | f + 1, st, r, h => by
    have hi : ∀ st r, itemBy ts n (eithTw ts n f) st = some r → r.1.defs = st.defs := fun st r h => by
      unfold itemBy at h
      split at h
      · rw [someR_defs h, withinR_defs]
      · split at h
        · rw [someR_defs h]; rfl
        · split at h
          · split at h
            · cases h
            · rename_i s m hx
              rw [someR_defs h]
              show (takeR ts 34 s).1.defs = _
              have h1 := eithTw_defs ts n f _ _ hx
              dsimp only at h1
              rw [takeR_defs, h1]
              show (takeR ts 33 (if st.depth = 8 then failR ts st else st)).1.defs = _
              rw [takeR_defs]
              split <;> rfl
          · cases h; rfl
    have hrw : ∀ st r, rowBy ts n (itemBy ts n (eithTw ts n f)) st = some r → r.1.defs = st.defs := fun st r h => by
      unfold rowBy at h
      split at h
      · cases h
      · rename_i s l hx
        cases h
        have h1 := moreLp_defs hi n st [] _ hx
        dsimp only at h1 ⊢
        rw [← h1]
        split <;> rfl
    rw [eithTw] at h
    unfold eithBy at h
    split at h
    · cases h
    · rename_i s m hx
      split at h
      · cases h
      · rename_i s2 l hy
        cases h
        have h1 := altLp_defs hrw n _ _ _ hy
        have h2 := hrw _ _ hx
        dsimp only at h1 h2 ⊢
        rw [h1, h2]
/-- a DEF -/
def defW (ts : List TokP) (n f : Nat) (st : RS) : Option (RS × Bool) :=
  if kindR ts st = 6 then
    (match eithTw ts n f (takeR ts 26 (newNameR ts (goR ts st)).1).1 with
     | none => none
     | some (s, m) => some (addDefR (takeR ts 27 s).1 ⟨(newNameR ts (goR ts st)).2, none, some m⟩, true))
  else defR ts n st
def defsW (ts : List TokP) (n f : Nat) : Nat → RS → Option RS
  | 0, st => some st
  | k + 1, st => match defW ts n f st with
    | none => none
    | some (s, true) => defsW ts n f k s
    | some (s, false) => some s
def policyW (ts : List TokP) (n f : Nat) (stmt : RS → Option (RS × Option (Option StpM))) (st : RS) : Option (RS × List (Option StpM)) :=
  match defsW ts n f 8 st with
  | none => none
  | some s => policyTw ts n stmt s
set_option maxRecDepth 100000 in
set_option maxHeartbeats 4000000 in
theorem policyW_said {pb : Nat} {ts : List TokP} (ht : TsOk ts) (hL : LenOk ts) {tw : RS → Option (RS × Option (Option StpM))} (IH : StmtSaid pb ts tw) (n f : Nat) (hn : n ≤ 1000) (IE : WaySaid 215 pb ts (eithTw ts n f)) {w : World} {st : RS} {r : RS × List (Option StpM)} {O : Nat → Prop} (h : RA w pb ts st (fun _ => False) O) (hk : Ok ts st) (hd0 : st.defs = []) (hr : policyW ts n f tw st = some r) :
    Calls Tryz.prog 110 #[ptr4 pb 0] w (PolRes pb ts w O r) := by
  unfold policyW at hr
  cases hs : defsW ts n f 8 st with
  | none => rw [hs] at hr; cases hr
  | some sF =>
  rw [hs] at hr
  dsimp only at hr
  unfold policyTw at hr
  cases h1 : moreLp tw n sF [] with
  | none => rw [h1] at hr; cases hr
  | some p =>
    obtain ⟨s1, l⟩ := p
    rw [h1] at hr
    have hmf : ∀ (fn : Fn) (first cap : Array Value) (w : World), (Instr.makeFunc fn first cap).run Tryz.prog w = .ok (.func fn first cap) w := fun _ _ _ _ => rfl
    have HO := hide (fun W D O (hW : RA W pb ts sF D O) (hk : Ok ts sF) => one_said ht IH n hn hW hk h1)
    have HT := hide ht
    have HLL := hide hL
    have HIE := hide IE
    have hq : r = (if kindR ts (if l.length = 0 then failR ts s1 else s1) = 1 then (if l.length = 0 then failR ts s1 else s1) else failR ts (if l.length = 0 then failR ts s1 else s1), l) := (Option.some.inj hr).symm
    have HR := hide h
    have HK := hide hk
    have HSF := hide hs
    have hdl : st.defs.length = 0 := by rw [hd0]; rfl
    clear h hk ht IH h1 hr hs hL hd0 IE
    generalize (if l.length = 0 then failR ts s1 else s1) = s2 at *
    go_enter Tryz.func110, Tryz.ntmps110
    go_wp2_with fail
    go_loopg [3] 8 (fun k i wr => ∃ (j : Nat) (su : RS) (Dj Oj : Nat → Prop), i = .int .i64 (j : Int) ∧ j + k = 8 ∧ su.defs.length ≤ j ∧ RA wr pb ts su Dj Oj ∧ Fr O w Oj wr ∧ (∀ q, Dj q → w.heap.size ≤ q) ∧ Ok ts su ∧ defsW ts n f (8 - j) su = some sF)
    case atStart => exact ⟨0, st, _, O, rfl, rfl, by omega, unhide HR, Fr.refl _ _, fun q hq => hq.elim, unhide HK, unhide HSF⟩
    case round =>
      clear HR HK HSF
      obtain ⟨j, su, Dj, Oj, rfl, hjk, hdj, hr, hf, hDj, hk, hl⟩ := hrel
      have HF := hide hf
      have HDJ := hide hDj
      have HK := hide hk
      have hws := hf.size
      by_cases hj8 : j < 8
      · rw [show 8 - j = (7 - j) + 1 by omega, defsW, defW] at hl
        by_cases k6 : kindR ts su = 6
        · rw [if_pos k6] at hl
          cases hrg : eithTw ts n f (takeR ts 26 (newNameR ts (goR ts su)).1).1 with
          | none => rw [hrg] at hl; cases hl
          | some q =>
            obtain ⟨sq, mq⟩ := q
            rw [hrg] at hl
            dsimp only at hl
            have hdd : (takeR ts 27 sq).1.defs = su.defs := by
              rw [takeR_defs]
              have := eithTw_defs ts n f _ _ hrg
              dsimp only at this
              rw [this, takeR_defs, newNameR_defs]; rfl
            have HD := hide (def_way (unhide HT) (unhide HIE) hr hk k6 (by rw [hdd]; omega) hrg)
            have HL := hide hl
            have hdn : (addDefR (takeR ts 27 sq).1 ⟨(newNameR ts (goR ts su)).2, none, some mq⟩).defs.length ≤ j + 1 := by
              show ((takeR ts 27 sq).1.defs ++ [_]).length ≤ _
              rw [hdd]; simp; omega
            clear hr hf hDj hk hl k6 hrg hdd
            generalize addDefR (takeR ts 27 sq).1 ⟨(newNameR ts (goR ts su)).2, none, some mq⟩ = sN at *
            go_wp2_with (go_at_call 167; refine (unhide HD).mono ?_; rintro e w1 ⟨rfl, D1, O1, hr1, hf1, hD1, hk1⟩; have HR1 := hide hr1; have HK1 := hide hk1; have HD1 := hide hD1; replace HF := hide ((unhide HF).trans hf1); clear hr1 hf1 hD1 hk1)
            have hwr := (unhide HF).size
            go_roundg (8 - (j + 1))
            case measure => omega
            case rel => exact ⟨j + 1, sN, D1, O1, by go_num, by omega, hdn, unhide HR1, unhide HF, fun q hq => ((unhide HD1) q hq).elim ((unhide HDJ) q) (fun h => by omega), unhide HK1, by rw [show 8 - (j + 1) = 7 - j by omega]; exact unhide HL⟩
        · rw [if_neg k6] at hl
          by_cases k5 : kindR ts su = 5
          · rw [defR, if_pos k5] at hl
            cases hrg : rangesR ts n (takeR ts 26 (newNameR ts (goR ts su)).1).1 with
            | none => rw [hrg] at hl; cases hl
            | some q =>
              obtain ⟨sq, mq⟩ := q
              rw [hrg] at hl
              dsimp only at hl
              have hdd : (takeR ts 27 sq).1.defs = su.defs := by
                rw [takeR_defs]
                have := rangesR_defs hrg
                dsimp only at this
                rw [this, takeR_defs, newNameR_defs]; rfl
              have HD := hide (def_set (unhide HT) (unhide HLL) n hn hr hk k5 (by rw [hdd]; omega) hrg)
              have HL := hide hl
              have hdn : (addDefR (takeR ts 27 sq).1 ⟨(newNameR ts (goR ts su)).2, some mq, none⟩).defs.length ≤ j + 1 := by
                show ((takeR ts 27 sq).1.defs ++ [_]).length ≤ _
                rw [hdd]; simp; omega
              clear hr hf hDj hk hl k5 k6 hrg hdd
              generalize addDefR (takeR ts 27 sq).1 ⟨(newNameR ts (goR ts su)).2, some mq, none⟩ = sN at *
              go_wp2_with (go_at_call 167; refine (unhide HD).mono ?_; rintro e w1 ⟨rfl, D1, O1, hr1, hf1, hD1, hk1⟩; have HR1 := hide hr1; have HK1 := hide hk1; have HD1 := hide hD1; replace HF := hide ((unhide HF).trans hf1); clear hr1 hf1 hD1 hk1)
              have hwr := (unhide HF).size
              go_roundg (8 - (j + 1))
              case measure => omega
              case rel => exact ⟨j + 1, sN, D1, O1, by go_num, by omega, hdn, unhide HR1, unhide HF, fun q hq => ((unhide HD1) q hq).elim ((unhide HDJ) q) (fun h => by omega), unhide HK1, by rw [show 8 - (j + 1) = 7 - j by omega]; exact unhide HL⟩
          · rw [defR, if_neg k5, if_neg k6] at hl
            dsimp only at hl
            obtain rfl : su = sF := Option.some.inj hl
            have HD := hide (def_no (unhide HT) hr hk k5 k6)
            clear hr hf hDj hk hl k5 k6
            by_cases e1 : kindR ts s2 = 1
            · rw [if_pos e1] at hq
              have HQ := hide hq
              have HE := hide e1
              clear hq e1
              go_wp2_with (first
                | (go_at_call 167; refine (unhide HD).mono ?_; clear HD; rintro e w1 ⟨rfl, hr1, hf1⟩; have HR := hide hr1; replace HF := hide ((unhide HF).trans hf1); clear hr1 hf1))
              refine ((unhide HO) _ _ _ (unhide HR) (unhide HK)).mono ?_
              rintro e w2 ⟨v, O2, rfl, hr2, hf2, hs2, hk2, ⟨va, vc, rfl⟩, hl2⟩
              have HS := hide (hs2.fr (Fr.refl _ _) (unhide HF).size)
              have HK2 := hide hk2
              have HL2 := hide hl2
              replace HR := hide hr2
              replace HF := hide ((unhide HF).trans hf2)
              clear hr2 hf2 hs2 hk2 hl2
              go_wp2_with (first
                | (go_at_call 170; refine (kind_is (unhide HR) (unhide HK2) (unhide HT) (unhide HE)).mono ?_; rintro e w1 ⟨rfl, hr1, hf1⟩; replace HR := hide hr1; replace HS := hide ((unhide HS).fr hf1 (Nat.le_refl _)); replace HF := hide ((unhide HF).trans hf1); clear hr1 hf1)
                | fail)
              go_ret
              rw [unhide HQ]
              exact ⟨_, _, _, rfl, unhide HR, unhide HF, (unhide HS).allow (fun k _ ha => ⟨ha.1, Or.inr (ha.2.elim ((unhide HDJ) k) id)⟩), unhide HK2, ⟨_, _, rfl⟩, unhide HL2⟩
            · rw [if_neg e1] at hq
              have HQ := hide hq
              have b1 : (kindR ts s2 != 1) = true := by simpa using e1
              clear hq e1
              go_wp2_with (first
                | (go_at_call 167; refine (unhide HD).mono ?_; clear HD; rintro e w1 ⟨rfl, hr1, hf1⟩; have HR := hide hr1; replace HF := hide ((unhide HF).trans hf1); clear hr1 hf1))
              refine ((unhide HO) _ _ _ (unhide HR) (unhide HK)).mono ?_
              rintro e w2 ⟨v, O2, rfl, hr2, hf2, hs2, hk2, ⟨va, vc, rfl⟩, hl2⟩
              have HS := hide (hs2.fr (Fr.refl _ _) (unhide HF).size)
              have HK2 := hide hk2
              have HL2 := hide hl2
              replace HR := hide hr2
              replace HF := hide ((unhide HF).trans hf2)
              clear hr2 hf2 hs2 hk2 hl2
              go_wp2_with (first
                | (go_at_call 170; refine (kind_is (unhide HR) (unhide HK2) (unhide HT) rfl).mono ?_; rintro e w1 ⟨rfl, hr1, hf1⟩; replace HR := hide hr1; replace HS := hide ((unhide HS).fr hf1 (Nat.le_refl _)); replace HF := hide ((unhide HF).trans hf1); clear hr1 hf1)
                | (go_at_call 171; refine (fail_any (unhide HR) (unhide HK2).next (unhide HT).n1).mono ?_; rintro e w1 ⟨rfl, hr1, hf1⟩; replace HR := hide hr1; replace HS := hide ((unhide HS).fr hf1 (Nat.le_refl _)); replace HF := hide ((unhide HF).trans hf1); clear hr1 hf1))
              go_ret
              rw [unhide HQ]
              exact ⟨_, _, _, rfl, unhide HR, unhide HF, (unhide HS).allow (fun k _ ha => ⟨ha.1, Or.inr (ha.2.elim ((unhide HDJ) k) id)⟩), failR_ok (unhide HK2), ⟨_, _, rfl⟩, unhide HL2⟩
      · obtain rfl : j = 8 := by omega
        obtain rfl : su = sF := Option.some.inj hl
        have HR := hide hr
        clear hr hf hDj hk hl
        by_cases e1 : kindR ts s2 = 1
        · rw [if_pos e1] at hq
          have HQ := hide hq
          have HE := hide e1
          clear hq e1
          go_wp2_with fail
          refine ((unhide HO) _ _ _ (unhide HR) (unhide HK)).mono ?_
          rintro e w2 ⟨v, O2, rfl, hr2, hf2, hs2, hk2, ⟨va, vc, rfl⟩, hl2⟩
          have HS := hide (hs2.fr (Fr.refl _ _) (unhide HF).size)
          have HK2 := hide hk2
          have HL2 := hide hl2
          replace HR := hide hr2
          replace HF := hide ((unhide HF).trans hf2)
          clear hr2 hf2 hs2 hk2 hl2
          go_wp2_with (first
            | (go_at_call 170; refine (kind_is (unhide HR) (unhide HK2) (unhide HT) (unhide HE)).mono ?_; rintro e w1 ⟨rfl, hr1, hf1⟩; replace HR := hide hr1; replace HS := hide ((unhide HS).fr hf1 (Nat.le_refl _)); replace HF := hide ((unhide HF).trans hf1); clear hr1 hf1)
            | fail)
          go_ret
          rw [unhide HQ]
          exact ⟨_, _, _, rfl, unhide HR, unhide HF, (unhide HS).allow (fun k _ ha => ⟨ha.1, Or.inr (ha.2.elim ((unhide HDJ) k) id)⟩), unhide HK2, ⟨_, _, rfl⟩, unhide HL2⟩
        · rw [if_neg e1] at hq
          have HQ := hide hq
          have b1 : (kindR ts s2 != 1) = true := by simpa using e1
          clear hq e1
          go_wp2_with fail
          refine ((unhide HO) _ _ _ (unhide HR) (unhide HK)).mono ?_
          rintro e w2 ⟨v, O2, rfl, hr2, hf2, hs2, hk2, ⟨va, vc, rfl⟩, hl2⟩
          have HS := hide (hs2.fr (Fr.refl _ _) (unhide HF).size)
          have HK2 := hide hk2
          have HL2 := hide hl2
          replace HR := hide hr2
          replace HF := hide ((unhide HF).trans hf2)
          clear hr2 hf2 hs2 hk2 hl2
          go_wp2_with (first
            | (go_at_call 170; refine (kind_is (unhide HR) (unhide HK2) (unhide HT) rfl).mono ?_; rintro e w1 ⟨rfl, hr1, hf1⟩; replace HR := hide hr1; replace HS := hide ((unhide HS).fr hf1 (Nat.le_refl _)); replace HF := hide ((unhide HF).trans hf1); clear hr1 hf1)
            | (go_at_call 171; refine (fail_any (unhide HR) (unhide HK2).next (unhide HT).n1).mono ?_; rintro e w1 ⟨rfl, hr1, hf1⟩; replace HR := hide hr1; replace HS := hide ((unhide HS).fr hf1 (Nat.le_refl _)); replace HF := hide ((unhide HF).trans hf1); clear hr1 hf1))
          go_ret
          rw [unhide HQ]
          exact ⟨_, _, _, rfl, unhide HR, unhide HF, (unhide HS).allow (fun k _ ha => ⟨ha.1, Or.inr (ha.2.elim ((unhide HDJ) k) id)⟩), failR_ok (unhide HK2), ⟨_, _, rfl⟩, unhide HL2⟩
/-! ## Read -/
noncomputable abbrev cndW (ts : List TokP) : RS → Option (RS × Option CndM) := condBy ts (notW ts (sumS ts)) 100
noncomputable abbrev stmW (ts : List TokP) (f : Nat) : RS → Option (RS × Option (Option StpM)) := stmtTw ts 100 okP (sumS ts) (cndW ts) f
theorem readW_of {s : ByteArray} {ts : List TokP} (hts : allP s = ts) (hs : s.size ≤ 600) {ms : List StpM} {f : Nat} {st : RS} (hp : policyW ts 100 20 (stmW ts f) rs0 = some (st, ms.map some)) (f1 : st.syn = none) (f2 : st.nam = none) (f3 : st.num = none) (hpage : st.page ≠ []) : ReadOk s ms := by
  intro w ht
  subst hts
  obtain ⟨h1, h2⟩ := allP_ok hs
  have IS : ∀ pb, SumSaid pb (allP s) (sumS (allP s)) := fun pb => sumTw_said h1 100 20
  have IH : ∀ pb, StmtSaid pb (allP s) (stmW (allP s) f) := fun pb =>
    stmt_said h1 100 (by decide) okP (fun _ => putMark_said) (fun _ => dropMark_said) (fun _ => prepend_said) (IS pb) (cond_said h1 (not_way h1 (IS pb)) 100) f
  exact read_gen s hs w ht h1 h2 (fun pb W O h hk => policyW_said h1 (allP_len s) (IH pb) 100 20 (by decide) (either_said h1 100 (by decide) 20) h hk rfl hp) f1 f2 f3 (allO_map ms) hpage
end Go.Proofs.YtgdeeodifnegiaaGreatDoor

namespace Go.Proofs.YtgdeeodifnegiaaGreatDoor
open Go.RowKit

theorem index_hit (c : UInt8) (y : List UInt8) : ∀ (x : List UInt8), c ∉ x → Lib.index (x ++ c :: y) [c] = (x.length : Int)
  | [], _ => by simp [Lib.index, List.isPrefixOf]
  | b :: x, h => by
    have hb : c ≠ b := fun e => h (by rw [e]; exact List.mem_cons_self)
    have ih := index_hit c y x (fun e => h (List.mem_cons_of_mem _ e))
    rw [List.cons_append, Lib.index, if_neg (by simp [List.isPrefixOf, hb]), ih, if_neg (by simp <;> omega)]
    simp
theorem index_miss (c : UInt8) : ∀ (x : List UInt8), c ∉ x → Lib.index x [c] = -1
  | [], _ => by simp [Lib.index]
  | b :: x, h => by
    have hb : c ≠ b := fun e => h (by rw [e]; exact List.mem_cons_self)
    have ih := index_miss c x (fun e => h (List.mem_cons_of_mem _ e))
    rw [Lib.index, if_neg (by simp [List.isPrefixOf, hb]), ih]; rfl
theorem cut_hit (c : UInt8) (x y : List UInt8) (h : c ∉ x) : Lib.cut (x ++ c :: y) [c] = (x, y, true) := by
  have hi := index_hit c y x h
  unfold Lib.cut
  rw [hi, if_pos (by omega), Int.toNat_natCast, List.take_left, show x.length + [c].length = x.length + 1 from rfl, ← List.drop_drop, List.drop_left]; rfl
theorem splitK_hit (c : UInt8) (x y : List UInt8) (h : c ∉ x) (k : Nat) : Lib.splitK [c] 0 (k + 1) (x ++ c :: y) = x :: Lib.splitK [c] 0 k y := by
  have hi := index_hit c y x h
  rw [Lib.splitK, hi, if_neg (by simp <;> omega), Int.toNat_natCast, Nat.add_zero, List.take_left, show x.length + [c].length = x.length + 1 from rfl, ← List.drop_drop, List.drop_left]; rfl
theorem splitK_miss (c : UInt8) (x : List UInt8) (h : c ∉ x) (k : Nat) : Lib.splitK [c] 0 k x = [x] := by
  cases k with
  | zero => rfl
  | succ k => rw [Lib.splitK, index_miss c x h]; rfl
theorem data_inj : ∀ {a b : List ByteArray}, a.map (·.data.toList) = b.map (·.data.toList) → a = b
  | [], [], _ => rfl
  | [], _ :: _, h => by cases h
  | _ :: _, [], h => by cases h
  | x :: a, y :: b, h => by
    simp only [List.map_cons, List.cons.injEq] at h
    rw [data_inj h.2]
    obtain ⟨dx⟩ := x
    obtain ⟨dy⟩ := y
    have : dx = dy := by
      have := congrArg List.toArray h.1
      simpa using this
    rw [this]
/-- the four numbers of an address -/
structure Quad where
  a : Nat
  b : Nat
  c : Nat
  d : Nat
def Quad.ok (q : Quad) : Prop := q.a ≤ 255 ∧ q.b ≤ 255 ∧ q.c ≤ 255 ∧ q.d ≤ 255
def Quad.addr (q : Quad) : Int := (((q.a : Int) * 256 + q.b) * 256 + q.c) * 256 + q.d
def befB (q : Quad) : List UInt8 := Lib.decDigits q.a ++ 46 :: (Lib.decDigits q.b ++ 46 :: (Lib.decDigits q.c ++ 46 :: Lib.decDigits q.d))
def pfxB (q : Quad) (l : Nat) : List UInt8 := befB q ++ 47 :: Lib.decDigits l
theorem dec_dig (u : Nat) : ∀ b ∈ Lib.decDigits u, digB (b.toNat : Int) = true := (dec_all u).2.1
theorem dec_not (u : Nat) {c : UInt8} (h : digB (c.toNat : Int) = false) : c ∉ Lib.decDigits u := fun hm => by rw [dec_dig u c hm] at h; cases h
theorem numP_small {u : Nat} {m : Int} (h : (u : Int) ≤ m) (hm : m ≤ 4294967295) : numP (bsA (Lib.decDigits u)) m = (u : Int) := by
  have h0 := dec_num (u := u) (by omega)
  unfold numP at h0 ⊢
  split at h0
  · omega
  · rename_i hc
    rw [if_neg hc]
    split at h0
    · rename_i hd
      rw [if_pos hd]
      split at h0
      · omega
      · rw [if_neg (by omega)]; exact h0
    · omega
theorem num_small {u : Nat} {m : Int} (h : (u : Int) ≤ m) (hm : m ≤ 4294967295) : numIs (bsA (Lib.decDigits u)) m = true ∧ numV (bsA (Lib.decDigits u)) m = (u : Int) := by
  have h1 := numIs_yes (numP_small h hm) (by omega)
  exact ⟨h1.2, h1.1⟩
theorem bef_pfx (q : Quad) (l : Nat) : befS (bsA (pfxB q l)) = bsA (befB q) ∧ behS (bsA (pfxB q l)) = bsA (Lib.decDigits l) := by
  have hn : (47 : UInt8) ∉ befB q := by
    have h47 : digB ((47 : UInt8).toNat : Int) = false := by decide
    unfold befB
    simp only [List.mem_append, List.mem_cons, not_or]
    exact ⟨dec_not _ h47, by decide, dec_not _ h47, by decide, dec_not _ h47, by decide, dec_not _ h47⟩
  have hc : Lib.cut (bsA (pfxB q l)).data.toList [47] = (befB q, Lib.decDigits l, true) := cut_hit 47 (befB q) (Lib.decDigits l) hn
  unfold befS behS
  rw [hc]
  exact ⟨rfl, rfl⟩
theorem parts_pfx (q : Quad) (l : Nat) : partsS (bsA (pfxB q l)) = [bsA (Lib.decDigits q.a), bsA (Lib.decDigits q.b), bsA (Lib.decDigits q.c), bsA (Lib.decDigits q.d)] := by
  have h46 : digB ((46 : UInt8).toNat : Int) = false := by decide
  unfold partsS
  rw [(bef_pfx q l).1]
  refine data_inj ?_
  have hcn : Lib.countB (bsA (befB q)) dotB = 3 := by
    show Lib.count (befB q) [46] = 3
    have hz : ∀ u, (Lib.decDigits u).count 46 = 0 := fun u => List.count_eq_zero.2 (dec_not u h46)
    rw [Lib.count_one]
    unfold befB
    simp [List.count_append, hz]
  rw [hcn, Lib.splitB_data]
  show Lib.splitK [46] 0 3 (befB q) = _
  unfold befB
  rw [splitK_hit 46 _ _ (dec_not _ h46), splitK_hit 46 _ _ (dec_not _ h46), splitK_hit 46 _ _ (dec_not _ h46), splitK_miss 46 _ (dec_not _ h46)]
  rfl
theorem pref_pfx (q : Quad) (l : Nat) (hq : q.ok) (hl : l ≤ 32) (hn : netOk (q.addr, (l : Int))) : prefS (bsA (pfxB q l)) = some (q.addr, (l : Int)) := by
  obtain ⟨h1, h2, h3, h4⟩ := hq
  obtain ⟨a1, a2⟩ := num_small (u := q.a) (m := 255) (by omega) (by decide)
  obtain ⟨b1, b2⟩ := num_small (u := q.b) (m := 255) (by omega) (by decide)
  obtain ⟨c1, c2⟩ := num_small (u := q.c) (m := 255) (by omega) (by decide)
  obtain ⟨d1, d2⟩ := num_small (u := q.d) (m := 255) (by omega) (by decide)
  obtain ⟨l1, l2⟩ := num_small (u := l) (m := 32) (by omega) (by decide)
  have hb : netOkB (q.addr, (l : Int)) = true := decide_eq_true hn
  unfold prefS
  rw [parts_pfx, (bef_pfx q l).2, if_pos (show [bsA (Lib.decDigits q.a), bsA (Lib.decDigits q.b), bsA (Lib.decDigits q.c), bsA (Lib.decDigits q.d)].length = 4 from rfl)]
  simp only [addrS, a1, b1, c1, d1, if_true, a2, b2, c2, d2, l1, l2, Int.zero_mul, Int.zero_add]
  rw [if_pos ⟨trivial, hb⟩]
  rfl
/-! ## the token -/
theorem pfx_len (q : Quad) (l : Nat) (hq : q.ok) (hl : l ≤ 32) : (pfxB q l).length ≤ 54 := by
  obtain ⟨h1, h2, h3, h4⟩ := hq
  have a := dec_len (u := q.a) (by omega)
  have b := dec_len (u := q.b) (by omega)
  have c := dec_len (u := q.c) (by omega)
  have d := dec_len (u := q.d) (by omega)
  have e := dec_len (u := l) (by omega)
  unfold pfxB befB
  simp only [List.length_append, List.length_cons]
  omega
theorem lex_pfx (q : Quad) (l : Nat) (hq : q.ok) (hl : l ≤ 32) (hn : netOk (q.addr, (l : Int))) (rest : List UInt8) (hr : ∀ b, rest.head? = some b → numeB (b.toNat : Int) = false) :
    LexAt (pfxB q l) ⟨3, 0, bsA (pfxB q l), 0, q.addr, (l : Int)⟩ rest := by
  have hnum : ∀ x ∈ pfxB q l, numeB (x.toNat : Int) = true := fun x hx => by
    have hd : ∀ u, x ∈ Lib.decDigits u → numeB (x.toNat : Int) = true := fun u h => by unfold numeB; rw [dec_dig u x h]; rfl
    unfold pfxB befB at hx
    simp only [List.mem_append, List.mem_cons] at hx
    rcases hx with (h | h | h | h | h | h | h) | h | h
    · exact hd _ h
    · rw [h]; decide
    · exact hd _ h
    · rw [h]; decide
    · exact hd _ h
    · rw [h]; decide
    · exact hd _ h
    · rw [h]; decide
    · exact hd _ h
  have hsc : scanTo numeB (bsA (pfxB q l ++ rest)) 0 = (pfxB q l).length := scan_pre hnum hr _ 0 (Nat.zero_add _)
  obtain ⟨c, r, hc⟩ : ∃ c r, Lib.decDigits q.a = c :: r := by
    cases h : Lib.decDigits q.a with
    | nil => exact absurd h (dec_all q.a).1
    | cons c r => exact ⟨c, r, rfl⟩
  have hcd : digB (c.toNat : Int) = true := dec_dig q.a c (by rw [hc]; exact List.mem_cons_self)
  have hP : ∃ t, pfxB q l = c :: t := ⟨_, by unfold pfxB befB; rw [hc]; rfl⟩
  obtain ⟨t, hP⟩ := hP
  have hb0 : bt (bsA (pfxB q l ++ rest)) 0 = (c.toNat : Int) := by rw [hP, List.cons_append]; exact bt_cons c _
  have hdd := (digB_iff _).1 hcd
  have hlo : lowB (bt (bsA (pfxB q l ++ rest)) 0) = false := by rw [hb0]; unfold lowB; rw [decide_eq_false (by omega)]; rfl
  have hni : numIs (bsA (pfxB q l)) 4294967295 = false := by
    have hk : (Lib.decDigits q.a).length < (bsA (pfxB q l)).size := by rw [bsA_size]; unfold pfxB befB; simp
    have hbt : bt (bsA (pfxB q l)) (Lib.decDigits q.a).length = ((46 : UInt8).toNat : Int) := by
      refine bt_bsA ?_
      unfold pfxB befB
      rw [List.append_assoc, List.getElem?_append_right (Nat.le_refl _), Nat.sub_self]; rfl
    exact (numIs_no (numP_bad hk (by rw [hbt]; decide))).2
  have hpf := pref_pfx q l hq hl hn
  refine ⟨by rw [hP]; simp, fun x hx => ?_, ?_, by show (3 : Int) ≠ 0; decide, by show (bsA (pfxB q l)).size = _; rw [bsA_size]⟩
  · rw [hP] at hx
    simp at hx; subst hx
    unfold blankB; simp; omega
  · rw [firstP, if_neg (by rw [hlo]; decide), if_pos (by rw [hb0]; exact hcd), hsc, ext_take, digitsP, if_neg (by rw [hni]; decide), if_pos (by rw [hpf]; rfl)]
    unfold prefV
    rw [hpf]; rfl
end Go.Proofs.YtgdeeodifnegiaaGreatDoor

namespace Go.Proofs.YtgdeeodifnegiaaGreatDoor
open Go.RowKit

/-- a piece of a text: a blank, or the bytes of a token -/
inductive Pc where
  | sp
  | tk (bs : List UInt8) (t : TokP)
def pcBytes : List Pc → List UInt8
  | [] => []
  | .sp :: l => 32 :: pcBytes l
  | .tk bs _ :: l => bs ++ pcBytes l
def pcToks : Nat → List Pc → List TokP
  | k, [] => [⟨1, (k : Int), ⟨#[]⟩, 0, 0, 0⟩]
  | k, .sp :: l => pcToks (k + 1) l
  | k, .tk bs t :: l => { t with at_ := (k : Int) } :: pcToks (k + bs.length) l
/-- the tokens, without their places -/
def pcT : List Pc → List TokP
  | [] => [⟨1, 0, ⟨#[]⟩, 0, 0, 0⟩]
  | .sp :: l => pcT l
  | .tk _ t :: l => t :: pcT l
def pcOk : List Pc → Prop
  | [] => True
  | .sp :: l => pcOk l
  | .tk bs t :: l => LexAt bs t (pcBytes l) ∧ pcOk l
theorem pcs_lex : ∀ (l : List Pc) (k : Nat), pcOk l → Lex (pcBytes l) k (pcToks k l)
  | [], k, _ => Lex.done k
  | .sp :: l, k, h => Lex.blank (by decide) (pcs_lex l (k + 1) h)
  | .tk bs t :: l, k, h => Lex.tok h.1 (pcs_lex l _ h.2)
theorem pcs_all {l : List Pc} (h : pcOk l) : allP (bsA (pcBytes l)) = pcToks 0 l := lex_all (pcs_lex l 0 h)
theorem pcs_map : ∀ (l : List Pc) (k : Nat), (pcToks k l).map (fun t => (t.kind, t.text, t.number, t.addr, t.len)) = (pcT l).map (fun t => (t.kind, t.text, t.number, t.addr, t.len))
  | [], _ => rfl
  | .sp :: l, k => pcs_map l (k + 1)
  | .tk bs t :: l, k => by rw [pcToks, pcT, List.map_cons, List.map_cons, pcs_map l]
/-- the k-th token, without its place -/
def tAt (ts : List TokP) (k : Nat) : Int × ByteArray × Int × Int × Int := let t := ts[k]?.getD tok0; (t.kind, t.text, t.number, t.addr, t.len)
theorem pcs_tAt (l : List Pc) (k : Nat) : tAt (pcToks 0 l) k = tAt (pcT l) k := by
  have h := congrArg (·[k]?) (pcs_map l 0)
  simp only [List.getElem?_map] at h
  unfold tAt
  cases h1 : (pcToks 0 l)[k]? with
  | none =>
    rw [h1] at h
    cases h2 : (pcT l)[k]? with
    | none => rfl
    | some y => rw [h2] at h; cases h
  | some x =>
    rw [h1] at h
    cases h2 : (pcT l)[k]? with
    | none => rw [h2] at h; cases h
    | some y =>
      rw [h2] at h
      simp only [Option.map_some, Option.some.injEq] at h
      exact h
theorem kAt_of {ts : List TokP} {k : Nat} {x : Int × ByteArray × Int × Int × Int} (h : tAt ts k = x) : kAt ts k = x.1 := by rw [← h]; rfl
theorem nAt_of {ts : List TokP} {k : Nat} {x : Int × ByteArray × Int × Int × Int} (h : tAt ts k = x) : nAt ts k = x.2.2.1 := by rw [← h]; rfl
theorem tokR_at {ts : List TokP} {st : RS} {d : Int} {k : Nat} (g : Good ts st d k) {x : Int × ByteArray × Int × Int × Int} (h : tAt ts k = x) : (tokR ts st).text = x.2.1 ∧ (tokR ts st).number = x.2.2.1 ∧ (tokR ts st).addr = x.2.2.2.1 ∧ (tokR ts st).len = x.2.2.2.2 := by
  have e : tokR ts st = ts[k]?.getD tok0 := by unfold tokR; rw [g.next]
  rw [e, ← h]
  exact ⟨rfl, rfl, rfl, rfl⟩
/-! ## a name -/
theorem lex_name (nm : List UInt8) (h0 : nm ≠ []) (hl : ∀ b ∈ nm, lowB (b.toNat : Int) = true) (hw : wordK (bsA nm) = 0) (h8 : nm.length ≤ 8) (rest : List UInt8) (hr : ∀ b, rest.head? = some b → lowB (b.toNat : Int) = false) :
    LexAt nm ⟨4, 0, bsA nm, 0, 0, 0⟩ rest := by
  have hsc : scanTo lowB (bsA (nm ++ rest)) 0 = nm.length := scan_pre hl hr _ 0 (Nat.zero_add _)
  obtain ⟨c, r, rfl⟩ : ∃ c r, nm = c :: r := by
    cases nm with
    | nil => exact absurd rfl h0
    | cons c r => exact ⟨c, r, rfl⟩
  have hc := hl c List.mem_cons_self
  have hb : bt (bsA ((c :: r) ++ rest)) 0 = (c.toNat : Int) := bt_cons c _
  refine ⟨h0, fun x hx => ?_, ?_, by show (4 : Int) ≠ 0; decide, by show (bsA (c :: r)).size = _; rw [bsA_size]⟩
  · simp at hx; subst hx
    unfold lowB at hc
    unfold blankB
    simp only [Bool.and_eq_true, decide_eq_true_eq] at hc
    simp; omega
  · rw [firstP, if_pos (by rw [hb]; exact hc), hsc, ext_take, lettersP, if_pos ⟨hw, by rw [bsA_size]; exact h8⟩]
/-! ## the twin, where nothing is wrong -/
theorem oneRange_two {ts : List TokP} {st : RS} {d : Int} {k : Nat} (g : Good ts st d k) {x0 x1 x2 : ByteArray} {z a l lo hi y1 y2 y3 y4 : Int} (e0 : tAt ts k = (3, x0, z, a, l)) (e1 : tAt ts (k + 1) = (2, x1, lo, y1, y2)) (e2 : tAt ts (k + 2) = (2, x2, hi, y3, y4)) (h1 : l ≤ lo) (h2 : lo ≤ 32) (h3 : lo ≤ hi) (h4 : hi ≤ 32) :
    ∃ st', oneRangeR ts st = (st', spanM a l lo hi) ∧ Good ts st' d (k + 3) ∧ st'.defs = st.defs := by
  obtain ⟨_, _, ta, tl⟩ := tokR_at g e0
  dsimp only at ta tl
  have n1 := nAt_of e1
  have n2 := nAt_of e2
  dsimp only at n1 n2
  have w1 := g.go.within (lo := l) (hi := 32) (kAt_of e1) (by rw [n1]; exact h1) (by rw [n1]; exact h2)
  have w2 := g.go.go.within (lo := lo) (hi := 32) (kAt_of e2) (by rw [n2]; exact h3) (by rw [n2]; exact h4)
  rw [n1] at w1
  rw [n2] at w2
  refine ⟨goR ts (goR ts (goR ts st)), ?_, g.go.go.go, rfl⟩
  unfold oneRangeR
  rw [g.take (kAt_of e0)]
  dsimp only
  rw [g.go.kind, kAt_of e1, if_pos rfl, ta, tl, w1]
  dsimp only
  rw [w2]
theorem oneRange_one {ts : List TokP} {st : RS} {d : Int} {k : Nat} (g : Good ts st d k) {x0 : ByteArray} {z a l : Int} (e0 : tAt ts k = (3, x0, z, a, l)) (e1 : kAt ts (k + 1) ≠ 2) :
    ∃ st', oneRangeR ts st = (st', spanM a l l l) ∧ Good ts st' d (k + 1) ∧ st'.defs = st.defs := by
  obtain ⟨_, _, ta, tl⟩ := tokR_at g e0
  dsimp only at ta tl
  refine ⟨goR ts st, ?_, g.go, rfl⟩
  unfold oneRangeR
  rw [g.take (kAt_of e0)]
  dsimp only
  rw [g.go.kind, if_neg e1, ta, tl]
/-- ranges behind a comma, from k to k' -/
inductive Rngs (ts : List TokP) : Nat → Nat → List SetM → Prop
  | nil {k : Nat} : kAt ts k ≠ 28 → Rngs ts k k []
  | cons {k k' : Nat} {m : SetM} {l : List SetM} : kAt ts k = 28 → (∀ st d, Good ts st d (k + 1) → ∃ st', oneRangeR ts st = (st', m) ∧ Good ts st' d (k + 4) ∧ st'.defs = st.defs) → Rngs ts (k + 4) k' l → Rngs ts k k' (m :: l)
theorem rngs_lp {ts : List TokP} {k k' : Nat} {l : List SetM} (h : Rngs ts k k' l) : ∀ (n : Nat), l.length < n → ∀ (st : RS) (d : Int) (acc : List SetM), Good ts st d k → ∃ st', rangesLp ts n st acc = some (st', acc ++ l) ∧ Good ts st' d k' ∧ st'.defs = st.defs := by
  induction h with
  | nil hk =>
    intro n hn st d acc g
    obtain ⟨m, rfl⟩ : ∃ m, n = m + 1 := ⟨n - 1, by simp at hn; omega⟩
    exact ⟨st, by rw [rangesLp, g.kind, if_neg hk, List.append_nil], g, rfl⟩
  | @cons k k' m l hk hr _ ih =>
    intro n hn st d acc g
    obtain ⟨p, rfl⟩ : ∃ m, n = m + 1 := ⟨n - 1, by simp at hn; omega⟩
    obtain ⟨s1, e1, g1, d1⟩ := hr (goR ts st) d g.go
    obtain ⟨s2, e2, g2, d2⟩ := ih p (by simp at hn; omega) s1 d (acc ++ [m]) g1
    refine ⟨s2, ?_, g2, d2.trans d1⟩
    rw [rangesLp, g.kind, if_pos hk, e1, e2, List.append_assoc]; rfl
/-- { RANGE, .. } -/
theorem ranges_reads {ts : List TokP} {st : RS} {d : Int} {k k1 k' n : Nat} {m : SetM} {l : List SetM} (g : Good ts st d k) (e0 : kAt ts k = 29) (h1 : ∀ st d, Good ts st d (k + 1) → ∃ st', oneRangeR ts st = (st', m) ∧ Good ts st' d k1 ∧ st'.defs = st.defs) (h2 : Rngs ts k1 k' l) (hn : l.length < n) (e1 : kAt ts k' = 30) :
    ∃ st', rangesR ts n st = some (st', unionM (m :: l)) ∧ Good ts st' d (k' + 1) ∧ st'.defs = st.defs := by
  obtain ⟨s1, a1, g1, d1⟩ := h1 (goR ts st) d g.go
  obtain ⟨s2, a2, g2, d2⟩ := rngs_lp h2 n hn s1 d [m] g1
  refine ⟨goR ts s2, ?_, g2.go, ?_⟩
  · unfold rangesR
    rw [g.take e0]
    dsimp only
    rw [a1]
    dsimp only
    rw [a2]
    dsimp only
    rw [g2.take e1]; rfl
  · show s2.defs = st.defs
    rw [d2, d1]; rfl
/-- set NAME = { .. }; as the first of the definitions -/
theorem def_reads {ts : List TokP} {st : RS} {k k' n : Nat} {nm : ByteArray} {z a l : Int} {m : SetM} (g : Good ts st 0 k) (hd : st.defs = []) (e0 : kAt ts k = 5) (e1 : tAt ts (k + 1) = (4, nm, z, a, l)) (e2 : kAt ts (k + 2) = 26)
    (hr : ∀ s, Good ts s 0 (k + 3) → ∃ s', rangesR ts n s = some (s', m) ∧ Good ts s' 0 k' ∧ s'.defs = s.defs) (e3 : kAt ts k' = 27) :
    ∃ st', defR ts n st = some (st', true) ∧ Good ts st' 0 (k' + 1) ∧ st'.defs = [⟨nm, some m, none⟩] := by
  have g1 := g.go
  obtain ⟨tx, _, _, _⟩ := tokR_at g1 e1
  dsimp only at tx
  have hnn : newNameR ts (goR ts st) = (goR ts (goR ts st), nm) := by
    unfold newNameR
    rw [g1.take (kAt_of e1)]
    dsimp only
    have hnd : isDefR (goR ts (goR ts st)) (tokR ts (goR ts st)).text = false := by
      unfold isDefR
      have : (goR ts (goR ts st)).defs = [] := hd
      rw [this]; rfl
    rw [hnd, tx]; rfl
  obtain ⟨s', a1, g2, d2⟩ := hr _ g1.go.go
  refine ⟨addDefR (goR ts s') ⟨nm, some m, none⟩, ?_, ?_, ?_⟩
  · unfold defR
    rw [g.kind, if_pos e0, hnn]
    dsimp only
    rw [g1.go.take e2]
    dsimp only
    rw [a1]
    dsimp only
    rw [g2.take e3]
  · have g3 := g2.go
    exact ⟨g3.next, g3.depth, g3.syn, g3.nam, g3.num, g3.t0, g3.page⟩
  · show s'.defs ++ [_] = _
    rw [d2]
    have : (goR ts (goR ts (goR ts st))).defs = [] := hd
    rw [this]; rfl
/-- net in NAME -/
theorem net_reads {ts : List TokP} {sum : RS → Option (RS × Option AmtM)} {st : RS} {d : Int} {k : Nat} {nm : ByteArray} {z a l : Int} {m : SetM} (g : Good ts st d k) (e0 : kAt ts k = 21) (e1 : kAt ts (k + 1) = 22) (e2 : tAt ts (k + 2) = (4, nm, z, a, l)) (hf : findSet st.defs nm = some m) :
    ∃ st', notN ts sum st = some (st', some (netInM m)) ∧ Good ts st' d (k + 3) ∧ st'.defs = st.defs := by
  have g2 := g.go.go
  obtain ⟨tx, _, _, _⟩ := tokR_at g2 e2
  dsimp only at tx
  have hu : useSetR ts (goR ts (goR ts st)) = (goR ts (goR ts (goR ts st)), some m) := by
    unfold useSetR
    rw [g2.take (kAt_of e2)]
    dsimp only
    rw [tx]
    have : findSet (goR ts (goR ts (goR ts st))).defs nm = some m := hf
    rw [this]
  refine ⟨goR ts (goR ts (goR ts st)), ?_, g2.go, rfl⟩
  unfold notN
  rw [g.kind, if_pos e0, g.go.take e1]
  dsimp only
  rw [hu]; rfl
end Go.Proofs.YtgdeeodifnegiaaGreatDoor

namespace Go.Proofs.YtgdeeodifnegiaaGreatDoor
open Go.RowKit

def wPc (j : Nat) : Pc := .tk (wd j).data.toList ⟨5 + (j : Int), 0, wd j, 0, 0, 0⟩
def sPc (c : UInt8) : Pc := .tk [c] ⟨signK (c.toNat : Int), 0, bsA [c], 0, 0, 0⟩
def nPc (u : Nat) : Pc := .tk (Lib.decDigits u) ⟨2, 0, bsA (Lib.decDigits u), (u : Int), 0, 0⟩
def pPc (q : Quad) (l : Nat) : Pc := .tk (pfxB q l) ⟨3, 0, bsA (pfxB q l), 0, q.addr, (l : Int)⟩
def sName : Pc := .tk [115] ⟨4, 0, bsA [115], 0, 0, 0⟩
/-- what stands behind does not go on with letters, or digits -/
def hdLow (r : List UInt8) : Prop := ∀ b, r.head? = some b → lowB (b.toNat : Int) = false
def hdNum (r : List UInt8) : Prop := ∀ b, r.head? = some b → numeB (b.toNat : Int) = false
theorem hd_sp (l : List UInt8) : hdLow (32 :: l) ∧ hdNum (32 :: l) :=
  ⟨fun b hb => by rcases Option.some.inj hb with rfl; decide, fun b hb => by rcases Option.some.inj hb with rfl; decide⟩
theorem ok_w {j : Nat} (hj : j < 21) {l : List Pc} (h : pcOk l) (hl : hdLow (pcBytes l)) : pcOk (wPc j :: l) := ⟨lex_word j hj _ hl, h⟩
theorem ok_s {c : UInt8} (hc : signK (c.toNat : Int) ≠ 0) {l : List Pc} (h : pcOk l) : pcOk (sPc c :: l) := ⟨lex_sign c _ hc, h⟩
theorem ok_n {u : Nat} (hu : u ≤ 4294967295) {l : List Pc} (h : pcOk l) (hl : hdNum (pcBytes l)) : pcOk (nPc u :: l) := ⟨lex_dec u hu _ hl, h⟩
theorem ok_p {q : Quad} {x : Nat} (hq : q.ok) (hx : x ≤ 32) (hn : netOk (q.addr, (x : Int))) {l : List Pc} (h : pcOk l) (hl : hdNum (pcBytes l)) : pcOk (pPc q x :: l) := ⟨lex_pfx q x hq hx hn _ hl, h⟩
theorem ok_name {l : List Pc} (h : pcOk l) (hl : hdLow (pcBytes l)) : pcOk (sName :: l) := ⟨lex_name [115] (by simp) (by decide) (by decide +kernel) (by decide) _ hl, h⟩
structure Rg where
  q : Quad
  l : Nat
  lo : Nat
  hi : Nat
def Rg.ok (r : Rg) : Prop := r.q.ok ∧ r.l ≤ 32 ∧ netOk (r.q.addr, (r.l : Int)) ∧ r.l ≤ r.lo ∧ r.lo ≤ r.hi ∧ r.hi ≤ 32
def Rg.mean (r : Rg) : SetM := spanM r.q.addr (r.l : Int) (r.lo : Int) (r.hi : Int)
def rgPc (r : Rg) : List Pc := [pPc r.q r.l, .sp, nPc r.lo, .sp, nPc r.hi]
def rgsPc (l : List Rg) : List Pc := l.flatMap fun r => sPc 44 :: .sp :: rgPc r
def headP : List Pc := [wPc 0, .sp, sName, .sp, sPc 61, .sp, sPc 123, .sp]
def tailP : List Pc := [.sp, sPc 125, sPc 59, .sp, wPc 9, .sp, wPc 16, .sp, wPc 17, .sp, sName, .sp, wPc 10, .sp, sPc 123, .sp, wPc 2, sPc 59, .sp, sPc 125]
theorem tail_ok : pcOk tailP := by
  refine ok_s (by decide +kernel) (ok_s (by decide +kernel) ?_)
  refine ok_w (by decide) ?_ (hd_sp _).1
  refine ok_w (by decide) ?_ (hd_sp _).1
  refine ok_w (by decide) ?_ (hd_sp _).1
  refine ok_name ?_ (hd_sp _).1
  refine ok_w (by decide) ?_ (hd_sp _).1
  refine ok_s (by decide +kernel) ?_
  refine ok_w (by decide) (ok_s (by decide +kernel) (ok_s (by decide +kernel) trivial)) (fun b hb => ?_)
  have : b = 59 := by
    rcases Option.some.inj hb with rfl; rfl
  rw [this]; decide
theorem rg_ok {r : Rg} (hr : r.ok) {l : List Pc} (h : pcOk l) (hl : hdNum (pcBytes l)) : pcOk (rgPc r ++ l) := by
  obtain ⟨h1, h2, h3, h4, h5, h6⟩ := hr
  refine ok_p h1 h2 h3 ?_ (hd_sp _).2
  refine ok_n (by omega) ?_ (hd_sp _).2
  exact ok_n (by omega) h hl
theorem rgs_ok : ∀ {l : List Rg}, (∀ r ∈ l, r.ok) → pcOk (rgsPc l ++ tailP) ∧ hdNum (pcBytes (rgsPc l ++ tailP))
  | [], _ => ⟨tail_ok, (hd_sp _).2⟩
  | r :: l, h => by
    obtain ⟨i1, i2⟩ := rgs_ok (fun x hx => h x (List.mem_cons_of_mem _ hx))
    have e : rgsPc (r :: l) ++ tailP = sPc 44 :: .sp :: (rgPc r ++ (rgsPc l ++ tailP)) := by simp [rgsPc]
    rw [e]
    refine ⟨ok_s (by decide +kernel) (rg_ok (h r List.mem_cons_self) i1 i2), fun b hb => ?_⟩
    rcases Option.some.inj hb with rfl; decide
theorem head_ok {l : List Pc} (h : pcOk l) : pcOk (headP ++ l) := by
  refine ok_w (by decide) ?_ (hd_sp _).1
  refine ok_name ?_ (hd_sp _).1
  exact ok_s (by decide +kernel) (ok_s (by decide +kernel) h)
/-! ## the tokens -/
theorem drop_tAt {l : List Pc} {k : Nat} {t : TokP} {r : List TokP} (h : (pcT l).drop k = t :: r) : tAt (pcToks 0 l) k = (t.kind, t.text, t.number, t.addr, t.len) ∧ (pcT l).drop (k + 1) = r := by
  have e : (pcT l)[k]? = some t := by
    have := congrArg (·[0]?) h
    simpa [List.getElem?_drop] using this
  refine ⟨?_, by rw [← List.drop_drop, h]; rfl⟩
  rw [pcs_tAt]
  unfold tAt
  rw [e]; rfl
def wT (j : Nat) : TokP := ⟨5 + (j : Int), 0, wd j, 0, 0, 0⟩
def sT (c : UInt8) : TokP := ⟨signK (c.toNat : Int), 0, bsA [c], 0, 0, 0⟩
def nT (u : Nat) : TokP := ⟨2, 0, bsA (Lib.decDigits u), (u : Int), 0, 0⟩
def pT (q : Quad) (l : Nat) : TokP := ⟨3, 0, bsA (pfxB q l), 0, q.addr, (l : Int)⟩
def nameT : TokP := ⟨4, 0, bsA [115], 0, 0, 0⟩
def tailT : List TokP := [sT 125, sT 59, wT 9, wT 16, wT 17, nameT, wT 10, sT 123, wT 2, sT 59, sT 125, ⟨1, 0, ⟨#[]⟩, 0, 0, 0⟩]
def rgsT (l : List Rg) : List TokP := l.flatMap fun r => [sT 44, pT r.q r.l, nT r.lo, nT r.hi]
theorem rgs_T : ∀ (l : List Rg), pcT (rgsPc l ++ tailP) = rgsT l ++ tailT
  | [] => rfl
  | r :: l => by
    have e : rgsPc (r :: l) ++ tailP = sPc 44 :: .sp :: (rgPc r ++ (rgsPc l ++ tailP)) := by simp [rgsPc]
    have e2 : rgsT (r :: l) ++ tailT = sT 44 :: pT r.q r.l :: nT r.lo :: nT r.hi :: (rgsT l ++ tailT) := by simp [rgsT]
    rw [e, e2, ← rgs_T l]; rfl
theorem rngs_of {L : List Pc} : ∀ (l : List Rg) (k : Nat) (t : TokP) (r : List TokP), (∀ r ∈ l, r.ok) → t.kind ≠ 28 → (pcT L).drop k = rgsT l ++ t :: r → Rngs (pcToks 0 L) k (k + 4 * l.length) (l.map Rg.mean)
  | [], k, t, r, _, ht, h => by
    obtain ⟨e, _⟩ := drop_tAt (show (pcT L).drop k = t :: r from h)
    exact .nil (by rw [kAt_of e]; exact ht)
  | x :: l, k, t, r, ho, ht, h => by
    obtain ⟨h1, h2, h3, h4, h5, h6⟩ := ho x List.mem_cons_self
    have h' : (pcT L).drop k = sT 44 :: (pT x.q x.l :: nT x.lo :: nT x.hi :: (rgsT l ++ t :: r)) := by rw [h]; simp [rgsT]
    obtain ⟨e0, d0⟩ := drop_tAt h'
    obtain ⟨e1, d1⟩ := drop_tAt d0
    obtain ⟨e2, d2⟩ := drop_tAt d1
    obtain ⟨e3, d3⟩ := drop_tAt d2
    have ih := rngs_of l (k + 4) t r (fun y hy => ho y (List.mem_cons_of_mem _ hy)) ht d3
    have hk : k + 4 * (x :: l).length = k + 4 + 4 * l.length := by simp only [List.length_cons]; omega
    rw [hk]
    refine .cons ?_ (fun st d g => ?_) ih
    · rw [kAt_of e0]; show signK ((44 : UInt8).toNat : Int) = 28; decide +kernel
    · exact oneRange_two g e1 e2 e3 (by show (x.l : Int) ≤ x.lo; omega) (by show (x.lo : Int) ≤ 32; omega) (by show (x.lo : Int) ≤ x.hi; omega) (by show (x.hi : Int) ≤ 32; omega)
/-! ## the policy -/
theorem cond_at {ts : List TokP} {nt : RS → Option (RS × Option CndM)} {st s : RS} {a : Option CndM} (h : nt st = some (s, a)) (h1 : kindR ts s ≠ 19) (h2 : kindR ts s ≠ 18) : condBy ts nt 100 st = some (s, a) := by
  have e1 : andBy ts nt 100 st = some (s, a) := by
    unfold andBy binBy
    rw [h]
    dsimp only
    rw [show (100 : Nat) = 99 + 1 from rfl, binLp, if_neg h1]
  unfold condBy binBy
  rw [e1]
  dsimp only
  rw [show (100 : Nat) = 99 + 1 from rfl, binLp, if_neg h2]
theorem set_policy {L : List Pc} {k1 K : Nat} {m : SetM} {l : List SetM} {R0 : List TokP} (d0 : (pcT L).drop 0 = wT 0 :: nameT :: sT 61 :: sT 123 :: R0)
    (h1 : ∀ st d, Good (pcToks 0 L) st d 4 → ∃ st', oneRangeR (pcToks 0 L) st = (st', m) ∧ Good (pcToks 0 L) st' d k1 ∧ st'.defs = st.defs) (h2 : Rngs (pcToks 0 L) k1 K l) (hl : l.length < 100) (dK : (pcT L).drop K = tailT) :
    ∃ st, policyD (pcToks 0 L) 100 (stmN (pcToks 0 L) 3) rs0 = some (st, [chooseM (netInM (unionM (m :: l))) [concludeM 1] []].map some) ∧ Good (pcToks 0 L) st 0 (K + 11) := by
  obtain ⟨a0, d1⟩ := drop_tAt d0
  obtain ⟨a1, d2⟩ := drop_tAt d1
  obtain ⟨a2, d3⟩ := drop_tAt d2
  obtain ⟨a3, _⟩ := drop_tAt d3
  obtain ⟨b0, f1⟩ := drop_tAt dK
  obtain ⟨b1, f2⟩ := drop_tAt f1
  obtain ⟨b2, f3⟩ := drop_tAt f2
  obtain ⟨b3, f4⟩ := drop_tAt f3
  obtain ⟨b4, f5⟩ := drop_tAt f4
  obtain ⟨b5, f6⟩ := drop_tAt f5
  obtain ⟨b6, f7⟩ := drop_tAt f6
  obtain ⟨b7, f8⟩ := drop_tAt f7
  obtain ⟨b8, f9⟩ := drop_tAt f8
  obtain ⟨b9, f10⟩ := drop_tAt f9
  obtain ⟨b10, f11⟩ := drop_tAt f10
  obtain ⟨b11, _⟩ := drop_tAt f11
  clear d0 d1 d2 d3 dK f1 f2 f3 f4 f5 f6 f7 f8 f9 f10 f11
  generalize pcToks 0 L = ts at *
  have s61 : signK ((61 : UInt8).toNat : Int) = 26 := by decide +kernel
  have s123 : signK ((123 : UInt8).toNat : Int) = 29 := by decide +kernel
  have s125 : signK ((125 : UInt8).toNat : Int) = 30 := by decide +kernel
  have s59 : signK ((59 : UInt8).toNat : Int) = 27 := by decide +kernel
  have t0 : (ts[0]?.getD tok0).text.data.toList ≠ [] := by
    have : (ts[0]?.getD tok0).text = wd 0 := by
      have := congrArg (fun x => x.2.1) a0
      exact this
    rw [this]; decide +kernel
  have g0 : Good ts rs0 0 0 := ⟨rfl, rfl, rfl, rfl, rfl, t0, Or.inl rfl⟩
  obtain ⟨st1, c1, g1, hd1⟩ := def_reads (n := 100) g0 rfl (kAt_of a0) a1 ((kAt_of a2).trans s61) (fun s g => ranges_reads g ((kAt_of a3).trans s123) h1 h2 hl ((kAt_of b0).trans s125)) ((kAt_of b1).trans s59)
  have hk1 : kindR ts st1 = 14 := by rw [g1.kind]; exact kAt_of b2
  have hds : defsLp ts 100 8 rs0 = some st1 := by
    rw [show (8 : Nat) = 7 + 1 from rfl, defsLp, c1]
    dsimp only
    rw [show (7 : Nat) = 6 + 1 from rfl, defsLp, defR, hk1, if_neg (by decide), if_neg (by decide)]
  have hfs : findSet (goR ts st1).defs (bsA [115]) = some (unionM (m :: l)) := by
    show findSet st1.defs (bsA [115]) = _
    rw [hd1, findSet, if_pos (by simp [nameT])]
  obtain ⟨s2, c2, g2, _⟩ := net_reads (sum := sumS ts) g1.go (kAt_of b3) (kAt_of b4) b5 hfs
  have hc : cndN ts (goR ts st1) = some (s2, some (netInM (unionM (m :: l)))) := cond_at (ts := ts) c2 (by rw [g2.kind, kAt_of b6]; decide) (by rw [g2.kind, kAt_of b6]; decide)
  have hb : Reads ts (blockBy ts (stmN ts 2) 100) 0 (K + 7) (K + 11) ([concludeM 1].map some) :=
    block_reads (k' := K + 10) ((kAt_of b7).trans s123) (by decide) (by decide) (.cons (stmt_accept' (kAt_of b8) rfl ((kAt_of b9).trans s59)) (.nil (stmt_none' (by rw [kAt_of b10]; show noStmt (signK ((125 : UInt8).toNat : Int)); rw [s125]; decide) rfl))) (by decide) ((kAt_of b10).trans s125)
  obtain ⟨s3, c3', g3⟩ := hb _ g2.go
  have c3 : blockBy ts (stmtTw ts 100 okP (sumS ts) (cndN ts) 2) 100 (goR ts s2) = some (s3, [concludeM 1].map some) := c3'
  have hst : stmN ts 3 st1 = some (s3, some (some (chooseM (netInM (unionM (m :: l))) [concludeM 1] []))) := by
    unfold stmN
    rw [stmtTw, hk1, if_neg (by decide), if_pos rfl, hc]
    dsimp only
    rw [show takeR ts 15 s2 = (goR ts s2, tokR ts s2) from g2.take (kAt_of b6)]
    dsimp only
    rw [c3]
    dsimp only
    rw [g3.kind, kAt_of b11, if_neg (by decide), chooseO, allO_map]; rfl
  have hno : stmN ts 3 s3 = some (s3, none) := by
    obtain ⟨s4, c4, _⟩ := stmt_none' (ts := ts) (n := 100) (f := 2) (ok := okP) (sum := sumS ts) (cnd := cndN ts) (d := 0) (k := K + 11) (by rw [kAt_of b11]; decide) rfl s3 g3
    have := c4
    unfold stmN
    rw [stmtTw, g3.kind, kAt_of b11, if_neg (by decide), if_neg (by decide), if_neg (by decide), if_neg (by decide), if_neg (by decide), if_neg (by decide), if_neg (by decide), if_neg (by decide), if_neg (by decide)]
  refine ⟨s3, ?_, g3⟩
  unfold policyD
  rw [hds]
  dsimp only
  unfold policyTw
  rw [show (100 : Nat) = 98 + 1 + 1 from rfl, moreLp, hst]
  dsimp only
  rw [moreLp, hno]
  dsimp only
  have hlen : ¬ ([] ++ [some (chooseM (netInM (unionM (m :: l))) [concludeM 1] [])] : List (Option StpM)).length = 0 := by simp
  rw [if_neg hlen, g3.kind, kAt_of b11, if_pos rfl]
  rfl
def allR (r : Rg) (l : List Rg) : List Pc := headP ++ (rgPc r ++ (rgsPc l ++ tailP))
def oneR : List Pc := headP ++ (pPc ⟨10, 0, 0, 0⟩ 8 :: tailP)
def rangedMs (U : SetM) : List StpM := [chooseM (netInM U) [concludeM 1] []]
theorem pcBytes_append : ∀ (a b : List Pc), pcBytes (a ++ b) = pcBytes a ++ pcBytes b
  | [], _ => rfl
  | .sp :: a, b => by rw [List.cons_append, pcBytes, pcBytes, pcBytes_append a b]; rfl
  | .tk bs t :: a, b => by rw [List.cons_append, pcBytes, pcBytes, pcBytes_append a b, List.append_assoc]
theorem rg_len {r : Rg} (h : r.ok) : (pcBytes (rgPc r)).length ≤ 76 := by
  obtain ⟨h1, h2, h3, h4, h5, h6⟩ := h
  have a := pfx_len r.q r.l h1 h2
  have b := dec_len (u := r.lo) (by omega)
  have c := dec_len (u := r.hi) (by omega)
  show (pfxB r.q r.l ++ 32 :: (Lib.decDigits r.lo ++ 32 :: (Lib.decDigits r.hi ++ []))).length ≤ 76
  simp only [List.length_append, List.length_cons, List.length_nil]
  omega
theorem rgs_len : ∀ {l : List Rg}, (∀ r ∈ l, r.ok) → (pcBytes (rgsPc l)).length ≤ 78 * l.length
  | [], _ => by simp [rgsPc, pcBytes]
  | r :: l, h => by
    have a := rg_len (h r List.mem_cons_self)
    have b := rgs_len (fun x hx => h x (List.mem_cons_of_mem _ hx))
    have e : rgsPc (r :: l) = (sPc 44 :: .sp :: rgPc r) ++ rgsPc l := by simp [rgsPc]
    rw [e, pcBytes_append, List.length_append]
    have e2 : (pcBytes (sPc 44 :: .sp :: rgPc r)).length = 2 + (pcBytes (rgPc r)).length := by
      show ([44] ++ 32 :: pcBytes (rgPc r)).length = _
      simp; omega
    simp only [List.length_cons]
    omega
theorem rgsT_len (l : List Rg) : (rgsT l).length = 4 * l.length := by
  induction l with
  | nil => rfl
  | cons x l ih =>
    have : rgsT (x :: l) = [sT 44, pT x.q x.l, nT x.lo, nT x.hi] ++ rgsT l := by simp [rgsT]
    rw [this, List.length_append, ih]; simp; omega
theorem good_read {L : List Pc} (hL : pcOk L) (hs : (pcBytes L).length ≤ 600) {ms : List StpM} {st : RS} {f K : Nat} (hp : policyD (pcToks 0 L) 100 (stmN (pcToks 0 L) f) rs0 = some (st, ms.map some)) (g : Good (pcToks 0 L) st 0 (K + 11)) : ReadOk (bsA (pcBytes L)) ms :=
  readD_of (pcs_all hL) (by rw [bsA_size]; exact hs) hp g.syn g.nam g.num (g.page.resolve_left (by omega))
theorem ranged_read (r : Rg) (l : List Rg) (hr : ∀ x ∈ r :: l, x.ok) (hl : l.length ≤ 4) : ReadOk (bsA (pcBytes (allR r l))) (rangedMs (unionM ((r :: l).map Rg.mean))) := by
  have hr0 := hr r List.mem_cons_self
  have hrl : ∀ x ∈ l, x.ok := fun x hx => hr x (List.mem_cons_of_mem _ hx)
  obtain ⟨k1, k2⟩ := rgs_ok hrl
  have hT : pcT (allR r l) = wT 0 :: nameT :: sT 61 :: sT 123 :: pT r.q r.l :: nT r.lo :: nT r.hi :: (rgsT l ++ tailT) := by
    rw [← rgs_T l]; rfl
  have d7 : (pcT (allR r l)).drop 7 = rgsT l ++ tailT := by rw [hT]; rfl
  have d4 : (pcT (allR r l)).drop 4 = pT r.q r.l :: nT r.lo :: nT r.hi :: (rgsT l ++ tailT) := by rw [hT]; rfl
  obtain ⟨e4, d5⟩ := drop_tAt d4
  obtain ⟨e5, d6⟩ := drop_tAt d5
  obtain ⟨e6, _⟩ := drop_tAt d6
  have hlen := rgsT_len l
  have dK : (pcT (allR r l)).drop (7 + 4 * l.length) = tailT := by rw [← List.drop_drop, d7, ← hlen, List.drop_left]
  obtain ⟨h1, h2, h3, h4, h5, h6⟩ := hr0
  obtain ⟨st, hp, g⟩ := set_policy (L := allR r l) (k1 := 7) (K := 7 + 4 * l.length) (m := r.mean) (l := l.map Rg.mean) (R0 := pT r.q r.l :: nT r.lo :: nT r.hi :: (rgsT l ++ tailT)) hT
    (fun st d g => oneRange_two g e4 e5 e6 (by show (r.l : Int) ≤ r.lo; omega) (by show (r.lo : Int) ≤ 32; omega) (by show (r.lo : Int) ≤ r.hi; omega) (by show (r.hi : Int) ≤ 32; omega))
    (rngs_of l 7 (sT 125) [sT 59, wT 9, wT 16, wT 17, nameT, wT 10, sT 123, wT 2, sT 59, sT 125, ⟨1, 0, ⟨#[]⟩, 0, 0, 0⟩] hrl (by show signK ((125 : UInt8).toNat : Int) ≠ 28; decide +kernel) d7) (by rw [List.length_map]; omega) dK
  refine good_read (L := allR r l) (head_ok (rg_ok (hr r List.mem_cons_self) k1 k2)) ?_ hp g
  have a := rg_len (hr r List.mem_cons_self)
  have b := rgs_len hrl
  have c : (pcBytes headP).length = 10 := by decide +kernel
  have d : (pcBytes tailP).length = 32 := by decide +kernel
  rw [allR, pcBytes_append, pcBytes_append, pcBytes_append, List.length_append, List.length_append, List.length_append]
  omega
theorem ranged_none : ReadOk (bsA (pcBytes oneR)) (rangedMs (unionM [spanM 167772160 8 8 8])) := by
  have hq : (⟨10, 0, 0, 0⟩ : Quad).ok := ⟨by decide, by decide, by decide, by decide⟩
  have hn : netOk ((⟨10, 0, 0, 0⟩ : Quad).addr, ((8 : Nat) : Int)) := by decide
  have d4 : (pcT oneR).drop 4 = pT ⟨10, 0, 0, 0⟩ 8 :: tailT := rfl
  obtain ⟨e4, d5⟩ := drop_tAt d4
  obtain ⟨e5, _⟩ := drop_tAt (show (pcT oneR).drop 5 = sT 125 :: [sT 59, wT 9, wT 16, wT 17, nameT, wT 10, sT 123, wT 2, sT 59, sT 125, ⟨1, 0, ⟨#[]⟩, 0, 0, 0⟩] from d5)
  have h125 : signK ((125 : UInt8).toNat : Int) = 30 := by decide +kernel
  obtain ⟨st, hp, g⟩ := set_policy (L := oneR) (k1 := 5) (K := 5) (m := spanM 167772160 8 8 8) (l := []) (R0 := pT ⟨10, 0, 0, 0⟩ 8 :: tailT) rfl
    (fun st d g => oneRange_one g e4 (by rw [kAt_of e5]; show signK ((125 : UInt8).toNat : Int) ≠ 2; rw [h125]; decide))
    (.nil (by rw [kAt_of e5]; show signK ((125 : UInt8).toNat : Int) ≠ 28; rw [h125]; decide)) (by decide) d5
  refine good_read (L := oneR) (head_ok (ok_p hq (by decide) hn tail_ok (hd_sp _).2)) ?_ hp g
  have a := pfx_len ⟨10, 0, 0, 0⟩ 8 hq (by decide)
  have c : (pcBytes headP).length = 10 := by decide +kernel
  have d : (pcBytes tailP).length = 32 := by decide +kernel
  have e : pcBytes oneR = pcBytes headP ++ (pfxB ⟨10, 0, 0, 0⟩ 8 ++ pcBytes tailP) := pcBytes_append headP _
  rw [e, List.length_append, List.length_append]
  omega
end Go.Proofs.YtgdeeodifnegiaaGreatDoor

namespace Go.Proofs.YtgdeeodifnegiaaGreatDoor
open Go.RowKit

/-- a way's text, as a tree -/
inductive Wt where
  | dot
  | num (n : Nat)
  | par (a : Wt)
  | rep (c : UInt8) (a : Wt)
  | alt (a b : Wt)
  | cat (a b : Wt)
def Wt.pc : Wt → List Pc → List Pc
  | .dot, R => sPc 46 :: R
  | .num n, R => nPc n :: R
  | .par a, R => sPc 40 :: .sp :: a.pc (.sp :: sPc 41 :: R)
  | .rep c a, R => sPc 40 :: .sp :: a.pc (.sp :: sPc 41 :: .sp :: sPc c :: R)
  | .alt a b, R => sPc 40 :: .sp :: a.pc (.sp :: sPc 124 :: .sp :: b.pc (.sp :: sPc 41 :: R))
  | .cat a b, R => sPc 40 :: .sp :: a.pc (.sp :: b.pc (.sp :: sPc 41 :: R))
def Wt.tk : Wt → List TokP → List TokP
  | .dot, R => sT 46 :: R
  | .num n, R => nT n :: R
  | .par a, R => sT 40 :: a.tk (sT 41 :: R)
  | .rep c a, R => sT 40 :: a.tk (sT 41 :: sT c :: R)
  | .alt a b, R => sT 40 :: a.tk (sT 124 :: b.tk (sT 41 :: R))
  | .cat a b, R => sT 40 :: a.tk (b.tk (sT 41 :: R))
def Wt.n : Wt → Nat
  | .dot => 1
  | .num _ => 1
  | .par a => a.n + 2
  | .rep _ a => a.n + 3
  | .alt a b => a.n + b.n + 3
  | .cat a b => a.n + b.n + 2
def Wt.h : Wt → Nat
  | .dot => 0
  | .num _ => 0
  | .par a => a.h + 1
  | .rep _ a => a.h + 1
  | .alt a b => max a.h b.h + 1
  | .cat a b => max a.h b.h + 1
def Wt.ok : Wt → Prop
  | .dot => True
  | .num n => 1 ≤ n ∧ n ≤ 3
  | .par a => a.ok
  | .rep c a => (c = 42 ∨ c = 43 ∨ c = 63) ∧ a.ok
  | .alt a b => a.ok ∧ b.ok
  | .cat a b => a.ok ∧ b.ok
def Wt.L : Wt → WayM
  | .dot => dotL
  | .num n => numL (n : Int)
  | .par a => a.L
  | .rep c a => repL (c != 43) (c != 63) a.L
  | .alt a b => orL a.L b.L
  | .cat a b => catL a.L b.L
theorem Wt.pc_T : ∀ (a : Wt) (R : List Pc), pcT (a.pc R) = a.tk (pcT R)
  | .dot, _ => rfl
  | .num _, _ => rfl
  | .par a, R => by show sT 40 :: pcT (a.pc _) = _; rw [a.pc_T]; rfl
  | .rep c a, R => by show sT 40 :: pcT (a.pc _) = _; rw [a.pc_T]; rfl
  | .alt a b, R => by
    show sT 40 :: pcT (a.pc _) = _
    rw [a.pc_T]
    show sT 40 :: a.tk (sT 124 :: pcT (b.pc _)) = _
    rw [b.pc_T]; rfl
  | .cat a b, R => by
    show sT 40 :: pcT (a.pc _) = _
    rw [a.pc_T]
    show sT 40 :: a.tk (pcT (b.pc _)) = _
    rw [b.pc_T]; rfl
theorem s40 : signK ((40 : UInt8).toNat : Int) = 33 := by decide +kernel
theorem s41 : signK ((41 : UInt8).toNat : Int) = 34 := by decide +kernel
theorem s46 : signK ((46 : UInt8).toNat : Int) = 41 := by decide +kernel
theorem s124 : signK ((124 : UInt8).toNat : Int) = 35 := by decide +kernel
theorem s42 : signK ((42 : UInt8).toNat : Int) = 36 := by decide +kernel
theorem s43 : signK ((43 : UInt8).toNat : Int) = 38 := by decide +kernel
theorem s63 : signK ((63 : UInt8).toNat : Int) = 37 := by decide +kernel
theorem Wt.pc_ok : ∀ (a : Wt) (R : List Pc), a.ok → pcOk R → hdNum (pcBytes R) → pcOk (a.pc R)
  | .dot, _, _, h, _ => ok_s (by rw [s46]; decide) h
  | .num n, _, ho, h, hn => ok_n (Nat.le_trans ho.2 (by decide)) h hn
  | .par a, _, ho, h, _ => ok_s (by rw [s40]; decide) (a.pc_ok _ ho (ok_s (by rw [s41]; decide) h) (hd_sp _).2)
  | .rep c a, _, ho, h, _ => ok_s (by rw [s40]; decide) (a.pc_ok _ ho.2 (ok_s (by rw [s41]; decide) (ok_s (by rcases ho.1 with rfl | rfl | rfl; (rw [s42]; decide); (rw [s43]; decide); (rw [s63]; decide)) h)) (hd_sp _).2)
  | .alt a b, _, ho, h, _ => ok_s (by rw [s40]; decide) (a.pc_ok _ ho.1 (ok_s (by rw [s124]; decide) (b.pc_ok _ ho.2 (ok_s (by rw [s41]; decide) h) (hd_sp _).2)) (hd_sp _).2)
  | .cat a b, _, ho, h, _ => ok_s (by rw [s40]; decide) (a.pc_ok _ ho.1 (b.pc_ok _ ho.2 (ok_s (by rw [s41]; decide) h) (hd_sp _).2) (hd_sp _).2)
/-- what an item begins with -/
def begins (k : Int) : Prop := k = 2 ∨ k = 41 ∨ k = 33
theorem Wt.head (a : Wt) (R : List TokP) : ∃ t R', a.tk R = t :: R' ∧ begins t.kind := by
  cases a with
  | dot => exact ⟨_, _, rfl, Or.inr (Or.inl s46)⟩
  | num n => exact ⟨_, _, rfl, Or.inl rfl⟩
  | par a => exact ⟨_, _, rfl, Or.inr (Or.inr s40)⟩
  | rep c a => exact ⟨_, _, rfl, Or.inr (Or.inr s40)⟩
  | alt a b => exact ⟨_, _, rfl, Or.inr (Or.inr s40)⟩
  | cat a b => exact ⟨_, _, rfl, Or.inr (Or.inr s40)⟩
def noSign (k : Int) : Prop := k ≠ 36 ∧ k ≠ 37 ∧ k ≠ 38
theorem ns41 : noSign (sT 41).kind := by
  have h : (sT 41).kind = 34 := s41
  rw [h]; exact ⟨by decide, by decide, by decide⟩
theorem ns124 : noSign (sT 124).kind := by
  have h : (sT 124).kind = 35 := s124
  rw [h]; exact ⟨by decide, by decide, by decide⟩
theorem noSign_begins {k : Int} (h : begins k) : noSign k := by
  rcases h with rfl | rfl | rfl <;> exact ⟨by decide, by decide, by decide⟩
/-- reads, and leaves what is defined -/
def Reads2 {α : Type} (ts : List TokP) (rd : RS → Option (RS × α)) (d : Int) (k k' : Nat) (m : α) : Prop := ∀ st, Good ts st d k → ∃ st', rd st = some (st', m) ∧ Good ts st' d k' ∧ st'.defs = st.defs
theorem repeats_none {ts : List TokP} {d : Int} {k n : Nat} (A : WayM) (h : noSign (kAt ts k)) : Reads2 ts (repeatsR ts (n + 1) A) d k k A := fun st g => by
  refine ⟨st, ?_, g, rfl⟩
  unfold repeatsR
  rw [repLp, g.kind, if_neg h.1, if_neg h.2.2, if_neg h.2.1]
  rfl
theorem repeats_one {ts : List TokP} {d : Int} {k n : Nat} (A : WayM) (c : UInt8) (hc : c = 42 ∨ c = 43 ∨ c = 63) (h0 : kAt ts k = signK (c.toNat : Int)) (h : noSign (kAt ts (k + 1))) : Reads2 ts (repeatsR ts (n + 2) A) d k (k + 1) (repL (c != 43) (c != 63) A) := fun st g => by
  refine ⟨goR ts st, ?_, g.go, rfl⟩
  unfold repeatsR
  rw [repLp, g.kind, h0]
  rcases hc with rfl | rfl | rfl
  · rw [s42, if_pos rfl, repLp, g.go.kind, if_neg h.1, if_neg h.2.2, if_neg h.2.1]; rfl
  · rw [s43, if_neg (by decide), if_pos rfl, repLp, g.go.kind, if_neg h.1, if_neg h.2.2, if_neg h.2.1]; rfl
  · rw [s63, if_neg (by decide), if_neg (by decide), if_pos rfl, repLp, g.go.kind, if_neg h.1, if_neg h.2.2, if_neg h.2.1]; rfl
theorem someR_of {ts : List TokP} {rd : RS → Option (RS × WayM)} {d : Int} {k k' : Nat} {m : WayM} (h : Reads2 ts rd d k k' m) : Reads2 ts (fun st => someR (rd st)) d k k' (some m) := fun st g => by
  obtain ⟨s, e, g1, d1⟩ := h st g
  exact ⟨s, by show someR (rd st) = _; rw [e]; rfl, g1, d1⟩
theorem item_end {ts : List TokP} {n : Nat} {ei : RS → Option (RS × WayM)} {d : Int} {k : Nat} (h : ¬ begins (kAt ts k)) : Reads2 ts (itemBy ts n ei) d k k none := fun st g => by
  refine ⟨st, ?_, g, rfl⟩
  unfold itemBy
  rw [g.kind, if_neg (fun e => h (Or.inl e)), if_neg (fun e => h (Or.inr (Or.inl e))), if_neg (fun e => h (Or.inr (Or.inr e)))]
theorem row_one {ts : List TokP} {n : Nat} {it : RS → Option (RS × Option WayM)} {d : Int} {k k' : Nat} {A : WayM} (h1 : Reads2 ts it d k k' (some A)) (h2 : Reads2 ts it d k' k' none) : Reads2 ts (rowBy ts (n + 2) it) d k k' A := fun st g => by
  obtain ⟨s1, e1, g1, d1⟩ := h1 st g
  obtain ⟨s2, e2, g2, d2⟩ := h2 s1 g1
  refine ⟨s2, ?_, g2, d2.trans d1⟩
  unfold rowBy
  rw [moreLp, e1]
  dsimp only
  rw [moreLp, e2]
  dsimp only
  rw [if_neg (by simp)]
  show some (s2, rowL [A]) = _
  rw [rowL_one]
theorem row_two {ts : List TokP} {n : Nat} {it : RS → Option (RS × Option WayM)} {d : Int} {k k1 k' : Nat} {A B : WayM} (h1 : Reads2 ts it d k k1 (some A)) (h2 : Reads2 ts it d k1 k' (some B)) (h3 : Reads2 ts it d k' k' none) : Reads2 ts (rowBy ts (n + 3) it) d k k' (catL A B) := fun st g => by
  obtain ⟨s1, e1, g1, d1⟩ := h1 st g
  obtain ⟨s2, e2, g2, d2⟩ := h2 s1 g1
  obtain ⟨s3, e3, g3, d3⟩ := h3 s2 g2
  refine ⟨s3, ?_, g3, d3.trans (d2.trans d1)⟩
  unfold rowBy
  rw [moreLp, e1]
  dsimp only
  rw [moreLp, e2]
  dsimp only
  rw [moreLp, e3]
  dsimp only
  rw [if_neg (by simp)]
  show some (s3, rowL [A, B]) = _
  rw [rowL_two]
theorem eith_one {ts : List TokP} {n : Nat} {rw_ : RS → Option (RS × WayM)} {d : Int} {k k' : Nat} {A : WayM} (h1 : Reads2 ts rw_ d k k' A) (h2 : kAt ts k' ≠ 35) : Reads2 ts (eithBy ts (n + 1) rw_) d k k' A := fun st g => by
  obtain ⟨s1, e1, g1, d1⟩ := h1 st g
  refine ⟨s1, ?_, g1, d1⟩
  unfold eithBy
  rw [e1]
  dsimp only
  rw [altLp, g1.kind, if_neg h2]
  dsimp only
  rw [anyL_one]
theorem eith_two {ts : List TokP} {n : Nat} {rw_ : RS → Option (RS × WayM)} {d : Int} {k k1 k' : Nat} {A B : WayM} (h1 : Reads2 ts rw_ d k k1 A) (h0 : kAt ts k1 = 35) (h2 : Reads2 ts rw_ d (k1 + 1) k' B) (h3 : kAt ts k' ≠ 35) : Reads2 ts (eithBy ts (n + 2) rw_) d k k' (orL A B) := fun st g => by
  obtain ⟨s1, e1, g1, d1⟩ := h1 st g
  obtain ⟨s2, e2, g2, d2⟩ := h2 _ g1.go
  refine ⟨s2, ?_, g2, d2.trans d1⟩
  unfold eithBy
  rw [e1]
  dsimp only
  rw [altLp, g1.kind, if_pos h0, e2]
  dsimp only
  rw [altLp, g2.kind, if_neg h3]
  dsimp only
  show some (s2, anyL [A, B]) = _
  rw [anyL_two]
/-- an item between parentheses -/
theorem item_paren {ts : List TokP} {n : Nat} {ei : RS → Option (RS × WayM)} {d : Int} {k k1 k' : Nat} {A B : WayM} (h0 : 0 ≤ d) (h8 : d < 8) (e0 : kAt ts k = 33) (h1 : Reads2 ts ei (d + 1) (k + 1) k1 A) (e1 : kAt ts k1 = 34) (h2 : Reads2 ts (repeatsR ts n A) d (k1 + 1) k' B) : Reads2 ts (itemBy ts n ei) d k k' (some B) := fun st g => by
  obtain ⟨s1, a1, g1, d1⟩ := h1 _ (g.open e0 h0 h8)
  obtain ⟨s2, a2, g2, d2⟩ := h2 _ (g1.shut e1 h0 h8)
  refine ⟨s2, ?_, g2, ?_⟩
  · unfold itemBy
    rw [g.kind, e0, if_neg (by decide), if_neg (by decide), if_pos rfl, a1]
    dsimp only
    rw [a2]; rfl
  · rw [d2]
    show (takeR ts 34 s1).1.defs = _
    rw [takeR_defs, d1]
    show (takeR ts 33 (if st.depth = 8 then failR ts st else st)).1.defs = _
    rw [takeR_defs]
    split <;> rfl
theorem nxt {L : List Pc} {k : Nat} {t : TokP} {r : List TokP} (h : (pcT L).drop k = t :: r) : kAt (pcToks 0 L) k = t.kind := kAt_of (drop_tAt h).1
theorem Wt.reads {L : List Pc} : ∀ (a : Wt) (f : Nat) (d : Int) (k : Nat) (t : TokP) (R : List TokP), a.ok → a.h ≤ f → 0 ≤ d → d + (a.h : Int) ≤ 8 → noSign t.kind → (pcT L).drop k = a.tk (t :: R) →
    Reads2 (pcToks 0 L) (itemBy (pcToks 0 L) 100 (eithTw (pcToks 0 L) 100 f)) d k (k + a.n) (some a.L) ∧ (pcT L).drop (k + a.n) = t :: R
  | .dot, f, d, k, t, R, _, _, _, _, ht, hd => by
    obtain ⟨e0, d1⟩ := drop_tAt hd
    refine ⟨fun st g => ?_, d1⟩
    obtain ⟨s, a1, g1, q1⟩ := someR_of (repeats_none (n := 99) dotL (by rw [nxt d1]; exact ht)) _ g.go
    refine ⟨s, ?_, g1, q1⟩
    have hk : kAt (pcToks 0 L) k = 41 := (kAt_of e0).trans s46
    unfold itemBy
    rw [g.kind, hk, if_neg (by decide), if_pos rfl]; exact a1
  | .num n, f, d, k, t, R, ho, _, _, _, ht, hd => by
    obtain ⟨e0, d1⟩ := drop_tAt hd
    refine ⟨fun st g => ?_, d1⟩
    have hn := nAt_of e0
    have hw := g.within (lo := 1) (hi := 65535) (kAt_of e0) (by rw [hn]; show (1 : Int) ≤ (n : Int); have := ho.1; omega) (by rw [hn]; show (n : Int) ≤ 65535; have := ho.2; omega)
    rw [hn] at hw
    obtain ⟨s, a1, g1, q1⟩ := someR_of (repeats_none (n := 99) (numL (n : Int)) (by rw [nxt d1]; exact ht)) _ g.go
    refine ⟨s, ?_, g1, q1⟩
    have hk : kAt (pcToks 0 L) k = 2 := kAt_of e0
    unfold itemBy
    rw [g.kind, hk, if_pos rfl, hw]; exact a1
  | .par a, f, d, k, t, R, ho, hf, h0, h8, ht, hd => by
    simp only [Wt.h] at hf h8
    obtain ⟨f, rfl⟩ : ∃ g, f = g + 1 := ⟨f - 1, by omega⟩
    obtain ⟨e0, d1⟩ := drop_tAt (show (pcT L).drop k = sT 40 :: _ from hd)
    obtain ⟨r1, d2⟩ := a.reads f (d + 1) (k + 1) (sT 41) (t :: R) ho (by omega) (by omega) (by omega) ns41 d1
    have k2 : kAt (pcToks 0 L) (k + 1 + a.n) = 34 := (nxt d2).trans s41
    obtain ⟨_, d3⟩ := drop_tAt d2
    have hk : k + (Wt.par a).n = k + 1 + a.n + 1 := by simp only [Wt.n]; omega
    rw [hk]
    refine ⟨item_paren h0 (by omega) ((kAt_of e0).trans s40) (eith_one (n := 99) (row_one (n := 98) r1 (item_end (by rw [k2]; rintro (h | h | h) <;> cases h))) (by rw [k2]; decide)) k2 (repeats_none (n := 99) _ (by rw [nxt d3]; exact ht)), d3⟩
  | .rep c a, f, d, k, t, R, ho, hf, h0, h8, ht, hd => by
    simp only [Wt.h] at hf h8
    obtain ⟨f, rfl⟩ : ∃ g, f = g + 1 := ⟨f - 1, by omega⟩
    obtain ⟨e0, d1⟩ := drop_tAt (show (pcT L).drop k = sT 40 :: _ from hd)
    obtain ⟨r1, d2⟩ := a.reads f (d + 1) (k + 1) (sT 41) (sT c :: t :: R) ho.2 (by omega) (by omega) (by omega) ns41 d1
    have k2 : kAt (pcToks 0 L) (k + 1 + a.n) = 34 := (nxt d2).trans s41
    obtain ⟨_, d3⟩ := drop_tAt d2
    obtain ⟨_, d4⟩ := drop_tAt d3
    have hk : k + (Wt.rep c a).n = k + 1 + a.n + 1 + 1 := by simp only [Wt.n]; omega
    rw [hk]
    refine ⟨item_paren h0 (by omega) ((kAt_of e0).trans s40) (eith_one (n := 99) (row_one (n := 98) r1 (item_end (by rw [k2]; rintro (h | h | h) <;> cases h))) (by rw [k2]; decide)) k2 (repeats_one (n := 98) _ c ho.1 (nxt d3) (by rw [nxt d4]; exact ht)), d4⟩
  | .alt a b, f, d, k, t, R, ho, hf, h0, h8, ht, hd => by
    simp only [Wt.h] at hf h8
    obtain ⟨f, rfl⟩ : ∃ g, f = g + 1 := ⟨f - 1, by omega⟩
    obtain ⟨e0, d1⟩ := drop_tAt (show (pcT L).drop k = sT 40 :: _ from hd)
    obtain ⟨r1, d2⟩ := a.reads f (d + 1) (k + 1) (sT 124) (b.tk (sT 41 :: t :: R)) ho.1 (by omega) (by omega) (by omega) ns124 d1
    have k2 : kAt (pcToks 0 L) (k + 1 + a.n) = 35 := (nxt d2).trans s124
    obtain ⟨_, d3⟩ := drop_tAt d2
    obtain ⟨r2, d4⟩ := b.reads f (d + 1) (k + 1 + a.n + 1) (sT 41) (t :: R) ho.2 (by omega) (by omega) (by omega) ns41 d3
    have k4 : kAt (pcToks 0 L) (k + 1 + a.n + 1 + b.n) = 34 := (nxt d4).trans s41
    obtain ⟨_, d5⟩ := drop_tAt d4
    have hk : k + (Wt.alt a b).n = k + 1 + a.n + 1 + b.n + 1 := by simp only [Wt.n]; omega
    rw [hk]
    refine ⟨item_paren h0 (by omega) ((kAt_of e0).trans s40) (eith_two (n := 98) (row_one (n := 98) r1 (item_end (by rw [k2]; rintro (h | h | h) <;> cases h))) k2 (row_one (n := 98) r2 (item_end (by rw [k4]; rintro (h | h | h) <;> cases h))) (by rw [k4]; decide)) k4 (repeats_none (n := 99) _ (by rw [nxt d5]; exact ht)), d5⟩
  | .cat a b, f, d, k, t, R, ho, hf, h0, h8, ht, hd => by
    simp only [Wt.h] at hf h8
    obtain ⟨f, rfl⟩ : ∃ g, f = g + 1 := ⟨f - 1, by omega⟩
    obtain ⟨e0, d1⟩ := drop_tAt (show (pcT L).drop k = sT 40 :: _ from hd)
    obtain ⟨tb, Rb, hb, bb⟩ := b.head (sT 41 :: t :: R)
    obtain ⟨r1, d2⟩ := a.reads f (d + 1) (k + 1) tb Rb ho.1 (by omega) (by omega) (by omega) (noSign_begins bb) (by rw [← hb]; exact d1)
    obtain ⟨r2, d4⟩ := b.reads f (d + 1) (k + 1 + a.n) (sT 41) (t :: R) ho.2 (by omega) (by omega) (by omega) ns41 (by rw [hb]; exact d2)
    have k4 : kAt (pcToks 0 L) (k + 1 + a.n + b.n) = 34 := (nxt d4).trans s41
    obtain ⟨_, d5⟩ := drop_tAt d4
    have hk : k + (Wt.cat a b).n = k + 1 + a.n + b.n + 1 := by simp only [Wt.n]; omega
    rw [hk]
    refine ⟨item_paren h0 (by omega) ((kAt_of e0).trans s40) (eith_one (n := 99) (row_two (n := 97) r1 r2 (item_end (by rw [k4]; rintro (h | h | h) <;> cases h))) (by rw [k4]; decide)) k4 (repeats_none (n := 99) _ (by rw [nxt d5]; exact ht)), d5⟩
end Go.Proofs.YtgdeeodifnegiaaGreatDoor

namespace Go.Proofs.YtgdeeodifnegiaaGreatDoor
open Go.RowKit

/-- way NAME = ..; as the first of the definitions -/
theorem defW_reads {ts : List TokP} {st : RS} {k k' n f : Nat} {nm : ByteArray} {z a l : Int} {m : WayM} (g : Good ts st 0 k) (hd : st.defs = []) (e0 : kAt ts k = 6) (e1 : tAt ts (k + 1) = (4, nm, z, a, l)) (e2 : kAt ts (k + 2) = 26)
    (hr : Reads2 ts (eithTw ts n f) 0 (k + 3) k' m) (e3 : kAt ts k' = 27) :
    ∃ st', defW ts n f st = some (st', true) ∧ Good ts st' 0 (k' + 1) ∧ st'.defs = [⟨nm, none, some m⟩] := by
  have g1 := g.go
  obtain ⟨tx, _, _, _⟩ := tokR_at g1 e1
  dsimp only at tx
  have hnn : newNameR ts (goR ts st) = (goR ts (goR ts st), nm) := by
    unfold newNameR
    rw [g1.take (kAt_of e1)]
    dsimp only
    have hnd : isDefR (goR ts (goR ts st)) (tokR ts (goR ts st)).text = false := by
      unfold isDefR
      have : (goR ts (goR ts st)).defs = [] := hd
      rw [this]; rfl
    rw [hnd, tx]; rfl
  obtain ⟨s', a1, g2, d2⟩ := hr _ g1.go.go
  refine ⟨addDefR (goR ts s') ⟨nm, none, some m⟩, ?_, ?_, ?_⟩
  · unfold defW
    rw [g.kind, if_pos e0, hnn]
    dsimp only
    rw [g1.go.take e2]
    dsimp only
    rw [a1]
    dsimp only
    rw [g2.take e3]
  · have g3 := g2.go
    exact ⟨g3.next, g3.depth, g3.syn, g3.nam, g3.num, g3.t0, g3.page⟩
  · show s'.defs ++ [_] = _
    rw [d2]
    have : (goR ts (goR ts (goR ts st))).defs = [] := hd
    rw [this]; rfl
/-- path like NAME -/
theorem path_reads {ts : List TokP} {sum : RS → Option (RS × Option AmtM)} {st : RS} {d : Int} {k : Nat} {nm : ByteArray} {z a l : Int} {m : WayM} (g : Good ts st d k) (e0 : kAt ts k = 23) (e1 : kAt ts (k + 1) = 24) (e2 : tAt ts (k + 2) = (4, nm, z, a, l)) (hf : findWay st.defs nm = some m) :
    ∃ st', notW ts sum st = some (st', some (likeM m)) ∧ Good ts st' d (k + 3) ∧ st'.defs = st.defs := by
  have g2 := g.go.go
  obtain ⟨tx, _, _, _⟩ := tokR_at g2 e2
  dsimp only at tx
  have hu : useWayR ts (goR ts (goR ts st)) = (goR ts (goR ts (goR ts st)), some m) := by
    unfold useWayR
    rw [g2.take (kAt_of e2)]
    dsimp only
    rw [tx]
    have : findWay (goR ts (goR ts (goR ts st))).defs nm = some m := hf
    rw [this]
  refine ⟨goR ts (goR ts (goR ts st)), ?_, g2.go, rfl⟩
  unfold notW
  rw [g.kind, if_pos e0, g.go.take e1]
  dsimp only
  rw [hu]; rfl
/-! ## the whole text -/
def wName : Pc := .tk [119] ⟨4, 0, bsA [119], 0, 0, 0⟩
def nameW : TokP := ⟨4, 0, bsA [119], 0, 0, 0⟩
def lkHead : List Pc := [wPc 1, .sp, wName, .sp, sPc 61, .sp]
def lkTail : List Pc := [sPc 59, .sp, wPc 9, .sp, wPc 18, .sp, wPc 19, .sp, wName, .sp, wPc 10, .sp, sPc 123, .sp, wPc 2, sPc 59, .sp, sPc 125]
def lkTailT : List TokP := [sT 59, wT 9, wT 18, wT 19, nameW, wT 10, sT 123, wT 2, sT 59, sT 125, ⟨1, 0, ⟨#[]⟩, 0, 0, 0⟩]
theorem ok_nameW {l : List Pc} (h : pcOk l) (hl : hdLow (pcBytes l)) : pcOk (wName :: l) := ⟨lex_name [119] (by simp) (by decide) (by decide +kernel) (by decide) _ hl, h⟩
theorem lkTail_ok : pcOk lkTail := by
  refine ok_s (by decide +kernel) ?_
  refine ok_w (by decide) ?_ (hd_sp _).1
  refine ok_w (by decide) ?_ (hd_sp _).1
  refine ok_w (by decide) ?_ (hd_sp _).1
  refine ok_nameW ?_ (hd_sp _).1
  refine ok_w (by decide) ?_ (hd_sp _).1
  refine ok_s (by decide +kernel) ?_
  refine ok_w (by decide) (ok_s (by decide +kernel) (ok_s (by decide +kernel) trivial)) (fun b hb => ?_)
  have : b = 59 := by
    rcases Option.some.inj hb with rfl; rfl
  rw [this]; decide
theorem lkTail_hd : hdNum (pcBytes lkTail) := fun b hb => by
  have : b = 59 := by
    rcases Option.some.inj hb with rfl; rfl
  rw [this]; decide
theorem lkHead_ok {l : List Pc} (h : pcOk l) : pcOk (lkHead ++ l) := by
  refine ok_w (by decide) ?_ (hd_sp _).1
  refine ok_nameW ?_ (hd_sp _).1
  exact ok_s (by decide +kernel) h
theorem way_policy {L : List Pc} {K : Nat} {m : WayM} {R0 : List TokP} (d0 : (pcT L).drop 0 = wT 1 :: nameW :: sT 61 :: R0)
    (h1 : Reads2 (pcToks 0 L) (eithTw (pcToks 0 L) 100 20) 0 3 K m) (dK : (pcT L).drop K = lkTailT) :
    ∃ st, policyW (pcToks 0 L) 100 20 (stmW (pcToks 0 L) 3) rs0 = some (st, [chooseM (likeM m) [concludeM 1] []].map some) ∧ Good (pcToks 0 L) st 0 (K + 10) := by
  obtain ⟨a0, d1⟩ := drop_tAt d0
  obtain ⟨a1, d2⟩ := drop_tAt d1
  obtain ⟨a2, d3⟩ := drop_tAt d2
  obtain ⟨b1, f2⟩ := drop_tAt dK
  obtain ⟨b2, f3⟩ := drop_tAt f2
  obtain ⟨b3, f4⟩ := drop_tAt f3
  obtain ⟨b4, f5⟩ := drop_tAt f4
  obtain ⟨b5, f6⟩ := drop_tAt f5
  obtain ⟨b6, f7⟩ := drop_tAt f6
  obtain ⟨b7, f8⟩ := drop_tAt f7
  obtain ⟨b8, f9⟩ := drop_tAt f8
  obtain ⟨b9, f10⟩ := drop_tAt f9
  obtain ⟨b10, f11⟩ := drop_tAt f10
  obtain ⟨b11, _⟩ := drop_tAt f11
  clear d0 d1 d2 d3 dK f2 f3 f4 f5 f6 f7 f8 f9 f10 f11
  generalize pcToks 0 L = ts at *
  have s61 : signK ((61 : UInt8).toNat : Int) = 26 := by decide +kernel
  have s123 : signK ((123 : UInt8).toNat : Int) = 29 := by decide +kernel
  have s125 : signK ((125 : UInt8).toNat : Int) = 30 := by decide +kernel
  have s59 : signK ((59 : UInt8).toNat : Int) = 27 := by decide +kernel
  have t0 : (ts[0]?.getD tok0).text.data.toList ≠ [] := by
    have : (ts[0]?.getD tok0).text = wd 1 := by
      have := congrArg (fun x => x.2.1) a0
      exact this
    rw [this]; decide +kernel
  have g0 : Good ts rs0 0 0 := ⟨rfl, rfl, rfl, rfl, rfl, t0, Or.inl rfl⟩
  obtain ⟨st1, c1, g1, hd1⟩ := defW_reads (n := 100) (f := 20) g0 rfl (kAt_of a0) a1 ((kAt_of a2).trans s61) h1 ((kAt_of b1).trans s59)
  have hk1 : kindR ts st1 = 14 := by rw [g1.kind]; exact kAt_of b2
  have hds : defsW ts 100 20 8 rs0 = some st1 := by
    rw [show (8 : Nat) = 7 + 1 from rfl, defsW, c1]
    dsimp only
    rw [show (7 : Nat) = 6 + 1 from rfl, defsW, defW, hk1, if_neg (by decide), defR, hk1, if_neg (by decide), if_neg (by decide)]
  have hfs : findWay (goR ts st1).defs (bsA [119]) = some m := by
    show findWay st1.defs (bsA [119]) = _
    rw [hd1, findWay, if_pos (by simp [nameW])]
  obtain ⟨s2, c2, g2, _⟩ := path_reads (sum := sumS ts) g1.go (kAt_of b3) (kAt_of b4) b5 hfs
  have hc : cndW ts (goR ts st1) = some (s2, some (likeM m)) := cond_at (ts := ts) c2 (by rw [g2.kind, kAt_of b6]; decide) (by rw [g2.kind, kAt_of b6]; decide)
  have hb : Reads ts (blockBy ts (stmW ts 2) 100) 0 (K + 6) (K + 10) ([concludeM 1].map some) :=
    block_reads (k' := K + 9) ((kAt_of b7).trans s123) (by decide) (by decide) (.cons (stmt_accept' (kAt_of b8) rfl ((kAt_of b9).trans s59)) (.nil (stmt_none' (by rw [kAt_of b10]; show noStmt (signK ((125 : UInt8).toNat : Int)); rw [s125]; decide) rfl))) (by decide) ((kAt_of b10).trans s125)
  obtain ⟨s3, c3', g3⟩ := hb _ g2.go
  have c3 : blockBy ts (stmtTw ts 100 okP (sumS ts) (cndW ts) 2) 100 (goR ts s2) = some (s3, [concludeM 1].map some) := c3'
  have hst : stmW ts 3 st1 = some (s3, some (some (chooseM (likeM m) [concludeM 1] []))) := by
    unfold stmW
    rw [stmtTw, hk1, if_neg (by decide), if_pos rfl, hc]
    dsimp only
    rw [show takeR ts 15 s2 = (goR ts s2, tokR ts s2) from g2.take (kAt_of b6)]
    dsimp only
    rw [c3]
    dsimp only
    rw [g3.kind, kAt_of b11, if_neg (by decide), chooseO, allO_map]; rfl
  have hno : stmW ts 3 s3 = some (s3, none) := by
    obtain ⟨s4, c4, _⟩ := stmt_none' (ts := ts) (n := 100) (f := 2) (ok := okP) (sum := sumS ts) (cnd := cndW ts) (d := 0) (k := K + 10) (by rw [kAt_of b11]; decide) rfl s3 g3
    have := c4
    unfold stmW
    rw [stmtTw, g3.kind, kAt_of b11, if_neg (by decide), if_neg (by decide), if_neg (by decide), if_neg (by decide), if_neg (by decide), if_neg (by decide), if_neg (by decide), if_neg (by decide), if_neg (by decide)]
  refine ⟨s3, ?_, g3⟩
  unfold policyW
  rw [hds]
  dsimp only
  unfold policyTw
  rw [show (100 : Nat) = 98 + 1 + 1 from rfl, moreLp, hst]
  dsimp only
  rw [moreLp, hno]
  dsimp only
  have hlen : ¬ ([] ++ [some (chooseM (likeM m) [concludeM 1] [])] : List (Option StpM)).length = 0 := by simp
  rw [if_neg hlen, g3.kind, kAt_of b11, if_pos rfl]
  rfl
/-! ## what stands behind the sign = -/
inductive Top where
  | one (a : Wt)
  | either (a b : Wt)
  | two (a b : Wt)
def Top.pc : Top → List Pc → List Pc
  | .one a, R => a.pc R
  | .either a b, R => a.pc (.sp :: sPc 124 :: .sp :: b.pc R)
  | .two a b, R => a.pc (.sp :: b.pc R)
def Top.L : Top → WayM
  | .one a => a.L
  | .either a b => orL a.L b.L
  | .two a b => catL a.L b.L
def Top.n : Top → Nat
  | .one a => a.n
  | .either a b => a.n + b.n + 1
  | .two a b => a.n + b.n
def Top.ok : Top → Prop
  | .one a => a.ok ∧ a.h ≤ 3
  | .either a b => (a.ok ∧ a.h ≤ 3) ∧ (b.ok ∧ b.h ≤ 3)
  | .two a b => (a.ok ∧ a.h ≤ 3) ∧ (b.ok ∧ b.h ≤ 3)
theorem Top.reads {L : List Pc} (q : Top) (k : Nat) (R : List Pc) (t : TokP) (RT : List TokP) (ho : q.ok) (hR : pcT R = t :: RT) (ht : t.kind = 27) (hd : (pcT L).drop k = pcT (q.pc R)) :
    Reads2 (pcToks 0 L) (eithTw (pcToks 0 L) 100 20) 0 k (k + q.n) q.L ∧ (pcT L).drop (k + q.n) = t :: RT := by
  have hns : noSign t.kind := by rw [ht]; exact ⟨by decide, by decide, by decide⟩
  have hnb : ¬ begins t.kind := by rw [ht]; rintro (h | h | h) <;> cases h
  have h35 : t.kind ≠ 35 := by rw [ht]; decide
  have he : eithTw (pcToks 0 L) 100 20 = eithBy (pcToks 0 L) 100 (rowBy (pcToks 0 L) 100 (itemBy (pcToks 0 L) 100 (eithTw (pcToks 0 L) 100 19))) := by
    funext st; rfl
  rw [he]
  cases q with
  | one a =>
    have hd' : (pcT L).drop k = a.tk (t :: RT) := by rw [hd]; show pcT (a.pc R) = _; rw [a.pc_T, hR]
    obtain ⟨r1, d1⟩ := a.reads 19 0 k t RT ho.1 (by have := ho.2; omega) (by omega) (by have := ho.2; omega) hns hd'
    have hk : k + (Top.one a).n = k + a.n := rfl
    rw [hk]
    exact ⟨eith_one (n := 99) (row_one (n := 98) r1 (item_end (by rw [nxt d1]; exact hnb))) (by rw [nxt d1]; exact h35), d1⟩
  | either a b =>
    have hd' : (pcT L).drop k = a.tk (sT 124 :: b.tk (t :: RT)) := by
      rw [hd]
      show pcT (a.pc (.sp :: sPc 124 :: .sp :: b.pc R)) = _
      rw [a.pc_T]
      show a.tk (sT 124 :: pcT (b.pc R)) = _
      rw [b.pc_T, hR]
    obtain ⟨r1, d1⟩ := a.reads 19 0 k (sT 124) (b.tk (t :: RT)) ho.1.1 (by have := ho.1.2; omega) (by omega) (by have := ho.1.2; omega) ns124 hd'
    have k1 : kAt (pcToks 0 L) (k + a.n) = 35 := (nxt d1).trans s124
    obtain ⟨_, d2⟩ := drop_tAt d1
    obtain ⟨r2, d3⟩ := b.reads 19 0 (k + a.n + 1) t RT ho.2.1 (by have := ho.2.2; omega) (by omega) (by have := ho.2.2; omega) hns d2
    have hk : k + (Top.either a b).n = k + a.n + 1 + b.n := by simp only [Top.n]; omega
    rw [hk]
    exact ⟨eith_two (n := 98) (row_one (n := 98) r1 (item_end (by rw [k1]; rintro (h | h | h) <;> cases h))) k1 (row_one (n := 98) r2 (item_end (by rw [nxt d3]; exact hnb))) (by rw [nxt d3]; exact h35), d3⟩
  | two a b =>
    have hd' : (pcT L).drop k = a.tk (b.tk (t :: RT)) := by
      rw [hd]
      show pcT (a.pc (.sp :: b.pc R)) = _
      rw [a.pc_T]
      show a.tk (pcT (b.pc R)) = _
      rw [b.pc_T, hR]
    obtain ⟨tb, Rb, hb, bb⟩ := b.head (t :: RT)
    obtain ⟨r1, d1⟩ := a.reads 19 0 k tb Rb ho.1.1 (by have := ho.1.2; omega) (by omega) (by have := ho.1.2; omega) (noSign_begins bb) (by rw [← hb]; exact hd')
    obtain ⟨r2, d3⟩ := b.reads 19 0 (k + a.n) t RT ho.2.1 (by have := ho.2.2; omega) (by omega) (by have := ho.2.2; omega) hns (by rw [hb]; exact d1)
    have hk : k + (Top.two a b).n = k + a.n + b.n := by simp only [Top.n]; omega
    rw [hk]
    exact ⟨eith_one (n := 99) (row_two (n := 97) r1 r2 (item_end (by rw [nxt d3]; exact hnb))) (by rw [nxt d3]; exact h35), d3⟩
theorem Wt.hd : ∀ (a : Wt) (R : List Pc), pcBytes (a.pc R) = pcBytes (a.pc []) ++ pcBytes R
  | .dot, R => rfl
  | .num n, R => by show Lib.decDigits n ++ pcBytes R = (Lib.decDigits n ++ []) ++ pcBytes R; simp
  | .par a, R => by
    show 40 :: 32 :: pcBytes (a.pc _) = (40 :: 32 :: pcBytes (a.pc _)) ++ _
    rw [a.hd, a.hd [.sp, sPc 41]]
    simp [pcBytes, sPc]
  | .rep c a, R => by
    show 40 :: 32 :: pcBytes (a.pc _) = (40 :: 32 :: pcBytes (a.pc _)) ++ _
    rw [a.hd, a.hd [.sp, sPc 41, .sp, sPc c]]
    simp [pcBytes, sPc]
  | .alt a b, R => by
    show 40 :: 32 :: pcBytes (a.pc _) = (40 :: 32 :: pcBytes (a.pc _)) ++ _
    rw [a.hd, a.hd (.sp :: sPc 124 :: .sp :: b.pc [.sp, sPc 41])]
    simp only [pcBytes, sPc]
    rw [b.hd, b.hd [.sp, .tk [41] _]]
    simp [pcBytes]
  | .cat a b, R => by
    show 40 :: 32 :: pcBytes (a.pc _) = (40 :: 32 :: pcBytes (a.pc _)) ++ _
    rw [a.hd, a.hd (.sp :: b.pc [.sp, sPc 41])]
    simp only [pcBytes, sPc]
    rw [b.hd, b.hd [.sp, .tk [41] _]]
    simp [pcBytes]
/-- a way's bytes -/
def Wt.bs (a : Wt) : List UInt8 := pcBytes (a.pc [])
theorem Wt.bs_par (a : Wt) : (Wt.par a).bs = [40, 32] ++ a.bs ++ [32, 41] := by
  show 40 :: 32 :: pcBytes (a.pc [.sp, sPc 41]) = _
  rw [a.hd]
  simp [pcBytes, sPc, Wt.bs]
theorem Wt.bs_rep (c : UInt8) (a : Wt) : (Wt.rep c a).bs = [40, 32] ++ a.bs ++ [32, 41, 32, c] := by
  show 40 :: 32 :: pcBytes (a.pc [.sp, sPc 41, .sp, sPc c]) = _
  rw [a.hd]
  simp [pcBytes, sPc, Wt.bs]
theorem Wt.bs_alt (a b : Wt) : (Wt.alt a b).bs = [40, 32] ++ a.bs ++ [32, 124, 32] ++ b.bs ++ [32, 41] := by
  show 40 :: 32 :: pcBytes (a.pc (.sp :: sPc 124 :: .sp :: b.pc [.sp, sPc 41])) = _
  rw [a.hd]
  simp only [pcBytes, sPc]
  rw [b.hd]
  simp [pcBytes, Wt.bs]
theorem Wt.bs_cat (a b : Wt) : (Wt.cat a b).bs = [40, 32] ++ a.bs ++ [32] ++ b.bs ++ [32, 41] := by
  show 40 :: 32 :: pcBytes (a.pc (.sp :: b.pc [.sp, sPc 41])) = _
  rw [a.hd]
  simp only [pcBytes, sPc]
  rw [b.hd]
  simp [pcBytes, Wt.bs]
theorem Wt.bs_len : ∀ (a : Wt), a.ok → a.bs.length + 7 ≤ 17 * 2 ^ a.h
  | .dot, _ => by show 1 + 7 ≤ 17 * 1; omega
  | .num n, ho => by
    have := dec_len (u := n) (by have := ho.2; omega)
    show (Lib.decDigits n ++ []).length + 7 ≤ 17 * 1
    rw [List.append_nil]; omega
  | .par a, ho => by
    have := a.bs_len ho
    rw [Wt.bs_par]
    simp only [List.length_append, List.length_cons, List.length_nil, Wt.h, Nat.pow_succ]
    omega
  | .rep c a, ho => by
    have := a.bs_len ho.2
    rw [Wt.bs_rep]
    simp only [List.length_append, List.length_cons, List.length_nil, Wt.h, Nat.pow_succ]
    omega
  | .alt a b, ho => by
    have h1 := a.bs_len ho.1
    have h2 := b.bs_len ho.2
    have h3 : 2 ^ a.h ≤ 2 ^ (max a.h b.h) := Nat.pow_le_pow_right (by decide) (Nat.le_max_left _ _)
    have h4 : 2 ^ b.h ≤ 2 ^ (max a.h b.h) := Nat.pow_le_pow_right (by decide) (Nat.le_max_right _ _)
    rw [Wt.bs_alt]
    simp only [List.length_append, List.length_cons, List.length_nil, Wt.h, Nat.pow_succ]
    omega
  | .cat a b, ho => by
    have h1 := a.bs_len ho.1
    have h2 := b.bs_len ho.2
    have h3 : 2 ^ a.h ≤ 2 ^ (max a.h b.h) := Nat.pow_le_pow_right (by decide) (Nat.le_max_left _ _)
    have h4 : 2 ^ b.h ≤ 2 ^ (max a.h b.h) := Nat.pow_le_pow_right (by decide) (Nat.le_max_right _ _)
    rw [Wt.bs_cat]
    simp only [List.length_append, List.length_cons, List.length_nil, Wt.h, Nat.pow_succ]
    omega
theorem Wt.bs_lt {a : Wt} (ho : a.ok) (h : a.h ≤ 3) : a.bs.length ≤ 129 := by
  have h1 := a.bs_len ho
  have h2 : 2 ^ a.h ≤ 2 ^ 3 := Nat.pow_le_pow_right (by decide) h
  omega
def Top.bs (q : Top) : List UInt8 := pcBytes (q.pc [])
theorem Top.hd (q : Top) (R : List Pc) : pcBytes (q.pc R) = q.bs ++ pcBytes R := by
  cases q with
  | one a => exact a.hd R
  | either a b =>
    show pcBytes (a.pc (.sp :: sPc 124 :: .sp :: b.pc R)) = pcBytes (a.pc (.sp :: sPc 124 :: .sp :: b.pc [])) ++ _
    rw [a.hd, a.hd (.sp :: sPc 124 :: .sp :: b.pc [])]
    simp only [pcBytes, sPc]
    rw [b.hd]
    simp
  | two a b =>
    show pcBytes (a.pc (.sp :: b.pc R)) = pcBytes (a.pc (.sp :: b.pc [])) ++ _
    rw [a.hd, a.hd (.sp :: b.pc [])]
    simp only [pcBytes]
    rw [b.hd]
    simp
theorem Top.bs_either (a b : Wt) : (Top.either a b).bs = a.bs ++ [32, 124, 32] ++ b.bs := by
  show pcBytes (a.pc (.sp :: sPc 124 :: .sp :: b.pc [])) = _
  rw [a.hd]
  simp [pcBytes, sPc, Wt.bs]
theorem Top.bs_two (a b : Wt) : (Top.two a b).bs = a.bs ++ [32] ++ b.bs := by
  show pcBytes (a.pc (.sp :: b.pc [])) = _
  rw [a.hd]
  simp [pcBytes, Wt.bs]
theorem Top.bs_lt {q : Top} (ho : q.ok) : q.bs.length ≤ 270 := by
  cases q with
  | one a =>
    have := Wt.bs_lt ho.1 ho.2
    show a.bs.length ≤ 270
    omega
  | either a b =>
    have h1 := Wt.bs_lt ho.1.1 ho.1.2
    have h2 := Wt.bs_lt ho.2.1 ho.2.2
    rw [Top.bs_either]
    simp only [List.length_append, List.length_cons, List.length_nil]
    omega
  | two a b =>
    have h1 := Wt.bs_lt ho.1.1 ho.1.2
    have h2 := Wt.bs_lt ho.2.1 ho.2.2
    rw [Top.bs_two]
    simp only [List.length_append, List.length_cons, List.length_nil]
    omega
theorem Top.pc_ok {q : Top} (ho : q.ok) {R : List Pc} (h : pcOk R) (hn : hdNum (pcBytes R)) : pcOk (q.pc R) := by
  cases q with
  | one a => exact a.pc_ok R ho.1 h hn
  | either a b => exact a.pc_ok _ ho.1.1 (ok_s (by rw [s124]; decide) (b.pc_ok R ho.2.1 h hn)) (hd_sp _).2
  | two a b => exact a.pc_ok _ ho.1.1 (b.pc_ok R ho.2.1 h hn) (hd_sp _).2
def likeB (b : List UInt8) : List UInt8 := [119, 97, 121, 32, 119, 32, 61, 32] ++ b ++ [59, 32, 105, 102, 32, 112, 97, 116, 104, 32, 108, 105, 107, 101, 32, 119, 32, 116, 104, 101, 110, 32, 123, 32, 97, 99, 99, 101, 112, 116, 59, 32, 125]
theorem like_bytes (q : Top) : pcBytes (lkHead ++ q.pc lkTail) = likeB q.bs := by
  rw [pcBytes_append, q.hd]
  have h1 : pcBytes lkHead = [119, 97, 121, 32, 119, 32, 61, 32] := by decide +kernel
  have h2 : pcBytes lkTail = [59, 32, 105, 102, 32, 112, 97, 116, 104, 32, 108, 105, 107, 101, 32, 119, 32, 116, 104, 101, 110, 32, 123, 32, 97, 99, 99, 101, 112, 116, 59, 32, 125] := by decide +kernel
  rw [h1, h2, likeB, List.append_assoc]
noncomputable def likeMs (L : WayM) : List StpM := [chooseM (likeM L) [concludeM 1] []]
theorem like_read (q : Top) (ho : q.ok) : ReadOk (bsA (likeB q.bs)) (likeMs q.L) := by
  have hT : (pcT (lkHead ++ q.pc lkTail)).drop 0 = wT 1 :: nameW :: sT 61 :: pcT (q.pc lkTail) := rfl
  have d3 : (pcT (lkHead ++ q.pc lkTail)).drop 3 = pcT (q.pc lkTail) := rfl
  obtain ⟨r1, dK⟩ := q.reads 3 lkTail (sT 59) [wT 9, wT 18, wT 19, nameW, wT 10, sT 123, wT 2, sT 59, sT 125, ⟨1, 0, ⟨#[]⟩, 0, 0, 0⟩] ho rfl (by show signK ((59 : UInt8).toNat : Int) = 27; decide +kernel) d3
  obtain ⟨st, hp, g⟩ := way_policy hT r1 dK
  have hb := like_bytes q
  have hl := Top.bs_lt ho
  have hlen : (likeB q.bs).length ≤ 600 := by
    unfold likeB
    simp only [List.length_append, List.length_cons, List.length_nil]
    omega
  rw [← hb] at hlen ⊢
  exact readW_of (pcs_all (lkHead_ok (q.pc_ok ho lkTail_ok lkTail_hd))) (by rw [bsA_size]; exact hlen) hp g.syn g.nam g.num (g.page.resolve_left (by omega))
end Go.Proofs.YtgdeeodifnegiaaGreatDoor
