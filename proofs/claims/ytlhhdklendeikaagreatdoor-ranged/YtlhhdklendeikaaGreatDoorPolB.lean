/- A policy with definitions of sets is read: conditions 'net in', the tokens' nets, Read. -/
import Derived.Test.YtlhhdklendeikaaGreatDoorPolA
import Derived.Test.YtlhhdklendeikaaGreatDoorKnA
namespace Go.Proofs.YtlhhdklendeikaaGreatDoor
open Go.RowKit

/-- a comparison, or 'net in' -/
def notN (ts : List TokP) (sum : RS → Option (RS × Option AmtM)) (st : RS) : Option (RS × Option CndM) :=
  if kindR ts st = 21 then some ((useSetR ts (takeR ts 22 (goR ts st)).1).1, (useSetR ts (takeR ts 22 (goR ts st)).1).2.map netInM) else notC ts sum st
set_option maxRecDepth 100000 in
set_option maxHeartbeats 2000000 in
theorem not_net {pb : Nat} {ts : List TokP} (ht : TsOk ts) {sum : RS → Option (RS × Option AmtM)} (IH : SumSaid pb ts sum) : CndSaid 153 pb ts (notN ts sum) := by
  intro w st D O r h hk hr
  unfold notN at hr
  by_cases hc : kindR ts st = 21
  · rw [if_pos hc] at hr
    obtain rfl := Option.some.inj hr
    have HTS := hide (fun W (hW : RA W pb ts st D O) => test_net ht hW hk hc)
    have HR := hide h
    have HF := hide (Fr.refl O w)
    have HK := hide hk
    have HT := hide ht
    have b20 : (kindR ts st != 20) = true := by rw [hc]; decide
    clear h hk ht hr hc IH
    go_enter Tryz.func153, Tryz.ntmps153
    go_wp2_with (go_at_call 53; refine (kind_is (unhide HR) (unhide HK) (unhide HT) rfl).mono ?_; rintro e w1 ⟨rfl, hr1, hf1⟩; replace HR := hide hr1; replace HF := hide ((unhide HF).trans hf1); clear hr1 hf1)
    refine ((unhide HTS) _ (unhide HR)).mono ?_
    rintro e w2 ⟨v, O2, rfl, hr2, hf2, hv2, hk2⟩
    have HV := hide (hv2.fr (Fr.refl _ _) (unhide HF).size)
    have HK2 := hide hk2
    replace HR := hide hr2
    replace HF := hide ((unhide HF).trans hf2)
    clear hr2 hf2 hv2 hk2
    go_wp2_with fail
    go_ret
    exact ⟨_, _, rfl, unhide HR, unhide HF, unhide HV, unhide HK2⟩
  · rw [if_neg hc] at hr
    exact not_cmp ht IH w st D O r h hk hr
/-! ## the tokens' nets -/
theorem prefV_len (t : ByteArray) : 0 ≤ (prefV t).2 ∧ (prefV t).2 ≤ 32 := by
  unfold prefV
  cases h : prefS t with
  | none => exact ⟨Int.le_refl _, by decide⟩
  | some p =>
    unfold prefS at h
    split at h
    · split at h
      · cases h
      · split at h
        · rename_i hb
          cases h
          have h2 : netOk (_, numV (behS t) 32) := of_decide_eq_true hb.2
          exact h2.2.1
        · cases h
    · cases h
theorem digitsP_len (t : ByteArray) : 0 ≤ (digitsP t).len ∧ (digitsP t).len ≤ 32 := by
  cases h : numIs t 4294967295 with
  | true => rw [digitsP, if_pos h]; exact (by decide : (0 : Int) ≤ 0 ∧ (0 : Int) ≤ 32)
  | false =>
    rw [digitsP, if_neg (by rw [h]; decide)]
    cases h2 : (prefS t).isSome with
    | true => rw [if_pos rfl]; exact prefV_len t
    | false => rw [if_neg (by decide)]; exact (by decide : (0 : Int) ≤ 0 ∧ (0 : Int) ≤ 32)
theorem firstP_len (s : ByteArray) : 0 ≤ (firstP s).len ∧ (firstP s).len ≤ 32 := by
  cases h : lowB (bt s 0) with
  | true => rw [firstP, if_pos h]; exact (by decide : (0 : Int) ≤ 0 ∧ (0 : Int) ≤ 32)
  | false =>
    rw [firstP, if_neg (by rw [h]; decide)]
    cases h2 : digB (bt s 0) with
    | true => rw [if_pos rfl]; exact digitsP_len _
    | false => rw [if_neg (by decide)]; exact (by decide : (0 : Int) ≤ 0 ∧ (0 : Int) ≤ 32)
theorem allGo_len (s : ByteArray) : ∀ f k, LenOk (allGo s f k)
  | 0, _, t, h => by cases h
  | f + 1, k, t, h => by
    rw [allGo] at h
    split at h
    · split at h
      · exact allGo_len s f _ t h
      · split at h
        · rw [List.mem_singleton.1 h]; exact firstP_len _
        · rcases List.mem_cons.1 h with rfl | h
          · exact firstP_len _
          · exact allGo_len s f _ t h
    · rw [List.mem_singleton.1 h]; exact ⟨Int.le_refl _, by show (0 : Int) ≤ 32; decide⟩
theorem allP_len (s : ByteArray) : LenOk (allP s) := allGo_len s _ _
/-! ## Read -/
abbrev cndN (ts : List TokP) : RS → Option (RS × Option CndM) := condBy ts (notN ts (sumS ts)) 100
abbrev stmN (ts : List TokP) (f : Nat) : RS → Option (RS × Option (Option StpM)) := stmtTw ts 100 okP (sumS ts) (cndN ts) f
theorem readD_of {s : ByteArray} {ts : List TokP} (hts : allP s = ts) (hs : s.size ≤ 600) {ms : List StpM} {f : Nat} {st : RS} (hp : policyD ts 100 (stmN ts f) rs0 = some (st, ms.map some)) (f1 : st.syn = none) (f2 : st.nam = none) (f3 : st.num = none) (hpage : st.page ≠ []) : ReadOk s ms := by
  intro w ht
  subst hts
  obtain ⟨h1, h2⟩ := allP_ok hs
  have IS : ∀ pb, SumSaid pb (allP s) (sumS (allP s)) := fun pb => sumTw_said h1 100 20
  have IH : ∀ pb, StmtSaid pb (allP s) (stmN (allP s) f) := fun pb =>
    stmt_said h1 100 (by decide) okP (fun _ => putMark_said) (fun _ => dropMark_said) (fun _ => prepend_said) (IS pb) (cond_said h1 (not_net h1 (IS pb)) 100) f
  exact read_gen s hs w ht h1 h2 (fun pb W O h hk => policyD_said h1 (allP_len s) (IH pb) 100 (by decide) h hk rfl hp) f1 f2 f3 (allO_map ms) hpage
end Go.Proofs.YtlhhdklendeikaaGreatDoor

namespace Go.Proofs.YtlhhdklendeikaaGreatDoor
open Go.RowKit

theorem index_hit (c : UInt8) (y : List UInt8) : ∀ (x : List UInt8), c ∉ x → Lib.index (x ++ c :: y) [c] = (x.length : Int)
  | [], _ => by simp [Lib.index, List.isPrefixOf]
  | b :: x, h => by
    have hb : c ≠ b := fun e => h (by rw [e]; exact List.mem_cons_self)
    have ih := index_hit c y x (fun e => h (List.mem_cons_of_mem _ e))
    rw [List.cons_append, Lib.index, if_neg (by simp [List.isPrefixOf, hb]), ih, if_neg (by simp <;> omega)]
    simp
theorem index_miss (c : UInt8) : ∀ (x : List UInt8), c ∉ x → Lib.index x [c] = -1
  | [], _ => by simp [Lib.index]
  | b :: x, h => by
    have hb : c ≠ b := fun e => h (by rw [e]; exact List.mem_cons_self)
    have ih := index_miss c x (fun e => h (List.mem_cons_of_mem _ e))
    rw [Lib.index, if_neg (by simp [List.isPrefixOf, hb]), ih]; rfl
theorem cut_hit (c : UInt8) (x y : List UInt8) (h : c ∉ x) : Lib.cut (x ++ c :: y) [c] = (x, y, true) := by
  have hi := index_hit c y x h
  unfold Lib.cut
  rw [hi, if_pos (by omega), Int.toNat_natCast, List.take_left, show x.length + [c].length = x.length + 1 from rfl, ← List.drop_drop, List.drop_left]; rfl
theorem splitK_hit (c : UInt8) (x y : List UInt8) (h : c ∉ x) (k : Nat) : Lib.splitK [c] 0 (k + 1) (x ++ c :: y) = x :: Lib.splitK [c] 0 k y := by
  have hi := index_hit c y x h
  rw [Lib.splitK, hi, if_neg (by simp <;> omega), Int.toNat_natCast, Nat.add_zero, List.take_left, show x.length + [c].length = x.length + 1 from rfl, ← List.drop_drop, List.drop_left]; rfl
theorem splitK_miss (c : UInt8) (x : List UInt8) (h : c ∉ x) (k : Nat) : Lib.splitK [c] 0 k x = [x] := by
  cases k with
  | zero => rfl
  | succ k => rw [Lib.splitK, index_miss c x h]; rfl
theorem data_inj : ∀ {a b : List ByteArray}, a.map (·.data.toList) = b.map (·.data.toList) → a = b
  | [], [], _ => rfl
  | [], _ :: _, h => by cases h
  | _ :: _, [], h => by cases h
  | x :: a, y :: b, h => by
    simp only [List.map_cons, List.cons.injEq] at h
    rw [data_inj h.2]
    obtain ⟨dx⟩ := x
    obtain ⟨dy⟩ := y
    have : dx = dy := by
      have := congrArg List.toArray h.1
      simpa using this
    rw [this]
/-- the four numbers of an address -/
structure Quad where
  a : Nat
  b : Nat
  c : Nat
  d : Nat
def Quad.ok (q : Quad) : Prop := q.a ≤ 255 ∧ q.b ≤ 255 ∧ q.c ≤ 255 ∧ q.d ≤ 255
def Quad.addr (q : Quad) : Int := (((q.a : Int) * 256 + q.b) * 256 + q.c) * 256 + q.d
def befB (q : Quad) : List UInt8 := Lib.decDigits q.a ++ 46 :: (Lib.decDigits q.b ++ 46 :: (Lib.decDigits q.c ++ 46 :: Lib.decDigits q.d))
def pfxB (q : Quad) (l : Nat) : List UInt8 := befB q ++ 47 :: Lib.decDigits l
theorem dec_dig (u : Nat) : ∀ b ∈ Lib.decDigits u, digB (b.toNat : Int) = true := (dec_all u).2.1
theorem dec_not (u : Nat) {c : UInt8} (h : digB (c.toNat : Int) = false) : c ∉ Lib.decDigits u := fun hm => by rw [dec_dig u c hm] at h; cases h
theorem numP_small {u : Nat} {m : Int} (h : (u : Int) ≤ m) (hm : m ≤ 4294967295) : numP (bsA (Lib.decDigits u)) m = (u : Int) := by
  have h0 := dec_num (u := u) (by omega)
  unfold numP at h0 ⊢
  split at h0
  · omega
  · rename_i hc
    rw [if_neg hc]
    split at h0
    · rename_i hd
      rw [if_pos hd]
      split at h0
      · omega
      · rw [if_neg (by omega)]; exact h0
    · omega
theorem num_small {u : Nat} {m : Int} (h : (u : Int) ≤ m) (hm : m ≤ 4294967295) : numIs (bsA (Lib.decDigits u)) m = true ∧ numV (bsA (Lib.decDigits u)) m = (u : Int) := by
  have h1 := numIs_yes (numP_small h hm) (by omega)
  exact ⟨h1.2, h1.1⟩
theorem bef_pfx (q : Quad) (l : Nat) : befS (bsA (pfxB q l)) = bsA (befB q) ∧ behS (bsA (pfxB q l)) = bsA (Lib.decDigits l) := by
  have hn : (47 : UInt8) ∉ befB q := by
    have h47 : digB ((47 : UInt8).toNat : Int) = false := by decide
    unfold befB
    simp only [List.mem_append, List.mem_cons, not_or]
    exact ⟨dec_not _ h47, by decide, dec_not _ h47, by decide, dec_not _ h47, by decide, dec_not _ h47⟩
  have hc : Lib.cut (bsA (pfxB q l)).data.toList [47] = (befB q, Lib.decDigits l, true) := cut_hit 47 (befB q) (Lib.decDigits l) hn
  unfold befS behS
  rw [hc]
  exact ⟨rfl, rfl⟩
theorem parts_pfx (q : Quad) (l : Nat) : partsS (bsA (pfxB q l)) = [bsA (Lib.decDigits q.a), bsA (Lib.decDigits q.b), bsA (Lib.decDigits q.c), bsA (Lib.decDigits q.d)] := by
  have h46 : digB ((46 : UInt8).toNat : Int) = false := by decide
  unfold partsS
  rw [(bef_pfx q l).1]
  refine data_inj ?_
  have hcn : Lib.countB (bsA (befB q)) dotB = 3 := by
    show Lib.count (befB q) [46] = 3
    have hz : ∀ u, (Lib.decDigits u).count 46 = 0 := fun u => List.count_eq_zero.2 (dec_not u h46)
    rw [Lib.count_one]
    unfold befB
    simp [List.count_append, hz]
  rw [hcn, Lib.splitB_data]
  show Lib.splitK [46] 0 3 (befB q) = _
  unfold befB
  rw [splitK_hit 46 _ _ (dec_not _ h46), splitK_hit 46 _ _ (dec_not _ h46), splitK_hit 46 _ _ (dec_not _ h46), splitK_miss 46 _ (dec_not _ h46)]
  rfl
theorem pref_pfx (q : Quad) (l : Nat) (hq : q.ok) (hl : l ≤ 32) (hn : netOk (q.addr, (l : Int))) : prefS (bsA (pfxB q l)) = some (q.addr, (l : Int)) := by
  obtain ⟨h1, h2, h3, h4⟩ := hq
  obtain ⟨a1, a2⟩ := num_small (u := q.a) (m := 255) (by omega) (by decide)
  obtain ⟨b1, b2⟩ := num_small (u := q.b) (m := 255) (by omega) (by decide)
  obtain ⟨c1, c2⟩ := num_small (u := q.c) (m := 255) (by omega) (by decide)
  obtain ⟨d1, d2⟩ := num_small (u := q.d) (m := 255) (by omega) (by decide)
  obtain ⟨l1, l2⟩ := num_small (u := l) (m := 32) (by omega) (by decide)
  have hb : netOkB (q.addr, (l : Int)) = true := decide_eq_true hn
  unfold prefS
  rw [parts_pfx, (bef_pfx q l).2, if_pos (show [bsA (Lib.decDigits q.a), bsA (Lib.decDigits q.b), bsA (Lib.decDigits q.c), bsA (Lib.decDigits q.d)].length = 4 from rfl)]
  simp only [addrS, a1, b1, c1, d1, if_true, a2, b2, c2, d2, l1, l2, Int.zero_mul, Int.zero_add]
  rw [if_pos ⟨trivial, hb⟩]
  rfl
/-! ## the token -/
theorem pfx_len (q : Quad) (l : Nat) (hq : q.ok) (hl : l ≤ 32) : (pfxB q l).length ≤ 54 := by
  obtain ⟨h1, h2, h3, h4⟩ := hq
  have a := dec_len (u := q.a) (by omega)
  have b := dec_len (u := q.b) (by omega)
  have c := dec_len (u := q.c) (by omega)
  have d := dec_len (u := q.d) (by omega)
  have e := dec_len (u := l) (by omega)
  unfold pfxB befB
  simp only [List.length_append, List.length_cons]
  omega
theorem lex_pfx (q : Quad) (l : Nat) (hq : q.ok) (hl : l ≤ 32) (hn : netOk (q.addr, (l : Int))) (rest : List UInt8) (hr : ∀ b, rest.head? = some b → numeB (b.toNat : Int) = false) :
    LexAt (pfxB q l) ⟨3, 0, bsA (pfxB q l), 0, q.addr, (l : Int)⟩ rest := by
  have hnum : ∀ x ∈ pfxB q l, numeB (x.toNat : Int) = true := fun x hx => by
    have hd : ∀ u, x ∈ Lib.decDigits u → numeB (x.toNat : Int) = true := fun u h => by unfold numeB; rw [dec_dig u x h]; rfl
    unfold pfxB befB at hx
    simp only [List.mem_append, List.mem_cons] at hx
    rcases hx with (h | h | h | h | h | h | h) | h | h
    · exact hd _ h
    · rw [h]; decide
    · exact hd _ h
    · rw [h]; decide
    · exact hd _ h
    · rw [h]; decide
    · exact hd _ h
    · rw [h]; decide
    · exact hd _ h
  have hsc : scanTo numeB (bsA (pfxB q l ++ rest)) 0 = (pfxB q l).length := scan_pre hnum hr _ 0 (Nat.zero_add _)
  obtain ⟨c, r, hc⟩ : ∃ c r, Lib.decDigits q.a = c :: r := by
    cases h : Lib.decDigits q.a with
    | nil => exact absurd h (dec_all q.a).1
    | cons c r => exact ⟨c, r, rfl⟩
  have hcd : digB (c.toNat : Int) = true := dec_dig q.a c (by rw [hc]; exact List.mem_cons_self)
  have hP : ∃ t, pfxB q l = c :: t := ⟨_, by unfold pfxB befB; rw [hc]; rfl⟩
  obtain ⟨t, hP⟩ := hP
  have hb0 : bt (bsA (pfxB q l ++ rest)) 0 = (c.toNat : Int) := by rw [hP, List.cons_append]; exact bt_cons c _
  have hdd := (digB_iff _).1 hcd
  have hlo : lowB (bt (bsA (pfxB q l ++ rest)) 0) = false := by rw [hb0]; unfold lowB; rw [decide_eq_false (by omega)]; rfl
  have hni : numIs (bsA (pfxB q l)) 4294967295 = false := by
    have hk : (Lib.decDigits q.a).length < (bsA (pfxB q l)).size := by rw [bsA_size]; unfold pfxB befB; simp
    have hbt : bt (bsA (pfxB q l)) (Lib.decDigits q.a).length = ((46 : UInt8).toNat : Int) := by
      refine bt_bsA ?_
      unfold pfxB befB
      rw [List.append_assoc, List.getElem?_append_right (Nat.le_refl _), Nat.sub_self]; rfl
    exact (numIs_no (numP_bad hk (by rw [hbt]; decide))).2
  have hpf := pref_pfx q l hq hl hn
  refine ⟨by rw [hP]; simp, fun x hx => ?_, ?_, by show (3 : Int) ≠ 0; decide, by show (bsA (pfxB q l)).size = _; rw [bsA_size]⟩
  · rw [hP] at hx
    simp at hx; subst hx
    unfold blankB; simp; omega
  · rw [firstP, if_neg (by rw [hlo]; decide), if_pos (by rw [hb0]; exact hcd), hsc, ext_take, digitsP, if_neg (by rw [hni]; decide), if_pos (by rw [hpf]; rfl)]
    unfold prefV
    rw [hpf]; rfl
end Go.Proofs.YtlhhdklendeikaaGreatDoor

namespace Go.Proofs.YtlhhdklendeikaaGreatDoor
open Go.RowKit

/-- a piece of a text: a blank, or the bytes of a token -/
inductive Pc where
  | sp
  | tk (bs : List UInt8) (t : TokP)
def pcBytes : List Pc → List UInt8
  | [] => []
  | .sp :: l => 32 :: pcBytes l
  | .tk bs _ :: l => bs ++ pcBytes l
def pcToks : Nat → List Pc → List TokP
  | k, [] => [⟨1, (k : Int), ⟨#[]⟩, 0, 0, 0⟩]
  | k, .sp :: l => pcToks (k + 1) l
  | k, .tk bs t :: l => { t with at_ := (k : Int) } :: pcToks (k + bs.length) l
/-- the tokens, without their places -/
def pcT : List Pc → List TokP
  | [] => [⟨1, 0, ⟨#[]⟩, 0, 0, 0⟩]
  | .sp :: l => pcT l
  | .tk _ t :: l => t :: pcT l
def pcOk : List Pc → Prop
  | [] => True
  | .sp :: l => pcOk l
  | .tk bs t :: l => LexAt bs t (pcBytes l) ∧ pcOk l
theorem pcs_lex : ∀ (l : List Pc) (k : Nat), pcOk l → Lex (pcBytes l) k (pcToks k l)
  | [], k, _ => Lex.done k
  | .sp :: l, k, h => Lex.blank (by decide) (pcs_lex l (k + 1) h)
  | .tk bs t :: l, k, h => Lex.tok h.1 (pcs_lex l _ h.2)
theorem pcs_all {l : List Pc} (h : pcOk l) : allP (bsA (pcBytes l)) = pcToks 0 l := lex_all (pcs_lex l 0 h)
theorem pcs_map : ∀ (l : List Pc) (k : Nat), (pcToks k l).map (fun t => (t.kind, t.text, t.number, t.addr, t.len)) = (pcT l).map (fun t => (t.kind, t.text, t.number, t.addr, t.len))
  | [], _ => rfl
  | .sp :: l, k => pcs_map l (k + 1)
  | .tk bs t :: l, k => by rw [pcToks, pcT, List.map_cons, List.map_cons, pcs_map l]
/-- the k-th token, without its place -/
def tAt (ts : List TokP) (k : Nat) : Int × ByteArray × Int × Int × Int := let t := ts[k]?.getD tok0; (t.kind, t.text, t.number, t.addr, t.len)
theorem pcs_tAt (l : List Pc) (k : Nat) : tAt (pcToks 0 l) k = tAt (pcT l) k := by
  have h := congrArg (·[k]?) (pcs_map l 0)
  simp only [List.getElem?_map] at h
  unfold tAt
  cases h1 : (pcToks 0 l)[k]? with
  | none =>
    rw [h1] at h
    cases h2 : (pcT l)[k]? with
    | none => rfl
    | some y => rw [h2] at h; cases h
  | some x =>
    rw [h1] at h
    cases h2 : (pcT l)[k]? with
    | none => rw [h2] at h; cases h
    | some y =>
      rw [h2] at h
      simp only [Option.map_some, Option.some.injEq] at h
      exact h
theorem kAt_of {ts : List TokP} {k : Nat} {x : Int × ByteArray × Int × Int × Int} (h : tAt ts k = x) : kAt ts k = x.1 := by rw [← h]; rfl
theorem nAt_of {ts : List TokP} {k : Nat} {x : Int × ByteArray × Int × Int × Int} (h : tAt ts k = x) : nAt ts k = x.2.2.1 := by rw [← h]; rfl
theorem tokR_at {ts : List TokP} {st : RS} {d : Int} {k : Nat} (g : Good ts st d k) {x : Int × ByteArray × Int × Int × Int} (h : tAt ts k = x) : (tokR ts st).text = x.2.1 ∧ (tokR ts st).number = x.2.2.1 ∧ (tokR ts st).addr = x.2.2.2.1 ∧ (tokR ts st).len = x.2.2.2.2 := by
  have e : tokR ts st = ts[k]?.getD tok0 := by unfold tokR; rw [g.next]
  rw [e, ← h]
  exact ⟨rfl, rfl, rfl, rfl⟩
/-! ## a name -/
theorem lex_name (nm : List UInt8) (h0 : nm ≠ []) (hl : ∀ b ∈ nm, lowB (b.toNat : Int) = true) (hw : wordK (bsA nm) = 0) (h8 : nm.length ≤ 8) (rest : List UInt8) (hr : ∀ b, rest.head? = some b → lowB (b.toNat : Int) = false) :
    LexAt nm ⟨4, 0, bsA nm, 0, 0, 0⟩ rest := by
  have hsc : scanTo lowB (bsA (nm ++ rest)) 0 = nm.length := scan_pre hl hr _ 0 (Nat.zero_add _)
  obtain ⟨c, r, rfl⟩ : ∃ c r, nm = c :: r := by
    cases nm with
    | nil => exact absurd rfl h0
    | cons c r => exact ⟨c, r, rfl⟩
  have hc := hl c List.mem_cons_self
  have hb : bt (bsA ((c :: r) ++ rest)) 0 = (c.toNat : Int) := bt_cons c _
  refine ⟨h0, fun x hx => ?_, ?_, by show (4 : Int) ≠ 0; decide, by show (bsA (c :: r)).size = _; rw [bsA_size]⟩
  · simp at hx; subst hx
    unfold lowB at hc
    unfold blankB
    simp only [Bool.and_eq_true, decide_eq_true_eq] at hc
    simp; omega
  · rw [firstP, if_pos (by rw [hb]; exact hc), hsc, ext_take, lettersP, if_pos ⟨hw, by rw [bsA_size]; exact h8⟩]
/-! ## the twin, where nothing is wrong -/
theorem oneRange_two {ts : List TokP} {st : RS} {d : Int} {k : Nat} (g : Good ts st d k) {x0 x1 x2 : ByteArray} {z a l lo hi y1 y2 y3 y4 : Int} (e0 : tAt ts k = (3, x0, z, a, l)) (e1 : tAt ts (k + 1) = (2, x1, lo, y1, y2)) (e2 : tAt ts (k + 2) = (2, x2, hi, y3, y4)) (h1 : l ≤ lo) (h2 : lo ≤ 32) (h3 : lo ≤ hi) (h4 : hi ≤ 32) :
    ∃ st', oneRangeR ts st = (st', spanM a l lo hi) ∧ Good ts st' d (k + 3) ∧ st'.defs = st.defs := by
  obtain ⟨_, _, ta, tl⟩ := tokR_at g e0
  dsimp only at ta tl
  have n1 := nAt_of e1
  have n2 := nAt_of e2
  dsimp only at n1 n2
  have w1 := g.go.within (lo := l) (hi := 32) (kAt_of e1) (by rw [n1]; exact h1) (by rw [n1]; exact h2)
  have w2 := g.go.go.within (lo := lo) (hi := 32) (kAt_of e2) (by rw [n2]; exact h3) (by rw [n2]; exact h4)
  rw [n1] at w1
  rw [n2] at w2
  refine ⟨goR ts (goR ts (goR ts st)), ?_, g.go.go.go, rfl⟩
  unfold oneRangeR
  rw [g.take (kAt_of e0)]
  dsimp only
  rw [g.go.kind, kAt_of e1, if_pos rfl, ta, tl, w1]
  dsimp only
  rw [w2]
theorem oneRange_one {ts : List TokP} {st : RS} {d : Int} {k : Nat} (g : Good ts st d k) {x0 : ByteArray} {z a l : Int} (e0 : tAt ts k = (3, x0, z, a, l)) (e1 : kAt ts (k + 1) ≠ 2) :
    ∃ st', oneRangeR ts st = (st', spanM a l l l) ∧ Good ts st' d (k + 1) ∧ st'.defs = st.defs := by
  obtain ⟨_, _, ta, tl⟩ := tokR_at g e0
  dsimp only at ta tl
  refine ⟨goR ts st, ?_, g.go, rfl⟩
  unfold oneRangeR
  rw [g.take (kAt_of e0)]
  dsimp only
  rw [g.go.kind, if_neg e1, ta, tl]
/-- ranges behind a comma, from k to k' -/
inductive Rngs (ts : List TokP) : Nat → Nat → List SetM → Prop
  | nil {k : Nat} : kAt ts k ≠ 28 → Rngs ts k k []
  | cons {k k' : Nat} {m : SetM} {l : List SetM} : kAt ts k = 28 → (∀ st d, Good ts st d (k + 1) → ∃ st', oneRangeR ts st = (st', m) ∧ Good ts st' d (k + 4) ∧ st'.defs = st.defs) → Rngs ts (k + 4) k' l → Rngs ts k k' (m :: l)
theorem rngs_lp {ts : List TokP} {k k' : Nat} {l : List SetM} (h : Rngs ts k k' l) : ∀ (n : Nat), l.length < n → ∀ (st : RS) (d : Int) (acc : List SetM), Good ts st d k → ∃ st', rangesLp ts n st acc = some (st', acc ++ l) ∧ Good ts st' d k' ∧ st'.defs = st.defs := by
  induction h with
  | nil hk =>
    intro n hn st d acc g
    obtain ⟨m, rfl⟩ : ∃ m, n = m + 1 := ⟨n - 1, by simp at hn; omega⟩
    exact ⟨st, by rw [rangesLp, g.kind, if_neg hk, List.append_nil], g, rfl⟩
  | @cons k k' m l hk hr _ ih =>
    intro n hn st d acc g
    obtain ⟨p, rfl⟩ : ∃ m, n = m + 1 := ⟨n - 1, by simp at hn; omega⟩
    obtain ⟨s1, e1, g1, d1⟩ := hr (goR ts st) d g.go
    obtain ⟨s2, e2, g2, d2⟩ := ih p (by simp at hn; omega) s1 d (acc ++ [m]) g1
    refine ⟨s2, ?_, g2, d2.trans d1⟩
    rw [rangesLp, g.kind, if_pos hk, e1, e2, List.append_assoc]; rfl
/-- { RANGE, .. } -/
theorem ranges_reads {ts : List TokP} {st : RS} {d : Int} {k k1 k' n : Nat} {m : SetM} {l : List SetM} (g : Good ts st d k) (e0 : kAt ts k = 29) (h1 : ∀ st d, Good ts st d (k + 1) → ∃ st', oneRangeR ts st = (st', m) ∧ Good ts st' d k1 ∧ st'.defs = st.defs) (h2 : Rngs ts k1 k' l) (hn : l.length < n) (e1 : kAt ts k' = 30) :
    ∃ st', rangesR ts n st = some (st', unionM (m :: l)) ∧ Good ts st' d (k' + 1) ∧ st'.defs = st.defs := by
  obtain ⟨s1, a1, g1, d1⟩ := h1 (goR ts st) d g.go
  obtain ⟨s2, a2, g2, d2⟩ := rngs_lp h2 n hn s1 d [m] g1
  refine ⟨goR ts s2, ?_, g2.go, ?_⟩
  · unfold rangesR
    rw [g.take e0]
    dsimp only
    rw [a1]
    dsimp only
    rw [a2]
    dsimp only
    rw [g2.take e1]; rfl
  · show s2.defs = st.defs
    rw [d2, d1]; rfl
/-- set NAME = { .. }; as the first of the definitions -/
theorem def_reads {ts : List TokP} {st : RS} {k k' n : Nat} {nm : ByteArray} {z a l : Int} {m : SetM} (g : Good ts st 0 k) (hd : st.defs = []) (e0 : kAt ts k = 5) (e1 : tAt ts (k + 1) = (4, nm, z, a, l)) (e2 : kAt ts (k + 2) = 26)
    (hr : ∀ s, Good ts s 0 (k + 3) → ∃ s', rangesR ts n s = some (s', m) ∧ Good ts s' 0 k' ∧ s'.defs = s.defs) (e3 : kAt ts k' = 27) :
    ∃ st', defR ts n st = some (st', true) ∧ Good ts st' 0 (k' + 1) ∧ st'.defs = [⟨nm, some m, none⟩] := by
  have g1 := g.go
  obtain ⟨tx, _, _, _⟩ := tokR_at g1 e1
  dsimp only at tx
  have hnn : newNameR ts (goR ts st) = (goR ts (goR ts st), nm) := by
    unfold newNameR
    rw [g1.take (kAt_of e1)]
    dsimp only
    have hnd : isDefR (goR ts (goR ts st)) (tokR ts (goR ts st)).text = false := by
      unfold isDefR
      have : (goR ts (goR ts st)).defs = [] := hd
      rw [this]; rfl
    rw [hnd, tx]; rfl
  obtain ⟨s', a1, g2, d2⟩ := hr _ g1.go.go
  refine ⟨addDefR (goR ts s') ⟨nm, some m, none⟩, ?_, ?_, ?_⟩
  · unfold defR
    rw [g.kind, if_pos e0, hnn]
    dsimp only
    rw [g1.go.take e2]
    dsimp only
    rw [a1]
    dsimp only
    rw [g2.take e3]
  · have g3 := g2.go
    exact ⟨g3.next, g3.depth, g3.syn, g3.nam, g3.num, g3.t0, g3.page⟩
  · show s'.defs ++ [_] = _
    rw [d2]
    have : (goR ts (goR ts (goR ts st))).defs = [] := hd
    rw [this]; rfl
/-- net in NAME -/
theorem net_reads {ts : List TokP} {sum : RS → Option (RS × Option AmtM)} {st : RS} {d : Int} {k : Nat} {nm : ByteArray} {z a l : Int} {m : SetM} (g : Good ts st d k) (e0 : kAt ts k = 21) (e1 : kAt ts (k + 1) = 22) (e2 : tAt ts (k + 2) = (4, nm, z, a, l)) (hf : findSet st.defs nm = some m) :
    ∃ st', notN ts sum st = some (st', some (netInM m)) ∧ Good ts st' d (k + 3) ∧ st'.defs = st.defs := by
  have g2 := g.go.go
  obtain ⟨tx, _, _, _⟩ := tokR_at g2 e2
  dsimp only at tx
  have hu : useSetR ts (goR ts (goR ts st)) = (goR ts (goR ts (goR ts st)), some m) := by
    unfold useSetR
    rw [g2.take (kAt_of e2)]
    dsimp only
    rw [tx]
    have : findSet (goR ts (goR ts (goR ts st))).defs nm = some m := hf
    rw [this]
  refine ⟨goR ts (goR ts (goR ts st)), ?_, g2.go, rfl⟩
  unfold notN
  rw [g.kind, if_pos e0, g.go.take e1]
  dsimp only
  rw [hu]; rfl
end Go.Proofs.YtlhhdklendeikaaGreatDoor

namespace Go.Proofs.YtlhhdklendeikaaGreatDoor
open Go.RowKit

def wPc (j : Nat) : Pc := .tk (wd j).data.toList ⟨5 + (j : Int), 0, wd j, 0, 0, 0⟩
def sPc (c : UInt8) : Pc := .tk [c] ⟨signK (c.toNat : Int), 0, bsA [c], 0, 0, 0⟩
def nPc (u : Nat) : Pc := .tk (Lib.decDigits u) ⟨2, 0, bsA (Lib.decDigits u), (u : Int), 0, 0⟩
def pPc (q : Quad) (l : Nat) : Pc := .tk (pfxB q l) ⟨3, 0, bsA (pfxB q l), 0, q.addr, (l : Int)⟩
def sName : Pc := .tk [115] ⟨4, 0, bsA [115], 0, 0, 0⟩
/-- what stands behind does not go on with letters, or digits -/
def hdLow (r : List UInt8) : Prop := ∀ b, r.head? = some b → lowB (b.toNat : Int) = false
def hdNum (r : List UInt8) : Prop := ∀ b, r.head? = some b → numeB (b.toNat : Int) = false
theorem hd_sp (l : List UInt8) : hdLow (32 :: l) ∧ hdNum (32 :: l) :=
  ⟨fun b hb => by rcases Option.some.inj hb with rfl; decide, fun b hb => by rcases Option.some.inj hb with rfl; decide⟩
theorem ok_w {j : Nat} (hj : j < 21) {l : List Pc} (h : pcOk l) (hl : hdLow (pcBytes l)) : pcOk (wPc j :: l) := ⟨lex_word j hj _ hl, h⟩
theorem ok_s {c : UInt8} (hc : signK (c.toNat : Int) ≠ 0) {l : List Pc} (h : pcOk l) : pcOk (sPc c :: l) := ⟨lex_sign c _ hc, h⟩
theorem ok_n {u : Nat} (hu : u ≤ 4294967295) {l : List Pc} (h : pcOk l) (hl : hdNum (pcBytes l)) : pcOk (nPc u :: l) := ⟨lex_dec u hu _ hl, h⟩
theorem ok_p {q : Quad} {x : Nat} (hq : q.ok) (hx : x ≤ 32) (hn : netOk (q.addr, (x : Int))) {l : List Pc} (h : pcOk l) (hl : hdNum (pcBytes l)) : pcOk (pPc q x :: l) := ⟨lex_pfx q x hq hx hn _ hl, h⟩
theorem ok_name {l : List Pc} (h : pcOk l) (hl : hdLow (pcBytes l)) : pcOk (sName :: l) := ⟨lex_name [115] (by simp) (by decide) (by decide +kernel) (by decide) _ hl, h⟩
structure Rg where
  q : Quad
  l : Nat
  lo : Nat
  hi : Nat
def Rg.ok (r : Rg) : Prop := r.q.ok ∧ r.l ≤ 32 ∧ netOk (r.q.addr, (r.l : Int)) ∧ r.l ≤ r.lo ∧ r.lo ≤ r.hi ∧ r.hi ≤ 32
def Rg.mean (r : Rg) : SetM := spanM r.q.addr (r.l : Int) (r.lo : Int) (r.hi : Int)
def rgPc (r : Rg) : List Pc := [pPc r.q r.l, .sp, nPc r.lo, .sp, nPc r.hi]
def rgsPc (l : List Rg) : List Pc := l.flatMap fun r => sPc 44 :: .sp :: rgPc r
def headP : List Pc := [wPc 0, .sp, sName, .sp, sPc 61, .sp, sPc 123, .sp]
def tailP : List Pc := [.sp, sPc 125, sPc 59, .sp, wPc 9, .sp, wPc 16, .sp, wPc 17, .sp, sName, .sp, wPc 10, .sp, sPc 123, .sp, wPc 2, sPc 59, .sp, sPc 125]
theorem tail_ok : pcOk tailP := by
  refine ok_s (by decide +kernel) (ok_s (by decide +kernel) ?_)
  refine ok_w (by decide) ?_ (hd_sp _).1
  refine ok_w (by decide) ?_ (hd_sp _).1
  refine ok_w (by decide) ?_ (hd_sp _).1
  refine ok_name ?_ (hd_sp _).1
  refine ok_w (by decide) ?_ (hd_sp _).1
  refine ok_s (by decide +kernel) ?_
  refine ok_w (by decide) (ok_s (by decide +kernel) (ok_s (by decide +kernel) trivial)) (fun b hb => ?_)
  have : b = 59 := by
    rcases Option.some.inj hb with rfl; rfl
  rw [this]; decide
theorem rg_ok {r : Rg} (hr : r.ok) {l : List Pc} (h : pcOk l) (hl : hdNum (pcBytes l)) : pcOk (rgPc r ++ l) := by
  obtain ⟨h1, h2, h3, h4, h5, h6⟩ := hr
  refine ok_p h1 h2 h3 ?_ (hd_sp _).2
  refine ok_n (by omega) ?_ (hd_sp _).2
  exact ok_n (by omega) h hl
theorem rgs_ok : ∀ {l : List Rg}, (∀ r ∈ l, r.ok) → pcOk (rgsPc l ++ tailP) ∧ hdNum (pcBytes (rgsPc l ++ tailP))
  | [], _ => ⟨tail_ok, (hd_sp _).2⟩
  | r :: l, h => by
    obtain ⟨i1, i2⟩ := rgs_ok (fun x hx => h x (List.mem_cons_of_mem _ hx))
    have e : rgsPc (r :: l) ++ tailP = sPc 44 :: .sp :: (rgPc r ++ (rgsPc l ++ tailP)) := by simp [rgsPc]
    rw [e]
    refine ⟨ok_s (by decide +kernel) (rg_ok (h r List.mem_cons_self) i1 i2), fun b hb => ?_⟩
    rcases Option.some.inj hb with rfl; decide
theorem head_ok {l : List Pc} (h : pcOk l) : pcOk (headP ++ l) := by
  refine ok_w (by decide) ?_ (hd_sp _).1
  refine ok_name ?_ (hd_sp _).1
  exact ok_s (by decide +kernel) (ok_s (by decide +kernel) h)
/-! ## the tokens -/
theorem drop_tAt {l : List Pc} {k : Nat} {t : TokP} {r : List TokP} (h : (pcT l).drop k = t :: r) : tAt (pcToks 0 l) k = (t.kind, t.text, t.number, t.addr, t.len) ∧ (pcT l).drop (k + 1) = r := by
  have e : (pcT l)[k]? = some t := by
    have := congrArg (·[0]?) h
    simpa [List.getElem?_drop] using this
  refine ⟨?_, by rw [← List.drop_drop, h]; rfl⟩
  rw [pcs_tAt]
  unfold tAt
  rw [e]; rfl
def wT (j : Nat) : TokP := ⟨5 + (j : Int), 0, wd j, 0, 0, 0⟩
def sT (c : UInt8) : TokP := ⟨signK (c.toNat : Int), 0, bsA [c], 0, 0, 0⟩
def nT (u : Nat) : TokP := ⟨2, 0, bsA (Lib.decDigits u), (u : Int), 0, 0⟩
def pT (q : Quad) (l : Nat) : TokP := ⟨3, 0, bsA (pfxB q l), 0, q.addr, (l : Int)⟩
def nameT : TokP := ⟨4, 0, bsA [115], 0, 0, 0⟩
def tailT : List TokP := [sT 125, sT 59, wT 9, wT 16, wT 17, nameT, wT 10, sT 123, wT 2, sT 59, sT 125, ⟨1, 0, ⟨#[]⟩, 0, 0, 0⟩]
def rgsT (l : List Rg) : List TokP := l.flatMap fun r => [sT 44, pT r.q r.l, nT r.lo, nT r.hi]
theorem rgs_T : ∀ (l : List Rg), pcT (rgsPc l ++ tailP) = rgsT l ++ tailT
  | [] => rfl
  | r :: l => by
    have e : rgsPc (r :: l) ++ tailP = sPc 44 :: .sp :: (rgPc r ++ (rgsPc l ++ tailP)) := by simp [rgsPc]
    have e2 : rgsT (r :: l) ++ tailT = sT 44 :: pT r.q r.l :: nT r.lo :: nT r.hi :: (rgsT l ++ tailT) := by simp [rgsT]
    rw [e, e2, ← rgs_T l]; rfl
theorem rngs_of {L : List Pc} : ∀ (l : List Rg) (k : Nat) (t : TokP) (r : List TokP), (∀ r ∈ l, r.ok) → t.kind ≠ 28 → (pcT L).drop k = rgsT l ++ t :: r → Rngs (pcToks 0 L) k (k + 4 * l.length) (l.map Rg.mean)
  | [], k, t, r, _, ht, h => by
    obtain ⟨e, _⟩ := drop_tAt (show (pcT L).drop k = t :: r from h)
    exact .nil (by rw [kAt_of e]; exact ht)
  | x :: l, k, t, r, ho, ht, h => by
    obtain ⟨h1, h2, h3, h4, h5, h6⟩ := ho x List.mem_cons_self
    have h' : (pcT L).drop k = sT 44 :: (pT x.q x.l :: nT x.lo :: nT x.hi :: (rgsT l ++ t :: r)) := by rw [h]; simp [rgsT]
    obtain ⟨e0, d0⟩ := drop_tAt h'
    obtain ⟨e1, d1⟩ := drop_tAt d0
    obtain ⟨e2, d2⟩ := drop_tAt d1
    obtain ⟨e3, d3⟩ := drop_tAt d2
    have ih := rngs_of l (k + 4) t r (fun y hy => ho y (List.mem_cons_of_mem _ hy)) ht d3
    have hk : k + 4 * (x :: l).length = k + 4 + 4 * l.length := by simp only [List.length_cons]; omega
    rw [hk]
    refine .cons ?_ (fun st d g => ?_) ih
    · rw [kAt_of e0]; show signK ((44 : UInt8).toNat : Int) = 28; decide +kernel
    · exact oneRange_two g e1 e2 e3 (by show (x.l : Int) ≤ x.lo; omega) (by show (x.lo : Int) ≤ 32; omega) (by show (x.lo : Int) ≤ x.hi; omega) (by show (x.hi : Int) ≤ 32; omega)
/-! ## the policy -/
theorem cond_at {ts : List TokP} {nt : RS → Option (RS × Option CndM)} {st s : RS} {a : Option CndM} (h : nt st = some (s, a)) (h1 : kindR ts s ≠ 19) (h2 : kindR ts s ≠ 18) : condBy ts nt 100 st = some (s, a) := by
  have e1 : andBy ts nt 100 st = some (s, a) := by
    unfold andBy binBy
    rw [h]
    dsimp only
    rw [show (100 : Nat) = 99 + 1 from rfl, binLp, if_neg h1]
  unfold condBy binBy
  rw [e1]
  dsimp only
  rw [show (100 : Nat) = 99 + 1 from rfl, binLp, if_neg h2]
theorem set_policy {L : List Pc} {k1 K : Nat} {m : SetM} {l : List SetM} {R0 : List TokP} (d0 : (pcT L).drop 0 = wT 0 :: nameT :: sT 61 :: sT 123 :: R0)
    (h1 : ∀ st d, Good (pcToks 0 L) st d 4 → ∃ st', oneRangeR (pcToks 0 L) st = (st', m) ∧ Good (pcToks 0 L) st' d k1 ∧ st'.defs = st.defs) (h2 : Rngs (pcToks 0 L) k1 K l) (hl : l.length < 100) (dK : (pcT L).drop K = tailT) :
    ∃ st, policyD (pcToks 0 L) 100 (stmN (pcToks 0 L) 3) rs0 = some (st, [chooseM (netInM (unionM (m :: l))) [concludeM 1] []].map some) ∧ Good (pcToks 0 L) st 0 (K + 11) := by
  obtain ⟨a0, d1⟩ := drop_tAt d0
  obtain ⟨a1, d2⟩ := drop_tAt d1
  obtain ⟨a2, d3⟩ := drop_tAt d2
  obtain ⟨a3, _⟩ := drop_tAt d3
  obtain ⟨b0, f1⟩ := drop_tAt dK
  obtain ⟨b1, f2⟩ := drop_tAt f1
  obtain ⟨b2, f3⟩ := drop_tAt f2
  obtain ⟨b3, f4⟩ := drop_tAt f3
  obtain ⟨b4, f5⟩ := drop_tAt f4
  obtain ⟨b5, f6⟩ := drop_tAt f5
  obtain ⟨b6, f7⟩ := drop_tAt f6
  obtain ⟨b7, f8⟩ := drop_tAt f7
  obtain ⟨b8, f9⟩ := drop_tAt f8
  obtain ⟨b9, f10⟩ := drop_tAt f9
  obtain ⟨b10, f11⟩ := drop_tAt f10
  obtain ⟨b11, _⟩ := drop_tAt f11
  clear d0 d1 d2 d3 dK f1 f2 f3 f4 f5 f6 f7 f8 f9 f10 f11
  generalize pcToks 0 L = ts at *
  have s61 : signK ((61 : UInt8).toNat : Int) = 26 := by decide +kernel
  have s123 : signK ((123 : UInt8).toNat : Int) = 29 := by decide +kernel
  have s125 : signK ((125 : UInt8).toNat : Int) = 30 := by decide +kernel
  have s59 : signK ((59 : UInt8).toNat : Int) = 27 := by decide +kernel
  have t0 : (ts[0]?.getD tok0).text.data.toList ≠ [] := by
    have : (ts[0]?.getD tok0).text = wd 0 := by
      have := congrArg (fun x => x.2.1) a0
      exact this
    rw [this]; decide +kernel
  have g0 : Good ts rs0 0 0 := ⟨rfl, rfl, rfl, rfl, rfl, t0, Or.inl rfl⟩
  obtain ⟨st1, c1, g1, hd1⟩ := def_reads (n := 100) g0 rfl (kAt_of a0) a1 ((kAt_of a2).trans s61) (fun s g => ranges_reads g ((kAt_of a3).trans s123) h1 h2 hl ((kAt_of b0).trans s125)) ((kAt_of b1).trans s59)
  have hk1 : kindR ts st1 = 14 := by rw [g1.kind]; exact kAt_of b2
  have hds : defsLp ts 100 8 rs0 = some st1 := by
    rw [show (8 : Nat) = 7 + 1 from rfl, defsLp, c1]
    dsimp only
    rw [show (7 : Nat) = 6 + 1 from rfl, defsLp, defR, hk1, if_neg (by decide), if_neg (by decide)]
  have hfs : findSet (goR ts st1).defs (bsA [115]) = some (unionM (m :: l)) := by
    show findSet st1.defs (bsA [115]) = _
    rw [hd1, findSet, if_pos (by simp [nameT])]
  obtain ⟨s2, c2, g2, _⟩ := net_reads (sum := sumS ts) g1.go (kAt_of b3) (kAt_of b4) b5 hfs
  have hc : cndN ts (goR ts st1) = some (s2, some (netInM (unionM (m :: l)))) := cond_at (ts := ts) c2 (by rw [g2.kind, kAt_of b6]; decide) (by rw [g2.kind, kAt_of b6]; decide)
  have hb : Reads ts (blockBy ts (stmN ts 2) 100) 0 (K + 7) (K + 11) ([concludeM 1].map some) :=
    block_reads (k' := K + 10) ((kAt_of b7).trans s123) (by decide) (by decide) (.cons (stmt_accept' (kAt_of b8) rfl ((kAt_of b9).trans s59)) (.nil (stmt_none' (by rw [kAt_of b10]; show noStmt (signK ((125 : UInt8).toNat : Int)); rw [s125]; decide) rfl))) (by decide) ((kAt_of b10).trans s125)
  obtain ⟨s3, c3', g3⟩ := hb _ g2.go
  have c3 : blockBy ts (stmtTw ts 100 okP (sumS ts) (cndN ts) 2) 100 (goR ts s2) = some (s3, [concludeM 1].map some) := c3'
  have hst : stmN ts 3 st1 = some (s3, some (some (chooseM (netInM (unionM (m :: l))) [concludeM 1] []))) := by
    unfold stmN
    rw [stmtTw, hk1, if_neg (by decide), if_pos rfl, hc]
    dsimp only
    rw [show takeR ts 15 s2 = (goR ts s2, tokR ts s2) from g2.take (kAt_of b6)]
    dsimp only
    rw [c3]
    dsimp only
    rw [g3.kind, kAt_of b11, if_neg (by decide), chooseO, allO_map]; rfl
  have hno : stmN ts 3 s3 = some (s3, none) := by
    obtain ⟨s4, c4, _⟩ := stmt_none' (ts := ts) (n := 100) (f := 2) (ok := okP) (sum := sumS ts) (cnd := cndN ts) (d := 0) (k := K + 11) (by rw [kAt_of b11]; decide) rfl s3 g3
    have := c4
    unfold stmN
    rw [stmtTw, g3.kind, kAt_of b11, if_neg (by decide), if_neg (by decide), if_neg (by decide), if_neg (by decide), if_neg (by decide), if_neg (by decide), if_neg (by decide), if_neg (by decide), if_neg (by decide)]
  refine ⟨s3, ?_, g3⟩
  unfold policyD
  rw [hds]
  dsimp only
  unfold policyTw
  rw [show (100 : Nat) = 98 + 1 + 1 from rfl, moreLp, hst]
  dsimp only
  rw [moreLp, hno]
  dsimp only
  have hlen : ¬ ([] ++ [some (chooseM (netInM (unionM (m :: l))) [concludeM 1] [])] : List (Option StpM)).length = 0 := by simp
  rw [if_neg hlen, g3.kind, kAt_of b11, if_pos rfl]
  rfl
def allR (r : Rg) (l : List Rg) : List Pc := headP ++ (rgPc r ++ (rgsPc l ++ tailP))
def oneR : List Pc := headP ++ (pPc ⟨10, 0, 0, 0⟩ 8 :: tailP)
def rangedMs (U : SetM) : List StpM := [chooseM (netInM U) [concludeM 1] []]
theorem pcBytes_append : ∀ (a b : List Pc), pcBytes (a ++ b) = pcBytes a ++ pcBytes b
  | [], _ => rfl
  | .sp :: a, b => by rw [List.cons_append, pcBytes, pcBytes, pcBytes_append a b]; rfl
  | .tk bs t :: a, b => by rw [List.cons_append, pcBytes, pcBytes, pcBytes_append a b, List.append_assoc]
theorem rg_len {r : Rg} (h : r.ok) : (pcBytes (rgPc r)).length ≤ 76 := by
  obtain ⟨h1, h2, h3, h4, h5, h6⟩ := h
  have a := pfx_len r.q r.l h1 h2
  have b := dec_len (u := r.lo) (by omega)
  have c := dec_len (u := r.hi) (by omega)
  show (pfxB r.q r.l ++ 32 :: (Lib.decDigits r.lo ++ 32 :: (Lib.decDigits r.hi ++ []))).length ≤ 76
  simp only [List.length_append, List.length_cons, List.length_nil]
  omega
theorem rgs_len : ∀ {l : List Rg}, (∀ r ∈ l, r.ok) → (pcBytes (rgsPc l)).length ≤ 78 * l.length
  | [], _ => by simp [rgsPc, pcBytes]
  | r :: l, h => by
    have a := rg_len (h r List.mem_cons_self)
    have b := rgs_len (fun x hx => h x (List.mem_cons_of_mem _ hx))
    have e : rgsPc (r :: l) = (sPc 44 :: .sp :: rgPc r) ++ rgsPc l := by simp [rgsPc]
    rw [e, pcBytes_append, List.length_append]
    have e2 : (pcBytes (sPc 44 :: .sp :: rgPc r)).length = 2 + (pcBytes (rgPc r)).length := by
      show ([44] ++ 32 :: pcBytes (rgPc r)).length = _
      simp; omega
    simp only [List.length_cons]
    omega
theorem rgsT_len (l : List Rg) : (rgsT l).length = 4 * l.length := by
  induction l with
  | nil => rfl
  | cons x l ih =>
    have : rgsT (x :: l) = [sT 44, pT x.q x.l, nT x.lo, nT x.hi] ++ rgsT l := by simp [rgsT]
    rw [this, List.length_append, ih]; simp; omega
theorem good_read {L : List Pc} (hL : pcOk L) (hs : (pcBytes L).length ≤ 600) {ms : List StpM} {st : RS} {f K : Nat} (hp : policyD (pcToks 0 L) 100 (stmN (pcToks 0 L) f) rs0 = some (st, ms.map some)) (g : Good (pcToks 0 L) st 0 (K + 11)) : ReadOk (bsA (pcBytes L)) ms :=
  readD_of (pcs_all hL) (by rw [bsA_size]; exact hs) hp g.syn g.nam g.num (g.page.resolve_left (by omega))
theorem ranged_read (r : Rg) (l : List Rg) (hr : ∀ x ∈ r :: l, x.ok) (hl : l.length ≤ 4) : ReadOk (bsA (pcBytes (allR r l))) (rangedMs (unionM ((r :: l).map Rg.mean))) := by
  have hr0 := hr r List.mem_cons_self
  have hrl : ∀ x ∈ l, x.ok := fun x hx => hr x (List.mem_cons_of_mem _ hx)
  obtain ⟨k1, k2⟩ := rgs_ok hrl
  have hT : pcT (allR r l) = wT 0 :: nameT :: sT 61 :: sT 123 :: pT r.q r.l :: nT r.lo :: nT r.hi :: (rgsT l ++ tailT) := by
    rw [← rgs_T l]; rfl
  have d7 : (pcT (allR r l)).drop 7 = rgsT l ++ tailT := by rw [hT]; rfl
  have d4 : (pcT (allR r l)).drop 4 = pT r.q r.l :: nT r.lo :: nT r.hi :: (rgsT l ++ tailT) := by rw [hT]; rfl
  obtain ⟨e4, d5⟩ := drop_tAt d4
  obtain ⟨e5, d6⟩ := drop_tAt d5
  obtain ⟨e6, _⟩ := drop_tAt d6
  have hlen := rgsT_len l
  have dK : (pcT (allR r l)).drop (7 + 4 * l.length) = tailT := by rw [← List.drop_drop, d7, ← hlen, List.drop_left]
  obtain ⟨h1, h2, h3, h4, h5, h6⟩ := hr0
  obtain ⟨st, hp, g⟩ := set_policy (L := allR r l) (k1 := 7) (K := 7 + 4 * l.length) (m := r.mean) (l := l.map Rg.mean) (R0 := pT r.q r.l :: nT r.lo :: nT r.hi :: (rgsT l ++ tailT)) hT
    (fun st d g => oneRange_two g e4 e5 e6 (by show (r.l : Int) ≤ r.lo; omega) (by show (r.lo : Int) ≤ 32; omega) (by show (r.lo : Int) ≤ r.hi; omega) (by show (r.hi : Int) ≤ 32; omega))
    (rngs_of l 7 (sT 125) [sT 59, wT 9, wT 16, wT 17, nameT, wT 10, sT 123, wT 2, sT 59, sT 125, ⟨1, 0, ⟨#[]⟩, 0, 0, 0⟩] hrl (by show signK ((125 : UInt8).toNat : Int) ≠ 28; decide +kernel) d7) (by rw [List.length_map]; omega) dK
  refine good_read (L := allR r l) (head_ok (rg_ok (hr r List.mem_cons_self) k1 k2)) ?_ hp g
  have a := rg_len (hr r List.mem_cons_self)
  have b := rgs_len hrl
  have c : (pcBytes headP).length = 10 := by decide +kernel
  have d : (pcBytes tailP).length = 32 := by decide +kernel
  rw [allR, pcBytes_append, pcBytes_append, pcBytes_append, List.length_append, List.length_append, List.length_append]
  omega
theorem ranged_none : ReadOk (bsA (pcBytes oneR)) (rangedMs (unionM [spanM 167772160 8 8 8])) := by
  have hq : (⟨10, 0, 0, 0⟩ : Quad).ok := ⟨by decide, by decide, by decide, by decide⟩
  have hn : netOk ((⟨10, 0, 0, 0⟩ : Quad).addr, ((8 : Nat) : Int)) := by decide
  have d4 : (pcT oneR).drop 4 = pT ⟨10, 0, 0, 0⟩ 8 :: tailT := rfl
  obtain ⟨e4, d5⟩ := drop_tAt d4
  obtain ⟨e5, _⟩ := drop_tAt (show (pcT oneR).drop 5 = sT 125 :: [sT 59, wT 9, wT 16, wT 17, nameT, wT 10, sT 123, wT 2, sT 59, sT 125, ⟨1, 0, ⟨#[]⟩, 0, 0, 0⟩] from d5)
  have h125 : signK ((125 : UInt8).toNat : Int) = 30 := by decide +kernel
  obtain ⟨st, hp, g⟩ := set_policy (L := oneR) (k1 := 5) (K := 5) (m := spanM 167772160 8 8 8) (l := []) (R0 := pT ⟨10, 0, 0, 0⟩ 8 :: tailT) rfl
    (fun st d g => oneRange_one g e4 (by rw [kAt_of e5]; show signK ((125 : UInt8).toNat : Int) ≠ 2; rw [h125]; decide))
    (.nil (by rw [kAt_of e5]; show signK ((125 : UInt8).toNat : Int) ≠ 28; rw [h125]; decide)) (by decide) d5
  refine good_read (L := oneR) (head_ok (ok_p hq (by decide) hn tail_ok (hd_sp _).2)) ?_ hp g
  have a := pfx_len ⟨10, 0, 0, 0⟩ 8 hq (by decide)
  have c : (pcBytes headP).length = 10 := by decide +kernel
  have d : (pcBytes tailP).length = 32 := by decide +kernel
  have e : pcBytes oneR = pcBytes headP ++ (pfxB ⟨10, 0, 0, 0⟩ 8 ++ pcBytes tailP) := pcBytes_append headP _
  rw [e, List.length_append, List.length_append]
  omega
end Go.Proofs.YtlhhdklendeikaaGreatDoor
