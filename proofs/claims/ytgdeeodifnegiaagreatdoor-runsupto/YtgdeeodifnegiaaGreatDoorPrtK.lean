/- Read of any text (package policy): it is refused, or it is a policy whose printed text is the policy again. -/
import Derived.Test.YtgdeeodifnegiaaGreatDoorPrtD
import Derived.Test.YtgdeeodifnegiaaGreatDoorRdrU
import Derived.Test.YtgdeeodifnegiaaGreatDoorNotA
namespace Go.Proofs.YtgdeeodifnegiaaGreatDoor
open Go.RowKit

/-- the reader's policy, at any text -/
theorem pol_said {s : ByteArray} (hs : s.size ≤ 600) {r : RS × List (Option StpM)} (h : polA (allP s) = some r) (pb : Nat) (W : World) (O : Nat → Prop) (hR : RA W pb (allP s) rs0 (fun _ => False) O) (hk : Ok (allP s) rs0) :
    Calls Tryz.prog 110 #[ptr4 pb 0] W (PolRes pb (allP s) W O r) := by
  obtain ⟨h1, _⟩ := allP_ok hs
  have IS : SumSaid pb (allP s) (sumA (allP s)) := sumTw_said h1 700 700
  have IH : StmtSaid pb (allP s) (stmA (allP s)) :=
    stmt_said h1 700 (by decide) okP (fun _ => putMark_said) (fun _ => dropMark_said) (fun _ => prepend_said) IS (cond_said h1 (not_said h1 IS 700 700) 700) 700
  exact policyW_said h1 (allP_len s) IH 700 700 (by decide) (either_said h1 700 (by decide) 700) hR hk rfl h
/-- taken, printed as x -/
def ReadX (s : ByteArray) (ms : List StpM) (x : ByteArray) : Prop := ∀ w, TokTabs w → Calls Tryz.prog 65 #[.string s] w fun e w' => ∃ sv, e = .returned (.tuple #[.agg #[.string x, sv], .int .i64 0, .int .i64 0]) ∧ Below w.heap.size w w' ∧ Lasts w' (fun k => w.heap.size ≤ k) (StepsC sv ms)
/-- refused: the kind of the fault, its place -/
def ReadE (s : ByteArray) (er at_ : Int) : Prop := ∀ w, TokTabs w → Calls Tryz.prog 65 #[.string s] w fun e w' => e = .returned (.tuple #[.agg #[.string ⟨#[]⟩, .slice none 0 0], .int .i64 er, .int .i64 at_]) ∧ Below w.heap.size w w'
theorem printed_eq (st : RS) : printed st = ⟨st.page.toArray⟩ ++ st.gap := by
  unfold printed
  rw [app_bsA, bsA_toList]
theorem readX_of {s : ByteArray} (hs : s.size ≤ 600) {r : RS × List (Option StpM)} (h : polA (allP s) = some r) (hn : ¬ Told r.1) {ms : List StpM} (hm : r.2 = ms.map some) (hp : r.1.page ≠ []) : ReadX s ms (printed r.1) := fun w ht => by
  obtain ⟨h1, h2⟩ := allP_ok hs
  have f1 : r.1.syn = none := by
    cases e : r.1.syn with
    | none => rfl
    | some x => exact absurd (Or.inl (by rw [e]; rfl)) hn
  have f2 : r.1.nam = none := by
    cases e : r.1.nam with
    | none => rfl
    | some x => exact absurd (Or.inr (Or.inl (by rw [e]; rfl))) hn
  have f3 : r.1.num = none := by
    cases e : r.1.num with
    | none => rfl
    | some x => exact absurd (Or.inr (Or.inr (by rw [e]; rfl))) hn
  rw [printed_eq]
  exact read_exact s hs w ht h1 h2 (st := r.1) (l := r.2) (pol_said hs h) f1 f2 f3 (by rw [hm]; exact allO_map ms) hp
/-- a text that is not too long is refused, or taken: then its printed text is taken too, as the same policy, printed the same -/
theorem read_any {s : ByteArray} (hs : s.size ≤ 600) : (∃ er at_ : Int, (er = 2 ∨ er = 3 ∨ er = 4) ∧ ReadE s er at_) ∨ ∃ ms x, ReadX s ms x ∧ (x.size ≤ 600 → ReadX x ms x) := by
  obtain ⟨h1, h2⟩ := allP_ok hs
  obtain ⟨r, h⟩ := polA_tot (ts := allP s) (by have := h1.n1; omega)
  by_cases hn : Told r.1
  · left
    cases e1 : r.1.syn with
    | some a => exact ⟨2, a, Or.inl rfl, fun w ht => read_bad s hs w ht h1 h2 (st := r.1) (l := r.2) (pol_said hs h) (Or.inl ⟨e1, rfl⟩)⟩
    | none =>
      cases e2 : r.1.nam with
      | some a => exact ⟨3, a, Or.inr (Or.inl rfl), fun w ht => read_bad s hs w ht h1 h2 (st := r.1) (l := r.2) (pol_said hs h) (Or.inr (Or.inl ⟨e1, e2, rfl⟩))⟩
      | none =>
        cases e3 : r.1.num with
        | some a => exact ⟨4, a, Or.inr (Or.inr rfl), fun w ht => read_bad s hs w ht h1 h2 (st := r.1) (l := r.2) (pol_said hs h) (Or.inr (Or.inr ⟨e1, e2, e3, rfl⟩))⟩
        | none =>
          exfalso
          unfold Told at hn
          rw [e1, e2, e3] at hn
          simp at hn
  · right
    obtain ⟨ms, hm⟩ := polA_some h hn
    obtain ⟨hp, r', e1, e2, e3, e4, e5⟩ := again h hn
    refine ⟨ms, printed r.1, readX_of hs h hn hm hp, fun hx => ?_⟩
    have := readX_of hx e1 e3 (by rw [e2]; exact hm) (by rw [e5]; exact hp)
    rw [e4] at this
    exact this
end Go.Proofs.YtgdeeodifnegiaaGreatDoor

namespace Go.Proofs.YtgdeeodifnegiaaGreatDoor
open Go.RowKit

set_option maxRecDepth 100000 in
set_option maxHeartbeats 1000000 in
theorem read_long (s : ByteArray) (hs : 600 < s.size) : ReadE s 1 0 := fun w _ => by
  have hb0 : decide ((600 : Int) < (s.size : Int)) = true := decide_eq_true (by omega)
  refine (callsIn_wide (n := 6)).1 ?_
  refine callsIn_of_wp_marks Tryz.func65 rfl trivial ?_ rfl
  simp only [Tryz.ntmps65, List.size_toArray, List.length_cons, List.length_nil, Nat.reduceAdd, Nat.reduceSub, Array.replicate_succ, Array.replicate_zero, List.push_toArray, List.append_toArray, List.nil_append, List.cons_append]
  gi_wp2
  have hn := heap_new w #[.string ⟨#[]⟩, .slice none 0 0] 109
  have u0 : (w.alloc (.cells #[.string ⟨#[]⟩, .slice none 0 0] 109)).cell? ⟨w.heap.size, 0, none⟩ = some (.string ⟨#[]⟩) := cell_of_heap hn
  have u1 : (w.alloc (.cells #[.string ⟨#[]⟩, .slice none 0 0] 109)).cell? ⟨w.heap.size, 1, none⟩ = some (.slice none 0 0) := cell_of_heap hn
  exact ⟨.tuple #[.agg #[.string ⟨#[]⟩, .slice none 0 0], .int .i64 1, .int .i64 0], by simp [results, Tryz.results65, go_sem, u0, u1], rfl, (Below.refl _ _).alloc (Nat.le_refl _) _⟩
set_option maxRecDepth 100000 in
set_option maxHeartbeats 2000000 in
theorem compile_err {s : ByteArray} {er at_ : Int} (hne : er ≠ 0) (hr : ReadE s er at_) (w : World) (ht : TokTabs w) :
    Calls Tryz.prog 24 #[.string s] w fun e w' => e = .returned (.tuple #[.pointer none, .int .i64 er, .int .i64 at_]) ∧ Below w.heap.size w w' := by
  have HR := hide (hr w ht)
  clear hr ht
  go_enter Tryz.func24, Tryz.ntmps24
  go_wp2_with fail
  refine (unhide HR).mono ?_
  rintro e w1 ⟨rfl, hb⟩
  have HB := hide hb
  have hb0 : (er != 0) = true := by simpa using hne
  have hb1 : (er == 0) = false := by simpa using hne
  clear hb HR hne
  go_wp2_with fail
  refine bodyPost_ret (v := .tuple #[.pointer none, .int .i64 er, .int .i64 at_]) (by simp [results, Tryz.results24, go_sem]) rfl ⟨rfl, ?_⟩
  exact (unhide HB).alloc (unhide HB).size _
theorem readE_bad {s : ByteArray} {er at_ : Int} (hne : er ≠ 0) (hr : ReadE s er at_) : ReadBad s := fun w ht => (hr w ht).mono fun _ _ ⟨h1, h2⟩ => ⟨er, at_, hne, h1, h2⟩
/-- a policy: what it is printed as, what its steps do -/
def PolX (pp : Nat) (ms : List StpM) (x : ByteArray) (K : Nat → Prop) (W : World) : Prop := K pp ∧ ∃ sv, W.heap[pp]? = some (.cells #[.string x, sv] 111 (0, 0)) ∧ StepsC sv ms K W
theorem PolX.c {pp : Nat} {ms : List StpM} {x : ByteArray} {K : Nat → Prop} {W : World} (h : PolX pp ms x K W) : PolC pp ms K W := by
  obtain ⟨h0, sv, h1, h2⟩ := h
  exact ⟨h0, x, sv, h1, h2⟩
set_option maxRecDepth 100000 in
set_option maxHeartbeats 2000000 in
theorem compile_x {s x : ByteArray} {ms : List StpM} (hr : ReadX s ms x) (w : World) (ht : TokTabs w) :
    Calls Tryz.prog 24 #[.string s] w fun e w' => ∃ pp, e = .returned (.tuple #[ptr4 pp 0, .int .i64 0, .int .i64 0]) ∧ Below w.heap.size w w' ∧ Lasts w' (fun k => w.heap.size ≤ k) (PolX pp ms x) := by
  have HR := hide (hr w ht)
  clear hr ht
  go_enter Tryz.func24, Tryz.ntmps24
  go_wp2_with fail
  refine (unhide HR).mono ?_
  rintro e w1 ⟨sv, rfl, hb, hl⟩
  have HB := hide hb
  have HL := hide hl
  have hf : ∃ a n c, sv = .slice a n c := by
    obtain ⟨K, h0, vs, h1, h2, _⟩ := hl.now
    rcases h2 with ⟨_, h2⟩ | ⟨S, cap, h2, _⟩
    · exact ⟨_, _, _, h2⟩
    · exact ⟨_, _, _, h2⟩
  obtain ⟨sa, sn, sc, rfl⟩ := hf
  clear hb hl HR
  go_wp2_with fail
  refine bodyPost_ret (v := .tuple #[ptr4 (w1.heap.size + 1) 0, .int .i64 0, .int .i64 0]) (by simp [results, Tryz.results24, go_sem]) rfl ⟨w1.heap.size + 1, rfl, ?_, ?_⟩
  · exact ((unhide HB).alloc (unhide HB).size _).alloc (by have := (unhide HB).size; rw [World.size_alloc]; omega) _
  · obtain ⟨n1, n2, sz⟩ := two_new w1 (.cells #[.string x, .slice sa sn sc] 109) (.cells #[.string x, .slice sa sn sc] 111)
    have h1 := ((unhide HL).mono (alloc_mono w1 (.cells #[.string x, .slice sa sn sc] 109) (fun k => w.heap.size ≤ k)).1 (alloc_mono w1 (.cells #[.string x, .slice sa sn sc] 109) (fun k => w.heap.size ≤ k)).2 (fun _ _ h => h)).mono (alloc_mono _ (.cells #[.string x, .slice sa sn sc] 111) (fun k => w.heap.size ≤ k)).1 (alloc_mono _ (.cells #[.string x, .slice sa sn sc] 111) (fun k => w.heap.size ≤ k)).2 (fun _ _ h => h)
    refine Lasts.one h1 (fun k => k = w1.heap.size + 1) (fun k hk => ⟨by omega, by have := (unhide HB).size; omega⟩) (fun K1 _ q1 W hW hk => ?_)
    exact ⟨Or.inr rfl, _, (hk _ (Or.inr rfl)).trans n2, (q1 W hW (fun k h => hk k (Or.inl h))).mono (fun k h => Or.inl h)⟩
set_option maxRecDepth 100000 in
set_option maxHeartbeats 1000000 in
theorem pprint_any (w : World) (x : ByteArray) (a : Option Addr) (n c : Nat) : Calls Tryz.prog 47 #[.agg #[.string x, .slice a n c]] w fun e w' => e = .returned (.string x) ∧ Below w.heap.size w w' := by
  go_enter Tryz.func47, Tryz.ntmps47
  go_wp2_with fail
  go_ret
  exact ⟨rfl, (Below.refl _ _).alloc (Nat.le_refl _) _⟩
set_option maxRecDepth 100000 in
set_option maxHeartbeats 1000000 in
theorem print_any (w : World) (pp : Nat) (x : ByteArray) (a : Option Addr) (n c : Nat) (h : w.heap[pp]? = some (.cells #[.string x, .slice a n c] 111 (0, 0))) : Calls Tryz.prog 16 #[ptr4 pp 0] w fun e w' => e = .returned (.string x) ∧ Below w.heap.size w w' := by
  have c0 : w.cell? ⟨pp, 0, none⟩ = some (.string x) := cell_of_heap h
  have c1 : w.cell? ⟨pp, 1, none⟩ = some (.slice a n c) := cell_of_heap h
  clear h
  go_enter Tryz.func16, Tryz.ntmps16
  go_wp2_with (go_at_call 47; refine (pprint_any _ _ _ _ _).mono ?_; rintro e w1 ⟨rfl, hb⟩; have HB := hide hb; clear hb)
  go_ret
  exact ⟨rfl, unhide HB⟩
end Go.Proofs.YtgdeeodifnegiaaGreatDoor

namespace Go.Proofs.YtgdeeodifnegiaaGreatDoor
open Go.RowKit

def tC : List Pc := sPc 123 :: .sp :: wPc 2 :: sPc 59 :: .sp :: sPc 125 :: .sp :: wPc 11 :: .sp :: sPc 123 :: .sp :: sPc 125 :: .sp :: sPc 125 :: .sp :: wPc 11 :: .sp :: sPc 123 :: .sp :: wPc 8 :: .sp :: nPc 3 :: sPc 59 :: .sp :: wPc 2 :: sPc 59 :: .sp :: sPc 125 :: .sp :: wPc 4 :: .sp :: sPc 61 :: .sp :: sPc 40 :: .sp :: wPc 4 :: .sp :: sPc 43 :: .sp :: nPc 2 :: .sp :: sPc 41 :: .sp :: sPc 45 :: .sp :: wPc 5 :: sPc 59 :: .sp :: wPc 2 :: [sPc 59]
def tB (y : Ct) : List Pc := sPc 123 :: .sp :: wPc 6 :: .sp :: nPc 1 :: sPc 59 :: .sp :: wPc 9 :: .sp :: y.pc (.sp :: wPc 10 :: .sp :: tC)
def tL (x y : Ct) : List Pc := dfP ++ (wPc 9 :: .sp :: (Tc.one x).pc (.sp :: wPc 10 :: .sp :: tB y))
noncomputable def tMs (x y : Ct) : List StpM := [chooseM (x.M S0 W0) [markM 1, chooseM (y.M S0 W0) [concludeM 1] []] [prependM 3, concludeM 1], setPrefM (plusM (plusM prefM (constM 2) 1) medM (-1)), concludeM 1]
theorem s45 : signK ((45 : UInt8).toNat : Int) = 39 := by decide +kernel
theorem tC_ok : pcOk tC := by
  refine okSign ?_ (by simp)
  refine ok_w (by decide) (okSign ?_ (by simp)) (hd59 _).1
  refine okSign ?_ (by simp)
  refine ok_w (by decide) ?_ (hd_sp _).1
  refine okSign (okSign (okSign ?_ (by simp)) (by simp)) (by simp)
  refine ok_w (by decide) (okSign ?_ (by simp)) (hd_sp _).1
  refine ok_w (by decide) ?_ (hd_sp _).1
  refine ok_n (by decide) (okSign ?_ (by simp)) (hd59 _).2
  refine ok_w (by decide) (okSign (okSign ?_ (by simp)) (by simp)) (hd59 _).1
  refine ok_w (by decide) (okSign ?_ (by simp)) (hd_sp _).1
  refine ok_s (by rw [s40]; decide) ?_
  refine ok_w (by decide) (okSign ?_ (by simp)) (hd_sp _).1
  refine ok_n (by decide) ?_ (hd_sp _).2
  refine ok_s (by rw [s41]; decide) ?_
  refine ok_s (by rw [s45]; decide) ?_
  refine ok_w (by decide) (okSign ?_ (by simp)) (hd59 _).1
  exact ok_w (by decide) (okSign trivial (by simp)) (hd59 _).1
theorem tL_ok {x y : Ct} (hx : x.ok ∧ x.h ≤ 6) (hy : y.ok) : pcOk (tL x y) := by
  refine dfP_ok (ok_w (by decide) ((Tc.one x).pc_ok hx (ok_w (by decide) ?_ (hd_sp _).1) (spA _)) (hd_sp _).1)
  refine okSign ?_ (by simp)
  refine ok_w (by decide) ?_ (hd_sp _).1
  refine ok_n (by decide) (okSign ?_ (by simp)) (hd59 _).2
  refine ok_w (by decide) ?_ (hd_sp _).1
  exact y.pc_ok _ hy (ok_w (by decide) tC_ok (hd_sp _).1) (spA _)
def ReadsW {α : Type} (Ds : List DefP) (ts : List TokP) (rd : RS → Option (RS × α)) (d : Int) (k k' : Nat) (m : α) : Prop := ∀ st, Good ts st d k → st.defs = Ds → ∃ st', rd st = some (st', m) ∧ Good ts st' d k'
theorem ifelseW {ts : List TokP} {f : Nat} {d : Int} {k k1 k2 k3 : Nat} {c : CndM} {yes no : List StpM} (e : kAt ts k = 14) (hc : ReadsD Ds0 ts (cndF ts) d (k + 1) k1 (some c)) (e1 : kAt ts k1 = 15) (hy : ReadsW Ds0 ts (blockBy ts (stmF ts f) 100) d (k1 + 1) k2 (yes.map some)) (e2 : kAt ts k2 = 16) (hn : Reads ts (blockBy ts (stmF ts f) 100) d (k2 + 1) k3 (no.map some)) :
    ReadsW Ds0 ts (stmF ts (f + 1)) d k k3 (some (some (chooseM c yes no))) := fun st g hds => by
  obtain ⟨s1, h1, g1, hd1⟩ := hc _ g.go hds
  obtain ⟨s2, h2, g2⟩ := hy _ g1.go hd1
  obtain ⟨s3, h3, g3⟩ := hn _ g2.go
  refine ⟨s3, ?_, g3⟩
  have h2' : blockBy ts (stmtTw ts 100 okP (sumS ts) (cndF ts) f) 100 (goR ts s1) = some (s2, yes.map some) := h2
  have h3' : blockBy ts (stmtTw ts 100 okP (sumS ts) (cndF ts) f) 100 (goR ts s2) = some (s3, no.map some) := h3
  unfold stmF
  rw [stmtTw, g.kind, e, if_neg (by decide), if_pos rfl, h1]
  dsimp only
  rw [g1.take e1]
  dsimp only
  rw [h2']
  dsimp only
  rw [g2.kind, if_pos e2, h3']
  dsimp only
  rw [chooseO, allO_map]
  dsimp only
  rw [allO_map]
theorem mark_defs {ts : List TokP} {f : Nat} {d : Int} {k : Nat} (e : kAt ts k = 11) (e2 : kAt ts (k + 1) = 2) (h1 : 0 ≤ nAt ts (k + 1)) (h2 : nAt ts (k + 1) ≤ 65535) (e3 : kAt ts (k + 2) = 27) : ReadsD Ds0 ts (stmF ts (f + 1)) d k (k + 3) (some (some (markM (nAt ts (k + 1))))) := fun st g hd => by
  refine ⟨goR ts (goR ts (goR ts st)), ?_, ((g.go).go).go, hd⟩
  unfold stmF
  rw [stmtTw, g.kind, e, if_neg (by decide), if_neg (by decide), if_neg (by decide), if_neg (by decide), if_neg (by decide), if_neg (by decide), if_pos rfl, (g.go).within e2 h1 h2, end_take ((g.go).go) e3]
/-- a block of two statements, the first of which keeps what is defined -/
theorem block_two {ts : List TokP} {f : Nat} {d : Int} {k k1 k' : Nat} {m1 m2 : StpM} (e : kAt ts k = 29) (h0 : 0 ≤ d) (h8 : d < 8) (r1 : ReadsD Ds0 ts (stmF ts (f + 1)) (d + 1) (k + 1) k1 (some (some m1))) (r2 : ReadsW Ds0 ts (stmF ts (f + 1)) (d + 1) k1 k' (some (some m2))) (e' : kAt ts k' = 30) :
    ReadsW Ds0 ts (blockBy ts (stmF ts (f + 1)) 100) d k (k' + 1) ([m1, m2].map some) := fun st g hds => by
  obtain ⟨s1, a1, g1, d1⟩ := r1 _ (g.open e h0 h8).endLine (by show (openR ts 29 st).defs = _; rw [openR_defs]; exact hds)
  obtain ⟨s2, a2, g2⟩ := r2 _ g1 d1
  obtain ⟨s3, a3, g3⟩ := none125 (ts := ts) (n := 100) (f := f) (sum := sumS ts) (cnd := cndF ts) (d := d + 1) e' s2 g2
  have a3' : stmF ts (f + 1) s2 = some (s3, none) := a3
  refine ⟨_, ?_, (g3.shut e' h0 h8).endLine⟩
  rw [blockBy, show (100 : Nat) = 99 + 1 from rfl, moreLp, a1]
  dsimp only
  rw [show (99 : Nat) = 98 + 1 from rfl, moreLp, a2]
  dsimp only
  rw [show (98 : Nat) = 97 + 1 from rfl, moreLp, a3']
  rfl
set_option maxHeartbeats 2000000 in
theorem t_policy {x y : Ct} (hx : x.ok ∧ x.h ≤ 6) (hy : y.ok ∧ y.h ≤ 6) : ∃ st, policyW (pcToks 0 (tL x y)) 100 20 (stmF (pcToks 0 (tL x y)) 3) rs0 = some (st, (tMs x y).map some) ∧ Good (pcToks 0 (tL x y)) st 0 (17 + x.n + 1 + 5 + y.n + 1 + 28) := by
  have hts := TsIs.pcs (tL x y)
  obtain ⟨st, h1, g1, hd, k16, r1, k15, dB⟩ := cond_at16 hts (q := .one x) (B := tB y) hx rfl
  have r1' : ReadsD Ds0 (pcToks 0 (tL x y)) (cndF (pcToks 0 (tL x y))) 0 17 (17 + x.n) (some (x.M S0 W0)) := r1
  have k15' : kAt (pcToks 0 (tL x y)) (17 + x.n) = 15 := k15
  have dB' : (pcT (tL x y)).drop (17 + x.n + 1) = pcT (tB y) := dB
  clear r1 k15 dB
  generalize pcToks 0 (tL x y) = ts at *
  generalize pcT (tL x y) = T at *
  obtain ⟨a0, d1⟩ := dropT hts (show T.drop (17 + x.n + 1) = sT 123 :: _ from dB')
  obtain ⟨a1, d2⟩ := dropT hts d1
  obtain ⟨a2, d3⟩ := dropT hts d2
  obtain ⟨a3, d4⟩ := dropT hts d3
  obtain ⟨a4, d5⟩ := dropT hts d4
  have d5' : T.drop (17 + x.n + 1 + 5) = y.tk (wT 10 :: pcT tC) := by
    have h : T.drop (17 + x.n + 1 + 5) = pcT (y.pc (.sp :: wPc 10 :: .sp :: tC)) := d5
    rw [h, y.pc_T]; rfl
  obtain ⟨r2, dY⟩ := y.reads hts find_s find_w 20 1 (17 + x.n + 1 + 5) (wT 10) (pcT tC) hy.1 (by have := hy.2; omega) (by omega) (by have := hy.2; omega) ⟨by decide, by decide⟩ d5'
  clear d1 d2 d3 d4 d5 d5' dB'
  generalize hE : 17 + x.n + 1 + 5 + y.n = E at *
  obtain ⟨aT, dC⟩ := dropT hts dY
  have kT : kAt ts E = 15 := kAt_of aT
  have rc : ReadsD Ds0 ts (cndF ts) 1 (17 + x.n + 1 + 5) E (some (y.M S0 W0)) := cond_oneD r2 (by rw [kT]; decide) (by rw [kT]; decide)
  obtain ⟨b0, c1⟩ := dropT hts (show T.drop (E + 1) = sT 123 :: _ from dC)
  obtain ⟨b1, c2⟩ := dropT hts c1
  obtain ⟨b2, c3⟩ := dropT hts c2
  obtain ⟨b3, c4⟩ := dropT hts c3
  obtain ⟨b4, c5⟩ := dropT hts c4
  obtain ⟨b5, c6⟩ := dropT hts c5
  obtain ⟨b6, c7⟩ := dropT hts c6
  obtain ⟨b7, c8⟩ := dropT hts c7
  obtain ⟨b8, c9⟩ := dropT hts c8
  obtain ⟨b9, c10⟩ := dropT hts c9
  obtain ⟨b10, c11⟩ := dropT hts c10
  obtain ⟨b11, c12⟩ := dropT hts c11
  obtain ⟨b12, c13⟩ := dropT hts c12
  obtain ⟨b13, c14⟩ := dropT hts c13
  obtain ⟨b14, c15⟩ := dropT hts c14
  obtain ⟨b15, c16⟩ := dropT hts c15
  obtain ⟨b16, c17⟩ := dropT hts c16
  obtain ⟨b17, c18⟩ := dropT hts c17
  obtain ⟨b18, c19⟩ := dropT hts c18
  obtain ⟨b19, c20⟩ := dropT hts c19
  obtain ⟨b20, c21⟩ := dropT hts c20
  obtain ⟨b21, c22⟩ := dropT hts c21
  obtain ⟨b22, c23⟩ := dropT hts c22
  obtain ⟨b23, c24⟩ := dropT hts c23
  obtain ⟨b24, c25⟩ := dropT hts c24
  obtain ⟨b25, c26⟩ := dropT hts c25
  obtain ⟨b26, c27⟩ := dropT hts c26
  obtain ⟨b27, c28⟩ := dropT hts c27
  obtain ⟨b28, _⟩ := dropT hts c28
  clear c1 c2 c3 c4 c5 c6 c7 c8 c9 c10 c11 c12 c13 c14 c15 c16 c17 c18 c19 c20 c21 c22 c23 c24 c25 c26 c27 c28 dC dY r2
  generalize hF : E + 1 = F at *
  -- the inner statement
  have y1 : Reads ts (blockBy ts (stmF ts 1) 100) 1 F (F + 4) ([concludeM 1].map some) :=
    block_reads (k' := F + 3) ((kAt_of b0).trans s123) (by decide) (by decide) (.cons (k1 := F + 3) (stmt_accept' (kAt_of b1) rfl ((kAt_of b2).trans s59)) (.nil (none125 ((kAt_of b3).trans s125)))) (by decide) ((kAt_of b3).trans s125)
  have n1 : Reads ts (blockBy ts (stmF ts 1) 100) 1 (F + 5) (F + 7) (([] : List StpM).map some) :=
    block_reads (k' := F + 6) ((kAt_of b5).trans s123) (by decide) (by decide) (.nil (none125 ((kAt_of b6).trans s125))) (by decide) ((kAt_of b6).trans s125)
  have i1 : ReadsW Ds0 ts (stmF ts 2) 1 (17 + x.n + 1 + 4) (F + 7) (some (some (chooseM (y.M S0 W0) [concludeM 1] []))) :=
    ifelseW (f := 1) (k1 := E) (k2 := F + 4) (kAt_of a4) rc kT (by rw [hF]; exact fun st g _ => y1 st g) (kAt_of b4) n1
  -- the blocks
  have m1 : ReadsD Ds0 ts (stmF ts 2) (0 + 1) (17 + x.n + 1 + 1) (17 + x.n + 1 + 4) (some (some (markM 1))) := by
    have h := mark_defs (ts := ts) (f := 1) (d := 0 + 1) (k := 17 + x.n + 1 + 1) (kAt_of a1) (kAt_of a2) (by rw [nAt_of a2]; decide) (by rw [nAt_of a2]; decide) ((kAt_of a3).trans s59)
    rw [nAt_of a2] at h
    exact h
  have yB : ReadsW Ds0 ts (blockBy ts (stmF ts 2) 100) 0 (17 + x.n + 1) (F + 8) ([markM 1, chooseM (y.M S0 W0) [concludeM 1] []].map some) :=
    block_two (f := 1) ((kAt_of a0).trans s123) (by decide) (by decide) m1 i1 ((kAt_of b7).trans s125)
  have p1 := stmt_prepend' (ts := ts) (n := 100) (f := 1) (ok := okP) (sum := sumS ts) (cnd := cndF ts) (d := 0 + 1) (k := F + 10) (kAt_of b10) rfl (kAt_of b11) (by rw [nAt_of b11]; decide) (by rw [nAt_of b11]; decide) ((kAt_of b12).trans s59)
  rw [nAt_of b11] at p1
  have nB : Reads ts (blockBy ts (stmF ts 2) 100) 0 (F + 9) (F + 16) ([prependM 3, concludeM 1].map some) :=
    block_reads (k' := F + 15) ((kAt_of b9).trans s123) (by decide) (by decide) (.cons p1 (.cons (k1 := F + 15) (stmt_accept' (kAt_of b13) rfl ((kAt_of b14).trans s59)) (.nil (none125 ((kAt_of b15).trans s125))))) (by decide) ((kAt_of b15).trans s125)
  obtain ⟨s2, h2, g2⟩ := ifelseW (f := 2) (k1 := 17 + x.n) (k2 := F + 8) k16 r1' k15' yB (kAt_of b8) nB st g1 hd
  -- behind it
  have k22 : kAt ts (F + 22) = 34 := (kAt_of b22).trans s41
  have k23 : kAt ts (F + 23) = 39 := (kAt_of b23).trans s45
  have k25 : kAt ts (F + 25) = 27 := (kAt_of b25).trans s59
  have t21 := term_num' (ts := ts) (n := 100) (f := 18) (d := 0 + 1) (k := F + 21) (kAt_of b21)
  rw [nAt_of b21] at t21
  have hin : Reads ts (sumBy ts (termTw ts 100 19) 100) (0 + 1) (F + 19) (F + 22) (some (plusM prefM (constM 2) 1)) :=
    sum_reads (n := 100) (k1 := F + 20) (term_pref' (f := 18) (kAt_of b19)) (.plus (k1 := F + 22) ((kAt_of b20).trans s43) t21 (.nil (by rw [k22]; decide) (by rw [k22]; decide))) (by decide)
  have hsum : Reads ts (sumS ts) 0 (F + 18) (F + 25) (some (plusM (plusM prefM (constM 2) 1) medM (-1))) :=
    sum_reads (n := 100) (k1 := F + 23) (term_paren' (f := 19) ((kAt_of b18).trans s40) (by decide) (by decide) hin k22) (.minus (k1 := F + 25) k23 (term_med' (f := 19) (kAt_of b24)) (.nil (by rw [k25]; decide) (by rw [k25]; decide))) (by decide)
  have q1 := stmt_pref' (ts := ts) (n := 100) (f := 2) (ok := okP) (sum := sumS ts) (cnd := cndF ts) (d := 0) (k := F + 16) (kAt_of b16) rfl ((kAt_of b17).trans s61) hsum k25
  obtain ⟨s3, h3, g3⟩ := pol_done (K := F + 28) h1 h2 g2 (.cons q1 (.cons (k1 := F + 28) (stmt_accept' (kAt_of b26) rfl ((kAt_of b27).trans s59)) (.nil (end_none (kAt_of b28))))) (by decide) (kAt_of b28)
  exact ⟨s3, h3, g3⟩
end Go.Proofs.YtgdeeodifnegiaaGreatDoor
