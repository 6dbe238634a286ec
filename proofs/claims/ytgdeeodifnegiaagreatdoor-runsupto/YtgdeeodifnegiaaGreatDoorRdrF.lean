/- The program's reader: take. -/
import Derived.Test.YtgdeeodifnegiaaGreatDoorRdrD
namespace Go.Proofs.YtgdeeodifnegiaaGreatDoor
open Go.RowKit

theorem RA.noNew {w : World} {pb : Nat} {ts : List TokP} {st : RS} {D O : Nat → Prop} (h : RA w pb ts st D O) {k : Nat} (hk : w.heap.size ≤ k) : ¬ O k ∧ ¬ D k :=
  ⟨fun ho => by have := h.lt ho; omega, fun hd => by have := (h.free hd).1; omega⟩
/-- a block of one's own lies still through a call -/
theorem fr_keeps {w w' : World} {O O' : Nat → Prop} {k : Nat} {o : Obj} (hf : Fr O w O' w') (hb : w.heap[k]? = some o) (hn : ¬ O k) : w'.heap[k]? = some o ∧ ¬ O' k := by
  have hl : k < w.heap.size := heap_lt hb
  refine ⟨(hf.block k hl hn).trans hb, fun ho => ?_⟩
  rcases hf.own k ho with h1 | h1
  · exact hn h1
  · omega
theorem kind_drew {w : World} {pb : Nat} {ts : List TokP} {st : RS} {D O : Nat → Prop} (h : RA w pb ts st D O) (hk : st.next < ts.length) (hn : ts.length ≤ 601) :
    Calls Tryz.prog 170 #[ptr4 pb 0] w fun e w' => e = .returned (.int .i64 (kindR ts st)) ∧ RA w' pb ts st D O ∧ Fr O w O w' ∧ w'.heap = w.heap := by
  refine (kind_any h hk hn).mono ?_
  rintro e w' ⟨rfl, q, rfl⟩
  exact ⟨rfl, h.drewN q, (Fr.refl _ _).drewN q, rfl⟩
theorem tok6 {w : World} {b : Nat} {t : TokP} (h : w.heap[b]? = some (tokBlk t)) :
    w.cell? ⟨b, 0, none⟩ = some (.int .i64 t.kind) ∧ w.cell? ⟨b, 1, none⟩ = some (.int .i64 t.at_) ∧ w.cell? ⟨b, 2, none⟩ = some (.string t.text) ∧ w.cell? ⟨b, 3, none⟩ = some (.int .i64 t.number) ∧ w.cell? ⟨b, 4, none⟩ = some (.int .i64 t.addr) ∧ w.cell? ⟨b, 5, none⟩ = some (.int .i64 t.len) ∧ ∀ o, w.frozen? ⟨b, o, none⟩ = false :=
  ⟨cell_of_heap h, cell_of_heap h, cell_of_heap h, cell_of_heap h, cell_of_heap h, cell_of_heap h, fun _ => frozen_of_heap h⟩
def TokC (pb : Nat) (ts : List TokP) (w : World) (D O : Nat → Prop) (r : RS × TokP) (e : Ending) (w' : World) : Prop :=
  e = .returned (tokV r.2) ∧ ∃ O', RA w' pb ts r.1 D O' ∧ Fr O w O' w'

set_option maxRecDepth 100000 in
set_option maxHeartbeats 2000000 in
theorem take_not {w : World} {pb : Nat} {ts : List TokP} {st : RS} {D O : Nat → Prop} (h : RA w pb ts st D O) (hk : st.next < ts.length) (hn : ts.length ≤ 601) (k : Int) (hne : kindR ts st ≠ k) :
    Calls Tryz.prog 213 #[ptr4 pb 0, .int .i64 k] w (TokC pb ts w D O (failR ts st, tok0)) := by
  have HH := hide h
  have HK := hide (kind_drew (h.alloc (tokBlk tok0)) hk hn)
  have hb : (kindR ts st != k) = true := by simpa using hne
  have HN := hide (h.noNew (Nat.le_refl _))
  clear h hne
  go_enter Tryz.func213, Tryz.ntmps213
  go_wp2_with (first
    | (go_at_call 170; refine (unhide HK).mono ?_; rintro e w1 ⟨rfl, hr1, hf1, _⟩; have HR1 := hide hr1; have HF1 := hide hf1; clear hr1 hf1)
    | (go_at_call 171; refine (fail_any (unhide HR1) hk hn).mono ?_; rintro e w2 ⟨rfl, hr2, hf2⟩; have hb2 := fr_keeps ((unhide HF1).trans hf2) (heap_new w _ _) (unhide HN).1; have HR2 := hide hr2; have HF2 := hide (((Fr.refl _ w).alloc _).trans ((unhide HF1).trans hf2)); have HB2 := hide hb2.1; have HO2 := hide hb2.2; clear hr2 hf2 hb2; obtain ⟨s0, s1, s2, s3, s4, s5, hz⟩ := tok6 (unhide HB2)))
  refine bodyPost_ret (v := tokV tok0) (by simp [results, Tryz.results213, go_sem, s0, s1, s2, s3, s4, s5, tok0]) rfl ⟨rfl, O, ?_, ?_⟩
  · exact ((((((unhide HR2).other ⟨unhide HO2, (unhide HN).2⟩ _ _).other ⟨unhide HO2, (unhide HN).2⟩ _ _).other ⟨unhide HO2, (unhide HN).2⟩ _ _).other ⟨unhide HO2, (unhide HN).2⟩ _ _).other ⟨unhide HO2, (unhide HN).2⟩ _ _).other ⟨unhide HO2, (unhide HN).2⟩ _ _
  · exact ((((((unhide HF2).setCell (Or.inr (Nat.le_refl _)) _).setCell (Or.inr (Nat.le_refl _)) _).setCell (Or.inr (Nat.le_refl _)) _).setCell (Or.inr (Nat.le_refl _)) _).setCell (Or.inr (Nat.le_refl _)) _).setCell (Or.inr (Nat.le_refl _)) _

set_option maxRecDepth 100000 in
set_option maxHeartbeats 2000000 in
theorem take_yes0 : True := trivial
theorem RA.step1 {w : World} {pb : Nat} {ts : List TokP} {st : RS} {D O : Nat → Prop} (h : RA w pb ts st D O) : RA (w.setCell ⟨pb, 1, none⟩ (.int .i64 ((st.next : Int) + 1))) pb ts { st with next := st.next + 1 } D O := by
  have := h.putNext (st.next + 1)
  simpa using this
set_option maxRecDepth 100000 in
set_option maxHeartbeats 2000000 in
theorem take_yes {w : World} {pb : Nat} {ts : List TokP} {st : RS} {D O : Nat → Prop} (h : RA w pb ts st D O) (hk : Ok ts st) (hn : ts.length ≤ 601) (ht : (tokR ts st).text.size ≤ 600) (k : Int) (hne : kindR ts st = k) :
    Calls Tryz.prog 213 #[ptr4 pb 0, .int .i64 k] w (TokC pb ts w D O (goR ts st, tokR ts st)) := by
  have HH := hide h
  have HK := hide (kind_drew (h.alloc (tokBlk tok0)) hk.next hn)
  have hb : (kindR ts st != k) = false := by simpa using hne
  have HN := hide (h.noNew (Nat.le_refl _))
  have hk1 := hk.next
  have HOK := hide hk
  clear h hne hk
  go_enter Tryz.func213, Tryz.ntmps213
  go_wp2_with (go_at_call 170; refine (unhide HK).mono ?_; rintro e w1 ⟨rfl, hr1, hf1, hh1⟩; have hs1 : w1.heap.size = w.heap.size + 1 := (by rw [hh1]; simp); have HB1 := hide (show w1.heap[w.heap.size]? = some (tokBlk tok0) by rw [hh1]; exact heap_new w _ _); clear hh1; have HR1 := hide hr1; have HF1 := hide hf1; obtain ⟨_, _, _, _, n1, zn1⟩ := hr1.cells; obtain ⟨tb, tc, dv, av, bv, h1, hO1⟩ := hr1; have c0 : w1.cell? ⟨pb, 0, none⟩ = some (.slice (some ⟨tb, 0, none⟩) ts.length tc) := cell_of_heap h1.blk; obtain ⟨t0, t1, t2, t3, t4, t5⟩ := h1.tok hk1; have lp : pb < w1.heap.size := heap_lt h1.blk; have ltb : tb < w1.heap.size := h1.lt (Or.inr (Or.inl rfl)); clear h1 hO1 hf1; have hal := (bcell' ((Below.refl w1.heap.size w1).alloc (Nat.le_refl _) (.cells #[.int .i64 0, .int .i64 0, .string ⟨#[]⟩, .int .i64 0, .int .i64 0, .int .i64 0] 216))).1; have c0' := (hal pb 0 lp).trans c0; have n1' := (hal pb 1 lp).trans n1; have t0' := (hal tb _ ltb).trans t0; have t1' := (hal tb _ ltb).trans t1; have t2' := (hal tb _ ltb).trans t2; have t3' := (hal tb _ ltb).trans t3; have t4' := (hal tb _ ltb).trans t4; have t5' := (hal tb _ ltb).trans t5; clear hal; generalize hx : st.next = n at *; generalize hl : ts.length = N at *; generalize htk : tokR ts st = T at *)
  go_region
  have lR : w.heap.size < w1.heap.size := by omega
  have HR2 := hide (((unhide HR1).alloc (tokBlk T)).drew)
  have hb2 : ((w1.alloc (tokBlk T)).drew).heap[w.heap.size + 1]? = some (tokBlk T) := by rw [← hs1]; exact heap_new w1 _ _
  have hb3 : ((w1.alloc (tokBlk T)).drew).heap[w.heap.size]? = some (tokBlk tok0) := (Below.heap_alloc w1 (tokBlk T) _ lR).trans (unhide HB1)
  have HF2 := hide ((((Fr.refl O w).alloc _).trans (unhide HF1)).alloc (tokBlk T)).drew
  have hs2 : ((w1.alloc (tokBlk T)).drew).heap.size = w.heap.size + 2 := by simp [hs1]
  have HN2 := hide (show ¬ O (w.heap.size + 1) ∧ ¬ D (w.heap.size + 1) by rw [← hs1]; exact (unhide HR1).noNew (Nat.le_refl _))
  obtain ⟨_, _, _, _, m1, zm1⟩ := (unhide HR2).cells
  clear c0 c0' n1 n1' t0 t0' t1 t1' t2 t2' t3 t3' t4 t4' t5 t5' zn1
  have lp2 : pb < ((w1.alloc (tokBlk T)).drew).heap.size := by rw [hs2]; omega
  generalize ((w1.alloc (tokBlk T)).drew) = W2 at *
  rw [hx] at m1
  have hb2' : (W2.setCell ⟨pb, 1, none⟩ (.int .i64 ((n : Int) + 1))).heap[w.heap.size + 1]? = some (tokBlk T) := by rw [heap_set_other (by show w.heap.size + 1 ≠ pb; omega)]; exact hb2
  have hb3' : (W2.setCell ⟨pb, 1, none⟩ (.int .i64 ((n : Int) + 1))).heap[w.heap.size]? = some (tokBlk tok0) := by rw [heap_set_other (by show w.heap.size ≠ pb; have := (unhide HH).lt (unhide HH).own; omega)]; exact hb3
  have HR3 := hide (show RA (W2.setCell ⟨pb, 1, none⟩ (.int .i64 ((n : Int) + 1))) pb ts { st with next := st.next + 1 } D O by rw [← hx]; exact (unhide HR2).step1)
  have HF3 := hide ((unhide HF2).setCell (p := ⟨pb, 1, none⟩) (Or.inl (unhide HR2).own) (.int .i64 ((n : Int) + 1)))
  obtain ⟨W3, hW3⟩ : ∃ W3, W2.setCell ⟨pb, 1, none⟩ (.int .i64 ((n : Int) + 1)) = W3 := ⟨_, rfl⟩
  rw [hW3] at hb2' hb3' HR3 HF3
  have HB3 := hide hb3'
  have HB2 := hide hb2'
  obtain ⟨u0, u1, u2, u3, u4, u5, hu⟩ := tok6 hb2'
  clear hb2' hb3' hb2 hb3
  go_wp2_with fail
  clear hW3
  have HA := hide (add_any (unhide HR3).drew T ht (unhide HOK).gap (by have := (unhide HOK).page; have h2 := (unhide HOK).next; show st.page.length ≤ _; omega))
  go_region_with (go_at_call 259; refine (unhide HA).mono ?_; rintro e w4 ⟨rfl, O4, hr4, hf4⟩)
  all_goals
    have hf4' := ((Fr.refl _ _).drew).trans hf4
    have g2 := fr_keeps hf4' (unhide HB2) (unhide HN2).1
    have g3 := fr_keeps hf4' (unhide HB3) (unhide HN).1
    have HR4 := hide hr4
    have HF4 := hide ((unhide HF3).trans hf4')
    have HO4 := hide g3.2
    obtain ⟨v0, v1, v2, v3, v4, v5, hv⟩ := tok6 g2.1
    obtain ⟨s0, s1, s2, s3, s4, s5, hz⟩ := tok6 g3.1
    clear g2 g3 hr4 hf4 hf4' u0 u1 u2 u3 u4 u5 hu
    go_wp2_with fail
    refine bodyPost_ret (v := tokV T) (by simp [results, Tryz.results213, go_sem, s0, s1, s2, s3, s4, s5]) rfl ⟨rfl, O4, ?_, ?_⟩
    · rw [show goR ts st = addR { st with next := st.next + 1 } T by rw [goR, htk]]
      exact ((((((unhide HR4).other ⟨unhide HO4, (unhide HN).2⟩ _ _).other ⟨unhide HO4, (unhide HN).2⟩ _ _).other ⟨unhide HO4, (unhide HN).2⟩ _ _).other ⟨unhide HO4, (unhide HN).2⟩ _ _).other ⟨unhide HO4, (unhide HN).2⟩ _ _).other ⟨unhide HO4, (unhide HN).2⟩ _ _
    · exact ((((((unhide HF4).setCell (Or.inr (Nat.le_refl _)) _).setCell (Or.inr (Nat.le_refl _)) _).setCell (Or.inr (Nat.le_refl _)) _).setCell (Or.inr (Nat.le_refl _)) _).setCell (Or.inr (Nat.le_refl _)) _).setCell (Or.inr (Nat.le_refl _)) _

theorem tokR_mem {ts : List TokP} {st : RS} (h : st.next < ts.length) : tokR ts st ∈ ts := by rw [tokR_eq h]; exact List.getElem_mem h
theorem take_any {w : World} {pb : Nat} {ts : List TokP} {st : RS} {D O : Nat → Prop} (h : RA w pb ts st D O) (hk : Ok ts st) (ht : TsOk ts) (k : Int) :
    Calls Tryz.prog 213 #[ptr4 pb 0, .int .i64 k] w (TokC pb ts w D O (takeR ts k st)) := by
  unfold takeR
  by_cases hne : kindR ts st = k
  · rw [if_pos hne]
    exact take_yes h hk ht.n1 (by rw [tokR_eq hk.next]; exact ht.text _ hk.next) k hne
  · rw [if_neg hne]
    exact take_not h hk.next ht.n1 k hne
end Go.Proofs.YtgdeeodifnegiaaGreatDoor

namespace Go.Proofs.YtgdeeodifnegiaaGreatDoor
open Go.RowKit

theorem goR_ok {ts : List TokP} {st : RS} (h : Ok ts st) (ht : TsOk ts) (hk : 2 ≤ (tokR ts st).kind) : Ok ts (goR ts st) := by
  have hn := h.next
  have h1 := ht.last st.next hn (by rw [tokR_eq hn] at hk; exact hk)
  have h2 : (tokR ts st).text.size ≤ 600 := by rw [tokR_eq hn]; exact ht.text _ hn
  have h3 := h.page
  have h4 : st.gap.data.size ≤ 1 := h.gap
  have h5 : (tokR ts st).text.data.size ≤ 600 := h2
  refine ⟨h1, ?_, ?_⟩
  · show (if _ then _ else _ : List UInt8).length ≤ 700 * (st.next + 1)
    split <;> simp only [List.length_append, Array.length_toList] <;> omega
  · show (if _ then gapN else gapS : ByteArray).size ≤ 1
    split <;> decide
theorem failR_ok {ts : List TokP} {st : RS} (h : Ok ts st) : Ok ts (failR ts st) := ⟨h.next, h.page, h.gap⟩
theorem kindR_tok {ts : List TokP} {st : RS} {k : Int} (h : kindR ts st = k) (hk : 2 ≤ k) : (tokR ts st).kind = k ∧ st.syn = none := by
  unfold kindR at h
  cases hs : st.syn with
  | none => rw [hs] at h; exact ⟨h, rfl⟩
  | some x => rw [hs] at h; simp at h; omega
theorem goR_ok' {ts : List TokP} {st : RS} {k : Int} (h : Ok ts st) (ht : TsOk ts) (e : kindR ts st = k) (hk : 2 ≤ k) : Ok ts (goR ts st) :=
  goR_ok h ht (by rw [(kindR_tok e hk).1]; exact hk)
theorem takeR_ok {ts : List TokP} {st : RS} {k : Int} (h : Ok ts st) (ht : TsOk ts) (hk : 2 ≤ k) : Ok ts (takeR ts k st).1 := by
  unfold takeR
  by_cases e : kindR ts st = k
  · rw [if_pos e]; exact goR_ok' h ht e hk
  · rw [if_neg e]; exact failR_ok h
theorem depth_ok {ts : List TokP} {st : RS} (h : Ok ts st) (d : Int) : Ok ts { st with depth := d } := ⟨h.next, h.page, h.gap⟩
theorem openR_ok {ts : List TokP} {st : RS} {k : Int} (h : Ok ts st) (ht : TsOk ts) (hk : 2 ≤ k) : Ok ts (openR ts k st) := by
  unfold openR
  refine depth_ok (takeR_ok ?_ ht hk) _
  split
  · exact failR_ok h
  · exact h
theorem shutR_ok {ts : List TokP} {st : RS} {k : Int} (h : Ok ts st) (ht : TsOk ts) (hk : 2 ≤ k) : Ok ts (shutR ts k st) := depth_ok (takeR_ok h ht hk) _
theorem decR_ok {ts : List TokP} {st : RS} (h : Ok ts st) : Ok ts (decR st) := depth_ok h _
theorem endLineR_ok {ts : List TokP} {st : RS} (h : Ok ts st) : Ok ts (endLineR st) := ⟨h.next, h.page, by show gapN.size ≤ 1; decide⟩
theorem withinR_ok {ts : List TokP} {st : RS} {a b : Int} (h : Ok ts st) (ht : TsOk ts) : Ok ts (withinR ts a b st).1 := by
  have h1 := takeR_ok (k := 2) h ht (by decide)
  show Ok ts (if _ then _ else _)
  split
  · exact ⟨h1.next, h1.page, h1.gap⟩
  · exact h1

set_option maxRecDepth 100000 in
set_option maxHeartbeats 1000000 in
theorem took_yes {w : World} {pb : Nat} {ts : List TokP} {st : RS} {D O : Nat → Prop} (h : RA w pb ts st D O) (hk : Ok ts st) (ht : TsOk ts) (k : Int) (e : kindR ts st = k) :
    Calls Tryz.prog 211 #[ptr4 pb 0, .int .i64 k] w fun e w' => e = .returned (.bool true) ∧ ∃ O', RA w' pb ts (goR ts st) D O' ∧ Fr O w O' w' := by
  have HK := hide (kind_drew h hk.next ht.n1)
  have hb : (kindR ts st != k) = false := by simpa using e
  have HT := hide (fun W (hW : RA W pb ts st D O) => take_yes hW hk ht.n1 (by rw [tokR_eq hk.next]; exact ht.text _ hk.next) k e)
  clear h e hk ht
  go_enter Tryz.func211, Tryz.ntmps211
  go_wp2_with (first
    | (go_at_call 170; refine (unhide HK).mono ?_; rintro e w1 ⟨rfl, hr1, hf1, _⟩; have HR1 := hide hr1; have HF1 := hide hf1; clear hr1 hf1)
    | (go_at_call 213; refine ((unhide HT) _ (unhide HR1)).mono ?_; rintro e w2 ⟨rfl, O2, hr2, hf2⟩; have HR2 := hide hr2; have HF2 := hide ((unhide HF1).trans hf2); clear hr2 hf2))
  go_ret
  exact ⟨rfl, _, unhide HR2, unhide HF2⟩
set_option maxRecDepth 100000 in
set_option maxHeartbeats 1000000 in
theorem took_no {w : World} {pb : Nat} {ts : List TokP} {st : RS} {D O : Nat → Prop} (h : RA w pb ts st D O) (hk : Ok ts st) (ht : TsOk ts) (k : Int) (e : kindR ts st ≠ k) :
    Calls Tryz.prog 211 #[ptr4 pb 0, .int .i64 k] w fun e w' => e = .returned (.bool false) ∧ RA w' pb ts st D O ∧ Fr O w O w' := by
  have HK := hide (kind_drew h hk.next ht.n1)
  have hb : (kindR ts st != k) = true := by simpa using e
  clear h e hk ht
  go_enter Tryz.func211, Tryz.ntmps211
  go_wp2_with (go_at_call 170; refine (unhide HK).mono ?_; rintro e w1 ⟨rfl, hr1, hf1, _⟩; have HR1 := hide hr1; have HF1 := hide hf1; clear hr1 hf1)
  go_ret
  exact ⟨rfl, unhide HR1, unhide HF1⟩
/-- took, either way -/
theorem took_any {w : World} {pb : Nat} {ts : List TokP} {st : RS} {D O : Nat → Prop} (h : RA w pb ts st D O) (hk : Ok ts st) (ht : TsOk ts) (k : Int) :
    Calls Tryz.prog 211 #[ptr4 pb 0, .int .i64 k] w fun e w' => e = .returned (.bool (decide (kindR ts st = k))) ∧ ∃ O', RA w' pb ts (if kindR ts st = k then goR ts st else st) D O' ∧ Fr O w O' w' := by
  by_cases e : kindR ts st = k
  · refine (took_yes h hk ht k e).mono ?_
    rintro _ w' ⟨rfl, O', h1, h2⟩
    rw [if_pos e, decide_eq_true e]
    exact ⟨rfl, O', h1, h2⟩
  · refine (took_no h hk ht k e).mono ?_
    rintro _ w' ⟨rfl, h1, h2⟩
    rw [if_neg e, decide_eq_false e]
    exact ⟨rfl, O, h1, h2⟩

set_option maxRecDepth 100000 in
set_option maxHeartbeats 1000000 in
theorem shut_any {w : World} {pb : Nat} {ts : List TokP} {st : RS} {D O : Nat → Prop} (h : RA w pb ts st D O) (hk : Ok ts st) (ht : TsOk ts) (k : Int) :
    Calls Tryz.prog 310 #[ptr4 pb 0, .int .i64 k] w fun e w' => e = .returned (.tuple #[]) ∧ ∃ O', RA w' pb ts (shutR ts k st) D O' ∧ Fr O w O' w' := by
  have HT := hide (take_any h hk ht k)
  clear h hk ht
  go_enter Tryz.func310, Tryz.ntmps310
  go_wp2_with (go_at_call 213; refine (unhide HT).mono ?_; rintro e w2 ⟨rfl, O2, hr2, hf2⟩; obtain ⟨_, _, d1, zd1, _⟩ := hr2.cells; have HR2 := hide hr2; have HF2 := hide hf2; clear hr2 hf2)
  go_end0
  exact ⟨rfl, O2, (unhide HR2).putDepth _, (unhide HF2).setCell (Or.inl (unhide HR2).own) _⟩
set_option maxRecDepth 100000 in
set_option maxHeartbeats 1000000 in
theorem open_any {w : World} {pb : Nat} {ts : List TokP} {st : RS} {D O : Nat → Prop} (h : RA w pb ts st D O) (hk : Ok ts st) (ht : TsOk ts) (k : Int) :
    Calls Tryz.prog 309 #[ptr4 pb 0, .int .i64 k] w fun e w' => e = .returned (.tuple #[]) ∧ ∃ O', RA w' pb ts (openR ts k st) D O' ∧ Fr O w O' w' := by
  obtain ⟨_, _, d1, zd1, _⟩ := h.cells
  by_cases h8 : st.depth = 8
  · have HF := hide (fail_any h hk.next ht.n1)
    have HT := hide (fun W (hW : RA W pb ts (failR ts st) D O) => take_any hW (failR_ok hk) ht k)
    have hb : (st.depth == 8) = true := by simpa using h8
    have HQ := hide (show openR ts k st = { (takeR ts k (failR ts st)).1 with depth := wr64 ((takeR ts k (failR ts st)).1.depth + 1) } by simp [openR, h8])
    clear h hk ht h8
    go_enter Tryz.func309, Tryz.ntmps309
    go_wp2_with (first
      | (go_at_call 171; refine (unhide HF).mono ?_; rintro e w1 ⟨rfl, hr1, hf1⟩; have HR1 := hide hr1; have HF1 := hide hf1; clear hr1 hf1)
      | (go_at_call 213; refine ((unhide HT) _ (unhide HR1)).mono ?_; rintro e w2 ⟨rfl, O2, hr2, hf2⟩; obtain ⟨_, _, d2, zd2, _⟩ := hr2.cells; have HR2 := hide hr2; have HF2 := hide ((unhide HF1).trans hf2); clear hr2 hf2))
    go_end0
    exact ⟨rfl, O2, by rw [unhide HQ]; exact (unhide HR2).putDepth _, (unhide HF2).setCell (Or.inl (unhide HR2).own) _⟩
  · have HT := hide (take_any h hk ht k)
    have hb : (st.depth == 8) = false := by simpa using h8
    have HQ := hide (show openR ts k st = { (takeR ts k st).1 with depth := wr64 ((takeR ts k st).1.depth + 1) } by simp [openR, h8])
    clear h hk ht h8
    go_enter Tryz.func309, Tryz.ntmps309
    go_wp2_with (go_at_call 213; refine (unhide HT).mono ?_; rintro e w2 ⟨rfl, O2, hr2, hf2⟩; obtain ⟨_, _, d2, zd2, _⟩ := hr2.cells; have HR2 := hide hr2; have HF2 := hide hf2; clear hr2 hf2)
    go_end0
    exact ⟨rfl, O2, by rw [unhide HQ]; exact (unhide HR2).putDepth _, (unhide HF2).setCell (Or.inl (unhide HR2).own) _⟩
end Go.Proofs.YtgdeeodifnegiaaGreatDoor
