/- Read: where a fault of a name or of a number was told; the exact text that a policy is printed as (package policy). -/
import Derived.Test.YtgdeeodifnegiaaGreatDoorRdrR
namespace Go.Proofs.YtgdeeodifnegiaaGreatDoor
open Go.RowKit Go.Shelf
attribute [local go_sem] Oper.semAt_some

set_option maxRecDepth 100000 in
set_option maxHeartbeats 1000000 in
theorem done_exact {w : World} {pb : Nat} {ts : List TokP} {st : RS} {D O : Nat → Prop} (h : RA w pb ts st D O) (h0 : st.page ≠ []) (hn : st.page.length ≤ 1000000) (hg : st.gap.size ≤ 1) :
    Calls Tryz.prog 111 #[ptr4 pb 4] w fun e w' => e = .returned (.string (⟨st.page.toArray⟩ ++ st.gap)) ∧ Fr O w O w' := by
  obtain ⟨c6, _⟩ := h.cells
  have HS := hide (string_any h.drew h0 hn)
  have HH := hide h
  have hps : (⟨st.page.toArray⟩ : ByteArray).size ≤ 1000000 := by show st.page.toArray.size ≤ _; simpa using hn
  generalize (⟨st.page.toArray⟩ : ByteArray) = PG at *
  clear h h0 hn
  go_enter Tryz.func111, Tryz.ntmps111
  go_wp2_with fail
  go_region_with (go_at_call 172; refine (unhide HS).mono ?_; rintro e w1 ⟨rfl, hf1, hk1, hb1⟩; have c6' : w1.cell? ⟨pb, 6, none⟩ = some (.string st.gap) := (by unfold World.cell? at c6 ⊢; rw [show w1.heap[pb]? = w.heap[pb]? from hb1]; exact c6); have HF1 := hide hf1; clear hf1 hk1 hb1)
  all_goals
    go_wp2_with fail
    go_ret
    exact ⟨rfl, ((Fr.refl _ _).drew).trans (unhide HF1)⟩
set_option maxRecDepth 100000 in
set_option maxHeartbeats 4000000 in
theorem read_exact (s : ByteArray) (hs : s.size ≤ 600) (w : World) (ht : TokTabs w) (hts : TsOk (allP s)) (hl0 : 0 < (allP s).length) {st : RS} {l : List (Option StpM)} {ms : List StpM}
    (hpol : ∀ (pb : Nat) (W : World) (O : Nat → Prop), RA W pb (allP s) rs0 (fun _ => False) O → Ok (allP s) rs0 → Calls Tryz.prog 110 #[ptr4 pb 0] W (PolRes pb (allP s) W O (st, l))) (f1 : st.syn = none) (f2 : st.nam = none) (f3 : st.num = none) (hms : allO l = some ms) (hpage : st.page ≠ []) :
    Calls Tryz.prog 65 #[.string s] w fun e w' => ∃ sv, e = .returned (.tuple #[.agg #[.string (⟨st.page.toArray⟩ ++ st.gap), sv], .int .i64 0, .int .i64 0]) ∧ Below w.heap.size w w' ∧ Lasts w' (fun k => w.heap.size ≤ k) (StepsC sv ms) := by
  obtain ⟨i0, hi0, hz0, hz1, hz2⟩ := info_parts Tryz.infoTok
  refine (callsIn_wide (n := 6)).1 ?_
  refine callsIn_of_wp_marks Tryz.func65 rfl trivial ?_ rfl
  simp only [Tryz.ntmps65, List.size_toArray, List.length_cons, List.length_nil, Nat.reduceAdd, Nat.reduceSub, Array.replicate_succ, Array.replicate_zero, List.push_toArray, List.append_toArray, List.nil_append, List.cons_append]
  gi_wp2_with (refine ⟨trivial, ?_⟩; gi_at_call 109; refine ((callsIn_wide).2 (All_call _ _)).mono ?_; rintro e w' ⟨rfl, rfl⟩)
  obtain ⟨n1, n2, n3, sz⟩ := three_new w polBlk (rdBlk (.slice none 0 0)) (box1 (.string s) 9)
  have hB0 := W0_below s w
  have hsz0 := W0_size s w
  refine wpIn_rangeFunc_ownH (w0 := W0of s w) rfl (by decide) (gf := 164) (lb := #[ptr4 (w.heap.size + 1 + 1) 0]) rfl trivial (enters_of Tryz.func164 (by kernel_rfl) rfl)
    (all_stops 5 (by decide) s hs w ht) (fun h g => KpR.trans h g) (fun W l o o' hl hlo ho _ => KpR.putObj (by have h : (W0of s w).heap.size ≤ l := hl; omega) hlo ho) (Below.refl _ _) (fun _ => rfl)
    (RdI w (w.heap.size + 1) (w.heap.size + 3)) (fun _ _ _ => False) ?hI (fun _ _ _ _ _ h _ _ => h) ?h0 (RdAx s w (w.heap.size + 1) (w.heap.size + 3)) ?hAx ?assign ?body ?done ?stop
  case hI => have h := RdI.own w (w.heap.size + 1) (w.heap.size + 3) (by omega); exact (show OwnFrom (W0of s w).heap.size _ by rw [hsz0]; exact h)
  case h0 => exact ⟨⟨_, n2, World.ownsRow_nil _ _ _ _, fun k e => by simp [Value.ownBlock] at e⟩, n1, hB0, Nat.le_of_eq hsz0.symm⟩
  case hAx => intro x a'; have h := RdAx.own s w (w.heap.size + 1) (w.heap.size + 3) (by omega) x a'; exact (show OwnFrom (W0of s w).heap.size _ by rw [hsz0]; exact h)
  case assign =>
    rintro l pre x W K hi hK
    have HI := hide hi
    obtain ⟨⟨v, hb, ho, hn⟩, hR, hBw, hzz⟩ := hi
    have hpw : w.heap.size + 1 < W.heap.size := heap_lt hb
    have HRW := hide (show rowOf (w.heap.size + 1) W ≠ some W.heap.size from fun e => by rw [rowOf_rd hb] at e; have := (ho.lt _ e).2; omega)
    have HK := hide hK
    clear hb ho hn hR hBw hK
    gi_wp2
    refine (unhide HK) _ _ ((KeepsOthers.alloc _ _).from _) (KpR.of_below hpw ((Below.refl _ _).alloc (Nat.le_refl _) _)) ((RdI.own w (w.heap.size + 1) (w.heap.size + 3) (by omega)).alloc _ (unhide HI)) ⟨W.heap.size, hzz, heap_new W _ _, ?_, by rw [World.size_alloc]; omega, rfl⟩
    · rw [rowOf_below hpw ((Below.refl _ _).alloc (Nat.le_refl _) _)]; exact unhide HRW
  case body =>
    rintro l pre x a' W hl ⟨r, hr⟩ ⟨⟨v, hb, ho, hn⟩, hR, hBw, hnW⟩ ⟨Bx, hBx, hbx, hrow, hpw, rfl⟩ hlt
    have c0 : W.cell? ⟨w.heap.size + 1, 0, none⟩ = some v := cell_of_heap hb
    have z0 : W.frozen? ⟨w.heap.size + 1, 0, none⟩ = false := frozen_of_heap hb
    obtain ⟨t0, t1, t2, t3, t4, t5, tz⟩ := tok6 hbx
    obtain ⟨va, vc, rfl⟩ := owns_form' ho
    have HB := hide hb
    have HO := hide ho
    have HN := hide hn
    have HR := hide hR
    have HBW := hide hBw
    have hln : pre.length ≤ 1000 := by omega
    clear hb ho hn hR hBw hbx
    unfold rdTmps
    gi_wp2_with (gi_at_builtin; refine wpListIn_append_own_at _ rfl _ _ 200 rfl 0 216 i0 _ 6 56 Tryz.underlying200 hi0 hz0 hz1 hz2 rfl (by decide) (.slice va pre.length vc) pre.length (tokCells pre) rfl ((unhide HO).alloc (tokBlk x)) ⟨W.heap.size, 0, none⟩ 1 1 [.int .i64 x.kind, .int .i64 x.at_, .string x.text, .int .i64 x.number, .int .i64 x.addr, .int .i64 x.len] rfl rfl (World.news_of_block (cs := #[.int .i64 x.kind, .int .i64 x.at_, .string x.text, .int .i64 x.number, .int .i64 x.addr, .int .i64 x.len]) (t := 216) (fr := (0, 0)) (heap_alloc_new _ _)) (by simp [Value.oneCell']) (by simp [maxLen]; omega) (by omega) (Nat.zero_le _) ?_; intro v' w1 hown hgrow hnil hat; obtain ⟨fa, fb, hfv⟩ := owns_form' hown; have hpb1 : w1.heap[w.heap.size + 1]? = some (rdBlk (.slice va pre.length vc)) := (hgrow.block _ (by rw [World.size_alloc]; omega) (fun e => by have := (unhide HN) _ e.symm; omega)).trans ((Below.heap_alloc _ _ _ hpw).trans (unhide HB)); have d0 : w1.cell? ⟨w.heap.size + 1, 0, none⟩ = some (.slice va pre.length vc) := cell_of_heap hpb1; have dz : w1.frozen? ⟨w.heap.size + 1, 0, none⟩ = false := frozen_of_heap hpb1; have HFIN := hide (RdI.snoc (unhide HB) (unhide HO) (unhide HN) (unhide HR) (unhide HBW) (by omega) (by omega) hnW hown hgrow hat); clear hown hgrow hat hnil hpb1; subst hfv)
    exact ⟨(show KeepsFrom (W0of s w).heap.size _ _ by rw [hsz0]; exact (unhide HFIN).1), (unhide HFIN).2.1, (unhide HFIN).2.2⟩
  case done =>
    rintro D xs W hD rfl ⟨⟨v, hb, ho, hn0⟩, hR, hBw, hz⟩ hK
    have hD0 : (W0of s w).heap.size ≤ D := hD
    obtain ⟨tb, tc, rfl, _, htb⟩ := World.ownsRow.form ho hl0
    have htn : w.heap.size + 3 ≤ tb := hn0 tb rfl
    have hra : RAt W (w.heap.size + 1) (allP s) rs0 (fun _ => False) tb tc (.slice none 0 0) (.pointer none) (.slice none 0 0) :=
      ⟨hb, ho, World.ownsRow_nil _ _ _ _, Or.inl rfl, ⟨[], World.ownsRow_nil _ _ _ _, rfl, fun i d x hi => by simp [rs0] at hi⟩, by omega, by simp [Value.ownBlock], by simp [Value.ownBlock], by simp [Value.ownBlock], by simp [Value.ownBlock], Or.inl rfl, fun k h => h.elim⟩
    have HRA : Hid (RA W (w.heap.size + 1) (allP s) rs0 (fun _ => False) (ROwn (w.heap.size + 1) tb (.slice none 0 0) (.slice none 0 0))) := ⟨tb, tc, _, _, _, hra, rfl⟩
    have hDt : tb ≠ D := fun e => by
      obtain ⟨_, h2⟩ := ho
      rcases h2 with ⟨h2, _⟩ | ⟨g, cap, cur, hv, _, hg, _⟩
      · cases h2
      · cases hv; rw [e, hK] at hg; cases hg
    have hOD : ¬ ROwn (w.heap.size + 1) tb (.slice none 0 0) (.slice none 0 0) D := fun h => by
      rcases h with h | h | h | h
      · omega
      · exact hDt h.symm
      · cases h
      · cases h
    have hOR : ¬ ROwn (w.heap.size + 1) tb (.slice none 0 0) (.slice none 0 0) w.heap.size := fun h => by
      rcases h with h | h | h | h
      · omega
      · omega
      · cases h
      · cases h
    have hOlow : Hid (∀ k, k < w.heap.size → ¬ ROwn (w.heap.size + 1) tb (.slice none 0 0) (.slice none 0 0) k) := fun k hk h => by
      rcases h with h | h | h | h
      · omega
      · omega
      · cases h
      · cases h
    have HOK0 : Hid (Ok (allP s) rs0) := ⟨hl0, by simp [rs0], by simp [rs0, ByteArray.size]⟩
    have HPOL := hide (hpol _ _ _ (unhide HRA) (unhide HOK0))
    have HBW := hide hBw
    have hsW : W.heap.size = W.heap.size := rfl
    clear hra ho hb hn0 hBw hz
    gi_wp2_with (refine ⟨trivial, ?_⟩; gi_at_call 110; refine ((callsIn_wide).2 (unhide HPOL)).mono ?_; rintro e w2 ⟨sv, O2, D2, rfl, hr2, hf2, hs2, hk2, ⟨sa, sc, rfl⟩, hl2⟩; have g1 := fr_keeps hf2 hK hOD; have g2 := fr_keeps hf2 hR hOR; have HR2 := hide hr2; have HF2 := hide hf2; have HS2 := hide hs2; have HK2 := hide hk2; have G1 := hide g1; have G2 := hide g2; obtain ⟨tb2, tc2, dv2, av2, bv2, h2, hO2⟩ := hr2; have q7 : w2.cell? ⟨w.heap.size + 1, 7, none⟩ = some (.bool false) := (by have : w2.cell? ⟨w.heap.size + 1, 7, none⟩ = some (optB st.syn) := cell_of_heap h2.blk; rw [f1] at this; exact this); have q9 : w2.cell? ⟨w.heap.size + 1, 9, none⟩ = some (.bool false) := (by have : w2.cell? ⟨w.heap.size + 1, 9, none⟩ = some (optB st.nam) := cell_of_heap h2.blk; rw [f2] at this; exact this); have q11 : w2.cell? ⟨w.heap.size + 1, 11, none⟩ = some (.bool false) := (by have : w2.cell? ⟨w.heap.size + 1, 11, none⟩ = some (optB st.num) := cell_of_heap h2.blk; rw [f3] at this; exact this); clear g1 g2 hf2 hs2 hk2 h2 hO2)
    refine ⟨trivial, ?_⟩
    refine ((callsIn_wide).2 (done_exact (unhide HR2) hpage (by have h1 := (unhide HK2).page; have h2 := (unhide HK2).next; have h3 := hts.n1; show st.page.length ≤ _; omega) (unhide HK2).gap)).mono ?_
    rintro e w3 ⟨rfl, hf3⟩
    generalize hpg : (⟨st.page.toArray⟩ ++ st.gap : ByteArray) = pg at *
    have g1 := fr_keeps hf3 (unhide G1).1 (unhide G1).2
    have g2 := fr_keeps hf3 (unhide G2).1 (unhide G2).2
    have s0 : w3.cell? ⟨w.heap.size, 0, none⟩ = some (.string ⟨#[]⟩) := cell_of_heap g2.1
    have s1 : w3.cell? ⟨w.heap.size, 1, none⟩ = some (.slice none 0 0) := cell_of_heap g2.1
    have sz0 : ∀ o, w3.frozen? ⟨w.heap.size, o, none⟩ = false := fun o => frozen_of_heap g2.1
    have G3 := hide g2
    have GD := hide g1.1
    have HF3 := hide ((unhide HF2).trans hf3)
    have HS3 := hide ((unhide HS2).fr hf3 (Nat.le_refl _))
    clear g1 g2 hf3 q7 q9 q11
    gi_wp2
    have hRD : w.heap.size ≠ D := by omega
    have hKf : ((w3.setCell ⟨w.heap.size, 0, none⟩ (.string pg)).setCell ⟨w.heap.size, 1, none⟩ (.slice sa l.length sc)).heap[D]? = some (.deferred (some [])) := by
      rw [heap_set_other (Ne.symm hRD), heap_set_other (Ne.symm hRD)]; exact unhide GD
    have hRf : ((w3.setCell ⟨w.heap.size, 0, none⟩ (.string pg)).setCell ⟨w.heap.size, 1, none⟩ (.slice sa l.length sc)).heap[w.heap.size]? = some (.cells #[.string pg, .slice sa l.length sc] 109 (0, 0)) := by
      rw [heap_set (heap_set (unhide G3).1)]; rfl
    have hDW : D < W.heap.size := heap_lt hK
    have hRW : w.heap.size < W.heap.size := heap_lt hR
    refine ⟨by simp, .inl ⟨_, _, rfl, run_takeDeferred hKf, ?_⟩⟩
    obtain ⟨W5, hW5⟩ : ∃ W5, (w3.setCell ⟨w.heap.size, 0, none⟩ (.string pg)).setCell ⟨w.heap.size, 1, none⟩ (.slice sa l.length sc) = W5 := ⟨_, rfl⟩
    have hblk : ∀ k, k ≠ w.heap.size → k ≠ D → (W5.putObj D (.deferred none)).heap[k]? = w3.heap[k]? := fun k h1 h2 => by
      rw [World.putObj_heap_other h2, ← hW5, heap_set_other h1, heap_set_other h1]
    have hR6 : (W5.putObj D (.deferred none)).heap[w.heap.size]? = some (.cells #[.string pg, .slice sa l.length sc] 109 (0, 0)) := by
      rw [World.putObj_heap_other hRD, ← hW5]; exact hRf
    have hs6 : (W5.putObj D (.deferred none)).heap.size = w3.heap.size := by rw [← hW5]; simp [World.setCell]
    have hos : (W5.putObj D (.deferred none)).os = w3.os ∧ (W5.putObj D (.deferred none)).tape = w3.tape ∧ (W5.putObj D (.deferred none)).output = w3.output := by rw [← hW5]; exact ⟨rfl, rfl, rfl⟩
    rw [hW5]
    obtain ⟨W6, hW6⟩ : ∃ W6, W5.putObj D (.deferred none) = W6 := ⟨_, rfl⟩
    rw [hW6] at hblk hR6 hs6 hos ⊢
    have u0 : W6.cell? ⟨w.heap.size, 0, none⟩ = some (.string pg) := cell_of_heap hR6
    have u1 : W6.cell? ⟨w.heap.size, 1, none⟩ = some (.slice sa l.length sc) := cell_of_heap hR6
    refine ⟨.tuple #[.agg #[.string pg, .slice sa l.length sc], .int .i64 0, .int .i64 0], by simp [results, Tryz.results65, go_sem, u0, u1], .slice sa l.length sc, by rw [hpg], ?_, ?_⟩
    · refine ⟨hos.1.trans ((unhide HF3).os.trans (unhide HBW).os), hos.2.1.trans ((unhide HF3).tape.trans (unhide HBW).tape), hos.2.2.trans ((unhide HF3).output.trans (unhide HBW).output), by have h1 := (unhide HF3).size; have h2 := (unhide HBW).size; omega, fun k hk => ?_⟩
      rw [hblk k (by omega) (by omega), (unhide HF3).block k (by omega) ((unhide hOlow) k hk)]
      exact (unhide HBW).block k hk
    · refine ((unhide HS3).2 ms hms).mono (by omega) (fun k hk ha => ?_) (fun _ _ h => h)
      rcases ha.2 with h1 | h1
      · exact h1.elim
      · exact ⟨hblk k (by omega) (by omega), by omega⟩
  case stop => intro D c pre W _ _ h _; exact h.elim
end Go.Proofs.YtgdeeodifnegiaaGreatDoor
