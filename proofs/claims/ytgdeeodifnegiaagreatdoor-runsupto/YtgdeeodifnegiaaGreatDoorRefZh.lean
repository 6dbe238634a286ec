/- Compile of the reference: what it answers, the policy in memory. -/
import Derived.Test.YtgdeeodifnegiaaGreatDoorRefZg
import Derived.Deep.CutRange
namespace Go.Proofs.YtgdeeodifnegiaaGreatDoor.rf
open Go.RowKit

theorem Tryz.infoDef : (Tryz.prog.info? 145).map (fun i => (i.zero, i.size, i.bytes)) = some (some (.agg defZ), 10, 136) := by kernel_rfl
/-- a policy in memory -/
def PolR (pp : Nat) (ds : List Df) (ks : List Tr) (tk : List Tok) (ln : List Bool) (K : Nat → Prop) (W : World) : Prop :=
  K pp ∧ ds.length ≤ 1000000 ∧ ks.length ≤ 1000000 ∧ ∃ dv kv tv lv xs ys, W.heap[pp]? = some (.cells (polC dv kv tv lv) 119 (0, 0)) ∧ DsOpen W (fun k => ¬ K k) ds dv xs ∧ TrOpen W (fun k => ¬ K k) ks kv ys ∧
    W.ownsRow 0 121 3 tv tk.length (tokCells tk) ∧ (∀ k, tv.ownBlock = some k → K k) ∧ W.ownsRow 0 4 1 lv ln.length (boolCells ln) ∧ (∀ k, lv.ownBlock = some k → K k)
def CompC (w : World) (c : PS × List Df × List Tr) (e : Ending) (w' : World) : Prop :=
  Below w.heap.size w w' ∧
  if 0 ≤ c.1.bad then e = .returned (.tuple #[.pointer none, .int .i64 2, .int .i64 c.1.bad])
  else if 0 ≤ namesP c.2.1 (.mk wBlock ⟨#[]⟩ 0 0 c.2.2) then e = .returned (.tuple #[.pointer none, .int .i64 3, .int .i64 (namesP c.2.1 (.mk wBlock ⟨#[]⟩ 0 0 c.2.2))])
  else if 0 ≤ numbersP c.2.1 (.mk wBlock ⟨#[]⟩ 0 0 c.2.2) then e = .returned (.tuple #[.pointer none, .int .i64 4, .int .i64 (numbersP c.2.1 (.mk wBlock ⟨#[]⟩ 0 0 c.2.2))])
  else ∃ pp, e = .returned (.tuple #[ptr pp, .int .i64 0, .int .i64 0]) ∧ Lasts w' (fun k => w.heap.size ≤ k) (PolR pp c.2.1 c.2.2 c.1.taken c.1.lines)
theorem Fr.nF_below {O : Nat → Prop} {w w' : World} (h : Fr nF w O w') : Below w.heap.size w w' := ⟨h.os, h.tape, h.output, h.size, fun k hk => h.block k hk (fun x => x)⟩
theorem owns_sl {w : World} {base : Nat} {e : TypeId} {size : Nat} {v : Value} {n : Nat} {xs : List Value} (h : w.ownsRow base e size v n xs) : ∃ a c, v = .slice a n c := by
  rcases h.2 with ⟨e1, e2⟩ | ⟨g, cap, cur, e1, _⟩
  · exact ⟨none, 0, by rw [e1, e2]⟩
  · exact ⟨_, _, e1⟩
theorem DefAt.parts {w : World} {Q : Nat → Prop} {d : Df} {v : Array Value} (h : DefAt w Q d (.agg v)) : ∃ ro rc op text n a ko kc kl, v = defCells d.name d.isWay (.slice ro d.ranges.length rc) op text n a (.slice ko kc kl) ∧ w.ownsRow 0 233 6 (.slice ro d.ranges.length rc) d.ranges.length (rgCells d.ranges) ∧ TrAt w Q d.way (treeV op text n a (.slice ko kc kl)) := by
  obtain ⟨rv, op, text, n, a, kv, e, ho, _, ht⟩ := h
  obtain ⟨ro, rc, rfl⟩ := owns_sl ho
  obtain ⟨op', text', n', a', ko, kc, kl, e2⟩ := ht.form
  have e3 : kv = .slice ko kc kl := by simp at e2; exact e2.2.2.2.2
  subst e3
  exact ⟨ro, rc, op, text, n, a, ko, kc, kl, by simpa using e, ho, ht⟩
theorem DsOpen.defsIn {w : World} {Q : Nat → Prop} {ds : List Df} {dv : Value} {xs : List Value} {pb : Nat} (h : DsOpen w Q ds dv xs) (hc : w.cell? ⟨pb, 0, none⟩ = some dv) (hl : ds.length ≤ 1000000) : DefsIn w pb ds ∧ DefsAll w pb (fun k => Q k ∨ dv.ownBlock = some k) ds := by
  have key : ∀ i (hi : i < ds.length), ∃ g cap, dv = .slice (some ⟨g, 0, none⟩) ds.length cap ∧ ∃ v : Array Value, DefAt w (fun k => Q k ∨ dv.ownBlock = some k) ds[i] (.agg v) ∧ v.size = 10 ∧ ∀ j, j < 10 → w.cell? ⟨g, i * 10 + j, none⟩ = v[j]? := fun i hi => by
    obtain ⟨g, cap, hv, _, _⟩ := h.own.form (by omega)
    obtain ⟨v, h1, h2, h3⟩ := h.all.get i hi
    refine ⟨g, cap, hv, v, h2, h1, fun j hj => ?_⟩
    have ho := h.own
    rw [hv] at ho
    rw [ho.cellAt (i * 10 + j) (by omega), h3 j hj]
  obtain ⟨o, cap, hdv⟩ := h.form
  refine ⟨⟨by omega, o, cap, by rw [hc, hdv], fun i hi => ?_⟩, ⟨by omega, o, cap, by rw [hc, hdv], fun i hi => ?_⟩⟩
  · obtain ⟨g, cap', hv, v, h2, h1, h3⟩ := key i hi
    obtain ⟨ro, rc, op, text, n, a, ko, kc, kl, rfl, _, _⟩ := h2.parts
    rw [hdv] at hv
    simp only [Value.slice.injEq] at hv
    exact ⟨g, hv.1, h3 1 (by omega), h3 3 (by omega), h3 2 (by omega)⟩
  · obtain ⟨g, cap', hv, v, h2, h1, h3⟩ := key i hi
    obtain ⟨ro, rc, op, text, n, a, ko, kc, kl, rfl, hr, ht⟩ := h2.parts
    have hv' := hv
    rw [hdv] at hv'
    simp only [Value.slice.injEq] at hv'
    exact ⟨g, ro, _, rc, op, text, n, a, ko, kc, kl, hv'.1, h3 3 (by omega), h3 4 (by omega), h3 5 (by omega), h3 6 (by omega), h3 7 (by omega), h3 8 (by omega), h3 9 (by omega), hr, ht⟩
theorem defsLp_pos {s : ByteArray} {F k : Nat} {st : PS} {l : List Df} {r : PS × List Df} (h : defsLp s F k st l = some r) : ∃ g, k = g + 1 := by
  cases k with
  | zero => cases h
  | succ g => exact ⟨g, rfl⟩
theorem bodyLp_pos {s : ByteArray} {F k : Nat} {b : Bool} {st : PS} {l : List Tr} {r : PS × List Tr} (h : bodyLp s F k b st l = some r) : ∃ g, k = g + 1 := by
  cases k with
  | zero => cases h
  | succ g => exact ⟨g, rfl⟩
theorem defsLp_more {s : ByteArray} {F g : Nat} {st : PS} {l : List Df} {r : PS × List Df} (h : defsLp s F (g + 1) st l = some r) (hc : (isP st wSet || isP st wWay) = true) : ∃ s1 d, defTw s F (if l.length = 8 then failP st else st) = some (s1, d) ∧ defsLp s F g s1 (l ++ [d]) = some r := by
  rw [defsLp, if_pos hc] at h
  split at h
  · cases h
  · rename_i s1 d e; exact ⟨s1, d, e, h⟩
theorem defsLp_stop {s : ByteArray} {F g : Nat} {st : PS} {l : List Df} {r : PS × List Df} (h : defsLp s F (g + 1) st l = some r) (hc : (isP st wSet || isP st wWay) = false) : r = (st, l) := by
  rw [defsLp, if_neg (by rw [hc]; decide)] at h
  exact (Option.some.inj h).symm
theorem bodyLp_more {s : ByteArray} {F g : Nat} {b : Bool} {st : PS} {l : List Tr} {r : PS × List Tr} (h : bodyLp s F (g + 1) b st l = some r) (hc : b = true ∧ st.bad < 0) : ∃ s1 x, stmtTw s F st = some (s1, x) ∧ bodyLp s F g (s1.next.kind != 46) s1 (l ++ [x]) = some r := by
  rw [bodyLp, if_pos hc] at h
  split at h
  · cases h
  · rename_i s1 x e; exact ⟨s1, x, e, h⟩
theorem bodyLp_stop {s : ByteArray} {F g : Nat} {b : Bool} {st : PS} {l : List Tr} {r : PS × List Tr} (h : bodyLp s F (g + 1) b st l = some r) (hc : ¬ (b = true ∧ st.bad < 0)) : r = (st, l) := by
  rw [bodyLp, if_neg hc] at h
  exact (Option.some.inj h).symm
theorem size_six {w : World} {n : Nat} {p0 p1 p2 p3 p4 p5 : Addr} {v0 v1 v2 v3 v4 v5 : Value} (h : n ≤ w.heap.size) : n ≤ ((((((w.setCell p0 v0).setCell p1 v1).setCell p2 v2).setCell p3 v3).setCell p4 v4).setCell p5 v5).heap.size := by
  simpa [World.setCell] using h
theorem set_comm {w : World} {p q : Addr} {v u : Value} (h : q.block ≠ p.block) : (w.setCell q u).setCell p v = (w.setCell p v).setCell q u := by
  unfold World.setCell
  congr 1
  apply Array.ext
  · simp
  · intro i h1 h2
    simp only [Array.getElem_modify]
    by_cases e1 : q.block = i
    · have e2 : ¬ p.block = i := fun e => h (by omega)
      simp [e1, e2]
    · simp [e1]
theorem head_last {w : World} {ob g a0 a1 a2 a3 a4 a5 : Nat} {v v0 v1 v2 v3 v4 : Value} (h : g ≠ ob) : (((((w.setCell ⟨ob, a5, none⟩ v).setCell ⟨g, a0, none⟩ v0).setCell ⟨g, a1, none⟩ v1).setCell ⟨g, a2, none⟩ v2).setCell ⟨g, a3, none⟩ v3).setCell ⟨g, a4, none⟩ v4 = (((((w.setCell ⟨g, a0, none⟩ v0).setCell ⟨g, a1, none⟩ v1).setCell ⟨g, a2, none⟩ v2).setCell ⟨g, a3, none⟩ v3).setCell ⟨g, a4, none⟩ v4).setCell ⟨ob, a5, none⟩ v := by
  have h' : ∀ (W : World) (a : Nat) (x : Value), (W.setCell ⟨ob, a5, none⟩ v).setCell ⟨g, a, none⟩ x = (W.setCell ⟨g, a, none⟩ x).setCell ⟨ob, a5, none⟩ v := fun W a x => set_comm (fun e => h e.symm)
  rw [h', h', h', h', h']
theorem tree_cell {w : World} {g n cap : Nat} {ys zs : List Value} (h : w.ownsRow 0 115 5 (.slice (some ⟨g, 0, none⟩) (n + 1) cap) (n + 1) (ys ++ zs)) (hy : ys.length = n * 5) (j : Nat) (hj : j < 5) : w.cell? ⟨g, n * 5 + j, none⟩ = zs[j]? := by
  rw [h.cellAt (n * 5 + j) (by omega), List.getElem?_append_right (by omega)]
  congr 1; omega
theorem pol_lasts {w wn wm : World} {O : Nat → Prop} {pb ob n1 : Nat} {s : ByteArray} {su : PS} {ds : List Df} {ks : List Tr} {dv kv tv lv : Value} {xs ys : List Value} (hf : Fr nF w O wn) (hO : O = POwn pb tv lv) (hp : PAt wn pb s su tv lv)
    (hq : wn.heap[ob]? = some (.cells (polC dv kv tv lv) 119 (0, 0))) (hd : DsOpen wn (fun k => O k ∨ k = ob ∨ k < w.heap.size ∨ n1 ≤ k) ds dv xs) (ht : TrOpen wn (fun k => O k ∨ k < n1) ks kv ys) (l0 : w.heap.size ≤ ob) (l1 : w.heap.size ≤ n1) (hdl : ds.length ≤ 1000000) (hkl : ks.length ≤ 1000000) (hb : Below wn.heap.size wn wm) :
    Lasts wm (fun k => w.heap.size ≤ k) (PolR ob ds ks su.taken su.lines) := by
  have lob := heap_lt hq
  refine ⟨fun k => w.heap.size ≤ k ∧ k < wn.heap.size, fun k hk => ⟨Nat.lt_of_lt_of_le hk.2 hb.size, hk.1⟩, fun W _ hW => ?_⟩
  have hk : ∀ k, w.heap.size ≤ k → k < wn.heap.size → W.heap[k]? = wn.heap[k]? := fun k h1 h2 => (hW k ⟨h1, h2⟩).trans (hb.block k h2)
  have hown : ∀ k, O k → w.heap.size ≤ k := fun k h => (hf.own k h).resolve_left (fun x => x)
  have ht1 : ∀ k, tv.ownBlock = some k → w.heap.size ≤ k ∧ k < wn.heap.size := fun k h => ⟨hown k (by rw [hO]; exact Or.inr (Or.inl h)), (hp.own1.lt k h).2⟩
  have hl1 : ∀ k, lv.ownBlock = some k → w.heap.size ≤ k ∧ k < wn.heap.size := fun k h => ⟨hown k (by rw [hO]; exact Or.inr (Or.inr h)), (hp.own2.lt k h).2⟩
  refine ⟨⟨l0, lob⟩, hdl, hkl, dv, kv, tv, lv, xs, ys, (hk ob l0 lob).trans hq, ?_, ?_, ?_, ht1, ?_, hl1⟩
  · refine hd.keep (fun k h1 h2 => hk k (Nat.le_of_not_lt (fun h => h2 (Or.inr (Or.inr (Or.inl h))))) h1) (fun k h1 h2 => ?_)
    exact Or.inr (Or.inr (Or.inl (Nat.lt_of_not_le (fun h => h2 ⟨h, h1⟩))))
  · refine ht.keep (fun k h1 h2 => hk k (by have : ¬ k < n1 := fun h => h2 (Or.inr h); omega) h1) (fun k h1 h2 => ?_)
    exact Or.inr (by have : k < w.heap.size := Nat.lt_of_not_le (fun h => h2 ⟨h, h1⟩); omega)
  · exact owns_of hp.own1 (fun k h => hk k (ht1 k h).1 (ht1 k h).2)
  · exact owns_of hp.own2 (fun k h => hk k (hl1 k h).1 (hl1 k h).2)
/-- the first state of the parser, in its block -/
def psZ : PS := ⟨⟨0, ⟨#[]⟩, 0⟩, 0, [], [], -1, 0⟩
theorem ok0 {s : ByteArray} (hs : s.size ≤ 600) : Ok s (ps0 s) := by
  have hb := cutP_bd (s := s) (i := 0) (Nat.zero_le _)
  exact ⟨hs, hb.2.1, Nat.zero_le _, fun h => (by have := hb.2.2 h; show 0 + 1 ≤ (cutP s 0).2; omega), rfl, Nat.le_trans (cutP_text s 0) hs⟩
set_option maxRecDepth 100000 in
set_option maxHeartbeats 1000000 in
theorem compile_long {s : ByteArray} (hs : 600 < s.size) (w : World) : Calls Tryz.prog 25 #[.string s] w fun e w' => e = .returned (.tuple #[.pointer none, .int .i64 1, .int .i64 0]) ∧ w' = w := by
  have hb0 : decide ((600 : Int) < (s.size : Int)) = true := decide_eq_true (by omega)
  go_enter Tryz.func25, Tryz.ntmps25
  go_wp2_with fail
  refine bodyPost_ret (v := .tuple #[.pointer none, .int .i64 1, .int .i64 0]) (by simp [results, Tryz.results25, go_sem]) rfl ⟨rfl, rfl⟩
set_option maxRecDepth 100000 in
set_option maxHeartbeats 12800000 in
theorem compile_any {s : ByteArray} (hs : s.size ≤ 600) {F : Nat} (hF : F ≤ 1000000) {c : PS × List Df × List Tr} (hc : compP s F = some c) (hwf : c.1.bad < 0 → WfTrs c.2.2) (w : World) : Calls Tryz.prog 25 #[.string s] w (CompC w c) := by
  obtain ⟨i0, hi0, hz0, hz1, hz2⟩ := info_parts Tryz.infoDef
  obtain ⟨j0, hj0, hy0, hy1, hy2⟩ := info_parts Tryz.infoTree
  have hb0 : decide ((600 : Int) < (s.size : Int)) = false := decide_eq_false (by omega)
  obtain ⟨p1, ds1, ks1, hd1, hb1, hce⟩ : ∃ p1 ds1 ks1, defsLp s F F (ps0 s) [] = some (p1, ds1) ∧ bodyLp s F F true p1 [] = some (c.1, ks1) ∧ c = (c.1, ds1, ks1) := by
    unfold compP at hc
    split at hc
    · cases hc
    · rename_i p1 ds1 e1
      split at hc
      · cases hc
      · rename_i p2 ks1 e2
        cases hc
        exact ⟨p1, ds1, ks1, e1, e2, rfl⟩
  have HD1 := hide hd1
  have HB1 := hide hb1
  have HCE := hide hce
  have HWF := hide hwf
  have HSZ := hide hs
  clear hc hd1 hb1 hce hwf
  have hp0 : PAt (w.alloc (.cells (psCells s psZ (.slice none 0 0) (.slice none 0 0)) 139)) w.heap.size s psZ (.slice none 0 0) (.slice none 0 0) :=
    ⟨heap_alloc_new _ _, World.ownsRow_nil _ _ _ _, World.ownsRow_nil _ _ _ _, by simp [Value.ownBlock], by simp [Value.ownBlock], Or.inl rfl⟩
  have HP0 := hide hp0
  clear hp0
  go_enter Tryz.func25, Tryz.ntmps25
  go_wp2_with fail
  refine (cut_any s 0 _ (by omega) (Nat.zero_le _)).mono ?_
  rintro e w1 ⟨rfl, hb⟩
  have HT8 := hide (take8 (unhide HP0) hb (cutP s 0).1 (cutP s 0).2)
  have lpb : w.heap.size < w1.heap.size := by have := hb.size; simp at this; omega
  have q0 := (hb.block w.heap.size (by simp)).trans (heap_alloc_new w _)
  have z0 : ∀ o, w1.frozen? ⟨w.heap.size, o, none⟩ = false := fun o => frozen_of_heap q0
  have c1 : w1.cell? ⟨w.heap.size, 1, none⟩ = some (.int .u8 0) := cell_of_heap q0
  have c2 : w1.cell? ⟨w.heap.size, 2, none⟩ = some (.string ⟨#[]⟩) := cell_of_heap q0
  have c3 : w1.cell? ⟨w.heap.size, 3, none⟩ = some (.int .i64 0) := cell_of_heap q0
  have c4 : w1.cell? ⟨w.heap.size, 4, none⟩ = some (.int .i64 0) := cell_of_heap q0
  have HF1 := hide (((Fr.refl nF w).alloc (.cells (psCells s psZ (.slice none 0 0) (.slice none 0 0)) 139)).below hb)
  clear hb q0
  go_wp2_with fail
  clear c1 c2 c3 c4 z0
  obtain ⟨WA, hWA⟩ : ∃ W, (tookW w1 w.heap.size (cutP s 0).1 (cutP s 0).2).alloc (.cells (polC (.slice none 0 0) (.slice none 0 0) (.slice none 0 0) (.slice none 0 0)) 119) = W := ⟨_, rfl⟩
  have hst : (tookW w1 w.heap.size (cutP s 0).1 (cutP s 0).2).heap.size = w1.heap.size := by simp [tookW, World.setCell]
  have hpa : PA WA w.heap.size s (ps0 s) (POwn w.heap.size (.slice none 0 0) (.slice none 0 0)) := by
    rw [← hWA]
    exact PA.alloc ⟨_, _, (unhide HT8).1, rfl⟩ _
  have hfa : Fr nF w (POwn w.heap.size (.slice none 0 0) (.slice none 0 0)) WA := by
    rw [← hWA]
    have f0 : Fr nF w (POwn w.heap.size (.slice none 0 0) (.slice none 0 0)) (w.alloc (.cells (psCells s psZ (.slice none 0 0) (.slice none 0 0)) 139)) := ((Fr.refl nF w).alloc _).reown (fun k hk => by
      rcases hk with h | h | h
      · exact Or.inr (by omega)
      · simp [Value.ownBlock] at h
      · simp [Value.ownBlock] at h)
    exact (f0.trans (unhide HT8).2).alloc _
  have hba : WA.heap[w1.heap.size]? = some (.cells (polC (.slice none 0 0) (.slice none 0 0) (.slice none 0 0) (.slice none 0 0)) 119 (0, 0)) := by
    rw [← hWA, ← hst]; exact heap_alloc_new _ _
  have hna : ¬ POwn w.heap.size (.slice none 0 0) (.slice none 0 0) w1.heap.size := by
    rintro (h | h | h)
    · omega
    · simp [Value.ownBlock] at h
    · simp [Value.ownBlock] at h
  unfold tookW polC wBlock at hWA
  rw [hWA]
  clear hWA hst HT8 HP0 HF1
  have HPA := hide hpa
  have HFA := hide hfa
  have HBA := hide hba
  have HNA := hide hna
  clear hpa hfa hba hna
  refine ((unhide HPA).is _).mono ?_
  rintro e w0 ⟨rfl, rfl⟩
  go_wp2_with fail
  refine ((unhide HPA).is _).mono ?_
  rintro e w0 ⟨rfl, rfl⟩
  obtain ⟨ob, hob⟩ : ∃ ob, w1.heap.size = ob := ⟨_, rfl⟩
  rw [hob] at lpb HBA HNA ⊢
  have l0 : w.heap.size ≤ ob := by omega
  clear hob
  go_wp2_with fail
  go_loopg [7, 8] F (fun k b7 b8 wr => ∃ (st : PS) (ds : List Df) (dv : Value) (xs : List Value) (O1 : Nat → Prop), ds.length + k ≤ F ∧ b7 = .bool (isP st wSet) ∧ b8 = .bool (isP st wWay) ∧ PA wr w.heap.size s st O1 ∧ Ok s st ∧ Fr nF w O1 wr ∧ wr.heap[ob]? = some (.cells (polC dv (.slice none 0 0) (.slice none 0 0) (.slice none 0 0)) 119 (0, 0)) ∧ ¬ O1 ob ∧ DsOpen wr (fun k => O1 k ∨ k = ob ∨ k < w.heap.size) ds dv xs ∧ defsLp s F k st ds = some (p1, ds1))
  case atStart => exact ⟨_, [], .slice none 0 0, [], _, by simp, rfl, rfl, unhide HPA, ok0 (unhide HSZ), unhide HFA, unhide HBA, unhide HNA, DsOpen.nil _ _, unhide HD1⟩
  case round =>
    clear HPA HFA HBA HNA HD1
    obtain ⟨st, ds, dv, xs, O1, hkl, rfl, rfl, hp, hk, hf, hblk, hno, hds, hl⟩ := hrel
    obtain ⟨g, rfl⟩ := defsLp_pos hl
    have HP := hide hp
    have HK := hide hk
    have HF := hide hf
    have HBLK := hide hblk
    have HNO := hide hno
    obtain ⟨oo, cc, hdv⟩ := hds.form
    subst hdv
    have HDS := hide hds
    have cD : wr.cell? ⟨ob, 0, none⟩ = some (.slice oo ds.length cc) := cell_of_heap hblk
    have lob' : ob < wr.heap.size := heap_lt hblk
    have HL := hide hl
    clear hp hk hf hblk hno hds hl
    cases hc : (isP st wSet || isP st wWay) with
    | true =>
      obtain ⟨s1, d, hdef, hl2⟩ := defsLp_more (unhide HL) hc
      have HDEF := hide hdef
      have HL2 := hide hl2
      clear hdef hl2 HL
      have hor : isP st wSet = true ∨ (isP st wSet = false ∧ isP st wWay = true) := by
        cases h1 : isP st wSet with
        | true => exact Or.inl rfl
        | false => rw [h1] at hc; exact Or.inr ⟨rfl, by simpa using hc⟩
      clear hc
      rcases hor with h1 | ⟨h1, h2⟩
      focus
        rw [h1]
        clear h1
      rotate_left
      focus
        rw [h1, h2]
        clear h1 h2
      all_goals
        by_cases h8 : ds.length = 8
        focus
          have e8 : ((ds.length : Int) == 8) = true := by rw [h8]; rfl
          rw [if_pos h8] at HDEF
          clear h8
          go_wp2_with fail
          refine ((unhide HP).fail).mono ?_
          rintro e w3 ⟨rfl, hp3, hf3⟩
          have HP3 := hide hp3
          have HF3 := hide hf3
          have HK3 := hide (unhide HK).fail
          clear hp3 hf3 cD
          go_wp2_with fail
        rotate_left
        focus
          have e8 : ((ds.length : Int) == 8) = false := by
            rw [beq_eq_false_iff_ne]; omega
          rw [if_neg h8] at HDEF
          clear h8
          have HP3 := HP
          have HF3 := hide (Fr.refl O1 wr)
          have HK3 := HK
          go_wp2_with fail
          clear cD
        all_goals
          refine (def_any w.heap.size s F hF _ _ _ _ (unhide HP3) (unhide HK3) (unhide HDEF)).mono ?_
          rintro e w2 ⟨v, O2, rfl, hp2, hf2, ht2, hk2⟩
          obtain ⟨rv, op, text, n, a, kv, rfl, hrv, hrq, htr⟩ := ht2
          obtain ⟨ro, rc, hrs⟩ := owns_sl hrv
          obtain ⟨op', text', n', a', ko, kc, kl, e2⟩ := htr.form
          have e3 : kv = .slice ko kc kl := by simp at e2; exact e2.2.2.2.2
          subst e3 hrs
          have T3 := hide (show DefAt w2 (fun k => O2 k ∨ k < wr.heap.size) d (.agg (defCells d.name d.isWay (.slice ro d.ranges.length rc) op text n a (.slice ko kc kl))) from DefAt.keep (fun _ _ _ => rfl) (fun k _ hq => hq.imp id (fun h => Nat.lt_of_lt_of_le h (unhide HF3).size)) ⟨_, _, _, _, _, _, rfl, hrv, hrq, htr⟩)
          have F2 := hide ((unhide HF3).trans hf2)
          have H2 := hide hp2
          have K2 := hide hk2
          clear hp2 hf2 hk2 hrv hrq htr e2
          have l2 : wr.heap.size ≤ w2.heap.size := (unhide F2).size
          have lob : ob < w2.heap.size := by have := heap_lt (unhide HBLK); omega
          have qB := ((unhide F2).block ob (heap_lt (unhide HBLK)) (unhide HNO)).trans (unhide HBLK)
          have cB : w2.cell? ⟨ob, 0, none⟩ = some (.slice oo ds.length cc) := cell_of_heap qB
          have zB : w2.frozen? ⟨ob, 0, none⟩ = false := frozen_of_heap qB
          have OW := hide (show w2.ownsRow 0 145 10 (.slice oo ds.length cc) ds.length xs from owns_of (unhide HDS).own (fun k hk => (unhide F2).block k ((unhide HDS).own.lt k hk).2 (fun h => (unhide HDS).off k hk (Or.inl h))))
          have NB := hide (show some ob ≠ (Value.slice oo ds.length cc).ownBlock from fun e => (unhide HDS).off _ e.symm (Or.inr (Or.inl rfl)))
          clear qB
          go_wp2_with fail
          obtain ⟨WB, hWB⟩ : ∃ W, w2.alloc (.cells #[.int .u8 d.name.kind, .string d.name.text, .int .i64 d.name.at_, .bool d.isWay, .slice ro d.ranges.length rc, .string op, .string text, .int .i64 n, .int .i64 a, .slice ko kc kl] 145) = W := ⟨_, rfl⟩
          have nbx := heap_alloc_new w2 (.cells #[.int .u8 d.name.kind, .string d.name.text, .int .i64 d.name.at_, .bool d.isWay, .slice ro d.ranges.length rc, .string op, .string text, .int .i64 n, .int .i64 a, .slice ko kc kl] 145)
          have szB : WB.heap.size = w2.heap.size + 1 := by rw [← hWB]; simp
          have OWB := hide ((unhide OW).alloc (.cells #[.int .u8 d.name.kind, .string d.name.text, .int .i64 d.name.at_, .bool d.isWay, .slice ro d.ranges.length rc, .string op, .string text, .int .i64 n, .int .i64 a, .slice ko kc kl] 145))
          have cW : (w2.alloc (.cells #[.int .u8 d.name.kind, .string d.name.text, .int .i64 d.name.at_, .bool d.isWay, .slice ro d.ranges.length rc, .string op, .string text, .int .i64 n, .int .i64 a, .slice ko kc kl] 145)).cell? ⟨ob, 0, none⟩ = some (.slice oo ds.length cc) := cell_later ((Below.refl _ _).alloc (Nat.le_refl _) _) cB
          have zW : (w2.alloc (.cells #[.int .u8 d.name.kind, .string d.name.text, .int .i64 d.name.at_, .bool d.isWay, .slice ro d.ranges.length rc, .string op, .string text, .int .i64 n, .int .i64 a, .slice ko kc kl] 145)).frozen? ⟨ob, 0, none⟩ = false := (World.frozen?_alloc_old w2 _ ⟨ob, 0, none⟩ (Nat.ne_of_lt lob)).trans zB
          have HWB := hide hWB
          rw [hWB] at nbx OWB cW zW ⊢
          obtain ⟨t0, t1, t2, t3, t4, t5, t6, t7, t8, t9⟩ := cells10 nbx
          have lbx : w2.heap.size < WB.heap.size := by omega
          have lobW : ob < WB.heap.size := by omega
          have SZB := hide szB
          clear szB
          have zf : ∀ o, (WB.alloc o).frozen? ⟨ob, 0, none⟩ = false := fun o => (World.frozen?_alloc_old WB o ⟨ob, 0, none⟩ (Nat.ne_of_lt lobW)).trans zW
          clear hWB nbx cB zB
          go_cut [] (fun wc => ∃ gg cap, PA wc w.heap.size s s1 O2 ∧ Fr nF w O2 wc ∧ ¬ O2 ob ∧ wc.heap[ob]? = some (.cells (polC (.slice (some ⟨gg, 0, none⟩) (ds.length + 1) cap) (.slice none 0 0) (.slice none 0 0) (.slice none 0 0)) 119 (0, 0)) ∧ DsOpen wc (fun k => O2 k ∨ k = ob ∨ k < w.heap.size) (ds ++ [d]) (.slice (some ⟨gg, 0, none⟩) (ds.length + 1) cap) (xs ++ [.int .u8 d.name.kind, .string d.name.text, .int .i64 d.name.at_, .bool d.isWay, .slice ro d.ranges.length rc, .string op, .string text, .int .i64 n, .int .i64 a, .slice ko kc kl]))
          case first =>
            go_region_law ((refine step_append_lies _ (by rfl) _ _ _ (by rfl) 0 145 i0 _ 10 136 Tryz.underlying112 hi0 hz0 hz1 hz2 rfl (by omega) (.slice oo ds.length cc) ds.length xs (by rfl) (((unhide OWB).alloc _).drew) ⟨WB.heap.size, 0, none⟩ 1 1 [.int .u8 d.name.kind, .string d.name.text, .int .i64 d.name.at_, .bool d.isWay, .slice ro d.ranges.length rc, .string op, .string text, .int .i64 n, .int .i64 a, .slice ko kc kl] (by rfl) (by rfl) (World.news_of_block (cs := #[.int .u8 d.name.kind, .string d.name.text, .int .i64 d.name.at_, .bool d.isWay, .slice ro d.ranges.length rc, .string op, .string text, .int .i64 n, .int .i64 a, .slice ko kc kl]) (t := 145) (fr := (0, 0)) (heap_alloc_new _ _)) (by simp [Value.oneCell']) (by omega) (by simp [maxLen]; omega) (by omega) (by omega) (WB.heap.size + 1) (by simp) ?_; intro gg cap wk hown1 hgrow hat hlt; have k1 : wk.cell? ⟨ob, 0, none⟩ = some (.slice oo ds.length cc) := (hgrow.cell_far _ (by simp; omega) (unhide NB)).trans (cell_later (Below.refl _ _ |>.alloc (Nat.le_refl _) _ |>.drew) cW); have z1 : wk.frozen? ⟨ob, 0, none⟩ = false := (hgrow.frozen_far _ (by simp; omega) (unhide NB)).trans (zf _)))
            all_goals
              go_wp2_with fail
              go_meet
              case rel =>
                rw [← unhide HWB] at hgrow
                exact ⟨_, _, def_round (unhide HF) (unhide F2) (unhide H2) (unhide HBLK) (unhide HNO) l0 (unhide HDS) rfl (unhide T3) hgrow hown1 (by rw [unhide SZB] at hat; exact hat)⟩
          case rest =>
            obtain ⟨gg, cap, f1, f2, f3, f4, f5⟩ := hcut
            have G1 := hide f1
            have G2 := hide f2
            have G3 := hide f3
            have G4 := hide f4
            have G5 := hide f5
            clear f1 f2 f3 f4 f5 t0 t1 t2 t3 t4 t5 t6 t7 t8 t9 zf zW cW lbx lobW
            go_wp2_with fail
            refine ((unhide G1).is _).mono ?_
            rintro e w0 ⟨rfl, rfl⟩
            go_wp2_with fail
            refine ((unhide G1).is _).mono ?_
            rintro e w0 ⟨rfl, rfl⟩
            go_wp2_with fail
            go_roundg g
            case measure => omega
            case rel => exact ⟨s1, ds ++ [d], _, _, O2, by simp; omega, rfl, rfl, unhide G1, unhide K2, unhide G2, unhide G4, unhide G3, unhide G5, unhide HL2⟩
    | false =>
      have hst := defsLp_stop (unhide HL) hc
      have h1 : isP st wSet = false := by cases h : isP st wSet with | false => rfl | true => rw [h] at hc; cases hc
      have h2 : isP st wWay = false := by cases h : isP st wWay with | false => rfl | true => rw [h, Bool.or_true] at hc; cases hc
      obtain ⟨rfl, rfl⟩ : p1 = st ∧ ds1 = ds := by simpa using hst
      rw [h1, h2]
      clear h1 h2 hc hst HL cD
      obtain ⟨n1, hn1⟩ : ∃ n1, wr.heap.size = n1 := ⟨_, rfl⟩
      have ln : ob < n1 := by omega
      have lnw : w.heap.size ≤ n1 := by omega
      have hD0 : DsOpen wr (fun k => O1 k ∨ k = ob ∨ k < w.heap.size ∨ n1 ≤ k) ds1 (.slice oo ds1.length cc) xs := (unhide HDS).keep (fun _ _ _ => rfl) (fun k hk hq => by
        rcases hq with h | h | h | h
        · exact Or.inl h
        · exact Or.inr (Or.inl h)
        · exact Or.inr (Or.inr h)
        · omega)
      have HD0 := hide hD0
      have HN1 := hide (Nat.le_of_eq hn1.symm)
      clear hD0 hn1 lob'
      go_wp2_with fail
      go_loopg [10] F (fun k b10 wx => ∃ (su : PS) (ks : List Tr) (more : Bool) (kv : Value) (ys : List Value) (O2 : Nat → Prop), ks.length + k ≤ F ∧ b10 = .bool more ∧ PA wx w.heap.size s su O2 ∧ Ok s su ∧ Fr nF w O2 wx ∧ wx.heap[ob]? = some (.cells (polC (.slice oo ds1.length cc) kv (.slice none 0 0) (.slice none 0 0)) 119 (0, 0)) ∧ ¬ O2 ob ∧ n1 ≤ wx.heap.size ∧ DsOpen wx (fun k => O2 k ∨ k = ob ∨ k < w.heap.size ∨ n1 ≤ k) ds1 (.slice oo ds1.length cc) xs ∧ TrOpen wx (fun k => O2 k ∨ k < n1) ks kv ys ∧ bodyLp s F k more su ks = some (c.1, ks1))
      case atStart => exact ⟨_, [], true, .slice none 0 0, [], _, by simp, rfl, unhide HP, unhide HK, unhide HF, unhide HBLK, unhide HNO, unhide HN1, unhide HD0, TrOpen.nil _ _, unhide HB1⟩
      case round =>
        have hdl : ds1.length ≤ 1000000 := by omega
        clear HP HK HF HBLK HNO HD0 HN1 HB1 HDS hkl
        rename World => WX
        obtain ⟨su, ks, more, kv, ys, O2, hkl, rfl, hp, hk, hf, hblk, hno, hln, hdo, hto, hl⟩ := hrel
        obtain ⟨g2, rfl⟩ := bodyLp_pos hl
        obtain ⟨ko, kc, hkv⟩ := hto.form
        subst hkv
        have c7 := hp.cell.2.1
        have lobx : ob < WX.heap.size := heap_lt hblk
        have HP := hide hp
        have HK := hide hk
        have HF := hide hf
        have HBLK := hide hblk
        have HNO := hide hno
        have HDO := hide hdo
        have HTO := hide hto
        have HL := hide hl
        clear hp hk hf hblk hno hdo hto hl
        by_cases hc : more = true ∧ su.bad < 0
        · obtain ⟨s1, x, hstm, hl2⟩ := bodyLp_more (unhide HL) hc
          obtain ⟨rfl, hbd⟩ := hc
          have HSTM := hide hstm
          have HL2 := hide hl2
          clear hstm hl2 HL
          go_wp2_with fail
          refine ((stmts w.heap.size s F hF).2 F (Nat.le_refl _) _ _ _ _ (unhide HP) (unhide HK) (unhide HSTM)).mono ?_
          rintro e w2 ⟨v, O3, rfl, hp2, hf2, ht2, hk2⟩
          obtain ⟨xop, xtext, xn, xa, xo, xc, xl, rfl⟩ := ht2.form
          have T3 := hide ht2
          have F2 := hide hf2
          have H2 := hide hp2
          have K2 := hide hk2
          clear hp2 hf2 hk2 ht2
          have l2 : WX.heap.size ≤ w2.heap.size := (unhide F2).size
          have lob : ob < w2.heap.size := by omega
          have qB := ((unhide F2).block ob lobx (unhide HNO)).trans (unhide HBLK)
          have cB : w2.cell? ⟨ob, 5, none⟩ = some (.slice ko ks.length kc) := cell_of_heap qB
          have zB : w2.frozen? ⟨ob, 5, none⟩ = false := frozen_of_heap qB
          have OW := hide (show w2.ownsRow 0 115 5 (.slice ko ks.length kc) ks.length ys from owns_of (unhide HTO).1 (fun k hk => (unhide F2).block k ((unhide HTO).1.lt k hk).2 (fun h => (unhide HTO).2.1 k hk (Or.inl h))))
          have NB := hide (show some ob ≠ (Value.slice ko ks.length kc).ownBlock from fun e => (unhide HTO).2.1 _ e.symm (Or.inr (by omega)))
          clear qB c7
          go_wp2_with fail
          obtain ⟨WB, hWB⟩ : ∃ W, w2.alloc (.cells (treeCells xop xtext xn xa (.slice xo xc xl)) 115) = W := ⟨_, rfl⟩
          have nbx := heap_alloc_new w2 (.cells (treeCells xop xtext xn xa (.slice xo xc xl)) 115)
          have szB : WB.heap.size = w2.heap.size + 1 := by rw [← hWB]; simp
          have OWB := hide ((unhide OW).alloc (.cells (treeCells xop xtext xn xa (.slice xo xc xl)) 115))
          have cW : (w2.alloc (.cells (treeCells xop xtext xn xa (.slice xo xc xl)) 115)).cell? ⟨ob, 5, none⟩ = some (.slice ko ks.length kc) := cell_later ((Below.refl _ _).alloc (Nat.le_refl _) _) cB
          have zW : (w2.alloc (.cells (treeCells xop xtext xn xa (.slice xo xc xl)) 115)).frozen? ⟨ob, 5, none⟩ = false := (World.frozen?_alloc_old w2 _ ⟨ob, 5, none⟩ (Nat.ne_of_lt lob)).trans zB
          have HWB := hide hWB
          rw [hWB] at nbx OWB cW zW ⊢
          obtain ⟨t0, t1, t2, t3, t4⟩ := cells5 nbx
          have lbx : w2.heap.size < WB.heap.size := by omega
          have lobW : ob < WB.heap.size := by omega
          have nebx : w2.heap.size ≠ ob := by omega
          have SZB := hide szB
          have zf : ∀ o, (WB.alloc o).frozen? ⟨ob, 5, none⟩ = false := fun o => (World.frozen?_alloc_old WB o ⟨ob, 5, none⟩ (Nat.ne_of_lt lobW)).trans zW
          have NG := hide (show ∀ k, (Value.slice ko ks.length kc).ownBlock = some k → k < WX.heap.size ∧ n1 ≤ k from fun k hk => ⟨((unhide HTO).1.lt k hk).2, Nat.le_of_not_lt (fun h => (unhide HTO).2.1 k hk (Or.inr h))⟩)
          clear hWB nbx cB zB szB
          go_cut [] (fun wc => ∃ gg cap, n1 ≤ wc.heap.size ∧ PA wc w.heap.size s s1 O3 ∧ Fr nF w O3 wc ∧ ¬ O3 ob ∧ wc.heap[ob]? = some (.cells (polC (.slice oo ds1.length cc) (.slice (some ⟨gg, 0, none⟩) (ks.length + 1) cap) (.slice none 0 0) (.slice none 0 0)) 119 (0, 0)) ∧ DsOpen wc (fun k => O3 k ∨ k = ob ∨ k < w.heap.size ∨ n1 ≤ k) ds1 (.slice oo ds1.length cc) xs ∧ TrOpen wc (fun k => O3 k ∨ k < n1) (ks ++ [x]) (.slice (some ⟨gg, 0, none⟩) (ks.length + 1) cap) (ys ++ [.string xop, .string xtext, .int .i64 xn, .int .i64 xa, .slice xo xc xl]))
          case first =>
            have i1 : (0 : Int) ≤ (ks.length : Int) := by omega
            have i2 : (ks.length : Int) < ((ks.length + 1 : Nat) : Int) := by omega
            have i3 : (ks.length : Int) < (ks.length : Int) + 1 := by omega
            have i5 : ((ks.length : Int)).toNat = ks.length := by simp
            go_region_law ((refine step_append_lies _ (by rfl) _ _ _ (by rfl) 0 115 j0 _ 5 72 Tryz.underlying113 hj0 hy0 hy1 hy2 rfl (by omega) (.slice ko ks.length kc) ks.length ys (by rfl) (((unhide OWB).alloc _).drew) ⟨WB.heap.size, 0, none⟩ 1 1 [.string ⟨#[]⟩, .string ⟨#[]⟩, .int .i64 0, .int .i64 0, .slice none 0 0] (by rfl) (by rfl) (World.news_of_block (cs := #[.string ⟨#[]⟩, .string ⟨#[]⟩, .int .i64 0, .int .i64 0, .slice none 0 0]) (t := 115) (fr := (0, 0)) (heap_alloc_new _ _)) (by simp [Value.oneCell']) (by omega) (by simp [maxLen]; omega) (by omega) (by omega) (WB.heap.size + 1) (by simp) ?_; intro gg cap wk hown1 hgrow hat hlt; have k1 : wk.cell? ⟨ob, 5, none⟩ = some (.slice ko ks.length kc) := (hgrow.cell_far _ (by simp; omega) (unhide NB)).trans (cell_later (Below.refl _ _ |>.alloc (Nat.le_refl _) _ |>.drew) cW); have z1 : wk.frozen? ⟨ob, 5, none⟩ = false := (hgrow.frozen_far _ (by simp; omega) (unhide NB)).trans (zf _); have hgo : gg ≠ ob := (by rcases hat with h | h; exact (by have := (unhide NG gg h).2; omega); omega); have y0 : wk.cell? ⟨gg, ks.length * 5, none⟩ = some (.string ⟨#[]⟩) := tree_cell hown1 (unhide OW).1 0 (by omega); have y1 : wk.cell? ⟨gg, ks.length * 5 + 1, none⟩ = some (.string ⟨#[]⟩) := tree_cell hown1 (unhide OW).1 1 (by omega); have y2 : wk.cell? ⟨gg, ks.length * 5 + 2, none⟩ = some (.int .i64 0) := tree_cell hown1 (unhide OW).1 2 (by omega); have y3 : wk.cell? ⟨gg, ks.length * 5 + 3, none⟩ = some (.int .i64 0) := tree_cell hown1 (unhide OW).1 3 (by omega); have y4 : wk.cell? ⟨gg, ks.length * 5 + 4, none⟩ = some (.slice none 0 0) := tree_cell hown1 (unhide OW).1 4 (by omega); have yf : ∀ o, wk.frozen? ⟨gg, o, none⟩ = false := (fun o => hown1.frozenAt o)))
            all_goals
              go_wp2_with fail
              go_meet
              case rel =>
                rw [← unhide HWB] at hgrow
                have hat' : (Value.slice ko ks.length kc).ownBlock = some gg ∨ gg = w2.heap.size + 2 := by rw [unhide SZB] at hat; exact hat
                have R := kid_roundP (g := gg) (cap := cap) (a0 := .string xop) (a1 := .string xtext) (a2 := .int .i64 xn) (a3 := .int .i64 xa) (a4 := .slice xo xc xl) (tv := .slice none 0 0) (lv := .slice none 0 0) (unhide HF) (unhide F2) (unhide H2) (unhide HBLK) (unhide HNO) l0 ln hln (unhide HDO) (unhide HTO) (unhide T3) hgrow rfl hown1 hat' rfl
                have hsz : n1 ≤ wk.heap.size := by have := hgrow.size; simp at this; omega
                obtain ⟨r1, r2, r3, r4, r5, r6⟩ := R
                try rw [head_last hgo]
                refine ⟨gg, cap, ?_, ?_, ?_, ?_, ?_, ?_, ?_⟩
                · with_reducible exact size_six hsz
                · with_reducible exact r1
                · with_reducible exact r2
                · exact r3
                · with_reducible exact r4
                · with_reducible exact r5
                · with_reducible exact r6
          case rest =>
            obtain ⟨gg, cap, lwn, f1, f2, f3, f4, f5, f6⟩ := hcut
            have G1 := hide f1
            have G2 := hide f2
            have G3 := hide f3
            have G4 := hide f4
            have G5 := hide f5
            have G6 := hide f6
            have d1 := f1.cell.1
            have lw : w.heap.size < wc.heap.size := f1.lt f1.own
            clear f1 f2 f3 f4 f5 f6 t0 t1 t2 t3 t4 zf zW cW lbx lobW
            go_wp2_with fail
            go_roundg g2
            case measure => omega
            case rel => exact ⟨s1, ks ++ [x], _, _, _, O3, by simp; omega, rfl, unhide G1, unhide K2, unhide G2, unhide G4, unhide G3, lwn, unhide G5, unhide G6, unhide HL2⟩
        · have hst := bodyLp_stop (unhide HL) hc
          obtain ⟨hc1, rfl⟩ : c.1 = su ∧ ks1 = ks := by simpa using hst
          have HC1 := hide hc1
          clear hst hc1 HL
          have hor : (more = false) ∨ (more = true ∧ ¬ su.bad < 0) := by
            cases more with
            | false => exact Or.inl rfl
            | true => exact Or.inr ⟨rfl, fun h => hc ⟨rfl, h⟩⟩
          clear hc
          by_cases hb : 0 ≤ su.bad
          · have FIN := hide (show ∀ e, e = .returned (.tuple #[.pointer none, .int .i64 2, .int .i64 su.bad]) → ∀ w', Below w.heap.size w w' → CompC w c e w' from fun e he w' hw => ⟨hw, by rw [unhide HC1, if_pos hb]; exact he⟩)
            rcases hor with rfl | ⟨rfl, hn⟩
            all_goals
              go_wp2_with fail
              go_quiet ((fail))
              go_wp2_with fail
              refine bodyPost_ret (v := .tuple #[.pointer none, .int .i64 2, .int .i64 su.bad]) (by simp [results, Tryz.results25, go_sem]) rfl ?_
              exact unhide FIN _ rfl _ (below_drewN (Fr.nF_below (unhide HF)) _)
          · have hm : more = false := by
              rcases hor with h | ⟨_, h⟩
              · exact h
              · omega
            subst hm
            clear hor
            obtain ⟨tv, lv, hpat, hO⟩ := unhide HP
            have c5 : WX.cell? ⟨w.heap.size, 5, none⟩ = some tv := cell_of_heap hpat.blk
            have c6 : WX.cell? ⟨w.heap.size, 6, none⟩ = some lv := cell_of_heap hpat.blk
            obtain ⟨t1o, tc, htv⟩ := owns_sl hpat.own1
            obtain ⟨l1o, lc, hlv⟩ := owns_sl hpat.own2
            have qB := unhide HBLK
            have b6 : WX.cell? ⟨ob, 6, none⟩ = some (.slice none 0 0) := cell_of_heap qB
            have b7 : WX.cell? ⟨ob, 7, none⟩ = some (.slice none 0 0) := cell_of_heap qB
            have zB : ∀ o, WX.frozen? ⟨ob, o, none⟩ = false := fun o => frozen_of_heap qB
            have neb : w.heap.size ≠ ob := by omega
            have lwx : w.heap.size < WX.heap.size := by omega
            subst htv hlv
            have HPAT := hide hpat
            have HO := hide hO
            have HB := hide hb
            clear hpat hO qB hb
            go_wp2_with fail
            obtain ⟨WN, hWN⟩ : ∃ W, (WX.setCell ⟨ob, 6, none⟩ (.slice t1o su.taken.length tc)).setCell ⟨ob, 7, none⟩ (.slice l1o su.lines.length lc) = W := ⟨_, rfl⟩
            have qN : WN.heap[ob]? = some (.cells (polC (.slice oo ds1.length cc) (.slice ko ks1.length kc) (.slice t1o su.taken.length tc) (.slice l1o su.lines.length lc)) 119 (0, 0)) := by
              rw [← hWN, heap_set (heap_set (unhide HBLK))]; rfl
            have oN : ∀ k, k ≠ ob → WN.heap[k]? = WX.heap[k]? := fun k hk => by rw [← hWN, heap_set_other hk, heap_set_other hk]
            have sN : WN.heap.size = WX.heap.size := by rw [← hWN]; simp [World.setCell]
            have fN : Fr nF w O2 WN := by rw [← hWN]; exact ((unhide HF).setCell (Or.inr l0) _).setCell (Or.inr l0) _
            have dN : DsOpen WN (fun k => O2 k ∨ k = ob ∨ k < w.heap.size ∨ n1 ≤ k) ds1 (.slice oo ds1.length cc) xs := (unhide HDO).keep (fun k hk hn => oN k (fun e => hn (Or.inr (Or.inl e)))) (fun _ _ h => h)
            have tN : TrOpen WN (fun k => O2 k ∨ k < n1) ks1 (.slice ko ks1.length kc) ys := (unhide HTO).keep (fun k hk hn => oN k (fun e => hn (Or.inr (by omega)))) (fun _ _ h => h)
            have pN : PAt WN w.heap.size s su (.slice t1o su.taken.length tc) (.slice l1o su.lines.length lc) := by
              have hx := unhide HNO
              rw [unhide HO] at hx
              rw [← hWN]; exact ((unhide HPAT).other hx _ _).other hx _ _
            rw [hWN]
            have QN := hide qN
            have FN := hide fN
            have DN := hide dN
            have TN := hide tN
            have PN := hide pN
            have lobn : ob < WN.heap.size := heap_lt qN
            clear hWN oN qN fN dN tN pN b6 b7 zB c5 c6 sN
            have CALL := hide (names_any (w := WN) (pb := ob) ((unhide DN).defsIn (cell_of_heap (unhide QN)) hdl).1 ((unhide TN).at wBlock ⟨#[]⟩ 0 0) (cell_of_heap (unhide QN)) (cell_of_heap (unhide QN)) (cell_of_heap (unhide QN)) (cell_of_heap (unhide QN)) (cell_of_heap (unhide QN)))
            refine (unhide CALL).mono ?_
            rintro e wn ⟨rfl, hbn⟩
            have HBN := hide hbn
            clear CALL hbn
            obtain ⟨nv, hnv⟩ : ∃ nv, namesP ds1 (.mk wBlock ⟨#[]⟩ 0 0 ks1) = nv := ⟨_, rfl⟩
            rw [hnv]
            have HNV := hide hnv
            clear hnv
            have hnb : ¬ 0 ≤ su.bad := by have := unhide HB; omega
            have HCE2 := hide (show c = (su, ds1, ks1) from by have h := unhide HCE; rw [unhide HC1] at h; exact h)
            by_cases hn : 0 ≤ nv
            · have FIN := hide (show ∀ e, e = .returned (.tuple #[.pointer none, .int .i64 3, .int .i64 nv]) → ∀ w', Below w.heap.size w w' → CompC w c e w' from fun e he w' hw => ⟨hw, by rw [unhide HCE2, if_neg hnb]; show if 0 ≤ namesP ds1 (.mk wBlock ⟨#[]⟩ 0 0 ks1) then _ else _; rw [unhide HNV, if_pos hn]; exact he⟩)
              clear hnb
              go_wp2_with fail
              refine bodyPost_ret (v := .tuple #[.pointer none, .int .i64 3, .int .i64 nv]) (by simp [results, Tryz.results25, go_sem]) rfl ?_
              exact unhide FIN _ rfl _ ((Fr.nF_below (unhide FN)).trans ((unhide HBN).mono (unhide FN).size))
            · have HN := hide hn
              clear hnb
              go_wp2_with fail
              have qn := ((unhide HBN).block ob lobn).trans (unhide QN)
              have dn := (unhide DN).keep (fun k hk _ => (unhide HBN).block k hk) (fun _ _ h => h)
              have tn := (unhide TN).keep (fun k hk _ => (unhide HBN).block k hk) (fun _ _ h => h)
              have hwfb : WfTr (.mk wBlock ⟨#[]⟩ 0 0 ks1) := by
                rw [WfTr]
                refine ⟨fun e => absurd e (by decide +kernel), ?_⟩
                have h := unhide HWF
                rw [unhide HCE2] at h
                exact h (by have := unhide HB; show su.bad < 0; omega)
              have dn2 : DsOpen wn nF ds1 (.slice oo ds1.length cc) xs := dn.keep (fun _ _ _ => rfl) (fun _ _ h => h.elim)
              have CALL := hide (numbers_any (w := wn) (pb := ob) (dn2.defsIn (cell_of_heap qn) hdl).2 hwfb (TrAt.keep (Q := fun k => O2 k ∨ k < n1) (Q' := fun k => nF k ∨ (Value.slice oo ds1.length cc).ownBlock = some k) (fun _ _ _ => rfl) (fun k _ hq => Or.inr (Nat.lt_of_not_le (fun h => dn.off k (hq.resolve_left (fun x => x)) (Or.inr (Or.inr (Or.inr h)))))) _ _ (tn.at wBlock ⟨#[]⟩ 0 0)) (cell_of_heap qn) (cell_of_heap qn) (cell_of_heap qn) (cell_of_heap qn) (cell_of_heap qn))
              have Qn := hide qn
              have Dn := hide dn
              have Tn := hide tn
              have Pn := hide ((unhide PN).stay (unhide HBN))
              have Fn := hide ((unhide FN).below (unhide HBN))
              have lobn2 : ob < wn.heap.size := heap_lt qn
              clear qn dn tn dn2 hwfb
              refine (unhide CALL).mono ?_
              rintro e wm ⟨rfl, hbm⟩
              have HBM := hide hbm
              clear CALL hbm
              obtain ⟨mv, hmv⟩ : ∃ mv, numbersP ds1 (.mk wBlock ⟨#[]⟩ 0 0 ks1) = mv := ⟨_, rfl⟩
              rw [hmv]
              have HMV := hide hmv
              clear hmv
              have hnb : ¬ 0 ≤ su.bad := by have := unhide HB; omega
              have hnn : ¬ 0 ≤ nv := by have := unhide HN; omega
              by_cases hm : 0 ≤ mv
              · have FIN := hide (show ∀ e, e = .returned (.tuple #[.pointer none, .int .i64 4, .int .i64 mv]) → ∀ w', Below w.heap.size w w' → CompC w c e w' from fun e he w' hw => ⟨hw, by
                  rw [unhide HCE2, if_neg hnb]
                  show if 0 ≤ namesP ds1 (.mk wBlock ⟨#[]⟩ 0 0 ks1) then _ else if 0 ≤ numbersP ds1 (.mk wBlock ⟨#[]⟩ 0 0 ks1) then _ else _
                  rw [unhide HNV, if_neg hnn, unhide HMV, if_pos hm]; exact he⟩)
                clear hnb hnn
                go_wp2_with fail
                refine bodyPost_ret (v := .tuple #[.pointer none, .int .i64 4, .int .i64 mv]) (by simp [results, Tryz.results25, go_sem]) rfl ?_
                exact unhide FIN _ rfl _ ((Fr.nF_below (unhide Fn)).trans ((unhide HBM).mono (unhide Fn).size))
              · have FIN := hide (show ∀ e pp, e = .returned (.tuple #[ptr pp, .int .i64 0, .int .i64 0]) → ∀ w', Below w.heap.size w w' → Lasts w' (fun k => w.heap.size ≤ k) (PolR pp ds1 ks1 su.taken su.lines) → CompC w c e w' from fun e pp he w' hw hl => ⟨hw, by
                  rw [unhide HCE2, if_neg hnb]
                  show if 0 ≤ namesP ds1 (.mk wBlock ⟨#[]⟩ 0 0 ks1) then _ else if 0 ≤ numbersP ds1 (.mk wBlock ⟨#[]⟩ 0 0 ks1) then _ else _
                  rw [unhide HNV, if_neg hnn, unhide HMV, if_neg hm]; exact ⟨pp, he, hl⟩⟩)
                clear hnb hnn
                go_wp2_with fail
                refine bodyPost_ret (v := .tuple #[ptr ob, .int .i64 0, .int .i64 0]) (by simp [results, Tryz.results25, go_sem]) rfl ?_
                refine unhide FIN _ ob rfl _ ((Fr.nF_below (unhide Fn)).trans ((unhide HBM).mono (unhide Fn).size)) ?_
                exact pol_lasts (unhide Fn) (unhide HO) (unhide Pn) (unhide Qn) (unhide Dn) (unhide Tn) l0 lnw hdl (by omega) (unhide HBM)
end Go.Proofs.YtgdeeodifnegiaaGreatDoor.rf
