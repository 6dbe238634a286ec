/- A script is played (package bywaylaw): World.step at the kinds 4 and 5, plays. -/
import Derived.Test.YtgngdklkoilaiaaGreatDoorLawO
namespace Go.Proofs.YtgngdklkoilaiaaGreatDoor
open Go.RowKit

theorem StepR.of_below {wb : Nat} {b b' : Bk} {W W1 W' : World} (h : StepR wb b b' W1 W') (hb : Below W.heap.size W W1) : StepR wb b b' W W' :=
  ⟨h.os.trans hb.os, h.tape.trans hb.tape, h.output.trans hb.output, Nat.le_trans hb.size h.size, fun k hk hO => (h.block k (Nat.lt_of_lt_of_le hk hb.size) hO).trans (hb.block k hk), fun k hk => (h.own k hk).imp id (fun h => Nat.le_trans hb.size h), h.cnt⟩
theorem StepR.below {wb : Nat} {b b' : Bk} {W0 W W' : World} (h : StepR wb b b' W W') (hb : Below W0.heap.size W0 W) (hB : BookAt W wb b) (hw : W0.heap.size ≤ wb) : Below W0.heap.size W0 W' :=
  hb.trans ⟨h.os, h.tape, h.output, h.size, fun k hk => h.block k (Nat.lt_of_lt_of_le hk hb.size) (fun hO => by have := (hB.lt hO).2; omega)⟩

set_option maxRecDepth 100000 in
set_option maxHeartbeats 3200000 in
theorem step4 (o : OpM) (b : Bk) (wb : Nat) (W : World) (hk : o.kind = 4) (ht : TabAt W) (hB : BookAt W wb b) (hO : OpOk W o) (hcnt : b.cnt ≤ 16777200) :
    Calls Tryz.prog 6 #[.pointer (some ⟨wb, 0, none⟩), .agg (opC o)] W fun e W' => e = .returned (.bool true) ∧ ∃ b', BookAt W' wb b' ∧ StepR wb b b' W W' := by
  have HT := hide ht
  have HB := hide hB
  have HO := hide hO
  clear ht hB
  obtain ⟨kind, oa, ob, os, na, nl, rp, rm, rpref, rmed, ug, un, up, um, u, vi, vo⟩ := o
  obtain ⟨h1, h2, h3, h4, h5, h6, h7, ⟨rp1, rp2, rp3, e1⟩, ⟨rm1, rm2, rm3, e2⟩, ⟨vi1, vi2, vi3, e3⟩, ⟨vo1, vo2, vo3, e4⟩, lg, lp, lm, ls⟩ := hO
  simp only at h1 h2 h3 h4 e1 e2 e3 e4
  subst e1 e2 e3 e4
  obtain ⟨p1, c1, rfl, -⟩ := h1
  obtain ⟨p2, c2, rfl, -⟩ := h2
  obtain ⟨p3, c3, rfl, -⟩ := h3
  obtain ⟨p4, c4, rfl, -⟩ := h4
  clear h5 h6 h7 lg lp lm ls
  simp only at hk
  subst hk
  have HE := hide (show opC ⟨4, oa, ob, os, na, nl, .slice rp1 rp2 rp3, .slice rm1 rm2 rm3, rpref, rmed, .slice p1 u.gone.length c1, .slice p2 u.nets.length c2, .slice p3 u.path.length c3, .slice p4 u.marks.length c4, u, .slice vi1 vi2 vi3, .slice vo1 vo2 vo3⟩ = #[Value.int .i64 4, .int .i64 oa, .int .i64 ob, .string os, .int .i64 na, .int .i64 nl, .slice rp1 rp2 rp3, .slice rm1 rm2 rm3, .int .i64 rpref, .int .i64 rmed, .slice p1 u.gone.length c1, .slice p2 u.nets.length c2, .slice p3 u.path.length c3, .slice p4 u.marks.length c4, .int .i64 u.pref, .int .i64 u.med, .slice vi1 vi2 vi3, .slice vo1 vo2 vo3] from rfl)
  rw [unhide HE]
  obtain ⟨WA, hWA⟩ : ∃ WA, W.alloc (.cells #[Value.int .i64 4, .int .i64 oa, .int .i64 ob, .string os, .int .i64 na, .int .i64 nl, .slice rp1 rp2 rp3, .slice rm1 rm2 rm3, .int .i64 rpref, .int .i64 rmed, .slice p1 u.gone.length c1, .slice p2 u.nets.length c2, .slice p3 u.path.length c3, .slice p4 u.marks.length c4, .int .i64 u.pref, .int .i64 u.med, .slice vi1 vi2 vi3, .slice vo1 vo2 vo3] 34) = WA := ⟨_, rfl⟩
  have BA := (Below.refl W.heap.size W).alloc (Nat.le_refl _) (.cells #[Value.int .i64 4, .int .i64 oa, .int .i64 ob, .string os, .int .i64 na, .int .i64 nl, .slice rp1 rp2 rp3, .slice rm1 rm2 rm3, .int .i64 rpref, .int .i64 rmed, .slice p1 u.gone.length c1, .slice p2 u.nets.length c2, .slice p3 u.path.length c3, .slice p4 u.marks.length c4, .int .i64 u.pref, .int .i64 u.med, .slice vi1 vi2 vi3, .slice vo1 vo2 vo3] 34)
  have QA := heap_alloc_new W (.cells #[Value.int .i64 4, .int .i64 oa, .int .i64 ob, .string os, .int .i64 na, .int .i64 nl, .slice rp1 rp2 rp3, .slice rm1 rm2 rm3, .int .i64 rpref, .int .i64 rmed, .slice p1 u.gone.length c1, .slice p2 u.nets.length c2, .slice p3 u.path.length c3, .slice p4 u.marks.length c4, .int .i64 u.pref, .int .i64 u.med, .slice vi1 vi2 vi3, .slice vo1 vo2 vo3] 34)
  rw [hWA] at BA QA
  have CA := hide BA
  have HWA := hide hWA
  have f0 : WA.cell? ⟨W.heap.size, 0, none⟩ = some (.int .i64 4) := cell_of_heap QA
  have f1 : WA.cell? ⟨W.heap.size, 1, none⟩ = some (.int .i64 oa) := cell_of_heap QA
  have f2 : WA.cell? ⟨W.heap.size, 2, none⟩ = some (.int .i64 ob) := cell_of_heap QA
  have f3 : WA.cell? ⟨W.heap.size, 3, none⟩ = some (.string os) := cell_of_heap QA
  have f4 : WA.cell? ⟨W.heap.size, 4, none⟩ = some (.int .i64 na) := cell_of_heap QA
  have f5 : WA.cell? ⟨W.heap.size, 5, none⟩ = some (.int .i64 nl) := cell_of_heap QA
  have f6 : WA.cell? ⟨W.heap.size, 6, none⟩ = some (.slice rp1 rp2 rp3) := cell_of_heap QA
  have f7 : WA.cell? ⟨W.heap.size, 7, none⟩ = some (.slice rm1 rm2 rm3) := cell_of_heap QA
  have f8 : WA.cell? ⟨W.heap.size, 8, none⟩ = some (.int .i64 rpref) := cell_of_heap QA
  have f9 : WA.cell? ⟨W.heap.size, 9, none⟩ = some (.int .i64 rmed) := cell_of_heap QA
  have f10 : WA.cell? ⟨W.heap.size, 10, none⟩ = some (.slice p1 u.gone.length c1) := cell_of_heap QA
  have f11 : WA.cell? ⟨W.heap.size, 11, none⟩ = some (.slice p2 u.nets.length c2) := cell_of_heap QA
  have f12 : WA.cell? ⟨W.heap.size, 12, none⟩ = some (.slice p3 u.path.length c3) := cell_of_heap QA
  have f13 : WA.cell? ⟨W.heap.size, 13, none⟩ = some (.slice p4 u.marks.length c4) := cell_of_heap QA
  have f14 : WA.cell? ⟨W.heap.size, 14, none⟩ = some (.int .i64 u.pref) := cell_of_heap QA
  have f15 : WA.cell? ⟨W.heap.size, 15, none⟩ = some (.int .i64 u.med) := cell_of_heap QA
  have f16 : WA.cell? ⟨W.heap.size, 16, none⟩ = some (.slice vi1 vi2 vi3) := cell_of_heap QA
  have f17 : WA.cell? ⟨W.heap.size, 17, none⟩ = some (.slice vo1 vo2 vo3) := cell_of_heap QA
  clear hWA BA QA
  go_enter Tryz.func6, Tryz.ntmps6
  go_upto_region 5 with fail
  rw [unhide HWA]
  go_wp2_with fail
  rw [← unhide HE]
  clear f0 f1 f2 f3 f4 f5 f6 f7 f8 f9 f10 f11 f12 f13 f14 f15 f16 f17
  refine (lawEncode_any _ b wb WA ((unhide HT).below (unhide CA)) ((unhide HB).below (unhide CA)) ((unhide HO).below (unhide CA)) (by omega)).mono ?_
  rintro e w1 ⟨rfl, b', hb', hst⟩
  have BK := hide hb'
  have ST := hide (hst.of_below (unhide CA))
  clear hb' hst
  go_wp2
  go_ret
  exact ⟨rfl, b', unhide BK, unhide ST⟩
set_option maxRecDepth 100000 in
set_option maxHeartbeats 3200000 in
theorem step5 (o : OpM) (b : Bk) (wb : Nat) (W : World) (hk : o.kind = 5) (ht : TabAt W) (hB : BookAt W wb b) (hO : OpOk W o) (hcnt : b.cnt ≤ 16777200) :
    Calls Tryz.prog 6 #[.pointer (some ⟨wb, 0, none⟩), .agg (opC o)] W fun e W' => e = .returned (.bool true) ∧ ∃ b', BookAt W' wb b' ∧ StepR wb b b' W W' := by
  have HT := hide ht
  have HB := hide hB
  have HO := hide hO
  clear ht hB
  obtain ⟨kind, oa, ob, os, na, nl, rp, rm, rpref, rmed, ug, un, up, um, u, vi, vo⟩ := o
  obtain ⟨h1, h2, h3, h4, h5, h6, h7, ⟨rp1, rp2, rp3, e1⟩, ⟨rm1, rm2, rm3, e2⟩, ⟨vi1, vi2, vi3, e3⟩, ⟨vo1, vo2, vo3, e4⟩, lg, lp, lm, ls⟩ := hO
  simp only at h1 h2 h3 h4 e1 e2 e3 e4
  subst e1 e2 e3 e4
  obtain ⟨p1, c1, rfl, -⟩ := h1
  obtain ⟨p2, c2, rfl, -⟩ := h2
  obtain ⟨p3, c3, rfl, -⟩ := h3
  obtain ⟨p4, c4, rfl, -⟩ := h4
  clear h5 h6 h7 lg lp lm ls
  simp only at hk
  subst hk
  have HE := hide (show opC ⟨5, oa, ob, os, na, nl, .slice rp1 rp2 rp3, .slice rm1 rm2 rm3, rpref, rmed, .slice p1 u.gone.length c1, .slice p2 u.nets.length c2, .slice p3 u.path.length c3, .slice p4 u.marks.length c4, u, .slice vi1 vi2 vi3, .slice vo1 vo2 vo3⟩ = #[Value.int .i64 5, .int .i64 oa, .int .i64 ob, .string os, .int .i64 na, .int .i64 nl, .slice rp1 rp2 rp3, .slice rm1 rm2 rm3, .int .i64 rpref, .int .i64 rmed, .slice p1 u.gone.length c1, .slice p2 u.nets.length c2, .slice p3 u.path.length c3, .slice p4 u.marks.length c4, .int .i64 u.pref, .int .i64 u.med, .slice vi1 vi2 vi3, .slice vo1 vo2 vo3] from rfl)
  rw [unhide HE]
  obtain ⟨WA, hWA⟩ : ∃ WA, W.alloc (.cells #[Value.int .i64 5, .int .i64 oa, .int .i64 ob, .string os, .int .i64 na, .int .i64 nl, .slice rp1 rp2 rp3, .slice rm1 rm2 rm3, .int .i64 rpref, .int .i64 rmed, .slice p1 u.gone.length c1, .slice p2 u.nets.length c2, .slice p3 u.path.length c3, .slice p4 u.marks.length c4, .int .i64 u.pref, .int .i64 u.med, .slice vi1 vi2 vi3, .slice vo1 vo2 vo3] 34) = WA := ⟨_, rfl⟩
  have BA := (Below.refl W.heap.size W).alloc (Nat.le_refl _) (.cells #[Value.int .i64 5, .int .i64 oa, .int .i64 ob, .string os, .int .i64 na, .int .i64 nl, .slice rp1 rp2 rp3, .slice rm1 rm2 rm3, .int .i64 rpref, .int .i64 rmed, .slice p1 u.gone.length c1, .slice p2 u.nets.length c2, .slice p3 u.path.length c3, .slice p4 u.marks.length c4, .int .i64 u.pref, .int .i64 u.med, .slice vi1 vi2 vi3, .slice vo1 vo2 vo3] 34)
  have QA := heap_alloc_new W (.cells #[Value.int .i64 5, .int .i64 oa, .int .i64 ob, .string os, .int .i64 na, .int .i64 nl, .slice rp1 rp2 rp3, .slice rm1 rm2 rm3, .int .i64 rpref, .int .i64 rmed, .slice p1 u.gone.length c1, .slice p2 u.nets.length c2, .slice p3 u.path.length c3, .slice p4 u.marks.length c4, .int .i64 u.pref, .int .i64 u.med, .slice vi1 vi2 vi3, .slice vo1 vo2 vo3] 34)
  rw [hWA] at BA QA
  have CA := hide BA
  have HWA := hide hWA
  have f0 : WA.cell? ⟨W.heap.size, 0, none⟩ = some (.int .i64 5) := cell_of_heap QA
  have f1 : WA.cell? ⟨W.heap.size, 1, none⟩ = some (.int .i64 oa) := cell_of_heap QA
  have f2 : WA.cell? ⟨W.heap.size, 2, none⟩ = some (.int .i64 ob) := cell_of_heap QA
  have f3 : WA.cell? ⟨W.heap.size, 3, none⟩ = some (.string os) := cell_of_heap QA
  have f4 : WA.cell? ⟨W.heap.size, 4, none⟩ = some (.int .i64 na) := cell_of_heap QA
  have f5 : WA.cell? ⟨W.heap.size, 5, none⟩ = some (.int .i64 nl) := cell_of_heap QA
  have f6 : WA.cell? ⟨W.heap.size, 6, none⟩ = some (.slice rp1 rp2 rp3) := cell_of_heap QA
  have f7 : WA.cell? ⟨W.heap.size, 7, none⟩ = some (.slice rm1 rm2 rm3) := cell_of_heap QA
  have f8 : WA.cell? ⟨W.heap.size, 8, none⟩ = some (.int .i64 rpref) := cell_of_heap QA
  have f9 : WA.cell? ⟨W.heap.size, 9, none⟩ = some (.int .i64 rmed) := cell_of_heap QA
  have f10 : WA.cell? ⟨W.heap.size, 10, none⟩ = some (.slice p1 u.gone.length c1) := cell_of_heap QA
  have f11 : WA.cell? ⟨W.heap.size, 11, none⟩ = some (.slice p2 u.nets.length c2) := cell_of_heap QA
  have f12 : WA.cell? ⟨W.heap.size, 12, none⟩ = some (.slice p3 u.path.length c3) := cell_of_heap QA
  have f13 : WA.cell? ⟨W.heap.size, 13, none⟩ = some (.slice p4 u.marks.length c4) := cell_of_heap QA
  have f14 : WA.cell? ⟨W.heap.size, 14, none⟩ = some (.int .i64 u.pref) := cell_of_heap QA
  have f15 : WA.cell? ⟨W.heap.size, 15, none⟩ = some (.int .i64 u.med) := cell_of_heap QA
  have f16 : WA.cell? ⟨W.heap.size, 16, none⟩ = some (.slice vi1 vi2 vi3) := cell_of_heap QA
  have f17 : WA.cell? ⟨W.heap.size, 17, none⟩ = some (.slice vo1 vo2 vo3) := cell_of_heap QA
  clear hWA BA QA
  go_enter Tryz.func6, Tryz.ntmps6
  go_upto_region 7 with fail
  rw [unhide HWA]
  go_wp2_with fail
  rw [← unhide HE]
  clear f0 f1 f2 f3 f4 f5 f6 f7 f8 f9 f10 f11 f12 f13 f14 f15 f16 f17
  refine (lawDecode_any _ b wb WA ((unhide HT).below (unhide CA)) ((unhide HB).below (unhide CA)) ((unhide HO).below (unhide CA)) (by omega)).mono ?_
  rintro e w1 ⟨rfl, b', hb', hst⟩
  have BK := hide hb'
  have ST := hide (hst.of_below (unhide CA))
  clear hb' hst
  go_wp2
  go_ret
  exact ⟨rfl, b', unhide BK, unhide ST⟩
theorem step_any (o : OpM) (b : Bk) (wb : Nat) (W : World) (hk : o.kind = 4 ∨ o.kind = 5) (ht : TabAt W) (hB : BookAt W wb b) (hO : OpOk W o) (hcnt : b.cnt ≤ 16777200) :
    Calls Tryz.prog 6 #[.pointer (some ⟨wb, 0, none⟩), .agg (opC o)] W fun e W' => e = .returned (.bool true) ∧ ∃ b', BookAt W' wb b' ∧ StepR wb b b' W W' :=
  hk.elim (fun h => step4 o b wb W h ht hB hO hcnt) (fun h => step5 o b wb W h ht hB hO hcnt)
/-- a script in memory -/
def ScriptAt (w : World) (v : Value) (S : List OpM) : Prop :=
  ∃ p c, v = .slice p S.length c ∧ S.length ≤ c ∧ S.length ≤ 1048576 ∧ (∀ o ∈ S, OpOk w o) ∧ (S = [] ∨ ∃ b f, p = some ⟨b, f, none⟩ ∧ b < w.heap.size ∧ ∀ j, (h : j < S.length) → ∀ i, i < 18 → w.cell? ⟨b, f + j * 18 + i, none⟩ = (opC S[j])[i]?)
theorem book0 (W : World) : BookAt (W.alloc (.cells (worldC ⟨.slice none 0 0, .slice none 0 0, .slice none 0 0, [], [], []⟩) 47)) W.heap.size ⟨.slice none 0 0, .slice none 0 0, .slice none 0 0, [], [], []⟩ :=
  ⟨heap_alloc_new _ _, World.ownsRow_nil _ _ _ _, World.ownsRow_nil _ _ _ _, World.ownsRow_nil _ _ _ _, by simp, by simp, by simp, fun k h => by
    rcases h with ⟨r, hr, _⟩ | ⟨r, hr, _⟩ | ⟨r, hr, _⟩ <;> simp at hr, apart_nil _, apart_nil _, apart_nil _⟩
end Go.Proofs.YtgngdklkoilaiaaGreatDoor
