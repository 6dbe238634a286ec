/- One step of a script (package bywaylaw): World.encode: what is lent comes back, the bytes are the document's, and they go into the book. -/
import Derived.Test.YtgngdklkoilaiaaGreatDoorLawH
import Derived.Test.YtgngdklkoilaiaaGreatDoorLawL
import Derived.Test.YtgngdklkoilaiaaGreatDoorLawM
import Derived.Test.YtgngdklkoilaiaaGreatDoorWireM
namespace Go.Proofs.YtgngdklkoilaiaaGreatDoor
open Go.RowKit

/-- a step of a script, as it lies in memory -/
structure OpM where
  kind : Int
  a : Int
  b : Int
  s : ByteArray
  na : Int
  nl : Int
  rp : Value
  rm : Value
  rpref : Int
  rmed : Int
  ug : Value
  un : Value
  up : Value
  um : Value
  u : Msg
  vi : Value
  vo : Value
def opC (o : OpM) : Array Value := #[.int .i64 o.kind, .int .i64 o.a, .int .i64 o.b, .string o.s, .int .i64 o.na, .int .i64 o.nl, o.rp, o.rm, .int .i64 o.rpref, .int .i64 o.rmed, o.ug, o.un, o.up, o.um, .int .i64 o.u.pref, .int .i64 o.u.med, o.vi, o.vo]
def isSl (v : Value) : Prop := ∃ q n c, v = .slice q n c
structure OpOk (w : World) (o : OpM) : Prop where
  ug : NetsAt w o.ug o.u.gone
  un : NetsAt w o.un o.u.nets
  up : IntsAt w o.up o.u.path
  um : IntsAt w o.um o.u.marks
  pref : inI o.u.pref
  med : inI o.u.med
  a : inI o.a
  rp : isSl o.rp
  rm : isSl o.rm
  vi : isSl o.vi
  vo : isSl o.vo
  lg : o.u.gone.length + o.u.nets.length ≤ 4194304
  lp : o.u.path.length ≤ 16777216
  lm : o.u.marks.length ≤ 16777216
  ls : o.s.size ≤ 1048576
theorem OpOk.below {w w' : World} {o : OpM} (h : OpOk w o) (hb : Below w.heap.size w w') : OpOk w' o :=
  ⟨h.ug.below hb, h.un.below hb, h.up.below hb, h.um.below hb, h.pref, h.med, h.a, h.rp, h.rm, h.vi, h.vo, h.lg, h.lp, h.lm, h.ls⟩
/-- what a step leaves -/
structure StepR (wb : Nat) (b b' : Bk) (W W' : World) : Prop where
  os : W'.os = W.os
  tape : W'.tape = W.tape
  output : W'.output = W.output
  size : W.heap.size ≤ W'.heap.size
  block : ∀ k, k < W.heap.size → ¬ b.O wb k → W'.heap[k]? = W.heap[k]?
  own : ∀ k, b'.O wb k → b.O wb k ∨ W.heap.size ≤ k
  cnt : b'.cnt ≤ b.cnt + 4
theorem LentN.set {w w' : World} {x v : Value} {L : List (Int × Int)} (h : LentN w w' x v L) {b o : Nat} (hb : b < w.heap.size) (u : Value) : LentN w (w'.setCell ⟨b, o, none⟩ u) x v L := by
  rcases h with h | ⟨a, c, g, h1, h2, h3, hg⟩
  · exact Or.inl h
  · exact Or.inr ⟨a, c, g, h1, h2, h3, by rw [heap_set_other (by simp only; omega)]; exact hg⟩
theorem LentI.set {w w' : World} {x v : Value} {L : List Int} (h : LentI w w' x v L) {b o : Nat} (hb : b < w.heap.size) (u : Value) : LentI w (w'.setCell ⟨b, o, none⟩ u) x v L := by
  rcases h with h | ⟨a, c, g, h1, h2, h3, hg⟩
  · exact Or.inl h
  · exact Or.inr ⟨a, c, g, h1, h2, h3, by rw [heap_set_other (by simp only; omega)]; exact hg⟩
theorem LentN.keep {w w' w'' : World} {x v : Value} {L : List (Int × Int)} {O O' : Nat → Prop} (h : LentN w w' x v L) (hf : Fr O w' O' w'') (hv : ∀ k, v.ownBlock = some k → ¬ O k) : LentN w w'' x v L := by
  rcases h with h | ⟨a, c, g, h1, h2, h3, hg⟩
  · exact Or.inl h
  · exact Or.inr ⟨a, c, g, h1, h2, h3, (hf.block g (heap_lt hg) (hv g (by rw [h2]; rfl))).trans hg⟩
theorem LentI.keep {w w' w'' : World} {x v : Value} {L : List Int} {O O' : Nat → Prop} (h : LentI w w' x v L) (hf : Fr O w' O' w'') (hv : ∀ k, v.ownBlock = some k → ¬ O k) : LentI w w'' x v L := by
  rcases h with h | ⟨a, c, g, h1, h2, h3, hg⟩
  · exact Or.inl h
  · exact Or.inr ⟨a, c, g, h1, h2, h3, (hf.block g (heap_lt hg) (hv g (by rw [h2]; rfl))).trans hg⟩
theorem LentN.blk {w w' : World} {x v : Value} {L : List (Int × Int)} (h : LentN w w' x v L) : ∀ k, v.ownBlock = some k → w.heap.size ≤ k ∧ k < w'.heap.size := by
  intro k hk
  rcases h with ⟨_, h, _⟩ | ⟨a, c, g, h1, h2, h3, hg⟩
  · rw [h] at hk; simp [Value.ownBlock] at hk
  · rw [h2] at hk
    have : g = k := by simpa [Value.ownBlock] using hk
    subst this
    exact ⟨h3, heap_lt hg⟩
theorem LentI.blk {w w' : World} {x v : Value} {L : List Int} (h : LentI w w' x v L) : ∀ k, v.ownBlock = some k → w.heap.size ≤ k ∧ k < w'.heap.size := by
  intro k hk
  rcases h with ⟨_, h, _⟩ | ⟨a, c, g, h1, h2, h3, hg⟩
  · rw [h] at hk; simp [Value.ownBlock] at hk
  · rw [h2] at hk
    have : g = k := by simpa [Value.ownBlock] using hk
    subst this
    exact ⟨h3, heap_lt hg⟩
theorem LentN.sl {w w' : World} {x v : Value} {L : List (Int × Int)} (h : LentN w w' x v L) : ∃ q c, v = .slice q L.length c := by
  rcases h with ⟨_, h, h2⟩ | ⟨a, c, g, h1, h2, h3, hg⟩
  · exact ⟨none, 0, by rw [h, h2]; rfl⟩
  · exact ⟨_, _, h2⟩
theorem LentI.sl {w w' : World} {x v : Value} {L : List Int} (h : LentI w w' x v L) : ∃ q c, v = .slice q L.length c := by
  rcases h with ⟨_, h, h2⟩ | ⟨a, c, g, h1, h2, h3, hg⟩
  · exact ⟨none, 0, by rw [h, h2]; rfl⟩
  · exact ⟨_, _, h2⟩
theorem Fr.belowO {B : Nat} {W w w' : World} {O O' : Nat → Prop} (h : Fr O w O' w') (hb : Below B W w) (hB : B ≤ w.heap.size) (hO : ∀ k, O k → B ≤ k) : Below B W w' :=
  hb.trans ⟨h.os, h.tape, h.output, h.size, fun k hk => h.block k (by omega) (fun ho => by have := hO k ho; omega)⟩
theorem encP_len2 {u : Msg} (h : msgOk u) : (encP u).length ≤ 266 := by
  have h1 := netsB_len (l := u.gone) (fun x hx => h.1.2.1 x (by simp [hx]))
  have h2 := netsB_len (l := u.nets) (fun x hx => h.1.2.1 x (by simp [hx]))
  have h3 := attsB_len h
  have h4 := h.1.1
  rw [List.length_append] at h4
  unfold encP
  simp only [List.length_append, twoB_len]
  omega

set_option maxRecDepth 100000 in
set_option maxHeartbeats 6400000 in
theorem lawEncode_any (o : OpM) (b : Bk) (wb : Nat) (W : World) (ht : TabAt W) (hB : BookAt W wb b) (hO : OpOk W o) (hcnt : b.cnt ≤ 16777216) :
    Calls Tryz.prog 9 #[.pointer (some ⟨wb, 0, none⟩), .agg (opC o)] W fun e W' => e = .returned (.bool true) ∧ ∃ b', BookAt W' wb b' ∧ StepR wb b b' W W' := by
  have HT := hide ht
  have HB := hide hB
  have HO := hide hO
  have hwlt : wb < W.heap.size := heap_lt hB.blk
  obtain ⟨kind, oa, ob, os, na, nl, rp, rm, rpref, rmed, ug, un, up, um, u, vi, vo⟩ := o
  obtain ⟨h1, h2, h3, h4, h5, h6, h7, ⟨rp1, rp2, rp3, e1⟩, ⟨rm1, rm2, rm3, e2⟩, ⟨vi1, vi2, vi3, e3⟩, ⟨vo1, vo2, vo3, e4⟩, lg, lp, lm, ls⟩ := hO
  simp only at h1 h2 h3 h4 h5 h6 h7 e1 e2 e3 e4 lg lp lm ls
  subst e1 e2 e3 e4
  have H1 := hide h1
  have H2 := hide h2
  have H3 := hide h3
  have H4 := hide h4
  have T1 := hide h1.lt
  have T2 := hide h2.lt
  have T3 := hide h3.lt
  have T4 := hide h4.lt
  have I1 := hide (show ∀ y ∈ u.gone, inI y.1 ∧ inI y.2 from by obtain ⟨_, _, _, _, _, h, _⟩ := h1; exact h)
  have I2 := hide (show ∀ y ∈ u.nets, inI y.1 ∧ inI y.2 from by obtain ⟨_, _, _, _, _, h, _⟩ := h2; exact h)
  have I3 := hide (show ∀ y ∈ u.path, inI y from by obtain ⟨_, _, _, _, _, h, _⟩ := h3; exact h)
  have I4 := hide (show ∀ y ∈ u.marks, inI y from by obtain ⟨_, _, _, _, _, h, _⟩ := h4; exact h)
  obtain ⟨p1, c1, rfl, -⟩ := h1
  obtain ⟨p2, c2, rfl, -⟩ := h2
  obtain ⟨p3, c3, rfl, -⟩ := h3
  obtain ⟨p4, c4, rfl, -⟩ := h4
  unfold opC
  simp only
  obtain ⟨BX, hBX⟩ : ∃ BX : Array Value, #[Value.int .i64 kind, .int .i64 oa, .int .i64 ob, .string os, .int .i64 na, .int .i64 nl, .slice rp1 rp2 rp3, .slice rm1 rm2 rm3, .int .i64 rpref, .int .i64 rmed, .slice p1 u.gone.length c1, .slice p2 u.nets.length c2, .slice p3 u.path.length c3, .slice p4 u.marks.length c4, .int .i64 u.pref, .int .i64 u.med, .slice vi1 vi2 vi3, .slice vo1 vo2 vo3] = BX := ⟨_, rfl⟩
  obtain ⟨WA, hWA⟩ : ∃ WA, W.alloc (.cells BX 34) = WA := ⟨_, rfl⟩
  have QA := heap_alloc_new W (.cells BX 34)
  have BA := (Below.refl W.heap.size W).alloc (Nat.le_refl _) (.cells BX 34)
  have sA : WA.heap.size = W.heap.size + 1 := by rw [← hWA]; simp
  rw [hWA] at QA BA
  obtain ⟨WB, hWB⟩ : ∃ WB, WA.alloc (.cells #[.slice p1 u.gone.length c1, .slice p2 u.nets.length c2, .slice p3 u.path.length c3, .slice p4 u.marks.length c4, .int .i64 u.pref, .int .i64 u.med] 27) = WB := ⟨_, rfl⟩
  have QB := heap_alloc_new WA (.cells #[.slice p1 u.gone.length c1, .slice p2 u.nets.length c2, .slice p3 u.path.length c3, .slice p4 u.marks.length c4, .int .i64 u.pref, .int .i64 u.med] 27)
  have BB := (Below.refl WA.heap.size WA).alloc (Nat.le_refl _) (.cells #[.slice p1 u.gone.length c1, .slice p2 u.nets.length c2, .slice p3 u.path.length c3, .slice p4 u.marks.length c4, .int .i64 u.pref, .int .i64 u.med] 27)
  rw [hWB, sA] at QB
  rw [hWB] at BB
  have QA2 := (BB.block _ (heap_lt QA)).trans QA
  have B0 := hide (BA.trans (BB.mono BA.size))
  have lB : W.heap.size + 1 < WB.heap.size := heap_lt QB
  have HQA := hide QA2
  have HQB := hide QB
  subst hBX
  have a10 : WB.cell? ⟨W.heap.size, 10, none⟩ = some (.slice p1 u.gone.length c1) := cell_of_heap QA2
  have HWA := hide hWA
  have HWB := hide hWB
  have u0 : WB.cell? ⟨W.heap.size + 1, 0, none⟩ = some (.slice p1 u.gone.length c1) := cell_of_heap QB
  have fz0 : ∀ o, WB.frozen? ⟨W.heap.size + 1, o, none⟩ = false := fun o => frozen_of_heap QB
  clear hWA hWB QA QB BA BB QA2 sA hB ht
  go_enter Tryz.func9, Tryz.ntmps9
  go_wp2_with fail
  rw [unhide HWA, unhide HWB]
  refine (lentNets_any u.gone _ WB ((unhide H1).below (unhide B0)) (by omega)).mono ?_
  rintro e w1 ⟨v1, rfl, hl, hb⟩
  obtain ⟨q1, d1, rfl⟩ := hl.sl
  have B1 := hide ((unhide B0).trans (hb.mono (unhide B0).size))
  have qa1 := (hb.block _ (heap_lt (unhide HQA))).trans (unhide HQA)
  have qb1 := (hb.block _ (heap_lt (unhide HQB))).trans (unhide HQB)
  obtain ⟨x1, hx1⟩ : ∃ x1, w1.setCell ⟨W.heap.size + 1, 0, none⟩ (.slice q1 u.gone.length d1) = x1 := ⟨_, rfl⟩
  have XB1 := hide (show x1.heap[W.heap.size + 1]? = some (.cells #[.slice q1 u.gone.length d1, .slice p2 u.nets.length c2, .slice p3 u.path.length c3, .slice p4 u.marks.length c4, .int .i64 u.pref, .int .i64 u.med] 27 (0, 0)) from by rw [← hx1, heap_set qb1]; rfl)
  have XA1 := hide (show x1.heap[W.heap.size]? = some (.cells #[Value.int .i64 kind, .int .i64 oa, .int .i64 ob, .string os, .int .i64 na, .int .i64 nl, .slice rp1 rp2 rp3, .slice rm1 rm2 rm3, .int .i64 rpref, .int .i64 rmed, .slice p1 u.gone.length c1, .slice p2 u.nets.length c2, .slice p3 u.path.length c3, .slice p4 u.marks.length c4, .int .i64 u.pref, .int .i64 u.med, .slice vi1 vi2 vi3, .slice vo1 vo2 vo3] 34 (0, 0)) from by rw [← hx1, heap_set_other (by simp only; omega)]; exact qa1)
  have C1 := hide (show Below W.heap.size W x1 from by rw [← hx1]; exact (unhide B1).setCell (p := ⟨W.heap.size + 1, 0, none⟩) (by simp only; omega) _)
  have sx1 : x1.heap.size = w1.heap.size := by rw [← hx1]; simp [World.setCell]
  have sb1 := hb.size
  have L1_1 := hide (show LentN WB x1 (.slice p1 u.gone.length c1) (.slice q1 u.gone.length d1) u.gone from by rw [← hx1]; exact hl.set (by omega) _)
  have HX1 := hide hx1
  have t1 : w1.cell? ⟨W.heap.size + 1, 0, none⟩ = some (.slice p1 u.gone.length c1) := cell_of_heap qb1
  have fz1 : ∀ o, w1.frozen? ⟨W.heap.size + 1, o, none⟩ = false := fun o => frozen_of_heap qb1
  have y1 : x1.cell? ⟨W.heap.size, 11, none⟩ = some (.slice p2 u.nets.length c2) := cell_of_heap (unhide XA1)
  have yy1 : w1.cell? ⟨W.heap.size, 11, none⟩ = some (.slice p2 u.nets.length c2) := cell_of_heap qa1
  clear hl hb qa1 qb1 hx1
  go_wp2_with fail
  rw [unhide HX1]
  refine (lentNets_any u.nets _ x1 ((unhide H2).below (unhide C1)) (by omega)).mono ?_
  rintro e w2 ⟨v2, rfl, hl, hb⟩
  obtain ⟨q2, d2, rfl⟩ := hl.sl
  have B2 := hide ((unhide C1).trans (hb.mono (unhide C1).size))
  have qa2 := (hb.block _ (heap_lt (unhide XA1))).trans (unhide XA1)
  have qb2 := (hb.block _ (heap_lt (unhide XB1))).trans (unhide XB1)
  obtain ⟨x2, hx2⟩ : ∃ x2, w2.setCell ⟨W.heap.size + 1, 1, none⟩ (.slice q2 u.nets.length d2) = x2 := ⟨_, rfl⟩
  have XB2 := hide (show x2.heap[W.heap.size + 1]? = some (.cells #[.slice q1 u.gone.length d1, .slice q2 u.nets.length d2, .slice p3 u.path.length c3, .slice p4 u.marks.length c4, .int .i64 u.pref, .int .i64 u.med] 27 (0, 0)) from by rw [← hx2, heap_set qb2]; rfl)
  have XA2 := hide (show x2.heap[W.heap.size]? = some (.cells #[Value.int .i64 kind, .int .i64 oa, .int .i64 ob, .string os, .int .i64 na, .int .i64 nl, .slice rp1 rp2 rp3, .slice rm1 rm2 rm3, .int .i64 rpref, .int .i64 rmed, .slice p1 u.gone.length c1, .slice p2 u.nets.length c2, .slice p3 u.path.length c3, .slice p4 u.marks.length c4, .int .i64 u.pref, .int .i64 u.med, .slice vi1 vi2 vi3, .slice vo1 vo2 vo3] 34 (0, 0)) from by rw [← hx2, heap_set_other (by simp only; omega)]; exact qa2)
  have C2 := hide (show Below W.heap.size W x2 from by rw [← hx2]; exact (unhide B2).setCell (p := ⟨W.heap.size + 1, 1, none⟩) (by simp only; omega) _)
  have sx2 : x2.heap.size = w2.heap.size := by rw [← hx2]; simp [World.setCell]
  have sb2 := hb.size
  have L1_2 := hide (show LentN WB x2 (.slice p1 u.gone.length c1) (.slice q1 u.gone.length d1) u.gone from by rw [← hx2]; exact ((unhide L1_1).below hb).set (by omega) _)
  have L2_2 := hide (show LentN x1 x2 (.slice p2 u.nets.length c2) (.slice q2 u.nets.length d2) u.nets from by rw [← hx2]; exact hl.set (by omega) _)
  have HX2 := hide hx2
  have t2 : w2.cell? ⟨W.heap.size + 1, 1, none⟩ = some (.slice p2 u.nets.length c2) := cell_of_heap qb2
  have fz2 : ∀ o, w2.frozen? ⟨W.heap.size + 1, o, none⟩ = false := fun o => frozen_of_heap qb2
  have y2 : x2.cell? ⟨W.heap.size, 12, none⟩ = some (.slice p3 u.path.length c3) := cell_of_heap (unhide XA2)
  have yy2 : w2.cell? ⟨W.heap.size, 12, none⟩ = some (.slice p3 u.path.length c3) := cell_of_heap qa2
  clear hl hb qa2 qb2 hx2
  go_wp2_with fail
  rw [unhide HX2]
  refine (lentInts_any u.path _ x2 ((unhide H3).below (unhide C2)) (by omega)).mono ?_
  rintro e w3 ⟨v3, rfl, hl, hb⟩
  obtain ⟨q3, d3, rfl⟩ := hl.sl
  have B3 := hide ((unhide C2).trans (hb.mono (unhide C2).size))
  have qa3 := (hb.block _ (heap_lt (unhide XA2))).trans (unhide XA2)
  have qb3 := (hb.block _ (heap_lt (unhide XB2))).trans (unhide XB2)
  obtain ⟨x3, hx3⟩ : ∃ x3, w3.setCell ⟨W.heap.size + 1, 2, none⟩ (.slice q3 u.path.length d3) = x3 := ⟨_, rfl⟩
  have XB3 := hide (show x3.heap[W.heap.size + 1]? = some (.cells #[.slice q1 u.gone.length d1, .slice q2 u.nets.length d2, .slice q3 u.path.length d3, .slice p4 u.marks.length c4, .int .i64 u.pref, .int .i64 u.med] 27 (0, 0)) from by rw [← hx3, heap_set qb3]; rfl)
  have XA3 := hide (show x3.heap[W.heap.size]? = some (.cells #[Value.int .i64 kind, .int .i64 oa, .int .i64 ob, .string os, .int .i64 na, .int .i64 nl, .slice rp1 rp2 rp3, .slice rm1 rm2 rm3, .int .i64 rpref, .int .i64 rmed, .slice p1 u.gone.length c1, .slice p2 u.nets.length c2, .slice p3 u.path.length c3, .slice p4 u.marks.length c4, .int .i64 u.pref, .int .i64 u.med, .slice vi1 vi2 vi3, .slice vo1 vo2 vo3] 34 (0, 0)) from by rw [← hx3, heap_set_other (by simp only; omega)]; exact qa3)
  have C3 := hide (show Below W.heap.size W x3 from by rw [← hx3]; exact (unhide B3).setCell (p := ⟨W.heap.size + 1, 2, none⟩) (by simp only; omega) _)
  have sx3 : x3.heap.size = w3.heap.size := by rw [← hx3]; simp [World.setCell]
  have sb3 := hb.size
  have L1_3 := hide (show LentN WB x3 (.slice p1 u.gone.length c1) (.slice q1 u.gone.length d1) u.gone from by rw [← hx3]; exact ((unhide L1_2).below hb).set (by omega) _)
  have L2_3 := hide (show LentN x1 x3 (.slice p2 u.nets.length c2) (.slice q2 u.nets.length d2) u.nets from by rw [← hx3]; exact ((unhide L2_2).below hb).set (by omega) _)
  have L3_3 := hide (show LentI x2 x3 (.slice p3 u.path.length c3) (.slice q3 u.path.length d3) u.path from by rw [← hx3]; exact hl.set (by omega) _)
  have HX3 := hide hx3
  have t3 : w3.cell? ⟨W.heap.size + 1, 2, none⟩ = some (.slice p3 u.path.length c3) := cell_of_heap qb3
  have fz3 : ∀ o, w3.frozen? ⟨W.heap.size + 1, o, none⟩ = false := fun o => frozen_of_heap qb3
  have y3 : x3.cell? ⟨W.heap.size, 13, none⟩ = some (.slice p4 u.marks.length c4) := cell_of_heap (unhide XA3)
  have yy3 : w3.cell? ⟨W.heap.size, 13, none⟩ = some (.slice p4 u.marks.length c4) := cell_of_heap qa3
  clear hl hb qa3 qb3 hx3
  go_wp2_with fail
  rw [unhide HX3]
  refine (lentInts_any u.marks _ x3 ((unhide H4).below (unhide C3)) (by omega)).mono ?_
  rintro e w4 ⟨v4, rfl, hl, hb⟩
  obtain ⟨q4, d4, rfl⟩ := hl.sl
  have B4 := hide ((unhide C3).trans (hb.mono (unhide C3).size))
  have qa4 := (hb.block _ (heap_lt (unhide XA3))).trans (unhide XA3)
  have qb4 := (hb.block _ (heap_lt (unhide XB3))).trans (unhide XB3)
  obtain ⟨x4, hx4⟩ : ∃ x4, w4.setCell ⟨W.heap.size + 1, 3, none⟩ (.slice q4 u.marks.length d4) = x4 := ⟨_, rfl⟩
  have XB4 := hide (show x4.heap[W.heap.size + 1]? = some (.cells #[.slice q1 u.gone.length d1, .slice q2 u.nets.length d2, .slice q3 u.path.length d3, .slice q4 u.marks.length d4, .int .i64 u.pref, .int .i64 u.med] 27 (0, 0)) from by rw [← hx4, heap_set qb4]; rfl)
  have XA4 := hide (show x4.heap[W.heap.size]? = some (.cells #[Value.int .i64 kind, .int .i64 oa, .int .i64 ob, .string os, .int .i64 na, .int .i64 nl, .slice rp1 rp2 rp3, .slice rm1 rm2 rm3, .int .i64 rpref, .int .i64 rmed, .slice p1 u.gone.length c1, .slice p2 u.nets.length c2, .slice p3 u.path.length c3, .slice p4 u.marks.length c4, .int .i64 u.pref, .int .i64 u.med, .slice vi1 vi2 vi3, .slice vo1 vo2 vo3] 34 (0, 0)) from by rw [← hx4, heap_set_other (by simp only; omega)]; exact qa4)
  have C4 := hide (show Below W.heap.size W x4 from by rw [← hx4]; exact (unhide B4).setCell (p := ⟨W.heap.size + 1, 3, none⟩) (by simp only; omega) _)
  have sx4 : x4.heap.size = w4.heap.size := by rw [← hx4]; simp [World.setCell]
  have sb4 := hb.size
  have L1_4 := hide (show LentN WB x4 (.slice p1 u.gone.length c1) (.slice q1 u.gone.length d1) u.gone from by rw [← hx4]; exact ((unhide L1_3).below hb).set (by omega) _)
  have L2_4 := hide (show LentN x1 x4 (.slice p2 u.nets.length c2) (.slice q2 u.nets.length d2) u.nets from by rw [← hx4]; exact ((unhide L2_3).below hb).set (by omega) _)
  have L3_4 := hide (show LentI x2 x4 (.slice p3 u.path.length c3) (.slice q3 u.path.length d3) u.path from by rw [← hx4]; exact ((unhide L3_3).below hb).set (by omega) _)
  have L4_4 := hide (show LentI x3 x4 (.slice p4 u.marks.length c4) (.slice q4 u.marks.length d4) u.marks from by rw [← hx4]; exact hl.set (by omega) _)
  have HX4 := hide hx4
  have t4 : w4.cell? ⟨W.heap.size + 1, 3, none⟩ = some (.slice p4 u.marks.length c4) := cell_of_heap qb4
  have fz4 : ∀ o, w4.frozen? ⟨W.heap.size + 1, o, none⟩ = false := fun o => frozen_of_heap qb4
  obtain ⟨y0, y1, y2, y3, y4, y5⟩ := six_cells (unhide XB4)
  have z1 : w4.cell? ⟨W.heap.size + 1, 0, none⟩ = some (.slice q1 u.gone.length d1) := cell_of_heap qb4
  have z2 : w4.cell? ⟨W.heap.size + 1, 1, none⟩ = some (.slice q2 u.nets.length d2) := cell_of_heap qb4
  have z3 : w4.cell? ⟨W.heap.size + 1, 2, none⟩ = some (.slice q3 u.path.length d3) := cell_of_heap qb4
  have z5 : w4.cell? ⟨W.heap.size + 1, 4, none⟩ = some (.int .i64 u.pref) := cell_of_heap qb4
  have z6 : w4.cell? ⟨W.heap.size + 1, 5, none⟩ = some (.int .i64 u.med) := cell_of_heap qb4
  clear hl hb qa4 qb4 hx4
  go_wp2_with fail
  rw [unhide HX4]
  refine (Encode_said x4 ((unhide HT).below (unhide C4)) x4 _ _ _ _ u (Below.refl _ _) ((unhide L1_4).at_ (unhide I1) (by omega)) ((unhide L2_4).at_ (unhide I2) (by omega)) ((unhide L3_4).at_ (unhide I3) lp) ((unhide L4_4).at_ (unhide I4) lm) h5 h6).mono ?_
  rintro e w5 ⟨hb5, va, l, ek, rfl, ho, hor⟩
  obtain ⟨qa, ca, rfl⟩ := own_slice ho
  have O5 := hide ho
  have OR := hide hor
  have C5 := hide ((unhide C4).trans (hb5.mono (unhide C4).size))
  have XA5 := hide ((hb5.block _ (heap_lt (unhide XA4))).trans (unhide XA4))
  have XB5 := hide ((hb5.block _ (heap_lt (unhide XB4))).trans (unhide XB4))
  have s5 := hb5.size
  have m1 := hide (unhide L1_4).blk
  have m2 := hide (unhide L2_4).blk
  have m3 := hide (unhide L3_4).blk
  have m4 := hide (unhide L4_4).blk
  have n1 := hide (unhide L1_1).blk
  have n2 := hide (unhide L2_2).blk
  have n3 := hide (unhide L3_3).blk
  have L1_5 := hide ((unhide L1_4).below hb5)
  have L2_5 := hide ((unhide L2_4).below hb5)
  have L3_5 := hide ((unhide L3_4).below hb5)
  have L4_5 := hide ((unhide L4_4).below hb5)
  clear hb5 ho hor y0 y1 y2 y3 y4 y5 z1 z2 z3 z5 z6 t4 fz4
  obtain ⟨y0, y1, y2, y3, y4, y5⟩ := six_cells (unhide XB5)
  have a1 : w5.cell? ⟨W.heap.size, 10, none⟩ = some (.slice p1 u.gone.length c1) := cell_of_heap (unhide XA5)
  go_wp2_with fail
  refine (backNets_any u.gone _ _ WB w5 ((unhide H1).below (unhide C5)) (unhide L1_5) ((unhide T1).imp id (fun h k hk e => by have h1 := h k hk; have h2 := (unhide m1 k e).1; omega)) (by omega)).mono ?_
  rintro e w6 ⟨rfl, hf⟩
  have C6 := hide (hf.belowO (unhide C5) (unhide C5).size (fun k hk => by have h2 := (unhide m1 k hk).1; omega))
  have XA6 := hide ((hf.block W.heap.size (by omega) (fun e => by have h2 := (unhide m1 _ e).1; omega)).trans (unhide XA5))
  have XB6 := hide ((hf.block (W.heap.size + 1) (by omega) (fun e => by have h2 := (unhide m1 _ e).1; omega)).trans (unhide XB5))
  have O6 := hide (show OwnB w6 x4.heap.size (.slice qa l.length ca) l from owns_of (unhide O5) (fun k hk => hf.block k ((unhide O5).lt k hk).2 (fun e => by have h2 := (unhide m1 _ e).2; have h3 := ((unhide O5).lt k hk).1; omega)))
  have s6 := hf.size
  have L2_6 := hide ((unhide L2_5).keep hf (fun k h2 h1 => by have e1 := (unhide n1 k h1).2; have e2 := (unhide m2 k h2).1; omega))
  have L3_6 := hide ((unhide L3_5).keep hf (fun k h2 h1 => by have e1 := (unhide n1 k h1).2; have e2 := (unhide m3 k h2).1; omega))
  have L4_6 := hide ((unhide L4_5).keep hf (fun k h2 h1 => by have e1 := (unhide n1 k h1).2; have e2 := (unhide m4 k h2).1; omega))
  clear hf y0 y1 y2 y3 y4 y5 a1
  obtain ⟨y0, y1, y2, y3, y4, y5⟩ := six_cells (unhide XB6)
  have a2 : w6.cell? ⟨W.heap.size, 11, none⟩ = some (.slice p2 u.nets.length c2) := cell_of_heap (unhide XA6)
  go_wp2_with fail
  refine (backNets_any u.nets _ _ x1 w6 ((unhide H2).below (unhide C6)) (unhide L2_6) ((unhide T2).imp id (fun h k hk e => by have h1 := h k hk; have h2 := (unhide m2 k e).1; omega)) (by omega)).mono ?_
  rintro e w7 ⟨rfl, hf⟩
  have C7 := hide (hf.belowO (unhide C6) (unhide C6).size (fun k hk => by have h2 := (unhide m2 k hk).1; omega))
  have XA7 := hide ((hf.block W.heap.size (by omega) (fun e => by have h2 := (unhide m2 _ e).1; omega)).trans (unhide XA6))
  have XB7 := hide ((hf.block (W.heap.size + 1) (by omega) (fun e => by have h2 := (unhide m2 _ e).1; omega)).trans (unhide XB6))
  have O7 := hide (show OwnB w7 x4.heap.size (.slice qa l.length ca) l from owns_of (unhide O6) (fun k hk => hf.block k ((unhide O6).lt k hk).2 (fun e => by have h2 := (unhide m2 _ e).2; have h3 := ((unhide O6).lt k hk).1; omega)))
  have s7 := hf.size
  have L3_7 := hide ((unhide L3_6).keep hf (fun k h2 h1 => by have e1 := (unhide n2 k h1).2; have e2 := (unhide m3 k h2).1; omega))
  have L4_7 := hide ((unhide L4_6).keep hf (fun k h2 h1 => by have e1 := (unhide n2 k h1).2; have e2 := (unhide m4 k h2).1; omega))
  clear hf y0 y1 y2 y3 y4 y5 a2
  obtain ⟨y0, y1, y2, y3, y4, y5⟩ := six_cells (unhide XB7)
  have a3 : w7.cell? ⟨W.heap.size, 12, none⟩ = some (.slice p3 u.path.length c3) := cell_of_heap (unhide XA7)
  go_wp2_with fail
  refine (backInts_any u.path _ _ x2 w7 ((unhide H3).below (unhide C7)) (unhide L3_7) ((unhide T3).imp id (fun h k hk e => by have h1 := h k hk; have h2 := (unhide m3 k e).1; omega)) (by omega)).mono ?_
  rintro e w8 ⟨rfl, hf⟩
  have C8 := hide (hf.belowO (unhide C7) (unhide C7).size (fun k hk => by have h2 := (unhide m3 k hk).1; omega))
  have XA8 := hide ((hf.block W.heap.size (by omega) (fun e => by have h2 := (unhide m3 _ e).1; omega)).trans (unhide XA7))
  have XB8 := hide ((hf.block (W.heap.size + 1) (by omega) (fun e => by have h2 := (unhide m3 _ e).1; omega)).trans (unhide XB7))
  have O8 := hide (show OwnB w8 x4.heap.size (.slice qa l.length ca) l from owns_of (unhide O7) (fun k hk => hf.block k ((unhide O7).lt k hk).2 (fun e => by have h2 := (unhide m3 _ e).2; have h3 := ((unhide O7).lt k hk).1; omega)))
  have s8 := hf.size
  have L4_8 := hide ((unhide L4_7).keep hf (fun k h2 h1 => by have e1 := (unhide n3 k h1).2; have e2 := (unhide m4 k h2).1; omega))
  clear hf y0 y1 y2 y3 y4 y5 a3
  obtain ⟨y0, y1, y2, y3, y4, y5⟩ := six_cells (unhide XB8)
  have a4 : w8.cell? ⟨W.heap.size, 13, none⟩ = some (.slice p4 u.marks.length c4) := cell_of_heap (unhide XA8)
  go_wp2_with fail
  refine (backInts_any u.marks _ _ x3 w8 ((unhide H4).below (unhide C8)) (unhide L4_8) ((unhide T4).imp id (fun h k hk e => by have h1 := h k hk; have h2 := (unhide m4 k e).1; omega)) (by omega)).mono ?_
  rintro e w9 ⟨rfl, hf⟩
  have C9 := hide (hf.belowO (unhide C8) (unhide C8).size (fun k hk => by have h2 := (unhide m4 k hk).1; omega))
  have XA9 := hide ((hf.block W.heap.size (by omega) (fun e => by have h2 := (unhide m4 _ e).1; omega)).trans (unhide XA8))
  have XB9 := hide ((hf.block (W.heap.size + 1) (by omega) (fun e => by have h2 := (unhide m4 _ e).1; omega)).trans (unhide XB8))
  have O9 := hide (show OwnB w9 x4.heap.size (.slice qa l.length ca) l from owns_of (unhide O8) (fun k hk => hf.block k ((unhide O8).lt k hk).2 (fun e => by have h2 := (unhide m4 _ e).2; have h3 := ((unhide O8).lt k hk).1; omega)))
  have s9 := hf.size
  clear hf y0 y1 y2 y3 y4 y5 a4
  have a0 : w9.cell? ⟨W.heap.size, 10, none⟩ = some (.slice p1 u.gone.length c1) := cell_of_heap (unhide XA9)
  have a1 : w9.cell? ⟨W.heap.size, 11, none⟩ = some (.slice p2 u.nets.length c2) := cell_of_heap (unhide XA9)
  have a2 : w9.cell? ⟨W.heap.size, 12, none⟩ = some (.slice p3 u.path.length c3) := cell_of_heap (unhide XA9)
  have a3 : w9.cell? ⟨W.heap.size, 13, none⟩ = some (.slice p4 u.marks.length c4) := cell_of_heap (unhide XA9)
  have a4 : w9.cell? ⟨W.heap.size, 14, none⟩ = some (.int .i64 u.pref) := cell_of_heap (unhide XA9)
  have a5 : w9.cell? ⟨W.heap.size, 15, none⟩ = some (.int .i64 u.med) := cell_of_heap (unhide XA9)
  go_wp2_with fail
  refine (encode_w u _ _ _ _ w9 ((unhide H1).below (unhide C9)) ((unhide H2).below (unhide C9)) ((unhide H3).below (unhide C9)) ((unhide H4).below (unhide C9)) h5 h6 lg).mono ?_
  rintro e w10 ⟨hb10, vb, l2, ek2, rfl, ho2, hor2⟩
  obtain ⟨qb, cb, rfl⟩ := own_slice ho2
  have heq : l2 = l ∧ ek2 = ek := by
    rcases unhide OR with ⟨h1, h2, h3⟩ | ⟨h1, h2, h3⟩
    · rcases hor2 with ⟨g1, g2, g3⟩ | ⟨g1, _⟩
      · exact ⟨g2.trans h2.symm, g3.trans h3.symm⟩
      · exact absurd h1 g1
    · rcases hor2 with ⟨g1, _⟩ | ⟨_, g2, g3⟩
      · exact absurd g1 h1
      · exact ⟨g2.trans h2.symm, g3.trans h3.symm⟩
  obtain ⟨hl2, hek⟩ := heq
  subst hl2 hek
  have hlb : l2.length ≤ 266 ∧ bytesOk l2 := by
    rcases unhide OR with ⟨h1, h2, _⟩ | ⟨_, h2, _⟩
    · rw [h2]; exact ⟨encP_len2 h1, encP_ok h1⟩
    · rw [h2]; exact ⟨by simp, bytesOk_nil⟩
  obtain ⟨hll, hlo⟩ := hlb
  have C10 := hide ((unhide C9).trans (hb10.mono (unhide C9).size))
  have O10 := hide ((unhide O9).next hb10)
  have cva := (OwnB.at_ (unhide O10) hlo (by omega)).toStr
  have cvb := (OwnB.at_ ho2 hlo (by omega)).toStr
  have OBW := hide (OwnB.base (unhide O10) (b2 := W.heap.size) (by omega))
  have BK := hide ((unhide HB).below (unhide C10))
  have FRE := hide (show Free wb b (.slice qa l2.length ca) from fun k hk => by
    have h1 := ((unhide O10).lt k hk).1
    exact ⟨fun h => by have := ((unhide HB).lt h).1; omega, fun h => by have := ((unhide HB).sep k h).2; omega⟩)
  have s10 := (unhide C10).size
  have AFT := hide (unhide O10).lt
  clear hb10 ho2 hor2 a0 a1 a2 a3 a4 a5 hlo
  go_wp2_with fail
  refine (Book_byte_any b wb _ l2 w10 W.heap.size (unhide BK) (unhide FRE) (unhide OBW) (by omega) (by omega) hcnt).mono ?_
  rintro e w11 ⟨rfl, b', hb', hput⟩
  have BK' := hide hb'
  have PUT := hide hput
  clear hb' hput cva cvb
  go_wp2
  go_ret
  refine ⟨rfl, b', unhide BK', (unhide PUT).os.trans (unhide C10).os, (unhide PUT).tape.trans (unhide C10).tape, (unhide PUT).output.trans (unhide C10).output, Nat.le_trans s10 (unhide PUT).size, fun k hk hO => ?_, fun k hk => ?_, by have := (unhide PUT).cnt; omega⟩
  · rw [(unhide PUT).block k (by omega) hO (fun e => by have := (unhide AFT k e).1; omega)]
    exact (unhide C10).block k hk
  · exact ((unhide PUT).own k hk).imp id (fun h => by omega)
end Go.Proofs.YtgngdklkoilaiaaGreatDoor
