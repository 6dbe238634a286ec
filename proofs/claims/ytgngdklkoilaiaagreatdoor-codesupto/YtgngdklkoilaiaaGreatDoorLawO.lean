/- One step of a script (package bywaylaw): World.decode: what is lent comes back, the message is the document's, and its lists go into the book. -/
import Derived.Test.YtgngdklkoilaiaaGreatDoorLawN
import Derived.Test.YtgngdklkoilaiaaGreatDoorMsgV
import Derived.Lib.ConvBytes
namespace Go.Proofs.YtgngdklkoilaiaaGreatDoor
open Go.RowKit

theorem Tryz.plainNet : PlainF Tryz.prog 36 := ⟨_, Tryz.func36, by kernel_rfl, by kernel_rfl⟩
theorem Tryz.plainInt : PlainF Tryz.prog 37 := ⟨_, Tryz.func37, by kernel_rfl, by kernel_rfl⟩
theorem below_bytes (w : World) (e : TypeId) (s : ByteArray) : Below w.heap.size w (Lib.bytesWorld w e s) := by
  refine ⟨?_, ?_, ?_, by rw [Lib.bytesWorld_size]; omega, fun k hk => Lib.bytesWorld_at_old w e s k hk⟩ <;> simp [Lib.bytesWorld, World.freeze, World.alloc, World.drew, -World.alloc_eq, -World.drew_eq]
theorem bytes_at (w : World) (s : ByteArray) (c : Nat) (hc : s.size ≤ c) (hl : s.size ≤ 16777216) : BytesAt (Lib.bytesWorld w 5 s) (.slice (some ⟨w.heap.size, 0, none⟩) s.size c) (bytesS s) := by
  refine ⟨_, c, by rw [bytesS_len], by rw [bytesS_len]; exact hc, by rw [bytesS_len]; omega, bytesS_ok s, Or.inr ⟨w.heap.size, 0, rfl, by rw [Lib.bytesWorld_size]; omega, fun j hj => ?_⟩⟩
  rw [bytesS_len] at hj
  rw [Nat.zero_add, Lib.bytesWorld_cell w _ s j hj]
  congr 2
  have : j < s.data.toList.length := hj
  apply Option.some.inj
  rw [← List.getElem?_eq_getElem]
  unfold bytesS
  rw [List.getElem?_map, List.getD, List.getElem?_eq_getElem this]
  rfl
theorem LentB.keep {w w' w'' : World} {s : ByteArray} {v : Value} (h : LentB w w' s v) (hb : Below w'.heap.size w' w'') : LentB w w'' s v := h.below hb
theorem LentB.blk {w w' : World} {s : ByteArray} {v : Value} (h : LentB w w' s v) : ∀ k, v.ownBlock = some k → w.heap.size ≤ k ∧ k < w'.heap.size := by
  intro k hk
  rcases h with ⟨h, _⟩ | ⟨g, h2, h3, hg⟩
  · rw [h] at hk; simp [Value.ownBlock] at hk
  · rw [h2] at hk
    have : g = k := by simpa [Value.ownBlock] using hk
    subst this
    exact ⟨h3, heap_lt hg⟩
theorem LentB.sl {w w' : World} {s : ByteArray} {v : Value} (h : LentB w w' s v) : ∃ q n c, v = .slice q n c := by
  rcases h with ⟨h, _⟩ | ⟨g, h2, h3, hg⟩
  · exact ⟨_, _, _, h⟩
  · exact ⟨_, _, _, h2⟩
theorem decM_small (b : List Int) (hb : bytesOk b) : (decM b).gone.length ≤ 20 ∧ (decM b).nets.length ≤ 20 ∧ (decM b).path.length ≤ 12 ∧ (decM b).marks.length ≤ 8 ∧ (∀ x ∈ (decM b).gone, inI x.1 ∧ inI x.2) ∧ (∀ x ∈ (decM b).nets, inI x.1 ∧ inI x.2) ∧ (∀ x ∈ (decM b).path, inI x) ∧ (∀ x ∈ (decM b).marks, inI x) := by
  cases hd : decP b with
  | error e =>
    have : decM b = msgZ := by unfold decM; rw [hd]
    rw [this]; simp [msgZ]
  | ok u =>
    have : decM b = u := by unfold decM; rw [hd]
    rw [this]
    have hu := (enc_dec hb hd).1
    have h1 := hu.1.1
    rw [List.length_append] at h1
    refine ⟨by omega, by omega, hu.2.1.1, hu.2.2.1.1, fun x hx => ?_, fun x hx => ?_, fun x hx => ?_, fun x hx => ?_⟩
    · have := hu.1.2.1 x (by simp [hx]); obtain ⟨⟨a, b⟩, ⟨c, d⟩, _⟩ := this; unfold inI; omega
    · have := hu.1.2.1 x (by simp [hx]); obtain ⟨⟨a, b⟩, ⟨c, d⟩, _⟩ := this; unfold inI; omega
    · have := hu.2.1.2 x hx; unfold inI; omega
    · have := rises_all hu.2.2.1.2 x hx; unfold inI; omega

theorem PutR.free {wb : Nat} {b b1 : Bk} {l x : Value} {W W' : World} (P : PutR wb b b1 l W W') (hf : Free wb b x) (ha : Apart l x) (hx : ∀ k, x.ownBlock = some k → k < W.heap.size) : Free wb b1 x := fun k hk =>
  ⟨fun h => (P.own k h).elim (hf k hk).1 (fun h => by have := hx k hk; omega), fun h => by
    rcases P.recs k h with h | h | h
    · exact (hf k hk).2 h
    · exact ha k h hk
    · have := hx k hk; omega⟩
theorem PutR.row {wb : Nat} {b b1 : Bk} {l x : Value} {W W' : World} (P : PutR wb b b1 l W W') (hf : Free wb b x) (ha : Apart l x) {base : Nat} {e : TypeId} {size n : Nat} {xs : List Value} (ho : W.ownsRow base e size x n xs) : W'.ownsRow base e size x n xs :=
  owns_of ho (fun k hk => P.block k (ho.lt k hk).2 (hf k hk).1 (fun e => ha k e hk))

set_option maxRecDepth 100000 in
set_option maxHeartbeats 6400000 in
theorem lawDecode_any (o : OpM) (b : Bk) (wb : Nat) (W : World) (ht : TabAt W) (hB : BookAt W wb b) (hO : OpOk W o) (hcnt : b.cnt ≤ 16777200) :
    Calls Tryz.prog 10 #[.pointer (some ⟨wb, 0, none⟩), .agg (opC o)] W fun e W' => e = .returned (.bool true) ∧ ∃ b', BookAt W' wb b' ∧ StepR wb b b' W W' := by
  have HT := hide ht
  have HB := hide hB
  have hwlt : wb < W.heap.size := heap_lt hB.blk
  obtain ⟨kind, oa, ob, os, na, nl, rp, rm, rpref, rmed, ug, un, up, um, u, vi, vo⟩ := o
  obtain ⟨h1, h2, h3, h4, h5, h6, h7, ⟨rp1, rp2, rp3, e1⟩, ⟨rm1, rm2, rm3, e2⟩, ⟨vi1, vi2, vi3, e3⟩, ⟨vo1, vo2, vo3, e4⟩, lg, lp, lm, ls⟩ := hO
  simp only at h1 h2 h3 h4 h5 h6 h7 e1 e2 e3 e4 lg lp lm ls
  subst e1 e2 e3 e4
  obtain ⟨p1, c1, rfl, -⟩ := h1
  obtain ⟨p2, c2, rfl, -⟩ := h2
  obtain ⟨p3, c3, rfl, -⟩ := h3
  obtain ⟨p4, c4, rfl, -⟩ := h4
  unfold inI at h7
  unfold opC
  simp only
  obtain ⟨WA, hWA⟩ : ∃ WA, W.alloc (.cells #[Value.int .i64 kind, .int .i64 oa, .int .i64 ob, .string os, .int .i64 na, .int .i64 nl, .slice rp1 rp2 rp3, .slice rm1 rm2 rm3, .int .i64 rpref, .int .i64 rmed, .slice p1 u.gone.length c1, .slice p2 u.nets.length c2, .slice p3 u.path.length c3, .slice p4 u.marks.length c4, .int .i64 u.pref, .int .i64 u.med, .slice vi1 vi2 vi3, .slice vo1 vo2 vo3] 34) = WA := ⟨_, rfl⟩
  have QA := heap_alloc_new W (.cells #[Value.int .i64 kind, .int .i64 oa, .int .i64 ob, .string os, .int .i64 na, .int .i64 nl, .slice rp1 rp2 rp3, .slice rm1 rm2 rm3, .int .i64 rpref, .int .i64 rmed, .slice p1 u.gone.length c1, .slice p2 u.nets.length c2, .slice p3 u.path.length c3, .slice p4 u.marks.length c4, .int .i64 u.pref, .int .i64 u.med, .slice vi1 vi2 vi3, .slice vo1 vo2 vo3] 34)
  have BA := (Below.refl W.heap.size W).alloc (Nat.le_refl _) (.cells #[Value.int .i64 kind, .int .i64 oa, .int .i64 ob, .string os, .int .i64 na, .int .i64 nl, .slice rp1 rp2 rp3, .slice rm1 rm2 rm3, .int .i64 rpref, .int .i64 rmed, .slice p1 u.gone.length c1, .slice p2 u.nets.length c2, .slice p3 u.path.length c3, .slice p4 u.marks.length c4, .int .i64 u.pref, .int .i64 u.med, .slice vi1 vi2 vi3, .slice vo1 vo2 vo3] 34)
  rw [hWA] at QA BA
  have HQA := hide QA
  have CA := hide BA
  have HWA := hide hWA
  have lA : W.heap.size < WA.heap.size := heap_lt QA
  clear hWA QA BA hB ht h5 h6 lg lp lm
  go_enter Tryz.func10, Tryz.ntmps10
  go_wp2_with fail
  rw [unhide HWA]
  refine (lent_any os _ WA (by omega)).mono ?_
  rintro e w1 ⟨v, rfl, hl, hb1⟩
  obtain ⟨qv, nv, cv, rfl⟩ := hl.sl
  have C1 := hide ((unhide CA).trans (hb1.mono (unhide CA).size))
  have XA1 := hide ((hb1.block _ lA).trans (unhide HQA))
  have L1 := hide hl
  have M1 := hide hl.blk
  have s1 := hb1.size
  clear hl hb1
  go_wp2_with fail
  refine (Decode_said w1 ((unhide HT).below (unhide C1)) w1 _ (bytesS os) (Below.refl _ _) ((unhide L1).at_ (by omega))).mono ?_
  rintro e w2 ⟨hb2, vg, vn, vp, vm, rfl, og, on, op, om, ap⟩
  obtain ⟨hsg, hsn, hsp, hsm, jg, jn, jp, jm⟩ := decM_small (bytesS os) (bytesS_ok os)
  obtain ⟨D, hD⟩ : ∃ D, decM (bytesS os) = D := ⟨_, rfl⟩
  obtain ⟨dE, hdE⟩ : ∃ dE, decE (bytesS os) = dE := ⟨_, rfl⟩
  rw [hD] at og on op om hsg hsn hsp hsm jg jn jp jm ⊢
  rw [hdE]
  have HD := hide hD
  have HDE := hide hdE
  obtain ⟨ap1, ap2, ap3, ap4, ap5, ap6⟩ := ap
  have AP1 := hide ap1
  have AP2 := hide ap2
  have AP3 := hide ap3
  have AP4 := hide ap4
  have AP5 := hide ap5
  have AP6 := hide ap6
  have OG2 := hide og
  have ON2 := hide on
  have OP2 := hide op
  have OM2 := hide om
  obtain ⟨qg, cg, rfl⟩ := own_slice og
  obtain ⟨qn, cn, rfl⟩ := own_slice on
  obtain ⟨qp, cp, rfl⟩ := own_slice op
  obtain ⟨qm, cm, rfl⟩ := own_slice om
  have JG := hide jg
  have JN := hide jn
  have JP := hide jp
  have JM := hide jm
  have C2 := hide ((unhide C1).trans (hb2.mono (unhide C1).size))
  have XA2 := hide ((hb2.block _ (heap_lt (unhide XA1))).trans (unhide XA1))
  have L2 := hide ((unhide L1).below hb2)
  have s2 := hb2.size
  obtain ⟨W3, hW3⟩ : ∃ W3, w2.alloc (.cells #[.slice qg D.gone.length cg, .slice qn D.nets.length cn, .slice qp D.path.length cp, .slice qm D.marks.length cm, .int .i64 D.pref, .int .i64 D.med] 27) = W3 := ⟨_, rfl⟩
  have q3 := heap_alloc_new w2 (.cells #[.slice qg D.gone.length cg, .slice qn D.nets.length cn, .slice qp D.path.length cp, .slice qm D.marks.length cm, .int .i64 D.pref, .int .i64 D.med] 27)
  have b3 := (Below.refl w2.heap.size w2).alloc (Nat.le_refl _) (.cells #[.slice qg D.gone.length cg, .slice qn D.nets.length cn, .slice qp D.path.length cp, .slice qm D.marks.length cm, .int .i64 D.pref, .int .i64 D.med] 27)
  rw [hW3] at q3 b3
  have HW3 := hide hW3
  have XB3 := hide q3
  have C3 := hide ((unhide C2).trans (b3.mono (unhide C2).size))
  have XA3 := hide ((b3.block _ (heap_lt (unhide XA2))).trans (unhide XA2))
  have L3 := hide ((unhide L2).below b3)
  have OG3 := hide ((unhide OG2).nextW b3)
  have ON3 := hide ((unhide ON2).nextW b3)
  have OP3 := hide ((unhide OP2).nextW b3)
  have OM3 := hide ((unhide OM2).nextW b3)
  have s3 : w2.heap.size < W3.heap.size := heap_lt q3
  have a3 : w2.cell? ⟨W.heap.size, 3, none⟩ = some (.string os) := cell_of_heap (unhide XA2)
  have l2 : W.heap.size < w2.heap.size := heap_lt (unhide XA2)
  clear og on op om ap1 ap2 ap3 ap4 ap5 ap6 hb2 hW3 q3 b3 jg jn jp jm hD hdE
  go_wp2_with fail
  rw [unhide HW3]
  refine (back_any os _ WA W3 (unhide L3) (by omega)).mono ?_
  rintro e w4 ⟨rfl, hf⟩
  have C4 := hide (hf.belowO (unhide C3) (unhide C3).size (fun k hk => by have h2 := (unhide M1 k hk).1; omega))
  have XA4 := hide ((hf.block W.heap.size (by omega) (fun e => by have h2 := (unhide M1 _ e).1; omega)).trans (unhide XA3))
  have XB4 := hide ((hf.block w2.heap.size s3 (fun e => by have h2 := (unhide M1 _ e).2; omega)).trans (unhide XB3))
  have OG4 := hide (show OwnN w4 w1.heap.size (.slice qg D.gone.length cg) D.gone from owns_of (unhide OG3) (fun k hk => hf.block k ((unhide OG3).lt k hk).2 (fun e => by have h2 := (unhide M1 _ e).2; have h3 := ((unhide OG3).lt k hk).1; omega)))
  have ON4 := hide (show OwnN w4 w1.heap.size (.slice qn D.nets.length cn) D.nets from owns_of (unhide ON3) (fun k hk => hf.block k ((unhide ON3).lt k hk).2 (fun e => by have h2 := (unhide M1 _ e).2; have h3 := ((unhide ON3).lt k hk).1; omega)))
  have OP4 := hide (show OwnI w4 w1.heap.size (.slice qp D.path.length cp) D.path from owns_of (unhide OP3) (fun k hk => hf.block k ((unhide OP3).lt k hk).2 (fun e => by have h2 := (unhide M1 _ e).2; have h3 := ((unhide OP3).lt k hk).1; omega)))
  have OM4 := hide (show OwnI w4 w1.heap.size (.slice qm D.marks.length cm) D.marks from owns_of (unhide OM3) (fun k hk => hf.block k ((unhide OM3).lt k hk).2 (fun e => by have h2 := (unhide M1 _ e).2; have h3 := ((unhide OM3).lt k hk).1; omega)))
  have s4 := hf.size
  have a4 : w4.cell? ⟨W.heap.size, 3, none⟩ = some (.string os) := cell_of_heap (unhide XA4)
  have hcv := Lib.run_convert_string_bytes (P := Tryz.prog) w4 9 63 5 os Tryz.underlying9 Tryz.underlying63 Tryz.underlying5
  have hgc := grownCap_ge w4 os.size 0 5
  have BV := hide (bytes_at w4 os (grownCap w4 os.size 0 5) hgc (by omega))
  have b5 := below_bytes w4 5 os
  obtain ⟨W5, hW5⟩ : ∃ W5, Lib.bytesWorld w4 5 os = W5 := ⟨_, rfl⟩
  obtain ⟨gc, hgcE⟩ : ∃ gc, grownCap w4 os.size 0 5 = gc := ⟨_, rfl⟩
  rw [hW5] at hcv BV b5
  rw [hgcE] at hcv BV
  have C5 := hide ((unhide C4).trans (b5.mono (unhide C4).size))
  have XB5 := hide ((b5.block _ (heap_lt (unhide XB4))).trans (unhide XB4))
  have OG5 := hide ((unhide OG4).nextW b5)
  have ON5 := hide ((unhide ON4).nextW b5)
  have OP5 := hide ((unhide OP4).nextW b5)
  have OM5 := hide ((unhide OM4).nextW b5)
  have s5 := b5.size
  clear hf a3 hgc hgcE hW5 b5
  go_wp2_with fail
  refine (decode_w (bytesS os) _ W5 (unhide BV) (by rw [bytesS_len]; exact ls)).mono ?_
  rintro e w6 ⟨hb6, rg, rn, rpp, rmm, rfl, ogr, onr, opr, omr, -⟩
  rw [unhide HD] at ogr onr opr omr ⊢
  rw [unhide HDE]
  have RG6 := hide ogr
  have RN6 := hide onr
  have RP6 := hide opr
  have RM6 := hide omr
  obtain ⟨tg, xg, rfl⟩ := own_slice ogr
  obtain ⟨tn, xn, rfl⟩ := own_slice onr
  obtain ⟨tp, xp, rfl⟩ := own_slice opr
  obtain ⟨tm, xm, rfl⟩ := own_slice omr
  have C6 := hide ((unhide C5).trans (hb6.mono (unhide C5).size))
  have XB6 := hide ((hb6.block _ (heap_lt (unhide XB5))).trans (unhide XB5))
  have OG6 := hide ((unhide OG5).nextW hb6)
  have ON6 := hide ((unhide ON5).nextW hb6)
  have OP6 := hide ((unhide OP5).nextW hb6)
  have OM6 := hide ((unhide OM5).nextW hb6)
  have s6 := hb6.size
  obtain ⟨W7, hW7⟩ : ∃ W7, w6.alloc (.cells #[.slice tg D.gone.length xg, .slice tn D.nets.length xn, .slice tp D.path.length xp, .slice tm D.marks.length xm, .int .i64 D.pref, .int .i64 D.med] 27) = W7 := ⟨_, rfl⟩
  have q7 := heap_alloc_new w6 (.cells #[.slice tg D.gone.length xg, .slice tn D.nets.length xn, .slice tp D.path.length xp, .slice tm D.marks.length xm, .int .i64 D.pref, .int .i64 D.med] 27)
  have b7 := (Below.refl w6.heap.size w6).alloc (Nat.le_refl _) (.cells #[.slice tg D.gone.length xg, .slice tn D.nets.length xn, .slice tp D.path.length xp, .slice tm D.marks.length xm, .int .i64 D.pref, .int .i64 D.med] 27)
  rw [hW7] at q7 b7
  have HW7 := hide hW7
  have C7 := hide ((unhide C6).trans (b7.mono (unhide C6).size))
  have XB7 := hide ((b7.block _ (heap_lt (unhide XB6))).trans (unhide XB6))
  have OG7 := hide ((unhide OG6).nextW b7)
  have ON7 := hide ((unhide ON6).nextW b7)
  have OP7 := hide ((unhide OP6).nextW b7)
  have OM7 := hide ((unhide OM6).nextW b7)
  have RG7 := hide (((unhide RG6).nextW b7).at_ (unhide JG) (by omega))
  have RN7 := hide (((unhide RN6).nextW b7).at_ (unhide JN) (by omega))
  have RP7 := hide (IntsAt.own ((unhide RP6).nextW b7) (unhide JP) (by omega))
  have RM7 := hide (IntsAt.own ((unhide RM6).nextW b7) (unhide JM) (by omega))
  have s7 := b7.size
  obtain ⟨y0, y1, y2, y3, y4, y5⟩ := six_cells (unhide XB6)
  have l26 : w2.heap.size < w6.heap.size := heap_lt (unhide XB6)
  clear ogr onr opr omr hb6 hW7 q7 b7 hcv a4
  go_wp2_with fail
  rw [unhide HW7]
  refine (sameUpdateL_any D _ _ _ _ _ _ _ _ W7 ((unhide OG7).at_ (unhide JG) (by omega)) ((unhide ON7).at_ (unhide JN) (by omega)) (IntsAt.own (unhide OP7) (unhide JP) (by omega)) (IntsAt.own (unhide OM7) (unhide JM) (by omega)) (unhide RG7) (unhide RN7) (unhide RP7) (unhide RM7)).mono ?_
  rintro e w8 ⟨rfl, hb8⟩
  have C8 := hide ((unhide C7).trans (hb8.mono (unhide C7).size))
  have XB8 := hide ((hb8.block _ (heap_lt (unhide XB7))).trans (unhide XB7))
  have OG8 := hide ((unhide OG7).nextW hb8)
  have ON8 := hide ((unhide ON7).nextW hb8)
  have OP8 := hide ((unhide OP7).nextW hb8)
  have OM8 := hide ((unhide OM7).nextW hb8)
  have BK8 := hide ((unhide HB).below (unhide C8))
  have s8 := hb8.size
  have OLD := hide (show ∀ k, b.O wb k ∨ b.R k → k < W.heap.size from fun k h => h.elim (fun h => ((unhide HB).lt h).1) (fun h => ((unhide HB).sep k h).2))
  have GLT := hide (unhide OG8).lt
  have NLT := hide (unhide ON8).lt
  have PLT := hide (unhide OP8).lt
  have MLT := hide (unhide OM8).lt
  have FG := hide (show Free wb b (.slice qg D.gone.length cg) from fun k hk => by
    have h1 := (unhide GLT k hk).1
    exact ⟨fun h => by have := unhide OLD k (Or.inl h); omega, fun h => by have := unhide OLD k (Or.inr h); omega⟩)
  clear hb8 y0 y1 y2 y3 y4 y5
  obtain ⟨y0, -, -, -, -, -⟩ := six_cells (unhide XB8)
  have l28 : w2.heap.size < w8.heap.size := heap_lt (unhide XB8)
  have hO0 : ∀ k, b.O wb k → b.O wb k ∨ w8.heap.size ≤ k := fun k h => Or.inl h
  have NO0 := hide hO0
  have hsg' : D.gone.length ≤ 16777216 := by omega
  have hsn' : D.nets.length ≤ 16777216 := by omega
  have hsp' : D.path.length ≤ 16777216 := by omega
  have hsm' : D.marks.length ≤ 16777216 := by omega
  have FN0 := hide (show Free wb b (.slice qn D.nets.length cn) from fun k hk => by
    have h1 := (unhide NLT k hk).1
    exact ⟨fun h => by have := unhide OLD k (Or.inl h); omega, fun h => by have := unhide OLD k (Or.inr h); omega⟩)
  have FP0 := hide (show Free wb b (.slice qp D.path.length cp) from fun k hk => by
    have h1 := (unhide PLT k hk).1
    exact ⟨fun h => by have := unhide OLD k (Or.inl h); omega, fun h => by have := unhide OLD k (Or.inr h); omega⟩)
  have FM0 := hide (show Free wb b (.slice qm D.marks.length cm) from fun k hk => by
    have h1 := (unhide MLT k hk).1
    exact ⟨fun h => by have := unhide OLD k (Or.inl h); omega, fun h => by have := unhide OLD k (Or.inr h); omega⟩)
  have FG0 := FG
  have G2 := hide (unhide OG2).lt
  have N2 := hide (unhide ON2).lt
  have P2 := hide (unhide OP2).lt
  have M2 := hide (unhide OM2).lt
  clear hO0
  have RG0 := hide (show w8.ownsRow W.heap.size 30 2 (.slice qg D.gone.length cg) D.gone.length (netCells D.gone) from owns_base (unhide OG8) (by omega))
  have RN0 := hide (show w8.ownsRow W.heap.size 30 2 (.slice qn D.nets.length cn) D.nets.length (netCells D.nets) from owns_base (unhide ON8) (by omega))
  have RP0 := hide (show w8.ownsRow W.heap.size 3 1 (.slice qp D.path.length cp) D.path.length (D.path.map (Value.int .i64)) from owns_base (unhide OP8) (by omega))
  have RM0 := hide (show w8.ownsRow W.heap.size 3 1 (.slice qm D.marks.length cm) D.marks.length (D.marks.map (Value.int .i64)) from owns_base (unhide OM8) (by omega))
  obtain ⟨d1, hd1⟩ : ∃ d1, w8.drew = d1 := ⟨_, rfl⟩
  have bd1 : Below w8.heap.size w8 d1 := by rw [← hd1]; exact Below.drew (Below.refl _ _)
  have BKd1 := hide ((unhide BK8).below bd1)
  have OD1 := hide (show OwnN d1 W.heap.size (.slice qg D.gone.length cg) D.gone from owns_of (unhide RG0) (fun k hk => bd1.block k ((unhide RG0).lt k hk).2))
  have sd1 : d1.heap.size = w8.heap.size := by rw [← hd1]; rfl
  have hWd1 : W.heap.size ≤ d1.heap.size := by omega
  have hcd1 : b.cnt ≤ 16777216 := by omega
  have ya1 : w8.cell? ⟨w2.heap.size, 0, none⟩ = some (.slice qg D.gone.length cg) := cell_of_heap (unhide XB8)
  have HD1 := hide hd1
  go_upto_region 6 with fail
  go_cut [] (fun wc => ∃ bz, BookAt wc wb bz ∧ PutR wb b bz (.slice qg D.gone.length cg) d1 wc)
  case first =>
    clear hd1
    go_region_with (rw [unhide HD1]; go_at_call 36; refine (Book_net_any b wb _ D.gone d1 W.heap.size (unhide BKd1) (unhide FG0) (unhide OD1) hWd1 hsg' hcd1).mono ?_; rintro e wz ⟨rfl, bz, hb1, hput⟩)
    all_goals
      go_wp2_with fail
      go_meet
      exact ⟨bz, hb1, hput⟩
  case rest =>
  obtain ⟨b1, hbk, hput⟩ := hcut
  rename World => e1
  have BKc1 := hide hbk
  have PU1 := hide hput
  have NO1 := hide (show ∀ k, b1.O wb k → b.O wb k ∨ w8.heap.size ≤ k from fun k h => (hput.own k h).elim (unhide NO0 k) (fun h => by omega))
  have se1 := hput.size
  have XBc1 := hide ((hput.block w2.heap.size (by omega) (fun h => (unhide NO0 _ h).elim (fun h => by have := unhide OLD _ (Or.inl h); omega) (fun h => by omega)) (fun e => by have := (unhide G2 _ e).2; omega)).trans ((bd1.block _ (by omega)).trans (unhide XB8)))
  have hct1 := hput.cnt
  have FN1 := hide (hput.free (unhide FN0) (unhide AP1) (fun k hk => by have := (unhide N2 k hk).2; omega))
  have RN1 := hide (hput.row (unhide FN0) (unhide AP1) (owns_of (unhide RN0) (fun k hk => bd1.block k ((unhide RN0).lt k hk).2)))
  have FP1 := hide (hput.free (unhide FP0) (unhide AP2) (fun k hk => by have := (unhide P2 k hk).2; omega))
  have RP1 := hide (hput.row (unhide FP0) (unhide AP2) (owns_of (unhide RP0) (fun k hk => bd1.block k ((unhide RP0).lt k hk).2)))
  have FM1 := hide (hput.free (unhide FM0) (unhide AP3) (fun k hk => by have := (unhide M2 k hk).2; omega))
  have RM1 := hide (hput.row (unhide FM0) (unhide AP3) (owns_of (unhide RM0) (fun k hk => bd1.block k ((unhide RM0).lt k hk).2)))
  clear hbk hput ya1 hd1
  obtain ⟨d2, hd2⟩ : ∃ d2, e1.drew = d2 := ⟨_, rfl⟩
  have bd2 : Below e1.heap.size e1 d2 := by rw [← hd2]; exact Below.drew (Below.refl _ _)
  have BKd2 := hide ((unhide BKc1).below bd2)
  have OD2 := hide (show OwnN d2 W.heap.size (.slice qn D.nets.length cn) D.nets from owns_of (unhide RN1) (fun k hk => bd2.block k ((unhide RN1).lt k hk).2))
  have sd2 : d2.heap.size = e1.heap.size := by rw [← hd2]; rfl
  have hWd2 : W.heap.size ≤ d2.heap.size := by omega
  have hcd2 : b1.cnt ≤ 16777216 := by omega
  have ya2 : e1.cell? ⟨w2.heap.size, 1, none⟩ = some (.slice qn D.nets.length cn) := cell_of_heap (unhide XBc1)
  have HD2 := hide hd2
  go_upto_region 7 with fail
  go_cut [] (fun wc => ∃ bz, BookAt wc wb bz ∧ PutR wb b1 bz (.slice qn D.nets.length cn) d2 wc)
  case first =>
    clear hd2
    go_region_with (rw [unhide HD2]; go_at_call 36; refine (Book_net_any b1 wb _ D.nets d2 W.heap.size (unhide BKd2) (unhide FN1) (unhide OD2) hWd2 hsn' hcd2).mono ?_; rintro e wz ⟨rfl, bz, hb1, hput⟩)
    all_goals
      go_wp2_with fail
      go_meet
      exact ⟨bz, hb1, hput⟩
  case rest =>
  obtain ⟨b2, hbk, hput⟩ := hcut
  rename World => e2
  have BKc2 := hide hbk
  have PU2 := hide hput
  have NO2 := hide (show ∀ k, b2.O wb k → b.O wb k ∨ w8.heap.size ≤ k from fun k h => (hput.own k h).elim (unhide NO1 k) (fun h => by omega))
  have se2 := hput.size
  have XBc2 := hide ((hput.block w2.heap.size (by omega) (fun h => (unhide NO1 _ h).elim (fun h => by have := unhide OLD _ (Or.inl h); omega) (fun h => by omega)) (fun e => by have := (unhide N2 _ e).2; omega)).trans ((bd2.block _ (by omega)).trans (unhide XBc1)))
  have hct2 := hput.cnt
  have FP2 := hide (hput.free (unhide FP1) (unhide AP4) (fun k hk => by have := (unhide P2 k hk).2; omega))
  have RP2 := hide (hput.row (unhide FP1) (unhide AP4) (owns_of (unhide RP1) (fun k hk => bd2.block k ((unhide RP1).lt k hk).2)))
  have FM2 := hide (hput.free (unhide FM1) (unhide AP5) (fun k hk => by have := (unhide M2 k hk).2; omega))
  have RM2 := hide (hput.row (unhide FM1) (unhide AP5) (owns_of (unhide RM1) (fun k hk => bd2.block k ((unhide RM1).lt k hk).2)))
  clear hbk hput ya2 hd2
  obtain ⟨d3, hd3⟩ : ∃ d3, e2.drew = d3 := ⟨_, rfl⟩
  have bd3 : Below e2.heap.size e2 d3 := by rw [← hd3]; exact Below.drew (Below.refl _ _)
  have BKd3 := hide ((unhide BKc2).below bd3)
  have OD3 := hide (show OwnI d3 W.heap.size (.slice qp D.path.length cp) D.path from owns_of (unhide RP2) (fun k hk => bd3.block k ((unhide RP2).lt k hk).2))
  have sd3 : d3.heap.size = e2.heap.size := by rw [← hd3]; rfl
  have hWd3 : W.heap.size ≤ d3.heap.size := by omega
  have hcd3 : b2.cnt ≤ 16777216 := by omega
  have ya3 : e2.cell? ⟨w2.heap.size, 2, none⟩ = some (.slice qp D.path.length cp) := cell_of_heap (unhide XBc2)
  have HD3 := hide hd3
  go_upto_region 8 with fail
  go_cut [] (fun wc => ∃ bz, BookAt wc wb bz ∧ PutR wb b2 bz (.slice qp D.path.length cp) d3 wc)
  case first =>
    clear hd3
    go_region_with (rw [unhide HD3]; go_at_call 37; refine (Book_int_any b2 wb _ D.path d3 W.heap.size (unhide BKd3) (unhide FP2) (unhide OD3) hWd3 hsp' hcd3).mono ?_; rintro e wz ⟨rfl, bz, hb1, hput⟩)
    all_goals
      go_wp2_with fail
      go_meet
      exact ⟨bz, hb1, hput⟩
  case rest =>
  obtain ⟨b3, hbk, hput⟩ := hcut
  rename World => e3
  have BKc3 := hide hbk
  have PU3 := hide hput
  have NO3 := hide (show ∀ k, b3.O wb k → b.O wb k ∨ w8.heap.size ≤ k from fun k h => (hput.own k h).elim (unhide NO2 k) (fun h => by omega))
  have se3 := hput.size
  have XBc3 := hide ((hput.block w2.heap.size (by omega) (fun h => (unhide NO2 _ h).elim (fun h => by have := unhide OLD _ (Or.inl h); omega) (fun h => by omega)) (fun e => by have := (unhide P2 _ e).2; omega)).trans ((bd3.block _ (by omega)).trans (unhide XBc2)))
  have hct3 := hput.cnt
  have FM3 := hide (hput.free (unhide FM2) (unhide AP6) (fun k hk => by have := (unhide M2 k hk).2; omega))
  have RM3 := hide (hput.row (unhide FM2) (unhide AP6) (owns_of (unhide RM2) (fun k hk => bd3.block k ((unhide RM2).lt k hk).2)))
  clear hbk hput ya3 hd3
  obtain ⟨d4, hd4⟩ : ∃ d4, e3.drew = d4 := ⟨_, rfl⟩
  have bd4 : Below e3.heap.size e3 d4 := by rw [← hd4]; exact Below.drew (Below.refl _ _)
  have BKd4 := hide ((unhide BKc3).below bd4)
  have OD4 := hide (show OwnI d4 W.heap.size (.slice qm D.marks.length cm) D.marks from owns_of (unhide RM3) (fun k hk => bd4.block k ((unhide RM3).lt k hk).2))
  have sd4 : d4.heap.size = e3.heap.size := by rw [← hd4]; rfl
  have hWd4 : W.heap.size ≤ d4.heap.size := by omega
  have hcd4 : b3.cnt ≤ 16777216 := by omega
  have ya4 : e3.cell? ⟨w2.heap.size, 3, none⟩ = some (.slice qm D.marks.length cm) := cell_of_heap (unhide XBc3)
  have HD4 := hide hd4
  go_upto_region 9 with fail
  go_cut [] (fun wc => ∃ bz, BookAt wc wb bz ∧ PutR wb b3 bz (.slice qm D.marks.length cm) d4 wc)
  case first =>
    clear hd4
    go_region_with (rw [unhide HD4]; go_at_call 37; refine (Book_int_any b3 wb _ D.marks d4 W.heap.size (unhide BKd4) (unhide FM3) (unhide OD4) hWd4 hsm' hcd4).mono ?_; rintro e wz ⟨rfl, bz, hb1, hput⟩)
    all_goals
      go_wp2_with fail
      go_meet
      exact ⟨bz, hb1, hput⟩
  case rest =>
  obtain ⟨b4, hbk, hput⟩ := hcut
  rename World => e4
  have BKc4 := hide hbk
  have PU4 := hide hput
  have NO4 := hide (show ∀ k, b4.O wb k → b.O wb k ∨ w8.heap.size ≤ k from fun k h => (hput.own k h).elim (unhide NO3 k) (fun h => by omega))
  have se4 := hput.size
  have XBc4 := hide ((hput.block w2.heap.size (by omega) (fun h => (unhide NO3 _ h).elim (fun h => by have := unhide OLD _ (Or.inl h); omega) (fun h => by omega)) (fun e => by have := (unhide M2 _ e).2; omega)).trans ((bd4.block _ (by omega)).trans (unhide XBc3)))
  have hct4 := hput.cnt
  clear hbk hput ya4 hd4
  go_wp2
  go_ret
  refine ⟨rfl, b4, unhide BKc4, ?_, ?_, ?_, by omega, fun k hk hO => ?_, fun k hk => ?_, by omega⟩
  · exact (unhide PU4).os.trans (bd4.os.trans ((unhide PU3).os.trans (bd3.os.trans ((unhide PU2).os.trans (bd2.os.trans ((unhide PU1).os.trans (bd1.os.trans (unhide C8).os)))))))
  · exact (unhide PU4).tape.trans (bd4.tape.trans ((unhide PU3).tape.trans (bd3.tape.trans ((unhide PU2).tape.trans (bd2.tape.trans ((unhide PU1).tape.trans (bd1.tape.trans (unhide C8).tape)))))))
  · exact (unhide PU4).output.trans (bd4.output.trans ((unhide PU3).output.trans (bd3.output.trans ((unhide PU2).output.trans (bd2.output.trans ((unhide PU1).output.trans (bd1.output.trans (unhide C8).output)))))))
  · have sW := (unhide C8).size
    rw [(unhide PU4).block k (by omega) (fun h => (unhide NO3 k h).elim hO (fun h => by omega)) (fun e => by have := (unhide M2 k e).1; omega), bd4.block k (by omega),
      (unhide PU3).block k (by omega) (fun h => (unhide NO2 k h).elim hO (fun h => by omega)) (fun e => by have := (unhide P2 k e).1; omega), bd3.block k (by omega),
      (unhide PU2).block k (by omega) (fun h => (unhide NO1 k h).elim hO (fun h => by omega)) (fun e => by have := (unhide N2 k e).1; omega), bd2.block k (by omega),
      (unhide PU1).block k (by omega) hO (fun e => by have := (unhide G2 k e).1; omega), bd1.block k (by omega)]
    exact (unhide C8).block k hk
  · exact (unhide NO4 k hk).imp id (fun h => by have := (unhide C8).size; omega)
end Go.Proofs.YtgngdklkoilaiaaGreatDoor
