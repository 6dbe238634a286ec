/- The program's attributesOf (package messages): the attributes of a message. -/
import Derived.Test.YtgngdklkoilaiaaGreatDoorMsgD
import Derived.Deep.CutBlock
namespace Go.Proofs.YtgngdklkoilaiaaGreatDoor
open Go.RowKit

/-- the row of attributes under way; their bytes lie elsewhere -/
structure AttRow (w W : World) (lv : Value) (A : List (Int × Int × Value)) (D : List (Int × Int × List Int)) : Prop where
  own : OwnU W w.heap.size lv A
  at_ : AttsAt W A D
  ap : ∀ a ∈ A, ∀ k, a.2.2.ownBlock = some k → k < W.heap.size ∧ some k ≠ lv.ownBlock
  be : Below w.heap.size w W
theorem AttRow.next {w W W' : World} {lv : Value} {A : List (Int × Int × Value)} {D : List (Int × Int × List Int)} (h : AttRow w W lv A D) (hb : Below W.heap.size W W') : AttRow w W' lv A D :=
  ⟨owns_of h.own (fun k hk => hb.block k (h.own.lt k hk).2), h.at_.below hb, fun a ha k hk => ⟨Nat.lt_of_lt_of_le (h.ap a ha k hk).1 hb.size, (h.ap a ha k hk).2⟩, h.be.trans (hb.mono h.be.size)⟩
theorem AttRow.push {w W W1 W0 w' : World} {lv lv' vx : Value} {A : List (Int × Int × Value)} {D : List (Int × Int × List Int)} {f n : Int} {bytes : List Int} {b1 : Nat} (h : AttRow w W lv A D) (hb : Below W.heap.size W W1)
    (hx : OwnB W1 b1 vx bytes) (hb1 : W.heap.size ≤ b1) (hy : bytesOk bytes) (hl : bytes.length ≤ 255) (hw0 : Below W1.heap.size W1 W0)
    (hown : w'.ownsRow w.heap.size 279 3 lv' (A.length + 1) (attU A ++ [.int .u8 f, .int .u8 n, vx])) (hgrow : W0.grownBy w' lv.ownBlock) (hat : lv'.ownBlock = lv.ownBlock ∨ lv'.ownBlock = some W0.heap.size) :
    AttRow w w' lv' (A ++ [(f, n, vx)]) (D ++ [(f, n, bytes)]) := by
  have h1 := h.next hb
  have h2 := h1.next hw0
  have hxl := hx.lt
  have s1 := hb.size
  have s2 := hw0.size
  have s3 := hgrow.size
  have hxo : ∀ k, vx.ownBlock = some k → k < W0.heap.size ∧ some k ≠ lv.ownBlock := fun k hk => by
    have a1 := hxl k hk
    refine ⟨by omega, fun e => ?_⟩
    have := (h.own.lt k e.symm).2
    omega
  have hall : ∀ a ∈ A ++ [(f, n, vx)], ∀ k, a.2.2.ownBlock = some k → k < W0.heap.size ∧ some k ≠ lv.ownBlock := fun a ha k hk => by
    rcases List.mem_append.1 ha with h3 | h3
    · exact h2.ap a h3 k hk
    · simp only [List.mem_singleton] at h3; subst h3; exact hxo k hk
  have hx0 : BytesAt W0 vx bytes := (OwnB.next hx hw0).at_ hy (by omega)
  refine ⟨?_, ?_, fun a ha k hk => ?_, ?_⟩
  · unfold OwnU
    rw [attU_snoc, List.length_append]; exact hown
  · exact (AttsAt.snoc h2.at_ hx0).kept s3 (fun a ha k hk => hgrow.block k (hall a ha k hk).1 (hall a ha k hk).2)
  · have := hall a ha k hk
    refine ⟨by omega, ?_⟩
    rcases hat with e | e
    · rw [e]; exact this.2
    · rw [e]; intro e2; have e3 : k = W0.heap.size := (by simpa using e2); omega
  · exact h2.be.grown hgrow h2.be.size (fun k hk => (h.own.lt k hk).1)
theorem AttRow.start {w W : World} {vx : Value} {f n : Int} {bytes : List Int} (hx : OwnB W w.heap.size vx bytes) (hy : bytesOk bytes) (hl : bytes.length ≤ 255) (hb : Below w.heap.size w W) :
    AttRow w (W.alloc (.cells #[.int .u8 f, .int .u8 n, vx] 279)) (.slice (some ⟨W.heap.size, 0, none⟩) 1 1) [(f, n, vx)] [(f, n, bytes)] := by
  have hxl := hx.lt
  have b0 : Below W.heap.size W (W.alloc (.cells #[.int .u8 f, .int .u8 n, vx] 279)) := (Below.refl _ _).alloc (Nat.le_refl _) _
  refine ⟨?_, ⟨⟨rfl, rfl, (OwnB.next hx b0).at_ hy (by omega)⟩, trivial⟩, fun a ha k hk => ?_, hb.alloc hb.size _⟩
  · exact ⟨by simp [attU], Or.inr ⟨W.heap.size, 1, #[.int .u8 f, .int .u8 n, vx], rfl, hb.size, heap_alloc_new _ _, by simp, by simp [maxLen], by rfl, by simp [attU]⟩⟩
  · simp only [List.mem_singleton] at ha
    subst ha
    have := hxl k hk
    refine ⟨by simp; omega, fun e => ?_⟩
    have e2 : W.heap.size = k := by simpa [Value.ownBlock] using e.symm
    omega
theorem pathB_ok {p : List Int} (h : p.length ≤ 12) : bytesOk (pathB p) := by
  unfold pathB
  split
  · exact bytesOk_nil
  · intro x hx
    simp only [List.mem_cons] at hx
    rcases hx with rfl | rfl | hx
    · omega
    · omega
    · exact wordsB_ok p x hx
theorem one_att (f n : Int) (q : Option Addr) (k c : Nat) : ∀ u ∈ [Value.int .u8 f, .int .u8 n, .slice q k c], u.oneCell' = true := by
  intro u hu
  simp only [List.mem_cons, List.not_mem_nil, or_false] at hu
  rcases hu with rfl | rfl | rfl <;> rfl

theorem putWord_own (n : Int) (w : World) (hn : inI n) :
    Calls Tryz.prog 178 #[.slice none 0 0, .int .i64 n] w fun e w' => ∃ v, e = .returned v ∧ OwnB w' w.heap.size v (fourB n) ∧ Below w.heap.size w w' :=
  (putWord_nil n w hn).mono fun _e _w' ⟨_g, _c, he, _, _, ho, hb⟩ => ⟨_, he, ho, hb⟩
def medL (u : Msg) : List (Int × Int × List Int) := if 0 < u.med then [(128, 4, fourB u.med)] else []
def marksL (u : Msg) : List (Int × Int × List Int) := if u.marks = [] then [] else [(192, 8, wordsB u.marks)]
theorem attsOf_eq {u : Msg} (h : u.nets ≠ []) : attsOf u = (([(64, 2, pathB u.path)] ++ medL u) ++ [(64, 5, fourB u.pref)]) ++ marksL u := by
  unfold attsOf medL marksL
  rw [if_neg h]
  split <;> split <;> simp
theorem AttRow.back {w w0 W : World} {lv : Value} {A : List (Int × Int × Value)} {D : List (Int × Int × List Int)} (h : AttRow w0 W lv A D) (hb : Below w.heap.size w w0) : AttRow w W lv A D :=
  ⟨owns_base h.own hb.size, h.at_, h.ap, hb.trans (h.be.mono hb.size)⟩

set_option maxRecDepth 100000 in
set_option maxHeartbeats 3200000 in
theorem attributesOf_any (u : Msg) (vg vn vp vm : Value) (w : World) (ht : TabAt w) (hn : NetsAt w vn u.nets) (hg : ∃ q n c, vg = .slice q n c) (hp : IntsAt w vp u.path) (hm : IntsAt w vm u.marks) (hpo : u.path = [] ∨ ∀ k, vp.ownBlock = some k → k < w.heap.size) (hmo : u.marks = [] ∨ ∀ k, vm.ownBlock = some k → k < w.heap.size) (hok : msgOk u) :
    Calls Tryz.prog 132 #[.agg #[vg, vn, vp, vm, .int .i64 u.pref, .int .i64 u.med]] w fun e w' => ∃ v A, e = .returned v ∧ AttRow w w' v A (attsOf u) := by
  obtain ⟨i0, hi0, hz0, hz1, hz2⟩ := info_parts Tryz.infoAttU
  have HP := hide hp
  have HM := hide hm
  have HK := hide hok
  obtain ⟨qg, ng, cg, rfl⟩ := hg
  obtain ⟨pn, cn, rfl, -, hln, -⟩ := hn
  obtain ⟨pp, cp, rfl, -, hlp, -⟩ := hp
  obtain ⟨pm, cm, rfl, -, hlm, -⟩ := hm
  have hpl := hok.2.1.1
  have hml := hok.2.2.1.1
  have hmed : 0 ≤ u.med ∧ u.med ≤ 4294967295 := hok.2.2.2.2.1
  have hpref : 0 ≤ u.pref ∧ u.pref ≤ 4294967295 := hok.2.2.2.1
  clear hok
  obtain ⟨w0, hw0⟩ : ∃ w0, w.alloc (.cells #[.slice qg ng cg, .slice pn u.nets.length cn, .slice pp u.path.length cp, .slice pm u.marks.length cm, .int .i64 u.pref, .int .i64 u.med] 27) = w0 := ⟨_, rfl⟩
  have Q0 := hide (heap_alloc_new w (.cells #[.slice qg ng cg, .slice pn u.nets.length cn, .slice pp u.path.length cp, .slice pm u.marks.length cm, .int .i64 u.pref, .int .i64 u.med] 27))
  have B0 := hide ((Below.refl w.heap.size w).alloc (Nat.le_refl _) (.cells #[.slice qg ng cg, .slice pn u.nets.length cn, .slice pp u.path.length cp, .slice pm u.marks.length cm, .int .i64 u.pref, .int .i64 u.med] 27))
  rw [hw0] at Q0 B0
  have HT := hide (ht.below (unhide B0))
  have hl0 : w.heap.size < w0.heap.size := heap_lt (unhide Q0)
  have HW0 := hide hw0
  clear ht hw0
  go_enter Tryz.func132, Tryz.ntmps132
  by_cases hnz : u.nets.length = 0
  · have HZ := hide (show attsOf u = [] from by unfold attsOf; rw [if_pos (List.length_eq_zero_iff.1 hnz)])
    have d : ((u.nets.length : Int) == 0) = true := by simp [hnz]
    clear hnz
    go_wp2
    go_ret
    exact ⟨_, [], rfl, by rw [unhide HZ, unhide HW0]; exact ⟨World.ownsRow_nil _ _ _ _, trivial, fun a ha => by simp at ha, unhide B0⟩⟩
  · have HNZ := hide (show u.nets ≠ [] from fun e => hnz (by rw [e]; rfl))
    have d : ((u.nets.length : Int) == 0) = false := beq_eq_false_iff_ne.2 (by omega)
    clear hnz
    go_wp2_with fail
    rw [unhide HW0]
    refine (pathValue_any u.path _ _ ((unhide HP).below (unhide B0)) (hpo.imp id (fun h k hk => by have := h k hk; omega)) hpl).mono ?_
    rintro e w1 ⟨v1, rfl, ho1, hb1⟩
    obtain ⟨q, c, rfl⟩ := own_slice ho1
    have O1 := hide ho1
    have B1 := hide hb1
    clear ho1 hb1
    go_wp2_with fail
    refine (attributeOf_any 2 q _ c _ ((unhide HT).below (unhide B1))).mono ?_
    rintro e w2 ⟨rfl, hb2⟩
    have AR := hide (AttRow.start (w := w0) (f := 64) (n := 2) ((unhide O1).next hb2) (pathB_ok hpl) (by have := pathB_len (unhide HK).2.1; omega) ((unhide B1).trans (hb2.mono (unhide B1).size)))
    have e2 : flU 2 = 64 := rfl
    rw [e2]
    have B2 := hide ((unhide B1).trans (hb2.mono (unhide B1).size))
    obtain ⟨-, -, -, c3, c4, c5⟩ := six_cells (((unhide B2).block _ hl0).trans (unhide Q0))
    have hl2 : w.heap.size < w2.heap.size := Nat.lt_of_lt_of_le hl0 (unhide B2).size
    clear hb2 e2
    go_upto_if 15 with fail
    have hlv : ∃ q3 k3 A, .slice (some ⟨w2.heap.size, 0, none⟩) 1 1 = Value.slice q3 A.length k3 ∧ Hid (AttRow w0 (w2.alloc (.cells #[.int .u8 64, .int .u8 2, .slice q (pathB u.path).length c] 279)) (.slice q3 A.length k3) A [(64, 2, pathB u.path)]) ∧ A.length ≤ 1 := ⟨_, _, [(64, 2, .slice q (pathB u.path).length c)], rfl, AR, by simp⟩
    clear AR
    obtain ⟨q3, k3, A, e3, AR, hA1⟩ := hlv
    rw [e3]
    obtain ⟨W, hW⟩ : ∃ W, w2.alloc (.cells #[.int .u8 64, .int .u8 2, .slice q (pathB u.path).length c] 279) = W := ⟨_, rfl⟩
    rw [hW] at AR ⊢
    clear hW c3 c4 c5 O1 B1 B2 e3
    go_cut [3] (fun v3 wc => ∃ A, AttRow w0 wc v3 A ([(64, 2, pathB u.path)] ++ medL u) ∧ A.length ≤ 2)
    case first =>
      obtain ⟨-, -, -, c3, c4, c5⟩ := six_cells (((unhide AR).be.block _ hl0).trans (unhide Q0))
      have hlW := (unhide AR).be.size
      by_cases hm0 : 0 < u.med
      · have HI := hide (show medL u = [(128, 4, fourB u.med)] from by unfold medL; rw [if_pos hm0])
        go_wp2_with fail
        refine (putWord_own u.med _ (by unfold inI; omega)).mono ?_
        rintro e wa ⟨va, rfl, hoa, hba⟩
        obtain ⟨qx, cx, rfl⟩ := own_slice hoa
        have OA := hide hoa
        have BA := hide hba
        clear hoa hba
        go_wp2_with fail
        refine (attributeOf_any 4 qx _ cx _ ((unhide HT).below ((unhide AR).be.trans ((unhide BA).mono (unhide AR).be.size)))).mono ?_
        rintro e wb ⟨rfl, hbb⟩
        have OB := hide ((unhide OA).next hbb)
        have BB := hide ((unhide BA).trans (hbb.mono (unhide BA).size))
        have e2 : flU 4 = 128 := rfl
        rw [e2]
        clear hbb e2 OA BA
        have hsb : w0.heap.size ≤ wb.heap.size := Nat.le_trans (unhide AR).be.size (unhide BB).size
        have ORW := hide ((unhide AR).next (unhide BB)).own
        obtain ⟨V, hV⟩ : ∃ V, fourB u.med = V := ⟨_, rfl⟩
        have HV := hide hV
        have hvl : V.length ≤ 255 := by rw [← hV]; simp [fourB_len]
        have hvo : bytesOk V := by rw [← hV]; exact fourB_ok _
        have HVO := hide hvo
        rw [hV] at OB ⊢
        clear hV hvo
        go_wp2_with (at_builtin; refine wpList_append_reads rfl _ _ _ rfl w0.heap.size 279 i0 _ 3 32 Tryz.underlying237 hi0 hz0 hz1 hz2 rfl (by omega) (.slice q3 A.length k3) A.length (attU A) rfl (World.ownsRow.alloc (unhide ORW) _) (.slice (some ⟨wb.heap.size, 0, none⟩) 1 1) 1 [.int .u8 128, .int .u8 4, .slice qx V.length cx] rfl (Or.inr ⟨_, _, rfl, World.news_of_block (cs := #[.int .u8 128, .int .u8 4, .slice qx V.length cx]) (t := 279) (fr := (0, 0)) (heap_alloc_new _ _)⟩) (by simp) (one_att _ _ _ _ _) (by simp only [maxLen]; omega) (by omega) (by simp; omega) ?_; intro v' w' hown hgrow hat)
        have R1 := hide ((unhide AR).push (unhide BB) (unhide OB) (Nat.le_refl _) (unhide HVO) hvl ((Below.refl _ _).alloc (Nat.le_refl _) _) hown hgrow hat)
        clear hown hgrow hat OB BB ORW HVO
        go_meet
        case rel => rw [unhide HI, unhide HV]; exact ⟨_, unhide R1, by simp; omega⟩
      · have HI := hide (show medL u = [] from by unfold medL; rw [if_neg hm0])
        go_wp2_with fail
        go_meet
        case rel => rw [unhide HI, List.append_nil]; exact ⟨A, unhide AR, by omega⟩
    case rest =>
      clear AR
      rename World => W3
      obtain ⟨A, AR', hA2⟩ := hcut
      obtain ⟨q3, k3, rfl⟩ := own_slice AR'.own
      have AR := hide AR'
      clear AR' hA1
      obtain ⟨-, -, -, c3, c4, c5⟩ := six_cells (((unhide AR).be.block _ hl0).trans (unhide Q0))
      have hlW := (unhide AR).be.size
      go_wp2_with fail
      refine (putWord_own u.pref _ (by unfold inI; omega)).mono ?_
      rintro e wa ⟨va, rfl, hoa, hba⟩
      obtain ⟨qx, cx, rfl⟩ := own_slice hoa
      have OA := hide hoa
      have BA := hide hba
      clear hoa hba
      go_wp2_with fail
      refine (attributeOf_any 5 qx _ cx _ ((unhide HT).below ((unhide AR).be.trans ((unhide BA).mono (unhide AR).be.size)))).mono ?_
      rintro e wb ⟨rfl, hbb⟩
      have OB := hide ((unhide OA).next hbb)
      have BB := hide ((unhide BA).trans (hbb.mono (unhide BA).size))
      have e2 : flU 5 = 64 := rfl
      rw [e2]
      clear hbb e2 OA BA
      have hsb : w0.heap.size ≤ wb.heap.size := Nat.le_trans (unhide AR).be.size (unhide BB).size
      have ORW := hide ((unhide AR).next (unhide BB)).own
      obtain ⟨V, hV⟩ : ∃ V, fourB u.pref = V := ⟨_, rfl⟩
      have HV := hide hV
      have hvl : V.length ≤ 255 := by rw [← hV]; simp [fourB_len]
      have hvo : bytesOk V := by rw [← hV]; exact fourB_ok _
      have HVO := hide hvo
      rw [hV] at OB ⊢
      clear hV hvo
      go_upto_region 7 with (at_builtin; refine wpList_append_reads rfl _ _ _ rfl w0.heap.size 279 i0 _ 3 32 Tryz.underlying237 hi0 hz0 hz1 hz2 rfl (by omega) (.slice q3 A.length k3) A.length (attU A) rfl (World.ownsRow.alloc (unhide ORW) _) (.slice (some ⟨wb.heap.size, 0, none⟩) 1 1) 1 [.int .u8 64, .int .u8 5, .slice qx V.length cx] rfl (Or.inr ⟨_, _, rfl, World.news_of_block (cs := #[.int .u8 64, .int .u8 5, .slice qx V.length cx]) (t := 279) (fr := (0, 0)) (heap_alloc_new _ _)⟩) (by simp) (one_att _ _ _ _ _) (by simp only [maxLen]; omega) (by omega) (by simp; omega) ?_; intro v' w' hown hgrow hat)
      have R1 := hide ((unhide AR).push (unhide BB) (unhide OB) (Nat.le_refl _) (unhide HVO) hvl ((Below.refl _ _).alloc (Nat.le_refl _) _) hown hgrow hat)
      clear hown hgrow hat OB BB ORW HVO
      clear AR
      have HEQ := hide (attsOf_eq (unhide HNZ))
      obtain ⟨A, hAA⟩ : ∃ A2, A ++ [(64, 5, Value.slice qx V.length cx)] = A2 := ⟨_, rfl⟩
      have hA3 : A.length ≤ 3 := by rw [← hAA]; simp; omega
      rw [hAA, ← unhide HV] at R1
      clear hAA
      obtain ⟨q3, k3, hq3⟩ := own_slice (unhide R1).own
      subst hq3
      have AR := R1
      clear R1 c3 c4 c5
      obtain ⟨-, -, -, c3, c4, c5⟩ := six_cells (((unhide AR).be.block _ hl0).trans (unhide Q0))
      have hlW := (unhide AR).be.size
      by_cases hm0 : 0 < u.marks.length
      · have HI := hide (show marksL u = [(192, 8, wordsB u.marks)] from by unfold marksL; rw [if_neg (List.length_pos_iff.1 hm0)])
        clear HV
        go_wp2_with fail
        refine (putPairs_any _ [] u.marks (.slice none 0 0) _ _ (World.ownsRow_nil _ _ _ _) (Nat.le_refl _) ((unhide HM).below ((unhide B0).trans ((unhide AR).be.mono (unhide B0).size))) (hmo.imp id (fun h k hk => ⟨by have := h k hk; omega, fun e => by simp [Value.ownBlock] at e⟩)) (by simp) (by omega)).mono ?_
        rintro e wa ⟨va, rfl, ga⟩
        have hoa := ga.own
        have hba := ga.be
        rw [List.nil_append] at hoa
        clear ga
        obtain ⟨qx, cx, rfl⟩ := own_slice hoa
        have OA := hide hoa
        have BA := hide hba
        clear hoa hba
        go_wp2_with fail
        refine (attributeOf_any 8 qx _ cx _ ((unhide HT).below ((unhide AR).be.trans ((unhide BA).mono (unhide AR).be.size)))).mono ?_
        rintro e wb ⟨rfl, hbb⟩
        have OB := hide ((unhide OA).next hbb)
        have BB := hide ((unhide BA).trans (hbb.mono (unhide BA).size))
        have e2 : flU 8 = 192 := rfl
        rw [e2]
        clear hbb e2 OA BA
        have hsb : w0.heap.size ≤ wb.heap.size := Nat.le_trans (unhide AR).be.size (unhide BB).size
        have ORW := hide ((unhide AR).next (unhide BB)).own
        obtain ⟨V, hV⟩ : ∃ V, wordsB u.marks = V := ⟨_, rfl⟩
        have HV := hide hV
        have hvl : V.length ≤ 255 := by rw [← hV]; rw [wordsB_len]; omega
        have hvo : bytesOk V := by rw [← hV]; exact wordsB_ok _
        have HVO := hide hvo
        rw [hV] at OB ⊢
        clear hV hvo
        go_wp2_with (at_builtin; refine wpList_append_reads rfl _ _ _ rfl w0.heap.size 279 i0 _ 3 32 Tryz.underlying237 hi0 hz0 hz1 hz2 rfl (by omega) (.slice q3 A.length k3) A.length (attU A) rfl (World.ownsRow.alloc (unhide ORW) _) (.slice (some ⟨wb.heap.size, 0, none⟩) 1 1) 1 [.int .u8 192, .int .u8 8, .slice qx V.length cx] rfl (Or.inr ⟨_, _, rfl, World.news_of_block (cs := #[.int .u8 192, .int .u8 8, .slice qx V.length cx]) (t := 279) (fr := (0, 0)) (heap_alloc_new _ _)⟩) (by simp) (one_att _ _ _ _ _) (by simp only [maxLen]; omega) (by omega) (by simp; omega) ?_; intro v' w' hown hgrow hat)
        have R1 := hide ((unhide AR).push (unhide BB) (unhide OB) (Nat.le_refl _) (unhide HVO) hvl ((Below.refl _ _).alloc (Nat.le_refl _) _) hown hgrow hat)
        clear hown hgrow hat OB BB ORW HVO
        go_ret
        exact ⟨_, _, rfl, by rw [unhide HEQ, unhide HI, unhide HV]; exact (unhide R1).back (unhide B0)⟩
      · have HI := hide (show marksL u = [] from by unfold marksL; rw [if_pos (List.length_eq_zero_iff.1 (by omega))])
        go_wp2
        go_ret
        exact ⟨_, A, rfl, by rw [unhide HEQ, unhide HI, List.append_nil]; exact (unhide AR).back (unhide B0)⟩
end Go.Proofs.YtgngdklkoilaiaaGreatDoor
