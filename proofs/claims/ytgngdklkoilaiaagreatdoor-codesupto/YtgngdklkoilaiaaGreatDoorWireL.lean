/- The reference's into (package bywayref): an attribute's value, put into the message under way. -/
import Derived.Test.YtgngdklkoilaiaaGreatDoorWireK
import Derived.Test.YtgngdklkoilaiaaGreatDoorMsgS
import Derived.Test.YtgngdklkoilaiaaGreatDoorLawB
import Derived.Deep.CutBlock
namespace Go.Proofs.YtgngdklkoilaiaaGreatDoor
open Go.RowKit

/-- the message under way, its rows named -/
structure BoxV (w0 W : World) (ub : Nat) (vg vn vp vm : Value) (U : Msg) : Prop where
  blk : W.heap[ub]? = some (.cells #[vg, vn, vp, vm, .int .i64 U.pref, .int .i64 U.med] 27 (0, 0))
  op : OwnI W w0.heap.size vp U.path
  om : OwnI W w0.heap.size vm U.marks
  ap : Apart vp vm
  fr : Fr (· = ub) w0 (· = ub) W
theorem BoxV.box {w0 W : World} {ub : Nat} {vg vn vp vm : Value} {U : Msg} (h : BoxV w0 W ub vg vn vp vm U) : BoxU w0 W ub vg vn U := ⟨⟨vp, vm, h.blk, h.op, h.om, h.ap⟩, h.fr⟩
theorem BoxU.rows {w0 W : World} {ub : Nat} {vg vn : Value} {U : Msg} (h : BoxU w0 W ub vg vn U) : ∃ vp vm, BoxV w0 W ub vg vn vp vm U := by
  obtain ⟨⟨vp, vm, h1, h2, h3, h4⟩, h5⟩ := h
  exact ⟨vp, vm, h1, h2, h3, h4, h5⟩
theorem BoxV.next {w0 W W' : World} {ub : Nat} {vg vn vp vm : Value} {U : Msg} (h : BoxV w0 W ub vg vn vp vm U) (hb : Below W.heap.size W W') : BoxV w0 W' ub vg vn vp vm U :=
  ⟨(hb.block _ (heap_lt h.blk)).trans h.blk, h.op.nextW hb, h.om.nextW hb, h.ap, h.fr.below hb⟩
/-- the path grows, in its place or in a new one -/
theorem BoxV.growP {w0 W w' : World} {ub : Nat} {vg vn vp vm v' : Value} {U : Msg} {L : List Int} {o : Obj} (h : BoxV w0 W ub vg vn vp vm U) (hu : ub < w0.heap.size) (ho : OwnI w' w0.heap.size v' L) (hg : (W.alloc o).grownBy w' vp.ownBlock)
    (hat : v'.ownBlock = vp.ownBlock ∨ v'.ownBlock = some (W.alloc o).heap.size) : BoxV w0 (w'.setCell ⟨ub, 2, none⟩ v') ub vg vn v' vm { U with path := L } := by
  have s0 := h.fr.size
  have s1 : (W.alloc o).heap.size = W.heap.size + 1 := by simp
  have hlu := heap_lt h.blk
  have hub : some ub ≠ vp.ownBlock := fun e => by have := (h.op.lt ub e.symm).1; omega
  refine ⟨?_, ho.set hu _, ?_, ?_, ?_⟩
  · have q : w'.heap[ub]? = some (.cells #[vg, vn, vp, vm, .int .i64 U.pref, .int .i64 U.med] 27 (0, 0)) := by
      rw [hg.block ub (by omega) hub, Below.heap_alloc _ _ _ hlu]; exact h.blk
    rw [heap_set q]; rfl
  · refine OwnI.set ?_ hu _
    exact owns_of h.om (fun k e => by
      rw [hg.block k (by have := (h.om.lt k e).2; omega) (fun e2 => h.ap k e2.symm e), Below.heap_alloc _ _ _ (h.om.lt k e).2])
  · intro k h1 h2
    rcases hat with e | e
    · rw [e] at h1; exact h.ap k h1 h2
    · rw [e] at h1
      have e2 : (W.alloc o).heap.size = k := by simpa using h1
      have := (h.om.lt k h2).2
      omega
  · exact ((h.fr.alloc o).grown hg (fun k hk => Or.inr (h.op.lt k hk).1)).setCell (Or.inl rfl) _
theorem BoxV.growM {w0 W w' : World} {ub : Nat} {vg vn vp vm v' : Value} {U : Msg} {L : List Int} {o : Obj} (h : BoxV w0 W ub vg vn vp vm U) (hu : ub < w0.heap.size) (ho : OwnI w' w0.heap.size v' L) (hg : (W.alloc o).grownBy w' vm.ownBlock)
    (hat : v'.ownBlock = vm.ownBlock ∨ v'.ownBlock = some (W.alloc o).heap.size) : BoxV w0 (w'.setCell ⟨ub, 3, none⟩ v') ub vg vn vp v' { U with marks := L } := by
  have s0 := h.fr.size
  have s1 : (W.alloc o).heap.size = W.heap.size + 1 := by simp
  have hlu := heap_lt h.blk
  have hub : some ub ≠ vm.ownBlock := fun e => by have := (h.om.lt ub e.symm).1; omega
  refine ⟨?_, ?_, ho.set hu _, ?_, ?_⟩
  · have q : w'.heap[ub]? = some (.cells #[vg, vn, vp, vm, .int .i64 U.pref, .int .i64 U.med] 27 (0, 0)) := by
      rw [hg.block ub (by omega) hub, Below.heap_alloc _ _ _ hlu]; exact h.blk
    rw [heap_set q]; rfl
  · refine OwnI.set ?_ hu _
    exact owns_of h.op (fun k e => by
      rw [hg.block k (by have := (h.op.lt k e).2; omega) (fun e2 => h.ap k e e2.symm), Below.heap_alloc _ _ _ (h.op.lt k e).2])
  · intro k h1 h2
    rcases hat with e | e
    · rw [e] at h2; exact h.ap k h1 h2
    · rw [e] at h2
      have e2 : (W.alloc o).heap.size = k := by simpa using h2
      have := (h.op.lt k h1).2
      omega
  · exact ((h.fr.alloc o).grown hg (fun k hk => Or.inr (h.om.lt k hk).1)).setCell (Or.inl rfl) _
theorem words_get : ∀ (k : Nat) {t : List Int}, 2 * k + 1 < t.length → ∃ h : k < (words t).length, (words t)[k] = valB ((t.drop (2 * k)).take 2) := by
  intro k
  induction k with
  | zero =>
    intro t h
    match t, h with
    | x :: y :: t, _ => exact ⟨by simp [words], by simp [words, valB]⟩
  | succ k ih =>
    intro t h
    match t, h with
    | x :: y :: t, h =>
      obtain ⟨h1, h2⟩ := ih (t := t) (by simp at h; omega)
      refine ⟨by simp [words]; omega, ?_⟩
      simp only [words, List.getElem_cons_succ, h2]
      rw [show 2 * (k + 1) = 2 * k + 1 + 1 by omega]
      rfl
theorem BytesAt.keptF {w0 W : World} {ub : Nat} {v : Value} {l : List Int} {O : Nat → Prop} (h : BytesAt w0 v l) (hv : l = [] ∨ v.ownBlock ≠ some ub) (hf : Fr (· = ub) w0 O W) : BytesAt W v l := by
  obtain ⟨p, c, rfl, hcap, hl, hin, hr⟩ := h
  refine ⟨p, c, rfl, hcap, hl, hin, ?_⟩
  rcases hr with h | ⟨b, o, rfl, hb, hc⟩
  · exact Or.inl h
  · refine Or.inr ⟨b, o, rfl, Nat.lt_of_lt_of_le hb hf.size, fun j hj => ?_⟩
    have hv2 : (Value.slice (some ⟨b, o, none⟩) l.length c).ownBlock ≠ some ub := hv.elim (fun e => by rw [e] at hj; simp at hj) id
    rw [World.cell?_of_block (w := w0) (a := ⟨b, o + j, none⟩) (hf.block b hb (fun e => hv2 (by rw [← e]; rfl)))]; exact hc j hj

set_option maxRecDepth 100000 in
set_option maxHeartbeats 3200000 in
theorem into_w45 (f n : Int) (v : Value) (l : List Int) (w0 W : World) (ub : Nat) (qg qn : Option Addr) (ng nn cg cn : Nat) (U : Msg) (hn : n = 4 ∨ n = 5) (hu : ub < w0.heap.size) (hB : BoxU w0 W ub (.slice qg ng cg) (.slice qn nn cn) U) (hv : BytesAt w0 v l) (hvu : l = [] ∨ v.ownBlock ≠ some ub) (hl : l.length ≤ 255) :
    Calls Tryz.prog 83 #[.agg #[.int .i64 f, .int .i64 n, v], .pointer (some ⟨ub, 0, none⟩)] W (PutC w0 W ub (.slice qg ng cg) (.slice qn nn cn) (into U n l)) := by
  have HV := hide (hv.keptF hvu hB.fr)
  obtain ⟨p, c, rfl, -⟩ := hv
  obtain ⟨vp, vm, hbv⟩ := hB.rows
  have hlu : ub < W.heap.size := heap_lt hbv.blk
  obtain ⟨WA, hWA⟩ : ∃ WA, W.alloc (.cells #[.int .i64 f, .int .i64 n, .slice p l.length c] 162) = WA := ⟨_, rfl⟩
  have QA := heap_alloc_new W (.cells #[.int .i64 f, .int .i64 n, .slice p l.length c] 162)
  have bA := (Below.refl W.heap.size W).alloc (Nat.le_refl _) (.cells #[.int .i64 f, .int .i64 n, .slice p l.length c] 162)
  rw [hWA] at bA QA
  have BA := hide bA
  have HWA := hide hWA
  have HBA := hide (hB.next bA)
  have HVA := hide ((unhide HV).below bA)
  have hb2 := (bA.block _ hlu).trans hbv.blk
  have a1 : WA.cell? ⟨W.heap.size, 1, none⟩ = some (.int .i64 n) := cell_of_heap QA
  have u4 : WA.cell? ⟨ub, 4, none⟩ = some (.int .i64 U.pref) := cell_of_heap hb2
  have u5 : WA.cell? ⟨ub, 5, none⟩ = some (.int .i64 U.med) := cell_of_heap hb2
  have fz : ∀ o, WA.frozen? ⟨ub, o, none⟩ = false := fun o => frozen_of_heap hb2
  clear hWA bA hb2 hbv QA hB
  rcases hn with rfl | rfl
  · go_enter Tryz.func83, Tryz.ntmps83
    go_wp2_with fail
    rw [unhide HWA]
    refine (value_w l _ _ (unhide HVA) (by omega)).mono ?_
    rintro e w1 ⟨r, rfl, hr, rfl⟩
    have HN := hide ((unhide HBA).med hu (x := r))
    have HFR := hide ((Fr.of_below (O := (· = ub)) (unhide BA)).setCell (p := ⟨ub, 5, none⟩) (Or.inl rfl) (.int .i64 r))
    have HR := hide hr
    clear hr
    by_cases h4 : l.length = 4
    · have e := unhide HR (by omega)
      have HI := hide (show into U 4 l = if (decide (0 < r)) = true then some { U with med := r } else none from by
        unfold into; rw [if_neg (by omega), if_neg (by omega), if_pos rfl, e]
        by_cases hp : 0 < valB l
        · rw [if_pos ⟨h4, hp⟩]; simp [hp]
        · rw [if_neg (fun h => hp h.2)]; simp [hp])
      have h4' : ((l.length : Int) == 4) = true := by rw [h4]; rfl
      clear e HR
      go_wp2
      go_ret
      exact PutC.of (ok := decide (0 < r)) (unhide HI) (unhide HFR) (unhide HN)
    · have HI := hide (show into U 4 l = none from by unfold into; rw [if_neg (by omega), if_neg (by omega), if_pos rfl, if_neg (fun h => h4 h.1)])
      have h4' : ((l.length : Int) == 4) = false := by rw [beq_eq_false_iff_ne]; omega
      clear HR
      go_wp2
      go_ret
      exact PutC.of (ok := false) (U := { U with med := r }) (by rw [unhide HI]; rfl) (unhide HFR) (unhide HN)
  · go_enter Tryz.func83, Tryz.ntmps83
    go_wp2_with fail
    rw [unhide HWA]
    refine (value_w l _ _ (unhide HVA) (by omega)).mono ?_
    rintro e w1 ⟨r, rfl, hr, rfl⟩
    have HN := hide ((unhide HBA).pref hu (x := r))
    have HFR := hide ((Fr.of_below (O := (· = ub)) (unhide BA)).setCell (p := ⟨ub, 4, none⟩) (Or.inl rfl) (.int .i64 r))
    have HR := hide hr
    clear hr
    by_cases h4 : l.length = 4
    · have e := unhide HR (by omega)
      have HI := hide (show into U 5 l = some { U with pref := r } from by
        unfold into; rw [if_neg (by omega), if_neg (by omega), if_neg (by omega), e, if_pos h4])
      have h4' : ((l.length : Int) == 4) = true := by rw [h4]; rfl
      clear e HR
      go_wp2
      go_ret
      exact PutC.of (ok := true) (by rw [unhide HI]; rfl) (unhide HFR) (unhide HN)
    · have HI := hide (show into U 5 l = none from by unfold into; rw [if_neg (by omega), if_neg (by omega), if_neg (by omega), if_neg h4])
      have h4' : ((l.length : Int) == 4) = false := by rw [beq_eq_false_iff_ne]; omega
      clear HR
      go_wp2
      go_ret
      exact PutC.of (ok := false) (U := { U with pref := r }) (by rw [unhide HI]; rfl) (unhide HFR) (unhide HN)

/-- what into gives -/
def PutD (w0 : World) (ub : Nat) (vg vn : Value) (r : Option Msg) (e : Ending) (W' : World) : Prop :=
  ∃ ok : Bool, e = .returned (.bool ok) ∧ Fr (· = ub) w0 (· = ub) W' ∧ match r with | none => ok = false | some U => ok = true ∧ BoxU w0 W' ub vg vn U
theorem PutD.no {w0 W' : World} {ub : Nat} {vg vn : Value} {r : Option Msg} (h : r = none) (hf : Fr (· = ub) w0 (· = ub) W') : PutD w0 ub vg vn r (.returned (.bool false)) W' := ⟨false, rfl, hf, by rw [h]⟩
theorem PutD.yes {w0 W' : World} {ub : Nat} {vg vn : Value} {r : Option Msg} {U : Msg} (h : r = some U) (hb : BoxU w0 W' ub vg vn U) : PutD w0 ub vg vn r (.returned (.bool true)) W' := ⟨true, rfl, hb.fr, by rw [h]; exact ⟨rfl, hb⟩⟩
theorem PutC.toD {w0 W W' : World} {ub : Nat} {vg vn : Value} {r : Option Msg} {e : Ending} (h : PutC w0 W ub vg vn r e W') (hf : Fr (· = ub) w0 (· = ub) W) : PutD w0 ub vg vn r e W' := by
  obtain ⟨ok, h1, h2, h3⟩ := h
  exact ⟨ok, h1, hf.trans h2, h3⟩
theorem words_val {t : List Int} (hb : bytesOk t) {k : Nat} (hk : 2 * k + 1 < t.length) : 0 ≤ valB ((t.drop (2 * k)).take 2) ∧ valB ((t.drop (2 * k)).take 2) ≤ 65535 := by
  have h := val2_bd (bytesOk_take (bytesOk_drop hb (2 * k)) 2) (by rw [List.length_take, List.length_drop]; omega)
  exact ⟨h.1, by omega⟩
theorem pathR_short {l : List Int} (h : l ≠ []) (h4 : l.length < 4) : pathR l = none := by
  match l, h, h4 with
  | [x], _, _ => rfl
  | [x, y], _, _ =>
    simp only [pathR]
    rw [if_neg]
    rintro ⟨_, h1, _, h2, _⟩
    simp only [List.length_nil] at h2
    omega
  | [x, y, z], _, _ =>
    simp only [pathR]
    rw [if_neg]
    rintro ⟨_, h1, _, h2, _⟩
    simp only [List.length_cons, List.length_nil] at h2
    omega

set_option maxRecDepth 100000 in
set_option maxHeartbeats 6400000 in
theorem into_w2 (f : Int) (v : Value) (l : List Int) (w0 W : World) (ub : Nat) (qg qn : Option Addr) (ng nn cg cn : Nat) (U : Msg) (hu : ub < w0.heap.size) (hB : BoxU w0 W ub (.slice qg ng cg) (.slice qn nn cn) U) (hUp : U.path = []) (hv : BytesAt w0 v l) (hvu : l = [] ∨ v.ownBlock ≠ some ub) (hl : l.length ≤ 255) :
    Calls Tryz.prog 83 #[.agg #[.int .i64 f, .int .i64 2, v], .pointer (some ⟨ub, 0, none⟩)] W (PutD w0 ub (.slice qg ng cg) (.slice qn nn cn) (into U 2 l)) := by
  obtain ⟨i0, hi0, hz0, hz1, hz2⟩ := info_parts Tryz.infoInt
  have HV := hide hv
  have HVU := hide hvu
  obtain ⟨p, c, rfl, hcap, -, hok, hr⟩ := hv
  have HOK := hide hok
  have HR := hide hr
  obtain ⟨vp, vm, hbv⟩ := hB.rows
  have hlu : ub < W.heap.size := heap_lt hbv.blk
  obtain ⟨WA, hWA⟩ : ∃ WA, W.alloc (.cells #[.int .i64 f, .int .i64 2, .slice p l.length c] 162) = WA := ⟨_, rfl⟩
  have bA := (Below.refl W.heap.size W).alloc (Nat.le_refl _) (.cells #[.int .i64 f, .int .i64 2, .slice p l.length c] 162)
  rw [hWA] at bA
  have HWA := hide hWA
  have HBA := hide (hbv.next bA)
  have HUP := hide hUp
  clear hWA bA hbv hB hUp hr hok
  by_cases hnil : l = []
  · subst hnil
    have HI := hide (show into U 2 [] = some U from by
      unfold into; rw [if_pos rfl]
      simp only [pathR, Option.map_some, Option.some.injEq]
      rw [← unhide HUP])
    go_enter Tryz.func83, Tryz.ntmps83
    go_wp2
    go_ret
    rw [show W.alloc (.cells #[.int .i64 f, .int .i64 2, .slice p 0 c] 162) = WA from unhide HWA]
    exact PutD.yes (unhide HI) (unhide HBA).box
  rcases unhide HR with h | ⟨b, o, rfl, hb, hc⟩
  · exact absurd h.1 hnil
  have hbu : b ≠ ub := fun e => (unhide HVU).elim hnil (fun h => h (by rw [← e]; rfl))
  by_cases h4 : l.length < 4
  · have HI := hide (show into U 2 l = none from by
      unfold into; rw [if_pos rfl, pathR_short hnil h4]; rfl)
    have h0 : ((l.length : Int) == 0) = false := by rw [beq_eq_false_iff_ne]; have := List.length_pos_iff.2 hnil; omega
    go_enter Tryz.func83, Tryz.ntmps83
    go_wp2
    go_ret
    rw [unhide HWA]
    exact PutD.no (unhide HI) (unhide HBA).fr
  · obtain ⟨x, y, t, hxy⟩ := two_of (l := l) (by omega)
    subst hxy
    have c0 := hc 0 (by simp)
    have c1 := hc 1 (by simp)
    simp only [List.getElem_cons_zero, List.getElem_cons_succ, Nat.add_zero] at c0 c1
    obtain ⟨⟨x0, x1⟩, hby⟩ := bytesOk_cons.1 (unhide HOK)
    obtain ⟨⟨y0, y1⟩, hbt⟩ := bytesOk_cons.1 hby
    have HBT := hide hbt
    have HC := hide (show CellsB w0 b o (x :: y :: t) from ⟨hb, hc⟩)
    obtain ⟨n, hn⟩ : ∃ n, t.length = n := ⟨_, rfl⟩
    have HN := hide hn
    have hlen : (x :: y :: t).length = n + 2 := by simp [hn]
    rw [hlen] at h4 hl hcap HWA ⊢
    have kA := (unhide HBA).fr.block b hb hbu
    have d0 := (World.cell?_of_block (w := w0) (a := ⟨b, o, none⟩) kA).trans c0
    have d1 := (World.cell?_of_block (w := w0) (a := ⟨b, o + 1, none⟩) kA).trans c1
    clear c0 c1 hc kA hn hby hbt hnil hlen HR HV HVU hvu
    have hn4 : ¬ ((n : Int) + 2 < 4) := by omega
    by_cases hx : x = 2
    · subst hx
      by_cases hy : (n : Int) = 2 * y
      · by_cases h12 : 12 < y
        · have HI := hide (show into U 2 (2 :: y :: t) = none from by
            unfold into; rw [if_pos rfl]; simp only [pathR]; rw [if_neg (fun h => by have := h.2.2.1; omega)]; rfl)
          have e2 : ((n : Int) + 2 != 2 + 2 * y) = false := by rw [hy]; simp [Int.add_comm]
          have HY := hide hy
          clear hy
          go_enter Tryz.func83, Tryz.ntmps83
          go_upto_region 6 with fail
          rw [unhide HWA]
          go_wp2
          go_ret
          exact PutD.no (unhide HI) (unhide HBA).fr
        · have HWL := hide (words_len (unhide HBT) (by rw [unhide HN]; omega)).1
          have hwl : (words t).length = n / 2 := by rw [unhide HWL, unhide HN]
          have HWN := hide hwl
          have HB0 : Hid (BoxV w0 WA ub (.slice qg ng cg) (.slice qn nn cn) vp vm { U with path := (words t).take 0 }) := by
            have := unhide HBA
            have e : { U with path := (words t).take 0 } = U := by
              have h := unhide HUP
              cases U
              simp only at h
              subst h
              rfl
            unfold Hid
            rw [e]; exact this
          have e2 : ((n : Int) + 2 != 2 + 2 * y) = false := by rw [hy]; simp [Int.add_comm]
          have HY := hide hy
          clear hy hwl
          go_enter Tryz.func83, Tryz.ntmps83
          go_upto_region 6 with fail
          rw [unhide HWA]
          go_wp2_with fail
          clear d0 d1 e2
          go_loopw [6] (fun i wr => ∃ (k : Nat) (vp vm : Value), 2 * k ≤ n ∧ i = .int .i64 (2 + 2 * (k : Int)) ∧ BoxV w0 wr ub (.slice qg ng cg) (.slice qn nn cn) vp vm { U with path := (words t).take k } ∧ (∀ s ∈ (words t).take k, s ≠ 0)) (fun i _ => n + 2 - (intOf i).toNat)
          case atStart => exact ⟨0, vp, vm, by omega, rfl, unhide HB0, by simp⟩
          case round =>
            rename World => WR
            obtain ⟨k, vp, vm, hk, rfl, hbv, hnz⟩ := hrel
            have BV := hide hbv
            have NZ := hide hnz
            clear hbv hnz
            by_cases hlt : 2 * k < n
            · have hev : 2 * k + 1 < n := by have := unhide HY; omega
              obtain ⟨hkw, hval⟩ := words_get k (t := t) (by rw [unhide HN]; exact hev)
              have hwv := words_val (unhide HBT) (k := k) (by rw [unhide HN]; exact hev)
              have hic : 2 + 2 * k < c := by omega
              have HSL := hide (show BytesAt WR (.slice (some ⟨b, o + (2 + 2 * k), none⟩) 2 (c - (2 + 2 * k))) ((t.drop (2 * k)).take 2) from by
                have e1 : ((2 :: y :: t).drop (2 + 2 * k)).take 2 = (t.drop (2 * k)).take 2 := by
                  rw [show 2 + 2 * k = 2 * k + 1 + 1 by omega]; rfl
                have h1 := ((unhide HC).drop (2 + 2 * k)).take 2
                rw [e1] at h1
                refine (h1.at_ (n := 2) (c := c - (2 + 2 * k)) ?_ (by omega) (bytesOk_take (bytesOk_drop (unhide HBT) _) 2) (by omega)).keptF (Or.inr (by intro e; exact hbu (by simpa [Value.ownBlock] using e))) (unhide BV).fr
                rw [List.length_take, List.length_drop, unhide HN]; omega)
              have hlen2 : ((t.drop (2 * k)).take 2).length ≤ 4 := by rw [List.length_take]; omega
              have HL2 := hide hlen2
              rw [← hval] at hwv
              have HVAL := hide hval
              clear hval hlen2
              go_wp2_with fail
              refine (value_w _ _ WR (unhide HSL) (by have := unhide HL2; omega)).mono ?_
              rintro e w1 ⟨r, rfl, hr, rfl⟩
              have hrX : r = (words t)[k] := by rw [unhide HVAL]; exact hr (unhide HL2)
              subst hrX
              obtain ⟨X, hX⟩ : ∃ X, (words t)[k] = X := ⟨_, rfl⟩
              rw [hX] at hwv ⊢
              have HX := hide hX
              obtain ⟨X0, X1⟩ := hwv
              clear hr hX
              by_cases hz : X = 0
              · have HI := hide (show into U 2 (2 :: y :: t) = none from by
                  unfold into; rw [if_pos rfl]; simp only [pathR]; rw [if_neg (fun h => h.2.2.2.2 _ (List.getElem_mem hkw) (by rw [unhide HX]; exact hz))]; rfl)
                subst hz
                go_wp2
                go_ret
                exact PutD.no (unhide HI) (unhide BV).fr
              · have hz' : (X == 0) = false := beq_eq_false_iff_ne.2 hz
                have hlp : ((words t).take k).length = k := by rw [List.length_take, unhide HWN]; omega
                have HLP := hide hlp
                have OP := hide (show w1.ownsRow w0.heap.size 3 1 vp k (((words t).take k).map (Value.int .i64)) from by have := (unhide BV).op; unfold OwnI at this; simp only at this; rwa [hlp] at this)
                obtain ⟨qp, cp, hvp⟩ := own_slice (unhide OP)
                subst hvp
                have u2 : w1.cell? ⟨ub, 2, none⟩ = some (.slice qp k cp) := cell_of_heap (unhide BV).blk
                have hlu1 : ub < w1.heap.size := heap_lt (unhide BV).blk
                have hs1 := (unhide BV).fr.size
                have QU := hide (unhide BV).blk
                have une := hide (show some ub ≠ (Value.slice qp k cp).ownBlock from fun e => by have := ((unhide OP).lt ub e.symm).1; omega)
                have HTK := hide (show (words t).take (k + 1) = (words t).take k ++ [X] from by rw [List.take_succ_eq_append_getElem hkw, unhide HX])
                have HZ := hide hz
                clear hlp hz
                go_wp2_with (at_builtin; refine wpList_append_reads rfl _ _ _ rfl w0.heap.size 3 i0 _ 1 8 Tryz.underlying25 hi0 hz0 hz1 hz2 rfl (by omega) (.slice qp k cp) k (((words t).take k).map (Value.int .i64)) rfl (World.ownsRow.alloc (unhide OP) _) (.slice (some ⟨w1.heap.size, 0, none⟩) 1 1) 1 [.int .i64 X] rfl (Or.inr ⟨_, _, rfl, World.news_of_block (heap_alloc_new _ _)⟩) rfl (by simp [Value.oneCell']) (by simp only [maxLen]; omega) (by omega) (by simp; omega) ?_; intro v' w' hown hgrow hat; have qu : w'.heap[ub]? = some (.cells #[.slice qg ng cg, .slice qn nn cn, .slice qp k cp, vm, .int .i64 U.pref, .int .i64 U.med] 27 (0, 0)) := ((hgrow.block ub (by simp; omega) (unhide une)).trans ((Below.heap_alloc _ _ _ hlu1).trans (unhide QU))); have u2' : w'.cell? ⟨ub, 2, none⟩ = some (.slice qp k cp) := (cell_of_heap qu); have z2 : w'.frozen? ⟨ub, 2, none⟩ = false := (frozen_of_heap qu); obtain ⟨q', c', hv'⟩ := own_slice hown; subst hv'; clear qu)
                have O1 : OwnI w' w0.heap.size (.slice q' (k + 1) c') ((words t).take (k + 1)) := by
                  unfold OwnI
                  rw [unhide HTK, List.length_append, unhide HLP, List.map_append]; exact hown
                refine ⟨⟨k + 1, _, vm, by omega, by rw [show (2 : Int) + 2 * ((k + 1 : Nat) : Int) = 2 + 2 * (k : Int) + 2 by omega], (unhide BV).growP hu O1 hgrow hat, ?_⟩, by simp [intOf]; omega⟩
                intro s hs
                rw [unhide HTK, List.mem_append, List.mem_singleton] at hs
                rcases hs with hs | rfl
                · exact unhide NZ s hs
                · exact unhide HZ
            · have hkk : (words t).take k = words t := List.take_of_length_le (by rw [unhide HWN]; omega)
              have HI := hide (show into U 2 (2 :: y :: t) = some { U with path := (words t).take k } from by
                have h1 := unhide NZ
                rw [hkk] at h1
                unfold into; rw [if_pos rfl]; simp only [pathR]
                rw [if_pos ⟨trivial, by have := unhide HY; omega, by omega, by rw [unhide HN]; exact unhide HY, h1⟩, hkk]; rfl)
              clear hkk
              go_wp2
              go_ret
              exact PutD.yes (unhide HI) (unhide BV).box
      · have HI := hide (show into U 2 (2 :: y :: t) = none from by
          unfold into; rw [if_pos rfl]; simp only [pathR]; rw [if_neg (fun h => hy (by have := h.2.2.2.1; rw [unhide HN] at this; exact this))]; rfl)
        have e2 : ((n : Int) + 2 != 2 + 2 * y) = true := by rw [bne_iff_ne]; omega
        go_enter Tryz.func83, Tryz.ntmps83
        go_upto_region 6 with fail
        rw [unhide HWA]
        go_wp2
        go_ret
        exact PutD.no (unhide HI) (unhide HBA).fr
    · have HI := hide (show into U 2 (x :: y :: t) = none from by
        unfold into; rw [if_pos rfl]; simp only [pathR]; rw [if_neg (fun h => hx h.1)]; rfl)
      have hx' : (x != 2) = true := by rw [bne_iff_ne]; exact hx
      go_enter Tryz.func83, Tryz.ntmps83
      go_upto_region 6 with fail
      rw [unhide HWA]
      go_wp2
      go_ret
      exact PutD.no (unhide HI) (unhide HBA).fr

set_option maxRecDepth 100000 in
set_option maxHeartbeats 6400000 in
theorem into_w8 (f : Int) (v : Value) (l : List Int) (w0 W : World) (ub : Nat) (qg qn : Option Addr) (ng nn cg cn : Nat) (U : Msg) (hu : ub < w0.heap.size) (hB : BoxU w0 W ub (.slice qg ng cg) (.slice qn nn cn) U) (hUm : U.marks = []) (hv : BytesAt w0 v l) (hvu : l = [] ∨ v.ownBlock ≠ some ub) (hl : l.length ≤ 255) :
    Calls Tryz.prog 83 #[.agg #[.int .i64 f, .int .i64 8, v], .pointer (some ⟨ub, 0, none⟩)] W (PutD w0 ub (.slice qg ng cg) (.slice qn nn cn) (into U 8 l)) := by
  obtain ⟨i0, hi0, hz0, hz1, hz2⟩ := info_parts Tryz.infoInt
  have HVU := hide hvu
  obtain ⟨p, c, rfl, hcap, -, hok, hr⟩ := hv
  have HOK := hide hok
  have HR := hide hr
  obtain ⟨vp, vm, hbv⟩ := hB.rows
  obtain ⟨WA, hWA⟩ : ∃ WA, W.alloc (.cells #[.int .i64 f, .int .i64 8, .slice p l.length c] 162) = WA := ⟨_, rfl⟩
  have bA := (Below.refl W.heap.size W).alloc (Nat.le_refl _) (.cells #[.int .i64 f, .int .i64 8, .slice p l.length c] 162)
  rw [hWA] at bA
  have HWA := hide hWA
  have HBA := hide (hbv.next bA)
  have HUM := hide hUm
  obtain ⟨n, hn⟩ : ∃ n, l.length = n := ⟨_, rfl⟩
  rw [hn] at hcap hl HWA HVU ⊢
  have HN := hide hn
  clear hWA bA hbv hB hUm hr hok hn hvu
  by_cases hg : n = 0 ∨ n % 2 ≠ 0 ∨ 16 < n
  · have HI := hide (show into U 8 l = none from by
      unfold into; rw [if_neg (by omega), if_pos rfl]; unfold marksR
      rw [if_neg]
      · rfl
      · rintro ⟨h1, h2, h3, _⟩
        have h4 := List.length_pos_iff.2 h1
        rw [unhide HN] at h2 h3 h4
        omega)
    by_cases g0 : n = 0
    · subst g0
      clear hg
      go_enter Tryz.func83, Tryz.ntmps83
      go_wp2
      go_ret
      rw [unhide HWA]
      exact PutD.no (unhide HI) (unhide HBA).fr
    · have e0 : ((n : Int) == 0) = false := by rw [beq_eq_false_iff_ne]; omega
      by_cases g1 : n % 2 = 0
      · have e1 : ((n : Int) % 2 != 0) = false := by simp; omega
        have e2 : (16 : Int) < n := by omega
        clear hg g1 g0
        go_enter Tryz.func83, Tryz.ntmps83
        go_wp2
        go_ret
        rw [unhide HWA]
        exact PutD.no (unhide HI) (unhide HBA).fr
      · have e1 : ((n : Int) % 2 != 0) = true := by rw [bne_iff_ne]; omega
        clear hg g1 g0
        go_enter Tryz.func83, Tryz.ntmps83
        go_wp2
        go_ret
        rw [unhide HWA]
        exact PutD.no (unhide HI) (unhide HBA).fr
  · have hn0 : 0 < n := by omega
    have hn2 : n % 2 = 0 := by omega
    have hn16 : n ≤ 16 := by omega
    have e0 : ((n : Int) == 0) = false := by rw [beq_eq_false_iff_ne]; omega
    have e1 : ((n : Int) % 2 != 0) = false := by simp; omega
    have e2 : ¬ (16 : Int) < n := by omega
    rcases unhide HR with h | ⟨b, o, rfl, hb, hc⟩
    · exfalso; have := unhide HN; rw [h.1] at this; simp at this; omega
    have hbu : b ≠ ub := fun e => (unhide HVU).elim (fun h => by have := unhide HN; rw [h] at this; simp at this; omega) (fun h => h (by rw [← e]; rfl))
    have HC := hide (show CellsB w0 b o l from ⟨hb, hc⟩)
    have HWN := hide (show (words l).length = n / 2 from by rw [(words_len (unhide HOK) (by rw [unhide HN]; exact hn2)).1, unhide HN])
    have HB0 : Hid (BoxV w0 WA ub (.slice qg ng cg) (.slice qn nn cn) vp vm { U with marks := (words l).take 0 }) := by
      have := unhide HBA
      have e : { U with marks := (words l).take 0 } = U := by
        have h := unhide HUM
        cases U
        simp only at h
        subst h
        rfl
      unfold Hid
      rw [e]; exact this
    have HY := hide hn2
    clear hc hg hn2 HR HVU
    go_enter Tryz.func83, Tryz.ntmps83
    go_upto_region 17 with fail
    rw [unhide HWA]
    go_wp2_with fail
    clear e1
    go_loopw [8] (fun i wr => ∃ (k : Nat) (vp vm : Value), 2 * k ≤ n ∧ i = .int .i64 (2 * (k : Int)) ∧ BoxV w0 wr ub (.slice qg ng cg) (.slice qn nn cn) vp vm { U with marks := (words l).take k } ∧ rises 0 ((words l).take k)) (fun i _ => n - (intOf i).toNat)
    case atStart => exact ⟨0, vp, vm, by omega, rfl, unhide HB0, rises_nil _⟩
    case round =>
      rename World => WR
      obtain ⟨k, vp, vm, hk, rfl, hbv, hris⟩ := hrel
      have BV := hide hbv
      have RI := hide hris
      clear hbv hris
      by_cases hlt : 2 * k < n
      · have hev : 2 * k + 1 < n := by have := unhide HY; omega
        obtain ⟨hkw, hval⟩ := words_get k (t := l) (by rw [unhide HN]; exact hev)
        have hwv := words_val (unhide HOK) (k := k) (by rw [unhide HN]; exact hev)
        have hic : 2 * k < c := by omega
        have HSL := hide (show BytesAt WR (.slice (some ⟨b, o + 2 * k, none⟩) 2 (c - 2 * k)) ((l.drop (2 * k)).take 2) from by
          have h1 := ((unhide HC).drop (2 * k)).take 2
          refine (h1.at_ (n := 2) (c := c - 2 * k) ?_ (by omega) (bytesOk_take (bytesOk_drop (unhide HOK) _) 2) (by omega)).keptF (Or.inr (by intro e; exact hbu (by simpa [Value.ownBlock] using e))) (unhide BV).fr
          rw [List.length_take, List.length_drop, unhide HN]; omega)
        have HL2 := hide (show ((l.drop (2 * k)).take 2).length ≤ 4 from by rw [List.length_take]; omega)
        rw [← hval] at hwv
        have HVAL := hide hval
        have HST := hide (rises_step hkw)
        clear hval
        go_wp2_with fail
        refine (value_w _ _ WR (unhide HSL) (by have := unhide HL2; omega)).mono ?_
        rintro e w1 ⟨r, rfl, hr, rfl⟩
        have hrX : r = (words l)[k] := by rw [unhide HVAL]; exact hr (unhide HL2)
        subst hrX
        obtain ⟨X, hX⟩ : ∃ X, (words l)[k] = X := ⟨_, rfl⟩
        rw [hX] at hwv ⊢
        have HX := hide hX
        obtain ⟨X0, X1⟩ := hwv
        clear hr hX
        have hlp : ((words l).take k).length = k := by rw [List.length_take, unhide HWN]; omega
        have HLP := hide hlp
        have OM := hide (show w1.ownsRow w0.heap.size 3 1 vm k (((words l).take k).map (Value.int .i64)) from by have := (unhide BV).om; unfold OwnI at this; simp only at this; rwa [hlp] at this)
        obtain ⟨qm, cm, hvm⟩ := own_slice (unhide OM)
        subst hvm
        have u3 : w1.cell? ⟨ub, 3, none⟩ = some (.slice qm k cm) := cell_of_heap (unhide BV).blk
        have hlu1 : ub < w1.heap.size := heap_lt (unhide BV).blk
        have hs1 := (unhide BV).fr.size
        have QU := hide (unhide BV).blk
        have une := hide (show some ub ≠ (Value.slice qm k cm).ownBlock from fun e => by have := ((unhide OM).lt ub e.symm).1; omega)
        have HTK := hide (show (words l).take (k + 1) = (words l).take k ++ [X] from by rw [List.take_succ_eq_append_getElem hkw, unhide HX])
        clear hlp
        go_upto_region 23 with fail
        go_cut [116] (fun c116 wc => c116 = .bool (decide (¬ rises 0 ((words l).take (k + 1)))) ∧ ∃ j, wc = w1.drewN j)
        case first =>
          by_cases hk0 : k = 0
          · subst hk0
            go_quiet ((fail))
            go_wp2
            go_meet
            refine ⟨?_, nq, rfl⟩
            rw [decide_eq_false]
            exact fun h => h ((unhide HST).2 ⟨unhide RI, by unfold markStep; rw [unhide HX]; exact ⟨X0, X1, fun h => by omega⟩⟩)
          · obtain ⟨gm, hqm⟩ := own_q (unhide OM) (by omega)
            subst hqm
            have hk1 : k - 1 < (words l).length := by omega
            have hY : w1.cell? ⟨gm, k - 1, none⟩ = some (.int .i64 (words l)[k - 1]) := by
              have := (unhide OM).cells (g := gm) rfl (k - 1) (.int .i64 (words l)[k - 1]) (by
                rw [List.getElem?_map, List.getElem?_take_of_lt (by omega), List.getElem?_eq_getElem hk1]; rfl)
              rwa [addr_add] at this
            obtain ⟨Y, hYe⟩ : ∃ Y, (words l)[k - 1] = Y := ⟨_, rfl⟩
            rw [hYe] at hY
            have HYE := hide hYe
            have hkp : 0 < k := by omega
            have hg0 : (0 : Int) < 2 * (k : Int) := by omega
            clear hYe
            by_cases hXY : X ≤ Y
            · go_quiet ((fail))
              go_wp2
              go_meet
              refine ⟨?_, nq, rfl⟩
              rw [decide_eq_true]
              intro h
              have h2 := ((unhide HST).1 h).2
              unfold markStep at h2
              have h3 := h2.2.2 hkp
              rw [unhide HX, unhide HYE] at h3
              omega
            · go_quiet ((fail))
              go_wp2
              go_meet
              refine ⟨?_, nq, rfl⟩
              rw [decide_eq_false]
              exact fun h => h ((unhide HST).2 ⟨unhide RI, by unfold markStep; rw [unhide HX]; exact ⟨X0, X1, fun _ => by rw [unhide HYE]; omega⟩⟩)
        case rest =>
          obtain ⟨hc116, j, hwc⟩ := hcut
          have BV2 := hide (show BoxV w0 wc ub (.slice qg ng cg) (.slice qn nn cn) vp (.slice qm k cm) { U with marks := (words l).take k } from by rw [hwc]; exact (unhide BV).next (below_drewN (Below.refl _ _) _))
          have OM2 := hide (show wc.ownsRow w0.heap.size 3 1 (.slice qm k cm) k (((words l).take k).map (Value.int .i64)) from by have := (unhide BV2).om; unfold OwnI at this; simp only at this; rwa [unhide HLP] at this)
          have HC116 := hide hc116
          clear hwc u3 hlu1 hs1 QU OM BV hc116
          have u3 : wc.cell? ⟨ub, 3, none⟩ = some (.slice qm k cm) := cell_of_heap (unhide BV2).blk
          have hlu1 : ub < wc.heap.size := heap_lt (unhide BV2).blk
          have hs1 := (unhide BV2).fr.size
          have QU := hide (unhide BV2).blk
          by_cases hri : rises 0 ((words l).take (k + 1))
          · rw [unhide HC116, decide_eq_false (fun h => h hri)]
            have RI2 := hide hri
            clear hri
            go_wp2_with (at_builtin; refine wpList_append_reads rfl _ _ _ rfl w0.heap.size 3 i0 _ 1 8 Tryz.underlying25 hi0 hz0 hz1 hz2 rfl (by omega) (.slice qm k cm) k (((words l).take k).map (Value.int .i64)) rfl (World.ownsRow.alloc (unhide OM2) _) (.slice (some ⟨wc.heap.size, 0, none⟩) 1 1) 1 [.int .i64 X] rfl (Or.inr ⟨_, _, rfl, World.news_of_block (heap_alloc_new _ _)⟩) rfl (by simp [Value.oneCell']) (by simp only [maxLen]; omega) (by omega) (by simp; omega) ?_; intro v' w' hown hgrow hat; have qu : w'.heap[ub]? = some (.cells #[.slice qg ng cg, .slice qn nn cn, vp, .slice qm k cm, .int .i64 U.pref, .int .i64 U.med] 27 (0, 0)) := ((hgrow.block ub (by simp; omega) (unhide une)).trans ((Below.heap_alloc _ _ _ hlu1).trans (unhide QU))); have u3' : w'.cell? ⟨ub, 3, none⟩ = some (.slice qm k cm) := (cell_of_heap qu); have z3 : w'.frozen? ⟨ub, 3, none⟩ = false := (frozen_of_heap qu); obtain ⟨q', c', hv'⟩ := own_slice hown; subst hv'; clear qu)
            have O1 : OwnI w' w0.heap.size (.slice q' (k + 1) c') ((words l).take (k + 1)) := by
              unfold OwnI
              rw [unhide HTK, List.length_append, unhide HLP, List.map_append]; exact hown
            exact ⟨⟨k + 1, vp, _, by omega, by rw [show (2 : Int) * ((k + 1 : Nat) : Int) = 2 * (k : Int) + 2 by omega], (unhide BV2).growM hu O1 hgrow hat, unhide RI2⟩, by simp [intOf]; omega⟩
          · rw [unhide HC116, decide_eq_true hri]
            have HI := hide (show into U 8 l = none from by
              unfold into; rw [if_neg (by omega), if_pos rfl]; unfold marksR
              rw [if_neg (fun h => hri (rises_take _ 0 (k + 1) h.2.2.2))]; rfl)
            clear hri
            go_wp2
            go_ret
            exact PutD.no (unhide HI) (unhide BV2).fr
      · have hkk : (words l).take k = words l := List.take_of_length_le (by rw [unhide HWN]; omega)
        have HI := hide (show into U 8 l = some { U with marks := (words l).take k } from by
          have h1 := unhide RI
          rw [hkk] at h1
          unfold into; rw [if_neg (by omega), if_pos rfl]; unfold marksR
          rw [if_pos ⟨fun e => by have := unhide HN; rw [e] at this; simp at this; omega, by rw [unhide HN]; exact unhide HY, by rw [unhide HN]; exact hn16, h1⟩, hkk]; rfl)
        clear hkk
        go_wp2
        go_ret
        exact PutD.yes (unhide HI) (unhide BV).box
end Go.Proofs.YtgngdklkoilaiaaGreatDoor
