/- The program's small functions of messages (packages messages, nets): putPair, putWord, putPairs, putCounted, Size: what each call answers; old memory stays as it is, but for the row that is grown. -/
import Derived.Test.YtgngdklkoilaiaaGreatDoorBase
import Derived.Test.YtgngdklkoilaiaaGreatDoorMem
import Derived.Deep.RegionWith
import Derived.Deep.DeepCutAuto
namespace Go.Proofs.YtgngdklkoilaiaaGreatDoor
open Go.RowKit

/-- a row of bytes grows: what is behind it, and what stays -/
structure GrowB (base : Nat) (w : World) (v : Value) (w' : World) (v' : Value) (l : List Int) : Prop where
  own : OwnB w' base v' l
  be : Below base w w'
  kept : ∀ k, k < w.heap.size → some k ≠ v.ownBlock → w'.heap[k]? = w.heap[k]?
  blk : v'.ownBlock = v.ownBlock ∨ ∀ k, v'.ownBlock = some k → w.heap.size ≤ k
theorem GrowB.refl {base : Nat} {w : World} {v : Value} {l : List Int} (h : OwnB w base v l) : GrowB base w v w v l := ⟨h, Below.refl _ _, fun _ _ _ => rfl, Or.inl rfl⟩
theorem GrowB.trans {base : Nat} {w w1 w2 : World} {v v1 v2 : Value} {l1 l2 : List Int} (h : GrowB base w v w1 v1 l1) (g : GrowB base w1 v1 w2 v2 l2) : GrowB base w v w2 v2 l2 := by
  have hs := h.be.size
  refine ⟨g.own, h.be.trans g.be, fun k hk hn => ?_, ?_⟩
  · refine (g.kept k (Nat.lt_of_lt_of_le hk hs) ?_).trans (h.kept k hk hn)
    rcases h.blk with e | e
    · rw [e]; exact hn
    · intro e2; have := e k e2.symm; omega
  · rcases g.blk with e | e
    · rcases h.blk with e2 | e2
      · exact Or.inl (e.trans e2)
      · exact Or.inr (fun k hk => e2 k (by rw [← e]; exact hk))
    · exact Or.inr (fun k hk => Nat.le_trans hs (e k hk))
/-- behind an append -/
theorem GrowB.append {base : Nat} {w w0 w' : World} {v v' : Value} {l0 l : List Int} (hb : base ≤ w.heap.size) (h0 : OwnB w base v l0) (hw : Below w.heap.size w w0) (hown : OwnB w' base v' l) (hgrow : w0.grownBy w' v.ownBlock) (hat : v'.ownBlock = v.ownBlock ∨ v'.ownBlock = some w0.heap.size) : GrowB base w v w' v' l := by
  have hs := hw.size
  refine ⟨hown, (hw.mono hb).grown hgrow (by omega) (fun k hk => (h0.lt k hk).1), fun k hk hn => (hgrow.block k (by omega) hn).trans (hw.block k hk), ?_⟩
  rcases hat with e | e
  · exact Or.inl e
  · refine Or.inr (fun k hk => ?_)
    rw [e] at hk
    have : w0.heap.size = k := by simpa using hk
    omega

set_option maxHeartbeats 400000 in
theorem Size_any (n : Int) (w : World) (h0 : 0 ≤ n) (h1 : n ≤ 255) :
    Calls Tryz.prog 179 #[.int .i64 n] w fun e w' => e = .returned (.int .i64 (takesP n)) ∧ w' = w := by
  by_cases h : 32 < n
  · have HN := hide (show ((takesP n : Nat) : Int) = 0 by unfold takesP; rw [if_pos h]; rfl)
    go_enter Tryz.func179, Tryz.ntmps179
    go_wp2
    go_ret
    exact ⟨rt_int (unhide HN).symm, rfl⟩
  · have HN := hide (show ((takesP n : Nat) : Int) = (n + 7) / 8 by unfold takesP needsP; rw [if_neg h]; omega)
    go_enter Tryz.func179, Tryz.ntmps179
    go_wp2
    go_ret
    exact ⟨rt_int (unhide HN).symm, rfl⟩

theorem twoB_mod (n : Int) : twoB (n % 65536) = twoB n := by
  unfold twoB
  rw [show n % 65536 / 256 % 256 = n / 256 % 256 by omega, show n % 65536 % 256 = n % 256 by omega]
set_option maxHeartbeats 800000 in
theorem putPair_any (base : Nat) (l : List Int) (v : Value) (n : Int) (w : World) (ho : OwnB w base v l) (hb : base ≤ w.heap.size) (_hn : inI n) (hl : l.length ≤ 1000000) :
    Calls Tryz.prog 177 #[v, .int .i64 n] w fun e w' => ∃ v', e = .returned v' ∧ GrowB base w v w' v' (l ++ twoB n) := by
  obtain ⟨i0, hi0, hz0, hz1, hz2⟩ := info_parts Tryz.infoByte
  obtain ⟨q, c, rfl⟩ := own_slice ho
  have HO := hide ho
  have R := hide (ReadsAs.own (OwnB.made (w := w) (base := base) (l := twoB n) hb (by simp [twoB])))
  unfold inI at _hn
  clear ho
  go_enter Tryz.func177, Tryz.ntmps177
  go_wp2_with (at_builtin; refine wpList_append_reads rfl _ _ _ rfl base 5 i0 _ 1 1 Tryz.underlying63 hi0 hz0 hz1 hz2 rfl (by omega) (.slice q l.length c) l.length (l.map (Value.int .u8)) rfl (World.ownsRow.alloc (unhide HO) _) (.slice (some ⟨w.heap.size, 0, none⟩) 2 2) 2 ((twoB n).map (Value.int .u8)) rfl (unhide R) rfl (one_u8 _) (by simp only [maxLen]; omega) (by omega) (by simp; omega) ?_; intro v' w' hown hgrow hat)
  go_ret
  exact ⟨_, rfl, GrowB.append hb (unhide HO) ((Below.refl _ _).alloc (Nat.le_refl _) _) (OwnB.join (a := l) (b := twoB n) rfl rfl hown) hgrow hat⟩

set_option maxHeartbeats 800000 in
theorem putWord_any (base : Nat) (l : List Int) (v : Value) (n : Int) (w : World) (ho : OwnB w base v l) (hb : base ≤ w.heap.size) (hn : inI n) (hl : l.length ≤ 900000) :
    Calls Tryz.prog 178 #[v, .int .i64 n] w fun e w' => ∃ v', e = .returned v' ∧ GrowB base w v w' v' (l ++ fourB n) := by
  have HE := hide (show l ++ fourB n = (l ++ twoB (n / 65536)) ++ twoB n from by unfold fourB; rw [twoB_mod, List.append_assoc])
  have HO := hide ho
  have h1 : inI (n / 65536) := by unfold inI at *; omega
  unfold inI at hn
  clear ho
  go_enter Tryz.func178, Tryz.ntmps178
  go_wp2_with fail
  refine (putPair_any base l v (n / 65536) w (unhide HO) hb h1 (by omega)).mono ?_
  rintro e w1 ⟨v1, rfl, g1⟩
  have G1 := hide g1
  have hs1 : base ≤ w1.heap.size := Nat.le_trans hb (by have := g1.be.size; omega)
  clear g1
  go_wp2_with fail
  refine (putPair_any base _ v1 n w1 (unhide G1).own hs1 (by unfold inI; omega) (by simp [twoB]; omega)).mono ?_
  rintro e w2 ⟨v2, rfl, g2⟩
  have G2 := hide ((unhide G1).trans g2)
  clear g2
  go_wp2
  go_ret
  exact ⟨_, rfl, by rw [unhide HE]; exact unhide G2⟩

set_option maxHeartbeats 800000 in
theorem putCounted_any (base : Nat) (l t : List Int) (v x : Value) (w : World) (ho : OwnB w base v l) (hb : base ≤ w.heap.size) (hx : ReadsAs w x t.length (t.map (Value.int .u8))) (hxo : ∀ k, x.ownBlock = some k → k < w.heap.size ∧ some k ≠ v.ownBlock) (hl : l.length ≤ 900000) (ht : t.length ≤ 900000) :
    Calls Tryz.prog 129 #[v, x] w fun e w' => ∃ v', e = .returned v' ∧ GrowB base w v w' v' (l ++ (twoB t.length ++ t)) := by
  obtain ⟨i0, hi0, hz0, hz1, hz2⟩ := info_parts Tryz.infoByte
  obtain ⟨q, c, rfl⟩ := reads_slice hx
  have HO := hide ho
  have HX := hide hx
  clear ho hx
  go_enter Tryz.func129, Tryz.ntmps129
  go_wp2_with fail
  refine (putPair_any base l v (t.length : Int) w (unhide HO) hb (by unfold inI; omega) (by omega)).mono ?_
  rintro e w1 ⟨v1, rfl, g1⟩
  have hl2 : (l ++ twoB t.length).length ≤ 900002 := by simp [twoB]; omega
  have HE := hide (List.append_assoc l (twoB t.length) t)
  revert g1 hl2 HE
  generalize l ++ twoB t.length = M
  intro g1 hl2 HE
  have G1 := hide g1
  have HX1 := hide ((unhide HX).below (w' := w1) (fun k hk => g1.kept k (hxo k hk).1 (hxo k hk).2))
  have hs1 : base ≤ w1.heap.size := Nat.le_trans hb (by have := g1.be.size; omega)
  have O1 := hide g1.own
  obtain ⟨q1, c1, rfl⟩ := own_slice g1.own
  clear g1
  go_wp2_with (at_builtin; refine wpList_append_reads rfl _ _ _ rfl base 5 i0 _ 1 1 Tryz.underlying63 hi0 hz0 hz1 hz2 rfl (by omega) (.slice q1 M.length c1) M.length (M.map (Value.int .u8)) rfl (unhide O1) (.slice q t.length c) t.length (t.map (Value.int .u8)) rfl (unhide HX1) (by simp) (one_u8 _) (by simp only [maxLen]; omega) (by omega) hs1 ?_; intro v' w' hown hgrow hat)
  go_ret
  exact ⟨_, rfl, by rw [← unhide HE]; exact (unhide G1).trans (GrowB.append hs1 (unhide O1) (Below.refl _ _) (OwnB.join (a := M) (b := t) rfl rfl hown) hgrow hat)⟩

set_option maxHeartbeats 800000 in
theorem putPairs_any (base : Nat) (l t : List Int) (v x : Value) (w : World) (ho : OwnB w base v l) (hb : base ≤ w.heap.size) (hx : IntsAt w x t) (hxo : t = [] ∨ ∀ k, x.ownBlock = some k → k < w.heap.size ∧ some k ≠ v.ownBlock) (hl : l.length ≤ 1000) (ht : t.length ≤ 100) :
    Calls Tryz.prog 182 #[v, x] w fun e w' => ∃ v', e = .returned v' ∧ GrowB base w v w' v' (l ++ wordsB t) := by
  have HX := hide hx
  have HO := hide ho
  obtain ⟨p, c, rfl, hcap, hlt0, hin, hr⟩ := hx
  have HR := hide hr
  have HIN := hide hin
  clear ho hr hin
  go_enter Tryz.func182, Tryz.ntmps182
  go_wp2
  go_loopw [0, 9] (fun v0 i wr => ∃ k : Nat, k ≤ t.length ∧ i = .int .i64 k ∧ GrowB base w v wr v0 (l ++ wordsB (t.take k))) (fun _ i _ => t.length - (intOf i).toNat)
  case atStart => exact ⟨0, Nat.zero_le _, rfl, by simpa [wordsB] using GrowB.refl (unhide HO)⟩
  case round =>
    rename World => WR
    obtain ⟨k, hk, rfl, g⟩ := hrel
    have G := hide g
    have hs1 : base ≤ WR.heap.size := Nat.le_trans hb (by have := g.be.size; omega)
    clear g
    by_cases hlt : k < t.length
    · rcases unhide HR with h | ⟨b, o, rfl, hbb, hc⟩
      · rw [h.1] at hlt; simp at hlt
      have hbk := hxo.elim (fun e => absurd hlt (by rw [e]; simp)) (fun h => h b rfl)
      have hck : WR.cell? ⟨b, o + k, none⟩ = some (.int .i64 t[k]) := (World.cell?_of_block (w := w) (a := ⟨b, o + k, none⟩) ((unhide G).kept b hbk.1 hbk.2)).trans (hc k hlt)
      have hx := unhide HIN t[k] (List.getElem_mem _)
      have hwl : (wordsB (t.take k)).length ≤ 200 := by rw [wordsB_len]; simp; omega
      have HWS := hide (wordsB_take hlt)
      clear hc
      go_wp2_with fail
      refine (putPair_any base _ _ t[k] WR (unhide G).own hs1 hx (by rw [List.length_append]; omega)).mono ?_
      rintro e w1 ⟨v1, rfl, g1⟩
      have G1 := hide ((unhide G).trans g1)
      clear g1
      go_wp2_with fail
      exact ⟨⟨k + 1, by omega, by go_num, by rw [unhide HWS, ← List.append_assoc]; exact unhide G1⟩, by simp [intOf]; omega⟩
    · have HE := hide (show t.take k = t from List.take_of_length_le (by omega))
      go_wp2
      go_ret
      exact ⟨_, rfl, by have := unhide G; rwa [unhide HE] at this⟩
end Go.Proofs.YtgngdklkoilaiaaGreatDoor

namespace Go.Proofs.YtgngdklkoilaiaaGreatDoor
open Go.RowKit

theorem putWord_nil (n : Int) (w : World) (hn : inI n) :
    Calls Tryz.prog 178 #[.slice none 0 0, .int .i64 n] w fun e w' => ∃ g c, e = .returned (.slice (some ⟨g, 0, none⟩) 4 c) ∧ 4 ≤ c ∧ g < w'.heap.size ∧ OwnB w' w.heap.size (.slice (some ⟨g, 0, none⟩) 4 c) (fourB n) ∧ Below w.heap.size w w' := by
  refine (putWord_any w.heap.size [] (.slice none 0 0) n w (World.ownsRow_nil _ _ _ _) (Nat.le_refl _) hn (by simp)).mono ?_
  rintro e w' ⟨v', rfl, g⟩
  have ho := g.own
  rw [List.nil_append] at ho
  obtain ⟨g4, c4, rfl, _, hg4⟩ := ho.form (by simp [fourB_len])
  have hc4 : 4 ≤ c4 := by
    rcases ho.2 with ⟨hh, _⟩ | ⟨g, cap, cur, hv, _, _, hn, _⟩
    · cases hh
    · cases hv; exact hn
  exact ⟨g4, c4, rfl, hc4, hg4, ho, g.be⟩
theorem Tryz.plainPutWord : PlainF Tryz.prog 178 := ⟨_, Tryz.func178, by kernel_rfl, by kernel_rfl⟩
theorem Tryz.plainSize : PlainF Tryz.prog 179 := ⟨_, Tryz.func179, by kernel_rfl, by kernel_rfl⟩
theorem takes_needs {n : Int} (h : n ≤ 32) : takesP n = needsP n := by unfold takesP; rw [if_neg (by omega)]

set_option maxRecDepth 100000 in
set_option maxHeartbeats 1600000 in
theorem putNets_any (base : Nat) (m : List Int) (l : List (Int × Int)) (v x : Value) (w : World) (ho : OwnB w base v m) (hb : base ≤ w.heap.size) (h : NetsAt w x l) (hxo : l = [] ∨ ∀ k, x.ownBlock = some k → k < w.heap.size ∧ some k ≠ v.ownBlock) (hok : ∀ y ∈ l, netOk y) (hlen : l.length ≤ 20) (hm : m.length ≤ 1000) :
    Calls Tryz.prog 130 #[v, x] w fun e w' => ∃ v', e = .returned v' ∧ GrowB base w v w' v' (m ++ netsB l) := by
  obtain ⟨p, c, rfl, hcap, hl, hin, hr⟩ := h
  obtain ⟨i0, hi0, hz0, hz1, hz2⟩ := info_parts Tryz.infoByte
  have HR := hide hr
  have HOK := hide hok
  have HO := hide ho
  clear hr hok hin ho
  go_enter Tryz.func130, Tryz.ntmps130
  go_wp2
  go_loopw [0, 9] (fun v0 i wr => ∃ k : Nat, k ≤ l.length ∧ i = .int .i64 k ∧ GrowB base w v wr v0 (m ++ netsB (l.take k))) (fun _ i _ => l.length - (intOf i).toNat)
  case atStart => exact ⟨0, Nat.zero_le _, rfl, by simpa [netsB] using GrowB.refl (unhide HO)⟩
  case round =>
    rename World => WR
    obtain ⟨k, hk, rfl, g⟩ := hrel
    have G := hide g
    have hs1 : base ≤ WR.heap.size := Nat.le_trans hb (by have := g.be.size; omega)
    clear g
    by_cases hlt : k < l.length
    · rcases unhide HR with h | ⟨b, o, rfl, hbb, hc⟩
      · rw [h.1] at hlt; simp at hlt
      have hy := unhide HOK l[k] (List.getElem_mem _)
      have hbk := hxo.elim (fun e => absurd hlt (by rw [e]; simp)) (fun h => h b rfl)
      have c01 : WR.cell? ⟨b, o + k * 2, none⟩ = some (.int .i64 l[k].1) ∧ WR.cell? ⟨b, o + k * 2 + 1, none⟩ = some (.int .i64 l[k].2) := by
        rw [World.cell?_of_block (w := w) (a := ⟨b, o + k * 2, none⟩) ((unhide G).kept b hbk.1 hbk.2), World.cell?_of_block (w := w) (a := ⟨b, o + k * 2 + 1, none⟩) ((unhide G).kept b hbk.1 hbk.2)]
        exact hc k hlt
      have hnb : (m ++ netsB (l.take k)).length ≤ 1100 := by
        have h1 := netsB_len (l := l.take k) (fun y hy => unhide HOK y (List.mem_of_mem_take hy))
        have h2 : (l.take k).length ≤ l.length := by rw [List.length_take]; omega
        rw [List.length_append]
        omega
      have HSN := hide (show m ++ netsB (l.take (k + 1)) = ((m ++ netsB (l.take k)) ++ [l[k].2]) ++ (fourB l[k].1).take (needsP l[k].2) from by
        rw [List.take_succ_eq_append_getElem hlt, netsB_snoc, netBy]; simp)
      obtain ⟨⟨a0, a1⟩, ⟨b0, b1⟩, _⟩ := hy
      have hnd := (needs_le ⟨b0, b1⟩).1
      obtain ⟨c0, c1⟩ := c01
      clear hc
      obtain ⟨X, hX⟩ : ∃ X, l[k] = X := ⟨_, rfl⟩
      rw [hX] at HSN a0 a1 b0 b1 hnd c0 c1
      clear hX
      obtain ⟨M, hM⟩ : ∃ M, m ++ netsB (l.take k) = M := ⟨_, rfl⟩
      rw [hM] at HSN hnb G
      clear hM
      have em : X.2 % 256 = X.2 := by omega
      have HT := hide (takes_needs b1)
      obtain ⟨q0, k0, hq0⟩ := own_slice (unhide G).own
      subst hq0
      have hq : some WR.heap.size ≠ (Value.slice q0 M.length k0).ownBlock := fun e => by have := ((unhide G).own.lt _ e.symm).2; omega
      go_upto_region 5 with (at_builtin; refine wpList_append_lies _ rfl _ _ _ rfl base 5 i0 _ 1 1 Tryz.underlying63 hi0 hz0 hz1 hz2 rfl (by omega) (.slice q0 M.length k0) M.length (M.map (Value.int .u8)) rfl (World.ownsRow.alloc (World.ownsRow.alloc (unhide G).own _) _) ⟨WR.heap.size + 1, 0, none⟩ 1 1 [.int .u8 X.2] rfl rfl (World.news_of_block (cs := #[.int .u8 X.2]) (t := 5) (fr := (0, 0)) (by have := heap_alloc_new (WR.alloc (.cells #[.int .i64 X.1, .int .i64 X.2] 30)) (.cells #[.int .u8 X.2] 5); simpa using this)) (by simp [Value.oneCell']) (by omega) (by simp [maxLen]; omega) (by omega) (by simp; omega) (WR.heap.size + 2) (by simp) ?_; intro gg cap w1 hown hgrow hat hltg)
      have G1 := hide ((unhide G).trans (GrowB.append hs1 (unhide G).own (((Below.refl _ _).alloc (Nat.le_refl _) _).alloc (by simp) _) (OwnB.join (a := M) (b := [X.2]) rfl rfl hown) hgrow (hat.elim (fun e => Or.inl e.symm) (fun e => Or.inr (by rw [e]; simp [Value.ownBlock])))))
      have QB : w1.heap[WR.heap.size]? = some (.cells #[.int .i64 X.1, .int .i64 X.2] 30 (0, 0)) := by
        rw [hgrow.block WR.heap.size (by simp; omega) hq, Below.heap_alloc _ _ _ (by simp)]
        exact heap_alloc_new _ _
      have O1 := hide (unhide G1).own
      have hs2 : base ≤ w1.heap.size := Nat.le_trans hb (by have := (unhide G1).be.size; omega)
      have hlB : WR.heap.size < w1.heap.size := heap_lt QB
      have c0 : w1.cell? ⟨WR.heap.size, 0, none⟩ = some (.int .i64 X.1) := cell_of_heap QB
      have c1 : w1.cell? ⟨WR.heap.size, 1, none⟩ = some (.int .i64 X.2) := cell_of_heap QB
      have HW := hide (show ∀ W, Below w1.heap.size w1 W → W.cell? ⟨WR.heap.size, 1, none⟩ = some (.int .i64 X.2) from fun W hW => (hW.cell (p := ⟨WR.heap.size, 1, none⟩) hlB).trans c1)
      clear hown hgrow hat QB G
      obtain ⟨N, hN⟩ : ∃ N, needsP X.2 = N := ⟨_, rfl⟩
      rw [hN] at HSN hnd HT
      clear hN
      have hNd : (N : Int) ≤ 4 := by omega
      have hX1 : inI X.1 := by unfold inI; omega
      have hX2 : X.2 ≤ 255 := by omega
      go_region_law (first
        | (refine step_call2 (by rfl) 178 Tryz.plainPutWord _ _ _ (by rfl) (.slice none 0 0) (.int .i64 X.1) (by rfl) (by rfl) (putWord_nil X.1 _ hX1) ?_; rintro e w5 ⟨g4, c4, rfl, hc4, hg4, ho5, hb5⟩; refine ⟨_, rfl, ?_⟩; have B5 : Hid (Below w1.heap.size w1 w5) := (by refine Below.trans ?_ hb5; repeat (first | exact Below.refl _ _ | refine Below.drew ?_)); have f1 := unhide HW w5 (unhide B5); have O5 := hide ho5; have hc4' : (N : Int) ≤ c4 := (by omega); clear hb5 ho5)
        | (refine step_call1 (by rfl) 179 Tryz.plainSize _ _ (by rfl) (.int .i64 X.2) (by rfl) (Size_any X.2 _ b0 hX2) ?_; rintro e w6 ⟨rfl, rfl⟩; refine ⟨_, rfl, ?_⟩; rw [unhide HT])
        | (refine step_append_at (by rfl) _ _ _ (by rfl) base 5 i0 _ 1 1 Tryz.underlying63 hi0 hz0 hz1 hz2 rfl (by omega) (.slice (some ⟨gg, 0, none⟩) (M.length + 1) cap) (M.length + 1) ((M ++ [X.2]).map (Value.int .u8)) (by rfl) (by have := (unhide O1).next (unhide B5); unfold OwnB at this; rw [List.length_append] at this; exact this) ⟨g4, 0, none⟩ N c4 (((fourB X.1).take N).map (Value.int .u8)) (by rfl) (by simp [fourB_len]; omega) (by rcases own_take (n := N) (unhide O5) (by rw [fourB_len]; exact hnd) c4 with h | ⟨_, _, h1, h2⟩; cases h.1; cases h1; exact h2) (one_u8 _) (by simp only [maxLen]; omega) (by omega) (by have := (unhide B5).size; omega) ?_; intro v' w7 hown hgrow hat))
      all_goals
        go_wp2_with fail
        exact ⟨⟨k + 1, by omega, by go_num, by rw [unhide HSN]; refine (unhide G1).trans (GrowB.append hs2 (unhide O1) (unhide B5) (OwnB.join (a := M ++ [X.2]) (b := (fourB X.1).take N) (by simp) (by simp [fourB_len]; omega) hown) hgrow ?_); exact hat⟩, by simp [intOf]; omega⟩
    · have HE := hide (show l.take k = l from List.take_of_length_le (by omega))
      go_wp2
      go_ret
      exact ⟨_, rfl, by have := unhide G; rwa [unhide HE] at this⟩
end Go.Proofs.YtgngdklkoilaiaaGreatDoor
