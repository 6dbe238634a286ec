/- The program's small functions of messages (packages messages, nets): putPair, putWord, putPairs, putCounted, Size: what each call answers; old memory stays as it is, but for the row that is grown. -/
import Derived.Test.YtjpajfbacmndfaaDoorGenW
namespace Go.Proofs.YtjpajfbacmndfaaDoor
open Go.RowKit

/-- a row of bytes grows: what is behind it, and what stays -/
structure GrowB (base : Nat) (w : World) (v : Value) (w' : World) (v' : Value) (l : List Int) : Prop where
  own : OwnB w' base v' l
  be : Below base w w'
  kept : ∀ k, k < w.heap.size → some k ≠ v.ownBlock → w'.heap[k]? = w.heap[k]?
  blk : v'.ownBlock = v.ownBlock ∨ ∀ k, v'.ownBlock = some k → w.heap.size ≤ k
theorem GrowB.refl {base : Nat} {w : World} {v : Value} {l : List Int} (h : OwnB w base v l) : GrowB base w v w v l := ⟨h, Below.refl _ _, fun _ _ _ => rfl, Or.inl rfl⟩
theorem GrowB.trans {base : Nat} {w w1 w2 : World} {v v1 v2 : Value} {l1 l2 : List Int} (h : GrowB base w v w1 v1 l1) (g : GrowB base w1 v1 w2 v2 l2) : GrowB base w v w2 v2 l2 := by
  have hs := h.be.size
  refine ⟨g.own, h.be.trans g.be, fun k hk hn => ?_, ?_⟩
  · refine (g.kept k (Nat.lt_of_lt_of_le hk hs) ?_).trans (h.kept k hk hn)
    rcases h.blk with e | e
    · rw [e]; exact hn
    · intro e2; have := e k e2.symm; omega
  · rcases g.blk with e | e
    · rcases h.blk with e2 | e2
      · exact Or.inl (e.trans e2)
      · exact Or.inr (fun k hk => e2 k (by rw [← e]; exact hk))
    · exact Or.inr (fun k hk => Nat.le_trans hs (e k hk))
/-- behind an append -/
theorem GrowB.append {base : Nat} {w w0 w' : World} {v v' : Value} {l0 l : List Int} (hb : base ≤ w.heap.size) (h0 : OwnB w base v l0) (hw : Below w.heap.size w w0) (hown : OwnB w' base v' l) (hgrow : w0.grownBy w' v.ownBlock) (hat : v'.ownBlock = v.ownBlock ∨ v'.ownBlock = some w0.heap.size) : GrowB base w v w' v' l := by
  have hs := hw.size
  refine ⟨hown, (hw.mono hb).grown hgrow (by omega) (fun k hk => (h0.lt k hk).1), fun k hk hn => (hgrow.block k (by omega) hn).trans (hw.block k hk), ?_⟩
  rcases hat with e | e
  · exact Or.inl e
  · refine Or.inr (fun k hk => ?_)
    rw [e] at hk
    have : w0.heap.size = k := by simpa using hk
    omega

set_option maxHeartbeats 400000 in
theorem Size_any (n : Int) (w : World) (h0 : 0 ≤ n) (h1 : n ≤ 255) :
    Calls Tryd.prog 28 #[.int .i64 n] w fun e w' => e = .returned (.int .i64 (takesP n)) ∧ w' = w := by
  by_cases h : 32 < n
  · have HN := hide (show ((takesP n : Nat) : Int) = 0 by unfold takesP; rw [if_pos h]; rfl)
    go_enter Tryd.func28, Tryd.ntmps28
    go_wp2
    go_ret
    exact ⟨rt_int (unhide HN).symm, rfl⟩
  · have HN := hide (show ((takesP n : Nat) : Int) = (n + 7) / 8 by unfold takesP needsP; rw [if_neg h]; omega)
    go_enter Tryd.func28, Tryd.ntmps28
    go_wp2
    go_ret
    exact ⟨rt_int (unhide HN).symm, rfl⟩

theorem twoB_mod (n : Int) : twoB (n % 65536) = twoB n := by
  unfold twoB
  rw [show n % 65536 / 256 % 256 = n / 256 % 256 by omega, show n % 65536 % 256 = n % 256 by omega]
set_option maxHeartbeats 800000 in
theorem putPair_any (base : Nat) (l : List Int) (v : Value) (n : Int) (w : World) (ho : OwnB w base v l) (hb : base ≤ w.heap.size) (_hn : inI n) (hl : l.length ≤ 1000000) :
    Calls Tryd.prog 26 #[v, .int .i64 n] w fun e w' => ∃ v', e = .returned v' ∧ GrowB base w v w' v' (l ++ twoB n) := by
  obtain ⟨i0, hi0, hz0, hz1, hz2⟩ := info_parts Tryd.infoByte
  obtain ⟨q, c, rfl⟩ := own_slice ho
  have HO := hide ho
  have R := hide (ReadsAs.own (OwnB.made (w := w) (base := base) (l := twoB n) hb (by simp [twoB])))
  unfold inI at _hn
  clear ho
  go_enter Tryd.func26, Tryd.ntmps26
  go_wp2_with (at_builtin; refine wpList_append_reads rfl _ _ _ rfl base 5 i0 _ 1 1 Tryd.underlying23 hi0 hz0 hz1 hz2 rfl (by omega) (.slice q l.length c) l.length (l.map (Value.int .u8)) rfl (World.ownsRow.alloc (unhide HO) _) (.slice (some ⟨w.heap.size, 0, none⟩) 2 2) 2 ((twoB n).map (Value.int .u8)) rfl (unhide R) rfl (one_u8 _) (by simp only [maxLen]; omega) (by omega) (by simp; omega) ?_; intro v' w' hown hgrow hat)
  go_ret
  exact ⟨_, rfl, GrowB.append hb (unhide HO) ((Below.refl _ _).alloc (Nat.le_refl _) _) (OwnB.join (a := l) (b := twoB n) rfl rfl hown) hgrow hat⟩

set_option maxHeartbeats 800000 in
theorem putWord_any (base : Nat) (l : List Int) (v : Value) (n : Int) (w : World) (ho : OwnB w base v l) (hb : base ≤ w.heap.size) (hn : inI n) (hl : l.length ≤ 900000) :
    Calls Tryd.prog 27 #[v, .int .i64 n] w fun e w' => ∃ v', e = .returned v' ∧ GrowB base w v w' v' (l ++ fourB n) := by
  have HE := hide (show l ++ fourB n = (l ++ twoB (n / 65536)) ++ twoB n from by unfold fourB; rw [twoB_mod, List.append_assoc])
  have HO := hide ho
  have h1 : inI (n / 65536) := by unfold inI at *; omega
  unfold inI at hn
  clear ho
  go_enter Tryd.func27, Tryd.ntmps27
  go_wp2_with fail
  refine (putPair_any base l v (n / 65536) w (unhide HO) hb h1 (by omega)).mono ?_
  rintro e w1 ⟨v1, rfl, g1⟩
  have G1 := hide g1
  have hs1 : base ≤ w1.heap.size := Nat.le_trans hb (by have := g1.be.size; omega)
  clear g1
  go_wp2_with fail
  refine (putPair_any base _ v1 n w1 (unhide G1).own hs1 (by unfold inI; omega) (by simp [twoB]; omega)).mono ?_
  rintro e w2 ⟨v2, rfl, g2⟩
  have G2 := hide ((unhide G1).trans g2)
  clear g2
  go_wp2
  go_ret
  exact ⟨_, rfl, by rw [unhide HE]; exact unhide G2⟩

set_option maxHeartbeats 800000 in
theorem putCounted_any (base : Nat) (l t : List Int) (v x : Value) (w : World) (ho : OwnB w base v l) (hb : base ≤ w.heap.size) (hx : ReadsAs w x t.length (t.map (Value.int .u8))) (hxo : ∀ k, x.ownBlock = some k → k < w.heap.size ∧ some k ≠ v.ownBlock) (hl : l.length ≤ 900000) (ht : t.length ≤ 900000) :
    Calls Tryd.prog 17 #[v, x] w fun e w' => ∃ v', e = .returned v' ∧ GrowB base w v w' v' (l ++ (twoB t.length ++ t)) := by
  obtain ⟨i0, hi0, hz0, hz1, hz2⟩ := info_parts Tryd.infoByte
  obtain ⟨q, c, rfl⟩ := reads_slice hx
  have HO := hide ho
  have HX := hide hx
  clear ho hx
  go_enter Tryd.func17, Tryd.ntmps17
  go_wp2_with fail
  refine (putPair_any base l v (t.length : Int) w (unhide HO) hb (by unfold inI; omega) (by omega)).mono ?_
  rintro e w1 ⟨v1, rfl, g1⟩
  have hl2 : (l ++ twoB t.length).length ≤ 900002 := by simp [twoB]; omega
  have HE := hide (List.append_assoc l (twoB t.length) t)
  revert g1 hl2 HE
  generalize l ++ twoB t.length = M
  intro g1 hl2 HE
  have G1 := hide g1
  have HX1 := hide ((unhide HX).below (w' := w1) (fun k hk => g1.kept k (hxo k hk).1 (hxo k hk).2))
  have hs1 : base ≤ w1.heap.size := Nat.le_trans hb (by have := g1.be.size; omega)
  have O1 := hide g1.own
  obtain ⟨q1, c1, rfl⟩ := own_slice g1.own
  clear g1
  go_wp2_with (at_builtin; refine wpList_append_reads rfl _ _ _ rfl base 5 i0 _ 1 1 Tryd.underlying23 hi0 hz0 hz1 hz2 rfl (by omega) (.slice q1 M.length c1) M.length (M.map (Value.int .u8)) rfl (unhide O1) (.slice q t.length c) t.length (t.map (Value.int .u8)) rfl (unhide HX1) (by simp) (one_u8 _) (by simp only [maxLen]; omega) (by omega) hs1 ?_; intro v' w' hown hgrow hat)
  go_ret
  exact ⟨_, rfl, by rw [← unhide HE]; exact (unhide G1).trans (GrowB.append hs1 (unhide O1) (Below.refl _ _) (OwnB.join (a := M) (b := t) rfl rfl hown) hgrow hat)⟩

set_option maxHeartbeats 800000 in
theorem putPairs_any (base : Nat) (l t : List Int) (v x : Value) (w : World) (ho : OwnB w base v l) (hb : base ≤ w.heap.size) (hx : IntsAt w x t) (hxo : t = [] ∨ ∀ k, x.ownBlock = some k → k < w.heap.size ∧ some k ≠ v.ownBlock) (hl : l.length ≤ 1000) (ht : t.length ≤ 100) :
    Calls Tryd.prog 31 #[v, x] w fun e w' => ∃ v', e = .returned v' ∧ GrowB base w v w' v' (l ++ wordsB t) := by
  have HX := hide hx
  have HO := hide ho
  obtain ⟨p, c, rfl, hcap, hlt0, hin, hr⟩ := hx
  have HR := hide hr
  have HIN := hide hin
  clear ho hr hin
  go_enter Tryd.func31, Tryd.ntmps31
  go_wp2
  go_loopw [0, 9] (fun v0 i wr => ∃ k : Nat, k ≤ t.length ∧ i = .int .i64 k ∧ GrowB base w v wr v0 (l ++ wordsB (t.take k))) (fun _ i _ => t.length - (intOf i).toNat)
  case atStart => exact ⟨0, Nat.zero_le _, rfl, by simpa [wordsB] using GrowB.refl (unhide HO)⟩
  case round =>
    rename World => WR
    obtain ⟨k, hk, rfl, g⟩ := hrel
    have G := hide g
    have hs1 : base ≤ WR.heap.size := Nat.le_trans hb (by have := g.be.size; omega)
    clear g
    by_cases hlt : k < t.length
    · rcases unhide HR with h | ⟨b, o, rfl, hbb, hc⟩
      · rw [h.1] at hlt; simp at hlt
      have hbk := hxo.elim (fun e => absurd hlt (by rw [e]; simp)) (fun h => h b rfl)
      have hck : WR.cell? ⟨b, o + k, none⟩ = some (.int .i64 t[k]) := (World.cell?_of_block (w := w) (a := ⟨b, o + k, none⟩) ((unhide G).kept b hbk.1 hbk.2)).trans (hc k hlt)
      have hx := unhide HIN t[k] (List.getElem_mem _)
      have hwl : (wordsB (t.take k)).length ≤ 200 := by rw [wordsB_len]; simp; omega
      have HWS := hide (wordsB_take hlt)
      clear hc
      go_wp2_with fail
      refine (putPair_any base _ _ t[k] WR (unhide G).own hs1 hx (by rw [List.length_append]; omega)).mono ?_
      rintro e w1 ⟨v1, rfl, g1⟩
      have G1 := hide ((unhide G).trans g1)
      clear g1
      go_wp2_with fail
      exact ⟨⟨k + 1, by omega, by go_num, by rw [unhide HWS, ← List.append_assoc]; exact unhide G1⟩, by simp [intOf]; omega⟩
    · have HE := hide (show t.take k = t from List.take_of_length_le (by omega))
      go_wp2
      go_ret
      exact ⟨_, rfl, by have := unhide G; rwa [unhide HE] at this⟩
end Go.Proofs.YtjpajfbacmndfaaDoor
