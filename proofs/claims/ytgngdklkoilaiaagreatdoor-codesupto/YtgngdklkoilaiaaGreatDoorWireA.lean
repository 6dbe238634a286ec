/- The reference's small functions of messages (package bywayref: needs, two, four, attribute): what each call answers; old memory stays as it is. -/
import Derived.Test.YtgngdklkoilaiaaGreatDoorBase
import Derived.Deep.RegionWith
import Derived.Deep.DeepCutAuto
namespace Go.Proofs.YtgngdklkoilaiaaGreatDoor
open Go.RowKit
set_option maxHeartbeats 400000 in
theorem needs_any (n : Int) (w : World) (h0 : 0 ≤ n) (h1 : n ≤ 1000) :
    Calls Tryz.prog 133 #[.int .i64 n] w fun e w' => e = .returned (.int .i64 (needsP n)) ∧ w' = w := by
  have HN := hide (show ((needsP n : Nat) : Int) = (n + 7) / 8 by unfold needsP; omega)
  go_enter Tryz.func133, Tryz.ntmps133
  go_wp2
  go_ret
  exact ⟨rt_int (unhide HN).symm, rfl⟩

set_option maxHeartbeats 400000 in
theorem two_any (n : Int) (w : World) (h0 : 0 ≤ n) (h1 : n ≤ 4294967295) :
    Calls Tryz.prog 74 #[.int .i64 n] w fun e w' => e = .returned (.slice (some ⟨w.heap.size, 0, none⟩) 2 2) ∧ w' = w.alloc (.cells #[.int .u8 (n / 256 % 256), .int .u8 (n % 256)] 5) := by
  go_enter Tryz.func74, Tryz.ntmps74
  go_wp2
  go_ret
  exact ⟨rfl, rfl⟩
theorem two_own (n : Int) (w : World) (h0 : 0 ≤ n) (h1 : n ≤ 4294967295) :
    Calls Tryz.prog 74 #[.int .i64 n] w fun e w' => ∃ v, e = .returned v ∧ OwnB w' w.heap.size v (twoB n) ∧ Below w.heap.size w w' :=
  (two_any n w h0 h1).mono fun e w' ⟨he, hw⟩ => ⟨_, he, by rw [hw]; exact OwnB.made (l := twoB n) (Nat.le_refl _) (by simp [twoB]), by rw [hw]; exact (Below.refl _ _).alloc (Nat.le_refl _) _⟩
set_option maxHeartbeats 400000 in
theorem four_own (n : Int) (w : World) (h0 : 0 ≤ n) (h1 : n ≤ 4294967295) :
    Calls Tryz.prog 76 #[.int .i64 n] w fun e w' => ∃ v, e = .returned v ∧ OwnB w' w.heap.size v (fourB n) ∧ Below w.heap.size w w' := by
  obtain ⟨i0, hi0, hz0, hz1, hz2⟩ := info_parts Tryz.infoByte
  go_enter Tryz.func76, Tryz.ntmps76
  go_wp2_with fail
  refine (two_own _ _ (by omega) (by omega)).mono ?_
  rintro e w1 ⟨v1, rfl, ho1, hb1⟩
  have O1 := hide ho1
  have B1 := hide hb1
  clear ho1 hb1
  go_wp2_with fail
  refine (two_own _ _ (by omega) (by omega)).mono ?_
  rintro e w2 ⟨v2, rfl, ho2, hb2⟩
  have O2 := hide ho2
  have O1' := hide ((unhide O1).next hb2)
  have B2 := hide ((unhide B1).trans (hb2.mono (unhide B1).size))
  clear ho2 hb2
  go_wp2_with (at_builtin; refine wpList_append_reads rfl _ _ _ rfl w.heap.size 5 i0 _ 1 1 Tryz.underlying63 hi0 hz0 hz1 hz2 rfl (by omega) v1 2 ((twoB (n / 65536)).map (Value.int .u8)) rfl (unhide O1') v2 2 ((twoB (n % 65536)).map (Value.int .u8)) rfl (ReadsAs.own (unhide O2)) rfl (one_u8 _) (by simp [maxLen]) (by omega) (unhide B2).size ?_; intro v' w' hown hgrow hat)
  go_ret
  exact ⟨_, rfl, OwnB.join (a := twoB (n / 65536)) (b := twoB (n % 65536)) rfl rfl hown, (unhide B2).grown hgrow (unhide B2).size (fun k hk => ((unhide O1').lt k hk).1)⟩

set_option maxHeartbeats 400000 in
theorem attribute_own (f t : Int) (x : Value) (l : List Int) (w : World) (hf : 0 ≤ f ∧ f ≤ 255) (ht : 0 ≤ t ∧ t ≤ 255) (hl : l.length ≤ 255) (hx : ReadsAs w x l.length (l.map (Value.int .u8))) (hxo : ∀ k, x.ownBlock = some k → k < w.heap.size) :
    Calls Tryz.prog 75 #[.int .i64 f, .int .i64 t, x] w fun e w' => ∃ v, e = .returned v ∧ OwnB w' w.heap.size v (attB (f, t, l)) ∧ Below w.heap.size w w' := by
  obtain ⟨i0, hi0, hz0, hz1, hz2⟩ := info_parts Tryz.infoByte
  obtain ⟨q, c, rfl⟩ := reads_slice hx
  have e1 : f % 256 = f := by omega
  have e2 : t % 256 = t := by omega
  have e3 : (l.length : Int) % 256 = l.length := by omega
  have HX := hide (hx.below (w' := w.alloc (.cells #[.int .u8 f, .int .u8 t, .int .u8 l.length] 5)) (fun k hk => Below.heap_alloc _ _ _ (hxo k hk)))
  have HO := hide (OwnB.made (w := w) (l := [f, t, (l.length : Int)]) (Nat.le_refl _) (by simp))
  clear hx
  go_enter Tryz.func75, Tryz.ntmps75
  go_wp2_with (at_builtin; refine wpList_append_reads rfl _ _ _ rfl w.heap.size 5 i0 _ 1 1 Tryz.underlying63 hi0 hz0 hz1 hz2 rfl (by omega) (.slice (some ⟨w.heap.size, 0, none⟩) 3 3) 3 ([f, t, (l.length : Int)].map (Value.int .u8)) rfl (unhide HO) (.slice q l.length c) l.length (l.map (Value.int .u8)) rfl (unhide HX) (by simp) (one_u8 _) (by simp [maxLen]; omega) (by omega) (by simp) ?_; intro v' w' hown hgrow hat)
  go_ret
  exact ⟨_, rfl, OwnB.join (a := [f, t, (l.length : Int)]) (b := l) rfl rfl hown, ((Below.refl _ _).alloc (Nat.le_refl _) _).grown hgrow (by simp) (fun k hk => by have e : w.heap.size = k := (by simpa [Value.ownBlock] using hk); omega)⟩
end Go.Proofs.YtgngdklkoilaiaaGreatDoor

namespace Go.Proofs.YtgngdklkoilaiaaGreatDoor
open Go.RowKit
set_option maxRecDepth 100000 in
set_option maxHeartbeats 800000 in
theorem netBytes_own (l : List (Int × Int)) (x : Value) (w : World) (h : NetsAt w x l) (hok : ∀ y ∈ l, netOk y) (hlen : l.length ≤ 20) :
    Calls Tryz.prog 73 #[x] w fun e w' => ∃ v, e = .returned v ∧ OwnB w' w.heap.size v (netsB l) ∧ Below w.heap.size w w' := by
  obtain ⟨p, c, rfl, hcap, hl, hin, hr⟩ := h
  obtain ⟨i0, hi0, hz0, hz1, hz2⟩ := info_parts Tryz.infoByte
  have HR := hide hr
  have HOK := hide hok
  clear hr hok hin
  go_enter Tryz.func73, Tryz.ntmps73
  go_wp2
  go_loopw [3, 4] (fun v3 i wr => ∃ k : Nat, k ≤ l.length ∧ i = .int .i64 k ∧ OwnB wr w.heap.size v3 (netsB (l.take k)) ∧ Below w.heap.size w wr) (fun _ i _ => l.length - (intOf i).toNat)
  case atStart => exact ⟨0, Nat.zero_le _, rfl, World.ownsRow_nil _ _ _ _, Below.refl _ _⟩
  case round =>
    obtain ⟨k, hk, rfl, how, hbl⟩ := hrel
    have HOW := hide how
    have HB := hide hbl
    have hsz : w.heap.size ≤ wr.heap.size := hbl.size
    clear how hbl
    by_cases hlt : k < l.length
    · rcases unhide HR with h | ⟨b, o, rfl, hb, hc⟩
      · rw [h.1] at hlt; simp at hlt
      have hy := unhide HOK l[k] (List.getElem_mem _)
      have hcw : ∀ W, Below w.heap.size w W → W.cell? ⟨b, o + k * 2, none⟩ = some (.int .i64 l[k].1) ∧ W.cell? ⟨b, o + k * 2 + 1, none⟩ = some (.int .i64 l[k].2) := fun W hW => by
        rw [hW.cell (p := ⟨b, o + k * 2, none⟩) hb, hW.cell (p := ⟨b, o + k * 2 + 1, none⟩) hb]; exact hc k hlt
      have HSN := hide (show netsB (l.take (k + 1)) = (netsB (l.take k) ++ [l[k].2]) ++ (fourB l[k].1).take (needsP l[k].2) from by
        rw [List.take_succ_eq_append_getElem hlt, netsB_snoc, netBy]; simp)
      have hnb : (netsB (l.take k)).length ≤ 100 := by
        have h1 := netsB_len (l := l.take k) (fun y hy => unhide HOK y (List.mem_of_mem_take hy))
        have h2 : (l.take k).length ≤ l.length := by rw [List.length_take]; omega
        omega
      obtain ⟨⟨a0, a1⟩, ⟨b0, b1⟩, _⟩ := hy
      have hnd := (needs_le ⟨b0, b1⟩).1
      obtain ⟨c0, c1⟩ := hcw wr (unhide HB)
      have HCW := hide hcw
      clear hc hcw
      obtain ⟨X, hX⟩ : ∃ X, l[k] = X := ⟨_, rfl⟩
      rw [hX] at HSN a0 a1 b0 b1 hnd c0 c1 HCW
      clear hX
      have em : X.2 % 256 = X.2 := by omega
      go_wp2_with (at_builtin; refine wpList_append_lies _ rfl _ _ _ rfl w.heap.size 5 i0 _ 1 1 Tryz.underlying63 hi0 hz0 hz1 hz2 rfl (by omega) u3 (netsB (l.take k)).length ((netsB (l.take k)).map (Value.int .u8)) rfl (World.ownsRow.alloc (unhide HOW) _) ⟨wr.heap.size, 0, none⟩ 1 1 [.int .u8 X.2] rfl rfl (World.news_of_block (cs := #[.int .u8 X.2]) (t := 5) (fr := (0, 0)) (heap_alloc_new _ _)) (by simp [Value.oneCell']) (by omega) (by simp [maxLen]; omega) (by omega) (by simp; omega) (wr.heap.size + 1) (by simp) ?_; intro gg cap w1 hown hgrow hat hltg; have B1 := hide (((unhide HB).alloc hsz _).grown hgrow (by simp; omega) (fun j hj => ((unhide HOW).lt j hj).1)); obtain ⟨d0, d1⟩ := unhide HCW w1 (unhide B1); have O1 := hide (OwnB.join (a := netsB (l.take k)) (b := [X.2]) rfl rfl hown); clear hown hgrow hat)
      refine (four_own _ _ a0 a1).mono ?_
      rintro e w2 ⟨v4, rfl, ho2, hb2⟩
      have B2 := hide ((unhide B1).trans (hb2.mono (unhide B1).size))
      have O2 := hide ((unhide O1).next hb2)
      obtain ⟨g4, c4, rfl, _, hg4⟩ := ho2.form (by simp [fourB_len])
      have hc4 : 4 ≤ c4 := by
        rcases ho2.2 with ⟨hh, _⟩ | ⟨g, cap, cur, hv, _, _, hn, _⟩
        · cases hh
        · cases hv; exact hn
      have R4 := hide (own_take (n := needsP X.2) ho2 (by rw [fourB_len]; exact hnd) c4)
      obtain ⟨f0, f1⟩ := unhide HCW w2 (unhide B2)
      have hs2 : w.heap.size ≤ w2.heap.size := (unhide B2).size
      have hln : (needsP X.2 : Int) ≤ 4 := by omega
      clear ho2 hb2 B1 O1 d0 d1 c0 c1
      rw [fourB_len]
      go_wp2_with (first | (go_at_call 133; refine (needs_any _ _ b0 (by omega)).mono ?_; rintro e w0 ⟨rfl, rfl⟩) | (at_builtin; refine wpList_append_reads rfl _ _ _ rfl w.heap.size 5 i0 _ 1 1 Tryz.underlying63 hi0 hz0 hz1 hz2 rfl (by omega) (.slice (some ⟨gg, 0, none⟩) ((netsB (l.take k)).length + 1) cap) ((netsB (l.take k)).length + 1) ((netsB (l.take k) ++ [X.2]).map (Value.int .u8)) rfl (by have := unhide O2; unfold OwnB at this; rwa [List.length_append] at this) (.slice (some ⟨g4, 0, none⟩) (needsP X.2) c4) (needsP X.2) (((fourB X.1).take (needsP X.2)).map (Value.int .u8)) rfl (unhide R4) (by simp [fourB_len]; omega) (one_u8 _) (by simp [maxLen]; omega) (by omega) hs2 ?_; intro v' wn hown hgrow hat))
      exact ⟨⟨k + 1, by omega, by go_num, by rw [unhide HSN]; exact OwnB.join (a := netsB (l.take k) ++ [X.2]) (b := (fourB X.1).take (needsP X.2)) (by simp) (by simp [fourB_len]; omega) hown, (unhide B2).grown hgrow hs2 (fun j hj => ((unhide O2).lt j hj).1)⟩, by simp [intOf]; omega⟩
    · go_wp2
      go_ret
      refine ⟨_, rfl, ?_, unhide HB⟩
      have e : l.take k = l := List.take_of_length_le (by omega)
      have := unhide HOW
      rwa [e] at this
end Go.Proofs.YtgngdklkoilaiaaGreatDoor

namespace Go.Proofs.YtgngdklkoilaiaaGreatDoor
open Go.RowKit
theorem tdiv_in {n k : Int} (h1 : -9223372036854775808 ≤ n) (h2 : n ≤ 9223372036854775807) (hk : 1 < k) : -9223372036854775808 ≤ n.tdiv k ∧ n.tdiv k ≤ 9223372036854775807 := by
  rcases Int.le_total 0 n with h | h
  · have := Int.tdiv_nonneg h (by omega : 0 ≤ k)
    have := Int.tdiv_le_self k h
    omega
  · have h3 : 0 ≤ (-n).tdiv k := Int.tdiv_nonneg (by omega) (by omega)
    have h4 : (-n).tdiv k ≤ -n := Int.tdiv_le_self k (by omega)
    rw [Int.neg_tdiv] at h3 h4
    omega
theorem pow_sz {s k : Int} (h : s ≤ k) (_hk : k ≤ 32) : (2 : Int) ^ (k + 1 - s).toNat = 2 * 2 ^ (k - s).toNat := by
  rw [show (k + 1 - s).toNat = (k - s).toNat + 1 by omega, Int.pow_succ, Int.mul_comm]
theorem pow_bd {s k : Int} (h : 0 ≤ s) (hk : k ≤ 32) : 0 < (2 : Int) ^ (k - s).toNat ∧ (2 : Int) ^ (k - s).toNat ≤ 4294967296 := by
  have hk : (k - s).toNat ≤ 32 := by omega
  generalize (k - s).toNat = m at hk
  have h2 : (2 : Int) ^ m ≤ 2 ^ 32 := by
    have h1 : (2 : Nat) ^ m ≤ 2 ^ 32 := Nat.pow_le_pow_right (by omega) hk
    exact_mod_cast h1
  exact ⟨Int.pow_pos (by omega), h2⟩


end Go.Proofs.YtgngdklkoilaiaaGreatDoor

namespace Go.Proofs.YtgngdklkoilaiaaGreatDoor
open Go.RowKit
set_option maxHeartbeats 400000 in
theorem power_w (n : Int) (w : World) (h0 : 0 ≤ n) (h : n ≤ 32) :
    Calls Tryz.prog 191 #[.int .i64 n] w fun e w' => e = .returned (.int .i64 ((2 : Int) ^ n.toNat)) ∧ w' = w := by
  obtain ⟨n, rfl⟩ := Int.eq_ofNat_of_zero_le h0
  rw [Int.toNat_natCast]
  go_enter Tryz.func191, Tryz.ntmps191
  go_wp2
  go_loop [3, 4] (fun p i => ∃ k : Nat, k ≤ n ∧ i = .int .i64 k ∧ p = .int .i64 ((2 : Int) ^ k)) (fun _ i => n - (intOf i).toNat)
  case atStart => exact ⟨0, Nat.zero_le _, rfl, rfl⟩
  case round =>
    obtain ⟨k, hk, rfl, rfl⟩ := hrel
    have ⟨hb0, hb⟩ := pow_bd (s := 0) (k := k) (by omega) (by omega)
    rw [Int.sub_zero, Int.toNat_natCast] at hb0 hb
    have HE := hide (show (2 : Int) ^ (k + 1) = 2 * 2 ^ k by rw [Int.pow_succ, Int.mul_comm])
    obtain ⟨q, hq⟩ : ∃ q, (2 : Int) ^ k = q := ⟨_, rfl⟩
    rw [hq] at hb0 hb HE ⊢
    have HQ := hide hq
    clear hq
    by_cases hlt : k < n
    · go_wp2
      go_round
      case rel => exact ⟨k + 1, by omega, by go_num, by rw [unhide HE]⟩
      case measure => simp [intOf]; omega
    · go_wp2
      go_ret
      exact ⟨rt_int (by rw [← unhide HQ, show k = n by omega]), rfl⟩

set_option maxRecDepth 100000 in
set_option maxHeartbeats 1600000 in
theorem isNet_w (x : Int × Int) (w : World) (h1 : inI x.1) (h2 : inI x.2) :
    Calls Tryz.prog 139 #[.agg #[.int .i64 x.1, .int .i64 x.2]] w fun e w' => e = .returned (.bool (netOkB x)) ∧ Below w.heap.size w w' := by
  obtain ⟨a, l⟩ := x
  unfold inI at h1 h2
  simp only at h1 h2 ⊢
  have hor : (0 ≤ a ∧ a ≤ 4294967295 ∧ 0 ≤ l ∧ l ≤ 32) ∨ (¬ 0 ≤ a ∧ Hid (netOkB (a, l) = false)) ∨ (0 ≤ a ∧ ¬ a ≤ 4294967295 ∧ Hid (netOkB (a, l) = false)) ∨ (0 ≤ a ∧ a ≤ 4294967295 ∧ ¬ 0 ≤ l ∧ Hid (netOkB (a, l) = false)) ∨ (0 ≤ a ∧ a ≤ 4294967295 ∧ 0 ≤ l ∧ ¬ l ≤ 32 ∧ Hid (netOkB (a, l) = false)) := by
    have hF : ¬ (0 ≤ a ∧ a ≤ 4294967295 ∧ 0 ≤ l ∧ l ≤ 32) → Hid (netOkB (a, l) = false) := fun h => by
      unfold Hid netOkB
      simp only [decide_eq_false_iff_not]
      intro ⟨⟨x1, x2⟩, ⟨x3, x4⟩, _⟩
      exact h ⟨x1, x2, x3, x4⟩
    by_cases x1 : 0 ≤ a
    · by_cases x2 : a ≤ 4294967295
      · by_cases x3 : 0 ≤ l
        · by_cases x4 : l ≤ 32
          · exact Or.inl ⟨x1, x2, x3, x4⟩
          · exact Or.inr (Or.inr (Or.inr (Or.inr ⟨x1, x2, x3, x4, hF (fun h => x4 h.2.2.2)⟩)))
        · exact Or.inr (Or.inr (Or.inr (Or.inl ⟨x1, x2, x3, hF (fun h => x3 h.2.2.1)⟩)))
      · exact Or.inr (Or.inr (Or.inl ⟨x1, x2, hF (fun h => x2 h.2.1)⟩))
    · exact Or.inr (Or.inl ⟨x1, hF (fun h => x1 h.1)⟩)
  rcases hor with ⟨x1, x2, x3, x4⟩ | ⟨x1, HF⟩ | ⟨x1, x2, HF⟩ | ⟨x1, x2, x3, HF⟩ | ⟨x1, x2, x3, x4, HF⟩
  · have HN : Hid (netOkB (a, l) = (a % 2 ^ (32 - l).toNat == 0)) := by
      unfold Hid netOkB netOk powP
      rw [Bool.eq_iff_iff]; simp [x1, x2, x3, x4]
    have ⟨hp1, hp2⟩ := pow_bd (s := l) (k := 32) x3 (by omega)
    have hpz : ((2 : Int) ^ (32 - l).toNat == 0) = false := beq_eq_false_iff_ne.2 (by omega)
    go_enter Tryz.func139, Tryz.ntmps139
    go_wp2_with fail
    go_quiet ((go_at_call 191; exact Calls.quiet_of_same (power_w (32 - l) _ (by omega) (by omega))))
    go_wp2
    go_ret
    exact ⟨rt_bool (unhide HN).symm, by exact below_drewN ((Below.refl _ _).alloc (Nat.le_refl _) _) _⟩
  · have d1 : decide (0 ≤ a) = false := by simpa using x1
    go_enter Tryz.func139, Tryz.ntmps139
    go_wp2_with fail
    go_quiet ((fail))
    go_wp2
    go_ret
    exact ⟨rt_bool (unhide HF).symm, by exact below_drewN ((Below.refl _ _).alloc (Nat.le_refl _) _) _⟩
  · have d2 : decide (a ≤ 4294967295) = false := by simpa using x2
    go_enter Tryz.func139, Tryz.ntmps139
    go_wp2_with fail
    go_quiet ((fail))
    go_wp2
    go_ret
    exact ⟨rt_bool (unhide HF).symm, by exact below_drewN ((Below.refl _ _).alloc (Nat.le_refl _) _) _⟩
  · have d3 : decide (0 ≤ l) = false := by simpa using x3
    go_enter Tryz.func139, Tryz.ntmps139
    go_wp2_with fail
    go_quiet ((fail))
    go_wp2
    go_ret
    exact ⟨rt_bool (unhide HF).symm, by exact below_drewN ((Below.refl _ _).alloc (Nat.le_refl _) _) _⟩
  · have d4 : decide (l ≤ 32) = false := by simpa using x4
    go_enter Tryz.func139, Tryz.ntmps139
    go_wp2_with fail
    go_quiet ((fail))
    go_wp2
    go_ret
    exact ⟨rt_bool (unhide HF).symm, by exact below_drewN ((Below.refl _ _).alloc (Nat.le_refl _) _) _⟩
end Go.Proofs.YtgngdklkoilaiaaGreatDoor

namespace Go.Proofs.YtgngdklkoilaiaaGreatDoor
open Go.RowKit
set_option maxHeartbeats 400000 in
theorem sameNet_w (a b : Int × Int) (w : World) :
    Calls Tryz.prog 140 #[.agg #[.int .i64 a.1, .int .i64 a.2], .agg #[.int .i64 b.1, .int .i64 b.2]] w fun e w' => e = .returned (.bool (decide (a = b))) ∧ Below w.heap.size w w' := by
  obtain ⟨a1, a2⟩ := a
  obtain ⟨b1, b2⟩ := b
  simp only
  by_cases h1 : a1 = b1
  · have HP := hide (show decide ((a1, a2) = (b1, b2)) = (a2 == b2) by rw [Bool.eq_iff_iff]; simp [h1])
    have h1b : (a1 == b1) = true := beq_iff_eq.2 h1
    have H1 := hide h1
    clear h1
    go_enter Tryz.func140, Tryz.ntmps140
    go_wp2
    go_ret
    exact ⟨rt_bool (unhide HP).symm, by exact ((Below.refl _ _).alloc (Nat.le_refl _) _).alloc (by simp) _⟩
  · have HP := hide (show decide ((a1, a2) = (b1, b2)) = false by simp [h1])
    have h1b : (a1 == b1) = false := beq_eq_false_iff_ne.2 h1
    have H1 := hide h1
    clear h1
    go_enter Tryz.func140, Tryz.ntmps140
    go_wp2
    go_ret
    exact ⟨rt_bool (unhide HP).symm, by exact ((Below.refl _ _).alloc (Nat.le_refl _) _).alloc (by simp) _⟩

set_option maxRecDepth 100000 in
set_option maxHeartbeats 3200000 in
theorem nets_w (g t : List (Int × Int)) (x y : Value) (w : World) (hx : NetsAt w x g) (hy : NetsAt w y t) (hlen : g.length + t.length ≤ 4194304) :
    Calls Tryz.prog 84 #[x, y] w fun e w' => e = .returned (.bool (netsOkB (g ++ t))) ∧ Below w.heap.size w w' := by
  obtain ⟨i0, hi0, hz0, hz1, hz2⟩ := info_parts Tryz.infoNetW
  have RX := hide hx.reads
  have HY := hide hy
  have HIN : Hid (∀ z ∈ g ++ t, inI z.1 ∧ inI z.2) := by
    obtain ⟨_, _, _, _, _, h1, _⟩ := hx
    obtain ⟨_, _, _, _, _, h2, _⟩ := hy
    intro z hz
    rcases List.mem_append.1 hz with h | h
    · exact h1 z h
    · exact h2 z h
  clear hx hy
  obtain ⟨L, hL⟩ : ∃ L, g ++ t = L := ⟨_, rfl⟩
  rw [hL] at HIN ⊢
  have hlen2 : L.length ≤ 4194304 := by rw [← hL, List.length_append]; exact hlen
  have HL := hide hL
  clear hL
  go_enter Tryz.func84, Tryz.ntmps84
  go_upto_region 3 with (at_builtin; refine wpList_append_reads rfl _ _ _ rfl w.heap.size 30 i0 _ 2 16 Tryz.underlying24 hi0 hz0 hz1 hz2 rfl (by omega) (.slice none 0 0) 0 [] rfl (World.ownsRow_nil _ _ _ _) x g.length (netCells g) rfl (unhide RX) (netCells_len g) (one_net g) (by simp [maxLen]; omega) (by omega) (Nat.le_refl _) ?_; intro v1 w1 hown hgrow hat)
  have B1 := hide ((Below.refl w.heap.size w).grown hgrow (Nat.le_refl _) (fun k hk => by simp [Value.ownBlock] at hk))
  have O1 := hide hown
  have RY := hide ((unhide HY).below (unhide B1)).reads
  clear hown hgrow hat RX HY
  go_upto_region 4 with (at_builtin; refine wpList_append_reads rfl _ _ _ rfl w.heap.size 30 i0 _ 2 16 Tryz.underlying24 hi0 hz0 hz1 hz2 rfl (by omega) v1 (0 + g.length) ([] ++ netCells g) rfl (unhide O1) y t.length (netCells t) rfl (unhide RY) (netCells_len t) (one_net t) (by simp [maxLen]; omega) (by omega) (unhide B1).size ?_; intro v2 w2 hown hgrow hat)
  have B2 := hide ((unhide B1).grown hgrow (unhide B1).size (fun k hk => ((unhide O1).lt k hk).1))
  have O2 : Hid (OwnN w2 w.heap.size v2 L) := by
    unfold Hid OwnN
    rw [← unhide HL, netCells_append, List.length_append]
    rw [Nat.zero_add, List.nil_append] at hown
    exact hown
  clear hown hgrow hat O1 B1 RY
  obtain ⟨q5, c5, rfl⟩ := own_slice (unhide O2)
  by_cases h20 : 20 < L.length
  · have HF := hide (netsOkB_long h20)
    go_wp2
    go_ret
    exact ⟨rt_bool (unhide HF).symm, unhide B2⟩
  · go_wp2_with fail
    go_loopw [6] (fun i wr => ∃ k : Nat, k ≤ L.length ∧ i = .int .i64 k ∧ (∀ z ∈ L.take k, netOk z) ∧ (L.take k).Nodup ∧ Below w2.heap.size w2 wr) (fun i _ => L.length - (intOf i).toNat)
    case atStart => exact ⟨0, Nat.zero_le _, rfl, by simp, by simp, Below.refl _ _⟩
    case round =>
      rename World => WR
      obtain ⟨k, hk, rfl, hok, hnd, hbe⟩ := hrel
      have BE := hide hbe
      have OR := hide ((unhide O2).nextW hbe)
      have bw := hide ((unhide B2).trans (hbe.mono (unhide B2).size))
      have HOK := hide hok
      have HND := hide hnd
      clear hbe hok hnd
      by_cases hlt : k < L.length
      · obtain ⟨gg, rfl, hg1, hg2, hcell⟩ := (unhide OR).cellW hlt
        obtain ⟨c0, c1⟩ := hcell k hlt
        have hI := unhide HIN L[k] (List.getElem_mem _)
        have HC := hide hcell
        clear hcell
        cases hbn : netOkB L[k] with
        | false =>
          have HF := hide (netsOkB_bad hlt hbn)
          go_wp2_with fail
          refine (isNet_w L[k] _ hI.1 hI.2).mono ?_
          rintro e w3 ⟨rfl, hb3⟩
          rw [hbn]
          have b3 := hide ((unhide bw).trans (hb3.mono (unhide bw).size))
          clear hb3
          go_wp2
          go_ret
          exact ⟨rt_bool (unhide HF).symm, unhide b3⟩
        | true =>
          have HKO := hide (show netOk L[k] from of_decide_eq_true hbn)
          go_wp2_with fail
          refine (isNet_w L[k] _ hI.1 hI.2).mono ?_
          rintro e w3 ⟨rfl, hb3⟩
          rw [hbn]
          have BE3 := hide ((unhide BE).trans (hb3.mono (unhide BE).size))
          have b3 := hide ((unhide bw).trans (hb3.mono (unhide bw).size))
          have HC3 := hide (show ∀ i, (hi : i < L.length) → w3.cell? ⟨gg, i * 2, none⟩ = some (.int .i64 L[i].1) ∧ w3.cell? ⟨gg, i * 2 + 1, none⟩ = some (.int .i64 L[i].2) from fun i hi => by
            rw [hb3.cell (p := ⟨gg, i * 2, none⟩) hg2, hb3.cell (p := ⟨gg, i * 2 + 1, none⟩) hg2]; exact unhide HC i hi)
          have hg3 : gg < w3.heap.size := Nat.lt_of_lt_of_le hg2 hb3.size
          clear hb3 c0 c1 HC hbn hI
          go_wp2_with fail
          go_loopw [8] (fun j wr => ∃ q : Nat, q ≤ k ∧ j = .int .i64 q ∧ L[k] ∉ L.take q ∧ Below w3.heap.size w3 wr) (fun j _ => k - (intOf j).toNat)
          case atStart => exact ⟨0, Nat.zero_le _, rfl, by simp, Below.refl _ _⟩
          case round =>
            rename World => WS
            obtain ⟨q, hq, rfl, hnm, hbe⟩ := hrel
            have BS := hide hbe
            have HNM := hide hnm
            have b4 := hide ((unhide b3).trans (hbe.mono (unhide b3).size))
            have d := unhide HC3 k hlt
            rw [← hbe.cell (p := ⟨gg, k * 2, none⟩) hg3, ← hbe.cell (p := ⟨gg, k * 2 + 1, none⟩) hg3] at d
            obtain ⟨d0, d1⟩ := d
            by_cases hqk : q < k
            · have hql : q < L.length := by omega
              have f := unhide HC3 q hql
              rw [← hbe.cell (p := ⟨gg, q * 2, none⟩) hg3, ← hbe.cell (p := ⟨gg, q * 2 + 1, none⟩) hg3] at f
              obtain ⟨f0, f1⟩ := f
              clear hbe hnm
              cases heq : decide (L[k] = L[q]) with
              | true =>
                have HF := hide (netsOkB_twice hlt hqk (by simpa using heq))
                have HEQ := hide heq
                clear heq
                go_wp2_with fail
                go_region_with (go_at_call 140; refine (sameNet_w L[k] L[q] _).mono ?_; rintro e w5 ⟨rfl, hb5⟩; rw [unhide HEQ])
                all_goals
                  have b5 : Hid (Below w.heap.size w w5) := by
                    refine Below.trans ?_ (hb5.mono (unhide b4).size)
                    repeat (first | exact unhide b4 | refine Below.drew ?_)
                  clear hb5
                  go_wp2
                  go_ret
                  exact ⟨rt_bool (unhide HF).symm, unhide b5⟩
              | false =>
                have HNM2 := hide (show L[k] ∉ L.take (q + 1) from by
                  rw [List.take_succ_eq_append_getElem hql]
                  simp only [List.mem_append, List.mem_singleton, not_or]
                  exact ⟨unhide HNM, by simpa using heq⟩)
                have HEQ := hide heq
                clear heq
                go_wp2_with fail
                go_region_with (go_at_call 140; refine (sameNet_w L[k] L[q] _).mono ?_; rintro e w5 ⟨rfl, hb5⟩; rw [unhide HEQ])
                all_goals
                  have b5 : Hid (Below w3.heap.size w3 w5) := by
                    refine Below.trans ?_ (hb5.mono (unhide BS).size)
                    repeat (first | exact unhide BS | refine Below.drew ?_)
                  clear hb5
                  go_wp2_with fail
                  exact ⟨⟨q + 1, by omega, by go_num, unhide HNM2, unhide b5⟩, by simp [intOf]; omega⟩
            · clear hbe hnm
              have hqe : q = k := by omega
              have HND2 := hide (nodup_take_succ hlt (unhide HND) (by rw [hqe] at HNM; exact unhide HNM))
              have HOK2 := hide (show ∀ z ∈ L.take (k + 1), netOk z from by
                rw [List.take_succ_eq_append_getElem hlt]
                intro z hz
                simp only [List.mem_append, List.mem_singleton] at hz
                rcases hz with hz | rfl
                · exact unhide HOK z hz
                · exact unhide HKO)
              have BE4 := hide ((unhide BE3).trans ((unhide BS).mono (unhide BE3).size))
              clear hqe
              go_wp2_with fail
              exact ⟨⟨k + 1, by omega, by go_num, unhide HOK2, unhide HND2, unhide BE4⟩, by simp [intOf]; omega⟩
      · have HT := hide (netsOkB_all (by omega) (by omega) (unhide HOK) (unhide HND))
        go_wp2
        go_ret
        exact ⟨rt_bool (unhide HT).symm, unhide bw⟩
end Go.Proofs.YtgngdklkoilaiaaGreatDoor
