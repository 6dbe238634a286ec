/- The owner's marks on lists of bytes (package bywaylaw): allBytes, Bytes.still, ownBytes. -/
import Derived.Test.YtgdeeodifnegiaaGreatDoorLawC
import Derived.Deep.RegionWith
import Derived.Deep.DeepCutAuto
import Derived.Deep.CutBlock
namespace Go.Proofs.YtgdeeodifnegiaaGreatDoor
open Go.RowKit

theorem BytesAt.rep {w : World} {v : Value} {n : Nat} {x : Int} (h : BytesAt w v (List.replicate n x)) : ∃ p c, v = .slice p n c := by
  obtain ⟨p, c, hv, -⟩ := h
  exact ⟨p, c, by rw [hv, List.length_replicate]⟩
def markY (m : Nat) : Int := (m : Int) % 251
theorem markY_in (m : Nat) : 0 ≤ markY m ∧ markY m ≤ 255 := by unfold markY; omega
set_option maxHeartbeats 400000 in
theorem allBytes_any (n m : Nat) (v : Value) (w : World) (hm : m ≤ 1099511627776) (h : BytesAt w v (List.replicate n (markY m))) :
    Calls Tryz.prog 60 #[v, .int .i64 m] w fun e w' => e = .returned (.bool true) ∧ w' = w := by
  obtain ⟨p, c, rfl, hcap, hl, hin, hr⟩ := h
  rw [List.length_replicate] at *
  have HR := hide hr
  clear hr hin
  have hx : markY m = (m : Int) % 251 := rfl
  go_enter Tryz.func60, Tryz.ntmps60
  go_wp2
  go_loop [5] (fun i => ∃ k : Nat, k ≤ n ∧ i = .int .i64 k) (fun i => n - (intOf i).toNat)
  case atStart => exact ⟨0, Nat.zero_le _, rfl⟩
  case round =>
    obtain ⟨k, hk, rfl⟩ := hrel
    by_cases hlt : k < n
    · rcases unhide HR with h | ⟨b, o, rfl, hb, hc⟩
      · have := congrArg List.length h.1; simp at this; omega
      have hck := hc k (by rw [List.length_replicate]; exact hlt)
      rw [List.getElem_replicate, hx] at hck
      clear hc hx
      go_wp2
      go_round
      case rel => exact ⟨k + 1, by omega, by go_num⟩
      case measure => simp [intOf]; omega
    · go_wp2
      go_ret
      exact ⟨rfl, rfl⟩

set_option maxRecDepth 100000 in
set_option maxHeartbeats 800000 in
theorem Bytes_still_any (n0 n1 n2 n3 m : Nat) (v0 v1 v2 v3 : Value) (w : World) (hm : m ≤ 1099511627776) (h0 : BytesAt w v0 (List.replicate n0 (markY m))) (h1 : BytesAt w v1 (List.replicate n1 (markY m)))
    (h2 : BytesAt w v2 (List.replicate n2 (markY m))) (h3 : BytesAt w v3 (List.replicate n3 (markY m))) :
    Calls Tryz.prog 19 #[.agg #[v0, v1, v2, v3, .int .i64 m]] w fun e w' => e = .returned (.bool true) ∧ Below w.heap.size w w' := by
  have H0 := hide h0
  have H1 := hide h1
  have H2 := hide h2
  have H3 := hide h3
  obtain ⟨p0, c0, rfl⟩ := h0.rep
  obtain ⟨p1, c1, rfl⟩ := h1.rep
  obtain ⟨p2, c2, rfl⟩ := h2.rep
  obtain ⟨p3, c3, rfl⟩ := h3.rep
  have BA := hide ((Below.refl w.heap.size w).alloc (Nat.le_refl _) (.cells #[.slice p0 n0 c0, .slice p1 n1 c1, .slice p2 n2 c2, .slice p3 n3 c3, .int .i64 m] 65))
  go_enter Tryz.func19, Tryz.ntmps19
  go_wp2_with fail
  refine (allBytes_any n0 m _ _ hm ((unhide H0).below (unhide BA))).mono ?_
  rintro e w1 ⟨rfl, rfl⟩
  go_wp2_with fail
  refine (allBytes_any n1 m _ _ hm ((unhide H1).below (unhide BA))).mono ?_
  rintro e w1 ⟨rfl, rfl⟩
  go_wp2_with fail
  refine (allBytes_any n2 m _ _ hm ((unhide H2).below (unhide BA))).mono ?_
  rintro e w1 ⟨rfl, rfl⟩
  go_wp2_with fail
  refine (allBytes_any n3 m _ _ hm ((unhide H3).below (unhide BA))).mono ?_
  rintro e w1 ⟨rfl, rfl⟩
  go_wp2
  go_ret
  exact ⟨rfl, unhide BA⟩

theorem MarkB.alloc {w : World} {v : Value} {n : Nat} {x : Int} (h : MarkB w v n x) (o : Obj) : MarkB (w.alloc o) v n x := ⟨h.1.below ((Below.refl _ _).alloc (Nat.le_refl _) o), h.2⟩
theorem OwnB.rep {w : World} {base k j : Nat} {v : Value} {x : Int} (h : w.ownsRow base 5 1 v (k + j) ((List.replicate k x).map (Value.int .u8) ++ (List.replicate j x).map (Value.int .u8))) : OwnB w base v (List.replicate (k + j) x) := by
  rw [rep_snoc] at h
  unfold OwnB
  rw [List.length_replicate]; exact h
theorem MarkB.set5 {w : World} {b n : Nat} {v : Value} {x : Int} (h : MarkB w v n x) (hb : v.ownBlock ≠ some b) (x0 x1 x2 x3 x4 : Value) : MarkB (((((w.setCell ⟨b, 0, none⟩ x0).setCell ⟨b, 1, none⟩ x1).setCell ⟨b, 2, none⟩ x2).setCell ⟨b, 3, none⟩ x3).setCell ⟨b, 4, none⟩ x4) v n x :=
  h.of_block (by rw [size_set5]; exact Nat.le_refl _) (fun k hk => heap_set5 (fun e => hb (by rw [hk, e])))
/-- what ownBytes gives: the list and the three begun at it bear the mark; nothing else that is old was written -/
structure OwnedB (w : World) (v : Value) (n m : Nat) (v1 v2 v3 : Value) (w' : World) : Prop where
  m0 : MarkB w' v n (markY m)
  m1 : MarkB w' v1 (n + 1) (markY m)
  m2 : MarkB w' v2 (n + 2) (markY m)
  m3 : MarkB w' v3 (n + 3) (markY m)
  fr : Fr (fun k => v.ownBlock = some k) w (fun k => v.ownBlock = some k) w'
  b1 : v1.ownBlock = v.ownBlock ∨ ∀ k, v1.ownBlock = some k → w.heap.size ≤ k
  b2 : v2.ownBlock = v.ownBlock ∨ ∀ k, v2.ownBlock = some k → w.heap.size ≤ k
  b3 : v3.ownBlock = v.ownBlock ∨ ∀ k, v3.ownBlock = some k → w.heap.size ≤ k
set_option maxRecDepth 100000 in
set_option maxHeartbeats 1600000 in
theorem ownBytes_any (m : Nat) (L : List Int) (v : Value) (w : World) (base : Nat) (hm : m ≤ 1099511627776) (ho : OwnB w base v L) (hb : base ≤ w.heap.size) (hl : L.length ≤ 16777216) :
    Calls Tryz.prog 79 #[v, .int .i64 m] w fun e w' => ∃ v1 v2 v3, e = .returned (.agg #[v, v1, v2, v3, .int .i64 m]) ∧ OwnedB w v L.length m v1 v2 v3 w' := by
  obtain ⟨i0, hi0, hz0, hz1, hz2⟩ := info_parts Tryz.infoByteW
  obtain ⟨q, c, rfl⟩ := own_slice ho
  have HO := hide (show w.ownsRow base 5 1 (.slice q L.length c) L.length (L.map (Value.int .u8)) from ho)
  have HLT := hide ho.lt
  obtain ⟨n, hn⟩ : ∃ n, L.length = n := ⟨_, rfl⟩
  rw [hn] at HO hl HLT
  have HN := hide hn
  have hxin := markY_in m
  have hx : markY m = (m : Int) % 251 := rfl
  clear ho
  rw [hn]
  clear hn
  obtain ⟨Z, hZ⟩ : ∃ Z : Obj, Z = .cells #[.slice none 0 0, .slice none 0 0, .slice none 0 0, .slice none 0 0, .int .i64 0] 65 := ⟨_, rfl⟩
  have QR := hide (heap_alloc_new w Z)
  have BR := hide ((Below.refl w.heap.size w).alloc (Nat.le_refl _) Z)
  rw [hZ] at QR BR
  clear hZ Z
  go_enter Tryz.func79, Tryz.ntmps79
  go_wp2_with fail
  go_loopw [6] (fun i wr => ∃ k : Nat, k ≤ n ∧ i = .int .i64 k ∧ wr.ownsRow base 5 1 (.slice q n c) n ((List.replicate k (markY m) ++ L.drop k).map (Value.int .u8)) ∧ Fr (fun j => (Value.slice q n c).ownBlock = some j) w (fun j => (Value.slice q n c).ownBlock = some j) wr ∧ wr.heap[w.heap.size]? = some (.cells #[.slice none 0 0, .slice none 0 0, .slice none 0 0, .slice none 0 0, .int .i64 0] 65 (0, 0))) (fun i _ => n - (intOf i).toNat)
  case atStart => exact ⟨0, Nat.zero_le _, rfl, by simpa using World.ownsRow.alloc (unhide HO) _, (Fr.refl _ _).alloc _, unhide QR⟩
  case round =>
    rename World => WR
    obtain ⟨k, hk, rfl, how, hfr, hbk⟩ := hrel
    have OW := hide how
    have FR := hide hfr
    have BK := hide hbk
    clear how hfr hbk
    by_cases hlt : k < n
    · obtain ⟨g, rfl⟩ := own_q (unhide OW) (by omega)
      have hlt2 : k < L.length := by rw [unhide HN]; exact hlt
      have hc := (unhide OW).cells (g := g) rfl k (.int .u8 L[k]) (by
        rw [List.getElem?_map, List.getElem?_append_right (by simp)]; simp [hlt2])
      rw [addr_add] at hc
      have hf := owns_frozen (unhide OW) k
      have HS := hide (owns_set (j := k) (unhide OW) (.int .u8 (markY m)))
      have hgne : g ≠ w.heap.size := by have := (unhide HLT g rfl).2; omega
      go_wp2
      go_roundw
      case rel =>
        refine ⟨k + 1, by omega, by go_num, ?_, (unhide FR).setCell (p := ⟨g, k, none⟩) (Or.inl rfl) _, ?_⟩
        · have := unhide HS
          rw [← List.map_set, rep_set k _ L hlt2] at this
          exact this
        · rw [heap_set_other (by exact fun e => hgne e.symm)]; exact unhide BK
      case measure => simp [intOf]; omega
    · have hkn : k = n := by omega
      subst hkn
      have OW0 : Hid (WR.ownsRow base 5 1 (.slice q k c) k ((List.replicate k (markY m)).map (Value.int .u8))) := by
        have := unhide OW
        rwa [List.drop_of_length_le (by rw [unhide HN]; exact Nat.le_refl _), List.append_nil] at this
      clear OW
      have hs0 := (unhide FR).size
      have hbw : base ≤ WR.heap.size := by omega
      have hlR : w.heap.size < WR.heap.size := heap_lt (unhide BK)
      have vlt := hide (unhide OW0).lt
      have vne : (Value.slice q k c).ownBlock ≠ some w.heap.size := fun e => by have := (unhide HLT _ e).2; omega
      go_upto_region 7 with (at_builtin; refine wpList_append_two rfl _ _ _ rfl base 5 i0 _ 1 1 Tryz.underlying63 hi0 hz0 hz1 hz2 rfl (by omega) (.slice q k c) k ((List.replicate k (markY m)).map (Value.int .u8)) rfl (World.ownsRow.alloc (unhide OW0) _) ⟨WR.heap.size, 0, none⟩ 1 1 [.int .u8 ((m : Int) % 251)] rfl rfl (World.news_of_block (heap_alloc_new _ _)) (by simp [Value.oneCell']) (by simp only [maxLen]; omega) (by omega) (by simp; omega) ?_; intro v1 w1 hown hold hgrow hat)
      have O1 := hide (OwnB.rep (j := 1) hown)
      have V1 := hide hold
      have M1 := hide (MarkB.own (unhide O1) hxin (by omega))
      have F1 := hide (((unhide FR).alloc _).grown hgrow (fun j hj => Or.inl hj))
      have BK1 := hide ((hgrow.block w.heap.size (by simp; omega) (fun e => vne e.symm)).trans ((Below.heap_alloc _ _ _ hlR).trans (unhide BK)))
      have A1 := hide (at_new (s := w.heap.size) (by simp; omega) hat)
      have N1 := hide (ne_new (s := w.heap.size) (by simp; omega) vne hat)
      have hs1 : WR.heap.size + 1 ≤ w1.heap.size := by have := hgrow.size; simpa using this
      obtain ⟨q1, c1, rfl⟩ := own_slice hown
      clear hown hold hgrow hat BK OW0 FR
      go_upto_region 8 with (at_builtin; refine wpList_append_two rfl _ _ _ rfl base 5 i0 _ 1 1 Tryz.underlying63 hi0 hz0 hz1 hz2 rfl (by omega) (.slice q k c) k ((List.replicate k (markY m)).map (Value.int .u8)) rfl (World.ownsRow.alloc (unhide V1) _) ⟨w1.heap.size, 0, none⟩ 2 2 [.int .u8 ((m : Int) % 251), .int .u8 ((m : Int) % 251)] rfl rfl (World.news_of_block (heap_alloc_new _ _)) (by simp [Value.oneCell']) (by simp only [maxLen]; omega) (by omega) (by simp; omega) ?_; intro v2 w2 hown hold hgrow hat)
      have O2 := hide (OwnB.rep (j := 2) hown)
      have V2 := hide hold
      have M2 := hide (MarkB.own (unhide O2) hxin (by omega))
      have M12 := hide (((unhide M1).alloc _).keep (unhide O2) (by omega) hgrow hat)
      have F2 := hide (((unhide F1).alloc _).grown hgrow (fun j hj => Or.inl hj))
      have BK2 := hide ((hgrow.block w.heap.size (by simp; omega) (fun e => vne e.symm)).trans ((Below.heap_alloc _ _ _ (by omega)).trans (unhide BK1)))
      have A2 := hide (at_new (s := w.heap.size) (by simp; omega) hat)
      have N2 := hide (ne_new (s := w.heap.size) (by simp; omega) vne hat)
      have hs2 : w1.heap.size + 1 ≤ w2.heap.size := by have := hgrow.size; simpa using this
      obtain ⟨q2, c2, rfl⟩ := own_slice hown
      clear hown hold hgrow hat BK1 V1 F1 M1 O1
      go_upto_region 9 with (at_builtin; refine wpList_append_two rfl _ _ _ rfl base 5 i0 _ 1 1 Tryz.underlying63 hi0 hz0 hz1 hz2 rfl (by omega) (.slice q k c) k ((List.replicate k (markY m)).map (Value.int .u8)) rfl (World.ownsRow.alloc (unhide V2) _) ⟨w2.heap.size, 0, none⟩ 3 3 [.int .u8 ((m : Int) % 251), .int .u8 ((m : Int) % 251), .int .u8 ((m : Int) % 251)] rfl rfl (World.news_of_block (heap_alloc_new _ _)) (by simp [Value.oneCell']) (by simp only [maxLen]; omega) (by omega) (by simp; omega) ?_; intro v3 w3 hown hold hgrow hat)
      have O3 := hide (OwnB.rep (j := 3) hown)
      have M3 := hide (MarkB.own (unhide O3) hxin (by omega))
      have M13 := hide (((unhide M12).alloc _).keep (unhide O3) (by omega) hgrow hat)
      have M23 := hide (((unhide M2).alloc _).keep (unhide O3) (by omega) hgrow hat)
      have M03 := hide (MarkB.own (n := k) (base := base) (by unfold OwnB; rw [List.length_replicate]; exact hold) hxin (by omega))
      have F3 := hide (((unhide F2).alloc _).grown hgrow (fun j hj => Or.inl hj))
      have BK3 := (hgrow.block w.heap.size (by simp; omega) (fun e => vne e.symm)).trans ((Below.heap_alloc _ _ _ (by omega)).trans (unhide BK2))
      have A3 := hide (at_new (s := w.heap.size) (by simp; omega) hat)
      have N3 := hide (ne_new (s := w.heap.size) (by simp; omega) vne hat)
      obtain ⟨q3, c3, rfl⟩ := own_slice hown
      obtain ⟨r0, r1, r2, r3, r4⟩ := five_cells BK3
      have hf : ∀ o, w3.frozen? ⟨w.heap.size, o, none⟩ = false := fun o => frozen_of_heap BK3
      have VNE := hide vne
      clear hown hold hgrow hat BK2 BK3 V2 F2 M12 M2 O2 O3 vne
      go_wp2
      refine bodyPost_ret (v := .agg #[.slice q k c, .slice q1 (k + 1) c1, .slice q2 (k + 2) c2, .slice q3 (k + 3) c3, .int .i64 m]) (by simp [results, Tryz.results79, go_sem, r0, r1, r2, r3, r4]) rfl ?_
      exact ⟨_, _, _, rfl, (unhide M03).set5 (unhide VNE) _ _ _ _ _, (unhide M13).set5 (unhide N1) _ _ _ _ _, (unhide M23).set5 (unhide N2) _ _ _ _ _, (unhide M3).set5 (unhide N3) _ _ _ _ _, (unhide F3).set5 (Nat.le_refl _) _ _ _ _ _, unhide A1, unhide A2, unhide A3⟩
end Go.Proofs.YtgdeeodifnegiaaGreatDoor
