/- The owner's marks on lists of nets (package bywaylaw): allNets, Nets.still, ownNets. -/
import Derived.Test.YtgdeeodifnegiaaGreatDoorLawC
import Derived.Deep.RegionWith
import Derived.Deep.DeepCutAuto
import Derived.Deep.CutBlock
namespace Go.Proofs.YtgdeeodifnegiaaGreatDoor
open Go.RowKit

theorem NetsAt.rep {w : World} {v : Value} {n : Nat} {x : Int × Int} (h : NetsAt w v (List.replicate n x)) : ∃ p c, v = .slice p n c := by
  obtain ⟨p, c, hv, -⟩ := h
  exact ⟨p, c, by rw [hv, List.length_replicate]⟩
def markN (m : Nat) : Int × Int := (markX m, 0)
theorem markN_in {m : Nat} (h : m ≤ 1099511627776) : inI (markN m).1 ∧ inI (markN m).2 := ⟨markX_in h, by unfold markN inI; omega⟩
set_option maxHeartbeats 400000 in
theorem allNets_any (n m : Nat) (v : Value) (w : World) (hm : m ≤ 1099511627776) (h : NetsAt w v (List.replicate n (markN m))) :
    Calls Tryz.prog 62 #[v, .int .i64 m] w fun e w' => e = .returned (.bool true) ∧ w' = w := by
  obtain ⟨p, c, rfl, hcap, hl, hin, hr⟩ := h
  rw [List.length_replicate] at *
  have HR := hide hr
  clear hr hin
  have hx : markX m = -1000 - (m : Int) := rfl
  go_enter Tryz.func62, Tryz.ntmps62
  go_wp2
  go_loop [5] (fun i => ∃ k : Nat, k ≤ n ∧ i = .int .i64 k) (fun i => n - (intOf i).toNat)
  case atStart => exact ⟨0, Nat.zero_le _, rfl⟩
  case round =>
    obtain ⟨k, hk, rfl⟩ := hrel
    by_cases hlt : k < n
    · rcases unhide HR with h | ⟨b, o, rfl, hb, hc⟩
      · have := congrArg List.length h.1; simp at this; omega
      have hck := hc k (by rw [List.length_replicate]; exact hlt)
      rw [List.getElem_replicate] at hck
      obtain ⟨c1, c2⟩ := hck
      simp only [markN] at c1 c2
      rw [hx] at c1
      clear hc hx
      go_wp2
      go_round
      case rel => exact ⟨k + 1, by omega, by go_num⟩
      case measure => simp [intOf]; omega
    · go_wp2
      go_ret
      exact ⟨rfl, rfl⟩

set_option maxRecDepth 100000 in
set_option maxHeartbeats 800000 in
theorem Nets_still_any (n0 n1 n2 n3 m : Nat) (v0 v1 v2 v3 : Value) (w : World) (hm : m ≤ 1099511627776) (h0 : NetsAt w v0 (List.replicate n0 (markN m))) (h1 : NetsAt w v1 (List.replicate n1 (markN m)))
    (h2 : NetsAt w v2 (List.replicate n2 (markN m))) (h3 : NetsAt w v3 (List.replicate n3 (markN m))) :
    Calls Tryz.prog 21 #[.agg #[v0, v1, v2, v3, .int .i64 m]] w fun e w' => e = .returned (.bool true) ∧ Below w.heap.size w w' := by
  have H0 := hide h0
  have H1 := hide h1
  have H2 := hide h2
  have H3 := hide h3
  obtain ⟨p0, c0, rfl⟩ := h0.rep
  obtain ⟨p1, c1, rfl⟩ := h1.rep
  obtain ⟨p2, c2, rfl⟩ := h2.rep
  obtain ⟨p3, c3, rfl⟩ := h3.rep
  have BA := hide ((Below.refl w.heap.size w).alloc (Nat.le_refl _) (.cells #[.slice p0 n0 c0, .slice p1 n1 c1, .slice p2 n2 c2, .slice p3 n3 c3, .int .i64 m] 69))
  go_enter Tryz.func21, Tryz.ntmps21
  go_wp2_with fail
  refine (allNets_any n0 m _ _ hm ((unhide H0).below (unhide BA))).mono ?_
  rintro e w1 ⟨rfl, rfl⟩
  go_wp2_with fail
  refine (allNets_any n1 m _ _ hm ((unhide H1).below (unhide BA))).mono ?_
  rintro e w1 ⟨rfl, rfl⟩
  go_wp2_with fail
  refine (allNets_any n2 m _ _ hm ((unhide H2).below (unhide BA))).mono ?_
  rintro e w1 ⟨rfl, rfl⟩
  go_wp2_with fail
  refine (allNets_any n3 m _ _ hm ((unhide H3).below (unhide BA))).mono ?_
  rintro e w1 ⟨rfl, rfl⟩
  go_wp2
  go_ret
  exact ⟨rfl, unhide BA⟩

theorem MarkN.alloc {w : World} {v : Value} {n : Nat} {x : Int × Int} (h : MarkN w v n x) (o : Obj) : MarkN (w.alloc o) v n x := ⟨h.1.below ((Below.refl _ _).alloc (Nat.le_refl _) o), h.2⟩
theorem OwnN.rep {w : World} {base k j : Nat} {v : Value} {x : Int × Int} (h : w.ownsRow base 25 2 v (k + j) (netCells (List.replicate k x) ++ netCells (List.replicate j x))) : OwnN w base v (List.replicate (k + j) x) := by
  rw [← netCells_append, List.replicate_append_replicate] at h
  unfold OwnN
  rw [List.length_replicate]; exact h
theorem netCells_set : ∀ (l : List (Int × Int)) (k : Nat) (x : Int × Int), ((netCells l).set (k * 2) (.int .i64 x.1)).set (k * 2 + 1) (.int .i64 x.2) = netCells (l.set k x) := by
  intro l
  induction l with
  | nil => intro k x; rfl
  | cons y l ih =>
    intro k x
    have e2 : netCells (y :: l) = .int .i64 y.1 :: .int .i64 y.2 :: netCells l := rfl
    cases k with
    | zero => rfl
    | succ k =>
      rw [List.set_cons_succ, e2, show (k + 1) * 2 = k * 2 + 1 + 1 by omega, List.set_cons_succ, List.set_cons_succ, List.set_cons_succ, List.set_cons_succ, ih k x]
      rfl
theorem repN_set (k : Nat) (x : Int × Int) (L : List (Int × Int)) (hk : k < L.length) : (List.replicate k x ++ L.drop k).set k x = List.replicate (k + 1) x ++ L.drop (k + 1) := by
  have e : L.drop k = L[k] :: L.drop (k + 1) := List.drop_eq_getElem_cons hk
  rw [List.set_append_right _ _ (by simp), List.length_replicate, Nat.sub_self, e, List.set_cons_zero, List.replicate_succ', List.append_assoc]
  rfl
theorem MarkN.set5 {w : World} {b n : Nat} {v : Value} {x : Int × Int} (h : MarkN w v n x) (hb : v.ownBlock ≠ some b) (x0 x1 x2 x3 x4 : Value) : MarkN (((((w.setCell ⟨b, 0, none⟩ x0).setCell ⟨b, 1, none⟩ x1).setCell ⟨b, 2, none⟩ x2).setCell ⟨b, 3, none⟩ x3).setCell ⟨b, 4, none⟩ x4) v n x :=
  h.of_block (by rw [size_set5]; exact Nat.le_refl _) (fun k hk => heap_set5 (fun e => hb (by rw [hk, e])))
/-- what ownNets gives: the list and the three begun at it bear the mark; nothing else that is old was written -/
structure OwnedN (w : World) (v : Value) (n m : Nat) (v1 v2 v3 : Value) (w' : World) : Prop where
  m0 : MarkN w' v n (markN m)
  m1 : MarkN w' v1 (n + 1) (markN m)
  m2 : MarkN w' v2 (n + 2) (markN m)
  m3 : MarkN w' v3 (n + 3) (markN m)
  fr : Fr (fun k => v.ownBlock = some k) w (fun k => v.ownBlock = some k) w'
  b1 : v1.ownBlock = v.ownBlock ∨ ∀ k, v1.ownBlock = some k → w.heap.size ≤ k
  b2 : v2.ownBlock = v.ownBlock ∨ ∀ k, v2.ownBlock = some k → w.heap.size ≤ k
  b3 : v3.ownBlock = v.ownBlock ∨ ∀ k, v3.ownBlock = some k → w.heap.size ≤ k
set_option maxRecDepth 100000 in
set_option maxHeartbeats 1600000 in
theorem ownNets_any (m : Nat) (L : List (Int × Int)) (v : Value) (w : World) (base : Nat) (hm : m ≤ 1099511627776) (ho : OwnN w base v L) (hb : base ≤ w.heap.size) (hl : L.length ≤ 16777216) :
    Calls Tryz.prog 89 #[v, .int .i64 m] w fun e w' => ∃ v1 v2 v3, e = .returned (.agg #[v, v1, v2, v3, .int .i64 m]) ∧ OwnedN w v L.length m v1 v2 v3 w' := by
  obtain ⟨i0, hi0, hz0, hz1, hz2⟩ := info_parts Tryz.infoNetW
  obtain ⟨q, c, rfl⟩ := own_slice ho
  have HO := hide (show w.ownsRow base 25 2 (.slice q L.length c) L.length (netCells L) from ho)
  have HLT := hide ho.lt
  obtain ⟨n, hn⟩ : ∃ n, L.length = n := ⟨_, rfl⟩
  rw [hn] at HO hl HLT
  have HN := hide hn
  have hxin := markN_in hm
  have HXI := hide hxin
  clear ho hxin
  rw [hn]
  clear hn
  have QR := hide (heap_alloc_new w (.cells #[.slice none 0 0, .slice none 0 0, .slice none 0 0, .slice none 0 0, .int .i64 0] 69))
  obtain ⟨wR, hwR⟩ : ∃ wR, w.alloc (.cells #[.slice none 0 0, .slice none 0 0, .slice none 0 0, .slice none 0 0, .int .i64 0] 69) = wR := ⟨_, rfl⟩
  rw [hwR] at QR
  have hsR : wR.heap.size = w.heap.size + 1 := by rw [← hwR]; simp
  have FRR := hide (show Fr (fun j => (Value.slice q n c).ownBlock = some j) w (fun j => (Value.slice q n c).ownBlock = some j) wR from by rw [← hwR]; exact (Fr.refl _ _).alloc _)
  have HOR := hide (show wR.ownsRow base 25 2 (.slice q n c) n (netCells L) from by rw [← hwR]; exact World.ownsRow.alloc (unhide HO) _)
  have QX := hide (heap_alloc_new wR (.cells #[.int .i64 (-1000 - (m : Int)), .int .i64 0] 25))
  rw [hsR] at QX
  have HSR := hide hsR
  have HWR := hide hwR
  clear hsR hwR
  go_enter Tryz.func89, Tryz.ntmps89
  go_wp2_with fail
  rw [unhide HWR]
  go_loopw [6] (fun i wr => ∃ k : Nat, k ≤ n ∧ i = .int .i64 k ∧ wr.ownsRow base 25 2 (.slice q n c) n (netCells (List.replicate k (markN m) ++ L.drop k)) ∧ Fr (fun j => (Value.slice q n c).ownBlock = some j) w (fun j => (Value.slice q n c).ownBlock = some j) wr ∧ wr.heap[w.heap.size]? = some (.cells #[.slice none 0 0, .slice none 0 0, .slice none 0 0, .slice none 0 0, .int .i64 0] 69 (0, 0)) ∧ wr.heap[w.heap.size + 1]? = some (.cells #[.int .i64 (-1000 - (m : Int)), .int .i64 0] 25 (0, 0))) (fun i _ => n - (intOf i).toNat)
  case atStart => exact ⟨0, Nat.zero_le _, rfl, by simpa using World.ownsRow.alloc (unhide HOR) _, (unhide FRR).alloc _, (Below.heap_alloc _ _ _ (by have := unhide HSR; omega)).trans (unhide QR), unhide QX⟩
  case round =>
    rename World => WR
    obtain ⟨k, hk, rfl, how, hfr, hbk, hbx⟩ := hrel
    have OW := hide how
    have FR := hide hfr
    have BK := hide hbk
    have BX := hide hbx
    have x0 : WR.cell? ⟨w.heap.size + 1, 0, none⟩ = some (.int .i64 (-1000 - (m : Int))) := cell_of_heap hbx
    have x1 : WR.cell? ⟨w.heap.size + 1, 1, none⟩ = some (.int .i64 0) := cell_of_heap hbx
    clear how hfr hbk hbx
    by_cases hlt : k < n
    · obtain ⟨g, rfl⟩ := own_q (unhide OW) (by omega)
      have hlt2 : k < L.length := by rw [unhide HN]; exact hlt
      have hgl := (unhide HLT g rfl).2
      obtain ⟨e1, e2⟩ := netCells_get (List.replicate k (markN m) ++ L.drop k) k (by simp; omega)
      have c0 := (unhide OW).cells (g := g) rfl _ _ e1
      have c1 := (unhide OW).cells (g := g) rfl _ _ e2
      rw [addr_add, Nat.mul_comm 2 k] at c0 c1
      have hf := owns_frozen (unhide OW)
      have HS := hide (owns_set (j := k * 2 + 1) (owns_set (j := k * 2) (unhide OW) (.int .i64 (-1000 - (m : Int)))) (.int .i64 0))
      clear e1 e2
      go_wp2
      go_roundw
      case rel =>
        refine ⟨k + 1, by omega, by go_num, ?_, ((unhide FR).setCell (p := ⟨g, k * 2, none⟩) (Or.inl rfl) _).setCell (p := ⟨g, k * 2 + 1, none⟩) (Or.inl rfl) _, ?_, ?_⟩
        · have := unhide HS
          rw [show (-1000 - (m : Int)) = (markN m).1 from rfl, show (0 : Int) = (markN m).2 from rfl, netCells_set, repN_set k _ L hlt2] at this
          exact this
        · rw [heap_set_other (by simp only; omega), heap_set_other (by simp only; omega)]; exact unhide BK
        · rw [heap_set_other (by simp only; omega), heap_set_other (by simp only; omega)]; exact unhide BX
      case measure => simp [intOf]; omega
    · have hkn : k = n := by omega
      subst hkn
      have OW0 : Hid (WR.ownsRow base 25 2 (.slice q k c) k (netCells (List.replicate k (markN m)))) := by
        have := unhide OW
        rwa [List.drop_of_length_le (by rw [unhide HN]; exact Nat.le_refl _), List.append_nil] at this
      clear OW
      have hs0 := (unhide FR).size
      have hbw : base ≤ WR.heap.size := by omega
      have hlR : w.heap.size < WR.heap.size := heap_lt (unhide BK)
      have vlt := hide (unhide OW0).lt
      have vne : (Value.slice q k c).ownBlock ≠ some w.heap.size := fun e => by have := (unhide HLT _ e).2; omega
      have vnx : (Value.slice q k c).ownBlock ≠ some (w.heap.size + 1) := fun e => by have := (unhide HLT _ e).2; omega
      have hlX : w.heap.size + 1 < WR.heap.size := heap_lt (unhide BX)
      go_upto_region 7 with (at_builtin; refine wpList_append_two rfl _ _ _ rfl base 25 i0 _ 2 16 Tryz.underlying29 hi0 hz0 hz1 hz2 rfl (by omega) (.slice q k c) k (netCells (List.replicate k (markN m))) rfl (World.ownsRow.alloc (unhide OW0) _) ⟨WR.heap.size, 0, none⟩ 1 1 [.int .i64 (-1000 - (m : Int)), .int .i64 0] rfl rfl (World.news_of_block (heap_alloc_new _ _)) (by simp [Value.oneCell']) (by simp only [maxLen]; omega) (by omega) (by simp; omega) ?_; intro v1 w1 hown hold hgrow hat)
      have O1 := hide (OwnN.rep (j := 1) hown)
      have V1 := hide hold
      have M1 := hide (MarkN.own (unhide O1) (unhide HXI) (by omega))
      have F1 := hide (((unhide FR).alloc _).grown hgrow (fun j hj => Or.inl hj))
      have BK1 := hide ((hgrow.block w.heap.size (by simp; omega) (fun e => vne e.symm)).trans ((Below.heap_alloc _ _ _ hlR).trans (unhide BK)))
      have BX1 := hide ((hgrow.block (w.heap.size + 1) (by simp; omega) (fun e => vnx e.symm)).trans ((Below.heap_alloc _ _ _ hlX).trans (unhide BX)))
      clear x0 x1
      have x0 : w1.cell? ⟨w.heap.size + 1, 0, none⟩ = some (.int .i64 (-1000 - (m : Int))) := cell_of_heap (unhide BX1)
      have x1 : w1.cell? ⟨w.heap.size + 1, 1, none⟩ = some (.int .i64 0) := cell_of_heap (unhide BX1)
      have A1 := hide (at_new (s := w.heap.size) (by simp; omega) hat)
      have N1 := hide (ne_new (s := w.heap.size) (by simp; omega) vne hat)
      have hs1 : WR.heap.size + 1 ≤ w1.heap.size := by have := hgrow.size; simpa using this
      obtain ⟨q1, c1, rfl⟩ := own_slice hown
      clear hown hold hgrow hat BK OW0 FR
      go_upto_region 8 with (at_builtin; refine wpList_append_two rfl _ _ _ rfl base 25 i0 _ 2 16 Tryz.underlying29 hi0 hz0 hz1 hz2 rfl (by omega) (.slice q k c) k (netCells (List.replicate k (markN m))) rfl (World.ownsRow.alloc (unhide V1) _) ⟨w1.heap.size, 0, none⟩ 2 2 [.int .i64 (-1000 - (m : Int)), .int .i64 0, .int .i64 (-1000 - (m : Int)), .int .i64 0] rfl rfl (World.news_of_block (heap_alloc_new _ _)) (by simp [Value.oneCell']) (by simp only [maxLen]; omega) (by omega) (by simp; omega) ?_; intro v2 w2 hown hold hgrow hat)
      have O2 := hide (OwnN.rep (j := 2) hown)
      have V2 := hide hold
      have M2 := hide (MarkN.own (unhide O2) (unhide HXI) (by omega))
      have M12 := hide (((unhide M1).alloc _).keep (unhide O2) (by omega) hgrow hat)
      have F2 := hide (((unhide F1).alloc _).grown hgrow (fun j hj => Or.inl hj))
      have BK2 := hide ((hgrow.block w.heap.size (by simp; omega) (fun e => vne e.symm)).trans ((Below.heap_alloc _ _ _ (by omega)).trans (unhide BK1)))
      have BX2 := hide ((hgrow.block (w.heap.size + 1) (by simp; omega) (fun e => vnx e.symm)).trans ((Below.heap_alloc _ _ _ (by omega)).trans (unhide BX1)))
      clear x0 x1
      have x0 : w2.cell? ⟨w.heap.size + 1, 0, none⟩ = some (.int .i64 (-1000 - (m : Int))) := cell_of_heap (unhide BX2)
      have x1 : w2.cell? ⟨w.heap.size + 1, 1, none⟩ = some (.int .i64 0) := cell_of_heap (unhide BX2)
      have A2 := hide (at_new (s := w.heap.size) (by simp; omega) hat)
      have N2 := hide (ne_new (s := w.heap.size) (by simp; omega) vne hat)
      have hs2 : w1.heap.size + 1 ≤ w2.heap.size := by have := hgrow.size; simpa using this
      obtain ⟨q2, c2, rfl⟩ := own_slice hown
      clear hown hold hgrow hat BK1 V1 F1 M1 O1
      go_upto_region 9 with (at_builtin; refine wpList_append_two rfl _ _ _ rfl base 25 i0 _ 2 16 Tryz.underlying29 hi0 hz0 hz1 hz2 rfl (by omega) (.slice q k c) k (netCells (List.replicate k (markN m))) rfl (World.ownsRow.alloc (unhide V2) _) ⟨w2.heap.size, 0, none⟩ 3 3 [.int .i64 (-1000 - (m : Int)), .int .i64 0, .int .i64 (-1000 - (m : Int)), .int .i64 0, .int .i64 (-1000 - (m : Int)), .int .i64 0] rfl rfl (World.news_of_block (heap_alloc_new _ _)) (by simp [Value.oneCell']) (by simp only [maxLen]; omega) (by omega) (by simp; omega) ?_; intro v3 w3 hown hold hgrow hat)
      have O3 := hide (OwnN.rep (j := 3) hown)
      have M3 := hide (MarkN.own (unhide O3) (unhide HXI) (by omega))
      have M13 := hide (((unhide M12).alloc _).keep (unhide O3) (by omega) hgrow hat)
      have M23 := hide (((unhide M2).alloc _).keep (unhide O3) (by omega) hgrow hat)
      have M03 := hide (MarkN.own (n := k) (base := base) (by unfold OwnN; rw [List.length_replicate]; exact hold) (unhide HXI) (by omega))
      have F3 := hide (((unhide F2).alloc _).grown hgrow (fun j hj => Or.inl hj))
      have BK3 := (hgrow.block w.heap.size (by simp; omega) (fun e => vne e.symm)).trans ((Below.heap_alloc _ _ _ (by omega)).trans (unhide BK2))
      have A3 := hide (at_new (s := w.heap.size) (by simp; omega) hat)
      have N3 := hide (ne_new (s := w.heap.size) (by simp; omega) vne hat)
      obtain ⟨q3, c3, rfl⟩ := own_slice hown
      obtain ⟨r0, r1, r2, r3, r4⟩ := five_cells BK3
      have hf : ∀ o, w3.frozen? ⟨w.heap.size, o, none⟩ = false := fun o => frozen_of_heap BK3
      have VNE := hide vne
      clear x0 x1 hown hold hgrow hat BK2 BK3 V2 F2 M12 M2 O2 O3 vne
      go_wp2
      refine bodyPost_ret (v := .agg #[.slice q k c, .slice q1 (k + 1) c1, .slice q2 (k + 2) c2, .slice q3 (k + 3) c3, .int .i64 m]) (by simp [results, Tryz.results89, go_sem, r0, r1, r2, r3, r4]) rfl ?_
      exact ⟨_, _, _, rfl, (unhide M03).set5 (unhide VNE) _ _ _ _ _, (unhide M13).set5 (unhide N1) _ _ _ _ _, (unhide M23).set5 (unhide N2) _ _ _ _ _, (unhide M3).set5 (unhide N3) _ _ _ _ _, (unhide F3).set5 (Nat.le_refl _) _ _ _ _ _, unhide A1, unhide A2, unhide A3⟩
end Go.Proofs.YtgdeeodifnegiaaGreatDoor
