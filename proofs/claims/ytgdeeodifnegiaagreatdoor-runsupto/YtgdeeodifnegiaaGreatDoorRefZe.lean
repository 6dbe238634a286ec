/- The reference's names. -/
import Derived.Test.YtgdeeodifnegiaaGreatDoorRefZd
namespace Go.Proofs.YtgdeeodifnegiaaGreatDoor.rf
open Go.RowKit

theorem seenB_succ {ds : List Df} {k : Nat} (h : k < ds.length) (x : ByteArray) : seenB (ds.take (k + 1)) x = (seenB (ds.take k) x || (ds[k].name.text.toList == x.toList)) := by
  unfold seenB; rw [List.take_succ_eq_append_getElem h, List.any_append]; simp
theorem seenB_of {ds : List Df} {k i : Nat} (hk : k < i) (h : i ≤ ds.length) (x : ByteArray) (e : ((ds[k]'(by omega)).name.text.toList == x.toList) = true) : seenB (ds.take i) x = true := by
  unfold seenB; rw [List.any_eq_true]
  exact ⟨ds[k]'(by omega), by rw [List.mem_take_iff_getElem]; exact ⟨k, by omega, rfl⟩, e⟩
theorem dups_yes {ds : List Df} {body : Tr} {i : Nat} (h : i < ds.length) (hs : seenB (ds.take i) ds[i].name.text = true) : dups ds body (ds.length - i) i = ds[i].name.at_ := by
  rw [show ds.length - i = (ds.length - (i + 1)) + 1 by omega, dups, dif_pos h, if_pos hs]
theorem dups_no {ds : List Df} {body : Tr} {i : Nat} (h : i < ds.length) (hs : seenB (ds.take i) ds[i].name.text = false) : dups ds body (ds.length - i) i = dups ds body (ds.length - (i + 1)) (i + 1) := by
  rw [show ds.length - i = (ds.length - (i + 1)) + 1 by omega, dups, dif_pos h, if_neg (by rw [hs]; simp)]
theorem dups_end {ds : List Df} {body : Tr} : dups ds body (ds.length - ds.length) ds.length = strayT ds body := by rw [Nat.sub_self, dups]
theorem drewN_add (w : World) (a b : Nat) : (w.drewN a).drewN b = w.drewN (a + b) := by simp [World.drewN, Nat.add_assoc]

set_option maxRecDepth 100000 in
set_option maxHeartbeats 6400000 in
theorem names_any {w : World} {pb : Nat} {ds : List Df} {Q : Nat → Prop} {body : Tr} {op text : ByteArray} {n a : Int} {o : Option Addr} {c l : Nat} (h : DefsIn w pb ds) (hb : TrAt w Q body (treeV op text n a (.slice o c l)))
    (b1 : w.cell? ⟨pb, 1, none⟩ = some (.string op)) (b2 : w.cell? ⟨pb, 2, none⟩ = some (.string text)) (b3 : w.cell? ⟨pb, 3, none⟩ = some (.int .i64 n)) (b4 : w.cell? ⟨pb, 4, none⟩ = some (.int .i64 a)) (b5 : w.cell? ⟨pb, 5, none⟩ = some (.slice o c l)) :
    Calls Tryz.prog 71 #[ptr pb] w fun e w' => e = .returned (.int .i64 (namesP ds body)) ∧ Below w.heap.size w w' := by
  have HDI := hide h
  have HB := hide hb
  obtain ⟨hbig, oo, cap, c0, hd⟩ := h
  have HD := hide hd
  clear hd hb
  go_enter Tryz.func71, Tryz.ntmps71
  go_wp2_with fail
  go_loopg [3] ds.length (fun k i3 wr => ∃ i nd : Nat, i + k = ds.length ∧ i3 = .int .i64 i ∧ wr = w.drewN nd ∧ dups ds body (ds.length - i) i = namesP ds body)
  case atStart => exact ⟨0, 0, by omega, rfl, rfl, rfl⟩
  case round =>
    obtain ⟨i, nd, hik, rfl, rfl, hdu⟩ := hrel
    have HDU := hide hdu
    clear hdu
    by_cases hi : i < ds.length
    · obtain ⟨g, rfl, k1, k3, k2⟩ := unhide HD i hi
      go_wp2_with fail
      go_loopg [4] i (fun k i4 wr => ∃ j md : Nat, j + k = i ∧ i4 = .int .i64 j ∧ wr = w.drewN md ∧ seenB (ds.take j) ds[i].name.text = false)
      case atStart => exact ⟨0, nd, by omega, rfl, rfl, rfl⟩
      case round =>
        obtain ⟨j, md, hjk, rfl, rfl, hse⟩ := hrel
        have HSE := hide hse
        clear hse
        by_cases hj : j < i
        · obtain ⟨g', hg', m1, m3, m2⟩ := unhide HD j (by omega)
          obtain rfl : g = g' := by simpa using hg'
          clear hg' m3 m2
          have u1 : (0 : Int) ≤ (i : Int) := by omega
          have u2 : (i : Int) < (ds.length : Int) := by omega
          have u3 : (0 : Int) ≤ (j : Int) := by omega
          have u4 : (j : Int) < (ds.length : Int) := by omega
          cases he : (ds[j].name.text.toList == ds[i].name.text.toList) with
          | true =>
            have FIN := hide (show ((ds[i].name.at_ : Nat) : Int) = namesP ds body from by rw [← unhide HDU, dups_yes hi (seenB_of hj (by omega) _ he)])
            go_wp2_with fail
            go_quiet (fail)
            go_wp2_with fail
            go_ret
            exact ⟨ret_int (unhide FIN), by exact below_drewN (Below.refl _ _) _⟩
          | false =>
            have FIN := hide (show seenB (ds.take (j + 1)) ds[i].name.text = false from by rw [seenB_succ (by omega), unhide HSE, he]; rfl)
            go_wp2_with fail
            go_quiet (fail)
            go_wp2_with fail
            go_roundg (i - (j + 1))
            case measure => omega
            case rel => exact ⟨j + 1, _, by omega, by go_num, rfl, unhide FIN⟩
        · obtain rfl : j = i := by omega
          have FIN := hide (show dups ds body (ds.length - (j + 1)) (j + 1) = namesP ds body from by rw [← unhide HDU, dups_no hi (unhide HSE)])
          go_wp2_with fail
          go_roundg (ds.length - (j + 1))
          case measure => omega
          case rel => exact ⟨j + 1, _, by omega, by go_num, rfl, unhide FIN⟩
    · obtain rfl : i = ds.length := by omega
      have FIN := hide (show strayT ds body = namesP ds body from by rw [← unhide HDU, dups_end])
      have HBN : TrAt (w.drewN nd) Q body (treeV op text n a (.slice o c l)) := TrAt.keep (w := w) (w' := w.drewN nd) (fun _ _ _ => rfl) (fun _ _ h => h) _ _ (unhide HB)
      have A1 := hide (stray_any pb ds _ body (w.drewN nd) Q _ (Nat.le_refl _) ((unhide HDI).later (below_drewN (Below.refl _ _) _)) HBN)
      clear HBN
      go_wp2_with fail
      refine (unhide A1).mono ?_
      rintro e w9 ⟨rfl, hb9⟩
      go_wp2_with fail
      go_ret
      exact ⟨ret_int (unhide FIN), (below_drewN (Below.refl _ _) nd).trans ⟨hb9.os, hb9.tape, hb9.output, hb9.size, hb9.block⟩⟩
end Go.Proofs.YtgdeeodifnegiaaGreatDoor.rf
