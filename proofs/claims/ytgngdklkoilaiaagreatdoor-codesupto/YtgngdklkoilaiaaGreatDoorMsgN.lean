/- The program's cutCounted (package messages): a part and what is behind it. -/
import Derived.Test.YtgngdklkoilaiaaGreatDoorMsgM
namespace Go.Proofs.YtgngdklkoilaiaaGreatDoor
open Go.RowKit

def cutC (l : List Int) : Option (List Int × List Int) :=
  if l.length < 2 then none else if (l.drop 2).length < (valB (l.take 2)).toNat then none else some ((l.drop 2).take (valB (l.take 2)).toNat, (l.drop 2).drop (valB (l.take 2)).toNat)
theorem partsP_cut (b : List Int) : partsP b = (cutC b).bind (fun x => (cutC x.2).map (fun y => (x.1, y.1, y.2))) := by
  unfold partsP cutC
  by_cases h1 : b.length < 2
  · rw [if_pos h1, if_pos h1]; rfl
  rw [if_neg h1, if_neg h1]
  generalize (valB (b.take 2)).toNat = n
  generalize b.drop 2 = r
  by_cases h2 : r.length < n
  · rw [if_pos (by omega), if_pos h2]; rfl
  rw [if_neg h2]
  simp only [Option.bind_some]
  have hd : (r.drop n).drop 2 = r.drop (n + 2) := by rw [List.drop_drop]
  by_cases h3 : r.length < n + 2
  · rw [if_pos h3, if_pos (show (r.drop n).length < 2 by rw [List.length_drop]; omega)]; rfl
  rw [if_neg h3, if_neg (show ¬ (r.drop n).length < 2 by rw [List.length_drop]; omega), hd]
  by_cases h4 : (r.drop (n + 2)).length < (valB ((r.drop n).take 2)).toNat
  · rw [if_pos h4, if_pos h4]; rfl
  · rw [if_neg h4, if_neg h4]; rfl
/-- what cutCounted gives -/
def CutC (l : List Int) (wB w : World) (e : Ending) (w' : World) : Prop :=
  Below w.heap.size w w' ∧ match cutC l with
    | none => e = .returned (.tuple #[.slice none 0 0, .slice none 0 0, .bool false])
    | some (p, q) => ∃ vp vq, e = .returned (.tuple #[vp, vq, .bool true]) ∧ BytesAt wB vp p ∧ BytesAt wB vq q
theorem CutC.no {wB w w' : World} {l : List Int} (hb : Below w.heap.size w w') (h : cutC l = none) : CutC l wB w (.returned (.tuple #[.slice none 0 0, .slice none 0 0, .bool false])) w' := by
  refine ⟨hb, ?_⟩; rw [h]
theorem CutC.yes {wB w w' : World} {l p q : List Int} {vp vq : Value} (hb : Below w.heap.size w w') (h : cutC l = some (p, q)) (h1 : BytesAt wB vp p) (h2 : BytesAt wB vq q) : CutC l wB w (.returned (.tuple #[vp, vq, .bool true])) w' := by
  refine ⟨hb, ?_⟩; rw [h]; exact ⟨_, _, rfl, h1, h2⟩

set_option maxRecDepth 100000 in
set_option maxHeartbeats 1600000 in
theorem cutCounted_any (l : List Int) (x : Value) (wB w : World) (hB : Below wB.heap.size wB w) (h : BytesAt wB x l) :
    Calls Tryz.prog 183 #[x] w (CutC l wB w) := by
  have HBB := hide hB
  clear hB
  have HX := hide h
  obtain ⟨p, c, rfl, hcap, hl, hin, hr⟩ := h
  by_cases h2 : l.length < 2
  · have HF := hide (show cutC l = none from by unfold cutC; rw [if_pos h2])
    clear hr hin
    go_enter Tryz.func183, Tryz.ntmps183
    go_wp2
    go_ret3
    exact CutC.no (Below.refl _ _) (unhide HF)
  · rcases hr with h | ⟨b, o, rfl, hb, hc⟩
    · exfalso; rw [h.1] at h2; simp at h2
    have hv1 := val2_bd (bytesOk_take hin 2) (by simp; omega)
    obtain ⟨n, hn⟩ : ∃ n : Nat, valB (l.take 2) = (n : Int) := ⟨(valB (l.take 2)).toNat, by omega⟩
    have HN := hide hn
    rw [hn] at hv1
    have T2 := hide (((unhide HX).head (i := 2) (by omega)).below (unhide HBB))
    have HCU := hide (show cutC l = if (l.drop 2).length < n then none else some ((l.drop 2).take n, (l.drop 2).drop n) from by unfold cutC; rw [if_neg h2, hn, Int.toNat_natCast])
    have HL2 := hide (show (l.drop 2).length = l.length - 2 from by rw [List.length_drop])
    have NX : ∃ b2 o2 n2 k2, Hid (BytesAt wB (.slice (some ⟨b2, o2, none⟩) n2 k2) (l.drop 2)) ∧ n2 ≤ k2 ∧ n2 = l.length - 2 ∧ ((2 < c ∧ b2 = b ∧ o2 = o + 2 ∧ k2 = c - 2) ∨ (c = 2 ∧ l.length = 2 ∧ b2 = b ∧ o2 = o ∧ k2 = 0)) := by
      by_cases hcc : 2 < c
      · exact ⟨_, _, _, _, hide ((unhide HX).cut (i := 2) (by omega) hcc), by omega, rfl, Or.inl ⟨hcc, rfl, rfl, rfl⟩⟩
      · exact ⟨_, _, _, _, hide ((unhide HX).cutEnd (i := 2) (by omega)), by omega, by omega, Or.inr ⟨by omega, by omega, rfl, rfl, rfl⟩⟩
    clear hn hin hc
    obtain ⟨b2, o2, n2, k2, HNX, hnk, hn2, hor⟩ := NX
    obtain ⟨R, hR⟩ : ∃ R, l.drop 2 = R := ⟨_, rfl⟩
    rw [hR] at HNX HCU HL2
    clear hR
    obtain ⟨N, hNN⟩ : ∃ N, l.length = N := ⟨_, rfl⟩
    rw [hNN] at HX hcap hl h2 HL2 hn2 hor ⊢
    clear hNN
    rcases hor with ⟨hcc, rfl, rfl, rfl⟩ | ⟨rfl, rfl, rfl, rfl, rfl⟩
    · go_enter Tryz.func183, Tryz.ntmps183
      go_wp2_with fail
      go_quiet ((go_at_call 229; exact Calls.quiet_of_same (number_any (l.take 2) _ _ (unhide T2) (by simp; omega))))
      rw [unhide HN]
      have HWW := hide (show Below w.heap.size w (w.drewN nq) from below_drewN (Below.refl _ _) _)
      subst hn2
      by_cases h3 : N - 2 < n
      · have HF := hide (show cutC l = none from by rw [unhide HCU, if_pos (by rw [unhide HL2]; exact h3)])
        go_wp2
        go_ret3
        exact CutC.no (unhide HWW) (unhide HF)
      · have HF := hide (show cutC l = some (R.take n, R.drop n) from by rw [unhide HCU, if_neg (by rw [unhide HL2]; exact h3)])
        have HP := hide ((unhide HNX).head (i := n) (by omega))
        by_cases hk : n < c - 2
        · have HQ := hide ((unhide HNX).cut (i := n) (by omega) hk)
          go_wp2_with fail
          go_quiet (fail)
          go_wp2
          go_ret3
          exact CutC.yes (by exact below_drewN (unhide HWW) _) (unhide HF) (unhide HP) (unhide HQ)
        · have HQ := hide ((unhide HNX).cutEnd (i := n) (by omega))
          have e1 : c - 2 - n = 0 := by omega
          have e2 : N - 2 - n = 0 := by omega
          go_wp2_with fail
          go_quiet (fail)
          go_wp2
          go_ret3
          exact CutC.yes (by exact below_drewN (unhide HWW) _) (unhide HF) (unhide HP) (unhide HQ)
    · clear hl hcap h2 HX hnk
      obtain rfl : n2 = 0 := by omega
      clear hn2
      go_enter Tryz.func183, Tryz.ntmps183
      go_wp2_with fail
      go_quiet ((go_at_call 229; exact Calls.quiet_of_same (number_any (l.take 2) _ _ (unhide T2) (by simp; omega))))
      rw [unhide HN]
      have HWW := hide (show Below w.heap.size w (w.drewN nq) from below_drewN (Below.refl _ _) _)
      by_cases h3 : 0 < n
      · have HF := hide (show cutC l = none from by rw [unhide HCU, if_pos (by rw [unhide HL2]; exact h3)])
        go_wp2
        go_ret3
        exact CutC.no (unhide HWW) (unhide HF)
      · have HF := hide (show cutC l = some (R.take n, R.drop n) from by rw [unhide HCU, if_neg (by rw [unhide HL2]; exact h3)])
        have HP := hide ((unhide HNX).head (i := n) (by omega))
        have HQ := hide ((unhide HNX).cutEnd (i := n) (by omega))
        obtain rfl : n = 0 := by omega
        simp only [Int.ofNat_zero]
        go_wp2_with fail
        go_quiet (fail)
        go_wp2
        go_ret3
        exact CutC.yes (by exact below_drewN (unhide HWW) _) (unhide HF) (unhide HP) (unhide HQ)
end Go.Proofs.YtgngdklkoilaiaaGreatDoor
