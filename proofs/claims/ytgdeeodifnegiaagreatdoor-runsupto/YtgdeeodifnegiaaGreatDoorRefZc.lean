/- The reference's find. -/
import Derived.Test.YtgdeeodifnegiaaGreatDoorRefZb
namespace Go.Proofs.YtgdeeodifnegiaaGreatDoor.rf
open Go.RowKit

/-- the definitions of the policy in block pb, as far as names go -/
structure DefsIn (w : World) (pb : Nat) (ds : List Df) : Prop where
  big : ds.length ≤ 9223372036854775807
  val : ∃ o cap, w.cell? ⟨pb, 0, none⟩ = some (.slice o ds.length cap) ∧ ∀ i, (h : i < ds.length) → ∃ g, o = some ⟨g, 0, none⟩ ∧ w.cell? ⟨g, i * 10 + 1, none⟩ = some (.string ds[i].name.text) ∧ w.cell? ⟨g, i * 10 + 3, none⟩ = some (.bool ds[i].isWay) ∧ w.cell? ⟨g, i * 10 + 2, none⟩ = some (.int .i64 ds[i].name.at_)
theorem DefsIn.later {w w' : World} {pb : Nat} {ds : List Df} (h : DefsIn w pb ds) (hb : Below w.heap.size w w') : DefsIn w' pb ds := by
  obtain ⟨o, cap, h1, h2⟩ := h.val
  refine ⟨h.big, o, cap, cell_later hb h1, fun i hi => ?_⟩
  obtain ⟨g, e, h3, h4, h5⟩ := h2 i hi
  exact ⟨g, e, cell_later hb h3, cell_later hb h4, cell_later hb h5⟩
theorem findI_drop {name : ByteArray} {way : Bool} {ds : List Df} {i : Nat} (h : i < ds.length) : findI name way (ds.drop i) i = if (ds[i].name.text.toList == name.toList) = true ∧ (ds[i].isWay == way) = true then (i : Int) else findI name way (ds.drop (i + 1)) (i + 1) := by
  rw [List.drop_eq_getElem_cons h, findI]

set_option maxRecDepth 100000 in
set_option maxHeartbeats 3200000 in
theorem find_any {w : World} {pb : Nat} {ds : List Df} (h : DefsIn w pb ds) (name : ByteArray) (way : Bool) :
    Calls Tryz.prog 178 #[ptr pb, .string name, .bool way] w fun e w' => e = .returned (.int .i64 (findI name way ds 0)) ∧ w' = w := by
  obtain ⟨hbig, o, cap, c0, hd⟩ := h
  have HD := hide hd
  clear hd
  go_enter Tryz.func178, Tryz.ntmps178
  go_wp2_with fail
  go_loopg [7] ds.length (fun k i7 wr => ∃ i : Nat, i + k = ds.length ∧ i7 = .int .i64 i ∧ wr = w ∧ findI name way (ds.drop i) i = findI name way ds 0)
  case atStart => exact ⟨0, by omega, rfl, rfl, rfl⟩
  case round =>
    obtain ⟨i, hik, rfl, rfl, hwd⟩ := hrel
    have HWD := hide hwd
    clear hwd
    by_cases hi : i < ds.length
    · obtain ⟨g, rfl, k1, k3, _⟩ := unhide HD i hi
      have STP := hide (findI_drop (name := name) (way := way) hi)
      cases h1 : (ds[i].name.text.toList == name.toList) with
      | true =>
        cases h2 : (ds[i].isWay == way) with
        | true =>
          have FIN := hide (show (i : Int) = findI name way ds 0 from by rw [← unhide HWD, unhide STP, if_pos ⟨h1, h2⟩])
          generalize ds[i].isWay = bw at *
          go_wp2_with fail
          go_ret
          exact ⟨ret_int (unhide FIN), rfl⟩
        | false =>
          have FIN := hide (show findI name way (ds.drop (i + 1)) (i + 1) = findI name way ds 0 from by rw [← unhide HWD, unhide STP, if_neg (by simp [h2])])
          generalize ds[i].isWay = bw at *
          go_wp2_with fail
          go_roundg (ds.length - (i + 1))
          case measure => omega
          case rel => exact ⟨i + 1, by omega, by go_num, rfl, unhide FIN⟩
      | false =>
        have FIN := hide (show findI name way (ds.drop (i + 1)) (i + 1) = findI name way ds 0 from by rw [← unhide HWD, unhide STP, if_neg (by simp [h1])])
        go_wp2_with fail
        go_roundg (ds.length - (i + 1))
        case measure => omega
        case rel => exact ⟨i + 1, by omega, by go_num, rfl, unhide FIN⟩
    · have FIN := hide (show (-1 : Int) = findI name way ds 0 from by rw [← unhide HWD, List.drop_eq_nil_of_le (by omega), findI])
      go_wp2_with fail
      go_ret
      exact ⟨ret_int (unhide FIN), rfl⟩
end Go.Proofs.YtgdeeodifnegiaaGreatDoor.rf
