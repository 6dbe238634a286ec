/- strconv.Itoa of a number that is not below 0. -/
import Derived.Test.YtlhhdklendeikaaGreatDoorLexA
import Derived.Test.YtlhhdklendeikaaGreatDoorShA
import Derived.Test.YtlhhdklendeikaaGreatDoorRows
import Derived.Lib.AppendIntMem
import Derived.Test.YtlhhdklendeikaaGreatDoorKnB
import Derived.Deep.RegionHeld3
namespace Go.Proofs.YtlhhdklendeikaaGreatDoor
open Go.RowKit

/-- the table of powers, as Go's own text lays it -/
def PowTab (w : World) : Prop := Lib.TabIs Tryz.prog w (Rows.reckonedRow.named.getD 5 Rows.reckonedRow.func) .u64 Lib.pow10Tab
theorem PowTab.below {w w' : World} (h : PowTab w) (hb : Below w.heap.size w w') : PowTab w' := Lib.tabBelow_of_tabIs h w' hb
theorem itoa_any (u : Nat) (hu : u ≤ 4294967295) (w : World) (h : PowTab w) : Calls Tryz.prog 24 #[.int .i64 (u : Int)] w fun e w' => e = .returned (.string (bsA (Lib.decDigits u))) ∧ Below w.heap.size w w' := by
  refine (Any.strconv_Itoa Tryz.shItoa (u : Int) (by omega) (by omega) w h).mono ?_
  rintro e w' ⟨rfl, k, os, rfl⟩
  refine ⟨?_, Lib.below_grow _ _ (Nat.le_refl _) k os⟩
  rw [Lib.itoa, if_neg (by omega), Int.toNat_natCast]

end Go.Proofs.YtlhhdklendeikaaGreatDoor

namespace Go.Proofs.YtlhhdklendeikaaGreatDoor
open Go.RowKit

theorem and255 {x : Int} (h0 : 0 ≤ x) (h1 : x ≤ 4294967295) : bits .and .i64 x 255 = x % 256 := bits_mask .i64 62 (by decide) wraps_i64_62 8 (by decide) x h0 (by omega)
theorem text_cat (D1 D2 D3 D4 D5 : List UInt8) : bsA D1 ++ bsA [46] ++ bsA D2 ++ bsA [46] ++ bsA D3 ++ bsA [46] ++ bsA D4 ++ bsA [47] ++ bsA D5 = bsA (D1 ++ 46 :: (D2 ++ 46 :: (D3 ++ 46 :: (D4 ++ 47 :: D5)))) := by
  simp only [bsA_app]
  congr 1
  simp
def TextI (w : World) (l : Int) (W : World) : Prop := Below w.heap.size w W ∧ w.heap.size < W.heap.size ∧ W.cell? ⟨w.heap.size, 1, none⟩ = some (.int .i64 l)
theorem TextI.step {w : World} {l : Int} {W W' : World} (h : TextI w l W) (hb : Below W.heap.size W W') : TextI w l W' :=
  ⟨h.1.trans (hb.mono h.1.size), Nat.lt_of_lt_of_le h.2.1 hb.size, (hb.cell (p := ⟨w.heap.size, 1, none⟩) h.2.1).trans h.2.2⟩
set_option maxRecDepth 100000 in
set_option maxHeartbeats 400000 in
theorem text_any (a l : Int) (h0 : 0 ≤ a) (h1 : a ≤ 4294967295) (l0 : 0 ≤ l) (l1 : l ≤ 32) (w : World) (hpt : PowTab w) :
    Calls Tryz.prog 23 #[netV a l] w fun e w' => e = .returned (.string (bsA (pfxB (quadOf a) l.toNat))) ∧ Below w.heap.size w w' := by
  have HI1 := hide (fun (W : World) (hW : TextI w l W) => itoa_any (quadOf a).a (by have := (quad_ok h0 h1).1.1; omega) W (hpt.below hW.1))
  have HI2 := hide (fun (W : World) (hW : TextI w l W) => itoa_any (quadOf a).b (by have := (quad_ok h0 h1).1.2.1; omega) W (hpt.below hW.1))
  have HI3 := hide (fun (W : World) (hW : TextI w l W) => itoa_any (quadOf a).c (by have := (quad_ok h0 h1).1.2.2.1; omega) W (hpt.below hW.1))
  have HI4 := hide (fun (W : World) (hW : TextI w l W) => itoa_any (quadOf a).d (by have := (quad_ok h0 h1).1.2.2.2; omega) W (hpt.below hW.1))
  have HI5 := hide (fun (W : World) (hW : TextI w l W) => itoa_any l.toNat (by omega) W (hpt.below hW.1))
  have q1 : ((quadOf a).a : Int) = a / 16777216 := by show ((a / 16777216).toNat : Int) = _; omega
  have q2 : ((quadOf a).b : Int) = a / 65536 % 256 := by show ((a / 65536 % 256).toNat : Int) = _; omega
  have q3 : ((quadOf a).c : Int) = a / 256 % 256 := by show ((a / 256 % 256).toNat : Int) = _; omega
  have q4 : ((quadOf a).d : Int) = a % 256 := by show ((a % 256).toNat : Int) = _; omega
  have q5 : ((l.toNat : Nat) : Int) = l := by omega
  rw [q1] at HI1
  rw [q2] at HI2
  rw [q3] at HI3
  rw [q4] at HI4
  rw [q5] at HI5
  have m2 := and255 (x := a / 65536) (by omega) (by omega)
  have m3 := and255 (x := a / 256) (by omega) (by omega)
  have m4 := and255 (x := a) h0 h1
  obtain ⟨x1, hx1⟩ : ∃ x, a / 16777216 = x := ⟨_, rfl⟩
  obtain ⟨x2, hx2⟩ : ∃ x, a / 65536 % 256 = x := ⟨_, rfl⟩
  obtain ⟨x3, hx3⟩ : ∃ x, a / 256 % 256 = x := ⟨_, rfl⟩
  obtain ⟨x4, hx4⟩ : ∃ x, a % 256 = x := ⟨_, rfl⟩
  rw [hx1] at HI1
  rw [hx2] at HI2 m2
  rw [hx3] at HI3 m3
  rw [hx4] at HI4 m4
  have HT : Hid (TextI w l (w.alloc (netBlk a l)).drew) := hide ⟨((Below.refl w.heap.size w).alloc (Nat.le_refl _) (netBlk a l)).drew, by show _ < (w.alloc (netBlk a l)).heap.size; simp, cell_of_heap (heap_alloc_new w (netBlk a l))⟩
  have HQ := hide (quad_ok h0 h1).1
  have n1 := dec_len (u := (quadOf a).a) (by have := (quad_ok h0 h1).1.1; omega)
  have n2 := dec_len (u := (quadOf a).b) (by have := (quad_ok h0 h1).1.2.1; omega)
  have n3 := dec_len (u := (quadOf a).c) (by have := (quad_ok h0 h1).1.2.2.1; omega)
  have n4 := dec_len (u := (quadOf a).d) (by have := (quad_ok h0 h1).1.2.2.2; omega)
  have n5 := dec_len (u := l.toNat) (by omega)
  have HE : pfxB (quadOf a) l.toNat = Lib.decDigits (quadOf a).a ++ 46 :: (Lib.decDigits (quadOf a).b ++ 46 :: (Lib.decDigits (quadOf a).c ++ 46 :: (Lib.decDigits (quadOf a).d ++ 47 :: Lib.decDigits l.toNat))) := by
    simp [pfxB, befB]
  rw [HE]
  have HF := hide (text_cat (Lib.decDigits (quadOf a).a) (Lib.decDigits (quadOf a).b) (Lib.decDigits (quadOf a).c) (Lib.decDigits (quadOf a).d) (Lib.decDigits l.toNat))
  generalize Lib.decDigits (quadOf a).a = D1 at *
  generalize Lib.decDigits (quadOf a).b = D2 at *
  generalize Lib.decDigits (quadOf a).c = D3 at *
  generalize Lib.decDigits (quadOf a).d = D4 at *
  generalize Lib.decDigits l.toNat = D5 at *
  rw [← bsA_size] at n1 n2 n3 n4 n5
  rw [← unhide HF]
  clear hpt q1 q2 q3 q4 q5 HQ HE hx2 hx3 hx4 HF
  generalize bsA D1 = s1 at *
  generalize bsA D2 = s2 at *
  generalize bsA D3 = s3 at *
  generalize bsA D4 = s4 at *
  generalize bsA D5 = s5 at *
  have c1 : (9223372036854775807 < s1.size + 1) = False := eq_false (by omega)
  have c2 : (9223372036854775807 < s1.size + 1 + s2.size) = False := eq_false (by omega)
  have c3 : (9223372036854775807 < s1.size + 1 + s2.size + 1) = False := eq_false (by omega)
  have c4 : (9223372036854775807 < s1.size + 1 + s2.size + 1 + s3.size) = False := eq_false (by omega)
  have c5 : (9223372036854775807 < s1.size + 1 + s2.size + 1 + s3.size + 1) = False := eq_false (by omega)
  have c6 : (9223372036854775807 < s1.size + 1 + s2.size + 1 + s3.size + 1 + s4.size) = False := eq_false (by omega)
  have c7 : (9223372036854775807 < s1.size + 1 + s2.size + 1 + s3.size + 1 + s4.size + 1) = False := eq_false (by omega)
  have c8 : (9223372036854775807 < s1.size + 1 + s2.size + 1 + s3.size + 1 + s4.size + 1 + s5.size) = False := eq_false (by omega)
  go_enter Tryz.func23, Tryz.ntmps23
  go_wp2_with fail
  go_region_held3 (fun W' => W'.cell? ⟨w.heap.size, 1, none⟩ = some (.int .i64 l)) (first | go_keep | assumption | exact (unhide HT).2.2) (first
    | (go_at_call 24; refine ((unhide HI1) _ (unhide HT)).mono ?_; clear HI1; rintro e w1 ⟨rfl, hb1⟩; replace HT := hide ((unhide HT).step hb1); have hcl := (unhide HT).2.2; clear hb1)
    | (go_at_call 24; refine ((unhide HI2) _ (unhide HT)).mono ?_; clear HI2; rintro e w1 ⟨rfl, hb1⟩; replace HT := hide ((unhide HT).step hb1); have hcl := (unhide HT).2.2; clear hb1)
    | (go_at_call 24; refine ((unhide HI3) _ (unhide HT)).mono ?_; clear HI3; rintro e w1 ⟨rfl, hb1⟩; replace HT := hide ((unhide HT).step hb1); have hcl := (unhide HT).2.2; clear hb1)
    | (go_at_call 24; refine ((unhide HI4) _ (unhide HT)).mono ?_; clear HI4; rintro e w1 ⟨rfl, hb1⟩; replace HT := hide ((unhide HT).step hb1); have hcl := (unhide HT).2.2; clear hb1)
    | (go_at_call 24; refine ((unhide HI5) _ (unhide HT)).mono ?_; clear HI5; rintro e w1 ⟨rfl, hb1⟩; replace HT := hide ((unhide HT).step hb1); have hcl := (unhide HT).2.2; clear hb1))
  go_wp2_with fail
  go_ret
  exact ⟨rfl, (unhide HT).1⟩
end Go.Proofs.YtlhhdklendeikaaGreatDoor
