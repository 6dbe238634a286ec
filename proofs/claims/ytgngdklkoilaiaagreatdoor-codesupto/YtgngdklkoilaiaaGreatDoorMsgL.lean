/- The program's number, address, readWord, readPairs (package messages): numbers out of bytes. -/
import Derived.Test.YtgngdklkoilaiaaGreatDoorMsgK
namespace Go.Proofs.YtgngdklkoilaiaaGreatDoor
open Go.RowKit

theorem or_byte {r X : Int} (r0 : 0 ≤ r) (r1 : r < 16777216) (x0 : 0 ≤ X) (x1 : X ≤ 255) : bits .or .i64 (r * 256) X = 256 * r + X := by
  rw [bits_join .i64 62 (by decide) wraps_i64_62 8 (r * 256) X (by omega) (by omega) (by omega) x0 (by omega) (by omega)]
  omega
set_option maxRecDepth 100000 in
set_option maxHeartbeats 800000 in
theorem number_any (l : List Int) (x : Value) (w : World) (h : BytesAt w x l) (hlen : l.length ≤ 4) :
    Calls Tryz.prog 229 #[x] w fun e w' => e = .returned (.int .i64 (valB l)) ∧ w' = w := by
  obtain ⟨p, c, rfl, hcap, hl, hin, hr⟩ := h
  have HR := hide hr
  have HIN := hide hin
  clear hr hin
  go_enter Tryz.func229, Tryz.ntmps229
  go_wp2
  go_loop [3, 8] (fun n i => ∃ (k : Nat) (r : Int), k ≤ l.length ∧ i = .int .i64 k ∧ n = .int .i64 r ∧ r = valB (l.take k)) (fun _ i => l.length - (intOf i).toNat)
  case atStart => exact ⟨0, 0, Nat.zero_le _, rfl, rfl, rfl⟩
  case round =>
    obtain ⟨k, r, hk, rfl, rfl, hrv⟩ := hrel
    have HRV := hide hrv
    clear hrv
    by_cases hlt : k < l.length
    · rcases unhide HR with h | ⟨b, o, rfl, hb, hc⟩
      · rw [h.1] at hlt; simp at hlt
      have hck := hc k hlt
      have hx := unhide HIN l[k] (List.getElem_mem _)
      obtain ⟨hx1, hx2⟩ := hx
      clear hc
      obtain ⟨X, hX⟩ : ∃ X, l[k] = X := ⟨_, rfl⟩
      rw [hX] at hck hx1 hx2
      have HSN := hide (show valB (l.take (k + 1)) = 256 * valB (l.take k) + X from by rw [List.take_succ_eq_append_getElem hlt, valB_snoc, hX])
      clear hX
      have hbd := valB_bd k (l := l.take k) (bytesOk_take (unhide HIN) k) (by simp; omega)
      rw [← unhide HRV] at hbd HSN
      have hp : (256 : Int) ^ k ≤ 256 ^ 3 := by
        have h1 : (256 : Nat) ^ k ≤ 256 ^ 3 := Nat.pow_le_pow_right (by omega) (by omega)
        exact_mod_cast h1
      have r0 : 0 ≤ r := hbd.1
      have r1 : r < 16777216 := by have := hbd.2; omega
      clear hbd hp HRV
      have hor := or_byte r0 r1 hx1 hx2
      go_wp2
      go_round
      case rel => exact ⟨k + 1, 256 * r + X, by omega, by go_num, by rfl, (unhide HSN).symm⟩
      case measure => simp [intOf]; omega
    · have HE := hide (show l.take k = l from List.take_of_length_le (by omega))
      go_wp2
      go_ret
      exact ⟨rt_int (by rw [unhide HRV, unhide HE]), rfl⟩

theorem valPad0 : valB (padB []) = 0 := by decide
theorem valPad1 (a : Int) : valB (padB [a]) = valB [a] * 16777216 := by simp [valB, padB, List.replicate]; omega
theorem valPad2 (a b : Int) : valB (padB [a, b]) = valB [a, b] * 65536 := by simp [valB, padB, List.replicate]; omega
theorem valPad3 (a b c : Int) : valB (padB [a, b, c]) = valB [a, b, c] * 256 := by simp [valB, padB]; omega
theorem valPad4 (a b c d : Int) : valB (padB [a, b, c, d]) = valB [a, b, c, d] := by simp [padB]
set_option maxRecDepth 100000 in
set_option maxHeartbeats 800000 in
theorem address_any (l : List Int) (x : Value) (w : World) (h : BytesAt w x l) (hlen : l.length ≤ 4) :
    Calls Tryz.prog 230 #[x] w fun e w' => e = .returned (.int .i64 (valB (padB l))) ∧ w' = w := by
  have HX := hide h
  obtain ⟨p, c, rfl, hcap, hl, hin, hr⟩ := h
  have hbd := valB_bd l.length hin rfl
  clear hr hl hcap
  match l, hlen, hin, HX, hbd with
  | [], _, _, HX, _ =>
    go_enter Tryz.func230, Tryz.ntmps230
    go_wp2_with fail
    refine (number_any [] _ _ (unhide HX) (by simp)).mono ?_
    rintro e w0 ⟨rfl, rfl⟩
    have e0 : valB [] = 0 := rfl
    rw [e0]
    clear e0
    go_wp2
    go_ret
    exact ⟨rt_int valPad0.symm, rfl⟩
  | [a], _, _, HX, hbd =>
    go_enter Tryz.func230, Tryz.ntmps230
    go_wp2_with fail
    refine (number_any [a] _ _ (unhide HX) (by simp)).mono ?_
    rintro e w0 ⟨rfl, rfl⟩
    have HE := hide (valPad1 a)
    revert hbd HE
    generalize valB [a] = V
    intro hbd HE
    have v0 : 0 ≤ V := hbd.1
    have v1 : V < 256 := by simpa using hbd.2
    clear hbd
    simp only
    go_wp2
    go_ret
    exact ⟨rt_int (unhide HE).symm, rfl⟩
  | [a, b], _, _, HX, hbd =>
    go_enter Tryz.func230, Tryz.ntmps230
    go_wp2_with fail
    refine (number_any [a, b] _ _ (unhide HX) (by simp)).mono ?_
    rintro e w0 ⟨rfl, rfl⟩
    have HE := hide (valPad2 a b)
    revert hbd HE
    generalize valB [a, b] = V
    intro hbd HE
    have v0 : 0 ≤ V := hbd.1
    have v1 : V < 65536 := by simpa using hbd.2
    clear hbd
    simp only
    go_wp2
    go_ret
    exact ⟨rt_int (unhide HE).symm, rfl⟩
  | [a, b, c], _, _, HX, hbd =>
    go_enter Tryz.func230, Tryz.ntmps230
    go_wp2_with fail
    refine (number_any [a, b, c] _ _ (unhide HX) (by simp)).mono ?_
    rintro e w0 ⟨rfl, rfl⟩
    have HE := hide (valPad3 a b c)
    revert hbd HE
    generalize valB [a, b, c] = V
    intro hbd HE
    have v0 : 0 ≤ V := hbd.1
    have v1 : V < 16777216 := by simpa using hbd.2
    clear hbd
    simp only
    go_wp2
    go_ret
    exact ⟨rt_int (unhide HE).symm, rfl⟩
  | [a, b, c, d], _, _, HX, hbd =>
    go_enter Tryz.func230, Tryz.ntmps230
    go_wp2_with fail
    refine (number_any [a, b, c, d] _ _ (unhide HX) (by simp)).mono ?_
    rintro e w0 ⟨rfl, rfl⟩
    have HE := hide (valPad4 a b c d)
    revert hbd HE
    generalize valB [a, b, c, d] = V
    intro hbd HE
    have v0 : 0 ≤ V := hbd.1
    have v1 : V < 4294967296 := by simpa using hbd.2
    clear hbd
    simp only
    go_wp2
    go_ret
    exact ⟨rt_int (unhide HE).symm, rfl⟩
  | _ :: _ :: _ :: _ :: _ :: _, h, _, _, _ => simp at h

def wordN (l : List Int) : Int := if l.length = 4 then valB l else 0
def is4 (l : List Int) : Bool := decide (l.length = 4)
theorem word4 {l : List Int} (h : l.length = 4) : wordN l = valB l ∧ is4 l = true := ⟨by unfold wordN; rw [if_pos h], by unfold is4; simpa using h⟩
theorem wordNo {l : List Int} (h : l.length ≠ 4) : wordN l = 0 ∧ is4 l = false := ⟨by unfold wordN; rw [if_neg h], by unfold is4; simpa using h⟩
set_option maxHeartbeats 800000 in
theorem readWord_any (l : List Int) (x : Value) (w : World) (h : BytesAt w x l) :
    Calls Tryz.prog 232 #[x] w fun e w' => e = .returned (.tuple #[.int .i64 (wordN l), .bool (is4 l)]) ∧ w' = w := by
  have HX := hide h
  obtain ⟨p, c, rfl, -, hl, -⟩ := h
  by_cases h4 : l.length = 4
  · have HE := hide h4
    have d : ((l.length : Int) != 4) = false := by simp [h4]
    clear h4
    go_enter Tryz.func232, Tryz.ntmps232
    go_wp2_with fail
    refine (number_any l _ _ (unhide HX) (by have := unhide HE; omega)).mono ?_
    rintro e w0 ⟨rfl, rfl⟩
    go_wp2
    go_ret2
    exact ⟨by rw [(word4 (unhide HE)).1, (word4 (unhide HE)).2]; rfl, rfl⟩
  · have HE := hide h4
    have d : ((l.length : Int) != 4) = true := by simp; omega
    clear h4
    go_enter Tryz.func232, Tryz.ntmps232
    go_wp2
    go_ret2
    exact ⟨by rw [(wordNo (unhide HE)).1, (wordNo (unhide HE)).2]; rfl, rfl⟩

theorem words_two (x y : Int) (t : List Int) : words (x :: y :: t) = (256 * x + y) :: words t := rfl
theorem words_short {l : List Int} (h : l.length < 2) : words l = [] := by
  match l, h with
  | [], _ => rfl
  | [_], _ => rfl
  | _ :: _ :: _, h => exfalso; simp at h; omega
theorem words_drop {l : List Int} (h : 2 ≤ l.length) : words l = valB (l.take 2) :: words (l.drop 2) := by
  match l, h with
  | [], h => simp at h
  | [_], h => simp at h
  | x :: y :: t, _ => rw [words_two]; simp [valB_two]
/-- x[i:] -/
theorem BytesAt.cut {w : World} {b o n c : Nat} {l : List Int} (h : BytesAt w (.slice (some ⟨b, o, none⟩) n c) l) {i : Nat} (hi : i ≤ n) (hic : i < c) : BytesAt w (.slice (some ⟨b, o + i, none⟩) (n - i) (c - i)) (l.drop i) := by
  obtain ⟨p', c', hv, hcap, hl, hin, hr⟩ := h
  cases hv
  refine ⟨_, _, by rw [List.length_drop], by simp; omega, by simp; omega, bytesOk_drop hin i, ?_⟩
  rcases hr with ⟨rfl, h⟩ | ⟨b', o', hp, hb, hc⟩
  · exact Or.inl ⟨by simp, fun h => by cases h⟩
  · cases hp
    refine Or.inr ⟨b, o + i, rfl, hb, fun j hj => ?_⟩
    rw [List.length_drop] at hj
    rw [List.getElem_drop, Nat.add_assoc]; exact hc (i + j) (by omega)
theorem BytesAt.cutEnd {w : World} {b o n c : Nat} {l : List Int} (h : BytesAt w (.slice (some ⟨b, o, none⟩) n c) l) {i : Nat} (hic : c ≤ i) : BytesAt w (.slice (some ⟨b, o, none⟩) 0 0) (l.drop i) := by
  obtain ⟨p', c', hv, hcap, hl, hin, hr⟩ := h
  cases hv
  rw [List.drop_eq_nil_of_le (by omega)]
  exact BytesAt.empty _ _ _
/-- x[:i] -/
theorem BytesAt.head {w : World} {p : Option Addr} {n c : Nat} {l : List Int} (h : BytesAt w (.slice p n c) l) {i : Nat} (hi : i ≤ n) : BytesAt w (.slice p i c) (l.take i) := by
  obtain ⟨p', c', hv, hcap, hl, hin, hr⟩ := h
  cases hv
  have e : (l.take i).length = i := by rw [List.length_take]; omega
  refine ⟨p, c, by rw [e], by omega, by omega, bytesOk_take hin i, ?_⟩
  rcases hr with ⟨rfl, h⟩ | ⟨b, o, rfl, hb, hc⟩
  · exact Or.inl ⟨by simp, h⟩
  · refine Or.inr ⟨b, o, rfl, hb, fun j hj => ?_⟩
    rw [List.getElem_take]
    exact hc j (by omega)
theorem OwnI.push {w : World} {base : Nat} {v : Value} {l : List Int} {x : Int} (h : w.ownsRow base 3 1 v (l.length + 1) (l.map (Value.int .i64) ++ [.int .i64 x])) : OwnI w base v (l ++ [x]) := by
  unfold OwnI
  rw [List.map_append, List.length_append]; exact h

set_option maxRecDepth 100000 in
set_option maxHeartbeats 1600000 in
theorem readPairs_any (l : List Int) (x : Value) (w : World) (h : BytesAt w x l) (hlen : l.length ≤ 65535) :
    Calls Tryz.prog 277 #[x] w fun e w' => ∃ v, e = .returned (.tuple #[v, .bool (decide (l.length % 2 = 0))]) ∧ OwnI w' w.heap.size v (words l) ∧ Below w.heap.size w w' := by
  obtain ⟨i0, hi0, hz0, hz1, hz2⟩ := info_parts Tryz.infoInt
  have HX := hide h
  clear h
  go_enter Tryz.func277, Tryz.ntmps277
  go_wp2_with fail
  go_loopw [0, 4] (fun vb vo wr => ∃ R D : List Int, BytesAt w vb R ∧ OwnI wr w.heap.size vo D ∧ D.length + R.length ≤ 65535 ∧ words l = D ++ words R ∧ R.length % 2 = l.length % 2 ∧ Below w.heap.size w wr) (fun vb _ _ => slen vb)
  case atStart => exact ⟨l, [], unhide HX, World.ownsRow_nil _ _ _ _, by simpa using hlen, rfl, rfl, Below.refl _ _⟩
  case round =>
    rename World => WR
    obtain ⟨R, D, hR, hD, hDR, hw, hmod, hbe⟩ := hrel
    have OD := hide hD
    have HR := hide hR
    have HW := hide hw
    have HMOD := hide hmod
    have BE := hide hbe
    have hsz := hbe.size
    clear hD hw hmod hbe
    obtain ⟨p, c, rfl, hcap, hl, hin, hr⟩ := hR
    obtain ⟨N, hN⟩ : ∃ N, R.length = N := ⟨_, rfl⟩
    rw [hN] at HR hcap hl hDR
    have HN := hide hN
    by_cases h2 : 2 ≤ N
    · rcases hr with h | ⟨b, o, rfl, hb, hc⟩
      · exfalso; rw [h.1] at hN; simp at hN; omega
      have hbd := val2_bd (bytesOk_take hin 2) (by simp; omega)
      have HWD := hide (words_drop (l := R) (by omega))
      have T2 := hide ((unhide HR).head (i := 2) h2)
      clear hc hin hN
      rw [unhide HN]
      obtain ⟨V, hV⟩ : ∃ V, valB (R.take 2) = V := ⟨_, rfl⟩
      rw [hV] at hbd HWD
      have HV := hide hV
      clear hV
      obtain ⟨q0, k0, hq0⟩ := own_slice (unhide OD)
      subst hq0
      have HW2 := hide (show words l = (D ++ [V]) ++ words (R.drop 2) from by rw [unhide HW, unhide HWD]; simp)
      have HM2 := hide (show (R.drop 2).length % 2 = l.length % 2 from by rw [← unhide HMOD, List.length_drop, unhide HN]; omega)
      have HL2 := hide (show (R.drop 2).length = N - 2 from by rw [List.length_drop, unhide HN])
      go_wp2_with fail
      refine (number_any (R.take 2) _ _ ((unhide T2).below (unhide BE)) (by simp; omega)).mono ?_
      rintro e w0 ⟨rfl, rfl⟩
      rw [unhide HV]
      by_cases hcc : 2 < c
      · have HNX := hide ((unhide HR).cut (i := 2) h2 hcc)
        go_wp2_with (at_builtin; refine wpList_append_lies _ rfl _ _ _ rfl w.heap.size 3 i0 _ 1 8 Tryz.underlying25 hi0 hz0 hz1 hz2 rfl (by omega) (.slice q0 D.length k0) D.length (D.map (Value.int .i64)) rfl (World.ownsRow.alloc (unhide OD) _) ⟨w0.heap.size, 0, none⟩ 1 1 [.int .i64 V] rfl rfl (World.news_of_block (cs := #[.int .i64 V]) (t := 3) (fr := (0, 0)) (heap_alloc_new _ _)) (by simp [Value.oneCell']) (by omega) (by simp only [maxLen]; omega) (by omega) (by simp; omega) (w0.heap.size + 1) (by simp) ?_; intro gg cap w6 hown hgrow hat hltg)
        exact ⟨⟨R.drop 2, D ++ [V], unhide HNX, OwnI.push hown, by rw [unhide HL2]; simp; omega, unhide HW2, unhide HM2, ((unhide BE).alloc hsz _).grown hgrow (by simp; omega) (fun j hj => ((unhide OD).lt j hj).1)⟩, by simp only [slen]; omega⟩
      · have HNX := hide ((unhide HR).cutEnd (i := 2) (by omega))
        obtain rfl : c = 2 := by omega
        obtain rfl : N = 2 := by omega
        go_wp2_with (at_builtin; refine wpList_append_lies _ rfl _ _ _ rfl w.heap.size 3 i0 _ 1 8 Tryz.underlying25 hi0 hz0 hz1 hz2 rfl (by omega) (.slice q0 D.length k0) D.length (D.map (Value.int .i64)) rfl (World.ownsRow.alloc (unhide OD) _) ⟨w0.heap.size, 0, none⟩ 1 1 [.int .i64 V] rfl rfl (World.news_of_block (cs := #[.int .i64 V]) (t := 3) (fr := (0, 0)) (heap_alloc_new _ _)) (by simp [Value.oneCell']) (by omega) (by simp only [maxLen]; omega) (by omega) (by simp; omega) (w0.heap.size + 1) (by simp) ?_; intro gg cap w6 hown hgrow hat hltg)
        exact ⟨⟨R.drop 2, D ++ [V], unhide HNX, OwnI.push hown, by rw [unhide HL2]; simp; omega, unhide HW2, unhide HM2, ((unhide BE).alloc hsz _).grown hgrow (by simp; omega) (fun j hj => ((unhide OD).lt j hj).1)⟩, by simp [slen]⟩
    · have HE := hide (show words l = D from by rw [unhide HW, words_short (by omega), List.append_nil])
      have HP := hide (show ((N : Int) == 0) = decide (l.length % 2 = 0) from by rw [Bool.eq_iff_iff, ← unhide HMOD, unhide HN]; simp only [beq_iff_eq, decide_eq_true_eq]; omega)
      clear hr hin hN
      rw [unhide HN]
      go_wp2
      go_ret2
      exact ⟨_, by rw [← unhide HP]; rfl, by rw [unhide HE]; exact unhide OD, unhide BE⟩
end Go.Proofs.YtgngdklkoilaiaaGreatDoor
