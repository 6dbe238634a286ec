/- The two readers cut a text into the same tokens; no program. -/
import Derived.Test.YtgdeeodifnegiaaGreatDoorEqA
namespace Go.Proofs.YtgdeeodifnegiaaGreatDoor
open Go.RowKit

theorem ext_mid (s : ByteArray) (i j : Nat) : s.extract i j = bsA ((s.data.toList.drop i).take (j - i)) := by
  have h : (s.extract i j).data = (bsA ((s.data.toList.drop i).take (j - i))).data := by
    rw [ByteArray.data_extract]
    apply Array.ext'
    rw [Array.toList_extract]
  cases hx : s.extract i j with
  | mk d => rw [hx] at h; simp only at h; rw [h]
theorem list_len (s : ByteArray) : s.data.toList.length = s.size := by simp
theorem bt_list {s : ByteArray} {k : Nat} (h : k < s.size) : ∃ b : UInt8, s.data.toList[k]? = some b ∧ bt s k = (b.toNat : Int) := by
  have hl := list_len s
  refine ⟨s.data.toList[k]'(by omega), List.getElem?_eq_getElem (by omega), ?_⟩
  have : bt (bsA s.data.toList) k = _ := bt_bsA (List.getElem?_eq_getElem (by omega))
  rwa [bsA_toList] at this
/-! ## prefixes: both as a walk through the parts -/
def digU (b : UInt8) : Bool := digB (b.toNat : Int)
def refL : Nat → List UInt8 → Int → Option (Int × Int)
  | 0, b, a => match b.dropWhile digU with
    | [] => none
    | c :: rest => if c = 47 ∧ numIs (bsA (b.takeWhile digU)) 255 = true ∧ numIs (bsA rest) 32 = true ∧ netOkB (a * 256 + numV (bsA (b.takeWhile digU)) 255, numV (bsA rest) 32) = true then some (a * 256 + numV (bsA (b.takeWhile digU)) 255, numV (bsA rest) 32) else none
  | n + 1, b, a => match b.dropWhile digU with
    | [] => none
    | c :: rest => if c = 46 ∧ numIs (bsA (b.takeWhile digU)) 255 = true then refL n rest (a * 256 + numV (bsA (b.takeWhile digU)) 255) else none
def partsL (b : List UInt8) : List (List UInt8) := Lib.splitK [46] 0 (b.count 46) b
def progL (n : Nat) (bef beh : List UInt8) (a : Int) : Option (Int × Int) :=
  if (partsL bef).length = n + 1 then
    match addrS ((partsL bef).map bsA) a with
    | none => none
    | some v => if numIs (bsA beh) 32 = true ∧ netOkB (v, numV (bsA beh) 32) = true then some (v, numV (bsA beh) 32) else none
  else none
theorem partsL_miss {x : List UInt8} (h : (46 : UInt8) ∉ x) : partsL x = [x] := splitK_miss 46 x h _
theorem partsL_hit {x y : List UInt8} (h : (46 : UInt8) ∉ x) : partsL (x ++ 46 :: y) = x :: partsL y := by
  unfold partsL
  have : (x ++ 46 :: y).count 46 = y.count 46 + 1 := by
    rw [List.count_append, List.count_eq_zero.2 h, List.count_cons]; simp
  rw [this]
  exact splitK_hit 46 x y h _
theorem partsL_ne (x : List UInt8) : 0 < (partsL x).length := by
  unfold partsL
  cases x.count 46 with
  | zero => simp [Lib.splitK]
  | succ k => rw [Lib.splitK]; split <;> simp
theorem cut_miss {x : List UInt8} (h : (47 : UInt8) ∉ x) : Lib.cut x [47] = (x, [], false) := by
  unfold Lib.cut
  rw [index_miss 47 x h, if_neg (by decide)]
theorem dig_not {x : List UInt8} {c : UInt8} (hc : digU c = false) : c ∉ x.takeWhile digU := fun h => by
  have := List.all_takeWhile (l := x) (p := digU)
  rw [List.all_eq_true] at this
  rw [this c h] at hc; cases hc
theorem numIs_nil : numIs (bsA []) 32 = false := by decide
theorem prog_ref : ∀ (n : Nat) (b : List UInt8) (a : Int), (∀ c ∈ b, numeB (c.toNat : Int) = true) → progL n (Lib.cut b [47]).1 (Lib.cut b [47]).2.1 a = refL n b a := by
  intro n
  induction n with
  | zero =>
    intro b a hb
    have hx : b = b.takeWhile digU ++ b.dropWhile digU := (List.takeWhile_append_dropWhile).symm
    have h46 : (46 : UInt8) ∉ b.takeWhile digU := dig_not (by decide)
    have h47 : (47 : UInt8) ∉ b.takeWhile digU := dig_not (by decide)
    rw [refL]
    cases hy : b.dropWhile digU with
    | nil =>
      rw [hy, List.append_nil] at hx
      have e : Lib.cut b [47] = (b, [], false) := cut_miss (by rw [hx]; exact h47)
      rw [e]
      unfold progL
      dsimp only
      rw [numIs_nil]
      split
      · split
        · rfl
        · simp
      · rfl
    | cons c rest =>
      have hcm : c ∈ b := by rw [hx, hy]; simp
      have hcn := hb c hcm
      have hcd : digU c = false := by
        have := List.head?_dropWhile_not (p := digU) (l := b)
        rw [hy] at this
        simpa using this
      have hc : c = 46 ∨ c = 47 := by
        unfold numeB at hcn
        unfold digU at hcd
        rw [hcd] at hcn
        simp at hcn
        rcases hcn with h | h
        · left; exact UInt8.toNat_inj.1 (by have : (46 : UInt8).toNat = 46 := rfl; omega)
        · right; exact UInt8.toNat_inj.1 (by have : (47 : UInt8).toNat = 47 := rfl; omega)
      rw [hy] at hx
      dsimp only
      rcases hc with rfl | rfl
      · rw [if_neg (by simp)]
        unfold progL
        rw [if_neg]
        intro hl
        by_cases hm : (47 : UInt8) ∈ rest
        · obtain ⟨u, v, hu, hnu⟩ := List.eq_append_cons_of_mem hm
          have e : Lib.cut b [47] = (b.takeWhile digU ++ 46 :: u, v, true) := by
            conv => lhs; rw [hx, hu]
            rw [show b.takeWhile digU ++ 46 :: (u ++ 47 :: v) = (b.takeWhile digU ++ 46 :: u) ++ 47 :: v by simp]
            exact cut_hit 47 _ v (by simp; exact ⟨h47, hnu⟩)
          rw [e] at hl
          dsimp only at hl
          rw [partsL_hit h46] at hl
          have := partsL_ne u
          rw [List.length_cons] at hl; omega
        · have e : Lib.cut b [47] = (b, [], false) := cut_miss (by rw [hx]; simp; exact ⟨h47, hm⟩)
          rw [e] at hl
          dsimp only at hl
          rw [hx, partsL_hit h46] at hl
          have := partsL_ne rest
          rw [List.length_cons] at hl; omega
      · have e : Lib.cut b [47] = (b.takeWhile digU, rest, true) := by
          conv => lhs; rw [hx]
          exact cut_hit 47 _ rest h47
        rw [e]
        unfold progL
        dsimp only
        rw [partsL_miss h46, if_pos (by simp)]
        simp only [List.map_cons, List.map_nil, addrS]
        cases hn : numIs (bsA (b.takeWhile digU)) 255 with
        | false => simp
        | true => simp
  | succ n ih =>
    intro b a hb
    have hx : b = b.takeWhile digU ++ b.dropWhile digU := (List.takeWhile_append_dropWhile).symm
    have h46 : (46 : UInt8) ∉ b.takeWhile digU := dig_not (by decide)
    have h47 : (47 : UInt8) ∉ b.takeWhile digU := dig_not (by decide)
    rw [refL]
    cases hy : b.dropWhile digU with
    | nil =>
      rw [hy, List.append_nil] at hx
      have e : Lib.cut b [47] = (b, [], false) := cut_miss (by rw [hx]; exact h47)
      rw [e]
      unfold progL
      dsimp only
      rw [if_neg]
      rw [hx, partsL_miss h46]; simp
    | cons c rest =>
      have hcm : c ∈ b := by rw [hx, hy]; simp
      have hcn := hb c hcm
      have hcd : digU c = false := by
        have := List.head?_dropWhile_not (p := digU) (l := b)
        rw [hy] at this
        simpa using this
      have hc : c = 46 ∨ c = 47 := by
        unfold numeB at hcn
        unfold digU at hcd
        rw [hcd] at hcn
        simp at hcn
        rcases hcn with h | h
        · left; exact UInt8.toNat_inj.1 (by have : (46 : UInt8).toNat = 46 := rfl; omega)
        · right; exact UInt8.toNat_inj.1 (by have : (47 : UInt8).toNat = 47 := rfl; omega)
      rw [hy] at hx
      dsimp only
      rcases hc with rfl | rfl
      · have hr := ih rest (a * 256 + numV (bsA (b.takeWhile digU)) 255) (fun c h => hb c (by rw [hx]; simp [h]))
        have key : ∀ bef beh, (Lib.cut b [47]).1 = b.takeWhile digU ++ 46 :: bef → (Lib.cut b [47]).2.1 = beh → (Lib.cut rest [47]).1 = bef → (Lib.cut rest [47]).2.1 = beh →
            progL (n + 1) (Lib.cut b [47]).1 (Lib.cut b [47]).2.1 a = if (46 : UInt8) = 46 ∧ numIs (bsA (b.takeWhile digU)) 255 = true then refL n rest (a * 256 + numV (bsA (b.takeWhile digU)) 255) else none := by
          intro bef beh e1 e2 e3 e4
          rw [← hr, e1, e2, e3, e4]
          unfold progL
          rw [partsL_hit h46]
          simp only [List.map_cons, addrS, List.length_cons]
          cases hn : numIs (bsA (b.takeWhile digU)) 255 with
          | false => simp
          | true => simp
        by_cases hm : (47 : UInt8) ∈ rest
        · obtain ⟨u, v, hu, hnu⟩ := List.eq_append_cons_of_mem hm
          have e : Lib.cut b [47] = (b.takeWhile digU ++ 46 :: u, v, true) := by
            conv => lhs; rw [hx, hu]
            rw [show b.takeWhile digU ++ 46 :: (u ++ 47 :: v) = (b.takeWhile digU ++ 46 :: u) ++ 47 :: v by simp]
            exact cut_hit 47 _ v (by simp; exact ⟨h47, hnu⟩)
          have e' : Lib.cut rest [47] = (u, v, true) := by rw [hu]; exact cut_hit 47 u v hnu
          exact key u v (by rw [e]) (by rw [e]) (by rw [e']) (by rw [e'])
        · have e : Lib.cut b [47] = (b, [], false) := cut_miss (by rw [hx]; simp; exact ⟨h47, hm⟩)
          have e' : Lib.cut rest [47] = (rest, [], false) := cut_miss hm
          exact key rest [] (by rw [e]; exact hx) (by rw [e]) (by rw [e']) (by rw [e'])
      · rw [if_neg (by simp)]
        have e : Lib.cut b [47] = (b.takeWhile digU, rest, true) := by
          conv => lhs; rw [hx]
          exact cut_hit 47 _ rest h47
        rw [e]
        unfold progL
        dsimp only
        rw [partsL_miss h46, if_neg (by simp)]
theorem prefS_ref {t : ByteArray} (h : ∀ c ∈ t.data.toList, numeB (c.toNat : Int) = true) : prefS t = refL 3 t.data.toList 0 := by
  rw [← prog_ref 3 _ 0 h]
  have hp : partsS t = (partsL (Lib.cut t.data.toList [47]).1).map bsA := by
    refine data_inj ?_
    unfold partsS
    rw [Lib.splitB_data, List.map_map]
    show Lib.splitK [46] 0 (Lib.count (Lib.cut t.data.toList [47]).1 [46]) (Lib.cut t.data.toList [47]).1 = _
    rw [Lib.count_one]
    unfold partsL
    rw [show ((fun x : ByteArray => x.data.toList) ∘ bsA) = id from funext fun x => by simp, List.map_id]
  unfold prefS progL
  rw [hp, List.length_map]
  rfl
/-! ## the document's walk -/
theorem pg_skips {t : ByteArray} {p q : Nat} {a l : Int} : ∀ (d i : Nat), i + d ≤ t.size → (∀ k, i ≤ k → k < i + d → digB (bt t k) = true ∨ p = 4) → prefGo t (t.size + 1 - i) i p q a l = prefGo t (t.size + 1 - (i + d)) (i + d) p q a l
  | 0, i, _, _ => rfl
  | d + 1, i, h, hd => by
    rw [pg_skip (by omega) (hd i (Nat.le_refl _) (by omega)), pg_skips d (i + 1) (by omega) (fun k h1 h2 => hd k (by omega) (by omega)), show i + 1 + d = i + (d + 1) by omega]
theorem netB_ok (a l : Int) : netB a l = netOkB (a, l) := by
  unfold netB netOkB
  exact decide_eq_decide.2 (by unfold netOk powP; exact ⟨fun ⟨a, b, c, d, e⟩ => ⟨⟨a, b⟩, ⟨c, d⟩, e⟩, fun ⟨⟨a, b⟩, ⟨c, d⟩, e⟩ => ⟨a, b, c, d, e⟩⟩)
theorem num_spec (x : ByteArray) (m : Int) : numIs x m = decide (¬ numP x m < 0) ∧ (¬ numP x m < 0 → numV x m = numP x m) := by
  unfold numIs numV
  refine ⟨decide_eq_decide.2 (by omega), fun h => if_pos (by omega)⟩
def okTo (r : Int × Int × Bool) (o : Option (Int × Int)) : Prop := match o with | none => r.2.2 = false | some x => r = (x.1, x.2, true)
theorem bt_drop {t : ByteArray} {q : Nat} {x y : List UInt8} (h : t.data.toList.drop q = x ++ y) : (∀ k (hk : k < x.length), bt t (q + k) = (x[k].toNat : Int)) ∧ (∀ c r, y = c :: r → bt t (q + x.length) = (c.toNat : Int) ∧ q + x.length < t.size) := by
  have hl := list_len t
  refine ⟨fun k hk => ?_, fun c r e => ?_⟩
  · have h1 : t.data.toList[q + k]? = some x[k] := by
      rw [← List.getElem?_drop, h, List.getElem?_append_left hk, List.getElem?_eq_getElem hk]
    have : bt (bsA t.data.toList) (q + k) = _ := bt_bsA h1
    rwa [bsA_toList] at this
  · have h1 : t.data.toList[q + x.length]? = some c := by
      rw [← List.getElem?_drop, h, List.getElem?_append_right (Nat.le_refl _), e]; simp
    refine ⟨?_, ?_⟩
    · have : bt (bsA t.data.toList) (q + x.length) = _ := bt_bsA h1
      rwa [bsA_toList] at this
    · have := (List.getElem?_eq_some_iff.1 h1).1; omega
theorem take_dig {b : List UInt8} {k : Nat} (h : k < (b.takeWhile digU).length) : digU ((b.takeWhile digU)[k]) = true := by
  have := List.all_takeWhile (l := b) (p := digU)
  rw [List.all_eq_true] at this
  exact this _ (List.getElem_mem h)
theorem ref_last {t : ByteArray} {q : Nat} {a l : Int} (h : q ≤ t.size) : okTo (prefGo t (t.size + 1 - q) q 4 q a l) (if numIs (bsA (t.data.toList.drop q)) 32 = true ∧ netOkB (a, numV (bsA (t.data.toList.drop q)) 32) = true then some (a, numV (bsA (t.data.toList.drop q)) 32) else none) := by
  have e := pg_skips (t := t) (p := 4) (q := q) (a := a) (l := l) (t.size - q) q (by omega) (fun _ _ _ => Or.inr rfl)
  rw [show q + (t.size - q) = t.size by omega] at e
  rw [e]
  have hx : t.extract q t.size = bsA (t.data.toList.drop q) := ext_drop t q
  obtain ⟨n1, n2⟩ := num_spec (bsA (t.data.toList.drop q)) 32
  by_cases hn : numP (bsA (t.data.toList.drop q)) 32 < 0
  · rw [pg_none (Nat.le_refl _) (fun h => by omega) (by omega) (by rw [if_pos rfl, hx]; exact hn)]
    rw [n1, if_neg (by simp; omega)]
    rfl
  · rw [pg_four rfl (by rw [hx]; exact hn), pg_end, hx, n1, n2 hn, netB_ok]
    cases hb : netOkB (a, numP (bsA (t.data.toList.drop q)) 32) with
    | true => rw [if_pos (by simp; omega)]; rfl
    | false => rw [if_neg (by simp)]; rfl
theorem ref_go {t : ByteArray} : ∀ (n q : Nat) (a l : Int), n ≤ 3 → q ≤ t.size → okTo (prefGo t (t.size + 1 - q) q (3 - n) q a l) (refL n (t.data.toList.drop q) a) := by
  intro n
  induction n with
  | zero =>
    intro q a l _ hq
    have hl := list_len t
    have hx : t.data.toList.drop q = (t.data.toList.drop q).takeWhile digU ++ (t.data.toList.drop q).dropWhile digU := (List.takeWhile_append_dropWhile).symm
    obtain ⟨b1, b2⟩ := bt_drop hx
    have hlen := congrArg List.length hx
    rw [List.length_drop, List.length_append] at hlen
    rw [pg_skips (((t.data.toList.drop q).takeWhile digU).length) q (by omega) (fun k h1 h2 => Or.inl (by
      have := b1 (k - q) (by omega)
      rw [show q + (k - q) = k by omega] at this
      rw [this]; exact take_dig (by omega)))]
    generalize hX : (t.data.toList.drop q).takeWhile digU = x at *
    rw [refL, hX]
    have hext : t.extract q (q + x.length) = bsA x := by rw [ext_mid, show q + x.length - q = x.length by omega, hx, List.take_left]
    cases hy : (t.data.toList.drop q).dropWhile digU with
    | nil =>
      rw [hy] at hlen
      have hsz : q + x.length = t.size := by simp at hlen; omega
      rw [pg_bad (by omega) (fun h => by omega) (Or.inr ⟨by omega, by decide⟩)]
      exact rfl
    | cons c rest =>
      obtain ⟨e1, e2⟩ := b2 c rest hy
      have hcd : digU c = false := by
        have := List.head?_dropWhile_not (p := digU) (l := t.data.toList.drop q)
        rw [hy] at this
        simpa using this
      have hcd' : digB (bt t (q + x.length)) = false := by rw [e1]; exact hcd
      obtain ⟨n1, n2⟩ := num_spec (bsA x) 255
      dsimp only
      by_cases hc : c = 47
      · subst hc
        by_cases hv : numP (bsA x) 255 < 0
        · rw [pg_none (by omega) (fun _ => ⟨hcd', by decide⟩) (by rw [e1]; simp; omega) (by rw [if_neg (by decide), hext]; exact hv), n1, if_neg (by simp; omega)]
          exact rfl
        · rw [pg_part e2 hcd' (by decide) (by rw [e1]; rfl) (by rw [hext]; exact hv), hext]
          have hd : t.data.toList.drop (q + x.length + 1) = rest := by
            rw [Nat.add_assoc, ← List.drop_drop, hx, hy, ← List.drop_drop, List.drop_left]; rfl
          have := ref_last (t := t) (q := q + x.length + 1) (a := 256 * a + numP (bsA x) 255) (l := l) (by omega)
          rw [hd] at this
          rw [n1, n2 hv, show a * 256 + numP (bsA x) 255 = 256 * a + numP (bsA x) 255 by omega]
          simp only [hv, not_false_eq_true, decide_true, true_and]
          exact this
      · rw [pg_bad (by omega) (fun _ => ⟨hcd', by decide⟩) (Or.inl ⟨e2, by rw [e1]; intro h; exact hc (UInt8.toNat_inj.1 (by have : (47 : UInt8).toNat = 47 := rfl; simp at h; omega))⟩), if_neg (by simp [hc])]
        exact rfl
  | succ n ih =>
    intro q a l hn3 hq
    have hl := list_len t
    have hx : t.data.toList.drop q = (t.data.toList.drop q).takeWhile digU ++ (t.data.toList.drop q).dropWhile digU := (List.takeWhile_append_dropWhile).symm
    obtain ⟨b1, b2⟩ := bt_drop hx
    have hlen := congrArg List.length hx
    rw [List.length_drop, List.length_append] at hlen
    rw [pg_skips (((t.data.toList.drop q).takeWhile digU).length) q (by omega) (fun k h1 h2 => Or.inl (by
      have := b1 (k - q) (by omega)
      rw [show q + (k - q) = k by omega] at this
      rw [this]; exact take_dig (by omega)))]
    generalize hX : (t.data.toList.drop q).takeWhile digU = x at *
    rw [refL, hX]
    have hext : t.extract q (q + x.length) = bsA x := by rw [ext_mid, show q + x.length - q = x.length by omega, hx, List.take_left]
    have h4 : 3 - (n + 1) ≠ 4 := by omega
    have h3 : 3 - (n + 1) ≠ 3 := by omega
    cases hy : (t.data.toList.drop q).dropWhile digU with
    | nil =>
      rw [hy] at hlen
      have hsz : q + x.length = t.size := by simp at hlen; omega
      rw [pg_bad (by omega) (fun h => by omega) (Or.inr ⟨by omega, h4⟩)]
      exact rfl
    | cons c rest =>
      obtain ⟨e1, e2⟩ := b2 c rest hy
      have hcd : digU c = false := by
        have := List.head?_dropWhile_not (p := digU) (l := t.data.toList.drop q)
        rw [hy] at this
        simpa using this
      have hcd' : digB (bt t (q + x.length)) = false := by rw [e1]; exact hcd
      obtain ⟨n1, n2⟩ := num_spec (bsA x) 255
      dsimp only
      by_cases hc : c = 46
      · subst hc
        by_cases hv : numP (bsA x) 255 < 0
        · rw [pg_none (by omega) (fun _ => ⟨hcd', h4⟩) (by rw [e1, if_neg h3]; simp; omega) (by rw [if_neg h4, hext]; exact hv), n1, if_neg (by simp; omega)]
          exact rfl
        · rw [pg_part e2 hcd' h4 (by rw [e1, if_neg h3]; rfl) (by rw [hext]; exact hv), hext]
          have hd : t.data.toList.drop (q + x.length + 1) = rest := by
            rw [Nat.add_assoc, ← List.drop_drop, hx, hy, ← List.drop_drop, List.drop_left]; rfl
          have := ih (q + x.length + 1) (256 * a + numP (bsA x) 255) l (by omega) (by omega)
          rw [hd] at this
          rw [n1, n2 hv, show a * 256 + numP (bsA x) 255 = 256 * a + numP (bsA x) 255 by omega, show 3 - (n + 1) + 1 = 3 - n by omega]
          simp only [hv, not_false_eq_true, decide_true, and_self, if_true]
          exact this
      · rw [pg_bad (by omega) (fun _ => ⟨hcd', h4⟩) (Or.inl ⟨e2, by rw [e1, if_neg h3]; intro h; exact hc (UInt8.toNat_inj.1 (by have : (46 : UInt8).toNat = 46 := rfl; omega))⟩), if_neg (by simp [hc])]
        exact rfl
/-- a prefix is one to both, and the same net -/
theorem pref_eq {t : ByteArray} (h : ∀ c ∈ t.data.toList, numeB (c.toNat : Int) = true) : okTo (prefR t) (prefS t) := by
  rw [prefS_ref h]
  have := ref_go (t := t) 3 0 0 0 (Nat.le_refl _) (Nat.zero_le _)
  exact this
/-! ## one token -/
theorem scan_shift {p : Int → Bool} {s : ByteArray} {j : Nat} (hj : j ≤ s.size) : ∀ f i, scan p s f (j + i) = j + scan p (s.extract j s.size) f i
  | 0, i => by simp [scan]
  | f + 1, i => by
    have hsz : (s.extract j s.size).size = s.size - j := by simp
    have hb : i < (s.extract j s.size).size → bt (s.extract j s.size) i = bt s (j + i) := fun h => by
      obtain ⟨b, h1, h2⟩ := bt_list (s := s) (k := j + i) (by omega)
      rw [h2, ext_drop]
      exact bt_bsA (by rw [List.getElem?_drop]; exact h1)
    rw [scan, scan]
    by_cases hc : j + i < s.size ∧ p (bt s (j + i)) = true
    · rw [if_pos hc, if_pos ⟨by omega, by rw [hb (by omega)]; exact hc.2⟩]
      exact scan_shift hj f (i + 1)
    · rw [if_neg hc, if_neg (fun hh => hc ⟨by omega, by rw [← hb hh.1]; exact hh.2⟩)]
theorem scanTo_shift {p : Int → Bool} {s : ByteArray} {j : Nat} (hj : j ≤ s.size) : scanTo p s j = j + scanTo p (s.extract j s.size) 0 := by
  have := scan_shift (p := p) hj (s.size - j) 0
  unfold scanTo
  rw [show (s.extract j s.size).size - 0 = s.size - j by simp]
  exact this
theorem ext_ext {s : ByteArray} {j n : Nat} : (s.extract j s.size).extract 0 n = s.extract j (j + n) := by
  rw [ext_list, ext_drop, ext_mid]
  show bsA ((s.data.toList.drop j).take n) = _
  rw [show j + n - j = n by omega]
theorem ext_sz {s : ByteArray} {i j : Nat} (h : j ≤ s.size) : (s.extract i j).size = j - i := by simp; omega
theorem toList_data (a b : ByteArray) (h : (a.toList == b.toList) = true) : a = b := by
  have h1 : a.toList = b.toList := by simpa using h
  rw [ByteArray.toList_eq, ByteArray.toList_eq] at h1
  rw [← bsA_toList a, ← bsA_toList b]
  show bsA a.data.toList = bsA b.data.toList
  rw [h1]
theorem word_spec (t : ByteArray) : (amongB wordsL t = true ∧ ∃ j : Nat, j < 21 ∧ wordK t = 5 + (j : Int) ∧ t = wd j) ∨ (amongB wordsL t = false ∧ wordK t = 0) := by
  have hl : wordsL.length = 21 := rfl
  unfold wordK
  cases h : wordsL.findIdx? (fun x => x.toList == t.toList) with
  | none =>
    right
    refine ⟨?_, rfl⟩
    rw [List.findIdx?_eq_none_iff] at h
    unfold amongB
    rw [List.any_eq_false]
    intro x hx
    rw [h x hx]; decide
  | some i =>
    left
    rw [List.findIdx?_eq_some_iff_getElem] at h
    obtain ⟨hi, hx, _⟩ := h
    have e : wordsL[i] = wd i := by simp [wd, List.getD, hi]
    rw [e] at hx
    exact ⟨amongB_of hi (by rw [e]; exact hx), i, by omega, rfl, (toList_data _ _ hx).symm⟩
theorem sign_spec : ∀ c : Nat, c < 256 → (signB (c : Int) = true ∧ ∃ j : Nat, j < 16 ∧ signK (c : Int) = 26 + (j : Int) ∧ sgT j = ⟨#[UInt8.ofNat c]⟩) ∨ (signB (c : Int) = false ∧ signK (c : Int) = 0) := by decide +kernel
theorem tok_eq {s : ByteArray} {j : Nat} (hj : j < s.size) : TRel (tokAt s j).1 (tkAt s j) ∧ ((tkAt s j).kind ≠ 0 → (tokAt s j).2 = j + (tkAt s j).text.size) := by
  have h0 : bt (s.extract j s.size) 0 = bt s j := bt_extract hj
  have nf : ¬ (false = true) := by decide
  unfold tkAt firstP tokAt
  rw [if_neg (by omega), h0]
  cases hl : lowB (bt s j) with
  | true =>
    rw [if_pos rfl, if_pos rfl]
    have hs := scanTo_shift (p := lowB) (s := s) (j := j) (by omega)
    have hbd := scanTo_bd (p := lowB) (s := s) (i := j) (by omega)
    rw [ext_ext, ← hs]
    have hsz : (s.extract j (scanTo lowB s j)).size = scanTo lowB s j - j := ext_sz hbd.2
    generalize s.extract j (scanTo lowB s j) = t at *
    unfold lettersP
    rcases word_spec t with ⟨ha, k, hk, hw, ht⟩ | ⟨ha, hw⟩
    · rw [ha, if_pos rfl, hw, if_neg (by omega)]
      exact ⟨⟨rfl, Or.inr (Or.inr (Or.inr (Or.inr (Or.inr (Or.inl ⟨rfl, k, hk, rfl, ht, rfl⟩)))))⟩, fun _ => by dsimp only; omega⟩
    · rw [ha, if_neg nf, hw]
      by_cases h8 : scanTo lowB s j - j ≤ 8
      · rw [if_pos h8, if_pos ⟨rfl, by omega⟩]
        exact ⟨⟨rfl, Or.inr (Or.inr (Or.inl ⟨rfl, rfl, rfl⟩))⟩, fun _ => by dsimp only; omega⟩
      · rw [if_neg h8, if_neg (by omega)]
        exact ⟨⟨rfl, Or.inr (Or.inl ⟨rfl, rfl⟩)⟩, fun h => absurd rfl h⟩
  | false =>
    rw [if_neg nf, if_neg nf]
    cases hd : digB (bt s j) with
    | true =>
      rw [if_pos rfl, if_pos rfl]
      have hs := scanTo_shift (p := numeB) (s := s) (j := j) (by omega)
      have hbd := scanTo_bd (p := numeB) (s := s) (i := j) (by omega)
      have hall : ∀ c ∈ (s.extract j (scanTo numeB s j)).data.toList, numeB (c.toNat : Int) = true := by
        rw [hs, ← ext_ext, ext_list]
        intro c hc
        exact scanTo_all (p := numeB) (s := s.extract j s.size) (by simpa using hc)
      rw [ext_ext, ← hs]
      have hsz : (s.extract j (scanTo numeB s j)).size = scanTo numeB s j - j := ext_sz hbd.2
      generalize s.extract j (scanTo numeB s j) = t at *
      unfold digitsP
      obtain ⟨n1, n2⟩ := num_spec t 4294967295
      by_cases hn : numP t 4294967295 < 0
      · rw [n1, if_neg (show ¬ 0 ≤ numP t 4294967295 by omega), if_neg (show ¬ (decide (¬ numP t 4294967295 < 0)) = true by simp; omega)]
        have hp := pref_eq hall
        cases hq : prefS t with
        | none =>
          rw [hq] at hp
          have hp : (prefR t).2.2 = false := hp
          rw [hp, if_neg nf, if_neg (by simp)]
          exact ⟨⟨rfl, Or.inr (Or.inl ⟨rfl, rfl⟩)⟩, fun h => absurd rfl h⟩
        | some x =>
          rw [hq] at hp
          have hp : prefR t = (x.1, x.2, true) := hp
          have hv : prefV t = x := by unfold prefV; rw [hq]; rfl
          rw [hp, if_pos rfl, if_pos (by simp), hv]
          exact ⟨⟨rfl, Or.inr (Or.inr (Or.inr (Or.inr (Or.inl ⟨rfl, rfl, rfl, by rw [hp], by rw [hp], by rw [hp]⟩))))⟩, fun _ => by dsimp only; omega⟩
      · rw [n1, if_pos (show 0 ≤ numP t 4294967295 by omega), if_pos (show (decide (¬ numP t 4294967295 < 0)) = true by simp; omega), n2 hn]
        exact ⟨⟨rfl, Or.inr (Or.inr (Or.inr (Or.inl ⟨rfl, rfl, rfl, rfl, by dsimp only; omega⟩)))⟩, fun _ => by dsimp only; omega⟩
    | false =>
      rw [if_neg nf, if_neg nf]
      obtain ⟨b, hb1, hb2⟩ := bt_list hj
      rw [ext_ext]
      have ht : s.extract j (j + 1) = bsA [b] := by
        rw [ext_mid, show j + 1 - j = 1 by omega]
        have : (s.data.toList.drop j).take 1 = [b] := by
          rw [List.take_one, List.head?_drop, hb1]; rfl
        rw [this]
      rw [ht, hb2]
      rcases sign_spec b.toNat (by have := b.toNat_lt; omega) with ⟨h1, k, hk, h2, h3⟩ | ⟨h1, h2⟩
      · rw [h1, if_pos rfl, h2]
        refine ⟨⟨rfl, Or.inr (Or.inr (Or.inr (Or.inr (Or.inr (Or.inr ⟨rfl, k, hk, rfl, ?_, rfl⟩)))))⟩, fun _ => by dsimp only; rw [bsA_size]; rfl⟩
        dsimp only
        rw [h3]; simp
      · rw [h1, if_neg nf, h2]
        exact ⟨⟨rfl, Or.inr (Or.inl ⟨rfl, rfl⟩)⟩, fun h => absurd rfl h⟩
/-! ## all of them -/
theorem allGo_at {s : ByteArray} : ∀ (f i : Nat), i ≤ s.size → s.size + 1 ≤ f + i →
    (scanTo blankB s i = s.size ∧ allGo s f i = [endTok s]) ∨ (scanTo blankB s i < s.size ∧ blankB (bt s (scanTo blankB s i)) = false ∧ ((tkAt s (scanTo blankB s i)).kind = 0 ∧ allGo s f i = [tkAt s (scanTo blankB s i)] ∨
      (tkAt s (scanTo blankB s i)).kind ≠ 0 ∧ ∃ g, s.size + 1 ≤ g + (scanTo blankB s i + (tkAt s (scanTo blankB s i)).text.size) ∧ allGo s f i = tkAt s (scanTo blankB s i) :: allGo s g (scanTo blankB s i + (tkAt s (scanTo blankB s i)).text.size)))
  | 0, i, h1, h2 => by omega
  | f + 1, i, h1, h2 => by
    by_cases hlt : i < s.size
    · cases hb : blankB (bt s i) with
      | true =>
        rw [scanTo_step hlt hb, show allGo s (f + 1) i = allGo s f (i + 1) by rw [allGo, if_pos hlt, if_pos hb]]
        exact allGo_at f (i + 1) (by omega) (by omega)
      | false =>
        have hs : scanTo blankB s i = i := scanTo_stop (by rw [hb]; simp)
        rw [hs]
        right
        refine ⟨hlt, hb, ?_⟩
        by_cases h0 : (tkAt s i).kind = 0
        · exact Or.inl ⟨h0, allGo_bad hlt hb h0⟩
        · have ht := tkAt_text hlt
          exact Or.inr ⟨h0, f, by omega, allGo_step hlt hb h0⟩
    · left
      have : i = s.size := by omega
      subst this
      exact ⟨scanTo_big (Nat.le_refl _), by rw [allGo, if_neg hlt]⟩
def cutsFrom (s : ByteArray) (i : Nat) : Nat → Tok × Nat
  | 0 => cutP s i
  | k + 1 => cutP s (cutsFrom s i k).2
theorem cutsFrom_succ (s : ByteArray) (i : Nat) : ∀ k, cutsFrom s i (k + 1) = cutsFrom s (cutP s i).2 k
  | 0 => rfl
  | k + 1 => by rw [cutsFrom, cutsFrom_succ s i k]; rfl
theorem cutsP_from (s : ByteArray) : ∀ k, cutsP s k = cutsFrom s 0 k
  | 0 => rfl
  | k + 1 => by rw [cutsP, cutsP_from s k]; rfl
theorem cuts_rel {s : ByteArray} : ∀ (k f i : Nat), i ≤ s.size → s.size + 1 ≤ f + i → ∀ (h : k < (allGo s f i).length), TRel (cutsFrom s i k).1 (allGo s f i)[k] := by
  intro k
  induction k with
  | zero =>
    intro f i h1 h2 h
    rcases allGo_at f i h1 h2 with ⟨a, b⟩ | ⟨a, _, ⟨_, c⟩ | ⟨_, g, _, c⟩⟩
    · simp only [b, List.getElem_cons_zero]
      show TRel (tokAt s (scanTo blankB s i)).1 _
      rw [a]
      unfold tokAt
      rw [if_pos (Nat.le_refl _)]
      exact ⟨rfl, Or.inl ⟨rfl, rfl⟩⟩
    · simp only [c, List.getElem_cons_zero]
      exact (tok_eq a).1
    · simp only [c, List.getElem_cons_zero]
      exact (tok_eq a).1
  | succ k ih =>
    intro f i h1 h2 h
    rw [cutsFrom_succ]
    rcases allGo_at f i h1 h2 with ⟨a, b⟩ | ⟨a, _, ⟨_, c⟩ | ⟨c0, g, hg, c⟩⟩
    · rw [b] at h; simp at h
    · rw [c] at h; simp at h
    · have e : (cutP s i).2 = scanTo blankB s i + (tkAt s (scanTo blankB s i)).text.size := (tok_eq a).2 c0
      have ht := tkAt_text a
      rw [e]
      simp only [c, List.getElem_cons_succ]
      exact ih g _ (by omega) hg (by rw [c] at h; simpa using h)
theorem lx_all {s : ByteArray} (hs : s.size ≤ 600) : Lx s (allP s) :=
  ⟨fun k h => by rw [cutsP_from]; exact cuts_rel k _ 0 (Nat.zero_le _) (by omega) h, (allP_ok hs).1.last⟩
end Go.Proofs.YtgdeeodifnegiaaGreatDoor
