/- The program's rows of attributes (package messages): how they lie; pathValue, putAttributes. -/
import Derived.Test.YtgngdklkoilaiaaGreatDoorMsgC
namespace Go.Proofs.YtgngdklkoilaiaaGreatDoor
open Go.RowKit

theorem BytesAt.reads {w : World} {v : Value} {l : List Int} (h : BytesAt w v l) : ReadsAs w v l.length (l.map (Value.int .u8)) := by
  obtain ⟨p, c, rfl, hcap, hl, hin, hr⟩ := h
  rcases hr with ⟨rfl, hp⟩ | ⟨b, o, rfl, hb, hc⟩
  · cases p with
    | none => have := hp rfl; subst this; exact Or.inl ⟨rfl, rfl, rfl⟩
    | some a => exact Or.inr ⟨a, c, rfl, fun j u hj => by simp at hj⟩
  · refine Or.inr ⟨_, _, rfl, fun j u hj => ?_⟩
    have hjl : j < l.length := by
      rcases Nat.lt_or_ge j l.length with h1 | h1
      · exact h1
      · rw [List.getElem?_eq_none (by simpa using h1)] at hj; cases hj
    have hadd : (⟨b, o, none⟩ : Addr).add j = ⟨b, o + j, none⟩ := by unfold Addr.add; split <;> simp_all
    rw [hadd, hc j hjl]
    rw [List.getElem?_map, List.getElem?_eq_getElem hjl] at hj
    exact hj
theorem BytesAt.lt {w : World} {v : Value} {l : List Int} (h : BytesAt w v l) : l = [] ∨ ∀ k, v.ownBlock = some k → k < w.heap.size := by
  obtain ⟨p, c, rfl, hcap, hl, hin, hr⟩ := h
  rcases hr with ⟨rfl, hp⟩ | ⟨b, o, rfl, hb, hc⟩
  · exact Or.inl rfl
  · refine Or.inr fun k hk => ?_
    have e : b = k := by simpa [Value.ownBlock] using hk
    omega
/-- what is kept can be read -/
theorem BytesAt.kept {w w' : World} {v : Value} {l : List Int} (h : BytesAt w v l) (hs : w.heap.size ≤ w'.heap.size) (hk : ∀ k, v.ownBlock = some k → w'.heap[k]? = w.heap[k]?) : BytesAt w' v l := by
  obtain ⟨p, c, rfl, hcap, hl, hin, hr⟩ := h
  refine ⟨p, c, rfl, hcap, hl, hin, ?_⟩
  rcases hr with h | ⟨b, o, rfl, hb, hc⟩
  · exact Or.inl h
  · refine Or.inr ⟨b, o, rfl, by omega, fun j hj => ?_⟩
    rw [World.cell?_of_block (w := w) (a := ⟨b, o + j, none⟩) (hk b rfl)]; exact hc j hj

def attU (l : List (Int × Int × Value)) : List Value := l.flatMap fun a => [.int .u8 a.1, .int .u8 a.2.1, a.2.2]
theorem attU_snoc (l : List (Int × Int × Value)) (a : Int × Int × Value) : attU (l ++ [a]) = attU l ++ [.int .u8 a.1, .int .u8 a.2.1, a.2.2] := by simp [attU]
theorem attU_get : ∀ (l : List (Int × Int × Value)) (j : Nat) (h : j < l.length), (attU l)[3 * j]? = some (.int .u8 l[j].1) ∧ (attU l)[3 * j + 1]? = some (.int .u8 l[j].2.1) ∧ (attU l)[3 * j + 2]? = some l[j].2.2 := by
  intro l
  induction l with
  | nil => intro j h; simp at h
  | cons x l ih =>
    intro j h
    cases j with
    | zero => exact ⟨rfl, rfl, rfl⟩
    | succ j =>
      have := ih j (by simpa using h)
      have e : attU (x :: l) = .int .u8 x.1 :: .int .u8 x.2.1 :: x.2.2 :: attU l := rfl
      rw [e, show 3 * (j + 1) = 3 * j + 1 + 1 + 1 by omega]
      simpa using this
/-- a row of attributes of one's own -/
def OwnU (w : World) (base : Nat) (v : Value) (l : List (Int × Int × Value)) : Prop := w.ownsRow base 279 3 v l.length (attU l)
/-- a row of attributes that can be read -/
def RowU (w : World) (v : Value) (l : List (Int × Int × Value)) : Prop :=
  ∃ p c, v = .slice p l.length c ∧ l.length ≤ c ∧ (l = [] ∨ ∃ b o, p = some ⟨b, o, none⟩ ∧ b < w.heap.size ∧ ∀ j, (h : j < l.length) → w.cell? ⟨b, o + j * 3, none⟩ = some (.int .u8 l[j].1) ∧ w.cell? ⟨b, o + j * 3 + 1, none⟩ = some (.int .u8 l[j].2.1) ∧ w.cell? ⟨b, o + j * 3 + 2, none⟩ = some l[j].2.2)
theorem OwnU.row {w : World} {base : Nat} {v : Value} {l : List (Int × Int × Value)} (h : OwnU w base v l) : RowU w v l := by
  have hk := h
  obtain ⟨h1, h2⟩ := h
  rcases h2 with ⟨rfl, h0⟩ | ⟨g, cap, cur, rfl, hb, hg, hn, hm, hs, ht⟩
  · exact ⟨none, 0, by rw [h0], by omega, Or.inl (List.length_eq_zero_iff.1 h0)⟩
  · refine ⟨some ⟨g, 0, none⟩, cap, rfl, hn, Or.inr ⟨g, 0, rfl, heap_lt hg, fun j hj => ?_⟩⟩
    obtain ⟨e1, e2, e3⟩ := attU_get l j hj
    have h3 := hk.cells (g := g) rfl _ _ e1
    have h4 := hk.cells (g := g) rfl _ _ e2
    have h5 := hk.cells (g := g) rfl _ _ e3
    rw [addr_add] at h3 h4 h5
    rw [Nat.zero_add, Nat.mul_comm j 3]
    exact ⟨h3, h4, h5⟩
theorem RowU.below {w w' : World} {v : Value} {l : List (Int × Int × Value)} (h : RowU w v l) (hb : Below w.heap.size w w') : RowU w' v l := by
  obtain ⟨p, c, hv, hcap, hr⟩ := h
  refine ⟨p, c, hv, hcap, ?_⟩
  rcases hr with h | ⟨b, o, hp, hlt, hc⟩
  · exact Or.inl h
  · refine Or.inr ⟨b, o, hp, Nat.lt_of_lt_of_le hlt hb.size, fun j hj => ?_⟩
    rw [hb.cell (p := ⟨b, o + j * 3, none⟩) hlt, hb.cell (p := ⟨b, o + j * 3 + 1, none⟩) hlt, hb.cell (p := ⟨b, o + j * 3 + 2, none⟩) hlt]; exact hc j hj
theorem AttsAt.get {w : World} : ∀ {l : List (Int × Int × Value)} {m : List (Int × Int × List Int)}, AttsAt w l m → ∀ (j : Nat) (h : j < l.length) (h2 : j < m.length), l[j].1 = m[j].1 ∧ l[j].2.1 = m[j].2.1 ∧ BytesAt w l[j].2.2 m[j].2.2 := by
  intro l
  induction l with
  | nil => intro m h j hj; simp at hj
  | cons a l ih =>
    intro m h j hj hj2
    cases m with
    | nil => cases h
    | cons p m =>
      cases j with
      | zero => exact h.1
      | succ j => exact ih h.2 j (by simpa using hj) (by simpa using hj2)
theorem AttsAt.kept {w w' : World} : ∀ {l : List (Int × Int × Value)} {m : List (Int × Int × List Int)}, AttsAt w l m → w.heap.size ≤ w'.heap.size → (∀ a ∈ l, ∀ k, a.2.2.ownBlock = some k → w'.heap[k]? = w.heap[k]?) → AttsAt w' l m := by
  intro l
  induction l with
  | nil => intro m h _ _; cases m with | nil => trivial | cons _ _ => cases h
  | cons a l ih =>
    intro m h hs hk
    cases m with
    | nil => cases h
    | cons p m => exact ⟨⟨h.1.1, h.1.2.1, h.1.2.2.kept hs (hk a (by simp))⟩, ih h.2 hs (fun b hb => hk b (by simp [hb]))⟩
theorem AttsAt.below {w w' : World} {l : List (Int × Int × Value)} {m : List (Int × Int × List Int)} (h : AttsAt w l m) (hb : Below w.heap.size w w') : AttsAt w' l m := by
  induction l generalizing m with
  | nil => cases m with | nil => trivial | cons _ _ => cases h
  | cons a l ih => cases m with | nil => cases h | cons p m => exact ⟨⟨h.1.1, h.1.2.1, h.1.2.2.below hb⟩, ih h.2⟩
theorem Tryz.infoAttU : (Tryz.prog.info? 279).map (fun i => (i.zero, i.size, i.bytes)) = some (some (.agg #[.int .u8 0, .int .u8 0, .slice none 0 0]), 3, 32) := by kernel_rfl

set_option maxHeartbeats 800000 in
theorem pathValue_any (p : List Int) (x : Value) (w : World) (hx : IntsAt w x p) (hxo : p = [] ∨ ∀ k, x.ownBlock = some k → k < w.heap.size) (hp : p.length ≤ 12) :
    Calls Tryz.prog 181 #[x] w fun e w' => ∃ v, e = .returned v ∧ OwnB w' w.heap.size v (pathB p) ∧ Below w.heap.size w w' := by
  have HX := hide hx
  obtain ⟨q, c, rfl, hcap, hl, _⟩ := hx
  by_cases h0 : p.length = 0
  · have HZ := hide (show pathB p = [] from by unfold pathB; rw [if_pos (List.length_eq_zero_iff.1 h0)])
    have d : ((p.length : Int) == 0) = true := by simp [h0]
    clear h0
    go_enter Tryz.func181, Tryz.ntmps181
    go_wp2
    go_ret
    exact ⟨_, rfl, by rw [unhide HZ]; exact World.ownsRow_nil _ _ _ _, Below.refl _ _⟩
  · have HZ := hide (show pathB p = [2, (p.length : Int)] ++ wordsB p from by unfold pathB; rw [if_neg (fun e => h0 (by rw [e]; rfl))]; rfl)
    have d : ((p.length : Int) == 0) = false := beq_eq_false_iff_ne.2 (by omega)
    have hmod : (p.length : Int) % 256 = p.length := by omega
    clear h0
    go_enter Tryz.func181, Tryz.ntmps181
    go_wp2_with fail
    have b0 := (Below.refl w.heap.size w).alloc (Nat.le_refl _) (.cells #[.int .u8 2, .int .u8 p.length] 5)
    refine (putPairs_any w.heap.size [2, (p.length : Int)] p _ _ _ (OwnB.made (w := w) (l := [2, (p.length : Int)]) (Nat.le_refl _) (by simp)) (by simp) ((unhide HX).below b0) (hxo.imp id (fun h k hk => ⟨by have := h k hk; simp; omega, fun e => by have := h k hk; have e2 : w.heap.size = k := (by simpa [Value.ownBlock] using e.symm); omega⟩)) (by simp) (by omega)).mono ?_
    rintro e w1 ⟨v1, rfl, g1⟩
    have O1 := hide g1.own
    have B1 := hide (b0.trans g1.be)
    clear g1 b0
    go_wp2
    go_ret
    exact ⟨_, rfl, by rw [unhide HZ]; exact unhide O1, unhide B1⟩

theorem attsB_snoc (l : List (Int × Int × List Int)) (x : Int × Int × List Int) : attsB (l ++ [x]) = attsB l ++ attB x := by simp [attsB]
theorem attsB_bd : ∀ (l : List (Int × Int × List Int)), (∀ d ∈ l, d.2.2.length ≤ 255) → (attsB l).length ≤ 258 * l.length := by
  intro l
  induction l with
  | nil => intro _; simp [attsB]
  | cons x l ih =>
    intro h
    have h1 := ih (fun d hd => h d (by simp [hd]))
    have h2 := h x (by simp)
    have e : attsB (x :: l) = attB x ++ attsB l := by simp [attsB]
    rw [e, List.length_append, attB_len, List.length_cons]
    omega
def attOk (d : Int × Int × List Int) : Prop := (0 ≤ d.1 ∧ d.1 ≤ 255) ∧ (0 ≤ d.2.1 ∧ d.2.1 ≤ 255) ∧ d.2.2.length ≤ 255

set_option maxRecDepth 100000 in
set_option maxHeartbeats 1600000 in
theorem putAttributes_any (A : List (Int × Int × Value)) (D : List (Int × Int × List Int)) (x : Value) (w : World) (hx : RowU w x A) (hA : AttsAt w A D) (hlen : A.length ≤ 1000) (hok : ∀ d ∈ D, attOk d) :
    Calls Tryz.prog 131 #[.slice none 0 0, x] w fun e w' => ∃ v', e = .returned v' ∧ OwnB w' w.heap.size v' (attsB D) ∧ Below w.heap.size w w' := by
  obtain ⟨i0, hi0, hz0, hz1, hz2⟩ := info_parts Tryz.infoByte
  obtain ⟨p, c, rfl, hcap, hr⟩ := hx
  have HR := hide hr
  have HA := hide hA
  have HOK := hide hok
  have HL := hide hA.len
  clear hr hA hok
  go_enter Tryz.func131, Tryz.ntmps131
  go_wp2
  go_loopw [0, 9] (fun v0 i wr => ∃ k : Nat, k ≤ A.length ∧ i = .int .i64 k ∧ OwnB wr w.heap.size v0 (attsB (D.take k)) ∧ Below w.heap.size w wr) (fun _ i _ => A.length - (intOf i).toNat)
  case atStart => exact ⟨0, Nat.zero_le _, rfl, World.ownsRow_nil _ _ _ _, Below.refl _ _⟩
  case round =>
    rename World => WR
    obtain ⟨k, hk, rfl, how, hbe⟩ := hrel
    have OW := hide how
    have BE := hide hbe
    have hsz := hbe.size
    clear how hbe
    by_cases hlt : k < A.length
    · rcases unhide HR with h | ⟨b, o, rfl, hbb, hc⟩
      · rw [h] at hlt; simp at hlt
      have hltD : k < D.length := by have := unhide HL; omega
      have hck : WR.cell? ⟨b, o + k * 3, none⟩ = some (.int .u8 A[k].1) ∧ WR.cell? ⟨b, o + k * 3 + 1, none⟩ = some (.int .u8 A[k].2.1) ∧ WR.cell? ⟨b, o + k * 3 + 2, none⟩ = some A[k].2.2 := by
        rw [(unhide BE).cell (p := ⟨b, o + k * 3, none⟩) hbb, (unhide BE).cell (p := ⟨b, o + k * 3 + 1, none⟩) hbb, (unhide BE).cell (p := ⟨b, o + k * 3 + 2, none⟩) hbb]
        exact hc k hlt
      obtain ⟨e1, e2, hby⟩ := (unhide HA).get k hlt hltD
      rw [e1, e2] at hck
      obtain ⟨⟨f0, f1⟩, ⟨n0, n1⟩, hvl⟩ := unhide HOK D[k] (List.getElem_mem _)
      have hnb : (attsB (D.take k)).length ≤ 258000 := by
        have h1 := attsB_bd (D.take k) (fun d hd => (unhide HOK d (List.mem_of_mem_take hd)).2.2)
        have h2 : (D.take k).length ≤ k := by rw [List.length_take]; omega
        omega
      have HSN := hide (show attsB (D.take (k + 1)) = (attsB (D.take k) ++ [D[k].1, D[k].2.1, (D[k].2.2.length : Int)]) ++ D[k].2.2 from by
        rw [List.take_succ_eq_append_getElem hltD, attsB_snoc, attB]; simp)
      obtain ⟨c0, c1, c2⟩ := hck
      obtain ⟨q2, k2, hv2⟩ : ∃ q2 k2, A[k].2.2 = .slice q2 D[k].2.2.length k2 := by
        obtain ⟨p, c, hv, _⟩ := hby; exact ⟨p, c, hv⟩
      rw [hv2] at c2 hby
      clear hc hv2 e1 e2
      obtain ⟨X, hX⟩ : ∃ X, D[k] = X := ⟨_, rfl⟩
      rw [hX] at HSN f0 f1 n0 n1 hvl c0 c1 c2 hby
      clear hX
      have HBY := hide hby
      clear hby
      obtain ⟨f, n, Y⟩ := X
      simp only at HSN f0 f1 n0 n1 hvl c0 c1 c2 HBY
      obtain ⟨M, hM⟩ : ∃ M, attsB (D.take k) = M := ⟨_, rfl⟩
      rw [hM] at HSN hnb OW
      clear hM
      have em : (Y.length : Int) % 256 = Y.length := by omega
      obtain ⟨q0, k0, hq0⟩ := own_slice (unhide OW)
      subst hq0
      have hq : some WR.heap.size ≠ (Value.slice q0 M.length k0).ownBlock := fun e => by have := ((unhide OW).lt _ e.symm).2; omega
      go_upto_region 5 with (at_builtin; refine wpList_append_lies _ rfl _ _ _ rfl w.heap.size 5 i0 _ 1 1 Tryz.underlying63 hi0 hz0 hz1 hz2 rfl (by omega) (.slice q0 M.length k0) M.length (M.map (Value.int .u8)) rfl (World.ownsRow.alloc (World.ownsRow.alloc (unhide OW) _) _) ⟨WR.heap.size + 1, 0, none⟩ 3 3 [.int .u8 f, .int .u8 n, .int .u8 Y.length] rfl rfl (World.news_of_block (cs := #[.int .u8 f, .int .u8 n, .int .u8 Y.length]) (t := 5) (fr := (0, 0)) (by have := heap_alloc_new (WR.alloc (.cells #[.int .u8 f, .int .u8 n, .slice q2 Y.length k2] 279)) (.cells #[.int .u8 f, .int .u8 n, .int .u8 Y.length] 5); simpa using this)) (by simp [Value.oneCell']) (by omega) (by simp [maxLen]; omega) (by omega) (by simp; omega) (WR.heap.size + 2) (by simp) ?_; intro gg cap w1 hown hgrow hat hltg)
      have B1 := hide ((((unhide BE).alloc hsz _).alloc (by simp; omega) _).grown hgrow (by simp; omega) (fun j hj => ((unhide OW).lt j hj).1))
      have QB : w1.heap[WR.heap.size]? = some (.cells #[.int .u8 f, .int .u8 n, .slice q2 Y.length k2] 279 (0, 0)) := by
        rw [hgrow.block WR.heap.size (by simp; omega) hq, Below.heap_alloc _ _ _ (by simp)]
        exact heap_alloc_new _ _
      have c2' : w1.cell? ⟨WR.heap.size, 2, none⟩ = some (.slice q2 Y.length k2) := cell_of_heap QB
      have O1 := hide (OwnB.join (a := M) (b := [f, n, (Y.length : Int)]) rfl rfl hown)
      have R1 := hide ((unhide HBY).below (unhide B1)).reads
      have hs1 := (unhide B1).size
      clear hown hgrow hat QB c0 c1 c2
      go_wp2_with (at_builtin; refine wpList_append_reads rfl _ _ _ rfl w.heap.size 5 i0 _ 1 1 Tryz.underlying63 hi0 hz0 hz1 hz2 rfl (by omega) (.slice (some ⟨gg, 0, none⟩) (M.length + 3) cap) (M.length + 3) ((M ++ [f, n, (Y.length : Int)]).map (Value.int .u8)) rfl (by have := unhide O1; unfold OwnB at this; rwa [List.length_append] at this) (.slice q2 Y.length k2) Y.length (Y.map (Value.int .u8)) rfl (unhide R1) (by simp) (one_u8 _) (by simp only [maxLen]; omega) (by omega) hs1 ?_; intro v' wn hown hgrow hat)
      exact ⟨⟨k + 1, by omega, by go_num, by rw [unhide HSN]; exact OwnB.join (a := M ++ [f, n, (Y.length : Int)]) (b := Y) (by simp) rfl hown, (unhide B1).grown hgrow hs1 (fun j hj => ((unhide O1).lt j hj).1)⟩, by simp [intOf]; omega⟩
    · have HE := hide (show D.take k = D from List.take_of_length_le (by have := unhide HL; omega))
      go_wp2
      go_ret
      exact ⟨_, rfl, by have := unhide OW; rwa [unhide HE] at this, unhide BE⟩
end Go.Proofs.YtgngdklkoilaiaaGreatDoor
