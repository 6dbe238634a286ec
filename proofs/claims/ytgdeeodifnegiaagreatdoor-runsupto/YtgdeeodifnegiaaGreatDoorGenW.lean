/- Lemmas on rows, nets, marks and bytes that hang on no function of the program. No walk here. -/
import Derived.Test.YtgdeeodifnegiaaGreatDoorRtP
import Derived.Test.YtgdeeodifnegiaaGreatDoorNetsA
import Derived.Test.YtgdeeodifnegiaaGreatDoorMem
namespace Go.Proofs.YtgdeeodifnegiaaGreatDoor
open Go.RowKit


theorem Tryz.infoByteW : (Tryz.prog.info? 5).map (fun i => (i.zero, i.size, i.bytes)) = some (some (.int .u8 0), 1, 1) := by kernel_rfl
theorem OwnB.made {w : World} {base : Nat} {l : List Int} (hb : base ≤ w.heap.size) (hl : l.length ≤ 1000) : OwnB (w.alloc (.cells (l.map (Value.int .u8)).toArray 5)) base (.slice (some ⟨w.heap.size, 0, none⟩) l.length l.length) l := by
  refine ⟨by simp, Or.inr ⟨w.heap.size, l.length, (l.map (Value.int .u8)).toArray, rfl, hb, heap_alloc_new _ _, Nat.le_refl _, by simp [maxLen]; omega, by simp, by simpa using List.take_of_length_le (l := l.map (Value.int .u8)) (by simp)⟩⟩
theorem OwnB.next {w w' : World} {base : Nat} {v : Value} {l : List Int} (h : OwnB w base v l) (hb : Below w.heap.size w w') : OwnB w' base v l := owns_of h (fun k hk => hb.block k (h.lt k hk).2)
theorem OwnB.base {w : World} {base b2 : Nat} {v : Value} {l : List Int} (h : OwnB w base v l) (hb : b2 ≤ base) : OwnB w b2 v l := owns_base h hb
theorem OwnB.join {w : World} {base : Nat} {v : Value} {a b : List Int} {n m : Nat} (hn : n = a.length) (hm : m = b.length) (h : w.ownsRow base 5 1 v (n + m) (a.map (Value.int .u8) ++ b.map (Value.int .u8))) : OwnB w base v (a ++ b) := by
  subst hn hm
  unfold OwnB
  rw [List.map_append, List.length_append]; exact h
theorem one_u8 (l : List Int) : ∀ u ∈ l.map (Value.int .u8), u.oneCell' = true := by
  intro u hu
  obtain ⟨x, _, rfl⟩ := List.mem_map.1 hu
  rfl
theorem reads_slice {w : World} {x : Value} {m : Nat} {news : List Value} (h : ReadsAs w x m news) : ∃ q c, x = .slice q m c := by
  rcases h with ⟨rfl, rfl, _⟩ | ⟨ad, c, rfl, _⟩
  · exact ⟨_, _, rfl⟩
  · exact ⟨_, _, rfl⟩

theorem own_take {w : World} {base g cap n : Nat} {l : List Int} (h : OwnB w base (.slice (some ⟨g, 0, none⟩) l.length cap) l) (hn : n ≤ l.length) (c : Nat) : ReadsAs w (.slice (some ⟨g, 0, none⟩) n c) n ((l.take n).map (Value.int .u8)) := by
  refine Or.inr ⟨_, _, rfl, fun j u hj => h.cells rfl j u ?_⟩
  rw [List.map_take] at hj
  have hlt : j < n := by
    rcases Nat.lt_or_ge j n with h1 | h1
    · exact h1
    · rw [List.getElem?_eq_none (by simp; omega)] at hj; cases hj
  rwa [List.getElem?_take_of_lt hlt] at hj
theorem netsB_snoc (l : List (Int × Int)) (x : Int × Int) : netsB (l ++ [x]) = netsB l ++ netBy x := by simp [netsB]


theorem NetsAt.reads {w : World} {v : Value} {l : List (Int × Int)} (h : NetsAt w v l) : ReadsAs w v l.length (netCells l) := by
  obtain ⟨p, c, rfl, hcap, hl, hin, hr⟩ := h
  rcases hr with ⟨rfl, hp⟩ | ⟨b, o, rfl, hb, hc⟩
  · cases p with
    | none => have := hp rfl; subst this; exact Or.inl ⟨rfl, rfl, rfl⟩
    | some a => exact Or.inr ⟨a, c, rfl, fun j u hj => by simp [netCells] at hj⟩
  · refine Or.inr ⟨_, _, rfl, fun j u hj => ?_⟩
    have hjl : j < l.length * 2 := by
      rcases Nat.lt_or_ge j (l.length * 2) with h1 | h1
      · exact h1
      · rw [List.getElem?_eq_none (by rw [netCells_len]; exact h1)] at hj; cases hj
    have hadd : (⟨b, o, none⟩ : Addr).add j = ⟨b, o + j, none⟩ := by unfold Addr.add; split <;> simp_all
    rw [hadd]
    have hq : j / 2 < l.length := by omega
    obtain ⟨e1, e2⟩ := netCells_get l (j / 2) hq
    obtain ⟨c1, c2⟩ := hc (j / 2) hq
    rcases (by omega : j = 2 * (j / 2) ∨ j = 2 * (j / 2) + 1) with hj2 | hj2
    · rw [← hj2] at e1; rw [e1] at hj; cases hj
      rw [← c1]; congr 1; simp only [Addr.mk.injEq, and_true, true_and]; omega
    · rw [← hj2] at e2; rw [e2] at hj; cases hj
      rw [← c2]; congr 1; simp only [Addr.mk.injEq, and_true, true_and]; omega
theorem one_net (l : List (Int × Int)) : ∀ u ∈ netCells l, u.oneCell' = true := by
  intro u hu
  obtain ⟨x, _, hx⟩ := List.mem_flatMap.1 hu
  simp only [List.mem_cons, List.not_mem_nil, or_false] at hx
  rcases hx with rfl | rfl <;> rfl
theorem netCells_append (a b : List (Int × Int)) : netCells (a ++ b) = netCells a ++ netCells b := by simp [netCells]
def netsOkB (l : List (Int × Int)) : Bool := decide (netsOk l)
theorem netsOkB_long {l : List (Int × Int)} (h : 20 < l.length) : netsOkB l = false := by
  unfold netsOkB; simp only [decide_eq_false_iff_not]; intro h2; have := h2.1; omega
theorem netsOkB_bad {l : List (Int × Int)} {k : Nat} (hk : k < l.length) (h : netOkB l[k] = false) : netsOkB l = false := by
  unfold netsOkB; simp only [decide_eq_false_iff_not]; intro h2
  have := h2.2.1 l[k] (List.getElem_mem _)
  unfold netOkB at h; simp only [decide_eq_false_iff_not] at h; exact h this
theorem netsOkB_twice {l : List (Int × Int)} {k j : Nat} (hk : k < l.length) (hj : j < k) (h : l[k] = l[j]) : netsOkB l = false := by
  unfold netsOkB; simp only [decide_eq_false_iff_not]; intro h2
  have := (List.getElem_inj (h₀ := hk) (h₁ := by omega) h2.2.2).1 h
  omega
theorem nodup_take_succ {l : List (Int × Int)} {k : Nat} (hk : k < l.length) (h : (l.take k).Nodup) (hn : l[k] ∉ l.take k) : (l.take (k + 1)).Nodup := by
  rw [List.take_succ_eq_append_getElem hk, List.nodup_append]
  refine ⟨h, by simp, fun a ha b hb => ?_⟩
  simp only [List.mem_singleton] at hb
  subst hb
  intro e; subst e; exact hn ha
theorem netsOkB_all {l : List (Int × Int)} {k : Nat} (hlen : l.length ≤ 20) (hk : l.length ≤ k) (h1 : ∀ x ∈ l.take k, netOk x) (h2 : (l.take k).Nodup) : netsOkB l = true := by
  rw [List.take_of_length_le hk] at h1 h2
  unfold netsOkB; simp only [decide_eq_true_eq]; exact ⟨hlen, h1, h2⟩
theorem Tryz.infoNetW : (Tryz.prog.info? 25).map (fun i => (i.zero, i.size, i.bytes)) = some (some (.agg #[.int .i64 0, .int .i64 0]), 2, 16) := by kernel_rfl
theorem OwnN.nextW {w w' : World} {base : Nat} {v : Value} {l : List (Int × Int)} (h : OwnN w base v l) (hb : Below w.heap.size w w') : OwnN w' base v l := owns_of h (fun k hk => hb.block k (h.lt k hk).2)
theorem OwnN.cellW {w : World} {base : Nat} {q : Option Addr} {c : Nat} {l : List (Int × Int)} (h : OwnN w base (.slice q l.length c) l) {j : Nat} (hj : j < l.length) :
    ∃ g, q = some ⟨g, 0, none⟩ ∧ base ≤ g ∧ g < w.heap.size ∧ ∀ i, (hi : i < l.length) → w.cell? ⟨g, i * 2, none⟩ = some (.int .i64 l[i].1) ∧ w.cell? ⟨g, i * 2 + 1, none⟩ = some (.int .i64 l[i].2) := by
  have hk := h
  rcases h.2 with ⟨h1, h2⟩ | ⟨g, cap, cur, hv, hb, hg, hn, hm, hs, ht⟩
  · omega
  · cases hv
    refine ⟨g, rfl, hb, heap_lt hg, fun i hi => ?_⟩
    obtain ⟨e1, e2⟩ := netCells_get l i hi
    have h3 := hk.cells (g := g) rfl _ _ e1
    have h4 := hk.cells (g := g) rfl _ _ e2
    rw [addr_add] at h3 h4
    rw [Nat.mul_comm i 2]
    exact ⟨h3, h4⟩

def msgOkB (u : Msg) : Bool := decide (msgOk u)
theorem msgOkB_no {u : Msg} (h : ¬ msgOk u) : msgOkB u = false := by unfold msgOkB; exact decide_eq_false h
theorem msgOkB_yes {u : Msg} (h : msgOk u) : msgOkB u = true := by unfold msgOkB; exact decide_eq_true h
theorem net00 : netOk (0, 0) := by decide
/-- the message's cells in a block stay as they are -/
theorem six_cells {w : World} {b : Nat} {vg vn vp vm : Value} {pref med : Int} (h : w.heap[b]? = some (.cells #[vg, vn, vp, vm, .int .i64 pref, .int .i64 med] 31 (0, 0))) :
    w.cell? ⟨b, 0, none⟩ = some vg ∧ w.cell? ⟨b, 1, none⟩ = some vn ∧ w.cell? ⟨b, 2, none⟩ = some vp ∧ w.cell? ⟨b, 3, none⟩ = some vm ∧ w.cell? ⟨b, 4, none⟩ = some (.int .i64 pref) ∧ w.cell? ⟨b, 5, none⟩ = some (.int .i64 med) :=
  ⟨cell_of_heap h, cell_of_heap h, cell_of_heap h, cell_of_heap h, cell_of_heap h, cell_of_heap h⟩

theorem wordsB_snoc (l : List Int) (x : Int) : wordsB (l ++ [x]) = wordsB l ++ twoB x := by simp [wordsB]
theorem wordsB_take {l : List Int} {k : Nat} (h : k < l.length) : wordsB (l.take (k + 1)) = wordsB (l.take k) ++ twoB l[k] := by
  rw [List.take_succ_eq_append_getElem h, wordsB_snoc]
def pathHead (p : List Int) : List Int := if p = [] then [] else [2, (p.length : Int)]
theorem pathHead_B (p : List Int) : pathHead p ++ wordsB p = pathB p := by
  unfold pathHead pathB
  split
  · rename_i h; subst h; rfl
  · rfl
def medPart (u : Msg) : List Int := if 0 < u.med then attB (128, 4, fourB u.med) else []
def marksPart (u : Msg) : List Int := if u.marks = [] then [] else attB (192, 8, wordsB u.marks)
theorem attsB_eq {u : Msg} (h : u.nets ≠ []) : attsB (attsOf u) = ((attB (64, 2, pathB u.path) ++ medPart u) ++ attB (64, 5, fourB u.pref)) ++ marksPart u := by
  unfold attsOf medPart marksPart
  rw [if_neg h]
  split <;> split <;> simp [attsB]
theorem medPart_len (u : Msg) : (medPart u).length ≤ 7 := by unfold medPart; split <;> simp [attB_len, fourB_len]
theorem IntsAt.cellB {w W : World} {q : Option Addr} {c : Nat} {l : List Int} (h : IntsAt w (.slice q l.length c) l) (hb : Below w.heap.size w W) {k : Nat} (hk : k < l.length) :
    ∃ b o, q = some ⟨b, o, none⟩ ∧ W.cell? ⟨b, o + k, none⟩ = some (.int .i64 l[k]) := by
  obtain ⟨p', c', hv, _, _, _, hr⟩ := h
  cases hv
  rcases hr with h | ⟨b, o, rfl, hlt, hc⟩
  · rw [h.1] at hk; simp at hk
  · exact ⟨b, o, rfl, (hb.cell (p := ⟨b, o + k, none⟩) hlt).trans (hc k hk)⟩

theorem valB_snoc (l : List Int) (x : Int) : valB (l ++ [x]) = 256 * valB l + x := by simp [valB, List.foldl_append]
theorem valB_bd : ∀ (n : Nat) {l : List Int}, bytesOk l → l.length = n → 0 ≤ valB l ∧ valB l < 256 ^ n := by
  intro n
  induction n with
  | zero => intro l _ h; have : l = [] := List.length_eq_zero_iff.1 h; subst this; simp [valB]
  | succ n ih =>
    intro l hb h
    rcases List.eq_nil_or_concat l with rfl | ⟨l', x, rfl⟩
    · simp at h
    · simp only [List.concat_eq_append] at hb h ⊢
      rw [bytesOk_append] at hb
      have hx := hb.2 x (by simp)
      obtain ⟨a, b⟩ := ih hb.1 (by simpa using h)
      rw [valB_snoc, Int.pow_succ]
      omega

/-- bytes at an address -/
def CellsB (w : World) (b o : Nat) (l : List Int) : Prop := b < w.heap.size ∧ ∀ j, (h : j < l.length) → w.cell? ⟨b, o + j, none⟩ = some (.int .u8 l[j])
theorem CellsB.drop {w : World} {b o : Nat} {l : List Int} (h : CellsB w b o l) (n : Nat) : CellsB w b (o + n) (l.drop n) := by
  refine ⟨h.1, fun j hj => ?_⟩
  rw [List.length_drop] at hj
  rw [List.getElem_drop, Nat.add_assoc]; exact h.2 (n + j) (by omega)
theorem CellsB.take {w : World} {b o : Nat} {l : List Int} (h : CellsB w b o l) (n : Nat) : CellsB w b o (l.take n) := by
  refine ⟨h.1, fun j hj => ?_⟩
  rw [List.length_take] at hj
  rw [List.getElem_take]; exact h.2 j (by omega)
theorem CellsB.at_ {w : World} {b o n c : Nat} {l : List Int} (h : CellsB w b o l) (hn : l.length = n) (hc : n ≤ c) (hb : bytesOk l) (hl : n ≤ 140737488355328) : BytesAt w (.slice (some ⟨b, o, none⟩) n c) l := by
  subst hn
  refine ⟨_, _, rfl, hc, by omega, hb, ?_⟩
  exact Or.inr ⟨b, o, rfl, h.1, h.2⟩
theorem BytesAt.empty (w : World) (a : Addr) (c : Nat) : BytesAt w (.slice (some a) 0 c) [] := ⟨_, _, rfl, by simp, by simp, bytesOk_nil, Or.inl ⟨rfl, fun h => by cases h⟩⟩
theorem BytesAt.ofNil (w : World) : BytesAt w (.slice none 0 0) [] := ⟨_, _, rfl, by simp, by simp, bytesOk_nil, Or.inl ⟨rfl, fun _ => rfl⟩⟩
/-- the three parts -/
def partsP (b : List Int) : Option (List Int × List Int × List Int) :=
  if b.length < 2 then none else
  if (b.drop 2).length < (valB (b.take 2)).toNat + 2 then none else
  if ((b.drop 2).drop ((valB (b.take 2)).toNat + 2)).length < (valB (((b.drop 2).drop (valB (b.take 2)).toNat).take 2)).toNat then none else
  some ((b.drop 2).take (valB (b.take 2)).toNat, ((b.drop 2).drop ((valB (b.take 2)).toNat + 2)).take (valB (((b.drop 2).drop (valB (b.take 2)).toNat).take 2)).toNat,
    ((b.drop 2).drop ((valB (b.take 2)).toNat + 2)).drop (valB (((b.drop 2).drop (valB (b.take 2)).toNat).take 2)).toNat)
/-- what parts gives -/
def PartsC (w : World) (b : List Int) (e : Ending) (w' : World) : Prop :=
  Below w.heap.size w w' ∧ match partsP b with
    | none => e = .returned (.tuple #[.slice none 0 0, .slice none 0 0, .slice none 0 0, .bool false])
    | some (g, a, n) => ∃ vg va vn, e = .returned (.tuple #[vg, va, vn, .bool true]) ∧ BytesAt w vg g ∧ BytesAt w va a ∧ BytesAt w vn n
theorem PartsC.no {w w' : World} {b : List Int} (hb : Below w.heap.size w w') (h : partsP b = none) : PartsC w b (.returned (.tuple #[.slice none 0 0, .slice none 0 0, .slice none 0 0, .bool false])) w' := by
  refine ⟨hb, ?_⟩; rw [h]
theorem PartsC.yes {w w' : World} {b g a n : List Int} {vg va vn : Value} (hb : Below w.heap.size w w') (h : partsP b = some (g, a, n)) (h1 : BytesAt w vg g) (h2 : BytesAt w va a) (h3 : BytesAt w vn n) : PartsC w b (.returned (.tuple #[vg, va, vn, .bool true])) w' := by
  refine ⟨hb, ?_⟩; rw [h]; exact ⟨_, _, _, rfl, h1, h2, h3⟩
theorem val2_bd {l : List Int} (hb : bytesOk l) (h : l.length = 2) : 0 ≤ valB l ∧ valB l < 65536 := by
  have := valB_bd 2 hb h; simpa using this

def slen : Value → Nat | .slice _ n _ => n | _ => 0
theorem BytesAt.lenEq {w : World} {v : Value} {l : List Int} (h : BytesAt w v l) : slen v = l.length := by
  obtain ⟨p, c, rfl, _⟩ := h; rfl
theorem padB_len {l : List Int} (h : l.length ≤ 4) : (padB l).length = 4 := by unfold padB; simp; omega
theorem padB_ok {l : List Int} (h : bytesOk l) : bytesOk (padB l) := by
  unfold padB
  refine bytesOk_append.2 ⟨h, fun x hx => ?_⟩
  have := List.eq_of_mem_replicate hx; omega
theorem takes_le {n : Int} (h0 : 0 ≤ n) : takesP n ≤ 4 := by
  unfold takesP; split
  · omega
  · exact (needs_le ⟨h0, by omega⟩).1
theorem valPad_bd {l : List Int} (h : bytesOk l) (hl : l.length ≤ 4) : 0 ≤ valB (padB l) ∧ valB (padB l) ≤ 4294967295 := by
  have := valB_bd 4 (padB_ok h) (padB_len hl)
  have e : (256 : Int) ^ 4 = 4294967296 := by decide
  omega
/-- what readNets gives -/
def NetsC (w : World) (l : List Int) (e : Ending) (w' : World) : Prop :=
  Below w.heap.size w w' ∧ match netsR l with
    | none => e = .returned (.tuple #[.slice none 0 0, .bool false])
    | some L => ∃ v, e = .returned (.tuple #[v, .bool true]) ∧ OwnN w' w.heap.size v L
theorem NetsC.no {w w' : World} {l : List Int} (hb : Below w.heap.size w w') (h : netsR l = none) : NetsC w l (.returned (.tuple #[.slice none 0 0, .bool false])) w' := by
  refine ⟨hb, ?_⟩; rw [h]
theorem NetsC.yes {w w' : World} {l : List Int} {L : List (Int × Int)} {v : Value} (hb : Below w.heap.size w w') (h : netsR l = some L) (ho : OwnN w' w.heap.size v L) : NetsC w l (.returned (.tuple #[v, .bool true])) w' := by
  refine ⟨hb, ?_⟩; rw [h]; exact ⟨_, rfl, ho⟩
theorem netsR_more {l t : List Int} {n : Int} {D : List (Int × Int)} (h : netsR l = (netsR (n :: t)).map (fun L => D ++ L)) (hk : takesP n ≤ t.length) :
    netsR l = (netsR (t.drop (takesP n))).map (fun L => (D ++ [(valB (padB (t.take (takesP n))), n)]) ++ L) := by
  rw [h, netsR_cons, if_neg (by omega), Option.map_map]
  congr 1
  funext L
  simp
theorem netsR_none {l t : List Int} {n : Int} {D : List (Int × Int)} (h : netsR l = (netsR (n :: t)).map (fun L => D ++ L)) (hk : t.length < takesP n) : netsR l = none := by
  rw [h, netsR_cons, if_pos hk]; rfl
theorem Tryz.sizeByte : (Tryz.prog.info? 5).map (·.size) = some 1 := by kernel_rfl
theorem OwnN.push1 {w : World} {base g cap : Nat} {l : List (Int × Int)} {X : Int × Int} (h : w.ownsRow base 25 2 (.slice (some ⟨g, 0, none⟩) (l.length + 1) cap) (l.length + 1) (netCells l ++ [.int .i64 X.1, .int .i64 X.2])) : OwnN w base (.slice (some ⟨g, 0, none⟩) (l.length + 1) cap) (l ++ [X]) := by
  unfold OwnN
  rw [netCells_snoc, List.length_append]; exact h

/-- attributes in memory: flags, number, the value's slice -/
def attCells (l : List (Int × Int × Value)) : List Value := l.flatMap fun a => [.int .i64 a.1, .int .i64 a.2.1, a.2.2]
theorem attCells_snoc (l : List (Int × Int × Value)) (a : Int × Int × Value) : attCells (l ++ [a]) = attCells l ++ [.int .i64 a.1, .int .i64 a.2.1, a.2.2] := by simp [attCells]
/-- they are these attributes -/
def AttsAt (w : World) : List (Int × Int × Value) → List (Int × Int × List Int) → Prop
  | [], [] => True
  | a :: l, p :: m => (a.1 = p.1 ∧ a.2.1 = p.2.1 ∧ BytesAt w a.2.2 p.2.2) ∧ AttsAt w l m
  | _, _ => False
theorem AttsAt.snoc {w : World} : ∀ {l : List (Int × Int × Value)} {m : List (Int × Int × List Int)}, AttsAt w l m → ∀ {x y : Int} {v : Value} {b : List Int}, BytesAt w v b → AttsAt w (l ++ [(x, y, v)]) (m ++ [(x, y, b)]) := by
  intro l
  induction l with
  | nil =>
    intro m h x y v b hv
    cases m with
    | nil => exact ⟨⟨rfl, rfl, hv⟩, trivial⟩
    | cons _ _ => cases h
  | cons a l ih =>
    intro m h x y v b hv
    cases m with
    | nil => cases h
    | cons p m => exact ⟨h.1, ih h.2 hv⟩
theorem AttsAt.len {w : World} : ∀ {l : List (Int × Int × Value)} {m : List (Int × Int × List Int)}, AttsAt w l m → l.length = m.length := by
  intro l
  induction l with
  | nil => intro m h; cases m with | nil => rfl | cons _ _ => cases h
  | cons a l ih => intro m h; cases m with | nil => cases h | cons p m => simp [ih h.2]
theorem attsR_short {x : List Int} (h0 : x ≠ []) (h : x.length < 3) : attsR x = none := by
  match x, h0, h with
  | [], h0, _ => exact absurd rfl h0
  | [_], _, _ => rfl
  | [_, _], _, _ => rfl
  | _ :: _ :: _ :: _, _, h => simp at h; omega
theorem wrapI {k : Nat} (h : k ≤ 1000) : IntKind.i64.wrap (3 + (k : Int)) = ((3 + k : Nat) : Int) := by
  rw [IntKind.wrap_i64]; omega
theorem three_of {R : List Int} (h : 3 ≤ R.length) : ∃ x y z t, R = x :: y :: z :: t := by
  match R, h with
  | x :: y :: z :: t, _ => exact ⟨x, y, z, t, rfl⟩
  | [], h => simp at h
  | [_], h => simp at h
  | [_, _], h => simp at h

theorem decP_short {b : List Int} (h : partsP b = none) : decP b = .error 6 := by
  match b, h with
  | [], _ => rfl
  | [_], _ => rfl
  | x :: y :: t, h =>
    unfold partsP at h
    rw [if_neg (by simp)] at h
    simp only [List.take_succ_cons, List.take_zero, List.drop_succ_cons, List.drop_zero, valB_two] at h
    simp only [decP]
    split
    · rfl
    · rename_i c1
      rw [if_neg (by omega)] at h
      rw [List.drop_drop] at *
      split
      · rfl
      · rename_i c2
        exfalso
        rw [if_neg c2] at h
        cases h
theorem decP_parts {b g a n : List Int} (h : partsP b = some (g, a, n)) : decP b =
    match netsR g, attsR a, netsR n with
    | some gone, some l, some there =>
      match attsP ⟨msgZ, 0, false, false⟩ l with
      | .error e => .error e
      | .ok s =>
        if (there ≠ [] ∧ ¬ (s.two = true ∧ s.five = true)) ∨ (there = [] ∧ l ≠ []) then .error 9
        else if netsOk (gone ++ there) then .ok { s.u with gone := gone, nets := there } else .error 10
    | _, _, _ => .error 6 := by
  match b, h with
  | [], h => simp [partsP] at h
  | [_], h => simp [partsP] at h
  | x :: y :: t, h =>
    unfold partsP at h
    rw [if_neg (by simp)] at h
    simp only [List.take_succ_cons, List.take_zero, List.drop_succ_cons, List.drop_zero, valB_two] at h
    simp only [decP]
    split at h
    · cases h
    · rename_i c1
      split at h
      · cases h
      · rename_i c2
        rw [if_neg c1, if_neg c2]
        simp only [Option.some.injEq, Prod.mk.injEq] at h
        obtain ⟨rfl, rfl, rfl⟩ := h
        rfl
end Go.Proofs.YtgdeeodifnegiaaGreatDoor
