/- Marked: the steps one by one, and the route that is wanted, in memory. -/
import Derived.Test.YtlhhdklendeikaaGreatDoorMrkB
import Derived.Test.YtlhhdklendeikaaGreatDoorKeepD
import Derived.Test.YtlhhdklendeikaaGreatDoorKnB
import Derived.Test.YtlhhdklendeikaaGreatDoorKpB
namespace Go.Proofs.YtlhhdklendeikaaGreatDoor
open Go.RowKit

/-! ## plain -/
def opAt (x : Int) : Mk × Nat := if pickP x 3 = 0 then (.put, (pickP (x.tdiv 3) 12).toNat) else if pickP x 3 = 1 then (.drop, (pickP (x.tdiv 3) 12).toNat) else (.pre, (pickP (x.tdiv 3) 12).toNat + 1)
def opsTo (steps : List Int) (j : Nat) : Mks := (List.range j).map fun i => opAt (steps.getD i 0)
theorem opsTo_snoc (steps : List Int) (j : Nat) : opsTo steps (j + 1) = opsTo steps j ++ [opAt (steps.getD j 0)] := by unfold opsTo; rw [List.range_succ, List.map_append]; rfl
theorem opsTo_len (steps : List Int) (j : Nat) : (opsTo steps j).length = j := by simp [opsTo]
theorem opAt_ok (x : Int) : mkOk (opAt x) := by
  have h := pickP_bd (c := x.tdiv 3) (n := 12) (by omega)
  unfold opAt mkOk
  split
  · exact ⟨by dsimp only; omega, fun e => by cases e⟩
  · split
    · exact ⟨by dsimp only; omega, fun e => by cases e⟩
    · exact ⟨by dsimp only; omega, fun _ => by dsimp only; omega⟩
theorem opsTo_ok (steps : List Int) (j : Nat) : ∀ p ∈ opsTo steps j, mkOk p := fun p hp => by
  obtain ⟨i, _, rfl⟩ := List.mem_map.1 hp
  exact opAt_ok _
def mkS (l : Mks) : ByteArray := bsA (itBytes (mkIts l))
theorem mkS_snoc (l : Mks) (s : Mk) (n : Nat) : ((mkS l ++ bsA ((wd s.wo).data.toList ++ [32])) ++ bsA (Lib.decDigits n)) ++ bsA [59, 32] = mkS (l ++ [(s, n)]) := by
  unfold mkS
  rw [bsA_append, bsA_append, bsA_append]
  congr 1
  have e : mkIts (l ++ [(s, n)]) = mkIts l ++ [.wo s.wo, .sp, .nm n, .sg 59, .sp] := by simp [mkIts]
  rw [e, itBytes_append, itBytes_cons, itBytes_cons, itBytes_cons, itBytes_cons, itBytes_cons]
  simp [It.bytes, itBytes]
theorem mkS_all (l : Mks) : mkS l ++ bsA [97, 99, 99, 101, 112, 116, 59] = bsA (itBytes (mkAll l)) := by
  unfold mkS
  rw [bsA_append, mkAll, itBytes_append]
  congr 2
theorem mkS_len (l : Mks) (h : ∀ p ∈ l, mkOk p) : (mkS l).size ≤ 20 * l.length := by
  unfold mkS
  rw [bsA_size]; exact mk_len l h
def routeR (l : List Int) : Rt := ⟨(netP (atP l 0)).1, (netP (atP l 0)).2, pathP (l.drop 3) (pickP (atP l 1) 6).toNat, marksP (l.drop 6) (pickP (atP l 2) 5).toNat, pickP (atP l 3) 4, pickP (atP l 4) 5⟩
theorem routeR_ok (l : List Int) : rtOk (routeR l) = true := by
  have h1 := pickP_bd (c := atP l 1) (n := 6) (by omega)
  have h2 := pickP_bd (c := atP l 2) (n := 5) (by omega)
  have h3 := pickP_bd (c := atP l 3) (n := 4) (by omega)
  have h4 := pickP_bd (c := atP l 4) (n := 5) (by omega)
  exact decide_eq_true ⟨netP_ok (atP l 0), pathP_ok (l.drop 3) (by omega), marksP_ok (l.drop 6) (by omega), ⟨by show 0 ≤ pickP _ _; omega, by show pickP _ _ ≤ _; omega⟩, ⟨by show 0 ≤ pickP _ _; omega, by show pickP _ _ ≤ _; omega⟩⟩
theorem rtOk_parts {r : Rt} (h : rtOk r = true) : routeOk (r.addr, r.len) r.path r.marks r.pref r.med := of_decide_eq_true h
theorem rtOk_in {r : Rt} (h : rtOk r = true) : inI r.addr ∧ inI r.len ∧ (∀ x ∈ r.path, inI x) ∧ (∀ x ∈ r.marks, inI x) ∧ r.path.length ≤ 12 ∧ r.marks.length ≤ 8 := by
  obtain ⟨⟨h1, h2, _⟩, ⟨h3, h4⟩, ⟨h5, h6⟩, _⟩ := rtOk_parts h
  dsimp only at h1 h2
  refine ⟨⟨by omega, by omega⟩, ⟨by omega, by omega⟩, fun x hx => ?_, fun x hx => ?_, h3, h5⟩
  · have := h4 x hx; unfold inI; omega
  · have := rises_all h6 x hx; unfold inI; omega
theorem routeR_good (l : List Int) : mkGood (routeR l) := by
  have h := rtOk_in (routeR_ok l)
  exact ⟨rtOk_sorted (routeR_ok l), h.2.2.2.2.2, h.2.2.2.2.1⟩
theorem withF_mem (n : Int) : ∀ (l : List Int) (d : Bool) (x : Int), x ∈ withF n d l → x = n ∨ x ∈ l
  | [], d, x, h => by
    cases d with
    | true => simp [withF] at h
    | false => left; simpa [withF] using h
  | y :: t, d, x, h => by
    rw [withF, List.mem_append, List.mem_append] at h
    rcases h with h | h | h
    · split at h
      · left; simpa using h
      · cases h
    · split at h
      · right; rw [List.mem_singleton.1 h]; exact List.mem_cons_self
      · cases h
    · rcases withF_mem n t _ x h with e | e
      · exact Or.inl e
      · exact Or.inr (List.mem_cons_of_mem _ e)
/-- bounds that every step keeps -/
def mkBd (r : Rt) : Prop := r.marks.length ≤ 8 ∧ r.path.length ≤ 12
theorem mkStep_bd {a : Rt × Bool} (h : mkBd a.1) (p : Mk × Nat) : mkBd (mkStep a p).1 := by
  obtain ⟨r, f⟩ := a
  obtain ⟨s, n⟩ := p
  obtain ⟨h1, h2⟩ := h
  dsimp only at h1 h2
  cases s with
  | put =>
    simp only [mkStep]
    split
    · exact ⟨h1, h2⟩
    · rename_i h3
      simp at h3
      exact ⟨by dsimp only; omega, h2⟩
  | drop => exact ⟨Nat.le_trans (List.length_filter_le _ _) h1, h2⟩
  | pre =>
    simp only [mkStep]
    split
    · exact ⟨h1, h2⟩
    · rename_i h3
      simp at h3
      exact ⟨h1, by simp; omega⟩
theorem mkV_bd {r : Rt} (h : mkBd r) (l : Mks) : mkBd (mkV r l).1 := by
  have : ∀ (l : Mks) (a : Rt × Bool), mkBd a.1 → mkBd (l.foldl mkStep a).1 := by
    intro l
    induction l with
    | nil => intro a h; exact h
    | cons p l ih => intro a h; exact ih _ (mkStep_bd h p)
  exact this l (r, false) h
/-! ## in memory -/
theorem ints_block {w w' : World} {v : Value} {l : List Int} (h : IntsAt w v l) (hs : w.heap.size ≤ w'.heap.size) (hk : ∀ k, v.ownBlock = some k → w'.heap[k]? = w.heap[k]?) : IntsAt w' v l := by
  obtain ⟨p, c, rfl, hcap, hl, hin, hr⟩ := h
  refine ⟨p, c, rfl, hcap, hl, hin, ?_⟩
  rcases hr with h | ⟨b, o, rfl, hb, hc⟩
  · exact Or.inl h
  · exact Or.inr ⟨b, o, rfl, by omega, fun j hj => (World.cell?_of_block (w := w) (a := ⟨b, o + j, none⟩) (hk b rfl)).trans (hc j hj)⟩
theorem owns_int_base {w : World} {base g cap : Nat} {cur : Array Value} {l : List Int} (hb : base ≤ g) (h : w.heap[g]? = some (.cells cur 3 (0, 0))) (hn : l.length ≤ cap) (hc : cap ≤ maxLen) (hs : cur.size = cap) (hx : ∀ (j : Nat) (x : Int), l[j]? = some x → cur[j]? = some (Value.int .i64 x)) :
    w.ownsRow base 3 1 (.slice (some ⟨g, 0, none⟩) l.length cap) l.length (intCells l) := by
  obtain ⟨h1, h2⟩ := owns_int_of h hn hc hs hx
  refine ⟨h1, ?_⟩
  rcases h2 with h2 | ⟨g', cap', cur', h3, _, h4⟩
  · cases h2.1
  · refine Or.inr ⟨g', cap', cur', h3, ?_, h4⟩
    injection h3 with h5
    injection h5 with h6
    injection h6 with h7
    omega
/-- the route that is wanted, at B, and all that lay below B -/
structure MI (w0 : World) (r : Rt) (pv mv : Value) (W : World) : Prop where
  blk : W.heap[w0.heap.size]? = some (rtBlk r pv mv)
  path : IntsAt W pv r.path
  marks : IntsAt W mv r.marks
  np : pv.ownBlock ≠ some w0.heap.size
  nm : mv.ownBlock ≠ some w0.heap.size
  bel : Below w0.heap.size w0 W
theorem MI.below {w0 : World} {r : Rt} {pv mv : Value} {W W' : World} (h : MI w0 r pv mv W) (hb : Below W.heap.size W W') : MI w0 r pv mv W' :=
  ⟨(hb.block _ (heap_lt h.blk)).trans h.blk, h.path.below hb, h.marks.below hb, h.np, h.nm, h.bel.trans (hb.mono h.bel.size)⟩
theorem MI.setMarks {w0 : World} {r : Rt} {pv mv v : Value} {W W' : World} {L : List Int} {base : Nat} (h : MI w0 r pv mv W) (hb : Below W.heap.size W W') (hn : W.heap.size ≤ base) (ho : W'.ownsRow base 3 1 v L.length (L.map (Value.int .i64))) (hin : ∀ x ∈ L, inI x) (hl : L.length ≤ 1000) :
    MI w0 { r with marks := L } pv v (W'.setCell ⟨w0.heap.size, 3, none⟩ v) := by
  have h' := h.below hb
  have hB := heap_lt h.blk
  have hne : v.ownBlock ≠ some w0.heap.size := fun e => by have := (ho.lt _ e).1; omega
  have hss : (W'.setCell ⟨w0.heap.size, 3, none⟩ v).heap.size = W'.heap.size := by simp [World.setCell]
  refine ⟨by rw [heap_set h'.blk]; rfl, ints_block h'.path (by omega) (fun k e => heap_set_other (fun e2 => h.np (by rw [e]; exact congrArg some e2))), ?_, h.np, hne, h'.bel.setCell (p := ⟨w0.heap.size, 3, none⟩) (Nat.le_refl _) _⟩
  exact ints_block (IntsAt.own (l := L) ho hin (by omega)) (by omega) (fun k e => heap_set_other (fun e2 => hne (by rw [e]; exact congrArg some e2)))
theorem MI.setPath {w0 : World} {r : Rt} {pv mv v : Value} {W W' : World} {L : List Int} {base : Nat} (h : MI w0 r pv mv W) (hb : Below W.heap.size W W') (hn : W.heap.size ≤ base) (ho : W'.ownsRow base 3 1 v L.length (L.map (Value.int .i64))) (hin : ∀ x ∈ L, inI x) (hl : L.length ≤ 1000) :
    MI w0 { r with path := L } v mv (W'.setCell ⟨w0.heap.size, 2, none⟩ v) := by
  have h' := h.below hb
  have hB := heap_lt h.blk
  have hne : v.ownBlock ≠ some w0.heap.size := fun e => by have := (ho.lt _ e).1; omega
  have hss : (W'.setCell ⟨w0.heap.size, 2, none⟩ v).heap.size = W'.heap.size := by simp [World.setCell]
  refine ⟨by rw [heap_set h'.blk]; rfl, ?_, ints_block h'.marks (by omega) (fun k e => heap_set_other (fun e2 => h.nm (by rw [e]; exact congrArg some e2))), hne, h.nm, h'.bel.setCell (p := ⟨w0.heap.size, 2, none⟩) (Nat.le_refl _) _⟩
  exact ints_block (IntsAt.own (l := L) ho hin (by omega)) (by omega) (fun k e => heap_set_other (fun e2 => hne (by rw [e]; exact congrArg some e2)))
/-- the run of the policy -/
theorem mk_call_fail {w2 W : World} {A : Nat → Prop} {pp : Nat} {l : Mks} {r : Rt} {pv mv : Value} (hl : Lasts w2 A (PolC pp (mkMs l))) (hW : Below w2.heap.size w2 W) (hp : IntsAt W pv r.path) (hm : IntsAt W mv r.marks) (hok : rtOk r = true) (hf : (mkV r l).2 = true) :
    Calls Tryz.prog 14 #[ptr4 pp 0, rtV r pv mv] W fun e w' => ∃ pv' mv', e = .returned (.tuple #[rtV rt0 pv' mv', .int .i64 3, .int .i64 0]) ∧ RtVal w' W.heap.size rt0 pv' mv' ∧ Below W.heap.size W w' := by
  obtain ⟨i1, i2, _, _, n1, n2⟩ := rtOk_in hok
  have h := run_ok hl W hW r pv mv hp hm i1 i2 n1 n2 hok
  rw [mk_runM l r ⟨rtOk_sorted hok, n2, n1⟩, if_pos hf] at h
  exact h
theorem mk_call_ok {w2 W : World} {A : Nat → Prop} {pp : Nat} {l : Mks} {r r1 : Rt} {pv mv : Value} (hl : Lasts w2 A (PolC pp (mkMs l))) (hW : Below w2.heap.size w2 W) (hp : IntsAt W pv r.path) (hm : IntsAt W mv r.marks) (hok : rtOk r = true) (hf : mkV r l = (r1, false)) :
    Calls Tryz.prog 14 #[ptr4 pp 0, rtV r pv mv] W fun e w' => ∃ pv' mv', e = .returned (.tuple #[rtV r1 pv' mv', .int .i64 1, .int .i64 0]) ∧ RtVal w' W.heap.size r1 pv' mv' ∧ Below W.heap.size W w' := by
  obtain ⟨i1, i2, _, _, n1, n2⟩ := rtOk_in hok
  have h := run_ok hl W hW r pv mv hp hm i1 i2 n1 n2 hok
  rw [mk_runM l r ⟨rtOk_sorted hok, n2, n1⟩, hf, if_neg (by simp)] at h
  exact h
theorem same_self {r : Rt} {ap am bp bm : Value} {W : World} (h1 : IntsAt W ap r.path) (h2 : IntsAt W am r.marks) (h3 : IntsAt W bp r.path) (h4 : IntsAt W bm r.marks) :
    Calls Tryz.prog 15 #[rtV r ap am, rtV r bp bm] W fun e w' => e = .returned (.bool true) ∧ Below W.heap.size W w' := by
  have h := sameRoute_any r r ap am bp bm W h1 h2 h3 h4
  rw [show sameRt r r = true by simp [sameRt]] at h
  exact h
theorem route_said (l : List Int) (x : Value) (w : World) (h : IntsAt w x l) :
    Calls Tryz.prog 13 #[x] w fun e w' => ∃ vp vm, e = .returned (rtV (routeR l) vp vm) ∧ w'.ownsRow w.heap.size 3 1 vp (routeR l).path.length (intCells (routeR l).path) ∧ w'.ownsRow w.heap.size 3 1 vm (routeR l).marks.length (intCells (routeR l).marks) ∧ Below w.heap.size w w' := route_any l x w h
theorem rtVal_ints {w : World} {n : Nat} {r : Rt} {pv mv : Value} (h : RtVal w n r pv mv) (h1 : ∀ x ∈ r.path, inI x) (h2 : ∀ x ∈ r.marks, inI x) (n1 : r.path.length ≤ 1000) (n2 : r.marks.length ≤ 1000) : IntsAt w pv r.path ∧ IntsAt w mv r.marks :=
  ⟨IntsAt.own h.1 h1 (by omega), IntsAt.own h.2.1 h2 (by omega)⟩
end Go.Proofs.YtlhhdklendeikaaGreatDoor
