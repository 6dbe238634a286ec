/- The reference's either, out of row's contract. -/
import Derived.Test.YtgdeeodifnegiaaGreatDoorRefK
set_option maxRecDepth 100000
set_option maxHeartbeats 3200000
namespace Go.Proofs.YtgdeeodifnegiaaGreatDoor.rf
open Go.RowKit
theorem Tryz.infoTree : (Tryz.prog.info? 115).map (fun i => (i.zero, i.size, i.bytes)) = some (some (.agg treeZ), 5, 72) := by kernel_rfl
theorem TrOpen.step {O O' Q Q' : Nat → Prop} {w w' : World} {kids : List Tr} {kv : Value} {xs : List Value} (h : TrOpen w Q kids kv xs) (hf : Fr O w O' w') (h1 : ∀ k, O k → Q k) (h2 : ∀ k, Q' k → Q k ∨ w.heap.size ≤ k) : TrOpen w' Q' kids kv xs := by
 obtain ⟨a, b, c⟩ := h
 refine ⟨owns_of a (fun k hk => hf.block k (a.lt k hk).2 (fun hO => b k hk (h1 k hO))), fun k hk hQ => ?_, AllTr.step hf (fun k hk => Or.inl (h1 k hk)) (fun k hk => ?_) _ _ c⟩
 ·rcases h2 k hQ with h | h
  ·exact b k hk h
  ·have := (a.lt k hk).2; omega
 ·rcases hk with h | h
  ·rcases h2 k h with h3 | h3
   ·exact Or.inl (Or.inl h3)
   ·exact Or.inr h3
  ·exact Or.inl (Or.inr h)
theorem eitherLp_pos {s : ByteArray} {k : Nat} {st : PS} {kids : List Tr} {r : PS × Tr} (h : eitherLp s k st kids = some r) : ∃ g, k = g + 1 := by
 cases k with
 | zero => rw [eitherLp] at h; cases h
 | succ g => exact ⟨g, rfl⟩
theorem eitherLp_more {s : ByteArray} {g : Nat} {st : PS} {kids : List Tr} {r : PS × Tr} (h : eitherLp s (g + 1) st kids = some r) :
  ∃ s1 x, rowTw s g st = some (s1, x) ∧ ((isP s1 wBar = true ∧ eitherLp s g (takeP s s1) (kids ++ [x]) = some r) ∨ (isP s1 wBar = false ∧ r = (s1, .mk wEither ⟨#[]⟩ 0 0 (kids ++ [x])))) := by
 rw [eitherLp] at h
 cases ht : rowTw s g st with
 | none => rw [ht] at h; cases h
 | some p =>
  rw [ht] at h
  refine ⟨p.1, p.2, rfl, ?_⟩
  by_cases hb : isP p.1 wBar = true
  ·left; simp only [hb, if_true] at h; exact ⟨hb, h⟩
  ·right
   have hb' : isP p.1 wBar = false := by simpa using hb
   simp only [hb', Bool.false_eq_true, if_false] at h
   exact ⟨hb', (Option.some.inj h).symm⟩
theorem either_any (pb : Nat) (s : ByteArray) (f : Nat) (hf0 : f ≤ 1000000) (IH : ∀ g, g ≤ f → RowC pb s g) : EitherC pb s (f + 1) := by
 intro w st O r h hk hr
 rw [eitherTw] at hr
 obtain ⟨i0, hi0, hz0, hz1, hz2⟩ := info_parts Tryz.infoTree
 have lp : pb < w.heap.size := h.lt h.own
 have N0 := hide (show ¬ O w.heap.size from fun hk => by have := h.lt hk; omega)
 have N1 := hide (show ¬ O (w.heap.size + 1) from fun hk => by have := h.lt hk; omega)
 have HP0 := hide ((h.alloc (.cells treeZ 115)).alloc (.cells (treeCells wEither ⟨#[]⟩ 0 0 (.slice none 0 0)) 115))
 have HF0 := hide (((Fr.refl O w).alloc (.cells treeZ 115)).alloc (.cells (treeCells wEither ⟨#[]⟩ 0 0 (.slice none 0 0)) 115))
 have K := hide hk
 have HL := hide hr
 have HIH := hide IH
 clear h hk hr IH
 go_enter Tryz.func121, Tryz.ntmps121
 go_wp2_with fail
 go_loopg [4] f (fun k b4 wr => ∃ (su : PS) (kids : List Tr) (kv : Value) (xs : List Value) (O1 : Nat → Prop), kids.length + k ≤ f ∧ PA wr pb s su O1 ∧ Ok s su ∧ Fr O w O1 wr ∧ wr.heap[w.heap.size]? = some (.cells treeZ 115 (0, 0)) ∧ wr.heap[w.heap.size + 1]? = some (.cells (treeCells wEither ⟨#[]⟩ 0 0 kv) 115 (0, 0)) ∧ ¬ O1 w.heap.size ∧ ¬ O1 (w.heap.size + 1) ∧ TrOpen wr (fun k => O1 k ∨ k ≤ w.heap.size ∨ k = w.heap.size + 1) kids kv xs ∧ ((b4 = .bool true ∧ eitherLp s k su kids = some r) ∨ (b4 = .bool false ∧ r = (su, .mk wEither ⟨#[]⟩ 0 0 kids))))
 case atStart => exact ⟨st, [], _, [], O, by simp, unhide HP0, unhide K, unhide HF0, (two_alloc w _ _ _ _).1, (two_alloc w _ _ _ _).2, unhide N0, unhide N1, TrOpen.nil _ _, Or.inl ⟨rfl, unhide HL⟩⟩
 case round =>
  clear HP0 HF0 K HL N0 N1
  obtain ⟨su, kids, kv, xs, O1, hkl, hp, hk, hf, q0, q1, n0, n1, htu, hst⟩ := hrel
  rcases hst with ⟨rfl, hl⟩ | ⟨rfl, hre⟩
  ·obtain ⟨g, rfl⟩ := eitherLp_pos hl
   obtain ⟨s1, x, hrow, hnx⟩ := eitherLp_more hl
   have HP := hide hp
   have HK := hide hk
   have HF := hide hf
   have Q0 := hide q0
   have Q1 := hide q1
   have NA := hide n0
   have NB := hide n1
   have TU := hide htu
   have HROW := hide hrow
   have HNX := hide hnx
   have hzB' : w.heap.size + 1 < wr.heap.size := heap_lt q1
   clear hp hk hf q0 q1 n0 n1 htu hl hrow hnx
   go_wp2_with fail
   refine (unhide HIH g (by omega) _ _ _ _ (unhide HP) (unhide HK) (unhide HROW)).mono ?_
   rintro e w2 ⟨v, O2, rfl, hp2, hf2, ht2, hk2⟩
   obtain ⟨xop, xtext, xn, xa, xo, xc, xl, rfl⟩ := ht2.form
   have qB := (hf2.block (w.heap.size + 1) hzB' (unhide NB)).trans (unhide Q1)
   have s4 : w2.cell? ⟨w.heap.size + 1, 4, none⟩ = some kv := cell_of_heap qB
   have hzB : w.heap.size + 1 < w2.heap.size := heap_lt qB
   have OW := hide (show w2.ownsRow 0 115 5 kv kids.length xs from owns_of (unhide TU).1 (fun k hk => hf2.block k ((unhide TU).1.lt k hk).2 (fun h => (unhide TU).2.1 k hk (Or.inl h))))
   have H2 := hide hp2
   have F2 := hide hf2
   have T2 := hide ht2
   have K2 := hide hk2
   have QB := hide qB
   have NKB := hide (show some (w.heap.size + 1) ≠ kv.ownBlock from fun e => (unhide TU).2.1 _ e.symm (Or.inr (Or.inr rfl)))
   clear hp2 hf2 ht2 hk2 qB
   go_wp2_with (at_builtin; refine wpList_append_lies _ rfl _ _ _ rfl 0 115 i0 _ 5 72 Tryz.underlying113 hi0 hz0 hz1 hz2 rfl (by omega) kv kids.length xs rfl (((unhide OW).alloc _).alloc _) ⟨w2.heap.size + 1, 0, none⟩ 1 1 [.string xop, .string xtext, .int .i64 xn, .int .i64 xa, .slice xo xc xl] rfl rfl (World.news_of_block (cs := #[.string xop, .string xtext, .int .i64 xn, .int .i64 xa, .slice xo xc xl]) (t := 115) (fr := (0, 0)) (two_alloc w2 _ _ _ _).2) (by simp [Value.oneCell']) (by omega) (by simp [maxLen]; omega) (by omega) (by omega) (w2.heap.size + 2) (by simp) ?_; intro gg cap w' hown hgrow hat hlt; have qB' : w'.heap[w.heap.size + 1]? = some (.cells (treeCells wEither ⟨#[]⟩ 0 0 kv) 115 (0, 0)) := ((hgrow.block (w.heap.size + 1) (by simp; omega) (unhide NKB)).trans ((Below.heap_alloc _ _ _ (by simp; omega)).trans ((Below.heap_alloc _ _ _ (by omega)).trans (unhide QB)))); have c4 : w'.cell? ⟨w.heap.size + 1, 4, none⟩ = some kv := (cell_of_heap qB'); have z4 : w'.frozen? ⟨w.heap.size + 1, 4, none⟩ = false := (frozen_of_heap qB'); clear qB')
   have FIN := hide (kid_round (unhide HF) (unhide F2) (unhide H2) (unhide Q0) (unhide Q1) (unhide NA) (unhide NB) (by omega) (unhide TU) (unhide T2) hgrow hown hat)
   generalize hW : w'.setCell ⟨w.heap.size + 1, 4, none⟩ (.slice (some ⟨gg, 0, none⟩) (kids.length + 1) cap) = W at *
   clear hW hown hgrow hat hlt c4 z4 s4
   obtain ⟨f1, f2, f3, f4, f5, f6, f7⟩ := unhide FIN
   have G1 := hide f1
   clear FIN f1
   have G2 := hide f2
   have G3 := hide f3
   have G4 := hide f4
   have G5 := hide f5
   have G6 := hide f6
   have G7 := hide f7
   clear f2 f3 f4 f5 f6 f7
   refine ((unhide G1).is _).mono ?_
   rintro e w0 ⟨rfl, rfl⟩
   rcases unhide HNX with ⟨hb, hl2⟩ | ⟨hb, hre⟩
   ·have HL2 := hide hl2
    clear hl2
    rw [show isP s1 { data := #[124] } = true from hb]
    go_wp2_with fail
    refine (take_any (unhide G1) (unhide K2)).mono ?_
    rintro e w5 ⟨rfl, O5, hp5, hf5⟩
    have H5 := hide hp5
    have F5 := hide hf5
    clear hp5 hf5
    go_wp2_with fail
    go_roundg g
    case measure => omega
    case rel =>
     have hf5 := unhide F5
     have lR := heap_lt (unhide G3)
     have lB := heap_lt (unhide G4)
     refine ⟨takeP s s1, kids ++ [x], _, _, O5, by simp; omega, unhide H5, (unhide K2).take, (unhide G2).trans hf5, (hf5.block _ lR (unhide G5)).trans (unhide G3), (hf5.block _ lB (unhide G6)).trans (unhide G4), fun h => ?_, fun h => ?_, (unhide G7).step hf5 (fun k hk => Or.inl hk) (fun k hk => ?_), Or.inl ⟨rfl, unhide HL2⟩⟩
     ·rcases hf5.own _ h with h | h
      ·exact unhide G5 h
      ·omega
     ·rcases hf5.own _ h with h | h
      ·exact unhide G6 h
      ·omega
     ·rcases hk with h | h | h
      ·rcases hf5.own _ h with h1 | h1
       ·exact Or.inl (Or.inl h1)
       ·exact Or.inr h1
      ·exact Or.inl (Or.inr (Or.inl h))
      ·exact Or.inl (Or.inr (Or.inr h))
   ·have HRE := hide hre
    clear hre
    rw [show isP s1 { data := #[124] } = false from hb]
    go_wp2_with fail
    go_roundg g
    case measure => omega
    case rel => exact ⟨s1, kids ++ [x], _, _, O2, by simp; omega, unhide G1, unhide K2, unhide G2, unhide G3, unhide G4, unhide G5, unhide G6, unhide G7, Or.inr ⟨rfl, unhide HRE⟩⟩
  ·subst hre
   obtain ⟨r0, r1, r2, r3, r4⟩ := cells5 q0
   have zr : ∀ ob, wr.frozen? ⟨w.heap.size, ob, none⟩ = false := fun ob => frozen_of_heap q0
   obtain ⟨s0, s1, s2', s3, s4⟩ := cells5 q1
   obtain ⟨oo, cc, hkv⟩ := htu.form
   have TU := hide (htu.at wEither ⟨#[]⟩ 0 0)
   clear htu
   subst hkv
   have HP := hide hp
   have HK := hide hk
   have HF := hide hf
   have HN := hide n0
   clear hp hk hf q0 q1 n0 n1
   go_wp2_with fail
   refine bodyPost_ret (v := treeV wEither ⟨#[]⟩ 0 0 (.slice oo kids.length cc)) (by simp [results, Tryz.results121, go_sem, r0, r1, r2, r3, r4]) rfl ⟨_, O1, rfl, ?_, ?_, ?_, unhide HK⟩
   ·repeat with_reducible first | refine PA.other ?_ (unhide HN) _ _ | refine PA.alloc ?_ _ | refine PA.drew ?_ | refine PA.drewN ?_ _ | exact unhide HP
   ·repeat with_reducible first | refine Fr.setCell ?_ (Or.inr (Nat.le_refl _)) _ | refine Fr.setCell ?_ (Or.inl (unhide HO)) _ | refine Fr.alloc ?_ _ | refine Fr.drew ?_ | refine Fr.drewN ?_ _ | exact unhide HF | exact Fr.refl _ _
   ·have f0 : Fr (fun k => O1 k ∨ k = w.heap.size) wr (fun k => O1 k ∨ k = w.heap.size) wr := (Fr.refl O1 wr).join (fun k => k = w.heap.size)
    refine TrAt.step (O := fun k => O1 k ∨ k = w.heap.size) (O' := fun k => O1 k ∨ k = w.heap.size) (w := wr) ?_ ?_ ?_ _ _ (unhide TU)
    ·repeat with_reducible first | refine Fr.setCell ?_ (Or.inl (Or.inr rfl)) _ | exact f0
    ·intro k hk
     rcases hk with h | h
     ·exact Or.inl h
     ·exact Or.inr (Or.inl (by omega))
    ·intro k hk
     rcases hk with h | h
     ·exact Or.inl (Or.inl h)
     ·exact Or.inl (Or.inr (Or.inl (by omega)))
end Go.Proofs.YtgdeeodifnegiaaGreatDoor.rf
namespace Go.Proofs.YtgdeeodifnegiaaGreatDoor.rf
open Go.RowKit
theorem kid_round1 {w wr w2 w' : World} {pb B g cap : Nat} {s : ByteArray} {s2 : PS} {O O1 O2 : Nat → Prop} {kids : List Tr} {x : Tr} {xs : List Value} {op text xop xtext : ByteArray} {n a xn xa : Int} {kv xk : Value} {obS : Obj}
  (HF : Fr O w O1 wr) (F2 : Fr O1 wr O2 w2) (H2 : PA w2 pb s s2 O2) (Q0 : wr.heap[w.heap.size]? = some (.cells treeZ 115 (0, 0))) (Q1 : wr.heap[B]? = some (.cells (treeCells op text n a kv) 115 (0, 0)))
  (NA : ¬ O1 w.heap.size) (NB : ¬ O1 B) (hB : w.heap.size < B) (TU : TrOpen wr (fun k => O1 k ∨ k ≤ w.heap.size ∨ k = B) kids kv xs) (T3 : TrAt w2 (fun k => O2 k ∨ k < wr.heap.size) x (treeV xop xtext xn xa xk))
  (hgrow : (w2.alloc obS).grownBy w' kv.ownBlock) (hown : w'.ownsRow 0 115 5 (.slice (some ⟨g, 0, none⟩) (kids.length + 1) cap) (kids.length + 1) (xs ++ [.string xop, .string xtext, .int .i64 xn, .int .i64 xa, xk]))
  (hat : kv.ownBlock = some g ∨ g = w2.heap.size + 1) :
  PA (w'.setCell ⟨B, 4, none⟩ (.slice (some ⟨g, 0, none⟩) (kids.length + 1) cap)) pb s s2 O2 ∧ Fr O w O2 (w'.setCell ⟨B, 4, none⟩ (.slice (some ⟨g, 0, none⟩) (kids.length + 1) cap))
  ∧ (w'.setCell ⟨B, 4, none⟩ (.slice (some ⟨g, 0, none⟩) (kids.length + 1) cap)).heap[w.heap.size]? = some (.cells treeZ 115 (0, 0))
  ∧ (w'.setCell ⟨B, 4, none⟩ (.slice (some ⟨g, 0, none⟩) (kids.length + 1) cap)).heap[B]? = some (.cells (treeCells op text n a (.slice (some ⟨g, 0, none⟩) (kids.length + 1) cap)) 115 (0, 0))
  ∧ ¬ O2 w.heap.size ∧ ¬ O2 B
  ∧ TrOpen (w'.setCell ⟨B, 4, none⟩ (.slice (some ⟨g, 0, none⟩) (kids.length + 1) cap)) (fun k => O2 k ∨ k ≤ w.heap.size ∨ k = B) (kids ++ [x]) (.slice (some ⟨g, 0, none⟩) (kids.length + 1) cap) (xs ++ [.string xop, .string xtext, .int .i64 xn, .int .i64 xa, xk]) := by
 obtain ⟨t1, t2, t3⟩ := TU
 have lB : B < wr.heap.size := heap_lt Q1
 have lR : w.heap.size < wr.heap.size := heap_lt Q0
 have l2 : wr.heap.size ≤ w2.heap.size := F2.size
 have hkv : ∀ k, kv.ownBlock = some k → k < wr.heap.size ∧ ¬ O1 k ∧ w.heap.size < k ∧ k ≠ B := fun k hk => by
  have h1 := (t1.lt k hk).2
  have h2 := t2 k hk
  exact ⟨h1, fun h => h2 (Or.inl h), Nat.lt_of_not_le (fun h => h2 (Or.inr (Or.inl h))), fun h => h2 (Or.inr (Or.inr h))⟩
 have hold : ∀ k, k < w2.heap.size → some k ≠ kv.ownBlock → w'.heap[k]? = w2.heap[k]? := fun k hk hn => by
  rw [hgrow.block k (by simp; omega) hn, Below.heap_alloc _ _ _ hk]
 have na : ¬ O2 w.heap.size := fun h => by rcases F2.own _ h with h | h; exact NA h; omega
 have nb : ¬ O2 B := fun h => by rcases F2.own _ h with h | h; exact NB h; omega
 have nkv : ∀ k, kv.ownBlock = some k → ¬ O2 k := fun k hk h => by
  rcases F2.own _ h with h | h
  ·exact (hkv k hk).2.1 h
  ·have := (hkv k hk).1; omega
 have hgB : g ≠ B := by
  rcases hat with h | h
  ·exact (hkv g h).2.2.2
  ·omega
 have hgR : w.heap.size < g := by
  rcases hat with h | h
  ·exact (hkv g h).2.2.1
  ·omega
 have hgO : ¬ O2 g := by
  rcases hat with h | h
  ·exact nkv g h
  ·intro h3; have := H2.lt h3; omega
 have q0 : w'.heap[w.heap.size]? = some (.cells treeZ 115 (0, 0)) := by
  rw [hold _ (by omega) (fun e => by have := (hkv _ e.symm).2.2.1; omega), F2.block _ lR NA]; exact Q0
 have q1 : w'.heap[B]? = some (.cells (treeCells op text n a kv) 115 (0, 0)) := by
  rw [hold _ (by omega) (fun e => (hkv _ e.symm).2.2.2 rfl), F2.block _ lB NB]; exact Q1
 have hsz : w2.heap.size + 1 ≤ w'.heap.size := by have := hgrow.size; simp at this; omega
 refine ⟨?_, ?_, ?_, ?_, na, nb, ?_, ?_, ?_⟩
 ·refine PA.other (H2.frame (fun k hk => hold k (H2.lt hk) (fun e => nkv k e.symm hk))) nb _ _
 ·have f1 := HF.trans F2
  have f2 := (f1.alloc obS).grown hgrow (fun k hk => Or.inr (by have := (hkv k hk).2.2.1; omega))
  exact f2.setCell (Or.inr (by show w.heap.size ≤ B; omega)) _
 ·rw [heap_set_other (by show w.heap.size ≠ B; omega)]; exact q0
 ·rw [heap_set q1]; rfl
 ·rw [List.length_append]
  refine owns_of hown (fun k hk => heap_set_other (fun e => hgB ?_))
  simp [Value.ownBlock] at hk
  rw [hk]; exact e
 ·intro k hk
  obtain rfl : g = k := by simpa [Value.ownBlock] using hk
  rintro (h | h | h)
  ·exact hgO h
  ·omega
  ·exact hgB h
 ·have hset : ∀ k, k ≠ B → (w'.setCell ⟨B, 4, none⟩ (.slice (some ⟨g, 0, none⟩) (kids.length + 1) cap)).heap[k]? = w'.heap[k]? := fun k hk => heap_set_other hk
  refine AllTr.snoc kids xs x _ _ _ _ _ ?_ ?_
  ·refine AllTr.keep (w := wr) (Q := fun k => (O1 k ∨ k ≤ w.heap.size ∨ k = B) ∨ kv.ownBlock = some k) (fun k hk hn => ?_) (fun k hk hq => ?_) kids xs t3
   ·rw [hset k (fun e => hn (Or.inl (Or.inr (Or.inr e)))), hold k (by omega) (fun e => hn (Or.inr e.symm)), F2.block k hk (fun h => hn (Or.inl (Or.inl h)))]
   ·rcases hq with (h | h | h) | h
    ·rcases F2.own k h with h1 | h1
     ·exact Or.inl (Or.inl h1)
     ·omega
    ·exact Or.inl (Or.inr (Or.inl h))
    ·exact Or.inl (Or.inr (Or.inr h))
    ·obtain rfl : g = k := by simpa [Value.ownBlock] using h
     rcases hat with h | h
     ·exact Or.inr h
     ·omega
  ·refine TrAt.keep (w := w2) (Q := fun k => O2 k ∨ k < wr.heap.size) (fun k hk hn => ?_) (fun k hk hq => ?_) x _ T3
   ·have hk2 : wr.heap.size ≤ k := Nat.le_of_not_lt (fun h => hn (Or.inr h))
    rw [hset k (by omega), hold k hk (fun e => by have := (hkv _ e.symm).1; omega)]
   ·rcases hq with (h | h | h) | h
    ·exact Or.inl h
    ·exact Or.inr (by omega)
    ·exact Or.inr (by omega)
    ·obtain rfl : g = k := by simpa [Value.ownBlock] using h
     rcases hat with h | h
     ·exact Or.inr (hkv g h).1
     ·omega
theorem TrAt.lone {w : World} {Q : Nat → Prop} {S : Nat} {op : ByteArray} {t : Tr} {a0 a1 a2 a3 a4 : Value} (ht : TrAt w Q t (.agg #[a0, a1, a2, a3, a4]))
  (hS : w.heap[S]? = some (.cells #[a0, a1, a2, a3, a4] 115 (0, 0))) (hq : ¬ Q S) : TrAt w Q (.mk op ⟨#[]⟩ 0 0 [t]) (treeV op ⟨#[]⟩ 0 0 (.slice (some ⟨S, 0, none⟩) 1 1)) := by
 rw [TrAt]
 refine ⟨_, [a0, a1, a2, a3, a4], rfl, ⟨rfl, Or.inr ⟨S, 1, _, rfl, Nat.zero_le _, hS, Nat.le_refl 1, by decide, rfl, rfl⟩⟩, ?_, ?_⟩
 ·intro k hk
  obtain rfl : S = k := by simpa [Value.ownBlock] using hk
  exact hq
 ·rw [AllTr]
  exact ⟨_, _, _, _, _, _, rfl, ht, by rw [AllTr]⟩
def sufW (w : World) (B : Nat) (op' text' : ByteArray) (n' a' : Int) (k' : Value) (op : ByteArray) : World :=
 (((((w.setCell ⟨B, 0, none⟩ (.string op)).setCell ⟨B, 1, none⟩ (.string ⟨#[]⟩)).setCell ⟨B, 2, none⟩ (.int .i64 0)).setCell ⟨B, 3, none⟩ (.int .i64 0)).setCell ⟨B, 4, none⟩ (.slice (some ⟨w.heap.size, 0, none⟩) 1 1)).alloc
  (.cells (treeCells op' text' n' a' k') 115)
theorem suf_round {wr wx w3 : World} {pb B : Nat} {s : ByteArray} {s2 : PS} {O1 Ox O3 : Nat → Prop} {x : Tr} {op' text' op : ByteArray} {n' a' : Int} {k' : Value}
  (HF : Fr O1 wr Ox wx) (F : Fr Ox wx O3 w3) (H3 : PA w3 pb s s2 O3) (Q1 : wx.heap[B]? = some (.cells (treeCells op' text' n' a' k') 115 (0, 0)))
  (NB : ¬ Ox B) (hB : wr.heap.size ≤ B) (TU : TrAt wx (fun k => Ox k ∨ k < wr.heap.size ∨ k = B) x (treeV op' text' n' a' k')) :
  PA (sufW w3 B op' text' n' a' k' op) pb s s2 O3 ∧ Fr O1 wr O3 (sufW w3 B op' text' n' a' k' op)
  ∧ (sufW w3 B op' text' n' a' k' op).heap[B]? = some (.cells (treeCells op ⟨#[]⟩ 0 0 (.slice (some ⟨w3.heap.size, 0, none⟩) 1 1)) 115 (0, 0))
  ∧ ¬ O3 B
  ∧ TrAt (sufW w3 B op' text' n' a' k' op) (fun k => O3 k ∨ k < wr.heap.size ∨ k = B) (.mk op ⟨#[]⟩ 0 0 [x]) (treeV op ⟨#[]⟩ 0 0 (.slice (some ⟨w3.heap.size, 0, none⟩) 1 1)) := by
 have lB : B < wx.heap.size := heap_lt Q1
 have l3 : wx.heap.size ≤ w3.heap.size := F.size
 have q1 := (F.block _ lB NB).trans Q1
 have nb : ¬ O3 B := fun h => by rcases F.own _ h with h | h; exact NB h; omega
 obtain ⟨W, hW⟩ : ∃ W, ((((w3.setCell ⟨B, 0, none⟩ (.string op)).setCell ⟨B, 1, none⟩ (.string ⟨#[]⟩)).setCell ⟨B, 2, none⟩ (.int .i64 0)).setCell ⟨B, 3, none⟩ (.int .i64 0)).setCell ⟨B, 4, none⟩ (.slice (some ⟨w3.heap.size, 0, none⟩) 1 1) = W := ⟨_, rfl⟩
 have pW : PA W pb s s2 O3 := by rw [← hW]; exact ((((H3.other nb _ _).other nb _ _).other nb _ _).other nb _ _).other nb _ _
 have sW : W.heap.size = w3.heap.size := by rw [← hW]; simp [World.setCell]
 have bW : W.heap[B]? = some (.cells (treeCells op ⟨#[]⟩ 0 0 (.slice (some ⟨w3.heap.size, 0, none⟩) 1 1)) 115 (0, 0)) := by
  rw [← hW, heap_set (heap_set (heap_set (heap_set (heap_set q1))))]; rfl
 have fW : Fr (fun k => O3 k ∨ k = B) w3 (fun k => O3 k ∨ k = B) W := by
  rw [← hW]
  have f0 : Fr (fun k => O3 k ∨ k = B) w3 (fun k => O3 k ∨ k = B) w3 := (Fr.refl O3 w3).join (fun k => k = B)
  exact ((((f0.setCell (Or.inl (Or.inr rfl)) _).setCell (Or.inl (Or.inr rfl)) _).setCell (Or.inl (Or.inr rfl)) _).setCell (Or.inl (Or.inr rfl)) _).setCell (Or.inl (Or.inr rfl)) _
 have gW : Fr O1 wr O3 W := by
  rw [← hW]
  exact (((((HF.trans F).setCell (Or.inr hB) _).setCell (Or.inr hB) _).setCell (Or.inr hB) _).setCell (Or.inr hB) _).setCell (Or.inr hB) _
 have e : sufW w3 B op' text' n' a' k' op = W.alloc (.cells (treeCells op' text' n' a' k') 115) := by
  unfold sufW; rw [hW]
 rw [e]
 refine ⟨pW.alloc _, gW.alloc _, ?_, nb, ?_⟩
 ·rw [Below.heap_alloc _ _ _ (by omega)]; exact bW
 ·have fF : Fr (fun k => O3 k ∨ k = B) w3 (fun k => O3 k ∨ k = B) (W.alloc (.cells (treeCells op' text' n' a' k') 115)) := fW.alloc _
  refine TrAt.lone (a0 := .string op') (a1 := .string text') (a2 := .int .i64 n') (a3 := .int .i64 a') (a4 := k') ?_ ?_ ?_
  ·refine TrAt.step ((F.join (fun k => k = B)).trans fF) (fun k hk => ?_) (fun k hk => ?_) x _ TU
   ·rcases hk with h | h
    ·exact Or.inl h
    ·exact Or.inr (Or.inr h)
   ·rcases hk with h | h | h
    ·rcases F.own k h with h1 | h1
     ·exact Or.inl (Or.inl h1)
     ·exact Or.inr h1
    ·exact Or.inl (Or.inr (Or.inl h))
    ·exact Or.inl (Or.inr (Or.inr h))
  ·rw [← sW]; exact heap_alloc_new _ _
  ·rintro (h | h | h)
   ·have := H3.lt h; omega
   ·have := HF.size; omega
   ·omega
theorem sufTo_succ (s : ByteArray) (st : PS) (x : Tr) {i : Nat} (h : i < 3) : sufTo s st x (i + 1) = sufStep s (sufWord i) (sufTo s st x i) := by
 rcases i with _ | _ | _ | i
 ·rfl
 ·rfl
 ·rfl
 ·omega
theorem sufLp_pos {s : ByteArray} {k : Nat} {st : PS} {t : Tr} {r : PS × Tr} (h : sufLp s k st t = some r) : ∃ g, k = g + 1 := by
 cases k with
 | zero => rw [sufLp] at h; cases h
 | succ g => exact ⟨g, rfl⟩
theorem sufLp_more {s : ByteArray} {g : Nat} {st : PS} {t : Tr} {r : PS × Tr} (h : sufLp s (g + 1) st t = some r) :
  ((suf3 s st t).2.2 = true ∧ sufLp s g (suf3 s st t).1 (suf3 s st t).2.1 = some r) ∨ ((suf3 s st t).2.2 = false ∧ r = ((suf3 s st t).1, (suf3 s st t).2.1)) := by
 rw [sufLp] at h
 by_cases hb : (suf3 s st t).2.2 = true
 ·left; rw [if_pos hb] at h; exact ⟨hb, h⟩
 ·right; rw [if_neg hb] at h; exact ⟨by simpa using hb, (Option.some.inj h).symm⟩
theorem rowLp_pos {s : ByteArray} {k : Nat} {st : PS} {kids : List Tr} {r : PS × Tr} (h : rowLp s k st kids = some r) : ∃ g, k = g + 1 := by
 cases k with
 | zero => rw [rowLp] at h; cases h
 | succ g => exact ⟨g, rfl⟩
theorem rowLp_more {s : ByteArray} {g : Nat} {st : PS} {kids : List Tr} {r : PS × Tr} (h : rowLp s (g + 1) st kids = some r) :
  ∃ s1 x s2 x2, oneTw s g st = some (s1, x) ∧ sufLp s g s1 x = some (s2, x2) ∧ ((moreP s2 = true ∧ rowLp s g s2 (kids ++ [x2]) = some r) ∨ (moreP s2 = false ∧ r = (s2, .mk wRow ⟨#[]⟩ 0 0 (kids ++ [x2])))) := by
 rw [rowLp] at h
 cases ht : oneTw s g st with
 | none => rw [ht] at h; cases h
 | some p =>
  rw [ht] at h
  cases hu : sufLp s g p.1 p.2 with
  | none => simp only [hu] at h; cases h
  | some q =>
   simp only [hu] at h
   refine ⟨p.1, p.2, q.1, q.2, rfl, hu, ?_⟩
   by_cases hb : moreP q.1 = true
   ·left; simp only [hb, if_true] at h; exact ⟨hb, h⟩
   ·right
    have hb' : moreP q.1 = false := by simpa using hb
    simp only [hb', Bool.false_eq_true, if_false] at h
    exact ⟨hb', (Option.some.inj h).symm⟩
end Go.Proofs.YtgdeeodifnegiaaGreatDoor.rf
