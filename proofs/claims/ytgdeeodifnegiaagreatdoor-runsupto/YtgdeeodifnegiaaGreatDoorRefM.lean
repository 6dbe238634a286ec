/- The reference's either, out of row's contract. -/
import Derived.Test.YtgdeeodifnegiaaGreatDoorRefL
namespace Go.Proofs.YtgdeeodifnegiaaGreatDoor.rf
open Go.RowKit

theorem Tryz.infoTree : (Tryz.prog.info? 115).map (fun i => (i.zero, i.size, i.bytes)) = some (some (.agg treeZ), 5, 72) := by kernel_rfl

theorem TrOpen.step {O O' Q Q' : Nat → Prop} {w w' : World} {kids : List Tr} {kv : Value} {xs : List Value} (h : TrOpen w Q kids kv xs) (hf : Fr O w O' w') (h1 : ∀ k, O k → Q k) (h2 : ∀ k, Q' k → Q k ∨ w.heap.size ≤ k) : TrOpen w' Q' kids kv xs := by
  obtain ⟨a, b, c⟩ := h
  refine ⟨owns_of a (fun k hk => hf.block k (a.lt k hk).2 (fun hO => b k hk (h1 k hO))), fun k hk hQ => ?_, AllTr.step hf (fun k hk => Or.inl (h1 k hk)) (fun k hk => ?_) _ _ c⟩
  · rcases h2 k hQ with h | h
    · exact b k hk h
    · have := (a.lt k hk).2; omega
  · rcases hk with h | h
    · rcases h2 k h with h3 | h3
      · exact Or.inl (Or.inl h3)
      · exact Or.inr h3
    · exact Or.inl (Or.inr h)

theorem eitherLp_pos {s : ByteArray} {k : Nat} {st : PS} {kids : List Tr} {r : PS × Tr} (h : eitherLp s k st kids = some r) : ∃ g, k = g + 1 := by
  cases k with
  | zero => rw [eitherLp] at h; cases h
  | succ g => exact ⟨g, rfl⟩
theorem eitherLp_more {s : ByteArray} {g : Nat} {st : PS} {kids : List Tr} {r : PS × Tr} (h : eitherLp s (g + 1) st kids = some r) :
    ∃ s1 x, rowTw s g st = some (s1, x) ∧ ((isP s1 wBar = true ∧ eitherLp s g (takeP s s1) (kids ++ [x]) = some r) ∨ (isP s1 wBar = false ∧ r = (s1, .mk wEither ⟨#[]⟩ 0 0 (kids ++ [x])))) := by
  rw [eitherLp] at h
  cases ht : rowTw s g st with
  | none => rw [ht] at h; cases h
  | some p =>
    rw [ht] at h
    refine ⟨p.1, p.2, rfl, ?_⟩
    by_cases hb : isP p.1 wBar = true
    · left; simp only [hb, if_true] at h; exact ⟨hb, h⟩
    · right
      have hb' : isP p.1 wBar = false := by simpa using hb
      simp only [hb', Bool.false_eq_true, if_false] at h
      exact ⟨hb', (Option.some.inj h).symm⟩

set_option maxRecDepth 100000 in
set_option maxHeartbeats 3200000 in
theorem either_any (pb : Nat) (s : ByteArray) (f : Nat) (hf0 : f ≤ 1000000) (IH : ∀ g, g ≤ f → RowC pb s g) : EitherC pb s (f + 1) := by
  intro w st O r h hk hr
  rw [eitherTw] at hr
  obtain ⟨i0, hi0, hz0, hz1, hz2⟩ := info_parts Tryz.infoTree
  have lp : pb < w.heap.size := h.lt h.own
  have N0 := hide (show ¬ O w.heap.size from fun hk => by have := h.lt hk; omega)
  have N1 := hide (show ¬ O (w.heap.size + 1) from fun hk => by have := h.lt hk; omega)
  have HP0 := hide ((h.alloc (.cells treeZ 115)).alloc (.cells (treeCells wEither ⟨#[]⟩ 0 0 (.slice none 0 0)) 115))
  have HF0 := hide (((Fr.refl O w).alloc (.cells treeZ 115)).alloc (.cells (treeCells wEither ⟨#[]⟩ 0 0 (.slice none 0 0)) 115))
  have K := hide hk
  have HL := hide hr
  have HIH := hide IH
  clear h hk hr IH
  go_enter Tryz.func121, Tryz.ntmps121
  go_wp2_with fail
  go_loopg [4] f (fun k b4 wr => ∃ (su : PS) (kids : List Tr) (kv : Value) (xs : List Value) (O1 : Nat → Prop), kids.length + k ≤ f ∧ PA wr pb s su O1 ∧ Ok s su ∧ Fr O w O1 wr ∧ wr.heap[w.heap.size]? = some (.cells treeZ 115 (0, 0)) ∧ wr.heap[w.heap.size + 1]? = some (.cells (treeCells wEither ⟨#[]⟩ 0 0 kv) 115 (0, 0)) ∧ ¬ O1 w.heap.size ∧ ¬ O1 (w.heap.size + 1) ∧ TrOpen wr (fun k => O1 k ∨ k ≤ w.heap.size ∨ k = w.heap.size + 1) kids kv xs ∧ ((b4 = .bool true ∧ eitherLp s k su kids = some r) ∨ (b4 = .bool false ∧ r = (su, .mk wEither ⟨#[]⟩ 0 0 kids))))
  case atStart => exact ⟨st, [], _, [], O, by simp, unhide HP0, unhide K, unhide HF0, (two_alloc w _ _ _ _).1, (two_alloc w _ _ _ _).2, unhide N0, unhide N1, TrOpen.nil _ _, Or.inl ⟨rfl, unhide HL⟩⟩
  case round =>
    clear HP0 HF0 K HL N0 N1
    obtain ⟨su, kids, kv, xs, O1, hkl, hp, hk, hf, q0, q1, n0, n1, htu, hst⟩ := hrel
    rcases hst with ⟨rfl, hl⟩ | ⟨rfl, hre⟩
    · obtain ⟨g, rfl⟩ := eitherLp_pos hl
      obtain ⟨s1, x, hrow, hnx⟩ := eitherLp_more hl
      have HP := hide hp
      have HK := hide hk
      have HF := hide hf
      have Q0 := hide q0
      have Q1 := hide q1
      have NA := hide n0
      have NB := hide n1
      have TU := hide htu
      have HROW := hide hrow
      have HNX := hide hnx
      have hzB' : w.heap.size + 1 < wr.heap.size := heap_lt q1
      clear hp hk hf q0 q1 n0 n1 htu hl hrow hnx
      go_wp2_with fail
      refine (unhide HIH g (by omega) _ _ _ _ (unhide HP) (unhide HK) (unhide HROW)).mono ?_
      rintro e w2 ⟨v, O2, rfl, hp2, hf2, ht2, hk2⟩
      obtain ⟨xop, xtext, xn, xa, xo, xc, xl, rfl⟩ := ht2.form
      have qB := (hf2.block (w.heap.size + 1) hzB' (unhide NB)).trans (unhide Q1)
      have s4 : w2.cell? ⟨w.heap.size + 1, 4, none⟩ = some kv := cell_of_heap qB
      have hzB : w.heap.size + 1 < w2.heap.size := heap_lt qB
      have OW := hide (show w2.ownsRow 0 115 5 kv kids.length xs from owns_of (unhide TU).1 (fun k hk => hf2.block k ((unhide TU).1.lt k hk).2 (fun h => (unhide TU).2.1 k hk (Or.inl h))))
      have H2 := hide hp2
      have F2 := hide hf2
      have T2 := hide ht2
      have K2 := hide hk2
      have QB := hide qB
      have NKB := hide (show some (w.heap.size + 1) ≠ kv.ownBlock from fun e => (unhide TU).2.1 _ e.symm (Or.inr (Or.inr rfl)))
      clear hp2 hf2 ht2 hk2 qB
      go_wp2_with (at_builtin; refine wpList_append_lies _ rfl _ _ _ rfl 0 115 i0 _ 5 72 Tryz.underlying113 hi0 hz0 hz1 hz2 rfl (by omega) kv kids.length xs rfl (((unhide OW).alloc _).alloc _) ⟨w2.heap.size + 1, 0, none⟩ 1 1 [.string xop, .string xtext, .int .i64 xn, .int .i64 xa, .slice xo xc xl] rfl rfl (World.news_of_block (cs := #[.string xop, .string xtext, .int .i64 xn, .int .i64 xa, .slice xo xc xl]) (t := 115) (fr := (0, 0)) (two_alloc w2 _ _ _ _).2) (by simp [Value.oneCell']) (by omega) (by simp [maxLen]; omega) (by omega) (by omega) (w2.heap.size + 2) (by simp) ?_; intro gg cap w' hown hgrow hat hlt; have qB' : w'.heap[w.heap.size + 1]? = some (.cells (treeCells wEither ⟨#[]⟩ 0 0 kv) 115 (0, 0)) := ((hgrow.block (w.heap.size + 1) (by simp; omega) (unhide NKB)).trans ((Below.heap_alloc _ _ _ (by simp; omega)).trans ((Below.heap_alloc _ _ _ (by omega)).trans (unhide QB)))); have c4 : w'.cell? ⟨w.heap.size + 1, 4, none⟩ = some kv := (cell_of_heap qB'); have z4 : w'.frozen? ⟨w.heap.size + 1, 4, none⟩ = false := (frozen_of_heap qB'); clear qB')
      have FIN := hide (kid_round (unhide HF) (unhide F2) (unhide H2) (unhide Q0) (unhide Q1) (unhide NA) (unhide NB) (by omega) (unhide TU) (unhide T2) hgrow hown hat)
      generalize hW : w'.setCell ⟨w.heap.size + 1, 4, none⟩ (.slice (some ⟨gg, 0, none⟩) (kids.length + 1) cap) = W at *
      clear hW hown hgrow hat hlt c4 z4 s4
      obtain ⟨f1, f2, f3, f4, f5, f6, f7⟩ := unhide FIN
      have G1 := hide f1
      clear FIN f1
      have G2 := hide f2
      have G3 := hide f3
      have G4 := hide f4
      have G5 := hide f5
      have G6 := hide f6
      have G7 := hide f7
      clear f2 f3 f4 f5 f6 f7
      refine ((unhide G1).is _).mono ?_
      rintro e w0 ⟨rfl, rfl⟩
      rcases unhide HNX with ⟨hb, hl2⟩ | ⟨hb, hre⟩
      · have HL2 := hide hl2
        clear hl2
        rw [show isP s1 { data := #[124] } = true from hb]
        go_wp2_with fail
        refine (take_any (unhide G1) (unhide K2)).mono ?_
        rintro e w5 ⟨rfl, O5, hp5, hf5⟩
        have H5 := hide hp5
        have F5 := hide hf5
        clear hp5 hf5
        go_wp2_with fail
        go_roundg g
        case measure => omega
        case rel =>
          have hf5 := unhide F5
          have lR := heap_lt (unhide G3)
          have lB := heap_lt (unhide G4)
          refine ⟨takeP s s1, kids ++ [x], _, _, O5, by simp; omega, unhide H5, (unhide K2).take, (unhide G2).trans hf5, (hf5.block _ lR (unhide G5)).trans (unhide G3), (hf5.block _ lB (unhide G6)).trans (unhide G4), fun h => ?_, fun h => ?_, (unhide G7).step hf5 (fun k hk => Or.inl hk) (fun k hk => ?_), Or.inl ⟨rfl, unhide HL2⟩⟩
          · rcases hf5.own _ h with h | h
            · exact unhide G5 h
            · omega
          · rcases hf5.own _ h with h | h
            · exact unhide G6 h
            · omega
          · rcases hk with h | h | h
            · rcases hf5.own _ h with h1 | h1
              · exact Or.inl (Or.inl h1)
              · exact Or.inr h1
            · exact Or.inl (Or.inr (Or.inl h))
            · exact Or.inl (Or.inr (Or.inr h))
      · have HRE := hide hre
        clear hre
        rw [show isP s1 { data := #[124] } = false from hb]
        go_wp2_with fail
        go_roundg g
        case measure => omega
        case rel => exact ⟨s1, kids ++ [x], _, _, O2, by simp; omega, unhide G1, unhide K2, unhide G2, unhide G3, unhide G4, unhide G5, unhide G6, unhide G7, Or.inr ⟨rfl, unhide HRE⟩⟩
    · subst hre
      obtain ⟨r0, r1, r2, r3, r4⟩ := cells5 q0
      have zr : ∀ ob, wr.frozen? ⟨w.heap.size, ob, none⟩ = false := fun ob => frozen_of_heap q0
      obtain ⟨s0, s1, s2', s3, s4⟩ := cells5 q1
      obtain ⟨oo, cc, hkv⟩ := htu.form
      have TU := hide (htu.at wEither ⟨#[]⟩ 0 0)
      clear htu
      subst hkv
      have HP := hide hp
      have HK := hide hk
      have HF := hide hf
      have HN := hide n0
      clear hp hk hf q0 q1 n0 n1
      go_wp2_with fail
      refine bodyPost_ret (v := treeV wEither ⟨#[]⟩ 0 0 (.slice oo kids.length cc)) (by simp [results, Tryz.results121, go_sem, r0, r1, r2, r3, r4]) rfl ⟨_, O1, rfl, ?_, ?_, ?_, unhide HK⟩
      · repeat with_reducible first | refine PA.other ?_ (unhide HN) _ _ | refine PA.alloc ?_ _ | refine PA.drew ?_ | refine PA.drewN ?_ _ | exact unhide HP
      · repeat with_reducible first | refine Fr.setCell ?_ (Or.inr (Nat.le_refl _)) _ | refine Fr.setCell ?_ (Or.inl (unhide HO)) _ | refine Fr.alloc ?_ _ | refine Fr.drew ?_ | refine Fr.drewN ?_ _ | exact unhide HF | exact Fr.refl _ _
      · have f0 : Fr (fun k => O1 k ∨ k = w.heap.size) wr (fun k => O1 k ∨ k = w.heap.size) wr := (Fr.refl O1 wr).join (fun k => k = w.heap.size)
        refine TrAt.step (O := fun k => O1 k ∨ k = w.heap.size) (O' := fun k => O1 k ∨ k = w.heap.size) (w := wr) ?_ ?_ ?_ _ _ (unhide TU)
        · repeat with_reducible first | refine Fr.setCell ?_ (Or.inl (Or.inr rfl)) _ | exact f0
        · intro k hk
          rcases hk with h | h
          · exact Or.inl h
          · exact Or.inr (Or.inl (by omega))
        · intro k hk
          rcases hk with h | h
          · exact Or.inl (Or.inl h)
          · exact Or.inl (Or.inr (Or.inl (by omega)))
end Go.Proofs.YtgdeeodifnegiaaGreatDoor.rf
