/- The reference's ranges of a set. -/
import Derived.Test.YtgdeeodifnegiaaGreatDoorRefK
namespace Go.Proofs.YtgdeeodifnegiaaGreatDoor.rf
open Go.RowKit

def rgCells (l : List Rg) : List Value := l.flatMap fun r => [.int .i64 r.addr, .int .i64 r.len, .int .i64 r.lo, .int .i64 r.hi, .int .i64 r.loAt, .int .i64 r.hiAt]
theorem rgCells_snoc (l : List Rg) (r : Rg) : rgCells (l ++ [r]) = rgCells l ++ [.int .i64 r.addr, .int .i64 r.len, .int .i64 r.lo, .int .i64 r.hi, .int .i64 r.loAt, .int .i64 r.hiAt] := by simp [rgCells]
theorem Tryz.infoRg : (Tryz.prog.info? 233).map (fun i => (i.zero, i.size, i.bytes)) = some (some (.agg #[.int .i64 0, .int .i64 0, .int .i64 0, .int .i64 0, .int .i64 0, .int .i64 0]), 6, 48) := by kernel_rfl

/-- a call that gives ranges -/
def RangesC (pb : Nat) (s : ByteArray) (w : World) (O : Nat → Prop) (r : PS × List Rg) (e : Ending) (w' : World) : Prop :=
  ∃ v O', e = .returned v ∧ PA w' pb s r.1 O' ∧ Fr O w O' w' ∧ w'.ownsRow w.heap.size 233 6 v r.2.length (rgCells r.2) ∧ (∀ k, v.ownBlock = some k → ¬ O' k) ∧ Ok s r.1

theorem rangesLp_pos {s : ByteArray} {k : Nat} {m : Bool} {st : PS} {l : List Rg} {r : PS × List Rg} (h : rangesLp s k m st l = some r) : ∃ g, k = g + 1 := by
  cases k with
  | zero => rw [rangesLp] at h; cases h
  | succ g => exact ⟨g, rfl⟩
theorem rangesLp_stop {s : ByteArray} {g : Nat} {m : Bool} {st : PS} {l : List Rg} {r : PS × List Rg} (h : rangesLp s (g + 1) m st l = some r) (hc : ¬ (m = true ∧ st.bad < 0)) : r = (needP s st xBrace2, l) := by
  rw [rangesLp, if_neg hc] at h
  exact (Option.some.inj h).symm
theorem rangesLp_more {s : ByteArray} {g : Nat} {m : Bool} {st : PS} {l : List Rg} {r : PS × List Rg} (h : rangesLp s (g + 1) m st l = some r) (hc : m = true ∧ st.bad < 0) :
    (isP (rangeP s st).1 xComma = true ∧ rangesLp s g true (takeP s (rangeP s st).1) (l ++ [(rangeP s st).2]) = some r) ∨ (isP (rangeP s st).1 xComma = false ∧ rangesLp s g false (rangeP s st).1 (l ++ [(rangeP s st).2]) = some r) := by
  rw [rangesLp, if_pos hc] at h
  cases hi : isP (rangeP s st).1 xComma with
  | true => left; rw [if_pos hi] at h; exact ⟨rfl, h⟩
  | false => right; rw [if_neg (by rw [hi]; simp)] at h; exact ⟨rfl, h⟩

theorem heap_last3 (X : World) {A B : Obj} {C : Obj} : (((X.alloc A).alloc B).alloc C).heap[X.heap.size + 2]? = some C := by
  rw [show X.heap.size + 2 = ((X.alloc A).alloc B).heap.size by simp]; exact heap_alloc_new _ _
theorem heap_last2' {X : World} {A B : Obj} {k : Nat} (h : X.heap.size + 1 = k) : ((X.alloc A).alloc B).heap[k]? = some B := by
  subst h
  rw [show X.heap.size + 1 = (X.alloc A).heap.size by simp]; exact heap_alloc_new _ _
theorem row_round {w wr w2 w' : World} {pb g cap n : Nat} {s : ByteArray} {s2 : PS} {O O1 O2 : Nat → Prop} {v : Value} {xs : List Value} {obS : Obj} {T : TypeId} {size : Nat}
    (HF : Fr O w O1 wr) (F2 : Fr O1 wr O2 w2) (H2 : PA w2 pb s s2 O2) (HOW : wr.ownsRow w.heap.size T size v n xs) (HNO : ∀ k, v.ownBlock = some k → ¬ O1 k)
    (hgrow : (w2.alloc obS).grownBy w' v.ownBlock) (hat : v.ownBlock = some g ∨ g = w2.heap.size + 1) :
    PA w' pb s s2 O2 ∧ Fr O w O2 w' ∧ (∀ k, (Value.slice (some ⟨g, 0, none⟩) (n + 1) cap).ownBlock = some k → ¬ O2 k) := by
  have l2 : wr.heap.size ≤ w2.heap.size := F2.size
  have hkv : ∀ k, v.ownBlock = some k → w.heap.size ≤ k ∧ k < wr.heap.size ∧ ¬ O2 k := fun k hk => by
    have h1 := HOW.lt k hk
    refine ⟨h1.1, h1.2, fun h => ?_⟩
    rcases F2.own _ h with h | h
    · exact HNO k hk h
    · omega
  have hold : ∀ k, k < w2.heap.size → some k ≠ v.ownBlock → w'.heap[k]? = w2.heap[k]? := fun k hk hn => by
    rw [hgrow.block k (by simp; omega) hn, Below.heap_alloc _ _ _ hk]
  refine ⟨H2.frame (fun k hk => hold k (H2.lt hk) (fun e => (hkv k e.symm).2.2 hk)), ?_, fun k hk => ?_⟩
  · exact ((HF.trans F2).alloc obS).grown hgrow (fun k hk => Or.inr (hkv k hk).1)
  · obtain rfl : g = k := by simpa [Value.ownBlock] using hk
    rcases hat with h | h
    · exact (hkv g h).2.2
    · intro h3; have := H2.lt h3; omega

set_option maxRecDepth 100000 in
set_option maxHeartbeats 6400000 in
theorem ranges_any (pb : Nat) (s : ByteArray) (f : Nat) (hf0 : f ≤ 1000000) (w : World) (st : PS) (O : Nat → Prop) (r : PS × List Rg) (h : PA w pb s st O) (hk : Ok s st) (hr : rangesTw s f st = some r) :
    Calls Tryz.prog 122 #[ptr pb] w (RangesC pb s w O r) := by
  unfold rangesTw at hr
  obtain ⟨i0, hi0, hz0, hz1, hz2⟩ := info_parts Tryz.infoRg
  have HP0 := hide h
  have K := hide hk
  have HL := hide hr
  clear h hk hr
  go_enter Tryz.func122, Tryz.ntmps122
  go_wp2_with fail
  refine (need_any (unhide HP0) (unhide K) _).mono ?_
  rintro e wb ⟨rfl, Ob, hpb, hfb⟩
  have HPB := hide hpb
  have HFB := hide hfb
  clear hpb hfb
  go_wp2_with fail
  go_loopg [3, 4] f (fun k v3 b4 wr => ∃ (su : PS) (l : List Rg) (more : Bool) (O1 : Nat → Prop), l.length + k ≤ f ∧ b4 = .bool more ∧ PA wr pb s su O1 ∧ Ok s su ∧ Fr O w O1 wr ∧ wr.ownsRow w.heap.size 233 6 v3 l.length (rgCells l) ∧ (∀ k, v3.ownBlock = some k → ¬ O1 k) ∧ rangesLp s k more su l = some r)
  case atStart => exact ⟨_, [], true, Ob, by simp, rfl, unhide HPB, (unhide K).need _, unhide HFB, World.ownsRow_nil _ _ _ _, fun k hk => by simp [Value.ownBlock] at hk, unhide HL⟩
  case round =>
    clear HP0 K HL HPB HFB
    obtain ⟨su, l, more, O1, hkl, rfl, hp, hk, hf, how, hno, hl⟩ := hrel
    obtain ⟨g, rfl⟩ := rangesLp_pos hl
    have c7 := hp.cell.2.1
    by_cases hc : more = true ∧ su.bad < 0
    · have HNX := hide (rangesLp_more hl hc)
      obtain ⟨rfl, hb⟩ := hc
      have HP := hide hp
      have HK := hide hk
      have HF := hide hf
      have HOW := hide how
      have HNO := hide hno
      clear hp hk hf how hno hl
      go_wp2_with fail
      refine (kind_any (unhide HP) (unhide HK) _).mono ?_
      rintro e w2 ⟨rfl, O2, hp2, hf2⟩
      have HP2 := hide (hp2.alloc (.cells #[.int .u8 su.next.kind, .string su.next.text, .int .i64 su.next.at_] 121))
      have HF2 := hide (hf2.alloc (.cells #[.int .u8 su.next.kind, .string su.next.text, .int .i64 su.next.at_] 121))
      clear hp2 hf2
      go_wp2_with fail
      refine (prefix_any _ _ (by have := (unhide HK).tx; omega)).mono ?_
      rintro e w3 ⟨rfl, hb3⟩
      have P3 := (unhide HP2).stay hb3
      have d1 := P3.cell.1
      have d7 := P3.cell.2.1
      have lp3 : pb < w3.heap.size := P3.lt P3.own
      have HP3 := hide P3
      have HF3 := hide ((unhide HF2).below hb3)
      have HOW3 := hide (show w3.ownsRow w.heap.size 233 6 u3 l.length (rgCells l) from owns_of (unhide HOW) (fun k hk => (unhide HF3).block k ((unhide HOW).lt k hk).2 (unhide HNO k hk)))
      have hw3 : w.heap.size ≤ w3.heap.size := Nat.le_trans (unhide HF).size (unhide HF3).size
      clear P3 hb3 HP2 HF2
      by_cases hn : (kindP s su 47).bad < 0 ∧ (kindP s su 47).next.kind = 48
      · have HR := hide (show rangeP s su = (kindP s (kindP s (kindP s su 47) 48) 48, ⟨(prefR su.next.text).1, (prefR su.next.text).2.1, numP (kindP s su 47).next.text 4294967295, numP (kindP s (kindP s su 47) 48).next.text 4294967295, (kindP s su 47).next.at_, (kindP s (kindP s su 47) 48).next.at_⟩) from by unfold rangeP; rw [if_pos hn])
        have h1 := hn.1
        have h2 : ((kindP s su 47).next.kind == 48) = true := by rw [hn.2]; rfl
        clear hn
        go_wp2_with fail
        refine (num_any (((unhide HP3).alloc _).alloc _) ((unhide HK).kind 47) _).mono ?_
        rintro e w5 ⟨rfl, O5, hp5, hf5⟩
        have NR := hide (show ¬ O2 (w3.heap.size + 1) from fun h => by have := (unhide HP3).lt h; omega)
        have QR5 := hide ((hf5.block (w3.heap.size + 1) (by simp) (unhide NR)).trans (two_alloc w3 _ _ _ _).2)
        have NR5 := hide (show ¬ O5 (w3.heap.size + 1) from fun h => by
          rcases hf5.own _ h with h | h
          · exact unhide NR h
          · simp at h; omega)
        have N5 := hide (show ¬ O5 w5.heap.size from fun h => by have := hp5.lt h; omega)
        have HP5 := hide (hp5.alloc (.cells (treeCells ⟨#[]⟩ ⟨#[]⟩ (numP (kindP s su 47).next.text 4294967295) (kindP s su 47).next.at_ (.slice none 0 0)) 115))
        have HF5 := hide (((((unhide HF3).alloc (.cells #[.int .i64 (prefR su.next.text).1, .int .i64 (prefR su.next.text).2.1] 25)).alloc (.cells #[.int .i64 (prefR su.next.text).1, .int .i64 (prefR su.next.text).2.1, .int .i64 (prefR su.next.text).2.1, .int .i64 (prefR su.next.text).2.1, .int .i64 (-1), .int .i64 (-1)] 233)).trans hf5).alloc (.cells (treeCells ⟨#[]⟩ ⟨#[]⟩ (numP (kindP s su 47).next.text 4294967295) (kindP s su 47).next.at_ (.slice none 0 0)) 115))
        clear hp5 hf5
        go_wp2_with fail
        refine (num_any (unhide HP5) (((unhide HK).kind 47).kind 48) _).mono ?_
        rintro e w6 ⟨rfl, O6, hp6, hf6⟩
        have lR5 : w3.heap.size + 1 < w5.heap.size := heap_lt (unhide QR5)
        have qR := (hf6.block (w3.heap.size + 1) (by simp; omega) (unhide NR5)).trans ((Below.heap_alloc _ _ _ lR5).trans (unhide QR5))
        have qA := (hf6.block w5.heap.size (by simp) (unhide N5)).trans (heap_alloc_new w5 _)
        have lR6 : w3.heap.size + 1 < w6.heap.size := heap_lt qR
        have lA6 : w5.heap.size < w6.heap.size := heap_lt qA
        have z0 : w6.cell? ⟨w3.heap.size + 1, 0, none⟩ = some (.int .i64 (prefR su.next.text).1) := cell_of_heap qR
        have z1 : w6.cell? ⟨w3.heap.size + 1, 1, none⟩ = some (.int .i64 (prefR su.next.text).2.1) := cell_of_heap qR
        have z2 : w6.cell? ⟨w3.heap.size + 1, 2, none⟩ = some (.int .i64 (prefR su.next.text).2.1) := cell_of_heap qR
        have z3 : w6.cell? ⟨w3.heap.size + 1, 3, none⟩ = some (.int .i64 (prefR su.next.text).2.1) := cell_of_heap qR
        have z4 : w6.cell? ⟨w3.heap.size + 1, 4, none⟩ = some (.int .i64 (-1)) := cell_of_heap qR
        have z5 : w6.cell? ⟨w3.heap.size + 1, 5, none⟩ = some (.int .i64 (-1)) := cell_of_heap qR
        have zf : ∀ ob, w6.frozen? ⟨w3.heap.size + 1, ob, none⟩ = false := fun ob => frozen_of_heap qR
        have y2 : w6.cell? ⟨w5.heap.size, 2, none⟩ = some (.int .i64 (numP (kindP s su 47).next.text 4294967295)) := cell_of_heap qA
        have y3 : w6.cell? ⟨w5.heap.size, 3, none⟩ = some (.int .i64 (kindP s su 47).next.at_) := cell_of_heap qA
        have hRA : w3.heap.size + 1 ≠ w5.heap.size := by omega
        have NR6 := hide (show ¬ O6 (w3.heap.size + 1) from fun h => by
          rcases hf6.own _ h with h | h
          · exact unhide NR5 h
          · simp at h; omega)
        have HP6 := hide hp6
        have HF6 := hide ((unhide HF5).trans hf6)
        have HOW6 := hide (show w6.ownsRow w.heap.size 233 6 u3 l.length (rgCells l) from owns_of (unhide HOW) (fun k hk => (unhide HF6).block k ((unhide HOW).lt k hk).2 (unhide HNO k hk)))
        have hw6 : w.heap.size ≤ w6.heap.size := Nat.le_trans (unhide HF).size (unhide HF6).size
        have hwr3 : wr.heap.size ≤ w3.heap.size := (unhide HF3).size
        clear hp6 hf6 qR qA
        have HOWS := hide (show ((((w6.setCell ⟨w3.heap.size + 1, 2, none⟩ (.int .i64 (numP (kindP s su 47).next.text 4294967295))).setCell ⟨w3.heap.size + 1, 3, none⟩ (.int .i64 (numP (kindP s (kindP s su 47) 48).next.text 4294967295))).setCell ⟨w3.heap.size + 1, 4, none⟩ (.int .i64 (kindP s su 47).next.at_)).setCell ⟨w3.heap.size + 1, 5, none⟩ (.int .i64 (kindP s (kindP s su 47) 48).next.at_)).ownsRow w.heap.size 233 6 u3 l.length (rgCells l) from owns_of (unhide HOW6) (fun k hk => by
          have hne : k ≠ w3.heap.size + 1 := by have := ((unhide HOW).lt k hk).2; omega
          rw [heap_set_other hne, heap_set_other hne, heap_set_other hne, heap_set_other hne]))
        have HPS := hide (show PA ((((w6.setCell ⟨w3.heap.size + 1, 2, none⟩ (.int .i64 (numP (kindP s su 47).next.text 4294967295))).setCell ⟨w3.heap.size + 1, 3, none⟩ (.int .i64 (numP (kindP s (kindP s su 47) 48).next.text 4294967295))).setCell ⟨w3.heap.size + 1, 4, none⟩ (.int .i64 (kindP s su 47).next.at_)).setCell ⟨w3.heap.size + 1, 5, none⟩ (.int .i64 (kindP s (kindP s su 47) 48).next.at_)) pb s (kindP s (kindP s (kindP s su 47) 48) 48) O6 from ((((unhide HP6).other (unhide NR6) _ _).other (unhide NR6) _ _).other (unhide NR6) _ _).other (unhide NR6) _ _)
        have HFS := hide (show Fr O1 wr O6 ((((w6.setCell ⟨w3.heap.size + 1, 2, none⟩ (.int .i64 (numP (kindP s su 47).next.text 4294967295))).setCell ⟨w3.heap.size + 1, 3, none⟩ (.int .i64 (numP (kindP s (kindP s su 47) 48).next.text 4294967295))).setCell ⟨w3.heap.size + 1, 4, none⟩ (.int .i64 (kindP s su 47).next.at_)).setCell ⟨w3.heap.size + 1, 5, none⟩ (.int .i64 (kindP s (kindP s su 47) 48).next.at_)) from ((((unhide HF6).setCell (Or.inr (by show wr.heap.size ≤ w3.heap.size + 1; omega)) _).setCell (Or.inr (by show wr.heap.size ≤ w3.heap.size + 1; omega)) _).setCell (Or.inr (by show wr.heap.size ≤ w3.heap.size + 1; omega)) _).setCell (Or.inr (by show wr.heap.size ≤ w3.heap.size + 1; omega)) _)
        go_wp2_with (at_builtin; refine wpList_append_lies _ rfl _ _ _ rfl w.heap.size 233 i0 _ 6 48 Tryz.underlying143 hi0 hz0 hz1 hz2 rfl (by omega) u3 l.length (rgCells l) rfl (((unhide HOWS).alloc _).alloc _) ⟨w6.heap.size + 1, 0, none⟩ 1 1 [.int .i64 (prefR su.next.text).1, .int .i64 (prefR su.next.text).2.1, .int .i64 (numP (kindP s su 47).next.text 4294967295), .int .i64 (numP (kindP s (kindP s su 47) 48).next.text 4294967295), .int .i64 (kindP s su 47).next.at_, .int .i64 (kindP s (kindP s su 47) 48).next.at_] rfl rfl (World.news_of_block (cs := #[.int .i64 (prefR su.next.text).1, .int .i64 (prefR su.next.text).2.1, .int .i64 (numP (kindP s su 47).next.text 4294967295), .int .i64 (numP (kindP s (kindP s su 47) 48).next.text 4294967295), .int .i64 (kindP s su 47).next.at_, .int .i64 (kindP s (kindP s su 47) 48).next.at_]) (t := 233) (fr := (0, 0)) (heap_last2' (by simp [World.setCell]))) (by simp [Value.oneCell']) (by omega) (by simp [maxLen]; omega) (by omega) (by simp [World.setCell]; omega) (w6.heap.size + 2) (by simp [World.setCell]) ?_; intro gg cap w' hown hgrow hat hltg)
        have FIN := hide (row_round (cap := cap) (n := l.length) (unhide HF) ((unhide HFS).alloc _) ((unhide HPS).alloc _) (unhide HOW) (unhide HNO) hgrow (by rcases hat with h | h; exact Or.inl h; exact Or.inr (by simp [World.setCell]; omega)))
        have HOWN := hide (show w'.ownsRow w.heap.size 233 6 (.slice (some ⟨gg, 0, none⟩) (l.length + 1) cap) (l ++ [(⟨(prefR su.next.text).1, (prefR su.next.text).2.1, numP (kindP s su 47).next.text 4294967295, numP (kindP s (kindP s su 47) 48).next.text 4294967295, (kindP s su 47).next.at_, (kindP s (kindP s su 47) 48).next.at_⟩ : Rg)]).length (rgCells (l ++ [(⟨(prefR su.next.text).1, (prefR su.next.text).2.1, numP (kindP s su 47).next.text 4294967295, numP (kindP s (kindP s su 47) 48).next.text 4294967295, (kindP s su 47).next.at_, (kindP s (kindP s su 47) 48).next.at_⟩ : Rg)])) from by rw [rgCells_snoc, List.length_append]; exact hown)
        have A1 := hide ((unhide FIN).1.is xComma)
        clear hown hgrow hat hltg
        rw [unhide HR] at HNX
        refine (unhide A1).mono ?_
        rintro e w0 ⟨rfl, rfl⟩
        rcases unhide HNX with ⟨hcm, hl2⟩ | ⟨hcm, hl2⟩
        · have HL2 := hide hl2
          clear hl2
          rw [show isP (kindP s (kindP s (kindP s su 47) 48) 48) xComma = true from hcm]
          go_wp2_with fail
          refine (take_any (unhide FIN).1 (((unhide HK).kind 47).kind 48 |>.kind 48)).mono ?_
          rintro e w9 ⟨rfl, O9, hp9, hf9⟩
          have HP9 := hide hp9
          have HF9 := hide hf9
          clear hp9 hf9
          go_wp2_with fail
          go_roundg g
          case measure => omega
          case rel =>
            have hf9 := unhide HF9
            obtain ⟨f1, f2, f3⟩ := unhide FIN
            refine ⟨_, l ++ [(⟨(prefR su.next.text).1, (prefR su.next.text).2.1, numP (kindP s su 47).next.text 4294967295, numP (kindP s (kindP s su 47) 48).next.text 4294967295, (kindP s su 47).next.at_, (kindP s (kindP s su 47) 48).next.at_⟩ : Rg)], true, O9, by simp; omega, rfl, unhide HP9, (((unhide HK).kind 47).kind 48 |>.kind 48).take, f2.trans hf9, owns_of (unhide HOWN) (fun k hk => hf9.block k ((unhide HOWN).lt k hk).2 (f3 k hk)), fun k hk h => ?_, unhide HL2⟩
            rcases hf9.own _ h with h | h
            · exact f3 k hk h
            · have := ((unhide HOWN).lt k hk).2; omega
        · have HL2 := hide hl2
          clear hl2
          rw [show isP (kindP s (kindP s (kindP s su 47) 48) 48) xComma = false from hcm]
          go_wp2_with fail
          go_roundg g
          case measure => omega
          case rel =>
            obtain ⟨f1, f2, f3⟩ := unhide FIN
            exact ⟨_, l ++ [(⟨(prefR su.next.text).1, (prefR su.next.text).2.1, numP (kindP s su 47).next.text 4294967295, numP (kindP s (kindP s su 47) 48).next.text 4294967295, (kindP s su 47).next.at_, (kindP s (kindP s su 47) 48).next.at_⟩ : Rg)], false, _, by simp; omega, rfl, f1, (((unhide HK).kind 47).kind 48 |>.kind 48), f2, unhide HOWN, f3, unhide HL2⟩
      · have HR := hide (show rangeP s su = (kindP s su 47, ⟨(prefR su.next.text).1, (prefR su.next.text).2.1, (prefR su.next.text).2.1, (prefR su.next.text).2.1, -1, -1⟩) from by unfold rangeP; rw [if_neg hn])
        have hor : ((kindP s su 47).bad < 0 ∧ ((kindP s su 47).next.kind == 48) = false) ∨ ¬ (kindP s su 47).bad < 0 := by
          by_cases h1 : (kindP s su 47).bad < 0
          · left; exact ⟨h1, beq_eq_false_iff_ne.2 (fun h2 => hn ⟨h1, h2⟩)⟩
          · right; exact h1
        clear hn
        rcases hor with ⟨h1, h2⟩ | h1
        all_goals
          go_wp2_with (at_builtin; refine wpList_append_lies _ rfl _ _ _ rfl w.heap.size 233 i0 _ 6 48 Tryz.underlying143 hi0 hz0 hz1 hz2 rfl (by omega) u3 l.length (rgCells l) rfl ((((unhide HOW3).alloc _).alloc _).alloc _) ⟨w3.heap.size + 2, 0, none⟩ 1 1 [.int .i64 (prefR su.next.text).1, .int .i64 (prefR su.next.text).2.1, .int .i64 ((prefR su.next.text).2.1), .int .i64 ((prefR su.next.text).2.1), .int .i64 (-1), .int .i64 (-1)] rfl rfl (World.news_of_block (cs := #[.int .i64 (prefR su.next.text).1, .int .i64 (prefR su.next.text).2.1, .int .i64 ((prefR su.next.text).2.1), .int .i64 ((prefR su.next.text).2.1), .int .i64 (-1), .int .i64 (-1)]) (t := 233) (fr := (0, 0)) (heap_last3 w3)) (by simp [Value.oneCell']) (by omega) (by simp [maxLen]; omega) (by omega) (by simp; omega) (w3.heap.size + 3) (by simp) ?_; intro gg cap w' hown hgrow hat hltg)
          have FIN := hide (row_round (cap := cap) (n := l.length) (unhide HF) (((unhide HF3).alloc _).alloc _) (((unhide HP3).alloc _).alloc _) (unhide HOW) (unhide HNO) hgrow (by rcases hat with h | h; exact Or.inl h; exact Or.inr (by simp; omega)))
          have HOWN := hide (show w'.ownsRow w.heap.size 233 6 (.slice (some ⟨gg, 0, none⟩) (l.length + 1) cap) (l ++ [(⟨(prefR su.next.text).1, (prefR su.next.text).2.1, (prefR su.next.text).2.1, (prefR su.next.text).2.1, -1, -1⟩ : Rg)]).length (rgCells (l ++ [(⟨(prefR su.next.text).1, (prefR su.next.text).2.1, (prefR su.next.text).2.1, (prefR su.next.text).2.1, -1, -1⟩ : Rg)])) from by rw [rgCells_snoc, List.length_append]; exact hown)
          have A1 := hide ((unhide FIN).1.is xComma)
          clear hown hgrow hat hltg
          rw [unhide HR] at HNX
          refine (unhide A1).mono ?_
          rintro e w0 ⟨rfl, rfl⟩
          rcases unhide HNX with ⟨hcm, hl2⟩ | ⟨hcm, hl2⟩
          · have HL2 := hide hl2
            clear hl2
            rw [show isP (kindP s su 47) xComma = true from hcm]
            go_wp2_with fail
            refine (take_any (unhide FIN).1 ((unhide HK).kind 47)).mono ?_
            rintro e w9 ⟨rfl, O9, hp9, hf9⟩
            have HP9 := hide hp9
            have HF9 := hide hf9
            clear hp9 hf9
            go_wp2_with fail
            go_roundg g
            case measure => omega
            case rel =>
              have hf9 := unhide HF9
              obtain ⟨f1, f2, f3⟩ := unhide FIN
              refine ⟨_, l ++ [(⟨(prefR su.next.text).1, (prefR su.next.text).2.1, (prefR su.next.text).2.1, (prefR su.next.text).2.1, -1, -1⟩ : Rg)], true, O9, by simp; omega, rfl, unhide HP9, ((unhide HK).kind 47).take, f2.trans hf9, owns_of (unhide HOWN) (fun k hk => hf9.block k ((unhide HOWN).lt k hk).2 (f3 k hk)), fun k hk h => ?_, unhide HL2⟩
              rcases hf9.own _ h with h | h
              · exact f3 k hk h
              · have := ((unhide HOWN).lt k hk).2; omega
          · have HL2 := hide hl2
            clear hl2
            rw [show isP (kindP s su 47) xComma = false from hcm]
            go_wp2_with fail
            go_roundg g
            case measure => omega
            case rel =>
              obtain ⟨f1, f2, f3⟩ := unhide FIN
              exact ⟨_, l ++ [(⟨(prefR su.next.text).1, (prefR su.next.text).2.1, (prefR su.next.text).2.1, (prefR su.next.text).2.1, -1, -1⟩ : Rg)], false, _, by simp; omega, rfl, f1, ((unhide HK).kind 47), f2, unhide HOWN, f3, unhide HL2⟩
    · have hor : (more = true ∧ ¬ su.bad < 0) ∨ more = false := by
        cases more
        · right; rfl
        · left; exact ⟨rfl, fun h => hc ⟨rfl, h⟩⟩
      obtain rfl := rangesLp_stop hl hc
      have HP := hide hp
      have HK := hide hk
      have HF := hide hf
      have HOW := hide how
      have HNO := hide hno
      clear hp hk hf how hno hl hc
      rcases hor with ⟨rfl, hb⟩ | rfl
      all_goals
        go_wp2_with fail
        refine (need_any (unhide HP) (unhide HK) _).mono ?_
        rintro e w9 ⟨rfl, O9, hp9, hf9⟩
        have HP9 := hide hp9
        have HF9 := hide hf9
        clear hp9 hf9
        go_wp2_with fail
        go_ret
        have hf9 := unhide HF9
        refine ⟨_, O9, rfl, unhide HP9, (unhide HF).trans hf9, owns_of (unhide HOW) (fun k hk => hf9.block k ((unhide HOW).lt k hk).2 (unhide HNO k hk)), fun k hk h => ?_, (unhide HK).need _⟩
        rcases hf9.own _ h with h | h
        · exact unhide HNO k hk h
        · have := ((unhide HOW).lt k hk).2; omega
end Go.Proofs.YtgdeeodifnegiaaGreatDoor.rf
