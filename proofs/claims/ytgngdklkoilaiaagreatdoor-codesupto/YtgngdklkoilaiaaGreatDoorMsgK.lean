/- The program's Encode (packages messages, byway): the bytes of a message, as EncSaid says. -/
import Derived.Test.YtgngdklkoilaiaaGreatDoorMsgG
namespace Go.Proofs.YtgngdklkoilaiaaGreatDoor
open Go.RowKit

theorem attsOf_all {u : Msg} (h : msgOk u) : (∀ d ∈ attsOf u, attOk d) ∧ (attsOf u).length ≤ 4 := by
  have hp := pathB_len h.2.1
  have hm : (wordsB u.marks).length ≤ 16 := by rw [wordsB_len]; have := h.2.2.1.1; omega
  by_cases hn : u.nets = []
  · unfold attsOf
    rw [if_pos hn]
    exact ⟨by simp, by simp⟩
  · rw [attsOf_eq hn]
    unfold medL marksL
    constructor
    · intro d hd
      simp only [List.mem_append, List.mem_singleton] at hd
      rcases hd with ((rfl | hd) | rfl) | hd
      · exact ⟨⟨by simp, by simp⟩, ⟨by simp, by simp⟩, by simp only; omega⟩
      · split at hd
        · simp only [List.mem_singleton] at hd; subst hd
          exact ⟨⟨by simp, by simp⟩, ⟨by simp, by simp⟩, by simp [fourB_len]⟩
        · simp at hd
      · exact ⟨⟨by simp, by simp⟩, ⟨by simp, by simp⟩, by simp [fourB_len]⟩
      · split at hd
        · simp at hd
        · simp only [List.mem_singleton] at hd; subst hd
          exact ⟨⟨by simp, by simp⟩, ⟨by simp, by simp⟩, by simp only; omega⟩
    · split <;> split <;> simp

set_option maxRecDepth 100000 in
set_option maxHeartbeats 3200000 in
theorem encode_any (u : Msg) (vg vn vp vm : Value) (w : World) (ht : TabAt w) (hg : NetsAt w vg u.gone) (hn : NetsAt w vn u.nets) (hp : IntsAt w vp u.path) (hm : IntsAt w vm u.marks) :
    Calls Tryz.prog 71 #[.agg #[vg, vn, vp, vm, .int .i64 u.pref, .int .i64 u.med]] w fun e w' => Below w.heap.size w w' ∧
      ∃ (v : Value) (l : List Int) (k : Int), e = .returned (.tuple #[v, .int .i64 k]) ∧ OwnB w' w.heap.size v l ∧ ((msgOk u ∧ l = encP u ∧ k = 0) ∨ (¬ msgOk u ∧ l = [] ∧ k = 5)) := by
  have HG := hide hg
  have HN := hide hn
  have HP := hide hp
  have HM := hide hm
  have HT := hide ht
  obtain ⟨pg, cg, rfl, -⟩ := hg
  obtain ⟨pn, cn, rfl, -⟩ := hn
  obtain ⟨pp, cp, rfl, -⟩ := hp
  obtain ⟨pm, cm, rfl, -⟩ := hm
  clear ht
  have b0 := hide ((Below.refl w.heap.size w).alloc (Nat.le_refl _) (.cells #[.slice pg u.gone.length cg, .slice pn u.nets.length cn, .slice pp u.path.length cp, .slice pm u.marks.length cm, .int .i64 u.pref, .int .i64 u.med] 27))
  go_enter Tryz.func71, Tryz.ntmps71
  go_wp2_with fail
  refine (valid_any u _ _ _ _ _ ((unhide HG).below (unhide b0)) ((unhide HN).below (unhide b0)) ((unhide HP).below (unhide b0)) ((unhide HM).below (unhide b0))).mono ?_
  rintro e w1 ⟨rfl, hb1⟩
  have q1 := (hb1.block w.heap.size (by simp)).trans (heap_alloc_new w _)
  have Q1 := hide q1
  obtain ⟨c0, c1, c2, c3, c4, c5⟩ := six_cells q1
  have b1 := hide ((unhide b0).trans (hb1.mono (unhide b0).size))
  clear hb1 q1 b0
  cases hok : msgOkB u with
  | false =>
    have HF := hide (show ¬ msgOk u from of_decide_eq_false hok)
    clear hok
    go_wp2
    go_ret2
    exact ⟨unhide b1, .slice none 0 0, [], 5, rfl, World.ownsRow_nil _ _ _ _, Or.inr ⟨unhide HF, rfl, rfl⟩⟩
  | true =>
    have HK := hide (show msgOk u from of_decide_eq_true hok)
    clear hok
    have hl20 : u.gone.length + u.nets.length ≤ 20 := by have := (unhide HK).1.1; simp only [List.length_append] at this; omega
    have lg : (netsB u.gone).length ≤ 100 := by
      have h1 := netsB_len (l := u.gone) (fun x hx => (unhide HK).1.2.1 x (by simp [hx]))
      omega
    have la := attsB_len (unhide HK)
    go_wp2_with fail
    refine (putNets_any w1.heap.size [] u.gone (.slice none 0 0) _ w1 (World.ownsRow_nil _ _ _ _) (Nat.le_refl _) ((unhide HG).below (unhide b1)) (((unhide HG).below (unhide b1)).lt.imp id (fun h k hk => ⟨h k hk, fun e => by simp [Value.ownBlock] at e⟩)) (fun y hy => (unhide HK).1.2.1 y (by simp [hy])) (by omega) (by simp)).mono ?_
    rintro e w2 ⟨v2, rfl, g2⟩
    have O2 := hide g2.own
    have B2 := hide g2.be
    rw [List.nil_append] at O2
    have b2 := hide ((unhide b1).trans (g2.be.mono (unhide b1).size))
    have Q2 := hide ((g2.be.block _ (heap_lt (unhide Q1))).trans (unhide Q1))
    clear g2 c0 c1 c2 c3 c4 c5
    go_wp2_with fail
    refine (putCounted_any w2.heap.size [] (netsB u.gone) (.slice none 0 0) _ w2 (World.ownsRow_nil _ _ _ _) (Nat.le_refl _) (ReadsAs.own (unhide O2)) (fun k hk => ⟨((unhide O2).lt k hk).2, fun e => by simp [Value.ownBlock] at e⟩) (by simp) (by omega)).mono ?_
    rintro e w3 ⟨v3, rfl, g3⟩
    have O3 := hide g3.own
    rw [List.nil_append] at O3
    have b3 := hide ((unhide b2).trans (g3.be.mono (unhide b2).size))
    have Q3 := hide ((g3.be.block _ (heap_lt (unhide Q2))).trans (unhide Q2))
    have s23 := g3.be.size
    have hl2 : w.heap.size < w2.heap.size := heap_lt (unhide Q2)
    clear g3 Q1 Q2 B2 O2
    obtain ⟨c0, c1, c2, c3, c4, c5⟩ := six_cells (unhide Q3)
    go_wp2_with fail
    refine (attributesOf_any u _ _ _ _ w3 ((unhide HT).below (unhide b3)) ((unhide HN).below (unhide b3)) ⟨_, _, _, rfl⟩ ((unhide HP).below (unhide b3)) ((unhide HM).below (unhide b3)) ((unhide HP).below (unhide b3)).lt ((unhide HM).below (unhide b3)).lt (unhide HK)).mono ?_
    rintro e w4 ⟨v4, A, rfl, ar⟩
    have AR := hide ar
    have hAL : A.length ≤ 4 := by have := ar.at_.len; have h2 := (attsOf_all (unhide HK)).2; omega
    have b4 := hide ((unhide b3).trans (ar.be.mono (unhide b3).size))
    have s34 := ar.be.size
    clear ar c0 c1 c2 c3 c4 c5
    go_wp2_with fail
    refine (putAttributes_any A (attsOf u) _ w4 (unhide AR).own.row (unhide AR).at_ (by omega) (attsOf_all (unhide HK)).1).mono ?_
    rintro e w5 ⟨v5, rfl, ho5, hb5⟩
    have O5 := hide ho5
    have B35 := hide ((unhide AR).be.trans (hb5.mono (unhide AR).be.size))
    have O35 := hide ((unhide O3).next (unhide B35))
    have b5 := hide ((unhide b4).trans (hb5.mono (unhide b4).size))
    have s45 := hb5.size
    have Q5 := hide (((unhide B35).block _ (heap_lt (unhide Q3))).trans (unhide Q3))
    have HAP := hide (show ∀ k, v5.ownBlock = some k → k < w5.heap.size ∧ some k ≠ v3.ownBlock from fun k hk => ⟨(ho5.lt k hk).2, fun e => by have h1 := (ho5.lt k hk).1; have h2 := ((unhide O3).lt k e.symm).2; omega⟩)
    clear ho5 hb5 AR
    go_wp2_with fail
    refine (putCounted_any w2.heap.size (twoB (netsB u.gone).length ++ netsB u.gone) (attsB (attsOf u)) _ _ w5 (unhide O35) (by omega) (ReadsAs.own (unhide O5)) (unhide HAP) (by simp [twoB]; omega) (by omega)).mono ?_
    rintro e w6 ⟨v6, rfl, g6⟩
    have G6 := hide g6
    have b6 := hide ((unhide b5).trans (g6.be.mono (unhide b2).size))
    have s56 := g6.be.size
    obtain ⟨c0, c1, c2, c3, c4, c5⟩ := six_cells ((g6.be.block _ hl2).trans (unhide Q5))
    have HAN : Hid (u.nets = [] ∨ ∀ k, (Value.slice pn u.nets.length cn).ownBlock = some k → k < w6.heap.size ∧ some k ≠ v6.ownBlock) := (unhide HN).lt.imp id (fun h k hk => ⟨by have := h k hk; omega, fun e => by have h1 := h k hk; have h2 := (g6.own.lt k e.symm).1; omega⟩)
    clear g6 Q5
    have hl6 : (twoB (netsB u.gone).length ++ netsB u.gone ++ (twoB (attsB (attsOf u)).length ++ attsB (attsOf u))).length ≤ 1000 := by simp [twoB]; omega
    have HEQ := hide (show encP u = (twoB (netsB u.gone).length ++ netsB u.gone ++ (twoB (attsB (attsOf u)).length ++ attsB (attsOf u))) ++ netsB u.nets from by unfold encP; simp only [List.append_assoc])
    revert G6 hl6 HEQ
    generalize twoB (netsB u.gone).length ++ netsB u.gone ++ (twoB (attsB (attsOf u)).length ++ attsB (attsOf u)) = M
    intro G6 hl6 HEQ
    go_wp2_with fail
    refine (putNets_any w2.heap.size M u.nets _ _ w6 (unhide G6).own (by omega) ((unhide HN).below (unhide b6)) (unhide HAN) (fun y hy => (unhide HK).1.2.1 y (by simp [hy])) (by omega) hl6).mono ?_
    rintro e w7 ⟨v7, rfl, g7⟩
    have G7 := hide g7
    have b7 := hide ((unhide b6).trans (g7.be.mono (unhide b2).size))
    clear g7 c0 c1 c2 c3 c4 c5
    go_wp2
    go_ret2
    exact ⟨unhide b7, v7, _, 0, rfl, OwnB.base (unhide G7).own (unhide b2).size, Or.inl ⟨unhide HK, (unhide HEQ).symm, rfl⟩⟩

set_option maxHeartbeats 800000 in
theorem Encode_said (w0 : World) (ht : TabAt w0) : EncSaid w0 26 := by
  intro w vg vn vp vm u hb hg hn hp hm _ _
  have HG := hide hg
  have HN := hide hn
  have HP := hide hp
  have HM := hide hm
  have HT := hide (ht.below hb)
  obtain ⟨pg, cg, rfl, -⟩ := hg
  obtain ⟨pn, cn, rfl, -⟩ := hn
  obtain ⟨pp, cp, rfl, -⟩ := hp
  obtain ⟨pm, cm, rfl, -⟩ := hm
  clear ht hb
  have b0 := hide ((Below.refl w.heap.size w).alloc (Nat.le_refl _) (.cells #[.slice pg u.gone.length cg, .slice pn u.nets.length cn, .slice pp u.path.length cp, .slice pm u.marks.length cm, .int .i64 u.pref, .int .i64 u.med] 27))
  go_enter Tryz.func26, Tryz.ntmps26
  go_wp2_with fail
  refine (encode_any u _ _ _ _ _ ((unhide HT).below (unhide b0)) ((unhide HG).below (unhide b0)) ((unhide HN).below (unhide b0)) ((unhide HP).below (unhide b0)) ((unhide HM).below (unhide b0))).mono ?_
  rintro e w1 ⟨hb1, v, l, k, rfl, ho, hor⟩
  have B1 := hide ((unhide b0).trans (hb1.mono (unhide b0).size))
  have O1 := hide (OwnB.base ho (unhide b0).size)
  have HOR := hide hor
  clear hb1 ho hor
  go_wp2
  go_ret2
  exact ⟨unhide B1, v, l, k, rfl, unhide O1, unhide HOR⟩
end Go.Proofs.YtgngdklkoilaiaaGreatDoor
