/- A policy of the document is run: 'path like' (run.go: cond). -/
import Derived.Test.YtgdeeodifnegiaaGreatDoorRnX
namespace Go.Proofs.YtgdeeodifnegiaaGreatDoor.rf
open Go.RowKit

set_option maxRecDepth 100000 in
set_option maxHeartbeats 51200000 in
theorem cnd_like {ds : List Df} {Ds : List DefP} (hDs : DefsT ds Ds) (ks : List Tr) (tk : List Tok) (ln : List Bool) (t : ByteArray) (a : Int) {W : WayM} (hS : findWay Ds t = some W) : CndR (PolW ds ks tk ln) (.mk wLike t 0 a []) (likeM W) := by
  intro w Q v sb pb R pv mv hQ hp ht hR hs
  obtain ⟨j, hj, hf, hway⟩ := find_way hDs hS 0
  rw [Nat.zero_add] at hf
  obtain ⟨op, hop⟩ : ∃ op, wLike = op := ⟨_, rfl⟩
  have e0 : (op.toList == [105, 110]) = false := by rw [← hop]; decide +kernel
  have e1 : (op.toList == [108, 105, 107, 101]) = true := by rw [← hop]; decide +kernel
  rw [hop] at ht
  rw [TrAt] at ht
  obtain ⟨kv, xs, rfl, _, _, _⟩ := ht
  have hA : Below w.heap.size w (w.alloc (.cells (treeCells op t 0 a kv) 115)) := (Below.refl _ _).alloc (Nat.le_refl _) _
  have q0 : (w.alloc (.cells (treeCells op t 0 a kv) 115)).heap[w.heap.size]? = some (.cells (treeCells op t 0 a kv) 115 (0, 0)) := heap_alloc_new _ _
  have hs1 := hs.below hA
  have hp1 := PolW.fr sb pb _ _ hp (fr_sb hA)
  obtain ⟨WA, hWA⟩ : ∃ WA, w.alloc (.cells (treeCells op t 0 a kv) 115) = WA := ⟨_, rfl⟩
  have HWA := hide hWA
  rw [hWA] at q0 hs1 hA hp1
  have HF := hide hA
  obtain ⟨g, cap, ro, rc, wo, wt, wn, wa, ko, kc, kl, fd⟩ := hp1.found hj
  obtain ⟨d, hd⟩ : ∃ d, ds[j] = d := ⟨_, rfl⟩
  rw [hd] at fd hway
  have k0 : WA.cell? ⟨w.heap.size, 0, none⟩ = some (.string op) := cell_of_heap q0
  have k1 : WA.cell? ⟨w.heap.size, 1, none⟩ = some (.string t) := cell_of_heap q0
  have s0 : WA.cell? ⟨sb, 0, none⟩ = some (ptr pb) := cell_of_heap hs1.blk
  have lsb : sb < WA.heap.size := heap_lt hs1.blk
  have lA : w.heap.size < WA.heap.size := heap_lt q0
  have FA := hide (show ∀ V, Below WA.heap.size WA V → Calls Tryz.prog 178 #[ptr pb, .string t, .bool true] V fun e w' => e = .returned (.int .i64 (j : Int)) ∧ w' = V from fun V hV => by rw [← hf]; exact find_any (fd.defs.later hV) t true)
  have c0 := fd.pb_
  have lp := fd.lp
  have lg := fd.lg
  obtain ⟨d0, d1, d2, d3⟩ := fd.nm
  have d4 := fd.rg
  obtain ⟨d5, d6, d7, d8, d9⟩ := fd.tr
  have big := fd.big
  have FD := hide fd
  obtain ⟨po, pc, rfl⟩ := owns_sl hs1.own1
  have hpl := hR.path
  have HS1 := hide hs1
  have HR := hide hR
  have HN := hide (ends_run hway)
  have dl : j < ds.length := hj
  obtain ⟨N, hN⟩ : ∃ N, ds.length = N := ⟨_, rfl⟩
  rw [hN] at c0 big dl
  clear fd hs hs1 hA hop hp hp1 hWA hQ hf hd hS hDs hway hR q0 hj
  go_enter Tryz.func153, Tryz.ntmps153
  go_upto_region 1 with fail
  rw [unhide HWA]
  go_upto_region 12 with fail
  go_cut [9] (fun v9 wc => v9 = .pointer (some ⟨WA.heap.size, 0, none⟩) ∧ Below WA.heap.size WA wc ∧ wc.heap[WA.heap.size]? = some (.cells (defCells d.name d.isWay (.slice ro d.ranges.length rc) wo wt wn wa (.slice ko kc kl)) 145 (0, 0)))
  case first =>
    go_region_with (go_at_call 178; refine (unhide FA _ (by first | exact (Below.refl _ _).drew | exact ((Below.refl _ _).alloc (Nat.le_refl _) _).drew)).mono ?_; rintro e w' ⟨rfl, rfl⟩)
    all_goals
      go_wp2_with fail
      go_meet
      case rel => exact ⟨rfl, ((Below.refl _ _).alloc (Nat.le_refl _) _).drew, heap_alloc_new WA _⟩
  case rest =>
    as_aux_lemma =>
      obtain ⟨rfl, hbc, hcb⟩ := hcut
      have hs2 := (unhide HS1).below hbc
      obtain ⟨Q', htr⟩ := (unhide FD).way
      have BC := hide ((unhide HF).trans (hbc.mono (unhide HF).size))
      have z5 : wc.cell? ⟨WA.heap.size, 5, none⟩ = some (.string wo) := cell_of_heap hcb
      have z6 : wc.cell? ⟨WA.heap.size, 6, none⟩ = some (.string wt) := cell_of_heap hcb
      have z7 : wc.cell? ⟨WA.heap.size, 7, none⟩ = some (.int .i64 wn) := cell_of_heap hcb
      have z8 : wc.cell? ⟨WA.heap.size, 8, none⟩ = some (.int .i64 wa) := cell_of_heap hcb
      have z9 : wc.cell? ⟨WA.heap.size, 9, none⟩ = some (.slice ko kc kl) := cell_of_heap hcb
      have s3 : wc.cell? ⟨sb, 3, none⟩ = some (.slice po R.path.length pc) := cell_of_heap hs2.blk
      have lc : WA.heap.size < wc.heap.size := heap_lt hcb
      have ls2 : sb < wc.heap.size := heap_lt hs2.blk
      have EN := hide (fun (V : World) (hV : Below wc.heap.size wc V) => unhide HN V Q' _ R.path _ (TrAt.keep (fun k hk _ => (hV.block k (Nat.lt_of_lt_of_le hk hbc.size)).trans (hbc.block k hk)) (fun _ _ h => h) _ _ htr) (owns_of hs2.own1 (fun k hk => hV.block k (hs2.own1.lt k hk).2)) (by omega))
      have HS2 := hide hs2
      clear hs2 hbc hcb htr c0 d0 d1 d2 d3 d4 d5 d6 d7 d8 d9 FA HS1 FD HN k0 k1 s0
      go_upto_region 13 with fail
      go_cut [10] (fun v10 wx => ∃ bs M, Below wc.heap.size wc wx ∧ bs.length = R.path.length + 1 ∧ Grid wx wc.heap.size (R.path.length + 1) v10 bs M ∧ Like R.path W M)
      case first =>
        go_region_with (go_at_call 195; refine (unhide EN _ (by exact (Below.refl _ _).drew)).mono ?_; rintro e w' ⟨z, bs, M, rfl, hb', hbl, hgr, hlk⟩)
        all_goals
          go_wp2_with fail
          go_meet
          case rel => exact ⟨bs, M, (Below.refl wc.heap.size wc).drew.trans hb', hbl, hgr, hlk⟩
      case rest =>
        obtain ⟨bs, M, hb, hbl, hgr, hlk⟩ := hcut
        rename World => WX
        obtain ⟨gg, gc, hv, lgg, cg, lbs, _, cM⟩ := hgr.get (i := 0) (by omega)
        subst hv
        have cl := cM R.path.length (by omega)
        have s3' := cell_later hb s3
        have ls3 : sb < WX.heap.size := Nat.lt_of_lt_of_le ls2 hb.size
        have FIN := hide (show likeM W R = some (M 0 R.path.length) from by
          have := hlk 0 R.path.length (by omega) (by omega)
          rw [List.take_length, List.drop_zero] at this
          unfold likeM
          congr 1
          by_cases hw : W R.path
          · rw [this.2 ⟨by omega, hw⟩]
            exact @decide_eq_true _ (Classical.propDecidable _) hw
          · cases hM : M 0 R.path.length with
            | false => exact @decide_eq_false _ (Classical.propDecidable _) hw
            | true => exact absurd (this.1 hM).2 hw)
        have HB := hide hb
        rw [hbl]
        generalize M 0 R.path.length = x at *
        generalize bs[0] = b0 at *
        clear cM hgr hlk hb hbl EN z5 z6 z7 z8 z9 s3
        go_upto_region 14 with fail
        go_region
        all_goals
          go_wp2_with fail
          go_ret
          exact ⟨x, 0, rfl, ((unhide HS2).below (unhide HB)).below (Below.refl _ _).drew, fr_sb (((unhide BC).trans ((unhide HB).mono (unhide BC).size)).drew), Or.inl ⟨unhide FIN, rfl⟩⟩
end Go.Proofs.YtgdeeodifnegiaaGreatDoor.rf
