/- The reference's numbers. -/
import Derived.Test.YtgdeeodifnegiaaGreatDoorRefZe
namespace Go.Proofs.YtgdeeodifnegiaaGreatDoor.rf
open Go.RowKit

theorem dfs_some {body : Tr} {ds : List Df} {i : Nat} {x : Int} (h : i < ds.length) (e : dfBad ds[i] = some x) : dfsBad body (ds.drop i) = x := by rw [List.drop_eq_getElem_cons h, dfsBad, e]
theorem dfs_none {body : Tr} {ds : List Df} {i : Nat} (h : i < ds.length) (e : dfBad ds[i] = none) : dfsBad body (ds.drop i) = dfsBad body (ds.drop (i + 1)) := by rw [List.drop_eq_getElem_cons h, dfsBad, e]
theorem rgs_some {l : List Rg} {i : Nat} {x : Int} (h : i < l.length) (e : rgBad l[i] = some x) : rgsBad (l.drop i) = some x := by rw [List.drop_eq_getElem_cons h, rgsBad, e]
theorem rgs_none {l : List Rg} {i : Nat} (h : i < l.length) (e : rgBad l[i] = none) : rgsBad (l.drop i) = rgsBad (l.drop (i + 1)) := by rw [List.drop_eq_getElem_cons h, rgsBad, e]
theorem rgCells_get : ∀ (l : List Rg) (i : Nat) (h : i < l.length), (rgCells l)[i * 6]? = some (.int .i64 l[i].addr) ∧ (rgCells l)[i * 6 + 1]? = some (.int .i64 l[i].len) ∧ (rgCells l)[i * 6 + 2]? = some (.int .i64 l[i].lo) ∧ (rgCells l)[i * 6 + 3]? = some (.int .i64 l[i].hi) ∧ (rgCells l)[i * 6 + 4]? = some (.int .i64 l[i].loAt) ∧ (rgCells l)[i * 6 + 5]? = some (.int .i64 l[i].hiAt)
  | [], i, h => absurd h (by simp)
  | r :: rs, i, h => by
    cases i with
    | zero => simp [rgCells]
    | succ i =>
      have ih := rgCells_get rs i (by simpa using h)
      have e : ∀ j, (rgCells (r :: rs))[(i + 1) * 6 + j]? = (rgCells rs)[i * 6 + j]? := fun j => by
        rw [show (i + 1) * 6 + j = i * 6 + j + 6 by omega]
        simp [rgCells]
      have e0 := e 0
      simp only [Nat.add_zero] at e0
      rw [e0, e 1, e 2, e 3, e 4, e 5]
      exact ih

/-- the definitions of the policy in block pb -/
structure DefsAll (w : World) (pb : Nat) (Q : Nat → Prop) (ds : List Df) : Prop where
  big : ds.length ≤ 9223372036854775807
  val : ∃ o cap, w.cell? ⟨pb, 0, none⟩ = some (.slice o ds.length cap) ∧ ∀ i, (h : i < ds.length) → ∃ g ro rc rl op text n a ko kc kl, o = some ⟨g, 0, none⟩ ∧ w.cell? ⟨g, i * 10 + 3, none⟩ = some (.bool ds[i].isWay) ∧ w.cell? ⟨g, i * 10 + 4, none⟩ = some (.slice ro rc rl)
    ∧ w.cell? ⟨g, i * 10 + 5, none⟩ = some (.string op) ∧ w.cell? ⟨g, i * 10 + 6, none⟩ = some (.string text) ∧ w.cell? ⟨g, i * 10 + 7, none⟩ = some (.int .i64 n) ∧ w.cell? ⟨g, i * 10 + 8, none⟩ = some (.int .i64 a) ∧ w.cell? ⟨g, i * 10 + 9, none⟩ = some (.slice ko kc kl)
    ∧ w.ownsRow 0 233 6 (.slice ro rc rl) ds[i].ranges.length (rgCells ds[i].ranges) ∧ TrAt w Q ds[i].way (treeV op text n a (.slice ko kc kl))

set_option maxRecDepth 100000 in
set_option maxHeartbeats 12800000 in
theorem numbers_any {w : World} {pb : Nat} {ds : List Df} {Q : Nat → Prop} {body : Tr} {op text : ByteArray} {n a : Int} {o : Option Addr} {c l : Nat} (h : DefsAll w pb Q ds) (hwf : WfTr body) (hb : TrAt w Q body (treeV op text n a (.slice o c l)))
    (b1 : w.cell? ⟨pb, 1, none⟩ = some (.string op)) (b2 : w.cell? ⟨pb, 2, none⟩ = some (.string text)) (b3 : w.cell? ⟨pb, 3, none⟩ = some (.int .i64 n)) (b4 : w.cell? ⟨pb, 4, none⟩ = some (.int .i64 a)) (b5 : w.cell? ⟨pb, 5, none⟩ = some (.slice o c l)) :
    Calls Tryz.prog 72 #[ptr pb] w fun e w' => e = .returned (.int .i64 (numbersP ds body)) ∧ Below w.heap.size w w' := by
  have HWF := hide hwf
  have HB := hide hb
  have CB := hide (And.intro b1 (And.intro b2 (And.intro b3 (And.intro b4 b5))))
  obtain ⟨hbig, oo, cap, c0, hd⟩ := h
  have HD := hide hd
  have C0 := hide c0
  clear hd hb hwf b1 b2 b3 b4 b5 c0
  go_enter Tryz.func72, Tryz.ntmps72
  go_wp2_with fail
  go_loopg [3] ds.length (fun k i3 wr => ∃ i : Nat, i + k = ds.length ∧ i3 = .int .i64 i ∧ Below w.heap.size w wr ∧ dfsBad body (ds.drop i) = numbersP ds body)
  case atStart => exact ⟨0, by omega, rfl, Below.refl _ _, rfl⟩
  case round =>
    rename World => WR
    obtain ⟨i, hik, rfl, hbl, hdu⟩ := hrel
    have HDU := hide hdu
    have HBL := hide hbl
    have c0 := cell_later hbl (unhide C0)
    by_cases hi : i < ds.length
    · obtain ⟨g, ro, rc, rl, wo, wt, wn, wa, ko, kc, kl, rfl, d3, d4, d5, d6, d7, d8, d9, hrow, htr⟩ := unhide HD i hi
      have D4 := hide d4
      have HROW := hide hrow
      have HTR := hide (show TrAt WR Q ds[i].way (treeV wo wt wn wa (.slice ko kc kl)) from TrAt.keep (fun k hk _ => hbl.block k hk) (fun _ _ h => h) _ _ htr)
      cases hw : ds[i].isWay with
      | true =>
        have e3 : WR.cell? ⟨g, i * 10 + 3, none⟩ = some (.bool true) := by rw [← hw]; exact cell_later hbl d3
        have e5 := cell_later hbl d5
        have e6 := cell_later hbl d6
        have e7 := cell_later hbl d7
        have e8 := cell_later hbl d8
        have e9 := cell_later hbl d9
        have DB := hide (show dfBad ds[i] = if 0 ≤ wayNum ds[i].way then some (wayNum ds[i].way) else none from by unfold dfBad; rw [if_pos hw])
        have A1 := hide (wayNumber_any _ _ WR Q _ (Nat.le_refl _) (unhide HTR))
        clear d3 d4 d5 d6 d7 d8 d9 hrow htr hbl hdu hw
        go_wp2_with fail
        refine (unhide A1).mono ?_
        rintro e w5 ⟨rfl, hb5⟩
        have HB5 := hide ((unhide HBL).trans (hb5.mono (unhide HBL).size))
        clear hb5 A1 HTR e3 e5 e6 e7 e8 e9 c0
        by_cases h0 : 0 ≤ wayNum ds[i].way
        · have FIN := hide (show wayNum ds[i].way = numbersP ds body from by rw [← unhide HDU, dfs_some hi (by rw [unhide DB, if_pos h0])])
          generalize wayNum ds[i].way = q at *
          go_wp2_with fail
          go_ret
          exact ⟨ret_int (unhide FIN), unhide HB5⟩
        · have FIN := hide (show dfsBad body (ds.drop (i + 1)) = numbersP ds body from by rw [← unhide HDU, dfs_none hi (by rw [unhide DB, if_neg h0])])
          generalize wayNum ds[i].way = q at *
          go_wp2_with fail
          go_roundg (ds.length - (i + 1))
          case measure => omega
          case rel => exact ⟨i + 1, by omega, by go_num, unhide HB5, unhide FIN⟩
      | false =>
        have e3 : WR.cell? ⟨g, i * 10 + 3, none⟩ = some (.bool false) := by rw [← hw]; exact cell_later hbl d3
        have DB := hide (show dfBad ds[i] = rgsBad ds[i].ranges from by unfold dfBad; rw [if_neg (by rw [hw]; simp)])
        obtain rfl : rc = ds[i].ranges.length := by
          rcases hrow.2 with ⟨e, h0⟩ | ⟨g2, cp, cur, e, _⟩
          · cases e; omega
          · cases e; rfl
        have hbig2 : ds[i].ranges.length ≤ 9223372036854775807 := by
          rcases hrow.2 with ⟨_, h0⟩ | ⟨g2, cp, cur, _, _, _, h1, h2, _⟩
          · omega
          · have := h2; unfold maxLen at this; omega
        clear d3 d4 d5 d6 d7 d8 d9 hrow htr hbl hdu hw HTR
        go_wp2_with fail
        go_loopg [5] ds[i].ranges.length (fun k i5 wx => ∃ j : Nat, j + k = ds[i].ranges.length ∧ i5 = .int .i64 j ∧ Below w.heap.size w wx ∧ rgsBad (ds[i].ranges.drop j) = rgsBad ds[i].ranges)
        case atStart => exact ⟨0, by omega, rfl, unhide HBL, rfl⟩
        case round =>
          rename World => WX
          obtain ⟨j, hjk, rfl, hbx, hrg⟩ := hrel
          have HRG := hide hrg
          have HBX := hide hbx
          have c0 := cell_later hbx (unhide C0)
          have e4 := cell_later hbx (unhide D4)
          by_cases hj : j < ds[i].ranges.length
          · obtain ⟨g2, hro⟩ : ∃ g2, ro = some ⟨g2, 0, none⟩ := by
              rcases (unhide HROW).2 with ⟨_, h0⟩ | ⟨g2, cp, cur, e, _⟩
              · omega
              · cases e; exact ⟨g2, rfl⟩
            subst hro
            have hcell : ∀ q y, q < ds[i].ranges.length * 6 → (rgCells ds[i].ranges)[q]? = some y → WX.cell? ⟨g2, q, none⟩ = some y := fun q y hq hy => by
              rw [hbx.cell (p := ⟨g2, q, none⟩) ((unhide HROW).lt g2 rfl).2, (unhide HROW).cellAt q hq]; exact hy
            obtain ⟨x0, x1, x2, x3, x4, x5⟩ := rgCells_get ds[i].ranges j hj
            have k0 := hcell _ _ (by omega) x0
            have k1 := hcell _ _ (by omega) x1
            have k2 := hcell _ _ (by omega) x2
            have k3 := hcell _ _ (by omega) x3
            have k4 := hcell _ _ (by omega) x4
            have k5 := hcell _ _ (by omega) x5
            have SOME := hide (fun x e => (rgs_some (x := x) hj e))
            have NONE := hide (fun e => (rgs_none hj e))
            have RB : Hid (rgBad ds[i].ranges[j] = if ds[i].ranges[j].lo < ds[i].ranges[j].len ∨ 32 < ds[i].ranges[j].lo then some ds[i].ranges[j].loAt else if ds[i].ranges[j].hi < ds[i].ranges[j].lo ∨ 32 < ds[i].ranges[j].hi then some ds[i].ranges[j].hiAt else none) := rfl
            have YES := hide (show ∀ x, rgBad ds[i].ranges[j] = some x → x = numbersP ds body from fun x e => by rw [← unhide HDU, dfs_some hi (by rw [unhide DB, ← unhide HRG, unhide SOME x e])])
            have NO := hide (show rgBad ds[i].ranges[j] = none → rgsBad (ds[i].ranges.drop (j + 1)) = rgsBad ds[i].ranges from fun e => by rw [← unhide HRG, unhide NONE e])
            have hsx := hbx.size
            clear hcell x0 x1 x2 x3 x4 x5 SOME NONE hbx hrg
            generalize rgBad ds[i].ranges[j] = rb at *
            generalize ds[i].ranges[j].addr = ra at *
            generalize ds[i].ranges[j].len = rle at *
            generalize ds[i].ranges[j].lo = rlo at *
            generalize ds[i].ranges[j].hi = rhi at *
            generalize ds[i].ranges[j].loAt = rla at *
            generalize ds[i].ranges[j].hiAt = rha at *
            by_cases t1 : rlo < rle ∨ 32 < rlo
            · have FIN := hide (unhide YES rla ((unhide RB).trans (if_pos t1)))
              have t2 : rlo < rle ∨ (rle ≤ rlo ∧ 32 < rlo) := by omega
              clear t1 YES NO RB
              rcases t2 with t2 | ⟨t2, t3⟩
              all_goals
                go_wp2_with fail
                go_ret
                exact ⟨ret_int (unhide FIN), (unhide HBX).alloc hsx _⟩
            · have RB2 := hide ((unhide RB).trans (if_neg t1))
              have t2 : rle ≤ rlo := by omega
              have t3 : rlo ≤ 32 := by omega
              clear t1 RB
              by_cases t4 : rhi < rlo ∨ 32 < rhi
              · have FIN := hide (unhide YES rha ((unhide RB2).trans (if_pos t4)))
                have t5 : rhi < rlo ∨ (rlo ≤ rhi ∧ 32 < rhi) := by omega
                clear t4 YES NO RB2
                rcases t5 with t5 | ⟨t5, t6⟩
                all_goals
                  go_wp2_with fail
                  go_ret
                  exact ⟨ret_int (unhide FIN), (unhide HBX).alloc hsx _⟩
              · have FIN := hide (unhide NO ((unhide RB2).trans (if_neg t4)))
                have t5 : rlo ≤ rhi := by omega
                have t6 : rhi ≤ 32 := by omega
                clear t4 YES NO RB2
                go_wp2_with fail
                go_roundg (ds[i].ranges.length - (j + 1))
                case measure => omega
                case rel => exact ⟨j + 1, by omega, by go_num, (unhide HBX).alloc hsx _, unhide FIN⟩
          · have FIN := hide (show dfsBad body (ds.drop (i + 1)) = numbersP ds body from by rw [← unhide HDU, dfs_none hi (by rw [unhide DB, ← unhide HRG, List.drop_eq_nil_of_le (by omega), rgsBad])])
            clear hbx hrg
            go_wp2_with fail
            go_roundg (ds.length - (i + 1))
            case measure => omega
            case rel => exact ⟨i + 1, by omega, by go_num, unhide HBX, unhide FIN⟩
    · obtain rfl : i = ds.length := by omega
      have FIN := hide (show badNum body = numbersP ds body from by rw [← unhide HDU, List.drop_eq_nil_of_le (Nat.le_refl _), dfsBad])
      have b1 := cell_later hbl (unhide CB).1
      have b2 := cell_later hbl (unhide CB).2.1
      have b3 := cell_later hbl (unhide CB).2.2.1
      have b4 := cell_later hbl (unhide CB).2.2.2.1
      have b5 := cell_later hbl (unhide CB).2.2.2.2
      have HBN : TrAt WR Q body (treeV op text n a (.slice o c l)) := TrAt.keep (w := w) (w' := WR) (fun k hk _ => hbl.block k hk) (fun _ _ h => h) _ _ (unhide HB)
      have A1 := hide (badNumber_any _ body WR Q _ (Nat.le_refl _) (unhide HWF) HBN)
      clear HBN hbl hdu
      go_wp2_with fail
      refine (unhide A1).mono ?_
      rintro e w9 ⟨rfl, hb9⟩
      go_wp2_with fail
      go_ret
      exact ⟨ret_int (unhide FIN), (unhide HBL).trans (hb9.mono (unhide HBL).size)⟩
end Go.Proofs.YtgdeeodifnegiaaGreatDoor.rf
