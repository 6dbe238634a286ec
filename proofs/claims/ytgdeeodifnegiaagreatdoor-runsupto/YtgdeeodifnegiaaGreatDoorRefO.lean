/- The reference's row, out of one's contract. -/
import Derived.Test.YtgdeeodifnegiaaGreatDoorRefN
namespace Go.Proofs.YtgdeeodifnegiaaGreatDoor.rf
open Go.RowKit

set_option maxRecDepth 100000 in
set_option maxHeartbeats 8000000 in
theorem row_any (pb : Nat) (s : ByteArray) (f : Nat) (hf0 : f ≤ 1000000) (IH : ∀ g, g ≤ f → OneC pb s g) : RowC pb s (f + 1) := by
  intro w st O r h hk hr
  rw [rowTw] at hr
  obtain ⟨i0, hi0, hz0, hz1, hz2⟩ := info_parts Tryz.infoTree
  have lp : pb < w.heap.size := h.lt h.own
  have N0 := hide (show ¬ O w.heap.size from fun hk => by have := h.lt hk; omega)
  have N1 := hide (show ¬ O (w.heap.size + 1) from fun hk => by have := h.lt hk; omega)
  have HP0 := hide ((h.alloc (.cells treeZ 115)).alloc (.cells (treeCells wRow ⟨#[]⟩ 0 0 (.slice none 0 0)) 115))
  have HF0 := hide (((Fr.refl O w).alloc (.cells treeZ 115)).alloc (.cells (treeCells wRow ⟨#[]⟩ 0 0 (.slice none 0 0)) 115))
  have K := hide hk
  have HL := hide hr
  have HIH := hide IH
  clear h hk hr IH
  go_enter Tryz.func173, Tryz.ntmps173
  go_wp2_with fail
  go_loopg [4] f (fun k b4 wr => ∃ (su : PS) (kids : List Tr) (kv : Value) (xs : List Value) (O1 : Nat → Prop), kids.length + k ≤ f ∧ PA wr pb s su O1 ∧ Ok s su ∧ Fr O w O1 wr ∧ wr.heap[w.heap.size]? = some (.cells treeZ 115 (0, 0)) ∧ wr.heap[w.heap.size + 1]? = some (.cells (treeCells wRow ⟨#[]⟩ 0 0 kv) 115 (0, 0)) ∧ ¬ O1 w.heap.size ∧ ¬ O1 (w.heap.size + 1) ∧ TrOpen wr (fun k => O1 k ∨ k ≤ w.heap.size ∨ k = w.heap.size + 1) kids kv xs ∧ ((b4 = .bool true ∧ rowLp s k su kids = some r) ∨ (b4 = .bool false ∧ r = (su, .mk wRow ⟨#[]⟩ 0 0 kids))))
  case atStart => exact ⟨st, [], _, [], O, by simp, unhide HP0, unhide K, unhide HF0, (two_alloc w _ _ _ _).1, (two_alloc w _ _ _ _).2, unhide N0, unhide N1, TrOpen.nil _ _, Or.inl ⟨rfl, unhide HL⟩⟩
  case round =>
    clear HP0 HF0 K HL N0 N1
    rename World => WR
    obtain ⟨su, kids, kv, xs, O1, hkl, hp, hk, hf, q0, q1, n0, n1, htu, hst⟩ := hrel
    rcases hst with ⟨rfl, hl⟩ | ⟨rfl, hre⟩
    · obtain ⟨g, rfl⟩ := rowLp_pos hl
      obtain ⟨s1, x1, s2, x2, hone, hsuf, hnx⟩ := rowLp_more hl
      have HP := hide hp
      have HK := hide hk
      have HF := hide hf
      have Q0 := hide q0
      have Q1 := hide q1
      have NA := hide n0
      have NB := hide n1
      have TU := hide htu
      have HONE := hide hone
      have HSUF := hide hsuf
      have HNX := hide hnx
      have hzB' : w.heap.size + 1 < WR.heap.size := heap_lt q1
      clear hp hk hf q0 q1 n0 n1 htu hl hone hsuf hnx
      go_wp2_with fail
      refine (unhide HIH g (by omega) _ _ _ _ (unhide HP) (unhide HK) (unhide HONE)).mono ?_
      rintro e w2 ⟨v, O2, rfl, hp2, hf2, ht2, hk2⟩
      obtain ⟨zop, ztext, zn, za, zo, zc, zl, rfl⟩ := ht2.form
      have hX : WR.heap.size ≤ w2.heap.size := hf2.size
      have START := hide (show PA (w2.alloc (.cells (treeCells zop ztext zn za (.slice zo zc zl)) 115)) pb s s1 O2 ∧ Ok s s1 ∧ Fr O1 WR O2 (w2.alloc (.cells (treeCells zop ztext zn za (.slice zo zc zl)) 115)) ∧ (w2.alloc (.cells (treeCells zop ztext zn za (.slice zo zc zl)) 115)).heap[w2.heap.size]? = some (.cells (treeCells zop ztext zn za (.slice zo zc zl)) 115 (0, 0)) ∧ ¬ O2 w2.heap.size ∧ TrAt (w2.alloc (.cells (treeCells zop ztext zn za (.slice zo zc zl)) 115)) (fun k => O2 k ∨ k < WR.heap.size ∨ k = w2.heap.size) x1 (treeV zop ztext zn za (.slice zo zc zl)) from
        ⟨hp2.alloc _, hk2, hf2.alloc _, heap_alloc_new _ _, fun h => by (have := hp2.lt h; omega), TrAt.step ((Fr.refl O2 w2).alloc _) (fun k hk => Or.inl hk) (fun k hk => by
          rcases hk with h | h | h
          · exact Or.inl (Or.inl h)
          · exact Or.inl (Or.inr h)
          · exact Or.inr (by omega)) _ _ ht2⟩)
      clear hp2 hf2 ht2 hk2
      go_wp2_with fail
      go_loopg [6] g (fun k2 b6 wx => ∃ (sx : PS) (x : Tr) (Ox : Nat → Prop) (xop xtext : ByteArray) (xn xa : Int) (xo : Option Addr) (xc xl : Nat), PA wx pb s sx Ox ∧ Ok s sx ∧ Fr O1 WR Ox wx ∧ wx.heap[w2.heap.size]? = some (.cells (treeCells xop xtext xn xa (.slice xo xc xl)) 115 (0, 0)) ∧ ¬ Ox w2.heap.size ∧ TrAt wx (fun k => Ox k ∨ k < WR.heap.size ∨ k = w2.heap.size) x (treeV xop xtext xn xa (.slice xo xc xl)) ∧ ((b6 = .bool true ∧ sufLp s k2 sx x = some (s2, x2)) ∨ (b6 = .bool false ∧ sx = s2 ∧ x = x2)))
      case atStart =>
        obtain ⟨a1, a2, a3, a4, a5, a6⟩ := unhide START
        exact ⟨s1, x1, O2, zop, ztext, zn, za, zo, zc, zl, a1, a2, a3, a4, a5, a6, Or.inl ⟨rfl, unhide HSUF⟩⟩
      case round =>
        clear START HSUF
        rename World => wx
        obtain ⟨sx, x, Ox, xop, xtext, xn, xa, xo, xc, xl, b1, b2, b3, b4', b5, b6, hsq⟩ := hrel
        rcases hsq with ⟨rfl, hsl⟩ | ⟨rfl, rfl, rfl⟩
        · obtain ⟨g2, rfl⟩ := sufLp_pos hsl
          have HSL := hide (sufLp_more hsl)
          have HY := hide b1
          have KY := hide b2
          have FY := hide b3
          have QY := hide b4'
          have NY := hide b5
          have TY := hide b6
          clear b1 b2 b3 b4' b5 b6 hsl
          go_wp2_with fail
          go_loopg [6, 7] 3 (fun k3 b6 i7 wz => ∃ (i : Nat) (sy : PS) (y : Tr) (ag : Bool) (Oy : Nat → Prop) (yop ytext : ByteArray) (yn ya : Int) (yo : Option Addr) (yc yl : Nat), i + k3 = 3 ∧ i7 = .int .i64 i ∧ sufTo s sx x i = (sy, y, ag) ∧ b6 = .bool ag ∧ PA wz pb s sy Oy ∧ Ok s sy ∧ Fr O1 WR Oy wz ∧ wz.heap[w2.heap.size]? = some (.cells (treeCells yop ytext yn ya (.slice yo yc yl)) 115 (0, 0)) ∧ ¬ Oy w2.heap.size ∧ TrAt wz (fun k => Oy k ∨ k < WR.heap.size ∨ k = w2.heap.size) y (treeV yop ytext yn ya (.slice yo yc yl)))
          case atStart => exact ⟨0, sx, x, false, Ox, xop, xtext, xn, xa, xo, xc, xl, by omega, rfl, rfl, rfl, unhide HY, unhide KY, unhide FY, unhide QY, unhide NY, unhide TY⟩
          case round =>
            clear HY KY FY QY NY TY
            rename World => wy
            obtain ⟨i, sy, y, ag, Oy, yop, ytext, yn, ya, yo, yc, yl, hik, rfl, hE, rfl, d1, d2, d3, d4, d5, d6⟩ := hrel
            have HY := hide d1
            have KY := hide d2
            have FY := hide d3
            have QY := hide d4
            have NY := hide d5
            have TY := hide d6
            have HE := hide hE
            clear d1 d2 d3 d4 d5 d6 hE
            rcases i with _ | _ | _ | i
            · -- the sign number 0
              cases hw : isP sy wStar with
              | true =>
                have A1 := hide (show Calls Tryz.prog 67 #[ptr pb, .string wStar] (wy.alloc (.cells #[.string ⟨#[42]⟩, .string ⟨#[43]⟩, .string ⟨#[63]⟩] 9)) (fun e w' => e = .returned (.bool true) ∧ w' = (wy.alloc (.cells #[.string ⟨#[42]⟩, .string ⟨#[43]⟩, .string ⟨#[63]⟩] 9))) from by rw [← hw]; exact ((unhide HY).alloc _).is _)
                have STP := hide (show sufTo s sx x 1 = (takeP s sy, .mk wStar ⟨#[]⟩ 0 0 [y], true) by rw [sufTo_succ s sx x (by omega : 0 < 3)]; rw [unhide HE]; unfold sufStep sufWord; exact if_pos hw)
                clear hw
                go_wp2_with fail
                refine (unhide A1).mono ?_
                rintro e w0 ⟨rfl, rfl⟩
                go_wp2_with fail
                refine (take_any ((unhide HY).alloc _) (unhide KY)).mono ?_
                rintro e w3 ⟨rfl, O3, hp3, hf3⟩
                have F3 := hide (((Fr.refl Oy wy).alloc (.cells #[.string ⟨#[42]⟩, .string ⟨#[43]⟩, .string ⟨#[63]⟩] 9)).trans hf3)
                have H3 := hide hp3
                have qX := ((unhide F3).block w2.heap.size (heap_lt (unhide QY)) (unhide NY)).trans (unhide QY)
                obtain ⟨t0, t1, t2, t3, t4⟩ := cells5 qX
                have zX : ∀ ob, w3.frozen? ⟨w2.heap.size, ob, none⟩ = false := fun ob => frozen_of_heap qX
                have hzX : w2.heap.size < w3.heap.size := heap_lt qX
                have FIN := hide (suf_round (op := wStar) (unhide FY) (unhide F3) hp3 (unhide QY) (unhide NY) hX (unhide TY))
                clear hp3 hf3 qX
                go_wp2_with fail
                obtain ⟨W, hW⟩ : ∃ W, sufW w3 w2.heap.size yop ytext yn ya (.slice yo yc yl) wStar = W := ⟨_, rfl⟩
                rw [hW] at FIN
                unfold sufW wStar at hW
                rw [hW]
                go_roundg 2
                case measure => omega
                case rel =>
                  obtain ⟨f1, f2, f3, f4, f5⟩ := unhide FIN
                  exact ⟨1, _, _, true, O3, _, _, _, _, _, _, _, by omega, rfl, unhide STP, rfl, f1, (unhide KY).take, f2, f3, f4, f5⟩
              | false =>
                have A1 := hide (show Calls Tryz.prog 67 #[ptr pb, .string wStar] (wy.alloc (.cells #[.string ⟨#[42]⟩, .string ⟨#[43]⟩, .string ⟨#[63]⟩] 9)) (fun e w' => e = .returned (.bool false) ∧ w' = (wy.alloc (.cells #[.string ⟨#[42]⟩, .string ⟨#[43]⟩, .string ⟨#[63]⟩] 9))) from by rw [← hw]; exact ((unhide HY).alloc _).is _)
                have STP := hide (show sufTo s sx x 1 = (sy, y, ag) by rw [sufTo_succ s sx x (by omega : 0 < 3)]; rw [unhide HE]; unfold sufStep sufWord; exact if_neg (fun h => absurd (hw.symm.trans h) (by simp)))
                clear hw
                go_wp2_with fail
                refine (unhide A1).mono ?_
                rintro e w0 ⟨rfl, rfl⟩
                go_wp2_with fail
                go_roundg 2
                case measure => omega
                case rel => exact ⟨1, sy, y, ag, Oy, yop, ytext, yn, ya, yo, yc, yl, by omega, rfl, unhide STP, rfl, (unhide HY).alloc _, unhide KY, (unhide FY).alloc _, by rw [Below.heap_alloc _ _ _ (heap_lt (unhide QY))]; exact unhide QY, unhide NY, TrAt.step ((Fr.refl Oy wy).alloc _) (fun k hk => Or.inl hk) (fun k hk => Or.inl hk) _ _ (unhide TY)⟩
            · -- the sign number 1
              cases hw : isP sy wPlus with
              | true =>
                have A1 := hide (show Calls Tryz.prog 67 #[ptr pb, .string wPlus] (wy.alloc (.cells #[.string ⟨#[42]⟩, .string ⟨#[43]⟩, .string ⟨#[63]⟩] 9)) (fun e w' => e = .returned (.bool true) ∧ w' = (wy.alloc (.cells #[.string ⟨#[42]⟩, .string ⟨#[43]⟩, .string ⟨#[63]⟩] 9))) from by rw [← hw]; exact ((unhide HY).alloc _).is _)
                have STP := hide (show sufTo s sx x 2 = (takeP s sy, .mk wPlus ⟨#[]⟩ 0 0 [y], true) by rw [sufTo_succ s sx x (by omega : 1 < 3)]; rw [unhide HE]; unfold sufStep sufWord; exact if_pos hw)
                clear hw
                go_wp2_with fail
                refine (unhide A1).mono ?_
                rintro e w0 ⟨rfl, rfl⟩
                go_wp2_with fail
                refine (take_any ((unhide HY).alloc _) (unhide KY)).mono ?_
                rintro e w3 ⟨rfl, O3, hp3, hf3⟩
                have F3 := hide (((Fr.refl Oy wy).alloc (.cells #[.string ⟨#[42]⟩, .string ⟨#[43]⟩, .string ⟨#[63]⟩] 9)).trans hf3)
                have H3 := hide hp3
                have qX := ((unhide F3).block w2.heap.size (heap_lt (unhide QY)) (unhide NY)).trans (unhide QY)
                obtain ⟨t0, t1, t2, t3, t4⟩ := cells5 qX
                have zX : ∀ ob, w3.frozen? ⟨w2.heap.size, ob, none⟩ = false := fun ob => frozen_of_heap qX
                have hzX : w2.heap.size < w3.heap.size := heap_lt qX
                have FIN := hide (suf_round (op := wPlus) (unhide FY) (unhide F3) hp3 (unhide QY) (unhide NY) hX (unhide TY))
                clear hp3 hf3 qX
                go_wp2_with fail
                obtain ⟨W, hW⟩ : ∃ W, sufW w3 w2.heap.size yop ytext yn ya (.slice yo yc yl) wPlus = W := ⟨_, rfl⟩
                rw [hW] at FIN
                unfold sufW wPlus at hW
                rw [hW]
                go_roundg 1
                case measure => omega
                case rel =>
                  obtain ⟨f1, f2, f3, f4, f5⟩ := unhide FIN
                  exact ⟨2, _, _, true, O3, _, _, _, _, _, _, _, by omega, rfl, unhide STP, rfl, f1, (unhide KY).take, f2, f3, f4, f5⟩
              | false =>
                have A1 := hide (show Calls Tryz.prog 67 #[ptr pb, .string wPlus] (wy.alloc (.cells #[.string ⟨#[42]⟩, .string ⟨#[43]⟩, .string ⟨#[63]⟩] 9)) (fun e w' => e = .returned (.bool false) ∧ w' = (wy.alloc (.cells #[.string ⟨#[42]⟩, .string ⟨#[43]⟩, .string ⟨#[63]⟩] 9))) from by rw [← hw]; exact ((unhide HY).alloc _).is _)
                have STP := hide (show sufTo s sx x 2 = (sy, y, ag) by rw [sufTo_succ s sx x (by omega : 1 < 3)]; rw [unhide HE]; unfold sufStep sufWord; exact if_neg (fun h => absurd (hw.symm.trans h) (by simp)))
                clear hw
                go_wp2_with fail
                refine (unhide A1).mono ?_
                rintro e w0 ⟨rfl, rfl⟩
                go_wp2_with fail
                go_roundg 1
                case measure => omega
                case rel => exact ⟨2, sy, y, ag, Oy, yop, ytext, yn, ya, yo, yc, yl, by omega, rfl, unhide STP, rfl, (unhide HY).alloc _, unhide KY, (unhide FY).alloc _, by rw [Below.heap_alloc _ _ _ (heap_lt (unhide QY))]; exact unhide QY, unhide NY, TrAt.step ((Fr.refl Oy wy).alloc _) (fun k hk => Or.inl hk) (fun k hk => Or.inl hk) _ _ (unhide TY)⟩
            · -- the sign number 2
              cases hw : isP sy wQuest with
              | true =>
                have A1 := hide (show Calls Tryz.prog 67 #[ptr pb, .string wQuest] (wy.alloc (.cells #[.string ⟨#[42]⟩, .string ⟨#[43]⟩, .string ⟨#[63]⟩] 9)) (fun e w' => e = .returned (.bool true) ∧ w' = (wy.alloc (.cells #[.string ⟨#[42]⟩, .string ⟨#[43]⟩, .string ⟨#[63]⟩] 9))) from by rw [← hw]; exact ((unhide HY).alloc _).is _)
                have STP := hide (show sufTo s sx x 3 = (takeP s sy, .mk wQuest ⟨#[]⟩ 0 0 [y], true) by rw [sufTo_succ s sx x (by omega : 2 < 3)]; rw [unhide HE]; unfold sufStep sufWord; exact if_pos hw)
                clear hw
                go_wp2_with fail
                refine (unhide A1).mono ?_
                rintro e w0 ⟨rfl, rfl⟩
                go_wp2_with fail
                refine (take_any ((unhide HY).alloc _) (unhide KY)).mono ?_
                rintro e w3 ⟨rfl, O3, hp3, hf3⟩
                have F3 := hide (((Fr.refl Oy wy).alloc (.cells #[.string ⟨#[42]⟩, .string ⟨#[43]⟩, .string ⟨#[63]⟩] 9)).trans hf3)
                have H3 := hide hp3
                have qX := ((unhide F3).block w2.heap.size (heap_lt (unhide QY)) (unhide NY)).trans (unhide QY)
                obtain ⟨t0, t1, t2, t3, t4⟩ := cells5 qX
                have zX : ∀ ob, w3.frozen? ⟨w2.heap.size, ob, none⟩ = false := fun ob => frozen_of_heap qX
                have hzX : w2.heap.size < w3.heap.size := heap_lt qX
                have FIN := hide (suf_round (op := wQuest) (unhide FY) (unhide F3) hp3 (unhide QY) (unhide NY) hX (unhide TY))
                clear hp3 hf3 qX
                go_wp2_with fail
                obtain ⟨W, hW⟩ : ∃ W, sufW w3 w2.heap.size yop ytext yn ya (.slice yo yc yl) wQuest = W := ⟨_, rfl⟩
                rw [hW] at FIN
                unfold sufW wQuest at hW
                rw [hW]
                go_roundg 0
                case measure => omega
                case rel =>
                  obtain ⟨f1, f2, f3, f4, f5⟩ := unhide FIN
                  exact ⟨3, _, _, true, O3, _, _, _, _, _, _, _, by omega, rfl, unhide STP, rfl, f1, (unhide KY).take, f2, f3, f4, f5⟩
              | false =>
                have A1 := hide (show Calls Tryz.prog 67 #[ptr pb, .string wQuest] (wy.alloc (.cells #[.string ⟨#[42]⟩, .string ⟨#[43]⟩, .string ⟨#[63]⟩] 9)) (fun e w' => e = .returned (.bool false) ∧ w' = (wy.alloc (.cells #[.string ⟨#[42]⟩, .string ⟨#[43]⟩, .string ⟨#[63]⟩] 9))) from by rw [← hw]; exact ((unhide HY).alloc _).is _)
                have STP := hide (show sufTo s sx x 3 = (sy, y, ag) by rw [sufTo_succ s sx x (by omega : 2 < 3)]; rw [unhide HE]; unfold sufStep sufWord; exact if_neg (fun h => absurd (hw.symm.trans h) (by simp)))
                clear hw
                go_wp2_with fail
                refine (unhide A1).mono ?_
                rintro e w0 ⟨rfl, rfl⟩
                go_wp2_with fail
                go_roundg 0
                case measure => omega
                case rel => exact ⟨3, sy, y, ag, Oy, yop, ytext, yn, ya, yo, yc, yl, by omega, rfl, unhide STP, rfl, (unhide HY).alloc _, unhide KY, (unhide FY).alloc _, by rw [Below.heap_alloc _ _ _ (heap_lt (unhide QY))]; exact unhide QY, unhide NY, TrAt.step ((Fr.refl Oy wy).alloc _) (fun k hk => Or.inl hk) (fun k hk => Or.inl hk) _ _ (unhide TY)⟩
            · -- behind the three
              obtain rfl : i = 0 := by omega
              have HE3 := hide (show suf3 s sx x = (sy, y, ag) from unhide HE)
              clear HE
              go_wp2_with fail
              go_roundg g2
              case measure => omega
              case rel =>
                have h3 := unhide HE3
                have hsl := unhide HSL
                rw [h3] at hsl
                refine ⟨sy, y, Oy, yop, ytext, yn, ya, yo, yc, yl, unhide HY, unhide KY, unhide FY, unhide QY, unhide NY, unhide TY, ?_⟩
                rcases hsl with ⟨h1, h2⟩ | ⟨h1, h2⟩
                · left; exact ⟨by rw [show ag = true from h1], h2⟩
                · right
                  have h4 : (s2, x2) = (sy, y) := h2
                  cases h4
                  exact ⟨by rw [show ag = false from h1], rfl, rfl⟩
        · have hzX : w2.heap.size < wx.heap.size := heap_lt b4'
          have qB := (b3.block (w.heap.size + 1) hzB' (unhide NB)).trans (unhide Q1)
          have s4 : wx.cell? ⟨w.heap.size + 1, 4, none⟩ = some kv := cell_of_heap qB
          have hzB : w.heap.size + 1 < wx.heap.size := heap_lt qB
          obtain ⟨t0, t1, t2, t3, t4⟩ := cells5 b4'
          have OW := hide (show wx.ownsRow 0 115 5 kv kids.length xs from owns_of (unhide TU).1 (fun k hk => b3.block k ((unhide TU).1.lt k hk).2 (fun h => (unhide TU).2.1 k hk (Or.inl h))))
          have T2 := hide (show TrAt wx (fun k => Ox k ∨ k < WR.heap.size) x (treeV xop xtext xn xa (.slice xo xc xl)) from TrAt.keep (fun _ _ _ => rfl) (fun k _ h => by rcases h with h | h; exact Or.inl h; exact Or.inr (Or.inl h)) _ _ b6)
          have H2 := hide b1
          have F2 := hide b3
          have K2 := hide b2
          have QB := hide qB
          have NKB := hide (show some (w.heap.size + 1) ≠ kv.ownBlock from fun e => (unhide TU).2.1 _ e.symm (Or.inr (Or.inr rfl)))
          clear b1 b2 b3 b4' b5 b6 qB
          go_wp2_with (at_builtin; refine wpList_append_lies _ rfl _ _ _ rfl 0 115 i0 _ 5 72 Tryz.underlying113 hi0 hz0 hz1 hz2 rfl (by omega) kv kids.length xs rfl ((unhide OW).alloc _) ⟨wx.heap.size, 0, none⟩ 1 1 [.string xop, .string xtext, .int .i64 xn, .int .i64 xa, .slice xo xc xl] rfl rfl (World.news_of_block (cs := #[.string xop, .string xtext, .int .i64 xn, .int .i64 xa, .slice xo xc xl]) (t := 115) (fr := (0, 0)) (heap_alloc_new wx _)) (by simp [Value.oneCell']) (by omega) (by simp [maxLen]; omega) (by omega) (by omega) (wx.heap.size + 1) (by simp) ?_; intro gg cap w' hown hgrow hat hlt; have qB' : w'.heap[w.heap.size + 1]? = some (.cells (treeCells wRow ⟨#[]⟩ 0 0 kv) 115 (0, 0)) := ((hgrow.block (w.heap.size + 1) (by simp; omega) (unhide NKB)).trans ((Below.heap_alloc _ _ _ (by omega)).trans (unhide QB))); have c4 : w'.cell? ⟨w.heap.size + 1, 4, none⟩ = some kv := (cell_of_heap qB'); have z4 : w'.frozen? ⟨w.heap.size + 1, 4, none⟩ = false := (frozen_of_heap qB'); clear qB')
          have FIN := hide (kid_round1 (unhide HF) (unhide F2) (unhide H2) (unhide Q0) (unhide Q1) (unhide NA) (unhide NB) (by omega) (unhide TU) (unhide T2) hgrow hown hat)
          generalize hW : w'.setCell ⟨w.heap.size + 1, 4, none⟩ (.slice (some ⟨gg, 0, none⟩) (kids.length + 1) cap) = W at *
          clear hW hown hgrow hat hlt c4 z4 s4 t0 t1 t2 t3 t4
          obtain ⟨f1, f2, f3, f4, f5, f6, f7⟩ := unhide FIN
          have G1 := hide f1
          have c1 := f1.cell.1
          have c7 := f1.cell.2.1
          clear FIN f1
          have G2 := hide f2
          have G3 := hide f3
          have G4 := hide f4
          have G5 := hide f5
          have G6 := hide f6
          have G7 := hide f7
          clear f2 f3 f4 f5 f6 f7
          have HM : Hid (moreP sx = (decide (sx.bad < 0) && (sx.next.kind == 48) || isP sx wDot || isP sx wOpen)) := rfl
          have A1 := hide ((unhide G1).is wDot)
          have A2 := hide ((unhide G1).is wOpen)
          generalize isP sx wDot = bd at *
          generalize isP sx wOpen = bo at *
          refine (unhide A1).mono ?_
          rintro e w0 ⟨rfl, rfl⟩
          go_wp2_with fail
          refine (unhide A2).mono ?_
          rintro e w0 ⟨rfl, rfl⟩
          have HREL := hide (show ∀ b, moreP sx = b → ∃ (su : PS) (kids' : List Tr) (kv' : Value) (xs' : List Value) (O1' : Nat → Prop), kids'.length + g ≤ f ∧ PA w0 pb s su O1' ∧ Ok s su ∧ Fr O w O1' w0 ∧ w0.heap[w.heap.size]? = some (.cells treeZ 115 (0, 0)) ∧ w0.heap[w.heap.size + 1]? = some (.cells (treeCells wRow ⟨#[]⟩ 0 0 kv') 115 (0, 0)) ∧ ¬ O1' w.heap.size ∧ ¬ O1' (w.heap.size + 1) ∧ TrOpen w0 (fun k => O1' k ∨ k ≤ w.heap.size ∨ k = w.heap.size + 1) kids' kv' xs' ∧ ((Value.bool b = .bool true ∧ rowLp s g su kids' = some r) ∨ (Value.bool b = .bool false ∧ r = (su, .mk wRow ⟨#[]⟩ 0 0 kids'))) from by
            intro b hb
            refine ⟨sx, kids ++ [x], _, _, Ox, by simp; omega, unhide G1, unhide K2, unhide G2, unhide G3, unhide G4, unhide G5, unhide G6, unhide G7, ?_⟩
            rcases unhide HNX with ⟨h1, h2⟩ | ⟨h1, h2⟩
            · left; exact ⟨by rw [← hb, h1], h2⟩
            · right; exact ⟨by rw [← hb, h1], h2⟩)
          clear G1 G2 G3 G4 G5 G6 G7 A1 A2
          by_cases hb : sx.bad < 0
          · cases hk : (sx.next.kind == 48) <;> cases bd <;> cases bo <;>
              (go_wp2_with fail; go_roundg g; (case measure => omega); (case rel => exact unhide HREL _ (by rw [unhide HM, decide_eq_true hb, hk]; rfl)))
          · cases bd <;> cases bo <;>
              (go_wp2_with fail; go_roundg g; (case measure => omega); (case rel => exact unhide HREL _ (by rw [unhide HM, decide_eq_false (by omega)]; rfl)))
    · subst hre
      obtain ⟨r0, r1, r2, r3, r4⟩ := cells5 q0
      have zr : ∀ ob, WR.frozen? ⟨w.heap.size, ob, none⟩ = false := fun ob => frozen_of_heap q0
      obtain ⟨s0, s1, s2', s3, s4⟩ := cells5 q1
      obtain ⟨oo, cc, hkv⟩ := htu.form
      have TU := hide (htu.at wRow ⟨#[]⟩ 0 0)
      clear htu
      subst hkv
      have HP := hide hp
      have HK := hide hk
      have HF := hide hf
      have HN := hide n0
      clear hp hk hf q0 q1 n0 n1
      go_wp2_with fail
      refine bodyPost_ret (v := treeV wRow ⟨#[]⟩ 0 0 (.slice oo kids.length cc)) (by simp [results, Tryz.results173, go_sem, r0, r1, r2, r3, r4]) rfl ⟨_, O1, rfl, ?_, ?_, ?_, unhide HK⟩
      · repeat with_reducible first | refine PA.other ?_ (unhide HN) _ _ | refine PA.alloc ?_ _ | refine PA.drew ?_ | refine PA.drewN ?_ _ | exact unhide HP
      · repeat with_reducible first | refine Fr.setCell ?_ (Or.inr (Nat.le_refl _)) _ | refine Fr.setCell ?_ (Or.inl (unhide HO)) _ | refine Fr.alloc ?_ _ | refine Fr.drew ?_ | refine Fr.drewN ?_ _ | exact unhide HF | exact Fr.refl _ _
      · have f0 : Fr (fun k => O1 k ∨ k = w.heap.size) WR (fun k => O1 k ∨ k = w.heap.size) WR := (Fr.refl O1 WR).join (fun k => k = w.heap.size)
        refine TrAt.step (O := fun k => O1 k ∨ k = w.heap.size) (O' := fun k => O1 k ∨ k = w.heap.size) (w := WR) ?_ ?_ ?_ _ _ (unhide TU)
        · repeat with_reducible first | refine Fr.setCell ?_ (Or.inl (Or.inr rfl)) _ | exact f0
        · intro k hk
          rcases hk with h | h
          · exact Or.inl h
          · exact Or.inr (Or.inl (by omega))
        · intro k hk
          rcases hk with h | h
          · exact Or.inl (Or.inl h)
          · exact Or.inl (Or.inr (Or.inl (by omega)))
end Go.Proofs.YtgdeeodifnegiaaGreatDoor.rf
