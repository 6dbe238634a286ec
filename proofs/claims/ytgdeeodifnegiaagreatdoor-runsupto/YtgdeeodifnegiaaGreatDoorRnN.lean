/- A policy of the document is run: statements (run.go: do): a block. -/
import Derived.Test.YtgdeeodifnegiaaGreatDoorRnM
namespace Go.Proofs.YtgdeeodifnegiaaGreatDoor.rf
open Go.RowKit

/-- a statement leaves a route as it may be -/
def Keeps' (m : StpM) : Prop := ∀ R, RtOk R → RtOk (m R).1
theorem perform_drop {ms : List StpM} {i : Nat} (h : i < ms.length) (R : Rt) : performM (ms.drop i) R = if (ms[i] R).2 = 0 then performM (ms.drop (i + 1)) (ms[i] R).1 else ms[i] R := by
  rw [List.drop_eq_getElem_cons h, performM]
set_option maxRecDepth 100000 in
set_option maxHeartbeats 6400000 in
theorem do_block {P : Nat → Nat → World → Prop} (hP : ∀ sb pb w w', P sb pb w → Fr (Sb sb) w (Sb sb) w' → P sb pb w') {ks : List Tr} {ms : List StpM} (hlen : ks.length = ms.length) (IK : ∀ i, (h : i < ks.length) → (h' : i < ms.length) → StpR P ks[i] ms[i] ∧ Keeps' ms[i]) (op : ByteArray) (hop : op = wBlock) :
    StpR P (.mk op nB 0 0 ks) (performM ms) := by
  intro w Q v sb pb R pv mv hQ hp0 ht hR hs
  have e0 : (op.toList == [97, 99, 99, 101, 112, 116]) = false := by rw [hop]; decide +kernel
  have e1 : (op.toList == [114, 101, 106, 101, 99, 116]) = false := by rw [hop]; decide +kernel
  have e2 : (op.toList == [112, 114, 101, 102]) = false := by rw [hop]; decide +kernel
  have e3 : (op.toList == [109, 101, 100]) = false := by rw [hop]; decide +kernel
  have e4 : (op.toList == [109, 97, 114, 107]) = false := by rw [hop]; decide +kernel
  have e5 : (op.toList == [117, 110, 109, 97, 114, 107]) = false := by rw [hop]; decide +kernel
  have e6 : (op.toList == [112, 114, 101, 112, 101, 110, 100]) = false := by rw [hop]; decide +kernel
  have e7 : (op.toList == [105, 102]) = false := by rw [hop]; decide +kernel
  have e8 : (op.toList == [98, 108, 111, 99, 107]) = true := by rw [hop]; decide +kernel
  have HT := hide ht
  rw [TrAt] at ht
  obtain ⟨kv, xs, rfl, hko, _, _⟩ := ht
  have hkmax : ks.length ≤ 9223372036854775807 := by
    rcases hko.2 with ⟨_, e⟩ | ⟨_, cap, _, _, _, _, h3, h4, _⟩
    · omega
    · unfold maxLen at h4; omega
  obtain ⟨ko, kc, rfl⟩ := owns_sl hko
  have lsw := heap_lt hs.blk
  have hA : Below w.heap.size w (w.alloc (.cells (treeCells op nB 0 0 (.slice ko ks.length kc)) 115)) := (Below.refl _ _).alloc (Nat.le_refl _) _
  have q0 : (w.alloc (.cells (treeCells op nB 0 0 (.slice ko ks.length kc)) 115)).heap[w.heap.size]? = some (.cells (treeCells op nB 0 0 (.slice ko ks.length kc)) 115 (0, 0)) := heap_alloc_new _ _
  have hs1 := hs.below hA
  obtain ⟨WA, hWA⟩ : ∃ WA, w.alloc (.cells (treeCells op nB 0 0 (.slice ko ks.length kc)) 115) = WA := ⟨_, rfl⟩
  have HWA := hide hWA
  rw [hWA] at hA q0 hs1
  have lA : w.heap.size < WA.heap.size := heap_lt q0
  have k0 : WA.cell? ⟨w.heap.size, 0, none⟩ = some (.string op) := cell_of_heap q0
  have HF := hide (show Fr (Sb sb) w (Sb sb) WA from fr_sb hA)
  have Q0 := hide q0
  have HS := hide hs1
  have HIK := hide IK
  have HLEN := hide hlen
  have HPP := hide hp0
  have HQ := hide hQ
  have HR := hide hR
  clear hWA hA q0 hop hko IK hlen hs hs1 hp0 hQ hR
  go_enter Tryz.func97, Tryz.ntmps97
  go_upto_region 1 with fail
  rw [unhide HWA]
  go_wp2_with fail
  go_loopg [9] ks.length (fun k b9 wr => ∃ (i : Nat) (R' : Rt) (ver : Int) (pv mv : Value), i + k = ks.length ∧ b9 = .int .i64 i ∧ Fr (Sb sb) w (Sb sb) wr ∧ wr.heap[w.heap.size]? = some (.cells (treeCells op nB 0 0 (.slice ko ks.length kc)) 115 (0, 0)) ∧ StA wr sb pb R' pv mv ver ∧ (ver = 0 → RtOk R' ∧ performM (ms.drop i) R' = performM ms R) ∧ (ver ≠ 0 → performM ms R = (R', ver)))
  case atStart => exact ⟨0, R, 0, pv, mv, by omega, rfl, unhide HF, unhide Q0, unhide HS, fun _ => ⟨unhide HR, rfl⟩, fun h => absurd rfl h⟩
  case round =>
    clear HF HS HR k0
    obtain ⟨i, R', ver, pv', mv', hik, rfl, hf, q0, hs, h0, h1⟩ := hrel
    have c4 : wr.cell? ⟨w.heap.size, 4, none⟩ = some (.slice ko ks.length kc) := cell_of_heap q0
    have lw : w.heap.size < wr.heap.size := heap_lt q0
    have c7 : wr.cell? ⟨sb, 7, none⟩ = some (.int .i64 ver) := cell_of_heap hs.blk
    have lsb : sb < wr.heap.size := heap_lt hs.blk
    have HF := hide hf
    have QR := hide q0
    have HS := hide hs
    have H0 := hide h0
    have H1 := hide h1
    clear q0 hs h0 h1
    by_cases hv : ver = 0
    · subst hv
      by_cases hi : i < ks.length
      · have hi' : i < ms.length := by have := unhide HLEN; omega
        obtain ⟨hr', hpd⟩ := unhide H0 rfl
        obtain ⟨kv', g, ev, hk⟩ := (unhide HT).kids (fun e => by rw [e] at hi; simp at hi)
        obtain rfl : kv' = .slice ko ks.length kc := by simp at ev; exact ev.symm
        have hkr := hk.fr (unhide HQ) hf
        obtain ⟨cap, hcap⟩ := hkr.sl
        simp only [Value.slice.injEq] at hcap
        obtain ⟨rfl, -, rfl⟩ := hcap
        obtain ⟨a0, a1, a2, a3, a4, y0, y1, y2, y3, y4, tk⟩ := hkr.at_ i hi
        have lg := hkr.lt
        have CALL := hide ((unhide HIK i hi hi').1 wr _ _ sb pb R' pv' mv' (Or.inl (unhide HQ)) (hP _ _ _ _ (unhide HPP) hf) tk hr' (unhide HS))
        have KP := hide ((unhide HIK i hi hi').2 R' hr')
        have PD := hide (show performM ms R = if (ms[i] R').2 = 0 then performM (ms.drop (i + 1)) (ms[i] R').1 else ms[i] R' from by rw [← hpd, perform_drop hi'])
        clear hf hk hkr tk ev hr' hpd H0 H1
        go_wp2_with fail
        refine (unhide CALL).mono ?_
        rintro e w2 ⟨rfl, pv2, mv2, hs2, hf2⟩
        have FIN := hide (show Fr (Sb sb) w (Sb sb) w2 ∧ w2.heap[w.heap.size]? = some (.cells (treeCells op nB 0 0 (.slice (some ⟨g, 0, none⟩) ks.length kc)) 115 (0, 0)) from ⟨(unhide HF).trans hf2, (hf2.block w.heap.size lw (by show ¬ w.heap.size = sb; omega)).trans (unhide QR)⟩)
        have HS2 := hide hs2
        clear hs2 hf2 CALL y0 y1 y2 y3 y4 c4 c7
        go_wp2_with fail
        go_roundg (ks.length - (i + 1))
        case measure => omega
        case rel => exact ⟨i + 1, _, _, pv2, mv2, by omega, by go_num, (unhide FIN).1, (unhide FIN).2, unhide HS2, fun h => ⟨unhide KP, by rw [unhide PD, if_pos h]⟩, fun h => by rw [unhide PD, if_neg h]⟩
      · have FIN := hide (show performM ms R = (R', 0) from by
          rw [← (unhide H0 rfl).2, List.drop_eq_nil_of_le (by have := unhide HLEN; omega)]
          rfl)
        clear hf
        go_wp2_with fail
        go_end0
        rw [unhide FIN]
        exact ⟨rfl, _, _, unhide HS, unhide HF⟩
    · have FIN := hide (unhide H1 hv)
      have hvb : (ver == 0) = false := by simpa using hv
      clear hf
      by_cases hi : i < ks.length
      · go_wp2_with fail
        go_end0
        rw [unhide FIN]
        exact ⟨rfl, _, _, unhide HS, unhide HF⟩
      · go_wp2_with fail
        go_end0
        rw [unhide FIN]
        exact ⟨rfl, _, _, unhide HS, unhide HF⟩
end Go.Proofs.YtgdeeodifnegiaaGreatDoor.rf
