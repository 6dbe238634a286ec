/- The reference's parser in memory; is, fail, line, opens. -/
import Derived.Test.YtgdeeodifnegiaaGreatDoorRefC
import Derived.Test.YtgdeeodifnegiaaGreatDoorMem
namespace Go.Proofs.YtgdeeodifnegiaaGreatDoor.rf
open Go.RowKit

def tokCells (l : List Tok) : List Value := l.flatMap fun t => [.int .u8 t.kind, .string t.text, .int .i64 t.at_]
def boolCells (l : List Bool) : List Value := l.map Value.bool
abbrev psCells (s : ByteArray) (st : PS) (tv lv : Value) : Array Value := #[.string s, .int .u8 st.next.kind, .string st.next.text, .int .i64 st.next.at_, .int .i64 st.i, tv, lv, .int .i64 st.bad, .int .i64 st.opn]
def POwn (pb : Nat) (tv lv : Value) (k : Nat) : Prop := k = pb ∨ tv.ownBlock = some k ∨ lv.ownBlock = some k
structure PAt (w : World) (pb : Nat) (s : ByteArray) (st : PS) (tv lv : Value) : Prop where
  blk : w.heap[pb]? = some (.cells (psCells s st tv lv) 139 (0, 0))
  own1 : w.ownsRow 0 121 3 tv st.taken.length (tokCells st.taken)
  own2 : w.ownsRow 0 4 1 lv st.lines.length (boolCells st.lines)
  ne1 : tv.ownBlock ≠ some pb
  ne2 : lv.ownBlock ≠ some pb
  ne3 : tv.ownBlock = none ∨ tv.ownBlock ≠ lv.ownBlock

abbrev ptr (b : Nat) : Value := .pointer (some ⟨b, 0, none⟩)
set_option maxRecDepth 100000 in
set_option maxHeartbeats 1000000 in
theorem is_any {w : World} {pb : Nat} {s : ByteArray} {st : PS} {tv lv : Value} (h : w.heap[pb]? = some (.cells (psCells s st tv lv) 139 (0, 0))) (x : ByteArray) :
    Calls Tryz.prog 67 #[ptr pb, .string x] w fun e w' => e = .returned (.bool (isP st x)) ∧ w' = w := by
  have c1 : w.cell? ⟨pb, 1, none⟩ = some (.int .u8 st.next.kind) := cell_of_heap h
  have c2 : w.cell? ⟨pb, 2, none⟩ = some (.string st.next.text) := cell_of_heap h
  have c7 : w.cell? ⟨pb, 7, none⟩ = some (.int .i64 st.bad) := cell_of_heap h
  clear h
  have HP : Hid (isP st x = (decide (st.bad < 0) && (st.next.kind == 115 || st.next.kind == 107) && (st.next.text.toList == x.toList))) := rfl
  go_enter Tryz.func67, Tryz.ntmps67
  go_wp2
  all_goals (go_ret; exact ⟨ret_bool (by rw [unhide HP]; first | (simp [*]; done) | (rw [decide_eq_false (by omega)]; rfl)), rfl⟩)

theorem PAt.move {w w' : World} {pb : Nat} {s : ByteArray} {st st' : PS} {tv lv : Value} (h : PAt w pb s st tv lv)
    (hb : w'.heap[pb]? = some (.cells (psCells s st' tv lv) 139 (0, 0))) (ho : ∀ k, k ≠ pb → k < w.heap.size → w'.heap[k]? = w.heap[k]?) (e1 : st'.taken = st.taken) (e2 : st'.lines = st.lines) : PAt w' pb s st' tv lv :=
  ⟨hb, by rw [e1]; exact owns_of h.own1 (fun k hk => ho k (fun e => h.ne1 (e ▸ hk)) (h.own1.lt k hk).2), by rw [e2]; exact owns_of h.own2 (fun k hk => ho k (fun e => h.ne2 (e ▸ hk)) (h.own2.lt k hk).2), h.ne1, h.ne2, h.ne3⟩
/-- memory grows, the parser's own stays -/
theorem PAt.stay {w w' : World} {pb : Nat} {s : ByteArray} {st : PS} {tv lv : Value} (h : PAt w pb s st tv lv) (hb : Below w.heap.size w w') : PAt w' pb s st tv lv :=
  h.move (by rw [hb.block pb (heap_lt h.blk)]; exact h.blk) (fun k _ hk => hb.block k hk) rfl rfl
theorem PAt.set {w : World} {pb o : Nat} {s : ByteArray} {st st' : PS} {tv lv v : Value} (h : PAt w pb s st tv lv) (e : psCells s st' tv lv = (psCells s st tv lv).setIfInBounds o v) (e1 : st'.taken = st.taken) (e2 : st'.lines = st.lines) : PAt (w.setCell ⟨pb, o, none⟩ v) pb s st' tv lv :=
  h.move (by rw [heap_set h.blk, ← e]) (fun k hk _ => heap_set_other hk) e1 e2

set_option maxRecDepth 100000 in
set_option maxHeartbeats 1000000 in
theorem fail_any {w : World} {pb : Nat} {s : ByteArray} {st : PS} {tv lv : Value} (h : PAt w pb s st tv lv) :
    Calls Tryz.prog 68 #[ptr pb] w fun e w' => e = .returned (.tuple #[]) ∧ PAt w' pb s (failP st) tv lv ∧ Fr (POwn pb tv lv) w (POwn pb tv lv) w' := by
  have c3 : w.cell? ⟨pb, 3, none⟩ = some (.int .i64 st.next.at_) := cell_of_heap h.blk
  have c7 : w.cell? ⟨pb, 7, none⟩ = some (.int .i64 st.bad) := cell_of_heap h.blk
  have z7 : w.frozen? ⟨pb, 7, none⟩ = false := frozen_of_heap h.blk
  have H := hide h
  clear h
  by_cases hb : st.bad < 0
  · have HP : Hid (failP st = { st with bad := st.next.at_ }) := by unfold Hid failP; rw [if_pos hb]
    go_enter Tryz.func68, Tryz.ntmps68
    go_wp2
    go_end0
    exact ⟨rfl, by rw [unhide HP]; exact (unhide H).set rfl rfl rfl, (Fr.refl _ _).setCell (Or.inl (Or.inl rfl)) _⟩
  · have HP : Hid (failP st = st) := by unfold Hid failP; rw [if_neg hb]
    go_enter Tryz.func68, Tryz.ntmps68
    go_wp2
    go_end0
    exact ⟨rfl, by rw [unhide HP]; exact unhide H, Fr.refl _ _⟩

@[simp] theorem failP_opn (st : PS) : (failP st).opn = st.opn := by unfold failP; split <;> rfl
@[simp] theorem failP_taken (st : PS) : (failP st).taken = st.taken := by unfold failP; split <;> rfl
@[simp] theorem failP_lines (st : PS) : (failP st).lines = st.lines := by unfold failP; split <;> rfl
@[simp] theorem failP_next (st : PS) : (failP st).next = st.next := by unfold failP; split <;> rfl
@[simp] theorem failP_i (st : PS) : (failP st).i = st.i := by unfold failP; split <;> rfl
set_option maxRecDepth 100000 in
set_option maxHeartbeats 1000000 in
theorem opens_any {w : World} {pb : Nat} {s : ByteArray} {st : PS} {tv lv : Value} (h : PAt w pb s st tv lv) :
    Calls Tryz.prog 176 #[ptr pb] w fun e w' => e = .returned (.tuple #[]) ∧ PAt w' pb s (opensP st) tv lv ∧ Fr (POwn pb tv lv) w (POwn pb tv lv) w' := by
  have c8 : w.cell? ⟨pb, 8, none⟩ = some (.int .i64 st.opn) := cell_of_heap h.blk
  have z8 : w.frozen? ⟨pb, 8, none⟩ = false := frozen_of_heap h.blk
  have H := hide h
  clear h
  by_cases hb : st.opn = 8
  · have hbb : (st.opn == 8) = true := by rw [hb]; rfl
    have HP : Hid (opensP st = { failP st with opn := wrap64 (st.opn + 1) }) := by unfold Hid opensP; rw [if_pos hb]
    clear hb
    go_enter Tryz.func176, Tryz.ntmps176
    go_wp2_with (go_at_call 68; refine (fail_any (unhide H)).mono ?_; rintro e w' ⟨rfl, hp, hfr⟩; have c8' : w'.cell? ⟨pb, 8, none⟩ = some (.int .i64 st.opn) := (by rw [← failP_opn]; exact cell_of_heap hp.blk); have z8' : w'.frozen? ⟨pb, 8, none⟩ = false := (frozen_of_heap hp.blk))
    go_end0
    exact ⟨rfl, by rw [unhide HP]; exact hp.set (by simp) rfl rfl, hfr.setCell (Or.inl (Or.inl rfl)) _⟩
  · have hbb : (st.opn == 8) = false := beq_eq_false_iff_ne.2 hb
    have HP : Hid (opensP st = { st with opn := wrap64 (st.opn + 1) }) := by unfold Hid opensP; rw [if_neg hb]
    clear hb
    go_enter Tryz.func176, Tryz.ntmps176
    go_wp2_with fail
    go_end0
    exact ⟨rfl, by rw [unhide HP]; exact (unhide H).set rfl rfl rfl, (Fr.refl _ _).setCell (Or.inl (Or.inl rfl)) _⟩

theorem PAt.drew {w : World} {pb : Nat} {s : ByteArray} {st : PS} {tv lv : Value} (h : PAt w pb s st tv lv) : PAt w.drew pb s st tv lv := h.stay (Below.refl _ _).drew
theorem PAt.lined {w : World} {pb g n cap : Nat} {s : ByteArray} {st : PS} {tv : Value} (h : PAt w pb s st tv (.slice (some ⟨g, 0, none⟩) n cap)) (hn : st.lines.length = n) (j : Nat) (b : Bool) :
    PAt (w.setCell ⟨g, j, none⟩ (.bool b)).drew pb s { st with lines := st.lines.set j b } tv (.slice (some ⟨g, 0, none⟩) n cap) := by
  refine PAt.drew ?_
  subst hn
  have hgp : pb ≠ g := fun e => h.ne2 (by rw [e]; rfl)
  refine ⟨?_, ?_, ?_, h.ne1, h.ne2, h.ne3⟩
  · rw [heap_set_other hgp]; exact h.blk
  · exact owns_of h.own1 (fun k hk => heap_set_other (fun e => by
      rcases h.ne3 with h3 | h3
      · rw [h3] at hk; cases hk
      · exact h3 (by rw [hk, e]; rfl)))
  · have := (h.own2.stored j (.bool b)).1
    simpa [boolCells, List.map_set] using this
set_option maxRecDepth 100000 in
set_option maxHeartbeats 1000000 in
theorem line_any {w : World} {pb : Nat} {s : ByteArray} {st : PS} {tv lv : Value} (h : PAt w pb s st tv lv) (hl : st.bad < 0 → 0 < st.lines.length) (hm : st.lines.length ≤ 1000) :
    Calls Tryz.prog 177 #[ptr pb] w fun e w' => e = .returned (.tuple #[]) ∧ PAt w' pb s (lineP st) tv lv ∧ Fr (POwn pb tv lv) w (POwn pb tv lv) w' := by
  have c6 : w.cell? ⟨pb, 6, none⟩ = some lv := cell_of_heap h.blk
  have c7 : w.cell? ⟨pb, 7, none⟩ = some (.int .i64 st.bad) := cell_of_heap h.blk
  by_cases hb : st.bad < 0
  · have HP : Hid (lineP st = { st with lines := st.lines.set (st.lines.length - 1) true }) := by unfold Hid lineP; rw [if_pos hb]
    obtain ⟨_, h2⟩ := h.own2
    rcases h2 with ⟨_, h0⟩ | ⟨g, cap, cur, rfl, _, hg, hcap, hmax, hsz, hcur⟩
    · have := hl hb; omega
    · have hl' := hl hb
      generalize hn : st.lines.length = n at *
      obtain ⟨m, rfl⟩ : ∃ m, n = m + 1 := ⟨n - 1, by omega⟩
      have H := hide h
      have hcm : ∃ u, w.cell? ⟨g, m, none⟩ = some u := by
        rw [cell_of_heap hg, Array.getElem?_eq_getElem (by omega)]; exact ⟨_, rfl⟩
      obtain ⟨u, hcm⟩ := hcm
      have hzm : w.frozen? ⟨g, m, none⟩ = false := frozen_of_heap hg
      have HG := hide hg
      have HN := hide hn
      have HCUR := hide hcur
      clear hg h hn hcur
      go_enter Tryz.func177, Tryz.ntmps177
      go_wp2
      go_region
      go_end0
      refine ⟨rfl, ?_, ?_⟩
      · rw [unhide HP]
        exact (unhide H).lined (unhide HN) m true
      · exact ((Fr.refl _ _).setCell (Or.inl (Or.inr (Or.inr rfl))) _).drew
  · have HP : Hid (lineP st = st) := by unfold Hid lineP; rw [if_neg hb]
    have H := hide h
    clear h
    go_enter Tryz.func177, Tryz.ntmps177
    go_wp2
    go_end0
    exact ⟨rfl, by rw [unhide HP]; exact unhide H, Fr.refl _ _⟩

end Go.Proofs.YtgdeeodifnegiaaGreatDoor.rf
