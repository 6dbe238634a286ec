/- The program's attributes (package messages): flagsOf, attributeOf, known: the table of flags. -/
import Derived.Test.YtgngdklkoilaiaaGreatDoorMsgA
namespace Go.Proofs.YtgngdklkoilaiaaGreatDoor
open Go.RowKit

/-- the table of flags, as the program's text lays it -/
structure TabAt (w : World) : Prop where
  lt : 1 < w.heap.size
  t0 : w.cell? ⟨1, 0, none⟩ = some (.int .u8 2)
  t1 : w.cell? ⟨1, 1, none⟩ = some (.int .u8 64)
  t2 : w.cell? ⟨1, 2, none⟩ = some (.int .u8 4)
  t3 : w.cell? ⟨1, 3, none⟩ = some (.int .u8 128)
  t4 : w.cell? ⟨1, 4, none⟩ = some (.int .u8 5)
  t5 : w.cell? ⟨1, 5, none⟩ = some (.int .u8 64)
  t6 : w.cell? ⟨1, 6, none⟩ = some (.int .u8 8)
  t7 : w.cell? ⟨1, 7, none⟩ = some (.int .u8 192)
theorem TabAt.below {w w' : World} (h : TabAt w) (hb : Below w.heap.size w w') : TabAt w' := by
  have e : ∀ j, w'.cell? ⟨1, j, none⟩ = w.cell? ⟨1, j, none⟩ := fun j => hb.cell (p := ⟨1, j, none⟩) h.lt
  exact ⟨Nat.lt_of_lt_of_le h.lt hb.size, (e 0).trans h.t0, (e 1).trans h.t1, (e 2).trans h.t2, (e 3).trans h.t3, (e 4).trans h.t4, (e 5).trans h.t5, (e 6).trans h.t6, (e 7).trans h.t7⟩
/-- 'x[i]' of an array's value -/
theorem wpList_index {P : Program} {w : World} {ops : Array Oper} {rest : List Oper} {o : Oper} {a : Act} {Q : Exit → Act → World → Prop} (hgd : o.guard = none) (t : TypeId) (x i : Operand)
    (ho : o.op = .index t x i) (vx vi v : Value) (hx : a.eval x = vx) (hi : a.eval i = vi) (hr : (Instr.index t vx vi).run P w = .ok v w) (h : wpList P ops Q rest (a.put o.dst v) w) : wpList P ops Q (o :: rest) a w := by
  refine wpList_plain hgd fun K hK => ?_
  unfold Oper.wp execOp
  simp only [ho, Sem.run_bind, Sem.run_pure, hx, hi, hr, Result.andThen_ok, Oper.upon]
  exact hK _ _ h
def tabV : Value := .agg #[.int .u8 2, .int .u8 64, .int .u8 4, .int .u8 128, .int .u8 5, .int .u8 64, .int .u8 8, .int .u8 192]
theorem Tryz.idx0 (w : World) : (Instr.index 367 tabV (.int .i64 0)).run Tryz.prog w = .ok (.agg #[.int .u8 2, .int .u8 64]) w := by kernel_rfl
theorem Tryz.idx1 (w : World) : (Instr.index 367 tabV (.int .i64 1)).run Tryz.prog w = .ok (.agg #[.int .u8 4, .int .u8 128]) w := by kernel_rfl
theorem Tryz.idx2 (w : World) : (Instr.index 367 tabV (.int .i64 2)).run Tryz.prog w = .ok (.agg #[.int .u8 5, .int .u8 64]) w := by kernel_rfl
theorem Tryz.idx3 (w : World) : (Instr.index 367 tabV (.int .i64 3)).run Tryz.prog w = .ok (.agg #[.int .u8 8, .int .u8 192]) w := by kernel_rfl
def flU (n : Int) : Int := if n = 2 then 64 else if n = 4 then 128 else if n = 5 then 64 else if n = 8 then 192 else 0
def flK (n : Int) : Bool := decide (n = 2) || (decide (n = 4) || (decide (n = 5) || decide (n = 8)))
def tabK (k : Nat) : Int := if k = 0 then 2 else if k = 1 then 4 else if k = 2 then 5 else 8

set_option maxRecDepth 100000 in
set_option maxHeartbeats 1600000 in
theorem flagsOf_any (n : Int) (w : World) (ht : TabAt w) :
    Calls Tryz.prog 228 #[.int .u8 n] w fun e w' => e = .returned (.tuple #[.int .u8 (flU n), .bool (flK n)]) ∧ Below w.heap.size w w' := by
  have HT := hide ht
  obtain ⟨hlt, t0, t1, t2, t3, t4, t5, t6, t7⟩ := ht
  go_enter Tryz.func228, Tryz.ntmps228
  go_wp2
  clear t0 t1 t2 t3 t4 t5 t6 t7
  go_loopw [7] (fun i wr => ∃ k : Nat, k ≤ 4 ∧ i = .int .i64 k ∧ (∀ j, j < k → n ≠ tabK j) ∧ Below w.heap.size w wr) (fun i _ => 4 - (intOf i).toNat)
  case atStart => exact ⟨0, by omega, rfl, fun j hj => by omega, Below.refl _ _⟩
  case round =>
    rename World => WR
    obtain ⟨k, hk, rfl, hn, hbe⟩ := hrel
    have HN := hide hn
    have BE := hide hbe
    have hsz := hbe.size
    clear hn hbe
    rcases (by omega : k = 0 ∨ k = 1 ∨ k = 2 ∨ k = 3 ∨ k = 4) with rfl | rfl | rfl | rfl | rfl
    · by_cases h : n = 2
      · subst h
        go_wp2_with (refine wpList_index rfl _ _ _ rfl tabV (.int .i64 0) (.agg #[.int .u8 2, .int .u8 64]) rfl rfl (Tryz.idx0 _) ?_)
        go_ret2
        exact ⟨rfl, (unhide BE).alloc hsz _⟩
      · have d : ((2 : Int) == n) = false := beq_eq_false_iff_ne.2 (fun e => h e.symm)
        have HH := hide h
        clear h
        go_wp2_with (refine wpList_index rfl _ _ _ rfl tabV (.int .i64 0) (.agg #[.int .u8 2, .int .u8 64]) rfl rfl (Tryz.idx0 _) ?_)
        exact ⟨⟨1, by omega, by go_num, fun j hj => by rcases Nat.lt_or_ge j 0 with h1 | h1; exact unhide HN j h1; obtain rfl : j = 0 := (by omega); exact unhide HH, (unhide BE).alloc hsz _⟩, by simp [intOf]⟩
    · by_cases h : n = 4
      · subst h
        go_wp2_with (refine wpList_index rfl _ _ _ rfl tabV (.int .i64 1) (.agg #[.int .u8 4, .int .u8 128]) rfl rfl (Tryz.idx1 _) ?_)
        go_ret2
        exact ⟨rfl, (unhide BE).alloc hsz _⟩
      · have d : ((4 : Int) == n) = false := beq_eq_false_iff_ne.2 (fun e => h e.symm)
        have HH := hide h
        clear h
        go_wp2_with (refine wpList_index rfl _ _ _ rfl tabV (.int .i64 1) (.agg #[.int .u8 4, .int .u8 128]) rfl rfl (Tryz.idx1 _) ?_)
        exact ⟨⟨2, by omega, by go_num, fun j hj => by rcases Nat.lt_or_ge j 1 with h1 | h1; exact unhide HN j h1; obtain rfl : j = 1 := (by omega); exact unhide HH, (unhide BE).alloc hsz _⟩, by simp [intOf]⟩
    · by_cases h : n = 5
      · subst h
        go_wp2_with (refine wpList_index rfl _ _ _ rfl tabV (.int .i64 2) (.agg #[.int .u8 5, .int .u8 64]) rfl rfl (Tryz.idx2 _) ?_)
        go_ret2
        exact ⟨rfl, (unhide BE).alloc hsz _⟩
      · have d : ((5 : Int) == n) = false := beq_eq_false_iff_ne.2 (fun e => h e.symm)
        have HH := hide h
        clear h
        go_wp2_with (refine wpList_index rfl _ _ _ rfl tabV (.int .i64 2) (.agg #[.int .u8 5, .int .u8 64]) rfl rfl (Tryz.idx2 _) ?_)
        exact ⟨⟨3, by omega, by go_num, fun j hj => by rcases Nat.lt_or_ge j 2 with h1 | h1; exact unhide HN j h1; obtain rfl : j = 2 := (by omega); exact unhide HH, (unhide BE).alloc hsz _⟩, by simp [intOf]⟩
    · by_cases h : n = 8
      · subst h
        go_wp2_with (refine wpList_index rfl _ _ _ rfl tabV (.int .i64 3) (.agg #[.int .u8 8, .int .u8 192]) rfl rfl (Tryz.idx3 _) ?_)
        go_ret2
        exact ⟨rfl, (unhide BE).alloc hsz _⟩
      · have d : ((8 : Int) == n) = false := beq_eq_false_iff_ne.2 (fun e => h e.symm)
        have HH := hide h
        clear h
        go_wp2_with (refine wpList_index rfl _ _ _ rfl tabV (.int .i64 3) (.agg #[.int .u8 8, .int .u8 192]) rfl rfl (Tryz.idx3 _) ?_)
        exact ⟨⟨4, by omega, by go_num, fun j hj => by rcases Nat.lt_or_ge j 3 with h1 | h1; exact unhide HN j h1; obtain rfl : j = 3 := (by omega); exact unhide HH, (unhide BE).alloc hsz _⟩, by simp [intOf]⟩
    · have HF := hide (show flU n = 0 ∧ flK n = false from by
        have h0 := unhide HN 0 (by omega)
        have h1 := unhide HN 1 (by omega)
        have h2 := unhide HN 2 (by omega)
        have h3 := unhide HN 3 (by omega)
        simp only [tabK] at h0 h1 h2 h3
        unfold flU flK
        simp_all)
      go_wp2
      go_ret2
      exact ⟨by rw [(unhide HF).1, (unhide HF).2]; rfl, unhide BE⟩

/-- an attribute's value in cells: its flags, its kind, its bytes -/
def attV (f n : Int) (v : Value) : Value := .agg #[.int .u8 f, .int .u8 n, v]
set_option maxHeartbeats 800000 in
theorem attributeOf_any (n : Int) (q : Option Addr) (len c : Nat) (w : World) (ht : TabAt w) :
    Calls Tryz.prog 180 #[.int .u8 n, .slice q len c] w fun e w' => e = .returned (.agg #[.int .u8 (flU n), .int .u8 n, .slice q len c]) ∧ Below w.heap.size w w' := by
  have HT := hide ht
  clear ht
  go_enter Tryz.func180, Tryz.ntmps180
  go_wp2_with fail
  have b0 := (Below.refl w.heap.size w).alloc (Nat.le_refl _) (.cells #[.int .u8 0, .int .u8 0, .slice none 0 0] 279)
  refine (flagsOf_any n _ ((unhide HT).below b0)).mono ?_
  rintro e w1 ⟨rfl, hb1⟩
  have q1 := (hb1.block w.heap.size (by simp)).trans (heap_alloc_new w _)
  have B1 := hide (b0.trans (hb1.mono b0.size))
  have hf : ∀ o, w1.frozen? ⟨w.heap.size, o, none⟩ = false := fun o => frozen_of_heap q1
  have c0 : w1.cell? ⟨w.heap.size, 0, none⟩ = some (.int .u8 0) := cell_of_heap q1
  have c1 : w1.cell? ⟨w.heap.size, 1, none⟩ = some (.int .u8 0) := cell_of_heap q1
  have c2 : w1.cell? ⟨w.heap.size, 2, none⟩ = some (.slice none 0 0) := cell_of_heap q1
  have Q1 := hide q1
  clear hb1 q1 b0
  go_wp2_with fail
  refine bodyPost_ret (v := .agg #[.int .u8 (flU n), .int .u8 n, .slice q len c]) (by simp [results, Tryz.results180, go_sem, c0, c1, c2]) rfl ⟨rfl, ?_⟩
  exact (((unhide B1).setCell (Nat.le_refl _) _).setCell (Nat.le_refl _) _).setCell (Nat.le_refl _) _

set_option maxHeartbeats 800000 in
theorem known_any (f n : Int) (q : Option Addr) (len c : Nat) (w : World) (ht : TabAt w) :
    Calls Tryz.prog 186 #[.agg #[.int .u8 f, .int .u8 n, .slice q len c]] w fun e w' => e = .returned (.bool (flK n && (flU n == f))) ∧ Below w.heap.size w w' := by
  have HT := hide ht
  clear ht
  go_enter Tryz.func186, Tryz.ntmps186
  go_wp2_with fail
  have b0 := (Below.refl w.heap.size w).alloc (Nat.le_refl _) (.cells #[.int .u8 f, .int .u8 n, .slice q len c] 279)
  refine (flagsOf_any n _ ((unhide HT).below b0)).mono ?_
  rintro e w1 ⟨rfl, hb1⟩
  have q1 := (hb1.block w.heap.size (by simp)).trans (heap_alloc_new w _)
  have B1 := hide (b0.trans (hb1.mono b0.size))
  have c0 : w1.cell? ⟨w.heap.size, 0, none⟩ = some (.int .u8 f) := cell_of_heap q1
  clear hb1 q1 b0
  cases hk : flK n with
  | false =>
    go_wp2
    go_ret
    exact ⟨by simp [hk], unhide B1⟩
  | true =>
    go_wp2
    go_ret
    exact ⟨by simp [hk], unhide B1⟩
end Go.Proofs.YtgngdklkoilaiaaGreatDoor
