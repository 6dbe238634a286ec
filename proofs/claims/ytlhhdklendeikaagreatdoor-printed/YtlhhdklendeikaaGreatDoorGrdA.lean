/- A list of lists of numbers in memory. -/
import Derived.Test.YtlhhdklendeikaaGreatDoorBase
namespace Go.Proofs.YtlhhdklendeikaaGreatDoor
open Go.RowKit

def GridAt (W : World) (v : Value) (ls : List (List Int)) : Prop :=
  ∃ p c, v = .slice p ls.length c ∧ (ls.length : Int) ≤ 17592186044416 ∧ (ls = [] ∨ ∃ b o, p = some ⟨b, o, none⟩ ∧ b < W.heap.size ∧ ∀ j, (h : j < ls.length) → ∃ x, W.cell? ⟨b, o + j, none⟩ = some x ∧ IntsAt W x ls[j])
end Go.Proofs.YtlhhdklendeikaaGreatDoor
