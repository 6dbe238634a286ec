/- A fact kept from the walk, and taken out again. -/
import Derived.WalkKit
namespace Go.Proofs.YtgdeeodifnegiaaGreatDoor
open Go.RowKit
theorem hide {p : Prop} (h : p) : Hid p := h
theorem unhide {p : Prop} (h : Hid p) : p := h
end Go.Proofs.YtgdeeodifnegiaaGreatDoor
