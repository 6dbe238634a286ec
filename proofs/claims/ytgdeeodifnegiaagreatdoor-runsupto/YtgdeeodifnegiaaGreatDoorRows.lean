/-
  NARROWER THAN 'FOR EVERY INPUT', by the rows' own cells (each row's printed sentence says how): Compiles: laid · Prints: laid · Runs: laid.
  DERIVED. THE GIVEN ROWS OF THIS SEAT. 3 by the template 'for every input the law returns true; each argument reads behind the call as it read before'; 0 by the template 'total and deterministic' (their statements: YtgdeeodifnegiaaGreatDoorTotals.lean).
  GIVEN WITH THE SEED: the statements are not yours to turn. If you find one false, say at which input.
  Laid BY PROGRAM, IN A SANDBOX (cutbox-rows.mjs): the forced cells as the released guide's own fill.sh prints them over the translation f6c9c9f6550e5cb9… (all of the seat's roots in one cut). By AI agents, Wed Nov 11 2026. No macro, syntax, notation, axiom, sorry.
-/
import Derived.Test.YtgdeeodifnegiaaGreatDoorChecked
import GoSem.PinnedTables
import GoSem.Claim
import GoSem.ClaimJoined
import GoSem.ClaimMapViews
import Derived.JoinedTies
import Derived.KernelRfl
namespace Go.Proofs.YtgdeeodifnegiaaGreatDoor
/- THE CELL 'sum', in the pinned program and in every row, IS THE sha256 OF THE DUMP (.gsa) THAT YtgdeeodifnegiaaGreatDoorProg.lean LOADS. Nothing in Lean hashes anything: it is a label: what it is worth is what the hold of that sum in a sandbox is worth. -/
noncomputable def Tryz.pinned : Pinned := { name := "ytgdeeodifnegiaagreatdoor", sum := "f6c9c9f6550e5cb9a114a582365f4620e76bae2d25546228668e44d9989c7167", checked := Tryz.checked }
namespace Rows
def none {H : Type} : Left H := { results := [], args := [] }

/- WHAT THE LISTED PACKAGE-LEVEL VARIABLES READ AS WHEN THE CALL BEGINS. Each datum BY PROGRAM (the guide's laid-datum.mjs) off the statement by which the dump's own 'gosem.cut.vars' lays the variable. In a bare row this is a premise. The card (YtgdeeodifnegiaaGreatDoorCards.lean) ties it to the program's text. -/
def laid_unicode_utf8_acceptRanges {H : Type} : DataW H := .agg [.agg [.lit (.int .u8 128), .lit (.int .u8 191)], .agg [.lit (.int .u8 160), .lit (.int .u8 191)], .agg [.lit (.int .u8 128), .lit (.int .u8 159)], .agg [.lit (.int .u8 144), .lit (.int .u8 191)], .agg [.lit (.int .u8 128), .lit (.int .u8 143)], .agg [.lit (.int .u8 0), .lit (.int .u8 0)], .agg [.lit (.int .u8 0), .lit (.int .u8 0)], .agg [.lit (.int .u8 0), .lit (.int .u8 0)], .agg [.lit (.int .u8 0), .lit (.int .u8 0)], .agg [.lit (.int .u8 0), .lit (.int .u8 0)], .agg [.lit (.int .u8 0), .lit (.int .u8 0)], .agg [.lit (.int .u8 0), .lit (.int .u8 0)], .agg [.lit (.int .u8 0), .lit (.int .u8 0)], .agg [.lit (.int .u8 0), .lit (.int .u8 0)], .agg [.lit (.int .u8 0), .lit (.int .u8 0)], .agg [.lit (.int .u8 0), .lit (.int .u8 0)]]
def laid_byway_messages_flagsTable {H : Type} : DataW H := .agg [.agg [.lit (.int .u8 2), .lit (.int .u8 64)], .agg [.lit (.int .u8 4), .lit (.int .u8 128)], .agg [.lit (.int .u8 5), .lit (.int .u8 64)], .agg [.lit (.int .u8 8), .lit (.int .u8 192)]]
def laid_byway_token_words {H : Type} : DataW H := .agg [.agg [.lit (.string [115, 101, 116]), .lit (.int .i64 5)], .agg [.lit (.string [119, 97, 121]), .lit (.int .i64 6)], .agg [.lit (.string [97, 99, 99, 101, 112, 116]), .lit (.int .i64 7)], .agg [.lit (.string [114, 101, 106, 101, 99, 116]), .lit (.int .i64 8)], .agg [.lit (.string [112, 114, 101, 102]), .lit (.int .i64 9)], .agg [.lit (.string [109, 101, 100]), .lit (.int .i64 10)], .agg [.lit (.string [109, 97, 114, 107]), .lit (.int .i64 11)], .agg [.lit (.string [117, 110, 109, 97, 114, 107]), .lit (.int .i64 12)], .agg [.lit (.string [112, 114, 101, 112, 101, 110, 100]), .lit (.int .i64 13)], .agg [.lit (.string [105, 102]), .lit (.int .i64 14)], .agg [.lit (.string [116, 104, 101, 110]), .lit (.int .i64 15)], .agg [.lit (.string [101, 108, 115, 101]), .lit (.int .i64 16)], .agg [.lit (.string [108, 101, 110]), .lit (.int .i64 17)], .agg [.lit (.string [111, 114]), .lit (.int .i64 18)], .agg [.lit (.string [97, 110, 100]), .lit (.int .i64 19)], .agg [.lit (.string [110, 111, 116]), .lit (.int .i64 20)], .agg [.lit (.string [110, 101, 116]), .lit (.int .i64 21)], .agg [.lit (.string [105, 110]), .lit (.int .i64 22)], .agg [.lit (.string [112, 97, 116, 104]), .lit (.int .i64 23)], .agg [.lit (.string [108, 105, 107, 101]), .lit (.int .i64 24)], .agg [.lit (.string [109, 97, 114, 107, 101, 100]), .lit (.int .i64 25)]]
def laid_byway_token_signs {H : Type} : DataW H := .agg [.agg [.lit (.int .u8 61), .lit (.int .i64 26)], .agg [.lit (.int .u8 59), .lit (.int .i64 27)], .agg [.lit (.int .u8 44), .lit (.int .i64 28)], .agg [.lit (.int .u8 123), .lit (.int .i64 29)], .agg [.lit (.int .u8 125), .lit (.int .i64 30)], .agg [.lit (.int .u8 91), .lit (.int .i64 31)], .agg [.lit (.int .u8 93), .lit (.int .i64 32)], .agg [.lit (.int .u8 40), .lit (.int .i64 33)], .agg [.lit (.int .u8 41), .lit (.int .i64 34)], .agg [.lit (.int .u8 124), .lit (.int .i64 35)], .agg [.lit (.int .u8 42), .lit (.int .i64 36)], .agg [.lit (.int .u8 63), .lit (.int .i64 37)], .agg [.lit (.int .u8 43), .lit (.int .i64 38)], .agg [.lit (.int .u8 45), .lit (.int .i64 39)], .agg [.lit (.int .u8 60), .lit (.int .i64 40)], .agg [.lit (.int .u8 46), .lit (.int .i64 41)]]
/-- One of Go's own tables, pinned by name: the form's constant. -/
def laid_unicode_utf8_first : DataW Unit := Go.Pinned.utf8First

/-- 'bywaylaw.Compiles': WHATEVER THE INPUT: true; the input reads as it did. -/
def compilesSpec : ChangeSpec := { name := "compiles", fn := fun _ => fun
  | [d] => { results := [.lit (.bool true)], args := [d] }
  | _ => none }
def compilesRow : OpenClaim := { program := "ytgdeeodifnegiaagreatdoor", sum := "f6c9c9f6550e5cb9a114a582365f4620e76bae2d25546228668e44d9989c7167", func := "byway/bywaylaw.Compiles", spec := "compiles", inPlace := ["internal/bytealg.IndexByteString", "internal/bytealg.IndexString", "internal/bytealg.CountString", "internal/abi.NoEscape", "slices.overlaps[int]", "slices.overlaps[byway/api.Route]"], unfollowed := true, recurses := true, named := ["byway/token.words", "internal/bytealg.MaxLen", "unicode/utf8.first", "unicode/utf8.acceptRanges", "byway/token.signs", "byway/messages.flagsTable"], apart := false, laid := [("unicode/utf8.acceptRanges", laid_unicode_utf8_acceptRanges), ("byway/messages.flagsTable", laid_byway_messages_flagsTable), ("byway/token.words", laid_byway_token_words), ("byway/token.signs", laid_byway_token_signs), ("unicode/utf8.first", laid_unicode_utf8_first)] }
def CompilesSaid : Prop := compilesRow.holds Tryz.pinned (OpenSpec.ofChange compilesSpec)

/-- ITS FALSE NEIGHBOUR: 'it returns false'. Refute it at one input. -/
def compilesWrong : ChangeSpec := { name := "compiles", fn := fun _ => fun
  | [d] => { results := [.lit (.bool false)], args := [d] }
  | _ => none }
def CompilesWrongFalsely : Prop := compilesRow.holds Tryz.pinned (OpenSpec.ofChange compilesWrong)

/-- 'bywaylaw.Prints': WHATEVER THE INPUT: true; the input reads as it did. -/
def printsSpec : ChangeSpec := { name := "prints", fn := fun _ => fun
  | [d] => { results := [.lit (.bool true)], args := [d] }
  | _ => none }
def printsRow : OpenClaim := { program := "ytgdeeodifnegiaagreatdoor", sum := "f6c9c9f6550e5cb9a114a582365f4620e76bae2d25546228668e44d9989c7167", func := "byway/bywaylaw.Prints", spec := "prints", inPlace := ["internal/bytealg.IndexByteString", "internal/bytealg.IndexString", "internal/bytealg.CountString", "internal/abi.NoEscape", "slices.overlaps[int]", "slices.overlaps[byway/api.Route]"], unfollowed := true, recurses := true, named := ["byway/token.words", "internal/bytealg.MaxLen", "unicode/utf8.first", "unicode/utf8.acceptRanges", "byway/token.signs", "byway/messages.flagsTable"], apart := false, laid := [("unicode/utf8.acceptRanges", laid_unicode_utf8_acceptRanges), ("byway/messages.flagsTable", laid_byway_messages_flagsTable), ("byway/token.words", laid_byway_token_words), ("byway/token.signs", laid_byway_token_signs), ("unicode/utf8.first", laid_unicode_utf8_first)] }
def PrintsSaid : Prop := printsRow.holds Tryz.pinned (OpenSpec.ofChange printsSpec)

/-- ITS FALSE NEIGHBOUR: 'it returns false'. Refute it at one input. -/
def printsWrong : ChangeSpec := { name := "prints", fn := fun _ => fun
  | [d] => { results := [.lit (.bool false)], args := [d] }
  | _ => none }
def PrintsWrongFalsely : Prop := printsRow.holds Tryz.pinned (OpenSpec.ofChange printsWrong)

/-- 'bywaylaw.Runs': WHATEVER THE INPUT: true; the input reads as it did. -/
def runsSpec : ChangeSpec := { name := "runs", fn := fun _ => fun
  | [d] => { results := [.lit (.bool true)], args := [d] }
  | _ => none }
def runsRow : OpenClaim := { program := "ytgdeeodifnegiaagreatdoor", sum := "f6c9c9f6550e5cb9a114a582365f4620e76bae2d25546228668e44d9989c7167", func := "byway/bywaylaw.Runs", spec := "runs", inPlace := ["internal/bytealg.IndexByteString", "internal/bytealg.IndexString", "internal/bytealg.CountString", "internal/abi.NoEscape", "slices.overlaps[int]", "slices.overlaps[byway/api.Route]"], unfollowed := true, recurses := true, named := ["byway/token.words", "internal/bytealg.MaxLen", "unicode/utf8.first", "unicode/utf8.acceptRanges", "byway/token.signs", "byway/messages.flagsTable"], apart := false, laid := [("unicode/utf8.acceptRanges", laid_unicode_utf8_acceptRanges), ("byway/messages.flagsTable", laid_byway_messages_flagsTable), ("byway/token.words", laid_byway_token_words), ("byway/token.signs", laid_byway_token_signs), ("unicode/utf8.first", laid_unicode_utf8_first)] }
def RunsSaid : Prop := runsRow.holds Tryz.pinned (OpenSpec.ofChange runsSpec)

/-- ITS FALSE NEIGHBOUR: 'it returns false'. Refute it at one input. -/
def runsWrong : ChangeSpec := { name := "runs", fn := fun _ => fun
  | [d] => { results := [.lit (.bool false)], args := [d] }
  | _ => none }
def RunsWrongFalsely : Prop := runsRow.holds Tryz.pinned (OpenSpec.ofChange runsWrong)

/- THE SECOND FORM. 'bulk': how many values and letters a reading holds, each counted each time it is reached (what is shared counts as often as it is met; a slice's spare places count too). A statement '..UptoSaid' is the law's where the arguments, and the package variables that the reading takes, are together of bulk at most 1048576: NARROWER than '..Said'. Prove '..Said' where nothing that the law and all that it calls make is longer than what came in: it says more and counts as full. Else prove '..UptoSaid'. A law counts once. -/
mutual
def uptoBulk {H : Type} : DataW H → Nat
  | .lit (.string bytes) => bytes.length + 1
  | .lit _ => 1
  | .nil => 1
  | .ptr d => uptoBulk d + 1
  | .slice elems spare => uptoBulkAll elems + uptoBulkAll spare + 1
  | .agg parts => uptoBulkAll parts + 1
  | .iface _ d => uptoBulk d + 1
  | .map entries => uptoBulkEntries entries + 1
  | .held _ => 1
def uptoBulkAll {H : Type} : List (DataW H) → Nat
  | [] => 0
  | d :: r => uptoBulk d + uptoBulkAll r
def uptoBulkEntries {H : Type} : List (Lit × DataW H) → Nat
  | [] => 0
  | x :: r => uptoBulkEntry x + uptoBulkEntries r
def uptoBulkEntry {H : Type} : Lit × DataW H → Nat
  | (.string bytes, d) => bytes.length + uptoBulk d + 1
  | (_, d) => uptoBulk d + 1
 end
def uptoSmall : (H : Type) → List (DataW H) → Bool := fun _ ds => decide (uptoBulkAll ds ≤ 1048576)
def OpenSpec.upto (s : _root_.Go.ChangeSpec) : _root_.Go.OpenSpec := { _root_.Go.OpenSpec.ofChange s with cond := some uptoSmall }

/-- 'bywaylaw.Compiles', WHERE WHAT IT READS IS OF BULK AT MOST 1048576: true; the input reads as it did. -/
def compilesUptoRow : OpenClaim := { program := "ytgdeeodifnegiaagreatdoor", sum := "f6c9c9f6550e5cb9a114a582365f4620e76bae2d25546228668e44d9989c7167", func := "byway/bywaylaw.Compiles", spec := "compiles", inPlace := ["internal/bytealg.IndexByteString", "internal/bytealg.IndexString", "internal/bytealg.CountString", "internal/abi.NoEscape", "slices.overlaps[int]", "slices.overlaps[byway/api.Route]"], unfollowed := true, recurses := true, named := ["byway/token.words", "internal/bytealg.MaxLen", "unicode/utf8.first", "unicode/utf8.acceptRanges", "byway/token.signs", "byway/messages.flagsTable"], apart := false, laid := [("unicode/utf8.acceptRanges", laid_unicode_utf8_acceptRanges), ("byway/messages.flagsTable", laid_byway_messages_flagsTable), ("byway/token.words", laid_byway_token_words), ("byway/token.signs", laid_byway_token_signs), ("unicode/utf8.first", laid_unicode_utf8_first)], narrowed := true }
def CompilesUptoSaid : Prop := compilesUptoRow.holds Tryz.pinned (OpenSpec.upto compilesSpec)

/-- 'bywaylaw.Prints', WHERE WHAT IT READS IS OF BULK AT MOST 1048576: true; the input reads as it did. -/
def printsUptoRow : OpenClaim := { program := "ytgdeeodifnegiaagreatdoor", sum := "f6c9c9f6550e5cb9a114a582365f4620e76bae2d25546228668e44d9989c7167", func := "byway/bywaylaw.Prints", spec := "prints", inPlace := ["internal/bytealg.IndexByteString", "internal/bytealg.IndexString", "internal/bytealg.CountString", "internal/abi.NoEscape", "slices.overlaps[int]", "slices.overlaps[byway/api.Route]"], unfollowed := true, recurses := true, named := ["byway/token.words", "internal/bytealg.MaxLen", "unicode/utf8.first", "unicode/utf8.acceptRanges", "byway/token.signs", "byway/messages.flagsTable"], apart := false, laid := [("unicode/utf8.acceptRanges", laid_unicode_utf8_acceptRanges), ("byway/messages.flagsTable", laid_byway_messages_flagsTable), ("byway/token.words", laid_byway_token_words), ("byway/token.signs", laid_byway_token_signs), ("unicode/utf8.first", laid_unicode_utf8_first)], narrowed := true }
def PrintsUptoSaid : Prop := printsUptoRow.holds Tryz.pinned (OpenSpec.upto printsSpec)

/-- 'bywaylaw.Runs', WHERE WHAT IT READS IS OF BULK AT MOST 1048576: true; the input reads as it did. -/
def runsUptoRow : OpenClaim := { program := "ytgdeeodifnegiaagreatdoor", sum := "f6c9c9f6550e5cb9a114a582365f4620e76bae2d25546228668e44d9989c7167", func := "byway/bywaylaw.Runs", spec := "runs", inPlace := ["internal/bytealg.IndexByteString", "internal/bytealg.IndexString", "internal/bytealg.CountString", "internal/abi.NoEscape", "slices.overlaps[int]", "slices.overlaps[byway/api.Route]"], unfollowed := true, recurses := true, named := ["byway/token.words", "internal/bytealg.MaxLen", "unicode/utf8.first", "unicode/utf8.acceptRanges", "byway/token.signs", "byway/messages.flagsTable"], apart := false, laid := [("unicode/utf8.acceptRanges", laid_unicode_utf8_acceptRanges), ("byway/messages.flagsTable", laid_byway_messages_flagsTable), ("byway/token.words", laid_byway_token_words), ("byway/token.signs", laid_byway_token_signs), ("unicode/utf8.first", laid_unicode_utf8_first)], narrowed := true }
def RunsUptoSaid : Prop := runsUptoRow.holds Tryz.pinned (OpenSpec.upto runsSpec)

end Rows
end Go.Proofs.YtgdeeodifnegiaaGreatDoor
