/-
  NARROWER THAN 'FOR EVERY INPUT', by the rows' own cells (each row's printed sentence says how): StreamPlays: laid · StreamBounds: laid · StreamTwice: laid · StreamRolls: laid · StreamRefuses: laid · StreamStops: laid.
  DERIVED. THE GIVEN ROWS OF THIS SEAT. 6 by the template 'for every input the law returns true; each argument reads behind the call as it read before'; 0 by the template 'total and deterministic' (their statements: YtidekgipblnpkaaGreatDoorTotals.lean).
  GIVEN WITH THE SEED: the statements are not yours to turn. If you find one false, say at which input.
  Laid BY PROGRAM, IN A SANDBOX (cutbox-rows.mjs): the forced cells as the released guide's own fill.sh prints them over the translation 0c8dc4373e71b3b6… (all of the seat's roots in one cut). By AI agents, Wed Nov 11 2026. No macro, syntax, notation, axiom, sorry.
-/
import Derived.Test.YtidekgipblnpkaaGreatDoorChecked
import GoSem.PinnedTables
import GoSem.Claim
import GoSem.ClaimJoined
import GoSem.ClaimMapViews
import Derived.JoinedTies
import Derived.KernelRfl
namespace Go.Proofs.YtidekgipblnpkaaGreatDoor
/- THE CELL 'sum', in the pinned program and in every row, IS THE sha256 OF THE DUMP (.gsa) THAT YtidekgipblnpkaaGreatDoorProg.lean LOADS. Nothing in Lean hashes anything: it is a label: what it is worth is what the hold of that sum in a sandbox is worth. -/
noncomputable def Tryz.pinned : Pinned := { name := "ytidekgipblnpkaagreatdoor", sum := "0c8dc4373e71b3b656b85cf2935c02a50bc97642563667040938057065f4996f", checked := Tryz.checked }
namespace Rows
def none {H : Type} : Left H := { results := [], args := [] }

/- WHAT THE LISTED PACKAGE-LEVEL VARIABLES READ AS WHEN THE CALL BEGINS. Each datum BY PROGRAM (the guide's laid-datum.mjs) off the statement by which the dump's own 'gosem.cut.vars' lays the variable. In a bare row this is a premise. The card (YtidekgipblnpkaaGreatDoorCards.lean) ties it to the program's text. -/
def laid_unicode_utf8_acceptRanges {H : Type} : DataW H := .agg [.agg [.lit (.int .u8 128), .lit (.int .u8 191)], .agg [.lit (.int .u8 160), .lit (.int .u8 191)], .agg [.lit (.int .u8 128), .lit (.int .u8 159)], .agg [.lit (.int .u8 144), .lit (.int .u8 191)], .agg [.lit (.int .u8 128), .lit (.int .u8 143)], .agg [.lit (.int .u8 0), .lit (.int .u8 0)], .agg [.lit (.int .u8 0), .lit (.int .u8 0)], .agg [.lit (.int .u8 0), .lit (.int .u8 0)], .agg [.lit (.int .u8 0), .lit (.int .u8 0)], .agg [.lit (.int .u8 0), .lit (.int .u8 0)], .agg [.lit (.int .u8 0), .lit (.int .u8 0)], .agg [.lit (.int .u8 0), .lit (.int .u8 0)], .agg [.lit (.int .u8 0), .lit (.int .u8 0)], .agg [.lit (.int .u8 0), .lit (.int .u8 0)], .agg [.lit (.int .u8 0), .lit (.int .u8 0)], .agg [.lit (.int .u8 0), .lit (.int .u8 0)]]
def laid_rillbook_plan_bounds {H : Type} : DataW H := .agg [.agg [.lit (.string [109, 115, 103, 115]), .lit (.int .i64 200)], .agg [.lit (.string [98, 121, 116, 101, 115]), .lit (.int .i64 65536)], .agg [.lit (.string [97, 103, 101]), .lit (.int .i64 100000)], .agg [.lit (.string [112, 101, 114]), .lit (.int .i64 200)], .agg [.lit (.string [115, 105, 122, 101]), .lit (.int .i64 256)], .agg [.lit (.string [100, 105, 115, 99, 97, 114, 100]), .lit (.int .i64 1)], .agg [.lit (.string [107, 101, 101, 112]), .lit (.int .i64 2)], .agg [.lit (.string [119, 105, 110, 100, 111, 119]), .lit (.int .i64 100000)]]
/-- One of Go's own tables, pinned by name: the form's constant. -/
def laid_unicode_utf8_first : DataW Unit := Go.Pinned.utf8First

/-- 'rilllaw.StreamPlays': WHATEVER THE INPUT: true; the input reads as it did. -/
def streamPlaysSpec : ChangeSpec := { name := "streamPlays", fn := fun _ => fun
  | [d1, d2, d3, d4, d5] => { results := [.lit (.bool true)], args := [d1, d2, d3, d4, d5] }
  | _ => none }
def streamPlaysRow : OpenClaim := { program := "ytidekgipblnpkaagreatdoor", sum := "0c8dc4373e71b3b656b85cf2935c02a50bc97642563667040938057065f4996f", func := "rillbook/rilllaw.StreamPlays", spec := "streamPlays", inPlace := ["internal/bytealg.CountString", "internal/bytealg.IndexByteString", "internal/bytealg.IndexString", "slices.overlaps[rillbook/api.Entry]", "slices.overlaps[rillbook/api.Record]", "slices.overlaps[rillbook/rillref.Paper]", "internal/abi.NoEscape"], unfollowed := true, recurses := true, named := ["rillbook/plan.bounds", "internal/bytealg.MaxLen", "unicode/utf8.first", "unicode/utf8.acceptRanges"], apart := false, laid := [("unicode/utf8.acceptRanges", laid_unicode_utf8_acceptRanges), ("rillbook/plan.bounds", laid_rillbook_plan_bounds), ("unicode/utf8.first", laid_unicode_utf8_first)] }
def StreamPlaysSaid : Prop := streamPlaysRow.holds Tryz.pinned (OpenSpec.ofChange streamPlaysSpec)

/-- ITS FALSE NEIGHBOUR: 'it returns false'. Refute it at one input. -/
def streamPlaysWrong : ChangeSpec := { name := "streamPlays", fn := fun _ => fun
  | [d1, d2, d3, d4, d5] => { results := [.lit (.bool false)], args := [d1, d2, d3, d4, d5] }
  | _ => none }
def StreamPlaysWrongFalsely : Prop := streamPlaysRow.holds Tryz.pinned (OpenSpec.ofChange streamPlaysWrong)

/-- 'rillkeep.StreamBounds': WHATEVER THE INPUT: true; the input reads as it did. -/
def streamBoundsSpec : ChangeSpec := { name := "streamBounds", fn := fun _ => fun
  | [d1, d2, d3, d4] => { results := [.lit (.bool true)], args := [d1, d2, d3, d4] }
  | _ => none }
def streamBoundsRow : OpenClaim := { program := "ytidekgipblnpkaagreatdoor", sum := "0c8dc4373e71b3b656b85cf2935c02a50bc97642563667040938057065f4996f", func := "rillbook/rillkeep.StreamBounds", spec := "streamBounds", inPlace := ["internal/bytealg.CountString", "internal/bytealg.IndexByteString", "internal/bytealg.IndexString", "slices.overlaps[rillbook/api.Entry]", "slices.overlaps[rillbook/api.Record]"], unfollowed := true, recurses := true, named := ["rillbook/plan.bounds", "internal/bytealg.MaxLen", "unicode/utf8.first", "unicode/utf8.acceptRanges"], apart := false, laid := [("unicode/utf8.acceptRanges", laid_unicode_utf8_acceptRanges), ("rillbook/plan.bounds", laid_rillbook_plan_bounds), ("unicode/utf8.first", laid_unicode_utf8_first)] }
def StreamBoundsSaid : Prop := streamBoundsRow.holds Tryz.pinned (OpenSpec.ofChange streamBoundsSpec)

/-- ITS FALSE NEIGHBOUR: 'it returns false'. Refute it at one input. -/
def streamBoundsWrong : ChangeSpec := { name := "streamBounds", fn := fun _ => fun
  | [d1, d2, d3, d4] => { results := [.lit (.bool false)], args := [d1, d2, d3, d4] }
  | _ => none }
def StreamBoundsWrongFalsely : Prop := streamBoundsRow.holds Tryz.pinned (OpenSpec.ofChange streamBoundsWrong)

/-- 'rillkeep.StreamTwice': WHATEVER THE INPUT: true; the input reads as it did. -/
def streamTwiceSpec : ChangeSpec := { name := "streamTwice", fn := fun _ => fun
  | [d1, d2, d3, d4] => { results := [.lit (.bool true)], args := [d1, d2, d3, d4] }
  | _ => none }
def streamTwiceRow : OpenClaim := { program := "ytidekgipblnpkaagreatdoor", sum := "0c8dc4373e71b3b656b85cf2935c02a50bc97642563667040938057065f4996f", func := "rillbook/rillkeep.StreamTwice", spec := "streamTwice", inPlace := ["internal/bytealg.CountString", "internal/bytealg.IndexByteString", "internal/bytealg.IndexString", "slices.overlaps[rillbook/api.Entry]", "slices.overlaps[rillbook/api.Record]"], unfollowed := true, recurses := true, named := ["rillbook/plan.bounds", "internal/bytealg.MaxLen", "unicode/utf8.first", "unicode/utf8.acceptRanges"], apart := false, laid := [("unicode/utf8.acceptRanges", laid_unicode_utf8_acceptRanges), ("rillbook/plan.bounds", laid_rillbook_plan_bounds), ("unicode/utf8.first", laid_unicode_utf8_first)] }
def StreamTwiceSaid : Prop := streamTwiceRow.holds Tryz.pinned (OpenSpec.ofChange streamTwiceSpec)

/-- ITS FALSE NEIGHBOUR: 'it returns false'. Refute it at one input. -/
def streamTwiceWrong : ChangeSpec := { name := "streamTwice", fn := fun _ => fun
  | [d1, d2, d3, d4] => { results := [.lit (.bool false)], args := [d1, d2, d3, d4] }
  | _ => none }
def StreamTwiceWrongFalsely : Prop := streamTwiceRow.holds Tryz.pinned (OpenSpec.ofChange streamTwiceWrong)

/-- 'rillkeep.StreamRolls': WHATEVER THE INPUT: true; the input reads as it did. -/
def streamRollsSpec : ChangeSpec := { name := "streamRolls", fn := fun _ => fun
  | [d1, d2, d3] => { results := [.lit (.bool true)], args := [d1, d2, d3] }
  | _ => none }
def streamRollsRow : OpenClaim := { program := "ytidekgipblnpkaagreatdoor", sum := "0c8dc4373e71b3b656b85cf2935c02a50bc97642563667040938057065f4996f", func := "rillbook/rillkeep.StreamRolls", spec := "streamRolls", inPlace := ["internal/bytealg.CountString", "internal/bytealg.IndexByteString", "internal/bytealg.IndexString", "slices.overlaps[rillbook/api.Entry]", "slices.overlaps[rillbook/api.Record]"], unfollowed := true, recurses := true, named := ["rillbook/plan.bounds", "internal/bytealg.MaxLen", "unicode/utf8.first", "unicode/utf8.acceptRanges"], apart := false, laid := [("unicode/utf8.acceptRanges", laid_unicode_utf8_acceptRanges), ("rillbook/plan.bounds", laid_rillbook_plan_bounds), ("unicode/utf8.first", laid_unicode_utf8_first)] }
def StreamRollsSaid : Prop := streamRollsRow.holds Tryz.pinned (OpenSpec.ofChange streamRollsSpec)

/-- ITS FALSE NEIGHBOUR: 'it returns false'. Refute it at one input. -/
def streamRollsWrong : ChangeSpec := { name := "streamRolls", fn := fun _ => fun
  | [d1, d2, d3] => { results := [.lit (.bool false)], args := [d1, d2, d3] }
  | _ => none }
def StreamRollsWrongFalsely : Prop := streamRollsRow.holds Tryz.pinned (OpenSpec.ofChange streamRollsWrong)

/-- 'rillkeep.StreamRefuses': WHATEVER THE INPUT: true; the input reads as it did. -/
def streamRefusesSpec : ChangeSpec := { name := "streamRefuses", fn := fun _ => fun
  | [d1, d2, d3] => { results := [.lit (.bool true)], args := [d1, d2, d3] }
  | _ => none }
def streamRefusesRow : OpenClaim := { program := "ytidekgipblnpkaagreatdoor", sum := "0c8dc4373e71b3b656b85cf2935c02a50bc97642563667040938057065f4996f", func := "rillbook/rillkeep.StreamRefuses", spec := "streamRefuses", inPlace := ["internal/bytealg.CountString", "internal/bytealg.IndexByteString", "internal/bytealg.IndexString", "slices.overlaps[rillbook/api.Entry]", "slices.overlaps[rillbook/api.Record]"], unfollowed := true, recurses := true, named := ["rillbook/plan.bounds", "internal/bytealg.MaxLen", "unicode/utf8.first", "unicode/utf8.acceptRanges"], apart := false, laid := [("unicode/utf8.acceptRanges", laid_unicode_utf8_acceptRanges), ("rillbook/plan.bounds", laid_rillbook_plan_bounds), ("unicode/utf8.first", laid_unicode_utf8_first)] }
def StreamRefusesSaid : Prop := streamRefusesRow.holds Tryz.pinned (OpenSpec.ofChange streamRefusesSpec)

/-- ITS FALSE NEIGHBOUR: 'it returns false'. Refute it at one input. -/
def streamRefusesWrong : ChangeSpec := { name := "streamRefuses", fn := fun _ => fun
  | [d1, d2, d3] => { results := [.lit (.bool false)], args := [d1, d2, d3] }
  | _ => none }
def StreamRefusesWrongFalsely : Prop := streamRefusesRow.holds Tryz.pinned (OpenSpec.ofChange streamRefusesWrong)

/-- 'rillkeep.StreamStops': WHATEVER THE INPUT: true; the input reads as it did. -/
def streamStopsSpec : ChangeSpec := { name := "streamStops", fn := fun _ => fun
  | [d1, d2, d3] => { results := [.lit (.bool true)], args := [d1, d2, d3] }
  | _ => none }
def streamStopsRow : OpenClaim := { program := "ytidekgipblnpkaagreatdoor", sum := "0c8dc4373e71b3b656b85cf2935c02a50bc97642563667040938057065f4996f", func := "rillbook/rillkeep.StreamStops", spec := "streamStops", inPlace := ["internal/bytealg.CountString", "internal/bytealg.IndexByteString", "internal/bytealg.IndexString", "slices.overlaps[rillbook/api.Entry]", "slices.overlaps[rillbook/api.Record]"], unfollowed := true, recurses := true, named := ["rillbook/plan.bounds", "internal/bytealg.MaxLen", "unicode/utf8.first", "unicode/utf8.acceptRanges"], apart := false, laid := [("unicode/utf8.acceptRanges", laid_unicode_utf8_acceptRanges), ("rillbook/plan.bounds", laid_rillbook_plan_bounds), ("unicode/utf8.first", laid_unicode_utf8_first)] }
def StreamStopsSaid : Prop := streamStopsRow.holds Tryz.pinned (OpenSpec.ofChange streamStopsSpec)

/-- ITS FALSE NEIGHBOUR: 'it returns false'. Refute it at one input. -/
def streamStopsWrong : ChangeSpec := { name := "streamStops", fn := fun _ => fun
  | [d1, d2, d3] => { results := [.lit (.bool false)], args := [d1, d2, d3] }
  | _ => none }
def StreamStopsWrongFalsely : Prop := streamStopsRow.holds Tryz.pinned (OpenSpec.ofChange streamStopsWrong)

/- THE SECOND FORM. 'bulk': how many values and letters a reading holds, each counted each time it is reached (what is shared counts as often as it is met; a slice's spare places count too). A statement '..UptoSaid' is the law's where the arguments, and the package variables that the reading takes, are together of bulk at most 1048576: NARROWER than '..Said'. Prove '..Said' where nothing that the law and all that it calls make is longer than what came in: it says more and counts as full. Else prove '..UptoSaid'. A law counts once. -/
mutual
def uptoBulk {H : Type} : DataW H → Nat
  | .lit (.string bytes) => bytes.length + 1
  | .lit _ => 1
  | .nil => 1
  | .ptr d => uptoBulk d + 1
  | .slice elems spare => uptoBulkAll elems + uptoBulkAll spare + 1
  | .agg parts => uptoBulkAll parts + 1
  | .iface _ d => uptoBulk d + 1
  | .map entries => uptoBulkEntries entries + 1
  | .held _ => 1
def uptoBulkAll {H : Type} : List (DataW H) → Nat
  | [] => 0
  | d :: r => uptoBulk d + uptoBulkAll r
def uptoBulkEntries {H : Type} : List (Lit × DataW H) → Nat
  | [] => 0
  | x :: r => uptoBulkEntry x + uptoBulkEntries r
def uptoBulkEntry {H : Type} : Lit × DataW H → Nat
  | (.string bytes, d) => bytes.length + uptoBulk d + 1
  | (_, d) => uptoBulk d + 1
 end
def uptoSmall : (H : Type) → List (DataW H) → Bool := fun _ ds => decide (uptoBulkAll ds ≤ 1048576)
def OpenSpec.upto (s : _root_.Go.ChangeSpec) : _root_.Go.OpenSpec := { _root_.Go.OpenSpec.ofChange s with cond := some uptoSmall }

/-- 'rilllaw.StreamPlays', WHERE WHAT IT READS IS OF BULK AT MOST 1048576: true; the input reads as it did. -/
def streamPlaysUptoRow : OpenClaim := { program := "ytidekgipblnpkaagreatdoor", sum := "0c8dc4373e71b3b656b85cf2935c02a50bc97642563667040938057065f4996f", func := "rillbook/rilllaw.StreamPlays", spec := "streamPlays", inPlace := ["internal/bytealg.CountString", "internal/bytealg.IndexByteString", "internal/bytealg.IndexString", "slices.overlaps[rillbook/api.Entry]", "slices.overlaps[rillbook/api.Record]", "slices.overlaps[rillbook/rillref.Paper]", "internal/abi.NoEscape"], unfollowed := true, recurses := true, named := ["rillbook/plan.bounds", "internal/bytealg.MaxLen", "unicode/utf8.first", "unicode/utf8.acceptRanges"], apart := false, laid := [("unicode/utf8.acceptRanges", laid_unicode_utf8_acceptRanges), ("rillbook/plan.bounds", laid_rillbook_plan_bounds), ("unicode/utf8.first", laid_unicode_utf8_first)], narrowed := true }
def StreamPlaysUptoSaid : Prop := streamPlaysUptoRow.holds Tryz.pinned (OpenSpec.upto streamPlaysSpec)

/-- 'rillkeep.StreamBounds', WHERE WHAT IT READS IS OF BULK AT MOST 1048576: true; the input reads as it did. -/
def streamBoundsUptoRow : OpenClaim := { program := "ytidekgipblnpkaagreatdoor", sum := "0c8dc4373e71b3b656b85cf2935c02a50bc97642563667040938057065f4996f", func := "rillbook/rillkeep.StreamBounds", spec := "streamBounds", inPlace := ["internal/bytealg.CountString", "internal/bytealg.IndexByteString", "internal/bytealg.IndexString", "slices.overlaps[rillbook/api.Entry]", "slices.overlaps[rillbook/api.Record]"], unfollowed := true, recurses := true, named := ["rillbook/plan.bounds", "internal/bytealg.MaxLen", "unicode/utf8.first", "unicode/utf8.acceptRanges"], apart := false, laid := [("unicode/utf8.acceptRanges", laid_unicode_utf8_acceptRanges), ("rillbook/plan.bounds", laid_rillbook_plan_bounds), ("unicode/utf8.first", laid_unicode_utf8_first)], narrowed := true }
def StreamBoundsUptoSaid : Prop := streamBoundsUptoRow.holds Tryz.pinned (OpenSpec.upto streamBoundsSpec)

/-- 'rillkeep.StreamTwice', WHERE WHAT IT READS IS OF BULK AT MOST 1048576: true; the input reads as it did. -/
def streamTwiceUptoRow : OpenClaim := { program := "ytidekgipblnpkaagreatdoor", sum := "0c8dc4373e71b3b656b85cf2935c02a50bc97642563667040938057065f4996f", func := "rillbook/rillkeep.StreamTwice", spec := "streamTwice", inPlace := ["internal/bytealg.CountString", "internal/bytealg.IndexByteString", "internal/bytealg.IndexString", "slices.overlaps[rillbook/api.Entry]", "slices.overlaps[rillbook/api.Record]"], unfollowed := true, recurses := true, named := ["rillbook/plan.bounds", "internal/bytealg.MaxLen", "unicode/utf8.first", "unicode/utf8.acceptRanges"], apart := false, laid := [("unicode/utf8.acceptRanges", laid_unicode_utf8_acceptRanges), ("rillbook/plan.bounds", laid_rillbook_plan_bounds), ("unicode/utf8.first", laid_unicode_utf8_first)], narrowed := true }
def StreamTwiceUptoSaid : Prop := streamTwiceUptoRow.holds Tryz.pinned (OpenSpec.upto streamTwiceSpec)

/-- 'rillkeep.StreamRolls', WHERE WHAT IT READS IS OF BULK AT MOST 1048576: true; the input reads as it did. -/
def streamRollsUptoRow : OpenClaim := { program := "ytidekgipblnpkaagreatdoor", sum := "0c8dc4373e71b3b656b85cf2935c02a50bc97642563667040938057065f4996f", func := "rillbook/rillkeep.StreamRolls", spec := "streamRolls", inPlace := ["internal/bytealg.CountString", "internal/bytealg.IndexByteString", "internal/bytealg.IndexString", "slices.overlaps[rillbook/api.Entry]", "slices.overlaps[rillbook/api.Record]"], unfollowed := true, recurses := true, named := ["rillbook/plan.bounds", "internal/bytealg.MaxLen", "unicode/utf8.first", "unicode/utf8.acceptRanges"], apart := false, laid := [("unicode/utf8.acceptRanges", laid_unicode_utf8_acceptRanges), ("rillbook/plan.bounds", laid_rillbook_plan_bounds), ("unicode/utf8.first", laid_unicode_utf8_first)], narrowed := true }
def StreamRollsUptoSaid : Prop := streamRollsUptoRow.holds Tryz.pinned (OpenSpec.upto streamRollsSpec)

/-- 'rillkeep.StreamRefuses', WHERE WHAT IT READS IS OF BULK AT MOST 1048576: true; the input reads as it did. -/
def streamRefusesUptoRow : OpenClaim := { program := "ytidekgipblnpkaagreatdoor", sum := "0c8dc4373e71b3b656b85cf2935c02a50bc97642563667040938057065f4996f", func := "rillbook/rillkeep.StreamRefuses", spec := "streamRefuses", inPlace := ["internal/bytealg.CountString", "internal/bytealg.IndexByteString", "internal/bytealg.IndexString", "slices.overlaps[rillbook/api.Entry]", "slices.overlaps[rillbook/api.Record]"], unfollowed := true, recurses := true, named := ["rillbook/plan.bounds", "internal/bytealg.MaxLen", "unicode/utf8.first", "unicode/utf8.acceptRanges"], apart := false, laid := [("unicode/utf8.acceptRanges", laid_unicode_utf8_acceptRanges), ("rillbook/plan.bounds", laid_rillbook_plan_bounds), ("unicode/utf8.first", laid_unicode_utf8_first)], narrowed := true }
def StreamRefusesUptoSaid : Prop := streamRefusesUptoRow.holds Tryz.pinned (OpenSpec.upto streamRefusesSpec)

/-- 'rillkeep.StreamStops', WHERE WHAT IT READS IS OF BULK AT MOST 1048576: true; the input reads as it did. -/
def streamStopsUptoRow : OpenClaim := { program := "ytidekgipblnpkaagreatdoor", sum := "0c8dc4373e71b3b656b85cf2935c02a50bc97642563667040938057065f4996f", func := "rillbook/rillkeep.StreamStops", spec := "streamStops", inPlace := ["internal/bytealg.CountString", "internal/bytealg.IndexByteString", "internal/bytealg.IndexString", "slices.overlaps[rillbook/api.Entry]", "slices.overlaps[rillbook/api.Record]"], unfollowed := true, recurses := true, named := ["rillbook/plan.bounds", "internal/bytealg.MaxLen", "unicode/utf8.first", "unicode/utf8.acceptRanges"], apart := false, laid := [("unicode/utf8.acceptRanges", laid_unicode_utf8_acceptRanges), ("rillbook/plan.bounds", laid_rillbook_plan_bounds), ("unicode/utf8.first", laid_unicode_utf8_first)], narrowed := true }
def StreamStopsUptoSaid : Prop := streamStopsUptoRow.holds Tryz.pinned (OpenSpec.upto streamStopsSpec)

end Rows
end Go.Proofs.YtidekgipblnpkaaGreatDoor
