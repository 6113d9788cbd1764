/-
  NARROWER THAN 'FOR EVERY INPUT', by the rows' own cells (each row's printed sentence says how): ConsumerDrains: laid · PlansOwn: laid.
  DERIVED. THE GIVEN ROWS OF THIS SEAT. 2 by the template 'for every input the law returns true; each argument reads behind the call as it read before'; 0 by the template 'total and deterministic' (their statements: YtophdoapcdjnjaaGreatDoorTotals.lean).
  GIVEN WITH THE SEED: the statements are not yours to turn. If you find one false, say at which input.
  Laid BY PROGRAM, IN A SANDBOX (cutbox-rows.mjs): the forced cells as the released guide's own fill.sh prints them over the translation 3cad44550dbcefda… (all of the seat's roots in one cut). By AI agents, Wed Nov 11 2026. No macro, syntax, notation, axiom, sorry.
-/
import Derived.Test.YtophdoapcdjnjaaGreatDoorChecked
import GoSem.PinnedTables
import GoSem.Claim
import GoSem.ClaimJoined
import GoSem.ClaimMapViews
import Derived.JoinedTies
import Derived.KernelRfl
namespace Go.Proofs.YtophdoapcdjnjaaGreatDoor
/- THE CELL 'sum', in the pinned program and in every row, IS THE sha256 OF THE DUMP (.gsa) THAT YtophdoapcdjnjaaGreatDoorProg.lean LOADS. Nothing in Lean hashes anything: it is a label: what it is worth is what the hold of that sum in a sandbox is worth. -/
noncomputable def Tryz.pinned : Pinned := { name := "ytophdoapcdjnjaagreatdoor", sum := "3cad44550dbcefdaba0933c3eb176faceeb70754014009e1257b6fcbc9c49db0", checked := Tryz.checked }
namespace Rows
def none {H : Type} : Left H := { results := [], args := [] }

/- WHAT THE LISTED PACKAGE-LEVEL VARIABLES READ AS WHEN THE CALL BEGINS. Each datum BY PROGRAM (the guide's laid-datum.mjs) off the statement by which the dump's own 'gosem.cut.vars' lays the variable. In a bare row this is a premise. The card (YtophdoapcdjnjaaGreatDoorCards.lean) ties it to the program's text. -/
def laid_unicode_utf8_acceptRanges {H : Type} : DataW H := .agg [.agg [.lit (.int .u8 128), .lit (.int .u8 191)], .agg [.lit (.int .u8 160), .lit (.int .u8 191)], .agg [.lit (.int .u8 128), .lit (.int .u8 159)], .agg [.lit (.int .u8 144), .lit (.int .u8 191)], .agg [.lit (.int .u8 128), .lit (.int .u8 143)], .agg [.lit (.int .u8 0), .lit (.int .u8 0)], .agg [.lit (.int .u8 0), .lit (.int .u8 0)], .agg [.lit (.int .u8 0), .lit (.int .u8 0)], .agg [.lit (.int .u8 0), .lit (.int .u8 0)], .agg [.lit (.int .u8 0), .lit (.int .u8 0)], .agg [.lit (.int .u8 0), .lit (.int .u8 0)], .agg [.lit (.int .u8 0), .lit (.int .u8 0)], .agg [.lit (.int .u8 0), .lit (.int .u8 0)], .agg [.lit (.int .u8 0), .lit (.int .u8 0)], .agg [.lit (.int .u8 0), .lit (.int .u8 0)], .agg [.lit (.int .u8 0), .lit (.int .u8 0)]]
/-- One of Go's own tables, pinned by name: the form's constant. -/
def laid_unicode_utf8_first : DataW Unit := Go.Pinned.utf8First
def laid_rillbook_plan_bounds {H : Type} : DataW H := .agg [.agg [.lit (.string [109, 115, 103, 115]), .lit (.int .i64 200)], .agg [.lit (.string [98, 121, 116, 101, 115]), .lit (.int .i64 65536)], .agg [.lit (.string [97, 103, 101]), .lit (.int .i64 100000)], .agg [.lit (.string [112, 101, 114]), .lit (.int .i64 200)], .agg [.lit (.string [115, 105, 122, 101]), .lit (.int .i64 256)], .agg [.lit (.string [100, 105, 115, 99, 97, 114, 100]), .lit (.int .i64 1)], .agg [.lit (.string [107, 101, 101, 112]), .lit (.int .i64 2)], .agg [.lit (.string [119, 105, 110, 100, 111, 119]), .lit (.int .i64 100000)]]

/-- 'rillkeep.ConsumerDrains': WHATEVER THE INPUT: true; the input reads as it did. -/
def consumerDrainsSpec : ChangeSpec := { name := "consumerDrains", fn := fun _ => fun
  | [d1, d2, d3] => { results := [.lit (.bool true)], args := [d1, d2, d3] }
  | _ => none }
def consumerDrainsRow : OpenClaim := { program := "ytophdoapcdjnjaagreatdoor", sum := "3cad44550dbcefdaba0933c3eb176faceeb70754014009e1257b6fcbc9c49db0", func := "rillbook/rillkeep.ConsumerDrains", spec := "consumerDrains", inPlace := ["internal/bytealg.CountString", "internal/bytealg.IndexByteString", "internal/bytealg.IndexString", "slices.overlaps[rillbook/api.Entry]", "slices.overlaps[rillbook/api.Record]"], unfollowed := true, recurses := true, named := ["internal/bytealg.MaxLen", "unicode/utf8.first", "unicode/utf8.acceptRanges"], apart := false, laid := [("unicode/utf8.acceptRanges", laid_unicode_utf8_acceptRanges), ("unicode/utf8.first", laid_unicode_utf8_first)] }
def ConsumerDrainsSaid : Prop := consumerDrainsRow.holds Tryz.pinned (OpenSpec.ofChange consumerDrainsSpec)

/-- ITS FALSE NEIGHBOUR: 'it returns false'. Refute it at one input. -/
def consumerDrainsWrong : ChangeSpec := { name := "consumerDrains", fn := fun _ => fun
  | [d1, d2, d3] => { results := [.lit (.bool false)], args := [d1, d2, d3] }
  | _ => none }
def ConsumerDrainsWrongFalsely : Prop := consumerDrainsRow.holds Tryz.pinned (OpenSpec.ofChange consumerDrainsWrong)

/-- 'rillkeep.PlansOwn': WHATEVER THE INPUT: true; the input reads as it did. -/
def plansOwnSpec : ChangeSpec := { name := "plansOwn", fn := fun _ => fun
  | [d1, d2] => { results := [.lit (.bool true)], args := [d1, d2] }
  | _ => none }
def plansOwnRow : OpenClaim := { program := "ytophdoapcdjnjaagreatdoor", sum := "3cad44550dbcefdaba0933c3eb176faceeb70754014009e1257b6fcbc9c49db0", func := "rillbook/rillkeep.PlansOwn", spec := "plansOwn", inPlace := ["internal/bytealg.CountString", "internal/bytealg.IndexByteString", "internal/bytealg.IndexString", "slices.overlaps[rillbook/api.Entry]", "slices.overlaps[rillbook/api.Record]"], unfollowed := true, recurses := true, named := ["rillbook/plan.bounds", "internal/bytealg.MaxLen", "unicode/utf8.first", "unicode/utf8.acceptRanges"], apart := false, laid := [("unicode/utf8.acceptRanges", laid_unicode_utf8_acceptRanges), ("rillbook/plan.bounds", laid_rillbook_plan_bounds), ("unicode/utf8.first", laid_unicode_utf8_first)] }
def PlansOwnSaid : Prop := plansOwnRow.holds Tryz.pinned (OpenSpec.ofChange plansOwnSpec)

/-- ITS FALSE NEIGHBOUR: 'it returns false'. Refute it at one input. -/
def plansOwnWrong : ChangeSpec := { name := "plansOwn", fn := fun _ => fun
  | [d1, d2] => { results := [.lit (.bool false)], args := [d1, d2] }
  | _ => none }
def PlansOwnWrongFalsely : Prop := plansOwnRow.holds Tryz.pinned (OpenSpec.ofChange plansOwnWrong)

/- THE SECOND FORM. 'bulk': how many values and letters a reading holds, each counted each time it is reached (what is shared counts as often as it is met; a slice's spare places count too). A statement '..UptoSaid' is the law's where the arguments, and the package variables that the reading takes, are together of bulk at most 1048576: NARROWER than '..Said'. Prove '..Said' where nothing that the law and all that it calls make is longer than what came in: it says more and counts as full. Else prove '..UptoSaid'. A law counts once. -/
mutual
def uptoBulk {H : Type} : DataW H → Nat
  | .lit (.string bytes) => bytes.length + 1
  | .lit _ => 1
  | .nil => 1
  | .ptr d => uptoBulk d + 1
  | .slice elems spare => uptoBulkAll elems + uptoBulkAll spare + 1
  | .agg parts => uptoBulkAll parts + 1
  | .iface _ d => uptoBulk d + 1
  | .map entries => uptoBulkEntries entries + 1
  | .held _ => 1
def uptoBulkAll {H : Type} : List (DataW H) → Nat
  | [] => 0
  | d :: r => uptoBulk d + uptoBulkAll r
def uptoBulkEntries {H : Type} : List (Lit × DataW H) → Nat
  | [] => 0
  | x :: r => uptoBulkEntry x + uptoBulkEntries r
def uptoBulkEntry {H : Type} : Lit × DataW H → Nat
  | (.string bytes, d) => bytes.length + uptoBulk d + 1
  | (_, d) => uptoBulk d + 1
 end
def uptoSmall : (H : Type) → List (DataW H) → Bool := fun _ ds => decide (uptoBulkAll ds ≤ 1048576)
def OpenSpec.upto (s : _root_.Go.ChangeSpec) : _root_.Go.OpenSpec := { _root_.Go.OpenSpec.ofChange s with cond := some uptoSmall }

/-- 'rillkeep.ConsumerDrains', WHERE WHAT IT READS IS OF BULK AT MOST 1048576: true; the input reads as it did. -/
def consumerDrainsUptoRow : OpenClaim := { program := "ytophdoapcdjnjaagreatdoor", sum := "3cad44550dbcefdaba0933c3eb176faceeb70754014009e1257b6fcbc9c49db0", func := "rillbook/rillkeep.ConsumerDrains", spec := "consumerDrains", inPlace := ["internal/bytealg.CountString", "internal/bytealg.IndexByteString", "internal/bytealg.IndexString", "slices.overlaps[rillbook/api.Entry]", "slices.overlaps[rillbook/api.Record]"], unfollowed := true, recurses := true, named := ["internal/bytealg.MaxLen", "unicode/utf8.first", "unicode/utf8.acceptRanges"], apart := false, laid := [("unicode/utf8.acceptRanges", laid_unicode_utf8_acceptRanges), ("unicode/utf8.first", laid_unicode_utf8_first)], narrowed := true }
def ConsumerDrainsUptoSaid : Prop := consumerDrainsUptoRow.holds Tryz.pinned (OpenSpec.upto consumerDrainsSpec)

/-- 'rillkeep.PlansOwn', WHERE WHAT IT READS IS OF BULK AT MOST 1048576: true; the input reads as it did. -/
def plansOwnUptoRow : OpenClaim := { program := "ytophdoapcdjnjaagreatdoor", sum := "3cad44550dbcefdaba0933c3eb176faceeb70754014009e1257b6fcbc9c49db0", func := "rillbook/rillkeep.PlansOwn", spec := "plansOwn", inPlace := ["internal/bytealg.CountString", "internal/bytealg.IndexByteString", "internal/bytealg.IndexString", "slices.overlaps[rillbook/api.Entry]", "slices.overlaps[rillbook/api.Record]"], unfollowed := true, recurses := true, named := ["rillbook/plan.bounds", "internal/bytealg.MaxLen", "unicode/utf8.first", "unicode/utf8.acceptRanges"], apart := false, laid := [("unicode/utf8.acceptRanges", laid_unicode_utf8_acceptRanges), ("rillbook/plan.bounds", laid_rillbook_plan_bounds), ("unicode/utf8.first", laid_unicode_utf8_first)], narrowed := true }
def PlansOwnUptoSaid : Prop := plansOwnUptoRow.holds Tryz.pinned (OpenSpec.upto plansOwnSpec)

end Rows
end Go.Proofs.YtophdoapcdjnjaaGreatDoor
