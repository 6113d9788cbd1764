/-
  Contracts of subject.cover and Match.
-/
import Derived.Test.YtohjipnkoiifhagDoorJointPlain2Plain5PlainK
namespace Go.Proofs.YtohjipnkoiifhagDoor
open Go.RowKit

theorem filter_at {f : ByteArray} {x : Int} (h : errS true f = x) (w : World) (hf : f.size ≤ 140737488355328) :
    Calls Tryd.prog 25 #[.string f] w fun e w' => e = .returned (.int .i64 x) ∧ Below w.heap.size w w' := by
  subst h; exact filter_any f w hf
end Go.Proofs.YtohjipnkoiifhagDoor
