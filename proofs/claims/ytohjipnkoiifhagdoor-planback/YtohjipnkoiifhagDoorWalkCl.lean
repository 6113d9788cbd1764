/-
  Contract of strings.Clone.
-/
import Derived.Test.YtohjipnkoiifhagDoorJointBase0RowZ
import Derived.Test.YtohjipnkoiifhagDoorShelfC
namespace Go.Proofs.YtohjipnkoiifhagDoor
open Go.RowKit

theorem clone_any (s : ByteArray) (w : World) (hs : s.size ≤ 281474976710656) :
    Calls Tryd.prog 34 #[.string s] w fun e w' => e = .returned (.string s) ∧ Below w.heap.size w w' := by
  go_enter Tryd.func34, Tryd.ntmps34
  go_wp2_with fail
  refine (Tryd.stringslite_Clone s _ hs).mono ?_
  rintro e w1 ⟨rfl, b1⟩
  go_wp2_with fail
  go_ret
  exact ⟨rfl, b1⟩
end Go.Proofs.YtohjipnkoiifhagDoor
