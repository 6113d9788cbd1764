/-
  Contract of strings.Clone.
-/
import Derived.Test.YtcbfmjjodfnacaaDoorBase0
import Derived.Test.YtcbfmjjodfnacaaDoorShelfC
namespace Go.Proofs.YtcbfmjjodfnacaaDoor
open Go.RowKit

theorem clone_any (s : ByteArray) (w : World) (hs : s.size ≤ 281474976710656) :
    Calls Tryd.prog 46 #[.string s] w fun e w' => e = .returned (.string s) ∧ Below w.heap.size w w' := by
  go_enter Tryd.func46, Tryd.ntmps46
  go_wp2_with fail
  refine (Tryd.stringslite_Clone s _ hs).mono ?_
  rintro e w1 ⟨rfl, b1⟩
  go_wp2_with fail
  go_ret
  exact ⟨rfl, b1⟩
end Go.Proofs.YtcbfmjjodfnacaaDoor
