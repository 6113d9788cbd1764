/-
  strings.CutPrefix: where the front is there, and where it isn't.
-/
import Derived.Test.YtcbfmjjodfnacaaDoorBase0
import Derived.Test.YtcbfmjjodfnacaaDoorPapPf
import Derived.Test.YtcbfmjjodfnacaaDoorShelfT
namespace Go.Proofs.YtcbfmjjodfnacaaDoor
open Go.RowKit

theorem cutPrefix_hit (t p : ByteArray) (w : World) (h : p.data.toList.isPrefixOf t.data.toList = true) :
    Calls Tryd.prog 57 #[.string t, .string p] w fun e w' => e = .returned (.tuple #[.string (Pn.bs (t.data.toList.drop p.size)), .bool true]) ∧ w' = w := by
  have e1 : Lib.hasPrefix t.data.toList p.data.toList = true := h
  have e2 : Lib.trimPrefix t.data.toList p.data.toList = t.data.toList.drop p.size := by
    unfold Lib.trimPrefix
    rw [e1, if_pos rfl]
    congr 1
  have := Tryd.strings_CutPrefix t p w
  rw [e1, e2] at this
  exact this
theorem cutPrefix_miss (t p : ByteArray) (w : World) (h : ¬ p.data.toList.isPrefixOf t.data.toList = true) :
    Calls Tryd.prog 57 #[.string t, .string p] w fun e w' => e = .returned (.tuple #[.string t, .bool false]) ∧ w' = w := by
  have e1 : Lib.hasPrefix t.data.toList p.data.toList = false := by
    unfold Lib.hasPrefix
    simpa using h
  have e2 : Lib.trimPrefix t.data.toList p.data.toList = t.data.toList := by
    unfold Lib.trimPrefix
    rw [e1]
    rfl
  have := Tryd.strings_CutPrefix t p w
  rw [e1, e2] at this
  exact this
end Go.Proofs.YtcbfmjjodfnacaaDoor
