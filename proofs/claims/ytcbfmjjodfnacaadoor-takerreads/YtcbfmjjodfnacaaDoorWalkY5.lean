/-
  Contract of the landed plan.Print.
-/
import Derived.Test.YtcbfmjjodfnacaaDoorPapPf
import Derived.Test.YtcbfmjjodfnacaaDoorPapPe
import Derived.Test.YtcbfmjjodfnacaaDoorWalkB5a
import Derived.Test.YtcbfmjjodfnacaaDoorJointRowPtRowPu
import Derived.Test.YtcbfmjjodfnacaaDoorRowY
import Derived.Test.YtcbfmjjodfnacaaDoorShelfJ
import Derived.Deep.RegionHeldLaw
namespace Go.Proofs.YtcbfmjjodfnacaaDoor
open Go.RowKit

/-- strings.Join at a byte -/
theorem join_at (d : UInt8) (bk o c : Nat) (l : List ByteArray) (w : World) (hsl : SlS w (some ⟨bk, o, none⟩) l) (h0 : 0 < l.length) (hc : l.length ≤ c) (hl : l.length ≤ 100000) (hz : (Pn.glue d (l.map (·.data.toList))).length ≤ 140737488355328) :
    Calls Tryd.prog 20 #[.slice (some ⟨bk, o, none⟩) l.length c, .string ⟨#[d]⟩] w fun e w' => e = .returned (.string (Pn.bs (Pn.glue d (l.map (·.data.toList))))) ∧ Below w.heap.size w w' := by
  have e1 : (⟨#[d]⟩ : ByteArray).data.toList = [d] := rfl
  have := Tryd.strings_Join bk o c l ⟨#[d]⟩ w (fun j x hj => by
    have hlt : j < l.length := by
      rcases Nat.lt_or_ge j l.length with h | h
      · exact h
      · rw [List.getElem?_eq_none h] at hj; cases hj
    obtain ⟨b', o', eq, _, e⟩ := hsl j hlt
    cases eq
    rw [e]
    unfold tk
    rw [hj]
    rfl) (by
    obtain ⟨b', o', eq, hb, _⟩ := hsl 0 h0
    cases eq
    exact hb) (by omega) hc (by rw [e1, Pn.glue_join]; exact hz)
  rw [e1, Pn.glue_join] at this
  exact this
end Go.Proofs.YtcbfmjjodfnacaaDoor
