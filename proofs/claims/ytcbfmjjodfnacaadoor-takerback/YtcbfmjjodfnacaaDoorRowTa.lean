/-
  What the row's listed tables say of the world: the powers of ten. No walk.
-/
import Derived.Lib.LaidTab
import Derived.Test.YtcbfmjjodfnacaaDoorWalkB5a
import Derived.Test.YtcbfmjjodfnacaaDoorRowTm
namespace Go.Proofs.YtcbfmjjodfnacaaDoor
open Go.RowKit

theorem pow_laid : (Rows.laid_internal_strconv_uint64pow10 : DataW Unit) = Lib.tabData .u64 Lib.pow10Tab := rfl
theorem pow_of {W : World} {l : List (String × DataW Unit)} (h : laidMet Tryd.prog l W) (hm : ("internal/strconv.uint64pow10", Rows.laid_internal_strconv_uint64pow10) ∈ l) : TabP W := by
  obtain ⟨ps, hl, _⟩ := h
  obtain ⟨g, t, cs, fuel, p, h1, h2, h3, h4⟩ := laid_mem hl _ hm
  obtain rfl : g = 1 := Option.some.inj (h1.symm.trans (show Tryd.prog.globalNamed "internal/strconv.uint64pow10" = some 1 by kernel_rfl))
  obtain rfl : t = 95 := Option.some.inj (h2.symm.trans (show (Tryd.prog.globals[1]?).map (·.type) = some 95 by kernel_rfl))
  have h5 : DataW.trod (fun _ => ()) Tryd.prog W 0 (fun _ => true) false fuel 95 cs.toList = some (Lib.tabData .u64 Lib.pow10Tab, p) := h4
  have hcs := Lib.cells_of_tab Tryd.underlying95 Tryd.underlying80 (by kernel_rfl) (by kernel_rfl) h5
  unfold TabP Lib.TabIs
  rw [show Tryd.prog = Tryd.prog from rfl, h3, ← hcs]
end Go.Proofs.YtcbfmjjodfnacaaDoor
