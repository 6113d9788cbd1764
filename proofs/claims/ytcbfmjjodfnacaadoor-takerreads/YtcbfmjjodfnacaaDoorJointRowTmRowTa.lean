/-
  What a row's listed tables say of the world: each of them. No walk.
  What the row's listed tables say of the world: the powers of ten. No walk.
-/
import Derived.Lib.LaidTab
import Derived.Test.YtcbfmjjodfnacaaDoorBase0
import Derived.Test.YtcbfmjjodfnacaaDoorRows
import Derived.Test.YtcbfmjjodfnacaaDoorWalkB5a
namespace Go.Proofs.YtcbfmjjodfnacaaDoor
open Go.RowKit

theorem laid_mem {P : Program} {w : World} : ∀ {l : List (String × DataW Unit)} {ps : List MemPlace}, DataW.LaidVars P w l ps → ∀ x ∈ l, ∃ g t cs fuel p, P.globalNamed x.1 = some g ∧ (P.globals[g]?).map (·.type) = some t ∧ w.var? P x.1 = some cs ∧ DataW.trod (fun _ => ()) P w 0 (fun _ => true) false fuel t cs.toList = some (x.2, p)
  | [], _, _, x, hx => by cases hx
  | (n, d) :: r, ps, h, x, hx => by
    obtain ⟨g, t, cs, fuel, p, q, h1, h2, h3, h4, h5, _⟩ := h
    rcases List.mem_cons.1 hx with y | y
    · subst y
      exact ⟨g, t, cs, fuel, p, h1, h2, h3, h4⟩
    · exact laid_mem h5 x y
end Go.Proofs.YtcbfmjjodfnacaaDoor

namespace Go.Proofs.YtcbfmjjodfnacaaDoor
open Go.RowKit

theorem pow_laid : (Rows.laid_internal_strconv_uint64pow10 : DataW Unit) = Lib.tabData .u64 Lib.pow10Tab := rfl
theorem pow_of {W : World} {l : List (String × DataW Unit)} (h : laidMet Tryd.prog l W) (hm : ("internal/strconv.uint64pow10", Rows.laid_internal_strconv_uint64pow10) ∈ l) : TabP W := by
  obtain ⟨ps, hl, _⟩ := h
  obtain ⟨g, t, cs, fuel, p, h1, h2, h3, h4⟩ := laid_mem hl _ hm
  obtain rfl : g = 1 := Option.some.inj (h1.symm.trans (show Tryd.prog.globalNamed "internal/strconv.uint64pow10" = some 1 by kernel_rfl))
  obtain rfl : t = 95 := Option.some.inj (h2.symm.trans (show (Tryd.prog.globals[1]?).map (·.type) = some 95 by kernel_rfl))
  have h5 : DataW.trod (fun _ => ()) Tryd.prog W 0 (fun _ => true) false fuel 95 cs.toList = some (Lib.tabData .u64 Lib.pow10Tab, p) := h4
  have hcs := Lib.cells_of_tab Tryd.underlying95 Tryd.underlying80 (by kernel_rfl) (by kernel_rfl) h5
  unfold TabP Lib.TabIs
  rw [show Tryd.prog = Tryd.prog from rfl, h3, ← hcs]
end Go.Proofs.YtcbfmjjodfnacaaDoor
