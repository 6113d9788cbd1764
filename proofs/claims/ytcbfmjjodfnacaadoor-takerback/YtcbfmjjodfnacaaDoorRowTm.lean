/-
  What a row's listed tables say of the world: each of them. No walk.
-/
import Derived.Lib.LaidTab
import Derived.Test.YtcbfmjjodfnacaaDoorBase0
import Derived.Test.YtcbfmjjodfnacaaDoorRows
namespace Go.Proofs.YtcbfmjjodfnacaaDoor
open Go.RowKit

theorem laid_mem {P : Program} {w : World} : ∀ {l : List (String × DataW Unit)} {ps : List MemPlace}, DataW.LaidVars P w l ps → ∀ x ∈ l, ∃ g t cs fuel p, P.globalNamed x.1 = some g ∧ (P.globals[g]?).map (·.type) = some t ∧ w.var? P x.1 = some cs ∧ DataW.trod (fun _ => ()) P w 0 (fun _ => true) false fuel t cs.toList = some (x.2, p)
  | [], _, _, x, hx => by cases hx
  | (n, d) :: r, ps, h, x, hx => by
    obtain ⟨g, t, cs, fuel, p, q, h1, h2, h3, h4, h5, _⟩ := h
    rcases List.mem_cons.1 hx with y | y
    · subst y
      exact ⟨g, t, cs, fuel, p, h1, h2, h3, h4⟩
    · exact laid_mem h5 x y
end Go.Proofs.YtcbfmjjodfnacaaDoor
