/- A part. -/
import Derived.Test.YtmhbobnfmncdbaaGreatDoorQ0
import Derived.Test.YtmhbobnfmncdbaaGreatDoorQ2
namespace Go.Proofs.YtmhbobnfmncdbaaGreatDoor
open Go.RowKit Go.Proofs.Tryz
theorem clone_any (s:ByteArray)(w:World)(hs:s.size<=281474976710656) :
 Calls prog 96 #[.string s] w λe w'=>e=.returned (.string s)/\Below w.heap.size w w':=by
 go_enter func96,ntmps96;go_wp2_with fail;refine(Tryz.stringslite_Clone s _ hs).mono ?_;rintro e w1 ⟨rfl,b1⟩;go_wp2_with fail;go_ret;exact⟨rfl,b1⟩
