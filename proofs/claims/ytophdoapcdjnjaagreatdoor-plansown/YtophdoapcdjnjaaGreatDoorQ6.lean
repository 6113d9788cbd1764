/- A part. -/
import Derived.Test.YtophdoapcdjnjaaGreatDoorQ0
import Derived.Test.YtophdoapcdjnjaaGreatDoorQ2
namespace Go.Proofs.YtophdoapcdjnjaaGreatDoor
open Go.RowKit Go.Proofs.Tryz
theorem clone_any (s:ByteArray)(w:World)(hs:s.size<=281474976710656) :
 Calls prog 57 #[.string s] w λe w'=>e=.returned (.string s)/\Below w.heap.size w w':=by
 go_enter func57,ntmps57;go_wp2_with fail;refine(Tryz.stringslite_Clone s _ hs).mono ?_;rintro e w1 ⟨rfl,b1⟩;go_wp2_with fail;go_ret;exact⟨rfl,b1⟩
