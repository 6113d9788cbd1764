/- A part. -/
import Derived.Test.YtidekgipblnpkaaGreatDoorQ0
import Derived.Test.YtidekgipblnpkaaGreatDoorQ3
namespace Go.Proofs.YtidekgipblnpkaaGreatDoor
open Go.RowKit Go.Proofs.Tryz
theorem mW (s:ByteArray)(w:World)(hs:s.size<=281474976710656) :
 Calls prog 67 #[.string s] w λe w'=>e=.returned (.string s)/\Below w.heap.size w w':=by
 go_enter func67,ntmps67;go_wp2_with fail;refine(Tryz.stringslite_Clone s _ hs).mono ?_;rintro e w1 ⟨rfl,b1⟩;go_wp2_with fail;go_ret;exact⟨rfl,b1⟩
