/- A part. -/
import Derived.Test.YtebofkkfbkodiaaGreatDoorQ0
import Derived.Test.YtebofkkfbkodiaaGreatDoorQ3
namespace Go.Proofs.YtebofkkfbkodiaaGreatDoor
open Go.RowKit Go.Proofs.Tryz
theorem clone_any (s:ad)(w:I)(hs:s.size<=281474976710656) :
 Calls prog 108 #[.string s] w λe w'=>e=.returned (.string s)/\ai w w':=by
 go_enter func108,ntmps108;go_wp2_with fail;refine(Tryz.stringslite_Clone s _ hs).mono ?_;rintro e w1 ⟨rfl,b1⟩;go_wp2_with fail;go_ret;exact⟨rfl,b1⟩
