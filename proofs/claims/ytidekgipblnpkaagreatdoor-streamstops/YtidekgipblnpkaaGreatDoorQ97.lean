/- The law StreamStops: the card, out of the stream's contracts. -/
import Derived.Test.YtidekgipblnpkaaGreatDoorQ21
import Derived.Test.YtidekgipblnpkaaGreatDoorQ27
import Derived.Test.YtidekgipblnpkaaGreatDoorQ42
import Derived.Test.YtidekgipblnpkaaGreatDoorQ48
import Derived.Test.YtidekgipblnpkaaGreatDoorQ53
import Derived.Test.YtidekgipblnpkaaGreatDoorQ96
namespace Go.Proofs.YtidekgipblnpkaaGreatDoor.Dk.streamStops
open Go.ChangeShapes Go.WideShapes Go.ChangeAt Go.RowKit Go.Deep Go.Proofs.Tryz
theorem tables {W:World}(h:laidMetH prog Rows.streamStopsRow.laid W):oz W:=by
 have h':laidMet prog Rows.streamStopsRow.laid W:=h;exact Dh h' (by simp[Rows.streamStopsRow])
theorem und:tu Has qU:=⟨more,pX more lists,qJ⟩
theorem card:Rows.StreamStopsCardSaid:=mW (λh hb=>h.next hb) tables (pY und news wZ zq) (OC und) qJ.sees
end Go.Proofs.YtidekgipblnpkaaGreatDoor.Dk.streamStops
