/- A part of the proof. -/
import Derived.Test.YtidekgipblnpkaaGreatDoorQ2
import Derived.Test.YtidekgipblnpkaaGreatDoorQ24
import Derived.Test.YtidekgipblnpkaaGreatDoorQ26
namespace Go.Proofs.YtidekgipblnpkaaGreatDoor.Dk
open Go.RowKit
theorem more:More Has:={
 works:=works
 cut:=λn size hn h ht _ _=>acO n size hn h ht
 list:=λh ht _ _=>abe h ht}
theorem lists:Lists Has:={
 list:=λh ht _ _=>abf h ht
 reads:=λn hn h _ _ _=>(MX n hn h).mono (λe w' ⟨h1,h2⟩=>⟨h1,by subst h2;exact Below.refl _ _⟩)
 tries:=λn s h ht hm hs _=>Bd n s h ht hm hs
 drops:=λn hn h ht _ _=>Ae n hn h ht}
end Go.Proofs.YtidekgipblnpkaaGreatDoor.Dk
