/-
  The program's vault does what is asked of a vault, and its store what is asked of the store of a vault.
-/
import Derived.Test.YtphhebdmfdjfeagGreatDoorJointWalkW1WalkW2WalkW3
import Derived.Test.YtphhebdmfdjfeagGreatDoorJointWalkW4WalkW5
import Derived.Test.YtphhebdmfdjfeagGreatDoorJointWalkX4WalkX5
import Derived.Test.YtphhebdmfdjfeagGreatDoorJointWalkX7WalkX8
import Derived.Test.YtphhebdmfdjfeagGreatDoorJointWalkX9aWalkXS
namespace Go.Proofs.YtphhebdmfdjfeagGreatDoor.Dk
open Go.RowKit

theorem arr_low {w : World} {B B' : Nat} {v : Value} {l : List Ent} (h : Go.Proofs.YtphhebdmfdjfeagGreatDoor.Arr w B v l) (hB : B' ≤ B) : Go.Proofs.YtphhebdmfdjfeagGreatDoor.Arr w B' v l := by
  refine ⟨h.1, ?_⟩
  rcases h.2 with q | ⟨g, cap, cur, h1, h2, r⟩
  · exact .inl q
  · exact .inr ⟨g, cap, cur, h1, Nat.le_trans hB h2, r⟩
theorem SHas.low {w : World} {B B' q : Nat} {F : Nat → Prop} {s : Sto} (h : SHas w B q F s) (hB : B' ≤ B) : SHas w B' q F s := by
  obtain ⟨v, u, es, h1, h2, h3⟩ := h
  exact ⟨v, u, es, ⟨h1.c0, h1.c1, h1.c2, h1.free, Nat.le_trans hB h1.base, h1.lt, h1.msgs.low hB, arr_low h1.cnts hB, h1.av, h1.au, h1.apart⟩, h2, h3⟩
theorem svault : SVault SHas where
  own := fun h => h.own
  chg := fun h hc hn => h.chg hc hn
  low := fun h hB => h.low hB
  new := fun w => (snew_any w).mono (by
    rintro e w' ⟨rfl, h, hb⟩
    exact ⟨_, _, rfl, ⟨_, _, [], h, Cnt.nil, rfl⟩, hb⟩)
  tries := fun r hm h hk hB => by
    obtain ⟨v, u, es, h1, h2, rfl⟩ := h
    exact stry_any r hm h1 h2 hk
  apply := fun r hm h hk hB => by
    obtain ⟨v, u, es, h1, h2, rfl⟩ := h
    refine (sapply_any r hm h1 h2 hk hB).mono ?_
    rintro e w' ⟨he, es', m, c⟩
    exact ⟨he, SHas.did m c⟩
  sees := {
    all := fun h hk hB => by
      obtain ⟨v, u, es, h1, h2, rfl⟩ := h
      exact sall_any h1 hk.few (fun x hx => Small.of (hk.msg x hx).2)
    sums := fun h hk hB => by
      obtain ⟨v, u, es, h1, h2, rfl⟩ := h
      exact ssum_any h1 hk.few (fun x hx => hk.small hx) }
section
variable {Has : World → Nat → Nat → (Nat → Prop) → Int → List Pap → Prop} {SH : World → Nat → Nat → (Nat → Prop) → Sto → Prop}
theorem vworks_of (H : More Has) (N : News Has) (L : LWorks Has (LHof Has)) (S : SVault SH) : VWorks (VHof Has SH) SH where
  own := fun h k hk => by
    obtain ⟨q, g, c, FL, G, h1, h2⟩ := h
    exact h1.own H S k ((h2 k).1 hk)
  chg := fun h hc hn => by
    obtain ⟨q, g, c, FL, G, h1, h2⟩ := h
    exact ⟨q, g, c, FL, G, h1.chg H S hc (fun k hk => hn k ((h2 k).2 hk)), h2⟩
  bad := fun w m size h => vnew_bad N w m size h
  good := fun w m size hm hz => vnew_good H N L S w m size hm hz
  did := fun r hr h hv hm hz hB => vdo_any H L S r hr h hv hm hz hB
  compact := fun h hv hm hz hB => vcompact_any H L S h hv hm hz hB
  store := fun h _ _ _ _ => vstore_any h
  used := fun h hv hm _ hB => vused_any H S h hv hm hB
end
end Go.Proofs.YtphhebdmfdjfeagGreatDoor.Dk
