/-
  The program's store does what is asked of the store of a vault.
-/
import Derived.Test.YtohjipnkoiifhagGreatDoorJointOvRWorksSPapRaPapRbPapRfPapRcRowPvWorksROsPPapRdRowPtRowPu
import Derived.Test.YtohjipnkoiifhagGreatDoorJointWalkX2WalkX4WalkX5WalkX7WalkX8WalkX9aWalkXSWalkX9
namespace Go.Proofs.YtohjipnkoiifhagGreatDoor.Dk
open Go.RowKit

theorem arr_low {w : World} {B B' : Nat} {v : Value} {l : List Ent} (h : Go.Proofs.YtohjipnkoiifhagGreatDoor.Arr w B v l) (hB : B' ≤ B) : Go.Proofs.YtohjipnkoiifhagGreatDoor.Arr w B' v l := by
  refine ⟨h.1, ?_⟩
  rcases h.2 with q | ⟨g, cap, cur, h1, h2, r⟩
  · exact .inl q
  · exact .inr ⟨g, cap, cur, h1, Nat.le_trans hB h2, r⟩
theorem SHas.low {w : World} {B B' q : Nat} {F : Nat → Prop} {s : Sto} (h : SHas w B q F s) (hB : B' ≤ B) : SHas w B' q F s := by
  obtain ⟨v, u, es, h1, h2, h3⟩ := h
  exact ⟨v, u, es, ⟨h1.c0, h1.c1, h1.c2, h1.free, Nat.le_trans hB h1.base, h1.lt, h1.msgs.low hB, arr_low h1.cnts hB, h1.av, h1.au, h1.apart⟩, h2, h3⟩
theorem svault : SVault SHas where
  own := fun h => h.own
  chg := fun h hc hn => h.chg hc hn
  low := fun h hB => h.low hB
  new := fun w => (snew_any w).mono (by
    rintro e w' ⟨rfl, h, hb⟩
    exact ⟨_, _, rfl, ⟨_, _, [], h, Cnt.nil, rfl⟩, hb⟩)
  tries := fun r hm h hk hB => by
    obtain ⟨v, u, es, h1, h2, rfl⟩ := h
    exact stry_any r hm h1 h2 hk
  apply := fun r hm h hk hB => by
    obtain ⟨v, u, es, h1, h2, rfl⟩ := h
    refine (sapply_any r hm h1 h2 hk hB).mono ?_
    rintro e w' ⟨he, es', m, c⟩
    exact ⟨he, SHas.did m c⟩
  sees := {
    all := fun h hk hB => by
      obtain ⟨v, u, es, h1, h2, rfl⟩ := h
      exact sall_any h1 hk.few (fun x hx => Small.of (hk.msg x hx).2)
    sums := fun h hk hB => by
      obtain ⟨v, u, es, h1, h2, rfl⟩ := h
      exact ssum_any h1 hk.few (fun x hx => hk.small hx) }
end Go.Proofs.YtohjipnkoiifhagGreatDoor.Dk
