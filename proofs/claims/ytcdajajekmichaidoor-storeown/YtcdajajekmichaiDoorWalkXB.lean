/-
  The program's store does what is asked of a store: New, Apply, All, Subjects.
-/
import Derived.Test.YtcdajajekmichaiDoorJointWalkX7WalkX8
import Derived.Test.YtcdajajekmichaiDoorWalkX9
import Derived.Test.YtcdajajekmichaiDoorJointWorksBWorksT
namespace Go.Proofs.YtcdajajekmichaiDoor.Dk
open Go.RowKit

theorem sbase : SBase SHas where
  own := fun h => h.own
  chg := fun h hc hn => h.chg hc hn
  new := fun w => (snew_any w).mono (by
    rintro e w' ⟨rfl, h, hb⟩
    exact ⟨_, _, rfl, ⟨_, _, [], h, Cnt.nil, rfl⟩, hb⟩)
  apply := fun r hm h hk hB => by
    obtain ⟨v, u, es, h1, h2, rfl⟩ := h
    refine (sapply_any r hm h1 h2 hk hB).mono ?_
    rintro e w' ⟨he, es', m, c⟩
    exact ⟨he, SHas.did m c⟩
  all := fun h hk hB => by
    obtain ⟨v, u, es, h1, h2, rfl⟩ := h
    exact sall_any h1 hk.few (fun x hx => Small.of (hk.msg x hx).2)
theorem stellsB : STells SHas where
  subjects := by
    intro w B q F s f es hf h hk hB hc
    obtain ⟨v, u, es', h1, h2, rfl⟩ := h
    rw [hc.same h2]
    exact ssub_any f hf h1 h2.good
end Go.Proofs.YtcdajajekmichaiDoor.Dk
