/-
  The program's store does what is asked of a store.
  The program's store does what more is asked of a store: Try, Get.
-/
import Derived.Test.YtphhebdmfdjfeabGreatDoorJointWalkX7WalkX8
import Derived.Test.YtphhebdmfdjfeabGreatDoorJointWalkX9aWalkX9WalkXG
import Derived.Test.YtphhebdmfdjfeabGreatDoorJointWalkXSWalkXF
import Derived.Test.YtphhebdmfdjfeabGreatDoorJointWalkXTWalkXL
import Derived.Test.YtphhebdmfdjfeabGreatDoorJointWalkC3WalkC6WalkG1rWorksSWorksTaWorksTWorksYPapW
namespace Go.Proofs.YtphhebdmfdjfeabGreatDoor.Dk
open Go.RowKit

theorem Sto.Ok.smalls {s : Sto} (h : s.Ok) : ∀ x ∈ s.l, Small x := fun x hx => Small.of (h.msg x hx).2
theorem Sto.Ok.rights {s : Sto} (h : s.Ok) : ∀ x ∈ s.l, errS false x.s = 0 := fun x hx => right_msg (h.msg x hx).2 (h.msg x hx).1
theorem sworks : SWorks SHas where
  own := fun h => h.own
  chg := fun h hc hn => h.chg hc hn
  new := fun w => (snew_any w).mono (by
    rintro e w' ⟨rfl, h, hb⟩
    exact ⟨_, _, rfl, ⟨_, _, [], h, Cnt.nil, rfl⟩, hb⟩)
  apply := fun r hm h hk hB => by
    obtain ⟨v, u, es, h1, h2, rfl⟩ := h
    refine (sapply_any r hm h1 h2 hk hB).mono ?_
    rintro e w' ⟨he, es', m, c⟩
    exact ⟨he, SHas.did m c⟩
  all := fun h hk hB => by
    obtain ⟨v, u, es, h1, h2, rfl⟩ := h
    exact sall_any h1 hk.few hk.smalls
  sums := fun h hk hB => by
    obtain ⟨v, u, es, h1, h2, rfl⟩ := h
    exact ssum_any h1 hk.few (fun x hx => hk.small hx)
  last := fun f hf h hk hB => by
    obtain ⟨v, u, es, h1, h2, rfl⟩ := h
    exact slast_any f hf h1 hk.few hk.smalls hk.rights
  next := fun f n hf h hk hB => by
    obtain ⟨v, u, es, h1, h2, rfl⟩ := h
    exact snext_any f n hf h1 hk.rise hk.few hk.smalls hk.rights
theorem stells : STells SHas where
  subjects := by
    intro w B q F s f es hf h hk hB hc
    obtain ⟨v, u, es', h1, h2, rfl⟩ := h
    rw [hc.same h2]
    exact ssub_any f hf h1 h2.good
end Go.Proofs.YtphhebdmfdjfeabGreatDoor.Dk

namespace Go.Proofs.YtphhebdmfdjfeabGreatDoor.Dk
open Go.RowKit

theorem strys : STrys SHas where
  tries := fun r hm h hk hB => by
    obtain ⟨v, u, es, h1, h2, rfl⟩ := h
    exact stry_any r hm h1 h2 hk
  gets := fun n h hk hB => by
    obtain ⟨v, u, es, h1, h2, rfl⟩ := h
    exact sget_any n h1 hk.rise hk.few hk.smalls
end Go.Proofs.YtphhebdmfdjfeabGreatDoor.Dk
