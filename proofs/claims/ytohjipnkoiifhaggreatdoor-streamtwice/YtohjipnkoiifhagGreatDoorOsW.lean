/-
  The program's stream does what is asked of a stream.
-/
import Derived.Test.YtohjipnkoiifhagGreatDoorJointOsHOsLOsM2OsQ
import Derived.Test.YtohjipnkoiifhagGreatDoorJointOsOOsO2
namespace Go.Proofs.YtohjipnkoiifhagGreatDoor.Dk
open Go.RowKit

/-- the program's stream, from a block on that may lie lower -/
def RHx (Has : World → Nat → Nat → (Nat → Prop) → Int → List Pap → Prop) (SH : World → Nat → Nat → (Nat → Prop) → Sto → Prop) (w : World) (B x : Nat) (F : Nat → Prop) (P : Pn.Pln) (m size : Int) (st : Str) : Prop := ∃ B0, B ≤ B0 ∧ B0 ≤ w.heap.size ∧ RHof Has SH w B0 x F P m size st
section
variable {Has : World → Nat → Nat → (Nat → Prop) → Int → List Pap → Prop} {SH : World → Nat → Nat → (Nat → Prop) → Sto → Prop} {w w' : World} {B B0 x : Nat} {F : Nat → Prop} {P : Pn.Pln} {m size : Int} {st st' : Str}
theorem RHx.did (h : DidR (RHof Has SH) w w' B0 x F P m size st') (hB : B ≤ B0) (hw : B0 ≤ w.heap.size) : DidR (RHx Has SH) w w' B x F P m size st' := by
  obtain ⟨F', h1, h2, h3⟩ := h
  exact ⟨F', ⟨B0, hB, Nat.le_trans hw h2.size, h1⟩, h2, h3⟩

set_option maxRecDepth 100000 in
set_option maxHeartbeats 1000000 in
theorem rstore_any (h : RHof Has SH w B x F P m size st) :
    Calls Tryz.prog 17 #[.pointer (some ⟨x, 0, none⟩)] w fun e w' => ∃ q G, e = .returned (.pointer (some ⟨q, 0, none⟩)) ∧ SH w' B q G st.s ∧ (∀ k, G k → F k) ∧ Below w.heap.size w w' := by
  obtain ⟨FV, a, c, mb, h1, h2⟩ := h
  have P1 := hide (vstore_any h1.vault)
  have HF := hide (fun k (hk : FV k) => (h2 k).2 (.inl hk))
  clear h1 h2
  go_enter Tryz.func17, Tryz.ntmps17
  go_wp2_with fail
  refine (unhide P1).mono ?_
  rintro e w1 ⟨q, G, rfl, h1, h2, b1⟩
  have B1 := hide (show SH w1 B q G st.s ∧ (∀ k, G k → F k) ∧ Below w.heap.size w w1 from ⟨h1, fun k hk => unhide HF k (h2 k hk), b1⟩)
  clear P1 h1 h2 b1
  go_wp2_with fail
  go_ret
  exact ⟨q, G, rfl, unhide B1⟩
theorem rworks_of (U : Und Has SH) (N : News Has) (T : STells SH) (V : SWorks SH) : RWorks BndIs (RHx Has SH) SH where
  own := fun h k hk => by
    obtain ⟨B0, h1, _, FV, a, c, mb, h3, h4⟩ := h
    have := h3.own U.H U.S k ((h4 k).1 hk)
    exact ⟨Nat.le_trans h1 this.1, this.2⟩
  chg := fun h hc hn => by
    obtain ⟨B0, h1, h2, FV, a, c, mb, h3, h4⟩ := h
    exact ⟨B0, h1, Nat.le_trans h2 hc.size, FV, a, c, mb, h3.chg U.H U.S hc (fun k hk => hn k ((h4 k).2 hk)), h4⟩
  wrong := fun w P a c m size hs hsl hc hG hp => tnew_wrong w P a c m size hs hsl hc hG hp
  bad := fun w P a c m size hs hsl hc hG hp hb => tnew_bad N w P a c m size hs hsl hc hG hp hb
  good := fun w P a c m size hs hsl hc hG hp hm hz => (tnew_good U N w P a c m size hs hsl hc hG hp hm hz).mono (by
    rintro e w' ⟨p, F, B0, he, ⟨h1, h2, h3⟩, hb⟩
    exact ⟨p, F, he, ⟨B0, h1, h2, h3⟩, hb⟩)
  publish := fun now x hx h hf _ => by
    obtain ⟨B0, h1, h2, h3⟩ := h
    obtain ⟨a, c, mb, r, hfin⟩ := h3.begin
    refine (publish_any U T V r hf h2 now x hx).mono ?_
    rintro e w' ⟨he, ⟨mb', r'⟩, _⟩
    exact ⟨he, RHx.did (hfin _ _ _ _ r') h1 h2⟩
  store := fun h _ _ => by
    obtain ⟨B0, h1, h2, h3⟩ := h
    refine (rstore_any h3).mono ?_
    rintro e w' ⟨q, G, he, hs, hg, hb⟩
    exact ⟨q, G, he, U.S.low hs h1, hg, hb⟩
theorem rstops_of (_U : Und Has SH) : RStops (RHx Has SH) where
  true' := trivial
end
end Go.Proofs.YtohjipnkoiifhagGreatDoor.Dk
