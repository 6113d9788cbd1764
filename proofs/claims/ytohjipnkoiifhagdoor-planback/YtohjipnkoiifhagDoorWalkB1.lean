/-
  Contracts of rillref.Named and values.
-/
import Derived.Test.YtohjipnkoiifhagDoorJointRowPlRowPsRowPv
import Derived.Test.YtohjipnkoiifhagDoorPapPn
import Derived.Deep.RegionHeld3
namespace Go.Proofs.YtohjipnkoiifhagDoor
open Go.RowKit

set_option maxRecDepth 100000 in
set_option maxHeartbeats 1000000 in
theorem rvalues_any (n : ByteArray) (a : Option Addr) (l c : Nat) (x0 x1 x2 x3 x4 x5 x6 x7 : Int) (w : World) :
    Calls Tryd.prog 18 #[planV n a l c x0 x1 x2 x3 x4 x5 x6 x7] w fun e w' => ∃ g1 g2, e = .returned (.tuple #[.slice (some ⟨g1, 0, none⟩) 8 8, .slice (some ⟨g2, 0, none⟩) 8 8]) ∧ Dk.SlI w' (some ⟨g1, 0, none⟩) [x0, x1, x2, x3, x4, x5, x6, x7] ∧ Dk.SlI w' (some ⟨g2, 0, none⟩) Pn.most8 ∧ Below w.heap.size w w' := by
  obtain ⟨W1, hW1⟩ : ∃ W, W = w.alloc (.cells #[.string n, .slice a l c, .int .i64 x0, .int .i64 x1, .int .i64 x2, .int .i64 x3, .int .i64 x4, .int .i64 x5, .int .i64 x6, .int .i64 x7] 24) := ⟨_, rfl⟩
  have s1 : W1.heap.size = w.heap.size + 1 := by rw [hW1]; simp
  have r1 := eight_row W1 x0 x1 x2 x3 x4 x5 x6 x7 3
  obtain ⟨W2, hW2⟩ : ∃ W, W = W1.alloc (.cells #[.int .i64 x0, .int .i64 x1, .int .i64 x2, .int .i64 x3, .int .i64 x4, .int .i64 x5, .int .i64 x6, .int .i64 x7] 3) := ⟨_, rfl⟩
  rw [← hW2, s1] at r1
  have s2 : W2.heap.size = w.heap.size + 1 + 1 := by rw [hW2]; simp [s1]
  have r2 := eight_row W2 200 65536 100000 200 256 1 2 100000 3
  have b2 : Below W2.heap.size W2 (W2.alloc (.cells #[.int .i64 200, .int .i64 65536, .int .i64 100000, .int .i64 200, .int .i64 256, .int .i64 1, .int .i64 2, .int .i64 100000] 3)) := (Below.refl _ _).alloc (Nat.le_refl _) _
  have r3 := nums_next r1 b2
  have b1 : Below w.heap.size w W2 := by
    rw [hW2, hW1]
    exact ((Below.refl _ _).alloc (Nat.le_refl _) _).alloc (by simp) _
  have HE := hide (And.intro r3 (And.intro r2 (b1.trans (b2.mono (by omega)))))
  rw [s2, hW2, hW1] at HE
  clear hW1 hW2 s1 s2 r1 r2 r3 b1 b2 W1 W2
  go_enter Tryd.func18, Tryd.ntmps18
  go_wp2_with fail
  go_ret2
  exact ⟨w.heap.size + 1, w.heap.size + 1 + 1, rfl, unhide HE⟩
end Go.Proofs.YtohjipnkoiifhagDoor
