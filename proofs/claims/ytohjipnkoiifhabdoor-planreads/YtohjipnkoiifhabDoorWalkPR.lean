/-
  The walk of the law PlanReads, over what is asked of the program's package plan.
-/
import Derived.Test.YtohjipnkoiifhabDoorWalkB7
import Derived.Test.YtohjipnkoiifhabDoorWalkB3
namespace Go.Proofs.YtohjipnkoiifhabDoor
open Go.RowKit

theorem read_few (s : ByteArray) : (Pn.readP s).1.f.length ≤ 200000 := by
  by_cases h : (Pn.readP s).2 = 0
  · have h4 : (Pn.readP s).1.f.length ≤ 4 := (Pn.plan_ok (Pn.print_read (s := s) (x := (Pn.readP s).1) (by rw [← h])).1).2.1
    omega
  · rw [Pn.read_bad h]
    decide

set_option maxRecDepth 100000 in
set_option maxHeartbeats 4000000 in
theorem plan_reads {G : World → Prop} (hN : ∀ {w w' : World}, G w → Below w.heap.size w w' → G w') (hD : ∀ {w : World}, G w → WrdIs w) (HP : PReads G) (s : ByteArray) (w : World) (hs : s.size ≤ 140737488355328) (hG : G w) :
    Calls Tryd.prog 4 #[.string s] w fun e w' => e = .returned (.bool true) ∧ Below w.heap.size w w' := by
  have PA : Hid (Calls Tryd.prog 9 #[.string s] w fun e w' => ∃ a c, e = .returned (.tuple #[plV (Pn.readP s).1 a c, .int .i64 (Pn.readP s).2]) ∧ SlS w' a (Pn.readP s).1.f ∧ Below w.heap.size w w') := hide ((HP.parse s w hs hG).mono (fun _ _ ⟨a, c, h1, h2, h3, _⟩ => ⟨a, c, h1, h2, h3⟩))
  have PRd := hide (fun (W : World) (h : G W) => rread_any s W hs (hD h))
  have hq := read_few s
  obtain ⟨q, E, hqe⟩ : ∃ q E, Pn.readP s = (q, E) := ⟨_, _, rfl⟩
  rw [hqe] at PA PRd hq
  unfold plV at PA PRd
  simp only at PA PRd hq
  generalize q.n = qn at PA PRd
  generalize q.f = qf at PA PRd hq
  generalize Dk.nth q.v 0 = z0 at PA PRd
  generalize Dk.nth q.v 1 = z1 at PA PRd
  generalize Dk.nth q.v 2 = z2 at PA PRd
  generalize Dk.nth q.v 3 = z3 at PA PRd
  generalize Dk.nth q.v 4 = z4 at PA PRd
  generalize Dk.nth q.v 5 = z5 at PA PRd
  generalize Dk.nth q.v 6 = z6 at PA PRd
  generalize Dk.nth q.v 7 = z7 at PA PRd
  clear hqe
  have HG := hide hG
  clear hG
  go_enter Tryd.func4, Tryd.ntmps4
  go_wp2_with fail
  refine (unhide PA).mono ?_
  rintro e w1 ⟨a1, c1, rfl, s1, b1⟩
  have k1 : Below w1.heap.size w1 (w1.alloc (.cells #[.string qn, .slice a1 qf.length c1, .int .i64 z0, .int .i64 z1, .int .i64 z2, .int .i64 z3, .int .i64 z4, .int .i64 z5, .int .i64 z6, .int .i64 z7] 24)) := (Below.refl _ _).alloc (Nat.le_refl _) _
  obtain ⟨W1, hW1⟩ : ∃ W1, W1 = w1.alloc (.cells #[.string qn, .slice a1 qf.length c1, .int .i64 z0, .int .i64 z1, .int .i64 z2, .int .i64 z3, .int .i64 z4, .int .i64 z5, .int .i64 z6, .int .i64 z7] 24) := ⟨_, rfl⟩
  have R1 : Hid (PB W1 w1.heap.size qn a1 qf.length c1 z0 z1 z2 z3 z4 z5 z6 z7 ∧ SlS W1 a1 qf ∧ G W1 ∧ Below w.heap.size w W1) := hide (by rw [hW1]; exact ⟨PB.new w1 qn a1 qf.length c1 z0 z1 z2 z3 z4 z5 z6 z7 _, s1.next k1, hN (hN (unhide HG) b1) k1, bstep b1 k1⟩)
  have P2 := hide (unhide PRd W1 (unhide R1).2.2.1)
  clear PA PRd s1 b1 k1 HG
  go_wp2_with fail
  rw [← hW1]
  obtain ⟨b, hb⟩ : ∃ b, b = w1.heap.size := ⟨_, rfl⟩
  rw [← hb] at R1 ⊢
  clear hW1 hb
  refine (unhide P2).mono ?_
  rintro e w2 ⟨a2, c2, rfl, s2, b2⟩
  have k2 : Below w2.heap.size w2 (w2.alloc (.cells #[.string qn, .slice a2 qf.length c2, .int .i64 z0, .int .i64 z1, .int .i64 z2, .int .i64 z3, .int .i64 z4, .int .i64 z5, .int .i64 z6, .int .i64 z7] 24)) := (Below.refl _ _).alloc (Nat.le_refl _) _
  obtain ⟨W2, hW2⟩ : ∃ W2, W2 = w2.alloc (.cells #[.string qn, .slice a2 qf.length c2, .int .i64 z0, .int .i64 z1, .int .i64 z2, .int .i64 z3, .int .i64 z4, .int .i64 z5, .int .i64 z6, .int .i64 z7] 24) := ⟨_, rfl⟩
  have R2 : Hid (PB W2 b qn a1 qf.length c1 z0 z1 z2 z3 z4 z5 z6 z7 ∧ PB W2 w2.heap.size qn a2 qf.length c2 z0 z1 z2 z3 z4 z5 z6 z7 ∧ SlS W2 a1 qf ∧ SlS W2 a2 qf ∧ Below w.heap.size w W2) := hide (by rw [hW2]; exact ⟨((unhide R1).1.next b2).next k2, PB.new w2 qn a2 qf.length c2 z0 z1 z2 z3 z4 z5 z6 z7 _, ((unhide R1).2.1.next b2).next k2, s2.next k2, bstep (bstep (unhide R1).2.2.2 b2) k2⟩)
  have P3 := hide (same_plan qn a1 a2 qf c1 c2 z0 z1 z2 z3 z4 z5 z6 z7 W2 (unhide R2).2.2.1 (unhide R2).2.2.2.1 hq)
  rw [hW2] at R2 P3
  obtain ⟨_, y0, y1, y2, y3, y4, y5, y6, y7, y8, y9⟩ := (unhide R2).1
  clear P2 s2 b2 k2 R1 hW2
  go_wp2_with fail
  refine (unhide P3).mono ?_
  rintro e w3 ⟨rfl, b3⟩
  have B3 := hide (bstep (unhide R2).2.2.2.2 b3)
  clear P3 b3 R2 y0 y1 y2 y3 y4 y5 y6 y7 y8 y9
  go_wp2_with fail
  go_ret
  exact ⟨rfl, unhide B3⟩
end Go.Proofs.YtohjipnkoiifhabDoor
