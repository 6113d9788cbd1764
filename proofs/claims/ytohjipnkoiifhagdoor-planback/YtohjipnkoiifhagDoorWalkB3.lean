/-
  Contracts of slices.Equal at two rows of the same texts, and of rillref.SamePlan at the same plan.
-/
import Derived.Test.YtohjipnkoiifhagDoorJointRowPlRowPsRowPv
import Derived.Test.YtohjipnkoiifhagDoorWalkB1
import Derived.Test.YtohjipnkoiifhagDoorJointRowNWalkE1
namespace Go.Proofs.YtohjipnkoiifhagDoor
open Go.RowKit

set_option maxHeartbeats 2000000 in
set_option maxRecDepth 100000 in
theorem equal_txts (a b : Option Addr) (ca cb : Nat) (l : List ByteArray) (w : World) (ha : SlS w a l) (hb : SlS w b l) (h100 : l.length ≤ 200000) :
    Calls Tryd.prog 19 #[.slice a l.length ca, .slice b l.length cb] w fun e w' => e = .returned (.bool true) ∧ ∃ q, w' = w.drewN q := by
  have Ha := hide ha
  have Hb := hide hb
  clear ha hb
  go_enter Tryd.func19, Tryd.ntmps19
  go_wp2
  go_loopw [13] (fun kv wr => ∃ (k : Nat), kv = .int .i64 k ∧ k ≤ l.length ∧ ∃ n, wr = w.drewN n) (fun kv _ => l.length - (intOf kv).toNat)
  case atStart => exact ⟨0, rfl, Nat.zero_le _, 0, rfl⟩
  case round =>
    obtain ⟨k, rfl, hk, n, rfl⟩ := hrel
    by_cases hlt : k < l.length
    · obtain ⟨g, o, rfl, _, c1⟩ := unhide Ha k hlt
      obtain ⟨h, o2, rfl, _, c2⟩ := unhide Hb k hlt
      go_wp2
      go_quiet (fail)
      go_wp2
      exact ⟨⟨k + 1, by go_num, by omega, _, rfl⟩, by simp [intOf]; omega⟩
    · go_wp2
      go_ret
      exact ⟨rfl, n, rfl⟩

/-- two plans that are looked at -/
def Pst2 (w wr : World) (b1 b2 : Nat) (n : ByteArray) (a1 a2 : Option Addr) (l : List ByteArray) (c1 c2 : Nat) (x0 x1 x2 x3 x4 x5 x6 x7 : Int) : Prop := PB wr b1 n a1 l.length c1 x0 x1 x2 x3 x4 x5 x6 x7 ∧ PB wr b2 n a2 l.length c2 x0 x1 x2 x3 x4 x5 x6 x7 ∧ SlS wr a1 l ∧ SlS wr a2 l ∧ Below w.heap.size w wr
theorem Pst2.next {w wr w' : World} {b1 b2 : Nat} {n : ByteArray} {a1 a2 : Option Addr} {l : List ByteArray} {c1 c2 : Nat} {x0 x1 x2 x3 x4 x5 x6 x7 : Int} (h : Pst2 w wr b1 b2 n a1 a2 l c1 c2 x0 x1 x2 x3 x4 x5 x6 x7) (hb : Below wr.heap.size wr w') : Pst2 w w' b1 b2 n a1 a2 l c1 c2 x0 x1 x2 x3 x4 x5 x6 x7 := ⟨h.1.next hb, h.2.1.next hb, h.2.2.1.next hb, h.2.2.2.1.next hb, bstep h.2.2.2.2 hb⟩
abbrev Four2 (b1 b2 : Nat) (n : ByteArray) (a1 a2 : Option Addr) (l c1 c2 : Nat) (w : World) : Prop := w.cell? ⟨b1, 0, none⟩ = some (.string n) ∧ w.cell? ⟨b1, 1, none⟩ = some (.slice a1 l c1) ∧ w.cell? ⟨b2, 0, none⟩ = some (.string n) ∧ w.cell? ⟨b2, 1, none⟩ = some (.slice a2 l c2)
theorem Pst2.four {w wr : World} {b1 b2 : Nat} {n : ByteArray} {a1 a2 : Option Addr} {l : List ByteArray} {c1 c2 : Nat} {x0 x1 x2 x3 x4 x5 x6 x7 : Int} (h : Pst2 w wr b1 b2 n a1 a2 l c1 c2 x0 x1 x2 x3 x4 x5 x6 x7) : Four2 b1 b2 n a1 a2 l.length c1 c2 wr := ⟨h.1.c0, h.1.c1, h.2.1.c0, h.2.1.c1⟩

set_option maxRecDepth 100000 in
set_option maxHeartbeats 4000000 in
theorem same_plan (n : ByteArray) (a1 a2 : Option Addr) (l : List ByteArray) (c1 c2 : Nat) (x0 x1 x2 x3 x4 x5 x6 x7 : Int) (w : World) (h1 : SlS w a1 l) (h2 : SlS w a2 l) (hl : l.length ≤ 200000) :
    Calls Tryd.prog 7 #[planV n a1 l.length c1 x0 x1 x2 x3 x4 x5 x6 x7, planV n a2 l.length c2 x0 x1 x2 x3 x4 x5 x6 x7] w fun e w' => e = .returned (.bool true) ∧ Below w.heap.size w w' := by
  obtain ⟨W1, hW1⟩ : ∃ W, W = w.alloc (.cells #[.string n, .slice a1 l.length c1, .int .i64 x0, .int .i64 x1, .int .i64 x2, .int .i64 x3, .int .i64 x4, .int .i64 x5, .int .i64 x6, .int .i64 x7] 24) := ⟨_, rfl⟩
  have k1 : Below w.heap.size w W1 := by rw [hW1]; exact (Below.refl _ _).alloc (Nat.le_refl _) _
  have s1 : W1.heap.size = w.heap.size + 1 := by rw [hW1]; simp
  have p1 : PB W1 w.heap.size n a1 l.length c1 x0 x1 x2 x3 x4 x5 x6 x7 := by rw [hW1]; exact PB.new w n a1 l.length c1 x0 x1 x2 x3 x4 x5 x6 x7 _
  obtain ⟨W2, hW2⟩ : ∃ W, W = W1.alloc (.cells #[.string n, .slice a2 l.length c2, .int .i64 x0, .int .i64 x1, .int .i64 x2, .int .i64 x3, .int .i64 x4, .int .i64 x5, .int .i64 x6, .int .i64 x7] 24) := ⟨_, rfl⟩
  have k2 : Below W1.heap.size W1 W2 := by rw [hW2]; exact (Below.refl _ _).alloc (Nat.le_refl _) _
  have p2 : PB W2 W1.heap.size n a2 l.length c2 x0 x1 x2 x3 x4 x5 x6 x7 := by rw [hW2]; exact PB.new W1 n a2 l.length c2 x0 x1 x2 x3 x4 x5 x6 x7 _
  have Q0 : Hid (Pst2 w W2 w.heap.size (w.heap.size + 1) n a1 a2 l c1 c2 x0 x1 x2 x3 x4 x5 x6 x7) := hide (by
    rw [s1] at p2
    exact ⟨p1.next k2, p2, (h1.next k1).next k2, (h2.next k1).next k2, bstep k1 k2⟩)
  obtain ⟨b1, hb1⟩ : ∃ b, b = w.heap.size := ⟨_, rfl⟩
  obtain ⟨b2, hb2⟩ : ∃ b, b = w.heap.size + 1 := ⟨_, rfl⟩
  rw [← hb2, ← hb1] at Q0
  rw [hW1] at hW2
  clear hW1 k1 k2 s1 p1 p2 h1 h2
  have PV1 := hide (rvalues_any n a1 l.length c1 x0 x1 x2 x3 x4 x5 x6 x7 W2)
  go_enter Tryd.func7, Tryd.ntmps7
  go_wp2_with fail
  rw [← hW2, ← hb2, ← hb1]
  clear hW2 hb1 hb2 W1
  refine (unhide PV1).mono ?_
  rintro e w1 ⟨g1, g2, rfl, v1, _, k1⟩
  have Q1 := hide ((unhide Q0).next k1)
  have V1 := hide v1
  have PV2 := hide (rvalues_any n a2 l.length c2 x0 x1 x2 x3 x4 x5 x6 x7 w1)
  obtain ⟨_, y0, y1, y2, y3, y4, y5, y6, y7, y8, y9⟩ := (unhide Q1).2.1
  clear PV1 Q0 v1 k1
  go_wp2_with fail
  refine (unhide PV2).mono ?_
  rintro e w2 ⟨g3, g4, rfl, v3, _, k2⟩
  have Q2 := hide ((unhide Q1).next k2)
  have V3 := hide (And.intro (nums_next (unhide V1) k2) v3)
  have B2 := hide (unhide Q2).2.2.2.2
  obtain ⟨f0, f1, f2, f3⟩ := (unhide Q2).four
  have PE := hide (equal_txts a1 a2 c1 c2 l w2 (unhide Q2).2.2.1 (unhide Q2).2.2.2.1 hl)
  clear PV2 Q1 V1 v3 k2 y0 y1 y2 y3 y4 y5 y6 y7 y8 y9
  go_wp2_with fail
  refine (unhide PE).mono ?_
  rintro e w4 ⟨rfl, q4, rfl⟩
  have PN := hide (Dk.equal_nums (some ⟨g1, 0, none⟩) (some ⟨g3, 0, none⟩) 8 8 [x0, x1, x2, x3, x4, x5, x6, x7] (w2.drewN q4) (nums_next (unhide V3).1 (below_drewN (Below.refl _ _) q4)) (nums_next (unhide V3).2 (below_drewN (Below.refl _ _) q4)) (by simp))
  clear PE V3 Q2 f0 f1 f2 f3
  go_wp2_with fail
  refine (unhide PN).mono ?_
  rintro e w5 ⟨rfl, q5, rfl⟩
  clear PN
  go_wp2_with fail
  go_ret
  exact ⟨rfl, below_drewN (unhide B2) _⟩
end Go.Proofs.YtohjipnkoiifhagDoor
