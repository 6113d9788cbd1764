/-
  The walk of the law PlanSays, over what is asked of the program's package plan.
-/
import Derived.Test.YtohjipnkoiifhabDoorWalkB5
import Derived.Test.YtohjipnkoiifhabDoorWorksPl
namespace Go.Proofs.YtohjipnkoiifhabDoor
open Go.RowKit

/-- what the tables are asked to be, and that it stays -/
structure Tabs (G : World → Prop) : Prop where
  next : ∀ {w w' : World}, G w → Below w.heap.size w w' → G w'
  pow : ∀ {w : World}, G w → TabP w
  wrd : ∀ {w : World}, G w → WrdIs w

set_option maxRecDepth 100000 in
set_option maxHeartbeats 4000000 in
theorem plan_says {G : World → Prop} (T : Tabs G) (H : PSays G) (n : ByteArray) (a : Option Addr) (l : List ByteArray) (c : Nat) (x0 x1 x2 x3 x4 x5 x6 x7 : Int) (w : World) (hn : n.size ≤ 140737488355328) (hsl : SlS w a l) (hz : ∀ k, k < l.length → (tk l k).size ≤ 140737488355328) (hl : l.length ≤ 140737488355328) (hc : l.length ≤ c) (hG : G w) :
    Calls Tryd.prog 3 #[planV n a l.length c x0 x1 x2 x3 x4 x5 x6 x7] w fun e w' => e = .returned (.bool true) ∧ Below w.heap.size w w' := by
  have hsm : SmallP ⟨n, l, [x0, x1, x2, x3, x4, x5, x6, x7]⟩ := ⟨hn, hz, hl, rfl⟩
  have b0 : Below w.heap.size w (w.alloc (.cells #[.string n, .slice a l.length c, .int .i64 x0, .int .i64 x1, .int .i64 x2, .int .i64 x3, .int .i64 x4, .int .i64 x5, .int .i64 x6, .int .i64 x7] 24)) := (Below.refl _ _).alloc (Nat.le_refl _) _
  obtain ⟨W, hW⟩ : ∃ W, W = w.alloc (.cells #[.string n, .slice a l.length c, .int .i64 x0, .int .i64 x1, .int .i64 x2, .int .i64 x3, .int .i64 x4, .int .i64 x5, .int .i64 x6, .int .i64 x7] 24) := ⟨_, rfl⟩
  rw [← hW] at b0
  have Q0 : Hid (Pst w W w.heap.size n a l c x0 x1 x2 x3 x4 x5 x6 x7 ∧ G W) := hide ⟨⟨by rw [hW]; exact PB.new w n a l.length c x0 x1 x2 x3 x4 x5 x6 x7 _, hsl.next b0, b0⟩, T.next hG b0⟩
  have P1 := hide (rplan_any n a l c x0 x1 x2 x3 x4 x5 x6 x7 W hn (unhide Q0).1.2.1 hz hl)
  have PPr := hide (fun (W : World) (h : Pst w W w.heap.size n a l c x0 x1 x2 x3 x4 x5 x6 x7 ∧ G W) => H.print ⟨n, l, [x0, x1, x2, x3, x4, x5, x6, x7]⟩ a c W hsm h.1.2.1 hc h.2)
  have PCh := hide (fun (W : World) (h : Pst w W w.heap.size n a l c x0 x1 x2 x3 x4 x5 x6 x7 ∧ G W) => H.check ⟨n, l, [x0, x1, x2, x3, x4, x5, x6, x7]⟩ a c W hsm h.1.2.1 hc h.2)
  have PTx := hide (fun (hk : Pn.planE ⟨n, l, [x0, x1, x2, x3, x4, x5, x6, x7]⟩ = 0) (W : World) (h : Pst w W w.heap.size n a l c x0 x1 x2 x3 x4 x5 x6 x7 ∧ G W) => rtext_any n a l c x0 x1 x2 x3 x4 x5 x6 x7 W hk h.1.2.1 (T.wrd h.2) (T.pow h.2))
  have HNx := hide (fun (W W' : World) (h : Pst w W w.heap.size n a l c x0 x1 x2 x3 x4 x5 x6 x7 ∧ G W) (hb : Below W.heap.size W W') => (show Pst w W' w.heap.size n a l c x0 x1 x2 x3 x4 x5 x6 x7 ∧ G W' from ⟨h.1.next hb, T.next h.2 hb⟩))
  unfold plV at PPr PCh
  obtain ⟨E, hE⟩ : ∃ E, Pn.planE ⟨n, l, [x0, x1, x2, x3, x4, x5, x6, x7]⟩ = E := ⟨_, rfl⟩
  rw [hE] at P1 PCh
  have HE := hide hE
  clear hE hsm hsl hz hG b0
  go_enter Tryd.func3, Tryd.ntmps3
  go_wp2_with fail
  rw [← hW]
  clear hW
  refine (unhide P1).mono ?_
  rintro e w1 ⟨rfl, b1⟩
  have Q1 := hide (unhide HNx _ _ (unhide Q0) b1)
  have P2 := hide (unhide PPr w1 (unhide Q1))
  have P3 := PCh
  obtain ⟨b, hb⟩ : ∃ b, b = w.heap.size := ⟨_, rfl⟩
  rw [← hb] at Q1 HNx PCh PTx P3 ⊢
  clear hb P1 Q0 b1 PPr
  obtain ⟨S, FF, hSF, hcase⟩ : ∃ (S : ByteArray) (FF : Int), printV ⟨n, l, [x0, x1, x2, x3, x4, x5, x6, x7]⟩ = .tuple #[.string S, .int .i64 FF] ∧ ((E ≠ 0 ∧ S = ⟨#[]⟩ ∧ FF = E) ∨ (E = 0 ∧ Pn.commas ⟨n, l, [x0, x1, x2, x3, x4, x5, x6, x7]⟩ = true ∧ S = ⟨#[]⟩ ∧ FF = 3) ∨ (E = 0 ∧ Pn.commas ⟨n, l, [x0, x1, x2, x3, x4, x5, x6, x7]⟩ = false ∧ S = Pn.planT ⟨n, l, [x0, x1, x2, x3, x4, x5, x6, x7]⟩ ∧ FF = 0)) := by
    have he := unhide HE
    unfold printV
    rw [he]
    by_cases h0 : E = 0
    · rw [if_neg (by rw [h0]; simp)]
      cases hc : Pn.commas ⟨n, l, [x0, x1, x2, x3, x4, x5, x6, x7]⟩ with
      | true => exact ⟨_, _, by rw [if_pos rfl], .inr (.inl ⟨h0, rfl, rfl, rfl⟩)⟩
      | false => exact ⟨_, _, by rw [if_neg (by simp)], .inr (.inr ⟨h0, rfl, rfl, rfl⟩)⟩
    · rw [if_pos h0]
      exact ⟨_, _, rfl, .inl ⟨h0, rfl, rfl⟩⟩
  rw [hSF] at P2
  have HCase := hide hcase
  clear hSF hcase
  obtain ⟨_, y0, y1, y2, y3, y4, y5, y6, y7, y8, y9⟩ := (unhide Q1).1.1
  go_wp2_with fail
  refine (unhide P2).mono ?_
  rintro e w2 ⟨rfl, b2⟩
  have Q2 := hide (unhide HNx _ _ (unhide Q1) b2)
  have P4 := hide (unhide P3 w2 (unhide Q2))
  clear P2 b2 Q1 P3 PCh y0 y1 y2 y3 y4 y5 y6 y7 y8 y9
  obtain ⟨_, y0, y1, y2, y3, y4, y5, y6, y7, y8, y9⟩ := (unhide Q2).1.1
  go_wp2_with fail
  refine (unhide P4).mono ?_
  rintro e w3 ⟨rfl, b3⟩
  have Q3 := hide (unhide HNx _ _ (unhide Q2) b3)
  clear P4 b3 Q2 y0 y1 y2 y3 y4 y5 y6 y7 y8 y9
  rcases unhide HCase with ⟨h0, rfl, rfl⟩ | ⟨h0, hc, rfl, rfl⟩ | ⟨h0, hc, hS, rfl⟩
  · have e1 : (FF != 0) = true := by simpa using h0
    clear HCase PTx HE
    go_wp2_with fail
    go_ret
    exact ⟨rfl, (unhide Q3).1.2.2⟩
  · have PT := hide (unhide PTx ((unhide HE).trans h0) w3 (unhide Q3))
    rw [hc, if_pos rfl] at PT
    subst h0
    obtain ⟨_, y0, y1, y2, y3, y4, y5, y6, y7, y8, y9⟩ := (unhide Q3).1.1
    clear HCase PTx HE hc
    go_wp2_with fail
    refine (unhide PT).mono ?_
    rintro e w4 ⟨rfl, b4⟩
    have Q4 := hide (unhide HNx _ _ (unhide Q3) b4)
    clear PT b4 Q3 y0 y1 y2 y3 y4 y5 y6 y7 y8 y9
    go_wp2_with fail
    go_ret
    exact ⟨rfl, (unhide Q4).1.2.2⟩
  · have PT := hide (unhide PTx ((unhide HE).trans h0) w3 (unhide Q3))
    rw [hc, if_neg (by simp), ← hS] at PT
    subst h0
    obtain ⟨_, y0, y1, y2, y3, y4, y5, y6, y7, y8, y9⟩ := (unhide Q3).1.1
    clear HCase PTx HE hc hS
    go_wp2_with fail
    refine (unhide PT).mono ?_
    rintro e w4 ⟨rfl, b4⟩
    have Q4 := hide (unhide HNx _ _ (unhide Q3) b4)
    clear PT b4 Q3 y0 y1 y2 y3 y4 y5 y6 y7 y8 y9
    go_wp2_with fail
    go_ret
    exact ⟨rfl, (unhide Q4).1.2.2⟩
end Go.Proofs.YtohjipnkoiifhabDoor
