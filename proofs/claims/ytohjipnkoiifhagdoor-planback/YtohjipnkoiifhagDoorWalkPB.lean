/-
  The walk of the law PlanBack, over what is asked of the program's package plan.
-/
import Derived.Test.YtohjipnkoiifhagDoorWorksPl
import Derived.Test.YtohjipnkoiifhagDoorWalkB3
namespace Go.Proofs.YtohjipnkoiifhagDoor
open Go.RowKit

theorem one_print : printV Pn.onePlan = .tuple #[.string ⟨#[115, 32, 97, 46, 62, 44, 98, 32, 112, 101, 114, 61, 51]⟩, .int .i64 0] := by
  unfold printV
  rw [if_neg (by rw [Pn.one_ok.1]; simp), Pn.one_ok.2, if_neg (by simp), Pn.one_text]
theorem one_small : SmallP Pn.onePlan := ⟨by decide, fun k hk => by
  have : k < 2 := hk
  rcases k with _ | _ | k
  · decide
  · decide
  · omega, by decide, rfl⟩

theorem small_of {q : Pn.Pln} (h : Pn.planE q = 0) : SmallP q := by
  obtain ⟨o1, o2, o3, o4, o5, o6⟩ := Pn.plan_ok h
  refine ⟨by have := (Pn.name_bytes o1).1; omega, fun k hk => ?_, by omega, (Pn.inAll_in o6).1⟩
  have := (Pn.filt_bytes (Pn.filtE_all o4 (tk q.f k) (by
    unfold tk
    rw [List.getElem?_eq_getElem hk]
    exact List.getElem_mem hk))).1
  omega
theorem two_txts (w : World) (f g : ByteArray) (T : TypeId) : SlS (w.alloc (.cells #[.string f, .string g] T)) (some ⟨w.heap.size, 0, none⟩) [f, g] := fun k hk => by
  refine ⟨w.heap.size, 0, rfl, by simp, ?_⟩
  rw [cell_of_row _ w.heap.size (0 + k) _ _ _ (heap_alloc_new w _), Nat.zero_add]
  have : k < 2 := by simpa using hk
  rcases k with _ | _ | k
  · rfl
  · rfl
  · omega
/-- a plan that was read, in its block -/
def Rx (w wr : World) (b : Nat) (n : ByteArray) (a : Option Addr) (l : List ByteArray) (c : Nat) (x0 x1 x2 x3 x4 x5 x6 x7 : Int) (G : World → Prop) : Prop := PB wr b n a l.length c x0 x1 x2 x3 x4 x5 x6 x7 ∧ SlS wr a l ∧ G wr ∧ Below w.heap.size w wr
theorem Rx.next {w wr w' : World} {b : Nat} {n : ByteArray} {a : Option Addr} {l : List ByteArray} {c : Nat} {x0 x1 x2 x3 x4 x5 x6 x7 : Int} {G : World → Prop} (h : Rx w wr b n a l c x0 x1 x2 x3 x4 x5 x6 x7 G) (hN : ∀ {w w' : World}, G w → Below w.heap.size w w' → G w') (hb : Below wr.heap.size wr w') : Rx w w' b n a l c x0 x1 x2 x3 x4 x5 x6 x7 G := ⟨h.1.next hb, h.2.1.next hb, hN h.2.2.1 hb, bstep h.2.2.2 hb⟩
/-- Print's answer, by cases -/
theorem print_cases (p : Pn.Pln) : ∃ (S : ByteArray) (FF : Int), printV p = .tuple #[.string S, .int .i64 FF] ∧ (FF ≠ 0 ∨ (FF = 0 ∧ Pn.planE p = 0 ∧ Pn.readP S = (p, 0) ∧ S.size ≤ 1024)) := by
  unfold printV
  by_cases h0 : Pn.planE p = 0
  · rw [if_neg (by rw [h0]; simp)]
    cases hc : Pn.commas p with
    | true => exact ⟨_, _, by rw [if_pos rfl], .inl (by decide)⟩
    | false => exact ⟨_, _, by rw [if_neg (by simp)], .inr ⟨rfl, h0, Pn.read_print h0 hc, (Pn.text_ok h0).2⟩⟩
  · rw [if_pos h0]
    exact ⟨_, _, rfl, .inl h0⟩
theorem print_back {q : Pn.Pln} {s : ByteArray} (h : Pn.readP s = (q, 0)) : printV q = .tuple #[.string s, .int .i64 0] ∧ Pn.planE q = 0 := by
  obtain ⟨h1, h2, h3⟩ := Pn.print_read h
  refine ⟨?_, h1⟩
  unfold printV
  rw [if_neg (by rw [h1]; simp), h2, if_neg (by simp), h3]

set_option maxRecDepth 100000 in
set_option maxHeartbeats 4000000 in
theorem plan_back {G : World → Prop} (hN : ∀ {w w' : World}, G w → Below w.heap.size w w' → G w') (H : PSays G) (HP : PReads G) (n : ByteArray) (a : Option Addr) (l : List ByteArray) (c : Nat) (x0 x1 x2 x3 x4 x5 x6 x7 : Int) (s : ByteArray) (w : World) (hn : n.size ≤ 140737488355328) (hsl : SlS w a l) (hz : ∀ k, k < l.length → (tk l k).size ≤ 140737488355328) (hl : l.length ≤ 140737488355328) (hs : s.size ≤ 140737488355328) (hc : l.length ≤ c) (hG : G w) :
    Calls Tryd.prog 3 #[planV n a l.length c x0 x1 x2 x3 x4 x5 x6 x7, .string s] w fun e w' => e = .returned (.bool true) ∧ Below w.heap.size w w' := by
  have hsm : SmallP ⟨n, l, [x0, x1, x2, x3, x4, x5, x6, x7]⟩ := ⟨hn, hz, hl, rfl⟩
  have b0 : Below w.heap.size w (w.alloc (.cells #[.string n, .slice a l.length c, .int .i64 x0, .int .i64 x1, .int .i64 x2, .int .i64 x3, .int .i64 x4, .int .i64 x5, .int .i64 x6, .int .i64 x7] 24)) := (Below.refl _ _).alloc (Nat.le_refl _) _
  obtain ⟨W, hW⟩ : ∃ W, W = w.alloc (.cells #[.string n, .slice a l.length c, .int .i64 x0, .int .i64 x1, .int .i64 x2, .int .i64 x3, .int .i64 x4, .int .i64 x5, .int .i64 x6, .int .i64 x7] 24) := ⟨_, rfl⟩
  rw [← hW] at b0
  have Q0 : Hid (Pst w W w.heap.size n a l c x0 x1 x2 x3 x4 x5 x6 x7 ∧ G W) := hide ⟨⟨by rw [hW]; exact PB.new w n a l.length c x0 x1 x2 x3 x4 x5 x6 x7 _, hsl.next b0, b0⟩, hN hG b0⟩
  have HSm := hide hsm
  clear hsl hz hG b0 hsm
  obtain ⟨W1, hW1⟩ : ∃ W1, W1 = W.alloc (.cells #[.string ⟨#[97, 46, 62]⟩, .string ⟨#[98]⟩] 9) := ⟨_, rfl⟩
  have k1 : Below W.heap.size W W1 := by rw [hW1]; exact (Below.refl _ _).alloc (Nat.le_refl _) _
  have sW : W.heap.size = w.heap.size + 1 := by rw [hW]; simp
  have P1 : Hid (Calls Tryd.prog 5 #[planV ⟨#[115]⟩ (some ⟨w.heap.size + 1, 0, none⟩) 2 2 0 0 0 3 0 0 0 0] W1 fun e w' => e = .returned (.tuple #[.string ⟨#[115, 32, 97, 46, 62, 44, 98, 32, 112, 101, 114, 61, 51]⟩, .int .i64 0]) ∧ Below W1.heap.size W1 w') := hide (by
    have h2 := two_txts W ⟨#[97, 46, 62]⟩ ⟨#[98]⟩ 9
    rw [← hW1, sW] at h2
    have := H.print Pn.onePlan (some ⟨w.heap.size + 1, 0, none⟩) 2 W1 one_small h2 (by decide) (hN (unhide Q0).2 k1)
    rw [one_print] at this
    exact this)
  have Q1 : Hid (Pst w W1 w.heap.size n a l c x0 x1 x2 x3 x4 x5 x6 x7 ∧ G W1) := hide ⟨(unhide Q0).1.next k1, hN (unhide Q0).2 k1⟩
  have HNx := hide (fun (W W' : World) (h : Pst w W w.heap.size n a l c x0 x1 x2 x3 x4 x5 x6 x7 ∧ G W) (hb : Below W.heap.size W W') => (show Pst w W' w.heap.size n a l c x0 x1 x2 x3 x4 x5 x6 x7 ∧ G W' from ⟨h.1.next hb, hN h.2 hb⟩))
  have PPr : Hid (∀ (W : World), (Pst w W w.heap.size n a l c x0 x1 x2 x3 x4 x5 x6 x7 ∧ G W) → Calls Tryd.prog 5 #[planV n a l.length c x0 x1 x2 x3 x4 x5 x6 x7] W fun e w' => e = .returned (printV ⟨n, l, [x0, x1, x2, x3, x4, x5, x6, x7]⟩) ∧ Below W.heap.size W w') := hide (fun W h => H.print ⟨n, l, [x0, x1, x2, x3, x4, x5, x6, x7]⟩ a c W (unhide HSm) h.1.2.1 hc h.2)
  rw [hW] at hW1
  clear k1 sW Q0 hW
  go_enter Tryd.func3, Tryd.ntmps3
  go_wp2_with fail
  rw [← hW1]
  clear hW1 W
  refine (unhide P1).mono ?_
  rintro e w2 ⟨rfl, b2⟩
  have Q2 := hide (unhide HNx _ _ (unhide Q1) b2)
  obtain ⟨S, FF, hSF, hcase⟩ := print_cases ⟨n, l, [x0, x1, x2, x3, x4, x5, x6, x7]⟩
  have P2 := hide (unhide PPr w2 (unhide Q2))
  rw [hSF] at P2
  obtain ⟨b, hb⟩ : ∃ b, b = w.heap.size := ⟨_, rfl⟩
  rw [← hb] at Q2 HNx ⊢
  obtain ⟨_, y0, y1, y2, y3, y4, y5, y6, y7, y8, y9⟩ := (unhide Q2).1.1
  have HCase := hide hcase
  clear P1 b2 Q1 hSF PPr hb hcase
  go_wp2_with fail
  refine (unhide P2).mono ?_
  rintro e w3 ⟨rfl, b3⟩
  have Q3 := hide (unhide HNx _ _ (unhide Q2) b3)
  clear P2 b3 Q2 y0 y1 y2 y3 y4 y5 y6 y7 y8 y9
  rcases unhide HCase with h0 | ⟨h0, he, hr, hsz⟩
  · have e1 : (FF == 0) = false := by rw [beq_eq_false_iff_ne]; exact h0
    clear HCase
    have PP := hide (HP.parse s w3 hs (unhide Q3).2)
    obtain ⟨q, E2, hq⟩ : ∃ q E2, Pn.readP s = (q, E2) := ⟨_, _, rfl⟩
    rw [hq] at PP
    by_cases hE2 : E2 = 0
    · rw [hE2] at hq PP
      obtain ⟨pv, hpe⟩ := print_back hq
      have hsq := small_of hpe
      have PPq := hide (fun (a : Option Addr) (c : Nat) (W : World) (h1 : SlS W a q.f) (h3 : q.f.length ≤ c) (h2 : G W) => H.print q a c W hsq h1 h3 h2)
      have PCq := hide (fun (a : Option Addr) (c : Nat) (W : World) (h1 : SlS W a q.f) (h3 : q.f.length ≤ c) (h2 : G W) => H.check q a c W hsq h1 h3 h2)
      rw [pv] at PPq
      rw [hpe] at PCq
      unfold plV at PP PPq PCq
      simp only at PP
      generalize q.n = qn at PP PPq PCq
      generalize q.f = qf at PP PPq PCq
      generalize Dk.nth q.v 0 = z0 at PP PPq PCq
      generalize Dk.nth q.v 1 = z1 at PP PPq PCq
      generalize Dk.nth q.v 2 = z2 at PP PPq PCq
      generalize Dk.nth q.v 3 = z3 at PP PPq PCq
      generalize Dk.nth q.v 4 = z4 at PP PPq PCq
      generalize Dk.nth q.v 5 = z5 at PP PPq PCq
      generalize Dk.nth q.v 6 = z6 at PP PPq PCq
      generalize Dk.nth q.v 7 = z7 at PP PPq PCq
      clear hq pv hpe hsq hE2
      go_wp2_with fail
      refine (unhide PP).mono ?_
      rintro e w7 ⟨a7, c7, rfl, s7, b7, hc0⟩
      have hc7 := hide hc0
      clear hc0
      have k7 : Below w7.heap.size w7 (w7.alloc (.cells #[.string qn, .slice a7 qf.length c7, .int .i64 z0, .int .i64 z1, .int .i64 z2, .int .i64 z3, .int .i64 z4, .int .i64 z5, .int .i64 z6, .int .i64 z7] 24)) := (Below.refl _ _).alloc (Nat.le_refl _) _
      have R7 : Hid (Rx w (w7.alloc (.cells #[.string qn, .slice a7 qf.length c7, .int .i64 z0, .int .i64 z1, .int .i64 z2, .int .i64 z3, .int .i64 z4, .int .i64 z5, .int .i64 z6, .int .i64 z7] 24)) w7.heap.size qn a7 qf c7 z0 z1 z2 z3 z4 z5 z6 z7 G) := hide ⟨PB.new w7 qn a7 qf.length c7 z0 z1 z2 z3 z4 z5 z6 z7 _, s7.next k7, hN (hN (unhide Q3).2 b7) k7, bstep (bstep (unhide Q3).1.2.2 b7) k7⟩
      have P8 := hide (unhide PPq a7 c7 _ (unhide R7).2.1 (unhide hc7) (unhide R7).2.2.1)
      clear PP PPq s7 b7 k7 Q3
      go_wp2_with fail
      refine (unhide P8).mono ?_
      rintro e w8 ⟨rfl, b8⟩
      have R8 := hide ((unhide R7).next hN b8)
      have P9 := hide (unhide PCq a7 c7 _ (unhide R8).2.1 (unhide hc7) (unhide R8).2.2.1)
      obtain ⟨bq, hbq⟩ : ∃ b, b = w7.heap.size := ⟨_, rfl⟩
      rw [← hbq] at R8 ⊢
      obtain ⟨_, y0, y1, y2, y3, y4, y5, y6, y7, y8, y9⟩ := (unhide R8).1
      clear P8 PCq b8 R7 hbq
      go_wp2_with fail
      refine (unhide P9).mono ?_
      rintro e w9 ⟨rfl, b9⟩
      have B9 := hide (bstep (unhide R8).2.2.2 b9)
      clear P9 b9 R8 y0 y1 y2 y3 y4 y5 y6 y7 y8 y9
      go_wp2_with fail
      go_ret
      exact ⟨rfl, unhide B9⟩
    · have hz2 : q = Pn.zeroP := by
        have := Pn.read_bad (s := s) (by rw [hq]; exact hE2)
        rw [hq] at this
        exact this
      subst hz2
      have e2 : (E2 != 0) = true := by simpa using hE2
      have PP2 : Hid (Calls Tryd.prog 6 #[.string s] w3 fun e w' => ∃ a c, e = .returned (.tuple #[planV ⟨#[]⟩ a 0 c 0 0 0 0 0 0 0 0, .int .i64 E2]) ∧ SlS w' a [] ∧ Below w3.heap.size w3 w') := hide ((unhide PP).mono (fun _ _ ⟨a, c, h1, h2, h3, _⟩ => ⟨a, c, h1, h2, h3⟩))
      clear hq PP
      go_wp2_with fail
      refine (unhide PP2).mono ?_
      rintro e w7 ⟨a7, c7, rfl, s7, b7⟩
      have B7 := hide (bstep (bstep (unhide Q3).1.2.2 b7) ((Below.refl _ _).alloc (Nat.le_refl _) (.cells #[.string ⟨#[]⟩, .slice a7 0 c7, .int .i64 0, .int .i64 0, .int .i64 0, .int .i64 0, .int .i64 0, .int .i64 0, .int .i64 0, .int .i64 0] 24)))
      clear PP2 s7 b7 Q3
      go_wp2_with fail
      go_ret
      exact ⟨rfl, unhide B7⟩
  · subst h0
    have hl4 : l.length ≤ 4 := (Pn.plan_ok he).2.1
    have PP0 := hide (HP.parse S w3 (by omega) (unhide Q3).2)
    rw [hr] at PP0
    have PP : Hid (Calls Tryd.prog 6 #[.string S] w3 fun e w' => ∃ a c, e = .returned (.tuple #[planV n a l.length c x0 x1 x2 x3 x4 x5 x6 x7, .int .i64 0]) ∧ SlS w' a l ∧ Below w3.heap.size w3 w') := hide ((unhide PP0).mono (fun _ _ ⟨a, c, h1, h2, h3, _⟩ => ⟨a, c, h1, h2, h3⟩))
    clear HCase hr PP0 he hsz
    go_wp2_with fail
    refine (unhide PP).mono ?_
    rintro e w4 ⟨a4, c4, rfl, s4, b4⟩
    have k4 : Below w4.heap.size w4 (w4.alloc (.cells #[.string n, .slice a4 l.length c4, .int .i64 x0, .int .i64 x1, .int .i64 x2, .int .i64 x3, .int .i64 x4, .int .i64 x5, .int .i64 x6, .int .i64 x7] 24)) := (Below.refl _ _).alloc (Nat.le_refl _) _
    have Q4 := hide (unhide HNx _ _ (unhide HNx _ _ (unhide Q3) b4) k4)
    have P5 := hide (same_plan n a4 a l c4 c x0 x1 x2 x3 x4 x5 x6 x7 _ (s4.next k4) (unhide Q4).1.2.1 (by omega))
    obtain ⟨_, y0, y1, y2, y3, y4, y5, y6, y7, y8, y9⟩ := (unhide Q4).1.1
    clear PP s4 b4 k4 Q3
    go_wp2_with fail
    refine (unhide P5).mono ?_
    rintro e w5 ⟨rfl, b5⟩
    have Q5 := hide (unhide HNx _ _ (unhide Q4) b5)
    clear P5 b5 Q4 y0 y1 y2 y3 y4 y5 y6 y7 y8 y9
    have PP := hide (HP.parse s w5 hs (unhide Q5).2)
    obtain ⟨q, E2, hq⟩ : ∃ q E2, Pn.readP s = (q, E2) := ⟨_, _, rfl⟩
    rw [hq] at PP
    by_cases hE2 : E2 = 0
    · rw [hE2] at hq PP
      obtain ⟨pv, hpe⟩ := print_back hq
      have hsq := small_of hpe
      have PPq := hide (fun (a : Option Addr) (c : Nat) (W : World) (h1 : SlS W a q.f) (h3 : q.f.length ≤ c) (h2 : G W) => H.print q a c W hsq h1 h3 h2)
      have PCq := hide (fun (a : Option Addr) (c : Nat) (W : World) (h1 : SlS W a q.f) (h3 : q.f.length ≤ c) (h2 : G W) => H.check q a c W hsq h1 h3 h2)
      rw [pv] at PPq
      rw [hpe] at PCq
      unfold plV at PP PPq PCq
      simp only at PP
      generalize q.n = qn at PP PPq PCq
      generalize q.f = qf at PP PPq PCq
      generalize Dk.nth q.v 0 = z0 at PP PPq PCq
      generalize Dk.nth q.v 1 = z1 at PP PPq PCq
      generalize Dk.nth q.v 2 = z2 at PP PPq PCq
      generalize Dk.nth q.v 3 = z3 at PP PPq PCq
      generalize Dk.nth q.v 4 = z4 at PP PPq PCq
      generalize Dk.nth q.v 5 = z5 at PP PPq PCq
      generalize Dk.nth q.v 6 = z6 at PP PPq PCq
      generalize Dk.nth q.v 7 = z7 at PP PPq PCq
      clear hq pv hpe hsq hE2
      go_wp2_with fail
      refine (unhide PP).mono ?_
      rintro e w7 ⟨a7, c7, rfl, s7, b7, hc0⟩
      have hc7 := hide hc0
      clear hc0
      have k7 : Below w7.heap.size w7 (w7.alloc (.cells #[.string qn, .slice a7 qf.length c7, .int .i64 z0, .int .i64 z1, .int .i64 z2, .int .i64 z3, .int .i64 z4, .int .i64 z5, .int .i64 z6, .int .i64 z7] 24)) := (Below.refl _ _).alloc (Nat.le_refl _) _
      have R7 : Hid (Rx w (w7.alloc (.cells #[.string qn, .slice a7 qf.length c7, .int .i64 z0, .int .i64 z1, .int .i64 z2, .int .i64 z3, .int .i64 z4, .int .i64 z5, .int .i64 z6, .int .i64 z7] 24)) w7.heap.size qn a7 qf c7 z0 z1 z2 z3 z4 z5 z6 z7 G) := hide ⟨PB.new w7 qn a7 qf.length c7 z0 z1 z2 z3 z4 z5 z6 z7 _, s7.next k7, hN (hN (unhide Q5).2 b7) k7, bstep (bstep (unhide Q5).1.2.2 b7) k7⟩
      have P8 := hide (unhide PPq a7 c7 _ (unhide R7).2.1 (unhide hc7) (unhide R7).2.2.1)
      clear PP PPq s7 b7 k7 Q5
      go_wp2_with fail
      refine (unhide P8).mono ?_
      rintro e w8 ⟨rfl, b8⟩
      have R8 := hide ((unhide R7).next hN b8)
      have P9 := hide (unhide PCq a7 c7 _ (unhide R8).2.1 (unhide hc7) (unhide R8).2.2.1)
      obtain ⟨bq, hbq⟩ : ∃ b, b = w7.heap.size := ⟨_, rfl⟩
      rw [← hbq] at R8 ⊢
      obtain ⟨_, y0, y1, y2, y3, y4, y5, y6, y7, y8, y9⟩ := (unhide R8).1
      clear P8 PCq b8 R7 hbq
      go_wp2_with fail
      refine (unhide P9).mono ?_
      rintro e w9 ⟨rfl, b9⟩
      have B9 := hide (bstep (unhide R8).2.2.2 b9)
      clear P9 b9 R8 y0 y1 y2 y3 y4 y5 y6 y7 y8 y9
      go_wp2_with fail
      go_ret
      exact ⟨rfl, unhide B9⟩
    · have hz2 : q = Pn.zeroP := by
        have := Pn.read_bad (s := s) (by rw [hq]; exact hE2)
        rw [hq] at this
        exact this
      subst hz2
      have e2 : (E2 != 0) = true := by simpa using hE2
      have PP2 : Hid (Calls Tryd.prog 6 #[.string s] w5 fun e w' => ∃ a c, e = .returned (.tuple #[planV ⟨#[]⟩ a 0 c 0 0 0 0 0 0 0 0, .int .i64 E2]) ∧ SlS w' a [] ∧ Below w5.heap.size w5 w') := hide ((unhide PP).mono (fun _ _ ⟨a, c, h1, h2, h3, _⟩ => ⟨a, c, h1, h2, h3⟩))
      clear hq PP
      go_wp2_with fail
      refine (unhide PP2).mono ?_
      rintro e w7 ⟨a7, c7, rfl, s7, b7⟩
      have B7 := hide (bstep (bstep (unhide Q5).1.2.2 b7) ((Below.refl _ _).alloc (Nat.le_refl _) (.cells #[.string ⟨#[]⟩, .slice a7 0 c7, .int .i64 0, .int .i64 0, .int .i64 0, .int .i64 0, .int .i64 0, .int .i64 0, .int .i64 0, .int .i64 0] 24)))
      clear PP2 s7 b7 Q5
      go_wp2_with fail
      go_ret
      exact ⟨rfl, unhide B7⟩
end Go.Proofs.YtohjipnkoiifhagDoor
