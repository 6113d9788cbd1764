/-
  Contract of the landed plan.Parse.
  The landed package plan parses as is asked of it.
-/
import Derived.Test.YtohjipnkoiifhagDoorWalkYa
import Derived.Test.YtohjipnkoiifhagDoorWorksPl
namespace Go.Proofs.YtohjipnkoiifhagDoor
open Go.RowKit

/-- what Parse answers -/
def ParseIs (s : ByteArray) (w : World) (e : Ending) (w' : World) : Prop := ∃ a c, e = .returned (.tuple #[plV (Pn.readP s).1 a c, .int .i64 (Pn.readP s).2]) ∧ SlS w' a (Pn.readP s).1.f ∧ Below w.heap.size w w' ∧ (Pn.readP s).1.f.length ≤ c
theorem ParseIs.bad {s : ByteArray} {w W : World} {E : Int} {t : Value} (h : Pn.readP s = (Pn.zeroP, E)) (hb : Below w.heap.size w W) (ht : t = .int .i64 E) : ParseIs s w (.returned (.tuple #[planV ⟨#[]⟩ none 0 0 0 0 0 0 0 0 0 0, t])) W := by
  unfold ParseIs
  rw [h, ht]
  exact ⟨none, 0, rfl, fun k hk => by simp [Pn.zeroP] at hk, hb, by simp [Pn.zeroP]⟩
theorem ParseIs.good {s : ByteArray} {w W : World} {t : Value} {n : ByteArray} {l : List ByteArray} {x0 x1 x2 x3 x4 x5 x6 x7 : Int} {a : Option Addr} {c : Nat} (h : Pn.readP s = (⟨n, l, [x0, x1, x2, x3, x4, x5, x6, x7]⟩, 0)) (hb : Below w.heap.size w W) (hs : SlS W a l) (hc : l.length ≤ c) (ht : t = .int .i64 0) : ParseIs s w (.returned (.tuple #[planV n a l.length c x0 x1 x2 x3 x4 x5 x6 x7, t])) W := by
  unfold ParseIs
  rw [h, ht]
  exact ⟨a, c, rfl, hs, hb, hc⟩

set_option maxRecDepth 100000 in
set_option maxHeartbeats 4000000 in
theorem parse_any (s : ByteArray) (w : World) (hs : s.size ≤ 140737488355328) (hG : BndIs w) :
    Calls Tryd.prog 6 #[.string s] w fun e w' => ParseIs s w e w' := by
  have r0 := PB.new w ⟨#[]⟩ none 0 0 0 0 0 0 0 0 0 0 24
  have b0 : Below w.heap.size w (w.alloc (.cells #[.string ⟨#[]⟩, .slice none 0 0, .int .i64 0, .int .i64 0, .int .i64 0, .int .i64 0, .int .i64 0, .int .i64 0, .int .i64 0, .int .i64 0] 24)) := (Below.refl _ _).alloc (Nat.le_refl _) _
  by_cases h1 : 1024 < s.size
  · have HR := hide (read_large h1)
    have R0 := hide (And.intro r0 b0)
    have g1 : decide ((1024 : Int) < (s.size : Int)) = true := decide_eq_true (by omega)
    clear r0 b0
    go_enter Tryd.func6, Tryd.ntmps6
    go_wp2_with fail
    refine bodyPost_ret (results_plan2 rfl rfl (unhide R0).1) rfl ?_
    exact ParseIs.bad (unhide HR) (unhide R0).2 rfl
  · have g1 : decide ((1024 : Int) < (s.size : Int)) = false := decide_eq_false (by omega)
    have rf0 : ∀ j, (w.alloc (.cells #[.string ⟨#[]⟩, .slice none 0 0, .int .i64 0, .int .i64 0, .int .i64 0, .int .i64 0, .int .i64 0, .int .i64 0, .int .i64 0, .int .i64 0] 24)).frozen? ⟨w.heap.size, j, none⟩ = false := fun j => World.frozen?_alloc_new _ _ _ j
    obtain ⟨W, hW⟩ : ∃ W, W = w.alloc (.cells #[.string ⟨#[]⟩, .slice none 0 0, .int .i64 0, .int .i64 0, .int .i64 0, .int .i64 0, .int .i64 0, .int .i64 0, .int .i64 0, .int .i64 0] 24) := ⟨_, rfl⟩
    rw [← hW] at r0 b0 rf0
    have PP := hide (read_any s W (by omega) (hG.next b0))
    have hWl : w.heap.size < W.heap.size := r0.lt
    have H0 := hide (And.intro r0 rf0)
    have HB := hide (And.intro b0 (hG.next b0))
    clear r0 rf0 b0
    go_enter Tryd.func6, Tryd.ntmps6
    go_wp2_with fail
    rw [← hW]
    obtain ⟨rb, hrb⟩ : ∃ rb, rb = w.heap.size := ⟨_, rfl⟩
    rw [← hrb] at H0 ⊢
    have hrw : w.heap.size ≤ rb := by omega
    rw [← hrb] at hWl
    clear hW hrb
    refine (unhide PP).mono ?_
    rintro e w1 ⟨r, n, a, l, c, x0, x1, x2, x3, x4, x5, x6, x7, rfl, sl1, hc, b1, hr1, hr2, hnz, hlz, hll, hza⟩
    have HNr : Hid (∀ z, a = some z → z.block ≠ rb) := hide (fun z hz e => by
      have := hza z hz
      omega)
    have k2 : Below w1.heap.size w1 (w1.alloc (.cells #[.string n, .slice a l.length c, .int .i64 x0, .int .i64 x1, .int .i64 x2, .int .i64 x3, .int .i64 x4, .int .i64 x5, .int .i64 x6, .int .i64 x7] 24)) := (Below.refl _ _).alloc (Nat.le_refl _) _
    have p2 := PB.new w1 n a l.length c x0 x1 x2 x3 x4 x5 x6 x7 24
    have bW2 : Below W.heap.size W (w1.alloc (.cells #[.string n, .slice a l.length c, .int .i64 x0, .int .i64 x1, .int .i64 x2, .int .i64 x3, .int .i64 x4, .int .i64 x5, .int .i64 x6, .int .i64 x7] 24)) := bstep b1 k2
    have sl2 := sl1.next k2
    obtain ⟨W2, hW2⟩ : ∃ W2, W2 = w1.alloc (.cells #[.string n, .slice a l.length c, .int .i64 x0, .int .i64 x1, .int .i64 x2, .int .i64 x3, .int .i64 x4, .int .i64 x5, .int .i64 x6, .int .i64 x7] 24) := ⟨_, rfl⟩
    obtain ⟨b, hb⟩ : ∃ b, b = w1.heap.size := ⟨_, rfl⟩
    rw [← hW2] at p2 bW2 sl2
    rw [← hb] at p2
    have H2 : Hid (PB W2 rb ⟨#[]⟩ none 0 0 0 0 0 0 0 0 0 0 ∧ (∀ j, W2.frozen? ⟨rb, j, none⟩ = false) ∧ Below w.heap.size w W2 ∧ BndIs W2 ∧ PB W2 b n a l.length c x0 x1 x2 x3 x4 x5 x6 x7 ∧ SlS W2 a l) := hide ⟨(unhide H0).1.next bW2, fun j => by rw [bW2.frozen (p := ⟨rb, j, none⟩) hWl]; exact (unhide H0).2 j, bstep (unhide HB).1 bW2, (unhide HB).2.next bW2, p2, sl2⟩
    have HQ := hide (And.intro hr1 hr2)
    have HLz := hide hlz
    clear PP H0 HB sl1 b1 k2 p2 bW2 sl2 hr1 hr2 hlz hza
    cases r with
    | false =>
      have HR := hide ((unhide HQ).1 rfl)
      obtain ⟨_, y0, y1, y2, y3, y4, y5, y6, y7, y8, y9⟩ := (unhide H2).1
      have fz := (unhide H2).2.1
      rw [hW2] at y0 y1 y2 y3 y4 y5 y6 y7 y8 y9 fz
      go_wp2_with fail
      rw [← hW2]
      refine bodyPost_ret (results_plan2 rfl rfl ((unhide H2).1.puts _ _ _ _ _ _ _ _ _ _ _ _)) rfl ?_
      exact ParseIs.bad (unhide HR) (puts_below hrw [_, _, _, _, _, _, _, _, _, _] W2 0 (unhide H2).2.2.1) rfl
    | true =>
      have HR := hide ((unhide HQ).2 rfl)
      have PC := hide (plcheck_any n a l c x0 x1 x2 x3 x4 x5 x6 x7 W2 (by omega) (unhide H2).2.2.2.2.2 (fun k hk => by have := unhide HLz k hk; omega) (by omega) hc (unhide H2).2.2.2.1)
      obtain ⟨E, hE⟩ : ∃ E, Pn.planE ⟨n, l, [x0, x1, x2, x3, x4, x5, x6, x7]⟩ = E := ⟨_, rfl⟩
      rw [hE] at PC HR
      clear hE HQ
      go_wp2_with fail
      rw [← hW2, ← hb]
      clear hW2 hb
      refine (unhide PC).mono ?_
      rintro e w5 ⟨rfl, b5⟩
      have H5 : Hid (PB w5 rb ⟨#[]⟩ none 0 0 0 0 0 0 0 0 0 0 ∧ (∀ j, w5.frozen? ⟨rb, j, none⟩ = false) ∧ Below w.heap.size w w5 ∧ PB w5 b n a l.length c x0 x1 x2 x3 x4 x5 x6 x7 ∧ SlS w5 a l) := hide ⟨(unhide H2).1.next b5, fun j => by rw [b5.frozen (p := ⟨rb, j, none⟩) (unhide H2).1.lt]; exact (unhide H2).2.1 j, bstep (unhide H2).2.2.1 b5, (unhide H2).2.2.2.2.1.next b5, (unhide H2).2.2.2.2.2.next b5⟩
      obtain ⟨_, y0, y1, y2, y3, y4, y5, y6, y7, y8, y9⟩ := (unhide H5).1
      have fz := (unhide H5).2.1
      clear PC b5 H2
      by_cases hE0 : E = 0
      · subst hE0
        rw [if_pos rfl] at HR
        obtain ⟨_, z0, z1, z2, z3, z4, z5, z6, z7, z8, z9⟩ := (unhide H5).2.2.2.1
        go_wp2_with fail
        refine bodyPost_ret (results_plan2 rfl rfl ((unhide H5).1.puts _ _ _ _ _ _ _ _ _ _ _ _)) rfl ?_
        exact ParseIs.good (unhide HR) (puts_below hrw [_, _, _, _, _, _, _, _, _, _] _ 0 (unhide H5).2.2.1) (SlS.puts (unhide HNr) [_, _, _, _, _, _, _, _, _, _] _ 0 (unhide H5).2.2.2.2) hc rfl
      · have gE : (E != 0) = true := by simpa using hE0
        rw [if_neg hE0] at HR
        go_wp2_with fail
        refine bodyPost_ret (results_plan2 rfl rfl ((unhide H5).1.puts _ _ _ _ _ _ _ _ _ _ _ _)) rfl ?_
        exact ParseIs.bad (unhide HR) (puts_below hrw [_, _, _, _, _, _, _, _, _, _] _ 0 (unhide H5).2.2.1) rfl
end Go.Proofs.YtohjipnkoiifhagDoor

namespace Go.Proofs.YtohjipnkoiifhagDoor
open Go.RowKit

theorem preads {G : World → Prop} (hG : ∀ {w : World}, G w → BndIs w) : PReads G where
  parse := fun s w hs hg => parse_any s w hs (hG hg)
end Go.Proofs.YtohjipnkoiifhagDoor
