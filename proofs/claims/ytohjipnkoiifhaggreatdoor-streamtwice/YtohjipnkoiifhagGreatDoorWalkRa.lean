/-
  Contracts of rillkeep.post, small and published, over what is asked of the program's stream.
-/
import Derived.Test.YtohjipnkoiifhagGreatDoorJointOvRWorksSPapRaPapRbPapRfPapRcRowPvWorksROsPPapRdRowPtRowPu
import Derived.Test.YtohjipnkoiifhagGreatDoorJointWalkY3WalkY4PapRe
import Derived.Test.YtohjipnkoiifhagGreatDoorJointBase0PlainPapPaPapDRowZPapPdPapLPapMWorksDWorksEPlainNPlainRec
import Derived.Laws.Rows
namespace Go.Proofs.YtohjipnkoiifhagGreatDoor.Dk
open Go.RowKit

/-- a post in a block -/
theorem load_post {w : World} {b o : Nat} {x : Po} (c0 : w.cell? ⟨b, o, none⟩ = some (.string x.s)) (c1 : w.cell? ⟨b, o + 1, none⟩ = some (.string x.i)) (c2 : w.cell? ⟨b, o + 2, none⟩ = some (.string x.h)) (c3 : w.cell? ⟨b, o + 3, none⟩ = some (.string x.d)) (c4 : w.cell? ⟨b, o + 4, none⟩ = some (.int .i64 x.x)) (c5 : w.cell? ⟨b, o + 5, none⟩ = some (.int .i64 x.ro)) :
    (loadVar 50 ⟨b, o, none⟩).run Tryz.prog w = .ok (poV x) w := by
  have hl : (loadCells ⟨b, o, none⟩ 6).run Tryz.prog w = .ok #[.string x.s, .string x.i, .string x.h, .string x.d, .int .i64 x.x, .int .i64 x.ro] w :=
    run_loadCells_list (P := Tryz.prog) w ⟨b, o, none⟩ [.string x.s, .string x.i, .string x.h, .string x.d, .int .i64 x.x, .int .i64 x.ro] (fun j v hv => by
      rw [addp]
      match j, hv with
      | 0, hv => rw [Nat.add_zero, c0]; simpa using hv
      | 1, hv => rw [c1]; simpa using hv
      | 2, hv => rw [c2]; simpa using hv
      | 3, hv => rw [c3]; simpa using hv
      | 4, hv => rw [c4]; simpa using hv
      | 5, hv => rw [c5]; simpa using hv)
  have hz : Tryz.t50.size = 6 := by kernel_rfl
  simp [loadVar, isAgg, sizeOf]
  rw [hz, hl]
  rfl
theorem results_post {fn : Func} {t : Tmp} {tmps : Array Value} {w : World} {b : Nat} {x : Po} (hf : fn.results = #[.cell t 50]) (ha : tmps.getD t undef = .pointer (some ⟨b, 0, none⟩)) (h : (loadVar 50 ⟨b, 0, none⟩).run Tryz.prog w = .ok (poV x) w) :
    (results fn tmps).run Tryz.prog w = .ok (poV x) w := by
  have ha' : tmps[t]?.getD undef = .pointer (some ⟨b, 0, none⟩) := by simpa using ha
  simp [results, hf, ha', asAddr, h]
theorem post_any (s : ByteArray) (w : World) :
    Calls Tryz.prog 31 #[.string s] w fun e w' => e = .returned (poV ⟨s, ⟨#[]⟩, ⟨#[]⟩, ⟨#[100]⟩, -1, 0⟩) ∧ Below w.heap.size w w' := by
  go_enter Tryz.func31, Tryz.ntmps31
  go_wp2_with fail
  refine bodyPost_ret (results_post rfl rfl (load_post (x := ⟨s, ⟨#[]⟩, ⟨#[]⟩, ⟨#[100]⟩, -1, 0⟩) (by simp) (by simp) (by simp) (by simp) (by simp) (by simp))) rfl ?_
  exact ⟨rfl, (Below.refl _ _).alloc (Nat.le_refl _) _⟩
theorem P0_small : SmallP P0 := ⟨by decide, fun k hk => by
  have : k = 0 := by simp [P0] at hk; omega
  subst this
  decide, by decide, rfl⟩
theorem x0_small : SmallO x0 := ⟨by decide, by decide, by decide, by decide⟩
section
variable {G : World → Prop} {RH : World → Nat → Nat → (Nat → Prop) → Pn.Pln → Int → Int → Str → Prop} {SH : World → Nat → Nat → (Nat → Prop) → Sto → Prop}
set_option maxRecDepth 100000 in
theorem small_any (hN : ∀ {w w' : World}, G w → Below w.heap.size w w' → G w') (V : RWorks G RH SH) (w : World) (hG : G w) :
    Calls Tryz.prog 30 #[] w fun e w' => ∃ wb p, e = .returned (.pointer (some ⟨p, 0, none⟩)) ∧ Below w.heap.size w wb ∧ Ray RH (fun _ => False) wb w' p P0 1000 100 noStr := by
  have b1 : Below w.heap.size w (w.alloc (.cells #[.string ⟨#[97, 46, 62]⟩] 9)) := (Below.refl _ _).alloc (Nat.le_refl _) _
  have hsl : SlS (w.alloc (.cells #[.string ⟨#[97, 46, 62]⟩] 9)) (some ⟨w.heap.size, 0, none⟩) P0.f := fun k hk => by
    have : k = 0 := by simp [P0] at hk; omega
    subst this
    exact ⟨w.heap.size, 0, rfl, by simp, by simp [P0, tk]⟩
  have PN := hide (Ray.new V (m := 1000) (size := 100) (w.alloc (.cells #[.string ⟨#[97, 46, 62]⟩] 9)) P0 (some ⟨w.heap.size, 0, none⟩) 1 P0_small hsl (by decide) (hN hG b1) P0_ok (by decide) (by decide))
  have HB := hide b1
  clear hsl b1
  go_enter Tryz.func30, Tryz.ntmps30
  go_wp2_with fail
  refine (unhide PN).mono ?_
  rintro e w2 ⟨p, rfl, r2⟩
  have HR := hide r2
  clear r2 PN
  go_wp2_with fail
  go_ret
  exact ⟨_, p, rfl, unhide HB, unhide HR⟩
/-- so many posts at a small stream -/
def pubN : Nat → Str
  | 0 => noStr
  | k + 1 => (pubP P0 1000 100 5 x0 (pubN k)).2
set_option maxRecDepth 100000 in
set_option maxHeartbeats 1000000 in
theorem published_any (hN : ∀ {w w' : World}, G w → Below w.heap.size w w' → G w') (V : RWorks G RH SH) (E : SSees SH) (w : World) (hG : G w) :
    Calls Tryz.prog 15 #[] w fun e w' => e = .returned (.bool true) ∧ Below w.heap.size w w' := by
  have PS := hide (small_any hN V w hG)
  clear hG
  go_enter Tryz.func15, Tryz.ntmps15
  go_wp2_with fail
  refine (unhide PS).mono ?_
  rintro e w1 ⟨wb, p, rfl, b1, r1⟩
  have HB := hide b1
  have HR : Hid (Ray RH (fun _ => False) wb w1 p P0 1000 100 (pubN 0)) := hide r1
  clear PS b1 r1
  go_wp2_with fail
  go_loopw [5] (fun iv wr => ∃ (i : Nat), iv = .int .i64 i ∧ i ≤ 3 ∧ Hid (Ray RH (fun _ => False) wb wr p P0 1000 100 (pubN i))) (fun iv _ => 3 - (intOf iv).toNat)
  case atStart => exact ⟨0, rfl, by omega, HR⟩
  case round =>
    clear HR
    obtain ⟨i, rfl, hi, HR⟩ := hrel
    by_cases hlt : i < 3
    · have P1 := hide (post_any ⟨#[97, 46, 98]⟩ wr)
      go_wp2_with fail
      refine (unhide P1).mono ?_
      rintro e w2 ⟨rfl, b2⟩
      have HR2 := hide ((unhide HR).below V b2)
      have P2 := hide ((unhide HR2).publish V 5 x0 x0_small)
      clear P1 b2 HR
      go_wp2_with fail
      refine (unhide P2).mono ?_
      rintro e w3 ⟨rfl, r3, _⟩
      have HR3 : Hid (Ray RH (fun _ => False) wb w3 p P0 1000 100 (pubN (i + 1))) := hide r3
      clear r3 P2 HR2
      go_wp2_with fail
      refine ⟨⟨i + 1, by go_num, by omega, HR3⟩, ?_⟩
      simp [intOf]; omega
    · obtain rfl : i = 3 := by omega
      have P1 := hide ((unhide HR).store V)
      go_wp2_with fail
      refine (unhide P1).mono ?_
      rintro e w2 ⟨q, F0, rfl, s2, b2⟩
      have HR2 := hide ((unhide HR).below V b2)
      have P2 := hide ((unhide HR2).store V)
      clear P1 s2 b2 HR
      go_wp2_with fail
      refine (unhide P2).mono ?_
      rintro e w3 ⟨q3, F3, rfl, s3, b3⟩
      have HR3 := hide ((unhide HR2).below V b3)
      obtain ⟨y1, y2, y3, y4⟩ := three_sums
      have P3 := hide (E.sums s3 (unhide HR3).fit.vok.ok (unhide HR3).room)
      rw [show (pubN 3).s = pub3.s from rfl, y1, y2, y3, y4] at P3
      clear P2 s3 b3 HR2
      go_wp2_with fail
      refine (unhide P3).mono ?_
      rintro e w4 ⟨rfl, b4⟩
      have B4 := hide (bstep (unhide HR3).bl b4)
      clear P3 b4 HR3
      go_wp2_with fail
      go_ret
      exact ⟨rfl, bstep (unhide HB) (unhide B4)⟩
end
end Go.Proofs.YtohjipnkoiifhagGreatDoor.Dk
