/-
  Contracts of the landed package plan: numbers, Check. Its table of words and bounds.
  Contract of the landed plan.Check. Its table of words and bounds.
  A stream, pure: a small one, three posts. No program.
-/
import Derived.Test.YtohjipnkoiifhagGreatDoorJointPapPeWalkY1WalkY2PapCPapEPapWRowT
import Derived.Test.YtohjipnkoiifhagGreatDoorJointPapPbPapPnRowPlRowPsPapPcRowPrPapPwPapSPapTPapVaRowVWorksV
import Derived.Deep.RegionHeldLaw
import Derived.BigQuiet
import Derived.Test.YtohjipnkoiifhagGreatDoorJointOvRWorksSPapRaPapRbPapRfPapRcRowPvWorksROsPPapRdRowPtRowPu
namespace Go.Proofs.YtohjipnkoiifhagGreatDoor
open Go.RowKit

/-- the pointers to a plan's numbers, as numbers hands them back -/
abbrev ptrs (b : Nat) : Value := .agg #[.pointer (some ⟨b, 2, none⟩), .pointer (some ⟨b, 3, none⟩), .pointer (some ⟨b, 4, none⟩), .pointer (some ⟨b, 5, none⟩), .pointer (some ⟨b, 6, none⟩), .pointer (some ⟨b, 7, none⟩), .pointer (some ⟨b, 8, none⟩), .pointer (some ⟨b, 9, none⟩)]
theorem load_ptrs {w : World} {g b : Nat} (r : ∀ i, i < 8 → w.cell? ⟨g, i, none⟩ = some (.pointer (some ⟨b, 2 + i, none⟩))) :
    (loadVar 115 ⟨g, 0, none⟩).run Tryz.prog w = .ok (ptrs b) w := by
  have hl : (loadCells ⟨g, 0, none⟩ 8).run Tryz.prog w = .ok #[.pointer (some ⟨b, 2, none⟩), .pointer (some ⟨b, 3, none⟩), .pointer (some ⟨b, 4, none⟩), .pointer (some ⟨b, 5, none⟩), .pointer (some ⟨b, 6, none⟩), .pointer (some ⟨b, 7, none⟩), .pointer (some ⟨b, 8, none⟩), .pointer (some ⟨b, 9, none⟩)] w :=
    run_loadCells_list (P := Tryz.prog) w ⟨g, 0, none⟩ [.pointer (some ⟨b, 2, none⟩), .pointer (some ⟨b, 3, none⟩), .pointer (some ⟨b, 4, none⟩), .pointer (some ⟨b, 5, none⟩), .pointer (some ⟨b, 6, none⟩), .pointer (some ⟨b, 7, none⟩), .pointer (some ⟨b, 8, none⟩), .pointer (some ⟨b, 9, none⟩)] (fun j v hv => by
      rw [addp, Nat.zero_add]
      match j, hv with
      | 0, hv => rw [r 0 (by omega)]; simpa using hv
      | 1, hv => rw [r 1 (by omega)]; simpa using hv
      | 2, hv => rw [r 2 (by omega)]; simpa using hv
      | 3, hv => rw [r 3 (by omega)]; simpa using hv
      | 4, hv => rw [r 4 (by omega)]; simpa using hv
      | 5, hv => rw [r 5 (by omega)]; simpa using hv
      | 6, hv => rw [r 6 (by omega)]; simpa using hv
      | 7, hv => rw [r 7 (by omega)]; simpa using hv)
  have hz : Tryz.t115.size = 8 := by kernel_rfl
  simp [loadVar, isAgg, sizeOf]
  rw [hz, hl]
  rfl
theorem results_ptrs {fn : Func} {t : Tmp} {tmps : Array Value} {w : World} {g b : Nat} (hf : fn.results = #[.cell t 115]) (ha : tmps.getD t undef = .pointer (some ⟨g, 0, none⟩)) (r : ∀ i, i < 8 → w.cell? ⟨g, i, none⟩ = some (.pointer (some ⟨b, 2 + i, none⟩))) :
    (results fn tmps).run Tryz.prog w = .ok (ptrs b) w := by
  have ha' : tmps[t]?.getD undef = .pointer (some ⟨g, 0, none⟩) := by simpa using ha
  simp [results, hf, ha', asAddr, load_ptrs r]
/-- the i-th pointer -/
theorem run_index_ptrs (b i : Nat) (hi : i < 8) (w : World) : (Instr.index 115 (ptrs b) (.int .i64 (i : Int))).run Tryz.prog w = .ok (.pointer (some ⟨b, 2 + i, none⟩)) w := by
  have : i = 0 ∨ i = 1 ∨ i = 2 ∨ i = 3 ∨ i = 4 ∨ i = 5 ∨ i = 6 ∨ i = 7 := by omega
  rcases this with rfl | rfl | rfl | rfl | rfl | rfl | rfl | rfl <;> simp [Instr.index, run_underlying Tryz.underlying115, asIntOf, go_sem]
theorem eight_ptrs (w : World) (b : Nat) (T : TypeId) : ∀ i, i < 8 → (w.alloc (.cells #[.pointer (some ⟨b, 2, none⟩), .pointer (some ⟨b, 3, none⟩), .pointer (some ⟨b, 4, none⟩), .pointer (some ⟨b, 5, none⟩), .pointer (some ⟨b, 6, none⟩), .pointer (some ⟨b, 7, none⟩), .pointer (some ⟨b, 8, none⟩), .pointer (some ⟨b, 9, none⟩)] T)).drew.cell? ⟨w.heap.size, i, none⟩ = some (.pointer (some ⟨b, 2 + i, none⟩)) := fun i hi => by
  have : i = 0 ∨ i = 1 ∨ i = 2 ∨ i = 3 ∨ i = 4 ∨ i = 5 ∨ i = 6 ∨ i = 7 := by omega
  rcases this with rfl | rfl | rfl | rfl | rfl | rfl | rfl | rfl <;> simp
set_option maxRecDepth 100000 in
set_option maxHeartbeats 1000000 in
theorem numbers_any (b : Nat) (w : World) :
    Calls Tryz.prog 61 #[.pointer (some ⟨b, 0, none⟩)] w fun e w' => e = .returned (ptrs b) ∧ Below w.heap.size w w' := by
  have HE := hide (eight_ptrs w b 115)
  go_enter Tryz.func61, Tryz.ntmps61
  go_wp2_with fail
  go_region_held_law (fun _ : World => True) (trivial) (fail)
  go_wp2_with fail
  refine bodyPost_ret (results_ptrs rfl rfl (unhide HE)) rfl ?_
  exact ⟨rfl, ((Below.refl _ _).alloc (Nat.le_refl _) _).drew⟩
end Go.Proofs.YtohjipnkoiifhagGreatDoor

namespace Go.Proofs.YtohjipnkoiifhagGreatDoor
open Go.RowKit

/-- the table of words and bounds, as it lies -/
def BndIs (w : World) : Prop := 0 < w.heap.size ∧ ∀ i, i < 8 → w.cell? ⟨0, i * 2, none⟩ = some (.string (wd i)) ∧ w.cell? ⟨0, i * 2 + 1, none⟩ = some (.int .i64 (Dk.nth Pn.most8 i))
theorem BndIs.next {w w' : World} (h : BndIs w) (hb : Below w.heap.size w w') : BndIs w' := ⟨Nat.lt_of_lt_of_le h.1 hb.size, fun i hi => ⟨by rw [hb.cell (p := ⟨0, i * 2, none⟩) h.1]; exact (h.2 i hi).1, by rw [hb.cell (p := ⟨0, i * 2 + 1, none⟩) h.1]; exact (h.2 i hi).2⟩⟩
/-- a plan that is checked: its block, its filters, the table -/
def Cst (w wr : World) (b : Nat) (n : ByteArray) (a : Option Addr) (l : List ByteArray) (c : Nat) (x0 x1 x2 x3 x4 x5 x6 x7 : Int) : Prop := Pst w wr b n a l c x0 x1 x2 x3 x4 x5 x6 x7 ∧ BndIs wr
theorem Cst.next {w wr w' : World} {b : Nat} {n : ByteArray} {a : Option Addr} {l : List ByteArray} {c : Nat} {x0 x1 x2 x3 x4 x5 x6 x7 : Int} (h : Cst w wr b n a l c x0 x1 x2 x3 x4 x5 x6 x7) (hb : Below wr.heap.size wr w') : Cst w w' b n a l c x0 x1 x2 x3 x4 x5 x6 x7 := ⟨h.1.next hb, h.2.next hb⟩
/-- the i-th number of a plan's block -/
theorem PB.num {w : World} {b : Nat} {n : ByteArray} {a : Option Addr} {l c : Nat} {x0 x1 x2 x3 x4 x5 x6 x7 : Int} (r : PB w b n a l c x0 x1 x2 x3 x4 x5 x6 x7) : ∀ i, i < 8 → w.cell? ⟨b, 2 + i, none⟩ = some (.int .i64 (Dk.nth [x0, x1, x2, x3, x4, x5, x6, x7] i)) := fun i hi => by
  have : i = 0 ∨ i = 1 ∨ i = 2 ∨ i = 3 ∨ i = 4 ∨ i = 5 ∨ i = 6 ∨ i = 7 := by omega
  rcases this with rfl | rfl | rfl | rfl | rfl | rfl | rfl | rfl
  · exact r.c2
  · exact r.c3
  · exact r.c4
  · exact r.c5
  · exact r.c6
  · exact r.c7
  · exact r.c8
  · exact r.c9
abbrev Nb (b i : Nat) (x y : Int) (w : World) : Prop := w.cell? ⟨b, 2 + i, none⟩ = some (.int .i64 x) ∧ w.cell? ⟨0, i * 2 + 1, none⟩ = some (.int .i64 y)
theorem Cst.nb {w wr : World} {b : Nat} {n : ByteArray} {a : Option Addr} {l : List ByteArray} {c : Nat} {x0 x1 x2 x3 x4 x5 x6 x7 : Int} (h : Cst w wr b n a l c x0 x1 x2 x3 x4 x5 x6 x7) {i : Nat} (hi : i < 8) : Nb b i (Dk.nth [x0, x1, x2, x3, x4, x5, x6, x7] i) (Dk.nth Pn.most8 i) wr := ⟨h.1.1.num i hi, (h.2.2 i hi).2⟩

set_option maxRecDepth 100000 in
set_option maxHeartbeats 4000000 in
theorem plcheck_any (n : ByteArray) (a : Option Addr) (l : List ByteArray) (c : Nat) (x0 x1 x2 x3 x4 x5 x6 x7 : Int) (w : World) (hn : n.size ≤ 140737488355328) (hsl : SlS w a l) (hz : ∀ k, k < l.length → (tk l k).size ≤ 140737488355328) (hl : l.length ≤ 140737488355328) (hc : l.length ≤ c) (hG : BndIs w) :
    Calls Tryz.prog 32 #[planV n a l.length c x0 x1 x2 x3 x4 x5 x6 x7] w fun e w' => e = .returned (.int .i64 (Pn.planE ⟨n, l, [x0, x1, x2, x3, x4, x5, x6, x7]⟩)) ∧ Below w.heap.size w w' := by
  have b0 : Below w.heap.size w (w.alloc (.cells #[.string n, .slice a l.length c, .int .i64 x0, .int .i64 x1, .int .i64 x2, .int .i64 x3, .int .i64 x4, .int .i64 x5, .int .i64 x6, .int .i64 x7] 43)) := (Below.refl _ _).alloc (Nat.le_refl _) _
  have Q0 : Hid (Cst w (w.alloc (.cells #[.string n, .slice a l.length c, .int .i64 x0, .int .i64 x1, .int .i64 x2, .int .i64 x3, .int .i64 x4, .int .i64 x5, .int .i64 x6, .int .i64 x7] 43)) w.heap.size n a l c x0 x1 x2 x3 x4 x5 x6 x7) := hide ⟨⟨PB.new w n a l.length c x0 x1 x2 x3 x4 x5 x6 x7 _, hsl.next b0, b0⟩, hG.next b0⟩
  have HF := hide (fun (W : World) (h : SlS W a l) => filters_any a l c W h hz hl hc)
  have PN := hide (fun (W : World) => isName_any n W hn)
  obtain ⟨NB, hNB⟩ : ∃ NB, Pn.namedB n = NB := ⟨_, rfl⟩
  rw [hNB] at PN
  obtain ⟨FE, hFE⟩ : ∃ FE, Pn.filtersE l = FE := ⟨_, rfl⟩
  rw [hFE] at HF
  obtain ⟨R, hR⟩ : ∃ R, Pn.planE ⟨n, l, [x0, x1, x2, x3, x4, x5, x6, x7]⟩ = R := ⟨_, rfl⟩
  have HR0 : Hid (NB = false → R = 3) := hide (fun h => by rw [← hR, Pn.planE_name (by rw [show Pn.namedB _ = NB from hNB]; exact h)])
  have HR1 : Hid (NB = true → R = if FE ≠ 0 then FE else if Pn.inAll [x0, x1, x2, x3, x4, x5, x6, x7] Pn.most8 = true then 0 else 1) := hide (fun h => by rw [← hR, ← hFE, Pn.plan_filters (by rw [show Pn.namedB _ = NB from hNB]; exact h)])
  rw [hR]
  clear hNB hFE hR hsl hz hG b0
  obtain ⟨b, hb⟩ : ∃ b, b = w.heap.size := ⟨_, rfl⟩
  obtain ⟨W, hW⟩ : ∃ W, W = w.alloc (.cells #[.string n, .slice a l.length c, .int .i64 x0, .int .i64 x1, .int .i64 x2, .int .i64 x3, .int .i64 x4, .int .i64 x5, .int .i64 x6, .int .i64 x7] 43) := ⟨_, rfl⟩
  rw [← hb, ← hW] at Q0
  go_enter Tryz.func32, Tryz.ntmps32
  go_wp2_with fail
  rw [← hb, ← hW]
  clear hb hW
  refine (unhide PN _).mono ?_
  rintro e w1 ⟨rfl, rfl⟩
  clear PN
  cases NB with
  | false =>
    have HR := hide (unhide HR0 rfl)
    go_wp2_with fail
    go_ret
    rw [unhide HR]
    exact ⟨rfl, (unhide Q0).1.2.2⟩
  | true =>
    have HR2 := hide (unhide HR1 rfl)
    have d1 := (unhide Q0).1.1.c1
    have PF := hide (unhide HF w1 (unhide Q0).1.2.1)
    clear HR0 HR1 HF
    go_wp2_with fail
    refine (unhide PF).mono ?_
    rintro e w2 ⟨rfl, b2⟩
    have Q2 := hide ((unhide Q0).next b2)
    clear PF b2 Q0 d1
    by_cases hF0 : FE = 0
    · subst hF0
      rw [if_neg (show ¬ (0 : Int) ≠ 0 by decide)] at HR2
      have PU := hide (numbers_any b w2)
      go_wp2_with fail
      refine (unhide PU).mono ?_
      rintro e w3 ⟨rfl, b3⟩
      have Q3 := hide ((unhide Q2).next b3)
      clear PU b3 Q2
      obtain ⟨v, hv⟩ : ∃ v, v = [x0, x1, x2, x3, x4, x5, x6, x7] := ⟨_, rfl⟩
      have hv8 : v.length = 8 := by rw [hv]; rfl
      rw [← hv] at HR2
      have HC : Hid (∀ {i : Nat}, i < 8 → ∀ {W : World}, Cst w W b n a l c x0 x1 x2 x3 x4 x5 x6 x7 → Nb b i (Dk.nth v i) (Dk.nth Pn.most8 i) W) := hide (fun hi _ h => by rw [hv]; exact h.nb hi)
      clear hv
      go_wp2_with fail
      go_loopw [17] (fun iv wr => ∃ (i : Nat), iv = .int .i64 i ∧ i ≤ 8 ∧ Hid (Pn.inAll v Pn.most8 = Pn.inAll (v.drop i) (Pn.most8.drop i)) ∧ Hid (Cst w wr b n a l c x0 x1 x2 x3 x4 x5 x6 x7)) (fun iv _ => 8 - (intOf iv).toNat)
      case atStart => exact ⟨0, rfl, Nat.zero_le _, hide rfl, Q3⟩
      case round =>
        clear Q3
        obtain ⟨i, rfl, hi, HA, Q3⟩ := hrel
        by_cases hlt : i < 8
        · have hix := run_index_ptrs b i hlt
          have Q4 := hide (fun (m : Nat) => (unhide Q3).next (below_drewN (Below.refl _ _) m))
          obtain ⟨k1, k2⟩ := unhide HC hlt (unhide Q3)
          have HA2 := hide ((unhide HA).trans (Pn.inAll_drop (v := v) (i := i) (by omega) hv8))
          obtain ⟨x, hx⟩ : ∃ x, Dk.nth v i = x := ⟨_, rfl⟩
          obtain ⟨y, hy⟩ : ∃ y, Dk.nth Pn.most8 i = y := ⟨_, rfl⟩
          rw [hx, hy] at HA2
          rw [hx] at k1
          rw [hy] at k2
          clear hx hy HA
          by_cases h1 : x < 0
          · have gx : decide (x < 0) = true := decide_eq_true h1
            have HR : Hid (R = 1) := hide (by
              have h3 : Pn.inAll v Pn.most8 = false := by rw [unhide HA2, decide_eq_false (show ¬ 0 ≤ x by omega), Bool.false_and, Bool.false_and]
              rw [unhide HR2, h3]
              rfl)
            clear HA2 HR2 h1
            go_wp2_with fail
            go_quiet (fail)
            all_goals go_wp2_with fail
            all_goals go_ret
            all_goals rw [unhide HR]
            all_goals exact ⟨rfl, (unhide Q4 _).1.2.2⟩
          · have gx : decide (x < 0) = false := decide_eq_false h1
            by_cases h2 : y < x
            · have gy : decide (y < x) = true := decide_eq_true h2
              have HR : Hid (R = 1) := hide (by
                have h3 : Pn.inAll v Pn.most8 = false := by rw [unhide HA2, decide_eq_false (show ¬ x ≤ y by omega), Bool.and_false, Bool.false_and]
                rw [unhide HR2, h3]
                rfl)
              clear HA2 HR2 h1 h2
              go_wp2_with fail
              go_quiet (fail)
              all_goals go_wp2_with fail
              all_goals go_ret
              all_goals rw [unhide HR]
              all_goals exact ⟨rfl, (unhide Q4 _).1.2.2⟩
            · have gy : decide (y < x) = false := decide_eq_false h2
              have HA3 : Hid (Pn.inAll v Pn.most8 = Pn.inAll (v.drop (i + 1)) (Pn.most8.drop (i + 1))) := hide (by rw [unhide HA2, decide_eq_true (show 0 ≤ x by omega), decide_eq_true (show x ≤ y by omega), Bool.true_and, Bool.true_and])
              clear HA2 h1 h2
              go_wp2_with fail
              go_quiet (fail)
              all_goals go_wp2_with fail
              all_goals refine ⟨⟨i + 1, by go_num, by omega, HA3, hide (unhide Q4 _)⟩, ?_⟩
              all_goals simp [intOf]; omega
        · obtain rfl : i = 8 := by omega
          have HR : Hid (R = 0) := hide (by
            have h3 : Pn.inAll v Pn.most8 = true := by
              rw [unhide HA, List.drop_of_length_le (by omega)]
              rfl
            rw [unhide HR2, if_pos h3])
          clear HA HR2
          go_wp2_with fail
          go_ret
          rw [unhide HR]
          exact ⟨rfl, (unhide Q3).1.2.2⟩
    · rw [if_pos hF0] at HR2
      have hE' : (FE != 0) = true := by simpa using hF0
      go_wp2_with fail
      go_ret
      rw [unhide HR2]
      exact ⟨rfl, (unhide Q2).1.2.2⟩
end Go.Proofs.YtohjipnkoiifhagGreatDoor

namespace Go.Proofs.YtohjipnkoiifhagGreatDoor.Dk
open Go

def P0 : Pn.Pln := ⟨⟨#[115]⟩, [⟨#[97, 46, 62]⟩], [2, 0, 0, 0, 0, 0, 0, 0]⟩
def x0 : Po := ⟨⟨#[97, 46, 98]⟩, ⟨#[]⟩, ⟨#[]⟩, ⟨#[100]⟩, -1, 0⟩
theorem P0_ok : Pn.planE P0 = 0 := by decide +kernel
def pub1 : Str := (pubP P0 1000 100 5 x0 ⟨[], ⟨[], 0⟩, []⟩).2
def pub2 : Str := (pubP P0 1000 100 5 x0 pub1).2
def pub3 : Str := (pubP P0 1000 100 5 x0 pub2).2
theorem three_sums : (pub3.s.l.length : Int) = 2 ∧ (byteN pub3.s.l : Int) = 8 ∧ firstQ pub3.s.l = 2 ∧ pub3.s.last = 3 := by decide +kernel
/-- how far the last number gets in a few posts -/
theorem pub_last {p : Pn.Pln} {m size now : Int} {x : Po} {st : Str} : st.s.last ≤ (pubP p m size now x st).2.s.last ∧ (pubP p m size now x st).2.s.last ≤ st.s.last + 1 := by
  unfold pubP
  split
  · exact ⟨Int.le_refl _, by show st.s.last ≤ st.s.last + 1; omega⟩
  · split
    · exact ⟨Int.le_refl _, by show st.s.last ≤ st.s.last + 1; omega⟩
    · split
      · exact ⟨Int.le_refl _, by show st.s.last ≤ st.s.last + 1; omega⟩
      · have hl := (roomE_sub (p := p) (m := m) (size := size) (now := now) (x := x) (es := st.es) (s := st.s)).2
        split
        · exact ⟨by show st.s.last ≤ (roomE p m size now x st.es st.s).2.2.last; omega, by show (roomE p m size now x st.es st.s).2.2.last ≤ _; omega⟩
        · generalize (roomE p m size now x st.es st.s).2.1 = es at *
          generalize (roomE p m size now x st.es st.s).2.2 = s at *
          unfold putP
          by_cases e : doE es s m size (msgR (s.last + 1) now x) = 0
          · rw [if_neg (by rw [e]; simp)]
            have h1 : (doS es s m size (msgR (s.last + 1) now x)).last = s.last + 1 := by rw [msg_did e]
            split
            · exact ⟨by show st.s.last ≤ (doS es s m size (msgR (s.last + 1) now x)).last; omega, by show (doS es s m size (msgR (s.last + 1) now x)).last ≤ _; omega⟩
            · split
              · exact ⟨by show st.s.last ≤ (doS es s m size (msgR (s.last + 1) now x)).last; omega, by show (doS es s m size (msgR (s.last + 1) now x)).last ≤ _; omega⟩
              · rename_i g
                have g := Classical.not_not.1 g
                have h2 : (doS (doL es s m size (msgR (s.last + 1) now x)) (doS es s m size (msgR (s.last + 1) now x)) m size (purR (s.last + 1) now (rollF x))).last = s.last + 1 := by rw [pur_did g]; exact h1
                exact ⟨by show st.s.last ≤ (doS (doL es s m size (msgR (s.last + 1) now x)) (doS es s m size (msgR (s.last + 1) now x)) m size (purR (s.last + 1) now (rollF x))).last; omega, by show (doS (doL es s m size (msgR (s.last + 1) now x)) (doS es s m size (msgR (s.last + 1) now x)) m size (purR (s.last + 1) now (rollF x))).last ≤ _; omega⟩
          · rw [if_pos e]
            exact ⟨by show st.s.last ≤ s.last; omega, by show s.last ≤ _; omega⟩
end Go.Proofs.YtohjipnkoiifhagGreatDoor.Dk
