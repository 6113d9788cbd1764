/-
  The words of a plan's numbers, one by one. No program.
  Contract of the landed plan.Check. Its table of words and bounds.
  What the row's listed tables say of the world: the landed plan's words and bounds. No walk.
  The document's disk as a map from numbers to files, and what every call keeps of it. No walk.
-/
import Derived.Test.YtmccpkpeimejhahGreatDoorJointRowPlRowPsPapPcPapPe
import Derived.Test.YtmccpkpeimejhahGreatDoorJointRowZRowPrWalkY3PapPd
import Derived.Test.YtmccpkpeimejhahGreatDoorJointPlainKPapPbPapPnPapD
import Derived.BigQuiet
import Derived.Test.YtmccpkpeimejhahGreatDoorJointBase0RowTmPlainPapPa
namespace Go.Proofs.YtmccpkpeimejhahGreatDoor
open Go

/-- the words of a plan's numbers, as they lie -/
def wd (i : Nat) : ByteArray := Pn.bs ((Pn.words8[i]?).getD [])
namespace Pn
theorem wordsT_take {v : List Int} (h8 : v.length = 8) {i : Nat} (hi : i < 8) : wordsT (words8.take (i + 1)) (v.take (i + 1)) = wordsT (words8.take i) (v.take i) ++ (if Dk.nth v i = 0 then [] else [(wd i).data.toList ++ 61 :: Lib.itoa (Dk.nth v i)]) := by
  have key : ∀ (ws : List (List UInt8)) (v : List Int) (i : Nat), i < ws.length → i < v.length → wordsT (ws.take (i + 1)) (v.take (i + 1)) = wordsT (ws.take i) (v.take i) ++ (if Dk.nth v i = 0 then [] else [(ws[i]?).getD [] ++ 61 :: Lib.itoa (Dk.nth v i)]) := by
    intro ws
    induction ws with
    | nil => intro v i h; simp at h
    | cons w ws ih =>
      intro v i h1 h2
      cases v with
      | nil => simp at h2
      | cons x v =>
        cases i with
        | zero =>
          simp only [List.take_succ_cons, List.take_zero, wordsT, Dk.nth]
          by_cases e : x = 0
          · simp [e]
          · simp [e]
        | succ i =>
          have := ih v i (by simpa using h1) (by simpa using h2)
          simp only [List.take_succ_cons, wordsT]
          have en : Dk.nth (x :: v) (i + 1) = Dk.nth v i := rfl
          rw [en, this]
          by_cases e : x = 0
          · rw [if_pos e, if_pos e]; simp
          · rw [if_neg e, if_neg e]; simp
  have := key words8 v i hi (by omega)
  rw [this]
  unfold wd
  rw [list_bs]
theorem comma_iff (f : ByteArray) : f.data.toList.contains 44 = decide (1 < (cut 44 f.data.toList).length) := by
  rw [cut_length, Bool.eq_iff_iff, decide_eq_true_eq, List.contains_iff_mem, ← List.count_pos_iff]
  omega
theorem nth_at {v : List Int} {i : Nat} (h : i < v.length) : Dk.nth v i ∈ v := by unfold Dk.nth; rw [List.getElem?_eq_getElem h]; exact List.getElem_mem h
end Pn
end Go.Proofs.YtmccpkpeimejhahGreatDoor

namespace Go.Proofs.YtmccpkpeimejhahGreatDoor
open Go.RowKit

/-- the table of words and bounds, as it lies -/
def BndIs (w : World) : Prop := 0 < w.heap.size ∧ ∀ i, i < 8 → w.cell? ⟨0, i * 2, none⟩ = some (.string (wd i)) ∧ w.cell? ⟨0, i * 2 + 1, none⟩ = some (.int .i64 (Dk.nth Pn.most8 i))
theorem BndIs.next {w w' : World} (h : BndIs w) (hb : Below w.heap.size w w') : BndIs w' := ⟨Nat.lt_of_lt_of_le h.1 hb.size, fun i hi => ⟨by rw [hb.cell (p := ⟨0, i * 2, none⟩) h.1]; exact (h.2 i hi).1, by rw [hb.cell (p := ⟨0, i * 2 + 1, none⟩) h.1]; exact (h.2 i hi).2⟩⟩
/-- a plan that is checked: its block, its filters, the table -/
def Cst (w wr : World) (b : Nat) (n : ByteArray) (a : Option Addr) (l : List ByteArray) (c : Nat) (x0 x1 x2 x3 x4 x5 x6 x7 : Int) : Prop := Pst w wr b n a l c x0 x1 x2 x3 x4 x5 x6 x7 ∧ BndIs wr
theorem Cst.next {w wr w' : World} {b : Nat} {n : ByteArray} {a : Option Addr} {l : List ByteArray} {c : Nat} {x0 x1 x2 x3 x4 x5 x6 x7 : Int} (h : Cst w wr b n a l c x0 x1 x2 x3 x4 x5 x6 x7) (hb : Below wr.heap.size wr w') : Cst w w' b n a l c x0 x1 x2 x3 x4 x5 x6 x7 := ⟨h.1.next hb, h.2.next hb⟩
/-- the i-th number of a plan's block -/
theorem PB.num {w : World} {b : Nat} {n : ByteArray} {a : Option Addr} {l c : Nat} {x0 x1 x2 x3 x4 x5 x6 x7 : Int} (r : PB w b n a l c x0 x1 x2 x3 x4 x5 x6 x7) : ∀ i, i < 8 → w.cell? ⟨b, 2 + i, none⟩ = some (.int .i64 (Dk.nth [x0, x1, x2, x3, x4, x5, x6, x7] i)) := fun i hi => by
  have : i = 0 ∨ i = 1 ∨ i = 2 ∨ i = 3 ∨ i = 4 ∨ i = 5 ∨ i = 6 ∨ i = 7 := by omega
  rcases this with rfl | rfl | rfl | rfl | rfl | rfl | rfl | rfl
  · exact r.c2
  · exact r.c3
  · exact r.c4
  · exact r.c5
  · exact r.c6
  · exact r.c7
  · exact r.c8
  · exact r.c9
abbrev Nb (b i : Nat) (x y : Int) (w : World) : Prop := w.cell? ⟨b, 2 + i, none⟩ = some (.int .i64 x) ∧ w.cell? ⟨0, i * 2 + 1, none⟩ = some (.int .i64 y)
theorem Cst.nb {w wr : World} {b : Nat} {n : ByteArray} {a : Option Addr} {l : List ByteArray} {c : Nat} {x0 x1 x2 x3 x4 x5 x6 x7 : Int} (h : Cst w wr b n a l c x0 x1 x2 x3 x4 x5 x6 x7) {i : Nat} (hi : i < 8) : Nb b i (Dk.nth [x0, x1, x2, x3, x4, x5, x6, x7] i) (Dk.nth Pn.most8 i) wr := ⟨h.1.1.num i hi, (h.2.2 i hi).2⟩

set_option maxRecDepth 100000 in
set_option maxHeartbeats 4000000 in
theorem plcheck_any (n : ByteArray) (a : Option Addr) (l : List ByteArray) (c : Nat) (x0 x1 x2 x3 x4 x5 x6 x7 : Int) (w : World) (hn : n.size ≤ 140737488355328) (hsl : SlS w a l) (hz : ∀ k, k < l.length → (tk l k).size ≤ 140737488355328) (hl : l.length ≤ 140737488355328) (hc : l.length ≤ c) (hG : BndIs w) :
    Calls Tryz.prog 16 #[planV n a l.length c x0 x1 x2 x3 x4 x5 x6 x7] w fun e w' => e = .returned (.int .i64 (Pn.planE ⟨n, l, [x0, x1, x2, x3, x4, x5, x6, x7]⟩)) ∧ Below w.heap.size w w' := by
  have b0 : Below w.heap.size w (w.alloc (.cells #[.string n, .slice a l.length c, .int .i64 x0, .int .i64 x1, .int .i64 x2, .int .i64 x3, .int .i64 x4, .int .i64 x5, .int .i64 x6, .int .i64 x7] 24)) := (Below.refl _ _).alloc (Nat.le_refl _) _
  have Q0 : Hid (Cst w (w.alloc (.cells #[.string n, .slice a l.length c, .int .i64 x0, .int .i64 x1, .int .i64 x2, .int .i64 x3, .int .i64 x4, .int .i64 x5, .int .i64 x6, .int .i64 x7] 24)) w.heap.size n a l c x0 x1 x2 x3 x4 x5 x6 x7) := hide ⟨⟨PB.new w n a l.length c x0 x1 x2 x3 x4 x5 x6 x7 _, hsl.next b0, b0⟩, hG.next b0⟩
  have HF := hide (fun (W : World) (h : SlS W a l) => filters_any a l c W h hz hl hc)
  have PN := hide (fun (W : World) => isName_any n W hn)
  obtain ⟨NB, hNB⟩ : ∃ NB, Pn.namedB n = NB := ⟨_, rfl⟩
  rw [hNB] at PN
  obtain ⟨FE, hFE⟩ : ∃ FE, Pn.filtersE l = FE := ⟨_, rfl⟩
  rw [hFE] at HF
  obtain ⟨R, hR⟩ : ∃ R, Pn.planE ⟨n, l, [x0, x1, x2, x3, x4, x5, x6, x7]⟩ = R := ⟨_, rfl⟩
  have HR0 : Hid (NB = false → R = 3) := hide (fun h => by rw [← hR, Pn.planE_name (by rw [show Pn.namedB _ = NB from hNB]; exact h)])
  have HR1 : Hid (NB = true → R = if FE ≠ 0 then FE else if Pn.inAll [x0, x1, x2, x3, x4, x5, x6, x7] Pn.most8 = true then 0 else 1) := hide (fun h => by rw [← hR, ← hFE, Pn.plan_filters (by rw [show Pn.namedB _ = NB from hNB]; exact h)])
  rw [hR]
  clear hNB hFE hR hsl hz hG b0
  obtain ⟨b, hb⟩ : ∃ b, b = w.heap.size := ⟨_, rfl⟩
  obtain ⟨W, hW⟩ : ∃ W, W = w.alloc (.cells #[.string n, .slice a l.length c, .int .i64 x0, .int .i64 x1, .int .i64 x2, .int .i64 x3, .int .i64 x4, .int .i64 x5, .int .i64 x6, .int .i64 x7] 24) := ⟨_, rfl⟩
  rw [← hb, ← hW] at Q0
  go_enter Tryz.func16, Tryz.ntmps16
  go_wp2_with fail
  rw [← hb, ← hW]
  clear hb hW
  refine (unhide PN _).mono ?_
  rintro e w1 ⟨rfl, rfl⟩
  clear PN
  cases NB with
  | false =>
    have HR := hide (unhide HR0 rfl)
    go_wp2_with fail
    go_ret
    rw [unhide HR]
    exact ⟨rfl, (unhide Q0).1.2.2⟩
  | true =>
    have HR2 := hide (unhide HR1 rfl)
    have d1 := (unhide Q0).1.1.c1
    have PF := hide (unhide HF w1 (unhide Q0).1.2.1)
    clear HR0 HR1 HF
    go_wp2_with fail
    refine (unhide PF).mono ?_
    rintro e w2 ⟨rfl, b2⟩
    have Q2 := hide ((unhide Q0).next b2)
    clear PF b2 Q0 d1
    by_cases hF0 : FE = 0
    · subst hF0
      rw [if_neg (show ¬ (0 : Int) ≠ 0 by decide)] at HR2
      have PU := hide (numbers_any b w2)
      go_wp2_with fail
      refine (unhide PU).mono ?_
      rintro e w3 ⟨rfl, b3⟩
      have Q3 := hide ((unhide Q2).next b3)
      clear PU b3 Q2
      obtain ⟨v, hv⟩ : ∃ v, v = [x0, x1, x2, x3, x4, x5, x6, x7] := ⟨_, rfl⟩
      have hv8 : v.length = 8 := by rw [hv]; rfl
      rw [← hv] at HR2
      have HC : Hid (∀ {i : Nat}, i < 8 → ∀ {W : World}, Cst w W b n a l c x0 x1 x2 x3 x4 x5 x6 x7 → Nb b i (Dk.nth v i) (Dk.nth Pn.most8 i) W) := hide (fun hi _ h => by rw [hv]; exact h.nb hi)
      clear hv
      go_wp2_with fail
      go_loopw [17] (fun iv wr => ∃ (i : Nat), iv = .int .i64 i ∧ i ≤ 8 ∧ Hid (Pn.inAll v Pn.most8 = Pn.inAll (v.drop i) (Pn.most8.drop i)) ∧ Hid (Cst w wr b n a l c x0 x1 x2 x3 x4 x5 x6 x7)) (fun iv _ => 8 - (intOf iv).toNat)
      case atStart => exact ⟨0, rfl, Nat.zero_le _, hide rfl, Q3⟩
      case round =>
        clear Q3
        obtain ⟨i, rfl, hi, HA, Q3⟩ := hrel
        by_cases hlt : i < 8
        · have hix := run_index_ptrs b i hlt
          have Q4 := hide (fun (m : Nat) => (unhide Q3).next (below_drewN (Below.refl _ _) m))
          obtain ⟨k1, k2⟩ := unhide HC hlt (unhide Q3)
          have HA2 := hide ((unhide HA).trans (Pn.inAll_drop (v := v) (i := i) (by omega) hv8))
          obtain ⟨x, hx⟩ : ∃ x, Dk.nth v i = x := ⟨_, rfl⟩
          obtain ⟨y, hy⟩ : ∃ y, Dk.nth Pn.most8 i = y := ⟨_, rfl⟩
          rw [hx, hy] at HA2
          rw [hx] at k1
          rw [hy] at k2
          clear hx hy HA
          by_cases h1 : x < 0
          · have gx : decide (x < 0) = true := decide_eq_true h1
            have HR : Hid (R = 1) := hide (by
              have h3 : Pn.inAll v Pn.most8 = false := by rw [unhide HA2, decide_eq_false (show ¬ 0 ≤ x by omega), Bool.false_and, Bool.false_and]
              rw [unhide HR2, h3]
              rfl)
            clear HA2 HR2 h1
            go_wp2_with fail
            go_quiet (fail)
            all_goals go_wp2_with fail
            all_goals go_ret
            all_goals rw [unhide HR]
            all_goals exact ⟨rfl, (unhide Q4 _).1.2.2⟩
          · have gx : decide (x < 0) = false := decide_eq_false h1
            by_cases h2 : y < x
            · have gy : decide (y < x) = true := decide_eq_true h2
              have HR : Hid (R = 1) := hide (by
                have h3 : Pn.inAll v Pn.most8 = false := by rw [unhide HA2, decide_eq_false (show ¬ x ≤ y by omega), Bool.and_false, Bool.false_and]
                rw [unhide HR2, h3]
                rfl)
              clear HA2 HR2 h1 h2
              go_wp2_with fail
              go_quiet (fail)
              all_goals go_wp2_with fail
              all_goals go_ret
              all_goals rw [unhide HR]
              all_goals exact ⟨rfl, (unhide Q4 _).1.2.2⟩
            · have gy : decide (y < x) = false := decide_eq_false h2
              have HA3 : Hid (Pn.inAll v Pn.most8 = Pn.inAll (v.drop (i + 1)) (Pn.most8.drop (i + 1))) := hide (by rw [unhide HA2, decide_eq_true (show 0 ≤ x by omega), decide_eq_true (show x ≤ y by omega), Bool.true_and, Bool.true_and])
              clear HA2 h1 h2
              go_wp2_with fail
              go_quiet (fail)
              all_goals go_wp2_with fail
              all_goals refine ⟨⟨i + 1, by go_num, by omega, HA3, hide (unhide Q4 _)⟩, ?_⟩
              all_goals simp [intOf]; omega
        · obtain rfl : i = 8 := by omega
          have HR : Hid (R = 0) := hide (by
            have h3 : Pn.inAll v Pn.most8 = true := by
              rw [unhide HA, List.drop_of_length_le (by omega)]
              rfl
            rw [unhide HR2, if_pos h3])
          clear HA HR2
          go_wp2_with fail
          go_ret
          rw [unhide HR]
          exact ⟨rfl, (unhide Q3).1.2.2⟩
    · rw [if_pos hF0] at HR2
      have hE' : (FE != 0) = true := by simpa using hF0
      go_wp2_with fail
      go_ret
      rw [unhide HR2]
      exact ⟨rfl, (unhide Q2).1.2.2⟩
end Go.Proofs.YtmccpkpeimejhahGreatDoor

namespace Go.Proofs.YtmccpkpeimejhahGreatDoor
open Go.RowKit

/-- an array of pairs of a text and a number that reads as the list holds just these -/
theorem cells_of_pairs {H : Type} {enc : TypeId × Value → H} {P : Program} {w : World} {base : Nat} {sp : Nat → Bool} {held : Bool} {fuel : Nat} {t e : TypeId} {f0 f1 : Field} {n : Nat} {cs : List Value} {zs : List (List UInt8 × Int)} {p : List MemPlace}
    (ht : P.underlying t = some (.array n e)) (he : P.underlying e = some (.struct #[f0, f1])) (hs : P.underlying f0.type = some .string) (hi : P.underlying f1.type = some (.int .i64)) (ho0 : f0.offset = 0) (ho1 : f1.offset = 1) (hc0 : P.cellsOf f0.type = 1) (hc1 : P.cellsOf f1.type = 1) (hce : P.cellsOf e = 2) (hct : P.cellsOf t = n * 2)
    (h : DataW.trod enc P w base sp held fuel t cs = some (.agg (zs.map fun z => .agg [.lit (.string z.1), .lit (.int .i64 z.2)]), p)) : zs.length = n ∧ ∀ i z, zs[i]? = some z → cs[i * 2]? = some (.string (Pn.bs z.1)) ∧ cs[i * 2 + 1]? = some (.int .i64 z.2) := by
  cases fuel with
  | zero => simp [DataW.trod] at h
  | succ fuel =>
    simp only [DataW.trod, ht, hce, hct] at h
    split at h
    · rename_i hl
      obtain ⟨xs, hm, hx⟩ := Option.map_eq_some_iff.1 h
      have hxs : xs.map (·.1) = zs.map fun z => (DataW.agg [.lit (.string z.1), .lit (.int .i64 z.2)] : DataW H) := by
        have := congrArg Prod.fst hx
        simpa using this
      have hxl : xs.length = n := by simpa using Lib.mapM_length hm
      have hzl : zs.length = n := by
        have := congrArg List.length hxs
        simp at this
        omega
      refine ⟨hzl, fun i z hz => ?_⟩
      have hin : i < n := by
        rcases Nat.lt_or_ge i n with q | q
        · exact q
        · rw [List.getElem?_eq_none (by omega)] at hz; cases hz
      obtain ⟨b, hb, hf⟩ := Lib.mapM_at hm i i (by simp [hin])
      have h2 : (xs.map (·.1))[i]? = some b.1 := by simp [hb]
      rw [hxs] at h2
      simp only [List.getElem?_map, hz, Option.map_some, Option.some.injEq] at h2
      obtain ⟨ys, m, _, rfl, hl2, hlen, hg⟩ := DataW.trod_struct he hf
      match ys, hlen with
      | [y0, y1], _ =>
        have g0 := hg 0 f0 rfl
        have g1 := hg 1 f1 rfl
        simp only [List.getElem?_cons_zero, List.getElem?_cons_succ] at g0 g1
        obtain ⟨u0, cc0, q0, _⟩ := DataW.trod_string hs g0
        obtain ⟨u1, cc1, q1, _⟩ := DataW.trod_int hi g1
        rw [ho0, hc0] at cc0
        rw [ho1, hc1] at cc1
        have d0 : cs[i * 2]? = some (.string u0) := by
          have := congrArg (·[0]?) cc0
          simpa [List.getElem?_take, List.getElem?_drop] using this
        have d1 : cs[i * 2 + 1]? = some (.int .i64 u1) := by
          have := congrArg (·[0]?) cc1
          simpa [List.getElem?_take, List.getElem?_drop] using this
        simp only [List.map_cons, List.map_nil, DataW.agg.injEq, List.cons.injEq, and_true] at h2
        rw [q0, q1] at h2
        simp only [DataW.lit.injEq, Lit.string.injEq, Lit.int.injEq] at h2
        exact ⟨by rw [d0, h2.1, Pn.bs_list], by rw [d1, h2.2.2]⟩
    · cases h
theorem bounds_laid : (Rows.laid_rillbook_plan_bounds : DataW Unit) = .agg ((Pn.words8.zip Pn.most8).map fun z => .agg [.lit (.string z.1), .lit (.int .i64 z.2)]) := rfl
theorem bnd_of {W : World} {l : List (String × DataW Unit)} (h : laidMet Tryz.prog l W) (hm : ("rillbook/plan.bounds", Rows.laid_rillbook_plan_bounds) ∈ l) : BndIs W := by
  obtain ⟨ps, hl, _⟩ := h
  obtain ⟨g, t, cs, fuel, p, h1, h2, h3, h4⟩ := laid_mem hl _ hm
  have hg : Tryz.prog.globalNamed "rillbook/plan.bounds" = some 0 := by kernel_rfl
  obtain rfl : g = 0 := Option.some.inj (h1.symm.trans hg)
  obtain rfl : t = 83 := Option.some.inj (h2.symm.trans (show (Tryz.prog.globals[0]?).map (·.type) = some 83 by kernel_rfl))
  have h5 : DataW.trod (fun _ => ()) Tryz.prog W 0 (fun _ => true) false fuel 83 cs.toList = some (.agg ((Pn.words8.zip Pn.most8).map fun z => .agg [.lit (.string z.1), .lit (.int .i64 z.2)]), p) := h4
  obtain ⟨hlen, hcs⟩ := cells_of_pairs Tryz.underlying83 Tryz.underlying82 Tryz.underlying9 Tryz.underlying3 rfl rfl (by kernel_rfl) (by kernel_rfl) (by kernel_rfl) (by kernel_rfl) h5
  have hz : ∀ i, i < 8 → (Pn.words8.zip Pn.most8)[i]? = some ((Pn.words8[i]?).getD [], Dk.nth Pn.most8 i) := fun i hi => by
    have : i = 0 ∨ i = 1 ∨ i = 2 ∨ i = 3 ∨ i = 4 ∨ i = 5 ∨ i = 6 ∨ i = 7 := by omega
    rcases this with rfl | rfl | rfl | rfl | rfl | rfl | rfl | rfl <;> rfl
  have hcell : ∀ i, i < 8 → W.cell? ⟨0, i * 2, none⟩ = some (.string (wd i)) ∧ W.cell? ⟨0, i * 2 + 1, none⟩ = some (.int .i64 (Dk.nth Pn.most8 i)) := fun i hi => by
    obtain ⟨k1, k2⟩ := hcs i _ (hz i hi)
    have e1 := World.var?_cell hg h3 (i * 2)
    have e2 := World.var?_cell hg h3 (i * 2 + 1)
    rw [e1, e2, ← Array.getElem?_toList, ← Array.getElem?_toList, k1, k2]
    exact ⟨rfl, rfl⟩
  exact ⟨World.block_lt_of_cell? _ _ (hcell 0 (by omega)).1, hcell⟩
end Go.Proofs.YtmccpkpeimejhahGreatDoor

namespace Go.Proofs.YtmccpkpeimejhahGreatDoor.Dk
open Go.RowKit

/-- the file of a number -/
def fnd (es : List Pap) (n : Int) : Option Pap := es.find? (fun p => p.n == n)
theorem fnd_nil (n : Int) : fnd [] n = none := rfl
theorem fnd_cons (e : Pap) (r : List Pap) (n : Int) : fnd (e :: r) n = if e.n = n then some e else fnd r n := by
  unfold fnd
  rw [List.find?_cons]
  by_cases h : e.n = n
  · rw [if_pos h, beq_iff_eq.2 h]
  · rw [if_neg h, beq_eq_false_iff_ne.2 h]
theorem fnd_append (a b : List Pap) (n : Int) : fnd (a ++ b) n = (fnd a n).or (fnd b n) := List.find?_append
theorem fnd_none {l : List Pap} {n : Int} (h : ∀ e ∈ l, e.n ≠ n) : fnd l n = none := by
  unfold fnd
  rw [List.find?_eq_none]
  intro e he
  rw [beq_iff_eq]
  exact h e he
theorem fnd_mid {A B : List Pap} {x : Pap} (hA : ∀ e ∈ A, e.n ≠ x.n) (k : Int) : fnd (A ++ x :: B) k = if k = x.n then some x else fnd (A ++ B) k := by
  rw [fnd_append, fnd_append, fnd_cons]
  by_cases h : k = x.n
  · rw [if_pos h, if_pos h.symm, h, fnd_none hA]; rfl
  · rw [if_neg h, if_neg (fun q => h q.symm)]
theorem ix_cons (e : Pap) (r : List Pap) (n : Int) : ix (e :: r) n = if e.n = n then 0 else ix r n + 1 := by
  unfold ix
  rw [List.findIdx_cons]
  by_cases h : e.n = n
  · rw [if_pos h, beq_iff_eq.2 h]; rfl
  · rw [if_neg h, beq_eq_false_iff_ne.2 h]; rfl
theorem fnd_ix : ∀ (es : List Pap) (n : Int), fnd es n = if ix es n < es.length then some (pa es (ix es n)) else none
  | [], n => rfl
  | e :: r, n => by
    rw [fnd_cons, ix_cons]
    by_cases h : e.n = n
    · rw [if_pos h, if_pos h, if_pos (by simp)]; rfl
    · rw [if_neg h, if_neg h, fnd_ix r n, pa_succ]
      simp
theorem fnd_some {es : List Pap} {n : Int} (h : ix es n < es.length) : fnd es n = some (pa es (ix es n)) := by rw [fnd_ix, if_pos h]
theorem fnd_not {es : List Pap} {n : Int} (h : ¬ ix es n < es.length) : fnd es n = none := by rw [fnd_ix, if_neg h]
theorem fnd_is {es : List Pap} {n : Int} : ix es n < es.length ↔ (fnd es n).isSome = true := by
  rw [fnd_ix]
  by_cases h : ix es n < es.length
  · rw [if_pos h]; simp [h]
  · rw [if_neg h]; simp [h]
theorem fnd_mem {es : List Pap} {n : Int} {e : Pap} (h : fnd es n = some e) : e ∈ es ∧ e.n = n := ⟨List.mem_of_find?_eq_some h, by have := List.find?_some h; simpa using this⟩
theorem not_there {es : List Pap} {n : Int} (h : ¬ ix es n < es.length) : ∀ e ∈ es, e.n ≠ n := by
  have q := fnd_not h
  unfold fnd at q
  rw [List.find?_eq_none] at q
  intro e he
  have := q e he
  simpa using this
/-- the numbers rise -/
def Rise (es : List Pap) : Prop := es.Pairwise (fun a b => a.n < b.n)
theorem rise_num (es : List Pap) : Rise es ↔ (numL es).Pairwise (· < ·) := by unfold Rise numL; rw [List.pairwise_map]
theorem split_pa {es : List Pap} {i : Nat} (h : i < es.length) : es = es.take i ++ pa es i :: es.drop (i + 1) := by
  rw [pa_get h, ← List.drop_eq_getElem_cons h, List.take_append_drop]
theorem set_split {es : List Pap} {i : Nat} (h : i < es.length) (x : Pap) : es.set i x = es.take i ++ x :: es.drop (i + 1) := by
  rw [List.set_eq_take_append_cons_drop, if_pos h]
theorem rise_ahead {A B : List Pap} {y : Pap} (h : Rise (A ++ y :: B)) : ∀ e ∈ A, e.n ≠ y.n := by
  intro e he
  have := (List.pairwise_append.1 h).2.2 e he y (by simp)
  omega
theorem rise_behind {A B : List Pap} {y : Pap} (h : Rise (A ++ y :: B)) : ∀ e ∈ B, e.n ≠ y.n := by
  intro e he
  have := List.rel_of_pairwise_cons (List.pairwise_append.1 h).2.1 he
  omega
theorem numL_set {es : List Pap} {i : Nat} (h : i < es.length) {x : Pap} (hx : x.n = (pa es i).n) : numL (es.set i x) = numL es := by
  rw [set_split h]
  conv => rhs; rw [split_pa h]
  simp [numL, hx]
theorem used_cons (e : Pap) (r : List Pap) : used (e :: r) = used r + e.text.size := by simp [used]; omega
theorem used_set {es : List Pap} {i : Nat} (h : i < es.length) (x : Pap) : used (es.set i x) + (pa es i).text.size = used es + x.text.size := by
  rw [set_split h]
  conv => rhs; rw [split_pa h]
  rw [used_append, used_append, used_cons, used_cons]
  omega
theorem fnd_set {es : List Pap} {i : Nat} (hr : Rise es) (h : i < es.length) {x : Pap} (hx : x.n = (pa es i).n) (k : Int) : fnd (es.set i x) k = if k = x.n then some x else fnd es k := by
  have e := split_pa h
  have hA : ∀ e ∈ es.take i, e.n ≠ (pa es i).n := rise_ahead (by rw [← e]; exact hr)
  rw [set_split h, fnd_mid (fun e he => by rw [hx]; exact hA e he)]
  by_cases hk : k = x.n
  · rw [if_pos hk, if_pos hk]
  · rw [if_neg hk, if_neg hk]
    conv => rhs; rw [e]
    rw [fnd_mid hA, if_neg (by rw [← hx]; exact hk)]
theorem mem_take_pa {es : List Pap} {q : Nat} {e : Pap} (h : e ∈ es.take q) : ∃ j, j < q ∧ j < es.length ∧ e = pa es j := by
  obtain ⟨j, hj, rfl⟩ := List.getElem_of_mem h
  rw [List.length_take] at hj
  refine ⟨j, by omega, by omega, ?_⟩
  rw [List.getElem_take, pa_get (by omega)]
theorem mem_drop_pa {es : List Pap} {q : Nat} {e : Pap} (h : e ∈ es.drop q) : ∃ j, q ≤ j ∧ j < es.length ∧ e = pa es j := by
  obtain ⟨j, hj, rfl⟩ := List.getElem_of_mem h
  rw [List.length_drop] at hj
  refine ⟨q + j, by omega, by omega, ?_⟩
  rw [List.getElem_drop, pa_get (by omega)]
theorem rise_pa {es : List Pap} (h : Rise es) {i j : Nat} (hij : i < j) (hj : j < es.length) : (pa es i).n < (pa es j).n := by
  rw [pa_get (by omega), pa_get hj]
  exact List.pairwise_iff_getElem.1 h i j (by omega) hj hij
theorem rise_ins {es : List Pap} (h : Rise es) {x : Pap} (hn : ∀ e ∈ es, e.n ≠ x.n) : Rise (insL es (low es x.n) x) := by
  unfold insL Rise
  have hA : ∀ e ∈ es.take (low es x.n), e.n < x.n := fun e he => by
    obtain ⟨j, h1, h2, rfl⟩ := mem_take_pa he
    exact low_lt h1
  have hB : ∀ e ∈ es.drop (low es x.n), x.n < e.n := fun e he => by
    obtain ⟨j, h1, h2, rfl⟩ := mem_drop_pa he
    have q1 := low_at (es := es) (n := x.n) (by omega)
    have q2 := hn _ (pa_mem (l := es) (k := low es x.n) (by omega))
    rcases Nat.eq_or_lt_of_le h1 with z | z
    · rw [← z]; omega
    · have := rise_pa h z h2; omega
  have hp : (es.take (low es x.n) ++ es.drop (low es x.n)).Pairwise (fun a b => a.n < b.n) := by rw [List.take_append_drop]; exact h
  rw [List.pairwise_append] at hp ⊢
  refine ⟨hp.1, List.pairwise_cons.2 ⟨hB, hp.2.1⟩, fun a ha b hb => ?_⟩
  rcases List.mem_cons.1 hb with rfl | hb
  · exact hA a ha
  · exact hp.2.2 a ha b hb
theorem fnd_ins {es : List Pap} (q : Nat) {x : Pap} (hn : ∀ e ∈ es, e.n ≠ x.n) (k : Int) : fnd (insL es q x) k = if k = x.n then some x else fnd es k := by
  unfold insL
  rw [fnd_mid (fun e he => hn e (List.mem_of_mem_take he)), List.take_append_drop]
theorem used_ins {es : List Pap} (q : Nat) (x : Pap) : used (insL es q x) = used es + x.text.size := by
  unfold insL
  conv => rhs; rw [← List.take_append_drop q es]
  rw [used_append, used_append, used_cons]
  omega
theorem mem_ins {es : List Pap} {q : Nat} {x e : Pap} (h : e ∈ insL es q x) : e = x ∨ e ∈ es := by
  unfold insL at h
  rw [List.mem_append, List.mem_cons] at h
  rcases h with h | h | h
  · exact .inr (List.mem_of_mem_take h)
  · exact .inl h
  · exact .inr (List.mem_of_mem_drop h)
theorem fnd_del {es : List Pap} {i : Nat} (hr : Rise es) (h : i < es.length) (k : Int) : fnd (es.take i ++ es.drop (i + 1)) k = if k = (pa es i).n then none else fnd es k := by
  have e := split_pa h
  have hr' : Rise (es.take i ++ pa es i :: es.drop (i + 1)) := by rw [← e]; exact hr
  by_cases hk : k = (pa es i).n
  · rw [if_pos hk]
    refine fnd_none (fun e he => ?_)
    rw [hk]
    rcases List.mem_append.1 he with q | q
    · exact rise_ahead hr' e q
    · exact rise_behind hr' e q
  · rw [if_neg hk]
    conv => rhs; rw [e]
    rw [fnd_mid (rise_ahead hr'), if_neg hk]
theorem used_del {es : List Pap} {i : Nat} (h : i < es.length) : used (es.take i ++ es.drop (i + 1)) + (pa es i).text.size = used es := by
  conv => rhs; rw [split_pa h]
  rw [used_append, used_append, used_cons]
  omega
theorem sub_del (es : List Pap) (i : Nat) : (es.take i ++ es.drop (i + 1)).Sublist es := by
  conv => rhs; rw [← List.take_append_drop i es]
  refine List.Sublist.append (List.Sublist.refl _) ?_
  rw [← List.drop_drop]
  exact List.drop_sublist 1 _
theorem fnd_map (es : List Pap) (f : Pap → Pap) (hf : ∀ e, (f e).n = e.n) (k : Int) : fnd (es.map f) k = (fnd es k).map f := by
  induction es with
  | nil => rfl
  | cons e r ih =>
    rw [List.map_cons, fnd_cons, fnd_cons, hf, ih]
    by_cases h : e.n = k
    · rw [if_pos h, if_pos h]; rfl
    · rw [if_neg h, if_neg h]
end Go.Proofs.YtmccpkpeimejhahGreatDoor.Dk
