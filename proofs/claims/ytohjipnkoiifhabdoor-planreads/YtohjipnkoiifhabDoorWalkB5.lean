/-
  Contract of rillref.PlanText.
-/
import Derived.Test.YtohjipnkoiifhabDoorWalkB5a
import Derived.Test.YtohjipnkoiifhabDoorJointPapPwPapPr
import Derived.Test.YtohjipnkoiifhabDoorWalkB4
import Derived.Test.YtohjipnkoiifhabDoorWalk3b
import Derived.Deep.RegionHeldLaw
namespace Go.Proofs.YtohjipnkoiifhabDoor
open Go.RowKit

def WrdIs (w : World) : Prop := 1 < w.heap.size ∧ ∀ i, i < 8 → w.cell? ⟨1, i, none⟩ = some (.string (wd i))
theorem WrdIs.next {w w' : World} (h : WrdIs w) (hb : Below w.heap.size w w') : WrdIs w' := ⟨Nat.lt_of_lt_of_le h.1 hb.size, fun i hi => by rw [hb.cell (p := ⟨1, i, none⟩) h.1]; exact h.2 i hi⟩
/-- a plan's name and its filters -/
abbrev Nf2 (b : Nat) (n : ByteArray) (a : Option Addr) (l c : Nat) (w : World) : Prop := w.cell? ⟨b, 0, none⟩ = some (.string n) ∧ w.cell? ⟨b, 1, none⟩ = some (.slice a l c)
/-- a number and its word -/
abbrev Wv2 (g i : Nat) (x : Int) (t : ByteArray) (w : World) : Prop := w.cell? ⟨g, i, none⟩ = some (.int .i64 x) ∧ w.cell? ⟨1, i, none⟩ = some (.string t)
/-- a plan that is printed: what is looked at -/
def Txt (w wr : World) (b : Nat) (n : ByteArray) (a : Option Addr) (l : List ByteArray) (c : Nat) (x0 x1 x2 x3 x4 x5 x6 x7 : Int) : Prop := Pst w wr b n a l c x0 x1 x2 x3 x4 x5 x6 x7 ∧ WrdIs wr ∧ TabP wr
theorem Txt.next {w wr w' : World} {b : Nat} {n : ByteArray} {a : Option Addr} {l : List ByteArray} {c : Nat} {x0 x1 x2 x3 x4 x5 x6 x7 : Int} (h : Txt w wr b n a l c x0 x1 x2 x3 x4 x5 x6 x7) (hb : Below wr.heap.size wr w') : Txt w w' b n a l c x0 x1 x2 x3 x4 x5 x6 x7 := ⟨h.1.next hb, h.2.1.next hb, tabP_next h.2.2 hb⟩

set_option maxRecDepth 100000 in
set_option maxHeartbeats 4000000 in
theorem rtext_any (n : ByteArray) (a : Option Addr) (l : List ByteArray) (c : Nat) (x0 x1 x2 x3 x4 x5 x6 x7 : Int) (w : World) (hok : Pn.planE ⟨n, l, [x0, x1, x2, x3, x4, x5, x6, x7]⟩ = 0) (hsl : SlS w a l) (hw : WrdIs w) (ht : TabP w) :
    Calls Tryd.prog 8 #[planV n a l.length c x0 x1 x2 x3 x4 x5 x6 x7] w fun e w' => e = .returned (if Pn.commas ⟨n, l, [x0, x1, x2, x3, x4, x5, x6, x7]⟩ = true then .tuple #[.string ⟨#[]⟩, .bool false] else .tuple #[.string (Pn.planT ⟨n, l, [x0, x1, x2, x3, x4, x5, x6, x7]⟩), .bool true]) ∧ Below w.heap.size w w' := by
  obtain ⟨o1, o2, o3, o4, o5, o6⟩ := Pn.plan_ok hok
  have hl4 : l.length ≤ 4 := o2
  have hfz : Hid (∀ k, k < l.length → (tk l k).size ≤ 136) := hide (fun k hk => (Pn.filt_bytes (Pn.filtE_all o4 (tk l k) (by
    unfold tk
    rw [List.getElem?_eq_getElem hk]
    exact List.getElem_mem hk))).1)
  have hnz : n.size ≤ 16 := (Pn.name_bytes o1).1
  have HV : Hid (∀ i, i < 8 → 0 ≤ Dk.nth [x0, x1, x2, x3, x4, x5, x6, x7] i ∧ Dk.nth [x0, x1, x2, x3, x4, x5, x6, x7] i ≤ 100000) := hide (fun i hi => by
    obtain ⟨q, m, hm, hle⟩ := (Pn.inAll_in o6).2 _ (Pn.nth_at (v := [x0, x1, x2, x3, x4, x5, x6, x7]) hi)
    have := Pn.most_le m hm
    omega)
  have b0 : Below w.heap.size w (w.alloc (.cells #[.string n, .slice a l.length c, .int .i64 x0, .int .i64 x1, .int .i64 x2, .int .i64 x3, .int .i64 x4, .int .i64 x5, .int .i64 x6, .int .i64 x7] 24)) := (Below.refl _ _).alloc (Nat.le_refl _) _
  have Q0 : Hid (Txt w (w.alloc (.cells #[.string n, .slice a l.length c, .int .i64 x0, .int .i64 x1, .int .i64 x2, .int .i64 x3, .int .i64 x4, .int .i64 x5, .int .i64 x6, .int .i64 x7] 24)) w.heap.size n a l c x0 x1 x2 x3 x4 x5 x6 x7) := hide ⟨⟨PB.new w n a l.length c x0 x1 x2 x3 x4 x5 x6 x7 _, hsl.next b0, b0⟩, hw.next b0, tabP_next ht b0⟩
  obtain ⟨R, hR⟩ : ∃ R : Value, (if Pn.commas ⟨n, l, [x0, x1, x2, x3, x4, x5, x6, x7]⟩ = true then Value.tuple #[.string ⟨#[]⟩, .bool false] else .tuple #[.string (Pn.planT ⟨n, l, [x0, x1, x2, x3, x4, x5, x6, x7]⟩), .bool true]) = R := ⟨_, rfl⟩
  have HRt : Hid (Pn.commas ⟨n, l, [x0, x1, x2, x3, x4, x5, x6, x7]⟩ = true → R = .tuple #[.string ⟨#[]⟩, .bool false]) := hide (fun h => by rw [← hR, if_pos h])
  have HRf : Hid (Pn.commas ⟨n, l, [x0, x1, x2, x3, x4, x5, x6, x7]⟩ = false → R = .tuple #[.string (Pn.planT ⟨n, l, [x0, x1, x2, x3, x4, x5, x6, x7]⟩), .bool true]) := hide (fun h => by rw [← hR, if_neg (by rw [h]; simp)])
  rw [hR]
  obtain ⟨b, hb⟩ : ∃ b, b = w.heap.size := ⟨_, rfl⟩
  rw [← hb] at Q0
  clear hR hsl hw ht b0 o1 o2 o3 o4 o5 o6 hok
  go_enter Tryd.func8, Tryd.ntmps8
  go_wp2_with fail
  rw [← hb]
  clear hb
  go_loopw [4] (fun iv wr => ∃ (i : Nat), iv = .int .i64 i ∧ i ≤ l.length ∧ Hid (∀ k, k < i → (tk l k).data.toList.contains 44 = false) ∧ Hid (Txt w wr b n a l c x0 x1 x2 x3 x4 x5 x6 x7)) (fun iv _ => l.length - (intOf iv).toNat)
  case atStart => exact ⟨0, rfl, Nat.zero_le _, hide (fun k hk => by omega), Q0⟩
  case round =>
    clear Q0
    obtain ⟨i, rfl, hi, HC, Q1⟩ := hrel
    have d1 := (unhide Q1).1.1.c1
    by_cases hlt : i < l.length
    · obtain ⟨ba, o, rfl, _, e1⟩ := (unhide Q1).1.2.1 i hlt
      have hfi := unhide hfz i hlt
      have PP := hide (pieces_at 44 (tk l i) wr (by omega) (by
        have h1 := List.count_le_length (a := (44 : UInt8)) (l := (tk l i).data.toList)
        have e : (tk l i).data.toList.length = (tk l i).size := by simp
        rw [Pn.cut_length]
        omega))
      go_wp2_with fail
      refine (unhide PP).mono ?_
      rintro e w2 ⟨g2, c2, l2, rfl, _, p2, b2⟩
      have Q2 := hide ((unhide Q1).next b2)
      have hl2 : l2.length = (Pn.cut 44 (tk l i).data.toList).length := by
        have := congrArg List.length p2
        rw [List.length_map, List.take_of_length_le (by simp)] at this
        exact this
      have hci := Pn.comma_iff (tk l i)
      rw [← hl2] at hci
      clear PP p2 b2 Q1 d1 e1 hl2
      by_cases hc : 1 < l2.length
      · have g1 : decide ((1 : Int) < (l2.length : Int)) = true := decide_eq_true (by omega)
        have HR : Hid (R = .tuple #[.string ⟨#[]⟩, .bool false]) := hide (unhide HRt (by
          unfold Pn.commas
          rw [List.any_eq_true]
          refine ⟨tk l i, ?_, by rw [hci]; simpa using hc⟩
          unfold tk
          rw [List.getElem?_eq_getElem hlt]
          exact List.getElem_mem hlt))
        clear hci HC
        go_wp2_with fail
        go_ret2
        rw [unhide HR]
        exact ⟨rfl, (unhide Q2).1.2.2⟩
      · have g1 : decide ((1 : Int) < (l2.length : Int)) = false := decide_eq_false (by omega)
        have HC2 : Hid (∀ k, k < i + 1 → (tk l k).data.toList.contains 44 = false) := hide (fun k hk => by
          by_cases e : k = i
          · rw [e, hci]; simpa using hc
          · exact unhide HC k (by omega))
        clear hci HC
        go_wp2_with fail
        refine ⟨⟨i + 1, by go_num, by omega, HC2, Q2⟩, ?_⟩
        simp [intOf]; omega
    · obtain rfl : i = l.length := by omega
      have HR : Hid (R = .tuple #[.string (Pn.planT ⟨n, l, [x0, x1, x2, x3, x4, x5, x6, x7]⟩), .bool true]) := hide (unhide HRf (by
        unfold Pn.commas
        rw [List.any_eq_false]
        intro f hf
        obtain ⟨k, hk, rfl⟩ := List.mem_iff_getElem.1 hf
        have := unhide HC k hk
        unfold tk at this
        rw [List.getElem?_eq_getElem hk] at this
        simpa using this))
      have d0 := (unhide Q1).1.1.c0
      have Q2 := hide ((unhide Q1).next (Below.refl _ _).drew)
      have k2 : w.heap.size ≤ wr.heap.size := (unhide Q1).1.2.2.size
      obtain ⟨J, hJ⟩ : ∃ J, J = Pn.bs (Pn.glue 44 (l.map (·.data.toList))) := ⟨_, rfl⟩
      have PJ := hide (rjoined_any a l c 44 wr.drew (unhide Q2).1.2.1 (fun k hk => by have := unhide hfz k hk; omega) (by omega))
      rw [← hJ] at PJ
      have hJz : J.size ≤ 100000 := by
        rw [hJ, Pn.bs_size]
        have := Pn.glue_few (b := 44) (l := l) (fun k hk => by have := unhide hfz k hk; omega) l.length
        rw [List.take_length] at this
        omega
      have f2 : Nf2 b n a l.length c wr.drew := ⟨(unhide Q2).1.1.c0, (unhide Q2).1.1.c1⟩
      have hs1 : n.size + 1 ≤ 9223372036854775807 := by omega
      have hs2 : (n ++ ⟨#[32]⟩ : ByteArray).size = n.size + 1 := by rw [ByteArray.size_append]; rfl
      have hs3 : (n ++ ⟨#[32]⟩ : ByteArray).size + J.size ≤ 9223372036854775807 := by omega
      have HJ := hide hJ
      clear HC hlt Q1 d0 hJ k2
      go_wp2_with fail
      go_region_held_law (Nf2 b n a l.length c) (first | assumption | go_keep)
        (first
          | (go_at_call 24; refine (unhide PJ).mono ?_; rintro e w3 ⟨rfl, b3⟩; have Q3 := hide ((unhide Q2).next b3); have f3 : Nf2 b n a l.length c w3 := ⟨(unhide Q3).1.1.c0, (unhide Q3).1.1.c1⟩))
      all_goals
        clear f2 f3 PJ b3 Q2 d1
        obtain ⟨_, y0, y1, y2, y3, y4, y5, y6, y7, y8, y9⟩ := (unhide Q3).1.1
        have PV := hide (rvalues_any n a l.length c x0 x1 x2 x3 x4 x5 x6 x7 w3)
        go_wp2_with fail
        refine (unhide PV).mono ?_
        rintro e w5 ⟨g1, g2, rfl, v1, _, b5⟩
        have Q5 := hide ((unhide Q3).next b5)
        obtain ⟨v, hv⟩ : ∃ v, v = [x0, x1, x2, x3, x4, x5, x6, x7] := ⟨_, rfl⟩
        have hv8 : v.length = 8 := by rw [hv]; rfl
        have HS : Hid (Dk.SlI w5 (some ⟨g1, 0, none⟩) v ∧ WrdIs w5 ∧ TabP w5 ∧ Below w.heap.size w w5) := hide ⟨by rw [hv]; exact v1, (unhide Q5).2.1, (unhide Q5).2.2, (unhide Q5).1.2.2⟩
        have HV2 : Hid (∀ i, i < 8 → 0 ≤ Dk.nth v i ∧ Dk.nth v i ≤ 100000) := by rw [hv]; exact HV
        have HO : Hid (n ++ ⟨#[32]⟩ ++ J = Pn.bs (Pn.glue 32 (n.data.toList :: Pn.glue 44 (l.map (·.data.toList)) :: Pn.wordsT (Pn.words8.take 0) (v.take 0)))) := hide (by
          rw [unhide HJ]
          have e1 : (n ++ ⟨#[32]⟩ : ByteArray) = Pn.bs (n.data.toList ++ [32]) := by
            rw [← Pn.bs_list n, Pn.bs_app, Pn.list_bs]
          rw [e1, Pn.bs_app, Pn.list_bs]
          congr 1
          simp [Pn.wordsT, Pn.glue])
        have hOz : (n ++ ⟨#[32]⟩ ++ J : ByteArray).size ≤ 200000 := by rw [ByteArray.size_append]; omega
        have HRv : Hid (R = .tuple #[.string (Pn.planT ⟨n, l, v⟩), .bool true]) := by rw [hv]; exact HR
        clear PV v1 b5 Q5 Q3 y0 y1 y2 y3 y4 y5 y6 y7 y8 y9 hv HV HR HRt HRf
        generalize n ++ ⟨#[32]⟩ ++ J = O0 at HO hOz ⊢
        go_wp2_with fail
        go_loopw [5, 8] (fun ov iv wr => ∃ (i : Nat) (O : ByteArray), iv = .int .i64 i ∧ i ≤ 8 ∧ ov = .string O ∧ Hid (O = Pn.bs (Pn.glue 32 (n.data.toList :: Pn.glue 44 (l.map (·.data.toList)) :: Pn.wordsT (Pn.words8.take i) (v.take i)))) ∧ O.size ≤ 200000 + i * 100 ∧ Hid (Dk.SlI wr (some ⟨g1, 0, none⟩) v ∧ WrdIs wr ∧ TabP wr ∧ Below w.heap.size w wr)) (fun _ iv _ => 8 - (intOf iv).toNat)
        case atStart => exact ⟨0, O0, rfl, by omega, rfl, HO, by omega, HS⟩
        case round =>
          clear HO HS hOz
          obtain ⟨i, O, rfl, hi, rfl, HO, hOz, HS⟩ := hrel
          by_cases hlt : i < 8
          · obtain ⟨g', o', eg, _, e1⟩ := (unhide HS).1 i (by omega)
            cases eg
            rw [Nat.zero_add] at e1
            have ew := (unhide HS).2.1.2 i hlt
            have hx := unhide HV2 i hlt
            have hwt := Pn.wordsT_take hv8 hlt
            have hwz : (wd i).size ≤ 7 := by
              unfold wd
              rw [Pn.bs_size]
              have : (Pn.words8[i]?).getD [] ∈ Pn.words8 := by rw [List.getElem?_eq_getElem (show i < Pn.words8.length from hlt)]; exact List.getElem_mem _
              exact (Pn.words8_ok _ this).1
            obtain ⟨x, hxx⟩ : ∃ x, Dk.nth v i = x := ⟨_, rfl⟩
            rw [hxx] at e1 hx hwt
            by_cases h0 : x = 0
            · have HO2 : Hid (O = Pn.bs (Pn.glue 32 (n.data.toList :: Pn.glue 44 (l.map (·.data.toList)) :: Pn.wordsT (Pn.words8.take (i + 1)) (v.take (i + 1))))) := hide (by rw [hwt, if_pos h0, List.append_nil]; exact unhide HO)
              subst h0
              clear hwt HO hxx ew
              go_wp2_with fail
              refine ⟨⟨i + 1, O, by go_num, by omega, rfl, HO2, by omega, HS⟩, ?_⟩
              simp [intOf]; omega
            · obtain ⟨t1, t2⟩ := Pn.itoa_low hx
              have HO2 : Hid (O ++ (⟨#[32]⟩ ++ wd i ++ ⟨#[61]⟩ ++ Pn.bs (Lib.itoa x)) = Pn.bs (Pn.glue 32 (n.data.toList :: Pn.glue 44 (l.map (·.data.toList)) :: Pn.wordsT (Pn.words8.take (i + 1)) (v.take (i + 1))))) := hide (by
                have eL : n.data.toList :: Pn.glue 44 (l.map (·.data.toList)) :: Pn.wordsT (Pn.words8.take (i + 1)) (v.take (i + 1)) = (n.data.toList :: Pn.glue 44 (l.map (·.data.toList)) :: Pn.wordsT (Pn.words8.take i) (v.take i)) ++ [(wd i).data.toList ++ 61 :: Lib.itoa x] := by rw [hwt, if_neg h0]; rfl
                rw [eL, Pn.glue_snoc 32 _ _ (by simp), unhide HO, Pn.bs_app]
                congr 2
                simp [ByteArray.data_append, Pn.bs])
              have hTz : (Pn.bs (Lib.itoa x)).size ≤ 6 := by rw [Pn.bs_size]; exact t1
              obtain ⟨TT, hTT⟩ : ∃ TT, Pn.bs (Lib.itoa x) = TT := ⟨_, rfl⟩
              rw [hTT] at HO2 hTz
              have z1 : (⟨#[32]⟩ ++ wd i : ByteArray).size = 1 + (wd i).size := by rw [ByteArray.size_append]; rfl
              have z2 : (⟨#[32]⟩ ++ wd i ++ ⟨#[61]⟩ : ByteArray).size = 1 + (wd i).size + 1 := by rw [ByteArray.size_append, z1]; rfl
              have z3 : (⟨#[32]⟩ ++ wd i ++ ⟨#[61]⟩ ++ TT : ByteArray).size = 1 + (wd i).size + 1 + TT.size := by rw [ByteArray.size_append, z2]
              have z4 : (O ++ (⟨#[32]⟩ ++ wd i ++ ⟨#[61]⟩ ++ TT) : ByteArray).size ≤ 200000 + (i + 1) * 100 := by rw [ByteArray.size_append, z3]; omega
              have y1 : 1 + (wd i).size ≤ 9223372036854775807 := by omega
              have y2 : (⟨#[32]⟩ ++ wd i : ByteArray).size + 1 ≤ 9223372036854775807 := by omega
              have y3 : (⟨#[32]⟩ ++ wd i ++ ⟨#[61]⟩ : ByteArray).size + TT.size ≤ 9223372036854775807 := by omega
              have y4 : O.size + (⟨#[32]⟩ ++ wd i ++ ⟨#[61]⟩ ++ TT : ByteArray).size ≤ 9223372036854775807 := by omega
              have bd : Below wr.heap.size wr wr.drew := (Below.refl _ _).drew
              have HS2 : Hid (Dk.SlI wr.drew (some ⟨g1, 0, none⟩) v ∧ WrdIs wr.drew ∧ TabP wr.drew ∧ Below w.heap.size w wr.drew) := hide ⟨nums_next (unhide HS).1 bd, (unhide HS).2.1.next bd, tabP_next (unhide HS).2.2.1 bd, bstep (unhide HS).2.2.2 bd⟩
              have PI := hide (itoa_any x (by omega) (by omega) wr.drew (unhide HS2).2.2.1)
              rw [hTT] at PI
              have hE : (x != 0) = true := by simpa using h0
              have HC : Hid (∀ W, Dk.SlI W (some ⟨g1, 0, none⟩) v → WrdIs W → Wv2 g1 i x (wd i) W) := hide (fun W q1 q2 => by
                obtain ⟨g', o', eg, _, e1⟩ := q1 i (by omega)
                cases eg
                rw [Nat.zero_add, hxx] at e1
                exact ⟨e1, q2.2 i hlt⟩)
              have k2 := unhide HC _ (unhide HS2).1 (unhide HS2).2.1
              clear hwt HO hxx hTT t1 t2 z1 z2 z3 HS bd ew
              generalize wd i = WD at *
              go_wp2_with fail
              go_region_held_law (Wv2 g1 i x WD) (first | assumption | go_keep)
                (first
                  | (go_at_call 20; refine (unhide PI).mono ?_; rintro e w7 ⟨rfl, b7⟩; have HS7 : Hid (Dk.SlI w7 (some ⟨g1, 0, none⟩) v ∧ WrdIs w7 ∧ TabP w7 ∧ Below w.heap.size w w7) := hide ⟨nums_next (unhide HS2).1 b7, (unhide HS2).2.1.next b7, tabP_next (unhide HS2).2.2.1 b7, bstep (unhide HS2).2.2.2 b7⟩; have k7 := unhide HC _ (unhide HS7).1 (unhide HS7).2.1))
              all_goals clear k2 k7 b7 PI HC HS2
              all_goals go_wp2_with fail
              all_goals refine ⟨⟨i + 1, _, by go_num, by omega, rfl, HO2, z4, HS7⟩, ?_⟩
              all_goals simp [intOf]; omega
          · obtain rfl : i = 8 := by omega
            have HF : Hid (R = .tuple #[.string O, .bool true]) := hide (by
              rw [unhide HRv, unhide HO, show Pn.words8.take 8 = Pn.words8 from rfl, show v.take 8 = v from List.take_of_length_le (by omega)]
              rfl)
            clear HO HRv
            go_wp2_with fail
            go_ret2
            rw [unhide HF]
            exact ⟨rfl, (unhide HS).2.2.2⟩
end Go.Proofs.YtohjipnkoiifhabDoor
