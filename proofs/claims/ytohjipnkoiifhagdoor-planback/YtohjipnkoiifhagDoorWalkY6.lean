/-
  Contract of the landed plan.Print: the walk.
-/
import Derived.Test.YtohjipnkoiifhagDoorWalkY5
namespace Go.Proofs.YtohjipnkoiifhagDoor
open Go.RowKit

/-- what Print and Check ask of the tables -/
abbrev PG (w : World) : Prop := BndIs w ∧ TabP w
theorem PG.next {w w' : World} (h : PG w) (hb : Below w.heap.size w w') : PG w' := ⟨h.1.next hb, tabP_next h.2 hb⟩
def Prt (w wr : World) (b : Nat) (n : ByteArray) (a : Option Addr) (l : List ByteArray) (c : Nat) (x0 x1 x2 x3 x4 x5 x6 x7 : Int) : Prop := Pst w wr b n a l c x0 x1 x2 x3 x4 x5 x6 x7 ∧ PG wr
theorem Prt.next {w wr w' : World} {b : Nat} {n : ByteArray} {a : Option Addr} {l : List ByteArray} {c : Nat} {x0 x1 x2 x3 x4 x5 x6 x7 : Int} (h : Prt w wr b n a l c x0 x1 x2 x3 x4 x5 x6 x7) (hb : Below wr.heap.size wr w') : Prt w w' b n a l c x0 x1 x2 x3 x4 x5 x6 x7 := ⟨h.1.next hb, h.2.next hb⟩
abbrev Nf3 (b : Nat) (n : ByteArray) (a : Option Addr) (l c : Nat) (w : World) : Prop := w.cell? ⟨b, 0, none⟩ = some (.string n) ∧ w.cell? ⟨b, 1, none⟩ = some (.slice a l c)
theorem Nf3.alloc {b : Nat} {n : ByteArray} {a : Option Addr} {l c : Nat} {W : World} {o : Obj} (h : Nf3 b n a l c W) (hg : b < W.heap.size) : Nf3 b n a l c (W.alloc o) := ⟨by rw [World.cell?_alloc_old _ _ _ (Nat.ne_of_lt hg)]; exact h.1, by rw [World.cell?_alloc_old _ _ _ (Nat.ne_of_lt hg)]; exact h.2⟩
abbrev Wx (b i : Nat) (x : Int) (t : ByteArray) (w : World) : Prop := w.cell? ⟨b, 2 + i, none⟩ = some (.int .i64 x) ∧ w.cell? ⟨0, i * 2, none⟩ = some (.string t)
theorem Wx.alloc {b i : Nat} {x : Int} {t : ByteArray} {W : World} {o : Obj} (h : Wx b i x t W) (hg : b < W.heap.size) (hG : 0 < W.heap.size) : Wx b i x t (W.alloc o) := ⟨by rw [World.cell?_alloc_old _ _ _ (Nat.ne_of_lt hg)]; exact h.1, by rw [World.cell?_alloc_old _ _ _ (Nat.ne_of_lt hG)]; exact h.2⟩
/-- the words so far -/
def wordsB (n : ByteArray) (l : List ByteArray) (v : List Int) (i : Nat) : List ByteArray := n :: Pn.bs (Pn.glue 44 (l.map (·.data.toList))) :: (Pn.wordsT (Pn.words8.take i) (v.take i)).map Pn.bs
theorem wordsB_data (n : ByteArray) (l : List ByteArray) (v : List Int) : (wordsB n l v 8).map (·.data.toList) = Pn.textL ⟨n, l, v.take 8⟩ := by
  unfold wordsB Pn.textL
  simp only [List.map_cons, Pn.list_bs, List.map_map]
  rw [show Pn.words8.take 8 = Pn.words8 from rfl]
  congr 2
  conv => rhs; rw [← List.map_id (Pn.wordsT Pn.words8 (v.take 8))]
  apply List.map_congr_left
  intro x _
  exact Pn.list_bs x
theorem wordsB_next {n : ByteArray} {l : List ByteArray} {v : List Int} (h8 : v.length = 8) {i : Nat} (hi : i < 8) : wordsB n l v (i + 1) = wordsB n l v i ++ (if Dk.nth v i = 0 then [] else [wd i ++ ⟨#[61]⟩ ++ Pn.bs (Lib.itoa (Dk.nth v i))]) := by
  unfold wordsB
  rw [Pn.wordsT_take h8 hi, List.map_append]
  by_cases e : Dk.nth v i = 0
  · rw [if_pos e, if_pos e]; rfl
  · rw [if_neg e, if_neg e]
    simp only [List.map_cons, List.map_nil, List.cons_append]
    congr 4
    rw [← Pn.bs_list (wd i), Pn.list_bs, Pn.bs_app, Pn.bs_app, Pn.list_bs]
    congr 1
    simp
theorem wordsB_len (n : ByteArray) (l : List ByteArray) (v : List Int) (i : Nat) (h8 : v.length = 8) (hi : i ≤ 8) : (wordsB n l v i).length ≤ 2 + i := by
  induction i with
  | zero => simp [wordsB, Pn.wordsT]
  | succ i ih =>
    rw [wordsB_next h8 (by omega), List.length_append]
    have := ih (by omega)
    split <;> simp <;> omega

set_option maxRecDepth 100000 in
set_option maxHeartbeats 4000000 in
theorem print_any (n : ByteArray) (a : Option Addr) (l : List ByteArray) (c : Nat) (x0 x1 x2 x3 x4 x5 x6 x7 : Int) (w : World) (hn : n.size ≤ 140737488355328) (hsl : SlS w a l) (hz : ∀ k, k < l.length → (tk l k).size ≤ 140737488355328) (hl : l.length ≤ 140737488355328) (hc : l.length ≤ c) (hG : PG w) :
    Calls Tryd.prog 5 #[planV n a l.length c x0 x1 x2 x3 x4 x5 x6 x7] w fun e w' => e = .returned (printV ⟨n, l, [x0, x1, x2, x3, x4, x5, x6, x7]⟩) ∧ Below w.heap.size w w' := by
  have b0 : Below w.heap.size w (w.alloc (.cells #[.string n, .slice a l.length c, .int .i64 x0, .int .i64 x1, .int .i64 x2, .int .i64 x3, .int .i64 x4, .int .i64 x5, .int .i64 x6, .int .i64 x7] 24)) := (Below.refl _ _).alloc (Nat.le_refl _) _
  have Q0 : Hid (Prt w (w.alloc (.cells #[.string n, .slice a l.length c, .int .i64 x0, .int .i64 x1, .int .i64 x2, .int .i64 x3, .int .i64 x4, .int .i64 x5, .int .i64 x6, .int .i64 x7] 24)) w.heap.size n a l c x0 x1 x2 x3 x4 x5 x6 x7) := hide ⟨⟨PB.new w n a l.length c x0 x1 x2 x3 x4 x5 x6 x7 _, hsl.next b0, b0⟩, hG.next b0⟩
  have PC := hide (fun (W : World) (h : Prt w W w.heap.size n a l c x0 x1 x2 x3 x4 x5 x6 x7) => plcheck_any n a l c x0 x1 x2 x3 x4 x5 x6 x7 W hn h.1.2.1 hz hl hc h.2.1)
  obtain ⟨v, hv⟩ : ∃ v, v = [x0, x1, x2, x3, x4, x5, x6, x7] := ⟨_, rfl⟩
  have hv8 : v.length = 8 := by rw [hv]; rfl
  rw [← hv] at PC ⊢
  have HC : Hid (∀ {i : Nat}, i < 8 → ∀ {W : World}, Prt w W w.heap.size n a l c x0 x1 x2 x3 x4 x5 x6 x7 → Wx w.heap.size i (Dk.nth v i) (wd i) W) := hide (fun hi _ h => ⟨by rw [hv]; exact h.1.1.num _ hi, (h.2.1.2 _ hi).1⟩)
  obtain ⟨E, hE⟩ : ∃ E, Pn.planE ⟨n, l, v⟩ = E := ⟨_, rfl⟩
  rw [hE] at PC
  obtain ⟨R, hR⟩ : ∃ R, printV ⟨n, l, v⟩ = R := ⟨_, rfl⟩
  have HRe : Hid (E ≠ 0 → R = .tuple #[.string ⟨#[]⟩, .int .i64 E]) := hide (fun h => by rw [← hR]; unfold printV; rw [hE, if_pos h])
  have HRc : Hid (E = 0 → Pn.commas ⟨n, l, v⟩ = true → R = .tuple #[.string ⟨#[]⟩, .int .i64 3]) := hide (fun h h2 => by rw [← hR]; unfold printV; rw [hE, if_neg (by rw [h]; simp), if_pos h2])
  have HRf : Hid (E = 0 → Pn.commas ⟨n, l, v⟩ = false → R = .tuple #[.string (Pn.planT ⟨n, l, v⟩), .int .i64 0]) := hide (fun h h2 => by rw [← hR]; unfold printV; rw [hE, if_neg (by rw [h]; simp), if_neg (by rw [h2]; simp)])
  rw [hR]
  have HE := hide hE
  obtain ⟨b, hb⟩ : ∃ b, b = w.heap.size := ⟨_, rfl⟩
  obtain ⟨W, hW⟩ : ∃ W, W = w.alloc (.cells #[.string n, .slice a l.length c, .int .i64 x0, .int .i64 x1, .int .i64 x2, .int .i64 x3, .int .i64 x4, .int .i64 x5, .int .i64 x6, .int .i64 x7] 24) := ⟨_, rfl⟩
  rw [← hb] at Q0 PC HC
  rw [← hW] at Q0
  obtain ⟨_, y0, y1, y2, y3, y4, y5, y6, y7, y8, y9⟩ := (unhide Q0).1.1
  clear hsl hz hG b0 hv hE hR
  go_enter Tryd.func5, Tryd.ntmps5
  go_wp2_with fail
  rw [← hb, ← hW]
  clear hb hW
  have hbw : b < W.heap.size := (unhide Q0).1.1.lt
  refine (unhide PC _ (unhide Q0)).mono ?_
  rintro e w1 ⟨rfl, b1⟩
  have Q1 := hide ((unhide Q0).next b1)
  clear PC b1 Q0 y0 y1 y2 y3 y4 y5 y6 y7 y8 y9
  by_cases hE0 : E = 0
  · subst hE0
    obtain ⟨o1, o2, o3, o4, o5, o6⟩ := Pn.plan_ok (unhide HE)
    have hl4 : l.length ≤ 4 := o2
    have hl0 : l.length ≠ 0 := o3
    have hfz : Hid (∀ k, k < l.length → (tk l k).size ≤ 136) := hide (fun k hk => (Pn.filt_bytes (Pn.filtE_all o4 (tk l k) (Pn.tk_in hk))).1)
    have hnz : n.size ≤ 16 := (Pn.name_bytes o1).1
    have HV : Hid (∀ i, i < 8 → 0 ≤ Dk.nth v i ∧ Dk.nth v i ≤ 100000) := hide (fun i hi => by
      obtain ⟨q, m, hm, hle⟩ := (Pn.inAll_in o6).2 _ (Pn.nth_at (v := v) (i := i) (by rw [hv8]; exact hi))
      have := Pn.most_le m hm
      omega)
    have HTx := hide (Pn.text_ok (unhide HE)).2
    have HRt := hide (unhide HRc rfl)
    have HRg := hide (unhide HRf rfl)
    have d1 := (unhide Q1).1.1.c1
    clear HRe HRc HRf o1 o2 o3 o4 o5 o6 HE
    go_wp2_with fail
    clear d1
    go_loopw [18] (fun iv wr => ∃ (i : Nat), iv = .int .i64 i ∧ i ≤ l.length ∧ Hid (∀ k, k < i → (tk l k).data.toList.contains 44 = false) ∧ Hid (Prt w wr b n a l c x0 x1 x2 x3 x4 x5 x6 x7)) (fun iv _ => l.length - (intOf iv).toNat)
    case atStart => exact ⟨0, rfl, Nat.zero_le _, hide (fun k hk => by omega), Q1⟩
    case round =>
      clear Q1
      obtain ⟨i, rfl, hi, HK, Q1⟩ := hrel
      by_cases hlt : i < l.length
      · obtain ⟨ba, o, rfl, _, e1⟩ := (unhide Q1).1.2.1 i hlt
        have PF := hide (Tryd.strings_Contains_one (tk l i) 44 wr)
        rw [Pn.contains_at] at PF
        cases hct : (tk l i).data.toList.contains 44 with
        | true =>
          rw [hct] at PF
          have HR := hide (unhide HRt (by
            unfold Pn.commas
            rw [List.any_eq_true]
            exact ⟨tk l i, Pn.tk_in hlt, hct⟩))
          clear hct
          go_wp2_with (go_at_call 13; refine (unhide PF).mono ?_; rintro e w4 ⟨rfl, rfl⟩)
          go_ret2
          rw [unhide HR]
          exact ⟨rfl, (unhide Q1).1.2.2⟩
        | false =>
          rw [hct] at PF
          have HK2 : Hid (∀ k, k < i + 1 → (tk l k).data.toList.contains 44 = false) := hide (fun k hk => by
            by_cases e : k = i
            · rw [e]; exact hct
            · exact unhide HK k (by omega))
          clear hct HK
          go_wp2_with (go_at_call 13; refine (unhide PF).mono ?_; rintro e w4 ⟨rfl, rfl⟩)
          refine ⟨⟨i + 1, by go_num, by omega, HK2, Q1⟩, ?_⟩
          simp [intOf]; omega
      · obtain rfl : i = l.length := by omega
        have HR : Hid (R = .tuple #[.string (Pn.planT ⟨n, l, v⟩), .int .i64 0]) := hide (unhide HRg (by
          unfold Pn.commas
          rw [List.any_eq_false]
          intro f hf
          obtain ⟨k, hk, rfl⟩ := List.mem_iff_getElem.1 hf
          have := unhide HK k hk
          rw [Pn.tk_at hk] at this
          simpa using this))
        obtain ⟨ba, o, ea, _, _⟩ := (unhide Q1).1.2.1 0 (by omega)
        subst ea
        have Q2 := hide ((unhide Q1).next (Below.refl _ _).drew)
        obtain ⟨J, hJ⟩ : ∃ J, J = Pn.bs (Pn.glue 44 (l.map (·.data.toList))) := ⟨_, rfl⟩
        have hJz : (Pn.glue 44 (l.map (·.data.toList))).length ≤ 100000 := by
          have := Pn.glue_few (b := 44) (l := l) (fun k hk => by have := unhide hfz k hk; omega) l.length
          rw [List.take_length] at this
          omega
        have PJ := hide (join_at 44 ba o c l wr.drew (unhide Q2).1.2.1 (by omega) hc (by omega) (by omega))
        rw [← hJ] at PJ
        have HJ := hide hJ
        have f2 : Nf3 b n (some ⟨ba, o, none⟩) l.length c wr.drew := ⟨(unhide Q2).1.1.c0, (unhide Q2).1.1.c1⟩
        clear hJ hJz HK hlt HRt HRg Q1
        go_wp2_with fail
        go_region_held_law (Nf3 b n (some ⟨ba, o, none⟩) l.length c) (first | with_reducible assumption | exact Nf3.alloc f3 h3)
          (first
            | (go_at_call 14; refine (unhide PJ).mono ?_; rintro e w3 ⟨rfl, b3⟩; have Q3 := hide ((unhide Q2).next b3); have f3 : Nf3 b n (some ⟨ba, o, none⟩) l.length c w3 := ⟨(unhide Q3).1.1.c0, (unhide Q3).1.1.c1⟩; have h3 : b < w3.heap.size := (unhide Q3).1.1.lt))
        clear f2 f3 PJ Q2
        have k4 : Below w3.heap.size w3 (w3.alloc (.cells #[.string n, .string J] 9)) := (Below.refl _ _).alloc (Nat.le_refl _) _
        have X4 : Hid (Txts (w3.alloc (.cells #[.string n, .string J] 9)) w3.heap.size (.slice (some ⟨w3.heap.size, 0, none⟩) 2 2) (wordsB n l v 0) ∧ Below w3.heap.size w3 (w3.alloc (.cells #[.string n, .string J] 9))) := hide ⟨by
          have e0 : wordsB n l v 0 = [n, J] := by rw [unhide HJ]; rfl
          rw [e0]
          exact Txts.lit w3 n J, k4⟩
        clear b3 k4
        obtain ⟨B, hB⟩ : ∃ B, B = w3.heap.size := ⟨_, rfl⟩
        generalize hW4 : w3.alloc (.cells #[.string n, .string J] 9) = W4 at X4 ⊢
        clear hW4
        rw [← hB] at X4 ⊢
        have PU := hide (numbers_any b W4)
        have HQ : Hid (∀ {W : World}, Below B w3 W → Prt w W b n (some ⟨ba, o, none⟩) l c x0 x1 x2 x3 x4 x5 x6 x7) := hide (fun h => (unhide Q3).next (by rw [← hB]; exact h))
        have hBle : B ≤ w3.heap.size := by omega
        have hbB : b < B := by omega
        have hGB : 0 < B := by have := (unhide Q3).2.1.1; omega
        clear hB Q3 HJ h3
        go_wp2_with fail
        refine (unhide PU).mono ?_
        rintro e w5 ⟨rfl, b5⟩
        have X5 : Hid (Txts w5 B (.slice (some ⟨B, 0, none⟩) 2 2) (wordsB n l v 0) ∧ Below B w3 w5) := hide ⟨(unhide X4).1.below b5, (unhide X4).2.trans (b5.mono (Nat.le_trans hBle (unhide X4).2.size))⟩
        clear PU b5 X4
        go_wp2_with fail
        go_loopw [7, 32] (fun wv iv wr => ∃ (i : Nat), iv = .int .i64 i ∧ i ≤ 8 ∧ Hid (Txts wr B wv (wordsB n l v i) ∧ Below B w3 wr)) (fun _ iv _ => 8 - (intOf iv).toNat)
        case atStart => exact ⟨0, rfl, Nat.zero_le _, X5⟩
        case round =>
          clear X5
          obtain ⟨i, rfl, hi, X6⟩ := hrel
          have Q6 := hide (unhide HQ (unhide X6).2)
          by_cases hlt : i < 8
          · have hix := run_index_ptrs b i hlt
            have hx := unhide HV i hlt
            have hwn := wordsB_next (n := n) (l := l) hv8 hlt
            have hwl := wordsB_len n l v i hv8 hi
            obtain ⟨k1, k2⟩ := unhide HC hlt (unhide Q6)
            obtain ⟨x, hxx⟩ : ∃ x, Dk.nth v i = x := ⟨_, rfl⟩
            rw [hxx] at hx hwn k1
            by_cases h0 : x = 0
            · rw [if_pos h0, List.append_nil] at hwn
              have X7 : Hid (Txts wr B u7 (wordsB n l v (i + 1)) ∧ Below B w3 wr) := hide (by rw [hwn]; exact unhide X6)
              subst h0
              clear hwn X6 hxx k2 hwl
              go_wp2_with fail
              refine ⟨⟨i + 1, by go_num, by omega, X7⟩, ?_⟩
              simp [intOf]; omega
            · rw [if_neg h0] at hwn
              obtain ⟨t1, t2⟩ := Pn.itoa_low hx
              have hTz : (Pn.bs (Lib.itoa x)).size ≤ 6 := by rw [Pn.bs_size]; exact t1
              have hwz : (wd i).size ≤ 7 := by
                unfold wd
                rw [Pn.bs_size]
                have : (Pn.words8[i]?).getD [] ∈ Pn.words8 := by rw [List.getElem?_eq_getElem (show i < Pn.words8.length from hlt)]; exact List.getElem_mem _
                exact (Pn.words8_ok _ this).1
              have PI := hide (itoa_any x (by omega) (by omega) wr.drew (tabP_next (unhide Q6).2.2 (Below.refl _ _).drew))
              obtain ⟨TT, hTT⟩ : ∃ TT, Pn.bs (Lib.itoa x) = TT := ⟨_, rfl⟩
              rw [hTT] at PI hTz hwn
              have HC2 := hide (fun (W : World) (h : Below B w3 W) => (show Wx b i x (wd i) W from by
                have := unhide HC hlt (unhide HQ h)
                rwa [hxx] at this))
              obtain ⟨WD, hWD⟩ : ∃ WD, wd i = WD := ⟨_, rfl⟩
              rw [hWD] at k2 HC2 hwz hwn
              have z1 : (⟨#[61]⟩ : ByteArray).size = 1 := rfl
              have z2 : (WD ++ ⟨#[61]⟩ : ByteArray).size = WD.size + 1 := by rw [ByteArray.size_append]; rfl
              have s1 : WD.size + 1 ≤ 9223372036854775807 := by omega
              have s2 : (WD ++ ⟨#[61]⟩ : ByteArray).size + TT.size ≤ 9223372036854775807 := by omega
              have hE : (x != 0) = true := by simpa using h0
              have kk := unhide HC2 wr.drew ((unhide X6).2.drew)
              have HWN := hide hwn
              have hwr : B ≤ wr.heap.size := Nat.le_trans hBle (unhide X6).2.size
              clear hwn hxx hTT t1 t2 hWD hx
              go_wp2_with fail
              go_region_held_law (Wx b i x WD) (first | with_reducible assumption | exact Wx.alloc k7 h7 g7)
                (first
                  | (refine step_appendX rfl _ _ 22 22 rfl u7 _ (by simp [Act.eval]) (by simp [Act.eval]) hrun ?_; dsimp only [Act.put, List.getElem_toArray, List.getElem_cons_succ, List.getElem_cons_zero])
                  | (go_at_call 16; refine (unhide PI).mono ?_; rintro e w7 ⟨rfl, b7⟩; have B7 : Below B w3 w7 := ((unhide X6).2.drew).trans (b7.mono hwr); have k7 := unhide HC2 w7 B7; have h7 : b < w7.heap.size := Nat.lt_of_lt_of_le hbB (Nat.le_trans hBle B7.size); have g7 : 0 < w7.heap.size := Nat.lt_of_lt_of_le hGB (Nat.le_trans hBle B7.size); have T7 : Txts w7 B u7 (wordsB n l v i) := ((unhide X6).1.below (Below.refl _ _).drew).below b7; obtain ⟨v8, w8, hrun, T8, B8⟩ := txt_more T7 B7 (WD ++ ⟨#[61]⟩ ++ TT) (by omega) (Nat.le_trans hBle B7.size); have k8 := unhide HC2 w8 B8))
              all_goals
                have X8 : Hid (Txts w8 B v8 (wordsB n l v (i + 1)) ∧ Below B w3 w8) := hide (by rw [unhide HWN]; exact ⟨T8, B8⟩)
                clear PI B7 k7 h7 g7 T7 T8 B8 hrun k8 X6 kk k1 k2
                go_wp2_with fail
                refine ⟨⟨i + 1, by go_num, by omega, X8⟩, ?_⟩
                simp [intOf]; omega
          · obtain rfl : i = 8 := by omega
            have hne : 0 < (wordsB n l v 8).length := by unfold wordsB; simp
            have hwl := wordsB_len n l v 8 hv8 hi
            obtain ⟨g, cap, rfl, hcap, hsw⟩ := (unhide X6).1.sl hne
            have hdt : (wordsB n l v 8).map (·.data.toList) = Pn.textL ⟨n, l, v⟩ := by
              rw [wordsB_data, List.take_of_length_le (by omega)]
            have PJ := hide (join_at 32 g 0 cap (wordsB n l v 8) wr hsw hne hcap (by omega) (by
              rw [hdt]
              have h1 : (Pn.planT ⟨n, l, v⟩).size = (Pn.glue 32 (Pn.textL ⟨n, l, v⟩)).length := by
                show ((Pn.glue 32 (Pn.textL ⟨n, l, v⟩)).toArray).size = _
                simp
              have := unhide HTx
              omega))
            rw [hdt] at PJ
            have HR3 : Hid (R = .tuple #[.string (Pn.bs (Pn.glue 32 (Pn.textL ⟨n, l, v⟩))), .int .i64 0]) := hide (unhide HR)
            have B6 := hide (unhide Q6).1.2.2
            generalize Pn.bs (Pn.glue 32 (Pn.textL ⟨n, l, v⟩)) = OUT at PJ HR3
            generalize (wordsB n l v 8).length = LEN at PJ ⊢
            clear HR X6 hsw hdt hcap hwl hne Q6
            go_wp2_with fail
            refine (unhide PJ).mono ?_
            rintro e w9 ⟨rfl, b9⟩
            go_wp2_with fail
            go_ret2
            rw [unhide HR3]
            exact ⟨rfl, bstep (unhide B6) b9⟩
  · have HR := hide (unhide HRe hE0)
    have hE' : (E != 0) = true := by simpa using hE0
    clear HRe HRc HRf
    go_wp2_with fail
    go_ret2
    rw [unhide HR]
    exact ⟨rfl, (unhide Q1).1.2.2⟩
end Go.Proofs.YtohjipnkoiifhagDoor
