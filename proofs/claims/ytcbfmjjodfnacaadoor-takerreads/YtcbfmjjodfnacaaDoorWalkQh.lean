/-
  Contract of the landed taker.Print. Its table of words.
-/
import Derived.Test.YtcbfmjjodfnacaaDoorWalkQg
import Derived.Test.YtcbfmjjodfnacaaDoorJointWalkQaWalkQb
namespace Go.Proofs.YtcbfmjjodfnacaaDoor
open Go.RowKit

/-- the table of words, as it lies -/
def OrdIs (w : World) : Prop := 0 < w.heap.size ∧ ∀ i, i < 7 → w.cell? ⟨0, i, none⟩ = some (.string (Pn.bs (Tk.hd i)))
theorem OrdIs.next {w w' : World} (h : OrdIs w) (hb : Below w.heap.size w w') : OrdIs w' := ⟨Nat.lt_of_lt_of_le h.1 hb.size, fun i hi => by rw [hb.cell (p := ⟨0, i, none⟩) h.1]; exact h.2 i hi⟩
abbrev ordV : Value := .agg #[.string (Pn.bs (Tk.hd 0)), .string (Pn.bs (Tk.hd 1)), .string (Pn.bs (Tk.hd 2)), .string (Pn.bs (Tk.hd 3)), .string (Pn.bs (Tk.hd 4)), .string (Pn.bs (Tk.hd 5)), .string (Pn.bs (Tk.hd 6))]
theorem run_index_ord (i : Nat) (hi : i < 7) (w : World) : (Instr.index 41 ordV (.int .i64 (i : Int))).run Tryd.prog w = .ok (.string (Pn.bs (Tk.hd i))) w := by
  have : i = 0 ∨ i = 1 ∨ i = 2 ∨ i = 3 ∨ i = 4 ∨ i = 5 ∨ i = 6 := by omega
  rcases this with rfl | rfl | rfl | rfl | rfl | rfl | rfl <;> simp [Instr.index, run_underlying Tryd.underlying41, asIntOf, go_sem]
/-- the words so far -/
def wordsQ (t : Tk.Tkr) (i : Nat) : List ByteArray := t.n :: t.f :: ((List.range i).filterMap (Tk.wordT t)).map Pn.bs
theorem wordsQ_none {t : Tk.Tkr} {i : Nat} (h : Tk.valT t i = none) : wordsQ t (i + 1) = wordsQ t i := by
  unfold wordsQ
  rw [List.range_succ, List.filterMap_append]
  have : [i].filterMap (Tk.wordT t) = [] := by simp [Tk.wordT, h]
  rw [this, List.append_nil]
theorem wordsQ_some {t : Tk.Tkr} {i : Nat} {v : List UInt8} (h : Tk.valT t i = some v) : wordsQ t (i + 1) = wordsQ t i ++ [Pn.bs (Tk.hd i) ++ Pn.bs v] := by
  unfold wordsQ
  rw [List.range_succ, List.filterMap_append]
  have : [i].filterMap (Tk.wordT t) = [Tk.hd i ++ v] := by simp [Tk.wordT, h]
  rw [this, List.map_append, Pn.bs_app, Pn.list_bs]
  rfl
theorem wordsQ_len (t : Tk.Tkr) (i : Nat) : (wordsQ t i).length ≤ 2 + i := by
  unfold wordsQ
  simp only [List.length_cons, List.length_map]
  have := List.length_filterMap_le (Tk.wordT t) (List.range i)
  rw [List.length_range] at this
  omega
theorem wordsQ_data (t : Tk.Tkr) : (wordsQ t 7).map (·.data.toList) = Tk.textL t := by
  unfold wordsQ Tk.textL
  simp only [List.map_cons, List.map_map]
  have e : List.range 7 = Tk.seven := rfl
  rw [e]
  congr 2
  conv => rhs; rw [← List.map_id (Tk.seven.filterMap (Tk.wordT t))]
  apply List.map_congr_left
  intro x _
  exact Pn.list_bs x
/-- what Print answers -/
def tprintV (t : Tk.Tkr) : Value := if Tk.takE t ≠ 0 then .tuple #[.string ⟨#[]⟩, .int .i64 (Tk.takE t)] else .tuple #[.string (Tk.takT t), .int .i64 0]
abbrev TG (w : World) : Prop := OrdIs w ∧ TabP w
theorem TG.next {w w' : World} (h : TG w) (hb : Below w.heap.size w w') : TG w' := ⟨h.1.next hb, tabP_next h.2 hb⟩

set_option maxRecDepth 100000 in
set_option maxHeartbeats 4000000 in
theorem tprint_any (t : Tk.Tkr) (a : Option Addr) (c : Nat) (w : World) (hs : SmallQ t) (hsl : Dk.SlI w a t.bo) (hG : TG w) :
    Calls Tryd.prog 8 #[tkV t a c] w fun e w' => e = .returned (tprintV t) ∧ Below w.heap.size w w' := by
  have b0 : Below w.heap.size w (w.alloc (tkO t a c)) := (Below.refl _ _).alloc (Nat.le_refl _) _
  have PC := hide (tcheck_any t a c (w.alloc (tkO t a c)) hs (nums_on hsl b0))
  have HW := hide (fun (W : World) (hW : Below (w.alloc (tkO t a c)).heap.size (w.alloc (tkO t a c)) W) => show TB W w.heap.size t a c ∧ Dk.SlI W a t.bo ∧ TG W ∧ Below w.heap.size w W from ⟨(TB.new w t a c).next hW, nums_on (nums_on hsl b0) hW, (hG.next b0).next hW, bstep b0 hW⟩)
  obtain ⟨_, c0, c1, c2, c3, c4, c5, c6, c7, c8, c9⟩ := TB.new w t a c
  obtain ⟨E, hE⟩ : ∃ E, Tk.takE t = E := ⟨_, rfl⟩
  rw [hE] at PC
  have HE := hide hE
  have HP : Hid (tprintV t = if E ≠ 0 then .tuple #[.string ⟨#[]⟩, .int .i64 E] else .tuple #[.string (Tk.takT t), .int .i64 0]) := hide (by unfold tprintV; rw [hE])
  obtain ⟨b, hb⟩ : ∃ b, b = w.heap.size := ⟨_, rfl⟩
  obtain ⟨W, hW⟩ : ∃ W, W = w.alloc (tkO t a c) := ⟨_, rfl⟩
  clear b0 hs hsl hG hE
  go_enter Tryd.func8, Tryd.ntmps8
  go_wp2_with fail
  rw [← hW] at PC HW
  rw [← hb] at HW
  rw [← hb, ← hW]
  refine (unhide PC).mono ?_
  rintro e w1 ⟨rfl, b1⟩
  obtain ⟨tb, hs1, hg1, be⟩ := unhide HW w1 b1
  have B1 := hide b1
  have HBq := hide hb
  have BE : Hid (Below w.heap.size w w1) := hide (by rw [hb] at be; exact be)
  clear PC b1 be hW hb c0 c1 c2 c3 c4 c5 c6 c7 c8 c9
  obtain ⟨hbl, c0, c1, c2, c3, c4, c5, c6, c7, c8, c9⟩ := tb
  by_cases hE0 : E = 0
  · have HR := hide (show tprintV t = .tuple #[.string (Tk.takT t), .int .i64 0] from by rw [unhide HP, if_neg (by rw [hE0]; simp)])
    have HOk := hide ((unhide HE).trans hE0)
    have X0 : Hid (Txts (w1.alloc (.cells #[.string t.n, .string t.f] 9)) w1.heap.size (.slice (some ⟨w1.heap.size, 0, none⟩) 2 2) (wordsQ t 0) ∧ Below w1.heap.size w1 (w1.alloc (.cells #[.string t.n, .string t.f] 9))) := hide ⟨Txts.lit w1 t.n t.f, (Below.refl _ _).alloc (Nat.le_refl _) _⟩
    obtain ⟨ho1, ho2⟩ := hg1.1.next (unhide X0).2
    have o0 := ho2 0 (by omega)
    have o1 := ho2 1 (by omega)
    have o2 := ho2 2 (by omega)
    have o3 := ho2 3 (by omega)
    have o4 := ho2 4 (by omega)
    have o5 := ho2 5 (by omega)
    have o6 := ho2 6 (by omega)
    have hb1 : b < w1.heap.size := hbl
    subst hE0
    clear HP HE hs1 hg1 ho2
    go_wp2_with fail
    clear o0 o1 o2 o3 o4 o5 o6 ho1 c0 c1 c2 c3 c4 c5 c6 c7 c8 c9
    obtain ⟨B, hB⟩ : ∃ B, B = w1.heap.size := ⟨_, rfl⟩
    generalize hW4 : w1.alloc (.cells #[.string t.n, .string t.f] 9) = W4 at X0 ⊢
    clear hW4
    rw [← hB] at X0 hb1 ⊢
    have hBle : B ≤ w1.heap.size := by omega
    have HQ := hide (fun (W' : World) (h : Below B w1 W') => unhide HW W' (bstep (unhide B1) (by rw [← hB]; exact h)))
    clear hB HW B1
    go_loopw [5, 21] (fun wv iv wr => ∃ (i : Nat), iv = .int .i64 i ∧ i ≤ 7 ∧ Hid (Txts wr B wv (wordsQ t i) ∧ Below B w1 wr)) (fun _ iv _ => 7 - (intOf iv).toNat)
    case atStart => exact ⟨0, rfl, Nat.zero_le _, X0⟩
    case round =>
      clear X0
      obtain ⟨i, rfl, hi, X⟩ := hrel
      by_cases hlt : i < 7
      · have hix := run_index_ord i hlt
        obtain ⟨tb, hs1, hg1, _⟩ := unhide HQ wr (unhide X).2
        have PV := hide (val_of i hlt (a := a) (c := c) (unhide HOk) hs1 hg1.2)
        obtain ⟨hbl2, c0, c1, c2, c3, c4, c5, c6, c7, c8, c9⟩ := tb
        have hhz : (Pn.bs (Tk.hd i)).size ≤ 8 := by rw [Pn.bs_size]; exact (Tk.hd_bytes i).1
        obtain ⟨HDi, hHDi⟩ : ∃ x, Pn.bs (Tk.hd i) = x := ⟨_, rfl⟩
        rw [hHDi] at hix PV hhz
        have HHD := hide hHDi
        clear hHDi hs1 hg1
        go_wp2_with fail
        refine (unhide PV).mono ?_
        rintro e w2 ⟨⟨s, rfl, hv, hsz⟩, b2⟩
        have X2 := hide (show Txts w2 B u5 (wordsQ t i) ∧ Below B w1 w2 from ⟨(unhide X).1.below b2, (unhide X).2.trans (b2.mono (Nat.le_trans hBle (unhide X).2.size))⟩)
        clear PV b2 X c0 c1 c2 c3 c4 c5 c6 c7 c8 c9 hbl2 hix
        cases hval : Tk.valT t i with
        | none =>
          have X3 : Hid (Txts w2 B u5 (wordsQ t (i + 1)) ∧ Below B w1 w2) := hide (by rw [wordsQ_none hval]; exact unhide X2)
          clear hv X2 hval
          go_wp2_with fail
          refine ⟨⟨i + 1, by go_num, by omega, X3⟩, ?_⟩
          simp [intOf]; omega
        | some v =>
          have hs : s = Pn.bs v := hv v hval
          have hlen := wordsQ_len t i
          have hBw : B ≤ w2.heap.size := Nat.le_trans hBle (unhide X2).2.size
          obtain ⟨v8, w8, hrun, t8, b8⟩ := txt_more (unhide X2).1 (unhide X2).2 (HDi ++ s) (by omega) hBw
          have HRun := hide hrun
          have X8 := hide (show Txts w8 B v8 (wordsQ t (i + 1)) ∧ Below B w1 w8 from ⟨by rw [wordsQ_some hval, unhide HHD, ← hs]; exact t8, b8⟩)
          have hcat : HDi.size + s.size ≤ 9223372036854775807 := by omega
          clear hv X2 hval hs hlen hBw hrun t8 b8
          go_wp2_with (at_builtin; refine Lib.wpList_append_run _ rfl _ _ _ _ rfl _ _ rfl rfl _ _ (unhide HRun) ?_)
          refine ⟨⟨i + 1, by go_num, by omega, X8⟩, ?_⟩
          simp [intOf]; omega
      · obtain rfl : i = 7 := by omega
        have hne : 0 < (wordsQ t 7).length := by unfold wordsQ; simp
        have hwl := wordsQ_len t 7
        obtain ⟨g, cap, rfl, hcap, hsw⟩ := (unhide X).1.sl hne
        have hsz := (Tk.text_ok (unhide HOk)).2
        have hgl : (Pn.glue 32 (Tk.textL t)).length = (Tk.takT t).size := by
          show _ = ((Pn.glue 32 (Tk.textL t)).toArray).size
          simp
        have PJ := hide (join_at 32 g 0 cap (wordsQ t 7) wr hsw hne hcap (by omega) (by rw [wordsQ_data]; omega))
        rw [wordsQ_data] at PJ
        have HR3 : Hid (tprintV t = .tuple #[.string (Pn.bs (Pn.glue 32 (Tk.textL t))), .int .i64 0]) := hide (unhide HR)
        have BW : Hid (Below w.heap.size w wr) := hide (by have := (unhide HQ wr (unhide X).2).2.2.2; rw [unhide HBq] at this; exact this)
        generalize Pn.bs (Pn.glue 32 (Tk.textL t)) = OUT at PJ HR3
        generalize (wordsQ t 7).length = LEN at PJ ⊢
        clear HR X hsw hcap hwl hne hsz hgl
        go_wp2_with fail
        refine (unhide PJ).mono ?_
        rintro e w9 ⟨rfl, b9⟩
        have B9 := hide (bstep (unhide BW) b9)
        clear PJ b9
        go_wp2_with fail
        go_ret2
        rw [unhide HR3]
        exact ⟨rfl, unhide B9⟩
  · have HR := hide (show tprintV t = .tuple #[.string ⟨#[]⟩, .int .i64 E] from by rw [unhide HP, if_pos hE0])
    have e5 : (E != 0) = true := by simpa using hE0
    clear HP HE hE0 HW
    go_wp2_with fail
    go_ret2
    rw [unhide HR]
    exact ⟨rfl, unhide BE⟩
end Go.Proofs.YtcbfmjjodfnacaaDoor
