/-
  The program's store: the first record of a row that a filter takes (firstTaken).
  The program's store: Last, Next.
  The program's store does what is asked of a store.
-/
import Derived.Test.YtohjipnkoiifhagGreatDoorWalkXF
import Derived.Test.YtohjipnkoiifhagGreatDoorJointWalkX2WalkX4WalkX5WalkX7WalkX8WalkX9aWalkXSWalkX9
import Derived.Test.YtohjipnkoiifhagGreatDoorJointRowXWalkX1WalkX3WalkX6aWalkX6
import Derived.Test.YtohjipnkoiifhagGreatDoorJointOvRWorksSPapRaPapRbPapRfPapRcRowPvWorksROsPPapRdRowPtRowPu
import Derived.Test.YtohjipnkoiifhagGreatDoorJointWorksTaWorksTPapRgOsMOsR
namespace Go.Proofs.YtohjipnkoiifhagGreatDoor.Dk
open Go.RowKit Go.Shelf
attribute [local go_sem] Oper.semAt_some

/-- the three boxes of the function: the filter, the record and the error that it hands back -/
structure Bx (p : Nat) (W : World) (f : ByteArray) (r : Rc) (e : Int) : Prop where
  cf : W.cell? ⟨p, 0, none⟩ = some (.string f)
  rr : RB W (p + 1) r.k r.q r.t r.s r.h r.d
  ce : W.cell? ⟨p + 1 + 1, 0, none⟩ = some (.int .i64 e)
  fe : W.frozen? ⟨p + 1 + 1, 0, none⟩ = false
  lt : p + 1 + 1 < W.heap.size
theorem Bx.chg {A : Nat → Prop} {p : Nat} {W W' : World} {f : ByteArray} {r : Rc} {e : Int} (h : Bx p W f r e) (hc : Chg A W W') (hn : ∀ k, k ≤ p + 1 + 1 → ¬ A k) : Bx p W' f r e := by
  have hl := h.lt
  have n0 : ¬ A p := hn p (by omega)
  have n1 : ¬ A (p + 1) := hn (p + 1) (by omega)
  have n2 : ¬ A (p + 1 + 1) := hn (p + 1 + 1) (by omega)
  have l0 : p < W.heap.size := by omega
  refine ⟨?_, rb_chg h.rr hc n1, ?_, ?_, Nat.lt_of_lt_of_le h.lt hc.size⟩
  · rw [hc.cell (p := ⟨p, 0, none⟩) l0 n0]; exact h.cf
  · rw [hc.cell (p := ⟨p + 1 + 1, 0, none⟩) hl n2]; exact h.ce
  · rw [hc.frozen (p := ⟨p + 1 + 1, 0, none⟩) hl n2]; exact h.fe
theorem Bx.below {p : Nat} {W W' : World} {f : ByteArray} {r : Rc} {e : Int} (h : Bx p W f r e) (hb : Below W.heap.size W W') : Bx p W' f r e := h.chg (A := fun _ => False) (Chg.of_below hb) (fun _ _ z => z)
/-- the world behind the stores of a record and an error -/
def putW (p : Nat) (W : World) (y : Rc) (e : Int) : World := ((((((W.setCell ⟨p + 1, 0, none⟩ (.int .i64 y.k)).setCell ⟨p + 1, 1, none⟩ (.int .i64 y.q)).setCell ⟨p + 1, 2, none⟩ (.int .i64 y.t)).setCell ⟨p + 1, 3, none⟩ (.string y.s)).setCell ⟨p + 1, 4, none⟩ (.string y.h)).setCell ⟨p + 1, 5, none⟩ (.string y.d)).setCell ⟨p + 1 + 1, 0, none⟩ (.int .i64 e)
theorem putW_chg (p : Nat) (W : World) (y : Rc) (e : Int) : Chg (fun k => k = p + 1 ∨ k = p + 1 + 1) W (putW p W y e) := by
  unfold putW
  exact ((((((((Chg.refl _ W).setCell (p := ⟨p + 1, 0, none⟩) (.inl (.inl rfl)) _).setCell (p := ⟨p + 1, 1, none⟩) (.inl (.inl rfl)) _).setCell (p := ⟨p + 1, 2, none⟩) (.inl (.inl rfl)) _).setCell (p := ⟨p + 1, 3, none⟩) (.inl (.inl rfl)) _).setCell (p := ⟨p + 1, 4, none⟩) (.inl (.inl rfl)) _).setCell (p := ⟨p + 1, 5, none⟩) (.inl (.inl rfl)) _).setCell (p := ⟨p + 1 + 1, 0, none⟩) (.inl (.inr rfl)) _)
theorem putW_below {w W : World} (h : Below w.heap.size w W) (y : Rc) (e : Int) : Below w.heap.size w (putW w.heap.size W y e) :=
  h.trans ((putW_chg w.heap.size W y e).below h.size (fun k hk z => by omega))
theorem Bx.put {p : Nat} {W : World} {f : ByteArray} {r : Rc} {e : Int} (h : Bx p W f r e) (y : Rc) (e' : Int) : Bx p (putW p W y e') f y e' := by
  have hl := h.lt
  have hc := putW_chg p W y e'
  refine ⟨?_, ?_, ?_, ?_, Nat.lt_of_lt_of_le h.lt hc.size⟩
  · have l0 : p < W.heap.size := by omega
    have n0 : ¬ (p = p + 1 ∨ p = p + 1 + 1) := by omega
    rw [hc.cell (p := ⟨p, 0, none⟩) l0 n0]; exact h.cf
  · exact (h.rr.setAll y.k y.q y.t y.s y.h y.d).other (c := p + 1 + 1) (i := 0) (v := .int .i64 e') (by omega)
  · unfold putW
    refine World.cell?_setCell_same' _ _ _ ?_
    iterate 6 rw [World.cell?_setCell_other _ _ _ _ (by simp)]
    rw [h.ce]; rfl
  · unfold putW
    iterate 7 rw [World.frozen?_setCell]
    exact h.fe
theorem Bx.new (w : World) (f : ByteArray) (T : TypeId) (T2 : TypeId) : Bx w.heap.size (((w.alloc (.cells #[.string f] T)).alloc (.cells #[.int .i64 0, .int .i64 0, .int .i64 0, .string ⟨#[]⟩, .string ⟨#[]⟩, .string ⟨#[]⟩] 30)).alloc (.cells #[.int .i64 0] T2)) f zeroR 0 := by
  have r1 := RB.new (w.alloc (.cells #[.string f] T)) 0 0 0 ⟨#[]⟩ ⟨#[]⟩ ⟨#[]⟩ 30
  rw [World.size_alloc] at r1
  have hs : ((w.alloc (.cells #[.string f] T)).alloc (.cells #[.int .i64 0, .int .i64 0, .int .i64 0, .string ⟨#[]⟩, .string ⟨#[]⟩, .string ⟨#[]⟩] 30)).heap.size = w.heap.size + 1 + 1 := by simp
  have hn := heap_alloc_new ((w.alloc (.cells #[.string f] T)).alloc (.cells #[.int .i64 0, .int .i64 0, .int .i64 0, .string ⟨#[]⟩, .string ⟨#[]⟩, .string ⟨#[]⟩] 30)) (.cells #[.int .i64 0] T2)
  rw [hs] at hn
  refine ⟨?_, r1.alloc _, ?_, ?_, by simp⟩
  · rw [World.cell?_alloc_lt _ _ _ (by simp <;> omega), World.cell?_alloc_lt _ _ _ (by simp <;> omega), cell_of_row _ w.heap.size 0 _ _ _ (heap_alloc_new w _)]
    rfl
  · rw [cell_of_row _ _ 0 _ _ _ hn]
    rfl
  · exact frozen_of_row _ _ 0 _ _ hn
theorem results_box {fn : Func} {a u : Tmp} {tmps : Array Value} {w : World} {b c : Nat} {k q t e : Int} {s h d : ByteArray} (hf : fn.results = #[.cell a 30, .cell u 24]) (ha : tmps.getD a undef = .pointer (some ⟨b, 0, none⟩)) (hu : tmps.getD u undef = .pointer (some ⟨c, 0, none⟩)) (r : RB w b k q t s h d) (hc : w.cell? ⟨c, 0, none⟩ = some (.int .i64 e)) :
    (results fn tmps).run Tryz.prog w = .ok (.tuple #[.agg #[.int .i64 k, .int .i64 q, .int .i64 t, .string s, .string h, .string d], .int .i64 e]) w := by
  have ha' : tmps[a]?.getD undef = .pointer (some ⟨b, 0, none⟩) := by simpa using ha
  have hu' : tmps[u]?.getD undef = .pointer (some ⟨c, 0, none⟩) := by simpa using hu
  have hl : (loadVar 24 ⟨c, 0, none⟩).run Tryz.prog w = .ok (.int .i64 e) w := by
    simp [loadVar, isAgg, hc]
  simp [results, hf, ha', hu', asAddr, load_rec r, hl]
theorem find_none {f : ByteArray} {zs : List Rc} {ys : List (Int × Sm)} (h : ys.map (fun x => x.2.1) = zs) (hn : ∀ x ∈ ys, matchB f x.2.1.s = false) : zs.find? (fun r => matchB f r.s) = none := by
  rw [List.find?_eq_none, ← h]
  intro r hr
  obtain ⟨x, hx, rfl⟩ := List.mem_map.1 hr
  simp [hn x hx]
theorem find_here {f : ByteArray} {zs : List Rc} {pre : List (Int × Sm)} {x : Int × Sm} (h : Front zs (pre ++ [x])) (hn : ∀ y ∈ pre, matchB f y.2.1.s = false) (hx : matchB f x.2.1.s = true) : zs.find? (fun r => matchB f r.s) = some x.2.1 := by
  obtain ⟨t, rfl⟩ := h
  rw [List.map_append, List.append_assoc, List.find?_append, find_none (f := f) (ys := pre) rfl hn]
  simp [hx]

set_option maxRecDepth 100000 in
set_option maxHeartbeats 2000000 in
theorem ftake_any (f : ByteArray) (hf : f.size ≤ 140737488355328) (zs : List Rc) (gf : Nat) (lb : Array Value) (Cs : Nat → Prop) (w : World) (hC : ∀ k, Cs k → k < w.heap.size)
    (eg : ∀ args w, (callFunc gf args).run Tryz.prog w = .ok (.enter gf args) w)
    (hseq : ∀ W0, Below w.heap.size w W0 → SeqStopsK Fence.wide 7 Tryz.prog gf lb encR (StayX Cs) (fun ys => ys.map (fun x => x.2.1) = zs) (Front zs) zs.length W0) :
    Calls Tryz.prog 133 #[.string f, .func (.func gf) #[] lb] w fun e w' => e = .returned (seekV f (zs.find? fun r => matchB f r.s)) ∧ Below w.heap.size w w' := by
  refine (callsIn_wide (n := 8)).1 ?_
  obtain ⟨W, hW⟩ : ∃ W, W = ((w.alloc (.cells #[.string f] 9)).alloc (.cells #[.int .i64 0, .int .i64 0, .int .i64 0, .string ⟨#[]⟩, .string ⟨#[]⟩, .string ⟨#[]⟩] 30)).alloc (.cells #[.int .i64 0] 24) := ⟨_, rfl⟩
  have hb0 : Below w.heap.size w W := by rw [hW]; exact (((Below.refl _ _).alloc (Nat.le_refl _) _).alloc (by simp) _).alloc (by simp; omega) _
  have X0 : Bx w.heap.size W f zeroR 0 := by rw [hW]; exact Bx.new w f _ _
  have HF := hide (filter_any f W hf)
  have HQ := hide hseq
  have Hb0 := hide hb0
  have HX0 := hide X0
  have HCs := hide hC
  have HEg := hide eg
  clear hseq hb0 X0 hC eg
  refine callsIn_of_wp_marks Tryz.func133 rfl trivial ?_ rfl
  simp only [Tryz.ntmps133, List.size_toArray, List.length_cons, List.length_nil, Nat.reduceAdd, Nat.reduceSub, Array.replicate_succ, Array.replicate_zero, List.push_toArray, List.append_toArray, List.nil_append, List.cons_append]
  have hfF : Fence.wide.fn 72 := trivial
  gi_wp2_with fail
  rw [← hW]
  clear hW
  by_cases he : errS true f = 0
  · refine (callsIn_wide.2 (unhide HF)).mono ?_
    rintro e w1 ⟨rfl, b1⟩
    rw [he]
    have HE := hide he
    have HB1 := hide (bstep (unhide Hb0) b1)
    have HX1 := hide ((unhide HX0).below b1)
    clear he HF HX0 Hb0 b1
    gi_wp2_with fail
    have hlt1 := (unhide HX1).lt
    have hI : OwnFrom w1.heap.size (fun (pre : List (Int × Sm)) X => Bx w.heap.size X f zeroR 0 ∧ Below w.heap.size w X ∧ w1.heap.size ≤ X.heap.size ∧ ∀ x ∈ pre, matchB f x.2.1.s = false) := fun s X Y row hs hg hr =>
      ⟨hs.1.chg (Chg.of_grown hg) (fun k hk z => by have := (hr k z).1; omega), hs.2.1.trans ((Chg.of_grown hg).below hs.2.1.size (fun k hk z => by have := (hr k z).1; omega)), Nat.le_trans hs.2.2.1 hg.size, hs.2.2.2⟩
    have hIx : ∀ c : Code, OwnFrom w1.heap.size (fun (pre : List (Int × Sm)) X => c = .ret ∧ ∃ pre0 x, pre = pre0 ++ [x] ∧ (∀ y ∈ pre0, matchB f y.2.1.s = false) ∧ matchB f x.2.1.s = true ∧ Bx w.heap.size X f x.2.1 0 ∧ Below w.heap.size w X) := fun c s X Y row hs hg hr => by
      obtain ⟨h1, pre0, x, h2, h3, h4, h5, h6⟩ := hs
      exact ⟨h1, pre0, x, h2, h3, h4, h5.chg (Chg.of_grown hg) (fun k hk z => by have := (hr k z).1; omega), h6.trans ((Chg.of_grown hg).below h6.size (fun k hk z => by have := (hr k z).1; omega))⟩
    have hAx : ∀ (x : Int × Sm) (a' : Act), OwnFrom w1.heap.size (fun (_ : Unit) X => ∃ b, w1.heap.size ≤ b ∧ X.heap[b]? = some (.cells #[.int .i64 x.2.1.k, .int .i64 x.2.1.q, .int .i64 x.2.1.t, .string x.2.1.s, .string x.2.1.h, .string x.2.1.d] 30 (0, 0)) ∧ a' = { tmps := #[.string f, .func (.func gf) #[] lb, .pointer (some ⟨w.heap.size, 0, none⟩), undef, .pointer (some ⟨w.heap.size + 1, 0, none⟩), .pointer (some ⟨w.heap.size + 1 + 1, 0, none⟩), .int .i64 0, undef, .pointer (some ⟨b, 0, none⟩), .string f, .int .i64 0, .int .i64 0, .bool false, undef, undef, .func (.func gf) #[] lb, .int .i64 x.1, .agg #[.int .i64 x.2.1.k, .int .i64 x.2.1.q, .int .i64 x.2.1.t, .string x.2.1.s, .string x.2.1.h, .string x.2.1.d], undef, undef, undef, undef, undef, undef], defers := [] }) := fun x a' s X Y row hs hg hr => by
      obtain ⟨b, h1, h2, h3⟩ := hs
      have hbl := (Array.getElem?_eq_some_iff.1 h2).1
      refine ⟨b, h1, (hg.block b hbl (fun e => ?_)).trans h2, h3⟩
      obtain ⟨_, o, ho, hc⟩ := hr b e.symm
      rw [h2] at ho
      cases ho
      cases hc
    refine wpIn_rangeFunc_ownH rfl (by omega) (gf := gf) (lb := lb) (by rfl) trivial (unhide HEg) (unhide HQ w1 (unhide HB1)) (fun h k => h.trans k)
      (fun X l o o' hl h _ _ => StayX.put (w := w1) (fun k hk => Nat.lt_of_lt_of_le (unhide HCs k hk) (unhide HB1).size) X l o o' hl h) (Below.refl _ _) (fun _ => rfl)
      _ _ hI hIx ⟨unhide HX1, unhide HB1, Nat.le_refl _, fun x hx => by cases hx⟩ _ hAx ?assign ?body ?done ?stop
    case assign =>
      intro l pre x X K hi hK
      unfold encR
      gi_wp2
      have ha : Below X.heap.size X (X.alloc (.cells #[.int .i64 x.2.1.k, .int .i64 x.2.1.q, .int .i64 x.2.1.t, .string x.2.1.s, .string x.2.1.h, .string x.2.1.d] 30)) := (Below.refl _ _).alloc (Nat.le_refl _) _
      have hCl : ∀ k, Cs k → k < X.heap.size := fun k hk => by have := unhide HCs k hk; have := hi.2.1.size; omega
      exact hK _ _ ⟨ha.size, fun k o _ hk _ => (ha.block k (Array.getElem?_eq_some_iff.1 hk).1).trans hk⟩ ⟨ha.size, fun k hk => ha.block k (hCl k hk)⟩ ⟨hi.1.below ha, bstep hi.2.1 ha, Nat.le_trans hi.2.2.1 ha.size, hi.2.2.2⟩ ⟨X.heap.size, hi.2.2.1, heap_alloc_new X _, rfl⟩
    case body =>
      rintro l pre x a' X hl hr hi ⟨b, hb1, hb2, rfl⟩ hN
      have hbl := (Array.getElem?_eq_some_iff.1 hb2).1
      have Y : RB X b x.2.1.k x.2.1.q x.2.1.t x.2.1.s x.2.1.h x.2.1.d := ⟨hbl, by rw [cell_of_row X b 0 _ _ _ hb2]; rfl, by rw [cell_of_row X b 1 _ _ _ hb2]; rfl, by rw [cell_of_row X b 2 _ _ _ hb2]; rfl, by rw [cell_of_row X b 3 _ _ _ hb2]; rfl, by rw [cell_of_row X b 4 _ _ _ hb2]; rfl, by rw [cell_of_row X b 5 _ _ _ hb2]; rfl, fun j => frozen_of_row X b j _ _ hb2⟩
      have HY := hide Y
      have HI := hide hi
      have hCl : ∀ k, Cs k → k < X.heap.size := fun k hk => by have := unhide HCs k hk; have := hi.2.1.size; omega
      have HCl := hide hCl
      have cf := hi.1.cf
      have PT := hide (takes_any f x.2.1 hf x.2.2.s X)
      obtain ⟨_, y0, y1, y2, y3, y4, y5, _⟩ := Y
      have hft : Fence.wide.fn 96 := trivial
      have hfc : Fence.wide.fn 29 := trivial
      clear hi hCl hb2
      cases hm : matchB f x.2.1.s with
      | false =>
        have Hm := hide hm
        rw [hm] at PT
        clear hm
        gi_wp2_with (gi_at_call 96; refine (CallsIn.inRound l (callsIn_wide.2 (unhide PT))).mono ?_; rintro e w2 ⟨rfl, b2⟩)
        refine ⟨⟨b2.size, fun k o _ hk _ => (b2.block k (Array.getElem?_eq_some_iff.1 hk).1).trans hk⟩, ⟨b2.size, fun k hk => b2.block k (unhide HCl k hk)⟩, (unhide HI).1.below b2, bstep (unhide HI).2.1 b2, Nat.le_trans (unhide HI).2.2.1 b2.size, fun z hz => ?_⟩
        rcases List.mem_append.1 hz with q | q
        · exact (unhide HI).2.2.2 z q
        · rw [List.mem_singleton.1 q]; exact unhide Hm
      | true =>
        have Hm := hide hm
        rw [hm] at PT
        clear hm
        have PC : Hid (∀ X2, Calls Tryz.prog 29 #[.agg #[.int .i64 x.2.1.k, .int .i64 x.2.1.q, .int .i64 x.2.1.t, .string x.2.1.s, .string x.2.1.h, .string x.2.1.d]] X2 fun e w' => e = .returned (.agg #[.int .i64 x.2.1.k, .int .i64 x.2.1.q, .int .i64 x.2.1.t, .string x.2.1.s, .string x.2.1.h, .string x.2.1.d]) ∧ Below X2.heap.size X2 w') := hide (fun X2 => copyR_any x.2.1 x.2.2 X2)
        gi_wp2_with (first
          | (gi_at_call 96; refine (CallsIn.inRound l (callsIn_wide.2 (unhide PT))).mono ?_; rintro e w2 ⟨rfl, b2⟩; obtain ⟨_, z0, z1, z2, z3, z4, z5, _⟩ := (unhide HY).next b2; have HX2 := hide ((unhide HI).1.below b2))
          | (gi_at_call 29; refine (CallsIn.inRound l (callsIn_wide.2 (unhide PC _))).mono ?_; rintro e w3 ⟨rfl, b3⟩; have HX3 := hide ((unhide HX2).below b3); obtain ⟨_, ⟨_, v0, v1, v2, v3, v4, v5, gz⟩, xe, fe, _⟩ := unhide HX3; have g0 := gz 0; have g1 := gz 1; have g2 := gz 2; have g3 := gz 3; have g4 := gz 4; have g5 := gz 5; clear gz))
        have h23 := bstep b2 b3
        have hcp := putW_chg w.heap.size w3 x.2.1 0
        refine ⟨⟨Nat.le_trans h23.size hcp.size, fun k o hkB hk _ => ?_⟩, rfl, pre, x, rfl, (unhide HI).2.2.2, unhide Hm, (unhide HX3).put x.2.1 0, putW_below (bstep (unhide HI).2.1 h23) x.2.1 0⟩
        have hkl := (Array.getElem?_eq_some_iff.1 hk).1
        exact (hcp.block k (Nat.lt_of_lt_of_le hkl h23.size) (by omega)).trans ((h23.block k hkl).trans hk)
    case done =>
      rintro D ys X hD hS ⟨hx, hb, hs, hn⟩ hK
      have HR : Hid (seekV f (zs.find? fun r => matchB f r.s) = .tuple #[rcV zeroR, .int .i64 4]) := hide (by unfold seekV; rw [if_pos (unhide HE), find_none hS hn]; rfl)
      have hDl := (Array.getElem?_eq_some_iff.1 hK).1
      have HX := hide hx
      obtain ⟨_, ⟨_, v0, v1, v2, v3, v4, v5, gz⟩, xe, fe, _⟩ := unhide HX
      have g0 := gz 0
      have g1 := gz 1
      have g2 := gz 2
      have g3 := gz 3
      have g4 := gz 4
      have g5 := gz 5
      have hcp := putW_chg w.heap.size X zeroR 4
      have HK2 := hide ((hcp.block D hDl (by omega)).trans hK)
      have HG := hide (Chg.of_grown (grownBy_putObj' (putW w.heap.size X zeroR 4) D (.deferred none)))
      have HX4 := hide ((hx.put zeroR 4).chg (unhide HG) (fun k hk z => by have := Option.some.inj z; omega))
      have HB4 := hide ((putW_below hb zeroR 4).trans ((unhide HG).below (Nat.le_trans hb.size hcp.size) (fun k hk z => by have := Option.some.inj z; omega)))
      clear gz hcp hS hn hx hb hK
      gi_wp2
      refine ⟨by simp, .inl ⟨_, _, rfl, run_takeDeferred (unhide HK2), ?_⟩⟩
      exact ⟨_, results_box rfl rfl rfl (unhide HX4).rr (unhide HX4).ce, by rw [unhide HR]; rfl, unhide HB4⟩
    case stop =>
      rintro D c pre X hD hS ⟨rfl, pre0, x, rfl, h3, h4, h5, h6⟩ hK
      have HR : Hid (seekV f (zs.find? fun r => matchB f r.s) = .tuple #[rcV x.2.1, .int .i64 0]) := hide (by unfold seekV; rw [if_pos (unhide HE), find_here hS h3 h4]; rfl)
      have HG := hide (Chg.of_grown (grownBy_putObj' X D (.deferred none)))
      have HX4 := hide (h5.chg (unhide HG) (fun k hk z => by have := Option.some.inj z; omega))
      have HB4 := hide (h6.trans ((unhide HG).below h6.size (fun k hk z => by have := Option.some.inj z; have := (unhide HB1).size; omega)))
      clear hS h3 h4 h5 h6
      gi_wp2
      refine ⟨by simp, .inl ⟨_, _, rfl, run_takeDeferred hK, ?_⟩⟩
      exact ⟨_, results_box rfl rfl rfl (unhide HX4).rr (unhide HX4).ce, by rw [unhide HR]; rfl, unhide HB4⟩
  · refine (callsIn_wide.2 (unhide HF)).mono ?_
    rintro e w1 ⟨rfl, b1⟩
    obtain ⟨E, hE⟩ : ∃ E, E = errS true f := ⟨_, rfl⟩
    have HR : Hid (seekV f (zs.find? fun r => matchB f r.s) = .tuple #[rcV zeroR, .int .i64 E]) := hide (by unfold seekV; rw [if_neg he, hE])
    rw [← hE] at he ⊢
    have HB1 := hide (bstep (unhide Hb0) b1)
    have HX1 := hide ((unhide HX0).below b1)
    obtain ⟨_, ⟨_, x0, x1, x2, x3, x4, x5, gz⟩, xe, fe, _⟩ := unhide HX1
    have g0 := gz 0
    have g1 := gz 1
    have g2 := gz 2
    have g3 := gz 3
    have g4 := gz 4
    have g5 := gz 5
    clear gz HF HX0 Hb0 b1 hE
    gi_wp2_with fail
    have X2 := (unhide HX1).put zeroR E
    exact ⟨_, results_box rfl rfl rfl X2.rr X2.ce, by rw [unhide HR]; rfl, putW_below (unhide HB1) zeroR E⟩
end Go.Proofs.YtohjipnkoiifhagGreatDoor.Dk

namespace Go.Proofs.YtohjipnkoiifhagGreatDoor.Dk
open Go.RowKit Go.Shelf

theorem find_tk {f : ByteArray} (hf : errS true f = 0) {zs : List Rc} (hz : ∀ x ∈ zs, errS false x.s = 0) : zs.find? (fun r => matchB f r.s) = zs.find? (fun r => tkB f r.s) :=
  find_same (fun x hx => by unfold matchB tkB; rw [hf, hz x hx]; simp)
theorem last_back (f : ByteArray) (l : List Rc) : lastO f l = l.reverse.find? fun r => tkB f r.s := by
  unfold lastO takenL
  rw [List.getLast?_eq_head?_reverse, ← List.filter_reverse, List.head?_filter]
theorem seek_same {f : ByteArray} {zs : List Rc} {o : Option Rc} (hz : ∀ x ∈ zs, errS false x.s = 0) (h : o = zs.find? fun r => tkB f r.s) : seekV f (zs.find? fun r => matchB f r.s) = seekV f o := by
  unfold seekV
  by_cases e : errS true f = 0
  · rw [if_pos e, if_pos e, find_tk e hz, h]
  · rw [if_neg e, if_neg e]

set_option maxHeartbeats 400000 in
theorem allR_call (a : Option Addr) (len cap : Nat) (w : World) :
    Calls Tryz.prog 134 #[.slice a len cap] w fun e w' => e = .returned (.func (.func 156) #[] #[.pointer (some ⟨w.heap.size, 0, none⟩)]) ∧ w' = w.alloc (.cells #[.slice a len cap] 22) := by
  go_enter Tryz.func134, Tryz.ntmps134
  go_wp2
  go_ret
  exact ⟨rfl, rfl⟩

/-- firstTaken over the records of a slice, in their order -/
theorem ftake_all (f : ByteArray) (hf : f.size ≤ 140737488355328) (a : Option Addr) (zs : List Rc) (cap : Nat) (w : World) (hc : SlR w a zs) (ha : ∀ z, a = some z → z.block < w.heap.size) (hz : ∀ x ∈ zs, Small x) (hlen : zs.length ≤ 1000) :
    Calls Tryz.prog 133 #[.string f, .func (.func 156) #[] #[.pointer (some ⟨w.heap.size, 0, none⟩)]] (w.alloc (.cells #[.slice a zs.length cap] 22)) fun e w' => e = .returned (seekV f (zs.find? fun r => matchB f r.s)) ∧ Below w.heap.size w w' := by
  have hb : Below w.heap.size w (w.alloc (.cells #[.slice a zs.length cap] 22)) := (Below.refl _ _).alloc (Nat.le_refl _) _
  have hC : ∀ k, (k = w.heap.size ∨ ∃ z, a = some z ∧ z.block = k) → k < (w.alloc (.cells #[.slice a zs.length cap] 22)).heap.size := fun k hk => by
    rw [World.size_alloc]
    rcases hk with rfl | ⟨z, e, rfl⟩
    · omega
    · have := ha z e; omega
  have hcell : (w.alloc (.cells #[.slice a zs.length cap] 22)).cell? ⟨w.heap.size, 0, none⟩ = some (.slice a zs.length cap) := by
    rw [cell_of_row _ w.heap.size 0 _ _ _ (heap_alloc_new w _)]; rfl
  refine (ftake_any f hf zs _ _ (fun k => k = w.heap.size ∨ ∃ z, a = some z ∧ z.block = k) _ hC (enters_of Tryz.func156 (by kernel_rfl) rfl) (fun W0 h0 => ?_)).mono ?_
  · have hs := below_stay h0 hC
    exact allR_stops Fence.wide 7 trivial rfl (by omega) w.heap.size (fun k => k = w.heap.size ∨ ∃ z, a = some z ∧ z.block = k) a zs cap (fun k hk => hz _ (rc_mem hk)) hlen (.inl rfl) (fun z e => .inr ⟨z, e, rfl⟩) W0 (fun k hk => Nat.lt_of_lt_of_le (hC k hk) h0.size) ((hs.cell (.inl rfl)).trans hcell) (hs.recs (hc.below hb) (fun z e => .inr ⟨z, e, rfl⟩))
  · rintro e w' ⟨he, h2⟩
    exact ⟨he, bstep hb h2⟩
theorem ArrR.blk {w : World} {B : Nat} {a : Option Addr} {n c : Nat} {l : List Rc} (h : ArrR w B (.slice a n c) l) : ∀ z, a = some z → z.block < w.heap.size := fun z e => by
  rcases h.2 with ⟨h1, _⟩ | ⟨g, cap, cur, h1, h2, h3, _⟩
  · obtain ⟨rfl, _, _⟩ := Value.slice.inj h1
    cases e
  · obtain ⟨rfl, _, _⟩ := Value.slice.inj h1
    cases e
    exact (Array.getElem?_eq_some_iff.1 h3).1

theorem seekV_shape (f : ByteArray) (o : Option Rc) : ∃ (y : Rc) (E : Int), seekV f o = .tuple #[.agg #[.int .i64 y.k, .int .i64 y.q, .int .i64 y.t, .string y.s, .string y.h, .string y.d], .int .i64 E] := by
  unfold seekV
  by_cases e : errS true f = 0
  · rw [if_pos e]
    cases o with
    | none => exact ⟨zeroR, 4, rfl⟩
    | some r => exact ⟨r, 0, rfl⟩
  · rw [if_neg e]
    exact ⟨zeroR, _, rfl⟩

theorem rc_drop (l : List Rc) (p k : Nat) : rc (l.drop p) k = rc l (p + k) := by unfold rc; rw [List.getElem?_drop]
set_option maxRecDepth 100000 in
set_option maxHeartbeats 1000000 in
theorem snext_any {w : World} {B q : Nat} {v u : Value} {l : List Rc} {es : List Ent} {last : Int} (f : ByteArray) (n : Int) (hf : f.size ≤ 140737488355328) (h : Sho w B q v u l es last) (hi : RiseQ l) (h200 : l.length ≤ 200) (hm : ∀ x ∈ l, Small x) (hr : ∀ x ∈ l, errS false x.s = 0) :
    Calls Tryz.prog 105 #[.pointer (some ⟨q, 0, none⟩), .string f, .int .i64 n] w fun e w' => e = .returned (seekV f (nextO f l n)) ∧ Below w.heap.size w w' := by
  obtain ⟨w0, hw0⟩ : ∃ w0, w0 = w.alloc (.cells #[.int .i64 0, .int .i64 0, .int .i64 0, .string ⟨#[]⟩, .string ⟨#[]⟩, .string ⟨#[]⟩] 30) := ⟨_, rfl⟩
  have hb0 : Below w.heap.size w w0 := by rw [hw0]; exact (Below.refl _ _).alloc (Nat.le_refl _) _
  have h0 := h.below hb0
  have Z0 : RF w0 w.heap.size zeroR := by rw [hw0]; exact RF.new w zeroR
  have PP := hide (splace_any n h0 hi h200)
  have HR := hide (seek_same (f := f) (zs := l.drop (pq l n)) (o := nextO f l n) (fun x hx => hr x (List.mem_of_mem_drop hx)) (nextO_drop hi f n))
  obtain ⟨y, E, hy⟩ := seekV_shape f (nextO f l n)
  have hpl := pq_le l n
  obtain ⟨p, hp⟩ : ∃ p, p = pq l n := ⟨_, rfl⟩
  rw [← hp] at PP HR hpl
  rw [hy] at HR ⊢
  have HZ := hide Z0
  have Hb0 := hide hb0
  have H0 := hide h0
  have HM := hide hm
  clear h0 hr hy hb0 Z0 hi hp hm
  by_cases hlt : p < l.length
  · obtain ⟨g, cap, rfl, c1, c2, c3, c4⟩ := h.msgs.there (by omega)
    unfold maxLen at c2
    have e1 : (p : Int) ≤ (l.length : Int) := by omega
    have e2 : ¬ cap = p := by omega
    have e3 : (0 : Int) ≤ (p : Int) := by omega
    clear h
    go_enter Tryz.func105, Tryz.ntmps105
    go_wp2_with fail
    rw [← hw0]
    refine (unhide PP).mono ?_
    rintro e w1 ⟨rfl, b1⟩
    have h1 := (unhide H0).below b1
    have d0 := h1.c0
    have hsl : SlR w1 (some ⟨g, p * 6, none⟩) (l.drop p) := fun k hk => by
      rw [List.length_drop] at hk
      have s6 := h1.msgs.six (k := p + k) (by omega)
      refine ⟨g, p * 6, rfl, ?_⟩
      rw [rc_drop, show p * 6 + k * 6 = (p + k) * 6 by omega]
      exact s6
    have P := hide (ftake_all f hf (some ⟨g, p * 6, none⟩) (l.drop p) (cap - p) w1 hsl (fun z e => by cases e; exact (h1.msgs.lt g rfl).2) (fun x hx => unhide HM x (List.mem_of_mem_drop hx)) (by rw [List.length_drop]; omega))
    rw [unhide HR, List.length_drop] at P
    have Z1 := hide ((unhide HZ).next b1)
    have B1 := hide (bstep (unhide Hb0) b1)
    clear hw0 b1 PP H0 HZ Hb0 h1 hsl HR HM
    go_wp2_with fail
    refine (allR_call _ _ _ _).mono ?_
    rintro e w2 ⟨rfl, rfl⟩
    go_wp2_with fail
    refine (unhide P).mono ?_
    rintro e w2 ⟨rfl, b2⟩
    have Z2 := hide ((unhide Z1).next b2)
    have B2 := hide (bstep (unhide B1) b2)
    obtain ⟨_, y0, y1, y2, y3, y4, y5, gz⟩ := (unhide Z2).rb
    have g0 := gz 0
    have g1 := gz 1
    have g2 := gz 2
    have g3 := gz 3
    have g4 := gz 4
    have g5 := gz 5
    clear gz b2 P Z1 B1 d0
    go_wp2_with fail
    refine bodyPost_ret (results_rec2 rfl rfl ((unhide Z2).rb.setAll y.k y.q y.t y.s y.h y.d)) rfl ?_
    exact ⟨rfl, set6_below (unhide B2) (Nat.le_refl _)⟩
  · have hpe : p = l.length := by omega
    have hde : l.drop p = [] := List.drop_of_length_le (by omega)
    subst hpe
    obtain ⟨a, cap, rfl, c1, c2, _⟩ := h.msgs.shape
    unfold maxLen at c2
    have hbk := h.msgs.blk
    have P : Hid (∀ a' c' w1, (∀ z, a' = some z → z.block < w1.heap.size) → Calls Tryz.prog 133 #[.string f, .func (.func 156) #[] #[.pointer (some ⟨w1.heap.size, 0, none⟩)]] (w1.alloc (.cells #[.slice a' 0 c'] 22)) fun e w' => e = .returned (.tuple #[.agg #[.int .i64 y.k, .int .i64 y.q, .int .i64 y.t, .string y.s, .string y.h, .string y.d], .int .i64 E]) ∧ Below w1.heap.size w1 w') := hide (fun a' c' w1 hz => by
      have := ftake_all f hf a' [] c' w1 (fun k hk => by cases hk) hz (fun x hx => by cases hx) (by simp)
      rw [← hde, unhide HR] at this
      rw [hde] at this
      exact this)
    clear h hlt
    go_enter Tryz.func105, Tryz.ntmps105
    go_wp2_with fail
    rw [← hw0]
    refine (unhide PP).mono ?_
    rintro e w1 ⟨rfl, b1⟩
    have d0 := ((unhide H0).below b1).c0
    have Z1 := hide ((unhide HZ).next b1)
    have B1 := hide (bstep (unhide Hb0) b1)
    have HK : Hid (∀ z, a = some z → z.block < w1.heap.size) := hide (fun z e => Nat.lt_of_lt_of_le (hbk z e) (unhide B1).size)
    have HK2 : Hid (∀ z, Option.map (fun x : Addr => x.add (l.length * 6)) a = some z → z.block < w1.heap.size) := hide (fun z e => by
      cases a with
      | none => cases e
      | some x =>
        have e : x.add (l.length * 6) = z := by simpa using e
        rw [← e]
        have : (x.add (l.length * 6)).block = x.block := by unfold Addr.add; split <;> rfl
        rw [this]
        exact unhide HK x rfl)
    clear hw0 b1 PP H0 HZ Hb0 HR HM hbk
    go_wp2_with fail
    all_goals
      refine (allR_call _ _ _ _).mono ?_
      rintro e w2 ⟨rfl, rfl⟩
      go_wp2_with fail
      refine (unhide P _ _ _ (by first | exact unhide HK | exact unhide HK2)).mono ?_
      rintro e w2 ⟨rfl, b2⟩
      have Z2 := hide ((unhide Z1).next b2)
      have B2 := hide (bstep (unhide B1) b2)
      obtain ⟨_, y0, y1, y2, y3, y4, y5, gz⟩ := (unhide Z2).rb
      have g0 := gz 0
      have g1 := gz 1
      have g2 := gz 2
      have g3 := gz 3
      have g4 := gz 4
      have g5 := gz 5
      clear gz b2 P Z1 B1 d0
      go_wp2_with fail
      refine bodyPost_ret (results_rec2 rfl rfl ((unhide Z2).rb.setAll y.k y.q y.t y.s y.h y.d)) rfl ?_
      exact ⟨rfl, set6_below (unhide B2) (Nat.le_refl _)⟩
end Go.Proofs.YtohjipnkoiifhagGreatDoor.Dk

namespace Go.Proofs.YtohjipnkoiifhagGreatDoor.Dk
open Go.RowKit

theorem Sto.Ok.smalls {s : Sto} (h : s.Ok) : ∀ x ∈ s.l, Small x := fun x hx => Small.of (h.msg x hx).2
theorem Sto.Ok.rights {s : Sto} (h : s.Ok) : ∀ x ∈ s.l, errS false x.s = 0 := fun x hx => right_msg (h.msg x hx).2 (h.msg x hx).1
theorem sworks : SWorks SHas where
  own := fun h => h.own
  chg := fun h hc hn => h.chg hc hn
  new := fun w => (snew_any w).mono (by
    rintro e w' ⟨rfl, h, hb⟩
    exact ⟨_, _, rfl, ⟨_, _, [], h, Cnt.nil, rfl⟩, hb⟩)
  apply := fun r hm h hk hB => by
    obtain ⟨v, u, es, h1, h2, rfl⟩ := h
    refine (sapply_any r hm h1 h2 hk hB).mono ?_
    rintro e w' ⟨he, es', m, c⟩
    exact ⟨he, SHas.did m c⟩
  all := fun h hk hB => by
    obtain ⟨v, u, es, h1, h2, rfl⟩ := h
    exact sall_any h1 hk.few hk.smalls
  sums := fun h hk hB => by
    obtain ⟨v, u, es, h1, h2, rfl⟩ := h
    exact ssum_any h1 hk.few (fun x hx => hk.small hx)
  next := fun f n hf h hk hB => by
    obtain ⟨v, u, es, h1, h2, rfl⟩ := h
    exact snext_any f n hf h1 hk.rise hk.few hk.smalls hk.rights
theorem stells : STells SHas where
  subjects := by
    intro w B q F s f es hf h hk hB hc
    obtain ⟨v, u, es', h1, h2, rfl⟩ := h
    rw [hc.same h2]
    exact ssub_any f hf h1 h2.good
end Go.Proofs.YtohjipnkoiifhagGreatDoor.Dk
