/-
  Contracts of the landed package plan: overlap, checkFilters.
  A text out of bytes; a place in a block. No walk.
  A plan that is handed back: its ten cells are read as one value; ten cells that are written. No walk.
  Contracts of the landed package plan: numbers, Check. Its table of words and bounds.
  A text that is cut at a byte, as it grows at the end. No program.
-/
import Derived.Test.YtmccpkpeimejhagGreatDoorJointPapPcPapPeWalkY1Walk5aWalk5
import Derived.Test.YtmccpkpeimejhagGreatDoorJointBase0RowTmPlainPapPaWalk1
import Derived.Test.YtmccpkpeimejhagGreatDoorJointPapPbPapPnPapDRowPlRowPs
import Derived.Laws.Rows
import Derived.Deep.RegionHeldLaw
namespace Go.Proofs.YtmccpkpeimejhagGreatDoor
open Go.RowKit

/-- texts that are looked at -/
def Fst (w wr : World) (a : Option Addr) (l : List ByteArray) : Prop := SlS wr a l ∧ Below w.heap.size w wr
theorem Fst.next {w wr w' : World} {a : Option Addr} {l : List ByteArray} (h : Fst w wr a l) (hb : Below wr.heap.size wr w') : Fst w w' a l := ⟨h.1.next hb, bstep h.2 hb⟩
/-- no overlap up to the i-th -/
def Apart (l : List ByteArray) (i : Nat) : Prop := ∀ i', i' < i → ∀ j, j < i' → meetL (Pl.toks (tk l i')) (Pl.toks (tk l j)) = false
theorem apart_end {l : List ByteArray} (h : Apart l l.length) : Pn.laps l = false := by
  rw [Bool.eq_false_iff]
  intro q
  obtain ⟨i, j, h1, h2, h3⟩ := (Pn.laps_iff l).1 q
  rw [h i h2 j h1] at h3
  cases h3
theorem overlap_meet {f g : ByteArray} (hf : errS true f = 0) (hg : errS true g = 0) : overlapB f g = meetL (Pl.toks f) (Pl.toks g) := by
  unfold overlapB
  rw [hf, hg]
  rfl
set_option maxRecDepth 100000 in
set_option maxHeartbeats 4000000 in
theorem laps_any (a : Option Addr) (l : List ByteArray) (c : Nat) (w : World) (hsl : SlS w a l) (hz : ∀ k, k < l.length → (tk l k).size ≤ 140737488355328) (hok : ∀ k, k < l.length → errS true (tk l k) = 0) (hl : l.length ≤ 4) (hc : l.length ≤ c) :
    Calls Tryz.prog 100 #[.slice a l.length c] w fun e w' => e = .returned (.bool (Pn.laps l)) ∧ Below w.heap.size w w' := by
  have HZ := hide hz
  have HOk := hide hok
  have HS : Hid (Fst w w a l) := hide ⟨hsl, Below.refl _ _⟩
  clear hz hok hsl
  go_enter Tryz.func100, Tryz.ntmps100
  go_wp2_with fail
  go_loopw [11] (fun iv wr => ∃ (i : Nat), iv = .int .i64 i ∧ i ≤ l.length ∧ Hid (Apart l i) ∧ Hid (Fst w wr a l)) (fun iv _ => l.length - (intOf iv).toNat)
  case atStart => exact ⟨0, rfl, Nat.zero_le _, hide (fun i' h => by omega), HS⟩
  case round =>
    clear HS
    obtain ⟨i, rfl, hi, HA, HS⟩ := hrel
    by_cases hlt : i < l.length
    · obtain ⟨ba, o, rfl, _, e1⟩ := (unhide HS).1 i hlt
      go_wp2_with fail
      clear e1
      go_loopw [20] (fun kv wr => ∃ (k : Nat), kv = .int .i64 k ∧ k ≤ i ∧ Hid (∀ j, j < k → meetL (Pl.toks (tk l i)) (Pl.toks (tk l j)) = false) ∧ Hid (Fst w wr (some ⟨ba, o, none⟩) l)) (fun kv _ => i - (intOf kv).toNat)
      case atStart => exact ⟨0, rfl, Nat.zero_le _, hide (fun j h => by omega), HS⟩
      case round =>
        clear HS
        obtain ⟨k, rfl, hk, HK, HS⟩ := hrel
        by_cases hki : k < i
        · obtain ⟨ba', o', eq, _, e1⟩ := (unhide HS).1 k (by omega)
          cases eq
          have hf := unhide HOk i hlt
          have hg := unhide HOk k (by omega)
          obtain ⟨M, hM⟩ : ∃ M, meetL (Pl.toks (tk l i)) (Pl.toks (tk l k)) = M := ⟨_, rfl⟩
          have PO := hide (overlap_at (f := tk l i) (s := tk l k) (a := M) (x := 0) (by rw [overlap_meet hf hg]; exact hM) (by rw [hf, hg]; rfl) (unhide HZ i hlt) (unhide HZ k (by omega)) wr)
          have HM := hide hM
          have HN := hide (fun (w' : World) (h : Below wr.heap.size wr w') => (unhide HS).next h)
          clear hf hg hM
          cases M with
          | true =>
            have HR : Hid (Pn.laps l = true) := hide ((Pn.laps_iff l).2 ⟨i, k, hki, hlt, unhide HM⟩)
            go_wp2_with (go_at_call 129; refine (unhide PO).mono ?_; rintro e w4 ⟨rfl, b4⟩; have Q4 := unhide HN w4 b4)
            go_ret
            rw [unhide HR]
            exact ⟨rfl, Q4.2⟩
          | false =>
            have HK2 : Hid (∀ j, j < k + 1 → meetL (Pl.toks (tk l i)) (Pl.toks (tk l j)) = false) := hide (fun j hj => by
              by_cases e : j = k
              · rw [e]; exact unhide HM
              · exact unhide HK j (by omega))
            clear HM HK
            go_wp2_with (go_at_call 129; refine (unhide PO).mono ?_; rintro e w4 ⟨rfl, b4⟩; have Q4 := hide (unhide HN w4 b4); clear b4)
            refine ⟨⟨k + 1, by go_num, by omega, HK2, Q4⟩, ?_⟩
            simp [intOf]; omega
        · obtain rfl : k = i := by omega
          have HA2 : Hid (Apart l (k + 1)) := hide (fun i' hi' j hj => by
            by_cases e : i' = k
            · subst e; exact unhide HK j hj
            · exact unhide HA i' (by omega) j hj)
          clear HA HK
          go_wp2_with fail
          refine ⟨⟨k + 1, by go_num, by omega, HA2, HS⟩, ?_⟩
          simp [intOf]; omega
    · obtain rfl : i = l.length := by omega
      have HR := hide (apart_end (unhide HA))
      go_wp2_with fail
      go_ret
      rw [unhide HR]
      exact ⟨rfl, (unhide HS).2⟩
set_option maxRecDepth 100000 in
set_option maxHeartbeats 4000000 in
theorem filters_any (a : Option Addr) (l : List ByteArray) (c : Nat) (w : World) (hsl : SlS w a l) (hz : ∀ k, k < l.length → (tk l k).size ≤ 140737488355328) (hl : l.length ≤ 140737488355328) (hc : l.length ≤ c) :
    Calls Tryz.prog 60 #[.slice a l.length c] w fun e w' => e = .returned (.int .i64 (Pn.filtersE l)) ∧ Below w.heap.size w w' := by
  have HZ := hide hz
  have HS : Hid (Fst w w a l) := hide ⟨hsl, Below.refl _ _⟩
  clear hz hsl
  by_cases h4 : 4 < l.length
  · have HR : Hid (Pn.filtersE l = 2) := hide (by unfold Pn.filtersE; rw [if_pos h4])
    have g4 : decide ((4 : Int) < (l.length : Int)) = true := decide_eq_true (by omega)
    go_enter Tryz.func60, Tryz.ntmps60
    go_wp2_with fail
    go_ret
    rw [unhide HR]
    exact ⟨rfl, (unhide HS).2⟩
  have g4 : decide ((4 : Int) < (l.length : Int)) = false := decide_eq_false (by omega)
  by_cases h0 : l.length = 0
  · have HR : Hid (Pn.filtersE l = 1) := hide (by unfold Pn.filtersE; rw [if_neg h4, if_pos h0])
    have g0 : ((l.length : Int) == 0) = true := by rw [beq_iff_eq]; omega
    go_enter Tryz.func60, Tryz.ntmps60
    go_wp2_with fail
    go_ret
    rw [unhide HR]
    exact ⟨rfl, (unhide HS).2⟩
  have g0 : ((l.length : Int) == 0) = false := by rw [beq_eq_false_iff_ne]; omega
  have HE : Hid (Pn.filtersE l = if Pn.filtE l ≠ 0 then Pn.filtE l else if Pn.laps l = true then 10 else 0) := hide (by unfold Pn.filtersE; rw [if_neg h4, if_neg h0])
  go_enter Tryz.func60, Tryz.ntmps60
  go_wp2_with fail
  go_loopw [14] (fun iv wr => ∃ (i : Nat), iv = .int .i64 i ∧ i ≤ l.length ∧ Hid (Pn.filtE l = Pn.filtE (l.drop i) ∧ ∀ k, k < i → errS true (tk l k) = 0) ∧ Hid (Fst w wr a l)) (fun iv _ => l.length - (intOf iv).toNat)
  case atStart => exact ⟨0, rfl, Nat.zero_le _, hide ⟨rfl, fun k hk => by omega⟩, HS⟩
  case round =>
    clear HS
    obtain ⟨i, rfl, hi, HF, HS⟩ := hrel
    by_cases hlt : i < l.length
    · obtain ⟨ba, o, rfl, _, e1⟩ := (unhide HS).1 i hlt
      obtain ⟨E, hE⟩ : ∃ E, errS true (tk l i) = E := ⟨_, rfl⟩
      have PF := hide (filter_at hE wr (unhide HZ i hlt))
      have HEE := hide hE
      have HN := hide (fun (w' : World) (h : Below wr.heap.size wr w') => (unhide HS).next h)
      clear hE
      by_cases hE0 : E = 0
      · have HF2 : Hid (Pn.filtE l = Pn.filtE (l.drop (i + 1)) ∧ ∀ k, k < i + 1 → errS true (tk l k) = 0) := hide ⟨by rw [(unhide HF).1, Pn.filtE_drop hlt, if_pos (by rw [unhide HEE]; exact hE0)], fun k hk => by
          by_cases e : k = i
          · rw [e, unhide HEE]; exact hE0
          · exact (unhide HF).2 k (by omega)⟩
        subst hE0
        clear HF HEE
        go_wp2_with (go_at_call 72; refine (unhide PF).mono ?_; rintro e w4 ⟨rfl, b4⟩; have Q4 := hide (unhide HN w4 b4); clear b4)
        refine ⟨⟨i + 1, by go_num, by omega, HF2, Q4⟩, ?_⟩
        simp [intOf]; omega
      · have HR : Hid (Pn.filtersE l = E) := hide (by
          have e1 : Pn.filtE l = E := by rw [(unhide HF).1, Pn.filtE_drop hlt, if_neg (by rw [unhide HEE]; exact hE0), unhide HEE]
          rw [unhide HE, e1, if_pos hE0])
        have hE' : (E != 0) = true := by simpa using hE0
        clear HF HEE
        go_wp2_with (go_at_call 72; refine (unhide PF).mono ?_; rintro e w4 ⟨rfl, b4⟩; have Q4 := unhide HN w4 b4)
        go_ret
        rw [unhide HR]
        exact ⟨rfl, Q4.2⟩
    · obtain rfl : i = l.length := by omega
      have PL := hide (laps_any a l c wr (unhide HS).1 (unhide HZ) (unhide HF).2 (by omega) hc)
      have HE2 : Hid (Pn.filtersE l = if Pn.laps l = true then 10 else 0) := hide (by
        have e1 : Pn.filtE l = 0 := by rw [(unhide HF).1, List.drop_length]; rfl
        rw [unhide HE, e1, if_neg (show ¬ (0 : Int) ≠ 0 by decide)])
      have HN := hide (fun (w' : World) (h : Below wr.heap.size wr w') => (unhide HS).next h)
      clear HF HE hlt
      cases hP : Pn.laps l with
      | true =>
        rw [hP] at PL HE2
        clear hP
        go_wp2_with (go_at_call 100; refine (unhide PL).mono ?_; rintro e w4 ⟨rfl, b4⟩; have Q4 := unhide HN w4 b4)
        go_ret
        rw [unhide HE2]
        exact ⟨rfl, Q4.2⟩
      | false =>
        rw [hP] at PL HE2
        clear hP
        go_wp2_with (go_at_call 100; refine (unhide PL).mono ?_; rintro e w4 ⟨rfl, b4⟩; have Q4 := unhide HN w4 b4)
        go_ret
        rw [unhide HE2]
        exact ⟨rfl, Q4.2⟩
end Go.Proofs.YtmccpkpeimejhagGreatDoor

namespace Go.Proofs.YtmccpkpeimejhagGreatDoor
open Go.RowKit

/-- a text out of bytes -/
def bs (l : List UInt8) : ByteArray := ⟨l.toArray⟩
theorem bs_list (l : List UInt8) : (bs l).data.toList = l := by simp [bs]
theorem bs_size (l : List UInt8) : (bs l).size = l.length := by simp [bs, ByteArray.size]
theorem addp (b o i : Nat) : (⟨b, o, none⟩ : Addr).add i = ⟨b, o + i, none⟩ := by unfold Addr.add; split <;> simp_all
end Go.Proofs.YtmccpkpeimejhagGreatDoor

namespace Go.Proofs.YtmccpkpeimejhagGreatDoor
open Go.RowKit

theorem load_plan {w : World} {b : Nat} {n : ByteArray} {a : Option Addr} {l c : Nat} {x0 x1 x2 x3 x4 x5 x6 x7 : Int} (r : PB w b n a l c x0 x1 x2 x3 x4 x5 x6 x7) :
    (loadVar 43 ⟨b, 0, none⟩).run Tryz.prog w = .ok (.agg #[.string n, .slice a l c, .int .i64 x0, .int .i64 x1, .int .i64 x2, .int .i64 x3, .int .i64 x4, .int .i64 x5, .int .i64 x6, .int .i64 x7]) w := by
  have hl : (loadCells ⟨b, 0, none⟩ 10).run Tryz.prog w = .ok #[.string n, .slice a l c, .int .i64 x0, .int .i64 x1, .int .i64 x2, .int .i64 x3, .int .i64 x4, .int .i64 x5, .int .i64 x6, .int .i64 x7] w :=
    run_loadCells_list (P := Tryz.prog) w ⟨b, 0, none⟩ [.string n, .slice a l c, .int .i64 x0, .int .i64 x1, .int .i64 x2, .int .i64 x3, .int .i64 x4, .int .i64 x5, .int .i64 x6, .int .i64 x7] (fun j v hv => by
      rw [addp, Nat.zero_add]
      match j, hv with
      | 0, hv => rw [r.c0]; simpa using hv
      | 1, hv => rw [r.c1]; simpa using hv
      | 2, hv => rw [r.c2]; simpa using hv
      | 3, hv => rw [r.c3]; simpa using hv
      | 4, hv => rw [r.c4]; simpa using hv
      | 5, hv => rw [r.c5]; simpa using hv
      | 6, hv => rw [r.c6]; simpa using hv
      | 7, hv => rw [r.c7]; simpa using hv
      | 8, hv => rw [r.c8]; simpa using hv
      | 9, hv => rw [r.c9]; simpa using hv)
  have hz : Tryz.t43.size = 10 := by kernel_rfl
  simp [loadVar, isAgg, sizeOf]
  rw [hz, hl]
  rfl
theorem results_plan2 {fn : Func} {t u : Tmp} {tmps : Array Value} {w : World} {b : Nat} {n : ByteArray} {a : Option Addr} {l c : Nat} {x0 x1 x2 x3 x4 x5 x6 x7 : Int} (hf : fn.results = #[.cell t 43, .tmp u]) (ha : tmps.getD t undef = .pointer (some ⟨b, 0, none⟩)) (r : PB w b n a l c x0 x1 x2 x3 x4 x5 x6 x7) :
    (results fn tmps).run Tryz.prog w = .ok (.tuple #[.agg #[.string n, .slice a l c, .int .i64 x0, .int .i64 x1, .int .i64 x2, .int .i64 x3, .int .i64 x4, .int .i64 x5, .int .i64 x6, .int .i64 x7], tmps.getD u undef]) w := by
  have ha' : tmps[t]?.getD undef = .pointer (some ⟨b, 0, none⟩) := by simpa using ha
  simp [results, hf, ha', asAddr, load_plan r]
/-- cells of a block that are written one behind the other -/
def puts (W : World) (b : Nat) : Nat → List Value → World
  | _, [] => W
  | o, v :: vs => puts (W.setCell ⟨b, o, none⟩ v) b (o + 1) vs
theorem puts_cell (b : Nat) : ∀ (vs : List Value) (W : World) (o : Nat), (∀ j, j < vs.length → (W.cell? ⟨b, o + j, none⟩).isSome = true) → (∀ j, j < vs.length → (puts W b o vs).cell? ⟨b, o + j, none⟩ = vs[j]?) ∧ ∀ k, k < o → (puts W b o vs).cell? ⟨b, k, none⟩ = W.cell? ⟨b, k, none⟩
  | [], W, o, _ => ⟨fun j hj => by simp at hj, fun k _ => rfl⟩
  | v :: vs, W, o, h => by
    have h2 : ∀ j, j < vs.length → ((W.setCell ⟨b, o, none⟩ v).cell? ⟨b, o + 1 + j, none⟩).isSome = true := fun j hj => by
      rw [World.cell?_setCell_other _ _ _ _ (by intro e; injection e; omega)]
      have := h (j + 1) (by simpa using hj)
      rwa [show o + (j + 1) = o + 1 + j by omega] at this
    obtain ⟨r1, r2⟩ := puts_cell b vs (W.setCell ⟨b, o, none⟩ v) (o + 1) h2
    refine ⟨fun j hj => ?_, fun k hk => ?_⟩
    · cases j with
      | zero =>
        rw [Nat.add_zero]
        show (puts (W.setCell ⟨b, o, none⟩ v) b (o + 1) vs).cell? ⟨b, o, none⟩ = some v
        rw [r2 o (by omega)]
        exact World.cell?_setCell_same' _ _ _ (by have := h 0 (by simp); rwa [Nat.add_zero] at this)
      | succ j =>
        have := r1 j (by simpa using hj)
        rw [show o + (j + 1) = o + 1 + j by omega]
        exact this
    · show (puts (W.setCell ⟨b, o, none⟩ v) b (o + 1) vs).cell? ⟨b, k, none⟩ = _
      rw [r2 k (by omega), World.cell?_setCell_other _ _ _ _ (by intro e; injection e; omega)]
theorem puts_size (b : Nat) : ∀ (vs : List Value) (W : World) (o : Nat), (puts W b o vs).heap.size = W.heap.size
  | [], W, o => rfl
  | v :: vs, W, o => by
    show (puts (W.setCell ⟨b, o, none⟩ v) b (o + 1) vs).heap.size = _
    rw [puts_size b vs]; simp [World.setCell]
theorem puts_below {B b : Nat} (hB : B ≤ b) {w : World} : ∀ (vs : List Value) (W : World) (o : Nat), Below B w W → Below B w (puts W b o vs)
  | [], _, _, h => h
  | v :: vs, _, o, h => puts_below hB vs _ (o + 1) (h.setCell (p := ⟨b, o, none⟩) hB v)
theorem puts_other {b k j : Nat} (h : k ≠ b) : ∀ (vs : List Value) (W : World) (o : Nat), (puts W b o vs).cell? ⟨k, j, none⟩ = W.cell? ⟨k, j, none⟩
  | [], W, o => rfl
  | v :: vs, W, o => by
    show (puts (W.setCell ⟨b, o, none⟩ v) b (o + 1) vs).cell? ⟨k, j, none⟩ = _
    rw [puts_other h vs, World.cell?_setCell_other _ _ _ _ (by intro e; injection e; omega)]
/-- a plan is stored over another one -/
theorem PB.puts {W : World} {b : Nat} {n' : ByteArray} {a' : Option Addr} {l' c' : Nat} {z0 z1 z2 z3 z4 z5 z6 z7 : Int} (h : PB W b n' a' l' c' z0 z1 z2 z3 z4 z5 z6 z7) (n : ByteArray) (a : Option Addr) (l c : Nat) (x0 x1 x2 x3 x4 x5 x6 x7 : Int) : PB ((((((((((W.setCell ⟨b, 0, none⟩ (.string n)).setCell ⟨b, 1, none⟩ (.slice a l c)).setCell ⟨b, 2, none⟩ (.int .i64 x0)).setCell ⟨b, 3, none⟩ (.int .i64 x1)).setCell ⟨b, 4, none⟩ (.int .i64 x2)).setCell ⟨b, 5, none⟩ (.int .i64 x3)).setCell ⟨b, 6, none⟩ (.int .i64 x4)).setCell ⟨b, 7, none⟩ (.int .i64 x5)).setCell ⟨b, 8, none⟩ (.int .i64 x6)).setCell ⟨b, 9, none⟩ (.int .i64 x7)) b n a l c x0 x1 x2 x3 x4 x5 x6 x7 := by
  have key := (puts_cell b [.string n, .slice a l c, .int .i64 x0, .int .i64 x1, .int .i64 x2, .int .i64 x3, .int .i64 x4, .int .i64 x5, .int .i64 x6, .int .i64 x7] W 0 (fun j hj => by
    have : j < 10 := hj
    rw [Nat.zero_add]
    rcases j with _ | _ | _ | _ | _ | _ | _ | _ | _ | _ | j
    · rw [h.c0]; rfl
    · rw [h.c1]; rfl
    · rw [h.c2]; rfl
    · rw [h.c3]; rfl
    · rw [h.c4]; rfl
    · rw [h.c5]; rfl
    · rw [h.c6]; rfl
    · rw [h.c7]; rfl
    · rw [h.c8]; rfl
    · rw [h.c9]; rfl
    · omega)).1
  have hsz := puts_size b [.string n, .slice a l c, .int .i64 x0, .int .i64 x1, .int .i64 x2, .int .i64 x3, .int .i64 x4, .int .i64 x5, .int .i64 x6, .int .i64 x7] W 0
  refine ⟨Nat.lt_of_lt_of_eq h.lt hsz.symm, key 0 (by simp), key 1 (by simp), key 2 (by simp), key 3 (by simp), key 4 (by simp), key 5 (by simp), key 6 (by simp), key 7 (by simp), key 8 (by simp), key 9 (by simp)⟩
end Go.Proofs.YtmccpkpeimejhagGreatDoor

namespace Go.Proofs.YtmccpkpeimejhagGreatDoor
open Go.RowKit

/-- the pointers to a plan's numbers, as numbers hands them back -/
abbrev ptrs (b : Nat) : Value := .agg #[.pointer (some ⟨b, 2, none⟩), .pointer (some ⟨b, 3, none⟩), .pointer (some ⟨b, 4, none⟩), .pointer (some ⟨b, 5, none⟩), .pointer (some ⟨b, 6, none⟩), .pointer (some ⟨b, 7, none⟩), .pointer (some ⟨b, 8, none⟩), .pointer (some ⟨b, 9, none⟩)]
theorem load_ptrs {w : World} {g b : Nat} (r : ∀ i, i < 8 → w.cell? ⟨g, i, none⟩ = some (.pointer (some ⟨b, 2 + i, none⟩))) :
    (loadVar 115 ⟨g, 0, none⟩).run Tryz.prog w = .ok (ptrs b) w := by
  have hl : (loadCells ⟨g, 0, none⟩ 8).run Tryz.prog w = .ok #[.pointer (some ⟨b, 2, none⟩), .pointer (some ⟨b, 3, none⟩), .pointer (some ⟨b, 4, none⟩), .pointer (some ⟨b, 5, none⟩), .pointer (some ⟨b, 6, none⟩), .pointer (some ⟨b, 7, none⟩), .pointer (some ⟨b, 8, none⟩), .pointer (some ⟨b, 9, none⟩)] w :=
    run_loadCells_list (P := Tryz.prog) w ⟨g, 0, none⟩ [.pointer (some ⟨b, 2, none⟩), .pointer (some ⟨b, 3, none⟩), .pointer (some ⟨b, 4, none⟩), .pointer (some ⟨b, 5, none⟩), .pointer (some ⟨b, 6, none⟩), .pointer (some ⟨b, 7, none⟩), .pointer (some ⟨b, 8, none⟩), .pointer (some ⟨b, 9, none⟩)] (fun j v hv => by
      rw [addp, Nat.zero_add]
      match j, hv with
      | 0, hv => rw [r 0 (by omega)]; simpa using hv
      | 1, hv => rw [r 1 (by omega)]; simpa using hv
      | 2, hv => rw [r 2 (by omega)]; simpa using hv
      | 3, hv => rw [r 3 (by omega)]; simpa using hv
      | 4, hv => rw [r 4 (by omega)]; simpa using hv
      | 5, hv => rw [r 5 (by omega)]; simpa using hv
      | 6, hv => rw [r 6 (by omega)]; simpa using hv
      | 7, hv => rw [r 7 (by omega)]; simpa using hv)
  have hz : Tryz.t115.size = 8 := by kernel_rfl
  simp [loadVar, isAgg, sizeOf]
  rw [hz, hl]
  rfl
theorem results_ptrs {fn : Func} {t : Tmp} {tmps : Array Value} {w : World} {g b : Nat} (hf : fn.results = #[.cell t 115]) (ha : tmps.getD t undef = .pointer (some ⟨g, 0, none⟩)) (r : ∀ i, i < 8 → w.cell? ⟨g, i, none⟩ = some (.pointer (some ⟨b, 2 + i, none⟩))) :
    (results fn tmps).run Tryz.prog w = .ok (ptrs b) w := by
  have ha' : tmps[t]?.getD undef = .pointer (some ⟨g, 0, none⟩) := by simpa using ha
  simp [results, hf, ha', asAddr, load_ptrs r]
/-- the i-th pointer -/
theorem run_index_ptrs (b i : Nat) (hi : i < 8) (w : World) : (Instr.index 115 (ptrs b) (.int .i64 (i : Int))).run Tryz.prog w = .ok (.pointer (some ⟨b, 2 + i, none⟩)) w := by
  have : i = 0 ∨ i = 1 ∨ i = 2 ∨ i = 3 ∨ i = 4 ∨ i = 5 ∨ i = 6 ∨ i = 7 := by omega
  rcases this with rfl | rfl | rfl | rfl | rfl | rfl | rfl | rfl <;> simp [Instr.index, run_underlying Tryz.underlying115, asIntOf, go_sem]
theorem eight_ptrs (w : World) (b : Nat) (T : TypeId) : ∀ i, i < 8 → (w.alloc (.cells #[.pointer (some ⟨b, 2, none⟩), .pointer (some ⟨b, 3, none⟩), .pointer (some ⟨b, 4, none⟩), .pointer (some ⟨b, 5, none⟩), .pointer (some ⟨b, 6, none⟩), .pointer (some ⟨b, 7, none⟩), .pointer (some ⟨b, 8, none⟩), .pointer (some ⟨b, 9, none⟩)] T)).drew.cell? ⟨w.heap.size, i, none⟩ = some (.pointer (some ⟨b, 2 + i, none⟩)) := fun i hi => by
  have : i = 0 ∨ i = 1 ∨ i = 2 ∨ i = 3 ∨ i = 4 ∨ i = 5 ∨ i = 6 ∨ i = 7 := by omega
  rcases this with rfl | rfl | rfl | rfl | rfl | rfl | rfl | rfl <;> simp
set_option maxRecDepth 100000 in
set_option maxHeartbeats 1000000 in
theorem numbers_any (b : Nat) (w : World) :
    Calls Tryz.prog 61 #[.pointer (some ⟨b, 0, none⟩)] w fun e w' => e = .returned (ptrs b) ∧ Below w.heap.size w w' := by
  have HE := hide (eight_ptrs w b 115)
  go_enter Tryz.func61, Tryz.ntmps61
  go_wp2_with fail
  go_region_held_law (fun _ : World => True) (trivial) (fail)
  go_wp2_with fail
  refine bodyPost_ret (results_ptrs rfl rfl (unhide HE)) rfl ?_
  exact ⟨rfl, ((Below.refl _ _).alloc (Nat.le_refl _) _).drew⟩
end Go.Proofs.YtmccpkpeimejhagGreatDoor

namespace Go.Proofs.YtmccpkpeimejhagGreatDoor.Pn
open Go

theorem cut_length (b : UInt8) : ∀ l : List UInt8, (cut b l).length = l.count b + 1
  | [] => rfl
  | c :: r => by
    unfold cut
    by_cases h : c = b
    · rw [if_pos h, h]; simp [cut_length b r]
    · rw [if_neg h, List.length_modifyHead, cut_length b r, List.count_cons_of_ne h]
theorem cut_short (b : UInt8) : ∀ (l : List UInt8) (p : List UInt8), p ∈ cut b l → p.length ≤ l.length
  | [], p, h => by simp [cut] at h; subst h; simp
  | c :: r, p, h => by
    have ih := cut_short b r
    unfold cut at h
    by_cases e : c = b
    · rw [if_pos e] at h
      rcases List.mem_cons.1 h with h | h
      · subst h; simp
      · have := ih p h; simp; omega
    · rw [if_neg e] at h
      cases q : cut b r with
      | nil => rw [q] at h; simp at h
      | cons x y =>
        rw [q] at h ih
        simp only [List.modifyHead_cons, List.mem_cons] at h
        rcases h with h | h
        · subst h
          have := ih x (by simp)
          simp; omega
        · have := ih p (by simp [h])
          simp; omega
/-- the pieces grow at the end: a dot opens a new one -/
theorem cut_snoc_at (b : UInt8) : ∀ l : List UInt8, cut b (l ++ [b]) = cut b l ++ [[]]
  | [] => by simp [cut]
  | c :: r => by
    rw [List.cons_append]
    unfold cut
    by_cases e : c = b
    · rw [if_pos e, if_pos e, cut_snoc_at b r]; rfl
    · rw [if_neg e, if_neg e, cut_snoc_at b r]
      have := cut_ne b r
      cases q : cut b r with
      | nil => exact absurd q this
      | cons x y => rfl
/-- another byte joins the last one -/
theorem cut_snoc (b : UInt8) : ∀ (l : List UInt8) (c : UInt8), c ≠ b → ∀ (i : List (List UInt8)) (t : List UInt8), cut b l = i ++ [t] → cut b (l ++ [c]) = i ++ [t ++ [c]]
  | [], c, h, i, t, e => by
    simp only [cut] at e
    cases i with
    | nil => simp at e; subst e; simp [cut, h]
    | cons a bb => simp at e
  | d :: r, c, h, i, t, e => by
    rw [List.cons_append]
    unfold cut at e ⊢
    by_cases q : d = b
    · rw [if_pos q] at e ⊢
      cases i with
      | nil =>
        simp at e
        exact absurd e.2 (cut_ne b r)
      | cons a bb =>
        simp only [List.cons_append, List.cons.injEq] at e ⊢
        exact ⟨e.1, cut_snoc b r c h bb t e.2⟩
    · rw [if_neg q] at e ⊢
      have hr := cut_ne b r
      cases g : cut b r with
      | nil => exact absurd g hr
      | cons x y =>
        rw [g] at e
        simp only [List.modifyHead_cons] at e
        cases i with
        | nil =>
          simp only [List.nil_append, List.cons.injEq] at e
          obtain ⟨e1, e2⟩ := e
          subst e2
          rw [cut_snoc b r c h [] x (by rw [g]; rfl)]
          subst e1
          rfl
        | cons a bb =>
          simp only [List.cons_append, List.cons.injEq] at e
          obtain ⟨e1, e2⟩ := e
          rw [cut_snoc b r c h (x :: bb) t (by rw [g, e2]; rfl)]
          subst e1
          rfl
end Go.Proofs.YtmccpkpeimejhagGreatDoor.Pn
