/-
  Contract of the landed plan.readNumbers.
  Contract of the landed plan.readNumbers: the walk.
-/
import Derived.Test.YtohjipnkoiifhagDoorWalkY4
import Derived.Test.YtohjipnkoiifhagDoorPapPs
import Derived.Test.YtohjipnkoiifhagDoorPapPf
import Derived.Test.YtohjipnkoiifhagDoorJointRowPtRowPuRowPq
import Derived.Test.YtohjipnkoiifhagDoorJointWalkYpWalkYq
namespace Go.Proofs.YtohjipnkoiifhagDoor
open Go.RowKit

/-- a plan's block while its numbers are read -/
structure Nst (wr : World) (b : Nat) (n : ByteArray) (a : Option Addr) (l c : Nat) (v : List Int) : Prop where
  lt : b < wr.heap.size
  c0 : wr.cell? ⟨b, 0, none⟩ = some (.string n)
  c1 : wr.cell? ⟨b, 1, none⟩ = some (.slice a l c)
  num : ∀ i, i < 8 → wr.cell? ⟨b, 2 + i, none⟩ = some (.int .i64 (Dk.nth v i))
  fr : ∀ j, wr.frozen? ⟨b, j, none⟩ = false
theorem Nst.next {wr w' : World} {b : Nat} {n : ByteArray} {a : Option Addr} {l c : Nat} {v : List Int} (h : Nst wr b n a l c v) (hb : Below wr.heap.size wr w') : Nst w' b n a l c v where
  lt := Nat.lt_of_lt_of_le h.lt hb.size
  c0 := by rw [hb.cell (p := ⟨b, 0, none⟩) h.lt]; exact h.c0
  c1 := by rw [hb.cell (p := ⟨b, 1, none⟩) h.lt]; exact h.c1
  num := fun i hi => by rw [hb.cell (p := ⟨b, 2 + i, none⟩) h.lt]; exact h.num i hi
  fr := fun j => by rw [hb.frozen (p := ⟨b, j, none⟩) h.lt]; exact h.fr j
theorem Nst.put {wr : World} {b : Nat} {n : ByteArray} {a : Option Addr} {l c : Nat} {v : List Int} (h : Nst wr b n a l c v) (h8 : v.length = 8) {i : Nat} (hi : i < 8) (x : Int) : Nst (wr.setCell ⟨b, 2 + i, none⟩ (.int .i64 x)) b n a l c (v.set i x) where
  lt := by simpa [World.setCell] using h.lt
  c0 := by rw [World.cell?_setCell_other _ _ _ _ (by intro e; injection e; omega)]; exact h.c0
  c1 := by rw [World.cell?_setCell_other _ _ _ _ (by intro e; injection e; omega)]; exact h.c1
  num := fun j hj => by
    rw [Pn.nth_set (by omega)]
    by_cases e : i = j
    · rw [if_pos e, e]
      exact World.cell?_setCell_same _ _ _ (h.num j hj)
    · rw [if_neg e, World.cell?_setCell_other _ _ _ _ (by intro z; injection z; omega)]
      exact h.num j hj
  fr := fun j => by rw [World.frozen?_setCell]; exact h.fr j
theorem BndIs.far {W : World} {b i : Nat} {x : Value} (h : BndIs W) (hn : 0 ≠ b) : BndIs (W.setCell ⟨b, i, none⟩ x) := ⟨by simpa [World.setCell] using h.1, fun j hj => ⟨by rw [set_far hn]; exact (h.2 j hj).1, by rw [set_far hn]; exact (h.2 j hj).2⟩⟩
/-- all that readNumbers looks at -/
structure Nm (w wr : World) (b : Nat) (n : ByteArray) (a : Option Addr) (l c : Nat) (aw : Option Addr) (ws : List ByteArray) (v : List Int) : Prop where
  st : Nst wr b n a l c v
  row : SlS wr aw ws
  bnd : BndIs wr
  chg : Dk.Chg (fun k => k = b) w wr
  ne : ∀ z, aw = some z → z.block ≠ b
  neG : 0 ≠ b
theorem Nm.next {w wr w' : World} {b : Nat} {n : ByteArray} {a : Option Addr} {l c : Nat} {aw : Option Addr} {ws : List ByteArray} {v : List Int} (h : Nm w wr b n a l c aw ws v) (hb : Below wr.heap.size wr w') : Nm w w' b n a l c aw ws v := ⟨h.st.next hb, h.row.next hb, h.bnd.next hb, h.chg.trans (Dk.Chg.of_below hb), h.ne, h.neG⟩
theorem Nm.put {w wr : World} {b : Nat} {n : ByteArray} {a : Option Addr} {l c : Nat} {aw : Option Addr} {ws : List ByteArray} {v : List Int} (h : Nm w wr b n a l c aw ws v) (h8 : v.length = 8) {i : Nat} (hi : i < 8) (x : Int) : Nm w (wr.setCell ⟨b, 2 + i, none⟩ (.int .i64 x)) b n a l c aw ws (v.set i x) := ⟨h.st.put h8 hi x, h.row.far h.ne, h.bnd.far h.neG, h.chg.setCell (p := ⟨b, 2 + i, none⟩) (.inl rfl) _, h.ne, h.neG⟩
/-- the row without its first text -/
theorem Nm.tail {w wr : World} {b : Nat} {n : ByteArray} {a : Option Addr} {l c g o : Nat} {t : ByteArray} {ts : List ByteArray} {v : List Int} (h : Nm w wr b n a l c (some ⟨g, o, none⟩) (t :: ts) v) : Nm w wr b n a l c (some ⟨g, o + 1, none⟩) ts v := ⟨h.st, fun k hk => by
    obtain ⟨b', o', e, h2, h3⟩ := h.row (k + 1) (by simpa using hk)
    cases e
    exact ⟨g, o + 1, rfl, h2, by rw [show o + 1 + k = o + (k + 1) by omega]; exact h3⟩, h.bnd, h.chg, fun z hz => by cases hz; exact h.ne ⟨g, o, none⟩ rfl, h.neG⟩
theorem Nm.bare {w wr : World} {b : Nat} {n : ByteArray} {a : Option Addr} {l c : Nat} {aw : Option Addr} {ws : List ByteArray} {v : List Int} (h : Nm w wr b n a l c aw ws v) : Nm w wr b n a l c aw [] v := ⟨h.st, fun k hk => by simp at hk, h.bnd, h.chg, h.ne, h.neG⟩
/-- what readNumbers answers -/
def NumsIs (all : List (List UInt8)) (b : Nat) (n : ByteArray) (a : Option Addr) (l c : Nat) (w : World) (e : Ending) (w' : World) : Prop := ∃ (r : Bool) (v : List Int), e = .returned (.bool r) ∧ (r = true → Pn.rdN Pn.words8 all = some v) ∧ (r = false → Pn.rdN Pn.words8 all = none) ∧ v.length = 8 ∧ Nst w' b n a l c v ∧ Dk.Chg (fun k => k = b) w w'
end Go.Proofs.YtohjipnkoiifhagDoor

namespace Go.Proofs.YtohjipnkoiifhagDoor
open Go.RowKit

/-- a row without its first text, as a slice is cut -/
theorem Nm.rest {w wr : World} {b : Nat} {n : ByteArray} {a : Option Addr} {l c g o : Nat} {t : ByteArray} {ts : List ByteArray} {v : List Int} (h : Nm w wr b n a l c (some ⟨g, o, none⟩) (t :: ts) v) (cw : Nat) (hc : ts.length + 1 ≤ cw) : Nm w wr b n a l c (if cw = 1 then some ⟨g, o, none⟩ else some ⟨g, o + 1, none⟩) ts v := by
  by_cases e : cw = 1
  · rw [if_pos e]
    have : ts = [] := List.length_eq_zero_iff.1 (by omega)
    rw [this]
    exact h.bare
  · rw [if_neg e]
    exact h.tail
abbrev Wn (g o i : Nat) (t u : ByteArray) (w : World) : Prop := w.cell? ⟨g, o, none⟩ = some (.string t) ∧ w.cell? ⟨0, i * 2, none⟩ = some (.string u)
set_option maxRecDepth 100000 in
set_option maxHeartbeats 4000000 in
theorem readNumbers_any (aw : Option Addr) (ws : List ByteArray) (cw : Nat) (b : Nat) (n : ByteArray) (a : Option Addr) (l c : Nat) (w : World) (hm : Nm w w b n a l c aw ws [0, 0, 0, 0, 0, 0, 0, 0]) (hcw : ws.length ≤ cw) (hl : ws.length ≤ 100000) (hz : ∀ k, k < ws.length → (tk ws k).size ≤ 1024) :
    Calls Tryd.prog 35 #[.slice aw ws.length cw, .pointer (some ⟨b, 0, none⟩)] w fun e w' => NumsIs (ws.map (·.data.toList)) b n a l c w e w' := by
  have HZ := hide hz
  have PU := hide (numbers_any b w)
  have HM := hide hm
  obtain ⟨all, hall⟩ : ∃ all, ws.map (·.data.toList) = all := ⟨_, rfl⟩
  rw [hall]
  have HR0 : Hid (Pn.Rel all 0 (ws.map (·.data.toList)) [0, 0, 0, 0, 0, 0, 0, 0]) := hide (by rw [hall]; exact Pn.Rel.start all)
  clear hz hm hall
  go_enter Tryd.func35, Tryd.ntmps35
  go_wp2_with fail
  refine (unhide PU).mono ?_
  rintro e w1 ⟨rfl, b1⟩
  have HM1 := hide ((unhide HM).next b1)
  clear PU b1 HM
  go_wp2_with fail
  go_loopw [0, 13] (fun sv iv wr => ∃ (i : Nat) (ar : Option Addr) (rest : List ByteArray) (cr : Nat) (v : List Int), sv = .slice ar rest.length cr ∧ iv = .int .i64 i ∧ i ≤ 8 ∧ rest.length ≤ cr ∧ rest.length ≤ 100000 ∧ Hid (Pn.Rel all i (rest.map (·.data.toList)) v) ∧ Hid (∀ k, k < rest.length → (tk rest k).size ≤ 1024) ∧ Hid (Nm w wr b n a l c ar rest v)) (fun _ iv _ => 8 - (intOf iv).toNat)
  case atStart => exact ⟨0, aw, ws, cw, _, rfl, rfl, by omega, hcw, hl, HR0, HZ, HM1⟩
  case round =>
    clear HM1 HR0 HZ hcw hl
    obtain ⟨i, ar, rest, cr, v, rfl, rfl, hi, hcr, hlr, HR, HZ, HM⟩ := hrel
    by_cases hlt : i < 8
    · have hix := run_index_ptrs b i hlt
      cases rest with
      | nil =>
        have HE : Hid (∀ (W : World), W = wr → NumsIs all b n a l c w (.returned (.bool true)) W) := hide (fun W hW => by
          subst hW
          exact ⟨true, v, rfl, fun _ => (unhide HR).done, fun h => by simp at h, (unhide HR).2.1, (unhide HM).st, (unhide HM).chg⟩)
        clear HR HZ HM
        go_wp2_with fail
        go_ret
        exact unhide HE _ rfl
      | cons t ts =>
        obtain ⟨g, o, rfl, _, e1⟩ := (unhide HM).row 0 (by simp)
        obtain ⟨WD, hWD⟩ : ∃ WD, WD = wd i := ⟨_, rfl⟩
        have e2 : wr.cell? ⟨0, i * 2, none⟩ = some (.string WD) := by rw [hWD]; exact ((unhide HM).bnd.2 i hlt).1
        have htz : t.size ≤ 1024 := unhide HZ 0 (by simp)
        have hwz : WD.size ≤ 7 := by
          rw [hWD]
          unfold wd
          rw [Pn.bs_size]
          have : (Pn.words8[i]?).getD [] ∈ Pn.words8 := by rw [List.getElem?_eq_getElem (show i < Pn.words8.length from hlt)]; exact List.getElem_mem _
          exact (Pn.words8_ok _ this).1
        have e1' : wr.cell? ⟨g, o, none⟩ = some (.string t) := e1
        have hbs : (⟨#[61]⟩ : ByteArray).size = 1 := rfl
        have hws : WD.size + 1 ≤ 9223372036854775807 := by omega
        have hlen : (t :: ts).length = ts.length + 1 := rfl
        have HM2 := hide ((unhide HM).next (Below.refl _ _).drew)
        have k1 : Wn g o i t WD wr.drew := ⟨by simpa using e1', by simpa using e2⟩
        clear e1 e1' e2
        by_cases hp : (WD.data.toList ++ [61]).isPrefixOf t.data.toList = true
        · have PF := hide (fun W => cutPrefix_hit t (WD ++ ⟨#[61]⟩) W (by rw [word_eq]; exact hp))
          obtain ⟨D, hD⟩ : ∃ D, D = Pn.bs (t.data.toList.drop (WD.data.toList.length + 1)) := ⟨_, rfl⟩
          rw [word_size, ← hD] at PF
          have hDz : D.size ≤ 1024 := by
            rw [hD, Pn.bs_size, List.length_drop]
            have : t.data.toList.length = t.size := by simp
            omega
          have hDl : D.data.toList = t.data.toList.drop (WD.data.toList.length + 1) := by rw [hD, Pn.list_bs]
          cases hnb : Pn.numB D.data.toList with
          | false =>
            have PN := hide (fun W => readNum_no D W (by omega) hnb)
            have HE : Hid (NumsIs all b n a l c w (.returned (.bool false)) wr.drew) := hide ⟨false, v, rfl, fun h => by simp at h, fun _ => (unhide HR).bad hlt (by rw [← hWD]; exact hp) (by rw [← hWD, ← hDl]; exact Pn.numB_no hnb), (unhide HR).2.1, (unhide HM2).st, (unhide HM2).chg⟩
            clear HR HZ HM HM2 hnb hD hDl hp hWD
            go_wp2_with fail
            go_region_held_law (Wn g o i t WD) (first | assumption | go_keep)
              (first | (go_at_call 54; refine (unhide PF _).mono ?_; rintro e w5 ⟨rfl, rfl⟩))
            all_goals
              go_wp2_with (first | (go_at_call 55; refine (unhide PN _).mono ?_; rintro e w6 ⟨rfl, rfl⟩))
              go_ret
              exact unhide HE
          | true =>
            have PA := hide (readNum_yes D wr.drew hnb)
            obtain ⟨x, hx⟩ : ∃ x, Pn.digV D.data.toList = x := ⟨_, rfl⟩
            rw [hx] at PA
            have HR2 : Hid (Pn.Rel all (i + 1) (ts.map (·.data.toList)) (v.set i x)) := hide (by
              have := (unhide HR).took hlt (by rw [← hWD]; exact hp) (by
                rw [← hWD, ← hDl]
                have := (Pn.numB_yes hnb).1
                omega)
              rwa [← hWD, ← hDl, hx] at this)
            have HZ2 : Hid (∀ k, k < ts.length → (tk ts k).size ≤ 1024) := hide (fun k hk => unhide HZ (k + 1) (by simpa using hk))
            have h8 := (unhide HR).2.1
            clear HR HZ HM hnb hD hDl hp hWD hx
            go_wp2_with fail
            go_region_held_law (Wn g o i t WD) (first | assumption | go_keep)
              (first | (go_at_call 54; refine (unhide PF _).mono ?_; rintro e w5 ⟨rfl, rfl⟩))
            all_goals
              go_wp2_with fail
              refine (unhide PA).mono ?_
              rintro e w7 ⟨rfl, b7⟩
              have HM7 := hide ((unhide HM2).next b7)
              have t2 := (unhide HM7).st.num i hlt
              have t3 := (unhide HM7).st.fr (2 + i)
              have HM8 := hide ((unhide HM7).put h8 hlt x)
              have HM9 := hide ((unhide HM8).rest cr hcr)
              clear HM2 k1 PF PA b7 HM7
              go_wp2_with fail
              refine ⟨⟨i + 1, _, ts, cr - 1, v.set i x, rfl, by go_num, by omega, by omega, by omega, HR2, HZ2, HM9⟩, ?_⟩
              simp [intOf]; omega
        · have PF := hide (fun W => cutPrefix_miss t (WD ++ ⟨#[61]⟩) W (by rw [word_eq]; exact hp))
          have HR2 := hide ((unhide HR).skip hlt (by rw [← hWD]; exact hp))
          clear HR HM hp hWD
          go_wp2_with fail
          go_region_held_law (Wn g o i t WD) (first | assumption | go_keep)
            (first | (go_at_call 54; refine (unhide PF _).mono ?_; rintro e w5 ⟨rfl, rfl⟩))
          all_goals
            go_wp2_with fail
            refine ⟨⟨i + 1, some ⟨g, o, none⟩, t :: ts, cr, v, rfl, by go_num, by omega, hcr, hlr, HR2, HZ, HM2⟩, ?_⟩
            simp [intOf]; omega
    · obtain rfl : i = 8 := by omega
      cases rest with
      | nil =>
        have HE : Hid (∀ (W : World), W = wr → NumsIs all b n a l c w (.returned (.bool true)) W) := hide (fun W hW => by
          subst hW
          exact ⟨true, v, rfl, fun _ => (unhide HR).done, fun h => by simp at h, (unhide HR).2.1, (unhide HM).st, (unhide HM).chg⟩)
        clear HR HZ HM
        go_wp2_with fail
        go_ret
        exact unhide HE _ rfl
      | cons t ts =>
        have HE : Hid (∀ (W : World), W = wr → NumsIs all b n a l c w (.returned (.bool false)) W) := hide (fun W hW => by
          subst hW
          exact ⟨false, v, rfl, fun h => by simp at h, fun _ => (unhide HR).over, (unhide HR).2.1, (unhide HM).st, (unhide HM).chg⟩)
        have hlen : (t :: ts).length = ts.length + 1 := rfl
        have g0 : (((ts.length : Int) + 1) == 0) = false := by rw [beq_eq_false_iff_ne]; omega
        clear HR HZ HM
        go_wp2_with fail
        go_ret
        exact unhide HE _ rfl
end Go.Proofs.YtohjipnkoiifhagDoor
