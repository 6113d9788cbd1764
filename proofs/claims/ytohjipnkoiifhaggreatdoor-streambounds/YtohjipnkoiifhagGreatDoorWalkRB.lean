/-
  The law StreamBounds, over what is asked of the program's stream.
-/
import Derived.Test.YtohjipnkoiifhagGreatDoorWalkRa
import Derived.Test.YtohjipnkoiifhagGreatDoorJointRowPfRowStRowSo
import Derived.Test.YtohjipnkoiifhagGreatDoorJointWalkC1WalkC2RowSRowU
import Derived.Test.YtohjipnkoiifhagGreatDoorJointWorksTaWorksTPapRgOsMOsR
import Derived.Deep.RegionHeld3
import Derived.BigQuiet
namespace Go.Proofs.YtohjipnkoiifhagGreatDoor.Dk
open Go.RowKit

theorem run_field_last (x0 x1 x2 x3 : Int) (w : World) : (Instr.field 37 (.agg #[.int .i64 x0, .int .i64 x1, .int .i64 x2, .int .i64 x3]) 3).run Tryz.prog w = .ok (.int .i64 x3) w := by
  simp [Instr.field, run_underlying Tryz.underlying37, asAgg, go_sem]
abbrev At1 (b : Nat) (s : ByteArray) (w : World) : Prop := w.cell? ⟨b, 3, none⟩ = some (.string s)
theorem cnt_same (l : List Rc) (s : ByteArray) : cntN l s = sameN l s := by
  unfold cntN sameN
  rw [List.countP_eq_length_filter]
/-- no subject of an index has more than the bound -/
theorem found_low {P : Pn.Pln} {l : List Rc} {es : List Ent} (h : Cnt l es) (hb : Bnd P l) (f : ByteArray) : ∀ e ∈ foundL es f, pv P 3 ≠ 0 → e.2 ≤ pv P 3 := fun e he hp => by
  have hm : e ∈ es := by
    unfold foundL at he
    split at he
    · exact (List.mem_filter.1 he).1
    · cases he
  rw [((h.mem e).1 hm).2, cnt_same]
  exact hb.per hp e.1
section
variable {G : World → Prop} {RH : World → Nat → Nat → (Nat → Prop) → Pn.Pln → Int → Int → Str → Prop} {SH : World → Nat → Nat → (Nat → Prop) → Sto → Prop}
set_option maxRecDepth 100000 in
set_option maxHeartbeats 4000000 in
theorem bounds_any (hN : ∀ {w w' : World}, G w → Below w.heap.size w w' → G w') (V : RWorks G RH SH) (E : SSees SH) (TE : STells SH) (P : Pn.Pln) (ap : Option Addr) (cp : Nat) (a : Option Addr) (l : List Stp) (c : Nat) (rm sz : Int) (w : World) (hP : SmallP P) (hsl : SlS w ap P.f) (hcp : P.f.length ≤ cp) (hl : SlP w a l) (hlz : ∀ k, k < l.length → SmallT (spt l k)) (hG : G w) :
    Calls Tryz.prog 4 #[plV P ap cp, .int .i64 rm, .int .i64 sz, .slice a l.length c] w fun e w' => e = .returned (.bool true) ∧ Below w.heap.size w w' := by
  unfold plV
  have b1 : Below w.heap.size w (w.alloc (.cells #[.string P.n, .slice ap P.f.length cp, .int .i64 (nth P.v 0), .int .i64 (nth P.v 1), .int .i64 (nth P.v 2), .int .i64 (nth P.v 3), .int .i64 (nth P.v 4), .int .i64 (nth P.v 5), .int .i64 (nth P.v 6), .int .i64 (nth P.v 7)] 43)) := (Below.refl _ _).alloc (Nat.le_refl _) _
  have p1 := PB.new w P.n ap P.f.length cp (nth P.v 0) (nth P.v 1) (nth P.v 2) (nth P.v 3) (nth P.v 4) (nth P.v 5) (nth P.v 6) (nth P.v 7) 43
  obtain ⟨W1, hW1⟩ : ∃ W1, W1 = w.alloc (.cells #[.string P.n, .slice ap P.f.length cp, .int .i64 (nth P.v 0), .int .i64 (nth P.v 1), .int .i64 (nth P.v 2), .int .i64 (nth P.v 3), .int .i64 (nth P.v 4), .int .i64 (nth P.v 5), .int .i64 (nth P.v 6), .int .i64 (nth P.v 7)] 43) := ⟨_, rfl⟩
  rw [← hW1] at b1 p1
  obtain ⟨bp, hbp⟩ : ∃ bp, bp = w.heap.size := ⟨_, rfl⟩
  rw [← hbp] at p1
  have H2 : Hid (PB W1 bp P.n ap P.f.length cp (nth P.v 0) (nth P.v 1) (nth P.v 2) (nth P.v 3) (nth P.v 4) (nth P.v 5) (nth P.v 6) (nth P.v 7) ∧ SlP W1 a l ∧ SlS W1 ap P.f ∧ G W1 ∧ Below w.heap.size w W1) := hide ⟨p1, hl.next b1, hsl.next b1, hN hG b1, b1⟩
  have HP := hide hP
  have HL := hide hlz
  have PU := hide (published_any hN V E W1 (unhide H2).2.2.2.1)
  clear hsl hl hlz hG b1 p1 hP
  go_enter Tryz.func4, Tryz.ntmps4
  go_wp2_with fail
  rw [← hbp, ← hW1]
  clear hbp hW1
  refine (unhide PU).mono ?_
  rintro e w3 ⟨rfl, b3⟩
  have H3 : Hid (PB w3 bp P.n ap P.f.length cp (nth P.v 0) (nth P.v 1) (nth P.v 2) (nth P.v 3) (nth P.v 4) (nth P.v 5) (nth P.v 6) (nth P.v 7) ∧ SlP w3 a l ∧ SlS w3 ap P.f ∧ G w3 ∧ Below w.heap.size w w3) := hide ⟨(unhide H2).1.next b3, (unhide H2).2.1.next b3, (unhide H2).2.2.1.next b3, hN (unhide H2).2.2.2.1 b3, bstep (unhide H2).2.2.2.2 b3⟩
  clear PU b3 H2
  obtain ⟨_, y0, y1, y2, y3, y4, y5, y6, y7, y8, y9⟩ := (unhide H3).1
  by_cases hE : Pn.planE P = 0
  · by_cases hin : (inI rm 1 65536 && inI sz 1 4096) = true
    · obtain ⟨hrm, hsz⟩ := (Bool.and_eq_true _ _).mp hin
      have PN := hide (Ray.new V (m := rm) (size := sz) w3 P ap cp (unhide HP) (unhide H3).2.2.1 hcp (unhide H3).2.2.2.1 hE hrm hsz)
      unfold plV at PN
      go_wp2_with fail
      refine (unhide PN).mono ?_
      rintro e w4 ⟨q, rfl, r4⟩
      have HR4 := hide r4
      have HB3 := hide (And.intro (unhide H3).2.1 (And.intro (unhide H3).2.2.2.2 (unhide H3).1))
      have HE := hide (ppos_of hE)
      clear PN r4 H3 y0 y1 y2 y3 y4 y5 y6 y7 y8 y9
      by_cases h60 : 60 < l.length
      · have g60 : decide ((60 : Int) < (l.length : Int)) = true := decide_eq_true (by omega)
        go_wp2_with fail
        go_ret
        exact ⟨rfl, bstep (unhide HB3).2.1 (unhide HR4).bl⟩
      · have g60 : decide ((60 : Int) < (l.length : Int)) = false := decide_eq_false (by omega)
        have HBn : Hid (Bnd P noStr.s.l) := hide (Bnd.nil (unhide HE))
        go_wp2_with fail
        go_loopw [44] (fun iv wr => ∃ (k : Nat) (st : Str), iv = .int .i64 k ∧ k ≤ l.length ∧ Hid (Bnd P st.s.l) ∧ Hid (Ray RH (fun _ => False) w3 wr q P rm sz st)) (fun iv _ => l.length - (intOf iv).toNat)
        case atStart => exact ⟨0, noStr, rfl, Nat.zero_le _, HBn, HR4⟩
        case round =>
          clear HR4 HBn
          obtain ⟨k, st, rfl, hk, HBn, HR⟩ := hrel
          by_cases hlt : k < l.length
          · have HH := hide ((unhide HB3).1.from (unhide HR).bl (Nat.le_refl _))
            obtain ⟨ba, o, rfl, t10⟩ := (unhide HH) k hlt
            obtain ⟨_, z0, z1, z2, z3, z4, z5, z6, z7, z8, z9⟩ := t10
            obtain ⟨sp, hsp⟩ : ∃ sp, spt l k = sp := ⟨_, rfl⟩
            have hz := unhide HL k hlt
            rw [hsp] at z0 z1 z2 z3 z4 z5 z6 z7 z8 z9 hz
            have k5 : Below wr.heap.size wr (wr.alloc (.cells #[.int .i64 sp.k, .int .i64 sp.now, .int .i64 sp.n, .string sp.x.s, .string sp.x.i, .string sp.x.h, .string sp.x.d, .int .i64 sp.x.x, .int .i64 sp.x.ro, .string sp.f] 52)) := (Below.refl _ _).alloc (Nat.le_refl _) _
            have t5 : Ten (wr.alloc (.cells #[.int .i64 sp.k, .int .i64 sp.now, .int .i64 sp.n, .string sp.x.s, .string sp.x.i, .string sp.x.h, .string sp.x.d, .int .i64 sp.x.x, .int .i64 sp.x.ro, .string sp.f] 52)) wr.heap.size 0 sp := ⟨by simp, by simp, by simp, by simp, by simp, by simp, by simp, by simp, by simp, by simp, by simp⟩
            have r5 : Ray RH (fun k => k = wr.heap.size) w3 (wr.alloc (.cells #[.int .i64 sp.k, .int .i64 sp.now, .int .i64 sp.n, .string sp.x.s, .string sp.x.i, .string sp.x.h, .string sp.x.d, .int .i64 sp.x.x, .int .i64 sp.x.ro, .string sp.f] 52)) q P rm sz st := (unhide HR).mine V k5 (fun k hk => .inr (by subst hk; exact ⟨Nat.le_refl _, by simp⟩))
            obtain ⟨W5, hW5⟩ : ∃ W5, W5 = wr.alloc (.cells #[.int .i64 sp.k, .int .i64 sp.now, .int .i64 sp.n, .string sp.x.s, .string sp.x.i, .string sp.x.h, .string sp.x.d, .int .i64 sp.x.x, .int .i64 sp.x.ro, .string sp.f] 52) := ⟨_, rfl⟩
            obtain ⟨bc, hbc⟩ : ∃ bc, bc = wr.heap.size := ⟨_, rfl⟩
            rw [← hW5, ← hbc] at t5 r5
            have HR5 := hide r5
            have HT5 := hide t5
            have hlast := r5.fit.vok.ok.last
            have P5 := hide ((unhide HR5).store V)
            have hok := hide (unhide HR5).fit.vok.ok
            clear hsp k5 HH t5 r5
            go_wp2_with fail
            rw [← hW5, ← hbc]
            clear hW5 hbc z0 z1 z2 z3 z4 z5 z6 z7 z8 z9 HR
            refine (unhide P5).mono ?_
            rintro e w5 ⟨q5, F5, rfl, s5, b5⟩
            have HR6 := hide ((unhide HR5).below V b5)
            have HT6 := hide ((unhide HT5).keep b5.size (b5.block bc (unhide HT5).lt))
            have P6 := hide (E.sums s5 (unhide hok) (unhide HR6).room)
            clear P5 s5 b5 HR5 HT5
            go_wp2_with fail
            refine (unhide P6).mono ?_
            rintro e w6 ⟨rfl, b6⟩
            have HR7 := hide ((unhide HR6).below V b6)
            have HT7 := hide ((unhide HT6).keep b6.size (b6.block bc (unhide HT6).lt))
            have P7 := hide ((unhide HR7).publish V sp.now sp.x hz.x)
            obtain ⟨_, c0, c1, c2, c3, c4, c5, c6, c7, c8, c9⟩ := unhide HT7
            simp only [Nat.zero_add] at c1 c2 c3 c4 c5 c6 c7 c8 c9
            have hfl := run_field_last (st.s.l.length : Int) (byteN st.s.l : Int) (firstQ st.s.l) st.s.last
            clear P6 b6 HR6 HT6
            go_wp2_with fail
            refine (unhide P7).mono ?_
            rintro e w7 ⟨rfl, r8, stay8⟩
            have HR8 := hide r8
            have HT8 := hide ((unhide HT7).keep stay8.1 (stay8.2 bc rfl))
            have hnum := pub_num (p := P) (m := rm) (size := sz) (now := sp.now) (x := sp.x) (st := st)
            have HBn2 : Hid (Bnd P (pubP P rm sz sp.now sp.x st).2.s.l) := hide (Bnd.pub (unhide HE) (unhide HBn))
            clear hfl P7 r8 stay8 HR7 HT7 c0 c1 c2 c3 c4 c5 c6 c7 c8 c9 HBn hok
            obtain ⟨e1, he1⟩ : ∃ e1, (pubP P rm sz sp.now sp.x st).1.2.2 = e1 := ⟨_, rfl⟩
            obtain ⟨ag, hag⟩ : ∃ ag, (pubP P rm sz sp.now sp.x st).1.2.1 = ag := ⟨_, rfl⟩
            obtain ⟨n1, hn1⟩ : ∃ n1, (pubP P rm sz sp.now sp.x st).1.1 = n1 := ⟨_, rfl⟩
            obtain ⟨st1, hst1⟩ : ∃ st1, (pubP P rm sz sp.now sp.x st).2 = st1 := ⟨_, rfl⟩
            rw [he1, hag, hn1, hst1] at hnum
            rw [hst1] at HR8 HBn2
            rw [he1, hag, hn1]
            clear he1 hag hn1 hst1
            have P8 := hide ((unhide HR8).store V)
            have hok := hide (unhide HR8).fit.vok.ok
            go_wp2_with fail
            refine (unhide P8).mono ?_
            rintro e w8 ⟨q8, F8, rfl, s8, b8⟩
            have HR9 := hide ((unhide HR8).below V b8)
            have HT9 := hide ((unhide HT8).keep b8.size (b8.block bc (unhide HT8).lt))
            have P9 := hide (E.sums s8 (unhide hok) (unhide HR9).room)
            clear P8 s8 b8 HR8 HT8
            go_wp2_with fail
            refine (unhide P9).mono ?_
            rintro e w9 ⟨rfl, b9⟩
            have HR10 := hide ((unhide HR9).below V b9)
            have HT10 := hide ((unhide HT9).keep b9.size (b9.block bc (unhide HT9).lt))
            clear P9 b9 HR9 HT9
            have k11 : Below w9.heap.size w9 (w9.alloc (.cells #[.int .i64 (st1.s.l.length : Int), .int .i64 (byteN st1.s.l : Int), .int .i64 (firstQ st1.s.l), .int .i64 st1.s.last] 37)) := (Below.refl _ _).alloc (Nat.le_refl _) _
            have B11 := SB.new w9 (st1.s.l.length : Int) (byteN st1.s.l : Int) (firstQ st1.s.l) st1.s.last 37
            have HR11 := hide ((unhide HR10).below V k11)
            have HT11 := hide ((unhide HT10).keep k11.size (k11.block bc (unhide HT10).lt))
            have HF11 := hide ((unhide HR11).mine V (Cs' := fun _ => False) (Below.refl _ _) (fun _ z => z.elim))
            obtain ⟨W11, hW11⟩ : ∃ W11, W11 = w9.alloc (.cells #[.int .i64 (st1.s.l.length : Int), .int .i64 (byteN st1.s.l : Int), .int .i64 (firstQ st1.s.l), .int .i64 st1.s.last] 37) := ⟨_, rfl⟩
            obtain ⟨bs, hbs⟩ : ∃ bs, bs = w9.heap.size := ⟨_, rfl⟩
            rw [← hW11] at B11 HR11 HT11 HF11
            rw [← hbs] at B11
            have HSB := hide B11
            clear HR10 HT10 k11 B11
            by_cases h0 : e1 = 0
            · subst h0
              have hcell3 : (w9.alloc (.cells #[.int .i64 (st1.s.l.length : Int), .int .i64 (byteN st1.s.l : Int), .int .i64 (firstQ st1.s.l), .int .i64 st1.s.last] 37)).cell? ⟨w9.heap.size, 3, none⟩ = some (.int .i64 st1.s.last) := by rw [← hW11, ← hbs]; exact (unhide HSB).c3
              have hwl : IntKind.i64.wrap (st.s.last + 1) = st.s.last + 1 := by rw [IntKind.wrap_i64]; omega
              have Hgo : Hid ((ag = false ∧ n1 = st.s.last + 1) ∨ (ag = true ∧ st1 = st)) := hide (by
                cases ag with
                | false => exact .inl ⟨rfl, hnum.2.1 rfl rfl⟩
                | true => exact .inr ⟨rfl, hnum.2.2 rfl⟩)
              clear hnum
              rcases unhide Hgo with ⟨rfl, rfl⟩ | ⟨rfl, hst⟩
              · clear Hgo
                go_wp2_with fail
                rw [← hW11, ← hbs]
                clear hW11 hbs hcell3
                have HR12 := hide ((unhide HR11).below V (Below.refl _ _).drew)
                have HT12 := hide ((unhide HT11).keep (w' := W11.drew) (Nat.le_refl _) rfl)
                have HSB12 := hide ((unhide HSB).next (Below.refl _ _).drew)
                have k12 : At1 bc sp.x.s W11.drew := by
                  have := (unhide HT12).c3
                  rw [Nat.zero_add] at this
                  exact this
                have P12 := hide ((unhide HR12).store V)
                obtain ⟨en0, hcnt⟩ := (unhide hok).cnt
                have HCn := hide hcnt
                clear hcnt HR11 HT11 HSB HF11
                go_region_held3 (At1 bc sp.x.s) (first | assumption | go_keep)
                  (first
                    | (go_at_call 17; refine (unhide P12).mono ?_; rintro e wA ⟨qA, FA, rfl, sA, bA⟩; have HRA := hide ((unhide HR12).below V bA); have HTA := hide ((unhide HT12).keep bA.size (bA.block bc (unhide HT12).lt)); have HSA := hide ((unhide HSB12).next bA); have kA : At1 bc sp.x.s wA := (by have := (unhide HTA).c3; rw [Nat.zero_add] at this; exact this); have PT := hide (TE.subjects sp.x.s hz.x.s sA (unhide hok) (unhide HRA).room (unhide HCn)); clear sA bA P12)
                    | (go_at_call 19; refine (unhide PT).mono ?_; rintro e wB ⟨vB, rfl, aB, bB⟩; obtain ⟨aS, cS, rfl, hcS1, hcS2, hown⟩ := aB.shape; have HRB := hide ((unhide HRA).below V bB); have HTB := hide ((unhide HTA).keep bB.size (bB.block bc (unhide HTA).lt)); have HSBB := hide ((unhide HSA).next bB); have kB : At1 bc sp.x.s wB := (by have := (unhide HTB).c3; rw [Nat.zero_add] at this; exact this); have HAB := hide aB; clear aB bB PT))
                clear k12 kA kB HR12 HRA HT12 HTA HSB12 HSA hown
                have HFB := hide ((unhide HRB).mine V (Cs' := fun _ => False) (Below.refl _ _) (fun _ z => z.elim))
                have hfl2 := found_low (unhide HCn) (unhide HBn2) sp.x.s
                obtain ⟨FL, hFL⟩ : ∃ FL, foundL en0 sp.x.s = FL := ⟨_, rfl⟩
                rw [hFL] at HAB hfl2 ⊢
                clear hFL HCn
                have d2 : wB.cell? ⟨bp, 2, none⟩ = some (.int .i64 (nth P.v 0)) := by
                  rw [(unhide HRB).bl.cell (p := ⟨bp, 2, none⟩) (unhide HB3).2.2.lt]; exact (unhide HB3).2.2.c2
                have d3 : wB.cell? ⟨bp, 3, none⟩ = some (.int .i64 (nth P.v 1)) := by
                  rw [(unhide HRB).bl.cell (p := ⟨bp, 3, none⟩) (unhide HB3).2.2.lt]; exact (unhide HB3).2.2.c3
                have d5 : wB.cell? ⟨bp, 5, none⟩ = some (.int .i64 (nth P.v 3)) := by
                  rw [(unhide HRB).bl.cell (p := ⟨bp, 5, none⟩) (unhide HB3).2.2.lt]; exact (unhide HB3).2.2.c5
                have s0 := (unhide HSBB).c0
                have s1 := (unhide HSBB).c1
                have bm := (unhide HBn2).msgs
                have bb := (unhide HBn2).bytes
                unfold pv at bm bb hfl2
                clear HRB HTB HSBB
                have HFD := hide (fun (j : Nat) => (unhide HFB).below V (below_drewN (Below.refl _ _) j))
                by_cases hD : 0 < FL.length
                · obtain ⟨gS, hgS⟩ : ∃ g, aS = some ⟨g, 0, none⟩ := by
                    obtain ⟨nF, hnF⟩ : ∃ nF, FL.length = nF + 1 := ⟨FL.length - 1, by omega⟩
                    have h := unhide HAB
                    unfold Arr at h
                    rw [hnF] at h
                    obtain ⟨g, cap, e⟩ := own_some h
                    exact ⟨g, (Value.slice.inj e).1⟩
                  subst hgS
                  have eS : wB.cell? ⟨gS, 1, none⟩ = some (.int .i64 (en FL 0).2) := by
                    rw [World.ownsRow.cellAt (unhide HAB) 1 (by omega)]
                    exact cel_num FL 0 hD
                  have hmF : en FL 0 ∈ FL := by
                    unfold en
                    rw [List.getElem?_eq_getElem hD]
                    exact List.getElem_mem hD
                  have hlo := hfl2 _ hmF
                  generalize (en FL 0).2 = nE at eS hlo
                  have gD : decide ((0 : Int) < (FL.length : Int)) = true := decide_eq_true (by omega)
                  clear hmF hfl2 HFB HAB
                  by_cases hA : 0 < nth P.v 0 <;> by_cases hB : 0 < nth P.v 1 <;> by_cases hC : 0 < nth P.v 3
                  all_goals
                    first | have gA : decide (0 < nth P.v 0) = true := decide_eq_true hA | have gA : decide (0 < nth P.v 0) = false := decide_eq_false hA
                    first | have gB : decide (0 < nth P.v 1) = true := decide_eq_true hB | have gB : decide (0 < nth P.v 1) = false := decide_eq_false hB
                    first | have gC : decide (0 < nth P.v 3) = true := decide_eq_true hC | have gC : decide (0 < nth P.v 3) = false := decide_eq_false hC
                    first | have gA2 : decide (nth P.v 0 < (st1.s.l.length : Int)) = false := decide_eq_false (by have := bm (by omega); omega) | skip
                    first | have gB2 : decide (nth P.v 1 < (byteN st1.s.l : Int)) = false := decide_eq_false (by have := bb (by omega); omega) | skip
                    first | have gC2 : decide (nth P.v 3 < nE) = false := decide_eq_false (by have := hlo (by omega); omega) | skip
                    clear hA hB hC bm bb hlo
                    go_wp2_with fail
                    go_quiet (fail)
                    go_wp2_with fail
                    refine ⟨⟨k + 1, st1, by go_num, by omega, HBn2, hide (unhide HFD _)⟩, ?_⟩
                    simp [intOf]; omega
                · have gD : decide ((0 : Int) < (FL.length : Int)) = false := decide_eq_false (by omega)
                  clear hfl2 HFB HAB
                  by_cases hA : 0 < nth P.v 0 <;> by_cases hB : 0 < nth P.v 1 <;> by_cases hC : 0 < nth P.v 3
                  all_goals
                    first | have gA : decide (0 < nth P.v 0) = true := decide_eq_true hA | have gA : decide (0 < nth P.v 0) = false := decide_eq_false hA
                    first | have gB : decide (0 < nth P.v 1) = true := decide_eq_true hB | have gB : decide (0 < nth P.v 1) = false := decide_eq_false hB
                    first | have gC : decide (0 < nth P.v 3) = true := decide_eq_true hC | have gC : decide (0 < nth P.v 3) = false := decide_eq_false hC
                    first | have gA2 : decide (nth P.v 0 < (st1.s.l.length : Int)) = false := decide_eq_false (by have := bm (by omega); omega) | skip
                    first | have gB2 : decide (nth P.v 1 < (byteN st1.s.l : Int)) = false := decide_eq_false (by have := bb (by omega); omega) | skip
                    clear hA hB hC bm bb
                    go_wp2_with fail
                    go_quiet (fail)
                    go_wp2_with fail
                    refine ⟨⟨k + 1, st1, by go_num, by omega, HBn2, hide (unhide HFD _)⟩, ?_⟩
                    simp [intOf]; omega
              · have glast : (st1.s.last != st.s.last) = false := by rw [hst]; simp
                clear Hgo hst
                go_wp2_with fail
                rw [← hW11, ← hbs]
                clear hW11 hbs hcell3
                have HR12 := hide ((unhide HR11).below V (Below.refl _ _).drew)
                have HT12 := hide ((unhide HT11).keep (w' := W11.drew) (Nat.le_refl _) rfl)
                have HSB12 := hide ((unhide HSB).next (Below.refl _ _).drew)
                have k12 : At1 bc sp.x.s W11.drew := by
                  have := (unhide HT12).c3
                  rw [Nat.zero_add] at this
                  exact this
                have P12 := hide ((unhide HR12).store V)
                obtain ⟨en0, hcnt⟩ := (unhide hok).cnt
                have HCn := hide hcnt
                clear hcnt HR11 HT11 HSB HF11
                go_region_held3 (At1 bc sp.x.s) (first | assumption | go_keep)
                  (first
                    | (go_at_call 17; refine (unhide P12).mono ?_; rintro e wA ⟨qA, FA, rfl, sA, bA⟩; have HRA := hide ((unhide HR12).below V bA); have HTA := hide ((unhide HT12).keep bA.size (bA.block bc (unhide HT12).lt)); have HSA := hide ((unhide HSB12).next bA); have kA : At1 bc sp.x.s wA := (by have := (unhide HTA).c3; rw [Nat.zero_add] at this; exact this); have PT := hide (TE.subjects sp.x.s hz.x.s sA (unhide hok) (unhide HRA).room (unhide HCn)); clear sA bA P12)
                    | (go_at_call 19; refine (unhide PT).mono ?_; rintro e wB ⟨vB, rfl, aB, bB⟩; obtain ⟨aS, cS, rfl, hcS1, hcS2, hown⟩ := aB.shape; have HRB := hide ((unhide HRA).below V bB); have HTB := hide ((unhide HTA).keep bB.size (bB.block bc (unhide HTA).lt)); have HSBB := hide ((unhide HSA).next bB); have kB : At1 bc sp.x.s wB := (by have := (unhide HTB).c3; rw [Nat.zero_add] at this; exact this); have HAB := hide aB; clear aB bB PT))
                clear k12 kA kB HR12 HRA HT12 HTA HSB12 HSA hown
                have HFB := hide ((unhide HRB).mine V (Cs' := fun _ => False) (Below.refl _ _) (fun _ z => z.elim))
                have hfl2 := found_low (unhide HCn) (unhide HBn2) sp.x.s
                obtain ⟨FL, hFL⟩ : ∃ FL, foundL en0 sp.x.s = FL := ⟨_, rfl⟩
                rw [hFL] at HAB hfl2 ⊢
                clear hFL HCn
                have d2 : wB.cell? ⟨bp, 2, none⟩ = some (.int .i64 (nth P.v 0)) := by
                  rw [(unhide HRB).bl.cell (p := ⟨bp, 2, none⟩) (unhide HB3).2.2.lt]; exact (unhide HB3).2.2.c2
                have d3 : wB.cell? ⟨bp, 3, none⟩ = some (.int .i64 (nth P.v 1)) := by
                  rw [(unhide HRB).bl.cell (p := ⟨bp, 3, none⟩) (unhide HB3).2.2.lt]; exact (unhide HB3).2.2.c3
                have d5 : wB.cell? ⟨bp, 5, none⟩ = some (.int .i64 (nth P.v 3)) := by
                  rw [(unhide HRB).bl.cell (p := ⟨bp, 5, none⟩) (unhide HB3).2.2.lt]; exact (unhide HB3).2.2.c5
                have s0 := (unhide HSBB).c0
                have s1 := (unhide HSBB).c1
                have bm := (unhide HBn2).msgs
                have bb := (unhide HBn2).bytes
                unfold pv at bm bb hfl2
                clear HRB HTB HSBB
                have HFD := hide (fun (j : Nat) => (unhide HFB).below V (below_drewN (Below.refl _ _) j))
                by_cases hD : 0 < FL.length
                · obtain ⟨gS, hgS⟩ : ∃ g, aS = some ⟨g, 0, none⟩ := by
                    obtain ⟨nF, hnF⟩ : ∃ nF, FL.length = nF + 1 := ⟨FL.length - 1, by omega⟩
                    have h := unhide HAB
                    unfold Arr at h
                    rw [hnF] at h
                    obtain ⟨g, cap, e⟩ := own_some h
                    exact ⟨g, (Value.slice.inj e).1⟩
                  subst hgS
                  have eS : wB.cell? ⟨gS, 1, none⟩ = some (.int .i64 (en FL 0).2) := by
                    rw [World.ownsRow.cellAt (unhide HAB) 1 (by omega)]
                    exact cel_num FL 0 hD
                  have hmF : en FL 0 ∈ FL := by
                    unfold en
                    rw [List.getElem?_eq_getElem hD]
                    exact List.getElem_mem hD
                  have hlo := hfl2 _ hmF
                  generalize (en FL 0).2 = nE at eS hlo
                  have gD : decide ((0 : Int) < (FL.length : Int)) = true := decide_eq_true (by omega)
                  clear hmF hfl2 HFB HAB
                  by_cases hA : 0 < nth P.v 0 <;> by_cases hB : 0 < nth P.v 1 <;> by_cases hC : 0 < nth P.v 3
                  all_goals
                    first | have gA : decide (0 < nth P.v 0) = true := decide_eq_true hA | have gA : decide (0 < nth P.v 0) = false := decide_eq_false hA
                    first | have gB : decide (0 < nth P.v 1) = true := decide_eq_true hB | have gB : decide (0 < nth P.v 1) = false := decide_eq_false hB
                    first | have gC : decide (0 < nth P.v 3) = true := decide_eq_true hC | have gC : decide (0 < nth P.v 3) = false := decide_eq_false hC
                    first | have gA2 : decide (nth P.v 0 < (st1.s.l.length : Int)) = false := decide_eq_false (by have := bm (by omega); omega) | skip
                    first | have gB2 : decide (nth P.v 1 < (byteN st1.s.l : Int)) = false := decide_eq_false (by have := bb (by omega); omega) | skip
                    first | have gC2 : decide (nth P.v 3 < nE) = false := decide_eq_false (by have := hlo (by omega); omega) | skip
                    clear hA hB hC bm bb hlo
                    go_wp2_with fail
                    go_quiet (fail)
                    go_wp2_with fail
                    refine ⟨⟨k + 1, st1, by go_num, by omega, HBn2, hide (unhide HFD _)⟩, ?_⟩
                    simp [intOf]; omega
                · have gD : decide ((0 : Int) < (FL.length : Int)) = false := decide_eq_false (by omega)
                  clear hfl2 HFB HAB
                  by_cases hA : 0 < nth P.v 0 <;> by_cases hB : 0 < nth P.v 1 <;> by_cases hC : 0 < nth P.v 3
                  all_goals
                    first | have gA : decide (0 < nth P.v 0) = true := decide_eq_true hA | have gA : decide (0 < nth P.v 0) = false := decide_eq_false hA
                    first | have gB : decide (0 < nth P.v 1) = true := decide_eq_true hB | have gB : decide (0 < nth P.v 1) = false := decide_eq_false hB
                    first | have gC : decide (0 < nth P.v 3) = true := decide_eq_true hC | have gC : decide (0 < nth P.v 3) = false := decide_eq_false hC
                    first | have gA2 : decide (nth P.v 0 < (st1.s.l.length : Int)) = false := decide_eq_false (by have := bm (by omega); omega) | skip
                    first | have gB2 : decide (nth P.v 1 < (byteN st1.s.l : Int)) = false := decide_eq_false (by have := bb (by omega); omega) | skip
                    clear hA hB hC bm bb
                    go_wp2_with fail
                    go_quiet (fail)
                    go_wp2_with fail
                    refine ⟨⟨k + 1, st1, by go_num, by omega, HBn2, hide (unhide HFD _)⟩, ?_⟩
                    simp [intOf]; omega
            · obtain ⟨rfl, rfl⟩ := hnum.1 h0
              have ge : (e1 != 0) = true := by simpa using h0
              clear hnum HSB HT11 HR11
              go_wp2_with fail
              rw [← hW11]
              refine ⟨⟨k + 1, st1, by go_num, by omega, HBn2, HF11⟩, ?_⟩
              simp [intOf]; omega
          · obtain rfl : k = l.length := by omega
            have B8 := hide (bstep (unhide HB3).2.1 (unhide HR).bl)
            go_wp2_with fail
            go_ret
            exact ⟨rfl, unhide B8⟩
    · have hin : (inI rm 1 65536 && inI sz 1 4096) = false := by simpa using hin
      have PN := hide (V.bad w3 P ap cp rm sz (unhide HP) (unhide H3).2.2.1 hcp (unhide H3).2.2.2.1 hE hin)
      unfold plV at PN
      go_wp2_with fail
      refine (unhide PN).mono ?_
      rintro e w4 ⟨rfl, b4⟩
      have B4 := hide (bstep (unhide H3).2.2.2.2 b4)
      clear b4 PN H3 y0 y1 y2 y3 y4 y5 y6 y7 y8 y9
      go_wp2_with fail
      go_ret
      exact ⟨rfl, unhide B4⟩
  · have PN := hide (V.wrong w3 P ap cp rm sz (unhide HP) (unhide H3).2.2.1 hcp (unhide H3).2.2.2.1 hE)
    unfold plV at PN
    obtain ⟨EE, hEE⟩ : ∃ EE, Pn.planE P = EE := ⟨_, rfl⟩
    rw [hEE] at PN hE
    have gE : (EE != 0) = true := by simpa using hE
    have gE2 : (EE == 0) = false := by rw [beq_eq_false_iff_ne]; exact hE
    clear hEE
    go_wp2_with fail
    refine (unhide PN).mono ?_
    rintro e w4 ⟨rfl, b4⟩
    have B4 := hide (bstep (unhide H3).2.2.2.2 b4)
    clear b4 PN H3 y0 y1 y2 y3 y4 y5 y6 y7 y8 y9
    go_wp2_with fail
    go_ret
    exact ⟨rfl, unhide B4⟩
end
end Go.Proofs.YtohjipnkoiifhagGreatDoor.Dk
