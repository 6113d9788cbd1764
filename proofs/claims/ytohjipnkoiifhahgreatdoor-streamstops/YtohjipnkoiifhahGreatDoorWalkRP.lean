/-
  The law StreamStops, over what is asked of the program's stream.
-/
import Derived.Test.YtohjipnkoiifhahGreatDoorWalkRa
import Derived.Test.YtohjipnkoiifhahGreatDoorJointRowPfRowStRowSo
import Derived.Test.YtohjipnkoiifhahGreatDoorWalkG1r
import Derived.Test.YtohjipnkoiifhahGreatDoorJointWalkC1WalkC2RowSRowU
import Derived.Deep.RegionHeld3
namespace Go.Proofs.YtohjipnkoiifhahGreatDoor.Dk
open Go.RowKit

theorem neqRs (x0 x1 x2 x3 : Int) (W : World) : (binOp .neq 46 (.agg #[.int .i64 x0, .int .i64 x1, .int .i64 x2, .int .i64 x3]) (.agg #[.int .i64 x0, .int .i64 x1, .int .i64 x2, .int .i64 x3])).run Tryz.prog W = .ok (.bool false) W := by
  have u3 := Tryz.underlying3
  have hS : Tryz.prog.underlying 46 = some (.struct (Tryz.prog.fieldsOf 46)) := by kernel_rfl
  have hp : Tryz.prog.stoodInHeld 46 = false := by kernel_rfl
  rw [run_neq_struct, show (10000 : Nat) = 9999 + 1 from rfl, run_equalIn_agg W 9999 46 _ _ hS hp]
  simp only [Program.fieldsOf, Tryz.underlying46]
  go_simp
abbrev At4r (b : Nat) (x0 x1 x2 x3 : Int) (w : World) : Prop := w.cell? ⟨b, 0, none⟩ = some (.int .i64 x0) ∧ w.cell? ⟨b, 1, none⟩ = some (.int .i64 x1) ∧ w.cell? ⟨b, 2, none⟩ = some (.int .i64 x2) ∧ w.cell? ⟨b, 3, none⟩ = some (.int .i64 x3)
theorem SB.at4r {w : World} {b : Nat} {x0 x1 x2 x3 : Int} (h : SB w b x0 x1 x2 x3) : At4r b x0 x1 x2 x3 w := ⟨h.c0, h.c1, h.c2, h.c3⟩
theorem frozenR {w w' : World} {k j : Nat} (h : w'.heap[k]? = w.heap[k]?) : w'.frozen? ⟨k, j, none⟩ = w.frozen? ⟨k, j, none⟩ := by
  unfold World.frozen?
  simp only [h]
/-- a stream on its way; the row at aa shows l; the sums stand at block bs -/
def Lr (RH : World → Nat → Nat → (Nat → Prop) → Pn.Pln → Int → Int → Str → Prop) (w wr : World) (q : Nat) (P : Pn.Pln) (m size : Int) (st : Str) (aa : Option Addr) (l : List Rc) (bs : Nat) (y0 y1 y2 y3 : Int) : Prop :=
  Ray RH (fun k => (∃ z, aa = some z ∧ z.block = k) ∨ k = bs) w wr q P m size st ∧ SlR wr aa l ∧ SB wr bs y0 y1 y2 y3
section
variable {G : World → Prop} {RH : World → Nat → Nat → (Nat → Prop) → Pn.Pln → Int → Int → Str → Prop} {SH : World → Nat → Nat → (Nat → Prop) → Sto → Prop} {w wr w' : World} {q bs : Nat} {P : Pn.Pln} {m size : Int} {st st' : Str} {aa : Option Addr} {l : List Rc} {y0 y1 y2 y3 : Int}
theorem Lr.new (V : RWorks G RH SH) (h : Ray RH (fun k => ∃ z, aa = some z ∧ z.block = k) w wr q P m size st) (hs : SlR wr aa l) (y0 y1 y2 y3 : Int) : Lr RH w (wr.alloc (.cells #[.int .i64 y0, .int .i64 y1, .int .i64 y2, .int .i64 y3] 46)) q P m size st aa l wr.heap.size y0 y1 y2 y3 := by
  have hb : Below wr.heap.size wr (wr.alloc (.cells #[.int .i64 y0, .int .i64 y1, .int .i64 y2, .int .i64 y3] 46)) := (Below.refl _ _).alloc (Nat.le_refl _) _
  refine ⟨h.mine V hb (fun k hk => ?_), hs.below hb, SB.new _ _ _ _ _ _⟩
  rcases hk with y | rfl
  · exact .inl y
  · exact .inr ⟨Nat.le_refl _, by simp⟩
theorem Lr.below (V : RWorks G RH SH) (h : Lr RH w wr q P m size st aa l bs y0 y1 y2 y3) (hb : Below wr.heap.size wr w') : Lr RH w w' q P m size st aa l bs y0 y1 y2 y3 := ⟨h.1.below V hb, h.2.1.below hb, h.2.2.next hb⟩
theorem Lr.stays (h : Lr RH w wr q P m size st aa l bs y0 y1 y2 y3) (h1 : Ray RH (fun k => (∃ z, aa = some z ∧ z.block = k) ∨ k = bs) w w' q P m size st') (hs : Stay (fun k => (∃ z, aa = some z ∧ z.block = k) ∨ k = bs) wr w') : Lr RH w w' q P m size st' aa l bs y0 y1 y2 y3 := by
  refine ⟨h1, hs.recs h.2.1 (fun z hz => .inl ⟨z, hz, rfl⟩), ?_⟩
  have r := h.2.2
  have hb : (∃ z, aa = some z ∧ z.block = bs) ∨ bs = bs := .inr rfl
  exact ⟨Nat.lt_of_lt_of_le r.lt hs.1, by rw [hs.cell hb]; exact r.c0, by rw [hs.cell hb]; exact r.c1, by rw [hs.cell hb]; exact r.c2, by rw [hs.cell hb]; exact r.c3, fun j => by rw [frozenR (hs.2 bs hb)]; exact r.fr j⟩
theorem Lr.crash (V : RWorks G RH SH) (C : RStops RH) (h : Lr RH w wr q P m size st aa l bs y0 y1 y2 y3) (keep : Int) :
    Calls Tryz.prog 13 #[.pointer (some ⟨q, 0, none⟩), .int .i64 keep] wr fun e w' => e = .returned (.tuple #[]) ∧ Lr RH w w' q P m size ⟨st.es, st.s, []⟩ aa l bs y0 y1 y2 y3 :=
  (h.1.crash V C keep).mono (fun _ _ z => ⟨z.1, h.stays z.2.1 z.2.2⟩)
theorem Lr.store (V : RWorks G RH SH) (h : Lr RH w wr q P m size st aa l bs y0 y1 y2 y3) :
    Calls Tryz.prog 9 #[.pointer (some ⟨q, 0, none⟩)] wr fun e w' => ∃ q' F0, e = .returned (.pointer (some ⟨q', 0, none⟩)) ∧ SH w' w.heap.size q' F0 st.s ∧ Lr RH w w' q P m size st aa l bs y0 y1 y2 y3 :=
  (h.1.store V).mono (fun _ _ ⟨q', F0, h1, h2, h3⟩ => ⟨q', F0, h1, h2, h.below V h3⟩)
end
section
variable {G : World → Prop} {RH : World → Nat → Nat → (Nat → Prop) → Pn.Pln → Int → Int → Str → Prop} {SH : World → Nat → Nat → (Nat → Prop) → Sto → Prop}
set_option maxRecDepth 100000 in
set_option maxHeartbeats 4000000 in
theorem stops_any (hN : ∀ {w w' : World}, G w → Below w.heap.size w w' → G w') (V : RWorks G RH SH) (C : RStops RH) (E : SSees SH) (P : Pn.Pln) (ap : Option Addr) (cp : Nat) (a : Option Addr) (l : List Stp) (c : Nat) (keep : Int) (w : World) (hP : SmallP P) (hsl : SlS w ap P.f) (hcp : P.f.length ≤ cp) (hl : SlP w a l) (hlz : ∀ k, k < l.length → SmallT (spt l k)) (hG : G w) :
    Calls Tryz.prog 5 #[plV P ap cp, .slice a l.length c, .int .i64 keep] w fun e w' => e = .returned (.bool true) ∧ Below w.heap.size w w' := by
  unfold plV
  have b1 : Below w.heap.size w (w.alloc (.cells #[.string P.n, .slice ap P.f.length cp, .int .i64 (nth P.v 0), .int .i64 (nth P.v 1), .int .i64 (nth P.v 2), .int .i64 (nth P.v 3), .int .i64 (nth P.v 4), .int .i64 (nth P.v 5), .int .i64 (nth P.v 6), .int .i64 (nth P.v 7)] 24)) := (Below.refl _ _).alloc (Nat.le_refl _) _
  have p1 := PB.new w P.n ap P.f.length cp (nth P.v 0) (nth P.v 1) (nth P.v 2) (nth P.v 3) (nth P.v 4) (nth P.v 5) (nth P.v 6) (nth P.v 7) 24
  obtain ⟨W1, hW1⟩ : ∃ W1, W1 = w.alloc (.cells #[.string P.n, .slice ap P.f.length cp, .int .i64 (nth P.v 0), .int .i64 (nth P.v 1), .int .i64 (nth P.v 2), .int .i64 (nth P.v 3), .int .i64 (nth P.v 4), .int .i64 (nth P.v 5), .int .i64 (nth P.v 6), .int .i64 (nth P.v 7)] 24) := ⟨_, rfl⟩
  rw [← hW1] at b1 p1
  obtain ⟨bp, hbp⟩ : ∃ bp, bp = w.heap.size := ⟨_, rfl⟩
  rw [← hbp] at p1
  have H2 : Hid (PB W1 bp P.n ap P.f.length cp (nth P.v 0) (nth P.v 1) (nth P.v 2) (nth P.v 3) (nth P.v 4) (nth P.v 5) (nth P.v 6) (nth P.v 7) ∧ SlP W1 a l ∧ SlS W1 ap P.f ∧ G W1 ∧ Below w.heap.size w W1) := hide ⟨p1, hl.next b1, hsl.next b1, hN hG b1, b1⟩
  have HP := hide hP
  have HL := hide hlz
  have PU := hide (published_any hN V E W1 (unhide H2).2.2.2.1)
  clear hsl hl hlz hG b1 p1 hP
  go_enter Tryz.func5, Tryz.ntmps5
  go_wp2_with fail
  rw [← hbp, ← hW1]
  clear hbp hW1
  refine (unhide PU).mono ?_
  rintro e w3 ⟨rfl, b3⟩
  have H3 : Hid (PB w3 bp P.n ap P.f.length cp (nth P.v 0) (nth P.v 1) (nth P.v 2) (nth P.v 3) (nth P.v 4) (nth P.v 5) (nth P.v 6) (nth P.v 7) ∧ SlP w3 a l ∧ SlS w3 ap P.f ∧ G w3 ∧ Below w.heap.size w w3) := hide ⟨(unhide H2).1.next b3, (unhide H2).2.1.next b3, (unhide H2).2.2.1.next b3, hN (unhide H2).2.2.2.1 b3, bstep (unhide H2).2.2.2.2 b3⟩
  clear PU b3 H2
  obtain ⟨_, y0, y1, y2, y3, y4, y5, y6, y7, y8, y9⟩ := (unhide H3).1
  by_cases hE : Pn.planE P = 0
  · have PN := hide (Ray.new V (m := 65536) (size := 4096) w3 P ap cp (unhide HP) (unhide H3).2.2.1 hcp (unhide H3).2.2.2.1 hE (by decide) (by decide))
    unfold plV at PN
    go_wp2_with fail
    refine (unhide PN).mono ?_
    rintro e w4 ⟨q, rfl, r4⟩
    have HR4 := hide r4
    have HB3 := hide (And.intro (unhide H3).2.1 (unhide H3).2.2.2.2)
    clear PN r4 H3 y0 y1 y2 y3 y4 y5 y6 y7 y8 y9
    by_cases h60 : 60 < l.length
    · have g60 : decide ((60 : Int) < (l.length : Int)) = true := decide_eq_true (by omega)
      go_wp2_with fail
      go_ret
      exact ⟨rfl, bstep (unhide HB3).2 (unhide HR4).bl⟩
    · have g60 : decide ((60 : Int) < (l.length : Int)) = false := decide_eq_false (by omega)
      go_wp2_with fail
      go_loopw [29] (fun iv wr => ∃ (k : Nat) (st : Str), iv = .int .i64 k ∧ k ≤ l.length ∧ Hid (Ray RH (fun _ => False) w3 wr q P 65536 4096 st)) (fun iv _ => l.length - (intOf iv).toNat)
      case atStart => exact ⟨0, noStr, rfl, Nat.zero_le _, HR4⟩
      case round =>
        clear HR4
        obtain ⟨k, st, rfl, hk, HR⟩ := hrel
        by_cases hlt : k < l.length
        · have HH := hide ((unhide HB3).1.from (unhide HR).bl (Nat.le_refl _))
          obtain ⟨ba, o, rfl, t10⟩ := (unhide HH) k hlt
          obtain ⟨_, z0, z1, z2, z3, z4, z5, z6, z7, z8, z9⟩ := t10
          obtain ⟨sp, hsp⟩ : ∃ sp, spt l k = sp := ⟨_, rfl⟩
          have hz := unhide HL k hlt
          rw [hsp] at z0 z1 z2 z3 z4 z5 z6 z7 z8 z9 hz
          have k5 : Below wr.heap.size wr (wr.alloc (.cells #[.int .i64 sp.k, .int .i64 sp.now, .int .i64 sp.n, .string sp.x.s, .string sp.x.i, .string sp.x.h, .string sp.x.d, .int .i64 sp.x.x, .int .i64 sp.x.ro, .string sp.f] 34)) := (Below.refl _ _).alloc (Nat.le_refl _) _
          have PB5 := hide (((unhide HR).below V k5).publish V sp.now sp.x hz.x)
          clear hsp k5 hz HH
          go_wp2_with fail
          refine (unhide PB5).mono ?_
          rintro e w5 ⟨rfl, r5, _⟩
          have HR5 := hide r5
          obtain ⟨st5, hst5⟩ : ∃ st5, (pubP P 65536 4096 sp.now sp.x st).2 = st5 := ⟨_, rfl⟩
          rw [hst5] at HR5
          have PS := hide ((unhide HR5).store V)
          have hok := hide (unhide HR5).fit.vok.ok
          clear r5 PB5 HR z0 z1 z2 z3 z4 z5 z6 z7 z8 z9 hst5
          go_wp2_with fail
          refine (unhide PS).mono ?_
          rintro e w7 ⟨qs, F7, rfl, s7, b7⟩
          have HR7 := hide ((unhide HR5).below V b7)
          have PA := hide (E.all s7 (unhide hok) (unhide HR7).room)
          clear PS s7 b7 HR5
          go_wp2_with fail
          refine (unhide PA).mono ?_
          rintro e w8 ⟨v8, rfl, a8, b8⟩
          obtain ⟨aa, cc, rfl, _, _, sl8⟩ := a8.shape
          have HR8 : Hid (Ray RH (fun k => ∃ z, aa = some z ∧ z.block = k) w3 w8 q P 65536 4096 st5) := hide ((unhide HR7).mine V b8 (fun k hk => by
            obtain ⟨z, hz, e⟩ := hk
            subst hz
            right
            have := World.ownsRow.lt a8 z.block rfl
            rw [← e]
            exact this))
          have HS8 := hide sl8
          have P9 := hide ((unhide HR8).store V)
          clear PA a8 b8 sl8 HR7
          go_wp2_with fail
          refine (unhide P9).mono ?_
          rintro e w9 ⟨q9, F9, rfl, s9, b9⟩
          have HR9 := hide ((unhide HR8).below V b9)
          have HS9 := hide ((unhide HS8).below b9)
          have PU := hide (E.sums s9 (unhide hok) (unhide HR9).room)
          clear P9 s9 b9 HR8 HS8
          go_wp2_with fail
          refine (unhide PU).mono ?_
          rintro e w10 ⟨rfl, b10⟩
          have L10 := hide (Lr.new V ((unhide HR9).below V b10) ((unhide HS9).below b10) (st5.s.l.length : Int) (byteN st5.s.l : Int) (firstQ st5.s.l) st5.s.last)
          have hfew : st5.s.l.length ≤ 200 := (unhide hok).few
          clear PU b10 HR9 HS9 hok
          obtain ⟨bs, hbs⟩ : ∃ bs, bs = w10.heap.size := ⟨_, rfl⟩
          obtain ⟨W10, hW10⟩ : ∃ W10, W10 = w10.alloc (.cells #[.int .i64 (st5.s.l.length : Int), .int .i64 (byteN st5.s.l : Int), .int .i64 (firstQ st5.s.l), .int .i64 st5.s.last] 46) := ⟨_, rfl⟩
          rw [← hbs, ← hW10] at L10
          by_cases hm3 : k % 3 = 0
          · have g3 : (((k : Int) % 3) == 0) = true := by rw [beq_iff_eq]; omega
            have PK := hide ((unhide L10).crash V C keep)
            clear L10
            go_wp2_with fail
            rw [← hW10]
            rw [← hbs]
            clear hW10 hbs
            refine (unhide PK).mono ?_
            rintro e w11 ⟨rfl, l11⟩
            have L14 := hide (l11.below V (Below.refl _ _).drew)
            clear PK l11 g3 hm3
            have P15 := hide ((unhide L14).store V)
            have k0 := SB.at4r (unhide L14).2.2
            have hNq := neqRs (st5.s.l.length : Int) (byteN st5.s.l : Int) (firstQ st5.s.l) st5.s.last
            have hm : Tryz.prog.eqGuardType Tryz.prog.depth 46 = false := by kernel_rfl
            go_wp2_with fail
            go_region_held3 (At4r bs (st5.s.l.length : Int) (byteN st5.s.l : Int) (firstQ st5.s.l) st5.s.last) (first | assumption | go_keep)
              (first
                | (go_at_call 9; refine (unhide P15).mono ?_; rintro e wA ⟨qA, FA, rfl, hA, lA⟩; have kA := SB.at4r lA.2.2; have LA := hide lA; have PA := hide (E.all hA lA.1.fit.vok.ok lA.1.room); clear hA lA P15)
                | (go_at_call 10; refine (unhide PA).mono ?_; rintro e wB ⟨vB, rfl, aB, bB⟩; obtain ⟨ab, cb, rfl, cb1, cb2, sB⟩ := aB.shape; have LB := hide ((unhide LA).below V bB); have kB := SB.at4r (unhide LB).2.2; have PB := hide (equal_rec ab aa cb cc st5.s.l wB sB (unhide LB).2.1 (by omega)); clear aB bB sB PA LA)
                | (go_at_call 11; refine (unhide PB).mono ?_; rintro e wC ⟨rfl, nq, rfl⟩; have LC := hide ((unhide LB).below V (below_drewN (Below.refl _ _) nq)); have kC := SB.at4r (unhide LC).2.2; have PC := hide ((unhide LC).store V); clear PB LB)
                | (go_at_call 9; refine (unhide PC).mono ?_; rintro e wD ⟨qD, FD, rfl, hD, lD⟩; have kD := SB.at4r lD.2.2; have LD := hide lD; have PD := hide (E.sums hD lD.1.fit.vok.ok lD.1.room); clear hD lD PC)
                | (go_at_call 12; refine (unhide PD).mono ?_; rintro e wE ⟨rfl, bE⟩; have LE := hide ((unhide LD).below V bE); have kE := SB.at4r (unhide LE).2.2; clear bE PD))
            have HRE := hide ((unhide LE).1.mine V (Cs' := fun _ => False) (Below.refl _ _) (fun _ z => z.elim))
            clear kA kB kC kD kE k0 LC LD LE L14 hNq hm
            go_wp2_with fail
            refine ⟨⟨k + 1, _, by go_num, by omega, HRE⟩, ?_⟩
            simp [intOf]; omega
          · have g3 : (((k : Int) % 3) == 0) = false := by rw [beq_eq_false_iff_ne]; omega
            have L14 := hide ((unhide L10).below V (Below.refl _ _).drew)
            rw [hW10] at L14
            rw [hbs] at L14
            clear L10 hW10 hbs hm3
            have P15 := hide ((unhide L14).store V)
            have k0 := SB.at4r (unhide L14).2.2
            have hNq := neqRs (st5.s.l.length : Int) (byteN st5.s.l : Int) (firstQ st5.s.l) st5.s.last
            have hm : Tryz.prog.eqGuardType Tryz.prog.depth 46 = false := by kernel_rfl
            go_wp2_with fail
            go_region_held3 (At4r w10.heap.size (st5.s.l.length : Int) (byteN st5.s.l : Int) (firstQ st5.s.l) st5.s.last) (first | assumption | go_keep)
              (first
                | (go_at_call 9; refine (unhide P15).mono ?_; rintro e wA ⟨qA, FA, rfl, hA, lA⟩; have kA := SB.at4r lA.2.2; have LA := hide lA; have PA := hide (E.all hA lA.1.fit.vok.ok lA.1.room); clear hA lA P15)
                | (go_at_call 10; refine (unhide PA).mono ?_; rintro e wB ⟨vB, rfl, aB, bB⟩; obtain ⟨ab, cb, rfl, cb1, cb2, sB⟩ := aB.shape; have LB := hide ((unhide LA).below V bB); have kB := SB.at4r (unhide LB).2.2; have PB := hide (equal_rec ab aa cb cc st5.s.l wB sB (unhide LB).2.1 (by omega)); clear aB bB sB PA LA)
                | (go_at_call 11; refine (unhide PB).mono ?_; rintro e wC ⟨rfl, nq, rfl⟩; have LC := hide ((unhide LB).below V (below_drewN (Below.refl _ _) nq)); have kC := SB.at4r (unhide LC).2.2; have PC := hide ((unhide LC).store V); clear PB LB)
                | (go_at_call 9; refine (unhide PC).mono ?_; rintro e wD ⟨qD, FD, rfl, hD, lD⟩; have kD := SB.at4r lD.2.2; have LD := hide lD; have PD := hide (E.sums hD lD.1.fit.vok.ok lD.1.room); clear hD lD PC)
                | (go_at_call 12; refine (unhide PD).mono ?_; rintro e wE ⟨rfl, bE⟩; have LE := hide ((unhide LD).below V bE); have kE := SB.at4r (unhide LE).2.2; clear bE PD))
            have HRE := hide ((unhide LE).1.mine V (Cs' := fun _ => False) (Below.refl _ _) (fun _ z => z.elim))
            clear kA kB kC kD kE k0 LC LD LE L14 hNq hm
            go_wp2_with fail
            refine ⟨⟨k + 1, _, by go_num, by omega, HRE⟩, ?_⟩
            simp [intOf]; omega
        · obtain rfl : k = l.length := by omega
          have B8 := hide (bstep (unhide HB3).2 (unhide HR).bl)
          go_wp2_with fail
          go_ret
          exact ⟨rfl, unhide B8⟩
  · have PN := hide (V.wrong w3 P ap cp 65536 4096 (unhide HP) (unhide H3).2.2.1 hcp (unhide H3).2.2.2.1 hE)
    unfold plV at PN
    obtain ⟨EE, hEE⟩ : ∃ EE, Pn.planE P = EE := ⟨_, rfl⟩
    rw [hEE] at PN hE
    have gE : (EE != 0) = true := by simpa using hE
    clear hEE
    go_wp2_with fail
    refine (unhide PN).mono ?_
    rintro e w4 ⟨rfl, b4⟩
    have B4 := hide (bstep (unhide H3).2.2.2.2 b4)
    clear b4 PN H3 y0 y1 y2 y3 y4 y5 y6 y7 y8 y9
    go_wp2_with fail
    go_ret
    exact ⟨rfl, unhide B4⟩
end
end Go.Proofs.YtohjipnkoiifhahGreatDoor.Dk
