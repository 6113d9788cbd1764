/-
  Contract of slices.Equal at two slices that show the same records.
  The law StreamStops, over what is asked of the program's stream.
  The law StreamStops returns true for every input, over what is asked of the program's stream and store. The card ties the listed tables to the program's text.
  The law StreamStops: the card, out of the stream's contracts.
-/
import Derived.Test.YtmccpkpeimejhahGreatDoorJointRowGPapNWorksGPapH
import Derived.Deep.QuietTactic
import Derived.BigQuiet
import Derived.Test.YtmccpkpeimejhahGreatDoorJointRowStRowSoPapReWalkRa
import Derived.Test.YtmccpkpeimejhahGreatDoorJointRowSRowUWalkXSOvV
import Derived.Deep.RegionHeld3
import Derived.Test.YtmccpkpeimejhahGreatDoorCards
import Derived.Test.YtmccpkpeimejhahGreatDoorTie
import Derived.Test.YtmccpkpeimejhahGreatDoorJointOsTOsWRowPfRowR
import Derived.ProofKit
import Derived.OpenShut
import Derived.SizedLaws
import Derived.Deep.DeepHandedRow
import Derived.Test.YtmccpkpeimejhahGreatDoorJointPapPwWalkY4RowTcPapL
import Derived.Test.YtmccpkpeimejhahGreatDoorJointWalkM4WalkMDWalkMFWalkN1
import Derived.Test.YtmccpkpeimejhahGreatDoorJointWalkL3WalkL5PapFPapS
import Derived.Test.YtmccpkpeimejhahGreatDoorJointWalkXWRowTPapRaPapRb
namespace Go.Proofs.YtmccpkpeimejhahGreatDoor.Dk
open Go.RowKit

theorem neqR (r : Rc) (W : World) : (binOp .neq 42 (.agg #[.int .i64 r.k, .int .i64 r.q, .int .i64 r.t, .string r.s, .string r.h, .string r.d]) (.agg #[.int .i64 r.k, .int .i64 r.q, .int .i64 r.t, .string r.s, .string r.h, .string r.d])).run Tryz.prog W = .ok (.bool false) W := by
  have u3 := Tryz.underlying3
  have u9 := Tryz.underlying9
  have hS : Tryz.prog.underlying 42 = some (.struct (Tryz.prog.fieldsOf 42)) := by kernel_rfl
  have hp : Tryz.prog.stoodInHeld 42 = false := by kernel_rfl
  rw [run_neq_struct, show (10000 : Nat) = 9999 + 1 from rfl, run_equalIn_agg W 9999 42 _ _ hS hp]
  simp only [Program.fieldsOf, Tryz.underlying42]
  go_simp

set_option maxHeartbeats 2000000 in
set_option maxRecDepth 100000 in
theorem equal_rec (a b : Option Addr) (ca cb : Nat) (l : List Rc) (w : World) (ha : SlR w a l) (hb : SlR w b l) (h100 : l.length ≤ 1000000) :
    Calls Tryz.prog 11 #[.slice a l.length ca, .slice b l.length cb] w fun e w' => e = .returned (.bool true) ∧ ∃ q, w' = w.drewN q := by
  have Ha := hide ha
  have Hb := hide hb
  clear ha hb
  have hm : Tryz.prog.eqGuardType Tryz.prog.depth 42 = false := by kernel_rfl
  go_enter Tryz.func11, Tryz.ntmps11
  go_wp2
  go_loopw [13] (fun kv wr => ∃ (k : Nat), kv = .int .i64 k ∧ k ≤ l.length ∧ ∃ n, wr = w.drewN n) (fun kv _ => l.length - (intOf kv).toNat)
  case atStart => exact ⟨0, rfl, Nat.zero_le _, 0, rfl⟩
  case round =>
    obtain ⟨k, rfl, hk, n, rfl⟩ := hrel
    by_cases hlt : k < l.length
    · obtain ⟨g, o, rfl, s1⟩ := unhide Ha k hlt
      obtain ⟨h, o2, rfl, s2⟩ := unhide Hb k hlt
      obtain ⟨_, x0, x1, x2, x3, x4, x5⟩ := s1
      obtain ⟨_, y0, y1, y2, y3, y4, y5⟩ := s2
      have hne := neqR (rc l k)
      go_wp2
      go_quiet (fail)
      go_wp2
      exact ⟨⟨k + 1, by go_num, by omega, _, rfl⟩, by simp [intOf]; omega⟩
    · go_wp2
      go_ret
      exact ⟨rfl, n, rfl⟩
end Go.Proofs.YtmccpkpeimejhahGreatDoor.Dk

namespace Go.Proofs.YtmccpkpeimejhahGreatDoor.Dk
open Go.RowKit

theorem neqRs (x0 x1 x2 x3 : Int) (W : World) : (binOp .neq 46 (.agg #[.int .i64 x0, .int .i64 x1, .int .i64 x2, .int .i64 x3]) (.agg #[.int .i64 x0, .int .i64 x1, .int .i64 x2, .int .i64 x3])).run Tryz.prog W = .ok (.bool false) W := by
  have u3 := Tryz.underlying3
  have hS : Tryz.prog.underlying 46 = some (.struct (Tryz.prog.fieldsOf 46)) := by kernel_rfl
  have hp : Tryz.prog.stoodInHeld 46 = false := by kernel_rfl
  rw [run_neq_struct, show (10000 : Nat) = 9999 + 1 from rfl, run_equalIn_agg W 9999 46 _ _ hS hp]
  simp only [Program.fieldsOf, Tryz.underlying46]
  go_simp
abbrev At4r (b : Nat) (x0 x1 x2 x3 : Int) (w : World) : Prop := w.cell? ⟨b, 0, none⟩ = some (.int .i64 x0) ∧ w.cell? ⟨b, 1, none⟩ = some (.int .i64 x1) ∧ w.cell? ⟨b, 2, none⟩ = some (.int .i64 x2) ∧ w.cell? ⟨b, 3, none⟩ = some (.int .i64 x3)
theorem SB.at4r {w : World} {b : Nat} {x0 x1 x2 x3 : Int} (h : SB w b x0 x1 x2 x3) : At4r b x0 x1 x2 x3 w := ⟨h.c0, h.c1, h.c2, h.c3⟩
theorem frozenR {w w' : World} {k j : Nat} (h : w'.heap[k]? = w.heap[k]?) : w'.frozen? ⟨k, j, none⟩ = w.frozen? ⟨k, j, none⟩ := by
  unfold World.frozen?
  simp only [h]
/-- a stream on its way; the row at aa shows l; the sums stand at block bs -/
def Lr (RH : World → Nat → Nat → (Nat → Prop) → Pn.Pln → Int → Int → Str → Prop) (w wr : World) (q : Nat) (P : Pn.Pln) (m size : Int) (st : Str) (aa : Option Addr) (l : List Rc) (bs : Nat) (y0 y1 y2 y3 : Int) : Prop :=
  Ray RH (fun k => (∃ z, aa = some z ∧ z.block = k) ∨ k = bs) w wr q P m size st ∧ SlR wr aa l ∧ SB wr bs y0 y1 y2 y3
section
variable {G : World → Prop} {RH : World → Nat → Nat → (Nat → Prop) → Pn.Pln → Int → Int → Str → Prop} {SH : World → Nat → Nat → (Nat → Prop) → Sto → Prop} {w wr w' : World} {q bs : Nat} {P : Pn.Pln} {m size : Int} {st st' : Str} {aa : Option Addr} {l : List Rc} {y0 y1 y2 y3 : Int}
theorem Lr.new (V : RWorks G RH SH) (h : Ray RH (fun k => ∃ z, aa = some z ∧ z.block = k) w wr q P m size st) (hs : SlR wr aa l) (y0 y1 y2 y3 : Int) : Lr RH w (wr.alloc (.cells #[.int .i64 y0, .int .i64 y1, .int .i64 y2, .int .i64 y3] 46)) q P m size st aa l wr.heap.size y0 y1 y2 y3 := by
  have hb : Below wr.heap.size wr (wr.alloc (.cells #[.int .i64 y0, .int .i64 y1, .int .i64 y2, .int .i64 y3] 46)) := (Below.refl _ _).alloc (Nat.le_refl _) _
  refine ⟨h.mine V hb (fun k hk => ?_), hs.below hb, SB.new _ _ _ _ _ _⟩
  rcases hk with y | rfl
  · exact .inl y
  · exact .inr ⟨Nat.le_refl _, by simp⟩
theorem Lr.below (V : RWorks G RH SH) (h : Lr RH w wr q P m size st aa l bs y0 y1 y2 y3) (hb : Below wr.heap.size wr w') : Lr RH w w' q P m size st aa l bs y0 y1 y2 y3 := ⟨h.1.below V hb, h.2.1.below hb, h.2.2.next hb⟩
theorem Lr.stays (h : Lr RH w wr q P m size st aa l bs y0 y1 y2 y3) (h1 : Ray RH (fun k => (∃ z, aa = some z ∧ z.block = k) ∨ k = bs) w w' q P m size st') (hs : Stay (fun k => (∃ z, aa = some z ∧ z.block = k) ∨ k = bs) wr w') : Lr RH w w' q P m size st' aa l bs y0 y1 y2 y3 := by
  refine ⟨h1, hs.recs h.2.1 (fun z hz => .inl ⟨z, hz, rfl⟩), ?_⟩
  have r := h.2.2
  have hb : (∃ z, aa = some z ∧ z.block = bs) ∨ bs = bs := .inr rfl
  exact ⟨Nat.lt_of_lt_of_le r.lt hs.1, by rw [hs.cell hb]; exact r.c0, by rw [hs.cell hb]; exact r.c1, by rw [hs.cell hb]; exact r.c2, by rw [hs.cell hb]; exact r.c3, fun j => by rw [frozenR (hs.2 bs hb)]; exact r.fr j⟩
theorem Lr.crash (V : RWorks G RH SH) (C : RStops RH) (h : Lr RH w wr q P m size st aa l bs y0 y1 y2 y3) (keep : Int) :
    Calls Tryz.prog 13 #[.pointer (some ⟨q, 0, none⟩), .int .i64 keep] wr fun e w' => e = .returned (.tuple #[]) ∧ Lr RH w w' q P m size ⟨st.es, st.s, []⟩ aa l bs y0 y1 y2 y3 :=
  (h.1.crash V C keep).mono (fun _ _ z => ⟨z.1, h.stays z.2.1 z.2.2⟩)
theorem Lr.store (V : RWorks G RH SH) (h : Lr RH w wr q P m size st aa l bs y0 y1 y2 y3) :
    Calls Tryz.prog 9 #[.pointer (some ⟨q, 0, none⟩)] wr fun e w' => ∃ q' F0, e = .returned (.pointer (some ⟨q', 0, none⟩)) ∧ SH w' w.heap.size q' F0 st.s ∧ Lr RH w w' q P m size st aa l bs y0 y1 y2 y3 :=
  (h.1.store V).mono (fun _ _ ⟨q', F0, h1, h2, h3⟩ => ⟨q', F0, h1, h2, h.below V h3⟩)
end
section
variable {G : World → Prop} {RH : World → Nat → Nat → (Nat → Prop) → Pn.Pln → Int → Int → Str → Prop} {SH : World → Nat → Nat → (Nat → Prop) → Sto → Prop}
set_option maxRecDepth 100000 in
set_option maxHeartbeats 4000000 in
theorem stops_any (hN : ∀ {w w' : World}, G w → Below w.heap.size w w' → G w') (V : RWorks G RH SH) (C : RStops RH) (E : SSees SH) (P : Pn.Pln) (ap : Option Addr) (cp : Nat) (a : Option Addr) (l : List Stp) (c : Nat) (keep : Int) (w : World) (hP : SmallP P) (hsl : SlS w ap P.f) (hcp : P.f.length ≤ cp) (hl : SlP w a l) (hlz : ∀ k, k < l.length → SmallT (spt l k)) (hG : G w) :
    Calls Tryz.prog 5 #[plV P ap cp, .slice a l.length c, .int .i64 keep] w fun e w' => e = .returned (.bool true) ∧ Below w.heap.size w w' := by
  unfold plV
  have b1 : Below w.heap.size w (w.alloc (.cells #[.string P.n, .slice ap P.f.length cp, .int .i64 (nth P.v 0), .int .i64 (nth P.v 1), .int .i64 (nth P.v 2), .int .i64 (nth P.v 3), .int .i64 (nth P.v 4), .int .i64 (nth P.v 5), .int .i64 (nth P.v 6), .int .i64 (nth P.v 7)] 24)) := (Below.refl _ _).alloc (Nat.le_refl _) _
  have p1 := PB.new w P.n ap P.f.length cp (nth P.v 0) (nth P.v 1) (nth P.v 2) (nth P.v 3) (nth P.v 4) (nth P.v 5) (nth P.v 6) (nth P.v 7) 24
  obtain ⟨W1, hW1⟩ : ∃ W1, W1 = w.alloc (.cells #[.string P.n, .slice ap P.f.length cp, .int .i64 (nth P.v 0), .int .i64 (nth P.v 1), .int .i64 (nth P.v 2), .int .i64 (nth P.v 3), .int .i64 (nth P.v 4), .int .i64 (nth P.v 5), .int .i64 (nth P.v 6), .int .i64 (nth P.v 7)] 24) := ⟨_, rfl⟩
  rw [← hW1] at b1 p1
  obtain ⟨bp, hbp⟩ : ∃ bp, bp = w.heap.size := ⟨_, rfl⟩
  rw [← hbp] at p1
  have H2 : Hid (PB W1 bp P.n ap P.f.length cp (nth P.v 0) (nth P.v 1) (nth P.v 2) (nth P.v 3) (nth P.v 4) (nth P.v 5) (nth P.v 6) (nth P.v 7) ∧ SlP W1 a l ∧ SlS W1 ap P.f ∧ G W1 ∧ Below w.heap.size w W1) := hide ⟨p1, hl.next b1, hsl.next b1, hN hG b1, b1⟩
  have HP := hide hP
  have HL := hide hlz
  have PU := hide (published_any hN V E W1 (unhide H2).2.2.2.1)
  clear hsl hl hlz hG b1 p1 hP
  go_enter Tryz.func5, Tryz.ntmps5
  go_wp2_with fail
  rw [← hbp, ← hW1]
  clear hbp hW1
  refine (unhide PU).mono ?_
  rintro e w3 ⟨rfl, b3⟩
  have H3 : Hid (PB w3 bp P.n ap P.f.length cp (nth P.v 0) (nth P.v 1) (nth P.v 2) (nth P.v 3) (nth P.v 4) (nth P.v 5) (nth P.v 6) (nth P.v 7) ∧ SlP w3 a l ∧ SlS w3 ap P.f ∧ G w3 ∧ Below w.heap.size w w3) := hide ⟨(unhide H2).1.next b3, (unhide H2).2.1.next b3, (unhide H2).2.2.1.next b3, hN (unhide H2).2.2.2.1 b3, bstep (unhide H2).2.2.2.2 b3⟩
  clear PU b3 H2
  obtain ⟨_, y0, y1, y2, y3, y4, y5, y6, y7, y8, y9⟩ := (unhide H3).1
  by_cases hE : Pn.planE P = 0
  · have PN := hide (Ray.new V (m := 65536) (size := 4096) w3 P ap cp (unhide HP) (unhide H3).2.2.1 hcp (unhide H3).2.2.2.1 hE (by decide) (by decide))
    unfold plV at PN
    go_wp2_with fail
    refine (unhide PN).mono ?_
    rintro e w4 ⟨q, rfl, r4⟩
    have HR4 := hide r4
    have HB3 := hide (And.intro (unhide H3).2.1 (unhide H3).2.2.2.2)
    clear PN r4 H3 y0 y1 y2 y3 y4 y5 y6 y7 y8 y9
    by_cases h60 : 60 < l.length
    · have g60 : decide ((60 : Int) < (l.length : Int)) = true := decide_eq_true (by omega)
      go_wp2_with fail
      go_ret
      exact ⟨rfl, bstep (unhide HB3).2 (unhide HR4).bl⟩
    · have g60 : decide ((60 : Int) < (l.length : Int)) = false := decide_eq_false (by omega)
      go_wp2_with fail
      go_loopw [29] (fun iv wr => ∃ (k : Nat) (st : Str), iv = .int .i64 k ∧ k ≤ l.length ∧ Hid (Ray RH (fun _ => False) w3 wr q P 65536 4096 st)) (fun iv _ => l.length - (intOf iv).toNat)
      case atStart => exact ⟨0, noStr, rfl, Nat.zero_le _, HR4⟩
      case round =>
        clear HR4
        obtain ⟨k, st, rfl, hk, HR⟩ := hrel
        by_cases hlt : k < l.length
        · have HH := hide ((unhide HB3).1.from (unhide HR).bl (Nat.le_refl _))
          obtain ⟨ba, o, rfl, t10⟩ := (unhide HH) k hlt
          obtain ⟨_, z0, z1, z2, z3, z4, z5, z6, z7, z8, z9⟩ := t10
          obtain ⟨sp, hsp⟩ : ∃ sp, spt l k = sp := ⟨_, rfl⟩
          have hz := unhide HL k hlt
          rw [hsp] at z0 z1 z2 z3 z4 z5 z6 z7 z8 z9 hz
          have k5 : Below wr.heap.size wr (wr.alloc (.cells #[.int .i64 sp.k, .int .i64 sp.now, .int .i64 sp.n, .string sp.x.s, .string sp.x.i, .string sp.x.h, .string sp.x.d, .int .i64 sp.x.x, .int .i64 sp.x.ro, .string sp.f] 34)) := (Below.refl _ _).alloc (Nat.le_refl _) _
          have PB5 := hide (((unhide HR).below V k5).publish V sp.now sp.x hz.x)
          clear hsp k5 hz HH
          go_wp2_with fail
          refine (unhide PB5).mono ?_
          rintro e w5 ⟨rfl, r5, _⟩
          have HR5 := hide r5
          obtain ⟨st5, hst5⟩ : ∃ st5, (pubP P 65536 4096 sp.now sp.x st).2 = st5 := ⟨_, rfl⟩
          rw [hst5] at HR5
          have PS := hide ((unhide HR5).store V)
          have hok := hide (unhide HR5).fit.vok.ok
          clear r5 PB5 HR z0 z1 z2 z3 z4 z5 z6 z7 z8 z9 hst5
          go_wp2_with fail
          refine (unhide PS).mono ?_
          rintro e w7 ⟨qs, F7, rfl, s7, b7⟩
          have HR7 := hide ((unhide HR5).below V b7)
          have PA := hide (E.all s7 (unhide hok) (unhide HR7).room)
          clear PS s7 b7 HR5
          go_wp2_with fail
          refine (unhide PA).mono ?_
          rintro e w8 ⟨v8, rfl, a8, b8⟩
          obtain ⟨aa, cc, rfl, _, _, sl8⟩ := a8.shape
          have HR8 : Hid (Ray RH (fun k => ∃ z, aa = some z ∧ z.block = k) w3 w8 q P 65536 4096 st5) := hide ((unhide HR7).mine V b8 (fun k hk => by
            obtain ⟨z, hz, e⟩ := hk
            subst hz
            right
            have := World.ownsRow.lt a8 z.block rfl
            rw [← e]
            exact this))
          have HS8 := hide sl8
          have P9 := hide ((unhide HR8).store V)
          clear PA a8 b8 sl8 HR7
          go_wp2_with fail
          refine (unhide P9).mono ?_
          rintro e w9 ⟨q9, F9, rfl, s9, b9⟩
          have HR9 := hide ((unhide HR8).below V b9)
          have HS9 := hide ((unhide HS8).below b9)
          have PU := hide (E.sums s9 (unhide hok) (unhide HR9).room)
          clear P9 s9 b9 HR8 HS8
          go_wp2_with fail
          refine (unhide PU).mono ?_
          rintro e w10 ⟨rfl, b10⟩
          have L10 := hide (Lr.new V ((unhide HR9).below V b10) ((unhide HS9).below b10) (st5.s.l.length : Int) (byteN st5.s.l : Int) (firstQ st5.s.l) st5.s.last)
          have hfew : st5.s.l.length ≤ 200 := (unhide hok).few
          clear PU b10 HR9 HS9 hok
          obtain ⟨bs, hbs⟩ : ∃ bs, bs = w10.heap.size := ⟨_, rfl⟩
          obtain ⟨W10, hW10⟩ : ∃ W10, W10 = w10.alloc (.cells #[.int .i64 (st5.s.l.length : Int), .int .i64 (byteN st5.s.l : Int), .int .i64 (firstQ st5.s.l), .int .i64 st5.s.last] 46) := ⟨_, rfl⟩
          rw [← hbs, ← hW10] at L10
          by_cases hm3 : k % 3 = 0
          · have g3 : (((k : Int) % 3) == 0) = true := by rw [beq_iff_eq]; omega
            have PK := hide ((unhide L10).crash V C keep)
            clear L10
            go_wp2_with fail
            rw [← hW10]
            rw [← hbs]
            clear hW10 hbs
            refine (unhide PK).mono ?_
            rintro e w11 ⟨rfl, l11⟩
            have L14 := hide (l11.below V (Below.refl _ _).drew)
            clear PK l11 g3 hm3
            have P15 := hide ((unhide L14).store V)
            have k0 := SB.at4r (unhide L14).2.2
            have hNq := neqRs (st5.s.l.length : Int) (byteN st5.s.l : Int) (firstQ st5.s.l) st5.s.last
            have hm : Tryz.prog.eqGuardType Tryz.prog.depth 46 = false := by kernel_rfl
            go_wp2_with fail
            go_region_held3 (At4r bs (st5.s.l.length : Int) (byteN st5.s.l : Int) (firstQ st5.s.l) st5.s.last) (first | assumption | go_keep)
              (first
                | (go_at_call 9; refine (unhide P15).mono ?_; rintro e wA ⟨qA, FA, rfl, hA, lA⟩; have kA := SB.at4r lA.2.2; have LA := hide lA; have PA := hide (E.all hA lA.1.fit.vok.ok lA.1.room); clear hA lA P15)
                | (go_at_call 10; refine (unhide PA).mono ?_; rintro e wB ⟨vB, rfl, aB, bB⟩; obtain ⟨ab, cb, rfl, cb1, cb2, sB⟩ := aB.shape; have LB := hide ((unhide LA).below V bB); have kB := SB.at4r (unhide LB).2.2; have PB := hide (equal_rec ab aa cb cc st5.s.l wB sB (unhide LB).2.1 (by omega)); clear aB bB sB PA LA)
                | (go_at_call 11; refine (unhide PB).mono ?_; rintro e wC ⟨rfl, nq, rfl⟩; have LC := hide ((unhide LB).below V (below_drewN (Below.refl _ _) nq)); have kC := SB.at4r (unhide LC).2.2; have PC := hide ((unhide LC).store V); clear PB LB)
                | (go_at_call 9; refine (unhide PC).mono ?_; rintro e wD ⟨qD, FD, rfl, hD, lD⟩; have kD := SB.at4r lD.2.2; have LD := hide lD; have PD := hide (E.sums hD lD.1.fit.vok.ok lD.1.room); clear hD lD PC)
                | (go_at_call 12; refine (unhide PD).mono ?_; rintro e wE ⟨rfl, bE⟩; have LE := hide ((unhide LD).below V bE); have kE := SB.at4r (unhide LE).2.2; clear bE PD))
            have HRE := hide ((unhide LE).1.mine V (Cs' := fun _ => False) (Below.refl _ _) (fun _ z => z.elim))
            clear kA kB kC kD kE k0 LC LD LE L14 hNq hm
            go_wp2_with fail
            refine ⟨⟨k + 1, _, by go_num, by omega, HRE⟩, ?_⟩
            simp [intOf]; omega
          · have g3 : (((k : Int) % 3) == 0) = false := by rw [beq_eq_false_iff_ne]; omega
            have L14 := hide ((unhide L10).below V (Below.refl _ _).drew)
            rw [hW10] at L14
            rw [hbs] at L14
            clear L10 hW10 hbs hm3
            have P15 := hide ((unhide L14).store V)
            have k0 := SB.at4r (unhide L14).2.2
            have hNq := neqRs (st5.s.l.length : Int) (byteN st5.s.l : Int) (firstQ st5.s.l) st5.s.last
            have hm : Tryz.prog.eqGuardType Tryz.prog.depth 46 = false := by kernel_rfl
            go_wp2_with fail
            go_region_held3 (At4r w10.heap.size (st5.s.l.length : Int) (byteN st5.s.l : Int) (firstQ st5.s.l) st5.s.last) (first | assumption | go_keep)
              (first
                | (go_at_call 9; refine (unhide P15).mono ?_; rintro e wA ⟨qA, FA, rfl, hA, lA⟩; have kA := SB.at4r lA.2.2; have LA := hide lA; have PA := hide (E.all hA lA.1.fit.vok.ok lA.1.room); clear hA lA P15)
                | (go_at_call 10; refine (unhide PA).mono ?_; rintro e wB ⟨vB, rfl, aB, bB⟩; obtain ⟨ab, cb, rfl, cb1, cb2, sB⟩ := aB.shape; have LB := hide ((unhide LA).below V bB); have kB := SB.at4r (unhide LB).2.2; have PB := hide (equal_rec ab aa cb cc st5.s.l wB sB (unhide LB).2.1 (by omega)); clear aB bB sB PA LA)
                | (go_at_call 11; refine (unhide PB).mono ?_; rintro e wC ⟨rfl, nq, rfl⟩; have LC := hide ((unhide LB).below V (below_drewN (Below.refl _ _) nq)); have kC := SB.at4r (unhide LC).2.2; have PC := hide ((unhide LC).store V); clear PB LB)
                | (go_at_call 9; refine (unhide PC).mono ?_; rintro e wD ⟨qD, FD, rfl, hD, lD⟩; have kD := SB.at4r lD.2.2; have LD := hide lD; have PD := hide (E.sums hD lD.1.fit.vok.ok lD.1.room); clear hD lD PC)
                | (go_at_call 12; refine (unhide PD).mono ?_; rintro e wE ⟨rfl, bE⟩; have LE := hide ((unhide LD).below V bE); have kE := SB.at4r (unhide LE).2.2; clear bE PD))
            have HRE := hide ((unhide LE).1.mine V (Cs' := fun _ => False) (Below.refl _ _) (fun _ z => z.elim))
            clear kA kB kC kD kE k0 LC LD LE L14 hNq hm
            go_wp2_with fail
            refine ⟨⟨k + 1, _, by go_num, by omega, HRE⟩, ?_⟩
            simp [intOf]; omega
        · obtain rfl : k = l.length := by omega
          have B8 := hide (bstep (unhide HB3).2 (unhide HR).bl)
          go_wp2_with fail
          go_ret
          exact ⟨rfl, unhide B8⟩
  · have PN := hide (V.wrong w3 P ap cp 65536 4096 (unhide HP) (unhide H3).2.2.1 hcp (unhide H3).2.2.2.1 hE)
    unfold plV at PN
    obtain ⟨EE, hEE⟩ : ∃ EE, Pn.planE P = EE := ⟨_, rfl⟩
    rw [hEE] at PN hE
    have gE : (EE != 0) = true := by simpa using hE
    clear hEE
    go_wp2_with fail
    refine (unhide PN).mono ?_
    rintro e w4 ⟨rfl, b4⟩
    have B4 := hide (bstep (unhide H3).2.2.2.2 b4)
    clear b4 PN H3 y0 y1 y2 y3 y4 y5 y6 y7 y8 y9
    go_wp2_with fail
    go_ret
    exact ⟨rfl, unhide B4⟩
end
end Go.Proofs.YtmccpkpeimejhahGreatDoor.Dk

namespace Go.Proofs.YtmccpkpeimejhahGreatDoor.Dk.streamStops
open Go.ChangeShapes Go.WideShapes Go.ChangeAt Go.RowKit Go.Deep

theorem own : ownKnob Tryz.prog.godebug = none := by kernel_rfl
theorem laidOut : laidOutB Tryz.prog = true := by kernel_rfl

set_option maxRecDepth 100000 in
set_option maxHeartbeats 1000000 in
theorem contract {G : World → Prop} {RH : World → Nat → Nat → (Nat → Prop) → Pn.Pln → Int → Int → Str → Prop} {SH : World → Nat → Nat → (Nat → Prop) → Sto → Prop} (hN : ∀ {w w' : World}, G w → Below w.heap.size w w' → G w') (hT : ∀ {W : World}, laidMetH Tryz.prog Rows.streamStopsRow.laid W → G W) (V : RWorks G RH SH) (C : RStops RH) (E : SSees SH) (H : Type) (enc : TypeId × Value → H) (W : World) (base : Nat) (args : Array Value) (ds gs : List (DataW H)) (before : List MemPlace)
    (hval : ∀ (j : Nat) t v, Tryz.f5.params[j]? = some t → args[j]? = some v → Value.okWide Tryz.prog W .any base t v)
    (hW : DataW.Whole enc Tryz.prog Tryz.f5.params.toList Rows.streamStopsSpec.vars false W args.toList ds gs before)
    (hsz : (DataW.weightsEach Tryz.prog (Tryz.f5.params.toList ++ (OpenSpec.ofChange Rows.streamStopsSpec).bare.plain.varTypes Tryz.prog) (ds ++ gs)).all (· ≤ reachBytes) = true) (hlm : laidMetH Tryz.prog Rows.streamStopsRow.laid W) :
    Calls Tryz.prog 5 args W fun e W' => ∃ v, e = .returned v ∧ Rows.streamStopsSpec.post enc Tryz.prog Tryz.f5 false true false false W args v W' := by
  have hG := hT hlm
  have hW' := hW
  obtain ⟨p, q, hA0, hV, rfl, hfz, hnd⟩ := hW
  have hA : DataW.TrodAll enc Tryz.prog W 0 (fun _ => true) true Tryz.f5.params.toList args.toList ds p := hA0
  rw [Tryz.params5] at hA hval hsz
  obtain ⟨v0, vs0, d0, ds0, p0, q0, hargs, rfl, rfl, h0, r0⟩ := trodAll_cons hA
  obtain ⟨v1, vs1, d1, ds1, p1, q1, rfl, rfl, rfl, h1, r1⟩ := trodAll_cons r0
  obtain ⟨v2, vs2, d2, ds2, p2, q2, rfl, rfl, rfl, h2, r2⟩ := trodAll_cons r1
  obtain ⟨rfl, rfl, rfl⟩ := trodAll_nil r2
  obtain rfl : args = #[v0, v1, v2] := by cases args; simp_all
  obtain ⟨rfl, rfl⟩ := trodVars_none hV
  have h0k := h0
  have h1k := h1
  obtain ⟨m2, rfl, rfl, rfl, ws2⟩ := open_int Tryz.underlying3 (hval 2 3 v2 rfl rfl) h2
  clear hA0
  simp only [List.append_nil] at hW'
  have hlt0 : ∀ x ∈ p0, x.block < W.heap.size := fun x hx => by simpa using hW'.lt x (by simp [hx])
  have hw0 : ∀ x ∈ DataW.weights Tryz.prog 24 d0, x ≤ reachBytes := fun x hx => by
    have := List.all_eq_true.1 hsz _ (DataW.weights_mem_each (j := 0) rfl rfl _ hx)
    simpa using this
  have hlt1 : ∀ x ∈ p1, x.block < W.heap.size := fun x hx => by simpa using hW'.lt x (by simp [hx])
  have hw1 : ∀ x ∈ DataW.weights Tryz.prog 25 d1, x ≤ reachBytes := fun x hx => by
    have := List.all_eq_true.1 hsz _ (DataW.weights_mem_each (j := 1) rfl rfl _ hx)
    simpa using this
  obtain ⟨n, a, l, c, x0, x1, x2, x3, x4, x5, x6, x7, rfl, z1, z2, z3, z4, z5⟩ := open_plan (hval 0 24 v0 rfl rfl) h0 hw0
  obtain ⟨at', lt', ct', rfl, t1, t2⟩ := open_steps (hval 1 25 v1 rfl rfl) h1 hw1
  refine (stops_any hN V C E ⟨n, l, [x0, x1, x2, x3, x4, x5, x6, x7]⟩ a c at' lt' ct' m2 W ⟨z1, z3, z4, rfl⟩ z2 z5 t1 t2 hG).mono fun e W' ⟨he, hb⟩ => ?_
  subst he
  exact ⟨_, rfl, _, _, _, [], _, [], hW', trodAll_cons_mk (shut_bool Tryz.underlying4 _) trodAll_mk0, (trodAll_cons_mk (Below.trod laidOut (by kernel_rfl) (of_decide_eq_true (by kernel_rfl)) h0k hb hlt0) (trodAll_cons_mk (Below.trod laidOut (by kernel_rfl) (of_decide_eq_true (by kernel_rfl)) h1k hb hlt1) (trodAll_cons_mk (shut_int Tryz.underlying3 ws2) trodAll_mk0))), rfl, hb.frame _, fun h => by cases h⟩

/-- a world for the witness: the settled one, the listed tables holding what the row says -/
def litCells : Nat → DataW Unit → List Value
  | 0, _ => []
  | _ + 1, .lit (.int k z) => [.int k z]
  | _ + 1, .lit (.string s) => [.string ⟨s.toArray⟩]
  | n + 1, .agg l => l.flatMap (litCells n)
  | _ + 1, _ => []
def withCells (c : Array Value) : Obj → Obj
  | .cells _ t frozen => .cells c t frozen
  | o => o
def heapAt (g : Nat) (d : DataW Unit) (h : Array Obj) : Array Obj := h.modify g (withCells (litCells 4 d).toArray)
/- (the tables are named one by one: a definition that looks them up in the program isn't compiled) -/
def laid (w : World) : World := { w with heap := heapAt 2 Rows.laid_unicode_utf8_first (heapAt 0 Rows.laid_rillbook_plan_bounds (heapAt 3 Rows.laid_unicode_utf8_acceptRanges w.heap)) }
set_option maxRecDepth 100000 in
theorem laid_met (os : Os) : laidMet Tryz.prog Rows.streamStopsRow.laid ((laid (World.holding Tryz.prog os ⟨#[], #[], []⟩)).forCall (fun _ _ => 0) ⟨#[], #[.agg #[.string ⟨#[]⟩, .slice none 0 0, .int .i64 0, .int .i64 0, .int .i64 0, .int .i64 0, .int .i64 0, .int .i64 0, .int .i64 0, .int .i64 0], .slice none 0 0, .int .i64 0], []⟩).memory :=
  laidMet_of_run' 8 (by kernel_rfl) (by kernel_rfl)
theorem reads (os : Os) {H : Type} (enc : TypeId × Value → H) : ∃ places, DataW.whole enc Tryz.prog ((laid (World.holding Tryz.prog os ⟨#[], #[], []⟩)).forCall (fun _ _ => 0) ⟨#[], #[.agg #[.string ⟨#[]⟩, .slice none 0 0, .int .i64 0, .int .i64 0, .int .i64 0, .int .i64 0, .int .i64 0, .int .i64 0, .int .i64 0, .int .i64 0], .slice none 0 0, .int .i64 0], []⟩).memory Tryz.f5.params.toList Rows.streamStopsSpec.vars false (#[.agg #[.string ⟨#[]⟩, .slice none 0 0, .int .i64 0, .int .i64 0, .int .i64 0, .int .i64 0, .int .i64 0, .int .i64 0, .int .i64 0, .int .i64 0], .slice none 0 0, .int .i64 0] : Array Value).toList 8 = some ([.agg [.lit (.string []), .nil, .lit (.int .i64 0), .lit (.int .i64 0), .lit (.int .i64 0), .lit (.int .i64 0), .lit (.int .i64 0), .lit (.int .i64 0), .lit (.int .i64 0), .lit (.int .i64 0)], .nil, .lit (.int .i64 0)], [], places) :=
  ⟨[], by kernel_rfl⟩

set_option maxRecDepth 100000 in
theorem lifted {G : World → Prop} {RH : World → Nat → Nat → (Nat → Prop) → Pn.Pln → Int → Int → Str → Prop} {SH : World → Nat → Nat → (Nat → Prop) → Sto → Prop} (hN : ∀ {w w' : World}, G w → Below w.heap.size w w' → G w') (hT : ∀ {W : World}, laidMetH Tryz.prog Rows.streamStopsRow.laid W → G W) (V : RWorks G RH SH) (C : RStops RH) (E : SSees SH) (os : Os) (started : os.Started) (H : Type) (enc : TypeId × Value → H) (F : Stop.Interp) :
    ReturnsInHanded {} Tryz.checked os 5 .any ((OpenSpec.ofChange Rows.streamStopsSpec).preRow enc Tryz.prog Tryz.f5 Rows.streamStopsRow.domain false Rows.streamStopsRow.laid) (((OpenSpec.ofChange Rows.streamStopsSpec).at F).post enc Tryz.prog Tryz.f5 false true false false) := by
  obtain ⟨places, hx⟩ := reads os enc
  refine returnsInHanded_of_row (C := Tryz.checked) (s := OpenSpec.ofChange Rows.streamStopsSpec) own started (by kernel_rfl) Tryz.func5
    (witness_row_at (enc := enc) (C := Tryz.checked) false (laid (World.holding Tryz.prog os ⟨#[], #[], []⟩)) #[.agg #[.string ⟨#[]⟩, .slice none 0 0, .int .i64 0, .int .i64 0, .int .i64 0, .int .i64 0, .int .i64 0, .int .i64 0, .int .i64 0, .int .i64 0], .slice none 0 0, .int .i64 0] rfl (by kernel_rfl) (by kernel_rfl) (by kernel_rfl)
      (OpenSpec.preRow_of_cond 8 hx (by kernel_rfl) (fun k hk => by cases hk) (by kernel_rfl) (laid_met os))) ?_
  intro W base args ds gs before hval hW _ _ hsz hlm _ _
  exact contract hN hT V C E H enc W base args ds gs before hval hW hsz hlm

theorem said_of {G : World → Prop} {RH : World → Nat → Nat → (Nat → Prop) → Pn.Pln → Int → Int → Str → Prop} {SH : World → Nat → Nat → (Nat → Prop) → Sto → Prop} (hN : ∀ {w w' : World}, G w → Below w.heap.size w w' → G w') (hT : ∀ {W : World}, laidMetH Tryz.prog Rows.streamStopsRow.laid W → G W) (V : RWorks G RH SH) (C : RStops RH) (E : SSees SH) : Rows.StreamStopsSaid :=
  OpenClaim.holds_of_cond 5 Tryz.f5 rfl rfl rfl rfl rfl rfl rfl ⟨rfl, rfl, rfl, rfl, rfl⟩ rfl rfl rfl rfl rfl (by kernel_rfl) Tryz.func5 (by kernel_rfl)
    (of_decide_eq_true (by kernel_rfl)) (by unfold Func.isWrapper; first | (rw [if_pos (by decide +kernel)]; kernel_rfl) | (rw [if_neg (by decide +kernel)]; exact ⟨rfl, rfl⟩))
    (fun os started H enc _ F => by rw [OpenClaim.pre_eq_preRow]; exact lifted hN hT V C E os started H enc F)

/-- no parameter wants a stand-in; the program's own looks are as the card says -/
theorem plain (f : FuncId) (fn : Func) (hf : Tryz.pinned.checked.prog.funcNamed Rows.streamStopsRow.func = some f) (hfn : Tryz.pinned.checked.prog.funcs[f]? = some fn) :
    Rows.streamStopsCard.stood.looks = Tryz.pinned.checked.prog.looks [] ∧ ∀ (j : Nat) t, fn.params[j]? = some t → Tryz.pinned.checked.prog.wantsStandIn t = false := by
  obtain rfl : f = 5 := Option.some.inj ((show Tryz.prog.funcNamed Rows.streamStopsRow.func = some 5 by kernel_rfl).symm.trans hf) |>.symm
  obtain rfl : fn = Tryz.f5 := (Option.some.inj (Tryz.func5.symm.trans hfn)).symm
  refine ⟨by kernel_rfl, fun j t ht => ?_⟩
  rw [Tryz.params5] at ht
  have hm : t = 24 ∨ t = 25 ∨ t = 3 := by
    have := Array.mem_of_getElem? ht
    simp at this
    omega
  rcases hm with rfl | rfl | rfl
  · exact (show Tryz.prog.wantsStandIn 24 = false by kernel_rfl)
  · exact (show Tryz.prog.wantsStandIn 25 = false by kernel_rfl)
  · exact (show Tryz.prog.wantsStandIn 3 = false by kernel_rfl)

theorem card_of {G : World → Prop} {RH : World → Nat → Nat → (Nat → Prop) → Pn.Pln → Int → Int → Str → Prop} {SH : World → Nat → Nat → (Nat → Prop) → Sto → Prop} (hN : ∀ {w w' : World}, G w → Below w.heap.size w w' → G w') (hT : ∀ {W : World}, laidMetH Tryz.prog Rows.streamStopsRow.laid W → G W) (V : RWorks G RH SH) (C : RStops RH) (E : SSees SH) : Rows.StreamStopsCardSaid :=
  Claim7.holds_tied_plain_at .later [] _ _ _ _ (said_of hN hT V C E) (fun _ h => by cases h) (by kernel_rfl) (fun _ h => by cases h) streamStops_row_tie rfl ⟨rfl, rfl⟩ (by kernel_rfl) rfl plain (by kernel_rfl)
end Go.Proofs.YtmccpkpeimejhahGreatDoor.Dk.streamStops

namespace Go.Proofs.YtmccpkpeimejhahGreatDoor.Dk.streamStops
open Go.ChangeShapes Go.WideShapes Go.ChangeAt Go.RowKit Go.Deep

/-- what the listed tables say -/
theorem tables {W : World} (h : laidMetH Tryz.prog Rows.streamStopsRow.laid W) : BndIs W := by
  have h' : laidMet Tryz.prog Rows.streamStopsRow.laid W := h
  exact bnd_of h' (by simp [Rows.streamStopsRow])
theorem und : Und Has SHas := ⟨more, lworks_of more lists, svault⟩
theorem card : Rows.StreamStopsCardSaid := card_of (fun h hb => h.next hb) tables (rworks_of und news stells sworks) (rstops_of und) svault.sees
end Go.Proofs.YtmccpkpeimejhahGreatDoor.Dk.streamStops
