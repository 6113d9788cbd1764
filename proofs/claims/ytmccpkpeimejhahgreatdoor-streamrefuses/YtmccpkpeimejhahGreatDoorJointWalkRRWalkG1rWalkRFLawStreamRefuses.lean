/-
  The law StreamRolls, over what is asked of the program's stream.
  Contract of slices.Equal at two slices that show the same records.
  The law StreamRefuses, over what is asked of the program's stream.
  The law StreamRefuses returns true for every input, over what is asked of the program's stream and store. The card ties the listed tables to the program's text.
-/
import Derived.Test.YtmccpkpeimejhahGreatDoorJointRowStRowSoPapReWalkRa
import Derived.Test.YtmccpkpeimejhahGreatDoorJointRowGPapNWorksGPapH
import Derived.Deep.QuietTactic
import Derived.BigQuiet
import Derived.Test.YtmccpkpeimejhahGreatDoorCards
import Derived.Test.YtmccpkpeimejhahGreatDoorTie
import Derived.Test.YtmccpkpeimejhahGreatDoorJointOsTOsWRowPfRowR
import Derived.ProofKit
import Derived.OpenShut
import Derived.SizedLaws
import Derived.Deep.DeepHandedRow
namespace Go.Proofs.YtmccpkpeimejhahGreatDoor.Dk
open Go.RowKit

/-- a plan's box, a post's box and steps, behind a stream -/
structure Held3 (w : World) (bx : Nat) (x : Po) (a : Option Addr) (l : List Stp) : Prop where
  lt : bx < w.heap.size
  c0 : w.cell? ⟨bx, 0, none⟩ = some (.string x.s)
  c1 : w.cell? ⟨bx, 1, none⟩ = some (.string x.i)
  c2 : w.cell? ⟨bx, 2, none⟩ = some (.string x.h)
  c3 : w.cell? ⟨bx, 3, none⟩ = some (.string x.d)
  c4 : w.cell? ⟨bx, 4, none⟩ = some (.int .i64 x.x)
  c5 : w.cell? ⟨bx, 5, none⟩ = some (.int .i64 x.ro)
  row : SlP w a l
theorem Held3.from {B : Nat} {w w' : World} {bx : Nat} {x : Po} {a : Option Addr} {l : List Stp} (h : Held3 w bx x a l) (hb : Below B w w') (hB : w.heap.size ≤ B) : Held3 w' bx x a l := by
  have hlt : bx < B := Nat.lt_of_lt_of_le h.lt hB
  exact ⟨Nat.lt_of_lt_of_le h.lt hb.size, by rw [hb.cell (p := ⟨bx, 0, none⟩) hlt]; exact h.c0, by rw [hb.cell (p := ⟨bx, 1, none⟩) hlt]; exact h.c1, by rw [hb.cell (p := ⟨bx, 2, none⟩) hlt]; exact h.c2, by rw [hb.cell (p := ⟨bx, 3, none⟩) hlt]; exact h.c3, by rw [hb.cell (p := ⟨bx, 4, none⟩) hlt]; exact h.c4, by rw [hb.cell (p := ⟨bx, 5, none⟩) hlt]; exact h.c5, h.row.from hb hB⟩
theorem Held3.next {w w' : World} {bx : Nat} {x : Po} {a : Option Addr} {l : List Stp} (h : Held3 w bx x a l) (hb : Below w.heap.size w w') : Held3 w' bx x a l := h.from hb (Nat.le_refl _)
theorem Held3.new (w : World) (x : Po) {a : Option Addr} {l : List Stp} (h : SlP w a l) : Held3 (w.alloc (.cells #[.string x.s, .string x.i, .string x.h, .string x.d, .int .i64 x.x, .int .i64 x.ro] 27)) w.heap.size x a l := ⟨by simp, by simp, by simp, by simp, by simp, by simp, by simp, h.next ((Below.refl _ _).alloc (Nat.le_refl _) _)⟩
theorem rc_memR {l : List Rc} {k : Nat} (h : k < l.length) : rc l k ∈ l := by
  unfold rc
  rw [List.getElem?_eq_getElem h]
  exact List.getElem_mem h
section
variable {G : World → Prop} {RH : World → Nat → Nat → (Nat → Prop) → Pn.Pln → Int → Int → Str → Prop} {SH : World → Nat → Nat → (Nat → Prop) → Sto → Prop}
set_option maxRecDepth 100000 in
set_option maxHeartbeats 4000000 in
theorem rolls_any (hN : ∀ {w w' : World}, G w → Below w.heap.size w w' → G w') (V : RWorks G RH SH) (E : SSees SH) (P : Pn.Pln) (ap : Option Addr) (cp : Nat) (a : Option Addr) (l : List Stp) (c : Nat) (x : Po) (w : World) (hP : SmallP P) (hsl : SlS w ap P.f) (hcp : P.f.length ≤ cp) (hl : SlP w a l) (hlz : ∀ k, k < l.length → SmallT (spt l k)) (hx : SmallO x) (hG : G w) :
    Calls Tryz.prog 3 #[plV P ap cp, .slice a l.length c, poV x] w fun e w' => e = .returned (.bool true) ∧ Below w.heap.size w w' := by
  unfold plV
  have b1 : Below w.heap.size w (w.alloc (.cells #[.string P.n, .slice ap P.f.length cp, .int .i64 (nth P.v 0), .int .i64 (nth P.v 1), .int .i64 (nth P.v 2), .int .i64 (nth P.v 3), .int .i64 (nth P.v 4), .int .i64 (nth P.v 5), .int .i64 (nth P.v 6), .int .i64 (nth P.v 7)] 24)) := (Below.refl _ _).alloc (Nat.le_refl _) _
  have p1 := PB.new w P.n ap P.f.length cp (nth P.v 0) (nth P.v 1) (nth P.v 2) (nth P.v 3) (nth P.v 4) (nth P.v 5) (nth P.v 6) (nth P.v 7) 24
  obtain ⟨W1, hW1⟩ : ∃ W1, W1 = w.alloc (.cells #[.string P.n, .slice ap P.f.length cp, .int .i64 (nth P.v 0), .int .i64 (nth P.v 1), .int .i64 (nth P.v 2), .int .i64 (nth P.v 3), .int .i64 (nth P.v 4), .int .i64 (nth P.v 5), .int .i64 (nth P.v 6), .int .i64 (nth P.v 7)] 24) := ⟨_, rfl⟩
  rw [← hW1] at b1 p1
  have b2 : Below W1.heap.size W1 (W1.alloc (.cells #[.string x.s, .string x.i, .string x.h, .string x.d, .int .i64 x.x, .int .i64 x.ro] 27)) := (Below.refl _ _).alloc (Nat.le_refl _) _
  have q2 := Held3.new W1 x (hl.next b1)
  obtain ⟨W2, hW2⟩ : ∃ W2, W2 = W1.alloc (.cells #[.string x.s, .string x.i, .string x.h, .string x.d, .int .i64 x.x, .int .i64 x.ro] 27) := ⟨_, rfl⟩
  rw [← hW2] at b2 q2
  obtain ⟨bp, hbp⟩ : ∃ bp, bp = w.heap.size := ⟨_, rfl⟩
  have hs1 : W1.heap.size = bp + 1 := by rw [hW1, hbp]; simp
  obtain ⟨bx, hbx⟩ : ∃ bx, bx = bp + 1 := ⟨_, rfl⟩
  rw [← hbp] at p1
  rw [hs1, ← hbx] at q2
  have b12 := bstep b1 b2
  have H2 : Hid (PB W2 bp P.n ap P.f.length cp (nth P.v 0) (nth P.v 1) (nth P.v 2) (nth P.v 3) (nth P.v 4) (nth P.v 5) (nth P.v 6) (nth P.v 7) ∧ Held3 W2 bx x a l ∧ SlS W2 ap P.f ∧ G W2 ∧ Below w.heap.size w W2) := hide ⟨p1.next b2, q2, hsl.next b12, hN hG b12, b12⟩
  have HP := hide hP
  have HX := hide hx
  have HL := hide hlz
  have PU := hide (published_any hN V E W2 (unhide H2).2.2.2.1)
  clear hsl hl hlz hG b1 b2 p1 q2 b12 hP hx
  go_enter Tryz.func3, Tryz.ntmps3
  go_wp2_with fail
  rw [← hbp, ← hW1, ← hbx, ← hW2]
  clear hbp hW1 hbx hW2 hs1
  refine (unhide PU).mono ?_
  rintro e w3 ⟨rfl, b3⟩
  have H3 : Hid (PB w3 bp P.n ap P.f.length cp (nth P.v 0) (nth P.v 1) (nth P.v 2) (nth P.v 3) (nth P.v 4) (nth P.v 5) (nth P.v 6) (nth P.v 7) ∧ Held3 w3 bx x a l ∧ SlS w3 ap P.f ∧ G w3 ∧ Below w.heap.size w w3) := hide ⟨(unhide H2).1.next b3, (unhide H2).2.1.next b3, (unhide H2).2.2.1.next b3, hN (unhide H2).2.2.2.1 b3, bstep (unhide H2).2.2.2.2 b3⟩
  clear PU b3 H2
  obtain ⟨_, y0, y1, y2, y3, y4, y5, y6, y7, y8, y9⟩ := (unhide H3).1
  by_cases hE : Pn.planE P = 0
  · have PN := hide (Ray.new V (m := 65536) (size := 4096) w3 P ap cp (unhide HP) (unhide H3).2.2.1 hcp (unhide H3).2.2.2.1 hE (by decide) (by decide))
    unfold plV at PN
    go_wp2_with fail
    refine (unhide PN).mono ?_
    rintro e w4 ⟨q, rfl, r4⟩
    have HR4 := hide r4
    have HB3 := hide (And.intro (unhide H3).2.1 (unhide H3).2.2.2.2)
    clear PN r4 H3 y0 y1 y2 y3 y4 y5 y6 y7 y8 y9
    by_cases h60 : 60 < l.length
    · have g60 : decide ((60 : Int) < (l.length : Int)) = true := decide_eq_true (by omega)
      go_wp2_with fail
      go_ret
      exact ⟨rfl, bstep (unhide HB3).2 (unhide HR4).bl⟩
    · have g60 : decide ((60 : Int) < (l.length : Int)) = false := decide_eq_false (by omega)
      go_wp2_with fail
      go_loopw [32] (fun iv wr => ∃ (k : Nat) (st : Str), iv = .int .i64 k ∧ k ≤ l.length ∧ Hid (Ray RH (fun _ => False) w3 wr q P 65536 4096 st)) (fun iv _ => l.length - (intOf iv).toNat)
      case atStart => exact ⟨0, noStr, rfl, Nat.zero_le _, HR4⟩
      case round =>
        clear HR4
        obtain ⟨k, st, rfl, hk, HR⟩ := hrel
        have HH := hide ((unhide HB3).1.from (unhide HR).bl (Nat.le_refl _))
        by_cases hlt : k < l.length
        · obtain ⟨ba, o, rfl, t10⟩ := (unhide HH).row k hlt
          obtain ⟨_, z0, z1, z2, z3, z4, z5, z6, z7, z8, z9⟩ := t10
          obtain ⟨sp, hsp⟩ : ∃ sp, spt l k = sp := ⟨_, rfl⟩
          have hz := unhide HL k hlt
          rw [hsp] at z0 z1 z2 z3 z4 z5 z6 z7 z8 z9 hz
          have k5 : Below wr.heap.size wr (wr.alloc (.cells #[.int .i64 sp.k, .int .i64 sp.now, .int .i64 sp.n, .string sp.x.s, .string sp.x.i, .string sp.x.h, .string sp.x.d, .int .i64 sp.x.x, .int .i64 sp.x.ro, .string sp.f] 34)) := (Below.refl _ _).alloc (Nat.le_refl _) _
          have PB5 := hide (((unhide HR).below V k5).publish V sp.now sp.x hz.x)
          clear hsp k5 hz HH
          go_wp2_with fail
          refine (unhide PB5).mono ?_
          rintro e w5 ⟨rfl, r5, _⟩
          have HR5 := hide r5
          clear r5 PB5 HR z0 z1 z2 z3 z4 z5 z6 z7 z8 z9
          go_wp2_with fail
          refine ⟨⟨k + 1, _, by go_num, by omega, HR5⟩, ?_⟩
          simp [intOf]; omega
        · obtain rfl : k = l.length := by omega
          obtain ⟨_, x0', x1', x2', x3', x4', x5', _⟩ := unhide HH
          have PF := hide ((unhide HR).publish V 1073741824 x (unhide HX))
          have hro := hide (fun (h0 : (pubP P 65536 4096 1073741824 x st).1.2.2 = 0) (ha : (pubP P 65536 4096 1073741824 x st).1.2.1 = false) (hr : x.ro ≠ 0) => pub_rolls (unhide HR).fit.vok.ok h0 ha hr)
          go_wp2_with fail
          refine (unhide PF).mono ?_
          rintro e w6 ⟨rfl, r6, _⟩
          have HR6 := hide r6
          clear PF r6 x0' x1' x2' x3' x4' x5' HH HR
          obtain ⟨n, hn⟩ : ∃ n, (pubP P 65536 4096 1073741824 x st).1.1 = n := ⟨_, rfl⟩
          obtain ⟨ag, hag⟩ : ∃ ag, (pubP P 65536 4096 1073741824 x st).1.2.1 = ag := ⟨_, rfl⟩
          obtain ⟨ee, hee⟩ : ∃ ee, (pubP P 65536 4096 1073741824 x st).1.2.2 = ee := ⟨_, rfl⟩
          obtain ⟨st6, hst6⟩ : ∃ st6, (pubP P 65536 4096 1073741824 x st).2 = st6 := ⟨_, rfl⟩
          rw [hn, hag, hee, hst6] at hro
          rw [hst6] at HR6
          rw [hn, hag, hee]
          clear hn hag hee hst6
          have HH6 := hide ((unhide HB3).1.from (unhide HR6).bl (Nat.le_refl _))
          have HB6 := hide (bstep (unhide HB3).2 (unhide HR6).bl)
          have hroc := (unhide HH6).c5
          by_cases he : ee = 0
          · subst he
            cases ag with
            | true =>
              go_wp2_with fail
              go_ret
              exact ⟨rfl, unhide HB6⟩
            | false =>
              by_cases hr0 : x.ro = 0
              · rw [hr0] at hroc
                go_wp2_with fail
                go_ret
                exact ⟨rfl, unhide HB6⟩
              · have gr0 : (x.ro == 0) = false := by rw [beq_eq_false_iff_ne]; exact hr0
                obtain ⟨ho1, ho2⟩ := unhide hro rfl rfl hr0
                have HO1 := hide ho1
                have PS := hide ((unhide HR6).store V)
                obtain ⟨N, hNN⟩ : ∃ N, st6.s.l.length = N + 1 := ⟨st6.s.l.length - 1, by
                  have : st6.s.l ≠ [] := fun z => by rw [z] at ho2; simp at ho2
                  have := List.length_pos_iff.2 this
                  omega⟩
                have HO2 : Hid ((rc st6.s.l N).q = n) := hide (by
                  rw [List.getLast?_eq_getElem?, hNN, Nat.add_sub_cancel, List.getElem?_eq_getElem (by omega)] at ho2
                  unfold rc
                  rw [List.getElem?_eq_getElem (by omega)]
                  simpa using ho2)
                have hok := hide (unhide HR6).fit.vok.ok
                have hN2 : N + 1 ≤ 200 := by have := (unhide hok).few; omega
                clear ho1 ho2 hro
                go_wp2_with fail
                refine (unhide PS).mono ?_
                rintro e w7 ⟨qs, F7, rfl, s7, b7⟩
                have HR7 := hide ((unhide HR6).below V b7)
                have PA := hide (E.all s7 (unhide hok) (unhide HR7).room)
                clear PS s7 b7 HR6 HH6 HB6 hroc
                go_wp2_with fail
                refine (unhide PA).mono ?_
                rintro e w8 ⟨v8, rfl, a8, b8⟩
                obtain ⟨aa, cc, rfl, _, _, sl8⟩ := a8.shape
                have H8 : Hid (SlR w8 aa st6.s.l ∧ Held3 w8 bx x a l ∧ Below w.heap.size w w8) := hide ⟨sl8, ((unhide HB3).1.from (unhide HR7).bl (Nat.le_refl _)).next b8, bstep (bstep (unhide HB3).2 (unhide HR7).bl) b8⟩
                clear PA a8 b8 sl8 HR7 HB3
                obtain ⟨L, hL⟩ : ∃ L, st6.s.l = L := ⟨_, rfl⟩
                rw [hL] at H8 HO1 HO2 hNN ⊢
                clear hL hok
                rw [hNN]
                go_wp2_with fail
                go_loopw [65] (fun iv wr => ∃ (k : Nat), iv = .int .i64 k ∧ k ≤ N + 1 ∧ Hid (SlR wr aa L ∧ Held3 wr bx x a l ∧ Below w.heap.size w wr)) (fun iv _ => N + 1 - (intOf iv).toNat)
                case atStart => exact ⟨0, rfl, Nat.zero_le _, H8⟩
                case round =>
                  clear H8
                  obtain ⟨k, rfl, hk, H8⟩ := hrel
                  by_cases hkl : k < N + 1
                  · obtain ⟨bl, ol, rfl, t6⟩ := (unhide H8).1 k (by omega)
                    obtain ⟨_, z0, z1, z2, z3, z4, z5⟩ := t6
                    obtain ⟨r, hr⟩ : ∃ r, rc L k = r := ⟨_, rfl⟩
                    have hmem := rc_memR (l := L) (k := k) (by omega)
                    rw [hr] at z0 z1 z2 z3 z4 z5 hmem
                    have k9 : Below wr.heap.size wr (wr.alloc (.cells #[.int .i64 r.k, .int .i64 r.q, .int .i64 r.t, .string r.s, .string r.h, .string r.d] 42)) := (Below.refl _ _).alloc (Nat.le_refl _) _
                    have H9 : Hid (SlR (wr.alloc (.cells #[.int .i64 r.k, .int .i64 r.q, .int .i64 r.t, .string r.s, .string r.h, .string r.d] 42)) (some ⟨bl, ol, none⟩) L ∧ Held3 (wr.alloc (.cells #[.int .i64 r.k, .int .i64 r.q, .int .i64 r.t, .string r.s, .string r.h, .string r.d] 42)) bx x a l ∧ Below w.heap.size w (wr.alloc (.cells #[.int .i64 r.k, .int .i64 r.q, .int .i64 r.t, .string r.s, .string r.h, .string r.d] 42))) := hide ⟨(unhide H8).1.below k9, (unhide H8).2.1.next k9, bstep (unhide H8).2.2 k9⟩
                    have c0 := (unhide H9).2.1.c0
                    have c5 := (unhide H9).2.1.c5
                    clear hr k9 H8
                    by_cases hq : r.q = n
                    · have gq : (r.q != n) = false := by simpa using hq
                      clear hq hmem
                      go_wp2_with fail
                      refine ⟨⟨k + 1, by go_num, by omega, H9⟩, ?_⟩
                      simp [intOf]; omega
                    · have gq : (r.q != n) = true := by simpa using hq
                      have hno := unhide HO1 r hmem hq
                      have g2 : (x.ro == 2) = false := by rw [beq_eq_false_iff_ne]; exact fun z => hno (.inl z)
                      have gs : (r.s.toList == x.s.toList) = false := by
                        rw [beq_eq_false_iff_ne]
                        exact fun z => hno (.inr (WideShapes.bytes_inj (by rw [← ByteArray.toList_eq, ← ByteArray.toList_eq]; exact z)))
                      clear hno hmem hq
                      go_wp2_with fail
                      refine ⟨⟨k + 1, by go_num, by omega, H9⟩, ?_⟩
                      simp [intOf]; omega
                  · obtain rfl : k = N + 1 := by omega
                    obtain ⟨bl, ol, rfl, t6⟩ := (unhide H8).1 N (by omega)
                    have z1 := t6.c1
                    rw [unhide HO2] at z1
                    have B8 := hide (unhide H8).2.2
                    clear t6 H8
                    go_wp2_with fail
                    go_ret
                    exact ⟨rfl, unhide B8⟩
          · have ge : (ee != 0) = true := by simpa using he
            go_wp2_with fail
            go_ret
            exact ⟨rfl, unhide HB6⟩
  · have PN := hide (V.wrong w3 P ap cp 65536 4096 (unhide HP) (unhide H3).2.2.1 hcp (unhide H3).2.2.2.1 hE)
    unfold plV at PN
    obtain ⟨EE, hEE⟩ : ∃ EE, Pn.planE P = EE := ⟨_, rfl⟩
    rw [hEE] at PN hE
    have gE : (EE != 0) = true := by simpa using hE
    clear hEE
    go_wp2_with fail
    refine (unhide PN).mono ?_
    rintro e w4 ⟨rfl, b4⟩
    have B4 := hide (bstep (unhide H3).2.2.2.2 b4)
    clear b4 PN H3 y0 y1 y2 y3 y4 y5 y6 y7 y8 y9
    go_wp2_with fail
    go_ret
    exact ⟨rfl, unhide B4⟩
end
end Go.Proofs.YtmccpkpeimejhahGreatDoor.Dk

namespace Go.Proofs.YtmccpkpeimejhahGreatDoor.Dk
open Go.RowKit

theorem neqR (r : Rc) (W : World) : (binOp .neq 42 (.agg #[.int .i64 r.k, .int .i64 r.q, .int .i64 r.t, .string r.s, .string r.h, .string r.d]) (.agg #[.int .i64 r.k, .int .i64 r.q, .int .i64 r.t, .string r.s, .string r.h, .string r.d])).run Tryz.prog W = .ok (.bool false) W := by
  have u3 := Tryz.underlying3
  have u9 := Tryz.underlying9
  have hS : Tryz.prog.underlying 42 = some (.struct (Tryz.prog.fieldsOf 42)) := by kernel_rfl
  have hp : Tryz.prog.stoodInHeld 42 = false := by kernel_rfl
  rw [run_neq_struct, show (10000 : Nat) = 9999 + 1 from rfl, run_equalIn_agg W 9999 42 _ _ hS hp]
  simp only [Program.fieldsOf, Tryz.underlying42]
  go_simp

set_option maxHeartbeats 2000000 in
set_option maxRecDepth 100000 in
theorem equal_rec (a b : Option Addr) (ca cb : Nat) (l : List Rc) (w : World) (ha : SlR w a l) (hb : SlR w b l) (h100 : l.length ≤ 1000000) :
    Calls Tryz.prog 11 #[.slice a l.length ca, .slice b l.length cb] w fun e w' => e = .returned (.bool true) ∧ ∃ q, w' = w.drewN q := by
  have Ha := hide ha
  have Hb := hide hb
  clear ha hb
  have hm : Tryz.prog.eqGuardType Tryz.prog.depth 42 = false := by kernel_rfl
  go_enter Tryz.func11, Tryz.ntmps11
  go_wp2
  go_loopw [13] (fun kv wr => ∃ (k : Nat), kv = .int .i64 k ∧ k ≤ l.length ∧ ∃ n, wr = w.drewN n) (fun kv _ => l.length - (intOf kv).toNat)
  case atStart => exact ⟨0, rfl, Nat.zero_le _, 0, rfl⟩
  case round =>
    obtain ⟨k, rfl, hk, n, rfl⟩ := hrel
    by_cases hlt : k < l.length
    · obtain ⟨g, o, rfl, s1⟩ := unhide Ha k hlt
      obtain ⟨h, o2, rfl, s2⟩ := unhide Hb k hlt
      obtain ⟨_, x0, x1, x2, x3, x4, x5⟩ := s1
      obtain ⟨_, y0, y1, y2, y3, y4, y5⟩ := s2
      have hne := neqR (rc l k)
      go_wp2
      go_quiet (fail)
      go_wp2
      exact ⟨⟨k + 1, by go_num, by omega, _, rfl⟩, by simp [intOf]; omega⟩
    · go_wp2
      go_ret
      exact ⟨rfl, n, rfl⟩
end Go.Proofs.YtmccpkpeimejhahGreatDoor.Dk

namespace Go.Proofs.YtmccpkpeimejhahGreatDoor.Dk
open Go.RowKit

/-- new ones are thrown away, or old ones -/
theorem disc_of {P : Pn.Pln} (h : Pn.planE P = 0) : nth P.v 5 = 0 ∨ nth P.v 5 = 1 := by
  obtain ⟨_, _, _, _, _, h6⟩ := Pn.plan_ok h
  have key : ∀ (v ms : List Int) (k : Nat), Pn.inAll v ms = true → 0 ≤ (v[k]?).getD 0 ∧ (v[k]?).getD 0 ≤ (ms[k]?).getD 0 := by
    intro v
    induction v with
    | nil =>
      intro ms k hh
      cases ms with
      | nil => simp
      | cons w ms => simp [Pn.inAll] at hh
    | cons y v ih =>
      intro ms k hh
      cases ms with
      | nil => simp [Pn.inAll] at hh
      | cons w ms =>
        simp only [Pn.inAll, Bool.and_eq_true, decide_eq_true_eq] at hh
        cases k with
        | zero => simpa using hh.1
        | succ k => simpa using ih ms k hh.2
  obtain ⟨a, b⟩ := key P.v Pn.most8 5 h6
  unfold nth
  have e : ((Pn.most8[5]?).getD 0 : Int) = 1 := rfl
  rw [e] at b
  omega
section
variable {G : World → Prop} {RH : World → Nat → Nat → (Nat → Prop) → Pn.Pln → Int → Int → Str → Prop} {SH : World → Nat → Nat → (Nat → Prop) → Sto → Prop}
set_option maxRecDepth 100000 in
set_option maxHeartbeats 4000000 in
theorem refuses_any (hN : ∀ {w w' : World}, G w → Below w.heap.size w w' → G w') (V : RWorks G RH SH) (E : SSees SH) (P : Pn.Pln) (ap : Option Addr) (cp : Nat) (a : Option Addr) (l : List Stp) (c : Nat) (x : Po) (w : World) (hP : SmallP P) (hsl : SlS w ap P.f) (hcp : P.f.length ≤ cp) (hl : SlP w a l) (hlz : ∀ k, k < l.length → SmallT (spt l k)) (hx : SmallO x) (hG : G w) :
    Calls Tryz.prog 4 #[plV P ap cp, .slice a l.length c, poV x] w fun e w' => e = .returned (.bool true) ∧ Below w.heap.size w w' := by
  unfold plV
  have b1 : Below w.heap.size w (w.alloc (.cells #[.string P.n, .slice ap P.f.length cp, .int .i64 (nth P.v 0), .int .i64 (nth P.v 1), .int .i64 (nth P.v 2), .int .i64 (nth P.v 3), .int .i64 (nth P.v 4), .int .i64 (nth P.v 5), .int .i64 (nth P.v 6), .int .i64 (nth P.v 7)] 24)) := (Below.refl _ _).alloc (Nat.le_refl _) _
  have p1 := PB.new w P.n ap P.f.length cp (nth P.v 0) (nth P.v 1) (nth P.v 2) (nth P.v 3) (nth P.v 4) (nth P.v 5) (nth P.v 6) (nth P.v 7) 24
  obtain ⟨W1, hW1⟩ : ∃ W1, W1 = w.alloc (.cells #[.string P.n, .slice ap P.f.length cp, .int .i64 (nth P.v 0), .int .i64 (nth P.v 1), .int .i64 (nth P.v 2), .int .i64 (nth P.v 3), .int .i64 (nth P.v 4), .int .i64 (nth P.v 5), .int .i64 (nth P.v 6), .int .i64 (nth P.v 7)] 24) := ⟨_, rfl⟩
  rw [← hW1] at b1 p1
  have b2 : Below W1.heap.size W1 (W1.alloc (.cells #[.string x.s, .string x.i, .string x.h, .string x.d, .int .i64 x.x, .int .i64 x.ro] 27)) := (Below.refl _ _).alloc (Nat.le_refl _) _
  have q2 := Held3.new W1 x (hl.next b1)
  obtain ⟨W2, hW2⟩ : ∃ W2, W2 = W1.alloc (.cells #[.string x.s, .string x.i, .string x.h, .string x.d, .int .i64 x.x, .int .i64 x.ro] 27) := ⟨_, rfl⟩
  rw [← hW2] at b2 q2
  obtain ⟨bp, hbp⟩ : ∃ bp, bp = w.heap.size := ⟨_, rfl⟩
  have hs1 : W1.heap.size = bp + 1 := by rw [hW1, hbp]; simp
  obtain ⟨bx, hbx⟩ : ∃ bx, bx = bp + 1 := ⟨_, rfl⟩
  rw [← hbp] at p1
  rw [hs1, ← hbx] at q2
  have b12 := bstep b1 b2
  have H2 : Hid (PB W2 bp P.n ap P.f.length cp (nth P.v 0) (nth P.v 1) (nth P.v 2) (nth P.v 3) (nth P.v 4) (nth P.v 5) (nth P.v 6) (nth P.v 7) ∧ Held3 W2 bx x a l ∧ SlS W2 ap P.f ∧ G W2 ∧ Below w.heap.size w W2) := hide ⟨p1.next b2, q2, hsl.next b12, hN hG b12, b12⟩
  have HP := hide hP
  have HX := hide hx
  have HL := hide hlz
  have PU := hide (published_any hN V E W2 (unhide H2).2.2.2.1)
  clear hsl hl hlz hG b1 b2 p1 q2 b12 hP hx
  go_enter Tryz.func4, Tryz.ntmps4
  go_wp2_with fail
  rw [← hbp, ← hW1, ← hbx, ← hW2]
  clear hbp hW1 hbx hW2 hs1
  refine (unhide PU).mono ?_
  rintro e w3 ⟨rfl, b3⟩
  have H3 : Hid (PB w3 bp P.n ap P.f.length cp (nth P.v 0) (nth P.v 1) (nth P.v 2) (nth P.v 3) (nth P.v 4) (nth P.v 5) (nth P.v 6) (nth P.v 7) ∧ Held3 w3 bx x a l ∧ SlS w3 ap P.f ∧ G w3 ∧ Below w.heap.size w w3) := hide ⟨(unhide H2).1.next b3, (unhide H2).2.1.next b3, (unhide H2).2.2.1.next b3, hN (unhide H2).2.2.2.1 b3, bstep (unhide H2).2.2.2.2 b3⟩
  clear PU b3 H2
  obtain ⟨_, y0, y1, y2, y3, y4, y5, y6, y7, y8, y9⟩ := (unhide H3).1
  by_cases hE : Pn.planE P = 0
  · have PN := hide (Ray.new V (m := 65536) (size := 4096) w3 P ap cp (unhide HP) (unhide H3).2.2.1 hcp (unhide H3).2.2.2.1 hE (by decide) (by decide))
    unfold plV at PN
    go_wp2_with fail
    refine (unhide PN).mono ?_
    rintro e w4 ⟨q, rfl, r4⟩
    have HR4 := hide r4
    have HB3 := hide (And.intro (unhide H3).2.1 (And.intro (unhide H3).2.2.2.2 (unhide H3).1))
    clear PN r4 H3 y0 y1 y2 y3 y4 y5 y6 y7 y8 y9
    by_cases h60 : 60 < l.length
    · have g60 : decide ((60 : Int) < (l.length : Int)) = true := decide_eq_true (by omega)
      go_wp2_with fail
      go_ret
      exact ⟨rfl, bstep (unhide HB3).2.1 (unhide HR4).bl⟩
    · have g60 : decide ((60 : Int) < (l.length : Int)) = false := decide_eq_false (by omega)
      go_wp2_with fail
      have HLw : Hid (Low noStr.es ∧ noStr.s.last ≤ 0) := hide ⟨Low.nil, Int.le_refl _⟩
      go_loopw [28] (fun iv wr => ∃ (k : Nat) (st : Str), iv = .int .i64 k ∧ k ≤ l.length ∧ Hid (Low st.es ∧ st.s.last ≤ (k : Int)) ∧ Hid (Ray RH (fun _ => False) w3 wr q P 65536 4096 st)) (fun iv _ => l.length - (intOf iv).toNat)
      case atStart => exact ⟨0, noStr, rfl, Nat.zero_le _, HLw, HR4⟩
      case round =>
        clear HR4 HLw
        obtain ⟨k, st, rfl, hk, HLw, HR⟩ := hrel
        have HH := hide ((unhide HB3).1.from (unhide HR).bl (Nat.le_refl _))
        by_cases hlt : k < l.length
        · obtain ⟨ba, o, rfl, t10⟩ := (unhide HH).row k hlt
          obtain ⟨_, z0, z1, z2, z3, z4, z5, z6, z7, z8, z9⟩ := t10
          obtain ⟨sp, hsp⟩ : ∃ sp, spt l k = sp := ⟨_, rfl⟩
          have hz := unhide HL k hlt
          rw [hsp] at z0 z1 z2 z3 z4 z5 z6 z7 z8 z9 hz
          have k5 : Below wr.heap.size wr (wr.alloc (.cells #[.int .i64 sp.k, .int .i64 sp.now, .int .i64 sp.n, .string sp.x.s, .string sp.x.i, .string sp.x.h, .string sp.x.d, .int .i64 sp.x.x, .int .i64 sp.x.ro, .string sp.f] 34)) := (Below.refl _ _).alloc (Nat.le_refl _) _
          have PB5 := hide (((unhide HR).below V k5).publish V sp.now sp.x hz.x)
          have HLw2 : Hid (Low (pubP P 65536 4096 sp.now sp.x st).2.es ∧ (pubP P 65536 4096 sp.now sp.x st).2.s.last ≤ ((k + 1 : Nat) : Int)) := hide ⟨(unhide HLw).1.pub, by
            have h1 := (unhide HLw).2
            have h2 := (pub_last (p := P) (m := 65536) (size := 4096) (now := sp.now) (x := sp.x) (st := st)).2
            omega⟩
          clear hsp k5 hz HH HLw
          go_wp2_with fail
          refine (unhide PB5).mono ?_
          rintro e w5 ⟨rfl, r5, _⟩
          have HR5 := hide r5
          clear r5 PB5 HR z0 z1 z2 z3 z4 z5 z6 z7 z8 z9
          go_wp2_with fail
          refine ⟨⟨k + 1, _, by go_num, by omega, HLw2, HR5⟩, ?_⟩
          simp [intOf]; omega
        · obtain rfl : k = l.length := by omega
          have PS := hide ((unhide HR).store V)
          have hok := hide (unhide HR).fit.vok.ok
          clear HH
          go_wp2_with fail
          refine (unhide PS).mono ?_
          rintro e w7 ⟨qs, F7, rfl, s7, b7⟩
          have HR7 := hide ((unhide HR).below V b7)
          have PA := hide (E.all s7 (unhide hok) (unhide HR7).room)
          clear PS s7 b7 HR
          go_wp2_with fail
          refine (unhide PA).mono ?_
          rintro e w8 ⟨v8, rfl, a8, b8⟩
          obtain ⟨aa, cc, rfl, _, _, sl8⟩ := a8.shape
          have HR8 : Hid (Ray RH (fun k => ∃ z, aa = some z ∧ z.block = k) w3 w8 q P 65536 4096 st) := hide ((unhide HR7).mine V b8 (fun k hk => by
            obtain ⟨z, hz, e⟩ := hk
            subst hz
            right
            have := World.ownsRow.lt a8 z.block rfl
            rw [← e]
            exact this))
          have HS8 := hide sl8
          have HH8 := hide ((unhide HB3).1.from (unhide HR8).bl (Nat.le_refl _))
          obtain ⟨_, x0', x1', x2', x3', x4', x5', _⟩ := unhide HH8
          have PF := hide ((unhide HR8).publish V 1073741824 x (unhide HX))
          have hre := hide (fun (h0 : (pubP P 65536 4096 1073741824 x st).1.2.2 ≠ 0) (h8 : ¬ ((pubP P 65536 4096 1073741824 x st).1.2.2 = 8 ∧ (pv P 5 ≠ 1 ∨ x.ro ≠ 0))) => pub_refuses (ppos_of hE) (unhide HR8).fit.vok (unhide HLw).1 (by have := (unhide HLw).2; omega) h0 h8)
          clear PA a8 b8 sl8 HR7 hok HLw
          go_wp2_with fail
          refine (unhide PF).mono ?_
          rintro e w6 ⟨rfl, r6, stay6⟩
          have HS6 := hide (stay6.recs (unhide HS8) (fun z hz => ⟨z, hz, rfl⟩))
          have HR6 := hide r6
          clear PF r6 stay6 x0' x1' x2' x3' x4' x5' HH8 HR8 HS8
          obtain ⟨n, hn⟩ : ∃ n, (pubP P 65536 4096 1073741824 x st).1.1 = n := ⟨_, rfl⟩
          obtain ⟨ag, hag⟩ : ∃ ag, (pubP P 65536 4096 1073741824 x st).1.2.1 = ag := ⟨_, rfl⟩
          obtain ⟨ee, hee⟩ : ∃ ee, (pubP P 65536 4096 1073741824 x st).1.2.2 = ee := ⟨_, rfl⟩
          obtain ⟨st6, hst6⟩ : ∃ st6, (pubP P 65536 4096 1073741824 x st).2 = st6 := ⟨_, rfl⟩
          rw [hee, hst6] at hre
          rw [hst6] at HR6
          rw [hn, hag, hee]
          clear hn hag hee hst6
          have HH6 := hide ((unhide HB3).1.from (unhide HR6).bl (Nat.le_refl _))
          have HB6 := hide (bstep (unhide HB3).2.1 (unhide HR6).bl)
          have hroc := (unhide HH6).c5
          have hdc : w6.cell? ⟨bp, 7, none⟩ = some (.int .i64 (nth P.v 5)) := by
            rw [(unhide HR6).bl.cell (p := ⟨bp, 7, none⟩) (unhide HB3).2.2.lt]
            exact (unhide HB3).2.2.c7
          have hd1 := disc_of hE
          by_cases he : ee = 0
          · subst he
            clear hre
            go_wp2_with fail
            go_ret
            exact ⟨rfl, unhide HB6⟩
          · have ge : (ee == 0) = false := by rw [beq_eq_false_iff_ne]; exact he
            by_cases hfull : ee = 8 ∧ (nth P.v 5 = 0 ∨ x.ro ≠ 0)
            · obtain ⟨h8, hor⟩ := hfull
              subst h8
              clear hre
              by_cases hd0 : nth P.v 5 = 0
              · rw [hd0] at hdc
                go_wp2_with fail
                go_ret
                exact ⟨rfl, unhide HB6⟩
              · have gd : (nth P.v 5 == 0) = false := by rw [beq_eq_false_iff_ne]; exact hd0
                have gr : (x.ro != 0) = true := by
                  rcases hor with y | y
                  · exact absurd y hd0
                  · simpa using y
                clear hor hd0
                go_wp2_with fail
                go_ret
                exact ⟨rfl, unhide HB6⟩
            · have hsame := unhide hre he (fun z => hfull ⟨z.1, z.2.imp (fun y => by unfold pv at y; omega) id⟩)
              have PS := hide ((unhide HR6).store V)
              have hok6 := hide (unhide HR6).fit.vok.ok
              have hfew : st.s.l.length ≤ 200 := by rw [← hsame]; exact (unhide hok6).few
              have HSame := hide hsame
              have hg8 : ee = 8 → nth P.v 5 ≠ 0 ∧ x.ro = 0 := fun z => ⟨fun y => hfull ⟨z, .inl y⟩, Classical.byContradiction (fun y => hfull ⟨z, .inr y⟩)⟩
              clear hre hsame hfull
              by_cases h8 : ee = 8
              · subst h8
                obtain ⟨hd0, hr0⟩ := hg8 rfl
                have gd : (nth P.v 5 == 0) = false := by rw [beq_eq_false_iff_ne]; exact hd0
                rw [hr0] at hroc
                clear hg8 hd0
                go_wp2_with fail
                refine (unhide PS).mono ?_
                rintro e w9 ⟨qt, F9, rfl, s9, b9⟩
                have HR9 := hide ((unhide HR6).below V b9)
                have PA := hide (E.all s9 (unhide hok6) (unhide HR9).room)
                have HS9 := hide ((unhide HS6).below b9)
                clear PS s9 b9 HR6 HS6 HH6 hroc hdc
                go_wp2_with fail
                refine (unhide PA).mono ?_
                rintro e w10 ⟨v10, rfl, a10, b10⟩
                obtain ⟨ab, cb, rfl, _, _, sl10⟩ := a10.shape
                rw [unhide HSame] at sl10 ⊢
                have PQ := hide (equal_rec ab aa cb cc st.s.l w10 sl10 ((unhide HS9).below b10) (by omega))
                have B10 := hide (bstep (bstep (unhide HB3).2.1 (unhide HR9).bl) b10)
                clear PA a10 b10 sl10 HR9 HS9
                go_wp2_with fail
                refine (unhide PQ).mono ?_
                rintro e w11 ⟨rfl, nn, rfl⟩
                go_wp2_with fail
                go_ret
                exact ⟨rfl, below_drewN (unhide B10) nn⟩
              · have g8 : (ee == 8) = false := by rw [beq_eq_false_iff_ne]; exact h8
                clear hg8
                go_wp2_with fail
                refine (unhide PS).mono ?_
                rintro e w9 ⟨qt, F9, rfl, s9, b9⟩
                have HR9 := hide ((unhide HR6).below V b9)
                have PA := hide (E.all s9 (unhide hok6) (unhide HR9).room)
                have HS9 := hide ((unhide HS6).below b9)
                clear PS s9 b9 HR6 HS6 HH6 hroc hdc
                go_wp2_with fail
                refine (unhide PA).mono ?_
                rintro e w10 ⟨v10, rfl, a10, b10⟩
                obtain ⟨ab, cb, rfl, _, _, sl10⟩ := a10.shape
                rw [unhide HSame] at sl10 ⊢
                have PQ := hide (equal_rec ab aa cb cc st.s.l w10 sl10 ((unhide HS9).below b10) (by omega))
                have B10 := hide (bstep (bstep (unhide HB3).2.1 (unhide HR9).bl) b10)
                clear PA a10 b10 sl10 HR9 HS9
                go_wp2_with fail
                refine (unhide PQ).mono ?_
                rintro e w11 ⟨rfl, nn, rfl⟩
                go_wp2_with fail
                go_ret
                exact ⟨rfl, below_drewN (unhide B10) nn⟩
  · have PN := hide (V.wrong w3 P ap cp 65536 4096 (unhide HP) (unhide H3).2.2.1 hcp (unhide H3).2.2.2.1 hE)
    unfold plV at PN
    obtain ⟨EE, hEE⟩ : ∃ EE, Pn.planE P = EE := ⟨_, rfl⟩
    rw [hEE] at PN hE
    have gE : (EE != 0) = true := by simpa using hE
    clear hEE
    go_wp2_with fail
    refine (unhide PN).mono ?_
    rintro e w4 ⟨rfl, b4⟩
    have B4 := hide (bstep (unhide H3).2.2.2.2 b4)
    clear b4 PN H3 y0 y1 y2 y3 y4 y5 y6 y7 y8 y9
    go_wp2_with fail
    go_ret
    exact ⟨rfl, unhide B4⟩
end
end Go.Proofs.YtmccpkpeimejhahGreatDoor.Dk

namespace Go.Proofs.YtmccpkpeimejhahGreatDoor.Dk.streamRefuses
open Go.ChangeShapes Go.WideShapes Go.ChangeAt Go.RowKit Go.Deep

theorem own : ownKnob Tryz.prog.godebug = none := by kernel_rfl
theorem laidOut : laidOutB Tryz.prog = true := by kernel_rfl

set_option maxRecDepth 100000 in
set_option maxHeartbeats 1000000 in
theorem contract {G : World → Prop} {RH : World → Nat → Nat → (Nat → Prop) → Pn.Pln → Int → Int → Str → Prop} {SH : World → Nat → Nat → (Nat → Prop) → Sto → Prop} (hN : ∀ {w w' : World}, G w → Below w.heap.size w w' → G w') (hT : ∀ {W : World}, laidMetH Tryz.prog Rows.streamRefusesRow.laid W → G W) (V : RWorks G RH SH) (E : SSees SH) (H : Type) (enc : TypeId × Value → H) (W : World) (base : Nat) (args : Array Value) (ds gs : List (DataW H)) (before : List MemPlace)
    (hval : ∀ (j : Nat) t v, Tryz.f4.params[j]? = some t → args[j]? = some v → Value.okWide Tryz.prog W .any base t v)
    (hW : DataW.Whole enc Tryz.prog Tryz.f4.params.toList Rows.streamRefusesSpec.vars false W args.toList ds gs before)
    (hsz : (DataW.weightsEach Tryz.prog (Tryz.f4.params.toList ++ (OpenSpec.ofChange Rows.streamRefusesSpec).bare.plain.varTypes Tryz.prog) (ds ++ gs)).all (· ≤ reachBytes) = true) (hlm : laidMetH Tryz.prog Rows.streamRefusesRow.laid W) :
    Calls Tryz.prog 4 args W fun e W' => ∃ v, e = .returned v ∧ Rows.streamRefusesSpec.post enc Tryz.prog Tryz.f4 false true false false W args v W' := by
  have hG := hT hlm
  have hW' := hW
  obtain ⟨p, q, hA0, hV, rfl, hfz, hnd⟩ := hW
  have hA : DataW.TrodAll enc Tryz.prog W 0 (fun _ => true) true Tryz.f4.params.toList args.toList ds p := hA0
  rw [Tryz.params4] at hA hval hsz
  obtain ⟨v0, vs0, d0, ds0, p0, q0, hargs, rfl, rfl, h0, r0⟩ := trodAll_cons hA
  obtain ⟨v1, vs1, d1, ds1, p1, q1, rfl, rfl, rfl, h1, r1⟩ := trodAll_cons r0
  obtain ⟨v2, vs2, d2, ds2, p2, q2, rfl, rfl, rfl, h2, r2⟩ := trodAll_cons r1
  obtain ⟨rfl, rfl, rfl⟩ := trodAll_nil r2
  obtain rfl : args = #[v0, v1, v2] := by cases args; simp_all
  obtain ⟨rfl, rfl⟩ := trodVars_none hV
  have h0k := h0
  have h1k := h1
  have h2k := h2
  clear hA0
  simp only [List.append_nil] at hW'
  have hlt0 : ∀ x ∈ p0, x.block < W.heap.size := fun x hx => by simpa using hW'.lt x (by simp [hx])
  have hw0 : ∀ x ∈ DataW.weights Tryz.prog 24 d0, x ≤ reachBytes := fun x hx => by
    have := List.all_eq_true.1 hsz _ (DataW.weights_mem_each (j := 0) rfl rfl _ hx)
    simpa using this
  have hlt1 : ∀ x ∈ p1, x.block < W.heap.size := fun x hx => by simpa using hW'.lt x (by simp [hx])
  have hw1 : ∀ x ∈ DataW.weights Tryz.prog 25 d1, x ≤ reachBytes := fun x hx => by
    have := List.all_eq_true.1 hsz _ (DataW.weights_mem_each (j := 1) rfl rfl _ hx)
    simpa using this
  have hlt2 : ∀ x ∈ p2, x.block < W.heap.size := fun x hx => by simpa using hW'.lt x (by simp [hx])
  have hw2 : ∀ x ∈ DataW.weights Tryz.prog 27 d2, x ≤ reachBytes := fun x hx => by
    have := List.all_eq_true.1 hsz _ (DataW.weights_mem_each (j := 2) rfl rfl _ hx)
    simpa using this
  obtain ⟨n, a, l, c, x0, x1, x2, x3, x4, x5, x6, x7, rfl, z1, z2, z3, z4, z5⟩ := open_plan (hval 0 24 v0 rfl rfl) h0 hw0
  obtain ⟨at', lt', ct', rfl, t1, t2⟩ := open_steps (hval 1 25 v1 rfl rfl) h1 hw1
  obtain ⟨x, rfl, o1⟩ := open_post (hval 2 27 v2 rfl rfl) h2 hw2
  refine (refuses_any hN V E ⟨n, l, [x0, x1, x2, x3, x4, x5, x6, x7]⟩ a c at' lt' ct' x W ⟨z1, z3, z4, rfl⟩ z2 z5 t1 t2 o1 hG).mono fun e W' ⟨he, hb⟩ => ?_
  subst he
  exact ⟨_, rfl, _, _, _, [], _, [], hW', trodAll_cons_mk (shut_bool Tryz.underlying4 _) trodAll_mk0, (trodAll_cons_mk (Below.trod laidOut (by kernel_rfl) (of_decide_eq_true (by kernel_rfl)) h0k hb hlt0) (trodAll_cons_mk (Below.trod laidOut (by kernel_rfl) (of_decide_eq_true (by kernel_rfl)) h1k hb hlt1) (trodAll_cons_mk (Below.trod laidOut (by kernel_rfl) (of_decide_eq_true (by kernel_rfl)) h2k hb hlt2) trodAll_mk0))), rfl, hb.frame _, fun h => by cases h⟩

/-- a world for the witness: the settled one, the listed tables holding what the row says -/
def litCells : Nat → DataW Unit → List Value
  | 0, _ => []
  | _ + 1, .lit (.int k z) => [.int k z]
  | _ + 1, .lit (.string s) => [.string ⟨s.toArray⟩]
  | n + 1, .agg l => l.flatMap (litCells n)
  | _ + 1, _ => []
def withCells (c : Array Value) : Obj → Obj
  | .cells _ t frozen => .cells c t frozen
  | o => o
def heapAt (g : Nat) (d : DataW Unit) (h : Array Obj) : Array Obj := h.modify g (withCells (litCells 4 d).toArray)
/- (the tables are named one by one: a definition that looks them up in the program isn't compiled) -/
def laid (w : World) : World := { w with heap := heapAt 2 Rows.laid_unicode_utf8_first (heapAt 0 Rows.laid_rillbook_plan_bounds (heapAt 3 Rows.laid_unicode_utf8_acceptRanges w.heap)) }
set_option maxRecDepth 100000 in
theorem laid_met (os : Os) : laidMet Tryz.prog Rows.streamRefusesRow.laid ((laid (World.holding Tryz.prog os ⟨#[], #[], []⟩)).forCall (fun _ _ => 0) ⟨#[], #[.agg #[.string ⟨#[]⟩, .slice none 0 0, .int .i64 0, .int .i64 0, .int .i64 0, .int .i64 0, .int .i64 0, .int .i64 0, .int .i64 0, .int .i64 0], .slice none 0 0, .agg #[.string ⟨#[]⟩, .string ⟨#[]⟩, .string ⟨#[]⟩, .string ⟨#[]⟩, .int .i64 0, .int .i64 0]], []⟩).memory :=
  laidMet_of_run' 8 (by kernel_rfl) (by kernel_rfl)
theorem reads (os : Os) {H : Type} (enc : TypeId × Value → H) : ∃ places, DataW.whole enc Tryz.prog ((laid (World.holding Tryz.prog os ⟨#[], #[], []⟩)).forCall (fun _ _ => 0) ⟨#[], #[.agg #[.string ⟨#[]⟩, .slice none 0 0, .int .i64 0, .int .i64 0, .int .i64 0, .int .i64 0, .int .i64 0, .int .i64 0, .int .i64 0, .int .i64 0], .slice none 0 0, .agg #[.string ⟨#[]⟩, .string ⟨#[]⟩, .string ⟨#[]⟩, .string ⟨#[]⟩, .int .i64 0, .int .i64 0]], []⟩).memory Tryz.f4.params.toList Rows.streamRefusesSpec.vars false (#[.agg #[.string ⟨#[]⟩, .slice none 0 0, .int .i64 0, .int .i64 0, .int .i64 0, .int .i64 0, .int .i64 0, .int .i64 0, .int .i64 0, .int .i64 0], .slice none 0 0, .agg #[.string ⟨#[]⟩, .string ⟨#[]⟩, .string ⟨#[]⟩, .string ⟨#[]⟩, .int .i64 0, .int .i64 0]] : Array Value).toList 8 = some ([.agg [.lit (.string []), .nil, .lit (.int .i64 0), .lit (.int .i64 0), .lit (.int .i64 0), .lit (.int .i64 0), .lit (.int .i64 0), .lit (.int .i64 0), .lit (.int .i64 0), .lit (.int .i64 0)], .nil, .agg [.lit (.string []), .lit (.string []), .lit (.string []), .lit (.string []), .lit (.int .i64 0), .lit (.int .i64 0)]], [], places) :=
  ⟨[], by kernel_rfl⟩

set_option maxRecDepth 100000 in
theorem lifted {G : World → Prop} {RH : World → Nat → Nat → (Nat → Prop) → Pn.Pln → Int → Int → Str → Prop} {SH : World → Nat → Nat → (Nat → Prop) → Sto → Prop} (hN : ∀ {w w' : World}, G w → Below w.heap.size w w' → G w') (hT : ∀ {W : World}, laidMetH Tryz.prog Rows.streamRefusesRow.laid W → G W) (V : RWorks G RH SH) (E : SSees SH) (os : Os) (started : os.Started) (H : Type) (enc : TypeId × Value → H) (F : Stop.Interp) :
    ReturnsInHanded {} Tryz.checked os 4 .any ((OpenSpec.ofChange Rows.streamRefusesSpec).preRow enc Tryz.prog Tryz.f4 Rows.streamRefusesRow.domain false Rows.streamRefusesRow.laid) (((OpenSpec.ofChange Rows.streamRefusesSpec).at F).post enc Tryz.prog Tryz.f4 false true false false) := by
  obtain ⟨places, hx⟩ := reads os enc
  refine returnsInHanded_of_row (C := Tryz.checked) (s := OpenSpec.ofChange Rows.streamRefusesSpec) own started (by kernel_rfl) Tryz.func4
    (witness_row_at (enc := enc) (C := Tryz.checked) false (laid (World.holding Tryz.prog os ⟨#[], #[], []⟩)) #[.agg #[.string ⟨#[]⟩, .slice none 0 0, .int .i64 0, .int .i64 0, .int .i64 0, .int .i64 0, .int .i64 0, .int .i64 0, .int .i64 0, .int .i64 0], .slice none 0 0, .agg #[.string ⟨#[]⟩, .string ⟨#[]⟩, .string ⟨#[]⟩, .string ⟨#[]⟩, .int .i64 0, .int .i64 0]] rfl (by kernel_rfl) (by kernel_rfl) (by kernel_rfl)
      (OpenSpec.preRow_of_cond 8 hx (by kernel_rfl) (fun k hk => by cases hk) (by kernel_rfl) (laid_met os))) ?_
  intro W base args ds gs before hval hW _ _ hsz hlm _ _
  exact contract hN hT V E H enc W base args ds gs before hval hW hsz hlm

theorem said_of {G : World → Prop} {RH : World → Nat → Nat → (Nat → Prop) → Pn.Pln → Int → Int → Str → Prop} {SH : World → Nat → Nat → (Nat → Prop) → Sto → Prop} (hN : ∀ {w w' : World}, G w → Below w.heap.size w w' → G w') (hT : ∀ {W : World}, laidMetH Tryz.prog Rows.streamRefusesRow.laid W → G W) (V : RWorks G RH SH) (E : SSees SH) : Rows.StreamRefusesSaid :=
  OpenClaim.holds_of_cond 4 Tryz.f4 rfl rfl rfl rfl rfl rfl rfl ⟨rfl, rfl, rfl, rfl, rfl⟩ rfl rfl rfl rfl rfl (by kernel_rfl) Tryz.func4 (by kernel_rfl)
    (of_decide_eq_true (by kernel_rfl)) (by unfold Func.isWrapper; first | (rw [if_pos (by decide +kernel)]; kernel_rfl) | (rw [if_neg (by decide +kernel)]; exact ⟨rfl, rfl⟩))
    (fun os started H enc _ F => by rw [OpenClaim.pre_eq_preRow]; exact lifted hN hT V E os started H enc F)

/-- no parameter wants a stand-in; the program's own looks are as the card says -/
theorem plain (f : FuncId) (fn : Func) (hf : Tryz.pinned.checked.prog.funcNamed Rows.streamRefusesRow.func = some f) (hfn : Tryz.pinned.checked.prog.funcs[f]? = some fn) :
    Rows.streamRefusesCard.stood.looks = Tryz.pinned.checked.prog.looks [] ∧ ∀ (j : Nat) t, fn.params[j]? = some t → Tryz.pinned.checked.prog.wantsStandIn t = false := by
  obtain rfl : f = 4 := Option.some.inj ((show Tryz.prog.funcNamed Rows.streamRefusesRow.func = some 4 by kernel_rfl).symm.trans hf) |>.symm
  obtain rfl : fn = Tryz.f4 := (Option.some.inj (Tryz.func4.symm.trans hfn)).symm
  refine ⟨by kernel_rfl, fun j t ht => ?_⟩
  rw [Tryz.params4] at ht
  have hm : t = 24 ∨ t = 25 ∨ t = 27 := by
    have := Array.mem_of_getElem? ht
    simp at this
    omega
  rcases hm with rfl | rfl | rfl
  · exact (show Tryz.prog.wantsStandIn 24 = false by kernel_rfl)
  · exact (show Tryz.prog.wantsStandIn 25 = false by kernel_rfl)
  · exact (show Tryz.prog.wantsStandIn 27 = false by kernel_rfl)

theorem card_of {G : World → Prop} {RH : World → Nat → Nat → (Nat → Prop) → Pn.Pln → Int → Int → Str → Prop} {SH : World → Nat → Nat → (Nat → Prop) → Sto → Prop} (hN : ∀ {w w' : World}, G w → Below w.heap.size w w' → G w') (hT : ∀ {W : World}, laidMetH Tryz.prog Rows.streamRefusesRow.laid W → G W) (V : RWorks G RH SH) (E : SSees SH) : Rows.StreamRefusesCardSaid :=
  Claim7.holds_tied_plain_at .later [] _ _ _ _ (said_of hN hT V E) (fun _ h => by cases h) (by kernel_rfl) (fun _ h => by cases h) streamRefuses_row_tie rfl ⟨rfl, rfl⟩ (by kernel_rfl) rfl plain (by kernel_rfl)
end Go.Proofs.YtmccpkpeimejhahGreatDoor.Dk.streamRefuses
