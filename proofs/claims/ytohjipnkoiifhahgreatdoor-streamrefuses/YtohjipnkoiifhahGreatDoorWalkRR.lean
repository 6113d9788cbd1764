/-
  The law StreamRolls, over what is asked of the program's stream.
-/
import Derived.Test.YtohjipnkoiifhahGreatDoorWalkRa
import Derived.Test.YtohjipnkoiifhahGreatDoorJointRowPfRowStRowSo
namespace Go.Proofs.YtohjipnkoiifhahGreatDoor.Dk
open Go.RowKit

/-- a plan's box, a post's box and steps, behind a stream -/
structure Held3 (w : World) (bx : Nat) (x : Po) (a : Option Addr) (l : List Stp) : Prop where
  lt : bx < w.heap.size
  c0 : w.cell? ⟨bx, 0, none⟩ = some (.string x.s)
  c1 : w.cell? ⟨bx, 1, none⟩ = some (.string x.i)
  c2 : w.cell? ⟨bx, 2, none⟩ = some (.string x.h)
  c3 : w.cell? ⟨bx, 3, none⟩ = some (.string x.d)
  c4 : w.cell? ⟨bx, 4, none⟩ = some (.int .i64 x.x)
  c5 : w.cell? ⟨bx, 5, none⟩ = some (.int .i64 x.ro)
  row : SlP w a l
theorem Held3.from {B : Nat} {w w' : World} {bx : Nat} {x : Po} {a : Option Addr} {l : List Stp} (h : Held3 w bx x a l) (hb : Below B w w') (hB : w.heap.size ≤ B) : Held3 w' bx x a l := by
  have hlt : bx < B := Nat.lt_of_lt_of_le h.lt hB
  exact ⟨Nat.lt_of_lt_of_le h.lt hb.size, by rw [hb.cell (p := ⟨bx, 0, none⟩) hlt]; exact h.c0, by rw [hb.cell (p := ⟨bx, 1, none⟩) hlt]; exact h.c1, by rw [hb.cell (p := ⟨bx, 2, none⟩) hlt]; exact h.c2, by rw [hb.cell (p := ⟨bx, 3, none⟩) hlt]; exact h.c3, by rw [hb.cell (p := ⟨bx, 4, none⟩) hlt]; exact h.c4, by rw [hb.cell (p := ⟨bx, 5, none⟩) hlt]; exact h.c5, h.row.from hb hB⟩
theorem Held3.next {w w' : World} {bx : Nat} {x : Po} {a : Option Addr} {l : List Stp} (h : Held3 w bx x a l) (hb : Below w.heap.size w w') : Held3 w' bx x a l := h.from hb (Nat.le_refl _)
theorem Held3.new (w : World) (x : Po) {a : Option Addr} {l : List Stp} (h : SlP w a l) : Held3 (w.alloc (.cells #[.string x.s, .string x.i, .string x.h, .string x.d, .int .i64 x.x, .int .i64 x.ro] 27)) w.heap.size x a l := ⟨by simp, by simp, by simp, by simp, by simp, by simp, by simp, h.next ((Below.refl _ _).alloc (Nat.le_refl _) _)⟩
theorem rc_memR {l : List Rc} {k : Nat} (h : k < l.length) : rc l k ∈ l := by
  unfold rc
  rw [List.getElem?_eq_getElem h]
  exact List.getElem_mem h
section
variable {G : World → Prop} {RH : World → Nat → Nat → (Nat → Prop) → Pn.Pln → Int → Int → Str → Prop} {SH : World → Nat → Nat → (Nat → Prop) → Sto → Prop}
set_option maxRecDepth 100000 in
set_option maxHeartbeats 4000000 in
theorem rolls_any (hN : ∀ {w w' : World}, G w → Below w.heap.size w w' → G w') (V : RWorks G RH SH) (E : SSees SH) (P : Pn.Pln) (ap : Option Addr) (cp : Nat) (a : Option Addr) (l : List Stp) (c : Nat) (x : Po) (w : World) (hP : SmallP P) (hsl : SlS w ap P.f) (hcp : P.f.length ≤ cp) (hl : SlP w a l) (hlz : ∀ k, k < l.length → SmallT (spt l k)) (hx : SmallO x) (hG : G w) :
    Calls Tryz.prog 3 #[plV P ap cp, .slice a l.length c, poV x] w fun e w' => e = .returned (.bool true) ∧ Below w.heap.size w w' := by
  unfold plV
  have b1 : Below w.heap.size w (w.alloc (.cells #[.string P.n, .slice ap P.f.length cp, .int .i64 (nth P.v 0), .int .i64 (nth P.v 1), .int .i64 (nth P.v 2), .int .i64 (nth P.v 3), .int .i64 (nth P.v 4), .int .i64 (nth P.v 5), .int .i64 (nth P.v 6), .int .i64 (nth P.v 7)] 24)) := (Below.refl _ _).alloc (Nat.le_refl _) _
  have p1 := PB.new w P.n ap P.f.length cp (nth P.v 0) (nth P.v 1) (nth P.v 2) (nth P.v 3) (nth P.v 4) (nth P.v 5) (nth P.v 6) (nth P.v 7) 24
  obtain ⟨W1, hW1⟩ : ∃ W1, W1 = w.alloc (.cells #[.string P.n, .slice ap P.f.length cp, .int .i64 (nth P.v 0), .int .i64 (nth P.v 1), .int .i64 (nth P.v 2), .int .i64 (nth P.v 3), .int .i64 (nth P.v 4), .int .i64 (nth P.v 5), .int .i64 (nth P.v 6), .int .i64 (nth P.v 7)] 24) := ⟨_, rfl⟩
  rw [← hW1] at b1 p1
  have b2 : Below W1.heap.size W1 (W1.alloc (.cells #[.string x.s, .string x.i, .string x.h, .string x.d, .int .i64 x.x, .int .i64 x.ro] 27)) := (Below.refl _ _).alloc (Nat.le_refl _) _
  have q2 := Held3.new W1 x (hl.next b1)
  obtain ⟨W2, hW2⟩ : ∃ W2, W2 = W1.alloc (.cells #[.string x.s, .string x.i, .string x.h, .string x.d, .int .i64 x.x, .int .i64 x.ro] 27) := ⟨_, rfl⟩
  rw [← hW2] at b2 q2
  obtain ⟨bp, hbp⟩ : ∃ bp, bp = w.heap.size := ⟨_, rfl⟩
  have hs1 : W1.heap.size = bp + 1 := by rw [hW1, hbp]; simp
  obtain ⟨bx, hbx⟩ : ∃ bx, bx = bp + 1 := ⟨_, rfl⟩
  rw [← hbp] at p1
  rw [hs1, ← hbx] at q2
  have b12 := bstep b1 b2
  have H2 : Hid (PB W2 bp P.n ap P.f.length cp (nth P.v 0) (nth P.v 1) (nth P.v 2) (nth P.v 3) (nth P.v 4) (nth P.v 5) (nth P.v 6) (nth P.v 7) ∧ Held3 W2 bx x a l ∧ SlS W2 ap P.f ∧ G W2 ∧ Below w.heap.size w W2) := hide ⟨p1.next b2, q2, hsl.next b12, hN hG b12, b12⟩
  have HP := hide hP
  have HX := hide hx
  have HL := hide hlz
  have PU := hide (published_any hN V E W2 (unhide H2).2.2.2.1)
  clear hsl hl hlz hG b1 b2 p1 q2 b12 hP hx
  go_enter Tryz.func3, Tryz.ntmps3
  go_wp2_with fail
  rw [← hbp, ← hW1, ← hbx, ← hW2]
  clear hbp hW1 hbx hW2 hs1
  refine (unhide PU).mono ?_
  rintro e w3 ⟨rfl, b3⟩
  have H3 : Hid (PB w3 bp P.n ap P.f.length cp (nth P.v 0) (nth P.v 1) (nth P.v 2) (nth P.v 3) (nth P.v 4) (nth P.v 5) (nth P.v 6) (nth P.v 7) ∧ Held3 w3 bx x a l ∧ SlS w3 ap P.f ∧ G w3 ∧ Below w.heap.size w w3) := hide ⟨(unhide H2).1.next b3, (unhide H2).2.1.next b3, (unhide H2).2.2.1.next b3, hN (unhide H2).2.2.2.1 b3, bstep (unhide H2).2.2.2.2 b3⟩
  clear PU b3 H2
  obtain ⟨_, y0, y1, y2, y3, y4, y5, y6, y7, y8, y9⟩ := (unhide H3).1
  by_cases hE : Pn.planE P = 0
  · have PN := hide (Ray.new V (m := 65536) (size := 4096) w3 P ap cp (unhide HP) (unhide H3).2.2.1 hcp (unhide H3).2.2.2.1 hE (by decide) (by decide))
    unfold plV at PN
    go_wp2_with fail
    refine (unhide PN).mono ?_
    rintro e w4 ⟨q, rfl, r4⟩
    have HR4 := hide r4
    have HB3 := hide (And.intro (unhide H3).2.1 (unhide H3).2.2.2.2)
    clear PN r4 H3 y0 y1 y2 y3 y4 y5 y6 y7 y8 y9
    by_cases h60 : 60 < l.length
    · have g60 : decide ((60 : Int) < (l.length : Int)) = true := decide_eq_true (by omega)
      go_wp2_with fail
      go_ret
      exact ⟨rfl, bstep (unhide HB3).2 (unhide HR4).bl⟩
    · have g60 : decide ((60 : Int) < (l.length : Int)) = false := decide_eq_false (by omega)
      go_wp2_with fail
      go_loopw [32] (fun iv wr => ∃ (k : Nat) (st : Str), iv = .int .i64 k ∧ k ≤ l.length ∧ Hid (Ray RH (fun _ => False) w3 wr q P 65536 4096 st)) (fun iv _ => l.length - (intOf iv).toNat)
      case atStart => exact ⟨0, noStr, rfl, Nat.zero_le _, HR4⟩
      case round =>
        clear HR4
        obtain ⟨k, st, rfl, hk, HR⟩ := hrel
        have HH := hide ((unhide HB3).1.from (unhide HR).bl (Nat.le_refl _))
        by_cases hlt : k < l.length
        · obtain ⟨ba, o, rfl, t10⟩ := (unhide HH).row k hlt
          obtain ⟨_, z0, z1, z2, z3, z4, z5, z6, z7, z8, z9⟩ := t10
          obtain ⟨sp, hsp⟩ : ∃ sp, spt l k = sp := ⟨_, rfl⟩
          have hz := unhide HL k hlt
          rw [hsp] at z0 z1 z2 z3 z4 z5 z6 z7 z8 z9 hz
          have k5 : Below wr.heap.size wr (wr.alloc (.cells #[.int .i64 sp.k, .int .i64 sp.now, .int .i64 sp.n, .string sp.x.s, .string sp.x.i, .string sp.x.h, .string sp.x.d, .int .i64 sp.x.x, .int .i64 sp.x.ro, .string sp.f] 34)) := (Below.refl _ _).alloc (Nat.le_refl _) _
          have PB5 := hide (((unhide HR).below V k5).publish V sp.now sp.x hz.x)
          clear hsp k5 hz HH
          go_wp2_with fail
          refine (unhide PB5).mono ?_
          rintro e w5 ⟨rfl, r5, _⟩
          have HR5 := hide r5
          clear r5 PB5 HR z0 z1 z2 z3 z4 z5 z6 z7 z8 z9
          go_wp2_with fail
          refine ⟨⟨k + 1, _, by go_num, by omega, HR5⟩, ?_⟩
          simp [intOf]; omega
        · obtain rfl : k = l.length := by omega
          obtain ⟨_, x0', x1', x2', x3', x4', x5', _⟩ := unhide HH
          have PF := hide ((unhide HR).publish V 1073741824 x (unhide HX))
          have hro := hide (fun (h0 : (pubP P 65536 4096 1073741824 x st).1.2.2 = 0) (ha : (pubP P 65536 4096 1073741824 x st).1.2.1 = false) (hr : x.ro ≠ 0) => pub_rolls (unhide HR).fit.vok.ok h0 ha hr)
          go_wp2_with fail
          refine (unhide PF).mono ?_
          rintro e w6 ⟨rfl, r6, _⟩
          have HR6 := hide r6
          clear PF r6 x0' x1' x2' x3' x4' x5' HH HR
          obtain ⟨n, hn⟩ : ∃ n, (pubP P 65536 4096 1073741824 x st).1.1 = n := ⟨_, rfl⟩
          obtain ⟨ag, hag⟩ : ∃ ag, (pubP P 65536 4096 1073741824 x st).1.2.1 = ag := ⟨_, rfl⟩
          obtain ⟨ee, hee⟩ : ∃ ee, (pubP P 65536 4096 1073741824 x st).1.2.2 = ee := ⟨_, rfl⟩
          obtain ⟨st6, hst6⟩ : ∃ st6, (pubP P 65536 4096 1073741824 x st).2 = st6 := ⟨_, rfl⟩
          rw [hn, hag, hee, hst6] at hro
          rw [hst6] at HR6
          rw [hn, hag, hee]
          clear hn hag hee hst6
          have HH6 := hide ((unhide HB3).1.from (unhide HR6).bl (Nat.le_refl _))
          have HB6 := hide (bstep (unhide HB3).2 (unhide HR6).bl)
          have hroc := (unhide HH6).c5
          by_cases he : ee = 0
          · subst he
            cases ag with
            | true =>
              go_wp2_with fail
              go_ret
              exact ⟨rfl, unhide HB6⟩
            | false =>
              by_cases hr0 : x.ro = 0
              · rw [hr0] at hroc
                go_wp2_with fail
                go_ret
                exact ⟨rfl, unhide HB6⟩
              · have gr0 : (x.ro == 0) = false := by rw [beq_eq_false_iff_ne]; exact hr0
                obtain ⟨ho1, ho2⟩ := unhide hro rfl rfl hr0
                have HO1 := hide ho1
                have PS := hide ((unhide HR6).store V)
                obtain ⟨N, hNN⟩ : ∃ N, st6.s.l.length = N + 1 := ⟨st6.s.l.length - 1, by
                  have : st6.s.l ≠ [] := fun z => by rw [z] at ho2; simp at ho2
                  have := List.length_pos_iff.2 this
                  omega⟩
                have HO2 : Hid ((rc st6.s.l N).q = n) := hide (by
                  rw [List.getLast?_eq_getElem?, hNN, Nat.add_sub_cancel, List.getElem?_eq_getElem (by omega)] at ho2
                  unfold rc
                  rw [List.getElem?_eq_getElem (by omega)]
                  simpa using ho2)
                have hok := hide (unhide HR6).fit.vok.ok
                have hN2 : N + 1 ≤ 200 := by have := (unhide hok).few; omega
                clear ho1 ho2 hro
                go_wp2_with fail
                refine (unhide PS).mono ?_
                rintro e w7 ⟨qs, F7, rfl, s7, b7⟩
                have HR7 := hide ((unhide HR6).below V b7)
                have PA := hide (E.all s7 (unhide hok) (unhide HR7).room)
                clear PS s7 b7 HR6 HH6 HB6 hroc
                go_wp2_with fail
                refine (unhide PA).mono ?_
                rintro e w8 ⟨v8, rfl, a8, b8⟩
                obtain ⟨aa, cc, rfl, _, _, sl8⟩ := a8.shape
                have H8 : Hid (SlR w8 aa st6.s.l ∧ Held3 w8 bx x a l ∧ Below w.heap.size w w8) := hide ⟨sl8, ((unhide HB3).1.from (unhide HR7).bl (Nat.le_refl _)).next b8, bstep (bstep (unhide HB3).2 (unhide HR7).bl) b8⟩
                clear PA a8 b8 sl8 HR7 HB3
                obtain ⟨L, hL⟩ : ∃ L, st6.s.l = L := ⟨_, rfl⟩
                rw [hL] at H8 HO1 HO2 hNN ⊢
                clear hL hok
                rw [hNN]
                go_wp2_with fail
                go_loopw [65] (fun iv wr => ∃ (k : Nat), iv = .int .i64 k ∧ k ≤ N + 1 ∧ Hid (SlR wr aa L ∧ Held3 wr bx x a l ∧ Below w.heap.size w wr)) (fun iv _ => N + 1 - (intOf iv).toNat)
                case atStart => exact ⟨0, rfl, Nat.zero_le _, H8⟩
                case round =>
                  clear H8
                  obtain ⟨k, rfl, hk, H8⟩ := hrel
                  by_cases hkl : k < N + 1
                  · obtain ⟨bl, ol, rfl, t6⟩ := (unhide H8).1 k (by omega)
                    obtain ⟨_, z0, z1, z2, z3, z4, z5⟩ := t6
                    obtain ⟨r, hr⟩ : ∃ r, rc L k = r := ⟨_, rfl⟩
                    have hmem := rc_memR (l := L) (k := k) (by omega)
                    rw [hr] at z0 z1 z2 z3 z4 z5 hmem
                    have k9 : Below wr.heap.size wr (wr.alloc (.cells #[.int .i64 r.k, .int .i64 r.q, .int .i64 r.t, .string r.s, .string r.h, .string r.d] 42)) := (Below.refl _ _).alloc (Nat.le_refl _) _
                    have H9 : Hid (SlR (wr.alloc (.cells #[.int .i64 r.k, .int .i64 r.q, .int .i64 r.t, .string r.s, .string r.h, .string r.d] 42)) (some ⟨bl, ol, none⟩) L ∧ Held3 (wr.alloc (.cells #[.int .i64 r.k, .int .i64 r.q, .int .i64 r.t, .string r.s, .string r.h, .string r.d] 42)) bx x a l ∧ Below w.heap.size w (wr.alloc (.cells #[.int .i64 r.k, .int .i64 r.q, .int .i64 r.t, .string r.s, .string r.h, .string r.d] 42))) := hide ⟨(unhide H8).1.below k9, (unhide H8).2.1.next k9, bstep (unhide H8).2.2 k9⟩
                    have c0 := (unhide H9).2.1.c0
                    have c5 := (unhide H9).2.1.c5
                    clear hr k9 H8
                    by_cases hq : r.q = n
                    · have gq : (r.q != n) = false := by simpa using hq
                      clear hq hmem
                      go_wp2_with fail
                      refine ⟨⟨k + 1, by go_num, by omega, H9⟩, ?_⟩
                      simp [intOf]; omega
                    · have gq : (r.q != n) = true := by simpa using hq
                      have hno := unhide HO1 r hmem hq
                      have g2 : (x.ro == 2) = false := by rw [beq_eq_false_iff_ne]; exact fun z => hno (.inl z)
                      have gs : (r.s.toList == x.s.toList) = false := by
                        rw [beq_eq_false_iff_ne]
                        exact fun z => hno (.inr (WideShapes.bytes_inj (by rw [← ByteArray.toList_eq, ← ByteArray.toList_eq]; exact z)))
                      clear hno hmem hq
                      go_wp2_with fail
                      refine ⟨⟨k + 1, by go_num, by omega, H9⟩, ?_⟩
                      simp [intOf]; omega
                  · obtain rfl : k = N + 1 := by omega
                    obtain ⟨bl, ol, rfl, t6⟩ := (unhide H8).1 N (by omega)
                    have z1 := t6.c1
                    rw [unhide HO2] at z1
                    have B8 := hide (unhide H8).2.2
                    clear t6 H8
                    go_wp2_with fail
                    go_ret
                    exact ⟨rfl, unhide B8⟩
          · have ge : (ee != 0) = true := by simpa using he
            go_wp2_with fail
            go_ret
            exact ⟨rfl, unhide HB6⟩
  · have PN := hide (V.wrong w3 P ap cp 65536 4096 (unhide HP) (unhide H3).2.2.1 hcp (unhide H3).2.2.2.1 hE)
    unfold plV at PN
    obtain ⟨EE, hEE⟩ : ∃ EE, Pn.planE P = EE := ⟨_, rfl⟩
    rw [hEE] at PN hE
    have gE : (EE != 0) = true := by simpa using hE
    clear hEE
    go_wp2_with fail
    refine (unhide PN).mono ?_
    rintro e w4 ⟨rfl, b4⟩
    have B4 := hide (bstep (unhide H3).2.2.2.2 b4)
    clear b4 PN H3 y0 y1 y2 y3 y4 y5 y6 y7 y8 y9
    go_wp2_with fail
    go_ret
    exact ⟨rfl, unhide B4⟩
end
end Go.Proofs.YtohjipnkoiifhahGreatDoor.Dk
