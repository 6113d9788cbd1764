/-
  The law StreamRefuses, over what is asked of the program's stream.
-/
import Derived.Test.YtohjipnkoiifhahGreatDoorWalkRR
import Derived.Test.YtohjipnkoiifhahGreatDoorWalkG1r
namespace Go.Proofs.YtohjipnkoiifhahGreatDoor.Dk
open Go.RowKit

/-- new ones are thrown away, or old ones -/
theorem disc_of {P : Pn.Pln} (h : Pn.planE P = 0) : nth P.v 5 = 0 ∨ nth P.v 5 = 1 := by
  obtain ⟨_, _, _, _, _, h6⟩ := Pn.plan_ok h
  have key : ∀ (v ms : List Int) (k : Nat), Pn.inAll v ms = true → 0 ≤ (v[k]?).getD 0 ∧ (v[k]?).getD 0 ≤ (ms[k]?).getD 0 := by
    intro v
    induction v with
    | nil =>
      intro ms k hh
      cases ms with
      | nil => simp
      | cons w ms => simp [Pn.inAll] at hh
    | cons y v ih =>
      intro ms k hh
      cases ms with
      | nil => simp [Pn.inAll] at hh
      | cons w ms =>
        simp only [Pn.inAll, Bool.and_eq_true, decide_eq_true_eq] at hh
        cases k with
        | zero => simpa using hh.1
        | succ k => simpa using ih ms k hh.2
  obtain ⟨a, b⟩ := key P.v Pn.most8 5 h6
  unfold nth
  have e : ((Pn.most8[5]?).getD 0 : Int) = 1 := rfl
  rw [e] at b
  omega
section
variable {G : World → Prop} {RH : World → Nat → Nat → (Nat → Prop) → Pn.Pln → Int → Int → Str → Prop} {SH : World → Nat → Nat → (Nat → Prop) → Sto → Prop}
set_option maxRecDepth 100000 in
set_option maxHeartbeats 4000000 in
theorem refuses_any (hN : ∀ {w w' : World}, G w → Below w.heap.size w w' → G w') (V : RWorks G RH SH) (E : SSees SH) (P : Pn.Pln) (ap : Option Addr) (cp : Nat) (a : Option Addr) (l : List Stp) (c : Nat) (x : Po) (w : World) (hP : SmallP P) (hsl : SlS w ap P.f) (hcp : P.f.length ≤ cp) (hl : SlP w a l) (hlz : ∀ k, k < l.length → SmallT (spt l k)) (hx : SmallO x) (hG : G w) :
    Calls Tryz.prog 4 #[plV P ap cp, .slice a l.length c, poV x] w fun e w' => e = .returned (.bool true) ∧ Below w.heap.size w w' := by
  unfold plV
  have b1 : Below w.heap.size w (w.alloc (.cells #[.string P.n, .slice ap P.f.length cp, .int .i64 (nth P.v 0), .int .i64 (nth P.v 1), .int .i64 (nth P.v 2), .int .i64 (nth P.v 3), .int .i64 (nth P.v 4), .int .i64 (nth P.v 5), .int .i64 (nth P.v 6), .int .i64 (nth P.v 7)] 24)) := (Below.refl _ _).alloc (Nat.le_refl _) _
  have p1 := PB.new w P.n ap P.f.length cp (nth P.v 0) (nth P.v 1) (nth P.v 2) (nth P.v 3) (nth P.v 4) (nth P.v 5) (nth P.v 6) (nth P.v 7) 24
  obtain ⟨W1, hW1⟩ : ∃ W1, W1 = w.alloc (.cells #[.string P.n, .slice ap P.f.length cp, .int .i64 (nth P.v 0), .int .i64 (nth P.v 1), .int .i64 (nth P.v 2), .int .i64 (nth P.v 3), .int .i64 (nth P.v 4), .int .i64 (nth P.v 5), .int .i64 (nth P.v 6), .int .i64 (nth P.v 7)] 24) := ⟨_, rfl⟩
  rw [← hW1] at b1 p1
  have b2 : Below W1.heap.size W1 (W1.alloc (.cells #[.string x.s, .string x.i, .string x.h, .string x.d, .int .i64 x.x, .int .i64 x.ro] 27)) := (Below.refl _ _).alloc (Nat.le_refl _) _
  have q2 := Held3.new W1 x (hl.next b1)
  obtain ⟨W2, hW2⟩ : ∃ W2, W2 = W1.alloc (.cells #[.string x.s, .string x.i, .string x.h, .string x.d, .int .i64 x.x, .int .i64 x.ro] 27) := ⟨_, rfl⟩
  rw [← hW2] at b2 q2
  obtain ⟨bp, hbp⟩ : ∃ bp, bp = w.heap.size := ⟨_, rfl⟩
  have hs1 : W1.heap.size = bp + 1 := by rw [hW1, hbp]; simp
  obtain ⟨bx, hbx⟩ : ∃ bx, bx = bp + 1 := ⟨_, rfl⟩
  rw [← hbp] at p1
  rw [hs1, ← hbx] at q2
  have b12 := bstep b1 b2
  have H2 : Hid (PB W2 bp P.n ap P.f.length cp (nth P.v 0) (nth P.v 1) (nth P.v 2) (nth P.v 3) (nth P.v 4) (nth P.v 5) (nth P.v 6) (nth P.v 7) ∧ Held3 W2 bx x a l ∧ SlS W2 ap P.f ∧ G W2 ∧ Below w.heap.size w W2) := hide ⟨p1.next b2, q2, hsl.next b12, hN hG b12, b12⟩
  have HP := hide hP
  have HX := hide hx
  have HL := hide hlz
  have PU := hide (published_any hN V E W2 (unhide H2).2.2.2.1)
  clear hsl hl hlz hG b1 b2 p1 q2 b12 hP hx
  go_enter Tryz.func4, Tryz.ntmps4
  go_wp2_with fail
  rw [← hbp, ← hW1, ← hbx, ← hW2]
  clear hbp hW1 hbx hW2 hs1
  refine (unhide PU).mono ?_
  rintro e w3 ⟨rfl, b3⟩
  have H3 : Hid (PB w3 bp P.n ap P.f.length cp (nth P.v 0) (nth P.v 1) (nth P.v 2) (nth P.v 3) (nth P.v 4) (nth P.v 5) (nth P.v 6) (nth P.v 7) ∧ Held3 w3 bx x a l ∧ SlS w3 ap P.f ∧ G w3 ∧ Below w.heap.size w w3) := hide ⟨(unhide H2).1.next b3, (unhide H2).2.1.next b3, (unhide H2).2.2.1.next b3, hN (unhide H2).2.2.2.1 b3, bstep (unhide H2).2.2.2.2 b3⟩
  clear PU b3 H2
  obtain ⟨_, y0, y1, y2, y3, y4, y5, y6, y7, y8, y9⟩ := (unhide H3).1
  by_cases hE : Pn.planE P = 0
  · have PN := hide (Ray.new V (m := 65536) (size := 4096) w3 P ap cp (unhide HP) (unhide H3).2.2.1 hcp (unhide H3).2.2.2.1 hE (by decide) (by decide))
    unfold plV at PN
    go_wp2_with fail
    refine (unhide PN).mono ?_
    rintro e w4 ⟨q, rfl, r4⟩
    have HR4 := hide r4
    have HB3 := hide (And.intro (unhide H3).2.1 (And.intro (unhide H3).2.2.2.2 (unhide H3).1))
    clear PN r4 H3 y0 y1 y2 y3 y4 y5 y6 y7 y8 y9
    by_cases h60 : 60 < l.length
    · have g60 : decide ((60 : Int) < (l.length : Int)) = true := decide_eq_true (by omega)
      go_wp2_with fail
      go_ret
      exact ⟨rfl, bstep (unhide HB3).2.1 (unhide HR4).bl⟩
    · have g60 : decide ((60 : Int) < (l.length : Int)) = false := decide_eq_false (by omega)
      go_wp2_with fail
      have HLw : Hid (Low noStr.es ∧ noStr.s.last ≤ 0) := hide ⟨Low.nil, Int.le_refl _⟩
      go_loopw [28] (fun iv wr => ∃ (k : Nat) (st : Str), iv = .int .i64 k ∧ k ≤ l.length ∧ Hid (Low st.es ∧ st.s.last ≤ (k : Int)) ∧ Hid (Ray RH (fun _ => False) w3 wr q P 65536 4096 st)) (fun iv _ => l.length - (intOf iv).toNat)
      case atStart => exact ⟨0, noStr, rfl, Nat.zero_le _, HLw, HR4⟩
      case round =>
        clear HR4 HLw
        obtain ⟨k, st, rfl, hk, HLw, HR⟩ := hrel
        have HH := hide ((unhide HB3).1.from (unhide HR).bl (Nat.le_refl _))
        by_cases hlt : k < l.length
        · obtain ⟨ba, o, rfl, t10⟩ := (unhide HH).row k hlt
          obtain ⟨_, z0, z1, z2, z3, z4, z5, z6, z7, z8, z9⟩ := t10
          obtain ⟨sp, hsp⟩ : ∃ sp, spt l k = sp := ⟨_, rfl⟩
          have hz := unhide HL k hlt
          rw [hsp] at z0 z1 z2 z3 z4 z5 z6 z7 z8 z9 hz
          have k5 : Below wr.heap.size wr (wr.alloc (.cells #[.int .i64 sp.k, .int .i64 sp.now, .int .i64 sp.n, .string sp.x.s, .string sp.x.i, .string sp.x.h, .string sp.x.d, .int .i64 sp.x.x, .int .i64 sp.x.ro, .string sp.f] 34)) := (Below.refl _ _).alloc (Nat.le_refl _) _
          have PB5 := hide (((unhide HR).below V k5).publish V sp.now sp.x hz.x)
          have HLw2 : Hid (Low (pubP P 65536 4096 sp.now sp.x st).2.es ∧ (pubP P 65536 4096 sp.now sp.x st).2.s.last ≤ ((k + 1 : Nat) : Int)) := hide ⟨(unhide HLw).1.pub, by
            have h1 := (unhide HLw).2
            have h2 := (pub_last (p := P) (m := 65536) (size := 4096) (now := sp.now) (x := sp.x) (st := st)).2
            omega⟩
          clear hsp k5 hz HH HLw
          go_wp2_with fail
          refine (unhide PB5).mono ?_
          rintro e w5 ⟨rfl, r5, _⟩
          have HR5 := hide r5
          clear r5 PB5 HR z0 z1 z2 z3 z4 z5 z6 z7 z8 z9
          go_wp2_with fail
          refine ⟨⟨k + 1, _, by go_num, by omega, HLw2, HR5⟩, ?_⟩
          simp [intOf]; omega
        · obtain rfl : k = l.length := by omega
          have PS := hide ((unhide HR).store V)
          have hok := hide (unhide HR).fit.vok.ok
          clear HH
          go_wp2_with fail
          refine (unhide PS).mono ?_
          rintro e w7 ⟨qs, F7, rfl, s7, b7⟩
          have HR7 := hide ((unhide HR).below V b7)
          have PA := hide (E.all s7 (unhide hok) (unhide HR7).room)
          clear PS s7 b7 HR
          go_wp2_with fail
          refine (unhide PA).mono ?_
          rintro e w8 ⟨v8, rfl, a8, b8⟩
          obtain ⟨aa, cc, rfl, _, _, sl8⟩ := a8.shape
          have HR8 : Hid (Ray RH (fun k => ∃ z, aa = some z ∧ z.block = k) w3 w8 q P 65536 4096 st) := hide ((unhide HR7).mine V b8 (fun k hk => by
            obtain ⟨z, hz, e⟩ := hk
            subst hz
            right
            have := World.ownsRow.lt a8 z.block rfl
            rw [← e]
            exact this))
          have HS8 := hide sl8
          have HH8 := hide ((unhide HB3).1.from (unhide HR8).bl (Nat.le_refl _))
          obtain ⟨_, x0', x1', x2', x3', x4', x5', _⟩ := unhide HH8
          have PF := hide ((unhide HR8).publish V 1073741824 x (unhide HX))
          have hre := hide (fun (h0 : (pubP P 65536 4096 1073741824 x st).1.2.2 ≠ 0) (h8 : ¬ ((pubP P 65536 4096 1073741824 x st).1.2.2 = 8 ∧ (pv P 5 ≠ 1 ∨ x.ro ≠ 0))) => pub_refuses (ppos_of hE) (unhide HR8).fit.vok (unhide HLw).1 (by have := (unhide HLw).2; omega) h0 h8)
          clear PA a8 b8 sl8 HR7 hok HLw
          go_wp2_with fail
          refine (unhide PF).mono ?_
          rintro e w6 ⟨rfl, r6, stay6⟩
          have HS6 := hide (stay6.recs (unhide HS8) (fun z hz => ⟨z, hz, rfl⟩))
          have HR6 := hide r6
          clear PF r6 stay6 x0' x1' x2' x3' x4' x5' HH8 HR8 HS8
          obtain ⟨n, hn⟩ : ∃ n, (pubP P 65536 4096 1073741824 x st).1.1 = n := ⟨_, rfl⟩
          obtain ⟨ag, hag⟩ : ∃ ag, (pubP P 65536 4096 1073741824 x st).1.2.1 = ag := ⟨_, rfl⟩
          obtain ⟨ee, hee⟩ : ∃ ee, (pubP P 65536 4096 1073741824 x st).1.2.2 = ee := ⟨_, rfl⟩
          obtain ⟨st6, hst6⟩ : ∃ st6, (pubP P 65536 4096 1073741824 x st).2 = st6 := ⟨_, rfl⟩
          rw [hee, hst6] at hre
          rw [hst6] at HR6
          rw [hn, hag, hee]
          clear hn hag hee hst6
          have HH6 := hide ((unhide HB3).1.from (unhide HR6).bl (Nat.le_refl _))
          have HB6 := hide (bstep (unhide HB3).2.1 (unhide HR6).bl)
          have hroc := (unhide HH6).c5
          have hdc : w6.cell? ⟨bp, 7, none⟩ = some (.int .i64 (nth P.v 5)) := by
            rw [(unhide HR6).bl.cell (p := ⟨bp, 7, none⟩) (unhide HB3).2.2.lt]
            exact (unhide HB3).2.2.c7
          have hd1 := disc_of hE
          by_cases he : ee = 0
          · subst he
            clear hre
            go_wp2_with fail
            go_ret
            exact ⟨rfl, unhide HB6⟩
          · have ge : (ee == 0) = false := by rw [beq_eq_false_iff_ne]; exact he
            by_cases hfull : ee = 8 ∧ (nth P.v 5 = 0 ∨ x.ro ≠ 0)
            · obtain ⟨h8, hor⟩ := hfull
              subst h8
              clear hre
              by_cases hd0 : nth P.v 5 = 0
              · rw [hd0] at hdc
                go_wp2_with fail
                go_ret
                exact ⟨rfl, unhide HB6⟩
              · have gd : (nth P.v 5 == 0) = false := by rw [beq_eq_false_iff_ne]; exact hd0
                have gr : (x.ro != 0) = true := by
                  rcases hor with y | y
                  · exact absurd y hd0
                  · simpa using y
                clear hor hd0
                go_wp2_with fail
                go_ret
                exact ⟨rfl, unhide HB6⟩
            · have hsame := unhide hre he (fun z => hfull ⟨z.1, z.2.imp (fun y => by unfold pv at y; omega) id⟩)
              have PS := hide ((unhide HR6).store V)
              have hok6 := hide (unhide HR6).fit.vok.ok
              have hfew : st.s.l.length ≤ 200 := by rw [← hsame]; exact (unhide hok6).few
              have HSame := hide hsame
              have hg8 : ee = 8 → nth P.v 5 ≠ 0 ∧ x.ro = 0 := fun z => ⟨fun y => hfull ⟨z, .inl y⟩, Classical.byContradiction (fun y => hfull ⟨z, .inr y⟩)⟩
              clear hre hsame hfull
              by_cases h8 : ee = 8
              · subst h8
                obtain ⟨hd0, hr0⟩ := hg8 rfl
                have gd : (nth P.v 5 == 0) = false := by rw [beq_eq_false_iff_ne]; exact hd0
                rw [hr0] at hroc
                clear hg8 hd0
                go_wp2_with fail
                refine (unhide PS).mono ?_
                rintro e w9 ⟨qt, F9, rfl, s9, b9⟩
                have HR9 := hide ((unhide HR6).below V b9)
                have PA := hide (E.all s9 (unhide hok6) (unhide HR9).room)
                have HS9 := hide ((unhide HS6).below b9)
                clear PS s9 b9 HR6 HS6 HH6 hroc hdc
                go_wp2_with fail
                refine (unhide PA).mono ?_
                rintro e w10 ⟨v10, rfl, a10, b10⟩
                obtain ⟨ab, cb, rfl, _, _, sl10⟩ := a10.shape
                rw [unhide HSame] at sl10 ⊢
                have PQ := hide (equal_rec ab aa cb cc st.s.l w10 sl10 ((unhide HS9).below b10) (by omega))
                have B10 := hide (bstep (bstep (unhide HB3).2.1 (unhide HR9).bl) b10)
                clear PA a10 b10 sl10 HR9 HS9
                go_wp2_with fail
                refine (unhide PQ).mono ?_
                rintro e w11 ⟨rfl, nn, rfl⟩
                go_wp2_with fail
                go_ret
                exact ⟨rfl, below_drewN (unhide B10) nn⟩
              · have g8 : (ee == 8) = false := by rw [beq_eq_false_iff_ne]; exact h8
                clear hg8
                go_wp2_with fail
                refine (unhide PS).mono ?_
                rintro e w9 ⟨qt, F9, rfl, s9, b9⟩
                have HR9 := hide ((unhide HR6).below V b9)
                have PA := hide (E.all s9 (unhide hok6) (unhide HR9).room)
                have HS9 := hide ((unhide HS6).below b9)
                clear PS s9 b9 HR6 HS6 HH6 hroc hdc
                go_wp2_with fail
                refine (unhide PA).mono ?_
                rintro e w10 ⟨v10, rfl, a10, b10⟩
                obtain ⟨ab, cb, rfl, _, _, sl10⟩ := a10.shape
                rw [unhide HSame] at sl10 ⊢
                have PQ := hide (equal_rec ab aa cb cc st.s.l w10 sl10 ((unhide HS9).below b10) (by omega))
                have B10 := hide (bstep (bstep (unhide HB3).2.1 (unhide HR9).bl) b10)
                clear PA a10 b10 sl10 HR9 HS9
                go_wp2_with fail
                refine (unhide PQ).mono ?_
                rintro e w11 ⟨rfl, nn, rfl⟩
                go_wp2_with fail
                go_ret
                exact ⟨rfl, below_drewN (unhide B10) nn⟩
  · have PN := hide (V.wrong w3 P ap cp 65536 4096 (unhide HP) (unhide H3).2.2.1 hcp (unhide H3).2.2.2.1 hE)
    unfold plV at PN
    obtain ⟨EE, hEE⟩ : ∃ EE, Pn.planE P = EE := ⟨_, rfl⟩
    rw [hEE] at PN hE
    have gE : (EE != 0) = true := by simpa using hE
    clear hEE
    go_wp2_with fail
    refine (unhide PN).mono ?_
    rintro e w4 ⟨rfl, b4⟩
    have B4 := hide (bstep (unhide H3).2.2.2.2 b4)
    clear b4 PN H3 y0 y1 y2 y3 y4 y5 y6 y7 y8 y9
    go_wp2_with fail
    go_ret
    exact ⟨rfl, unhide B4⟩
end
end Go.Proofs.YtohjipnkoiifhahGreatDoor.Dk
