/-
  The law StreamTwice, over what is asked of the program's stream.
-/
import Derived.Test.YtohjipnkoiifhagGreatDoorWalkRR
import Derived.Test.YtohjipnkoiifhagGreatDoorWalkG1r
namespace Go.Proofs.YtohjipnkoiifhagGreatDoor.Dk
open Go.RowKit

/-- no id is known: nothing is told again -/
theorem pub_fresh {p : Pn.Pln} {m size now : Int} {x : Po} {st : Str} (h : st.ids = []) : (pubP p m size now x st).1.2.1 = false := by
  have ha : againB p now x st.ids = false := by
    unfold againB
    rw [h]
    unfold seenQ
    simp
  unfold pubP
  split
  · rfl
  · rw [if_neg (by rw [ha]; simp)]
    split
    · rfl
    · split
      · rfl
      · unfold putP
        split
        · rfl
        · split
          · rfl
          · split <;> rfl
theorem id_some {i : ByteArray} (h : i.size ≠ 0) : ¬ i.toList = [] ∧ i.toList.isEmpty = false := by
  have hl : i.toList.length = i.size := by rw [ByteArray.toList_eq]; simp
  have : ¬ i.toList = [] := fun z => by rw [z] at hl; simp at hl; omega
  exact ⟨this, by simpa using this⟩
theorem id_none {i : ByteArray} (h : i.size = 0) : i.toList = [] ∧ i.toList.isEmpty = true := by
  have hl : i.toList.length = i.size := by rw [ByteArray.toList_eq]; simp
  have : i.toList = [] := List.length_eq_zero_iff.1 (by omega)
  exact ⟨this, by rw [this]; rfl⟩
theorem win_of {P : Pn.Pln} (h : Pn.planE P = 0) : 0 ≤ nth P.v 7 ∧ nth P.v 7 ≤ 100000 := by
  obtain ⟨_, _, _, _, _, h6⟩ := Pn.plan_ok h
  have key : ∀ (v ms : List Int) (k : Nat), Pn.inAll v ms = true → 0 ≤ (v[k]?).getD 0 ∧ (v[k]?).getD 0 ≤ (ms[k]?).getD 0 := by
    intro v
    induction v with
    | nil =>
      intro ms k hh
      cases ms with
      | nil => simp
      | cons w ms => simp [Pn.inAll] at hh
    | cons y v ih =>
      intro ms k hh
      cases ms with
      | nil => simp [Pn.inAll] at hh
      | cons w ms =>
        simp only [Pn.inAll, Bool.and_eq_true, decide_eq_true_eq] at hh
        cases k with
        | zero => simpa using hh.1
        | succ k => simpa using ih ms k hh.2
  exact key P.v Pn.most8 7 h6
section
variable {G : World → Prop} {RH : World → Nat → Nat → (Nat → Prop) → Pn.Pln → Int → Int → Str → Prop} {SH : World → Nat → Nat → (Nat → Prop) → Sto → Prop}
set_option maxRecDepth 100000 in
set_option maxHeartbeats 4000000 in
theorem twice_any (hN : ∀ {w w' : World}, G w → Below w.heap.size w w' → G w') (V : RWorks G RH SH) (E : SSees SH) (P : Pn.Pln) (ap : Option Addr) (cp : Nat) (now later : Int) (x : Po) (w : World) (hP : SmallP P) (hsl : SlS w ap P.f) (hcp : P.f.length ≤ cp) (hx : SmallO x) (hG : G w) :
    Calls Tryz.prog 5 #[plV P ap cp, .int .i64 now, .int .i64 later, poV x] w fun e w' => e = .returned (.bool true) ∧ Below w.heap.size w w' := by
  unfold plV
  have b1 : Below w.heap.size w (w.alloc (.cells #[.string P.n, .slice ap P.f.length cp, .int .i64 (nth P.v 0), .int .i64 (nth P.v 1), .int .i64 (nth P.v 2), .int .i64 (nth P.v 3), .int .i64 (nth P.v 4), .int .i64 (nth P.v 5), .int .i64 (nth P.v 6), .int .i64 (nth P.v 7)] 43)) := (Below.refl _ _).alloc (Nat.le_refl _) _
  have p1 := PB.new w P.n ap P.f.length cp (nth P.v 0) (nth P.v 1) (nth P.v 2) (nth P.v 3) (nth P.v 4) (nth P.v 5) (nth P.v 6) (nth P.v 7) 43
  obtain ⟨W1, hW1⟩ : ∃ W1, W1 = w.alloc (.cells #[.string P.n, .slice ap P.f.length cp, .int .i64 (nth P.v 0), .int .i64 (nth P.v 1), .int .i64 (nth P.v 2), .int .i64 (nth P.v 3), .int .i64 (nth P.v 4), .int .i64 (nth P.v 5), .int .i64 (nth P.v 6), .int .i64 (nth P.v 7)] 43) := ⟨_, rfl⟩
  rw [← hW1] at b1 p1
  have b2 : Below W1.heap.size W1 (W1.alloc (.cells #[.string x.s, .string x.i, .string x.h, .string x.d, .int .i64 x.x, .int .i64 x.ro] 50)) := (Below.refl _ _).alloc (Nat.le_refl _) _
  have q2 := Held3.new W1 x (a := none) (l := []) (fun k hk => by simp at hk)
  obtain ⟨W2, hW2⟩ : ∃ W2, W2 = W1.alloc (.cells #[.string x.s, .string x.i, .string x.h, .string x.d, .int .i64 x.x, .int .i64 x.ro] 50) := ⟨_, rfl⟩
  rw [← hW2] at b2 q2
  obtain ⟨bp, hbp⟩ : ∃ bp, bp = w.heap.size := ⟨_, rfl⟩
  have hs1 : W1.heap.size = bp + 1 := by rw [hW1, hbp]; simp
  obtain ⟨bx, hbx⟩ : ∃ bx, bx = bp + 1 := ⟨_, rfl⟩
  rw [← hbp] at p1
  rw [hs1, ← hbx] at q2
  have b12 := bstep b1 b2
  have H2 : Hid (PB W2 bp P.n ap P.f.length cp (nth P.v 0) (nth P.v 1) (nth P.v 2) (nth P.v 3) (nth P.v 4) (nth P.v 5) (nth P.v 6) (nth P.v 7) ∧ Held3 W2 bx x none [] ∧ SlS W2 ap P.f ∧ G W2 ∧ Below w.heap.size w W2) := hide ⟨p1.next b2, q2, hsl.next b12, hN hG b12, b12⟩
  have HP := hide hP
  have HX := hide hx
  have PU := hide (published_any hN V E W2 (unhide H2).2.2.2.1)
  clear hsl hG b1 b2 p1 q2 b12 hP hx
  go_enter Tryz.func5, Tryz.ntmps5
  go_wp2_with fail
  rw [← hbp, ← hW1, ← hbx, ← hW2]
  clear hbp hW1 hbx hW2 hs1
  refine (unhide PU).mono ?_
  rintro e w3 ⟨rfl, b3⟩
  have H3 : Hid (PB w3 bp P.n ap P.f.length cp (nth P.v 0) (nth P.v 1) (nth P.v 2) (nth P.v 3) (nth P.v 4) (nth P.v 5) (nth P.v 6) (nth P.v 7) ∧ Held3 w3 bx x none [] ∧ SlS w3 ap P.f ∧ G w3 ∧ Below w.heap.size w w3) := hide ⟨(unhide H2).1.next b3, (unhide H2).2.1.next b3, (unhide H2).2.2.1.next b3, hN (unhide H2).2.2.2.1 b3, bstep (unhide H2).2.2.2.2 b3⟩
  clear PU b3 H2
  obtain ⟨_, y0, y1, y2, y3, y4, y5, y6, y7, y8, y9⟩ := (unhide H3).1
  by_cases hE : Pn.planE P = 0
  · have PN := hide (Ray.new V (m := 65536) (size := 4096) w3 P ap cp (unhide HP) (unhide H3).2.2.1 hcp (unhide H3).2.2.2.1 hE (by decide) (by decide))
    unfold plV at PN
    go_wp2_with fail
    refine (unhide PN).mono ?_
    rintro e w4 ⟨q, rfl, r4⟩
    have HR4 := hide r4
    have HB3 := hide (And.intro (unhide H3).2.1 (And.intro (unhide H3).2.2.2.2 (unhide H3).1))
    clear PN r4 H3 y0 y1 y2 y3 y4 y5 y6 y7 y8 y9
    have HH4 := hide ((unhide HB3).1.from (unhide HR4).bl (Nat.le_refl _))
    obtain ⟨_, x0', x1', x2', x3', x4', x5', _⟩ := unhide HH4
    have PF := hide ((unhide HR4).publish V now x (unhide HX))
    clear HH4
    go_wp2_with fail
    refine (unhide PF).mono ?_
    rintro e w5 ⟨rfl, r5, _⟩
    have HR5 := hide r5
    have hna := pub_fresh (p := P) (m := 65536) (size := 4096) (now := now) (x := x) (st := noStr) rfl
    have hnum := (pub_num (p := P) (m := 65536) (size := 4096) (now := now) (x := x) (st := noStr))
    have HT := hide (fun (h0 : (pubP P 65536 4096 now x noStr).1.2.2 = 0) => pub_twice (later := later) (ppos_of hE) (Int.le_refl _) rfl h0 hna)
    have hw7 := win_of hE
    clear PF r5 x0' x1' x2' x3' x4' x5' HR4
    obtain ⟨e1, he1⟩ : ∃ e1, (pubP P 65536 4096 now x noStr).1.2.2 = e1 := ⟨_, rfl⟩
    obtain ⟨n1, hn1⟩ : ∃ n1, (pubP P 65536 4096 now x noStr).1.1 = n1 := ⟨_, rfl⟩
    obtain ⟨st1, hst1⟩ : ∃ st1, (pubP P 65536 4096 now x noStr).2 = st1 := ⟨_, rfl⟩
    rw [hna, he1, hn1] at hnum
    rw [he1, hn1, hst1] at HT
    rw [hst1] at HR5
    rw [hna, he1, hn1]
    clear hna he1 hn1 hst1
    have HB5 := hide (bstep (unhide HB3).2.1 (unhide HR5).bl)
    by_cases h1 : e1 = 0
    · subst h1
      have hn1 : n1 = 1 := hnum.2.1 rfl rfl
      subst hn1
      have HT2 := hide (unhide HT rfl)
      have PS := hide ((unhide HR5).store V)
      have hok := hide (unhide HR5).fit.vok.ok
      clear HT hnum
      go_wp2_with fail
      refine (unhide PS).mono ?_
      rintro e w7 ⟨qs, F7, rfl, s7, b7⟩
      have HR7 := hide ((unhide HR5).below V b7)
      have PA := hide (E.all s7 (unhide hok) (unhide HR7).room)
      clear PS s7 b7 HR5 HB5
      go_wp2_with fail
      refine (unhide PA).mono ?_
      rintro e w8 ⟨v8, rfl, a8, b8⟩
      obtain ⟨aa, cc, rfl, _, _, sl8⟩ := a8.shape
      have HR8 : Hid (Ray RH (fun k => ∃ z, aa = some z ∧ z.block = k) w3 w8 q P 65536 4096 st1) := hide ((unhide HR7).mine V b8 (fun k hk => by
        obtain ⟨z, hz, e⟩ := hk
        subst hz
        right
        have := World.ownsRow.lt a8 z.block rfl
        rw [← e]
        exact this))
      have HS8 := hide sl8
      have HH8 := hide ((unhide HB3).1.from (unhide HR8).bl (Nat.le_refl _))
      obtain ⟨_, x0', x1', x2', x3', x4', x5', _⟩ := unhide HH8
      have PF := hide ((unhide HR8).publish V later x (unhide HX))
      have hfew : st1.s.l.length ≤ 200 := (unhide hok).few
      clear PA a8 b8 sl8 HR7 HH8
      go_wp2_with fail
      refine (unhide PF).mono ?_
      rintro e w6 ⟨rfl, r6, stay6⟩
      have HS6 := hide (stay6.recs (unhide HS8) (fun z hz => ⟨z, hz, rfl⟩))
      have HR6 := hide r6
      have HB6 := hide (bstep (unhide HB3).2.1 (unhide HR6).bl)
      have HH6 := hide ((unhide HB3).1.from (unhide HR6).bl (Nat.le_refl _))
      have hid1 := (unhide HH6).c1
      have hwc : w6.cell? ⟨bp, 9, none⟩ = some (.int .i64 (nth P.v 7)) := by
        rw [(unhide HR6).bl.cell (p := ⟨bp, 9, none⟩) (unhide HB3).2.2.lt]
        exact (unhide HB3).2.2.c9
      clear PF r6 stay6 x0' x1' x2' x3' x4' x5' HS8 HR8 HH6
      by_cases hin : inI later 0 1099511627776 = true
      · have hlr : 0 ≤ later ∧ later ≤ 1099511627776 := by simpa [inI] using hin
        have gl : decide (later < 0) = false := decide_eq_false (by omega)
        have gh : decide ((1099511627776 : Int) < later) = false := decide_eq_false (by omega)
        by_cases hw : x.i.size ≠ 0 ∧ 0 < pv P 7 ∧ later - pv P 7 ≤ now
        · have h2 := (unhide HT2).2.1 hin hw.1 hw.2.1 hw.2.2
          rw [h2]
          rw [h2] at HR6
          obtain ⟨ha, hb, hc⟩ := hw
          unfold pv at hb hc
          obtain ⟨gi1, gi2⟩ := id_some ha
          have hdw : IntKind.i64.wrap (later - nth P.v 7) = later - nth P.v 7 := by rw [IntKind.wrap_i64]; omega
          have gw : decide (0 < nth P.v 7) = true := decide_eq_true hb
          have gn : decide (later - nth P.v 7 ≤ now) = true := decide_eq_true hc
          have P9 := hide ((unhide HR6).store V)
          clear h2 HT2 ha
          go_wp2_with fail
          refine (unhide P9).mono ?_
          rintro e w9 ⟨q9, F9, rfl, s9, b9⟩
          have HR9 := hide ((unhide HR6).below V b9)
          have PA := hide (E.all s9 (unhide hok) (unhide HR9).room)
          have HS9 := hide ((unhide HS6).below b9)
          clear P9 s9 b9 HR6 HS6 hid1 hwc
          go_wp2_with fail
          refine (unhide PA).mono ?_
          rintro e w10 ⟨v10, rfl, a10, b10⟩
          obtain ⟨ab, cb, rfl, _, _, sl10⟩ := a10.shape
          have PQ := hide (equal_rec ab aa cb cc st1.s.l w10 sl10 ((unhide HS9).below b10) (by omega))
          have B10 := hide (bstep (bstep (unhide HB3).2.1 (unhide HR9).bl) b10)
          clear PA a10 b10 sl10 HR9 HS9
          go_wp2_with fail
          refine (unhide PQ).mono ?_
          rintro e w11 ⟨rfl, nn, rfl⟩
          go_wp2_with fail
          go_ret
          exact ⟨rfl, below_drewN (unhide B10) nn⟩
        · obtain ⟨h2, h3⟩ := (unhide HT2).2.2 hin hw
          rw [h2]
          obtain ⟨e2, he2⟩ : ∃ e2, (pubP P 65536 4096 later x st1).1.2.2 = e2 := ⟨_, rfl⟩
          obtain ⟨n2, hn2⟩ : ∃ n2, (pubP P 65536 4096 later x st1).1.1 = n2 := ⟨_, rfl⟩
          rw [he2, hn2] at h3
          rw [he2, hn2]
          have hdw : IntKind.i64.wrap (later - nth P.v 7) = later - nth P.v 7 := by rw [IntKind.wrap_i64]; omega
          have HW := hide hw
          clear HT2 h2 he2 hn2 hw
          by_cases h0 : e2 = 0
          · subst h0
            have hn2 : n2 = 2 := h3 rfl
            subst hn2
            clear h3
            by_cases z1 : x.i.size = 0
            · obtain ⟨gi1, gi2⟩ := id_none z1
              go_wp2_with fail
              go_ret
              exact ⟨rfl, unhide HB6⟩
            · obtain ⟨gi1, gi2⟩ := id_some z1
              by_cases z2 : 0 < nth P.v 7
              · have gw : decide (0 < nth P.v 7) = true := decide_eq_true z2
                have gn : decide (later - nth P.v 7 ≤ now) = false := decide_eq_false (fun z => unhide HW ⟨z1, z2, z⟩)
                go_wp2_with fail
                go_ret
                exact ⟨rfl, unhide HB6⟩
              · have gw : decide (0 < nth P.v 7) = false := decide_eq_false z2
                go_wp2_with fail
                go_ret
                exact ⟨rfl, unhide HB6⟩
          · have ge : (e2 != 0) = true := by simpa using h0
            clear h3
            by_cases z1 : x.i.size = 0
            · obtain ⟨gi1, gi2⟩ := id_none z1
              go_wp2_with fail
              go_ret
              exact ⟨rfl, unhide HB6⟩
            · obtain ⟨gi1, gi2⟩ := id_some z1
              by_cases z2 : 0 < nth P.v 7
              · have gw : decide (0 < nth P.v 7) = true := decide_eq_true z2
                have gn : decide (later - nth P.v 7 ≤ now) = false := decide_eq_false (fun z => unhide HW ⟨z1, z2, z⟩)
                go_wp2_with fail
                go_ret
                exact ⟨rfl, unhide HB6⟩
              · have gw : decide (0 < nth P.v 7) = false := decide_eq_false z2
                go_wp2_with fail
                go_ret
                exact ⟨rfl, unhide HB6⟩
      · have hin' : inI later 0 1099511627776 = false := by simpa using hin
        have h2 := (unhide HT2).1 hin'
        rw [h2]
        have hlr : later < 0 ∨ 1099511627776 < later := by
          unfold inI at hin'
          rw [Bool.and_eq_false_iff] at hin'
          simp only [decide_eq_false_iff_not] at hin'
          omega
        clear HT2 h2 hin hin'
        by_cases hneg : later < 0
        · have gl : decide (later < 0) = true := decide_eq_true hneg
          go_wp2_with fail
          go_ret
          exact ⟨rfl, unhide HB6⟩
        · have gl : decide (later < 0) = false := decide_eq_false hneg
          have gh : decide ((1099511627776 : Int) < later) = true := decide_eq_true (by omega)
          go_wp2_with fail
          go_ret
          exact ⟨rfl, unhide HB6⟩
    · have ge : (e1 != 0) = true := by simpa using h1
      obtain ⟨hn0, _⟩ := hnum.1 h1
      subst hn0
      clear HT hnum
      go_wp2_with fail
      go_ret
      exact ⟨rfl, unhide HB5⟩
  · have PN := hide (V.wrong w3 P ap cp 65536 4096 (unhide HP) (unhide H3).2.2.1 hcp (unhide H3).2.2.2.1 hE)
    unfold plV at PN
    obtain ⟨EE, hEE⟩ : ∃ EE, Pn.planE P = EE := ⟨_, rfl⟩
    rw [hEE] at PN hE
    have gE : (EE != 0) = true := by simpa using hE
    clear hEE
    go_wp2_with fail
    refine (unhide PN).mono ?_
    rintro e w4 ⟨rfl, b4⟩
    have B4 := hide (bstep (unhide H3).2.2.2.2 b4)
    clear b4 PN H3 y0 y1 y2 y3 y4 y5 y6 y7 y8 y9
    go_wp2_with fail
    go_ret
    exact ⟨rfl, unhide B4⟩
end
end Go.Proofs.YtohjipnkoiifhagGreatDoor.Dk
