/-
  The law StreamRolls, over what is asked of the program's stream.
  Contract of slices.Equal at two slices that show the same records.
  The law StreamTwice, over what is asked of the program's stream.
  The law StreamTwice returns true for every input, over what is asked of the program's stream and store. The card ties the listed tables to the program's text.
-/
import Derived.Test.YtmccpkpeimejhagGreatDoorWalkRa
import Derived.Test.YtmccpkpeimejhagGreatDoorJointRowPfRowRRowStRowSoPapRe
import Derived.Test.YtmccpkpeimejhagGreatDoorJointPlainR2PapGRowGPapNWorksG
import Derived.Deep.QuietTactic
import Derived.BigQuiet
import Derived.Test.YtmccpkpeimejhagGreatDoorCards
import Derived.Test.YtmccpkpeimejhagGreatDoorTie
import Derived.ProofKit
import Derived.OpenShut
import Derived.SizedLaws
import Derived.Deep.DeepHandedRow
namespace Go.Proofs.YtmccpkpeimejhagGreatDoor.Dk
open Go.RowKit

/-- a plan's box, a post's box and steps, behind a stream -/
structure Held3 (w : World) (bx : Nat) (x : Po) (a : Option Addr) (l : List Stp) : Prop where
  lt : bx < w.heap.size
  c0 : w.cell? ⟨bx, 0, none⟩ = some (.string x.s)
  c1 : w.cell? ⟨bx, 1, none⟩ = some (.string x.i)
  c2 : w.cell? ⟨bx, 2, none⟩ = some (.string x.h)
  c3 : w.cell? ⟨bx, 3, none⟩ = some (.string x.d)
  c4 : w.cell? ⟨bx, 4, none⟩ = some (.int .i64 x.x)
  c5 : w.cell? ⟨bx, 5, none⟩ = some (.int .i64 x.ro)
  row : SlP w a l
theorem Held3.from {B : Nat} {w w' : World} {bx : Nat} {x : Po} {a : Option Addr} {l : List Stp} (h : Held3 w bx x a l) (hb : Below B w w') (hB : w.heap.size ≤ B) : Held3 w' bx x a l := by
  have hlt : bx < B := Nat.lt_of_lt_of_le h.lt hB
  exact ⟨Nat.lt_of_lt_of_le h.lt hb.size, by rw [hb.cell (p := ⟨bx, 0, none⟩) hlt]; exact h.c0, by rw [hb.cell (p := ⟨bx, 1, none⟩) hlt]; exact h.c1, by rw [hb.cell (p := ⟨bx, 2, none⟩) hlt]; exact h.c2, by rw [hb.cell (p := ⟨bx, 3, none⟩) hlt]; exact h.c3, by rw [hb.cell (p := ⟨bx, 4, none⟩) hlt]; exact h.c4, by rw [hb.cell (p := ⟨bx, 5, none⟩) hlt]; exact h.c5, h.row.from hb hB⟩
theorem Held3.next {w w' : World} {bx : Nat} {x : Po} {a : Option Addr} {l : List Stp} (h : Held3 w bx x a l) (hb : Below w.heap.size w w') : Held3 w' bx x a l := h.from hb (Nat.le_refl _)
theorem Held3.new (w : World) (x : Po) {a : Option Addr} {l : List Stp} (h : SlP w a l) : Held3 (w.alloc (.cells #[.string x.s, .string x.i, .string x.h, .string x.d, .int .i64 x.x, .int .i64 x.ro] 50)) w.heap.size x a l := ⟨by simp, by simp, by simp, by simp, by simp, by simp, by simp, h.next ((Below.refl _ _).alloc (Nat.le_refl _) _)⟩
theorem rc_memR {l : List Rc} {k : Nat} (h : k < l.length) : rc l k ∈ l := by
  unfold rc
  rw [List.getElem?_eq_getElem h]
  exact List.getElem_mem h
section
variable {G : World → Prop} {RH : World → Nat → Nat → (Nat → Prop) → Pn.Pln → Int → Int → Str → Prop} {SH : World → Nat → Nat → (Nat → Prop) → Sto → Prop}
end
end Go.Proofs.YtmccpkpeimejhagGreatDoor.Dk

namespace Go.Proofs.YtmccpkpeimejhagGreatDoor.Dk
open Go.RowKit

theorem neqR (r : Rc) (W : World) : (binOp .neq 30 (.agg #[.int .i64 r.k, .int .i64 r.q, .int .i64 r.t, .string r.s, .string r.h, .string r.d]) (.agg #[.int .i64 r.k, .int .i64 r.q, .int .i64 r.t, .string r.s, .string r.h, .string r.d])).run Tryz.prog W = .ok (.bool false) W := by
  have u3 := Tryz.underlying3
  have u9 := Tryz.underlying9
  have hS : Tryz.prog.underlying 30 = some (.struct (Tryz.prog.fieldsOf 30)) := by kernel_rfl
  have hp : Tryz.prog.stoodInHeld 30 = false := by kernel_rfl
  rw [run_neq_struct, show (10000 : Nat) = 9999 + 1 from rfl, run_equalIn_agg W 9999 30 _ _ hS hp]
  simp only [Program.fieldsOf, Tryz.underlying30]
  go_simp

set_option maxHeartbeats 2000000 in
set_option maxRecDepth 100000 in
theorem equal_rec (a b : Option Addr) (ca cb : Nat) (l : List Rc) (w : World) (ha : SlR w a l) (hb : SlR w b l) (h100 : l.length ≤ 1000000) :
    Calls Tryz.prog 14 #[.slice a l.length ca, .slice b l.length cb] w fun e w' => e = .returned (.bool true) ∧ ∃ q, w' = w.drewN q := by
  have Ha := hide ha
  have Hb := hide hb
  clear ha hb
  have hm : Tryz.prog.eqGuardType Tryz.prog.depth 30 = false := by kernel_rfl
  go_enter Tryz.func14, Tryz.ntmps14
  go_wp2
  go_loopw [13] (fun kv wr => ∃ (k : Nat), kv = .int .i64 k ∧ k ≤ l.length ∧ ∃ n, wr = w.drewN n) (fun kv _ => l.length - (intOf kv).toNat)
  case atStart => exact ⟨0, rfl, Nat.zero_le _, 0, rfl⟩
  case round =>
    obtain ⟨k, rfl, hk, n, rfl⟩ := hrel
    by_cases hlt : k < l.length
    · obtain ⟨g, o, rfl, s1⟩ := unhide Ha k hlt
      obtain ⟨h, o2, rfl, s2⟩ := unhide Hb k hlt
      obtain ⟨_, x0, x1, x2, x3, x4, x5⟩ := s1
      obtain ⟨_, y0, y1, y2, y3, y4, y5⟩ := s2
      have hne := neqR (rc l k)
      go_wp2
      go_quiet (fail)
      go_wp2
      exact ⟨⟨k + 1, by go_num, by omega, _, rfl⟩, by simp [intOf]; omega⟩
    · go_wp2
      go_ret
      exact ⟨rfl, n, rfl⟩
end Go.Proofs.YtmccpkpeimejhagGreatDoor.Dk

namespace Go.Proofs.YtmccpkpeimejhagGreatDoor.Dk
open Go.RowKit

/-- no id is known: nothing is told again -/
theorem pub_fresh {p : Pn.Pln} {m size now : Int} {x : Po} {st : Str} (h : st.ids = []) : (pubP p m size now x st).1.2.1 = false := by
  have ha : againB p now x st.ids = false := by
    unfold againB
    rw [h]
    unfold seenQ
    simp
  unfold pubP
  split
  · rfl
  · rw [if_neg (by rw [ha]; simp)]
    split
    · rfl
    · split
      · rfl
      · unfold putP
        split
        · rfl
        · split
          · rfl
          · split <;> rfl
theorem id_some {i : ByteArray} (h : i.size ≠ 0) : ¬ i.toList = [] ∧ i.toList.isEmpty = false := by
  have hl : i.toList.length = i.size := by rw [ByteArray.toList_eq]; simp
  have : ¬ i.toList = [] := fun z => by rw [z] at hl; simp at hl; omega
  exact ⟨this, by simpa using this⟩
theorem id_none {i : ByteArray} (h : i.size = 0) : i.toList = [] ∧ i.toList.isEmpty = true := by
  have hl : i.toList.length = i.size := by rw [ByteArray.toList_eq]; simp
  have : i.toList = [] := List.length_eq_zero_iff.1 (by omega)
  exact ⟨this, by rw [this]; rfl⟩
theorem win_of {P : Pn.Pln} (h : Pn.planE P = 0) : 0 ≤ nth P.v 7 ∧ nth P.v 7 ≤ 100000 := by
  obtain ⟨_, _, _, _, _, h6⟩ := Pn.plan_ok h
  have key : ∀ (v ms : List Int) (k : Nat), Pn.inAll v ms = true → 0 ≤ (v[k]?).getD 0 ∧ (v[k]?).getD 0 ≤ (ms[k]?).getD 0 := by
    intro v
    induction v with
    | nil =>
      intro ms k hh
      cases ms with
      | nil => simp
      | cons w ms => simp [Pn.inAll] at hh
    | cons y v ih =>
      intro ms k hh
      cases ms with
      | nil => simp [Pn.inAll] at hh
      | cons w ms =>
        simp only [Pn.inAll, Bool.and_eq_true, decide_eq_true_eq] at hh
        cases k with
        | zero => simpa using hh.1
        | succ k => simpa using ih ms k hh.2
  exact key P.v Pn.most8 7 h6
section
variable {G : World → Prop} {RH : World → Nat → Nat → (Nat → Prop) → Pn.Pln → Int → Int → Str → Prop} {SH : World → Nat → Nat → (Nat → Prop) → Sto → Prop}
set_option maxRecDepth 100000 in
set_option maxHeartbeats 4000000 in
theorem twice_any (hN : ∀ {w w' : World}, G w → Below w.heap.size w w' → G w') (V : RWorks G RH SH) (E : SSees SH) (P : Pn.Pln) (ap : Option Addr) (cp : Nat) (now later : Int) (x : Po) (w : World) (hP : SmallP P) (hsl : SlS w ap P.f) (hcp : P.f.length ≤ cp) (hx : SmallO x) (hG : G w) :
    Calls Tryz.prog 5 #[plV P ap cp, .int .i64 now, .int .i64 later, poV x] w fun e w' => e = .returned (.bool true) ∧ Below w.heap.size w w' := by
  unfold plV
  have b1 : Below w.heap.size w (w.alloc (.cells #[.string P.n, .slice ap P.f.length cp, .int .i64 (nth P.v 0), .int .i64 (nth P.v 1), .int .i64 (nth P.v 2), .int .i64 (nth P.v 3), .int .i64 (nth P.v 4), .int .i64 (nth P.v 5), .int .i64 (nth P.v 6), .int .i64 (nth P.v 7)] 43)) := (Below.refl _ _).alloc (Nat.le_refl _) _
  have p1 := PB.new w P.n ap P.f.length cp (nth P.v 0) (nth P.v 1) (nth P.v 2) (nth P.v 3) (nth P.v 4) (nth P.v 5) (nth P.v 6) (nth P.v 7) 43
  obtain ⟨W1, hW1⟩ : ∃ W1, W1 = w.alloc (.cells #[.string P.n, .slice ap P.f.length cp, .int .i64 (nth P.v 0), .int .i64 (nth P.v 1), .int .i64 (nth P.v 2), .int .i64 (nth P.v 3), .int .i64 (nth P.v 4), .int .i64 (nth P.v 5), .int .i64 (nth P.v 6), .int .i64 (nth P.v 7)] 43) := ⟨_, rfl⟩
  rw [← hW1] at b1 p1
  have b2 : Below W1.heap.size W1 (W1.alloc (.cells #[.string x.s, .string x.i, .string x.h, .string x.d, .int .i64 x.x, .int .i64 x.ro] 50)) := (Below.refl _ _).alloc (Nat.le_refl _) _
  have q2 := Held3.new W1 x (a := none) (l := []) (fun k hk => by simp at hk)
  obtain ⟨W2, hW2⟩ : ∃ W2, W2 = W1.alloc (.cells #[.string x.s, .string x.i, .string x.h, .string x.d, .int .i64 x.x, .int .i64 x.ro] 50) := ⟨_, rfl⟩
  rw [← hW2] at b2 q2
  obtain ⟨bp, hbp⟩ : ∃ bp, bp = w.heap.size := ⟨_, rfl⟩
  have hs1 : W1.heap.size = bp + 1 := by rw [hW1, hbp]; simp
  obtain ⟨bx, hbx⟩ : ∃ bx, bx = bp + 1 := ⟨_, rfl⟩
  rw [← hbp] at p1
  rw [hs1, ← hbx] at q2
  have b12 := bstep b1 b2
  have H2 : Hid (PB W2 bp P.n ap P.f.length cp (nth P.v 0) (nth P.v 1) (nth P.v 2) (nth P.v 3) (nth P.v 4) (nth P.v 5) (nth P.v 6) (nth P.v 7) ∧ Held3 W2 bx x none [] ∧ SlS W2 ap P.f ∧ G W2 ∧ Below w.heap.size w W2) := hide ⟨p1.next b2, q2, hsl.next b12, hN hG b12, b12⟩
  have HP := hide hP
  have HX := hide hx
  have PU := hide (published_any hN V E W2 (unhide H2).2.2.2.1)
  clear hsl hG b1 b2 p1 q2 b12 hP hx
  go_enter Tryz.func5, Tryz.ntmps5
  go_wp2_with fail
  rw [← hbp, ← hW1, ← hbx, ← hW2]
  clear hbp hW1 hbx hW2 hs1
  refine (unhide PU).mono ?_
  rintro e w3 ⟨rfl, b3⟩
  have H3 : Hid (PB w3 bp P.n ap P.f.length cp (nth P.v 0) (nth P.v 1) (nth P.v 2) (nth P.v 3) (nth P.v 4) (nth P.v 5) (nth P.v 6) (nth P.v 7) ∧ Held3 w3 bx x none [] ∧ SlS w3 ap P.f ∧ G w3 ∧ Below w.heap.size w w3) := hide ⟨(unhide H2).1.next b3, (unhide H2).2.1.next b3, (unhide H2).2.2.1.next b3, hN (unhide H2).2.2.2.1 b3, bstep (unhide H2).2.2.2.2 b3⟩
  clear PU b3 H2
  obtain ⟨_, y0, y1, y2, y3, y4, y5, y6, y7, y8, y9⟩ := (unhide H3).1
  by_cases hE : Pn.planE P = 0
  · have PN := hide (Ray.new V (m := 65536) (size := 4096) w3 P ap cp (unhide HP) (unhide H3).2.2.1 hcp (unhide H3).2.2.2.1 hE (by decide) (by decide))
    unfold plV at PN
    go_wp2_with fail
    refine (unhide PN).mono ?_
    rintro e w4 ⟨q, rfl, r4⟩
    have HR4 := hide r4
    have HB3 := hide (And.intro (unhide H3).2.1 (And.intro (unhide H3).2.2.2.2 (unhide H3).1))
    clear PN r4 H3 y0 y1 y2 y3 y4 y5 y6 y7 y8 y9
    have HH4 := hide ((unhide HB3).1.from (unhide HR4).bl (Nat.le_refl _))
    obtain ⟨_, x0', x1', x2', x3', x4', x5', _⟩ := unhide HH4
    have PF := hide ((unhide HR4).publish V now x (unhide HX))
    clear HH4
    go_wp2_with fail
    refine (unhide PF).mono ?_
    rintro e w5 ⟨rfl, r5, _⟩
    have HR5 := hide r5
    have hna := pub_fresh (p := P) (m := 65536) (size := 4096) (now := now) (x := x) (st := noStr) rfl
    have hnum := (pub_num (p := P) (m := 65536) (size := 4096) (now := now) (x := x) (st := noStr))
    have HT := hide (fun (h0 : (pubP P 65536 4096 now x noStr).1.2.2 = 0) => pub_twice (later := later) (ppos_of hE) (Int.le_refl _) rfl h0 hna)
    have hw7 := win_of hE
    clear PF r5 x0' x1' x2' x3' x4' x5' HR4
    obtain ⟨e1, he1⟩ : ∃ e1, (pubP P 65536 4096 now x noStr).1.2.2 = e1 := ⟨_, rfl⟩
    obtain ⟨n1, hn1⟩ : ∃ n1, (pubP P 65536 4096 now x noStr).1.1 = n1 := ⟨_, rfl⟩
    obtain ⟨st1, hst1⟩ : ∃ st1, (pubP P 65536 4096 now x noStr).2 = st1 := ⟨_, rfl⟩
    rw [hna, he1, hn1] at hnum
    rw [he1, hn1, hst1] at HT
    rw [hst1] at HR5
    rw [hna, he1, hn1]
    clear hna he1 hn1 hst1
    have HB5 := hide (bstep (unhide HB3).2.1 (unhide HR5).bl)
    by_cases h1 : e1 = 0
    · subst h1
      have hn1 : n1 = 1 := hnum.2.1 rfl rfl
      subst hn1
      have HT2 := hide (unhide HT rfl)
      have PS := hide ((unhide HR5).store V)
      have hok := hide (unhide HR5).fit.vok.ok
      clear HT hnum
      go_wp2_with fail
      refine (unhide PS).mono ?_
      rintro e w7 ⟨qs, F7, rfl, s7, b7⟩
      have HR7 := hide ((unhide HR5).below V b7)
      have PA := hide (E.all s7 (unhide hok) (unhide HR7).room)
      clear PS s7 b7 HR5 HB5
      go_wp2_with fail
      refine (unhide PA).mono ?_
      rintro e w8 ⟨v8, rfl, a8, b8⟩
      obtain ⟨aa, cc, rfl, _, _, sl8⟩ := a8.shape
      have HR8 : Hid (Ray RH (fun k => ∃ z, aa = some z ∧ z.block = k) w3 w8 q P 65536 4096 st1) := hide ((unhide HR7).mine V b8 (fun k hk => by
        obtain ⟨z, hz, e⟩ := hk
        subst hz
        right
        have := World.ownsRow.lt a8 z.block rfl
        rw [← e]
        exact this))
      have HS8 := hide sl8
      have HH8 := hide ((unhide HB3).1.from (unhide HR8).bl (Nat.le_refl _))
      obtain ⟨_, x0', x1', x2', x3', x4', x5', _⟩ := unhide HH8
      have PF := hide ((unhide HR8).publish V later x (unhide HX))
      have hfew : st1.s.l.length ≤ 200 := (unhide hok).few
      clear PA a8 b8 sl8 HR7 HH8
      go_wp2_with fail
      refine (unhide PF).mono ?_
      rintro e w6 ⟨rfl, r6, stay6⟩
      have HS6 := hide (stay6.recs (unhide HS8) (fun z hz => ⟨z, hz, rfl⟩))
      have HR6 := hide r6
      have HB6 := hide (bstep (unhide HB3).2.1 (unhide HR6).bl)
      have HH6 := hide ((unhide HB3).1.from (unhide HR6).bl (Nat.le_refl _))
      have hid1 := (unhide HH6).c1
      have hwc : w6.cell? ⟨bp, 9, none⟩ = some (.int .i64 (nth P.v 7)) := by
        rw [(unhide HR6).bl.cell (p := ⟨bp, 9, none⟩) (unhide HB3).2.2.lt]
        exact (unhide HB3).2.2.c9
      clear PF r6 stay6 x0' x1' x2' x3' x4' x5' HS8 HR8 HH6
      by_cases hin : inI later 0 1099511627776 = true
      · have hlr : 0 ≤ later ∧ later ≤ 1099511627776 := by simpa [inI] using hin
        have gl : decide (later < 0) = false := decide_eq_false (by omega)
        have gh : decide ((1099511627776 : Int) < later) = false := decide_eq_false (by omega)
        by_cases hw : x.i.size ≠ 0 ∧ 0 < pv P 7 ∧ later - pv P 7 ≤ now
        · have h2 := (unhide HT2).2.1 hin hw.1 hw.2.1 hw.2.2
          rw [h2]
          rw [h2] at HR6
          obtain ⟨ha, hb, hc⟩ := hw
          unfold pv at hb hc
          obtain ⟨gi1, gi2⟩ := id_some ha
          have hdw : IntKind.i64.wrap (later - nth P.v 7) = later - nth P.v 7 := by rw [IntKind.wrap_i64]; omega
          have gw : decide (0 < nth P.v 7) = true := decide_eq_true hb
          have gn : decide (later - nth P.v 7 ≤ now) = true := decide_eq_true hc
          have P9 := hide ((unhide HR6).store V)
          clear h2 HT2 ha
          go_wp2_with fail
          refine (unhide P9).mono ?_
          rintro e w9 ⟨q9, F9, rfl, s9, b9⟩
          have HR9 := hide ((unhide HR6).below V b9)
          have PA := hide (E.all s9 (unhide hok) (unhide HR9).room)
          have HS9 := hide ((unhide HS6).below b9)
          clear P9 s9 b9 HR6 HS6 hid1 hwc
          go_wp2_with fail
          refine (unhide PA).mono ?_
          rintro e w10 ⟨v10, rfl, a10, b10⟩
          obtain ⟨ab, cb, rfl, _, _, sl10⟩ := a10.shape
          have PQ := hide (equal_rec ab aa cb cc st1.s.l w10 sl10 ((unhide HS9).below b10) (by omega))
          have B10 := hide (bstep (bstep (unhide HB3).2.1 (unhide HR9).bl) b10)
          clear PA a10 b10 sl10 HR9 HS9
          go_wp2_with fail
          refine (unhide PQ).mono ?_
          rintro e w11 ⟨rfl, nn, rfl⟩
          go_wp2_with fail
          go_ret
          exact ⟨rfl, below_drewN (unhide B10) nn⟩
        · obtain ⟨h2, h3⟩ := (unhide HT2).2.2 hin hw
          rw [h2]
          obtain ⟨e2, he2⟩ : ∃ e2, (pubP P 65536 4096 later x st1).1.2.2 = e2 := ⟨_, rfl⟩
          obtain ⟨n2, hn2⟩ : ∃ n2, (pubP P 65536 4096 later x st1).1.1 = n2 := ⟨_, rfl⟩
          rw [he2, hn2] at h3
          rw [he2, hn2]
          have hdw : IntKind.i64.wrap (later - nth P.v 7) = later - nth P.v 7 := by rw [IntKind.wrap_i64]; omega
          have HW := hide hw
          clear HT2 h2 he2 hn2 hw
          by_cases h0 : e2 = 0
          · subst h0
            have hn2 : n2 = 2 := h3 rfl
            subst hn2
            clear h3
            by_cases z1 : x.i.size = 0
            · obtain ⟨gi1, gi2⟩ := id_none z1
              go_wp2_with fail
              go_ret
              exact ⟨rfl, unhide HB6⟩
            · obtain ⟨gi1, gi2⟩ := id_some z1
              by_cases z2 : 0 < nth P.v 7
              · have gw : decide (0 < nth P.v 7) = true := decide_eq_true z2
                have gn : decide (later - nth P.v 7 ≤ now) = false := decide_eq_false (fun z => unhide HW ⟨z1, z2, z⟩)
                go_wp2_with fail
                go_ret
                exact ⟨rfl, unhide HB6⟩
              · have gw : decide (0 < nth P.v 7) = false := decide_eq_false z2
                go_wp2_with fail
                go_ret
                exact ⟨rfl, unhide HB6⟩
          · have ge : (e2 != 0) = true := by simpa using h0
            clear h3
            by_cases z1 : x.i.size = 0
            · obtain ⟨gi1, gi2⟩ := id_none z1
              go_wp2_with fail
              go_ret
              exact ⟨rfl, unhide HB6⟩
            · obtain ⟨gi1, gi2⟩ := id_some z1
              by_cases z2 : 0 < nth P.v 7
              · have gw : decide (0 < nth P.v 7) = true := decide_eq_true z2
                have gn : decide (later - nth P.v 7 ≤ now) = false := decide_eq_false (fun z => unhide HW ⟨z1, z2, z⟩)
                go_wp2_with fail
                go_ret
                exact ⟨rfl, unhide HB6⟩
              · have gw : decide (0 < nth P.v 7) = false := decide_eq_false z2
                go_wp2_with fail
                go_ret
                exact ⟨rfl, unhide HB6⟩
      · have hin' : inI later 0 1099511627776 = false := by simpa using hin
        have h2 := (unhide HT2).1 hin'
        rw [h2]
        have hlr : later < 0 ∨ 1099511627776 < later := by
          unfold inI at hin'
          rw [Bool.and_eq_false_iff] at hin'
          simp only [decide_eq_false_iff_not] at hin'
          omega
        clear HT2 h2 hin hin'
        by_cases hneg : later < 0
        · have gl : decide (later < 0) = true := decide_eq_true hneg
          go_wp2_with fail
          go_ret
          exact ⟨rfl, unhide HB6⟩
        · have gl : decide (later < 0) = false := decide_eq_false hneg
          have gh : decide ((1099511627776 : Int) < later) = true := decide_eq_true (by omega)
          go_wp2_with fail
          go_ret
          exact ⟨rfl, unhide HB6⟩
    · have ge : (e1 != 0) = true := by simpa using h1
      obtain ⟨hn0, _⟩ := hnum.1 h1
      subst hn0
      clear HT hnum
      go_wp2_with fail
      go_ret
      exact ⟨rfl, unhide HB5⟩
  · have PN := hide (V.wrong w3 P ap cp 65536 4096 (unhide HP) (unhide H3).2.2.1 hcp (unhide H3).2.2.2.1 hE)
    unfold plV at PN
    obtain ⟨EE, hEE⟩ : ∃ EE, Pn.planE P = EE := ⟨_, rfl⟩
    rw [hEE] at PN hE
    have gE : (EE != 0) = true := by simpa using hE
    clear hEE
    go_wp2_with fail
    refine (unhide PN).mono ?_
    rintro e w4 ⟨rfl, b4⟩
    have B4 := hide (bstep (unhide H3).2.2.2.2 b4)
    clear b4 PN H3 y0 y1 y2 y3 y4 y5 y6 y7 y8 y9
    go_wp2_with fail
    go_ret
    exact ⟨rfl, unhide B4⟩
end
end Go.Proofs.YtmccpkpeimejhagGreatDoor.Dk

namespace Go.Proofs.YtmccpkpeimejhagGreatDoor.Dk.streamTwice
open Go.ChangeShapes Go.WideShapes Go.ChangeAt Go.RowKit Go.Deep

theorem own : ownKnob Tryz.prog.godebug = none := by kernel_rfl
theorem laidOut : laidOutB Tryz.prog = true := by kernel_rfl

set_option maxRecDepth 100000 in
set_option maxHeartbeats 1000000 in
theorem contract {G : World → Prop} {RH : World → Nat → Nat → (Nat → Prop) → Pn.Pln → Int → Int → Str → Prop} {SH : World → Nat → Nat → (Nat → Prop) → Sto → Prop} (hN : ∀ {w w' : World}, G w → Below w.heap.size w w' → G w') (hT : ∀ {W : World}, laidMetH Tryz.prog Rows.streamTwiceRow.laid W → G W) (V : RWorks G RH SH) (E : SSees SH) (H : Type) (enc : TypeId × Value → H) (W : World) (base : Nat) (args : Array Value) (ds gs : List (DataW H)) (before : List MemPlace)
    (hval : ∀ (j : Nat) t v, Tryz.f5.params[j]? = some t → args[j]? = some v → Value.okWide Tryz.prog W .any base t v)
    (hW : DataW.Whole enc Tryz.prog Tryz.f5.params.toList Rows.streamTwiceSpec.vars false W args.toList ds gs before)
    (hsz : (DataW.weightsEach Tryz.prog (Tryz.f5.params.toList ++ (OpenSpec.ofChange Rows.streamTwiceSpec).bare.plain.varTypes Tryz.prog) (ds ++ gs)).all (· ≤ reachBytes) = true) (hlm : laidMetH Tryz.prog Rows.streamTwiceRow.laid W) :
    Calls Tryz.prog 5 args W fun e W' => ∃ v, e = .returned v ∧ Rows.streamTwiceSpec.post enc Tryz.prog Tryz.f5 false true false false W args v W' := by
  have hG := hT hlm
  have hW' := hW
  obtain ⟨p, q, hA0, hV, rfl, hfz, hnd⟩ := hW
  have hA : DataW.TrodAll enc Tryz.prog W 0 (fun _ => true) true Tryz.f5.params.toList args.toList ds p := hA0
  rw [Tryz.params5] at hA hval hsz
  obtain ⟨v0, vs0, d0, ds0, p0, q0, hargs, rfl, rfl, h0, r0⟩ := trodAll_cons hA
  obtain ⟨v1, vs1, d1, ds1, p1, q1, rfl, rfl, rfl, h1, r1⟩ := trodAll_cons r0
  obtain ⟨v2, vs2, d2, ds2, p2, q2, rfl, rfl, rfl, h2, r2⟩ := trodAll_cons r1
  obtain ⟨v3, vs3, d3, ds3, p3, q3, rfl, rfl, rfl, h3, r3⟩ := trodAll_cons r2
  obtain ⟨rfl, rfl, rfl⟩ := trodAll_nil r3
  obtain rfl : args = #[v0, v1, v2, v3] := by cases args; simp_all
  obtain ⟨rfl, rfl⟩ := trodVars_none hV
  have h0k := h0
  obtain ⟨m1, rfl, rfl, rfl, ws1⟩ := open_int Tryz.underlying3 (hval 1 3 v1 rfl rfl) h1
  obtain ⟨m2, rfl, rfl, rfl, ws2⟩ := open_int Tryz.underlying3 (hval 2 3 v2 rfl rfl) h2
  have h3k := h3
  clear hA0
  simp only [List.append_nil, List.nil_append] at hW'
  have hlt0 : ∀ x ∈ p0, x.block < W.heap.size := fun x hx => by simpa using hW'.lt x (by simp [hx])
  have hw0 : ∀ x ∈ DataW.weights Tryz.prog 43 d0, x ≤ reachBytes := fun x hx => by
    have := List.all_eq_true.1 hsz _ (DataW.weights_mem_each (j := 0) rfl rfl _ hx)
    simpa using this
  have hlt3 : ∀ x ∈ p3, x.block < W.heap.size := fun x hx => by simpa using hW'.lt x (by simp [hx])
  have hw3 : ∀ x ∈ DataW.weights Tryz.prog 50 d3, x ≤ reachBytes := fun x hx => by
    have := List.all_eq_true.1 hsz _ (DataW.weights_mem_each (j := 3) rfl rfl _ hx)
    simpa using this
  obtain ⟨n, a, l, c, x0, x1, x2, x3, x4, x5, x6, x7, rfl, z1, z2, z3, z4, z5⟩ := open_plan (hval 0 43 v0 rfl rfl) h0 hw0
  obtain ⟨x, rfl, o1⟩ := open_post (hval 3 50 v3 rfl rfl) h3 hw3
  refine (twice_any hN V E ⟨n, l, [x0, x1, x2, x3, x4, x5, x6, x7]⟩ a c m1 m2 x W ⟨z1, z3, z4, rfl⟩ z2 z5 o1 hG).mono fun e W' ⟨he, hb⟩ => ?_
  subst he
  exact ⟨_, rfl, _, _, _, [], _, [], hW', trodAll_cons_mk (shut_bool Tryz.underlying4 _) trodAll_mk0, (trodAll_cons_mk (Below.trod laidOut (by kernel_rfl) (of_decide_eq_true (by kernel_rfl)) h0k hb hlt0) (trodAll_cons_mk (shut_int Tryz.underlying3 ws1) (trodAll_cons_mk (shut_int Tryz.underlying3 ws2) (trodAll_cons_mk (Below.trod laidOut (by kernel_rfl) (of_decide_eq_true (by kernel_rfl)) h3k hb hlt3) trodAll_mk0)))), rfl, hb.frame _, fun h => by cases h⟩

/-- a world for the witness: the settled one, the listed tables holding what the row says -/
def litCells : Nat → DataW Unit → List Value
  | 0, _ => []
  | _ + 1, .lit (.int k z) => [.int k z]
  | _ + 1, .lit (.string s) => [.string ⟨s.toArray⟩]
  | n + 1, .agg l => l.flatMap (litCells n)
  | _ + 1, _ => []
def withCells (c : Array Value) : Obj → Obj
  | .cells _ t frozen => .cells c t frozen
  | o => o
def heapAt (g : Nat) (d : DataW Unit) (h : Array Obj) : Array Obj := h.modify g (withCells (litCells 4 d).toArray)
/- (the tables are named one by one: a definition that looks them up in the program isn't compiled) -/
def laid (w : World) : World := { w with heap := heapAt 2 Rows.laid_unicode_utf8_first (heapAt 0 Rows.laid_rillbook_plan_bounds (heapAt 3 Rows.laid_unicode_utf8_acceptRanges w.heap)) }
set_option maxRecDepth 100000 in
theorem laid_met (os : Os) : laidMet Tryz.prog Rows.streamTwiceRow.laid ((laid (World.holding Tryz.prog os ⟨#[], #[], []⟩)).forCall (fun _ _ => 0) ⟨#[], #[.agg #[.string ⟨#[]⟩, .slice none 0 0, .int .i64 0, .int .i64 0, .int .i64 0, .int .i64 0, .int .i64 0, .int .i64 0, .int .i64 0, .int .i64 0], .int .i64 0, .int .i64 0, .agg #[.string ⟨#[]⟩, .string ⟨#[]⟩, .string ⟨#[]⟩, .string ⟨#[]⟩, .int .i64 0, .int .i64 0]], []⟩).memory :=
  laidMet_of_run' 8 (by kernel_rfl) (by kernel_rfl)
theorem reads (os : Os) {H : Type} (enc : TypeId × Value → H) : ∃ places, DataW.whole enc Tryz.prog ((laid (World.holding Tryz.prog os ⟨#[], #[], []⟩)).forCall (fun _ _ => 0) ⟨#[], #[.agg #[.string ⟨#[]⟩, .slice none 0 0, .int .i64 0, .int .i64 0, .int .i64 0, .int .i64 0, .int .i64 0, .int .i64 0, .int .i64 0, .int .i64 0], .int .i64 0, .int .i64 0, .agg #[.string ⟨#[]⟩, .string ⟨#[]⟩, .string ⟨#[]⟩, .string ⟨#[]⟩, .int .i64 0, .int .i64 0]], []⟩).memory Tryz.f5.params.toList Rows.streamTwiceSpec.vars false (#[.agg #[.string ⟨#[]⟩, .slice none 0 0, .int .i64 0, .int .i64 0, .int .i64 0, .int .i64 0, .int .i64 0, .int .i64 0, .int .i64 0, .int .i64 0], .int .i64 0, .int .i64 0, .agg #[.string ⟨#[]⟩, .string ⟨#[]⟩, .string ⟨#[]⟩, .string ⟨#[]⟩, .int .i64 0, .int .i64 0]] : Array Value).toList 8 = some ([.agg [.lit (.string []), .nil, .lit (.int .i64 0), .lit (.int .i64 0), .lit (.int .i64 0), .lit (.int .i64 0), .lit (.int .i64 0), .lit (.int .i64 0), .lit (.int .i64 0), .lit (.int .i64 0)], .lit (.int .i64 0), .lit (.int .i64 0), .agg [.lit (.string []), .lit (.string []), .lit (.string []), .lit (.string []), .lit (.int .i64 0), .lit (.int .i64 0)]], [], places) :=
  ⟨[], by kernel_rfl⟩

set_option maxRecDepth 100000 in
theorem lifted {G : World → Prop} {RH : World → Nat → Nat → (Nat → Prop) → Pn.Pln → Int → Int → Str → Prop} {SH : World → Nat → Nat → (Nat → Prop) → Sto → Prop} (hN : ∀ {w w' : World}, G w → Below w.heap.size w w' → G w') (hT : ∀ {W : World}, laidMetH Tryz.prog Rows.streamTwiceRow.laid W → G W) (V : RWorks G RH SH) (E : SSees SH) (os : Os) (started : os.Started) (H : Type) (enc : TypeId × Value → H) (F : Stop.Interp) :
    ReturnsInHanded {} Tryz.checked os 5 .any ((OpenSpec.ofChange Rows.streamTwiceSpec).preRow enc Tryz.prog Tryz.f5 Rows.streamTwiceRow.domain false Rows.streamTwiceRow.laid) (((OpenSpec.ofChange Rows.streamTwiceSpec).at F).post enc Tryz.prog Tryz.f5 false true false false) := by
  obtain ⟨places, hx⟩ := reads os enc
  refine returnsInHanded_of_row (C := Tryz.checked) (s := OpenSpec.ofChange Rows.streamTwiceSpec) own started (by kernel_rfl) Tryz.func5
    (witness_row_at (enc := enc) (C := Tryz.checked) false (laid (World.holding Tryz.prog os ⟨#[], #[], []⟩)) #[.agg #[.string ⟨#[]⟩, .slice none 0 0, .int .i64 0, .int .i64 0, .int .i64 0, .int .i64 0, .int .i64 0, .int .i64 0, .int .i64 0, .int .i64 0], .int .i64 0, .int .i64 0, .agg #[.string ⟨#[]⟩, .string ⟨#[]⟩, .string ⟨#[]⟩, .string ⟨#[]⟩, .int .i64 0, .int .i64 0]] rfl (by kernel_rfl) (by kernel_rfl) (by kernel_rfl)
      (OpenSpec.preRow_of_cond 8 hx (by kernel_rfl) (fun k hk => by cases hk) (by kernel_rfl) (laid_met os))) ?_
  intro W base args ds gs before hval hW _ _ hsz hlm _ _
  exact contract hN hT V E H enc W base args ds gs before hval hW hsz hlm

theorem said_of {G : World → Prop} {RH : World → Nat → Nat → (Nat → Prop) → Pn.Pln → Int → Int → Str → Prop} {SH : World → Nat → Nat → (Nat → Prop) → Sto → Prop} (hN : ∀ {w w' : World}, G w → Below w.heap.size w w' → G w') (hT : ∀ {W : World}, laidMetH Tryz.prog Rows.streamTwiceRow.laid W → G W) (V : RWorks G RH SH) (E : SSees SH) : Rows.StreamTwiceSaid :=
  OpenClaim.holds_of_cond 5 Tryz.f5 rfl rfl rfl rfl rfl rfl rfl ⟨rfl, rfl, rfl, rfl, rfl⟩ rfl rfl rfl rfl rfl (by kernel_rfl) Tryz.func5 (by kernel_rfl)
    (of_decide_eq_true (by kernel_rfl)) (by unfold Func.isWrapper; first | (rw [if_pos (by decide +kernel)]; kernel_rfl) | (rw [if_neg (by decide +kernel)]; exact ⟨rfl, rfl⟩))
    (fun os started H enc _ F => by rw [OpenClaim.pre_eq_preRow]; exact lifted hN hT V E os started H enc F)

/-- no parameter wants a stand-in; the program's own looks are as the card says -/
theorem plain (f : FuncId) (fn : Func) (hf : Tryz.pinned.checked.prog.funcNamed Rows.streamTwiceRow.func = some f) (hfn : Tryz.pinned.checked.prog.funcs[f]? = some fn) :
    Rows.streamTwiceCard.stood.looks = Tryz.pinned.checked.prog.looks [] ∧ ∀ (j : Nat) t, fn.params[j]? = some t → Tryz.pinned.checked.prog.wantsStandIn t = false := by
  obtain rfl : f = 5 := Option.some.inj ((show Tryz.prog.funcNamed Rows.streamTwiceRow.func = some 5 by kernel_rfl).symm.trans hf) |>.symm
  obtain rfl : fn = Tryz.f5 := (Option.some.inj (Tryz.func5.symm.trans hfn)).symm
  refine ⟨by kernel_rfl, fun j t ht => ?_⟩
  rw [Tryz.params5] at ht
  have hm : t = 43 ∨ t = 3 ∨ t = 50 := by
    have := Array.mem_of_getElem? ht
    simp at this
    omega
  rcases hm with rfl | rfl | rfl
  · exact (show Tryz.prog.wantsStandIn 43 = false by kernel_rfl)
  · exact (show Tryz.prog.wantsStandIn 3 = false by kernel_rfl)
  · exact (show Tryz.prog.wantsStandIn 50 = false by kernel_rfl)

theorem card_of {G : World → Prop} {RH : World → Nat → Nat → (Nat → Prop) → Pn.Pln → Int → Int → Str → Prop} {SH : World → Nat → Nat → (Nat → Prop) → Sto → Prop} (hN : ∀ {w w' : World}, G w → Below w.heap.size w w' → G w') (hT : ∀ {W : World}, laidMetH Tryz.prog Rows.streamTwiceRow.laid W → G W) (V : RWorks G RH SH) (E : SSees SH) : Rows.StreamTwiceCardSaid :=
  Claim7.holds_tied_plain_at .later [] _ _ _ _ (said_of hN hT V E) (fun _ h => by cases h) (by kernel_rfl) (fun _ h => by cases h) streamTwice_row_tie rfl ⟨rfl, rfl⟩ (by kernel_rfl) rfl plain (by kernel_rfl)
end Go.Proofs.YtmccpkpeimejhagGreatDoor.Dk.streamTwice
