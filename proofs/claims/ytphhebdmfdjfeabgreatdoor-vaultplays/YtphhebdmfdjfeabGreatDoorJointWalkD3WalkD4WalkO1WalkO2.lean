/-
  Contract of rillref.Decoded: the record at the front, how many bytes it took, or the error.
  Contract of rillref.Decoded behind a right sum: the parts of the body, one by one.
  Contract of the document's log: Logged (a record is appended).
  Contract of the document's log: Opened (the records of a disk, which is cut).
-/
import Derived.Test.YtphhebdmfdjfeabGreatDoorJointWalkR1WalkR2WalkR3WalkD2
import Derived.Test.YtphhebdmfdjfeabGreatDoorJointWalkC5WalkC7WalkC8
import Derived.Test.YtphhebdmfdjfeabGreatDoorJointRowTWalk3Walk4Walk6aWalkD1
import Derived.Test.YtphhebdmfdjfeabGreatDoorJointWalkP6WalkP7WalkP8
import Derived.Test.YtphhebdmfdjfeabGreatDoorJointWorksDWorksEWorksGPapHPapFWorksF
namespace Go.Proofs.YtphhebdmfdjfeabGreatDoor
open Go.RowKit

/-- the sum's bytes, the m highest of them -/
def nS (l : List UInt8) (K : Nat) : Nat → Nat
  | 0 => 0
  | m + 1 => nS l K m * 256 + Pk.at' l (K + (3 - m))
theorem nS_lt (l : List UInt8) (K : Nat) : ∀ m, nS l K m < 256 ^ m
  | 0 => by simp [nS]
  | m + 1 => by
    have := nS_lt l K m
    have := Pk.at_lt l (K + (3 - m))
    rw [nS, Nat.pow_succ]
    omega
theorem nS_few (l : List UInt8) (K : Nat) {m : Nat} (h : m ≤ 4) : nS l K m < 4294967296 :=
  Nat.lt_of_lt_of_le (nS_lt l K m) (Nat.le_trans (Nat.pow_le_pow_right (by decide) h) (by decide))
theorem at_drop (l : List UInt8) (K j : Nat) : Pk.at' (l.drop K) j = Pk.at' l (K + j) := by
  unfold Pk.at'; rw [List.getElem?_drop]
theorem nS_four (l : List UInt8) (K : Nat) : nS l K 4 = Pk.num4 (l.drop K) := by
  unfold Pk.num4
  rw [at_drop, at_drop, at_drop, at_drop]
  show (((0 * 256 + Pk.at' l (K + 3)) * 256 + Pk.at' l (K + 2)) * 256 + Pk.at' l (K + 1)) * 256 + Pk.at' l (K + 0) = _
  omega
theorem sum_iff {l : List UInt8} {K c : Nat} (h : K + 4 ≤ l.length) (hc : c < 4294967296) : nS l K 4 = c ↔ (l.drop K).take 4 = Pk.le4 c := by
  rw [nS_four]
  have hl : 4 ≤ (l.drop K).length := by rw [List.length_drop]; omega
  constructor
  · intro e; rw [← e]; exact (Pk.le4_num4 hl).symm
  · intro e
    have := Pk.le4_num4 hl
    rw [e] at this
    refine Pk.le4_inj ?_ hc this
    rw [← nS_four]; exact nS_few l K (Nat.le_refl _)

theorem nS_round (s : ByteArray) {K j : Nat} (h : K + j < s.size) (hj : j ≤ 3) : wrap64 (((nS s.data.toList K (3 - j) : Nat) : Int) * 256 + wrap64 (s[K + j].toNat : Int)) = ((nS s.data.toList K (4 - j) : Nat) : Int) := by
  have hb := Pk.at_lt s.data.toList (K + j)
  have hv := nS_few s.data.toList K (m := 3 - j) (by omega)
  rw [show 4 - j = (3 - j) + 1 from by omega, nS, byte_at s h, IntWalk.wrap64_in (Pk.at' s.data.toList (K + j)) ⟨by omega, by omega⟩, IntWalk.wrap64_in _ ⟨by omega, by omega⟩, show 3 - (3 - j) = j from by omega]
  omega

set_option maxRecDepth 100000 in
set_option maxHeartbeats 400000 in
theorem rdecoded_A (s : ByteArray) (X : List UInt8) (K E : Nat) (w : World) (hs : s.size ≤ 281474976710656) (hr : Pk.rt s.data.toList 1024 = (X, K, E)) (hE : E ≠ 0) :
    Calls Tryz.prog 50 #[.string s] w fun e w' => e = .returned (decV s.data.toList) ∧ Below w.heap.size w w' := by
  have hv : textV s.data.toList 1024 = .tuple #[.string (bs X), .int .i64 K, .int .i64 E] := by unfold textV; rw [hr]
  have R := hide (decV_of (dec_A hr hE))
  have R0 := hide (RB.new w 0 0 0 ⟨#[]⟩ ⟨#[]⟩ ⟨#[]⟩ 43)
  have B0 : Hid (Below w.heap.size w (w.alloc (.cells #[.int .i64 0, .int .i64 0, .int .i64 0, .string ⟨#[]⟩, .string ⟨#[]⟩, .string ⟨#[]⟩] 43))) := hide ((Below.refl _ _).alloc (Nat.le_refl _) _)
  have hE' : ((E : Int) != 0) = true := by simp [hE]
  have hE2 : ¬ ((E : Int) = 0) := by omega
  clear hr hE
  go_enter Tryz.func50, Tryz.ntmps50
  go_wp2_with fail
  refine (rreadt_any s 1024 _ hs).mono ?_
  rintro e w1 ⟨rfl, b1⟩
  rw [hv]
  have R1 := (unhide R0).next b1
  have B1 := hide (bstep (unhide B0) b1)
  have H1 := hide R1
  obtain ⟨_, c0, c1, c2, c3, c4, c5, fr⟩ := R1
  have f0 := fr 0
  have f1 := fr 1
  have f2 := fr 2
  have f3 := fr 3
  have f4 := fr 4
  have f5 := fr 5
  clear R0 B0 b1 fr
  go_wp2_with fail
  refine bodyPost_ret (results_rec3 rfl rfl ((unhide H1).setAll _ _ _ _ _ _)) rfl ?_
  exact ⟨by rw [unhide R]; rfl, set6_below (unhide B1) (Nat.le_refl _)⟩

set_option maxRecDepth 100000 in
set_option maxHeartbeats 400000 in
theorem rdecoded_B (s : ByteArray) (X : List UInt8) (K : Nat) (w : World) (hs : s.size ≤ 281474976710656) (hr : Pk.rt s.data.toList 1024 = (X, K, 0)) (hK : K ≤ s.size) (h4 : s.size < K + 4) :
    Calls Tryz.prog 50 #[.string s] w fun e w' => e = .returned (decV s.data.toList) ∧ Below w.heap.size w w' := by
  have hv : textV s.data.toList 1024 = .tuple #[.string (bs X), .int .i64 K, .int .i64 0] := by unfold textV; rw [hr]; rfl
  have R := hide (decV_of (dec_B hr (by simpa using h4)))
  have R0 := hide (RB.new w 0 0 0 ⟨#[]⟩ ⟨#[]⟩ ⟨#[]⟩ 43)
  have B0 : Hid (Below w.heap.size w (w.alloc (.cells #[.int .i64 0, .int .i64 0, .int .i64 0, .string ⟨#[]⟩, .string ⟨#[]⟩, .string ⟨#[]⟩] 43))) := hide ((Below.refl _ _).alloc (Nat.le_refl _) _)
  clear hr
  go_enter Tryz.func50, Tryz.ntmps50
  go_wp2_with fail
  refine (rreadt_any s 1024 _ hs).mono ?_
  rintro e w1 ⟨rfl, b1⟩
  rw [hv]
  have R1 := (unhide R0).next b1
  have B1 := hide (bstep (unhide B0) b1)
  have H1 := hide R1
  obtain ⟨_, c0, c1, c2, c3, c4, c5, fr⟩ := R1
  have f0 := fr 0
  have f1 := fr 1
  have f2 := fr 2
  have f3 := fr 3
  have f4 := fr 4
  have f5 := fr 5
  clear R0 B0 b1 fr
  go_wp2_with fail
  refine bodyPost_ret (results_rec3 rfl rfl ((unhide H1).setAll _ _ _ _ _ _)) rfl ?_
  exact ⟨by rw [unhide R]; rfl, set6_below (unhide B1) (Nat.le_refl _)⟩

set_option maxRecDepth 100000 in
set_option maxHeartbeats 400000 in
theorem rdecoded_C (s : ByteArray) (X : List UInt8) (K : Nat) (w : World) (hs : s.size ≤ 281474976710656) (hr : Pk.rt s.data.toList 1024 = (X, K, 0)) (h4 : K + 4 ≤ s.size) (hX : X.length ≤ 1024) (hne : nS s.data.toList K 4 ≠ Pk.crc X ∨ X.length = 0) (hd : Pk.dec s.data.toList = (Pk.none', 0, 7)) :
    Calls Tryz.prog 50 #[.string s] w fun e w' => e = .returned (decV s.data.toList) ∧ Below w.heap.size w w' := by
  have hv : textV s.data.toList 1024 = .tuple #[.string (bs X), .int .i64 K, .int .i64 0] := by unfold textV; rw [hr]; rfl
  have R := hide (decV_of hd)
  have R0 := hide (RB.new w 0 0 0 ⟨#[]⟩ ⟨#[]⟩ ⟨#[]⟩ 43)
  have B0 : Hid (Below w.heap.size w (w.alloc (.cells #[.int .i64 0, .int .i64 0, .int .i64 0, .string ⟨#[]⟩, .string ⟨#[]⟩, .string ⟨#[]⟩] 43))) := hide ((Below.refl _ _).alloc (Nat.le_refl _) _)
  have HX := hide hX
  have HN := hide hne
  clear hr hd hne
  go_enter Tryz.func50, Tryz.ntmps50
  go_wp2_with fail
  refine (rreadt_any s 1024 _ hs).mono ?_
  rintro e w1 ⟨rfl, b1⟩
  rw [hv]
  have R1 := (unhide R0).next b1
  have B1 := hide (bstep (unhide B0) b1)
  have H1 := hide R1
  clear R0 B0 b1 R1
  go_wp2_with fail
  go_loop [8, 9] (fun a i => (∃ j : Nat, j ≤ 3 ∧ i = .int .i64 (j : Int) ∧ a = .int .i64 ((nS s.data.toList K (3 - j) : Nat) : Int)) ∨ (i = .int .i64 (-1) ∧ a = .int .i64 ((nS s.data.toList K 4 : Nat) : Int))) (fun _ i => (intOf i + 1).toNat)
  case atStart => exact .inl ⟨3, by decide, rfl, rfl⟩
  case round =>
    rcases hrel with ⟨j, hj, rfl, rfl⟩ | ⟨rfl, rfl⟩
    · have hl := nS_few s.data.toList K (m := 3 - j) (by omega)
      have hjs : K + j < s.size := by omega
      have e := hide (nS_round s hjs hj)
      go_wp2_with fail
      go_round
      case rel =>
        rcases Nat.eq_zero_or_pos j with h0 | h0
        · subst h0
          exact .inr ⟨by go_num, congrArg (Value.int .i64) (unhide e)⟩
        · exact .inl ⟨j - 1, by omega, by go_num, by rw [show 3 - (j - 1) = 4 - j from by omega, unhide e]⟩
      case measure => simp [intOf]
    · have hl4 := nS_few s.data.toList K (m := 4) (by decide)
      have hc4 := Pk.crc_lt X
      have R1 := unhide H1
      obtain ⟨_, c0, c1, c2, c3, c4, c5, fr⟩ := R1
      have f0 := fr 0
      have f1 := fr 1
      have f2 := fr 2
      have f3 := fr 3
      have f4 := fr 4
      have f5 := fr 5
      clear fr
      generalize hn : nS s.data.toList K 4 = n4 at hl4 HN ⊢
      generalize hcc : Pk.crc X = cc at hc4 HN
      have HCC := hide hcc
      clear hn hcc
      by_cases hq : n4 = cc
      · have hx0 : X.length = 0 := by
          rcases unhide HN with h | h
          · exact absurd hq h
          · exact h
        have hq' : ((n4 : Int) != (cc : Int)) = false := by simp; omega
        have hx1 : (bs X).size = 0 := by rw [bs_size]; exact hx0
        have hx2 : (((bs X).size : Int) == 0) = true := by simp [hx1]
        clear hq hx0 hx1
        go_wp2_with fail
        refine (rsum_any (bs X) _ (by rw [bs_size]; omega)).mono ?_
        rintro e w2 ⟨rfl, rfl⟩
        rw [bs_list, unhide HCC]
        go_wp2_with fail
        refine bodyPost_ret (results_rec3 rfl rfl ((unhide H1).setAll _ _ _ _ _ _)) rfl ?_
        exact ⟨by rw [unhide R]; rfl, set6_below (unhide B1) (Nat.le_refl _)⟩
      · have hq' : ((n4 : Int) != (cc : Int)) = true := by simp; omega
        clear hq
        go_wp2_with fail
        refine (rsum_any (bs X) _ (by rw [bs_size]; omega)).mono ?_
        rintro e w2 ⟨rfl, rfl⟩
        rw [bs_list, unhide HCC]
        go_wp2_with fail
        refine bodyPost_ret (results_rec3 rfl rfl ((unhide H1).setAll _ _ _ _ _ _)) rfl ?_
        exact ⟨by rw [unhide R]; rfl, set6_below (unhide B1) (Nat.le_refl _)⟩
end Go.Proofs.YtphhebdmfdjfeabGreatDoor

namespace Go.Proofs.YtphhebdmfdjfeabGreatDoor
open Go.RowKit

/-- the state of the parts' loop: where the answer will lie, the record so far -/
structure DS (w0 W : World) (b : Nat) (k q t : Int) (s h d : ByteArray) : Prop where
  res : RB W w0.heap.size 0 0 0 ⟨#[]⟩ ⟨#[]⟩ ⟨#[]⟩
  got : RB W b k q t s h d
  lt : w0.heap.size < b
  bel : Below w0.heap.size w0 W
theorem DS.next {w0 W w' : World} {b : Nat} {k q t : Int} {s h d : ByteArray} (x : DS w0 W b k q t s h d) (hb : Below W.heap.size W w') : DS w0 w' b k q t s h d :=
  ⟨x.res.next hb, x.got.next hb, x.lt, bstep x.bel hb⟩
theorem DS.drew {w0 W : World} {b : Nat} {k q t : Int} {s h d : ByteArray} (x : DS w0 W b k q t s h d) : DS w0 W.drew b k q t s h d := x.next (Below.refl _ _).drew
theorem DS.set1 {w0 W : World} {b : Nat} {k q t : Int} {s h d : ByteArray} (x : DS w0 W b k q t s h d) (y : Int) : DS w0 (W.setCell ⟨b, 1, none⟩ (.int .i64 y)) b k y t s h d :=
  ⟨x.res.other (by have := x.lt; omega), x.got.set1 y, x.lt, x.bel.setCell (Nat.le_of_lt x.lt) _⟩
theorem DS.set2 {w0 W : World} {b : Nat} {k q t : Int} {s h d : ByteArray} (x : DS w0 W b k q t s h d) (y : Int) : DS w0 (W.setCell ⟨b, 2, none⟩ (.int .i64 y)) b k q y s h d :=
  ⟨x.res.other (by have := x.lt; omega), x.got.set2 y, x.lt, x.bel.setCell (Nat.le_of_lt x.lt) _⟩
theorem DS.set3 {w0 W : World} {b : Nat} {k q t : Int} {s h d : ByteArray} (x : DS w0 W b k q t s h d) (y : ByteArray) : DS w0 (W.setCell ⟨b, 3, none⟩ (.string y)) b k q t y h d :=
  ⟨x.res.other (by have := x.lt; omega), x.got.set3 y, x.lt, x.bel.setCell (Nat.le_of_lt x.lt) _⟩
theorem DS.set4 {w0 W : World} {b : Nat} {k q t : Int} {s h d : ByteArray} (x : DS w0 W b k q t s h d) (y : ByteArray) : DS w0 (W.setCell ⟨b, 4, none⟩ (.string y)) b k q t s y d :=
  ⟨x.res.other (by have := x.lt; omega), x.got.set4 y, x.lt, x.bel.setCell (Nat.le_of_lt x.lt) _⟩
theorem DS.set5 {w0 W : World} {b : Nat} {k q t : Int} {s h d : ByteArray} (x : DS w0 W b k q t s h d) (y : ByteArray) : DS w0 (W.setCell ⟨b, 5, none⟩ (.string y)) b k q t s h y :=
  ⟨x.res.other (by have := x.lt; omega), x.got.set5 y, x.lt, x.bel.setCell (Nat.le_of_lt x.lt) _⟩
theorem okB_bad0 {r0 : List UInt8} (h : (Pk.rd r0).2.2 ≠ 0) : Pk.okB r0 = false := by
  unfold Pk.okB; rw [decide_eq_false h]; rfl
theorem okB_bad1 {r0 : List UInt8} (h : (Pk.rd (Pk.p1 r0)).2.2 ≠ 0) : Pk.okB r0 = false := by
  unfold Pk.okB; rw [decide_eq_false (p := (Pk.rd (Pk.p1 r0)).2.2 = 0) h]; simp
theorem okB_bad2 {r0 : List UInt8} (h : (Pk.rt (Pk.p2 r0) 1024).2.2 ≠ 0) : Pk.okB r0 = false := by
  unfold Pk.okB; rw [decide_eq_false (p := (Pk.rt (Pk.p2 r0) 1024).2.2 = 0) h]; simp
theorem okB_bad3 {r0 : List UInt8} (h : (Pk.rt (Pk.p3 r0) 1024).2.2 ≠ 0) : Pk.okB r0 = false := by
  unfold Pk.okB; rw [decide_eq_false (p := (Pk.rt (Pk.p3 r0) 1024).2.2 = 0) h]; simp
theorem okB_bad4 {r0 : List UInt8} (h : (Pk.rt (Pk.p4 r0) 1024).2.2 ≠ 0) : Pk.okB r0 = false := by
  unfold Pk.okB; rw [decide_eq_false (p := (Pk.rt (Pk.p4 r0) 1024).2.2 = 0) h]; simp
theorem okB_bad5 {r0 : List UInt8} (h : (Pk.p5 r0).length ≠ 0) : Pk.okB r0 = false := by
  unfold Pk.okB; rw [decide_eq_false (p := (Pk.p5 r0).length = 0) h]; simp
theorem p_next0 (r0 : List UInt8) : Pk.p1 r0 = Pk.aftN r0 := rfl
theorem p_next1 (r0 : List UInt8) : Pk.p2 r0 = Pk.aftN (Pk.p1 r0) := rfl
theorem p_next2 (r0 : List UInt8) : Pk.p3 r0 = Pk.aftT (Pk.p2 r0) := rfl
theorem p_next3 (r0 : List UInt8) : Pk.p4 r0 = Pk.aftT (Pk.p3 r0) := rfl
theorem p_next4 (r0 : List UInt8) : Pk.p5 r0 = Pk.aftT (Pk.p4 r0) := rfl
theorem num_facts {l nx : List UInt8} (hn : nx = Pk.aftN l) (hl : l.length ≤ 1024) : ∃ N K E : Nat, Hid (numV (bs l).data.toList = .tuple #[.int .i64 N, .int .i64 K, .int .i64 E]) ∧ Hid ((bs l).extract K (bs l).size = bs nx) ∧ Hid ((Pk.rd l).1 = N) ∧ K ≤ (bs l).size ∧ Hid ((Pk.rd l).2.2 = E) ∧ (bs l).size ≤ 1024 :=
  ⟨_, _, _, hide (by rw [bs_list]; rfl), hide (by rw [hn, cut_tail, bs_list]; rfl), hide rfl, by rw [bs_size]; exact rd_took l, hide rfl, by rw [bs_size]; exact hl⟩
theorem text_facts {l nx : List UInt8} (hn : nx = Pk.aftT l) (hl : l.length ≤ 1024) : ∃ (N : List UInt8) (K E : Nat), Hid (textV (bs l).data.toList 1024 = .tuple #[.string (bs N), .int .i64 K, .int .i64 E]) ∧ Hid ((bs l).extract K (bs l).size = bs nx) ∧ Hid ((Pk.rt l 1024).1 = N) ∧ K ≤ (bs l).size ∧ Hid ((Pk.rt l 1024).2.2 = E) ∧ (bs l).size ≤ 1024 :=
  ⟨_, _, _, hide (by rw [bs_list]; rfl), hide (by rw [hn, cut_tail, bs_list]; rfl), hide rfl, by rw [bs_size]; exact rt_took l, hide rfl, by rw [bs_size]; exact hl⟩
/-- which parts have been read -/
def DRel (w0 : World) (b : Nat) (r0 : List UInt8) (c : Nat) (rest ok i : Value) (W : World) : Prop :=
  (i = .int .i64 0 ∧ ok = .bool true ∧ rest = .string (bs r0) ∧ Hid (DS w0 W b c 0 0 ⟨#[]⟩ ⟨#[]⟩ ⟨#[]⟩)) ∨
  (i = .int .i64 1 ∧ ok = .bool true ∧ rest = .string (bs (Pk.p1 r0)) ∧ Hid (DS w0 W b c (Pk.rd r0).1 0 ⟨#[]⟩ ⟨#[]⟩ ⟨#[]⟩ ∧ (Pk.rd r0).2.2 = 0)) ∨
  (i = .int .i64 2 ∧ ok = .bool true ∧ rest = .string (bs (Pk.p2 r0)) ∧ Hid (DS w0 W b c (Pk.rd r0).1 (Pk.rd (Pk.p1 r0)).1 ⟨#[]⟩ ⟨#[]⟩ ⟨#[]⟩ ∧ (Pk.rd r0).2.2 = 0 ∧ (Pk.rd (Pk.p1 r0)).2.2 = 0)) ∨
  (i = .int .i64 3 ∧ ok = .bool true ∧ rest = .string (bs (Pk.p3 r0)) ∧ Hid (DS w0 W b c (Pk.rd r0).1 (Pk.rd (Pk.p1 r0)).1 (bs (Pk.rt (Pk.p2 r0) 1024).1) ⟨#[]⟩ ⟨#[]⟩ ∧ (Pk.rd r0).2.2 = 0 ∧ (Pk.rd (Pk.p1 r0)).2.2 = 0 ∧ (Pk.rt (Pk.p2 r0) 1024).2.2 = 0)) ∨
  (i = .int .i64 4 ∧ ok = .bool true ∧ rest = .string (bs (Pk.p4 r0)) ∧ Hid (DS w0 W b c (Pk.rd r0).1 (Pk.rd (Pk.p1 r0)).1 (bs (Pk.rt (Pk.p2 r0) 1024).1) (bs (Pk.rt (Pk.p3 r0) 1024).1) ⟨#[]⟩ ∧ (Pk.rd r0).2.2 = 0 ∧ (Pk.rd (Pk.p1 r0)).2.2 = 0 ∧ (Pk.rt (Pk.p2 r0) 1024).2.2 = 0 ∧ (Pk.rt (Pk.p3 r0) 1024).2.2 = 0)) ∨
  (i = .int .i64 5 ∧ ok = .bool true ∧ rest = .string (bs (Pk.p5 r0)) ∧ Hid (DS w0 W b c (Pk.rd r0).1 (Pk.rd (Pk.p1 r0)).1 (bs (Pk.rt (Pk.p2 r0) 1024).1) (bs (Pk.rt (Pk.p3 r0) 1024).1) (bs (Pk.rt (Pk.p4 r0) 1024).1) ∧ (Pk.rd r0).2.2 = 0 ∧ (Pk.rd (Pk.p1 r0)).2.2 = 0 ∧ (Pk.rt (Pk.p2 r0) 1024).2.2 = 0 ∧ (Pk.rt (Pk.p3 r0) 1024).2.2 = 0 ∧ (Pk.rt (Pk.p4 r0) 1024).2.2 = 0)) ∨
  (∃ (n : Nat) (L : ByteArray), n ≤ 5 ∧ i = .int .i64 (n : Int) ∧ ok = .bool false ∧ rest = .string L ∧ Hid ((∃ q t s h d, DS w0 W b c q t s h d) ∧ Pk.okB r0 = false))

set_option maxRecDepth 100000 in
set_option maxHeartbeats 4000000 in
theorem rdecoded_D (s : ByteArray) (X : List UInt8) (K : Nat) (w : World) (hs : s.size ≤ 281474976710656) (hr : Pk.rt s.data.toList 1024 = (X, K, 0)) (h4 : K + 4 ≤ s.size) (hX : X.length ≤ 1024) (hne : nS s.data.toList K 4 = Pk.crc X) (h0 : 0 < X.length) (hbad : Pk.okB (X.drop 1) = false ∨ Pk.chk (Pk.recOf (Pk.at' X 0) (X.drop 1)) ≠ 0 → Pk.dec s.data.toList = (Pk.none', 0, 7)) (hgood : Pk.okB (X.drop 1) = true → Pk.chk (Pk.recOf (Pk.at' X 0) (X.drop 1)) = 0 → Pk.dec s.data.toList = (Pk.recOf (Pk.at' X 0) (X.drop 1), K + 4, 0)) :
    Calls Tryz.prog 50 #[.string s] w fun e w' => e = .returned (decV s.data.toList) ∧ Below w.heap.size w w' := by
  have hv : textV s.data.toList 1024 = .tuple #[.string (bs X), .int .i64 K, .int .i64 0] := by unfold textV; rw [hr]; rfl
  have RB' := hide hbad
  have RG := hide hgood
  have R0 := hide (RB.new w 0 0 0 ⟨#[]⟩ ⟨#[]⟩ ⟨#[]⟩ 43)
  have B0 : Hid (Below w.heap.size w (w.alloc (.cells #[.int .i64 0, .int .i64 0, .int .i64 0, .string ⟨#[]⟩, .string ⟨#[]⟩, .string ⟨#[]⟩] 43))) := hide ((Below.refl _ _).alloc (Nat.le_refl _) _)
  have HX := hide hX
  have HN := hide hne
  clear hr hbad hgood hne
  go_enter Tryz.func50, Tryz.ntmps50
  go_wp2_with fail
  refine (rreadt_any s 1024 _ hs).mono ?_
  rintro e w1 ⟨rfl, b1⟩
  rw [hv]
  have R1 := (unhide R0).next b1
  have B1 := hide (bstep (unhide B0) b1)
  have H1 := hide R1
  clear R0 B0 b1 R1
  go_wp2_with fail
  go_loop [8, 9] (fun a i => (∃ j : Nat, j ≤ 3 ∧ i = .int .i64 (j : Int) ∧ a = .int .i64 ((nS s.data.toList K (3 - j) : Nat) : Int)) ∨ (i = .int .i64 (-1) ∧ a = .int .i64 ((nS s.data.toList K 4 : Nat) : Int))) (fun _ i => (intOf i + 1).toNat)
  case atStart => exact .inl ⟨3, by decide, rfl, rfl⟩
  case round =>
    rcases hrel with ⟨j, hj, rfl, rfl⟩ | ⟨rfl, rfl⟩
    · have hl := nS_few s.data.toList K (m := 3 - j) (by omega)
      have hjs : K + j < s.size := by omega
      have e := hide (nS_round s hjs hj)
      go_wp2_with fail
      go_round
      case rel =>
        rcases Nat.eq_zero_or_pos j with h0 | h0
        · subst h0
          exact .inr ⟨by go_num, congrArg (Value.int .i64) (unhide e)⟩
        · exact .inl ⟨j - 1, by omega, by go_num, by rw [show 3 - (j - 1) = 4 - j from by omega, unhide e]⟩
      case measure => simp [intOf]
    · have hl4 := nS_few s.data.toList K (m := 4) (by decide)
      have hc4 := Pk.crc_lt X
      have R1 := unhide H1
      obtain ⟨_, c0, c1, c2, c3, c4, c5, fr⟩ := R1
      have f0 := fr 0
      have f1 := fr 1
      have f2 := fr 2
      have f3 := fr 3
      have f4 := fr 4
      have f5 := fr 5
      clear fr
      generalize hn : nS s.data.toList K 4 = n4 at hl4 HN ⊢
      generalize hcc : Pk.crc X = cc at hc4 HN
      have HCC := hide hcc
      clear hn hcc
      have hq' : ((n4 : Int) != (cc : Int)) = false := by rw [unhide HN]; simp
      have hz1 : 0 < (bs X).size := by rw [bs_size]; exact h0
      have hx2 : (((bs X).size : Int) == 0) = false := by rw [beq_eq_false_iff_ne]; omega
      go_wp2_with fail
      refine (rsum_any (bs X) _ (by rw [bs_size]; omega)).mono ?_
      rintro e w2 ⟨rfl, rfl⟩
      rw [bs_list, unhide HCC]
      clear c0 c1 c2 c3 c4 c5 f0 f1 f2 f3 f4 f5
      go_wp2_with fail
      have HK : Hid (wrap64 (((bs X)[0]'hz1).toNat : Int) = ((Pk.at' X 0 : Nat) : Int)) := hide (by
        rw [byte_at (bs X) hz1, bs_list]
        have := Pk.at_lt X 0
        exact IntWalk.wrap64_in _ ⟨by omega, by omega⟩)
      have HT := hide (cut_tail (bs X) 1)
      rw [bs_list] at HT
      rw [unhide HT, unhide HK]
      have S0 : Hid (DS w (w2.alloc (.cells #[.int .i64 ((Pk.at' X 0 : Nat) : Int), .int .i64 0, .int .i64 0, .string ⟨#[]⟩, .string ⟨#[]⟩, .string ⟨#[]⟩] 43)) w2.heap.size ((Pk.at' X 0 : Nat) : Int) 0 0 ⟨#[]⟩ ⟨#[]⟩ ⟨#[]⟩) := hide ⟨(unhide H1).alloc _, RB.new _ _ _ _ _ _ _ _, (unhide H1).lt, (unhide B1).alloc (Nat.le_of_lt (unhide H1).lt) _⟩
      have hl0 : (X.drop 1).length ≤ 1024 := by rw [List.length_drop]; omega
      generalize w2.heap.size = b at S0 ⊢
      generalize w2.alloc (.cells #[.int .i64 ((Pk.at' X 0 : Nat) : Int), .int .i64 0, .int .i64 0, .string ⟨#[]⟩, .string ⟨#[]⟩, .string ⟨#[]⟩] 43) = W2 at S0 ⊢
      generalize Pk.at' X 0 = c0 at S0 RB' RG ⊢
      generalize X.drop 1 = r0 at hl0 RB' RG ⊢
      have hm0 : r0.length ≤ 1024 := hl0
      have hm1 : (Pk.p1 r0).length ≤ 1024 := by rw [p_next0]; exact Nat.le_trans (aftN_len _) hm0
      have hm2 : (Pk.p2 r0).length ≤ 1024 := by rw [p_next1]; exact Nat.le_trans (aftN_len _) hm1
      have hm3 : (Pk.p3 r0).length ≤ 1024 := by rw [p_next2]; exact Nat.le_trans (aftT_len _) hm2
      have hm4 : (Pk.p4 r0).length ≤ 1024 := by rw [p_next3]; exact Nat.le_trans (aftT_len _) hm3
      clear hl0 hq' hx2 hl4 hc4 HN HCC HK HT HX hv hX h0 H1 B1
      go_loopw [11, 12, 13] (fun rest ok i wr => DRel w b r0 c0 rest ok i wr) (fun _ _ i _ => (6 - intOf i).toNat)
      case atStart => exact .inl ⟨rfl, rfl, rfl, S0⟩
      case round =>
        clear S0
        rcases hrel with ⟨rfl, rfl, rfl, S⟩ | ⟨rfl, rfl, rfl, S⟩ | ⟨rfl, rfl, rfl, S⟩ | ⟨rfl, rfl, rfl, S⟩ | ⟨rfl, rfl, rfl, S⟩ | ⟨rfl, rfl, rfl, S⟩ | ⟨n, L, hn5, rfl, rfl, rfl, S⟩
        · obtain ⟨N, K', E, hv, hx2, HN, hK', HE, hz⟩ := num_facts (l := r0) (nx := (Pk.p1 r0)) (p_next0 r0) hm0
          have f := (unhide S).got.fr 1
          have c := (unhide S).got.c1
          by_cases hE : E = 0
          · subst hE
            go_wp2_with fail
            refine (rreadn_any (bs r0) _ (by omega)).mono ?_
            rintro e w3 ⟨rfl, rfl⟩
            rw [unhide hv]
            have S3' := (unhide S)
            have S3 := hide (S3'.set1 N)
            have f2 := S3'.got.fr 1
            have c2 := S3'.got.c1
            clear S3' f c
            go_wp2_with fail
            exact ⟨.inr (.inl ⟨rfl, rfl, by rw [unhide hx2], hide ⟨by rw [unhide HN]; exact unhide S3, unhide HE⟩⟩), by simp [intOf]⟩
          · have hE' : ((E : Int) == 0) = false := by rw [beq_eq_false_iff_ne]; omega
            have HO : Hid (Pk.okB r0 = false) := hide (okB_bad0 (by rw [unhide HE]; exact hE))
            clear hE
            go_wp2_with fail
            refine (rreadn_any (bs r0) _ (by omega)).mono ?_
            rintro e w3 ⟨rfl, rfl⟩
            rw [unhide hv]
            have S3' := (unhide S)
            have S3 := hide (S3'.set1 N)
            have f2 := S3'.got.fr 1
            have c2 := S3'.got.c1
            clear S3' f c
            go_wp2_with fail
            exact ⟨.inr (.inr (.inr (.inr (.inr (.inr ⟨1, _, by decide, rfl, rfl, rfl, hide ⟨⟨_, _, _, _, _, unhide S3⟩, unhide HO⟩⟩))))), by simp [intOf]⟩
        · obtain ⟨N, K', E, hv, hx2, HN, hK', HE, hz⟩ := num_facts (l := (Pk.p1 r0)) (nx := (Pk.p2 r0)) (p_next1 r0) hm1
          have f := (unhide S).1.got.fr 2
          have c := (unhide S).1.got.c2
          by_cases hE : E = 0
          · subst hE
            go_wp2_with fail
            refine (rreadn_any (bs (Pk.p1 r0)) _ (by omega)).mono ?_
            rintro e w3 ⟨rfl, rfl⟩
            rw [unhide hv]
            have S3' := (unhide S).1
            have S3 := hide (S3'.set2 N)
            have f2 := S3'.got.fr 2
            have c2 := S3'.got.c2
            clear S3' f c
            go_wp2_with fail
            exact ⟨.inr (.inr (.inl ⟨rfl, rfl, by rw [unhide hx2], hide ⟨by rw [unhide HN]; exact unhide S3, (unhide S).2, unhide HE⟩⟩)), by simp [intOf]⟩
          · have hE' : ((E : Int) == 0) = false := by rw [beq_eq_false_iff_ne]; omega
            have HO : Hid (Pk.okB r0 = false) := hide (okB_bad1 (by rw [unhide HE]; exact hE))
            clear hE
            go_wp2_with fail
            refine (rreadn_any (bs (Pk.p1 r0)) _ (by omega)).mono ?_
            rintro e w3 ⟨rfl, rfl⟩
            rw [unhide hv]
            have S3' := (unhide S).1
            have S3 := hide (S3'.set2 N)
            have f2 := S3'.got.fr 2
            have c2 := S3'.got.c2
            clear S3' f c
            go_wp2_with fail
            exact ⟨.inr (.inr (.inr (.inr (.inr (.inr ⟨2, _, by decide, rfl, rfl, rfl, hide ⟨⟨_, _, _, _, _, unhide S3⟩, unhide HO⟩⟩))))), by simp [intOf]⟩
        · obtain ⟨N, K', E, hv, hx2, HN, hK', HE, hz⟩ := text_facts (l := (Pk.p2 r0)) (nx := (Pk.p3 r0)) (p_next2 r0) hm2
          have f := (unhide S).1.got.fr 3
          have c := (unhide S).1.got.c3
          by_cases hE : E = 0
          · subst hE
            go_wp2_with fail
            refine (rreadt_any (bs (Pk.p2 r0)) 1024 _ (by omega)).mono ?_
            rintro e w3 ⟨rfl, b3⟩
            rw [unhide hv]
            have S3' := (unhide S).1.next b3
            have S3 := hide (S3'.set3 (bs N))
            have f2 := S3'.got.fr 3
            have c2 := S3'.got.c3
            clear S3' f c
            go_wp2_with fail
            exact ⟨.inr (.inr (.inr (.inl ⟨rfl, rfl, by rw [unhide hx2], hide ⟨by rw [unhide HN]; exact unhide S3, (unhide S).2.1, (unhide S).2.2, unhide HE⟩⟩))), by simp [intOf]⟩
          · have hE' : ((E : Int) == 0) = false := by rw [beq_eq_false_iff_ne]; omega
            have HO : Hid (Pk.okB r0 = false) := hide (okB_bad2 (by rw [unhide HE]; exact hE))
            clear hE
            go_wp2_with fail
            refine (rreadt_any (bs (Pk.p2 r0)) 1024 _ (by omega)).mono ?_
            rintro e w3 ⟨rfl, b3⟩
            rw [unhide hv]
            have S3' := (unhide S).1.next b3
            have S3 := hide (S3'.set3 (bs N))
            have f2 := S3'.got.fr 3
            have c2 := S3'.got.c3
            clear S3' f c
            go_wp2_with fail
            exact ⟨.inr (.inr (.inr (.inr (.inr (.inr ⟨3, _, by decide, rfl, rfl, rfl, hide ⟨⟨_, _, _, _, _, unhide S3⟩, unhide HO⟩⟩))))), by simp [intOf]⟩
        · obtain ⟨N, K', E, hv, hx2, HN, hK', HE, hz⟩ := text_facts (l := (Pk.p3 r0)) (nx := (Pk.p4 r0)) (p_next3 r0) hm3
          have f := (unhide S).1.got.fr 4
          have c := (unhide S).1.got.c4
          by_cases hE : E = 0
          · subst hE
            go_wp2_with fail
            refine (rreadt_any (bs (Pk.p3 r0)) 1024 _ (by omega)).mono ?_
            rintro e w3 ⟨rfl, b3⟩
            rw [unhide hv]
            have S3' := (unhide S).1.next b3
            have S3 := hide (S3'.set4 (bs N))
            have f2 := S3'.got.fr 4
            have c2 := S3'.got.c4
            clear S3' f c
            go_wp2_with fail
            exact ⟨.inr (.inr (.inr (.inr (.inl ⟨rfl, rfl, by rw [unhide hx2], hide ⟨by rw [unhide HN]; exact unhide S3, (unhide S).2.1, (unhide S).2.2.1, (unhide S).2.2.2, unhide HE⟩⟩)))), by simp [intOf]⟩
          · have hE' : ((E : Int) == 0) = false := by rw [beq_eq_false_iff_ne]; omega
            have HO : Hid (Pk.okB r0 = false) := hide (okB_bad3 (by rw [unhide HE]; exact hE))
            clear hE
            go_wp2_with fail
            refine (rreadt_any (bs (Pk.p3 r0)) 1024 _ (by omega)).mono ?_
            rintro e w3 ⟨rfl, b3⟩
            rw [unhide hv]
            have S3' := (unhide S).1.next b3
            have S3 := hide (S3'.set4 (bs N))
            have f2 := S3'.got.fr 4
            have c2 := S3'.got.c4
            clear S3' f c
            go_wp2_with fail
            exact ⟨.inr (.inr (.inr (.inr (.inr (.inr ⟨4, _, by decide, rfl, rfl, rfl, hide ⟨⟨_, _, _, _, _, unhide S3⟩, unhide HO⟩⟩))))), by simp [intOf]⟩
        · obtain ⟨N, K', E, hv, hx2, HN, hK', HE, hz⟩ := text_facts (l := (Pk.p4 r0)) (nx := (Pk.p5 r0)) (p_next4 r0) hm4
          have f := (unhide S).1.got.fr 5
          have c := (unhide S).1.got.c5
          by_cases hE : E = 0
          · subst hE
            go_wp2_with fail
            refine (rreadt_any (bs (Pk.p4 r0)) 1024 _ (by omega)).mono ?_
            rintro e w3 ⟨rfl, b3⟩
            rw [unhide hv]
            have S3' := (unhide S).1.next b3
            have S3 := hide (S3'.set5 (bs N))
            have f2 := S3'.got.fr 5
            have c2 := S3'.got.c5
            clear S3' f c
            go_wp2_with fail
            exact ⟨.inr (.inr (.inr (.inr (.inr (.inl ⟨rfl, rfl, by rw [unhide hx2], hide ⟨by rw [unhide HN]; exact unhide S3, (unhide S).2.1, (unhide S).2.2.1, (unhide S).2.2.2.1, (unhide S).2.2.2.2, unhide HE⟩⟩))))), by simp [intOf]⟩
          · have hE' : ((E : Int) == 0) = false := by rw [beq_eq_false_iff_ne]; omega
            have HO : Hid (Pk.okB r0 = false) := hide (okB_bad4 (by rw [unhide HE]; exact hE))
            clear hE
            go_wp2_with fail
            refine (rreadt_any (bs (Pk.p4 r0)) 1024 _ (by omega)).mono ?_
            rintro e w3 ⟨rfl, b3⟩
            rw [unhide hv]
            have S3' := (unhide S).1.next b3
            have S3 := hide (S3'.set5 (bs N))
            have f2 := S3'.got.fr 5
            have c2 := S3'.got.c5
            clear S3' f c
            go_wp2_with fail
            exact ⟨.inr (.inr (.inr (.inr (.inr (.inr ⟨5, _, by decide, rfl, rfl, rfl, hide ⟨⟨_, _, _, _, _, unhide S3⟩, unhide HO⟩⟩))))), by simp [intOf]⟩
        · have S' := (unhide S).1
          have HS := hide S'
          by_cases h5 : (Pk.p5 r0).length = 0
          · have ho : Pk.okB r0 = true := by
              obtain ⟨_, e1, e2, e3, e4, e5⟩ := unhide S
              unfold Pk.okB
              rw [decide_eq_true e1, decide_eq_true e2, decide_eq_true e3, decide_eq_true e4, decide_eq_true e5, decide_eq_true h5]
              rfl
            have hem : (bs (Pk.p5 r0)).toList.isEmpty = true := by rw [tl_empty, bs_size, decide_eq_true h5]
            have hrec := chkV_rec (Pk.recOf c0 r0)
            have hk : chkV (c0 : Int) ((Pk.rd r0).1 : Int) ((Pk.rd (Pk.p1 r0)).1 : Int) (bs (Pk.rt (Pk.p2 r0) 1024).1) (bs (Pk.rt (Pk.p3 r0) 1024).1) (bs (Pk.rt (Pk.p4 r0) 1024).1) = Pk.chk (Pk.recOf c0 r0) := by
              rw [← hrec]; simp only [Pk.recOf]
            have z1 : (bs (Pk.rt (Pk.p2 r0) 1024).1).size ≤ 1024 := by rw [bs_size]; exact rec_few _
            have z2 : (bs (Pk.rt (Pk.p3 r0) 1024).1).size ≤ 1024 := by rw [bs_size]; exact rec_few _
            have z3 : (bs (Pk.rt (Pk.p4 r0) 1024).1).size ≤ 1024 := by rw [bs_size]; exact rec_few _
            have hG : Pk.chk (Pk.recOf c0 r0) = 0 → decV s.data.toList = .tuple #[.agg #[.int .i64 (c0 : Int), .int .i64 ((Pk.rd r0).1 : Int), .int .i64 ((Pk.rd (Pk.p1 r0)).1 : Int), .string (bs (Pk.rt (Pk.p2 r0) 1024).1), .string (bs (Pk.rt (Pk.p3 r0) 1024).1), .string (bs (Pk.rt (Pk.p4 r0) 1024).1)], .int .i64 ((K : Int) + 4), .int .i64 0] := fun hc => by
              rw [decV_of (unhide RG ho hc)]
              unfold recV
              simp only [Pk.recOf]
              rfl
            have hB := fun hc => decV_of (unhide RB' (.inr hc))
            obtain ⟨C, hC⟩ : ∃ C, Pk.chk (Pk.recOf c0 r0) = C := ⟨_, rfl⟩
            rw [hC] at hk hG hB
            generalize ((Pk.rd r0).1 : Int) = QQ at S' HS hk hG
            generalize ((Pk.rd (Pk.p1 r0)).1 : Int) = TT at S' HS hk hG
            generalize bs (Pk.rt (Pk.p2 r0) 1024).1 = A1 at S' HS hk hG z1
            generalize bs (Pk.rt (Pk.p3 r0) 1024).1 = A2 at S' HS hk hG z2
            generalize bs (Pk.rt (Pk.p4 r0) 1024).1 = A3 at S' HS hk hG z3
            have CK : Hid (∀ W : World, Calls Tryz.prog 54 #[.agg #[.int .i64 (c0 : Int), .int .i64 QQ, .int .i64 TT, .string A1, .string A2, .string A3]] W fun e w' => e = .returned (.int .i64 C) ∧ Below W.heap.size W w') := hide (fun W => by rw [← hk]; exact rrecord_any _ _ _ _ _ _ W (by omega) (by omega) (by omega))
            have HG := hide hG
            have HB := hide hB
            obtain ⟨_, y0, y1, y2, y3, y4, y5, _⟩ := S'.got
            clear S S' hG hB hk hrec ho h5 hC
            by_cases hc : C = 0
            · have R := hide (unhide HG hc)
              subst hc
              clear HG HB
              go_wp2_with fail
              refine (unhide CK _).mono ?_
              rintro e w3 ⟨rfl, b3⟩
              have S3 := (unhide HS).next b3
              have H3 := hide S3
              clear y0 y1 y2 y3 y4 y5
              obtain ⟨_, y0, y1, y2, y3, y4, y5, _⟩ := S3.got
              obtain ⟨_, x0, x1, x2, x3, x4, x5, fr⟩ := S3.res
              have f0 := fr 0
              have f1 := fr 1
              have f2 := fr 2
              have f3 := fr 3
              have f4 := fr 4
              have f5 := fr 5
              clear fr S3 b3
              go_wp2_with fail
              refine bodyPost_ret (results_rec3 rfl rfl ((unhide H3).res.setAll _ _ _ _ _ _)) rfl ?_
              exact ⟨by rw [unhide R]; rfl, set6_below (unhide H3).bel (Nat.le_refl _)⟩
            · have R := hide (unhide HB hc)
              have hc' : (C != 0) = true := by simpa using hc
              clear hc HG HB
              go_wp2_with fail
              refine (unhide CK _).mono ?_
              rintro e w3 ⟨rfl, b3⟩
              have S3 := (unhide HS).next b3
              have H3 := hide S3
              clear y0 y1 y2 y3 y4 y5
              obtain ⟨_, x0, x1, x2, x3, x4, x5, fr⟩ := S3.res
              have f0 := fr 0
              have f1 := fr 1
              have f2 := fr 2
              have f3 := fr 3
              have f4 := fr 4
              have f5 := fr 5
              clear fr S3 b3
              go_wp2_with fail
              refine bodyPost_ret (results_rec3 rfl rfl ((unhide H3).res.setAll _ _ _ _ _ _)) rfl ?_
              exact ⟨by rw [unhide R]; rfl, set6_below (unhide H3).bel (Nat.le_refl _)⟩
          · have R := hide (decV_of (unhide RB' (.inl (okB_bad5 h5))))
            have hem : (bs (Pk.p5 r0)).toList.isEmpty = false := by rw [tl_empty, bs_size, decide_eq_false h5]
            obtain ⟨_, x0, x1, x2, x3, x4, x5, fr⟩ := S'.res
            have f0 := fr 0
            have f1 := fr 1
            have f2 := fr 2
            have f3 := fr 3
            have f4 := fr 4
            have f5 := fr 5
            clear fr S' h5 S
            go_wp2_with fail
            refine bodyPost_ret (results_rec3 rfl rfl ((unhide HS).res.setAll _ _ _ _ _ _)) rfl ?_
            exact ⟨by rw [unhide R]; rfl, set6_below (unhide HS).bel (Nat.le_refl _)⟩
        · obtain ⟨⟨qq, tt, aa, ab, ac, S'⟩, ho⟩ := unhide S
          have R := hide (decV_of (unhide RB' (.inl ho)))
          have HS := hide S'
          have hn5' : (n : Int) ≤ 5 := by omega
          obtain ⟨_, x0, x1, x2, x3, x4, x5, fr⟩ := S'.res
          have f0 := fr 0
          have f1 := fr 1
          have f2 := fr 2
          have f3 := fr 3
          have f4 := fr 4
          have f5 := fr 5
          clear fr S' S ho
          have hn : n = 0 ∨ n = 1 ∨ n = 2 ∨ n = 3 ∨ n = 4 ∨ n = 5 := by omega
          clear hn5 hn5'
          rcases hn with rfl | rfl | rfl | rfl | rfl | rfl
          all_goals go_wp2_with fail
          all_goals refine bodyPost_ret (results_rec3 rfl rfl ((unhide HS).res.setAll _ _ _ _ _ _)) rfl ?_
          all_goals exact ⟨by rw [unhide R]; rfl, set6_below (unhide HS).bel (Nat.le_refl _)⟩

theorem rdecoded_any (s : ByteArray) (w : World) (hs : s.size ≤ 281474976710656) :
    Calls Tryz.prog 50 #[.string s] w fun e w' => e = .returned (decV s.data.toList) ∧ Below w.heap.size w w' := by
  obtain ⟨X, K, E, hr⟩ : ∃ X K E, Pk.rt s.data.toList 1024 = (X, K, E) := ⟨_, _, _, rfl⟩
  by_cases hE : E = 0
  · subst hE
    obtain ⟨hK, hX⟩ := rt_size hr
    rw [len_size] at hK
    by_cases h4 : s.size < K + 4
    · exact rdecoded_B s X K w hs hr hK h4
    have h4' : ¬ s.data.toList.length < K + 4 := by rw [len_size]; exact h4
    have hiff := sum_iff (l := s.data.toList) (K := K) (c := Pk.crc X) (by rw [len_size]; omega) (Pk.crc_lt X)
    by_cases hsum : nS s.data.toList K 4 = Pk.crc X
    · by_cases h0 : X.length = 0
      · exact rdecoded_C s X K w hs hr (by omega) hX (.inr h0) (dec_D hr h4' (hiff.1 hsum) (.inl h0))
      · exact rdecoded_D s X K w hs hr (by omega) hX hsum (by omega) (fun h => dec_D hr h4' (hiff.1 hsum) (.inr h)) (fun ho hc => dec_F hr h4' (hiff.1 hsum) h0 ho hc)
    · exact rdecoded_C s X K w hs hr (by omega) hX (.inl hsum) (dec_C hr h4' (fun h => hsum (hiff.2 h)))
  · exact rdecoded_A s X K E w hs hr hE
end Go.Proofs.YtphhebdmfdjfeabGreatDoor

namespace Go.Proofs.YtphhebdmfdjfeabGreatDoor.Dk
open Go.RowKit

theorem Upd.andThen {w w1 w2 : World} {B p : Nat} {m : Int} {v v1 : Value} {es1 es2 : List Pap} (h : Keeps w1 B p m v1 es1 ∧ Chg (foot p v) w w1 ∧ ∀ g, v1.ownBlock = some g → v.ownBlock = some g ∨ w.heap.size ≤ g) (u : Upd w1 w2 B p m v1 es2) : Upd w w2 B p m v es2 := by
  obtain ⟨_, h2, h3⟩ := h
  obtain ⟨v2, u1, u2, u3⟩ := u
  refine ⟨v2, u1, h2.more u2 (fun i hi z => ?_), fun g hg => ?_⟩
  · rcases z with z | z
    · exact .inl z
    · rcases h3 i z with y | y
      · exact .inr y
      · omega
  · rcases u3 g hg with z | z
    · exact h3 g z
    · exact .inr (Nat.le_trans h2.size z)
theorem chkV_is (r : Rc) : chkV r.k r.q r.t r.s r.h r.d = chkR r := rfl

set_option maxRecDepth 100000 in
set_option maxHeartbeats 1000000 in
theorem logged_any (B p : Nat) (m size : Int) (v : Value) (es : List Pap) (r : Rc) (w : World) (hk : Keeps w B p m v es) (ht : Tidy m es) (hm : m ≤ 65536) (hs : Small r) (hB : B ≤ w.heap.size) :
    Calls Tryz.prog 13 #[.pointer (some ⟨p, 0, none⟩), .int .i64 size, .agg #[.int .i64 r.k, .int .i64 r.q, .int .i64 r.t, .string r.s, .string r.h, .string r.d]] w fun e w' => e = .returned (.int .i64 (logR es m size r).1) ∧ Upd w w' B p m v (logR es m size r).2 := by
  have Hk := hide hk
  have HT := hide ht
  have hfew := ht.few
  have hfit := ht.fits
  have R0 := RB.new w r.k r.q r.t r.s r.h r.d 43
  have B0 : Hid (Below w.heap.size w (w.alloc (.cells #[.int .i64 r.k, .int .i64 r.q, .int .i64 r.t, .string r.s, .string r.h, .string r.d] 43))) := hide ((Below.refl _ _).alloc (Nat.le_refl _) _)
  have C1 : Hid (∀ W, Calls Tryz.prog 54 #[.agg #[.int .i64 r.k, .int .i64 r.q, .int .i64 r.t, .string r.s, .string r.h, .string r.d]] W fun e w' => e = .returned (.int .i64 (chkR r)) ∧ Below W.heap.size W w') := hide (fun W => rrecord_any r.k r.q r.t r.s r.h r.d W hs.s hs.h hs.d)
  obtain ⟨E, hE⟩ : ∃ E, E = chkR r := ⟨_, rfl⟩
  rw [← hE] at C1
  clear hk ht
  by_cases h0 : E = 0
  · have hc : chkR r = 0 := by rw [← hE]; exact h0
    have C2 : Hid (∀ W, Calls Tryz.prog 55 #[.agg #[.int .i64 r.k, .int .i64 r.q, .int .i64 r.t, .string r.s, .string r.h, .string r.d]] W fun e w' => e = .returned (.string (codT r)) ∧ Below W.heap.size W w') := hide (fun W => rcoded_any r.k r.q r.t r.s r.h r.d W hc)
    have hsz := codT_size hc
    rw [h0] at C1
    have HC := hide hc
    clear hE h0
    obtain ⟨a, cap, rfl, c1, c2, _⟩ := (unhide Hk).arr.shape
    by_cases hz : es.length = 0
    · rw [logR_first hc hz]
      obtain rfl : es = [] := List.eq_nil_of_length_eq_zero hz
      clear hc hz
      obtain ⟨_, x0, x1, x2, x3, x4, x5, _⟩ := R0
      go_enter Tryz.func13, Tryz.ntmps13
      go_wp2_with fail
      refine (unhide C1 _).mono ?_
      rintro e w1 ⟨rfl, b1⟩
      have R1 := (RB.new w r.k r.q r.t r.s r.h r.d 43).next b1
      obtain ⟨_, y0, y1, y2, y3, y4, y5, _⟩ := R1
      have B1 := hide (bstep (unhide B0) b1)
      clear b1 x0 x1 x2 x3 x4 x5
      go_wp2_with fail
      refine (unhide C2 _).mono ?_
      rintro e w2 ⟨rfl, b2⟩
      have B2 := hide (bstep (unhide B1) b2)
      have K2 := hide ((unhide Hk).below (unhide B2))
      have d1 := (unhide K2).cell
      clear b2 B1 y0 y1 y2 y3 y4 y5
      have PA := hide (append_any B p m _ [] 0 (codT r) w2 (unhide K2) (by omega) (by omega) (by omega) (by have := (unhide B2).size; omega))
      go_wp2_with fail
      refine (unhide PA).mono ?_
      rintro e w3 ⟨rfl, u3⟩
      have U3 := hide (Upd.behind (unhide B2) u3)
      clear u3 PA
      go_wp2_with fail
      go_ret
      exact ⟨rfl, unhide U3⟩
    · obtain ⟨k, hk1⟩ : ∃ k, k + 1 = es.length := ⟨es.length - 1, by omega⟩
      have hk2 : k < es.length := by omega
      have hw : IntKind.i64.wrap ((es.length : Int) - 1) = (k : Int) := by rw [IntKind.wrap_i64]; omega
      have hz' : ((es.length : Int) == 0) = false := by rw [beq_eq_false_iff_ne]; omega
      have hnl := (unhide HT).each _ (pa_mem hk2)
      have hn1 : 0 ≤ (pa es k).n ∧ (pa es k).n ≤ 1099511627776 := by simpa [inI] using hnl.1
      have hw2 : IntKind.i64.wrap ((pa es k).n + 1) = (pa es k).n + 1 := by rw [IntKind.wrap_i64]; omega
      have hu := used_mem (pa_mem hk2)
      have hw3 : IntKind.i64.wrap (((pa es k).text.size : Int) + ((codT r).size : Int)) = ((pa es k).text.size : Int) + ((codT r).size : Int) := by rw [IntKind.wrap_i64]; omega
      have hfull : Hid ((0 < (pa es k).text.size ∧ size < ((pa es k).text.size : Int) + ((codT r).size : Int)) ∧ logR es m size r = (appE (syncL es (pa es k).n) m ((pa es k).n + 1) (codT r), appL (syncL es (pa es k).n) m ((pa es k).n + 1) (codT r)) ∨ ¬ (0 < (pa es k).text.size ∧ size < ((pa es k).text.size : Int) + ((codT r).size : Int)) ∧ logR es m size r = (appE es m (pa es k).n (codT r), appL es m (pa es k).n (codT r))) := hide (by
        by_cases hf : 0 < (pa es k).text.size ∧ size < ((pa es k).text.size : Int) + ((codT r).size : Int)
        · exact .inl ⟨hf, logR_next hc hk1 hf⟩
        · exact .inr ⟨hf, logR_last hc hk1 hf⟩)
      have HT1 := hide ((unhide HT).sync (pa es k).n)
      generalize hre : logR es m size r = RES at hfull ⊢
      clear hre hc hz hk1 hnl
      obtain ⟨g, cap', e0, f1, f2, f3, f4⟩ := (unhide Hk).arr.there (by omega)
      obtain ⟨rfl, _, rfl⟩ := Value.slice.inj e0
      clear e0
      obtain ⟨_, x0, x1, x2, x3, x4, x5, _⟩ := R0
      go_enter Tryz.func13, Tryz.ntmps13
      go_wp2_with fail
      refine (unhide C1 _).mono ?_
      rintro e w1 ⟨rfl, b1⟩
      have R1 := (RB.new w r.k r.q r.t r.s r.h r.d 43).next b1
      obtain ⟨_, y0, y1, y2, y3, y4, y5, _⟩ := R1
      have B1 := hide (bstep (unhide B0) b1)
      clear b1 x0 x1 x2 x3 x4 x5
      go_wp2_with fail
      refine (unhide C2 _).mono ?_
      rintro e w2 ⟨rfl, b2⟩
      have B2 := hide (bstep (unhide B1) b2)
      have K2 := hide ((unhide Hk).below (unhide B2))
      have d1 := (unhide K2).cell
      have n0 := (unhide K2).arr.num hk2
      have n1 := (unhide K2).arr.sure hk2
      have n2 := (unhide K2).arr.text hk2
      clear b2 B1 y0 y1 y2 y3 y4 y5
      have hb3 : Below w2.heap.size w2 (w2.alloc (.cells #[.int .i64 (pa es k).n, .int .i64 (pa es k).sure, .string (pa es k).text] 52)) := (Below.refl _ _).alloc (Nat.le_refl _) _
      have K3 := hide ((unhide K2).below hb3)
      have B3 := hide (bstep (unhide B2) hb3)
      have hB3 : B ≤ (w2.alloc (.cells #[.int .i64 (pa es k).n, .int .i64 (pa es k).sure, .string (pa es k).text] 52)).heap.size := by have := (unhide B3).size; omega
      have z0 : (w2.alloc (.cells #[.int .i64 (pa es k).n, .int .i64 (pa es k).sure, .string (pa es k).text] 52)).cell? ⟨w2.heap.size, 0, none⟩ = some (.int .i64 (pa es k).n) := by
        rw [cell_of_row _ w2.heap.size 0 _ _ _ (heap_alloc_new w2 _)]; rfl
      have hC : ∀ j, foot p (.slice (some ⟨g, 0, none⟩) es.length cap) j → j < w2.heap.size := fun j hj => by
        rcases hj with z | z
        · rw [z]; exact (unhide K2).lt
        · exact ((unhide K2).arr.lt j z).2
      clear hb3
      rcases unhide hfull with ⟨hf, rfl⟩ | ⟨hf, rfl⟩
      · have hf1 : (0 : Int) < ((pa es k).text.size : Int) := by omega
        have hd1 : decide ((0 : Int) < ((pa es k).text.size : Int)) = true := decide_eq_true hf1
        have hd2 : decide (size < ((pa es k).text.size : Int) + ((codT r).size : Int)) = true := decide_eq_true hf.2
        have PS := hide (sync_any B p m _ es (pa es k).n _ (unhide K3) (by omega))
        have hf2 := hf.2
        clear hfull hf
        go_wp2_with fail
        refine (unhide PS).mono ?_
        rintro e w4 ⟨rfl, v4, s1, s2, s3⟩
        have z4 : w4.cell? ⟨w2.heap.size, 0, none⟩ = some (.int .i64 (pa es k).n) := by
          rw [s2.cell (p := ⟨w2.heap.size, 0, none⟩) (by simp) (fun z => Nat.lt_irrefl _ (hC _ z))]; exact z0
        have hl4 : (syncL es (pa es k).n).length ≤ 20 := (unhide HT1).few
        have hf4 := (unhide HT1).fits
        have PA := hide (append_any B p m v4 (syncL es (pa es k).n) ((pa es k).n + 1) (codT r) w4 s1 hl4 (by omega) (by omega) (Nat.le_trans hB3 s2.size))
        have S4 := hide (And.intro s1 (And.intro s2 s3))
        clear s1 s2 s3 d1 n0 n1 n2 z0 PS
        go_wp2_with fail
        refine (unhide PA).mono ?_
        rintro e w5 ⟨rfl, u5⟩
        have U5 := hide (Upd.behind (unhide B3) (Upd.andThen (unhide S4) u5))
        clear u5 PA S4 z4
        go_wp2_with fail
        go_ret
        exact ⟨rfl, unhide U5⟩
      · have PA := hide (append_any B p m _ es (pa es k).n (codT r) _ (unhide K3) (by omega) (by omega) (by omega) hB3)
        by_cases hf1 : 0 < (pa es k).text.size
        · have hd1 : decide ((0 : Int) < ((pa es k).text.size : Int)) = true := decide_eq_true (by omega)
          have hd2 : decide (size < ((pa es k).text.size : Int) + ((codT r).size : Int)) = false := decide_eq_false (by omega)
          clear hfull hf
          go_wp2_with fail
          refine (unhide PA).mono ?_
          rintro e w5 ⟨rfl, u5⟩
          have U5 := hide (Upd.behind (unhide B3) u5)
          clear u5 PA
          go_wp2_with fail
          go_ret
          exact ⟨rfl, unhide U5⟩
        · have hd1 : decide ((0 : Int) < ((pa es k).text.size : Int)) = false := decide_eq_false (by omega)
          clear hfull hf
          go_wp2_with fail
          refine (unhide PA).mono ?_
          rintro e w5 ⟨rfl, u5⟩
          have U5 := hide (Upd.behind (unhide B3) u5)
          clear u5 PA
          go_wp2_with fail
          go_ret
          exact ⟨rfl, unhide U5⟩
  · rw [logR_bad (by rw [← hE]; exact h0), ← hE]
    clear hE
    obtain ⟨_, x0, x1, x2, x3, x4, x5, _⟩ := R0
    go_enter Tryz.func13, Tryz.ntmps13
    go_wp2_with fail
    refine (unhide C1 _).mono ?_
    rintro e w1 ⟨rfl, b1⟩
    have B1 := hide (bstep (unhide B0) b1)
    clear b1
    go_wp2_with fail
    go_ret
    exact ⟨rfl, Upd.same (unhide Hk) (unhide B1)⟩
end Go.Proofs.YtphhebdmfdjfeabGreatDoor.Dk

namespace Go.Proofs.YtphhebdmfdjfeabGreatDoor.Dk
open Go.RowKit

/-- the document's disk, the records that are told, the numbers of the files, apart -/
def Tail (w wr : World) (B p : Nat) (m : Int) (v ov : Value) (a : Option Addr) (es : List Pap) (out : List Rc) (ns : List Int) : Prop :=
  ∃ vj, Keeps wr B p m vj es ∧ Chg (foot p v) w wr ∧ (∀ g, vj.ownBlock = some g → v.ownBlock = some g ∨ w.heap.size ≤ g) ∧ ArrR wr w.heap.size ov out ∧ SlI wr a ns ∧ (∀ g, ov.ownBlock = some g → ¬ foot p vj g) ∧ (∀ q, a = some q → q.block < wr.heap.size ∧ ¬ foot p vj q.block ∧ ov.ownBlock ≠ some q.block)
theorem Tail.below {w wr w' : World} {B p : Nat} {m : Int} {v ov : Value} {a : Option Addr} {es : List Pap} {out : List Rc} {ns : List Int} (h : Tail w wr B p m v ov a es out ns) (hb : Below wr.heap.size wr w') : Tail w w' B p m v ov a es out ns := by
  obtain ⟨vj, h1, h2, h3, h4, h5, h6, h7⟩ := h
  exact ⟨vj, h1.below hb, h2.trans (Chg.of_below hb), h3, h4.below hb, h5.below hb, h6, fun q hq => ⟨Nat.lt_of_lt_of_le (h7 q hq).1 hb.size, (h7 q hq).2⟩⟩
theorem Tail.upd {w wr : World} {B p : Nat} {m : Int} {v ov : Value} {a : Option Addr} {es es' : List Pap} {out : List Rc} {ns : List Int} (h : Tail w wr B p m v ov a es out ns) {fn : FuncId} {args : Array Value} {r : Ending}
    (u : ∀ vj, Keeps wr B p m vj es → Calls Tryz.prog fn args wr fun e w' => e = r ∧ Upd wr w' B p m vj es') : Calls Tryz.prog fn args wr fun e w' => e = r ∧ Tail w w' B p m v ov a es' out ns := by
  obtain ⟨vj, h1, h2, h3, h4, h5, h6, h7⟩ := h
  refine (u vj h1).mono ?_
  rintro e w' ⟨he, v2, u1, u2, u3⟩
  refine ⟨he, v2, u1, h2.more u2 (fun i hi z => ?_), fun g hg => ?_, h4.chg u2 h6, h5.chg u2 (fun q hq => (h7 q hq).2.1), fun g hg z => ?_, fun q hq => ⟨Nat.lt_of_lt_of_le (h7 q hq).1 u2.size, fun z => ?_, (h7 q hq).2.2⟩⟩
  · rcases z with z | z
    · exact .inl z
    · rcases h3 i z with y | y
      · exact .inr y
      · omega
  · rcases u3 g hg with z | z
    · exact h3 g z
    · exact .inr (Nat.le_trans h2.size z)
  · rcases z with z | z
    · exact h6 g hg (.inl z)
    · rcases u3 g z with y | y
      · exact h6 g hg (.inr y)
      · have := (World.ownsRow.lt h4 g hg).2; omega
  · rcases z with z | z
    · exact (h7 q hq).2.1 (.inl z)
    · rcases u3 _ z with y | y
      · exact (h7 q hq).2.1 (.inr y)
      · have := (h7 q hq).1; omega
/-- a record more is told -/
theorem Tail.more {w wr w' : World} {B p : Nat} {m : Int} {v ov ov' : Value} {a : Option Addr} {es : List Pap} {out out' : List Rc} {ns : List Int} (h : Tail w wr B p m v ov a es out ns)  (hA : ArrR w' w.heap.size ov' out') (hc : Chg (fun k => ov.ownBlock = some k) wr w') (hv : ∀ g, ov'.ownBlock = some g → ov.ownBlock = some g ∨ wr.heap.size ≤ g) : Tail w w' B p m v ov' a es out' ns := by
  obtain ⟨vj, h1, h2, h3, h4, h5, h6, h7⟩ := h
  refine ⟨vj, h1.chg hc (fun k hk z => h6 k z hk), h2.more hc (fun i hi z => ?_), h3, hA, h5.chg hc (fun q hq z => (h7 q hq).2.2 z), fun g hg z => ?_, fun q hq => ⟨Nat.lt_of_lt_of_le (h7 q hq).1 hc.size, (h7 q hq).2.1, fun z => ?_⟩⟩
  · have := (World.ownsRow.lt h4 i z).1; omega
  · rcases hv g hg with y | y
    · exact h6 g y z
    · rcases z with z | z
      · have := h1.lt; omega
      · have := (h1.arr.lt g z).2; omega
  · rcases hv _ z with y | y
    · exact (h7 q hq).2.2 y
    · have := (h7 q hq).1; omega
/-- a record in a block of its own -/
def recO (r : Rc) : Obj := .cells #[.int .i64 r.k, .int .i64 r.q, .int .i64 r.t, .string r.s, .string r.h, .string r.d] 43
theorem Tail.append {w w5 : World} {B p : Nat} {m : Int} {v ov : Value} {a : Option Addr} {es : List Pap} {out : List Rc} {ns : List Int} (h : Tail w w5 B p m v ov a es out ns) (r : Rc) (hl : out.length ≤ 200000) :
    ∃ v8 w8, (Builtin.append_ #[36, 36] 36 #[ov, .slice (some ⟨w5.heap.size + 1, 0, none⟩) 1 1]).run Tryz.prog ((w5.alloc (recO r)).alloc (recO r)) = .ok v8 w8 ∧ Tail w w8 B p m v v8 a es (out ++ [r]) ns := by
  have h7 : Tail w ((w5.alloc (recO r)).alloc (recO r)) B p m v ov a es out ns := (h.below ((Below.refl _ _).alloc (Nat.le_refl _) _)).below ((Below.refl _ _).alloc (Nat.le_refl _) _)
  have A7 : ArrR ((w5.alloc (recO r)).alloc (recO r)) w.heap.size ov out := by
    obtain ⟨vj, _, _, _, h4, _⟩ := h7
    exact h4
  have hs7 : w.heap.size ≤ ((w5.alloc (recO r)).alloc (recO r)).heap.size := by
    obtain ⟨vj, _, h2, _⟩ := h7
    exact h2.size
  obtain ⟨v8, w8, hrun, A8, C8, L8⟩ := append_rec ((w5.alloc (recO r)).alloc (recO r)) w.heap.size 36 ov out [r] A7 ⟨(w5.alloc (recO r)).heap.size, 0, none⟩ 1 (six_row (w5.alloc (recO r)) r) (by simp; omega) hs7
  have e : (w5.alloc (recO r)).heap.size = w5.heap.size + 1 := by simp
  rw [e] at hrun
  exact ⟨v8, w8, hrun, h7.more A8 C8 L8⟩
theorem Tail.num {w wr : World} {B p : Nat} {m : Int} {v ov : Value} {a : Option Addr} {es es0 : List Pap} {out : List Rc} (h : Tail w wr B p m v ov a es out (numL es0)) {i b o : Nat} (ha : a = some ⟨b, o, none⟩) (hi : i < es0.length) : wr.cell? ⟨b, o + i, none⟩ = some (.int .i64 (pa es0 i).n) := by
  obtain ⟨vj, _, _, _, _, sl, _⟩ := h
  obtain ⟨b', o', h1, _, h3⟩ := sl i (by unfold numL; rw [List.length_map]; exact hi)
  rw [ha] at h1
  cases h1
  rw [h3]
  unfold nth numL
  rw [List.getElem?_map, List.getElem?_eq_getElem hi, pa_get hi]
  rfl
end Go.Proofs.YtphhebdmfdjfeabGreatDoor.Dk
