/-
  Contract of record.readBody: the parts of a body as a record, and whether they are right and nothing is left behind them.
  Contract of record.Decode: the record at the front, how many bytes it took, or the error.
  The program's log: files that are removed, the last one first, over what is asked of any disk.
  The program's log: what Open reads, over what is asked of any disk.
-/
import Derived.Test.YtmccpkpeimejhahGreatDoorJointWalkClWalkN4WalkC5WalkC6
import Derived.Test.YtmccpkpeimejhahGreatDoorJointWalkC2WalkC3WalkC4WalkL1
import Derived.Test.YtmccpkpeimejhahGreatDoorJointWorksFRowMWalkM1WalkM2
import Derived.RangeFuncNested
import Derived.RangeFuncBound
import Derived.RangeFuncCalls
import Derived.RangeFuncLeaves
import Derived.Shelf.Abstract
import Derived.Shelf.RegionOpen
import Derived.WalkKit
import Derived.OwnWalkIn
import Derived.TacticsInMore
import Derived.LoopNIn
import Derived.LoopIn
namespace Go.Proofs.YtmccpkpeimejhahGreatDoor
open Go.RowKit

theorem PT.other {w : World} {b c i : Nat} {r : ByteArray} {wr : Bool} {v : Value} (p : PT w b r wr) (hc : c ≠ b) : PT (w.setCell ⟨c, i, none⟩ v) b r wr :=
  ⟨by simpa using p.lt, by rw [cell_other' _ _ _ _ (by intro e; injection e; omega)]; exact p.c0, by rw [cell_other' _ _ _ _ (by intro e; injection e; omega)]; exact p.c1, by simpa using p.f0, by simpa using p.f1⟩
/-- the state of readBody: where the answer will lie, the record so far, what is left -/
structure RS (w0 W : World) (k q t : Int) (s h d r : ByteArray) (wr : Bool) : Prop where
  res : RB W w0.heap.size 0 0 0 ⟨#[]⟩ ⟨#[]⟩ ⟨#[]⟩
  got : RB W (w0.heap.size + 1) k q t s h d
  lft : PT W (w0.heap.size + 1 + 1) r wr
  bel : Below w0.heap.size w0 W
theorem PT.new' (w : World) (b : Nat) (hb : b = w.heap.size) (r : ByteArray) (wr : Bool) (T : TypeId) : PT (w.alloc (.cells #[.string r, .bool wr] T)) b r wr := by
  subst hb
  exact ⟨by simp, by simp, by simp, World.frozen?_alloc_new _ _ _ 0, World.frozen?_alloc_new _ _ _ 1⟩
theorem size_alloc (w : World) (o : Obj) : (w.alloc o).heap.size = w.heap.size + 1 := by simp
theorem RS.new (w : World) (k : Int) (r : ByteArray) (T T' : TypeId) :
    RS w (((w.alloc (.cells #[.int .i64 0, .int .i64 0, .int .i64 0, .string ⟨#[]⟩, .string ⟨#[]⟩, .string ⟨#[]⟩] T)).alloc (.cells #[.int .i64 k, .int .i64 0, .int .i64 0, .string ⟨#[]⟩, .string ⟨#[]⟩, .string ⟨#[]⟩] T)).alloc (.cells #[.string r, .bool false] T')) k 0 0 ⟨#[]⟩ ⟨#[]⟩ ⟨#[]⟩ r false := by
  generalize e1 : w.alloc (.cells #[.int .i64 0, .int .i64 0, .int .i64 0, .string ⟨#[]⟩, .string ⟨#[]⟩, .string ⟨#[]⟩] T) = w1
  have z1 : w1.heap.size = w.heap.size + 1 := by rw [← e1, size_alloc]
  have a1 : RB w1 w.heap.size 0 0 0 ⟨#[]⟩ ⟨#[]⟩ ⟨#[]⟩ := by rw [← e1]; exact RB.new w 0 0 0 _ _ _ T
  have b1 : Below w.heap.size w w1 := by rw [← e1]; exact (Below.refl _ _).alloc (Nat.le_refl _) _
  generalize e2 : w1.alloc (.cells #[.int .i64 k, .int .i64 0, .int .i64 0, .string ⟨#[]⟩, .string ⟨#[]⟩, .string ⟨#[]⟩] T) = w2
  have z2 : w2.heap.size = w1.heap.size + 1 := by rw [← e2, size_alloc]
  have a2 : RB w2 (w.heap.size + 1) k 0 0 ⟨#[]⟩ ⟨#[]⟩ ⟨#[]⟩ := by rw [← e2]; exact RB.new' w1 _ z1.symm k 0 0 _ _ _ T
  have b2 : RB w2 w.heap.size 0 0 0 ⟨#[]⟩ ⟨#[]⟩ ⟨#[]⟩ := by rw [← e2]; exact a1.alloc _
  have b3 : Below w.heap.size w w2 := by rw [← e2]; exact b1.alloc (by omega) _
  exact ⟨b2.alloc _, a2.alloc _, PT.new' w2 _ (by omega) r false T', b3.alloc (by omega) _⟩
theorem RS.call {w0 W w' : World} {k q t : Int} {s h d r r' : ByteArray} {wr wr' : Bool} (x : RS w0 W k q t s h d r wr) (p : PT w' (w0.heap.size + 1 + 1) r' wr') (b : Below (w0.heap.size + 1 + 1) W w') : RS w0 w' k q t s h d r' wr' :=
  ⟨x.res.below b (by omega), x.got.below b (by omega), p, x.bel.trans (b.mono (by omega))⟩
theorem RS.set1 {w0 W : World} {k q t : Int} {s h d r : ByteArray} {wr : Bool} (x : RS w0 W k q t s h d r wr) (y : Int) : RS w0 (W.setCell ⟨w0.heap.size + 1, 1, none⟩ (.int .i64 y)) k y t s h d r wr :=
  ⟨x.res.other (by omega), x.got.set1 y, x.lft.other (by omega), x.bel.setCell (by simp) _⟩
theorem RS.set2 {w0 W : World} {k q t : Int} {s h d r : ByteArray} {wr : Bool} (x : RS w0 W k q t s h d r wr) (y : Int) : RS w0 (W.setCell ⟨w0.heap.size + 1, 2, none⟩ (.int .i64 y)) k q y s h d r wr :=
  ⟨x.res.other (by omega), x.got.set2 y, x.lft.other (by omega), x.bel.setCell (by simp) _⟩
theorem RS.set3 {w0 W : World} {k q t : Int} {s h d r : ByteArray} {wr : Bool} (x : RS w0 W k q t s h d r wr) (y : ByteArray) : RS w0 (W.setCell ⟨w0.heap.size + 1, 3, none⟩ (.string y)) k q t y h d r wr :=
  ⟨x.res.other (by omega), x.got.set3 y, x.lft.other (by omega), x.bel.setCell (by simp) _⟩
theorem RS.set4 {w0 W : World} {k q t : Int} {s h d r : ByteArray} {wr : Bool} (x : RS w0 W k q t s h d r wr) (y : ByteArray) : RS w0 (W.setCell ⟨w0.heap.size + 1, 4, none⟩ (.string y)) k q t s y d r wr :=
  ⟨x.res.other (by omega), x.got.set4 y, x.lft.other (by omega), x.bel.setCell (by simp) _⟩
theorem RS.set5 {w0 W : World} {k q t : Int} {s h d r : ByteArray} {wr : Bool} (x : RS w0 W k q t s h d r wr) (y : ByteArray) : RS w0 (W.setCell ⟨w0.heap.size + 1, 5, none⟩ (.string y)) k q t s h y r wr :=
  ⟨x.res.other (by omega), x.got.set5 y, x.lft.other (by omega), x.bel.setCell (by simp) _⟩
theorem RS.drew {w0 W : World} {k q t : Int} {s h d r : ByteArray} {wr : Bool} (x : RS w0 W k q t s h d r wr) : RS w0 W.drew k q t s h d r wr :=
  ⟨x.res.drew, x.got.drew, x.lft.next (Below.refl _ _).drew, x.bel.drew⟩
theorem rs_end {w0 W : World} {k q t : Int} {s h d r : ByteArray} {wr : Bool} {v0 v1 v2 v3 v4 v5 : Value} (x : RS w0 W k q t s h d r wr) :
    Below w0.heap.size w0 ((((((W.setCell ⟨w0.heap.size, 0, none⟩ v0).setCell ⟨w0.heap.size, 1, none⟩ v1).setCell ⟨w0.heap.size, 2, none⟩ v2).setCell ⟨w0.heap.size, 3, none⟩ v3).setCell ⟨w0.heap.size, 4, none⟩ v4).setCell ⟨w0.heap.size, 5, none⟩ v5) :=
  (((((x.bel.setCell (Nat.le_refl _) _).setCell (Nat.le_refl _) _).setCell (Nat.le_refl _) _).setCell (Nat.le_refl _) _).setCell (Nat.le_refl _) _).setCell (Nat.le_refl _) _
theorem tl_empty (s : ByteArray) : s.toList.isEmpty = decide (s.size = 0) := by
  rw [ByteArray.toList_eq, show s.size = s.data.toList.length from by simp, Bool.eq_iff_iff, List.isEmpty_iff, decide_eq_true_eq, List.length_eq_zero_iff]
theorem rs_num {w0 W : World} {k q t : Int} {s h d r : ByteArray} {wr : Bool} (x : RS w0 W k q t s h d r wr) (hr : r.size ≤ 1000000) :
    Calls Tryz.prog 164 #[.pointer (some ⟨w0.heap.size + 1 + 1, 0, none⟩)] W fun e w' => e = .returned (.int .i64 (Pk.rd r.data.toList).1) ∧ RS w0 w' k q t s h d (bs (Pk.aftN r.data.toList)) (wr || decide ((Pk.rd r.data.toList).2.2 ≠ 0)) :=
  (pnum_any (w0.heap.size + 1 + 1) (w0.heap.size + 1 + 1) r wr W (Nat.le_refl _) x.lft hr).mono fun _ _ ⟨h1, h2, h3⟩ => ⟨h1, x.call h2 h3⟩
theorem rs_text {w0 W : World} {k q t : Int} {s h d r : ByteArray} {wr : Bool} (x : RS w0 W k q t s h d r wr) (hr : r.size ≤ 1000000) :
    Calls Tryz.prog 165 #[.pointer (some ⟨w0.heap.size + 1 + 1, 0, none⟩)] W fun e w' => e = .returned (.string (bs (Pk.rt r.data.toList 1024).1)) ∧ RS w0 w' k q t s h d (bs (Pk.aftT r.data.toList)) (wr || decide ((Pk.rt r.data.toList 1024).2.2 ≠ 0)) :=
  (ptext_any (w0.heap.size + 1 + 1) (w0.heap.size + 1 + 1) r wr W (Nat.le_refl _) (Nat.le_of_lt x.lft.lt) x.lft hr).mono fun _ _ ⟨h1, h2, h3⟩ => ⟨h1, x.call h2 h3⟩
theorem aftN_len (l : List UInt8) : (Pk.aftN l).length ≤ l.length := by unfold Pk.aftN; simp
theorem aftT_len (l : List UInt8) : (Pk.aftT l).length ≤ l.length := by unfold Pk.aftT; simp

theorem recV_of (c : Nat) (K : Int) (hK : K = (c : Int)) (r0 : List UInt8) : recV (Pk.recOf c r0) = .agg #[.int .i64 K, .int .i64 ((Pk.rd r0).1 : Int), .int .i64 ((Pk.rd (Pk.aftN r0)).1 : Int), .string (bs (Pk.rt (Pk.aftN (Pk.aftN r0)) 1024).1), .string (bs (Pk.rt (Pk.aftT (Pk.aftN (Pk.aftN r0))) 1024).1), .string (bs (Pk.rt (Pk.aftT (Pk.aftT (Pk.aftN (Pk.aftN r0)))) 1024).1)] := by
  subst hK
  unfold recV Pk.recOf Pk.p1 Pk.p2 Pk.p3 Pk.p4
  simp only []
theorem okB_eq (r0 : List UInt8) : Pk.okB r0 = (!(((((false || decide ((Pk.rd r0).2.2 ≠ 0)) || decide ((Pk.rd (Pk.aftN r0)).2.2 ≠ 0)) || decide ((Pk.rt (Pk.aftN (Pk.aftN r0)) 1024).2.2 ≠ 0)) || decide ((Pk.rt (Pk.aftT (Pk.aftN (Pk.aftN r0))) 1024).2.2 ≠ 0)) || decide ((Pk.rt (Pk.aftT (Pk.aftT (Pk.aftN (Pk.aftN r0)))) 1024).2.2 ≠ 0)) && decide ((bs (Pk.aftT (Pk.aftT (Pk.aftT (Pk.aftN (Pk.aftN r0)))))).size = 0)) := by
  rw [bs_size]
  unfold Pk.okB Pk.p1 Pk.p2 Pk.p3 Pk.p4 Pk.p5
  rw [Bool.eq_iff_iff]
  simp only [Bool.and_eq_true, Bool.not_eq_true', Bool.or_eq_false_iff, decide_eq_true_eq, decide_eq_false_iff_not, ne_eq, Decidable.not_not, and_assoc, true_and]

set_option maxRecDepth 100000 in
set_option maxHeartbeats 400000 in
theorem rbody_none (w : World) :
    Calls Tryz.prog 145 #[.string ⟨#[]⟩] w fun e w' => e = .returned (.tuple #[recV Pk.none', .bool false]) ∧ Below w.heap.size w w' := by
  go_enter Tryz.func145, Tryz.ntmps145
  go_wp2_with fail
  refine bodyPost_ret (results_rec2 rfl rfl (RB.new w 0 0 0 _ _ _ _)) rfl ?_
  exact ⟨rfl, (Below.refl _ _).alloc (Nat.le_refl _) _⟩

set_option maxRecDepth 100000 in
set_option maxHeartbeats 400000 in
theorem rbody_some (x : ByteArray) (w : World) (h0 : 0 < x.size) (hs : x.size ≤ 1000000) :
    Calls Tryz.prog 145 #[.string x] w fun e w' => e = .returned (.tuple #[recV (Pk.recOf (Pk.at' x.data.toList 0) (x.data.toList.drop 1)), .bool (Pk.okB (x.data.toList.drop 1))]) ∧ Below w.heap.size w w' := by
  have hne : x.toList.isEmpty = false := by
    rw [ByteArray.toList_eq]
    have : x.data.toList.length ≠ 0 := by rw [show x.data.toList.length = x.size from by simp]; omega
    cases h : x.data.toList with
    | nil => rw [h] at this; exact absurd rfl this
    | cons a b => rfl
  have hk := hide (byte_at x h0)
  obtain ⟨r0, hr0⟩ : ∃ r0, r0 = x.data.toList.drop 1 := ⟨_, rfl⟩
  have hl0 : r0.length ≤ 1000000 := by rw [hr0]; simp; omega
  have l1 := aftN_len r0
  have l2 := aftN_len (Pk.aftN r0)
  have l3 := aftT_len (Pk.aftN (Pk.aftN r0))
  have l4 := aftT_len (Pk.aftT (Pk.aftN (Pk.aftN r0)))
  have S0 := hide (RS.new w (wrap64 ((x[0]'h0).toNat : Int)) (x.extract 1 x.size) 42 205)
  rw [cut_tail, ← hr0] at S0
  have HX := hide (cut_tail x 1)
  rw [← hr0] at HX ⊢
  clear hr0
  go_enter Tryz.func145, Tryz.ntmps145
  go_wp2_with fail
  rw [unhide HX]
  refine (rs_num (unhide S0) (by rw [bs_size]; omega)).mono ?_
  rintro e w1 ⟨rfl, S1⟩
  rw [bs_list] at S1 ⊢
  have f := S1.got.fr 1
  have c := S1.got.c1
  have S1' := hide (S1.set1 (Pk.rd r0).1)
  clear S1 S0
  go_wp2_with fail
  refine (rs_num (unhide S1') (by rw [bs_size]; omega)).mono ?_
  rintro e w2 ⟨rfl, S2⟩
  rw [bs_list] at S2 ⊢
  clear S1' f c
  have f := S2.got.fr 2
  have c := S2.got.c2
  have S2' := hide (S2.set2 (Pk.rd (Pk.aftN r0)).1)
  clear S2
  go_wp2_with fail
  refine (rs_text (unhide S2') (by rw [bs_size]; omega)).mono ?_
  rintro e w3 ⟨rfl, S3⟩
  rw [bs_list] at S3 ⊢
  clear S2' f c
  have f := S3.got.fr 3
  have c := S3.got.c3
  have S3' := hide (S3.set3 (bs (Pk.rt (Pk.aftN (Pk.aftN r0)) 1024).1))
  clear S3
  go_wp2_with fail
  refine (rs_text (unhide S3') (by rw [bs_size]; omega)).mono ?_
  rintro e w4 ⟨rfl, S4⟩
  rw [bs_list] at S4 ⊢
  clear S3' f c
  have f := S4.got.fr 4
  have c := S4.got.c4
  have S4' := hide (S4.set4 (bs (Pk.rt (Pk.aftT (Pk.aftN (Pk.aftN r0))) 1024).1))
  clear S4
  go_wp2_with fail
  refine (rs_text (unhide S4') (by rw [bs_size]; omega)).mono ?_
  rintro e w5 ⟨rfl, S5⟩
  rw [bs_list] at S5 ⊢
  clear S4' f c
  have HG := hide (okB_eq r0)
  generalize (((((false || decide ((Pk.rd r0).2.2 ≠ 0)) || decide ((Pk.rd (Pk.aftN r0)).2.2 ≠ 0)) || decide ((Pk.rt (Pk.aftN (Pk.aftN r0)) 1024).2.2 ≠ 0)) || decide ((Pk.rt (Pk.aftT (Pk.aftN (Pk.aftN r0))) 1024).2.2 ≠ 0)) || decide ((Pk.rt (Pk.aftT (Pk.aftT (Pk.aftN (Pk.aftN r0)))) 1024).2.2 ≠ 0)) = g at S5 HG
  generalize bs (Pk.aftT (Pk.aftT (Pk.aftT (Pk.aftN (Pk.aftN r0))))) = L at S5 HG
  have HK : Hid (wrap64 ((x[0]'h0).toNat : Int) = ((Pk.at' x.data.toList 0 : Nat) : Int)) := hide (by
    rw [unhide hk]
    have := Pk.at_lt x.data.toList 0
    exact IntWalk.wrap64_in _ ⟨by omega, by omega⟩)
  have HV := hide (recV_of (Pk.at' x.data.toList 0) _ (unhide HK) r0)
  generalize bs (Pk.rt (Pk.aftN (Pk.aftN r0)) 1024).1 = A at S5 HV ⊢
  generalize bs (Pk.rt (Pk.aftT (Pk.aftN (Pk.aftN r0))) 1024).1 = B at S5 HV ⊢
  generalize bs (Pk.rt (Pk.aftT (Pk.aftT (Pk.aftN (Pk.aftN r0)))) 1024).1 = D at HV ⊢
  have f := S5.got.fr 5
  have c := S5.got.c5
  have S6 := hide (S5.set5 D)
  clear S5 l1 l2 l3 l4 HX hk HK hne
  go_wp2_with fail
  generalize w5.setCell ⟨w.heap.size + 1, 5, none⟩ (.string D) = W at S6 ⊢
  clear f c
  generalize wrap64 ((x[0]'h0).toNat : Int) = KK at S6 HV ⊢
  generalize ((Pk.rd r0).1 : Int) = QQ at S6 HV ⊢
  generalize ((Pk.rd (Pk.aftN r0)).1 : Int) = TT at S6 HV ⊢
  have S7 := (unhide S6).drew
  generalize hW : W.drew = W' at S7
  obtain ⟨_, a0, a1, a2, a3, a4, a5, _⟩ := (unhide S6).got
  obtain ⟨_, p0, p1, _, _⟩ := (unhide S6).lft
  obtain ⟨_, b0, b1, b2, b3, b4, b5, _⟩ := S7.got
  obtain ⟨_, r0', r1', r2', r3', r4', r5', rf⟩ := S7.res
  obtain ⟨_, q0, q1, _, _⟩ := S7.lft
  have g0 := rf 0
  have g1 := rf 1
  have g2 := rf 2
  have g3 := rf 3
  have g4 := rf 4
  have g5 := rf 5
  have HS := hide S7
  clear rf S7 S6
  have n1 : ¬ w.heap.size + 1 + 1 = w.heap.size := by omega
  have n2 : ¬ w.heap.size = w.heap.size + 1 + 1 := by omega
  cases g with
  | true =>
    have hok : Pk.okB r0 = false := by rw [unhide HG]; rfl
    have HO := hide hok
    clear HG a0 a1 a2 a3 a4 a5 p0 p1 hok
    go_region
    go_wp2_with fail
    refine bodyPost_ret (results_rec2 rfl rfl (((((((unhide HS).res.set0 KK).set1 QQ).set2 TT).set3 A).set4 B).set5 D)) rfl ?_
    exact ⟨by rw [unhide HV, unhide HO]; rfl, rs_end (unhide HS)⟩
  | false =>
    cases hL : L.toList.isEmpty with
    | true =>
      have hok : Pk.okB r0 = true := by rw [unhide HG, show decide (L.size = 0) = L.toList.isEmpty from (tl_empty L).symm, hL]; rfl
      have HO := hide hok
      clear HG a0 a1 a2 a3 a4 a5 p0 p1 hok
      go_region
      go_wp2_with fail
      refine bodyPost_ret (results_rec2 rfl rfl (((((((unhide HS).res.set0 KK).set1 QQ).set2 TT).set3 A).set4 B).set5 D)) rfl ?_
      exact ⟨by rw [unhide HV, unhide HO]; rfl, rs_end (unhide HS)⟩
    | false =>
      have hok : Pk.okB r0 = false := by rw [unhide HG, show decide (L.size = 0) = L.toList.isEmpty from (tl_empty L).symm, hL]; rfl
      have HO := hide hok
      clear HG a0 a1 a2 a3 a4 a5 p0 p1 hok
      go_region
      go_wp2_with fail
      refine bodyPost_ret (results_rec2 rfl rfl (((((((unhide HS).res.set0 KK).set1 QQ).set2 TT).set3 A).set4 B).set5 D)) rfl ?_
      exact ⟨by rw [unhide HV, unhide HO]; rfl, rs_end (unhide HS)⟩
end Go.Proofs.YtmccpkpeimejhahGreatDoor

namespace Go.Proofs.YtmccpkpeimejhahGreatDoor
open Go.RowKit

/-- what a decoding answers -/
def decV (l : List UInt8) : Value := .tuple #[recV (Pk.dec l).1, .int .i64 (Pk.dec l).2.1, .int .i64 (Pk.dec l).2.2]
theorem decV_of {l : List UInt8} {r : Pk.Rec} {n : Nat} {e : Int} (h : Pk.dec l = (r, n, e)) : decV l = .tuple #[recV r, .int .i64 n, .int .i64 e] := by unfold decV; rw [h]
theorem dec_A {l X : List UInt8} {K E : Nat} (hr : Pk.rt l 1024 = (X, K, E)) (h : E ≠ 0) : Pk.dec l = (Pk.none', 0, (E : Int)) := by
  unfold Pk.dec; rw [hr]; simp only []; rw [if_pos h]
theorem dec_B {l X : List UInt8} {K : Nat} (hr : Pk.rt l 1024 = (X, K, 0)) (h : l.length < K + 4) : Pk.dec l = (Pk.none', 0, 6) := by
  unfold Pk.dec; rw [hr]; simp only []; rw [if_neg (by simp), if_pos h]
theorem dec_C {l X : List UInt8} {K : Nat} (hr : Pk.rt l 1024 = (X, K, 0)) (h : ¬ l.length < K + 4) (h2 : (l.drop K).take 4 ≠ Pk.le4 (Pk.crc X)) : Pk.dec l = (Pk.none', 0, 7) := by
  unfold Pk.dec; rw [hr]; simp only []; rw [if_neg (by simp), if_neg h, if_pos h2]
theorem dec_D {l X : List UInt8} {K : Nat} (hr : Pk.rt l 1024 = (X, K, 0)) (h : ¬ l.length < K + 4) (h2 : (l.drop K).take 4 = Pk.le4 (Pk.crc X)) (h3 : X.length = 0 ∨ Pk.okB (X.drop 1) = false ∨ Pk.chk (Pk.recOf (Pk.at' X 0) (X.drop 1)) ≠ 0) : Pk.dec l = (Pk.none', 0, 7) := by
  unfold Pk.dec; rw [hr]; simp only []; rw [if_neg (by simp), if_neg h, if_neg (by rw [h2]; simp)]
  split
  · rfl
  split
  · rfl
  split
  · rfl
  · rename_i g1 g2 g3
    rcases h3 with h3 | h3 | h3
    · exact absurd h3 g1
    · exact absurd h3 g2
    · exact absurd h3 g3
theorem dec_F {l X : List UInt8} {K : Nat} (hr : Pk.rt l 1024 = (X, K, 0)) (h : ¬ l.length < K + 4) (h2 : (l.drop K).take 4 = Pk.le4 (Pk.crc X)) (h3 : X.length ≠ 0) (h4 : Pk.okB (X.drop 1) = true) (h5 : Pk.chk (Pk.recOf (Pk.at' X 0) (X.drop 1)) = 0) :
    Pk.dec l = (Pk.recOf (Pk.at' X 0) (X.drop 1), K + 4, 0) := by
  unfold Pk.dec; rw [hr]; simp only []; rw [if_neg (by simp), if_neg h, if_neg (by rw [h2]; simp), if_neg h3, if_neg (by rw [h4]; simp), if_neg (by rw [h5]; simp)]

theorem sum_cut {s : ByteArray} {K : Nat} (X : List UInt8) : ((s.extract K ((K : Int) + 4).toNat).toList == (bs (Pk.le4 (Pk.crc X))).toList) = ((s.data.toList.drop K).take 4 == Pk.le4 (Pk.crc X)) := by
  rw [show ((K : Int) + 4).toNat = K + 4 from by omega, cut_list, ByteArray.toList_eq, ByteArray.toList_eq, bs_list, bs_list]
theorem sum_other {s : ByteArray} {K : Nat} {X : List UInt8} (_ : K + 4 ≤ s.size) (h : (s.data.toList.drop K).take 4 ≠ Pk.le4 (Pk.crc X)) : ((s.extract K ((K : Int) + 4).toNat).toList == (bs (Pk.le4 (Pk.crc X))).toList) = false := by
  rw [sum_cut, beq_eq_false_iff_ne]; exact h
theorem sum_same {s : ByteArray} {K : Nat} {X : List UInt8} (_ : K + 4 ≤ s.size) (h : (s.data.toList.drop K).take 4 = Pk.le4 (Pk.crc X)) : ((s.extract K ((K : Int) + 4).toNat).toList == (bs (Pk.le4 (Pk.crc X))).toList) = true := by
  rw [sum_cut, beq_iff_eq]; exact h

set_option maxRecDepth 100000 in
set_option maxHeartbeats 400000 in
theorem decode_A (s : ByteArray) (X : List UInt8) (K E : Nat) (w : World) (hs : s.size ≤ 281474976710656) (hr : Pk.rt s.data.toList 1024 = (X, K, E)) (hE : E ≠ 0) :
    Calls Tryz.prog 123 #[.string s] w fun e w' => e = .returned (decV s.data.toList) ∧ Below w.heap.size w w' := by
  have hv : textV s.data.toList 1024 = .tuple #[.string (bs X), .int .i64 K, .int .i64 E] := by unfold textV; rw [hr]
  have R := hide (decV_of (dec_A hr hE))
  have R0 := hide (RB.new w 0 0 0 ⟨#[]⟩ ⟨#[]⟩ ⟨#[]⟩ 42)
  have B0 : Hid (Below w.heap.size w (w.alloc (.cells #[.int .i64 0, .int .i64 0, .int .i64 0, .string ⟨#[]⟩, .string ⟨#[]⟩, .string ⟨#[]⟩] 42))) := hide ((Below.refl _ _).alloc (Nat.le_refl _) _)
  have hE' : ((E : Int) != 0) = true := by simp [hE]
  have hE2 : ¬ ((E : Int) = 0) := by omega
  clear hr hE
  go_enter Tryz.func123, Tryz.ntmps123
  go_wp2_with fail
  refine (readt_any s 1024 _ hs).mono ?_
  rintro e w1 ⟨rfl, b1⟩
  rw [hv]
  have R1 := (unhide R0).next b1
  have B1 := hide (bstep (unhide B0) b1)
  have H1 := hide R1
  obtain ⟨_, c0, c1, c2, c3, c4, c5, fr⟩ := R1
  have f0 := fr 0
  have f1 := fr 1
  have f2 := fr 2
  have f3 := fr 3
  have f4 := fr 4
  have f5 := fr 5
  clear R0 B0 b1 fr
  go_wp2_with fail
  refine bodyPost_ret (results_rec3 rfl rfl ((unhide H1).setAll _ _ _ _ _ _)) rfl ?_
  exact ⟨by rw [unhide R]; rfl, set6_below (unhide B1) (Nat.le_refl _)⟩

set_option maxRecDepth 100000 in
set_option maxHeartbeats 400000 in
theorem decode_B (s : ByteArray) (X : List UInt8) (K : Nat) (w : World) (hs : s.size ≤ 281474976710656) (hr : Pk.rt s.data.toList 1024 = (X, K, 0)) (hK : K ≤ s.size) (h4 : s.size < K + 4) :
    Calls Tryz.prog 123 #[.string s] w fun e w' => e = .returned (decV s.data.toList) ∧ Below w.heap.size w w' := by
  have hv : textV s.data.toList 1024 = .tuple #[.string (bs X), .int .i64 K, .int .i64 0] := by unfold textV; rw [hr]; rfl
  have R := hide (decV_of (dec_B hr (by simpa using h4)))
  have R0 := hide (RB.new w 0 0 0 ⟨#[]⟩ ⟨#[]⟩ ⟨#[]⟩ 42)
  have B0 : Hid (Below w.heap.size w (w.alloc (.cells #[.int .i64 0, .int .i64 0, .int .i64 0, .string ⟨#[]⟩, .string ⟨#[]⟩, .string ⟨#[]⟩] 42))) := hide ((Below.refl _ _).alloc (Nat.le_refl _) _)
  clear hr
  go_enter Tryz.func123, Tryz.ntmps123
  go_wp2_with fail
  refine (readt_any s 1024 _ hs).mono ?_
  rintro e w1 ⟨rfl, b1⟩
  rw [hv]
  have R1 := (unhide R0).next b1
  have B1 := hide (bstep (unhide B0) b1)
  have H1 := hide R1
  obtain ⟨_, c0, c1, c2, c3, c4, c5, fr⟩ := R1
  have f0 := fr 0
  have f1 := fr 1
  have f2 := fr 2
  have f3 := fr 3
  have f4 := fr 4
  have f5 := fr 5
  clear R0 B0 b1 fr
  go_wp2_with fail
  refine bodyPost_ret (results_rec3 rfl rfl ((unhide H1).setAll _ _ _ _ _ _)) rfl ?_
  exact ⟨by rw [unhide R]; rfl, set6_below (unhide B1) (Nat.le_refl _)⟩

set_option maxRecDepth 100000 in
set_option maxHeartbeats 400000 in
theorem decode_C (s : ByteArray) (X : List UInt8) (K : Nat) (w : World) (hs : s.size ≤ 281474976710656) (hr : Pk.rt s.data.toList 1024 = (X, K, 0)) (h4 : K + 4 ≤ s.size) (hX : X.length ≤ 1024) (hne : (s.data.toList.drop K).take 4 ≠ Pk.le4 (Pk.crc X)) :
    Calls Tryz.prog 123 #[.string s] w fun e w' => e = .returned (decV s.data.toList) ∧ Below w.heap.size w w' := by
  have hv : textV s.data.toList 1024 = .tuple #[.string (bs X), .int .i64 K, .int .i64 0] := by unfold textV; rw [hr]; rfl
  have R := hide (decV_of (dec_C hr (by simpa using h4) hne))
  have R0 := hide (RB.new w 0 0 0 ⟨#[]⟩ ⟨#[]⟩ ⟨#[]⟩ 42)
  have B0 : Hid (Below w.heap.size w (w.alloc (.cells #[.int .i64 0, .int .i64 0, .int .i64 0, .string ⟨#[]⟩, .string ⟨#[]⟩, .string ⟨#[]⟩] 42))) := hide ((Below.refl _ _).alloc (Nat.le_refl _) _)
  have HX := hide hX
  have HB := hide (sum_other h4 hne)
  have i1 : (0 : Int) ≤ (K : Int) := by omega
  have i2 : (K : Int) ≤ (K : Int) + 4 := by omega
  have i3 : (K : Int) + 4 ≤ (s.size : Int) := by omega
  clear hr
  go_enter Tryz.func123, Tryz.ntmps123
  go_wp2_with fail
  refine (readt_any s 1024 _ hs).mono ?_
  rintro e w1 ⟨rfl, b1⟩
  rw [hv]
  have R1 := (unhide R0).next b1
  have B1 := hide (bstep (unhide B0) b1)
  have H1 := hide R1
  clear R0 B0 b1 R1
  go_wp2_with fail
  go_region_held3 (fun _ => True) (trivial)
    (first
      | (go_at_call 117; refine (sumof_any (bs X) _ (by rw [bs_size]; have := unhide HX; omega)).mono ?_; rintro e w2 ⟨rfl, b2⟩; rw [bs_list]))
  rw [unhide HB]
  have R2 := ((unhide H1).drew).next b2
  have B2 := hide (bstep (unhide B1).drew b2)
  have H2 := hide R2
  obtain ⟨_, c0, c1, c2, c3, c4, c5, fr⟩ := R2
  have f0 := fr 0
  have f1 := fr 1
  have f2 := fr 2
  have f3 := fr 3
  have f4 := fr 4
  have f5 := fr 5
  clear H1 B1 b2 fr
  go_wp2_with fail
  refine bodyPost_ret (results_rec3 rfl rfl ((unhide H2).setAll _ _ _ _ _ _)) rfl ?_
  exact ⟨by rw [unhide R]; rfl, set6_below (unhide B2) (Nat.le_refl _)⟩

set_option maxRecDepth 100000 in
set_option maxHeartbeats 400000 in
theorem decode_D (s : ByteArray) (X : List UInt8) (K : Nat) (w : World) (hs : s.size ≤ 281474976710656) (hr : Pk.rt s.data.toList 1024 = (X, K, 0)) (h4 : K + 4 ≤ s.size) (hX : X.length ≤ 1024) (he : (s.data.toList.drop K).take 4 = Pk.le4 (Pk.crc X)) (V : Value)
    (k q t : Int) (a b c : ByteArray) (hd : Pk.dec s.data.toList = (Pk.none', 0, 7)) (hV : V = .tuple #[.agg #[.int .i64 k, .int .i64 q, .int .i64 t, .string a, .string b, .string c], .bool false])
    (hc : ∀ W : World, Calls Tryz.prog 145 #[.string (bs X)] W fun e w' => e = .returned V ∧ Below W.heap.size W w') :
    Calls Tryz.prog 123 #[.string s] w fun e w' => e = .returned (decV s.data.toList) ∧ Below w.heap.size w w' := by
  subst hV
  have hv : textV s.data.toList 1024 = .tuple #[.string (bs X), .int .i64 K, .int .i64 0] := by unfold textV; rw [hr]; rfl
  have R := hide (decV_of hd)
  have HB := hide (sum_same h4 he)
  have R0 := hide (RB.new w 0 0 0 ⟨#[]⟩ ⟨#[]⟩ ⟨#[]⟩ 42)
  have B0 : Hid (Below w.heap.size w (w.alloc (.cells #[.int .i64 0, .int .i64 0, .int .i64 0, .string ⟨#[]⟩, .string ⟨#[]⟩, .string ⟨#[]⟩] 42))) := hide ((Below.refl _ _).alloc (Nat.le_refl _) _)
  have HX := hide hX
  have HC := hide hc
  have i1 : (0 : Int) ≤ (K : Int) := by omega
  have i2 : (K : Int) ≤ (K : Int) + 4 := by omega
  have i3 : (K : Int) + 4 ≤ (s.size : Int) := by omega
  clear hr he hd hc
  go_enter Tryz.func123, Tryz.ntmps123
  go_wp2_with fail
  refine (readt_any s 1024 _ hs).mono ?_
  rintro e w1 ⟨rfl, b1⟩
  rw [hv]
  have R1 := (unhide R0).next b1
  have B1 := hide (bstep (unhide B0) b1)
  have H1 := hide R1
  clear R0 B0 b1 R1
  go_wp2_with fail
  go_region_held3 (fun _ => True) (trivial)
    (first
      | (go_at_call 117; refine (sumof_any (bs X) _ (by rw [bs_size]; have := unhide HX; omega)).mono ?_; rintro e w2 ⟨rfl, b2⟩; rw [bs_list]))
  rw [unhide HB]
  have R2 := ((unhide H1).drew).next b2
  have B2 := hide (bstep (unhide B1).drew b2)
  have H2 := hide R2
  clear H1 B1 b2 R2
  go_wp2_with fail
  refine (unhide HC _).mono ?_
  rintro e w3 ⟨rfl, b3⟩
  have R3 := (unhide H2).next b3
  have B3 := hide (bstep (unhide B2) b3)
  have H3 := hide R3
  obtain ⟨hlt, c0, c1, c2, c3, c4, c5, fr⟩ := R3
  have f0 := fr 0
  have f1 := fr 1
  have f2 := fr 2
  have f3 := fr 3
  have f4 := fr 4
  have f5 := fr 5
  clear H2 B2 b3 fr
  go_wp2_with fail
  refine bodyPost_ret (results_rec3 rfl rfl (((unhide H3).setAll _ _ _ _ _ _).alloc _)) rfl ?_
  exact ⟨by rw [unhide R]; rfl, (set6_below (unhide B3) (Nat.le_refl _)).alloc (by simp; omega) _⟩

set_option maxRecDepth 100000 in
set_option maxHeartbeats 400000 in
theorem decode_E (s : ByteArray) (X : List UInt8) (K : Nat) (w : World) (hs : s.size ≤ 281474976710656) (hr : Pk.rt s.data.toList 1024 = (X, K, 0)) (h4 : K + 4 ≤ s.size) (hX : X.length ≤ 1024) (he : (s.data.toList.drop K).take 4 = Pk.le4 (Pk.crc X)) (V : Value)
    (k q t : Int) (a b c : ByteArray) (hd : Pk.dec s.data.toList = (Pk.none', 0, 7)) (hV : V = .tuple #[.agg #[.int .i64 k, .int .i64 q, .int .i64 t, .string a, .string b, .string c], .bool true]) (hk : chkV k q t a b c ≠ 0) (ha : a.size ≤ 1024) (hb : b.size ≤ 1024) (hcz : c.size ≤ 1024)
    (hc : ∀ W : World, Calls Tryz.prog 145 #[.string (bs X)] W fun e w' => e = .returned V ∧ Below W.heap.size W w') :
    Calls Tryz.prog 123 #[.string s] w fun e w' => e = .returned (decV s.data.toList) ∧ Below w.heap.size w w' := by
  subst hV
  have hv : textV s.data.toList 1024 = .tuple #[.string (bs X), .int .i64 K, .int .i64 0] := by unfold textV; rw [hr]; rfl
  have R := hide (decV_of hd)
  have HB := hide (sum_same h4 he)
  have R0 := hide (RB.new w 0 0 0 ⟨#[]⟩ ⟨#[]⟩ ⟨#[]⟩ 42)
  have B0 : Hid (Below w.heap.size w (w.alloc (.cells #[.int .i64 0, .int .i64 0, .int .i64 0, .string ⟨#[]⟩, .string ⟨#[]⟩, .string ⟨#[]⟩] 42))) := hide ((Below.refl _ _).alloc (Nat.le_refl _) _)
  have HX := hide hX
  have HC := hide hc
  obtain ⟨C, hC⟩ : ∃ C, chkV k q t a b c = C := ⟨_, rfl⟩
  rw [hC] at hk
  have CK : Hid (∀ W : World, Calls Tryz.prog 79 #[.agg #[.int .i64 k, .int .i64 q, .int .i64 t, .string a, .string b, .string c]] W fun e w' => e = .returned (.int .i64 C) ∧ Below W.heap.size W w') := hide (fun W => by rw [← hC]; exact check_any k q t a b c W (by omega) (by omega) (by omega))
  have hk' : (C != 0) = true := by simpa using hk
  have i1 : (0 : Int) ≤ (K : Int) := by omega
  have i2 : (K : Int) ≤ (K : Int) + 4 := by omega
  have i3 : (K : Int) + 4 ≤ (s.size : Int) := by omega
  clear hr he hd hc hC hk
  go_enter Tryz.func123, Tryz.ntmps123
  go_wp2_with fail
  refine (readt_any s 1024 _ hs).mono ?_
  rintro e w1 ⟨rfl, b1⟩
  rw [hv]
  have R1 := (unhide R0).next b1
  have B1 := hide (bstep (unhide B0) b1)
  have H1 := hide R1
  clear R0 B0 b1 R1
  go_wp2_with fail
  go_region_held3 (fun _ => True) (trivial)
    (first
      | (go_at_call 117; refine (sumof_any (bs X) _ (by rw [bs_size]; have := unhide HX; omega)).mono ?_; rintro e w2 ⟨rfl, b2⟩; rw [bs_list]))
  rw [unhide HB]
  have R2 := ((unhide H1).drew).next b2
  have B2 := hide (bstep (unhide B1).drew b2)
  have H2 := hide R2
  clear H1 B1 b2 R2
  go_wp2_with fail
  refine (unhide HC _).mono ?_
  rintro e w3 ⟨rfl, b3⟩
  have R3 := (unhide H2).next b3
  have B3 := hide (bstep (unhide B2) b3)
  have H3 := hide R3
  clear H2 B2 b3 R3
  go_wp2_with fail
  refine (unhide CK _).mono ?_
  rintro e w4 ⟨rfl, b4⟩
  have R4 := ((unhide H3).alloc _).next b4
  have B4 := hide (bstep ((unhide B3).alloc (Nat.le_of_lt (unhide H3).lt) _) b4)
  have H4 := hide R4
  obtain ⟨hlt, c0, c1, c2, c3, c4, c5, fr⟩ := R4
  have f0 := fr 0
  have f1 := fr 1
  have f2 := fr 2
  have f3 := fr 3
  have f4 := fr 4
  have f5 := fr 5
  clear H3 B3 b4 fr
  go_wp2_with fail
  refine bodyPost_ret (results_rec3 rfl rfl ((unhide H4).setAll _ _ _ _ _ _)) rfl ?_
  exact ⟨by rw [unhide R]; rfl, set6_below (unhide B4) (Nat.le_refl _)⟩

set_option maxRecDepth 100000 in
set_option maxHeartbeats 400000 in
theorem decode_F (s : ByteArray) (X : List UInt8) (K : Nat) (w : World) (hs : s.size ≤ 281474976710656) (hr : Pk.rt s.data.toList 1024 = (X, K, 0)) (h4 : K + 4 ≤ s.size) (hX : X.length ≤ 1024) (he : (s.data.toList.drop K).take 4 = Pk.le4 (Pk.crc X)) (V : Value)
    (k q t : Int) (a b c : ByteArray) (hd : decV s.data.toList = .tuple #[.agg #[.int .i64 k, .int .i64 q, .int .i64 t, .string a, .string b, .string c], .int .i64 ((K : Int) + 4), .int .i64 0]) (hV : V = .tuple #[.agg #[.int .i64 k, .int .i64 q, .int .i64 t, .string a, .string b, .string c], .bool true]) (hk : chkV k q t a b c = 0) (ha : a.size ≤ 1024) (hb : b.size ≤ 1024) (hcz : c.size ≤ 1024)
    (hc : ∀ W : World, Calls Tryz.prog 145 #[.string (bs X)] W fun e w' => e = .returned V ∧ Below W.heap.size W w') :
    Calls Tryz.prog 123 #[.string s] w fun e w' => e = .returned (decV s.data.toList) ∧ Below w.heap.size w w' := by
  subst hV
  have hv : textV s.data.toList 1024 = .tuple #[.string (bs X), .int .i64 K, .int .i64 0] := by unfold textV; rw [hr]; rfl
  have R := hide hd
  have HB := hide (sum_same h4 he)
  have R0 := hide (RB.new w 0 0 0 ⟨#[]⟩ ⟨#[]⟩ ⟨#[]⟩ 42)
  have B0 : Hid (Below w.heap.size w (w.alloc (.cells #[.int .i64 0, .int .i64 0, .int .i64 0, .string ⟨#[]⟩, .string ⟨#[]⟩, .string ⟨#[]⟩] 42))) := hide ((Below.refl _ _).alloc (Nat.le_refl _) _)
  have HX := hide hX
  have HC := hide hc
  have CK : Hid (∀ W : World, Calls Tryz.prog 79 #[.agg #[.int .i64 k, .int .i64 q, .int .i64 t, .string a, .string b, .string c]] W fun e w' => e = .returned (.int .i64 0) ∧ Below W.heap.size W w') := hide (fun W => by rw [← hk]; exact check_any k q t a b c W (by omega) (by omega) (by omega))
  have i1 : (0 : Int) ≤ (K : Int) := by omega
  have i2 : (K : Int) ≤ (K : Int) + 4 := by omega
  have i3 : (K : Int) + 4 ≤ (s.size : Int) := by omega
  clear hr he hd hc hk
  go_enter Tryz.func123, Tryz.ntmps123
  go_wp2_with fail
  refine (readt_any s 1024 _ hs).mono ?_
  rintro e w1 ⟨rfl, b1⟩
  rw [hv]
  have R1 := (unhide R0).next b1
  have B1 := hide (bstep (unhide B0) b1)
  have H1 := hide R1
  clear R0 B0 b1 R1
  go_wp2_with fail
  go_region_held3 (fun _ => True) (trivial)
    (first
      | (go_at_call 117; refine (sumof_any (bs X) _ (by rw [bs_size]; have := unhide HX; omega)).mono ?_; rintro e w2 ⟨rfl, b2⟩; rw [bs_list]))
  rw [unhide HB]
  have R2 := ((unhide H1).drew).next b2
  have B2 := hide (bstep (unhide B1).drew b2)
  have H2 := hide R2
  clear H1 B1 b2 R2
  go_wp2_with fail
  refine (unhide HC _).mono ?_
  rintro e w3 ⟨rfl, b3⟩
  have R3 := (unhide H2).next b3
  have B3 := hide (bstep (unhide B2) b3)
  have H3 := hide R3
  clear H2 B2 b3 R3
  go_wp2_with fail
  refine (unhide CK _).mono ?_
  rintro e w4 ⟨rfl, b4⟩
  have R4 := ((unhide H3).alloc _).next b4
  have B4 := hide (bstep ((unhide B3).alloc (Nat.le_of_lt (unhide H3).lt) _) b4)
  have H4 := hide R4
  have G4 := hide ((RB.new w3 k q t a b c 42).next b4)
  obtain ⟨hlt, c0, c1, c2, c3, c4, c5, fr⟩ := R4
  have f0 := fr 0
  have f1 := fr 1
  have f2 := fr 2
  have f3 := fr 3
  have f4 := fr 4
  have f5 := fr 5
  obtain ⟨_, d0, d1, d2, d3, d4, d5, _⟩ := unhide G4
  clear H3 B3 b4 fr G4
  go_wp2_with fail
  refine bodyPost_ret (results_rec3 rfl rfl ((unhide H4).setAll _ _ _ _ _ _)) rfl ?_
  exact ⟨by rw [unhide R]; rfl, set6_below (unhide B4) (Nat.le_refl _)⟩

theorem rt_size {l X : List UInt8} {K : Nat} (hr : Pk.rt l 1024 = (X, K, 0)) : K ≤ l.length ∧ X.length ≤ 1024 := by
  have := Pk.rt_one hr
  exact ⟨this.2.1, by omega⟩
theorem rec_few (r0 : List UInt8) : (Pk.rt r0 1024).1.length ≤ 1024 := by
  by_cases h : (Pk.rt r0 1024).2.2 = 0
  · have := (Pk.rt_one (l := r0) (most := 1024) (x := (Pk.rt r0 1024).1) (n := (Pk.rt r0 1024).2.1) (by rw [← h])).2.2
    omega
  · rw [(rt_bad h).1]; simp
theorem rec_s (c : Nat) (r0 : List UInt8) : (Pk.recOf c r0).s.length ≤ 1024 := by
  have e : (Pk.recOf c r0).s = (Pk.rt (Pk.p2 r0) 1024).1 := by simp only [Pk.recOf]
  rw [e]
  exact rec_few _
theorem rec_h (c : Nat) (r0 : List UInt8) : (Pk.recOf c r0).h.length ≤ 1024 := by
  have e : (Pk.recOf c r0).h = (Pk.rt (Pk.p3 r0) 1024).1 := by simp only [Pk.recOf]
  rw [e]
  exact rec_few _
theorem rec_d (c : Nat) (r0 : List UInt8) : (Pk.recOf c r0).d.length ≤ 1024 := by
  have e : (Pk.recOf c r0).d = (Pk.rt (Pk.p4 r0) 1024).1 := by simp only [Pk.recOf]
  rw [e]
  exact rec_few _
theorem chkV_rec (r : Pk.Rec) : chkV r.k r.q r.t (bs r.s) (bs r.h) (bs r.d) = Pk.chk r := by
  unfold chkV; simp only [bs_list]

theorem decode_any (s : ByteArray) (w : World) (hs : s.size ≤ 281474976710656) :
    Calls Tryz.prog 123 #[.string s] w fun e w' => e = .returned (decV s.data.toList) ∧ Below w.heap.size w w' := by
  obtain ⟨X, K, E, hr⟩ : ∃ X K E, Pk.rt s.data.toList 1024 = (X, K, E) := ⟨_, _, _, rfl⟩
  by_cases hE : E = 0
  · subst hE
    obtain ⟨hK, hX⟩ := rt_size hr
    rw [len_size] at hK
    by_cases h4 : s.size < K + 4
    · exact decode_B s X K w hs hr hK h4
    have h4' : ¬ s.data.toList.length < K + 4 := by rw [len_size]; exact h4
    by_cases hsum : (s.data.toList.drop K).take 4 = Pk.le4 (Pk.crc X)
    · by_cases h0 : X.length = 0
      · have hX0 : X = [] := List.length_eq_zero_iff.1 h0
        exact decode_D s X K w hs hr (by omega) hX hsum _ 0 0 0 ⟨#[]⟩ ⟨#[]⟩ ⟨#[]⟩ (dec_D hr h4' hsum (.inl h0)) rfl (fun W => by rw [hX0]; exact rbody_none W)
      · have hb : ∀ W : World, Calls Tryz.prog 145 #[.string (bs X)] W fun e w' => e = .returned (.tuple #[recV (Pk.recOf (Pk.at' X 0) (X.drop 1)), .bool (Pk.okB (X.drop 1))]) ∧ Below W.heap.size W w' := fun W => by
          have := rbody_some (bs X) W (by rw [bs_size]; omega) (by rw [bs_size]; omega)
          rw [bs_list] at this
          exact this
        have ho1 : (Pk.recOf (Pk.at' X 0) (X.drop 1)).s.length ≤ 1024 := rec_s _ _
        have ho2 : (Pk.recOf (Pk.at' X 0) (X.drop 1)).h.length ≤ 1024 := rec_h _ _
        have ho3 : (Pk.recOf (Pk.at' X 0) (X.drop 1)).d.length ≤ 1024 := rec_d _ _
        have hF := fun ho hc => decV_of (dec_F hr h4' hsum h0 ho hc)
        have hD := fun hc => dec_D hr h4' hsum (.inr (.inr hc))
        have hD2 := fun hc => dec_D hr h4' hsum (.inr (.inl hc))
        generalize Pk.recOf (Pk.at' X 0) (X.drop 1) = r at hb ho1 ho2 ho3 hF hD
        have hck := chkV_rec r
        cases ho : Pk.okB (X.drop 1) with
        | false =>
          rw [ho] at hb
          exact decode_D s X K w hs hr (by omega) hX hsum _ r.k r.q r.t (bs r.s) (bs r.h) (bs r.d) (hD2 ho) rfl hb
        | true =>
          rw [ho] at hb
          by_cases hc : Pk.chk r = 0
          · exact decode_F s X K w hs hr (by omega) hX hsum _ r.k r.q r.t (bs r.s) (bs r.h) (bs r.d) (hF ho hc) rfl (hck.trans hc) (by rw [bs_size]; exact ho1) (by rw [bs_size]; exact ho2) (by rw [bs_size]; exact ho3) hb
          · exact decode_E s X K w hs hr (by omega) hX hsum _ r.k r.q r.t (bs r.s) (bs r.h) (bs r.d) (hD hc) rfl (fun e => hc (hck.symm.trans e)) (by rw [bs_size]; exact ho1) (by rw [bs_size]; exact ho2) (by rw [bs_size]; exact ho3) hb
    · exact decode_C s X K w hs hr (by omega) hX hsum
  · exact decode_A s X K E w hs hr hE
end Go.Proofs.YtmccpkpeimejhahGreatDoor

namespace Go.Proofs.YtmccpkpeimejhahGreatDoor.Dk
open Go.RowKit Go.Shelf
attribute [local go_sem] Oper.semAt_some

/-- a number of 64 bits -/
abbrev Num := { n : Int // wf n }
theorem Kept.refl (Cs : Nat → Prop) (w : World) : Kept Cs w w := ⟨Nat.le_refl _, fun _ _ => rfl⟩
theorem Kept.trans {Cs : Nat → Prop} {a b c : World} (h : Kept Cs a b) (k : Kept Cs b c) : Kept Cs a c := ⟨Nat.le_trans h.1 k.1, fun i hi => (k.2 i hi).trans (h.2 i hi)⟩
theorem Kept.put {Cs : Nat → Prop} {w : World} (hC : ∀ k, Cs k → k < w.heap.size) (W : World) (l : Nat) (o o' : Obj) (hl : w.heap.size ≤ l) (h : W.heap[l]? = some o) : Kept Cs W (W.putObj l o') := by
  have hlt := (Array.getElem?_eq_some_iff.1 h).1
  have hg := grownBy_putObj' W l o'
  exact ⟨hg.size, fun k hk => by
    have := hC k hk
    exact hg.block k (by omega) (fun e => by have := Option.some.inj e; omega)⟩

set_option maxRecDepth 100000 in
set_option maxHeartbeats 2000000 in
theorem back1_in (F : Fence) (n : Nat) (hf : F.fn 146) (hro : F.round = none) (hn : 1 ≤ n) (l Bs : Nat) (Cs : Nat → Prop) (a : Option Addr) (zs : List Int) (cap : Nat) (hz : ∀ k, k < zs.length → wf (nth zs k)) (hlen : zs.length ≤ 1000) (hCB : Cs Bs) (hCa : ∀ z, a = some z → Cs z.block) (J Jx : List (Int × Num) → World → Prop)
    (hY : ∀ pre x W, J pre W → pre.length < zs.length → YieldAt F (n - 1) Tryz.prog l #[.int .i64 x.1, .int .i64 x.2.1] W fun e W' =>
      (e = .returned (.bool true) ∧ J (pre ++ [x]) W' ∧ Kept Cs W W') ∨ (e = .returned (.bool false) ∧ Jx (pre ++ [x]) W'))
    (W : World) (hBs : W.cell? ⟨Bs, 0, none⟩ = some (.slice a zs.length cap)) (hc : SlI W a zs) (h0 : J [] W) :
    CallsIn F n Tryz.prog 146 #[.func (.yield l) #[] #[], .pointer (some ⟨Bs, 0, none⟩)] W fun e W' => (∃ v, e = .returned v) ∧
      ((∃ ys : List (Int × Num), ys.map (fun x => x.2.1) = zs.reverse ∧ J ys W') ∨ (∃ pre : List (Int × Num), True ∧ Jx pre W')) := by
  have HZ := hide hz
  have HY := hide hY
  have HCa := hide hCa
  have HW := hide (And.intro hBs hc)
  clear hz hY hCa hc
  refine callsIn_of_wp Tryz.func146 rfl hf ?_ hro
  simp only [Tryz.ntmps146, List.size_toArray, List.length_cons, List.length_nil, Nat.reduceAdd, Nat.reduceSub, Array.replicate_succ, Array.replicate_zero, List.push_toArray, List.append_toArray, List.nil_append, List.cons_append]
  have hw0 : IntKind.i64.wrap ((zs.length : Int) - 1) = (zs.length : Int) - 1 := by rw [IntKind.wrap_i64]; omega
  gi_wp2
  gi_loopw [3] (fun iv wr => ∃ (k : Nat) (j : Int) (pre : List (Int × Num)), iv = .int .i64 j ∧ Hid (j = (k : Int) - 1) ∧ k ≤ zs.length ∧ Hid (pre.map (fun x => x.2.1) = (zs.drop k).reverse ∧ pre.length + k = zs.length) ∧ Hid (J pre wr) ∧ Hid (Kept Cs W wr)) (fun iv _ => (intOf iv + 1).toNat)
  case atStart => exact ⟨zs.length, _, [], rfl, hide (by first | rfl | exact hw0), Nat.le_refl _, hide ⟨by simp, by simp⟩, hide h0, hide (Kept.refl _ _)⟩
  case round =>
    obtain ⟨k, j, pre, rfl, hj, hk, HP, HJ, HK⟩ := hrel
    have hbs := ((unhide HK).cell (C := Bs) (j := 0) hCB).trans hBs
    by_cases hk0 : 0 < k
    · obtain ⟨i, rfl⟩ : ∃ i, k = i + 1 := ⟨k - 1, by omega⟩
      obtain rfl : j = (i : Int) := by have := unhide hj; omega
      have hi : i < zs.length := by omega
      have hi0 : (0 : Int) ≤ (i : Int) := by omega
      obtain ⟨b, o, rfl, hb, c1⟩ := ((unhide HK).nums (unhide HW).2 (unhide HCa)) i hi
      obtain ⟨fn, tmps, assign, body, hy, hR⟩ := unhide HY pre ((i : Int), ⟨nth zs i, unhide HZ i hi⟩) wr (unhide HJ) (by have := (unhide HP).2; omega)
      dsimp only at hy
      have HP2 : Hid ((pre ++ [((i : Int), (⟨nth zs i, unhide HZ i hi⟩ : Num))]).map (fun x => x.2.1) = (zs.drop i).reverse ∧ (pre ++ [((i : Int), (⟨nth zs i, unhide HZ i hi⟩ : Num))]).length + i = zs.length) := hide ⟨by
        have hnth : nth zs i = zs[i] := by unfold nth; rw [List.getElem?_eq_getElem hi]; rfl
        rw [List.map_append, (unhide HP).1, List.drop_eq_getElem_cons hi, List.reverse_cons]
        show _ ++ [nth zs i] = _
        rw [hnth], by have := (unhide HP).2; simp; omega⟩
      have hw1 : IntKind.i64.wrap ((i : Int) - 1) = (i : Int) - 1 := by rw [IntKind.wrap_i64]; omega
      clear HP HJ hj hk0 hb
      gi_wp2
      refine hR.mono ?_
      rintro e W3 (⟨rfl, hJ3, hk3⟩ | ⟨rfl, hJx3⟩)
      · have J3 := hide hJ3
        have K3 := hide ((unhide HK).trans hk3)
        clear hJ3 hk3 hR hy c1 hbs HK
        gi_wp2
        go_roundw
        case rel => exact ⟨i, _, _, rfl, hide (by first | rfl | exact hw1), by omega, HP2, J3, K3⟩
        case measure => first | (simp [intOf]; done) | (simp [intOf]; omega)
      · have J3 := hide hJx3
        clear hJx3 hR hy c1 hbs HK
        gi_wp2
        refine bodyPost_ret (results_none rfl _ _ _) rfl ?_
        exact ⟨⟨_, rfl⟩, .inr ⟨_, trivial, unhide J3⟩⟩
    · obtain rfl : k = 0 := by omega
      obtain rfl : j = -1 := by have := unhide hj; omega
      gi_wp2
      go_end0
      exact ⟨⟨_, rfl⟩, .inl ⟨_, by rw [(unhide HP).1]; rfl, unhide HJ⟩⟩

set_option maxHeartbeats 1000000 in
theorem back_in (F : Fence) (n : Nat) (hf : F.fn 124) (hro : F.round = none) (a : Option Addr) (len cap : Nat) (w : World) :
    CallsIn F n Tryz.prog 124 #[.slice a len cap] w fun e w' => e = .returned (.func (.func 146) #[] #[.pointer (some ⟨w.heap.size, 0, none⟩)]) ∧ w' = w.alloc (.cells #[.slice a len cap] 143) := by
  refine callsIn_of_wp Tryz.func124 rfl hf ?_ hro
  simp only [Tryz.ntmps124, List.size_toArray, List.length_cons, List.length_nil, Nat.reduceAdd, Nat.reduceSub, Array.replicate_succ, Array.replicate_zero, List.push_toArray, List.append_toArray, List.nil_append, List.cons_append]
  gi_wp2
  go_ret
  exact ⟨rfl, rfl⟩

/-- slices.Backward hands back a function that gives the numbers, the last one first -/
theorem back_stops (F : Fence) (n : Nat) (hf : F.fn 146) (hro : F.round = none) (hn : 1 ≤ n) (Bs : Nat) (Cs : Nat → Prop) (a : Option Addr) (zs : List Int) (cap : Nat) (hz : ∀ k, k < zs.length → wf (nth zs k)) (hlen : zs.length ≤ 1000) (hCB : Cs Bs) (hCa : ∀ z, a = some z → Cs z.block) (w : World) (hC : ∀ k, Cs k → k < w.heap.size)
    (hBs : w.cell? ⟨Bs, 0, none⟩ = some (.slice a zs.length cap)) (hc : SlI w a zs) :
    SeqStopsK F n Tryz.prog 146 #[.pointer (some ⟨Bs, 0, none⟩)] (fun x : Int × Num => #[Value.int .i64 x.1, Value.int .i64 x.2.1]) (Kept Cs) (fun ys => ys.map (fun x => x.2.1) = zs.reverse) (fun _ => True) zs.length w := fun l J Jx W hW _ _ hY h0 => by
  have hk : Kept Cs w W := ⟨hW.size, fun k hk => hW.block k (hC k hk)⟩
  exact back1_in F n hf hro hn l Bs Cs a zs cap hz hlen hCB hCa J Jx hY W ((hk.cell hCB).trans hBs) (hk.nums hc hCa) h0

/-- files that were removed so far -/
def remsL (es : List Pap) (pre : List (Int × Num)) : List Pap := pre.foldl (fun l x => remL l x.2.1) es
theorem remsL_snoc (es : List Pap) (pre : List (Int × Num)) (x : Int × Num) : remsL es (pre ++ [x]) = remL (remsL es pre) x.2.1 := by unfold remsL; rw [List.foldl_append]; rfl
theorem remsL_all (es : List Pap) (pre : List (Int × Num)) : remsL es pre = (pre.map (fun x => x.2.1)).foldl remL es := by unfold remsL; rw [List.foldl_map]
theorem Tidy.remsL {m : Int} {es : List Pap} (h : Tidy m es) (pre : List (Int × Num)) : Tidy m (Dk.remsL es pre) := by rw [remsL_all]; exact Tidy.rems _ h

theorem SlI.below' {w w' : World} {a : Option Addr} {l : List Int} {n : Nat} (h : SlI w a l) (hb : Below n w w') (hn : ∀ z, a = some z → z.block < n) : SlI w' a l := fun k hk => by
  obtain ⟨b, o, h1, h2, h3⟩ := h k hk
  exact ⟨b, o, h1, Nat.lt_of_lt_of_le h2 hb.size, by rw [hb.cell (p := ⟨b, o + k, none⟩) (hn ⟨b, o, none⟩ h1)]; exact h3⟩

set_option maxRecDepth 100000 in
set_option maxHeartbeats 2000000 in
theorem lremove_any {Has : World → Nat → Nat → (Nat → Prop) → Int → List Pap → Prop} {w : World} {B q : Nat} {F : Nat → Prop} {m : Int} {es : List Pap} (H : Works Has) (HS : Lists Has) (a : Option Addr) (zs : List Int) (cap : Nat) (hz : ∀ k, k < zs.length → wf (nth zs k)) (hlen : zs.length ≤ 1000) (hs : SlI w a zs) (ha : ∀ z, a = some z → z.block < w.heap.size ∧ ¬ F z.block) (h : Has w B q F m es) (ht : Tidy m es) (hm : m ≤ 65536) (hB : B ≤ w.heap.size) :
    Calls Tryz.prog 94 #[.pointer (some ⟨q, 0, none⟩), .slice a zs.length cap] w fun e w' => e = .returned (.tuple #[]) ∧ Has w' B q F m (zs.reverse.foldl remL es) ∧ Chg F w w' := by
  refine (callsIn_wide (n := 8)).1 ?_
  have HZ := hide hz
  have HH := hide h
  have HT := hide ht
  have HSl := hide hs
  have HA := hide ha
  clear hz h ht hs ha
  refine callsIn_of_wp_marks Tryz.func94 rfl trivial ?_ rfl
  simp only [Tryz.ntmps94, List.size_toArray, List.length_cons, List.length_nil, Nat.reduceAdd, Nat.reduceSub, Array.replicate_succ, Array.replicate_zero, List.push_toArray, List.append_toArray, List.nil_append, List.cons_append]
  have cB := back_in Fence.wide 7 trivial rfl a zs.length cap (w.alloc (.cells #[.pointer (some ⟨q, 0, none⟩)] 57))
  have hfB : Fence.wide.fn 124 := trivial
  gi_wp2_with (gi_at_call 124; refine cB.mono ?_; rintro e w' ⟨rfl, rfl⟩)
  clear cB
  obtain ⟨W0, hW0⟩ : ∃ W0, W0 = (w.alloc (.cells #[.pointer (some ⟨q, 0, none⟩)] 57)).alloc (.cells #[.slice a zs.length cap] 143) := ⟨_, rfl⟩
  have hs0 : W0.heap.size = w.heap.size + 2 := by rw [hW0]; simp
  have hb0 : Below w.heap.size w W0 := by rw [hW0]; exact ((Below.refl _ _).alloc (Nat.le_refl _) _).alloc (by simp) _
  have hown : ∀ k, F k → k < w.heap.size := fun k hk => (H.own (unhide HH) k hk).2
  have c0 : W0.cell? ⟨w.heap.size, 0, none⟩ = some (.pointer (some ⟨q, 0, none⟩)) := by
    rw [hW0, World.cell?_alloc_lt _ _ _ (by simp), cell_of_row _ w.heap.size 0 _ _ _ (heap_alloc_new w _)]; rfl
  have c1 : W0.cell? ⟨w.heap.size + 1, 0, none⟩ = some (.slice a zs.length cap) := by
    have := cell_of_row ((w.alloc (.cells #[.pointer (some ⟨q, 0, none⟩)] 57)).alloc (.cells #[.slice a zs.length cap] 143)) (w.alloc (.cells #[.pointer (some ⟨q, 0, none⟩)] 57)).heap.size 0 _ _ _ (heap_alloc_new _ _)
    rw [World.size_alloc] at this
    rw [hW0, this]; rfl
  have hst : SeqStopsK Fence.wide 7 Tryz.prog 146 #[.pointer (some ⟨w.heap.size + 1, 0, none⟩)] (fun x : Int × Num => #[Value.int .i64 x.1, Value.int .i64 x.2.1]) (Kept (fun k => k = w.heap.size + 1 ∨ ∃ z, a = some z ∧ z.block = k)) (fun ys => ys.map (fun x => x.2.1) = zs.reverse) (fun _ => True) zs.length W0 :=
    back_stops Fence.wide 7 trivial rfl (by omega) (w.heap.size + 1) _ a zs cap (unhide HZ) hlen (.inl rfl) (fun z hz => .inr ⟨z, hz, rfl⟩) W0 (fun k hk => by
      rcases hk with rfl | ⟨z, hz, rfl⟩
      · omega
      · have := (unhide HA z hz).1; omega) c1 ((unhide HSl).below' hb0 (fun z hz => (unhide HA z hz).1))
  have hI : OwnFrom W0.heap.size (fun (pre : List (Int × Num)) W => Has W B q F m (remsL es pre) ∧ Chg F W0 W) := fun s X Y row hs hg hr => by
    refine ⟨H.chg (A := fun k => row = some k) hs.1 (Chg.of_grown hg) (fun k hk z => ?_), chg_more hs.2 (Chg.of_grown hg) (fun i hi z => ?_)⟩
    · have := (hr k z).1; have := hown k hk; omega
    · have := (hr i z).1; omega
  have hfR : Fence.wide.fn 125 := trivial
  rw [← hW0]
  refine wpIn_rangeFunc_ownG rfl (by omega) (gf := 146) (lb := #[.pointer (some ⟨w.heap.size + 1, 0, none⟩)]) (by rfl) trivial (enters_of Tryz.func146 (by kernel_rfl) rfl)
    hst (fun h k => h.trans k) (fun W l o o' hl h _ _ => Kept.put (fun k hk => by
      rcases hk with rfl | ⟨z, hz, rfl⟩
      · omega
      · have := (unhide HA z hz).1; omega) W l o o' hl h) (Below.refl _ _) (fun _ => rfl)
    (fun pre W => Has W B q F m (remsL es pre) ∧ Chg F W0 W)
    (fun _ _ _ => False)
    hI (fun _ _ _ _ _ hs _ _ => hs)
    ⟨H.chg (A := fun _ => False) (unhide HH) (Chg.of_below hb0) (fun _ _ z => z), Chg.refl _ _⟩
    (fun x => { tmps := #[.pointer (some ⟨q, 0, none⟩), .slice a zs.length cap, .pointer (some ⟨w.heap.size, 0, none⟩), undef, undef, .int .i64 x.2.1, .slice a zs.length cap, .func (.func 146) #[] #[.pointer (some ⟨w.heap.size + 1, 0, none⟩)], .int .i64 x.1, .int .i64 x.2.1, undef, undef, undef], defers := [] }) ?assign ?body ?done ?stop
  case assign =>
    intro l x W K hK
    gi_wp2
    exact hK
  case body =>
    rintro l pre x W ⟨hh, hc⟩ _
    have d0 : W.cell? ⟨w.heap.size, 0, none⟩ = some (.pointer (some ⟨q, 0, none⟩)) := by
      rw [hc.cell (p := ⟨w.heap.size, 0, none⟩) (by simp only; omega) (fun z => by have := hown _ z; simp at this)]; exact c0
    have PR := hide (HS.drops x.2.1 x.2.2 hh ((unhide HT).remsL pre) hm (Nat.le_trans hB (Nat.le_trans hb0.size hc.size)))
    have HCh := hide hc
    clear hh hc
    gi_wp2_with (gi_at_call 125; refine (CallsIn.inRound l (callsIn_wide.2 (unhide PR))).mono ?_; rintro e w2 ⟨rfl, h2, ch2⟩)
    have hsz := (unhide HCh).size
    refine ⟨⟨ch2.size, fun k o hk hko _ => (ch2.block k (Array.getElem?_eq_some_iff.1 hko).1 (fun z => by have := hown k z; omega)).trans hko⟩, ⟨ch2.size, fun k hk => ?_⟩, by rw [remsL_snoc]; exact h2, (unhide HCh).trans ch2⟩
    rcases hk with rfl | ⟨z, hz, rfl⟩
    · exact ch2.block _ (by omega) (fun y => by have := hown _ y; omega)
    · exact ch2.block _ (by have := (unhide HA z hz).1; omega) (unhide HA z hz).2
  case done =>
    rintro D ys W hD hS ⟨hh, hc⟩ hK
    have HF : Hid (Has (W.putObj D (.deferred none)) B q F m (zs.reverse.foldl remL es) ∧ Chg F w (W.putObj D (.deferred none))) := hide (by
      obtain ⟨x1, x2⟩ := hI ys W (W.putObj D (.deferred none)) (some D) ⟨hh, hc⟩ (grownBy_putObj' W D _) (fun r e => by cases e; exact ⟨hD, _, hK, rfl⟩)
      rw [remsL_all, hS] at x1
      exact ⟨x1, (Chg.of_below hb0).trans x2⟩)
    clear hh hc hS
    gi_wp2
    refine ⟨by simp, .inl ⟨_, _, rfl, run_takeDeferred hK, ?_⟩⟩
    exact ⟨_, results_none rfl _ _ _, rfl, unhide HF⟩
  case stop =>
    rintro D c pre W _ _ h _
    exact h.elim
end Go.Proofs.YtmccpkpeimejhahGreatDoor.Dk

namespace Go.Proofs.YtmccpkpeimejhahGreatDoor.Dk
open Go.RowKit

theorem Kept.arr {Cs : Nat → Prop} {w w' : World} {B : Nat} {v : Value} {l : List Rc} (h : Kept Cs w w') (a : ArrR w B v l) (hn : ∀ g, v.ownBlock = some g → Cs g) : ArrR w' B v l := by
  refine ⟨a.1, ?_⟩
  rcases a.2 with q | ⟨g, cap, cur, h1, h2, h3, r⟩
  · exact .inl q
  · refine .inr ⟨g, cap, cur, h1, h2, ?_, r⟩
    rw [h.2 g (hn g (by rw [h1]; rfl))]
    exact h3
/-- append of a row onto a row of one's own -/
theorem append_arr (w : World) (B B1 : Nat) (v v1 : Value) (l fs : List Rc) (ha : ArrR w B v l) (h1 : ArrR w B1 v1 fs) (hl : l.length + fs.length ≤ 1000000) (hB : B ≤ w.heap.size) :
    ∃ v' w', (Builtin.append_ #[37, 37] 37 #[v, v1]).run Tryz.prog w = .ok v' w' ∧ ArrR w' B v' (l ++ fs) ∧ Chg (fun k => v.ownBlock = some k) w w' ∧ ∀ g, v'.ownBlock = some g → v.ownBlock = some g ∨ w.heap.size ≤ g := by
  have h1' := h1
  rcases h1.2 with ⟨e1, e2⟩ | ⟨g, cap, cur, e1, _⟩
  · obtain ⟨i0, hi, hz0, hz1, hz2⟩ := info_parts infoR
    obtain rfl : fs = [] := List.eq_nil_of_length_eq_zero e2
    refine ⟨v, w, ?_, by rw [List.append_nil]; exact ha, Chg.refl _ _, fun g hg => .inl hg⟩
    rw [e1]
    exact run_append_owned_none (P := Tryz.prog) w B 37 37 42 i0 6 Tryz.underlying37 hi v l.length (celR l) ha
  · rw [e1] at h1' ⊢
    exact append_rec w B 37 v l fs ha ⟨g, 0, none⟩ cap (World.ownsRow.cells h1' (g := g) rfl) hl hB
def recO2 (r : Rc) : Obj := .cells #[.int .i64 r.k, .int .i64 r.q, .int .i64 r.t, .string r.s, .string r.h, .string r.d] 42
/-- one record more, by way of a block of its own -/
theorem arr_one {w wr : World} {B : Nat} {ov : Value} {out : List Rc} (h : ArrR wr B ov out) (hb : Below B w wr) (r : Rc) (hl : out.length ≤ 200000) (hB : B ≤ wr.heap.size) :
    ∃ v8 w8, (Builtin.append_ #[37, 37] 37 #[ov, .slice (some ⟨wr.heap.size + 1, 0, none⟩) 1 1]).run Tryz.prog ((wr.alloc (recO2 r)).alloc (recO2 r)) = .ok v8 w8 ∧ ArrR w8 B v8 (out ++ [r]) ∧ Below B w w8 := by
  have hb7 : Below wr.heap.size wr ((wr.alloc (recO2 r)).alloc (recO2 r)) := ((Below.refl _ _).alloc (Nat.le_refl _) _).alloc (by simp) _
  have h7 := h.below hb7
  have hs7 := hb7.size
  obtain ⟨v8, w8, hrun, A8, C8, L8⟩ := append_rec ((wr.alloc (recO2 r)).alloc (recO2 r)) B 37 ov out [r] h7 ⟨(wr.alloc (recO2 r)).heap.size, 0, none⟩ 1 (six_row (wr.alloc (recO2 r)) r) (by simp; omega) (Nat.le_trans hB hs7)
  have e : (wr.alloc (recO2 r)).heap.size = wr.heap.size + 1 := by simp
  rw [e] at hrun
  refine ⟨v8, w8, hrun, A8, ?_⟩
  have hb8 : Below B ((wr.alloc (recO2 r)).alloc (recO2 r)) w8 := C8.below (Nat.le_trans hB hs7) (fun k hk z => by have := (World.ownsRow.lt h7 k z).1; omega)
  exact (hb.trans (hb7.mono hB)).trans hb8
/-- a disk on its way, the records that are told, the numbers of the files -/
def Opn (Has : World → Nat → Nat → (Nat → Prop) → Int → List Pap → Prop) (w wr : World) (B q : Nat) (F : Nat → Prop) (m : Int) (ov : Value) (a : Option Addr) (es : List Pap) (out : List Rc) (ns : List Int) : Prop :=
  Run Has (fun k => ov.ownBlock = some k ∨ ∃ z, a = some z ∧ z.block = k) w wr B q F m es ∧ ArrR wr w.heap.size ov out ∧ SlI wr a ns ∧ ∀ z, a = some z → ov.ownBlock ≠ some z.block
section
variable {Has : World → Nat → Nat → (Nat → Prop) → Int → List Pap → Prop} {w wr w' : World} {B q : Nat} {F : Nat → Prop} {m : Int} {ov : Value} {a : Option Addr} {es es' : List Pap} {out : List Rc} {ns : List Int}
theorem Opn.kept (h : Opn Has w wr B q F m ov a es out ns) (hk : Kept (fun k => ov.ownBlock = some k ∨ ∃ z, a = some z ∧ z.block = k) wr w') (hr : Run Has (fun k => ov.ownBlock = some k ∨ ∃ z, a = some z ∧ z.block = k) w w' B q F m es') : Opn Has w w' B q F m ov a es' out ns :=
  ⟨hr, hk.arr h.2.1 (fun _ hg => .inl hg), hk.nums h.2.2.1 (fun z hz => .inr ⟨z, hz, rfl⟩), h.2.2.2⟩
theorem Opn.below (H : Works Has) (h : Opn Has w wr B q F m ov a es out ns) (hb : Below wr.heap.size wr w') : Opn Has w w' B q F m ov a es out ns := h.kept (h.1.below H hb).2 (h.1.below H hb).1
theorem Opn.did (h : Opn Has w wr B q F m ov a es out ns) {fn : FuncId} {args : Array Value} {Q : Ending → World → Prop}
    (hc : ∀ F', Has wr B q F' m es → Calls Tryz.prog fn args wr fun e w' => Q e w' ∧ Did Has wr w' B q F' m es') :
    Calls Tryz.prog fn args wr fun e w' => Q e w' ∧ Opn Has w w' B q F m ov a es' out ns := by
  refine (h.1.did hc).mono ?_
  rintro e w' ⟨h1, h2, h3⟩
  exact ⟨h1, h.kept h3 h2⟩
/-- the row of the records that are told grows by a row -/
theorem Opn.join (H : Works Has) (h : Opn Has w wr B q F m ov a es out ns) {v1 : Value} {B1 : Nat} {rs : List Rc} (h1 : ArrR wr B1 v1 rs) (hl : out.length + rs.length ≤ 1000000) :
    ∃ v8 w8, (Builtin.append_ #[37, 37] 37 #[ov, v1]).run Tryz.prog wr = .ok v8 w8 ∧ Opn Has w w8 B q F m v8 a es (out ++ rs) ns := by
  have hs7 := h.1.room
  obtain ⟨v8, w8, hrun, A8, C8, L8⟩ := append_arr wr w.heap.size B1 ov v1 out rs h.2.1 h1 hl hs7
  have hall : ∀ z, a = some z → z.block < wr.heap.size := fun z hz => by
    obtain ⟨_, _, _, _, h4⟩ := h.1
    exact (h4 z.block (.inr ⟨z, hz, rfl⟩)).1
  refine ⟨v8, w8, hrun, h.1.own H C8 (fun k hk => ⟨.inl hk, (World.ownsRow.lt h.2.1 k hk).1⟩) (fun k hk => ?_), A8, h.2.2.1.chg C8 (fun z hz => h.2.2.2 z hz), fun z hz y => ?_⟩
  · rcases hk with y | y
    · rcases L8 k y with x | x
      · exact .inl (.inl x)
      · exact .inr ⟨x, (World.ownsRow.lt A8 k y).2⟩
    · exact .inl (.inr y)
  · rcases L8 _ y with x | x
    · exact h.2.2.2 z hz x
    · have := hall z hz; omega
/-- files are removed, their numbers a part of the row of numbers -/
theorem Opn.removed (H : Works Has) (HS : Lists Has) (h : Opn Has w wr B q F m ov a es out ns) (a' : Option Addr) (zs : List Int) (cap : Nat) (hz : ∀ k, k < zs.length → wf (nth zs k)) (hlen : zs.length ≤ 1000) (hs : SlI wr a' zs) (ha : ∀ z, a' = some z → ∃ y, a = some y ∧ y.block = z.block) (ht : Tidy m es) (hm : m ≤ 65536) (hB : B ≤ w.heap.size) :
    Calls Tryz.prog 94 #[.pointer (some ⟨q, 0, none⟩), .slice a' zs.length cap] wr fun e w' => e = .returned (.tuple #[]) ∧ Opn Has w w' B q F m ov a (zs.reverse.foldl remL es) out ns := by
  have hr := h.1.room
  refine (h.1.didc (Q := fun e _ => e = .returned (.tuple #[])) (es' := zs.reverse.foldl remL es) (fun F' hF hC => ?_)).mono ?_
  · refine (lremove_any H HS a' zs cap hz hlen hs (fun z hz => ?_) hF ht hm (Nat.le_trans hB hr)).mono ?_
    · obtain ⟨y, hy, he⟩ := ha z hz
      rw [← he]
      exact hC _ (.inr ⟨y, hy, rfl⟩)
    · rintro e w' ⟨h1, h2, h3⟩
      exact ⟨h1, F', h2, h3, fun _ hk => .inl hk⟩
  · rintro e w' ⟨h1, h2, h3⟩
    exact ⟨h1, h.kept h3 h2⟩
theorem Opn.num {es0 : List Pap} (h : Opn Has w wr B q F m ov a es out (numL es0)) {i b o : Nat} (ha : a = some ⟨b, o, none⟩) (hi : i < es0.length) : wr.cell? ⟨b, o + i, none⟩ = some (.int .i64 (pa es0 i).n) := by
  obtain ⟨b', o', h1, _, h3⟩ := h.2.2.1.num hi
  rw [ha] at h1
  cases h1
  exact h3
end


set_option maxRecDepth 100000 in
set_option maxHeartbeats 1000000 in
theorem lrecords_any (tx : ByteArray) (w : World) (htx : tx.size ≤ 65536) :
    Calls Tryz.prog 93 #[.string tx] w fun e w' => ∃ (ov : Value) (rs : List Rc) (k : Nat), e = .returned (.tuple #[ov, .int .i64 (k : Int)]) ∧ ArrR w' w.heap.size ov rs ∧ Below w.heap.size w w' ∧ ((k = tx.size ∧ scanT tx = (rs, none)) ∨ (k < tx.size ∧ scanT tx = (rs, some k))) := by
  have hll : tx.data.toList.length = tx.size := by simp
  go_enter Tryz.func93, Tryz.ntmps93
  go_wp2_with fail
  go_loopw [4, 5] (fun ov gv wr => ∃ (k : Nat) (rs : List Rc), gv = .int .i64 k ∧ k ≤ tx.size ∧ rs.length ≤ 65536 ∧ Hid (Dk.Read tx.data.toList k rs) ∧ Hid (ArrR wr w.heap.size ov rs ∧ Below w.heap.size w wr)) (fun _ gv _ => tx.size - (intOf gv).toNat)
  case atStart => exact ⟨0, [], rfl, Nat.zero_le _, Nat.zero_le _, hide (Dk.Read.start _), hide ⟨ArrR.empty _ _, Below.refl _ _⟩⟩
  case round =>
    obtain ⟨k, rs, rfl, hk, hrs, R4, T4⟩ := hrel
    by_cases hlt : k < tx.size
    · have hk3 : k < tx.data.toList.length := by omega
      obtain ⟨r0, n0, e0, hdec⟩ : ∃ r0 n0 e0, Pk.dec (tx.data.toList.drop k) = (r0, n0, e0) := ⟨_, _, _, rfl⟩
      obtain ⟨r, hr⟩ : ∃ r, r = rcOf r0 := ⟨_, rfl⟩
      have HD : Hid (decV (tx.extract k tx.size).data.toList = .tuple #[.agg #[.int .i64 r.k, .int .i64 r.q, .int .i64 r.t, .string r.s, .string r.h, .string r.d], .int .i64 n0, .int .i64 e0]) := hide (by rw [drop_ext, hr]; exact decV_of hdec)
      have hes : (tx.extract k tx.size).size ≤ 281474976710656 := by simp; omega
      by_cases he : e0 = 0
      · have hd0 : (Pk.dec (tx.data.toList.drop k)).2.2 = 0 := by rw [hdec]; exact he
        have hpos := dec_pos hd0
        have HS := hide ((unhide R4).step hk3 hd0)
        rw [hdec, ← hr] at HS
        rw [hdec, List.length_drop] at hpos
        simp only at hpos HS
        subst he
        have hkn : k + n0 ≤ tx.size := by omega
        have hpos1 := hpos.1
        have hl2 : (rs ++ [r]).length ≤ 65536 := by have := (unhide HS).len; omega
        have HL2 := hide hl2
        have hw : IntKind.i64.wrap ((k : Int) + (n0 : Int)) = ((k + n0 : Nat) : Int) := by rw [IntKind.wrap_i64]; omega
        clear hd0 hdec hr hpos hll hl2
        go_wp2_with fail
        refine (decode_any _ _ hes).mono ?_
        rintro e w5 ⟨rfl, b5⟩
        rw [unhide HD]
        obtain ⟨v8, w8, hrun, t8⟩ := arr_one ((unhide T4).1.below b5) (bstep (unhide T4).2 b5) r (by omega) (bstep (unhide T4).2 b5).size
        have T8 := hide t8
        unfold recO2 at hrun
        have HRun := hide hrun
        clear b5 t8 T4 hrun
        go_wp2_with (at_builtin; refine Lib.wpList_append_run _ rfl _ _ _ _ rfl _ _ rfl rfl _ _ (unhide HRun) ?_)
        clear HRun
        refine ⟨⟨k + n0, rs ++ [r], by go_num, hkn, unhide HL2, HS, T8⟩, ?_⟩
        simp [intOf]; omega
      · have hE2 : ¬ (e0 = 0) := he
        have hE' : (e0 != 0) = true := by simp [he]
        have hd0 : (Pk.dec (tx.data.toList.drop k)).2.2 ≠ 0 := by rw [hdec]; exact he
        have HS : Hid (scanT tx = (rs, some k)) := hide ((unhide R4).bad hk3 hd0)
        clear hd0 hdec hr R4 he hll
        go_wp2_with fail
        refine (decode_any _ _ hes).mono ?_
        rintro e w5 ⟨rfl, b5⟩
        rw [unhide HD]
        have T6 : Hid (ArrR (w5.alloc (recO2 r)) w.heap.size u4 rs ∧ Below w.heap.size w (w5.alloc (recO2 r))) := hide ⟨((unhide T4).1.below b5).below ((Below.refl _ _).alloc (Nat.le_refl _) _), bstep (bstep (unhide T4).2 b5) ((Below.refl _ _).alloc (Nat.le_refl _) _)⟩
        unfold recO2 at T6
        clear b5 T4
        go_wp2_with fail
        go_ret2
        exact ⟨_, rs, k, rfl, (unhide T6).1, (unhide T6).2, .inr ⟨hlt, unhide HS⟩⟩
    · have HR : Hid (scanT tx = (rs, none)) := hide ((unhide R4).done (by omega))
      obtain rfl : k = tx.size := by omega
      clear R4 hll
      go_wp2_with fail
      go_ret2
      exact ⟨_, rs, tx.size, rfl, (unhide T4).1, (unhide T4).2, .inl ⟨rfl, unhide HR⟩⟩
theorem num_drop (es : List Pap) (i : Nat) : (numL (es.drop i)).length = es.length - i := by unfold numL; rw [List.length_map, List.length_drop]
theorem nth_drop {es : List Pap} {i k : Nat} (h : i + k < es.length) : nth (numL (es.drop i)) k = (pa es (i + k)).n := by
  unfold nth numL
  rw [List.getElem?_map, List.getElem?_drop, List.getElem?_eq_getElem h, pa_get h]
  rfl
/-- the files behind the one that is cut are removed, then it is cut -/
theorem rems_behind {m : Int} {es : List Pap} (ht : Tidy m es) (i : Nat) : (numL (es.drop (i + 1))).reverse.foldl remL es = es.take (i + 1) := by
  have h := rem_rev [] (es.drop (i + 1)).length (es.take (i + 1)) (es.drop (i + 1)) rfl (by rw [List.append_nil, List.take_append_drop]; exact ht.rise)
  rw [List.append_nil, List.append_nil, List.take_append_drop] at h
  exact h
theorem pa_take {es : List Pap} {i j : Nat} (h : i < j) : pa (es.take j) i = pa es i := by
  unfold pa
  rw [List.getElem?_take_of_lt h]
theorem cut_behind {m : Int} {es : List Pap} {i k : Nat} (ht : Tidy m (es.take (i + 1))) (hi : i < es.length) (hk : k ≤ (pa es i).text.size) : cutL (es.take (i + 1)) (pa es i).n (k : Int) = es.take i ++ [cutP (pa es i) k] ∧ cutE (es.take (i + 1)) (pa es i).n (k : Int) = 0 := by
  have hl : (es.take (i + 1)).length = i + 1 := by rw [List.length_take]; omega
  have hp := pa_take (es := es) (Nat.lt_succ_self i)
  have h := cutL_pa ht (i := i) (k := k) (by omega) (by rw [hp]; exact hk)
  rw [hp] at h
  rw [h.1, h.2]
  refine ⟨?_, rfl⟩
  rw [List.take_take, Nat.min_eq_left (by omega), List.drop_eq_nil_of_le (by omega)]

set_option maxRecDepth 100000 in
set_option maxHeartbeats 1000000 in
theorem lread_any {Has : World → Nat → Nat → (Nat → Prop) → Int → List Pap → Prop} {w : World} {B q : Nat} {F : Nat → Prop} {m : Int} {es : List Pap} (H : More Has) (HS : Lists Has) (h : Has w B q F m es) (ht : Tidy m es) (hm : m ≤ 65536) (hB : B ≤ w.heap.size) :
    Calls Tryz.prog 67 #[.pointer (some ⟨q, 0, none⟩)] w fun e w' => ∃ ov a, e = .returned ov ∧ Opn Has w w' B q F m ov a (openL es).2 (openL es).1 (numL es) := by
  have hfew := ht.few
  have hfit := ht.fits
  have PL := hide ((Run.start (Cs := fun _ => False) h (fun _ z => z.elim)).list H.works HS ht hm hB)
  have HT := hide ht
  clear h ht
  go_enter Tryz.func67, Tryz.ntmps67
  go_wp2_with fail
  refine (unhide PL).mono ?_
  rintro e w1 ⟨a, c, rfl, ⟨hc1, hc2⟩, s1, r1, _⟩
  unfold maxLen at hc2
  have T1 : Hid (Opn Has w w1 B q F m (.slice none 0 0) a es [] (numL es)) := hide ⟨r1.fewer (fun k hk => by
    rcases hk with y | y
    · cases y
    · exact .inr y), ArrR.empty _ _, s1, fun z _ y => by cases y⟩
  clear s1 r1 PL
  go_wp2_with fail
  go_loopw [3, 15] (fun ov iv wr => ∃ (i : Nat) (acc : List Rc), iv = .int .i64 i ∧ i ≤ es.length ∧ acc.length ≤ 65536 ∧ Hid (Reads es i acc) ∧ Hid (Opn Has w wr B q F m ov a es acc (numL es))) (fun _ iv _ => es.length - (intOf iv).toNat)
  case atStart => exact ⟨0, [], rfl, Nat.zero_le _, Nat.zero_le _, hide (Reads.start es), T1⟩
  case round =>
    clear T1
    obtain ⟨i, acc, rfl, hi, hacc, R2, T2⟩ := hrel
    by_cases hlt : i < es.length
    · obtain ⟨ba, oa, rfl, hba, c1⟩ := (unhide T2).2.2.1.num hlt
      have hwn := wf_of ((unhide HT).each _ (pa_mem hlt)).1
      have hBr := Nat.le_trans hB (unhide T2).1.room
      have PR := hide ((unhide T2).did (Q := fun e _ => e = .returned (readV es (pa es i).n)) (fun F' hF => H.works.read (pa es i).n hwn hF (unhide HT) hm hBr))
      rw [readV_pa (unhide HT) hlt] at PR
      have hu := used_mem (pa_mem hlt)
      obtain ⟨tx, htx⟩ : ∃ tx, tx = (pa es i).text := ⟨_, rfl⟩
      rw [← htx] at PR hu
      have HX := hide htx
      have hwn' := hide hwn
      clear htx hwn hBr
      go_wp2_with fail
      refine (unhide PR).mono ?_
      rintro e w3 ⟨rfl, t3⟩
      have T3 := hide t3
      clear t3 PR c1 hba T2
      go_wp2_with fail
      refine (lrecords_any tx _ (by omega)).mono ?_
      rintro e w4 ⟨ov1, rs, k, rfl, a4, b4, hsc⟩
      have hrs : rs.length ≤ tx.size := by
        have h1 := scanT_len tx
        rcases hsc with ⟨_, y⟩ | ⟨_, y⟩
        · rw [y] at h1; exact h1
        · rw [y] at h1; exact h1
      obtain ⟨v8, w8, hrun, t8⟩ := ((unhide T3).below H.works b4).join H.works a4 (by omega)
      have HRun := hide hrun
      have T8 := hide t8
      obtain ⟨ao, co, hov, _⟩ := a4.shape
      subst hov
      clear a4 b4 hrun t8 T3
      rcases hsc with ⟨hkz, hsc⟩ | ⟨hkz, hsc⟩
      · have HS2 := hide ((unhide R2).step (rs := rs) hlt (by rw [← unhide HX]; exact hsc))
        have hl2 : (acc ++ rs).length ≤ 65536 := by have := (unhide HS2).len; omega
        have HL2 := hide hl2
        have hge : ¬ k < tx.size := by omega
        clear hsc R2 hl2
        subst hkz
        go_wp2_with (at_builtin; refine Lib.wpList_append_run _ rfl _ _ _ _ rfl _ _ rfl rfl _ _ (unhide HRun) ?_)
        clear HRun
        refine ⟨⟨i + 1, acc ++ rs, by go_num, by omega, unhide HL2, HS2, T8⟩, ?_⟩
        simp [intOf]; omega
      · have HO : Hid (openL es = (acc ++ rs, es.take i ++ [cutP (pa es i) k])) := hide ((unhide R2).bad hlt (by rw [← unhide HX]; exact hsc))
        have hw2 : IntKind.i64.wrap ((i : Int) + 1) = ((i + 1 : Nat) : Int) := by rw [IntKind.wrap_i64]; omega
        have HTk := hide (Tidy.rems (numL (es.drop (i + 1))).reverse (unhide HT))
        rw [rems_behind (unhide HT) i] at HTk
        have HC := hide (cut_behind (unhide HTk) hlt (k := k) (by rw [← unhide HX]; omega))
        have hwz : ∀ j, j < (numL (es.drop (i + 1))).length → wf (nth (numL (es.drop (i + 1))) j) := fun j hj => by
          rw [num_drop] at hj
          rw [nth_drop (by omega)]
          exact wf_of ((unhide HT).each _ (pa_mem (by omega))).1
        have HWz := hide hwz
        have hkz' : (k : Int) < (tx.size : Int) := by omega
        have PR2 : Hid (∀ a' cap', SlI w8 a' (numL (es.drop (i + 1))) → (∀ z, a' = some z → z.block = ba) → Calls Tryz.prog 94 #[.pointer (some ⟨q, 0, none⟩), .slice a' (es.length - (i + 1)) cap'] w8 fun e w' => e = .returned (.tuple #[]) ∧ Opn Has w w' B q F m v8 (some ⟨ba, oa, none⟩) (es.take (i + 1)) (acc ++ rs) (numL es)) := hide (fun a' cap' hs' hb' => by
          have h := (unhide T8).removed H.works HS a' (numL (es.drop (i + 1))) cap' (unhide HWz) (by rw [num_drop]; omega) hs' (fun z hz => ⟨⟨ba, oa, none⟩, rfl, (hb' z hz).symm⟩) (unhide HT) hm hB
          rw [rems_behind (unhide HT) i, num_drop] at h
          exact h)
        have PC2 : Hid (∀ w9, Opn Has w w9 B q F m v8 (some ⟨ba, oa, none⟩) (es.take (i + 1)) (acc ++ rs) (numL es) → Calls Tryz.prog 95 #[.pointer (some ⟨q, 0, none⟩), .int .i64 (pa es i).n, .int .i64 (k : Int)] w9 fun e w' => e = .returned (.int .i64 0) ∧ Opn Has w w' B q F m v8 (some ⟨ba, oa, none⟩) (openL es).2 (openL es).1 (numL es)) := hide (fun w9 o9 => by
          have h := o9.did (fun F' hF => H.cut (pa es i).n (k : Int) (unhide hwn') hF (unhide HTk) hm (Nat.le_trans hB o9.1.room))
          rw [(unhide HC).1, (unhide HC).2] at h
          rw [unhide HO]
          exact h)
        have S8 : Hid (SlI w8 (some ⟨ba, oa + (i + 1), none⟩) (numL (es.drop (i + 1)))) := hide (fun j hj => by
          rw [num_drop] at hj
          have h1 := (unhide T8).num rfl (show i + 1 + j < es.length by omega)
          obtain ⟨b', o', x1, x2, _⟩ := (unhide T8).2.2.1.num (show i + 1 + j < es.length by omega)
          cases x1
          exact ⟨ba, oa + (i + 1), rfl, x2, by rw [nth_drop (by omega), Nat.add_assoc]; exact h1⟩)
        clear hsc R2 hwz T8 HC HTk HO HX
        by_cases hi1 : i + 1 < es.length
        · have hne : ¬ c = i + 1 := by omega
          have hne2 : i + 1 < c := by omega
          go_wp2_with (at_builtin; refine Lib.wpList_append_run _ rfl _ _ _ _ rfl _ _ rfl rfl _ _ (unhide HRun) ?_)
          refine (unhide PR2 _ _ (unhide S8) (fun z hz => by cases hz; rfl)).mono ?_
          rintro e w9 ⟨rfl, t9⟩
          have PC3 := hide (unhide PC2 w9 t9)
          clear t9 PR2 PC2 S8 HRun
          go_wp2_with fail
          refine (unhide PC3).mono ?_
          rintro e w10 ⟨rfl, t10⟩
          have T10 := hide t10
          clear t10 PC3
          go_wp2_with fail
          go_ret
          exact ⟨_, _, rfl, unhide T10⟩
        · have hne : es.length - (i + 1) = 0 := by omega
          have S9 : Hid (∀ a', SlI w8 a' (numL (es.drop (i + 1)))) := hide (fun a' j hj => by rw [num_drop] at hj; omega)
          rw [hne] at PR2
          go_wp2_with (at_builtin; refine Lib.wpList_append_run _ rfl _ _ _ _ rfl _ _ rfl rfl _ _ (unhide HRun) ?_)
          all_goals refine (unhide PR2 _ _ (unhide S9 _) (fun z hz => by cases hz; rfl)).mono ?_
          all_goals rintro e w9 ⟨rfl, t9⟩
          all_goals have PC3 := hide (unhide PC2 w9 t9)
          all_goals clear t9 PR2 PC2 S8 S9 HRun
          all_goals go_wp2_with fail
          all_goals refine (unhide PC3).mono ?_
          all_goals rintro e w10 ⟨rfl, t10⟩
          all_goals have T10 := hide t10
          all_goals clear t10 PC3
          all_goals go_wp2_with fail
          all_goals go_ret
          all_goals exact ⟨_, _, rfl, unhide T10⟩
    · have HR := hide ((unhide R2).done hlt)
      go_wp2_with fail
      go_ret
      refine ⟨_, a, rfl, ?_⟩
      rw [unhide HR]
      exact unhide T2
end Go.Proofs.YtmccpkpeimejhahGreatDoor.Dk
