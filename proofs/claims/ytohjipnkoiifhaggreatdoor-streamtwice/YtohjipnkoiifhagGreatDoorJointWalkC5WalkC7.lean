/-
  Contracts of the parts of a body: a number, a text, and what is left behind them.
  Contract of record.readBody: the parts of a body as a record, and whether they are right and nothing is left behind them.
-/
import Derived.Test.YtohjipnkoiifhagGreatDoorWalkN4
import Derived.Test.YtohjipnkoiifhagGreatDoorJointWalkC1WalkC2RowSRowU
import Derived.Test.YtohjipnkoiifhagGreatDoorJointPlainSPlainR2PapGRowGPapNWorksGPapHWorksFRowBWalkC6RowY
namespace Go.Proofs.YtohjipnkoiifhagGreatDoor
open Go.RowKit

/-- what is left of a body, and whether a part was none, in a block that may be written -/
structure PT (w : World) (b : Nat) (r : ByteArray) (wr : Bool) : Prop where
  lt : b < w.heap.size
  c0 : w.cell? ⟨b, 0, none⟩ = some (.string r)
  c1 : w.cell? ⟨b, 1, none⟩ = some (.bool wr)
  f0 : w.frozen? ⟨b, 0, none⟩ = false
  f1 : w.frozen? ⟨b, 1, none⟩ = false

theorem PT.next {w w' : World} {b : Nat} {r : ByteArray} {wr : Bool} (h : PT w b r wr) (hb : Below w.heap.size w w') : PT w' b r wr :=
  ⟨Nat.lt_of_lt_of_le h.lt hb.size, by rw [hb.cell (p := ⟨b, 0, none⟩) h.lt]; exact h.c0, by rw [hb.cell (p := ⟨b, 1, none⟩) h.lt]; exact h.c1, by rw [hb.frozen (p := ⟨b, 0, none⟩) h.lt]; exact h.f0, by rw [hb.frozen (p := ⟨b, 1, none⟩) h.lt]; exact h.f1⟩
theorem PT.set {w : World} {b : Nat} {r : ByteArray} {wr : Bool} (h : PT w b r wr) (r' : ByteArray) (wr' : Bool) : PT ((w.setCell ⟨b, 0, none⟩ (.string r')).setCell ⟨b, 1, none⟩ (.bool wr')) b r' wr' := by
  have e1 : (w.setCell ⟨b, 0, none⟩ (.string r')).cell? ⟨b, 1, none⟩ = some (.bool wr) := by
    rw [cell_other' _ _ _ _ (by intro q; injection q; omega)]; exact h.c1
  refine ⟨by simpa using h.lt, ?_, ?_, by simpa using h.f0, by simpa using h.f1⟩
  · rw [cell_other' _ _ _ _ (by intro q; injection q; omega)]
    exact World.cell?_setCell_same' _ _ _ (by rw [h.c0]; rfl)
  · exact World.cell?_setCell_same' _ _ _ (by rw [e1]; rfl)

set_option maxRecDepth 100000 in
set_option maxHeartbeats 400000 in
theorem goon_any (B b : Nat) (r : ByteArray) (wr : Bool) (K E : Nat) (w : World) (hB : B ≤ b) (h : PT w b r wr) (_hr : r.size ≤ 1000000) (hK : K ≤ r.size) :
    Calls Tryz.prog 188 #[.pointer (some ⟨b, 0, none⟩), .int .i64 K, .int .i64 E] w fun e w' => (∃ v, e = .returned v) ∧ PT w' b (r.extract K r.size) (wr || ((E : Int) != 0)) ∧ Below B w w' := by
  have H := hide h
  obtain ⟨hlt, c0, c1, f0, f1⟩ := h
  cases wr with
  | true =>
    go_enter Tryz.func188, Tryz.ntmps188
    go_wp2_with fail
    go_end0
    exact ⟨⟨_, rfl⟩, (unhide H).set _ _, ((Below.refl _ _).setCell hB _).setCell hB _⟩
  | false =>
    go_enter Tryz.func188, Tryz.ntmps188
    go_wp2_with fail
    go_end0
    exact ⟨⟨_, rfl⟩, (unhide H).set _ _, ((Below.refl _ _).setCell hB _).setCell hB _⟩

theorem cut_tail (s : ByteArray) (k : Nat) : s.extract k s.size = bs (s.data.toList.drop k) := by
  apply ByteArray.ext
  apply Array.toList_inj.1
  simp only [bs, ByteArray.data_extract, Array.toList_extract, List.extract_eq_take_drop]
  rw [List.take_of_length_le (by simp)]
theorem rd_took (l : List UInt8) : (Pk.rd l).2.1 ≤ l.length := by
  by_cases h : (Pk.rd l).2.2 = 0
  · exact (Pk.rd_good h).2.1
  · rw [(Pk.rd_bad h).2]; exact Nat.zero_le _
theorem rt_bad {l : List UInt8} {m : Int} (h : (Pk.rt l m).2.2 ≠ 0) : (Pk.rt l m).1 = [] ∧ (Pk.rt l m).2.1 = 0 := by
  unfold Pk.rt at h ⊢
  split
  · exact ⟨rfl, rfl⟩
  rename_i h1
  rw [if_neg h1] at h
  split
  · exact ⟨rfl, rfl⟩
  rename_i h2
  rw [if_neg h2] at h
  split
  · exact ⟨rfl, rfl⟩
  rename_i h3
  rw [if_neg h3] at h
  exact absurd rfl h
theorem rt_took (l : List UInt8) : (Pk.rt l 1024).2.1 ≤ l.length := by
  by_cases h : (Pk.rt l 1024).2.2 = 0
  · exact (Pk.rt_one (l := l) (most := 1024) (x := (Pk.rt l 1024).1) (n := (Pk.rt l 1024).2.1) (by rw [← h])).2.1
  · rw [(rt_bad h).2]; exact Nat.zero_le _
theorem or_ne {wr : Bool} {E : Nat} : (wr || ((E : Int) != 0)) = (wr || decide (E ≠ 0)) := by
  congr 1
  rw [Bool.eq_iff_iff]; simp

set_option maxRecDepth 100000 in
set_option maxHeartbeats 400000 in
theorem pnum_any (B b : Nat) (r : ByteArray) (wr : Bool) (w : World) (hB : B ≤ b) (h : PT w b r wr) (hr : r.size ≤ 1000000) :
    Calls Tryz.prog 168 #[.pointer (some ⟨b, 0, none⟩)] w fun e w' => e = .returned (.int .i64 (Pk.rd r.data.toList).1) ∧ PT w' b (bs (Pk.aftN r.data.toList)) (wr || decide ((Pk.rd r.data.toList).2.2 ≠ 0)) ∧ Below B w w' := by
  have hK0 := rd_took r.data.toList
  have hx := hide (cut_tail r (Pk.rd r.data.toList).2.1)
  unfold Pk.aftN
  obtain ⟨N, K, E, hrd⟩ : ∃ N K E, Pk.rd r.data.toList = (N, K, E) := ⟨_, _, _, rfl⟩
  have hv : numV r.data.toList = .tuple #[.int .i64 N, .int .i64 K, .int .i64 E] := by unfold numV; rw [hrd]
  rw [hrd] at hx hK0 ⊢
  have hK : K ≤ r.size := by simpa using hK0
  have H := hide h
  obtain ⟨hlt, c0, c1, f0, f1⟩ := h
  clear hrd hK0
  go_enter Tryz.func168, Tryz.ntmps168
  go_wp2_with fail
  refine (readn_any r _ (by omega)).mono ?_
  rintro e w1 ⟨rfl, rfl⟩
  rw [hv]
  go_wp2_with fail
  refine (goon_any B b r wr K E _ hB (unhide H) hr hK).mono ?_
  rintro e w2 ⟨⟨v, rfl⟩, p2, b2⟩
  go_wp2_with fail
  go_ret
  rw [unhide hx, or_ne] at p2
  exact ⟨rfl, p2, b2⟩

set_option maxRecDepth 100000 in
set_option maxHeartbeats 400000 in
theorem ptext_any (B b : Nat) (r : ByteArray) (wr : Bool) (w : World) (hB : B ≤ b) (hB2 : B ≤ w.heap.size) (h : PT w b r wr) (hr : r.size ≤ 1000000) :
    Calls Tryz.prog 169 #[.pointer (some ⟨b, 0, none⟩)] w fun e w' => e = .returned (.string (bs (Pk.rt r.data.toList 1024).1)) ∧ PT w' b (bs (Pk.aftT r.data.toList)) (wr || decide ((Pk.rt r.data.toList 1024).2.2 ≠ 0)) ∧ Below B w w' := by
  have hK0 := rt_took r.data.toList
  have hx := hide (cut_tail r (Pk.rt r.data.toList 1024).2.1)
  unfold Pk.aftT
  obtain ⟨N, K, E, hrd⟩ : ∃ N K E, Pk.rt r.data.toList 1024 = (N, K, E) := ⟨_, _, _, rfl⟩
  have hv : textV r.data.toList 1024 = .tuple #[.string (bs N), .int .i64 K, .int .i64 E] := by unfold textV; rw [hrd]
  rw [hrd] at hx hK0 ⊢
  have hK : K ≤ r.size := by simpa using hK0
  have H := hide h
  obtain ⟨hlt, c0, c1, f0, f1⟩ := h
  clear hrd hK0
  go_enter Tryz.func169, Tryz.ntmps169
  go_wp2_with fail
  refine (readt_any r _ _ (by omega)).mono ?_
  rintro e w1 ⟨rfl, b1⟩
  have H1 := hide ((unhide H).next b1)
  clear c0 c1 f0 f1
  rw [hv]
  go_wp2_with fail
  refine (goon_any B b r wr K E _ hB (unhide H1) hr hK).mono ?_
  rintro e w2 ⟨⟨v, rfl⟩, p2, b2⟩
  go_wp2_with fail
  go_ret
  rw [unhide hx, or_ne] at p2
  exact ⟨rfl, p2, (b1.mono hB2).trans b2⟩
end Go.Proofs.YtohjipnkoiifhagGreatDoor

namespace Go.Proofs.YtohjipnkoiifhagGreatDoor
open Go.RowKit

theorem PT.other {w : World} {b c i : Nat} {r : ByteArray} {wr : Bool} {v : Value} (p : PT w b r wr) (hc : c ≠ b) : PT (w.setCell ⟨c, i, none⟩ v) b r wr :=
  ⟨by simpa using p.lt, by rw [cell_other' _ _ _ _ (by intro e; injection e; omega)]; exact p.c0, by rw [cell_other' _ _ _ _ (by intro e; injection e; omega)]; exact p.c1, by simpa using p.f0, by simpa using p.f1⟩
/-- the state of readBody: where the answer will lie, the record so far, what is left -/
structure RS (w0 W : World) (k q t : Int) (s h d r : ByteArray) (wr : Bool) : Prop where
  res : RB W w0.heap.size 0 0 0 ⟨#[]⟩ ⟨#[]⟩ ⟨#[]⟩
  got : RB W (w0.heap.size + 1) k q t s h d
  lft : PT W (w0.heap.size + 1 + 1) r wr
  bel : Below w0.heap.size w0 W
theorem PT.new' (w : World) (b : Nat) (hb : b = w.heap.size) (r : ByteArray) (wr : Bool) (T : TypeId) : PT (w.alloc (.cells #[.string r, .bool wr] T)) b r wr := by
  subst hb
  exact ⟨by simp, by simp, by simp, World.frozen?_alloc_new _ _ _ 0, World.frozen?_alloc_new _ _ _ 1⟩
theorem size_alloc (w : World) (o : Obj) : (w.alloc o).heap.size = w.heap.size + 1 := by simp
theorem RS.new (w : World) (k : Int) (r : ByteArray) (T T' : TypeId) :
    RS w (((w.alloc (.cells #[.int .i64 0, .int .i64 0, .int .i64 0, .string ⟨#[]⟩, .string ⟨#[]⟩, .string ⟨#[]⟩] T)).alloc (.cells #[.int .i64 k, .int .i64 0, .int .i64 0, .string ⟨#[]⟩, .string ⟨#[]⟩, .string ⟨#[]⟩] T)).alloc (.cells #[.string r, .bool false] T')) k 0 0 ⟨#[]⟩ ⟨#[]⟩ ⟨#[]⟩ r false := by
  generalize e1 : w.alloc (.cells #[.int .i64 0, .int .i64 0, .int .i64 0, .string ⟨#[]⟩, .string ⟨#[]⟩, .string ⟨#[]⟩] T) = w1
  have z1 : w1.heap.size = w.heap.size + 1 := by rw [← e1, size_alloc]
  have a1 : RB w1 w.heap.size 0 0 0 ⟨#[]⟩ ⟨#[]⟩ ⟨#[]⟩ := by rw [← e1]; exact RB.new w 0 0 0 _ _ _ T
  have b1 : Below w.heap.size w w1 := by rw [← e1]; exact (Below.refl _ _).alloc (Nat.le_refl _) _
  generalize e2 : w1.alloc (.cells #[.int .i64 k, .int .i64 0, .int .i64 0, .string ⟨#[]⟩, .string ⟨#[]⟩, .string ⟨#[]⟩] T) = w2
  have z2 : w2.heap.size = w1.heap.size + 1 := by rw [← e2, size_alloc]
  have a2 : RB w2 (w.heap.size + 1) k 0 0 ⟨#[]⟩ ⟨#[]⟩ ⟨#[]⟩ := by rw [← e2]; exact RB.new' w1 _ z1.symm k 0 0 _ _ _ T
  have b2 : RB w2 w.heap.size 0 0 0 ⟨#[]⟩ ⟨#[]⟩ ⟨#[]⟩ := by rw [← e2]; exact a1.alloc _
  have b3 : Below w.heap.size w w2 := by rw [← e2]; exact b1.alloc (by omega) _
  exact ⟨b2.alloc _, a2.alloc _, PT.new' w2 _ (by omega) r false T', b3.alloc (by omega) _⟩
theorem RS.call {w0 W w' : World} {k q t : Int} {s h d r r' : ByteArray} {wr wr' : Bool} (x : RS w0 W k q t s h d r wr) (p : PT w' (w0.heap.size + 1 + 1) r' wr') (b : Below (w0.heap.size + 1 + 1) W w') : RS w0 w' k q t s h d r' wr' :=
  ⟨x.res.below b (by omega), x.got.below b (by omega), p, x.bel.trans (b.mono (by omega))⟩
theorem RS.set1 {w0 W : World} {k q t : Int} {s h d r : ByteArray} {wr : Bool} (x : RS w0 W k q t s h d r wr) (y : Int) : RS w0 (W.setCell ⟨w0.heap.size + 1, 1, none⟩ (.int .i64 y)) k y t s h d r wr :=
  ⟨x.res.other (by omega), x.got.set1 y, x.lft.other (by omega), x.bel.setCell (by simp) _⟩
theorem RS.set2 {w0 W : World} {k q t : Int} {s h d r : ByteArray} {wr : Bool} (x : RS w0 W k q t s h d r wr) (y : Int) : RS w0 (W.setCell ⟨w0.heap.size + 1, 2, none⟩ (.int .i64 y)) k q y s h d r wr :=
  ⟨x.res.other (by omega), x.got.set2 y, x.lft.other (by omega), x.bel.setCell (by simp) _⟩
theorem RS.set3 {w0 W : World} {k q t : Int} {s h d r : ByteArray} {wr : Bool} (x : RS w0 W k q t s h d r wr) (y : ByteArray) : RS w0 (W.setCell ⟨w0.heap.size + 1, 3, none⟩ (.string y)) k q t y h d r wr :=
  ⟨x.res.other (by omega), x.got.set3 y, x.lft.other (by omega), x.bel.setCell (by simp) _⟩
theorem RS.set4 {w0 W : World} {k q t : Int} {s h d r : ByteArray} {wr : Bool} (x : RS w0 W k q t s h d r wr) (y : ByteArray) : RS w0 (W.setCell ⟨w0.heap.size + 1, 4, none⟩ (.string y)) k q t s y d r wr :=
  ⟨x.res.other (by omega), x.got.set4 y, x.lft.other (by omega), x.bel.setCell (by simp) _⟩
theorem RS.set5 {w0 W : World} {k q t : Int} {s h d r : ByteArray} {wr : Bool} (x : RS w0 W k q t s h d r wr) (y : ByteArray) : RS w0 (W.setCell ⟨w0.heap.size + 1, 5, none⟩ (.string y)) k q t s h y r wr :=
  ⟨x.res.other (by omega), x.got.set5 y, x.lft.other (by omega), x.bel.setCell (by simp) _⟩
theorem RS.drew {w0 W : World} {k q t : Int} {s h d r : ByteArray} {wr : Bool} (x : RS w0 W k q t s h d r wr) : RS w0 W.drew k q t s h d r wr :=
  ⟨x.res.drew, x.got.drew, x.lft.next (Below.refl _ _).drew, x.bel.drew⟩
theorem rs_end {w0 W : World} {k q t : Int} {s h d r : ByteArray} {wr : Bool} {v0 v1 v2 v3 v4 v5 : Value} (x : RS w0 W k q t s h d r wr) :
    Below w0.heap.size w0 ((((((W.setCell ⟨w0.heap.size, 0, none⟩ v0).setCell ⟨w0.heap.size, 1, none⟩ v1).setCell ⟨w0.heap.size, 2, none⟩ v2).setCell ⟨w0.heap.size, 3, none⟩ v3).setCell ⟨w0.heap.size, 4, none⟩ v4).setCell ⟨w0.heap.size, 5, none⟩ v5) :=
  (((((x.bel.setCell (Nat.le_refl _) _).setCell (Nat.le_refl _) _).setCell (Nat.le_refl _) _).setCell (Nat.le_refl _) _).setCell (Nat.le_refl _) _).setCell (Nat.le_refl _) _
theorem tl_empty (s : ByteArray) : s.toList.isEmpty = decide (s.size = 0) := by
  rw [ByteArray.toList_eq, show s.size = s.data.toList.length from by simp, Bool.eq_iff_iff, List.isEmpty_iff, decide_eq_true_eq, List.length_eq_zero_iff]
theorem rs_num {w0 W : World} {k q t : Int} {s h d r : ByteArray} {wr : Bool} (x : RS w0 W k q t s h d r wr) (hr : r.size ≤ 1000000) :
    Calls Tryz.prog 168 #[.pointer (some ⟨w0.heap.size + 1 + 1, 0, none⟩)] W fun e w' => e = .returned (.int .i64 (Pk.rd r.data.toList).1) ∧ RS w0 w' k q t s h d (bs (Pk.aftN r.data.toList)) (wr || decide ((Pk.rd r.data.toList).2.2 ≠ 0)) :=
  (pnum_any (w0.heap.size + 1 + 1) (w0.heap.size + 1 + 1) r wr W (Nat.le_refl _) x.lft hr).mono fun _ _ ⟨h1, h2, h3⟩ => ⟨h1, x.call h2 h3⟩
theorem rs_text {w0 W : World} {k q t : Int} {s h d r : ByteArray} {wr : Bool} (x : RS w0 W k q t s h d r wr) (hr : r.size ≤ 1000000) :
    Calls Tryz.prog 169 #[.pointer (some ⟨w0.heap.size + 1 + 1, 0, none⟩)] W fun e w' => e = .returned (.string (bs (Pk.rt r.data.toList 1024).1)) ∧ RS w0 w' k q t s h d (bs (Pk.aftT r.data.toList)) (wr || decide ((Pk.rt r.data.toList 1024).2.2 ≠ 0)) :=
  (ptext_any (w0.heap.size + 1 + 1) (w0.heap.size + 1 + 1) r wr W (Nat.le_refl _) (Nat.le_of_lt x.lft.lt) x.lft hr).mono fun _ _ ⟨h1, h2, h3⟩ => ⟨h1, x.call h2 h3⟩
theorem aftN_len (l : List UInt8) : (Pk.aftN l).length ≤ l.length := by unfold Pk.aftN; simp
theorem aftT_len (l : List UInt8) : (Pk.aftT l).length ≤ l.length := by unfold Pk.aftT; simp

theorem recV_of (c : Nat) (K : Int) (hK : K = (c : Int)) (r0 : List UInt8) : recV (Pk.recOf c r0) = .agg #[.int .i64 K, .int .i64 ((Pk.rd r0).1 : Int), .int .i64 ((Pk.rd (Pk.aftN r0)).1 : Int), .string (bs (Pk.rt (Pk.aftN (Pk.aftN r0)) 1024).1), .string (bs (Pk.rt (Pk.aftT (Pk.aftN (Pk.aftN r0))) 1024).1), .string (bs (Pk.rt (Pk.aftT (Pk.aftT (Pk.aftN (Pk.aftN r0)))) 1024).1)] := by
  subst hK
  unfold recV Pk.recOf Pk.p1 Pk.p2 Pk.p3 Pk.p4
  simp only []
theorem okB_eq (r0 : List UInt8) : Pk.okB r0 = (!(((((false || decide ((Pk.rd r0).2.2 ≠ 0)) || decide ((Pk.rd (Pk.aftN r0)).2.2 ≠ 0)) || decide ((Pk.rt (Pk.aftN (Pk.aftN r0)) 1024).2.2 ≠ 0)) || decide ((Pk.rt (Pk.aftT (Pk.aftN (Pk.aftN r0))) 1024).2.2 ≠ 0)) || decide ((Pk.rt (Pk.aftT (Pk.aftT (Pk.aftN (Pk.aftN r0)))) 1024).2.2 ≠ 0)) && decide ((bs (Pk.aftT (Pk.aftT (Pk.aftT (Pk.aftN (Pk.aftN r0)))))).size = 0)) := by
  rw [bs_size]
  unfold Pk.okB Pk.p1 Pk.p2 Pk.p3 Pk.p4 Pk.p5
  rw [Bool.eq_iff_iff]
  simp only [Bool.and_eq_true, Bool.not_eq_true', Bool.or_eq_false_iff, decide_eq_true_eq, decide_eq_false_iff_not, ne_eq, Decidable.not_not, and_assoc, true_and]

set_option maxRecDepth 100000 in
set_option maxHeartbeats 400000 in
theorem rbody_none (w : World) :
    Calls Tryz.prog 158 #[.string ⟨#[]⟩] w fun e w' => e = .returned (.tuple #[recV Pk.none', .bool false]) ∧ Below w.heap.size w w' := by
  go_enter Tryz.func158, Tryz.ntmps158
  go_wp2_with fail
  refine bodyPost_ret (results_rec2 rfl rfl (RB.new w 0 0 0 _ _ _ _)) rfl ?_
  exact ⟨rfl, (Below.refl _ _).alloc (Nat.le_refl _) _⟩

set_option maxRecDepth 100000 in
set_option maxHeartbeats 400000 in
theorem rbody_some (x : ByteArray) (w : World) (h0 : 0 < x.size) (hs : x.size ≤ 1000000) :
    Calls Tryz.prog 158 #[.string x] w fun e w' => e = .returned (.tuple #[recV (Pk.recOf (Pk.at' x.data.toList 0) (x.data.toList.drop 1)), .bool (Pk.okB (x.data.toList.drop 1))]) ∧ Below w.heap.size w w' := by
  have hne : x.toList.isEmpty = false := by
    rw [ByteArray.toList_eq]
    have : x.data.toList.length ≠ 0 := by rw [show x.data.toList.length = x.size from by simp]; omega
    cases h : x.data.toList with
    | nil => rw [h] at this; exact absurd rfl this
    | cons a b => rfl
  have hk := hide (byte_at x h0)
  obtain ⟨r0, hr0⟩ : ∃ r0, r0 = x.data.toList.drop 1 := ⟨_, rfl⟩
  have hl0 : r0.length ≤ 1000000 := by rw [hr0]; simp; omega
  have l1 := aftN_len r0
  have l2 := aftN_len (Pk.aftN r0)
  have l3 := aftT_len (Pk.aftN (Pk.aftN r0))
  have l4 := aftT_len (Pk.aftT (Pk.aftN (Pk.aftN r0)))
  have S0 := hide (RS.new w (wrap64 ((x[0]'h0).toNat : Int)) (x.extract 1 x.size) 30 218)
  rw [cut_tail, ← hr0] at S0
  have HX := hide (cut_tail x 1)
  rw [← hr0] at HX ⊢
  clear hr0
  go_enter Tryz.func158, Tryz.ntmps158
  go_wp2_with fail
  rw [unhide HX]
  refine (rs_num (unhide S0) (by rw [bs_size]; omega)).mono ?_
  rintro e w1 ⟨rfl, S1⟩
  rw [bs_list] at S1 ⊢
  have f := S1.got.fr 1
  have c := S1.got.c1
  have S1' := hide (S1.set1 (Pk.rd r0).1)
  clear S1 S0
  go_wp2_with fail
  refine (rs_num (unhide S1') (by rw [bs_size]; omega)).mono ?_
  rintro e w2 ⟨rfl, S2⟩
  rw [bs_list] at S2 ⊢
  clear S1' f c
  have f := S2.got.fr 2
  have c := S2.got.c2
  have S2' := hide (S2.set2 (Pk.rd (Pk.aftN r0)).1)
  clear S2
  go_wp2_with fail
  refine (rs_text (unhide S2') (by rw [bs_size]; omega)).mono ?_
  rintro e w3 ⟨rfl, S3⟩
  rw [bs_list] at S3 ⊢
  clear S2' f c
  have f := S3.got.fr 3
  have c := S3.got.c3
  have S3' := hide (S3.set3 (bs (Pk.rt (Pk.aftN (Pk.aftN r0)) 1024).1))
  clear S3
  go_wp2_with fail
  refine (rs_text (unhide S3') (by rw [bs_size]; omega)).mono ?_
  rintro e w4 ⟨rfl, S4⟩
  rw [bs_list] at S4 ⊢
  clear S3' f c
  have f := S4.got.fr 4
  have c := S4.got.c4
  have S4' := hide (S4.set4 (bs (Pk.rt (Pk.aftT (Pk.aftN (Pk.aftN r0))) 1024).1))
  clear S4
  go_wp2_with fail
  refine (rs_text (unhide S4') (by rw [bs_size]; omega)).mono ?_
  rintro e w5 ⟨rfl, S5⟩
  rw [bs_list] at S5 ⊢
  clear S4' f c
  have HG := hide (okB_eq r0)
  generalize (((((false || decide ((Pk.rd r0).2.2 ≠ 0)) || decide ((Pk.rd (Pk.aftN r0)).2.2 ≠ 0)) || decide ((Pk.rt (Pk.aftN (Pk.aftN r0)) 1024).2.2 ≠ 0)) || decide ((Pk.rt (Pk.aftT (Pk.aftN (Pk.aftN r0))) 1024).2.2 ≠ 0)) || decide ((Pk.rt (Pk.aftT (Pk.aftT (Pk.aftN (Pk.aftN r0)))) 1024).2.2 ≠ 0)) = g at S5 HG
  generalize bs (Pk.aftT (Pk.aftT (Pk.aftT (Pk.aftN (Pk.aftN r0))))) = L at S5 HG
  have HK : Hid (wrap64 ((x[0]'h0).toNat : Int) = ((Pk.at' x.data.toList 0 : Nat) : Int)) := hide (by
    rw [unhide hk]
    have := Pk.at_lt x.data.toList 0
    exact IntWalk.wrap64_in _ ⟨by omega, by omega⟩)
  have HV := hide (recV_of (Pk.at' x.data.toList 0) _ (unhide HK) r0)
  generalize bs (Pk.rt (Pk.aftN (Pk.aftN r0)) 1024).1 = A at S5 HV ⊢
  generalize bs (Pk.rt (Pk.aftT (Pk.aftN (Pk.aftN r0))) 1024).1 = B at S5 HV ⊢
  generalize bs (Pk.rt (Pk.aftT (Pk.aftT (Pk.aftN (Pk.aftN r0)))) 1024).1 = D at HV ⊢
  have f := S5.got.fr 5
  have c := S5.got.c5
  have S6 := hide (S5.set5 D)
  clear S5 l1 l2 l3 l4 HX hk HK hne
  go_wp2_with fail
  generalize w5.setCell ⟨w.heap.size + 1, 5, none⟩ (.string D) = W at S6 ⊢
  clear f c
  generalize wrap64 ((x[0]'h0).toNat : Int) = KK at S6 HV ⊢
  generalize ((Pk.rd r0).1 : Int) = QQ at S6 HV ⊢
  generalize ((Pk.rd (Pk.aftN r0)).1 : Int) = TT at S6 HV ⊢
  have S7 := (unhide S6).drew
  generalize hW : W.drew = W' at S7
  obtain ⟨_, a0, a1, a2, a3, a4, a5, _⟩ := (unhide S6).got
  obtain ⟨_, p0, p1, _, _⟩ := (unhide S6).lft
  obtain ⟨_, b0, b1, b2, b3, b4, b5, _⟩ := S7.got
  obtain ⟨_, r0', r1', r2', r3', r4', r5', rf⟩ := S7.res
  obtain ⟨_, q0, q1, _, _⟩ := S7.lft
  have g0 := rf 0
  have g1 := rf 1
  have g2 := rf 2
  have g3 := rf 3
  have g4 := rf 4
  have g5 := rf 5
  have HS := hide S7
  clear rf S7 S6
  have n1 : ¬ w.heap.size + 1 + 1 = w.heap.size := by omega
  have n2 : ¬ w.heap.size = w.heap.size + 1 + 1 := by omega
  cases g with
  | true =>
    have hok : Pk.okB r0 = false := by rw [unhide HG]; rfl
    have HO := hide hok
    clear HG a0 a1 a2 a3 a4 a5 p0 p1 hok
    go_region
    go_wp2_with fail
    refine bodyPost_ret (results_rec2 rfl rfl (((((((unhide HS).res.set0 KK).set1 QQ).set2 TT).set3 A).set4 B).set5 D)) rfl ?_
    exact ⟨by rw [unhide HV, unhide HO]; rfl, rs_end (unhide HS)⟩
  | false =>
    cases hL : L.toList.isEmpty with
    | true =>
      have hok : Pk.okB r0 = true := by rw [unhide HG, show decide (L.size = 0) = L.toList.isEmpty from (tl_empty L).symm, hL]; rfl
      have HO := hide hok
      clear HG a0 a1 a2 a3 a4 a5 p0 p1 hok
      go_region
      go_wp2_with fail
      refine bodyPost_ret (results_rec2 rfl rfl (((((((unhide HS).res.set0 KK).set1 QQ).set2 TT).set3 A).set4 B).set5 D)) rfl ?_
      exact ⟨by rw [unhide HV, unhide HO]; rfl, rs_end (unhide HS)⟩
    | false =>
      have hok : Pk.okB r0 = false := by rw [unhide HG, show decide (L.size = 0) = L.toList.isEmpty from (tl_empty L).symm, hL]; rfl
      have HO := hide hok
      clear HG a0 a1 a2 a3 a4 a5 p0 p1 hok
      go_region
      go_wp2_with fail
      refine bodyPost_ret (results_rec2 rfl rfl (((((((unhide HS).res.set0 KK).set1 QQ).set2 TT).set3 A).set4 B).set5 D)) rfl ?_
      exact ⟨by rw [unhide HV, unhide HO]; rfl, rs_end (unhide HS)⟩
end Go.Proofs.YtohjipnkoiifhagGreatDoor
