/-
  Contracts of the parts of a body: a number, a text, and what is left behind them.
-/
import Derived.Test.YtmbnmljkioikjaaDoorWalkN4
import Derived.Test.YtmbnmljkioikjaaDoorWalkC1
namespace Go.Proofs.YtmbnmljkioikjaaDoor
open Go.RowKit

/-- what is left of a body, and whether a part was none, in a block that may be written -/
structure PT (w : World) (b : Nat) (r : ByteArray) (wr : Bool) : Prop where
  lt : b < w.heap.size
  c0 : w.cell? ⟨b, 0, none⟩ = some (.string r)
  c1 : w.cell? ⟨b, 1, none⟩ = some (.bool wr)
  f0 : w.frozen? ⟨b, 0, none⟩ = false
  f1 : w.frozen? ⟨b, 1, none⟩ = false

theorem PT.next {w w' : World} {b : Nat} {r : ByteArray} {wr : Bool} (h : PT w b r wr) (hb : Below w.heap.size w w') : PT w' b r wr :=
  ⟨Nat.lt_of_lt_of_le h.lt hb.size, by rw [hb.cell (p := ⟨b, 0, none⟩) h.lt]; exact h.c0, by rw [hb.cell (p := ⟨b, 1, none⟩) h.lt]; exact h.c1, by rw [hb.frozen (p := ⟨b, 0, none⟩) h.lt]; exact h.f0, by rw [hb.frozen (p := ⟨b, 1, none⟩) h.lt]; exact h.f1⟩
theorem cell_other' (w : World) (p q : Addr) (v : Value) (h : p ≠ q) : (w.setCell p v).cell? q = w.cell? q := by
  first | exact World.cell?_setCell_other _ _ _ _ h | exact World.cell?_setCell_other h
theorem PT.set {w : World} {b : Nat} {r : ByteArray} {wr : Bool} (h : PT w b r wr) (r' : ByteArray) (wr' : Bool) : PT ((w.setCell ⟨b, 0, none⟩ (.string r')).setCell ⟨b, 1, none⟩ (.bool wr')) b r' wr' := by
  have e1 : (w.setCell ⟨b, 0, none⟩ (.string r')).cell? ⟨b, 1, none⟩ = some (.bool wr) := by
    rw [cell_other' _ _ _ _ (by intro q; injection q; omega)]; exact h.c1
  refine ⟨by simpa using h.lt, ?_, ?_, by simpa using h.f0, by simpa using h.f1⟩
  · rw [cell_other' _ _ _ _ (by intro q; injection q; omega)]
    exact World.cell?_setCell_same' _ _ _ (by rw [h.c0]; rfl)
  · exact World.cell?_setCell_same' _ _ _ (by rw [e1]; rfl)

set_option maxRecDepth 100000 in
set_option maxHeartbeats 400000 in
theorem goon_any (B b : Nat) (r : ByteArray) (wr : Bool) (K E : Nat) (w : World) (hB : B ≤ b) (h : PT w b r wr) (_hr : r.size ≤ 1000000) (hK : K ≤ r.size) :
    Calls Tryd.prog 89 #[.pointer (some ⟨b, 0, none⟩), .int .i64 K, .int .i64 E] w fun e w' => (∃ v, e = .returned v) ∧ PT w' b (r.extract K r.size) (wr || ((E : Int) != 0)) ∧ Below B w w' := by
  have H := hide h
  obtain ⟨hlt, c0, c1, f0, f1⟩ := h
  cases wr with
  | true =>
    go_enter Tryd.func89, Tryd.ntmps89
    go_wp2_with fail
    go_end0
    exact ⟨⟨_, rfl⟩, (unhide H).set _ _, ((Below.refl _ _).setCell hB _).setCell hB _⟩
  | false =>
    go_enter Tryd.func89, Tryd.ntmps89
    go_wp2_with fail
    go_end0
    exact ⟨⟨_, rfl⟩, (unhide H).set _ _, ((Below.refl _ _).setCell hB _).setCell hB _⟩

theorem cut_tail (s : ByteArray) (k : Nat) : s.extract k s.size = bs (s.data.toList.drop k) := by
  apply ByteArray.ext
  apply Array.toList_inj.1
  simp only [bs, ByteArray.data_extract, Array.toList_extract, List.extract_eq_take_drop]
  rw [List.take_of_length_le (by simp)]
theorem rd_took (l : List UInt8) : (Pk.rd l).2.1 ≤ l.length := by
  by_cases h : (Pk.rd l).2.2 = 0
  · exact (Pk.rd_good h).2.1
  · rw [(Pk.rd_bad h).2]; exact Nat.zero_le _
theorem rt_bad {l : List UInt8} {m : Int} (h : (Pk.rt l m).2.2 ≠ 0) : (Pk.rt l m).1 = [] ∧ (Pk.rt l m).2.1 = 0 := by
  unfold Pk.rt at h ⊢
  split
  · exact ⟨rfl, rfl⟩
  rename_i h1
  rw [if_neg h1] at h
  split
  · exact ⟨rfl, rfl⟩
  rename_i h2
  rw [if_neg h2] at h
  split
  · exact ⟨rfl, rfl⟩
  rename_i h3
  rw [if_neg h3] at h
  exact absurd rfl h
theorem rt_took (l : List UInt8) : (Pk.rt l 1024).2.1 ≤ l.length := by
  by_cases h : (Pk.rt l 1024).2.2 = 0
  · exact (Pk.rt_one (l := l) (most := 1024) (x := (Pk.rt l 1024).1) (n := (Pk.rt l 1024).2.1) (by rw [← h])).2.1
  · rw [(rt_bad h).2]; exact Nat.zero_le _
theorem or_ne {wr : Bool} {E : Nat} : (wr || ((E : Int) != 0)) = (wr || decide (E ≠ 0)) := by
  congr 1
  rw [Bool.eq_iff_iff]; simp

set_option maxRecDepth 100000 in
set_option maxHeartbeats 400000 in
theorem pnum_any (B b : Nat) (r : ByteArray) (wr : Bool) (w : World) (hB : B ≤ b) (h : PT w b r wr) (hr : r.size ≤ 1000000) :
    Calls Tryd.prog 80 #[.pointer (some ⟨b, 0, none⟩)] w fun e w' => e = .returned (.int .i64 (Pk.rd r.data.toList).1) ∧ PT w' b (bs (Pk.aftN r.data.toList)) (wr || decide ((Pk.rd r.data.toList).2.2 ≠ 0)) ∧ Below B w w' := by
  have hK0 := rd_took r.data.toList
  have hx := hide (cut_tail r (Pk.rd r.data.toList).2.1)
  unfold Pk.aftN
  obtain ⟨N, K, E, hrd⟩ : ∃ N K E, Pk.rd r.data.toList = (N, K, E) := ⟨_, _, _, rfl⟩
  have hv : numV r.data.toList = .tuple #[.int .i64 N, .int .i64 K, .int .i64 E] := by unfold numV; rw [hrd]
  rw [hrd] at hx hK0 ⊢
  have hK : K ≤ r.size := by simpa using hK0
  have H := hide h
  obtain ⟨hlt, c0, c1, f0, f1⟩ := h
  clear hrd hK0
  go_enter Tryd.func80, Tryd.ntmps80
  go_wp2_with fail
  refine (readn_any r _ (by omega)).mono ?_
  rintro e w1 ⟨rfl, rfl⟩
  rw [hv]
  go_wp2_with fail
  refine (goon_any B b r wr K E _ hB (unhide H) hr hK).mono ?_
  rintro e w2 ⟨⟨v, rfl⟩, p2, b2⟩
  go_wp2_with fail
  go_ret
  rw [unhide hx, or_ne] at p2
  exact ⟨rfl, p2, b2⟩

set_option maxRecDepth 100000 in
set_option maxHeartbeats 400000 in
theorem ptext_any (B b : Nat) (r : ByteArray) (wr : Bool) (w : World) (hB : B ≤ b) (hB2 : B ≤ w.heap.size) (h : PT w b r wr) (hr : r.size ≤ 1000000) :
    Calls Tryd.prog 81 #[.pointer (some ⟨b, 0, none⟩)] w fun e w' => e = .returned (.string (bs (Pk.rt r.data.toList 1024).1)) ∧ PT w' b (bs (Pk.aftT r.data.toList)) (wr || decide ((Pk.rt r.data.toList 1024).2.2 ≠ 0)) ∧ Below B w w' := by
  have hK0 := rt_took r.data.toList
  have hx := hide (cut_tail r (Pk.rt r.data.toList 1024).2.1)
  unfold Pk.aftT
  obtain ⟨N, K, E, hrd⟩ : ∃ N K E, Pk.rt r.data.toList 1024 = (N, K, E) := ⟨_, _, _, rfl⟩
  have hv : textV r.data.toList 1024 = .tuple #[.string (bs N), .int .i64 K, .int .i64 E] := by unfold textV; rw [hrd]
  rw [hrd] at hx hK0 ⊢
  have hK : K ≤ r.size := by simpa using hK0
  have H := hide h
  obtain ⟨hlt, c0, c1, f0, f1⟩ := h
  clear hrd hK0
  go_enter Tryd.func81, Tryd.ntmps81
  go_wp2_with fail
  refine (readt_any r _ _ (by omega)).mono ?_
  rintro e w1 ⟨rfl, b1⟩
  have H1 := hide ((unhide H).next b1)
  clear c0 c1 f0 f1
  rw [hv]
  go_wp2_with fail
  refine (goon_any B b r wr K E _ hB (unhide H1) hr hK).mono ?_
  rintro e w2 ⟨⟨v, rfl⟩, p2, b2⟩
  go_wp2_with fail
  go_ret
  rw [unhide hx, or_ne] at p2
  exact ⟨rfl, p2, (b1.mono hB2).trans b2⟩
end Go.Proofs.YtmbnmljkioikjaaDoor
