/-
  Contract of strings.Clone.
  Contract of pack.ReadText.
  Contracts of the parts of a body: a number, a text, and what is left behind them.
  A record that is handed back: its six cells are read as one value.
-/
import Derived.Test.YtmccpkpeimejhahGreatDoorJointBase0RowTmPlainPapPa
import Derived.Test.YtmccpkpeimejhahGreatDoorShelfC
import Derived.Test.YtmccpkpeimejhahGreatDoorJointWalkN2WalkN3RowBWalkC1
import Derived.Laws.Rows
namespace Go.Proofs.YtmccpkpeimejhahGreatDoor
open Go.RowKit

theorem clone_any (s : ByteArray) (w : World) (hs : s.size ≤ 281474976710656) :
    Calls Tryz.prog 32 #[.string s] w fun e w' => e = .returned (.string s) ∧ Below w.heap.size w w' := by
  go_enter Tryz.func32, Tryz.ntmps32
  go_wp2_with fail
  refine (Tryz.stringslite_Clone s _ hs).mono ?_
  rintro e w1 ⟨rfl, b1⟩
  go_wp2_with fail
  go_ret
  exact ⟨rfl, b1⟩
end Go.Proofs.YtmccpkpeimejhahGreatDoor

namespace Go.Proofs.YtmccpkpeimejhahGreatDoor
open Go.RowKit

/-- what a reading of a text answers -/
def textV (l : List UInt8) (most : Int) : Value := .tuple #[.string (bs (Pk.rt l most).1), .int .i64 (Pk.rt l most).2.1, .int .i64 (Pk.rt l most).2.2]
theorem ret_text {l : List UInt8} {most : Int} {r : List UInt8 × Nat × Nat} {v : Value} (h : Pk.rt l most = r) (hv : v = .tuple #[.string (bs r.1), .int .i64 r.2.1, .int .i64 r.2.2]) : Ending.returned v = .returned (textV l most) := by
  unfold textV; rw [h, hv]
theorem rt_err {l : List UInt8} {most : Int} {N K E : Nat} (h : Pk.rd l = (N, K, E)) (hE : E ≠ 0) : Pk.rt l most = ([], 0, E) := by
  unfold Pk.rt; rw [h]; simp only []; rw [if_pos hE]
theorem rt_large {l : List UInt8} {most : Int} {N K : Nat} (h : Pk.rd l = (N, K, 0)) (h1 : most < N) : Pk.rt l most = ([], 0, 7) := by
  unfold Pk.rt; rw [h]; simp only []; rw [if_neg (by simp), if_pos h1]
theorem rt_more {l : List UInt8} {most : Int} {N K : Nat} (h : Pk.rd l = (N, K, 0)) (h1 : ¬ most < N) (h2 : l.length < K + N) : Pk.rt l most = ([], 0, 6) := by
  unfold Pk.rt; rw [h]; simp only []; rw [if_neg (by simp), if_neg h1, if_pos h2]
theorem rt_good {l : List UInt8} {most : Int} {N K : Nat} (h : Pk.rd l = (N, K, 0)) (h1 : ¬ most < N) (h2 : ¬ l.length < K + N) : Pk.rt l most = ((l.drop K).take N, K + N, 0) := by
  unfold Pk.rt; rw [h]; simp only []; rw [if_neg (by simp), if_neg h1, if_neg h2]
theorem cut_list (s : ByteArray) (a n : Nat) : s.extract a (a + n) = bs ((s.data.toList.drop a).take n) := by
  apply ByteArray.ext
  apply Array.toList_inj.1
  simp [bs, List.extract_eq_take_drop]

set_option maxHeartbeats 1000000 in
theorem readt_any (s : ByteArray) (most : Int) (w : World) (hs : s.size ≤ 281474976710656) :
    Calls Tryz.prog 144 #[.string s, .int .i64 most] w fun e w' => e = .returned (textV s.data.toList most) ∧ Below w.heap.size w w' := by
  obtain ⟨N, K, E, hr⟩ : ∃ N K E, Pk.rd s.data.toList = (N, K, E) := ⟨_, _, _, rfl⟩
  have hv : numV s.data.toList = .tuple #[.int .i64 N, .int .i64 K, .int .i64 E] := by unfold numV; rw [hr]
  by_cases hE : E = 0
  · subst hE
    have hg := Pk.rd_good (l := s.data.toList) (by rw [hr])
    rw [hr] at hg
    obtain ⟨-, hK, hN, -, hK9⟩ := hg
    simp only [] at hK hN hK9
    have hK' : K ≤ s.size := by simpa using hK
    clear hK
    by_cases h1 : most < N
    · have R := hide (rt_large hr h1)
      clear hr
      go_enter Tryz.func144, Tryz.ntmps144
      go_wp2_with fail
      refine (readn_any s _ (by omega)).mono ?_
      rintro e w1 ⟨rfl, rfl⟩
      rw [hv]
      go_wp2_with fail
      go_ret3
      exact ⟨ret_text (unhide R) rfl, Below.refl _ _⟩
    · by_cases h2 : s.size < K + N
      · have R := hide (rt_more hr h1 (by simpa using h2))
        clear hr
        go_enter Tryz.func144, Tryz.ntmps144
        go_wp2_with fail
        refine (readn_any s _ (by omega)).mono ?_
        rintro e w1 ⟨rfl, rfl⟩
        rw [hv]
        go_wp2_with fail
        go_ret3
        exact ⟨ret_text (unhide R) rfl, Below.refl _ _⟩
      · have R := hide (rt_good hr h1 (by simpa using h2))
        have hx := hide (cut_list s K N)
        clear hr
        go_enter Tryz.func144, Tryz.ntmps144
        go_wp2_with fail
        refine (readn_any s _ (by omega)).mono ?_
        rintro e w1 ⟨rfl, rfl⟩
        rw [hv]
        go_wp2_with fail
        refine (clone_any _ _ (by rw [unhide hx, bs_size]; simp; omega)).mono ?_
        rintro e w2 ⟨rfl, b2⟩
        go_wp2_with fail
        go_ret3
        exact ⟨ret_text (unhide R) (by rw [← unhide hx]; rfl), b2⟩
  · have R := hide (rt_err (most := most) hr hE)
    have hE' : ((E : Int) != 0) = true := by simp [hE]
    have hE2 : ¬ ((E : Int) = 0) := by omega
    clear hr hE
    go_enter Tryz.func144, Tryz.ntmps144
    go_wp2_with fail
    refine (readn_any s _ (by omega)).mono ?_
    rintro e w1 ⟨rfl, rfl⟩
    rw [hv]
    go_wp2_with fail
    go_ret3
    exact ⟨ret_text (unhide R) rfl, Below.refl _ _⟩
end Go.Proofs.YtmccpkpeimejhahGreatDoor

namespace Go.Proofs.YtmccpkpeimejhahGreatDoor
open Go.RowKit

/-- what is left of a body, and whether a part was none, in a block that may be written -/
structure PT (w : World) (b : Nat) (r : ByteArray) (wr : Bool) : Prop where
  lt : b < w.heap.size
  c0 : w.cell? ⟨b, 0, none⟩ = some (.string r)
  c1 : w.cell? ⟨b, 1, none⟩ = some (.bool wr)
  f0 : w.frozen? ⟨b, 0, none⟩ = false
  f1 : w.frozen? ⟨b, 1, none⟩ = false

theorem PT.next {w w' : World} {b : Nat} {r : ByteArray} {wr : Bool} (h : PT w b r wr) (hb : Below w.heap.size w w') : PT w' b r wr :=
  ⟨Nat.lt_of_lt_of_le h.lt hb.size, by rw [hb.cell (p := ⟨b, 0, none⟩) h.lt]; exact h.c0, by rw [hb.cell (p := ⟨b, 1, none⟩) h.lt]; exact h.c1, by rw [hb.frozen (p := ⟨b, 0, none⟩) h.lt]; exact h.f0, by rw [hb.frozen (p := ⟨b, 1, none⟩) h.lt]; exact h.f1⟩
theorem PT.set {w : World} {b : Nat} {r : ByteArray} {wr : Bool} (h : PT w b r wr) (r' : ByteArray) (wr' : Bool) : PT ((w.setCell ⟨b, 0, none⟩ (.string r')).setCell ⟨b, 1, none⟩ (.bool wr')) b r' wr' := by
  have e1 : (w.setCell ⟨b, 0, none⟩ (.string r')).cell? ⟨b, 1, none⟩ = some (.bool wr) := by
    rw [cell_other' _ _ _ _ (by intro q; injection q; omega)]; exact h.c1
  refine ⟨by simpa using h.lt, ?_, ?_, by simpa using h.f0, by simpa using h.f1⟩
  · rw [cell_other' _ _ _ _ (by intro q; injection q; omega)]
    exact World.cell?_setCell_same' _ _ _ (by rw [h.c0]; rfl)
  · exact World.cell?_setCell_same' _ _ _ (by rw [e1]; rfl)

set_option maxRecDepth 100000 in
set_option maxHeartbeats 400000 in
theorem goon_any (B b : Nat) (r : ByteArray) (wr : Bool) (K E : Nat) (w : World) (hB : B ≤ b) (h : PT w b r wr) (_hr : r.size ≤ 1000000) (hK : K ≤ r.size) :
    Calls Tryz.prog 183 #[.pointer (some ⟨b, 0, none⟩), .int .i64 K, .int .i64 E] w fun e w' => (∃ v, e = .returned v) ∧ PT w' b (r.extract K r.size) (wr || ((E : Int) != 0)) ∧ Below B w w' := by
  have H := hide h
  obtain ⟨hlt, c0, c1, f0, f1⟩ := h
  cases wr with
  | true =>
    go_enter Tryz.func183, Tryz.ntmps183
    go_wp2_with fail
    go_end0
    exact ⟨⟨_, rfl⟩, (unhide H).set _ _, ((Below.refl _ _).setCell hB _).setCell hB _⟩
  | false =>
    go_enter Tryz.func183, Tryz.ntmps183
    go_wp2_with fail
    go_end0
    exact ⟨⟨_, rfl⟩, (unhide H).set _ _, ((Below.refl _ _).setCell hB _).setCell hB _⟩

theorem cut_tail (s : ByteArray) (k : Nat) : s.extract k s.size = bs (s.data.toList.drop k) := by
  apply ByteArray.ext
  apply Array.toList_inj.1
  simp only [bs, ByteArray.data_extract, Array.toList_extract, List.extract_eq_take_drop]
  rw [List.take_of_length_le (by simp)]
theorem rd_took (l : List UInt8) : (Pk.rd l).2.1 ≤ l.length := by
  by_cases h : (Pk.rd l).2.2 = 0
  · exact (Pk.rd_good h).2.1
  · rw [(Pk.rd_bad h).2]; exact Nat.zero_le _
theorem rt_bad {l : List UInt8} {m : Int} (h : (Pk.rt l m).2.2 ≠ 0) : (Pk.rt l m).1 = [] ∧ (Pk.rt l m).2.1 = 0 := by
  unfold Pk.rt at h ⊢
  split
  · exact ⟨rfl, rfl⟩
  rename_i h1
  rw [if_neg h1] at h
  split
  · exact ⟨rfl, rfl⟩
  rename_i h2
  rw [if_neg h2] at h
  split
  · exact ⟨rfl, rfl⟩
  rename_i h3
  rw [if_neg h3] at h
  exact absurd rfl h
theorem rt_took (l : List UInt8) : (Pk.rt l 1024).2.1 ≤ l.length := by
  by_cases h : (Pk.rt l 1024).2.2 = 0
  · exact (Pk.rt_one (l := l) (most := 1024) (x := (Pk.rt l 1024).1) (n := (Pk.rt l 1024).2.1) (by rw [← h])).2.1
  · rw [(rt_bad h).2]; exact Nat.zero_le _
theorem or_ne {wr : Bool} {E : Nat} : (wr || ((E : Int) != 0)) = (wr || decide (E ≠ 0)) := by
  congr 1
  rw [Bool.eq_iff_iff]; simp

set_option maxRecDepth 100000 in
set_option maxHeartbeats 400000 in
theorem pnum_any (B b : Nat) (r : ByteArray) (wr : Bool) (w : World) (hB : B ≤ b) (h : PT w b r wr) (hr : r.size ≤ 1000000) :
    Calls Tryz.prog 164 #[.pointer (some ⟨b, 0, none⟩)] w fun e w' => e = .returned (.int .i64 (Pk.rd r.data.toList).1) ∧ PT w' b (bs (Pk.aftN r.data.toList)) (wr || decide ((Pk.rd r.data.toList).2.2 ≠ 0)) ∧ Below B w w' := by
  have hK0 := rd_took r.data.toList
  have hx := hide (cut_tail r (Pk.rd r.data.toList).2.1)
  unfold Pk.aftN
  obtain ⟨N, K, E, hrd⟩ : ∃ N K E, Pk.rd r.data.toList = (N, K, E) := ⟨_, _, _, rfl⟩
  have hv : numV r.data.toList = .tuple #[.int .i64 N, .int .i64 K, .int .i64 E] := by unfold numV; rw [hrd]
  rw [hrd] at hx hK0 ⊢
  have hK : K ≤ r.size := by simpa using hK0
  have H := hide h
  obtain ⟨hlt, c0, c1, f0, f1⟩ := h
  clear hrd hK0
  go_enter Tryz.func164, Tryz.ntmps164
  go_wp2_with fail
  refine (readn_any r _ (by omega)).mono ?_
  rintro e w1 ⟨rfl, rfl⟩
  rw [hv]
  go_wp2_with fail
  refine (goon_any B b r wr K E _ hB (unhide H) hr hK).mono ?_
  rintro e w2 ⟨⟨v, rfl⟩, p2, b2⟩
  go_wp2_with fail
  go_ret
  rw [unhide hx, or_ne] at p2
  exact ⟨rfl, p2, b2⟩

set_option maxRecDepth 100000 in
set_option maxHeartbeats 400000 in
theorem ptext_any (B b : Nat) (r : ByteArray) (wr : Bool) (w : World) (hB : B ≤ b) (hB2 : B ≤ w.heap.size) (h : PT w b r wr) (hr : r.size ≤ 1000000) :
    Calls Tryz.prog 165 #[.pointer (some ⟨b, 0, none⟩)] w fun e w' => e = .returned (.string (bs (Pk.rt r.data.toList 1024).1)) ∧ PT w' b (bs (Pk.aftT r.data.toList)) (wr || decide ((Pk.rt r.data.toList 1024).2.2 ≠ 0)) ∧ Below B w w' := by
  have hK0 := rt_took r.data.toList
  have hx := hide (cut_tail r (Pk.rt r.data.toList 1024).2.1)
  unfold Pk.aftT
  obtain ⟨N, K, E, hrd⟩ : ∃ N K E, Pk.rt r.data.toList 1024 = (N, K, E) := ⟨_, _, _, rfl⟩
  have hv : textV r.data.toList 1024 = .tuple #[.string (bs N), .int .i64 K, .int .i64 E] := by unfold textV; rw [hrd]
  rw [hrd] at hx hK0 ⊢
  have hK : K ≤ r.size := by simpa using hK0
  have H := hide h
  obtain ⟨hlt, c0, c1, f0, f1⟩ := h
  clear hrd hK0
  go_enter Tryz.func165, Tryz.ntmps165
  go_wp2_with fail
  refine (readt_any r _ _ (by omega)).mono ?_
  rintro e w1 ⟨rfl, b1⟩
  have H1 := hide ((unhide H).next b1)
  clear c0 c1 f0 f1
  rw [hv]
  go_wp2_with fail
  refine (goon_any B b r wr K E _ hB (unhide H1) hr hK).mono ?_
  rintro e w2 ⟨⟨v, rfl⟩, p2, b2⟩
  go_wp2_with fail
  go_ret
  rw [unhide hx, or_ne] at p2
  exact ⟨rfl, p2, (b1.mono hB2).trans b2⟩
end Go.Proofs.YtmccpkpeimejhahGreatDoor

namespace Go.Proofs.YtmccpkpeimejhahGreatDoor
open Go.RowKit

def recV (r : Pk.Rec) : Value := .agg #[.int .i64 r.k, .int .i64 r.q, .int .i64 r.t, .string (bs r.s), .string (bs r.h), .string (bs r.d)]
theorem load_rec {w : World} {b : Nat} {k q t : Int} {s h d : ByteArray} (r : RB w b k q t s h d) :
    (loadVar 42 ⟨b, 0, none⟩).run Tryz.prog w = .ok (.agg #[.int .i64 k, .int .i64 q, .int .i64 t, .string s, .string h, .string d]) w := by
  have hl : (loadCells ⟨b, 0, none⟩ 6).run Tryz.prog w = .ok #[.int .i64 k, .int .i64 q, .int .i64 t, .string s, .string h, .string d] w :=
    run_loadCells_list (P := Tryz.prog) w ⟨b, 0, none⟩ [.int .i64 k, .int .i64 q, .int .i64 t, .string s, .string h, .string d] (fun j v hv => by
      rw [addp, Nat.zero_add]
      match j, hv with
      | 0, hv => rw [r.c0]; simpa using hv
      | 1, hv => rw [r.c1]; simpa using hv
      | 2, hv => rw [r.c2]; simpa using hv
      | 3, hv => rw [r.c3]; simpa using hv
      | 4, hv => rw [r.c4]; simpa using hv
      | 5, hv => rw [r.c5]; simpa using hv)
  have hz : Tryz.t42.size = 6 := by kernel_rfl
  simp [loadVar, isAgg, sizeOf]
  rw [hz, hl]
  rfl
theorem results_rec2 {fn : Func} {a u : Tmp} {tmps : Array Value} {w : World} {b : Nat} {k q t : Int} {s h d : ByteArray} (hf : fn.results = #[.cell a 42, .tmp u]) (ha : tmps.getD a undef = .pointer (some ⟨b, 0, none⟩)) (r : RB w b k q t s h d) :
    (results fn tmps).run Tryz.prog w = .ok (.tuple #[.agg #[.int .i64 k, .int .i64 q, .int .i64 t, .string s, .string h, .string d], tmps.getD u undef]) w := by
  have ha' : tmps[a]?.getD undef = .pointer (some ⟨b, 0, none⟩) := by simpa using ha
  simp [results, hf, ha', asAddr, load_rec r]
theorem results_rec3 {fn : Func} {a u v : Tmp} {tmps : Array Value} {w : World} {b : Nat} {k q t : Int} {s h d : ByteArray} (hf : fn.results = #[.cell a 42, .tmp u, .tmp v]) (ha : tmps.getD a undef = .pointer (some ⟨b, 0, none⟩)) (r : RB w b k q t s h d) :
    (results fn tmps).run Tryz.prog w = .ok (.tuple #[.agg #[.int .i64 k, .int .i64 q, .int .i64 t, .string s, .string h, .string d], tmps.getD u undef, tmps.getD v undef]) w := by
  have ha' : tmps[a]?.getD undef = .pointer (some ⟨b, 0, none⟩) := by simpa using ha
  simp [results, hf, ha', asAddr, load_rec r]
end Go.Proofs.YtmccpkpeimejhahGreatDoor
