/-
  The program's store: where a number is (cmp.Compare at numbers, slices.BinarySearchFunc at records, place).
  The program's store: copies of records, counts of subjects, what a filter takes.
-/
import Derived.Test.YtphhebdmfdjfeagGreatDoorJointRowXRowY
import Derived.Test.YtphhebdmfdjfeagGreatDoorJointPapDPapLPapMPapGPapN
import Derived.Test.YtphhebdmfdjfeagGreatDoorJointWalkC3WalkC6
import Derived.Test.YtphhebdmfdjfeagGreatDoorJointWalk5aPlainK
namespace Go.Proofs.YtphhebdmfdjfeagGreatDoor.Dk
open Go.RowKit

set_option maxHeartbeats 400000 in
theorem nanI_any (x : Int) (w : World) :
    Calls Tryz.prog 99 #[.int .i64 x] w fun e w' => e = .returned (.bool false) ∧ w' = w := by
  go_enter Tryz.func99, Tryz.ntmps99
  go_wp2
  go_ret
  exact ⟨ret_bool (by simp), rfl⟩
def cmpI (x y : Int) : Int := if x < y then -1 else if y < x then 1 else 0
set_option maxHeartbeats 400000 in
theorem cmpI_any (x y : Int) (w : World) :
    Calls Tryz.prog 77 #[.int .i64 x, .int .i64 y] w fun e w' => e = .returned (.int .i64 (cmpI x y)) ∧ w' = w := by
  by_cases h1 : x < y
  · have Hr := hide (show cmpI x y = -1 from if_pos h1)
    go_enter Tryz.func77, Tryz.ntmps77
    go_wp2_with (first | (go_at_call 99; refine (nanI_any _ _).mono ?_; rintro e w' ⟨rfl, rfl⟩))
    go_ret
    exact ⟨ret_eq (unhide Hr), rfl⟩
  · by_cases h2 : y < x
    · have Hr := hide (show cmpI x y = 1 by unfold cmpI; rw [if_neg h1, if_pos h2])
      go_enter Tryz.func77, Tryz.ntmps77
      go_wp2_with (first | (go_at_call 99; refine (nanI_any _ _).mono ?_; rintro e w' ⟨rfl, rfl⟩))
      go_ret
      exact ⟨ret_eq (unhide Hr), rfl⟩
    · have Hr := hide (show cmpI x y = 0 by unfold cmpI; rw [if_neg h1, if_neg h2])
      go_enter Tryz.func77, Tryz.ntmps77
      go_wp2_with (first | (go_at_call 99; refine (nanI_any _ _).mono ?_; rintro e w' ⟨rfl, rfl⟩))
      go_ret
      exact ⟨ret_eq (unhide Hr), rfl⟩

set_option maxHeartbeats 400000 in
theorem place1_any (r : Rc) (n : Int) (w : World) :
    Calls Tryz.prog 76 #[.agg #[.int .i64 r.k, .int .i64 r.q, .int .i64 r.t, .string r.s, .string r.h, .string r.d], .int .i64 n] w fun e w' => e = .returned (.int .i64 (cmpI r.q n)) ∧ Below w.heap.size w w' := by
  go_enter Tryz.func76, Tryz.ntmps76
  go_wp2_with fail
  refine (cmpI_any _ n _).mono ?_
  rintro e w1 ⟨rfl, rfl⟩
  go_wp2_with fail
  go_ret
  exact ⟨rfl, (Below.refl _ _).alloc (Nat.le_refl _) _⟩
theorem cmpI_lt (x y : Int) : cmpI x y < 0 ↔ x < y := by
  unfold cmpI
  split
  · omega
  · split <;> omega
theorem cmpI_eq (x y : Int) : cmpI x y = 0 ↔ x = y := by
  unfold cmpI
  split
  · omega
  · split <;> omega

set_option maxHeartbeats 2000000 in
theorem searchR_any (a : Option Addr) (cap : Nat) (l : List Rc) (n : Int) (w : World) (hsl : SlR w a l) (hord : RiseQ l) (h200 : l.length ≤ 200) :
    Calls Tryz.prog 75 #[.slice a l.length cap, .int .i64 n, .func (.func 76) #[] #[]] w fun e w' => e = .returned (.tuple #[.int .i64 (pq l n), .bool (seqB l n)]) ∧ Below w.heap.size w w' := by
  have Hord := hide hord
  clear hord
  go_enter Tryz.func75, Tryz.ntmps75
  go_wp2
  go_loopw [9, 10] (fun iv jv wr => ∃ (i j : Nat), iv = .int .i64 i ∧ jv = .int .i64 j ∧ i ≤ j ∧ j ≤ l.length ∧ Hid (∀ k, k < i → (rc l k).q < n) ∧ Hid (∀ k, j ≤ k → k < l.length → n ≤ (rc l k).q) ∧ Hid (SlR wr a l) ∧ Below w.heap.size w wr) (fun iv jv _ => (intOf jv).toNat - (intOf iv).toNat)
  case atStart => exact ⟨0, l.length, rfl, rfl, Nat.zero_le _, Nat.le_refl _, hide (fun k hk => absurd hk (Nat.not_lt_zero k)), hide (fun k h1 h2 => by omega), hide hsl, Below.refl _ _⟩
  case round =>
    obtain ⟨i, j, rfl, rfl, hij, hj, hlo, hhi, hsl2, hb⟩ := hrel
    by_cases hlt : i < j
    · obtain ⟨h, hh⟩ : ∃ h : Nat, h = (i + j) / 2 := ⟨_, rfl⟩
      have hh1 : i ≤ h ∧ h < j := by omega
      obtain ⟨g, o, rfl, s6⟩ := unhide hsl2 h (by omega)
      have hmid : ((i : Int) + (j : Int)) / 2 = (h : Int) := by omega
      clear hh
      have H := hide (place1_any (rc l h) n wr)
      obtain ⟨_, x0, x1, x2, x3, x4, x5⟩ := s6
      by_cases he : (rc l h).q < n
      · have hz : cmpI (rc l h).q n < 0 := (cmpI_lt _ _).2 he
        have He := hide he
        clear he
        go_wp2_with fail
        refine (unhide H).mono ?_
        rintro e w1 ⟨rfl, hb1⟩
        clear x0 x1 x2 x3 x4 x5
        go_wp2_with fail
        refine ⟨⟨h + 1, j, by go_num, rfl, by omega, hj, hide (fun k hk => ?_), hhi, hide ((unhide hsl2).below hb1), bstep hb hb1⟩, ?_⟩
        · rcases Nat.lt_succ_iff_lt_or_eq.1 hk with q | q
          · have := rise_lt (unhide Hord) q (by omega); have := unhide He; omega
          · rw [q]; exact unhide He
        · simp [intOf]; omega
      · have hz : ¬ cmpI (rc l h).q n < 0 := fun z => he ((cmpI_lt _ _).1 z)
        have He := hide he
        clear he
        go_wp2_with fail
        refine (unhide H).mono ?_
        rintro e w1 ⟨rfl, hb1⟩
        clear x0 x1 x2 x3 x4 x5
        go_wp2_with fail
        refine ⟨⟨i, h, rfl, rfl, by omega, by omega, hlo, hide (fun k hk hk2 => ?_), hide ((unhide hsl2).below hb1), bstep hb hb1⟩, ?_⟩
        · have := unhide He
          rcases Nat.eq_or_lt_of_le hk with q | q
          · rw [← q]; omega
          · have := rise_lt (unhide Hord) q hk2; omega
        · simp [intOf]; omega
    · obtain rfl : i = j := by omega
      have hpl := pq_is (n := n) hj (unhide hlo) (unhide hhi)
      by_cases hl : i < l.length
      · obtain ⟨g, o, rfl, s6⟩ := unhide hsl2 i (by omega)
        have H := hide (place1_any (rc l i) n wr)
        obtain ⟨_, x0, x1, x2, x3, x4, x5⟩ := s6
        have hha := seq_miss (unhide Hord) (n := n) (by rw [← hpl]; exact hl)
        rw [← hpl] at hha
        have Hha := hide hha
        have Hpl := hide hpl
        clear hpl hha
        go_wp2_with fail
        refine (unhide H).mono ?_
        rintro e w1 ⟨rfl, hb1⟩
        clear x0 x1 x2 x3 x4 x5
        go_wp2_with fail
        go_ret2
        refine ⟨ret_tib ?_ ?_, bstep hb hb1⟩
        · rw [← unhide Hpl]
        · rw [unhide Hha]
          by_cases z : (rc l i).q = n
          · rw [decide_eq_true z, (cmpI_eq _ _).2 z]; rfl
          · have : ¬ cmpI (rc l i).q n = 0 := fun y => z ((cmpI_eq _ _).1 y)
            rw [decide_eq_false z]
            simp [this]
      · have Hpl := hide hpl
        have Hs := hide (seq_end (unhide Hord) (n := n) (by rw [← hpl]; exact hl))
        clear hpl
        go_wp2_with fail
        go_ret2
        refine ⟨ret_tib ?_ ?_, hb⟩
        · rw [← unhide Hpl]
        · exact unhide Hs

set_option maxHeartbeats 400000 in
theorem splace_any {w : World} {B q : Nat} {v u : Value} {l : List Rc} {es : List Ent} {last : Int} (n : Int) (h : Sho w B q v u l es last) (hr : RiseQ l) (h200 : l.length ≤ 200) :
    Calls Tryz.prog 55 #[.pointer (some ⟨q, 0, none⟩), .int .i64 n] w fun e w' => e = .returned (.tuple #[.int .i64 (pq l n), .bool (seqB l n)]) ∧ Below w.heap.size w w' := by
  obtain ⟨a, cap, rfl, _, _, hsl⟩ := h.msgs.shape
  have hc := h.c0
  go_enter Tryz.func55, Tryz.ntmps55
  go_wp2_with fail
  refine (searchR_any a cap l n _ hsl hr h200).mono ?_
  rintro e w1 ⟨rfl, hb⟩
  go_wp2_with fail
  go_ret2
  exact ⟨rfl, hb⟩
end Go.Proofs.YtphhebdmfdjfeagGreatDoor.Dk

namespace Go.Proofs.YtphhebdmfdjfeagGreatDoor.Dk
open Go.RowKit

/-- a record in a block that may be written -/
structure RF (w : World) (b : Nat) (r : Rc) : Prop where
  rb : RB w b r.k r.q r.t r.s r.h r.d
  fz : ∀ j, w.frozen? ⟨b, j, none⟩ = false
theorem RF.next {w w' : World} {b : Nat} {r : Rc} (h : RF w b r) (hb : Below w.heap.size w w') : RF w' b r := ⟨h.rb.next hb, fun j => (hb.frozen (p := ⟨b, j, none⟩) h.rb.lt).trans (h.fz j)⟩
theorem RF.new (w : World) (r : Rc) : RF (w.alloc (.cells #[.int .i64 r.k, .int .i64 r.q, .int .i64 r.t, .string r.s, .string r.h, .string r.d] 30)) w.heap.size r := ⟨RB.new w _ _ _ _ _ _ _, fun j => by simp⟩
theorem RF.set {w : World} {b : Nat} {r r' : Rc} (h : RF w b r) (p : Addr) (v : Value) (e : RB (w.setCell p v) b r'.k r'.q r'.t r'.s r'.h r'.d) : RF (w.setCell p v) b r' := ⟨e, fun j => by rw [World.frozen?_setCell]; exact h.fz j⟩
theorem RF.other {w : World} {b c i : Nat} {r : Rc} {v : Value} (h : RF w b r) (hc : c ≠ b) : RF (w.setCell ⟨c, i, none⟩ v) b r := ⟨h.rb.other hc, fun j => by rw [World.frozen?_setCell]; exact h.fz j⟩
theorem results_recX {fn : Func} {a : Tmp} {tmps : Array Value} {w : World} {b : Nat} {k q t : Int} {s h d : ByteArray} (hf : fn.results = #[.cell a 30]) (ha : tmps.getD a undef = .pointer (some ⟨b, 0, none⟩)) (r : RB w b k q t s h d) :
    (results fn tmps).run Tryz.prog w = .ok (.agg #[.int .i64 k, .int .i64 q, .int .i64 t, .string s, .string h, .string d]) w := by
  have ha' : tmps[a]?.getD undef = .pointer (some ⟨b, 0, none⟩) := by simpa using ha
  simp [results, hf, ha', asAddr, load_rec r]

set_option maxHeartbeats 1000000 in
theorem copyR_any (r : Rc) (hr : Small r) (w : World) :
    Calls Tryz.prog 22 #[.agg #[.int .i64 r.k, .int .i64 r.q, .int .i64 r.t, .string r.s, .string r.h, .string r.d]] w fun e w' => e = .returned (.agg #[.int .i64 r.k, .int .i64 r.q, .int .i64 r.t, .string r.s, .string r.h, .string r.d]) ∧ Below w.heap.size w w' := by
  obtain ⟨W, hW⟩ : ∃ W, W = (w.alloc (.cells #[.int .i64 r.k, .int .i64 r.q, .int .i64 r.t, .string r.s, .string r.h, .string r.d] 30)).alloc (.cells #[.int .i64 0, .int .i64 0, .int .i64 0, .string ⟨#[]⟩, .string ⟨#[]⟩, .string ⟨#[]⟩] 30) := ⟨_, rfl⟩
  have hb : Below w.heap.size w W := by rw [hW]; exact ((Below.refl _ _).alloc (Nat.le_refl _) _).alloc (by simp) _
  have P0 : RF W w.heap.size r := by rw [hW]; exact (RF.new w r).next ((Below.refl _ _).alloc (Nat.le_refl _) _)
  have Z0 : RF W (w.heap.size + 1) zeroR := by
    have := RF.new (w.alloc (.cells #[.int .i64 r.k, .int .i64 r.q, .int .i64 r.t, .string r.s, .string r.h, .string r.d] 30)) zeroR
    rw [World.size_alloc] at this
    rw [hW]; exact this
  have C1 := hide (clone_any r.s W (by have := hr.s; omega))
  have C2 : Hid (∀ X, Calls Tryz.prog 41 #[.string r.h] X fun e w' => e = .returned (.string r.h) ∧ Below X.heap.size X w') := hide (fun X => clone_any r.h X (by have := hr.h; omega))
  have C3 : Hid (∀ X, Calls Tryz.prog 41 #[.string r.d] X fun e w' => e = .returned (.string r.d) ∧ Below X.heap.size X w') := hide (fun X => clone_any r.d X (by have := hr.d; omega))
  go_enter Tryz.func22, Tryz.ntmps22
  go_wp2_with fail
  rw [← hW]
  have HB0 := hide hb
  have HZ0 := hide Z0
  have HP0 := hide P0
  clear hW hb Z0 P0
  refine (unhide C1).mono ?_
  rintro e w1 ⟨rfl, b1⟩
  have HB1 := hide (bstep (unhide HB0) b1)
  have P1 := (unhide HP0).next b1
  have Z1 := hide ((unhide HZ0).next b1)
  have x3 := P1.rb.c3
  have x4 := P1.rb.c4
  have f3 := P1.fz 3
  have HP1 := hide P1
  clear b1 P1 HP0 HZ0 HB0 C1
  go_wp2_with fail
  have HB2 := hide ((unhide HB1).setCell (p := ⟨w.heap.size, 3, none⟩) (Nat.le_refl _) (.string r.s))
  have HP2 := hide ((unhide HP1).set ⟨w.heap.size, 3, none⟩ (.string r.s) (r' := r) ((unhide HP1).rb.set3 r.s))
  have Z2 := hide ((unhide Z1).other (c := w.heap.size) (i := 3) (v := .string r.s) (by omega))
  clear HP1 HB1 Z1 x3 x4 f3
  generalize w1.setCell ⟨w.heap.size, 3, none⟩ (.string r.s) = w2 at *
  refine (unhide C2 _).mono ?_
  rintro e w3 ⟨rfl, b3⟩
  have HB3 := hide (bstep (unhide HB2) b3)
  have P3 := (unhide HP2).next b3
  have Z3 := hide ((unhide Z2).next b3)
  have x4 := P3.rb.c4
  have x5 := P3.rb.c5
  have f4 := P3.fz 4
  have HP3 := hide P3
  clear b3 P3 HP2 Z2 HB2 C2
  go_wp2_with fail
  have HB4 := hide ((unhide HB3).setCell (p := ⟨w.heap.size, 4, none⟩) (Nat.le_refl _) (.string r.h))
  have HP4 := hide ((unhide HP3).set ⟨w.heap.size, 4, none⟩ (.string r.h) (r' := r) ((unhide HP3).rb.set4 r.h))
  have Z4 := hide ((unhide Z3).other (c := w.heap.size) (i := 4) (v := .string r.h) (by omega))
  clear HP3 HB3 Z3 x4 x5 f4
  generalize w3.setCell ⟨w.heap.size, 4, none⟩ (.string r.h) = w4 at *
  refine (unhide C3 _).mono ?_
  rintro e w5 ⟨rfl, b5⟩
  have HB5 := hide (bstep (unhide HB4) b5)
  have P5 := (unhide HP4).next b5
  have Z5 := (unhide Z4).next b5
  obtain ⟨_, x0, x1, x2, x3, x4, x5⟩ := P5.rb
  obtain ⟨_, y0, y1, y2, y3, y4, y5⟩ := Z5.rb
  have f5 := P5.fz 5
  have g0 := Z5.fz 0
  have g1 := Z5.fz 1
  have g2 := Z5.fz 2
  have g3 := Z5.fz 3
  have g4 := Z5.fz 4
  have g5 := Z5.fz 5
  have HZ5 := hide Z5
  clear b5 P5 Z5 HP4 Z4 HB4 C3
  go_wp2_with fail
  refine bodyPost_ret (results_recX (b := w.heap.size + 1) rfl rfl (((((((((unhide HZ5).other (c := w.heap.size) (i := 5) (by omega)).rb.set0 r.k).set1 r.q).set2 r.t).set3 r.s).set4 r.h).set5 r.d))) rfl ?_
  exact ⟨rfl, (((((((unhide HB5).setCell (p := ⟨w.heap.size, 5, none⟩) (Nat.le_refl _) _).setCell (p := ⟨w.heap.size + 1, 0, none⟩) (Nat.le_succ _) _).setCell (p := ⟨w.heap.size + 1, 1, none⟩) (Nat.le_succ _) _).setCell (p := ⟨w.heap.size + 1, 2, none⟩) (Nat.le_succ _) _).setCell (p := ⟨w.heap.size + 1, 3, none⟩) (Nat.le_succ _) _).setCell (p := ⟨w.heap.size + 1, 4, none⟩) (Nat.le_succ _) _).setCell (p := ⟨w.heap.size + 1, 5, none⟩) (Nat.le_succ _) _⟩

set_option maxHeartbeats 400000 in
theorem scount_any {w : World} {B q : Nat} {v u : Value} {l : List Rc} {es : List Ent} {last : Int} (s : ByteArray) (h : Sho w B q v u l es last) (hg : Good es) (hs : s.size ≤ 140737488355328) :
    Calls Tryz.prog 53 #[.pointer (some ⟨q, 0, none⟩), .string s] w fun e w' => e = .returned (.int .i64 (getN es s)) ∧ Below w.heap.size w w' := by
  go_enter Tryz.func53, Tryz.ntmps53
  go_wp2_with fail
  refine (get_any B q u es s _ h.keeps hg hs).mono ?_
  rintro e w1 ⟨rfl, hb⟩
  go_wp2_with fail
  go_ret
  exact ⟨rfl, hb⟩

set_option maxHeartbeats 400000 in
theorem off_any {w : World} {B q : Nat} {v u : Value} {l : List Rc} {es : List Ent} {last : Int} (s : ByteArray) (h : Sho w B q v u l es last) (hg : Good es) (hs : s.size ≤ 140737488355328) (hB : B ≤ w.heap.size) (hn : getN es s ≤ 200) :
    Calls Tryz.prog 61 #[.pointer (some ⟨q, 0, none⟩), .string s] w fun e w' => e = .returned (.tuple #[]) ∧ Counts w w' B q v u l (offL es (getN es s) s) last := by
  have HH := hide h
  have HG := hide hg
  clear h hg
  obtain ⟨n, en⟩ : ∃ n, n = getN es s := ⟨_, rfl⟩
  rw [← en] at hn ⊢
  have EN := hide en
  clear en
  by_cases h1 : 1 < n
  · have hw : IntKind.i64.wrap (n - 1) = n - 1 := by rw [IntKind.wrap_i64]; omega
    have HO := hide (show offL es n s = putL es s (n - 1) from if_pos h1)
    go_enter Tryz.func61, Tryz.ntmps61
    go_wp2_with fail
    refine (scount_any s (unhide HH) (unhide HG) hs).mono ?_
    rintro e w1 ⟨rfl, hb⟩
    rw [← unhide EN]
    have H1 := hide ((unhide HH).below hb)
    have Hb := hide hb
    have P := hide (putO_any B q u es s (n - 1) w1 (unhide H1).keeps (unhide HG) hs (by have := hb.size; omega))
    clear hb
    go_wp2_with fail
    refine (unhide P).mono ?_
    rintro e w2 ⟨rfl, h2⟩
    have H2 := hide h2
    clear h2
    go_wp2_with fail
    go_end0
    refine ⟨rfl, ?_⟩
    rw [unhide HO]
    exact Counts.behind (unhide Hb) ((unhide H1).upd (unhide H2))
  · have HO := hide (show offL es n s = dropL es s from if_neg h1)
    go_enter Tryz.func61, Tryz.ntmps61
    go_wp2_with fail
    refine (scount_any s (unhide HH) (unhide HG) hs).mono ?_
    rintro e w1 ⟨rfl, hb⟩
    rw [← unhide EN]
    have H1 := hide ((unhide HH).below hb)
    have Hb := hide hb
    have P := hide (dropO_any B q u es s w1 (unhide H1).keeps (unhide HG) hs)
    clear hb
    go_wp2_with fail
    refine (unhide P).mono ?_
    rintro e w2 ⟨rfl, h2⟩
    have H2 := hide h2
    clear h2
    go_wp2_with fail
    go_end0
    refine ⟨rfl, ?_⟩
    rw [unhide HO]
    exact Counts.behind (unhide Hb) ((unhide H1).upd (unhide H2))

set_option maxHeartbeats 400000 in
theorem takes_any (f : ByteArray) (r : Rc) (hf : f.size ≤ 140737488355328) (hr : r.s.size ≤ 140737488355328) (w : World) :
    Calls Tryz.prog 63 #[.string f, .agg #[.int .i64 r.k, .int .i64 r.q, .int .i64 r.t, .string r.s, .string r.h, .string r.d]] w fun e w' => e = .returned (.bool (matchB f r.s)) ∧ Below w.heap.size w w' := by
  have hb0 : Below w.heap.size w (w.alloc (.cells #[.int .i64 r.k, .int .i64 r.q, .int .i64 r.t, .string r.s, .string r.h, .string r.d] 30)) := (Below.refl _ _).alloc (Nat.le_refl _) _
  have Hb0 := hide hb0
  clear hb0
  go_enter Tryz.func63, Tryz.ntmps63
  go_wp2_with fail
  refine (match_any f r.s _ hf hr).mono ?_
  rintro e w1 ⟨rfl, hb⟩
  go_wp2_with fail
  go_ret
  exact ⟨rfl, bstep (unhide Hb0) hb⟩
end Go.Proofs.YtphhebdmfdjfeagGreatDoor.Dk
