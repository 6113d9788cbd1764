/-
  The program's store: where a number is (cmp.Compare at numbers, slices.BinarySearchFunc at records, place).
  The program's store: copies of records, counts of subjects, what a filter takes.
  A store's counts: there is such an index; each message's subject is right. No walk.
  The program's store: Try.
-/
import Derived.Test.YtmccpkpeimejhahGreatDoorJointWalkI3WalkI4WalkI5RowX
import Derived.Test.YtmccpkpeimejhahGreatDoorJointRowGPapNWorksGPapH
import Derived.Test.YtmccpkpeimejhahGreatDoorJointWalkClWalkN4WalkC5WalkC6
import Derived.Test.YtmccpkpeimejhahGreatDoorJointWalkY1Walk5aWalk5WalkY2
import Derived.Test.YtmccpkpeimejhahGreatDoorJointPapTPapVaRowVWorksV
import Derived.Test.YtmccpkpeimejhahGreatDoorJointOvRPlainIPapCPapE
import Derived.Test.YtmccpkpeimejhahGreatDoorJointPapWRowEWalkI1WalkI2
import Derived.Test.YtmccpkpeimejhahGreatDoorJointWalkC2WalkC3WalkC4WalkL1
namespace Go.Proofs.YtmccpkpeimejhahGreatDoor.Dk
open Go.RowKit

set_option maxHeartbeats 400000 in
theorem nanI_any (x : Int) (w : World) :
    Calls Tryz.prog 137 #[.int .i64 x] w fun e w' => e = .returned (.bool false) ∧ w' = w := by
  go_enter Tryz.func137, Tryz.ntmps137
  go_wp2
  go_ret
  exact ⟨ret_bool (by simp), rfl⟩
def cmpI (x y : Int) : Int := if x < y then -1 else if y < x then 1 else 0
set_option maxHeartbeats 400000 in
theorem cmpI_any (x y : Int) (w : World) :
    Calls Tryz.prog 109 #[.int .i64 x, .int .i64 y] w fun e w' => e = .returned (.int .i64 (cmpI x y)) ∧ w' = w := by
  by_cases h1 : x < y
  · have Hr := hide (show cmpI x y = -1 from if_pos h1)
    go_enter Tryz.func109, Tryz.ntmps109
    go_wp2_with (first | (go_at_call 137; refine (nanI_any _ _).mono ?_; rintro e w' ⟨rfl, rfl⟩))
    go_ret
    exact ⟨ret_eq (unhide Hr), rfl⟩
  · by_cases h2 : y < x
    · have Hr := hide (show cmpI x y = 1 by unfold cmpI; rw [if_neg h1, if_pos h2])
      go_enter Tryz.func109, Tryz.ntmps109
      go_wp2_with (first | (go_at_call 137; refine (nanI_any _ _).mono ?_; rintro e w' ⟨rfl, rfl⟩))
      go_ret
      exact ⟨ret_eq (unhide Hr), rfl⟩
    · have Hr := hide (show cmpI x y = 0 by unfold cmpI; rw [if_neg h1, if_neg h2])
      go_enter Tryz.func109, Tryz.ntmps109
      go_wp2_with (first | (go_at_call 137; refine (nanI_any _ _).mono ?_; rintro e w' ⟨rfl, rfl⟩))
      go_ret
      exact ⟨ret_eq (unhide Hr), rfl⟩

set_option maxHeartbeats 400000 in
theorem place1_any (r : Rc) (n : Int) (w : World) :
    Calls Tryz.prog 108 #[.agg #[.int .i64 r.k, .int .i64 r.q, .int .i64 r.t, .string r.s, .string r.h, .string r.d], .int .i64 n] w fun e w' => e = .returned (.int .i64 (cmpI r.q n)) ∧ Below w.heap.size w w' := by
  go_enter Tryz.func108, Tryz.ntmps108
  go_wp2_with fail
  refine (cmpI_any _ n _).mono ?_
  rintro e w1 ⟨rfl, rfl⟩
  go_wp2_with fail
  go_ret
  exact ⟨rfl, (Below.refl _ _).alloc (Nat.le_refl _) _⟩
theorem cmpI_lt (x y : Int) : cmpI x y < 0 ↔ x < y := by
  unfold cmpI
  split
  · omega
  · split <;> omega
theorem cmpI_eq (x y : Int) : cmpI x y = 0 ↔ x = y := by
  unfold cmpI
  split
  · omega
  · split <;> omega

set_option maxHeartbeats 2000000 in
theorem searchR_any (a : Option Addr) (cap : Nat) (l : List Rc) (n : Int) (w : World) (hsl : SlR w a l) (hord : RiseQ l) (h200 : l.length ≤ 200) :
    Calls Tryz.prog 107 #[.slice a l.length cap, .int .i64 n, .func (.func 108) #[] #[]] w fun e w' => e = .returned (.tuple #[.int .i64 (pq l n), .bool (seqB l n)]) ∧ Below w.heap.size w w' := by
  have Hord := hide hord
  clear hord
  go_enter Tryz.func107, Tryz.ntmps107
  go_wp2
  go_loopw [9, 10] (fun iv jv wr => ∃ (i j : Nat), iv = .int .i64 i ∧ jv = .int .i64 j ∧ i ≤ j ∧ j ≤ l.length ∧ Hid (∀ k, k < i → (rc l k).q < n) ∧ Hid (∀ k, j ≤ k → k < l.length → n ≤ (rc l k).q) ∧ Hid (SlR wr a l) ∧ Below w.heap.size w wr) (fun iv jv _ => (intOf jv).toNat - (intOf iv).toNat)
  case atStart => exact ⟨0, l.length, rfl, rfl, Nat.zero_le _, Nat.le_refl _, hide (fun k hk => absurd hk (Nat.not_lt_zero k)), hide (fun k h1 h2 => by omega), hide hsl, Below.refl _ _⟩
  case round =>
    obtain ⟨i, j, rfl, rfl, hij, hj, hlo, hhi, hsl2, hb⟩ := hrel
    by_cases hlt : i < j
    · obtain ⟨h, hh⟩ : ∃ h : Nat, h = (i + j) / 2 := ⟨_, rfl⟩
      have hh1 : i ≤ h ∧ h < j := by omega
      obtain ⟨g, o, rfl, s6⟩ := unhide hsl2 h (by omega)
      have hmid : ((i : Int) + (j : Int)) / 2 = (h : Int) := by omega
      clear hh
      have H := hide (place1_any (rc l h) n wr)
      obtain ⟨_, x0, x1, x2, x3, x4, x5⟩ := s6
      by_cases he : (rc l h).q < n
      · have hz : cmpI (rc l h).q n < 0 := (cmpI_lt _ _).2 he
        have He := hide he
        clear he
        go_wp2_with fail
        refine (unhide H).mono ?_
        rintro e w1 ⟨rfl, hb1⟩
        clear x0 x1 x2 x3 x4 x5
        go_wp2_with fail
        refine ⟨⟨h + 1, j, by go_num, rfl, by omega, hj, hide (fun k hk => ?_), hhi, hide ((unhide hsl2).below hb1), bstep hb hb1⟩, ?_⟩
        · rcases Nat.lt_succ_iff_lt_or_eq.1 hk with q | q
          · have := rise_lt (unhide Hord) q (by omega); have := unhide He; omega
          · rw [q]; exact unhide He
        · simp [intOf]; omega
      · have hz : ¬ cmpI (rc l h).q n < 0 := fun z => he ((cmpI_lt _ _).1 z)
        have He := hide he
        clear he
        go_wp2_with fail
        refine (unhide H).mono ?_
        rintro e w1 ⟨rfl, hb1⟩
        clear x0 x1 x2 x3 x4 x5
        go_wp2_with fail
        refine ⟨⟨i, h, rfl, rfl, by omega, by omega, hlo, hide (fun k hk hk2 => ?_), hide ((unhide hsl2).below hb1), bstep hb hb1⟩, ?_⟩
        · have := unhide He
          rcases Nat.eq_or_lt_of_le hk with q | q
          · rw [← q]; omega
          · have := rise_lt (unhide Hord) q hk2; omega
        · simp [intOf]; omega
    · obtain rfl : i = j := by omega
      have hpl := pq_is (n := n) hj (unhide hlo) (unhide hhi)
      by_cases hl : i < l.length
      · obtain ⟨g, o, rfl, s6⟩ := unhide hsl2 i (by omega)
        have H := hide (place1_any (rc l i) n wr)
        obtain ⟨_, x0, x1, x2, x3, x4, x5⟩ := s6
        have hha := seq_miss (unhide Hord) (n := n) (by rw [← hpl]; exact hl)
        rw [← hpl] at hha
        have Hha := hide hha
        have Hpl := hide hpl
        clear hpl hha
        go_wp2_with fail
        refine (unhide H).mono ?_
        rintro e w1 ⟨rfl, hb1⟩
        clear x0 x1 x2 x3 x4 x5
        go_wp2_with fail
        go_ret2
        refine ⟨ret_tib ?_ ?_, bstep hb hb1⟩
        · rw [← unhide Hpl]
        · rw [unhide Hha]
          by_cases z : (rc l i).q = n
          · rw [decide_eq_true z, (cmpI_eq _ _).2 z]; rfl
          · have : ¬ cmpI (rc l i).q n = 0 := fun y => z ((cmpI_eq _ _).1 y)
            rw [decide_eq_false z]
            simp [this]
      · have Hpl := hide hpl
        have Hs := hide (seq_end (unhide Hord) (n := n) (by rw [← hpl]; exact hl))
        clear hpl
        go_wp2_with fail
        go_ret2
        refine ⟨ret_tib ?_ ?_, hb⟩
        · rw [← unhide Hpl]
        · exact unhide Hs

set_option maxHeartbeats 400000 in
theorem splace_any {w : World} {B q : Nat} {v u : Value} {l : List Rc} {es : List Ent} {last : Int} (n : Int) (h : Sho w B q v u l es last) (hr : RiseQ l) (h200 : l.length ≤ 200) :
    Calls Tryz.prog 76 #[.pointer (some ⟨q, 0, none⟩), .int .i64 n] w fun e w' => e = .returned (.tuple #[.int .i64 (pq l n), .bool (seqB l n)]) ∧ Below w.heap.size w w' := by
  obtain ⟨a, cap, rfl, _, _, hsl⟩ := h.msgs.shape
  have hc := h.c0
  go_enter Tryz.func76, Tryz.ntmps76
  go_wp2_with fail
  refine (searchR_any a cap l n _ hsl hr h200).mono ?_
  rintro e w1 ⟨rfl, hb⟩
  go_wp2_with fail
  go_ret2
  exact ⟨rfl, hb⟩
end Go.Proofs.YtmccpkpeimejhahGreatDoor.Dk

namespace Go.Proofs.YtmccpkpeimejhahGreatDoor.Dk
open Go.RowKit

/-- a record in a block that may be written -/
structure RF (w : World) (b : Nat) (r : Rc) : Prop where
  rb : RB w b r.k r.q r.t r.s r.h r.d
  fz : ∀ j, w.frozen? ⟨b, j, none⟩ = false
theorem RF.next {w w' : World} {b : Nat} {r : Rc} (h : RF w b r) (hb : Below w.heap.size w w') : RF w' b r := ⟨h.rb.next hb, fun j => (hb.frozen (p := ⟨b, j, none⟩) h.rb.lt).trans (h.fz j)⟩
theorem RF.new (w : World) (r : Rc) : RF (w.alloc (.cells #[.int .i64 r.k, .int .i64 r.q, .int .i64 r.t, .string r.s, .string r.h, .string r.d] 42)) w.heap.size r := ⟨RB.new w _ _ _ _ _ _ _, fun j => by simp⟩
theorem RF.set {w : World} {b : Nat} {r r' : Rc} (h : RF w b r) (p : Addr) (v : Value) (e : RB (w.setCell p v) b r'.k r'.q r'.t r'.s r'.h r'.d) : RF (w.setCell p v) b r' := ⟨e, fun j => by rw [World.frozen?_setCell]; exact h.fz j⟩
theorem RF.other {w : World} {b c i : Nat} {r : Rc} {v : Value} (h : RF w b r) (hc : c ≠ b) : RF (w.setCell ⟨c, i, none⟩ v) b r := ⟨h.rb.other hc, fun j => by rw [World.frozen?_setCell]; exact h.fz j⟩
theorem results_recX {fn : Func} {a : Tmp} {tmps : Array Value} {w : World} {b : Nat} {k q t : Int} {s h d : ByteArray} (hf : fn.results = #[.cell a 42]) (ha : tmps.getD a undef = .pointer (some ⟨b, 0, none⟩)) (r : RB w b k q t s h d) :
    (results fn tmps).run Tryz.prog w = .ok (.agg #[.int .i64 k, .int .i64 q, .int .i64 t, .string s, .string h, .string d]) w := by
  have ha' : tmps[a]?.getD undef = .pointer (some ⟨b, 0, none⟩) := by simpa using ha
  simp [results, hf, ha', asAddr, load_rec r]

set_option maxHeartbeats 1000000 in
theorem copyR_any (r : Rc) (hr : Small r) (w : World) :
    Calls Tryz.prog 25 #[.agg #[.int .i64 r.k, .int .i64 r.q, .int .i64 r.t, .string r.s, .string r.h, .string r.d]] w fun e w' => e = .returned (.agg #[.int .i64 r.k, .int .i64 r.q, .int .i64 r.t, .string r.s, .string r.h, .string r.d]) ∧ Below w.heap.size w w' := by
  obtain ⟨W, hW⟩ : ∃ W, W = (w.alloc (.cells #[.int .i64 r.k, .int .i64 r.q, .int .i64 r.t, .string r.s, .string r.h, .string r.d] 42)).alloc (.cells #[.int .i64 0, .int .i64 0, .int .i64 0, .string ⟨#[]⟩, .string ⟨#[]⟩, .string ⟨#[]⟩] 42) := ⟨_, rfl⟩
  have hb : Below w.heap.size w W := by rw [hW]; exact ((Below.refl _ _).alloc (Nat.le_refl _) _).alloc (by simp) _
  have P0 : RF W w.heap.size r := by rw [hW]; exact (RF.new w r).next ((Below.refl _ _).alloc (Nat.le_refl _) _)
  have Z0 : RF W (w.heap.size + 1) zeroR := by
    have := RF.new (w.alloc (.cells #[.int .i64 r.k, .int .i64 r.q, .int .i64 r.t, .string r.s, .string r.h, .string r.d] 42)) zeroR
    rw [World.size_alloc] at this
    rw [hW]; exact this
  have C1 := hide (clone_any r.s W (by have := hr.s; omega))
  have C2 : Hid (∀ X, Calls Tryz.prog 32 #[.string r.h] X fun e w' => e = .returned (.string r.h) ∧ Below X.heap.size X w') := hide (fun X => clone_any r.h X (by have := hr.h; omega))
  have C3 : Hid (∀ X, Calls Tryz.prog 32 #[.string r.d] X fun e w' => e = .returned (.string r.d) ∧ Below X.heap.size X w') := hide (fun X => clone_any r.d X (by have := hr.d; omega))
  go_enter Tryz.func25, Tryz.ntmps25
  go_wp2_with fail
  rw [← hW]
  have HB0 := hide hb
  have HZ0 := hide Z0
  have HP0 := hide P0
  clear hW hb Z0 P0
  refine (unhide C1).mono ?_
  rintro e w1 ⟨rfl, b1⟩
  have HB1 := hide (bstep (unhide HB0) b1)
  have P1 := (unhide HP0).next b1
  have Z1 := hide ((unhide HZ0).next b1)
  have x3 := P1.rb.c3
  have x4 := P1.rb.c4
  have f3 := P1.fz 3
  have HP1 := hide P1
  clear b1 P1 HP0 HZ0 HB0 C1
  go_wp2_with fail
  have HB2 := hide ((unhide HB1).setCell (p := ⟨w.heap.size, 3, none⟩) (Nat.le_refl _) (.string r.s))
  have HP2 := hide ((unhide HP1).set ⟨w.heap.size, 3, none⟩ (.string r.s) (r' := r) ((unhide HP1).rb.set3 r.s))
  have Z2 := hide ((unhide Z1).other (c := w.heap.size) (i := 3) (v := .string r.s) (by omega))
  clear HP1 HB1 Z1 x3 x4 f3
  generalize w1.setCell ⟨w.heap.size, 3, none⟩ (.string r.s) = w2 at *
  refine (unhide C2 _).mono ?_
  rintro e w3 ⟨rfl, b3⟩
  have HB3 := hide (bstep (unhide HB2) b3)
  have P3 := (unhide HP2).next b3
  have Z3 := hide ((unhide Z2).next b3)
  have x4 := P3.rb.c4
  have x5 := P3.rb.c5
  have f4 := P3.fz 4
  have HP3 := hide P3
  clear b3 P3 HP2 Z2 HB2 C2
  go_wp2_with fail
  have HB4 := hide ((unhide HB3).setCell (p := ⟨w.heap.size, 4, none⟩) (Nat.le_refl _) (.string r.h))
  have HP4 := hide ((unhide HP3).set ⟨w.heap.size, 4, none⟩ (.string r.h) (r' := r) ((unhide HP3).rb.set4 r.h))
  have Z4 := hide ((unhide Z3).other (c := w.heap.size) (i := 4) (v := .string r.h) (by omega))
  clear HP3 HB3 Z3 x4 x5 f4
  generalize w3.setCell ⟨w.heap.size, 4, none⟩ (.string r.h) = w4 at *
  refine (unhide C3 _).mono ?_
  rintro e w5 ⟨rfl, b5⟩
  have HB5 := hide (bstep (unhide HB4) b5)
  have P5 := (unhide HP4).next b5
  have Z5 := (unhide Z4).next b5
  obtain ⟨_, x0, x1, x2, x3, x4, x5⟩ := P5.rb
  obtain ⟨_, y0, y1, y2, y3, y4, y5⟩ := Z5.rb
  have f5 := P5.fz 5
  have g0 := Z5.fz 0
  have g1 := Z5.fz 1
  have g2 := Z5.fz 2
  have g3 := Z5.fz 3
  have g4 := Z5.fz 4
  have g5 := Z5.fz 5
  have HZ5 := hide Z5
  clear b5 P5 Z5 HP4 Z4 HB4 C3
  go_wp2_with fail
  refine bodyPost_ret (results_recX (b := w.heap.size + 1) rfl rfl (((((((((unhide HZ5).other (c := w.heap.size) (i := 5) (by omega)).rb.set0 r.k).set1 r.q).set2 r.t).set3 r.s).set4 r.h).set5 r.d))) rfl ?_
  exact ⟨rfl, (((((((unhide HB5).setCell (p := ⟨w.heap.size, 5, none⟩) (Nat.le_refl _) _).setCell (p := ⟨w.heap.size + 1, 0, none⟩) (Nat.le_succ _) _).setCell (p := ⟨w.heap.size + 1, 1, none⟩) (Nat.le_succ _) _).setCell (p := ⟨w.heap.size + 1, 2, none⟩) (Nat.le_succ _) _).setCell (p := ⟨w.heap.size + 1, 3, none⟩) (Nat.le_succ _) _).setCell (p := ⟨w.heap.size + 1, 4, none⟩) (Nat.le_succ _) _).setCell (p := ⟨w.heap.size + 1, 5, none⟩) (Nat.le_succ _) _⟩

set_option maxHeartbeats 400000 in
theorem scount_any {w : World} {B q : Nat} {v u : Value} {l : List Rc} {es : List Ent} {last : Int} (s : ByteArray) (h : Sho w B q v u l es last) (hg : Good es) (hs : s.size ≤ 140737488355328) :
    Calls Tryz.prog 97 #[.pointer (some ⟨q, 0, none⟩), .string s] w fun e w' => e = .returned (.int .i64 (getN es s)) ∧ Below w.heap.size w w' := by
  go_enter Tryz.func97, Tryz.ntmps97
  go_wp2_with fail
  refine (get_any B q u es s _ h.keeps hg hs).mono ?_
  rintro e w1 ⟨rfl, hb⟩
  go_wp2_with fail
  go_ret
  exact ⟨rfl, hb⟩

set_option maxHeartbeats 400000 in
theorem off_any {w : World} {B q : Nat} {v u : Value} {l : List Rc} {es : List Ent} {last : Int} (s : ByteArray) (h : Sho w B q v u l es last) (hg : Good es) (hs : s.size ≤ 140737488355328) (hB : B ≤ w.heap.size) (hn : getN es s ≤ 200) :
    Calls Tryz.prog 98 #[.pointer (some ⟨q, 0, none⟩), .string s] w fun e w' => e = .returned (.tuple #[]) ∧ Counts w w' B q v u l (offL es (getN es s) s) last := by
  have HH := hide h
  have HG := hide hg
  clear h hg
  obtain ⟨n, en⟩ : ∃ n, n = getN es s := ⟨_, rfl⟩
  rw [← en] at hn ⊢
  have EN := hide en
  clear en
  by_cases h1 : 1 < n
  · have hw : IntKind.i64.wrap (n - 1) = n - 1 := by rw [IntKind.wrap_i64]; omega
    have HO := hide (show offL es n s = putL es s (n - 1) from if_pos h1)
    go_enter Tryz.func98, Tryz.ntmps98
    go_wp2_with fail
    refine (scount_any s (unhide HH) (unhide HG) hs).mono ?_
    rintro e w1 ⟨rfl, hb⟩
    rw [← unhide EN]
    have H1 := hide ((unhide HH).below hb)
    have Hb := hide hb
    have P := hide (putO_any B q u es s (n - 1) w1 (unhide H1).keeps (unhide HG) hs (by have := hb.size; omega))
    clear hb
    go_wp2_with fail
    refine (unhide P).mono ?_
    rintro e w2 ⟨rfl, h2⟩
    have H2 := hide h2
    clear h2
    go_wp2_with fail
    go_end0
    refine ⟨rfl, ?_⟩
    rw [unhide HO]
    exact Counts.behind (unhide Hb) ((unhide H1).upd (unhide H2))
  · have HO := hide (show offL es n s = dropL es s from if_neg h1)
    go_enter Tryz.func98, Tryz.ntmps98
    go_wp2_with fail
    refine (scount_any s (unhide HH) (unhide HG) hs).mono ?_
    rintro e w1 ⟨rfl, hb⟩
    rw [← unhide EN]
    have H1 := hide ((unhide HH).below hb)
    have Hb := hide hb
    have P := hide (dropO_any B q u es s w1 (unhide H1).keeps (unhide HG) hs)
    clear hb
    go_wp2_with fail
    refine (unhide P).mono ?_
    rintro e w2 ⟨rfl, h2⟩
    have H2 := hide h2
    clear h2
    go_wp2_with fail
    go_end0
    refine ⟨rfl, ?_⟩
    rw [unhide HO]
    exact Counts.behind (unhide Hb) ((unhide H1).upd (unhide H2))

set_option maxHeartbeats 400000 in
theorem takes_any (f : ByteArray) (r : Rc) (hf : f.size ≤ 140737488355328) (hr : r.s.size ≤ 140737488355328) (w : World) :
    Calls Tryz.prog 100 #[.string f, .agg #[.int .i64 r.k, .int .i64 r.q, .int .i64 r.t, .string r.s, .string r.h, .string r.d]] w fun e w' => e = .returned (.bool (matchB f r.s)) ∧ Below w.heap.size w w' := by
  have hb0 : Below w.heap.size w (w.alloc (.cells #[.int .i64 r.k, .int .i64 r.q, .int .i64 r.t, .string r.s, .string r.h, .string r.d] 42)) := (Below.refl _ _).alloc (Nat.le_refl _) _
  have Hb0 := hide hb0
  clear hb0
  go_enter Tryz.func100, Tryz.ntmps100
  go_wp2_with fail
  refine (match_any f r.s _ hf hr).mono ?_
  rintro e w1 ⟨rfl, hb⟩
  go_wp2_with fail
  go_ret
  exact ⟨rfl, bstep (unhide Hb0) hb⟩
end Go.Proofs.YtmccpkpeimejhahGreatDoor.Dk

namespace Go.Proofs.YtmccpkpeimejhahGreatDoor.Dk
open Go.RowKit

theorem right_msg {r : Rc} (h : chkR r = 0) (h1 : r.k = 1) : errS false r.s = 0 := by
  have e := chkV_eq r.k r.q r.t r.s r.h r.d
  have e2 : chkV r.k r.q r.t r.s r.h r.d = 0 := h
  rw [e2] at e
  by_cases hb : Pk.inB r.k r.q r.t = false
  · rw [if_pos hb] at e; cases e
  · rw [if_neg hb, if_pos h1] at e
    unfold msgE at e
    by_cases z : errS false r.s ≠ 0
    · rw [if_pos z] at e; exact e.symm
    · exact Classical.byContradiction z
theorem Sto.Ok.cnt {s : Sto} (h : s.Ok) : ∃ es, Cnt s.l es := cnt_ex _ s.l rfl (fun x hx => ⟨right_msg (h.msg x hx).2 (h.msg x hx).1, by have := (h.small hx).1; omega⟩) h.names
end Go.Proofs.YtmccpkpeimejhahGreatDoor.Dk

namespace Go.Proofs.YtmccpkpeimejhahGreatDoor.Dk
open Go.RowKit

theorem right_pur {r : Rc} (h : chkR r = 0) (h1 : r.k = 3) : errS true r.s = 0 := by
  have e := chkV_eq r.k r.q r.t r.s r.h r.d
  have e2 : chkV r.k r.q r.t r.s r.h r.d = 0 := h
  rw [e2] at e
  by_cases hb : Pk.inB r.k r.q r.t = false
  · rw [if_pos hb] at e; cases e
  · rw [if_neg hb, if_neg (by omega), if_pos h1] at e
    unfold purE at e
    by_cases z : errS true r.s ≠ 0
    · rw [if_pos z] at e; exact e.symm
    · exact Classical.byContradiction z
/-- what Try answers of a message that is right -/
def tmE (l : List Rc) (last : Int) (r : Rc) : Int := if r.q ≤ last then 9 else if 200 ≤ l.length ∨ (hasS l r.s = false ∧ 100 ≤ nameN l) then 8 else 0
theorem tm_low {l : List Rc} {last : Int} {r : Rc} (h : r.q ≤ last) : tmE l last r = 9 := if_pos h
theorem tm_full {l : List Rc} {last : Int} {r : Rc} (h : ¬ r.q ≤ last) (h2 : 200 ≤ l.length) : tmE l last r = 8 := by unfold tmE; rw [if_neg h, if_pos (.inl h2)]
theorem tm_many {l : List Rc} {last : Int} {r : Rc} (h : ¬ r.q ≤ last) (h2 : hasS l r.s = false) (h3 : 100 ≤ nameN l) : tmE l last r = 8 := by unfold tmE; rw [if_neg h, if_pos (.inr ⟨h2, h3⟩)]
theorem tm_has {l : List Rc} {last : Int} {r : Rc} (h : ¬ r.q ≤ last) (h1 : ¬ 200 ≤ l.length) (h2 : hasS l r.s = true) : tmE l last r = 0 := by
  unfold tmE; rw [if_neg h, if_neg (fun z => by rcases z with z | z; exact h1 z; rw [h2] at z; cases z.1)]
theorem tm_room {l : List Rc} {last : Int} {r : Rc} (h : ¬ r.q ≤ last) (h1 : ¬ 200 ≤ l.length) (h2 : ¬ 100 ≤ nameN l) : tmE l last r = 0 := by
  unfold tmE; rw [if_neg h, if_neg (fun z => by rcases z with z | z; exact h1 z; exact h2 z.2)]

set_option maxRecDepth 100000 in
set_option maxHeartbeats 1000000 in
theorem stmsg_any {w : World} {B q : Nat} {v u : Value} {l : List Rc} {es : List Ent} {last : Int} (r : Rc) (h : Sho w B q v u l es last) (hc : Cnt l es) (hr : errS false r.s = 0) (hs : r.s.size ≤ 140737488355328) (h200 : l.length ≤ 200) :
    Calls Tryz.prog 80 #[.pointer (some ⟨q, 0, none⟩), .agg #[.int .i64 r.k, .int .i64 r.q, .int .i64 r.t, .string r.s, .string r.h, .string r.d]] w fun e w' => e = .returned (.int .i64 (tmE l last r)) ∧ Below w.heap.size w w' := by
  have hb0 : Below w.heap.size w (w.alloc (.cells #[.int .i64 r.k, .int .i64 r.q, .int .i64 r.t, .string r.s, .string r.h, .string r.d] 42)) := (Below.refl _ _).alloc (Nat.le_refl _) _
  have Hb0 := hide hb0
  obtain ⟨a, cap, rfl, _⟩ := h.msgs.shape
  have c0 := h.c0
  have c2 := h.c2
  have hql := h.lt
  have g1 : (getN es r.s : Int) = (cntN l r.s : Int) := hc.get hr
  have g2 : (es.length : Int) = (nameN l : Int) := by rw [hc.len]
  have g3 := cntN_has l r.s
  have HS := hide h
  have HC := hide hc.good
  have P : Hid (∀ m, Calls Tryz.prog 97 #[.pointer (some ⟨q, 0, none⟩), .string r.s] ((w.alloc (.cells #[.int .i64 r.k, .int .i64 r.q, .int .i64 r.t, .string r.s, .string r.h, .string r.d] 42)).drewN m) fun e w' => e = .returned (.int .i64 (getN es r.s)) ∧ Below w.heap.size w w') := hide (fun m => by
    have b := below_drewN hb0 m
    refine (scount_any r.s (h.below b) hc.good hs).mono ?_
    rintro e w' ⟨he, hb⟩
    exact ⟨he, bstep b hb⟩)
  clear h hb0 hc
  by_cases h1 : r.q ≤ last
  · have R := hide (tm_low (l := l) h1)
    clear g1 g2 g3
    go_enter Tryz.func80, Tryz.ntmps80
    go_wp2_with fail
    go_quiet (fail)
    go_wp2_with fail
    go_ret
    exact ⟨ret_eq (unhide R), below_drewN (unhide Hb0) _⟩
  · by_cases h2 : 200 ≤ l.length
    · have R := hide (tm_full h1 h2)
      clear g1 g2 g3
      go_enter Tryz.func80, Tryz.ntmps80
      go_wp2_with fail
      go_quiet (fail)
      go_wp2_with fail
      go_ret
      exact ⟨ret_eq (unhide R), below_drewN (unhide Hb0) _⟩
    · obtain ⟨n, en⟩ : ∃ n, n = getN es r.s := ⟨_, rfl⟩
      rw [← en] at g1
      have EN := hide en
      clear en
      by_cases h3 : n = 0
      · subst h3
        have hz : hasS l r.s = false := by rw [g3]; exact decide_eq_false (by omega)
        by_cases h4 : 100 ≤ es.length
        · have R := hide (tm_many (r := r) h1 hz (by omega))
          clear g1 g2 g3 hz
          go_enter Tryz.func80, Tryz.ntmps80
          go_wp2_with fail
          go_quiet (fail)
          go_wp2_with fail
          refine (unhide P _).mono ?_
          rintro e w1 ⟨rfl, b1⟩
          rw [← unhide EN]
          have P2 := hide (count_any B q u es w1 ((unhide HS).below b1).keeps)
          have B1 := hide b1
          clear b1 P c0 c2
          go_wp2_with fail
          refine (unhide P2).mono ?_
          rintro e w2 ⟨rfl, rfl⟩
          go_wp2_with fail
          go_ret
          exact ⟨ret_eq (unhide R), unhide B1⟩
        · have R := hide (tm_room (r := r) h1 h2 (by omega))
          clear g1 g2 g3 hz
          go_enter Tryz.func80, Tryz.ntmps80
          go_wp2_with fail
          go_quiet (fail)
          go_wp2_with fail
          refine (unhide P _).mono ?_
          rintro e w1 ⟨rfl, b1⟩
          rw [← unhide EN]
          have P2 := hide (count_any B q u es w1 ((unhide HS).below b1).keeps)
          have B1 := hide b1
          clear b1 P c0 c2
          go_wp2_with fail
          refine (unhide P2).mono ?_
          rintro e w2 ⟨rfl, rfl⟩
          go_wp2_with fail
          go_ret
          exact ⟨ret_eq (unhide R), unhide B1⟩
      · have R := hide (tm_has (r := r) h1 h2 (by rw [g3]; exact decide_eq_true (by omega)))
        clear g1 g2 g3
        go_enter Tryz.func80, Tryz.ntmps80
        go_wp2_with fail
        go_quiet (fail)
        go_wp2_with fail
        refine (unhide P _).mono ?_
        rintro e w1 ⟨rfl, b1⟩
        rw [← unhide EN]
        have B1 := hide b1
        clear b1 P c0 c2
        go_wp2_with fail
        go_ret
        exact ⟨ret_eq (unhide R), unhide B1⟩

def erE (l : List Rc) (n : Int) : Int := if seqB l n = false then 4 else 0
set_option maxHeartbeats 400000 in
theorem stera_any {w : World} {B q : Nat} {v u : Value} {l : List Rc} {es : List Ent} {last : Int} (n : Int) (h : Sho w B q v u l es last) (hr : RiseQ l) (h200 : l.length ≤ 200) :
    Calls Tryz.prog 81 #[.pointer (some ⟨q, 0, none⟩), .int .i64 n] w fun e w' => e = .returned (.int .i64 (erE l n)) ∧ Below w.heap.size w w' := by
  cases hs : seqB l n
  all_goals
    have hE : erE l n = (if seqB l n = false then 4 else 0) := rfl
    rw [hs] at hE
    have HE := hide hE
    clear hE
    go_enter Tryz.func81, Tryz.ntmps81
    go_wp2_with fail
    refine (splace_any n h hr h200).mono ?_
    rintro e w1 ⟨rfl, hb⟩
    rw [hs]
    go_wp2_with fail
    go_ret
    exact ⟨ret_eq (by rw [unhide HE]; rfl), hb⟩

theorem try_bad {s : Sto} {r : Rc} (h : ¬ chkR r = 0) : tryE s r = chkR r := by unfold tryE; rw [if_pos h]
theorem try_msg {s : Sto} {r : Rc} (h : chkR r = 0) (h1 : r.k = 1) : tryE s r = tmE s.l s.last r := by
  unfold tryE tmE
  rw [if_neg (by rw [h]; simp), if_neg (by omega), if_neg (by omega)]
theorem try_era {s : Sto} {r : Rc} (h : chkR r = 0) (h1 : r.k = 2) : tryE s r = erE s.l r.q := by
  unfold tryE erE
  rw [if_neg (by rw [h]; simp)]
  by_cases z : seqB s.l r.q = false
  · rw [if_pos ⟨h1, z⟩, if_pos z]
  · rw [if_neg (fun y => z y.2), if_pos (by omega), if_neg z]
theorem try_else {s : Sto} {r : Rc} (h : chkR r = 0) (h1 : ¬ r.k = 1) (h2 : ¬ r.k = 2) : tryE s r = 0 := by
  unfold tryE
  rw [if_neg (by rw [h]; simp), if_neg (fun z => h2 z.1), if_pos h1]

set_option maxHeartbeats 1000000 in
theorem stry_any {w : World} {B q : Nat} {v u : Value} {s : Sto} {es : List Ent} (r : Rc) (hm : Small r) (h : Sho w B q v u s.l es s.last) (hc : Cnt s.l es) (hk : s.Ok) :
    Calls Tryz.prog 60 #[.pointer (some ⟨q, 0, none⟩), .agg #[.int .i64 r.k, .int .i64 r.q, .int .i64 r.t, .string r.s, .string r.h, .string r.d]] w fun e w' => e = .returned (.int .i64 (tryE s r)) ∧ Below w.heap.size w w' := by
  have hr : RiseQ s.l := hk.rise
  have h200 := hk.few
  have hb0 : Below w.heap.size w (w.alloc (.cells #[.int .i64 r.k, .int .i64 r.q, .int .i64 r.t, .string r.s, .string r.h, .string r.d] 42)) := (Below.refl _ _).alloc (Nat.le_refl _) _
  have H0 := hide (h.below hb0)
  have HR := hide (RB.new w r.k r.q r.t r.s r.h r.d 42)
  have Hb0 := hide hb0
  have PC := hide (check_any r.k r.q r.t r.s r.h r.d (w.alloc (.cells #[.int .i64 r.k, .int .i64 r.q, .int .i64 r.t, .string r.s, .string r.h, .string r.d] 42)) hm.s hm.h hm.d)
  have hz := hm.s
  have HC := hide hc
  have Hr := hide hr
  clear h hb0 hm hk hc hr
  by_cases hg : chkR r = 0
  · have HZ : Hid (chkV r.k r.q r.t r.s r.h r.d = 0) := hide hg
    have F1 := right_msg hg
    have T1 := try_msg (s := s) hg
    have T2 := try_era (s := s) hg
    have T3 := try_else (s := s) hg
    clear hg
    rcases r with ⟨k, n, t, s', h', d'⟩
    by_cases hk1 : k = 1
    · subst hk1
      have HRt := hide (F1 rfl)
      have TT := hide (T1 rfl)
      clear T1 T2 T3 F1
      dsimp only at H0 HR Hb0 PC hz HZ ⊢
      go_enter Tryz.func60, Tryz.ntmps60
      go_wp2_with fail
      refine (unhide PC).mono ?_
      rintro e w1 ⟨rfl, b1⟩
      rw [unhide HZ]
      obtain ⟨_, x0, x1, x2, x3, x4, x5⟩ := (unhide HR).next b1
      have P := hide (stmsg_any ⟨1, n, t, s', h', d'⟩ ((unhide H0).below b1) (unhide HC) (unhide HRt) hz h200)
      have B1 := hide (bstep (unhide Hb0) b1)
      clear b1
      go_wp2_with fail
      refine (unhide P).mono ?_
      rintro e w2 ⟨rfl, b2⟩
      go_wp2_with fail
      go_ret
      exact ⟨ret_eq (unhide TT), bstep (unhide B1) b2⟩
    · by_cases hk2 : k = 2
      · subst hk2
        have TT := hide (T2 rfl)
        clear T1 T2 T3 F1
        dsimp only at H0 HR Hb0 PC hz HZ ⊢
        go_enter Tryz.func60, Tryz.ntmps60
        go_wp2_with fail
        refine (unhide PC).mono ?_
        rintro e w1 ⟨rfl, b1⟩
        rw [unhide HZ]
        obtain ⟨_, x0, x1, x2, x3, x4, x5⟩ := (unhide HR).next b1
        have P := hide (stera_any n ((unhide H0).below b1) (unhide Hr) h200)
        have B1 := hide (bstep (unhide Hb0) b1)
        clear b1
        go_wp2_with fail
        refine (unhide P).mono ?_
        rintro e w2 ⟨rfl, b2⟩
        go_wp2_with fail
        go_ret
        exact ⟨ret_eq (unhide TT), bstep (unhide B1) b2⟩
      · have T4 := hide (T3 hk1 hk2)
        clear T1 T2 T3 F1
        dsimp only at H0 HR Hb0 PC hz HZ ⊢
        go_enter Tryz.func60, Tryz.ntmps60
        go_wp2_with fail
        refine (unhide PC).mono ?_
        rintro e w1 ⟨rfl, b1⟩
        rw [unhide HZ]
        obtain ⟨_, x0, x1, x2, x3, x4, x5⟩ := (unhide HR).next b1
        have B1 := hide (bstep (unhide Hb0) b1)
        clear b1
        go_wp2_with fail
        go_ret
        exact ⟨ret_eq (unhide T4), unhide B1⟩
  · have R := hide (try_bad (s := s) hg)
    obtain ⟨E, hE⟩ : ∃ E, E = chkR r := ⟨_, rfl⟩
    have HE : Hid (chkV r.k r.q r.t r.s r.h r.d = E) := hide hE.symm
    rw [← hE] at hg R
    clear hE
    go_enter Tryz.func60, Tryz.ntmps60
    go_wp2_with fail
    refine (unhide PC).mono ?_
    rintro e w1 ⟨rfl, b1⟩
    rw [unhide HE]
    go_wp2_with fail
    go_ret
    exact ⟨ret_eq (unhide R), bstep (unhide Hb0) b1⟩
end Go.Proofs.YtmccpkpeimejhahGreatDoor.Dk
