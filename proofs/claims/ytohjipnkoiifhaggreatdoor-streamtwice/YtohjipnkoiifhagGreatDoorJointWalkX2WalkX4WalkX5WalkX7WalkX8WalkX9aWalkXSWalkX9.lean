/-
  The program's store: copies of records, counts of subjects, what a filter takes.
  The program's store: Try.
  The program's store: a message more (add), one less (erase).
  The program's store: purge.
  The program's store: Apply.
  The program's store: New, All.
  The program's store: Sums.
  The program's store: Subjects.
-/
import Derived.Test.YtohjipnkoiifhagGreatDoorJointRowXWalkX1WalkX3WalkX6aWalkX6
import Derived.Test.YtohjipnkoiifhagGreatDoorJointPlainSPlainR2PapGRowGPapNWorksGPapHWorksFRowBWalkC6RowY
import Derived.Test.YtohjipnkoiifhagGreatDoorJointWalkSplitWalk2Plain2Plain5PlainKWalk5aWalk5PlainI
import Derived.Test.YtohjipnkoiifhagGreatDoorJointWorksTaWorksTPapRgOsMOsR
import Derived.Test.YtohjipnkoiifhagGreatDoorJointWalkC1WalkC2RowSRowU
import Derived.Test.YtohjipnkoiifhagGreatDoorJointWalkI5WalkF
namespace Go.Proofs.YtohjipnkoiifhagGreatDoor.Dk
open Go.RowKit

/-- a record in a block that may be written -/
structure RF (w : World) (b : Nat) (r : Rc) : Prop where
  rb : RB w b r.k r.q r.t r.s r.h r.d
  fz : ∀ j, w.frozen? ⟨b, j, none⟩ = false
theorem RF.next {w w' : World} {b : Nat} {r : Rc} (h : RF w b r) (hb : Below w.heap.size w w') : RF w' b r := ⟨h.rb.next hb, fun j => (hb.frozen (p := ⟨b, j, none⟩) h.rb.lt).trans (h.fz j)⟩
theorem RF.new (w : World) (r : Rc) : RF (w.alloc (.cells #[.int .i64 r.k, .int .i64 r.q, .int .i64 r.t, .string r.s, .string r.h, .string r.d] 30)) w.heap.size r := ⟨RB.new w _ _ _ _ _ _ _, fun j => by simp⟩
theorem RF.set {w : World} {b : Nat} {r r' : Rc} (h : RF w b r) (p : Addr) (v : Value) (e : RB (w.setCell p v) b r'.k r'.q r'.t r'.s r'.h r'.d) : RF (w.setCell p v) b r' := ⟨e, fun j => by rw [World.frozen?_setCell]; exact h.fz j⟩
theorem RF.other {w : World} {b c i : Nat} {r : Rc} {v : Value} (h : RF w b r) (hc : c ≠ b) : RF (w.setCell ⟨c, i, none⟩ v) b r := ⟨h.rb.other hc, fun j => by rw [World.frozen?_setCell]; exact h.fz j⟩
theorem results_recX {fn : Func} {a : Tmp} {tmps : Array Value} {w : World} {b : Nat} {k q t : Int} {s h d : ByteArray} (hf : fn.results = #[.cell a 30]) (ha : tmps.getD a undef = .pointer (some ⟨b, 0, none⟩)) (r : RB w b k q t s h d) :
    (results fn tmps).run Tryz.prog w = .ok (.agg #[.int .i64 k, .int .i64 q, .int .i64 t, .string s, .string h, .string d]) w := by
  have ha' : tmps[a]?.getD undef = .pointer (some ⟨b, 0, none⟩) := by simpa using ha
  simp [results, hf, ha', asAddr, load_rec r]

set_option maxHeartbeats 1000000 in
theorem copyR_any (r : Rc) (hr : Small r) (w : World) :
    Calls Tryz.prog 29 #[.agg #[.int .i64 r.k, .int .i64 r.q, .int .i64 r.t, .string r.s, .string r.h, .string r.d]] w fun e w' => e = .returned (.agg #[.int .i64 r.k, .int .i64 r.q, .int .i64 r.t, .string r.s, .string r.h, .string r.d]) ∧ Below w.heap.size w w' := by
  obtain ⟨W, hW⟩ : ∃ W, W = (w.alloc (.cells #[.int .i64 r.k, .int .i64 r.q, .int .i64 r.t, .string r.s, .string r.h, .string r.d] 30)).alloc (.cells #[.int .i64 0, .int .i64 0, .int .i64 0, .string ⟨#[]⟩, .string ⟨#[]⟩, .string ⟨#[]⟩] 30) := ⟨_, rfl⟩
  have hb : Below w.heap.size w W := by rw [hW]; exact ((Below.refl _ _).alloc (Nat.le_refl _) _).alloc (by simp) _
  have P0 : RF W w.heap.size r := by rw [hW]; exact (RF.new w r).next ((Below.refl _ _).alloc (Nat.le_refl _) _)
  have Z0 : RF W (w.heap.size + 1) zeroR := by
    have := RF.new (w.alloc (.cells #[.int .i64 r.k, .int .i64 r.q, .int .i64 r.t, .string r.s, .string r.h, .string r.d] 30)) zeroR
    rw [World.size_alloc] at this
    rw [hW]; exact this
  have C1 := hide (clone_any r.s W (by have := hr.s; omega))
  have C2 : Hid (∀ X, Calls Tryz.prog 58 #[.string r.h] X fun e w' => e = .returned (.string r.h) ∧ Below X.heap.size X w') := hide (fun X => clone_any r.h X (by have := hr.h; omega))
  have C3 : Hid (∀ X, Calls Tryz.prog 58 #[.string r.d] X fun e w' => e = .returned (.string r.d) ∧ Below X.heap.size X w') := hide (fun X => clone_any r.d X (by have := hr.d; omega))
  go_enter Tryz.func29, Tryz.ntmps29
  go_wp2_with fail
  rw [← hW]
  have HB0 := hide hb
  have HZ0 := hide Z0
  have HP0 := hide P0
  clear hW hb Z0 P0
  refine (unhide C1).mono ?_
  rintro e w1 ⟨rfl, b1⟩
  have HB1 := hide (bstep (unhide HB0) b1)
  have P1 := (unhide HP0).next b1
  have Z1 := hide ((unhide HZ0).next b1)
  have x3 := P1.rb.c3
  have x4 := P1.rb.c4
  have f3 := P1.fz 3
  have HP1 := hide P1
  clear b1 P1 HP0 HZ0 HB0 C1
  go_wp2_with fail
  have HB2 := hide ((unhide HB1).setCell (p := ⟨w.heap.size, 3, none⟩) (Nat.le_refl _) (.string r.s))
  have HP2 := hide ((unhide HP1).set ⟨w.heap.size, 3, none⟩ (.string r.s) (r' := r) ((unhide HP1).rb.set3 r.s))
  have Z2 := hide ((unhide Z1).other (c := w.heap.size) (i := 3) (v := .string r.s) (by omega))
  clear HP1 HB1 Z1 x3 x4 f3
  generalize w1.setCell ⟨w.heap.size, 3, none⟩ (.string r.s) = w2 at *
  refine (unhide C2 _).mono ?_
  rintro e w3 ⟨rfl, b3⟩
  have HB3 := hide (bstep (unhide HB2) b3)
  have P3 := (unhide HP2).next b3
  have Z3 := hide ((unhide Z2).next b3)
  have x4 := P3.rb.c4
  have x5 := P3.rb.c5
  have f4 := P3.fz 4
  have HP3 := hide P3
  clear b3 P3 HP2 Z2 HB2 C2
  go_wp2_with fail
  have HB4 := hide ((unhide HB3).setCell (p := ⟨w.heap.size, 4, none⟩) (Nat.le_refl _) (.string r.h))
  have HP4 := hide ((unhide HP3).set ⟨w.heap.size, 4, none⟩ (.string r.h) (r' := r) ((unhide HP3).rb.set4 r.h))
  have Z4 := hide ((unhide Z3).other (c := w.heap.size) (i := 4) (v := .string r.h) (by omega))
  clear HP3 HB3 Z3 x4 x5 f4
  generalize w3.setCell ⟨w.heap.size, 4, none⟩ (.string r.h) = w4 at *
  refine (unhide C3 _).mono ?_
  rintro e w5 ⟨rfl, b5⟩
  have HB5 := hide (bstep (unhide HB4) b5)
  have P5 := (unhide HP4).next b5
  have Z5 := (unhide Z4).next b5
  obtain ⟨_, x0, x1, x2, x3, x4, x5⟩ := P5.rb
  obtain ⟨_, y0, y1, y2, y3, y4, y5⟩ := Z5.rb
  have f5 := P5.fz 5
  have g0 := Z5.fz 0
  have g1 := Z5.fz 1
  have g2 := Z5.fz 2
  have g3 := Z5.fz 3
  have g4 := Z5.fz 4
  have g5 := Z5.fz 5
  have HZ5 := hide Z5
  clear b5 P5 Z5 HP4 Z4 HB4 C3
  go_wp2_with fail
  refine bodyPost_ret (results_recX (b := w.heap.size + 1) rfl rfl (((((((((unhide HZ5).other (c := w.heap.size) (i := 5) (by omega)).rb.set0 r.k).set1 r.q).set2 r.t).set3 r.s).set4 r.h).set5 r.d))) rfl ?_
  exact ⟨rfl, (((((((unhide HB5).setCell (p := ⟨w.heap.size, 5, none⟩) (Nat.le_refl _) _).setCell (p := ⟨w.heap.size + 1, 0, none⟩) (Nat.le_succ _) _).setCell (p := ⟨w.heap.size + 1, 1, none⟩) (Nat.le_succ _) _).setCell (p := ⟨w.heap.size + 1, 2, none⟩) (Nat.le_succ _) _).setCell (p := ⟨w.heap.size + 1, 3, none⟩) (Nat.le_succ _) _).setCell (p := ⟨w.heap.size + 1, 4, none⟩) (Nat.le_succ _) _).setCell (p := ⟨w.heap.size + 1, 5, none⟩) (Nat.le_succ _) _⟩

set_option maxHeartbeats 400000 in
theorem scount_any {w : World} {B q : Nat} {v u : Value} {l : List Rc} {es : List Ent} {last : Int} (s : ByteArray) (h : Sho w B q v u l es last) (hg : Go.Proofs.YtohjipnkoiifhagGreatDoor.Good es) (hs : s.size ≤ 140737488355328) :
    Calls Tryz.prog 86 #[.pointer (some ⟨q, 0, none⟩), .string s] w fun e w' => e = .returned (.int .i64 (getN es s)) ∧ Below w.heap.size w w' := by
  go_enter Tryz.func86, Tryz.ntmps86
  go_wp2_with fail
  refine (get_any B q u es s _ h.keeps hg hs).mono ?_
  rintro e w1 ⟨rfl, hb⟩
  go_wp2_with fail
  go_ret
  exact ⟨rfl, hb⟩

set_option maxHeartbeats 400000 in
theorem off_any {w : World} {B q : Nat} {v u : Value} {l : List Rc} {es : List Ent} {last : Int} (s : ByteArray) (h : Sho w B q v u l es last) (hg : Go.Proofs.YtohjipnkoiifhagGreatDoor.Good es) (hs : s.size ≤ 140737488355328) (hB : B ≤ w.heap.size) (hn : getN es s ≤ 200) :
    Calls Tryz.prog 94 #[.pointer (some ⟨q, 0, none⟩), .string s] w fun e w' => e = .returned (.tuple #[]) ∧ Counts w w' B q v u l (offL es (getN es s) s) last := by
  have HH := hide h
  have HG := hide hg
  clear h hg
  obtain ⟨n, en⟩ : ∃ n, n = getN es s := ⟨_, rfl⟩
  rw [← en] at hn ⊢
  have EN := hide en
  clear en
  by_cases h1 : 1 < n
  · have hw : IntKind.i64.wrap (n - 1) = n - 1 := by rw [IntKind.wrap_i64]; omega
    have HO := hide (show offL es n s = putL es s (n - 1) from if_pos h1)
    go_enter Tryz.func94, Tryz.ntmps94
    go_wp2_with fail
    refine (scount_any s (unhide HH) (unhide HG) hs).mono ?_
    rintro e w1 ⟨rfl, hb⟩
    rw [← unhide EN]
    have H1 := hide ((unhide HH).below hb)
    have Hb := hide hb
    have P := hide (putO_any B q u es s (n - 1) w1 (unhide H1).keeps (unhide HG) hs (by have := hb.size; omega))
    clear hb
    go_wp2_with fail
    refine (unhide P).mono ?_
    rintro e w2 ⟨rfl, h2⟩
    have H2 := hide h2
    clear h2
    go_wp2_with fail
    go_end0
    refine ⟨rfl, ?_⟩
    rw [unhide HO]
    exact Counts.behind (unhide Hb) ((unhide H1).upd (unhide H2))
  · have HO := hide (show offL es n s = dropL es s from if_neg h1)
    go_enter Tryz.func94, Tryz.ntmps94
    go_wp2_with fail
    refine (scount_any s (unhide HH) (unhide HG) hs).mono ?_
    rintro e w1 ⟨rfl, hb⟩
    rw [← unhide EN]
    have H1 := hide ((unhide HH).below hb)
    have Hb := hide hb
    have P := hide (dropO_any B q u es s w1 (unhide H1).keeps (unhide HG) hs)
    clear hb
    go_wp2_with fail
    refine (unhide P).mono ?_
    rintro e w2 ⟨rfl, h2⟩
    have H2 := hide h2
    clear h2
    go_wp2_with fail
    go_end0
    refine ⟨rfl, ?_⟩
    rw [unhide HO]
    exact Counts.behind (unhide Hb) ((unhide H1).upd (unhide H2))

set_option maxHeartbeats 400000 in
theorem takes_any (f : ByteArray) (r : Rc) (hf : f.size ≤ 140737488355328) (hr : r.s.size ≤ 140737488355328) (w : World) :
    Calls Tryz.prog 96 #[.string f, .agg #[.int .i64 r.k, .int .i64 r.q, .int .i64 r.t, .string r.s, .string r.h, .string r.d]] w fun e w' => e = .returned (.bool (matchB f r.s)) ∧ Below w.heap.size w w' := by
  have hb0 : Below w.heap.size w (w.alloc (.cells #[.int .i64 r.k, .int .i64 r.q, .int .i64 r.t, .string r.s, .string r.h, .string r.d] 30)) := (Below.refl _ _).alloc (Nat.le_refl _) _
  have Hb0 := hide hb0
  clear hb0
  go_enter Tryz.func96, Tryz.ntmps96
  go_wp2_with fail
  refine (match_any f r.s _ hf hr).mono ?_
  rintro e w1 ⟨rfl, hb⟩
  go_wp2_with fail
  go_ret
  exact ⟨rfl, bstep (unhide Hb0) hb⟩
end Go.Proofs.YtohjipnkoiifhagGreatDoor.Dk

namespace Go.Proofs.YtohjipnkoiifhagGreatDoor.Dk
open Go.RowKit

theorem right_pur {r : Rc} (h : chkR r = 0) (h1 : r.k = 3) : errS true r.s = 0 := by
  have e := chkV_eq r.k r.q r.t r.s r.h r.d
  have e2 : chkV r.k r.q r.t r.s r.h r.d = 0 := h
  rw [e2] at e
  by_cases hb : Pk.inB r.k r.q r.t = false
  · rw [if_pos hb] at e; cases e
  · rw [if_neg hb, if_neg (by omega), if_pos h1] at e
    unfold purE at e
    by_cases z : errS true r.s ≠ 0
    · rw [if_pos z] at e; exact e.symm
    · exact Classical.byContradiction z
/-- what Try answers of a message that is right -/
def tmE (l : List Rc) (last : Int) (r : Rc) : Int := if r.q ≤ last then 9 else if 200 ≤ l.length ∨ (hasS l r.s = false ∧ 100 ≤ nameN l) then 8 else 0
theorem tm_low {l : List Rc} {last : Int} {r : Rc} (h : r.q ≤ last) : tmE l last r = 9 := if_pos h
theorem tm_full {l : List Rc} {last : Int} {r : Rc} (h : ¬ r.q ≤ last) (h2 : 200 ≤ l.length) : tmE l last r = 8 := by unfold tmE; rw [if_neg h, if_pos (.inl h2)]
theorem tm_many {l : List Rc} {last : Int} {r : Rc} (h : ¬ r.q ≤ last) (h2 : hasS l r.s = false) (h3 : 100 ≤ nameN l) : tmE l last r = 8 := by unfold tmE; rw [if_neg h, if_pos (.inr ⟨h2, h3⟩)]
theorem tm_has {l : List Rc} {last : Int} {r : Rc} (h : ¬ r.q ≤ last) (h1 : ¬ 200 ≤ l.length) (h2 : hasS l r.s = true) : tmE l last r = 0 := by
  unfold tmE; rw [if_neg h, if_neg (fun z => by rcases z with z | z; exact h1 z; rw [h2] at z; cases z.1)]
theorem tm_room {l : List Rc} {last : Int} {r : Rc} (h : ¬ r.q ≤ last) (h1 : ¬ 200 ≤ l.length) (h2 : ¬ 100 ≤ nameN l) : tmE l last r = 0 := by
  unfold tmE; rw [if_neg h, if_neg (fun z => by rcases z with z | z; exact h1 z; exact h2 z.2)]

set_option maxRecDepth 100000 in
set_option maxHeartbeats 1000000 in
theorem stmsg_any {w : World} {B q : Nat} {v u : Value} {l : List Rc} {es : List Ent} {last : Int} (r : Rc) (h : Sho w B q v u l es last) (hc : Cnt l es) (hr : errS false r.s = 0) (hs : r.s.size ≤ 140737488355328) (h200 : l.length ≤ 200) :
    Calls Tryz.prog 50 #[.pointer (some ⟨q, 0, none⟩), .agg #[.int .i64 r.k, .int .i64 r.q, .int .i64 r.t, .string r.s, .string r.h, .string r.d]] w fun e w' => e = .returned (.int .i64 (tmE l last r)) ∧ Below w.heap.size w w' := by
  have hb0 : Below w.heap.size w (w.alloc (.cells #[.int .i64 r.k, .int .i64 r.q, .int .i64 r.t, .string r.s, .string r.h, .string r.d] 30)) := (Below.refl _ _).alloc (Nat.le_refl _) _
  have Hb0 := hide hb0
  obtain ⟨a, cap, rfl, _⟩ := h.msgs.shape
  have c0 := h.c0
  have c2 := h.c2
  have hql := h.lt
  have g1 : (getN es r.s : Int) = (cntN l r.s : Int) := hc.get hr
  have g2 : (es.length : Int) = (nameN l : Int) := by rw [hc.len]
  have g3 := cntN_has l r.s
  have HS := hide h
  have HC := hide hc.good
  have P : Hid (∀ m, Calls Tryz.prog 86 #[.pointer (some ⟨q, 0, none⟩), .string r.s] ((w.alloc (.cells #[.int .i64 r.k, .int .i64 r.q, .int .i64 r.t, .string r.s, .string r.h, .string r.d] 30)).drewN m) fun e w' => e = .returned (.int .i64 (getN es r.s)) ∧ Below w.heap.size w w') := hide (fun m => by
    have b := below_drewN hb0 m
    refine (scount_any r.s (h.below b) hc.good hs).mono ?_
    rintro e w' ⟨he, hb⟩
    exact ⟨he, bstep b hb⟩)
  clear h hb0 hc
  by_cases h1 : r.q ≤ last
  · have R := hide (tm_low (l := l) h1)
    clear g1 g2 g3
    go_enter Tryz.func50, Tryz.ntmps50
    go_wp2_with fail
    go_quiet (fail)
    go_wp2_with fail
    go_ret
    exact ⟨ret_eq (unhide R), below_drewN (unhide Hb0) _⟩
  · by_cases h2 : 200 ≤ l.length
    · have R := hide (tm_full h1 h2)
      clear g1 g2 g3
      go_enter Tryz.func50, Tryz.ntmps50
      go_wp2_with fail
      go_quiet (fail)
      go_wp2_with fail
      go_ret
      exact ⟨ret_eq (unhide R), below_drewN (unhide Hb0) _⟩
    · obtain ⟨n, en⟩ : ∃ n, n = getN es r.s := ⟨_, rfl⟩
      rw [← en] at g1
      have EN := hide en
      clear en
      by_cases h3 : n = 0
      · subst h3
        have hz : hasS l r.s = false := by rw [g3]; exact decide_eq_false (by omega)
        by_cases h4 : 100 ≤ es.length
        · have R := hide (tm_many (r := r) h1 hz (by omega))
          clear g1 g2 g3 hz
          go_enter Tryz.func50, Tryz.ntmps50
          go_wp2_with fail
          go_quiet (fail)
          go_wp2_with fail
          refine (unhide P _).mono ?_
          rintro e w1 ⟨rfl, b1⟩
          rw [← unhide EN]
          have P2 := hide (count_any B q u es w1 ((unhide HS).below b1).keeps)
          have B1 := hide b1
          clear b1 P c0 c2
          go_wp2_with fail
          refine (unhide P2).mono ?_
          rintro e w2 ⟨rfl, rfl⟩
          go_wp2_with fail
          go_ret
          exact ⟨ret_eq (unhide R), unhide B1⟩
        · have R := hide (tm_room (r := r) h1 h2 (by omega))
          clear g1 g2 g3 hz
          go_enter Tryz.func50, Tryz.ntmps50
          go_wp2_with fail
          go_quiet (fail)
          go_wp2_with fail
          refine (unhide P _).mono ?_
          rintro e w1 ⟨rfl, b1⟩
          rw [← unhide EN]
          have P2 := hide (count_any B q u es w1 ((unhide HS).below b1).keeps)
          have B1 := hide b1
          clear b1 P c0 c2
          go_wp2_with fail
          refine (unhide P2).mono ?_
          rintro e w2 ⟨rfl, rfl⟩
          go_wp2_with fail
          go_ret
          exact ⟨ret_eq (unhide R), unhide B1⟩
      · have R := hide (tm_has (r := r) h1 h2 (by rw [g3]; exact decide_eq_true (by omega)))
        clear g1 g2 g3
        go_enter Tryz.func50, Tryz.ntmps50
        go_wp2_with fail
        go_quiet (fail)
        go_wp2_with fail
        refine (unhide P _).mono ?_
        rintro e w1 ⟨rfl, b1⟩
        rw [← unhide EN]
        have B1 := hide b1
        clear b1 P c0 c2
        go_wp2_with fail
        go_ret
        exact ⟨ret_eq (unhide R), unhide B1⟩

def erE (l : List Rc) (n : Int) : Int := if seqB l n = false then 4 else 0
set_option maxHeartbeats 400000 in
theorem stera_any {w : World} {B q : Nat} {v u : Value} {l : List Rc} {es : List Ent} {last : Int} (n : Int) (h : Sho w B q v u l es last) (hr : RiseQ l) (h200 : l.length ≤ 200) :
    Calls Tryz.prog 51 #[.pointer (some ⟨q, 0, none⟩), .int .i64 n] w fun e w' => e = .returned (.int .i64 (erE l n)) ∧ Below w.heap.size w w' := by
  cases hs : seqB l n
  all_goals
    have hE : erE l n = (if seqB l n = false then 4 else 0) := rfl
    rw [hs] at hE
    have HE := hide hE
    clear hE
    go_enter Tryz.func51, Tryz.ntmps51
    go_wp2_with fail
    refine (splace_any n h hr h200).mono ?_
    rintro e w1 ⟨rfl, hb⟩
    rw [hs]
    go_wp2_with fail
    go_ret
    exact ⟨ret_eq (by rw [unhide HE]; rfl), hb⟩

theorem try_bad {s : Sto} {r : Rc} (h : ¬ chkR r = 0) : tryE s r = chkR r := by unfold tryE; rw [if_pos h]
theorem try_msg {s : Sto} {r : Rc} (h : chkR r = 0) (h1 : r.k = 1) : tryE s r = tmE s.l s.last r := by
  unfold tryE tmE
  rw [if_neg (by rw [h]; simp), if_neg (by omega), if_neg (by omega)]
theorem try_era {s : Sto} {r : Rc} (h : chkR r = 0) (h1 : r.k = 2) : tryE s r = erE s.l r.q := by
  unfold tryE erE
  rw [if_neg (by rw [h]; simp)]
  by_cases z : seqB s.l r.q = false
  · rw [if_pos ⟨h1, z⟩, if_pos z]
  · rw [if_neg (fun y => z y.2), if_pos (by omega), if_neg z]
theorem try_else {s : Sto} {r : Rc} (h : chkR r = 0) (h1 : ¬ r.k = 1) (h2 : ¬ r.k = 2) : tryE s r = 0 := by
  unfold tryE
  rw [if_neg (by rw [h]; simp), if_neg (fun z => h2 z.1), if_pos h1]

set_option maxHeartbeats 1000000 in
theorem stry_any {w : World} {B q : Nat} {v u : Value} {s : Sto} {es : List Ent} (r : Rc) (hm : Small r) (h : Sho w B q v u s.l es s.last) (hc : Cnt s.l es) (hk : s.Ok) :
    Calls Tryz.prog 24 #[.pointer (some ⟨q, 0, none⟩), .agg #[.int .i64 r.k, .int .i64 r.q, .int .i64 r.t, .string r.s, .string r.h, .string r.d]] w fun e w' => e = .returned (.int .i64 (tryE s r)) ∧ Below w.heap.size w w' := by
  have hr : RiseQ s.l := hk.rise
  have h200 := hk.few
  have hb0 : Below w.heap.size w (w.alloc (.cells #[.int .i64 r.k, .int .i64 r.q, .int .i64 r.t, .string r.s, .string r.h, .string r.d] 30)) := (Below.refl _ _).alloc (Nat.le_refl _) _
  have H0 := hide (h.below hb0)
  have HR := hide (RB.new w r.k r.q r.t r.s r.h r.d 30)
  have Hb0 := hide hb0
  have PC := hide (check_any r.k r.q r.t r.s r.h r.d (w.alloc (.cells #[.int .i64 r.k, .int .i64 r.q, .int .i64 r.t, .string r.s, .string r.h, .string r.d] 30)) hm.s hm.h hm.d)
  have hz := hm.s
  have HC := hide hc
  have Hr := hide hr
  clear h hb0 hm hk hc hr
  by_cases hg : chkR r = 0
  · have HZ : Hid (chkV r.k r.q r.t r.s r.h r.d = 0) := hide hg
    have F1 := right_msg hg
    have T1 := try_msg (s := s) hg
    have T2 := try_era (s := s) hg
    have T3 := try_else (s := s) hg
    clear hg
    rcases r with ⟨k, n, t, s', h', d'⟩
    by_cases hk1 : k = 1
    · subst hk1
      have HRt := hide (F1 rfl)
      have TT := hide (T1 rfl)
      clear T1 T2 T3 F1
      dsimp only at H0 HR Hb0 PC hz HZ ⊢
      go_enter Tryz.func24, Tryz.ntmps24
      go_wp2_with fail
      refine (unhide PC).mono ?_
      rintro e w1 ⟨rfl, b1⟩
      rw [unhide HZ]
      obtain ⟨_, x0, x1, x2, x3, x4, x5⟩ := (unhide HR).next b1
      have P := hide (stmsg_any ⟨1, n, t, s', h', d'⟩ ((unhide H0).below b1) (unhide HC) (unhide HRt) hz h200)
      have B1 := hide (bstep (unhide Hb0) b1)
      clear b1
      go_wp2_with fail
      refine (unhide P).mono ?_
      rintro e w2 ⟨rfl, b2⟩
      go_wp2_with fail
      go_ret
      exact ⟨ret_eq (unhide TT), bstep (unhide B1) b2⟩
    · by_cases hk2 : k = 2
      · subst hk2
        have TT := hide (T2 rfl)
        clear T1 T2 T3 F1
        dsimp only at H0 HR Hb0 PC hz HZ ⊢
        go_enter Tryz.func24, Tryz.ntmps24
        go_wp2_with fail
        refine (unhide PC).mono ?_
        rintro e w1 ⟨rfl, b1⟩
        rw [unhide HZ]
        obtain ⟨_, x0, x1, x2, x3, x4, x5⟩ := (unhide HR).next b1
        have P := hide (stera_any n ((unhide H0).below b1) (unhide Hr) h200)
        have B1 := hide (bstep (unhide Hb0) b1)
        clear b1
        go_wp2_with fail
        refine (unhide P).mono ?_
        rintro e w2 ⟨rfl, b2⟩
        go_wp2_with fail
        go_ret
        exact ⟨ret_eq (unhide TT), bstep (unhide B1) b2⟩
      · have T4 := hide (T3 hk1 hk2)
        clear T1 T2 T3 F1
        dsimp only at H0 HR Hb0 PC hz HZ ⊢
        go_enter Tryz.func24, Tryz.ntmps24
        go_wp2_with fail
        refine (unhide PC).mono ?_
        rintro e w1 ⟨rfl, b1⟩
        rw [unhide HZ]
        obtain ⟨_, x0, x1, x2, x3, x4, x5⟩ := (unhide HR).next b1
        have B1 := hide (bstep (unhide Hb0) b1)
        clear b1
        go_wp2_with fail
        go_ret
        exact ⟨ret_eq (unhide T4), unhide B1⟩
  · have R := hide (try_bad (s := s) hg)
    obtain ⟨E, hE⟩ : ∃ E, E = chkR r := ⟨_, rfl⟩
    have HE : Hid (chkV r.k r.q r.t r.s r.h r.d = E) := hide hE.symm
    rw [← hE] at hg R
    clear hE
    go_enter Tryz.func24, Tryz.ntmps24
    go_wp2_with fail
    refine (unhide PC).mono ?_
    rintro e w1 ⟨rfl, b1⟩
    rw [unhide HE]
    go_wp2_with fail
    go_ret
    exact ⟨ret_eq (unhide R), bstep (unhide Hb0) b1⟩
end Go.Proofs.YtohjipnkoiifhagGreatDoor.Dk

namespace Go.Proofs.YtohjipnkoiifhagGreatDoor.Dk
open Go.RowKit

theorem ArrR.six {w : World} {B g cap : Nat} {l : List Rc} (h : ArrR w B (.slice (some ⟨g, 0, none⟩) l.length cap) l) {k : Nat} (hk : k < l.length) : Six w g (k * 6) (rc l k) := by
  obtain ⟨a, c, e, _, _, hs⟩ := h.shape
  obtain ⟨rfl, _, _⟩ := Value.slice.inj e
  obtain ⟨b, o, e2, s6⟩ := hs k hk
  cases e2
  rw [Nat.zero_add] at s6
  exact s6

theorem rb_chg {w w' : World} {b : Nat} {k q t : Int} {s h d : ByteArray} {A : Nat → Prop} (r : RB w b k q t s h d) (hc : Chg A w w') (hn : ¬ A b) : RB w' b k q t s h d :=
  ⟨Nat.lt_of_lt_of_le r.lt hc.size, by rw [hc.cell (p := ⟨b, 0, none⟩) r.lt hn]; exact r.c0, by rw [hc.cell (p := ⟨b, 1, none⟩) r.lt hn]; exact r.c1, by rw [hc.cell (p := ⟨b, 2, none⟩) r.lt hn]; exact r.c2, by rw [hc.cell (p := ⟨b, 3, none⟩) r.lt hn]; exact r.c3, by rw [hc.cell (p := ⟨b, 4, none⟩) r.lt hn]; exact r.c4, by rw [hc.cell (p := ⟨b, 5, none⟩) r.lt hn]; exact r.c5, fun j => by rw [hc.frozen (p := ⟨b, j, none⟩) r.lt hn]; exact r.fr j⟩
/-- the record is put behind the messages -/
theorem Sho.more {w : World} {B q : Nat} {a : Option Addr} {n cap : Nat} {u : Value} {l : List Rc} {es : List Ent} {last : Int} (r : Rc) (h : Sho w B q (.slice a n cap) u l es last) (h200 : l.length ≤ 200) (hB : B ≤ w.heap.size) (w3 : World) (b3 : Below w.heap.size w w3) :
    ∃ a' m' c' w8, (Builtin.append_ #[22, 22] 22 #[.slice a n cap, .slice (some ⟨w3.heap.size, 0, none⟩) 1 1]).run Tryz.prog (w3.alloc (.cells #[.int .i64 r.k, .int .i64 r.q, .int .i64 r.t, .string r.s, .string r.h, .string r.d] 30)) = .ok (.slice a' m' c') w8 ∧ w8.cell? ⟨q, 0, none⟩ = some (.slice a n cap) ∧ w8.frozen? ⟨q, 0, none⟩ = false ∧ Hid (Moves w (w8.setCell ⟨q, 0, none⟩ (.slice a' m' c')) B q (.slice a n cap) u (l ++ [r]) es last) := by
  have b4 : Below w3.heap.size w3 (w3.alloc (.cells #[.int .i64 r.k, .int .i64 r.q, .int .i64 r.t, .string r.s, .string r.h, .string r.d] 30)) := (Below.refl _ _).alloc (Nat.le_refl _) _
  have h4 := (h.below b3).below b4
  obtain ⟨v8, w8, hr, A8, C8, L8⟩ := append_rec _ B 22 _ l [r] h4.msgs ⟨w3.heap.size, 0, none⟩ 1 (six_row w3 r) (by simp; omega) (by have := b3.size; have := b4.size; omega)
  obtain ⟨a', c', rfl, _⟩ := A8.shape
  refine ⟨a', _, c', w8, hr, ?_, ?_, hide (Moves.behind (bstep b3 b4) (Moves.store h4 C8 A8 L8))⟩
  · rw [C8.cell (p := ⟨q, 0, none⟩) h4.lt h4.av]; exact h4.c0
  · rw [C8.frozen (p := ⟨q, 0, none⟩) h4.lt h4.av]; exact h4.free 0

set_option maxRecDepth 100000 in
set_option maxHeartbeats 2000000 in
theorem sadd_any {w : World} {B q : Nat} {v u : Value} {l : List Rc} {es : List Ent} {last : Int} (r : Rc) (hm : Small r) (h : Sho w B q v u l es last) (hg : Go.Proofs.YtohjipnkoiifhagGreatDoor.Good es) (h200 : l.length ≤ 200) (hB : B ≤ w.heap.size) (hn : getN es r.s ≤ 200) (hn0 : 0 ≤ getN es r.s) :
    Calls Tryz.prog 55 #[.pointer (some ⟨q, 0, none⟩), .agg #[.int .i64 r.k, .int .i64 r.q, .int .i64 r.t, .string r.s, .string r.h, .string r.d]] w fun e w' => e = .returned (.tuple #[]) ∧ Moves w w' B q v u (l ++ [r]) (putL es r.s (getN es r.s + 1)) r.q := by
  obtain ⟨w0, hw0⟩ : ∃ w0, w0 = w.alloc (.cells #[.int .i64 r.k, .int .i64 r.q, .int .i64 r.t, .string r.s, .string r.h, .string r.d] 30) := ⟨_, rfl⟩
  have hb0 : Below w.heap.size w w0 := by rw [hw0]; exact (Below.refl _ _).alloc (Nat.le_refl _) _
  have R0 : RB w0 w.heap.size r.k r.q r.t r.s r.h r.d := by rw [hw0]; exact RB.new w r.k r.q r.t r.s r.h r.d 30
  have h0 := h.below hb0
  obtain ⟨a, cap, rfl, _⟩ := h.msgs.shape
  have c0 := h0.c0
  have hql := h0.lt
  have hbl := R0.lt
  have hw0l : w.heap.size < w0.heap.size := R0.lt
  have hnf : ¬ feet q (.slice a l.length cap) u w.heap.size := fun z => by have := (h.own _ z).2; omega
  have HR0 := hide R0
  obtain ⟨_, x0, x1, x2, x3, x4, x5, _⟩ := R0
  have PC : Hid (∀ X, Calls Tryz.prog 29 #[.agg #[.int .i64 r.k, .int .i64 r.q, .int .i64 r.t, .string r.s, .string r.h, .string r.d]] X fun e w' => e = .returned (.agg #[.int .i64 r.k, .int .i64 r.q, .int .i64 r.t, .string r.s, .string r.h, .string r.d]) ∧ Below X.heap.size X w') := hide (fun X => copyR_any r hm X)
  have PA := hide (h0.more r h200 (by have := hb0.size; omega))
  have Hb0 := hide hb0
  have HN := hide hnf
  have HG := hide hg
  have hz := hm.s
  have hB0 : B ≤ w0.heap.size := by have := hb0.size; omega
  clear h h0 hb0 hg hnf hm
  go_enter Tryz.func55, Tryz.ntmps55
  go_wp2_with fail
  rw [← hw0]
  clear hw0
  go_region_law (first
    | (refine step_appendX rfl _ _ 22 22 rfl (.slice a l.length cap) _ (by first | (simp [Act.eval]; done) | (simp [Act.eval, Act.put]; done)) (by first | (simp [Act.eval]; done) | (simp [Act.eval, Act.put]; done)) hrun ?_)
    | (go_simp; go_at_call 29; refine (unhide PC _).mono ?_; rintro e w3 ⟨rfl, b3⟩; have d2 := (b3.cell (p := ⟨q, 0, none⟩) hql).trans c0; have hp3 := Nat.lt_of_lt_of_le hql b3.size; obtain ⟨a', m', c', w8, hrun, e0, f0, HM⟩ := unhide PA w3 (((Below.refl w0.heap.size w0).drew).trans b3); dsimp only))
  all_goals
    obtain ⟨v1, u1, s1, ch1, o1⟩ := unhide HM
    have R1 := rb_chg (unhide HR0) ch1 (unhide HN)
    generalize w8.setCell ⟨q, 0, none⟩ (.slice a' m' c') = W1 at *
    clear PC PA HR0 x0 x1 x2 x3 x4 x5 e0 f0 d2 hp3 b3 hrun HM c0 hbl
    have HS1 := hide s1
    have HR1 := hide R1
    have hq1 := s1.lt
    have hl1 := R1.lt
    obtain ⟨_, x0, x1, x2, x3, x4, x5, _⟩ := R1
    have HC1 := hide (And.intro ch1 o1)
    have HNf : Hid (¬ foot q u1 w.heap.size) := hide (fun z => by
      have hf : feet q v1 u1 w.heap.size := by
        rcases z with z | z
        · exact .inl z
        · exact .inr (.inr z)
      rcases o1 _ hf with y | y
      · exact unhide HN y
      · have := hw0l; omega)
    have hB1 : B ≤ W1.heap.size := by have := ch1.size; omega
    have hsd := s1.below (Below.refl _ W1).drew
    have PN := hide (scount_any r.s hsd (unhide HG) hz)
    obtain ⟨n, en⟩ : ∃ n, n = getN es r.s := ⟨_, rfl⟩
    rw [← en] at PN hn hn0
    have HE := hide en
    have hw1 : IntKind.i64.wrap (n + 1) = n + 1 := by rw [IntKind.wrap_i64]; omega
    clear s1 ch1 o1 en hsd
    go_wp2_with fail
    go_region_held3 (fun w' => w'.cell? ⟨w.heap.size, 3, none⟩ = some (.string r.s)) (first | assumption | go_keep)
      (first
        | (go_at_call 86; refine (unhide PN).mono ?_; rintro e w5 ⟨rfl, b5⟩; have B5 := hide (((Below.refl W1.heap.size W1).drew).trans b5); have y3 := ((unhide HR1).next (unhide B5)).c3)
        | (go_at_call 93; refine (putO_any B q u1 es r.s (n + 1) w5 ((unhide HS1).below (unhide B5)).keeps (unhide HG) hz (Nat.le_trans hB1 (unhide B5).size)).mono ?_; rintro e w6 ⟨rfl, hu⟩; have R6 := rb_chg ((unhide HR1).next (unhide B5)) (chgD (UpdO.chg hu)) (unhide HNf); have z3 := R6.c3))
    have s5 := (unhide HS1).below (unhide B5)
    have M6 := Moves.behind (unhide B5) (Moves.upd s5 hu)
    have HM6 := hide M6
    obtain ⟨v6, u6, s6, c6, o6⟩ := M6
    have k2 := s6.c2
    have kf := s6.free 2
    have kl := s6.lt
    have x1 := R6.c1
    have HF := hide (Moves.seq c6 o6 (Moves.number s6 r.q))
    have HC := hide (Moves.behind (unhide Hb0) (Moves.seq (unhide HC1).1 (unhide HC1).2 (unhide HF)))
    clear HF s6 c6 o6 s5 hu HM6 y3 z3 R6
    go_wp2_with fail
    go_end0
    refine ⟨rfl, ?_⟩
    rw [← unhide HE]
    exact unhide HC

set_option maxHeartbeats 1000000 in
theorem sera_any {w : World} {B q : Nat} {v u : Value} {l : List Rc} {es : List Ent} {last : Int} (n : Int) (h : Sho w B q v u l es last) (hr : RiseQ l) (hs : seqB l n = true) (hg : Go.Proofs.YtohjipnkoiifhagGreatDoor.Good es) (h200 : l.length ≤ 200) (hB : B ≤ w.heap.size) (hz : (rc l (pq l n)).s.size ≤ 140737488355328) (hn : getN es (rc l (pq l n)).s ≤ 200) :
    Calls Tryz.prog 56 #[.pointer (some ⟨q, 0, none⟩), .int .i64 n] w fun e w' => e = .returned (.tuple #[]) ∧ Moves w w' B q v u (delR l (pq l n)) (offL es (getN es (rc l (pq l n)).s) (rc l (pq l n)).s) last := by
  obtain ⟨p1, p2⟩ := seq_hit hr hs
  have PP := hide (splace_any n h hr h200)
  obtain ⟨p, hp⟩ : ∃ p, p = pq l n := ⟨_, rfl⟩
  rw [← hp] at p1 p2 PP hz hn ⊢
  clear hp p2
  obtain ⟨g, cap, rfl, c1, c2, c3, c4⟩ := h.msgs.there (by omega)
  unfold maxLen at c2
  have HH := hide h
  have HG := hide hg
  clear h hg hr hs
  go_enter Tryz.func56, Tryz.ntmps56
  go_wp2_with fail
  refine (unhide PP).mono ?_
  rintro e w1 ⟨rfl, b1⟩
  have h1 := (unhide HH).below b1
  have d0 := h1.c0
  obtain ⟨_, x0, x1, x2, x3, x4, x5⟩ := h1.msgs.six p1
  have P := hide (off_any (rc l p).s h1 (unhide HG) hz (by have := b1.size; omega) hn)
  have B1 := hide b1
  clear b1 h1 x0 x1 x2 x4 x5
  go_wp2_with fail
  refine (unhide P).mono ?_
  rintro e w2 ⟨rfl, k2⟩
  obtain ⟨u2, h2, ch2, o2⟩ := Counts.behind (unhide B1) k2
  have F2 := hide (Counts.feet (v := .slice (some ⟨g, 0, none⟩) l.length cap) ch2 o2)
  have e0 := h2.c0
  have PD := hide (deleteR_any B _ l p w2 h2.msgs p1 h200)
  have H2 := hide h2
  clear h2 ch2 o2 P x3 d0 k2
  go_wp2_with fail
  refine (unhide PD).mono ?_
  rintro e w3 ⟨v3, rfl, i1, i2, i3⟩
  obtain ⟨a3, cp3, rfl, _⟩ := i1.shape
  have d4 : w3.cell? ⟨q, 0, none⟩ = some (.slice (some ⟨g, 0, none⟩) l.length cap) := by rw [i2.cell (p := ⟨q, 0, none⟩) (unhide H2).lt (unhide H2).av]; exact e0
  have d5 : w3.frozen? ⟨q, 0, none⟩ = false := by rw [i2.frozen (p := ⟨q, 0, none⟩) (unhide H2).lt (unhide H2).av]; exact (unhide H2).free 0
  have HM := hide (Moves.store (unhide H2) i2 i1 i3)
  clear i1 i2 i3 e0 PD
  go_wp2_with fail
  go_end0
  exact ⟨rfl, Moves.seq (unhide F2).1 (unhide F2).2 (unhide HM)⟩
end Go.Proofs.YtohjipnkoiifhagGreatDoor.Dk

namespace Go.Proofs.YtohjipnkoiifhagGreatDoor.Dk
open Go.RowKit

theorem tk_match {f s : ByteArray} (hf : errS true f = 0) (hs : errS false s = 0) : matchB f s = tkB f s := by
  unfold matchB tkB
  rw [hf, hs]
  simp
/-- a purge on its way: k messages were looked at -/
structure Purg (w wr : World) (B q : Nat) (v u : Value) (l : List Rc) (last : Int) (f : ByteArray) (k : Nat) (sv : Value) : Prop where
  ex : ∃ u' es', Sho wr B q v u' l es' last ∧ Cnt (leftL f (l.take k) ++ l.drop k) es' ∧ Chg (feet q v u) w wr ∧ (∀ g, feet q v u' g → feet q v u g ∨ w.heap.size ≤ g) ∧ ArrR wr w.heap.size sv (leftL f (l.take k)) ∧ ∀ g, sv.ownBlock = some g → u'.ownBlock ≠ some g
  hq : q < w.heap.size
  hv : ∀ g, v.ownBlock = some g → g < w.heap.size

theorem cntN_le (l : List Rc) (s : ByteArray) : cntN l s ≤ l.length := List.length_filter_le _ _
section
variable {w wr w' : World} {B q : Nat} {v u sv : Value} {l : List Rc} {last : Int} {f : ByteArray} {k : Nat}
theorem Purg.below (h : Purg w wr B q v u l last f k sv) (hb : Below wr.heap.size wr w') : Purg w w' B q v u l last f k sv := by
  obtain ⟨u', es', s, cn, ch, o, ar, ap⟩ := h.ex
  exact ⟨⟨u', es', s.below hb, cn, ch.trans (Chg.of_below hb), o, ar.below hb, ap⟩, h.hq, h.hv⟩
theorem Purg.room (h : Purg w wr B q v u l last f k sv) : w.heap.size ≤ wr.heap.size := by
  obtain ⟨u', es', s, cn, ch, o, ar, ap⟩ := h.ex
  exact ch.size
theorem Purg.show (h : Purg w wr B q v u l last f k sv) (hk : k < l.length) {a : Option Addr} {n c : Nat} (hv : v = .slice a n c) : ∃ b o, a = some ⟨b, o, none⟩ ∧ Six wr b (o + k * 6) (rc l k) := by
  obtain ⟨u', es', s, cn, ch, o, ar, ap⟩ := h.ex
  obtain ⟨a', c', e, _, _, hs⟩ := s.msgs.shape
  rw [hv] at e
  obtain ⟨rfl, _, _⟩ := Value.slice.inj e
  exact hs k hk
theorem Purg.shape (h : Purg w wr B q v u l last f k sv) : ∃ a n c, sv = .slice a n c := by
  obtain ⟨u', es', s, cn, ch, o, ar, ap⟩ := h.ex
  obtain ⟨a', c', e, _⟩ := ar.shape
  exact ⟨_, _, _, e⟩
theorem Purg.count (h : Purg w wr B q v u l last f k sv) (hk : k < l.length) (ht : tkB f (rc l k).s = true) (hB : B ≤ w.heap.size) (h200 : l.length ≤ 200) (hm : ∀ x ∈ l, errS false x.s = 0 ∧ x.s.size ≤ 135) :
    Calls Tryz.prog 94 #[.pointer (some ⟨q, 0, none⟩), .string (rc l k).s] wr fun e w' => e = .returned (.tuple #[]) ∧ Purg w w' B q v u l last f (k + 1) sv := by
  obtain ⟨u', es', s, cn, ch, o, ar, ap⟩ := h.ex
  obtain ⟨m1, m2⟩ := hm _ (rc_mem hk)
  have hsp : leftL f (l.take k) ++ l.drop k = leftL f (l.take k) ++ rc l k :: l.drop (k + 1) := by rw [rc_get hk, ← List.drop_eq_getElem_cons hk]
  have hnl : (leftL f (l.take k) ++ l.drop k).length ≤ 200 := by
    have := left_len f (l.take k)
    rw [List.length_take] at this
    rw [List.length_append, List.length_drop]; omega
  have hgn : getN es' (rc l k).s ≤ 200 := by
    rw [cn.get m1]
    have := cntN_le (leftL f (l.take k) ++ l.drop k) (rc l k).s
    omega
  refine (off_any (rc l k).s s cn.good (by omega) (Nat.le_trans hB ch.size) hgn).mono ?_
  rintro e w' ⟨he, u2, s2, c2, o2⟩
  obtain ⟨F1, F2⟩ := Counts.feet (v := v) c2 o2
  refine ⟨he, ⟨⟨u2, _, s2, ?_, ?_, ?_, ?_, ?_⟩, h.hq, h.hv⟩⟩
  · rw [hsp] at cn
    have := Cnt.off cn m1 (by omega)
    rw [left_take hk, ht, if_pos rfl, List.append_nil]
    exact this
  · refine ⟨F1.os.trans ch.os, F1.tape.trans ch.tape, F1.output.trans ch.output, Nat.le_trans ch.size F1.size, fun i hi hn => ?_⟩
    rw [F1.block i (by have := ch.size; omega) (fun z => ?_)]
    · exact ch.block i hi hn
    · rcases o i z with y | y
      · exact hn y
      · omega
  · intro g hg
    rcases F2 g hg with y | y
    · exact o g y
    · right; have := ch.size; omega
  · rw [left_take hk, ht, if_pos rfl, List.append_nil]
    refine ar.chg c2 (fun g hg z => ?_)
    rcases z with z | z
    · have := (ar.lt g hg).1; have := h.hq; omega
    · exact ap g hg z
  · intro g hg z
    rcases o2 g z with y | y
    · exact ap g hg y
    · have := (ar.lt g hg).2; omega
theorem Purg.more (h : Purg w wr B q v u l last f k sv) (hk : k < l.length) (ht : tkB f (rc l k).s = false) (h200 : l.length ≤ 200) :
    ∃ a' n' c' w', (Builtin.append_ #[22, 22] 22 #[sv, .slice (some ⟨wr.heap.size, 0, none⟩) 1 1]).run Tryz.prog (wr.alloc (.cells #[.int .i64 (rc l k).k, .int .i64 (rc l k).q, .int .i64 (rc l k).t, .string (rc l k).s, .string (rc l k).h, .string (rc l k).d] 30)) = .ok (.slice a' n' c') w' ∧ Purg w w' B q v u l last f (k + 1) (.slice a' n' c') := by
  have b4 : Below wr.heap.size wr (wr.alloc (.cells #[.int .i64 (rc l k).k, .int .i64 (rc l k).q, .int .i64 (rc l k).t, .string (rc l k).s, .string (rc l k).h, .string (rc l k).d] 30)) := (Below.refl _ _).alloc (Nat.le_refl _) _
  obtain ⟨u', es', s, cn, ch, o, ar, ap⟩ := (h.below b4).ex
  have hnl : (leftL f (l.take k)).length ≤ 200 := by
    have := left_len f (l.take k)
    rw [List.length_take] at this; omega
  obtain ⟨v8, w8, hr, A8, C8, L8⟩ := append_rec _ w.heap.size 22 sv _ [rc l k] ar ⟨wr.heap.size, 0, none⟩ 1 (six_row wr (rc l k)) (by simp; omega) ch.size
  obtain ⟨a', c', rfl, _⟩ := A8.shape
  have hsp : l.drop k = rc l k :: l.drop (k + 1) := by rw [rc_get hk, ← List.drop_eq_getElem_cons hk]
  have hlt : leftL f (l.take (k + 1)) = leftL f (l.take k) ++ [rc l k] := by rw [left_take hk, ht]; rfl
  have hown : ∀ g, sv.ownBlock = some g → ¬ feet q v u' g := fun g hg z => by
    have h1 := (ar.lt g hg).1
    rcases z with z | z | z
    · have := h.hq; omega
    · have := h.hv g z; omega
    · exact ap g hg z
  refine ⟨a', _, c', w8, hr, ⟨⟨u', es', s.chg C8 (fun g hg z => hown g z hg), ?_, ?_, o, by rw [hlt]; exact A8, ?_⟩, h.hq, h.hv⟩⟩
  · rw [hlt, List.append_assoc, List.singleton_append, ← hsp]; exact cn
  · refine ⟨C8.os.trans ch.os, C8.tape.trans ch.tape, C8.output.trans ch.output, Nat.le_trans ch.size C8.size, fun i hi hn => ?_⟩
    rw [C8.block i (by have := ch.size; omega) (fun z => by have := (ar.lt i z).1; omega)]
    exact ch.block i hi hn
  · intro g hg z
    rcases L8 g hg with y | y
    · exact ap g y z
    · have := (s.cnts.lt g z).2; omega
theorem Purg.fin {a : Option Addr} {n c : Nat} (h : Purg w wr B q (.slice a n c) u l last f k sv) (hk : k ≤ l.length) (h200 : l.length ≤ 200) :
    Calls Tryz.prog 97 #[.slice a n c, .int .i64 0, .int .i64 k, sv] wr fun e w' => ∃ a' n' c', e = .returned (.slice a' n' c') ∧ w'.cell? ⟨q, 0, none⟩ = some (.slice a n c) ∧ w'.frozen? ⟨q, 0, none⟩ = false ∧ Hid (∃ es', Moves w (w'.setCell ⟨q, 0, none⟩ (.slice a' n' c')) B q (.slice a n c) u (leftL f (l.take k) ++ l.drop k) es' last ∧ Cnt (leftL f (l.take k) ++ l.drop k) es') := by
  obtain ⟨u', es', s, cn, ch, o, ar, ap⟩ := h.ex
  refine (replace_any s.msgs ar (by have := left_len f (l.take k); rw [List.length_take] at this; omega) hk h200 (fun g hg z => by have := h.hv g hg; have := (ar.lt g z).1; omega)).mono ?_
  rintro e w' ⟨v', rfl, A8, C8, L8⟩
  obtain ⟨a', c', rfl, _⟩ := A8.shape
  refine ⟨a', _, c', rfl, ?_, ?_, hide ⟨es', Moves.seq ch o (Moves.store s C8 A8 L8), cn⟩⟩
  · rw [C8.cell (p := ⟨q, 0, none⟩) s.lt s.av]; exact s.c0
  · rw [C8.frozen (p := ⟨q, 0, none⟩) s.lt s.av]; exact s.free 0
end
set_option maxRecDepth 100000 in
set_option maxHeartbeats 2000000 in
theorem spur_any {w : World} {B q : Nat} {v u : Value} {l : List Rc} {es : List Ent} {last : Int} (f : ByteArray) (n : Int) (hf : errS true f = 0) (hfz : f.size ≤ 140737488355328) (h : Sho w B q v u l es last) (hr : RiseQ l) (hc : Cnt l es) (h200 : l.length ≤ 200) (hm : ∀ x ∈ l, errS false x.s = 0 ∧ x.s.size ≤ 135) (hB : B ≤ w.heap.size) :
    Calls Tryz.prog 57 #[.pointer (some ⟨q, 0, none⟩), .string f, .int .i64 n] w fun e w' => e = .returned (.tuple #[]) ∧ ∃ es', Moves w w' B q v u (leftL f (l.take (pq l n)) ++ l.drop (pq l n)) es' last ∧ Cnt (leftL f (l.take (pq l n)) ++ l.drop (pq l n)) es' := by
  have PP := hide (splace_any n h hr h200)
  have hpl := pq_le l n
  obtain ⟨p, hp⟩ : ∃ p, p = pq l n := ⟨_, rfl⟩
  rw [← hp] at PP hpl ⊢
  clear hp
  obtain ⟨a, cap, rfl, c1, c2, hsl⟩ := h.msgs.shape
  unfold maxLen at c2
  have HH := hide h
  have HC := hide hc
  have HM := hide hm
  clear h hc hr hm
  go_enter Tryz.func57, Tryz.ntmps57
  go_wp2_with fail
  refine (unhide PP).mono ?_
  rintro e w1 ⟨rfl, b1⟩
  have h1 := (unhide HH).below b1
  have d0 := h1.c0
  have e0 : (0 : Int) ≤ (p : Int) := by omega
  have e1 : (p : Int) ≤ (l.length : Int) := by omega
  have e2 : p ≤ cap := by omega
  clear PP
  have HP : Hid (Purg w w1 B q (.slice a l.length cap) u l last f 0 (.slice none 0 0)) := hide ⟨⟨u, es, h1, by simpa [leftL] using unhide HC, Chg.of_below b1, fun g hg => .inl hg, ArrR.empty _ _, fun g hg => by simp [Value.ownBlock] at hg⟩, (unhide HH).lt, fun g hg => ((unhide HH).msgs.lt g hg).2⟩
  have PT : Hid (∀ k, k < l.length → ∀ X, Calls Tryz.prog 96 #[.string f, .agg #[.int .i64 (rc l k).k, .int .i64 (rc l k).q, .int .i64 (rc l k).t, .string (rc l k).s, .string (rc l k).h, .string (rc l k).d]] X fun e w' => e = .returned (.bool (tkB f (rc l k).s)) ∧ Below X.heap.size X w') := hide (fun k hk X => by
    obtain ⟨m1, m2⟩ := unhide HM _ (rc_mem hk)
    have := takes_any f (rc l k) hfz (by omega) X
    rw [tk_match hf m1] at this
    exact this)
  clear h1 b1 hsl hf
  go_wp2_with fail
  clear d0
  go_loopw [8, 24] (fun sv kv wr => ∃ (k : Nat), kv = .int .i64 k ∧ k ≤ p ∧ Hid (Purg w wr B q (.slice a l.length cap) u l last f k sv)) (fun _ kv _ => p - (intOf kv).toNat)
  case atStart => exact ⟨0, rfl, Nat.zero_le _, HP⟩
  case round =>
    clear HP
    obtain ⟨k, rfl, hk, HP⟩ := hrel
    obtain ⟨sa, sn, sc, rfl⟩ := (unhide HP).shape
    by_cases hlt : k < p
    · obtain ⟨b, o, rfl, s6⟩ := (unhide HP).show (by omega) rfl
      have hkl : k < l.length := by omega
      have T := hide (unhide PT k hkl)
      have K1 : Hid (∀ w5, Below wr.heap.size wr w5 → tkB f (rc l k).s = true → Calls Tryz.prog 94 #[.pointer (some ⟨q, 0, none⟩), .string (rc l k).s] w5 fun e w' => e = .returned (.tuple #[]) ∧ Purg w w' B q (.slice (some ⟨b, o, none⟩) l.length cap) u l last f (k + 1) (.slice sa sn sc)) := hide (fun w5 b5 ht => ((unhide HP).below b5).count hkl ht hB h200 (unhide HM))
      have K2 : Hid (∀ w5, Below wr.heap.size wr w5 → tkB f (rc l k).s = false → ∃ a' n' c' w', (Builtin.append_ #[22, 22] 22 #[.slice sa sn sc, .slice (some ⟨w5.heap.size, 0, none⟩) 1 1]).run Tryz.prog (w5.alloc (.cells #[.int .i64 (rc l k).k, .int .i64 (rc l k).q, .int .i64 (rc l k).t, .string (rc l k).s, .string (rc l k).h, .string (rc l k).d] 30)) = .ok (.slice a' n' c') w' ∧ Purg w w' B q (.slice (some ⟨b, o, none⟩) l.length cap) u l last f (k + 1) (.slice a' n' c')) := hide (fun w5 b5 ht => ((unhide HP).below b5).more hkl ht h200)
      generalize rc l k = y at *
      obtain ⟨_, x0, x1, x2, x3, x4, x5⟩ := s6
      have hb0 : Below wr.heap.size wr (wr.alloc (.cells #[.int .i64 y.k, .int .i64 y.q, .int .i64 y.t, .string y.s, .string y.h, .string y.d] 30)) := (Below.refl _ _).alloc (Nat.le_refl _) _
      have R0 := hide (RB.new wr y.k y.q y.t y.s y.h y.d 30)
      have Hb0 := hide hb0
      clear hb0 PT
      go_wp2_with fail
      refine (unhide T _).mono ?_
      rintro e w5 ⟨rfl, b5⟩
      have B5 := hide (bstep (unhide Hb0) b5)
      obtain ⟨_, y0, y1, y2, y3, y4, y5, _⟩ := (unhide R0).next b5
      clear x0 x1 x2 x3 x4 x5 b5 T R0 Hb0
      cases ht : tkB f y.s with
      | true =>
        have C := hide (unhide K1 w5 (unhide B5) ht)
        clear K1 K2 ht
        go_wp2_with fail
        refine (unhide C).mono ?_
        rintro e w6 ⟨rfl, p6⟩
        have P6 := hide p6
        clear p6 C
        go_wp2_with fail
        refine ⟨⟨k + 1, by go_num, by omega, P6⟩, ?_⟩
        simp [intOf]; omega
      | false =>
        obtain ⟨a', n', c', w6, hrun, p6⟩ := unhide K2 w5 (unhide B5) ht
        have P6 := hide p6
        clear K1 K2 ht p6
        go_wp2_with (at_builtin; refine Lib.wpList_append_run _ rfl _ _ _ _ rfl _ _ rfl rfl _ _ hrun ?_)
        refine ⟨⟨k + 1, by go_num, by omega, P6⟩, ?_⟩
        simp [intOf]; omega
    · obtain rfl : k = p := by omega
      have PF := hide ((unhide HP).fin hpl h200)
      have d0 : wr.cell? ⟨q, 0, none⟩ = some (.slice a l.length cap) := by
        obtain ⟨u', es', s, _⟩ := (unhide HP).ex
        exact s.c0
      clear HP
      go_wp2_with fail
      refine (unhide PF).mono ?_
      rintro e w6 ⟨a', n', c', rfl, f0, f1, HF⟩
      clear PF d0
      go_wp2_with fail
      go_end0
      exact ⟨rfl, unhide HF⟩
end Go.Proofs.YtohjipnkoiifhagGreatDoor.Dk

namespace Go.Proofs.YtohjipnkoiifhagGreatDoor.Dk
open Go.RowKit

theorem try_chk {s : Sto} {r : Rc} (h : tryE s r = 0) : chkR r = 0 := by
  apply Classical.byContradiction
  intro z
  rw [try_bad z] at h
  exact z h
theorem apl_bad {s : Sto} {r : Rc} (h : ¬ tryE s r = 0) : aplS s r = s := by unfold aplS; rw [if_pos h]
theorem apl_msg {s : Sto} {r : Rc} (h : tryE s r = 0) (h1 : r.k = 1) : aplS s r = ⟨s.l ++ [r], r.q⟩ := by
  unfold aplS; rw [if_neg (by rw [h]; simp), if_pos h1]
theorem apl_mark {s : Sto} {r : Rc} (h : tryE s r = 0) (h1 : r.k = 4) : aplS s r = ⟨s.l, max s.last r.q⟩ := by
  unfold aplS; rw [if_neg (by rw [h]; simp), if_neg (by omega), if_pos h1]
theorem apl_era {s : Sto} {r : Rc} (h : tryE s r = 0) (h1 : r.k = 2) (hr : RiseQ s.l) (hs : seqB s.l r.q = true) : aplS s r = ⟨delR s.l (pq s.l r.q), s.last⟩ := by
  unfold aplS; rw [if_neg (by rw [h]; simp), if_neg (by omega), if_neg (by omega), ← erase_is hr hs]
  unfold goneB
  rw [h1]
  simp
theorem apl_pur {s : Sto} {r : Rc} (h : tryE s r = 0) (h1 : r.k = 3) (hr : RiseQ s.l) : aplS s r = ⟨leftL r.s (s.l.take (pq s.l r.q)) ++ s.l.drop (pq s.l r.q), s.last⟩ := by
  rw [purge_left h h1, purge_is hr]
theorem try_seq {s : Sto} {r : Rc} (h : tryE s r = 0) (h1 : r.k = 2) : seqB s.l r.q = true := by
  rw [try_era (try_chk h) h1] at h
  unfold erE at h
  cases z : seqB s.l r.q
  · rw [z] at h; cases h
  · rfl
theorem sto_room {s : Sto} {r : Rc} {es : List Ent} (hc : Cnt s.l es) (h : tryE s r = 0) (h1 : r.k = 1) : 0 < cntN s.l r.s ∨ es.length < 100 := by
  rw [try_msg (try_chk h) h1] at h
  unfold tmE at h
  split at h
  · cases h
  · split at h
    · cases h
    · rename_i z y
      rw [hc.len]
      by_cases q : nameN s.l < 100
      · exact .inr q
      · left
        have hh : hasS s.l r.s = true := by
          cases x : hasS s.l r.s
          · exact absurd (.inr ⟨x, by omega⟩) y
          · rfl
        rw [cntN_has] at hh
        exact of_decide_eq_true hh
theorem Moves.drew {w w' : World} {B q : Nat} {v u : Value} {l : List Rc} {es : List Ent} {last : Int} (h : Moves w w' B q v u l es last) : Moves w w'.drew B q v u l es last := by
  obtain ⟨v', u', s, c, o⟩ := h
  exact ⟨v', u', s.below (Below.refl _ _).drew, c.trans (Chg.of_below (Below.refl _ _).drew), o⟩
/-- what a call of Apply makes of it -/
def Done (w w' : World) (B q : Nat) (v u : Value) (s' : Sto) : Prop := ∃ es', Moves w w' B q v u s'.l es' s'.last ∧ Cnt s'.l es'
theorem Done.behind {w w1 w' : World} {B q : Nat} {v u : Value} {s' : Sto} (hb : Below w.heap.size w w1) (h : Done w1 w' B q v u s') : Done w w' B q v u s' := by
  obtain ⟨es', m, c⟩ := h
  exact ⟨es', m.behind hb, c⟩

set_option maxRecDepth 100000 in
set_option maxHeartbeats 2000000 in
theorem sapply_any {w : World} {B q : Nat} {v u : Value} {s : Sto} {es : List Ent} (r : Rc) (hm : Small r) (h : Sho w B q v u s.l es s.last) (hc : Cnt s.l es) (hk : s.Ok) (hB : B ≤ w.heap.size) :
    Calls Tryz.prog 27 #[.pointer (some ⟨q, 0, none⟩), .agg #[.int .i64 r.k, .int .i64 r.q, .int .i64 r.t, .string r.s, .string r.h, .string r.d]] w fun e w' => e = .returned (.int .i64 (tryE s r)) ∧ Done w w' B q v u (aplS s r) := by
  have hb0 : Below w.heap.size w (w.alloc (.cells #[.int .i64 r.k, .int .i64 r.q, .int .i64 r.t, .string r.s, .string r.h, .string r.d] 30)) := (Below.refl _ _).alloc (Nat.le_refl _) _
  have h0 := h.below hb0
  have PT := hide (stry_any r hm h0 hc hk)
  have HR := hide (RB.new w r.k r.q r.t r.s r.h r.d 30)
  have Hb0 := hide hb0
  have H0 := hide h0
  have hr : RiseQ s.l := hk.rise
  have h200 := hk.few
  have HMs : Hid (∀ x ∈ s.l, errS false x.s = 0 ∧ x.s.size ≤ 135) := hide (fun x hx => ⟨right_msg (hk.msg x hx).2 (hk.msg x hx).1, (hk.small hx).1⟩)
  have hl := hk.last
  have HC := hide hc
  have Hr := hide hr
  clear hk
  by_cases ht : tryE s r = 0
  · have hg := try_chk ht
    have hq := chkR_in hg
    have HT := hide ht
    have A1 := apl_msg ht
    have A2 := fun h1 => apl_era ht h1 hr (try_seq ht h1)
    have A3 := fun h1 => apl_pur ht h1 hr
    have A4 := apl_mark ht
    have S2 := try_seq ht
    have Rm := right_msg hg
    have Rp := right_pur hg
    have Ro := sto_room hc ht
    have K4 : r.k = 1 ∨ r.k = 2 ∨ r.k = 3 ∨ r.k = 4 := by
      obtain ⟨z1, z2, _⟩ := Pk.chk_len (r := r.pk) hg
      have z1 : 1 ≤ r.k := z1
      have z2 : r.k ≤ 4 := z2
      omega
    clear h hb0 h0 hc hr ht hg
    rcases r with ⟨k, n, t, s', h', d'⟩
    dsimp only at HR Hb0 H0 PT HT hq K4 ⊢
    have hz : s'.size ≤ 140737488355328 := hm.s
    rcases K4 with rfl | rfl | rfl | rfl
    · have AA := hide (A1 rfl)
      have G0 : getN es s' = (cntN s.l s' : Int) := (unhide HC).get (Rm rfl)
      have G1 := cntN_le s.l s'
      have hn1 : getN es s' ≤ 200 := by omega
      have hn0 : 0 ≤ getN es s' := by omega
      have CC : Hid (Cnt (s.l ++ [⟨1, n, t, s', h', d'⟩]) (putL es s' (getN es s' + 1))) := hide (by rw [G0]; exact (unhide HC).put ⟨1, n, t, s', h', d'⟩ (Rm rfl) hz (Ro rfl))
      clear A1 A2 A3 A4 S2 Rm Rp Ro G0 G1
      go_enter Tryz.func27, Tryz.ntmps27
      go_wp2_with fail
      refine (unhide PT).mono ?_
      rintro e w1 ⟨rfl, b1⟩
      rw [unhide HT]
      obtain ⟨_, x0, x1, x2, x3, x4, x5, _⟩ := (unhide HR).next b1
      have B1 := hide (bstep (unhide Hb0) b1)
      have H1 := hide ((unhide H0).below b1)
      have hB1 : B ≤ w1.heap.size := Nat.le_trans hB (unhide B1).size
      clear b1
      have P := hide (sadd_any ⟨1, n, t, s', h', d'⟩ hm (unhide H1) (unhide HC).good h200 hB1 hn1 hn0)
      go_wp2_with fail
      refine (unhide P).mono ?_
      rintro e w2 ⟨rfl, m2⟩
      have M2 := hide m2
      clear P m2 x0 x1 x2 x3 x4 x5
      go_wp2_with fail
      go_ret
      refine ⟨ret_eq (unhide HT), ?_⟩
      rw [unhide AA]
      exact Done.behind (unhide B1) ⟨_, unhide M2, unhide CC⟩
    · have AA := hide (A2 rfl)
      have hs0 : seqB s.l n = true := S2 rfl
      obtain ⟨p1, p2⟩ := seq_hit (unhide Hr) hs0
      have hs := hide hs0
      obtain ⟨m1, m2⟩ := unhide HMs _ (rc_mem p1)
      have G0 : getN es (rc s.l (pq s.l n)).s = (cntN s.l (rc s.l (pq s.l n)).s : Int) := (unhide HC).get m1
      have G1 := cntN_le s.l (rc s.l (pq s.l n)).s
      have hn1 : Hid (getN es (rc s.l (pq s.l n)).s ≤ 200) := hide (by omega)
      have CC : Hid (Cnt (delR s.l (pq s.l n)) (offL es (getN es (rc s.l (pq s.l n)).s) (rc s.l (pq s.l n)).s)) := hide (by
        have c := unhide HC
        rw [split_at p1] at c
        exact Cnt.off c m1 (by omega))
      have hm2 : Hid ((rc s.l (pq s.l n)).s.size ≤ 140737488355328) := hide (by omega)
      clear A1 A2 A3 A4 S2 Rm Rp Ro G0 G1 p1 p2 m1 m2 hs0
      go_enter Tryz.func27, Tryz.ntmps27
      go_wp2_with fail
      refine (unhide PT).mono ?_
      rintro e w1 ⟨rfl, b1⟩
      rw [unhide HT]
      obtain ⟨_, x0, x1, x2, x3, x4, x5, _⟩ := (unhide HR).next b1
      have B1 := hide (bstep (unhide Hb0) b1)
      have H1 := hide ((unhide H0).below b1)
      have hB1 : B ≤ w1.heap.size := Nat.le_trans hB (unhide B1).size
      clear b1
      have P := hide (sera_any n (unhide H1) (unhide Hr) (unhide hs) (unhide HC).good h200 hB1 (unhide hm2) (unhide hn1))
      go_wp2_with fail
      refine (unhide P).mono ?_
      rintro e w2 ⟨rfl, m2⟩
      have M2 := hide m2
      clear P m2 x0 x1 x2 x3 x4 x5
      go_wp2_with fail
      go_ret
      refine ⟨ret_eq (unhide HT), ?_⟩
      rw [unhide AA]
      exact Done.behind (unhide B1) ⟨_, unhide M2, unhide CC⟩
    · have AA := hide (A3 rfl)
      have hf := hide (Rp rfl)
      clear A1 A2 A3 A4 S2 Rm Rp Ro
      go_enter Tryz.func27, Tryz.ntmps27
      go_wp2_with fail
      refine (unhide PT).mono ?_
      rintro e w1 ⟨rfl, b1⟩
      rw [unhide HT]
      obtain ⟨_, x0, x1, x2, x3, x4, x5, _⟩ := (unhide HR).next b1
      have B1 := hide (bstep (unhide Hb0) b1)
      have H1 := hide ((unhide H0).below b1)
      have hB1 : B ≤ w1.heap.size := Nat.le_trans hB (unhide B1).size
      clear b1
      have P := hide (spur_any s' n (unhide hf) hz (unhide H1) (unhide Hr) (unhide HC) h200 (unhide HMs) hB1)
      go_wp2_with fail
      refine (unhide P).mono ?_
      rintro e w2 ⟨rfl, m2⟩
      have M2 := hide m2
      clear P m2 x0 x1 x2 x3 x4 x5
      go_wp2_with fail
      go_ret
      refine ⟨ret_eq (unhide HT), ?_⟩
      rw [unhide AA]
      exact Done.behind (unhide B1) (unhide M2)
    · have AA := hide (A4 rfl)
      clear A1 A2 A3 A4 S2 Rm Rp Ro
      go_enter Tryz.func27, Tryz.ntmps27
      go_wp2_with fail
      refine (unhide PT).mono ?_
      rintro e w1 ⟨rfl, b1⟩
      rw [unhide HT]
      obtain ⟨_, x0, x1, x2, x3, x4, x5, _⟩ := (unhide HR).next b1
      have B1 := hide (bstep (unhide Hb0) b1)
      have H1 := hide ((unhide H0).below b1)
      have hB1 : B ≤ w1.heap.size := Nat.le_trans hB (unhide B1).size
      clear b1
      have k2 := (unhide H1).c2
      have kf := (unhide H1).free 2
      have kl := (unhide H1).lt
      have M2 := hide (Moves.number (unhide H1) (max s.last n))
      go_wp2_with fail
      go_region
      all_goals go_wp2_with fail
      all_goals go_ret
      all_goals refine ⟨ret_eq (unhide HT), ?_⟩
      all_goals rw [unhide AA]
      all_goals exact Done.behind (unhide B1) ⟨es, (unhide M2).drew, unhide HC⟩
  · have R := hide (apl_bad ht)
    obtain ⟨E, hE⟩ : ∃ E, E = tryE s r := ⟨_, rfl⟩
    rw [← hE] at ht PT ⊢
    clear hE h hb0 h0 hc hr
    go_enter Tryz.func27, Tryz.ntmps27
    go_wp2_with fail
    refine (unhide PT).mono ?_
    rintro e w1 ⟨rfl, b1⟩
    go_wp2_with fail
    go_ret
    refine ⟨rfl, ?_⟩
    rw [unhide R]
    exact Done.behind (unhide Hb0) ⟨es, Moves.same (unhide H0) b1, unhide HC⟩
end Go.Proofs.YtohjipnkoiifhagGreatDoor.Dk

namespace Go.Proofs.YtohjipnkoiifhagGreatDoor.Dk
open Go.RowKit

set_option maxHeartbeats 400000 in
theorem snew_any (w : World) :
    Calls Tryz.prog 41 #[] w fun e w' => e = .returned (.pointer (some ⟨w.heap.size, 0, none⟩)) ∧ Sho w' w.heap.size w.heap.size (.slice none 0 0) (.slice none 0 0) [] [] 0 ∧ Below w.heap.size w w' := by
  go_enter Tryz.func41, Tryz.ntmps41
  go_wp2_with fail
  go_ret
  refine ⟨rfl, ⟨by simp, by simp, by simp, fun j => by simp, Nat.le_refl _, by simp, ArrR.empty _ _, Arr.empty _ _, by simp [Value.ownBlock], by simp [Value.ownBlock], fun g hg => by simp [Value.ownBlock] at hg⟩, (Below.refl _ _).alloc (Nat.le_refl _) _⟩

/-- one record more in a row of one's own -/
theorem row_more {w wr : World} {sv : Value} {l : List Rc} {k : Nat} (h : ArrR wr w.heap.size sv (l.take k)) (hb : Below w.heap.size w wr) (hk : k < l.length) (h200 : l.length ≤ 200) (w5 : World) (b5 : Below wr.heap.size wr w5) :
    ∃ a' n' c' w', (Builtin.append_ #[22, 22] 22 #[sv, .slice (some ⟨w5.heap.size, 0, none⟩) 1 1]).run Tryz.prog (w5.alloc (.cells #[.int .i64 (rc l k).k, .int .i64 (rc l k).q, .int .i64 (rc l k).t, .string (rc l k).s, .string (rc l k).h, .string (rc l k).d] 30)) = .ok (.slice a' n' c') w' ∧ Hid (ArrR w' w.heap.size (.slice a' n' c') (l.take (k + 1)) ∧ Below w.heap.size w w') := by
  have b4 : Below w5.heap.size w5 (w5.alloc (.cells #[.int .i64 (rc l k).k, .int .i64 (rc l k).q, .int .i64 (rc l k).t, .string (rc l k).s, .string (rc l k).h, .string (rc l k).d] 30)) := (Below.refl _ _).alloc (Nat.le_refl _) _
  have h4 := (h.below b5).below b4
  have hb4 := bstep (bstep hb b5) b4
  obtain ⟨v8, w8, hr, A8, C8, _⟩ := append_rec _ w.heap.size 22 sv _ [rc l k] h4 ⟨w5.heap.size, 0, none⟩ 1 (six_row w5 (rc l k)) (by rw [List.length_take]; simp; omega) hb4.size
  obtain ⟨a', c', rfl, _⟩ := A8.shape
  refine ⟨a', _, c', w8, hr, hide ⟨?_, hb4.trans (C8.below hb4.size (fun g hg z => by have := (h4.lt g z).1; omega))⟩⟩
  rw [List.take_succ_eq_append_getElem hk, ← rc_get hk]
  exact A8

set_option maxRecDepth 100000 in
set_option maxHeartbeats 1000000 in
theorem sall_any {w : World} {B q : Nat} {v u : Value} {l : List Rc} {es : List Ent} {last : Int} (h : Sho w B q v u l es last) (h200 : l.length ≤ 200) (hm : ∀ x ∈ l, Small x) :
    Calls Tryz.prog 12 #[.pointer (some ⟨q, 0, none⟩)] w fun e w' => ∃ v', e = .returned v' ∧ ArrR w' w.heap.size v' l ∧ Below w.heap.size w w' := by
  obtain ⟨a, cap, rfl, c1, c2, hsl⟩ := h.msgs.shape
  have d0 := h.c0
  have HSl := hide hsl
  have HM := hide hm
  clear hsl hm h
  go_enter Tryz.func12, Tryz.ntmps12
  go_wp2_with fail
  go_loopw [3, 11] (fun sv kv wr => ∃ (k : Nat), kv = .int .i64 k ∧ k ≤ l.length ∧ Hid (ArrR wr w.heap.size sv (l.take k) ∧ Below w.heap.size w wr)) (fun _ kv _ => l.length - (intOf kv).toNat)
  case atStart => exact ⟨0, rfl, Nat.zero_le _, hide ⟨ArrR.empty _ _, Below.refl _ _⟩⟩
  case round =>
    clear d0
    obtain ⟨k, rfl, hk, HP⟩ := hrel
    obtain ⟨sa, sc, rfl, _⟩ := (unhide HP).1.shape
    by_cases hlt : k < l.length
    · obtain ⟨b, o, rfl, s6⟩ := unhide HSl k hlt
      have s7 := s6.below (unhide HP).2 s6.lt
      have K2 := hide (row_more (unhide HP).1 (unhide HP).2 hlt h200)
      have T := hide (fun X => copyR_any (rc l k) (unhide HM _ (rc_mem hlt)) X)
      obtain ⟨sn, hsn⟩ : ∃ sn, sn = (l.take k).length := ⟨_, rfl⟩
      rw [← hsn] at K2 ⊢
      clear hsn
      generalize rc l k = y at *
      obtain ⟨_, x0, x1, x2, x3, x4, x5⟩ := s7
      have hb0 : Below wr.heap.size wr (wr.alloc (.cells #[.int .i64 y.k, .int .i64 y.q, .int .i64 y.t, .string y.s, .string y.h, .string y.d] 30)) := (Below.refl _ _).alloc (Nat.le_refl _) _
      have Hb0 := hide hb0
      clear hb0 s6
      go_wp2_with fail
      refine (unhide T _).mono ?_
      rintro e w5 ⟨rfl, b5⟩
      obtain ⟨a', n', c', w6, hrun, P6⟩ := unhide K2 w5 (bstep (unhide Hb0) b5)
      clear x0 x1 x2 x3 x4 x5 b5 T Hb0 K2
      go_wp2_with (at_builtin; refine Lib.wpList_append_run _ rfl _ _ _ _ rfl _ _ rfl rfl _ _ hrun ?_)
      refine ⟨⟨k + 1, by go_num, by omega, P6⟩, ?_⟩
      simp [intOf]; omega
    · obtain rfl : k = l.length := by omega
      rw [List.take_length] at HP ⊢
      go_wp2_with fail
      go_ret
      exact ⟨_, rfl, (unhide HP).1, (unhide HP).2⟩

end Go.Proofs.YtohjipnkoiifhagGreatDoor.Dk

namespace Go.Proofs.YtohjipnkoiifhagGreatDoor.Dk
open Go.RowKit

theorem byteN_take {l : List Rc} {k : Nat} (h : k < l.length) : byteN (l.take (k + 1)) = byteN (l.take k) + ((rc l k).s.size + (rc l k).h.size + (rc l k).d.size) := by
  rw [List.take_succ_eq_append_getElem h, ← rc_get h, byteN_append]
  rfl
theorem firstQ_rc {l : List Rc} (h : 0 < l.length) : firstQ l = (rc l 0).q := by
  cases l with
  | nil => cases h
  | cons x l => rfl
theorem byteN_front (l : List Rc) (k : Nat) : byteN (l.take k) ≤ byteN l := by
  have := byteN_append (l.take k) (l.drop k)
  rw [List.take_append_drop] at this
  omega

set_option maxRecDepth 100000 in
set_option maxHeartbeats 1000000 in
theorem ssum_any {w : World} {B q : Nat} {v u : Value} {l : List Rc} {es : List Ent} {last : Int} (h : Sho w B q v u l es last) (h200 : l.length ≤ 200) (hm : ∀ x ∈ l, x.s.size ≤ 135 ∧ x.h.size + x.d.size ≤ 256) :
    Calls Tryz.prog 13 #[.pointer (some ⟨q, 0, none⟩)] w fun e w' => e = .returned (.agg #[.int .i64 (l.length : Int), .int .i64 (byteN l : Int), .int .i64 (firstQ l), .int .i64 last]) ∧ Below w.heap.size w w' := by
  obtain ⟨a, cap, rfl, c1, c2, hsl⟩ := h.msgs.shape
  have hql := h.lt
  have S0 := hide (SB.new w 0 0 0 0 37)
  have B0 := hide ((Below.refl w.heap.size w).alloc (Nat.le_refl _) (.cells #[.int .i64 0, .int .i64 0, .int .i64 0, .int .i64 0] 37))
  have HC := hide (And.intro h.c0 h.c2)
  have d0 : (w.alloc (.cells #[.int .i64 0, .int .i64 0, .int .i64 0, .int .i64 0] 37)).cell? ⟨q, 0, none⟩ = some (.slice a l.length cap) := by rw [(unhide B0).cell (p := ⟨q, 0, none⟩) hql]; exact h.c0
  have d1 : (w.alloc (.cells #[.int .i64 0, .int .i64 0, .int .i64 0, .int .i64 0] 37)).cell? ⟨q, 2, none⟩ = some (.int .i64 last) := by rw [(unhide B0).cell (p := ⟨q, 2, none⟩) hql]; exact h.c2
  have HSl := hide hsl
  have HM := hide hm
  clear h hsl hm
  go_enter Tryz.func13, Tryz.ntmps13
  go_wp2_with fail
  go_region
  have L0 : Hid (SB ((w.alloc (.cells #[.int .i64 0, .int .i64 0, .int .i64 0, .int .i64 0] 37)).alloc (.cells #[.int .i64 (l.length : Int), .int .i64 0, .int .i64 0, .int .i64 last] 37)).drew w.heap.size 0 0 0 0 ∧ SB ((w.alloc (.cells #[.int .i64 0, .int .i64 0, .int .i64 0, .int .i64 0] 37)).alloc (.cells #[.int .i64 (l.length : Int), .int .i64 0, .int .i64 0, .int .i64 last] 37)).drew (w.heap.size + 1) (l.length : Int) 0 0 last ∧ Below w.heap.size w ((w.alloc (.cells #[.int .i64 0, .int .i64 0, .int .i64 0, .int .i64 0] 37)).alloc (.cells #[.int .i64 (l.length : Int), .int .i64 0, .int .i64 0, .int .i64 last] 37)).drew) := hide (by
    have x1 := SB.new (w.alloc (.cells #[.int .i64 0, .int .i64 0, .int .i64 0, .int .i64 0] 37)) (l.length : Int) 0 0 last 37
    rw [World.size_alloc] at x1
    exact ⟨((unhide S0).alloc _).next (Below.refl _ _).drew, x1.next (Below.refl _ _).drew, (bstep (unhide B0) ((Below.refl _ _).alloc (Nat.le_refl _) _)).drew⟩)
  have e0 : ((w.alloc (.cells #[.int .i64 0, .int .i64 0, .int .i64 0, .int .i64 0] 37)).alloc (.cells #[.int .i64 (l.length : Int), .int .i64 0, .int .i64 0, .int .i64 last] 37)).drew.cell? ⟨q, 0, none⟩ = some (.slice a l.length cap) := by rw [(unhide L0).2.2.cell (p := ⟨q, 0, none⟩) hql]; exact (unhide HC).1
  clear S0 B0 d0 d1
  generalize ((w.alloc (.cells #[.int .i64 0, .int .i64 0, .int .i64 0, .int .i64 0] 37)).alloc (.cells #[.int .i64 (l.length : Int), .int .i64 0, .int .i64 0, .int .i64 last] 37)).drew = W0 at *
  have hby : byteN l ≤ 78200 := by
    have := byteN_le (fun r hr => unhide HM r hr)
    omega
  go_wp2_with fail
  go_loopw [21] (fun kv wr => ∃ (k : Nat), kv = .int .i64 k ∧ k ≤ l.length ∧ Hid (SB wr w.heap.size 0 0 0 0 ∧ SB wr (w.heap.size + 1) (l.length : Int) (byteN (l.take k) : Int) 0 last ∧ Below w.heap.size w wr)) (fun kv _ => l.length - (intOf kv).toNat)
  case atStart => exact ⟨0, rfl, Nat.zero_le _, L0⟩
  case round =>
    clear L0 e0
    obtain ⟨k, rfl, hk, HP⟩ := hrel
    have hob := (unhide HP).2.1.lt
    by_cases hlt : k < l.length
    · obtain ⟨b, o, rfl, s6⟩ := unhide HSl k hlt
      have s7 := s6.below (unhide HP).2.2 s6.lt
      have hb1 := byteN_take hlt
      have hb2 := byteN_front l (k + 1)
      generalize rc l k = y at *
      obtain ⟨_, x0, x1, x2, x3, x4, x5⟩ := s7
      obtain ⟨nb, hnb⟩ : ∃ nb, nb = byteN (l.take k) := ⟨_, rfl⟩
      obtain ⟨q0, q1, q2, q3, qf⟩ := And.intro (unhide HP).2.1.c0 (And.intro (unhide HP).2.1.c1 (And.intro (unhide HP).2.1.c2 (And.intro (unhide HP).2.1.c3 ((unhide HP).2.1.fr 1))))
      rw [← hnb] at hb1 q1
      have hne : ¬ w.heap.size + 1 = wr.heap.size := by omega
      have hw1 : IntKind.i64.wrap ((y.s.size : Int) + (y.h.size : Int)) = (y.s.size : Int) + (y.h.size : Int) := by rw [IntKind.wrap_i64]; omega
      have hw2 : IntKind.i64.wrap ((y.s.size : Int) + (y.h.size : Int) + (y.d.size : Int)) = (y.s.size : Int) + (y.h.size : Int) + (y.d.size : Int) := by rw [IntKind.wrap_i64]; omega
      have hw3 : IntKind.i64.wrap ((nb : Int) + ((y.s.size : Int) + (y.h.size : Int) + (y.d.size : Int))) = (nb : Int) + ((y.s.size : Int) + (y.h.size : Int) + (y.d.size : Int)) := by rw [IntKind.wrap_i64]; omega
      have HY : Hid (SB ((wr.setCell ⟨w.heap.size + 1, 1, none⟩ (.int .i64 ((nb : Int) + ((y.s.size : Int) + (y.h.size : Int) + (y.d.size : Int))))).alloc (.cells #[.int .i64 y.k, .int .i64 y.q, .int .i64 y.t, .string y.s, .string y.h, .string y.d] 30)) w.heap.size 0 0 0 0 ∧ SB ((wr.setCell ⟨w.heap.size + 1, 1, none⟩ (.int .i64 ((nb : Int) + ((y.s.size : Int) + (y.h.size : Int) + (y.d.size : Int))))).alloc (.cells #[.int .i64 y.k, .int .i64 y.q, .int .i64 y.t, .string y.s, .string y.h, .string y.d] 30)) (w.heap.size + 1) (l.length : Int) (byteN (l.take (k + 1)) : Int) 0 last ∧ Below w.heap.size w ((wr.setCell ⟨w.heap.size + 1, 1, none⟩ (.int .i64 ((nb : Int) + ((y.s.size : Int) + (y.h.size : Int) + (y.d.size : Int))))).alloc (.cells #[.int .i64 y.k, .int .i64 y.q, .int .i64 y.t, .string y.s, .string y.h, .string y.d] 30))) := hide (by
        have hbs := (unhide HP).2.2.setCell (p := ⟨w.heap.size + 1, 1, none⟩) (Nat.le_succ _) (.int .i64 ((nb : Int) + ((y.s.size : Int) + (y.h.size : Int) + (y.d.size : Int))))
        refine ⟨((unhide HP).1.other (by omega)).alloc _, ?_, hbs.alloc hbs.size _⟩
        have := ((unhide HP).2.1.set1 ((nb : Int) + ((y.s.size : Int) + (y.h.size : Int) + (y.d.size : Int)))).alloc (.cells #[.int .i64 y.k, .int .i64 y.q, .int .i64 y.t, .string y.s, .string y.h, .string y.d] 30)
        rw [hb1, show ((nb + (y.s.size + y.h.size + y.d.size) : Nat) : Int) = (nb : Int) + ((y.s.size : Int) + (y.h.size : Int) + (y.d.size : Int)) by omega]
        exact this)
      clear hb1 hb2 hnb s6 q0 q2 q3
      go_wp2_with fail
      refine ⟨⟨k + 1, by go_num, by omega, HY⟩, ?_⟩
      simp [intOf]; omega
    · obtain rfl : k = l.length := by omega
      rw [List.take_length] at HP
      have d0 := ((unhide HP).2.2.cell (p := ⟨q, 0, none⟩) hql).trans (unhide HC).1
      obtain ⟨_, q0, q1, q2, q3, qf⟩ := (unhide HP).2.1
      obtain ⟨_, x0, x1, x2, x3, fz⟩ := (unhide HP).1
      have f0 := fz 0
      have f1 := fz 1
      have f2 := fz 2
      have f3 := fz 3
      clear fz hlt hk
      obtain ⟨N, hN⟩ : ∃ N, N = l.length := ⟨_, rfl⟩
      by_cases h0 : 0 < l.length
      · obtain ⟨b, o, rfl, s6⟩ := unhide HSl 0 h0
        have s7 := s6.below (unhide HP).2.2 s6.lt
        have z1 : wr.cell? ⟨b, o + 1, none⟩ = some (.int .i64 (firstQ l)) := by rw [firstQ_rc h0]; simpa using s7.c1
        have g2 := qf 2
        clear qf s6 s7
        go_wp2_with fail
        refine bodyPost_ret (results_sum rfl rfl ((((((unhide HP).1.other (c := w.heap.size + 1) (i := 2) (v := .int .i64 (firstQ l)) (by omega)).set0 _).set1 _).set2 _).set3 _)) rfl ?_
        exact ⟨rfl, (((((unhide HP).2.2.setCell (p := ⟨w.heap.size + 1, 2, none⟩) (Nat.le_succ _) _).setCell (p := ⟨w.heap.size, 0, none⟩) (Nat.le_refl _) _).setCell (p := ⟨w.heap.size, 1, none⟩) (Nat.le_refl _) _).setCell (p := ⟨w.heap.size, 2, none⟩) (Nat.le_refl _) _).setCell (p := ⟨w.heap.size, 3, none⟩) (Nat.le_refl _) _⟩
      · have e0 : l = [] := List.length_eq_zero_iff.1 (by omega)
        subst e0
        clear qf
        go_wp2_with fail
        refine bodyPost_ret (results_sum rfl rfl (((((unhide HP).1.set0 _).set1 _).set2 _).set3 _)) rfl ?_
        exact ⟨rfl, ((((unhide HP).2.2.setCell (p := ⟨w.heap.size, 0, none⟩) (Nat.le_refl _) _).setCell (p := ⟨w.heap.size, 1, none⟩) (Nat.le_refl _) _).setCell (p := ⟨w.heap.size, 2, none⟩) (Nat.le_refl _) _).setCell (p := ⟨w.heap.size, 3, none⟩) (Nat.le_refl _) _⟩
end Go.Proofs.YtohjipnkoiifhagGreatDoor.Dk

namespace Go.Proofs.YtohjipnkoiifhagGreatDoor.Dk
open Go.RowKit

set_option maxHeartbeats 400000 in
theorem ssub_any {w : World} {B q : Nat} {v u : Value} {l : List Rc} {es : List Ent} {last : Int} (f : ByteArray) (hf : f.size ≤ 140737488355328) (h : Sho w B q v u l es last) (hg : Go.Proofs.YtohjipnkoiifhagGreatDoor.Good es) :
    Calls Tryz.prog 19 #[.pointer (some ⟨q, 0, none⟩), .string f] w fun e w' => ∃ v', e = .returned (.tuple #[v', .int .i64 (errS true f)]) ∧ Arr w' w.heap.size v' (foundL es f) ∧ Below w.heap.size w w' := by
  go_enter Tryz.func19, Tryz.ntmps19
  go_wp2_with fail
  refine (find_any B q u es f _ h.keeps hg hf).mono ?_
  rintro e w1 ⟨v', rfl, a1, b1⟩
  go_wp2_with fail
  go_ret2
  exact ⟨v', rfl, a1, b1⟩
end Go.Proofs.YtohjipnkoiifhagGreatDoor.Dk
