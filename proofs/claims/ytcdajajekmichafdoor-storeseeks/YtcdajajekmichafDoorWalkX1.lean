/-
  The program's store: where a number is (cmp.Compare at numbers, slices.BinarySearchFunc at records, place).
-/
import Derived.Test.YtcdajajekmichafDoorJointRowXRowY
namespace Go.Proofs.YtcdajajekmichafDoor.Dk
open Go.RowKit

set_option maxHeartbeats 400000 in
theorem nanI_any (x : Int) (w : World) :
    Calls Tryd.prog 53 #[.int .i64 x] w fun e w' => e = .returned (.bool false) ∧ w' = w := by
  go_enter Tryd.func53, Tryd.ntmps53
  go_wp2
  go_ret
  exact ⟨ret_bool (by simp), rfl⟩
def cmpI (x y : Int) : Int := if x < y then -1 else if y < x then 1 else 0
set_option maxHeartbeats 400000 in
theorem cmpI_any (x y : Int) (w : World) :
    Calls Tryd.prog 37 #[.int .i64 x, .int .i64 y] w fun e w' => e = .returned (.int .i64 (cmpI x y)) ∧ w' = w := by
  by_cases h1 : x < y
  · have Hr := hide (show cmpI x y = -1 from if_pos h1)
    go_enter Tryd.func37, Tryd.ntmps37
    go_wp2_with (first | (go_at_call 53; refine (nanI_any _ _).mono ?_; rintro e w' ⟨rfl, rfl⟩))
    go_ret
    exact ⟨ret_eq (unhide Hr), rfl⟩
  · by_cases h2 : y < x
    · have Hr := hide (show cmpI x y = 1 by unfold cmpI; rw [if_neg h1, if_pos h2])
      go_enter Tryd.func37, Tryd.ntmps37
      go_wp2_with (first | (go_at_call 53; refine (nanI_any _ _).mono ?_; rintro e w' ⟨rfl, rfl⟩))
      go_ret
      exact ⟨ret_eq (unhide Hr), rfl⟩
    · have Hr := hide (show cmpI x y = 0 by unfold cmpI; rw [if_neg h1, if_neg h2])
      go_enter Tryd.func37, Tryd.ntmps37
      go_wp2_with (first | (go_at_call 53; refine (nanI_any _ _).mono ?_; rintro e w' ⟨rfl, rfl⟩))
      go_ret
      exact ⟨ret_eq (unhide Hr), rfl⟩

set_option maxHeartbeats 400000 in
theorem place1_any (r : Rc) (n : Int) (w : World) :
    Calls Tryd.prog 36 #[.agg #[.int .i64 r.k, .int .i64 r.q, .int .i64 r.t, .string r.s, .string r.h, .string r.d], .int .i64 n] w fun e w' => e = .returned (.int .i64 (cmpI r.q n)) ∧ Below w.heap.size w w' := by
  go_enter Tryd.func36, Tryd.ntmps36
  go_wp2_with fail
  refine (cmpI_any _ n _).mono ?_
  rintro e w1 ⟨rfl, rfl⟩
  go_wp2_with fail
  go_ret
  exact ⟨rfl, (Below.refl _ _).alloc (Nat.le_refl _) _⟩
theorem cmpI_lt (x y : Int) : cmpI x y < 0 ↔ x < y := by
  unfold cmpI
  split
  · omega
  · split <;> omega
theorem cmpI_eq (x y : Int) : cmpI x y = 0 ↔ x = y := by
  unfold cmpI
  split
  · omega
  · split <;> omega

set_option maxHeartbeats 2000000 in
theorem searchR_any (a : Option Addr) (cap : Nat) (l : List Rc) (n : Int) (w : World) (hsl : SlR w a l) (hord : RiseQ l) (h200 : l.length ≤ 200) :
    Calls Tryd.prog 35 #[.slice a l.length cap, .int .i64 n, .func (.func 36) #[] #[]] w fun e w' => e = .returned (.tuple #[.int .i64 (pq l n), .bool (seqB l n)]) ∧ Below w.heap.size w w' := by
  have Hord := hide hord
  clear hord
  go_enter Tryd.func35, Tryd.ntmps35
  go_wp2
  go_loopw [9, 10] (fun iv jv wr => ∃ (i j : Nat), iv = .int .i64 i ∧ jv = .int .i64 j ∧ i ≤ j ∧ j ≤ l.length ∧ Hid (∀ k, k < i → (rc l k).q < n) ∧ Hid (∀ k, j ≤ k → k < l.length → n ≤ (rc l k).q) ∧ Hid (SlR wr a l) ∧ Below w.heap.size w wr) (fun iv jv _ => (intOf jv).toNat - (intOf iv).toNat)
  case atStart => exact ⟨0, l.length, rfl, rfl, Nat.zero_le _, Nat.le_refl _, hide (fun k hk => absurd hk (Nat.not_lt_zero k)), hide (fun k h1 h2 => by omega), hide hsl, Below.refl _ _⟩
  case round =>
    obtain ⟨i, j, rfl, rfl, hij, hj, hlo, hhi, hsl2, hb⟩ := hrel
    by_cases hlt : i < j
    · obtain ⟨h, hh⟩ : ∃ h : Nat, h = (i + j) / 2 := ⟨_, rfl⟩
      have hh1 : i ≤ h ∧ h < j := by omega
      obtain ⟨g, o, rfl, s6⟩ := unhide hsl2 h (by omega)
      have hmid : ((i : Int) + (j : Int)) / 2 = (h : Int) := by omega
      clear hh
      have H := hide (place1_any (rc l h) n wr)
      obtain ⟨_, x0, x1, x2, x3, x4, x5⟩ := s6
      by_cases he : (rc l h).q < n
      · have hz : cmpI (rc l h).q n < 0 := (cmpI_lt _ _).2 he
        have He := hide he
        clear he
        go_wp2_with fail
        refine (unhide H).mono ?_
        rintro e w1 ⟨rfl, hb1⟩
        clear x0 x1 x2 x3 x4 x5
        go_wp2_with fail
        refine ⟨⟨h + 1, j, by go_num, rfl, by omega, hj, hide (fun k hk => ?_), hhi, hide ((unhide hsl2).below hb1), bstep hb hb1⟩, ?_⟩
        · rcases Nat.lt_succ_iff_lt_or_eq.1 hk with q | q
          · have := rise_lt (unhide Hord) q (by omega); have := unhide He; omega
          · rw [q]; exact unhide He
        · simp [intOf]; omega
      · have hz : ¬ cmpI (rc l h).q n < 0 := fun z => he ((cmpI_lt _ _).1 z)
        have He := hide he
        clear he
        go_wp2_with fail
        refine (unhide H).mono ?_
        rintro e w1 ⟨rfl, hb1⟩
        clear x0 x1 x2 x3 x4 x5
        go_wp2_with fail
        refine ⟨⟨i, h, rfl, rfl, by omega, by omega, hlo, hide (fun k hk hk2 => ?_), hide ((unhide hsl2).below hb1), bstep hb hb1⟩, ?_⟩
        · have := unhide He
          rcases Nat.eq_or_lt_of_le hk with q | q
          · rw [← q]; omega
          · have := rise_lt (unhide Hord) q hk2; omega
        · simp [intOf]; omega
    · obtain rfl : i = j := by omega
      have hpl := pq_is (n := n) hj (unhide hlo) (unhide hhi)
      by_cases hl : i < l.length
      · obtain ⟨g, o, rfl, s6⟩ := unhide hsl2 i (by omega)
        have H := hide (place1_any (rc l i) n wr)
        obtain ⟨_, x0, x1, x2, x3, x4, x5⟩ := s6
        have hha := seq_miss (unhide Hord) (n := n) (by rw [← hpl]; exact hl)
        rw [← hpl] at hha
        have Hha := hide hha
        have Hpl := hide hpl
        clear hpl hha
        go_wp2_with fail
        refine (unhide H).mono ?_
        rintro e w1 ⟨rfl, hb1⟩
        clear x0 x1 x2 x3 x4 x5
        go_wp2_with fail
        go_ret2
        refine ⟨ret_tib ?_ ?_, bstep hb hb1⟩
        · rw [← unhide Hpl]
        · rw [unhide Hha]
          by_cases z : (rc l i).q = n
          · rw [decide_eq_true z, (cmpI_eq _ _).2 z]; rfl
          · have : ¬ cmpI (rc l i).q n = 0 := fun y => z ((cmpI_eq _ _).1 y)
            rw [decide_eq_false z]
            simp [this]
      · have Hpl := hide hpl
        have Hs := hide (seq_end (unhide Hord) (n := n) (by rw [← hpl]; exact hl))
        clear hpl
        go_wp2_with fail
        go_ret2
        refine ⟨ret_tib ?_ ?_, hb⟩
        · rw [← unhide Hpl]
        · exact unhide Hs

set_option maxHeartbeats 400000 in
theorem splace_any {w : World} {B q : Nat} {v u : Value} {l : List Rc} {es : List Ent} {last : Int} (n : Int) (h : Sho w B q v u l es last) (hr : RiseQ l) (h200 : l.length ≤ 200) :
    Calls Tryd.prog 21 #[.pointer (some ⟨q, 0, none⟩), .int .i64 n] w fun e w' => e = .returned (.tuple #[.int .i64 (pq l n), .bool (seqB l n)]) ∧ Below w.heap.size w w' := by
  obtain ⟨a, cap, rfl, _, _, hsl⟩ := h.msgs.shape
  have hc := h.c0
  go_enter Tryd.func21, Tryd.ntmps21
  go_wp2_with fail
  refine (searchR_any a cap l n _ hsl hr h200).mono ?_
  rintro e w1 ⟨rfl, hb⟩
  go_wp2_with fail
  go_ret2
  exact ⟨rfl, hb⟩
end Go.Proofs.YtcdajajekmichafDoor.Dk
