/-
  Contracts of the landed queue: New, forgetEnded, Waits, Idle.
-/
import Derived.Test.YtbflhmkapfodiaaWalkPu1
import Derived.Test.YtbflhmkapfodiaaWalkPu3
namespace Go.Proofs.Ytbflhmkapfodiaa.Dk
open Go.RowKit

set_option maxHeartbeats 400000 in
theorem qnew_any (w : World) : Calls Try.prog 5 #[] w fun e w' => e = .returned (.pointer (some ⟨w.heap.size, 0, none⟩)) ∧ KeepU w' w.heap.size w.heap.size (.slice none 0 0) [] ∧ w'.heap.size = w.heap.size + 1 ∧ Below w.heap.size w w' := by
  go_enter Try.func5, Try.ntmps5
  go_wp2_with fail
  go_ret
  exact ⟨rfl, ⟨by simp, by simp [World.frozen?_alloc_new], Nat.le_refl _, by simp, ArrT.empty _ _ _, by simp [Value.ownBlock]⟩, by simp, (Below.refl _ _).alloc (Nat.le_refl _) _⟩

theorem enters_f1 : ∀ args w, (callFunc 23 args).run Try.prog w = .ok (.enter 23 args) w := enters_of Try.func23 (by kernel_rfl) rfl
theorem enters_i1 : ∀ args w, (callFunc 22 args).run Try.prog w = .ok (.enter 22 args) w := enters_of Try.func22 (by kernel_rfl) rfl
section
variable {w : World} {B p : Nat} {v : Value} {l : List Pul}
set_option maxHeartbeats 1000000 in
theorem forget_any (h : KeepU w B p v l) (hl : l.length ≤ 10) (now : Int) :
    Calls Try.prog 17 #[.pointer (some ⟨p, 0, none⟩), .int .i64 now] w fun e w' => e = .returned (.tuple #[]) ∧ UpdU w w' B p v (keepP now l) := by
  have b0 : Below w.heap.size w (w.alloc (.cells #[.int .i64 now] 3)) := (Below.refl _ _).alloc (Nat.le_refl _) _
  have k1 := h.below b0
  have hc := k1.cell
  have hf := k1.free
  have hn0 : v.ownBlock ≠ some w.heap.size := fun q => by have := (h.arr.lt _ q).2; omega
  have HD := hide (deleteU_any (p := endB now) (lb := #[.pointer (some ⟨w.heap.size, 0, none⟩)]) enters_f1 v B l _ k1.arr (by omega) (fun W hW x _ => forget1_any x now w.heap.size W (by
    rw [hW.cell (p := ⟨w.heap.size, 0, none⟩) (by simp) hn0]; simp) (by have := hW.size; simp at this; omega)))
  have HU : Hid (∀ w' v', Chg (fun k => v.ownBlock = some k) (w.alloc (.cells #[.int .i64 now] 3)) w' → ArrU w' B v' (keepP now l) → (∀ g, v'.ownBlock = some g → v.ownBlock = some g ∨ (w.alloc (.cells #[.int .i64 now] 3)).heap.size ≤ g) → UpdU w (w'.setCell ⟨p, 0, none⟩ v') B p v (keepP now l)) := hide (fun w' v' hC hA hg => UpdU.trans (Chg.of_below b0) (fun _ q => .inl q) (UpdU.store k1 hC hA hg))
  have HC : Hid (∀ w', Chg (fun k => v.ownBlock = some k) (w.alloc (.cells #[.int .i64 now] 3)) w' → w'.cell? ⟨p, 0, none⟩ = some v ∧ w'.frozen? ⟨p, 0, none⟩ = false) := hide (fun w' hC => ⟨by rw [hC.cell (p := ⟨p, 0, none⟩) k1.lt h.apart]; exact hc, by rw [hC.frozen (p := ⟨p, 0, none⟩) k1.lt h.apart]; exact hf⟩)
  clear k1 h b0 hn0 hf
  go_enter Try.func17, Try.ntmps17
  go_wp2_with (go_at_call 21; refine (unhide HD).mono ?_; rintro e w' ⟨v', rfl, hA, hC, hG⟩; obtain ⟨x0, x1⟩ := unhide HC w' hC; have HU2 := hide (unhide HU _ _ hC hA hG); obtain ⟨a', cap', rfl, z1⟩ := ArrU.shape hA; clear z1 hA hC hG)
  go_end0
  exact ⟨rfl, unhide HU2⟩
set_option maxHeartbeats 1000000 in
theorem waits_any (h : KeepU w B p v l) (hl : l.length ≤ 10) (now : Int) :
    Calls Try.prog 12 #[.pointer (some ⟨p, 0, none⟩), .int .i64 now] w fun e w' => e = .returned (.tuple #[.int .i64 (watN now l), .int .i64 (atE now)]) ∧ UpdU w w' B p v (atL now l) := by
  have HT := hide (ptime_any now w)
  have HF := hide (forget_any h hl now)
  have HS := hide (UpdU.same h (Below.refl _ _))
  cases ht : tmB now with
  | true =>
    have HV : Hid (watN now l = ((keepP now l).length : Int) ∧ atE now = 0 ∧ atL now l = keepP now l) := hide ⟨by unfold watN; rw [if_pos ht], by unfold atE; rw [if_pos ht], by unfold atL; rw [if_pos ht]⟩
    rw [ht] at HT
    obtain ⟨e1, e2, e3⟩ := unhide HV
    rw [e1, e2, e3]
    clear h ht hl e1 e2 e3
    go_enter Try.func12, Try.ntmps12
    go_wp2_with fail
    refine (unhide HT).mono ?_
    rintro e w1 ⟨rfl, hw⟩
    rw [hw]
    clear hw
    go_wp2_with fail
    refine (unhide HF).mono ?_
    rintro e w1 ⟨rfl, hU⟩
    have HU := hide hU
    obtain ⟨v1, k1, _, _⟩ := hU
    obtain ⟨a, cap, rfl, _⟩ := k1.arr.shape
    have hc := k1.cell
    clear k1
    go_wp2_with fail
    go_ret2
    exact ⟨rfl, unhide HU⟩
  | false =>
    have HV : Hid (watN now l = 0 ∧ atE now = 1 ∧ atL now l = l) := hide ⟨by unfold watN; rw [if_neg (by simp [ht])], by unfold atE; rw [if_neg (by simp [ht])], by unfold atL; rw [if_neg (by simp [ht])]⟩
    rw [ht] at HT
    obtain ⟨e1, e2, e3⟩ := unhide HV
    rw [e1, e2, e3]
    clear h ht hl e1 e2 e3
    go_enter Try.func12, Try.ntmps12
    go_wp2_with fail
    refine (unhide HT).mono ?_
    rintro e w1 ⟨rfl, hw⟩
    rw [hw]
    clear hw
    go_wp2_with fail
    go_ret2
    exact ⟨rfl, unhide HS⟩
end
end Go.Proofs.Ytbflhmkapfodiaa.Dk
