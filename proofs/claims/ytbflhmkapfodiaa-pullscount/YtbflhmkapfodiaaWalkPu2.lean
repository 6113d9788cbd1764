/-
  Contracts of slices.IndexFunc and slices.DeleteFunc at pulls, whatever function is handed in.
-/
import Derived.Test.YtbflhmkapfodiaaRowPul
import Derived.Shelf.Abstract
namespace Go.Proofs.Ytbflhmkapfodiaa.Dk
open Go.RowKit

/-- where the first one is that p holds of; -1, if there is none -/
def fstQ {α : Type} (p : α → Bool) (l : List α) : Int := if l.findIdx p < l.length then (l.findIdx p : Int) else -1
theorem fstQ_hit {α : Type} {p : α → Bool} {l : List α} {i : Nat} (h : i < l.length) (hi : p l[i] = true) (hlo : ∀ k (hk : k < l.length), k < i → p l[k] = false) : fstQ p l = (i : Int) := by
  have e : l.findIdx p = i := by
    rw [List.findIdx_eq h]
    exact ⟨hi, fun j hj => by simpa using hlo j (by omega) hj⟩
  unfold fstQ
  rw [e, if_pos h]
theorem fstQ_none {α : Type} {p : α → Bool} {l : List α} (h : ∀ k (hk : k < l.length), p l[k] = false) : fstQ p l = -1 := by
  have e : l.findIdx p = l.length := by
    rw [List.findIdx_eq_length]
    intro x hx
    obtain ⟨k, hk, rfl⟩ := List.mem_iff_getElem.1 hx
    exact h k hk
  unfold fstQ
  rw [e, if_neg (Nat.lt_irrefl _)]
theorem fstQ_ends {α : Type} (p : α → Bool) (l : List α) : (fstQ p l = -1 ∧ ∀ k (hk : k < l.length), p l[k] = false) ∨ ∃ i, ∃ h : i < l.length, fstQ p l = (i : Int) ∧ p l[i] = true ∧ ∀ k (hk : k < l.length), k < i → p l[k] = false := by
  by_cases h : l.findIdx p < l.length
  · refine .inr ⟨l.findIdx p, h, by unfold fstQ; rw [if_pos h], List.findIdx_getElem, fun k hk hlt => by simpa using List.not_of_lt_findIdx hlt⟩
  · refine .inl ⟨by unfold fstQ; rw [if_neg h], fun k hk => ?_⟩
    have := List.findIdx_eq_length.1 (Nat.le_antisymm List.findIdx_le_length (Nat.le_of_not_lt h))
    exact this _ (List.getElem_mem _)
section
variable {g : Nat} {lb : Array Value} {p : Pul → Bool}
set_option maxHeartbeats 2000000 in
theorem indexU_any (eg : ∀ args w, (callFunc g args).run Try.prog w = .ok (.enter g args) w) (a : Option Addr) (cap : Nat) (l : List Pul) (w : World) (hsl : SlU w a l) (hl : l.length ≤ 1000000)
    (hp : ∀ W, Below w.heap.size w W → ∀ x ∈ l, Calls Try.prog g (#[pulV x] ++ lb) W fun e w' => e = .returned (.bool (p x)) ∧ Below W.heap.size W w') :
    Calls Try.prog 24 #[.slice a l.length cap, .func (.func g) #[] lb] w fun e w' => e = .returned (.int .i64 (fstQ p l)) ∧ Below w.heap.size w w' := by
  have Hp := hide hp
  have Hs := hide hsl
  obtain ⟨N, hN⟩ : ∃ N, l.length = N := ⟨_, rfl⟩
  have HN := hide hN
  rw [hN] at hl
  rw [hN]
  clear hp hsl hN
  go_enter Try.func24, Try.ntmps24
  go_wp2
  go_loopw [8] (fun iv wr => ∃ (i : Nat), iv = .int .i64 i ∧ i ≤ N ∧ Hid (∀ k (hk : k < l.length), k < i → p l[k] = false) ∧ Hid (Below w.heap.size w wr)) (fun iv _ => N - (intOf iv).toNat)
  case atStart => exact ⟨0, rfl, Nat.zero_le _, hide (fun k _ hk => absurd hk (Nat.not_lt_zero k)), hide (Below.refl _ _)⟩
  case round =>
    obtain ⟨i, rfl, hi, hlo, BW⟩ := hrel
    by_cases hlt : i < N
    · have hil : i < l.length := by rw [unhide HN]; exact hlt
      obtain ⟨b, o, rfl, t⟩ := (unhide Hs).below (unhide BW) i hil
      obtain ⟨_, c0, c1, c2⟩ := t
      have H := hide (unhide Hp wr (unhide BW) l[i] (List.getElem_mem _))
      obtain ⟨x, hx⟩ : ∃ x, l[i] = x := ⟨_, rfl⟩
      have HX := hide hx
      rw [hx] at c0 c1 c2 H
      clear hx
      cases he : p x with
      | true =>
        have HV := hide (fstQ_hit hil (by rw [unhide HX]; exact he) (unhide hlo))
        rw [he] at H
        clear he HX hil
        go_wp2_with (go_at_fn g; refine (unhide H).mono ?_; rintro e w' ⟨rfl, hb'⟩)
        go_ret
        rw [unhide HV]
        exact ⟨rfl, bstep (unhide BW) hb'⟩
      | false =>
        have HL : Hid (∀ k (hk : k < l.length), k < i + 1 → p l[k] = false) := hide (fun k hk q => by
          rcases Nat.lt_succ_iff_lt_or_eq.1 q with z | z
          · exact unhide hlo k hk z
          · subst z; rw [unhide HX]; exact he)
        rw [he] at H
        clear he HX hil
        go_wp2_with (go_at_fn g; refine (unhide H).mono ?_; rintro e w' ⟨rfl, hb'⟩)
        refine ⟨⟨i + 1, by go_num, by omega, HL, hide (bstep (unhide BW) hb')⟩, ?_⟩
        simp [intOf]; omega
    · obtain rfl : i = N := by omega
      have HV := hide (fstQ_none (p := p) (l := l) (fun k hk => unhide hlo k hk (by rw [← unhide HN]; exact hk)))
      go_wp2_with fail
      go_ret
      rw [unhide HV]
      exact ⟨rfl, unhide BW⟩
end
end Go.Proofs.Ytbflhmkapfodiaa.Dk
