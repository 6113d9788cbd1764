/-
  Contract of slices.Equal at two rows of the same numbers.
  Contract of rillref.SameTaker at the same plan of a consumer.
-/
import Derived.Test.YtcbfmjjodfnacaaDoorJointRowNRowQr
import Derived.Test.YtcbfmjjodfnacaaDoorRowQa
import Derived.Deep.DeepCutAuto
namespace Go.Proofs.YtcbfmjjodfnacaaDoor.Dk
open Go.RowKit

set_option maxHeartbeats 2000000 in
set_option maxRecDepth 100000 in
theorem equal_nums (a b : Option Addr) (ca cb : Nat) (l : List Int) (w : World) (ha : SlI w a l) (hb : SlI w b l) (h100 : l.length ≤ 200000) :
    Calls Tryd.prog 29 #[.slice a l.length ca, .slice b l.length cb] w fun e w' => e = .returned (.bool true) ∧ ∃ q, w' = w.drewN q := by
  have Ha := hide ha
  have Hb := hide hb
  clear ha hb
  go_enter Tryd.func29, Tryd.ntmps29
  go_wp2
  go_loopw [13] (fun kv wr => ∃ (k : Nat), kv = .int .i64 k ∧ k ≤ l.length ∧ ∃ n, wr = w.drewN n) (fun kv _ => l.length - (intOf kv).toNat)
  case atStart => exact ⟨0, rfl, Nat.zero_le _, 0, rfl⟩
  case round =>
    obtain ⟨k, rfl, hk, n, rfl⟩ := hrel
    by_cases hlt : k < l.length
    · obtain ⟨g, o, rfl, _, c1⟩ := unhide Ha k hlt
      obtain ⟨h, o2, rfl, _, c2⟩ := unhide Hb k hlt
      go_wp2
      go_quiet (fail)
      go_wp2
      exact ⟨⟨k + 1, by go_num, by omega, _, rfl⟩, by simp [intOf]; omega⟩
    · go_wp2
      go_ret
      exact ⟨rfl, n, rfl⟩
end Go.Proofs.YtcbfmjjodfnacaaDoor.Dk

namespace Go.Proofs.YtcbfmjjodfnacaaDoor
open Go.RowKit

set_option maxRecDepth 100000 in
set_option maxHeartbeats 4000000 in
theorem same_taker (t : Tk.Tkr) (a1 a2 : Option Addr) (c1 c2 : Nat) (w : World) (h1 : Dk.SlI w a1 t.bo) (h2 : Dk.SlI w a2 t.bo) (hl : t.bo.length ≤ 200000) :
    Calls Tryd.prog 14 #[tkV t a1 c1, tkV t a2 c2] w fun e w' => e = .returned (.bool true) ∧ Below w.heap.size w w' := by
  obtain ⟨W1, hW1⟩ : ∃ W, W = w.alloc (tkO t a1 c1) := ⟨_, rfl⟩
  have k1 : Below w.heap.size w W1 := by rw [hW1]; exact (Below.refl _ _).alloc (Nat.le_refl _) _
  have s1 : W1.heap.size = w.heap.size + 1 := by rw [hW1]; simp
  have p1 : TB W1 w.heap.size t a1 c1 := by rw [hW1]; exact TB.new w t a1 c1
  obtain ⟨W2, hW2⟩ : ∃ W, W = W1.alloc (tkO t a2 c2) := ⟨_, rfl⟩
  have k2 : Below W1.heap.size W1 W2 := by rw [hW2]; exact (Below.refl _ _).alloc (Nat.le_refl _) _
  have p2 : TB W2 W1.heap.size t a2 c2 := by rw [hW2]; exact TB.new W1 t a2 c2
  have p1' := p1.next k2
  rw [s1] at p2
  obtain ⟨_, x0, x1, x2, x3, x4, x5, x6, x7, x8, x9⟩ := p1'
  obtain ⟨_, y0, y1, y2, y3, y4, y5, y6, y7, y8, y9⟩ := p2
  have q1 := nums_on (nums_on h1 k1) k2
  have q2 := nums_on (nums_on h2 k1) k2
  have PE := hide (Dk.equal_nums a1 a2 c1 c2 t.bo W2 q1 q2 hl)
  have HB := hide (bstep k1 k2)
  obtain ⟨b1, hb1⟩ : ∃ b, b = w.heap.size := ⟨_, rfl⟩
  obtain ⟨b2, hb2⟩ : ∃ b, b = w.heap.size + 1 := ⟨_, rfl⟩
  rw [hW1] at hW2
  rw [← hb1] at x0 x1 x2 x3 x4 x5 x6 x7 x8 x9
  rw [← hb2] at y0 y1 y2 y3 y4 y5 y6 y7 y8 y9
  clear k1 k2 s1 p1 h1 h2 q1 q2 hW1
  go_enter Tryd.func14, Tryd.ntmps14
  go_upto_region 1 with fail
  rw [← hW2, ← hb2, ← hb1]
  clear hW2 hb1 hb2
  go_wp2_with fail
  refine (unhide PE).mono ?_
  rintro e w4 ⟨rfl, q4, rfl⟩
  clear PE
  go_wp2_with fail
  go_ret
  exact ⟨rfl, below_drewN (unhide HB) _⟩
end Go.Proofs.YtcbfmjjodfnacaaDoor
