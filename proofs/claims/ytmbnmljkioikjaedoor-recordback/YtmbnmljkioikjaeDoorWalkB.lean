/-
  Contract of rillref.Rest; a text as bytes that may be written, one bit of them turned, and a text again.
-/
import Derived.Test.YtmbnmljkioikjaeDoorWalkN4
import Derived.Test.YtmbnmljkioikjaeDoorPlainS
import Derived.Deep.RegionWith
namespace Go.Proofs.YtmbnmljkioikjaeDoor
open Go.RowKit

/-- bytes that lie in a block, and may be written -/
def BRow (w : World) (g : Nat) (l : List UInt8) : Prop := g < w.heap.size ∧ ∀ j, j < l.length → w.cell? ⟨g, j, none⟩ = some (.int .u8 (Pk.at' l j : Int)) ∧ w.frozen? ⟨g, j, none⟩ = false
theorem conv_bytes (w : World) (s : ByteArray) : ∃ cap W, (convert 9 35 (.string s)).run Tryd.prog w = .ok (.slice (some ⟨w.heap.size, 0, none⟩) s.size cap) W ∧ BRow W w.heap.size s.data.toList ∧ Below w.heap.size w W := by
  refine ⟨_, _, run_bytes_of_string w 9 35 5 s Tryd.underlying9 Tryd.underlying35 Tryd.underlying5, ⟨by simp, fun j hj => ?_⟩, (Below.refl _ _).drew.alloc (Nat.le_refl _) _⟩
  have hj' : j < s.data.size := by simpa using hj
  refine ⟨?_, ?_⟩
  · have h1 := World.cell?_alloc_mark w.drew (bytesRow s (grownCap w s.size 0 5)) 5 ((bytesRow s (grownCap w s.size 0 5)).size, (bytesRow s (grownCap w s.size 0 5)).size + 1) j
    have h2 := bytesRow_at s (grownCap w s.size 0 5) j hj'
    rw [h2] at h1
    rw [Pk.at_get hj]
    exact h1
  · have h1 := World.frozen?_alloc_mark w.drew (bytesRow s (grownCap w s.size 0 5)) 5 (bytesRow s (grownCap w s.size 0 5)).size ((bytesRow s (grownCap w s.size 0 5)).size + 1) j
    have h3 : j < (bytesRow s (grownCap w s.size 0 5)).size := by
      unfold bytesRow; simp only [Array.size_append, Array.size_map]; omega
    rw [show (decide ((bytesRow s (grownCap w s.size 0 5)).size ≤ j)) = false from decide_eq_false (by omega)] at h1
    exact h1

set_option maxHeartbeats 400000 in
theorem rest_any (k : Int) (m : Nat) (w : World) (h0 : 0 < m) (h1 : m ≤ 2000000000000000000) :
    Calls Tryd.prog 10 #[.int .i64 k, .int .i64 m] w fun e w' => ∃ i : Nat, e = .returned (.int .i64 i) ∧ i < m ∧ w' = w := by
  have hm : ¬ ((m : Int) = 0) := by omega
  have hm2 : ¬ ((m : Int) = -1) := by omega
  have t1 : k.tmod m < m := Int.tmod_lt_of_pos k (by omega)
  have t2 : -(m : Int) < k.tmod m := by
    have := Int.tmod_lt_of_pos (-k) (show (0 : Int) < m by omega)
    rw [Int.neg_tmod] at this
    omega
  have z1 : -9223372036854775808 ≤ k.tmod m := by omega
  have z2 : k.tmod m ≤ 9223372036854775807 := by omega
  by_cases hr : k.tmod m < 0
  · go_enter Tryd.func10, Tryd.ntmps10
    go_wp2_with fail
    go_ret
    exact ⟨(k.tmod m + m).toNat, ret_int (by omega), by omega, rfl⟩
  · go_enter Tryd.func10, Tryd.ntmps10
    go_wp2_with fail
    go_ret
    exact ⟨(k.tmod m).toNat, ret_int (by omega), by omega, rfl⟩

theorem turn_value (l : List UInt8) (p : Nat) {m : Nat} (hm : m < 8) : bits .xor .u8 ((Pk.at' l p : Nat) : Int) (2 ^ m % 256) = ((Pk.at' l p ^^^ 2 ^ m : Nat) : Int) := by
  have hp : 2 ^ m < 256 := Nat.lt_of_le_of_lt (Nat.pow_le_pow_right (by decide) (show m ≤ 7 by omega)) (by decide)
  obtain ⟨P, hP⟩ : ∃ P, P = 2 ^ m := ⟨_, rfl⟩
  have e : ((2 : Int) ^ m % 256) = ((2 ^ m : Nat) : Int) := by
    have : ((2 : Int) ^ m) = ((2 ^ m : Nat) : Int) := by simp
    rw [this, ← hP]
    rw [← hP] at hp
    omega
  rw [e, u8_xor_nat _ _ (Pk.at_lt l _) hp]
theorem cell_else (w : World) (p q : Addr) (v : Value) (h : p ≠ q) : (w.setCell p v).cell? q = w.cell? q := by
  first | exact World.cell?_setCell_other _ _ _ _ h | exact World.cell?_setCell_other h
theorem brow_turn {w : World} {g : Nat} {l : List UInt8} {p m : Nat} (h : BRow w g l) (hp : p < l.length) (hm : m < 8) :
    BRow (w.setCell ⟨g, p, none⟩ (.int .u8 (bits .xor .u8 ((Pk.at' l p : Nat) : Int) (2 ^ m % 256)))) g (Pk.flip l (8 * p + m)) := by
  refine ⟨by simpa using h.1, fun i hi => ?_⟩
  rw [Pk.flip_len] at hi
  have hc := h.2 i hi
  have hj : (8 * p + m) / 8 < l.length := by omega
  refine ⟨?_, ?_⟩
  · rw [Pk.flip_at hj, turn_value l p hm, show (8 * p + m) / 8 = p from by omega, show (8 * p + m) % 8 = m from by omega]
    by_cases e : i = p
    · rw [if_pos e, e]
      exact World.cell?_setCell_same' _ _ _ (by rw [(h.2 _ hp).1]; rfl)
    · rw [if_neg e, cell_else _ _ _ _ (by intro q; injection q; omega)]
      exact hc.1
  · have := hc.2
    simpa using this
theorem BRow.drew {w : World} {g : Nat} {l : List UInt8} (h : BRow w g l) : BRow w.drew g l := ⟨h.1, fun j hj => h.2 j hj⟩
theorem brow_conv {w : World} {g cap : Nat} {l : List UInt8} (h : BRow w g l) :
    (convert 35 9 (.slice (some ⟨g, 0, none⟩) l.length cap)).run Tryd.prog w = .ok (.string (bs l)) w := by
  refine run_convert_bytes_back w 35 9 5 ⟨g, 0, none⟩ cap l Tryd.underlying35 Tryd.underlying5 Tryd.underlying9 fun j hj => ?_
  rw [addp, Nat.zero_add, (h.2 j hj).1, Pk.at_get hj]
end Go.Proofs.YtmbnmljkioikjaeDoor
