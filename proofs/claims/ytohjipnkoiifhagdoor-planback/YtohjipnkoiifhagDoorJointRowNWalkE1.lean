/-
  Numbers in a row of one's own. No walk.
  Contract of slices.Equal at two rows of the same numbers.
-/
import Derived.Test.YtohjipnkoiifhagDoorPapD
import Derived.Test.YtohjipnkoiifhagDoorJointBase0RowZ
import Derived.Deep.AppendSrc
namespace Go.Proofs.YtohjipnkoiifhagDoor.Dk
open Go.RowKit

/-- numbers in a row of one's own -/
def Nums (w : World) (B : Nat) (v : Value) (l : List Int) : Prop := w.ownsRow B 3 1 v l.length (l.map (Value.int .i64))
theorem infoI : (Tryd.prog.info? 3).map (fun i => (i.zero, i.size, i.bytes)) = some (some (.int .i64 0), 1, 8) := by kernel_rfl
theorem one_num (n : Int) : ∀ u ∈ [Value.int .i64 n], u.oneCell' = true := by
  intro u hu; simp at hu; subst hu; rfl
theorem nums_next {w0 wr w1 : World} {v v' : Value} {l : List Int} {n : Int} {o : Obj} (hown : Nums wr w0.heap.size v l) (hb : Below w0.heap.size w0 wr)
    (h1 : w1.ownsRow w0.heap.size 3 1 v' (l.length + 1) ((l.map (Value.int .i64)) ++ [.int .i64 n])) (hg : (wr.alloc o).grownBy w1 v.ownBlock) :
    Nums w1 w0.heap.size v' (l ++ [n]) ∧ Below w0.heap.size w0 w1 := by
  refine ⟨?_, ?_⟩
  · unfold Nums
    rw [List.map_append, List.map_cons, List.map_nil, List.length_append]
    exact h1
  · have hs := hb.size
    refine (hb.alloc (by omega) o).grown hg (by simp; omega) ?_
    intro j hj
    exact (World.ownsRow.lt hown j hj).1
theorem Nums.sl {w : World} {B : Nat} {v : Value} {l : List Int} (h : Nums w B v l) : ∃ a cap, v = .slice a l.length cap ∧ SlI w a l := by
  rcases h.2 with ⟨h1, h2⟩ | ⟨g, cap, cur, h1, h2, h3, h4, h5, h6, h7⟩
  · exact ⟨none, 0, by rw [h1, h2], fun k hk => by omega⟩
  · refine ⟨_, cap, h1, fun k hk => ⟨g, 0, rfl, (h.lt g (by rw [h1]; rfl)).2, ?_⟩⟩
    rw [Nat.zero_add]
    rw [h1] at h
    rw [World.ownsRow.cellAt h _ (by omega)]
    rw [List.getElem?_map, List.getElem?_eq_getElem hk]
    unfold nth
    rw [List.getElem?_eq_getElem hk]
    rfl
theorem Nums.below {w w' : World} {B : Nat} {v : Value} {l : List Int} (h : Nums w B v l) (hb : Below w.heap.size w w') : Nums w' B v l := by
  refine ⟨h.1, ?_⟩
  rcases h.2 with q | ⟨g, cap, cur, h1, h2, h3, r⟩
  · exact .inl q
  · refine .inr ⟨g, cap, cur, h1, h2, ?_, r⟩
    rw [hb.block g (World.ownsRow.lt h g (by rw [h1]; rfl)).2]
    exact h3
theorem Nums.chg {A : Nat → Prop} {w w' : World} {B : Nat} {v : Value} {l : List Int} (h : Nums w B v l) (hb : Chg A w w') (hn : ∀ g, B ≤ g → ¬ A g) : Nums w' B v l := by
  refine ⟨h.1, ?_⟩
  rcases h.2 with q | ⟨g, cap, cur, h1, h2, h3, r⟩
  · exact .inl q
  · refine .inr ⟨g, cap, cur, h1, h2, ?_, r⟩
    rw [hb.block g (World.ownsRow.lt h g (by rw [h1]; rfl)).2 (hn g h2)]
    exact h3
theorem Nums.shape {w : World} {B : Nat} {v : Value} {l : List Int} (h : Nums w B v l) : ∃ a cap, v = .slice a l.length cap ∧ l.length ≤ cap ∧ cap ≤ maxLen := by
  rcases h.2 with ⟨h1, h2⟩ | ⟨g, cap, cur, h1, h2, h3, h4, h5, h6⟩
  · exact ⟨none, 0, by rw [h1, h2], by omega, by unfold maxLen; omega⟩
  · exact ⟨_, cap, h1, h4, h5⟩
/-- one number more: where the new row lies -/
theorem append_num (w : World) (B : Nat) (ty : TypeId) (v : Value) (l : List Int) (n : Int) (ha : Nums w B v l) (a : Addr) (c : Nat) (hnews : w.cell? a = some (.int .i64 n)) (hl : l.length ≤ 200000) (hB : B ≤ w.heap.size) :
    ∃ v' w', (Builtin.append_ #[33, 33] ty #[v, .slice (some a) 1 c]).run Tryd.prog w = .ok v' w' ∧ Nums w' B v' (l ++ [n]) ∧ Chg (fun k => v.ownBlock = some k) w w' := by
  obtain ⟨i0, hi, hz0, hz1, hz2⟩ := info_parts infoI
  obtain ⟨v', w', hr, h2, h3, h4⟩ := run_append_own (P := Tryd.prog) w B 33 ty 3 i0 _ 1 8 Tryd.underlying33 hi hz0 hz1 hz2 rfl (by omega) v l.length (l.map (Value.int .i64)) ha a 1 c [.int .i64 n] rfl (fun j u hj => by
    match j, hj with
    | 0, hj =>
      rw [show a.add 0 = a from rfl, hnews]
      simpa using hj) (one_num n) (by unfold maxLen; omega) (by omega) hB
  refine ⟨v', w', hr, ?_, Chg.of_grown h3⟩
  unfold Nums
  rw [List.length_append, List.map_append]
  exact h2
end Go.Proofs.YtohjipnkoiifhagDoor.Dk

namespace Go.Proofs.YtohjipnkoiifhagDoor.Dk
open Go.RowKit

set_option maxHeartbeats 2000000 in
set_option maxRecDepth 100000 in
theorem equal_nums (a b : Option Addr) (ca cb : Nat) (l : List Int) (w : World) (ha : SlI w a l) (hb : SlI w b l) (h100 : l.length ≤ 200000) :
    Calls Tryd.prog 20 #[.slice a l.length ca, .slice b l.length cb] w fun e w' => e = .returned (.bool true) ∧ ∃ q, w' = w.drewN q := by
  have Ha := hide ha
  have Hb := hide hb
  clear ha hb
  go_enter Tryd.func20, Tryd.ntmps20
  go_wp2
  go_loopw [13] (fun kv wr => ∃ (k : Nat), kv = .int .i64 k ∧ k ≤ l.length ∧ ∃ n, wr = w.drewN n) (fun kv _ => l.length - (intOf kv).toNat)
  case atStart => exact ⟨0, rfl, Nat.zero_le _, 0, rfl⟩
  case round =>
    obtain ⟨k, rfl, hk, n, rfl⟩ := hrel
    by_cases hlt : k < l.length
    · obtain ⟨g, o, rfl, _, c1⟩ := unhide Ha k hlt
      obtain ⟨h, o2, rfl, _, c2⟩ := unhide Hb k hlt
      go_wp2
      go_quiet (fail)
      go_wp2
      exact ⟨⟨k + 1, by go_num, by omega, _, rfl⟩, by simp [intOf]; omega⟩
    · go_wp2
      go_ret
      exact ⟨rfl, n, rfl⟩
end Go.Proofs.YtohjipnkoiifhagDoor.Dk
