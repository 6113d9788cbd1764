/-
  Contracts behind IndexFinds: slices.Contains at texts, rillref.Rest, slices.Delete (one text), the closure and slices.ContainsFunc at entries; rows of texts of the program's own.
-/
import Derived.Test.YtcdajajekmichadDoorPlainF
import Derived.Deep.RegionLaw
namespace Go.Proofs.YtcdajajekmichadDoor
open Go.RowKit Go.Deep

/-- a row of texts of the program's own -/
def ArrS (w : World) (B : Nat) (v : Value) (l : List ByteArray) : Prop := w.ownsRow B 9 1 v l.length (l.map Value.string)
theorem tk_get {l : List ByteArray} {k : Nat} (h : k < l.length) : tk l k = l[k] := by unfold tk; rw [List.getElem?_eq_getElem h]; rfl
theorem ArrS.there {w : World} {B : Nat} {v : Value} {l : List ByteArray} (h : ArrS w B v l) (hn : 0 < l.length) : ∃ g cap, v = .slice (some ⟨g, 0, none⟩) l.length cap ∧ l.length ≤ cap ∧ cap ≤ maxLen ∧ B ≤ g ∧ g < w.heap.size := by
  rcases h.2 with ⟨h1, h2⟩ | ⟨g, cap, cur, h1, h2, h3, h4, h5, h6, h7⟩
  · omega
  · exact ⟨g, cap, h1, h4, h5, h.lt g (by rw [h1]; rfl)⟩
theorem ArrS.shape {w : World} {B : Nat} {v : Value} {l : List ByteArray} (h : ArrS w B v l) : ∃ a cap, v = .slice a l.length cap := by
  rcases h.2 with ⟨h1, h2⟩ | ⟨g, cap, cur, h1, _⟩
  · exact ⟨none, 0, by rw [h1, h2]⟩
  · exact ⟨_, cap, h1⟩
theorem ArrS.cell {w : World} {B g cap : Nat} {l : List ByteArray} (h : ArrS w B (.slice (some ⟨g, 0, none⟩) l.length cap) l) {k : Nat} (hk : k < l.length) : w.cell? ⟨g, k, none⟩ = some (.string (tk l k)) := by
  rw [World.ownsRow.cellAt h _ (by omega), tk_get hk]
  simp [List.getElem?_eq_getElem hk]
theorem ArrS.chg {A : Nat → Prop} {w w' : World} {B : Nat} {v : Value} {l : List ByteArray} (h : ArrS w B v l) (hb : Chg A w w') (hn : ∀ g, v.ownBlock = some g → ¬ A g) : ArrS w' B v l := by
  refine ⟨h.1, ?_⟩
  rcases h.2 with q | ⟨g, cap, cur, h1, h2, h3, r⟩
  · exact .inl q
  · refine .inr ⟨g, cap, cur, h1, h2, ?_, r⟩
    rw [hb.block g (h.lt g (by rw [h1]; rfl)).2 (hn g (by rw [h1]; rfl))]
    exact h3
/-- texts behind a slice, whatever its length -/
def SlS (w : World) (a : Option Addr) (l : List ByteArray) : Prop := ∀ k, k < l.length → ∃ b o, a = some ⟨b, o, none⟩ ∧ b < w.heap.size ∧ w.cell? ⟨b, o + k, none⟩ = some (.string (tk l k))
theorem ArrS.sl {w : World} {B : Nat} {v : Value} {l : List ByteArray} (h : ArrS w B v l) : ∃ a cap, v = .slice a l.length cap ∧ SlS w a l := by
  rcases Nat.eq_zero_or_pos l.length with h0 | h0
  · obtain ⟨a, cap, h1⟩ := h.shape
    exact ⟨a, cap, h1, fun k hk => by omega⟩
  · obtain ⟨g, cap, h1, h2, h3, h4, h5⟩ := h.there h0
    subst h1
    exact ⟨_, cap, rfl, fun k hk => ⟨g, 0, rfl, h5, by rw [Nat.zero_add]; exact h.cell hk⟩⟩

theorem any_of {l : List ByteArray} {s : ByteArray} {k : Nat} (hk : k < l.length) (h : (s.toList == (tk l k).toList) = true) : l.any (fun t => eqB s t) = true := by
  rw [List.any_eq_true]
  exact ⟨l[k], List.getElem_mem hk, by rw [← tk_get hk]; exact h⟩
theorem any_none {l : List ByteArray} {s : ByteArray} (h : ∀ k, k < l.length → (s.toList == (tk l k).toList) = false) : l.any (fun t => eqB s t) = false := by
  rw [List.any_eq_false]
  intro t ht
  obtain ⟨k, hk, rfl⟩ := List.mem_iff_getElem.1 ht
  have := h k hk
  rw [tk_get hk] at this
  unfold eqB
  rw [this]
  simp
def idxI (l : List ByteArray) (s : ByteArray) (r : Int) : Prop := -1 ≤ r ∧ r ≤ 100000 ∧ (decide (0 ≤ r)) = l.any (fun t => eqB s t)
set_option maxHeartbeats 400000 in
theorem sindex_any (a : Option Addr) (cap : Nat) (l : List ByteArray) (s : ByteArray) (w : World) (hl : SlS w a l) (h100 : l.length ≤ 100) :
    Calls Tryd.prog 40 #[.slice a l.length cap, .string s] w fun e w' => ∃ r, e = .returned (.int .i64 r) ∧ idxI l s r ∧ w' = w := by
  have Hl := hide hl
  clear hl
  go_enter Tryd.func40, Tryd.ntmps40
  go_wp2
  go_loop [8] (fun i => ∃ k : Nat, k ≤ l.length ∧ i = .int .i64 k ∧ Hid (∀ j, j < k → (s.toList == (tk l j).toList) = false)) (fun i => l.length - (intOf i).toNat)
  case atStart => exact ⟨0, Nat.zero_le _, rfl, hide (fun j h => absurd h (Nat.not_lt_zero j))⟩
  case round =>
    obtain ⟨k, hk, rfl, hq⟩ := hrel
    by_cases hlt : k < l.length
    · obtain ⟨b, o, rfl, hb, hc⟩ := unhide Hl k hlt
      cases he : (s.toList == (tk l k).toList) with
      | true =>
        have R := hide (any_of hlt he)
        go_wp2
        go_ret
        exact ⟨k, rfl, ⟨by omega, by omega, by rw [unhide R]; simp⟩, rfl⟩
      | false =>
        have R := hide he
        go_wp2
        go_round
        case rel => exact ⟨k + 1, by omega, by go_num, hide (fun j h => by
          rcases Nat.lt_succ_iff_lt_or_eq.1 h with h | h
          · exact unhide hq j h
          · subst h; exact unhide R)⟩
        case measure => simp [intOf]; omega
    · have R := hide (any_none (fun j hj => unhide hq j (by omega)) (l := l) (s := s))
      go_wp2
      go_ret
      exact ⟨-1, rfl, ⟨by omega, by omega, by rw [unhide R]; simp⟩, rfl⟩
set_option maxHeartbeats 400000 in
theorem contains_any (a : Option Addr) (cap : Nat) (l : List ByteArray) (s : ByteArray) (w : World) (hl : SlS w a l) (h100 : l.length ≤ 100) :
    Calls Tryd.prog 21 #[.slice a l.length cap, .string s] w fun e w' => e = .returned (.bool (l.any (fun t => eqB s t))) ∧ w' = w := by
  go_enter Tryd.func21, Tryd.ntmps21
  go_wp2_with fail
  refine (sindex_any a cap l s _ hl h100).mono ?_
  rintro e w1 ⟨r, rfl, ⟨h1, h2, h3⟩, rfl⟩
  have H3 := hide h3
  clear h3
  go_wp2_with fail
  go_ret
  exact ⟨ret_is (unhide H3).symm, rfl⟩

set_option maxHeartbeats 400000 in
theorem rest_any (k : Int) (m : Nat) (w : World) (h0 : 0 < m) (h1 : m ≤ 100) :
    Calls Tryd.prog 22 #[.int .i64 k, .int .i64 m] w fun e w' => ∃ i : Nat, e = .returned (.int .i64 i) ∧ i < m ∧ w' = w := by
  have hm : ¬ ((m : Int) = 0) := by omega
  have hm2 : ¬ ((m : Int) = -1) := by omega
  have t1 : k.tmod m < m := Int.tmod_lt_of_pos k (by omega)
  have t2 : -(m : Int) < k.tmod m := by
    have := Int.tmod_lt_of_pos (-k) (show (0 : Int) < m by omega)
    rw [Int.neg_tmod] at this
    omega
  have z1 : -9223372036854775808 ≤ k.tmod m := by omega
  have z2 : k.tmod m ≤ 9223372036854775807 := by omega
  by_cases hr : k.tmod m < 0
  · go_enter Tryd.func22, Tryd.ntmps22
    go_wp2_with fail
    go_ret
    exact ⟨(k.tmod m + m).toNat, ret_int (by omega), by omega, rfl⟩
  · go_enter Tryd.func22, Tryd.ntmps22
    go_wp2_with fail
    go_ret
    exact ⟨(k.tmod m).toNat, ret_int (by omega), by omega, rfl⟩
end Go.Proofs.YtcdajajekmichadDoor
