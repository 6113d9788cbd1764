/-
  Contracts of cmp.Compare at texts, slices.Compare at rows of texts, index.byTokens and the closure of index.place: the order of rows of tokens.
-/
import Derived.Test.YtcdajajekmichafDoorRowE
import Derived.Laws.Cover1
namespace Go.Proofs.YtcdajajekmichafDoor
open Go.RowKit

set_option maxHeartbeats 400000 in
theorem nan_any (x : ByteArray) (w : World) :
    Calls Tryd.prog 95 #[.string x] w fun e w' => e = .returned (.bool false) ∧ w' = w := by
  go_enter Tryd.func95, Tryd.ntmps95
  go_wp2
  go_ret
  exact ⟨ret_bool (by simp), rfl⟩

set_option maxHeartbeats 400000 in
theorem cmps_any (x y : ByteArray) (w : World) :
    Calls Tryd.prog 91 #[.string x, .string y] w fun e w' => e = .returned (.int .i64 (cmpS x y)) ∧ w' = w := by
  cases h1 : Op.bytesLess x.toList y.toList <;> cases h2 : (x.toList == y.toList)
  all_goals
    have hr : cmpS x y = (if Op.bytesLess x.toList y.toList = true then -1 else if (x.toList == y.toList) = true then 0 else 1) := rfl
    rw [h1, h2] at hr
    simp at hr
    have Hr := hide hr
    clear hr
    go_enter Tryd.func91, Tryd.ntmps91
    go_wp2_with (first | (go_at_call 95; refine (nan_any _ _).mono ?_; rintro e w' ⟨rfl, rfl⟩))
    go_ret
    exact ⟨ret_eq (unhide Hr), rfl⟩

theorem cmp_step {f g : List ByteArray} {k : Nat} (hf : k < f.length) (hg : k < g.length) : cmpL (f.drop k) (g.drop k) = if eqB (tk f k) (tk g k) then cmpL (f.drop (k + 1)) (g.drop (k + 1)) else if ltS (tk f k) (tk g k) then -1 else 1 := by
  rw [drop_tk hf, drop_tk hg, cmpL]
theorem cmp_long {f g : List ByteArray} {k : Nat} (hf : k < f.length) (hg : ¬ k < g.length) : cmpL (f.drop k) (g.drop k) = 1 := by
  have e : g.drop k = [] := List.drop_of_length_le (by omega)
  rw [drop_tk hf, e, cmpL]
theorem cmp_short {f g : List ByteArray} {k : Nat} (hf : ¬ k < f.length) (hg : k < g.length) : cmpL (f.drop k) (g.drop k) = -1 := by
  have e : f.drop k = [] := List.drop_of_length_le (by omega)
  rw [drop_tk hg, e, cmpL]
theorem cmp_both {f g : List ByteArray} {k : Nat} (hf : ¬ k < f.length) (hg : ¬ k < g.length) : cmpL (f.drop k) (g.drop k) = 0 := by
  rw [List.drop_of_length_le (by omega), List.drop_of_length_le (by omega), cmpL]

set_option maxHeartbeats 1000000 in
theorem cmpl_any (bf bg : Nat) (f g : List ByteArray) (w : World) (hf : Row w bf 0 f) (hg : Row w bg 0 g) (nf : f.length ≤ 8) :
    Calls Tryd.prog 83 #[.slice (some ⟨bf, 0, none⟩) f.length f.length, .slice (some ⟨bg, 0, none⟩) g.length g.length] w fun e w' => e = .returned (.int .i64 (cmpL f g)) ∧ w' = w := by
  have hcf : ∀ k, k < f.length → w.cell? ⟨bf, k, none⟩ = some (.string (tk f k)) := fun k hk => by have := hf k hk; rwa [Nat.zero_add] at this
  have hcg : ∀ k, k < g.length → w.cell? ⟨bg, k, none⟩ = some (.string (tk g k)) := fun k hk => by have := hg k hk; rwa [Nat.zero_add] at this
  clear hf hg
  go_enter Tryd.func83, Tryd.ntmps83
  go_wp2
  go_loop [11] (fun i => ∃ k : Nat, k ≤ f.length ∧ k ≤ g.length ∧ i = .int .i64 k ∧ Hid (cmpL f g = cmpL (f.drop k) (g.drop k))) (fun i => f.length - (intOf i).toNat)
  case atStart => exact ⟨0, Nat.zero_le _, Nat.zero_le _, rfl, hide rfl⟩
  case round =>
    obtain ⟨k, hk, hk2, rfl, hq⟩ := hrel
    by_cases hlt : k < f.length
    · have hc1 := hcf k hlt
      by_cases hlg : k < g.length
      · have hc2 := hcg k hlg
        have Hs := hide (cmp_step hlt hlg)
        clear hcf hcg
        cases he : eqB (tk f k) (tk g k) with
        | true =>
          have Hc := hide (cmpS_eq he)
          have He := hide he
          clear he
          go_wp2_with (first | (go_at_call 91; refine (cmps_any _ _ _).mono ?_; rintro e w' ⟨rfl, rfl⟩; rw [unhide Hc]))
          go_round
          case rel => exact ⟨k + 1, by omega, by omega, by go_num, hide (by rw [unhide hq, unhide Hs, if_pos (unhide He)])⟩
          case measure => simp [intOf]; omega
        | false =>
          cases hl : ltS (tk f k) (tk g k)
          all_goals
            have Hc := hide (show cmpS (tk f k) (tk g k) = (if ltS (tk f k) (tk g k) = true then -1 else if eqB (tk f k) (tk g k) = true then 0 else 1) from rfl)
            have Hs2 : Hid (cmpL f g = (if ltS (tk f k) (tk g k) = true then -1 else 1)) := hide (by rw [unhide hq, unhide Hs, if_neg (by rw [he]; simp)])
            rw [hl] at Hs2
            rw [hl, he] at Hc
            clear hl he
            go_wp2_with (first | (go_at_call 91; refine (cmps_any _ _ _).mono ?_; rintro e w' ⟨rfl, rfl⟩; rw [unhide Hc]; simp only [Bool.false_eq_true, if_false, if_true]))
            go_ret
            exact ⟨ret_eq (by rw [unhide Hs2]; simp), rfl⟩
      · clear hcf hcg
        have Hs := hide (cmp_long hlt hlg)
        go_wp2
        go_ret
        exact ⟨ret_eq (by rw [unhide hq]; exact unhide Hs), rfl⟩
    · clear hcf hcg
      by_cases hlg : k < g.length
      · have Hs := hide (cmp_short hlt hlg)
        go_wp2
        go_ret
        exact ⟨ret_eq (by rw [unhide hq]; exact unhide Hs), rfl⟩
      · have Hs := hide (cmp_both hlt hlg)
        go_wp2
        go_ret
        exact ⟨ret_eq (by rw [unhide hq]; exact unhide Hs), rfl⟩

def cmpT (a b : ByteArray) : Int := cmpL (Pl.toks a) (Pl.toks b)
set_option maxHeartbeats 400000 in
theorem bytok_any (a b : ByteArray) (w : World) (ha : a.size ≤ 140737488355328) (hb : b.size ≤ 140737488355328) (na : (Pl.toks a).length ≤ 8) (nb : (Pl.toks b).length ≤ 8) :
    Calls Tryd.prog 75 #[.string a, .string b] w fun e w' => e = .returned (.int .i64 (cmpT a b)) ∧ Below w.heap.size w w' := by
  go_enter Tryd.func75, Tryd.ntmps75
  go_wp2_with fail
  refine (split_few a _ ha na).mono ?_
  rintro e w1 ⟨b1, rfl, h1, h2, h3, h4⟩
  go_wp2_with fail
  refine (split_few b _ hb nb).mono ?_
  rintro e w2 ⟨b2, rfl, g1, g2, g3, g4⟩
  go_wp2_with fail
  refine (cmpl_any b1 b2 _ _ _ (h4.below g3 h2) g4 na).mono ?_
  rintro e w3 ⟨rfl, rfl⟩
  go_wp2_with fail
  go_ret
  exact ⟨rfl, bstep h3 g3⟩

set_option maxHeartbeats 400000 in
theorem closure_any (e : Ent) (b : ByteArray) (w : World) (ha : e.1.size ≤ 140737488355328) (hb : b.size ≤ 140737488355328) (na : (Pl.toks e.1).length ≤ 8) (nb : (Pl.toks b).length ≤ 8) :
    Calls Tryd.prog 74 #[.agg #[.string e.1, .int .i64 e.2], .string b] w fun r w' => r = .returned (.int .i64 (cmpT e.1 b)) ∧ Below w.heap.size w w' := by
  go_enter Tryd.func74, Tryd.ntmps74
  go_wp2_with fail
  refine (bytok_any _ b _ ha hb na nb).mono ?_
  rintro e w1 ⟨rfl, h1⟩
  go_wp2_with fail
  go_ret
  exact ⟨rfl, bstep ((Below.refl _ _).alloc (Nat.le_refl _) _) h1⟩
end Go.Proofs.YtcdajajekmichafDoor
