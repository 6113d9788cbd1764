/-
  Contracts of the document's index: rillref.before, Shelf.at with its closure and slices.IndexFunc, Shelf.Get, Shelf.Put.
-/
import Derived.Test.YtcdajajekmichaaDoorWalkI5
import Derived.Test.YtcdajajekmichaaDoorWalk6a
namespace Go.Proofs.YtcdajajekmichaaDoor
open Go.RowKit

theorem bef_step {f g : List ByteArray} {k : Nat} (hf : k < f.length) (hg : k < g.length) : bef (f.drop k) (g.drop k) = if eqB (tk f k) (tk g k) then bef (f.drop (k + 1)) (g.drop (k + 1)) else ltS (tk f k) (tk g k) := by
  rw [drop_tk hf, drop_tk hg, bef]
theorem bef_end {f g : List ByteArray} {k : Nat} (h1 : k ≤ f.length) (h2 : k ≤ g.length) (h : ¬ (k < f.length ∧ k < g.length)) : bef (f.drop k) (g.drop k) = decide (f.length < g.length) := by
  rcases Nat.lt_or_ge k g.length with q | q
  · have e : f.drop k = [] := List.drop_of_length_le (by omega)
    rw [e, drop_tk q, bef]
    simp; omega
  · have e : g.drop k = [] := List.drop_of_length_le (by omega)
    rw [e, bef]
    simp; omega

set_option maxRecDepth 100000 in
set_option maxHeartbeats 1000000 in
theorem before_any (bf bg cf cg : Nat) (f g : List ByteArray) (w : World) (hf : Row w bf 0 f) (hg : Row w bg 0 g) (nf : f.length ≤ 8) :
    Calls Tryd.prog 50 #[.slice (some ⟨bf, 0, none⟩) f.length cf, .slice (some ⟨bg, 0, none⟩) g.length cg] w fun e w' => e = .returned (.bool (bef f g)) ∧ ∃ n, w' = w.drewN n := by
  have Hf := hide hf
  have Hg := hide hg
  clear hf hg
  go_enter Tryd.func50, Tryd.ntmps50
  go_wp2
  go_loopw [5] (fun i wr => ∃ k : Nat, k ≤ f.length ∧ k ≤ g.length ∧ i = .int .i64 k ∧ Hid (bef f g = bef (f.drop k) (g.drop k)) ∧ ∃ n, wr = w.drewN n) (fun i _ => f.length - (intOf i).toNat)
  case atStart => exact ⟨0, Nat.zero_le _, Nat.zero_le _, rfl, hide rfl, 0, rfl⟩
  case round =>
    obtain ⟨k, hk, hk2, rfl, hq, n, rfl⟩ := hrel
    by_cases hlt : k < f.length ∧ k < g.length
    · obtain ⟨h1, h2⟩ := hlt
      have hc1 : w.cell? ⟨bf, k, none⟩ = some (.string (tk f k)) := by have := unhide Hf k h1; rwa [Nat.zero_add] at this
      have hc2 : w.cell? ⟨bg, k, none⟩ = some (.string (tk g k)) := by have := unhide Hg k h2; rwa [Nat.zero_add] at this
      have R := hide (bef_step h1 h2)
      cases hd : ((tk f k).toList == (tk g k).toList)
      · have R2 := hide (show bef f g = Op.bytesLess (tk f k).toList (tk g k).toList by rw [unhide hq, unhide R, if_neg (by unfold eqB; rw [hd]; simp)]; rfl)
        go_wp2
        go_quiet (fail)
        go_wp2
        go_quiet (fail)
        go_wp2
        go_ret
        exact ⟨ret_is (unhide R2), _, (congrArg (fun x => World.drewN x _) (World.drewN_drewN _ _ _)).trans (World.drewN_drewN _ _ _)⟩
      · have R2 := hide (show bef f g = bef (f.drop (k + 1)) (g.drop (k + 1)) by rw [unhide hq, unhide R, if_pos (by unfold eqB; exact hd)])
        go_wp2
        go_quiet (fail)
        go_wp2
        exact ⟨⟨k + 1, by omega, by omega, by go_num, hide (unhide R2), _, rfl⟩, by simp [intOf]; omega⟩
    · have R := hide ((unhide hq).trans (bef_end hk hk2 hlt))
      by_cases h1 : k < f.length
      · have h2 : ¬ k < g.length := fun h => hlt ⟨h1, h⟩
        clear hlt
        go_wp2
        go_ret
        refine ⟨ret_bool ?_, _, rfl⟩
        rw [unhide R]
      · clear hlt
        go_wp2
        go_ret
        refine ⟨ret_bool ?_, _, rfl⟩
        rw [unhide R]

set_option maxHeartbeats 400000 in
theorem at1_any (e : Ent) (s : ByteArray) (b : Nat) (w : World) (hb : w.cell? ⟨b, 0, none⟩ = some (.string s)) (hl : b < w.heap.size) :
    Calls Tryd.prog 77 #[.agg #[.string e.1, .int .i64 e.2], .pointer (some ⟨b, 0, none⟩)] w fun r w' => r = .returned (.bool (eqB e.1 s)) ∧ Below w.heap.size w w' := by
  have h2 : ∀ o, (w.alloc o).cell? ⟨b, 0, none⟩ = some (.string s) := fun o => by rw [World.cell?_alloc_lt _ _ _ hl]; exact hb
  go_enter Tryd.func77, Tryd.ntmps77
  go_wp2_with fail
  go_ret
  exact ⟨rfl, (Below.refl _ _).alloc (Nat.le_refl _) _⟩
/-- where a subject is, or -1 -/
def atI (es : List Ent) (s : ByteArray) : Int := if hasAt es s then (place es s : Int) else -1
set_option maxHeartbeats 1000000 in
theorem indexf_any (a : Option Addr) (cap : Nat) (es : List Ent) (s : ByteArray) (b : Nat) (w : World) (hsl : Sl w a es) (hord : Ord es) (h100 : es.length ≤ 100) (hb : w.cell? ⟨b, 0, none⟩ = some (.string s)) (hl : b < w.heap.size) :
    Calls Tryd.prog 76 #[.slice a es.length cap, .func (.func 77) #[] #[.pointer (some ⟨b, 0, none⟩)]] w fun e w' => e = .returned (.int .i64 (atI es s)) ∧ Below w.heap.size w w' := by
  have Hord := hide hord
  have Hb := hide hb
  clear hord hb
  go_enter Tryd.func76, Tryd.ntmps76
  go_wp2
  go_loopw [8] (fun iv wr => ∃ (i : Nat), iv = .int .i64 i ∧ i ≤ es.length ∧ Hid (∀ k, k < i → eqB (en es k).1 s = false) ∧ Hid (Sl wr a es) ∧ Below w.heap.size w wr) (fun iv _ => es.length - (intOf iv).toNat)
  case atStart => exact ⟨0, rfl, Nat.zero_le _, hide (fun k hk => absurd hk (Nat.not_lt_zero k)), hide hsl, Below.refl _ _⟩
  case round =>
    obtain ⟨i, rfl, hi, hlo, hsl2, hb⟩ := hrel
    by_cases hlt : i < es.length
    · obtain ⟨g, rfl, hg, hc1, hc2⟩ := unhide hsl2 i (by omega)
      have H := hide (at1_any (en es i) s b wr (by rw [hb.cell (p := ⟨b, 0, none⟩) hl]; exact unhide Hb) (by have := hb.size; omega))
      cases he : eqB (en es i).1 s with
      | true =>
        have hp := has_hit (unhide Hord) hlt (eqB_iff.1 he)
        have Hp := hide (show atI es s = (i : Int) by unfold atI; rw [if_pos hp.1, hp.2])
        have He := hide he
        clear he hp
        go_wp2_with fail
        refine (unhide H).mono ?_
        rintro e w1 ⟨rfl, hb1⟩
        rw [unhide He]
        clear hc1 hc2
        go_wp2_with fail
        go_ret
        exact ⟨ret_eq (unhide Hp), bstep hb hb1⟩
      | false =>
        have He := hide he
        clear he
        go_wp2_with fail
        refine (unhide H).mono ?_
        rintro e w1 ⟨rfl, hb1⟩
        rw [unhide He]
        clear hc1 hc2
        go_wp2_with fail
        refine ⟨⟨i + 1, by go_num, by omega, hide (fun k hk => ?_), hide ((unhide hsl2).below hb1), bstep hb hb1⟩, ?_⟩
        · rcases Nat.lt_succ_iff_lt_or_eq.1 hk with q | q
          · exact unhide hlo k q
          · rw [q]; exact unhide He
        · simp [intOf]; omega
    · have Hp := hide (show atI es s = -1 by unfold atI; rw [has_none (fun j hj => unhide hlo j (by omega))]; simp)
      go_wp2_with fail
      go_ret
      exact ⟨ret_eq (unhide Hp), hb⟩

set_option maxHeartbeats 400000 in
theorem at_any (B p : Nat) (v : Value) (es : List Ent) (s : ByteArray) (w : World) (hk : Keeps w B p v es) (hg : Good es) :
    Calls Tryd.prog 49 #[.pointer (some ⟨p, 0, none⟩), .string s] w fun e w' => e = .returned (.int .i64 (atI es s)) ∧ Below w.heap.size w w' := by
  have hb0 : Below w.heap.size w (w.alloc (.cells #[.string s] 9)) := (Below.refl _ _).alloc (Nat.le_refl _) _
  have k1 := hk.below hb0
  obtain ⟨a, cap, rfl, hsl⟩ := k1.arr.sl
  have hc := k1.cell
  clear k1 hk
  go_enter Tryd.func49, Tryd.ntmps49
  go_wp2_with fail
  refine (indexf_any a cap es s w.heap.size _ hsl hg.1 hg.2.1 (by simp) (by simp)).mono ?_
  rintro e w1 ⟨rfl, hb⟩
  go_wp2_with fail
  go_ret
  exact ⟨rfl, bstep hb0 hb⟩

set_option maxHeartbeats 400000 in
theorem rget_any (B p : Nat) (v : Value) (es : List Ent) (s : ByteArray) (w : World) (hk : Keeps w B p v es) (hg : Good es) (hs : s.size ≤ 140737488355328) :
    Calls Tryd.prog 24 #[.pointer (some ⟨p, 0, none⟩), .string s] w fun e w' => e = .returned (.tuple #[.int .i64 (getN es s), .int .i64 (seeE es s)]) ∧ Below w.heap.size w w' := by
  have Hk := hide hk
  have Hg := hide hg
  clear hk hg
  by_cases he : errS false s = 0
  · cases hh : hasAt es s with
    | true =>
      have Hn := hide (show getN es s = (en es (place es s)).2 by unfold getN; rw [if_pos he, if_pos hh])
      have Hs := hide (show seeE es s = 0 by unfold seeE; rw [if_pos he, if_pos hh])
      have Ha := hide (show atI es s = (place es s : Int) by unfold atI; rw [if_pos hh])
      have h1 := (has_at hh).1
      have He := hide he
      obtain ⟨q, hq⟩ : ∃ q, place es s = q := ⟨_, rfl⟩
      rw [hq] at h1 Ha Hn
      clear he hh hq
      obtain ⟨g, cap, rfl, c1, c2, c3, c4⟩ := (unhide Hk).arr.there (by omega)
      unfold maxLen at c2
      go_enter Tryd.func24, Tryd.ntmps24
      go_wp2_with fail
      refine (rsubject_any s _ hs).mono ?_
      rintro e w1 ⟨rfl, hb1⟩
      rw [unhide He]
      go_wp2_with fail
      refine (at_any B p _ es s _ ((unhide Hk).below hb1) (unhide Hg)).mono ?_
      rintro e w2 ⟨rfl, hb2⟩
      rw [unhide Ha]
      have k2 := ((unhide Hk).below hb1).below hb2
      have d1 := k2.cell
      have d2 := k2.arr.num h1
      clear k2
      go_wp2_with fail
      go_ret2
      exact ⟨ret_tii (unhide Hn) (unhide Hs), bstep hb1 hb2⟩
    | false =>
      have Hn := hide (show getN es s = 0 by unfold getN; rw [if_pos he, hh]; simp)
      have Hs := hide (show seeE es s = 4 by unfold seeE; rw [if_pos he, hh]; simp)
      have Ha := hide (show atI es s = -1 by unfold atI; rw [hh]; simp)
      have He := hide he
      clear he hh
      go_enter Tryd.func24, Tryd.ntmps24
      go_wp2_with fail
      refine (rsubject_any s _ hs).mono ?_
      rintro e w1 ⟨rfl, hb1⟩
      rw [unhide He]
      go_wp2_with fail
      refine (at_any B p _ es s _ ((unhide Hk).below hb1) (unhide Hg)).mono ?_
      rintro e w2 ⟨rfl, hb2⟩
      rw [unhide Ha]
      go_wp2_with fail
      go_ret2
      exact ⟨ret_tii (unhide Hn) (unhide Hs), bstep hb1 hb2⟩
  · have Hn := hide (show getN es s = 0 by unfold getN; rw [if_neg he])
    have Hs := hide (show seeE es s = errS false s by unfold seeE; rw [if_neg he])
    go_enter Tryd.func24, Tryd.ntmps24
    go_wp2_with fail
    refine (rsubject_any s _ hs).mono ?_
    rintro e w1 ⟨rfl, hb1⟩
    go_wp2_with fail
    go_ret2
    exact ⟨ret_tii (unhide Hn) (unhide Hs), hb1⟩
end Go.Proofs.YtcdajajekmichaaDoor
