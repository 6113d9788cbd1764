/-
  Contracts of the document's disk: Drawer.at with its closure and slices.IndexFunc, Drawer.Used, Drawer.Read.
-/
import Derived.Test.YtbejicpfhnfnfabWalkP1
namespace Go.Proofs.Ytbejicpfhnfnfab.Dk
open Go.RowKit

/-- a row of papers as a slice -/
def Sl (w : World) (a : Option Addr) (es : List Pap) : Prop := ∀ k, k < es.length → ∃ g, a = some ⟨g, 0, none⟩ ∧ g < w.heap.size ∧ w.cell? ⟨g, k * 3, none⟩ = some (.int .i64 (pa es k).n) ∧ w.cell? ⟨g, k * 3 + 1, none⟩ = some (.int .i64 (pa es k).sure) ∧ w.cell? ⟨g, k * 3 + 2, none⟩ = some (.string (pa es k).text)
theorem Arr.sl {w : World} {B : Nat} {v : Value} {es : List Pap} (h : Arr w B v es) : ∃ a cap, v = .slice a es.length cap ∧ Sl w a es := by
  obtain ⟨a, cap, rfl, _, _, _⟩ := h.shape
  refine ⟨a, cap, rfl, fun k hk => ?_⟩
  obtain ⟨g, cap', e, _, _, _, hg⟩ := h.there (by omega)
  obtain ⟨rfl, _, rfl⟩ := Value.slice.inj e
  exact ⟨g, rfl, hg, h.num hk, h.sure hk, h.text hk⟩
theorem Sl.below {w w' : World} {a : Option Addr} {es : List Pap} (h : Sl w a es) (hb : Below w.heap.size w w') : Sl w' a es := by
  intro k hk
  obtain ⟨g, h1, h2, h3, h4, h5⟩ := h k hk
  exact ⟨g, h1, Nat.lt_of_lt_of_le h2 hb.size, by rw [hb.cell (p := ⟨g, k * 3, none⟩) h2]; exact h3, by rw [hb.cell (p := ⟨g, k * 3 + 1, none⟩) h2]; exact h4, by rw [hb.cell (p := ⟨g, k * 3 + 2, none⟩) h2]; exact h5⟩

set_option maxHeartbeats 400000 in
theorem at1_any (e : Pap) (n : Int) (b : Nat) (w : World) (hb : w.cell? ⟨b, 0, none⟩ = some (.int .i64 n)) (hl : b < w.heap.size) :
    Calls Try.prog 31 #[.agg #[.int .i64 e.n, .int .i64 e.sure, .string e.text], .pointer (some ⟨b, 0, none⟩)] w fun r w' => r = .returned (.bool (e.n == n)) ∧ Below w.heap.size w w' := by
  have h2 : ∀ o, (w.alloc o).cell? ⟨b, 0, none⟩ = some (.int .i64 n) := fun o => by rw [World.cell?_alloc_lt _ _ _ hl]; exact hb
  go_enter Try.func31, Try.ntmps31
  go_wp2_with fail
  go_ret
  exact ⟨rfl, (Below.refl _ _).alloc (Nat.le_refl _) _⟩
set_option maxHeartbeats 1000000 in
theorem indexf_any (a : Option Addr) (cap : Nat) (es : List Pap) (n : Int) (b : Nat) (w : World) (hsl : Sl w a es) (h100 : es.length ≤ 100) (hb : w.cell? ⟨b, 0, none⟩ = some (.int .i64 n)) (hl : b < w.heap.size) :
    Calls Try.prog 30 #[.slice a es.length cap, .func (.func 31) #[] #[.pointer (some ⟨b, 0, none⟩)]] w fun e w' => e = .returned (.int .i64 (atI es n)) ∧ Below w.heap.size w w' := by
  have Hb := hide hb
  clear hb
  go_enter Try.func30, Try.ntmps30
  go_wp2
  go_loopw [8] (fun iv wr => ∃ (i : Nat), iv = .int .i64 i ∧ i ≤ es.length ∧ Hid (∀ k, k < i → ((pa es k).n == n) = false) ∧ Hid (Sl wr a es) ∧ Below w.heap.size w wr) (fun iv _ => es.length - (intOf iv).toNat)
  case atStart => exact ⟨0, rfl, Nat.zero_le _, hide (fun k hk => absurd hk (Nat.not_lt_zero k)), hide hsl, Below.refl _ _⟩
  case round =>
    obtain ⟨i, rfl, hi, hlo, hsl2, hb⟩ := hrel
    by_cases hlt : i < es.length
    · obtain ⟨g, rfl, hg, hc1, hc2, hc3⟩ := unhide hsl2 i (by omega)
      have H := hide (at1_any (pa es i) n b wr (by rw [hb.cell (p := ⟨b, 0, none⟩) hl]; exact unhide Hb) (by have := hb.size; omega))
      cases he : ((pa es i).n == n) with
      | true =>
        have hp := ix_hit hlt (by simpa using he) (unhide hlo)
        have Hp := hide (show atI es n = (i : Int) by unfold atI; rw [hp, if_pos hlt])
        have He := hide he
        clear he hp
        go_wp2_with fail
        refine (unhide H).mono ?_
        rintro e w1 ⟨rfl, hb1⟩
        rw [unhide He]
        clear hc1 hc2 hc3
        go_wp2_with fail
        go_ret
        exact ⟨ret_eq (unhide Hp), bstep hb hb1⟩
      | false =>
        have He := hide he
        clear he
        go_wp2_with fail
        refine (unhide H).mono ?_
        rintro e w1 ⟨rfl, hb1⟩
        rw [unhide He]
        clear hc1 hc2 hc3
        go_wp2_with fail
        refine ⟨⟨i + 1, by go_num, by omega, hide (fun k hk => ?_), hide ((unhide hsl2).below hb1), bstep hb hb1⟩, ?_⟩
        · rcases Nat.lt_succ_iff_lt_or_eq.1 hk with q | q
          · exact unhide hlo k q
          · rw [q]; exact unhide He
        · simp [intOf]; omega
    · have Hp := hide (show atI es n = -1 by unfold atI; rw [ix_none (fun j hj => unhide hlo j (by omega)), if_neg (by omega)])
      go_wp2_with fail
      go_ret
      exact ⟨ret_eq (unhide Hp), hb⟩

set_option maxHeartbeats 400000 in
theorem at_any (B p : Nat) (m : Int) (v : Value) (es : List Pap) (n : Int) (w : World) (hk : Keeps w B p m v es) (h100 : es.length ≤ 100) :
    Calls Try.prog 20 #[.pointer (some ⟨p, 0, none⟩), .int .i64 n] w fun e w' => e = .returned (.int .i64 (atI es n)) ∧ Below w.heap.size w w' := by
  have hb0 : Below w.heap.size w (w.alloc (.cells #[.int .i64 n] 3)) := (Below.refl _ _).alloc (Nat.le_refl _) _
  have k1 := hk.below hb0
  obtain ⟨a, cap, rfl, hsl⟩ := k1.arr.sl
  have hc := k1.cell
  clear k1 hk
  go_enter Try.func20, Try.ntmps20
  go_wp2_with fail
  refine (indexf_any a cap es n w.heap.size _ hsl h100 (by simp) (by simp)).mono ?_
  rintro e w1 ⟨rfl, hb⟩
  go_wp2_with fail
  go_ret
  exact ⟨rfl, bstep hb0 hb⟩

set_option maxHeartbeats 400000 in
theorem used_any (B p : Nat) (m : Int) (v : Value) (es : List Pap) (w : World) (hk : Keeps w B p m v es) (h100 : es.length ≤ 100) (hu : used es ≤ 1000000000000000000) :
    Calls Try.prog 23 #[.pointer (some ⟨p, 0, none⟩)] w fun e w' => e = .returned (.int .i64 (used es : Int)) ∧ w' = w := by
  have hc := hk.cell
  have Hk := hide hk
  obtain ⟨a, cap, rfl, hsl⟩ := hk.arr.sl
  have Hs := hide hsl
  clear hsl hk
  go_enter Try.func23, Try.ntmps23
  go_wp2_with fail
  go_loop [3, 4] (fun c i => ∃ k : Nat, k ≤ es.length ∧ i = .int .i64 k ∧ c = .int .i64 ((used (es.take k) : Nat) : Int)) (fun _ i => es.length - (intOf i).toNat)
  case atStart => exact ⟨0, Nat.zero_le _, rfl, rfl⟩
  case round =>
    obtain ⟨k, hk, rfl, rfl⟩ := hrel
    have hl := used_le es k
    by_cases hlt : k < es.length
    · obtain ⟨g, rfl, hg, hc1, hc2, hc3⟩ := unhide Hs k hlt
      have hn := used_take hlt
      have hl2 := used_le es (k + 1)
      have Hn := hide hn
      have hb : (used (es.take k) : Int) + ((pa es k).text.size : Int) ≤ 1000000000000000000 := by omega
      clear hn hl2 hc1 hc2
      go_wp2_with fail
      go_round
      case rel => exact ⟨k + 1, by omega, by go_num, by rw [unhide Hn]; simp⟩
      case measure => simp [intOf]; omega
    · obtain rfl : k = es.length := by omega
      go_wp2_with fail
      go_ret
      exact ⟨ret_int (by first | rfl | (rw [List.take_length])), rfl⟩

set_option maxHeartbeats 400000 in
theorem read_any (B p : Nat) (m : Int) (v : Value) (es : List Pap) (n : Int) (w : World) (hk : Keeps w B p m v es) (h100 : es.length ≤ 100) :
    Calls Try.prog 8 #[.pointer (some ⟨p, 0, none⟩), .int .i64 n] w fun e w' => e = .returned (readV es n) ∧ Below w.heap.size w w' := by
  have Hk := hide hk
  clear hk
  by_cases hh : ix es n < es.length
  · have Ha := hide (atI_there hh)
    have HR : Hid (readV es n = .tuple #[.string (pa es (ix es n)).text, .int .i64 0]) := hide (by unfold readV; rw [if_pos hh])
    generalize ix es n = q at hh Ha HR
    obtain ⟨g, cap, rfl, c1, c2, c3, c4⟩ := (unhide Hk).arr.there (by omega)
    unfold maxLen at c2
    go_enter Try.func8, Try.ntmps8
    go_wp2_with fail
    refine (at_any B p m _ es n _ (unhide Hk) h100).mono ?_
    rintro e w1 ⟨rfl, hb1⟩
    rw [unhide Ha]
    have k1 := (unhide Hk).below hb1
    have d1 := k1.cell
    have d2 := k1.arr.text hh
    clear k1
    go_wp2_with fail
    go_ret2
    exact ⟨by rw [unhide HR]; rfl, hb1⟩
  · have Ha := hide (atI_none hh)
    have HR : Hid (readV es n = .tuple #[.string ⟨#[]⟩, .int .i64 4]) := hide (by unfold readV; rw [if_neg hh])
    clear hh
    go_enter Try.func8, Try.ntmps8
    go_wp2_with fail
    refine (at_any B p m _ es n _ (unhide Hk) h100).mono ?_
    rintro e w1 ⟨rfl, hb1⟩
    rw [unhide Ha]
    go_wp2_with fail
    go_ret2
    exact ⟨by rw [unhide HR]; rfl, hb1⟩

/-- what a call makes of the document's disk: the new papers, and which blocks were written -/
def Upd (w w' : World) (B p : Nat) (m : Int) (v : Value) (es' : List Pap) : Prop := ∃ v', Keeps w' B p m v' es' ∧ Chg (foot p v) w w' ∧ ∀ g, v'.ownBlock = some g → v.ownBlock = some g ∨ w.heap.size ≤ g
theorem Upd.same {w w' : World} {B p : Nat} {m : Int} {v : Value} {es : List Pap} (h : Keeps w B p m v es) (hb : Below w.heap.size w w') : Upd w w' B p m v es := ⟨v, h.below hb, Chg.of_below hb, fun _ h => .inl h⟩
theorem Upd.behind {w w1 w2 : World} {B p : Nat} {m : Int} {v : Value} {es' : List Pap} (hb : Below w.heap.size w w1) (h : Upd w1 w2 B p m v es') : Upd w w2 B p m v es' := by
  obtain ⟨v', h1, h2, h3⟩ := h
  exact ⟨v', h1, (Chg.of_below hb).trans h2, fun g hg => by
    rcases h3 g hg with q | q
    · exact .inl q
    · exact .inr (Nat.le_trans hb.size q)⟩

theorem Upd.drew {w w' : World} {B p : Nat} {m : Int} {v : Value} {es : List Pap} (h : Upd w w' B p m v es) : Upd w w'.drew B p m v es := by
  obtain ⟨v', h1, h2, h3⟩ := h
  exact ⟨v', h1.below (Below.refl _ _).drew, ⟨h2.os, h2.tape, h2.output, h2.size, h2.block⟩, h3⟩
set_option maxHeartbeats 400000 in
theorem sync_any (B p : Nat) (m : Int) (v : Value) (es : List Pap) (n : Int) (w : World) (hk : Keeps w B p m v es) (h100 : es.length ≤ 100) :
    Calls Try.prog 14 #[.pointer (some ⟨p, 0, none⟩), .int .i64 n] w fun e w' => e = .returned (.int .i64 (hasE es n)) ∧ Upd w w' B p m v (syncL es n) := by
  have Hk := hide hk
  clear hk
  by_cases hh : ix es n < es.length
  · have Ha := hide (atI_there hh)
    have HR : Hid (hasE es n = 0 ∧ syncL es n = es.set (ix es n) { pa es (ix es n) with sure := ((pa es (ix es n)).text.size : Int) }) := hide (by unfold hasE syncL; rw [if_pos hh, if_pos hh]; exact ⟨rfl, rfl⟩)
    generalize ix es n = q at hh Ha HR
    obtain ⟨g, cap, rfl, c1, c2, c3, c4⟩ := (unhide Hk).arr.there (by omega)
    unfold maxLen at c2
    go_enter Try.func14, Try.ntmps14
    go_wp2_with fail
    refine (at_any B p m _ es n _ (unhide Hk) h100).mono ?_
    rintro e w1 ⟨rfl, hb1⟩
    rw [unhide Ha]
    have k1 := (unhide Hk).below hb1
    have d1 := k1.cell
    have d2 := k1.arr.text hh
    have d3 := k1.arr.sure hh
    have d4 := World.ownsRow.frozenAt k1.arr (q * 3 + 1)
    have K1 := hide k1
    clear k1
    go_wp2_with fail
    go_region
    have HU := hide ((unhide K1).sure hh ((pa es q).text.size : Int))
    go_wp2_with fail
    go_ret
    refine ⟨ret_eq (unhide HR).1, ?_⟩
    rw [(unhide HR).2]
    exact Upd.behind hb1 (Upd.drew ⟨_, (unhide HU).1, (unhide HU).2, fun g' hg' => .inl hg'⟩)
  · have Ha := hide (atI_none hh)
    have HR : Hid (hasE es n = 4 ∧ syncL es n = es) := hide (by unfold hasE syncL; rw [if_neg hh, if_neg hh]; exact ⟨rfl, rfl⟩)
    clear hh
    go_enter Try.func14, Try.ntmps14
    go_wp2_with fail
    refine (at_any B p m _ es n _ (unhide Hk) h100).mono ?_
    rintro e w1 ⟨rfl, hb1⟩
    rw [unhide Ha]
    go_wp2_with fail
    go_ret
    refine ⟨ret_eq (unhide HR).1, ?_⟩
    rw [(unhide HR).2]
    exact Upd.same (unhide Hk) hb1
end Go.Proofs.Ytbejicpfhnfnfab.Dk
