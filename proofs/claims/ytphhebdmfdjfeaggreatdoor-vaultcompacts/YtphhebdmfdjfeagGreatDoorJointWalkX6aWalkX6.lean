/-
  Rows of records: what copy and clear make of them, what slices.Replace leaves. No walk.
  The program's store: slices.Replace of the first records by fewer ones.
-/
import Derived.Test.YtphhebdmfdjfeagGreatDoorWalkX3
import Derived.Deep.AppendSrc
import Derived.Test.YtphhebdmfdjfeagGreatDoorJointRowXRowY
namespace Go.Proofs.YtphhebdmfdjfeagGreatDoor.Dk
open Go.RowKit

theorem ArrR.src {w : World} {B : Nat} {v : Value} {l : List Rc} (h : ArrR w B v l) : Src Tryz.prog 6 22 v l.length (celR l) w := by
  rcases h.2 with ⟨h1, h2⟩ | ⟨g, cap, cur, h1, h2, h3, h4, h5, h6, h7⟩
  · have : l = [] := List.length_eq_zero_iff.1 h2
    subst this
    rw [h1]
    exact Src.ofNil w Tryz.underlying22 0
  · rw [h1] at h ⊢
    exact Src.ofSlice w Tryz.underlying22 ⟨g, 0, none⟩ l.length cap (celR l) (celR_length l) (World.ownsRow.cells h (g := g) rfl) (celR_one l)
theorem run_copy_src (w : World) (ty : TypeId) (b o dLen dCap : Nat) (x : Value) (m : Nat) (news : List Value) (hs : Src Tryz.prog 6 22 x m news w) (hm : m ≤ dLen)
    (hc : ∀ j, j < news.length → (w.cell? ⟨b, o + j, none⟩).isSome = true) (hf : ∀ j, j < news.length → w.frozen? ⟨b, o + j, none⟩ = false) :
    (Builtin.copy_ #[22, 22] ty #[.slice (some ⟨b, o, none⟩) dLen dCap, x]).run Tryz.prog w = .ok (goInt m) (w.setCells b o news) := by
  have hst := run_storeCells_cells (P := Tryz.prog) b o news 0 w (by simpa using hc) (by simpa using hf) hs.one
  simp only [Nat.add_zero] at hst
  obtain ⟨i0, hi, hz0, hz1, hz2⟩ := info_parts infoR
  have hmin : Nat.min m dLen = m := Nat.min_eq_left hm
  simp [Builtin.copy_, run_underlying Tryz.underlying22, sizeOf, typeInfo, hi, hz1, hs.len, hmin, hs.cells, hst]
def zeroR6 : Array Value := (Value.agg #[.int .i64 0, .int .i64 0, .int .i64 0, .string ⟨#[]⟩, .string ⟨#[]⟩, .string ⟨#[]⟩]).cells
theorem zeroR6_is : zeroR6 = #[.int .i64 0, .int .i64 0, .int .i64 0, .string ⟨#[]⟩, .string ⟨#[]⟩, .string ⟨#[]⟩] := by kernel_rfl
def zerosR (n : Nat) : List Value := (Builtin.zeroCells zeroR6 n).toList
theorem zerosR_length (n : Nat) : (zerosR n).length = n * 6 := by
  unfold zerosR Builtin.zeroCells
  rw [zeroR6_is]
  simp
theorem zerosR_one (n : Nat) : ∀ v ∈ zerosR n, v.oneCell' = true := by
  intro v h
  unfold zerosR Builtin.zeroCells at h
  rw [zeroR6_is] at h
  simp only [Array.toList_map, List.mem_map] at h
  obtain ⟨i, _, rfl⟩ := h
  have hi : i % 6 < 6 := Nat.mod_lt _ (by decide)
  have e : ∀ j, j < 6 → ((#[.int .i64 0, .int .i64 0, .int .i64 0, .string ⟨#[]⟩, .string ⟨#[]⟩, .string ⟨#[]⟩] : Array Value)[j]!).oneCell' = true := by decide +kernel
  exact e _ hi
theorem run_clear_rec (w : World) (ty : TypeId) (b o n c : Nat) (hn : 0 < n)
    (hc : ∀ j, j < n * 6 → (w.cell? ⟨b, o + j, none⟩).isSome = true) (hf : ∀ j, j < n * 6 → w.frozen? ⟨b, o + j, none⟩ = false) :
    (Builtin.clear_ #[22] ty #[.slice (some ⟨b, o, none⟩) n c]).run Tryz.prog w = .ok (.tuple #[]) (w.setCells b o (zerosR n)) := by
  obtain ⟨m, rfl⟩ : ∃ m, n = m + 1 := ⟨n - 1, by omega⟩
  have hst := run_storeCells_cells (P := Tryz.prog) b o (zerosR (m + 1)) 0 w (by rw [zerosR_length]; simpa using hc) (by rw [zerosR_length]; simpa using hf) (zerosR_one _)
  simp only [Nat.add_zero] at hst
  have hz : (Builtin.zeroCells (Value.agg #[.int .i64 0, .int .i64 0, .int .i64 0, .string ⟨#[]⟩, .string ⟨#[]⟩, .string ⟨#[]⟩]).cells (m + 1)).toList = zerosR (m + 1) := rfl
  simp [Builtin.clear_, run_underlying Tryz.underlying22, Tryz.zeroValue30, hz, hst]
theorem run_clear_nil (w : World) (ty : TypeId) (a : Option Addr) (c : Nat) :
    (Builtin.clear_ #[22] ty #[.slice a 0 c]).run Tryz.prog w = .ok (.tuple #[]) w := by
  cases a <;> simp [Builtin.clear_, run_underlying Tryz.underlying22]

theorem lists_rep (xs a d z : List Value) :
    let y1 := xs.take 0 ++ a ++ xs.drop (0 + a.length)
    let y2 := y1.take a.length ++ d ++ y1.drop (a.length + d.length)
    let y3 := y2.take (a.length + d.length) ++ z ++ y2.drop (a.length + d.length + z.length)
    y3.take (a.length + d.length) = a ++ d := by
  intro y1 y2 y3
  have e1 : y1.take a.length = a := by
    show (xs.take 0 ++ a ++ xs.drop (0 + a.length)).take a.length = a
    rw [List.take_zero, List.nil_append, List.take_append_of_le_length (Nat.le_refl _), List.take_length]
  have e2 : y2.take (a.length + d.length) = a ++ d := by
    show (y1.take a.length ++ d ++ y1.drop (a.length + d.length)).take (a.length + d.length) = a ++ d
    rw [e1, List.take_append_of_le_length (by rw [List.length_append]; omega), List.take_of_length_le (by rw [List.length_append]; omega)]
  show (y2.take (a.length + d.length) ++ z ++ y2.drop (a.length + d.length + z.length)).take (a.length + d.length) = a ++ d
  rw [e2, List.append_assoc, List.take_append_of_le_length (by rw [List.length_append]; omega), List.take_of_length_le (by rw [List.length_append]; omega)]
/-- what Replace of the first p records by fewer ones leaves -/
theorem rep_row {w : World} {B g cap p : Nat} {l A : List Rc} (ha : ArrR w B (.slice (some ⟨g, 0, none⟩) l.length cap) l) (hA : A.length ≤ p) (hp : p ≤ l.length) {w3 : World}
    (h3 : w3 = ((w.setCells g 0 (celR A)).setCells g (A.length * 6) ((celR l).drop (p * 6))).setCells g ((A.length + (l.length - p)) * 6) (zerosR (p - A.length))) :
    ArrR w3 B (.slice (some ⟨g, 0, none⟩) (A ++ l.drop p).length cap) (A ++ l.drop p) ∧ Chg (fun k => k = g) w w3 := by
  have hxs := celR_length l
  have hla := celR_length A
  have hld : ((celR l).drop (p * 6)).length = (l.length - p) * 6 := by rw [List.length_drop, hxs]; omega
  have hlz := zerosR_length (p - A.length)
  refine ⟨?_, by rw [h3]; exact chgD (((chg_sets _ _ _).trans (chg_sets _ _ _)).trans (chg_sets _ _ _))⟩
  have o1 := own_sets (celR A) 0 _ _ ha (by rw [hla, hxs]; omega)
  have o2 := own_sets ((celR l).drop (p * 6)) (celR A).length _ _ o1 (by simp only [List.length_append, List.length_take, List.length_drop, hxs, hla]; omega)
  have o3 := own_sets (zerosR (p - A.length)) ((celR A).length + ((celR l).drop (p * 6)).length) _ _ o2 (by simp only [List.length_append, List.length_take, List.length_drop, hxs, hla, hlz]; omega)
  have o4 := own_shorter (k := A.length + (l.length - p)) o3 (by omega)
  have e := lists_rep (celR l) (celR A) ((celR l).drop (p * 6)) (zerosR (p - A.length))
  have ek : (A.length + (l.length - p)) * 6 = (celR A).length + ((celR l).drop (p * 6)).length := by rw [hla, hld]; omega
  rw [← ek] at o4 e
  dsimp only at e
  have hlen : (A ++ l.drop p).length = A.length + (l.length - p) := by rw [List.length_append, List.length_drop]
  unfold ArrR
  rw [hlen, celR_append, celR_drop, h3]
  rw [hla] at o4 e
  rw [e] at o4
  exact o4
end Go.Proofs.YtphhebdmfdjfeagGreatDoor.Dk

namespace Go.Proofs.YtphhebdmfdjfeagGreatDoor.Dk
open Go.RowKit

set_option maxRecDepth 100000 in
set_option maxHeartbeats 400000 in
theorem insert_none (a : Option Addr) (n cap : Nat) (a2 : Option Addr) (c2 : Nat) (w : World) :
    Calls Tryz.prog 85 #[.slice a n cap, .int .i64 0, .slice a2 0 c2] w fun e w' => e = .returned (.slice a n cap) ∧ w' = w := by
  go_enter Tryz.func85, Tryz.ntmps85
  go_wp2_with fail
  go_ret
  exact ⟨rfl, rfl⟩

set_option maxRecDepth 100000 in
set_option maxHeartbeats 1000000 in
theorem replace_none (a : Option Addr) (n cap : Nat) (a2 : Option Addr) (c2 : Nat) (w : World) :
    Calls Tryz.prog 64 #[.slice a n cap, .int .i64 0, .int .i64 0, .slice a2 0 c2] w fun e w' => e = .returned (.slice a n cap) ∧ w' = w := by
  go_enter Tryz.func64, Tryz.ntmps64
  go_wp2_with fail
  refine (insert_none a n cap a2 c2 _).mono ?_
  rintro e w1 ⟨rfl, rfl⟩
  go_wp2_with fail
  go_ret
  exact ⟨rfl, rfl⟩

set_option maxRecDepth 100000 in
set_option maxHeartbeats 2000000 in
theorem replace_same (g n cap : Nat) (a2 : Option Addr) (c2 : Nat) (w W1 : World) (hn : n ≤ 200) (hc : n ≤ cap) (h0 : 0 < n)
    (hr : ∀ ty, (Builtin.append_ #[22, 22] ty #[.slice (some ⟨g, 0, none⟩) 0 cap, .slice a2 n c2]).run Tryz.prog w = .ok (.slice (some ⟨g, 0, none⟩) n cap) W1) :
    Calls Tryz.prog 64 #[.slice (some ⟨g, 0, none⟩) n cap, .int .i64 0, .int .i64 n, .slice a2 n c2] w fun e w' => e = .returned (.slice (some ⟨g, 0, none⟩) n cap) ∧ w' = W1 := by
  have e0 : ((0 : Int) == (n : Int)) = false := by simp; omega
  go_enter Tryz.func64, Tryz.ntmps64
  go_wp2_with (at_builtin; refine Lib.wpList_append_run _ rfl _ _ _ _ rfl _ _ rfl rfl _ _ (hr _) ?_)
  go_ret
  exact ⟨rfl, rfl⟩
set_option maxRecDepth 100000 in
set_option maxHeartbeats 2000000 in
theorem replace_all (g m d cap : Nat) (a2 : Option Addr) (c2 : Nat) (w W1 W2 : World) (hn : m + d ≤ 200) (hc : m + d ≤ cap) (h0 : 0 < d)
    (hr : ∀ ty, (Builtin.append_ #[22, 22] ty #[.slice (some ⟨g, 0, none⟩) 0 cap, .slice a2 m c2]).run Tryz.prog w = .ok (.slice (some ⟨g, 0, none⟩) m cap) W1)
    (hcl : ∀ ty c, (Builtin.clear_ #[22] ty #[.slice (some ⟨g, m * 6, none⟩) d c]).run Tryz.prog W1 = .ok (.tuple #[]) W2) :
    Calls Tryz.prog 64 #[.slice (some ⟨g, 0, none⟩) (m + d) cap, .int .i64 0, .int .i64 (m + d), .slice a2 m c2] w fun e w' => e = .returned (.slice (some ⟨g, 0, none⟩) m cap) ∧ w' = W2 := by
  have e0 : ((0 : Int) == (m : Int) + (d : Int)) = false := by simp; omega
  have e1 : ¬ cap = m := by omega
  have e2 : m + d - m = d := by omega
  have e3 : (m : Int) < (m : Int) + (d : Int) := by omega
  have e4 : (0 : Int) ≤ (m : Int) + (d : Int) := by omega
  have e5 : m ≤ cap := by omega
  have e6 : ((m : Int) + (d : Int)).toNat = m + d := by omega
  go_enter Tryz.func64, Tryz.ntmps64
  go_wp2_with (at_builtin; refine Lib.wpList_append_run _ rfl _ _ _ _ rfl _ _ rfl rfl _ _ (hr _) ?_)
  go_ret
  exact ⟨rfl, rfl⟩
set_option maxRecDepth 100000 in
set_option maxHeartbeats 2000000 in
theorem replace_some (g m p d cap : Nat) (a2 : Option Addr) (c2 : Nat) (w : World) (W1 W2 W3 : Nat → World) (hn : p + d ≤ 200) (hc : p + d ≤ cap) (h0 : 0 < d) (hm : m ≤ p) (hp : 0 < p)
    (hc1 : ∀ k ty, (Builtin.copy_ #[22, 22] ty #[.slice (some ⟨g, 0, none⟩) (m + d) cap, .slice a2 m c2]).run Tryz.prog (w.drewN k) = .ok (goInt m) (W1 k))
    (hc2 : ∀ k ty c c', (Builtin.copy_ #[22, 22] ty #[.slice (some ⟨g, m * 6, none⟩) d c, .slice (some ⟨g, p * 6, none⟩) d c']).run Tryz.prog (W1 k).drew = .ok (goInt d) (W2 k))
    (hcl1 : p = m → ∀ k ty c A, (Builtin.clear_ #[22] ty #[.slice (some A) (p + d - (m + d)) c]).run Tryz.prog (W2 k) = .ok (.tuple #[]) (W3 k))
    (hcl2 : ∀ k ty c, (Builtin.clear_ #[22] ty #[.slice (some ⟨g, (m + d) * 6, none⟩) (p + d - (m + d)) c]).run Tryz.prog (W2 k) = .ok (.tuple #[]) (W3 k)) :
    Calls Tryz.prog 64 #[.slice (some ⟨g, 0, none⟩) (p + d) cap, .int .i64 0, .int .i64 p, .slice a2 m c2] w fun e w' => e = .returned (.slice (some ⟨g, 0, none⟩) (m + d) cap) ∧ ∃ k, w' = W3 k := by
  have e0 : ((0 : Int) == (p : Int)) = false := by simp; omega
  have e1 : ¬ cap = m := by omega
  have e2 : ¬ cap = p := by omega
  have e3 : p + d - p = d := by omega
  have e4 : ((p : Int) == (p : Int) + (d : Int)) = false := by simp; omega
  have e5 : ¬ (cap : Int) < (m : Int) + (d : Int) := by omega
  have e6 : (m : Int) ≤ (p : Int) := by omega
  have e7 : ((m : Int) + (d : Int)).toNat = m + d := by omega
  have e8 : m + d - m = d := by omega
  have e9 : ¬ cap = 0 := by omega
  have hw : IntKind.i64.wrap (m : Int) = (m : Int) := by rw [IntKind.wrap_i64]; omega
  have ea : (m : Int) ≤ (m : Int) + (d : Int) := by omega
  have eb : (p : Int) ≤ (p : Int) + (d : Int) := by omega
  by_cases q : p = m
  · have hcl := hcl1 q
    clear hcl1 hcl2 q
    go_enter Tryz.func64, Tryz.ntmps64
    go_wp2_with fail
    go_quiet (fail)
    go_wp2_with fail
    go_region_law (refine step_copy_runI rfl _ _ 22 22 rfl (.slice (some ⟨g, m * 6, none⟩) d (cap - m)) (.slice (some ⟨g, p * 6, none⟩) d (cap - p)) (by simp [Act.eval, Act.put]) (by simp [Act.eval, Act.put]) (hc2 nq _ _ _) ?_)
    all_goals go_wp2_with fail
    all_goals go_ret
    all_goals first | exact ⟨rfl, _, rfl⟩ | exact ⟨by first | (rw [‹cap = m + d›]; rfl) | simp [*], _, rfl⟩
  · have hcl := hcl2
    have ec : ¬ cap = m + d := by omega
    clear hcl1 hcl2 q
    go_enter Tryz.func64, Tryz.ntmps64
    go_wp2_with fail
    go_quiet (fail)
    go_wp2_with fail
    go_region_law (refine step_copy_runI rfl _ _ 22 22 rfl (.slice (some ⟨g, m * 6, none⟩) d (cap - m)) (.slice (some ⟨g, p * 6, none⟩) d (cap - p)) (by simp [Act.eval, Act.put]) (by simp [Act.eval, Act.put]) (hc2 nq _ _ _) ?_)
    all_goals go_wp2_with fail
    all_goals go_ret
    all_goals first | exact ⟨rfl, _, rfl⟩ | exact ⟨by first | (rw [‹cap = m + d›]; rfl) | simp [*], _, rfl⟩

theorem drew_sets {g : Nat} : ∀ (vs : List Value) (o : Nat) (w : World), (w.setCells g o vs).drew = w.drew.setCells g o vs
  | [], _, _ => rfl
  | v :: r, o, w => by
    rw [World.setCells, World.setCells, drew_sets r (o + 1)]
    rfl
theorem some_sets {w : World} {g N : Nat} (h : ∀ j, j < N → (w.cell? ⟨g, j, none⟩).isSome = true) (vs : List Value) (o : Nat) (hv : o + vs.length ≤ N) : ∀ j, j < N → ((w.setCells g o vs).cell? ⟨g, j, none⟩).isSome = true := fun j hj =>
  isSome_setCells g vs o w (fun t ht => h _ (by omega)) _ (h j hj)
/-- the first p records are replaced by fewer ones -/
theorem replace_any {w : World} {B B2 p : Nat} {v sv : Value} {l A : List Rc} (ha : ArrR w B v l) (hs : ArrR w B2 sv A) (hA : A.length ≤ p) (hp : p ≤ l.length) (h200 : l.length ≤ 200) (hne : ∀ g, v.ownBlock = some g → sv.ownBlock ≠ some g) :
    Calls Tryz.prog 64 #[v, .int .i64 0, .int .i64 p, sv] w fun e w' => ∃ v', e = .returned v' ∧ ArrR w' B v' (A ++ l.drop p) ∧ Chg (fun k => v.ownBlock = some k) w w' ∧ ∀ g, v'.ownBlock = some g → v.ownBlock = some g ∨ w.heap.size ≤ g := by
  obtain ⟨a2, c2, rfl, _⟩ := hs.shape
  rcases Nat.eq_zero_or_pos p with h0 | h0
  · subst h0
    have hA0 : A = [] := List.length_eq_zero_iff.1 (by omega)
    subst hA0
    obtain ⟨a, cap, rfl, _⟩ := ha.shape
    refine (replace_none a l.length cap a2 c2 w).mono ?_
    rintro e w' ⟨rfl, rfl⟩
    exact ⟨_, rfl, ha, Chg.refl _ _, fun g hg => .inl hg⟩
  · obtain ⟨g, cap, rfl, c1, c2', c3, c4⟩ := ha.there (by omega)
    obtain ⟨cur, hg, hcs⟩ : ∃ cur, w.heap[g]? = some (.cells cur 30 (0, 0)) ∧ cur.size = cap * 6 := by
      rcases ha.2 with ⟨q, _⟩ | ⟨g', cap', cur, q, h2, h3, h4, h5, h6, h7⟩
      · cases q
      · simp only [Value.slice.injEq, Option.some.injEq, Addr.mk.injEq, and_true] at q
        obtain ⟨rfl, _, rfl⟩ := q
        exact ⟨cur, h3, h6⟩
    have hsp : ∀ j, j < cap * 6 → (w.cell? ⟨g, j, none⟩).isSome = true := fun j hj => by
      rw [cell_of_row w g j _ _ _ hg, Array.getElem?_eq_getElem (by omega)]
      rfl
    have hfz : ∀ j, w.frozen? ⟨g, j, none⟩ = false := fun j => frozen_of_row w g j _ _ hg
    obtain ⟨i0, hi0, hz0, hz1, hz2⟩ := info_parts infoR
    have hla := celR_length A
    have hlz := zerosR_length (p - A.length)
    have hld : ((celR l).drop (p * 6)).length = (l.length - p) * 6 := by rw [List.length_drop, celR_length]; omega
    have hap : ∀ X : World, Src Tryz.prog 6 22 (.slice a2 A.length c2) A.length (celR A) X → (∀ j, j < cap * 6 → (X.cell? ⟨g, j, none⟩).isSome = true) → (∀ j, X.frozen? ⟨g, j, none⟩ = false) → ∀ ty, (Builtin.append_ #[22, 22] ty #[.slice (some ⟨g, 0, none⟩) 0 cap, .slice a2 A.length c2]).run Tryz.prog X = .ok (.slice (some ⟨g, 0, none⟩) A.length cap) (X.setCells g 0 (celR A)) := fun X hX h1 h2 ty => by
      have := run_append_room_src (P := Tryz.prog) X 22 22 ty 30 i0 Tryz.underlying22 hi0 g 0 0 cap (.slice a2 A.length c2) A.length (celR A) (by rw [hz1]; exact hX) (by omega) (fun j hj => by rw [hla] at hj; exact h1 _ (by omega)) (fun j _ => h2 _)
      simpa using this
    rcases Nat.eq_or_lt_of_le hp with hpl | hpl
    · have hd0 : (celR l).drop (p * 6) = [] := List.length_eq_zero_iff.1 (by rw [hld]; omega)
      rcases Nat.eq_or_lt_of_le hA with hAl | hAl
      · have hz : zerosR (p - A.length) = [] := List.length_eq_zero_iff.1 (by rw [hlz]; omega)
        have e3 := rep_row (A := A) (p := p) ha hA hp (w3 := w.setCells g 0 (celR A)) (by rw [hd0, hz]; rfl)
        have hr := hap w hs.src hsp hfz
        rw [show A.length = l.length by omega] at hr ⊢
        rw [show p = l.length by omega] at e3 ⊢
        refine (replace_same g l.length cap a2 c2 w _ h200 c1 (by omega) hr).mono ?_
        rintro e w' ⟨rfl, rfl⟩
        refine ⟨_, rfl, ?_, e3.2.mono (fun k _ z => by rw [z]; rfl), fun g' hg' => .inl hg'⟩
        have := e3.1
        rw [show (A ++ l.drop l.length).length = l.length by simp; omega] at this
        exact this
      · obtain ⟨d, hd⟩ : ∃ d, l.length = A.length + d := ⟨l.length - A.length, by omega⟩
        have hzd : p - A.length = d := by omega
        have e3 := rep_row (A := A) (p := p) ha hA hp (w3 := (w.setCells g 0 (celR A)).setCells g (A.length * 6) (zerosR d)) (by rw [hd0, hzd, show (A.length + (l.length - p)) * 6 = A.length * 6 by omega]; rfl)
        have hr := hap w hs.src hsp hfz
        have hcl : ∀ ty c, (Builtin.clear_ #[22] ty #[.slice (some ⟨g, A.length * 6, none⟩) d c]).run Tryz.prog (w.setCells g 0 (celR A)) = .ok (.tuple #[]) ((w.setCells g 0 (celR A)).setCells g (A.length * 6) (zerosR d)) := fun ty c =>
          run_clear_rec _ ty g (A.length * 6) d c (by omega) (fun j hj => some_sets hsp _ _ (by rw [hla]; omega) _ (by omega)) (fun j _ => by rw [World.frozen?_setCells]; exact hfz _)
        have hpe : (p : Int) = (A.length : Int) + (d : Int) := by omega
        rw [hd, hpe]
        refine (replace_all g A.length d cap a2 c2 w _ _ (by omega) (by omega) (by omega) hr hcl).mono ?_
        rintro e w' ⟨rfl, rfl⟩
        refine ⟨_, rfl, ?_, e3.2.mono (fun k _ z => by rw [z]; rfl), fun g' hg' => .inl hg'⟩
        have := e3.1
        rw [show (A ++ l.drop p).length = A.length by simp; omega] at this
        exact this
    · obtain ⟨d, hd⟩ : ∃ d, l.length = p + d := ⟨l.length - p, by omega⟩
      have hle : ((celR l).drop (p * 6)).length = d * 6 := by rw [hld]; omega
      have hbk : ∀ k, Below w.heap.size w (w.drewN k) := fun k => below_drewN (Below.refl _ _) k
      have e3 : ∀ k, ArrR _ B (.slice (some ⟨g, 0, none⟩) (A ++ l.drop p).length cap) (A ++ l.drop p) ∧ Chg (fun k => k = g) (w.drewN k).drew _ := fun k => rep_row (A := A) (p := p) ((ha.below (hbk k)).below (Below.refl _ _).drew) hA hp rfl
      have hsp1 : ∀ k, ∀ j, j < cap * 6 → ((((w.drewN k).setCells g 0 (celR A)).drew).cell? ⟨g, j, none⟩).isSome = true := fun k j hj => by
        rw [drew_sets]
        exact some_sets (w := (w.drewN k).drew) (fun i hi => hsp i hi) _ _ (by rw [hla]; omega) j hj
      have hfz1 : ∀ k j, (((w.drewN k).setCells g 0 (celR A)).drew).frozen? ⟨g, j, none⟩ = false := fun k j => by
        rw [drew_sets, World.frozen?_setCells]; exact hfz j
      have hsrc2 : ∀ k c, Src Tryz.prog 6 22 (.slice (some ⟨g, p * 6, none⟩) d c) d ((celR l).drop (p * 6)) (((w.drewN k).setCells g 0 (celR A)).drew) := fun k c => by
        refine Src.ofSlice _ Tryz.underlying22 ⟨g, p * 6, none⟩ d c _ hle (fun j u hu => ?_) (fun u hu => celR_one l u (List.mem_of_mem_drop hu))
        rw [drew_sets, Addr.add_lit, World.cell?_setCells_out _ _ _ _ _ (fun _ _ => by right; rw [hla]; simp only; omega)]
        rw [List.getElem?_drop] at hu
        exact ha.cell (p * 6 + j) u hu
      have hc1 : ∀ k ty, (Builtin.copy_ #[22, 22] ty #[.slice (some ⟨g, 0, none⟩) (A.length + d) cap, .slice a2 A.length c2]).run Tryz.prog (w.drewN k) = .ok (goInt A.length) ((w.drewN k).setCells g 0 (celR A)) := fun k ty =>
        run_copy_src (w.drewN k) ty g 0 (A.length + d) cap _ A.length (celR A) (hs.below (hbk k)).src (by omega) (fun j hj => by rw [hla] at hj; exact hsp _ (by omega)) (fun j _ => hfz _)
      have hc2 : ∀ k ty c c', (Builtin.copy_ #[22, 22] ty #[.slice (some ⟨g, A.length * 6, none⟩) d c, .slice (some ⟨g, p * 6, none⟩) d c']).run Tryz.prog (((w.drewN k).setCells g 0 (celR A)).drew) = .ok (goInt d) ((((w.drewN k).setCells g 0 (celR A)).drew).setCells g (A.length * 6) ((celR l).drop (p * 6))) := fun k ty c c' =>
        run_copy_src _ ty g (A.length * 6) d c _ d _ (hsrc2 k c') (Nat.le_refl _) (fun j hj => by rw [hle] at hj; exact hsp1 k _ (by omega)) (fun j _ => hfz1 k _)
      have hcount : p + d - (A.length + d) = p - A.length := by omega
      have hcl2 : ∀ k ty c, (Builtin.clear_ #[22] ty #[.slice (some ⟨g, (A.length + d) * 6, none⟩) (p + d - (A.length + d)) c]).run Tryz.prog ((((w.drewN k).setCells g 0 (celR A)).drew).setCells g (A.length * 6) ((celR l).drop (p * 6))) = .ok (.tuple #[]) (((((w.drewN k).setCells g 0 (celR A)).drew).setCells g (A.length * 6) ((celR l).drop (p * 6))).setCells g ((A.length + d) * 6) (zerosR (p - A.length))) := fun k ty c => by
        rw [hcount]
        rcases Nat.eq_zero_or_pos (p - A.length) with q | q
        · rw [q, run_clear_nil, show zerosR 0 = [] from List.length_eq_zero_iff.1 (by rw [zerosR_length])]
          rfl
        · exact run_clear_rec _ ty g _ (p - A.length) c q (fun j hj => some_sets (hsp1 k) _ _ (by rw [hle]; omega) _ (by omega)) (fun j _ => by rw [World.frozen?_setCells]; exact hfz1 k _)
      have hcl1 : p = A.length → ∀ k ty c D, (Builtin.clear_ #[22] ty #[.slice (some D) (p + d - (A.length + d)) c]).run Tryz.prog ((((w.drewN k).setCells g 0 (celR A)).drew).setCells g (A.length * 6) ((celR l).drop (p * 6))) = .ok (.tuple #[]) (((((w.drewN k).setCells g 0 (celR A)).drew).setCells g (A.length * 6) ((celR l).drop (p * 6))).setCells g ((A.length + d) * 6) (zerosR (p - A.length))) := fun q k ty c D => by
        rw [show p + d - (A.length + d) = 0 by omega, run_clear_nil, show p - A.length = 0 by omega, show zerosR 0 = [] from List.length_eq_zero_iff.1 (by rw [zerosR_length])]
        rfl
      rw [hd]
      refine (replace_some g A.length p d cap a2 c2 w _ _ _ (by omega) (by omega) (by omega) hA h0 hc1 hc2 hcl1 hcl2).mono ?_
      rintro e w' ⟨rfl, k, rfl⟩
      have e4 := e3 k
      rw [← drew_sets, show (A.length + (l.length - p)) * 6 = (A.length + d) * 6 by omega] at e4
      refine ⟨_, rfl, ?_, ?_, fun g' hg' => .inl hg'⟩
      · have := e4.1
        rw [show (A ++ l.drop p).length = A.length + d by simp; omega] at this
        exact this
      · have c0 : Chg (fun k => k = g) w (w.drewN k).drew := Chg.of_below ((hbk k).trans (Below.refl _ _).drew)
        exact (c0.trans e4.2).mono (fun k _ z => by rw [z]; rfl)
end Go.Proofs.YtphhebdmfdjfeagGreatDoor.Dk
