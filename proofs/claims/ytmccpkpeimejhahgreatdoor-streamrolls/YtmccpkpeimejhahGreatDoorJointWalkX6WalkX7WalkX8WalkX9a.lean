/-
  The program's store: slices.Replace of the first records by fewer ones.
  The program's store: purge.
  The program's store: Apply.
  The program's store: New, All.
-/
import Derived.Test.YtmccpkpeimejhahGreatDoorJointWalkX3RowYWalkX5WalkX6a
namespace Go.Proofs.YtmccpkpeimejhahGreatDoor.Dk
open Go.RowKit

set_option maxRecDepth 100000 in
set_option maxHeartbeats 400000 in
theorem insert_none (a : Option Addr) (n cap : Nat) (a2 : Option Addr) (c2 : Nat) (w : World) :
    Calls Tryz.prog 131 #[.slice a n cap, .int .i64 0, .slice a2 0 c2] w fun e w' => e = .returned (.slice a n cap) ∧ w' = w := by
  go_enter Tryz.func131, Tryz.ntmps131
  go_wp2_with fail
  go_ret
  exact ⟨rfl, rfl⟩

set_option maxRecDepth 100000 in
set_option maxHeartbeats 1000000 in
theorem replace_none (a : Option Addr) (n cap : Nat) (a2 : Option Addr) (c2 : Nat) (w : World) :
    Calls Tryz.prog 101 #[.slice a n cap, .int .i64 0, .int .i64 0, .slice a2 0 c2] w fun e w' => e = .returned (.slice a n cap) ∧ w' = w := by
  go_enter Tryz.func101, Tryz.ntmps101
  go_wp2_with fail
  refine (insert_none a n cap a2 c2 _).mono ?_
  rintro e w1 ⟨rfl, rfl⟩
  go_wp2_with fail
  go_ret
  exact ⟨rfl, rfl⟩

set_option maxRecDepth 100000 in
set_option maxHeartbeats 2000000 in
theorem replace_same (g n cap : Nat) (a2 : Option Addr) (c2 : Nat) (w W1 : World) (hn : n ≤ 200) (hc : n ≤ cap) (h0 : 0 < n)
    (hr : ∀ ty, (Builtin.append_ #[37, 37] ty #[.slice (some ⟨g, 0, none⟩) 0 cap, .slice a2 n c2]).run Tryz.prog w = .ok (.slice (some ⟨g, 0, none⟩) n cap) W1) :
    Calls Tryz.prog 101 #[.slice (some ⟨g, 0, none⟩) n cap, .int .i64 0, .int .i64 n, .slice a2 n c2] w fun e w' => e = .returned (.slice (some ⟨g, 0, none⟩) n cap) ∧ w' = W1 := by
  have e0 : ((0 : Int) == (n : Int)) = false := by simp; omega
  go_enter Tryz.func101, Tryz.ntmps101
  go_wp2_with (at_builtin; refine Lib.wpList_append_run _ rfl _ _ _ _ rfl _ _ rfl rfl _ _ (hr _) ?_)
  go_ret
  exact ⟨rfl, rfl⟩
set_option maxRecDepth 100000 in
set_option maxHeartbeats 2000000 in
theorem replace_all (g m d cap : Nat) (a2 : Option Addr) (c2 : Nat) (w W1 W2 : World) (hn : m + d ≤ 200) (hc : m + d ≤ cap) (h0 : 0 < d)
    (hr : ∀ ty, (Builtin.append_ #[37, 37] ty #[.slice (some ⟨g, 0, none⟩) 0 cap, .slice a2 m c2]).run Tryz.prog w = .ok (.slice (some ⟨g, 0, none⟩) m cap) W1)
    (hcl : ∀ ty c, (Builtin.clear_ #[37] ty #[.slice (some ⟨g, m * 6, none⟩) d c]).run Tryz.prog W1 = .ok (.tuple #[]) W2) :
    Calls Tryz.prog 101 #[.slice (some ⟨g, 0, none⟩) (m + d) cap, .int .i64 0, .int .i64 (m + d), .slice a2 m c2] w fun e w' => e = .returned (.slice (some ⟨g, 0, none⟩) m cap) ∧ w' = W2 := by
  have e0 : ((0 : Int) == (m : Int) + (d : Int)) = false := by simp; omega
  have e1 : ¬ cap = m := by omega
  have e2 : m + d - m = d := by omega
  have e3 : (m : Int) < (m : Int) + (d : Int) := by omega
  have e4 : (0 : Int) ≤ (m : Int) + (d : Int) := by omega
  have e5 : m ≤ cap := by omega
  have e6 : ((m : Int) + (d : Int)).toNat = m + d := by omega
  go_enter Tryz.func101, Tryz.ntmps101
  go_wp2_with (at_builtin; refine Lib.wpList_append_run _ rfl _ _ _ _ rfl _ _ rfl rfl _ _ (hr _) ?_)
  go_ret
  exact ⟨rfl, rfl⟩
set_option maxRecDepth 100000 in
set_option maxHeartbeats 2000000 in
theorem replace_some (g m p d cap : Nat) (a2 : Option Addr) (c2 : Nat) (w : World) (W1 W2 W3 : Nat → World) (hn : p + d ≤ 200) (hc : p + d ≤ cap) (h0 : 0 < d) (hm : m ≤ p) (hp : 0 < p)
    (hc1 : ∀ k ty, (Builtin.copy_ #[37, 37] ty #[.slice (some ⟨g, 0, none⟩) (m + d) cap, .slice a2 m c2]).run Tryz.prog (w.drewN k) = .ok (goInt m) (W1 k))
    (hc2 : ∀ k ty c c', (Builtin.copy_ #[37, 37] ty #[.slice (some ⟨g, m * 6, none⟩) d c, .slice (some ⟨g, p * 6, none⟩) d c']).run Tryz.prog (W1 k).drew = .ok (goInt d) (W2 k))
    (hcl1 : p = m → ∀ k ty c A, (Builtin.clear_ #[37] ty #[.slice (some A) (p + d - (m + d)) c]).run Tryz.prog (W2 k) = .ok (.tuple #[]) (W3 k))
    (hcl2 : ∀ k ty c, (Builtin.clear_ #[37] ty #[.slice (some ⟨g, (m + d) * 6, none⟩) (p + d - (m + d)) c]).run Tryz.prog (W2 k) = .ok (.tuple #[]) (W3 k)) :
    Calls Tryz.prog 101 #[.slice (some ⟨g, 0, none⟩) (p + d) cap, .int .i64 0, .int .i64 p, .slice a2 m c2] w fun e w' => e = .returned (.slice (some ⟨g, 0, none⟩) (m + d) cap) ∧ ∃ k, w' = W3 k := by
  have e0 : ((0 : Int) == (p : Int)) = false := by simp; omega
  have e1 : ¬ cap = m := by omega
  have e2 : ¬ cap = p := by omega
  have e3 : p + d - p = d := by omega
  have e4 : ((p : Int) == (p : Int) + (d : Int)) = false := by simp; omega
  have e5 : ¬ (cap : Int) < (m : Int) + (d : Int) := by omega
  have e6 : (m : Int) ≤ (p : Int) := by omega
  have e7 : ((m : Int) + (d : Int)).toNat = m + d := by omega
  have e8 : m + d - m = d := by omega
  have e9 : ¬ cap = 0 := by omega
  have hw : IntKind.i64.wrap (m : Int) = (m : Int) := by rw [IntKind.wrap_i64]; omega
  have ea : (m : Int) ≤ (m : Int) + (d : Int) := by omega
  have eb : (p : Int) ≤ (p : Int) + (d : Int) := by omega
  by_cases q : p = m
  · have hcl := hcl1 q
    clear hcl1 hcl2 q
    go_enter Tryz.func101, Tryz.ntmps101
    go_wp2_with fail
    go_quiet (fail)
    go_wp2_with fail
    go_region_law (refine step_copy_runI rfl _ _ 37 37 rfl (.slice (some ⟨g, m * 6, none⟩) d (cap - m)) (.slice (some ⟨g, p * 6, none⟩) d (cap - p)) (by simp [Act.eval, Act.put]) (by simp [Act.eval, Act.put]) (hc2 nq _ _ _) ?_)
    all_goals go_wp2_with fail
    all_goals go_ret
    all_goals first | exact ⟨rfl, _, rfl⟩ | exact ⟨by first | (rw [‹cap = m + d›]; rfl) | simp [*], _, rfl⟩
  · have hcl := hcl2
    have ec : ¬ cap = m + d := by omega
    clear hcl1 hcl2 q
    go_enter Tryz.func101, Tryz.ntmps101
    go_wp2_with fail
    go_quiet (fail)
    go_wp2_with fail
    go_region_law (refine step_copy_runI rfl _ _ 37 37 rfl (.slice (some ⟨g, m * 6, none⟩) d (cap - m)) (.slice (some ⟨g, p * 6, none⟩) d (cap - p)) (by simp [Act.eval, Act.put]) (by simp [Act.eval, Act.put]) (hc2 nq _ _ _) ?_)
    all_goals go_wp2_with fail
    all_goals go_ret
    all_goals first | exact ⟨rfl, _, rfl⟩ | exact ⟨by first | (rw [‹cap = m + d›]; rfl) | simp [*], _, rfl⟩

theorem drew_sets {g : Nat} : ∀ (vs : List Value) (o : Nat) (w : World), (w.setCells g o vs).drew = w.drew.setCells g o vs
  | [], _, _ => rfl
  | v :: r, o, w => by
    rw [World.setCells, World.setCells, drew_sets r (o + 1)]
    rfl
theorem some_sets {w : World} {g N : Nat} (h : ∀ j, j < N → (w.cell? ⟨g, j, none⟩).isSome = true) (vs : List Value) (o : Nat) (hv : o + vs.length ≤ N) : ∀ j, j < N → ((w.setCells g o vs).cell? ⟨g, j, none⟩).isSome = true := fun j hj =>
  isSome_setCells g vs o w (fun t ht => h _ (by omega)) _ (h j hj)
/-- the first p records are replaced by fewer ones -/
theorem replace_any {w : World} {B B2 p : Nat} {v sv : Value} {l A : List Rc} (ha : ArrR w B v l) (hs : ArrR w B2 sv A) (hA : A.length ≤ p) (hp : p ≤ l.length) (h200 : l.length ≤ 200) (hne : ∀ g, v.ownBlock = some g → sv.ownBlock ≠ some g) :
    Calls Tryz.prog 101 #[v, .int .i64 0, .int .i64 p, sv] w fun e w' => ∃ v', e = .returned v' ∧ ArrR w' B v' (A ++ l.drop p) ∧ Chg (fun k => v.ownBlock = some k) w w' ∧ ∀ g, v'.ownBlock = some g → v.ownBlock = some g ∨ w.heap.size ≤ g := by
  obtain ⟨a2, c2, rfl, _⟩ := hs.shape
  rcases Nat.eq_zero_or_pos p with h0 | h0
  · subst h0
    have hA0 : A = [] := List.length_eq_zero_iff.1 (by omega)
    subst hA0
    obtain ⟨a, cap, rfl, _⟩ := ha.shape
    refine (replace_none a l.length cap a2 c2 w).mono ?_
    rintro e w' ⟨rfl, rfl⟩
    exact ⟨_, rfl, ha, Chg.refl _ _, fun g hg => .inl hg⟩
  · obtain ⟨g, cap, rfl, c1, c2', c3, c4⟩ := ha.there (by omega)
    obtain ⟨cur, hg, hcs⟩ : ∃ cur, w.heap[g]? = some (.cells cur 42 (0, 0)) ∧ cur.size = cap * 6 := by
      rcases ha.2 with ⟨q, _⟩ | ⟨g', cap', cur, q, h2, h3, h4, h5, h6, h7⟩
      · cases q
      · simp only [Value.slice.injEq, Option.some.injEq, Addr.mk.injEq, and_true] at q
        obtain ⟨rfl, _, rfl⟩ := q
        exact ⟨cur, h3, h6⟩
    have hsp : ∀ j, j < cap * 6 → (w.cell? ⟨g, j, none⟩).isSome = true := fun j hj => by
      rw [cell_of_row w g j _ _ _ hg, Array.getElem?_eq_getElem (by omega)]
      rfl
    have hfz : ∀ j, w.frozen? ⟨g, j, none⟩ = false := fun j => frozen_of_row w g j _ _ hg
    obtain ⟨i0, hi0, hz0, hz1, hz2⟩ := info_parts infoR
    have hla := celR_length A
    have hlz := zerosR_length (p - A.length)
    have hld : ((celR l).drop (p * 6)).length = (l.length - p) * 6 := by rw [List.length_drop, celR_length]; omega
    have hap : ∀ X : World, Src Tryz.prog 6 37 (.slice a2 A.length c2) A.length (celR A) X → (∀ j, j < cap * 6 → (X.cell? ⟨g, j, none⟩).isSome = true) → (∀ j, X.frozen? ⟨g, j, none⟩ = false) → ∀ ty, (Builtin.append_ #[37, 37] ty #[.slice (some ⟨g, 0, none⟩) 0 cap, .slice a2 A.length c2]).run Tryz.prog X = .ok (.slice (some ⟨g, 0, none⟩) A.length cap) (X.setCells g 0 (celR A)) := fun X hX h1 h2 ty => by
      have := run_append_room_src (P := Tryz.prog) X 37 37 ty 42 i0 Tryz.underlying37 hi0 g 0 0 cap (.slice a2 A.length c2) A.length (celR A) (by rw [hz1]; exact hX) (by omega) (fun j hj => by rw [hla] at hj; exact h1 _ (by omega)) (fun j _ => h2 _)
      simpa using this
    rcases Nat.eq_or_lt_of_le hp with hpl | hpl
    · have hd0 : (celR l).drop (p * 6) = [] := List.length_eq_zero_iff.1 (by rw [hld]; omega)
      rcases Nat.eq_or_lt_of_le hA with hAl | hAl
      · have hz : zerosR (p - A.length) = [] := List.length_eq_zero_iff.1 (by rw [hlz]; omega)
        have e3 := rep_row (A := A) (p := p) ha hA hp (w3 := w.setCells g 0 (celR A)) (by rw [hd0, hz]; rfl)
        have hr := hap w hs.src hsp hfz
        rw [show A.length = l.length by omega] at hr ⊢
        rw [show p = l.length by omega] at e3 ⊢
        refine (replace_same g l.length cap a2 c2 w _ h200 c1 (by omega) hr).mono ?_
        rintro e w' ⟨rfl, rfl⟩
        refine ⟨_, rfl, ?_, e3.2.mono (fun k _ z => by rw [z]; rfl), fun g' hg' => .inl hg'⟩
        have := e3.1
        rw [show (A ++ l.drop l.length).length = l.length by simp; omega] at this
        exact this
      · obtain ⟨d, hd⟩ : ∃ d, l.length = A.length + d := ⟨l.length - A.length, by omega⟩
        have hzd : p - A.length = d := by omega
        have e3 := rep_row (A := A) (p := p) ha hA hp (w3 := (w.setCells g 0 (celR A)).setCells g (A.length * 6) (zerosR d)) (by rw [hd0, hzd, show (A.length + (l.length - p)) * 6 = A.length * 6 by omega]; rfl)
        have hr := hap w hs.src hsp hfz
        have hcl : ∀ ty c, (Builtin.clear_ #[37] ty #[.slice (some ⟨g, A.length * 6, none⟩) d c]).run Tryz.prog (w.setCells g 0 (celR A)) = .ok (.tuple #[]) ((w.setCells g 0 (celR A)).setCells g (A.length * 6) (zerosR d)) := fun ty c =>
          run_clear_rec _ ty g (A.length * 6) d c (by omega) (fun j hj => some_sets hsp _ _ (by rw [hla]; omega) _ (by omega)) (fun j _ => by rw [World.frozen?_setCells]; exact hfz _)
        have hpe : (p : Int) = (A.length : Int) + (d : Int) := by omega
        rw [hd, hpe]
        refine (replace_all g A.length d cap a2 c2 w _ _ (by omega) (by omega) (by omega) hr hcl).mono ?_
        rintro e w' ⟨rfl, rfl⟩
        refine ⟨_, rfl, ?_, e3.2.mono (fun k _ z => by rw [z]; rfl), fun g' hg' => .inl hg'⟩
        have := e3.1
        rw [show (A ++ l.drop p).length = A.length by simp; omega] at this
        exact this
    · obtain ⟨d, hd⟩ : ∃ d, l.length = p + d := ⟨l.length - p, by omega⟩
      have hle : ((celR l).drop (p * 6)).length = d * 6 := by rw [hld]; omega
      have hbk : ∀ k, Below w.heap.size w (w.drewN k) := fun k => below_drewN (Below.refl _ _) k
      have e3 : ∀ k, ArrR _ B (.slice (some ⟨g, 0, none⟩) (A ++ l.drop p).length cap) (A ++ l.drop p) ∧ Chg (fun k => k = g) (w.drewN k).drew _ := fun k => rep_row (A := A) (p := p) ((ha.below (hbk k)).below (Below.refl _ _).drew) hA hp rfl
      have hsp1 : ∀ k, ∀ j, j < cap * 6 → ((((w.drewN k).setCells g 0 (celR A)).drew).cell? ⟨g, j, none⟩).isSome = true := fun k j hj => by
        rw [drew_sets]
        exact some_sets (w := (w.drewN k).drew) (fun i hi => hsp i hi) _ _ (by rw [hla]; omega) j hj
      have hfz1 : ∀ k j, (((w.drewN k).setCells g 0 (celR A)).drew).frozen? ⟨g, j, none⟩ = false := fun k j => by
        rw [drew_sets, World.frozen?_setCells]; exact hfz j
      have hsrc2 : ∀ k c, Src Tryz.prog 6 37 (.slice (some ⟨g, p * 6, none⟩) d c) d ((celR l).drop (p * 6)) (((w.drewN k).setCells g 0 (celR A)).drew) := fun k c => by
        refine Src.ofSlice _ Tryz.underlying37 ⟨g, p * 6, none⟩ d c _ hle (fun j u hu => ?_) (fun u hu => celR_one l u (List.mem_of_mem_drop hu))
        rw [drew_sets, Addr.add_lit, World.cell?_setCells_out _ _ _ _ _ (fun _ _ => by right; rw [hla]; simp only; omega)]
        rw [List.getElem?_drop] at hu
        exact ha.cell (p * 6 + j) u hu
      have hc1 : ∀ k ty, (Builtin.copy_ #[37, 37] ty #[.slice (some ⟨g, 0, none⟩) (A.length + d) cap, .slice a2 A.length c2]).run Tryz.prog (w.drewN k) = .ok (goInt A.length) ((w.drewN k).setCells g 0 (celR A)) := fun k ty =>
        run_copy_src (w.drewN k) ty g 0 (A.length + d) cap _ A.length (celR A) (hs.below (hbk k)).src (by omega) (fun j hj => by rw [hla] at hj; exact hsp _ (by omega)) (fun j _ => hfz _)
      have hc2 : ∀ k ty c c', (Builtin.copy_ #[37, 37] ty #[.slice (some ⟨g, A.length * 6, none⟩) d c, .slice (some ⟨g, p * 6, none⟩) d c']).run Tryz.prog (((w.drewN k).setCells g 0 (celR A)).drew) = .ok (goInt d) ((((w.drewN k).setCells g 0 (celR A)).drew).setCells g (A.length * 6) ((celR l).drop (p * 6))) := fun k ty c c' =>
        run_copy_src _ ty g (A.length * 6) d c _ d _ (hsrc2 k c') (Nat.le_refl _) (fun j hj => by rw [hle] at hj; exact hsp1 k _ (by omega)) (fun j _ => hfz1 k _)
      have hcount : p + d - (A.length + d) = p - A.length := by omega
      have hcl2 : ∀ k ty c, (Builtin.clear_ #[37] ty #[.slice (some ⟨g, (A.length + d) * 6, none⟩) (p + d - (A.length + d)) c]).run Tryz.prog ((((w.drewN k).setCells g 0 (celR A)).drew).setCells g (A.length * 6) ((celR l).drop (p * 6))) = .ok (.tuple #[]) (((((w.drewN k).setCells g 0 (celR A)).drew).setCells g (A.length * 6) ((celR l).drop (p * 6))).setCells g ((A.length + d) * 6) (zerosR (p - A.length))) := fun k ty c => by
        rw [hcount]
        rcases Nat.eq_zero_or_pos (p - A.length) with q | q
        · rw [q, run_clear_nil, show zerosR 0 = [] from List.length_eq_zero_iff.1 (by rw [zerosR_length])]
          rfl
        · exact run_clear_rec _ ty g _ (p - A.length) c q (fun j hj => some_sets (hsp1 k) _ _ (by rw [hle]; omega) _ (by omega)) (fun j _ => by rw [World.frozen?_setCells]; exact hfz1 k _)
      have hcl1 : p = A.length → ∀ k ty c D, (Builtin.clear_ #[37] ty #[.slice (some D) (p + d - (A.length + d)) c]).run Tryz.prog ((((w.drewN k).setCells g 0 (celR A)).drew).setCells g (A.length * 6) ((celR l).drop (p * 6))) = .ok (.tuple #[]) (((((w.drewN k).setCells g 0 (celR A)).drew).setCells g (A.length * 6) ((celR l).drop (p * 6))).setCells g ((A.length + d) * 6) (zerosR (p - A.length))) := fun q k ty c D => by
        rw [show p + d - (A.length + d) = 0 by omega, run_clear_nil, show p - A.length = 0 by omega, show zerosR 0 = [] from List.length_eq_zero_iff.1 (by rw [zerosR_length])]
        rfl
      rw [hd]
      refine (replace_some g A.length p d cap a2 c2 w _ _ _ (by omega) (by omega) (by omega) hA h0 hc1 hc2 hcl1 hcl2).mono ?_
      rintro e w' ⟨rfl, k, rfl⟩
      have e4 := e3 k
      rw [← drew_sets, show (A.length + (l.length - p)) * 6 = (A.length + d) * 6 by omega] at e4
      refine ⟨_, rfl, ?_, ?_, fun g' hg' => .inl hg'⟩
      · have := e4.1
        rw [show (A ++ l.drop p).length = A.length + d by simp; omega] at this
        exact this
      · have c0 : Chg (fun k => k = g) w (w.drewN k).drew := Chg.of_below ((hbk k).trans (Below.refl _ _).drew)
        exact (c0.trans e4.2).mono (fun k _ z => by rw [z]; rfl)
end Go.Proofs.YtmccpkpeimejhahGreatDoor.Dk

namespace Go.Proofs.YtmccpkpeimejhahGreatDoor.Dk
open Go.RowKit

theorem tk_match {f s : ByteArray} (hf : errS true f = 0) (hs : errS false s = 0) : matchB f s = tkB f s := by
  unfold matchB tkB
  rw [hf, hs]
  simp
/-- a purge on its way: k messages were looked at -/
structure Purg (w wr : World) (B q : Nat) (v u : Value) (l : List Rc) (last : Int) (f : ByteArray) (k : Nat) (sv : Value) : Prop where
  ex : ∃ u' es', Sho wr B q v u' l es' last ∧ Cnt (leftL f (l.take k) ++ l.drop k) es' ∧ Chg (feet q v u) w wr ∧ (∀ g, feet q v u' g → feet q v u g ∨ w.heap.size ≤ g) ∧ ArrR wr w.heap.size sv (leftL f (l.take k)) ∧ ∀ g, sv.ownBlock = some g → u'.ownBlock ≠ some g
  hq : q < w.heap.size
  hv : ∀ g, v.ownBlock = some g → g < w.heap.size

theorem cntN_le (l : List Rc) (s : ByteArray) : cntN l s ≤ l.length := List.length_filter_le _ _
section
variable {w wr w' : World} {B q : Nat} {v u sv : Value} {l : List Rc} {last : Int} {f : ByteArray} {k : Nat}
theorem Purg.below (h : Purg w wr B q v u l last f k sv) (hb : Below wr.heap.size wr w') : Purg w w' B q v u l last f k sv := by
  obtain ⟨u', es', s, cn, ch, o, ar, ap⟩ := h.ex
  exact ⟨⟨u', es', s.below hb, cn, ch.trans (Chg.of_below hb), o, ar.below hb, ap⟩, h.hq, h.hv⟩
theorem Purg.room (h : Purg w wr B q v u l last f k sv) : w.heap.size ≤ wr.heap.size := by
  obtain ⟨u', es', s, cn, ch, o, ar, ap⟩ := h.ex
  exact ch.size
theorem Purg.show (h : Purg w wr B q v u l last f k sv) (hk : k < l.length) {a : Option Addr} {n c : Nat} (hv : v = .slice a n c) : ∃ b o, a = some ⟨b, o, none⟩ ∧ Six wr b (o + k * 6) (rc l k) := by
  obtain ⟨u', es', s, cn, ch, o, ar, ap⟩ := h.ex
  obtain ⟨a', c', e, _, _, hs⟩ := s.msgs.shape
  rw [hv] at e
  obtain ⟨rfl, _, _⟩ := Value.slice.inj e
  exact hs k hk
theorem Purg.shape (h : Purg w wr B q v u l last f k sv) : ∃ a n c, sv = .slice a n c := by
  obtain ⟨u', es', s, cn, ch, o, ar, ap⟩ := h.ex
  obtain ⟨a', c', e, _⟩ := ar.shape
  exact ⟨_, _, _, e⟩
theorem Purg.count (h : Purg w wr B q v u l last f k sv) (hk : k < l.length) (ht : tkB f (rc l k).s = true) (hB : B ≤ w.heap.size) (h200 : l.length ≤ 200) (hm : ∀ x ∈ l, errS false x.s = 0 ∧ x.s.size ≤ 135) :
    Calls Tryz.prog 98 #[.pointer (some ⟨q, 0, none⟩), .string (rc l k).s] wr fun e w' => e = .returned (.tuple #[]) ∧ Purg w w' B q v u l last f (k + 1) sv := by
  obtain ⟨u', es', s, cn, ch, o, ar, ap⟩ := h.ex
  obtain ⟨m1, m2⟩ := hm _ (rc_mem hk)
  have hsp : leftL f (l.take k) ++ l.drop k = leftL f (l.take k) ++ rc l k :: l.drop (k + 1) := by rw [rc_get hk, ← List.drop_eq_getElem_cons hk]
  have hnl : (leftL f (l.take k) ++ l.drop k).length ≤ 200 := by
    have := left_len f (l.take k)
    rw [List.length_take] at this
    rw [List.length_append, List.length_drop]; omega
  have hgn : getN es' (rc l k).s ≤ 200 := by
    rw [cn.get m1]
    have := cntN_le (leftL f (l.take k) ++ l.drop k) (rc l k).s
    omega
  refine (off_any (rc l k).s s cn.good (by omega) (Nat.le_trans hB ch.size) hgn).mono ?_
  rintro e w' ⟨he, u2, s2, c2, o2⟩
  obtain ⟨F1, F2⟩ := Counts.feet (v := v) c2 o2
  refine ⟨he, ⟨⟨u2, _, s2, ?_, ?_, ?_, ?_, ?_⟩, h.hq, h.hv⟩⟩
  · rw [hsp] at cn
    have := Cnt.off cn m1 (by omega)
    rw [left_take hk, ht, if_pos rfl, List.append_nil]
    exact this
  · refine ⟨F1.os.trans ch.os, F1.tape.trans ch.tape, F1.output.trans ch.output, Nat.le_trans ch.size F1.size, fun i hi hn => ?_⟩
    rw [F1.block i (by have := ch.size; omega) (fun z => ?_)]
    · exact ch.block i hi hn
    · rcases o i z with y | y
      · exact hn y
      · omega
  · intro g hg
    rcases F2 g hg with y | y
    · exact o g y
    · right; have := ch.size; omega
  · rw [left_take hk, ht, if_pos rfl, List.append_nil]
    refine ar.chg c2 (fun g hg z => ?_)
    rcases z with z | z
    · have := (ar.lt g hg).1; have := h.hq; omega
    · exact ap g hg z
  · intro g hg z
    rcases o2 g z with y | y
    · exact ap g hg y
    · have := (ar.lt g hg).2; omega
theorem Purg.more (h : Purg w wr B q v u l last f k sv) (hk : k < l.length) (ht : tkB f (rc l k).s = false) (h200 : l.length ≤ 200) :
    ∃ a' n' c' w', (Builtin.append_ #[37, 37] 37 #[sv, .slice (some ⟨wr.heap.size, 0, none⟩) 1 1]).run Tryz.prog (wr.alloc (.cells #[.int .i64 (rc l k).k, .int .i64 (rc l k).q, .int .i64 (rc l k).t, .string (rc l k).s, .string (rc l k).h, .string (rc l k).d] 42)) = .ok (.slice a' n' c') w' ∧ Purg w w' B q v u l last f (k + 1) (.slice a' n' c') := by
  have b4 : Below wr.heap.size wr (wr.alloc (.cells #[.int .i64 (rc l k).k, .int .i64 (rc l k).q, .int .i64 (rc l k).t, .string (rc l k).s, .string (rc l k).h, .string (rc l k).d] 42)) := (Below.refl _ _).alloc (Nat.le_refl _) _
  obtain ⟨u', es', s, cn, ch, o, ar, ap⟩ := (h.below b4).ex
  have hnl : (leftL f (l.take k)).length ≤ 200 := by
    have := left_len f (l.take k)
    rw [List.length_take] at this; omega
  obtain ⟨v8, w8, hr, A8, C8, L8⟩ := append_rec _ w.heap.size 37 sv _ [rc l k] ar ⟨wr.heap.size, 0, none⟩ 1 (six_row wr (rc l k)) (by simp; omega) ch.size
  obtain ⟨a', c', rfl, _⟩ := A8.shape
  have hsp : l.drop k = rc l k :: l.drop (k + 1) := by rw [rc_get hk, ← List.drop_eq_getElem_cons hk]
  have hlt : leftL f (l.take (k + 1)) = leftL f (l.take k) ++ [rc l k] := by rw [left_take hk, ht]; rfl
  have hown : ∀ g, sv.ownBlock = some g → ¬ feet q v u' g := fun g hg z => by
    have h1 := (ar.lt g hg).1
    rcases z with z | z | z
    · have := h.hq; omega
    · have := h.hv g z; omega
    · exact ap g hg z
  refine ⟨a', _, c', w8, hr, ⟨⟨u', es', s.chg C8 (fun g hg z => hown g z hg), ?_, ?_, o, by rw [hlt]; exact A8, ?_⟩, h.hq, h.hv⟩⟩
  · rw [hlt, List.append_assoc, List.singleton_append, ← hsp]; exact cn
  · refine ⟨C8.os.trans ch.os, C8.tape.trans ch.tape, C8.output.trans ch.output, Nat.le_trans ch.size C8.size, fun i hi hn => ?_⟩
    rw [C8.block i (by have := ch.size; omega) (fun z => by have := (ar.lt i z).1; omega)]
    exact ch.block i hi hn
  · intro g hg z
    rcases L8 g hg with y | y
    · exact ap g y z
    · have := (s.cnts.lt g z).2; omega
theorem Purg.fin {a : Option Addr} {n c : Nat} (h : Purg w wr B q (.slice a n c) u l last f k sv) (hk : k ≤ l.length) (h200 : l.length ≤ 200) :
    Calls Tryz.prog 101 #[.slice a n c, .int .i64 0, .int .i64 k, sv] wr fun e w' => ∃ a' n' c', e = .returned (.slice a' n' c') ∧ w'.cell? ⟨q, 0, none⟩ = some (.slice a n c) ∧ w'.frozen? ⟨q, 0, none⟩ = false ∧ Hid (∃ es', Moves w (w'.setCell ⟨q, 0, none⟩ (.slice a' n' c')) B q (.slice a n c) u (leftL f (l.take k) ++ l.drop k) es' last ∧ Cnt (leftL f (l.take k) ++ l.drop k) es') := by
  obtain ⟨u', es', s, cn, ch, o, ar, ap⟩ := h.ex
  refine (replace_any s.msgs ar (by have := left_len f (l.take k); rw [List.length_take] at this; omega) hk h200 (fun g hg z => by have := h.hv g hg; have := (ar.lt g z).1; omega)).mono ?_
  rintro e w' ⟨v', rfl, A8, C8, L8⟩
  obtain ⟨a', c', rfl, _⟩ := A8.shape
  refine ⟨a', _, c', rfl, ?_, ?_, hide ⟨es', Moves.seq ch o (Moves.store s C8 A8 L8), cn⟩⟩
  · rw [C8.cell (p := ⟨q, 0, none⟩) s.lt s.av]; exact s.c0
  · rw [C8.frozen (p := ⟨q, 0, none⟩) s.lt s.av]; exact s.free 0
end
set_option maxRecDepth 100000 in
set_option maxHeartbeats 2000000 in
theorem spur_any {w : World} {B q : Nat} {v u : Value} {l : List Rc} {es : List Ent} {last : Int} (f : ByteArray) (n : Int) (hf : errS true f = 0) (hfz : f.size ≤ 140737488355328) (h : Sho w B q v u l es last) (hr : RiseQ l) (hc : Cnt l es) (h200 : l.length ≤ 200) (hm : ∀ x ∈ l, errS false x.s = 0 ∧ x.s.size ≤ 135) (hB : B ≤ w.heap.size) :
    Calls Tryz.prog 70 #[.pointer (some ⟨q, 0, none⟩), .string f, .int .i64 n] w fun e w' => e = .returned (.tuple #[]) ∧ ∃ es', Moves w w' B q v u (leftL f (l.take (pq l n)) ++ l.drop (pq l n)) es' last ∧ Cnt (leftL f (l.take (pq l n)) ++ l.drop (pq l n)) es' := by
  have PP := hide (splace_any n h hr h200)
  have hpl := pq_le l n
  obtain ⟨p, hp⟩ : ∃ p, p = pq l n := ⟨_, rfl⟩
  rw [← hp] at PP hpl ⊢
  clear hp
  obtain ⟨a, cap, rfl, c1, c2, hsl⟩ := h.msgs.shape
  unfold maxLen at c2
  have HH := hide h
  have HC := hide hc
  have HM := hide hm
  clear h hc hr hm
  go_enter Tryz.func70, Tryz.ntmps70
  go_wp2_with fail
  refine (unhide PP).mono ?_
  rintro e w1 ⟨rfl, b1⟩
  have h1 := (unhide HH).below b1
  have d0 := h1.c0
  have e0 : (0 : Int) ≤ (p : Int) := by omega
  have e1 : (p : Int) ≤ (l.length : Int) := by omega
  have e2 : p ≤ cap := by omega
  clear PP
  have HP : Hid (Purg w w1 B q (.slice a l.length cap) u l last f 0 (.slice none 0 0)) := hide ⟨⟨u, es, h1, by simpa [leftL] using unhide HC, Chg.of_below b1, fun g hg => .inl hg, ArrR.empty _ _, fun g hg => by simp [Value.ownBlock] at hg⟩, (unhide HH).lt, fun g hg => ((unhide HH).msgs.lt g hg).2⟩
  have PT : Hid (∀ k, k < l.length → ∀ X, Calls Tryz.prog 100 #[.string f, .agg #[.int .i64 (rc l k).k, .int .i64 (rc l k).q, .int .i64 (rc l k).t, .string (rc l k).s, .string (rc l k).h, .string (rc l k).d]] X fun e w' => e = .returned (.bool (tkB f (rc l k).s)) ∧ Below X.heap.size X w') := hide (fun k hk X => by
    obtain ⟨m1, m2⟩ := unhide HM _ (rc_mem hk)
    have := takes_any f (rc l k) hfz (by omega) X
    rw [tk_match hf m1] at this
    exact this)
  clear h1 b1 hsl hf
  go_wp2_with fail
  clear d0
  go_loopw [8, 24] (fun sv kv wr => ∃ (k : Nat), kv = .int .i64 k ∧ k ≤ p ∧ Hid (Purg w wr B q (.slice a l.length cap) u l last f k sv)) (fun _ kv _ => p - (intOf kv).toNat)
  case atStart => exact ⟨0, rfl, Nat.zero_le _, HP⟩
  case round =>
    clear HP
    obtain ⟨k, rfl, hk, HP⟩ := hrel
    obtain ⟨sa, sn, sc, rfl⟩ := (unhide HP).shape
    by_cases hlt : k < p
    · obtain ⟨b, o, rfl, s6⟩ := (unhide HP).show (by omega) rfl
      have hkl : k < l.length := by omega
      have T := hide (unhide PT k hkl)
      have K1 : Hid (∀ w5, Below wr.heap.size wr w5 → tkB f (rc l k).s = true → Calls Tryz.prog 98 #[.pointer (some ⟨q, 0, none⟩), .string (rc l k).s] w5 fun e w' => e = .returned (.tuple #[]) ∧ Purg w w' B q (.slice (some ⟨b, o, none⟩) l.length cap) u l last f (k + 1) (.slice sa sn sc)) := hide (fun w5 b5 ht => ((unhide HP).below b5).count hkl ht hB h200 (unhide HM))
      have K2 : Hid (∀ w5, Below wr.heap.size wr w5 → tkB f (rc l k).s = false → ∃ a' n' c' w', (Builtin.append_ #[37, 37] 37 #[.slice sa sn sc, .slice (some ⟨w5.heap.size, 0, none⟩) 1 1]).run Tryz.prog (w5.alloc (.cells #[.int .i64 (rc l k).k, .int .i64 (rc l k).q, .int .i64 (rc l k).t, .string (rc l k).s, .string (rc l k).h, .string (rc l k).d] 42)) = .ok (.slice a' n' c') w' ∧ Purg w w' B q (.slice (some ⟨b, o, none⟩) l.length cap) u l last f (k + 1) (.slice a' n' c')) := hide (fun w5 b5 ht => ((unhide HP).below b5).more hkl ht h200)
      generalize rc l k = y at *
      obtain ⟨_, x0, x1, x2, x3, x4, x5⟩ := s6
      have hb0 : Below wr.heap.size wr (wr.alloc (.cells #[.int .i64 y.k, .int .i64 y.q, .int .i64 y.t, .string y.s, .string y.h, .string y.d] 42)) := (Below.refl _ _).alloc (Nat.le_refl _) _
      have R0 := hide (RB.new wr y.k y.q y.t y.s y.h y.d 42)
      have Hb0 := hide hb0
      clear hb0 PT
      go_wp2_with fail
      refine (unhide T _).mono ?_
      rintro e w5 ⟨rfl, b5⟩
      have B5 := hide (bstep (unhide Hb0) b5)
      obtain ⟨_, y0, y1, y2, y3, y4, y5, _⟩ := (unhide R0).next b5
      clear x0 x1 x2 x3 x4 x5 b5 T R0 Hb0
      cases ht : tkB f y.s with
      | true =>
        have C := hide (unhide K1 w5 (unhide B5) ht)
        clear K1 K2 ht
        go_wp2_with fail
        refine (unhide C).mono ?_
        rintro e w6 ⟨rfl, p6⟩
        have P6 := hide p6
        clear p6 C
        go_wp2_with fail
        refine ⟨⟨k + 1, by go_num, by omega, P6⟩, ?_⟩
        simp [intOf]; omega
      | false =>
        obtain ⟨a', n', c', w6, hrun, p6⟩ := unhide K2 w5 (unhide B5) ht
        have P6 := hide p6
        clear K1 K2 ht p6
        go_wp2_with (at_builtin; refine Lib.wpList_append_run _ rfl _ _ _ _ rfl _ _ rfl rfl _ _ hrun ?_)
        refine ⟨⟨k + 1, by go_num, by omega, P6⟩, ?_⟩
        simp [intOf]; omega
    · obtain rfl : k = p := by omega
      have PF := hide ((unhide HP).fin hpl h200)
      have d0 : wr.cell? ⟨q, 0, none⟩ = some (.slice a l.length cap) := by
        obtain ⟨u', es', s, _⟩ := (unhide HP).ex
        exact s.c0
      clear HP
      go_wp2_with fail
      refine (unhide PF).mono ?_
      rintro e w6 ⟨a', n', c', rfl, f0, f1, HF⟩
      clear PF d0
      go_wp2_with fail
      go_end0
      exact ⟨rfl, unhide HF⟩
end Go.Proofs.YtmccpkpeimejhahGreatDoor.Dk

namespace Go.Proofs.YtmccpkpeimejhahGreatDoor.Dk
open Go.RowKit

theorem try_chk {s : Sto} {r : Rc} (h : tryE s r = 0) : chkR r = 0 := by
  apply Classical.byContradiction
  intro z
  rw [try_bad z] at h
  exact z h
theorem apl_bad {s : Sto} {r : Rc} (h : ¬ tryE s r = 0) : aplS s r = s := by unfold aplS; rw [if_pos h]
theorem apl_msg {s : Sto} {r : Rc} (h : tryE s r = 0) (h1 : r.k = 1) : aplS s r = ⟨s.l ++ [r], r.q⟩ := by
  unfold aplS; rw [if_neg (by rw [h]; simp), if_pos h1]
theorem apl_mark {s : Sto} {r : Rc} (h : tryE s r = 0) (h1 : r.k = 4) : aplS s r = ⟨s.l, max s.last r.q⟩ := by
  unfold aplS; rw [if_neg (by rw [h]; simp), if_neg (by omega), if_pos h1]
theorem apl_era {s : Sto} {r : Rc} (h : tryE s r = 0) (h1 : r.k = 2) (hr : RiseQ s.l) (hs : seqB s.l r.q = true) : aplS s r = ⟨delR s.l (pq s.l r.q), s.last⟩ := by
  unfold aplS; rw [if_neg (by rw [h]; simp), if_neg (by omega), if_neg (by omega), ← erase_is hr hs]
  unfold goneB
  rw [h1]
  simp
theorem apl_pur {s : Sto} {r : Rc} (h : tryE s r = 0) (h1 : r.k = 3) (hr : RiseQ s.l) : aplS s r = ⟨leftL r.s (s.l.take (pq s.l r.q)) ++ s.l.drop (pq s.l r.q), s.last⟩ := by
  rw [purge_left h h1, purge_is hr]
theorem try_seq {s : Sto} {r : Rc} (h : tryE s r = 0) (h1 : r.k = 2) : seqB s.l r.q = true := by
  rw [try_era (try_chk h) h1] at h
  unfold erE at h
  cases z : seqB s.l r.q
  · rw [z] at h; cases h
  · rfl
theorem sto_room {s : Sto} {r : Rc} {es : List Ent} (hc : Cnt s.l es) (h : tryE s r = 0) (h1 : r.k = 1) : 0 < cntN s.l r.s ∨ es.length < 100 := by
  rw [try_msg (try_chk h) h1] at h
  unfold tmE at h
  split at h
  · cases h
  · split at h
    · cases h
    · rename_i z y
      rw [hc.len]
      by_cases q : nameN s.l < 100
      · exact .inr q
      · left
        have hh : hasS s.l r.s = true := by
          cases x : hasS s.l r.s
          · exact absurd (.inr ⟨x, by omega⟩) y
          · rfl
        rw [cntN_has] at hh
        exact of_decide_eq_true hh
theorem Moves.drew {w w' : World} {B q : Nat} {v u : Value} {l : List Rc} {es : List Ent} {last : Int} (h : Moves w w' B q v u l es last) : Moves w w'.drew B q v u l es last := by
  obtain ⟨v', u', s, c, o⟩ := h
  exact ⟨v', u', s.below (Below.refl _ _).drew, c.trans (Chg.of_below (Below.refl _ _).drew), o⟩
/-- what a call of Apply makes of it -/
def Done (w w' : World) (B q : Nat) (v u : Value) (s' : Sto) : Prop := ∃ es', Moves w w' B q v u s'.l es' s'.last ∧ Cnt s'.l es'
theorem Done.behind {w w1 w' : World} {B q : Nat} {v u : Value} {s' : Sto} (hb : Below w.heap.size w w1) (h : Done w1 w' B q v u s') : Done w w' B q v u s' := by
  obtain ⟨es', m, c⟩ := h
  exact ⟨es', m.behind hb, c⟩

set_option maxRecDepth 100000 in
set_option maxHeartbeats 2000000 in
theorem sapply_any {w : World} {B q : Nat} {v u : Value} {s : Sto} {es : List Ent} (r : Rc) (hm : Small r) (h : Sho w B q v u s.l es s.last) (hc : Cnt s.l es) (hk : s.Ok) (hB : B ≤ w.heap.size) :
    Calls Tryz.prog 51 #[.pointer (some ⟨q, 0, none⟩), .agg #[.int .i64 r.k, .int .i64 r.q, .int .i64 r.t, .string r.s, .string r.h, .string r.d]] w fun e w' => e = .returned (.int .i64 (tryE s r)) ∧ Done w w' B q v u (aplS s r) := by
  have hb0 : Below w.heap.size w (w.alloc (.cells #[.int .i64 r.k, .int .i64 r.q, .int .i64 r.t, .string r.s, .string r.h, .string r.d] 42)) := (Below.refl _ _).alloc (Nat.le_refl _) _
  have h0 := h.below hb0
  have PT := hide (stry_any r hm h0 hc hk)
  have HR := hide (RB.new w r.k r.q r.t r.s r.h r.d 42)
  have Hb0 := hide hb0
  have H0 := hide h0
  have hr : RiseQ s.l := hk.rise
  have h200 := hk.few
  have HMs : Hid (∀ x ∈ s.l, errS false x.s = 0 ∧ x.s.size ≤ 135) := hide (fun x hx => ⟨right_msg (hk.msg x hx).2 (hk.msg x hx).1, (hk.small hx).1⟩)
  have hl := hk.last
  have HC := hide hc
  have Hr := hide hr
  clear hk
  by_cases ht : tryE s r = 0
  · have hg := try_chk ht
    have hq := chkR_in hg
    have HT := hide ht
    have A1 := apl_msg ht
    have A2 := fun h1 => apl_era ht h1 hr (try_seq ht h1)
    have A3 := fun h1 => apl_pur ht h1 hr
    have A4 := apl_mark ht
    have S2 := try_seq ht
    have Rm := right_msg hg
    have Rp := right_pur hg
    have Ro := sto_room hc ht
    have K4 : r.k = 1 ∨ r.k = 2 ∨ r.k = 3 ∨ r.k = 4 := by
      obtain ⟨z1, z2, _⟩ := Pk.chk_len (r := r.pk) hg
      have z1 : 1 ≤ r.k := z1
      have z2 : r.k ≤ 4 := z2
      omega
    clear h hb0 h0 hc hr ht hg
    rcases r with ⟨k, n, t, s', h', d'⟩
    dsimp only at HR Hb0 H0 PT HT hq K4 ⊢
    have hz : s'.size ≤ 140737488355328 := hm.s
    rcases K4 with rfl | rfl | rfl | rfl
    · have AA := hide (A1 rfl)
      have G0 : getN es s' = (cntN s.l s' : Int) := (unhide HC).get (Rm rfl)
      have G1 := cntN_le s.l s'
      have hn1 : getN es s' ≤ 200 := by omega
      have hn0 : 0 ≤ getN es s' := by omega
      have CC : Hid (Cnt (s.l ++ [⟨1, n, t, s', h', d'⟩]) (putL es s' (getN es s' + 1))) := hide (by rw [G0]; exact (unhide HC).put ⟨1, n, t, s', h', d'⟩ (Rm rfl) hz (Ro rfl))
      clear A1 A2 A3 A4 S2 Rm Rp Ro G0 G1
      go_enter Tryz.func51, Tryz.ntmps51
      go_wp2_with fail
      refine (unhide PT).mono ?_
      rintro e w1 ⟨rfl, b1⟩
      rw [unhide HT]
      obtain ⟨_, x0, x1, x2, x3, x4, x5, _⟩ := (unhide HR).next b1
      have B1 := hide (bstep (unhide Hb0) b1)
      have H1 := hide ((unhide H0).below b1)
      have hB1 : B ≤ w1.heap.size := Nat.le_trans hB (unhide B1).size
      clear b1
      have P := hide (sadd_any ⟨1, n, t, s', h', d'⟩ hm (unhide H1) (unhide HC).good h200 hB1 hn1 hn0)
      go_wp2_with fail
      refine (unhide P).mono ?_
      rintro e w2 ⟨rfl, m2⟩
      have M2 := hide m2
      clear P m2 x0 x1 x2 x3 x4 x5
      go_wp2_with fail
      go_ret
      refine ⟨ret_eq (unhide HT), ?_⟩
      rw [unhide AA]
      exact Done.behind (unhide B1) ⟨_, unhide M2, unhide CC⟩
    · have AA := hide (A2 rfl)
      have hs0 : seqB s.l n = true := S2 rfl
      obtain ⟨p1, p2⟩ := seq_hit (unhide Hr) hs0
      have hs := hide hs0
      obtain ⟨m1, m2⟩ := unhide HMs _ (rc_mem p1)
      have G0 : getN es (rc s.l (pq s.l n)).s = (cntN s.l (rc s.l (pq s.l n)).s : Int) := (unhide HC).get m1
      have G1 := cntN_le s.l (rc s.l (pq s.l n)).s
      have hn1 : Hid (getN es (rc s.l (pq s.l n)).s ≤ 200) := hide (by omega)
      have CC : Hid (Cnt (delR s.l (pq s.l n)) (offL es (getN es (rc s.l (pq s.l n)).s) (rc s.l (pq s.l n)).s)) := hide (by
        have c := unhide HC
        rw [split_at p1] at c
        exact Cnt.off c m1 (by omega))
      have hm2 : Hid ((rc s.l (pq s.l n)).s.size ≤ 140737488355328) := hide (by omega)
      clear A1 A2 A3 A4 S2 Rm Rp Ro G0 G1 p1 p2 m1 m2 hs0
      go_enter Tryz.func51, Tryz.ntmps51
      go_wp2_with fail
      refine (unhide PT).mono ?_
      rintro e w1 ⟨rfl, b1⟩
      rw [unhide HT]
      obtain ⟨_, x0, x1, x2, x3, x4, x5, _⟩ := (unhide HR).next b1
      have B1 := hide (bstep (unhide Hb0) b1)
      have H1 := hide ((unhide H0).below b1)
      have hB1 : B ≤ w1.heap.size := Nat.le_trans hB (unhide B1).size
      clear b1
      have P := hide (sera_any n (unhide H1) (unhide Hr) (unhide hs) (unhide HC).good h200 hB1 (unhide hm2) (unhide hn1))
      go_wp2_with fail
      refine (unhide P).mono ?_
      rintro e w2 ⟨rfl, m2⟩
      have M2 := hide m2
      clear P m2 x0 x1 x2 x3 x4 x5
      go_wp2_with fail
      go_ret
      refine ⟨ret_eq (unhide HT), ?_⟩
      rw [unhide AA]
      exact Done.behind (unhide B1) ⟨_, unhide M2, unhide CC⟩
    · have AA := hide (A3 rfl)
      have hf := hide (Rp rfl)
      clear A1 A2 A3 A4 S2 Rm Rp Ro
      go_enter Tryz.func51, Tryz.ntmps51
      go_wp2_with fail
      refine (unhide PT).mono ?_
      rintro e w1 ⟨rfl, b1⟩
      rw [unhide HT]
      obtain ⟨_, x0, x1, x2, x3, x4, x5, _⟩ := (unhide HR).next b1
      have B1 := hide (bstep (unhide Hb0) b1)
      have H1 := hide ((unhide H0).below b1)
      have hB1 : B ≤ w1.heap.size := Nat.le_trans hB (unhide B1).size
      clear b1
      have P := hide (spur_any s' n (unhide hf) hz (unhide H1) (unhide Hr) (unhide HC) h200 (unhide HMs) hB1)
      go_wp2_with fail
      refine (unhide P).mono ?_
      rintro e w2 ⟨rfl, m2⟩
      have M2 := hide m2
      clear P m2 x0 x1 x2 x3 x4 x5
      go_wp2_with fail
      go_ret
      refine ⟨ret_eq (unhide HT), ?_⟩
      rw [unhide AA]
      exact Done.behind (unhide B1) (unhide M2)
    · have AA := hide (A4 rfl)
      clear A1 A2 A3 A4 S2 Rm Rp Ro
      go_enter Tryz.func51, Tryz.ntmps51
      go_wp2_with fail
      refine (unhide PT).mono ?_
      rintro e w1 ⟨rfl, b1⟩
      rw [unhide HT]
      obtain ⟨_, x0, x1, x2, x3, x4, x5, _⟩ := (unhide HR).next b1
      have B1 := hide (bstep (unhide Hb0) b1)
      have H1 := hide ((unhide H0).below b1)
      have hB1 : B ≤ w1.heap.size := Nat.le_trans hB (unhide B1).size
      clear b1
      have k2 := (unhide H1).c2
      have kf := (unhide H1).free 2
      have kl := (unhide H1).lt
      have M2 := hide (Moves.number (unhide H1) (max s.last n))
      go_wp2_with fail
      go_region
      all_goals go_wp2_with fail
      all_goals go_ret
      all_goals refine ⟨ret_eq (unhide HT), ?_⟩
      all_goals rw [unhide AA]
      all_goals exact Done.behind (unhide B1) ⟨es, (unhide M2).drew, unhide HC⟩
  · have R := hide (apl_bad ht)
    obtain ⟨E, hE⟩ : ∃ E, E = tryE s r := ⟨_, rfl⟩
    rw [← hE] at ht PT ⊢
    clear hE h hb0 h0 hc hr
    go_enter Tryz.func51, Tryz.ntmps51
    go_wp2_with fail
    refine (unhide PT).mono ?_
    rintro e w1 ⟨rfl, b1⟩
    go_wp2_with fail
    go_ret
    refine ⟨rfl, ?_⟩
    rw [unhide R]
    exact Done.behind (unhide Hb0) ⟨es, Moves.same (unhide H0) b1, unhide HC⟩
end Go.Proofs.YtmccpkpeimejhahGreatDoor.Dk

namespace Go.Proofs.YtmccpkpeimejhahGreatDoor.Dk
open Go.RowKit

set_option maxHeartbeats 400000 in
theorem snew_any (w : World) :
    Calls Tryz.prog 50 #[] w fun e w' => e = .returned (.pointer (some ⟨w.heap.size, 0, none⟩)) ∧ Sho w' w.heap.size w.heap.size (.slice none 0 0) (.slice none 0 0) [] [] 0 ∧ Below w.heap.size w w' := by
  go_enter Tryz.func50, Tryz.ntmps50
  go_wp2_with fail
  go_ret
  refine ⟨rfl, ⟨by simp, by simp, by simp, fun j => by simp, Nat.le_refl _, by simp, ArrR.empty _ _, Arr.empty _ _, by simp [Value.ownBlock], by simp [Value.ownBlock], fun g hg => by simp [Value.ownBlock] at hg⟩, (Below.refl _ _).alloc (Nat.le_refl _) _⟩

/-- one record more in a row of one's own -/
theorem row_more {w wr : World} {sv : Value} {l : List Rc} {k : Nat} (h : ArrR wr w.heap.size sv (l.take k)) (hb : Below w.heap.size w wr) (hk : k < l.length) (h200 : l.length ≤ 200) (w5 : World) (b5 : Below wr.heap.size wr w5) :
    ∃ a' n' c' w', (Builtin.append_ #[37, 37] 37 #[sv, .slice (some ⟨w5.heap.size, 0, none⟩) 1 1]).run Tryz.prog (w5.alloc (.cells #[.int .i64 (rc l k).k, .int .i64 (rc l k).q, .int .i64 (rc l k).t, .string (rc l k).s, .string (rc l k).h, .string (rc l k).d] 42)) = .ok (.slice a' n' c') w' ∧ Hid (ArrR w' w.heap.size (.slice a' n' c') (l.take (k + 1)) ∧ Below w.heap.size w w') := by
  have b4 : Below w5.heap.size w5 (w5.alloc (.cells #[.int .i64 (rc l k).k, .int .i64 (rc l k).q, .int .i64 (rc l k).t, .string (rc l k).s, .string (rc l k).h, .string (rc l k).d] 42)) := (Below.refl _ _).alloc (Nat.le_refl _) _
  have h4 := (h.below b5).below b4
  have hb4 := bstep (bstep hb b5) b4
  obtain ⟨v8, w8, hr, A8, C8, _⟩ := append_rec _ w.heap.size 37 sv _ [rc l k] h4 ⟨w5.heap.size, 0, none⟩ 1 (six_row w5 (rc l k)) (by rw [List.length_take]; simp; omega) hb4.size
  obtain ⟨a', c', rfl, _⟩ := A8.shape
  refine ⟨a', _, c', w8, hr, hide ⟨?_, hb4.trans (C8.below hb4.size (fun g hg z => by have := (h4.lt g z).1; omega))⟩⟩
  rw [List.take_succ_eq_append_getElem hk, ← rc_get hk]
  exact A8

set_option maxRecDepth 100000 in
set_option maxHeartbeats 1000000 in
theorem sall_any {w : World} {B q : Nat} {v u : Value} {l : List Rc} {es : List Ent} {last : Int} (h : Sho w B q v u l es last) (h200 : l.length ≤ 200) (hm : ∀ x ∈ l, Small x) :
    Calls Tryz.prog 10 #[.pointer (some ⟨q, 0, none⟩)] w fun e w' => ∃ v', e = .returned v' ∧ ArrR w' w.heap.size v' l ∧ Below w.heap.size w w' := by
  obtain ⟨a, cap, rfl, c1, c2, hsl⟩ := h.msgs.shape
  have d0 := h.c0
  have HSl := hide hsl
  have HM := hide hm
  clear hsl hm h
  go_enter Tryz.func10, Tryz.ntmps10
  go_wp2_with fail
  go_loopw [3, 11] (fun sv kv wr => ∃ (k : Nat), kv = .int .i64 k ∧ k ≤ l.length ∧ Hid (ArrR wr w.heap.size sv (l.take k) ∧ Below w.heap.size w wr)) (fun _ kv _ => l.length - (intOf kv).toNat)
  case atStart => exact ⟨0, rfl, Nat.zero_le _, hide ⟨ArrR.empty _ _, Below.refl _ _⟩⟩
  case round =>
    clear d0
    obtain ⟨k, rfl, hk, HP⟩ := hrel
    obtain ⟨sa, sc, rfl, _⟩ := (unhide HP).1.shape
    by_cases hlt : k < l.length
    · obtain ⟨b, o, rfl, s6⟩ := unhide HSl k hlt
      have s7 := s6.below (unhide HP).2 s6.lt
      have K2 := hide (row_more (unhide HP).1 (unhide HP).2 hlt h200)
      have T := hide (fun X => copyR_any (rc l k) (unhide HM _ (rc_mem hlt)) X)
      obtain ⟨sn, hsn⟩ : ∃ sn, sn = (l.take k).length := ⟨_, rfl⟩
      rw [← hsn] at K2 ⊢
      clear hsn
      generalize rc l k = y at *
      obtain ⟨_, x0, x1, x2, x3, x4, x5⟩ := s7
      have hb0 : Below wr.heap.size wr (wr.alloc (.cells #[.int .i64 y.k, .int .i64 y.q, .int .i64 y.t, .string y.s, .string y.h, .string y.d] 42)) := (Below.refl _ _).alloc (Nat.le_refl _) _
      have Hb0 := hide hb0
      clear hb0 s6
      go_wp2_with fail
      refine (unhide T _).mono ?_
      rintro e w5 ⟨rfl, b5⟩
      obtain ⟨a', n', c', w6, hrun, P6⟩ := unhide K2 w5 (bstep (unhide Hb0) b5)
      clear x0 x1 x2 x3 x4 x5 b5 T Hb0 K2
      go_wp2_with (at_builtin; refine Lib.wpList_append_run _ rfl _ _ _ _ rfl _ _ rfl rfl _ _ hrun ?_)
      refine ⟨⟨k + 1, by go_num, by omega, P6⟩, ?_⟩
      simp [intOf]; omega
    · obtain rfl : k = l.length := by omega
      rw [List.take_length] at HP ⊢
      go_wp2_with fail
      go_ret
      exact ⟨_, rfl, (unhide HP).1, (unhide HP).2⟩

end Go.Proofs.YtmccpkpeimejhahGreatDoor.Dk
