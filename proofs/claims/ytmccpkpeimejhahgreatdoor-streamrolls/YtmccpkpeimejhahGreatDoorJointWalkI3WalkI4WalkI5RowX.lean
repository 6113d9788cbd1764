/-
  Contracts of slices.Insert (one entry) and slices.Delete (one entry) at rows of entries that are the program's own: the row, and which block was written.
  Contract of slices.Insert (one entry) at rows of entries that are the program's own: where there is no room; all ways together.
  Contracts of slices.Delete (one entry) at rows of entries that are the program's own, of index.Put and index.Drop.
  The program's store in memory: a row of messages, an index of counts, the last number. No walk.
-/
import Derived.Test.YtmccpkpeimejhahGreatDoorJointPapWRowEWalkI1WalkI2
import Derived.Shelf.Spec.SlicesInsert
import Derived.Shelf.Spec.SlicesInsertGrow
import Derived.Test.YtmccpkpeimejhahGreatDoorJointWalkClWalkN4WalkC5WalkC6
import Derived.Deep.RegionLaw
import Derived.Test.YtmccpkpeimejhahGreatDoorJointPapTPapVaRowVWorksV
namespace Go.Proofs.YtmccpkpeimejhahGreatDoor
open Go.RowKit

/-- append onto a row of one's own: where the new row lies -/
theorem append_blk (w : World) (B : Nat) (ty : TypeId) (v : Value) (es fs : List Ent) (ha : Arr w B v es) (a : Addr) (c : Nat) (hnews : ∀ j u, (cel fs)[j]? = some u → w.cell? (a.add j) = some u) (hl : es.length + fs.length ≤ 10000) (hB : B ≤ w.heap.size) :
    ∃ v' w', (Builtin.append_ #[70, 70] ty #[v, .slice (some a) fs.length c]).run Tryz.prog w = .ok v' w' ∧ Arr w' B v' (es ++ fs) ∧ w.grownBy w' v.ownBlock ∧ (v'.ownBlock = v.ownBlock ∨ v'.ownBlock = some w.heap.size) := by
  obtain ⟨i0, hi, hz0, hz1, hz2⟩ := info_parts infoE
  have hlen : (cel fs).length = fs.length * 2 := cel_length fs
  obtain ⟨v', w', hr, h2, h3, h4⟩ := run_append_own (P := Tryz.prog) w B 70 ty 130 i0 _ 2 24 Tryz.underlying70 hi hz0 hz1 hz2 rfl (by omega) v es.length (cel es) ha a fs.length c (cel fs) hlen hnews (cel_one fs) (by unfold maxLen; omega) (by omega) hB
  refine ⟨v', w', hr, ?_, h3, ?_⟩
  · unfold Arr
    rw [List.length_append, cel_append]
    exact h2
  · rcases ha.2 with ⟨rfl, hn⟩ | ⟨g, cap, cur, rfl, hbg, hg, hnc, hcm, hcs, htake⟩
    · by_cases hm : fs.length = 0
      · left
        rw [h4.2 ⟨rfl, hm⟩]
      · right
        have hr2 := run_append_nil (P := Tryz.prog) w 70 ty 130 i0 _ Tryz.underlying70 hi hz0 a fs.length c (cel fs) (by rw [hz1]; exact hlen) hnews (by omega) (by omega) (by rw [hz2]; omega)
        rw [hr] at hr2
        cases hr2
        rfl
    · by_cases hroom : es.length + fs.length ≤ cap
      · left
        obtain ⟨w2, hr2, _, _⟩ := run_append_fits (P := Tryz.prog) w B 70 ty 130 i0 2 Tryz.underlying70 hi hz1 g es.length cap (cel es) ha a fs.length c (cel fs) hlen hnews (cel_one fs) hroom
        rw [hr] at hr2
        cases hr2
        rfl
      · right
        have hr2 := run_append_grow (P := Tryz.prog) w 70 ty 130 i0 _ Tryz.underlying70 hi hz0 ⟨g, 0, none⟩ es.length cap (cel es) (by rw [hz1]; exact ha.1) (World.ownsRow.cells ha (g := g) rfl) a fs.length c (cel fs) (by rw [hz1]; exact hlen) hnews (by omega) (by omega) (by rw [hz2]; exact growslice_fits (by omega) (by omega))
        rw [hr] at hr2
        cases hr2
        rfl

/-- what a run of stores makes of a row -/
theorem own_sets {B g cap n : Nat} {e : TypeId} {size : Nat} : ∀ (vs : List Value) (o : Nat) (w : World) (xs : List Value), w.ownsRow B e size (.slice (some ⟨g, 0, none⟩) n cap) n xs → o + vs.length ≤ xs.length → (w.setCells g o vs).ownsRow B e size (.slice (some ⟨g, 0, none⟩) n cap) n (xs.take o ++ vs ++ xs.drop (o + vs.length))
  | [], o, w, xs, h, _ => by simpa [World.setCells] using h
  | v :: r, o, w, xs, h, hl => by
    have h1 := (World.ownsRow.stored h o v).1
    have h2 := own_sets r (o + 1) _ _ h1 (by simp at hl ⊢; omega)
    rw [World.setCells]
    have e := list_seg_step xs o v r (by simpa using hl)
    rw [e] at h2
    exact h2
theorem chg_sets {g : Nat} : ∀ (vs : List Value) (o : Nat) (w : World), Chg (fun k => k = g) w (w.setCells g o vs)
  | [], o, w => Chg.refl _ _
  | v :: r, o, w => by
    rw [World.setCells]
    exact (Chg.setCell (A := fun k => k = g) (p := ⟨g, o, none⟩) (Chg.refl _ _) (.inl rfl) v).trans (chg_sets r (o + 1) _)

/-- copy at elements of two cells -/
theorem run_copy_two (w : World) (dT sT ty elem : TypeId) (b o dLen dCap : Nat) (a : Addr) (sLen sCap m : Nat) (cs : List Value)
    (hu : Tryz.prog.underlying dT = some (.slice elem)) (hs : (Tryz.prog.info? elem).map (·.size) = some 2) (hm : Nat.min sLen dLen = m) (hn : cs.length = m * 2)
    (hsrc : ∀ j v, cs[j]? = some v → w.cell? (a.add j) = some v) (hc : ∀ j, j < cs.length → (w.cell? ⟨b, o + j, none⟩).isSome = true) (hf : ∀ j, j < cs.length → w.frozen? ⟨b, o + j, none⟩ = false) (h1 : ∀ v ∈ cs, v.oneCell' = true) :
    (Builtin.copy_ #[dT, sT] ty #[.slice (some ⟨b, o, none⟩) dLen dCap, .slice (some a) sLen sCap]).run Tryz.prog w = .ok (goInt m) (w.setCells b o cs) := by
  have hl := run_loadCells_list (P := Tryz.prog) w a cs hsrc
  have hst := run_storeCells_cells (P := Tryz.prog) b o cs 0 w (by simpa using hc) (by simpa using hf) h1
  cases hq : Tryz.prog.info? elem with
  | none => simp [hq] at hs
  | some i =>
    have hi : i.size = 2 := by simpa [hq] using hs
    simp [Builtin.copy_, run_underlying hu, Builtin.lenOf, Builtin.firstCells, sizeOf, typeInfo, hq, hi, hm, ← hn, hl, hst]
theorem sizeE : (Tryz.prog.info? 130).map (·.size) = some 2 := by kernel_rfl

theorem one_row {w : World} {vb : Nat} {x : Ent} (h : w.heap[vb]? = some (.cells #[.string x.1, .int .i64 x.2] 130 (0, 0))) : (∀ j u, (cel [x])[j]? = some u → w.cell? ⟨vb, j, none⟩ = some u) ∧ (∀ j, w.frozen? ⟨vb, j, none⟩ = false) ∧ w.shape? vb = some (130, 2) := by
  refine ⟨fun j u hj => ?_, fun j => frozen_of_row w vb j _ _ h, ?_⟩
  · rw [cell_of_row w vb j _ _ _ h]
    simpa [cel] using hj
  · simp [World.shape?, h]

set_option maxHeartbeats 4000000 in
set_option maxRecDepth 100000 in
theorem insert_end (B : Nat) (v : Value) (es : List Ent) (x : Ent) (vb : Nat) (w : World) (ha : Arr w B v es) (h100 : es.length ≤ 100) (hvb : w.heap[vb]? = some (.cells #[.string x.1, .int .i64 x.2] 130 (0, 0))) (hB : B ≤ w.heap.size) :
    Calls Tryz.prog 127 #[v, .int .i64 es.length, .slice (some ⟨vb, 0, none⟩) 1 1] w fun e w' => ∃ v', e = .returned v' ∧ Arr w' B v' (es ++ [x]) ∧ Chg (fun k => v.ownBlock = some k) w w' ∧ ∀ g, v'.ownBlock = some g → v.ownBlock = some g ∨ w.heap.size ≤ g := by
  obtain ⟨v', w', hr, h1, h2, h3⟩ := append_blk w B 70 v es [x] ha ⟨vb, 0, none⟩ 1 (fun j u hj => by rw [Addr.add_lit, Nat.zero_add]; exact (one_row hvb).1 j u hj) (by simp; omega) hB
  obtain ⟨a, cap, rfl, c1, c2, c3⟩ := ha.shape
  unfold maxLen at c2
  have Hend : Hid (Arr w' B v' (es ++ [x]) ∧ Chg (fun k => (Value.slice a es.length cap).ownBlock = some k) w w' ∧ ∀ g, v'.ownBlock = some g → (Value.slice a es.length cap).ownBlock = some g ∨ w.heap.size ≤ g) :=
    hide ⟨h1, Chg.of_grown h2, fun g hg => by
      rcases h3 with q | q
      · exact .inl (by rw [← q]; exact hg)
      · rw [q] at hg; cases hg; exact .inr (Nat.le_refl _)⟩
  have Ha := hide ha
  clear h1 h2 h3 c3 ha hvb
  rcases a with _ | ⟨ab, ao, asp⟩
  · have hn : es.length = 0 := by
      rcases (unhide Ha).2 with ⟨_, q⟩ | ⟨g, cap, cur, q, _⟩
      · exact q
      · cases q
    have hcap : cap = 0 := by
      rcases (unhide Ha).2 with ⟨q, _⟩ | ⟨g, cap, cur, q, _⟩
      · exact (Value.slice.inj q).2.2
      · cases q
    subst hcap
    rw [hn] at hr Hend ⊢
    go_enter Tryz.func127, Tryz.ntmps127
    go_wp2_with (at_builtin; refine Lib.wpList_append_run _ rfl _ _ _ _ rfl _ _ rfl rfl _ _ hr ?_)
    go_ret
    exact ⟨v', rfl, unhide Hend⟩
  · go_enter Tryz.func127, Tryz.ntmps127
    go_wp2_with (at_builtin; refine Lib.wpList_append_run _ rfl _ _ _ _ rfl _ _ rfl rfl _ _ hr ?_)
    all_goals
      go_ret
      exact ⟨v', rfl, unhide Hend⟩

set_option maxHeartbeats 4000000 in
set_option maxRecDepth 100000 in
theorem insert_shift (B g n c i : Nat) (es : List Ent) (x : Ent) (vb : Nat) (w : World) (hn : es.length = n) (ha : Arr w B (.slice (some ⟨g, 0, none⟩) n c) es) (h100 : n ≤ 100) (hi : i < n) (hroom : n + 1 ≤ c)
    (hvb : w.heap[vb]? = some (.cells #[.string x.1, .int .i64 x.2] 130 (0, 0))) (hne : vb ≠ g) :
    Calls Tryz.prog 127 #[.slice (some ⟨g, 0, none⟩) n c, .int .i64 i, .slice (some ⟨vb, 0, none⟩) 1 1] w fun e w' =>
      e = .returned (.slice (some ⟨g, 0, none⟩) (n + 1) c) ∧ w' = (w.drew.setCells g ((i + 1) * 2) ((cel es).drop (i * 2))).setCells g (i * 2) (cel [x]) := by
  obtain ⟨cur, hg, hcs, htake⟩ : ∃ cur, w.heap[g]? = some (.cells cur 130 (0, 0)) ∧ cur.size = c * 2 ∧ cur.toList.take (n * 2) = cel es := by
    rcases ha.2 with ⟨q, _⟩ | ⟨g', cap', cur, q, h2, h3, h4, h5, h6, h7⟩
    · cases q
    · simp only [Value.slice.injEq, Option.some.injEq, Addr.mk.injEq, and_true] at q
      obtain ⟨rfl, _, rfl⟩ := q
      exact ⟨cur, h3, h6, by rw [hn] at h7; exact h7⟩
  have hcs2 : ∀ j u, (cel es)[j]? = some u → w.cell? ⟨g, j, none⟩ = some u := by
    intro j u hj
    subst hn
    exact ha.cell j u hj
  have hsp : ∀ j, j < (n + 1) * 2 → (w.cell? ⟨g, j, none⟩).isSome = true := by
    intro j hj
    rw [cell_of_row w g j _ _ _ hg, Array.getElem?_eq_getElem (by omega)]
    rfl
  have hfz : ∀ j, w.frozen? ⟨g, j, none⟩ = false := fun j => frozen_of_row w g j _ _ hg
  have hsg : w.shape? g = some (130, c * 2) := by simp [World.shape?, hg, hcs]
  obtain ⟨hvs, hvf, hvsh⟩ := one_row hvb
  have hz2 : ¬ ((i : Int) = (n : Int)) := by omega
  have hov : ∀ lb cb, (callFunc 150 #[.slice (some ⟨vb, 0, none⟩) 1 1, .slice (some ⟨g, (i + 1) * 2, none⟩) lb cb]).run Tryz.prog w = .ok (.value (.bool false)) w := fun lb cb => by
    rw [run_callFunc_extern Tryz.func150 (by kernel_rfl) (by kernel_rfl) (by kernel_rfl) (e := Extern.SlicesOverlaps.overlaps #[70, 70] #[4]) (by kernel_rfl),
      Lib.run_overlaps_apart w 70 4 130 Tryz.underlying70 2 Tryz.sizeOf130 ⟨vb, 0, none⟩ ⟨g, (i + 1) * 2, none⟩ 1 1 lb cb hne _ _ 2 (c * 2) hvsh hsg (by omega) (hvf 0) (hvf 2)]
    rfl
  have hdl : ((cel es).drop (i * 2)).length = (n - i) * 2 := by rw [List.length_drop, cel_length, hn]; omega
  have hw1 : IntKind.i64.wrap ((i : Int) + 1) = (i : Int) + 1 := by rw [IntKind.wrap_i64]; omega
  have hb1 : (0 : Int) ≤ (i : Int) + 1 := by omega
  have hin : i ≤ n := by omega
  have htn : ((i : Int) + 1).toNat = i + 1 := by omega
  have hb2 : ¬ (c = i + 1) := by omega
  have hb3 : (i : Int) ≤ (n : Int) + 1 := by omega
  have hb4 : ¬ (c = i) := by omega
  have hcp1 : ∀ ty dc sc, (Builtin.copy_ #[70, 70] ty #[.slice (some ⟨g, (i + 1) * 2, none⟩) (n - i) dc, .slice (some ⟨g, i * 2, none⟩) (n + 1 - i) sc]).run Tryz.prog w.drew = .ok (goInt ((n - i : Nat) : Int)) (w.drew.setCells g ((i + 1) * 2) ((cel es).drop (i * 2))) := fun ty dc sc =>
    run_copy_two w.drew _ _ ty 130 g ((i + 1) * 2) (n - i) dc ⟨g, i * 2, none⟩ (n + 1 - i) sc (n - i) ((cel es).drop (i * 2)) Tryz.underlying70 sizeE (by simp only [Nat.min_def]; split <;> omega) hdl
      (fun j v hj => by rw [Addr.add_lit]; exact hcs2 (i * 2 + j) v (by rwa [List.getElem?_drop] at hj))
      (fun j hj => hsp _ (by omega)) (fun j _ => hfz _) (fun v hv => cel_one es v (List.mem_of_mem_drop hv))
  obtain ⟨W1, hW1⟩ : ∃ W1, W1 = w.drew.setCells g ((i + 1) * 2) ((cel es).drop (i * 2)) := ⟨_, rfl⟩
  have hsp1 : ∀ k, k < (n + 1) * 2 → (W1.cell? ⟨g, k, none⟩).isSome = true := fun k hk => by
    rw [hW1]
    exact isSome_setCells g ((cel es).drop (i * 2)) ((i + 1) * 2) w.drew (fun j hj => hsp ((i + 1) * 2 + j) (by rw [hdl] at hj; omega)) k (hsp k hk)
  have hcp2 : ∀ (W : World), (∀ x, W.cell? x = W1.cell? x) → (∀ x, W.frozen? x = W1.frozen? x) → ∀ ty dc, (Builtin.copy_ #[70, 70] ty #[.slice (some ⟨g, i * 2, none⟩) (n + 1 - i) dc, .slice (some ⟨vb, 0, none⟩) 1 1]).run Tryz.prog W = .ok (goInt 1) (W.setCells g (i * 2) (cel [x])) := fun W hWc hWf ty dc =>
    run_copy_two W _ _ ty 130 g (i * 2) (n + 1 - i) dc ⟨vb, 0, none⟩ 1 1 1 (cel [x]) Tryz.underlying70 sizeE (by simp only [Nat.min_def]; split <;> omega) rfl
      (fun j v hj => by
        rw [Addr.add_lit, hWc, hW1, World.cell?_setCells_out g _ _ _ _ (fun h _ => absurd h hne), Nat.zero_add]
        exact hvs j v hj)
      (fun j hj => by rw [hWc]; exact hsp1 _ (by simp [cel] at hj; omega)) (fun j hj => by rw [hWf, hW1, World.frozen?_setCells]; exact hfz _) (cel_one [x])
  rw [← hW1] at hcp1
  clear hcs2 hsp hfz hvs hvf hsp1 hg hvb ha htake
  go_enter Tryz.func127, Tryz.ntmps127
  go_wp2_with (simp only [hov])
  go_region_law (refine step_copy_runI rfl _ _ 70 70 rfl _ _ (by simp [Act.eval, Act.put]) (by simp [Act.eval, Act.put]) (hcp1 _ _ _) ?_)
  go_wp2_with (at_builtin; refine wpList_copy_runI _ rfl _ _ 70 70 rfl _ _ rfl rfl (hcp2 _ (fun _ => rfl) (fun _ => rfl) _ _) ?_)
  go_ret
  first | exact ⟨rfl, rfl⟩ | exact ⟨rfl, by rw [hW1]⟩
end Go.Proofs.YtmccpkpeimejhahGreatDoor

namespace Go.Proofs.YtmccpkpeimejhahGreatDoor
open Go.RowKit

def zE : Value := .agg #[.string ByteArray.empty, .int .i64 0]
set_option maxHeartbeats 4000000 in
set_option maxRecDepth 100000 in
theorem insert_grow (B g n i : Nat) (es : List Ent) (x : Ent) (vb : Nat) (w : World) (hn : es.length = n) (ha : Arr w B (.slice (some ⟨g, 0, none⟩) n n) es) (h100 : n ≤ 100) (hi : i < n)
    (hvb : w.heap[vb]? = some (.cells #[.string x.1, .int .i64 x.2] 130 (0, 0))) :
    Calls Tryz.prog 127 #[.slice (some ⟨g, 0, none⟩) n n, .int .i64 i, .slice (some ⟨vb, 0, none⟩) 1 1] w fun e w' =>
      e = .returned (.slice (some ⟨w.heap.size, 0, none⟩) (n + 1) (grownCap w (n + 1) n 130)) ∧
      w' = (((w.alloc (.cells (((cel es).take (i * 2)).toArray ++ Builtin.zeroCells zE.cells (n + 1 - i) ++ Builtin.zeroCells zE.cells (grownCap w (n + 1) n 130 - (n + 1))) 130)).drew.setCells w.heap.size (i * 2) (cel [x])).drew).setCells w.heap.size ((i + 1) * 2) ((cel es).drop (i * 2)) := by
  obtain ⟨i0, hi0, hz0, hzs, hzb⟩ := info_parts infoE
  have hcs2 : ∀ j u, (cel es)[j]? = some u → w.cell? ⟨g, j, none⟩ = some u := by
    intro j u hj
    subst hn
    exact ha.cell j u hj
  have hcl : (cel es).length = n * 2 := by rw [cel_length, hn]
  obtain ⟨hvs, hvf, hvsh⟩ := one_row hvb
  have hbw : g < w.heap.size := block_lt_of_cell (hcs2 0 _ (List.getElem?_eq_getElem (by omega)))
  have hvw : vb < w.heap.size := block_lt_of_cell (hvs 0 _ (List.getElem?_eq_getElem (by simp [cel])))
  have hz2 : ¬ ((i : Int) = (n : Int)) := by omega
  have hkk : (n : Int) + 1 - (i : Int) = ((n + 1 - i : Nat) : Int) := by omega
  have hik : i + (n + 1 - i) = n + 1 := by omega
  have hold : (Builtin.firstCells i0.size i (.slice (some ⟨g, 0, none⟩) i n)).run Tryz.prog w.drew = .ok ((cel es).take (i * 2)).toArray w.drew := by
    rw [hzs]
    exact run_firstCells_some w.drew 2 i ⟨g, 0, none⟩ i n ((cel es).take (i * 2)) (by rw [List.length_take]; omega) (fun j v hj => by
      rw [Addr.add_lit, Nat.zero_add]
      rw [List.getElem?_take] at hj
      split at hj
      · exact hcs2 j v hj
      · cases hj)
  have hrz : ∀ ty, (Builtin.append_ #[70, 3] ty #[.slice (some ⟨g, 0, none⟩) i n, .int .i64 ((n : Int) + 1 - (i : Int))]).run Tryz.prog w =
      .ok (.slice (some ⟨w.heap.size, 0, none⟩) (n + 1) (grownCap w (n + 1) n 130)) (w.drew.alloc (.cells (((cel es).take (i * 2)).toArray ++ Builtin.zeroCells zE.cells (n + 1 - i) ++ Builtin.zeroCells zE.cells (grownCap w (n + 1) n 130 - (n + 1))) 130)) := fun ty => by
    have h := Lib.run_append_grow_zeros (P := Tryz.prog) w 70 3 ty 130 i0 _ .i64 .i64 Tryz.underlying70 Tryz.underlying3 hi0 hz0 (some ⟨g, 0, none⟩) i n ((cel es).take (i * 2)) hold (n + 1 - i) (by omega) (by omega) (by omega) (by omega) (by rw [hzb]; omega) (by rw [hzb, hik]; exact growslice_fits (by omega) (by omega))
    rw [hik] at h
    rw [hkk]
    exact h
  obtain ⟨G, hG⟩ : ∃ G, G = grownCap w (n + 1) n 130 := ⟨_, rfl⟩
  obtain ⟨ROW, hROW⟩ : ∃ ROW : Array Value, ROW = ((cel es).take (i * 2)).toArray ++ Builtin.zeroCells zE.cells (n + 1 - i) ++ Builtin.zeroCells zE.cells (G - (n + 1)) := ⟨_, rfl⟩
  rw [← hG] at hrz ⊢
  rw [← hROW] at hrz ⊢
  have hRl : (n + 1) * 2 ≤ ROW.size := by
    rw [hROW]
    simp only [Array.size_append, List.size_toArray, size_zeroCells, List.length_take, hcl, zE, Value.cells]
    simp
    omega
  obtain ⟨W1, hW1⟩ : ∃ W1, W1 = w.drew.alloc (.cells ROW 130) := ⟨_, rfl⟩
  rw [← hW1] at hrz
  have hN : ∀ j, j < (n + 1) * 2 → (W1.cell? ⟨w.heap.size, j, none⟩).isSome = true := fun j hj => by
    rw [hW1, World.cell?_alloc_at (w := w.drew) ROW _ w.heap.size j rfl, Array.getElem?_eq_getElem (by omega)]; rfl
  have hNf : ∀ j, W1.frozen? ⟨w.heap.size, j, none⟩ = false := fun j => by rw [hW1]; exact World.frozen?_alloc_at (w := w.drew) ROW _ w.heap.size j rfl
  have hOb : ∀ j v, w.cell? ⟨g, j, none⟩ = some v → W1.cell? ⟨g, j, none⟩ = some v := fun j v h => by rw [hW1, World.cell?_alloc_past (w := w.drew) _ g j hbw]; exact h
  have hOv : ∀ j v, w.cell? ⟨vb, j, none⟩ = some v → W1.cell? ⟨vb, j, none⟩ = some v := fun j v h => by rw [hW1, World.cell?_alloc_past (w := w.drew) _ vb j hvw]; exact h
  have hcpA : ∀ (W : World), (∀ x, W.cell? x = W1.cell? x) → (∀ x, W.frozen? x = W1.frozen? x) → ∀ ty dc, (Builtin.copy_ #[70, 70] ty #[.slice (some ⟨w.heap.size, i * 2, none⟩) (n + 1 - i) dc, .slice (some ⟨vb, 0, none⟩) 1 1]).run Tryz.prog W = .ok (goInt 1) (W.setCells w.heap.size (i * 2) (cel [x])) := fun W hWc hWf ty dc =>
    run_copy_two W _ _ ty 130 w.heap.size (i * 2) (n + 1 - i) dc ⟨vb, 0, none⟩ 1 1 1 (cel [x]) Tryz.underlying70 sizeE (by simp only [Nat.min_def]; split <;> omega) rfl
      (fun j v hj => by rw [Addr.add_lit, Nat.zero_add, hWc]; exact hOv _ v (hvs j v hj))
      (fun j hj => by rw [hWc]; exact hN _ (by simp [cel] at hj; omega)) (fun j hj => by rw [hWf]; exact hNf _) (cel_one [x])
  have hGn : n + 1 ≤ G := by rw [hG]; exact grownCap_ge w _ _ _
  have hG63 : G ≤ 9223372036854775807 := by
    have := grownCap_le_maxLen w (n + 1) n 130 (by unfold maxLen; omega)
    rw [← hG] at this
    unfold maxLen at this
    omega
  have hGi : ¬ (G = i) := by omega
  have hGim : ¬ (G = i + 1) := by omega
  have hci : ¬ (n = i) := by omega
  have hbN : g ≠ w.heap.size := by omega
  have hdl : ((cel es).drop (i * 2)).length = (n - i) * 2 := by rw [List.length_drop, hcl]; omega
  have hcpB : ∀ (W : World), (∀ q, W.cell? q = (W1.setCells w.heap.size (i * 2) (cel [x])).cell? q) → (∀ q, W.frozen? q = (W1.setCells w.heap.size (i * 2) (cel [x])).frozen? q) → ∀ ty dc sc, (Builtin.copy_ #[70, 70] ty #[.slice (some ⟨w.heap.size, (i + 1) * 2, none⟩) (n - i) dc, .slice (some ⟨g, i * 2, none⟩) (n - i) sc]).run Tryz.prog W = .ok (goInt ((n - i : Nat) : Int)) (W.setCells w.heap.size ((i + 1) * 2) ((cel es).drop (i * 2))) := fun W hWc hWf ty dc sc =>
    run_copy_two W _ _ ty 130 w.heap.size ((i + 1) * 2) (n - i) dc ⟨g, i * 2, none⟩ (n - i) sc (n - i) ((cel es).drop (i * 2)) Tryz.underlying70 sizeE (by simp only [Nat.min_def]; split <;> omega) hdl
      (fun j v hj => by
        rw [Addr.add_lit, hWc, World.cell?_setCells_out _ _ _ _ _ (fun h _ => absurd h hbN)]
        exact hOb _ v (hcs2 (i * 2 + j) v (by rwa [List.getElem?_drop] at hj)))
      (fun j hj => by rw [hWc]; exact isSome_setCells _ (cel [x]) _ _ (fun t ht => hN _ (by simp [cel] at ht; omega)) _ (hN _ (by rw [hdl] at hj; omega)))
      (fun j hj => by rw [hWf, World.frozen?_setCells]; exact hNf _) (fun v hv => cel_one es v (List.mem_of_mem_drop hv))
  subst hW1
  have hE1 : ∀ q, ((w.alloc (.cells ROW 130)).drew).cell? q = (w.drew.alloc (.cells ROW 130)).cell? q := fun _ => rfl
  have hE2 : ∀ q, ((w.alloc (.cells ROW 130)).drew).frozen? q = (w.drew.alloc (.cells ROW 130)).frozen? q := fun _ => rfl
  have hF1 : ∀ q, (((w.alloc (.cells ROW 130)).drew.setCells w.heap.size (i * 2) (cel [x])).drew).cell? q = ((w.drew.alloc (.cells ROW 130)).setCells w.heap.size (i * 2) (cel [x])).cell? q := fun _ => rfl
  have hF2 : ∀ q, (((w.alloc (.cells ROW 130)).drew.setCells w.heap.size (i * 2) (cel [x])).drew).frozen? q = ((w.drew.alloc (.cells ROW 130)).setCells w.heap.size (i * 2) (cel [x])).frozen? q := fun _ => rfl
  have hw1 : IntKind.i64.wrap ((i : Int) + 1) = (i : Int) + 1 := by rw [IntKind.wrap_i64]; omega
  have hb1 : (0 : Int) ≤ (i : Int) + 1 := by omega
  have hin : i ≤ n := by omega
  have htn : ((i : Int) + 1).toNat = i + 1 := by omega
  have hb3 : (i : Int) ≤ (n : Int) := by omega
  clear hkk hik hold hROW hG hRl hvb ha hvs hvf hvsh hcs2 hcl hN hNf hOb hOv hz0 hzs hzb hi0
  go_enter Tryz.func127, Tryz.ntmps127
  go_wp2_with (first
    | (at_builtin; refine Lib.wpList_append_run _ rfl _ _ _ _ rfl _ _ rfl rfl _ _ (hrz _) ?_)
    | (at_builtin; refine wpList_copy_runI _ rfl _ _ 70 70 rfl _ _ rfl rfl (hcpA _ hE1 hE2 _ _) ?_))
  go_region_law (refine step_copy_runI rfl _ _ 70 70 rfl (.slice (some ⟨w.heap.size, (i + 1) * 2, none⟩) (n - i) (G - (i + 1))) (.slice (some ⟨g, i * 2, none⟩) (n - i) (n - i)) (by simp [Act.eval, Act.put]) (by simp [Act.eval, Act.put]) (hcpB _ hF1 hF2 3 (G - (i + 1)) (n - i)) ?_)
  go_wp2
  go_ret
  exact ⟨rfl, rfl⟩

theorem list_shift (xs : List Value) (es : List Ent) (x : Ent) (n i : Nat) (hn : es.length = n) (hi : i < n) (hx : xs.length = (n + 1) * 2) (ht : xs.take (i * 2) = (cel es).take (i * 2)) :
    (((xs.take ((i + 1) * 2) ++ (cel es).drop (i * 2) ++ xs.drop ((i + 1) * 2 + ((cel es).drop (i * 2)).length)).take (i * 2)) ++ cel [x] ++ (xs.take ((i + 1) * 2) ++ (cel es).drop (i * 2) ++ xs.drop ((i + 1) * 2 + ((cel es).drop (i * 2)).length)).drop (i * 2 + (cel [x]).length)) = cel (insL es i x) := by
  have hcl : (cel es).length = n * 2 := by rw [cel_length, hn]
  have hdl : ((cel es).drop (i * 2)).length = (n - i) * 2 := by rw [List.length_drop, hcl]; omega
  have h0 : xs.drop ((i + 1) * 2 + ((cel es).drop (i * 2)).length) = [] := List.drop_of_length_le (by rw [hdl]; omega)
  rw [h0, List.append_nil]
  have h1 : (xs.take ((i + 1) * 2)).length = (i + 1) * 2 := by rw [List.length_take]; omega
  rw [List.take_append_of_le_length (by omega), List.take_take, show min (i * 2) ((i + 1) * 2) = i * 2 by omega, ht]
  have h2 : i * 2 + (cel [x]).length = (i + 1) * 2 := by simp [cel]; omega
  rw [h2, List.drop_append, h1, Nat.sub_self, List.drop_zero, List.drop_of_length_le (by omega), List.nil_append]
  unfold insL
  rw [cel_append, show x :: es.drop i = [x] ++ es.drop i from rfl, cel_append, cel_take, cel_drop, List.append_assoc]
theorem list_grow (xs : List Value) (es : List Ent) (x : Ent) (n i : Nat) (hn : es.length = n) (hi : i < n) (hx : xs.length = (n + 1) * 2) (ht : xs.take (i * 2) = (cel es).take (i * 2)) :
    (((xs.take (i * 2) ++ cel [x] ++ xs.drop (i * 2 + (cel [x]).length)).take ((i + 1) * 2)) ++ (cel es).drop (i * 2) ++ (xs.take (i * 2) ++ cel [x] ++ xs.drop (i * 2 + (cel [x]).length)).drop ((i + 1) * 2 + ((cel es).drop (i * 2)).length)) = cel (insL es i x) := by
  have hcl : (cel es).length = n * 2 := by rw [cel_length, hn]
  have hdl : ((cel es).drop (i * 2)).length = (n - i) * 2 := by rw [List.length_drop, hcl]; omega
  have h2 : (cel [x]).length = 2 := rfl
  have h1 : (xs.take (i * 2) ++ cel [x]).length = (i + 1) * 2 := by rw [List.length_append, List.length_take, h2]; omega
  have h3 : (xs.take (i * 2) ++ cel [x] ++ xs.drop (i * 2 + (cel [x]).length)).length = (n + 1) * 2 := by rw [List.length_append, h1, List.length_drop, h2]; omega
  rw [List.drop_of_length_le (l := xs.take (i * 2) ++ cel [x] ++ xs.drop (i * 2 + (cel [x]).length)) (by rw [h3, hdl]; omega), List.append_nil, List.take_append_of_le_length (by omega), List.take_of_length_le (by omega), ht]
  unfold insL
  rw [cel_append, show x :: es.drop i = [x] ++ es.drop i from rfl, cel_append, cel_take, cel_drop, List.append_assoc]

theorem insert_any (B : Nat) (v : Value) (es : List Ent) (i : Nat) (x : Ent) (vb : Nat) (w : World) (ha : Arr w B v es) (hi : i ≤ es.length) (h100 : es.length ≤ 100) (hvb : w.heap[vb]? = some (.cells #[.string x.1, .int .i64 x.2] 130 (0, 0))) (hne : v.ownBlock ≠ some vb) (hB : B ≤ w.heap.size) :
    Calls Tryz.prog 127 #[v, .int .i64 i, .slice (some ⟨vb, 0, none⟩) 1 1] w fun e w' => ∃ v', e = .returned v' ∧ Arr w' B v' (insL es i x) ∧ Chg (fun k => v.ownBlock = some k) w w' ∧ ∀ g, v'.ownBlock = some g → v.ownBlock = some g ∨ w.heap.size ≤ g := by
  rcases Nat.eq_or_lt_of_le hi with he | hlt
  · subst he
    have e : insL es es.length x = es ++ [x] := by simp [insL]
    rw [e]
    exact insert_end B v es x vb w ha h100 hvb hB
  · obtain ⟨g, cap, rfl, c1, c2, c3, c4⟩ := ha.there (by omega)
    obtain ⟨n, hn⟩ : ∃ n, es.length = n := ⟨_, rfl⟩
    rw [hn] at ha c1 h100 hlt hne ⊢
    have hil : (insL es i x).length = n + 1 := by rw [insL_length hi, hn]
    by_cases hroom : n + 1 ≤ cap
    · refine (insert_shift B g n cap i es x vb w hn ha h100 hlt hroom hvb (fun e => hne (by rw [e]; rfl))).mono ?_
      rintro e w' ⟨rfl, rfl⟩
      refine ⟨_, rfl, ?_, ?_, fun g' hg' => .inl hg'⟩
      · rcases ha.2 with ⟨q, _⟩ | ⟨g', cap', cur, q, h2, h3, h4, h5, h6, h7⟩
        · cases q
        · simp only [Value.slice.injEq, Option.some.injEq, Addr.mk.injEq, and_true] at q
          obtain ⟨rfl, _, rfl⟩ := q
          rw [hn] at h7
          have hcur : cur.toList.length = cap * 2 := by rw [Array.length_toList]; exact h6
          have hx : (cur.toList.take ((n + 1) * 2)).length = (n + 1) * 2 := by rw [List.length_take]; omega
          have o1 : w.drew.ownsRow B 130 2 (.slice (some ⟨g, 0, none⟩) (n + 1) cap) (n + 1) (cur.toList.take ((n + 1) * 2)) := ⟨hx, .inr ⟨g, cap, cur, rfl, h2, h3, hroom, h5, h6, rfl⟩⟩
          have hdl : ((cel es).drop (i * 2)).length = (n - i) * 2 := by rw [List.length_drop, cel_length, hn]; omega
          have o2 := own_sets ((cel es).drop (i * 2)) ((i + 1) * 2) _ _ o1 (by rw [hx, hdl]; omega)
          have o3 := own_sets (cel [x]) (i * 2) _ _ o2 (by
            rw [hdl, List.length_append, List.length_append, List.length_take, hx, hdl, show (cel [x]).length = 2 from rfl]
            omega)
          rw [list_shift _ es x n i hn hlt hx (by
            rw [List.take_take, show min (i * 2) ((n + 1) * 2) = i * 2 by omega, ← h7, List.take_take, show min (i * 2) (n * 2) = i * 2 by omega])] at o3
          unfold Arr
          rw [hil]
          exact o3
      · have c : Chg (fun k => k = g) w w.drew := ⟨rfl, rfl, rfl, Nat.le_refl _, fun _ _ _ => rfl⟩
        exact ((c.trans (chg_sets _ _ _)).trans (chg_sets _ _ _)).mono (fun k _ hk => by rw [hk]; rfl)
    · obtain rfl : cap = n := by omega
      refine (insert_grow B g cap i es x vb w hn ha h100 hlt hvb).mono ?_
      rintro e w' ⟨rfl, rfl⟩
      refine ⟨_, rfl, ?_, ?_, fun g' hg' => .inr (by cases hg'; exact Nat.le_refl _)⟩
      · obtain ⟨G, hG⟩ : ∃ G, G = grownCap w (cap + 1) cap 130 := ⟨_, rfl⟩
        have hGn : cap + 1 ≤ G := by rw [hG]; exact grownCap_ge w _ _ _
        have hGm : G ≤ maxLen := by rw [hG]; exact grownCap_le_maxLen w _ _ _ (by unfold maxLen; omega)
        rw [← hG]
        obtain ⟨ROW, hROW⟩ : ∃ ROW : Array Value, ROW = ((cel es).take (i * 2)).toArray ++ Builtin.zeroCells zE.cells (cap + 1 - i) ++ Builtin.zeroCells zE.cells (G - (cap + 1)) := ⟨_, rfl⟩
        rw [← hROW]
        have hcl : (cel es).length = cap * 2 := by rw [cel_length, hn]
        have hRs : ROW.size = G * 2 := by
          rw [hROW]
          simp only [Array.size_append, List.size_toArray, size_zeroCells, List.length_take, hcl, zE, Value.cells]
          simp
          omega
        have hx : (ROW.toList.take ((cap + 1) * 2)).length = (cap + 1) * 2 := by rw [List.length_take, Array.length_toList]; omega
        have o1 : (w.alloc (.cells ROW 130)).drew.ownsRow B 130 2 (.slice (some ⟨w.heap.size, 0, none⟩) (cap + 1) G) (cap + 1) (ROW.toList.take ((cap + 1) * 2)) := ⟨hx, .inr ⟨w.heap.size, G, ROW, rfl, hB, heap_alloc_new w _, hGn, hGm, hRs, rfl⟩⟩
        have hdl : ((cel es).drop (i * 2)).length = (cap - i) * 2 := by rw [List.length_drop, cel_length, hn]; omega
        have o2 := own_sets (cel [x]) (i * 2) _ _ o1 (by rw [hx]; simp [cel]; omega)
        have o2' : ((w.alloc (.cells ROW 130)).drew.setCells w.heap.size (i * 2) (cel [x])).drew.ownsRow B 130 2 (.slice (some ⟨w.heap.size, 0, none⟩) (cap + 1) G) (cap + 1) _ := o2
        have o3 := own_sets ((cel es).drop (i * 2)) ((i + 1) * 2) _ _ o2' (by
          rw [hdl, List.length_append, List.length_append, List.length_take, List.length_drop, hx, show (cel [x]).length = 2 from rfl]
          omega)
        rw [list_grow _ es x cap i hn hlt hx (by
          rw [List.take_take, show min (i * 2) ((cap + 1) * 2) = i * 2 by omega, hROW, Array.append_assoc, Array.toList_append, show ((cel es).take (i * 2)).toArray.toList = (cel es).take (i * 2) from rfl, List.take_append_of_le_length (by rw [List.length_take]; omega), List.take_take, Nat.min_self])] at o3
        unfold Arr
        rw [hil]
        exact o3
      · generalize ((cel es).take (i * 2)).toArray ++ Builtin.zeroCells zE.cells (cap + 1 - i) ++ Builtin.zeroCells zE.cells (grownCap w (cap + 1) cap 130 - (cap + 1)) = ROW
        have c1 : Chg (fun k => k = w.heap.size) w (w.alloc (.cells ROW 130)).drew := Chg.of_below ((Below.refl _ _).alloc (Nat.le_refl _) _).drew
        have c2 : Chg (fun k => k = w.heap.size) w ((w.alloc (.cells ROW 130)).drew.setCells w.heap.size (i * 2) (cel [x])) := c1.trans (chg_sets _ _ _)
        have c3 : Chg (fun k => k = w.heap.size) w (((w.alloc (.cells ROW 130)).drew.setCells w.heap.size (i * 2) (cel [x])).drew) := ⟨c2.os, c2.tape, c2.output, c2.size, c2.block⟩
        exact (c3.trans (chg_sets _ _ _)).mono (fun k hk q => by omega)
end Go.Proofs.YtmccpkpeimejhahGreatDoor

namespace Go.Proofs.YtmccpkpeimejhahGreatDoor
open Go.RowKit Go.Deep

theorem own_shorter {B g cap n k : Nat} {e : TypeId} {size : Nat} {w : World} {xs : List Value} (h : w.ownsRow B e size (.slice (some ⟨g, 0, none⟩) n cap) n xs) (hk : k ≤ n) : w.ownsRow B e size (.slice (some ⟨g, 0, none⟩) k cap) k (xs.take (k * size)) := by
  have hks : k * size ≤ n * size := Nat.mul_le_mul_right _ hk
  refine ⟨by rw [List.length_take, h.1]; omega, ?_⟩
  rcases h.2 with ⟨q, _⟩ | ⟨g', cap', cur, q, h2, h3, h4, h5, h6, h7⟩
  · cases q
  · simp only [Value.slice.injEq, Option.some.injEq, Addr.mk.injEq, and_true] at q
    obtain ⟨rfl, _, rfl⟩ := q
    exact .inr ⟨g, cap, cur, rfl, h2, h3, by omega, h5, h6, by rw [← h7, List.take_take, Nat.min_eq_left hks]⟩
def zs : List Value := [.string ByteArray.empty, .int .i64 0]
theorem run_clear_two (w : World) (ty : TypeId) (b o c : Nat)
    (hc : ∀ j, j < 2 → (w.cell? ⟨b, o + j, none⟩).isSome = true) (hf : ∀ j, j < 2 → w.frozen? ⟨b, o + j, none⟩ = false) :
    (Builtin.clear_ #[70] ty #[.slice (some ⟨b, o, none⟩) 1 c]).run Tryz.prog w = .ok (.tuple #[]) (w.setCells b o zs) := by
  have hzc : (Builtin.zeroCells (Value.agg #[.string ⟨#[]⟩, .int .i64 0]).cells 1).toList = zs := by kernel_rfl
  have hst := run_storeCells_cells (P := Tryz.prog) b o zs 0 w (by simpa [zs] using hc) (by simpa [zs] using hf) (by intro v hv'; simp only [zs, List.mem_cons, List.not_mem_nil, or_false] at hv'; rcases hv' with q | q <;> (subst q; rfl))
  simp only [Nat.add_zero] at hst
  simp [Builtin.clear_, run_underlying Tryz.underlying70, Tryz.zeroValue130, hzc, hst]

set_option maxHeartbeats 4000000 in
set_option maxRecDepth 100000 in
theorem delete_in (B g c i m : Nat) (es : List Ent) (w : World) (hn : es.length = i + 1 + m) (ha : Arr w B (.slice (some ⟨g, 0, none⟩) (i + 1 + m) c) es) (h100 : es.length ≤ 100) (hc : i + 1 + m ≤ c) :
    Calls Tryz.prog 153 #[.slice (some ⟨g, 0, none⟩) (i + 1 + m) c, .int .i64 i, .int .i64 (i + 1)] w fun e w' =>
      e = .returned (.slice (some ⟨g, 0, none⟩) (i + m) c) ∧ w' = (w.drew.setCells g (0 + i * 2) ((cel es).drop ((i + 1) * 2))).setCells g ((i + m) * 2) zs := by
  obtain ⟨i0, hi0, hz0, hz1, hz2⟩ := info_parts infoE
  obtain ⟨news, hnews⟩ : ∃ news, news = (cel es).drop ((i + 1) * 2) := ⟨_, rfl⟩
  have hlen : news.length = m * 2 := by rw [hnews, List.length_drop, cel_length, hn]; omega
  obtain ⟨cur, hg, hcs⟩ : ∃ cur, w.heap[g]? = some (.cells cur 130 (0, 0)) ∧ cur.size = c * 2 := by
    rcases ha.2 with ⟨q, _⟩ | ⟨g', cap', cur, q, h2, h3, h4, h5, h6, h7⟩
    · cases q
    · simp only [Value.slice.injEq, Option.some.injEq, Addr.mk.injEq, and_true] at q
      obtain ⟨rfl, _, rfl⟩ := q
      exact ⟨cur, h3, h6⟩
  have hsp : ∀ j, j < c * 2 → (w.cell? ⟨g, j, none⟩).isSome = true := by
    intro j hj
    rw [cell_of_row w g j _ _ _ hg, Array.getElem?_eq_getElem (by omega)]
    rfl
  have hfz : ∀ j, w.frozen? ⟨g, j, none⟩ = false := fun j => frozen_of_row w g j _ _ hg
  have hcell : ∀ j u, (cel es)[j]? = some u → w.cell? ⟨g, j, none⟩ = some u := by
    intro j u hj
    rw [← hn] at ha
    exact ha.cell j u hj
  obtain ⟨A, hA, hsrc⟩ : ∃ A : Addr, (if c = i + 1 then some (⟨g, 0, none⟩ : Addr) else some ⟨g, (i + 1) * 2, none⟩) = some A ∧ Hid (∀ t u, news[t]? = some u → w.drew.cell? (A.add t) = some u) := by
    by_cases h : c = i + 1
    · refine ⟨⟨g, 0, none⟩, by simp [h], fun t u hu => ?_⟩
      have h0 : news.length = 0 := by rw [hlen]; omega
      rw [List.length_eq_zero_iff.1 h0] at hu
      simp at hu
    · refine ⟨⟨g, (i + 1) * 2, none⟩, by simp [h], fun t u hu => ?_⟩
      rw [Addr.add_lit]
      refine hcell _ u ?_
      rw [hnews, List.getElem?_drop] at hu
      exact hu
  have s1 := hide hlen
  have s2 : Hid (∀ u ∈ news, u.oneCell' = true) := by
    intro u hu
    rw [hnews] at hu
    exact cel_one es u (List.mem_of_mem_drop hu)
  have s3 : Hid (∀ t, t < news.length → (w.drew.cell? ⟨g, 0 + i * 2 + t, none⟩).isSome = true ∧ w.drew.frozen? ⟨g, 0 + i * 2 + t, none⟩ = false) := by
    intro t ht
    rw [hlen] at ht
    exact ⟨hsp _ (by omega), hfz _⟩
  obtain ⟨W1, hW1⟩ : ∃ W1, W1 = w.drew.setCells g (0 + i * 2) news := ⟨_, rfl⟩
  have hcl : ∀ ty c', (Builtin.clear_ #[70] ty #[.slice (some ⟨g, (i + m) * 2, none⟩) 1 c']).run Tryz.prog W1 = .ok (.tuple #[]) (W1.setCells g ((i + m) * 2) zs) := fun ty c' =>
    run_clear_two W1 ty g ((i + m) * 2) c' (fun j hj => by
        rw [hW1]
        exact isSome_setCells g news (0 + i * 2) w.drew (fun t ht => hsp _ (by rw [hlen] at ht; omega)) _ (hsp _ (by omega)))
      (fun j hj => by rw [hW1, World.frozen?_setCells]; exact hfz _)
  have hW : Hid (W1 = w.drew.setCells g (0 + i * 2) news) := hW1
  rw [← hnews]
  clear hW1 hsp hfz hcell hg ha hnews hlen hz0 hz2
  have hic : i ≤ c := by omega
  have hjc : i + 1 ≤ c := by omega
  have b1 : (0 : Int) ≤ (i : Int) + 1 := by omega
  have b2 : (i : Int) + 1 ≤ (i : Int) + 1 + (m : Int) := by omega
  have q1 : ¬ (c = i + m) := by omega
  have q2 : i + 1 + m - (i + m) = 1 := by omega
  go_enter Tryz.func153, Tryz.ntmps153
  go_wp2_with fail
  go_region_law (refine step_append_room rfl (.tmp 22) (.tmp 25) 70 rfl 130 i0 2 Tryz.underlying70 hi0 hz1 g 0 i c (by simp [Act.eval, Act.put]) A m (c - (i + 1)) news (by simp [Act.eval, Act.put]) s1.out hsrc.out s2.out (by omega) s3.out ?_; rw [← hW.out])
  go_wp2
  go_ret
  exact ⟨rfl, by rw [hW.out]⟩

theorem list_del (es : List Ent) (i m : Nat) (hn : es.length = i + 1 + m) :
    ((((cel es).take (i * 2) ++ (cel es).drop ((i + 1) * 2) ++ (cel es).drop (i * 2 + ((cel es).drop ((i + 1) * 2)).length)).take ((i + m) * 2) ++ zs ++ ((cel es).take (i * 2) ++ (cel es).drop ((i + 1) * 2) ++ (cel es).drop (i * 2 + ((cel es).drop ((i + 1) * 2)).length)).drop ((i + m) * 2 + zs.length)).take ((i + m) * 2)) = cel (delL es i) := by
  have hcl : (cel es).length = (i + 1 + m) * 2 := by rw [cel_length, hn]
  have h1 : ((cel es).take (i * 2) ++ (cel es).drop ((i + 1) * 2)).length = (i + m) * 2 := by rw [List.length_append, List.length_take, List.length_drop, hcl]; omega
  have h2 : ((cel es).take (i * 2) ++ (cel es).drop ((i + 1) * 2) ++ (cel es).drop (i * 2 + ((cel es).drop ((i + 1) * 2)).length)).take ((i + m) * 2) = (cel es).take (i * 2) ++ (cel es).drop ((i + 1) * 2) := by
    rw [List.take_append_of_le_length (by omega), List.take_of_length_le (by omega)]
  rw [h2, List.append_assoc ((cel es).take (i * 2) ++ (cel es).drop ((i + 1) * 2)), List.take_append_of_le_length (by omega), List.take_of_length_le (by omega)]
  unfold delL
  rw [cel_append, cel_take, cel_drop]
theorem delete_any (B : Nat) (v : Value) (es : List Ent) (i : Nat) (w : World) (ha : Arr w B v es) (hi : i < es.length) (h100 : es.length ≤ 100) :
    Calls Tryz.prog 153 #[v, .int .i64 i, .int .i64 (i + 1)] w fun e w' => ∃ v', e = .returned v' ∧ Arr w' B v' (delL es i) ∧ Chg (fun k => v.ownBlock = some k) w w' ∧ ∀ g, v'.ownBlock = some g → v.ownBlock = some g ∨ w.heap.size ≤ g := by
  obtain ⟨g, cap, rfl, c1, c2, c3, c4⟩ := ha.there (by omega)
  obtain ⟨m, hn⟩ : ∃ m, es.length = i + 1 + m := ⟨es.length - (i + 1), by omega⟩
  rw [hn] at ha c1 ⊢
  refine (delete_in B g cap i m es w hn ha h100 c1).mono ?_
  rintro e w' ⟨rfl, rfl⟩
  refine ⟨_, rfl, ?_, ?_, fun g' hg' => .inl hg'⟩
  · have o0 : w.drew.ownsRow B 130 2 (.slice (some ⟨g, 0, none⟩) (i + 1 + m) cap) (i + 1 + m) (cel es) := by
      unfold Arr at ha
      rw [hn] at ha
      exact ha
    have hcl : (cel es).length = (i + 1 + m) * 2 := by rw [cel_length, hn]
    have hdl : ((cel es).drop ((i + 1) * 2)).length = m * 2 := by rw [List.length_drop, hcl]; omega
    have o1 := own_sets ((cel es).drop ((i + 1) * 2)) (i * 2) _ _ o0 (by rw [hcl, hdl]; omega)
    have o2 := own_sets zs ((i + m) * 2) _ _ o1 (by
      simp only [List.length_append, List.length_take, List.length_drop, hcl, show zs.length = 2 from rfl]
      omega)
    have o3 := own_shorter (k := i + m) o2 (by omega)
    rw [list_del es i m hn] at o3
    unfold Arr
    rw [delL_length hi, hn, show i + 1 + m - 1 = i + m by omega, Nat.zero_add]
    exact o3
  · have c : Chg (fun k => k = g) w w.drew := ⟨rfl, rfl, rfl, Nat.le_refl _, fun _ _ _ => rfl⟩
    exact ((c.trans (chg_sets _ _ _)).trans (chg_sets _ _ _)).mono (fun k _ hk => by rw [hk]; rfl)

/-- what a call makes of an index: the new entries; only its own blocks are written -/
def Upd (w w' : World) (B p : Nat) (v : Value) (es' : List Ent) : Prop := ∃ v', Keeps w' B p v' es' ∧ Chg (foot p v) w w' ∧ ∀ g, v'.ownBlock = some g → v.ownBlock = some g ∨ w.heap.size ≤ g
theorem Upd.same {w w' : World} {B p : Nat} {v : Value} {es : List Ent} (h : Keeps w B p v es) (hb : Below w.heap.size w w') : Upd w w' B p v es := ⟨v, h.below hb, Chg.of_below hb, fun _ hg => .inl hg⟩
theorem Upd.behind {w w1 w' : World} {B p : Nat} {v : Value} {es : List Ent} (hb : Below w.heap.size w w1) (h : Upd w1 w' B p v es) : Upd w w' B p v es := by
  obtain ⟨v', h1, h2, h3⟩ := h
  exact ⟨v', h1, (Chg.of_below hb).trans h2, fun g hg => by
    rcases h3 g hg with q | q
    · exact .inl q
    · have := hb.size; exact .inr (by omega)⟩
theorem Upd.store {w w' : World} {B p : Nat} {v v' : Value} {es es' : List Ent} (h : Keeps w B p v es) (hb : Chg (fun k => v.ownBlock = some k) w w') (ha : Arr w' B v' es') (hv : ∀ g, v'.ownBlock = some g → v.ownBlock = some g ∨ w.heap.size ≤ g) : Upd w (w'.setCell ⟨p, 0, none⟩ v') B p v es' := by
  obtain ⟨h1, h2⟩ := h.store hb ha hv
  exact ⟨v', h1, h2, hv⟩
/-- the same at cell o of a block with other cells, which stay -/
def UpdO (o : Nat) (w w' : World) (B p : Nat) (v : Value) (es' : List Ent) : Prop := ∃ v', KeepsO o w' B p v' es' ∧ Chg (foot p v) w w' ∧ Side o p w w' ∧ ∀ g, v'.ownBlock = some g → v.ownBlock = some g ∨ w.heap.size ≤ g
theorem UpdO.upd {w w' : World} {B p : Nat} {v : Value} {es : List Ent} (h : UpdO 0 w w' B p v es) : Upd w w' B p v es := by
  obtain ⟨v', h1, h2, _, h3⟩ := h
  exact ⟨v', h1, h2, h3⟩
theorem UpdO.chg {o : Nat} {w w' : World} {B p : Nat} {v : Value} {es : List Ent} (h : UpdO o w w' B p v es) : Chg (foot p v) w w' := by
  obtain ⟨_, _, h2, _⟩ := h
  exact h2
theorem UpdO.same {o : Nat} {w w' : World} {B p : Nat} {v : Value} {es : List Ent} (h : KeepsO o w B p v es) (hb : Below w.heap.size w w') : UpdO o w w' B p v es := ⟨v, h.below hb, Chg.of_below hb, Side.below hb h.lt, fun _ hg => .inl hg⟩
theorem UpdO.behind {o : Nat} {w w1 w' : World} {B p : Nat} {v : Value} {es : List Ent} (hp : p < w.heap.size) (hb : Below w.heap.size w w1) (h : UpdO o w1 w' B p v es) : UpdO o w w' B p v es := by
  obtain ⟨v', h1, h2, h4, h3⟩ := h
  exact ⟨v', h1, (Chg.of_below hb).trans h2, (Side.below hb hp).trans h4, fun g hg => by
    rcases h3 g hg with q | q
    · exact .inl q
    · have := hb.size; exact .inr (by omega)⟩
theorem UpdO.store {o : Nat} {w w' : World} {B p : Nat} {v v' : Value} {es es' : List Ent} (h : KeepsO o w B p v es) (hb : Chg (fun k => v.ownBlock = some k) w w') (ha : Arr w' B v' es') (hv : ∀ g, v'.ownBlock = some g → v.ownBlock = some g ∨ w.heap.size ≤ g) : UpdO o w (w'.setCell ⟨p, o, none⟩ v') B p v es' := by
  obtain ⟨h1, h2⟩ := h.store hb ha hv
  exact ⟨v', h1, h2, (Side.chg hb h.lt h.apart).trans (Side.set _), hv⟩

theorem put_bad {es : List Ent} {s : ByteArray} {n : Int} (h : errS false s ≠ 0) : putE es s = errS false s ∧ putL es s n = es := by
  unfold putE putL
  rw [if_neg h, if_neg h]
  exact ⟨rfl, rfl⟩
theorem put_has {es : List Ent} {s : ByteArray} {n : Int} (h : errS false s = 0) (g : hasAt es s = true) : putE es s = 0 ∧ putL es s n = es.set (place es s) (s, n) := by
  unfold putE putL
  rw [if_pos h, if_pos h, if_pos g, if_pos g]
  exact ⟨rfl, rfl⟩
theorem put_full {es : List Ent} {s : ByteArray} {n : Int} (h : errS false s = 0) (g : hasAt es s = false) (f : 100 ≤ es.length) : putE es s = 8 ∧ putL es s n = es := by
  unfold putE putL
  simp [h, g, f]
theorem put_new {es : List Ent} {s : ByteArray} {n : Int} (h : errS false s = 0) (g : hasAt es s = false) (f : ¬ 100 ≤ es.length) : putE es s = 0 ∧ putL es s n = insL es (place es s) (s, n) := by
  unfold putE putL
  simp [h, g, f]

theorem load_ent {w : World} {b : Nat} {s : ByteArray} {n : Int} (c0 : w.cell? ⟨b, 0, none⟩ = some (.string s)) (c1 : w.cell? ⟨b, 1, none⟩ = some (.int .i64 n)) :
    (loadVar 130 ⟨b, 0, none⟩).run Tryz.prog w = .ok (.agg #[.string s, .int .i64 n]) w := by
  have hl : (loadCells ⟨b, 0, none⟩ 2).run Tryz.prog w = .ok #[.string s, .int .i64 n] w :=
    run_loadCells_list (P := Tryz.prog) w ⟨b, 0, none⟩ [.string s, .int .i64 n] (fun j v hv => by
      rw [Addr.add_lit, Nat.zero_add]
      match j, hv with
      | 0, hv => rw [c0]; simpa using hv
      | 1, hv => rw [c1]; simpa using hv)
  have hz : Tryz.t130.size = 2 := by kernel_rfl
  simp [loadVar, isAgg, sizeOf]
  rw [hz, hl]
  rfl
theorem results_ent {fn : Func} {a : Tmp} {tmps : Array Value} {w : World} {b : Nat} {s : ByteArray} {n : Int} (hf : fn.results = #[.cell a 130]) (ha : tmps.getD a undef = .pointer (some ⟨b, 0, none⟩)) (c0 : w.cell? ⟨b, 0, none⟩ = some (.string s)) (c1 : w.cell? ⟨b, 1, none⟩ = some (.int .i64 n)) :
    (results fn tmps).run Tryz.prog w = .ok (.agg #[.string s, .int .i64 n]) w := by
  have ha' : tmps[a]?.getD undef = .pointer (some ⟨b, 0, none⟩) := by simpa using ha
  simp [results, hf, ha', asAddr, load_ent c0 c1]
set_option maxHeartbeats 400000 in
theorem copyE_any (s : ByteArray) (n : Int) (w : World) (hs : s.size ≤ 140737488355328) :
    Calls Tryz.prog 128 #[.agg #[.string s, .int .i64 n]] w fun e w' => e = .returned (.agg #[.string s, .int .i64 n]) ∧ Below w.heap.size w w' := by
  obtain ⟨W, hW⟩ : ∃ W, W = (w.alloc (.cells #[.string s, .int .i64 n] 130)).alloc (.cells #[.string ⟨#[]⟩, .int .i64 0] 130) := ⟨_, rfl⟩
  have hsz : W.heap.size = w.heap.size + 2 := by rw [hW]; simp
  have hb : Below w.heap.size w W := by rw [hW]; exact ((Below.refl _ _).alloc (Nat.le_refl _) _).alloc (by simp) _
  have r0 := one_row (x := (s, n)) (heap_alloc_new w (.cells #[.string s, .int .i64 n] 130))
  have hg : W.heap[w.heap.size + 1]? = some (.cells #[.string ⟨#[]⟩, .int .i64 0] 130 (0, 0)) := by
    have := heap_alloc_new (w.alloc (.cells #[.string s, .int .i64 n] 130)) (.cells #[.string ⟨#[]⟩, .int .i64 0] 130)
    rw [World.size_alloc] at this
    rw [hW]; exact this
  have r1 := one_row (x := (⟨#[]⟩, 0)) hg
  have d0 : W.cell? ⟨w.heap.size, 0, none⟩ = some (.string s) := by rw [hW, World.cell?_alloc_lt _ _ _ (by simp)]; exact r0.1 0 _ rfl
  have d1 : W.cell? ⟨w.heap.size, 1, none⟩ = some (.int .i64 n) := by rw [hW, World.cell?_alloc_lt _ _ _ (by simp)]; exact r0.1 1 _ rfl
  have e0 : W.cell? ⟨w.heap.size + 1, 0, none⟩ = some (.string ⟨#[]⟩) := r1.1 0 _ rfl
  have e1 : W.cell? ⟨w.heap.size + 1, 1, none⟩ = some (.int .i64 0) := r1.1 1 _ rfl
  have f0 : W.frozen? ⟨w.heap.size + 1, 0, none⟩ = false := r1.2.1 0
  have f1 : W.frozen? ⟨w.heap.size + 1, 1, none⟩ = false := r1.2.1 1
  have l0 : w.heap.size < W.heap.size := by omega
  have l1 : w.heap.size + 1 < W.heap.size := by omega
  have PC : Hid (∀ X, Calls Tryz.prog 32 #[.string s] X fun e w' => e = .returned (.string s) ∧ Below X.heap.size X w') := hide (fun X => clone_any s X (by omega))
  clear r0 r1 hg
  go_enter Tryz.func128, Tryz.ntmps128
  go_wp2_with fail
  rw [← hW]
  have Hb := hide hb
  clear hW hb hsz
  go_region_with (go_at_call 32; refine (unhide PC _).mono ?_; rintro e w1 ⟨rfl, b1⟩; have g1 := (b1.cell (p := ⟨w.heap.size, 1, none⟩) l0).trans d1; have h0 := (b1.cell (p := ⟨w.heap.size + 1, 0, none⟩) l1).trans e0; have h1 := (b1.cell (p := ⟨w.heap.size + 1, 1, none⟩) l1).trans e1; have k0 := (b1.frozen (p := ⟨w.heap.size + 1, 0, none⟩) l1).trans f0; have k1 := (b1.frozen (p := ⟨w.heap.size + 1, 1, none⟩) l1).trans f1)
  all_goals have HB := hide (bstep (unhide Hb).drew b1)
  all_goals clear b1 Hb g1
  all_goals go_wp2_with fail
  all_goals refine bodyPost_ret (results_ent (b := w.heap.size + 1) (s := s) (n := n) rfl rfl (by rw [World.cell?_setCell_other _ _ _ _ (by simp)]; exact World.cell?_setCell_same _ _ _ h0) (World.cell?_setCell_same _ _ _ (by rw [World.cell?_setCell_other _ _ _ _ (by simp)]; exact h1))) rfl ?_
  all_goals exact ⟨rfl, ((unhide HB).setCell (p := ⟨w.heap.size + 1, 0, none⟩) (Nat.le_succ _) _).setCell (p := ⟨w.heap.size + 1, 1, none⟩) (Nat.le_succ _) _⟩

set_option maxHeartbeats 1000000 in
theorem putO_any {o : Nat} (B p : Nat) (v : Value) (es : List Ent) (s : ByteArray) (n : Int) (w : World) (hk : KeepsO o w B p v es) (hg : Good es) (hs : s.size ≤ 140737488355328) (hB : B ≤ w.heap.size) :
    Calls Tryz.prog 96 #[.pointer (some ⟨p, o, none⟩), .string s, .int .i64 n] w fun e w' => e = .returned (.int .i64 (putE es s)) ∧ UpdO o w w' B p v (putL es s n) := by
  have Hk := hide hk
  have Hg := hide hg
  clear hk hg
  by_cases he : errS false s = 0
  · have hn := few he
    cases hh : hasAt es s with
    | true =>
      have Hp := hide (put_has (n := n) he hh)
      obtain ⟨h1, h2⟩ := has_at hh
      have He := hide he
      have Hh := hide hh
      obtain ⟨q, hq⟩ : ∃ q, place es s = q := ⟨_, rfl⟩
      rw [hq] at h1 h2 Hp
      have Hq := hide hq
      have H2 := hide h2
      clear he hh h2 hq
      obtain ⟨g, cap, rfl, c1, c2, c3, c4⟩ := (unhide Hk).arr.there (by omega)
      unfold maxLen at c2
      go_enter Tryz.func96, Tryz.ntmps96
      go_wp2_with fail
      refine (subject_any s _ hs).mono ?_
      rintro e w1 ⟨rfl, hb1⟩
      rw [unhide He]
      go_wp2_with fail
      refine (place_any B p _ es s _ ((unhide Hk).below hb1) (unhide Hg) hs hn).mono ?_
      rintro e w2 ⟨rfl, hb2⟩
      rw [unhide Hh, unhide Hq]
      have k2 := ((unhide Hk).below hb1).below hb2
      have d1 := k2.cell
      have d2 := k2.arr.num h1
      have d3 := World.ownsRow.frozenAt k2.arr (q * 2 + 1)
      have K2 := hide k2
      clear k2
      go_wp2_with fail
      go_ret
      refine ⟨ret_eq (unhide Hp).1, ?_⟩
      rw [(unhide Hp).2]
      obtain ⟨u1, u2⟩ := (unhide K2).number h1 (unhide H2) n
      exact UpdO.behind (unhide Hk).lt (bstep hb1 hb2) ⟨_, u1, u2, Side.other _ (fun e => (unhide Hk).apart (by rw [e]; rfl)), fun g' hg' => .inl hg'⟩
    | false =>
      by_cases hf : 100 ≤ es.length
      · have Hp := hide (put_full (n := n) he hh hf)
        have He := hide he
        have Hh := hide hh
        clear he hh
        obtain ⟨a, cap, rfl, c1, c2, c3⟩ := (unhide Hk).arr.shape
        clear c3 c2
        go_enter Tryz.func96, Tryz.ntmps96
        go_wp2_with fail
        refine (subject_any s _ hs).mono ?_
        rintro e w1 ⟨rfl, hb1⟩
        rw [unhide He]
        go_wp2_with fail
        refine (place_any B p _ es s _ ((unhide Hk).below hb1) (unhide Hg) hs hn).mono ?_
        rintro e w2 ⟨rfl, hb2⟩
        rw [unhide Hh]
        have d1 := (((unhide Hk).below hb1).below hb2).cell
        go_wp2_with fail
        go_ret
        refine ⟨ret_eq (unhide Hp).1, ?_⟩
        rw [(unhide Hp).2]
        exact UpdO.same (unhide Hk) (bstep hb1 hb2)
      · have Hp := hide (put_new (n := n) he hh hf)
        have He := hide he
        have Hh := hide hh
        obtain ⟨q, hq⟩ : ∃ q, place es s = q := ⟨_, rfl⟩
        have hql : q ≤ es.length := by rw [← hq]; exact place_le _ _
        rw [hq] at Hp
        have Hq := hide hq
        clear he hh hq
        obtain ⟨a, cap, rfl, c1, c2, c3⟩ := (unhide Hk).arr.shape
        clear c3 c2
        go_enter Tryz.func96, Tryz.ntmps96
        go_wp2_with fail
        refine (subject_any s _ hs).mono ?_
        rintro e w1 ⟨rfl, hb1⟩
        rw [unhide He]
        go_wp2_with fail
        refine (place_any B p _ es s _ ((unhide Hk).below hb1) (unhide Hg) hs hn).mono ?_
        rintro e w2 ⟨rfl, hb2⟩
        rw [unhide Hh, unhide Hq]
        have k2 := ((unhide Hk).below hb1).below hb2
        have d1 := k2.cell
        have K2 := hide k2
        clear k2
        have hB2 : B ≤ w2.heap.size := by have := hb1.size; have := hb2.size; omega
        have PI : Hid (∀ w3, Below w2.heap.size w2 w3 → Calls Tryz.prog 127 #[.slice a es.length cap, .int .i64 q, .slice (some ⟨w3.heap.size, 0, none⟩) 1 1] (w3.alloc (.cells #[.string s, .int .i64 n] 130)) fun e w4 => ∃ a' m' c', e = .returned (.slice a' m' c') ∧ w4.cell? ⟨p, o, none⟩ = some (.slice a es.length cap) ∧ w4.frozen? ⟨p, o, none⟩ = false ∧ Hid (UpdO o w2 (w4.setCell ⟨p, o, none⟩ (.slice a' m' c')) B p (.slice a es.length cap) (insL es q (s, n)))) := hide (fun w3 b3 => by
          have k3 := (unhide K2).below b3
          have b4 : Below w3.heap.size w3 (w3.alloc (.cells #[.string s, .int .i64 n] 130)) := (Below.refl _ _).alloc (Nat.le_refl _) _
          have k4 := k3.below b4
          refine (insert_any B _ es q (s, n) w3.heap.size _ k4.arr hql (by omega) (heap_alloc_new w3 _) (fun e => by have := (k3.arr.lt _ e).2; omega) (by have := b3.size; simp; omega)).mono ?_
          rintro e w4 ⟨v', rfl, i1, i2, i3⟩
          obtain ⟨a', cap', rfl, _⟩ := i1.shape
          refine ⟨a', _, cap', rfl, ?_, ?_, hide (UpdO.behind (unhide K2).lt (bstep b3 b4) (UpdO.store k4 i2 i1 i3))⟩
          · rw [i2.cell (p := ⟨p, o, none⟩) k4.lt k4.apart]; exact k4.cell
          · rw [i2.frozen (p := ⟨p, o, none⟩) k4.lt k4.apart]; exact k4.free)
        have PC : Hid (∀ X, Calls Tryz.prog 128 #[.agg #[.string s, .int .i64 n]] X fun e w' => e = .returned (.agg #[.string s, .int .i64 n]) ∧ Below X.heap.size X w') := hide (fun X => copyE_any s n X hs)
        have hpl := (unhide K2).lt
        go_wp2_with fail
        go_region_with (first
          | (go_at_call 128; refine (unhide PC _).mono ?_; rintro e w3 ⟨rfl, b3⟩; have d2 := (b3.cell (p := ⟨p, o, none⟩) hpl).trans d1; have hp3 := Nat.lt_of_lt_of_le hpl b3.size; have B3 := hide (((Below.refl w2.heap.size w2).drew).trans b3))
          | (go_at_call 127; refine (unhide PI w3 (unhide B3)).mono ?_; rintro e w4 ⟨a', m', c', rfl, d4, d5, HU⟩))
        all_goals go_wp2_with fail
        all_goals go_ret
        all_goals refine ⟨ret_eq (unhide Hp).1, ?_⟩
        all_goals rw [(unhide Hp).2]
        all_goals exact UpdO.behind (unhide Hk).lt (bstep hb1 hb2) (unhide HU)
  · have Hp := hide (put_bad (es := es) (n := n) he)
    go_enter Tryz.func96, Tryz.ntmps96
    go_wp2_with fail
    refine (subject_any s _ hs).mono ?_
    rintro e w1 ⟨rfl, hb1⟩
    go_wp2_with fail
    go_ret
    refine ⟨ret_eq (unhide Hp).1, ?_⟩
    rw [(unhide Hp).2]
    exact UpdO.same (unhide Hk) hb1

theorem look_hit {es : List Ent} {s : ByteArray} (h : seeE es s = 0) : errS false s = 0 ∧ hasAt es s = true := by
  unfold seeE at h
  split at h
  · rename_i he
    refine ⟨he, ?_⟩
    split at h
    · assumption
    · omega
  · rename_i he
    exact absurd h he
theorem drop_miss {es : List Ent} {s : ByteArray} (h : ¬ seeE es s = 0) : dropL es s = es := by
  unfold dropL
  unfold seeE at h
  split
  · rename_i he
    rw [if_pos he] at h
    split
    · rename_i hh
      rw [if_pos hh] at h
      exact absurd rfl h
    · rfl
  · rfl
set_option maxHeartbeats 1000000 in
theorem dropO_any {o : Nat} (B p : Nat) (v : Value) (es : List Ent) (s : ByteArray) (w : World) (hk : KeepsO o w B p v es) (hg : Good es) (hs : s.size ≤ 140737488355328) :
    Calls Tryz.prog 130 #[.pointer (some ⟨p, o, none⟩), .string s] w fun e w' => e = .returned (.int .i64 (seeE es s)) ∧ UpdO o w w' B p v (dropL es s) := by
  have Hk := hide hk
  have Hg := hide hg
  clear hk hg
  by_cases h0 : seeE es s = 0
  · obtain ⟨he, hh⟩ := look_hit h0
    obtain ⟨h1, h2⟩ := has_at hh
    have hl : lookI es s = (place es s : Int) := by unfold lookI; rw [if_pos he, if_pos hh]
    have hd : dropL es s = delL es (place es s) := by unfold dropL; rw [if_pos he, if_pos hh]
    have h100 := (unhide Hg).2.1
    have Hl := hide hl
    have Hd := hide hd
    have H0 := hide h0
    clear hd hl h0 hh h2 he
    obtain ⟨q, hq⟩ : ∃ q, place es s = q := ⟨_, rfl⟩
    rw [hq] at h1 Hl Hd
    clear hq
    obtain ⟨g, cap, rfl, c1, c2, c3, c4⟩ := (unhide Hk).arr.there (by omega)
    unfold maxLen at c2
    go_enter Tryz.func130, Tryz.ntmps130
    go_wp2_with fail
    refine (lookup_any B p _ es s _ (unhide Hk) (unhide Hg) hs).mono ?_
    rintro e w1 ⟨rfl, hb1⟩
    rw [unhide Hl, unhide H0]
    have k1 := (unhide Hk).below hb1
    have d1 := k1.cell
    have K1 := hide k1
    clear k1
    go_wp2_with fail
    refine (delete_any B _ es q _ (unhide K1).arr h1 h100).mono ?_
    rintro e w4 ⟨v', rfl, i1, i2, i3⟩
    obtain ⟨a', cap', rfl, _⟩ := i1.shape
    have d4 : w4.cell? ⟨p, o, none⟩ = some (.slice (some ⟨g, 0, none⟩) es.length cap) := by rw [i2.cell (p := ⟨p, o, none⟩) (unhide K1).lt (unhide K1).apart]; exact (unhide K1).cell
    have d5 : w4.frozen? ⟨p, o, none⟩ = false := by rw [i2.frozen (p := ⟨p, o, none⟩) (unhide K1).lt (unhide K1).apart]; exact (unhide K1).free
    have HU := hide (UpdO.store (unhide K1) i2 i1 i3)
    clear i1 i2 i3 d1
    go_wp2_with fail
    go_ret
    refine ⟨ret_eq (unhide H0), ?_⟩
    rw [unhide Hd]
    exact UpdO.behind (unhide Hk).lt hb1 (unhide HU)
  · have Hd := hide (drop_miss h0)
    go_enter Tryz.func130, Tryz.ntmps130
    go_wp2_with fail
    refine (lookup_any B p v es s _ (unhide Hk) (unhide Hg) hs).mono ?_
    rintro e w1 ⟨rfl, hb1⟩
    go_wp2_with fail
    go_ret
    refine ⟨rfl, ?_⟩
    rw [unhide Hd]
    exact UpdO.same (unhide Hk) hb1
theorem put_any (B p : Nat) (v : Value) (es : List Ent) (s : ByteArray) (n : Int) (w : World) (hk : Keeps w B p v es) (hg : Good es) (hs : s.size ≤ 140737488355328) (hB : B ≤ w.heap.size) :
    Calls Tryz.prog 96 #[.pointer (some ⟨p, 0, none⟩), .string s, .int .i64 n] w fun e w' => e = .returned (.int .i64 (putE es s)) ∧ Upd w w' B p v (putL es s n) :=
  (putO_any B p v es s n w hk hg hs hB).mono (fun _ _ h => ⟨h.1, h.2.upd⟩)
theorem drop_any (B p : Nat) (v : Value) (es : List Ent) (s : ByteArray) (w : World) (hk : Keeps w B p v es) (hg : Good es) (hs : s.size ≤ 140737488355328) :
    Calls Tryz.prog 130 #[.pointer (some ⟨p, 0, none⟩), .string s] w fun e w' => e = .returned (.int .i64 (seeE es s)) ∧ Upd w w' B p v (dropL es s) :=
  (dropO_any B p v es s w hk hg hs).mono (fun _ _ h => ⟨h.1, h.2.upd⟩)
end Go.Proofs.YtmccpkpeimejhahGreatDoor

namespace Go.Proofs.YtmccpkpeimejhahGreatDoor.Dk
open Go.RowKit

theorem chgE {A : Nat → Prop} {w w' : World} (h : Chg A w w') : Go.Proofs.YtmccpkpeimejhahGreatDoor.Chg A w w' := ⟨h.os, h.tape, h.output, h.size, h.block⟩
theorem chgD {A : Nat → Prop} {w w' : World} (h : Go.Proofs.YtmccpkpeimejhahGreatDoor.Chg A w w') : Chg A w w' := ⟨h.os, h.tape, h.output, h.size, h.block⟩
/-- a store at block q: the row v of messages, the row u of counts -/
structure Sho (w : World) (B q : Nat) (v u : Value) (l : List Rc) (es : List Ent) (last : Int) : Prop where
  c0 : w.cell? ⟨q, 0, none⟩ = some v
  c1 : w.cell? ⟨q, 1, none⟩ = some u
  c2 : w.cell? ⟨q, 2, none⟩ = some (.int .i64 last)
  free : ∀ j, w.frozen? ⟨q, j, none⟩ = false
  base : B ≤ q
  lt : q < w.heap.size
  msgs : ArrR w B v l
  cnts : Arr w B u es
  av : v.ownBlock ≠ some q
  au : u.ownBlock ≠ some q
  apart : ∀ g, v.ownBlock = some g → u.ownBlock ≠ some g
def feet (q : Nat) (v u : Value) (k : Nat) : Prop := k = q ∨ v.ownBlock = some k ∨ u.ownBlock = some k
section
variable {w w' : World} {B q : Nat} {v u v' u' : Value} {l l' : List Rc} {es es' : List Ent} {last last' : Int}
theorem Sho.keeps (h : Sho w B q v u l es last) : KeepsO 1 w B q u es := ⟨h.c1, h.free 1, h.base, h.lt, h.cnts, h.au⟩
theorem Sho.own (h : Sho w B q v u l es last) : ∀ k, feet q v u k → B ≤ k ∧ k < w.heap.size := by
  rintro k (rfl | z | z)
  · exact ⟨h.base, h.lt⟩
  · exact h.msgs.lt k z
  · exact h.cnts.lt k z
theorem Sho.chg {A : Nat → Prop} (h : Sho w B q v u l es last) (hc : Chg A w w') (hn : ∀ k, feet q v u k → ¬ A k) : Sho w' B q v u l es last := by
  have hq := hn q (.inl rfl)
  refine ⟨by rw [hc.cell (p := ⟨q, 0, none⟩) h.lt hq]; exact h.c0, by rw [hc.cell (p := ⟨q, 1, none⟩) h.lt hq]; exact h.c1, by rw [hc.cell (p := ⟨q, 2, none⟩) h.lt hq]; exact h.c2, fun j => by rw [hc.frozen (p := ⟨q, j, none⟩) h.lt hq]; exact h.free j, h.base, Nat.lt_of_lt_of_le h.lt hc.size, h.msgs.chg hc (fun g hg => hn g (.inr (.inl hg))), h.cnts.chg (chgE hc) (fun g hg => hn g (.inr (.inr hg))), h.av, h.au, h.apart⟩
theorem Sho.below (h : Sho w B q v u l es last) (hb : Below w.heap.size w w') : Sho w' B q v u l es last := h.chg (A := fun _ => False) (Chg.of_below hb) (fun _ _ z => z)
/-- the counts are changed by a call of the index -/
theorem Sho.upd (h : Sho w B q v u l es last) (hu : UpdO 1 w w' B q u es') : ∃ u', Sho w' B q v u' l es' last ∧ Chg (foot q u) w w' ∧ ∀ g, u'.ownBlock = some g → u.ownBlock = some g ∨ w.heap.size ≤ g := by
  obtain ⟨u', k, hc, hs, ho⟩ := hu
  have hc := chgD hc
  have hf : ∀ g, v.ownBlock = some g → ¬ foot q u g := fun g hg z => by
    rcases z with rfl | z
    · exact h.av hg
    · exact h.apart g hg z
  refine ⟨u', ⟨by rw [hs.cell 0 (by decide)]; exact h.c0, k.cell, by rw [hs.cell 2 (by decide)]; exact h.c2, fun j => by rw [hs.free j]; exact h.free j, h.base, k.lt, h.msgs.chg hc hf, k.arr, h.av, k.apart, fun g hg z => ?_⟩, hc, ho⟩
  rcases ho g z with y | y
  · exact h.apart g hg y
  · have := (h.msgs.lt g hg).2; omega
/-- the new row of messages is stored -/
theorem Sho.store (h : Sho w B q v u l es last) (hc : Chg (fun k => v.ownBlock = some k) w w') (ha : ArrR w' B v' l') (hv : ∀ g, v'.ownBlock = some g → v.ownBlock = some g ∨ w.heap.size ≤ g) :
    Sho (w'.setCell ⟨q, 0, none⟩ v') B q v' u l' es last ∧ Chg (fun k => k = q ∨ v.ownBlock = some k) w (w'.setCell ⟨q, 0, none⟩ v') := by
  have hne : v'.ownBlock ≠ some q := fun e => by
    rcases hv q e with z | z
    · exact h.av z
    · have := h.lt; omega
  have c0 : w'.cell? ⟨q, 0, none⟩ = some v := by rw [hc.cell (p := ⟨q, 0, none⟩) h.lt h.av]; exact h.c0
  have c1 : w'.cell? ⟨q, 1, none⟩ = some u := by rw [hc.cell (p := ⟨q, 1, none⟩) h.lt h.av]; exact h.c1
  have c2 : w'.cell? ⟨q, 2, none⟩ = some (.int .i64 last) := by rw [hc.cell (p := ⟨q, 2, none⟩) h.lt h.av]; exact h.c2
  have cs : Chg (fun k => k = q) w' (w'.setCell ⟨q, 0, none⟩ v') := Chg.setCell (A := fun k => k = q) (p := ⟨q, 0, none⟩) (Chg.refl _ _) (.inl rfl) _
  refine ⟨⟨World.cell?_setCell_same _ _ _ c0, ?_, ?_, fun j => ?_, h.base, ?_, ?_, ?_, hne, h.au, fun g hg z => ?_⟩, ?_⟩
  · rw [World.cell?_setCell_other _ _ _ _ (by simp)]; exact c1
  · rw [World.cell?_setCell_other _ _ _ _ (by simp)]; exact c2
  · rw [World.frozen?_setCell, hc.frozen (p := ⟨q, j, none⟩) h.lt h.av]; exact h.free j
  · have := hc.size; have := h.lt; simp [World.setCell]; omega
  · exact ha.chg cs (fun g hg e => hne (by rw [← e]; exact hg))
  · exact (h.cnts.chg (chgE hc) (fun g hg z => h.apart g z hg)).chg (chgE cs) (fun g hg e => h.au (by rw [← e]; exact hg))
  · rcases hv g hg with y | y
    · exact h.apart g y z
    · have := (h.cnts.lt g z).2; omega
  · exact (hc.mono (fun k _ z => .inr z)).setCell (.inl (.inl rfl)) _
/-- the last number is stored -/
theorem Sho.number (h : Sho w B q v u l es last) (n : Int) : Sho (w.setCell ⟨q, 2, none⟩ (.int .i64 n)) B q v u l es n ∧ Chg (fun k => k = q) w (w.setCell ⟨q, 2, none⟩ (.int .i64 n)) := by
  have cs : Chg (fun k => k = q) w (w.setCell ⟨q, 2, none⟩ (.int .i64 n)) := Chg.setCell (A := fun k => k = q) (p := ⟨q, 2, none⟩) (Chg.refl _ _) (.inl rfl) _
  refine ⟨⟨?_, ?_, World.cell?_setCell_same _ _ _ h.c2, fun j => ?_, h.base, ?_, ?_, ?_, h.av, h.au, h.apart⟩, cs⟩
  · rw [World.cell?_setCell_other _ _ _ _ (by simp)]; exact h.c0
  · rw [World.cell?_setCell_other _ _ _ _ (by simp)]; exact h.c1
  · rw [World.frozen?_setCell]; exact h.free j
  · have := h.lt; simpa [World.setCell] using this
  · exact h.msgs.chg cs (fun g hg e => h.av (by rw [← e]; exact hg))
  · exact h.cnts.chg (chgE cs) (fun g hg e => h.au (by rw [← e]; exact hg))
end
/-- what a call makes of a store: only its own blocks are written -/
def Moves (w w' : World) (B q : Nat) (v u : Value) (l' : List Rc) (es' : List Ent) (last' : Int) : Prop := ∃ v' u', Sho w' B q v' u' l' es' last' ∧ Chg (feet q v u) w w' ∧ ∀ g, feet q v' u' g → feet q v u g ∨ w.heap.size ≤ g
section
variable {w w1 w' : World} {B q : Nat} {v u v1 u1 : Value} {l l1 l' : List Rc} {es es1 es' : List Ent} {last last1 last' : Int}
theorem Moves.same (h : Sho w B q v u l es last) (hb : Below w.heap.size w w') : Moves w w' B q v u l es last := ⟨v, u, h.below hb, Chg.of_below hb, fun _ hg => .inl hg⟩
theorem Moves.seq (c1 : Chg (feet q v u) w w1) (o1 : ∀ g, feet q v1 u1 g → feet q v u g ∨ w.heap.size ≤ g) (m : Moves w1 w' B q v1 u1 l' es' last') : Moves w w' B q v u l' es' last' := by
  obtain ⟨v2, u2, s2, c2, o2⟩ := m
  refine ⟨v2, u2, s2, ?_, fun g hg => ?_⟩
  · refine ⟨c2.os.trans c1.os, c2.tape.trans c1.tape, c2.output.trans c1.output, Nat.le_trans c1.size c2.size, fun k hk hn => ?_⟩
    rw [c2.block k (by have := c1.size; omega) (fun z => ?_)]
    · exact c1.block k hk hn
    · rcases o1 k z with y | y
      · exact hn y
      · omega
  · rcases o2 g hg with y | y
    · exact o1 g y
    · right; have := c1.size; omega
theorem Moves.behind (hb : Below w.heap.size w w1) (a : Moves w1 w' B q v u l' es' last') : Moves w w' B q v u l' es' last' := by
  obtain ⟨v', u', s, c, o⟩ := a
  refine ⟨v', u', s, (Chg.of_below hb).trans c, fun g hg => ?_⟩
  rcases o g hg with y | y
  · exact .inl y
  · right; have := hb.size; omega
theorem Moves.upd (h : Sho w B q v u l es last) (hu : UpdO 1 w w' B q u es') : Moves w w' B q v u l es' last := by
  obtain ⟨u', s, c, o⟩ := h.upd hu
  refine ⟨v, u', s, c.mono (fun k _ z => ?_), fun g hg => ?_⟩
  · rcases z with z | z
    · exact .inl z
    · exact .inr (.inr z)
  · rcases hg with z | z | z
    · exact .inl (.inl z)
    · exact .inl (.inr (.inl z))
    · rcases o g z with y | y
      · exact .inl (.inr (.inr y))
      · exact .inr y
theorem Moves.store {v' : Value} (h : Sho w B q v u l es last) (hc : Chg (fun k => v.ownBlock = some k) w w') (ha : ArrR w' B v' l') (hv : ∀ g, v'.ownBlock = some g → v.ownBlock = some g ∨ w.heap.size ≤ g) : Moves w (w'.setCell ⟨q, 0, none⟩ v') B q v u l' es last := by
  obtain ⟨s, c⟩ := h.store hc ha hv
  refine ⟨v', u, s, c.mono (fun k _ z => ?_), fun g hg => ?_⟩
  · rcases z with z | z
    · exact .inl z
    · exact .inr (.inl z)
  · rcases hg with z | z | z
    · exact .inl (.inl z)
    · rcases hv g z with y | y
      · exact .inl (.inr (.inl y))
      · exact .inr y
    · exact .inl (.inr (.inr z))
theorem Moves.number (h : Sho w B q v u l es last) (n : Int) : Moves w (w.setCell ⟨q, 2, none⟩ (.int .i64 n)) B q v u l es n := by
  obtain ⟨s, c⟩ := h.number n
  exact ⟨v, u, s, c.mono (fun k _ z => .inl z), fun g hg => .inl hg⟩
end
/-- the counts alone are changed -/
def Counts (w w' : World) (B q : Nat) (v u : Value) (l : List Rc) (es' : List Ent) (last : Int) : Prop := ∃ u', Sho w' B q v u' l es' last ∧ Chg (foot q u) w w' ∧ ∀ g, u'.ownBlock = some g → u.ownBlock = some g ∨ w.heap.size ≤ g
section
variable {w w1 w' : World} {B q : Nat} {v u : Value} {l : List Rc} {es es' : List Ent} {last : Int}
theorem Counts.behind (hb : Below w.heap.size w w1) (a : Counts w1 w' B q v u l es' last) : Counts w w' B q v u l es' last := by
  obtain ⟨u', s, c, o⟩ := a
  refine ⟨u', s, (Chg.of_below hb).trans c, fun g hg => ?_⟩
  rcases o g hg with y | y
  · exact .inl y
  · right; have := hb.size; omega
theorem Counts.feet {u' : Value} (c : Chg (foot q u) w w') (o : ∀ g, u'.ownBlock = some g → u.ownBlock = some g ∨ w.heap.size ≤ g) : Chg (feet q v u) w w' ∧ ∀ g, feet q v u' g → feet q v u g ∨ w.heap.size ≤ g := by
  refine ⟨c.mono (fun k _ z => ?_), fun g hg => ?_⟩
  · rcases z with z | z
    · exact .inl z
    · exact .inr (.inr z)
  · rcases hg with z | z | z
    · exact .inl (.inl z)
    · exact .inl (.inr (.inl z))
    · rcases o g z with y | y
      · exact .inl (.inr (.inr y))
      · exact .inr y
theorem Counts.moves (a : Counts w w' B q v u l es' last) : Moves w w' B q v u l es' last := by
  obtain ⟨u', s, c, o⟩ := a
  obtain ⟨h1, h2⟩ := Counts.feet (v := v) c o
  exact ⟨v, u', s, h1, h2⟩
end
/-- the program's store shows s -/
def SHas (w : World) (B q : Nat) (F : Nat → Prop) (s : Sto) : Prop := ∃ v u es, Sho w B q v u s.l es s.last ∧ Cnt s.l es ∧ F = feet q v u
theorem SHas.own {w : World} {B q : Nat} {F : Nat → Prop} {s : Sto} (h : SHas w B q F s) : ∀ k, F k → B ≤ k ∧ k < w.heap.size := by
  obtain ⟨v, u, es, h1, _, rfl⟩ := h
  exact h1.own
theorem SHas.chg {w w' : World} {B q : Nat} {F A : Nat → Prop} {s : Sto} (h : SHas w B q F s) (hc : Chg A w w') (hn : ∀ k, F k → ¬ A k) : SHas w' B q F s := by
  obtain ⟨v, u, es, h1, h2, rfl⟩ := h
  exact ⟨v, u, es, h1.chg hc hn, h2, rfl⟩
theorem SHas.did {w w' : World} {B q : Nat} {v u : Value} {s : Sto} {es : List Ent} (h : Moves w w' B q v u s.l es s.last) (hc : Cnt s.l es) : DidS SHas w w' B q (feet q v u) s := by
  obtain ⟨v', u', s', c, o⟩ := h
  exact ⟨_, ⟨v', u', es, s', hc, rfl⟩, c, o⟩
end Go.Proofs.YtmccpkpeimejhahGreatDoor.Dk
