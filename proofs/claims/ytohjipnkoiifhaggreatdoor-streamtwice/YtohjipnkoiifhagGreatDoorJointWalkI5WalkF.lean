/-
  Contracts of slices.Delete (one entry) at rows of entries that are the program's own, of index.Put and index.Drop.
  Contract of index.Find: the entries that the filter takes, in the order of the index.
-/
import Derived.Test.YtohjipnkoiifhagGreatDoorWalkI4
import Derived.Test.YtohjipnkoiifhagGreatDoorWalkCl
import Derived.Deep.RegionLaw
import Derived.Test.YtohjipnkoiifhagGreatDoorJointWalkSplitWalk2Plain2Plain5PlainKWalk5aWalk5PlainI
import Derived.Test.YtohjipnkoiifhagGreatDoorJointWalkI3RowF
namespace Go.Proofs.YtohjipnkoiifhagGreatDoor
open Go.RowKit Go.Deep

theorem own_shorter {B g cap n k : Nat} {e : TypeId} {size : Nat} {w : World} {xs : List Value} (h : w.ownsRow B e size (.slice (some ⟨g, 0, none⟩) n cap) n xs) (hk : k ≤ n) : w.ownsRow B e size (.slice (some ⟨g, 0, none⟩) k cap) k (xs.take (k * size)) := by
  have hks : k * size ≤ n * size := Nat.mul_le_mul_right _ hk
  refine ⟨by rw [List.length_take, h.1]; omega, ?_⟩
  rcases h.2 with ⟨q, _⟩ | ⟨g', cap', cur, q, h2, h3, h4, h5, h6, h7⟩
  · cases q
  · simp only [Value.slice.injEq, Option.some.injEq, Addr.mk.injEq, and_true] at q
    obtain ⟨rfl, _, rfl⟩ := q
    exact .inr ⟨g, cap, cur, rfl, h2, h3, by omega, h5, h6, by rw [← h7, List.take_take, Nat.min_eq_left hks]⟩
def zs : List Value := [.string ByteArray.empty, .int .i64 0]
theorem run_clear_two (w : World) (ty : TypeId) (b o c : Nat)
    (hc : ∀ j, j < 2 → (w.cell? ⟨b, o + j, none⟩).isSome = true) (hf : ∀ j, j < 2 → w.frozen? ⟨b, o + j, none⟩ = false) :
    (Builtin.clear_ #[55] ty #[.slice (some ⟨b, o, none⟩) 1 c]).run Tryz.prog w = .ok (.tuple #[]) (w.setCells b o zs) := by
  have hzc : (Builtin.zeroCells (Value.agg #[.string ⟨#[]⟩, .int .i64 0]).cells 1).toList = zs := by kernel_rfl
  have hst := run_storeCells_cells (P := Tryz.prog) b o zs 0 w (by simpa [zs] using hc) (by simpa [zs] using hf) (by intro v hv'; simp only [zs, List.mem_cons, List.not_mem_nil, or_false] at hv'; rcases hv' with q | q <;> (subst q; rfl))
  simp only [Nat.add_zero] at hst
  simp [Builtin.clear_, run_underlying Tryz.underlying55, Tryz.zeroValue59, hzc, hst]

set_option maxHeartbeats 4000000 in
set_option maxRecDepth 100000 in
theorem delete_in (B g c i m : Nat) (es : List Ent) (w : World) (hn : es.length = i + 1 + m) (ha : Arr w B (.slice (some ⟨g, 0, none⟩) (i + 1 + m) c) es) (h100 : es.length ≤ 100) (hc : i + 1 + m ≤ c) :
    Calls Tryz.prog 148 #[.slice (some ⟨g, 0, none⟩) (i + 1 + m) c, .int .i64 i, .int .i64 (i + 1)] w fun e w' =>
      e = .returned (.slice (some ⟨g, 0, none⟩) (i + m) c) ∧ w' = (w.drew.setCells g (0 + i * 2) ((cel es).drop ((i + 1) * 2))).setCells g ((i + m) * 2) zs := by
  obtain ⟨i0, hi0, hz0, hz1, hz2⟩ := info_parts infoE
  obtain ⟨news, hnews⟩ : ∃ news, news = (cel es).drop ((i + 1) * 2) := ⟨_, rfl⟩
  have hlen : news.length = m * 2 := by rw [hnews, List.length_drop, cel_length, hn]; omega
  obtain ⟨cur, hg, hcs⟩ : ∃ cur, w.heap[g]? = some (.cells cur 59 (0, 0)) ∧ cur.size = c * 2 := by
    rcases ha.2 with ⟨q, _⟩ | ⟨g', cap', cur, q, h2, h3, h4, h5, h6, h7⟩
    · cases q
    · simp only [Value.slice.injEq, Option.some.injEq, Addr.mk.injEq, and_true] at q
      obtain ⟨rfl, _, rfl⟩ := q
      exact ⟨cur, h3, h6⟩
  have hsp : ∀ j, j < c * 2 → (w.cell? ⟨g, j, none⟩).isSome = true := by
    intro j hj
    rw [cell_of_row w g j _ _ _ hg, Array.getElem?_eq_getElem (by omega)]
    rfl
  have hfz : ∀ j, w.frozen? ⟨g, j, none⟩ = false := fun j => frozen_of_row w g j _ _ hg
  have hcell : ∀ j u, (cel es)[j]? = some u → w.cell? ⟨g, j, none⟩ = some u := by
    intro j u hj
    rw [← hn] at ha
    exact ha.cell j u hj
  obtain ⟨A, hA, hsrc⟩ : ∃ A : Addr, (if c = i + 1 then some (⟨g, 0, none⟩ : Addr) else some ⟨g, (i + 1) * 2, none⟩) = some A ∧ Hid (∀ t u, news[t]? = some u → w.drew.cell? (A.add t) = some u) := by
    by_cases h : c = i + 1
    · refine ⟨⟨g, 0, none⟩, by simp [h], fun t u hu => ?_⟩
      have h0 : news.length = 0 := by rw [hlen]; omega
      rw [List.length_eq_zero_iff.1 h0] at hu
      simp at hu
    · refine ⟨⟨g, (i + 1) * 2, none⟩, by simp [h], fun t u hu => ?_⟩
      rw [Addr.add_lit]
      refine hcell _ u ?_
      rw [hnews, List.getElem?_drop] at hu
      exact hu
  have s1 := hide hlen
  have s2 : Hid (∀ u ∈ news, u.oneCell' = true) := by
    intro u hu
    rw [hnews] at hu
    exact cel_one es u (List.mem_of_mem_drop hu)
  have s3 : Hid (∀ t, t < news.length → (w.drew.cell? ⟨g, 0 + i * 2 + t, none⟩).isSome = true ∧ w.drew.frozen? ⟨g, 0 + i * 2 + t, none⟩ = false) := by
    intro t ht
    rw [hlen] at ht
    exact ⟨hsp _ (by omega), hfz _⟩
  obtain ⟨W1, hW1⟩ : ∃ W1, W1 = w.drew.setCells g (0 + i * 2) news := ⟨_, rfl⟩
  have hcl : ∀ ty c', (Builtin.clear_ #[55] ty #[.slice (some ⟨g, (i + m) * 2, none⟩) 1 c']).run Tryz.prog W1 = .ok (.tuple #[]) (W1.setCells g ((i + m) * 2) zs) := fun ty c' =>
    run_clear_two W1 ty g ((i + m) * 2) c' (fun j hj => by
        rw [hW1]
        exact isSome_setCells g news (0 + i * 2) w.drew (fun t ht => hsp _ (by rw [hlen] at ht; omega)) _ (hsp _ (by omega)))
      (fun j hj => by rw [hW1, World.frozen?_setCells]; exact hfz _)
  have hW : Hid (W1 = w.drew.setCells g (0 + i * 2) news) := hW1
  rw [← hnews]
  clear hW1 hsp hfz hcell hg ha hnews hlen hz0 hz2
  have hic : i ≤ c := by omega
  have hjc : i + 1 ≤ c := by omega
  have b1 : (0 : Int) ≤ (i : Int) + 1 := by omega
  have b2 : (i : Int) + 1 ≤ (i : Int) + 1 + (m : Int) := by omega
  have q1 : ¬ (c = i + m) := by omega
  have q2 : i + 1 + m - (i + m) = 1 := by omega
  go_enter Tryz.func148, Tryz.ntmps148
  go_wp2_with fail
  go_region_law (refine step_append_room rfl (.tmp 22) (.tmp 25) 55 rfl 59 i0 2 Tryz.underlying55 hi0 hz1 g 0 i c (by simp [Act.eval, Act.put]) A m (c - (i + 1)) news (by simp [Act.eval, Act.put]) s1.out hsrc.out s2.out (by omega) s3.out ?_; rw [← hW.out])
  go_wp2
  go_ret
  exact ⟨rfl, by rw [hW.out]⟩

theorem list_del (es : List Ent) (i m : Nat) (hn : es.length = i + 1 + m) :
    ((((cel es).take (i * 2) ++ (cel es).drop ((i + 1) * 2) ++ (cel es).drop (i * 2 + ((cel es).drop ((i + 1) * 2)).length)).take ((i + m) * 2) ++ zs ++ ((cel es).take (i * 2) ++ (cel es).drop ((i + 1) * 2) ++ (cel es).drop (i * 2 + ((cel es).drop ((i + 1) * 2)).length)).drop ((i + m) * 2 + zs.length)).take ((i + m) * 2)) = cel (delL es i) := by
  have hcl : (cel es).length = (i + 1 + m) * 2 := by rw [cel_length, hn]
  have h1 : ((cel es).take (i * 2) ++ (cel es).drop ((i + 1) * 2)).length = (i + m) * 2 := by rw [List.length_append, List.length_take, List.length_drop, hcl]; omega
  have h2 : ((cel es).take (i * 2) ++ (cel es).drop ((i + 1) * 2) ++ (cel es).drop (i * 2 + ((cel es).drop ((i + 1) * 2)).length)).take ((i + m) * 2) = (cel es).take (i * 2) ++ (cel es).drop ((i + 1) * 2) := by
    rw [List.take_append_of_le_length (by omega), List.take_of_length_le (by omega)]
  rw [h2, List.append_assoc ((cel es).take (i * 2) ++ (cel es).drop ((i + 1) * 2)), List.take_append_of_le_length (by omega), List.take_of_length_le (by omega)]
  unfold delL
  rw [cel_append, cel_take, cel_drop]
theorem delete_any (B : Nat) (v : Value) (es : List Ent) (i : Nat) (w : World) (ha : Arr w B v es) (hi : i < es.length) (h100 : es.length ≤ 100) :
    Calls Tryz.prog 148 #[v, .int .i64 i, .int .i64 (i + 1)] w fun e w' => ∃ v', e = .returned v' ∧ Arr w' B v' (delL es i) ∧ Chg (fun k => v.ownBlock = some k) w w' ∧ ∀ g, v'.ownBlock = some g → v.ownBlock = some g ∨ w.heap.size ≤ g := by
  obtain ⟨g, cap, rfl, c1, c2, c3, c4⟩ := ha.there (by omega)
  obtain ⟨m, hn⟩ : ∃ m, es.length = i + 1 + m := ⟨es.length - (i + 1), by omega⟩
  rw [hn] at ha c1 ⊢
  refine (delete_in B g cap i m es w hn ha h100 c1).mono ?_
  rintro e w' ⟨rfl, rfl⟩
  refine ⟨_, rfl, ?_, ?_, fun g' hg' => .inl hg'⟩
  · have o0 : w.drew.ownsRow B 59 2 (.slice (some ⟨g, 0, none⟩) (i + 1 + m) cap) (i + 1 + m) (cel es) := by
      unfold Arr at ha
      rw [hn] at ha
      exact ha
    have hcl : (cel es).length = (i + 1 + m) * 2 := by rw [cel_length, hn]
    have hdl : ((cel es).drop ((i + 1) * 2)).length = m * 2 := by rw [List.length_drop, hcl]; omega
    have o1 := own_sets ((cel es).drop ((i + 1) * 2)) (i * 2) _ _ o0 (by rw [hcl, hdl]; omega)
    have o2 := own_sets zs ((i + m) * 2) _ _ o1 (by
      simp only [List.length_append, List.length_take, List.length_drop, hcl, show zs.length = 2 from rfl]
      omega)
    have o3 := own_shorter (k := i + m) o2 (by omega)
    rw [list_del es i m hn] at o3
    unfold Arr
    rw [delL_length hi, hn, show i + 1 + m - 1 = i + m by omega, Nat.zero_add]
    exact o3
  · have c : Chg (fun k => k = g) w w.drew := ⟨rfl, rfl, rfl, Nat.le_refl _, fun _ _ _ => rfl⟩
    exact ((c.trans (chg_sets _ _ _)).trans (chg_sets _ _ _)).mono (fun k _ hk => by rw [hk]; rfl)

/-- what a call makes of an index: the new entries; only its own blocks are written -/
def Upd (w w' : World) (B p : Nat) (v : Value) (es' : List Ent) : Prop := ∃ v', Keeps w' B p v' es' ∧ Chg (foot p v) w w' ∧ ∀ g, v'.ownBlock = some g → v.ownBlock = some g ∨ w.heap.size ≤ g
theorem Upd.same {w w' : World} {B p : Nat} {v : Value} {es : List Ent} (h : Keeps w B p v es) (hb : Below w.heap.size w w') : Upd w w' B p v es := ⟨v, h.below hb, Chg.of_below hb, fun _ hg => .inl hg⟩
theorem Upd.behind {w w1 w' : World} {B p : Nat} {v : Value} {es : List Ent} (hb : Below w.heap.size w w1) (h : Upd w1 w' B p v es) : Upd w w' B p v es := by
  obtain ⟨v', h1, h2, h3⟩ := h
  exact ⟨v', h1, (Chg.of_below hb).trans h2, fun g hg => by
    rcases h3 g hg with q | q
    · exact .inl q
    · have := hb.size; exact .inr (by omega)⟩
theorem Upd.store {w w' : World} {B p : Nat} {v v' : Value} {es es' : List Ent} (h : Keeps w B p v es) (hb : Chg (fun k => v.ownBlock = some k) w w') (ha : Arr w' B v' es') (hv : ∀ g, v'.ownBlock = some g → v.ownBlock = some g ∨ w.heap.size ≤ g) : Upd w (w'.setCell ⟨p, 0, none⟩ v') B p v es' := by
  obtain ⟨h1, h2⟩ := h.store hb ha hv
  exact ⟨v', h1, h2, hv⟩
/-- the same at cell o of a block with other cells, which stay -/
def UpdO (o : Nat) (w w' : World) (B p : Nat) (v : Value) (es' : List Ent) : Prop := ∃ v', KeepsO o w' B p v' es' ∧ Chg (foot p v) w w' ∧ Side o p w w' ∧ ∀ g, v'.ownBlock = some g → v.ownBlock = some g ∨ w.heap.size ≤ g
theorem UpdO.upd {w w' : World} {B p : Nat} {v : Value} {es : List Ent} (h : UpdO 0 w w' B p v es) : Upd w w' B p v es := by
  obtain ⟨v', h1, h2, _, h3⟩ := h
  exact ⟨v', h1, h2, h3⟩
theorem UpdO.chg {o : Nat} {w w' : World} {B p : Nat} {v : Value} {es : List Ent} (h : UpdO o w w' B p v es) : Chg (foot p v) w w' := by
  obtain ⟨_, _, h2, _⟩ := h
  exact h2
theorem UpdO.same {o : Nat} {w w' : World} {B p : Nat} {v : Value} {es : List Ent} (h : KeepsO o w B p v es) (hb : Below w.heap.size w w') : UpdO o w w' B p v es := ⟨v, h.below hb, Chg.of_below hb, Side.below hb h.lt, fun _ hg => .inl hg⟩
theorem UpdO.behind {o : Nat} {w w1 w' : World} {B p : Nat} {v : Value} {es : List Ent} (hp : p < w.heap.size) (hb : Below w.heap.size w w1) (h : UpdO o w1 w' B p v es) : UpdO o w w' B p v es := by
  obtain ⟨v', h1, h2, h4, h3⟩ := h
  exact ⟨v', h1, (Chg.of_below hb).trans h2, (Side.below hb hp).trans h4, fun g hg => by
    rcases h3 g hg with q | q
    · exact .inl q
    · have := hb.size; exact .inr (by omega)⟩
theorem UpdO.store {o : Nat} {w w' : World} {B p : Nat} {v v' : Value} {es es' : List Ent} (h : KeepsO o w B p v es) (hb : Chg (fun k => v.ownBlock = some k) w w') (ha : Arr w' B v' es') (hv : ∀ g, v'.ownBlock = some g → v.ownBlock = some g ∨ w.heap.size ≤ g) : UpdO o w (w'.setCell ⟨p, o, none⟩ v') B p v es' := by
  obtain ⟨h1, h2⟩ := h.store hb ha hv
  exact ⟨v', h1, h2, (Side.chg hb h.lt h.apart).trans (Side.set _), hv⟩

theorem put_bad {es : List Ent} {s : ByteArray} {n : Int} (h : errS false s ≠ 0) : putE es s = errS false s ∧ putL es s n = es := by
  unfold putE putL
  rw [if_neg h, if_neg h]
  exact ⟨rfl, rfl⟩
theorem put_has {es : List Ent} {s : ByteArray} {n : Int} (h : errS false s = 0) (g : hasAt es s = true) : putE es s = 0 ∧ putL es s n = es.set (place es s) (s, n) := by
  unfold putE putL
  rw [if_pos h, if_pos h, if_pos g, if_pos g]
  exact ⟨rfl, rfl⟩
theorem put_full {es : List Ent} {s : ByteArray} {n : Int} (h : errS false s = 0) (g : hasAt es s = false) (f : 100 ≤ es.length) : putE es s = 8 ∧ putL es s n = es := by
  unfold putE putL
  simp [h, g, f]
theorem put_new {es : List Ent} {s : ByteArray} {n : Int} (h : errS false s = 0) (g : hasAt es s = false) (f : ¬ 100 ≤ es.length) : putE es s = 0 ∧ putL es s n = insL es (place es s) (s, n) := by
  unfold putE putL
  simp [h, g, f]

theorem load_ent {w : World} {b : Nat} {s : ByteArray} {n : Int} (c0 : w.cell? ⟨b, 0, none⟩ = some (.string s)) (c1 : w.cell? ⟨b, 1, none⟩ = some (.int .i64 n)) :
    (loadVar 59 ⟨b, 0, none⟩).run Tryz.prog w = .ok (.agg #[.string s, .int .i64 n]) w := by
  have hl : (loadCells ⟨b, 0, none⟩ 2).run Tryz.prog w = .ok #[.string s, .int .i64 n] w :=
    run_loadCells_list (P := Tryz.prog) w ⟨b, 0, none⟩ [.string s, .int .i64 n] (fun j v hv => by
      rw [Addr.add_lit, Nat.zero_add]
      match j, hv with
      | 0, hv => rw [c0]; simpa using hv
      | 1, hv => rw [c1]; simpa using hv)
  have hz : Tryz.t59.size = 2 := by kernel_rfl
  simp [loadVar, isAgg, sizeOf]
  rw [hz, hl]
  rfl
theorem results_ent {fn : Func} {a : Tmp} {tmps : Array Value} {w : World} {b : Nat} {s : ByteArray} {n : Int} (hf : fn.results = #[.cell a 59]) (ha : tmps.getD a undef = .pointer (some ⟨b, 0, none⟩)) (c0 : w.cell? ⟨b, 0, none⟩ = some (.string s)) (c1 : w.cell? ⟨b, 1, none⟩ = some (.int .i64 n)) :
    (results fn tmps).run Tryz.prog w = .ok (.agg #[.string s, .int .i64 n]) w := by
  have ha' : tmps[a]?.getD undef = .pointer (some ⟨b, 0, none⟩) := by simpa using ha
  simp [results, hf, ha', asAddr, load_ent c0 c1]
set_option maxHeartbeats 400000 in
theorem copyE_any (s : ByteArray) (n : Int) (w : World) (hs : s.size ≤ 140737488355328) :
    Calls Tryz.prog 74 #[.agg #[.string s, .int .i64 n]] w fun e w' => e = .returned (.agg #[.string s, .int .i64 n]) ∧ Below w.heap.size w w' := by
  obtain ⟨W, hW⟩ : ∃ W, W = (w.alloc (.cells #[.string s, .int .i64 n] 59)).alloc (.cells #[.string ⟨#[]⟩, .int .i64 0] 59) := ⟨_, rfl⟩
  have hsz : W.heap.size = w.heap.size + 2 := by rw [hW]; simp
  have hb : Below w.heap.size w W := by rw [hW]; exact ((Below.refl _ _).alloc (Nat.le_refl _) _).alloc (by simp) _
  have r0 := one_row (x := (s, n)) (heap_alloc_new w (.cells #[.string s, .int .i64 n] 59))
  have hg : W.heap[w.heap.size + 1]? = some (.cells #[.string ⟨#[]⟩, .int .i64 0] 59 (0, 0)) := by
    have := heap_alloc_new (w.alloc (.cells #[.string s, .int .i64 n] 59)) (.cells #[.string ⟨#[]⟩, .int .i64 0] 59)
    rw [World.size_alloc] at this
    rw [hW]; exact this
  have r1 := one_row (x := (⟨#[]⟩, 0)) hg
  have d0 : W.cell? ⟨w.heap.size, 0, none⟩ = some (.string s) := by rw [hW, World.cell?_alloc_lt _ _ _ (by simp)]; exact r0.1 0 _ rfl
  have d1 : W.cell? ⟨w.heap.size, 1, none⟩ = some (.int .i64 n) := by rw [hW, World.cell?_alloc_lt _ _ _ (by simp)]; exact r0.1 1 _ rfl
  have e0 : W.cell? ⟨w.heap.size + 1, 0, none⟩ = some (.string ⟨#[]⟩) := r1.1 0 _ rfl
  have e1 : W.cell? ⟨w.heap.size + 1, 1, none⟩ = some (.int .i64 0) := r1.1 1 _ rfl
  have f0 : W.frozen? ⟨w.heap.size + 1, 0, none⟩ = false := r1.2.1 0
  have f1 : W.frozen? ⟨w.heap.size + 1, 1, none⟩ = false := r1.2.1 1
  have l0 : w.heap.size < W.heap.size := by omega
  have l1 : w.heap.size + 1 < W.heap.size := by omega
  have PC : Hid (∀ X, Calls Tryz.prog 58 #[.string s] X fun e w' => e = .returned (.string s) ∧ Below X.heap.size X w') := hide (fun X => clone_any s X (by omega))
  clear r0 r1 hg
  go_enter Tryz.func74, Tryz.ntmps74
  go_wp2_with fail
  rw [← hW]
  have Hb := hide hb
  clear hW hb hsz
  go_region_with (go_at_call 58; refine (unhide PC _).mono ?_; rintro e w1 ⟨rfl, b1⟩; have g1 := (b1.cell (p := ⟨w.heap.size, 1, none⟩) l0).trans d1; have h0 := (b1.cell (p := ⟨w.heap.size + 1, 0, none⟩) l1).trans e0; have h1 := (b1.cell (p := ⟨w.heap.size + 1, 1, none⟩) l1).trans e1; have k0 := (b1.frozen (p := ⟨w.heap.size + 1, 0, none⟩) l1).trans f0; have k1 := (b1.frozen (p := ⟨w.heap.size + 1, 1, none⟩) l1).trans f1)
  all_goals have HB := hide (bstep (unhide Hb).drew b1)
  all_goals clear b1 Hb g1
  all_goals go_wp2_with fail
  all_goals refine bodyPost_ret (results_ent (b := w.heap.size + 1) (s := s) (n := n) rfl rfl (by rw [World.cell?_setCell_other _ _ _ _ (by simp)]; exact World.cell?_setCell_same _ _ _ h0) (World.cell?_setCell_same _ _ _ (by rw [World.cell?_setCell_other _ _ _ _ (by simp)]; exact h1))) rfl ?_
  all_goals exact ⟨rfl, ((unhide HB).setCell (p := ⟨w.heap.size + 1, 0, none⟩) (Nat.le_succ _) _).setCell (p := ⟨w.heap.size + 1, 1, none⟩) (Nat.le_succ _) _⟩

set_option maxHeartbeats 1000000 in
theorem putO_any {o : Nat} (B p : Nat) (v : Value) (es : List Ent) (s : ByteArray) (n : Int) (w : World) (hk : KeepsO o w B p v es) (hg : Good es) (hs : s.size ≤ 140737488355328) (hB : B ≤ w.heap.size) :
    Calls Tryz.prog 93 #[.pointer (some ⟨p, o, none⟩), .string s, .int .i64 n] w fun e w' => e = .returned (.int .i64 (putE es s)) ∧ UpdO o w w' B p v (putL es s n) := by
  have Hk := hide hk
  have Hg := hide hg
  clear hk hg
  by_cases he : errS false s = 0
  · have hn := few he
    cases hh : hasAt es s with
    | true =>
      have Hp := hide (put_has (n := n) he hh)
      obtain ⟨h1, h2⟩ := has_at hh
      have He := hide he
      have Hh := hide hh
      obtain ⟨q, hq⟩ : ∃ q, place es s = q := ⟨_, rfl⟩
      rw [hq] at h1 h2 Hp
      have Hq := hide hq
      have H2 := hide h2
      clear he hh h2 hq
      obtain ⟨g, cap, rfl, c1, c2, c3, c4⟩ := (unhide Hk).arr.there (by omega)
      unfold maxLen at c2
      go_enter Tryz.func93, Tryz.ntmps93
      go_wp2_with fail
      refine (subject_any s _ hs).mono ?_
      rintro e w1 ⟨rfl, hb1⟩
      rw [unhide He]
      go_wp2_with fail
      refine (place_any B p _ es s _ ((unhide Hk).below hb1) (unhide Hg) hs hn).mono ?_
      rintro e w2 ⟨rfl, hb2⟩
      rw [unhide Hh, unhide Hq]
      have k2 := ((unhide Hk).below hb1).below hb2
      have d1 := k2.cell
      have d2 := k2.arr.num h1
      have d3 := World.ownsRow.frozenAt k2.arr (q * 2 + 1)
      have K2 := hide k2
      clear k2
      go_wp2_with fail
      go_ret
      refine ⟨ret_eq (unhide Hp).1, ?_⟩
      rw [(unhide Hp).2]
      obtain ⟨u1, u2⟩ := (unhide K2).number h1 (unhide H2) n
      exact UpdO.behind (unhide Hk).lt (bstep hb1 hb2) ⟨_, u1, u2, Side.other _ (fun e => (unhide Hk).apart (by rw [e]; rfl)), fun g' hg' => .inl hg'⟩
    | false =>
      by_cases hf : 100 ≤ es.length
      · have Hp := hide (put_full (n := n) he hh hf)
        have He := hide he
        have Hh := hide hh
        clear he hh
        obtain ⟨a, cap, rfl, c1, c2, c3⟩ := (unhide Hk).arr.shape
        clear c3 c2
        go_enter Tryz.func93, Tryz.ntmps93
        go_wp2_with fail
        refine (subject_any s _ hs).mono ?_
        rintro e w1 ⟨rfl, hb1⟩
        rw [unhide He]
        go_wp2_with fail
        refine (place_any B p _ es s _ ((unhide Hk).below hb1) (unhide Hg) hs hn).mono ?_
        rintro e w2 ⟨rfl, hb2⟩
        rw [unhide Hh]
        have d1 := (((unhide Hk).below hb1).below hb2).cell
        go_wp2_with fail
        go_ret
        refine ⟨ret_eq (unhide Hp).1, ?_⟩
        rw [(unhide Hp).2]
        exact UpdO.same (unhide Hk) (bstep hb1 hb2)
      · have Hp := hide (put_new (n := n) he hh hf)
        have He := hide he
        have Hh := hide hh
        obtain ⟨q, hq⟩ : ∃ q, place es s = q := ⟨_, rfl⟩
        have hql : q ≤ es.length := by rw [← hq]; exact place_le _ _
        rw [hq] at Hp
        have Hq := hide hq
        clear he hh hq
        obtain ⟨a, cap, rfl, c1, c2, c3⟩ := (unhide Hk).arr.shape
        clear c3 c2
        go_enter Tryz.func93, Tryz.ntmps93
        go_wp2_with fail
        refine (subject_any s _ hs).mono ?_
        rintro e w1 ⟨rfl, hb1⟩
        rw [unhide He]
        go_wp2_with fail
        refine (place_any B p _ es s _ ((unhide Hk).below hb1) (unhide Hg) hs hn).mono ?_
        rintro e w2 ⟨rfl, hb2⟩
        rw [unhide Hh, unhide Hq]
        have k2 := ((unhide Hk).below hb1).below hb2
        have d1 := k2.cell
        have K2 := hide k2
        clear k2
        have hB2 : B ≤ w2.heap.size := by have := hb1.size; have := hb2.size; omega
        have PI : Hid (∀ w3, Below w2.heap.size w2 w3 → Calls Tryz.prog 122 #[.slice a es.length cap, .int .i64 q, .slice (some ⟨w3.heap.size, 0, none⟩) 1 1] (w3.alloc (.cells #[.string s, .int .i64 n] 59)) fun e w4 => ∃ a' m' c', e = .returned (.slice a' m' c') ∧ w4.cell? ⟨p, o, none⟩ = some (.slice a es.length cap) ∧ w4.frozen? ⟨p, o, none⟩ = false ∧ Hid (UpdO o w2 (w4.setCell ⟨p, o, none⟩ (.slice a' m' c')) B p (.slice a es.length cap) (insL es q (s, n)))) := hide (fun w3 b3 => by
          have k3 := (unhide K2).below b3
          have b4 : Below w3.heap.size w3 (w3.alloc (.cells #[.string s, .int .i64 n] 59)) := (Below.refl _ _).alloc (Nat.le_refl _) _
          have k4 := k3.below b4
          refine (insert_any B _ es q (s, n) w3.heap.size _ k4.arr hql (by omega) (heap_alloc_new w3 _) (fun e => by have := (k3.arr.lt _ e).2; omega) (by have := b3.size; simp; omega)).mono ?_
          rintro e w4 ⟨v', rfl, i1, i2, i3⟩
          obtain ⟨a', cap', rfl, _⟩ := i1.shape
          refine ⟨a', _, cap', rfl, ?_, ?_, hide (UpdO.behind (unhide K2).lt (bstep b3 b4) (UpdO.store k4 i2 i1 i3))⟩
          · rw [i2.cell (p := ⟨p, o, none⟩) k4.lt k4.apart]; exact k4.cell
          · rw [i2.frozen (p := ⟨p, o, none⟩) k4.lt k4.apart]; exact k4.free)
        have PC : Hid (∀ X, Calls Tryz.prog 74 #[.agg #[.string s, .int .i64 n]] X fun e w' => e = .returned (.agg #[.string s, .int .i64 n]) ∧ Below X.heap.size X w') := hide (fun X => copyE_any s n X hs)
        have hpl := (unhide K2).lt
        go_wp2_with fail
        go_region_with (first
          | (go_at_call 74; refine (unhide PC _).mono ?_; rintro e w3 ⟨rfl, b3⟩; have d2 := (b3.cell (p := ⟨p, o, none⟩) hpl).trans d1; have hp3 := Nat.lt_of_lt_of_le hpl b3.size; have B3 := hide (((Below.refl w2.heap.size w2).drew).trans b3))
          | (go_at_call 122; refine (unhide PI w3 (unhide B3)).mono ?_; rintro e w4 ⟨a', m', c', rfl, d4, d5, HU⟩))
        all_goals go_wp2_with fail
        all_goals go_ret
        all_goals refine ⟨ret_eq (unhide Hp).1, ?_⟩
        all_goals rw [(unhide Hp).2]
        all_goals exact UpdO.behind (unhide Hk).lt (bstep hb1 hb2) (unhide HU)
  · have Hp := hide (put_bad (es := es) (n := n) he)
    go_enter Tryz.func93, Tryz.ntmps93
    go_wp2_with fail
    refine (subject_any s _ hs).mono ?_
    rintro e w1 ⟨rfl, hb1⟩
    go_wp2_with fail
    go_ret
    refine ⟨ret_eq (unhide Hp).1, ?_⟩
    rw [(unhide Hp).2]
    exact UpdO.same (unhide Hk) hb1

theorem look_hit {es : List Ent} {s : ByteArray} (h : seeE es s = 0) : errS false s = 0 ∧ hasAt es s = true := by
  unfold seeE at h
  split at h
  · rename_i he
    refine ⟨he, ?_⟩
    split at h
    · assumption
    · omega
  · rename_i he
    exact absurd h he
theorem drop_miss {es : List Ent} {s : ByteArray} (h : ¬ seeE es s = 0) : dropL es s = es := by
  unfold dropL
  unfold seeE at h
  split
  · rename_i he
    rw [if_pos he] at h
    split
    · rename_i hh
      rw [if_pos hh] at h
      exact absurd rfl h
    · rfl
  · rfl
set_option maxHeartbeats 1000000 in
theorem dropO_any {o : Nat} (B p : Nat) (v : Value) (es : List Ent) (s : ByteArray) (w : World) (hk : KeepsO o w B p v es) (hg : Good es) (hs : s.size ≤ 140737488355328) :
    Calls Tryz.prog 123 #[.pointer (some ⟨p, o, none⟩), .string s] w fun e w' => e = .returned (.int .i64 (seeE es s)) ∧ UpdO o w w' B p v (dropL es s) := by
  have Hk := hide hk
  have Hg := hide hg
  clear hk hg
  by_cases h0 : seeE es s = 0
  · obtain ⟨he, hh⟩ := look_hit h0
    obtain ⟨h1, h2⟩ := has_at hh
    have hl : lookI es s = (place es s : Int) := by unfold lookI; rw [if_pos he, if_pos hh]
    have hd : dropL es s = delL es (place es s) := by unfold dropL; rw [if_pos he, if_pos hh]
    have h100 := (unhide Hg).2.1
    have Hl := hide hl
    have Hd := hide hd
    have H0 := hide h0
    clear hd hl h0 hh h2 he
    obtain ⟨q, hq⟩ : ∃ q, place es s = q := ⟨_, rfl⟩
    rw [hq] at h1 Hl Hd
    clear hq
    obtain ⟨g, cap, rfl, c1, c2, c3, c4⟩ := (unhide Hk).arr.there (by omega)
    unfold maxLen at c2
    go_enter Tryz.func123, Tryz.ntmps123
    go_wp2_with fail
    refine (lookup_any B p _ es s _ (unhide Hk) (unhide Hg) hs).mono ?_
    rintro e w1 ⟨rfl, hb1⟩
    rw [unhide Hl, unhide H0]
    have k1 := (unhide Hk).below hb1
    have d1 := k1.cell
    have K1 := hide k1
    clear k1
    go_wp2_with fail
    refine (delete_any B _ es q _ (unhide K1).arr h1 h100).mono ?_
    rintro e w4 ⟨v', rfl, i1, i2, i3⟩
    obtain ⟨a', cap', rfl, _⟩ := i1.shape
    have d4 : w4.cell? ⟨p, o, none⟩ = some (.slice (some ⟨g, 0, none⟩) es.length cap) := by rw [i2.cell (p := ⟨p, o, none⟩) (unhide K1).lt (unhide K1).apart]; exact (unhide K1).cell
    have d5 : w4.frozen? ⟨p, o, none⟩ = false := by rw [i2.frozen (p := ⟨p, o, none⟩) (unhide K1).lt (unhide K1).apart]; exact (unhide K1).free
    have HU := hide (UpdO.store (unhide K1) i2 i1 i3)
    clear i1 i2 i3 d1
    go_wp2_with fail
    go_ret
    refine ⟨ret_eq (unhide H0), ?_⟩
    rw [unhide Hd]
    exact UpdO.behind (unhide Hk).lt hb1 (unhide HU)
  · have Hd := hide (drop_miss h0)
    go_enter Tryz.func123, Tryz.ntmps123
    go_wp2_with fail
    refine (lookup_any B p v es s _ (unhide Hk) (unhide Hg) hs).mono ?_
    rintro e w1 ⟨rfl, hb1⟩
    go_wp2_with fail
    go_ret
    refine ⟨rfl, ?_⟩
    rw [unhide Hd]
    exact UpdO.same (unhide Hk) hb1
theorem put_any (B p : Nat) (v : Value) (es : List Ent) (s : ByteArray) (n : Int) (w : World) (hk : Keeps w B p v es) (hg : Good es) (hs : s.size ≤ 140737488355328) (hB : B ≤ w.heap.size) :
    Calls Tryz.prog 93 #[.pointer (some ⟨p, 0, none⟩), .string s, .int .i64 n] w fun e w' => e = .returned (.int .i64 (putE es s)) ∧ Upd w w' B p v (putL es s n) :=
  (putO_any B p v es s n w hk hg hs hB).mono (fun _ _ h => ⟨h.1, h.2.upd⟩)
theorem drop_any (B p : Nat) (v : Value) (es : List Ent) (s : ByteArray) (w : World) (hk : Keeps w B p v es) (hg : Good es) (hs : s.size ≤ 140737488355328) :
    Calls Tryz.prog 123 #[.pointer (some ⟨p, 0, none⟩), .string s] w fun e w' => e = .returned (.int .i64 (seeE es s)) ∧ Upd w w' B p v (dropL es s) :=
  (dropO_any B p v es s w hk hg hs).mono (fun _ _ h => ⟨h.1, h.2.upd⟩)
end Go.Proofs.YtohjipnkoiifhagGreatDoor

namespace Go.Proofs.YtohjipnkoiifhagGreatDoor
open Go.RowKit

set_option maxHeartbeats 2000000 in
theorem find_any {o : Nat} (B p : Nat) (v : Value) (es : List Ent) (f : ByteArray) (w : World) (hk : KeepsO o w B p v es) (hg : Good es) (hs : f.size ≤ 140737488355328) :
    Calls Tryz.prog 39 #[.pointer (some ⟨p, o, none⟩), .string f] w fun e w' => ∃ v', e = .returned (.tuple #[v', .int .i64 (errS true f)]) ∧ Arr w' w.heap.size v' (if errS true f = 0 then findL es f else []) ∧ Below w.heap.size w w' := by
  have Hk := hide hk
  have Hg := hide hg
  clear hk hg
  by_cases he : errS true f = 0
  · rw [if_pos he]
    have h100 := (unhide Hg).2.1
    have He := hide he
    clear he
    obtain ⟨a, cap, rfl, c1, c2, c3⟩ := (unhide Hk).arr.shape
    clear c3 c2
    go_enter Tryz.func39, Tryz.ntmps39
    go_wp2_with fail
    refine (filter_any f _ hs).mono ?_
    rintro e w1 ⟨rfl, hb1⟩
    rw [unhide He]
    have k1 := (unhide Hk).below hb1
    have d0 := k1.cell
    have K1 := hide k1
    have Hb1 := hide hb1
    clear hb1 k1
    go_wp2_with fail
    clear d0
    go_loopw [7, 22] (fun ov kv wr => ∃ (k : Nat), kv = .int .i64 k ∧ k ≤ es.length ∧ Hid (Arr wr w.heap.size ov (findL (es.take k) f)) ∧ Hid (KeepsO o wr B p (.slice a es.length cap) es) ∧ Hid (Below w.heap.size w wr)) (fun _ kv _ => es.length - (intOf kv).toNat)
    case atStart => exact ⟨0, rfl, Nat.zero_le _, hide (Arr.empty _ _), K1, Hb1⟩
    case round =>
      obtain ⟨k, rfl, hkl, A3, K3, Hb3⟩ := hrel
      obtain ⟨ao, co, rfl, _⟩ := (unhide A3).shape
      by_cases hlt : k < es.length
      · obtain ⟨g, cap', e0, f1, f2, f3, f4⟩ := (unhide K3).arr.there (by omega)
        obtain ⟨rfl, _, rfl⟩ := Value.slice.inj e0
        clear e0
        have d2 := (unhide K3).arr.text hlt
        have d3 := (unhide K3).arr.num hlt
        obtain ⟨g1, g2⟩ := (unhide Hg).2.2 (en es k) (en_mem hlt)
        have Hs := hide (find_succ es f k hlt)
        have Hl := hide (find_len es f k)
        have hb0 : Below wr.heap.size wr (wr.alloc (.cells #[.string (en es k).1, .int .i64 (en es k).2] 59)) := (Below.refl _ _).alloc (Nat.le_refl _) _
        have Hb0 := hide hb0
        clear hb0
        go_wp2_with fail
        refine (match_any f (en es k).1 _ hs g2).mono ?_
        rintro e w5 ⟨rfl, b5⟩
        have r0 := one_row (heap_alloc_new wr (.cells #[.string (en es k).1, .int .i64 (en es k).2] 59))
        have d4 : w5.cell? ⟨wr.heap.size, 0, none⟩ = some (.string (en es k).1) := by rw [b5.cell (p := ⟨wr.heap.size, 0, none⟩) (by simp)]; exact r0.1 0 _ rfl
        have d5 : w5.cell? ⟨wr.heap.size, 1, none⟩ = some (.int .i64 (en es k).2) := by rw [b5.cell (p := ⟨wr.heap.size, 1, none⟩) (by simp)]; exact r0.1 1 _ rfl
        have K5 := ((unhide K3).below (unhide Hb0)).below b5
        have A5 := ((unhide A3).below (unhide Hb0)).below b5
        have Hb5 := hide (bstep (bstep (unhide Hb3) (unhide Hb0)) b5)
        clear d2 d3 r0
        cases hm : matchB f (en es k).1 with
        | true =>
          have Hm := hide hm
          have K5' := hide K5
          have A5' := hide A5
          clear hm K5 A5
          go_wp2_with fail
          refine (copyE_any (en es k).1 (en es k).2 _ g2).mono ?_
          rintro e w6 ⟨rfl, b6⟩
          have K6 := (unhide K5').below b6
          have A6 := (unhide A5').below b6
          have Hb6 := hide (bstep (unhide Hb5) b6)
          clear K5' A5' Hb5 b5 d4 d5
          have hb6 : Below w6.heap.size w6 (w6.alloc (.cells #[.string (en es k).1, .int .i64 (en es k).2] 59)) := (Below.refl _ _).alloc (Nat.le_refl _) _
          obtain ⟨v', w', hr, r1, r2, r3⟩ := append_blk _ w.heap.size 55 _ _ [en es k] (A6.below hb6) ⟨w6.heap.size, 0, none⟩ 1 (two_row w6 (en es k)) (by have := unhide Hl; simp; omega) (by have := (unhide Hb6).size; have := hb6.size; omega)
          have hown : ∀ k2, (Value.slice ao (findL (es.take k) f).length co).ownBlock = some k2 → w.heap.size ≤ k2 := fun k2 h2 => (A6.lt k2 h2).1
          have r2' := Chg.of_grown r2
          have hb7 : Below w.heap.size _ w' := r2'.below (by have := (unhide Hb6).size; have := hb6.size; omega) (fun k2 h2 h3 => by have := hown k2 h3; omega)
          have K7 := hide ((K6.below hb6).chg r2' (fun k2 h2 h3 => by
            have q1 := hown k2 h3
            rcases h2 with h2 | h2
            · have := (unhide Hk).lt; omega
            · have := ((unhide Hk).arr.lt k2 h2).2; omega))
          have Hb7 := hide ((bstep (unhide Hb6) hb6).trans hb7)
          have A7 : Hid (Arr w' w.heap.size v' (findL (es.take (k + 1)) f)) := hide (by rw [unhide Hs, unhide Hm, if_pos rfl]; exact r1)
          clear hb6 b6 K6 A6 r1 r2 r2' r3 hb7 hown
          go_wp2_with (at_builtin; refine Lib.wpList_append_run _ rfl _ _ _ _ rfl _ _ rfl rfl _ _ hr ?_)
          refine ⟨⟨k + 1, by go_num, by omega, A7, K7, Hb7⟩, ?_⟩
          simp [intOf]; omega
        | false =>
          have A7 : Hid (Arr w5 w.heap.size (.slice ao (findL (es.take k) f).length co) (findL (es.take (k + 1)) f)) := hide (by rw [unhide Hs, hm, if_neg (by simp), List.append_nil]; exact A5)
          have K7 := hide K5
          clear hm K5 A5
          go_wp2_with fail
          refine ⟨⟨k + 1, by go_num, by omega, A7, K7, Hb5⟩, ?_⟩
          simp [intOf]; omega
      · go_wp2_with fail
        go_ret2
        refine ⟨_, ret_ve (unhide He), ?_, unhide Hb3⟩
        have := unhide A3
        rw [List.take_of_length_le (by omega)] at this
        rw [List.take_of_length_le (by omega)]
        exact this
  · rw [if_neg he]
    go_enter Tryz.func39, Tryz.ntmps39
    go_wp2_with fail
    refine (filter_any f _ hs).mono ?_
    rintro e w1 ⟨rfl, hb1⟩
    go_wp2_with fail
    go_ret2
    exact ⟨_, rfl, Arr.empty _ _, hb1⟩

end Go.Proofs.YtohjipnkoiifhagGreatDoor
