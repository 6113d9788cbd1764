/-
  Contract of slices.Delete (one pull) at rows of pulls that are one's own.
-/
import Derived.Test.YtbflhmkapfodiaaRowPul
import Derived.Deep.RegionLaw
namespace Go.Proofs.Ytbflhmkapfodiaa.Dk
open Go.RowKit Go.Deep

theorem list_delT (es : List Tri) (z : List Value) (i m : Nat) (hn : es.length = i + 1 + m) :
    ((((celT es).take (i * 3) ++ (celT es).drop ((i + 1) * 3) ++ (celT es).drop (i * 3 + ((celT es).drop ((i + 1) * 3)).length)).take ((i + m) * 3) ++ z ++ ((celT es).take (i * 3) ++ (celT es).drop ((i + 1) * 3) ++ (celT es).drop (i * 3 + ((celT es).drop ((i + 1) * 3)).length)).drop ((i + m) * 3 + z.length)).take ((i + m) * 3)) = celT (es.eraseIdx i) := by
  have hcl : (celT es).length = (i + 1 + m) * 3 := by rw [celT_length, hn]
  have h1 : ((celT es).take (i * 3) ++ (celT es).drop ((i + 1) * 3)).length = (i + m) * 3 := by rw [List.length_append, List.length_take, List.length_drop, hcl]; omega
  have h2 : ((celT es).take (i * 3) ++ (celT es).drop ((i + 1) * 3) ++ (celT es).drop (i * 3 + ((celT es).drop ((i + 1) * 3)).length)).take ((i + m) * 3) = (celT es).take (i * 3) ++ (celT es).drop ((i + 1) * 3) := by
    rw [List.take_append_of_le_length (by omega), List.take_of_length_le (by omega)]
  rw [h2, List.append_assoc ((celT es).take (i * 3) ++ (celT es).drop ((i + 1) * 3)), List.take_append_of_le_length (by omega), List.take_of_length_le (by omega)]
  rw [List.eraseIdx_eq_take_drop_succ, celT_append, celT_take, celT_drop]
set_option maxHeartbeats 4000000 in
set_option maxRecDepth 100000 in
theorem deleteP_in (B g c i m : Nat) (es : List Tri) (w : World) (hn : es.length = i + 1 + m) (ha : ArrT 30 w B (.slice (some ⟨g, 0, none⟩) (i + 1 + m) c) es) (h100 : es.length ≤ 200) (hc : i + 1 + m ≤ c) (ho : ∀ x ∈ es, OneT x) :
    Calls Try.prog 20 #[.slice (some ⟨g, 0, none⟩) (i + 1 + m) c, .int .i64 i, .int .i64 (i + 1)] w fun e w' =>
      e = .returned (.slice (some ⟨g, 0, none⟩) (i + m) c) ∧ w' = (w.drew.setCells g (0 + i * 3) ((celT es).drop ((i + 1) * 3))).setCells g ((i + m) * 3) (zlT (.agg #[.int .i64 0, .int .i64 0, .bool false]) 1) := by
  obtain ⟨i0, hi0, hz0, hz1, hz2⟩ := info_parts infoU
  obtain ⟨news, hnews⟩ : ∃ news, news = (celT es).drop ((i + 1) * 3) := ⟨_, rfl⟩
  have hlen : news.length = m * 3 := by rw [hnews, List.length_drop, celT_length, hn]; omega
  obtain ⟨cur, hg, hcs⟩ : ∃ cur, w.heap[g]? = some (.cells cur 30 (0, 0)) ∧ cur.size = c * 3 := by
    rcases ha.2 with ⟨q, _⟩ | ⟨g', cap', cur, q, h2, h3, h4, h5, h6, h7⟩
    · cases q
    · simp only [Value.slice.injEq, Option.some.injEq, Addr.mk.injEq, and_true] at q
      obtain ⟨rfl, _, rfl⟩ := q
      exact ⟨cur, h3, h6⟩
  have hsp : ∀ j, j < c * 3 → (w.cell? ⟨g, j, none⟩).isSome = true := by
    intro j hj
    rw [cell_of_row w g j _ _ _ hg, Array.getElem?_eq_getElem (by omega)]
    rfl
  have hfz : ∀ j, w.frozen? ⟨g, j, none⟩ = false := fun j => frozen_of_row w g j _ _ hg
  have hcell : ∀ j u, (celT es)[j]? = some u → w.cell? ⟨g, j, none⟩ = some u := by
    intro j u hj
    exact ha.cell j u hj
  obtain ⟨A, hA, hsrc⟩ : ∃ A : Addr, (if c = i + 1 then some (⟨g, 0, none⟩ : Addr) else some ⟨g, (i + 1) * 3, none⟩) = some A ∧ Hid (∀ t u, news[t]? = some u → w.drew.cell? (A.add t) = some u) := by
    by_cases h : c = i + 1
    · refine ⟨⟨g, 0, none⟩, by simp [h], fun t u hu => ?_⟩
      have h0 : news.length = 0 := by rw [hlen]; omega
      rw [List.length_eq_zero_iff.1 h0] at hu
      simp at hu
    · refine ⟨⟨g, (i + 1) * 3, none⟩, by simp [h], fun t u hu => ?_⟩
      rw [Addr.add_lit]
      refine hcell _ u ?_
      rw [hnews, List.getElem?_drop] at hu
      exact hu
  have s1 := hide hlen
  have s2 : Hid (∀ u ∈ news, u.oneCell' = true) := by
    intro u hu
    rw [hnews] at hu
    exact celT_one es ho u (List.mem_of_mem_drop hu)
  have s3 : Hid (∀ t, t < news.length → (w.drew.cell? ⟨g, 0 + i * 3 + t, none⟩).isSome = true ∧ w.drew.frozen? ⟨g, 0 + i * 3 + t, none⟩ = false) := by
    intro t ht
    rw [hlen] at ht
    exact ⟨hsp _ (by omega), hfz _⟩
  obtain ⟨W1, hW1⟩ : ∃ W1, W1 = w.drew.setCells g (0 + i * 3) news := ⟨_, rfl⟩
  have hcl : ∀ ty c', (Builtin.clear_ #[26] ty #[.slice (some ⟨g, (i + m) * 3, none⟩) 1 c']).run Try.prog W1 = .ok (.tuple #[]) (W1.setCells g ((i + m) * 3) (zlT (.agg #[.int .i64 0, .int .i64 0, .bool false]) 1)) := fun ty c' =>
    run_clear_tri (P := Try.prog) 26 30 ty _ Try.underlying26 Try.zeroValue30 rfl (fun k hk => by
        match k, hk with
        | 0, _ => rfl
        | 1, _ => rfl
        | 2, _ => rfl) W1 g ((i + m) * 3) 1 c' (by omega) (fun j hj => by
        rw [hW1]
        exact isSome_setCells g news (0 + i * 3) w.drew (fun t ht => hsp _ (by rw [hlen] at ht; omega)) _ (hsp _ (by omega)))
      (fun j hj => by rw [hW1, World.frozen?_setCells]; exact hfz _)
  have hW : Hid (W1 = w.drew.setCells g (0 + i * 3) news) := hW1
  rw [← hnews]
  clear hW1 hsp hfz hcell hg ha hnews hlen hz0 hz2
  have hic : i ≤ c := by omega
  have hjc : i + 1 ≤ c := by omega
  have b1 : (0 : Int) ≤ (i : Int) + 1 := by omega
  have b2 : (i : Int) + 1 ≤ (i : Int) + 1 + (m : Int) := by omega
  have q1 : ¬ (c = i + m) := by omega
  have q2 : i + 1 + m - (i + m) = 1 := by omega
  go_enter Try.func20, Try.ntmps20
  go_wp2_with fail
  go_region_law (refine step_append_room rfl (.tmp 22) (.tmp 25) 26 rfl 30 i0 3 Try.underlying26 hi0 hz1 g 0 i c (by simp [Act.eval, Act.put]) A m (c - (i + 1)) news (by simp [Act.eval, Act.put]) s1.out hsrc.out s2.out (by omega) s3.out ?_; rw [← hW.out])
  go_wp2
  go_ret
  exact ⟨rfl, by rw [hW.out]⟩

theorem deleteP_any (B : Nat) (v : Value) (l : List Pul) (i : Nat) (w : World) (ha : ArrU w B v l) (hi : i < l.length) (h100 : l.length ≤ 200) :
    Calls Try.prog 20 #[v, .int .i64 i, .int .i64 (i + 1)] w fun e w' => ∃ v', e = .returned v' ∧ ArrU w' B v' (l.eraseIdx i) ∧ Chg (fun k => v.ownBlock = some k) w w' ∧ ∀ g, v'.ownBlock = some g → v.ownBlock = some g ∨ w.heap.size ≤ g := by
  obtain ⟨es, hes⟩ : ∃ es, es = l.map pulT := ⟨_, rfl⟩
  have hel : es.length = l.length := by rw [hes, List.length_map]
  have ho : ∀ x ∈ es, OneT x := by rw [hes]; exact pulT_all l
  have hfin : (l.eraseIdx i).map pulT = es.eraseIdx i := by rw [hes, List.eraseIdx_eq_take_drop_succ, List.eraseIdx_eq_take_drop_succ, List.map_append, List.map_take, List.map_drop]
  unfold ArrU at ha ⊢
  rw [hfin]
  rw [← hes] at ha
  rw [← hel] at hi h100
  clear hes hfin hel
  obtain ⟨g, cap, rfl, c1, c2, c3, c4⟩ := ha.there (by omega)
  obtain ⟨m, hn⟩ : ∃ m, es.length = i + 1 + m := ⟨es.length - (i + 1), by omega⟩
  rw [hn] at ha c1 ⊢
  refine (deleteP_in B g cap i m es w hn ha h100 c1 ho).mono ?_
  rintro e w' ⟨rfl, rfl⟩
  refine ⟨_, rfl, ?_, ?_, fun g' hg' => .inl hg'⟩
  · have o0 : w.drew.ownsRow B 30 3 (.slice (some ⟨g, 0, none⟩) (i + 1 + m) cap) (i + 1 + m) (celT es) := by
      unfold ArrT at ha
      rw [hn] at ha
      exact ha
    have hcl : (celT es).length = (i + 1 + m) * 3 := by rw [celT_length, hn]
    have hdl : ((celT es).drop ((i + 1) * 3)).length = m * 3 := by rw [List.length_drop, hcl]; omega
    have hzl : (zlT (.agg #[.int .i64 0, .int .i64 0, .bool false]) 1).length = 3 := zlT_length _ 1 rfl
    have o1 := ownT_sets ((celT es).drop ((i + 1) * 3)) (i * 3) _ _ o0 (by rw [hcl, hdl]; omega)
    have o2 := ownT_sets (zlT (.agg #[.int .i64 0, .int .i64 0, .bool false]) 1) ((i + m) * 3) _ _ o1 (by
      simp only [List.length_append, List.length_take, List.length_drop, hcl, hzl]
      omega)
    have o3 := ownT_shorter (k := i + m) o2 (by omega)
    rw [list_delT es _ i m hn] at o3
    unfold ArrT
    rw [List.length_eraseIdx, if_pos hi, hn, show i + 1 + m - 1 = i + m by omega, Nat.zero_add]
    exact o3
  · have c : Chg (fun k => k = g) w w.drew := ⟨rfl, rfl, rfl, Nat.le_refl _, fun _ _ _ => rfl⟩
    exact ((c.trans (chgT_sets _ _ _)).trans (chgT_sets _ _ _)).mono (fun k _ hk => by rw [hk]; rfl)
end Go.Proofs.Ytbflhmkapfodiaa.Dk
