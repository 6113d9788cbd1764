/-
  The program's store: slices.Delete (one record) at rows of records that are one's own.
-/
import Derived.Test.YtphhebdmfdjfeagGreatDoorJointRowXRowY
import Derived.Deep.RegionLaw
namespace Go.Proofs.YtphhebdmfdjfeagGreatDoor.Dk
open Go.RowKit Go.Deep

theorem celR_take : ∀ (es : List Rc) (k : Nat), celR (es.take k) = (celR es).take (k * 6)
  | [], k => by simp [celR]
  | e :: r, 0 => by simp [celR]
  | e :: r, k + 1 => by rw [show (k + 1) * 6 = k * 6 + 1 + 1 + 1 + 1 + 1 + 1 by omega]; simp [celR, celR_take r k]
theorem celR_drop : ∀ (es : List Rc) (k : Nat), celR (es.drop k) = (celR es).drop (k * 6)
  | [], k => by simp [celR]
  | e :: r, 0 => by simp [celR]
  | e :: r, k + 1 => by rw [show (k + 1) * 6 = k * 6 + 1 + 1 + 1 + 1 + 1 + 1 by omega]; simp [celR, celR_drop r k]
theorem ArrR.there {w : World} {B : Nat} {v : Value} {es : List Rc} (h : ArrR w B v es) (hn : 0 < es.length) : ∃ g cap, v = .slice (some ⟨g, 0, none⟩) es.length cap ∧ es.length ≤ cap ∧ cap ≤ maxLen ∧ B ≤ g ∧ g < w.heap.size := by
  rcases h.2 with ⟨h1, h2⟩ | ⟨g, cap, cur, h1, h2, h3, h4, h5, h6, h7⟩
  · omega
  · exact ⟨g, cap, h1, h4, h5, h.lt g (by rw [h1]; rfl)⟩
theorem ArrR.cell {w : World} {B g cap : Nat} {es : List Rc} (h : ArrR w B (.slice (some ⟨g, 0, none⟩) es.length cap) es) (j : Nat) (u : Value) (hj : (celR es)[j]? = some u) : w.cell? ⟨g, j, none⟩ = some u := by
  have hl : j < es.length * 6 := by
    rw [← celR_length]
    rcases Nat.lt_or_ge j (celR es).length with q | q
    · exact q
    · rw [List.getElem?_eq_none q] at hj; cases hj
  rw [World.ownsRow.cellAt h _ hl]
  exact hj
def zsR : List Value := [.int .i64 0, .int .i64 0, .int .i64 0, .string ByteArray.empty, .string ByteArray.empty, .string ByteArray.empty]
theorem run_clear_six (w : World) (ty : TypeId) (b o c : Nat)
    (hc : ∀ j, j < 6 → (w.cell? ⟨b, o + j, none⟩).isSome = true) (hf : ∀ j, j < 6 → w.frozen? ⟨b, o + j, none⟩ = false) :
    (Builtin.clear_ #[22] ty #[.slice (some ⟨b, o, none⟩) 1 c]).run Tryz.prog w = .ok (.tuple #[]) (w.setCells b o zsR) := by
  have hzc : (Builtin.zeroCells (Value.agg #[.int .i64 0, .int .i64 0, .int .i64 0, .string ⟨#[]⟩, .string ⟨#[]⟩, .string ⟨#[]⟩]).cells 1).toList = zsR := by kernel_rfl
  have hst := run_storeCells_cells (P := Tryz.prog) b o zsR 0 w (by simpa [zsR] using hc) (by simpa [zsR] using hf) (by intro v hv'; simp only [zsR, List.mem_cons, List.not_mem_nil, or_false] at hv'; rcases hv' with q | q | q | q | q | q <;> (subst q; rfl))
  simp only [Nat.add_zero] at hst
  simp [Builtin.clear_, run_underlying Tryz.underlying22, Tryz.zeroValue30, hzc, hst]

set_option maxHeartbeats 4000000 in
set_option maxRecDepth 100000 in
theorem deleteR_in (B g c i m : Nat) (es : List Rc) (w : World) (hn : es.length = i + 1 + m) (ha : ArrR w B (.slice (some ⟨g, 0, none⟩) (i + 1 + m) c) es) (h100 : es.length ≤ 200) (hc : i + 1 + m ≤ c) :
    Calls Tryz.prog 62 #[.slice (some ⟨g, 0, none⟩) (i + 1 + m) c, .int .i64 i, .int .i64 (i + 1)] w fun e w' =>
      e = .returned (.slice (some ⟨g, 0, none⟩) (i + m) c) ∧ w' = (w.drew.setCells g (0 + i * 6) ((celR es).drop ((i + 1) * 6))).setCells g ((i + m) * 6) zsR := by
  obtain ⟨i0, hi0, hz0, hz1, hz2⟩ := info_parts infoR
  obtain ⟨news, hnews⟩ : ∃ news, news = (celR es).drop ((i + 1) * 6) := ⟨_, rfl⟩
  have hlen : news.length = m * 6 := by rw [hnews, List.length_drop, celR_length, hn]; omega
  obtain ⟨cur, hg, hcs⟩ : ∃ cur, w.heap[g]? = some (.cells cur 30 (0, 0)) ∧ cur.size = c * 6 := by
    rcases ha.2 with ⟨q, _⟩ | ⟨g', cap', cur, q, h2, h3, h4, h5, h6, h7⟩
    · cases q
    · simp only [Value.slice.injEq, Option.some.injEq, Addr.mk.injEq, and_true] at q
      obtain ⟨rfl, _, rfl⟩ := q
      exact ⟨cur, h3, h6⟩
  have hsp : ∀ j, j < c * 6 → (w.cell? ⟨g, j, none⟩).isSome = true := by
    intro j hj
    rw [cell_of_row w g j _ _ _ hg, Array.getElem?_eq_getElem (by omega)]
    rfl
  have hfz : ∀ j, w.frozen? ⟨g, j, none⟩ = false := fun j => frozen_of_row w g j _ _ hg
  have hcell : ∀ j u, (celR es)[j]? = some u → w.cell? ⟨g, j, none⟩ = some u := by
    intro j u hj
    rw [← hn] at ha
    exact ha.cell j u hj
  obtain ⟨A, hA, hsrc⟩ : ∃ A : Addr, (if c = i + 1 then some (⟨g, 0, none⟩ : Addr) else some ⟨g, (i + 1) * 6, none⟩) = some A ∧ Hid (∀ t u, news[t]? = some u → w.drew.cell? (A.add t) = some u) := by
    by_cases h : c = i + 1
    · refine ⟨⟨g, 0, none⟩, by simp [h], fun t u hu => ?_⟩
      have h0 : news.length = 0 := by rw [hlen]; omega
      rw [List.length_eq_zero_iff.1 h0] at hu
      simp at hu
    · refine ⟨⟨g, (i + 1) * 6, none⟩, by simp [h], fun t u hu => ?_⟩
      rw [Addr.add_lit]
      refine hcell _ u ?_
      rw [hnews, List.getElem?_drop] at hu
      exact hu
  have s1 := hide hlen
  have s2 : Hid (∀ u ∈ news, u.oneCell' = true) := by
    intro u hu
    rw [hnews] at hu
    exact celR_one es u (List.mem_of_mem_drop hu)
  have s3 : Hid (∀ t, t < news.length → (w.drew.cell? ⟨g, 0 + i * 6 + t, none⟩).isSome = true ∧ w.drew.frozen? ⟨g, 0 + i * 6 + t, none⟩ = false) := by
    intro t ht
    rw [hlen] at ht
    exact ⟨hsp _ (by omega), hfz _⟩
  obtain ⟨W1, hW1⟩ : ∃ W1, W1 = w.drew.setCells g (0 + i * 6) news := ⟨_, rfl⟩
  have hcl : ∀ ty c', (Builtin.clear_ #[22] ty #[.slice (some ⟨g, (i + m) * 6, none⟩) 1 c']).run Tryz.prog W1 = .ok (.tuple #[]) (W1.setCells g ((i + m) * 6) zsR) := fun ty c' =>
    run_clear_six W1 ty g ((i + m) * 6) c' (fun j hj => by
        rw [hW1]
        exact isSome_setCells g news (0 + i * 6) w.drew (fun t ht => hsp _ (by rw [hlen] at ht; omega)) _ (hsp _ (by omega)))
      (fun j hj => by rw [hW1, World.frozen?_setCells]; exact hfz _)
  have hW : Hid (W1 = w.drew.setCells g (0 + i * 6) news) := hW1
  rw [← hnews]
  clear hW1 hsp hfz hcell hg ha hnews hlen hz0 hz2
  have hic : i ≤ c := by omega
  have hjc : i + 1 ≤ c := by omega
  have b1 : (0 : Int) ≤ (i : Int) + 1 := by omega
  have b2 : (i : Int) + 1 ≤ (i : Int) + 1 + (m : Int) := by omega
  have q1 : ¬ (c = i + m) := by omega
  have q2 : i + 1 + m - (i + m) = 1 := by omega
  go_enter Tryz.func62, Tryz.ntmps62
  go_wp2_with fail
  go_region_law (refine step_append_room rfl (.tmp 22) (.tmp 25) 22 rfl 30 i0 6 Tryz.underlying22 hi0 hz1 g 0 i c (by simp [Act.eval, Act.put]) A m (c - (i + 1)) news (by simp [Act.eval, Act.put]) s1.out hsrc.out s2.out (by omega) s3.out ?_; rw [← hW.out])
  go_wp2
  go_ret
  exact ⟨rfl, by rw [hW.out]⟩

theorem list_delR (es : List Rc) (i m : Nat) (hn : es.length = i + 1 + m) :
    ((((celR es).take (i * 6) ++ (celR es).drop ((i + 1) * 6) ++ (celR es).drop (i * 6 + ((celR es).drop ((i + 1) * 6)).length)).take ((i + m) * 6) ++ zsR ++ ((celR es).take (i * 6) ++ (celR es).drop ((i + 1) * 6) ++ (celR es).drop (i * 6 + ((celR es).drop ((i + 1) * 6)).length)).drop ((i + m) * 6 + zsR.length)).take ((i + m) * 6)) = celR (delR es i) := by
  have hcl : (celR es).length = (i + 1 + m) * 6 := by rw [celR_length, hn]
  have h1 : ((celR es).take (i * 6) ++ (celR es).drop ((i + 1) * 6)).length = (i + m) * 6 := by rw [List.length_append, List.length_take, List.length_drop, hcl]; omega
  have h2 : ((celR es).take (i * 6) ++ (celR es).drop ((i + 1) * 6) ++ (celR es).drop (i * 6 + ((celR es).drop ((i + 1) * 6)).length)).take ((i + m) * 6) = (celR es).take (i * 6) ++ (celR es).drop ((i + 1) * 6) := by
    rw [List.take_append_of_le_length (by omega), List.take_of_length_le (by omega)]
  rw [h2, List.append_assoc ((celR es).take (i * 6) ++ (celR es).drop ((i + 1) * 6)), List.take_append_of_le_length (by omega), List.take_of_length_le (by omega)]
  unfold delR
  rw [celR_append, celR_take, celR_drop]
theorem deleteR_any (B : Nat) (v : Value) (es : List Rc) (i : Nat) (w : World) (ha : ArrR w B v es) (hi : i < es.length) (h100 : es.length ≤ 200) :
    Calls Tryz.prog 62 #[v, .int .i64 i, .int .i64 (i + 1)] w fun e w' => ∃ v', e = .returned v' ∧ ArrR w' B v' (delR es i) ∧ Chg (fun k => v.ownBlock = some k) w w' ∧ ∀ g, v'.ownBlock = some g → v.ownBlock = some g ∨ w.heap.size ≤ g := by
  obtain ⟨g, cap, rfl, c1, c2, c3, c4⟩ := ha.there (by omega)
  obtain ⟨m, hn⟩ : ∃ m, es.length = i + 1 + m := ⟨es.length - (i + 1), by omega⟩
  rw [hn] at ha c1 ⊢
  refine (deleteR_in B g cap i m es w hn ha h100 c1).mono ?_
  rintro e w' ⟨rfl, rfl⟩
  refine ⟨_, rfl, ?_, ?_, fun g' hg' => .inl hg'⟩
  · have o0 : w.drew.ownsRow B 30 6 (.slice (some ⟨g, 0, none⟩) (i + 1 + m) cap) (i + 1 + m) (celR es) := by
      unfold ArrR at ha
      rw [hn] at ha
      exact ha
    have hcl : (celR es).length = (i + 1 + m) * 6 := by rw [celR_length, hn]
    have hdl : ((celR es).drop ((i + 1) * 6)).length = m * 6 := by rw [List.length_drop, hcl]; omega
    have o1 := own_sets ((celR es).drop ((i + 1) * 6)) (i * 6) _ _ o0 (by rw [hcl, hdl]; omega)
    have o2 := own_sets zsR ((i + m) * 6) _ _ o1 (by
      simp only [List.length_append, List.length_take, List.length_drop, hcl, show zsR.length = 6 from rfl]
      omega)
    have o3 := own_shorter (k := i + m) o2 (by omega)
    rw [list_delR es i m hn] at o3
    unfold ArrR
    rw [delR_length hi, hn, show i + 1 + m - 1 = i + m by omega, Nat.zero_add]
    exact o3
  · have c : Chg (fun k => k = g) w w.drew := ⟨rfl, rfl, rfl, Nat.le_refl _, fun _ _ _ => rfl⟩
    exact ((c.trans (chgD (chg_sets _ _ _))).trans (chgD (chg_sets _ _ _))).mono (fun k _ hk => by rw [hk]; rfl)
end Go.Proofs.YtphhebdmfdjfeagGreatDoor.Dk
