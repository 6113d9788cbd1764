/-
  Contract of the program's disk: List, the map's keys, sorted.
-/
import Derived.Test.YtohjipnkoiifhagGreatDoorWalkM3
import Derived.Test.YtohjipnkoiifhagGreatDoorShelfM
namespace Go.Proofs.YtohjipnkoiifhagGreatDoor.Dk
open Go.RowKit Go.Sort Go.Shelf

theorem sortsA (m : Nat) : AnyZI.SortsIn Tryz.prog Tryz.sortedA_ren Fence.wide m :=
  ⟨fun blk off cap ss W hH hblk hsz => callsIn_wide.2 (AnyM.slices_Sort_int Tryz.sortA blk off cap ss W hH hblk hsz),
   fun p cap W => callsIn_wide.2 (AnyM.slices_Sort_int_none Tryz.sortA p cap W)⟩
theorem sorted_num {m : Int} {es : List Pap} (ht : Tidy m es) {ss : List Int} (hp : ss.Perm (numL es)) : ss.mergeSort (fun x y => decide (x ≤ y)) = numL es := by
  rw [show ss.mergeSort (fun x y => decide (x ≤ y)) = (numL es).mergeSort (fun x y => decide (x ≤ y)) from mergeSort_of_perm_i hp]
  refine List.mergeSort_of_pairwise (((rise_num es).1 ht.rise).imp (fun h => ?_))
  rw [decide_eq_true_eq]
  omega
theorem sl_row {w : World} {B : Nat} {v : Value} {l : List Int} (h : w.ownsRow B 3 1 v l.length (l.map encZ)) : ∃ a c, v = .slice a l.length c ∧ SlI w a l := by
  rcases h.2 with ⟨h1, h2⟩ | ⟨g, cap, cur, h1, h2, h3, _⟩
  · exact ⟨none, 0, by rw [h1, h2], fun k hk => by omega⟩
  · refine ⟨some ⟨g, 0, none⟩, cap, h1, fun k hk => ⟨g, 0, rfl, (Array.getElem?_eq_some_iff.1 h3).1, ?_⟩⟩
    subst h1
    rw [World.ownsRow.cellAt h (0 + k) (by omega), Nat.zero_add]
    unfold nth
    rw [List.getElem?_map, List.getElem?_eq_getElem hk]
    rfl

set_option maxHeartbeats 1000000 in
theorem keys_list {w : World} {q b : Nat} {D : DataW Unit} (k1 : w.cell? ⟨q, 1, none⟩ = some (.map (some b))) (hown : w.ownsMap Tryz.prog 3 fileElem b (Maps.size D) D) (hmax : Maps.size D ≤ 20) :
    Calls Tryz.prog 78 #[.pointer (some ⟨q, 0, none⟩)] w fun e w' => ∃ (v : Value) (ss : List Int), e = .returned v ∧ ss.Perm (intKeys D) ∧ w'.ownsRow w.heap.size 3 1 v ss.length ((ss.mergeSort (fun x y => decide (x ≤ y))).map encZ) ∧ Below w.heap.size w w' := by
  refine (callsIn_wide (n := 6)).1 ?_
  have hbl := hown.lt
  have hseq : SeqGives Fence.wide 2 Tryz.prog 140 #[.pointer (some ⟨w.heap.size, 0, none⟩)] encZ (fun ss => ss.Perm (intKeys D)) (Maps.size D) (w.alloc (.cells #[.map (some b)] 87)) :=
    AnyZI.keys_gives (ρ := Tryz.keysA_ren) { Tryz.keysA with } Fence.wide _ trivial rfl (by omega) w.heap.size b (Maps.size D) D _ (by simp) (by simp) (by
      obtain ⟨es, clock, hb, Ft, hs, hD⟩ := hown
      exact ⟨es, clock, (Below.heap_alloc _ _ b hbl).trans hb, Ft, hs, hD⟩)
  have cK : ∀ mb W, CallsIn Fence.wide 5 Tryz.prog 113 #[.map mb] W fun e w' => e = .returned (.func (.func 140) #[] #[.pointer (some ⟨W.heap.size, 0, none⟩)]) ∧ w' = W.alloc (.cells #[.map mb] 87) := fun mb W => AnyZI.keys_in Tryz.keysA Fence.wide 5 trivial rfl mb W
  have cS := AnyZI.sorted_in Tryz.sortedA Fence.wide 5 trivial trivial trivial trivial rfl (by omega) (sortsA _) (enters_of Tryz.func139 (by kernel_rfl) rfl) 140 #[.pointer (some ⟨w.heap.size, 0, none⟩)] trivial (enters_of Tryz.func140 (by kernel_rfl) rfl) _ (Maps.size D) (by unfold maxLen; omega) (by omega) _ hseq
  change CallsIn _ _ Tryz.prog 112 _ _ _ at cS
  have hfK : Fence.wide.fn 113 := trivial
  have hfS : Fence.wide.fn 112 := trivial
  refine callsIn_of_wp Tryz.func78 rfl trivial ?_ rfl
  simp only [Tryz.ntmps78, List.size_toArray, List.length_cons, List.length_nil, Nat.reduceAdd, Nat.reduceSub, Array.replicate_succ, Array.replicate_zero, List.push_toArray, List.append_toArray, List.nil_append, List.cons_append]
  gi_wp2_with (first
    | (gi_at_call 113; refine (cK _ _).mono ?_; rintro e w' ⟨rfl, rfl⟩)
    | (gi_at_call 112; refine cS.mono ?_; rintro e w' ⟨v, ss, rfl, hS, hrow, hnil, hb⟩))
  go_ret
  exact ⟨v, ss, rfl, hS, ownsRow_base_a hrow (by simp), ((Below.refl _ w).alloc (Nat.le_refl _) _).trans (hb.mono (by simp))⟩

set_option maxHeartbeats 1000000 in
theorem keys_nil {w : World} {q : Nat} (k1 : w.cell? ⟨q, 1, none⟩ = some (.map none)) :
    Calls Tryz.prog 78 #[.pointer (some ⟨q, 0, none⟩)] w fun e w' => e = .returned (.slice none 0 0) ∧ Below w.heap.size w w' := by
  refine (callsIn_wide (n := 6)).1 ?_
  have hseq : SeqGives Fence.wide 2 Tryz.prog 140 #[.pointer (some ⟨w.heap.size, 0, none⟩)] encZ (fun ss : List Int => ss = []) 0 (w.alloc (.cells #[.map none] 87)) :=
    AnyZI.keys_gives_nil (ρ := Tryz.keysA_ren) { Tryz.keysA with } Fence.wide _ trivial rfl w.heap.size _ (by simp) (by simp)
  have cK : ∀ mb W, CallsIn Fence.wide 5 Tryz.prog 113 #[.map mb] W fun e w' => e = .returned (.func (.func 140) #[] #[.pointer (some ⟨W.heap.size, 0, none⟩)]) ∧ w' = W.alloc (.cells #[.map mb] 87) := fun mb W => AnyZI.keys_in Tryz.keysA Fence.wide 5 trivial rfl mb W
  have cS := AnyZI.sorted_in Tryz.sortedA Fence.wide 5 trivial trivial trivial trivial rfl (by omega) (sortsA _) (enters_of Tryz.func139 (by kernel_rfl) rfl) 140 #[.pointer (some ⟨w.heap.size, 0, none⟩)] trivial (enters_of Tryz.func140 (by kernel_rfl) rfl) _ 0 (Nat.zero_le _) (by omega) _ hseq
  change CallsIn _ _ Tryz.prog 112 _ _ _ at cS
  have hfK : Fence.wide.fn 113 := trivial
  have hfS : Fence.wide.fn 112 := trivial
  refine callsIn_of_wp Tryz.func78 rfl trivial ?_ rfl
  simp only [Tryz.ntmps78, List.size_toArray, List.length_cons, List.length_nil, Nat.reduceAdd, Nat.reduceSub, Array.replicate_succ, Array.replicate_zero, List.push_toArray, List.append_toArray, List.nil_append, List.cons_append]
  gi_wp2_with (first
    | (gi_at_call 113; refine (cK _ _).mono ?_; rintro e w' ⟨rfl, rfl⟩)
    | (gi_at_call 112; refine cS.mono ?_; rintro e w' ⟨v, ss, rfl, rfl, hrow, hnil, hb⟩; obtain rfl : v = .slice none 0 0 := hnil.2 rfl))
  go_ret
  exact ⟨rfl, ((Below.refl _ w).alloc (Nat.le_refl _) _).trans (hb.mono (by simp))⟩

theorem dlist_any {w : World} {B q : Nat} {F : Nat → Prop} {m : Int} {es : List Pap} (hH : Has w B q F m es) (ht : Tidy m es) :
    Calls Tryz.prog 78 #[.pointer (some ⟨q, 0, none⟩)] w fun e w' => ∃ a c, e = .returned (.slice a es.length c) ∧ SlI w' a (numL es) ∧ Did Has w w' B q F m es := by
  have HH := hH
  obtain ⟨rl, mb, D, cO, vO, hF, h⟩ := hH
  have hlen : (numL es).length = es.length := by unfold numL; rw [List.length_map]
  have hsz := h.sz
  have hfew := ht.few
  rcases h.mp with ⟨rfl, rfl⟩ | ⟨b, rfl, hown⟩
  · obtain rfl : es = [] := List.eq_nil_of_length_eq_zero hsz.symm
    refine (keys_nil h.c1).mono ?_
    rintro e w' ⟨rfl, hb⟩
    exact ⟨none, 0, rfl, fun k hk => absurd hk (Nat.not_lt_zero k), did_new HH hb⟩
  · refine (keys_list h.c1 hown (by omega)).mono ?_
    rintro e w' ⟨v, ss, rfl, hp, hrow, hb⟩
    have hC : CollectedI D (fun _ => false) (numL es) := ⟨((rise_num es).1 ht.rise).imp (fun hab e => by omega), fun x => by rw [num_mem, h.key]; simp⟩
    have hp2 : ss.Perm (numL es) := hp.trans (hC.perm hown lawK Tryz.underlying3 (fun _ => rfl)).symm
    rw [sorted_num ht hp2] at hrow
    have hl2 : ss.length = (numL es).length := hp2.length_eq
    rw [hl2] at hrow
    obtain ⟨a, c, rfl, hs⟩ := sl_row hrow
    rw [hlen]
    exact ⟨a, c, rfl, hs, did_new HH hb⟩
/-- List hands a new row and leaves the disk -/
theorem dlist_new {w : World} {B q : Nat} {F : Nat → Prop} {m : Int} {es : List Pap} (hH : Has w B q F m es) (ht : Tidy m es) :
    Calls Tryz.prog 78 #[.pointer (some ⟨q, 0, none⟩)] w fun e w' => ∃ a c, e = .returned (.slice a es.length c) ∧ (es.length ≤ c ∧ c ≤ maxLen) ∧ SlI w' a (numL es) ∧ (∀ z, a = some z → w.heap.size ≤ z.block ∧ z.block < w'.heap.size) ∧ Below w.heap.size w w' := by
  obtain ⟨rl, mb, D, cO, vO, hF, h⟩ := hH
  have hlen : (numL es).length = es.length := by unfold numL; rw [List.length_map]
  have hsz := h.sz
  have hfew := ht.few
  rcases h.mp with ⟨rfl, rfl⟩ | ⟨b, rfl, hown⟩
  · obtain rfl : es = [] := List.eq_nil_of_length_eq_zero hsz.symm
    refine (keys_nil h.c1).mono ?_
    rintro e w' ⟨rfl, hb⟩
    exact ⟨none, 0, rfl, ⟨Nat.le_refl _, Nat.zero_le _⟩, fun k hk => absurd hk (Nat.not_lt_zero k), fun z hz => (by cases hz), hb⟩
  · refine (keys_list h.c1 hown (by omega)).mono ?_
    rintro e w' ⟨v, ss, rfl, hp, hrow, hb⟩
    have hC : CollectedI D (fun _ => false) (numL es) := ⟨((rise_num es).1 ht.rise).imp (fun hab e => by omega), fun x => by rw [num_mem, h.key]; simp⟩
    have hp2 : ss.Perm (numL es) := hp.trans (hC.perm hown lawK Tryz.underlying3 (fun _ => rfl)).symm
    rw [sorted_num ht hp2] at hrow
    have hl2 : ss.length = (numL es).length := hp2.length_eq
    rw [hl2] at hrow
    have hrow2 := hrow
    have hcap : ∀ a c, v = .slice a (numL es).length c → (numL es).length ≤ c ∧ c ≤ maxLen := fun a c hv => by
      rcases hrow2.2 with ⟨h1, h2⟩ | ⟨g, cap, cur, h1, h2, h3, h4, h5, _⟩
      · rw [hv] at h1
        obtain ⟨_, e2, e3⟩ := Value.slice.inj h1
        rw [e2, e3]
        exact ⟨Nat.le_refl _, Nat.zero_le _⟩
      · rw [hv] at h1
        obtain ⟨_, _, rfl⟩ := Value.slice.inj h1
        exact ⟨h4, h5⟩
    have hblk : ∀ a c z, v = .slice a (numL es).length c → a = some z → w.heap.size ≤ z.block ∧ z.block < w'.heap.size := fun a c z hv hz => by
      refine World.ownsRow.lt hrow2 z.block ?_
      rw [hv, hz]
      rcases hrow2.2 with ⟨h1, _⟩ | ⟨g, cap, cur, h1, _⟩
      · rw [hv, hz] at h1; cases (Value.slice.inj h1).1
      · rw [hv, hz] at h1
        obtain rfl := Option.some.inj (Value.slice.inj h1).1
        rfl
    obtain ⟨a, c, rfl, hs⟩ := sl_row hrow
    have h1 := hcap a c rfl
    have h2 := hblk a c
    rw [hlen] at h1 h2 ⊢
    exact ⟨a, c, rfl, h1, hs, fun z hz => h2 z rfl hz, hb⟩
end Go.Proofs.YtohjipnkoiifhagGreatDoor.Dk
