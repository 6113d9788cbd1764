/-
  Contract of the program's disk: Used, counted over the files in any order.
-/
import Derived.Test.YtohjipnkoiifhagGreatDoorJointRowMWalkM1WalkM2WalkMC
import Derived.Lib.SlKeysI
namespace Go.Proofs.YtohjipnkoiifhagGreatDoor.Dk
open Go.RowKit

theorem invK (key : Value) (kl : Lit) (hk : keyOf Tryz.prog 3 key = some kl) : ∃ x, key = Value.int .i64 x := by
  obtain ⟨x, h, _⟩ := Maps.keyOf_int_inv Tryz.underlying3 hk
  exact ⟨x, h⟩
def mkP (c : Nat) : Value := .pointer (some ⟨c, 0, none⟩)
theorem invV (v : Value) (y : DataW Unit × List MemPlace) (h : fileElem v = some y) : ∃ c, v = mkP c := by
  obtain ⟨b, h, _⟩ := fileElem_inv h
  exact ⟨b, h⟩
/-- a file that has come -/
theorem Disk.came {w : World} {B q : Nat} {rl : Nat → Option (Nat × Int)} {m : Int} {es : List Pap} {mb : Option Nat} {D : DataW Unit} {cO : Int → Nat} {vO : Int → Value} (h : Disk w B q rl m es mb D cO vO) {x : Int} {c : Nat} {kl : Lit} {y : DataW Unit} {z : List MemPlace} (hk : keyOf Tryz.prog 3 (.int .i64 x) = some kl) (hv : fileElem (mkP c) = some (y, z)) (hat : ∀ zd, D.atKey kl zd = y) : kl = .int .i64 x ∧ c = cO x ∧ ∃ e, fnd es x = some e := by
  obtain ⟨x', e1, rfl, _⟩ := Maps.keyOf_int_inv Tryz.underlying3 hk
  cases e1
  have hh := h.key x
  rw [Maps.has_true_of_atKey hat] at hh
  cases hf : fnd es x with
  | none => rw [hf] at hh; cases hh
  | some e =>
    refine ⟨rfl, ?_, e, rfl⟩
    have h1 := (hat .nil).symm.trans (h.ptr x e hf .nil)
    have h2 : (DataW.lit (.int .i64 (c : Int)) : DataW Unit) = y := by
      have : some ((DataW.lit (.int .i64 (c : Int)) : DataW Unit), ([] : List MemPlace)) = some (y, z) := hv
      exact congrArg Prod.fst (Option.some.inj this)
    rw [← h2] at h1
    simp only [DataW.lit.injEq, Lit.int.injEq, true_and] at h1
    omega
theorem Disk.keys {w : World} {B q : Nat} {rl : Nat → Option (Nat × Int)} {m : Int} {es : List Pap} {mb : Option Nat} {D : DataW Unit} {cO : Int → Nat} {vO : Int → Value} (h : Disk w B q rl m es mb D cO vO) (ht : Tidy m es) {left : Lit → Bool} {ss : List Int} (hC : CollectedI D left ss) (hl : ∀ kl, left kl = false) : ss.Perm (numL es) := by
  refine (List.perm_ext_iff_of_nodup hC.1 ?_).2 (fun x => ?_)
  · exact ((rise_num es).1 ht.rise).imp (fun hab e => by omega)
  · rw [hC.2 x, num_mem, h.key, hl]
    simp
def sumAt (es : List Pap) (ss : List Int) : Nat := (ss.map (sizeAt es)).sum
theorem sumAt_snoc (es : List Pap) (ss : List Int) (x : Int) : sumAt es (ss ++ [x]) = sumAt es ss + sizeAt es x := by simp [sumAt]
theorem sum_le (f : Int → Nat) : ∀ (ss L : List Int), ss.Nodup → (∀ x, x ∈ ss → x ∈ L) → (ss.map f).sum ≤ (L.map f).sum
  | [], L, _, _ => by simp
  | x :: ss, L, hnd, hs => by
    have hx := hs x (by simp)
    have hnd' := List.nodup_cons.1 hnd
    have ih := sum_le f ss (L.erase x) hnd'.2 (fun y hy => by
      have hne : y ≠ x := fun e => hnd'.1 (by rw [← e]; exact hy)
      exact (List.mem_erase_of_ne hne).2 (hs y (by simp [hy])))
    have hp : (L.map f).sum = ((x :: L.erase x).map f).sum := ((List.perm_cons_erase hx).map f).sum_nat
    rw [hp, List.map_cons, List.map_cons, List.sum_cons, List.sum_cons]
    omega
theorem sum_sub {es : List Pap} {D : DataW Unit} {m : Int} {left : Lit → Bool} {ss : List Int} (ht : Tidy m es) (hk : ∀ n, Maps.has D (.int .i64 n) = (fnd es n).isSome) (hC : CollectedI D left ss) : sumAt es ss ≤ used es := by
  rw [used_sum ht.rise]
  exact sum_le _ ss _ hC.1 (fun x hx => by rw [num_mem, ← hk]; exact ((hC.2 x).1 hx).1)

set_option maxHeartbeats 400000 in
theorem dused_any {w : World} {B q : Nat} {F : Nat → Prop} {m : Int} {es : List Pap} (hH : Has w B q F m es) (ht : Tidy m es) (hm : m ≤ 65536) :
    Calls Tryz.prog 28 #[.pointer (some ⟨q, 0, none⟩)] w fun e w' => e = .returned (.int .i64 (used es : Int)) ∧ Below w.heap.size w w' := by
  obtain ⟨rl, mb, D, cO, vO, hF, h⟩ := hH
  have k1 := h.c1
  have H := hide h
  have HT := hide ht
  have hfit := ht.fits
  rcases h.mp with ⟨rfl, rfl⟩ | ⟨b, rfl, hown⟩
  · have h0 : es = [] := by
      have := h.sz
      exact List.eq_nil_of_length_eq_zero this.symm
    subst h0
    have hrg := run_range_nilMap (P := Tryz.prog) w 87 3 107 Tryz.underlying87
    have hnx : ∀ ty, (Instr.next (.pointer (some ⟨w.heap.size, 0, none⟩)) false ty).run Tryz.prog (w.alloc (.mapIter none 0 #[] 0)) = _ := fun ty => run_next_nilMap w ty 0 0 #[]
    clear h hF ht hfit
    go_enter Tryz.func28, Tryz.ntmps28
    go_wp2_with fail
    refine wp_loop_rounds 1 ?_
    rw [rounds_succ]
    go_wp2_with fail
    go_ret
    exact ⟨rfl, (Below.refl _ _).alloc (Nat.le_refl _) _⟩
  · clear h hF ht
    go_enter Tryz.func28, Tryz.ntmps28
    go_wp2_with (first
      | (at_range; refine wpList_range_own _ rfl _ 87 rfl 3 107 lawK Tryz.underlying87 _ b _ _ rfl hown ?_; intro w0 hrg0 hg0 hs0)
      | go_in)
    go_frame
    clear k1
    go_loopw [3] (fun u wr => ∃ (left : Lit → Bool) (cnt : Nat) (ss : List Int), u = .int .i64 (sumAt es ss : Int) ∧ wr.ranges Tryz.prog 3 fileElem b w.heap.size (Maps.size D) D left cnt ∧ Hid (CollectedI D left ss) ∧ Below w.heap.size w wr) (fun _ wr => wr.rangeLeft b w.heap.size)
    case atStart =>
      exact ⟨_, _, [], rfl, hrg0, hide (CollectedI.start D), (Below.refl _ _).grown hg0 (Nat.le_refl _) (fun j hj => by cases hj)⟩
    case round =>
      obtain ⟨left, cnt, ss, rfl, hrg, hC, hb⟩ := hrel
      clear hrg0 hg0 hs0
      go_wp2_with (first
        | (at_next; refine wpList_next_ranges _ rfl _ rfl 3 lawK fileElem (Value.int .i64) mkP invK invV b w.heap.size _ _ _ _ rfl hrg ?_ ?_)
        | go_in)
      · intro _ hl0
        have hS := (unhide HT).used ((unhide H).keys (unhide HT) (unhide hC) hl0)
        have HS : Hid (sumAt es ss = used es) := hide hS
        clear hS
        go_wp2_with fail
        go_ret
        exact ⟨ret_int (by rw [unhide HS]), hb⟩
      · intro x c kl yd yp w2 cnt2 hkey hlk hv hat hrg2 hlt hg2 hs2 hen
        have hb2 := hb.grown hg2 hb.size (fun j hj => by cases hj; exact Nat.le_refl _)
        obtain ⟨rfl, rfl, e, hf⟩ := (unhide H).came hkey hv hat
        have hC2 := hide ((unhide hC).step hlk hat)
        have hfile := ((unhide H).keep (A := fun _ => False) (Chg.of_below hb2) (fun _ _ z => z)).file x e hf
        obtain ⟨a, cap, hvv, _, _⟩ := hfile.shape
        have d0 := hfile.c0
        rw [hvv] at d0
        have hz : sizeAt es x = e.text.size := by unfold sizeAt; rw [hf]
        have hle := sum_sub (unhide HT) (unhide H).key (unhide hC2)
        have HS := hide (sumAt_snoc es ss x)
        rw [unhide HS, hz] at hle
        rw [hz] at HS
        clear hs2 hfile hz hkey hlk hv hat hf hvv hb hg2
        unfold mkP at hen ⊢
        go_wp2_with fail
        go_roundw
        case rel => exact ⟨_, cnt2, ss ++ [x], by rw [unhide HS]; go_num, hrg2, hC2, hb2⟩
        case measure => rw [hrg2.left_eq, hrg.left_eq]; exact hlt
end Go.Proofs.YtohjipnkoiifhagGreatDoor.Dk
