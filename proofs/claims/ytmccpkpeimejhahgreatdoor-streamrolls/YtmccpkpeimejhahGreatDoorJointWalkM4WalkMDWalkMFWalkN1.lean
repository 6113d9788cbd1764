/-
  Contract of the program's disk: List, the map's keys, sorted.
  The program's disk does what is asked of a disk, Cut and List too.
  The program's disk does what a log asks of List, Read, Try and Remove.
  Contract of pack.Sum: the CRC-32 of the text's bytes.
-/
import Derived.Test.YtmccpkpeimejhahGreatDoorJointWalkM3WalkM5WalkM6WalkM7
import Derived.Test.YtmccpkpeimejhahGreatDoorShelfM
import Derived.Test.YtmccpkpeimejhahGreatDoorJointPapMWorksDWorksEPlainN
import Derived.Test.YtmccpkpeimejhahGreatDoorJointWalkM8WalkM9WalkMC
import Derived.Test.YtmccpkpeimejhahGreatDoorJointWorksFRowMWalkM1WalkM2
import Derived.Test.YtmccpkpeimejhahGreatDoorRows
import Derived.Test.YtmccpkpeimejhahGreatDoorJointBase0RowTmPlainPapPa
import Derived.WalkKit
import Derived.WalkSpells
import Derived.WalkLawsBesides
import Derived.Deep.QuietTactic
import Derived.BigQuiet
import Derived.Laws.BitsAllLaws
namespace Go.Proofs.YtmccpkpeimejhahGreatDoor.Dk
open Go.RowKit Go.Sort Go.Shelf

theorem sortsA (m : Nat) : AnyZI.SortsIn Tryz.prog Tryz.sortedA_ren Fence.wide m :=
  ⟨fun blk off cap ss W hH hblk hsz => callsIn_wide.2 (AnyM.slices_Sort_int Tryz.sortA blk off cap ss W hH hblk hsz),
   fun p cap W => callsIn_wide.2 (AnyM.slices_Sort_int_none Tryz.sortA p cap W)⟩
theorem sorted_num {m : Int} {es : List Pap} (ht : Tidy m es) {ss : List Int} (hp : ss.Perm (numL es)) : ss.mergeSort (fun x y => decide (x ≤ y)) = numL es := by
  rw [show ss.mergeSort (fun x y => decide (x ≤ y)) = (numL es).mergeSort (fun x y => decide (x ≤ y)) from mergeSort_of_perm_i hp]
  refine List.mergeSort_of_pairwise (((rise_num es).1 ht.rise).imp (fun h => ?_))
  rw [decide_eq_true_eq]
  omega
theorem sl_row {w : World} {B : Nat} {v : Value} {l : List Int} (h : w.ownsRow B 3 1 v l.length (l.map encZ)) : ∃ a c, v = .slice a l.length c ∧ SlI w a l := by
  rcases h.2 with ⟨h1, h2⟩ | ⟨g, cap, cur, h1, h2, h3, _⟩
  · exact ⟨none, 0, by rw [h1, h2], fun k hk => by omega⟩
  · refine ⟨some ⟨g, 0, none⟩, cap, h1, fun k hk => ⟨g, 0, rfl, (Array.getElem?_eq_some_iff.1 h3).1, ?_⟩⟩
    subst h1
    rw [World.ownsRow.cellAt h (0 + k) (by omega), Nat.zero_add]
    unfold nth
    rw [List.getElem?_map, List.getElem?_eq_getElem hk]
    rfl

set_option maxHeartbeats 1000000 in
theorem keys_list {w : World} {q b : Nat} {D : DataW Unit} (k1 : w.cell? ⟨q, 1, none⟩ = some (.map (some b))) (hown : w.ownsMap Tryz.prog 3 fileElem b (Maps.size D) D) (hmax : Maps.size D ≤ 20) :
    Calls Tryz.prog 91 #[.pointer (some ⟨q, 0, none⟩)] w fun e w' => ∃ (v : Value) (ss : List Int), e = .returned v ∧ ss.Perm (intKeys D) ∧ w'.ownsRow w.heap.size 3 1 v ss.length ((ss.mergeSort (fun x y => decide (x ≤ y))).map encZ) ∧ Below w.heap.size w w' := by
  refine (callsIn_wide (n := 6)).1 ?_
  have hbl := hown.lt
  have hseq : SeqGives Fence.wide 2 Tryz.prog 143 #[.pointer (some ⟨w.heap.size, 0, none⟩)] encZ (fun ss => ss.Perm (intKeys D)) (Maps.size D) (w.alloc (.cells #[.map (some b)] 101)) :=
    AnyZI.keys_gives (ρ := Tryz.keysA_ren) { Tryz.keysA with } Fence.wide _ trivial rfl (by omega) w.heap.size b (Maps.size D) D _ (by simp) (by simp) (by
      obtain ⟨es, clock, hb, Ft, hs, hD⟩ := hown
      exact ⟨es, clock, (Below.heap_alloc _ _ b hbl).trans hb, Ft, hs, hD⟩)
  have cK : ∀ mb W, CallsIn Fence.wide 5 Tryz.prog 122 #[.map mb] W fun e w' => e = .returned (.func (.func 143) #[] #[.pointer (some ⟨W.heap.size, 0, none⟩)]) ∧ w' = W.alloc (.cells #[.map mb] 101) := fun mb W => AnyZI.keys_in Tryz.keysA Fence.wide 5 trivial rfl mb W
  have cS := AnyZI.sorted_in Tryz.sortedA Fence.wide 5 trivial trivial trivial trivial rfl (by omega) (sortsA _) (enters_of Tryz.func142 (by kernel_rfl) rfl) 143 #[.pointer (some ⟨w.heap.size, 0, none⟩)] trivial (enters_of Tryz.func143 (by kernel_rfl) rfl) _ (Maps.size D) (by unfold maxLen; omega) (by omega) _ hseq
  change CallsIn _ _ Tryz.prog 121 _ _ _ at cS
  have hfK : Fence.wide.fn 122 := trivial
  have hfS : Fence.wide.fn 121 := trivial
  refine callsIn_of_wp Tryz.func91 rfl trivial ?_ rfl
  simp only [Tryz.ntmps91, List.size_toArray, List.length_cons, List.length_nil, Nat.reduceAdd, Nat.reduceSub, Array.replicate_succ, Array.replicate_zero, List.push_toArray, List.append_toArray, List.nil_append, List.cons_append]
  gi_wp2_with (first
    | (gi_at_call 122; refine (cK _ _).mono ?_; rintro e w' ⟨rfl, rfl⟩)
    | (gi_at_call 121; refine cS.mono ?_; rintro e w' ⟨v, ss, rfl, hS, hrow, hnil, hb⟩))
  go_ret
  exact ⟨v, ss, rfl, hS, ownsRow_base_a hrow (by simp), ((Below.refl _ w).alloc (Nat.le_refl _) _).trans (hb.mono (by simp))⟩

set_option maxHeartbeats 1000000 in
theorem keys_nil {w : World} {q : Nat} (k1 : w.cell? ⟨q, 1, none⟩ = some (.map none)) :
    Calls Tryz.prog 91 #[.pointer (some ⟨q, 0, none⟩)] w fun e w' => e = .returned (.slice none 0 0) ∧ Below w.heap.size w w' := by
  refine (callsIn_wide (n := 6)).1 ?_
  have hseq : SeqGives Fence.wide 2 Tryz.prog 143 #[.pointer (some ⟨w.heap.size, 0, none⟩)] encZ (fun ss : List Int => ss = []) 0 (w.alloc (.cells #[.map none] 101)) :=
    AnyZI.keys_gives_nil (ρ := Tryz.keysA_ren) { Tryz.keysA with } Fence.wide _ trivial rfl w.heap.size _ (by simp) (by simp)
  have cK : ∀ mb W, CallsIn Fence.wide 5 Tryz.prog 122 #[.map mb] W fun e w' => e = .returned (.func (.func 143) #[] #[.pointer (some ⟨W.heap.size, 0, none⟩)]) ∧ w' = W.alloc (.cells #[.map mb] 101) := fun mb W => AnyZI.keys_in Tryz.keysA Fence.wide 5 trivial rfl mb W
  have cS := AnyZI.sorted_in Tryz.sortedA Fence.wide 5 trivial trivial trivial trivial rfl (by omega) (sortsA _) (enters_of Tryz.func142 (by kernel_rfl) rfl) 143 #[.pointer (some ⟨w.heap.size, 0, none⟩)] trivial (enters_of Tryz.func143 (by kernel_rfl) rfl) _ 0 (Nat.zero_le _) (by omega) _ hseq
  change CallsIn _ _ Tryz.prog 121 _ _ _ at cS
  have hfK : Fence.wide.fn 122 := trivial
  have hfS : Fence.wide.fn 121 := trivial
  refine callsIn_of_wp Tryz.func91 rfl trivial ?_ rfl
  simp only [Tryz.ntmps91, List.size_toArray, List.length_cons, List.length_nil, Nat.reduceAdd, Nat.reduceSub, Array.replicate_succ, Array.replicate_zero, List.push_toArray, List.append_toArray, List.nil_append, List.cons_append]
  gi_wp2_with (first
    | (gi_at_call 122; refine (cK _ _).mono ?_; rintro e w' ⟨rfl, rfl⟩)
    | (gi_at_call 121; refine cS.mono ?_; rintro e w' ⟨v, ss, rfl, rfl, hrow, hnil, hb⟩; obtain rfl : v = .slice none 0 0 := hnil.2 rfl))
  go_ret
  exact ⟨rfl, ((Below.refl _ w).alloc (Nat.le_refl _) _).trans (hb.mono (by simp))⟩

theorem dlist_any {w : World} {B q : Nat} {F : Nat → Prop} {m : Int} {es : List Pap} (hH : Has w B q F m es) (ht : Tidy m es) :
    Calls Tryz.prog 91 #[.pointer (some ⟨q, 0, none⟩)] w fun e w' => ∃ a c, e = .returned (.slice a es.length c) ∧ SlI w' a (numL es) ∧ Did Has w w' B q F m es := by
  have HH := hH
  obtain ⟨rl, mb, D, cO, vO, hF, h⟩ := hH
  have hlen : (numL es).length = es.length := by unfold numL; rw [List.length_map]
  have hsz := h.sz
  have hfew := ht.few
  rcases h.mp with ⟨rfl, rfl⟩ | ⟨b, rfl, hown⟩
  · obtain rfl : es = [] := List.eq_nil_of_length_eq_zero hsz.symm
    refine (keys_nil h.c1).mono ?_
    rintro e w' ⟨rfl, hb⟩
    exact ⟨none, 0, rfl, fun k hk => absurd hk (Nat.not_lt_zero k), did_new HH hb⟩
  · refine (keys_list h.c1 hown (by omega)).mono ?_
    rintro e w' ⟨v, ss, rfl, hp, hrow, hb⟩
    have hC : CollectedI D (fun _ => false) (numL es) := ⟨((rise_num es).1 ht.rise).imp (fun hab e => by omega), fun x => by rw [num_mem, h.key]; simp⟩
    have hp2 : ss.Perm (numL es) := hp.trans (hC.perm hown lawK Tryz.underlying3 (fun _ => rfl)).symm
    rw [sorted_num ht hp2] at hrow
    have hl2 : ss.length = (numL es).length := hp2.length_eq
    rw [hl2] at hrow
    obtain ⟨a, c, rfl, hs⟩ := sl_row hrow
    rw [hlen]
    exact ⟨a, c, rfl, hs, did_new HH hb⟩
/-- List hands a new row and leaves the disk -/
theorem dlist_new {w : World} {B q : Nat} {F : Nat → Prop} {m : Int} {es : List Pap} (hH : Has w B q F m es) (ht : Tidy m es) :
    Calls Tryz.prog 91 #[.pointer (some ⟨q, 0, none⟩)] w fun e w' => ∃ a c, e = .returned (.slice a es.length c) ∧ (es.length ≤ c ∧ c ≤ maxLen) ∧ SlI w' a (numL es) ∧ (∀ z, a = some z → w.heap.size ≤ z.block ∧ z.block < w'.heap.size) ∧ Below w.heap.size w w' := by
  obtain ⟨rl, mb, D, cO, vO, hF, h⟩ := hH
  have hlen : (numL es).length = es.length := by unfold numL; rw [List.length_map]
  have hsz := h.sz
  have hfew := ht.few
  rcases h.mp with ⟨rfl, rfl⟩ | ⟨b, rfl, hown⟩
  · obtain rfl : es = [] := List.eq_nil_of_length_eq_zero hsz.symm
    refine (keys_nil h.c1).mono ?_
    rintro e w' ⟨rfl, hb⟩
    exact ⟨none, 0, rfl, ⟨Nat.le_refl _, Nat.zero_le _⟩, fun k hk => absurd hk (Nat.not_lt_zero k), fun z hz => (by cases hz), hb⟩
  · refine (keys_list h.c1 hown (by omega)).mono ?_
    rintro e w' ⟨v, ss, rfl, hp, hrow, hb⟩
    have hC : CollectedI D (fun _ => false) (numL es) := ⟨((rise_num es).1 ht.rise).imp (fun hab e => by omega), fun x => by rw [num_mem, h.key]; simp⟩
    have hp2 : ss.Perm (numL es) := hp.trans (hC.perm hown lawK Tryz.underlying3 (fun _ => rfl)).symm
    rw [sorted_num ht hp2] at hrow
    have hl2 : ss.length = (numL es).length := hp2.length_eq
    rw [hl2] at hrow
    have hrow2 := hrow
    have hcap : ∀ a c, v = .slice a (numL es).length c → (numL es).length ≤ c ∧ c ≤ maxLen := fun a c hv => by
      rcases hrow2.2 with ⟨h1, h2⟩ | ⟨g, cap, cur, h1, h2, h3, h4, h5, _⟩
      · rw [hv] at h1
        obtain ⟨_, e2, e3⟩ := Value.slice.inj h1
        rw [e2, e3]
        exact ⟨Nat.le_refl _, Nat.zero_le _⟩
      · rw [hv] at h1
        obtain ⟨_, _, rfl⟩ := Value.slice.inj h1
        exact ⟨h4, h5⟩
    have hblk : ∀ a c z, v = .slice a (numL es).length c → a = some z → w.heap.size ≤ z.block ∧ z.block < w'.heap.size := fun a c z hv hz => by
      refine World.ownsRow.lt hrow2 z.block ?_
      rw [hv, hz]
      rcases hrow2.2 with ⟨h1, _⟩ | ⟨g, cap, cur, h1, _⟩
      · rw [hv, hz] at h1; cases (Value.slice.inj h1).1
      · rw [hv, hz] at h1
        obtain rfl := Option.some.inj (Value.slice.inj h1).1
        rfl
    obtain ⟨a, c, rfl, hs⟩ := sl_row hrow
    have h1 := hcap a c rfl
    have h2 := hblk a c
    rw [hlen] at h1 h2 ⊢
    exact ⟨a, c, rfl, h1, hs, fun z hz => h2 z rfl hz, hb⟩
end Go.Proofs.YtmccpkpeimejhahGreatDoor.Dk

namespace Go.Proofs.YtmccpkpeimejhahGreatDoor.Dk
open Go.RowKit

theorem more : More Has := {
  works := works
  cut := fun n size hn h ht _ _ => dcut_any n size hn h ht
  list := fun h ht _ _ => dlist_any h ht }
end Go.Proofs.YtmccpkpeimejhahGreatDoor.Dk

namespace Go.Proofs.YtmccpkpeimejhahGreatDoor.Dk
open Go.RowKit

theorem lists : Lists Has := {
  list := fun h ht _ _ => dlist_new h ht
  reads := fun n hn h _ _ _ => (dread_any n hn h).mono (fun e w' ⟨h1, h2⟩ => ⟨h1, by subst h2; exact Below.refl _ _⟩)
  tries := fun n s h ht hm hs _ => dtry_any n s h ht hm hs
  drops := fun n hn h ht _ _ => dremove_left n hn h ht }
end Go.Proofs.YtmccpkpeimejhahGreatDoor.Dk

namespace Go.Proofs.YtmccpkpeimejhahGreatDoor
open Go.RowKit

/-- the byte at a place -/
theorem byte_at (s : ByteArray) {k : Nat} (h : k < s.size) : s[k].toNat = Pk.at' s.data.toList k := by
  rw [Pk.at_get (by simpa using h)]; rfl
/-- pack's register behind m bits of byte k -/
def rg (l : List UInt8) (k m : Nat) : Nat := Pk.reg (Pk.bitAt l) (8 * k + m) ^^^ (Pk.at' l k / 2 ^ m)
theorem rg_lt (l : List UInt8) (k m : Nat) : rg l k m < 4294967296 :=
  Nat.xor_lt_two_pow (n := 32) (Pk.reg_lt (Pk.bitAt_lt l) _) (Nat.lt_of_le_of_lt (Nat.div_le_self _ _) (by have := Pk.at_lt l k; omega))
theorem rg_zero (l : List UInt8) (k : Nat) : rg l k 0 = Pk.reg (Pk.bitAt l) (8 * k) ^^^ Pk.at' l k := by unfold rg; simp
theorem rg_eight (l : List UInt8) (k : Nat) : rg l k 8 = Pk.reg (Pk.bitAt l) (8 * (k + 1)) := by
  unfold rg
  rw [Nat.div_eq_of_lt (by have := Pk.at_lt l k; omega), Nat.xor_zero]
  rfl
theorem rg_succ (l : List UInt8) {k m : Nat} (hm : m < 8) : rg l k (m + 1) = Pk.Z (rg l k m) := by
  unfold rg
  rw [← Nat.add_assoc, Pk.reg, Pk.bitAt, show (8 * k + m) / 8 = k from by omega, show (8 * k + m) % 8 = m from by omega]
  have hz : ∀ x, Pk.Z x = Pk.Z (x % 2) ^^^ (x / 2) := by
    intro x
    unfold Pk.Z
    have : x % 2 / 2 = 0 := by omega
    rw [this, Nat.zero_xor, Nat.mod_mod, Nat.xor_comm]
  rw [Pk.Z_xor, Pk.Z_xor _ (Pk.at' l k / 2 ^ m), hz (Pk.at' l k / 2 ^ m), Nat.pow_succ, ← Nat.div_div_eq_div_mul]
  ac_rfl
theorem Z_odd {r : Nat} (h : r % 2 = 1) : Pk.Z r = r / 2 ^^^ 3988292384 := by unfold Pk.Z; rw [if_pos h]
theorem Z_even {r : Nat} (h : r % 2 = 0) : Pk.Z r = r / 2 := by unfold Pk.Z; rw [if_neg (by omega), Nat.xor_zero]
theorem ones_xor {r : Nat} (h : r < 4294967296) : r ^^^ 4294967295 = 4294967295 - r := by
  apply Nat.eq_of_testBit_eq
  intro i
  have h1 := Nat.testBit_two_pow_sub_succ (n := 32) h i
  have e : 2 ^ 32 - (r + 1) = 4294967295 - r := by omega
  rw [e] at h1
  rw [h1, Nat.testBit_xor, show (4294967295 : Nat) = 2 ^ 32 - 1 from rfl, Nat.testBit_two_pow_sub_one]
  by_cases hi : i < 32
  · simp [hi]
  · have : r.testBit i = false := Nat.testBit_lt_two_pow (Nat.lt_of_lt_of_le h (show 2 ^ 32 ≤ 2 ^ i from Nat.pow_le_pow_right (by decide) (by omega)))
    simp [hi, this]

theorem and_one (r : Nat) (h : r < 4294967296) : bits .and .u32 (r : Int) 1 = ((r % 2 : Nat) : Int) := by
  rw [show (1 : Int) = ((1 : Nat) : Int) from rfl, u32_and_nat _ _ h (by decide), nat_mask1]
theorem xor_poly (r : Nat) (h : r < 4294967296) : bits .xor .u32 ((r : Int) / 2) 3988292384 = ((r / 2 ^^^ 3988292384 : Nat) : Int) := by
  rw [show (3988292384 : Int) = ((3988292384 : Nat) : Int) from rfl, show (r : Int) / 2 = ((r / 2 : Nat) : Int) from by omega, u32_xor_nat _ _ (by omega) (by decide)]
theorem xor_ones (r : Nat) (h : r < 4294967296) : bits .xor .u32 (r : Int) 4294967295 = ((4294967295 - r : Nat) : Int) := by
  rw [show (4294967295 : Int) = ((4294967295 : Nat) : Int) from rfl, u32_xor_nat _ _ h (by decide), ones_xor h]

set_option maxHeartbeats 1000000 in
theorem sum_any (s : ByteArray) (w : World) (hs : s.size ≤ 1000000000000000000) :
    Calls Tryz.prog 139 #[.string s] w fun e w' => e = .returned (.int .u32 (Pk.crc s.data.toList)) ∧ w' = w := by
  go_enter Tryz.func139, Tryz.ntmps139
  go_wp2_with fail
  go_loop [3, 8] (fun r i => ∃ k : Nat, k ≤ s.size ∧ i = .int .i64 k ∧ r = .int .u32 ((Pk.reg (Pk.bitAt s.data.toList) (8 * k) : Nat) : Int)) (fun _ i => s.size - (intOf i).toNat)
  case atStart => exact ⟨0, Nat.zero_le _, rfl, rfl⟩
  case round =>
    obtain ⟨k, hk, rfl, rfl⟩ := hrel
    by_cases hlt : k < s.size
    · have hx : bits .xor .u32 ((Pk.reg (Pk.bitAt s.data.toList) (8 * k) : Nat) : Int) ((s[k].toNat : Int) % 4294967296) = ((rg s.data.toList k 0 : Nat) : Int) := by
        have := Pk.at_lt s.data.toList k
        rw [byte_at s hlt, show ((Pk.at' s.data.toList k : Int)) % 4294967296 = (Pk.at' s.data.toList k : Int) from by omega, u32_xor_nat _ _ (Pk.reg_lt (Pk.bitAt_lt _) _) (by omega), rg_zero]
      have Hx := hide hx
      clear hx
      go_wp2_with fail
      simp only [unhide Hx]
      go_loop [3, 17] (fun r j => ∃ m : Nat, m ≤ 8 ∧ j = .int .i64 m ∧ r = .int .u32 ((rg s.data.toList k m : Nat) : Int)) (fun _ j => 8 - (intOf j).toNat)
      case atStart => exact ⟨0, by omega, rfl, rfl⟩
      case round =>
        obtain ⟨m, hm, rfl, rfl⟩ := hrel
        have hl := rg_lt s.data.toList k m
        by_cases hm8 : m < 8
        · have hn := rg_succ s.data.toList (k := k) hm8
          have e1 := and_one _ hl
          have e2 := xor_poly _ hl
          rcases Nat.mod_two_eq_zero_or_one (rg s.data.toList k m) with ho | ho
          · rw [Z_even ho] at hn
            rw [ho] at e1
            have Hn := hide hn
            clear hn ho e2
            go_wp2_with fail
            go_round
            case rel => exact ⟨m + 1, by omega, by go_num, by rw [unhide Hn]; simp⟩
            case measure => simp [intOf]; omega
          · rw [Z_odd ho] at hn
            rw [ho] at e1
            rw [← hn] at e2
            clear hn ho
            go_wp2_with fail
            go_round
            case rel => exact ⟨m + 1, by omega, by go_num, rfl⟩
            case measure => simp [intOf]; omega
        · obtain rfl : m = 8 := by omega
          have h8 := hide (rg_eight s.data.toList k)
          go_wp2_with fail
          go_round
          case rel => exact ⟨k + 1, by omega, by go_num, by rw [unhide h8]⟩
          case measure => simp [intOf]; omega
    · obtain rfl : k = s.size := by omega
      have hx := xor_ones _ (Pk.reg_lt (Pk.bitAt_lt s.data.toList) (8 * s.size))
      have Hx := hide hx
      clear hx
      go_wp2_with fail
      go_ret
      refine ⟨ret_int ?_, rfl⟩
      rw [unhide Hx, Pk.crc]
      simp
end Go.Proofs.YtmccpkpeimejhahGreatDoor
