/-
  For every text, every place and every row of 32 bits that is not zero: a text of at least four bytes, and the same text of which those bits are turned side by side, have unlike sums (PETERSON, BROWN): the law PackSums returns true.
-/
import Derived.Test.YtcnmhipmjleogaeWalkN4
import Derived.Test.YtcnmhipmjleogaePlainS
import Derived.ProofKit
import Derived.OpenShut
import Derived.SizedLaws
import Derived.Deep.DeepHandedRow
import Derived.LaidLaws
import Derived.Deep.RegionWith
namespace Go.Proofs.Ytcnmhipmjleogae.packSums
open Go.ChangeShapes Go.WideShapes Go.ChangeAt Go.RowKit
open Go.ChangeMaps (open_string shut_string)

/-- bytes that lie in a block, and may be written -/
def BRow (w : World) (g : Nat) (l : List UInt8) : Prop := g < w.heap.size ∧ ∀ j, j < l.length → w.cell? ⟨g, j, none⟩ = some (.int .u8 (Pk.at' l j : Int)) ∧ w.frozen? ⟨g, j, none⟩ = false

theorem conv_bytes (w : World) (s : ByteArray) : ∃ cap W, (convert 9 34 (.string s)).run Try.prog w = .ok (.slice (some ⟨w.heap.size, 0, none⟩) s.size cap) W ∧ BRow W w.heap.size s.data.toList ∧ Below w.heap.size w W := by
  refine ⟨_, _, run_bytes_of_string w 9 34 5 s Try.underlying9 Try.underlying34 Try.underlying5, ⟨by simp, fun j hj => ?_⟩, (Below.refl _ _).drew.alloc (Nat.le_refl _) _⟩
  have hj' : j < s.data.size := by simpa using hj
  refine ⟨?_, ?_⟩
  · have h1 := World.cell?_alloc_mark w.drew (bytesRow s (grownCap w s.size 0 5)) 5 ((bytesRow s (grownCap w s.size 0 5)).size, (bytesRow s (grownCap w s.size 0 5)).size + 1) j
    have h2 := bytesRow_at s (grownCap w s.size 0 5) j hj'
    rw [h2] at h1
    rw [Pk.at_get hj]
    exact h1
  · have h1 := World.frozen?_alloc_mark w.drew (bytesRow s (grownCap w s.size 0 5)) 5 (bytesRow s (grownCap w s.size 0 5)).size ((bytesRow s (grownCap w s.size 0 5)).size + 1) j
    have h3 : j < (bytesRow s (grownCap w s.size 0 5)).size := by
      unfold bytesRow; simp only [Array.size_append, Array.size_map]; omega
    rw [show (decide ((bytesRow s (grownCap w s.size 0 5)).size ≤ j)) = false from decide_eq_false (by omega)] at h1
    exact h1

set_option maxHeartbeats 400000 in
theorem rest_any (k : Int) (m : Nat) (w : World) (h0 : 0 < m) (h1 : m ≤ 2000000000000000000) :
    Calls Try.prog 10 #[.int .i64 k, .int .i64 m] w fun e w' => ∃ i : Nat, e = .returned (.int .i64 i) ∧ i < m ∧ w' = w := by
  have hm : ¬ ((m : Int) = 0) := by omega
  have hm2 : ¬ ((m : Int) = -1) := by omega
  have t1 : k.tmod m < m := Int.tmod_lt_of_pos k (by omega)
  have t2 : -(m : Int) < k.tmod m := by
    have := Int.tmod_lt_of_pos (-k) (show (0 : Int) < m by omega)
    rw [Int.neg_tmod] at this
    omega
  have z1 : -9223372036854775808 ≤ k.tmod m := by omega
  have z2 : k.tmod m ≤ 9223372036854775807 := by omega
  by_cases hr : k.tmod m < 0
  · go_enter Try.func10, Try.ntmps10
    go_wp2_with fail
    go_ret
    exact ⟨(k.tmod m + m).toNat, ret_int (by omega), by omega, rfl⟩
  · go_enter Try.func10, Try.ntmps10
    go_wp2_with fail
    go_ret
    exact ⟨(k.tmod m).toNat, ret_int (by omega), by omega, rfl⟩

theorem bit_of (T m : Nat) (hT : T < 4294967296) : bits .and .u32 ((T : Int) / 2 ^ m) 1 = ((T / 2 ^ m % 2 : Nat) : Int) := by
  have e : ((T : Int) / 2 ^ m) = ((T / 2 ^ m : Nat) : Int) := by simp
  rw [e, and_one _ (Nat.lt_of_le_of_lt (Nat.div_le_self _ _) hT)]

theorem flip_value (l : List UInt8) (j : Nat) : bits .xor .u8 ((Pk.at' l (j / 8) : Nat) : Int) (2 ^ (j % 8) % 256) = ((Pk.at' l (j / 8) ^^^ 2 ^ (j % 8) : Nat) : Int) := by
  have hp : 2 ^ (j % 8) < 256 := Nat.lt_of_le_of_lt (Nat.pow_le_pow_right (by decide) (show j % 8 ≤ 7 by omega)) (by decide)
  obtain ⟨P, hP⟩ : ∃ P, P = 2 ^ (j % 8) := ⟨_, rfl⟩
  have e : ((2 : Int) ^ (j % 8) % 256) = ((2 ^ (j % 8) : Nat) : Int) := by
    have : ((2 : Int) ^ (j % 8)) = ((2 ^ (j % 8) : Nat) : Int) := by simp
    rw [this, ← hP]
    rw [← hP] at hp
    omega
  rw [e, u8_xor_nat _ _ (Pk.at_lt l _) hp]
theorem cell_other (w : World) (p q : Addr) (v : Value) (h : p ≠ q) : (w.setCell p v).cell? q = w.cell? q := by
  first | exact World.cell?_setCell_other _ _ _ _ h | exact World.cell?_setCell_other h
theorem brow_flip {w : World} {g : Nat} {l : List UInt8} {j : Nat} (h : BRow w g l) (hj : j / 8 < l.length) :
    BRow ((w.setCell ⟨g, j / 8, none⟩ (.int .u8 (bits .xor .u8 ((Pk.at' l (j / 8) : Nat) : Int) (2 ^ (j % 8) % 256)))).drew) g (Pk.flip l j) := by
  refine ⟨by simpa using h.1, fun i hi => ?_⟩
  rw [Pk.flip_len] at hi
  have hc := h.2 i hi
  refine ⟨?_, ?_⟩
  · rw [World.cell?_drew, Pk.flip_at hj, flip_value]
    by_cases e : i = j / 8
    · rw [if_pos e, e]
      exact World.cell?_setCell_same' _ _ _ (by rw [(h.2 _ hj).1]; rfl)
    · rw [if_neg e, cell_other _ _ _ _ (by intro q; injection q; omega)]
      exact hc.1
  · have := hc.2
    simpa using this
theorem brow_conv {w : World} {g cap : Nat} {l : List UInt8} (h : BRow w g l) :
    (convert 34 9 (.slice (some ⟨g, 0, none⟩) l.length cap)).run Try.prog w = .ok (.string (bs l)) w := by
  refine run_convert_bytes_back w 34 9 5 ⟨g, 0, none⟩ cap l Try.underlying34 Try.underlying5 Try.underlying9 fun j hj => ?_
  rw [addp, Nat.zero_add, (h.2 j hj).1, Pk.at_get hj]

set_option maxRecDepth 100000 in
set_option maxHeartbeats 4000000 in
theorem walk_any (s : ByteArray) (a : Int) (turn : Int) (w : World) (hs : s.size ≤ 140737488355328) (_ha0 : -9223372036854775808 ≤ a) (_ha1 : a ≤ 9223372036854775807) (ht0 : 0 ≤ turn) (ht1 : turn ≤ 4294967295) :
    Calls Try.prog 5 #[.string s, .int .i64 a, .int .u32 turn] w fun e w' => e = .returned (.bool true) ∧ Below w.heap.size w w' := by
  obtain ⟨T, rfl⟩ := Int.eq_ofNat_of_zero_le ht0
  have hck := hide Pk.crc_check
  by_cases h4 : s.size < 4
  · go_enter Try.func5, Try.ntmps5
    go_wp2_with fail
    refine (sum_any _ _ (by decide)).mono ?_
    rintro e w1 ⟨rfl, rfl⟩
    rw [unhide hck]
    go_wp2_with fail
    go_ret
    exact ⟨rfl, Below.refl _ _⟩
  by_cases hz : T = 0
  · subst hz
    go_enter Try.func5, Try.ntmps5
    go_wp2_with fail
    refine (sum_any _ _ (by decide)).mono ?_
    rintro e w1 ⟨rfl, rfl⟩
    rw [unhide hck]
    go_wp2_with fail
    go_ret
    exact ⟨rfl, Below.refl _ _⟩
  have hz' : ((T : Int) == 0) = false := by simp; omega
  have h4' : 4 ≤ s.size := by omega
  have HZ := hide hz
  clear hz h4
  go_enter Try.func5, Try.ntmps5
  go_wp2_with fail
  refine (sum_any _ _ (by decide)).mono ?_
  rintro e w1 ⟨rfl, rfl⟩
  rw [unhide hck]
  go_wp2_with fail
  rw [show (8 : Int) * (s.size : Int) - 31 = ((8 * s.size - 31 : Nat) : Int) from by omega]
  refine (rest_any a _ _ (by omega) (by omega)).mono ?_
  rintro e w2 ⟨k, rfl, hk, rfl⟩
  obtain ⟨cap, W, hcv, hrow, hbel⟩ := conv_bytes w2 s
  have HC := hide hcv
  have HR := hide hrow
  clear hcv hrow
  go_wp2_with fail
  rw [unhide HC]
  go_wp2_with fail
  clear HC
  go_loopw [27] (fun i wr => ∃ (m : Nat) (l : List UInt8), m ≤ 32 ∧ i = .int .i64 m ∧ BRow wr w2.heap.size l ∧ Pk.Turned s.data.toList k T m l ∧ Below w2.heap.size w2 wr) (fun i _ => 32 - (intOf i).toNat)
  case atStart => exact ⟨0, s.data.toList, by omega, rfl, unhide HR, Pk.turned_none _ _ _, hbel⟩
  case round =>
    obtain ⟨m, l, hm, rfl, hrow, htu, hb⟩ := hrel
    have hlen : l.length = s.size := by rw [htu.1]; simp
    have HT := hide htu
    have HL := hide hlen
    by_cases hlt : m < 32
    · have e1 := bit_of T m (by omega)
      have hq8 : (k + m) / 8 < l.length := by omega
      obtain ⟨hcell, hfree⟩ := hrow.2 ((k + m) / 8) hq8
      have HRow := hide hrow
      clear hrow htu hlen
      rcases Nat.mod_two_eq_zero_or_one (T / 2 ^ m) with ho | ho
      · rw [ho] at e1
        have HO := hide ho
        clear ho hcell hfree hq8
        go_wp2_with fail
        go_roundw
        case rel => exact ⟨m + 1, l, by omega, by go_num, unhide HRow, Pk.turned_stay (unhide HT) (unhide HO), hb⟩
        case measure => simp [intOf]; omega
      · rw [ho] at e1
        have HO := hide ho
        have HQ := hide hq8
        clear ho hq8
        go_wp2_with fail
        go_region
        have hb2 : Below w2.heap.size w2 ((wr.setCell ⟨w2.heap.size, (k + m) / 8, none⟩ (.int .u8 (bits .xor .u8 ((Pk.at' l ((k + m) / 8) : Nat) : Int) (2 ^ ((k + m) % 8) % 256)))).drew) := (hb.setCell (Nat.le_refl _) _).drew
        have R := hide (brow_flip (unhide HRow) (unhide HQ))
        clear hcell hfree hb
        go_wp2_with fail
        go_roundw
        case rel => exact ⟨m + 1, Pk.flip l (k + m), by omega, by go_num, unhide R, Pk.turned_flip (unhide HT) (unhide HO) (unhide HQ), hb2⟩
        case measure => simp [intOf]; omega
    · obtain rfl : m = 32 := by omega
      have hne := Pk.turned_sums htu (by omega) (unhide HZ) (by simp; omega)
      have hne2 : (((Pk.crc l : Nat) : Int) != ((Pk.crc s.data.toList : Nat) : Int)) = true := by simp; omega
      have hcv := brow_conv (cap := cap) hrow
      rw [hlen] at hcv
      have HC := hide hcv
      clear hcv hrow htu hlen hne
      go_wp2_with fail
      rw [unhide HC]
      go_wp2_with fail
      refine (sum_any _ _ (by rw [bs_size, unhide HL]; omega)).mono ?_
      rintro e w3 ⟨rfl, rfl⟩
      rw [bs_list]
      go_wp2_with fail
      refine (sum_any s _ (by omega)).mono ?_
      rintro e w4 ⟨rfl, rfl⟩
      go_wp2_with fail
      go_ret
      exact ⟨rfl, hb⟩

theorem own : ownKnob Try.prog.godebug = none := by kernel_rfl

theorem contract (H : Type) (enc : TypeId × Value → H) (W : World) (base : Nat) (args : Array Value) (ds gs : List (DataW H)) (before : List MemPlace)
    (hval : ∀ (j : Nat) t v, Try.f5.params[j]? = some t → args[j]? = some v → Value.okWide Try.prog W .any base t v)
    (hW : DataW.Whole enc Try.prog Try.f5.params.toList Rows.packSumsSpec.vars false W args.toList ds gs before)
    (hsz : (DataW.weightsEach Try.prog (Try.f5.params.toList ++ (OpenSpec.ofChange Rows.packSumsSpec).bare.plain.varTypes Try.prog) (ds ++ gs)).all (· ≤ reachBytes) = true) :
    Calls Try.prog 5 args W fun e W' => ∃ v, e = .returned v ∧ Rows.packSumsSpec.post enc Try.prog Try.f5 false true false false W args v W' := by
  have hW' := hW
  obtain ⟨p, q, hA0, hV, rfl, hfz, hnd⟩ := hW
  have hA : DataW.TrodAll enc Try.prog W 0 (fun _ => true) true Try.f5.params.toList args.toList ds p := hA0
  rw [Try.params5] at hA hval hsz
  obtain ⟨v0, vs0, d0, ds0, p0, q0, hargs, rfl, rfl, h0, r0⟩ := trodAll_cons hA
  obtain ⟨v1, vs1, d1, ds1, p1, q1, rfl, rfl, rfl, h1, r1⟩ := trodAll_cons r0
  obtain ⟨v2, vs2, d2, ds2, p2, q2, rfl, rfl, rfl, h2, r2⟩ := trodAll_cons r1
  obtain ⟨rfl, rfl, rfl⟩ := trodAll_nil r2
  obtain rfl : args = #[v0, v1, v2] := by cases args; simp_all
  obtain ⟨rfl, rfl⟩ := trodVars_none hV
  obtain ⟨a0, rfl, rfl, rfl, ws0⟩ := open_string Try.underlying9 (hval 0 9 v0 rfl rfl) h0
  obtain ⟨a1, rfl, rfl, rfl, ws1⟩ := open_int Try.underlying3 (hval 1 3 v1 rfl rfl) h1
  obtain ⟨a2, rfl, rfl, rfl, ws2⟩ := open_int Try.underlying32 (hval 2 32 v2 rfl rfl) h2
  clear hA0
  simp only [List.append_nil] at hW'
  have z0 : a0.size ≤ 140737488351232 := by
    have h := sized_string hsz (j := 0) (t := 9) rfl rfl
    have e : a0.data.toList.length = a0.size := by simp
    unfold reachBytes at h
    omega
  have z1 : -9223372036854775808 ≤ a1 ∧ a1 ≤ 9223372036854775807 := by simpa [Lit.wf, IntKind.min, IntKind.max, IntKind.signed, IntKind.bits] using ws1
  have z2 : 0 ≤ a2 ∧ a2 ≤ 4294967295 := by simpa [Lit.wf, IntKind.min, IntKind.max, IntKind.signed, IntKind.bits] using ws2
  refine (walk_any a0 a1 a2 W (Nat.le_trans z0 (by decide)) z1.1 z1.2 z2.1 z2.2).mono fun e W' ⟨he, hb⟩ => ?_
  subst he
  exact ⟨_, rfl, _, _, _, [], [], [], hW', trodAll_cons_mk (shut_bool Try.underlying4 _) trodAll_mk0, (trodAll_cons_mk (shut_string Try.underlying9 ws0) (trodAll_cons_mk (shut_int Try.underlying3 ws1) (trodAll_cons_mk (shut_int Try.underlying32 ws2) trodAll_mk0))), rfl, hb.frame _, fun h => by cases h⟩

theorem reads (os : Os) {H : Type} (enc : TypeId × Value → H) : ∃ places, DataW.whole enc Try.prog ((World.holding Try.prog os ⟨#[], #[], []⟩).forCall (fun _ _ => 0) ⟨#[], #[.string ⟨#[]⟩, .int .i64 0, .int .u32 0], []⟩).memory Try.f5.params.toList Rows.packSumsSpec.vars false #[Value.string ⟨#[]⟩, Value.int .i64 0, Value.int .u32 0].toList 8 = some ([.lit (.string []), .lit (.int .i64 0), .lit (.int .u32 0)], [], places) :=
  ⟨[], by kernel_rfl⟩
theorem laid_met (os : Os) : laidMet Try.prog Rows.packSumsRow.laid ((World.holding Try.prog os ⟨#[], #[], []⟩).forCall (fun _ _ => 0) ⟨#[], #[.string ⟨#[]⟩, .int .i64 0, .int .u32 0], []⟩).memory :=
  laidMet_of_run' 8 (by kernel_rfl) (by kernel_rfl)

set_option maxRecDepth 100000 in
theorem lifted (os : Os) (started : os.Started) (H : Type) (enc : TypeId × Value → H) (F : Stop.Interp) :
    ReturnsInHanded {} Try.checked os 5 .any ((OpenSpec.ofChange Rows.packSumsSpec).preRow enc Try.prog Try.f5 Rows.packSumsRow.domain false Rows.packSumsRow.laid) (((OpenSpec.ofChange Rows.packSumsSpec).at F).post enc Try.prog Try.f5 false true false false) := by
  obtain ⟨places, hx⟩ := reads os enc
  refine returnsInHanded_of_row (C := Try.checked) (s := OpenSpec.ofChange Rows.packSumsSpec) own started (by kernel_rfl) Try.func5
    (witness_row_at (enc := enc) (C := Try.checked) false (World.holding Try.prog os ⟨#[], #[], []⟩) #[.string ⟨#[]⟩, .int .i64 0, .int .u32 0] rfl (by kernel_rfl) (by kernel_rfl) (by kernel_rfl)
      (OpenSpec.preRow_of_cond 8 hx (by kernel_rfl) (fun k hk => by cases hk) (by kernel_rfl) (laid_met os))) ?_
  intro W base args ds gs before hval hW _ _ hsz _ _ _
  exact contract H enc W base args ds gs before hval hW hsz

theorem said : Rows.PackSumsSaid :=
  OpenClaim.holds_of_cond 5 Try.f5 rfl rfl rfl rfl rfl rfl rfl ⟨rfl, rfl, rfl, rfl, rfl⟩ rfl rfl rfl rfl rfl (by kernel_rfl) Try.func5 (by kernel_rfl)
    (of_decide_eq_true (by kernel_rfl)) (by unfold Func.isWrapper; first | (rw [if_pos (by decide +kernel)]; kernel_rfl) | (rw [if_neg (by decide +kernel)]; exact ⟨rfl, rfl⟩))
    (fun os started H enc _ F => by rw [OpenClaim.pre_eq_preRow]; exact lifted os started H enc F)
end Go.Proofs.Ytcnmhipmjleogae.packSums
