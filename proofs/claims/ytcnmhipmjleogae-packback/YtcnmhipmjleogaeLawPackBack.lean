/-
  For every number, all texts and every place: numbers and texts are read as they were written, whatever stands behind them, and a beginning of a written text asks for more: the law PackBack returns true.
-/
import Derived.Test.YtcnmhipmjleogaeWalkN4
import Derived.ProofKit
import Derived.OpenShut
import Derived.SizedLaws
import Derived.Deep.DeepHandedRow
import Derived.LaidLaws
import Derived.Deep.RegionWith
namespace Go.Proofs.Ytcnmhipmjleogae.packBack
open Go.ChangeShapes Go.WideShapes Go.ChangeAt Go.RowKit
open Go.ChangeMaps (open_string shut_string)

theorem cut_front (s : ByteArray) (k : Nat) : s.extract 0 k = bs (s.data.toList.take k) := by
  have := cut_list s 0 k
  simpa using this
theorem enc_300 : Pk.enc 300 = [172, 2] := by
  rw [Pk.enc_large (by decide), Pk.enc_small (by decide)]
  rfl

set_option maxHeartbeats 400000 in
theorem rest_any (k : Int) (m : Nat) (w : World) (h0 : 0 < m) (h1 : m ≤ 1000000000000000000) :
    Calls Try.prog 10 #[.int .i64 k, .int .i64 m] w fun e w' => ∃ i : Nat, e = .returned (.int .i64 i) ∧ i < m ∧ w' = w := by
  have hm : ¬ ((m : Int) = 0) := by omega
  have hm2 : ¬ ((m : Int) = -1) := by omega
  have t1 : k.tmod m < m := Int.tmod_lt_of_pos k (by omega)
  have t2 : -(m : Int) < k.tmod m := by
    have := Int.tmod_lt_of_pos (-k) (show (0 : Int) < m by omega)
    rw [Int.neg_tmod] at this
    omega
  have z1 : -9223372036854775808 ≤ k.tmod m := by omega
  have z2 : k.tmod m ≤ 9223372036854775807 := by omega
  by_cases hr : k.tmod m < 0
  · go_enter Try.func10, Try.ntmps10
    go_wp2_with fail
    go_ret
    exact ⟨(k.tmod m + m).toNat, ret_int (by omega), by omega, rfl⟩
  · go_enter Try.func10, Try.ntmps10
    go_wp2_with fail
    go_ret
    exact ⟨(k.tmod m).toNat, ret_int (by omega), by omega, rfl⟩

set_option maxRecDepth 100000 in
set_option maxHeartbeats 4000000 in
theorem walk_any (n : Int) (t more : ByteArray) (at' : Int) (w : World) (hn0 : -9223372036854775808 ≤ n) (hn : n ≤ 9223372036854775807) (ht : t.size ≤ 140737488351232) (hm : more.size ≤ 140737488351232) (_ha0 : -9223372036854775808 ≤ at') (_ha1 : at' ≤ 9223372036854775807) :
    Calls Try.prog 3 #[.int .i64 n, .string t, .string more, .int .i64 at'] w fun e w' => e = .returned (.bool true) ∧ Below w.heap.size w w' := by
  obtain ⟨N, hN⟩ : ∃ N : Nat, N = n.toNat := ⟨_, rfl⟩
  have hN9 : N < 9223372036854775808 := by omega
  have e300 := hide enc_300
  have h172 : ((bs [172, 2]).toList == [172, 2]) = true := by rw [ByteArray.toList_eq, bs_list]; rfl
  have hl9 := Pk.enc_nine hN9
  have c1 : ¬ 9223372036854775807 < (bs (Pk.enc N)).size + more.size := by rw [bs_size]; omega
  have v1 : numV (bs (Pk.enc N) ++ more).data.toList = .tuple #[.int .i64 N, .int .i64 (bs (Pk.enc N)).size, .int .i64 0] := by
    rw [cat_list, bs_list]
    unfold numV
    rw [Pk.rd_enc hN9, bs_size]
    rfl
  have hsz := hide (show (bs (Pk.txt t.data.toList)).size = (Pk.enc t.size).length + t.size by rw [bs_size, Pk.txt]; simp)
  have hT9 := Pk.enc_nine (n := t.size) (by omega)
  have hT1 := Pk.enc_pos t.size
  have c2 : ¬ 9223372036854775807 < (bs (Pk.txt t.data.toList)).size + more.size := by rw [unhide hsz]; omega
  have v2 : textV (bs (Pk.txt t.data.toList) ++ more).data.toList t.size = .tuple #[.string t, .int .i64 (bs (Pk.txt t.data.toList)).size, .int .i64 0] := by
    rw [cat_list, bs_list]
    unfold textV
    have := Pk.rt_txt (t := t.data.toList) (by simp; omega) more.data.toList
    rw [show (t.data.toList.length : Int) = (t.size : Int) from by simp] at this
    rw [this, bs_size]
    rfl
  have V2 := hide v2
  have V1 := hide v1
  have HN := hide hN
  have hmax : ((N : Int) != max n 0) = false := by rw [hN]; simp
  have hmax2 : max n 0 = (N : Int) := by omega
  have HM := hide hmax2
  clear v1 v2 hN hmax2
  go_enter Try.func3, Try.ntmps3
  go_wp2_with fail
  refine (number_any 300 _ (by decide)).mono ?_
  rintro e w1 ⟨rfl, b1⟩
  rw [show (300 : Int).toNat = 300 from rfl, unhide e300]
  go_wp2_with fail
  refine (number_any n _ (by omega)).mono ?_
  rintro e w2 ⟨rfl, b2⟩
  rw [← unhide HN]
  go_wp2_with fail
  refine (readn_any _ _ (by rw [cat_list, bs_size]; simp; omega)).mono ?_
  rintro e w3 ⟨rfl, rfl⟩
  rw [unhide V1]
  go_wp2_with fail
  refine (text_any t _ (by omega)).mono ?_
  rintro e w4 ⟨rfl, b4⟩
  go_wp2_with fail
  refine (readt_any _ _ _ (by rw [ByteArray.size_append, unhide hsz]; omega)).mono ?_
  rintro e w5 ⟨rfl, b5⟩
  rw [unhide V2]
  go_wp2_with fail
  refine (rest_any at' _ _ (by rw [unhide hsz]; omega) (by rw [unhide hsz]; omega)).mono ?_
  rintro e w6 ⟨i, rfl, hi, rfl⟩
  have hx := hide (cut_front (bs (Pk.txt t.data.toList)) i)
  have hi2 : (i : Int) ≤ ((bs (Pk.txt t.data.toList)).size : Int) := by omega
  go_wp2_with fail
  refine (readt_any _ _ _ (by have h1 := unhide hsz; rw [ByteArray.size_extract]; omega)).mono ?_
  rintro e w7 ⟨rfl, b7⟩
  obtain ⟨T, L, hq⟩ : ∃ T L, textV ((bs (Pk.txt t.data.toList)).extract 0 i).data.toList t.size = .tuple #[.string T, .int .i64 L, .int .i64 6] := by
    rw [unhide hx, bs_list, bs_list]
    have := Pk.rt_front (t := t.data.toList) (i := i) (by simp; omega) (by rw [bs_size] at hi; exact hi)
    rw [show (t.data.toList.length : Int) = (t.size : Int) from by simp] at this
    unfold textV
    rw [this]
    exact ⟨_, _, rfl⟩
  rw [hq]
  clear hq
  go_wp2_with fail
  go_ret
  exact ⟨rfl, bstep (bstep (bstep (bstep b1 b2) b4) b5) b7⟩

theorem own : ownKnob Try.prog.godebug = none := by kernel_rfl

theorem contract (H : Type) (enc : TypeId × Value → H) (W : World) (base : Nat) (args : Array Value) (ds gs : List (DataW H)) (before : List MemPlace)
    (hval : ∀ (j : Nat) t v, Try.f3.params[j]? = some t → args[j]? = some v → Value.okWide Try.prog W .any base t v)
    (hW : DataW.Whole enc Try.prog Try.f3.params.toList Rows.packBackSpec.vars false W args.toList ds gs before)
    (hsz : (DataW.weightsEach Try.prog (Try.f3.params.toList ++ (OpenSpec.ofChange Rows.packBackSpec).bare.plain.varTypes Try.prog) (ds ++ gs)).all (· ≤ reachBytes) = true) :
    Calls Try.prog 3 args W fun e W' => ∃ v, e = .returned v ∧ Rows.packBackSpec.post enc Try.prog Try.f3 false true false false W args v W' := by
  have hW' := hW
  obtain ⟨p, q, hA0, hV, rfl, hfz, hnd⟩ := hW
  have hA : DataW.TrodAll enc Try.prog W 0 (fun _ => true) true Try.f3.params.toList args.toList ds p := hA0
  rw [Try.params3] at hA hval hsz
  obtain ⟨v0, vs0, d0, ds0, p0, q0, hargs, rfl, rfl, h0, r0⟩ := trodAll_cons hA
  obtain ⟨v1, vs1, d1, ds1, p1, q1, rfl, rfl, rfl, h1, r1⟩ := trodAll_cons r0
  obtain ⟨v2, vs2, d2, ds2, p2, q2, rfl, rfl, rfl, h2, r2⟩ := trodAll_cons r1
  obtain ⟨v3, vs3, d3, ds3, p3, q3, rfl, rfl, rfl, h3, r3⟩ := trodAll_cons r2
  obtain ⟨rfl, rfl, rfl⟩ := trodAll_nil r3
  obtain rfl : args = #[v0, v1, v2, v3] := by cases args; simp_all
  obtain ⟨rfl, rfl⟩ := trodVars_none hV
  obtain ⟨a0, rfl, rfl, rfl, ws0⟩ := open_int Try.underlying3 (hval 0 3 v0 rfl rfl) h0
  obtain ⟨a1, rfl, rfl, rfl, ws1⟩ := open_string Try.underlying9 (hval 1 9 v1 rfl rfl) h1
  obtain ⟨a2, rfl, rfl, rfl, ws2⟩ := open_string Try.underlying9 (hval 2 9 v2 rfl rfl) h2
  obtain ⟨a3, rfl, rfl, rfl, ws3⟩ := open_int Try.underlying3 (hval 3 3 v3 rfl rfl) h3
  clear hA0
  simp only [List.append_nil] at hW'
  have z0 : -9223372036854775808 ≤ a0 ∧ a0 ≤ 9223372036854775807 := by simpa [Lit.wf, IntKind.min, IntKind.max, IntKind.signed, IntKind.bits] using ws0
  have z1 : a1.size ≤ 140737488351232 := by
    have h := sized_string hsz (j := 1) (t := 9) rfl rfl
    have e : a1.data.toList.length = a1.size := by simp
    unfold reachBytes at h
    omega
  have z2 : a2.size ≤ 140737488351232 := by
    have h := sized_string hsz (j := 2) (t := 9) rfl rfl
    have e : a2.data.toList.length = a2.size := by simp
    unfold reachBytes at h
    omega
  have z3 : -9223372036854775808 ≤ a3 ∧ a3 ≤ 9223372036854775807 := by simpa [Lit.wf, IntKind.min, IntKind.max, IntKind.signed, IntKind.bits] using ws3
  refine (walk_any a0 a1 a2 a3 W z0.1 z0.2 (Nat.le_trans z1 (by decide)) (Nat.le_trans z2 (by decide)) z3.1 z3.2).mono fun e W' ⟨he, hb⟩ => ?_
  subst he
  exact ⟨_, rfl, _, _, _, [], [], [], hW', trodAll_cons_mk (shut_bool Try.underlying4 _) trodAll_mk0, (trodAll_cons_mk (shut_int Try.underlying3 ws0) (trodAll_cons_mk (shut_string Try.underlying9 ws1) (trodAll_cons_mk (shut_string Try.underlying9 ws2) (trodAll_cons_mk (shut_int Try.underlying3 ws3) trodAll_mk0)))), rfl, hb.frame _, fun h => by cases h⟩

theorem reads (os : Os) {H : Type} (enc : TypeId × Value → H) : ∃ places, DataW.whole enc Try.prog ((World.holding Try.prog os ⟨#[], #[], []⟩).forCall (fun _ _ => 0) ⟨#[], #[.int .i64 0, .string ⟨#[]⟩, .string ⟨#[]⟩, .int .i64 0], []⟩).memory Try.f3.params.toList Rows.packBackSpec.vars false #[Value.int .i64 0, Value.string ⟨#[]⟩, Value.string ⟨#[]⟩, Value.int .i64 0].toList 8 = some ([.lit (.int .i64 0), .lit (.string []), .lit (.string []), .lit (.int .i64 0)], [], places) :=
  ⟨[], by kernel_rfl⟩
theorem laid_met (os : Os) : laidMet Try.prog Rows.packBackRow.laid ((World.holding Try.prog os ⟨#[], #[], []⟩).forCall (fun _ _ => 0) ⟨#[], #[.int .i64 0, .string ⟨#[]⟩, .string ⟨#[]⟩, .int .i64 0], []⟩).memory :=
  laidMet_of_run' 8 (by kernel_rfl) (by kernel_rfl)

set_option maxRecDepth 100000 in
theorem lifted (os : Os) (started : os.Started) (H : Type) (enc : TypeId × Value → H) (F : Stop.Interp) :
    ReturnsInHanded {} Try.checked os 3 .any ((OpenSpec.ofChange Rows.packBackSpec).preRow enc Try.prog Try.f3 Rows.packBackRow.domain false Rows.packBackRow.laid) (((OpenSpec.ofChange Rows.packBackSpec).at F).post enc Try.prog Try.f3 false true false false) := by
  obtain ⟨places, hx⟩ := reads os enc
  refine returnsInHanded_of_row (C := Try.checked) (s := OpenSpec.ofChange Rows.packBackSpec) own started (by kernel_rfl) Try.func3
    (witness_row_at (enc := enc) (C := Try.checked) false (World.holding Try.prog os ⟨#[], #[], []⟩) #[.int .i64 0, .string ⟨#[]⟩, .string ⟨#[]⟩, .int .i64 0] rfl (by kernel_rfl) (by kernel_rfl) (by kernel_rfl)
      (OpenSpec.preRow_of_cond 8 hx (by kernel_rfl) (fun k hk => by cases hk) (by kernel_rfl) (laid_met os))) ?_
  intro W base args ds gs before hval hW _ _ hsz _ _ _
  exact contract H enc W base args ds gs before hval hW hsz

theorem said : Rows.PackBackSaid :=
  OpenClaim.holds_of_cond 3 Try.f3 rfl rfl rfl rfl rfl rfl rfl ⟨rfl, rfl, rfl, rfl, rfl⟩ rfl rfl rfl rfl rfl (by kernel_rfl) Try.func3 (by kernel_rfl)
    (of_decide_eq_true (by kernel_rfl)) (by unfold Func.isWrapper; first | (rw [if_pos (by decide +kernel)]; kernel_rfl) | (rw [if_neg (by decide +kernel)]; exact ⟨rfl, rfl⟩))
    (fun os started H enc _ F => by rw [OpenClaim.pre_eq_preRow]; exact lifted os started H enc F)
end Go.Proofs.Ytcnmhipmjleogae.packBack
