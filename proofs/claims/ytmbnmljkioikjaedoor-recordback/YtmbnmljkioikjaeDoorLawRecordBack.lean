/-
  For every record, every text and every place: a right record is read as it was, whatever stands behind it, and a beginning of its bytes asks for more; of another one Encode tells what Check tells: the law RecordBack returns true. The card ties the two listed tables of the library to the program's text.
-/
import Derived.Test.YtmbnmljkioikjaeDoorCards
import Derived.Test.YtmbnmljkioikjaeDoorTie
import Derived.Test.YtmbnmljkioikjaeDoorRowR
import Derived.Test.YtmbnmljkioikjaeDoorWalkC9
import Derived.Test.YtmbnmljkioikjaeDoorWalkB
import Derived.ProofKit
import Derived.OpenShut
import Derived.SizedLaws
import Derived.Deep.DeepHandedRow
namespace Go.Proofs.YtmbnmljkioikjaeDoor.recordBack
open Go.ChangeShapes Go.WideShapes Go.ChangeAt Go.RowKit Go.Deep
open Go.ChangeMaps (open_string shut_string)

theorem cut_front (s : ByteArray) (k : Nat) : s.extract 0 k = bs (s.data.toList.take k) := by
  have := cut_list s 0 k
  simpa using this

set_option maxRecDepth 100000 in
set_option maxHeartbeats 1000000 in
theorem walk_any (k q t : Int) (a b c m : ByteArray) (x : Int) (w : World) (za : a.size ≤ 140737488355328) (zb : b.size ≤ 140737488355328) (zc : c.size ≤ 140737488355328) (zm : m.size ≤ 140737488351232) (_hx0 : -9223372036854775808 ≤ x) (_hx1 : x ≤ 9223372036854775807) :
    Calls Tryd.prog 3 #[.agg #[.int .i64 k, .int .i64 q, .int .i64 t, .string a, .string b, .string c], .string m, .int .i64 x] w fun e w' => e = .returned (.bool true) ∧ Below w.heap.size w w' := by
  obtain ⟨E, hE⟩ : ∃ E, chkV k q t a b c = E := ⟨_, rfl⟩
  have N1 := hide note_enc1
  have R0 := hide (RB.new w k q t a b c 23)
  have B0 : Hid (Below w.heap.size w (w.alloc (.cells #[.int .i64 k, .int .i64 q, .int .i64 t, .string a, .string b, .string c] 23))) := hide ((Below.refl _ _).alloc (Nat.le_refl _) _)
  by_cases h0 : E = 0
  · subst h0
    have hb := Pk.bod_len (r := ⟨k, q, t, a.data.toList, b.data.toList, c.data.toList⟩) hE
    have hF := fun i => Pk.dec_front (r := ⟨k, q, t, a.data.toList, b.data.toList, c.data.toList⟩) (i := i) hE
    have hD := fun l => Pk.dec_cod (r := ⟨k, q, t, a.data.toList, b.data.toList, c.data.toList⟩) hE l
    have hL := Pk.cod_len ⟨k, q, t, a.data.toList, b.data.toList, c.data.toList⟩
    have hV : encV k q t a b c = .tuple #[.string (bs (Pk.cod ⟨k, q, t, a.data.toList, b.data.toList, c.data.toList⟩)), .int .i64 0] := encV_good hE
    have hY : (Pk.txt (Pk.bod ⟨k, q, t, a.data.toList, b.data.toList, c.data.toList⟩)).length ≤ 1033 := by
      unfold Pk.txt
      rw [List.length_append]
      have := Pk.enc_nine (n := (Pk.bod ⟨k, q, t, a.data.toList, b.data.toList, c.data.toList⟩).length) (by omega)
      omega
    generalize Pk.cod ⟨k, q, t, a.data.toList, b.data.toList, c.data.toList⟩ = L at hF hD hL hV
    obtain ⟨S, hS⟩ : ∃ S, bs L = S := ⟨_, rfl⟩
    obtain rfl : L = S.data.toList := by rw [← hS, bs_list]
    rw [hS] at hV
    rw [len_size] at hL hD hF
    have HV := hide hV
    have HF := hide hF
    have HD : Hid (decV (S ++ m).data.toList = .tuple #[.agg #[.int .i64 k, .int .i64 q, .int .i64 t, .string a, .string b, .string c], .int .i64 S.size, .int .i64 0]) := hide (by
      have := decV_of (hD m.data.toList)
      rw [show (S ++ m).data.toList = S.data.toList ++ m.data.toList from by simp [ByteArray.data_append], this]
      rfl)
    have l1 : 0 < S.size := by omega
    have l2 : S.size ≤ 2000 := by omega
    have l3 : ¬ 9223372036854775807 < S.size + m.size := by omega
    clear hE hF hD hV hS hb hL hY
    go_enter Tryd.func3, Tryd.ntmps3
    go_wp2_with fail
    refine (note_any 1 _).mono ?_
    rintro e w1 ⟨rfl, b1⟩
    go_wp2_with fail
    refine (encode_any _ _ _ _ _ _ _ (by decide) (by decide) (by decide)).mono ?_
    rintro e w2 ⟨rfl, b2⟩
    rw [unhide N1]
    have R2 := ((unhide R0).next b1).next b2
    have B2 := hide (bstep (bstep (unhide B0) b1) b2)
    have H2 := hide R2
    obtain ⟨_, c0, c1, c2, c3, c4, c5, _⟩ := R2
    clear R0 B0 b1 b2
    go_wp2_with fail
    refine (encode_any k q t a b c _ za zb zc).mono ?_
    rintro e w3 ⟨rfl, b3⟩
    rw [unhide HV]
    have H3 := hide ((unhide H2).next b3)
    have B3 := hide (bstep (unhide B2) b3)
    clear b3 B2 H2 c0 c1 c2 c3 c4 c5
    go_wp2_with fail
    refine (decode_any _ _ (by rw [ByteArray.size_append]; omega)).mono ?_
    rintro e w4 ⟨rfl, b4⟩
    rw [unhide HD]
    have H4 := hide ((unhide H3).next b4)
    have B4 := hide (bstep (unhide B3) b4)
    clear b4 B3 H3
    go_wp2_with fail
    have X4 := hide (RB.new w4 k q t a b c 23)
    refine (rest_any x _ _ (by omega) (by omega)).mono ?_
    rintro e w5 ⟨i, rfl, hi, rfl⟩
    obtain ⟨⟨k', q', t', a', b', c'⟩, n', e', hd⟩ : ∃ r n e, Pk.dec (S.extract 0 i).data.toList = (r, n, e) := ⟨_, _, _, rfl⟩
    have he6 := unhide HF i hi
    rw [← bs_list (S.data.toList.take i), ← cut_front, hd] at he6
    simp only [] at he6
    subst he6
    have HG : Hid (decV (S.extract 0 i).data.toList = .tuple #[.agg #[.int .i64 k', .int .i64 q', .int .i64 t', .string (bs a'), .string (bs b'), .string (bs c')], .int .i64 n', .int .i64 6]) := hide (decV_of hd)
    have hi2 : (i : Int) ≤ (S.size : Int) := by omega
    clear hd HF
    go_wp2_with fail
    refine (decode_any _ _ (by rw [ByteArray.size_extract]; omega)).mono ?_
    rintro e w6 ⟨rfl, b6⟩
    rw [unhide HG]
    obtain ⟨x0, d0, d1, d2, d3, d4, d5, _⟩ := (unhide X4).next b6
    obtain ⟨x1, c0, c1, c2, c3, c4, c5, _⟩ := ((unhide H4).alloc _).next b6
    have B6 := hide (bstep ((unhide B4).alloc (unhide B4).size _) b6)
    clear b6 X4 H4 B4
    go_wp2_with fail
    go_ret
    exact ⟨rfl, (unhide B6).alloc (unhide B6).size _⟩
  · have HE : Hid (encV k q t a b c = .tuple #[.string ⟨#[]⟩, .int .i64 E]) := hide (encV_bad hE h0)
    have h1 : (E != 0) = true := by simpa using h0
    have HC := hide hE
    clear hE h0
    go_enter Tryd.func3, Tryd.ntmps3
    go_wp2_with fail
    refine (note_any 1 _).mono ?_
    rintro e w1 ⟨rfl, b1⟩
    go_wp2_with fail
    refine (encode_any _ _ _ _ _ _ _ (by decide) (by decide) (by decide)).mono ?_
    rintro e w2 ⟨rfl, b2⟩
    rw [unhide N1]
    have R2 := ((unhide R0).next b1).next b2
    have B2 := hide (bstep (bstep (unhide B0) b1) b2)
    have H2 := hide R2
    obtain ⟨_, c0, c1, c2, c3, c4, c5, _⟩ := R2
    clear R0 B0 b1 b2
    go_wp2_with fail
    refine (encode_any k q t a b c _ za zb zc).mono ?_
    rintro e w3 ⟨rfl, b3⟩
    rw [unhide HE]
    have R3 := (unhide H2).next b3
    have B3 := hide (bstep (unhide B2) b3)
    clear b3 B2 H2 c0 c1 c2 c3 c4 c5
    obtain ⟨_, c0, c1, c2, c3, c4, c5, _⟩ := R3
    go_wp2_with fail
    refine (check_any k q t a b c _ za zb zc).mono ?_
    rintro e w4 ⟨rfl, b4⟩
    rw [unhide HC]
    go_wp2_with fail
    go_ret
    exact ⟨rfl, bstep (unhide B3) b4⟩

theorem own : ownKnob Tryd.prog.godebug = none := by kernel_rfl
theorem laidOut : laidOutB Tryd.prog = true := by kernel_rfl
theorem cellsR : Tryd.prog.cellsOf 23 = 6 := by kernel_rfl

theorem contract (H : Type) (enc : TypeId × Value → H) (W : World) (base : Nat) (args : Array Value) (ds gs : List (DataW H)) (before : List MemPlace)
    (hval : ∀ (j : Nat) t v, Tryd.f3.params[j]? = some t → args[j]? = some v → Value.okWide Tryd.prog W .any base t v)
    (hW : DataW.Whole enc Tryd.prog Tryd.f3.params.toList Rows.recordBackSpec.vars false W args.toList ds gs before)
    (hsz : (DataW.weightsEach Tryd.prog (Tryd.f3.params.toList ++ (OpenSpec.ofChange Rows.recordBackSpec).bare.plain.varTypes Tryd.prog) (ds ++ gs)).all (· ≤ reachBytes) = true) :
    Calls Tryd.prog 3 args W fun e W' => ∃ v, e = .returned v ∧ Rows.recordBackSpec.post enc Tryd.prog Tryd.f3 false true false false W args v W' := by
  have hW' := hW
  obtain ⟨p, q, hA0, hV, rfl, hfz, hnd⟩ := hW
  have hA : DataW.TrodAll enc Tryd.prog W 0 (fun _ => true) true Tryd.f3.params.toList args.toList ds p := hA0
  rw [Tryd.params3] at hA hval hsz
  obtain ⟨v0, vs0, d0, ds0, p0, q0, hargs, rfl, rfl, h0, r0⟩ := trodAll_cons hA
  obtain ⟨v1, vs1, d1, ds1, p1, q1, rfl, rfl, rfl, h1, r1⟩ := trodAll_cons r0
  obtain ⟨v2, vs2, d2, ds2, p2, q2, rfl, rfl, rfl, h2, r2⟩ := trodAll_cons r1
  obtain ⟨rfl, rfl, rfl⟩ := trodAll_nil r2
  obtain rfl : args = #[v0, v1, v2] := by cases args; simp_all
  obtain ⟨rfl, rfl⟩ := trodVars_none hV
  obtain ⟨a1, rfl, rfl, rfl, ws1⟩ := open_string Tryd.underlying9 (hval 1 9 v1 rfl rfl) h1
  obtain ⟨a2, rfl, rfl, rfl, ws2⟩ := open_int Tryd.underlying3 (hval 2 3 v2 rfl rfl) h2
  have h0k := h0
  clear hA0
  simp only [List.append_nil] at hW'
  have hlt : ∀ x ∈ p0, x.block < W.heap.size := fun x hx => by simpa using hW'.lt x (by simpa using hx)
  obtain ⟨u0, u1, u2, u3, u4, u5, y0, y1, y2, y3, y4, y5, m, rfl, hd, hp, g0, g1, g2, g3, g4, g5⟩ := open_agg6 Tryd.underlying23 (by kernel_rfl) cellsR (hval 0 23 v0 rfl rfl) h0
  obtain ⟨k, e0, x0, _⟩ := DataW.trod_int Tryd.underlying3 g0
  obtain ⟨q, e1, x1, _⟩ := DataW.trod_int Tryd.underlying3 g1
  obtain ⟨t, e2, x2, _⟩ := DataW.trod_int Tryd.underlying3 g2
  obtain ⟨a, e3, x3, _⟩ := DataW.trod_string Tryd.underlying9 g3
  obtain ⟨b, e4, x4, _⟩ := DataW.trod_string Tryd.underlying9 g4
  obtain ⟨c, e5, x5, _⟩ := DataW.trod_string Tryd.underlying9 g5
  simp only [List.cons.injEq, and_true] at e0 e1 e2 e3 e4 e5
  subst e0 e1 e2 e3 e4 e5
  have hw : ∀ x ∈ DataW.weights Tryd.prog 23 d0, x ≤ reachBytes := fun x hx => by
    have := List.all_eq_true.1 hsz _ (DataW.weights_mem_each (j := 0) rfl rfl _ hx)
    simpa using this
  have hw3 := fun h => hw a.data.toList.length h
  have hw4 := fun h => hw b.data.toList.length h
  have hw5 := fun h => hw c.data.toList.length h
  rw [hd, x3, x4, x5, x0, x1, x2] at hw3 hw4 hw5
  have za : a.size ≤ 140737488355328 := by
    have h := hw3 (by simp [DataW.weights, DataW.weightsEach, Tryd.underlying23])
    have e : a.data.toList.length = a.size := by simp
    unfold reachBytes at h
    omega
  have zb : b.size ≤ 140737488355328 := by
    have h := hw4 (by simp [DataW.weights, DataW.weightsEach, Tryd.underlying23])
    have e : b.data.toList.length = b.size := by simp
    unfold reachBytes at h
    omega
  have zc : c.size ≤ 140737488355328 := by
    have h := hw5 (by simp [DataW.weights, DataW.weightsEach, Tryd.underlying23])
    have e : c.data.toList.length = c.size := by simp
    unfold reachBytes at h
    omega
  have z1 : a1.size ≤ 140737488351232 := by
    have h := sized_string hsz (j := 1) (t := 9) rfl rfl
    have e : a1.data.toList.length = a1.size := by simp
    unfold reachBytes at h
    omega
  have z2 : -9223372036854775808 ≤ a2 ∧ a2 ≤ 9223372036854775807 := by simpa [Lit.wf, IntKind.min, IntKind.max, IntKind.signed, IntKind.bits] using ws2
  refine (walk_any k q t a b c a1 a2 W za zb zc z1 z2.1 z2.2).mono fun e W' ⟨he, hb⟩ => ?_
  subst he
  exact ⟨_, rfl, _, _, _, [], _, [], hW', trodAll_cons_mk (shut_bool Tryd.underlying4 _) trodAll_mk0, (trodAll_cons_mk (Below.trod laidOut (by kernel_rfl) (of_decide_eq_true (by kernel_rfl)) h0k hb hlt) (trodAll_cons_mk (shut_string Tryd.underlying9 ws1) (trodAll_cons_mk (shut_int Tryd.underlying3 ws2) trodAll_mk0))), rfl, hb.frame _, fun h => by cases h⟩

/-- a world for the witness: the settled one, the two listed tables holding what the row says -/
def accCells : Array Value := #[.int .u8 128, .int .u8 191, .int .u8 160, .int .u8 191, .int .u8 128, .int .u8 159, .int .u8 144, .int .u8 191, .int .u8 128, .int .u8 143, .int .u8 0, .int .u8 0, .int .u8 0, .int .u8 0, .int .u8 0, .int .u8 0, .int .u8 0, .int .u8 0, .int .u8 0, .int .u8 0, .int .u8 0, .int .u8 0, .int .u8 0, .int .u8 0, .int .u8 0, .int .u8 0, .int .u8 0, .int .u8 0, .int .u8 0, .int .u8 0, .int .u8 0, .int .u8 0]
def firstCells : Array Value := (Go.Pinned.utf8FirstZ.map fun (n : Nat) => Value.int .u8 (n : Int)).toArray
def withCells (c : Array Value) : Obj → Obj
  | .cells _ t frozen => .cells c t frozen
  | o => o
def laid (w : World) : World := { w with heap := (w.heap.modify 2 (withCells accCells)).modify 1 (withCells firstCells) }
set_option maxRecDepth 100000 in
theorem laid_met (os : Os) : laidMet Tryd.prog Rows.recordBackRow.laid ((laid (World.holding Tryd.prog os ⟨#[], #[], []⟩)).forCall (fun _ _ => 0) ⟨#[], #[.agg #[.int .i64 0, .int .i64 0, .int .i64 0, .string ⟨#[]⟩, .string ⟨#[]⟩, .string ⟨#[]⟩], .string ⟨#[]⟩, .int .i64 0], []⟩).memory :=
  laidMet_of_run' 8 (by kernel_rfl) (by kernel_rfl)
theorem reads (os : Os) {H : Type} (enc : TypeId × Value → H) : ∃ places, DataW.whole enc Tryd.prog ((laid (World.holding Tryd.prog os ⟨#[], #[], []⟩)).forCall (fun _ _ => 0) ⟨#[], #[.agg #[.int .i64 0, .int .i64 0, .int .i64 0, .string ⟨#[]⟩, .string ⟨#[]⟩, .string ⟨#[]⟩], .string ⟨#[]⟩, .int .i64 0], []⟩).memory Tryd.f3.params.toList Rows.recordBackSpec.vars false #[Value.agg #[.int .i64 0, .int .i64 0, .int .i64 0, .string ⟨#[]⟩, .string ⟨#[]⟩, .string ⟨#[]⟩], Value.string ⟨#[]⟩, Value.int .i64 0].toList 8 = some ([.agg [.lit (.int .i64 0), .lit (.int .i64 0), .lit (.int .i64 0), .lit (.string []), .lit (.string []), .lit (.string [])], .lit (.string []), .lit (.int .i64 0)], [], places) :=
  ⟨[], by kernel_rfl⟩

set_option maxRecDepth 100000 in
theorem lifted (os : Os) (started : os.Started) (H : Type) (enc : TypeId × Value → H) (F : Stop.Interp) :
    ReturnsInHanded {} Tryd.checked os 3 .any ((OpenSpec.ofChange Rows.recordBackSpec).preRow enc Tryd.prog Tryd.f3 Rows.recordBackRow.domain false Rows.recordBackRow.laid) (((OpenSpec.ofChange Rows.recordBackSpec).at F).post enc Tryd.prog Tryd.f3 false true false false) := by
  obtain ⟨places, hx⟩ := reads os enc
  refine returnsInHanded_of_row (C := Tryd.checked) (s := OpenSpec.ofChange Rows.recordBackSpec) own started (by kernel_rfl) Tryd.func3
    (witness_row_at (enc := enc) (C := Tryd.checked) false (laid (World.holding Tryd.prog os ⟨#[], #[], []⟩)) #[.agg #[.int .i64 0, .int .i64 0, .int .i64 0, .string ⟨#[]⟩, .string ⟨#[]⟩, .string ⟨#[]⟩], .string ⟨#[]⟩, .int .i64 0] rfl (by kernel_rfl) (by kernel_rfl) (by kernel_rfl)
      (OpenSpec.preRow_of_cond 8 hx (by kernel_rfl) (fun k hk => by cases hk) (by kernel_rfl) (laid_met os))) ?_
  intro W base args ds gs before hval hW _ _ hsz _ _ _
  exact contract H enc W base args ds gs before hval hW hsz

theorem said : Rows.RecordBackSaid :=
  OpenClaim.holds_of_cond 3 Tryd.f3 rfl rfl rfl rfl rfl rfl rfl ⟨rfl, rfl, rfl, rfl, rfl⟩ rfl rfl rfl rfl rfl (by kernel_rfl) Tryd.func3 (by kernel_rfl)
    (of_decide_eq_true (by kernel_rfl)) (by unfold Func.isWrapper; first | (rw [if_pos (by decide +kernel)]; kernel_rfl) | (rw [if_neg (by decide +kernel)]; exact ⟨rfl, rfl⟩))
    (fun os started H enc _ F => by rw [OpenClaim.pre_eq_preRow]; exact lifted os started H enc F)

/-- no parameter wants a stand-in; the program's own looks are off: what the card asks -/
theorem plain (f : FuncId) (fn : Func) (hf : Tryd.pinned.checked.prog.funcNamed Rows.recordBackRow.func = some f) (hfn : Tryd.pinned.checked.prog.funcs[f]? = some fn) :
    false = Tryd.pinned.checked.prog.looks [] ∧ ∀ (j : Nat) t, fn.params[j]? = some t → Tryd.pinned.checked.prog.wantsStandIn t = false := by
  obtain rfl : f = 3 := Option.some.inj ((show Tryd.prog.funcNamed Rows.recordBackRow.func = some 3 by kernel_rfl).symm.trans hf) |>.symm
  obtain rfl : fn = Tryd.f3 := (Option.some.inj (Tryd.func3.symm.trans hfn)).symm
  refine ⟨by kernel_rfl, fun j t ht => ?_⟩
  rw [Tryd.params3] at ht
  have hm : t = 23 ∨ t = 9 ∨ t = 3 := by simpa using Array.mem_of_getElem? ht
  rcases hm with rfl | rfl | rfl
  · exact (show Tryd.prog.wantsStandIn 23 = false by kernel_rfl)
  · exact (show Tryd.prog.wantsStandIn 9 = false by kernel_rfl)
  · exact (show Tryd.prog.wantsStandIn 3 = false by kernel_rfl)

theorem card : Rows.RecordBackCardSaid :=
  Claim7.holds_tied_plain_at .later [] _ _ _ _ said (fun _ h => by cases h) (by kernel_rfl) (fun _ h => by cases h) recordBack_row_tie rfl ⟨rfl, rfl⟩ (by kernel_rfl) rfl plain (by kernel_rfl)
end Go.Proofs.YtmbnmljkioikjaeDoor.recordBack
