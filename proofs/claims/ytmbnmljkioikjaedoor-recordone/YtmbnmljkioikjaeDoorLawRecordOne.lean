/-
  For every text: where it has a record at its front, that record is encoded to just the bytes that it took; else nothing is taken: the law RecordOne returns true. The card ties the two listed tables of the library to the program's text.
-/
import Derived.Test.YtmbnmljkioikjaeDoorCards
import Derived.Test.YtmbnmljkioikjaeDoorTie
import Derived.Test.YtmbnmljkioikjaeDoorWalkC4
import Derived.Test.YtmbnmljkioikjaeDoorWalkC8
import Derived.ProofKit
import Derived.OpenShut
import Derived.SizedLaws
import Derived.Deep.DeepHandedRow
namespace Go.Proofs.YtmbnmljkioikjaeDoor.recordOne
open Go.ChangeShapes Go.WideShapes Go.ChangeAt Go.RowKit
open Go.ChangeMaps (open_string shut_string)

theorem dec_zeros : Pk.dec [0, 0, 0, 0, 0] = (Pk.none', 0, 7) :=
  dec_D (X := []) (K := 1) (by decide) (by decide) (by decide) (.inl rfl)
theorem cut_front (s : ByteArray) (k : Nat) : s.extract 0 k = bs (s.data.toList.take k) := by
  have := cut_list s 0 k
  simpa using this

set_option maxRecDepth 100000 in
set_option maxHeartbeats 1000000 in
theorem walk_any (s : ByteArray) (w : World) (hs : s.size ≤ 140737488355328) :
    Calls Tryd.prog 5 #[.string s] w fun e w' => e = .returned (.bool true) ∧ Below w.heap.size w w' := by
  have hz : decV (⟨#[0, 0, 0, 0, 0]⟩ : ByteArray).data.toList = .tuple #[.agg #[.int .i64 0, .int .i64 0, .int .i64 0, .string ⟨#[]⟩, .string ⟨#[]⟩, .string ⟨#[]⟩], .int .i64 0, .int .i64 7] := decV_of dec_zeros
  obtain ⟨⟨k, q, t, a, b, c⟩, n, e, hd⟩ : ∃ r n e, Pk.dec s.data.toList = (r, n, e) := ⟨_, _, _, rfl⟩
  have hv : decV s.data.toList = .tuple #[.agg #[.int .i64 k, .int .i64 q, .int .i64 t, .string (bs a), .string (bs b), .string (bs c)], .int .i64 n, .int .i64 e] := decV_of hd
  have HZ := hide hz
  have HV := hide hv
  clear hz hv
  by_cases he : e = 0
  · subst he
    have ho := Pk.dec_one (l := s.data.toList) (by rw [hd])
    rw [hd] at ho
    obtain ⟨h1, h2, h3⟩ := ho
    simp only [] at h1 h2 h3
    obtain ⟨k1, k2, q1, q2, t1, t2, s1, s2⟩ := Pk.chk_len h1
    simp only [] at k1 k2 q1 q2 t1 t2 s1 s2
    have hc0 : chkV k q t (bs a) (bs b) (bs c) = 0 := by rw [← h1]; exact chkV_rec ⟨k, q, t, a, b, c⟩
    have he : encV k q t (bs a) (bs b) (bs c) = .tuple #[.string (s.extract 0 n), .int .i64 0] := by
      rw [encV_good hc0, cut_front, ← h2]
      simp only [bs_list]
    have HE := hide he
    have h3' : n ≤ s.size := by simpa using h3
    have h3i : (n : Int) ≤ (s.size : Int) := by omega
    have z1 : (bs a).size ≤ 1000 := by rw [bs_size]; omega
    have z2 : (bs b).size ≤ 1000 := by rw [bs_size]; omega
    have z3 : (bs c).size ≤ 1000 := by rw [bs_size]; omega
    clear hd he hc0 h1 h2 h3 k1 k2 q1 q2 t1 t2 s1 s2
    generalize bs a = A at HV HE z1
    generalize bs b = B at HV HE z2
    generalize bs c = C at HV HE z3
    go_enter Tryd.func5, Tryd.ntmps5
    go_wp2_with fail
    refine (decode_any _ _ (by decide)).mono ?_
    rintro e w1 ⟨rfl, b1⟩
    rw [unhide HZ]
    go_wp2_with fail
    refine (decode_any s _ (by omega)).mono ?_
    rintro e w2 ⟨rfl, b2⟩
    rw [unhide HV]
    have B2 := hide (bstep (b1.alloc b1.size _) b2)
    clear b1 b2
    go_wp2_with fail
    refine (encode_any k q t A B C _ (by omega) (by omega) (by omega)).mono ?_
    rintro e w3 ⟨rfl, b3⟩
    rw [unhide HE]
    have B3 := hide (bstep ((unhide B2).alloc (unhide B2).size _) b3)
    clear b3 B2
    go_wp2_with fail
    go_ret
    exact ⟨rfl, unhide B3⟩
  · have hb := Pk.dec_bad (l := s.data.toList) (by rw [hd]; exact he)
    rw [hd] at hb
    simp only [Pk.none', Pk.Rec.mk.injEq] at hb
    obtain ⟨⟨rfl, rfl, rfl, rfl, rfl, rfl⟩, rfl⟩ := hb
    have he' : (e != 0) = true := by simpa using he
    rw [show bs [] = (⟨#[]⟩ : ByteArray) from rfl] at HV
    clear hd
    go_enter Tryd.func5, Tryd.ntmps5
    go_wp2_with fail
    refine (decode_any _ _ (by decide)).mono ?_
    rintro e w1 ⟨rfl, b1⟩
    rw [unhide HZ]
    go_wp2_with fail
    refine (decode_any s _ (by omega)).mono ?_
    rintro e w2 ⟨rfl, b2⟩
    rw [unhide HV]
    have B2 := hide (bstep (b1.alloc b1.size _) b2)
    clear b1 b2
    go_wp2_with fail
    go_ret
    exact ⟨rfl, (unhide B2).alloc (unhide B2).size _⟩

theorem own : ownKnob Tryd.prog.godebug = none := by kernel_rfl

theorem contract (H : Type) (enc : TypeId × Value → H) (W : World) (base : Nat) (args : Array Value) (ds gs : List (DataW H)) (before : List MemPlace)
    (hval : ∀ (j : Nat) t v, Tryd.f5.params[j]? = some t → args[j]? = some v → Value.okWide Tryd.prog W .any base t v)
    (hW : DataW.Whole enc Tryd.prog Tryd.f5.params.toList Rows.recordOneSpec.vars false W args.toList ds gs before)
    (hsz : (DataW.weightsEach Tryd.prog (Tryd.f5.params.toList ++ (OpenSpec.ofChange Rows.recordOneSpec).bare.plain.varTypes Tryd.prog) (ds ++ gs)).all (· ≤ reachBytes) = true) :
    Calls Tryd.prog 5 args W fun e W' => ∃ v, e = .returned v ∧ Rows.recordOneSpec.post enc Tryd.prog Tryd.f5 false true false false W args v W' := by
  have hW' := hW
  obtain ⟨p, q, hA0, hV, rfl, hfz, hnd⟩ := hW
  have hA : DataW.TrodAll enc Tryd.prog W 0 (fun _ => true) true Tryd.f5.params.toList args.toList ds p := hA0
  rw [Tryd.params5] at hA hval hsz
  obtain ⟨v0, vs0, d0, ds0, p0, q0, hargs, rfl, rfl, h0, r0⟩ := trodAll_cons hA
  obtain ⟨rfl, rfl, rfl⟩ := trodAll_nil r0
  obtain rfl : args = #[v0] := by cases args; simp_all
  obtain ⟨rfl, rfl⟩ := trodVars_none hV
  obtain ⟨s0, rfl, rfl, rfl, ws0⟩ := open_string Tryd.underlying9 (hval 0 9 v0 rfl rfl) h0
  clear hA0
  simp only [List.append_nil] at hW'
  have z0 : s0.size ≤ 140737488355328 := by
    have h := sized_string hsz (j := 0) (t := 9) rfl rfl
    have e : s0.data.toList.length = s0.size := by simp
    unfold reachBytes at h
    omega
  refine (walk_any s0 W z0).mono fun e W' ⟨he, hb⟩ => ?_
  subst he
  exact ⟨_, rfl, _, _, _, [], [], [], hW', trodAll_cons_mk (shut_bool Tryd.underlying4 _) trodAll_mk0, (trodAll_cons_mk (shut_string Tryd.underlying9 ws0) trodAll_mk0), rfl, hb.frame _, fun h => by cases h⟩

/-- a world for the witness: the settled one, the two listed tables holding what the row says -/
def accCells : Array Value := #[.int .u8 128, .int .u8 191, .int .u8 160, .int .u8 191, .int .u8 128, .int .u8 159, .int .u8 144, .int .u8 191, .int .u8 128, .int .u8 143, .int .u8 0, .int .u8 0, .int .u8 0, .int .u8 0, .int .u8 0, .int .u8 0, .int .u8 0, .int .u8 0, .int .u8 0, .int .u8 0, .int .u8 0, .int .u8 0, .int .u8 0, .int .u8 0, .int .u8 0, .int .u8 0, .int .u8 0, .int .u8 0, .int .u8 0, .int .u8 0, .int .u8 0, .int .u8 0]
def firstCells : Array Value := (Go.Pinned.utf8FirstZ.map fun (n : Nat) => Value.int .u8 (n : Int)).toArray
def withCells (c : Array Value) : Obj → Obj
  | .cells _ t frozen => .cells c t frozen
  | o => o
def laid (w : World) : World := { w with heap := (w.heap.modify 2 (withCells accCells)).modify 1 (withCells firstCells) }
set_option maxRecDepth 100000 in
theorem laid_met (os : Os) : laidMet Tryd.prog Rows.recordOneRow.laid ((laid (World.holding Tryd.prog os ⟨#[], #[], []⟩)).forCall (fun _ _ => 0) ⟨#[], #[.string ⟨#[]⟩], []⟩).memory :=
  laidMet_of_run' 8 (by kernel_rfl) (by kernel_rfl)
theorem reads (os : Os) {H : Type} (enc : TypeId × Value → H) : ∃ places, DataW.whole enc Tryd.prog ((laid (World.holding Tryd.prog os ⟨#[], #[], []⟩)).forCall (fun _ _ => 0) ⟨#[], #[.string ⟨#[]⟩], []⟩).memory Tryd.f5.params.toList Rows.recordOneSpec.vars false #[Value.string ⟨#[]⟩].toList 8 = some ([.lit (.string [])], [], places) :=
  ⟨[], by kernel_rfl⟩

set_option maxRecDepth 100000 in
theorem lifted (os : Os) (started : os.Started) (H : Type) (enc : TypeId × Value → H) (F : Stop.Interp) :
    ReturnsInHanded {} Tryd.checked os 5 .any ((OpenSpec.ofChange Rows.recordOneSpec).preRow enc Tryd.prog Tryd.f5 Rows.recordOneRow.domain false Rows.recordOneRow.laid) (((OpenSpec.ofChange Rows.recordOneSpec).at F).post enc Tryd.prog Tryd.f5 false true false false) := by
  obtain ⟨places, hx⟩ := reads os enc
  refine returnsInHanded_of_row (C := Tryd.checked) (s := OpenSpec.ofChange Rows.recordOneSpec) own started (by kernel_rfl) Tryd.func5
    (witness_row_at (enc := enc) (C := Tryd.checked) false (laid (World.holding Tryd.prog os ⟨#[], #[], []⟩)) #[.string ⟨#[]⟩] rfl (by kernel_rfl) (by kernel_rfl) (by kernel_rfl)
      (OpenSpec.preRow_of_cond 8 hx (by kernel_rfl) (fun k hk => by cases hk) (by kernel_rfl) (laid_met os))) ?_
  intro W base args ds gs before hval hW _ _ hsz _ _ _
  exact contract H enc W base args ds gs before hval hW hsz

theorem said : Rows.RecordOneSaid :=
  OpenClaim.holds_of_cond 5 Tryd.f5 rfl rfl rfl rfl rfl rfl rfl ⟨rfl, rfl, rfl, rfl, rfl⟩ rfl rfl rfl rfl rfl (by kernel_rfl) Tryd.func5 (by kernel_rfl)
    (of_decide_eq_true (by kernel_rfl)) (by unfold Func.isWrapper; first | (rw [if_pos (by decide +kernel)]; kernel_rfl) | (rw [if_neg (by decide +kernel)]; exact ⟨rfl, rfl⟩))
    (fun os started H enc _ F => by rw [OpenClaim.pre_eq_preRow]; exact lifted os started H enc F)

/-- no parameter wants a stand-in; the program's own looks are off: what the card asks -/
theorem plain (f : FuncId) (fn : Func) (hf : Tryd.pinned.checked.prog.funcNamed Rows.recordOneRow.func = some f) (hfn : Tryd.pinned.checked.prog.funcs[f]? = some fn) :
    false = Tryd.pinned.checked.prog.looks [] ∧ ∀ (j : Nat) t, fn.params[j]? = some t → Tryd.pinned.checked.prog.wantsStandIn t = false := by
  obtain rfl : f = 5 := Option.some.inj ((show Tryd.prog.funcNamed Rows.recordOneRow.func = some 5 by kernel_rfl).symm.trans hf) |>.symm
  obtain rfl : fn = Tryd.f5 := (Option.some.inj (Tryd.func5.symm.trans hfn)).symm
  refine ⟨by kernel_rfl, fun j t ht => ?_⟩
  rw [Tryd.params5] at ht
  obtain rfl : t = 9 := by simpa using Array.mem_of_getElem? ht
  exact (show Tryd.prog.wantsStandIn 9 = false by kernel_rfl)

theorem card : Rows.RecordOneCardSaid :=
  Claim7.holds_tied_plain_at .later [] _ _ _ _ said (fun _ h => by cases h) (by kernel_rfl) (fun _ h => by cases h) recordOne_row_tie rfl ⟨rfl, rfl⟩ (by kernel_rfl) rfl plain (by kernel_rfl)
end Go.Proofs.YtmbnmljkioikjaeDoor.recordOne
