/-
  For all texts s, t the law SubjectSelf returns true: a subject is a filter that takes just itself, a filter covers and overlaps itself. The card ties the two listed tables of the library to the program's text.
-/
import Derived.Test.YthldjmljdklkfadDoorCards
import Derived.Test.YthldjmljdklkfadDoorTie
import Derived.Test.YthldjmljdklkfadDoorWalkK1
import Derived.Test.YthldjmljdklkfadDoorPlainK
import Derived.ProofKit
import Derived.OpenShut
import Derived.Deep.DeepHandedRow
namespace Go.Proofs.YthldjmljdklkfadDoor.subjectSelf
open Go.ChangeShapes Go.WideShapes Go.ChangeAt Go.RowKit
open Go.ChangeMaps (open_string shut_string)

theorem walk_any (s t : ByteArray) (w : World) (hs : s.size ≤ 140737488355328) (ht : t.size ≤ 140737488355328) :
    Calls Tryd.prog 3 #[.string s, .string t] w fun e w' => e = .returned (.bool true) ∧ Below w.heap.size w w' := by
  cases hf : (errS true s == 0)
  · have hn : errS false s ≠ 0 := fun e => by rw [subject_filter e] at hf; cases hf
    have hj : (errS false s == 0) = false := by simpa using hn
    have hj2 : (errS false s != 0) = true := by simpa using hn
    have C := hide (coversB_none hf)
    go_enter Tryd.func3, Tryd.ntmps3
    go_wp2_with fail
    refine (known_any _).mono ?_
    rintro e w1 ⟨rfl, b1⟩
    go_wp2_with fail
    refine (filter_any s _ hs).mono ?_
    rintro e w2 ⟨rfl, b2⟩
    go_wp2_with fail
    refine (subject_any s _ hs).mono ?_
    rintro e w3 ⟨rfl, b3⟩
    go_wp2_with fail
    refine (isCovers_at (unhide C) _ hs hs).mono ?_
    rintro e w4 ⟨rfl, b4⟩
    go_wp2
    go_ret
    exact ⟨rfl, bstep (bstep (bstep b1 b2) b3) b4⟩
  · have h0 : errS true s = 0 := by simpa using hf
    have H0 := hide h0
    have C1 := hide (coversB_self h0)
    have C2 := hide (overlapB_self h0)
    have C3 := hide (coversB_all h0)
    clear hf h0
    cases hj : (errS false s == 0)
    · go_enter Tryd.func3, Tryd.ntmps3
      go_wp2_with fail
      refine (known_any _).mono ?_
      rintro e w1 ⟨rfl, b1⟩
      go_wp2_with fail
      refine (filter_at (unhide H0) _ hs).mono ?_
      rintro e w2 ⟨rfl, b2⟩
      go_wp2_with fail
      refine (isCovers_at (unhide C1) _ hs hs).mono ?_
      rintro e w3 ⟨rfl, b3⟩
      go_wp2_with fail
      refine (isOverlap_at (unhide C2) _ hs hs).mono ?_
      rintro e w4 ⟨rfl, b4⟩
      go_wp2_with fail
      refine (isCovers_at (unhide C3) _ (by decide) hs).mono ?_
      rintro e w5 ⟨rfl, b5⟩
      go_wp2_with fail
      refine (subject_any s _ hs).mono ?_
      rintro e w6 ⟨rfl, b6⟩
      go_wp2
      go_ret
      exact ⟨rfl, bstep (bstep (bstep (bstep (bstep b1 b2) b3) b4) b5) b6⟩
    · have h1 : errS false s = 0 := by simpa using hj
      have H1 := hide h1
      have M1 := hide (matchB_self h1)
      clear hj h1
      cases hk : (errS false t == 0)
      · have hn : ¬ errS false t = 0 := by simpa using hk
        have hk2 : (errS false t != 0) = true := by simpa using hn
        go_enter Tryd.func3, Tryd.ntmps3
        go_wp2_with fail
        refine (known_any _).mono ?_
        rintro e w1 ⟨rfl, b1⟩
        go_wp2_with fail
        refine (filter_at (unhide H0) _ hs).mono ?_
        rintro e w2 ⟨rfl, b2⟩
        go_wp2_with fail
        refine (isCovers_at (unhide C1) _ hs hs).mono ?_
        rintro e w3 ⟨rfl, b3⟩
        go_wp2_with fail
        refine (isOverlap_at (unhide C2) _ hs hs).mono ?_
        rintro e w4 ⟨rfl, b4⟩
        go_wp2_with fail
        refine (isCovers_at (unhide C3) _ (by decide) hs).mono ?_
        rintro e w5 ⟨rfl, b5⟩
        go_wp2_with fail
        refine (subject_at (unhide H1) _ hs).mono ?_
        rintro e w6 ⟨rfl, b6⟩
        go_wp2_with fail
        refine (isMatch_at (unhide M1) _ hs hs).mono ?_
        rintro e w7 ⟨rfl, b7⟩
        go_wp2_with fail
        refine (subject_any t _ ht).mono ?_
        rintro e w8 ⟨rfl, b8⟩
        go_wp2
        go_ret
        exact ⟨rfl, bstep (bstep (bstep (bstep (bstep (bstep (bstep b1 b2) b3) b4) b5) b6) b7) b8⟩
      · have h2 : errS false t = 0 := by simpa using hk
        have H2 := hide h2
        have M2 := hide (matchB_subjects (unhide H1) h2)
        clear hk h2
        go_enter Tryd.func3, Tryd.ntmps3
        go_wp2_with fail
        refine (known_any _).mono ?_
        rintro e w1 ⟨rfl, b1⟩
        go_wp2_with fail
        refine (filter_at (unhide H0) _ hs).mono ?_
        rintro e w2 ⟨rfl, b2⟩
        go_wp2_with fail
        refine (isCovers_at (unhide C1) _ hs hs).mono ?_
        rintro e w3 ⟨rfl, b3⟩
        go_wp2_with fail
        refine (isOverlap_at (unhide C2) _ hs hs).mono ?_
        rintro e w4 ⟨rfl, b4⟩
        go_wp2_with fail
        refine (isCovers_at (unhide C3) _ (by decide) hs).mono ?_
        rintro e w5 ⟨rfl, b5⟩
        go_wp2_with fail
        refine (subject_at (unhide H1) _ hs).mono ?_
        rintro e w6 ⟨rfl, b6⟩
        go_wp2_with fail
        refine (isMatch_at (unhide M1) _ hs hs).mono ?_
        rintro e w7 ⟨rfl, b7⟩
        go_wp2_with fail
        refine (subject_at (unhide H2) _ ht).mono ?_
        rintro e w8 ⟨rfl, b8⟩
        go_wp2_with fail
        refine (isMatch_at (unhide M2) _ hs ht).mono ?_
        rintro e w9 ⟨rfl, b9⟩
        go_wp2
        go_ret
        exact ⟨rfl, bstep (bstep (bstep (bstep (bstep (bstep (bstep (bstep b1 b2) b3) b4) b5) b6) b7) b8) b9⟩

theorem own : ownKnob Tryd.prog.godebug = none := by kernel_rfl

theorem contract (H : Type) (enc : TypeId × Value → H) (W : World) (base : Nat) (args : Array Value) (ds gs : List (DataW H)) (before : List MemPlace)
    (hval : ∀ (j : Nat) t v, Tryd.f3.params[j]? = some t → args[j]? = some v → Value.okWide Tryd.prog W .any base t v)
    (hW : DataW.Whole enc Tryd.prog Tryd.f3.params.toList Rows.subjectSelfSpec.vars false W args.toList ds gs before)
    (hsz : (DataW.weightsEach Tryd.prog (Tryd.f3.params.toList ++ (OpenSpec.ofChange Rows.subjectSelfSpec).bare.plain.varTypes Tryd.prog) (ds ++ gs)).all (· ≤ reachBytes) = true) :
    Calls Tryd.prog 3 args W fun e W' => ∃ v, e = .returned v ∧ Rows.subjectSelfSpec.post enc Tryd.prog Tryd.f3 false true false false W args v W' := by
  have hW' := hW
  obtain ⟨p, q, hA0, hV, rfl, hfz, hnd⟩ := hW
  have hA : DataW.TrodAll enc Tryd.prog W 0 (fun _ => true) true Tryd.f3.params.toList args.toList ds p := hA0
  rw [Tryd.params3] at hA hval hsz
  obtain ⟨v0, vs0, d0, ds0, p0, q0, hargs, rfl, rfl, h0, r0⟩ := trodAll_cons hA
  obtain ⟨v1, vs1, d1, ds1, p1, q1, rfl, rfl, rfl, h1, r1⟩ := trodAll_cons r0
  obtain ⟨rfl, rfl, rfl⟩ := trodAll_nil r1
  obtain rfl : args = #[v0, v1] := by cases args; simp_all
  obtain ⟨rfl, rfl⟩ := trodVars_none hV
  obtain ⟨s0, rfl, rfl, rfl, ws0⟩ := open_string Tryd.underlying9 (hval 0 9 v0 rfl rfl) h0
  obtain ⟨s1, rfl, rfl, rfl, ws1⟩ := open_string Tryd.underlying9 (hval 1 9 v1 rfl rfl) h1
  clear hA0
  simp only [List.append_nil] at hW'
  have z0 : s0.size ≤ 140737488355328 := by
    have h := sized_string hsz (j := 0) (t := 9) rfl rfl
    have e : s0.data.toList.length = s0.size := by simp
    unfold reachBytes at h
    omega
  have z1 : s1.size ≤ 140737488355328 := by
    have h := sized_string hsz (j := 1) (t := 9) rfl rfl
    have e : s1.data.toList.length = s1.size := by simp
    unfold reachBytes at h
    omega
  refine (walk_any s0 s1 W z0 z1).mono fun e W' ⟨he, hb⟩ => ?_
  subst he
  exact ⟨_, rfl, _, _, _, [], [], [], hW', trodAll_cons_mk (shut_bool Tryd.underlying4 _) trodAll_mk0, (trodAll_cons_mk (shut_string Tryd.underlying9 ws0) (trodAll_cons_mk (shut_string Tryd.underlying9 ws1) trodAll_mk0)), rfl, hb.frame _, fun h => by cases h⟩

/-- a world for the witness: the settled one, the two listed tables holding what the row says -/
def accCells : Array Value := #[.int .u8 128, .int .u8 191, .int .u8 160, .int .u8 191, .int .u8 128, .int .u8 159, .int .u8 144, .int .u8 191, .int .u8 128, .int .u8 143, .int .u8 0, .int .u8 0, .int .u8 0, .int .u8 0, .int .u8 0, .int .u8 0, .int .u8 0, .int .u8 0, .int .u8 0, .int .u8 0, .int .u8 0, .int .u8 0, .int .u8 0, .int .u8 0, .int .u8 0, .int .u8 0, .int .u8 0, .int .u8 0, .int .u8 0, .int .u8 0, .int .u8 0, .int .u8 0]
def firstCells : Array Value := (Go.Pinned.utf8FirstZ.map fun (n : Nat) => Value.int .u8 (n : Int)).toArray
def withCells (c : Array Value) : Obj → Obj
  | .cells _ t frozen => .cells c t frozen
  | o => o
def laid (w : World) : World := { w with heap := (w.heap.modify 2 (withCells accCells)).modify 1 (withCells firstCells) }
set_option maxRecDepth 100000 in
theorem laid_met (os : Os) : laidMet Tryd.prog Rows.subjectSelfRow.laid ((laid (World.holding Tryd.prog os ⟨#[], #[], []⟩)).forCall (fun _ _ => 0) ⟨#[], #[.string ⟨#[]⟩, .string ⟨#[]⟩], []⟩).memory :=
  laidMet_of_run' 8 (by kernel_rfl) (by kernel_rfl)
theorem reads (os : Os) {H : Type} (enc : TypeId × Value → H) : ∃ places, DataW.whole enc Tryd.prog ((laid (World.holding Tryd.prog os ⟨#[], #[], []⟩)).forCall (fun _ _ => 0) ⟨#[], #[.string ⟨#[]⟩, .string ⟨#[]⟩], []⟩).memory Tryd.f3.params.toList Rows.subjectSelfSpec.vars false #[Value.string ⟨#[]⟩, Value.string ⟨#[]⟩].toList 8 = some ([.lit (.string []), .lit (.string [])], [], places) :=
  ⟨[], by kernel_rfl⟩

set_option maxRecDepth 100000 in
theorem lifted (os : Os) (started : os.Started) (H : Type) (enc : TypeId × Value → H) (F : Stop.Interp) :
    ReturnsInHanded {} Tryd.checked os 3 .any ((OpenSpec.ofChange Rows.subjectSelfSpec).preRow enc Tryd.prog Tryd.f3 Rows.subjectSelfRow.domain false Rows.subjectSelfRow.laid) (((OpenSpec.ofChange Rows.subjectSelfSpec).at F).post enc Tryd.prog Tryd.f3 false true false false) := by
  obtain ⟨places, hx⟩ := reads os enc
  refine returnsInHanded_of_row (C := Tryd.checked) (s := OpenSpec.ofChange Rows.subjectSelfSpec) own started (by kernel_rfl) Tryd.func3
    (witness_row_at (enc := enc) (C := Tryd.checked) false (laid (World.holding Tryd.prog os ⟨#[], #[], []⟩)) #[.string ⟨#[]⟩, .string ⟨#[]⟩] rfl (by kernel_rfl) (by kernel_rfl) (by kernel_rfl)
      (OpenSpec.preRow_of_cond 8 hx (by kernel_rfl) (fun k hk => by cases hk) (by kernel_rfl) (laid_met os))) ?_
  intro W base args ds gs before hval hW _ _ hsz _ _ _
  exact contract H enc W base args ds gs before hval hW hsz

theorem said : Rows.SubjectSelfSaid :=
  OpenClaim.holds_of_cond 3 Tryd.f3 rfl rfl rfl rfl rfl rfl rfl ⟨rfl, rfl, rfl, rfl, rfl⟩ rfl rfl rfl rfl rfl (by kernel_rfl) Tryd.func3 (by kernel_rfl)
    (of_decide_eq_true (by kernel_rfl)) (by unfold Func.isWrapper; first | (rw [if_pos (by decide +kernel)]; kernel_rfl) | (rw [if_neg (by decide +kernel)]; exact ⟨rfl, rfl⟩))
    (fun os started H enc _ F => by rw [OpenClaim.pre_eq_preRow]; exact lifted os started H enc F)

/-- no parameter wants a stand-in; the program's own looks are off: what the card asks -/
theorem plain (f : FuncId) (fn : Func) (hf : Tryd.pinned.checked.prog.funcNamed Rows.subjectSelfRow.func = some f) (hfn : Tryd.pinned.checked.prog.funcs[f]? = some fn) :
    false = Tryd.pinned.checked.prog.looks [] ∧ ∀ (j : Nat) t, fn.params[j]? = some t → Tryd.pinned.checked.prog.wantsStandIn t = false := by
  obtain rfl : f = 3 := Option.some.inj ((show Tryd.prog.funcNamed Rows.subjectSelfRow.func = some 3 by kernel_rfl).symm.trans hf) |>.symm
  obtain rfl : fn = Tryd.f3 := (Option.some.inj (Tryd.func3.symm.trans hfn)).symm
  refine ⟨by kernel_rfl, fun j t ht => ?_⟩
  rw [Tryd.params3] at ht
  obtain rfl : t = 9 := by simpa using Array.mem_of_getElem? ht
  exact (show Tryd.prog.wantsStandIn 9 = false by kernel_rfl)

theorem card : Rows.SubjectSelfCardSaid :=
  Claim7.holds_tied_plain_at .later [] _ _ _ _ said (fun _ h => by cases h) (by kernel_rfl) (fun _ h => by cases h) subjectSelf_row_tie rfl ⟨rfl, rfl⟩ (by kernel_rfl) rfl plain (by kernel_rfl)
end Go.Proofs.YthldjmljdklkfadDoor.subjectSelf
