/-
  For every text: Parse answers what the document's own answer says: the law PlanReads returns true, over what is asked of the program's package plan. The card ties the listed tables to the program's text.
-/
import Derived.Test.YtohjipnkoiifhabDoorCards
import Derived.Test.YtohjipnkoiifhabDoorTie
import Derived.Test.YtohjipnkoiifhabDoorRowTb
import Derived.Test.YtohjipnkoiifhabDoorRowTc
import Derived.Test.YtohjipnkoiifhabDoorJointWalkYbWalkYr
import Derived.Test.YtohjipnkoiifhabDoorWalkPR
import Derived.ProofKit
import Derived.OpenShut
import Derived.SizedLaws
import Derived.Deep.DeepHandedRow
namespace Go.Proofs.YtohjipnkoiifhabDoor.planReads
open Go.ChangeShapes Go.WideShapes Go.ChangeAt Go.RowKit Go.Deep
open Go.ChangeMaps (open_string shut_string)

theorem own : ownKnob Tryd.prog.godebug = none := by kernel_rfl
theorem laidOut : laidOutB Tryd.prog = true := by kernel_rfl
/-- what the tables are asked to be -/
abbrev GR (w : World) : Prop := BndIs w ∧ WrdIs w
theorem tables {W : World} (h : laidMetH Tryd.prog Rows.planReadsRow.laid W) : GR W := by
  have h' : laidMet Tryd.prog Rows.planReadsRow.laid W := h
  exact ⟨bnd_of h' (by simp [Rows.planReadsRow]), wrd_of h' (by simp [Rows.planReadsRow])⟩

set_option maxRecDepth 100000 in
theorem contract (PR : PReads GR) (H : Type) (enc : TypeId × Value → H) (W : World) (base : Nat) (args : Array Value) (ds gs : List (DataW H)) (before : List MemPlace)
    (hval : ∀ (j : Nat) t v, Tryd.f4.params[j]? = some t → args[j]? = some v → Value.okWide Tryd.prog W .any base t v)
    (hW : DataW.Whole enc Tryd.prog Tryd.f4.params.toList Rows.planReadsSpec.vars false W args.toList ds gs before)
    (hsz : (DataW.weightsEach Tryd.prog (Tryd.f4.params.toList ++ (OpenSpec.ofChange Rows.planReadsSpec).bare.plain.varTypes Tryd.prog) (ds ++ gs)).all (· ≤ reachBytes) = true) (hlm : laidMetH Tryd.prog Rows.planReadsRow.laid W) :
    Calls Tryd.prog 4 args W fun e W' => ∃ v, e = .returned v ∧ Rows.planReadsSpec.post enc Tryd.prog Tryd.f4 false true false false W args v W' := by
  have hG := tables hlm
  have hW' := hW
  obtain ⟨p, q, hA0, hV, rfl, hfz, hnd⟩ := hW
  have hA : DataW.TrodAll enc Tryd.prog W 0 (fun _ => true) true Tryd.f4.params.toList args.toList ds p := hA0
  rw [Tryd.params4] at hA hval hsz
  obtain ⟨v0, vs0, d0, ds0, p0, q0, hargs, rfl, rfl, h0, r0⟩ := trodAll_cons hA
  obtain ⟨rfl, rfl, rfl⟩ := trodAll_nil r0
  obtain rfl : args = #[v0] := by cases args; simp_all
  obtain ⟨rfl, rfl⟩ := trodVars_none hV
  obtain ⟨s1, rfl, rfl, rfl, ws1⟩ := open_string Tryd.underlying9 (hval 0 9 v0 rfl rfl) h0
  clear hA0
  simp only [List.append_nil] at hW'
  have zs : s1.size ≤ 140737488355328 := by
    have h := sized_string hsz (j := 0) (t := 9) rfl rfl
    have e : s1.data.toList.length = s1.size := by simp
    unfold reachBytes at h
    omega
  refine (plan_reads (G := GR) (fun h hb => ⟨h.1.next hb, h.2.next hb⟩) (fun h => h.2) PR s1 W zs hG).mono fun e W' ⟨he, hb⟩ => ?_
  subst he
  exact ⟨_, rfl, _, _, _, [], _, [], hW', trodAll_cons_mk (shut_bool Tryd.underlying4 _) trodAll_mk0, (trodAll_cons_mk (shut_string Tryd.underlying9 ws1) trodAll_mk0), rfl, hb.frame _, fun h => by cases h⟩

/-- a world for the witness: the settled one, the listed tables holding what the row says -/
def litCells : Nat → DataW Unit → List Value
  | 0, _ => []
  | _ + 1, .lit (.int k z) => [.int k z]
  | _ + 1, .lit (.string s) => [.string ⟨s.toArray⟩]
  | n + 1, .agg l => l.flatMap (litCells n)
  | _ + 1, _ => []
def withCells (c : Array Value) : Obj → Obj
  | .cells _ t frozen => .cells c t frozen
  | o => o
def heapAt (g : Nat) (d : DataW Unit) (h : Array Obj) : Array Obj := h.modify g (withCells (litCells 4 d).toArray)
/-- the cells that a listed error leads to -/
def sentCells : DataW Unit → List Value
  | .iface _ (.ptr d) => litCells 4 d
  | _ => []
def heapTo (g k : Nat) (h : Array Obj) : Array Obj := h.modify g (withCells #[.iface 130 (.pointer (some ⟨k, 0, none⟩))])
/- (the tables are named one by one: a definition that looks them up in the program isn't compiled) -/
def laid (w : World) : World := { w with heap := ((heapTo 9 w.heap.size (heapTo 8 (w.heap.size + 1) (heapAt 6 Rows.laid_unicode_utf8_first (heapAt 0 Rows.laid_rillbook_plan_bounds (heapAt 1 Rows.laid_rillbook_rillref_planWords (heapAt 7 Rows.laid_unicode_utf8_acceptRanges (heapAt 3 Rows.laid_internal_strconv_uint64pow10 (heapAt 5 Rows.laid_math_bits_deBruijn64tab (heapAt 4 Rows.laid_math_bits_deBruijn32tab (w.heap)))))))))).push (.cells (sentCells Rows.laid_strconv_ErrRange).toArray 132)).push (.cells (sentCells Rows.laid_strconv_ErrSyntax).toArray 132) }
set_option maxRecDepth 100000 in
theorem laid_met (os : Os) : laidMet Tryd.prog Rows.planReadsRow.laid ((laid (World.holding Tryd.prog os ⟨#[], #[], []⟩)).forCall (fun _ _ => 0) ⟨#[], #[.string ⟨#[]⟩], []⟩).memory :=
  laidMet_of_run' 8 (by kernel_rfl) (by kernel_rfl)
theorem reads (os : Os) {H : Type} (enc : TypeId × Value → H) : ∃ places, DataW.whole enc Tryd.prog ((laid (World.holding Tryd.prog os ⟨#[], #[], []⟩)).forCall (fun _ _ => 0) ⟨#[], #[.string ⟨#[]⟩], []⟩).memory Tryd.f4.params.toList Rows.planReadsSpec.vars false #[Value.string ⟨#[]⟩].toList 8 = some ([.lit (.string [])], [], places) :=
  ⟨[], by kernel_rfl⟩

set_option maxRecDepth 100000 in
theorem lifted (PR : PReads GR) (os : Os) (started : os.Started) (H : Type) (enc : TypeId × Value → H) (F : Stop.Interp) :
    ReturnsInHanded {} Tryd.checked os 4 .any ((OpenSpec.ofChange Rows.planReadsSpec).preRow enc Tryd.prog Tryd.f4 Rows.planReadsRow.domain false Rows.planReadsRow.laid) (((OpenSpec.ofChange Rows.planReadsSpec).at F).post enc Tryd.prog Tryd.f4 false true false false) := by
  obtain ⟨places, hx⟩ := reads os enc
  refine returnsInHanded_of_row (C := Tryd.checked) (s := OpenSpec.ofChange Rows.planReadsSpec) own started (by kernel_rfl) Tryd.func4
    (witness_row_at (enc := enc) (C := Tryd.checked) false (laid (World.holding Tryd.prog os ⟨#[], #[], []⟩)) #[.string ⟨#[]⟩] rfl (by kernel_rfl) (by kernel_rfl) (by kernel_rfl)
      (OpenSpec.preRow_of_cond 8 hx (by kernel_rfl) (fun k hk => by cases hk) (by kernel_rfl) (laid_met os))) ?_
  intro W base args ds gs before hval hW _ _ hsz hlm _ _
  exact contract PR H enc W base args ds gs before hval hW hsz hlm

theorem said_of (PR : PReads GR) : Rows.PlanReadsSaid :=
  OpenClaim.holds_of_cond 4 Tryd.f4 rfl rfl rfl rfl rfl rfl rfl ⟨rfl, rfl, rfl, rfl, rfl⟩ rfl rfl rfl rfl rfl (by kernel_rfl) Tryd.func4 (by kernel_rfl)
    (of_decide_eq_true (by kernel_rfl)) (by unfold Func.isWrapper; first | (rw [if_pos (by decide +kernel)]; kernel_rfl) | (rw [if_neg (by decide +kernel)]; exact ⟨rfl, rfl⟩))
    (fun os started H enc _ F => by rw [OpenClaim.pre_eq_preRow]; exact lifted PR os started H enc F)

/-- no parameter wants a stand-in; the program's own looks are as the card says -/
theorem plain (f : FuncId) (fn : Func) (hf : Tryd.pinned.checked.prog.funcNamed Rows.planReadsRow.func = some f) (hfn : Tryd.pinned.checked.prog.funcs[f]? = some fn) :
    Rows.planReadsCard.stood.looks = Tryd.pinned.checked.prog.looks [] ∧ ∀ (j : Nat) t, fn.params[j]? = some t → Tryd.pinned.checked.prog.wantsStandIn t = false := by
  obtain rfl : f = 4 := Option.some.inj ((show Tryd.prog.funcNamed Rows.planReadsRow.func = some 4 by kernel_rfl).symm.trans hf) |>.symm
  obtain rfl : fn = Tryd.f4 := (Option.some.inj (Tryd.func4.symm.trans hfn)).symm
  refine ⟨by kernel_rfl, fun j t ht => ?_⟩
  rw [Tryd.params4] at ht
  obtain rfl : t = 9 := by simpa using Array.mem_of_getElem? ht
  exact (show Tryd.prog.wantsStandIn 9 = false by kernel_rfl)

theorem card_of (PR : PReads GR) : Rows.PlanReadsCardSaid :=
  Claim7.holds_tied_plain_at .later [] _ _ _ _ (said_of PR) (fun _ h => by cases h) (by kernel_rfl) (fun _ h => by cases h) planReads_row_tie rfl ⟨rfl, rfl⟩ (by kernel_rfl) rfl plain (by kernel_rfl)
theorem card : Rows.PlanReadsCardSaid := card_of (preads (fun h => h.1))
end Go.Proofs.YtohjipnkoiifhabDoor.planReads
