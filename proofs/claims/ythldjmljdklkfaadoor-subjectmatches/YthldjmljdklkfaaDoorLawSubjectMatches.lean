/-
  For all texts f, g, s, subject.Match, Overlap and Covers answer what the document's own answer says: the law SubjectMatches returns true. The card ties the two listed tables of the library to the program's text.
-/
import Derived.Test.YthldjmljdklkfaaDoorCards
import Derived.Test.YthldjmljdklkfaaDoorTie
import Derived.Test.YthldjmljdklkfaaDoorWalk6
import Derived.ProofKit
import Derived.OpenShut
import Derived.Deep.DeepHandedRow
namespace Go.Proofs.YthldjmljdklkfaaDoor.subjectMatches
open Go.ChangeShapes Go.WideShapes Go.ChangeAt Go.RowKit
open Go.ChangeMaps (open_string shut_string)

/-- no token of a subject is the sign for all that is left -/
theorem plain_gt {t : ByteArray} (h : isPlainB t = true) : gtB t = false := by
  cases e : gtB t with
  | false => rfl
  | true =>
    unfold gtB at e
    rw [ByteArray.toList_eq] at e
    have e2 := eq_of_beq e
    unfold isPlainB at h
    rw [e2] at h
    revert h
    decide
theorem takes_cover : ∀ (f s : List ByteArray), (∀ t ∈ s, gtB t = false) → takesL f s = coverL f s
  | [], _, _ => rfl
  | _ :: _, [], _ => rfl
  | f :: fs, s :: ss, h => by
    rw [takesL, coverL, takes_cover fs ss (fun t ht => h t (by simp [ht])), h s (by simp)]
    simp
theorem subj_tokens {s : ByteArray} (h : errS false s = 0) : ∀ t ∈ Pl.toks s, gtB t = false := by
  intro t ht
  obtain ⟨k, hk, rfl⟩ := List.mem_iff_getElem.1 ht
  have hp : isPlainB (tk (Pl.toks s) k) = true := by
    cases e : isPlainB (tk (Pl.toks s) k) with
    | true => rfl
    | false =>
      have hm : manyB s = false := by simp [manyB, few h]
      rw [subj_bad hm hk e] at h
      omega
  have e : tk (Pl.toks s) k = (Pl.toks s)[k] := by simp [tk, List.getElem?_eq_getElem hk]
  rw [e] at hp
  exact plain_gt hp

theorem rfilter_at {f : ByteArray} {x : Int} (h : errS true f = x) (hf : f.size ≤ 140737488355328) (w : World) :
    Calls Tryd.prog 8 #[.string f] w fun e w' => e = .returned (.int .i64 x) ∧ Below w.heap.size w w' := by
  subst h; exact rfilter_any f w hf
theorem rsubject_at {f : ByteArray} {x : Int} (h : errS false f = x) (hf : f.size ≤ 140737488355328) (w : World) :
    Calls Tryd.prog 6 #[.string f] w fun e w' => e = .returned (.int .i64 x) ∧ Below w.heap.size w w' := by
  subst h; exact rsubject_any f w hf
theorem rTakes_at {f s : ByteArray} {a : Bool} (h : takesL (Pl.toks f) (Pl.toks s) = a) (hf : f.size ≤ 140737488355328) (hs : s.size ≤ 140737488355328) (nf : (Pl.toks f).length ≤ 8) (ns : (Pl.toks s).length ≤ 8) (w : World) :
    Calls Tryd.prog 12 #[.string f, .string s] w fun e w' => e = .returned (.bool a) ∧ Below w.heap.size w w' := by
  subst h; exact rTakes_any f s w hf hs (by rw [← Pl.toks_length]; omega) (by rw [← Pl.toks_length]; omega)
theorem rOverlap_at {f s : ByteArray} {a : Bool} (h : meetL (Pl.toks f) (Pl.toks s) = a) (hf : f.size ≤ 140737488355328) (hs : s.size ≤ 140737488355328) (nf : (Pl.toks f).length ≤ 8) (ns : (Pl.toks s).length ≤ 8) (w : World) :
    Calls Tryd.prog 13 #[.string f, .string s] w fun e w' => e = .returned (.bool a) ∧ Below w.heap.size w w' := by
  subst h; exact rOverlap_any f s w hf hs (by rw [← Pl.toks_length]; omega) (by rw [← Pl.toks_length]; omega)
theorem rCovers_at {f s : ByteArray} {a : Bool} (h : coverL (Pl.toks f) (Pl.toks s) = a) (hf : f.size ≤ 140737488355328) (hs : s.size ≤ 140737488355328) (nf : (Pl.toks f).length ≤ 8) (ns : (Pl.toks s).length ≤ 8) (w : World) :
    Calls Tryd.prog 14 #[.string f, .string s] w fun e w' => e = .returned (.bool a) ∧ Below w.heap.size w w' := by
  subst h; exact rCovers_any f s w hf hs (by rw [← Pl.toks_length]; omega) (by rw [← Pl.toks_length]; omega)

/-- the filter is none: all three tell its error -/
theorem walk_none (f g s : ByteArray) (x : Int) (w : World) (hf : f.size ≤ 140737488355328) (hg : g.size ≤ 140737488355328) (hs : s.size ≤ 140737488355328) (hx : (x == 0) = false)
    (m1 : matchB f s = false) (m2 : pairErr (errS true f) (errS false s) = x) (o1 : overlapB f g = false) (c1 : coversB f g = false) (o2 : pairErr (errS true f) (errS true g) = x) (e1 : errS true f = x) :
    Calls Tryd.prog 4 #[.string f, .string g, .string s] w fun e w' => e = .returned (.bool true) ∧ Below w.heap.size w w' := by
  have M1 := hide m1; have M2 := hide m2; have O1 := hide o1; have C1 := hide c1; have O2 := hide o2; have E1 := hide e1
  clear m1 m2 o1 c1 o2 e1
  go_enter Tryd.func4, Tryd.ntmps4
  go_wp2_with fail
  refine (match_at (unhide M1) (unhide M2) hf hs _).mono ?_
  rintro e w1 ⟨rfl, b1⟩
  go_wp2_with fail
  refine (overlap_at (unhide O1) (unhide O2) hf hg _).mono ?_
  rintro e w2 ⟨rfl, b2⟩
  go_wp2_with fail
  refine (covers_at (unhide C1) (unhide O2) hf hg _).mono ?_
  rintro e w3 ⟨rfl, b3⟩
  go_wp2_with fail
  refine (rfilter_at (unhide E1) hf _).mono ?_
  rintro e w4 ⟨rfl, b4⟩
  go_wp2
  go_ret
  exact ⟨rfl, bstep (bstep (bstep b1 b2) b3) b4⟩

/-- the filter is one: y the subject's error, z the other filter's -/
theorem walk_some (f g s : ByteArray) (y z : Int) (A B C : Bool) (w : World) (hf : f.size ≤ 140737488355328) (hg : g.size ≤ 140737488355328) (hs : s.size ≤ 140737488355328)
    (m1 : matchB f s = ((y == 0) && A)) (m2 : pairErr (errS true f) (errS false s) = y) (o1 : overlapB f g = ((z == 0) && B)) (c1 : coversB f g = ((z == 0) && C)) (o2 : pairErr (errS true f) (errS true g) = z)
    (e1 : errS true f = 0) (e2 : errS false s = y) (e3 : errS true g = z) (t1 : (y == 0) = true → takesL (Pl.toks f) (Pl.toks s) = A) (t2 : meetL (Pl.toks f) (Pl.toks g) = B) (t3 : coverL (Pl.toks f) (Pl.toks g) = C) :
    Calls Tryd.prog 4 #[.string f, .string g, .string s] w fun e w' => e = .returned (.bool true) ∧ Below w.heap.size w w' := by
  have M1 := hide m1; have M2 := hide m2; have O1 := hide o1; have C1 := hide c1; have O2 := hide o2; have E1 := hide e1; have E2 := hide e2; have E3 := hide e3; have T1 := hide t1; have T2 := hide t2; have T3 := hide t3
  clear m1 m2 o1 c1 o2 e1 e2 e3 t1 t2 t3
  have nf := few (unhide E1)
  cases hy : (y == 0) <;> cases hz : (z == 0)
  all_goals
    rw [hy] at M1 T1
    rw [hz] at O1 C1
    go_enter Tryd.func4, Tryd.ntmps4
    go_wp2_with fail
    refine (match_at (unhide M1) (unhide M2) hf hs _).mono ?_
    rintro e w1 ⟨rfl, b1⟩
    go_wp2_with fail
    refine (overlap_at (unhide O1) (unhide O2) hf hg _).mono ?_
    rintro e w2 ⟨rfl, b2⟩
    go_wp2_with fail
    refine (covers_at (unhide C1) (unhide O2) hf hg _).mono ?_
    rintro e w3 ⟨rfl, b3⟩
    go_wp2_with fail
    refine (rfilter_at (unhide E1) hf _).mono ?_
    rintro e w4 ⟨rfl, b4⟩
    go_wp2_with fail
    refine (rsubject_at (unhide E2) hs _).mono ?_
    rintro e w5 ⟨rfl, b5⟩
    go_wp2_with fail
    refine (rfilter_at (unhide E3) hg _).mono ?_
    rintro e w6 ⟨rfl, b6⟩
    have b := bstep (bstep (bstep (bstep (bstep b1 b2) b3) b4) b5) b6
    clear b1 b2 b3 b4 b5 b6
    go_wp2_with (first
      | (go_at_call 12; refine (rTakes_at (unhide T1 (by trivial)) hf hs nf (few ((unhide E2).trans (by simpa using hy))) _).mono ?_; rintro e w7 ⟨rfl, b7⟩; replace b := bstep b b7; clear b7)
      | (go_at_call 13; refine (rOverlap_at (unhide T2) hf hg nf (few ((unhide E3).trans (by simpa using hz))) _).mono ?_; rintro e w8 ⟨rfl, b8⟩; replace b := bstep b b8; clear b8)
      | (go_at_call 14; refine (rCovers_at (unhide T3) hf hg nf (few ((unhide E3).trans (by simpa using hz))) _).mono ?_; rintro e w9 ⟨rfl, b9⟩; replace b := bstep b b9; clear b9))
    go_ret
    exact ⟨rfl, b⟩

theorem walk_any (f g s : ByteArray) (w : World) (hf : f.size ≤ 140737488355328) (hg : g.size ≤ 140737488355328) (hs : s.size ≤ 140737488355328) :
    Calls Tryd.prog 4 #[.string f, .string g, .string s] w fun e w' => e = .returned (.bool true) ∧ Below w.heap.size w w' := by
  cases hx : (errS true f == 0)
  · have hne : errS true f ≠ 0 := by simpa using hx
    refine walk_none f g s (errS true f) w hf hg hs hx ?_ (if_neg hne) ?_ ?_ (if_neg hne) rfl
    · unfold matchB; rw [hx]; rfl
    · unfold overlapB; rw [hx]; rfl
    · unfold coversB; rw [hx]; rfl
  · have h0 : errS true f = 0 := by simpa using hx
    refine walk_some f g s (errS false s) (errS true g) (coverL (Pl.toks f) (Pl.toks s)) (meetL (Pl.toks f) (Pl.toks g)) (coverL (Pl.toks f) (Pl.toks g)) w hf hg hs ?_ (if_pos h0) ?_ ?_ (if_pos h0) h0 rfl rfl ?_ rfl rfl
    · unfold matchB; rw [hx]; simp
    · unfold overlapB; rw [hx]; simp
    · unfold coversB; rw [hx]; simp
    · intro h
      exact takes_cover _ _ (subj_tokens (by simpa using h))

theorem own : ownKnob Tryd.prog.godebug = none := by kernel_rfl

theorem contract (H : Type) (enc : TypeId × Value → H) (W : World) (base : Nat) (args : Array Value) (ds gs : List (DataW H)) (before : List MemPlace)
    (hval : ∀ (j : Nat) t v, Tryd.f4.params[j]? = some t → args[j]? = some v → Value.okWide Tryd.prog W .any base t v)
    (hW : DataW.Whole enc Tryd.prog Tryd.f4.params.toList Rows.subjectMatchesSpec.vars false W args.toList ds gs before)
    (hsz : (DataW.weightsEach Tryd.prog (Tryd.f4.params.toList ++ (OpenSpec.ofChange Rows.subjectMatchesSpec).bare.plain.varTypes Tryd.prog) (ds ++ gs)).all (· ≤ reachBytes) = true) :
    Calls Tryd.prog 4 args W fun e W' => ∃ v, e = .returned v ∧ Rows.subjectMatchesSpec.post enc Tryd.prog Tryd.f4 false true false false W args v W' := by
  have hW' := hW
  obtain ⟨p, q, hA0, hV, rfl, hfz, hnd⟩ := hW
  have hA : DataW.TrodAll enc Tryd.prog W 0 (fun _ => true) true Tryd.f4.params.toList args.toList ds p := hA0
  rw [Tryd.params4] at hA hval hsz
  obtain ⟨v0, vs0, d0, ds0, p0, q0, hargs, rfl, rfl, h0, r0⟩ := trodAll_cons hA
  obtain ⟨v1, vs1, d1, ds1, p1, q1, rfl, rfl, rfl, h1, r1⟩ := trodAll_cons r0
  obtain ⟨v2, vs2, d2, ds2, p2, q2, rfl, rfl, rfl, h2, r2⟩ := trodAll_cons r1
  obtain ⟨rfl, rfl, rfl⟩ := trodAll_nil r2
  obtain rfl : args = #[v0, v1, v2] := by cases args; simp_all
  obtain ⟨rfl, rfl⟩ := trodVars_none hV
  obtain ⟨s0, rfl, rfl, rfl, ws0⟩ := open_string Tryd.underlying9 (hval 0 9 v0 rfl rfl) h0
  obtain ⟨s1, rfl, rfl, rfl, ws1⟩ := open_string Tryd.underlying9 (hval 1 9 v1 rfl rfl) h1
  obtain ⟨s2, rfl, rfl, rfl, ws2⟩ := open_string Tryd.underlying9 (hval 2 9 v2 rfl rfl) h2
  clear hA0
  simp only [List.append_nil] at hW'
  have z0 : s0.size ≤ 140737488355328 := by
    have h := sized_string hsz (j := 0) (t := 9) rfl rfl
    have e : s0.data.toList.length = s0.size := by simp
    unfold reachBytes at h
    omega
  have z1 : s1.size ≤ 140737488355328 := by
    have h := sized_string hsz (j := 1) (t := 9) rfl rfl
    have e : s1.data.toList.length = s1.size := by simp
    unfold reachBytes at h
    omega
  have z2 : s2.size ≤ 140737488355328 := by
    have h := sized_string hsz (j := 2) (t := 9) rfl rfl
    have e : s2.data.toList.length = s2.size := by simp
    unfold reachBytes at h
    omega
  refine (walk_any s0 s1 s2 W z0 z1 z2).mono fun e W' ⟨he, hb⟩ => ?_
  subst he
  exact ⟨_, rfl, _, _, _, [], [], [], hW', trodAll_cons_mk (shut_bool Tryd.underlying4 _) trodAll_mk0, (trodAll_cons_mk (shut_string Tryd.underlying9 ws0) (trodAll_cons_mk (shut_string Tryd.underlying9 ws1) (trodAll_cons_mk (shut_string Tryd.underlying9 ws2) trodAll_mk0))), rfl, hb.frame _, fun h => by cases h⟩

/-- a world for the witness: the settled one, the two listed tables holding what the row says -/
def accCells : Array Value := #[.int .u8 128, .int .u8 191, .int .u8 160, .int .u8 191, .int .u8 128, .int .u8 159, .int .u8 144, .int .u8 191, .int .u8 128, .int .u8 143, .int .u8 0, .int .u8 0, .int .u8 0, .int .u8 0, .int .u8 0, .int .u8 0, .int .u8 0, .int .u8 0, .int .u8 0, .int .u8 0, .int .u8 0, .int .u8 0, .int .u8 0, .int .u8 0, .int .u8 0, .int .u8 0, .int .u8 0, .int .u8 0, .int .u8 0, .int .u8 0, .int .u8 0, .int .u8 0]
def firstCells : Array Value := (Go.Pinned.utf8FirstZ.map fun (n : Nat) => Value.int .u8 (n : Int)).toArray
def withCells (c : Array Value) : Obj → Obj
  | .cells _ t frozen => .cells c t frozen
  | o => o
def laid (w : World) : World := { w with heap := (w.heap.modify 2 (withCells accCells)).modify 1 (withCells firstCells) }
set_option maxRecDepth 100000 in
theorem laid_met (os : Os) : laidMet Tryd.prog Rows.subjectMatchesRow.laid ((laid (World.holding Tryd.prog os ⟨#[], #[], []⟩)).forCall (fun _ _ => 0) ⟨#[], #[.string ⟨#[]⟩, .string ⟨#[]⟩, .string ⟨#[]⟩], []⟩).memory :=
  laidMet_of_run' 8 (by kernel_rfl) (by kernel_rfl)
theorem reads (os : Os) {H : Type} (enc : TypeId × Value → H) : ∃ places, DataW.whole enc Tryd.prog ((laid (World.holding Tryd.prog os ⟨#[], #[], []⟩)).forCall (fun _ _ => 0) ⟨#[], #[.string ⟨#[]⟩, .string ⟨#[]⟩, .string ⟨#[]⟩], []⟩).memory Tryd.f4.params.toList Rows.subjectMatchesSpec.vars false #[Value.string ⟨#[]⟩, Value.string ⟨#[]⟩, Value.string ⟨#[]⟩].toList 8 = some ([.lit (.string []), .lit (.string []), .lit (.string [])], [], places) :=
  ⟨[], by kernel_rfl⟩

set_option maxRecDepth 100000 in
theorem lifted (os : Os) (started : os.Started) (H : Type) (enc : TypeId × Value → H) (F : Stop.Interp) :
    ReturnsInHanded {} Tryd.checked os 4 .any ((OpenSpec.ofChange Rows.subjectMatchesSpec).preRow enc Tryd.prog Tryd.f4 Rows.subjectMatchesRow.domain false Rows.subjectMatchesRow.laid) (((OpenSpec.ofChange Rows.subjectMatchesSpec).at F).post enc Tryd.prog Tryd.f4 false true false false) := by
  obtain ⟨places, hx⟩ := reads os enc
  refine returnsInHanded_of_row (C := Tryd.checked) (s := OpenSpec.ofChange Rows.subjectMatchesSpec) own started (by kernel_rfl) Tryd.func4
    (witness_row_at (enc := enc) (C := Tryd.checked) false (laid (World.holding Tryd.prog os ⟨#[], #[], []⟩)) #[.string ⟨#[]⟩, .string ⟨#[]⟩, .string ⟨#[]⟩] rfl (by kernel_rfl) (by kernel_rfl) (by kernel_rfl)
      (OpenSpec.preRow_of_cond 8 hx (by kernel_rfl) (fun k hk => by cases hk) (by kernel_rfl) (laid_met os))) ?_
  intro W base args ds gs before hval hW _ _ hsz _ _ _
  exact contract H enc W base args ds gs before hval hW hsz

theorem said : Rows.SubjectMatchesSaid :=
  OpenClaim.holds_of_cond 4 Tryd.f4 rfl rfl rfl rfl rfl rfl rfl ⟨rfl, rfl, rfl, rfl, rfl⟩ rfl rfl rfl rfl rfl (by kernel_rfl) Tryd.func4 (by kernel_rfl)
    (of_decide_eq_true (by kernel_rfl)) (by unfold Func.isWrapper; first | (rw [if_pos (by decide +kernel)]; kernel_rfl) | (rw [if_neg (by decide +kernel)]; exact ⟨rfl, rfl⟩))
    (fun os started H enc _ F => by rw [OpenClaim.pre_eq_preRow]; exact lifted os started H enc F)

/-- no parameter wants a stand-in; the program's own looks are off: what the card asks -/
theorem plain (f : FuncId) (fn : Func) (hf : Tryd.pinned.checked.prog.funcNamed Rows.subjectMatchesRow.func = some f) (hfn : Tryd.pinned.checked.prog.funcs[f]? = some fn) :
    false = Tryd.pinned.checked.prog.looks [] ∧ ∀ (j : Nat) t, fn.params[j]? = some t → Tryd.pinned.checked.prog.wantsStandIn t = false := by
  obtain rfl : f = 4 := Option.some.inj ((show Tryd.prog.funcNamed Rows.subjectMatchesRow.func = some 4 by kernel_rfl).symm.trans hf) |>.symm
  obtain rfl : fn = Tryd.f4 := (Option.some.inj (Tryd.func4.symm.trans hfn)).symm
  refine ⟨by kernel_rfl, fun j t ht => ?_⟩
  rw [Tryd.params4] at ht
  obtain rfl : t = 9 := by simpa using Array.mem_of_getElem? ht
  exact (show Tryd.prog.wantsStandIn 9 = false by kernel_rfl)

theorem card : Rows.SubjectMatchesCardSaid :=
  Claim7.holds_tied_plain_at .later [] _ _ _ _ said (fun _ h => by cases h) (by kernel_rfl) (fun _ h => by cases h) subjectMatches_row_tie rfl ⟨rfl, rfl⟩ (by kernel_rfl) rfl plain (by kernel_rfl)
end Go.Proofs.YthldjmljdklkfaaDoor.subjectMatches
