/-
  For every record: Check and Encode answer what the document's own answer says: the law RecordSays returns true. The card ties the two listed tables of the library to the program's text.
-/
import Derived.Test.YtmbnmljkioikjaaDoorCards
import Derived.Test.YtmbnmljkioikjaaDoorTie
import Derived.Test.YtmbnmljkioikjaaDoorRowR
import Derived.Test.YtmbnmljkioikjaaDoorWalkC4
import Derived.Test.YtmbnmljkioikjaaDoorWalkD2
import Derived.ProofKit
import Derived.OpenShut
import Derived.SizedLaws
import Derived.Deep.DeepHandedRow
namespace Go.Proofs.YtmbnmljkioikjaaDoor.recordSays
open Go.ChangeShapes Go.WideShapes Go.ChangeAt Go.RowKit Go.Deep
open Go.ChangeMaps (open_string shut_string)

set_option maxRecDepth 100000 in
set_option maxHeartbeats 1000000 in
theorem walk_any (k q t : Int) (a b c : ByteArray) (w : World) (za : a.size ≤ 140737488355328) (zb : b.size ≤ 140737488355328) (zc : c.size ≤ 140737488355328) :
    Calls Tryd.prog 6 #[.agg #[.int .i64 k, .int .i64 q, .int .i64 t, .string a, .string b, .string c]] w fun e w' => e = .returned (.bool true) ∧ Below w.heap.size w w' := by
  obtain ⟨E, hE⟩ : ∃ E, chkV k q t a b c = E := ⟨_, rfl⟩
  have R0 := hide (RB.new w k q t a b c 49)
  have B0 : Hid (Below w.heap.size w (w.alloc (.cells #[.int .i64 k, .int .i64 q, .int .i64 t, .string a, .string b, .string c] 49))) := hide ((Below.refl _ _).alloc (Nat.le_refl _) _)
  have HC := hide hE
  by_cases h0 : E = 0
  · subst h0
    have hV : encV k q t a b c = .tuple #[.string (bs (Pk.cod ⟨k, q, t, a.data.toList, b.data.toList, c.data.toList⟩)), .int .i64 0] := encV_good hE
    have CC : Hid (∀ W : World, Calls Tryd.prog 30 #[.agg #[.int .i64 k, .int .i64 q, .int .i64 t, .string a, .string b, .string c]] W fun e w' => e = .returned (.string (bs (Pk.cod ⟨k, q, t, a.data.toList, b.data.toList, c.data.toList⟩))) ∧ Below W.heap.size W w') := hide (fun W => rcoded_any k q t a b c W hE)
    generalize bs (Pk.cod ⟨k, q, t, a.data.toList, b.data.toList, c.data.toList⟩) = S at hV CC
    have HE := hide hV
    clear hE hV
    go_enter Tryd.func6, Tryd.ntmps6
    go_wp2_with fail
    refine (rrecord_any k q t a b c _ za zb zc).mono ?_
    rintro e w1 ⟨rfl, b1⟩
    rw [unhide HC]
    have R1 := (unhide R0).next b1
    have B1 := hide (bstep (unhide B0) b1)
    have H1 := hide R1
    obtain ⟨_, c0, c1, c2, c3, c4, c5, _⟩ := R1
    clear R0 B0 b1
    go_wp2_with fail
    refine (unhide CC _).mono ?_
    rintro e w2 ⟨rfl, b2⟩
    have R2 := (unhide H1).next b2
    have B2 := hide (bstep (unhide B1) b2)
    have H2 := hide R2
    clear c0 c1 c2 c3 c4 c5
    obtain ⟨_, c0, c1, c2, c3, c4, c5, _⟩ := R2
    clear b2 B1 H1
    go_wp2_with fail
    refine (encode_any k q t a b c _ za zb zc).mono ?_
    rintro e w3 ⟨rfl, b3⟩
    rw [unhide HE]
    have R3 := (unhide H2).next b3
    have B3 := hide (bstep (unhide B2) b3)
    obtain ⟨_, e0, e1, e2, e3, e4, e5, _⟩ := R3
    clear H2 B2 b3
    go_wp2_with fail
    refine (check_any k q t a b c _ za zb zc).mono ?_
    rintro e w4 ⟨rfl, b4⟩
    rw [unhide HC]
    have B4 := hide (bstep (unhide B3) b4)
    clear b4 B3 e0 e1 e2 e3 e4 e5
    go_wp2_with fail
    go_ret
    exact ⟨rfl, unhide B4⟩
  · have HE : Hid (encV k q t a b c = .tuple #[.string ⟨#[]⟩, .int .i64 E]) := hide (encV_bad hE h0)
    have h1 : (E == 0) = false := by rw [beq_eq_false_iff_ne]; exact h0
    clear hE h0
    go_enter Tryd.func6, Tryd.ntmps6
    go_wp2_with fail
    refine (rrecord_any k q t a b c _ za zb zc).mono ?_
    rintro e w1 ⟨rfl, b1⟩
    rw [unhide HC]
    have R1 := (unhide R0).next b1
    have B1 := hide (bstep (unhide B0) b1)
    have H1 := hide R1
    obtain ⟨_, c0, c1, c2, c3, c4, c5, _⟩ := R1
    clear R0 B0 b1
    go_wp2_with fail
    have B2 := B1
    have H2 := H1
    clear B1 H1
    refine (encode_any k q t a b c _ za zb zc).mono ?_
    rintro e w3 ⟨rfl, b3⟩
    rw [unhide HE]
    have R3 := (unhide H2).next b3
    have B3 := hide (bstep (unhide B2) b3)
    obtain ⟨_, e0, e1, e2, e3, e4, e5, _⟩ := R3
    clear H2 B2 b3
    go_wp2_with fail
    refine (check_any k q t a b c _ za zb zc).mono ?_
    rintro e w4 ⟨rfl, b4⟩
    rw [unhide HC]
    have B4 := hide (bstep (unhide B3) b4)
    clear b4 B3 e0 e1 e2 e3 e4 e5
    go_wp2_with fail
    go_ret
    exact ⟨rfl, unhide B4⟩

theorem own : ownKnob Tryd.prog.godebug = none := by kernel_rfl
theorem laidOut : laidOutB Tryd.prog = true := by kernel_rfl
theorem cellsR : Tryd.prog.cellsOf 49 = 6 := by kernel_rfl

set_option maxRecDepth 100000 in
theorem contract (H : Type) (enc : TypeId × Value → H) (W : World) (base : Nat) (args : Array Value) (ds gs : List (DataW H)) (before : List MemPlace)
    (hval : ∀ (j : Nat) t v, Tryd.f6.params[j]? = some t → args[j]? = some v → Value.okWide Tryd.prog W .any base t v)
    (hW : DataW.Whole enc Tryd.prog Tryd.f6.params.toList Rows.recordSaysSpec.vars false W args.toList ds gs before)
    (hsz : (DataW.weightsEach Tryd.prog (Tryd.f6.params.toList ++ (OpenSpec.ofChange Rows.recordSaysSpec).bare.plain.varTypes Tryd.prog) (ds ++ gs)).all (· ≤ reachBytes) = true) :
    Calls Tryd.prog 6 args W fun e W' => ∃ v, e = .returned v ∧ Rows.recordSaysSpec.post enc Tryd.prog Tryd.f6 false true false false W args v W' := by
  have hW' := hW
  obtain ⟨p, q, hA0, hV, rfl, hfz, hnd⟩ := hW
  have hA : DataW.TrodAll enc Tryd.prog W 0 (fun _ => true) true Tryd.f6.params.toList args.toList ds p := hA0
  rw [Tryd.params6] at hA hval hsz
  obtain ⟨v0, vs0, d0, ds0, p0, q0, hargs, rfl, rfl, h0, r0⟩ := trodAll_cons hA
  obtain ⟨rfl, rfl, rfl⟩ := trodAll_nil r0
  obtain rfl : args = #[v0] := by cases args; simp_all
  obtain ⟨rfl, rfl⟩ := trodVars_none hV
  have h0k := h0
  clear hA0
  simp only [List.append_nil] at hW'
  have hlt : ∀ x ∈ p0, x.block < W.heap.size := fun x hx => by simpa using hW'.lt x (by simpa using hx)
  obtain ⟨u0, u1, u2, u3, u4, u5, y0, y1, y2, y3, y4, y5, m, rfl, hd, hp, g0, g1, g2, g3, g4, g5⟩ := open_agg6 Tryd.underlying49 (by kernel_rfl) cellsR (hval 0 49 v0 rfl rfl) h0
  obtain ⟨k, e0, x0, _⟩ := DataW.trod_int Tryd.underlying3 g0
  obtain ⟨q, e1, x1, _⟩ := DataW.trod_int Tryd.underlying3 g1
  obtain ⟨t, e2, x2, _⟩ := DataW.trod_int Tryd.underlying3 g2
  obtain ⟨a, e3, x3, _⟩ := DataW.trod_string Tryd.underlying9 g3
  obtain ⟨b, e4, x4, _⟩ := DataW.trod_string Tryd.underlying9 g4
  obtain ⟨c, e5, x5, _⟩ := DataW.trod_string Tryd.underlying9 g5
  simp only [List.cons.injEq, and_true] at e0 e1 e2 e3 e4 e5
  subst e0 e1 e2 e3 e4 e5
  have hw : ∀ x ∈ DataW.weights Tryd.prog 49 d0, x ≤ reachBytes := fun x hx => by
    have := List.all_eq_true.1 hsz _ (DataW.weights_mem_each (j := 0) rfl rfl _ hx)
    simpa using this
  have hw3 := fun h => hw a.data.toList.length h
  have hw4 := fun h => hw b.data.toList.length h
  have hw5 := fun h => hw c.data.toList.length h
  rw [hd, x3, x4, x5, x0, x1, x2] at hw3 hw4 hw5
  have za : a.size ≤ 140737488355328 := by
    have h := hw3 (by simp [DataW.weights, DataW.weightsEach, Tryd.underlying49])
    have e : a.data.toList.length = a.size := by simp
    unfold reachBytes at h
    omega
  have zb : b.size ≤ 140737488355328 := by
    have h := hw4 (by simp [DataW.weights, DataW.weightsEach, Tryd.underlying49])
    have e : b.data.toList.length = b.size := by simp
    unfold reachBytes at h
    omega
  have zc : c.size ≤ 140737488355328 := by
    have h := hw5 (by simp [DataW.weights, DataW.weightsEach, Tryd.underlying49])
    have e : c.data.toList.length = c.size := by simp
    unfold reachBytes at h
    omega
  refine (walk_any k q t a b c W za zb zc).mono fun e W' ⟨he, hb⟩ => ?_
  subst he
  exact ⟨_, rfl, _, _, _, [], _, [], hW', trodAll_cons_mk (shut_bool Tryd.underlying4 _) trodAll_mk0, (trodAll_cons_mk (Below.trod laidOut (by kernel_rfl) (of_decide_eq_true (by kernel_rfl)) h0k hb hlt) trodAll_mk0), rfl, hb.frame _, fun h => by cases h⟩

/-- a world for the witness: the settled one, the two listed tables holding what the row says -/
def accCells : Array Value := #[.int .u8 128, .int .u8 191, .int .u8 160, .int .u8 191, .int .u8 128, .int .u8 159, .int .u8 144, .int .u8 191, .int .u8 128, .int .u8 143, .int .u8 0, .int .u8 0, .int .u8 0, .int .u8 0, .int .u8 0, .int .u8 0, .int .u8 0, .int .u8 0, .int .u8 0, .int .u8 0, .int .u8 0, .int .u8 0, .int .u8 0, .int .u8 0, .int .u8 0, .int .u8 0, .int .u8 0, .int .u8 0, .int .u8 0, .int .u8 0, .int .u8 0, .int .u8 0]
def firstCells : Array Value := (Go.Pinned.utf8FirstZ.map fun (n : Nat) => Value.int .u8 (n : Int)).toArray
def withCells (c : Array Value) : Obj → Obj
  | .cells _ t frozen => .cells c t frozen
  | o => o
def laid (w : World) : World := { w with heap := (w.heap.modify 2 (withCells accCells)).modify 1 (withCells firstCells) }
set_option maxRecDepth 100000 in
theorem laid_met (os : Os) : laidMet Tryd.prog Rows.recordSaysRow.laid ((laid (World.holding Tryd.prog os ⟨#[], #[], []⟩)).forCall (fun _ _ => 0) ⟨#[], #[.agg #[.int .i64 0, .int .i64 0, .int .i64 0, .string ⟨#[]⟩, .string ⟨#[]⟩, .string ⟨#[]⟩]], []⟩).memory :=
  laidMet_of_run' 8 (by kernel_rfl) (by kernel_rfl)
theorem reads (os : Os) {H : Type} (enc : TypeId × Value → H) : ∃ places, DataW.whole enc Tryd.prog ((laid (World.holding Tryd.prog os ⟨#[], #[], []⟩)).forCall (fun _ _ => 0) ⟨#[], #[.agg #[.int .i64 0, .int .i64 0, .int .i64 0, .string ⟨#[]⟩, .string ⟨#[]⟩, .string ⟨#[]⟩]], []⟩).memory Tryd.f6.params.toList Rows.recordSaysSpec.vars false #[Value.agg #[.int .i64 0, .int .i64 0, .int .i64 0, .string ⟨#[]⟩, .string ⟨#[]⟩, .string ⟨#[]⟩]].toList 8 = some ([.agg [.lit (.int .i64 0), .lit (.int .i64 0), .lit (.int .i64 0), .lit (.string []), .lit (.string []), .lit (.string [])]], [], places) :=
  ⟨[], by kernel_rfl⟩

set_option maxRecDepth 100000 in
theorem lifted (os : Os) (started : os.Started) (H : Type) (enc : TypeId × Value → H) (F : Stop.Interp) :
    ReturnsInHanded {} Tryd.checked os 6 .any ((OpenSpec.ofChange Rows.recordSaysSpec).preRow enc Tryd.prog Tryd.f6 Rows.recordSaysRow.domain false Rows.recordSaysRow.laid) (((OpenSpec.ofChange Rows.recordSaysSpec).at F).post enc Tryd.prog Tryd.f6 false true false false) := by
  obtain ⟨places, hx⟩ := reads os enc
  refine returnsInHanded_of_row (C := Tryd.checked) (s := OpenSpec.ofChange Rows.recordSaysSpec) own started (by kernel_rfl) Tryd.func6
    (witness_row_at (enc := enc) (C := Tryd.checked) false (laid (World.holding Tryd.prog os ⟨#[], #[], []⟩)) #[.agg #[.int .i64 0, .int .i64 0, .int .i64 0, .string ⟨#[]⟩, .string ⟨#[]⟩, .string ⟨#[]⟩]] rfl (by kernel_rfl) (by kernel_rfl) (by kernel_rfl)
      (OpenSpec.preRow_of_cond 8 hx (by kernel_rfl) (fun k hk => by cases hk) (by kernel_rfl) (laid_met os))) ?_
  intro W base args ds gs before hval hW _ _ hsz _ _ _
  exact contract H enc W base args ds gs before hval hW hsz

theorem said : Rows.RecordSaysSaid :=
  OpenClaim.holds_of_cond 6 Tryd.f6 rfl rfl rfl rfl rfl rfl rfl ⟨rfl, rfl, rfl, rfl, rfl⟩ rfl rfl rfl rfl rfl (by kernel_rfl) Tryd.func6 (by kernel_rfl)
    (of_decide_eq_true (by kernel_rfl)) (by unfold Func.isWrapper; first | (rw [if_pos (by decide +kernel)]; kernel_rfl) | (rw [if_neg (by decide +kernel)]; exact ⟨rfl, rfl⟩))
    (fun os started H enc _ F => by rw [OpenClaim.pre_eq_preRow]; exact lifted os started H enc F)

/-- no parameter wants a stand-in; the program's own looks are off: what the card asks -/
theorem plain (f : FuncId) (fn : Func) (hf : Tryd.pinned.checked.prog.funcNamed Rows.recordSaysRow.func = some f) (hfn : Tryd.pinned.checked.prog.funcs[f]? = some fn) :
    false = Tryd.pinned.checked.prog.looks [] ∧ ∀ (j : Nat) t, fn.params[j]? = some t → Tryd.pinned.checked.prog.wantsStandIn t = false := by
  obtain rfl : f = 6 := Option.some.inj ((show Tryd.prog.funcNamed Rows.recordSaysRow.func = some 6 by kernel_rfl).symm.trans hf) |>.symm
  obtain rfl : fn = Tryd.f6 := (Option.some.inj (Tryd.func6.symm.trans hfn)).symm
  refine ⟨by kernel_rfl, fun j t ht => ?_⟩
  rw [Tryd.params6] at ht
  obtain rfl : t = 49 := by simpa using Array.mem_of_getElem? ht
  exact (show Tryd.prog.wantsStandIn 49 = false by kernel_rfl)

theorem card : Rows.RecordSaysCardSaid :=
  Claim7.holds_tied_plain_at .later [] _ _ _ _ said (fun _ h => by cases h) (by kernel_rfl) (fun _ h => by cases h) recordSays_row_tie rfl ⟨rfl, rfl⟩ (by kernel_rfl) rfl plain (by kernel_rfl)
end Go.Proofs.YtmbnmljkioikjaaDoor.recordSays
