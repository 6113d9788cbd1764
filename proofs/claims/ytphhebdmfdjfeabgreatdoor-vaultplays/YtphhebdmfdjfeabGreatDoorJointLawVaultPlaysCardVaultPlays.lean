/-
  The law VaultPlays: its frame, over what is asked of any vault and of the store that it shows.
  The law VaultPlays: the card, out of the vault's contracts and the store's.
-/
import Derived.Test.YtphhebdmfdjfeabGreatDoorCards
import Derived.Test.YtphhebdmfdjfeabGreatDoorTie
import Derived.Test.YtphhebdmfdjfeabGreatDoorJointWalkVPRowR
import Derived.ProofKit
import Derived.OpenShut
import Derived.SizedLaws
import Derived.Deep.Strs
import Derived.Deep.DeepHandedRow
import Derived.Lib.SmallJoins
import Derived.Test.YtphhebdmfdjfeabGreatDoorJointWalkM4WalkMDWalkMF
import Derived.Test.YtphhebdmfdjfeabGreatDoorJointWalkLEWalkL4WalkL5
import Derived.Test.YtphhebdmfdjfeabGreatDoorJointWalkVVWalkVU
import Derived.Test.YtphhebdmfdjfeabGreatDoorJointWalkXWWalkXY
namespace Go.Proofs.YtphhebdmfdjfeabGreatDoor.Dk.vaultPlays
open Go.ChangeShapes Go.WideShapes Go.ChangeAt Go.RowKit Go.Deep
open Go.ChangeMaps (open_string shut_string)

theorem own : ownKnob Tryz.prog.godebug = none := by kernel_rfl
theorem laidOut : laidOutB Tryz.prog = true := by kernel_rfl
theorem cellsR : Tryz.prog.cellsOf 43 = 6 := by kernel_rfl
theorem cells1 : Tryz.prog.cellsOf 3 = 1 := by kernel_rfl
theorem cells2 : Tryz.prog.cellsOf 9 = 1 := by kernel_rfl
theorem weights_all {H : Type} {P : Program} {e : TypeId} {d : DataW H} {x : Nat} (hx : x ∈ d.weights P e) : ∀ {l : List (DataW H)}, d ∈ l → x ∈ DataW.weightsAll P e l
  | a :: r, h => by
    simp only [DataW.weightsAll, List.mem_append]
    rcases List.mem_cons.1 h with q | q
    · subst q; exact .inl hx
    · exact .inr (weights_all hx q)

set_option maxRecDepth 100000 in
set_option maxHeartbeats 1000000 in
theorem contract {VH : World → Nat → Nat → (Nat → Prop) → Int → Int → List Pap → Sto → Prop} {SH : World → Nat → Nat → (Nat → Prop) → Sto → Prop} (VW : VWorks VH SH) (VC : VStops VH) (HS : SWorks SH) (HT : STells SH) (HY : STrys SH) (H : Type) (enc : TypeId × Value → H) (W : World) (base : Nat) (args : Array Value) (ds gs : List (DataW H)) (before : List MemPlace)
    (hval : ∀ (j : Nat) t v, Tryz.f5.params[j]? = some t → args[j]? = some v → Value.okWide Tryz.prog W .any base t v)
    (hW : DataW.Whole enc Tryz.prog Tryz.f5.params.toList Rows.vaultPlaysSpec.vars false W args.toList ds gs before)
    (hsz : (DataW.weightsEach Tryz.prog (Tryz.f5.params.toList ++ (OpenSpec.ofChange Rows.vaultPlaysSpec).bare.plain.varTypes Tryz.prog) (ds ++ gs)).all (· ≤ reachBytes) = true) :
    Calls Tryz.prog 5 args W fun e W' => ∃ v, e = .returned v ∧ Rows.vaultPlaysSpec.post enc Tryz.prog Tryz.f5 false true false false W args v W' := by
  have hW' := hW
  obtain ⟨p, q, hA0, hV, rfl, hfz, hnd⟩ := hW
  have hA : DataW.TrodAll enc Tryz.prog W 0 (fun _ => true) true Tryz.f5.params.toList args.toList ds p := hA0
  rw [Tryz.params5] at hA hval hsz
  obtain ⟨v0, vs0, d0, ds0, p0, q0, hargs, rfl, rfl, h0, r0⟩ := trodAll_cons hA
  obtain ⟨v1, vs1, d1, ds1, p1, q1, rfl, rfl, rfl, h1, r1⟩ := trodAll_cons r0
  obtain ⟨v2, vs2, d2, ds2, p2, q2, rfl, rfl, rfl, h2, r2⟩ := trodAll_cons r1
  obtain ⟨v3, vs3, d3, ds3, p3, q3, rfl, rfl, rfl, h3, r3⟩ := trodAll_cons r2
  obtain ⟨v4, vs4, d4, ds4, p4, q4, rfl, rfl, rfl, h4, r4⟩ := trodAll_cons r3
  obtain ⟨rfl, rfl, rfl⟩ := trodAll_nil r4
  obtain rfl : args = #[v0, v1, v2, v3, v4] := by cases args; simp_all
  obtain ⟨rfl, rfl⟩ := trodVars_none hV
  obtain ⟨m0, rfl, rfl, rfl, ws0⟩ := open_int Tryz.underlying3 (hval 0 3 v0 rfl rfl) h0
  obtain ⟨m1, rfl, rfl, rfl, ws1⟩ := open_int Tryz.underlying3 (hval 1 3 v1 rfl rfl) h1
  obtain ⟨aR, lenR, capR, rfl⟩ := okWide_slice Tryz.underlying36 (hval 2 36 v2 rfl rfl)
  obtain ⟨m3, rfl, rfl, rfl, ws3⟩ := open_string Tryz.underlying9 (hval 3 9 v3 rfl rfl) h3
  obtain ⟨m4, rfl, rfl, rfl, ws4⟩ := open_int Tryz.underlying3 (hval 4 3 v4 rfl rfl) h4
  have hRk := h2
  obtain ⟨fuelR, hfR⟩ := h2
  clear hA0
  simp only [List.append_nil, List.nil_append] at hW'
  have hltR : ∀ x ∈ p2, x.block < W.heap.size := fun x hx => by simpa using hW'.lt x (by simp [hx])
  obtain ⟨C, hC⟩ : ∃ C : Nat → Rc, ∀ i, i < lenR → ∃ b o, aR = some ⟨b, o, none⟩ ∧ Six W b (o + i * 6) (C i) ∧ Small (C i) := by
    rcases open_slice Tryz.underlying36 hfR with ⟨hcs, hx⟩ | ⟨a, len', cap', m, n, D, Pl, hcs, hb, hl, hm, hmm, hx, hel⟩
    · simp [Value.cells] at hcs
      obtain ⟨rfl, rfl, rfl⟩ := hcs
      exact ⟨fun _ => ⟨0, 0, 0, ByteArray.empty, ByteArray.empty, ByteArray.empty⟩, fun i hi => absurd hi (Nat.not_lt_zero i)⟩
    · simp [Value.cells] at hcs
      obtain ⟨rfl, rfl, rfl⟩ := hcs
      simp only [Prod.mk.injEq] at hx
      obtain ⟨rfl, rfl⟩ := hx
      have hlm : lenR ≤ m := by rw [hmm]; split <;> omega
      have hRc : Inhabited Rc := ⟨⟨0, 0, 0, ByteArray.empty, ByteArray.empty, ByteArray.empty⟩⟩
      refine choose_lt (p := fun i (c : Rc) => ∃ b o, some a = some ⟨b, o, none⟩ ∧ Six W b (o + i * 6) c ∧ Small c) (fun i hi => ?_)
      obtain ⟨cs', h1, h2⟩ := hel i (by omega)
      rw [cellsR] at h1
      obtain ⟨_, hlen, hcell⟩ := World.cells?_some h1
      obtain ⟨x0, x1, x2, x3, x4, x5, n'', hxy, t0, t1, t2, t3, t4, t5⟩ := trod_struct6 Tryz.underlying43 h2
      match cs', hlen with
      | [c2, c3, c4, c5, c6, c7], _ =>
        simp only [cells1, cells2, List.drop_zero, List.drop_succ_cons, List.take_succ_cons, List.take_zero] at t0 t1 t2 t3 t4 t5
        obtain ⟨k2, e2, e2', _⟩ := DataW.trod_int Tryz.underlying3 t0
        obtain ⟨k3, e3, e3', _⟩ := DataW.trod_int Tryz.underlying3 t1
        obtain ⟨k4, e4, e4', _⟩ := DataW.trod_int Tryz.underlying3 t2
        obtain ⟨s5, e5, e5', _⟩ := DataW.trod_string Tryz.underlying9 t3
        obtain ⟨s6, e6, e6', _⟩ := DataW.trod_string Tryz.underlying9 t4
        obtain ⟨s7, e7, e7', _⟩ := DataW.trod_string Tryz.underlying9 t5
        simp only [List.cons.injEq, and_true] at e2 e3 e4 e5 e6 e7
        subst e2 e3 e4 e5 e6 e7 e2' e3' e4' e5' e6' e7'
        obtain ⟨bm, om, spot⟩ := a
        have f2 := hcell 0 (by omega)
        have f3 := hcell 1 (by omega)
        have f4 := hcell 2 (by omega)
        have f5 := hcell 3 (by omega)
        have f6 := hcell 4 (by omega)
        have f7 := hcell 5 (by omega)
        rw [add_add] at f2 f3 f4 f5 f6 f7
        obtain ⟨cs0, z1, _⟩ := hel 0 (by omega)
        rw [cellsR] at z1
        obtain ⟨_, zl, zc⟩ := World.cells?_some z1
        have z := zc 0 (by omega)
        rw [List.getElem?_eq_getElem (by omega)] at z
        have hspot : spot = none := by simpa [Addr.add] using World.cell?_spot z
        subst hspot
        simp only [add_plain] at f2 f3 f4 f5 f6 f7
        have hD : D i = .agg [.lit (.int .i64 k2), .lit (.int .i64 k3), .lit (.int .i64 k4), .lit (.string s5.data.toList), .lit (.string s6.data.toList), .lit (.string s7.data.toList)] := by simp only [Prod.mk.injEq] at hxy; exact hxy.1
        have hmem : ∀ x, x ∈ [s5.data.toList.length, s6.data.toList.length, s7.data.toList.length] → x ∈ DataW.weights Tryz.prog 36 (DataW.slice ((List.range lenR).map D) ((List.range (m - lenR)).map fun j => D (lenR + j))) := by
          intro x hx
          simp only [DataW.weights, Tryz.underlying36, List.mem_cons, List.mem_append]
          refine .inr (.inl (weights_all (d := D i) ?_ (List.mem_map.2 ⟨i, List.mem_range.2 hi, rfl⟩)))
          rw [hD]
          simp [DataW.weights, DataW.weightsEach, Tryz.underlying43]
          simpa using hx
        have hall : ∀ x, x ∈ [s5.data.toList.length, s6.data.toList.length, s7.data.toList.length] → x ≤ 140737488355328 := fun x hx => by
          have hle := List.all_eq_true.1 hsz _ (DataW.weights_mem_each (j := 2) rfl rfl _ (hmem x hx))
          simp only [decide_eq_true_eq] at hle
          unfold reachBytes at hle
          omega
        have hsm : Small ⟨k2, k3, k4, s5, s6, s7⟩ := ⟨by have := hall s5.data.toList.length (by simp); simpa using this, by have := hall s6.data.toList.length (by simp); simpa using this, by have := hall s7.data.toList.length (by simp); simpa using this⟩
        exact ⟨⟨k2, k3, k4, s5, s6, s7⟩, bm, om, rfl, ⟨World.block_lt_of_cell? _ _ f2, by simpa using f2, by rw [Nat.add_assoc]; simpa using f3, by rw [Nat.add_assoc]; simpa using f4, by rw [Nat.add_assoc]; simpa using f5, by rw [Nat.add_assoc]; simpa using f6, by rw [Nat.add_assoc]; simpa using f7⟩, hsm⟩
  have z3 : m3.size ≤ 140737488355328 := by
    have h := sized_string hsz (j := 3) (t := 9) rfl rfl
    have e : m3.data.toList.length = m3.size := by simp
    unfold reachBytes at h
    omega
  obtain ⟨l, hl, hsl, hsm⟩ : ∃ l : List Rc, l.length = lenR ∧ SlR W aR l ∧ ∀ k, k < l.length → Small (rc l k) := by
    have hrc : ∀ k, k < lenR → rc ((List.range lenR).map C) k = C k := fun k hk => by unfold rc; rw [List.getElem?_map, List.getElem?_range hk]; rfl
    refine ⟨(List.range lenR).map C, by simp, fun k hk => ?_, fun k hk => ?_⟩
    · have hk' : k < lenR := by simpa using hk
      obtain ⟨b, o, h1, h2, _⟩ := hC k hk'
      rw [hrc k hk']
      exact ⟨b, o, h1, h2⟩
    · have hk' : k < lenR := by simpa using hk
      obtain ⟨_, _, _, _, h3⟩ := hC k hk'
      rw [hrc k hk']
      exact h3
  have hcall := plays_vault VW VC HS HT HY m0 m1 l aR capR m3 m4 W hsl hsm z3
  rw [hl] at hcall
  refine hcall.mono fun e W' ⟨he, hb⟩ => ?_
  subst he
  exact ⟨_, rfl, _, _, _, [], _, [], hW', trodAll_cons_mk (shut_bool Tryz.underlying4 _) trodAll_mk0, (trodAll_cons_mk (shut_int Tryz.underlying3 ws0) (trodAll_cons_mk (shut_int Tryz.underlying3 ws1) (trodAll_cons_mk (Below.trod laidOut (by kernel_rfl) (of_decide_eq_true (by kernel_rfl)) hRk hb hltR) (trodAll_cons_mk (shut_string Tryz.underlying9 ws3) (trodAll_cons_mk (shut_int Tryz.underlying3 ws4) trodAll_mk0))))), rfl, hb.frame _, fun h => by cases h⟩

/-- a world for the witness: the settled one, the two listed tables holding what the row says -/
def accCells : Array Value := #[.int .u8 128, .int .u8 191, .int .u8 160, .int .u8 191, .int .u8 128, .int .u8 159, .int .u8 144, .int .u8 191, .int .u8 128, .int .u8 143, .int .u8 0, .int .u8 0, .int .u8 0, .int .u8 0, .int .u8 0, .int .u8 0, .int .u8 0, .int .u8 0, .int .u8 0, .int .u8 0, .int .u8 0, .int .u8 0, .int .u8 0, .int .u8 0, .int .u8 0, .int .u8 0, .int .u8 0, .int .u8 0, .int .u8 0, .int .u8 0, .int .u8 0, .int .u8 0]
def firstCells : Array Value := (Go.Pinned.utf8FirstZ.map fun (n : Nat) => Value.int .u8 (n : Int)).toArray
def withCells (c : Array Value) : Obj → Obj
  | .cells _ t frozen => .cells c t frozen
  | o => o
def laid (w : World) : World := { w with heap := (w.heap.modify 2 (withCells accCells)).modify 1 (withCells firstCells) }
set_option maxRecDepth 100000 in
theorem laid_met (os : Os) : laidMet Tryz.prog Rows.vaultPlaysRow.laid ((laid (World.holding Tryz.prog os ⟨#[], #[], []⟩)).forCall (fun _ _ => 0) ⟨#[], #[.int .i64 0, .int .i64 0, .slice none 0 0, .string ⟨#[]⟩, .int .i64 0], []⟩).memory :=
  laidMet_of_run' 8 (by kernel_rfl) (by kernel_rfl)
theorem reads (os : Os) {H : Type} (enc : TypeId × Value → H) : ∃ places, DataW.whole enc Tryz.prog ((laid (World.holding Tryz.prog os ⟨#[], #[], []⟩)).forCall (fun _ _ => 0) ⟨#[], #[.int .i64 0, .int .i64 0, .slice none 0 0, .string ⟨#[]⟩, .int .i64 0], []⟩).memory Tryz.f5.params.toList Rows.vaultPlaysSpec.vars false #[Value.int .i64 0, Value.int .i64 0, Value.slice none 0 0, Value.string ⟨#[]⟩, Value.int .i64 0].toList 8 = some ([.lit (.int .i64 0), .lit (.int .i64 0), .nil, .lit (.string []), .lit (.int .i64 0)], [], places) :=
  ⟨[], by kernel_rfl⟩

set_option maxRecDepth 100000 in
theorem lifted {VH : World → Nat → Nat → (Nat → Prop) → Int → Int → List Pap → Sto → Prop} {SH : World → Nat → Nat → (Nat → Prop) → Sto → Prop} (VW : VWorks VH SH) (VC : VStops VH) (HS : SWorks SH) (HT : STells SH) (HY : STrys SH) (os : Os) (started : os.Started) (H : Type) (enc : TypeId × Value → H) (F : Stop.Interp) :
    ReturnsInHanded {} Tryz.checked os 5 .any ((OpenSpec.ofChange Rows.vaultPlaysSpec).preRow enc Tryz.prog Tryz.f5 Rows.vaultPlaysRow.domain false Rows.vaultPlaysRow.laid) (((OpenSpec.ofChange Rows.vaultPlaysSpec).at F).post enc Tryz.prog Tryz.f5 false true false false) := by
  obtain ⟨places, hx⟩ := reads os enc
  refine returnsInHanded_of_row (C := Tryz.checked) (s := OpenSpec.ofChange Rows.vaultPlaysSpec) own started (by kernel_rfl) Tryz.func5
    (witness_row_at (enc := enc) (C := Tryz.checked) false (laid (World.holding Tryz.prog os ⟨#[], #[], []⟩)) #[.int .i64 0, .int .i64 0, .slice none 0 0, .string ⟨#[]⟩, .int .i64 0] rfl (by kernel_rfl) (by kernel_rfl) (by kernel_rfl)
      (OpenSpec.preRow_of_cond 8 hx (by kernel_rfl) (fun k hk => by cases hk) (by kernel_rfl) (laid_met os))) ?_
  intro W base args ds gs before hval hW _ _ hsz _ _ _
  exact contract VW VC HS HT HY H enc W base args ds gs before hval hW hsz

theorem said_of {VH : World → Nat → Nat → (Nat → Prop) → Int → Int → List Pap → Sto → Prop} {SH : World → Nat → Nat → (Nat → Prop) → Sto → Prop} (VW : VWorks VH SH) (VC : VStops VH) (HS : SWorks SH) (HT : STells SH) (HY : STrys SH) : Rows.VaultPlaysSaid :=
  OpenClaim.holds_of_cond 5 Tryz.f5 rfl rfl rfl rfl rfl rfl rfl ⟨rfl, rfl, rfl, rfl, rfl⟩ rfl rfl rfl rfl rfl (by kernel_rfl) Tryz.func5 (by kernel_rfl)
    (of_decide_eq_true (by kernel_rfl)) (by unfold Func.isWrapper; first | (rw [if_pos (by decide +kernel)]; kernel_rfl) | (rw [if_neg (by decide +kernel)]; exact ⟨rfl, rfl⟩))
    (fun os started H enc _ F => by rw [OpenClaim.pre_eq_preRow]; exact lifted VW VC HS HT HY os started H enc F)

/-- no parameter wants a stand-in; the program's own looks are off: what the card asks -/
theorem plain (f : FuncId) (fn : Func) (hf : Tryz.pinned.checked.prog.funcNamed Rows.vaultPlaysRow.func = some f) (hfn : Tryz.pinned.checked.prog.funcs[f]? = some fn) :
    false = Tryz.pinned.checked.prog.looks [] ∧ ∀ (j : Nat) t, fn.params[j]? = some t → Tryz.pinned.checked.prog.wantsStandIn t = false := by
  obtain rfl : f = 5 := Option.some.inj ((show Tryz.prog.funcNamed Rows.vaultPlaysRow.func = some 5 by kernel_rfl).symm.trans hf) |>.symm
  obtain rfl : fn = Tryz.f5 := (Option.some.inj (Tryz.func5.symm.trans hfn)).symm
  refine ⟨by kernel_rfl, fun j t ht => ?_⟩
  rw [Tryz.params5] at ht
  have ht2 : t = 3 ∨ t = 36 ∨ t = 9 := by
    have := Array.mem_of_getElem? ht
    simp at this
    grind
  rcases ht2 with rfl | rfl | rfl
  · exact (show Tryz.prog.wantsStandIn 3 = false by kernel_rfl)
  · exact (show Tryz.prog.wantsStandIn 36 = false by kernel_rfl)
  · exact (show Tryz.prog.wantsStandIn 9 = false by kernel_rfl)

theorem card_of {VH : World → Nat → Nat → (Nat → Prop) → Int → Int → List Pap → Sto → Prop} {SH : World → Nat → Nat → (Nat → Prop) → Sto → Prop} (VW : VWorks VH SH) (VC : VStops VH) (HS : SWorks SH) (HT : STells SH) (HY : STrys SH) : Rows.VaultPlaysCardSaid :=
  Claim7.holds_tied_plain_at .later [] _ _ _ _ (said_of VW VC HS HT HY) (fun _ h => by cases h) (by kernel_rfl) (fun _ h => by cases h) vaultPlays_row_tie rfl ⟨rfl, rfl⟩ (by kernel_rfl) rfl plain (by kernel_rfl)
end Go.Proofs.YtphhebdmfdjfeabGreatDoor.Dk.vaultPlays

namespace Go.Proofs.YtphhebdmfdjfeabGreatDoor.Dk.vaultPlays

theorem card : Rows.VaultPlaysCardSaid := card_of (vworks_of more news (lworks_of more lists) svault) (vstops_of more (lworks_of more lists) svault) sworks stells strys
end Go.Proofs.YtphhebdmfdjfeabGreatDoor.Dk.vaultPlays
