/-
  The program's store and the document's, side by side: rilllaw.sameStore.
-/
import Derived.Test.YtphhebdmfdjfeabGreatDoorJointWalkC3WalkC6WalkG1rWorksSWorksTaWorksTWorksYPapW
import Derived.Test.YtphhebdmfdjfeabGreatDoorJointWalkI6WalkI7WalkI8WalkT7
import Derived.Deep.RegionHeld3
namespace Go.Proofs.YtphhebdmfdjfeabGreatDoor.Dk
open Go.RowKit

theorem neqS (x0 x1 x2 x3 : Int) (W : World) : (binOp .neq 110 (.agg #[.int .i64 x0, .int .i64 x1, .int .i64 x2, .int .i64 x3]) (.agg #[.int .i64 x0, .int .i64 x1, .int .i64 x2, .int .i64 x3])).run Tryz.prog W = .ok (.bool false) W := by
  have u3 := Tryz.underlying3
  have hS : Tryz.prog.underlying 110 = some (.struct (Tryz.prog.fieldsOf 110)) := by kernel_rfl
  have hp : Tryz.prog.stoodInHeld 110 = false := by kernel_rfl
  rw [run_neq_struct, show (10000 : Nat) = 9999 + 1 from rfl, run_equalIn_agg W 9999 110 _ _ hS hp]
  simp only [Program.fieldsOf, Tryz.underlying110]
  go_simp
theorem eqlR2 (r : Rc) (W : World) : (binOp .eql 43 (.agg #[.int .i64 r.k, .int .i64 r.q, .int .i64 r.t, .string r.s, .string r.h, .string r.d]) (.agg #[.int .i64 r.k, .int .i64 r.q, .int .i64 r.t, .string r.s, .string r.h, .string r.d])).run Tryz.prog W = .ok (.bool true) W := by
  have u3 := Tryz.underlying3
  have u9 := Tryz.underlying9
  have hS : Tryz.prog.underlying 43 = some (.struct (Tryz.prog.fieldsOf 43)) := by kernel_rfl
  have hp : Tryz.prog.stoodInHeld 43 = false := by kernel_rfl
  rw [run_eql_struct, show (10000 : Nat) = 9999 + 1 from rfl, run_equalIn_agg W 9999 43 _ _ hS hp]
  simp only [Program.fieldsOf, Tryz.underlying43]
  go_simp

theorem seekV_form (f : ByteArray) (o : Option Rc) : ∃ (y : Rc) (E : Int), seekV f o = .tuple #[.agg #[.int .i64 y.k, .int .i64 y.q, .int .i64 y.t, .string y.s, .string y.h, .string y.d], .int .i64 E] := by
  unfold seekV
  by_cases e : errS true f = 0
  · rw [if_pos e]
    cases o with
    | none => exact ⟨zeroR, 4, rfl⟩
    | some r => exact ⟨r, 0, rfl⟩
  · rw [if_neg e]
    exact ⟨zeroR, _, rfl⟩
/-- both stores, behind w -/
structure Both (SH : World → Nat → Nat → (Nat → Prop) → Sto → Prop) (w W : World) (B q c : Nat) (F G : Nat → Prop) (s : Sto) : Prop where
  sh : SH W B q F s
  ch : Che W B c G s
  ok : s.Ok
  le : B ≤ W.heap.size
  bl : Below w.heap.size w W
theorem Both.next {SH : World → Nat → Nat → (Nat → Prop) → Sto → Prop} (H : SWorks SH) {w W W' : World} {B q c : Nat} {F G : Nat → Prop} {s : Sto} (h : Both SH w W B q c F G s) (hb : Below W.heap.size W W') : Both SH w W' B q c F G s :=
  ⟨H.chg (A := fun _ => False) h.sh (Chg.of_below hb) (fun _ _ z => z), h.ch.below hb, h.ok, Nat.le_trans h.le hb.size, bstep h.bl hb⟩

set_option maxRecDepth 100000 in
set_option maxHeartbeats 2000000 in
theorem same_store {SH : World → Nat → Nat → (Nat → Prop) → Sto → Prop} (H : SWorks SH) (HT : STells SH) (HY : STrys SH) {w : World} {B q c : Nat} {F G : Nat → Prop} {s : Sto} (f : ByteArray) (n : Int) (hf : f.size ≤ 140737488355328) (h : SH w B q F s) (hc : Che w B c G s) (hk : s.Ok) (hB : B ≤ w.heap.size) :
    Calls Tryz.prog 30 #[.pointer (some ⟨q, 0, none⟩), .pointer (some ⟨c, 0, none⟩), .string f, .int .i64 n] w fun e w' => e = .returned (.bool true) ∧ Below w.heap.size w w' := by
  have t0 : Both SH w w B q c F G s := ⟨h, hc, hk, hB, Below.refl _ _⟩
  have T0 := hide (t0.next H (Below.refl _ _).drew)
  obtain ⟨la, lc, d0, _, _, _, sl0, hcl⟩ := hc.read
  have hfew := hk.few
  have hN := neqS (s.l.length : Int) (byteN s.l : Int) (firstQ s.l) s.last
  have hm : Tryz.prog.eqGuardType Tryz.prog.depth 110 = false := by kernel_rfl
  have P1 := hide (H.sums (unhide T0).sh (unhide T0).ok (unhide T0).le)
  have HSl := hide sl0
  clear h hc hk hB t0 sl0
  go_enter Tryz.func30, Tryz.ntmps30
  go_wp2_with fail
  go_region_held3 (fun w' => w'.cell? ⟨c, 0, none⟩ = some (.slice la s.l.length lc)) (first | assumption | go_keep)
    (first
      | (go_at_call 72; refine (unhide P1).mono ?_; rintro e w1 ⟨rfl, b1⟩; have T1 := hide ((unhide T0).next H b1); have d1 := ((unhide T1).bl.cell (p := ⟨c, 0, none⟩) hcl).trans d0; have P2 := hide (csums_any (unhide T1).ch (unhide T1).ok); unfold sumV at P2; clear b1)
      | (go_at_call 73; refine (unhide P2).mono ?_; rintro e w2 ⟨rfl, b2⟩; have T2 := hide ((unhide T1).next H b2); have d2 := ((unhide T2).bl.cell (p := ⟨c, 0, none⟩) hcl).trans d0; have P3 := hide (H.all (unhide T2).sh (unhide T2).ok (unhide T2).le); clear b2)
      | (go_at_call 74; refine (unhide P3).mono ?_; rintro e w3 ⟨v3, rfl, a3, b3⟩; have T3 := hide ((unhide T2).next H b3); have d3 := ((unhide T3).bl.cell (p := ⟨c, 0, none⟩) hcl).trans d0; obtain ⟨ra, rcp, rfl, _, _, s3⟩ := a3.shape; have P4 := hide (equal_rec ra la rcp lc s.l w3 s3 ((unhide HSl).below (unhide T3).bl) (by omega)); clear b3 a3 s3)
      | (go_at_call 11; refine (unhide P4).mono ?_; rintro e w4 ⟨rfl, n4, rfl⟩))
  have T4 := hide ((unhide T3).next H (below_drewN (Below.refl _ _) n4))
  clear P1 P2 P3 P4 T0 T1 T2 T3 d1 d2 d3 d0 HSl hN hm
  generalize w3.drewN n4 = w4 at *
  obtain ⟨ga, ge, hga⟩ : ∃ (y : Rc) (E : Int), ansV (getO s.l n) = .tuple #[.agg #[.int .i64 y.k, .int .i64 y.q, .int .i64 y.t, .string y.s, .string y.h, .string y.d], .int .i64 E] := ⟨_, _, ansV_of _⟩
  obtain ⟨gx, ex, hgx⟩ := seekV_form f (lastO f s.l)
  obtain ⟨gz, ez, hgz⟩ := seekV_form f (nextO f s.l n)
  obtain ⟨es, hes⟩ := (unhide T4).ok.cnt
  have hfl : (foundL es f).length ≤ 100 := by
    unfold foundL
    have := hes.good.2.1
    split
    · exact Nat.le_trans (List.length_filter_le _ _) this
    · simp
  have HE := hide hes
  clear hes
  have P := hide (HY.gets n (unhide T4).sh (unhide T4).ok (unhide T4).le)
  rw [hga] at P
  go_wp2_with fail
  refine (unhide P).mono ?_
  rintro e w5 ⟨rfl, b5⟩
  have A5 : Below w5.heap.size w5 (w5.alloc (.cells #[.int .i64 ga.k, .int .i64 ga.q, .int .i64 ga.t, .string ga.s, .string ga.h, .string ga.d] 43)) := (Below.refl _ _).alloc (Nat.le_refl _) _
  have T5 := hide (((unhide T4).next H b5).next H A5)
  have R5 := hide (RB.new w5 ga.k ga.q ga.t ga.s ga.h ga.d 43)
  clear P T4 b5 A5 
  have P := hide (cget_any n (unhide T5).ch (unhide T5).ok)
  rw [hga] at P
  go_wp2_with fail
  refine (unhide P).mono ?_
  rintro e w6 ⟨rfl, b6⟩
  have A6 : Below w6.heap.size w6 (w6.alloc (.cells #[.int .i64 ga.k, .int .i64 ga.q, .int .i64 ga.t, .string ga.s, .string ga.h, .string ga.d] 43)) := (Below.refl _ _).alloc (Nat.le_refl _) _
  have T6 := hide (((unhide T5).next H b6).next H A6)
  have R5n := hide (((unhide R5).next b6).next A6)
  have R6 := hide (RB.new w6 ga.k ga.q ga.t ga.s ga.h ga.d 43)
  clear P T5 b6 A6 R5
  have P := hide (H.last f hf (unhide T6).sh (unhide T6).ok (unhide T6).le)
  rw [hgx] at P
  go_wp2_with fail
  refine (unhide P).mono ?_
  rintro e w7 ⟨rfl, b7⟩
  have A7 : Below w7.heap.size w7 (w7.alloc (.cells #[.int .i64 gx.k, .int .i64 gx.q, .int .i64 gx.t, .string gx.s, .string gx.h, .string gx.d] 43)) := (Below.refl _ _).alloc (Nat.le_refl _) _
  have T7 := hide (((unhide T6).next H b7).next H A7)
  have R5nn := hide (((unhide R5n).next b7).next A7)
  have R6n := hide (((unhide R6).next b7).next A7)
  have R7 := hide (RB.new w7 gx.k gx.q gx.t gx.s gx.h gx.d 43)
  clear P T6 b7 A7 R5n R6
  have P := hide (cseek_any f 0 true hf (unhide T7).ch (unhide T7).ok)
  rw [seek_last (unhide T7).ok f, hgx] at P
  go_wp2_with fail
  refine (unhide P).mono ?_
  rintro e w8 ⟨rfl, b8⟩
  have A8 : Below w8.heap.size w8 (w8.alloc (.cells #[.int .i64 gx.k, .int .i64 gx.q, .int .i64 gx.t, .string gx.s, .string gx.h, .string gx.d] 43)) := (Below.refl _ _).alloc (Nat.le_refl _) _
  have T8 := hide (((unhide T7).next H b8).next H A8)
  have R5nnn := hide (((unhide R5nn).next b8).next A8)
  have R6nn := hide (((unhide R6n).next b8).next A8)
  have R7n := hide (((unhide R7).next b8).next A8)
  have R8 := hide (RB.new w8 gx.k gx.q gx.t gx.s gx.h gx.d 43)
  clear P T7 b8 A8 R5nn R6n R7
  have P := hide (H.next f n hf (unhide T8).sh (unhide T8).ok (unhide T8).le)
  rw [hgz] at P
  go_wp2_with fail
  refine (unhide P).mono ?_
  rintro e w9 ⟨rfl, b9⟩
  have A9 : Below w9.heap.size w9 (w9.alloc (.cells #[.int .i64 gz.k, .int .i64 gz.q, .int .i64 gz.t, .string gz.s, .string gz.h, .string gz.d] 43)) := (Below.refl _ _).alloc (Nat.le_refl _) _
  have T9 := hide (((unhide T8).next H b9).next H A9)
  have R5nnnn := hide (((unhide R5nnn).next b9).next A9)
  have R6nnn := hide (((unhide R6nn).next b9).next A9)
  have R7nn := hide (((unhide R7n).next b9).next A9)
  have R8n := hide (((unhide R8).next b9).next A9)
  have R9 := hide (RB.new w9 gz.k gz.q gz.t gz.s gz.h gz.d 43)
  clear P T8 b9 A9 R5nnn R6nn R7n R8
  have P := hide (cseek_any f n false hf (unhide T9).ch (unhide T9).ok)
  rw [seek_next, hgz] at P
  go_wp2_with fail
  refine (unhide P).mono ?_
  rintro e w10 ⟨rfl, b10⟩
  have A10 : Below w10.heap.size w10 (w10.alloc (.cells #[.int .i64 gz.k, .int .i64 gz.q, .int .i64 gz.t, .string gz.s, .string gz.h, .string gz.d] 43)) := (Below.refl _ _).alloc (Nat.le_refl _) _
  have T10 := hide (((unhide T9).next H b10).next H A10)
  have R5nnnnn := hide (((unhide R5nnnn).next b10).next A10)
  have R6nnnn := hide (((unhide R6nnn).next b10).next A10)
  have R7nnn := hide (((unhide R7nn).next b10).next A10)
  have R8nn := hide (((unhide R8n).next b10).next A10)
  have R9n := hide (((unhide R9).next b10).next A10)
  have R10 := hide (RB.new w10 gz.k gz.q gz.t gz.s gz.h gz.d 43)
  clear P T9 b10 A10 R5nnnn R6nnn R7nn R8n R9
  have P := hide (HT.subjects f hf (unhide T10).sh (unhide T10).ok (unhide T10).le (unhide HE))
  go_wp2_with fail
  refine (unhide P).mono ?_
  rintro e w11 ⟨v11, rfl, a11, b11⟩
  obtain ⟨q11, cp11, rfl, s11⟩ := a11.sl
  have T11 := hide ((unhide T10).next H b11)
  have R5nnnnnn := hide ((unhide R5nnnnn).next b11)
  have R6nnnnn := hide ((unhide R6nnnn).next b11)
  have R7nnnn := hide ((unhide R7nnn).next b11)
  have R8nnn := hide ((unhide R8nn).next b11)
  have R9nn := hide ((unhide R9n).next b11)
  have R10n := hide ((unhide R10).next b11)
  clear P T10 b11 a11 R5nnnnn R6nnnn R7nnn R8nn R9n R10
  have P := hide (csubjects_any f hf (unhide T11).ch (unhide T11).ok (unhide HE))
  go_wp2_with fail
  refine (unhide P).mono ?_
  rintro e w12 ⟨v12, rfl, a12, b12⟩
  obtain ⟨q12, cp12, rfl, s12⟩ := a12.sl
  have T12 := hide ((unhide T11).next H b12)
  have R5nnnnnnn := hide ((unhide R5nnnnnn).next b12)
  have R6nnnnnn := hide ((unhide R6nnnnn).next b12)
  have R7nnnnn := hide ((unhide R7nnnn).next b12)
  have R8nnnn := hide ((unhide R8nnn).next b12)
  have R9nnn := hide ((unhide R9nn).next b12)
  have R10nn := hide ((unhide R10n).next b12)
  have s11n := s11.below b12
  clear P T11 b12 a12 R5nnnnnn R6nnnnn R7nnnn R8nnn R9nn R10n s11
  obtain ⟨_, z00, z01, z02, z03, z04, z05, _⟩ := unhide R5nnnnnnn
  obtain ⟨_, z10, z11, z12, z13, z14, z15, _⟩ := unhide R6nnnnnn
  obtain ⟨_, z20, z21, z22, z23, z24, z25, _⟩ := unhide R7nnnnn
  obtain ⟨_, z30, z31, z32, z33, z34, z35, _⟩ := unhide R8nnnn
  obtain ⟨_, z40, z41, z42, z43, z44, z45, _⟩ := unhide R9nnn
  obtain ⟨_, z50, z51, z52, z53, z54, z55, _⟩ := unhide R10nn
  have P := hide (equal_same q11 q12 cp11 cp12 (foundL es f) w12 s11n s12 hfl)
  have hE1 := eqlR2 ga
  have hE2 := eqlR2 gx
  have hE3 := eqlR2 gz
  have hm : Tryz.prog.eqGuardType Tryz.prog.depth 43 = false := by kernel_rfl
  go_wp2_with fail
  refine (unhide P).mono ?_
  rintro e w13 ⟨rfl, n13, rfl⟩
  clear P
  go_wp2_with fail
  go_ret
  exact ⟨by simp, below_drewN (unhide T12).bl n13⟩
end Go.Proofs.YtphhebdmfdjfeabGreatDoor.Dk
