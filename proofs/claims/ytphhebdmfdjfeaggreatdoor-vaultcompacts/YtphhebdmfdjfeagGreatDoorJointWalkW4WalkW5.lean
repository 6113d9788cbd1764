/-
  The program's vault: Compact, over any disk, any log and any store.
  The program's vault: Store, Used, over any disk, any log and any store.
-/
import Derived.Test.YtphhebdmfdjfeagGreatDoorJointWalkW1WalkW2WalkW3
namespace Go.Proofs.YtphhebdmfdjfeagGreatDoor.Dk
open Go.RowKit

section
variable {Has : World → Nat → Nat → (Nat → Prop) → Int → List Pap → Prop} {SH : World → Nat → Nat → (Nat → Prop) → Sto → Prop} {w wr w' : World} {B x q g c : Nat} {F F0 Cs Cs' : Nat → Prop} {m size : Int} {es : List Pap} {s : Sto}
/-- a block of one's own, new behind w, is written -/
theorem Rv.own (H : More Has) (S : SVault SH) {A : Nat → Prop} (h : Rv Has SH F0 Cs w wr B x q g c m size es s) (hc : Chg A wr w') (hA : ∀ k, A k → Cs k ∧ w.heap.size ≤ k) (hn : ∀ k, Cs' k → Cs k ∨ wr.heap.size ≤ k ∧ k < w'.heap.size) : Rv Has SH F0 Cs' w w' B x q g c m size es s := by
  obtain ⟨FL, G, h1, h2, h3, h4⟩ := h
  refine ⟨FL, G, h1.chg H S hc (fun k hk z => (h4 k (hA k z).1).2 hk), chg_more h2 hc (fun i hi z => by have := (hA i z).2; omega), h3, fun k hk => ?_⟩
  rcases hn k hk with y | y
  · exact ⟨Nat.lt_of_lt_of_le (h4 k y).1 hc.size, (h4 k y).2⟩
  · exact ⟨y.2, fun z => by have := (h1.own H S k z).2; omega⟩
theorem sums_last (x0 x1 x2 x3 : Value) (W : World) : (Instr.field 37 (.agg #[x0, x1, x2, x3]) 3).run Tryz.prog W = .ok x3 W := by kernel_rfl
theorem compL_none {s : Sto} (h : s.last = 0) : compL s = s.l := by unfold compL; rw [h, if_neg (by omega), List.append_nil]
theorem compL_some {s : Sto} (h : 0 < s.last) : compL s = s.l ++ [markR s.last] := by unfold compL; rw [if_pos h]
theorem comp_small {s : Sto} (h : s.Ok) : ∀ k, k < (compL s).length → Small (rc (compL s) k) := fun k hk => by
  rw [rc_get hk]
  exact Small.of ((refill h).2 _ (List.getElem_mem hk))
theorem comp_len {s : Sto} (h : s.Ok) : (compL s).length ≤ 201 := by
  have := h.few
  unfold compL
  split <;> simp <;> omega
/-- a mark onto a row of one's own -/
theorem mark_one {w0 W : World} {v : Value} {l : List Rc} {n : Int} (h : ArrR W w0.heap.size v l) (hl : l.length ≤ 200) (hB : w0.heap.size ≤ W.heap.size) :
    ∃ v8 w8, (Builtin.append_ #[22, 22] 22 #[v, .slice (some ⟨W.heap.size, 0, none⟩) 1 1]).run Tryz.prog (W.alloc (.cells #[.int .i64 4, .int .i64 n, .int .i64 0, .string ⟨#[]⟩, .string ⟨#[]⟩, .string ⟨#[]⟩] 30)) = .ok v8 w8 ∧ ArrR w8 w0.heap.size v8 (l ++ [markR n]) ∧ Chg (fun k => v.ownBlock = some k) W w8 ∧ ∀ k, v8.ownBlock = some k → v.ownBlock = some k ∨ W.heap.size ≤ k ∧ k < w8.heap.size := by
  have hb7 : Below W.heap.size W (W.alloc (.cells #[.int .i64 4, .int .i64 n, .int .i64 0, .string ⟨#[]⟩, .string ⟨#[]⟩, .string ⟨#[]⟩] 30)) := (Below.refl _ _).alloc (Nat.le_refl _) _
  have h7 := h.below hb7
  have hs7 := hb7.size
  obtain ⟨v8, w8, hrun, A8, C8, L8⟩ := append_rec _ w0.heap.size 22 v l [markR n] h7 ⟨W.heap.size, 0, none⟩ 1 (six_row W (markR n)) (by simp; omega) (Nat.le_trans hB hs7)
  refine ⟨v8, w8, hrun, A8, (Chg.of_below hb7).trans C8, fun k hk => ?_⟩
  have := (World.ownsRow.lt A8 k hk).2
  rcases L8 k hk with y | y
  · exact .inl y
  · exact .inr ⟨by omega, this⟩

set_option maxRecDepth 100000 in
set_option maxHeartbeats 2000000 in
theorem vcompact_any (H : More Has) (L : LWorks Has (LHof Has)) (S : SVault SH) (h : VHof Has SH w B x F m size es s) (hv : VOk m es s) (hm : m ≤ 65536) (hz : inI size 1 4096 = true) (hB : B ≤ w.heap.size) :
    Calls Tryz.prog 5 #[.pointer (some ⟨x, 0, none⟩)] w fun e w' => e = .returned (.int .i64 (compE es s m size)) ∧ DidV (VHof Has SH) w w' B x F m size (compF es s m size) s := by
  obtain ⟨q, g, c, r0, hfin⟩ := h.begin
  have HF := hide hfin
  have HV := hide hv
  have HZ := hide hz
  have PB := hide (vready_any r0.cells.1)
  have x3 := r0.cells.2.2.2.1
  have PA := hide (show Calls Tryz.prog 10 #[.pointer (some ⟨c, 0, none⟩)] w fun e w' => ∃ v, e = .returned v ∧ ArrR w' w.heap.size v s.l ∧ Below w.heap.size w w' from by
    obtain ⟨FL, G, h1, _⟩ := r0
    exact S.sees.all h1.chest hv.ok hB)
  have R0 := hide r0
  have hlast := hv.ok.last
  have hfew := hv.ok.few
  have PW := hide (fun (Cs : Nat → Prop) (wr : World) (hr : Rv Has SH F Cs w wr B x q g c m size es s) (a : Option Addr) (k : Nat) (hsl : SlR wr a (compL s)) (hC : ∀ z, a = some z → Cs z.block) => hr.upd S (es' := compF es s m size) (Q := fun e _ => e = .returned (.int .i64 (compE es s m size))) (fun FL hFL hn => L.rewrite (compL s) a k hsl (comp_small hv.ok) (by have := comp_len hv.ok; omega) (fun z hz => hn _ (hC z hz)) hz hFL hv.tidy hm (Nat.le_trans hB hr.room)))
  clear h r0 hfin hv hz
  go_enter Tryz.func5, Tryz.ntmps5
  go_wp2_with fail
  refine (unhide PB).mono ?_
  rintro e w ⟨rfl, rfl⟩
  go_wp2_with fail
  refine (unhide PA).mono ?_
  rintro e w1 ⟨v, rfl, a1, b1⟩
  have R1 := hide ((unhide R0).mine H S (Cs' := fun k => v.ownBlock = some k) b1 (fun k hk => .inr (World.ownsRow.lt a1 k hk)))
  have A1 := hide a1
  have y3 := (unhide R1).cells.2.2.2.1
  have P2 := hide (show Calls Tryz.prog 11 #[.pointer (some ⟨c, 0, none⟩)] w1 fun e w' => e = .returned (.agg #[.int .i64 (s.l.length : Int), .int .i64 (byteN s.l : Int), .int .i64 (firstQ s.l), .int .i64 s.last]) ∧ Below w1.heap.size w1 w' from by
    obtain ⟨FL, G, h1, _⟩ := unhide R1
    exact S.sees.sums h1.chest (unhide HV).ok (Nat.le_trans hB (unhide R1).room))
  obtain ⟨n, hn⟩ : ∃ n, s.last = n := ⟨_, rfl⟩
  rw [hn] at P2 hlast
  have HN := hide hn
  obtain ⟨a, cap, hv1, cc1, cc2, _⟩ := a1.shape
  clear PB PA a1 b1 R0 x3 hn
  subst hv1
  go_wp2_with fail
  refine (unhide P2).mono ?_
  rintro e w2 ⟨rfl, b2⟩
  have R2 := hide ((unhide R1).below H S b2)
  have A2 := hide ((unhide A1).below b2)
  have z2 := (unhide R2).cells.2.2.1
  clear P2 b2 R1 A1 y3
  have hSL := sums_last (.int .i64 (s.l.length : Int)) (.int .i64 (byteN s.l : Int)) (.int .i64 (firstQ s.l)) (.int .i64 n)
  by_cases h0 : n = 0
  · subst h0
    have h0 := unhide HN
    obtain ⟨a', cap', e1, _, _, hsl⟩ := (unhide A2).shape
    have PR := hide (unhide PW _ _ (unhide R2) a cap (by
      rw [compL_none h0]
      have := (Value.slice.inj e1).1
      rw [this]; exact hsl) (fun z hz => by rw [hz]; rfl))
    rw [compL_none h0] at PR
    clear PW R2 A2 hsl e1 h0
    go_wp2_with fail
    refine (unhide PR).mono ?_
    rintro e w3 ⟨rfl, r3, _⟩
    have D3 := hide (unhide HF _ _ _ _ _ _ r3)
    clear PR r3
    go_wp2_with fail
    go_ret
    exact ⟨rfl, unhide D3⟩
  · have hp : 0 < s.last := by rw [unhide HN]; omega
    have hne : (n != 0) = true := by simpa using h0
    obtain ⟨v8, w8, hrun, A8, C8, L8⟩ := mark_one (w0 := w) (n := n) (unhide A2) hfew (unhide R2).room
    have R8 := (unhide R2).own H S (Cs' := fun k => v8.ownBlock = some k) C8 (fun k hk => ⟨hk, (World.ownsRow.lt (unhide A2) k hk).1⟩) L8
    obtain ⟨a8, cap8, rfl, _, _, hsl8⟩ := A8.shape
    rw [← unhide HN, ← compL_some hp] at hsl8
    have PR := hide (unhide PW _ _ R8 a8 cap8 hsl8 (fun z hz => by rw [hz]; rfl))
    rw [compL_some hp, unhide HN, show (s.l ++ [markR n]).length = s.l.length + 1 by simp] at PR
    have z8 := R8.cells.2.2.1
    have HRun := hide hrun
    clear PW R2 A2 hsl8 R8 A8 C8 L8 hrun z2
    clear hp
    go_wp2_with (at_builtin; refine Lib.wpList_append_run _ rfl _ _ _ _ rfl _ _ rfl rfl _ _ (unhide HRun) ?_)
    refine (unhide PR).mono ?_
    rintro e w3 ⟨rfl, r3, _⟩
    have D3 := hide (unhide HF _ _ _ _ _ _ r3)
    clear PR r3
    go_wp2_with fail
    go_ret
    exact ⟨rfl, unhide D3⟩
end
end Go.Proofs.YtphhebdmfdjfeagGreatDoor.Dk

namespace Go.Proofs.YtphhebdmfdjfeagGreatDoor.Dk
open Go.RowKit

section
variable {Has : World → Nat → Nat → (Nat → Prop) → Int → List Pap → Prop} {SH : World → Nat → Nat → (Nat → Prop) → Sto → Prop} {w : World} {B x : Nat} {F : Nat → Prop} {m size : Int} {es : List Pap} {s : Sto}

set_option maxRecDepth 100000 in
set_option maxHeartbeats 1000000 in
theorem vstore_any (h : VHof Has SH w B x F m size es s) :
    Calls Tryz.prog 9 #[.pointer (some ⟨x, 0, none⟩)] w fun e w' => ∃ q F0, e = .returned (.pointer (some ⟨q, 0, none⟩)) ∧ SH w' B q F0 s ∧ (∀ k, F0 k → F k) ∧ Below w.heap.size w w' := by
  obtain ⟨q, g, c, FL, G, h1, h2⟩ := h
  have PB := hide (vready_any h1.c0)
  have x3 := h1.c3
  have HE := hide (show SH w B c G s ∧ (∀ k, G k → F k) ∧ Below w.heap.size w w from ⟨h1.chest, fun k hk => (h2 k).2 (.inr (.inr hk)), Below.refl _ _⟩)
  clear h1 h2
  go_enter Tryz.func9, Tryz.ntmps9
  go_wp2_with fail
  refine (unhide PB).mono ?_
  rintro e w1 ⟨rfl, rfl⟩
  go_wp2_with fail
  go_ret
  exact ⟨c, G, rfl, unhide HE⟩

set_option maxRecDepth 100000 in
set_option maxHeartbeats 1000000 in
theorem vused_any (H : More Has) (S : SVault SH) (h : VHof Has SH w B x F m size es s) (hv : VOk m es s) (hm : m ≤ 65536) (hB : B ≤ w.heap.size) :
    Calls Tryz.prog 8 #[.pointer (some ⟨x, 0, none⟩)] w fun e w' => e = .returned (.int .i64 (used es : Int)) ∧ DidV (VHof Has SH) w w' B x F m size es s := by
  obtain ⟨q, g, c, r0, hfin⟩ := h.begin
  have HF := hide hfin
  have PB := hide (vready_any r0.cells.1)
  have x0 := r0.cells.1
  have PU := hide (r0.upd S (es' := es) (Q := fun e _ => e = .returned (.int .i64 (used es : Int))) (fun FL hFL _ => (LHof.looks H g size).used hFL hv.tidy hm hB))
  clear h r0 hfin hv
  go_enter Tryz.func8, Tryz.ntmps8
  go_wp2_with fail
  refine (unhide PB).mono ?_
  rintro e w1 ⟨rfl, rfl⟩
  go_wp2_with fail
  refine (unhide PU).mono ?_
  rintro e w2 ⟨rfl, r2, _⟩
  have R2 := hide (unhide HF _ _ _ _ _ _ r2)
  clear PU r2
  go_wp2_with fail
  go_ret
  exact ⟨rfl, unhide R2⟩
end
end Go.Proofs.YtphhebdmfdjfeagGreatDoor.Dk
