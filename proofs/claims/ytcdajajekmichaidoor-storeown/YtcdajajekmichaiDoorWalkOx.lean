/-
  slices.Clone at records; slices.ContainsFunc at entries that have texts.
-/
import Derived.Test.YtcdajajekmichaiDoorWalkOw
import Derived.Test.YtcdajajekmichaiDoorJointWalkI1WalkI2
namespace Go.Proofs.YtcdajajekmichaiDoor.Dk
open Go.RowKit

theorem eqlSomeR (a : Addr) (n c : Nat) (w : World) : (binOp .eql 22 (.slice (some a) n c) (.slice none 0 0)).run Tryd.prog w = .ok (.bool false) w := by kernel_rfl
theorem eqlNilR (w : World) : (binOp .eql 22 (.slice none 0 0) (.slice none 0 0)).run Tryd.prog w = .ok (.bool true) w := by kernel_rfl
set_option maxRecDepth 100000 in
set_option maxHeartbeats 1000000 in
theorem cloneR_any {w : World} {B : Nat} {v : Value} {l : List Rc} (h : ArrR w B v l) (h200 : l.length ≤ 200) :
    Calls Tryd.prog 11 #[v] w fun e w' => ∃ v', e = .returned v' ∧ ArrR w' w.heap.size v' l ∧ Below w.heap.size w w' := by
  rcases h.2 with ⟨h1, h2⟩ | ⟨g, cap, cur, h1, h2, h3, h4, h5, h6, h7⟩
  · have : l = [] := List.length_eq_zero_iff.1 h2
    subst this
    rw [h1]
    have hq := eqlNilR
    go_enter Tryd.func11, Tryd.ntmps11
    go_wp2_with fail
    go_ret
    exact ⟨_, rfl, ArrR.empty _ _, Below.refl _ _⟩
  · rw [h1] at h ⊢
    have hq := eqlSomeR
    have hb0 : Below w.heap.size w (w.alloc (.cells #[] 40)) := (Below.refl _ _).alloc (Nat.le_refl _) _
    have hn : ArrR (w.alloc (.cells #[] 40)) w.heap.size (.slice (some ⟨w.heap.size, 0, none⟩) 0 0) [] := ⟨rfl, .inr ⟨w.heap.size, 0, #[], rfl, Nat.le_refl _, heap_alloc_new w _, Nat.le_refl _, by simp [maxLen], rfl, rfl⟩⟩
    obtain ⟨v8, w8, hr, A8, C8, _⟩ := append_rec (w.alloc (.cells #[] 40)) w.heap.size 22 _ [] l hn ⟨g, 0, none⟩ cap (World.ownsRow.cells (h.below hb0) (g := g) rfl) (by simp; omega) hb0.size
    obtain ⟨a8, c8, rfl, _⟩ := A8.shape
    rw [List.nil_append] at A8 hr
    have HF := hide (And.intro A8 (hb0.trans (C8.below hb0.size (fun k hk z => by
      have : w.heap.size = k := by simpa [Value.ownBlock] using z
      omega))))
    clear A8 C8 hn hb0 h h1 h2 h3 h4 h5 h6 h7
    go_enter Tryd.func11, Tryd.ntmps11
    go_wp2_with (at_builtin; refine Lib.wpList_append_run _ rfl _ _ _ _ rfl _ _ rfl rfl _ _ hr ?_)
    go_ret
    exact ⟨_, rfl, (unhide HF).1, (unhide HF).2⟩

set_option maxHeartbeats 400000 in
theorem ownf_any (x : Ent) (hx : x.1.toList ≠ []) (w : World) :
    Calls Tryd.prog 16 #[.agg #[.string x.1, .int .i64 x.2]] w fun e w' => e = .returned (.bool false) ∧ Below w.heap.size w w' := by
  have hx2 : (x.1.toList.isEmpty) = false := by cases h : x.1.toList with
    | nil => exact absurd h hx
    | cons a b => rfl
  have hb0 : Below w.heap.size w (w.alloc (.cells #[.string x.1, .int .i64 x.2] 32)) := (Below.refl _ _).alloc (Nat.le_refl _) _
  go_enter Tryd.func16, Tryd.ntmps16
  go_wp2
  go_ret
  exact ⟨ret_is (by simp), hb0⟩

set_option maxRecDepth 100000 in
set_option maxHeartbeats 1000000 in
theorem indexo_any (a : Option Addr) (cap : Nat) (es : List Ent) (w : World) (hsl : Sl w a es) (h100 : es.length ≤ 100) (hx : ∀ e ∈ es, e.1.toList ≠ []) :
    Calls Tryd.prog 27 #[.slice a es.length cap, .func (.func 16) #[] #[]] w fun e w' => e = .returned (.int .i64 (-1)) ∧ Below w.heap.size w w' := by
  have HSl := hide hsl
  have HX := hide hx
  clear hsl hx
  go_enter Tryd.func27, Tryd.ntmps27
  go_wp2_with fail
  go_loopw [8] (fun kv wr => ∃ (k : Nat), kv = .int .i64 k ∧ k ≤ es.length ∧ Hid (Below w.heap.size w wr)) (fun kv _ => es.length - (intOf kv).toNat)
  case atStart => exact ⟨0, rfl, Nat.zero_le _, hide (Below.refl _ _)⟩
  case round =>
    obtain ⟨k, rfl, hk, HB⟩ := hrel
    by_cases hlt : k < es.length
    · obtain ⟨g, rfl, hg, hc1, hc2⟩ := ((unhide HSl).below (unhide HB)) k hlt
      have P := hide (ownf_any (en es k) (unhide HX _ (en_mem hlt)) wr)
      go_wp2_with fail
      refine (unhide P).mono ?_
      rintro e w1 ⟨rfl, b1⟩
      have HB1 := hide (bstep (unhide HB) b1)
      clear hc1 hc2 b1 P HB
      go_wp2_with fail
      refine ⟨⟨k + 1, by go_num, by omega, HB1⟩, ?_⟩
      simp [intOf]; omega
    · go_wp2_with fail
      go_ret
      exact ⟨rfl, unhide HB⟩
set_option maxHeartbeats 400000 in
theorem containso_any (a : Option Addr) (cap : Nat) (es : List Ent) (w : World) (hsl : Sl w a es) (h100 : es.length ≤ 100) (hx : ∀ e ∈ es, e.1.toList ≠ []) :
    Calls Tryd.prog 15 #[.slice a es.length cap, .func (.func 16) #[] #[]] w fun e w' => e = .returned (.bool false) ∧ Below w.heap.size w w' := by
  have P := hide (indexo_any a cap es w hsl h100 hx)
  clear hsl hx
  go_enter Tryd.func15, Tryd.ntmps15
  go_wp2_with fail
  refine (unhide P).mono ?_
  rintro e w1 ⟨rfl, b1⟩
  go_wp2_with fail
  go_ret
  exact ⟨ret_is (by simp), b1⟩
end Go.Proofs.YtcdajajekmichaiDoor.Dk
