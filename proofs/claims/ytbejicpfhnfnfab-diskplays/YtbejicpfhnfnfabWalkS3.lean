/-
  The walk of the law DiskPlays, over what is asked of any disk.
-/
import Derived.Test.YtbejicpfhnfnfabWalkS2
namespace Go.Proofs.Ytbejicpfhnfnfab.Dk
open Go.RowKit

/-- a call that is handed in -/
structure Cal where
  kd : Int
  f : Int
  n : Int
  s : ByteArray
/-- the calls that are handed in -/
def Acts (w : World) (a : Option Addr) (n : Nat) (C : Nat → Cal) : Prop := ∀ i, i < n → ∃ b o, a = some ⟨b, o, none⟩ ∧ b < w.heap.size ∧ w.cell? ⟨b, o + i * 4, none⟩ = some (.int .i64 (C i).kd) ∧ w.cell? ⟨b, o + i * 4 + 1, none⟩ = some (.int .i64 (C i).f) ∧ w.cell? ⟨b, o + i * 4 + 2, none⟩ = some (.int .i64 (C i).n) ∧ w.cell? ⟨b, o + i * 4 + 3, none⟩ = some (.string (C i).s) ∧ (C i).s.size ≤ 140737488355328 ∧ wf (C i).f
theorem readV_is (es : List Pap) (n : Int) : ∃ (t : ByteArray) (e : Int), readV es n = .tuple #[.string t, .int .i64 e] := by
  unfold readV
  split
  · exact ⟨_, _, rfl⟩
  · exact ⟨_, _, rfl⟩
theorem two_new {Has : World → Nat → Nat → (Nat → Prop) → Int → List Pap → Prop} (H : More Has) {w : World} {B q : Nat} {F : Nat → Prop} {m : Int} (h : Has w B q F m []) (hB : B ≤ w.heap.size) : Two Has (w.alloc (.cells #[.int .i64 m, .slice none 0 0] 31)) B q F w.heap.size m (.slice none 0 0) [] [] := by
  have hb : Below w.heap.size w (w.alloc (.cells #[.int .i64 m, .slice none 0 0] 31)) := (Below.refl _ _).alloc (Nat.le_refl _) _
  refine ⟨H.works.chg (A := fun _ => False) h (Chg.of_below hb) (fun _ _ h => h), ⟨?_, ?_, ?_, hB, by simp, Arr.empty _ _, by simp [Value.ownBlock]⟩, ?_, by simp; omega⟩
  · rw [cell_of_row _ w.heap.size 0 _ _ _ (heap_alloc_new w _)]; rfl
  · rw [cell_of_row _ w.heap.size 1 _ _ _ (heap_alloc_new w _)]; rfl
  · exact frozen_of_row _ w.heap.size 1 _ _ (heap_alloc_new w _)
  · intro k hk hf
    have := (H.works.own h k hk).2
    rcases hf with z | z
    · omega
    · simp [Value.ownBlock] at z

set_option maxRecDepth 100000 in
set_option maxHeartbeats 2000000 in
theorem plays_any {Has : World → Nat → Nat → (Nat → Prop) → Int → List Pap → Prop} (H : More Has) (N : News Has) (m : Int) (a : Option Addr) (l cap : Nat) (C : Nat → Cal) (n : Int) (w : World) (hp : Acts w a l C) (hn : wf n) :
    Calls Try.prog 3 #[.int .i64 m, .slice a l cap, .int .i64 n] w fun e w' => e = .returned (.bool true) ∧ Below w.heap.size w w' := by
  have Hp := hide hp
  have HWn := hide hn
  clear hp hn
  cases hI : inI m 1 65536 with
  | false =>
    have HI := hide hI
    go_enter Try.func3, Try.ntmps3
    go_wp2_with fail
    refine (N.bad _ m hI).mono ?_
    rintro e w1 ⟨rfl, b1⟩
    go_wp2_with fail
    refine (in_any _ _ _ _).mono ?_
    rintro e w2 ⟨rfl, rfl⟩
    rw [unhide HI]
    go_wp2_with fail
    refine (in_any _ _ _ _).mono ?_
    rintro e w3 ⟨rfl, rfl⟩
    rw [unhide HI]
    go_wp2_with fail
    go_ret
    exact ⟨rfl, b1⟩
  | true =>
    have HI := hide hI
    have hm : 1 ≤ m ∧ m ≤ 65536 := by simpa [inI] using hI
    by_cases hl : 100 < l
    · have hl1 : decide ((100 : Int) < (l : Int)) = true := decide_eq_true (by omega)
      go_enter Try.func3, Try.ntmps3
      go_wp2_with fail
      refine (N.good _ m hI).mono ?_
      rintro e w1 ⟨q, F, rfl, z1, b1⟩
      go_wp2_with fail
      refine (in_any _ _ _ _).mono ?_
      rintro e w2 ⟨rfl, rfl⟩
      rw [unhide HI]
      go_wp2_with fail
      go_ret
      exact ⟨rfl, b1⟩
    · have hl1 : ¬ (100 : Int) < (l : Int) := by omega
      go_enter Try.func3, Try.ntmps3
      go_wp2_with fail
      refine (N.good _ m hI).mono ?_
      rintro e w1 ⟨q, F, rfl, z1, b1⟩
      go_wp2_with fail
      refine (in_any _ _ _ _).mono ?_
      rintro e w2 ⟨rfl, rfl⟩
      rw [unhide HI]
      clear hI
      go_wp2_with fail
      have T1 := hide (two_new H z1 b1.size)
      have B1 := hide (bstep b1 ((Below.refl _ _).alloc (Nat.le_refl _) (.cells #[.int .i64 m, .slice none 0 0] 31)))
      generalize w2.heap.size = p at T1 ⊢
      clear z1 b1
      go_loopw [46] (fun kv wr => ∃ (k : Nat) (es : List Pap), kv = .int .i64 k ∧ k ≤ l ∧ Hid (∃ F' v', Two Has wr w.heap.size q F' p m v' es es) ∧ Hid (Tidy m es) ∧ Hid (Below w.heap.size w wr)) (fun kv _ => l - (intOf kv).toNat)
      case atStart => exact ⟨0, [], rfl, Nat.zero_le _, hide ⟨_, _, unhide T1⟩, hide (Tidy.nil (by omega)), B1⟩
      case round =>
        clear T1 B1
        obtain ⟨k, es, rfl, hkl, T2, G2, B2⟩ := hrel
        by_cases hlt : k < l
        · obtain ⟨b, o, rfl, hb, c0, c1, c2, c3, hsz, hwf⟩ := unhide Hp k hlt
          obtain ⟨kd, f, x, s, hC⟩ : ∃ kd f x s, C k = ⟨kd, f, x, s⟩ := ⟨_, _, _, _, rfl⟩
          rw [hC] at c0 c1 c2 c3 hsz hwf
          clear hC
          simp only at c0 c1 c2 c3 hsz hwf
          have e0 : wr.cell? ⟨b, o + k * 4, none⟩ = some (.int .i64 kd) := by rw [(unhide B2).cell (p := ⟨b, o + k * 4, none⟩) hb]; exact c0
          have e1 : wr.cell? ⟨b, o + k * 4 + 1, none⟩ = some (.int .i64 f) := by rw [(unhide B2).cell (p := ⟨b, o + k * 4 + 1, none⟩) hb]; exact c1
          have e2 : wr.cell? ⟨b, o + k * 4 + 2, none⟩ = some (.int .i64 x) := by rw [(unhide B2).cell (p := ⟨b, o + k * 4 + 2, none⟩) hb]; exact c2
          have e3 : wr.cell? ⟨b, o + k * 4 + 3, none⟩ = some (.string s) := by rw [(unhide B2).cell (p := ⟨b, o + k * 4 + 3, none⟩) hb]; exact c3
          clear c0 c1 c2 c3
          obtain ⟨F2, v2, t2⟩ := unhide T2
          have hb3 : Below wr.heap.size wr (wr.alloc (.cells #[.int .i64 kd, .int .i64 f, .int .i64 x, .string s] 33)) := (Below.refl _ _).alloc (Nat.le_refl _) _
          have PA := hide (rat_any H kd f x s (t2.below H.looks hb3) (unhide G2) hm.2 hsz hwf)
          have G3 := hide ((unhide G2).act kd f x s)
          have B3 := hide ((unhide B2).trans (below_le hb3 t2.B))
          generalize actL es m kd f x s = es1 at PA G3
          clear t2 hb3 T2 G2 B2 hwf
          go_wp2_with fail
          refine (unhide PA).mono ?_
          rintro e w4 ⟨rfl, t4, b4⟩
          have T4 := hide t4
          have B4 := hide ((unhide B3).trans b4)
          clear t4 b4 PA B3 e0 e1 e2 e3
          go_wp2_with fail
          refine ⟨⟨k + 1, es1, by go_num, by omega, T4, G3, B4⟩, ?_⟩
          simp [intOf]; omega
        · obtain ⟨F2, v2, t2⟩ := unhide T2
          obtain ⟨t, e, hr⟩ := readV_is es n
          have HR := hide hr
          have Y2 := hide t2
          clear hr t2 T2
          have hfew := (unhide G2).few
          go_wp2_with fail
          refine (H.works.read n (unhide HWn) (unhide Y2).d (unhide G2) hm.2 (unhide Y2).B).mono ?_
          rintro e3 w3 ⟨rfl, x3⟩
          rw [unhide HR]
          obtain ⟨⟨F3, y3⟩, b3⟩ := (unhide Y2).did H.looks x3
          have Y3 := hide y3
          have B3 := hide ((unhide B2).trans b3)
          clear x3 y3 b3
          go_wp2_with fail
          refine (read_any w.heap.size p m v2 es n _ (unhide Y3).k (by omega)).mono ?_
          rintro e4 w4 ⟨rfl, b4⟩
          rw [unhide HR]
          have B4 := hide ((unhide B3).trans (below_le b4 (unhide Y3).B))
          clear b4 Y3 B3 Y2
          go_wp2_with fail
          go_ret
          exact ⟨rfl, unhide B4⟩
end Go.Proofs.Ytbejicpfhnfnfab.Dk
