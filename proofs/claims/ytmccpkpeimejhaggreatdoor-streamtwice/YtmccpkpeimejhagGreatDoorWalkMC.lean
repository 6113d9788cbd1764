/-
  Contract of the program's disk: Cut.
-/
import Derived.Test.YtmccpkpeimejhagGreatDoorJointPapHWorksFRowMWalkM1WalkM2
namespace Go.Proofs.YtmccpkpeimejhagGreatDoor.Dk
open Go.RowKit

theorem cutL_len (es : List Pap) (n size : Int) : (cutL es n size).length = es.length := by
  unfold cutL
  split
  · split <;> simp
  · rfl
set_option maxHeartbeats 400000 in
theorem dcut_any {w : World} {B q : Nat} {F : Nat → Prop} {m : Int} {es : List Pap} (n size : Int) (hn : wf n) (hH : Has w B q F m es) (ht : Tidy m es) :
    Calls Tryz.prog 110 #[.pointer (some ⟨q, 0, none⟩), .int .i64 n, .int .i64 size] w fun e w' => e = .returned (.int .i64 (cutE es n size)) ∧ Did Has w w' B q F m (cutL es n size) := by
  have HH := hide hH
  obtain ⟨rl, mb, D, cO, vO, hF, h⟩ := hH
  have k1 := h.c1
  rcases h.look hn with ⟨hf, hl⟩ | ⟨e, hf, hl⟩
  · have hE : cutE es n size = 4 := by unfold cutE; rw [if_neg (ix_not hf)]
    rw [cut_not (by rw [hE]; decide), hE]
    clear h hF hf hE ht
    go_enter Tryz.func110, Tryz.ntmps110
    go_wp2_with fail
    go_ret
    exact ⟨rfl, did_same (unhide HH)⟩
  · have hfile := h.file n e hf
    obtain ⟨a, cap, hv, _, _⟩ := hfile.shape
    have d0 := hfile.c0
    rw [hv] at d0
    have hok : cutOk es n size = inI size 0 (e.text.size : Int) := by unfold cutOk; rw [(ix_some hf).2]
    by_cases hin : 0 ≤ size ∧ size ≤ (e.text.size : Int)
    · obtain ⟨k, rfl⟩ := Int.eq_ofNat_of_zero_le hin.1
      have hk : k ≤ e.text.size := by omega
      have hE : cutE es n (k : Int) = 0 := by rw [cut_ok, hok]; exact ⟨(ix_some hf).1, by simp [inI]; omega⟩
      have HC := hide (ccut_any k hfile (h.away hf) hk)
      have HX : Hid (∀ w', (∃ v', File w' B (cO n) v' (cutP e k) ∧ v'.ownBlock = (vO n).ownBlock ∧ Chg (fun k => k = cO n ∨ (vO n).ownBlock = some k) w w') → Did Has w w' B q F m (cutL es n (k : Int))) := hide (by
        rintro w' ⟨v', p1, p2, p3⟩
        refine one_did (e' := cutP e k) hF h hf (cutL_len _ _ _) (fun j => ?_) p3 p1 (fun g hg => .inl (by rw [← p2]; exact hg))
        rw [fnd_cut ht, hE, hf]
        simp)
      rw [hE]
      have h1 : ¬ (k : Int) < 0 := by omega
      have h2 : ¬ (e.text.size : Int) < (k : Int) := by omega
      clear h hF hf hE ht hfile hok hin hv
      go_enter Tryz.func110, Tryz.ntmps110
      go_wp2_with fail
      refine (unhide HC).mono ?_
      rintro r w1 ⟨rfl, hx⟩
      have X := hide (unhide HX w1 hx)
      clear hx d0 k1 hl
      go_wp2_with fail
      go_ret
      exact ⟨rfl, unhide X⟩
    · have hE : cutE es n size = 1 := by
        unfold cutE
        rw [if_pos (ix_some hf).1, hok, if_neg (by simp [inI]; omega)]
      rw [cut_not (by rw [hE]; decide), hE]
      clear h hF hf hE ht hfile hok
      by_cases h1 : size < 0
      · go_enter Tryz.func110, Tryz.ntmps110
        go_wp2_with fail
        go_ret
        exact ⟨rfl, did_same (unhide HH)⟩
      · have h2 : (e.text.size : Int) < size := by omega
        go_enter Tryz.func110, Tryz.ntmps110
        go_wp2_with fail
        go_ret
        exact ⟨rfl, did_same (unhide HH)⟩
end Go.Proofs.YtmccpkpeimejhagGreatDoor.Dk
