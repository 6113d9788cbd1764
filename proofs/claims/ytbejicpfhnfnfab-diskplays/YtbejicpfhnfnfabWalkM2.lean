/-
  Contracts of the program's disk: Sync, Remove, the cutting of a file.
-/
import Derived.Test.YtbejicpfhnfnfabWalkM1
namespace Go.Proofs.Ytbejicpfhnfnfab.Dk
open Go.RowKit

theorem one_did {w w' : World} {B q : Nat} {F : Nat → Prop} {rl : Nat → Option (Nat × Int)} {m : Int} {es es' : List Pap} {mb : Option Nat} {D : DataW Unit} {cO : Int → Nat} {vO : Int → Value} (hF : ∀ k, F k ↔ (rl k).isSome = true) (h : Disk w B q rl m es mb D cO vO) {n : Int} {e e' : Pap} {v' : Value}
    (hn : fnd es n = some e) (hlen : es'.length = es.length) (hf : ∀ k, fnd es' k = if k = n then some e' else fnd es k) (hc : Chg (fun k => k = cO n ∨ (vO n).ownBlock = some k) w w') (hf' : File w' B (cO n) v' e')
    (hv : ∀ g, v'.ownBlock = some g → (vO n).ownBlock = some g ∨ w.heap.size ≤ g) : Did Has w w' B q F m es' := by
  obtain ⟨rl', h', hr⟩ := h.one hn hlen hf hc hf' hv
  exact h'.did hF (h.foot hn hc) hr

set_option maxHeartbeats 400000 in
theorem dsync_any {w : World} {B q : Nat} {F : Nat → Prop} {m : Int} {es : List Pap} (n : Int) (hn : wf n) (hH : Has w B q F m es) (ht : Tidy m es) :
    Calls Try.prog 13 #[.pointer (some ⟨q, 0, none⟩), .int .i64 n] w fun e w' => e = .returned (.int .i64 (hasE es n)) ∧ Did Has w w' B q F m (syncL es n) := by
  have HH := hide hH
  obtain ⟨rl, mb, D, cO, vO, hF, h⟩ := hH
  have k1 := h.c1
  rcases h.look hn with ⟨hf, hl⟩ | ⟨e, hf, hl⟩
  · rw [hasE_none hf]
    have hs : syncL es n = es := by unfold syncL; rw [if_neg (ix_not hf)]
    rw [hs]
    clear h hF hf hs ht
    go_enter Try.func13, Try.ntmps13
    go_wp2_with fail
    go_ret
    exact ⟨rfl, did_same (unhide HH)⟩
  · rw [hasE_some hf]
    have hfile := h.file n e hf
    have d0 := hfile.c0
    have d1 := hfile.c1
    have d2 := hfile.f1
    obtain ⟨a, cap, hv, _, _⟩ := hfile.shape
    rw [hv] at d0
    have HX : Hid (Did Has w (w.setCell ⟨cO n, 1, none⟩ (.int .i64 (e.text.size : Int))) B q F m (syncL es n)) := hide (by
      obtain ⟨p1, p2⟩ := hfile.put1 (h.away hf) (e.text.size : Int)
      refine one_did (e' := syncP e) hF h hf ?_ (fun k => ?_) p2 p1 (fun g hg => .inl hg)
      · unfold syncL; split <;> simp
      · rw [fnd_sync ht, hf]; rfl)
    clear h hF hf hfile hv ht
    go_enter Try.func13, Try.ntmps13
    go_wp2_with fail
    go_ret
    exact ⟨rfl, unhide HX⟩

theorem cut_row {w : World} {B : Nat} {v : Value} {t : ByteArray} {k : Nat} {a : Option Addr} {cap : Nat} (hv : v = .slice a t.size cap) (h : w.ownsRow B 5 1 v t.size (Lib.strCells t)) (hk : k ≤ t.size) : w.ownsRow B 5 1 (.slice a k cap) (t.extract 0 k).size (Lib.strCells (t.extract 0 k)) := by
  have hz := ext_size t k hk
  have hs : Lib.strCells (t.extract 0 k) = (Lib.strCells t).take k := by
    unfold Lib.strCells
    rw [ByteArray.data_extract, Array.toList_extract, ← List.map_take]
    simp
  refine ⟨by rw [Lib.strCells_length, Nat.mul_one], ?_⟩
  rcases h.2 with ⟨h1, h2⟩ | ⟨g, cap', cur, h1, h2, h3, h4, h5, h6, h7⟩
  · rw [hv] at h1
    obtain ⟨rfl, _, rfl⟩ := Value.slice.inj h1
    obtain rfl : k = 0 := by omega
    exact .inl ⟨rfl, hz⟩
  · rw [hv] at h1
    obtain ⟨rfl, _, rfl⟩ := Value.slice.inj h1
    refine .inr ⟨g, cap, cur, by rw [hz], h2, h3, by omega, h5, h6, ?_⟩
    rw [hs, hz, ← h7, List.take_take]
    congr 1
    omega

set_option maxHeartbeats 400000 in
theorem ccut_any {w : World} {B c : Nat} {v : Value} {e : Pap} (k : Nat) (h : File w B c v e) (hn : v.ownBlock ≠ some c) (hk : k ≤ e.text.size) :
    Calls Try.prog 25 #[.pointer (some ⟨c, 0, none⟩), .int .i64 (k : Int)] w fun r w' => r = .returned (.tuple #[]) ∧ ∃ v', File w' B c v' (cutP e k) ∧ v'.ownBlock = v.ownBlock ∧ Chg (fun k => k = c ∨ v.ownBlock = some k) w w' := by
  obtain ⟨a, cap, hv, hcap, hmax⟩ := h.shape
  unfold maxLen at hmax
  have d0 := h.c0
  have d1 := h.c1
  have e0 := h.f0
  have e1 := h.f1
  have hr := cut_row hv h.row hk
  have ho : (Value.slice a k cap).ownBlock = v.ownBlock := by rw [hv]; cases a <;> rfl
  obtain ⟨p1, p2⟩ := h.put0 (Chg.refl _ _) hn hr (by rw [ho]; exact hn)
  obtain ⟨q1, q2⟩ := p1.put1 (by rw [ho]; exact hn) (k : Int)
  have hsl : ∀ W : World, (Instr.slice 47 (.slice a e.text.size cap) none (some (.int .i64 (k : Int))) none).run Try.prog W = .ok (.slice a k cap) W := by
    intro W
    have he : Try.prog.elem 47 = 5 := by kernel_rfl
    rw [run_slice_h W 47 _ _ _ (by rw [he]; exact Try.underlying47) .i64 (k : Int) (by omega) (by omega), he]
    simp [Result.andThen, sliced, go_sem, Try.sizeOf5]
  have HX : Hid (∃ v', File ((w.setCell ⟨c, 0, none⟩ (.slice a k cap)).setCell ⟨c, 1, none⟩ (.int .i64 (k : Int))) B c v' (cutP e k) ∧ v'.ownBlock = v.ownBlock ∧ Chg (fun k => k = c ∨ v.ownBlock = some k) w ((w.setCell ⟨c, 0, none⟩ (.slice a k cap)).setCell ⟨c, 1, none⟩ (.int .i64 (k : Int)))) := hide ⟨_, q1, ho, p2.trans (by rw [ho] at q2; exact q2)⟩
  clear p1 p2 q1 q2 hr ho hn h
  subst hv
  go_enter Try.func25, Try.ntmps25
  go_wp2_with fail
  go_end0
  exact ⟨rfl, unhide HX⟩

set_option maxHeartbeats 400000 in
theorem dremove_left {w : World} {B q : Nat} {F : Nat → Prop} {m : Int} {es : List Pap} (n : Int) (hn : wf n) (hH : Has w B q F m es) (ht : Tidy m es) :
    Calls Try.prog 15 #[.pointer (some ⟨q, 0, none⟩), .int .i64 n] w fun e w' => e = .returned (.int .i64 (hasE es n)) ∧ Has w' B q F m (remL es n) ∧ Chg F w w' := by
  have HH := hide hH
  obtain ⟨rl, mb, D, cO, vO, hF, h⟩ := hH
  have k1 := h.c1
  rcases h.look hn with ⟨hf, hl⟩ | ⟨e, hf, hl⟩
  · rw [hasE_none hf]
    have hs : remL es n = es := by unfold remL; rw [if_neg (ix_not hf)]
    rw [hs]
    clear h hF hf hs ht
    go_enter Try.func15, Try.ntmps15
    go_wp2_with fail
    go_ret
    exact ⟨rfl, unhide HH, Chg.refl _ _⟩
  · rw [hasE_some hf]
    rcases h.mp with ⟨_, hD⟩ | ⟨b, rfl, hown⟩
    · have := h.key n
      rw [hf, hD] at this
      cases this
    · have HX : Hid (∀ w', w'.ownsMap Try.prog 3 fileElem b (Maps.size D) (D.del (.int .i64 n)) → w.mapTurned w' b → Has w' B q F m (remL es n) ∧ Chg F w w') := hide (by
        intro w' ho htu
        have hc : Chg (fun k => k = b) w w' := (Chg.of_grown htu.grown).mono (fun k _ z => (Option.some.inj z).symm)
        refine ⟨⟨rl, _, _, _, _, hF, h.del (es' := remL es n) hf ?_ (fun k => fnd_rem ht n k) hc (.inr ⟨b, rfl, own_tight ho⟩)⟩, hc.mono (fun k _ z => by rw [z]; exact (hF b).2 (by rw [h.r1 b rfl]; rfl))⟩
        unfold remL
        have := (ix_some hf).1
        rw [if_pos this, List.length_append, List.length_take, List.length_drop]
        omega)
      have hke := keyN hn
      clear h hF hf ht
      go_enter Try.func15, Try.ntmps15
      go_wp2_with (at_delete; refine wpList_delete_own _ rfl _ _ 38 3 rfl 46 lawK Try.underlying38 _ b _ D rfl hown _ _ rfl hke ?_; intro w1 hown1 hturn1)
      go_ret
      exact ⟨rfl, unhide HX w1 hown1 hturn1⟩
theorem dremove_any {w : World} {B q : Nat} {F : Nat → Prop} {m : Int} {es : List Pap} (n : Int) (hn : wf n) (hH : Has w B q F m es) (ht : Tidy m es) :
    Calls Try.prog 15 #[.pointer (some ⟨q, 0, none⟩), .int .i64 n] w fun e w' => e = .returned (.int .i64 (hasE es n)) ∧ Did Has w w' B q F m (remL es n) :=
  (dremove_left n hn hH ht).mono (fun _ _ ⟨h1, h2, h3⟩ => ⟨h1, F, h2, h3, fun _ hk => .inl hk⟩)
end Go.Proofs.Ytbejicpfhnfnfab.Dk
