/-
  Contracts of the program's disk: New, Read.
  Contracts of the program's disk: Sync, Remove, the cutting of a file.
  Contract of the program's disk: Used, counted over the files in any order.
-/
import Derived.Test.YtphhebdmfdjfeagGreatDoorRowM
import Derived.Lib.SlKeysI
namespace Go.Proofs.YtphhebdmfdjfeagGreatDoor.Dk
open Go.RowKit

theorem ix_some {es : List Pap} {n : Int} {e : Pap} (h : fnd es n = some e) : ix es n < es.length ∧ pa es (ix es n) = e := by
  have := fnd_ix es n
  rw [h] at this
  split at this
  · rename_i q
    exact ⟨q, (Option.some.inj this).symm⟩
  · cases this
theorem ix_not {es : List Pap} {n : Int} (h : fnd es n = none) : ¬ ix es n < es.length := fun q => by rw [fnd_some q] at h; cases h
theorem readV_some {es : List Pap} {n : Int} {e : Pap} (h : fnd es n = some e) : readV es n = .tuple #[.string e.text, .int .i64 0] := by
  unfold readV
  rw [if_pos (ix_some h).1, (ix_some h).2]
theorem readV_none {es : List Pap} {n : Int} (h : fnd es n = none) : readV es n = .tuple #[.string ⟨#[]⟩, .int .i64 4] := by
  unfold readV
  rw [if_neg (ix_not h)]
theorem hasE_some {es : List Pap} {n : Int} {e : Pap} (h : fnd es n = some e) : hasE es n = 0 := by
  unfold hasE
  rw [if_pos (ix_some h).1]
theorem hasE_none {es : List Pap} {n : Int} (h : fnd es n = none) : hasE es n = 4 := by
  unfold hasE
  rw [if_neg (ix_not h)]
theorem file_conv {w : World} {B c : Nat} {v : Value} {e : Pap} (h : File w B c v e) : (convert 75 9 v).run Tryz.prog w = .ok (.string e.text) w := by
  rcases h.row.2 with ⟨h1, h2⟩ | ⟨g, cap, cur, h1, h2⟩
  · have : e.text = ByteArray.empty := by
      apply ByteArray.ext
      exact Array.eq_empty_of_size_eq_zero h2
    rw [h1, this, run_convert_bytes_string w _ _ 5 none 0 0 Tryz.underlying75 Tryz.underlying5 Tryz.underlying9]
    rfl
  · have hl : e.text.data.toList.length = e.text.size := by simp
    have hr := h.row
    rw [h1] at hr ⊢
    have := run_convert_bytes_back (P := Tryz.prog) w 75 9 5 ⟨g, 0, none⟩ cap e.text.data.toList Tryz.underlying75 Tryz.underlying5 Tryz.underlying9 (fun j hj => by
      refine World.ownsRow.cells hr (g := g) rfl j _ ?_
      simp [Lib.strCells, List.getElem?_eq_getElem hj])
    rw [hl] at this
    rw [this]
/-- a file's row of bytes is put in -/
theorem File.put0 {w w1 : World} {B c : Nat} {v v' : Value} {e : Pap} {t : ByteArray} (h : File w B c v e) (hc : Chg (fun k => v.ownBlock = some k) w w1) (hn : v.ownBlock ≠ some c) (hr : w1.ownsRow B 5 1 v' t.size (Lib.strCells t)) (hn' : v'.ownBlock ≠ some c) :
    File (w1.setCell ⟨c, 0, none⟩ v') B c v' { e with text := t } ∧ Chg (fun k => k = c ∨ v.ownBlock = some k) w (w1.setCell ⟨c, 0, none⟩ v') := by
  have hl : c < w1.heap.size := Nat.lt_of_lt_of_le h.lt hc.size
  have d0 : w1.cell? ⟨c, 0, none⟩ = some v := by rw [hc.cell (p := ⟨c, 0, none⟩) h.lt hn]; exact h.c0
  refine ⟨⟨by simpa [World.setCell] using hl, World.cell?_setCell_same _ _ _ (by rw [d0]), ?_, ?_, ?_, ?_⟩, ?_⟩
  · rw [World.cell?_setCell_other _ _ _ _ (by simp), hc.cell (p := ⟨c, 1, none⟩) h.lt hn]; exact h.c1
  · rw [World.frozen?_setCell, hc.frozen (p := ⟨c, 0, none⟩) h.lt hn]; exact h.f0
  · rw [World.frozen?_setCell, hc.frozen (p := ⟨c, 1, none⟩) h.lt hn]; exact h.f1
  · exact row_chg (A := fun k => k = c) hr (Chg.setCell (A := fun k => k = c) (p := ⟨c, 0, none⟩) (Chg.refl _ _) (.inl rfl) _) (fun g hg z => hn' (by rw [hg, z]))
  · exact (hc.mono (fun k _ q => .inr q)).setCell (p := ⟨c, 0, none⟩) (.inl (.inl rfl)) _
/-- how much is sure is put in -/
theorem File.put1 {w : World} {B c : Nat} {v : Value} {e : Pap} (h : File w B c v e) (hn : v.ownBlock ≠ some c) (x : Int) :
    File (w.setCell ⟨c, 1, none⟩ (.int .i64 x)) B c v { e with sure := x } ∧ Chg (fun k => k = c ∨ v.ownBlock = some k) w (w.setCell ⟨c, 1, none⟩ (.int .i64 x)) := by
  refine ⟨⟨by simpa [World.setCell] using h.lt, ?_, World.cell?_setCell_same _ _ _ (by rw [h.c1]), ?_, ?_, ?_⟩, ?_⟩
  · rw [World.cell?_setCell_other _ _ _ _ (by simp)]; exact h.c0
  · rw [World.frozen?_setCell]; exact h.f0
  · rw [World.frozen?_setCell]; exact h.f1
  · exact row_chg (A := fun k => k = c) h.row (Chg.setCell (A := fun k => k = c) (p := ⟨c, 1, none⟩) (Chg.refl _ _) (.inl rfl) _) (fun g hg z => hn (by rw [hg, z]))
  · exact (Chg.refl _ _).setCell (p := ⟨c, 1, none⟩) (.inl (.inl rfl)) _
theorem Disk.away {w : World} {B q : Nat} {rl : Nat → Option (Nat × Int)} {m : Int} {es : List Pap} {mb : Option Nat} {D : DataW Unit} {cO : Int → Nat} {vO : Int → Value} (h : Disk w B q rl m es mb D cO vO) {n : Int} {e : Pap} (hn : fnd es n = some e) : (vO n).ownBlock ≠ some (cO n) := fun z => by
  have h1 := h.r3 n e hn _ z
  rw [h.r2 n e hn] at h1
  cases h1

set_option maxHeartbeats 400000 in
theorem new_bad (w : World) (m : Int) (h : inI m 1 65536 = false) : Calls Tryz.prog 13 #[.int .i64 m] w fun e w' => e = .returned (.tuple #[.pointer none, .int .i64 1]) ∧ Below w.heap.size w w' := by
  have h' : m < 1 ∨ 65536 < m := by
    unfold inI at h
    simp only [Bool.and_eq_false_iff, decide_eq_false_iff_not] at h
    omega
  by_cases h1 : m < 1
  · go_enter Tryz.func13, Tryz.ntmps13
    go_wp2_with fail
    go_ret2
    exact ⟨rfl, Below.refl _ _⟩
  · have h2 : 65536 < m := by omega
    go_enter Tryz.func13, Tryz.ntmps13
    go_wp2_with fail
    go_ret2
    exact ⟨rfl, Below.refl _ _⟩
theorem disk_new (w : World) (m : Int) : Disk (w.alloc (.cells #[.int .i64 m, .map none] 56)) w.heap.size w.heap.size (fun k => if k = w.heap.size then some (0, 0) else none) m [] none (.map []) (fun _ => 0) (fun _ => .slice none 0 0) := by
  refine ⟨?_, ?_, ?_, .inl ⟨rfl, rfl⟩, rfl, fun n => rfl, fun n e h => (by cases h), fun n e h => (by cases h), fun k hk => ?_, by simp, fun b hb => (by cases hb), fun n e h => (by cases h), fun n e h => (by cases h)⟩
  · rw [cell_of_row _ w.heap.size 0 _ _ _ (heap_alloc_new w _)]; rfl
  · rw [cell_of_row _ w.heap.size 1 _ _ _ (heap_alloc_new w _)]; rfl
  · exact frozen_of_row _ w.heap.size 1 _ _ (heap_alloc_new w _)
  · by_cases z : k = w.heap.size
    · subst z; simp
    · rw [if_neg z] at hk; cases hk
set_option maxHeartbeats 400000 in
theorem new_good (w : World) (m : Int) (h : inI m 1 65536 = true) : Calls Tryz.prog 13 #[.int .i64 m] w fun e w' => ∃ q F, e = .returned (.tuple #[.pointer (some ⟨q, 0, none⟩), .int .i64 0]) ∧ Has w' w.heap.size q F m [] ∧ Below w.heap.size w w' := by
  have h' : 1 ≤ m ∧ m ≤ 65536 := by simpa [inI] using h
  have h1 : ¬ m < 1 := by omega
  have h2 : ¬ 65536 < m := by omega
  clear h
  go_enter Tryz.func13, Tryz.ntmps13
  go_wp2_with fail
  go_ret2
  exact ⟨w.heap.size, rfl, ⟨_, _, _, _, _, _, fun _ => Iff.rfl, disk_new w m⟩, (Below.refl _ _).alloc (Nat.le_refl _) _⟩
theorem news : News Has := ⟨new_bad, new_good⟩

set_option maxHeartbeats 400000 in
theorem dread_any {w : World} {B q : Nat} {F : Nat → Prop} {m : Int} {es : List Pap} (n : Int) (hn : wf n) (hH : Has w B q F m es) :
    Calls Tryz.prog 59 #[.pointer (some ⟨q, 0, none⟩), .int .i64 n] w fun e w' => e = .returned (readV es n) ∧ w' = w := by
  obtain ⟨rl, mb, D, cO, vO, hF, h⟩ := hH
  have k1 := h.c1
  rcases h.look hn with ⟨hf, hl⟩ | ⟨e, hf, hl⟩
  · rw [readV_none hf]
    clear h hF hf
    go_enter Tryz.func59, Tryz.ntmps59
    go_wp2_with fail
    go_ret2
    exact ⟨rfl, rfl⟩
  · rw [readV_some hf]
    have hfile := h.file n e hf
    have d0 := hfile.c0
    have hcv := file_conv hfile
    clear h hF hf hfile
    go_enter Tryz.func59, Tryz.ntmps59
    go_wp2_with fail
    go_ret2
    exact ⟨rfl, rfl⟩
end Go.Proofs.YtphhebdmfdjfeagGreatDoor.Dk

namespace Go.Proofs.YtphhebdmfdjfeagGreatDoor.Dk
open Go.RowKit

theorem one_did {w w' : World} {B q : Nat} {F : Nat → Prop} {rl : Nat → Option (Nat × Int)} {m : Int} {es es' : List Pap} {mb : Option Nat} {D : DataW Unit} {cO : Int → Nat} {vO : Int → Value} (hF : ∀ k, F k ↔ (rl k).isSome = true) (h : Disk w B q rl m es mb D cO vO) {n : Int} {e e' : Pap} {v' : Value}
    (hn : fnd es n = some e) (hlen : es'.length = es.length) (hf : ∀ k, fnd es' k = if k = n then some e' else fnd es k) (hc : Chg (fun k => k = cO n ∨ (vO n).ownBlock = some k) w w') (hf' : File w' B (cO n) v' e')
    (hv : ∀ g, v'.ownBlock = some g → (vO n).ownBlock = some g ∨ w.heap.size ≤ g) : Did Has w w' B q F m es' := by
  obtain ⟨rl', h', hr⟩ := h.one hn hlen hf hc hf' hv
  exact h'.did hF (h.foot hn hc) hr

set_option maxHeartbeats 400000 in
theorem dsync_any {w : World} {B q : Nat} {F : Nat → Prop} {m : Int} {es : List Pap} (n : Int) (hn : wf n) (hH : Has w B q F m es) (ht : Tidy m es) :
    Calls Tryz.prog 30 #[.pointer (some ⟨q, 0, none⟩), .int .i64 n] w fun e w' => e = .returned (.int .i64 (hasE es n)) ∧ Did Has w w' B q F m (syncL es n) := by
  have HH := hide hH
  obtain ⟨rl, mb, D, cO, vO, hF, h⟩ := hH
  have k1 := h.c1
  rcases h.look hn with ⟨hf, hl⟩ | ⟨e, hf, hl⟩
  · rw [hasE_none hf]
    have hs : syncL es n = es := by unfold syncL; rw [if_neg (ix_not hf)]
    rw [hs]
    clear h hF hf hs ht
    go_enter Tryz.func30, Tryz.ntmps30
    go_wp2_with fail
    go_ret
    exact ⟨rfl, did_same (unhide HH)⟩
  · rw [hasE_some hf]
    have hfile := h.file n e hf
    have d0 := hfile.c0
    have d1 := hfile.c1
    have d2 := hfile.f1
    obtain ⟨a, cap, hv, _, _⟩ := hfile.shape
    rw [hv] at d0
    have HX : Hid (Did Has w (w.setCell ⟨cO n, 1, none⟩ (.int .i64 (e.text.size : Int))) B q F m (syncL es n)) := hide (by
      obtain ⟨p1, p2⟩ := hfile.put1 (h.away hf) (e.text.size : Int)
      refine one_did (e' := syncP e) hF h hf ?_ (fun k => ?_) p2 p1 (fun g hg => .inl hg)
      · unfold syncL; split <;> simp
      · rw [fnd_sync ht, hf]; rfl)
    clear h hF hf hfile hv ht
    go_enter Tryz.func30, Tryz.ntmps30
    go_wp2_with fail
    go_ret
    exact ⟨rfl, unhide HX⟩

theorem cut_row {w : World} {B : Nat} {v : Value} {t : ByteArray} {k : Nat} {a : Option Addr} {cap : Nat} (hv : v = .slice a t.size cap) (h : w.ownsRow B 5 1 v t.size (Lib.strCells t)) (hk : k ≤ t.size) : w.ownsRow B 5 1 (.slice a k cap) (t.extract 0 k).size (Lib.strCells (t.extract 0 k)) := by
  have hz := ext_size t k hk
  have hs : Lib.strCells (t.extract 0 k) = (Lib.strCells t).take k := by
    unfold Lib.strCells
    rw [ByteArray.data_extract, Array.toList_extract, ← List.map_take]
    simp
  refine ⟨by rw [Lib.strCells_length, Nat.mul_one], ?_⟩
  rcases h.2 with ⟨h1, h2⟩ | ⟨g, cap', cur, h1, h2, h3, h4, h5, h6, h7⟩
  · rw [hv] at h1
    obtain ⟨rfl, _, rfl⟩ := Value.slice.inj h1
    obtain rfl : k = 0 := by omega
    exact .inl ⟨rfl, hz⟩
  · rw [hv] at h1
    obtain ⟨rfl, _, rfl⟩ := Value.slice.inj h1
    refine .inr ⟨g, cap, cur, by rw [hz], h2, h3, by omega, h5, h6, ?_⟩
    rw [hs, hz, ← h7, List.take_take]
    congr 1
    omega

set_option maxHeartbeats 400000 in
theorem ccut_any {w : World} {B c : Nat} {v : Value} {e : Pap} (k : Nat) (h : File w B c v e) (hn : v.ownBlock ≠ some c) (hk : k ≤ e.text.size) :
    Calls Tryz.prog 90 #[.pointer (some ⟨c, 0, none⟩), .int .i64 (k : Int)] w fun r w' => r = .returned (.tuple #[]) ∧ ∃ v', File w' B c v' (cutP e k) ∧ v'.ownBlock = v.ownBlock ∧ Chg (fun k => k = c ∨ v.ownBlock = some k) w w' := by
  obtain ⟨a, cap, hv, hcap, hmax⟩ := h.shape
  unfold maxLen at hmax
  have d0 := h.c0
  have d1 := h.c1
  have e0 := h.f0
  have e1 := h.f1
  have hr := cut_row hv h.row hk
  have ho : (Value.slice a k cap).ownBlock = v.ownBlock := by rw [hv]; cases a <;> rfl
  obtain ⟨p1, p2⟩ := h.put0 (Chg.refl _ _) hn hr (by rw [ho]; exact hn)
  obtain ⟨q1, q2⟩ := p1.put1 (by rw [ho]; exact hn) (k : Int)
  have hsl : ∀ W : World, (Instr.slice 75 (.slice a e.text.size cap) none (some (.int .i64 (k : Int))) none).run Tryz.prog W = .ok (.slice a k cap) W := by
    intro W
    have he : Tryz.prog.elem 75 = 5 := by kernel_rfl
    rw [run_slice_h W 75 _ _ _ (by rw [he]; exact Tryz.underlying75) .i64 (k : Int) (by omega) (by omega), he]
    simp [Result.andThen, sliced, go_sem, Tryz.sizeOf5]
  have HX : Hid (∃ v', File ((w.setCell ⟨c, 0, none⟩ (.slice a k cap)).setCell ⟨c, 1, none⟩ (.int .i64 (k : Int))) B c v' (cutP e k) ∧ v'.ownBlock = v.ownBlock ∧ Chg (fun k => k = c ∨ v.ownBlock = some k) w ((w.setCell ⟨c, 0, none⟩ (.slice a k cap)).setCell ⟨c, 1, none⟩ (.int .i64 (k : Int)))) := hide ⟨_, q1, ho, p2.trans (by rw [ho] at q2; exact q2)⟩
  clear p1 p2 q1 q2 hr ho hn h
  subst hv
  go_enter Tryz.func90, Tryz.ntmps90
  go_wp2_with fail
  go_end0
  exact ⟨rfl, unhide HX⟩

set_option maxHeartbeats 400000 in
theorem dremove_left {w : World} {B q : Nat} {F : Nat → Prop} {m : Int} {es : List Pap} (n : Int) (hn : wf n) (hH : Has w B q F m es) (ht : Tidy m es) :
    Calls Tryz.prog 49 #[.pointer (some ⟨q, 0, none⟩), .int .i64 n] w fun e w' => e = .returned (.int .i64 (hasE es n)) ∧ Has w' B q F m (remL es n) ∧ Chg F w w' := by
  have HH := hide hH
  obtain ⟨rl, mb, D, cO, vO, hF, h⟩ := hH
  have k1 := h.c1
  rcases h.look hn with ⟨hf, hl⟩ | ⟨e, hf, hl⟩
  · rw [hasE_none hf]
    have hs : remL es n = es := by unfold remL; rw [if_neg (ix_not hf)]
    rw [hs]
    clear h hF hf hs ht
    go_enter Tryz.func49, Tryz.ntmps49
    go_wp2_with fail
    go_ret
    exact ⟨rfl, unhide HH, Chg.refl _ _⟩
  · rw [hasE_some hf]
    rcases h.mp with ⟨_, hD⟩ | ⟨b, rfl, hown⟩
    · have := h.key n
      rw [hf, hD] at this
      cases this
    · have HX : Hid (∀ w', w'.ownsMap Tryz.prog 3 fileElem b (Maps.size D) (D.del (.int .i64 n)) → w.mapTurned w' b → Has w' B q F m (remL es n) ∧ Chg F w w') := hide (by
        intro w' ho htu
        have hc : Chg (fun k => k = b) w w' := (Chg.of_grown htu.grown).mono (fun k _ z => (Option.some.inj z).symm)
        refine ⟨⟨rl, _, _, _, _, hF, h.del (es' := remL es n) hf ?_ (fun k => fnd_rem ht n k) hc (.inr ⟨b, rfl, own_tight ho⟩)⟩, hc.mono (fun k _ z => by rw [z]; exact (hF b).2 (by rw [h.r1 b rfl]; rfl))⟩
        unfold remL
        have := (ix_some hf).1
        rw [if_pos this, List.length_append, List.length_take, List.length_drop]
        omega)
      have hke := keyN hn
      clear h hF hf ht
      go_enter Tryz.func49, Tryz.ntmps49
      go_wp2_with (at_delete; refine wpList_delete_own _ rfl _ _ 54 3 rfl 74 lawK Tryz.underlying54 _ b _ D rfl hown _ _ rfl hke ?_; intro w1 hown1 hturn1)
      go_ret
      exact ⟨rfl, unhide HX w1 hown1 hturn1⟩
theorem dremove_any {w : World} {B q : Nat} {F : Nat → Prop} {m : Int} {es : List Pap} (n : Int) (hn : wf n) (hH : Has w B q F m es) (ht : Tidy m es) :
    Calls Tryz.prog 49 #[.pointer (some ⟨q, 0, none⟩), .int .i64 n] w fun e w' => e = .returned (.int .i64 (hasE es n)) ∧ Did Has w w' B q F m (remL es n) :=
  (dremove_left n hn hH ht).mono (fun _ _ ⟨h1, h2, h3⟩ => ⟨h1, F, h2, h3, fun _ hk => .inl hk⟩)
end Go.Proofs.YtphhebdmfdjfeagGreatDoor.Dk

namespace Go.Proofs.YtphhebdmfdjfeagGreatDoor.Dk
open Go.RowKit

theorem invK (key : Value) (kl : Lit) (hk : keyOf Tryz.prog 3 key = some kl) : ∃ x, key = Value.int .i64 x := by
  obtain ⟨x, h, _⟩ := Maps.keyOf_int_inv Tryz.underlying3 hk
  exact ⟨x, h⟩
def mkP (c : Nat) : Value := .pointer (some ⟨c, 0, none⟩)
theorem invV (v : Value) (y : DataW Unit × List MemPlace) (h : fileElem v = some y) : ∃ c, v = mkP c := by
  obtain ⟨b, h, _⟩ := fileElem_inv h
  exact ⟨b, h⟩
/-- a file that has come -/
theorem Disk.came {w : World} {B q : Nat} {rl : Nat → Option (Nat × Int)} {m : Int} {es : List Pap} {mb : Option Nat} {D : DataW Unit} {cO : Int → Nat} {vO : Int → Value} (h : Disk w B q rl m es mb D cO vO) {x : Int} {c : Nat} {kl : Lit} {y : DataW Unit} {z : List MemPlace} (hk : keyOf Tryz.prog 3 (.int .i64 x) = some kl) (hv : fileElem (mkP c) = some (y, z)) (hat : ∀ zd, D.atKey kl zd = y) : kl = .int .i64 x ∧ c = cO x ∧ ∃ e, fnd es x = some e := by
  obtain ⟨x', e1, rfl, _⟩ := Maps.keyOf_int_inv Tryz.underlying3 hk
  cases e1
  have hh := h.key x
  rw [Maps.has_true_of_atKey hat] at hh
  cases hf : fnd es x with
  | none => rw [hf] at hh; cases hh
  | some e =>
    refine ⟨rfl, ?_, e, rfl⟩
    have h1 := (hat .nil).symm.trans (h.ptr x e hf .nil)
    have h2 : (DataW.lit (.int .i64 (c : Int)) : DataW Unit) = y := by
      have : some ((DataW.lit (.int .i64 (c : Int)) : DataW Unit), ([] : List MemPlace)) = some (y, z) := hv
      exact congrArg Prod.fst (Option.some.inj this)
    rw [← h2] at h1
    simp only [DataW.lit.injEq, Lit.int.injEq, true_and] at h1
    omega
theorem Disk.keys {w : World} {B q : Nat} {rl : Nat → Option (Nat × Int)} {m : Int} {es : List Pap} {mb : Option Nat} {D : DataW Unit} {cO : Int → Nat} {vO : Int → Value} (h : Disk w B q rl m es mb D cO vO) (ht : Tidy m es) {left : Lit → Bool} {ss : List Int} (hC : CollectedI D left ss) (hl : ∀ kl, left kl = false) : ss.Perm (numL es) := by
  refine (List.perm_ext_iff_of_nodup hC.1 ?_).2 (fun x => ?_)
  · exact ((rise_num es).1 ht.rise).imp (fun hab e => by omega)
  · rw [hC.2 x, num_mem, h.key, hl]
    simp
def sumAt (es : List Pap) (ss : List Int) : Nat := (ss.map (sizeAt es)).sum
theorem sumAt_snoc (es : List Pap) (ss : List Int) (x : Int) : sumAt es (ss ++ [x]) = sumAt es ss + sizeAt es x := by simp [sumAt]
theorem sum_le (f : Int → Nat) : ∀ (ss L : List Int), ss.Nodup → (∀ x, x ∈ ss → x ∈ L) → (ss.map f).sum ≤ (L.map f).sum
  | [], L, _, _ => by simp
  | x :: ss, L, hnd, hs => by
    have hx := hs x (by simp)
    have hnd' := List.nodup_cons.1 hnd
    have ih := sum_le f ss (L.erase x) hnd'.2 (fun y hy => by
      have hne : y ≠ x := fun e => hnd'.1 (by rw [← e]; exact hy)
      exact (List.mem_erase_of_ne hne).2 (hs y (by simp [hy])))
    have hp : (L.map f).sum = ((x :: L.erase x).map f).sum := ((List.perm_cons_erase hx).map f).sum_nat
    rw [hp, List.map_cons, List.map_cons, List.sum_cons, List.sum_cons]
    omega
theorem sum_sub {es : List Pap} {D : DataW Unit} {m : Int} {left : Lit → Bool} {ss : List Int} (ht : Tidy m es) (hk : ∀ n, Maps.has D (.int .i64 n) = (fnd es n).isSome) (hC : CollectedI D left ss) : sumAt es ss ≤ used es := by
  rw [used_sum ht.rise]
  exact sum_le _ ss _ hC.1 (fun x hx => by rw [num_mem, ← hk]; exact ((hC.2 x).1 hx).1)

set_option maxHeartbeats 400000 in
theorem dused_any {w : World} {B q : Nat} {F : Nat → Prop} {m : Int} {es : List Pap} (hH : Has w B q F m es) (ht : Tidy m es) (hm : m ≤ 65536) :
    Calls Tryz.prog 21 #[.pointer (some ⟨q, 0, none⟩)] w fun e w' => e = .returned (.int .i64 (used es : Int)) ∧ Below w.heap.size w w' := by
  obtain ⟨rl, mb, D, cO, vO, hF, h⟩ := hH
  have k1 := h.c1
  have H := hide h
  have HT := hide ht
  have hfit := ht.fits
  rcases h.mp with ⟨rfl, rfl⟩ | ⟨b, rfl, hown⟩
  · have h0 : es = [] := by
      have := h.sz
      exact List.eq_nil_of_length_eq_zero this.symm
    subst h0
    have hrg := run_range_nilMap (P := Tryz.prog) w 54 3 74 Tryz.underlying54
    have hnx : ∀ ty, (Instr.next (.pointer (some ⟨w.heap.size, 0, none⟩)) false ty).run Tryz.prog (w.alloc (.mapIter none 0 #[] 0)) = _ := fun ty => run_next_nilMap w ty 0 0 #[]
    clear h hF ht hfit
    go_enter Tryz.func21, Tryz.ntmps21
    go_wp2_with fail
    refine wp_loop_rounds 1 ?_
    rw [rounds_succ]
    go_wp2_with fail
    go_ret
    exact ⟨rfl, (Below.refl _ _).alloc (Nat.le_refl _) _⟩
  · clear h hF ht
    go_enter Tryz.func21, Tryz.ntmps21
    go_wp2_with (first
      | (at_range; refine wpList_range_own _ rfl _ 54 rfl 3 74 lawK Tryz.underlying54 _ b _ _ rfl hown ?_; intro w0 hrg0 hg0 hs0)
      | go_in)
    go_frame
    clear k1
    go_loopw [3] (fun u wr => ∃ (left : Lit → Bool) (cnt : Nat) (ss : List Int), u = .int .i64 (sumAt es ss : Int) ∧ wr.ranges Tryz.prog 3 fileElem b w.heap.size (Maps.size D) D left cnt ∧ Hid (CollectedI D left ss) ∧ Below w.heap.size w wr) (fun _ wr => wr.rangeLeft b w.heap.size)
    case atStart =>
      exact ⟨_, _, [], rfl, hrg0, hide (CollectedI.start D), (Below.refl _ _).grown hg0 (Nat.le_refl _) (fun j hj => by cases hj)⟩
    case round =>
      obtain ⟨left, cnt, ss, rfl, hrg, hC, hb⟩ := hrel
      clear hrg0 hg0 hs0
      go_wp2_with (first
        | (at_next; refine wpList_next_ranges _ rfl _ rfl 3 lawK fileElem (Value.int .i64) mkP invK invV b w.heap.size _ _ _ _ rfl hrg ?_ ?_)
        | go_in)
      · intro _ hl0
        have hS := (unhide HT).used ((unhide H).keys (unhide HT) (unhide hC) hl0)
        have HS : Hid (sumAt es ss = used es) := hide hS
        clear hS
        go_wp2_with fail
        go_ret
        exact ⟨ret_int (by rw [unhide HS]), hb⟩
      · intro x c kl yd yp w2 cnt2 hkey hlk hv hat hrg2 hlt hg2 hs2 hen
        have hb2 := hb.grown hg2 hb.size (fun j hj => by cases hj; exact Nat.le_refl _)
        obtain ⟨rfl, rfl, e, hf⟩ := (unhide H).came hkey hv hat
        have hC2 := hide ((unhide hC).step hlk hat)
        have hfile := ((unhide H).keep (A := fun _ => False) (Chg.of_below hb2) (fun _ _ z => z)).file x e hf
        obtain ⟨a, cap, hvv, _, _⟩ := hfile.shape
        have d0 := hfile.c0
        rw [hvv] at d0
        have hz : sizeAt es x = e.text.size := by unfold sizeAt; rw [hf]
        have hle := sum_sub (unhide HT) (unhide H).key (unhide hC2)
        have HS := hide (sumAt_snoc es ss x)
        rw [unhide HS, hz] at hle
        rw [hz] at HS
        clear hs2 hfile hz hkey hlk hv hat hf hvv hb hg2
        unfold mkP at hen ⊢
        go_wp2_with fail
        go_roundw
        case rel => exact ⟨_, cnt2, ss ++ [x], by rw [unhide HS]; go_num, hrg2, hC2, hb2⟩
        case measure => rw [hrg2.left_eq, hrg.left_eq]; exact hlt
end Go.Proofs.YtphhebdmfdjfeagGreatDoor.Dk
