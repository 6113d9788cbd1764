/-
  Contracts of the program's disk: the making of a file, Append.
-/
import Derived.Test.YtphhebdmfdjfeagGreatDoorJointWalkM1WalkM2WalkM3
import Derived.Deep.RegionHeld3
namespace Go.Proofs.YtphhebdmfdjfeagGreatDoor.Dk
open Go.RowKit

theorem infoB : (Tryz.prog.info? 5).map (fun i => (i.zero, i.size, i.bytes)) = some (some (.int .u8 0), 1, 1) := by kernel_rfl
theorem strCells_app (t s : ByteArray) : Lib.strCells (t ++ s) = Lib.strCells t ++ Lib.strCells s := by
  unfold Lib.strCells
  rw [ByteArray.data_append, Array.toList_append, List.map_append]
/-- append of a text onto a file's row: where the new row lies -/
theorem append_row (w : World) (B : Nat) (ty : TypeId) (v : Value) (t s : ByteArray) (h : w.ownsRow B 5 1 v t.size (Lib.strCells t)) (hB : B ≤ w.heap.size) (hl : t.size + s.size ≤ 1000000) :
    ∃ v' w', (Builtin.append_ #[75, 9] ty #[v, .string s]).run Tryz.prog w = .ok v' w' ∧ w'.ownsRow B 5 1 v' (t ++ s).size (Lib.strCells (t ++ s)) ∧ Chg (fun k => v.ownBlock = some k) w w' ∧ ∀ g, v'.ownBlock = some g → v.ownBlock = some g ∨ w.heap.size ≤ g := by
  obtain ⟨i0, hi, hz0, hz1, hz2⟩ := info_parts infoB
  obtain ⟨v', w', hr, h2, h3, h4⟩ := Lib.run_append_own_string (P := Tryz.prog) w B 75 9 ty 5 i0 Tryz.underlying75 Tryz.underlying9 hi hz0 hz1 hz2 v t.size (Lib.strCells t) h s (by unfold maxLen; omega) (by omega) hB
  refine ⟨v', w', hr, ?_, (Chg.of_grown h3), ?_⟩
  · rw [strCells_app, ByteArray.size_append]
    exact h2
  · intro g hg
    rcases h.2 with ⟨rfl, hn⟩ | ⟨g0, cap, cur, rfl, hbg, hg0, hnc, hcm, hcs, htake⟩
    · by_cases hm : s.size = 0
      · rw [h4.2 ⟨rfl, hm⟩] at hg; cases hg
      · right
        have hr2 := run_append_nil_string (P := Tryz.prog) w 75 9 ty 5 i0 (.int .u8 0) Tryz.underlying75 Tryz.underlying9 hi hz0 s (by omega) (by omega) (by rw [hz2]; omega)
        rw [hr] at hr2
        cases hr2
        simp only [Value.ownBlock, Option.some.injEq] at hg
        omega
    · by_cases hroom : t.size + s.size ≤ cap
      · left
        have hr2 := Lib.run_append_room_string (P := Tryz.prog) w 75 9 ty 5 i0 Tryz.underlying75 Tryz.underlying9 hi hz1 g0 t.size cap cur hg0 s hroom (by rw [hcs]; omega)
        rw [hr] at hr2
        cases hr2
        exact hg
      · right
        have hr2 := Lib.run_append_grow_string (P := Tryz.prog) w 75 9 ty 5 i0 (.int .u8 0) Tryz.underlying75 Tryz.underlying9 hi hz0 ⟨g0, 0, none⟩ t.size cap (Lib.strCells t) (by rw [hz1, Nat.mul_one, Lib.strCells_length]) (World.ownsRow.cells h (g := g0) rfl) s (by omega) (by omega) (by rw [hz2]; exact growslice_fits (by omega) (by omega))
        rw [hr] at hr2
        cases hr2
        simp only [Value.ownBlock, Option.some.injEq] at hg
        omega

/-- the list of the files with a new one, without a byte -/
def newL (es : List Pap) (n : Int) : List Pap := insL es (low es n) ⟨n, 0, ByteArray.empty⟩
theorem newL_fnd {es : List Pap} {n : Int} (h : fnd es n = none) (k : Int) : fnd (newL es n) k = if k = n then some ⟨n, 0, ByteArray.empty⟩ else fnd es k := by
  unfold newL
  rw [fnd_ins (x := ⟨n, 0, ByteArray.empty⟩) _ (not_there (ix_not h))]
theorem newL_len (es : List Pap) (n : Int) : (newL es n).length = es.length + 1 := insL_length (low_le _ _)

theorem eqlSome (b : Nat) (w : World) : (binOp .eql 54 (.map (some b)) (.map none)).run Tryz.prog w = .ok (.bool false) w := by kernel_rfl
theorem eqlNil (w : World) : (binOp .eql 54 (.map none) (.map none)).run Tryz.prog w = .ok (.bool true) w := by kernel_rfl
/-- what the making of a file leaves -/
def Made (w w' : World) (B q : Nat) (rl : Nat → Option (Nat × Int)) (m : Int) (es : List Pap) (n : Int) (c : Nat) : Prop := ∃ rl' mb' D' cO' vO', Disk w' B q rl' m (newL es n) mb' D' cO' vO' ∧ cO' n = c ∧ (vO' n) = .slice none 0 0 ∧ Chg (fun k => (rl k).isSome = true) w w' ∧ (∀ k, (rl' k).isSome = true → (rl k).isSome = true ∨ w.heap.size ≤ k)
theorem file_new (w : World) (B : Nat) (n : Int) : File (w.alloc (.cells #[.slice none 0 0, .int .i64 0] 77)) B w.heap.size (.slice none 0 0) ⟨n, 0, ByteArray.empty⟩ := by
  refine ⟨by simp, ?_, ?_, ?_, ?_, World.ownsRow_nil _ _ _ _⟩
  · rw [cell_of_row _ w.heap.size 0 _ _ _ (heap_alloc_new w _)]; rfl
  · rw [cell_of_row _ w.heap.size 1 _ _ _ (heap_alloc_new w _)]; rfl
  · exact frozen_of_row _ w.heap.size 0 _ _ (heap_alloc_new w _)
  · exact frozen_of_row _ w.heap.size 1 _ _ (heap_alloc_new w _)

set_option maxRecDepth 100000 in
set_option maxHeartbeats 1000000 in
theorem create_old {w : World} {B q b : Nat} {rl : Nat → Option (Nat × Int)} {m : Int} {es : List Pap} {D : DataW Unit} {cO : Int → Nat} {vO : Int → Value} (n : Int) (hn : wf n) (h : Disk w B q rl m es (some b) D cO vO) (hf : fnd es n = none) (h20 : es.length ≤ 20) (hB : B ≤ w.heap.size) :
    Calls Tryz.prog 47 #[.pointer (some ⟨q, 0, none⟩), .int .i64 n] w fun e w' => ∃ c, e = .returned (.pointer (some ⟨c, 0, none⟩)) ∧ Made w w' B q rl m es n c := by
  have hsz := h.sz
  have hown : w.ownsMap Tryz.prog 3 fileElem b (Maps.size D) D := by
    rcases h.mp with ⟨z, _⟩ | ⟨b', z, ho⟩
    · cases z
    · cases z; exact ho
  have hbl := hown.lt
  have hql := (h.own q (by rw [h.r0]; rfl)).2
  have hb0 : Below w.heap.size w (w.alloc (.cells #[.slice none 0 0, .int .i64 0] 77)) := (Below.refl _ _).alloc (Nat.le_refl _) _
  have hown1 := hown.alloc (.cells #[.slice none 0 0, .int .i64 0] 77)
  have k1 := h.c1
  have k2 : (w.alloc (.cells #[.slice none 0 0, .int .i64 0] 77)).cell? ⟨q, 1, none⟩ = some (.map (some b)) := by rw [hb0.cell (p := ⟨q, 1, none⟩) hql]; exact h.c1
  have hke := keyN hn
  have HX : Hid (∀ w', w'.ownsMap Tryz.prog 3 fileElem b (Maps.size D + 1) (D.put (.int .i64 n) (.lit (.int .i64 (w.heap.size : Int)))) → (w.alloc (.cells #[.slice none 0 0, .int .i64 0] 77)).grownBy w' (some b) → Made w w' B q rl m es n w.heap.size) := hide (by
    intro w' ho hg
    have hqb : q ≠ b := fun z => by have := h.r0; rw [z, h.r1 b rfl] at this; cases this
    have hc0 : Chg (fun k => k = b) w w' := (Chg.of_below hb0).trans ((Chg.of_grown hg).mono (fun k _ z => (Option.some.inj z).symm))
    have hF : File w' B w.heap.size (.slice none 0 0) ⟨n, 0, ByteArray.empty⟩ := (file_new w B n).chg (Chg.of_grown hg) (fun z => by have := Option.some.inj z; omega) (fun g hg => by cases hg)
    obtain ⟨rl', h', hr⟩ := h.add (es' := newL es n) (mb' := some b) (c := w.heap.size) hf (newL_len es n) (newL_fnd hf) (hc0.mono (fun k _ z => .inr (by rw [z]))) hB (Nat.le_refl _)
      (by rw [hc0.cell (p := ⟨q, 0, none⟩) hql hqb]; exact h.c0) (by rw [hc0.cell (p := ⟨q, 1, none⟩) hql hqb]; exact h.c1) (by rw [hc0.frozen (p := ⟨q, 1, none⟩) hql hqb]; exact h.fz) (.inr ⟨b, rfl, own_tight ho⟩) (fun b' hb' => .inl hb') (fun z => by have := Option.some.inj z; omega) (fun b' hb' => by cases hb'; exact ho.lt) hF
    exact ⟨rl', _, _, _, _, h', by simp, by simp, hc0.mono (fun k _ z => by rw [z, h.r1 b rfl]; rfl), hr⟩)
  have hq := eqlSome b w
  clear h hf hown hb0 hB
  go_enter Tryz.func47, Tryz.ntmps47
  go_wp2_with (first
    | (at_mapUpdate; refine wpList_mapUpdate_own _ rfl _ _ _ 54 rfl 3 74 lawK Tryz.underlying54 _ b _ _ rfl hown1 (by unfold maxLen; omega) _ _ _ rfl rfl hke _ [] (fileElem_mk _) ?_; intro w1 ho1 hg1)
    | go_in)
  go_ret
  exact ⟨_, rfl, unhide HX w1 ho1 hg1⟩

set_option maxRecDepth 100000 in
set_option maxHeartbeats 1000000 in
theorem create_nil {w : World} {B q : Nat} {rl : Nat → Option (Nat × Int)} {m : Int} {es : List Pap} {D : DataW Unit} {cO : Int → Nat} {vO : Int → Value} (n : Int) (hn : wf n) (h : Disk w B q rl m es none D cO vO) (hf : fnd es n = none) (hB : B ≤ w.heap.size) :
    Calls Tryz.prog 47 #[.pointer (some ⟨q, 0, none⟩), .int .i64 n] w fun e w' => ∃ c, e = .returned (.pointer (some ⟨c, 0, none⟩)) ∧ Made w w' B q rl m es n c := by
  have hD : D = .map [] := by
    rcases h.mp with ⟨_, z⟩ | ⟨b', z, _⟩
    · exact z
    · cases z
  have hql := (h.own q (by rw [h.r0]; rfl)).2
  have k1 := h.c1
  have k2 := h.fz
  have hqn : w.heap.size ≠ q := by omega
  have hmm := @run_makeMap Tryz.prog
  have hke := keyN hn
  obtain ⟨W3, hW3⟩ : ∃ W3, W3 = ((w.setCell ⟨q, 1, none⟩ (.map (some w.heap.size))).alloc (.map #[] 0)).alloc (.cells #[.slice none 0 0, .int .i64 0] 77) := ⟨_, rfl⟩
  have hs2 : ((w.setCell ⟨q, 1, none⟩ (.map (some w.heap.size))).alloc (.map #[] 0)).heap.size = w.heap.size + 1 := by simp [World.setCell]
  have hc2 : Chg (fun k => k = q) w ((w.setCell ⟨q, 1, none⟩ (.map (some w.heap.size))).alloc (.map #[] 0)) := (Chg.setCell (A := fun k => k = q) (p := ⟨q, 1, none⟩) (Chg.refl _ _) (.inl rfl) _).trans (Chg.of_below ((Below.refl _ _).alloc (Nat.le_refl _) _))
  have hb3 : Below ((w.setCell ⟨q, 1, none⟩ (.map (some w.heap.size))).alloc (.map #[] 0)).heap.size ((w.setCell ⟨q, 1, none⟩ (.map (some w.heap.size))).alloc (.map #[] 0)) W3 := by rw [hW3]; exact (Below.refl _ _).alloc (Nat.le_refl _) _
  have hs1 : (w.setCell ⟨q, 1, none⟩ (.map (some w.heap.size))).heap.size = w.heap.size := by simp [World.setCell]
  have hown3 : W3.ownsMap Tryz.prog 3 fileElem w.heap.size 0 (.map []) := by
    have := World.ownsMap_made (w.setCell ⟨q, 1, none⟩ (.map (some w.heap.size))) Tryz.prog 3 fileElem
    rw [hs1] at this
    rw [hW3]
    exact this.alloc _
  have q0 : W3.cell? ⟨q, 0, none⟩ = some (.int .i64 m) := by
    rw [hb3.cell (p := ⟨q, 0, none⟩) (show q < _ by omega), World.cell?_alloc_lt _ _ _ (show q < _ by omega), World.cell?_setCell_other _ _ _ _ (by simp)]; exact h.c0
  have q1 : W3.cell? ⟨q, 1, none⟩ = some (.map (some w.heap.size)) := by
    rw [hb3.cell (p := ⟨q, 1, none⟩) (show q < _ by omega), World.cell?_alloc_lt _ _ _ (show q < _ by omega)]
    exact World.cell?_setCell_same _ _ _ (by rw [h.c1])
  have q2 : W3.frozen? ⟨q, 1, none⟩ = false := by
    rw [hb3.frozen (p := ⟨q, 1, none⟩) (show q < _ by omega), ((Below.refl _ _).alloc (Nat.le_refl _) _).frozen (p := ⟨q, 1, none⟩) (show q < _ by omega), World.frozen?_setCell]; exact h.fz
  have HX : Hid (∀ w', w'.ownsMap Tryz.prog 3 fileElem w.heap.size (0 + 1) (DataW.put (.map []) (.int .i64 n) (.lit (.int .i64 ((w.heap.size + 1 : Nat) : Int)))) → W3.grownBy w' (some w.heap.size) → Made w w' B q rl m es n (w.heap.size + 1)) := hide (by
    intro w' ho hg
    have hgc : Chg (fun k => k = w.heap.size) W3 w' := (Chg.of_grown hg).mono (fun k _ z => (Option.some.inj z).symm)
    have hs3 : W3.heap.size = w.heap.size + 2 := by rw [hW3]; simp [World.setCell]
    have hc0 : Chg (fun k => k = q) w w' := (hc2.trans (Chg.of_below hb3)).more hgc (fun i hi z => by omega)
    have hF0 := file_new ((w.setCell ⟨q, 1, none⟩ (.map (some w.heap.size))).alloc (.map #[] 0)) B n
    rw [← hW3, hs2] at hF0
    have hF : File w' B (w.heap.size + 1) (.slice none 0 0) ⟨n, 0, ByteArray.empty⟩ := hF0.chg hgc (fun z => by omega) (fun g hg => by cases hg)
    have hM : MapAt w' (some w.heap.size) (D.put (.int .i64 n) (.lit (.int .i64 ((w.heap.size + 1 : Nat) : Int)))) := by rw [hD]; exact .inr ⟨_, rfl, own_tight ho⟩
    obtain ⟨rl', h', hr⟩ := h.add (es' := newL es n) (mb' := some w.heap.size) (c := w.heap.size + 1) hf (newL_len es n) (newL_fnd hf) (hc0.mono (fun k _ z => .inl z)) hB (by omega)
      (by rw [hgc.cell (p := ⟨q, 0, none⟩) (by simp only; omega) (by simp only; omega)]; exact q0) (by rw [hgc.cell (p := ⟨q, 1, none⟩) (by simp only; omega) (by simp only; omega)]; exact q1) (by rw [hgc.frozen (p := ⟨q, 1, none⟩) (by simp only; omega) (by simp only; omega)]; exact q2) hM (fun b' hb' => .inr (by have := Option.some.inj hb'; omega)) (fun z => by have := Option.some.inj z; omega) (fun b' hb' => by cases hb'; exact ho.lt) hF
    exact ⟨rl', _, _, _, _, h', by simp, by simp, hc0.mono (fun k _ z => by rw [z, h.r0]; rfl), hr⟩)
  subst hW3
  have hq := eqlNil w
  clear h hf hB hD hb3 hc2 hs2 hs1 q0 q2
  go_enter Tryz.func47, Tryz.ntmps47
  go_wp2_with (first
    | (at_mapUpdate; refine wpList_mapUpdate_own _ rfl _ _ _ 54 rfl 3 74 lawK Tryz.underlying54 _ w.heap.size _ _ rfl hown3 (by unfold maxLen; omega) _ _ _ rfl rfl hke _ [] (fileElem_mk _) ?_; intro w1 ho1 hg1)
    | go_in)
  go_ret
  exact ⟨_, rfl, unhide HX w1 (by simpa [World.setCell] using ho1) hg1⟩
end Go.Proofs.YtphhebdmfdjfeagGreatDoor.Dk
