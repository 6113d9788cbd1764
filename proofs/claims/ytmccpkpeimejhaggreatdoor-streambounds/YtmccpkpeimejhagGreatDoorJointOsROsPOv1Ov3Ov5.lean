/-
  The program's stream in memory: a plan, a vault and a map of ids in a block of its own; over any disk and any store. No walk.
  A post in a block of its own. No walk.
  The program's vault: beReady and open, over any disk, any log and any store.
  The program's vault: Do, over any disk, any log and any store.
  The program's vault: Store, Used, over any disk, any log and any store.
-/
import Derived.Test.YtmccpkpeimejhagGreatDoorJointPapTPapVaRowVWorksVOvR
import Derived.Test.YtmccpkpeimejhagGreatDoorJointPapRcPapRgOsMRowPvWorksR
import Derived.Test.YtmccpkpeimejhagGreatDoorJointWalkC8WalkLRWalkL2WalkL3
import Derived.Deep.RegionHeld3
import Derived.StillTailTactics
namespace Go.Proofs.YtmccpkpeimejhagGreatDoor.Dk
open Go.RowKit

abbrev PBx (w : World) (x : Nat) (P : Pn.Pln) (a : Option Addr) (c : Nat) : Prop := PB w x P.n a P.f.length c (nth P.v 0) (nth P.v 1) (nth P.v 2) (nth P.v 3) (nth P.v 4) (nth P.v 5) (nth P.v 6) (nth P.v 7)
/-- the blocks of a stream: those of its vault, the row of its filters, the map -/
def smF (FV : Nat → Prop) (a : Option Addr) (mb : Option Nat) (k : Nat) : Prop := FV k ∨ (∃ z, a = some z ∧ k = z.block) ∨ mb = some k
/-- a stream at block x -/
structure Stm (Has : World → Nat → Nat → (Nat → Prop) → Int → List Pap → Prop) (SH : World → Nat → Nat → (Nat → Prop) → Sto → Prop) (w : World) (B x : Nat) (FV : Nat → Prop) (a : Option Addr) (c : Nat) (mb : Option Nat) (P : Pn.Pln) (m size : Int) (st : Str) : Prop where
  vault : VHof Has SH 10 w B x FV m size st.es st.s
  plan : PBx w x P a c
  ids : w.cell? ⟨x, 14, none⟩ = some (.map mb)
  row : SlS w a P.f
  rowB : ∀ z, a = some z → B ≤ z.block ∧ z.block < w.heap.size ∧ ¬ FV z.block
  cap : P.f.length ≤ c
  map : KMap w mb (mids P st.ids)
  mapB : ∀ b, mb = some b → B ≤ b ∧ b < w.heap.size ∧ ¬ FV b ∧ ∀ z, a = some z → z.block ≠ b
  lasts : Lasts (mids P st.ids)
  few : (st.ids.length : Int) ≤ st.s.last
  small : SmallP P
section
variable {Has : World → Nat → Nat → (Nat → Prop) → Int → List Pap → Prop} {SH : World → Nat → Nat → (Nat → Prop) → Sto → Prop} {w w' : World} {B x : Nat} {FV A : Nat → Prop} {a : Option Addr} {c : Nat} {mb : Option Nat} {P : Pn.Pln} {m size : Int} {st : Str} {es' : List Pap} {s' : Sto}
theorem VHof.blk {o : Nat} {F : Nat → Prop} {es : List Pap} {s : Sto} (h : VHof Has SH o w B x F m size es s) : F x ∧ B ≤ x ∧ x < w.heap.size ∧ ∀ j, w.frozen? ⟨x, j, none⟩ = false := by
  obtain ⟨q, g, c, FL, G, h1, h2⟩ := h
  exact ⟨(h2 x).2 (.inl rfl), h1.base, h1.lt, h1.free⟩
theorem VHof.own {o : Nat} {F : Nat → Prop} {es : List Pap} {s : Sto} (H : More Has) (S : SVault SH) (h : VHof Has SH o w B x F m size es s) : ∀ k, F k → B ≤ k ∧ k < w.heap.size := fun k hk => by
  obtain ⟨q, g, c, FL, G, h1, h2⟩ := h
  exact h1.own H S k ((h2 k).1 hk)
theorem VHof.chg {o : Nat} {F : Nat → Prop} {es : List Pap} {s : Sto} (H : More Has) (S : SVault SH) (h : VHof Has SH o w B x F m size es s) (hc : Chg A w w') (hn : ∀ k, F k → ¬ A k) : VHof Has SH o w' B x F m size es s := by
  obtain ⟨q, g, c, FL, G, h1, h2⟩ := h
  exact ⟨q, g, c, FL, G, h1.chg H S hc (fun k hk => hn k ((h2 k).2 hk)), h2⟩
/-- another cell of the vault's block is written -/
theorem VHof.beside {o j : Nat} {F : Nat → Prop} {es : List Pap} {s : Sto} (H : More Has) (S : SVault SH) (h : VHof Has SH o w B x F m size es s) (hj : j < o ∨ o + 4 ≤ j) (v : Value) : VHof Has SH o (w.setCell ⟨x, j, none⟩ v) B x F m size es s := by
  obtain ⟨q, g, c, FL, G, h1, h2⟩ := h
  have cs : Chg (fun k => k = x) w (w.setCell ⟨x, j, none⟩ v) := (Chg.refl _ _).setCell (A := fun k => k = x) (p := ⟨x, j, none⟩) (.inl rfl) _
  refine ⟨q, g, c, FL, G, ⟨(LHof.looks H g size).chg h1.log cs (fun k hk z => by subst z; exact h1.xd hk), S.chg h1.chest cs (fun k hk z => by subst z; exact h1.xg hk), h1.base, Nat.lt_of_lt_of_le h1.lt cs.size, ?_, ?_, ?_, ?_, fun i => ?_, h1.ap, h1.xd, h1.xg⟩, h2⟩
  · rw [World.cell?_setCell_other _ _ _ _ (by simp <;> omega)]; exact h1.c0
  · rw [World.cell?_setCell_other _ _ _ _ (by simp <;> omega)]; exact h1.c1
  · rw [World.cell?_setCell_other _ _ _ _ (by simp <;> omega)]; exact h1.c2
  · rw [World.cell?_setCell_other _ _ _ _ (by simp <;> omega)]; exact h1.c3
  · rw [World.frozen?_setCell]; exact h1.free i
theorem pb_same {b : Nat} {n : ByteArray} {l : Nat} {x0 x1 x2 x3 x4 x5 x6 x7 : Int} (h : PB w b n a l c x0 x1 x2 x3 x4 x5 x6 x7) (hs : w.heap.size ≤ w'.heap.size) (hc : ∀ j, j < 10 → w'.cell? ⟨b, j, none⟩ = w.cell? ⟨b, j, none⟩) : PB w' b n a l c x0 x1 x2 x3 x4 x5 x6 x7 :=
  ⟨Nat.lt_of_lt_of_le h.lt hs, by rw [hc 0 (by omega)]; exact h.c0, by rw [hc 1 (by omega)]; exact h.c1, by rw [hc 2 (by omega)]; exact h.c2, by rw [hc 3 (by omega)]; exact h.c3, by rw [hc 4 (by omega)]; exact h.c4, by rw [hc 5 (by omega)]; exact h.c5, by rw [hc 6 (by omega)]; exact h.c6, by rw [hc 7 (by omega)]; exact h.c7, by rw [hc 8 (by omega)]; exact h.c8, by rw [hc 9 (by omega)]; exact h.c9⟩
theorem sls_chg {l : List ByteArray} (h : SlS w a l) (hc : Chg A w w') (hn : ∀ z, a = some z → ¬ A z.block) : SlS w' a l := fun k hk => by
  obtain ⟨b, o, h1, h2, h3⟩ := h k hk
  exact ⟨b, o, h1, Nat.lt_of_lt_of_le h2 hc.size, by rw [hc.cell (p := ⟨b, o + k, none⟩) h2 (hn ⟨b, o, none⟩ h1)]; exact h3⟩
theorem Stm.own (H : More Has) (S : SVault SH) (h : Stm Has SH w B x FV a c mb P m size st) : ∀ k, smF FV a mb k → B ≤ k ∧ k < w.heap.size := by
  rintro k (z | ⟨z, e, rfl⟩ | z)
  · exact h.vault.own H S k z
  · exact ⟨(h.rowB z e).1, (h.rowB z e).2.1⟩
  · exact ⟨(h.mapB k z).1, (h.mapB k z).2.1⟩
theorem Stm.chg (H : More Has) (S : SVault SH) (h : Stm Has SH w B x FV a c mb P m size st) (hc : Chg A w w') (hn : ∀ k, smF FV a mb k → ¬ A k) : Stm Has SH w' B x FV a c mb P m size st := by
  obtain ⟨hx, _, hl, _⟩ := h.vault.blk
  have hx' := hn x (.inl hx)
  have e : ∀ j, w'.cell? ⟨x, j, none⟩ = w.cell? ⟨x, j, none⟩ := fun j => hc.cell (p := ⟨x, j, none⟩) hl hx'
  exact ⟨h.vault.chg H S hc (fun k hk => hn k (.inl hk)), pb_same h.plan hc.size (fun j _ => e j), (e 14).trans h.ids, sls_chg h.row hc (fun z hz => hn _ (.inr (.inl ⟨z, hz, rfl⟩))), fun z hz => ⟨(h.rowB z hz).1, Nat.lt_of_lt_of_le (h.rowB z hz).2.1 hc.size, (h.rowB z hz).2.2⟩, h.cap, h.map.chg hc (fun b hb => hn b (.inr (.inr hb))), fun b hb => ⟨(h.mapB b hb).1, Nat.lt_of_lt_of_le (h.mapB b hb).2.1 hc.size, (h.mapB b hb).2.2⟩, h.lasts, h.few, h.small⟩
theorem Stm.below (H : More Has) (S : SVault SH) (h : Stm Has SH w B x FV a c mb P m size st) (hb : Below w.heap.size w w') : Stm Has SH w' B x FV a c mb P m size st := h.chg H S (A := fun _ => False) (Chg.of_below hb) (fun _ _ z => z)
/-- the vault is changed -/
theorem Stm.did (h : Stm Has SH w B x FV a c mb P m size st) (hl : st.s.last ≤ s'.last) (hd : DidO Has SH 10 w w' B x FV m size es' s') : ∃ FV', Stm Has SH w' B x FV' a c mb P m size ⟨es', s', st.ids⟩ ∧ Chg FV w w' ∧ ∀ k, FV' k → FV k ∨ w.heap.size ≤ k := by
  obtain ⟨⟨FV', k1, hc, ho⟩, hs⟩ := hd
  refine ⟨FV', ⟨k1, pb_same h.plan hc.size (fun j hj => hs j (.inl hj)), (hs 14 (.inr (by omega))).trans h.ids, sls_chg h.row hc (fun z hz => (h.rowB z hz).2.2), fun z hz => ⟨(h.rowB z hz).1, Nat.lt_of_lt_of_le (h.rowB z hz).2.1 hc.size, fun y => ?_⟩, h.cap, h.map.chg hc (fun b hb => (h.mapB b hb).2.2.1), fun b hb => ⟨(h.mapB b hb).1, Nat.lt_of_lt_of_le (h.mapB b hb).2.1 hc.size, fun y => ?_, (h.mapB b hb).2.2.2⟩, h.lasts, Int.le_trans h.few hl, h.small⟩, hc, ho⟩
  · rcases ho _ y with u | u
    · exact (h.rowB z hz).2.2 u
    · have := (h.rowB z hz).2.1; omega
  · rcases ho _ y with u | u
    · exact (h.mapB b hb).2.2.1 u
    · have := (h.mapB b hb).2.1; omega
/-- the map's cell is written -/
theorem Stm.put (H : More Has) (S : SVault SH) (h : Stm Has SH w B x FV a c mb P m size st) {mb' : Option Nat} {ids' : List Kn} (hm : KMap w mb' (mids P ids')) (hb : ∀ b, mb' = some b → B ≤ b ∧ b < w.heap.size ∧ ¬ FV b ∧ ∀ z, a = some z → z.block ≠ b) (hL : Lasts (mids P ids')) (hf : (ids'.length : Int) ≤ st.s.last) : Stm Has SH (w.setCell ⟨x, 14, none⟩ (.map mb')) B x FV a c mb' P m size ⟨st.es, st.s, ids'⟩ := by
  obtain ⟨hx, _, hl, _⟩ := h.vault.blk
  have cs : Chg (fun k => k = x) w (w.setCell ⟨x, 14, none⟩ (.map mb')) := (Chg.refl _ _).setCell (A := fun k => k = x) (p := ⟨x, 14, none⟩) (.inl rfl) _
  exact ⟨h.vault.beside H S (.inr (by omega)) _, pb_same h.plan cs.size (fun j hj => World.cell?_setCell_other _ _ _ _ (by simp <;> omega)), World.cell?_setCell_same _ _ _ h.ids, sls_chg h.row cs (fun z hz y => (h.rowB z hz).2.2 (y ▸ hx)), fun z hz => ⟨(h.rowB z hz).1, Nat.lt_of_lt_of_le (h.rowB z hz).2.1 cs.size, (h.rowB z hz).2.2⟩, h.cap, hm.chg cs (fun b hb' y => (hb b hb').2.2.1 (y ▸ hx)), fun b hb' => ⟨(hb b hb').1, Nat.lt_of_lt_of_le (hb b hb').2.1 cs.size, (hb b hb').2.2⟩, hL, hf, h.small⟩
end
/-- the program's stream -/
def RHof (Has : World → Nat → Nat → (Nat → Prop) → Int → List Pap → Prop) (SH : World → Nat → Nat → (Nat → Prop) → Sto → Prop) (w : World) (B x : Nat) (F : Nat → Prop) (P : Pn.Pln) (m size : Int) (st : Str) : Prop := ∃ FV a c mb, Stm Has SH w B x FV a c mb P m size st ∧ ∀ k, F k ↔ smF FV a mb k
/-- a stream on its way from w to wr; F0 are the blocks that were its own at w; the blocks Cs are none of its own -/
def Rst (Has : World → Nat → Nat → (Nat → Prop) → Int → List Pap → Prop) (SH : World → Nat → Nat → (Nat → Prop) → Sto → Prop) (F0 Cs : Nat → Prop) (w wr : World) (B x : Nat) (a : Option Addr) (c : Nat) (mb : Option Nat) (P : Pn.Pln) (m size : Int) (st : Str) : Prop :=
  ∃ FV, Stm Has SH wr B x FV a c mb P m size st ∧ Chg F0 w wr ∧ (∀ k, smF FV a mb k → F0 k ∨ w.heap.size ≤ k) ∧ ∀ k, Cs k → k < wr.heap.size ∧ ¬ smF FV a mb k
section
variable {Has : World → Nat → Nat → (Nat → Prop) → Int → List Pap → Prop} {SH : World → Nat → Nat → (Nat → Prop) → Sto → Prop} {F F0 Cs Cs' : Nat → Prop} {w wr w' : World} {B x : Nat} {a : Option Addr} {c : Nat} {mb : Option Nat} {P : Pn.Pln} {m size : Int} {st : Str} {es' : List Pap} {s' : Sto}
theorem RHof.begin (h : RHof Has SH w B x F P m size st) : ∃ a c mb, Rst Has SH F (fun _ => False) w w B x a c mb P m size st ∧ ∀ Cs wr mb' st', Rst Has SH F Cs w wr B x a c mb' P m size st' → DidR (RHof Has SH) w wr B x F P m size st' := by
  obtain ⟨FV, a, c, mb, h1, h2⟩ := h
  refine ⟨a, c, mb, ⟨FV, h1, Chg.refl _ _, fun k z => .inl ((h2 k).2 z), fun _ z => z.elim⟩, fun Cs wr mb' st' hr => ?_⟩
  obtain ⟨FV', r1, r2, r3, _⟩ := hr
  exact ⟨_, ⟨FV', a, c, mb', r1, fun k => Iff.rfl⟩, r2, r3⟩
theorem Rst.room (h : Rst Has SH F0 Cs w wr B x a c mb P m size st) : w.heap.size ≤ wr.heap.size := by
  obtain ⟨_, _, h2, _⟩ := h
  exact h2.size
theorem Rst.plan (h : Rst Has SH F0 Cs w wr B x a c mb P m size st) : PBx wr x P a c := by
  obtain ⟨_, h1, _⟩ := h
  exact h1.plan
theorem Rst.lt (h : Rst Has SH F0 Cs w wr B x a c mb P m size st) : x < wr.heap.size := h.plan.lt
theorem Rst.ids (h : Rst Has SH F0 Cs w wr B x a c mb P m size st) : wr.cell? ⟨x, 14, none⟩ = some (.map mb) ∧ wr.frozen? ⟨x, 14, none⟩ = false := by
  obtain ⟨_, h1, _⟩ := h
  exact ⟨h1.ids, h1.vault.blk.2.2.2 14⟩
theorem Rst.mine (H : More Has) (S : SVault SH) (h : Rst Has SH F0 Cs w wr B x a c mb P m size st) (hb : Below wr.heap.size wr w') (hn : ∀ k, Cs' k → Cs k ∨ wr.heap.size ≤ k ∧ k < w'.heap.size) : Rst Has SH F0 Cs' w w' B x a c mb P m size st := by
  obtain ⟨FV, h1, h2, h3, h4⟩ := h
  refine ⟨FV, h1.below H S hb, h2.trans (Chg.of_below hb), h3, fun k hk => ?_⟩
  rcases hn k hk with y | y
  · exact ⟨Nat.lt_of_lt_of_le (h4 k y).1 hb.size, (h4 k y).2⟩
  · exact ⟨y.2, fun z => by have := (h1.own H S k z).2; omega⟩
theorem Rst.below (H : More Has) (S : SVault SH) (h : Rst Has SH F0 Cs w wr B x a c mb P m size st) (hb : Below wr.heap.size wr w') : Rst Has SH F0 Cs w w' B x a c mb P m size st := h.mine H S hb (fun _ z => .inl z)
theorem Rst.stay (h : Rst Has SH F0 Cs w wr B x a c mb P m size st) (hb : Below wr.heap.size wr w') : Stay Cs wr w' := by
  obtain ⟨FV, _, _, _, h4⟩ := h
  exact ⟨hb.size, fun k hk => hb.block k (h4 k hk).1⟩
/-- a call on the vault -/
theorem Rst.did (h : Rst Has SH F0 Cs w wr B x a c mb P m size st) (hl : st.s.last ≤ s'.last) {fn : FuncId} {args : Array Value} {Q : Ending → World → Prop}
    (hc : ∀ FV, VHof Has SH 10 wr B x FV m size st.es st.s → Calls Tryz.prog fn args wr fun e w' => Q e w' ∧ DidO Has SH 10 wr w' B x FV m size es' s') :
    Calls Tryz.prog fn args wr fun e w' => Q e w' ∧ Rst Has SH F0 Cs w w' B x a c mb P m size ⟨es', s', st.ids⟩ ∧ Stay Cs wr w' := by
  have hr := h.room
  obtain ⟨FV, h1, h2, h3, h4⟩ := h
  refine (hc FV h1.vault).mono ?_
  rintro e w' ⟨hq, hu⟩
  obtain ⟨FV', a1, a2, a3⟩ := h1.did hl hu
  refine ⟨hq, ⟨FV', a1, chg_more h2 a2 (fun i hi z => ?_), fun k hk => ?_, fun k hk => ⟨Nat.lt_of_lt_of_le (h4 k hk).1 a2.size, fun z => ?_⟩⟩, a2.size, fun k hk => a2.block k (h4 k hk).1 (fun z => (h4 k hk).2 (.inl z))⟩
  · rcases h3 i (.inl z) with y | y
    · exact y
    · omega
  · rcases hk with z | z
    · rcases a3 k z with y | y
      · exact h3 k (.inl y)
      · exact .inr (Nat.le_trans hr y)
    · exact h3 k (.inr z)
  · rcases z with z | z
    · rcases a3 k z with y | y
      · exact (h4 k hk).2 (.inl y)
      · have := (h4 k hk).1; omega
    · exact (h4 k hk).2 (.inr z)
/-- a call that looks at the vault -/
theorem Rst.look (h : Rst Has SH F0 Cs w wr B x a c mb P m size st) : ∃ FV, VHof Has SH 10 wr B x FV m size st.es st.s := by
  obtain ⟨FV, h1, _⟩ := h
  exact ⟨FV, h1.vault⟩
end
end Go.Proofs.YtmccpkpeimejhagGreatDoor.Dk

namespace Go.Proofs.YtmccpkpeimejhagGreatDoor.Dk
open Go.RowKit

/-- the six cells of a post in block b -/
structure PoB (w : World) (b : Nat) (x : Po) : Prop where
  lt : b < w.heap.size
  c0 : w.cell? ⟨b, 0, none⟩ = some (.string x.s)
  c1 : w.cell? ⟨b, 1, none⟩ = some (.string x.i)
  c2 : w.cell? ⟨b, 2, none⟩ = some (.string x.h)
  c3 : w.cell? ⟨b, 3, none⟩ = some (.string x.d)
  c4 : w.cell? ⟨b, 4, none⟩ = some (.int .i64 x.x)
  c5 : w.cell? ⟨b, 5, none⟩ = some (.int .i64 x.ro)
abbrev poO (x : Po) : Obj := .cells #[.string x.s, .string x.i, .string x.h, .string x.d, .int .i64 x.x, .int .i64 x.ro] 50
theorem PoB.new (w : World) (x : Po) : PoB (w.alloc (poO x)) w.heap.size x := ⟨by simp, by simp, by simp, by simp, by simp, by simp, by simp⟩
theorem PoB.same {w w' : World} {b : Nat} {x : Po} (h : PoB w b x) (hs : w.heap.size ≤ w'.heap.size) (hb : w'.heap[b]? = w.heap[b]?) : PoB w' b x := by
  have e : ∀ j, w'.cell? ⟨b, j, none⟩ = w.cell? ⟨b, j, none⟩ := fun j => World.cell?_of_block (w := w) (a := ⟨b, j, none⟩) hb
  exact ⟨Nat.lt_of_lt_of_le h.lt hs, by rw [e]; exact h.c0, by rw [e]; exact h.c1, by rw [e]; exact h.c2, by rw [e]; exact h.c3, by rw [e]; exact h.c4, by rw [e]; exact h.c5⟩
theorem PoB.below {w w' : World} {b : Nat} {x : Po} (h : PoB w b x) (hb : Below w.heap.size w w') : PoB w' b x := h.same hb.size (hb.block b h.lt)
theorem PoB.stay {Cs : Nat → Prop} {w w' : World} {b : Nat} {x : Po} (h : PoB w b x) (hs : Stay Cs w w') (hb : Cs b) : PoB w' b x := h.same hs.1 (hs.2 b hb)
end Go.Proofs.YtmccpkpeimejhagGreatDoor.Dk

namespace Go.Proofs.YtmccpkpeimejhagGreatDoor.Dk
open Go.RowKit

theorem scan_small : ∀ (f : Nat) (l : List UInt8), ∀ x ∈ (scan f l).1, Small x
  | 0, _, x, h => by cases h
  | f + 1, l, x, h => by
    by_cases h0 : l.length = 0
    · rw [scan, if_pos h0] at h; cases h
    · by_cases hd : (Pk.dec l).2.2 = 0
      · rw [scan_ok h0 hd] at h
        rcases List.mem_cons.1 h with y | y
        · rw [y]; exact Small.dec hd
        · exact scan_small f _ x y
      · rw [scan_bad h0 hd] at h; cases h
theorem openL_small : ∀ es : List Pap, ∀ x ∈ (openL es).1, Small x
  | [], x, h => by cases h
  | e :: r, x, h => by
    cases hs : scanT e.text with
    | mk rs o =>
      have h1 : ∀ x ∈ rs, Small x := fun x hx => scan_small _ _ x (by unfold scanT at hs; rw [hs]; exact hx)
      cases o with
      | none =>
        rw [openL_whole hs] at h
        rcases List.mem_append.1 h with y | y
        · exact h1 x y
        · exact openL_small r x y
      | some k => rw [openL_cut hs] at h; exact h1 x h
theorem rc_small {l : List Rc} (h : ∀ x ∈ l, Small x) {k : Nat} (hk : k < l.length) : Small (rc l k) := by rw [rc_get hk]; exact h _ (List.getElem_mem hk)
theorem fillV_take {l : List Rc} {k : Nat} (h : k < l.length) : fillV (l.take (k + 1)) = aplS (fillV (l.take k)) (rc l k) := by
  rw [List.take_succ_eq_append_getElem h, fillV_snoc, rc_get h]
/-- a new store on its way, behind w -/
def Mad (SH : World → Nat → Nat → (Nat → Prop) → Sto → Prop) (w wr : World) (c : Nat) (s : Sto) : Prop := ∃ G, SH wr w.heap.size c G s ∧ Below w.heap.size w wr
section
variable {SH : World → Nat → Nat → (Nat → Prop) → Sto → Prop} {w wr w' : World} {c : Nat} {s s' : Sto}
theorem Mad.bl (h : Mad SH w wr c s) : Below w.heap.size w wr := by obtain ⟨G, _, h2⟩ := h; exact h2
theorem Mad.room (h : Mad SH w wr c s) : w.heap.size ≤ wr.heap.size := h.bl.size
theorem Mad.below (S : SVault SH) (h : Mad SH w wr c s) (hb : Below wr.heap.size wr w') : Mad SH w w' c s := by
  have hr := h.room
  obtain ⟨G, h1, h2⟩ := h
  exact ⟨G, S.chg (A := fun _ => False) h1 (Chg.of_below hb) (fun _ _ z => z), h2.trans (hb.mono hr)⟩
theorem Mad.apply (S : SVault SH) (h : Mad SH w wr c s) (hk : s.Ok) (r : Rc) (hr : Small r) :
    Calls Tryz.prog 27 #[.pointer (some ⟨c, 0, none⟩), .agg #[.int .i64 r.k, .int .i64 r.q, .int .i64 r.t, .string r.s, .string r.h, .string r.d]] wr fun e w' => e = .returned (.int .i64 (tryE s r)) ∧ Mad SH w w' c (aplS s r) := by
  have hro := h.room
  obtain ⟨G, h1, h2⟩ := h
  refine (S.apply r hr h1 hk hro).mono ?_
  rintro e w' ⟨he, G', a1, a2, _⟩
  exact ⟨he, G', a1, h2.trans (a2.below hro (fun k hk z => by have := (S.own h1 k z).1; omega))⟩
end

section
variable {Has : World → Nat → Nat → (Nat → Prop) → Int → List Pap → Prop} {SH : World → Nat → Nat → (Nat → Prop) → Sto → Prop} {w w1 wr : World} {B x o q g c : Nat} {F F' : Nat → Prop} {m size : Int} {es : List Pap} {s : Sto}
/-- what open leaves -/
def Opd (Has : World → Nat → Nat → (Nat → Prop) → Int → List Pap → Prop) (SH : World → Nat → Nat → (Nat → Prop) → Sto → Prop) (w w' : World) (B x o q : Nat) (F : Nat → Prop) (m size : Int) (es : List Pap) (s : Sto) : Prop :=
  ∃ g c FL G, Va Has SH w' B x o q g c FL G m size es s ∧ Chg (fun k => F k ∨ k = x) w w' ∧ (∀ k, FL k ∨ G k → F k ∨ w.heap.size ≤ k) ∧ Sid o x w w'
theorem Mad.opd (H : More Has) (S : SVault SH) (hx : B ≤ x ∧ x < w.heap.size) (hB : B ≤ w.heap.size) (hF : ¬ F x) (hc : Chg F w w1) (hF' : ∀ k, F' k → F k ∨ w.heap.size ≤ k) (hl : LHof Has g size w1 B q F' m es) (hs : Mad SH w1 wr c s) {u2 u3 : Value}
    (c0 : w.cell? ⟨x, o, none⟩ = some (.pointer (some ⟨q, 0, none⟩))) (c1 : w.cell? ⟨x, o + 1, none⟩ = some (.int .i64 size)) (c2 : w.cell? ⟨x, o + 2, none⟩ = some u2) (c3 : w.cell? ⟨x, o + 3, none⟩ = some u3) (fr : ∀ j, w.frozen? ⟨x, j, none⟩ = false) :
    Opd Has SH w ((wr.setCell ⟨x, o + 2, none⟩ (.pointer (some ⟨g, 0, none⟩))).setCell ⟨x, o + 3, none⟩ (.pointer (some ⟨c, 0, none⟩))) B x o q F m size es s := by
  obtain ⟨G, h1, h2⟩ := hs
  have hx1 : x < w1.heap.size := Nat.lt_of_lt_of_le hx.2 hc.size
  have hxr : x < wr.heap.size := Nat.lt_of_lt_of_le hx1 h2.size
  have hfl : ¬ F' x := fun z => by
    rcases hF' x z with y | y
    · exact hF y
    · omega
  have hgx : ¬ G x := fun z => by have := (S.own h1 x z).1; omega
  have e : ∀ j, wr.cell? ⟨x, j, none⟩ = w.cell? ⟨x, j, none⟩ := fun j => (h2.cell (p := ⟨x, j, none⟩) hx1).trans (hc.cell (p := ⟨x, j, none⟩) hx.2 hF)
  have ef : ∀ j, wr.frozen? ⟨x, j, none⟩ = false := fun j => by
    rw [h2.frozen (p := ⟨x, j, none⟩) hx1, hc.frozen (p := ⟨x, j, none⟩) hx.2 hF]; exact fr j
  have cs : Chg (fun k => k = x) wr ((wr.setCell ⟨x, o + 2, none⟩ (.pointer (some ⟨g, 0, none⟩))).setCell ⟨x, o + 3, none⟩ (.pointer (some ⟨c, 0, none⟩))) := ((Chg.refl _ _).setCell (A := fun k => k = x) (p := ⟨x, o + 2, none⟩) (.inl rfl) _).setCell (A := fun k => k = x) (p := ⟨x, o + 3, none⟩) (.inl rfl) _
  have hlr := (LHof.looks H g size).chg (A := fun _ => False) hl (Chg.of_below h2) (fun _ _ z => z)
  refine ⟨g, c, F', G, ⟨(LHof.looks H g size).chg hlr cs (fun k hk z => by subst z; exact hfl hk), S.low (S.chg h1 cs (fun k hk z => by subst z; exact hgx hk)) (Nat.le_trans hB hc.size), hx.1, Nat.lt_of_lt_of_le hxr cs.size, ?_, ?_, ?_, ?_, fun j => ?_, fun k hk z => ?_, hfl, hgx⟩, ?_, fun k hk => ?_, fun j hj => ?_⟩
  · rw [World.cell?_setCell_other _ _ _ _ (by simp), World.cell?_setCell_other _ _ _ _ (by simp), e]; exact c0
  · rw [World.cell?_setCell_other _ _ _ _ (by simp), World.cell?_setCell_other _ _ _ _ (by simp), e]; exact c1
  · rw [World.cell?_setCell_other _ _ _ _ (by simp)]
    exact World.cell?_setCell_same _ _ _ ((e (o + 2)).trans c2)
  · refine World.cell?_setCell_same _ _ _ (u := u3) ?_
    rw [World.cell?_setCell_other _ _ _ _ (by simp), e]; exact c3
  · rw [World.frozen?_setCell, World.frozen?_setCell]; exact ef j
  · have := ((LHof.looks H g size).own hl k hk).2
    have := (S.own h1 k z).1
    omega
  · refine chg_more (A := fun k => F k ∨ k = x) ((hc.mono (fun k _ z => .inl z)).trans (Chg.of_below (A := fun k => F k ∨ k = x) h2)) cs (fun i _ z => .inr z)
  · rcases hk with z | z
    · exact hF' k z
    · right
      have := (S.own h1 k z).1
      have := hc.size
      omega
  · rw [World.cell?_setCell_other _ _ _ _ (by simp <;> omega), World.cell?_setCell_other _ _ _ _ (by simp <;> omega), e]

set_option maxRecDepth 100000 in
set_option maxHeartbeats 1000000 in
theorem vready_any {w : World} {x o : Nat} {u : Addr} (c0 : w.cell? ⟨x, o, none⟩ = some (.pointer (some u))) :
    Calls Tryz.prog 22 #[.pointer (some ⟨x, o, none⟩)] w fun e w' => e = .returned (.tuple #[]) ∧ w' = w := by
  go_enter Tryz.func22, Tryz.ntmps22
  go_wp2_with fail
  go_end0
  exact ⟨rfl, rfl⟩

/-- the first two cells of a vault -/
abbrev At2 (x o q : Nat) (size : Int) (w : World) : Prop := w.cell? ⟨x, o, none⟩ = some (.pointer (some ⟨q, 0, none⟩)) ∧ w.cell? ⟨x, o + 1, none⟩ = some (.int .i64 size)
theorem At2.below {w w' : World} (h : At2 x o q size w) (hx : x < w.heap.size) (hb : Below w.heap.size w w') : At2 x o q size w' := ⟨(hb.cell (p := ⟨x, o, none⟩) hx).trans h.1, (hb.cell (p := ⟨x, o + 1, none⟩) hx).trans h.2⟩
theorem At2.chg {w w' : World} (h : At2 x o q size w) (hx : x < w.heap.size) (hc : Chg F w w') (hn : ¬ F x) : At2 x o q size w' := ⟨(hc.cell (p := ⟨x, o, none⟩) hx hn).trans h.1, (hc.cell (p := ⟨x, o + 1, none⟩) hx hn).trans h.2⟩

set_option maxRecDepth 100000 in
set_option maxHeartbeats 1000000 in
theorem vopen_bad {w : World} (hz : inI size 1 4096 = false) (hx : x < w.heap.size) (c0 : w.cell? ⟨x, o, none⟩ = some (.pointer (some ⟨q, 0, none⟩))) (c1 : w.cell? ⟨x, o + 1, none⟩ = some (.int .i64 size)) :
    Calls Tryz.prog 21 #[.pointer (some ⟨x, o, none⟩)] w fun e w' => e = .returned (.int .i64 1) ∧ Below w.heap.size w w' := by
  have bd : Below w.heap.size w w.drew := (Below.refl _ _).drew
  have k0 : At2 x o q size w.drew := At2.below ⟨c0, c1⟩ hx bd
  have P := hide (lopen_bad (w := w.drew) (q := q) (B := w.drew.heap.size) size hz (Nat.le_refl _))
  have HX := hide (fun w1 (b : Below w.drew.heap.size w.drew w1) => k0.below (Nat.lt_of_lt_of_le hx bd.size) b)
  have HB := hide (fun w1 (b : Below w.drew.heap.size w.drew w1) => bd.trans (b.mono bd.size))
  clear hz bd
  go_enter Tryz.func21, Tryz.ntmps21
  go_wp2_with fail
  go_region_held3 (At2 x o q size) (first | assumption | go_keep)
    (first
      | (go_at_call 40; refine (unhide P).mono ?_; rintro e w1 ⟨⟨a, k, rfl⟩, b1⟩; have k1 := unhide HX w1 b1))
  have B1 := hide (unhide HB w1 b1)
  clear P HX HB b1 k0 k1
  go_wp2_with fail
  go_ret
  exact ⟨rfl, unhide B1⟩

set_option maxRecDepth 100000 in
set_option maxHeartbeats 1000000 in
theorem vopen_any (H : More Has) (L : LWorks Has (LHof Has)) (S : SVault SH) {u2 u3 : Value} (hz : inI size 1 4096 = true) (h : Has w B q F m es) (ht : Tidy m es) (hm : m ≤ 65536) (hB : B ≤ w.heap.size) (hx : B ≤ x ∧ x < w.heap.size) (hF : ¬ F x) (c0 : w.cell? ⟨x, o, none⟩ = some (.pointer (some ⟨q, 0, none⟩))) (c1 : w.cell? ⟨x, o + 1, none⟩ = some (.int .i64 size)) (c2 : w.cell? ⟨x, o + 2, none⟩ = some u2) (c3 : w.cell? ⟨x, o + 3, none⟩ = some u3) (fr : ∀ j, w.frozen? ⟨x, j, none⟩ = false) :
    Calls Tryz.prog 21 #[.pointer (some ⟨x, o, none⟩)] w fun e w' => e = .returned (.int .i64 0) ∧ Opd Has SH w w' B x o q F m size (openL es).2 (fillV (openL es).1) := by
  have bd : Below w.heap.size w w.drew := (Below.refl _ _).drew
  have cd : Chg F w w.drew := Chg.of_below bd
  have k0 : At2 x o q size w.drew := At2.below ⟨c0, c1⟩ hx.2 bd
  have P := hide (L.good size hz (H.works.chg (A := fun _ => False) h (Chg.of_below bd) (fun _ _ z => z)) ht hm (Nat.le_trans hB bd.size))
  have hlen : (openL es).1.length ≤ 200000 := by
    have := openL_len es
    have := ht.fits
    omega
  have hsm := openL_small es
  have HO : Hid (∀ (w1 wr : World) (g c : Nat) (F' : Nat → Prop), Chg F w w1 → (∀ k, F' k → F k ∨ w.drew.heap.size ≤ k) → LHof Has g size w1 B q F' m (openL es).2 → Mad SH w1 wr c (fillV (openL es).1) → Opd Has SH w ((wr.setCell ⟨x, o + 2, none⟩ (.pointer (some ⟨g, 0, none⟩))).setCell ⟨x, o + 3, none⟩ (.pointer (some ⟨c, 0, none⟩))) B x o q F m size (openL es).2 (fillV (openL es).1)) := hide (fun w1 wr g c F' hc hF' hl hs => hs.opd H S hx hB hF hc hF' hl c0 c1 c2 c3 fr)
  obtain ⟨es2, he2⟩ : ∃ z, z = (openL es).2 := ⟨_, rfl⟩
  obtain ⟨l, he1⟩ : ∃ z, z = (openL es).1 := ⟨_, rfl⟩
  rw [← he2, ← he1] at P HO ⊢
  rw [← he1] at hlen hsm
  clear he1 he2
  have HX := hide (fun w1 (hc : Chg F w w1) => And.intro (hc.cell (p := ⟨x, o + 2, none⟩) hx.2 hF) (And.intro (hc.cell (p := ⟨x, o + 3, none⟩) hx.2 hF) (And.intro (hc.frozen (p := ⟨x, o + 2, none⟩) hx.2 hF) (hc.frozen (p := ⟨x, o + 3, none⟩) hx.2 hF))))
  have HY := hide (fun w1 (hc : Chg F w.drew w1) => And.intro (cd.trans hc) (k0.chg (Nat.lt_of_lt_of_le hx.2 bd.size) hc hF))
  have f2 := fr (o + 2)
  have f3 := fr (o + 3)
  have hx2 := hx.2
  have HM := hide hsm
  clear h ht hz hF hx hsm fr bd cd
  go_enter Tryz.func21, Tryz.ntmps21
  go_wp2_with fail
  go_region_held3 (At2 x o q size) (first | assumption | go_keep)
    (first
      | (go_at_call 40; refine (unhide P).mono ?_; rintro e w1 ⟨g, a, k, F', rfl, hsl, ha, hl, hc0, hF'⟩; obtain ⟨hc, k1⟩ := unhide HY w1 hc0))
  obtain ⟨d2, d3, e2, e3⟩ := unhide HX w1 hc
  rw [c2] at d2
  rw [c3] at d3
  rw [f2] at e2
  rw [f3] at e3
  have hx1 : x < w1.heap.size := Nat.lt_of_lt_of_le hx2 hc.size
  have HSl := hide hsl
  have HO1 := hide (fun wr c => unhide HO w1 wr g c F' hc hF' hl)
  clear P HO HX HY hsl ha hl hc hc0 k0 k1 hF' c0 c1 c2 c3 f2 f3 hx2
  go_wp2_with fail
  refine (S.new w1).mono ?_
  rintro e w2 ⟨c, G, rfl, h2, b2⟩
  have M2 : Hid (Mad SH w1 w2 c (fillV (l.take 0))) := hide ⟨G, h2, b2⟩
  clear h2 b2
  go_wp2_with fail
  go_loopw [28] (fun iv wr => ∃ (k : Nat), iv = .int .i64 k ∧ k ≤ l.length ∧ Hid (Mad SH w1 wr c (fillV (l.take k)))) (fun iv _ => l.length - (intOf iv).toNat)
  case atStart => exact ⟨0, rfl, Nat.zero_le _, M2⟩
  case round =>
    clear M2
    obtain ⟨k, rfl, hkl, M2⟩ := hrel
    by_cases hlt : k < l.length
    · obtain ⟨ga, o, rfl, s6⟩ := unhide HSl k hlt
      have s7 : Six wr ga (o + k * 6) (rc l k) := s6.below (unhide M2).bl s6.lt
      have hsm := rc_small (unhide HM) hlt
      have hft := fillV_take hlt
      obtain ⟨r, hr⟩ : ∃ r, r = rc l k := ⟨_, rfl⟩
      rw [← hr] at s7 hsm hft
      obtain ⟨_, x0, x1, x2, x3, x4, x5⟩ := s7
      have M3 := hide ((unhide M2).below S ((Below.refl _ _).alloc (Nat.le_refl _) (.cells #[.int .i64 r.k, .int .i64 r.q, .int .i64 r.t, .string r.s, .string r.h, .string r.d] 30)))
      have PA := hide ((unhide M3).apply S (fillV_ok _) r hsm)
      rw [← hft] at PA
      clear hr hft s6 M2 M3
      go_wp2_with fail
      refine (unhide PA).mono ?_
      rintro e w4 ⟨rfl, m4⟩
      have M4 := hide m4
      clear m4 PA x0 x1 x2 x3 x4 x5
      go_wp2_with fail
      refine ⟨⟨k + 1, by go_num, by omega, M4⟩, ?_⟩
      simp [intOf]; omega
    · obtain rfl : k = l.length := by omega
      have M3 : Hid (Mad SH w1 wr c (fillV l)) := by
        have := M2
        rw [List.take_length] at this
        exact this
      have hb := (unhide M3).bl
      have g2 := (hb.cell (p := ⟨x, o + 2, none⟩) hx1).trans d2
      have g3 := (hb.cell (p := ⟨x, o + 3, none⟩) hx1).trans d3
      have k2 := (hb.frozen (p := ⟨x, o + 2, none⟩) hx1).trans e2
      have k3 := (hb.frozen (p := ⟨x, o + 3, none⟩) hx1).trans e3
      have hxr := Nat.lt_of_lt_of_le hx1 hb.size
      have HE := hide (unhide HO1 wr c (unhide M3))
      clear M2 M3 hlt hb d2 d3 e2 e3 HO1
      go_wp2_with fail
      go_ret
      exact ⟨rfl, unhide HE⟩
end
end Go.Proofs.YtmccpkpeimejhagGreatDoor.Dk

namespace Go.Proofs.YtmccpkpeimejhagGreatDoor.Dk
open Go.RowKit

/-- a pointer and a record that stand in memory -/
abbrev At7 (x j c b : Nat) (r : Rc) (w : World) : Prop := w.cell? ⟨x, j, none⟩ = some (.pointer (some ⟨c, 0, none⟩)) ∧ w.cell? ⟨b, 0, none⟩ = some (.int .i64 r.k) ∧ w.cell? ⟨b, 1, none⟩ = some (.int .i64 r.q) ∧ w.cell? ⟨b, 2, none⟩ = some (.int .i64 r.t) ∧ w.cell? ⟨b, 3, none⟩ = some (.string r.s) ∧ w.cell? ⟨b, 4, none⟩ = some (.string r.h) ∧ w.cell? ⟨b, 5, none⟩ = some (.string r.d)
theorem at7 {w : World} {x j c b : Nat} {r : Rc} (h : RB w b r.k r.q r.t r.s r.h r.d) (h0 : w.cell? ⟨x, j, none⟩ = some (.pointer (some ⟨c, 0, none⟩))) : At7 x j c b r w := ⟨h0, h.c0, h.c1, h.c2, h.c3, h.c4, h.c5⟩
theorem rb_stays {Cs : Nat → Prop} {w w' : World} {b : Nat} {k q t : Int} {s h d : ByteArray} (r : RB w b k q t s h d) (hs : Stay Cs w w') (hb : Cs b) : RB w' b k q t s h d :=
  ⟨Nat.lt_of_lt_of_le r.lt hs.1, by rw [hs.cell hb]; exact r.c0, by rw [hs.cell hb]; exact r.c1, by rw [hs.cell hb]; exact r.c2, by rw [hs.cell hb]; exact r.c3, by rw [hs.cell hb]; exact r.c4, by rw [hs.cell hb]; exact r.c5, fun j => by rw [World.frozen?_of_block (w := w) (hs.2 b hb)]; exact r.fr j⟩
theorem logP_kept {es : List Pap} {m size : Int} {r : Rc} (h : (logP es m size r).1 ≠ 0) : (logP es m size r).2 = es := by
  by_cases z : (logR es m size r).1 = 0
  · rw [logP_ok z] at h; exact absurd z h
  · rw [logP_not z]
theorem do_try {es : List Pap} {s : Sto} {m size : Int} {r : Rc} (h : tryE s r ≠ 0) : doE es s m size r = tryE s r ∧ doL es s m size r = es ∧ doS es s m size r = s := by
  have e : doE es s m size r = tryE s r := by unfold doE; rw [if_pos h]
  refine ⟨e, ?_, ?_⟩
  · unfold doL; rw [e, if_neg h]
  · unfold doS; rw [e, if_neg h]
theorem do_log {es : List Pap} {s : Sto} {m size : Int} {r : Rc} (h : tryE s r = 0) (h1 : (logP es m size r).1 ≠ 0) : doE es s m size r = (logP es m size r).1 ∧ doL es s m size r = es ∧ doS es s m size r = s := by
  have e : doE es s m size r = (logP es m size r).1 := by unfold doE; rw [if_neg (by rw [h]; simp)]
  refine ⟨e, ?_, ?_⟩
  · unfold doL; rw [e, if_neg h1]
  · unfold doS; rw [e, if_neg h1]
theorem do_all {es : List Pap} {s : Sto} {m size : Int} {r : Rc} (h : tryE s r = 0) (h1 : (logP es m size r).1 = 0) : doE es s m size r = 0 ∧ doL es s m size r = lsyncL (logP es m size r).2 ∧ doS es s m size r = aplS s r := by
  have e : doE es s m size r = 0 := by unfold doE; rw [if_neg (by rw [h]; simp)]; exact h1
  refine ⟨e, ?_, ?_⟩
  · unfold doL; rw [e, if_pos rfl]
  · unfold doS; rw [e, if_pos rfl]

section
variable {Has : World → Nat → Nat → (Nat → Prop) → Int → List Pap → Prop} {SH : World → Nat → Nat → (Nat → Prop) → Sto → Prop} {w : World} {B x o : Nat} {F : Nat → Prop} {m size : Int} {es : List Pap} {s : Sto}

set_option maxRecDepth 100000 in
set_option maxHeartbeats 2000000 in
theorem vdo_any (H : More Has) (L : LWorks Has (LHof Has)) (S : SVault SH) (r : Rc) (hr : Small r) (h : VHof Has SH o w B x F m size es s) (hv : VOk m es s) (hm : m ≤ 65536) (hz : inI size 1 4096 = true) (hB : B ≤ w.heap.size) :
    Calls Tryz.prog 8 #[.pointer (some ⟨x, o, none⟩), .agg #[.int .i64 r.k, .int .i64 r.q, .int .i64 r.t, .string r.s, .string r.h, .string r.d]] w fun e w' => e = .returned (.int .i64 (doE es s m size r)) ∧ DidO Has SH o w w' B x F m size (doL es s m size r) (doS es s m size r) := by
  obtain ⟨q, g, c, r0, hfin⟩ := h.begin
  have HF := hide hfin
  have HV := hide hv
  have HZ := hide hz
  have hal : Below w.heap.size w (w.alloc (.cells #[.int .i64 r.k, .int .i64 r.q, .int .i64 r.t, .string r.s, .string r.h, .string r.d] 30)) := (Below.refl _ _).alloc (Nat.le_refl _) _
  have R1 := hide (r0.mine H S (Cs' := fun k => k = w.heap.size) hal (fun k hk => .inr ⟨by omega, by subst hk; simp⟩))
  have C1 := hide (RB.new w r.k r.q r.t r.s r.h r.d 30)
  have PB := hide (vready_any (unhide R1).cells.1)
  clear h r0 hfin hv hal hz
  go_enter Tryz.func8, Tryz.ntmps8
  go_wp2_with fail
  refine (unhide PB).mono ?_
  rintro e w1 ⟨rfl, rfl⟩
  generalize w.alloc (.cells #[.int .i64 r.k, .int .i64 r.q, .int .i64 r.t, .string r.s, .string r.h, .string r.d] 30) = w1 at *
  have R2 := hide ((unhide R1).below H S (Below.refl _ _).drew)
  have C2 := hide ((unhide C1).next (Below.refl _ _).drew)
  have k2 := at7 (unhide C2) (unhide R2).cells.2.2.2.1
  have PT := hide (show Calls Tryz.prog 24 #[.pointer (some ⟨c, 0, none⟩), .agg #[.int .i64 r.k, .int .i64 r.q, .int .i64 r.t, .string r.s, .string r.h, .string r.d]] _ fun e w' => e = .returned (.int .i64 (tryE s r)) ∧ Below _ _ w' from by
    obtain ⟨FL, G, h1, _⟩ := unhide R2
    exact S.tries r hr h1.chest (unhide HV).ok (Nat.le_trans hB (unhide R2).room))
  obtain ⟨E, hE⟩ : ∃ E, tryE s r = E := ⟨_, rfl⟩
  rw [hE] at PT
  have HE := hide hE
  clear PB R1 C1 hE
  go_wp2_with fail
  go_region_held3 (At7 x (o + 3) c w.heap.size r) (first | assumption | go_keep)
    (first
      | (go_at_call 24; refine (unhide PT).mono ?_; rintro e w3 ⟨rfl, b3⟩; have R3 := hide ((unhide R2).below H S b3); have C3 := hide ((unhide C2).next b3); have k3 := at7 (unhide C3) (unhide R3).cells.2.2.2.1; clear b3))
  clear k2 k3 PT R2 C2
  by_cases h0 : E = 0
  · have HT := hide ((unhide HE).trans h0)
    subst h0
    have R4 := hide ((unhide R3).below H S (Below.refl _ _).drew)
    have C4 := hide ((unhide C3).next (Below.refl _ _).drew)
    have k4 := at7 (unhide C4) (unhide R4).cells.2.2.1
    have PA := hide ((unhide R4).upd S (fun FL hFL _ => L.append r hr (unhide HZ) hFL (unhide HV).tidy hm (Nat.le_trans hB (unhide R4).room)))
    obtain ⟨E2, hE2⟩ : ∃ E, (logP es m size r).1 = E := ⟨_, rfl⟩
    rw [hE2] at PA
    have HE2 := hide hE2
    clear HE R3 C3 hE2
    go_wp2_with fail
    go_region_held3 (At7 x (o + 2) g w.heap.size r) (first | assumption | go_keep)
      (first
        | (go_at_call 25; refine (unhide PA).mono ?_; rintro e w5 ⟨rfl, r5, s5⟩; have R5 := hide r5; have C5 := hide (rb_stays (unhide C4) s5 rfl); have k5 := at7 (unhide C5) (unhide R5).cells.2.2.1; clear r5 s5))
    clear k4 k5 PA R4 C4
    by_cases h1 : E2 = 0
    · obtain ⟨e1, e2, e3⟩ := do_all (unhide HT) ((unhide HE2).trans h1)
      subst h1
      have HR := hide (And.intro e1 (And.intro e2 e3))
      have x2 := (unhide R5).cells.2.2.1
      have PS := hide ((unhide R5).upd S (fun FL hFL _ => L.sync (unhide HZ) hFL ((unhide HV).tidy.logp size r) hm (Nat.le_trans hB (unhide R5).room)))
      clear e1 e2 e3 HE2 HT
      go_wp2_with fail
      refine (unhide PS).mono ?_
      rintro e w6 ⟨rfl, r6, s6⟩
      have R6 := hide (r6.below H S (Below.refl _ _).drew)
      have C6 := hide ((rb_stays (unhide C5) s6 rfl).next (Below.refl _ _).drew)
      have k6 := at7 (unhide C6) (unhide R6).cells.2.2.2.1
      have PD := hide ((unhide R6).did H (fun G hG => S.apply r hr hG (unhide HV).ok (Nat.le_trans hB (unhide R6).room)))
      clear PS R5 C5 x2 r6 s6
      go_wp2_with fail
      go_region_held3 (At7 x (o + 3) c w.heap.size r) (first | assumption | go_keep)
        (first
          | (go_at_call 27; refine (unhide PD).mono ?_; rintro e w7 ⟨rfl, r7, s7⟩; have R7 := hide r7; have C7 := hide (rb_stays (unhide C6) s7 rfl); have k7 := at7 (unhide C7) (unhide R7).cells.2.2.2.1; clear r7 s7))
      clear k6 k7 PD R6 C6
      go_wp2_with fail
      go_ret
      obtain ⟨e1, e2, e3⟩ := unhide HR
      rw [e1, e2, e3]
      exact ⟨rfl, unhide HF _ _ _ _ _ _ (unhide R7)⟩
    · obtain ⟨e1, e2, e3⟩ := do_log (unhide HT) (by rw [unhide HE2]; exact h1)
      have e4 := logP_kept (es := es) (m := m) (size := size) (r := r) (by rw [unhide HE2]; exact h1)
      have R6 : Hid (Rv Has SH F (fun k => k = w.heap.size) w w5 B x o q g c m size es s) := by
        have := R5
        rw [e4] at this
        exact this
      rw [unhide HE2] at e1
      have HR := hide (And.intro e1 (And.intro e2 e3))
      have e5 : (E2 != 0) = true := by simpa using h1
      clear e1 e2 e3 e4 HE2 HT R5
      go_wp2_with fail
      go_ret
      obtain ⟨e1, e2, e3⟩ := unhide HR
      rw [e1, e2, e3]
      exact ⟨rfl, unhide HF _ _ _ _ _ _ (unhide R6)⟩
  · obtain ⟨e1, e2, e3⟩ := do_try (es := es) (m := m) (size := size) (s := s) (r := r) (by rw [unhide HE]; exact h0)
    rw [unhide HE] at e1
    have HR := hide (And.intro e1 (And.intro e2 e3))
    have e5 : (E != 0) = true := by simpa using h0
    clear e1 e2 e3 HE
    go_wp2_with fail
    go_ret
    obtain ⟨e1, e2, e3⟩ := unhide HR
    rw [e1, e2, e3]
    exact ⟨rfl, unhide HF _ _ _ _ _ _ (unhide R3)⟩
end
end Go.Proofs.YtmccpkpeimejhagGreatDoor.Dk

namespace Go.Proofs.YtmccpkpeimejhagGreatDoor.Dk
open Go.RowKit

section
variable {Has : World → Nat → Nat → (Nat → Prop) → Int → List Pap → Prop} {SH : World → Nat → Nat → (Nat → Prop) → Sto → Prop} {w : World} {B x o : Nat} {F : Nat → Prop} {m size : Int} {es : List Pap} {s : Sto}

set_option maxRecDepth 100000 in
set_option maxHeartbeats 1000000 in
theorem vstore_any (h : VHof Has SH o w B x F m size es s) :
    Calls Tryz.prog 11 #[.pointer (some ⟨x, o, none⟩)] w fun e w' => ∃ q F0, e = .returned (.pointer (some ⟨q, 0, none⟩)) ∧ SH w' B q F0 s ∧ (∀ k, F0 k → F k) ∧ Below w.heap.size w w' := by
  obtain ⟨q, g, c, FL, G, h1, h2⟩ := h
  have PB := hide (vready_any h1.c0)
  have x3 := h1.c3
  have HE := hide (show SH w B c G s ∧ (∀ k, G k → F k) ∧ Below w.heap.size w w from ⟨h1.chest, fun k hk => (h2 k).2 (.inr (.inr hk)), Below.refl _ _⟩)
  clear h1 h2
  go_enter Tryz.func11, Tryz.ntmps11
  go_wp2_with fail
  refine (unhide PB).mono ?_
  rintro e w1 ⟨rfl, rfl⟩
  go_wp2_with fail
  go_ret
  exact ⟨c, G, rfl, unhide HE⟩

set_option maxRecDepth 100000 in
set_option maxHeartbeats 1000000 in
theorem vused_any (H : More Has) (S : SVault SH) (h : VHof Has SH o w B x F m size es s) (hv : VOk m es s) (hm : m ≤ 65536) (hB : B ≤ w.heap.size) :
    Calls Tryz.prog 10 #[.pointer (some ⟨x, o, none⟩)] w fun e w' => e = .returned (.int .i64 (used es : Int)) ∧ DidO Has SH o w w' B x F m size es s := by
  obtain ⟨q, g, c, r0, hfin⟩ := h.begin
  have HF := hide hfin
  have PB := hide (vready_any r0.cells.1)
  have x0 := r0.cells.1
  have PU := hide (r0.upd S (es' := es) (Q := fun e _ => e = .returned (.int .i64 (used es : Int))) (fun FL hFL _ => (LHof.looks H g size).used hFL hv.tidy hm hB))
  clear h r0 hfin hv
  go_enter Tryz.func10, Tryz.ntmps10
  go_wp2_with fail
  refine (unhide PB).mono ?_
  rintro e w1 ⟨rfl, rfl⟩
  go_wp2_with fail
  refine (unhide PU).mono ?_
  rintro e w2 ⟨rfl, r2, _⟩
  have R2 := hide (unhide HF _ _ _ _ _ _ r2)
  clear PU r2
  go_wp2_with fail
  go_ret
  exact ⟨rfl, unhide R2⟩
end
end Go.Proofs.YtmccpkpeimejhagGreatDoor.Dk
