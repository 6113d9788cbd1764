/-
  A plan as a value, out of the pure one; a plan that isn't too great. No walk.
  What is asked of the program's stream, whatever it is made of; a stream on its way.
  The program's stream in memory: a plan, a vault and a map of ids in a block of its own; over any disk and any store. No walk.
  A post in a block of its own. No walk.
-/
import Derived.Test.YtmccpkpeimejhahGreatDoorJointRowPlRowPsPapPcPapPe
import Derived.Test.YtmccpkpeimejhahGreatDoorJointWalkXWRowTPapRaPapRb
import Derived.Test.YtmccpkpeimejhahGreatDoorJointPapTPapVaRowVWorksV
import Derived.Test.YtmccpkpeimejhahGreatDoorJointOvRPlainIPapCPapE
import Derived.Test.YtmccpkpeimejhahGreatDoorJointPapRfPapRcPapRgOsM
namespace Go.Proofs.YtmccpkpeimejhahGreatDoor
open Go.RowKit

/-- a plan as a value, out of the pure one -/
def plV (p : Pn.Pln) (a : Option Addr) (c : Nat) : Value := planV p.n a p.f.length c (Dk.nth p.v 0) (Dk.nth p.v 1) (Dk.nth p.v 2) (Dk.nth p.v 3) (Dk.nth p.v 4) (Dk.nth p.v 5) (Dk.nth p.v 6) (Dk.nth p.v 7)
/-- a plan that isn't too great for any machine -/
structure SmallP (p : Pn.Pln) : Prop where
  name : p.n.size ≤ 140737488355328
  each : ∀ k, k < p.f.length → (tk p.f k).size ≤ 140737488355328
  many : p.f.length ≤ 140737488355328
  nums : p.v.length = 8
end Go.Proofs.YtmccpkpeimejhahGreatDoor

namespace Go.Proofs.YtmccpkpeimejhahGreatDoor.Dk
open Go.RowKit

/-- a post as a value -/
abbrev poV (x : Po) : Value := .agg #[.string x.s, .string x.i, .string x.h, .string x.d, .int .i64 x.x, .int .i64 x.ro]
/-- a post that isn't too great for any machine -/
structure SmallO (x : Po) : Prop where
  s : x.s.size ≤ 140737488355328
  i : x.i.size ≤ 140737488355328
  h : x.h.size ≤ 140737488355328
  d : x.d.size ≤ 140737488355328
def noStr : Str := ⟨[], ⟨[], 0⟩, []⟩
/-- a call may have written the stream's own blocks F alone -/
def DidR (RH : World → Nat → Nat → (Nat → Prop) → Pn.Pln → Int → Int → Str → Prop) (w w' : World) (B p : Nat) (F : Nat → Prop) (P : Pn.Pln) (m size : Int) (st : Str) : Prop := ∃ F', RH w' B p F' P m size st ∧ Chg F w w' ∧ ∀ k, F' k → F k ∨ w.heap.size ≤ k
/-- what every method finds -/
structure Fit (P : Pn.Pln) (m size : Int) (st : Str) : Prop where
  plan : Pn.planE P = 0
  vok : VOk m st.es st.s
  room : m ≤ 65536
  size : inI size 1 4096 = true
  seqs : ∀ k ∈ st.ids, 1 ≤ k.q
/-- what is asked of the program's stream: RH w B p F P m size st says that at block p there is a stream of the plan P, on a vault of room m and that size, whose state is st, in the blocks F; G: what the tables are asked to be -/
structure RWorks (G : World → Prop) (RH : World → Nat → Nat → (Nat → Prop) → Pn.Pln → Int → Int → Str → Prop) (SH : World → Nat → Nat → (Nat → Prop) → Sto → Prop) : Prop where
  own : ∀ {w B p F P m size st}, RH w B p F P m size st → ∀ k, F k → B ≤ k ∧ k < w.heap.size
  chg : ∀ {w w' B p F P m size st} {A : Nat → Prop}, RH w B p F P m size st → Chg A w w' → (∀ k, F k → ¬ A k) → RH w' B p F P m size st
  wrong : ∀ (w : World) (P : Pn.Pln) (a : Option Addr) (c : Nat) (m size : Int), SmallP P → SlS w a P.f → P.f.length ≤ c → G w → Pn.planE P ≠ 0 →
    Calls Tryz.prog 7 #[plV P a c, .int .i64 m, .int .i64 size] w fun e w' => e = .returned (.tuple #[.pointer none, .int .i64 (Pn.planE P)]) ∧ Below w.heap.size w w'
  bad : ∀ (w : World) (P : Pn.Pln) (a : Option Addr) (c : Nat) (m size : Int), SmallP P → SlS w a P.f → P.f.length ≤ c → G w → Pn.planE P = 0 → (inI m 1 65536 && inI size 1 4096) = false →
    Calls Tryz.prog 7 #[plV P a c, .int .i64 m, .int .i64 size] w fun e w' => e = .returned (.tuple #[.pointer none, .int .i64 1]) ∧ Below w.heap.size w w'
  good : ∀ (w : World) (P : Pn.Pln) (a : Option Addr) (c : Nat) (m size : Int), SmallP P → SlS w a P.f → P.f.length ≤ c → G w → Pn.planE P = 0 → inI m 1 65536 = true → inI size 1 4096 = true →
    Calls Tryz.prog 7 #[plV P a c, .int .i64 m, .int .i64 size] w fun e w' => ∃ p F, e = .returned (.tuple #[.pointer (some ⟨p, 0, none⟩), .int .i64 0]) ∧ RH w' w.heap.size p F P m size noStr ∧ Below w.heap.size w w'
  publish : ∀ {w B p F P m size st} (now : Int) (x : Po), SmallO x → RH w B p F P m size st → Fit P m size st → B ≤ w.heap.size →
    Calls Tryz.prog 8 #[.pointer (some ⟨p, 0, none⟩), .int .i64 now, poV x] w fun e w' => e = .returned (.tuple #[.int .i64 (pubP P m size now x st).1.1, .bool (pubP P m size now x st).1.2.1, .int .i64 (pubP P m size now x st).1.2.2]) ∧ DidR RH w w' B p F P m size (pubP P m size now x st).2
  store : ∀ {w B p F P m size st}, RH w B p F P m size st → Fit P m size st → B ≤ w.heap.size →
    Calls Tryz.prog 9 #[.pointer (some ⟨p, 0, none⟩)] w fun e w' => ∃ q F0, e = .returned (.pointer (some ⟨q, 0, none⟩)) ∧ SH w' B q F0 st.s ∧ (∀ k, F0 k → F k) ∧ Below w.heap.size w w'
/-- and of its stop -/
structure RStops (RH : World → Nat → Nat → (Nat → Prop) → Pn.Pln → Int → Int → Str → Prop) : Prop where
  crash : ∀ {w B p F P m size st} (keep : Int), RH w B p F P m size st → Fit P m size st → B ≤ w.heap.size → Calls Tryz.prog 13 #[.pointer (some ⟨p, 0, none⟩), .int .i64 keep] w fun e w' => e = .returned (.tuple #[]) ∧ DidR RH w w' B p F P m size ⟨st.es, st.s, []⟩
  true' : True
theorem Fit.nil {P : Pn.Pln} {m size : Int} (hp : Pn.planE P = 0) (hm : inI m 1 65536 = true) (hs : inI size 1 4096 = true) : Fit P m size noStr := by
  have hb : 1 ≤ m ∧ m ≤ 65536 := by simpa [inI] using hm
  exact ⟨hp, VOk.nil (by omega), hb.2, hs, fun k hk => by cases hk⟩
theorem ids_low {ids : List Kn} {x : Po} {now q : Int} (h : ∀ k ∈ ids, 1 ≤ k.q) (hq : 1 ≤ q) : ∀ k ∈ idsP ids x now q, 1 ≤ k.q := by
  unfold idsP
  split
  · exact h
  · intro k hk
    rcases List.mem_append.1 hk with y | y
    · exact h k y
    · rw [List.mem_singleton.1 y]; exact hq
theorem put_ids {m size now : Int} {x : Po} {ids : List Kn} {es : List Pap} {s : Sto} (h : ∀ k ∈ ids, 1 ≤ k.q) (hl : 0 ≤ s.last) : ∀ k ∈ (putP m size now x ids es s).2.ids, 1 ≤ k.q := by
  unfold putP
  split
  · exact h
  · split
    · exact ids_low h (by omega)
    · split
      · exact ids_low h (by omega)
      · exact ids_low h (by omega)
theorem Fit.pub {P : Pn.Pln} {m size now : Int} {x : Po} {st : Str} (h : Fit P m size st) : Fit P m size (pubP P m size now x st).2 := by
  refine ⟨h.plan, h.vok.pub, h.room, h.size, ?_⟩
  unfold pubP
  split
  · exact h.seqs
  · split
    · exact h.seqs
    · split
      · exact h.seqs
      · split
        · exact h.seqs
        · exact put_ids h.seqs h.vok.roomE.ok.last.1
theorem Fit.stop {P : Pn.Pln} {m size : Int} {st : Str} (h : Fit P m size st) : Fit P m size ⟨st.es, st.s, []⟩ := ⟨h.plan, h.vok, h.room, h.size, fun k hk => by cases hk⟩
/-- a stream on its way, behind w; the blocks Cs are none of its own -/
def Ray (RH : World → Nat → Nat → (Nat → Prop) → Pn.Pln → Int → Int → Str → Prop) (Cs : Nat → Prop) (w wr : World) (p : Nat) (P : Pn.Pln) (m size : Int) (st : Str) : Prop :=
  ∃ F, RH wr w.heap.size p F P m size st ∧ Below w.heap.size w wr ∧ (∀ k, Cs k → k < wr.heap.size ∧ ¬ F k) ∧ Fit P m size st
section
variable {G : World → Prop} {RH : World → Nat → Nat → (Nat → Prop) → Pn.Pln → Int → Int → Str → Prop} {SH : World → Nat → Nat → (Nat → Prop) → Sto → Prop} {Cs Cs' : Nat → Prop} {w wr w' : World} {p : Nat} {P : Pn.Pln} {m size : Int} {st st' : Str}
theorem Ray.bl (h : Ray RH Cs w wr p P m size st) : Below w.heap.size w wr := by obtain ⟨F, _, h2, _⟩ := h; exact h2
theorem Ray.room (h : Ray RH Cs w wr p P m size st) : w.heap.size ≤ wr.heap.size := h.bl.size
theorem Ray.fit (h : Ray RH Cs w wr p P m size st) : Fit P m size st := by obtain ⟨F, _, _, _, h5⟩ := h; exact h5
theorem Ray.mine (V : RWorks G RH SH) (h : Ray RH Cs w wr p P m size st) (hb : Below wr.heap.size wr w') (hn : ∀ k, Cs' k → Cs k ∨ wr.heap.size ≤ k ∧ k < w'.heap.size) : Ray RH Cs' w w' p P m size st := by
  have hr := h.room
  obtain ⟨F, h1, h2, h3, h4⟩ := h
  refine ⟨F, V.chg (A := fun _ => False) h1 (Chg.of_below hb) (fun _ _ z => z), h2.trans (hb.mono hr), fun k hk => ?_, h4⟩
  rcases hn k hk with y | y
  · exact ⟨Nat.lt_of_lt_of_le (h3 k y).1 hb.size, (h3 k y).2⟩
  · exact ⟨y.2, fun z => by have := (V.own h1 k z).2; omega⟩
theorem Ray.below (V : RWorks G RH SH) (h : Ray RH Cs w wr p P m size st) (hb : Below wr.heap.size wr w') : Ray RH Cs w w' p P m size st := h.mine V hb (fun _ z => .inl z)
theorem Ray.stay (h : Ray RH Cs w wr p P m size st) (hb : Below wr.heap.size wr w') : Stay Cs wr w' := by
  obtain ⟨F, _, _, h3, _⟩ := h
  exact ⟨hb.size, fun k hk => hb.block k (h3 k hk).1⟩
theorem Ray.does (V : RWorks G RH SH) (h : Ray RH Cs w wr p P m size st) (hk : Fit P m size st') {fn : FuncId} {args : Array Value} {Q : Ending → World → Prop}
    (hc : ∀ F, RH wr w.heap.size p F P m size st → Calls Tryz.prog fn args wr fun e w' => Q e w' ∧ DidR RH wr w' w.heap.size p F P m size st') :
    Calls Tryz.prog fn args wr fun e w' => Q e w' ∧ Ray RH Cs w w' p P m size st' ∧ Stay Cs wr w' := by
  have hr := h.room
  obtain ⟨F, h1, h2, h3, h4⟩ := h
  refine (hc F h1).mono ?_
  rintro e w' ⟨hq, F', a1, a2, a3⟩
  refine ⟨hq, ⟨F', a1, h2.trans (a2.below hr (fun k hk z => by have := (V.own h1 k z).1; omega)), fun k hk => ⟨Nat.lt_of_lt_of_le (h3 k hk).1 a2.size, fun z => ?_⟩, hk⟩, a2.size, fun k hk => a2.block k (h3 k hk).1 (h3 k hk).2⟩
  rcases a3 k z with y | y
  · exact (h3 k hk).2 y
  · have := (h3 k hk).1; omega
theorem Ray.publish (V : RWorks G RH SH) (h : Ray RH Cs w wr p P m size st) (now : Int) (x : Po) (hx : SmallO x) :
    Calls Tryz.prog 8 #[.pointer (some ⟨p, 0, none⟩), .int .i64 now, poV x] wr fun e w' => e = .returned (.tuple #[.int .i64 (pubP P m size now x st).1.1, .bool (pubP P m size now x st).1.2.1, .int .i64 (pubP P m size now x st).1.2.2]) ∧ Ray RH Cs w w' p P m size (pubP P m size now x st).2 ∧ Stay Cs wr w' := by
  have hm := h.room
  exact h.does V h.fit.pub (fun F hF => V.publish now x hx hF h.fit hm)
theorem Ray.store (V : RWorks G RH SH) (h : Ray RH Cs w wr p P m size st) :
    Calls Tryz.prog 9 #[.pointer (some ⟨p, 0, none⟩)] wr fun e w' => ∃ q F0, e = .returned (.pointer (some ⟨q, 0, none⟩)) ∧ SH w' w.heap.size q F0 st.s ∧ Below wr.heap.size wr w' := by
  have hm := h.room
  have hf := h.fit
  obtain ⟨F, h1, _⟩ := h
  refine (V.store h1 hf hm).mono ?_
  rintro e w' ⟨q, F0, he, hs, _, hb⟩
  exact ⟨q, F0, he, hs, hb⟩
theorem Ray.new (V : RWorks G RH SH) (w : World) (P : Pn.Pln) (a : Option Addr) (c : Nat) (hs : SmallP P) (hsl : SlS w a P.f) (hc : P.f.length ≤ c) (hG : G w) (hp : Pn.planE P = 0) (hm : inI m 1 65536 = true) (hz : inI size 1 4096 = true) :
    Calls Tryz.prog 7 #[plV P a c, .int .i64 m, .int .i64 size] w fun e w' => ∃ p, e = .returned (.tuple #[.pointer (some ⟨p, 0, none⟩), .int .i64 0]) ∧ Ray RH (fun _ => False) w w' p P m size noStr := by
  refine (V.good w P a c m size hs hsl hc hG hp hm hz).mono ?_
  rintro e w' ⟨p, F, he, h1, h2⟩
  exact ⟨p, he, F, h1, h2, fun _ z => z.elim, Fit.nil hp hm hz⟩
theorem Ray.crash (V : RWorks G RH SH) (C : RStops RH) (h : Ray RH Cs w wr p P m size st) (keep : Int) :
    Calls Tryz.prog 13 #[.pointer (some ⟨p, 0, none⟩), .int .i64 keep] wr fun e w' => e = .returned (.tuple #[]) ∧ Ray RH Cs w w' p P m size ⟨st.es, st.s, []⟩ ∧ Stay Cs wr w' := by
  have hm := h.room
  exact h.does V h.fit.stop (fun F hF => C.crash keep hF h.fit hm)
end
end Go.Proofs.YtmccpkpeimejhahGreatDoor.Dk

namespace Go.Proofs.YtmccpkpeimejhahGreatDoor.Dk
open Go.RowKit

abbrev PBx (w : World) (x : Nat) (P : Pn.Pln) (a : Option Addr) (c : Nat) : Prop := PB w x P.n a P.f.length c (nth P.v 0) (nth P.v 1) (nth P.v 2) (nth P.v 3) (nth P.v 4) (nth P.v 5) (nth P.v 6) (nth P.v 7)
/-- the blocks of a stream: those of its vault, the row of its filters, the map -/
def smF (FV : Nat → Prop) (a : Option Addr) (mb : Option Nat) (k : Nat) : Prop := FV k ∨ (∃ z, a = some z ∧ k = z.block) ∨ mb = some k
/-- a stream at block x -/
structure Stm (Has : World → Nat → Nat → (Nat → Prop) → Int → List Pap → Prop) (SH : World → Nat → Nat → (Nat → Prop) → Sto → Prop) (w : World) (B x : Nat) (FV : Nat → Prop) (a : Option Addr) (c : Nat) (mb : Option Nat) (P : Pn.Pln) (m size : Int) (st : Str) : Prop where
  vault : VHof Has SH 10 w B x FV m size st.es st.s
  plan : PBx w x P a c
  ids : w.cell? ⟨x, 14, none⟩ = some (.map mb)
  row : SlS w a P.f
  rowB : ∀ z, a = some z → B ≤ z.block ∧ z.block < w.heap.size ∧ ¬ FV z.block
  cap : P.f.length ≤ c
  map : KMap w mb (mids P st.ids)
  mapB : ∀ b, mb = some b → B ≤ b ∧ b < w.heap.size ∧ ¬ FV b ∧ ∀ z, a = some z → z.block ≠ b
  lasts : Lasts (mids P st.ids)
  few : (st.ids.length : Int) ≤ st.s.last
  small : SmallP P
section
variable {Has : World → Nat → Nat → (Nat → Prop) → Int → List Pap → Prop} {SH : World → Nat → Nat → (Nat → Prop) → Sto → Prop} {w w' : World} {B x : Nat} {FV A : Nat → Prop} {a : Option Addr} {c : Nat} {mb : Option Nat} {P : Pn.Pln} {m size : Int} {st : Str} {es' : List Pap} {s' : Sto}
theorem VHof.blk {o : Nat} {F : Nat → Prop} {es : List Pap} {s : Sto} (h : VHof Has SH o w B x F m size es s) : F x ∧ B ≤ x ∧ x < w.heap.size ∧ ∀ j, w.frozen? ⟨x, j, none⟩ = false := by
  obtain ⟨q, g, c, FL, G, h1, h2⟩ := h
  exact ⟨(h2 x).2 (.inl rfl), h1.base, h1.lt, h1.free⟩
theorem VHof.own {o : Nat} {F : Nat → Prop} {es : List Pap} {s : Sto} (H : More Has) (S : SVault SH) (h : VHof Has SH o w B x F m size es s) : ∀ k, F k → B ≤ k ∧ k < w.heap.size := fun k hk => by
  obtain ⟨q, g, c, FL, G, h1, h2⟩ := h
  exact h1.own H S k ((h2 k).1 hk)
theorem VHof.chg {o : Nat} {F : Nat → Prop} {es : List Pap} {s : Sto} (H : More Has) (S : SVault SH) (h : VHof Has SH o w B x F m size es s) (hc : Chg A w w') (hn : ∀ k, F k → ¬ A k) : VHof Has SH o w' B x F m size es s := by
  obtain ⟨q, g, c, FL, G, h1, h2⟩ := h
  exact ⟨q, g, c, FL, G, h1.chg H S hc (fun k hk => hn k ((h2 k).2 hk)), h2⟩
/-- another cell of the vault's block is written -/
theorem VHof.beside {o j : Nat} {F : Nat → Prop} {es : List Pap} {s : Sto} (H : More Has) (S : SVault SH) (h : VHof Has SH o w B x F m size es s) (hj : j < o ∨ o + 4 ≤ j) (v : Value) : VHof Has SH o (w.setCell ⟨x, j, none⟩ v) B x F m size es s := by
  obtain ⟨q, g, c, FL, G, h1, h2⟩ := h
  have cs : Chg (fun k => k = x) w (w.setCell ⟨x, j, none⟩ v) := (Chg.refl _ _).setCell (A := fun k => k = x) (p := ⟨x, j, none⟩) (.inl rfl) _
  refine ⟨q, g, c, FL, G, ⟨(LHof.looks H g size).chg h1.log cs (fun k hk z => by subst z; exact h1.xd hk), S.chg h1.chest cs (fun k hk z => by subst z; exact h1.xg hk), h1.base, Nat.lt_of_lt_of_le h1.lt cs.size, ?_, ?_, ?_, ?_, fun i => ?_, h1.ap, h1.xd, h1.xg⟩, h2⟩
  · rw [World.cell?_setCell_other _ _ _ _ (by simp <;> omega)]; exact h1.c0
  · rw [World.cell?_setCell_other _ _ _ _ (by simp <;> omega)]; exact h1.c1
  · rw [World.cell?_setCell_other _ _ _ _ (by simp <;> omega)]; exact h1.c2
  · rw [World.cell?_setCell_other _ _ _ _ (by simp <;> omega)]; exact h1.c3
  · rw [World.frozen?_setCell]; exact h1.free i
theorem pb_same {b : Nat} {n : ByteArray} {l : Nat} {x0 x1 x2 x3 x4 x5 x6 x7 : Int} (h : PB w b n a l c x0 x1 x2 x3 x4 x5 x6 x7) (hs : w.heap.size ≤ w'.heap.size) (hc : ∀ j, j < 10 → w'.cell? ⟨b, j, none⟩ = w.cell? ⟨b, j, none⟩) : PB w' b n a l c x0 x1 x2 x3 x4 x5 x6 x7 :=
  ⟨Nat.lt_of_lt_of_le h.lt hs, by rw [hc 0 (by omega)]; exact h.c0, by rw [hc 1 (by omega)]; exact h.c1, by rw [hc 2 (by omega)]; exact h.c2, by rw [hc 3 (by omega)]; exact h.c3, by rw [hc 4 (by omega)]; exact h.c4, by rw [hc 5 (by omega)]; exact h.c5, by rw [hc 6 (by omega)]; exact h.c6, by rw [hc 7 (by omega)]; exact h.c7, by rw [hc 8 (by omega)]; exact h.c8, by rw [hc 9 (by omega)]; exact h.c9⟩
theorem sls_chg {l : List ByteArray} (h : SlS w a l) (hc : Chg A w w') (hn : ∀ z, a = some z → ¬ A z.block) : SlS w' a l := fun k hk => by
  obtain ⟨b, o, h1, h2, h3⟩ := h k hk
  exact ⟨b, o, h1, Nat.lt_of_lt_of_le h2 hc.size, by rw [hc.cell (p := ⟨b, o + k, none⟩) h2 (hn ⟨b, o, none⟩ h1)]; exact h3⟩
theorem Stm.own (H : More Has) (S : SVault SH) (h : Stm Has SH w B x FV a c mb P m size st) : ∀ k, smF FV a mb k → B ≤ k ∧ k < w.heap.size := by
  rintro k (z | ⟨z, e, rfl⟩ | z)
  · exact h.vault.own H S k z
  · exact ⟨(h.rowB z e).1, (h.rowB z e).2.1⟩
  · exact ⟨(h.mapB k z).1, (h.mapB k z).2.1⟩
theorem Stm.chg (H : More Has) (S : SVault SH) (h : Stm Has SH w B x FV a c mb P m size st) (hc : Chg A w w') (hn : ∀ k, smF FV a mb k → ¬ A k) : Stm Has SH w' B x FV a c mb P m size st := by
  obtain ⟨hx, _, hl, _⟩ := h.vault.blk
  have hx' := hn x (.inl hx)
  have e : ∀ j, w'.cell? ⟨x, j, none⟩ = w.cell? ⟨x, j, none⟩ := fun j => hc.cell (p := ⟨x, j, none⟩) hl hx'
  exact ⟨h.vault.chg H S hc (fun k hk => hn k (.inl hk)), pb_same h.plan hc.size (fun j _ => e j), (e 14).trans h.ids, sls_chg h.row hc (fun z hz => hn _ (.inr (.inl ⟨z, hz, rfl⟩))), fun z hz => ⟨(h.rowB z hz).1, Nat.lt_of_lt_of_le (h.rowB z hz).2.1 hc.size, (h.rowB z hz).2.2⟩, h.cap, h.map.chg hc (fun b hb => hn b (.inr (.inr hb))), fun b hb => ⟨(h.mapB b hb).1, Nat.lt_of_lt_of_le (h.mapB b hb).2.1 hc.size, (h.mapB b hb).2.2⟩, h.lasts, h.few, h.small⟩
theorem Stm.below (H : More Has) (S : SVault SH) (h : Stm Has SH w B x FV a c mb P m size st) (hb : Below w.heap.size w w') : Stm Has SH w' B x FV a c mb P m size st := h.chg H S (A := fun _ => False) (Chg.of_below hb) (fun _ _ z => z)
/-- the vault is changed -/
theorem Stm.did (h : Stm Has SH w B x FV a c mb P m size st) (hl : st.s.last ≤ s'.last) (hd : DidO Has SH 10 w w' B x FV m size es' s') : ∃ FV', Stm Has SH w' B x FV' a c mb P m size ⟨es', s', st.ids⟩ ∧ Chg FV w w' ∧ ∀ k, FV' k → FV k ∨ w.heap.size ≤ k := by
  obtain ⟨⟨FV', k1, hc, ho⟩, hs⟩ := hd
  refine ⟨FV', ⟨k1, pb_same h.plan hc.size (fun j hj => hs j (.inl hj)), (hs 14 (.inr (by omega))).trans h.ids, sls_chg h.row hc (fun z hz => (h.rowB z hz).2.2), fun z hz => ⟨(h.rowB z hz).1, Nat.lt_of_lt_of_le (h.rowB z hz).2.1 hc.size, fun y => ?_⟩, h.cap, h.map.chg hc (fun b hb => (h.mapB b hb).2.2.1), fun b hb => ⟨(h.mapB b hb).1, Nat.lt_of_lt_of_le (h.mapB b hb).2.1 hc.size, fun y => ?_, (h.mapB b hb).2.2.2⟩, h.lasts, Int.le_trans h.few hl, h.small⟩, hc, ho⟩
  · rcases ho _ y with u | u
    · exact (h.rowB z hz).2.2 u
    · have := (h.rowB z hz).2.1; omega
  · rcases ho _ y with u | u
    · exact (h.mapB b hb).2.2.1 u
    · have := (h.mapB b hb).2.1; omega
/-- the map's cell is written -/
theorem Stm.put (H : More Has) (S : SVault SH) (h : Stm Has SH w B x FV a c mb P m size st) {mb' : Option Nat} {ids' : List Kn} (hm : KMap w mb' (mids P ids')) (hb : ∀ b, mb' = some b → B ≤ b ∧ b < w.heap.size ∧ ¬ FV b ∧ ∀ z, a = some z → z.block ≠ b) (hL : Lasts (mids P ids')) (hf : (ids'.length : Int) ≤ st.s.last) : Stm Has SH (w.setCell ⟨x, 14, none⟩ (.map mb')) B x FV a c mb' P m size ⟨st.es, st.s, ids'⟩ := by
  obtain ⟨hx, _, hl, _⟩ := h.vault.blk
  have cs : Chg (fun k => k = x) w (w.setCell ⟨x, 14, none⟩ (.map mb')) := (Chg.refl _ _).setCell (A := fun k => k = x) (p := ⟨x, 14, none⟩) (.inl rfl) _
  exact ⟨h.vault.beside H S (.inr (by omega)) _, pb_same h.plan cs.size (fun j hj => World.cell?_setCell_other _ _ _ _ (by simp <;> omega)), World.cell?_setCell_same _ _ _ h.ids, sls_chg h.row cs (fun z hz y => (h.rowB z hz).2.2 (y ▸ hx)), fun z hz => ⟨(h.rowB z hz).1, Nat.lt_of_lt_of_le (h.rowB z hz).2.1 cs.size, (h.rowB z hz).2.2⟩, h.cap, hm.chg cs (fun b hb' y => (hb b hb').2.2.1 (y ▸ hx)), fun b hb' => ⟨(hb b hb').1, Nat.lt_of_lt_of_le (hb b hb').2.1 cs.size, (hb b hb').2.2⟩, hL, hf, h.small⟩
end
/-- the program's stream -/
def RHof (Has : World → Nat → Nat → (Nat → Prop) → Int → List Pap → Prop) (SH : World → Nat → Nat → (Nat → Prop) → Sto → Prop) (w : World) (B x : Nat) (F : Nat → Prop) (P : Pn.Pln) (m size : Int) (st : Str) : Prop := ∃ FV a c mb, Stm Has SH w B x FV a c mb P m size st ∧ ∀ k, F k ↔ smF FV a mb k
/-- a stream on its way from w to wr; F0 are the blocks that were its own at w; the blocks Cs are none of its own -/
def Rst (Has : World → Nat → Nat → (Nat → Prop) → Int → List Pap → Prop) (SH : World → Nat → Nat → (Nat → Prop) → Sto → Prop) (F0 Cs : Nat → Prop) (w wr : World) (B x : Nat) (a : Option Addr) (c : Nat) (mb : Option Nat) (P : Pn.Pln) (m size : Int) (st : Str) : Prop :=
  ∃ FV, Stm Has SH wr B x FV a c mb P m size st ∧ Chg F0 w wr ∧ (∀ k, smF FV a mb k → F0 k ∨ w.heap.size ≤ k) ∧ ∀ k, Cs k → k < wr.heap.size ∧ ¬ smF FV a mb k
section
variable {Has : World → Nat → Nat → (Nat → Prop) → Int → List Pap → Prop} {SH : World → Nat → Nat → (Nat → Prop) → Sto → Prop} {F F0 Cs Cs' : Nat → Prop} {w wr w' : World} {B x : Nat} {a : Option Addr} {c : Nat} {mb : Option Nat} {P : Pn.Pln} {m size : Int} {st : Str} {es' : List Pap} {s' : Sto}
theorem RHof.begin (h : RHof Has SH w B x F P m size st) : ∃ a c mb, Rst Has SH F (fun _ => False) w w B x a c mb P m size st ∧ ∀ Cs wr mb' st', Rst Has SH F Cs w wr B x a c mb' P m size st' → DidR (RHof Has SH) w wr B x F P m size st' := by
  obtain ⟨FV, a, c, mb, h1, h2⟩ := h
  refine ⟨a, c, mb, ⟨FV, h1, Chg.refl _ _, fun k z => .inl ((h2 k).2 z), fun _ z => z.elim⟩, fun Cs wr mb' st' hr => ?_⟩
  obtain ⟨FV', r1, r2, r3, _⟩ := hr
  exact ⟨_, ⟨FV', a, c, mb', r1, fun k => Iff.rfl⟩, r2, r3⟩
theorem Rst.room (h : Rst Has SH F0 Cs w wr B x a c mb P m size st) : w.heap.size ≤ wr.heap.size := by
  obtain ⟨_, _, h2, _⟩ := h
  exact h2.size
theorem Rst.plan (h : Rst Has SH F0 Cs w wr B x a c mb P m size st) : PBx wr x P a c := by
  obtain ⟨_, h1, _⟩ := h
  exact h1.plan
theorem Rst.lt (h : Rst Has SH F0 Cs w wr B x a c mb P m size st) : x < wr.heap.size := h.plan.lt
theorem Rst.ids (h : Rst Has SH F0 Cs w wr B x a c mb P m size st) : wr.cell? ⟨x, 14, none⟩ = some (.map mb) ∧ wr.frozen? ⟨x, 14, none⟩ = false := by
  obtain ⟨_, h1, _⟩ := h
  exact ⟨h1.ids, h1.vault.blk.2.2.2 14⟩
theorem Rst.mine (H : More Has) (S : SVault SH) (h : Rst Has SH F0 Cs w wr B x a c mb P m size st) (hb : Below wr.heap.size wr w') (hn : ∀ k, Cs' k → Cs k ∨ wr.heap.size ≤ k ∧ k < w'.heap.size) : Rst Has SH F0 Cs' w w' B x a c mb P m size st := by
  obtain ⟨FV, h1, h2, h3, h4⟩ := h
  refine ⟨FV, h1.below H S hb, h2.trans (Chg.of_below hb), h3, fun k hk => ?_⟩
  rcases hn k hk with y | y
  · exact ⟨Nat.lt_of_lt_of_le (h4 k y).1 hb.size, (h4 k y).2⟩
  · exact ⟨y.2, fun z => by have := (h1.own H S k z).2; omega⟩
theorem Rst.below (H : More Has) (S : SVault SH) (h : Rst Has SH F0 Cs w wr B x a c mb P m size st) (hb : Below wr.heap.size wr w') : Rst Has SH F0 Cs w w' B x a c mb P m size st := h.mine H S hb (fun _ z => .inl z)
theorem Rst.stay (h : Rst Has SH F0 Cs w wr B x a c mb P m size st) (hb : Below wr.heap.size wr w') : Stay Cs wr w' := by
  obtain ⟨FV, _, _, _, h4⟩ := h
  exact ⟨hb.size, fun k hk => hb.block k (h4 k hk).1⟩
/-- a call on the vault -/
theorem Rst.did (h : Rst Has SH F0 Cs w wr B x a c mb P m size st) (hl : st.s.last ≤ s'.last) {fn : FuncId} {args : Array Value} {Q : Ending → World → Prop}
    (hc : ∀ FV, VHof Has SH 10 wr B x FV m size st.es st.s → Calls Tryz.prog fn args wr fun e w' => Q e w' ∧ DidO Has SH 10 wr w' B x FV m size es' s') :
    Calls Tryz.prog fn args wr fun e w' => Q e w' ∧ Rst Has SH F0 Cs w w' B x a c mb P m size ⟨es', s', st.ids⟩ ∧ Stay Cs wr w' := by
  have hr := h.room
  obtain ⟨FV, h1, h2, h3, h4⟩ := h
  refine (hc FV h1.vault).mono ?_
  rintro e w' ⟨hq, hu⟩
  obtain ⟨FV', a1, a2, a3⟩ := h1.did hl hu
  refine ⟨hq, ⟨FV', a1, chg_more h2 a2 (fun i hi z => ?_), fun k hk => ?_, fun k hk => ⟨Nat.lt_of_lt_of_le (h4 k hk).1 a2.size, fun z => ?_⟩⟩, a2.size, fun k hk => a2.block k (h4 k hk).1 (fun z => (h4 k hk).2 (.inl z))⟩
  · rcases h3 i (.inl z) with y | y
    · exact y
    · omega
  · rcases hk with z | z
    · rcases a3 k z with y | y
      · exact h3 k (.inl y)
      · exact .inr (Nat.le_trans hr y)
    · exact h3 k (.inr z)
  · rcases z with z | z
    · rcases a3 k z with y | y
      · exact (h4 k hk).2 (.inl y)
      · have := (h4 k hk).1; omega
    · exact (h4 k hk).2 (.inr z)
/-- a call that looks at the vault -/
theorem Rst.look (h : Rst Has SH F0 Cs w wr B x a c mb P m size st) : ∃ FV, VHof Has SH 10 wr B x FV m size st.es st.s := by
  obtain ⟨FV, h1, _⟩ := h
  exact ⟨FV, h1.vault⟩
end
end Go.Proofs.YtmccpkpeimejhahGreatDoor.Dk

namespace Go.Proofs.YtmccpkpeimejhahGreatDoor.Dk
open Go.RowKit

/-- the six cells of a post in block b -/
structure PoB (w : World) (b : Nat) (x : Po) : Prop where
  lt : b < w.heap.size
  c0 : w.cell? ⟨b, 0, none⟩ = some (.string x.s)
  c1 : w.cell? ⟨b, 1, none⟩ = some (.string x.i)
  c2 : w.cell? ⟨b, 2, none⟩ = some (.string x.h)
  c3 : w.cell? ⟨b, 3, none⟩ = some (.string x.d)
  c4 : w.cell? ⟨b, 4, none⟩ = some (.int .i64 x.x)
  c5 : w.cell? ⟨b, 5, none⟩ = some (.int .i64 x.ro)
abbrev poO (x : Po) : Obj := .cells #[.string x.s, .string x.i, .string x.h, .string x.d, .int .i64 x.x, .int .i64 x.ro] 27
theorem PoB.new (w : World) (x : Po) : PoB (w.alloc (poO x)) w.heap.size x := ⟨by simp, by simp, by simp, by simp, by simp, by simp, by simp⟩
theorem PoB.same {w w' : World} {b : Nat} {x : Po} (h : PoB w b x) (hs : w.heap.size ≤ w'.heap.size) (hb : w'.heap[b]? = w.heap[b]?) : PoB w' b x := by
  have e : ∀ j, w'.cell? ⟨b, j, none⟩ = w.cell? ⟨b, j, none⟩ := fun j => World.cell?_of_block (w := w) (a := ⟨b, j, none⟩) hb
  exact ⟨Nat.lt_of_lt_of_le h.lt hs, by rw [e]; exact h.c0, by rw [e]; exact h.c1, by rw [e]; exact h.c2, by rw [e]; exact h.c3, by rw [e]; exact h.c4, by rw [e]; exact h.c5⟩
theorem PoB.below {w w' : World} {b : Nat} {x : Po} (h : PoB w b x) (hb : Below w.heap.size w w') : PoB w' b x := h.same hb.size (hb.block b h.lt)
theorem PoB.stay {Cs : Nat → Prop} {w w' : World} {b : Nat} {x : Po} (h : PoB w b x) (hs : Stay Cs w w') (hb : Cs b) : PoB w' b x := h.same hs.1 (hs.2 b hb)
end Go.Proofs.YtmccpkpeimejhahGreatDoor.Dk
