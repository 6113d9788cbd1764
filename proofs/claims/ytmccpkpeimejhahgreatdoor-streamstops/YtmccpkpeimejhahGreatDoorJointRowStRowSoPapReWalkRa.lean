/-
  Steps of a stream: a row of them in memory; a list of them that is handed in, opened. No walk.
  A post that is handed in by value, opened. No walk.
  A stream, pure: a small one, three posts. No program.
  Contracts of rillkeep.post, small and published, over what is asked of the program's stream.
-/
import Derived.Test.YtmccpkpeimejhahGreatDoorJointOsTOsWRowPfRowR
import Derived.Test.YtmccpkpeimejhahGreatDoorJointRowPvWorksROsROsP
import Derived.SizedLaws
import Derived.Test.YtmccpkpeimejhahGreatDoorJointOv1Ov3Ov5PapRd
import Derived.Test.YtmccpkpeimejhahGreatDoorJointOsQRowPtRowPuOsN
import Derived.Test.YtmccpkpeimejhahGreatDoorJointRowZRowPrWalkY3PapPd
import Derived.Laws.Rows
namespace Go.Proofs.YtmccpkpeimejhahGreatDoor.Dk
open Go.Joins Go.Deep Go.WideShapes Go.ChangeShapes Go.ChangeAt Go.RowKit

/-- a step: its kind, its time, a number, a post, a filter -/
structure Stp where
  k : Int
  now : Int
  n : Int
  x : Po
  f : ByteArray
def noStp : Stp := ⟨0, 0, 0, ⟨ByteArray.empty, ByteArray.empty, ByteArray.empty, ByteArray.empty, 0, 0⟩, ByteArray.empty⟩
def spt (l : List Stp) (k : Nat) : Stp := l[k]?.getD noStp
/-- a step's ten cells -/
structure Ten (w : World) (b o : Nat) (c : Stp) : Prop where
  lt : b < w.heap.size
  c0 : w.cell? ⟨b, o, none⟩ = some (.int .i64 c.k)
  c1 : w.cell? ⟨b, o + 1, none⟩ = some (.int .i64 c.now)
  c2 : w.cell? ⟨b, o + 2, none⟩ = some (.int .i64 c.n)
  c3 : w.cell? ⟨b, o + 3, none⟩ = some (.string c.x.s)
  c4 : w.cell? ⟨b, o + 4, none⟩ = some (.string c.x.i)
  c5 : w.cell? ⟨b, o + 5, none⟩ = some (.string c.x.h)
  c6 : w.cell? ⟨b, o + 6, none⟩ = some (.string c.x.d)
  c7 : w.cell? ⟨b, o + 7, none⟩ = some (.int .i64 c.x.x)
  c8 : w.cell? ⟨b, o + 8, none⟩ = some (.int .i64 c.x.ro)
  c9 : w.cell? ⟨b, o + 9, none⟩ = some (.string c.f)
theorem Ten.keep {w w' : World} {b o : Nat} {c : Stp} (h : Ten w b o c) (hs : w.heap.size ≤ w'.heap.size) (hb : w'.heap[b]? = w.heap[b]?) : Ten w' b o c := by
  have e : ∀ j, w'.cell? ⟨b, j, none⟩ = w.cell? ⟨b, j, none⟩ := fun j => World.cell?_of_block (w := w) (a := ⟨b, j, none⟩) hb
  exact ⟨Nat.lt_of_lt_of_le h.lt hs, by rw [e]; exact h.c0, by rw [e]; exact h.c1, by rw [e]; exact h.c2, by rw [e]; exact h.c3, by rw [e]; exact h.c4, by rw [e]; exact h.c5, by rw [e]; exact h.c6, by rw [e]; exact h.c7, by rw [e]; exact h.c8, by rw [e]; exact h.c9⟩
/-- the steps that a slice shows -/
def SlP (w : World) (a : Option Addr) (l : List Stp) : Prop := ∀ k, k < l.length → ∃ b o, a = some ⟨b, o, none⟩ ∧ Ten w b (o + k * 10) (spt l k)
theorem SlP.next {w w' : World} {a : Option Addr} {l : List Stp} (h : SlP w a l) (hb : Below w.heap.size w w') : SlP w' a l := fun k hk => by
  obtain ⟨b, o, e, h2⟩ := h k hk
  exact ⟨b, o, e, h2.keep hb.size (hb.block b h2.lt)⟩
theorem SlP.from {B : Nat} {w w' : World} {a : Option Addr} {l : List Stp} (h : SlP w a l) (hb : Below B w w') (hB : w.heap.size ≤ B) : SlP w' a l := fun k hk => by
  obtain ⟨b, o, e, h2⟩ := h k hk
  exact ⟨b, o, e, h2.keep hb.size (hb.block b (Nat.lt_of_lt_of_le h2.lt hB))⟩
theorem SlP.stay {Cs : Nat → Prop} {w w' : World} {a : Option Addr} {l : List Stp} (h : SlP w a l) (hs : Stay Cs w w') (hn : ∀ z, a = some z → Cs z.block) : SlP w' a l := fun k hk => by
  obtain ⟨b, o, e, h2⟩ := h k hk
  exact ⟨b, o, e, h2.keep hs.1 (hs.2 b (hn _ e))⟩
/-- a step that isn't too great for any machine -/
structure SmallT (c : Stp) : Prop where
  x : SmallO c.x
  f : c.f.size ≤ 140737488355328
section
variable {H : Type} {enc : TypeId × Value → H} {P : Program} {w : World} {base : Nat} {spare : Nat → Bool} {held : Bool}
theorem trod_struct5 {t : TypeId} {f0 f1 f2 f3 f4 : Field} {fuel : Nat} {cs : List Value} {x : DataW H × List MemPlace} (ht : P.underlying t = some (.struct #[f0, f1, f2, f3, f4])) (h : DataW.trod enc P w base spare held fuel t cs = some x) :
    ∃ y0 y1 y2 y3 y4 n, x = (.agg [y0.1, y1.1, y2.1, y3.1, y4.1], y0.2 ++ (y1.2 ++ (y2.2 ++ (y3.2 ++ y4.2)))) ∧ DataW.trod enc P w base spare held n f0.type ((cs.drop f0.offset).take (P.cellsOf f0.type)) = some y0 ∧
      DataW.trod enc P w base spare held n f1.type ((cs.drop f1.offset).take (P.cellsOf f1.type)) = some y1 ∧ DataW.trod enc P w base spare held n f2.type ((cs.drop f2.offset).take (P.cellsOf f2.type)) = some y2 ∧
      DataW.trod enc P w base spare held n f3.type ((cs.drop f3.offset).take (P.cellsOf f3.type)) = some y3 ∧ DataW.trod enc P w base spare held n f4.type ((cs.drop f4.offset).take (P.cellsOf f4.type)) = some y4 := by
  obtain ⟨xs, n, _, rfl, hl, hlen, hf⟩ := DataW.trod_struct ht h
  match xs, hlen with
  | [y0, y1, y2, y3, y4], _ => exact ⟨y0, y1, y2, y3, y4, n, by simp, by simpa using hf 0 f0 rfl, by simpa using hf 1 f1 rfl, by simpa using hf 2 f2 rfl, by simpa using hf 3 f3 rfl, by simpa using hf 4 f4 rfl⟩
end
theorem cellsT : Tryz.prog.cellsOf 34 = 10 := by kernel_rfl
theorem cellsO : Tryz.prog.cellsOf 27 = 6 := by kernel_rfl
theorem cellsI1 : Tryz.prog.cellsOf 3 = 1 := by kernel_rfl
theorem spt_range (C : Nat → Stp) {n k : Nat} (h : k < n) : spt ((List.range n).map C) k = C k := by unfold spt; simp [h]

set_option maxRecDepth 100000 in
set_option maxHeartbeats 1000000 in
/-- what a list of steps that is handed in is -/
theorem open_steps {H : Type} {enc : TypeId × Value → H} {W : World} {base : Nat} {v : Value} {d : DataW H} {pl : List MemPlace} (hv : Value.okWide Tryz.prog W .any base 25 v) (h : DataW.Trod enc Tryz.prog W 0 (fun _ => true) true 25 v d pl) (hw : ∀ x ∈ DataW.weights Tryz.prog 25 d, x ≤ reachBytes) :
    ∃ (a : Option Addr) (l : List Stp) (c : Nat), v = .slice a l.length c ∧ SlP W a l ∧ ∀ k, k < l.length → SmallT (spt l k) := by
  obtain ⟨aR, lenR, capR, rfl⟩ := okWide_slice Tryz.underlying25 hv
  obtain ⟨fuelR, hfR⟩ := h
  obtain ⟨C, hC⟩ : ∃ C : Nat → Stp, ∀ i, i < lenR → ∃ b o, aR = some ⟨b, o, none⟩ ∧ Ten W b (o + i * 10) (C i) ∧ SmallT (C i) := by
    rcases open_slice Tryz.underlying25 hfR with ⟨hcs, hx⟩ | ⟨a, len', cap', m, n, D, Pl, hcs, hb, hl, hm, hmm, hx, hel⟩
    · simp [Value.cells] at hcs
      obtain ⟨rfl, rfl, rfl⟩ := hcs
      exact ⟨fun _ => noStp, fun i hi => absurd hi (Nat.not_lt_zero i)⟩
    · simp [Value.cells] at hcs
      obtain ⟨rfl, rfl, rfl⟩ := hcs
      simp only [Prod.mk.injEq] at hx
      obtain ⟨rfl, rfl⟩ := hx
      have hlm : lenR ≤ m := by rw [hmm]; split <;> omega
      have hI : Inhabited Stp := ⟨noStp⟩
      refine choose_lt (p := fun i (c : Stp) => ∃ b o, some a = some ⟨b, o, none⟩ ∧ Ten W b (o + i * 10) c ∧ SmallT c) (fun i hi => ?_)
      obtain ⟨cs', h1, h2⟩ := hel i (by omega)
      rw [cellsT] at h1
      obtain ⟨_, hlen, hcell⟩ := World.cells?_some h1
      obtain ⟨x0, x1, x2, x3, x4, n'', hxy, t0, t1, t2, t3, t4⟩ := trod_struct5 Tryz.underlying34 h2
      match cs', hlen with
      | [q0, q1, q2, q3, q4, q5, q6, q7, q8, q9], _ =>
        simp only [cellsI1, cellsS1, cellsO, List.drop_zero, List.drop_succ_cons, List.take_succ_cons, List.take_zero] at t0 t1 t2 t3 t4
        obtain ⟨z0, z1, z2, z3, z4, z5, n3, hxz, s0, s1, s2, s3, s4, s5⟩ := trod_struct6 Tryz.underlying27 t3
        simp only [cellsI1, cellsS1, List.drop_zero, List.drop_succ_cons, List.take_succ_cons, List.take_zero] at s0 s1 s2 s3 s4 s5
        obtain ⟨k0, e0, g0, _⟩ := DataW.trod_int Tryz.underlying3 t0
        obtain ⟨k1, e1, g1, _⟩ := DataW.trod_int Tryz.underlying3 t1
        obtain ⟨k2, e2, g2, _⟩ := DataW.trod_int Tryz.underlying3 t2
        obtain ⟨k3, e3, g3, _⟩ := DataW.trod_string Tryz.underlying9 s0
        obtain ⟨k4, e4, g4, _⟩ := DataW.trod_string Tryz.underlying9 s1
        obtain ⟨k5, e5, g5, _⟩ := DataW.trod_string Tryz.underlying9 s2
        obtain ⟨k6, e6, g6, _⟩ := DataW.trod_string Tryz.underlying9 s3
        obtain ⟨k7, e7, g7, _⟩ := DataW.trod_int Tryz.underlying3 s4
        obtain ⟨k8, e8, g8, _⟩ := DataW.trod_int Tryz.underlying3 s5
        obtain ⟨k9, e9, g9, _⟩ := DataW.trod_string Tryz.underlying9 t4
        simp only [List.cons.injEq, and_true] at e0 e1 e2 e3 e4 e5 e6 e7 e8 e9
        subst e0 e1 e2 e3 e4 e5 e6 e7 e8 e9
        obtain ⟨bm, om, spot⟩ := a
        have f0 := hcell 0 (by omega)
        have f1 := hcell 1 (by omega)
        have f2 := hcell 2 (by omega)
        have f3 := hcell 3 (by omega)
        have f4 := hcell 4 (by omega)
        have f5 := hcell 5 (by omega)
        have f6 := hcell 6 (by omega)
        have f7 := hcell 7 (by omega)
        have f8 := hcell 8 (by omega)
        have f9 := hcell 9 (by omega)
        rw [add_add] at f0 f1 f2 f3 f4 f5 f6 f7 f8 f9
        obtain ⟨cs0, y1, _⟩ := hel 0 (by omega)
        rw [cellsT] at y1
        obtain ⟨_, yl, yc⟩ := World.cells?_some y1
        have y := yc 0 (by omega)
        rw [List.getElem?_eq_getElem (by omega)] at y
        have hspot : spot = none := by simpa [Addr.add] using World.cell?_spot y
        subst hspot
        simp only [add_plain] at f0 f1 f2 f3 f4 f5 f6 f7 f8 f9
        have hD : D i = .agg [.lit (.int .i64 k0), .lit (.int .i64 k1), .lit (.int .i64 k2), .agg [.lit (.string k3.data.toList), .lit (.string k4.data.toList), .lit (.string k5.data.toList), .lit (.string k6.data.toList), .lit (.int .i64 k7), .lit (.int .i64 k8)], .lit (.string k9.data.toList)] := by
          simp only [Prod.mk.injEq] at hxy hxz
          rw [hxy.1, hxz, g0, g1, g2, g3, g4, g5, g6, g7, g8, g9]
        have hmem : ∀ x, x ∈ [k3.data.toList.length, k4.data.toList.length, k5.data.toList.length, k6.data.toList.length, k9.data.toList.length] → x ∈ DataW.weights Tryz.prog 25 (DataW.slice ((List.range lenR).map D) ((List.range (m - lenR)).map fun j => D (lenR + j))) := by
          intro x hx
          simp only [DataW.weights, Tryz.underlying25, List.mem_cons, List.mem_append]
          refine .inr (.inl (weights_in (d := D i) ?_ (List.mem_map.2 ⟨i, List.mem_range.2 hi, rfl⟩)))
          rw [hD]
          simp [DataW.weights, DataW.weightsEach, Tryz.underlying34, Tryz.underlying27]
          simp at hx
          omega
        have hall : ∀ x, x ∈ [k3.data.toList.length, k4.data.toList.length, k5.data.toList.length, k6.data.toList.length, k9.data.toList.length] → x ≤ 140737488355328 := fun x hx => by
          have hle := hw x (hmem x hx)
          unfold reachBytes at hle
          omega
        have el : ∀ y : ByteArray, y.data.toList.length = y.size := fun y => by simp
        simp only [el] at hall
        refine ⟨⟨k0, k1, k2, ⟨k3, k4, k5, k6, k7, k8⟩, k9⟩, bm, om, rfl, ⟨World.block_lt_of_cell? _ _ f0, by simpa using f0, f1, f2, f3, f4, f5, f6, f7, f8, f9⟩, ⟨hall _ (by simp), hall _ (by simp), hall _ (by simp), hall _ (by simp)⟩, hall _ (by simp)⟩
  refine ⟨aR, (List.range lenR).map C, capR, by simp, fun k hk => ?_, fun k hk => ?_⟩
  · have hk' : k < lenR := by simpa using hk
    obtain ⟨b, o, e, h2, _⟩ := hC k hk'
    exact ⟨b, o, e, by rw [spt_range C hk']; exact h2⟩
  · have hk' : k < lenR := by simpa using hk
    obtain ⟨b, o, e, _, h3⟩ := hC k hk'
    rw [spt_range C hk']
    exact h3
end Go.Proofs.YtmccpkpeimejhahGreatDoor.Dk

namespace Go.Proofs.YtmccpkpeimejhahGreatDoor.Dk
open Go.Joins Go.Deep Go.WideShapes Go.ChangeShapes Go.ChangeAt Go.RowKit

set_option maxRecDepth 100000 in
/-- what a post that is handed in is -/
theorem open_post {H : Type} {enc : TypeId × Value → H} {W : World} {base : Nat} {v : Value} {d : DataW H} {pl : List MemPlace} (hv : Value.okWide Tryz.prog W .any base 27 v) (h : DataW.Trod enc Tryz.prog W 0 (fun _ => true) true 27 v d pl) (hw : ∀ x ∈ DataW.weights Tryz.prog 27 d, x ≤ reachBytes) : ∃ x : Po, v = poV x ∧ SmallO x := by
  obtain ⟨u0, u1, u2, u3, u4, u5, y0, y1, y2, y3, y4, y5, m, rfl, hd, _, g0, g1, g2, g3, g4, g5⟩ := open_agg6 Tryz.underlying27 (by kernel_rfl) cellsO hv h
  obtain ⟨s0, e0, q0, _⟩ := DataW.trod_string Tryz.underlying9 g0
  obtain ⟨s1, e1, q1, _⟩ := DataW.trod_string Tryz.underlying9 g1
  obtain ⟨s2, e2, q2, _⟩ := DataW.trod_string Tryz.underlying9 g2
  obtain ⟨s3, e3, q3, _⟩ := DataW.trod_string Tryz.underlying9 g3
  obtain ⟨x4, e4, q4, _⟩ := DataW.trod_int Tryz.underlying3 g4
  obtain ⟨x5, e5, q5, _⟩ := DataW.trod_int Tryz.underlying3 g5
  simp only [List.cons.injEq, and_true] at e0 e1 e2 e3 e4 e5
  subst e0 e1 e2 e3 e4 e5
  have hall : ∀ x, x ∈ [s0.data.toList.length, s1.data.toList.length, s2.data.toList.length, s3.data.toList.length] → x ≤ 140737488355328 := fun x hx => by
    have hle := hw x (by
      rw [hd, q0, q1, q2, q3]
      simp [DataW.weights, DataW.weightsEach, Tryz.underlying27]
      simp at hx
      omega)
    unfold reachBytes at hle
    omega
  have el : ∀ y : ByteArray, y.data.toList.length = y.size := fun y => by simp
  simp only [el] at hall
  exact ⟨⟨s0, s1, s2, s3, x4, x5⟩, rfl, hall _ (by simp), hall _ (by simp), hall _ (by simp), hall _ (by simp)⟩
end Go.Proofs.YtmccpkpeimejhahGreatDoor.Dk

namespace Go.Proofs.YtmccpkpeimejhahGreatDoor.Dk
open Go

def P0 : Pn.Pln := ⟨⟨#[115]⟩, [⟨#[97, 46, 62]⟩], [2, 0, 0, 0, 0, 0, 0, 0]⟩
def x0 : Po := ⟨⟨#[97, 46, 98]⟩, ⟨#[]⟩, ⟨#[]⟩, ⟨#[100]⟩, -1, 0⟩
theorem P0_ok : Pn.planE P0 = 0 := by decide +kernel
def pub1 : Str := (pubP P0 1000 100 5 x0 ⟨[], ⟨[], 0⟩, []⟩).2
def pub2 : Str := (pubP P0 1000 100 5 x0 pub1).2
def pub3 : Str := (pubP P0 1000 100 5 x0 pub2).2
theorem three_sums : (pub3.s.l.length : Int) = 2 ∧ (byteN pub3.s.l : Int) = 8 ∧ firstQ pub3.s.l = 2 ∧ pub3.s.last = 3 := by decide +kernel
/-- how far the last number gets in a few posts -/
theorem pub_last {p : Pn.Pln} {m size now : Int} {x : Po} {st : Str} : st.s.last ≤ (pubP p m size now x st).2.s.last ∧ (pubP p m size now x st).2.s.last ≤ st.s.last + 1 := by
  unfold pubP
  split
  · exact ⟨Int.le_refl _, by show st.s.last ≤ st.s.last + 1; omega⟩
  · split
    · exact ⟨Int.le_refl _, by show st.s.last ≤ st.s.last + 1; omega⟩
    · split
      · exact ⟨Int.le_refl _, by show st.s.last ≤ st.s.last + 1; omega⟩
      · have hl := (roomE_sub (p := p) (m := m) (size := size) (now := now) (x := x) (es := st.es) (s := st.s)).2
        split
        · exact ⟨by show st.s.last ≤ (roomE p m size now x st.es st.s).2.2.last; omega, by show (roomE p m size now x st.es st.s).2.2.last ≤ _; omega⟩
        · generalize (roomE p m size now x st.es st.s).2.1 = es at *
          generalize (roomE p m size now x st.es st.s).2.2 = s at *
          unfold putP
          by_cases e : doE es s m size (msgR (s.last + 1) now x) = 0
          · rw [if_neg (by rw [e]; simp)]
            have h1 : (doS es s m size (msgR (s.last + 1) now x)).last = s.last + 1 := by rw [msg_did e]
            split
            · exact ⟨by show st.s.last ≤ (doS es s m size (msgR (s.last + 1) now x)).last; omega, by show (doS es s m size (msgR (s.last + 1) now x)).last ≤ _; omega⟩
            · split
              · exact ⟨by show st.s.last ≤ (doS es s m size (msgR (s.last + 1) now x)).last; omega, by show (doS es s m size (msgR (s.last + 1) now x)).last ≤ _; omega⟩
              · rename_i g
                have g := Classical.not_not.1 g
                have h2 : (doS (doL es s m size (msgR (s.last + 1) now x)) (doS es s m size (msgR (s.last + 1) now x)) m size (purR (s.last + 1) now (rollF x))).last = s.last + 1 := by rw [pur_did g]; exact h1
                exact ⟨by show st.s.last ≤ (doS (doL es s m size (msgR (s.last + 1) now x)) (doS es s m size (msgR (s.last + 1) now x)) m size (purR (s.last + 1) now (rollF x))).last; omega, by show (doS (doL es s m size (msgR (s.last + 1) now x)) (doS es s m size (msgR (s.last + 1) now x)) m size (purR (s.last + 1) now (rollF x))).last ≤ _; omega⟩
          · rw [if_pos e]
            exact ⟨by show st.s.last ≤ s.last; omega, by show s.last ≤ _; omega⟩
end Go.Proofs.YtmccpkpeimejhahGreatDoor.Dk

namespace Go.Proofs.YtmccpkpeimejhahGreatDoor.Dk
open Go.RowKit

/-- a post in a block -/
theorem load_post {w : World} {b o : Nat} {x : Po} (c0 : w.cell? ⟨b, o, none⟩ = some (.string x.s)) (c1 : w.cell? ⟨b, o + 1, none⟩ = some (.string x.i)) (c2 : w.cell? ⟨b, o + 2, none⟩ = some (.string x.h)) (c3 : w.cell? ⟨b, o + 3, none⟩ = some (.string x.d)) (c4 : w.cell? ⟨b, o + 4, none⟩ = some (.int .i64 x.x)) (c5 : w.cell? ⟨b, o + 5, none⟩ = some (.int .i64 x.ro)) :
    (loadVar 27 ⟨b, o, none⟩).run Tryz.prog w = .ok (poV x) w := by
  have hl : (loadCells ⟨b, o, none⟩ 6).run Tryz.prog w = .ok #[.string x.s, .string x.i, .string x.h, .string x.d, .int .i64 x.x, .int .i64 x.ro] w :=
    run_loadCells_list (P := Tryz.prog) w ⟨b, o, none⟩ [.string x.s, .string x.i, .string x.h, .string x.d, .int .i64 x.x, .int .i64 x.ro] (fun j v hv => by
      rw [addp]
      match j, hv with
      | 0, hv => rw [Nat.add_zero, c0]; simpa using hv
      | 1, hv => rw [c1]; simpa using hv
      | 2, hv => rw [c2]; simpa using hv
      | 3, hv => rw [c3]; simpa using hv
      | 4, hv => rw [c4]; simpa using hv
      | 5, hv => rw [c5]; simpa using hv)
  have hz : Tryz.t27.size = 6 := by kernel_rfl
  simp [loadVar, isAgg, sizeOf]
  rw [hz, hl]
  rfl
theorem results_post {fn : Func} {t : Tmp} {tmps : Array Value} {w : World} {b : Nat} {x : Po} (hf : fn.results = #[.cell t 27]) (ha : tmps.getD t undef = .pointer (some ⟨b, 0, none⟩)) (h : (loadVar 27 ⟨b, 0, none⟩).run Tryz.prog w = .ok (poV x) w) :
    (results fn tmps).run Tryz.prog w = .ok (poV x) w := by
  have ha' : tmps[t]?.getD undef = .pointer (some ⟨b, 0, none⟩) := by simpa using ha
  simp [results, hf, ha', asAddr, h]
theorem post_any (s : ByteArray) (w : World) :
    Calls Tryz.prog 15 #[.string s] w fun e w' => e = .returned (poV ⟨s, ⟨#[]⟩, ⟨#[]⟩, ⟨#[100]⟩, -1, 0⟩) ∧ Below w.heap.size w w' := by
  go_enter Tryz.func15, Tryz.ntmps15
  go_wp2_with fail
  refine bodyPost_ret (results_post rfl rfl (load_post (x := ⟨s, ⟨#[]⟩, ⟨#[]⟩, ⟨#[100]⟩, -1, 0⟩) (by simp) (by simp) (by simp) (by simp) (by simp) (by simp))) rfl ?_
  exact ⟨rfl, (Below.refl _ _).alloc (Nat.le_refl _) _⟩
theorem P0_small : SmallP P0 := ⟨by decide, fun k hk => by
  have : k = 0 := by simp [P0] at hk; omega
  subst this
  decide, by decide, rfl⟩
theorem x0_small : SmallO x0 := ⟨by decide, by decide, by decide, by decide⟩
section
variable {G : World → Prop} {RH : World → Nat → Nat → (Nat → Prop) → Pn.Pln → Int → Int → Str → Prop} {SH : World → Nat → Nat → (Nat → Prop) → Sto → Prop}
set_option maxRecDepth 100000 in
theorem small_any (hN : ∀ {w w' : World}, G w → Below w.heap.size w w' → G w') (V : RWorks G RH SH) (w : World) (hG : G w) :
    Calls Tryz.prog 14 #[] w fun e w' => ∃ wb p, e = .returned (.pointer (some ⟨p, 0, none⟩)) ∧ Below w.heap.size w wb ∧ Ray RH (fun _ => False) wb w' p P0 1000 100 noStr := by
  have b1 : Below w.heap.size w (w.alloc (.cells #[.string ⟨#[97, 46, 62]⟩] 9)) := (Below.refl _ _).alloc (Nat.le_refl _) _
  have hsl : SlS (w.alloc (.cells #[.string ⟨#[97, 46, 62]⟩] 9)) (some ⟨w.heap.size, 0, none⟩) P0.f := fun k hk => by
    have : k = 0 := by simp [P0] at hk; omega
    subst this
    exact ⟨w.heap.size, 0, rfl, by simp, by simp [P0, tk]⟩
  have PN := hide (Ray.new V (m := 1000) (size := 100) (w.alloc (.cells #[.string ⟨#[97, 46, 62]⟩] 9)) P0 (some ⟨w.heap.size, 0, none⟩) 1 P0_small hsl (by decide) (hN hG b1) P0_ok (by decide) (by decide))
  have HB := hide b1
  clear hsl b1
  go_enter Tryz.func14, Tryz.ntmps14
  go_wp2_with fail
  refine (unhide PN).mono ?_
  rintro e w2 ⟨p, rfl, r2⟩
  have HR := hide r2
  clear r2 PN
  go_wp2_with fail
  go_ret
  exact ⟨_, p, rfl, unhide HB, unhide HR⟩
/-- so many posts at a small stream -/
def pubN : Nat → Str
  | 0 => noStr
  | k + 1 => (pubP P0 1000 100 5 x0 (pubN k)).2
set_option maxRecDepth 100000 in
set_option maxHeartbeats 1000000 in
theorem published_any (hN : ∀ {w w' : World}, G w → Below w.heap.size w w' → G w') (V : RWorks G RH SH) (E : SSees SH) (w : World) (hG : G w) :
    Calls Tryz.prog 6 #[] w fun e w' => e = .returned (.bool true) ∧ Below w.heap.size w w' := by
  have PS := hide (small_any hN V w hG)
  clear hG
  go_enter Tryz.func6, Tryz.ntmps6
  go_wp2_with fail
  refine (unhide PS).mono ?_
  rintro e w1 ⟨wb, p, rfl, b1, r1⟩
  have HB := hide b1
  have HR : Hid (Ray RH (fun _ => False) wb w1 p P0 1000 100 (pubN 0)) := hide r1
  clear PS b1 r1
  go_wp2_with fail
  go_loopw [5] (fun iv wr => ∃ (i : Nat), iv = .int .i64 i ∧ i ≤ 3 ∧ Hid (Ray RH (fun _ => False) wb wr p P0 1000 100 (pubN i))) (fun iv _ => 3 - (intOf iv).toNat)
  case atStart => exact ⟨0, rfl, by omega, HR⟩
  case round =>
    clear HR
    obtain ⟨i, rfl, hi, HR⟩ := hrel
    by_cases hlt : i < 3
    · have P1 := hide (post_any ⟨#[97, 46, 98]⟩ wr)
      go_wp2_with fail
      refine (unhide P1).mono ?_
      rintro e w2 ⟨rfl, b2⟩
      have HR2 := hide ((unhide HR).below V b2)
      have P2 := hide ((unhide HR2).publish V 5 x0 x0_small)
      clear P1 b2 HR
      go_wp2_with fail
      refine (unhide P2).mono ?_
      rintro e w3 ⟨rfl, r3, _⟩
      have HR3 : Hid (Ray RH (fun _ => False) wb w3 p P0 1000 100 (pubN (i + 1))) := hide r3
      clear r3 P2 HR2
      go_wp2_with fail
      refine ⟨⟨i + 1, by go_num, by omega, HR3⟩, ?_⟩
      simp [intOf]; omega
    · obtain rfl : i = 3 := by omega
      have P1 := hide ((unhide HR).store V)
      go_wp2_with fail
      refine (unhide P1).mono ?_
      rintro e w2 ⟨q, F0, rfl, s2, b2⟩
      have HR2 := hide ((unhide HR).below V b2)
      have P2 := hide ((unhide HR2).store V)
      clear P1 s2 b2 HR
      go_wp2_with fail
      refine (unhide P2).mono ?_
      rintro e w3 ⟨q3, F3, rfl, s3, b3⟩
      have HR3 := hide ((unhide HR2).below V b3)
      obtain ⟨y1, y2, y3, y4⟩ := three_sums
      have P3 := hide (E.sums s3 (unhide HR3).fit.vok.ok (unhide HR3).room)
      rw [show (pubN 3).s = pub3.s from rfl, y1, y2, y3, y4] at P3
      clear P2 s3 b3 HR2
      go_wp2_with fail
      refine (unhide P3).mono ?_
      rintro e w4 ⟨rfl, b4⟩
      have B4 := hide (bstep (unhide HR3).bl b4)
      clear P3 b4 HR3
      go_wp2_with fail
      go_ret
      exact ⟨rfl, bstep (unhide HB) (unhide B4)⟩
end
end Go.Proofs.YtmccpkpeimejhahGreatDoor.Dk
