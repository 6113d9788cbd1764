/-
  A plan that is handed in by value: a struct of ten fields of one cell each, opened; its filters. No walk.
  Steps of a stream: a row of them in memory; a list of them that is handed in, opened. No walk.
  A post that is handed in by value, opened. No walk.
-/
import Derived.Lib.SmallJoins
import Derived.OpenShut
import Derived.SizedLaws
import Derived.Deep.Strs
import Derived.Test.YtohjipnkoiifhagGreatDoorJointPapPbPapPnRowPlRowPsPapPcRowPrPapPwPapSPapTPapVaRowVWorksV
import Derived.Test.YtohjipnkoiifhagGreatDoorJointRowTmPapFRowR
import Derived.Test.YtohjipnkoiifhagGreatDoorJointOvRWorksSPapRaPapRbPapRfPapRcRowPvWorksROsPPapRdRowPtRowPu
namespace Go.Proofs.YtohjipnkoiifhagGreatDoor
open Go.Joins Go.Deep Go.WideShapes Go.ChangeShapes Go.ChangeAt Go.RowKit

section
variable {H : Type} {enc : TypeId × Value → H} {P : Program} {w : World} {base : Nat} {spare : Nat → Bool} {held : Bool}

theorem array10 {α : Type} {cs : Array α} (h : cs.size = 10) : ∃ c0 c1 c2 c3 c4 c5 c6 c7 c8 c9, cs = #[c0, c1, c2, c3, c4, c5, c6, c7, c8, c9] := by
  obtain ⟨l⟩ := cs
  match l, h with
  | [c0, c1, c2, c3, c4, c5, c6, c7, c8, c9], _ => exact ⟨c0, c1, c2, c3, c4, c5, c6, c7, c8, c9, rfl⟩
theorem trod_struct10 {t : TypeId} {f0 f1 f2 f3 f4 f5 f6 f7 f8 f9 : Field} {fuel : Nat} {cs : List Value} {x : DataW H × List MemPlace} (ht : P.underlying t = some (.struct #[f0, f1, f2, f3, f4, f5, f6, f7, f8, f9])) (h : DataW.trod enc P w base spare held fuel t cs = some x) :
    ∃ y0 y1 y2 y3 y4 y5 y6 y7 y8 y9 n, x = (.agg [y0.1, y1.1, y2.1, y3.1, y4.1, y5.1, y6.1, y7.1, y8.1, y9.1], y0.2 ++ (y1.2 ++ (y2.2 ++ (y3.2 ++ (y4.2 ++ (y5.2 ++ (y6.2 ++ (y7.2 ++ (y8.2 ++ (y9.2)))))))))) ∧ DataW.trod enc P w base spare held n f0.type ((cs.drop f0.offset).take (P.cellsOf f0.type)) = some y0 ∧ DataW.trod enc P w base spare held n f1.type ((cs.drop f1.offset).take (P.cellsOf f1.type)) = some y1 ∧ DataW.trod enc P w base spare held n f2.type ((cs.drop f2.offset).take (P.cellsOf f2.type)) = some y2 ∧ DataW.trod enc P w base spare held n f3.type ((cs.drop f3.offset).take (P.cellsOf f3.type)) = some y3 ∧ DataW.trod enc P w base spare held n f4.type ((cs.drop f4.offset).take (P.cellsOf f4.type)) = some y4 ∧ DataW.trod enc P w base spare held n f5.type ((cs.drop f5.offset).take (P.cellsOf f5.type)) = some y5 ∧ DataW.trod enc P w base spare held n f6.type ((cs.drop f6.offset).take (P.cellsOf f6.type)) = some y6 ∧ DataW.trod enc P w base spare held n f7.type ((cs.drop f7.offset).take (P.cellsOf f7.type)) = some y7 ∧ DataW.trod enc P w base spare held n f8.type ((cs.drop f8.offset).take (P.cellsOf f8.type)) = some y8 ∧ DataW.trod enc P w base spare held n f9.type ((cs.drop f9.offset).take (P.cellsOf f9.type)) = some y9 := by
  obtain ⟨xs, n, _, rfl, hl, hlen, hf⟩ := DataW.trod_struct ht h
  match xs, hlen with
  | [y0, y1, y2, y3, y4, y5, y6, y7, y8, y9], _ => exact ⟨y0, y1, y2, y3, y4, y5, y6, y7, y8, y9, n, by simp, by simpa using hf 0 f0 rfl, by simpa using hf 1 f1 rfl, by simpa using hf 2 f2 rfl, by simpa using hf 3 f3 rfl, by simpa using hf 4 f4 rfl, by simpa using hf 5 f5 rfl, by simpa using hf 6 f6 rfl, by simpa using hf 7 f7 rfl, by simpa using hf 8 f8 rfl, by simpa using hf 9 f9 rfl⟩
theorem open_agg10 {r : Reach} {b0 : Nat} {t : TypeId} {f0 f1 f2 f3 f4 f5 f6 f7 f8 f9 : Field} {v : Value} {d : DataW H} {p : List MemPlace} (hs : P.underlying t = some (.struct #[f0, f1, f2, f3, f4, f5, f6, f7, f8, f9])) (hone : oneCellFields P #[f0, f1, f2, f3, f4, f5, f6, f7, f8, f9] = true) (hC : P.cellsOf t = 10)
    (hv : Value.okWide P w r b0 t v) (h : DataW.Trod enc P w base spare held t v d p) :
    ∃ (v0 v1 v2 v3 v4 v5 v6 v7 v8 v9 : Value) (y0 y1 y2 y3 y4 y5 y6 y7 y8 y9 : DataW H × List MemPlace) (n : Nat), v = .agg #[v0, v1, v2, v3, v4, v5, v6, v7, v8, v9] ∧ d = .agg [y0.1, y1.1, y2.1, y3.1, y4.1, y5.1, y6.1, y7.1, y8.1, y9.1] ∧ DataW.trod enc P w base spare held n f0.type [v0] = some y0 ∧ DataW.trod enc P w base spare held n f1.type [v1] = some y1 ∧ DataW.trod enc P w base spare held n f2.type [v2] = some y2 ∧ DataW.trod enc P w base spare held n f3.type [v3] = some y3 ∧ DataW.trod enc P w base spare held n f4.type [v4] = some y4 ∧ DataW.trod enc P w base spare held n f5.type [v5] = some y5 ∧ DataW.trod enc P w base spare held n f6.type [v6] = some y6 ∧ DataW.trod enc P w base spare held n f7.type [v7] = some y7 ∧ DataW.trod enc P w base spare held n f8.type [v8] = some y8 ∧ DataW.trod enc P w base spare held n f9.type [v9] = some y9 := by
  obtain ⟨cs, rfl, hsz⟩ := okWide_struct hs hv
  obtain ⟨c0, c1, c2, c3, c4, c5, c6, c7, c8, c9, rfl⟩ := array10 (hsz.trans hC)
  obtain ⟨fuel, hf⟩ := h
  obtain ⟨y0, y1, y2, y3, y4, y5, y6, y7, y8, y9, n, hx, h0, h1, h2, h3, h4, h5, h6, h7, h8, h9⟩ := trod_struct10 hs hf
  obtain ⟨o0, k0⟩ := hone_of hone 0 f0 rfl
  obtain ⟨o1, k1⟩ := hone_of hone 1 f1 rfl
  obtain ⟨o2, k2⟩ := hone_of hone 2 f2 rfl
  obtain ⟨o3, k3⟩ := hone_of hone 3 f3 rfl
  obtain ⟨o4, k4⟩ := hone_of hone 4 f4 rfl
  obtain ⟨o5, k5⟩ := hone_of hone 5 f5 rfl
  obtain ⟨o6, k6⟩ := hone_of hone 6 f6 rfl
  obtain ⟨o7, k7⟩ := hone_of hone 7 f7 rfl
  obtain ⟨o8, k8⟩ := hone_of hone 8 f8 rfl
  obtain ⟨o9, k9⟩ := hone_of hone 9 f9 rfl
  simp only [Prod.mk.injEq] at hx
  exact ⟨c0, c1, c2, c3, c4, c5, c6, c7, c8, c9, y0, y1, y2, y3, y4, y5, y6, y7, y8, y9, n, rfl, hx.1, by simpa [Value.cells, o0, k0] using h0, by simpa [Value.cells, o1, k1] using h1, by simpa [Value.cells, o2, k2] using h2, by simpa [Value.cells, o3, k3] using h3, by simpa [Value.cells, o4, k4] using h4, by simpa [Value.cells, o5, k5] using h5, by simpa [Value.cells, o6, k6] using h6, by simpa [Value.cells, o7, k7] using h7, by simpa [Value.cells, o8, k8] using h8, by simpa [Value.cells, o9, k9] using h9⟩
theorem weights_in {P : Program} {e : TypeId} {d : DataW H} {x : Nat} (hx : x ∈ d.weights P e) : ∀ {l : List (DataW H)}, d ∈ l → x ∈ DataW.weightsAll P e l
  | a :: r, h => by
    simp only [DataW.weightsAll, List.mem_append]
    rcases List.mem_cons.1 h with q | q
    · subst q; exact .inl hx
    · exact .inr (weights_in hx q)
end
theorem cellsS1 : Tryz.prog.cellsOf 9 = 1 := by kernel_rfl
theorem bytesS : Tryz.prog.bytesOf 9 = 16 := by kernel_rfl
theorem cellsP : Tryz.prog.cellsOf 43 = 10 := by kernel_rfl
theorem tk_range (f : Nat → ByteArray) {n k : Nat} (h : k < n) : tk ((List.range n).map f) k = f k := by unfold tk; simp [h]

set_option maxRecDepth 100000 in
set_option maxHeartbeats 1000000 in
/-- what a plan that is handed in is -/
theorem open_plan {H : Type} {enc : TypeId × Value → H} {W : World} {base : Nat} {v : Value} {d : DataW H} {p : List MemPlace} (hv : Value.okWide Tryz.prog W .any base 43 v) (h : DataW.Trod enc Tryz.prog W 0 (fun _ => true) true 43 v d p) (hw : ∀ x ∈ DataW.weights Tryz.prog 43 d, x ≤ reachBytes) :
    ∃ (n : ByteArray) (a : Option Addr) (l : List ByteArray) (c : Nat) (x0 x1 x2 x3 x4 x5 x6 x7 : Int), v = planV n a l.length c x0 x1 x2 x3 x4 x5 x6 x7 ∧ n.size ≤ 140737488355328 ∧ SlS W a l ∧ (∀ k, k < l.length → (tk l k).size ≤ 140737488355328) ∧ l.length ≤ 140737488355328 ∧ l.length ≤ c := by
  obtain ⟨u0, u1, u2, u3, u4, u5, u6, u7, u8, u9, y0, y1, y2, y3, y4, y5, y6, y7, y8, y9, m, rfl, hd, g0, g1, g2, g3, g4, g5, g6, g7, g8, g9⟩ := open_agg10 Tryz.underlying43 (by kernel_rfl) cellsP hv h
  obtain ⟨n, e0, q0, _⟩ := DataW.trod_string Tryz.underlying9 g0
  obtain ⟨x0, e2, q2, _⟩ := DataW.trod_int Tryz.underlying3 g2
  obtain ⟨x1, e3, q3, _⟩ := DataW.trod_int Tryz.underlying3 g3
  obtain ⟨x2, e4, q4, _⟩ := DataW.trod_int Tryz.underlying3 g4
  obtain ⟨x3, e5, q5, _⟩ := DataW.trod_int Tryz.underlying3 g5
  obtain ⟨x4, e6, q6, _⟩ := DataW.trod_int Tryz.underlying3 g6
  obtain ⟨x5, e7, q7, _⟩ := DataW.trod_int Tryz.underlying3 g7
  obtain ⟨x6, e8, q8, _⟩ := DataW.trod_int Tryz.underlying3 g8
  obtain ⟨x7, e9, q9, _⟩ := DataW.trod_int Tryz.underlying3 g9
  simp only [List.cons.injEq, and_true] at e0 e2 e3 e4 e5 e6 e7 e8 e9
  subst e0 e2 e3 e4 e5 e6 e7 e8 e9
  rcases open_strs Tryz.underlying41 Tryz.underlying9 cellsS1 g1 with ⟨hcs, hx⟩ | ⟨a, len, cap, mm, Sx, hcs, hb, hl, hm, hmm, hx, hel⟩
  · simp only [List.cons.injEq, and_true] at hcs
    subst hcs
    have hz : n.size ≤ 140737488355328 := by
      have h := hw n.data.toList.length (by rw [hd, q0]; simp [DataW.weights, DataW.weightsEach, Tryz.underlying43])
      have e : n.data.toList.length = n.size := by simp
      unfold reachBytes at h
      omega
    exact ⟨n, none, [], 0, x0, x1, x2, x3, x4, x5, x6, x7, rfl, hz, fun k hk => by simp at hk, fun k hk => by simp at hk, by simp, by simp⟩
  · simp only [List.cons.injEq, and_true] at hcs
    subst hcs
    have hx1 : y1.1 = DataW.slice ((List.range len).map fun i => .lit (.string (Sx i).data.toList)) ((List.range (mm - len)).map fun j => .lit (.string (Sx (len + j)).data.toList)) := by rw [hx]
    have hz : n.size ≤ 140737488355328 := by
      have h := hw n.data.toList.length (by rw [hd, q0]; simp [DataW.weights, DataW.weightsEach, Tryz.underlying43])
      have e : n.data.toList.length = n.size := by simp
      unfold reachBytes at h
      omega
    have hlm : len ≤ mm := by rw [hmm]; split <;> omega
    have hsub : ∀ y ∈ DataW.weights (H := H) Tryz.prog 41 y1.1, y ≤ reachBytes := fun y hy => hw y (by
      rw [hd]
      simp only [DataW.weights, Tryz.underlying43]
      simp only [List.map_cons, List.map_nil]
      exact DataW.weights_mem_each (j := 1) rfl rfl _ hy)
    obtain ⟨bm, om, spot⟩ := a
    have hspot : len = 0 ∨ spot = none := by
      by_cases h0 : len = 0
      · exact .inl h0
      · right
        simpa [Addr.add] using World.cell?_spot (hel 0 (by omega)).1
    rcases hspot with h0 | rfl
    · subst h0
      exact ⟨n, some ⟨bm, om, spot⟩, [], cap, x0, x1, x2, x3, x4, x5, x6, x7, rfl, hz, fun k hk => by simp at hk, fun k hk => by simp at hk, by simp, by simp⟩
    · refine ⟨n, some ⟨bm, om, none⟩, (List.range len).map Sx, cap, x0, x1, x2, x3, x4, x5, x6, x7, by simp, hz, fun k hk => ?_, fun k hk => ?_, ?_, by simpa using hl⟩
      · have hk' : k < len := by simpa using hk
        have f0 := (hel k (by omega)).1
        simp only [add_plain] at f0
        exact ⟨bm, om, rfl, World.block_lt_of_cell? _ _ f0, by rw [tk_range Sx hk']; exact f0⟩
      · have hk' : k < len := by simpa using hk
        rw [tk_range Sx hk']
        have hle := hsub (Sx k).data.toList.length (by
          rw [hx1]
          simp only [DataW.weights, Tryz.underlying41, List.mem_cons, List.mem_append]
          refine .inr (.inl (weights_in (d := .lit (.string (Sx k).data.toList)) ?_ (List.mem_map.2 ⟨k, List.mem_range.2 hk', rfl⟩)))
          simp [DataW.weights])
        have e : (Sx k).data.toList.length = (Sx k).size := by simp
        unfold reachBytes at hle
        omega
      · simp only [List.length_map, List.length_range]
        have hh := hsub ((len + (mm - len)) * Tryz.prog.bytesOf 9) (by rw [hx1]; simp [DataW.weights, Tryz.underlying41])
        rw [bytesS] at hh
        unfold reachBytes at hh
        omega
end Go.Proofs.YtohjipnkoiifhagGreatDoor

namespace Go.Proofs.YtohjipnkoiifhagGreatDoor.Dk
open Go.Joins Go.Deep Go.WideShapes Go.ChangeShapes Go.ChangeAt Go.RowKit

/-- a step: its kind, its time, a number, a post, a filter -/
structure Stp where
  k : Int
  now : Int
  n : Int
  x : Po
  f : ByteArray
def noStp : Stp := ⟨0, 0, 0, ⟨ByteArray.empty, ByteArray.empty, ByteArray.empty, ByteArray.empty, 0, 0⟩, ByteArray.empty⟩
def spt (l : List Stp) (k : Nat) : Stp := l[k]?.getD noStp
/-- a step's ten cells -/
structure Ten (w : World) (b o : Nat) (c : Stp) : Prop where
  lt : b < w.heap.size
  c0 : w.cell? ⟨b, o, none⟩ = some (.int .i64 c.k)
  c1 : w.cell? ⟨b, o + 1, none⟩ = some (.int .i64 c.now)
  c2 : w.cell? ⟨b, o + 2, none⟩ = some (.int .i64 c.n)
  c3 : w.cell? ⟨b, o + 3, none⟩ = some (.string c.x.s)
  c4 : w.cell? ⟨b, o + 4, none⟩ = some (.string c.x.i)
  c5 : w.cell? ⟨b, o + 5, none⟩ = some (.string c.x.h)
  c6 : w.cell? ⟨b, o + 6, none⟩ = some (.string c.x.d)
  c7 : w.cell? ⟨b, o + 7, none⟩ = some (.int .i64 c.x.x)
  c8 : w.cell? ⟨b, o + 8, none⟩ = some (.int .i64 c.x.ro)
  c9 : w.cell? ⟨b, o + 9, none⟩ = some (.string c.f)
theorem Ten.keep {w w' : World} {b o : Nat} {c : Stp} (h : Ten w b o c) (hs : w.heap.size ≤ w'.heap.size) (hb : w'.heap[b]? = w.heap[b]?) : Ten w' b o c := by
  have e : ∀ j, w'.cell? ⟨b, j, none⟩ = w.cell? ⟨b, j, none⟩ := fun j => World.cell?_of_block (w := w) (a := ⟨b, j, none⟩) hb
  exact ⟨Nat.lt_of_lt_of_le h.lt hs, by rw [e]; exact h.c0, by rw [e]; exact h.c1, by rw [e]; exact h.c2, by rw [e]; exact h.c3, by rw [e]; exact h.c4, by rw [e]; exact h.c5, by rw [e]; exact h.c6, by rw [e]; exact h.c7, by rw [e]; exact h.c8, by rw [e]; exact h.c9⟩
/-- the steps that a slice shows -/
def SlP (w : World) (a : Option Addr) (l : List Stp) : Prop := ∀ k, k < l.length → ∃ b o, a = some ⟨b, o, none⟩ ∧ Ten w b (o + k * 10) (spt l k)
theorem SlP.next {w w' : World} {a : Option Addr} {l : List Stp} (h : SlP w a l) (hb : Below w.heap.size w w') : SlP w' a l := fun k hk => by
  obtain ⟨b, o, e, h2⟩ := h k hk
  exact ⟨b, o, e, h2.keep hb.size (hb.block b h2.lt)⟩
theorem SlP.from {B : Nat} {w w' : World} {a : Option Addr} {l : List Stp} (h : SlP w a l) (hb : Below B w w') (hB : w.heap.size ≤ B) : SlP w' a l := fun k hk => by
  obtain ⟨b, o, e, h2⟩ := h k hk
  exact ⟨b, o, e, h2.keep hb.size (hb.block b (Nat.lt_of_lt_of_le h2.lt hB))⟩
theorem SlP.stay {Cs : Nat → Prop} {w w' : World} {a : Option Addr} {l : List Stp} (h : SlP w a l) (hs : Stay Cs w w') (hn : ∀ z, a = some z → Cs z.block) : SlP w' a l := fun k hk => by
  obtain ⟨b, o, e, h2⟩ := h k hk
  exact ⟨b, o, e, h2.keep hs.1 (hs.2 b (hn _ e))⟩
/-- a step that isn't too great for any machine -/
structure SmallT (c : Stp) : Prop where
  x : SmallO c.x
  f : c.f.size ≤ 140737488355328
section
variable {H : Type} {enc : TypeId × Value → H} {P : Program} {w : World} {base : Nat} {spare : Nat → Bool} {held : Bool}
theorem trod_struct5 {t : TypeId} {f0 f1 f2 f3 f4 : Field} {fuel : Nat} {cs : List Value} {x : DataW H × List MemPlace} (ht : P.underlying t = some (.struct #[f0, f1, f2, f3, f4])) (h : DataW.trod enc P w base spare held fuel t cs = some x) :
    ∃ y0 y1 y2 y3 y4 n, x = (.agg [y0.1, y1.1, y2.1, y3.1, y4.1], y0.2 ++ (y1.2 ++ (y2.2 ++ (y3.2 ++ y4.2)))) ∧ DataW.trod enc P w base spare held n f0.type ((cs.drop f0.offset).take (P.cellsOf f0.type)) = some y0 ∧
      DataW.trod enc P w base spare held n f1.type ((cs.drop f1.offset).take (P.cellsOf f1.type)) = some y1 ∧ DataW.trod enc P w base spare held n f2.type ((cs.drop f2.offset).take (P.cellsOf f2.type)) = some y2 ∧
      DataW.trod enc P w base spare held n f3.type ((cs.drop f3.offset).take (P.cellsOf f3.type)) = some y3 ∧ DataW.trod enc P w base spare held n f4.type ((cs.drop f4.offset).take (P.cellsOf f4.type)) = some y4 := by
  obtain ⟨xs, n, _, rfl, hl, hlen, hf⟩ := DataW.trod_struct ht h
  match xs, hlen with
  | [y0, y1, y2, y3, y4], _ => exact ⟨y0, y1, y2, y3, y4, n, by simp, by simpa using hf 0 f0 rfl, by simpa using hf 1 f1 rfl, by simpa using hf 2 f2 rfl, by simpa using hf 3 f3 rfl, by simpa using hf 4 f4 rfl⟩
end
theorem cellsT : Tryz.prog.cellsOf 52 = 10 := by kernel_rfl
theorem cellsO : Tryz.prog.cellsOf 50 = 6 := by kernel_rfl
theorem cellsI1 : Tryz.prog.cellsOf 3 = 1 := by kernel_rfl
theorem spt_range (C : Nat → Stp) {n k : Nat} (h : k < n) : spt ((List.range n).map C) k = C k := by unfold spt; simp [h]

set_option maxRecDepth 100000 in
set_option maxHeartbeats 1000000 in
/-- what a list of steps that is handed in is -/
theorem open_steps {H : Type} {enc : TypeId × Value → H} {W : World} {base : Nat} {v : Value} {d : DataW H} {pl : List MemPlace} (hv : Value.okWide Tryz.prog W .any base 44 v) (h : DataW.Trod enc Tryz.prog W 0 (fun _ => true) true 44 v d pl) (hw : ∀ x ∈ DataW.weights Tryz.prog 44 d, x ≤ reachBytes) :
    ∃ (a : Option Addr) (l : List Stp) (c : Nat), v = .slice a l.length c ∧ SlP W a l ∧ ∀ k, k < l.length → SmallT (spt l k) := by
  obtain ⟨aR, lenR, capR, rfl⟩ := okWide_slice Tryz.underlying44 hv
  obtain ⟨fuelR, hfR⟩ := h
  obtain ⟨C, hC⟩ : ∃ C : Nat → Stp, ∀ i, i < lenR → ∃ b o, aR = some ⟨b, o, none⟩ ∧ Ten W b (o + i * 10) (C i) ∧ SmallT (C i) := by
    rcases open_slice Tryz.underlying44 hfR with ⟨hcs, hx⟩ | ⟨a, len', cap', m, n, D, Pl, hcs, hb, hl, hm, hmm, hx, hel⟩
    · simp [Value.cells] at hcs
      obtain ⟨rfl, rfl, rfl⟩ := hcs
      exact ⟨fun _ => noStp, fun i hi => absurd hi (Nat.not_lt_zero i)⟩
    · simp [Value.cells] at hcs
      obtain ⟨rfl, rfl, rfl⟩ := hcs
      simp only [Prod.mk.injEq] at hx
      obtain ⟨rfl, rfl⟩ := hx
      have hlm : lenR ≤ m := by rw [hmm]; split <;> omega
      have hI : Inhabited Stp := ⟨noStp⟩
      refine choose_lt (p := fun i (c : Stp) => ∃ b o, some a = some ⟨b, o, none⟩ ∧ Ten W b (o + i * 10) c ∧ SmallT c) (fun i hi => ?_)
      obtain ⟨cs', h1, h2⟩ := hel i (by omega)
      rw [cellsT] at h1
      obtain ⟨_, hlen, hcell⟩ := World.cells?_some h1
      obtain ⟨x0, x1, x2, x3, x4, n'', hxy, t0, t1, t2, t3, t4⟩ := trod_struct5 Tryz.underlying52 h2
      match cs', hlen with
      | [q0, q1, q2, q3, q4, q5, q6, q7, q8, q9], _ =>
        simp only [cellsI1, cellsS1, cellsO, List.drop_zero, List.drop_succ_cons, List.take_succ_cons, List.take_zero] at t0 t1 t2 t3 t4
        obtain ⟨z0, z1, z2, z3, z4, z5, n3, hxz, s0, s1, s2, s3, s4, s5⟩ := trod_struct6 Tryz.underlying50 t3
        simp only [cellsI1, cellsS1, List.drop_zero, List.drop_succ_cons, List.take_succ_cons, List.take_zero] at s0 s1 s2 s3 s4 s5
        obtain ⟨k0, e0, g0, _⟩ := DataW.trod_int Tryz.underlying3 t0
        obtain ⟨k1, e1, g1, _⟩ := DataW.trod_int Tryz.underlying3 t1
        obtain ⟨k2, e2, g2, _⟩ := DataW.trod_int Tryz.underlying3 t2
        obtain ⟨k3, e3, g3, _⟩ := DataW.trod_string Tryz.underlying9 s0
        obtain ⟨k4, e4, g4, _⟩ := DataW.trod_string Tryz.underlying9 s1
        obtain ⟨k5, e5, g5, _⟩ := DataW.trod_string Tryz.underlying9 s2
        obtain ⟨k6, e6, g6, _⟩ := DataW.trod_string Tryz.underlying9 s3
        obtain ⟨k7, e7, g7, _⟩ := DataW.trod_int Tryz.underlying3 s4
        obtain ⟨k8, e8, g8, _⟩ := DataW.trod_int Tryz.underlying3 s5
        obtain ⟨k9, e9, g9, _⟩ := DataW.trod_string Tryz.underlying9 t4
        simp only [List.cons.injEq, and_true] at e0 e1 e2 e3 e4 e5 e6 e7 e8 e9
        subst e0 e1 e2 e3 e4 e5 e6 e7 e8 e9
        obtain ⟨bm, om, spot⟩ := a
        have f0 := hcell 0 (by omega)
        have f1 := hcell 1 (by omega)
        have f2 := hcell 2 (by omega)
        have f3 := hcell 3 (by omega)
        have f4 := hcell 4 (by omega)
        have f5 := hcell 5 (by omega)
        have f6 := hcell 6 (by omega)
        have f7 := hcell 7 (by omega)
        have f8 := hcell 8 (by omega)
        have f9 := hcell 9 (by omega)
        rw [add_add] at f0 f1 f2 f3 f4 f5 f6 f7 f8 f9
        obtain ⟨cs0, y1, _⟩ := hel 0 (by omega)
        rw [cellsT] at y1
        obtain ⟨_, yl, yc⟩ := World.cells?_some y1
        have y := yc 0 (by omega)
        rw [List.getElem?_eq_getElem (by omega)] at y
        have hspot : spot = none := by simpa [Addr.add] using World.cell?_spot y
        subst hspot
        simp only [add_plain] at f0 f1 f2 f3 f4 f5 f6 f7 f8 f9
        have hD : D i = .agg [.lit (.int .i64 k0), .lit (.int .i64 k1), .lit (.int .i64 k2), .agg [.lit (.string k3.data.toList), .lit (.string k4.data.toList), .lit (.string k5.data.toList), .lit (.string k6.data.toList), .lit (.int .i64 k7), .lit (.int .i64 k8)], .lit (.string k9.data.toList)] := by
          simp only [Prod.mk.injEq] at hxy hxz
          rw [hxy.1, hxz, g0, g1, g2, g3, g4, g5, g6, g7, g8, g9]
        have hmem : ∀ x, x ∈ [k3.data.toList.length, k4.data.toList.length, k5.data.toList.length, k6.data.toList.length, k9.data.toList.length] → x ∈ DataW.weights Tryz.prog 44 (DataW.slice ((List.range lenR).map D) ((List.range (m - lenR)).map fun j => D (lenR + j))) := by
          intro x hx
          simp only [DataW.weights, Tryz.underlying44, List.mem_cons, List.mem_append]
          refine .inr (.inl (weights_in (d := D i) ?_ (List.mem_map.2 ⟨i, List.mem_range.2 hi, rfl⟩)))
          rw [hD]
          simp [DataW.weights, DataW.weightsEach, Tryz.underlying52, Tryz.underlying50]
          simp at hx
          omega
        have hall : ∀ x, x ∈ [k3.data.toList.length, k4.data.toList.length, k5.data.toList.length, k6.data.toList.length, k9.data.toList.length] → x ≤ 140737488355328 := fun x hx => by
          have hle := hw x (hmem x hx)
          unfold reachBytes at hle
          omega
        have el : ∀ y : ByteArray, y.data.toList.length = y.size := fun y => by simp
        simp only [el] at hall
        refine ⟨⟨k0, k1, k2, ⟨k3, k4, k5, k6, k7, k8⟩, k9⟩, bm, om, rfl, ⟨World.block_lt_of_cell? _ _ f0, by simpa using f0, f1, f2, f3, f4, f5, f6, f7, f8, f9⟩, ⟨hall _ (by simp), hall _ (by simp), hall _ (by simp), hall _ (by simp)⟩, hall _ (by simp)⟩
  refine ⟨aR, (List.range lenR).map C, capR, by simp, fun k hk => ?_, fun k hk => ?_⟩
  · have hk' : k < lenR := by simpa using hk
    obtain ⟨b, o, e, h2, _⟩ := hC k hk'
    exact ⟨b, o, e, by rw [spt_range C hk']; exact h2⟩
  · have hk' : k < lenR := by simpa using hk
    obtain ⟨b, o, e, _, h3⟩ := hC k hk'
    rw [spt_range C hk']
    exact h3
end Go.Proofs.YtohjipnkoiifhagGreatDoor.Dk

namespace Go.Proofs.YtohjipnkoiifhagGreatDoor.Dk
open Go.Joins Go.Deep Go.WideShapes Go.ChangeShapes Go.ChangeAt Go.RowKit

set_option maxRecDepth 100000 in
/-- what a post that is handed in is -/
theorem open_post {H : Type} {enc : TypeId × Value → H} {W : World} {base : Nat} {v : Value} {d : DataW H} {pl : List MemPlace} (hv : Value.okWide Tryz.prog W .any base 50 v) (h : DataW.Trod enc Tryz.prog W 0 (fun _ => true) true 50 v d pl) (hw : ∀ x ∈ DataW.weights Tryz.prog 50 d, x ≤ reachBytes) : ∃ x : Po, v = poV x ∧ SmallO x := by
  obtain ⟨u0, u1, u2, u3, u4, u5, y0, y1, y2, y3, y4, y5, m, rfl, hd, _, g0, g1, g2, g3, g4, g5⟩ := open_agg6 Tryz.underlying50 (by kernel_rfl) cellsO hv h
  obtain ⟨s0, e0, q0, _⟩ := DataW.trod_string Tryz.underlying9 g0
  obtain ⟨s1, e1, q1, _⟩ := DataW.trod_string Tryz.underlying9 g1
  obtain ⟨s2, e2, q2, _⟩ := DataW.trod_string Tryz.underlying9 g2
  obtain ⟨s3, e3, q3, _⟩ := DataW.trod_string Tryz.underlying9 g3
  obtain ⟨x4, e4, q4, _⟩ := DataW.trod_int Tryz.underlying3 g4
  obtain ⟨x5, e5, q5, _⟩ := DataW.trod_int Tryz.underlying3 g5
  simp only [List.cons.injEq, and_true] at e0 e1 e2 e3 e4 e5
  subst e0 e1 e2 e3 e4 e5
  have hall : ∀ x, x ∈ [s0.data.toList.length, s1.data.toList.length, s2.data.toList.length, s3.data.toList.length] → x ≤ 140737488355328 := fun x hx => by
    have hle := hw x (by
      rw [hd, q0, q1, q2, q3]
      simp [DataW.weights, DataW.weightsEach, Tryz.underlying50]
      simp at hx
      omega)
    unfold reachBytes at hle
    omega
  have el : ∀ y : ByteArray, y.data.toList.length = y.size := fun y => by simp
  simp only [el] at hall
  exact ⟨⟨s0, s1, s2, s3, x4, x5⟩, rfl, hall _ (by simp), hall _ (by simp), hall _ (by simp), hall _ (by simp)⟩
end Go.Proofs.YtohjipnkoiifhagGreatDoor.Dk
