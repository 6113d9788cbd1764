/-
  A plan that is handed in by value: a struct of ten fields of one cell each, opened; its filters. No walk.
-/
import Derived.Lib.SmallJoins
import Derived.OpenShut
import Derived.SizedLaws
import Derived.Deep.Strs
import Derived.Test.YtohjipnkoiifhagDoorJointRowPlRowPsRowPv
namespace Go.Proofs.YtohjipnkoiifhagDoor
open Go.Joins Go.Deep Go.WideShapes Go.ChangeShapes Go.ChangeAt Go.RowKit

section
variable {H : Type} {enc : TypeId × Value → H} {P : Program} {w : World} {base : Nat} {spare : Nat → Bool} {held : Bool}

theorem array10 {α : Type} {cs : Array α} (h : cs.size = 10) : ∃ c0 c1 c2 c3 c4 c5 c6 c7 c8 c9, cs = #[c0, c1, c2, c3, c4, c5, c6, c7, c8, c9] := by
  obtain ⟨l⟩ := cs
  match l, h with
  | [c0, c1, c2, c3, c4, c5, c6, c7, c8, c9], _ => exact ⟨c0, c1, c2, c3, c4, c5, c6, c7, c8, c9, rfl⟩
theorem trod_struct10 {t : TypeId} {f0 f1 f2 f3 f4 f5 f6 f7 f8 f9 : Field} {fuel : Nat} {cs : List Value} {x : DataW H × List MemPlace} (ht : P.underlying t = some (.struct #[f0, f1, f2, f3, f4, f5, f6, f7, f8, f9])) (h : DataW.trod enc P w base spare held fuel t cs = some x) :
    ∃ y0 y1 y2 y3 y4 y5 y6 y7 y8 y9 n, x = (.agg [y0.1, y1.1, y2.1, y3.1, y4.1, y5.1, y6.1, y7.1, y8.1, y9.1], y0.2 ++ (y1.2 ++ (y2.2 ++ (y3.2 ++ (y4.2 ++ (y5.2 ++ (y6.2 ++ (y7.2 ++ (y8.2 ++ (y9.2)))))))))) ∧ DataW.trod enc P w base spare held n f0.type ((cs.drop f0.offset).take (P.cellsOf f0.type)) = some y0 ∧ DataW.trod enc P w base spare held n f1.type ((cs.drop f1.offset).take (P.cellsOf f1.type)) = some y1 ∧ DataW.trod enc P w base spare held n f2.type ((cs.drop f2.offset).take (P.cellsOf f2.type)) = some y2 ∧ DataW.trod enc P w base spare held n f3.type ((cs.drop f3.offset).take (P.cellsOf f3.type)) = some y3 ∧ DataW.trod enc P w base spare held n f4.type ((cs.drop f4.offset).take (P.cellsOf f4.type)) = some y4 ∧ DataW.trod enc P w base spare held n f5.type ((cs.drop f5.offset).take (P.cellsOf f5.type)) = some y5 ∧ DataW.trod enc P w base spare held n f6.type ((cs.drop f6.offset).take (P.cellsOf f6.type)) = some y6 ∧ DataW.trod enc P w base spare held n f7.type ((cs.drop f7.offset).take (P.cellsOf f7.type)) = some y7 ∧ DataW.trod enc P w base spare held n f8.type ((cs.drop f8.offset).take (P.cellsOf f8.type)) = some y8 ∧ DataW.trod enc P w base spare held n f9.type ((cs.drop f9.offset).take (P.cellsOf f9.type)) = some y9 := by
  obtain ⟨xs, n, _, rfl, hl, hlen, hf⟩ := DataW.trod_struct ht h
  match xs, hlen with
  | [y0, y1, y2, y3, y4, y5, y6, y7, y8, y9], _ => exact ⟨y0, y1, y2, y3, y4, y5, y6, y7, y8, y9, n, by simp, by simpa using hf 0 f0 rfl, by simpa using hf 1 f1 rfl, by simpa using hf 2 f2 rfl, by simpa using hf 3 f3 rfl, by simpa using hf 4 f4 rfl, by simpa using hf 5 f5 rfl, by simpa using hf 6 f6 rfl, by simpa using hf 7 f7 rfl, by simpa using hf 8 f8 rfl, by simpa using hf 9 f9 rfl⟩
theorem open_agg10 {r : Reach} {b0 : Nat} {t : TypeId} {f0 f1 f2 f3 f4 f5 f6 f7 f8 f9 : Field} {v : Value} {d : DataW H} {p : List MemPlace} (hs : P.underlying t = some (.struct #[f0, f1, f2, f3, f4, f5, f6, f7, f8, f9])) (hone : oneCellFields P #[f0, f1, f2, f3, f4, f5, f6, f7, f8, f9] = true) (hC : P.cellsOf t = 10)
    (hv : Value.okWide P w r b0 t v) (h : DataW.Trod enc P w base spare held t v d p) :
    ∃ (v0 v1 v2 v3 v4 v5 v6 v7 v8 v9 : Value) (y0 y1 y2 y3 y4 y5 y6 y7 y8 y9 : DataW H × List MemPlace) (n : Nat), v = .agg #[v0, v1, v2, v3, v4, v5, v6, v7, v8, v9] ∧ d = .agg [y0.1, y1.1, y2.1, y3.1, y4.1, y5.1, y6.1, y7.1, y8.1, y9.1] ∧ DataW.trod enc P w base spare held n f0.type [v0] = some y0 ∧ DataW.trod enc P w base spare held n f1.type [v1] = some y1 ∧ DataW.trod enc P w base spare held n f2.type [v2] = some y2 ∧ DataW.trod enc P w base spare held n f3.type [v3] = some y3 ∧ DataW.trod enc P w base spare held n f4.type [v4] = some y4 ∧ DataW.trod enc P w base spare held n f5.type [v5] = some y5 ∧ DataW.trod enc P w base spare held n f6.type [v6] = some y6 ∧ DataW.trod enc P w base spare held n f7.type [v7] = some y7 ∧ DataW.trod enc P w base spare held n f8.type [v8] = some y8 ∧ DataW.trod enc P w base spare held n f9.type [v9] = some y9 := by
  obtain ⟨cs, rfl, hsz⟩ := okWide_struct hs hv
  obtain ⟨c0, c1, c2, c3, c4, c5, c6, c7, c8, c9, rfl⟩ := array10 (hsz.trans hC)
  obtain ⟨fuel, hf⟩ := h
  obtain ⟨y0, y1, y2, y3, y4, y5, y6, y7, y8, y9, n, hx, h0, h1, h2, h3, h4, h5, h6, h7, h8, h9⟩ := trod_struct10 hs hf
  obtain ⟨o0, k0⟩ := hone_of hone 0 f0 rfl
  obtain ⟨o1, k1⟩ := hone_of hone 1 f1 rfl
  obtain ⟨o2, k2⟩ := hone_of hone 2 f2 rfl
  obtain ⟨o3, k3⟩ := hone_of hone 3 f3 rfl
  obtain ⟨o4, k4⟩ := hone_of hone 4 f4 rfl
  obtain ⟨o5, k5⟩ := hone_of hone 5 f5 rfl
  obtain ⟨o6, k6⟩ := hone_of hone 6 f6 rfl
  obtain ⟨o7, k7⟩ := hone_of hone 7 f7 rfl
  obtain ⟨o8, k8⟩ := hone_of hone 8 f8 rfl
  obtain ⟨o9, k9⟩ := hone_of hone 9 f9 rfl
  simp only [Prod.mk.injEq] at hx
  exact ⟨c0, c1, c2, c3, c4, c5, c6, c7, c8, c9, y0, y1, y2, y3, y4, y5, y6, y7, y8, y9, n, rfl, hx.1, by simpa [Value.cells, o0, k0] using h0, by simpa [Value.cells, o1, k1] using h1, by simpa [Value.cells, o2, k2] using h2, by simpa [Value.cells, o3, k3] using h3, by simpa [Value.cells, o4, k4] using h4, by simpa [Value.cells, o5, k5] using h5, by simpa [Value.cells, o6, k6] using h6, by simpa [Value.cells, o7, k7] using h7, by simpa [Value.cells, o8, k8] using h8, by simpa [Value.cells, o9, k9] using h9⟩
theorem weights_in {P : Program} {e : TypeId} {d : DataW H} {x : Nat} (hx : x ∈ d.weights P e) : ∀ {l : List (DataW H)}, d ∈ l → x ∈ DataW.weightsAll P e l
  | a :: r, h => by
    simp only [DataW.weightsAll, List.mem_append]
    rcases List.mem_cons.1 h with q | q
    · subst q; exact .inl hx
    · exact .inr (weights_in hx q)
end
theorem cellsS1 : Tryd.prog.cellsOf 9 = 1 := by kernel_rfl
theorem bytesS : Tryd.prog.bytesOf 9 = 16 := by kernel_rfl
theorem cellsP : Tryd.prog.cellsOf 24 = 10 := by kernel_rfl
theorem tk_range (f : Nat → ByteArray) {n k : Nat} (h : k < n) : tk ((List.range n).map f) k = f k := by unfold tk; simp [h]

set_option maxRecDepth 100000 in
set_option maxHeartbeats 1000000 in
/-- what a plan that is handed in is -/
theorem open_plan {H : Type} {enc : TypeId × Value → H} {W : World} {base : Nat} {v : Value} {d : DataW H} {p : List MemPlace} (hv : Value.okWide Tryd.prog W .any base 24 v) (h : DataW.Trod enc Tryd.prog W 0 (fun _ => true) true 24 v d p) (hw : ∀ x ∈ DataW.weights Tryd.prog 24 d, x ≤ reachBytes) :
    ∃ (n : ByteArray) (a : Option Addr) (l : List ByteArray) (c : Nat) (x0 x1 x2 x3 x4 x5 x6 x7 : Int), v = planV n a l.length c x0 x1 x2 x3 x4 x5 x6 x7 ∧ n.size ≤ 140737488355328 ∧ SlS W a l ∧ (∀ k, k < l.length → (tk l k).size ≤ 140737488355328) ∧ l.length ≤ 140737488355328 ∧ l.length ≤ c := by
  obtain ⟨u0, u1, u2, u3, u4, u5, u6, u7, u8, u9, y0, y1, y2, y3, y4, y5, y6, y7, y8, y9, m, rfl, hd, g0, g1, g2, g3, g4, g5, g6, g7, g8, g9⟩ := open_agg10 Tryd.underlying24 (by kernel_rfl) cellsP hv h
  obtain ⟨n, e0, q0, _⟩ := DataW.trod_string Tryd.underlying9 g0
  obtain ⟨x0, e2, q2, _⟩ := DataW.trod_int Tryd.underlying3 g2
  obtain ⟨x1, e3, q3, _⟩ := DataW.trod_int Tryd.underlying3 g3
  obtain ⟨x2, e4, q4, _⟩ := DataW.trod_int Tryd.underlying3 g4
  obtain ⟨x3, e5, q5, _⟩ := DataW.trod_int Tryd.underlying3 g5
  obtain ⟨x4, e6, q6, _⟩ := DataW.trod_int Tryd.underlying3 g6
  obtain ⟨x5, e7, q7, _⟩ := DataW.trod_int Tryd.underlying3 g7
  obtain ⟨x6, e8, q8, _⟩ := DataW.trod_int Tryd.underlying3 g8
  obtain ⟨x7, e9, q9, _⟩ := DataW.trod_int Tryd.underlying3 g9
  simp only [List.cons.injEq, and_true] at e0 e2 e3 e4 e5 e6 e7 e8 e9
  subst e0 e2 e3 e4 e5 e6 e7 e8 e9
  rcases open_strs Tryd.underlying22 Tryd.underlying9 cellsS1 g1 with ⟨hcs, hx⟩ | ⟨a, len, cap, mm, Sx, hcs, hb, hl, hm, hmm, hx, hel⟩
  · simp only [List.cons.injEq, and_true] at hcs
    subst hcs
    have hz : n.size ≤ 140737488355328 := by
      have h := hw n.data.toList.length (by rw [hd, q0]; simp [DataW.weights, DataW.weightsEach, Tryd.underlying24])
      have e : n.data.toList.length = n.size := by simp
      unfold reachBytes at h
      omega
    exact ⟨n, none, [], 0, x0, x1, x2, x3, x4, x5, x6, x7, rfl, hz, fun k hk => by simp at hk, fun k hk => by simp at hk, by simp, by simp⟩
  · simp only [List.cons.injEq, and_true] at hcs
    subst hcs
    have hx1 : y1.1 = DataW.slice ((List.range len).map fun i => .lit (.string (Sx i).data.toList)) ((List.range (mm - len)).map fun j => .lit (.string (Sx (len + j)).data.toList)) := by rw [hx]
    have hz : n.size ≤ 140737488355328 := by
      have h := hw n.data.toList.length (by rw [hd, q0]; simp [DataW.weights, DataW.weightsEach, Tryd.underlying24])
      have e : n.data.toList.length = n.size := by simp
      unfold reachBytes at h
      omega
    have hlm : len ≤ mm := by rw [hmm]; split <;> omega
    have hsub : ∀ y ∈ DataW.weights (H := H) Tryd.prog 22 y1.1, y ≤ reachBytes := fun y hy => hw y (by
      rw [hd]
      simp only [DataW.weights, Tryd.underlying24]
      simp only [List.map_cons, List.map_nil]
      exact DataW.weights_mem_each (j := 1) rfl rfl _ hy)
    obtain ⟨bm, om, spot⟩ := a
    have hspot : len = 0 ∨ spot = none := by
      by_cases h0 : len = 0
      · exact .inl h0
      · right
        simpa [Addr.add] using World.cell?_spot (hel 0 (by omega)).1
    rcases hspot with h0 | rfl
    · subst h0
      exact ⟨n, some ⟨bm, om, spot⟩, [], cap, x0, x1, x2, x3, x4, x5, x6, x7, rfl, hz, fun k hk => by simp at hk, fun k hk => by simp at hk, by simp, by simp⟩
    · refine ⟨n, some ⟨bm, om, none⟩, (List.range len).map Sx, cap, x0, x1, x2, x3, x4, x5, x6, x7, by simp, hz, fun k hk => ?_, fun k hk => ?_, ?_, by simpa using hl⟩
      · have hk' : k < len := by simpa using hk
        have f0 := (hel k (by omega)).1
        simp only [add_plain] at f0
        exact ⟨bm, om, rfl, World.block_lt_of_cell? _ _ f0, by rw [tk_range Sx hk']; exact f0⟩
      · have hk' : k < len := by simpa using hk
        rw [tk_range Sx hk']
        have hle := hsub (Sx k).data.toList.length (by
          rw [hx1]
          simp only [DataW.weights, Tryd.underlying22, List.mem_cons, List.mem_append]
          refine .inr (.inl (weights_in (d := .lit (.string (Sx k).data.toList)) ?_ (List.mem_map.2 ⟨k, List.mem_range.2 hk', rfl⟩)))
          simp [DataW.weights])
        have e : (Sx k).data.toList.length = (Sx k).size := by simp
        unfold reachBytes at hle
        omega
      · simp only [List.length_map, List.length_range]
        have hh := hsub ((len + (mm - len)) * Tryd.prog.bytesOf 9) (by rw [hx1]; simp [DataW.weights, Tryd.underlying22])
        rw [bytesS] at hh
        unfold reachBytes at hh
        omega
end Go.Proofs.YtohjipnkoiifhagDoor
