/-
  A consumer's plan in memory: ten cells in a block. No walk.
  A consumer's plan that is handed in by value, opened: its ten fields, its list of numbers. No walk.
-/
import Derived.Test.YtcbfmjjodfnacaaDoorPapQ0
import Derived.Test.YtcbfmjjodfnacaaDoorBase0
import Derived.Test.YtcbfmjjodfnacaaDoorRowPg
import Derived.ChangeSlices
import Derived.ChangeArms
namespace Go.Proofs.YtcbfmjjodfnacaaDoor
open Go.RowKit

/-- a consumer's plan as a value -/
abbrev tkV (t : Tk.Tkr) (a : Option Addr) (c : Nat) : Value := .agg #[.string t.n, .string t.f, .int .i64 t.fr, .int .i64 t.st, .int .i64 t.ack, .int .i64 t.wait, .slice a t.bo.length c, .int .i64 t.mo, .int .i64 t.pe, .bool t.pu]
abbrev tkO (t : Tk.Tkr) (a : Option Addr) (c : Nat) : Obj := .cells #[.string t.n, .string t.f, .int .i64 t.fr, .int .i64 t.st, .int .i64 t.ack, .int .i64 t.wait, .slice a t.bo.length c, .int .i64 t.mo, .int .i64 t.pe, .bool t.pu] 24
/-- its cells in block b -/
structure TB (w : World) (b : Nat) (t : Tk.Tkr) (a : Option Addr) (c : Nat) : Prop where
  lt : b < w.heap.size
  c0 : w.cell? ⟨b, 0, none⟩ = some (.string t.n)
  c1 : w.cell? ⟨b, 1, none⟩ = some (.string t.f)
  c2 : w.cell? ⟨b, 2, none⟩ = some (.int .i64 t.fr)
  c3 : w.cell? ⟨b, 3, none⟩ = some (.int .i64 t.st)
  c4 : w.cell? ⟨b, 4, none⟩ = some (.int .i64 t.ack)
  c5 : w.cell? ⟨b, 5, none⟩ = some (.int .i64 t.wait)
  c6 : w.cell? ⟨b, 6, none⟩ = some (.slice a t.bo.length c)
  c7 : w.cell? ⟨b, 7, none⟩ = some (.int .i64 t.mo)
  c8 : w.cell? ⟨b, 8, none⟩ = some (.int .i64 t.pe)
  c9 : w.cell? ⟨b, 9, none⟩ = some (.bool t.pu)
theorem TB.same {w w' : World} {b : Nat} {t : Tk.Tkr} {a : Option Addr} {c : Nat} (h : TB w b t a c) (hs : w.heap.size ≤ w'.heap.size) (e : ∀ j, w'.cell? ⟨b, j, none⟩ = w.cell? ⟨b, j, none⟩) : TB w' b t a c :=
  ⟨Nat.lt_of_lt_of_le h.lt hs, by rw [e]; exact h.c0, by rw [e]; exact h.c1, by rw [e]; exact h.c2, by rw [e]; exact h.c3, by rw [e]; exact h.c4, by rw [e]; exact h.c5, by rw [e]; exact h.c6, by rw [e]; exact h.c7, by rw [e]; exact h.c8, by rw [e]; exact h.c9⟩
theorem TB.next {w w' : World} {b : Nat} {t : Tk.Tkr} {a : Option Addr} {c : Nat} (h : TB w b t a c) (hb : Below w.heap.size w w') : TB w' b t a c := h.same hb.size (fun j => hb.cell (p := ⟨b, j, none⟩) h.lt)
theorem TB.new (w : World) (t : Tk.Tkr) (a : Option Addr) (c : Nat) : TB (w.alloc (tkO t a c)) w.heap.size t a c := ⟨by simp, by simp, by simp, by simp, by simp, by simp, by simp, by simp, by simp, by simp, by simp⟩
theorem nums_on {w w' : World} {a : Option Addr} {l : List Int} (h : Dk.SlI w a l) (hb : Below w.heap.size w w') : Dk.SlI w' a l := fun k hk => by
  obtain ⟨b, o, h1, h2, h3⟩ := h k hk
  exact ⟨b, o, h1, Nat.lt_of_lt_of_le h2 hb.size, by rw [hb.cell (p := ⟨b, o + k, none⟩) h2]; exact h3⟩
/-- a consumer's plan that isn't too great for any machine -/
structure SmallQ (t : Tk.Tkr) : Prop where
  name : t.n.size ≤ 140737488355328
  filt : t.f.size ≤ 140737488355328
  many : t.bo.length ≤ 140737488355328
end Go.Proofs.YtcbfmjjodfnacaaDoor

namespace Go.Proofs.YtcbfmjjodfnacaaDoor
open Go.Joins Go.Deep Go.WideShapes Go.ChangeShapes Go.ChangeAt Go.RowKit

theorem cellsI1 : Tryd.prog.cellsOf 3 = 1 := by kernel_rfl
theorem bytesI : Tryd.prog.bytesOf 3 = 8 := by kernel_rfl
theorem cellsT : Tryd.prog.cellsOf 24 = 10 := by kernel_rfl

set_option maxRecDepth 100000 in
set_option maxHeartbeats 1000000 in
/-- what a consumer's plan that is handed in is -/
theorem open_taker {H : Type} {enc : TypeId × Value → H} {W : World} {base : Nat} {v : Value} {d : DataW H} {p : List MemPlace} (hv : Value.okWide Tryd.prog W .any base 24 v) (h : DataW.Trod enc Tryd.prog W 0 (fun _ => true) true 24 v d p) (hw : ∀ x ∈ DataW.weights Tryd.prog 24 d, x ≤ reachBytes) :
    ∃ (t : Tk.Tkr) (a : Option Addr) (c : Nat), v = tkV t a c ∧ SmallQ t ∧ Dk.SlI W a t.bo ∧ t.bo.length ≤ c := by
  obtain ⟨u0, u1, u2, u3, u4, u5, u6, u7, u8, u9, y0, y1, y2, y3, y4, y5, y6, y7, y8, y9, m, rfl, hd, g0, g1, g2, g3, g4, g5, g6, g7, g8, g9⟩ := open_agg10 Tryd.underlying24 (by kernel_rfl) cellsT hv h
  obtain ⟨n, e0, q0, _⟩ := DataW.trod_string Tryd.underlying9 g0
  obtain ⟨f, e1, q1, _⟩ := DataW.trod_string Tryd.underlying9 g1
  obtain ⟨x0, e2, q2, _⟩ := DataW.trod_int Tryd.underlying3 g2
  obtain ⟨x1, e3, q3, _⟩ := DataW.trod_int Tryd.underlying3 g3
  obtain ⟨x2, e4, q4, _⟩ := DataW.trod_int Tryd.underlying3 g4
  obtain ⟨x3, e5, q5, _⟩ := DataW.trod_int Tryd.underlying3 g5
  obtain ⟨x5, e7, q7, _⟩ := DataW.trod_int Tryd.underlying3 g7
  obtain ⟨x6, e8, q8, _⟩ := DataW.trod_int Tryd.underlying3 g8
  obtain ⟨x7, e9, q9⟩ := DataW.trod_bool Tryd.underlying4 g9
  simp only [List.cons.injEq, and_true] at e0 e1 e2 e3 e4 e5 e7 e8 e9
  subst e0 e1 e2 e3 e4 e5 e7 e8 e9
  have hz : n.size ≤ 140737488355328 := by
    have h := hw n.data.toList.length (by rw [hd, q0]; simp [DataW.weights, DataW.weightsEach, Tryd.underlying24])
    have e : n.data.toList.length = n.size := by simp
    unfold reachBytes at h
    omega
  have hz1 : f.size ≤ 140737488355328 := by
    have h := hw f.data.toList.length (by rw [hd, q1]; simp [DataW.weights, DataW.weightsEach, Tryd.underlying24])
    have e : f.data.toList.length = f.size := by simp
    unfold reachBytes at h
    omega
  rcases Go.ChangeShapes.open_ints Tryd.underlying22 Tryd.underlying3 cellsI1 g6 with ⟨hcs, hx⟩ | ⟨a, len, cap, zs, hcs, hb, hl, hm, hlen, hx, hel, _⟩
  · simp only [List.cons.injEq, and_true] at hcs
    subst hcs
    exact ⟨⟨n, f, x0, x1, x2, x3, [], x5, x6, x7⟩, none, 0, rfl, ⟨hz, hz1, by simp⟩, fun k hk => by simp at hk, by simp⟩
  · simp only [List.cons.injEq, and_true] at hcs
    subst hcs
    simp only [if_true] at hlen
    have hsub : ∀ y ∈ DataW.weights (H := H) Tryd.prog 22 y6.1, y ≤ reachBytes := fun y hy => hw y (by
      rw [hd]
      simp only [DataW.weights, Tryd.underlying24]
      simp only [List.map_cons, List.map_nil]
      exact DataW.weights_mem_each (j := 6) rfl rfl _ hy)
    obtain ⟨bm, om, spot⟩ := a
    have hspot : len = 0 ∨ spot = none := by
      by_cases h0 : len = 0
      · exact .inl h0
      · right
        simpa [Addr.add] using World.cell?_spot (hel 0 (by omega))
    have htl : (zs.take len).length = len := by rw [List.length_take]; omega
    rcases hspot with h0 | rfl
    · subst h0
      exact ⟨⟨n, f, x0, x1, x2, x3, [], x5, x6, x7⟩, some ⟨bm, om, spot⟩, cap, rfl, ⟨hz, hz1, by simp⟩, fun k hk => by simp at hk, by simp⟩
    · refine ⟨⟨n, f, x0, x1, x2, x3, zs.take len, x5, x6, x7⟩, some ⟨bm, om, none⟩, cap, by simp [tkV, htl]; try omega, ⟨hz, hz1, ?_⟩, fun k hk => ?_, by simp only [htl]; exact hl⟩
      · simp only [htl]
        have hh := hsub (((lits (H := H) .i64 (zs.take len)).length + (lits (H := H) .i64 (zs.drop len)).length) * Tryd.prog.bytesOf 3) (by
          have e : y6.1 = DataW.slice (lits .i64 (zs.take len)) (lits .i64 (zs.drop len)) := by rw [hx]
          rw [e]
          simp [DataW.weights, Tryd.underlying22])
        have hl1 : (lits (H := H) .i64 (zs.take len)).length = len := by unfold lits; rw [List.length_map]; exact htl
        rw [hl1] at hh
        rw [bytesI] at hh
        unfold reachBytes at hh
        omega
      · have hk' : k < len := by simpa [htl] using hk
        have f0 := hel k (by omega)
        simp only [add_plain] at f0
        refine ⟨bm, om, rfl, World.block_lt_of_cell? _ _ f0, ?_⟩
        rw [f0]
        simp only [Dk.nth]
        rw [List.getElem?_take_of_lt hk', List.getD_eq_getElem?_getD]
end Go.Proofs.YtcbfmjjodfnacaaDoor
