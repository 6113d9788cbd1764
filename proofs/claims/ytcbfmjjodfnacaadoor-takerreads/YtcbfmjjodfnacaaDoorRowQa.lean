/-
  A consumer's plan in memory: ten cells in a block. No walk.
-/
import Derived.Test.YtcbfmjjodfnacaaDoorPapQ0
import Derived.Test.YtcbfmjjodfnacaaDoorBase0
namespace Go.Proofs.YtcbfmjjodfnacaaDoor
open Go.RowKit

/-- a consumer's plan as a value -/
abbrev tkV (t : Tk.Tkr) (a : Option Addr) (c : Nat) : Value := .agg #[.string t.n, .string t.f, .int .i64 t.fr, .int .i64 t.st, .int .i64 t.ack, .int .i64 t.wait, .slice a t.bo.length c, .int .i64 t.mo, .int .i64 t.pe, .bool t.pu]
abbrev tkO (t : Tk.Tkr) (a : Option Addr) (c : Nat) : Obj := .cells #[.string t.n, .string t.f, .int .i64 t.fr, .int .i64 t.st, .int .i64 t.ack, .int .i64 t.wait, .slice a t.bo.length c, .int .i64 t.mo, .int .i64 t.pe, .bool t.pu] 24
/-- its cells in block b -/
structure TB (w : World) (b : Nat) (t : Tk.Tkr) (a : Option Addr) (c : Nat) : Prop where
  lt : b < w.heap.size
  c0 : w.cell? ⟨b, 0, none⟩ = some (.string t.n)
  c1 : w.cell? ⟨b, 1, none⟩ = some (.string t.f)
  c2 : w.cell? ⟨b, 2, none⟩ = some (.int .i64 t.fr)
  c3 : w.cell? ⟨b, 3, none⟩ = some (.int .i64 t.st)
  c4 : w.cell? ⟨b, 4, none⟩ = some (.int .i64 t.ack)
  c5 : w.cell? ⟨b, 5, none⟩ = some (.int .i64 t.wait)
  c6 : w.cell? ⟨b, 6, none⟩ = some (.slice a t.bo.length c)
  c7 : w.cell? ⟨b, 7, none⟩ = some (.int .i64 t.mo)
  c8 : w.cell? ⟨b, 8, none⟩ = some (.int .i64 t.pe)
  c9 : w.cell? ⟨b, 9, none⟩ = some (.bool t.pu)
theorem TB.same {w w' : World} {b : Nat} {t : Tk.Tkr} {a : Option Addr} {c : Nat} (h : TB w b t a c) (hs : w.heap.size ≤ w'.heap.size) (e : ∀ j, w'.cell? ⟨b, j, none⟩ = w.cell? ⟨b, j, none⟩) : TB w' b t a c :=
  ⟨Nat.lt_of_lt_of_le h.lt hs, by rw [e]; exact h.c0, by rw [e]; exact h.c1, by rw [e]; exact h.c2, by rw [e]; exact h.c3, by rw [e]; exact h.c4, by rw [e]; exact h.c5, by rw [e]; exact h.c6, by rw [e]; exact h.c7, by rw [e]; exact h.c8, by rw [e]; exact h.c9⟩
theorem TB.next {w w' : World} {b : Nat} {t : Tk.Tkr} {a : Option Addr} {c : Nat} (h : TB w b t a c) (hb : Below w.heap.size w w') : TB w' b t a c := h.same hb.size (fun j => hb.cell (p := ⟨b, j, none⟩) h.lt)
theorem TB.new (w : World) (t : Tk.Tkr) (a : Option Addr) (c : Nat) : TB (w.alloc (tkO t a c)) w.heap.size t a c := ⟨by simp, by simp, by simp, by simp, by simp, by simp, by simp, by simp, by simp, by simp, by simp⟩
theorem nums_on {w w' : World} {a : Option Addr} {l : List Int} (h : Dk.SlI w a l) (hb : Below w.heap.size w w') : Dk.SlI w' a l := fun k hk => by
  obtain ⟨b, o, h1, h2, h3⟩ := h k hk
  exact ⟨b, o, h1, Nat.lt_of_lt_of_le h2 hb.size, by rw [hb.cell (p := ⟨b, o + k, none⟩) h2]; exact h3⟩
/-- a consumer's plan that isn't too great for any machine -/
structure SmallQ (t : Tk.Tkr) : Prop where
  name : t.n.size ≤ 140737488355328
  filt : t.f.size ≤ 140737488355328
  many : t.bo.length ≤ 140737488355328
end Go.Proofs.YtcbfmjjodfnacaaDoor
