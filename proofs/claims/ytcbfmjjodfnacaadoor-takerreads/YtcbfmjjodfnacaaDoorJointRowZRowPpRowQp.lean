/-
  A text out of bytes; a place in a block. No walk.
  Cells of a block that are written one behind the other. No walk.
  A consumer's plan that is handed back: its ten cells are read as one value; they are written. No walk.
-/
import Derived.Test.YtcbfmjjodfnacaaDoorBase0
import Derived.Laws.Rows
import Derived.Test.YtcbfmjjodfnacaaDoorJointRowNRowQr
namespace Go.Proofs.YtcbfmjjodfnacaaDoor
open Go.RowKit

/-- a text out of bytes -/
def bs (l : List UInt8) : ByteArray := ⟨l.toArray⟩
theorem bs_list (l : List UInt8) : (bs l).data.toList = l := by simp [bs]
theorem bs_size (l : List UInt8) : (bs l).size = l.length := by simp [bs, ByteArray.size]
theorem addp (b o i : Nat) : (⟨b, o, none⟩ : Addr).add i = ⟨b, o + i, none⟩ := by unfold Addr.add; split <;> simp_all
end Go.Proofs.YtcbfmjjodfnacaaDoor

namespace Go.Proofs.YtcbfmjjodfnacaaDoor
open Go.RowKit

/-- cells of a block that are written one behind the other -/
def puts (W : World) (b : Nat) : Nat → List Value → World
  | _, [] => W
  | o, v :: vs => puts (W.setCell ⟨b, o, none⟩ v) b (o + 1) vs
theorem puts_cell (b : Nat) : ∀ (vs : List Value) (W : World) (o : Nat), (∀ j, j < vs.length → (W.cell? ⟨b, o + j, none⟩).isSome = true) → (∀ j, j < vs.length → (puts W b o vs).cell? ⟨b, o + j, none⟩ = vs[j]?) ∧ ∀ k, k < o → (puts W b o vs).cell? ⟨b, k, none⟩ = W.cell? ⟨b, k, none⟩
  | [], W, o, _ => ⟨fun j hj => by simp at hj, fun k _ => rfl⟩
  | v :: vs, W, o, h => by
    have h2 : ∀ j, j < vs.length → ((W.setCell ⟨b, o, none⟩ v).cell? ⟨b, o + 1 + j, none⟩).isSome = true := fun j hj => by
      rw [World.cell?_setCell_other _ _ _ _ (by intro e; injection e; omega)]
      have := h (j + 1) (by simpa using hj)
      rwa [show o + (j + 1) = o + 1 + j by omega] at this
    obtain ⟨r1, r2⟩ := puts_cell b vs (W.setCell ⟨b, o, none⟩ v) (o + 1) h2
    refine ⟨fun j hj => ?_, fun k hk => ?_⟩
    · cases j with
      | zero =>
        rw [Nat.add_zero]
        show (puts (W.setCell ⟨b, o, none⟩ v) b (o + 1) vs).cell? ⟨b, o, none⟩ = some v
        rw [r2 o (by omega)]
        exact World.cell?_setCell_same' _ _ _ (by have := h 0 (by simp); rwa [Nat.add_zero] at this)
      | succ j =>
        have := r1 j (by simpa using hj)
        rw [show o + (j + 1) = o + 1 + j by omega]
        exact this
    · show (puts (W.setCell ⟨b, o, none⟩ v) b (o + 1) vs).cell? ⟨b, k, none⟩ = _
      rw [r2 k (by omega), World.cell?_setCell_other _ _ _ _ (by intro e; injection e; omega)]
theorem puts_size (b : Nat) : ∀ (vs : List Value) (W : World) (o : Nat), (puts W b o vs).heap.size = W.heap.size
  | [], W, o => rfl
  | v :: vs, W, o => by
    show (puts (W.setCell ⟨b, o, none⟩ v) b (o + 1) vs).heap.size = _
    rw [puts_size b vs]; simp [World.setCell]
theorem puts_below {B b : Nat} (hB : B ≤ b) {w : World} : ∀ (vs : List Value) (W : World) (o : Nat), Below B w W → Below B w (puts W b o vs)
  | [], _, _, h => h
  | v :: vs, _, o, h => puts_below hB vs _ (o + 1) (h.setCell (p := ⟨b, o, none⟩) hB v)
theorem puts_other {b k j : Nat} (h : k ≠ b) : ∀ (vs : List Value) (W : World) (o : Nat), (puts W b o vs).cell? ⟨k, j, none⟩ = W.cell? ⟨k, j, none⟩
  | [], W, o => rfl
  | v :: vs, W, o => by
    show (puts (W.setCell ⟨b, o, none⟩ v) b (o + 1) vs).cell? ⟨k, j, none⟩ = _
    rw [puts_other h vs, World.cell?_setCell_other _ _ _ _ (by intro e; injection e; omega)]
end Go.Proofs.YtcbfmjjodfnacaaDoor

namespace Go.Proofs.YtcbfmjjodfnacaaDoor
open Go.RowKit

theorem load_tk {w : World} {b : Nat} {t : Tk.Tkr} {a : Option Addr} {c : Nat} (r : TB w b t a c) :
    (loadVar 24 ⟨b, 0, none⟩).run Tryd.prog w = .ok (tkV t a c) w := by
  have hl : (loadCells ⟨b, 0, none⟩ 10).run Tryd.prog w = .ok #[.string t.n, .string t.f, .int .i64 t.fr, .int .i64 t.st, .int .i64 t.ack, .int .i64 t.wait, .slice a t.bo.length c, .int .i64 t.mo, .int .i64 t.pe, .bool t.pu] w :=
    run_loadCells_list (P := Tryd.prog) w ⟨b, 0, none⟩ [.string t.n, .string t.f, .int .i64 t.fr, .int .i64 t.st, .int .i64 t.ack, .int .i64 t.wait, .slice a t.bo.length c, .int .i64 t.mo, .int .i64 t.pe, .bool t.pu] (fun j v hv => by
      rw [addp, Nat.zero_add]
      match j, hv with
      | 0, hv => rw [r.c0]; simpa using hv
      | 1, hv => rw [r.c1]; simpa using hv
      | 2, hv => rw [r.c2]; simpa using hv
      | 3, hv => rw [r.c3]; simpa using hv
      | 4, hv => rw [r.c4]; simpa using hv
      | 5, hv => rw [r.c5]; simpa using hv
      | 6, hv => rw [r.c6]; simpa using hv
      | 7, hv => rw [r.c7]; simpa using hv
      | 8, hv => rw [r.c8]; simpa using hv
      | 9, hv => rw [r.c9]; simpa using hv)
  have hz : Tryd.t24.size = 10 := by kernel_rfl
  simp [loadVar, isAgg, sizeOf]
  rw [hz, hl]
  rfl
theorem results_tk2 {fn : Func} {p u : Tmp} {tmps : Array Value} {w : World} {b : Nat} {t : Tk.Tkr} {a : Option Addr} {c : Nat} (hf : fn.results = #[.cell p 24, .tmp u]) (ha : tmps.getD p undef = .pointer (some ⟨b, 0, none⟩)) (r : TB w b t a c) :
    (results fn tmps).run Tryd.prog w = .ok (.tuple #[tkV t a c, tmps.getD u undef]) w := by
  have ha' : tmps[p]?.getD undef = .pointer (some ⟨b, 0, none⟩) := by simpa using ha
  simp [results, hf, ha', asAddr, load_tk r]
/-- a consumer's plan is stored over another one -/
theorem TB.puts {W : World} {b : Nat} {t' : Tk.Tkr} {a' : Option Addr} {c' : Nat} (h : TB W b t' a' c') (t : Tk.Tkr) (a : Option Addr) (c : Nat) : TB (Go.Proofs.YtcbfmjjodfnacaaDoor.puts W b 0 [.string t.n, .string t.f, .int .i64 t.fr, .int .i64 t.st, .int .i64 t.ack, .int .i64 t.wait, .slice a t.bo.length c, .int .i64 t.mo, .int .i64 t.pe, .bool t.pu]) b t a c := by
  have key := (puts_cell b [.string t.n, .string t.f, .int .i64 t.fr, .int .i64 t.st, .int .i64 t.ack, .int .i64 t.wait, .slice a t.bo.length c, .int .i64 t.mo, .int .i64 t.pe, .bool t.pu] W 0 (fun j hj => by
    have : j < 10 := hj
    rw [Nat.zero_add, h.cells j this]
    rfl)).1
  have hsz := puts_size b [.string t.n, .string t.f, .int .i64 t.fr, .int .i64 t.st, .int .i64 t.ack, .int .i64 t.wait, .slice a t.bo.length c, .int .i64 t.mo, .int .i64 t.pe, .bool t.pu] W 0
  exact ⟨Nat.lt_of_lt_of_eq h.lt hsz.symm, key 0 (by simp), key 1 (by simp), key 2 (by simp), key 3 (by simp), key 4 (by simp), key 5 (by simp), key 6 (by simp), key 7 (by simp), key 8 (by simp), key 9 (by simp)⟩
theorem puts_frozen' (b : Nat) : ∀ (vs : List Value) (W : World) (o : Nat) (p : Addr), (Go.Proofs.YtcbfmjjodfnacaaDoor.puts W b o vs).frozen? p = W.frozen? p
  | [], _, _, _ => rfl
  | _ :: vs, _, o, p => by
    show (Go.Proofs.YtcbfmjjodfnacaaDoor.puts _ b (o + 1) vs).frozen? p = _
    rw [puts_frozen' b vs, World.frozen?_setCell]
theorem nums_puts {b : Nat} {a : Option Addr} {l : List Int} (hn : ∀ z, a = some z → z.block ≠ b) (vs : List Value) (W : World) (o : Nat) (h : Dk.SlI W a l) : Dk.SlI (Go.Proofs.YtcbfmjjodfnacaaDoor.puts W b o vs) a l := fun k hk => by
  obtain ⟨b', o', h1, h2, h3⟩ := h k hk
  exact ⟨b', o', h1, by rw [puts_size]; exact h2, by rw [puts_other (hn _ h1)]; exact h3⟩
/-- the result's block, not written yet -/
def Zb (w : World) (b : Nat) : Prop := TB w b Tk.zeroT none 0 ∧ ∀ j, w.frozen? ⟨b, j, none⟩ = false
abbrev tkZ : Obj := .cells #[.string ⟨#[]⟩, .string ⟨#[]⟩, .int .i64 0, .int .i64 0, .int .i64 0, .int .i64 0, .slice none 0 0, .int .i64 0, .int .i64 0, .bool false] 24
theorem Zb.new (w : World) : Zb (w.alloc tkZ) w.heap.size := ⟨TB.new w Tk.zeroT none 0, fun j => World.frozen?_alloc_new _ _ _ j⟩
theorem Zb.next {w w' : World} {b : Nat} (h : Zb w b) (hb : Below w.heap.size w w') : Zb w' b := ⟨h.1.next hb, fun j => by rw [hb.frozen (p := ⟨b, j, none⟩) h.1.lt]; exact h.2 j⟩
theorem Zb.after {w w' : World} {b : Nat} {B : Nat} (h : Zb w b) (hb : Below B w w') (hB : b < B) : Zb w' b := ⟨h.1.same hb.size (fun j => hb.cell (p := ⟨b, j, none⟩) hB), fun j => by rw [hb.frozen (p := ⟨b, j, none⟩) hB]; exact h.2 j⟩
end Go.Proofs.YtcbfmjjodfnacaaDoor
