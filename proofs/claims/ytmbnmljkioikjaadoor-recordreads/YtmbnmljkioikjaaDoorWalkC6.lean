/-
  A record that is handed back: its six cells are read as one value.
-/
import Derived.Test.YtmbnmljkioikjaaDoorWalkC1
import Derived.Laws.Rows
namespace Go.Proofs.YtmbnmljkioikjaaDoor
open Go.RowKit

def recV (r : Pk.Rec) : Value := .agg #[.int .i64 r.k, .int .i64 r.q, .int .i64 r.t, .string (bs r.s), .string (bs r.h), .string (bs r.d)]
theorem load_rec {w : World} {b : Nat} {k q t : Int} {s h d : ByteArray} (r : RB w b k q t s h d) :
    (loadVar 49 ⟨b, 0, none⟩).run Tryd.prog w = .ok (.agg #[.int .i64 k, .int .i64 q, .int .i64 t, .string s, .string h, .string d]) w := by
  have hl : (loadCells ⟨b, 0, none⟩ 6).run Tryd.prog w = .ok #[.int .i64 k, .int .i64 q, .int .i64 t, .string s, .string h, .string d] w :=
    run_loadCells_list (P := Tryd.prog) w ⟨b, 0, none⟩ [.int .i64 k, .int .i64 q, .int .i64 t, .string s, .string h, .string d] (fun j v hv => by
      rw [addp, Nat.zero_add]
      match j, hv with
      | 0, hv => rw [r.c0]; simpa using hv
      | 1, hv => rw [r.c1]; simpa using hv
      | 2, hv => rw [r.c2]; simpa using hv
      | 3, hv => rw [r.c3]; simpa using hv
      | 4, hv => rw [r.c4]; simpa using hv
      | 5, hv => rw [r.c5]; simpa using hv)
  have hz : Tryd.t49.size = 6 := by kernel_rfl
  simp [loadVar, isAgg, sizeOf]
  rw [hz, hl]
  rfl
theorem results_rec2 {fn : Func} {a u : Tmp} {tmps : Array Value} {w : World} {b : Nat} {k q t : Int} {s h d : ByteArray} (hf : fn.results = #[.cell a 49, .tmp u]) (ha : tmps.getD a undef = .pointer (some ⟨b, 0, none⟩)) (r : RB w b k q t s h d) :
    (results fn tmps).run Tryd.prog w = .ok (.tuple #[.agg #[.int .i64 k, .int .i64 q, .int .i64 t, .string s, .string h, .string d], tmps.getD u undef]) w := by
  have ha' : tmps[a]?.getD undef = .pointer (some ⟨b, 0, none⟩) := by simpa using ha
  simp [results, hf, ha', asAddr, load_rec r]
theorem results_rec3 {fn : Func} {a u v : Tmp} {tmps : Array Value} {w : World} {b : Nat} {k q t : Int} {s h d : ByteArray} (hf : fn.results = #[.cell a 49, .tmp u, .tmp v]) (ha : tmps.getD a undef = .pointer (some ⟨b, 0, none⟩)) (r : RB w b k q t s h d) :
    (results fn tmps).run Tryd.prog w = .ok (.tuple #[.agg #[.int .i64 k, .int .i64 q, .int .i64 t, .string s, .string h, .string d], tmps.getD u undef, tmps.getD v undef]) w := by
  have ha' : tmps[a]?.getD undef = .pointer (some ⟨b, 0, none⟩) := by simpa using ha
  simp [results, hf, ha', asAddr, load_rec r]
end Go.Proofs.YtmbnmljkioikjaaDoor
