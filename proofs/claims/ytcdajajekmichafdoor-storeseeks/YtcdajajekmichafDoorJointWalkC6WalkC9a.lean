/-
  A record that is handed back: its six cells are read as one value.
  Contract of rillkeep.note.
-/
import Derived.Test.YtcdajajekmichafDoorJointRowGRowBRowSRowURowV
import Derived.Laws.Rows
import Derived.Test.YtcdajajekmichafDoorWalkC3
namespace Go.Proofs.YtcdajajekmichafDoor
open Go.RowKit

def recV (r : Pk.Rec) : Value := .agg #[.int .i64 r.k, .int .i64 r.q, .int .i64 r.t, .string (bs r.s), .string (bs r.h), .string (bs r.d)]
theorem load_rec {w : World} {b : Nat} {k q t : Int} {s h d : ByteArray} (r : RB w b k q t s h d) :
    (loadVar 26 ⟨b, 0, none⟩).run Tryd.prog w = .ok (.agg #[.int .i64 k, .int .i64 q, .int .i64 t, .string s, .string h, .string d]) w := by
  have hl : (loadCells ⟨b, 0, none⟩ 6).run Tryd.prog w = .ok #[.int .i64 k, .int .i64 q, .int .i64 t, .string s, .string h, .string d] w :=
    run_loadCells_list (P := Tryd.prog) w ⟨b, 0, none⟩ [.int .i64 k, .int .i64 q, .int .i64 t, .string s, .string h, .string d] (fun j v hv => by
      rw [addp, Nat.zero_add]
      match j, hv with
      | 0, hv => rw [r.c0]; simpa using hv
      | 1, hv => rw [r.c1]; simpa using hv
      | 2, hv => rw [r.c2]; simpa using hv
      | 3, hv => rw [r.c3]; simpa using hv
      | 4, hv => rw [r.c4]; simpa using hv
      | 5, hv => rw [r.c5]; simpa using hv)
  have hz : Tryd.t26.size = 6 := by kernel_rfl
  simp [loadVar, isAgg, sizeOf]
  rw [hz, hl]
  rfl
theorem results_rec2 {fn : Func} {a u : Tmp} {tmps : Array Value} {w : World} {b : Nat} {k q t : Int} {s h d : ByteArray} (hf : fn.results = #[.cell a 26, .tmp u]) (ha : tmps.getD a undef = .pointer (some ⟨b, 0, none⟩)) (r : RB w b k q t s h d) :
    (results fn tmps).run Tryd.prog w = .ok (.tuple #[.agg #[.int .i64 k, .int .i64 q, .int .i64 t, .string s, .string h, .string d], tmps.getD u undef]) w := by
  have ha' : tmps[a]?.getD undef = .pointer (some ⟨b, 0, none⟩) := by simpa using ha
  simp [results, hf, ha', asAddr, load_rec r]
theorem results_rec3 {fn : Func} {a u v : Tmp} {tmps : Array Value} {w : World} {b : Nat} {k q t : Int} {s h d : ByteArray} (hf : fn.results = #[.cell a 26, .tmp u, .tmp v]) (ha : tmps.getD a undef = .pointer (some ⟨b, 0, none⟩)) (r : RB w b k q t s h d) :
    (results fn tmps).run Tryd.prog w = .ok (.tuple #[.agg #[.int .i64 k, .int .i64 q, .int .i64 t, .string s, .string h, .string d], tmps.getD u undef, tmps.getD v undef]) w := by
  have ha' : tmps[a]?.getD undef = .pointer (some ⟨b, 0, none⟩) := by simpa using ha
  simp [results, hf, ha', asAddr, load_rec r]
end Go.Proofs.YtcdajajekmichafDoor

namespace Go.Proofs.YtcdajajekmichafDoor
open Go.RowKit

theorem results_rec1 {fn : Func} {a : Tmp} {tmps : Array Value} {w : World} {b : Nat} {k q t : Int} {s h d : ByteArray} (hf : fn.results = #[.cell a 26]) (ha : tmps.getD a undef = .pointer (some ⟨b, 0, none⟩)) (r : RB w b k q t s h d) :
    (results fn tmps).run Tryd.prog w = .ok (.agg #[.int .i64 k, .int .i64 q, .int .i64 t, .string s, .string h, .string d]) w := by
  have ha' : tmps[a]?.getD undef = .pointer (some ⟨b, 0, none⟩) := by simpa using ha
  simp [results, hf, ha', asAddr, load_rec r]

set_option maxRecDepth 100000 in
set_option maxHeartbeats 400000 in
theorem note_any (n : Int) (w : World) :
    Calls Tryd.prog 7 #[.int .i64 n] w fun e w' => e = .returned (.agg #[.int .i64 1, .int .i64 n, .int .i64 0, .string ⟨#[97, 46, 98]⟩, .string ⟨#[]⟩, .string ⟨#[120]⟩]) ∧ Below w.heap.size w w' := by
  go_enter Tryd.func7, Tryd.ntmps7
  go_wp2_with fail
  refine bodyPost_ret (results_rec1 rfl rfl (RB.new w 1 n 0 _ _ _ _)) rfl ?_
  exact ⟨rfl, (Below.refl _ _).alloc (Nat.le_refl _) _⟩
theorem note_chk1 : chkV 1 1 0 ⟨#[97, 46, 98]⟩ ⟨#[]⟩ ⟨#[120]⟩ = 0 := by decide +kernel
theorem note_chk2 : chkV 1 2 0 ⟨#[97, 46, 98]⟩ ⟨#[]⟩ ⟨#[120]⟩ = 0 := by decide +kernel
end Go.Proofs.YtcdajajekmichafDoor
