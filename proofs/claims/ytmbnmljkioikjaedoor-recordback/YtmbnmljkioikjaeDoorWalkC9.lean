/-
  Contract of rillkeep.note; two such records encoded.
-/
import Derived.Test.YtmbnmljkioikjaeDoorWalkC4
import Derived.Test.YtmbnmljkioikjaeDoorWalkC8
namespace Go.Proofs.YtmbnmljkioikjaeDoor
open Go.RowKit

theorem results_rec1 {fn : Func} {a : Tmp} {tmps : Array Value} {w : World} {b : Nat} {k q t : Int} {s h d : ByteArray} (hf : fn.results = #[.cell a 23]) (ha : tmps.getD a undef = .pointer (some ⟨b, 0, none⟩)) (r : RB w b k q t s h d) :
    (results fn tmps).run Tryd.prog w = .ok (.agg #[.int .i64 k, .int .i64 q, .int .i64 t, .string s, .string h, .string d]) w := by
  have ha' : tmps[a]?.getD undef = .pointer (some ⟨b, 0, none⟩) := by simpa using ha
  simp [results, hf, ha', asAddr, load_rec r]

set_option maxRecDepth 100000 in
set_option maxHeartbeats 400000 in
theorem note_any (n : Int) (w : World) :
    Calls Tryd.prog 7 #[.int .i64 n] w fun e w' => e = .returned (.agg #[.int .i64 1, .int .i64 n, .int .i64 0, .string ⟨#[97, 46, 98]⟩, .string ⟨#[]⟩, .string ⟨#[120]⟩]) ∧ Below w.heap.size w w' := by
  go_enter Tryd.func7, Tryd.ntmps7
  go_wp2_with fail
  refine bodyPost_ret (results_rec1 rfl rfl (RB.new w 1 n 0 _ _ _ _)) rfl ?_
  exact ⟨rfl, (Below.refl _ _).alloc (Nat.le_refl _) _⟩
theorem note_chk1 : chkV 1 1 0 ⟨#[97, 46, 98]⟩ ⟨#[]⟩ ⟨#[120]⟩ = 0 := by decide +kernel
theorem note_chk2 : chkV 1 2 0 ⟨#[97, 46, 98]⟩ ⟨#[]⟩ ⟨#[120]⟩ = 0 := by decide +kernel
theorem note_cod1 : Pk.cod ⟨1, 1, 0, [97, 46, 98], [], [120]⟩ = [10, 1, 1, 0, 3, 97, 46, 98, 0, 1, 120, 203, 183, 104, 65] := by decide +kernel
theorem note_cod2 : Pk.cod ⟨1, 2, 0, [97, 46, 98], [], [120]⟩ = [10, 1, 2, 0, 3, 97, 46, 98, 0, 1, 120, 14, 139, 229, 120] := by decide +kernel
theorem note_enc1 : encV 1 1 0 ⟨#[97, 46, 98]⟩ ⟨#[]⟩ ⟨#[120]⟩ = .tuple #[.string ⟨#[10, 1, 1, 0, 3, 97, 46, 98, 0, 1, 120, 203, 183, 104, 65]⟩, .int .i64 0] := by
  rw [encV_good note_chk1, note_cod1]; rfl
theorem note_enc2 : encV 1 2 0 ⟨#[97, 46, 98]⟩ ⟨#[]⟩ ⟨#[120]⟩ = .tuple #[.string ⟨#[10, 1, 2, 0, 3, 97, 46, 98, 0, 1, 120, 14, 139, 229, 120]⟩, .int .i64 0] := by
  rw [encV_good note_chk2, note_cod2]; rfl
end Go.Proofs.YtmbnmljkioikjaeDoor
