/-
  What is asked of the program's disk, whatever it is made of.
-/
import Derived.Test.YtbejicpfhnfnfafPapM
namespace Go.Proofs.Ytbejicpfhnfnfaf.Dk
open Go.RowKit

/-- a number that fits in 64 bits -/
def wf (n : Int) : Prop := (Lit.int .i64 n).wf = true
theorem wf_low {n : Int} (h : 0 ≤ n ∧ n ≤ 1099511627776) : wf n := WalkArith.wf_i64 (by omega)
theorem wf_of {n : Int} (h : inI n 0 1099511627776 = true) : wf n := wf_low (by simpa [inI] using h)
/-- a call may have written the disk's own blocks F alone; it shows es' then, in blocks of its own or new ones -/
def Did (Has : World → Nat → Nat → (Nat → Prop) → Int → List Pap → Prop) (w w' : World) (B q : Nat) (F : Nat → Prop) (m : Int) (es' : List Pap) : Prop := ∃ F', Has w' B q F' m es' ∧ Chg F w w' ∧ ∀ k, F' k → F k ∨ w.heap.size ≤ k
/-- what is asked of the program's disk: Has w B q F m es says that at block q there is a disk of room m that shows the files es, in the blocks F -/
structure Works (Has : World → Nat → Nat → (Nat → Prop) → Int → List Pap → Prop) : Prop where
  own : ∀ {w B q F m es}, Has w B q F m es → ∀ k, F k → B ≤ k ∧ k < w.heap.size
  chg : ∀ {w w' B q F m es} {A : Nat → Prop}, Has w B q F m es → Chg A w w' → (∀ k, F k → ¬ A k) → Has w' B q F m es
  append : ∀ {w B q F m es} (n : Int) (s : ByteArray), Has w B q F m es → Tidy m es → m ≤ 65536 → s.size ≤ 140737488355328 → B ≤ w.heap.size →
    Calls Try.prog 5 #[.pointer (some ⟨q, 0, none⟩), .int .i64 n, .string s] w fun e w' => e = .returned (.int .i64 (appE es m n s)) ∧ Did Has w w' B q F m (appL es m n s)
  sync : ∀ {w B q F m es} (n : Int), wf n → Has w B q F m es → Tidy m es → m ≤ 65536 → B ≤ w.heap.size →
    Calls Try.prog 8 #[.pointer (some ⟨q, 0, none⟩), .int .i64 n] w fun e w' => e = .returned (.int .i64 (hasE es n)) ∧ Did Has w w' B q F m (syncL es n)
  remove : ∀ {w B q F m es} (n : Int), wf n → Has w B q F m es → Tidy m es → m ≤ 65536 → B ≤ w.heap.size →
    Calls Try.prog 7 #[.pointer (some ⟨q, 0, none⟩), .int .i64 n] w fun e w' => e = .returned (.int .i64 (hasE es n)) ∧ Did Has w w' B q F m (remL es n)
  crash : ∀ {w B q F m es} (keep : Int), Has w B q F m es → Tidy m es → m ≤ 65536 → B ≤ w.heap.size →
    Calls Try.prog 9 #[.pointer (some ⟨q, 0, none⟩), .int .i64 keep] w fun e w' => e = .returned (.tuple #[]) ∧ Did Has w w' B q F m (es.map (stopP keep))
  read : ∀ {w B q F m es} (n : Int), wf n → Has w B q F m es → Tidy m es → m ≤ 65536 → B ≤ w.heap.size →
    Calls Try.prog 10 #[.pointer (some ⟨q, 0, none⟩), .int .i64 n] w fun e w' => e = .returned (readV es n) ∧ Did Has w w' B q F m es
  used : ∀ {w B q F m es}, Has w B q F m es → Tidy m es → m ≤ 65536 → B ≤ w.heap.size →
    Calls Try.prog 6 #[.pointer (some ⟨q, 0, none⟩)] w fun e w' => e = .returned (.int .i64 (used es : Int)) ∧ Did Has w w' B q F m es
/-- what is asked of New -/
structure News (Has : World → Nat → Nat → (Nat → Prop) → Int → List Pap → Prop) : Prop where
  bad : ∀ (w : World) (m : Int), inI m 1 65536 = false → Calls Try.prog 4 #[.int .i64 m] w fun e w' => e = .returned (.tuple #[.pointer none, .int .i64 1]) ∧ Below w.heap.size w w'
  good : ∀ (w : World) (m : Int), inI m 1 65536 = true → Calls Try.prog 4 #[.int .i64 m] w fun e w' => ∃ q F, e = .returned (.tuple #[.pointer (some ⟨q, 0, none⟩), .int .i64 0]) ∧ Has w' w.heap.size q F m [] ∧ Below w.heap.size w w'
end Go.Proofs.Ytbejicpfhnfnfaf.Dk
