/-
  What is asked of the program's disk beyond that: Cut and List.
-/
import Derived.Test.YtkkkcjfgnkkkbabWorksD
namespace Go.Proofs.Ytkkkcjfgnkkkbab.Dk
open Go.RowKit

/-- what is asked of the program's disk, Cut and List too -/
structure More (Has : World → Nat → Nat → (Nat → Prop) → Int → List Pap → Prop) : Prop where
  works : Works Has
  cut : ∀ {w B q F m es} (n size : Int), wf n → Has w B q F m es → Tidy m es → m ≤ 65536 → B ≤ w.heap.size →
    Calls Try.prog 11 #[.pointer (some ⟨q, 0, none⟩), .int .i64 n, .int .i64 size] w fun e w' => e = .returned (.int .i64 (cutE es n size)) ∧ Did Has w w' B q F m (cutL es n size)
  list : ∀ {w B q F m es}, Has w B q F m es → Tidy m es → m ≤ 65536 → B ≤ w.heap.size →
    Calls Try.prog 27 #[.pointer (some ⟨q, 0, none⟩)] w fun e w' => ∃ a c, e = .returned (.slice a es.length c) ∧ SlI w' a (numL es) ∧ Did Has w w' B q F m es
end Go.Proofs.Ytkkkcjfgnkkkbab.Dk
