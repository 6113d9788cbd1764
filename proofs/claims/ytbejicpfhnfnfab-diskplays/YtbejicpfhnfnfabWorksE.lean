/-
  What is asked of the program's disk beyond that: Cut and List.
-/
import Derived.Test.YtbejicpfhnfnfabWorksD
namespace Go.Proofs.Ytbejicpfhnfnfab.Dk
open Go.RowKit

/-- what is asked of a disk that is only looked at -/
structure Looks (Has : World → Nat → Nat → (Nat → Prop) → Int → List Pap → Prop) : Prop where
  own : ∀ {w B q F m es}, Has w B q F m es → ∀ k, F k → B ≤ k ∧ k < w.heap.size
  chg : ∀ {w w' B q F m es} {A : Nat → Prop}, Has w B q F m es → Chg A w w' → (∀ k, F k → ¬ A k) → Has w' B q F m es
  read : ∀ {w B q F m es} (n : Int), wf n → Has w B q F m es → Tidy m es → m ≤ 65536 → B ≤ w.heap.size →
    Calls Try.prog 7 #[.pointer (some ⟨q, 0, none⟩), .int .i64 n] w fun e w' => e = .returned (readV es n) ∧ Did Has w w' B q F m es
  used : ∀ {w B q F m es}, Has w B q F m es → Tidy m es → m ≤ 65536 → B ≤ w.heap.size →
    Calls Try.prog 26 #[.pointer (some ⟨q, 0, none⟩)] w fun e w' => e = .returned (.int .i64 (used es : Int)) ∧ Did Has w w' B q F m es
  list : ∀ {w B q F m es}, Has w B q F m es → Tidy m es → m ≤ 65536 → B ≤ w.heap.size →
    Calls Try.prog 28 #[.pointer (some ⟨q, 0, none⟩)] w fun e w' => ∃ a c, e = .returned (.slice a es.length c) ∧ SlI w' a (numL es) ∧ Did Has w w' B q F m es
/-- what is asked of the program's disk, Cut and List too -/
structure More (Has : World → Nat → Nat → (Nat → Prop) → Int → List Pap → Prop) : Prop where
  works : Works Has
  cut : ∀ {w B q F m es} (n size : Int), wf n → Has w B q F m es → Tidy m es → m ≤ 65536 → B ≤ w.heap.size →
    Calls Try.prog 11 #[.pointer (some ⟨q, 0, none⟩), .int .i64 n, .int .i64 size] w fun e w' => e = .returned (.int .i64 (cutE es n size)) ∧ Did Has w w' B q F m (cutL es n size)
  list : ∀ {w B q F m es}, Has w B q F m es → Tidy m es → m ≤ 65536 → B ≤ w.heap.size →
    Calls Try.prog 28 #[.pointer (some ⟨q, 0, none⟩)] w fun e w' => ∃ a c, e = .returned (.slice a es.length c) ∧ SlI w' a (numL es) ∧ Did Has w w' B q F m es
theorem More.looks {Has : World → Nat → Nat → (Nat → Prop) → Int → List Pap → Prop} (H : More Has) : Looks Has := ⟨H.works.own, H.works.chg, H.works.read, H.works.used, H.list⟩
end Go.Proofs.Ytbejicpfhnfnfab.Dk
