/-
  The entries that a filter takes, one by one. No walk.
-/
import Derived.Test.YtcdajajekmichaaDoorPlain5
import Derived.Test.YtcdajajekmichaaDoorWalkI3
namespace Go.Proofs.YtcdajajekmichaaDoor
open Go.RowKit

theorem find_succ (es : List Ent) (f : ByteArray) (k : Nat) (hk : k < es.length) : findL (es.take (k + 1)) f = findL (es.take k) f ++ (if matchB f (en es k).1 then [en es k] else []) := by
  unfold findL
  rw [List.take_succ_eq_append_getElem hk, List.filter_append, ← en_get hk]
  cases h : matchB f (en es k).1 <;> simp [h]
theorem find_len (es : List Ent) (f : ByteArray) (k : Nat) : (findL (es.take k) f).length ≤ es.length := by
  unfold findL
  exact Nat.le_trans (List.length_filter_le _ _) (by rw [List.length_take]; omega)
theorem ret_ve {v : Value} {a b : Int} (h : b = a) : Ending.returned (.tuple #[v, .int .i64 a]) = .returned (.tuple #[v, .int .i64 b]) := by rw [h]
theorem two_row (w : World) (x : Ent) : ∀ j u, (cel [x])[j]? = some u → (w.alloc (.cells #[.string x.1, .int .i64 x.2] 45)).cell? ((⟨w.heap.size, 0, none⟩ : Addr).add j) = some u := by
  intro j u hj
  rw [Addr.add_lit, Nat.zero_add]
  exact (one_row (heap_alloc_new w _)).1 j u hj
end Go.Proofs.YtcdajajekmichaaDoor
