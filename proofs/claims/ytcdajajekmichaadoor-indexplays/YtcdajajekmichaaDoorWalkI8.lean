/-
  Contracts of index.Find, slices.Equal at entries, and the document's Drop.
-/
import Derived.Test.YtcdajajekmichaaDoorWalk5a
import Derived.Test.YtcdajajekmichaaDoorWalkI7
import Derived.Test.YtcdajajekmichaaDoorWalkF
import Derived.Deep.RegionHeld3
namespace Go.Proofs.YtcdajajekmichaaDoor
open Go.RowKit

theorem neqE (x : Ent) (w : World) : (binOp .neq 45 (.agg #[.string x.1, .int .i64 x.2]) (.agg #[.string x.1, .int .i64 x.2])).run Tryd.prog w = .ok (.bool false) w := by
  have u3 := Tryd.underlying3
  have u9 := Tryd.underlying9
  have hS : Tryd.prog.underlying 45 = some (.struct (Tryd.prog.fieldsOf 45)) := by kernel_rfl
  have hp : Tryd.prog.stoodInHeld 45 = false := by kernel_rfl
  rw [run_neq_struct, show (10000 : Nat) = 9999 + 1 from rfl, run_equalIn_agg w 9999 45 _ _ hS hp]
  simp only [Program.fieldsOf, Tryd.underlying45]
  go_simp
set_option maxHeartbeats 2000000 in
set_option maxRecDepth 100000 in
theorem equal_same (a b : Option Addr) (ca cb : Nat) (es : List Ent) (w : World) (ha : Sl w a es) (hb : Sl w b es) (h100 : es.length ≤ 100) :
    Calls Tryd.prog 27 #[.slice a es.length ca, .slice b es.length cb] w fun e w' => e = .returned (.bool true) ∧ ∃ q, w' = w.drewN q := by
  have Ha := hide ha
  have Hb := hide hb
  clear ha hb
  have hm : Tryd.prog.eqGuardType Tryd.prog.depth 45 = false := by kernel_rfl
  go_enter Tryd.func27, Tryd.ntmps27
  go_wp2
  go_loopw [13] (fun kv wr => ∃ (k : Nat), kv = .int .i64 k ∧ k ≤ es.length ∧ ∃ n, wr = w.drewN n) (fun kv _ => es.length - (intOf kv).toNat)
  case atStart => exact ⟨0, rfl, Nat.zero_le _, 0, rfl⟩
  case round =>
    obtain ⟨k, rfl, hk, n, rfl⟩ := hrel
    by_cases hlt : k < es.length
    · obtain ⟨g, rfl, _, c1, c2⟩ := unhide Ha k hlt
      obtain ⟨h, rfl, _, c3, c4⟩ := unhide Hb k hlt
      have hne := neqE (en es k)
      go_wp2
      go_quiet (fail)
      go_wp2
      exact ⟨⟨k + 1, by go_num, by omega, _, rfl⟩, by simp [intOf]; omega⟩
    · go_wp2
      go_ret
      exact ⟨rfl, n, rfl⟩
end Go.Proofs.YtcdajajekmichaaDoor
