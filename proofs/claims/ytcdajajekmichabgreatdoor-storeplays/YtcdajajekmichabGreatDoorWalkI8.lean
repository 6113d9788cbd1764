/-
  Contracts of index.Find, slices.Equal at entries, and the document's Drop.
-/
import Derived.Test.YtcdajajekmichabGreatDoorWalk5a
import Derived.Test.YtcdajajekmichabGreatDoorJointWalkI6WalkI7
import Derived.Test.YtcdajajekmichabGreatDoorJointRowFWalkF
import Derived.Deep.RegionHeld3
namespace Go.Proofs.YtcdajajekmichabGreatDoor
open Go.RowKit

theorem neqE (x : Ent) (w : World) : (binOp .neq 115 (.agg #[.string x.1, .int .i64 x.2]) (.agg #[.string x.1, .int .i64 x.2])).run Tryz.prog w = .ok (.bool false) w := by
  have u3 := Tryz.underlying3
  have u9 := Tryz.underlying9
  have hS : Tryz.prog.underlying 115 = some (.struct (Tryz.prog.fieldsOf 115)) := by kernel_rfl
  have hp : Tryz.prog.stoodInHeld 115 = false := by kernel_rfl
  rw [run_neq_struct, show (10000 : Nat) = 9999 + 1 from rfl, run_equalIn_agg w 9999 115 _ _ hS hp]
  simp only [Program.fieldsOf, Tryz.underlying115]
  go_simp
set_option maxHeartbeats 2000000 in
set_option maxRecDepth 100000 in
theorem equal_same (a b : Option Addr) (ca cb : Nat) (es : List Ent) (w : World) (ha : Sl w a es) (hb : Sl w b es) (h100 : es.length ≤ 100) :
    Calls Tryz.prog 72 #[.slice a es.length ca, .slice b es.length cb] w fun e w' => e = .returned (.bool true) ∧ ∃ q, w' = w.drewN q := by
  have Ha := hide ha
  have Hb := hide hb
  clear ha hb
  have hm : Tryz.prog.eqGuardType Tryz.prog.depth 115 = false := by kernel_rfl
  go_enter Tryz.func72, Tryz.ntmps72
  go_wp2
  go_loopw [13] (fun kv wr => ∃ (k : Nat), kv = .int .i64 k ∧ k ≤ es.length ∧ ∃ n, wr = w.drewN n) (fun kv _ => es.length - (intOf kv).toNat)
  case atStart => exact ⟨0, rfl, Nat.zero_le _, 0, rfl⟩
  case round =>
    obtain ⟨k, rfl, hk, n, rfl⟩ := hrel
    by_cases hlt : k < es.length
    · obtain ⟨g, rfl, _, c1, c2⟩ := unhide Ha k hlt
      obtain ⟨h, rfl, _, c3, c4⟩ := unhide Hb k hlt
      have hne := neqE (en es k)
      go_wp2
      go_quiet (fail)
      go_wp2
      exact ⟨⟨k + 1, by go_num, by omega, _, rfl⟩, by simp [intOf]; omega⟩
    · go_wp2
      go_ret
      exact ⟨rfl, n, rfl⟩
end Go.Proofs.YtcdajajekmichabGreatDoor
