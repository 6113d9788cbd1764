/-
  Contract of slices.Equal at two slices that show the same records.
-/
import Derived.Test.YtohjipnkoiifhagGreatDoorJointPlainSPlainR2PapGRowGPapNWorksGPapHWorksFRowBWalkC6RowY
import Derived.Deep.QuietTactic
import Derived.BigQuiet
namespace Go.Proofs.YtohjipnkoiifhagGreatDoor.Dk
open Go.RowKit

theorem neqR (r : Rc) (W : World) : (binOp .neq 30 (.agg #[.int .i64 r.k, .int .i64 r.q, .int .i64 r.t, .string r.s, .string r.h, .string r.d]) (.agg #[.int .i64 r.k, .int .i64 r.q, .int .i64 r.t, .string r.s, .string r.h, .string r.d])).run Tryz.prog W = .ok (.bool false) W := by
  have u3 := Tryz.underlying3
  have u9 := Tryz.underlying9
  have hS : Tryz.prog.underlying 30 = some (.struct (Tryz.prog.fieldsOf 30)) := by kernel_rfl
  have hp : Tryz.prog.stoodInHeld 30 = false := by kernel_rfl
  rw [run_neq_struct, show (10000 : Nat) = 9999 + 1 from rfl, run_equalIn_agg W 9999 30 _ _ hS hp]
  simp only [Program.fieldsOf, Tryz.underlying30]
  go_simp

set_option maxHeartbeats 2000000 in
set_option maxRecDepth 100000 in
theorem equal_rec (a b : Option Addr) (ca cb : Nat) (l : List Rc) (w : World) (ha : SlR w a l) (hb : SlR w b l) (h100 : l.length ≤ 1000000) :
    Calls Tryz.prog 14 #[.slice a l.length ca, .slice b l.length cb] w fun e w' => e = .returned (.bool true) ∧ ∃ q, w' = w.drewN q := by
  have Ha := hide ha
  have Hb := hide hb
  clear ha hb
  have hm : Tryz.prog.eqGuardType Tryz.prog.depth 30 = false := by kernel_rfl
  go_enter Tryz.func14, Tryz.ntmps14
  go_wp2
  go_loopw [13] (fun kv wr => ∃ (k : Nat), kv = .int .i64 k ∧ k ≤ l.length ∧ ∃ n, wr = w.drewN n) (fun kv _ => l.length - (intOf kv).toNat)
  case atStart => exact ⟨0, rfl, Nat.zero_le _, 0, rfl⟩
  case round =>
    obtain ⟨k, rfl, hk, n, rfl⟩ := hrel
    by_cases hlt : k < l.length
    · obtain ⟨g, o, rfl, s1⟩ := unhide Ha k hlt
      obtain ⟨h, o2, rfl, s2⟩ := unhide Hb k hlt
      obtain ⟨_, x0, x1, x2, x3, x4, x5⟩ := s1
      obtain ⟨_, y0, y1, y2, y3, y4, y5⟩ := s2
      have hne := neqR (rc l k)
      go_wp2
      go_quiet (fail)
      go_wp2
      exact ⟨⟨k + 1, by go_num, by omega, _, rfl⟩, by simp [intOf]; omega⟩
    · go_wp2
      go_ret
      exact ⟨rfl, n, rfl⟩
end Go.Proofs.YtohjipnkoiifhagGreatDoor.Dk
