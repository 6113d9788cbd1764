/-
  Contract of slices.Equal at two rows of the same numbers.
-/
import Derived.Test.YtcbfmjjodfnacaaDoorJointRowNRowQr
namespace Go.Proofs.YtcbfmjjodfnacaaDoor.Dk
open Go.RowKit

set_option maxHeartbeats 2000000 in
set_option maxRecDepth 100000 in
theorem equal_nums (a b : Option Addr) (ca cb : Nat) (l : List Int) (w : World) (ha : SlI w a l) (hb : SlI w b l) (h100 : l.length ≤ 200000) :
    Calls Tryd.prog 29 #[.slice a l.length ca, .slice b l.length cb] w fun e w' => e = .returned (.bool true) ∧ ∃ q, w' = w.drewN q := by
  have Ha := hide ha
  have Hb := hide hb
  clear ha hb
  go_enter Tryd.func29, Tryd.ntmps29
  go_wp2
  go_loopw [13] (fun kv wr => ∃ (k : Nat), kv = .int .i64 k ∧ k ≤ l.length ∧ ∃ n, wr = w.drewN n) (fun kv _ => l.length - (intOf kv).toNat)
  case atStart => exact ⟨0, rfl, Nat.zero_le _, 0, rfl⟩
  case round =>
    obtain ⟨k, rfl, hk, n, rfl⟩ := hrel
    by_cases hlt : k < l.length
    · obtain ⟨g, o, rfl, _, c1⟩ := unhide Ha k hlt
      obtain ⟨h, o2, rfl, _, c2⟩ := unhide Hb k hlt
      go_wp2
      go_quiet (fail)
      go_wp2
      exact ⟨⟨k + 1, by go_num, by omega, _, rfl⟩, by simp [intOf]; omega⟩
    · go_wp2
      go_ret
      exact ⟨rfl, n, rfl⟩
end Go.Proofs.YtcbfmjjodfnacaaDoor.Dk
