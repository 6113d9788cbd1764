/-
  A text out of bytes; a place in a block. No walk.
-/
import Derived.Test.YtcdajajekmichafDoorBase0
namespace Go.Proofs.YtcdajajekmichafDoor
open Go.RowKit

/-- a text out of bytes -/
def bs (l : List UInt8) : ByteArray := ⟨l.toArray⟩
theorem bs_list (l : List UInt8) : (bs l).data.toList = l := by simp [bs]
theorem bs_size (l : List UInt8) : (bs l).size = l.length := by simp [bs, ByteArray.size]
theorem addp (b o i : Nat) : (⟨b, o, none⟩ : Addr).add i = ⟨b, o + i, none⟩ := by unfold Addr.add; split <;> simp_all
end Go.Proofs.YtcdajajekmichafDoor
