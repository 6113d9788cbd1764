/-
  A consumer's plan, pure: what it is, how long a delivery waits. No program.
-/
import Derived.Test.YtcbfmjjodfnacaaDoorPapD
namespace Go.Proofs.YtcbfmjjodfnacaaDoor.Tk
open Go

/-- a consumer's plan: name, filter, from, start, ack, wait, backoff, most, pending, push -/
structure Tkr where
  n : ByteArray
  f : ByteArray
  fr : Int
  st : Int
  ack : Int
  wait : Int
  bo : List Int
  mo : Int
  pe : Int
  pu : Bool
/-- Wait -/
def waitV (t : Tkr) (nth : Int) : Int := if t.bo = [] then t.wait else (t.bo[(min (max nth 1) (t.bo.length : Int) - 1).toNat]?).getD 0

/-- what a delivery waits, by cases -/
theorem wait_none {t : Tkr} (h : t.bo = []) (n : Int) : waitV t n = t.wait := by unfold waitV; rw [if_pos h]
theorem wait_at {t : Tkr} {n : Int} {k : Nat} (hk : k < t.bo.length) (h : min (max n 1) (t.bo.length : Int) - 1 = (k : Int)) : waitV t n = Dk.nth t.bo k := by
  unfold waitV Dk.nth
  rw [if_neg (by intro z; rw [z] at hk; simp at hk), h]
  rfl
end Go.Proofs.YtcbfmjjodfnacaaDoor.Tk
