/-
  What is asked of the program's package plan, whatever it is made of.
-/
import Derived.Test.YtohjipnkoiifhagDoorJointRowPlRowPsRowPv
import Derived.Test.YtohjipnkoiifhagDoorJointPapPbPapPcPapPd
namespace Go.Proofs.YtohjipnkoiifhagDoor
open Go.RowKit

/-- Print's answer -/
def printV (p : Pn.Pln) : Value := if Pn.planE p ≠ 0 then .tuple #[.string ⟨#[]⟩, .int .i64 (Pn.planE p)] else if Pn.commas p = true then .tuple #[.string ⟨#[]⟩, .int .i64 3] else .tuple #[.string (Pn.planT p), .int .i64 0]
/-- what is asked of Check and Print; G is what the tables are asked to be -/
structure PSays (G : World → Prop) : Prop where
  check : ∀ (p : Pn.Pln) (a : Option Addr) (c : Nat) (w : World), SmallP p → SlS w a p.f → p.f.length ≤ c → G w →
    Calls Tryd.prog 8 #[plV p a c] w fun e w' => e = .returned (.int .i64 (Pn.planE p)) ∧ Below w.heap.size w w'
  print : ∀ (p : Pn.Pln) (a : Option Addr) (c : Nat) (w : World), SmallP p → SlS w a p.f → p.f.length ≤ c → G w →
    Calls Tryd.prog 5 #[plV p a c] w fun e w' => e = .returned (printV p) ∧ Below w.heap.size w w'
/-- what is asked of Parse -/
structure PReads (G : World → Prop) : Prop where
  parse : ∀ (s : ByteArray) (w : World), s.size ≤ 140737488355328 → G w →
    Calls Tryd.prog 6 #[.string s] w fun e w' => ∃ a c, e = .returned (.tuple #[plV (Pn.readP s).1 a c, .int .i64 (Pn.readP s).2]) ∧ SlS w' a (Pn.readP s).1.f ∧ Below w.heap.size w w' ∧ (Pn.readP s).1.f.length ≤ c
end Go.Proofs.YtohjipnkoiifhagDoor
