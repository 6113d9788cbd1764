/-
  The document's store in memory: a row of messages and the last number, in a block of its own; a map of how many messages each subject has. No walk.
-/
import Derived.Test.YtcdajajekmichabGreatDoorJointPapSPapT
import Derived.Test.YtcdajajekmichabGreatDoorJointPapCPapE
import Derived.Test.YtcdajajekmichabGreatDoorJointRowGRowBRowSRowURowV
import Derived.Maps.OwnSet
import Derived.Maps.OwnOps
namespace Go.Proofs.YtcdajajekmichabGreatDoor.Dk
open Go.RowKit

theorem lawS : Maps.Keyed Tryz.prog 9 := Maps.string_keyed Tryz.underlying9
/-- what a subject is as a key -/
def kS (s : ByteArray) : Lit := .string s.data.toList
theorem keyS {s : ByteArray} (h : s.size ≤ maxLen) : keyOf Tryz.prog 9 (.string s) = some (kS s) := WideMaps.keyOf_string_mk Tryz.underlying9 h
theorem kS_ne {a b : ByteArray} (h : a ≠ b) : kS a ≠ kS b := fun e => h (by
  unfold kS at e
  have := Lit.string.inj e
  apply ByteArray.ext
  exact Array.ext' this)
theorem zeroI (w : World) : (zeroValue 3).run Tryz.prog w = .ok (.int .i64 0) w := by kernel_rfl
/-- how many messages each subject has, as a map -/
structure Nam (w : World) (b : Nat) (l : List Rc) (D : DataW Unit) : Prop where
  own : w.ownsMap Tryz.prog 9 (plainElem Tryz.prog 3) b l.length D
  at' : ∀ s : ByteArray, s.size ≤ maxLen → D.atKey (kS s) (.lit (.int .i64 0)) = .lit (.int .i64 (cntN l s : Int))
  has : ∀ s : ByteArray, s.size ≤ maxLen → Maps.has D (kS s) = decide (0 < cntN l s)
  size : Maps.size D = nameN l
theorem Nam.made (w : World) : Nam (w.alloc (.map #[] 0)) w.heap.size [] (.map []) := by
  refine ⟨World.ownsMap_made _ _ _ _, fun s _ => ?_, fun s _ => ?_, rfl⟩
  · simp [DataW.atKey, cntN]
  · simp [Maps.has, cntN]
theorem kS_key (s : ByteArray) : WideAt.IsKeyLit (kS s) := by unfold kS; trivial
theorem Nam.put {w w' : World} {b : Nat} {l : List Rc} {D : DataW Unit} (h : Nam w b l D) (r : Rc) (hs : r.s.size ≤ maxLen) (h' : w'.ownsMap Tryz.prog 9 (plainElem Tryz.prog 3) b (l.length + 1) (D.put (kS r.s) (.lit (.int .i64 ((cntN l r.s : Int) + 1))))) : Nam w' b (l ++ [r]) (D.put (kS r.s) (.lit (.int .i64 ((cntN l r.s : Int) + 1)))) := by
  have hD := h.own.tidy lawS
  refine ⟨by rw [List.length_append, List.length_singleton]; exact h', fun s hz => ?_, fun s hz => ?_, ?_⟩
  · rw [cntN_append, cntN_one]
    by_cases e : r.s = s
    · rw [if_pos e, ← e, Maps.atKey_put_same hD.isMap (kS_key _)]
      simp
    · rw [if_neg e, Maps.atKey_put_other (kS_ne (fun z => e z.symm)), h.at' s hz]
      simp
  · rw [cntN_append, cntN_one]
    by_cases e : r.s = s
    · rw [if_pos e, ← e, Maps.has_put_same hD.isMap (kS_key _)]
      simp
    · rw [if_neg e, Maps.has_put_other (kS_ne (fun z => e z.symm)), h.has s hz]
      simp
  · rw [Maps.size_put hD, h.has _ hs, h.size, nameN_snoc, cntN_has]
    cases decide (0 < cntN l r.s) <;> simp
theorem Nam.drew {w : World} {b : Nat} {l : List Rc} {D : DataW Unit} (h : Nam w b l D) : Nam w.drew b l D := ⟨h.own.drew, h.at', h.has, h.size⟩
theorem Nam.drewN {w : World} {b : Nat} {l : List Rc} {D : DataW Unit} (h : Nam w b l D) (n : Nat) : Nam (w.drewN n) b l D := ⟨h.own, h.at', h.has, h.size⟩
/-- the document's store, in block c -/
def Che (w : World) (B c : Nat) (F : Nat → Prop) (s : Sto) : Prop :=
  ∃ v, (B ≤ c ∧ c < w.heap.size) ∧ w.cell? ⟨c, 0, none⟩ = some v ∧ w.cell? ⟨c, 1, none⟩ = some (.int .i64 s.last) ∧ w.frozen? ⟨c, 0, none⟩ = false ∧ w.frozen? ⟨c, 1, none⟩ = false ∧ ArrR w B v s.l ∧ v.ownBlock ≠ some c ∧ ∀ k, F k ↔ k = c ∨ v.ownBlock = some k
theorem Che.own {w : World} {B c : Nat} {F : Nat → Prop} {s : Sto} (h : Che w B c F s) : ∀ k, F k → B ≤ k ∧ k < w.heap.size := fun k hk => by
  obtain ⟨v, h1, _, _, _, _, h6, _, h8⟩ := h
  rcases (h8 k).1 hk with y | y
  · subst y; exact h1
  · exact World.ownsRow.lt h6 k y
theorem Che.chg {w w' : World} {B c : Nat} {F : Nat → Prop} {s : Sto} {A : Nat → Prop} (h : Che w B c F s) (hc : Chg A w w') (hn : ∀ k, F k → ¬ A k) : Che w' B c F s := by
  obtain ⟨v, h1, h2, h3, h4, h5, h6, h7, h8⟩ := h
  have hcA : ¬ A c := hn c ((h8 c).2 (.inl rfl))
  exact ⟨v, ⟨h1.1, Nat.lt_of_lt_of_le h1.2 hc.size⟩, by rw [hc.cell (p := ⟨c, 0, none⟩) h1.2 hcA]; exact h2, by rw [hc.cell (p := ⟨c, 1, none⟩) h1.2 hcA]; exact h3, by rw [hc.frozen (p := ⟨c, 0, none⟩) h1.2 hcA]; exact h4, by rw [hc.frozen (p := ⟨c, 1, none⟩) h1.2 hcA]; exact h5, h6.chg hc (fun g hg => hn g ((h8 g).2 (.inr hg))), h7, h8⟩
theorem Che.below {w w' : World} {B c : Nat} {F : Nat → Prop} {s : Sto} (h : Che w B c F s) (hb : Below w.heap.size w w') : Che w' B c F s := h.chg (A := fun _ => False) (Chg.of_below hb) (fun _ _ z => z)
/-- the messages of a store, read -/
theorem Che.read {w : World} {B c : Nat} {F : Nat → Prop} {s : Sto} (h : Che w B c F s) : ∃ a cap, w.cell? ⟨c, 0, none⟩ = some (.slice a s.l.length cap) ∧ w.cell? ⟨c, 1, none⟩ = some (.int .i64 s.last) ∧ s.l.length ≤ cap ∧ cap ≤ maxLen ∧ SlR w a s.l ∧ c < w.heap.size := by
  obtain ⟨v, h1, h2, h3, _, _, h6, _⟩ := h
  obtain ⟨a, cap, rfl, x1, x2, x3⟩ := h6.shape
  exact ⟨a, cap, h2, h3, x1, x2, x3, h1.2⟩
theorem seqB_take {l : List Rc} {k : Nat} (h : k < l.length) (n : Int) : seqB (l.take (k + 1)) n = (seqB (l.take k) n || decide ((rc l k).q = n)) := by
  rw [List.take_succ_eq_append_getElem h, rc_get h]
  unfold seqB
  rw [List.any_append]
  simp
end Go.Proofs.YtcdajajekmichabGreatDoor.Dk
