/-
  What the row's listed tables say of the world: the order of a consumer's words. No walk.
-/
import Derived.Test.YtcbfmjjodfnacaaDoorJointRowTmRowTa
import Derived.Test.YtcbfmjjodfnacaaDoorWalkQh
namespace Go.Proofs.YtcbfmjjodfnacaaDoor
open Go.RowKit

/-- an array of texts that reads as the list holds just these texts -/
theorem cells_of_seven {H : Type} {enc : TypeId × Value → H} {P : Program} {w : World} {base : Nat} {sp : Nat → Bool} {held : Bool} {fuel : Nat} {t e : TypeId} {n : Nat} {cs : List Value} {zs : List (List UInt8)} {p : List MemPlace}
    (ht : P.underlying t = some (.array n e)) (he : P.underlying e = some .string) (hce : P.cellsOf e = 1) (hct : P.cellsOf t = n)
    (h : DataW.trod enc P w base sp held fuel t cs = some (.agg (zs.map fun z => .lit (.string z)), p)) : cs = zs.map fun z => Value.string (Pn.bs z) := by
  cases fuel with
  | zero => simp [DataW.trod] at h
  | succ fuel =>
    simp only [DataW.trod, ht, hce, hct, Nat.mul_one] at h
    split at h
    · rename_i hl
      obtain ⟨xs, hm, hx⟩ := Option.map_eq_some_iff.1 h
      have hxs : xs.map (·.1) = zs.map fun z => (DataW.lit (.string z) : DataW H) := by
        have := congrArg Prod.fst hx
        simpa using this
      have hxl : xs.length = n := by simpa using Lib.mapM_length hm
      have hzl : zs.length = n := by
        have := congrArg List.length hxs
        simp at this
        omega
      apply List.ext_getElem?
      intro i
      by_cases hi : i < n
      · obtain ⟨b, hb, hf⟩ := Lib.mapM_at hm i i (by simp [hi])
        obtain ⟨z, hc, rfl, _⟩ := DataW.trod_string he hf
        have h1 : cs[i]? = some (.string z) := by
          have := congrArg (·[0]?) hc
          simpa [List.getElem?_take, List.getElem?_drop] using this
        have h2 : (xs.map (·.1))[i]? = some (DataW.lit (.string z.data.toList) : DataW H) := by simp [hb]
        rw [hxs] at h2
        simp only [List.getElem?_map, Option.map_eq_some_iff, DataW.lit.injEq, Lit.string.injEq] at h2
        obtain ⟨z', hz', rfl⟩ := h2
        simp [h1, hz', Pn.bs_list]
      · rw [List.getElem?_eq_none (by omega), List.getElem?_eq_none (by simp; omega)]
    · cases h
theorem order_laid : (Rows.laid_rillbook_taker_order : DataW Unit) = .agg ((Tk.seven.map Tk.hd).map fun z => .lit (.string z)) := rfl
theorem ord_of {W : World} {l : List (String × DataW Unit)} (h : laidMet Tryd.prog l W) (hm : ("rillbook/taker.order", Rows.laid_rillbook_taker_order) ∈ l) : OrdIs W := by
  obtain ⟨ps, hl, _⟩ := h
  obtain ⟨g, t, cs, fuel, p, h1, h2, h3, h4⟩ := laid_mem hl _ hm
  have hg : Tryd.prog.globalNamed "rillbook/taker.order" = some 0 := by kernel_rfl
  obtain rfl : g = 0 := Option.some.inj (h1.symm.trans hg)
  obtain rfl : t = 41 := Option.some.inj (h2.symm.trans (show (Tryd.prog.globals[0]?).map (·.type) = some 41 by kernel_rfl))
  have h5 : DataW.trod (fun _ => ()) Tryd.prog W 0 (fun _ => true) false fuel 41 cs.toList = some (.agg ((Tk.seven.map Tk.hd).map fun z => .lit (.string z)), p) := h4
  have hcs := cells_of_seven Tryd.underlying41 Tryd.underlying9 (by kernel_rfl) (by kernel_rfl) h5
  have hcell : ∀ i, i < 7 → W.cell? ⟨0, i, none⟩ = some (.string (Pn.bs (Tk.hd i))) := fun i hi => by
    have := World.var?_cell hg h3 i
    rw [this, ← Array.getElem?_toList, hcs, List.getElem?_map]
    have : i = 0 ∨ i = 1 ∨ i = 2 ∨ i = 3 ∨ i = 4 ∨ i = 5 ∨ i = 6 := by omega
    rcases this with rfl | rfl | rfl | rfl | rfl | rfl | rfl <;> rfl
  exact ⟨World.block_lt_of_cell? _ _ (hcell 0 (by omega)), hcell⟩
end Go.Proofs.YtcbfmjjodfnacaaDoor
