/-
  Numbers in a row of one's own. No walk.
  A consumer's plan that is being read: its block, its numbers in a row of one's own behind it. No walk.
-/
import Derived.Test.YtcbfmjjodfnacaaDoorPapD
import Derived.Test.YtcbfmjjodfnacaaDoorBase0
import Derived.Deep.AppendSrc
import Derived.Test.YtcbfmjjodfnacaaDoorRowQa
import Derived.Test.YtcbfmjjodfnacaaDoorPapQa
namespace Go.Proofs.YtcbfmjjodfnacaaDoor.Dk
open Go.RowKit

/-- numbers in a row of one's own -/
def Nums (w : World) (B : Nat) (v : Value) (l : List Int) : Prop := w.ownsRow B 3 1 v l.length (l.map (Value.int .i64))
theorem infoI : (Tryd.prog.info? 3).map (fun i => (i.zero, i.size, i.bytes)) = some (some (.int .i64 0), 1, 8) := by kernel_rfl
theorem one_num (n : Int) : ∀ u ∈ [Value.int .i64 n], u.oneCell' = true := by
  intro u hu; simp at hu; subst hu; rfl
theorem nums_next {w0 wr w1 : World} {v v' : Value} {l : List Int} {n : Int} {o : Obj} (hown : Nums wr w0.heap.size v l) (hb : Below w0.heap.size w0 wr)
    (h1 : w1.ownsRow w0.heap.size 3 1 v' (l.length + 1) ((l.map (Value.int .i64)) ++ [.int .i64 n])) (hg : (wr.alloc o).grownBy w1 v.ownBlock) :
    Nums w1 w0.heap.size v' (l ++ [n]) ∧ Below w0.heap.size w0 w1 := by
  refine ⟨?_, ?_⟩
  · unfold Nums
    rw [List.map_append, List.map_cons, List.map_nil, List.length_append]
    exact h1
  · have hs := hb.size
    refine (hb.alloc (by omega) o).grown hg (by simp; omega) ?_
    intro j hj
    exact (World.ownsRow.lt hown j hj).1
theorem Nums.sl {w : World} {B : Nat} {v : Value} {l : List Int} (h : Nums w B v l) : ∃ a cap, v = .slice a l.length cap ∧ SlI w a l := by
  rcases h.2 with ⟨h1, h2⟩ | ⟨g, cap, cur, h1, h2, h3, h4, h5, h6, h7⟩
  · exact ⟨none, 0, by rw [h1, h2], fun k hk => by omega⟩
  · refine ⟨_, cap, h1, fun k hk => ⟨g, 0, rfl, (h.lt g (by rw [h1]; rfl)).2, ?_⟩⟩
    rw [Nat.zero_add]
    rw [h1] at h
    rw [World.ownsRow.cellAt h _ (by omega)]
    rw [List.getElem?_map, List.getElem?_eq_getElem hk]
    unfold nth
    rw [List.getElem?_eq_getElem hk]
    rfl
theorem Nums.below {w w' : World} {B : Nat} {v : Value} {l : List Int} (h : Nums w B v l) (hb : Below w.heap.size w w') : Nums w' B v l := by
  refine ⟨h.1, ?_⟩
  rcases h.2 with q | ⟨g, cap, cur, h1, h2, h3, r⟩
  · exact .inl q
  · refine .inr ⟨g, cap, cur, h1, h2, ?_, r⟩
    rw [hb.block g (World.ownsRow.lt h g (by rw [h1]; rfl)).2]
    exact h3
theorem Nums.chg {A : Nat → Prop} {w w' : World} {B : Nat} {v : Value} {l : List Int} (h : Nums w B v l) (hb : Chg A w w') (hn : ∀ g, B ≤ g → ¬ A g) : Nums w' B v l := by
  refine ⟨h.1, ?_⟩
  rcases h.2 with q | ⟨g, cap, cur, h1, h2, h3, r⟩
  · exact .inl q
  · refine .inr ⟨g, cap, cur, h1, h2, ?_, r⟩
    rw [hb.block g (World.ownsRow.lt h g (by rw [h1]; rfl)).2 (hn g h2)]
    exact h3
theorem Nums.shape {w : World} {B : Nat} {v : Value} {l : List Int} (h : Nums w B v l) : ∃ a cap, v = .slice a l.length cap ∧ l.length ≤ cap ∧ cap ≤ maxLen := by
  rcases h.2 with ⟨h1, h2⟩ | ⟨g, cap, cur, h1, h2, h3, h4, h5, h6⟩
  · exact ⟨none, 0, by rw [h1, h2], by omega, by unfold maxLen; omega⟩
  · exact ⟨_, cap, h1, h4, h5⟩
/-- one number more: where the new row lies -/
theorem append_num (w : World) (B : Nat) (ty : TypeId) (v : Value) (l : List Int) (n : Int) (ha : Nums w B v l) (a : Addr) (c : Nat) (hnews : w.cell? a = some (.int .i64 n)) (hl : l.length ≤ 200000) (hB : B ≤ w.heap.size) :
    ∃ v' w', (Builtin.append_ #[22, 22] ty #[v, .slice (some a) 1 c]).run Tryd.prog w = .ok v' w' ∧ Nums w' B v' (l ++ [n]) ∧ Chg (fun k => v.ownBlock = some k) w w' := by
  obtain ⟨i0, hi, hz0, hz1, hz2⟩ := info_parts infoI
  obtain ⟨v', w', hr, h2, h3, h4⟩ := run_append_own (P := Tryd.prog) w B 22 ty 3 i0 _ 1 8 Tryd.underlying22 hi hz0 hz1 hz2 rfl (by omega) v l.length (l.map (Value.int .i64)) ha a 1 c [.int .i64 n] rfl (fun j u hj => by
    match j, hj with
    | 0, hj =>
      rw [show a.add 0 = a from rfl, hnews]
      simpa using hj) (one_num n) (by unfold maxLen; omega) (by omega) hB
  refine ⟨v', w', hr, ?_, Chg.of_grown h3⟩
  unfold Nums
  rw [List.length_append, List.map_append]
  exact h2
end Go.Proofs.YtcbfmjjodfnacaaDoor.Dk

namespace Go.Proofs.YtcbfmjjodfnacaaDoor
open Go.RowKit

/-- its cells, by number -/
def tkC (t : Tk.Tkr) (a : Option Addr) (c : Nat) : Nat → Value
  | 0 => .string t.n
  | 1 => .string t.f
  | 2 => .int .i64 t.fr
  | 3 => .int .i64 t.st
  | 4 => .int .i64 t.ack
  | 5 => .int .i64 t.wait
  | 6 => .slice a t.bo.length c
  | 7 => .int .i64 t.mo
  | 8 => .int .i64 t.pe
  | _ => .bool t.pu
theorem TB.of {w : World} {b : Nat} {t : Tk.Tkr} {a : Option Addr} {c : Nat} (hb : b < w.heap.size) (h : ∀ j, j < 10 → w.cell? ⟨b, j, none⟩ = some (tkC t a c j)) : TB w b t a c :=
  ⟨hb, h 0 (by omega), h 1 (by omega), h 2 (by omega), h 3 (by omega), h 4 (by omega), h 5 (by omega), h 6 (by omega), h 7 (by omega), h 8 (by omega), h 9 (by omega)⟩
theorem TB.cells {w : World} {b : Nat} {t : Tk.Tkr} {a : Option Addr} {c : Nat} (h : TB w b t a c) : ∀ j, j < 10 → w.cell? ⟨b, j, none⟩ = some (tkC t a c j)
  | 0, _ => h.c0
  | 1, _ => h.c1
  | 2, _ => h.c2
  | 3, _ => h.c3
  | 4, _ => h.c4
  | 5, _ => h.c5
  | 6, _ => h.c6
  | 7, _ => h.c7
  | 8, _ => h.c8
  | 9, _ => h.c9
  | j + 10, hj => absurd hj (by omega)
theorem TB.put {w : World} {b : Nat} {t t' : Tk.Tkr} {a a' : Option Addr} {c c' : Nat} (h : TB w b t a c) (i : Nat) (hi : i < 10) (hn : ∀ j, j < 10 → j ≠ i → tkC t' a' c' j = tkC t a c j) : TB (w.setCell ⟨b, i, none⟩ (tkC t' a' c' i)) b t' a' c' := by
  refine TB.of (by simpa [World.setCell] using h.lt) (fun j hj => ?_)
  by_cases e : j = i
  · subst e
    exact World.cell?_setCell_same _ _ _ (h.cells j hj)
  · rw [World.cell?_setCell_other _ _ _ _ (by intro z; injection z; omega), hn j hj e]
    exact h.cells j hj
/-- a consumer's plan on its way -/
structure Rdt (w0 w : World) (b : Nat) (t : Tk.Tkr) (a : Option Addr) (c : Nat) : Prop where
  tb : TB w b t a c
  nums : Dk.Nums w (b + 1) (.slice a t.bo.length c) t.bo
  fr : ∀ i, w.frozen? ⟨b, i, none⟩ = false
  low : Below b w0 w
theorem Rdt.next {w0 w w' : World} {b : Nat} {t : Tk.Tkr} {a : Option Addr} {c : Nat} (h : Rdt w0 w b t a c) (hb : Below w.heap.size w w') : Rdt w0 w' b t a c :=
  ⟨h.tb.next hb, h.nums.below hb, fun i => by rw [hb.frozen (p := ⟨b, i, none⟩) h.tb.lt]; exact h.fr i, h.low.trans (hb.mono (Nat.le_of_lt h.tb.lt))⟩
theorem low_set {w0 w : World} {b i : Nat} {x : Value} (h : Below b w0 w) : Below b w0 (w.setCell ⟨b, i, none⟩ x) := by
  refine h.trans ?_
  have := (Dk.Chg.refl (fun k => k = b) w).setCell (p := ⟨b, i, none⟩) (.inl rfl) x
  exact ⟨this.os, this.tape, this.output, this.size, fun k hk => by
    by_cases hs : k < w.heap.size
    · exact this.block k hs (by show ¬ k = b; omega)
    · have e : (w.setCell ⟨b, i, none⟩ x).heap.size = w.heap.size := by simp [World.setCell]
      rw [Array.getElem?_eq_none (by omega), Array.getElem?_eq_none (by omega)]⟩
/-- a cell that isn't the numbers' is written -/
theorem Rdt.put {w0 w : World} {b : Nat} {t : Tk.Tkr} {a : Option Addr} {c : Nat} (h : Rdt w0 w b t a c) (t' : Tk.Tkr) (i : Nat) (hi : i < 10) (hn : ∀ j, j < 10 → j ≠ i → tkC t' a c j = tkC t a c j) (hbo : t'.bo = t.bo) : Rdt w0 (w.setCell ⟨b, i, none⟩ (tkC t' a c i)) b t' a c := by
  refine ⟨h.tb.put i hi hn, ?_, fun j => by rw [World.frozen?_setCell]; exact h.fr j, low_set h.low⟩
  rw [hbo]
  exact h.nums.chg ((Dk.Chg.refl (fun k => k = b) w).setCell (p := ⟨b, i, none⟩) (.inl rfl) _) (fun g hg z => by have : g = b := z; omega)
theorem Rdt.fr' {w0 w : World} {b : Nat} {t : Tk.Tkr} {a : Option Addr} {c : Nat} (h : Rdt w0 w b t a c) (x : Int) : Rdt w0 (w.setCell ⟨b, 2, none⟩ (.int .i64 x)) b { t with fr := x } a c := h.put { t with fr := x } 2 (by omega) (fun j _ hj => by rcases j with _ | _ | _ | _ | _ | _ | _ | _ | _ | _ | j <;> first | rfl | exact absurd rfl hj) rfl
theorem Rdt.st' {w0 w : World} {b : Nat} {t : Tk.Tkr} {a : Option Addr} {c : Nat} (h : Rdt w0 w b t a c) (x : Int) : Rdt w0 (w.setCell ⟨b, 3, none⟩ (.int .i64 x)) b { t with st := x } a c := h.put { t with st := x } 3 (by omega) (fun j _ hj => by rcases j with _ | _ | _ | _ | _ | _ | _ | _ | _ | _ | j <;> first | rfl | exact absurd rfl hj) rfl
theorem Rdt.ack' {w0 w : World} {b : Nat} {t : Tk.Tkr} {a : Option Addr} {c : Nat} (h : Rdt w0 w b t a c) (x : Int) : Rdt w0 (w.setCell ⟨b, 4, none⟩ (.int .i64 x)) b { t with ack := x } a c := h.put { t with ack := x } 4 (by omega) (fun j _ hj => by rcases j with _ | _ | _ | _ | _ | _ | _ | _ | _ | _ | j <;> first | rfl | exact absurd rfl hj) rfl
theorem Rdt.wait' {w0 w : World} {b : Nat} {t : Tk.Tkr} {a : Option Addr} {c : Nat} (h : Rdt w0 w b t a c) (x : Int) : Rdt w0 (w.setCell ⟨b, 5, none⟩ (.int .i64 x)) b { t with wait := x } a c := h.put { t with wait := x } 5 (by omega) (fun j _ hj => by rcases j with _ | _ | _ | _ | _ | _ | _ | _ | _ | _ | j <;> first | rfl | exact absurd rfl hj) rfl
theorem Rdt.mo' {w0 w : World} {b : Nat} {t : Tk.Tkr} {a : Option Addr} {c : Nat} (h : Rdt w0 w b t a c) (x : Int) : Rdt w0 (w.setCell ⟨b, 7, none⟩ (.int .i64 x)) b { t with mo := x } a c := h.put { t with mo := x } 7 (by omega) (fun j _ hj => by rcases j with _ | _ | _ | _ | _ | _ | _ | _ | _ | _ | j <;> first | rfl | exact absurd rfl hj) rfl
theorem Rdt.pe' {w0 w : World} {b : Nat} {t : Tk.Tkr} {a : Option Addr} {c : Nat} (h : Rdt w0 w b t a c) (x : Int) : Rdt w0 (w.setCell ⟨b, 8, none⟩ (.int .i64 x)) b { t with pe := x } a c := h.put { t with pe := x } 8 (by omega) (fun j _ hj => by rcases j with _ | _ | _ | _ | _ | _ | _ | _ | _ | _ | j <;> first | rfl | exact absurd rfl hj) rfl
theorem Rdt.pu' {w0 w : World} {b : Nat} {t : Tk.Tkr} {a : Option Addr} {c : Nat} (h : Rdt w0 w b t a c) (x : Bool) : Rdt w0 (w.setCell ⟨b, 9, none⟩ (.bool x)) b { t with pu := x } a c := h.put { t with pu := x } 9 (by omega) (fun j hj9 hj => by rcases j with _ | _ | _ | _ | _ | _ | _ | _ | _ | _ | j <;> first | rfl | exact absurd rfl hj | omega) rfl
theorem nums_base {w : World} {B B' : Nat} {v : Value} {l : List Int} (h : Dk.Nums w B' v l) (hB : B ≤ B') : Dk.Nums w B v l := by
  refine ⟨h.1, ?_⟩
  rcases h.2 with h1 | ⟨g, cap, cur, h1, h2, h3⟩
  · exact .inl h1
  · exact .inr ⟨g, cap, cur, h1, Nat.le_trans hB h2, h3⟩
/-- one number more: the row's new place is written; what lies below B stays -/
theorem Rdt.more {w0 w : World} {b B : Nat} {t : Tk.Tkr} {a : Option Addr} {c : Nat} (h : Rdt w0 w b t a c) (hn : Dk.Nums w B (.slice a t.bo.length c) t.bo) (hbB : b < B) (hB : B ≤ w.heap.size) (hl : t.bo.length ≤ 200000) (n : Int) :
    ∃ a' c' w', (Builtin.append_ #[22, 22] 22 #[.slice a t.bo.length c, .slice (some ⟨w.heap.size, 0, none⟩) 1 1]).run Tryd.prog (w.alloc (.cells #[.int .i64 n] 3)) = .ok (.slice a' (t.bo.length + 1) c') w' ∧ w'.frozen? ⟨b, 6, none⟩ = false ∧ w'.cell? ⟨b, 6, none⟩ = some (.slice a t.bo.length c) ∧ b < w'.heap.size ∧ Rdt w0 (w'.setCell ⟨b, 6, none⟩ (.slice a' (t.bo.length + 1) c')) b { t with bo := t.bo ++ [n] } a' c' ∧ Dk.Nums (w'.setCell ⟨b, 6, none⟩ (.slice a' (t.bo.length + 1) c')) B (.slice a' (t.bo ++ [n]).length c') (t.bo ++ [n]) ∧ Dk.Chg (fun k => k = b ∨ B ≤ k) w (w'.setCell ⟨b, 6, none⟩ (.slice a' (t.bo.length + 1) c')) := by
  have b1 : Below w.heap.size w (w.alloc (.cells #[.int .i64 n] 3)) := (Below.refl _ _).alloc (Nat.le_refl _) _
  have h1 := h.next b1
  have hlt := h1.tb.lt
  have n1 := hn.below b1
  have hB1 : B ≤ (w.alloc (.cells #[.int .i64 n] 3)).heap.size := Nat.le_trans hB b1.size
  obtain ⟨v', w', hr, hN, hC⟩ := Dk.append_num (w.alloc (.cells #[.int .i64 n] 3)) B 22 _ t.bo n n1 ⟨w.heap.size, 0, none⟩ 1 (World.cell?_alloc_at _ _ _ _ rfl) hl hB1
  obtain ⟨a', c', rfl, hc', _⟩ := hN.shape
  have hlen : (t.bo ++ [n]).length = t.bo.length + 1 := by simp
  rw [hlen] at hr hc'
  have hob : ∀ k, (Value.slice a t.bo.length c).ownBlock = some k → B ≤ k := fun k z => (World.ownsRow.lt n1 k z).1
  have hnb : ¬ (Value.slice a t.bo.length c).ownBlock = some b := fun z => by
    have := hob b z
    omega
  have tb' : TB w' b t a c := h1.tb.same hC.size (fun j => hC.cell (p := ⟨b, j, none⟩) hlt hnb)
  have fr' : ∀ i, w'.frozen? ⟨b, i, none⟩ = false := fun i => by rw [hC.frozen (p := ⟨b, i, none⟩) hlt hnb]; exact h1.fr i
  have low' : Below b w0 w' := h1.low.trans (hC.below (Nat.le_of_lt hlt) (fun k hk z => by
    have := hob k z
    omega))
  have hN2 : Dk.Nums (w'.setCell ⟨b, 6, none⟩ (.slice a' (t.bo.length + 1) c')) B (.slice a' (t.bo ++ [n]).length c') (t.bo ++ [n]) := hN.chg ((Dk.Chg.refl (fun k => k = b) w').setCell (p := ⟨b, 6, none⟩) (.inl rfl) _) (fun g hg z => by have : g = b := z; omega)
  refine ⟨a', c', w', hr, fr' 6, tb'.c6, tb'.lt, ⟨?_, nums_base hN2 hbB, fun j => by rw [World.frozen?_setCell]; exact fr' j, low_set low'⟩, hN2, ?_⟩
  · have := tb'.put (t' := { t with bo := t.bo ++ [n] }) (a' := a') (c' := c') 6 (by omega) (fun j _ hj => by rcases j with _ | _ | _ | _ | _ | _ | _ | _ | _ | _ | j <;> first | rfl | exact absurd rfl hj)
    rw [show tkC { t with bo := t.bo ++ [n] } a' c' 6 = .slice a' (t.bo.length + 1) c' by show Value.slice a' (t.bo ++ [n]).length c' = _; rw [hlen]] at this
    exact this
  · refine Dk.Chg.trans (Dk.Chg.of_below b1) (Dk.Chg.trans ?_ ((Dk.Chg.refl (fun k => k = b ∨ B ≤ k) w').setCell (p := ⟨b, 6, none⟩) (.inl (.inl rfl)) _))
    exact ⟨hC.os, hC.tape, hC.output, hC.size, fun k hk hn' => hC.block k hk (fun z => hn' (.inr (hob k z)))⟩
end Go.Proofs.YtcbfmjjodfnacaaDoor
