/-
  The program's store: slices.Delete (one record) at rows of records that are one's own.
  An append whose run is known, as a step of a region that draws its order.
  The program's store: a message more (add), one less (erase).
  Rows of records: what copy and clear make of them, what slices.Replace leaves. No walk.
-/
import Derived.Test.YtmccpkpeimejhahGreatDoorJointWalkI3WalkI4WalkI5RowX
import Derived.Deep.RegionLaw
import Derived.Test.YtmccpkpeimejhahGreatDoorJointBase0RowTmPlainPapPa
import Derived.Test.YtmccpkpeimejhahGreatDoorJointWalkX1WalkX2WorksTaWalkX4
import Derived.Deep.AppendSrc
namespace Go.Proofs.YtmccpkpeimejhahGreatDoor.Dk
open Go.RowKit Go.Deep

theorem celR_take : ∀ (es : List Rc) (k : Nat), celR (es.take k) = (celR es).take (k * 6)
  | [], k => by simp [celR]
  | e :: r, 0 => by simp [celR]
  | e :: r, k + 1 => by rw [show (k + 1) * 6 = k * 6 + 1 + 1 + 1 + 1 + 1 + 1 by omega]; simp [celR, celR_take r k]
theorem celR_drop : ∀ (es : List Rc) (k : Nat), celR (es.drop k) = (celR es).drop (k * 6)
  | [], k => by simp [celR]
  | e :: r, 0 => by simp [celR]
  | e :: r, k + 1 => by rw [show (k + 1) * 6 = k * 6 + 1 + 1 + 1 + 1 + 1 + 1 by omega]; simp [celR, celR_drop r k]
theorem ArrR.there {w : World} {B : Nat} {v : Value} {es : List Rc} (h : ArrR w B v es) (hn : 0 < es.length) : ∃ g cap, v = .slice (some ⟨g, 0, none⟩) es.length cap ∧ es.length ≤ cap ∧ cap ≤ maxLen ∧ B ≤ g ∧ g < w.heap.size := by
  rcases h.2 with ⟨h1, h2⟩ | ⟨g, cap, cur, h1, h2, h3, h4, h5, h6, h7⟩
  · omega
  · exact ⟨g, cap, h1, h4, h5, h.lt g (by rw [h1]; rfl)⟩
theorem ArrR.cell {w : World} {B g cap : Nat} {es : List Rc} (h : ArrR w B (.slice (some ⟨g, 0, none⟩) es.length cap) es) (j : Nat) (u : Value) (hj : (celR es)[j]? = some u) : w.cell? ⟨g, j, none⟩ = some u := by
  have hl : j < es.length * 6 := by
    rw [← celR_length]
    rcases Nat.lt_or_ge j (celR es).length with q | q
    · exact q
    · rw [List.getElem?_eq_none q] at hj; cases hj
  rw [World.ownsRow.cellAt h _ hl]
  exact hj
def zsR : List Value := [.int .i64 0, .int .i64 0, .int .i64 0, .string ByteArray.empty, .string ByteArray.empty, .string ByteArray.empty]
theorem run_clear_six (w : World) (ty : TypeId) (b o c : Nat)
    (hc : ∀ j, j < 6 → (w.cell? ⟨b, o + j, none⟩).isSome = true) (hf : ∀ j, j < 6 → w.frozen? ⟨b, o + j, none⟩ = false) :
    (Builtin.clear_ #[37] ty #[.slice (some ⟨b, o, none⟩) 1 c]).run Tryz.prog w = .ok (.tuple #[]) (w.setCells b o zsR) := by
  have hzc : (Builtin.zeroCells (Value.agg #[.int .i64 0, .int .i64 0, .int .i64 0, .string ⟨#[]⟩, .string ⟨#[]⟩, .string ⟨#[]⟩]).cells 1).toList = zsR := by kernel_rfl
  have hst := run_storeCells_cells (P := Tryz.prog) b o zsR 0 w (by simpa [zsR] using hc) (by simpa [zsR] using hf) (by intro v hv'; simp only [zsR, List.mem_cons, List.not_mem_nil, or_false] at hv'; rcases hv' with q | q | q | q | q | q <;> (subst q; rfl))
  simp only [Nat.add_zero] at hst
  simp [Builtin.clear_, run_underlying Tryz.underlying37, Tryz.zeroValue42, hzc, hst]

set_option maxHeartbeats 4000000 in
set_option maxRecDepth 100000 in
theorem deleteR_in (B g c i m : Nat) (es : List Rc) (w : World) (hn : es.length = i + 1 + m) (ha : ArrR w B (.slice (some ⟨g, 0, none⟩) (i + 1 + m) c) es) (h100 : es.length ≤ 200) (hc : i + 1 + m ≤ c) :
    Calls Tryz.prog 99 #[.slice (some ⟨g, 0, none⟩) (i + 1 + m) c, .int .i64 i, .int .i64 (i + 1)] w fun e w' =>
      e = .returned (.slice (some ⟨g, 0, none⟩) (i + m) c) ∧ w' = (w.drew.setCells g (0 + i * 6) ((celR es).drop ((i + 1) * 6))).setCells g ((i + m) * 6) zsR := by
  obtain ⟨i0, hi0, hz0, hz1, hz2⟩ := info_parts infoR
  obtain ⟨news, hnews⟩ : ∃ news, news = (celR es).drop ((i + 1) * 6) := ⟨_, rfl⟩
  have hlen : news.length = m * 6 := by rw [hnews, List.length_drop, celR_length, hn]; omega
  obtain ⟨cur, hg, hcs⟩ : ∃ cur, w.heap[g]? = some (.cells cur 42 (0, 0)) ∧ cur.size = c * 6 := by
    rcases ha.2 with ⟨q, _⟩ | ⟨g', cap', cur, q, h2, h3, h4, h5, h6, h7⟩
    · cases q
    · simp only [Value.slice.injEq, Option.some.injEq, Addr.mk.injEq, and_true] at q
      obtain ⟨rfl, _, rfl⟩ := q
      exact ⟨cur, h3, h6⟩
  have hsp : ∀ j, j < c * 6 → (w.cell? ⟨g, j, none⟩).isSome = true := by
    intro j hj
    rw [cell_of_row w g j _ _ _ hg, Array.getElem?_eq_getElem (by omega)]
    rfl
  have hfz : ∀ j, w.frozen? ⟨g, j, none⟩ = false := fun j => frozen_of_row w g j _ _ hg
  have hcell : ∀ j u, (celR es)[j]? = some u → w.cell? ⟨g, j, none⟩ = some u := by
    intro j u hj
    rw [← hn] at ha
    exact ha.cell j u hj
  obtain ⟨A, hA, hsrc⟩ : ∃ A : Addr, (if c = i + 1 then some (⟨g, 0, none⟩ : Addr) else some ⟨g, (i + 1) * 6, none⟩) = some A ∧ Hid (∀ t u, news[t]? = some u → w.drew.cell? (A.add t) = some u) := by
    by_cases h : c = i + 1
    · refine ⟨⟨g, 0, none⟩, by simp [h], fun t u hu => ?_⟩
      have h0 : news.length = 0 := by rw [hlen]; omega
      rw [List.length_eq_zero_iff.1 h0] at hu
      simp at hu
    · refine ⟨⟨g, (i + 1) * 6, none⟩, by simp [h], fun t u hu => ?_⟩
      rw [Addr.add_lit]
      refine hcell _ u ?_
      rw [hnews, List.getElem?_drop] at hu
      exact hu
  have s1 := hide hlen
  have s2 : Hid (∀ u ∈ news, u.oneCell' = true) := by
    intro u hu
    rw [hnews] at hu
    exact celR_one es u (List.mem_of_mem_drop hu)
  have s3 : Hid (∀ t, t < news.length → (w.drew.cell? ⟨g, 0 + i * 6 + t, none⟩).isSome = true ∧ w.drew.frozen? ⟨g, 0 + i * 6 + t, none⟩ = false) := by
    intro t ht
    rw [hlen] at ht
    exact ⟨hsp _ (by omega), hfz _⟩
  obtain ⟨W1, hW1⟩ : ∃ W1, W1 = w.drew.setCells g (0 + i * 6) news := ⟨_, rfl⟩
  have hcl : ∀ ty c', (Builtin.clear_ #[37] ty #[.slice (some ⟨g, (i + m) * 6, none⟩) 1 c']).run Tryz.prog W1 = .ok (.tuple #[]) (W1.setCells g ((i + m) * 6) zsR) := fun ty c' =>
    run_clear_six W1 ty g ((i + m) * 6) c' (fun j hj => by
        rw [hW1]
        exact isSome_setCells g news (0 + i * 6) w.drew (fun t ht => hsp _ (by rw [hlen] at ht; omega)) _ (hsp _ (by omega)))
      (fun j hj => by rw [hW1, World.frozen?_setCells]; exact hfz _)
  have hW : Hid (W1 = w.drew.setCells g (0 + i * 6) news) := hW1
  rw [← hnews]
  clear hW1 hsp hfz hcell hg ha hnews hlen hz0 hz2
  have hic : i ≤ c := by omega
  have hjc : i + 1 ≤ c := by omega
  have b1 : (0 : Int) ≤ (i : Int) + 1 := by omega
  have b2 : (i : Int) + 1 ≤ (i : Int) + 1 + (m : Int) := by omega
  have q1 : ¬ (c = i + m) := by omega
  have q2 : i + 1 + m - (i + m) = 1 := by omega
  go_enter Tryz.func99, Tryz.ntmps99
  go_wp2_with fail
  go_region_law (refine step_append_room rfl (.tmp 22) (.tmp 25) 37 rfl 42 i0 6 Tryz.underlying37 hi0 hz1 g 0 i c (by simp [Act.eval, Act.put]) A m (c - (i + 1)) news (by simp [Act.eval, Act.put]) s1.out hsrc.out s2.out (by omega) s3.out ?_; rw [← hW.out])
  go_wp2
  go_ret
  exact ⟨rfl, by rw [hW.out]⟩

theorem list_delR (es : List Rc) (i m : Nat) (hn : es.length = i + 1 + m) :
    ((((celR es).take (i * 6) ++ (celR es).drop ((i + 1) * 6) ++ (celR es).drop (i * 6 + ((celR es).drop ((i + 1) * 6)).length)).take ((i + m) * 6) ++ zsR ++ ((celR es).take (i * 6) ++ (celR es).drop ((i + 1) * 6) ++ (celR es).drop (i * 6 + ((celR es).drop ((i + 1) * 6)).length)).drop ((i + m) * 6 + zsR.length)).take ((i + m) * 6)) = celR (delR es i) := by
  have hcl : (celR es).length = (i + 1 + m) * 6 := by rw [celR_length, hn]
  have h1 : ((celR es).take (i * 6) ++ (celR es).drop ((i + 1) * 6)).length = (i + m) * 6 := by rw [List.length_append, List.length_take, List.length_drop, hcl]; omega
  have h2 : ((celR es).take (i * 6) ++ (celR es).drop ((i + 1) * 6) ++ (celR es).drop (i * 6 + ((celR es).drop ((i + 1) * 6)).length)).take ((i + m) * 6) = (celR es).take (i * 6) ++ (celR es).drop ((i + 1) * 6) := by
    rw [List.take_append_of_le_length (by omega), List.take_of_length_le (by omega)]
  rw [h2, List.append_assoc ((celR es).take (i * 6) ++ (celR es).drop ((i + 1) * 6)), List.take_append_of_le_length (by omega), List.take_of_length_le (by omega)]
  unfold delR
  rw [celR_append, celR_take, celR_drop]
theorem deleteR_any (B : Nat) (v : Value) (es : List Rc) (i : Nat) (w : World) (ha : ArrR w B v es) (hi : i < es.length) (h100 : es.length ≤ 200) :
    Calls Tryz.prog 99 #[v, .int .i64 i, .int .i64 (i + 1)] w fun e w' => ∃ v', e = .returned v' ∧ ArrR w' B v' (delR es i) ∧ Chg (fun k => v.ownBlock = some k) w w' ∧ ∀ g, v'.ownBlock = some g → v.ownBlock = some g ∨ w.heap.size ≤ g := by
  obtain ⟨g, cap, rfl, c1, c2, c3, c4⟩ := ha.there (by omega)
  obtain ⟨m, hn⟩ : ∃ m, es.length = i + 1 + m := ⟨es.length - (i + 1), by omega⟩
  rw [hn] at ha c1 ⊢
  refine (deleteR_in B g cap i m es w hn ha h100 c1).mono ?_
  rintro e w' ⟨rfl, rfl⟩
  refine ⟨_, rfl, ?_, ?_, fun g' hg' => .inl hg'⟩
  · have o0 : w.drew.ownsRow B 42 6 (.slice (some ⟨g, 0, none⟩) (i + 1 + m) cap) (i + 1 + m) (celR es) := by
      unfold ArrR at ha
      rw [hn] at ha
      exact ha
    have hcl : (celR es).length = (i + 1 + m) * 6 := by rw [celR_length, hn]
    have hdl : ((celR es).drop ((i + 1) * 6)).length = m * 6 := by rw [List.length_drop, hcl]; omega
    have o1 := own_sets ((celR es).drop ((i + 1) * 6)) (i * 6) _ _ o0 (by rw [hcl, hdl]; omega)
    have o2 := own_sets zsR ((i + m) * 6) _ _ o1 (by
      simp only [List.length_append, List.length_take, List.length_drop, hcl, show zsR.length = 6 from rfl]
      omega)
    have o3 := own_shorter (k := i + m) o2 (by omega)
    rw [list_delR es i m hn] at o3
    unfold ArrR
    rw [delR_length hi, hn, show i + 1 + m - 1 = i + m by omega, Nat.zero_add]
    exact o3
  · have c : Chg (fun k => k = g) w w.drew := ⟨rfl, rfl, rfl, Nat.le_refl _, fun _ _ _ => rfl⟩
    exact ((c.trans (chgD (chg_sets _ _ _))).trans (chgD (chg_sets _ _ _))).mono (fun k _ hk => by rw [hk]; rfl)
end Go.Proofs.YtmccpkpeimejhahGreatDoor.Dk

namespace Go.Proofs.YtmccpkpeimejhahGreatDoor
open Go.RowKit

/-- an append whose run is known, as one step of a region that draws -/
theorem step_appendX {P : Program} {ops : Array Oper} {o : Oper} {a : Act} {w : World} {K : Act → World → Prop} {Q : Exit → Act → World → Prop} {E : Prop}
    (hg : o.guard = none) (d x : Operand) (dT sT : TypeId) (hop : o.op = Op.call { callee := Callee.builtin Builtin.append, args := #[d, x], argTypes := #[dT, sT] })
    (v u : Value) (hd : a.eval d = v) (hx : a.eval x = u) {v' : Value} {w' : World} (hr : (Builtin.append_ #[dT, sT] o.type #[v, u]).run P w = .ok v' w') (hK : K (a.put o.dst v') w') :
    if Region.wanted o (yielded ops a.tmps) = true then Oper.wp P o a w K Q else E := by
  have hw : Region.wanted o (yielded ops a.tmps) = true := by simp [Region.wanted, hg]
  rw [if_pos hw]
  unfold Oper.wp
  simp [execOp, hop, resolve, invoke, builtin, hd, hx, hr, Result.andThen]
  exact hK
end Go.Proofs.YtmccpkpeimejhahGreatDoor

namespace Go.Proofs.YtmccpkpeimejhahGreatDoor.Dk
open Go.RowKit

theorem ArrR.six {w : World} {B g cap : Nat} {l : List Rc} (h : ArrR w B (.slice (some ⟨g, 0, none⟩) l.length cap) l) {k : Nat} (hk : k < l.length) : Six w g (k * 6) (rc l k) := by
  obtain ⟨a, c, e, _, _, hs⟩ := h.shape
  obtain ⟨rfl, _, _⟩ := Value.slice.inj e
  obtain ⟨b, o, e2, s6⟩ := hs k hk
  cases e2
  rw [Nat.zero_add] at s6
  exact s6

theorem rb_chg {w w' : World} {b : Nat} {k q t : Int} {s h d : ByteArray} {A : Nat → Prop} (r : RB w b k q t s h d) (hc : Chg A w w') (hn : ¬ A b) : RB w' b k q t s h d :=
  ⟨Nat.lt_of_lt_of_le r.lt hc.size, by rw [hc.cell (p := ⟨b, 0, none⟩) r.lt hn]; exact r.c0, by rw [hc.cell (p := ⟨b, 1, none⟩) r.lt hn]; exact r.c1, by rw [hc.cell (p := ⟨b, 2, none⟩) r.lt hn]; exact r.c2, by rw [hc.cell (p := ⟨b, 3, none⟩) r.lt hn]; exact r.c3, by rw [hc.cell (p := ⟨b, 4, none⟩) r.lt hn]; exact r.c4, by rw [hc.cell (p := ⟨b, 5, none⟩) r.lt hn]; exact r.c5, fun j => by rw [hc.frozen (p := ⟨b, j, none⟩) r.lt hn]; exact r.fr j⟩
/-- the record is put behind the messages -/
theorem Sho.more {w : World} {B q : Nat} {a : Option Addr} {n cap : Nat} {u : Value} {l : List Rc} {es : List Ent} {last : Int} (r : Rc) (h : Sho w B q (.slice a n cap) u l es last) (h200 : l.length ≤ 200) (hB : B ≤ w.heap.size) (w3 : World) (b3 : Below w.heap.size w w3) :
    ∃ a' m' c' w8, (Builtin.append_ #[37, 37] 37 #[.slice a n cap, .slice (some ⟨w3.heap.size, 0, none⟩) 1 1]).run Tryz.prog (w3.alloc (.cells #[.int .i64 r.k, .int .i64 r.q, .int .i64 r.t, .string r.s, .string r.h, .string r.d] 42)) = .ok (.slice a' m' c') w8 ∧ w8.cell? ⟨q, 0, none⟩ = some (.slice a n cap) ∧ w8.frozen? ⟨q, 0, none⟩ = false ∧ Hid (Moves w (w8.setCell ⟨q, 0, none⟩ (.slice a' m' c')) B q (.slice a n cap) u (l ++ [r]) es last) := by
  have b4 : Below w3.heap.size w3 (w3.alloc (.cells #[.int .i64 r.k, .int .i64 r.q, .int .i64 r.t, .string r.s, .string r.h, .string r.d] 42)) := (Below.refl _ _).alloc (Nat.le_refl _) _
  have h4 := (h.below b3).below b4
  obtain ⟨v8, w8, hr, A8, C8, L8⟩ := append_rec _ B 37 _ l [r] h4.msgs ⟨w3.heap.size, 0, none⟩ 1 (six_row w3 r) (by simp; omega) (by have := b3.size; have := b4.size; omega)
  obtain ⟨a', c', rfl, _⟩ := A8.shape
  refine ⟨a', _, c', w8, hr, ?_, ?_, hide (Moves.behind (bstep b3 b4) (Moves.store h4 C8 A8 L8))⟩
  · rw [C8.cell (p := ⟨q, 0, none⟩) h4.lt h4.av]; exact h4.c0
  · rw [C8.frozen (p := ⟨q, 0, none⟩) h4.lt h4.av]; exact h4.free 0

set_option maxRecDepth 100000 in
set_option maxHeartbeats 2000000 in
theorem sadd_any {w : World} {B q : Nat} {v u : Value} {l : List Rc} {es : List Ent} {last : Int} (r : Rc) (hm : Small r) (h : Sho w B q v u l es last) (hg : Good es) (h200 : l.length ≤ 200) (hB : B ≤ w.heap.size) (hn : getN es r.s ≤ 200) (hn0 : 0 ≤ getN es r.s) :
    Calls Tryz.prog 68 #[.pointer (some ⟨q, 0, none⟩), .agg #[.int .i64 r.k, .int .i64 r.q, .int .i64 r.t, .string r.s, .string r.h, .string r.d]] w fun e w' => e = .returned (.tuple #[]) ∧ Moves w w' B q v u (l ++ [r]) (putL es r.s (getN es r.s + 1)) r.q := by
  obtain ⟨w0, hw0⟩ : ∃ w0, w0 = w.alloc (.cells #[.int .i64 r.k, .int .i64 r.q, .int .i64 r.t, .string r.s, .string r.h, .string r.d] 42) := ⟨_, rfl⟩
  have hb0 : Below w.heap.size w w0 := by rw [hw0]; exact (Below.refl _ _).alloc (Nat.le_refl _) _
  have R0 : RB w0 w.heap.size r.k r.q r.t r.s r.h r.d := by rw [hw0]; exact RB.new w r.k r.q r.t r.s r.h r.d 42
  have h0 := h.below hb0
  obtain ⟨a, cap, rfl, _⟩ := h.msgs.shape
  have c0 := h0.c0
  have hql := h0.lt
  have hbl := R0.lt
  have hw0l : w.heap.size < w0.heap.size := R0.lt
  have hnf : ¬ feet q (.slice a l.length cap) u w.heap.size := fun z => by have := (h.own _ z).2; omega
  have HR0 := hide R0
  obtain ⟨_, x0, x1, x2, x3, x4, x5, _⟩ := R0
  have PC : Hid (∀ X, Calls Tryz.prog 25 #[.agg #[.int .i64 r.k, .int .i64 r.q, .int .i64 r.t, .string r.s, .string r.h, .string r.d]] X fun e w' => e = .returned (.agg #[.int .i64 r.k, .int .i64 r.q, .int .i64 r.t, .string r.s, .string r.h, .string r.d]) ∧ Below X.heap.size X w') := hide (fun X => copyR_any r hm X)
  have PA := hide (h0.more r h200 (by have := hb0.size; omega))
  have Hb0 := hide hb0
  have HN := hide hnf
  have HG := hide hg
  have hz := hm.s
  have hB0 : B ≤ w0.heap.size := by have := hb0.size; omega
  clear h h0 hb0 hg hnf hm
  go_enter Tryz.func68, Tryz.ntmps68
  go_wp2_with fail
  rw [← hw0]
  clear hw0
  go_region_law (first
    | (refine step_appendX rfl _ _ 37 37 rfl (.slice a l.length cap) _ (by first | (simp [Act.eval]; done) | (simp [Act.eval, Act.put]; done)) (by first | (simp [Act.eval]; done) | (simp [Act.eval, Act.put]; done)) hrun ?_)
    | (go_simp; go_at_call 25; refine (unhide PC _).mono ?_; rintro e w3 ⟨rfl, b3⟩; have d2 := (b3.cell (p := ⟨q, 0, none⟩) hql).trans c0; have hp3 := Nat.lt_of_lt_of_le hql b3.size; obtain ⟨a', m', c', w8, hrun, e0, f0, HM⟩ := unhide PA w3 (((Below.refl w0.heap.size w0).drew).trans b3); dsimp only))
  all_goals
    obtain ⟨v1, u1, s1, ch1, o1⟩ := unhide HM
    have R1 := rb_chg (unhide HR0) ch1 (unhide HN)
    generalize w8.setCell ⟨q, 0, none⟩ (.slice a' m' c') = W1 at *
    clear PC PA HR0 x0 x1 x2 x3 x4 x5 e0 f0 d2 hp3 b3 hrun HM c0 hbl
    have HS1 := hide s1
    have HR1 := hide R1
    have hq1 := s1.lt
    have hl1 := R1.lt
    obtain ⟨_, x0, x1, x2, x3, x4, x5, _⟩ := R1
    have HC1 := hide (And.intro ch1 o1)
    have HNf : Hid (¬ foot q u1 w.heap.size) := hide (fun z => by
      have hf : feet q v1 u1 w.heap.size := by
        rcases z with z | z
        · exact .inl z
        · exact .inr (.inr z)
      rcases o1 _ hf with y | y
      · exact unhide HN y
      · have := hw0l; omega)
    have hB1 : B ≤ W1.heap.size := by have := ch1.size; omega
    have hsd := s1.below (Below.refl _ W1).drew
    have PN := hide (scount_any r.s hsd (unhide HG) hz)
    obtain ⟨n, en⟩ : ∃ n, n = getN es r.s := ⟨_, rfl⟩
    rw [← en] at PN hn hn0
    have HE := hide en
    have hw1 : IntKind.i64.wrap (n + 1) = n + 1 := by rw [IntKind.wrap_i64]; omega
    clear s1 ch1 o1 en hsd
    go_wp2_with fail
    go_region_held3 (fun w' => w'.cell? ⟨w.heap.size, 3, none⟩ = some (.string r.s)) (first | assumption | go_keep)
      (first
        | (go_at_call 97; refine (unhide PN).mono ?_; rintro e w5 ⟨rfl, b5⟩; have B5 := hide (((Below.refl W1.heap.size W1).drew).trans b5); have y3 := ((unhide HR1).next (unhide B5)).c3)
        | (go_at_call 96; refine (putO_any B q u1 es r.s (n + 1) w5 ((unhide HS1).below (unhide B5)).keeps (unhide HG) hz (Nat.le_trans hB1 (unhide B5).size)).mono ?_; rintro e w6 ⟨rfl, hu⟩; have R6 := rb_chg ((unhide HR1).next (unhide B5)) (chgD (UpdO.chg hu)) (unhide HNf); have z3 := R6.c3))
    have s5 := (unhide HS1).below (unhide B5)
    have M6 := Moves.behind (unhide B5) (Moves.upd s5 hu)
    have HM6 := hide M6
    obtain ⟨v6, u6, s6, c6, o6⟩ := M6
    have k2 := s6.c2
    have kf := s6.free 2
    have kl := s6.lt
    have x1 := R6.c1
    have HF := hide (Moves.seq c6 o6 (Moves.number s6 r.q))
    have HC := hide (Moves.behind (unhide Hb0) (Moves.seq (unhide HC1).1 (unhide HC1).2 (unhide HF)))
    clear HF s6 c6 o6 s5 hu HM6 y3 z3 R6
    go_wp2_with fail
    go_end0
    refine ⟨rfl, ?_⟩
    rw [← unhide HE]
    exact unhide HC

set_option maxHeartbeats 1000000 in
theorem sera_any {w : World} {B q : Nat} {v u : Value} {l : List Rc} {es : List Ent} {last : Int} (n : Int) (h : Sho w B q v u l es last) (hr : RiseQ l) (hs : seqB l n = true) (hg : Good es) (h200 : l.length ≤ 200) (hB : B ≤ w.heap.size) (hz : (rc l (pq l n)).s.size ≤ 140737488355328) (hn : getN es (rc l (pq l n)).s ≤ 200) :
    Calls Tryz.prog 69 #[.pointer (some ⟨q, 0, none⟩), .int .i64 n] w fun e w' => e = .returned (.tuple #[]) ∧ Moves w w' B q v u (delR l (pq l n)) (offL es (getN es (rc l (pq l n)).s) (rc l (pq l n)).s) last := by
  obtain ⟨p1, p2⟩ := seq_hit hr hs
  have PP := hide (splace_any n h hr h200)
  obtain ⟨p, hp⟩ : ∃ p, p = pq l n := ⟨_, rfl⟩
  rw [← hp] at p1 p2 PP hz hn ⊢
  clear hp p2
  obtain ⟨g, cap, rfl, c1, c2, c3, c4⟩ := h.msgs.there (by omega)
  unfold maxLen at c2
  have HH := hide h
  have HG := hide hg
  clear h hg hr hs
  go_enter Tryz.func69, Tryz.ntmps69
  go_wp2_with fail
  refine (unhide PP).mono ?_
  rintro e w1 ⟨rfl, b1⟩
  have h1 := (unhide HH).below b1
  have d0 := h1.c0
  obtain ⟨_, x0, x1, x2, x3, x4, x5⟩ := h1.msgs.six p1
  have P := hide (off_any (rc l p).s h1 (unhide HG) hz (by have := b1.size; omega) hn)
  have B1 := hide b1
  clear b1 h1 x0 x1 x2 x4 x5
  go_wp2_with fail
  refine (unhide P).mono ?_
  rintro e w2 ⟨rfl, k2⟩
  obtain ⟨u2, h2, ch2, o2⟩ := Counts.behind (unhide B1) k2
  have F2 := hide (Counts.feet (v := .slice (some ⟨g, 0, none⟩) l.length cap) ch2 o2)
  have e0 := h2.c0
  have PD := hide (deleteR_any B _ l p w2 h2.msgs p1 h200)
  have H2 := hide h2
  clear h2 ch2 o2 P x3 d0 k2
  go_wp2_with fail
  refine (unhide PD).mono ?_
  rintro e w3 ⟨v3, rfl, i1, i2, i3⟩
  obtain ⟨a3, cp3, rfl, _⟩ := i1.shape
  have d4 : w3.cell? ⟨q, 0, none⟩ = some (.slice (some ⟨g, 0, none⟩) l.length cap) := by rw [i2.cell (p := ⟨q, 0, none⟩) (unhide H2).lt (unhide H2).av]; exact e0
  have d5 : w3.frozen? ⟨q, 0, none⟩ = false := by rw [i2.frozen (p := ⟨q, 0, none⟩) (unhide H2).lt (unhide H2).av]; exact (unhide H2).free 0
  have HM := hide (Moves.store (unhide H2) i2 i1 i3)
  clear i1 i2 i3 e0 PD
  go_wp2_with fail
  go_end0
  exact ⟨rfl, Moves.seq (unhide F2).1 (unhide F2).2 (unhide HM)⟩
end Go.Proofs.YtmccpkpeimejhahGreatDoor.Dk

namespace Go.Proofs.YtmccpkpeimejhahGreatDoor.Dk
open Go.RowKit

theorem ArrR.src {w : World} {B : Nat} {v : Value} {l : List Rc} (h : ArrR w B v l) : Src Tryz.prog 6 37 v l.length (celR l) w := by
  rcases h.2 with ⟨h1, h2⟩ | ⟨g, cap, cur, h1, h2, h3, h4, h5, h6, h7⟩
  · have : l = [] := List.length_eq_zero_iff.1 h2
    subst this
    rw [h1]
    exact Src.ofNil w Tryz.underlying37 0
  · rw [h1] at h ⊢
    exact Src.ofSlice w Tryz.underlying37 ⟨g, 0, none⟩ l.length cap (celR l) (celR_length l) (World.ownsRow.cells h (g := g) rfl) (celR_one l)
theorem run_copy_src (w : World) (ty : TypeId) (b o dLen dCap : Nat) (x : Value) (m : Nat) (news : List Value) (hs : Src Tryz.prog 6 37 x m news w) (hm : m ≤ dLen)
    (hc : ∀ j, j < news.length → (w.cell? ⟨b, o + j, none⟩).isSome = true) (hf : ∀ j, j < news.length → w.frozen? ⟨b, o + j, none⟩ = false) :
    (Builtin.copy_ #[37, 37] ty #[.slice (some ⟨b, o, none⟩) dLen dCap, x]).run Tryz.prog w = .ok (goInt m) (w.setCells b o news) := by
  have hst := run_storeCells_cells (P := Tryz.prog) b o news 0 w (by simpa using hc) (by simpa using hf) hs.one
  simp only [Nat.add_zero] at hst
  obtain ⟨i0, hi, hz0, hz1, hz2⟩ := info_parts infoR
  have hmin : Nat.min m dLen = m := Nat.min_eq_left hm
  simp [Builtin.copy_, run_underlying Tryz.underlying37, sizeOf, typeInfo, hi, hz1, hs.len, hmin, hs.cells, hst]
def zeroR6 : Array Value := (Value.agg #[.int .i64 0, .int .i64 0, .int .i64 0, .string ⟨#[]⟩, .string ⟨#[]⟩, .string ⟨#[]⟩]).cells
theorem zeroR6_is : zeroR6 = #[.int .i64 0, .int .i64 0, .int .i64 0, .string ⟨#[]⟩, .string ⟨#[]⟩, .string ⟨#[]⟩] := by kernel_rfl
def zerosR (n : Nat) : List Value := (Builtin.zeroCells zeroR6 n).toList
theorem zerosR_length (n : Nat) : (zerosR n).length = n * 6 := by
  unfold zerosR Builtin.zeroCells
  rw [zeroR6_is]
  simp
theorem zerosR_one (n : Nat) : ∀ v ∈ zerosR n, v.oneCell' = true := by
  intro v h
  unfold zerosR Builtin.zeroCells at h
  rw [zeroR6_is] at h
  simp only [Array.toList_map, List.mem_map] at h
  obtain ⟨i, _, rfl⟩ := h
  have hi : i % 6 < 6 := Nat.mod_lt _ (by decide)
  have e : ∀ j, j < 6 → ((#[.int .i64 0, .int .i64 0, .int .i64 0, .string ⟨#[]⟩, .string ⟨#[]⟩, .string ⟨#[]⟩] : Array Value)[j]!).oneCell' = true := by decide +kernel
  exact e _ hi
theorem run_clear_rec (w : World) (ty : TypeId) (b o n c : Nat) (hn : 0 < n)
    (hc : ∀ j, j < n * 6 → (w.cell? ⟨b, o + j, none⟩).isSome = true) (hf : ∀ j, j < n * 6 → w.frozen? ⟨b, o + j, none⟩ = false) :
    (Builtin.clear_ #[37] ty #[.slice (some ⟨b, o, none⟩) n c]).run Tryz.prog w = .ok (.tuple #[]) (w.setCells b o (zerosR n)) := by
  obtain ⟨m, rfl⟩ : ∃ m, n = m + 1 := ⟨n - 1, by omega⟩
  have hst := run_storeCells_cells (P := Tryz.prog) b o (zerosR (m + 1)) 0 w (by rw [zerosR_length]; simpa using hc) (by rw [zerosR_length]; simpa using hf) (zerosR_one _)
  simp only [Nat.add_zero] at hst
  have hz : (Builtin.zeroCells (Value.agg #[.int .i64 0, .int .i64 0, .int .i64 0, .string ⟨#[]⟩, .string ⟨#[]⟩, .string ⟨#[]⟩]).cells (m + 1)).toList = zerosR (m + 1) := rfl
  simp [Builtin.clear_, run_underlying Tryz.underlying37, Tryz.zeroValue42, hz, hst]
theorem run_clear_nil (w : World) (ty : TypeId) (a : Option Addr) (c : Nat) :
    (Builtin.clear_ #[37] ty #[.slice a 0 c]).run Tryz.prog w = .ok (.tuple #[]) w := by
  cases a <;> simp [Builtin.clear_, run_underlying Tryz.underlying37]

theorem lists_rep (xs a d z : List Value) :
    let y1 := xs.take 0 ++ a ++ xs.drop (0 + a.length)
    let y2 := y1.take a.length ++ d ++ y1.drop (a.length + d.length)
    let y3 := y2.take (a.length + d.length) ++ z ++ y2.drop (a.length + d.length + z.length)
    y3.take (a.length + d.length) = a ++ d := by
  intro y1 y2 y3
  have e1 : y1.take a.length = a := by
    show (xs.take 0 ++ a ++ xs.drop (0 + a.length)).take a.length = a
    rw [List.take_zero, List.nil_append, List.take_append_of_le_length (Nat.le_refl _), List.take_length]
  have e2 : y2.take (a.length + d.length) = a ++ d := by
    show (y1.take a.length ++ d ++ y1.drop (a.length + d.length)).take (a.length + d.length) = a ++ d
    rw [e1, List.take_append_of_le_length (by rw [List.length_append]; omega), List.take_of_length_le (by rw [List.length_append]; omega)]
  show (y2.take (a.length + d.length) ++ z ++ y2.drop (a.length + d.length + z.length)).take (a.length + d.length) = a ++ d
  rw [e2, List.append_assoc, List.take_append_of_le_length (by rw [List.length_append]; omega), List.take_of_length_le (by rw [List.length_append]; omega)]
/-- what Replace of the first p records by fewer ones leaves -/
theorem rep_row {w : World} {B g cap p : Nat} {l A : List Rc} (ha : ArrR w B (.slice (some ⟨g, 0, none⟩) l.length cap) l) (hA : A.length ≤ p) (hp : p ≤ l.length) {w3 : World}
    (h3 : w3 = ((w.setCells g 0 (celR A)).setCells g (A.length * 6) ((celR l).drop (p * 6))).setCells g ((A.length + (l.length - p)) * 6) (zerosR (p - A.length))) :
    ArrR w3 B (.slice (some ⟨g, 0, none⟩) (A ++ l.drop p).length cap) (A ++ l.drop p) ∧ Chg (fun k => k = g) w w3 := by
  have hxs := celR_length l
  have hla := celR_length A
  have hld : ((celR l).drop (p * 6)).length = (l.length - p) * 6 := by rw [List.length_drop, hxs]; omega
  have hlz := zerosR_length (p - A.length)
  refine ⟨?_, by rw [h3]; exact chgD (((chg_sets _ _ _).trans (chg_sets _ _ _)).trans (chg_sets _ _ _))⟩
  have o1 := own_sets (celR A) 0 _ _ ha (by rw [hla, hxs]; omega)
  have o2 := own_sets ((celR l).drop (p * 6)) (celR A).length _ _ o1 (by simp only [List.length_append, List.length_take, List.length_drop, hxs, hla]; omega)
  have o3 := own_sets (zerosR (p - A.length)) ((celR A).length + ((celR l).drop (p * 6)).length) _ _ o2 (by simp only [List.length_append, List.length_take, List.length_drop, hxs, hla, hlz]; omega)
  have o4 := own_shorter (k := A.length + (l.length - p)) o3 (by omega)
  have e := lists_rep (celR l) (celR A) ((celR l).drop (p * 6)) (zerosR (p - A.length))
  have ek : (A.length + (l.length - p)) * 6 = (celR A).length + ((celR l).drop (p * 6)).length := by rw [hla, hld]; omega
  rw [← ek] at o4 e
  dsimp only at e
  have hlen : (A ++ l.drop p).length = A.length + (l.length - p) := by rw [List.length_append, List.length_drop]
  unfold ArrR
  rw [hlen, celR_append, celR_drop, h3]
  rw [hla] at o4 e
  rw [e] at o4
  exact o4
end Go.Proofs.YtmccpkpeimejhahGreatDoor.Dk
