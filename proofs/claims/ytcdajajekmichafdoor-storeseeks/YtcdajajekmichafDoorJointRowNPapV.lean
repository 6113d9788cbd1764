/-
  Numbers in a row of one's own. No walk.
  What Next and Last answer, one behind the other. No walk.
-/
import Derived.Test.YtcdajajekmichafDoorJointPapDPapLPapMPapGPapN
import Derived.Test.YtcdajajekmichafDoorBase0
import Derived.Deep.AppendSrc
import Derived.Test.YtcdajajekmichafDoorJointRowGRowBRowSRowURowV
import Derived.Test.YtcdajajekmichafDoorJointPlain2Plain5
namespace Go.Proofs.YtcdajajekmichafDoor.Dk
open Go.RowKit

/-- numbers in a row of one's own -/
def Nums (w : World) (B : Nat) (v : Value) (l : List Int) : Prop := w.ownsRow B 3 1 v l.length (l.map (Value.int .i64))
theorem infoI : (Tryd.prog.info? 3).map (fun i => (i.zero, i.size, i.bytes)) = some (some (.int .i64 0), 1, 8) := by kernel_rfl
theorem one_num (n : Int) : ∀ u ∈ [Value.int .i64 n], u.oneCell' = true := by
  intro u hu; simp at hu; subst hu; rfl
theorem nums_next {w0 wr w1 : World} {v v' : Value} {l : List Int} {n : Int} {o : Obj} (hown : Nums wr w0.heap.size v l) (hb : Below w0.heap.size w0 wr)
    (h1 : w1.ownsRow w0.heap.size 3 1 v' (l.length + 1) ((l.map (Value.int .i64)) ++ [.int .i64 n])) (hg : (wr.alloc o).grownBy w1 v.ownBlock) :
    Nums w1 w0.heap.size v' (l ++ [n]) ∧ Below w0.heap.size w0 w1 := by
  refine ⟨?_, ?_⟩
  · unfold Nums
    rw [List.map_append, List.map_cons, List.map_nil, List.length_append]
    exact h1
  · have hs := hb.size
    refine (hb.alloc (by omega) o).grown hg (by simp; omega) ?_
    intro j hj
    exact (World.ownsRow.lt hown j hj).1
theorem Nums.sl {w : World} {B : Nat} {v : Value} {l : List Int} (h : Nums w B v l) : ∃ a cap, v = .slice a l.length cap ∧ SlI w a l := by
  rcases h.2 with ⟨h1, h2⟩ | ⟨g, cap, cur, h1, h2, h3, h4, h5, h6, h7⟩
  · exact ⟨none, 0, by rw [h1, h2], fun k hk => by omega⟩
  · refine ⟨_, cap, h1, fun k hk => ⟨g, 0, rfl, (h.lt g (by rw [h1]; rfl)).2, ?_⟩⟩
    rw [Nat.zero_add]
    rw [h1] at h
    rw [World.ownsRow.cellAt h _ (by omega)]
    rw [List.getElem?_map, List.getElem?_eq_getElem hk]
    unfold nth
    rw [List.getElem?_eq_getElem hk]
    rfl
theorem Nums.below {w w' : World} {B : Nat} {v : Value} {l : List Int} (h : Nums w B v l) (hb : Below w.heap.size w w') : Nums w' B v l := by
  refine ⟨h.1, ?_⟩
  rcases h.2 with q | ⟨g, cap, cur, h1, h2, h3, r⟩
  · exact .inl q
  · refine .inr ⟨g, cap, cur, h1, h2, ?_, r⟩
    rw [hb.block g (World.ownsRow.lt h g (by rw [h1]; rfl)).2]
    exact h3
theorem Nums.chg {A : Nat → Prop} {w w' : World} {B : Nat} {v : Value} {l : List Int} (h : Nums w B v l) (hb : Chg A w w') (hn : ∀ g, B ≤ g → ¬ A g) : Nums w' B v l := by
  refine ⟨h.1, ?_⟩
  rcases h.2 with q | ⟨g, cap, cur, h1, h2, h3, r⟩
  · exact .inl q
  · refine .inr ⟨g, cap, cur, h1, h2, ?_, r⟩
    rw [hb.block g (World.ownsRow.lt h g (by rw [h1]; rfl)).2 (hn g h2)]
    exact h3
theorem Nums.shape {w : World} {B : Nat} {v : Value} {l : List Int} (h : Nums w B v l) : ∃ a cap, v = .slice a l.length cap ∧ l.length ≤ cap ∧ cap ≤ maxLen := by
  rcases h.2 with ⟨h1, h2⟩ | ⟨g, cap, cur, h1, h2, h3, h4, h5, h6⟩
  · exact ⟨none, 0, by rw [h1, h2], by omega, by unfold maxLen; omega⟩
  · exact ⟨_, cap, h1, h4, h5⟩
/-- one number more: where the new row lies -/
theorem append_num (w : World) (B : Nat) (ty : TypeId) (v : Value) (l : List Int) (n : Int) (ha : Nums w B v l) (a : Addr) (c : Nat) (hnews : w.cell? a = some (.int .i64 n)) (hl : l.length ≤ 200000) (hB : B ≤ w.heap.size) :
    ∃ v' w', (Builtin.append_ #[41, 41] ty #[v, .slice (some a) 1 c]).run Tryd.prog w = .ok v' w' ∧ Nums w' B v' (l ++ [n]) ∧ Chg (fun k => v.ownBlock = some k) w w' := by
  obtain ⟨i0, hi, hz0, hz1, hz2⟩ := info_parts infoI
  obtain ⟨v', w', hr, h2, h3, h4⟩ := run_append_own (P := Tryd.prog) w B 41 ty 3 i0 _ 1 8 Tryd.underlying41 hi hz0 hz1 hz2 rfl (by omega) v l.length (l.map (Value.int .i64)) ha a 1 c [.int .i64 n] rfl (fun j u hj => by
    match j, hj with
    | 0, hj =>
      rw [show a.add 0 = a from rfl, hnews]
      simpa using hj) (one_num n) (by unfold maxLen; omega) (by omega) hB
  refine ⟨v', w', hr, ?_, Chg.of_grown h3⟩
  unfold Nums
  rw [List.length_append, List.map_append]
  exact h2
end Go.Proofs.YtcdajajekmichafDoor.Dk

namespace Go.Proofs.YtcdajajekmichafDoor.Dk
open Go.RowKit

/-- what a filter takes; nothing if it is wrong -/
def tookL (f : ByteArray) (l : List Rc) : List Rc := if errS true f = 0 then takenL f l else []
def noE (f : ByteArray) : Int := if errS true f = 0 then 4 else errS true f
theorem noE_ne (f : ByteArray) : noE f ≠ 0 := by
  unfold noE
  by_cases h : errS true f = 0
  · rw [if_pos h]; decide
  · rw [if_neg h]; exact h
def aggR (r : Rc) : Value := .agg #[.int .i64 r.k, .int .i64 r.q, .int .i64 r.t, .string r.s, .string r.h, .string r.d]
theorem next_at {f : ByteArray} {s : Sto} (h : s.Ok) {k : Nat} {n : Int} (g : Gone (tookL f s.l) k n) : seekV f (nextO f s.l n) = if k < (tookL f s.l).length then .tuple #[aggR (rc (tookL f s.l) k), .int .i64 0] else .tuple #[aggR zeroR, .int .i64 (noE f)] := by
  by_cases e : errS true f = 0
  · have hT : tookL f s.l = takenL f s.l := if_pos e
    have hE : noE f = 4 := if_pos e
    rw [hT] at g ⊢
    unfold seekV
    rw [hE, Gone.next h g, if_pos e]
    by_cases hk : k < (takenL f s.l).length
    · rw [if_pos hk, List.getElem?_eq_getElem hk, rc_get hk]; rfl
    · rw [if_neg hk, List.getElem?_eq_none (by omega)]; rfl
  · have hT : tookL f s.l = [] := if_neg e
    have hE : noE f = errS true f := if_neg e
    rw [hT]
    unfold seekV
    rw [if_neg e, if_neg (show ¬ k < ([] : List Rc).length from Nat.not_lt_zero k), hE]; rfl
theorem last_at (f : ByteArray) (l : List Rc) : seekV f (lastO f l) = if 0 < (tookL f l).length then .tuple #[aggR (rc (tookL f l) ((tookL f l).length - 1)), .int .i64 0] else .tuple #[aggR zeroR, .int .i64 (noE f)] := by
  unfold seekV noE tookL
  by_cases e : errS true f = 0
  · rw [if_pos e, if_pos e, if_pos e]
    unfold lastO
    by_cases hk : 0 < (takenL f l).length
    · rw [if_pos hk, List.getLast?_eq_getElem?, List.getElem?_eq_getElem (by omega), rc_get (by omega)]; rfl
    · rw [if_neg hk]
      have : takenL f l = [] := List.length_eq_zero_iff.1 (by omega)
      rw [this]; rfl
  · rw [if_neg e, if_neg e, if_neg e, if_neg (by simp)]; rfl
/-- the last one behind k -/
def lastR (T : List Rc) : Nat → Rc
  | 0 => zeroR
  | k + 1 => rc T k
def seqL (l : List Rc) : List Int := l.map (·.q)
theorem seqL_len (l : List Rc) : (seqL l).length = l.length := List.length_map ..
theorem seqL_take {l : List Rc} {k : Nat} (h : k < l.length) : seqL (l.take (k + 1)) = seqL (l.take k) ++ [(rc l k).q] := by
  unfold seqL
  rw [List.take_succ_eq_append_getElem h, List.map_append, rc_get h]
  rfl
theorem took_len {f : ByteArray} {s : Sto} (h : s.Ok) : (tookL f s.l).length ≤ 200 := by
  unfold tookL
  by_cases e : errS true f = 0
  · rw [if_pos e]; exact Nat.le_trans (List.length_filter_le _ _) h.few
  · rw [if_neg e]; exact Nat.zero_le _
theorem took_mem {f : ByteArray} {l : List Rc} {x : Rc} (h : x ∈ tookL f l) : x ∈ l := by
  unfold tookL at h
  by_cases e : errS true f = 0
  · rw [if_pos e] at h; exact (List.mem_filter.1 h).1
  · rw [if_neg e] at h; cases h
theorem took_match {f : ByteArray} {l : List Rc} (hs : ∀ x ∈ l, errS false x.s = 0) : tookL f l = l.filter (fun x => matchB f x.s) := by
  unfold tookL takenL matchB
  by_cases e : errS true f = 0
  · rw [if_pos e, e]
    refine List.filter_congr (fun x hx => ?_)
    rw [hs x hx]
    unfold tkB
    simp
  · rw [if_neg e]
    refine (List.filter_eq_nil_iff.2 (fun x _ => ?_)).symm
    have : (errS true f == 0) = false := by simpa using e
    rw [this]
    simp
end Go.Proofs.YtcdajajekmichafDoor.Dk
