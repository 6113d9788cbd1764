/-
  The document's queue: Row.Take.
-/
import Derived.Test.YtbflhmkapfodiaaWalkPu8
namespace Go.Proofs.Ytbflhmkapfodiaa.Dk
open Go.RowKit Go.Deep

/-- the first pull is cut off -/
theorem AtR.cut {w w1 w' : World} {B p g cap : Nat} {a : Option Addr} {x : Pul} {r : List Pul} (k : KeepU w' p p (.slice (some ⟨g, 0, none⟩) (r.length + 1) cap) (x :: r)) (hBp : B ≤ p) (c1 : Chg (fun k => k = p) w w1) (c2 : Chg (fun k => k = g) w1 w') (hg : w.heap.size ≤ g) (hB : B ≤ w.heap.size) :
    UpdR w (w'.setCell ⟨p, 0, none⟩ (.slice (if cap = 1 then some ⟨g, 0, none⟩ else some ⟨g, 3, none⟩) r.length (cap - 1))) B p a r := by
  have hgp : g ≠ p := fun e => k.apart (by rw [e]; rfl)
  have s1 := c1.size
  have s2 := c2.size
  have hgl := (k.arr.lt g rfl).2
  obtain ⟨_, _, e, hcl, _⟩ := ArrU.shape k.arr
  obtain ⟨_, _, rfl⟩ := Value.slice.inj e
  rw [List.length_cons] at hcl
  have cs : Chg (fun k => k = p) w' (w'.setCell ⟨p, 0, none⟩ (.slice (if cap = 1 then some ⟨g, 0, none⟩ else some ⟨g, 3, none⟩) r.length (cap - 1))) := Chg.setCell (A := fun k => k = p) (p := ⟨p, 0, none⟩) (Chg.refl _ _) (.inl rfl) _
  have hz : ∀ z, (if cap = 1 then some (⟨g, 0, none⟩ : Addr) else some ⟨g, 3, none⟩) = some z → z.block = g := fun z hq => by
    split at hq <;> (cases hq; rfl)
  refine ⟨_, _, ⟨World.cell?_setCell_same _ _ _ k.cell, by rw [World.frozen?_setCell]; exact k.free, hBp, by have := k.lt; simpa [World.setCell] using this, ?_, fun z hq => by rw [hz z hq]; exact ⟨hgp, by omega, by simpa [World.setCell] using hgl⟩⟩, ⟨cs.os.trans (c2.os.trans c1.os), cs.tape.trans (c2.tape.trans c1.tape), cs.output.trans (c2.output.trans c1.output), Nat.le_trans s1 (Nat.le_trans s2 cs.size), fun i hi hn => ?_⟩, fun z hq => .inr (by rw [hz z hq]; exact hg)⟩
  · intro i hi
    have h3 : ¬ (cap = 1) := by omega
    refine ⟨g, 3, if_neg h3, ?_⟩
    have := (ArrU.at k.arr (k := i + 1) (by simpa using hi)).chg cs hgp
    rw [show (i + 1) * 3 = 3 + i * 3 by omega] at this
    exact this
  · rw [cs.block i (by omega) hn, c2.block i (by omega) (by omega)]
    exact c1.block i hi hn
section
variable {w : World} {B p : Nat} {a : Option Addr} {cap : Nat} {l : List Pul}
set_option maxRecDepth 100000 in
set_option maxHeartbeats 2000000 in
theorem rtake_any (h : RwU w B p a cap l) (ho : QOk l) (now : Int) :
    Calls Try.prog 9 #[.pointer (some ⟨p, 0, none⟩), .int .i64 now] w fun e w' => e = .returned (.tuple #[.bool (takB now l), .int .i64 (atE now)]) ∧ UpdR w w' B p a (takL now l) := by
  have hl := ho.few
  have HA := hide (rat_any h hl now)
  have HS := hide (UpdR.same h (Below.refl _ _))
  have HR := hide (And.intro h.room h.base)
  cases ht : tmB now with
  | false =>
    have HV : Hid (takB now l = false ∧ atE now = 1 ∧ takL now l = l) := hide ⟨by unfold takB; rw [ht, Bool.false_and], by unfold atE; rw [if_neg (by simp [ht])], by unfold takL; rw [if_neg (by simp [ht])]⟩
    rw [ht] at HA
    obtain ⟨e1, e2, e3⟩ := unhide HV
    rw [e1, e2, e3]
    clear h ht hl e1 e2 e3 ho
    go_enter Try.func9, Try.ntmps9
    go_wp2_with fail
    refine (unhide HA).mono ?_
    rintro e w1 ⟨rfl, _, hw⟩
    rw [hw trivial]
    clear hw
    go_wp2_with fail
    go_ret2
    exact ⟨rfl, unhide HS⟩
  | true =>
    have HV : Hid (takB now l = decide (0 < (keepP now l).length) ∧ atE now = 0 ∧ takL now l = servP (keepP now l)) := hide ⟨by unfold takB; rw [ht, Bool.true_and], by unfold atE; rw [if_pos ht], by unfold takL; rw [if_pos ht]⟩
    have hk := ho.keep now
    rw [ht] at HA
    obtain ⟨e1, e2, e3⟩ := unhide HV
    rw [e1, e2, e3]
    obtain ⟨m, hm⟩ : ∃ m, keepP now l = m := ⟨_, rfl⟩
    rw [hm] at HA hk
    rw [hm]
    clear h ht hl e1 e2 e3 hm HV HS ho
    cases m with
    | nil =>
      clear hk
      go_enter Try.func9, Try.ntmps9
      go_wp2_with fail
      refine (unhide HA).mono ?_
      rintro e w1 ⟨rfl, hU, _⟩
      have HU := hide ((hU trivial).upd a)
      obtain ⟨a1, cap1, k1, _, _, _⟩ := hU trivial
      have hc := k1.cell
      rw [show ([] : List Pul).length = 0 from rfl] at hc
      clear k1 hU
      go_wp2_with fail
      go_ret2
      exact ⟨rfl, unhide HU⟩
    | cons x r =>
      have hxb := hk.one x (by simp)
      have hrl := hk.few
      clear hk
      rw [List.length_cons] at hrl
      go_enter Try.func9, Try.ntmps9
      go_wp2_with fail
      refine (unhide HA).mono ?_
      rintro e w1 ⟨rfl, hU, _⟩
      obtain ⟨a1, cap1, h1, k1, c1, z1⟩ := hU trivial
      obtain ⟨g, cap2, e0, y1, y2, y3, y4⟩ := k1.arr.there (by simp)
      obtain ⟨rfl, _, rfl⟩ := Value.slice.inj e0
      clear e0
      have hgp : g ≠ p := fun e => k1.apart (by rw [e]; rfl)
      have hc := k1.cell
      have hat := (k1.arr.at (k := 0) (by simp)).c0
      have hfr := (ArrT.free k1.arr).1 0
      rw [Nat.zero_mul] at hat
      rw [show (x :: r)[0].b = x.b from rfl] at hat
      obtain ⟨k2, c2⟩ := k1.less (x.b - 1)
      have cg : Chg (fun k => k = g) w1 (w1.setCell ⟨g, 0, none⟩ (.int .i64 (x.b - 1))) := Chg.setCell (A := fun k => k = g) (p := ⟨g, 0, none⟩) (Chg.refl _ _) (.inl rfl) _
      have hc2 := k2.cell
      have hf2 := k2.free
      have hat2 : (w1.setCell ⟨g, 0, none⟩ (.int .i64 (x.b - 1))).cell? ⟨g, 0, none⟩ = some (.int .i64 (x.b - 1)) := World.cell?_setCell_same _ _ _ hat
      have hgz := z1 _ rfl
      have hlen : (x :: r).length = r.length + 1 := rfl
      rw [hlen] at hc hc2 y1
      have g0 : (((r.length : Int) + 1) == 0) = false := by rw [beq_eq_false_iff_ne]; omega
      have hpl := k1.lt
      by_cases hb1 : x.b - 1 = 0
      · have HV2 : Hid (servP (x :: r) = r) := hide (if_pos hb1)
        have g1 : ((x.b - 1) == 0) = true := by rw [hb1]; rfl
        have HU := hide (AtR.cut (a := a) (x := ⟨x.b - 1, x.t, x.nw⟩) (r := r) k2 (unhide HR).2 c1 cg hgz (unhide HR).1)
        clear k1 k2 c1 c2 cg z1 HA hU h1 hb1 y2 y3 hgz
        by_cases hcap : cap1 = 1
        · subst hcap
          have hr0 : r.length = 0 := by omega
          rw [if_pos rfl, hr0] at HU
          go_wp2_with fail
          go_ret2
          refine ⟨by simp, ?_⟩
          rw [unhide HV2]
          exact unhide HU
        · rw [if_neg hcap] at HU
          go_wp2_with fail
          go_ret2
          refine ⟨by simp, ?_⟩
          rw [unhide HV2]
          exact unhide HU
      · have HV2 : Hid (servP (x :: r) = ⟨x.b - 1, x.t, x.nw⟩ :: r) := hide (if_neg hb1)
        have g1 : ((x.b - 1) == 0) = false := by rw [beq_eq_false_iff_ne]; exact hb1
        have HU := hide (AtR.did (a := a) h1 c1 z1 (unhide HR).1 ⟨_, k2, c2, fun _ q => .inl q⟩)
        clear k1 k2 c1 c2 cg z1 HA hU h1 hb1 y2 y3 hgz
        go_wp2_with fail
        go_ret2
        refine ⟨by simp, ?_⟩
        rw [unhide HV2]
        exact unhide HU
end
end Go.Proofs.Ytbflhmkapfodiaa.Dk
