/-
  The document's queue: rillref.In, Row.at, Waits.
-/
import Derived.Test.YtbflhmkapfodiaaRowPul
namespace Go.Proofs.Ytbflhmkapfodiaa.Dk
open Go.RowKit

def inB (n lo hi : Int) : Bool := decide (lo ≤ n) && decide (n ≤ hi)
theorem inB_tm (n : Int) : inB n 0 1099511627776 = tmB n := rfl
set_option maxHeartbeats 1000000 in
theorem rin_any (n lo hi : Int) (w : World) : Calls Try.prog 18 #[.int .i64 n, .int .i64 lo, .int .i64 hi] w fun e w' => e = .returned (.bool (inB n lo hi)) ∧ w' = w := by
  by_cases h0 : lo ≤ n
  · have g0 : decide (lo ≤ n) = true := decide_eq_true h0
    have HV : Hid (inB n lo hi = decide (n ≤ hi)) := hide (by unfold inB; rw [g0, Bool.true_and])
    go_enter Try.func18, Try.ntmps18
    go_wp2_with fail
    go_ret
    rw [unhide HV]
    exact ⟨rfl, rfl⟩
  · have g0 : decide (lo ≤ n) = false := decide_eq_false h0
    have HV : Hid (inB n lo hi = false) := hide (by unfold inB; rw [g0, Bool.false_and])
    go_enter Try.func18, Try.ntmps18
    go_wp2_with fail
    go_ret
    rw [unhide HV]
    exact ⟨rfl, rfl⟩
/-- the document's queue: cell 0 of the block p holds a slice that shows the pulls l, wherever it begins -/
structure RwU (w : World) (B p : Nat) (a : Option Addr) (cap : Nat) (l : List Pul) : Prop where
  cell : w.cell? ⟨p, 0, none⟩ = some (.slice a l.length cap)
  free : w.frozen? ⟨p, 0, none⟩ = false
  base : B ≤ p
  lt : p < w.heap.size
  sl : SlU w a l
  own : ∀ z, a = some z → z.block ≠ p ∧ B ≤ z.block ∧ z.block < w.heap.size
def ftR (p : Nat) (a : Option Addr) (k : Nat) : Prop := k = p ∨ ∃ z, a = some z ∧ z.block = k
theorem RwU.chg {A : Nat → Prop} {w w' : World} {B p : Nat} {a : Option Addr} {cap : Nat} {l : List Pul} (h : RwU w B p a cap l) (hb : Chg A w w') (hn : ∀ k, ftR p a k → ¬ A k) : RwU w' B p a cap l :=
  ⟨by rw [hb.cell (p := ⟨p, 0, none⟩) h.lt (hn p (.inl rfl))]; exact h.cell, by rw [hb.frozen (p := ⟨p, 0, none⟩) h.lt (hn p (.inl rfl))]; exact h.free, h.base, by have := hb.size; have := h.lt; omega, h.sl.chg hb (fun z hz => hn _ (.inr ⟨z, hz, rfl⟩)), fun z hz => ⟨(h.own z hz).1, (h.own z hz).2.1, Nat.lt_of_lt_of_le (h.own z hz).2.2 hb.size⟩⟩
theorem RwU.below {w w' : World} {B p : Nat} {a : Option Addr} {cap : Nat} {l : List Pul} (h : RwU w B p a cap l) (hb : Below w.heap.size w w') : RwU w' B p a cap l := h.chg (A := fun _ => False) (Chg.of_below hb) (fun _ _ z => z)
/-- what a call makes of it: only its own block is written, a new row is made -/
def UpdR (w w' : World) (B p : Nat) (a : Option Addr) (l' : List Pul) : Prop := ∃ a' cap', RwU w' B p a' cap' l' ∧ Chg (fun k => k = p) w w' ∧ ∀ z, a' = some z → a = some z ∨ w.heap.size ≤ z.block
theorem UpdR.same {w w' : World} {B p : Nat} {a : Option Addr} {cap : Nat} {l : List Pul} (h : RwU w B p a cap l) (hb : Below w.heap.size w w') : UpdR w w' B p a l := ⟨a, cap, h.below hb, Chg.of_below hb, fun _ q => .inl q⟩
/-- behind Row.at: a row of its own that is new -/
def AtR (w w' : World) (B p : Nat) (m : List Pul) : Prop := ∃ a' cap', RwU w' B p a' cap' m ∧ KeepU w' p p (.slice a' m.length cap') m ∧ Chg (fun k => k = p) w w' ∧ ∀ z, a' = some z → w.heap.size ≤ z.block
theorem AtR.upd {w w' : World} {B p : Nat} {m : List Pul} (h : AtR w w' B p m) (a : Option Addr) : UpdR w w' B p a m := by
  obtain ⟨a', cap', h1, _, h3, h4⟩ := h
  exact ⟨a', cap', h1, h3, fun z hz => .inr (h4 z hz)⟩
/-- a row that is new is stored -/
theorem RwU.store {w w' : World} {B p : Nat} {a : Option Addr} {cap : Nat} {l : List Pul} (h : RwU w B p a cap l) (hb : Below w.heap.size w w') {a' : Option Addr} {cap' : Nat} {l' : List Pul} (ha : ArrU w' w.heap.size (.slice a' l'.length cap') l') :
    AtR w (w'.setCell ⟨p, 0, none⟩ (.slice a' l'.length cap')) B p l' := by
  have hB : B ≤ w.heap.size := by have := h.base; have := h.lt; omega
  obtain ⟨a2, cap2, e, _, _, hs, hown⟩ := ArrU.shape ha
  obtain ⟨rfl, _, rfl⟩ := Value.slice.inj e
  have hz : ∀ z, a' = some z → w.heap.size ≤ z.block ∧ z.block < w'.heap.size := fun z hz => ha.lt _ (hown z hz)
  have hne : ∀ z, a' = some z → z.block ≠ p := fun z hq q => by have := (hz z hq).1; have := h.lt; omega
  have hc : w'.cell? ⟨p, 0, none⟩ = some (.slice a l.length cap) := by rw [hb.cell (p := ⟨p, 0, none⟩) h.lt]; exact h.cell
  have hf : w'.frozen? ⟨p, 0, none⟩ = false := by rw [hb.frozen (p := ⟨p, 0, none⟩) h.lt]; exact h.free
  have cs : Chg (fun k => k = p) w' (w'.setCell ⟨p, 0, none⟩ (.slice a' l'.length cap')) := Chg.setCell (A := fun k => k = p) (p := ⟨p, 0, none⟩) (Chg.refl _ _) (.inl rfl) _
  have hlt : p < (w'.setCell ⟨p, 0, none⟩ (.slice a' l'.length cap')).heap.size := by have := hb.size; have := h.lt; simp [World.setCell]; omega
  have hfr : (w'.setCell ⟨p, 0, none⟩ (.slice a' l'.length cap')).frozen? ⟨p, 0, none⟩ = false := by rw [World.frozen?_setCell]; exact hf
  refine ⟨a', cap', ⟨World.cell?_setCell_same _ _ _ hc, hfr, h.base, hlt, hs.chg cs hne, fun z hq => ⟨hne z hq, Nat.le_trans hB (hz z hq).1, by have := (hz z hq).2; simpa [World.setCell] using this⟩⟩, ⟨World.cell?_setCell_same _ _ _ hc, hfr, Nat.le_refl _, hlt, ?_, fun q => ?_⟩, (Chg.of_below hb).trans cs, fun z hq => (hz z hq).1⟩
  · exact ArrT.chg (ArrT.low ha (Nat.le_of_lt h.lt)) cs (fun g hg q => by have := (ha.lt g hg).1; have := h.lt; omega)
  · have := (ha.lt p q).1; have := h.lt; omega
/-- a call upon it that only writes its own blocks -/
theorem AtR.did {w w1 w' : World} {B p : Nat} {a a1 : Option Addr} {cap1 : Nat} {m m' : List Pul} (h1 : RwU w1 B p a1 cap1 m) (c1 : Chg (fun k => k = p) w w1) (hz : ∀ z, a1 = some z → w.heap.size ≤ z.block) (hB : B ≤ w.heap.size) (hu : UpdU w1 w' p p (.slice a1 m.length cap1) m') : UpdR w w' B p a m' := by
  obtain ⟨v', k', c', g'⟩ := hu
  have s1 := c1.size
  have hv : ∀ g, (Value.slice a1 m.length cap1).ownBlock = some g → w.heap.size ≤ g := fun g hg => by
    cases a1 with
    | none => cases hg
    | some z =>
      have := hz z rfl
      simp only [Value.ownBlock, Option.some.injEq] at hg
      omega
  have hv' : ∀ g, v'.ownBlock = some g → w.heap.size ≤ g := fun g hg => by
    rcases g' g hg with q | q
    · exact hv g q
    · omega
  have ha := k'.arr
  have hap := k'.apart
  have hc := k'.cell
  obtain ⟨a2, cap2, rfl, _, _, hs, hown⟩ := ArrU.shape ha
  refine ⟨a2, cap2, ⟨hc, k'.free, h1.base, k'.lt, hs, fun z hq => ⟨fun q => hap (by rw [hown z hq, q]), Nat.le_trans hB (hv' _ (hown z hq)), (ha.lt _ (hown z hq)).2⟩⟩, ⟨c'.os.trans c1.os, c'.tape.trans c1.tape, c'.output.trans c1.output, Nat.le_trans c1.size c'.size, fun i hi hn => ?_⟩, fun z hq => .inr (hv' _ (hown z hq))⟩
  rw [c'.block i (by omega) (fun q => ?_)]
  · exact c1.block i hi hn
  · rcases q with q | q
    · exact hn q
    · have := hv i q; omega
theorem UpdR.behind {w w1 w' : World} {B p : Nat} {a a1 : Option Addr} {m' : List Pul} (c1 : Chg (fun k => k = p) w w1) (hz : ∀ z, a1 = some z → w.heap.size ≤ z.block) (hu : UpdR w1 w' B p a1 m') : UpdR w w' B p a m' := by
  obtain ⟨a2, cap2, h, c, g⟩ := hu
  exact ⟨a2, cap2, h, c1.trans c, fun z hq => by
    rcases g z hq with q | q
    · exact .inr (hz z q)
    · exact .inr (Nat.le_trans c1.size q)⟩
theorem keepP_step {now : Int} {l : List Pul} {k : Nat} (h : k < l.length) : keepP now (l.take (k + 1)) = keepP now (l.take k) ++ (if endB now l[k] then [] else [l[k]]) := by
  unfold keepP
  rw [List.take_succ_eq_append_getElem h, List.filter_append]
  cases q : endB now l[k] <;> simp [q]
/-- one pull more onto a row that is new -/
theorem left_more {w wr : World} {lv : Value} {out : List Pul} (x : Pul) (B : Nat) (hB : B ≤ wr.heap.size) (hn : out.length ≤ 10) (h : ArrU wr B lv out) (hb : Below B w wr) :
    ∃ a' c' w8, (Builtin.append_ #[26, 26] 26 #[lv, .slice (some ⟨wr.heap.size, 0, none⟩) 1 1]).run Try.prog (wr.alloc (pulO x)) = .ok (.slice a' (out.length + 1) c') w8 ∧ ArrU w8 B (.slice a' (out.length + 1) c') (out ++ [x]) ∧ Below B w w8 := by
  have b4 : Below wr.heap.size wr (wr.alloc (pulO x)) := (Below.refl _ _).alloc (Nat.le_refl _) _
  obtain ⟨v8, w8, hr, A8, C8, L8⟩ := append_pul _ B 26 lv out x (h.below b4) ⟨wr.heap.size, 0, none⟩ 1 (tri_row wr (pulT x) 30) (by omega) (by have := b4.size; omega)
  have A9 := A8
  obtain ⟨a', c', rfl, _⟩ := A8.shape
  rw [List.length_append, List.length_singleton] at hr A9
  exact ⟨a', c', w8, hr, A9, (hb.trans (b4.mono hB)).trans (C8.below (by have := b4.size; omega) (fun k hk q => by have := (h.lt k q).1; omega))⟩
section
variable {w : World} {B p : Nat} {a : Option Addr} {cap : Nat} {l : List Pul}
set_option maxRecDepth 100000 in
set_option maxHeartbeats 2000000 in
theorem rat_any (h : RwU w B p a cap l) (hl : l.length ≤ 10) (now : Int) :
    Calls Try.prog 19 #[.pointer (some ⟨p, 0, none⟩), .int .i64 now] w fun e w' => e = .returned (.bool (tmB now)) ∧ (tmB now = true → AtR w w' B p (keepP now l)) ∧ (tmB now = false → w' = w) := by
  have HT := hide (rin_any now 0 1099511627776 w)
  rw [inB_tm] at HT
  have H := hide h
  cases ht : tmB now with
  | false =>
    rw [ht] at HT
    clear h ht hl
    go_enter Try.func19, Try.ntmps19
    go_wp2_with fail
    refine (unhide HT).mono ?_
    rintro e w1 ⟨rfl, hw⟩
    rw [hw]
    clear hw
    go_wp2_with fail
    go_ret
    exact ⟨rfl, fun q => (by cases q), fun _ => rfl⟩
  | true =>
    have hc := h.cell
    have hf := h.free
    have hpl := h.lt
    have HS := hide h.sl
    obtain ⟨N, hN⟩ : ∃ N, l.length = N := ⟨_, rfl⟩
    have HN := hide hN
    rw [hN] at hc hl
    rw [ht] at HT
    clear h ht hN
    go_enter Try.func19, Try.ntmps19
    go_wp2_with fail
    refine (unhide HT).mono ?_
    rintro e w1 ⟨rfl, hw⟩
    rw [hw]
    clear hw HT
    go_wp2_with fail
    go_loopw [5, 6] (fun lv iv wr => ∃ i : Nat, iv = .int .i64 i ∧ i ≤ N ∧ Hid (ArrU wr w.heap.size lv (keepP now (l.take i))) ∧ Hid (Below w.heap.size w wr)) (fun _ iv _ => N - (intOf iv).toNat)
    case atStart => exact ⟨0, rfl, Nat.zero_le _, hide (ArrT.empty _ _ _), hide (Below.refl _ _)⟩
    case round =>
      obtain ⟨i, rfl, hi, AW, BW⟩ := hrel
      have hc2 := ((unhide BW).cell (p := ⟨p, 0, none⟩) hpl).trans hc
      have hf2 := ((unhide BW).frozen (p := ⟨p, 0, none⟩) hpl).trans hf
      have hpl2 := Nat.lt_of_lt_of_le hpl (unhide BW).size
      by_cases hlt : i < N
      · have hil : i < l.length := by rw [unhide HN]; exact hlt
        obtain ⟨b, o, rfl, t⟩ := (unhide HS).below (unhide BW) i hil
        obtain ⟨hbl, c0, c1, c2⟩ := t
        have HP := hide (keepP_step (now := now) hil)
        have hkl : (keepP now (l.take i)).length ≤ 10 := Nat.le_trans (List.length_filter_le _ _) (by rw [List.length_take]; omega)
        obtain ⟨x, hx⟩ : ∃ x, l[i] = x := ⟨_, rfl⟩
        rw [hx] at c0 c1 c2 HP
        obtain ⟨out, hout⟩ : ∃ out, keepP now (l.take i) = out := ⟨_, rfl⟩
        rw [hout] at HP AW hkl
        have HM := hide (left_more x w.heap.size (unhide BW).size hkl (unhide AW) (unhide BW))
        clear hx hout hil
        cases g0 : (x.t == 0) with
        | true =>
          have HE : Hid (endB now x = false) := hide (by unfold endB; rw [show (x.t != 0) = false by simp [bne, g0]]; rfl)
          rw [unhide HE] at HP
          obtain ⟨a', c', w8, hrun, A8, B8⟩ := unhide HM
          have HRun := hide hrun
          have HP2 : Hid (keepP now (l.take (i + 1)) = out ++ [x]) := hide (by rw [unhide HP]; rfl)
          have H8 := hide (And.intro A8 B8)
          clear HM A8 B8 HP hrun
          go_wp2_with (at_builtin; refine Lib.wpList_append_run _ rfl _ _ _ _ rfl _ _ rfl rfl _ _ (unhide HRun) ?_)
          refine ⟨⟨i + 1, by go_num, by omega, hide (by rw [unhide HP2]; exact (unhide H8).1), hide (unhide H8).2⟩, ?_⟩
          simp [intOf]; omega
        | false =>
          by_cases h1 : now < x.t
          · have g1 : decide (now < x.t) = true := decide_eq_true h1
            have HE : Hid (endB now x = false) := hide (by unfold endB; rw [decide_eq_false (show ¬ x.t ≤ now by omega), Bool.and_false])
            rw [unhide HE] at HP
            obtain ⟨a', c', w8, hrun, A8, B8⟩ := unhide HM
            have HRun := hide hrun
            have HP2 : Hid (keepP now (l.take (i + 1)) = out ++ [x]) := hide (by rw [unhide HP]; rfl)
            have H8 := hide (And.intro A8 B8)
            clear HM A8 B8 HP hrun
            go_wp2_with (at_builtin; refine Lib.wpList_append_run _ rfl _ _ _ _ rfl _ _ rfl rfl _ _ (unhide HRun) ?_)
            refine ⟨⟨i + 1, by go_num, by omega, hide (by rw [unhide HP2]; exact (unhide H8).1), hide (unhide H8).2⟩, ?_⟩
            simp [intOf]; omega
          · have g1 : decide (now < x.t) = false := decide_eq_false h1
            have HE : Hid (endB now x = true) := hide (by unfold endB; rw [decide_eq_true (show x.t ≤ now by omega), Bool.and_true]; simp [bne, g0])
            rw [unhide HE] at HP
            have HP2 : Hid (keepP now (l.take (i + 1)) = out) := hide (by rw [unhide HP]; simp)
            clear HM HP
            go_wp2_with fail
            refine ⟨⟨i + 1, by go_num, by omega, hide (by rw [unhide HP2]; exact unhide AW), BW⟩, ?_⟩
            simp [intOf]; omega
      · obtain rfl : i = N := by omega
        have HP : Hid (keepP now (l.take i) = keepP now l) := hide (by rw [← unhide HN, List.take_length])
        rw [unhide HP] at AW
        obtain ⟨la, lc, rfl, z1⟩ := ArrU.shape (unhide AW)
        clear z1
        have HR := hide ((unhide H).store (unhide BW) (unhide AW))
        go_wp2_with fail
        go_ret
        exact ⟨rfl, fun _ => unhide HR, fun q => (by cases q)⟩
end
end Go.Proofs.Ytbflhmkapfodiaa.Dk
