/-
  The law's own function 'same', over what is asked of any disk.
-/
import Derived.Test.YtbejicpfhnfnfabWalkP8
import Derived.Test.YtbejicpfhnfnfabWorksE
namespace Go.Proofs.Ytbejicpfhnfnfab.Dk
open Go.RowKit

/-- the program's disk and the document's, apart -/
structure Two (Has : World → Nat → Nat → (Nat → Prop) → Int → List Pap → Prop) (w : World) (B q : Nat) (F : Nat → Prop) (p : Nat) (m : Int) (v : Value) (es1 es2 : List Pap) : Prop where
  d : Has w B q F m es1
  k : Keeps w B p m v es2
  a : ∀ k, F k → ¬ foot p v k
  B : B ≤ w.heap.size
theorem foot_lt {w : World} {B p : Nat} {m : Int} {v : Value} {es : List Pap} (h : Keeps w B p m v es) {k : Nat} (hk : foot p v k) : B ≤ k ∧ k < w.heap.size := by
  rcases hk with rfl | hk
  · exact ⟨h.base, h.lt⟩
  · exact h.arr.lt k hk
theorem Two.did {Has : World → Nat → Nat → (Nat → Prop) → Int → List Pap → Prop} (H : Looks Has) {w w' : World} {B q p : Nat} {F : Nat → Prop} {m : Int} {v : Value} {es1 es2 es' : List Pap} (h : Two Has w B q F p m v es1 es2) (x : Did Has w w' B q F m es') : (∃ F', Two Has w' B q F' p m v es' es2) ∧ Below B w w' := by
  obtain ⟨F', h1, h2, h3⟩ := x
  have hb : Below B w w' := h2.below h.B (fun k hk hf => by have := (H.own h.d k hf).1; omega)
  refine ⟨⟨F', h1, h.k.chg h2 (fun k hk hf => h.a k hf hk), fun k hk hf => ?_, Nat.le_trans h.B h2.size⟩, hb⟩
  rcases h3 k hk with z | z
  · exact h.a k z hf
  · have := (foot_lt h.k hf).2; omega
theorem Two.upd {Has : World → Nat → Nat → (Nat → Prop) → Int → List Pap → Prop} (H : Looks Has) {w w' : World} {B q p : Nat} {F : Nat → Prop} {m : Int} {v : Value} {es1 es2 es' : List Pap} (h : Two Has w B q F p m v es1 es2) (x : Upd w w' B p m v es') : (∃ v', Two Has w' B q F p m v' es1 es') ∧ Below B w w' := by
  obtain ⟨v', h1, h2, h3⟩ := x
  have hb : Below B w w' := h2.below h.B (fun k hk hf => by have := (foot_lt h.k hf).1; omega)
  refine ⟨⟨v', H.chg h.d h2 (fun k hk => h.a k hk), h1, fun k hk hf => ?_, Nat.le_trans h.B h2.size⟩, hb⟩
  rcases hf with z | z
  · exact h.a k hk (.inl z)
  · rcases h3 k z with z | z
    · exact h.a k hk (.inr z)
    · have := (H.own h.d k hk).2; omega
theorem Two.below {Has : World → Nat → Nat → (Nat → Prop) → Int → List Pap → Prop} (H : Looks Has) {w w' : World} {B q p : Nat} {F : Nat → Prop} {m : Int} {v : Value} {es1 es2 : List Pap} (h : Two Has w B q F p m v es1 es2) (x : Below w.heap.size w w') : Two Has w' B q F p m v es1 es2 :=
  ⟨H.chg (A := fun _ => False) h.d (Chg.of_below x) (fun _ _ h => h), h.k.below x, h.a, Nat.le_trans h.B x.size⟩
theorem below_le {B C : Nat} {w w' : World} (h : Below C w w') (hB : B ≤ C) : Below B w w' := ⟨h.os, h.tape, h.output, h.size, fun k hk => h.block k (by omega)⟩
theorem ix_pa {m : Int} {es : List Pap} (h : Tidy m es) {k : Nat} (hk : k < es.length) : ix es (pa es k).n = k := by
  refine ix_hit hk rfl (fun j hj => ?_)
  have := rise_pa h.rise hj hk
  rw [beq_eq_false_iff_ne]
  omega
theorem read_pa {m : Int} {es : List Pap} (h : Tidy m es) {k : Nat} (hk : k < es.length) : readV es (pa es k).n = .tuple #[.string (pa es k).text, .int .i64 0] := by
  unfold readV
  rw [ix_pa h hk, if_pos hk]

/-- both were only looked at -/
def Seen (Has : World → Nat → Nat → (Nat → Prop) → Int → List Pap → Prop) (w wr : World) (B q : Nat) (F : Nat → Prop) (p : Nat) (m : Int) (v : Value) (es : List Pap) : Prop := ∃ F', Two Has wr B q F' p m v es es ∧ Chg F w wr ∧ ∀ k, F' k → F k ∨ w.heap.size ≤ k
theorem Seen.after {Has : World → Nat → Nat → (Nat → Prop) → Int → List Pap → Prop} {w wr w' : World} {B q p : Nat} {F F' : Nat → Prop} {m : Int} {v : Value} {es : List Pap} (y : Two Has wr B q F' p m v es es) (c : Chg F w wr ∧ ∀ k, F' k → F k ∨ w.heap.size ≤ k) (x : Did Has wr w' B q F' m es) : Seen Has w w' B q F p m v es := by
  obtain ⟨F2, a1, a2, a3⟩ := x
  refine ⟨F2, ⟨a1, y.k.chg a2 (fun k hk hf => y.a k hf hk), fun k hk hf => ?_, Nat.le_trans y.B a2.size⟩, c.1.more a2 (fun i hi z => ?_), fun k hk => ?_⟩
  · rcases a3 k hk with z | z
    · exact y.a k z hf
    · have := (foot_lt y.k hf).2; omega
  · rcases c.2 i z with y | y
    · exact y
    · omega
  · rcases a3 k hk with z | z
    · exact c.2 k z
    · exact .inr (Nat.le_trans c.1.size z)
theorem seen_below {w wr w' : World} {F F' : Nat → Prop} (c : Chg F w wr ∧ ∀ k, F' k → F k ∨ w.heap.size ≤ k) (hb : Below wr.heap.size wr w') : Chg F w w' ∧ ∀ k, F' k → F k ∨ w.heap.size ≤ k := ⟨c.1.trans (Chg.of_below hb), c.2⟩

set_option maxRecDepth 100000 in
set_option maxHeartbeats 1000000 in
theorem same_seen {Has : World → Nat → Nat → (Nat → Prop) → Int → List Pap → Prop} (H : Looks Has) {w : World} {B q p : Nat} {F : Nat → Prop} {m : Int} {v : Value} {es : List Pap} (h2 : Two Has w B q F p m v es es) (ht : Tidy m es) (hm : m ≤ 65536) :
    Calls Try.prog 19 #[.pointer (some ⟨q, 0, none⟩), .pointer (some ⟨p, 0, none⟩)] w fun e w' => e = .returned (.bool true) ∧ Seen Has w w' B q F p m v es := by
  have HT := hide ht
  have H2 := hide h2
  have hfew := ht.few
  have hfit := ht.fits
  clear ht h2
  go_enter Try.func19, Try.ntmps19
  go_wp2_with fail
  refine (H.used (unhide H2).d (unhide HT) hm (unhide H2).B).mono ?_
  rintro e w1 ⟨rfl, x1⟩
  obtain ⟨F1, y1, b1⟩ := Seen.after (unhide H2) (And.intro (Chg.refl _ _) (fun _ h => .inl h)) x1
  have Y1 := hide y1
  have B1 := hide b1
  clear x1 y1 b1
  go_wp2_with fail
  refine (used_any B p m _ es _ (unhide Y1).k (by omega) (by omega)).mono ?_
  rintro e w2 ⟨rfl, rfl⟩
  go_wp2_with fail
  refine (H.list (unhide Y1).d (unhide HT) hm (unhide Y1).B).mono ?_
  rintro e w3 ⟨a, c, rfl, sl1, x3⟩
  obtain ⟨F3, y3, b3⟩ := Seen.after (unhide Y1) (unhide B1) x3
  have Y3 := hide y3
  have B3 := hide b3
  clear x3 y3 b3 Y1 B1
  have S1 := hide sl1
  clear sl1
  go_wp2_with fail
  refine (list_any B p m _ es _ (unhide Y3).k (by omega)).mono ?_
  rintro e w4 ⟨v', rfl, nm, b4⟩
  obtain ⟨a', c', rfl, sl2⟩ := nm.sl
  have hlen : (numL es).length = es.length := by unfold numL; rw [List.length_map]
  have S2 := hide ((unhide S1).below b4)
  have S3 := hide sl2
  have Y4 := hide ((unhide Y3).below H b4)
  have B4 := hide (seen_below (unhide B3) b4)
  clear nm sl2 b4 Y3 B3 S1
  rw [hlen]
  have PE := hide (equal_same a a' c c' (numL es) w4 (unhide S2) (unhide S3) (by omega))
  rw [hlen] at PE
  clear hlen
  go_wp2_with fail
  refine (unhide PE).mono ?_
  rintro e w5 ⟨rfl, nq, rfl⟩
  have Y5 := hide ((unhide Y4).below H (below_drewN (Below.refl _ _) nq))
  have B5 := hide (seen_below (unhide B4) (below_drewN (Below.refl _ _) nq))
  clear S2 S3 Y4 B4 PE
  generalize w4.drewN nq = w5 at Y5 B5 ⊢
  obtain ⟨ax, cx, rfl, r1⟩ := (unhide Y5).k.arr.shape
  clear r1
  have d1 := (unhide Y5).k.cell
  go_wp2_with fail
  go_loopw [27] (fun kv wr => ∃ (k : Nat), kv = .int .i64 k ∧ k ≤ es.length ∧ Hid (Seen Has w wr B q F p m (.slice ax es.length cx) es)) (fun kv _ => es.length - (intOf kv).toNat)
  case atStart => exact ⟨0, rfl, Nat.zero_le _, hide ⟨_, unhide Y5, unhide B5⟩⟩
  case round =>
    clear d1 Y5 B5
    obtain ⟨k, rfl, hkn, Y6⟩ := hrel
    by_cases hlt : k < es.length
    · obtain ⟨F6, y6, b6⟩ := unhide Y6
      have B6 := hide b6
      clear b6
      obtain ⟨g, cap', e0, f1, f2, f3, f4⟩ := y6.k.arr.there (by omega)
      obtain ⟨rfl, _, rfl⟩ := Value.slice.inj e0
      clear e0
      have d0 := y6.k.arr.num hlt
      have d1 := y6.k.arr.sure hlt
      have d2 := y6.k.arr.text hlt
      have HRd := hide (read_pa (unhide HT) hlt)
      have hb7 : Below wr.heap.size wr (wr.alloc (.cells #[.int .i64 (pa es k).n, .int .i64 (pa es k).sure, .string (pa es k).text] 52)) := (Below.refl _ _).alloc (Nat.le_refl _) _
      have hF : ¬ F6 wr.heap.size := fun q => by have := (H.own y6.d _ q).2; omega
      have Y7 := hide (y6.below H hb7)
      have B7 := hide (seen_below (unhide B6) hb7)
      have t7 : (wr.alloc (.cells #[.int .i64 (pa es k).n, .int .i64 (pa es k).sure, .string (pa es k).text] 52)).cell? ⟨wr.heap.size, 2, none⟩ = some (.string (pa es k).text) := by
        rw [cell_of_row _ wr.heap.size 2 _ _ _ (heap_alloc_new wr _)]; rfl
      have hl7 : wr.heap.size < (wr.alloc (.cells #[.int .i64 (pa es k).n, .int .i64 (pa es k).sure, .string (pa es k).text] 52)).heap.size := by simp
      clear hb7 y6
      go_wp2_with fail
      refine (H.read (pa es k).n (wf_of ((unhide HT).each _ (pa_mem hlt)).1) (unhide Y7).d (unhide HT) hm (unhide Y7).B).mono ?_
      rintro e w8 ⟨rfl, x8⟩
      rw [unhide HRd]
      have Y8 := hide (Seen.after (unhide Y7) (unhide B7) x8)
      have t8 : w8.cell? ⟨wr.heap.size, 2, none⟩ = some (.string (pa es k).text) := by
        obtain ⟨_, _, z, _⟩ := x8
        rw [z.cell (p := ⟨wr.heap.size, 2, none⟩) hl7 hF]; exact t7
      clear d0 d1 d2 t7 hl7 hF x8 Y7 B7 Y6 B6
      go_wp2_with fail
      refine ⟨⟨k + 1, by go_num, by omega, Y8⟩, ?_⟩
      simp [intOf]; omega
    · go_wp2_with fail
      go_ret
      exact ⟨rfl, unhide Y6⟩
theorem same_any {Has : World → Nat → Nat → (Nat → Prop) → Int → List Pap → Prop} (H : Looks Has) {w : World} {B q p : Nat} {F : Nat → Prop} {m : Int} {v : Value} {es : List Pap} (h2 : Two Has w B q F p m v es es) (ht : Tidy m es) (hm : m ≤ 65536) :
    Calls Try.prog 19 #[.pointer (some ⟨q, 0, none⟩), .pointer (some ⟨p, 0, none⟩)] w fun e w' => e = .returned (.bool true) ∧ (∃ F', Two Has w' B q F' p m v es es) ∧ Below B w w' := by
  refine (same_seen H h2 ht hm).mono ?_
  rintro e w' ⟨he, F', h1, h3, _⟩
  exact ⟨he, ⟨F', h1⟩, h3.below h2.B (fun k hk hf => by have := (H.own h2.d k hf).1; omega)⟩
end Go.Proofs.Ytbejicpfhnfnfab.Dk
