/-
  The program's disk in memory: a map from numbers to the blocks of the files, each with a row of bytes of its own; what becomes of it when one file is changed, one is new, one is gone. No walk.
-/
import Derived.Test.YtphhebdmfdjfeagGreatDoorJointWorksDWorksEWorksGPapHPapFWorksF
import Derived.Maps.OwnSet
import Derived.Maps.RangeWalk
import Derived.Lib.AppendStr
import Derived.Laws.IdiomStrings
namespace Go.Proofs.YtphhebdmfdjfeagGreatDoor.Dk
open Go.RowKit

theorem lawK : Maps.Keyed Tryz.prog 3 := Maps.int_keyed Tryz.underlying3
theorem keyN {n : Int} (h : wf n) : keyOf Tryz.prog 3 (.int .i64 n) = some (.int .i64 n) := Maps.keyOf_int_mk Tryz.underlying3 h
theorem zeroP (w : World) : (zeroValue 74).run Tryz.prog w = .ok (.pointer none) w := by kernel_rfl
theorem lit_ne {a b : Int} (h : a ≠ b) : (Lit.int .i64 a) ≠ (Lit.int .i64 b) := fun e => h (by cases e; rfl)
/-- how an element of the map reads: a file's block -/
def fileElem (v : Value) : Option (DataW Unit × List MemPlace) := match v with
  | .pointer (some ⟨b, 0, none⟩) => some (.lit (.int .i64 (b : Int)), [])
  | _ => none
theorem fileElem_mk (b : Nat) : fileElem (.pointer (some ⟨b, 0, none⟩)) = some (.lit (.int .i64 (b : Int)), []) := rfl
theorem fileElem_inv {v : Value} {z : DataW Unit × List MemPlace} (h : fileElem v = some z) : ∃ b : Nat, v = .pointer (some ⟨b, 0, none⟩) ∧ z = (.lit (.int .i64 (b : Int)), []) := by
  unfold fileElem at h
  split at h
  · cases h; exact ⟨_, rfl, rfl⟩
  · cases h
/-- the map of the files, nil or not -/
def MapAt (w : World) (mb : Option Nat) (D : DataW Unit) : Prop := (mb = none ∧ D = .map []) ∨ ∃ b, mb = some b ∧ w.ownsMap Tryz.prog 3 fileElem b (Maps.size D) D
theorem own_tight {w : World} {b n : Nat} {D : DataW Unit} (h : w.ownsMap Tryz.prog 3 fileElem b n D) : w.ownsMap Tryz.prog 3 fileElem b (Maps.size D) D := by
  obtain ⟨es, clock, hb, F, hs, rfl⟩ := h
  exact ⟨es, clock, hb, F, by simp [Maps.size, length_sorted], rfl⟩
theorem own_chg {A : Nat → Prop} {w w' : World} {b n : Nat} {D : DataW Unit} (h : w.ownsMap Tryz.prog 3 fileElem b n D) (hc : Chg A w w') (hn : ¬ A b) : w'.ownsMap Tryz.prog 3 fileElem b n D := by
  have hl := h.lt
  obtain ⟨es, clock, hb, r⟩ := h
  exact ⟨es, clock, (hc.block b hl hn).trans hb, r⟩
theorem MapAt.chg {A : Nat → Prop} {w w' : World} {mb : Option Nat} {D : DataW Unit} (h : MapAt w mb D) (hc : Chg A w w') (hn : ∀ b, mb = some b → ¬ A b) : MapAt w' mb D := by
  rcases h with h | ⟨b, rfl, h⟩
  · exact .inl h
  · exact .inr ⟨b, rfl, own_chg h hc (hn b rfl)⟩
theorem MapAt.tidy {w : World} {mb : Option Nat} {D : DataW Unit} (h : MapAt w mb D) : Maps.Tidy D := by
  rcases h with ⟨_, rfl⟩ | ⟨b, _, h⟩
  · exact Maps.tidy_empty
  · exact h.tidy lawK
/-- asked for a key -/
theorem MapAt.look {w : World} {mb : Option Nat} {D : DataW Unit} (h : MapAt w mb D) {n : Int} (hn : wf n) :
    ((Instr.lookup 54 (.map mb) (.int .i64 n) false).run Tryz.prog w = .ok (.pointer none) w ∧ Maps.has D (.int .i64 n) = false) ∨
    ∃ c : Nat, (Instr.lookup 54 (.map mb) (.int .i64 n) false).run Tryz.prog w = .ok (.pointer (some ⟨c, 0, none⟩)) w ∧ Maps.has D (.int .i64 n) = true ∧ ∀ zd, D.atKey (.int .i64 n) zd = .lit (.int .i64 (c : Int)) := by
  rcases h with ⟨rfl, rfl⟩ | ⟨b, rfl, h⟩
  · exact .inl ⟨Maps.look_nil false lawK Tryz.underlying54 (zeroP w) (keyN hn), rfl⟩
  · obtain ⟨es, clock, hb, F, hs, rfl⟩ := h
    rcases Maps.fit_look false lawK Tryz.underlying54 (zeroP w) hb F (keyN hn) with ⟨h1, _, h3⟩ | ⟨e0, y, _, _, h1, h2, h3, _⟩
    · exact .inl ⟨h1, Maps.has_false_of_atKey h3⟩
    · obtain ⟨c, hv, hy⟩ := fileElem_inv h2
      refine .inr ⟨c, ?_, Maps.has_true_of_atKey h3, fun zd => ?_⟩
      · rw [h1, hv]; rfl
      · rw [h3 zd, hy]
theorem MapAt.len {w : World} {mb : Option Nat} {D : DataW Unit} (h : MapAt w mb D) (ty : TypeId) : (Builtin.len_ #[54] ty #[.map mb]).run Tryz.prog w = .ok (.int .i64 (Maps.size D)) w := by
  rcases h with ⟨rfl, rfl⟩ | ⟨b, rfl, h⟩
  · rw [Maps.len_nil Tryz.underlying54 ty]; rfl
  · exact h.len Tryz.underlying54 ty

/-- a file in memory -/
structure File (w : World) (B c : Nat) (v : Value) (e : Pap) : Prop where
  lt : c < w.heap.size
  c0 : w.cell? ⟨c, 0, none⟩ = some v
  c1 : w.cell? ⟨c, 1, none⟩ = some (.int .i64 e.sure)
  f0 : w.frozen? ⟨c, 0, none⟩ = false
  f1 : w.frozen? ⟨c, 1, none⟩ = false
  row : w.ownsRow B 5 1 v e.text.size (Lib.strCells e.text)
theorem row_chg {A : Nat → Prop} {w w' : World} {B : Nat} {t : TypeId} {s : Nat} {v : Value} {n : Nat} {xs : List Value} (h : w.ownsRow B t s v n xs) (hc : Chg A w w') (hr : ∀ g, v.ownBlock = some g → ¬ A g) : w'.ownsRow B t s v n xs := by
  refine ⟨h.1, ?_⟩
  rcases h.2 with q | ⟨g, cap, cur, h1, h2, h3, r⟩
  · exact .inl q
  · refine .inr ⟨g, cap, cur, h1, h2, ?_, r⟩
    rw [hc.block g (h.lt g (by rw [h1]; rfl)).2 (hr g (by rw [h1]; rfl))]
    exact h3
theorem File.chg {A : Nat → Prop} {w w' : World} {B c : Nat} {v : Value} {e : Pap} (h : File w B c v e) (hc : Chg A w w') (hn : ¬ A c) (hr : ∀ g, v.ownBlock = some g → ¬ A g) : File w' B c v e :=
  ⟨Nat.lt_of_lt_of_le h.lt hc.size, by rw [hc.cell (p := ⟨c, 0, none⟩) h.lt hn]; exact h.c0, by rw [hc.cell (p := ⟨c, 1, none⟩) h.lt hn]; exact h.c1,
   by rw [hc.frozen (p := ⟨c, 0, none⟩) h.lt hn]; exact h.f0, by rw [hc.frozen (p := ⟨c, 1, none⟩) h.lt hn]; exact h.f1, row_chg h.row hc hr⟩
theorem File.shape {w : World} {B c : Nat} {v : Value} {e : Pap} (h : File w B c v e) : ∃ a cap, v = .slice a e.text.size cap ∧ e.text.size ≤ cap ∧ cap ≤ maxLen := by
  rcases h.row.2 with ⟨h1, h2⟩ | ⟨g, cap, cur, h1, h2, h3, h4, h5, _⟩
  · exact ⟨none, 0, by rw [h1, h2], by omega, by simp [maxLen]⟩
  · exact ⟨_, cap, h1, h4, h5⟩

/-- the program's disk: rl says what each of its blocks is for: (0, 0) the disk, (1, 0) the map, (2, n) the file n, (3, n) its bytes -/
structure Disk (w : World) (B q : Nat) (rl : Nat → Option (Nat × Int)) (m : Int) (es : List Pap) (mb : Option Nat) (D : DataW Unit) (cO : Int → Nat) (vO : Int → Value) : Prop where
  c0 : w.cell? ⟨q, 0, none⟩ = some (.int .i64 m)
  c1 : w.cell? ⟨q, 1, none⟩ = some (.map mb)
  fz : w.frozen? ⟨q, 1, none⟩ = false
  mp : MapAt w mb D
  sz : Maps.size D = es.length
  key : ∀ n, Maps.has D (.int .i64 n) = (fnd es n).isSome
  ptr : ∀ n e, fnd es n = some e → ∀ zd, D.atKey (.int .i64 n) zd = .lit (.int .i64 (cO n : Int))
  file : ∀ n e, fnd es n = some e → File w B (cO n) (vO n) e
  own : ∀ k, (rl k).isSome = true → B ≤ k ∧ k < w.heap.size
  r0 : rl q = some (0, 0)
  r1 : ∀ b, mb = some b → rl b = some (1, 0)
  r2 : ∀ n e, fnd es n = some e → rl (cO n) = some (2, n)
  r3 : ∀ n e, fnd es n = some e → ∀ g, (vO n).ownBlock = some g → rl g = some (3, n)
def Has (w : World) (B q : Nat) (F : Nat → Prop) (m : Int) (es : List Pap) : Prop := ∃ rl mb D cO vO, (∀ k, F k ↔ (rl k).isSome = true) ∧ Disk w B q rl m es mb D cO vO
theorem Disk.look {w : World} {B q : Nat} {rl : Nat → Option (Nat × Int)} {m : Int} {es : List Pap} {mb : Option Nat} {D : DataW Unit} {cO : Int → Nat} {vO : Int → Value} (h : Disk w B q rl m es mb D cO vO) {n : Int} (hn : wf n) :
    (fnd es n = none ∧ (Instr.lookup 54 (.map mb) (.int .i64 n) false).run Tryz.prog w = .ok (.pointer none) w) ∨
    ∃ e, fnd es n = some e ∧ (Instr.lookup 54 (.map mb) (.int .i64 n) false).run Tryz.prog w = .ok (.pointer (some ⟨cO n, 0, none⟩)) w := by
  have hk := h.key n
  rcases h.mp.look hn with ⟨h1, h2⟩ | ⟨c, h1, h2, h3⟩
  · rw [h2] at hk
    cases hf : fnd es n with
    | none => exact .inl ⟨rfl, h1⟩
    | some e => rw [hf] at hk; cases hk
  · rw [h2] at hk
    cases hf : fnd es n with
    | none => rw [hf] at hk; cases hk
    | some e =>
      have := (h3 .nil).symm.trans (h.ptr n e hf .nil)
      have hc : c = cO n := by simp only [DataW.lit.injEq, Lit.int.injEq, true_and] at this; omega
      exact .inr ⟨e, rfl, by rw [h1, hc]⟩
theorem Disk.keep {w w' : World} {B q : Nat} {rl : Nat → Option (Nat × Int)} {m : Int} {es : List Pap} {mb : Option Nat} {D : DataW Unit} {cO : Int → Nat} {vO : Int → Value} {A : Nat → Prop} (h : Disk w B q rl m es mb D cO vO) (hc : Chg A w w') (hA : ∀ k, (rl k).isSome = true → ¬ A k) : Disk w' B q rl m es mb D cO vO := by
  have hq : ¬ A q := hA q (by rw [h.r0]; rfl)
  have hl := (h.own q (by rw [h.r0]; rfl)).2
  refine ⟨?_, ?_, ?_, h.mp.chg hc (fun b hb => hA b (by rw [h.r1 b hb]; rfl)), h.sz, h.key, h.ptr, fun n e hf => (h.file n e hf).chg hc (hA _ (by rw [h.r2 n e hf]; rfl)) (fun g hg => hA g (by rw [h.r3 n e hf g hg]; rfl)),
    fun k hk => ⟨(h.own k hk).1, Nat.lt_of_lt_of_le (h.own k hk).2 hc.size⟩, h.r0, h.r1, h.r2, h.r3⟩
  · rw [hc.cell (p := ⟨q, 0, none⟩) hl hq]; exact h.c0
  · rw [hc.cell (p := ⟨q, 1, none⟩) hl hq]; exact h.c1
  · rw [hc.frozen (p := ⟨q, 1, none⟩) hl hq]; exact h.fz
theorem Has.own {w : World} {B q : Nat} {F : Nat → Prop} {m : Int} {es : List Pap} (h : Has w B q F m es) : ∀ k, F k → B ≤ k ∧ k < w.heap.size := by
  obtain ⟨rl, mb, D, cO, vO, hF, h⟩ := h
  exact fun k hk => h.own k ((hF k).1 hk)
theorem Has.chg {w w' : World} {B q : Nat} {F : Nat → Prop} {m : Int} {es : List Pap} {A : Nat → Prop} (h : Has w B q F m es) (hc : Chg A w w') (hA : ∀ k, F k → ¬ A k) : Has w' B q F m es := by
  obtain ⟨rl, mb, D, cO, vO, hF, h⟩ := h
  exact ⟨rl, mb, D, cO, vO, hF, h.keep hc (fun k hk => hA k ((hF k).2 hk))⟩
theorem did_new {w w' : World} {B q : Nat} {F : Nat → Prop} {m : Int} {es : List Pap} (h : Has w B q F m es) (hb : Below w.heap.size w w') : Did Has w w' B q F m es :=
  ⟨F, h.chg (A := fun _ => False) (Chg.of_below hb) (fun _ _ h => h), Chg.of_below hb, fun _ h => .inl h⟩
theorem did_same {w : World} {B q : Nat} {F : Nat → Prop} {m : Int} {es : List Pap} (h : Has w B q F m es) : Did Has w w B q F m es := did_new h (Below.refl _ _)

/-- one file is changed -/
theorem Disk.one {w w' : World} {B q : Nat} {rl : Nat → Option (Nat × Int)} {m : Int} {es es' : List Pap} {mb : Option Nat} {D : DataW Unit} {cO : Int → Nat} {vO : Int → Value} (h : Disk w B q rl m es mb D cO vO) {n : Int} {e e' : Pap} {v' : Value}
    (hn : fnd es n = some e) (hlen : es'.length = es.length) (hf : ∀ k, fnd es' k = if k = n then some e' else fnd es k) (hc : Chg (fun k => k = cO n ∨ (vO n).ownBlock = some k) w w') (hF : File w' B (cO n) v' e')
    (hv : ∀ g, v'.ownBlock = some g → (vO n).ownBlock = some g ∨ w.heap.size ≤ g) : ∃ rl', Disk w' B q rl' m es' mb D cO (fun k => if k = n then v' else vO k) ∧ ∀ k, (rl' k).isSome = true → (rl k).isSome = true ∨ w.heap.size ≤ k := by
  have hold : ∀ k x, rl k = some x → x ≠ (3, n) → v'.ownBlock ≠ some k := fun k x hk hx hg => by
    rcases hv k hg with z | z
    · have := h.r3 n e hn k z
      rw [hk] at this
      exact hx (Option.some.inj this)
    · have := (h.own k (by rw [hk]; rfl)).2; omega
  have hout : ∀ k x, rl k = some x → x ≠ (3, n) → x ≠ (2, n) → ¬ (k = cO n ∨ (vO n).ownBlock = some k) := fun k x hk h3 h2 z => by
    rcases z with z | z
    · rw [z, h.r2 n e hn] at hk; exact h2 (Option.some.inj hk).symm
    · rw [h.r3 n e hn k z] at hk; exact h3 (Option.some.inj hk).symm
  have hq := hout q _ h.r0 (by simp) (by simp)
  have hl := (h.own q (by rw [h.r0]; rfl)).2
  refine ⟨fun k => if v'.ownBlock = some k then some (3, n) else rl k, ⟨?_, ?_, ?_, h.mp.chg hc (fun b hb => hout b _ (h.r1 b hb) (by simp) (by simp)), h.sz.trans hlen.symm, fun k => ?_, fun k e1 hk zd => ?_, fun k e1 hk => ?_, fun k hk => ?_, ?_, fun b hb => ?_, fun k e1 hk => ?_, fun k e1 hk g hg => ?_⟩, fun k hk => ?_⟩
  · rw [hc.cell (p := ⟨q, 0, none⟩) hl hq]; exact h.c0
  · rw [hc.cell (p := ⟨q, 1, none⟩) hl hq]; exact h.c1
  · rw [hc.frozen (p := ⟨q, 1, none⟩) hl hq]; exact h.fz
  · rw [h.key, hf]
    by_cases hk : k = n
    · rw [if_pos hk, hk, hn]; rfl
    · rw [if_neg hk]
  · rw [hf] at hk
    by_cases hkn : k = n
    · rw [hkn]; exact h.ptr n e hn zd
    · rw [if_neg hkn] at hk; exact h.ptr k e1 hk zd
  · rw [hf] at hk
    by_cases hkn : k = n
    · rw [if_pos hkn] at hk
      cases hk
      subst hkn
      simpa using hF
    · rw [if_neg hkn] at hk
      simp only [if_neg hkn]
      refine (h.file k e1 hk).chg hc (hout _ _ (h.r2 k e1 hk) (by simp) (by simpa using hkn)) (fun g hg => hout _ _ (h.r3 k e1 hk g hg) (by simpa using hkn) (by simp))
  · by_cases hg : v'.ownBlock = some k
    · exact hF.row.lt k hg
    · rw [if_neg hg] at hk
      exact ⟨(h.own k hk).1, Nat.lt_of_lt_of_le (h.own k hk).2 hc.size⟩
  · rw [if_neg (hold q _ h.r0 (by simp))]; exact h.r0
  · rw [if_neg (hold b _ (h.r1 b hb) (by simp))]; exact h.r1 b hb
  · have hk2 : rl (cO k) = some (2, k) := by
      rw [hf] at hk
      by_cases hkn : k = n
      · rw [hkn]; exact h.r2 n e hn
      · rw [if_neg hkn] at hk; exact h.r2 k e1 hk
    rw [if_neg (hold _ _ hk2 (by simp))]; exact hk2
  · rw [hf] at hk
    by_cases hkn : k = n
    · simp only [if_pos hkn] at hg
      rw [if_pos hg, hkn]
    · rw [if_neg hkn] at hk
      simp only [if_neg hkn] at hg
      have := h.r3 k e1 hk g hg
      rw [if_neg (hold _ _ this (by simpa using hkn))]
      exact this
  · by_cases hg : v'.ownBlock = some k
    · rcases hv k hg with z | z
      · left; rw [h.r3 n e hn k z]; rfl
      · exact .inr z
    · simp only [if_neg hg] at hk
      exact .inl hk
theorem Disk.did {w w' : World} {B q : Nat} {F : Nat → Prop} {rl rl' : Nat → Option (Nat × Int)} {m : Int} {es' : List Pap} {mb : Option Nat} {D : DataW Unit} {cO : Int → Nat} {vO : Int → Value} (hF : ∀ k, F k ↔ (rl k).isSome = true) (h' : Disk w' B q rl' m es' mb D cO vO) (hc : Chg (fun k => (rl k).isSome = true) w w') (hr : ∀ k, (rl' k).isSome = true → (rl k).isSome = true ∨ w.heap.size ≤ k) : Did Has w w' B q F m es' :=
  ⟨fun k => (rl' k).isSome = true, ⟨rl', mb, D, cO, vO, fun _ => Iff.rfl, h'⟩, hc.mono (fun k _ hk => (hF k).2 hk), fun k hk => (hr k hk).imp (hF k).2 id⟩
/-- what may be written when one file is changed -/
theorem Disk.foot {w w' : World} {B q : Nat} {rl : Nat → Option (Nat × Int)} {m : Int} {es : List Pap} {mb : Option Nat} {D : DataW Unit} {cO : Int → Nat} {vO : Int → Value} (h : Disk w B q rl m es mb D cO vO) {n : Int} {e : Pap} (hn : fnd es n = some e) (hc : Chg (fun k => k = cO n ∨ (vO n).ownBlock = some k) w w') : Chg (fun k => (rl k).isSome = true) w w' :=
  hc.mono (fun k _ hk => by
    rcases hk with z | z
    · rw [z, h.r2 n e hn]; rfl
    · rw [h.r3 n e hn k z]; rfl)

/-- one file is new: without a byte -/
theorem Disk.add {w w' : World} {B q : Nat} {rl : Nat → Option (Nat × Int)} {m : Int} {es es' : List Pap} {mb mb' : Option Nat} {D : DataW Unit} {cO : Int → Nat} {vO : Int → Value} (h : Disk w B q rl m es mb D cO vO) {n : Int} {c : Nat}
    (hn : fnd es n = none) (hlen : es'.length = es.length + 1) (hf : ∀ k, fnd es' k = if k = n then some ⟨n, 0, ByteArray.empty⟩ else fnd es k) (hc : Chg (fun k => k = q ∨ mb = some k) w w') (hB : B ≤ w.heap.size) (hcl : w.heap.size ≤ c)
    (h0 : w'.cell? ⟨q, 0, none⟩ = some (.int .i64 m)) (h1 : w'.cell? ⟨q, 1, none⟩ = some (.map mb')) (h2 : w'.frozen? ⟨q, 1, none⟩ = false) (hM : MapAt w' mb' (D.put (.int .i64 n) (.lit (.int .i64 (c : Int))))) (hb : ∀ b, mb' = some b → mb = some b ∨ w.heap.size ≤ b) (hbc : mb' ≠ some c) (hbl : ∀ b, mb' = some b → b < w'.heap.size)
    (hF : File w' B c (.slice none 0 0) ⟨n, 0, ByteArray.empty⟩) :
    ∃ rl', Disk w' B q rl' m es' mb' (D.put (.int .i64 n) (.lit (.int .i64 (c : Int)))) (fun k => if k = n then c else cO k) (fun k => if k = n then .slice none 0 0 else vO k) ∧ ∀ k, (rl' k).isSome = true → (rl k).isSome = true ∨ w.heap.size ≤ k := by
  have hold : ∀ k x, rl k = some x → k ≠ c := fun k x hk z => by have := (h.own k (by rw [hk]; rfl)).2; omega
  have hmb : ∀ k x, rl k = some x → x ≠ (1, 0) → mb' ≠ some k := fun k x hk hx z => by
    rcases hb k z with y | y
    · have := h.r1 k y; rw [hk] at this; exact hx (Option.some.inj this)
    · have := (h.own k (by rw [hk]; rfl)).2; omega
  have hout : ∀ k x, rl k = some x → x ≠ (0, 0) → x ≠ (1, 0) → ¬ (k = q ∨ mb = some k) := fun k x hk h0 h1 z => by
    rcases z with z | z
    · rw [z, h.r0] at hk; exact h0 (Option.some.inj hk).symm
    · rw [h.r1 k z] at hk; exact h1 (Option.some.inj hk).symm
  have hD := h.mp.tidy
  have hno : Maps.has D (.int .i64 n) = false := by rw [h.key, hn]; rfl
  have hkl : WideAt.IsKeyLit (.int .i64 n) := trivial
  refine ⟨fun k => if k = c then some (2, n) else if mb' = some k then some (1, 0) else rl k, ⟨h0, h1, h2, hM, ?_, fun k => ?_, fun k e1 hk zd => ?_, fun k e1 hk => ?_, fun k hk => ?_, ?_, fun b hb1 => ?_, fun k e1 hk => ?_, fun k e1 hk g hg => ?_⟩, fun k hk => ?_⟩
  · rw [Maps.size_put hD, hno, hlen, h.sz]; rfl
  · rw [hf]
    by_cases hk : k = n
    · rw [if_pos hk, hk, Maps.has_put_same hD.isMap hkl]; rfl
    · rw [if_neg hk, Maps.has_put_other (lit_ne hk), h.key]
  · rw [hf] at hk
    by_cases hkn : k = n
    · simp only [if_pos hkn]
      rw [hkn, Maps.atKey_put_same hD.isMap hkl]
    · rw [if_neg hkn] at hk
      simp only [if_neg hkn]
      rw [Maps.atKey_put_other (lit_ne hkn)]
      exact h.ptr k e1 hk zd
  · rw [hf] at hk
    by_cases hkn : k = n
    · rw [if_pos hkn] at hk
      cases hk
      simpa [hkn] using hF
    · rw [if_neg hkn] at hk
      simp only [if_neg hkn]
      exact (h.file k e1 hk).chg hc (hout _ _ (h.r2 k e1 hk) (by simp) (by simp)) (fun g hg => hout _ _ (h.r3 k e1 hk g hg) (by simp) (by simp))
  · by_cases hkc : k = c
    · rw [hkc]; exact ⟨by omega, hF.lt⟩
    · rw [if_neg hkc] at hk
      by_cases hkb : mb' = some k
      · refine ⟨?_, hbl k hkb⟩
        rcases hb k hkb with z | z
        · exact (h.own k (by rw [h.r1 k z]; rfl)).1
        · omega
      · rw [if_neg hkb] at hk
        exact ⟨(h.own k hk).1, Nat.lt_of_lt_of_le (h.own k hk).2 hc.size⟩
  · rw [if_neg (hold q _ h.r0), if_neg (hmb q _ h.r0 (by simp))]; exact h.r0
  · rw [if_neg (fun z => hbc (by rw [hb1, z])), if_pos hb1]
  · rw [hf] at hk
    by_cases hkn : k = n
    · simp only [if_pos hkn, if_true]; rw [hkn]
    · rw [if_neg hkn] at hk
      have := h.r2 k e1 hk
      simp only [if_neg hkn]
      rw [if_neg (hold _ _ this), if_neg (hmb _ _ this (by simp))]
      exact this
  · rw [hf] at hk
    by_cases hkn : k = n
    · simp only [if_pos hkn] at hg
      cases hg
    · rw [if_neg hkn] at hk
      simp only [if_neg hkn] at hg
      have := h.r3 k e1 hk g hg
      rw [if_neg (hold _ _ this), if_neg (hmb _ _ this (by simp))]
      exact this
  · by_cases hkc : k = c
    · exact .inr (by omega)
    · simp only [if_neg hkc] at hk
      by_cases hkb : mb' = some k
      · rcases hb k hkb with z | z
        · left; rw [h.r1 k z]; rfl
        · exact .inr z
      · rw [if_neg hkb] at hk
        exact .inl hk

/-- one file is gone -/
theorem Disk.del {w w' : World} {B q : Nat} {rl : Nat → Option (Nat × Int)} {m : Int} {es es' : List Pap} {b : Nat} {D : DataW Unit} {cO : Int → Nat} {vO : Int → Value} (h : Disk w B q rl m es (some b) D cO vO) {n : Int} {e : Pap}
    (hn : fnd es n = some e) (hlen : es'.length + 1 = es.length) (hf : ∀ k, fnd es' k = if k = n then none else fnd es k) (hc : Chg (fun k => k = b) w w') (hM : MapAt w' (some b) (D.del (.int .i64 n))) : Disk w' B q rl m es' (some b) (D.del (.int .i64 n)) cO vO := by
  have hout : ∀ k x, rl k = some x → x ≠ (1, 0) → ¬ k = b := fun k x hk h1 z => by
    rw [z, h.r1 b rfl] at hk; exact h1 (Option.some.inj hk).symm
  have hq := hout q _ h.r0 (by simp)
  have hl := (h.own q (by rw [h.r0]; rfl)).2
  have hD := h.mp.tidy
  have hyes : Maps.has D (.int .i64 n) = true := by rw [h.key, hn]; rfl
  have hof : ∀ k e1, fnd es' k = some e1 → k ≠ n ∧ fnd es k = some e1 := fun k e1 hk => by
    rw [hf] at hk
    by_cases hkn : k = n
    · rw [if_pos hkn] at hk; cases hk
    · rw [if_neg hkn] at hk; exact ⟨hkn, hk⟩
  refine ⟨?_, ?_, ?_, hM, ?_, fun k => ?_, fun k e1 hk zd => ?_, fun k e1 hk => ?_, fun k hk => ⟨(h.own k hk).1, Nat.lt_of_lt_of_le (h.own k hk).2 hc.size⟩, h.r0, h.r1, fun k e1 hk => h.r2 k e1 (hof k e1 hk).2, fun k e1 hk g hg => h.r3 k e1 (hof k e1 hk).2 g hg⟩
  · rw [hc.cell (p := ⟨q, 0, none⟩) hl hq]; exact h.c0
  · rw [hc.cell (p := ⟨q, 1, none⟩) hl hq]; exact h.c1
  · rw [hc.frozen (p := ⟨q, 1, none⟩) hl hq]; exact h.fz
  · have := Maps.size_del (k := .int .i64 n) hD
    rw [hyes, h.sz] at this
    simp only [if_true] at this
    omega
  · rw [hf]
    by_cases hk : k = n
    · rw [if_pos hk, hk, Maps.has_del_same]; rfl
    · rw [if_neg hk, Maps.has_del_other (lit_ne hk), h.key]
  · obtain ⟨hkn, hk⟩ := hof k e1 hk
    rw [Maps.atKey_del_other (lit_ne hkn)]
    exact h.ptr k e1 hk zd
  · obtain ⟨hkn, hk⟩ := hof k e1 hk
    exact (h.file k e1 hk).chg hc (hout _ _ (h.r2 k e1 hk) (by simp)) (fun g hg => hout _ _ (h.r3 k e1 hk g hg) (by simp))
end Go.Proofs.YtphhebdmfdjfeagGreatDoor.Dk
