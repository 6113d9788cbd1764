/-
  The program's disk in memory: a map from numbers to the blocks of the files, each with a row of bytes of its own; what becomes of it when one file is changed, one is new, one is gone. No walk.
  Contracts of the program's disk: New, Read.
  Contracts of the program's disk: Sync, Remove, the cutting of a file.
  Contract of the program's disk: Cut.
-/
import Derived.Test.YtohjipnkoiifhagGreatDoorJointBase0PlainPapPaPapDRowZPapPdPapLPapMWorksDWorksEPlainNPlainRec
import Derived.Maps.OwnSet
import Derived.Maps.RangeWalk
import Derived.Lib.AppendStr
import Derived.Laws.IdiomStrings
namespace Go.Proofs.YtohjipnkoiifhagGreatDoor.Dk
open Go.RowKit

theorem lawK : Maps.Keyed Tryz.prog 3 := Maps.int_keyed Tryz.underlying3
theorem keyN {n : Int} (h : wf n) : keyOf Tryz.prog 3 (.int .i64 n) = some (.int .i64 n) := Maps.keyOf_int_mk Tryz.underlying3 h
theorem zeroP (w : World) : (zeroValue 107).run Tryz.prog w = .ok (.pointer none) w := by kernel_rfl
theorem lit_ne {a b : Int} (h : a ≠ b) : (Lit.int .i64 a) ≠ (Lit.int .i64 b) := fun e => h (by cases e; rfl)
/-- how an element of the map reads: a file's block -/
def fileElem (v : Value) : Option (DataW Unit × List MemPlace) := match v with
  | .pointer (some ⟨b, 0, none⟩) => some (.lit (.int .i64 (b : Int)), [])
  | _ => none
theorem fileElem_mk (b : Nat) : fileElem (.pointer (some ⟨b, 0, none⟩)) = some (.lit (.int .i64 (b : Int)), []) := rfl
theorem fileElem_inv {v : Value} {z : DataW Unit × List MemPlace} (h : fileElem v = some z) : ∃ b : Nat, v = .pointer (some ⟨b, 0, none⟩) ∧ z = (.lit (.int .i64 (b : Int)), []) := by
  unfold fileElem at h
  split at h
  · cases h; exact ⟨_, rfl, rfl⟩
  · cases h
/-- the map of the files, nil or not -/
def MapAt (w : World) (mb : Option Nat) (D : DataW Unit) : Prop := (mb = none ∧ D = .map []) ∨ ∃ b, mb = some b ∧ w.ownsMap Tryz.prog 3 fileElem b (Maps.size D) D
theorem own_tight {w : World} {b n : Nat} {D : DataW Unit} (h : w.ownsMap Tryz.prog 3 fileElem b n D) : w.ownsMap Tryz.prog 3 fileElem b (Maps.size D) D := by
  obtain ⟨es, clock, hb, F, hs, rfl⟩ := h
  exact ⟨es, clock, hb, F, by simp [Maps.size, length_sorted], rfl⟩
theorem own_chg {A : Nat → Prop} {w w' : World} {b n : Nat} {D : DataW Unit} (h : w.ownsMap Tryz.prog 3 fileElem b n D) (hc : Chg A w w') (hn : ¬ A b) : w'.ownsMap Tryz.prog 3 fileElem b n D := by
  have hl := h.lt
  obtain ⟨es, clock, hb, r⟩ := h
  exact ⟨es, clock, (hc.block b hl hn).trans hb, r⟩
theorem MapAt.chg {A : Nat → Prop} {w w' : World} {mb : Option Nat} {D : DataW Unit} (h : MapAt w mb D) (hc : Chg A w w') (hn : ∀ b, mb = some b → ¬ A b) : MapAt w' mb D := by
  rcases h with h | ⟨b, rfl, h⟩
  · exact .inl h
  · exact .inr ⟨b, rfl, own_chg h hc (hn b rfl)⟩
theorem MapAt.tidy {w : World} {mb : Option Nat} {D : DataW Unit} (h : MapAt w mb D) : Maps.Tidy D := by
  rcases h with ⟨_, rfl⟩ | ⟨b, _, h⟩
  · exact Maps.tidy_empty
  · exact h.tidy lawK
/-- asked for a key -/
theorem MapAt.look {w : World} {mb : Option Nat} {D : DataW Unit} (h : MapAt w mb D) {n : Int} (hn : wf n) :
    ((Instr.lookup 87 (.map mb) (.int .i64 n) false).run Tryz.prog w = .ok (.pointer none) w ∧ Maps.has D (.int .i64 n) = false) ∨
    ∃ c : Nat, (Instr.lookup 87 (.map mb) (.int .i64 n) false).run Tryz.prog w = .ok (.pointer (some ⟨c, 0, none⟩)) w ∧ Maps.has D (.int .i64 n) = true ∧ ∀ zd, D.atKey (.int .i64 n) zd = .lit (.int .i64 (c : Int)) := by
  rcases h with ⟨rfl, rfl⟩ | ⟨b, rfl, h⟩
  · exact .inl ⟨Maps.look_nil false lawK Tryz.underlying87 (zeroP w) (keyN hn), rfl⟩
  · obtain ⟨es, clock, hb, F, hs, rfl⟩ := h
    rcases Maps.fit_look false lawK Tryz.underlying87 (zeroP w) hb F (keyN hn) with ⟨h1, _, h3⟩ | ⟨e0, y, _, _, h1, h2, h3, _⟩
    · exact .inl ⟨h1, Maps.has_false_of_atKey h3⟩
    · obtain ⟨c, hv, hy⟩ := fileElem_inv h2
      refine .inr ⟨c, ?_, Maps.has_true_of_atKey h3, fun zd => ?_⟩
      · rw [h1, hv]; rfl
      · rw [h3 zd, hy]
theorem MapAt.len {w : World} {mb : Option Nat} {D : DataW Unit} (h : MapAt w mb D) (ty : TypeId) : (Builtin.len_ #[87] ty #[.map mb]).run Tryz.prog w = .ok (.int .i64 (Maps.size D)) w := by
  rcases h with ⟨rfl, rfl⟩ | ⟨b, rfl, h⟩
  · rw [Maps.len_nil Tryz.underlying87 ty]; rfl
  · exact h.len Tryz.underlying87 ty

/-- a file in memory -/
structure File (w : World) (B c : Nat) (v : Value) (e : Pap) : Prop where
  lt : c < w.heap.size
  c0 : w.cell? ⟨c, 0, none⟩ = some v
  c1 : w.cell? ⟨c, 1, none⟩ = some (.int .i64 e.sure)
  f0 : w.frozen? ⟨c, 0, none⟩ = false
  f1 : w.frozen? ⟨c, 1, none⟩ = false
  row : w.ownsRow B 5 1 v e.text.size (Lib.strCells e.text)
theorem row_chg {A : Nat → Prop} {w w' : World} {B : Nat} {t : TypeId} {s : Nat} {v : Value} {n : Nat} {xs : List Value} (h : w.ownsRow B t s v n xs) (hc : Chg A w w') (hr : ∀ g, v.ownBlock = some g → ¬ A g) : w'.ownsRow B t s v n xs := by
  refine ⟨h.1, ?_⟩
  rcases h.2 with q | ⟨g, cap, cur, h1, h2, h3, r⟩
  · exact .inl q
  · refine .inr ⟨g, cap, cur, h1, h2, ?_, r⟩
    rw [hc.block g (h.lt g (by rw [h1]; rfl)).2 (hr g (by rw [h1]; rfl))]
    exact h3
theorem File.chg {A : Nat → Prop} {w w' : World} {B c : Nat} {v : Value} {e : Pap} (h : File w B c v e) (hc : Chg A w w') (hn : ¬ A c) (hr : ∀ g, v.ownBlock = some g → ¬ A g) : File w' B c v e :=
  ⟨Nat.lt_of_lt_of_le h.lt hc.size, by rw [hc.cell (p := ⟨c, 0, none⟩) h.lt hn]; exact h.c0, by rw [hc.cell (p := ⟨c, 1, none⟩) h.lt hn]; exact h.c1,
   by rw [hc.frozen (p := ⟨c, 0, none⟩) h.lt hn]; exact h.f0, by rw [hc.frozen (p := ⟨c, 1, none⟩) h.lt hn]; exact h.f1, row_chg h.row hc hr⟩
theorem File.shape {w : World} {B c : Nat} {v : Value} {e : Pap} (h : File w B c v e) : ∃ a cap, v = .slice a e.text.size cap ∧ e.text.size ≤ cap ∧ cap ≤ maxLen := by
  rcases h.row.2 with ⟨h1, h2⟩ | ⟨g, cap, cur, h1, h2, h3, h4, h5, _⟩
  · exact ⟨none, 0, by rw [h1, h2], by omega, by simp [maxLen]⟩
  · exact ⟨_, cap, h1, h4, h5⟩

/-- the program's disk: rl says what each of its blocks is for: (0, 0) the disk, (1, 0) the map, (2, n) the file n, (3, n) its bytes -/
structure Disk (w : World) (B q : Nat) (rl : Nat → Option (Nat × Int)) (m : Int) (es : List Pap) (mb : Option Nat) (D : DataW Unit) (cO : Int → Nat) (vO : Int → Value) : Prop where
  c0 : w.cell? ⟨q, 0, none⟩ = some (.int .i64 m)
  c1 : w.cell? ⟨q, 1, none⟩ = some (.map mb)
  fz : w.frozen? ⟨q, 1, none⟩ = false
  mp : MapAt w mb D
  sz : Maps.size D = es.length
  key : ∀ n, Maps.has D (.int .i64 n) = (fnd es n).isSome
  ptr : ∀ n e, fnd es n = some e → ∀ zd, D.atKey (.int .i64 n) zd = .lit (.int .i64 (cO n : Int))
  file : ∀ n e, fnd es n = some e → File w B (cO n) (vO n) e
  own : ∀ k, (rl k).isSome = true → B ≤ k ∧ k < w.heap.size
  r0 : rl q = some (0, 0)
  r1 : ∀ b, mb = some b → rl b = some (1, 0)
  r2 : ∀ n e, fnd es n = some e → rl (cO n) = some (2, n)
  r3 : ∀ n e, fnd es n = some e → ∀ g, (vO n).ownBlock = some g → rl g = some (3, n)
def Has (w : World) (B q : Nat) (F : Nat → Prop) (m : Int) (es : List Pap) : Prop := ∃ rl mb D cO vO, (∀ k, F k ↔ (rl k).isSome = true) ∧ Disk w B q rl m es mb D cO vO
theorem Disk.look {w : World} {B q : Nat} {rl : Nat → Option (Nat × Int)} {m : Int} {es : List Pap} {mb : Option Nat} {D : DataW Unit} {cO : Int → Nat} {vO : Int → Value} (h : Disk w B q rl m es mb D cO vO) {n : Int} (hn : wf n) :
    (fnd es n = none ∧ (Instr.lookup 87 (.map mb) (.int .i64 n) false).run Tryz.prog w = .ok (.pointer none) w) ∨
    ∃ e, fnd es n = some e ∧ (Instr.lookup 87 (.map mb) (.int .i64 n) false).run Tryz.prog w = .ok (.pointer (some ⟨cO n, 0, none⟩)) w := by
  have hk := h.key n
  rcases h.mp.look hn with ⟨h1, h2⟩ | ⟨c, h1, h2, h3⟩
  · rw [h2] at hk
    cases hf : fnd es n with
    | none => exact .inl ⟨rfl, h1⟩
    | some e => rw [hf] at hk; cases hk
  · rw [h2] at hk
    cases hf : fnd es n with
    | none => rw [hf] at hk; cases hk
    | some e =>
      have := (h3 .nil).symm.trans (h.ptr n e hf .nil)
      have hc : c = cO n := by simp only [DataW.lit.injEq, Lit.int.injEq, true_and] at this; omega
      exact .inr ⟨e, rfl, by rw [h1, hc]⟩
theorem Disk.keep {w w' : World} {B q : Nat} {rl : Nat → Option (Nat × Int)} {m : Int} {es : List Pap} {mb : Option Nat} {D : DataW Unit} {cO : Int → Nat} {vO : Int → Value} {A : Nat → Prop} (h : Disk w B q rl m es mb D cO vO) (hc : Chg A w w') (hA : ∀ k, (rl k).isSome = true → ¬ A k) : Disk w' B q rl m es mb D cO vO := by
  have hq : ¬ A q := hA q (by rw [h.r0]; rfl)
  have hl := (h.own q (by rw [h.r0]; rfl)).2
  refine ⟨?_, ?_, ?_, h.mp.chg hc (fun b hb => hA b (by rw [h.r1 b hb]; rfl)), h.sz, h.key, h.ptr, fun n e hf => (h.file n e hf).chg hc (hA _ (by rw [h.r2 n e hf]; rfl)) (fun g hg => hA g (by rw [h.r3 n e hf g hg]; rfl)),
    fun k hk => ⟨(h.own k hk).1, Nat.lt_of_lt_of_le (h.own k hk).2 hc.size⟩, h.r0, h.r1, h.r2, h.r3⟩
  · rw [hc.cell (p := ⟨q, 0, none⟩) hl hq]; exact h.c0
  · rw [hc.cell (p := ⟨q, 1, none⟩) hl hq]; exact h.c1
  · rw [hc.frozen (p := ⟨q, 1, none⟩) hl hq]; exact h.fz
theorem Has.own {w : World} {B q : Nat} {F : Nat → Prop} {m : Int} {es : List Pap} (h : Has w B q F m es) : ∀ k, F k → B ≤ k ∧ k < w.heap.size := by
  obtain ⟨rl, mb, D, cO, vO, hF, h⟩ := h
  exact fun k hk => h.own k ((hF k).1 hk)
theorem Has.chg {w w' : World} {B q : Nat} {F : Nat → Prop} {m : Int} {es : List Pap} {A : Nat → Prop} (h : Has w B q F m es) (hc : Chg A w w') (hA : ∀ k, F k → ¬ A k) : Has w' B q F m es := by
  obtain ⟨rl, mb, D, cO, vO, hF, h⟩ := h
  exact ⟨rl, mb, D, cO, vO, hF, h.keep hc (fun k hk => hA k ((hF k).2 hk))⟩
theorem did_new {w w' : World} {B q : Nat} {F : Nat → Prop} {m : Int} {es : List Pap} (h : Has w B q F m es) (hb : Below w.heap.size w w') : Did Has w w' B q F m es :=
  ⟨F, h.chg (A := fun _ => False) (Chg.of_below hb) (fun _ _ h => h), Chg.of_below hb, fun _ h => .inl h⟩
theorem did_same {w : World} {B q : Nat} {F : Nat → Prop} {m : Int} {es : List Pap} (h : Has w B q F m es) : Did Has w w B q F m es := did_new h (Below.refl _ _)

/-- one file is changed -/
theorem Disk.one {w w' : World} {B q : Nat} {rl : Nat → Option (Nat × Int)} {m : Int} {es es' : List Pap} {mb : Option Nat} {D : DataW Unit} {cO : Int → Nat} {vO : Int → Value} (h : Disk w B q rl m es mb D cO vO) {n : Int} {e e' : Pap} {v' : Value}
    (hn : fnd es n = some e) (hlen : es'.length = es.length) (hf : ∀ k, fnd es' k = if k = n then some e' else fnd es k) (hc : Chg (fun k => k = cO n ∨ (vO n).ownBlock = some k) w w') (hF : File w' B (cO n) v' e')
    (hv : ∀ g, v'.ownBlock = some g → (vO n).ownBlock = some g ∨ w.heap.size ≤ g) : ∃ rl', Disk w' B q rl' m es' mb D cO (fun k => if k = n then v' else vO k) ∧ ∀ k, (rl' k).isSome = true → (rl k).isSome = true ∨ w.heap.size ≤ k := by
  have hold : ∀ k x, rl k = some x → x ≠ (3, n) → v'.ownBlock ≠ some k := fun k x hk hx hg => by
    rcases hv k hg with z | z
    · have := h.r3 n e hn k z
      rw [hk] at this
      exact hx (Option.some.inj this)
    · have := (h.own k (by rw [hk]; rfl)).2; omega
  have hout : ∀ k x, rl k = some x → x ≠ (3, n) → x ≠ (2, n) → ¬ (k = cO n ∨ (vO n).ownBlock = some k) := fun k x hk h3 h2 z => by
    rcases z with z | z
    · rw [z, h.r2 n e hn] at hk; exact h2 (Option.some.inj hk).symm
    · rw [h.r3 n e hn k z] at hk; exact h3 (Option.some.inj hk).symm
  have hq := hout q _ h.r0 (by simp) (by simp)
  have hl := (h.own q (by rw [h.r0]; rfl)).2
  refine ⟨fun k => if v'.ownBlock = some k then some (3, n) else rl k, ⟨?_, ?_, ?_, h.mp.chg hc (fun b hb => hout b _ (h.r1 b hb) (by simp) (by simp)), h.sz.trans hlen.symm, fun k => ?_, fun k e1 hk zd => ?_, fun k e1 hk => ?_, fun k hk => ?_, ?_, fun b hb => ?_, fun k e1 hk => ?_, fun k e1 hk g hg => ?_⟩, fun k hk => ?_⟩
  · rw [hc.cell (p := ⟨q, 0, none⟩) hl hq]; exact h.c0
  · rw [hc.cell (p := ⟨q, 1, none⟩) hl hq]; exact h.c1
  · rw [hc.frozen (p := ⟨q, 1, none⟩) hl hq]; exact h.fz
  · rw [h.key, hf]
    by_cases hk : k = n
    · rw [if_pos hk, hk, hn]; rfl
    · rw [if_neg hk]
  · rw [hf] at hk
    by_cases hkn : k = n
    · rw [hkn]; exact h.ptr n e hn zd
    · rw [if_neg hkn] at hk; exact h.ptr k e1 hk zd
  · rw [hf] at hk
    by_cases hkn : k = n
    · rw [if_pos hkn] at hk
      cases hk
      subst hkn
      simpa using hF
    · rw [if_neg hkn] at hk
      simp only [if_neg hkn]
      refine (h.file k e1 hk).chg hc (hout _ _ (h.r2 k e1 hk) (by simp) (by simpa using hkn)) (fun g hg => hout _ _ (h.r3 k e1 hk g hg) (by simpa using hkn) (by simp))
  · by_cases hg : v'.ownBlock = some k
    · exact hF.row.lt k hg
    · rw [if_neg hg] at hk
      exact ⟨(h.own k hk).1, Nat.lt_of_lt_of_le (h.own k hk).2 hc.size⟩
  · rw [if_neg (hold q _ h.r0 (by simp))]; exact h.r0
  · rw [if_neg (hold b _ (h.r1 b hb) (by simp))]; exact h.r1 b hb
  · have hk2 : rl (cO k) = some (2, k) := by
      rw [hf] at hk
      by_cases hkn : k = n
      · rw [hkn]; exact h.r2 n e hn
      · rw [if_neg hkn] at hk; exact h.r2 k e1 hk
    rw [if_neg (hold _ _ hk2 (by simp))]; exact hk2
  · rw [hf] at hk
    by_cases hkn : k = n
    · simp only [if_pos hkn] at hg
      rw [if_pos hg, hkn]
    · rw [if_neg hkn] at hk
      simp only [if_neg hkn] at hg
      have := h.r3 k e1 hk g hg
      rw [if_neg (hold _ _ this (by simpa using hkn))]
      exact this
  · by_cases hg : v'.ownBlock = some k
    · rcases hv k hg with z | z
      · left; rw [h.r3 n e hn k z]; rfl
      · exact .inr z
    · simp only [if_neg hg] at hk
      exact .inl hk
theorem Disk.did {w w' : World} {B q : Nat} {F : Nat → Prop} {rl rl' : Nat → Option (Nat × Int)} {m : Int} {es' : List Pap} {mb : Option Nat} {D : DataW Unit} {cO : Int → Nat} {vO : Int → Value} (hF : ∀ k, F k ↔ (rl k).isSome = true) (h' : Disk w' B q rl' m es' mb D cO vO) (hc : Chg (fun k => (rl k).isSome = true) w w') (hr : ∀ k, (rl' k).isSome = true → (rl k).isSome = true ∨ w.heap.size ≤ k) : Did Has w w' B q F m es' :=
  ⟨fun k => (rl' k).isSome = true, ⟨rl', mb, D, cO, vO, fun _ => Iff.rfl, h'⟩, hc.mono (fun k _ hk => (hF k).2 hk), fun k hk => (hr k hk).imp (hF k).2 id⟩
/-- what may be written when one file is changed -/
theorem Disk.foot {w w' : World} {B q : Nat} {rl : Nat → Option (Nat × Int)} {m : Int} {es : List Pap} {mb : Option Nat} {D : DataW Unit} {cO : Int → Nat} {vO : Int → Value} (h : Disk w B q rl m es mb D cO vO) {n : Int} {e : Pap} (hn : fnd es n = some e) (hc : Chg (fun k => k = cO n ∨ (vO n).ownBlock = some k) w w') : Chg (fun k => (rl k).isSome = true) w w' :=
  hc.mono (fun k _ hk => by
    rcases hk with z | z
    · rw [z, h.r2 n e hn]; rfl
    · rw [h.r3 n e hn k z]; rfl)

/-- one file is new: without a byte -/
theorem Disk.add {w w' : World} {B q : Nat} {rl : Nat → Option (Nat × Int)} {m : Int} {es es' : List Pap} {mb mb' : Option Nat} {D : DataW Unit} {cO : Int → Nat} {vO : Int → Value} (h : Disk w B q rl m es mb D cO vO) {n : Int} {c : Nat}
    (hn : fnd es n = none) (hlen : es'.length = es.length + 1) (hf : ∀ k, fnd es' k = if k = n then some ⟨n, 0, ByteArray.empty⟩ else fnd es k) (hc : Chg (fun k => k = q ∨ mb = some k) w w') (hB : B ≤ w.heap.size) (hcl : w.heap.size ≤ c)
    (h0 : w'.cell? ⟨q, 0, none⟩ = some (.int .i64 m)) (h1 : w'.cell? ⟨q, 1, none⟩ = some (.map mb')) (h2 : w'.frozen? ⟨q, 1, none⟩ = false) (hM : MapAt w' mb' (D.put (.int .i64 n) (.lit (.int .i64 (c : Int))))) (hb : ∀ b, mb' = some b → mb = some b ∨ w.heap.size ≤ b) (hbc : mb' ≠ some c) (hbl : ∀ b, mb' = some b → b < w'.heap.size)
    (hF : File w' B c (.slice none 0 0) ⟨n, 0, ByteArray.empty⟩) :
    ∃ rl', Disk w' B q rl' m es' mb' (D.put (.int .i64 n) (.lit (.int .i64 (c : Int)))) (fun k => if k = n then c else cO k) (fun k => if k = n then .slice none 0 0 else vO k) ∧ ∀ k, (rl' k).isSome = true → (rl k).isSome = true ∨ w.heap.size ≤ k := by
  have hold : ∀ k x, rl k = some x → k ≠ c := fun k x hk z => by have := (h.own k (by rw [hk]; rfl)).2; omega
  have hmb : ∀ k x, rl k = some x → x ≠ (1, 0) → mb' ≠ some k := fun k x hk hx z => by
    rcases hb k z with y | y
    · have := h.r1 k y; rw [hk] at this; exact hx (Option.some.inj this)
    · have := (h.own k (by rw [hk]; rfl)).2; omega
  have hout : ∀ k x, rl k = some x → x ≠ (0, 0) → x ≠ (1, 0) → ¬ (k = q ∨ mb = some k) := fun k x hk h0 h1 z => by
    rcases z with z | z
    · rw [z, h.r0] at hk; exact h0 (Option.some.inj hk).symm
    · rw [h.r1 k z] at hk; exact h1 (Option.some.inj hk).symm
  have hD := h.mp.tidy
  have hno : Maps.has D (.int .i64 n) = false := by rw [h.key, hn]; rfl
  have hkl : WideAt.IsKeyLit (.int .i64 n) := trivial
  refine ⟨fun k => if k = c then some (2, n) else if mb' = some k then some (1, 0) else rl k, ⟨h0, h1, h2, hM, ?_, fun k => ?_, fun k e1 hk zd => ?_, fun k e1 hk => ?_, fun k hk => ?_, ?_, fun b hb1 => ?_, fun k e1 hk => ?_, fun k e1 hk g hg => ?_⟩, fun k hk => ?_⟩
  · rw [Maps.size_put hD, hno, hlen, h.sz]; rfl
  · rw [hf]
    by_cases hk : k = n
    · rw [if_pos hk, hk, Maps.has_put_same hD.isMap hkl]; rfl
    · rw [if_neg hk, Maps.has_put_other (lit_ne hk), h.key]
  · rw [hf] at hk
    by_cases hkn : k = n
    · simp only [if_pos hkn]
      rw [hkn, Maps.atKey_put_same hD.isMap hkl]
    · rw [if_neg hkn] at hk
      simp only [if_neg hkn]
      rw [Maps.atKey_put_other (lit_ne hkn)]
      exact h.ptr k e1 hk zd
  · rw [hf] at hk
    by_cases hkn : k = n
    · rw [if_pos hkn] at hk
      cases hk
      simpa [hkn] using hF
    · rw [if_neg hkn] at hk
      simp only [if_neg hkn]
      exact (h.file k e1 hk).chg hc (hout _ _ (h.r2 k e1 hk) (by simp) (by simp)) (fun g hg => hout _ _ (h.r3 k e1 hk g hg) (by simp) (by simp))
  · by_cases hkc : k = c
    · rw [hkc]; exact ⟨by omega, hF.lt⟩
    · rw [if_neg hkc] at hk
      by_cases hkb : mb' = some k
      · refine ⟨?_, hbl k hkb⟩
        rcases hb k hkb with z | z
        · exact (h.own k (by rw [h.r1 k z]; rfl)).1
        · omega
      · rw [if_neg hkb] at hk
        exact ⟨(h.own k hk).1, Nat.lt_of_lt_of_le (h.own k hk).2 hc.size⟩
  · rw [if_neg (hold q _ h.r0), if_neg (hmb q _ h.r0 (by simp))]; exact h.r0
  · rw [if_neg (fun z => hbc (by rw [hb1, z])), if_pos hb1]
  · rw [hf] at hk
    by_cases hkn : k = n
    · simp only [if_pos hkn, if_true]; rw [hkn]
    · rw [if_neg hkn] at hk
      have := h.r2 k e1 hk
      simp only [if_neg hkn]
      rw [if_neg (hold _ _ this), if_neg (hmb _ _ this (by simp))]
      exact this
  · rw [hf] at hk
    by_cases hkn : k = n
    · simp only [if_pos hkn] at hg
      cases hg
    · rw [if_neg hkn] at hk
      simp only [if_neg hkn] at hg
      have := h.r3 k e1 hk g hg
      rw [if_neg (hold _ _ this), if_neg (hmb _ _ this (by simp))]
      exact this
  · by_cases hkc : k = c
    · exact .inr (by omega)
    · simp only [if_neg hkc] at hk
      by_cases hkb : mb' = some k
      · rcases hb k hkb with z | z
        · left; rw [h.r1 k z]; rfl
        · exact .inr z
      · rw [if_neg hkb] at hk
        exact .inl hk

/-- one file is gone -/
theorem Disk.del {w w' : World} {B q : Nat} {rl : Nat → Option (Nat × Int)} {m : Int} {es es' : List Pap} {b : Nat} {D : DataW Unit} {cO : Int → Nat} {vO : Int → Value} (h : Disk w B q rl m es (some b) D cO vO) {n : Int} {e : Pap}
    (hn : fnd es n = some e) (hlen : es'.length + 1 = es.length) (hf : ∀ k, fnd es' k = if k = n then none else fnd es k) (hc : Chg (fun k => k = b) w w') (hM : MapAt w' (some b) (D.del (.int .i64 n))) : Disk w' B q rl m es' (some b) (D.del (.int .i64 n)) cO vO := by
  have hout : ∀ k x, rl k = some x → x ≠ (1, 0) → ¬ k = b := fun k x hk h1 z => by
    rw [z, h.r1 b rfl] at hk; exact h1 (Option.some.inj hk).symm
  have hq := hout q _ h.r0 (by simp)
  have hl := (h.own q (by rw [h.r0]; rfl)).2
  have hD := h.mp.tidy
  have hyes : Maps.has D (.int .i64 n) = true := by rw [h.key, hn]; rfl
  have hof : ∀ k e1, fnd es' k = some e1 → k ≠ n ∧ fnd es k = some e1 := fun k e1 hk => by
    rw [hf] at hk
    by_cases hkn : k = n
    · rw [if_pos hkn] at hk; cases hk
    · rw [if_neg hkn] at hk; exact ⟨hkn, hk⟩
  refine ⟨?_, ?_, ?_, hM, ?_, fun k => ?_, fun k e1 hk zd => ?_, fun k e1 hk => ?_, fun k hk => ⟨(h.own k hk).1, Nat.lt_of_lt_of_le (h.own k hk).2 hc.size⟩, h.r0, h.r1, fun k e1 hk => h.r2 k e1 (hof k e1 hk).2, fun k e1 hk g hg => h.r3 k e1 (hof k e1 hk).2 g hg⟩
  · rw [hc.cell (p := ⟨q, 0, none⟩) hl hq]; exact h.c0
  · rw [hc.cell (p := ⟨q, 1, none⟩) hl hq]; exact h.c1
  · rw [hc.frozen (p := ⟨q, 1, none⟩) hl hq]; exact h.fz
  · have := Maps.size_del (k := .int .i64 n) hD
    rw [hyes, h.sz] at this
    simp only [if_true] at this
    omega
  · rw [hf]
    by_cases hk : k = n
    · rw [if_pos hk, hk, Maps.has_del_same]; rfl
    · rw [if_neg hk, Maps.has_del_other (lit_ne hk), h.key]
  · obtain ⟨hkn, hk⟩ := hof k e1 hk
    rw [Maps.atKey_del_other (lit_ne hkn)]
    exact h.ptr k e1 hk zd
  · obtain ⟨hkn, hk⟩ := hof k e1 hk
    exact (h.file k e1 hk).chg hc (hout _ _ (h.r2 k e1 hk) (by simp)) (fun g hg => hout _ _ (h.r3 k e1 hk g hg) (by simp))
end Go.Proofs.YtohjipnkoiifhagGreatDoor.Dk

namespace Go.Proofs.YtohjipnkoiifhagGreatDoor.Dk
open Go.RowKit

theorem ix_some {es : List Pap} {n : Int} {e : Pap} (h : fnd es n = some e) : ix es n < es.length ∧ pa es (ix es n) = e := by
  have := fnd_ix es n
  rw [h] at this
  split at this
  · rename_i q
    exact ⟨q, (Option.some.inj this).symm⟩
  · cases this
theorem ix_not {es : List Pap} {n : Int} (h : fnd es n = none) : ¬ ix es n < es.length := fun q => by rw [fnd_some q] at h; cases h
theorem readV_some {es : List Pap} {n : Int} {e : Pap} (h : fnd es n = some e) : readV es n = .tuple #[.string e.text, .int .i64 0] := by
  unfold readV
  rw [if_pos (ix_some h).1, (ix_some h).2]
theorem readV_none {es : List Pap} {n : Int} (h : fnd es n = none) : readV es n = .tuple #[.string ⟨#[]⟩, .int .i64 4] := by
  unfold readV
  rw [if_neg (ix_not h)]
theorem hasE_some {es : List Pap} {n : Int} {e : Pap} (h : fnd es n = some e) : hasE es n = 0 := by
  unfold hasE
  rw [if_pos (ix_some h).1]
theorem hasE_none {es : List Pap} {n : Int} (h : fnd es n = none) : hasE es n = 4 := by
  unfold hasE
  rw [if_neg (ix_not h)]
theorem file_conv {w : World} {B c : Nat} {v : Value} {e : Pap} (h : File w B c v e) : (convert 108 9 v).run Tryz.prog w = .ok (.string e.text) w := by
  rcases h.row.2 with ⟨h1, h2⟩ | ⟨g, cap, cur, h1, h2⟩
  · have : e.text = ByteArray.empty := by
      apply ByteArray.ext
      exact Array.eq_empty_of_size_eq_zero h2
    rw [h1, this, run_convert_bytes_string w _ _ 5 none 0 0 Tryz.underlying108 Tryz.underlying5 Tryz.underlying9]
    rfl
  · have hl : e.text.data.toList.length = e.text.size := by simp
    have hr := h.row
    rw [h1] at hr ⊢
    have := run_convert_bytes_back (P := Tryz.prog) w 108 9 5 ⟨g, 0, none⟩ cap e.text.data.toList Tryz.underlying108 Tryz.underlying5 Tryz.underlying9 (fun j hj => by
      refine World.ownsRow.cells hr (g := g) rfl j _ ?_
      simp [Lib.strCells, List.getElem?_eq_getElem hj])
    rw [hl] at this
    rw [this]
/-- a file's row of bytes is put in -/
theorem File.put0 {w w1 : World} {B c : Nat} {v v' : Value} {e : Pap} {t : ByteArray} (h : File w B c v e) (hc : Chg (fun k => v.ownBlock = some k) w w1) (hn : v.ownBlock ≠ some c) (hr : w1.ownsRow B 5 1 v' t.size (Lib.strCells t)) (hn' : v'.ownBlock ≠ some c) :
    File (w1.setCell ⟨c, 0, none⟩ v') B c v' { e with text := t } ∧ Chg (fun k => k = c ∨ v.ownBlock = some k) w (w1.setCell ⟨c, 0, none⟩ v') := by
  have hl : c < w1.heap.size := Nat.lt_of_lt_of_le h.lt hc.size
  have d0 : w1.cell? ⟨c, 0, none⟩ = some v := by rw [hc.cell (p := ⟨c, 0, none⟩) h.lt hn]; exact h.c0
  refine ⟨⟨by simpa [World.setCell] using hl, World.cell?_setCell_same _ _ _ (by rw [d0]), ?_, ?_, ?_, ?_⟩, ?_⟩
  · rw [World.cell?_setCell_other _ _ _ _ (by simp), hc.cell (p := ⟨c, 1, none⟩) h.lt hn]; exact h.c1
  · rw [World.frozen?_setCell, hc.frozen (p := ⟨c, 0, none⟩) h.lt hn]; exact h.f0
  · rw [World.frozen?_setCell, hc.frozen (p := ⟨c, 1, none⟩) h.lt hn]; exact h.f1
  · exact row_chg (A := fun k => k = c) hr (Chg.setCell (A := fun k => k = c) (p := ⟨c, 0, none⟩) (Chg.refl _ _) (.inl rfl) _) (fun g hg z => hn' (by rw [hg, z]))
  · exact (hc.mono (fun k _ q => .inr q)).setCell (p := ⟨c, 0, none⟩) (.inl (.inl rfl)) _
/-- how much is sure is put in -/
theorem File.put1 {w : World} {B c : Nat} {v : Value} {e : Pap} (h : File w B c v e) (hn : v.ownBlock ≠ some c) (x : Int) :
    File (w.setCell ⟨c, 1, none⟩ (.int .i64 x)) B c v { e with sure := x } ∧ Chg (fun k => k = c ∨ v.ownBlock = some k) w (w.setCell ⟨c, 1, none⟩ (.int .i64 x)) := by
  refine ⟨⟨by simpa [World.setCell] using h.lt, ?_, World.cell?_setCell_same _ _ _ (by rw [h.c1]), ?_, ?_, ?_⟩, ?_⟩
  · rw [World.cell?_setCell_other _ _ _ _ (by simp)]; exact h.c0
  · rw [World.frozen?_setCell]; exact h.f0
  · rw [World.frozen?_setCell]; exact h.f1
  · exact row_chg (A := fun k => k = c) h.row (Chg.setCell (A := fun k => k = c) (p := ⟨c, 1, none⟩) (Chg.refl _ _) (.inl rfl) _) (fun g hg z => hn (by rw [hg, z]))
  · exact (Chg.refl _ _).setCell (p := ⟨c, 1, none⟩) (.inl (.inl rfl)) _
theorem Disk.away {w : World} {B q : Nat} {rl : Nat → Option (Nat × Int)} {m : Int} {es : List Pap} {mb : Option Nat} {D : DataW Unit} {cO : Int → Nat} {vO : Int → Value} (h : Disk w B q rl m es mb D cO vO) {n : Int} {e : Pap} (hn : fnd es n = some e) : (vO n).ownBlock ≠ some (cO n) := fun z => by
  have h1 := h.r3 n e hn _ z
  rw [h.r2 n e hn] at h1
  cases h1

set_option maxHeartbeats 400000 in
theorem new_bad (w : World) (m : Int) (h : inI m 1 65536 = false) : Calls Tryz.prog 20 #[.int .i64 m] w fun e w' => e = .returned (.tuple #[.pointer none, .int .i64 1]) ∧ Below w.heap.size w w' := by
  have h' : m < 1 ∨ 65536 < m := by
    unfold inI at h
    simp only [Bool.and_eq_false_iff, decide_eq_false_iff_not] at h
    omega
  by_cases h1 : m < 1
  · go_enter Tryz.func20, Tryz.ntmps20
    go_wp2_with fail
    go_ret2
    exact ⟨rfl, Below.refl _ _⟩
  · have h2 : 65536 < m := by omega
    go_enter Tryz.func20, Tryz.ntmps20
    go_wp2_with fail
    go_ret2
    exact ⟨rfl, Below.refl _ _⟩
theorem disk_new (w : World) (m : Int) : Disk (w.alloc (.cells #[.int .i64 m, .map none] 89)) w.heap.size w.heap.size (fun k => if k = w.heap.size then some (0, 0) else none) m [] none (.map []) (fun _ => 0) (fun _ => .slice none 0 0) := by
  refine ⟨?_, ?_, ?_, .inl ⟨rfl, rfl⟩, rfl, fun n => rfl, fun n e h => (by cases h), fun n e h => (by cases h), fun k hk => ?_, by simp, fun b hb => (by cases hb), fun n e h => (by cases h), fun n e h => (by cases h)⟩
  · rw [cell_of_row _ w.heap.size 0 _ _ _ (heap_alloc_new w _)]; rfl
  · rw [cell_of_row _ w.heap.size 1 _ _ _ (heap_alloc_new w _)]; rfl
  · exact frozen_of_row _ w.heap.size 1 _ _ (heap_alloc_new w _)
  · by_cases z : k = w.heap.size
    · subst z; simp
    · rw [if_neg z] at hk; cases hk
set_option maxHeartbeats 400000 in
theorem new_good (w : World) (m : Int) (h : inI m 1 65536 = true) : Calls Tryz.prog 20 #[.int .i64 m] w fun e w' => ∃ q F, e = .returned (.tuple #[.pointer (some ⟨q, 0, none⟩), .int .i64 0]) ∧ Has w' w.heap.size q F m [] ∧ Below w.heap.size w w' := by
  have h' : 1 ≤ m ∧ m ≤ 65536 := by simpa [inI] using h
  have h1 : ¬ m < 1 := by omega
  have h2 : ¬ 65536 < m := by omega
  clear h
  go_enter Tryz.func20, Tryz.ntmps20
  go_wp2_with fail
  go_ret2
  exact ⟨w.heap.size, rfl, ⟨_, _, _, _, _, _, fun _ => Iff.rfl, disk_new w m⟩, (Below.refl _ _).alloc (Nat.le_refl _) _⟩
theorem news : News Has := ⟨new_bad, new_good⟩

set_option maxHeartbeats 400000 in
theorem dread_any {w : World} {B q : Nat} {F : Nat → Prop} {m : Int} {es : List Pap} (n : Int) (hn : wf n) (hH : Has w B q F m es) :
    Calls Tryz.prog 92 #[.pointer (some ⟨q, 0, none⟩), .int .i64 n] w fun e w' => e = .returned (readV es n) ∧ w' = w := by
  obtain ⟨rl, mb, D, cO, vO, hF, h⟩ := hH
  have k1 := h.c1
  rcases h.look hn with ⟨hf, hl⟩ | ⟨e, hf, hl⟩
  · rw [readV_none hf]
    clear h hF hf
    go_enter Tryz.func92, Tryz.ntmps92
    go_wp2_with fail
    go_ret2
    exact ⟨rfl, rfl⟩
  · rw [readV_some hf]
    have hfile := h.file n e hf
    have d0 := hfile.c0
    have hcv := file_conv hfile
    clear h hF hf hfile
    go_enter Tryz.func92, Tryz.ntmps92
    go_wp2_with fail
    go_ret2
    exact ⟨rfl, rfl⟩
end Go.Proofs.YtohjipnkoiifhagGreatDoor.Dk

namespace Go.Proofs.YtohjipnkoiifhagGreatDoor.Dk
open Go.RowKit

theorem one_did {w w' : World} {B q : Nat} {F : Nat → Prop} {rl : Nat → Option (Nat × Int)} {m : Int} {es es' : List Pap} {mb : Option Nat} {D : DataW Unit} {cO : Int → Nat} {vO : Int → Value} (hF : ∀ k, F k ↔ (rl k).isSome = true) (h : Disk w B q rl m es mb D cO vO) {n : Int} {e e' : Pap} {v' : Value}
    (hn : fnd es n = some e) (hlen : es'.length = es.length) (hf : ∀ k, fnd es' k = if k = n then some e' else fnd es k) (hc : Chg (fun k => k = cO n ∨ (vO n).ownBlock = some k) w w') (hf' : File w' B (cO n) v' e')
    (hv : ∀ g, v'.ownBlock = some g → (vO n).ownBlock = some g ∨ w.heap.size ≤ g) : Did Has w w' B q F m es' := by
  obtain ⟨rl', h', hr⟩ := h.one hn hlen hf hc hf' hv
  exact h'.did hF (h.foot hn hc) hr

set_option maxHeartbeats 400000 in
theorem dsync_any {w : World} {B q : Nat} {F : Nat → Prop} {m : Int} {es : List Pap} (n : Int) (hn : wf n) (hH : Has w B q F m es) (ht : Tidy m es) :
    Calls Tryz.prog 47 #[.pointer (some ⟨q, 0, none⟩), .int .i64 n] w fun e w' => e = .returned (.int .i64 (hasE es n)) ∧ Did Has w w' B q F m (syncL es n) := by
  have HH := hide hH
  obtain ⟨rl, mb, D, cO, vO, hF, h⟩ := hH
  have k1 := h.c1
  rcases h.look hn with ⟨hf, hl⟩ | ⟨e, hf, hl⟩
  · rw [hasE_none hf]
    have hs : syncL es n = es := by unfold syncL; rw [if_neg (ix_not hf)]
    rw [hs]
    clear h hF hf hs ht
    go_enter Tryz.func47, Tryz.ntmps47
    go_wp2_with fail
    go_ret
    exact ⟨rfl, did_same (unhide HH)⟩
  · rw [hasE_some hf]
    have hfile := h.file n e hf
    have d0 := hfile.c0
    have d1 := hfile.c1
    have d2 := hfile.f1
    obtain ⟨a, cap, hv, _, _⟩ := hfile.shape
    rw [hv] at d0
    have HX : Hid (Did Has w (w.setCell ⟨cO n, 1, none⟩ (.int .i64 (e.text.size : Int))) B q F m (syncL es n)) := hide (by
      obtain ⟨p1, p2⟩ := hfile.put1 (h.away hf) (e.text.size : Int)
      refine one_did (e' := syncP e) hF h hf ?_ (fun k => ?_) p2 p1 (fun g hg => .inl hg)
      · unfold syncL; split <;> simp
      · rw [fnd_sync ht, hf]; rfl)
    clear h hF hf hfile hv ht
    go_enter Tryz.func47, Tryz.ntmps47
    go_wp2_with fail
    go_ret
    exact ⟨rfl, unhide HX⟩

theorem cut_row {w : World} {B : Nat} {v : Value} {t : ByteArray} {k : Nat} {a : Option Addr} {cap : Nat} (hv : v = .slice a t.size cap) (h : w.ownsRow B 5 1 v t.size (Lib.strCells t)) (hk : k ≤ t.size) : w.ownsRow B 5 1 (.slice a k cap) (t.extract 0 k).size (Lib.strCells (t.extract 0 k)) := by
  have hz := ext_size t k hk
  have hs : Lib.strCells (t.extract 0 k) = (Lib.strCells t).take k := by
    unfold Lib.strCells
    rw [ByteArray.data_extract, Array.toList_extract, ← List.map_take]
    simp
  refine ⟨by rw [Lib.strCells_length, Nat.mul_one], ?_⟩
  rcases h.2 with ⟨h1, h2⟩ | ⟨g, cap', cur, h1, h2, h3, h4, h5, h6, h7⟩
  · rw [hv] at h1
    obtain ⟨rfl, _, rfl⟩ := Value.slice.inj h1
    obtain rfl : k = 0 := by omega
    exact .inl ⟨rfl, hz⟩
  · rw [hv] at h1
    obtain ⟨rfl, _, rfl⟩ := Value.slice.inj h1
    refine .inr ⟨g, cap, cur, by rw [hz], h2, h3, by omega, h5, h6, ?_⟩
    rw [hs, hz, ← h7, List.take_take]
    congr 1
    omega

set_option maxHeartbeats 400000 in
theorem ccut_any {w : World} {B c : Nat} {v : Value} {e : Pap} (k : Nat) (h : File w B c v e) (hn : v.ownBlock ≠ some c) (hk : k ≤ e.text.size) :
    Calls Tryz.prog 136 #[.pointer (some ⟨c, 0, none⟩), .int .i64 (k : Int)] w fun r w' => r = .returned (.tuple #[]) ∧ ∃ v', File w' B c v' (cutP e k) ∧ v'.ownBlock = v.ownBlock ∧ Chg (fun k => k = c ∨ v.ownBlock = some k) w w' := by
  obtain ⟨a, cap, hv, hcap, hmax⟩ := h.shape
  unfold maxLen at hmax
  have d0 := h.c0
  have d1 := h.c1
  have e0 := h.f0
  have e1 := h.f1
  have hr := cut_row hv h.row hk
  have ho : (Value.slice a k cap).ownBlock = v.ownBlock := by rw [hv]; cases a <;> rfl
  obtain ⟨p1, p2⟩ := h.put0 (Chg.refl _ _) hn hr (by rw [ho]; exact hn)
  obtain ⟨q1, q2⟩ := p1.put1 (by rw [ho]; exact hn) (k : Int)
  have hsl : ∀ W : World, (Instr.slice 108 (.slice a e.text.size cap) none (some (.int .i64 (k : Int))) none).run Tryz.prog W = .ok (.slice a k cap) W := by
    intro W
    have he : Tryz.prog.elem 108 = 5 := by kernel_rfl
    rw [run_slice_h W 108 _ _ _ (by rw [he]; exact Tryz.underlying108) .i64 (k : Int) (by omega) (by omega), he]
    simp [Result.andThen, sliced, go_sem, Tryz.sizeOf5]
  have HX : Hid (∃ v', File ((w.setCell ⟨c, 0, none⟩ (.slice a k cap)).setCell ⟨c, 1, none⟩ (.int .i64 (k : Int))) B c v' (cutP e k) ∧ v'.ownBlock = v.ownBlock ∧ Chg (fun k => k = c ∨ v.ownBlock = some k) w ((w.setCell ⟨c, 0, none⟩ (.slice a k cap)).setCell ⟨c, 1, none⟩ (.int .i64 (k : Int)))) := hide ⟨_, q1, ho, p2.trans (by rw [ho] at q2; exact q2)⟩
  clear p1 p2 q1 q2 hr ho hn h
  subst hv
  go_enter Tryz.func136, Tryz.ntmps136
  go_wp2_with fail
  go_end0
  exact ⟨rfl, unhide HX⟩

set_option maxHeartbeats 400000 in
theorem dremove_left {w : World} {B q : Nat} {F : Nat → Prop} {m : Int} {es : List Pap} (n : Int) (hn : wf n) (hH : Has w B q F m es) (ht : Tidy m es) :
    Calls Tryz.prog 82 #[.pointer (some ⟨q, 0, none⟩), .int .i64 n] w fun e w' => e = .returned (.int .i64 (hasE es n)) ∧ Has w' B q F m (remL es n) ∧ Chg F w w' := by
  have HH := hide hH
  obtain ⟨rl, mb, D, cO, vO, hF, h⟩ := hH
  have k1 := h.c1
  rcases h.look hn with ⟨hf, hl⟩ | ⟨e, hf, hl⟩
  · rw [hasE_none hf]
    have hs : remL es n = es := by unfold remL; rw [if_neg (ix_not hf)]
    rw [hs]
    clear h hF hf hs ht
    go_enter Tryz.func82, Tryz.ntmps82
    go_wp2_with fail
    go_ret
    exact ⟨rfl, unhide HH, Chg.refl _ _⟩
  · rw [hasE_some hf]
    rcases h.mp with ⟨_, hD⟩ | ⟨b, rfl, hown⟩
    · have := h.key n
      rw [hf, hD] at this
      cases this
    · have HX : Hid (∀ w', w'.ownsMap Tryz.prog 3 fileElem b (Maps.size D) (D.del (.int .i64 n)) → w.mapTurned w' b → Has w' B q F m (remL es n) ∧ Chg F w w') := hide (by
        intro w' ho htu
        have hc : Chg (fun k => k = b) w w' := (Chg.of_grown htu.grown).mono (fun k _ z => (Option.some.inj z).symm)
        refine ⟨⟨rl, _, _, _, _, hF, h.del (es' := remL es n) hf ?_ (fun k => fnd_rem ht n k) hc (.inr ⟨b, rfl, own_tight ho⟩)⟩, hc.mono (fun k _ z => by rw [z]; exact (hF b).2 (by rw [h.r1 b rfl]; rfl))⟩
        unfold remL
        have := (ix_some hf).1
        rw [if_pos this, List.length_append, List.length_take, List.length_drop]
        omega)
      have hke := keyN hn
      clear h hF hf ht
      go_enter Tryz.func82, Tryz.ntmps82
      go_wp2_with (at_delete; refine wpList_delete_own _ rfl _ _ 87 3 rfl 107 lawK Tryz.underlying87 _ b _ D rfl hown _ _ rfl hke ?_; intro w1 hown1 hturn1)
      go_ret
      exact ⟨rfl, unhide HX w1 hown1 hturn1⟩
theorem dremove_any {w : World} {B q : Nat} {F : Nat → Prop} {m : Int} {es : List Pap} (n : Int) (hn : wf n) (hH : Has w B q F m es) (ht : Tidy m es) :
    Calls Tryz.prog 82 #[.pointer (some ⟨q, 0, none⟩), .int .i64 n] w fun e w' => e = .returned (.int .i64 (hasE es n)) ∧ Did Has w w' B q F m (remL es n) :=
  (dremove_left n hn hH ht).mono (fun _ _ ⟨h1, h2, h3⟩ => ⟨h1, F, h2, h3, fun _ hk => .inl hk⟩)
end Go.Proofs.YtohjipnkoiifhagGreatDoor.Dk

namespace Go.Proofs.YtohjipnkoiifhagGreatDoor.Dk
open Go.RowKit

theorem cutL_len (es : List Pap) (n size : Int) : (cutL es n size).length = es.length := by
  unfold cutL
  split
  · split <;> simp
  · rfl
set_option maxHeartbeats 400000 in
theorem dcut_any {w : World} {B q : Nat} {F : Nat → Prop} {m : Int} {es : List Pap} (n size : Int) (hn : wf n) (hH : Has w B q F m es) (ht : Tidy m es) :
    Calls Tryz.prog 110 #[.pointer (some ⟨q, 0, none⟩), .int .i64 n, .int .i64 size] w fun e w' => e = .returned (.int .i64 (cutE es n size)) ∧ Did Has w w' B q F m (cutL es n size) := by
  have HH := hide hH
  obtain ⟨rl, mb, D, cO, vO, hF, h⟩ := hH
  have k1 := h.c1
  rcases h.look hn with ⟨hf, hl⟩ | ⟨e, hf, hl⟩
  · have hE : cutE es n size = 4 := by unfold cutE; rw [if_neg (ix_not hf)]
    rw [cut_not (by rw [hE]; decide), hE]
    clear h hF hf hE ht
    go_enter Tryz.func110, Tryz.ntmps110
    go_wp2_with fail
    go_ret
    exact ⟨rfl, did_same (unhide HH)⟩
  · have hfile := h.file n e hf
    obtain ⟨a, cap, hv, _, _⟩ := hfile.shape
    have d0 := hfile.c0
    rw [hv] at d0
    have hok : cutOk es n size = inI size 0 (e.text.size : Int) := by unfold cutOk; rw [(ix_some hf).2]
    by_cases hin : 0 ≤ size ∧ size ≤ (e.text.size : Int)
    · obtain ⟨k, rfl⟩ := Int.eq_ofNat_of_zero_le hin.1
      have hk : k ≤ e.text.size := by omega
      have hE : cutE es n (k : Int) = 0 := by rw [cut_ok, hok]; exact ⟨(ix_some hf).1, by simp [inI]; omega⟩
      have HC := hide (ccut_any k hfile (h.away hf) hk)
      have HX : Hid (∀ w', (∃ v', File w' B (cO n) v' (cutP e k) ∧ v'.ownBlock = (vO n).ownBlock ∧ Chg (fun k => k = cO n ∨ (vO n).ownBlock = some k) w w') → Did Has w w' B q F m (cutL es n (k : Int))) := hide (by
        rintro w' ⟨v', p1, p2, p3⟩
        refine one_did (e' := cutP e k) hF h hf (cutL_len _ _ _) (fun j => ?_) p3 p1 (fun g hg => .inl (by rw [← p2]; exact hg))
        rw [fnd_cut ht, hE, hf]
        simp)
      rw [hE]
      have h1 : ¬ (k : Int) < 0 := by omega
      have h2 : ¬ (e.text.size : Int) < (k : Int) := by omega
      clear h hF hf hE ht hfile hok hin hv
      go_enter Tryz.func110, Tryz.ntmps110
      go_wp2_with fail
      refine (unhide HC).mono ?_
      rintro r w1 ⟨rfl, hx⟩
      have X := hide (unhide HX w1 hx)
      clear hx d0 k1 hl
      go_wp2_with fail
      go_ret
      exact ⟨rfl, unhide X⟩
    · have hE : cutE es n size = 1 := by
        unfold cutE
        rw [if_pos (ix_some hf).1, hok, if_neg (by simp [inI]; omega)]
      rw [cut_not (by rw [hE]; decide), hE]
      clear h hF hf hE ht hfile hok
      by_cases h1 : size < 0
      · go_enter Tryz.func110, Tryz.ntmps110
        go_wp2_with fail
        go_ret
        exact ⟨rfl, did_same (unhide HH)⟩
      · have h2 : (e.text.size : Int) < size := by omega
        go_enter Tryz.func110, Tryz.ntmps110
        go_wp2_with fail
        go_ret
        exact ⟨rfl, did_same (unhide HH)⟩
end Go.Proofs.YtohjipnkoiifhagGreatDoor.Dk
