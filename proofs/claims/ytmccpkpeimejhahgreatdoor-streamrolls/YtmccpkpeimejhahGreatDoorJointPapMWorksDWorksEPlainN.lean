/-
  What every call of the document's disk keeps, and what it does to the map from numbers to files. No walk.
  What is asked of the program's disk, whatever it is made of.
  What is asked of the program's disk beyond that: Cut and List.
  Plain mathematics of numbers in groups of seven bits, of texts behind their length, and of the sum (CRC-32): a number is read as it was written, what is read is written so, a burst of at most 32 bits is told. No program.
-/
import Derived.Test.YtmccpkpeimejhahGreatDoorJointPapPwWalkY4RowTcPapL
namespace Go.Proofs.YtmccpkpeimejhahGreatDoor.Dk
open Go.RowKit

/-- a disk of the document, whatever was called -/
structure Tidy (m : Int) (es : List Pap) : Prop where
  rise : Rise es
  few : es.length ≤ 20
  fits : (used es : Int) ≤ m
  each : ∀ e ∈ es, inI e.n 0 1099511627776 = true ∧ 0 ≤ e.sure ∧ e.sure ≤ (e.text.size : Int)
theorem Tidy.nil {m : Int} (h : 0 ≤ m) : Tidy m [] := ⟨List.Pairwise.nil, by simp, by simpa [used] using h, fun e he => by simp at he⟩
theorem used_mem {es : List Pap} {e : Pap} (h : e ∈ es) : e.text.size ≤ used es := by
  induction es with
  | nil => simp at h
  | cons x r ih =>
    rw [used_cons]
    rcases List.mem_cons.1 h with rfl | h
    · omega
    · have := ih h; omega
theorem Tidy.sound {m : Int} {es : List Pap} (h : Tidy m es) (hm : m ≤ 1000000) : ∀ e ∈ es, Sound e := fun e he => ⟨(h.each e he).2.1, (h.each e he).2.2, by have := used_mem he; have := h.fits; omega⟩
theorem Tidy.set {m : Int} {es : List Pap} (h : Tidy m es) {i : Nat} (hi : i < es.length) {x : Pap} (hx : x.n = (pa es i).n) (hu : (used es : Int) + (x.text.size : Int) ≤ m + ((pa es i).text.size : Int)) (h0 : 0 ≤ x.sure) (h1 : x.sure ≤ (x.text.size : Int)) : Tidy m (es.set i x) := by
  refine ⟨?_, by rw [List.length_set]; exact h.few, ?_, ?_⟩
  · rw [rise_num, numL_set hi hx, ← rise_num]; exact h.rise
  · have := used_set hi x
    omega
  · intro e he
    rcases List.mem_or_eq_of_mem_set he with q | q
    · exact h.each e q
    · subst q
      refine ⟨?_, h0, h1⟩
      rw [hx]
      exact (h.each _ (pa_mem hi)).1
/-- Append -/
def appP (o : Option Pap) (n : Int) (s : ByteArray) : Pap := match o with
  | some e => addP e s
  | none => ⟨n, 0, s⟩
theorem full_fits {es : List Pap} {m n : Int} {s : ByteArray} (h : full es m n s = false) : (s.size : Int) + (used es : Int) ≤ m := by
  unfold full at h
  simp only [Bool.or_eq_false_iff, decide_eq_false_iff_not] at h
  omega
theorem app_ok {es : List Pap} {m n : Int} {s : ByteArray} : appE es m n s = 0 ↔ inI n 0 1099511627776 = true ∧ full es m n s = false := by
  cases hI : inI n 0 1099511627776 with
  | false => rw [(app_bad hI).1]; simp
  | true =>
    cases hf : full es m n s with
    | true => rw [(app_full hI hf).1]; simp
    | false =>
      by_cases hh : ix es n < es.length
      · rw [(app_old hI hf hh).1]; simp
      · rw [(app_new hI hf hh).1]; simp
theorem app_not {es : List Pap} {m n : Int} {s : ByteArray} (h : appE es m n s ≠ 0) : appL es m n s = es := by
  cases hI : inI n 0 1099511627776 with
  | false => exact (app_bad hI).2
  | true =>
    cases hf : full es m n s with
    | true => exact (app_full hI hf).2
    | false => exact absurd (app_ok.2 ⟨hI, hf⟩) h
theorem addP_size (e : Pap) (s : ByteArray) : (addP e s).text.size = e.text.size + s.size := by simp [addP]
theorem Tidy.app {m : Int} {es : List Pap} (h : Tidy m es) (n : Int) (s : ByteArray) : Tidy m (appL es m n s) := by
  by_cases he : appE es m n s = 0
  · obtain ⟨hI, hf⟩ := app_ok.1 he
    have hu := full_fits hf
    by_cases hh : ix es n < es.length
    · rw [(app_old hI hf hh).2]
      have hs := (h.each _ (pa_mem hh)).2
      have hz := addP_size (pa es (ix es n)) s
      exact h.set hh rfl (by omega) hs.1 (by have : (addP (pa es (ix es n)) s).sure = (pa es (ix es n)).sure := rfl; omega)
    · rw [(app_new hI hf hh).2]
      refine ⟨rise_ins (x := ⟨n, 0, s⟩) h.rise (not_there hh), ?_, ?_, ?_⟩
      · rw [insL_length (low_le _ _)]
        have := (full_not hf hh).2
        have := h.few
        omega
      · rw [used_ins]
        show ((used es + s.size : Nat) : Int) ≤ m
        omega
      · intro e q
        rcases mem_ins q with rfl | q
        · exact ⟨hI, by show (0 : Int) ≤ 0; omega, by show (0 : Int) ≤ (s.size : Int); omega⟩
        · exact h.each e q
  · rw [app_not he]; exact h
theorem fnd_app {m : Int} {es : List Pap} (h : Tidy m es) (n : Int) (s : ByteArray) (k : Int) : fnd (appL es m n s) k = if appE es m n s = 0 ∧ k = n then some (appP (fnd es n) n s) else fnd es k := by
  by_cases he : appE es m n s = 0
  · obtain ⟨hI, hf⟩ := app_ok.1 he
    by_cases hh : ix es n < es.length
    · rw [(app_old hI hf hh).2, fnd_set (x := addP (pa es (ix es n)) s) h.rise hh rfl, fnd_some hh]
      have : (addP (pa es (ix es n)) s).n = n := ix_at hh
      rw [this]
      simp [he, appP]
    · rw [(app_new hI hf hh).2, fnd_ins _ (x := ⟨n, 0, s⟩) (not_there hh), fnd_not hh]
      simp [he, appP]
  · rw [app_not he, if_neg (fun q => he q.1)]
/-- Cut -/
theorem cut_ok {es : List Pap} {n size : Int} : cutE es n size = 0 ↔ ix es n < es.length ∧ cutOk es n size = true := by
  unfold cutE
  by_cases h : ix es n < es.length
  · rw [if_pos h]
    cases cutOk es n size <;> simp [h]
  · rw [if_neg h]; simp [h]
theorem cut_is {es : List Pap} {n size : Int} (h : cutE es n size = 0) : cutL es n size = es.set (ix es n) (cutP (pa es (ix es n)) size.toNat) := by
  obtain ⟨h1, h2⟩ := cut_ok.1 h
  unfold cutL
  rw [if_pos h1, if_pos h2]
theorem cut_not {es : List Pap} {n size : Int} (h : cutE es n size ≠ 0) : cutL es n size = es := by
  unfold cutL
  by_cases h1 : ix es n < es.length
  · rw [if_pos h1]
    by_cases h2 : cutOk es n size = true
    · exact absurd (cut_ok.2 ⟨h1, h2⟩) h
    · rw [if_neg h2]
  · rw [if_neg h1]
theorem cutP_size {e : Pap} {k : Nat} (h : k ≤ e.text.size) : (cutP e k).text.size = k := ext_size _ _ h
theorem Tidy.cut {m : Int} {es : List Pap} (h : Tidy m es) (n size : Int) : Tidy m (cutL es n size) := by
  by_cases he : cutE es n size = 0
  · obtain ⟨h1, h2⟩ := cut_ok.1 he
    have hz : 0 ≤ size ∧ size ≤ ((pa es (ix es n)).text.size : Int) := by simpa [cutOk, inI] using h2
    have hq := cutP_size (e := pa es (ix es n)) (k := size.toNat) (by omega)
    have hf := h.fits
    rw [cut_is he]
    have hs : (cutP (pa es (ix es n)) size.toNat).sure = (size.toNat : Int) := rfl
    exact h.set h1 rfl (by omega) (by omega) (by omega)
  · rw [cut_not he]; exact h
theorem fnd_cut {m : Int} {es : List Pap} (h : Tidy m es) (n size : Int) (k : Int) : fnd (cutL es n size) k = if cutE es n size = 0 ∧ k = n then (fnd es n).map (cutP · size.toNat) else fnd es k := by
  by_cases he : cutE es n size = 0
  · obtain ⟨h1, h2⟩ := cut_ok.1 he
    rw [cut_is he, fnd_set (x := cutP (pa es (ix es n)) size.toNat) h.rise h1 rfl, fnd_some h1]
    have : (cutP (pa es (ix es n)) size.toNat).n = n := ix_at h1
    rw [this]
    simp [he]
  · rw [cut_not he, if_neg (fun q => he q.1)]
/-- Sync, Remove -/
theorem has_ok {es : List Pap} {n : Int} : hasE es n = 0 ↔ ix es n < es.length := by
  unfold hasE
  by_cases h : ix es n < es.length
  · rw [if_pos h]; simp [h]
  · rw [if_neg h]; simp [h]
def syncP (e : Pap) : Pap := { e with sure := (e.text.size : Int) }
theorem Tidy.sync {m : Int} {es : List Pap} (h : Tidy m es) (n : Int) : Tidy m (syncL es n) := by
  unfold syncL
  by_cases hh : ix es n < es.length
  · rw [if_pos hh]
    have hf := h.fits
    exact h.set hh rfl (by show (used es : Int) + ((pa es (ix es n)).text.size : Int) ≤ _; omega) (by show (0 : Int) ≤ ((pa es (ix es n)).text.size : Int); omega) (by show ((pa es (ix es n)).text.size : Int) ≤ ((pa es (ix es n)).text.size : Int); omega)
  · rw [if_neg hh]; exact h
theorem fnd_sync {m : Int} {es : List Pap} (h : Tidy m es) (n : Int) (k : Int) : fnd (syncL es n) k = if k = n then (fnd es n).map syncP else fnd es k := by
  unfold syncL
  by_cases hh : ix es n < es.length
  · rw [if_pos hh]
    show fnd (es.set (ix es n) (syncP (pa es (ix es n)))) k = _
    rw [fnd_set (x := syncP (pa es (ix es n))) h.rise hh rfl, fnd_some hh]
    have : (syncP (pa es (ix es n))).n = n := ix_at hh
    rw [this]
    rfl
  · rw [if_neg hh]
    by_cases hk : k = n
    · rw [if_pos hk, hk, fnd_not hh]; rfl
    · rw [if_neg hk]
theorem Tidy.rem {m : Int} {es : List Pap} (h : Tidy m es) (n : Int) : Tidy m (remL es n) := by
  unfold remL
  by_cases hh : ix es n < es.length
  · rw [if_pos hh]
    have hs := sub_del es (ix es n)
    refine ⟨List.Pairwise.sublist hs h.rise, ?_, ?_, fun e he => h.each e (hs.subset he)⟩
    · have := hs.length_le
      have := h.few
      omega
    · have := used_del hh
      have := h.fits
      omega
  · rw [if_neg hh]; exact h
theorem fnd_rem {m : Int} {es : List Pap} (h : Tidy m es) (n : Int) (k : Int) : fnd (remL es n) k = if k = n then none else fnd es k := by
  unfold remL
  by_cases hh : ix es n < es.length
  · rw [if_pos hh, fnd_del h.rise hh, ix_at hh]
  · rw [if_neg hh]
    by_cases hk : k = n
    · rw [if_pos hk, hk, fnd_not hh]
    · rw [if_neg hk]
/-- Crash -/
theorem stop_size (keep : Int) (e : Pap) : (stopP keep e).text.size = stopAt e keep := ext_size _ _ (stop_le e keep)
theorem used_stop (keep : Int) : ∀ es : List Pap, used (es.map (stopP keep)) ≤ used es
  | [] => by simp
  | e :: r => by
    rw [List.map_cons, used_cons, used_cons, stop_size]
    have := stop_le e keep
    have := used_stop keep r
    omega
theorem Tidy.stop {m : Int} {es : List Pap} (h : Tidy m es) (keep : Int) : Tidy m (es.map (stopP keep)) := by
  refine ⟨?_, by rw [List.length_map]; exact h.few, ?_, ?_⟩
  · unfold Rise
    rw [List.pairwise_map]
    exact h.rise
  · have := used_stop keep es
    have := h.fits
    omega
  · intro e he
    obtain ⟨x, hx, rfl⟩ := List.mem_map.1 he
    refine ⟨(h.each x hx).1, ?_, ?_⟩
    · show (0 : Int) ≤ (stopAt x keep : Int); omega
    · rw [stop_size]; show (stopAt x keep : Int) ≤ _; omega
theorem fnd_stop (es : List Pap) (keep : Int) (k : Int) : fnd (es.map (stopP keep)) k = (fnd es k).map (stopP keep) := fnd_map es (stopP keep) (fun _ => rfl) k
/-- List -/
theorem num_mem {es : List Pap} {k : Int} : k ∈ numL es ↔ (fnd es k).isSome = true := by
  unfold numL fnd
  rw [List.mem_map, List.find?_isSome]
  constructor
  · rintro ⟨e, he, rfl⟩; exact ⟨e, he, by simp⟩
  · rintro ⟨e, he, h⟩; exact ⟨e, he, by simpa using h⟩
theorem rise_same : ∀ (a b : List Int), a.Pairwise (· < ·) → b.Pairwise (· < ·) → (∀ k, k ∈ a ↔ k ∈ b) → a = b
  | [], [], _, _, _ => rfl
  | [], y :: b, _, _, h => absurd ((h y).2 (by simp)) (by simp)
  | x :: a, [], _, _, h => absurd ((h x).1 (by simp)) (by simp)
  | x :: a, y :: b, ha, hb, h => by
    have ha' := List.pairwise_cons.1 ha
    have hb' := List.pairwise_cons.1 hb
    have hxy : x = y := by
      rcases List.mem_cons.1 ((h x).1 (by simp)) with q | q
      · exact q
      · rcases List.mem_cons.1 ((h y).2 (by simp)) with p | p
        · exact p.symm
        · have := hb'.1 x q
          have := ha'.1 y p
          omega
    subst hxy
    have : a = b := rise_same a b ha'.2 hb'.2 (fun k => ⟨fun q => by
      rcases List.mem_cons.1 ((h k).1 (by simp [q])) with p | p
      · have := ha'.1 k q; omega
      · exact p, fun q => by
      rcases List.mem_cons.1 ((h k).2 (by simp [q])) with p | p
      · have := hb'.1 k q; omega
      · exact p⟩)
    rw [this]
theorem Tidy.list {m : Int} {es : List Pap} (h : Tidy m es) {l : List Int} (hl : l.Pairwise (· < ·)) (hm : ∀ k, k ∈ l ↔ (fnd es k).isSome = true) : l = numL es :=
  rise_same l _ hl ((rise_num es).1 h.rise) (fun k => by rw [hm, num_mem])
/-- Used, counted over the numbers in any order -/
def sizeAt (es : List Pap) (k : Int) : Nat := match fnd es k with
  | some e => e.text.size
  | none => 0
theorem used_sum : ∀ {es : List Pap}, Rise es → used es = ((numL es).map (sizeAt es)).sum
  | [], _ => by simp [used, numL]
  | e :: r, h => by
    have h' := List.pairwise_cons.1 h
    have ih := used_sum (es := r) h'.2
    have e1 : sizeAt (e :: r) e.n = e.text.size := by unfold sizeAt; rw [fnd_cons, if_pos rfl]
    have e2 : (numL r).map (sizeAt (e :: r)) = (numL r).map (sizeAt r) := by
      refine List.map_congr_left (fun k hk => ?_)
      have : e.n ≠ k := by
        obtain ⟨x, hx, rfl⟩ := List.mem_map.1 hk
        have := h'.1 x hx
        omega
      unfold sizeAt
      rw [fnd_cons, if_neg this]
    show used (e :: r) = ((e.n :: numL r).map (sizeAt (e :: r))).sum
    rw [List.map_cons, List.sum_cons, e1, e2, used_cons, ih]
    omega
theorem Tidy.used {m : Int} {es : List Pap} (h : Tidy m es) {l : List Int} (hl : l.Perm (numL es)) : (l.map (sizeAt es)).sum = used es := by
  rw [used_sum h.rise]
  exact (hl.map _).sum_nat
end Go.Proofs.YtmccpkpeimejhahGreatDoor.Dk

namespace Go.Proofs.YtmccpkpeimejhahGreatDoor.Dk
open Go.RowKit

/-- a number that fits in 64 bits -/
def wf (n : Int) : Prop := (Lit.int .i64 n).wf = true
theorem wf_low {n : Int} (h : 0 ≤ n ∧ n ≤ 1099511627776) : wf n := WalkArith.wf_i64 (by omega)
theorem wf_of {n : Int} (h : inI n 0 1099511627776 = true) : wf n := wf_low (by simpa [inI] using h)
/-- a call may have written the disk's own blocks F alone; it shows es' then, in blocks of its own or new ones -/
def Did (Has : World → Nat → Nat → (Nat → Prop) → Int → List Pap → Prop) (w w' : World) (B q : Nat) (F : Nat → Prop) (m : Int) (es' : List Pap) : Prop := ∃ F', Has w' B q F' m es' ∧ Chg F w w' ∧ ∀ k, F' k → F k ∨ w.heap.size ≤ k
/-- what is asked of the program's disk: Has w B q F m es says that at block q there is a disk of room m that shows the files es, in the blocks F -/
structure Works (Has : World → Nat → Nat → (Nat → Prop) → Int → List Pap → Prop) : Prop where
  own : ∀ {w B q F m es}, Has w B q F m es → ∀ k, F k → B ≤ k ∧ k < w.heap.size
  chg : ∀ {w w' B q F m es} {A : Nat → Prop}, Has w B q F m es → Chg A w w' → (∀ k, F k → ¬ A k) → Has w' B q F m es
  append : ∀ {w B q F m es} (n : Int) (s : ByteArray), Has w B q F m es → Tidy m es → m ≤ 65536 → s.size ≤ 140737488355328 → B ≤ w.heap.size →
    Calls Tryz.prog 87 #[.pointer (some ⟨q, 0, none⟩), .int .i64 n, .string s] w fun e w' => e = .returned (.int .i64 (appE es m n s)) ∧ Did Has w w' B q F m (appL es m n s)
  sync : ∀ {w B q F m es} (n : Int), wf n → Has w B q F m es → Tidy m es → m ≤ 65536 → B ≤ w.heap.size →
    Calls Tryz.prog 88 #[.pointer (some ⟨q, 0, none⟩), .int .i64 n] w fun e w' => e = .returned (.int .i64 (hasE es n)) ∧ Did Has w w' B q F m (syncL es n)
  remove : ∀ {w B q F m es} (n : Int), wf n → Has w B q F m es → Tidy m es → m ≤ 65536 → B ≤ w.heap.size →
    Calls Tryz.prog 125 #[.pointer (some ⟨q, 0, none⟩), .int .i64 n] w fun e w' => e = .returned (.int .i64 (hasE es n)) ∧ Did Has w w' B q F m (remL es n)
  crash : ∀ {w B q F m es} (keep : Int), Has w B q F m es → Tidy m es → m ≤ 65536 → B ≤ w.heap.size →
    Calls Tryz.prog 45 #[.pointer (some ⟨q, 0, none⟩), .int .i64 keep] w fun e w' => e = .returned (.tuple #[]) ∧ Did Has w w' B q F m (es.map (stopP keep))
  read : ∀ {w B q F m es} (n : Int), wf n → Has w B q F m es → Tidy m es → m ≤ 65536 → B ≤ w.heap.size →
    Calls Tryz.prog 92 #[.pointer (some ⟨q, 0, none⟩), .int .i64 n] w fun e w' => e = .returned (readV es n) ∧ Did Has w w' B q F m es
  used : ∀ {w B q F m es}, Has w B q F m es → Tidy m es → m ≤ 65536 → B ≤ w.heap.size →
    Calls Tryz.prog 140 #[.pointer (some ⟨q, 0, none⟩)] w fun e w' => e = .returned (.int .i64 (used es : Int)) ∧ Did Has w w' B q F m es
/-- what is asked of New -/
structure News (Has : World → Nat → Nat → (Nat → Prop) → Int → List Pap → Prop) : Prop where
  bad : ∀ (w : World) (m : Int), inI m 1 65536 = false → Calls Tryz.prog 30 #[.int .i64 m] w fun e w' => e = .returned (.tuple #[.pointer none, .int .i64 1]) ∧ Below w.heap.size w w'
  good : ∀ (w : World) (m : Int), inI m 1 65536 = true → Calls Tryz.prog 30 #[.int .i64 m] w fun e w' => ∃ q F, e = .returned (.tuple #[.pointer (some ⟨q, 0, none⟩), .int .i64 0]) ∧ Has w' w.heap.size q F m [] ∧ Below w.heap.size w w'
end Go.Proofs.YtmccpkpeimejhahGreatDoor.Dk

namespace Go.Proofs.YtmccpkpeimejhahGreatDoor.Dk
open Go.RowKit

/-- what is asked of a disk that is only looked at -/
structure Looks (Has : World → Nat → Nat → (Nat → Prop) → Int → List Pap → Prop) : Prop where
  own : ∀ {w B q F m es}, Has w B q F m es → ∀ k, F k → B ≤ k ∧ k < w.heap.size
  chg : ∀ {w w' B q F m es} {A : Nat → Prop}, Has w B q F m es → Chg A w w' → (∀ k, F k → ¬ A k) → Has w' B q F m es
  read : ∀ {w B q F m es} (n : Int), wf n → Has w B q F m es → Tidy m es → m ≤ 65536 → B ≤ w.heap.size →
    Calls Tryz.prog 92 #[.pointer (some ⟨q, 0, none⟩), .int .i64 n] w fun e w' => e = .returned (readV es n) ∧ Did Has w w' B q F m es
  used : ∀ {w B q F m es}, Has w B q F m es → Tidy m es → m ≤ 65536 → B ≤ w.heap.size →
    Calls Tryz.prog 140 #[.pointer (some ⟨q, 0, none⟩)] w fun e w' => e = .returned (.int .i64 (used es : Int)) ∧ Did Has w w' B q F m es
  list : ∀ {w B q F m es}, Has w B q F m es → Tidy m es → m ≤ 65536 → B ≤ w.heap.size →
    Calls Tryz.prog 91 #[.pointer (some ⟨q, 0, none⟩)] w fun e w' => ∃ a c, e = .returned (.slice a es.length c) ∧ SlI w' a (numL es) ∧ Did Has w w' B q F m es
/-- what is asked of the program's disk, Cut and List too -/
structure More (Has : World → Nat → Nat → (Nat → Prop) → Int → List Pap → Prop) : Prop where
  works : Works Has
  cut : ∀ {w B q F m es} (n size : Int), wf n → Has w B q F m es → Tidy m es → m ≤ 65536 → B ≤ w.heap.size →
    Calls Tryz.prog 95 #[.pointer (some ⟨q, 0, none⟩), .int .i64 n, .int .i64 size] w fun e w' => e = .returned (.int .i64 (cutE es n size)) ∧ Did Has w w' B q F m (cutL es n size)
  list : ∀ {w B q F m es}, Has w B q F m es → Tidy m es → m ≤ 65536 → B ≤ w.heap.size →
    Calls Tryz.prog 91 #[.pointer (some ⟨q, 0, none⟩)] w fun e w' => ∃ a c, e = .returned (.slice a es.length c) ∧ SlI w' a (numL es) ∧ Did Has w w' B q F m es
theorem More.looks {Has : World → Nat → Nat → (Nat → Prop) → Int → List Pap → Prop} (H : More Has) : Looks Has := ⟨H.works.own, H.works.chg, H.works.read, H.works.used, H.list⟩
end Go.Proofs.YtmccpkpeimejhahGreatDoor.Dk

namespace Go.Proofs.YtmccpkpeimejhahGreatDoor.Pk

/-- the byte at a place, 0 behind the end -/
def at' (l : List UInt8) (k : Nat) : Nat := (l[k]?.getD 0).toNat
theorem at_lt (l : List UInt8) (k : Nat) : at' l k < 256 := UInt8.toNat_lt _
theorem at_zero (c : UInt8) (l : List UInt8) : at' (c :: l) 0 = c.toNat := rfl
theorem at_succ (c : UInt8) (l : List UInt8) (k : Nat) : at' (c :: l) (k + 1) = at' l k := rfl
theorem at_append_left {l m : List UInt8} {k : Nat} (h : k < l.length) : at' (l ++ m) k = at' l k := by
  unfold at'; rw [List.getElem?_append_left h]
theorem at_get {l : List UInt8} {k : Nat} (h : k < l.length) : at' l k = (l[k]).toNat := by
  unfold at'; rw [List.getElem?_eq_getElem h]; rfl
theorem at_take {l : List UInt8} {k i : Nat} (h : k < i) : at' (l.take i) k = at' l k := by
  unfold at'; rw [List.getElem?_take_of_lt h]

/-- a number's bytes -/
def enc (n : Nat) : List UInt8 := if n < 128 then [UInt8.ofNat n] else UInt8.ofNat (128 + n % 128) :: enc (n / 128)
theorem enc_small {n : Nat} (h : n < 128) : enc n = [UInt8.ofNat n] := by rw [enc, if_pos h]
theorem enc_large {n : Nat} (h : ¬ n < 128) : enc n = UInt8.ofNat (128 + n % 128) :: enc (n / 128) := by rw [enc, if_neg h]
theorem u8_of {n : Nat} (h : n < 256) : (UInt8.ofNat n).toNat = n := by simp; omega
theorem enc_pos (n : Nat) : 1 ≤ (enc n).length := by
  by_cases h : n < 128
  · rw [enc_small h]; simp
  · rw [enc_large h]; simp
theorem enc_short : ∀ (m : Nat) {n : Nat}, n < 128 ^ (m + 1) → (enc n).length ≤ m + 1
  | 0, n, h => by rw [enc_small (by simpa using h)]; simp
  | m + 1, n, h => by
    by_cases hs : n < 128
    · rw [enc_small hs]; simp
    · rw [enc_large hs, List.length_cons]
      have : n / 128 < 128 ^ (m + 1) := by rw [Nat.div_lt_iff_lt_mul (by decide)]; rw [Nat.pow_succ] at h; exact h
      have := enc_short m this
      omega
theorem enc_nine {n : Nat} (h : n < 9223372036854775808) : (enc n).length ≤ 9 := enc_short 8 (by simpa using h)

/-- how many bytes at the front go on, at most m -/
def lead : List UInt8 → Nat → Nat
  | [], _ => 0
  | _ :: _, 0 => 0
  | c :: r, m + 1 => if c.toNat < 128 then 0 else lead r m + 1
theorem lead_eq : ∀ {l : List UInt8} {m k : Nat}, k ≤ m → k ≤ l.length → (∀ j, j < k → 128 ≤ at' l j) → (k = m ∨ k = l.length ∨ at' l k < 128) → lead l m = k
  | [], m, k, _, h2, _, _ => by simp at h2; subst h2; simp [lead]
  | c :: r, 0, k, h1, _, _, _ => by simp at h1; subst h1; simp [lead]
  | c :: r, m + 1, 0, _, _, _, h => by
    rcases h with h | h | h
    · cases h
    · simp at h
    · rw [at_zero] at h; simp [lead, h]
  | c :: r, m + 1, k + 1, h1, h2, h3, h4 => by
    have h0 := h3 0 (by omega)
    rw [at_zero] at h0
    have e := lead_eq (l := r) (m := m) (k := k) (by omega) (by simpa using h2) (fun j hj => by have := h3 (j + 1) (by omega); rwa [at_succ] at this) (by
      rcases h4 with h | h | h
      · exact .inl (by omega)
      · exact .inr (.inl (by simpa using h))
      · exact .inr (.inr (by rwa [at_succ] at h)))
    simp [lead, e]; omega
theorem lead_le : ∀ (l : List UInt8) (m : Nat), lead l m ≤ m ∧ lead l m ≤ l.length
  | [], m => by simp [lead]
  | _ :: _, 0 => by simp [lead]
  | c :: r, m + 1 => by
    have := lead_le r m
    unfold lead; split <;> simp <;> omega
theorem lead_big : ∀ {l : List UInt8} {m j : Nat}, j < lead l m → 128 ≤ at' l j
  | [], m, j, h => by simp [lead] at h
  | _ :: _, 0, j, h => by simp [lead] at h
  | c :: r, m + 1, j, h => by
    unfold lead at h
    split at h
    · omega
    · cases j with
      | zero => rw [at_zero]; omega
      | succ j => rw [at_succ]; exact lead_big (m := m) (by omega)
theorem lead_stop : ∀ {l : List UInt8} {m : Nat}, lead l m < m → lead l m < l.length → at' l (lead l m) < 128
  | [], m, _, h => by simp [lead] at h
  | _ :: _, 0, h, _ => by simp [lead] at h
  | c :: r, m + 1, h1, h2 => by
    unfold lead at h1 h2 ⊢
    split
    · rw [at_zero]; assumption
    · rw [at_succ]
      rename_i hc
      rw [if_neg hc] at h1 h2
      exact lead_stop (by omega) (by simpa using h2)

/-- the value of m groups from place i on -/
def val (l : List UInt8) (i : Nat) : Nat → Nat
  | 0 => 0
  | m + 1 => at' l i % 128 + 128 * val l (i + 1) m
theorem val_succ (l : List UInt8) (i m : Nat) : val l i (m + 1) = at' l i % 128 + 128 * val l (i + 1) m := rfl
theorem val_shift (c : UInt8) (l : List UInt8) : ∀ (m i : Nat), val (c :: l) (i + 1) m = val l i m
  | 0, _ => rfl
  | m + 1, i => by rw [val_succ, val_succ, at_succ, val_shift c l m (i + 1)]
theorem val_last (l : List UInt8) : ∀ (m i : Nat), val l i (m + 1) = val l i m + 128 ^ m * (at' l (i + m) % 128)
  | 0, i => by simp [val]
  | m + 1, i => by
    rw [val_succ, val_last l m (i + 1), val_succ, Nat.pow_succ, Nat.mul_add, ← Nat.add_assoc]
    rw [show i + 1 + m = i + (m + 1) from by omega, Nat.mul_comm (128 ^ m) 128, Nat.mul_assoc]
theorem val_lt (l : List UInt8) : ∀ (m i : Nat), val l i m < 128 ^ m
  | 0, _ => by simp [val]
  | m + 1, i => by
    have := val_lt l m (i + 1)
    rw [val_succ, Nat.pow_succ]
    have := Nat.mod_lt (at' l i) (show 0 < 128 by decide)
    omega

/-- ReadNumber: the number, how many bytes, the error -/
def rd (l : List UInt8) : Nat × Nat × Nat :=
  if lead l 9 = 9 then (0, 0, 7) else if lead l 9 = l.length then (0, 0, 6) else if 0 < lead l 9 ∧ at' l (lead l 9) = 0 then (0, 0, 7)
  else (val l 0 (lead l 9 + 1), lead l 9 + 1, 0)

theorem lead_enc (more : List UInt8) (n : Nat) : ∀ m, (enc n).length ≤ m → lead (enc n ++ more) m = (enc n).length - 1 := by
  induction n using Nat.strongRecOn with
  | _ n ih =>
    intro m hm
    by_cases hs : n < 128
    · rw [enc_small hs] at hm ⊢
      obtain ⟨m, rfl⟩ : ∃ k, m = k + 1 := ⟨m - 1, by simp at hm; omega⟩
      simp [lead]; omega
    · rw [enc_large hs] at hm ⊢
      obtain ⟨m, rfl⟩ : ∃ k, m = k + 1 := ⟨m - 1, by simp at hm; omega⟩
      have e := ih (n / 128) (by omega) m (by simpa using hm)
      have p := enc_pos (n / 128)
      rw [List.cons_append, lead, u8_of (by omega), if_neg (by omega), e, List.length_cons]
      omega
theorem val_enc (more : List UInt8) (n : Nat) : val (enc n ++ more) 0 (enc n).length = n := by
  induction n using Nat.strongRecOn with
  | _ n ih =>
    by_cases hs : n < 128
    · rw [enc_small hs]
      simp [val, at']; omega
    · have e := ih (n / 128) (by omega)
      rw [enc_large hs, List.cons_append, List.length_cons, val_succ, val_shift, e, at_zero, u8_of (by omega)]
      omega
theorem last_enc (more : List UInt8) (n : Nat) : 0 < n → at' (enc n ++ more) ((enc n).length - 1) ≠ 0 := by
  induction n using Nat.strongRecOn with
  | _ n ih =>
    intro h0
    by_cases hs : n < 128
    · rw [enc_small hs]
      simp [at']; omega
    · have e := ih (n / 128) (by omega) (by omega)
      have p := enc_pos (n / 128)
      rw [enc_large hs, List.cons_append, List.length_cons]
      rw [show (enc (n / 128)).length + 1 - 1 = ((enc (n / 128)).length - 1) + 1 from by omega, at_succ]
      exact e
theorem rd_enc {n : Nat} (h : n < 9223372036854775808) (more : List UInt8) : rd (enc n ++ more) = (n, (enc n).length, 0) := by
  have h9 := enc_nine h
  have p := enc_pos n
  have e := lead_enc more n 9 h9
  unfold rd
  rw [e, if_neg (by omega), if_neg (by simp; omega), if_neg]
  · rw [show (enc n).length - 1 + 1 = (enc n).length from by omega, val_enc]
  · rintro ⟨h1, h2⟩
    by_cases hn : 0 < n
    · exact last_enc more n hn h2
    · rw [enc_small (by omega)] at h1
      simp at h1
theorem rd_front {n i : Nat} (h : n < 9223372036854775808) (hi : i < (enc n).length) (more : List UInt8) : rd ((enc n ++ more).take i) = (0, 0, 6) := by
  have h9 := enc_nine h
  have e0 := lead_enc more n 9 h9
  have hl : ((enc n ++ more).take i).length = i := by simp; omega
  have e : lead ((enc n ++ more).take i) 9 = i := lead_eq (by omega) (by omega) (fun j hj => by rw [at_take hj]; exact lead_big (m := 9) (by omega)) (.inr (.inl hl.symm))
  unfold rd
  rw [e, hl, if_neg (by omega), if_pos rfl]
theorem enc_val : ∀ (k : Nat) {l : List UInt8}, k < l.length → (∀ j, j < k → 128 ≤ at' l j) → at' l k < 128 → (k = 0 ∨ at' l k ≠ 0) → enc (val l 0 (k + 1)) = l.take (k + 1)
  | k, [], h, _, _, _ => by simp at h
  | 0, c :: r, _, _, h2, _ => by
    rw [at_zero] at h2
    rw [val_succ, at_zero, val, enc_small (by omega)]
    simp [Nat.mod_eq_of_lt h2]
  | k + 1, c :: r, h0, h1, h2, h3 => by
    rw [at_succ] at h2 h3
    have hne : at' r k ≠ 0 := by omega
    have e := enc_val k (l := r) (by simpa using h0) (fun j hj => by have := h1 (j + 1) (by omega); rwa [at_succ] at this) h2 (.inr hne)
    have hc := h1 0 (by omega)
    rw [at_zero] at hc
    have hcl := UInt8.toNat_lt c
    have hp : 0 < val r 0 (k + 1) := by
      rw [val_last, Nat.zero_add, Nat.mod_eq_of_lt h2]
      have := Nat.mul_pos (show 0 < 128 ^ k from Nat.pow_pos (by decide)) (show 0 < at' r k by omega)
      omega
    rw [val_succ, val_shift, at_zero, enc_large (by omega)]
    rw [show (c.toNat % 128 + 128 * val r 0 (k + 1)) / 128 = val r 0 (k + 1) from by omega, e]
    rw [show 128 + (c.toNat % 128 + 128 * val r 0 (k + 1)) % 128 = c.toNat from by omega]
    simp
theorem rd_bad {l : List UInt8} (h : (rd l).2.2 ≠ 0) : (rd l).1 = 0 ∧ (rd l).2.1 = 0 := by
  unfold rd at h ⊢
  split
  · exact ⟨rfl, rfl⟩
  split
  · exact ⟨rfl, rfl⟩
  split
  · exact ⟨rfl, rfl⟩
  · rename_i h1 h2 h3
    rw [if_neg h1, if_neg h2, if_neg h3] at h
    exact absurd rfl h
theorem rd_good {l : List UInt8} (h : (rd l).2.2 = 0) : enc (rd l).1 = l.take (rd l).2.1 ∧ (rd l).2.1 ≤ l.length ∧ (rd l).1 < 9223372036854775808 ∧ 1 ≤ (rd l).2.1 ∧ (rd l).2.1 ≤ 9 := by
  have hl := lead_le l 9
  unfold rd at h ⊢
  split
  · rename_i h1; rw [if_pos h1] at h; cases h
  rename_i h1
  rw [if_neg h1] at h
  split
  · rename_i h2; rw [if_pos h2] at h; cases h
  rename_i h2
  rw [if_neg h2] at h
  split
  · rename_i h3; rw [if_pos h3] at h; cases h
  rename_i h3
  refine ⟨enc_val _ (by omega) (fun j hj => lead_big hj) (lead_stop (by omega) (by omega)) (by omega), by show lead l 9 + 1 ≤ _; omega, ?_, by show 1 ≤ lead l 9 + 1; omega, by show lead l 9 + 1 ≤ 9; omega⟩
  refine Nat.lt_of_lt_of_le (val_lt l _ 0) ?_
  exact Nat.le_trans (Nat.pow_le_pow_right (by decide) (show lead l 9 + 1 ≤ 9 by omega)) (by decide)

/-- ReadText: the text, how many bytes, the error -/
def rt (l : List UInt8) (most : Int) : List UInt8 × Nat × Nat :=
  if (rd l).2.2 ≠ 0 then ([], 0, (rd l).2.2) else if most < (rd l).1 then ([], 0, 7) else if l.length < (rd l).2.1 + (rd l).1 then ([], 0, 6)
  else ((l.drop (rd l).2.1).take (rd l).1, (rd l).2.1 + (rd l).1, 0)
def txt (t : List UInt8) : List UInt8 := enc t.length ++ t
theorem rt_txt {t : List UInt8} (h : t.length < 9223372036854775808) (more : List UInt8) : rt (txt t ++ more) t.length = (t, (txt t).length, 0) := by
  unfold rt txt
  rw [List.append_assoc, rd_enc h]
  simp only []
  rw [if_neg (by simp), if_neg (by omega), if_neg (by simp)]
  simp
theorem rt_front {t : List UInt8} {i : Nat} (h : t.length < 9223372036854775808) (hi : i < (txt t).length) : (rt ((txt t).take i) t.length).2.2 = 6 := by
  unfold rt
  by_cases hl : i < (enc t.length).length
  · unfold txt
    rw [rd_front h hl]
    rfl
  · have e : (txt t).take i = enc t.length ++ t.take (i - (enc t.length).length) := by
      unfold txt
      rw [List.take_append, List.take_of_length_le (by omega)]
    have hi' := hi
    unfold txt at hi'
    rw [List.length_append] at hi'
    rw [e, rd_enc h]
    simp only []
    rw [if_neg (by simp), if_neg (by omega), if_pos (by simp; omega)]

/-! sums -/
def Z (r : Nat) : Nat := (r / 2) ^^^ (if r % 2 = 1 then 3988292384 else 0)
theorem Z_lt {r : Nat} (h : r < 4294967296) : Z r < 4294967296 := by
  unfold Z
  exact Nat.xor_lt_two_pow (n := 32) (by omega) (by split <;> decide)
theorem xor_half (a b : Nat) : (a ^^^ b) / 2 = a / 2 ^^^ b / 2 := by
  apply Nat.eq_of_testBit_eq
  intro i
  simp [Nat.testBit_div_two]
theorem xor_odd (a b : Nat) : (a ^^^ b) % 2 = (a % 2 + b % 2) % 2 := by
  have := Nat.testBit_xor a b 0
  simp only [Nat.testBit_zero] at this
  have ha : a % 2 = 0 ∨ a % 2 = 1 := by omega
  have hb : b % 2 = 0 ∨ b % 2 = 1 := by omega
  have hc : (a ^^^ b) % 2 = 0 ∨ (a ^^^ b) % 2 = 1 := by omega
  rcases ha with ha | ha <;> rcases hb with hb | hb <;> rcases hc with hc | hc <;> simp [ha, hb, hc] at this ⊢
theorem Z_xor (a b : Nat) : Z (a ^^^ b) = Z a ^^^ Z b := by
  unfold Z
  rw [xor_half, xor_odd]
  have ha : a % 2 = 0 ∨ a % 2 = 1 := by omega
  have hb : b % 2 = 0 ∨ b % 2 = 1 := by omega
  rcases ha with ha | ha <;> rcases hb with hb | hb <;> simp only [ha, hb]
  · simp
  · simp [Nat.xor_assoc]
  · simp only [Nat.zero_ne_one, ↓reduceIte, Nat.xor_zero]
    ac_rfl
  · simp only [Nat.reduceAdd, Nat.reduceMod, Nat.zero_ne_one, ↓reduceIte, Nat.xor_zero]
    rw [show a / 2 ^^^ 3988292384 ^^^ (b / 2 ^^^ 3988292384) = (a / 2 ^^^ b / 2) ^^^ (3988292384 ^^^ 3988292384) from by ac_rfl, Nat.xor_self, Nat.xor_zero]
theorem Z_zero {r : Nat} (hr : r < 4294967296) (h : Z r = 0) : r = 0 := by
  unfold Z at h
  by_cases ho : r % 2 = 1
  · rw [if_pos ho] at h
    have hb := congrArg (fun n => n.testBit 31) h
    simp only [Nat.testBit_xor, Nat.zero_testBit] at hb
    rw [Nat.testBit_lt_two_pow (show r / 2 < 2 ^ 31 by omega)] at hb
    exact absurd hb (by decide)
  · rw [if_neg ho, Nat.xor_zero] at h
    omega
/-- the register behind n bits -/
def reg (f : Nat → Nat) : Nat → Nat
  | 0 => 4294967295
  | n + 1 => Z (reg f n ^^^ f n)
def bitAt (l : List UInt8) (j : Nat) : Nat := at' l (j / 8) / 2 ^ (j % 8) % 2
theorem bitAt_lt (l : List UInt8) (j : Nat) : bitAt l j < 2 := Nat.mod_lt _ (by decide)
theorem reg_lt {f : Nat → Nat} (hf : ∀ j, f j < 2) : ∀ n, reg f n < 4294967296
  | 0 => by show 4294967295 < 4294967296; decide
  | n + 1 => Z_lt (Nat.xor_lt_two_pow (n := 32) (reg_lt hf n) (by have := hf n; omega))
def crc (l : List UInt8) : Nat := 4294967295 - reg (bitAt l) (8 * l.length)

theorem xor_eq_zero {a b : Nat} (h : a ^^^ b = 0) : a = b := by
  have := congrArg (· ^^^ b) h
  simpa [Nat.xor_assoc] using this
theorem diff_step {f g : Nat → Nat} (n : Nat) : reg f (n + 1) ^^^ reg g (n + 1) = Z ((reg f n ^^^ reg g n) ^^^ (f n ^^^ g n)) := by
  show Z (reg f n ^^^ f n) ^^^ Z (reg g n ^^^ g n) = _
  rw [← Z_xor]
  congr 1
  ac_rfl
def Zs : Nat → Nat → Nat
  | 0, r => r
  | n + 1, r => Z (Zs n r)
theorem Zs_lt {r : Nat} (h : r < 4294967296) : ∀ n, Zs n r < 4294967296
  | 0 => h
  | n + 1 => Z_lt (Zs_lt h n)
theorem Zs_ne {r : Nat} (h : r < 4294967296) (h0 : r ≠ 0) : ∀ n, Zs n r ≠ 0
  | 0 => h0
  | n + 1 => fun e => Zs_ne h h0 n (Z_zero (Zs_lt h n) e)
/-- PETERSON, BROWN: a burst of at most 32 bits is told -/
theorem burst {f g : Nat → Nat} (hf : ∀ j, f j < 2) (hg : ∀ j, g j < 2) {k turn : Nat} (ht : turn < 4294967296) (h0 : turn ≠ 0)
    (h : ∀ j, f j ^^^ g j = if k ≤ j ∧ j < k + 32 then turn / 2 ^ (j - k) % 2 else 0) {N : Nat} (hN : k + 32 ≤ N) : reg f N ≠ reg g N := by
  have hpre : ∀ n, n ≤ k → reg f n ^^^ reg g n = 0 := by
    intro n
    induction n with
    | zero => intro _; simp [reg]
    | succ n ih =>
      intro hn
      rw [diff_step, ih (by omega), h, if_neg (by omega)]
      rfl
  have hmid : ∀ i, i ≤ 32 → (reg f (k + i) ^^^ reg g (k + i)) ^^^ (turn / 2 ^ i) = Zs i turn := by
    intro i
    induction i with
    | zero => intro _; rw [Nat.add_zero, hpre k (Nat.le_refl _)]; simp [Zs]
    | succ i ih =>
      intro hi
      have e := ih (by omega)
      rw [← Nat.add_assoc, diff_step, h, if_pos (by omega), show k + i - k = i from by omega, Zs, ← e]
      have hd : turn / 2 ^ (i + 1) = turn / 2 ^ i / 2 := by rw [Nat.pow_succ, Nat.div_div_eq_div_mul]
      have hz : ∀ x, Z x = Z (x % 2) ^^^ (x / 2) := by
        intro x
        unfold Z
        have : x % 2 / 2 = 0 := by omega
        rw [this, Nat.zero_xor, Nat.mod_mod, Nat.xor_comm]
      rw [Z_xor, Z_xor (reg f (k + i) ^^^ reg g (k + i)), hd, hz (turn / 2 ^ i)]
      ac_rfl
  have hend : ∀ n, reg f (k + 32 + n) ^^^ reg g (k + 32 + n) ≠ 0 := by
    intro n
    induction n with
    | zero =>
      have e := hmid 32 (Nat.le_refl _)
      rw [Nat.div_eq_of_lt (show turn < 2 ^ 32 by omega), Nat.xor_zero] at e
      rw [Nat.add_zero, e]
      exact Zs_ne ht h0 32
    | succ n ih =>
      intro e
      rw [← Nat.add_assoc, diff_step, h, if_neg (by omega), Nat.xor_zero] at e
      exact ih (Z_zero (Nat.xor_lt_two_pow (n := 32) (reg_lt hf _) (reg_lt hg _)) e)
  intro e
  have := hend (N - (k + 32))
  rw [show k + 32 + (N - (k + 32)) = N from by omega, e, Nat.xor_self] at this
  exact this rfl
end Go.Proofs.YtmccpkpeimejhahGreatDoor.Pk
