/-
  What every call of the document's disk keeps, and what it does to the map from numbers to files. No walk.
-/
import Derived.Test.YtbejicpfhnfnfabPapL
namespace Go.Proofs.Ytbejicpfhnfnfab.Dk
open Go.RowKit

/-- a disk of the document, whatever was called -/
structure Tidy (m : Int) (es : List Pap) : Prop where
  rise : Rise es
  few : es.length ≤ 20
  fits : (used es : Int) ≤ m
  each : ∀ e ∈ es, inI e.n 0 1099511627776 = true ∧ 0 ≤ e.sure ∧ e.sure ≤ (e.text.size : Int)
theorem Tidy.nil {m : Int} (h : 0 ≤ m) : Tidy m [] := ⟨List.Pairwise.nil, by simp, by simpa [used] using h, fun e he => by simp at he⟩
theorem used_mem {es : List Pap} {e : Pap} (h : e ∈ es) : e.text.size ≤ used es := by
  induction es with
  | nil => simp at h
  | cons x r ih =>
    rw [used_cons]
    rcases List.mem_cons.1 h with rfl | h
    · omega
    · have := ih h; omega
theorem Tidy.sound {m : Int} {es : List Pap} (h : Tidy m es) (hm : m ≤ 1000000) : ∀ e ∈ es, Sound e := fun e he => ⟨(h.each e he).2.1, (h.each e he).2.2, by have := used_mem he; have := h.fits; omega⟩
theorem Tidy.set {m : Int} {es : List Pap} (h : Tidy m es) {i : Nat} (hi : i < es.length) {x : Pap} (hx : x.n = (pa es i).n) (hu : (used es : Int) + (x.text.size : Int) ≤ m + ((pa es i).text.size : Int)) (h0 : 0 ≤ x.sure) (h1 : x.sure ≤ (x.text.size : Int)) : Tidy m (es.set i x) := by
  refine ⟨?_, by rw [List.length_set]; exact h.few, ?_, ?_⟩
  · rw [rise_num, numL_set hi hx, ← rise_num]; exact h.rise
  · have := used_set hi x
    omega
  · intro e he
    rcases List.mem_or_eq_of_mem_set he with q | q
    · exact h.each e q
    · subst q
      refine ⟨?_, h0, h1⟩
      rw [hx]
      exact (h.each _ (pa_mem hi)).1
/-- Append -/
def appP (o : Option Pap) (n : Int) (s : ByteArray) : Pap := match o with
  | some e => addP e s
  | none => ⟨n, 0, s⟩
theorem full_fits {es : List Pap} {m n : Int} {s : ByteArray} (h : full es m n s = false) : (s.size : Int) + (used es : Int) ≤ m := by
  unfold full at h
  simp only [Bool.or_eq_false_iff, decide_eq_false_iff_not] at h
  omega
theorem app_ok {es : List Pap} {m n : Int} {s : ByteArray} : appE es m n s = 0 ↔ inI n 0 1099511627776 = true ∧ full es m n s = false := by
  cases hI : inI n 0 1099511627776 with
  | false => rw [(app_bad hI).1]; simp
  | true =>
    cases hf : full es m n s with
    | true => rw [(app_full hI hf).1]; simp
    | false =>
      by_cases hh : ix es n < es.length
      · rw [(app_old hI hf hh).1]; simp
      · rw [(app_new hI hf hh).1]; simp
theorem app_not {es : List Pap} {m n : Int} {s : ByteArray} (h : appE es m n s ≠ 0) : appL es m n s = es := by
  cases hI : inI n 0 1099511627776 with
  | false => exact (app_bad hI).2
  | true =>
    cases hf : full es m n s with
    | true => exact (app_full hI hf).2
    | false => exact absurd (app_ok.2 ⟨hI, hf⟩) h
theorem addP_size (e : Pap) (s : ByteArray) : (addP e s).text.size = e.text.size + s.size := by simp [addP]
theorem Tidy.app {m : Int} {es : List Pap} (h : Tidy m es) (n : Int) (s : ByteArray) : Tidy m (appL es m n s) := by
  by_cases he : appE es m n s = 0
  · obtain ⟨hI, hf⟩ := app_ok.1 he
    have hu := full_fits hf
    by_cases hh : ix es n < es.length
    · rw [(app_old hI hf hh).2]
      have hs := (h.each _ (pa_mem hh)).2
      have hz := addP_size (pa es (ix es n)) s
      exact h.set hh rfl (by omega) hs.1 (by have : (addP (pa es (ix es n)) s).sure = (pa es (ix es n)).sure := rfl; omega)
    · rw [(app_new hI hf hh).2]
      refine ⟨rise_ins (x := ⟨n, 0, s⟩) h.rise (not_there hh), ?_, ?_, ?_⟩
      · rw [insL_length (low_le _ _)]
        have := (full_not hf hh).2
        have := h.few
        omega
      · rw [used_ins]
        show ((used es + s.size : Nat) : Int) ≤ m
        omega
      · intro e q
        rcases mem_ins q with rfl | q
        · exact ⟨hI, by show (0 : Int) ≤ 0; omega, by show (0 : Int) ≤ (s.size : Int); omega⟩
        · exact h.each e q
  · rw [app_not he]; exact h
theorem fnd_app {m : Int} {es : List Pap} (h : Tidy m es) (n : Int) (s : ByteArray) (k : Int) : fnd (appL es m n s) k = if appE es m n s = 0 ∧ k = n then some (appP (fnd es n) n s) else fnd es k := by
  by_cases he : appE es m n s = 0
  · obtain ⟨hI, hf⟩ := app_ok.1 he
    by_cases hh : ix es n < es.length
    · rw [(app_old hI hf hh).2, fnd_set (x := addP (pa es (ix es n)) s) h.rise hh rfl, fnd_some hh]
      have : (addP (pa es (ix es n)) s).n = n := ix_at hh
      rw [this]
      simp [he, appP]
    · rw [(app_new hI hf hh).2, fnd_ins _ (x := ⟨n, 0, s⟩) (not_there hh), fnd_not hh]
      simp [he, appP]
  · rw [app_not he, if_neg (fun q => he q.1)]
/-- Cut -/
theorem cut_ok {es : List Pap} {n size : Int} : cutE es n size = 0 ↔ ix es n < es.length ∧ cutOk es n size = true := by
  unfold cutE
  by_cases h : ix es n < es.length
  · rw [if_pos h]
    cases cutOk es n size <;> simp [h]
  · rw [if_neg h]; simp [h]
theorem cut_is {es : List Pap} {n size : Int} (h : cutE es n size = 0) : cutL es n size = es.set (ix es n) (cutP (pa es (ix es n)) size.toNat) := by
  obtain ⟨h1, h2⟩ := cut_ok.1 h
  unfold cutL
  rw [if_pos h1, if_pos h2]
theorem cut_not {es : List Pap} {n size : Int} (h : cutE es n size ≠ 0) : cutL es n size = es := by
  unfold cutL
  by_cases h1 : ix es n < es.length
  · rw [if_pos h1]
    by_cases h2 : cutOk es n size = true
    · exact absurd (cut_ok.2 ⟨h1, h2⟩) h
    · rw [if_neg h2]
  · rw [if_neg h1]
theorem cutP_size {e : Pap} {k : Nat} (h : k ≤ e.text.size) : (cutP e k).text.size = k := ext_size _ _ h
theorem Tidy.cut {m : Int} {es : List Pap} (h : Tidy m es) (n size : Int) : Tidy m (cutL es n size) := by
  by_cases he : cutE es n size = 0
  · obtain ⟨h1, h2⟩ := cut_ok.1 he
    have hz : 0 ≤ size ∧ size ≤ ((pa es (ix es n)).text.size : Int) := by simpa [cutOk, inI] using h2
    have hq := cutP_size (e := pa es (ix es n)) (k := size.toNat) (by omega)
    have hf := h.fits
    rw [cut_is he]
    have hs : (cutP (pa es (ix es n)) size.toNat).sure = (size.toNat : Int) := rfl
    exact h.set h1 rfl (by omega) (by omega) (by omega)
  · rw [cut_not he]; exact h
theorem fnd_cut {m : Int} {es : List Pap} (h : Tidy m es) (n size : Int) (k : Int) : fnd (cutL es n size) k = if cutE es n size = 0 ∧ k = n then (fnd es n).map (cutP · size.toNat) else fnd es k := by
  by_cases he : cutE es n size = 0
  · obtain ⟨h1, h2⟩ := cut_ok.1 he
    rw [cut_is he, fnd_set (x := cutP (pa es (ix es n)) size.toNat) h.rise h1 rfl, fnd_some h1]
    have : (cutP (pa es (ix es n)) size.toNat).n = n := ix_at h1
    rw [this]
    simp [he]
  · rw [cut_not he, if_neg (fun q => he q.1)]
/-- Sync, Remove -/
theorem has_ok {es : List Pap} {n : Int} : hasE es n = 0 ↔ ix es n < es.length := by
  unfold hasE
  by_cases h : ix es n < es.length
  · rw [if_pos h]; simp [h]
  · rw [if_neg h]; simp [h]
def syncP (e : Pap) : Pap := { e with sure := (e.text.size : Int) }
theorem Tidy.sync {m : Int} {es : List Pap} (h : Tidy m es) (n : Int) : Tidy m (syncL es n) := by
  unfold syncL
  by_cases hh : ix es n < es.length
  · rw [if_pos hh]
    have hf := h.fits
    exact h.set hh rfl (by show (used es : Int) + ((pa es (ix es n)).text.size : Int) ≤ _; omega) (by show (0 : Int) ≤ ((pa es (ix es n)).text.size : Int); omega) (by show ((pa es (ix es n)).text.size : Int) ≤ ((pa es (ix es n)).text.size : Int); omega)
  · rw [if_neg hh]; exact h
theorem fnd_sync {m : Int} {es : List Pap} (h : Tidy m es) (n : Int) (k : Int) : fnd (syncL es n) k = if k = n then (fnd es n).map syncP else fnd es k := by
  unfold syncL
  by_cases hh : ix es n < es.length
  · rw [if_pos hh]
    show fnd (es.set (ix es n) (syncP (pa es (ix es n)))) k = _
    rw [fnd_set (x := syncP (pa es (ix es n))) h.rise hh rfl, fnd_some hh]
    have : (syncP (pa es (ix es n))).n = n := ix_at hh
    rw [this]
    rfl
  · rw [if_neg hh]
    by_cases hk : k = n
    · rw [if_pos hk, hk, fnd_not hh]; rfl
    · rw [if_neg hk]
theorem Tidy.rem {m : Int} {es : List Pap} (h : Tidy m es) (n : Int) : Tidy m (remL es n) := by
  unfold remL
  by_cases hh : ix es n < es.length
  · rw [if_pos hh]
    have hs := sub_del es (ix es n)
    refine ⟨List.Pairwise.sublist hs h.rise, ?_, ?_, fun e he => h.each e (hs.subset he)⟩
    · have := hs.length_le
      have := h.few
      omega
    · have := used_del hh
      have := h.fits
      omega
  · rw [if_neg hh]; exact h
theorem fnd_rem {m : Int} {es : List Pap} (h : Tidy m es) (n : Int) (k : Int) : fnd (remL es n) k = if k = n then none else fnd es k := by
  unfold remL
  by_cases hh : ix es n < es.length
  · rw [if_pos hh, fnd_del h.rise hh, ix_at hh]
  · rw [if_neg hh]
    by_cases hk : k = n
    · rw [if_pos hk, hk, fnd_not hh]
    · rw [if_neg hk]
/-- Crash -/
theorem stop_size (keep : Int) (e : Pap) : (stopP keep e).text.size = stopAt e keep := ext_size _ _ (stop_le e keep)
theorem used_stop (keep : Int) : ∀ es : List Pap, used (es.map (stopP keep)) ≤ used es
  | [] => by simp
  | e :: r => by
    rw [List.map_cons, used_cons, used_cons, stop_size]
    have := stop_le e keep
    have := used_stop keep r
    omega
theorem Tidy.stop {m : Int} {es : List Pap} (h : Tidy m es) (keep : Int) : Tidy m (es.map (stopP keep)) := by
  refine ⟨?_, by rw [List.length_map]; exact h.few, ?_, ?_⟩
  · unfold Rise
    rw [List.pairwise_map]
    exact h.rise
  · have := used_stop keep es
    have := h.fits
    omega
  · intro e he
    obtain ⟨x, hx, rfl⟩ := List.mem_map.1 he
    refine ⟨(h.each x hx).1, ?_, ?_⟩
    · show (0 : Int) ≤ (stopAt x keep : Int); omega
    · rw [stop_size]; show (stopAt x keep : Int) ≤ _; omega
theorem fnd_stop (es : List Pap) (keep : Int) (k : Int) : fnd (es.map (stopP keep)) k = (fnd es k).map (stopP keep) := fnd_map es (stopP keep) (fun _ => rfl) k
/-- List -/
theorem num_mem {es : List Pap} {k : Int} : k ∈ numL es ↔ (fnd es k).isSome = true := by
  unfold numL fnd
  rw [List.mem_map, List.find?_isSome]
  constructor
  · rintro ⟨e, he, rfl⟩; exact ⟨e, he, by simp⟩
  · rintro ⟨e, he, h⟩; exact ⟨e, he, by simpa using h⟩
theorem rise_same : ∀ (a b : List Int), a.Pairwise (· < ·) → b.Pairwise (· < ·) → (∀ k, k ∈ a ↔ k ∈ b) → a = b
  | [], [], _, _, _ => rfl
  | [], y :: b, _, _, h => absurd ((h y).2 (by simp)) (by simp)
  | x :: a, [], _, _, h => absurd ((h x).1 (by simp)) (by simp)
  | x :: a, y :: b, ha, hb, h => by
    have ha' := List.pairwise_cons.1 ha
    have hb' := List.pairwise_cons.1 hb
    have hxy : x = y := by
      rcases List.mem_cons.1 ((h x).1 (by simp)) with q | q
      · exact q
      · rcases List.mem_cons.1 ((h y).2 (by simp)) with p | p
        · exact p.symm
        · have := hb'.1 x q
          have := ha'.1 y p
          omega
    subst hxy
    have : a = b := rise_same a b ha'.2 hb'.2 (fun k => ⟨fun q => by
      rcases List.mem_cons.1 ((h k).1 (by simp [q])) with p | p
      · have := ha'.1 k q; omega
      · exact p, fun q => by
      rcases List.mem_cons.1 ((h k).2 (by simp [q])) with p | p
      · have := hb'.1 k q; omega
      · exact p⟩)
    rw [this]
theorem Tidy.list {m : Int} {es : List Pap} (h : Tidy m es) {l : List Int} (hl : l.Pairwise (· < ·)) (hm : ∀ k, k ∈ l ↔ (fnd es k).isSome = true) : l = numL es :=
  rise_same l _ hl ((rise_num es).1 h.rise) (fun k => by rw [hm, num_mem])
/-- Used, counted over the numbers in any order -/
def sizeAt (es : List Pap) (k : Int) : Nat := match fnd es k with
  | some e => e.text.size
  | none => 0
theorem used_sum : ∀ {es : List Pap}, Rise es → used es = ((numL es).map (sizeAt es)).sum
  | [], _ => by simp [used, numL]
  | e :: r, h => by
    have h' := List.pairwise_cons.1 h
    have ih := used_sum (es := r) h'.2
    have e1 : sizeAt (e :: r) e.n = e.text.size := by unfold sizeAt; rw [fnd_cons, if_pos rfl]
    have e2 : (numL r).map (sizeAt (e :: r)) = (numL r).map (sizeAt r) := by
      refine List.map_congr_left (fun k hk => ?_)
      have : e.n ≠ k := by
        obtain ⟨x, hx, rfl⟩ := List.mem_map.1 hk
        have := h'.1 x hx
        omega
      unfold sizeAt
      rw [fnd_cons, if_neg this]
    show used (e :: r) = ((e.n :: numL r).map (sizeAt (e :: r))).sum
    rw [List.map_cons, List.sum_cons, e1, e2, used_cons, ih]
    omega
theorem Tidy.used {m : Int} {es : List Pap} (h : Tidy m es) {l : List Int} (hl : l.Perm (numL es)) : (l.map (sizeAt es)).sum = used es := by
  rw [used_sum h.rise]
  exact (hl.map _).sum_nat
end Go.Proofs.Ytbejicpfhnfnfab.Dk
