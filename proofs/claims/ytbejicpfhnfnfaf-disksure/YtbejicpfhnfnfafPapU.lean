/-
  The files of the law DiskSure, and what is read of them behind a stop. No walk.
-/
import Derived.Test.YtbejicpfhnfnfafWorksD
namespace Go.Proofs.Ytbejicpfhnfnfaf.Dk
open Go.RowKit

theorem did_below {Has : World → Nat → Nat → (Nat → Prop) → Int → List Pap → Prop} (H : Works Has) {w w' : World} {B q : Nat} {F : Nat → Prop} {m : Int} {es es' : List Pap} (h : Has w B q F m es) (hB : B ≤ w.heap.size) (x : Did Has w w' B q F m es') : (∃ F', Has w' B q F' m es') ∧ Below B w w' ∧ B ≤ w'.heap.size := by
  obtain ⟨F', h1, h2, h3⟩ := x
  exact ⟨⟨F', h1⟩, h2.below hB (fun k hk hf => by have := (H.own h k hf).1; omega), Nat.le_trans hB h2.size⟩
theorem fnd_of_mem {es : List Pap} (h : Rise es) {e : Pap} (he : e ∈ es) : fnd es e.n = some e := by
  obtain ⟨A, B, rfl⟩ := List.append_of_mem he
  rw [fnd_mid (rise_ahead h), if_pos rfl]
theorem read_fnd {es : List Pap} {n : Int} {e : Pap} (h : fnd es n = some e) : readV es n = .tuple #[.string e.text, .int .i64 0] := by
  rw [fnd_ix] at h
  unfold readV
  by_cases hh : ix es n < es.length
  · rw [if_pos hh] at h ⊢
    rw [Option.some.inj h]
  · rw [if_neg hh] at h; cases h
theorem pa_last (L : List Pap) (y : Pap) : pa (L ++ [y]) L.length = y := by simp [pa]
theorem ix_last {L : List Pap} {y : Pap} {n : Int} (hL : ∀ e ∈ L, e.n ≠ n) (hy : y.n = n) : ix (L ++ [y]) n = L.length := by
  refine ix_hit (by simp) (by rw [pa_last]; exact hy) (fun k hk => ?_)
  rw [beq_eq_false_iff_ne]
  refine hL _ ?_
  have : pa (L ++ [y]) k = pa L k := by simp [pa, List.getElem?_append_left hk]
  rw [this]
  exact pa_mem hk
theorem ix_absent {L : List Pap} {n : Int} (hL : ∀ e ∈ L, e.n ≠ n) : ¬ ix L n < L.length := by
  rw [fnd_is, fnd_none hL]
  simp
theorem low_last {L : List Pap} {n : Int} (hL : ∀ e ∈ L, e.n < n) : low L n = L.length := by
  unfold low
  rw [List.findIdx_eq_length]
  intro e he
  simpa using hL e he
theorem set_last (L : List Pap) (y x : Pap) : (L ++ [y]).set L.length x = L ++ [x] := by
  rw [List.set_append_right _ _ (Nat.le_refl _), Nat.sub_self]
  rfl
theorem ins_last (L : List Pap) (x : Pap) : insL L L.length x = L ++ [x] := by simp [insL]
/-- a file of the law -/
def fileP (S : Nat → ByteArray) (b : Nat → Bool) (i : Nat) : Pap := ⟨(i : Int), if b i then ((S i).size : Int) else 0, S i ++ S i⟩
def filesL (S : Nat → ByteArray) (b : Nat → Bool) (k : Nat) : List Pap := (List.range k).map (fileP S b)
theorem files_succ (S : Nat → ByteArray) (b : Nat → Bool) (k : Nat) : filesL S b (k + 1) = filesL S b k ++ [fileP S b k] := by
  unfold filesL
  rw [List.range_succ, List.map_append]
  rfl
theorem files_length (S : Nat → ByteArray) (b : Nat → Bool) (k : Nat) : (filesL S b k).length = k := by simp [filesL]
theorem files_mem {S : Nat → ByteArray} {b : Nat → Bool} {k : Nat} {e : Pap} (h : e ∈ filesL S b k) : ∃ i, i < k ∧ e = fileP S b i := by
  obtain ⟨i, hi, rfl⟩ := List.mem_map.1 h
  exact ⟨i, List.mem_range.1 hi, rfl⟩
theorem files_lt {S : Nat → ByteArray} {b : Nat → Bool} {k : Nat} : ∀ e ∈ filesL S b k, e.n < (k : Int) := fun e he => by
  obtain ⟨i, hi, rfl⟩ := files_mem he
  show (i : Int) < (k : Int)
  omega
theorem files_ne {S : Nat → ByteArray} {b : Nat → Bool} {k : Nat} : ∀ e ∈ filesL S b k, e.n ≠ (k : Int) := fun e he => by
  have := files_lt e he
  omega
theorem files_used {S : Nat → ByteArray} {b : Nat → Bool} : ∀ {k : Nat}, (∀ i, i < k → (S i).size ≤ 1000) → used (filesL S b k) ≤ 2000 * k
  | 0, _ => by simp [filesL, used]
  | k + 1, h => by
    rw [files_succ, used_append]
    have h1 := files_used (b := b) (k := k) (fun i hi => h i (by omega))
    have h2 := h k (by omega)
    have h3 : used [fileP S b k] = (S k).size + (S k).size := by rw [used_cons]; simp [used, fileP]
    omega
theorem num_ok {k : Nat} (h : k < 20) : inI (k : Int) 0 1099511627776 = true := by simp [inI]; omega
/-- the first Append -/
theorem files_app {S : Nat → ByteArray} {b : Nat → Bool} {k : Nat} (hk : k < 20) (h : ∀ i, i < k → (S i).size ≤ 1000) (hs : (S k).size ≤ 1000) : appL (filesL S b k) 65536 (k : Int) (S k) = filesL S b k ++ [⟨(k : Int), 0, S k⟩] := by
  have hi := ix_absent (L := filesL S b k) (n := (k : Int)) files_ne
  have hu := files_used (b := b) h
  have hf : full (filesL S b k) 65536 (k : Int) (S k) = false := by
    unfold full
    rw [decide_eq_false (by omega), decide_eq_false hi, decide_eq_false (by rw [files_length]; omega)]
    rfl
  rw [(app_new (num_ok hk) hf hi).2, low_last files_lt, ins_last]
/-- Sync -/
theorem files_sync {S : Nat → ByteArray} {b : Nat → Bool} {k : Nat} : syncL (filesL S b k ++ [⟨(k : Int), 0, S k⟩]) (k : Int) = filesL S b k ++ [⟨(k : Int), ((S k).size : Int), S k⟩] := by
  have hi := ix_last (L := filesL S b k) (y := ⟨(k : Int), 0, S k⟩) (n := (k : Int)) files_ne rfl
  unfold syncL
  rw [hi, if_pos (by simp), pa_last, set_last]
/-- the second Append -/
theorem files_again {S : Nat → ByteArray} {b : Nat → Bool} {k : Nat} {x : Int} (hk : k < 20) (h : ∀ i, i < k → (S i).size ≤ 1000) (hs : (S k).size ≤ 1000) (hx : x = if b k then ((S k).size : Int) else 0) : appL (filesL S b k ++ [⟨(k : Int), x, S k⟩]) 65536 (k : Int) (S k) = filesL S b (k + 1) := by
  have hi := ix_last (L := filesL S b k) (y := ⟨(k : Int), x, S k⟩) (n := (k : Int)) files_ne rfl
  have hl : ix (filesL S b k ++ [⟨(k : Int), x, S k⟩]) (k : Int) < (filesL S b k ++ [(⟨(k : Int), x, S k⟩ : Pap)]).length := by rw [hi]; simp
  have hu := files_used (b := b) h
  have hf : full (filesL S b k ++ [⟨(k : Int), x, S k⟩]) 65536 (k : Int) (S k) = false := by
    unfold full
    have h3 : used (filesL S b k ++ [⟨(k : Int), x, S k⟩]) = used (filesL S b k) + (S k).size := by rw [used_append, used_cons]; simp [used]
    rw [decide_eq_false (by omega), decide_eq_true hl]
    rfl
  rw [(app_old (num_ok hk) hf hl).2, hi, pa_last, set_last, files_succ]
  simp [addP, fileP, hx]
/-- what is read behind a stop -/
theorem files_read {m : Int} {S : Nat → ByteArray} {b : Nat → Bool} {l i : Nat} (h : Tidy m (filesL S b l)) (hi : i < l) (keep : Int) : readV ((filesL S b l).map (stopP keep)) (i : Int) = .tuple #[.string ((S i ++ S i).extract 0 (stopAt (fileP S b i) keep)), .int .i64 0] := by
  have hm : fileP S b i ∈ filesL S b l := List.mem_map.2 ⟨i, List.mem_range.2 hi, rfl⟩
  have hf := fnd_of_mem h.rise hm
  exact read_fnd (e := stopP keep (fileP S b i)) (by rw [fnd_stop, show fnd (filesL S b l) (i : Int) = some (fileP S b i) from hf]; rfl)
/-- a second stop changes nothing -/
theorem stop_twice (keep : Int) (e : Pap) : stopP (-1) (stopP keep e) = stopP keep e := by
  have hs := stop_size keep e
  have h1 : stopAt (stopP keep e) (-1) = stopAt e keep := by
    show min (stopP keep e).text.size ((stopAt e keep : Int).toNat + (-1 : Int).toNat) = _
    rw [hs]
    simp
  show (⟨(stopP keep e).n, (stopAt (stopP keep e) (-1) : Int), (stopP keep e).text.extract 0 (stopAt (stopP keep e) (-1))⟩ : Pap) = _
  rw [h1]
  have h2 : (stopP keep e).text.extract 0 (stopAt e keep) = (stopP keep e).text := by
    rw [← hs]
    exact ByteArray.extract_zero_size
  rw [h2]
  rfl
theorem stop_again (keep : Int) (es : List Pap) : (es.map (stopP keep)).map (stopP (-1)) = es.map (stopP keep) := by
  rw [List.map_map]
  exact List.map_congr_left (fun e _ => stop_twice keep e)
theorem stop_want (S : Nat → ByteArray) (b : Nat → Bool) (i : Nat) (keep : Int) : (stopAt (fileP S b i) keep : Int) = if b i then ((S i).size : Int) + min (max keep 0) ((S i).size : Int) else min (max keep 0) (2 * ((S i).size : Int)) := by
  unfold stopAt
  have h1 : (fileP S b i).text.size = (S i).size + (S i).size := by simp [fileP]
  rw [h1]
  have h2 : (fileP S b i).sure = if b i then ((S i).size : Int) else 0 := rfl
  rw [h2]
  by_cases hb : b i = true
  · rw [if_pos hb, if_pos hb]; omega
  · rw [if_neg hb, if_neg hb]; omega
end Go.Proofs.Ytbejicpfhnfnfaf.Dk
