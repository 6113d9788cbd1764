/-
  What is asked of the program's disk, whatever it is made of.
  What is asked of the program's disk beyond that: Cut and List.
  What is asked of the program's log, whatever it is made of.
  The document's log, pure: what the steps of an opening, an append and a rewriting make of the files; the running state of a disk.
  A log behind a stop tells a front of what was appended: the bytes of records, a log's files as it goes on, what is read of them behind a stop. No walk, and nothing of the program's own.
  What a log asks of a disk beyond that: List hands a new row and leaves the disk, so do Read and Try; Remove needs no new block. A disk on its way, and blocks that are none of its own. What a log is that holds a disk and a size, in a block of its own.
-/
import Derived.Test.YtphhebdmfdjfeagGreatDoorJointPapDPapLPapMPapGPapN
import Derived.Test.YtphhebdmfdjfeagGreatDoorJointRowGRowBRowSRowURowV
namespace Go.Proofs.YtphhebdmfdjfeagGreatDoor.Dk
open Go.RowKit

/-- a number that fits in 64 bits -/
def wf (n : Int) : Prop := (Lit.int .i64 n).wf = true
theorem wf_low {n : Int} (h : 0 ≤ n ∧ n ≤ 1099511627776) : wf n := WalkArith.wf_i64 (by omega)
theorem wf_of {n : Int} (h : inI n 0 1099511627776 = true) : wf n := wf_low (by simpa [inI] using h)
/-- a call may have written the disk's own blocks F alone; it shows es' then, in blocks of its own or new ones -/
def Did (Has : World → Nat → Nat → (Nat → Prop) → Int → List Pap → Prop) (w w' : World) (B q : Nat) (F : Nat → Prop) (m : Int) (es' : List Pap) : Prop := ∃ F', Has w' B q F' m es' ∧ Chg F w w' ∧ ∀ k, F' k → F k ∨ w.heap.size ≤ k
/-- what is asked of the program's disk: Has w B q F m es says that at block q there is a disk of room m that shows the files es, in the blocks F -/
structure Works (Has : World → Nat → Nat → (Nat → Prop) → Int → List Pap → Prop) : Prop where
  own : ∀ {w B q F m es}, Has w B q F m es → ∀ k, F k → B ≤ k ∧ k < w.heap.size
  chg : ∀ {w w' B q F m es} {A : Nat → Prop}, Has w B q F m es → Chg A w w' → (∀ k, F k → ¬ A k) → Has w' B q F m es
  append : ∀ {w B q F m es} (n : Int) (s : ByteArray), Has w B q F m es → Tidy m es → m ≤ 65536 → s.size ≤ 140737488355328 → B ≤ w.heap.size →
    Calls Tryz.prog 29 #[.pointer (some ⟨q, 0, none⟩), .int .i64 n, .string s] w fun e w' => e = .returned (.int .i64 (appE es m n s)) ∧ Did Has w w' B q F m (appL es m n s)
  sync : ∀ {w B q F m es} (n : Int), wf n → Has w B q F m es → Tidy m es → m ≤ 65536 → B ≤ w.heap.size →
    Calls Tryz.prog 30 #[.pointer (some ⟨q, 0, none⟩), .int .i64 n] w fun e w' => e = .returned (.int .i64 (hasE es n)) ∧ Did Has w w' B q F m (syncL es n)
  remove : ∀ {w B q F m es} (n : Int), wf n → Has w B q F m es → Tidy m es → m ≤ 65536 → B ≤ w.heap.size →
    Calls Tryz.prog 49 #[.pointer (some ⟨q, 0, none⟩), .int .i64 n] w fun e w' => e = .returned (.int .i64 (hasE es n)) ∧ Did Has w w' B q F m (remL es n)
  read : ∀ {w B q F m es} (n : Int), wf n → Has w B q F m es → Tidy m es → m ≤ 65536 → B ≤ w.heap.size →
    Calls Tryz.prog 59 #[.pointer (some ⟨q, 0, none⟩), .int .i64 n] w fun e w' => e = .returned (readV es n) ∧ Did Has w w' B q F m es
  used : ∀ {w B q F m es}, Has w B q F m es → Tidy m es → m ≤ 65536 → B ≤ w.heap.size →
    Calls Tryz.prog 21 #[.pointer (some ⟨q, 0, none⟩)] w fun e w' => e = .returned (.int .i64 (used es : Int)) ∧ Did Has w w' B q F m es
/-- what is asked of New -/
structure News (Has : World → Nat → Nat → (Nat → Prop) → Int → List Pap → Prop) : Prop where
  bad : ∀ (w : World) (m : Int), inI m 1 65536 = false → Calls Tryz.prog 13 #[.int .i64 m] w fun e w' => e = .returned (.tuple #[.pointer none, .int .i64 1]) ∧ Below w.heap.size w w'
  good : ∀ (w : World) (m : Int), inI m 1 65536 = true → Calls Tryz.prog 13 #[.int .i64 m] w fun e w' => ∃ q F, e = .returned (.tuple #[.pointer (some ⟨q, 0, none⟩), .int .i64 0]) ∧ Has w' w.heap.size q F m [] ∧ Below w.heap.size w w'
end Go.Proofs.YtphhebdmfdjfeagGreatDoor.Dk

namespace Go.Proofs.YtphhebdmfdjfeagGreatDoor.Dk
open Go.RowKit

/-- what is asked of a disk that is only looked at -/
structure Looks (Has : World → Nat → Nat → (Nat → Prop) → Int → List Pap → Prop) : Prop where
  own : ∀ {w B q F m es}, Has w B q F m es → ∀ k, F k → B ≤ k ∧ k < w.heap.size
  chg : ∀ {w w' B q F m es} {A : Nat → Prop}, Has w B q F m es → Chg A w w' → (∀ k, F k → ¬ A k) → Has w' B q F m es
  read : ∀ {w B q F m es} (n : Int), wf n → Has w B q F m es → Tidy m es → m ≤ 65536 → B ≤ w.heap.size →
    Calls Tryz.prog 59 #[.pointer (some ⟨q, 0, none⟩), .int .i64 n] w fun e w' => e = .returned (readV es n) ∧ Did Has w w' B q F m es
  used : ∀ {w B q F m es}, Has w B q F m es → Tidy m es → m ≤ 65536 → B ≤ w.heap.size →
    Calls Tryz.prog 21 #[.pointer (some ⟨q, 0, none⟩)] w fun e w' => e = .returned (.int .i64 (used es : Int)) ∧ Did Has w w' B q F m es
  list : ∀ {w B q F m es}, Has w B q F m es → Tidy m es → m ≤ 65536 → B ≤ w.heap.size →
    Calls Tryz.prog 45 #[.pointer (some ⟨q, 0, none⟩)] w fun e w' => ∃ a c, e = .returned (.slice a es.length c) ∧ SlI w' a (numL es) ∧ Did Has w w' B q F m es
/-- what is asked of the program's disk, Cut and List too -/
structure More (Has : World → Nat → Nat → (Nat → Prop) → Int → List Pap → Prop) : Prop where
  works : Works Has
  cut : ∀ {w B q F m es} (n size : Int), wf n → Has w B q F m es → Tidy m es → m ≤ 65536 → B ≤ w.heap.size →
    Calls Tryz.prog 67 #[.pointer (some ⟨q, 0, none⟩), .int .i64 n, .int .i64 size] w fun e w' => e = .returned (.int .i64 (cutE es n size)) ∧ Did Has w w' B q F m (cutL es n size)
  list : ∀ {w B q F m es}, Has w B q F m es → Tidy m es → m ≤ 65536 → B ≤ w.heap.size →
    Calls Tryz.prog 45 #[.pointer (some ⟨q, 0, none⟩)] w fun e w' => ∃ a c, e = .returned (.slice a es.length c) ∧ SlI w' a (numL es) ∧ Did Has w w' B q F m es
theorem More.looks {Has : World → Nat → Nat → (Nat → Prop) → Int → List Pap → Prop} (H : More Has) : Looks Has := ⟨H.works.own, H.works.chg, H.works.read, H.works.used, H.list⟩
end Go.Proofs.YtphhebdmfdjfeagGreatDoor.Dk

namespace Go.Proofs.YtphhebdmfdjfeagGreatDoor.Dk
open Go.RowKit

/-- what is asked of the program's log: LH g size says as a disk's own word that at block g there is a log of that size over the disk -/
structure LWorks (Has : World → Nat → Nat → (Nat → Prop) → Int → List Pap → Prop) (LH : Nat → Int → World → Nat → Nat → (Nat → Prop) → Int → List Pap → Prop) : Prop where
  looks : ∀ g size, Looks (LH g size)
  down : ∀ {g size w B q F m es}, LH g size w B q F m es → ∃ F0, Has w B q F0 m es ∧ ∀ k, F0 k → F k
  bad : ∀ {w B q F m es} (size : Int), inI size 1 4096 = false → Has w B q F m es → Tidy m es → m ≤ 65536 → B ≤ w.heap.size →
    Calls Tryz.prog 23 #[.pointer (some ⟨q, 0, none⟩), .int .i64 size] w fun e w' => (∃ a c, e = .returned (.tuple #[.pointer none, .slice a 0 c, .int .i64 1])) ∧ Below B w w'
  good : ∀ {w B q F m es} (size : Int), inI size 1 4096 = true → Has w B q F m es → Tidy m es → m ≤ 65536 → B ≤ w.heap.size →
    Calls Tryz.prog 23 #[.pointer (some ⟨q, 0, none⟩), .int .i64 size] w fun e w' => ∃ g a c F', e = .returned (.tuple #[.pointer (some ⟨g, 0, none⟩), .slice a (openL es).1.length c, .int .i64 0]) ∧ SlR w' a (openL es).1 ∧ (∀ z, a = some z → w.heap.size ≤ z.block ∧ z.block < w'.heap.size ∧ ¬ F' z.block) ∧ LH g size w' B q F' m (openL es).2 ∧ Chg F w w' ∧ ∀ k, F' k → F k ∨ w.heap.size ≤ k
  append : ∀ {g size w B q F m es} (r : Rc), Small r → inI size 1 4096 = true → LH g size w B q F m es → Tidy m es → m ≤ 65536 → B ≤ w.heap.size →
    Calls Tryz.prog 18 #[.pointer (some ⟨g, 0, none⟩), .agg #[.int .i64 r.k, .int .i64 r.q, .int .i64 r.t, .string r.s, .string r.h, .string r.d]] w fun e w' => e = .returned (.int .i64 (logP es m size r).1) ∧ Did (LH g size) w w' B q F m (logP es m size r).2
  sync : ∀ {g size w B q F m es}, inI size 1 4096 = true → LH g size w B q F m es → Tidy m es → m ≤ 65536 → B ≤ w.heap.size →
    Calls Tryz.prog 19 #[.pointer (some ⟨g, 0, none⟩)] w fun e w' => e = .returned (.int .i64 0) ∧ Did (LH g size) w w' B q F m (lsyncL es)
  rewrite : ∀ {g size w B q F m es} (l : List Rc) (a : Option Addr) (c : Nat), SlR w a l → (∀ k, k < l.length → Small (rc l k)) → l.length ≤ 200000 → (∀ z, a = some z → ¬ F z.block) → inI size 1 4096 = true → LH g size w B q F m es → Tidy m es → m ≤ 65536 → B ≤ w.heap.size →
    Calls Tryz.prog 16 #[.pointer (some ⟨g, 0, none⟩), .slice a l.length c] w fun e w' => e = .returned (.int .i64 (rewR es m size l).1) ∧ Did (LH g size) w w' B q F m (rewR es m size l).2
  blocks : ∀ {g size w B q F m es}, inI size 1 4096 = true → LH g size w B q F m es → Tidy m es → m ≤ 65536 → B ≤ w.heap.size →
    Calls Tryz.prog 26 #[.pointer (some ⟨g, 0, none⟩)] w fun e w' => ∃ a c, e = .returned (.slice a es.length c) ∧ SlI w' a (numL es) ∧ Did (LH g size) w w' B q F m es
end Go.Proofs.YtphhebdmfdjfeagGreatDoor.Dk

namespace Go.Proofs.YtphhebdmfdjfeagGreatDoor.Dk
open Go.RowKit

theorem pa_last {es : List Pap} {k : Nat} (h : k + 1 = es.length) : lastP es = pa es k := by unfold lastP; rw [← h]; rfl
theorem logR_bad {es : List Pap} {m size : Int} {r : Rc} (h : chkR r ≠ 0) : logR es m size r = (chkR r, es) := by unfold logR; rw [if_pos h]
theorem logR_first {es : List Pap} {m size : Int} {r : Rc} (h : chkR r = 0) (h0 : es.length = 0) : logR es m size r = (appE es m 0 (codT r), appL es m 0 (codT r)) := by
  unfold logR; rw [if_neg (by rw [h]; simp), if_pos h0]
theorem logR_next {es : List Pap} {m size : Int} {r : Rc} {k : Nat} (h : chkR r = 0) (hk : k + 1 = es.length) (hf : 0 < (pa es k).text.size ∧ size < ((pa es k).text.size : Int) + ((codT r).size : Int)) :
    logR es m size r = (appE (syncL es (pa es k).n) m ((pa es k).n + 1) (codT r), appL (syncL es (pa es k).n) m ((pa es k).n + 1) (codT r)) := by
  unfold logR fills
  rw [pa_last hk, if_neg (by rw [h]; simp), if_neg (by omega), if_pos (by simpa using hf)]
theorem logR_last {es : List Pap} {m size : Int} {r : Rc} {k : Nat} (h : chkR r = 0) (hk : k + 1 = es.length) (hf : ¬ (0 < (pa es k).text.size ∧ size < ((pa es k).text.size : Int) + ((codT r).size : Int))) :
    logR es m size r = (appE es m (pa es k).n (codT r), appL es m (pa es k).n (codT r)) := by
  unfold logR fills
  rw [pa_last hk, if_neg (by rw [h]; simp), if_neg (by omega), if_neg (by simpa using hf)]
theorem SlI.chg {A : Nat → Prop} {w w' : World} {a : Option Addr} {l : List Int} (h : SlI w a l) (hc : Chg A w w') (hn : ∀ q, a = some q → ¬ A q.block) : SlI w' a l := fun k hk => by
  obtain ⟨b, o, h1, h2, h3⟩ := h k hk
  exact ⟨b, o, h1, Nat.lt_of_lt_of_le h2 hc.size, by rw [hc.cell (p := ⟨b, o + k, none⟩) h2 (hn ⟨b, o, none⟩ h1)]; exact h3⟩
theorem Reads.len {es : List Pap} {i : Nat} {acc : List Rc} (h : Reads es i acc) : acc.length ≤ used es := by
  have := openL_len es
  unfold Reads at h
  rw [h, List.length_append] at this
  omega
theorem drop_ext (t : ByteArray) (p : Nat) : (t.extract p t.size).data.toList = t.data.toList.drop p := by
  rw [ByteArray.data_extract, Array.toList_extract]
  simp only [List.extract_eq_take_drop]
  rw [List.take_of_length_le]
  rw [List.length_drop]
  simp
theorem num_nth {es : List Pap} {i : Nat} (h : i < es.length) : nth (numL es) i = (pa es i).n := by
  unfold nth numL
  rw [List.getElem?_map, List.getElem?_eq_getElem h, pa_get h]
  rfl
theorem readV_pa {m : Int} {es : List Pap} (ht : Tidy m es) {i : Nat} (h : i < es.length) : readV es (pa es i).n = .tuple #[.string (pa es i).text, .int .i64 0] := by
  have hi : ix es (pa es i).n = i := by
    refine ix_hit h rfl (fun j hj => ?_)
    have := rise_pa ht.rise hj h
    rw [beq_eq_false_iff_ne]
    omega
  unfold readV
  rw [hi, if_pos h]
theorem cutL_pa {m : Int} {es : List Pap} (ht : Tidy m es) {i k : Nat} (h : i < es.length) (hk : k ≤ (pa es i).text.size) : cutL es (pa es i).n (k : Int) = es.take i ++ cutP (pa es i) k :: es.drop (i + 1) ∧ cutE es (pa es i).n (k : Int) = 0 := by
  have hi : ix es (pa es i).n = i := by
    refine ix_hit h rfl (fun j hj => ?_)
    have := rise_pa ht.rise hj h
    rw [beq_eq_false_iff_ne]
    omega
  have h0 : cutE es (pa es i).n (k : Int) = 0 := cut_ok.2 ⟨by rw [hi]; exact h, by unfold cutOk; rw [hi]; simp [inI]; omega⟩
  refine ⟨?_, h0⟩
  rw [cut_is h0, hi, set_split h, Int.toNat_natCast]
/-- the files behind the one that was cut, on their way -/
theorem rem_step {m : Int} {es : List Pap} (ht : Tidy m es) {i j k : Nat} (hi : i < j) (hj : j < es.length) : remL (es.take i ++ cutP (pa es i) k :: es.drop j) (pa es j).n = es.take i ++ cutP (pa es i) k :: es.drop (j + 1) := by
  rw [drop_pa hj]
  have hr : Rise ((es.take i ++ [cutP (pa es i) k]) ++ pa es j :: es.drop (j + 1)) := by
    rw [rise_num]
    have e : numL ((es.take i ++ [cutP (pa es i) k]) ++ pa es j :: es.drop (j + 1)) = numL (es.take (i + 1) ++ es.drop j) := by
      rw [take_pa (by omega), ← drop_pa hj]
      simp [numL, cutP]
    rw [e]
    have hs : (es.take (i + 1) ++ es.drop j).Sublist es := by
      conv => rhs; rw [← List.take_append_drop (i + 1) es]
      refine List.Sublist.append (List.Sublist.refl _) ?_
      rw [show j = (i + 1) + (j - (i + 1)) by omega, ← List.drop_drop]
      exact List.drop_sublist _ _
    exact List.Pairwise.sublist (hs.map _) ((rise_num es).1 ht.rise)
  have := rem_mid hr
  rw [List.append_assoc, List.append_assoc] at this
  simpa using this
theorem catT_append : ∀ a b : List Rc, catT (a ++ b) = catT a ++ catT b
  | [], b => by simp [catT]
  | r :: a, b => by rw [List.cons_append, catT, catT, catT_append a b, ByteArray.append_assoc]
theorem rtake {l : List Rc} {k : Nat} (h : k < l.length) : l.take (k + 1) = l.take k ++ [rc l k] := by rw [List.take_succ_eq_append_getElem h, rc_get h]
theorem catT_take {l : List Rc} {k : Nat} (h : k < l.length) : catT (l.take (k + 1)) = catT (l.take k) ++ codT (rc l k) := by
  rw [rtake h, catT_append]
  simp [catT]
theorem badOf_append : ∀ a b : List Rc, badOf (a ++ b) = if badOf a ≠ 0 then badOf a else badOf b
  | [], b => by simp [badOf]
  | r :: a, b => by
    rw [List.cons_append, badOf, badOf, badOf_append a b]
    by_cases h : chkR r ≠ 0
    · rw [if_pos h, if_pos h, if_pos h]
    · rw [if_neg h, if_neg h]
theorem badOf_take {l : List Rc} {k : Nat} (h : k < l.length) (h0 : badOf (l.take k) = 0) : badOf (l.take (k + 1)) = chkR (rc l k) := by
  rw [rtake h, badOf_append, if_neg (by rw [h0]; simp)]
  simp only [badOf]
  by_cases hc : chkR (rc l k) ≠ 0
  · rw [if_pos hc]
  · rw [if_neg hc]; exact (Classical.byContradiction hc).symm
theorem badOf_found {l : List Rc} {k : Nat} (h : k < l.length) (h0 : badOf (l.take k) = 0) (hc : chkR (rc l k) ≠ 0) : badOf l = chkR (rc l k) := by
  conv => lhs; rw [← List.take_append_drop (k + 1) l]
  rw [badOf_append, badOf_take h h0, if_pos hc]
theorem catT_size : ∀ l : List Rc, badOf l = 0 → (catT l).size ≤ 1100 * l.length
  | [], _ => by simp [catT]
  | r :: l, h => by
    rw [badOf] at h
    split at h
    · rename_i hc; exact absurd h hc
    · rename_i hc
      have h1 := codT_size (r := r) (Classical.byContradiction hc)
      have h2 := catT_size l h
      rw [catT, ByteArray.size_append, List.length_cons]
      omega
theorem rewR_bad {es : List Pap} {m size : Int} {l : List Rc} {E : Int} (h : badOf l = E) (h0 : E ≠ 0) : rewR es m size l = (E, es) := by unfold rewR; rw [h, if_pos h0]
theorem rewR_large {es : List Pap} {m size : Int} {l : List Rc} (h : badOf l = 0) (h1 : 1 < l.length ∧ size < ((catT l).size : Int)) : rewR es m size l = (8, es) := by
  unfold rewR; rw [if_neg (by rw [h]; simp), if_pos h1]
theorem rewR_full {es : List Pap} {m size : Int} {l : List Rc} (h : badOf l = 0) (h1 : ¬ (1 < l.length ∧ size < ((catT l).size : Int))) (h2 : appE es m (nextN es) (catT l) ≠ 0) : rewR es m size l = (appE es m (nextN es) (catT l), es) := by
  unfold rewR; rw [if_neg (by rw [h]; simp), if_neg h1, if_pos h2]
theorem rewR_ok {es : List Pap} {m size : Int} {l : List Rc} (h : badOf l = 0) (h1 : ¬ (1 < l.length ∧ size < ((catT l).size : Int))) (h2 : appE es m (nextN es) (catT l) = 0) : rewR es m size l = (0, [⟨nextN es, ((catT l).size : Int), catT l⟩]) := by
  unfold rewR; rw [if_neg (by rw [h]; simp), if_neg h1, if_neg (by rw [h2]; simp)]
theorem next_first {es : List Pap} (h : es.length = 0) : nextN es = 0 := by unfold nextN; rw [if_pos h]
theorem next_last {es : List Pap} {k : Nat} (h : k + 1 = es.length) : nextN es = (pa es k).n + 1 := by unfold nextN; rw [if_neg (by omega), pa_last h]
theorem ix_num (es : List Pap) (n : Int) : ix es n = (numL es).findIdx (fun k => k == n) := by
  unfold ix numL
  rw [List.findIdx_map]
  rfl
theorem num_length (es : List Pap) : (numL es).length = es.length := by unfold numL; rw [List.length_map]
theorem appE_like {es es' : List Pap} (h1 : numL es' = numL es) (h2 : used es' = used es) (m n : Int) (s : ByteArray) : appE es' m n s = appE es m n s := by
  have hl : es'.length = es.length := by rw [← num_length, h1, num_length]
  unfold appE full
  rw [ix_num, ix_num, h1, h2, hl]
theorem appE_sync (es : List Pap) (k m n : Int) (s : ByteArray) : appE (syncL es k) m n s = appE es m n s := by
  unfold syncL
  split
  · rename_i h
    have hu := used_set h (syncP (pa es (ix es k)))
    refine appE_like (es' := es.set (ix es k) (syncP (pa es (ix es k)))) (numL_set h rfl) ?_ m n s
    have e : (syncP (pa es (ix es k))).text = (pa es (ix es k)).text := rfl
    rw [e] at hu
    omega
  · rfl
theorem appE_lsync (es : List Pap) (m n : Int) (s : ByteArray) : appE (lsyncL es) m n s = appE es m n s := by
  unfold lsyncL
  split
  · rfl
  · exact appE_sync _ _ _ _ _
theorem lsync_nil {es : List Pap} (h : es.length = 0) : lsyncL es = es := by unfold lsyncL; rw [if_pos h]
/-- the number of the last file; -1 where there is none -/
def lastN (es : List Pap) : Int := if es.length = 0 then -1 else (lastP es).n
theorem lastN_none {es : List Pap} (h : es.length = 0) : lastN es = -1 := by unfold lastN; rw [if_pos h]
theorem lastN_some {es : List Pap} {k : Nat} (h : k + 1 = es.length) : lastN es = (pa es k).n := by unfold lastN; rw [if_neg (by omega), pa_last h]
theorem next_lastN (es : List Pap) : nextN es = lastN es + 1 := by
  unfold nextN lastN
  split <;> simp
/-- a text that is put into a new file behind the last one: with an error nothing changes -/
def begL (es : List Pap) (m : Int) (s : ByteArray) : List Pap := if appE es m (nextN es) s = 0 then appL (lsyncL es) m (nextN es) s else es
theorem begL_ok {es : List Pap} {m : Int} {s : ByteArray} (h : appE es m (nextN es) s = 0) : begL es m s = appL (lsyncL es) m (nextN es) s := by unfold begL; rw [if_pos h]
theorem begL_not {es : List Pap} {m : Int} {s : ByteArray} (h : appE es m (nextN es) s ≠ 0) : begL es m s = es := by unfold begL; rw [if_neg h]
theorem logP_bad {es : List Pap} {m size : Int} {r : Rc} (h : chkR r ≠ 0) : logP es m size r = (chkR r, es) := by
  have e := logR_bad (es := es) (m := m) (size := size) h
  rw [logP_not (by rw [e]; exact h), e]
theorem logP_begin {es : List Pap} {m size : Int} {r : Rc} (h : chkR r = 0) (hb : es.length = 0 ∨ fills es size (codT r) = true) : logP es m size r = (appE es m (nextN es) (codT r), begL es m (codT r)) := by
  by_cases h0 : es.length = 0
  · have e := logR_first (m := m) (size := size) h h0
    have hn := next_first h0
    have hs := lsync_nil h0
    by_cases ha : appE es m 0 (codT r) = 0
    · rw [logP_ok (by rw [e]; exact ha), e, begL_ok (by rw [hn]; exact ha), hn, hs]
    · rw [logP_not (by rw [e]; exact ha), e, begL_not (by rw [hn]; exact ha), hn]
  · have hf : fills es size (codT r) = true := by
      rcases hb with y | y
      · exact absurd y h0
      · exact y
    have e : logR es m size r = (appE es m (nextN es) (codT r), appL (lsyncL es) m (nextN es) (codT r)) := by
      unfold logR lsyncL nextN
      rw [if_neg (by rw [h]; simp), if_neg h0, if_pos hf, if_neg h0, if_neg h0, appE_sync]
    by_cases ha : appE es m (nextN es) (codT r) = 0
    · rw [logP_ok (by rw [e]; exact ha), e, begL_ok ha]
    · rw [logP_not (by rw [e]; exact ha), e, begL_not ha]
theorem logP_last {es : List Pap} {m size : Int} {r : Rc} (h : chkR r = 0) (h0 : es.length ≠ 0) (hf : fills es size (codT r) = false) : logP es m size r = (appE es m (lastP es).n (codT r), appL es m (lastP es).n (codT r)) := by
  have e : logR es m size r = (appE es m (lastP es).n (codT r), appL es m (lastP es).n (codT r)) := by
    unfold logR
    rw [if_neg (by rw [h]; simp), if_neg h0, if_neg (by rw [hf]; simp)]
  by_cases ha : appE es m (lastP es).n (codT r) = 0
  · rw [logP_ok (by rw [e]; exact ha), e]
  · rw [logP_not (by rw [e]; exact ha), e, app_not ha]
/-- files that are removed one by one, the last one first -/
theorem rem_rev (post : List Pap) : ∀ (k : Nat) (pre mid : List Pap), mid.length = k → Rise (pre ++ mid ++ post) → (numL mid).reverse.foldl remL (pre ++ mid ++ post) = pre ++ post
  | 0, pre, mid, hk, _ => by
    obtain rfl : mid = [] := List.eq_nil_of_length_eq_zero hk
    simp [numL]
  | k + 1, pre, mid, hk, hr => by
    obtain ⟨mid', e, rfl⟩ : ∃ mid' e, mid = mid' ++ [e] := ⟨mid.dropLast, mid.getLast (by intro h; rw [h] at hk; simp at hk), (List.dropLast_concat_getLast _).symm⟩
    have e1 : pre ++ (mid' ++ [e]) ++ post = (pre ++ mid') ++ e :: post := by simp
    have e2 : (numL (mid' ++ [e])).reverse = e.n :: (numL mid').reverse := by simp [numL]
    rw [e1] at hr
    rw [e1, e2, List.foldl_cons, rem_mid hr]
    have hr2 : Rise (pre ++ mid' ++ post) := by
      rw [rise_num] at hr ⊢
      refine List.Pairwise.sublist ?_ hr
      unfold numL
      refine List.Sublist.map _ ?_
      rw [List.append_assoc (bs := mid') (cs := post)]
      rw [List.append_assoc]
      exact (List.Sublist.refl _).append ((List.Sublist.refl _).append (List.sublist_cons_self _ _))
    exact rem_rev post k pre mid' (by simpa using hk) hr2
theorem Tidy.rems {m : Int} : ∀ (l : List Int) {es : List Pap}, Tidy m es → Tidy m (l.foldl remL es)
  | [], _, h => h
  | n :: l, _, h => Tidy.rems l (h.rem n)
end Go.Proofs.YtphhebdmfdjfeagGreatDoor.Dk

namespace Go.Proofs.YtphhebdmfdjfeagGreatDoor.Dk
open Go.RowKit

/-- the bytes of records -/
def catL : List Rc → List UInt8
  | [] => []
  | r :: l => Pk.cod r.pk ++ catL l
theorem catT_list : ∀ l : List Rc, (catT l).data.toList = catL l
  | [] => rfl
  | r :: l => by rw [catT, catL, ByteArray.data_append, Array.toList_append, catT_list l, codT, bt_list]
theorem catT_len (l : List Rc) : (catT l).size = (catL l).length := by
  rw [← catT_list]
  simp
theorem catL_append : ∀ a b : List Rc, catL (a ++ b) = catL a ++ catL b
  | [], _ => rfl
  | r :: a, b => by rw [List.cons_append, catL, catL, catL_append a b, List.append_assoc]
def Good (l : List Rc) : Prop := ∀ r ∈ l, chkR r = 0
theorem scan_front : ∀ (l : List Rc) (c f : Nat), Good l → c ≤ (catL l).length → c ≤ f → ∃ k, k ≤ l.length ∧ (catL (l.take k)).length ≤ c ∧ (scan f ((catL l).take c)).1 = l.take k ∧ ((c = (catL (l.take k)).length ∧ (scan f ((catL l).take c)).2 = none) ∨ (scan f ((catL l).take c)).2 = some (catL (l.take k)).length) ∧ ∀ j, j ≤ l.length → (catL (l.take j)).length ≤ c → j ≤ k
  | [], c, f, _, hc, _ => by
    have : c = 0 := by simpa [catL] using hc
    subst this
    refine ⟨0, Nat.le_refl _, Nat.le_refl _, ?_, .inl ⟨rfl, ?_⟩, fun j hj _ => hj⟩
    · simp [catL, scan_nil]
    · simp [catL, scan_nil]
  | r :: l, c, f, hg, hc, hf => by
    have hr : chkR r = 0 := hg r (by simp)
    have hp := cod_pos r.pk
    by_cases hlt : c < (Pk.cod r.pk).length
    · have ht : (catL (r :: l)).take c = (Pk.cod r.pk).take c := by rw [catL, List.take_append_of_le_length (by omega)]
      rw [ht]
      have hj : ∀ j, j ≤ (r :: l).length → (catL ((r :: l).take j)).length ≤ c → j ≤ 0 := fun j _ h => by
        cases j with
        | zero => exact Nat.le_refl _
        | succ j => rw [List.take_succ_cons, catL, List.length_append] at h; omega
      by_cases h0 : c = 0
      · subst h0
        refine ⟨0, Nat.zero_le _, Nat.le_refl _, ?_, .inl ⟨rfl, ?_⟩, hj⟩
        · simp [scan_nil]
        · simp [scan_nil]
      · have hd := Pk.dec_front (r := r.pk) (i := c) hr hlt
        have hl : ((Pk.cod r.pk).take c).length ≠ 0 := by rw [List.length_take]; omega
        cases f with
        | zero => omega
        | succ f =>
          rw [scan_bad hl (by rw [hd]; simp)]
          exact ⟨0, Nat.zero_le _, Nat.zero_le _, rfl, .inr rfl, hj⟩
    · have ht : (catL (r :: l)).take c = Pk.cod r.pk ++ (catL l).take (c - (Pk.cod r.pk).length) := by
        rw [catL, List.take_append]
        rw [List.take_of_length_le (by omega)]
      have hd := Pk.dec_cod (r := r.pk) hr ((catL l).take (c - (Pk.cod r.pk).length))
      have hl : (Pk.cod r.pk ++ (catL l).take (c - (Pk.cod r.pk).length)).length ≠ 0 := by rw [List.length_append]; omega
      have hc' : c - (Pk.cod r.pk).length ≤ (catL l).length := by rw [catL, List.length_append] at hc; omega
      cases f with
      | zero => omega
      | succ f =>
        obtain ⟨k, h1, h2, h3, h4, h5⟩ := scan_front l (c - (Pk.cod r.pk).length) f (fun x hx => hg x (by simp [hx])) hc' (by omega)
        rw [ht, scan_ok hl (by rw [hd]), hd]
        simp only [List.drop_left']
        rw [pk_rcOf]
        refine ⟨k + 1, by simp; omega, ?_, ?_, ?_, ?_⟩
        · rw [List.take_succ_cons, catL, List.length_append]; omega
        · rw [List.take_succ_cons, h3]
        · rw [List.take_succ_cons, catL, List.length_append]
          rcases h4 with ⟨h4, h6⟩ | h4
          · exact .inl ⟨by omega, by rw [h6]; rfl⟩
          · right
            rw [h4]
            simp [Nat.add_comm]
        · intro j hj h
          cases j with
          | zero => omega
          | succ j =>
            rw [List.take_succ_cons, catL, List.length_append] at h
            have := h5 j (by simpa using hj) (by omega)
            omega
theorem scan_whole {l : List Rc} (h : Good l) : scanT (catT l) = (l, none) := by
  unfold scanT
  rw [catT_list]
  obtain ⟨k, h1, h2, h3, h4, h5⟩ := scan_front l (catL l).length (catL l).length h (Nat.le_refl _) (Nat.le_refl _)
  have hk : k = l.length := by
    have := h5 l.length (Nat.le_refl _) (by rw [List.take_length]; exact Nat.le_refl _)
    omega
  rw [List.take_length] at h3 h4
  rw [hk, List.take_length] at h3 h4
  rcases h4 with ⟨_, h4⟩ | h4
  · exact Prod.ext h3 h4
  · have hs := scan_le _ _ _ h4
    exfalso
    have : ∀ (f : Nat) (x : List UInt8) (j : Nat), (scan f x).2 = some j → j < x.length := by
      intro f
      induction f with
      | zero => intro x j hj; cases hj
      | succ f ih =>
        intro x j hj
        by_cases h0 : x.length = 0
        · rw [scan, if_pos h0] at hj; cases hj
        · by_cases hd : (Pk.dec x).2.2 = 0
          · rw [scan_ok h0 hd] at hj
            cases hq : (scan f (x.drop (Pk.dec x).2.1)).2 with
            | none => rw [hq] at hj; cases hj
            | some i =>
              rw [hq] at hj
              have := ih _ i hq
              rw [List.length_drop] at this
              simp at hj
              omega
          · rw [scan_bad h0 hd] at hj
            cases hj
            omega
    have := this _ _ _ h4
    omega
/-- files that are read whole -/
def Whole : List Pap → List Rc → Prop
  | [], A => A = []
  | e :: r, A => ∃ rs A', scanT e.text = (rs, none) ∧ A = rs ++ A' ∧ Whole r A'
theorem whole_open : ∀ {pre : List Pap} {A : List Rc} (es : List Pap), Whole pre A → openL (pre ++ es) = (A ++ (openL es).1, pre ++ (openL es).2)
  | [], A, es, h => by
    have : A = [] := h
    subst this
    simp
  | e :: r, A, es, h => by
    obtain ⟨rs, A', h1, rfl, h3⟩ := h
    rw [List.cons_append, openL_whole h1, whole_open es h3]
    simp
theorem whole_snoc : ∀ {pre : List Pap} {A rs : List Rc} {e : Pap}, Whole pre A → scanT e.text = (rs, none) → Whole (pre ++ [e]) (A ++ rs)
  | [], A, rs, e, h, hs => by
    have : A = [] := h
    subst this
    exact ⟨rs, [], hs, by simp, rfl⟩
  | x :: r, A, rs, e, h, hs => by
    obtain ⟨r1, A', h1, rfl, h3⟩ := h
    exact ⟨r1, A' ++ rs, h1, by simp, whole_snoc h3 hs⟩
/-- a log on its way: what was appended, and how many of it were there at the last Sync -/
def Logd (es : List Pap) (all : List Rc) (n : Nat) : Prop := ∃ pre e A L j, es = pre ++ [e] ∧ all = A ++ L ∧ Whole pre A ∧ (∀ x ∈ pre, x.sure = (x.text.size : Int)) ∧ e.text = catT L ∧ Good L ∧ j ≤ L.length ∧ e.sure = ((catT (L.take j)).size : Int) ∧ n ≤ A.length + j
theorem last_ix {pre : List Pap} {e : Pap} (h : Rise (pre ++ [e])) : ix (pre ++ [e]) e.n = pre.length ∧ pa (pre ++ [e]) pre.length = e ∧ lastP (pre ++ [e]) = e := by
  have hp : pa (pre ++ [e]) pre.length = e := by unfold pa; simp
  refine ⟨?_, hp, ?_⟩
  · refine ix_hit (by simp) (by rw [hp]) (fun j hj => ?_)
    rw [beq_eq_false_iff_ne]
    have := rise_pa h hj (by simp)
    rw [hp] at this
    omega
  · unfold lastP
    rw [List.length_append, List.length_singleton, Nat.add_sub_cancel]
    exact hp
theorem set_last {pre : List Pap} {e x : Pap} : (pre ++ [e]).set pre.length x = pre ++ [x] := by simp
theorem sync_last {pre : List Pap} {e : Pap} (h : Rise (pre ++ [e])) : syncL (pre ++ [e]) e.n = pre ++ [syncP e] := by
  obtain ⟨h1, h2, _⟩ := last_ix h
  unfold syncL
  rw [h1, if_pos (by simp), h2, set_last]
  rfl
theorem app_last {pre : List Pap} {e : Pap} {m : Int} {s : ByteArray} (h : Rise (pre ++ [e])) (h0 : appE (pre ++ [e]) m e.n s = 0) : appL (pre ++ [e]) m e.n s = pre ++ [addP e s] := by
  obtain ⟨h1, h2, _⟩ := last_ix h
  obtain ⟨hI, hf⟩ := app_ok.1 h0
  rw [(app_old hI hf (by rw [h1]; simp)).2, h1, h2, set_last]
theorem app_next {pre : List Pap} {e : Pap} {m : Int} {s : ByteArray} (h : Rise (pre ++ [e])) (h0 : appE (pre ++ [e]) m (e.n + 1) s = 0) : appL (pre ++ [e]) m (e.n + 1) s = (pre ++ [e]) ++ [⟨e.n + 1, 0, s⟩] := by
  obtain ⟨h1, h2, _⟩ := last_ix h
  obtain ⟨hI, hf⟩ := app_ok.1 h0
  have hle : ∀ k, k < (pre ++ [e]).length → (pa (pre ++ [e]) k).n < e.n + 1 := fun k hk => by
    by_cases hk2 : k < pre.length
    · have := rise_pa h hk2 (by simp)
      rw [h2] at this
      omega
    · have : k = pre.length := by simp at hk; omega
      rw [this, h2]; omega
  have hno : ¬ ix (pre ++ [e]) (e.n + 1) < (pre ++ [e]).length := fun z => by
    have h3 := ix_at z
    have := hle _ z
    omega
  have hlow : low (pre ++ [e]) (e.n + 1) = (pre ++ [e]).length := by
    have := low_le (pre ++ [e]) (e.n + 1)
    rcases Nat.lt_or_ge (low (pre ++ [e]) (e.n + 1)) (pre ++ [e]).length with z | z
    · exact absurd (hle _ z) (low_at z)
    · omega
  rw [(app_new hI hf hno).2, hlow]
  unfold insL
  rw [List.take_length, List.drop_length]
theorem catT_snoc (L : List Rc) (r : Rc) : catT L ++ codT r = catT (L ++ [r]) := by
  have : ∀ a b : List Rc, catT (a ++ b) = catT a ++ catT b := by
    intro a b
    apply ByteArray.ext
    apply Array.ext'
    have h1 := catT_list (a ++ b)
    have h2 := catT_list a
    have h3 := catT_list b
    rw [catL_append] at h1
    rw [ByteArray.data_append, Array.toList_append, h1, h2, h3]
  rw [this]
  simp [catT]
theorem Logd.append {m size : Int} {es : List Pap} {all : List Rc} {n : Nat} (h : Logd es all n) (ht : Tidy m es) (r : Rc) : ((logR es m size r).1 = 0 → Logd (logR es m size r).2 (all ++ [r]) n) ∧ ((logR es m size r).1 ≠ 0 → Logd (logR es m size r).2 all n) := by
  obtain ⟨pre, e, A, L, j, rfl, rfl, hw, hs, he, hg, hj, hsu, hn⟩ := h
  have hr := ht.rise
  obtain ⟨h1, h2, h3⟩ := last_ix hr
  unfold logR
  by_cases hc : chkR r ≠ 0
  · rw [if_pos hc]
    exact ⟨fun z => absurd z hc, fun _ => ⟨pre, e, A, L, j, rfl, rfl, hw, hs, he, hg, hj, hsu, hn⟩⟩
  · have hc0 : chkR r = 0 := Classical.byContradiction hc
    rw [if_neg hc, if_neg (by simp), h3]
    have hes : syncP e = ⟨e.n, (e.text.size : Int), e.text⟩ := rfl
    have hfull : ∀ n', n' ≤ A.length + j → Logd (pre ++ [syncP e]) (A ++ L) n' := fun n' hn' => ⟨pre, syncP e, A, L, L.length, rfl, rfl, hw, hs, he, hg, Nat.le_refl _, by rw [List.take_length, ← he]; rfl, by omega⟩
    split
    · rw [sync_last hr]
      have hr2 : Rise (pre ++ [syncP e]) := by
        rw [rise_num]
        have : numL (pre ++ [syncP e]) = numL (pre ++ [e]) := by simp [numL, syncP]
        rw [this, ← rise_num]
        exact hr
      refine ⟨fun z => ?_, fun z => ?_⟩
      · have hz : appE (pre ++ [syncP e]) m ((syncP e).n + 1) (codT r) = 0 := z
        have := app_next hr2 hz
        rw [show (e.n + 1) = (syncP e).n + 1 from rfl, this]
        refine ⟨pre ++ [syncP e], ⟨e.n + 1, 0, codT r⟩, A ++ L, [r], 0, rfl, by simp, whole_snoc hw (by rw [show (syncP e).text = e.text from rfl, he]; exact scan_whole hg), ?_, ?_, ?_, Nat.zero_le _, ?_, by simp; omega⟩
        · intro x hx
          rcases List.mem_append.1 hx with hx | hx
          · exact hs x hx
          · have : x = syncP e := by simpa using hx
            rw [this]; rfl
        · show codT r = catT [r]
          simp [catT]
        · intro x hx
          have : x = r := by simpa using hx
          rw [this]; exact hc0
        · simp [catT]
      · rw [app_not z]
        exact hfull n hn
    · refine ⟨fun z => ?_, fun z => ?_⟩
      · rw [app_last hr z]
        refine ⟨pre, addP e (codT r), A, L ++ [r], j, rfl, by simp, hw, hs, ?_, ?_, by simp; omega, ?_, hn⟩
        · show e.text ++ codT r = _
          rw [he, catT_snoc]
        · intro x hx
          rcases List.mem_append.1 hx with hx | hx
          · exact hg x hx
          · have : x = r := by simpa using hx
            rw [this]; exact hc0
        · rw [List.take_append_of_le_length hj]
          exact hsu
      · rw [app_not z]
        exact ⟨pre, e, A, L, j, rfl, rfl, hw, hs, he, hg, hj, hsu, hn⟩
theorem Logd.appendp {m size : Int} {es : List Pap} {all : List Rc} {n : Nat} (h : Logd es all n) (ht : Tidy m es) (r : Rc) : ((logP es m size r).1 = 0 → Logd (logP es m size r).2 (all ++ [r]) n) ∧ ((logP es m size r).1 ≠ 0 → Logd (logP es m size r).2 all n) := by
  by_cases h0 : (logR es m size r).1 = 0
  · rw [logP_ok h0]
    exact h.append ht r
  · rw [logP_not h0]
    exact ⟨fun z => absurd z h0, fun _ => h⟩
theorem Logd.sync {m : Int} {es : List Pap} {all : List Rc} {n : Nat} (h : Logd es all n) (ht : Tidy m es) : Logd (lsyncL es) all all.length := by
  obtain ⟨pre, e, A, L, j, rfl, rfl, hw, hs, he, hg, hj, hsu, hn⟩ := h
  have hr := ht.rise
  unfold lsyncL
  rw [if_neg (by simp), (last_ix hr).2.2, sync_last hr]
  exact ⟨pre, syncP e, A, L, L.length, rfl, rfl, hw, hs, he, hg, Nat.le_refl _, by rw [List.take_length, ← he]; rfl, by simp⟩
theorem Logd.len {es : List Pap} {all : List Rc} {n : Nat} (h : Logd es all n) : n ≤ all.length := by
  obtain ⟨pre, e, A, L, j, rfl, rfl, _, _, _, _, hj, _, hn⟩ := h
  simp; omega
/-- behind a stop: a front, twice the same -/
theorem Logd.front {es : List Pap} {all : List Rc} {n : Nat} (h : Logd es all n) (keep : Int) : ∃ k, n ≤ k ∧ k ≤ all.length ∧ (openL (es.map (stopP keep))).1 = all.take k ∧ (openL (openL (es.map (stopP keep))).2).1 = all.take k := by
  obtain ⟨pre, e, A, L, j, rfl, rfl, hw, hs, he, hg, hj, hsu, hn⟩ := h
  have hpre : pre.map (stopP keep) = pre := by
    conv => rhs; rw [← List.map_id pre]
    refine List.map_congr_left (fun x hx => ?_)
    have hx2 := hs x hx
    have hat : stopAt x keep = x.text.size := by unfold stopAt; rw [hx2]; omega
    unfold stopP
    rw [hat]
    have : x.text.extract 0 x.text.size = x.text := by
      apply ByteArray.ext
      simp
    rw [this]
    cases x
    simp only at hx2
    rw [hx2]
    rfl
  have hcl : stopAt e keep ≤ (catL L).length := by rw [← catT_len, ← he]; exact stop_le e keep
  have hlow : (catL (L.take j)).length ≤ stopAt e keep := by
    have h1 : (catL (L.take j)).length ≤ (catL L).length := by
      conv => rhs; rw [← List.take_append_drop j L]
      rw [catL_append, List.length_append]
      omega
    have h2 : e.text.size = (catL L).length := by rw [he, catT_len]
    unfold stopAt
    rw [hsu, catT_len, h2]
    omega
  have htx : ∀ c, c ≤ (catL L).length → ((catT L).extract 0 c).data.toList = (catL L).take c := fun c _ => by
    rw [ByteArray.data_extract, Array.toList_extract, catT_list]
    simp
  obtain ⟨k, h1, h2, h3, h4, h5⟩ := scan_front L (stopAt e keep) (stopAt e keep) hg hcl (Nat.le_refl _)
  have hjk := h5 j hj hlow
  have hsc : scanT (stopP keep e).text = ((scan (stopAt e keep) ((catL L).take (stopAt e keep))).1, (scan (stopAt e keep) ((catL L).take (stopAt e keep))).2) := by
    unfold scanT stopP
    simp only
    rw [he, htx _ hcl, List.length_take, Nat.min_eq_left hcl]
  rw [List.map_append, hpre]
  have hgk : Good (L.take k) := fun x hx => hg x (List.mem_of_mem_take hx)
  have hres : (A ++ L).take (A.length + k) = A ++ L.take k := by
    rw [List.take_append, List.take_of_length_le (by omega), Nat.add_sub_cancel_left]
  refine ⟨A.length + k, by omega, by simp; omega, ?_, ?_⟩
  · rw [whole_open _ hw, hres]
    simp only [List.map_cons, List.map_nil]
    rcases h4 with ⟨_, h4⟩ | h4
    · rw [openL_whole (by rw [hsc, h3, h4])]
      simp [openL]
    · rw [openL_cut (by rw [hsc, h3, h4])]
  · rw [whole_open _ hw]
    simp only [List.map_cons, List.map_nil]
    rcases h4 with ⟨h6, h4⟩ | h4
    · rw [openL_whole (by rw [hsc, h3, h4])]
      simp only [openL]
      rw [whole_open _ hw, openL_whole (by rw [hsc, h3, h4]), hres]
      simp [openL]
    · rw [openL_cut (by rw [hsc, h3, h4])]
      have hcut : (cutP (stopP keep e) (catL (L.take k)).length).text = catT (L.take k) := by
        apply ByteArray.ext
        apply Array.ext'
        unfold cutP stopP
        simp only
        rw [ByteArray.data_extract, Array.toList_extract, he, htx _ hcl, catT_list]
        simp only [List.extract_eq_take_drop, List.drop_zero, Nat.sub_zero]
        rw [List.take_take, Nat.min_eq_left h2]
        have hsplit : catL L = catL (L.take k) ++ catL (L.drop k) := by rw [← catL_append, List.take_append_drop]
        rw [hsplit, List.take_left]
      rw [whole_open _ hw, openL_whole (by rw [hcut]; exact scan_whole hgk), hres]
      simp [openL]
end Go.Proofs.YtphhebdmfdjfeagGreatDoor.Dk

namespace Go.Proofs.YtphhebdmfdjfeagGreatDoor.Dk
open Go.RowKit

structure Lists (Has : World → Nat → Nat → (Nat → Prop) → Int → List Pap → Prop) : Prop where
  list : ∀ {w B q F m es}, Has w B q F m es → Tidy m es → m ≤ 65536 → B ≤ w.heap.size →
    Calls Tryz.prog 45 #[.pointer (some ⟨q, 0, none⟩)] w fun e w' => ∃ a c, e = .returned (.slice a es.length c) ∧ (es.length ≤ c ∧ c ≤ maxLen) ∧ SlI w' a (numL es) ∧ (∀ z, a = some z → w.heap.size ≤ z.block ∧ z.block < w'.heap.size) ∧ Below w.heap.size w w'
  reads : ∀ {w B q F m es} (n : Int), wf n → Has w B q F m es → Tidy m es → m ≤ 65536 → B ≤ w.heap.size →
    Calls Tryz.prog 59 #[.pointer (some ⟨q, 0, none⟩), .int .i64 n] w fun e w' => e = .returned (readV es n) ∧ Below w.heap.size w w'
  tries : ∀ {w B q F m es} (n : Int) (s : ByteArray), Has w B q F m es → Tidy m es → m ≤ 65536 → s.size ≤ 140737488355328 → B ≤ w.heap.size →
    Calls Tryz.prog 46 #[.pointer (some ⟨q, 0, none⟩), .int .i64 n, .string s] w fun e w' => e = .returned (.int .i64 (appE es m n s)) ∧ Below w.heap.size w w'
  drops : ∀ {w B q F m es} (n : Int), wf n → Has w B q F m es → Tidy m es → m ≤ 65536 → B ≤ w.heap.size →
    Calls Tryz.prog 49 #[.pointer (some ⟨q, 0, none⟩), .int .i64 n] w fun e w' => e = .returned (.int .i64 (hasE es n)) ∧ Has w' B q F m (remL es n) ∧ Chg F w w'
/-- blocks that a step has left as they were -/
def Kept (Cs : Nat → Prop) (w w' : World) : Prop := w.heap.size ≤ w'.heap.size ∧ ∀ k, Cs k → w'.heap[k]? = w.heap[k]?
theorem Kept.cell {Cs : Nat → Prop} {w w' : World} (h : Kept Cs w w') {C j : Nat} (hC : Cs C) : w'.cell? ⟨C, j, none⟩ = w.cell? ⟨C, j, none⟩ := World.cell?_of_block (w := w) (h.2 C hC)
theorem Kept.nums {Cs : Nat → Prop} {w w' : World} {a : Option Addr} {l : List Int} (h : Kept Cs w w') (s : SlI w a l) (hn : ∀ z, a = some z → Cs z.block) : SlI w' a l := fun k hk => by
  obtain ⟨b, o, h1, h2, h3⟩ := s k hk
  exact ⟨b, o, h1, Nat.lt_of_lt_of_le h2 h.1, by rw [h.cell (hn ⟨b, o, none⟩ h1)]; exact h3⟩
theorem Kept.recs {Cs : Nat → Prop} {w w' : World} {a : Option Addr} {l : List Rc} (h : Kept Cs w w') (s : SlR w a l) (hn : ∀ z, a = some z → Cs z.block) : SlR w' a l := fun k hk => by
  obtain ⟨b, o, h1, h2⟩ := s k hk
  have hb : Cs b := hn _ h1
  exact ⟨b, o, h1, ⟨Nat.lt_of_lt_of_le h2.lt h.1, by rw [h.cell hb]; exact h2.c0, by rw [h.cell hb]; exact h2.c1, by rw [h.cell hb]; exact h2.c2, by rw [h.cell hb]; exact h2.c3, by rw [h.cell hb]; exact h2.c4, by rw [h.cell hb]; exact h2.c5⟩⟩
/-- a disk on its way from w to wr: what it shows now; the blocks Cs are none of its own -/
def Run (Has : World → Nat → Nat → (Nat → Prop) → Int → List Pap → Prop) (Cs : Nat → Prop) (w wr : World) (B q : Nat) (F : Nat → Prop) (m : Int) (es : List Pap) : Prop :=
  ∃ F', Has wr B q F' m es ∧ Chg F w wr ∧ (∀ k, F' k → F k ∨ w.heap.size ≤ k) ∧ ∀ k, Cs k → k < wr.heap.size ∧ ¬ F' k
section
variable {Has : World → Nat → Nat → (Nat → Prop) → Int → List Pap → Prop} {Cs : Nat → Prop} {w wr w' : World} {B q : Nat} {F : Nat → Prop} {m : Int} {es es' : List Pap}
theorem Run.start (h : Has w B q F m es) (hC : ∀ k, Cs k → k < w.heap.size ∧ ¬ F k) : Run Has Cs w w B q F m es := ⟨F, h, Chg.refl _ _, fun _ hk => .inl hk, hC⟩
theorem Run.room (h : Run Has Cs w wr B q F m es) : w.heap.size ≤ wr.heap.size := by
  obtain ⟨F', _, h2, _⟩ := h
  exact h2.size
theorem Run.fewer {Cs' : Nat → Prop} (h : Run Has Cs w wr B q F m es) (hC : ∀ k, Cs' k → Cs k) : Run Has Cs' w wr B q F m es := by
  obtain ⟨F', h1, h2, h3, h4⟩ := h
  exact ⟨F', h1, h2, h3, fun k hk => h4 k (hC k hk)⟩
theorem chg_more {A A' : Nat → Prop} {a b c : World} (h : Chg A a b) (k : Chg A' b c) (hA : ∀ i, i < a.heap.size → A' i → A i) : Chg A a c :=
  ⟨k.os.trans h.os, k.tape.trans h.tape, k.output.trans h.output, Nat.le_trans h.size k.size, fun i hi hn => (k.block i (Nat.lt_of_lt_of_le hi h.size) (fun z => hn (hA i hi z))).trans (h.block i hi hn)⟩
theorem Run.below (H : Works Has) (h : Run Has Cs w wr B q F m es) (hb : Below wr.heap.size wr w') : Run Has Cs w w' B q F m es ∧ Kept Cs wr w' := by
  obtain ⟨F', h1, h2, h3, h4⟩ := h
  exact ⟨⟨F', H.chg (A := fun _ => False) h1 (Chg.of_below hb) (fun _ _ z => z), h2.trans (Chg.of_below hb), h3, fun k hk => ⟨Nat.lt_of_lt_of_le (h4 k hk).1 hb.size, (h4 k hk).2⟩⟩, hb.size, fun k hk => hb.block k (h4 k hk).1⟩
/-- new blocks may be kept -/
theorem Run.mine (H : Works Has) {Cs' : Nat → Prop} (h : Run Has Cs w wr B q F m es) (hb : Below wr.heap.size wr w') (hn : ∀ k, Cs' k → Cs k ∨ wr.heap.size ≤ k ∧ k < w'.heap.size) : Run Has Cs' w w' B q F m es := by
  obtain ⟨F', h1, h2, h3, h4⟩ := h
  refine ⟨F', H.chg (A := fun _ => False) h1 (Chg.of_below hb) (fun _ _ z => z), h2.trans (Chg.of_below hb), h3, fun k hk => ?_⟩
  rcases hn k hk with y | y
  · exact ⟨Nat.lt_of_lt_of_le (h4 k y).1 hb.size, (h4 k y).2⟩
  · exact ⟨y.2, fun z => by have := (H.own h1 k z).2; omega⟩
/-- a block of one's own, new behind w, is written -/
theorem Run.own (H : Works Has) {A Cs' : Nat → Prop} (h : Run Has Cs w wr B q F m es) (hc : Chg A wr w') (hA : ∀ k, A k → Cs k ∧ w.heap.size ≤ k) (hn : ∀ k, Cs' k → Cs k ∨ wr.heap.size ≤ k ∧ k < w'.heap.size) : Run Has Cs' w w' B q F m es := by
  obtain ⟨F', h1, h2, h3, h4⟩ := h
  refine ⟨F', H.chg h1 hc (fun k hk z => (h4 k (hA k z).1).2 hk), chg_more h2 hc (fun i hi z => by have := (hA i z).2; omega), h3, fun k hk => ?_⟩
  rcases hn k hk with y | y
  · exact ⟨Nat.lt_of_lt_of_le (h4 k y).1 hc.size, (h4 k y).2⟩
  · exact ⟨y.2, fun z => by have := (H.own h1 k z).2; omega⟩
theorem Run.didc (h : Run Has Cs w wr B q F m es) {fn : FuncId} {args : Array Value} {Q : Ending → World → Prop}
    (hc : ∀ F', Has wr B q F' m es → (∀ k, Cs k → k < wr.heap.size ∧ ¬ F' k) → Calls Tryz.prog fn args wr fun e w' => Q e w' ∧ Did Has wr w' B q F' m es') :
    Calls Tryz.prog fn args wr fun e w' => Q e w' ∧ Run Has Cs w w' B q F m es' ∧ Kept Cs wr w' := by
  have hr := h.room
  obtain ⟨F', h1, h2, h3, h4⟩ := h
  refine (hc F' h1 h4).mono ?_
  rintro e w' ⟨hq, F2, a1, a2, a3⟩
  refine ⟨hq, ⟨F2, a1, chg_more h2 a2 (fun i hi z => ?_), fun k hk => ?_, fun k hk => ⟨Nat.lt_of_lt_of_le (h4 k hk).1 a2.size, fun z => ?_⟩⟩, a2.size, fun k hk => a2.block k (h4 k hk).1 (h4 k hk).2⟩
  · rcases h3 i z with y | y
    · exact y
    · omega
  · rcases a3 k hk with y | y
    · exact h3 k y
    · exact .inr (Nat.le_trans hr y)
  · rcases a3 k z with y | y
    · exact (h4 k hk).2 y
    · have := (h4 k hk).1; omega
theorem Run.did (h : Run Has Cs w wr B q F m es) {fn : FuncId} {args : Array Value} {Q : Ending → World → Prop}
    (hc : ∀ F', Has wr B q F' m es → Calls Tryz.prog fn args wr fun e w' => Q e w' ∧ Did Has wr w' B q F' m es') :
    Calls Tryz.prog fn args wr fun e w' => Q e w' ∧ Run Has Cs w w' B q F m es' ∧ Kept Cs wr w' := h.didc (fun F' hF _ => hc F' hF)
/-- a call that leaves the disk -/
theorem Run.looks (H : Works Has) (h : Run Has Cs w wr B q F m es) {fn : FuncId} {args : Array Value} {Q : Ending → World → Prop}
    (hc : ∀ F', Has wr B q F' m es → Calls Tryz.prog fn args wr fun e w' => Q e w' ∧ Below wr.heap.size wr w') :
    Calls Tryz.prog fn args wr fun e w' => Q e w' ∧ Run Has Cs w w' B q F m es ∧ Kept Cs wr w' := by
  obtain ⟨F', h1, _⟩ := id h
  refine (hc F' h1).mono ?_
  rintro e w' ⟨hq, hb⟩
  exact ⟨hq, h.below H hb⟩
theorem Run.list (H : Works Has) (HS : Lists Has) (h : Run Has Cs w wr B q F m es) (ht : Tidy m es) (hm : m ≤ 65536) (hB : B ≤ w.heap.size) :
    Calls Tryz.prog 45 #[.pointer (some ⟨q, 0, none⟩)] wr fun e w' => ∃ a c, e = .returned (.slice a es.length c) ∧ (es.length ≤ c ∧ c ≤ maxLen) ∧ SlI w' a (numL es) ∧ Run Has (fun k => Cs k ∨ ∃ z, a = some z ∧ z.block = k) w w' B q F m es ∧ Kept Cs wr w' := by
  have hr := h.room
  have h' := h
  obtain ⟨F', h1, h2, h3, h4⟩ := h'
  refine (HS.list h1 ht hm (Nat.le_trans hB hr)).mono ?_
  rintro e w' ⟨a, c, he, hc, hs, ha, hb⟩
  refine ⟨a, c, he, hc, hs, h.mine H hb (fun k hk => ?_), (h.below H hb).2⟩
  rcases hk with y | ⟨z, hz, rfl⟩
  · exact .inl y
  · exact .inr (ha z hz)
theorem Run.done (h : Run Has Cs w wr B q F m es) : Did Has w wr B q F m es := by
  obtain ⟨F', h1, h2, h3, _⟩ := h
  exact ⟨F', h1, h2, h3⟩
end
/-- a log in a block of its own: the disk, the size -/
def LHof (Has : World → Nat → Nat → (Nat → Prop) → Int → List Pap → Prop) (g : Nat) (size : Int) (w : World) (B q : Nat) (F : Nat → Prop) (m : Int) (es : List Pap) : Prop :=
  ∃ F0, Has w B q F0 m es ∧ (B ≤ g ∧ g < w.heap.size) ∧ ¬ F0 g ∧ w.cell? ⟨g, 0, none⟩ = some (.pointer (some ⟨q, 0, none⟩)) ∧ w.cell? ⟨g, 1, none⟩ = some (.int .i64 size) ∧ ∀ k, F k ↔ F0 k ∨ k = g
section
variable {Has : World → Nat → Nat → (Nat → Prop) → Int → List Pap → Prop} {Cs : Nat → Prop} {w wr w' : World} {B q g : Nat} {size : Int} {F : Nat → Prop} {m : Int} {es es' : List Pap}
/-- what a method of a log begins with, and ends with -/
theorem LHof.begin (h : LHof Has g size w B q F m es) : ∃ F0, Run Has (fun k => k = g) w w B q F0 m es ∧ w.cell? ⟨g, 0, none⟩ = some (.pointer (some ⟨q, 0, none⟩)) ∧ w.cell? ⟨g, 1, none⟩ = some (.int .i64 size) ∧ (∀ k, F0 k → F k) ∧ ∀ wr es', Run Has (fun k => k = g) w wr B q F0 m es' → Did (LHof Has g size) w wr B q F m es' := by
  obtain ⟨F0, h1, h2, h3, h4, h5, h6⟩ := h
  refine ⟨F0, Run.start h1 (fun k hk => by subst hk; exact ⟨h2.2, h3⟩), h4, h5, fun k hk => (h6 k).2 (.inl hk), fun wr es' hr => ?_⟩
  obtain ⟨F', r1, r2, r3, r4⟩ := hr
  have hc : Chg F w wr := r2.mono (fun k _ hk => (h6 k).2 (.inl hk))
  refine ⟨fun k => F' k ∨ k = g, ⟨F', r1, ⟨h2.1, (r4 g rfl).1⟩, (r4 g rfl).2, ?_, ?_, fun k => Iff.rfl⟩, hc, fun k hk => ?_⟩
  · rw [r2.cell (p := ⟨g, 0, none⟩) h2.2 h3]; exact h4
  · rw [r2.cell (p := ⟨g, 1, none⟩) h2.2 h3]; exact h5
  · rcases hk with y | y
    · rcases r3 k y with z | z
      · exact .inl ((h6 k).2 (.inl z))
      · exact .inr z
    · exact .inl ((h6 k).2 (.inr y))
theorem LHof.did (h : LHof Has g size w B q F m es) {fn : FuncId} {args : Array Value} {Q : Ending → World → Prop}
    (hc : ∀ F', Has w B q F' m es → Calls Tryz.prog fn args w fun e w' => Q e w' ∧ Did Has w w' B q F' m es') :
    Calls Tryz.prog fn args w fun e w' => Q e w' ∧ Did (LHof Has g size) w w' B q F m es' := by
  obtain ⟨F0, hr, _, _, _, hfin⟩ := h.begin
  refine (hr.did hc).mono ?_
  rintro e w' ⟨h1, h2, _⟩
  exact ⟨h1, hfin _ _ h2⟩
theorem LHof.down (h : LHof Has g size w B q F m es) : ∃ F0, Has w B q F0 m es ∧ ∀ k, F0 k → F k := by
  obtain ⟨F0, h1, _, _, _, _, h6⟩ := h
  exact ⟨F0, h1, fun k hk => (h6 k).2 (.inl hk)⟩
theorem LHof.looks (H : More Has) (g : Nat) (size : Int) : Looks (LHof Has g size) where
  own := fun h k hk => by
    obtain ⟨F0, h1, h2, _, _, _, h6⟩ := h
    rcases (h6 k).1 hk with y | y
    · exact H.works.own h1 k y
    · subst y; exact h2
  chg := fun h hc hn => by
    obtain ⟨F0, h1, h2, h3, h4, h5, h6⟩ := h
    have hg := hn g ((h6 g).2 (.inr rfl))
    exact ⟨F0, H.works.chg h1 hc (fun k hk => hn k ((h6 k).2 (.inl hk))), ⟨h2.1, Nat.lt_of_lt_of_le h2.2 hc.size⟩, h3, by rw [hc.cell (p := ⟨g, 0, none⟩) h2.2 hg]; exact h4, by rw [hc.cell (p := ⟨g, 1, none⟩) h2.2 hg]; exact h5, h6⟩
  read := fun n hw h ht hm hB => h.did (Q := fun e _ => e = .returned (readV _ n)) (fun F' hF => H.works.read n hw hF ht hm hB)
  used := fun h ht hm hB => h.did (Q := fun e _ => e = .returned (.int .i64 (used _ : Int))) (fun F' hF => H.works.used hF ht hm hB)
  list := fun {w B q F m es} h ht hm hB => (h.did (Q := fun e w' => ∃ a c, e = .returned (.slice a es.length c) ∧ SlI w' a (numL es)) (fun F' hF => (H.list hF ht hm hB).mono (fun e w' ⟨a, c, x, y, z⟩ => ⟨⟨a, c, x, y⟩, z⟩))).mono (fun e w' ⟨⟨a, c, x, y⟩, z⟩ => ⟨a, c, x, y, z⟩)
/-- a log that is made behind a run -/
theorem Run.log {F0 : Nat → Prop} (h : Run Has Cs w wr B q F0 m es) (hC : Cs g) (hB : B ≤ g) (hg : w.heap.size ≤ g) (c0 : wr.cell? ⟨g, 0, none⟩ = some (.pointer (some ⟨q, 0, none⟩))) (c1 : wr.cell? ⟨g, 1, none⟩ = some (.int .i64 size)) :
    ∃ F', LHof Has g size wr B q F' m es ∧ Chg F0 w wr ∧ (∀ k, F' k → F0 k ∨ w.heap.size ≤ k) ∧ ∀ k, Cs k → k ≠ g → ¬ F' k := by
  obtain ⟨F', r1, r2, r3, r4⟩ := h
  refine ⟨fun k => F' k ∨ k = g, ⟨F', r1, ⟨hB, (r4 g hC).1⟩, (r4 g hC).2, c0, c1, fun k => Iff.rfl⟩, r2, fun k hk => ?_, fun k hk hne z => ?_⟩
  · rcases hk with y | y
    · exact r3 k y
    · exact .inr (by omega)
  · rcases z with y | y
    · exact (r4 k hk).2 y
    · exact hne y
end
theorem has_pa {m : Int} {es : List Pap} (ht : Tidy m es) {i : Nat} (h : i < es.length) : hasE es (pa es i).n = 0 := by
  have hi : ix es (pa es i).n = i := by
    refine ix_hit h rfl (fun j hj => ?_)
    have := rise_pa ht.rise hj h
    rw [beq_eq_false_iff_ne]
    omega
  unfold hasE
  rw [hi, if_pos h]
theorem lsync_none {es : List Pap} (h : es.length = 0) : lsyncL es = es := by unfold lsyncL; rw [if_pos h]
theorem lsync_last {es : List Pap} {k : Nat} (h : k + 1 = es.length) : lsyncL es = syncL es (pa es k).n := by unfold lsyncL; rw [if_neg (by omega), pa_last h]
theorem SlI.num {w : World} {a : Option Addr} {es : List Pap} (s : SlI w a (numL es)) {i : Nat} (hi : i < es.length) : ∃ b o, a = some ⟨b, o, none⟩ ∧ b < w.heap.size ∧ w.cell? ⟨b, o + i, none⟩ = some (.int .i64 (pa es i).n) := by
  obtain ⟨b, o, h1, h2, h3⟩ := s i (by unfold numL; rw [List.length_map]; exact hi)
  rw [num_nth hi] at h3
  exact ⟨b, o, h1, h2, h3⟩
end Go.Proofs.YtphhebdmfdjfeagGreatDoor.Dk
