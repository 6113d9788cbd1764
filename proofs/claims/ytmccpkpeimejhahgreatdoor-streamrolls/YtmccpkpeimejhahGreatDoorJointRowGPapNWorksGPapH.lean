/-
  Rows of records in memory (six cells each): a row of one's own, a slice that shows records, an append of one record. No walk.
  Records whose texts can be; how long a record's bytes are. No walk.
  What is asked of the program's log, whatever it is made of.
  The document's log, pure: what the steps of an opening, an append and a rewriting make of the files; the running state of a disk.
-/
import Derived.Test.YtmccpkpeimejhahGreatDoorJointPlainRecPlainSPlainR2PapG
import Derived.Test.YtmccpkpeimejhahGreatDoorJointPapMWorksDWorksEPlainN
namespace Go.Proofs.YtmccpkpeimejhahGreatDoor.Dk
open Go.RowKit

def rc (l : List Rc) (k : Nat) : Rc := l[k]?.getD ⟨0, 0, 0, ByteArray.empty, ByteArray.empty, ByteArray.empty⟩
theorem rc_get {l : List Rc} {k : Nat} (h : k < l.length) : rc l k = l[k] := by unfold rc; rw [List.getElem?_eq_getElem h]; rfl
/-- the cells of a row of records -/
def celR : List Rc → List Value
  | [] => []
  | r :: l => .int .i64 r.k :: .int .i64 r.q :: .int .i64 r.t :: .string r.s :: .string r.h :: .string r.d :: celR l
theorem celR_length : ∀ l : List Rc, (celR l).length = l.length * 6
  | [] => rfl
  | r :: l => by simp [celR, celR_length l]; omega
theorem celR_append : ∀ a b : List Rc, celR (a ++ b) = celR a ++ celR b
  | [], _ => rfl
  | r :: a, b => by simp [celR, celR_append a b]
theorem celR_one : ∀ (l : List Rc), ∀ v ∈ celR l, v.oneCell' = true
  | [], v, h => by simp [celR] at h
  | r :: l, v, h => by
    simp only [celR, List.mem_cons] at h
    rcases h with h | h | h | h | h | h | h
    · subst h; rfl
    · subst h; rfl
    · subst h; rfl
    · subst h; rfl
    · subst h; rfl
    · subst h; rfl
    · exact celR_one l v h
/-- the six cells of one record -/
structure Six (w : World) (b o : Nat) (r : Rc) : Prop where
  lt : b < w.heap.size
  c0 : w.cell? ⟨b, o, none⟩ = some (.int .i64 r.k)
  c1 : w.cell? ⟨b, o + 1, none⟩ = some (.int .i64 r.q)
  c2 : w.cell? ⟨b, o + 2, none⟩ = some (.int .i64 r.t)
  c3 : w.cell? ⟨b, o + 3, none⟩ = some (.string r.s)
  c4 : w.cell? ⟨b, o + 4, none⟩ = some (.string r.h)
  c5 : w.cell? ⟨b, o + 5, none⟩ = some (.string r.d)
theorem Six.chg {A : Nat → Prop} {w w' : World} {b o : Nat} {r : Rc} (h : Six w b o r) (hc : Chg A w w') (hn : ¬ A b) : Six w' b o r :=
  ⟨Nat.lt_of_lt_of_le h.lt hc.size, by rw [hc.cell (p := ⟨b, o, none⟩) h.lt hn]; exact h.c0, by rw [hc.cell (p := ⟨b, o + 1, none⟩) h.lt hn]; exact h.c1, by rw [hc.cell (p := ⟨b, o + 2, none⟩) h.lt hn]; exact h.c2, by rw [hc.cell (p := ⟨b, o + 3, none⟩) h.lt hn]; exact h.c3, by rw [hc.cell (p := ⟨b, o + 4, none⟩) h.lt hn]; exact h.c4, by rw [hc.cell (p := ⟨b, o + 5, none⟩) h.lt hn]; exact h.c5⟩
theorem Six.below {B : Nat} {w w' : World} {b o : Nat} {r : Rc} (h : Six w b o r) (hb : Below B w w') (hB : b < B) : Six w' b o r :=
  ⟨Nat.lt_of_lt_of_le h.lt hb.size, by rw [hb.cell (p := ⟨b, o, none⟩) hB]; exact h.c0, by rw [hb.cell (p := ⟨b, o + 1, none⟩) hB]; exact h.c1, by rw [hb.cell (p := ⟨b, o + 2, none⟩) hB]; exact h.c2, by rw [hb.cell (p := ⟨b, o + 3, none⟩) hB]; exact h.c3, by rw [hb.cell (p := ⟨b, o + 4, none⟩) hB]; exact h.c4, by rw [hb.cell (p := ⟨b, o + 5, none⟩) hB]; exact h.c5⟩
theorem celR_at : ∀ (l : List Rc) (k : Nat), k < l.length → (celR l)[k * 6]? = some (.int .i64 (rc l k).k) ∧ (celR l)[k * 6 + 1]? = some (.int .i64 (rc l k).q) ∧ (celR l)[k * 6 + 2]? = some (.int .i64 (rc l k).t) ∧ (celR l)[k * 6 + 3]? = some (.string (rc l k).s) ∧ (celR l)[k * 6 + 4]? = some (.string (rc l k).h) ∧ (celR l)[k * 6 + 5]? = some (.string (rc l k).d)
  | [], k, h => absurd h (Nat.not_lt_zero k)
  | r :: l, 0, _ => ⟨rfl, rfl, rfl, rfl, rfl, rfl⟩
  | r :: l, k + 1, h => by
    rw [show (k + 1) * 6 = k * 6 + 1 + 1 + 1 + 1 + 1 + 1 by omega]
    have := celR_at l k (by simpa using h)
    have e : rc (r :: l) (k + 1) = rc l k := rfl
    rw [e]
    refine ⟨?_, ?_, ?_, ?_, ?_, ?_⟩
    · simp only [celR, List.getElem?_cons_succ]; exact this.1
    · rw [show k * 6 + 1 + 1 + 1 + 1 + 1 + 1 + 1 = (k * 6 + 1) + 1 + 1 + 1 + 1 + 1 + 1 by omega]; simp only [celR, List.getElem?_cons_succ]; exact this.2.1
    · rw [show k * 6 + 1 + 1 + 1 + 1 + 1 + 1 + 2 = (k * 6 + 2) + 1 + 1 + 1 + 1 + 1 + 1 by omega]; simp only [celR, List.getElem?_cons_succ]; exact this.2.2.1
    · rw [show k * 6 + 1 + 1 + 1 + 1 + 1 + 1 + 3 = (k * 6 + 3) + 1 + 1 + 1 + 1 + 1 + 1 by omega]; simp only [celR, List.getElem?_cons_succ]; exact this.2.2.2.1
    · rw [show k * 6 + 1 + 1 + 1 + 1 + 1 + 1 + 4 = (k * 6 + 4) + 1 + 1 + 1 + 1 + 1 + 1 by omega]; simp only [celR, List.getElem?_cons_succ]; exact this.2.2.2.2.1
    · rw [show k * 6 + 1 + 1 + 1 + 1 + 1 + 1 + 5 = (k * 6 + 5) + 1 + 1 + 1 + 1 + 1 + 1 by omega]; simp only [celR, List.getElem?_cons_succ]; exact this.2.2.2.2.2
theorem infoR : (Tryz.prog.info? 42).map (fun i => (i.zero, i.size, i.bytes)) = some (some (.agg #[.int .i64 0, .int .i64 0, .int .i64 0, .string ByteArray.empty, .string ByteArray.empty, .string ByteArray.empty]), 6, 72) := by kernel_rfl
/-- a row of records that is one's own from block B on -/
def ArrR (w : World) (B : Nat) (v : Value) (l : List Rc) : Prop := w.ownsRow B 42 6 v l.length (celR l)
theorem ArrR.empty (w : World) (B : Nat) : ArrR w B (.slice none 0 0) [] := World.ownsRow_nil w B _ 6
theorem ArrR.chg {A : Nat → Prop} {w w' : World} {B : Nat} {v : Value} {l : List Rc} (h : ArrR w B v l) (hb : Chg A w w') (hn : ∀ g, v.ownBlock = some g → ¬ A g) : ArrR w' B v l := by
  refine ⟨h.1, ?_⟩
  rcases h.2 with q | ⟨g, cap, cur, h1, h2, h3, r⟩
  · exact .inl q
  · refine .inr ⟨g, cap, cur, h1, h2, ?_, r⟩
    rw [hb.block g (h.lt g (by rw [h1]; rfl)).2 (hn g (by rw [h1]; rfl))]
    exact h3
theorem ArrR.below {w w' : World} {B : Nat} {v : Value} {l : List Rc} (h : ArrR w B v l) (hb : Below w.heap.size w w') : ArrR w' B v l := h.chg (A := fun _ => False) (Chg.of_below hb) (fun _ _ z => z)
/-- a slice that shows records -/
def SlR (w : World) (a : Option Addr) (l : List Rc) : Prop := ∀ k, k < l.length → ∃ b o, a = some ⟨b, o, none⟩ ∧ Six w b (o + k * 6) (rc l k)
theorem SlR.below {w w' : World} {a : Option Addr} {l : List Rc} (h : SlR w a l) (hb : Below w.heap.size w w') : SlR w' a l := fun k hk => by
  obtain ⟨b, o, h1, h2⟩ := h k hk
  exact ⟨b, o, h1, h2.below hb h2.lt⟩
theorem SlR.chg {A : Nat → Prop} {w w' : World} {a : Option Addr} {l : List Rc} (h : SlR w a l) (hc : Chg A w w') (hn : ∀ p, a = some p → ¬ A p.block) : SlR w' a l := fun k hk => by
  obtain ⟨b, o, h1, h2⟩ := h k hk
  exact ⟨b, o, h1, h2.chg hc (hn _ h1)⟩
theorem ArrR.shape {w : World} {B : Nat} {v : Value} {l : List Rc} (h : ArrR w B v l) : ∃ a cap, v = .slice a l.length cap ∧ l.length ≤ cap ∧ cap ≤ maxLen ∧ SlR w a l := by
  rcases h.2 with ⟨h1, h2⟩ | ⟨g, cap, cur, h1, h2, h3, h4, h5, h6, h7⟩
  · exact ⟨none, 0, by rw [h1, h2], by omega, by simp [maxLen], fun k hk => by omega⟩
  · refine ⟨_, cap, h1, h4, h5, fun k hk => ⟨g, 0, rfl, ?_⟩⟩
    have hl := (h.lt g (by rw [h1]; rfl)).2
    have hat := celR_at l k hk
    rw [h1] at h
    refine ⟨hl, ?_, ?_, ?_, ?_, ?_, ?_⟩
    · rw [World.ownsRow.cellAt h (0 + k * 6) (by omega), Nat.zero_add]; exact hat.1
    · rw [World.ownsRow.cellAt h (0 + k * 6 + 1) (by omega), Nat.zero_add]; exact hat.2.1
    · rw [World.ownsRow.cellAt h (0 + k * 6 + 2) (by omega), Nat.zero_add]; exact hat.2.2.1
    · rw [World.ownsRow.cellAt h (0 + k * 6 + 3) (by omega), Nat.zero_add]; exact hat.2.2.2.1
    · rw [World.ownsRow.cellAt h (0 + k * 6 + 4) (by omega), Nat.zero_add]; exact hat.2.2.2.2.1
    · rw [World.ownsRow.cellAt h (0 + k * 6 + 5) (by omega), Nat.zero_add]; exact hat.2.2.2.2.2
/-- a record in a block of its own -/
theorem six_row (w : World) (r : Rc) : ∀ j u, (celR [r])[j]? = some u → (w.alloc (.cells #[.int .i64 r.k, .int .i64 r.q, .int .i64 r.t, .string r.s, .string r.h, .string r.d] 42)).cell? ((⟨w.heap.size, 0, none⟩ : Addr).add j) = some u := by
  intro j u hj
  rw [Addr.add_lit, Nat.zero_add, cell_of_row _ w.heap.size j _ _ _ (heap_alloc_new w _)]
  simpa [celR] using hj
/-- append of one record onto a row of one's own: where the new row lies -/
theorem append_rec (w : World) (B : Nat) (ty : TypeId) (v : Value) (l fs : List Rc) (ha : ArrR w B v l) (a : Addr) (c : Nat) (hnews : ∀ j u, (celR fs)[j]? = some u → w.cell? (a.add j) = some u) (hl : l.length + fs.length ≤ 1000000) (hB : B ≤ w.heap.size) :
    ∃ v' w', (Builtin.append_ #[37, 37] ty #[v, .slice (some a) fs.length c]).run Tryz.prog w = .ok v' w' ∧ ArrR w' B v' (l ++ fs) ∧ Chg (fun k => v.ownBlock = some k) w w' ∧ ∀ g, v'.ownBlock = some g → v.ownBlock = some g ∨ w.heap.size ≤ g := by
  obtain ⟨i0, hi, hz0, hz1, hz2⟩ := info_parts infoR
  have hlen : (celR fs).length = fs.length * 6 := celR_length fs
  obtain ⟨v', w', hr, h2, h3, h4⟩ := run_append_own (P := Tryz.prog) w B 37 ty 42 i0 _ 6 72 Tryz.underlying37 hi hz0 hz1 hz2 rfl (by omega) v l.length (celR l) ha a fs.length c (celR fs) hlen hnews (celR_one fs) (by unfold maxLen; omega) (by omega) hB
  refine ⟨v', w', hr, ?_, Chg.of_grown h3, fun k hk => ?_⟩
  · unfold ArrR
    rw [List.length_append, celR_append]
    exact h2
  · rcases ha.2 with ⟨rfl, hn⟩ | ⟨g, cap, cur, rfl, hbg, hg, hnc, hcm, hcs, htake⟩
    · by_cases hm : fs.length = 0
      · rw [h4.2 ⟨rfl, hm⟩] at hk; cases hk
      · right
        have hr2 := run_append_nil (P := Tryz.prog) w 37 ty 42 i0 _ Tryz.underlying37 hi hz0 a fs.length c (celR fs) (by rw [hz1]; exact hlen) hnews (by omega) (by omega) (by rw [hz2]; omega)
        rw [hr] at hr2
        cases hr2
        simp only [Value.ownBlock, Option.some.injEq] at hk
        omega
    · by_cases hroom : l.length + fs.length ≤ cap
      · left
        obtain ⟨w2, hr2, _, _⟩ := run_append_fits (P := Tryz.prog) w B 37 ty 42 i0 6 Tryz.underlying37 hi hz1 g l.length cap (celR l) ha a fs.length c (celR fs) hlen hnews (celR_one fs) hroom
        rw [hr] at hr2
        cases hr2
        exact hk
      · right
        have hr2 := run_append_grow (P := Tryz.prog) w 37 ty 42 i0 _ Tryz.underlying37 hi hz0 ⟨g, 0, none⟩ l.length cap (celR l) (by rw [hz1]; exact ha.1) (World.ownsRow.cells ha (g := g) rfl) a fs.length c (celR fs) (by rw [hz1]; exact hlen) hnews (by omega) (by omega) (by rw [hz2]; exact growslice_fits (by omega) (by omega))
        rw [hr] at hr2
        cases hr2
        simp only [Value.ownBlock, Option.some.injEq] at hk
        omega
end Go.Proofs.YtmccpkpeimejhahGreatDoor.Dk

namespace Go.Proofs.YtmccpkpeimejhahGreatDoor.Dk
open Go.RowKit

/-- texts that can be -/
structure Small (r : Rc) : Prop where
  s : r.s.size ≤ 140737488355328
  h : r.h.size ≤ 140737488355328
  d : r.d.size ≤ 140737488355328
theorem Small.of {r : Rc} (hc : chkR r = 0) : Small r := by
  obtain ⟨_, _, _, _, _, _, h1, h2⟩ := Pk.chk_len (r := r.pk) hc
  have e : ∀ x : ByteArray, x.data.toList.length = x.size := fun x => by simp
  simp only [Rc.pk, e] at h1 h2
  exact ⟨by omega, by omega, by omega⟩
theorem Small.dec {l : List UInt8} (h : (Pk.dec l).2.2 = 0) : Small (rcOf (Pk.dec l).1) := Small.of (by unfold chkR; rw [rcOf_pk]; exact (Pk.dec_one h).1)
theorem codT_size {r : Rc} (h : chkR r = 0) : (codT r).size ≤ 1100 := by
  unfold codT
  rw [bt_size, Pk.cod_len]
  have hb := (Pk.bod_len (r := r.pk) h).2
  unfold Pk.txt
  rw [List.length_append]
  have := Pk.enc_few (n := (Pk.bod r.pk).length) (by omega)
  omega
end Go.Proofs.YtmccpkpeimejhahGreatDoor.Dk

namespace Go.Proofs.YtmccpkpeimejhahGreatDoor.Dk
open Go.RowKit

/-- what is asked of the program's log: LH g size says as a disk's own word that at block g there is a log of that size over the disk -/
structure LWorks (Has : World → Nat → Nat → (Nat → Prop) → Int → List Pap → Prop) (LH : Nat → Int → World → Nat → Nat → (Nat → Prop) → Int → List Pap → Prop) : Prop where
  looks : ∀ g size, Looks (LH g size)
  down : ∀ {g size w B q F m es}, LH g size w B q F m es → ∃ F0, Has w B q F0 m es ∧ ∀ k, F0 k → F k
  bad : ∀ {w B q F m es} (size : Int), inI size 1 4096 = false → Has w B q F m es → Tidy m es → m ≤ 65536 → B ≤ w.heap.size →
    Calls Tryz.prog 49 #[.pointer (some ⟨q, 0, none⟩), .int .i64 size] w fun e w' => (∃ a c, e = .returned (.tuple #[.pointer none, .slice a 0 c, .int .i64 1])) ∧ Below B w w'
  good : ∀ {w B q F m es} (size : Int), inI size 1 4096 = true → Has w B q F m es → Tidy m es → m ≤ 65536 → B ≤ w.heap.size →
    Calls Tryz.prog 49 #[.pointer (some ⟨q, 0, none⟩), .int .i64 size] w fun e w' => ∃ g a c F', e = .returned (.tuple #[.pointer (some ⟨g, 0, none⟩), .slice a (openL es).1.length c, .int .i64 0]) ∧ SlR w' a (openL es).1 ∧ (∀ z, a = some z → w.heap.size ≤ z.block ∧ z.block < w'.heap.size ∧ ¬ F' z.block) ∧ LH g size w' B q F' m (openL es).2 ∧ Chg F w w' ∧ ∀ k, F' k → F k ∨ w.heap.size ≤ k
  append : ∀ {g size w B q F m es} (r : Rc), Small r → inI size 1 4096 = true → LH g size w B q F m es → Tidy m es → m ≤ 65536 → B ≤ w.heap.size →
    Calls Tryz.prog 61 #[.pointer (some ⟨g, 0, none⟩), .agg #[.int .i64 r.k, .int .i64 r.q, .int .i64 r.t, .string r.s, .string r.h, .string r.d]] w fun e w' => e = .returned (.int .i64 (logP es m size r).1) ∧ Did (LH g size) w w' B q F m (logP es m size r).2
  sync : ∀ {g size w B q F m es}, inI size 1 4096 = true → LH g size w B q F m es → Tidy m es → m ≤ 65536 → B ≤ w.heap.size →
    Calls Tryz.prog 62 #[.pointer (some ⟨g, 0, none⟩)] w fun e w' => e = .returned (.int .i64 0) ∧ Did (LH g size) w w' B q F m (lsyncL es)
  blocks : ∀ {g size w B q F m es}, inI size 1 4096 = true → LH g size w B q F m es → Tidy m es → m ≤ 65536 → B ≤ w.heap.size →
    Calls Tryz.prog 118 #[.pointer (some ⟨g, 0, none⟩)] w fun e w' => ∃ a c, e = .returned (.slice a es.length c) ∧ SlI w' a (numL es) ∧ Did (LH g size) w w' B q F m es
end Go.Proofs.YtmccpkpeimejhahGreatDoor.Dk

namespace Go.Proofs.YtmccpkpeimejhahGreatDoor.Dk
open Go.RowKit

theorem pa_last {es : List Pap} {k : Nat} (h : k + 1 = es.length) : lastP es = pa es k := by unfold lastP; rw [← h]; rfl
theorem logR_bad {es : List Pap} {m size : Int} {r : Rc} (h : chkR r ≠ 0) : logR es m size r = (chkR r, es) := by unfold logR; rw [if_pos h]
theorem logR_first {es : List Pap} {m size : Int} {r : Rc} (h : chkR r = 0) (h0 : es.length = 0) : logR es m size r = (appE es m 0 (codT r), appL es m 0 (codT r)) := by
  unfold logR; rw [if_neg (by rw [h]; simp), if_pos h0]
theorem logR_next {es : List Pap} {m size : Int} {r : Rc} {k : Nat} (h : chkR r = 0) (hk : k + 1 = es.length) (hf : 0 < (pa es k).text.size ∧ size < ((pa es k).text.size : Int) + ((codT r).size : Int)) :
    logR es m size r = (appE (syncL es (pa es k).n) m ((pa es k).n + 1) (codT r), appL (syncL es (pa es k).n) m ((pa es k).n + 1) (codT r)) := by
  unfold logR fills
  rw [pa_last hk, if_neg (by rw [h]; simp), if_neg (by omega), if_pos (by simpa using hf)]
theorem logR_last {es : List Pap} {m size : Int} {r : Rc} {k : Nat} (h : chkR r = 0) (hk : k + 1 = es.length) (hf : ¬ (0 < (pa es k).text.size ∧ size < ((pa es k).text.size : Int) + ((codT r).size : Int))) :
    logR es m size r = (appE es m (pa es k).n (codT r), appL es m (pa es k).n (codT r)) := by
  unfold logR fills
  rw [pa_last hk, if_neg (by rw [h]; simp), if_neg (by omega), if_neg (by simpa using hf)]
theorem SlI.chg {A : Nat → Prop} {w w' : World} {a : Option Addr} {l : List Int} (h : SlI w a l) (hc : Chg A w w') (hn : ∀ q, a = some q → ¬ A q.block) : SlI w' a l := fun k hk => by
  obtain ⟨b, o, h1, h2, h3⟩ := h k hk
  exact ⟨b, o, h1, Nat.lt_of_lt_of_le h2 hc.size, by rw [hc.cell (p := ⟨b, o + k, none⟩) h2 (hn ⟨b, o, none⟩ h1)]; exact h3⟩
theorem Reads.len {es : List Pap} {i : Nat} {acc : List Rc} (h : Reads es i acc) : acc.length ≤ used es := by
  have := openL_len es
  unfold Reads at h
  rw [h, List.length_append] at this
  omega
theorem drop_ext (t : ByteArray) (p : Nat) : (t.extract p t.size).data.toList = t.data.toList.drop p := by
  rw [ByteArray.data_extract, Array.toList_extract]
  simp only [List.extract_eq_take_drop]
  rw [List.take_of_length_le]
  rw [List.length_drop]
  simp
theorem num_nth {es : List Pap} {i : Nat} (h : i < es.length) : nth (numL es) i = (pa es i).n := by
  unfold nth numL
  rw [List.getElem?_map, List.getElem?_eq_getElem h, pa_get h]
  rfl
theorem readV_pa {m : Int} {es : List Pap} (ht : Tidy m es) {i : Nat} (h : i < es.length) : readV es (pa es i).n = .tuple #[.string (pa es i).text, .int .i64 0] := by
  have hi : ix es (pa es i).n = i := by
    refine ix_hit h rfl (fun j hj => ?_)
    have := rise_pa ht.rise hj h
    rw [beq_eq_false_iff_ne]
    omega
  unfold readV
  rw [hi, if_pos h]
theorem cutL_pa {m : Int} {es : List Pap} (ht : Tidy m es) {i k : Nat} (h : i < es.length) (hk : k ≤ (pa es i).text.size) : cutL es (pa es i).n (k : Int) = es.take i ++ cutP (pa es i) k :: es.drop (i + 1) ∧ cutE es (pa es i).n (k : Int) = 0 := by
  have hi : ix es (pa es i).n = i := by
    refine ix_hit h rfl (fun j hj => ?_)
    have := rise_pa ht.rise hj h
    rw [beq_eq_false_iff_ne]
    omega
  have h0 : cutE es (pa es i).n (k : Int) = 0 := cut_ok.2 ⟨by rw [hi]; exact h, by unfold cutOk; rw [hi]; simp [inI]; omega⟩
  refine ⟨?_, h0⟩
  rw [cut_is h0, hi, set_split h, Int.toNat_natCast]
/-- the files behind the one that was cut, on their way -/
theorem rem_step {m : Int} {es : List Pap} (ht : Tidy m es) {i j k : Nat} (hi : i < j) (hj : j < es.length) : remL (es.take i ++ cutP (pa es i) k :: es.drop j) (pa es j).n = es.take i ++ cutP (pa es i) k :: es.drop (j + 1) := by
  rw [drop_pa hj]
  have hr : Rise ((es.take i ++ [cutP (pa es i) k]) ++ pa es j :: es.drop (j + 1)) := by
    rw [rise_num]
    have e : numL ((es.take i ++ [cutP (pa es i) k]) ++ pa es j :: es.drop (j + 1)) = numL (es.take (i + 1) ++ es.drop j) := by
      rw [take_pa (by omega), ← drop_pa hj]
      simp [numL, cutP]
    rw [e]
    have hs : (es.take (i + 1) ++ es.drop j).Sublist es := by
      conv => rhs; rw [← List.take_append_drop (i + 1) es]
      refine List.Sublist.append (List.Sublist.refl _) ?_
      rw [show j = (i + 1) + (j - (i + 1)) by omega, ← List.drop_drop]
      exact List.drop_sublist _ _
    exact List.Pairwise.sublist (hs.map _) ((rise_num es).1 ht.rise)
  have := rem_mid hr
  rw [List.append_assoc, List.append_assoc] at this
  simpa using this
theorem catT_append : ∀ a b : List Rc, catT (a ++ b) = catT a ++ catT b
  | [], b => by simp [catT]
  | r :: a, b => by rw [List.cons_append, catT, catT, catT_append a b, ByteArray.append_assoc]
theorem rtake {l : List Rc} {k : Nat} (h : k < l.length) : l.take (k + 1) = l.take k ++ [rc l k] := by rw [List.take_succ_eq_append_getElem h, rc_get h]
theorem catT_take {l : List Rc} {k : Nat} (h : k < l.length) : catT (l.take (k + 1)) = catT (l.take k) ++ codT (rc l k) := by
  rw [rtake h, catT_append]
  simp [catT]
theorem badOf_append : ∀ a b : List Rc, badOf (a ++ b) = if badOf a ≠ 0 then badOf a else badOf b
  | [], b => by simp [badOf]
  | r :: a, b => by
    rw [List.cons_append, badOf, badOf, badOf_append a b]
    by_cases h : chkR r ≠ 0
    · rw [if_pos h, if_pos h, if_pos h]
    · rw [if_neg h, if_neg h]
theorem badOf_take {l : List Rc} {k : Nat} (h : k < l.length) (h0 : badOf (l.take k) = 0) : badOf (l.take (k + 1)) = chkR (rc l k) := by
  rw [rtake h, badOf_append, if_neg (by rw [h0]; simp)]
  simp only [badOf]
  by_cases hc : chkR (rc l k) ≠ 0
  · rw [if_pos hc]
  · rw [if_neg hc]; exact (Classical.byContradiction hc).symm
theorem badOf_found {l : List Rc} {k : Nat} (h : k < l.length) (h0 : badOf (l.take k) = 0) (hc : chkR (rc l k) ≠ 0) : badOf l = chkR (rc l k) := by
  conv => lhs; rw [← List.take_append_drop (k + 1) l]
  rw [badOf_append, badOf_take h h0, if_pos hc]
theorem catT_size : ∀ l : List Rc, badOf l = 0 → (catT l).size ≤ 1100 * l.length
  | [], _ => by simp [catT]
  | r :: l, h => by
    rw [badOf] at h
    split at h
    · rename_i hc; exact absurd h hc
    · rename_i hc
      have h1 := codT_size (r := r) (Classical.byContradiction hc)
      have h2 := catT_size l h
      rw [catT, ByteArray.size_append, List.length_cons]
      omega
theorem rewR_bad {es : List Pap} {m size : Int} {l : List Rc} {E : Int} (h : badOf l = E) (h0 : E ≠ 0) : rewR es m size l = (E, es) := by unfold rewR; rw [h, if_pos h0]
theorem rewR_large {es : List Pap} {m size : Int} {l : List Rc} (h : badOf l = 0) (h1 : 1 < l.length ∧ size < ((catT l).size : Int)) : rewR es m size l = (8, es) := by
  unfold rewR; rw [if_neg (by rw [h]; simp), if_pos h1]
theorem rewR_full {es : List Pap} {m size : Int} {l : List Rc} (h : badOf l = 0) (h1 : ¬ (1 < l.length ∧ size < ((catT l).size : Int))) (h2 : appE es m (nextN es) (catT l) ≠ 0) : rewR es m size l = (appE es m (nextN es) (catT l), es) := by
  unfold rewR; rw [if_neg (by rw [h]; simp), if_neg h1, if_pos h2]
theorem rewR_ok {es : List Pap} {m size : Int} {l : List Rc} (h : badOf l = 0) (h1 : ¬ (1 < l.length ∧ size < ((catT l).size : Int))) (h2 : appE es m (nextN es) (catT l) = 0) : rewR es m size l = (0, [⟨nextN es, ((catT l).size : Int), catT l⟩]) := by
  unfold rewR; rw [if_neg (by rw [h]; simp), if_neg h1, if_neg (by rw [h2]; simp)]
theorem next_first {es : List Pap} (h : es.length = 0) : nextN es = 0 := by unfold nextN; rw [if_pos h]
theorem next_last {es : List Pap} {k : Nat} (h : k + 1 = es.length) : nextN es = (pa es k).n + 1 := by unfold nextN; rw [if_neg (by omega), pa_last h]
theorem ix_num (es : List Pap) (n : Int) : ix es n = (numL es).findIdx (fun k => k == n) := by
  unfold ix numL
  rw [List.findIdx_map]
  rfl
theorem num_length (es : List Pap) : (numL es).length = es.length := by unfold numL; rw [List.length_map]
theorem appE_like {es es' : List Pap} (h1 : numL es' = numL es) (h2 : used es' = used es) (m n : Int) (s : ByteArray) : appE es' m n s = appE es m n s := by
  have hl : es'.length = es.length := by rw [← num_length, h1, num_length]
  unfold appE full
  rw [ix_num, ix_num, h1, h2, hl]
theorem appE_sync (es : List Pap) (k m n : Int) (s : ByteArray) : appE (syncL es k) m n s = appE es m n s := by
  unfold syncL
  split
  · rename_i h
    have hu := used_set h (syncP (pa es (ix es k)))
    refine appE_like (es' := es.set (ix es k) (syncP (pa es (ix es k)))) (numL_set h rfl) ?_ m n s
    have e : (syncP (pa es (ix es k))).text = (pa es (ix es k)).text := rfl
    rw [e] at hu
    omega
  · rfl
theorem appE_lsync (es : List Pap) (m n : Int) (s : ByteArray) : appE (lsyncL es) m n s = appE es m n s := by
  unfold lsyncL
  split
  · rfl
  · exact appE_sync _ _ _ _ _
theorem lsync_nil {es : List Pap} (h : es.length = 0) : lsyncL es = es := by unfold lsyncL; rw [if_pos h]
/-- the number of the last file; -1 where there is none -/
def lastN (es : List Pap) : Int := if es.length = 0 then -1 else (lastP es).n
theorem lastN_none {es : List Pap} (h : es.length = 0) : lastN es = -1 := by unfold lastN; rw [if_pos h]
theorem lastN_some {es : List Pap} {k : Nat} (h : k + 1 = es.length) : lastN es = (pa es k).n := by unfold lastN; rw [if_neg (by omega), pa_last h]
theorem next_lastN (es : List Pap) : nextN es = lastN es + 1 := by
  unfold nextN lastN
  split <;> simp
/-- a text that is put into a new file behind the last one: with an error nothing changes -/
def begL (es : List Pap) (m : Int) (s : ByteArray) : List Pap := if appE es m (nextN es) s = 0 then appL (lsyncL es) m (nextN es) s else es
theorem begL_ok {es : List Pap} {m : Int} {s : ByteArray} (h : appE es m (nextN es) s = 0) : begL es m s = appL (lsyncL es) m (nextN es) s := by unfold begL; rw [if_pos h]
theorem begL_not {es : List Pap} {m : Int} {s : ByteArray} (h : appE es m (nextN es) s ≠ 0) : begL es m s = es := by unfold begL; rw [if_neg h]
theorem logP_bad {es : List Pap} {m size : Int} {r : Rc} (h : chkR r ≠ 0) : logP es m size r = (chkR r, es) := by
  have e := logR_bad (es := es) (m := m) (size := size) h
  rw [logP_not (by rw [e]; exact h), e]
theorem logP_begin {es : List Pap} {m size : Int} {r : Rc} (h : chkR r = 0) (hb : es.length = 0 ∨ fills es size (codT r) = true) : logP es m size r = (appE es m (nextN es) (codT r), begL es m (codT r)) := by
  by_cases h0 : es.length = 0
  · have e := logR_first (m := m) (size := size) h h0
    have hn := next_first h0
    have hs := lsync_nil h0
    by_cases ha : appE es m 0 (codT r) = 0
    · rw [logP_ok (by rw [e]; exact ha), e, begL_ok (by rw [hn]; exact ha), hn, hs]
    · rw [logP_not (by rw [e]; exact ha), e, begL_not (by rw [hn]; exact ha), hn]
  · have hf : fills es size (codT r) = true := by
      rcases hb with y | y
      · exact absurd y h0
      · exact y
    have e : logR es m size r = (appE es m (nextN es) (codT r), appL (lsyncL es) m (nextN es) (codT r)) := by
      unfold logR lsyncL nextN
      rw [if_neg (by rw [h]; simp), if_neg h0, if_pos hf, if_neg h0, if_neg h0, appE_sync]
    by_cases ha : appE es m (nextN es) (codT r) = 0
    · rw [logP_ok (by rw [e]; exact ha), e, begL_ok ha]
    · rw [logP_not (by rw [e]; exact ha), e, begL_not ha]
theorem logP_last {es : List Pap} {m size : Int} {r : Rc} (h : chkR r = 0) (h0 : es.length ≠ 0) (hf : fills es size (codT r) = false) : logP es m size r = (appE es m (lastP es).n (codT r), appL es m (lastP es).n (codT r)) := by
  have e : logR es m size r = (appE es m (lastP es).n (codT r), appL es m (lastP es).n (codT r)) := by
    unfold logR
    rw [if_neg (by rw [h]; simp), if_neg h0, if_neg (by rw [hf]; simp)]
  by_cases ha : appE es m (lastP es).n (codT r) = 0
  · rw [logP_ok (by rw [e]; exact ha), e]
  · rw [logP_not (by rw [e]; exact ha), e, app_not ha]
/-- files that are removed one by one, the last one first -/
theorem rem_rev (post : List Pap) : ∀ (k : Nat) (pre mid : List Pap), mid.length = k → Rise (pre ++ mid ++ post) → (numL mid).reverse.foldl remL (pre ++ mid ++ post) = pre ++ post
  | 0, pre, mid, hk, _ => by
    obtain rfl : mid = [] := List.eq_nil_of_length_eq_zero hk
    simp [numL]
  | k + 1, pre, mid, hk, hr => by
    obtain ⟨mid', e, rfl⟩ : ∃ mid' e, mid = mid' ++ [e] := ⟨mid.dropLast, mid.getLast (by intro h; rw [h] at hk; simp at hk), (List.dropLast_concat_getLast _).symm⟩
    have e1 : pre ++ (mid' ++ [e]) ++ post = (pre ++ mid') ++ e :: post := by simp
    have e2 : (numL (mid' ++ [e])).reverse = e.n :: (numL mid').reverse := by simp [numL]
    rw [e1] at hr
    rw [e1, e2, List.foldl_cons, rem_mid hr]
    have hr2 : Rise (pre ++ mid' ++ post) := by
      rw [rise_num] at hr ⊢
      refine List.Pairwise.sublist ?_ hr
      unfold numL
      refine List.Sublist.map _ ?_
      rw [List.append_assoc (bs := mid') (cs := post)]
      rw [List.append_assoc]
      exact (List.Sublist.refl _).append ((List.Sublist.refl _).append (List.sublist_cons_self _ _))
    exact rem_rev post k pre mid' (by simpa using hk) hr2
theorem Tidy.rems {m : Int} : ∀ (l : List Int) {es : List Pap}, Tidy m es → Tidy m (l.foldl remL es)
  | [], _, h => h
  | n :: l, _, h => Tidy.rems l (h.rem n)
end Go.Proofs.YtmccpkpeimejhahGreatDoor.Dk
