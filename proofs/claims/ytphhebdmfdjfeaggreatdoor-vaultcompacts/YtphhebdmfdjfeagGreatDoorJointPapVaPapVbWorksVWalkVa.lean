/-
  A vault, pure: all that its log holds is sure, and its store is what the log's records make; what Do, Compact and a stop make of it. No walk.
  What many calls of Do make of a vault; the law's one vault of room 100. No walk.
  What is asked of the program's vault, whatever it is made of; a vault on its way, and blocks that are none of its own.
  A vault on its way beside a row of records and sums that were told of it.
-/
import Derived.Test.YtphhebdmfdjfeagGreatDoorJointWorksDWorksEWorksGPapHPapFWorksF
import Derived.Test.YtphhebdmfdjfeagGreatDoorJointPapSPapTPlainIPapCPapE
import Derived.Test.YtphhebdmfdjfeagGreatDoorJointPapDPapLPapMPapGPapN
import Derived.Test.YtphhebdmfdjfeagGreatDoorJointRowGRowBRowSRowURowV
namespace Go.Proofs.YtphhebdmfdjfeagGreatDoor.Dk
open Go.RowKit

/-- a log whose records are all sure -/
def Safe (es : List Pap) (recs : List Rc) : Prop := (es = [] ∧ recs = []) ∨ Logd es recs recs.length
def Sured (es : List Pap) : Prop := ∀ x ∈ es, x.sure = (x.text.size : Int)
theorem Safe.sured {es : List Pap} {recs : List Rc} (h : Safe es recs) : Sured es := by
  rcases h with ⟨rfl, _⟩ | ⟨pre, e, A, L, j, rfl, rfl, hw, hs, he, hg, hj, hsu, hn⟩
  · intro x hx; cases hx
  · intro x hx
    rcases List.mem_append.1 hx with y | y
    · exact hs x y
    · rw [List.mem_singleton.1 y, hsu, he]
      rw [List.length_append] at hn
      rw [List.take_of_length_le (by omega)]
theorem Safe.opens {es : List Pap} {recs : List Rc} (h : Safe es recs) : openL es = (recs, es) := by
  rcases h with ⟨rfl, rfl⟩ | ⟨pre, e, A, L, j, rfl, rfl, hw, hs, he, hg, hj, hsu, hn⟩
  · rfl
  · rw [whole_open _ hw, openL_whole (by rw [he]; exact scan_whole hg)]
    simp [openL]
theorem stop_sure {x : Pap} (h : x.sure = (x.text.size : Int)) (keep : Int) : stopP keep x = x := by
  have hat : stopAt x keep = x.text.size := by unfold stopAt; rw [h]; omega
  unfold stopP
  rw [hat]
  have : x.text.extract 0 x.text.size = x.text := by
    apply ByteArray.ext
    simp
  rw [this]
  cases x
  simp only at h
  rw [h]
theorem Sured.stop {es : List Pap} (h : Sured es) (keep : Int) : es.map (stopP keep) = es := by
  conv => rhs; rw [← List.map_id es]
  exact List.map_congr_left (fun x hx => stop_sure (h x hx) keep)
theorem Sured.sync {es : List Pap} (h : Sured es) (n : Int) : syncL es n = es := by
  unfold syncL
  split
  · rename_i hi
    have hs := h _ (pa_mem hi)
    have e : ({ pa es (ix es n) with sure := ((pa es (ix es n)).text.size : Int) } : Pap) = pa es (ix es n) := by
      cases hp : pa es (ix es n)
      rw [hp] at hs
      simp only at hs
      rw [hs]
    rw [e, pa_get hi]
    exact List.set_getElem_self hi
  · rfl
theorem Sured.lsync {es : List Pap} (h : Sured es) : lsyncL es = es := by
  unfold lsyncL
  split
  · rfl
  · exact h.sync _
/-- of such a log the document's Append is the program's -/
theorem Sured.log {es : List Pap} (h : Sured es) (m size : Int) (r : Rc) : logP es m size r = logR es m size r := by
  by_cases h0 : (logR es m size r).1 = 0
  · exact logP_ok h0
  · rw [logP_not h0]
    refine Prod.ext rfl ?_
    unfold logR at h0 ⊢
    split
    · rfl
    · rename_i hc
      rw [if_neg hc] at h0
      split
      · rename_i hl
        rw [if_pos hl] at h0
        have h1 : appE es m 0 (codT r) ≠ 0 := h0
        exact (app_not h1).symm
      · rename_i hl
        rw [if_neg hl] at h0
        split
        · rename_i hf
          rw [if_pos hf] at h0
          rw [h.sync] at h0 ⊢
          have h1 : appE es m ((lastP es).n + 1) (codT r) ≠ 0 := h0
          exact (app_not h1).symm
        · rename_i hf
          rw [if_neg hf] at h0
          have h1 : appE es m (lastP es).n (codT r) ≠ 0 := h0
          exact (app_not h1).symm
theorem Safe.append {m size : Int} {es : List Pap} {recs : List Rc} (h : Safe es recs) (ht : Tidy m es) {r : Rc} (h0 : (logP es m size r).1 = 0) : Safe (lsyncL (logP es m size r).2) (recs ++ [r]) := by
  right
  rcases h with ⟨rfl, rfl⟩ | h
  · have hR : (logR [] m size r).1 = 0 := by
      apply Classical.byContradiction
      intro z
      rw [logP_not z] at h0
      exact z h0
    have hl : Logd (logP [] m size r).2 ([] ++ [r]) 0 := by
      rw [logP_ok hR]
      have hc : chkR r = 0 := by
        apply Classical.byContradiction
        intro z
        unfold logR at hR
        rw [if_pos z] at hR
        exact z hR
      have e : logR [] m size r = (appE [] m 0 (codT r), appL [] m 0 (codT r)) := by
        unfold logR
        rw [if_neg (by rw [hc]; simp), if_pos (show ([] : List Pap).length = 0 from rfl)]
      rw [e] at hR ⊢
      have hR' : appE [] m 0 (codT r) = 0 := hR
      obtain ⟨hI, hf⟩ := app_ok.1 hR'
      have ea : appL [] m 0 (codT r) = [⟨0, 0, codT r⟩] := by
        unfold appL
        rw [if_neg (by rw [hI]; simp), if_neg (by rw [hf]; simp), if_neg (by simp [ix])]
        rfl
      refine ⟨[], ⟨0, 0, codT r⟩, [], [r], 0, by simp only; rw [ea]; rfl, rfl, rfl, fun x hx => (by cases hx), ?_, ?_, Nat.zero_le _, ?_, Nat.zero_le _⟩
      · show codT r = catT [r]
        simp [catT]
      · intro x hx
        rw [List.mem_singleton.1 hx]; exact hc
      · simp [catT]
    exact hl.sync (ht.logp size r)
  · exact ((h.appendp ht r).1 h0).sync (ht.logp size r)
theorem Safe.rewrite {m size : Int} {es : List Pap} {l : List Rc} (hg : Good l) (h0 : (rewR es m size l).1 = 0) : Safe (rewR es m size l).2 l := by
  right
  unfold rewR at h0 ⊢
  split
  · rename_i h; rw [if_pos h] at h0; exact absurd h0 h
  · rename_i h
    rw [if_neg h] at h0
    split
    · rename_i h1; rw [if_pos h1] at h0; cases h0
    · rename_i h1
      rw [if_neg h1] at h0
      split
      · rename_i h2; rw [if_pos h2] at h0; exact absurd h0 h2
      · exact ⟨[], ⟨nextN es, ((catT l).size : Int), catT l⟩, [], l, l.length, rfl, rfl, rfl, fun x hx => (by cases hx), rfl, hg, Nat.le_refl _, by rw [List.take_length], by simp⟩
theorem rew_not {m size : Int} {es : List Pap} {l : List Rc} (h0 : (rewR es m size l).1 ≠ 0) : (rewR es m size l).2 = es := by
  unfold rewR at h0 ⊢
  split
  · rfl
  · rename_i h
    rw [if_neg h] at h0
    split
    · rfl
    · rename_i h1
      rw [if_neg h1] at h0
      split
      · rfl
      · rename_i h2
        rw [if_neg h2] at h0
        exact absurd rfl h0
/-- what records make of an empty store -/
def fillV (l : List Rc) : Sto := l.foldl aplS ⟨[], 0⟩
theorem fillV_snoc (l : List Rc) (r : Rc) : fillV (l ++ [r]) = aplS (fillV l) r := by unfold fillV; rw [List.foldl_append]; rfl
theorem foldlV_ok : ∀ (l : List Rc) {s : Sto}, s.Ok → (l.foldl aplS s).Ok
  | [], _, h => h
  | r :: l, _, h => foldlV_ok l (h.apply r)
theorem fillV_ok (l : List Rc) : (fillV l).Ok := foldlV_ok l Sto.Ok.nil
/-- a mark; what a vault is made compact to -/
def markR (n : Int) : Rc := ⟨4, n, 0, ⟨#[]⟩, ⟨#[]⟩, ⟨#[]⟩⟩
def compL (s : Sto) : List Rc := s.l ++ (if 0 < s.last then [markR s.last] else [])
theorem mark_chk {n : Int} (h : 1 ≤ n ∧ n ≤ 1099511627776) : chkR (markR n) = 0 := by
  unfold chkR markR Rc.pk Pk.chk
  simp [Pk.inB]
  omega
/-- the number of the last message -/
def endQ (l : List Rc) : Int := (l.getLast?.map (·.q)).getD 0
theorem endQ_snoc (l : List Rc) (r : Rc) : endQ (l ++ [r]) = r.q := by unfold endQ; simp
theorem nameN_front (a b : List Rc) : nameN a ≤ nameN (a ++ b) := by
  rw [nameN_len, nameN_len]
  refine nodup_le _ _ (nameL_nodup _) (fun s hs => (nameL_mem _ s).2 ?_)
  rw [hasS_append, (nameL_mem a s).1 hs]
  rfl
theorem refill_front {s : Sto} (h : s.Ok) : ∀ (k : Nat), k ≤ s.l.length → fillV (s.l.take k) = ⟨s.l.take k, endQ (s.l.take k)⟩
  | 0, _ => rfl
  | k + 1, hk => by
    have hlt : k < s.l.length := by omega
    have ih := refill_front h k (by omega)
    have hm := List.getElem_mem hlt
    obtain ⟨hk1, hc⟩ := h.msg _ hm
    have hq := h.seq hm
    rw [List.take_succ_eq_append_getElem hlt, fillV_snoc, ih]
    have hlo : ¬ (s.l[k]).q ≤ endQ (s.l.take k) := by
      cases k with
      | zero => simp [endQ]; omega
      | succ j =>
        rw [List.take_succ_eq_append_getElem (by omega), endQ_snoc]
        have := List.pairwise_iff_getElem.1 h.rise j (j + 1) (by omega) hlt (by omega)
        omega
    have hnm : ¬ (hasS (s.l.take k) (s.l[k]).s = false ∧ 100 ≤ nameN (s.l.take k)) := fun z => by
      have h1 := nameN_front (s.l.take (k + 1)) (s.l.drop (k + 1))
      rw [List.take_append_drop, List.take_succ_eq_append_getElem hlt, nameN_snoc, z.1] at h1
      have := h.names
      simp at h1
      omega
    have hfw : ¬ 200 ≤ (s.l.take k).length := by
      have := h.few
      rw [List.length_take]; omega
    have ht : tryE ⟨s.l.take k, endQ (s.l.take k)⟩ s.l[k] = 0 := by
      unfold tryE
      rw [if_neg (by rw [hc]; simp), if_neg (by omega), if_neg (by omega), if_neg hlo, if_neg (fun z => by rcases z with z | z; exact hfw z; exact hnm z)]
    unfold aplS
    rw [if_neg (by rw [ht]; simp), if_pos hk1, endQ_snoc]
theorem refill {s : Sto} (h : s.Ok) : fillV (compL s) = s ∧ Good (compL s) := by
  have hf := refill_front h s.l.length (Nat.le_refl _)
  rw [List.take_length] at hf
  have hl := h.last
  unfold compL
  by_cases h0 : 0 < s.last
  · rw [if_pos h0]
    have hmk := mark_chk (n := s.last) (by omega)
    constructor
    · rw [fillV_snoc, hf]
      have ht : tryE ⟨s.l, endQ s.l⟩ (markR s.last) = 0 := by
        unfold tryE
        rw [if_neg (by rw [hmk]; simp), if_neg (by simp [markR]), if_pos (by simp [markR])]
      have he : endQ s.l ≤ s.last := by
        unfold endQ
        cases hg : s.l.getLast? with
        | none => simp; omega
        | some x => simp; exact h.low x (List.mem_of_getLast? hg)
      unfold aplS
      rw [if_neg (by rw [ht]; simp), if_neg (by simp [markR]), if_pos (by simp [markR])]
      show Sto.mk s.l (max (endQ s.l) s.last) = s
      rw [Int.max_eq_right he]
    · intro x hx
      rcases List.mem_append.1 hx with y | y
      · exact (h.msg x y).2
      · rw [List.mem_singleton.1 y]; exact hmk
  · rw [if_neg h0, List.append_nil]
    have hn : s.l = [] := by
      cases hs : s.l with
      | nil => rfl
      | cons x l =>
        have hx : x ∈ s.l := by rw [hs]; exact List.mem_cons_self ..
        have := h.low x hx
        have := (h.seq hx).1
        omega
    constructor
    · rw [hf, hn]
      show Sto.mk [] 0 = s
      cases s
      simp only at hn hl h0 ⊢
      rw [hn]
      congr
      omega
    · rw [hn]
      intro x hx
      cases hx
/-- a vault's files and its store -/
structure VOk (m : Int) (es : List Pap) (s : Sto) : Prop where
  tidy : Tidy m es
  safe : ∃ recs, Safe es recs ∧ fillV recs = s
theorem VOk.nil {m : Int} (h : 0 ≤ m) : VOk m [] ⟨[], 0⟩ := ⟨Tidy.nil h, [], .inl ⟨rfl, rfl⟩, rfl⟩
theorem VOk.ok {m : Int} {es : List Pap} {s : Sto} (h : VOk m es s) : s.Ok := by
  obtain ⟨recs, _, rfl⟩ := h.safe
  exact fillV_ok recs
theorem VOk.sured {m : Int} {es : List Pap} {s : Sto} (h : VOk m es s) : Sured es := by
  obtain ⟨recs, h1, _⟩ := h.safe
  exact h1.sured
/-- Do: the answer; the files; the store -/
def doE (es : List Pap) (s : Sto) (m size : Int) (r : Rc) : Int := if tryE s r ≠ 0 then tryE s r else (logP es m size r).1
def doL (es : List Pap) (s : Sto) (m size : Int) (r : Rc) : List Pap := if doE es s m size r = 0 then lsyncL (logP es m size r).2 else es
def doS (es : List Pap) (s : Sto) (m size : Int) (r : Rc) : Sto := if doE es s m size r = 0 then aplS s r else s
theorem do_ok {es : List Pap} {s : Sto} {m size : Int} {r : Rc} (h : doE es s m size r = 0) : tryE s r = 0 ∧ (logP es m size r).1 = 0 := by
  unfold doE at h
  by_cases z : tryE s r = 0
  · rw [if_neg (by rw [z]; simp)] at h
    exact ⟨z, h⟩
  · rw [if_pos z] at h
    exact absurd h z
theorem VOk.did {m size : Int} {es : List Pap} {s : Sto} (h : VOk m es s) (r : Rc) : VOk m (doL es s m size r) (doS es s m size r) := by
  unfold doL doS
  by_cases h0 : doE es s m size r = 0
  · rw [if_pos h0, if_pos h0]
    obtain ⟨recs, h1, h2⟩ := h.safe
    refine ⟨(h.tidy.logp size r).lsync, recs ++ [r], h1.append h.tidy (do_ok h0).2, ?_⟩
    rw [fillV_snoc, h2]
  · rw [if_neg h0, if_neg h0]; exact h
/-- Compact -/
def compE (es : List Pap) (s : Sto) (m size : Int) : Int := (rewR es m size (compL s)).1
def compF (es : List Pap) (s : Sto) (m size : Int) : List Pap := (rewR es m size (compL s)).2
theorem VOk.comp {m size : Int} {es : List Pap} {s : Sto} (h : VOk m es s) : VOk m (compF es s m size) s := by
  unfold compF
  obtain ⟨r1, r2⟩ := refill h.ok
  by_cases h0 : (rewR es m size (compL s)).1 = 0
  · exact ⟨h.tidy.rewritten size _, compL s, Safe.rewrite r2 h0, r1⟩
  · rw [rew_not h0]; exact h
/-- a stop takes nothing; what is read again makes the store -/
theorem VOk.crash {m : Int} {es : List Pap} {s : Sto} (h : VOk m es s) (keep : Int) : es.map (stopP keep) = es ∧ (openL es).2 = es ∧ fillV (openL es).1 = s := by
  obtain ⟨recs, h1, h2⟩ := h.safe
  rw [h1.opens]
  exact ⟨h1.sured.stop keep, rfl, h2⟩
end Go.Proofs.YtphhebdmfdjfeagGreatDoor.Dk

namespace Go.Proofs.YtphhebdmfdjfeagGreatDoor.Dk
open Go.RowKit

def oneR : Rc := ⟨1, 1, 0, ⟨#[97, 46, 98]⟩, ⟨#[]⟩, ⟨#[120]⟩⟩
theorem one_small : Small oneR := ⟨by decide, by decide, by decide⟩
def doV (m size : Int) (x : List Pap × Sto) (r : Rc) : List Pap × Sto := (doL x.1 x.2 m size r, doS x.1 x.2 m size r)
def doAll (m size : Int) (l : List Rc) : List Pap × Sto := l.foldl (doV m size) ([], ⟨[], 0⟩)
theorem doAll_take {m size : Int} {l : List Rc} {k : Nat} (h : k < l.length) : doAll m size (l.take (k + 1)) = doV m size (doAll m size (l.take k)) (rc l k) := by
  unfold doAll
  rw [List.take_succ_eq_append_getElem h, List.foldl_append, rc_get h]
  rfl
theorem comp_not {es : List Pap} {s : Sto} {m size : Int} (h : compE es s m size ≠ 0) : compF es s m size = es := rew_not h
theorem VOk.used {m : Int} {es : List Pap} {s : Sto} (h : VOk m es s) : (used es : Int) ≤ m := h.tidy.fits
/-- the law's one vault -/
theorem hun_do : doE [] ⟨[], 0⟩ 100 100 oneR = 0 := by decide +kernel
theorem hun_used : used (doL [] ⟨[], 0⟩ 100 100 oneR) = 15 := by decide +kernel
def comp1 : List Pap := compF [] ⟨[], 0⟩ 100 100
theorem hun_comp : compE [] ⟨[], 0⟩ 100 100 = 0 := by decide +kernel
theorem hun_do1 : doE comp1 ⟨[], 0⟩ 100 100 oneR = 0 := by decide +kernel
theorem hun_comp1 : compE (doL comp1 ⟨[], 0⟩ 100 100 oneR) (doS comp1 ⟨[], 0⟩ 100 100 oneR) 100 100 = 0 := by decide +kernel
theorem hun_used1 : used (compF (doL comp1 ⟨[], 0⟩ 100 100 oneR) (doS comp1 ⟨[], 0⟩ 100 100 oneR) 100 100) = 26 := by decide +kernel
end Go.Proofs.YtphhebdmfdjfeagGreatDoor.Dk

namespace Go.Proofs.YtphhebdmfdjfeagGreatDoor.Dk
open Go.RowKit

/-- a call may have written the vault's own blocks F alone -/
def DidV (VH : World → Nat → Nat → (Nat → Prop) → Int → Int → List Pap → Sto → Prop) (w w' : World) (B p : Nat) (F : Nat → Prop) (m size : Int) (es : List Pap) (s : Sto) : Prop := ∃ F', VH w' B p F' m size es s ∧ Chg F w w' ∧ ∀ k, F' k → F k ∨ w.heap.size ≤ k
/-- what is asked of the program's vault: VH w B p F m size es s says that at block p there is a vault of room m and that size, whose disk shows the files es and whose store is s, in the blocks F -/
structure VWorks (VH : World → Nat → Nat → (Nat → Prop) → Int → Int → List Pap → Sto → Prop) (SH : World → Nat → Nat → (Nat → Prop) → Sto → Prop) : Prop where
  own : ∀ {w B p F m size es s}, VH w B p F m size es s → ∀ k, F k → B ≤ k ∧ k < w.heap.size
  chg : ∀ {w w' B p F m size es s} {A : Nat → Prop}, VH w B p F m size es s → Chg A w w' → (∀ k, F k → ¬ A k) → VH w' B p F m size es s
  bad : ∀ (w : World) (m size : Int), (inI m 1 65536 && inI size 1 4096) = false →
    Calls Tryz.prog 4 #[.int .i64 m, .int .i64 size] w fun e w' => e = .returned (.tuple #[.pointer none, .int .i64 1]) ∧ Below w.heap.size w w'
  good : ∀ (w : World) (m size : Int), inI m 1 65536 = true → inI size 1 4096 = true →
    Calls Tryz.prog 4 #[.int .i64 m, .int .i64 size] w fun e w' => ∃ p F, e = .returned (.tuple #[.pointer (some ⟨p, 0, none⟩), .int .i64 0]) ∧ VH w' w.heap.size p F m size [] ⟨[], 0⟩ ∧ Below w.heap.size w w'
  did : ∀ {w B p F m size es s} (r : Rc), Small r → VH w B p F m size es s → VOk m es s → m ≤ 65536 → inI size 1 4096 = true → B ≤ w.heap.size →
    Calls Tryz.prog 6 #[.pointer (some ⟨p, 0, none⟩), .agg #[.int .i64 r.k, .int .i64 r.q, .int .i64 r.t, .string r.s, .string r.h, .string r.d]] w fun e w' => e = .returned (.int .i64 (doE es s m size r)) ∧ DidV VH w w' B p F m size (doL es s m size r) (doS es s m size r)
  compact : ∀ {w B p F m size es s}, VH w B p F m size es s → VOk m es s → m ≤ 65536 → inI size 1 4096 = true → B ≤ w.heap.size →
    Calls Tryz.prog 5 #[.pointer (some ⟨p, 0, none⟩)] w fun e w' => e = .returned (.int .i64 (compE es s m size)) ∧ DidV VH w w' B p F m size (compF es s m size) s
  store : ∀ {w B p F m size es s}, VH w B p F m size es s → VOk m es s → m ≤ 65536 → inI size 1 4096 = true → B ≤ w.heap.size →
    Calls Tryz.prog 9 #[.pointer (some ⟨p, 0, none⟩)] w fun e w' => ∃ q F0, e = .returned (.pointer (some ⟨q, 0, none⟩)) ∧ SH w' B q F0 s ∧ (∀ k, F0 k → F k) ∧ Below w.heap.size w w'
  used : ∀ {w B p F m size es s}, VH w B p F m size es s → VOk m es s → m ≤ 65536 → inI size 1 4096 = true → B ≤ w.heap.size →
    Calls Tryz.prog 8 #[.pointer (some ⟨p, 0, none⟩)] w fun e w' => e = .returned (.int .i64 (used es : Int)) ∧ DidV VH w w' B p F m size es s
/-- blocks that a step has left as they were -/
def Stay (Cs : Nat → Prop) (w w' : World) : Prop := w.heap.size ≤ w'.heap.size ∧ ∀ k, Cs k → w'.heap[k]? = w.heap[k]?
theorem Stay.cell {Cs : Nat → Prop} {w w' : World} (h : Stay Cs w w') {C j : Nat} (hC : Cs C) : w'.cell? ⟨C, j, none⟩ = w.cell? ⟨C, j, none⟩ := World.cell?_of_block (w := w) (h.2 C hC)
theorem Stay.trans {Cs : Nat → Prop} {w w1 w2 : World} (h : Stay Cs w w1) (k : Stay Cs w1 w2) : Stay Cs w w2 := ⟨Nat.le_trans h.1 k.1, fun i hi => (k.2 i hi).trans (h.2 i hi)⟩
theorem Stay.fewer {Cs Cs' : Nat → Prop} {w w' : World} (h : Stay Cs w w') (hC : ∀ k, Cs' k → Cs k) : Stay Cs' w w' := ⟨h.1, fun k hk => h.2 k (hC k hk)⟩
theorem Stay.recs {Cs : Nat → Prop} {w w' : World} {a : Option Addr} {l : List Rc} (h : Stay Cs w w') (s : SlR w a l) (hn : ∀ z, a = some z → Cs z.block) : SlR w' a l := fun k hk => by
  obtain ⟨b, o, h1, h2⟩ := s k hk
  have hb : Cs b := hn _ h1
  exact ⟨b, o, h1, ⟨Nat.lt_of_lt_of_le h2.lt h.1, by rw [h.cell hb]; exact h2.c0, by rw [h.cell hb]; exact h2.c1, by rw [h.cell hb]; exact h2.c2, by rw [h.cell hb]; exact h2.c3, by rw [h.cell hb]; exact h2.c4, by rw [h.cell hb]; exact h2.c5⟩⟩
/-- a vault on its way, behind w; the blocks Cs are none of its own -/
def Vay (VH : World → Nat → Nat → (Nat → Prop) → Int → Int → List Pap → Sto → Prop) (Cs : Nat → Prop) (w wr : World) (p : Nat) (m size : Int) (es : List Pap) (s : Sto) : Prop :=
  ∃ F, VH wr w.heap.size p F m size es s ∧ Below w.heap.size w wr ∧ (∀ k, Cs k → k < wr.heap.size ∧ ¬ F k) ∧ VOk m es s ∧ m ≤ 65536 ∧ inI size 1 4096 = true
section
variable {VH : World → Nat → Nat → (Nat → Prop) → Int → Int → List Pap → Sto → Prop} {SH : World → Nat → Nat → (Nat → Prop) → Sto → Prop} {Cs Cs' : Nat → Prop} {w wr w' : World} {p : Nat} {m size : Int} {es es' : List Pap} {s s' : Sto}
theorem Vay.bl (h : Vay VH Cs w wr p m size es s) : Below w.heap.size w wr := by obtain ⟨F, _, h2, _⟩ := h; exact h2
theorem Vay.room (h : Vay VH Cs w wr p m size es s) : w.heap.size ≤ wr.heap.size := h.bl.size
theorem Vay.vok (h : Vay VH Cs w wr p m size es s) : VOk m es s := by obtain ⟨F, _, _, _, h5, _⟩ := h; exact h5
theorem Vay.ok (h : Vay VH Cs w wr p m size es s) : s.Ok := h.vok.ok
/-- new blocks may be kept -/
theorem Vay.mine (V : VWorks VH SH) (h : Vay VH Cs w wr p m size es s) (hb : Below wr.heap.size wr w') (hn : ∀ k, Cs' k → Cs k ∨ wr.heap.size ≤ k ∧ k < w'.heap.size) : Vay VH Cs' w w' p m size es s := by
  have hr := h.room
  obtain ⟨F, h1, h2, h3, h4, h5, h6⟩ := h
  refine ⟨F, V.chg (A := fun _ => False) h1 (Chg.of_below hb) (fun _ _ z => z), h2.trans (hb.mono hr), fun k hk => ?_, h4, h5, h6⟩
  rcases hn k hk with y | y
  · exact ⟨Nat.lt_of_lt_of_le (h3 k y).1 hb.size, (h3 k y).2⟩
  · exact ⟨y.2, fun z => by have := (V.own h1 k z).2; omega⟩
theorem Vay.below (V : VWorks VH SH) (h : Vay VH Cs w wr p m size es s) (hb : Below wr.heap.size wr w') : Vay VH Cs w w' p m size es s := h.mine V hb (fun _ z => .inl z)
theorem Vay.stay (h : Vay VH Cs w wr p m size es s) (hb : Below wr.heap.size wr w') : Stay Cs wr w' := by
  obtain ⟨F, _, _, h3, _⟩ := h
  exact ⟨hb.size, fun k hk => hb.block k (h3 k hk).1⟩
theorem Vay.does (V : VWorks VH SH) (h : Vay VH Cs w wr p m size es s) (hk : VOk m es' s') {fn : FuncId} {args : Array Value} {Q : Ending → World → Prop}
    (hc : ∀ F, VH wr w.heap.size p F m size es s → Calls Tryz.prog fn args wr fun e w' => Q e w' ∧ DidV VH wr w' w.heap.size p F m size es' s') :
    Calls Tryz.prog fn args wr fun e w' => Q e w' ∧ Vay VH Cs w w' p m size es' s' ∧ Stay Cs wr w' := by
  have hr := h.room
  obtain ⟨F, h1, h2, h3, h4, h5, h6⟩ := h
  refine (hc F h1).mono ?_
  rintro e w' ⟨hq, F', a1, a2, a3⟩
  refine ⟨hq, ⟨F', a1, h2.trans (a2.below hr (fun k hk z => by have := (V.own h1 k z).1; omega)), fun k hk => ⟨Nat.lt_of_lt_of_le (h3 k hk).1 a2.size, fun z => ?_⟩, hk, h5, h6⟩, a2.size, fun k hk => a2.block k (h3 k hk).1 (h3 k hk).2⟩
  rcases a3 k z with y | y
  · exact (h3 k hk).2 y
  · have := (h3 k hk).1; omega
theorem Vay.did (V : VWorks VH SH) (h : Vay VH Cs w wr p m size es s) (r : Rc) (hr : Small r) :
    Calls Tryz.prog 6 #[.pointer (some ⟨p, 0, none⟩), .agg #[.int .i64 r.k, .int .i64 r.q, .int .i64 r.t, .string r.s, .string r.h, .string r.d]] wr fun e w' => e = .returned (.int .i64 (doE es s m size r)) ∧ Vay VH Cs w w' p m size (doL es s m size r) (doS es s m size r) ∧ Stay Cs wr w' := by
  have hm := h.room
  obtain ⟨_, _, _, _, h4, h5, h6⟩ := id h
  exact h.does V (h4.did r) (fun F hF => V.did r hr hF h4 h5 h6 hm)
theorem Vay.compact (V : VWorks VH SH) (h : Vay VH Cs w wr p m size es s) :
    Calls Tryz.prog 5 #[.pointer (some ⟨p, 0, none⟩)] wr fun e w' => e = .returned (.int .i64 (compE es s m size)) ∧ Vay VH Cs w w' p m size (compF es s m size) s ∧ Stay Cs wr w' := by
  have hm := h.room
  obtain ⟨_, _, _, _, h4, h5, h6⟩ := id h
  exact h.does V h4.comp (fun F hF => V.compact hF h4 h5 h6 hm)
theorem Vay.used (V : VWorks VH SH) (h : Vay VH Cs w wr p m size es s) :
    Calls Tryz.prog 8 #[.pointer (some ⟨p, 0, none⟩)] wr fun e w' => e = .returned (.int .i64 (used es : Int)) ∧ Vay VH Cs w w' p m size es s ∧ Stay Cs wr w' := by
  have hm := h.room
  obtain ⟨_, _, _, _, h4, h5, h6⟩ := id h
  exact h.does V h4 (fun F hF => V.used hF h4 h5 h6 hm)
theorem Vay.store (V : VWorks VH SH) (h : Vay VH Cs w wr p m size es s) :
    Calls Tryz.prog 9 #[.pointer (some ⟨p, 0, none⟩)] wr fun e w' => ∃ q F0, e = .returned (.pointer (some ⟨q, 0, none⟩)) ∧ SH w' w.heap.size q F0 s ∧ Below wr.heap.size wr w' := by
  have hm := h.room
  obtain ⟨F, h1, _, _, h4, h5, h6⟩ := h
  refine (V.store h1 h4 h5 h6 hm).mono ?_
  rintro e w' ⟨q, F0, he, hs, _, hb⟩
  exact ⟨q, F0, he, hs, hb⟩
theorem Vay.new (V : VWorks VH SH) (w : World) (hm : inI m 1 65536 = true) (hs : inI size 1 4096 = true) :
    Calls Tryz.prog 4 #[.int .i64 m, .int .i64 size] w fun e w' => ∃ p, e = .returned (.tuple #[.pointer (some ⟨p, 0, none⟩), .int .i64 0]) ∧ Vay VH (fun _ => False) w w' p m size [] ⟨[], 0⟩ := by
  have hb : 1 ≤ m ∧ m ≤ 65536 := by simpa [inI] using hm
  refine (V.good w m size hm hs).mono ?_
  rintro e w' ⟨p, F, he, h1, h2⟩
  exact ⟨p, he, F, h1, h2, fun _ z => z.elim, VOk.nil (by omega), hb.2, hs⟩
end
/-- what is asked of the store of a vault where it is looked at -/
structure SSees (SH : World → Nat → Nat → (Nat → Prop) → Sto → Prop) : Prop where
  all : ∀ {w B q F s}, SH w B q F s → s.Ok → B ≤ w.heap.size →
    Calls Tryz.prog 10 #[.pointer (some ⟨q, 0, none⟩)] w fun e w' => ∃ v, e = .returned v ∧ ArrR w' w.heap.size v s.l ∧ Below w.heap.size w w'
  sums : ∀ {w B q F s}, SH w B q F s → s.Ok → B ≤ w.heap.size →
    Calls Tryz.prog 11 #[.pointer (some ⟨q, 0, none⟩)] w fun e w' => e = .returned (.agg #[.int .i64 (s.l.length : Int), .int .i64 (byteN s.l : Int), .int .i64 (firstQ s.l), .int .i64 s.last]) ∧ Below w.heap.size w w'
end Go.Proofs.YtphhebdmfdjfeagGreatDoor.Dk

namespace Go.Proofs.YtphhebdmfdjfeagGreatDoor.Dk
open Go.RowKit

theorem eqlS (x0 x1 x2 x3 : Int) (W : World) : (binOp .eql 37 (.agg #[.int .i64 x0, .int .i64 x1, .int .i64 x2, .int .i64 x3]) (.agg #[.int .i64 x0, .int .i64 x1, .int .i64 x2, .int .i64 x3])).run Tryz.prog W = .ok (.bool true) W := by
  have u3 := Tryz.underlying3
  have hS : Tryz.prog.underlying 37 = some (.struct (Tryz.prog.fieldsOf 37)) := by kernel_rfl
  have hp : Tryz.prog.stoodInHeld 37 = false := by kernel_rfl
  rw [run_eql_struct, show (10000 : Nat) = 9999 + 1 from rfl, run_equalIn_agg W 9999 37 _ _ hS hp]
  simp only [Program.fieldsOf, Tryz.underlying37]
  go_simp
abbrev At4 (b : Nat) (x0 x1 x2 x3 : Int) (w : World) : Prop := w.cell? ⟨b, 0, none⟩ = some (.int .i64 x0) ∧ w.cell? ⟨b, 1, none⟩ = some (.int .i64 x1) ∧ w.cell? ⟨b, 2, none⟩ = some (.int .i64 x2) ∧ w.cell? ⟨b, 3, none⟩ = some (.int .i64 x3)
theorem SB.at4 {w : World} {b : Nat} {x0 x1 x2 x3 : Int} (h : SB w b x0 x1 x2 x3) : At4 b x0 x1 x2 x3 w := ⟨h.c0, h.c1, h.c2, h.c3⟩
theorem neqU (x0 x1 x2 x3 : Int) (W : World) : (binOp .neq 37 (.agg #[.int .i64 x0, .int .i64 x1, .int .i64 x2, .int .i64 x3]) (.agg #[.int .i64 x0, .int .i64 x1, .int .i64 x2, .int .i64 x3])).run Tryz.prog W = .ok (.bool false) W := by
  have u3 := Tryz.underlying3
  have hS : Tryz.prog.underlying 37 = some (.struct (Tryz.prog.fieldsOf 37)) := by kernel_rfl
  have hp : Tryz.prog.stoodInHeld 37 = false := by kernel_rfl
  rw [run_neq_struct, show (10000 : Nat) = 9999 + 1 from rfl, run_equalIn_agg W 9999 37 _ _ hS hp]
  simp only [Program.fieldsOf, Tryz.underlying37]
  go_simp
/-- a vault on its way; the row at aa shows l; the sums stand at block bs -/
def Lk (VH : World → Nat → Nat → (Nat → Prop) → Int → Int → List Pap → Sto → Prop) (w wr : World) (q : Nat) (m size : Int) (es : List Pap) (s : Sto) (aa : Option Addr) (l : List Rc) (bs : Nat) (y0 y1 y2 y3 : Int) : Prop :=
  Vay VH (fun k => (∃ z, aa = some z ∧ z.block = k) ∨ k = bs) w wr q m size es s ∧ SlR wr aa l ∧ SB wr bs y0 y1 y2 y3
section
variable {VH : World → Nat → Nat → (Nat → Prop) → Int → Int → List Pap → Sto → Prop} {SH : World → Nat → Nat → (Nat → Prop) → Sto → Prop} {w wr w' : World} {q bs : Nat} {m size : Int} {es es' : List Pap} {s s' : Sto} {aa : Option Addr} {l : List Rc} {y0 y1 y2 y3 : Int}
theorem Lk.new (V : VWorks VH SH) (h : Vay VH (fun k => ∃ z, aa = some z ∧ z.block = k) w wr q m size es s) (hs : SlR wr aa l) (y0 y1 y2 y3 : Int) : Lk VH w (wr.alloc (.cells #[.int .i64 y0, .int .i64 y1, .int .i64 y2, .int .i64 y3] 37)) q m size es s aa l wr.heap.size y0 y1 y2 y3 := by
  have hb : Below wr.heap.size wr (wr.alloc (.cells #[.int .i64 y0, .int .i64 y1, .int .i64 y2, .int .i64 y3] 37)) := (Below.refl _ _).alloc (Nat.le_refl _) _
  refine ⟨h.mine V hb (fun k hk => ?_), hs.below hb, SB.new _ _ _ _ _ _⟩
  rcases hk with y | rfl
  · exact .inl y
  · exact .inr ⟨Nat.le_refl _, by simp⟩
theorem Lk.below (V : VWorks VH SH) (h : Lk VH w wr q m size es s aa l bs y0 y1 y2 y3) (hb : Below wr.heap.size wr w') : Lk VH w w' q m size es s aa l bs y0 y1 y2 y3 := ⟨h.1.below V hb, h.2.1.below hb, h.2.2.next hb⟩
theorem frozen_block {w w' : World} {k j : Nat} (h : w'.heap[k]? = w.heap[k]?) : w'.frozen? ⟨k, j, none⟩ = w.frozen? ⟨k, j, none⟩ := by
  unfold World.frozen?
  simp only [h]
theorem Lk.stays (h : Lk VH w wr q m size es s aa l bs y0 y1 y2 y3) (h1 : Vay VH (fun k => (∃ z, aa = some z ∧ z.block = k) ∨ k = bs) w w' q m size es' s') (hs : Stay (fun k => (∃ z, aa = some z ∧ z.block = k) ∨ k = bs) wr w') : Lk VH w w' q m size es' s' aa l bs y0 y1 y2 y3 := by
  refine ⟨h1, hs.recs h.2.1 (fun z hz => .inl ⟨z, hz, rfl⟩), ?_⟩
  have r := h.2.2
  have hb : (∃ z, aa = some z ∧ z.block = bs) ∨ bs = bs := .inr rfl
  exact ⟨Nat.lt_of_lt_of_le r.lt hs.1, by rw [hs.cell hb]; exact r.c0, by rw [hs.cell hb]; exact r.c1, by rw [hs.cell hb]; exact r.c2, by rw [hs.cell hb]; exact r.c3, fun j => by rw [frozen_block (hs.2 bs hb)]; exact r.fr j⟩
theorem Lk.compact (V : VWorks VH SH) (h : Lk VH w wr q m size es s aa l bs y0 y1 y2 y3) :
    Calls Tryz.prog 5 #[.pointer (some ⟨q, 0, none⟩)] wr fun e w' => e = .returned (.int .i64 (compE es s m size)) ∧ Lk VH w w' q m size (compF es s m size) s aa l bs y0 y1 y2 y3 :=
  (h.1.compact V).mono (fun _ _ z => ⟨z.1, h.stays z.2.1 z.2.2⟩)
theorem Lk.used (V : VWorks VH SH) (h : Lk VH w wr q m size es s aa l bs y0 y1 y2 y3) :
    Calls Tryz.prog 8 #[.pointer (some ⟨q, 0, none⟩)] wr fun e w' => e = .returned (.int .i64 (used es : Int)) ∧ Lk VH w w' q m size es s aa l bs y0 y1 y2 y3 :=
  (h.1.used V).mono (fun _ _ z => ⟨z.1, h.stays z.2.1 z.2.2⟩)
theorem Lk.store (V : VWorks VH SH) (h : Lk VH w wr q m size es s aa l bs y0 y1 y2 y3) :
    Calls Tryz.prog 9 #[.pointer (some ⟨q, 0, none⟩)] wr fun e w' => ∃ q' F0, e = .returned (.pointer (some ⟨q', 0, none⟩)) ∧ SH w' w.heap.size q' F0 s ∧ Lk VH w w' q m size es s aa l bs y0 y1 y2 y3 :=
  (h.1.store V).mono (fun _ _ ⟨q', F0, h1, h2, h3⟩ => ⟨q', F0, h1, h2, h.below V h3⟩)
end
end Go.Proofs.YtphhebdmfdjfeagGreatDoor.Dk
