/-
  A store, pure: what Get, Last, Next and Sums answer; going on from one message to the next one. No walk.
  A vault, pure: all that its log holds is sure, and its store is what the log's records make; what Do, Compact and a stop make of it. No walk.
  What a store answers as a value; what a call may write. No walk.
  What is asked of the program's vault, whatever it is made of; a vault on its way, and blocks that are none of its own.
-/
import Derived.Test.YtmccpkpeimejhahGreatDoorJointWalkL3WalkL5PapFPapS
import Derived.Test.YtmccpkpeimejhahGreatDoorJointRowGPapNWorksGPapH
namespace Go.Proofs.YtmccpkpeimejhahGreatDoor.Dk
open Go.RowKit

def takenL (f : ByteArray) (l : List Rc) : List Rc := l.filter fun r => tkB f r.s
def getO (l : List Rc) (n : Int) : Option Rc := l.find? fun r => decide (r.q = n)
def nextO (f : ByteArray) (l : List Rc) (from' : Int) : Option Rc := l.find? fun r => tkB f r.s && decide (from' ≤ r.q)
def lastO (f : ByteArray) (l : List Rc) : Option Rc := (takenL f l).getLast?
def byteN : List Rc → Nat
  | [] => 0
  | r :: l => r.s.size + r.h.size + r.d.size + byteN l
def firstQ (l : List Rc) : Int := match l with
  | [] => 0
  | r :: _ => r.q
theorem byteN_append : ∀ a b : List Rc, byteN (a ++ b) = byteN a + byteN b
  | [], b => by simp [byteN]
  | r :: a, b => by rw [List.cons_append, byteN, byteN, byteN_append a b]; omega
theorem byteN_le {l : List Rc} (h : ∀ r ∈ l, r.s.size ≤ 135 ∧ r.h.size + r.d.size ≤ 256) : byteN l ≤ 391 * l.length := by
  induction l with
  | nil => simp [byteN]
  | cons r l ih =>
    have h1 := h r (List.mem_cons_self ..)
    have h2 := ih (fun x hx => h x (List.mem_cons_of_mem _ hx))
    rw [byteN, List.length_cons]
    omega
theorem Sto.Ok.small {s : Sto} (h : s.Ok) {x : Rc} (hx : x ∈ s.l) : x.s.size ≤ 135 ∧ x.h.size + x.d.size ≤ 256 := by
  obtain ⟨_, _, _, _, _, _, h1, h2⟩ := Pk.chk_len (r := x.pk) (h.msg x hx).2
  have e : ∀ x : ByteArray, x.data.toList.length = x.size := fun x => by simp
  simp only [Rc.pk, e] at h1 h2
  exact ⟨h1, h2⟩
theorem Sto.Ok.bytes {s : Sto} (h : s.Ok) : byteN s.l ≤ 78200 := by
  have h1 := byteN_le (fun r hr => h.small hr)
  have := h.few
  omega
theorem Sto.Ok.seq {s : Sto} (h : s.Ok) {x : Rc} (hx : x ∈ s.l) : 1 ≤ x.q ∧ x.q ≤ 1099511627776 := chkR_in (h.msg x hx).2
theorem taken_rise {f : ByteArray} {l : List Rc} (h : l.Pairwise fun a b => a.q < b.q) : (takenL f l).Pairwise fun a b => a.q < b.q := h.sublist List.filter_sublist
theorem next_taken (f : ByteArray) (l : List Rc) (n : Int) : nextO f l n = (takenL f l).find? fun r => decide (n ≤ r.q) := by
  unfold nextO takenL
  rw [List.find?_filter]
  congr
  funext r
  cases tkB f r.s <;> simp
/-- the k-th of those that rise is the first one from a number on that is above all ahead of it -/
theorem find_rise {T : List Rc} {k : Nat} {n : Int} (h1 : ∀ j, (hj : j < T.length) → j < k → T[j].q < n) (h2 : ∀ hk : k < T.length, n ≤ T[k].q) : T.find? (fun r => decide (n ≤ r.q)) = T[k]? := by
  by_cases hk : k < T.length
  · rw [List.getElem?_eq_getElem hk, List.find?_eq_some_iff_getElem]
    refine ⟨by simpa using h2 hk, k, hk, rfl, fun j hj => ?_⟩
    have := h1 j (by omega) hj
    simp only [Bool.not_eq_true', decide_eq_false_iff_not]
    omega
  · rw [List.getElem?_eq_none (by omega), List.find?_eq_none]
    intro x hx
    obtain ⟨j, hj, rfl⟩ := List.getElem_of_mem hx
    have := h1 j hj (by omega)
    simp only [decide_eq_true_eq]
    omega
/-- where one is behind k messages that a filter takes -/
def Gone (T : List Rc) (k : Nat) (n : Int) : Prop := k ≤ T.length ∧ ((k = 0 ∧ n = 0) ∨ ∃ j, ∃ hj : j < T.length, k = j + 1 ∧ n = T[j].q + 1)
theorem Gone.next {f : ByteArray} {s : Sto} (h : s.Ok) {k : Nat} {n : Int} (g : Gone (takenL f s.l) k n) : nextO f s.l n = (takenL f s.l)[k]? := by
  have hr := taken_rise (f := f) h.rise
  have hp : ∀ x ∈ takenL f s.l, 1 ≤ x.q := fun x hx => (h.seq (List.mem_filter.1 hx).1).1
  rw [next_taken]
  obtain ⟨_, ⟨rfl, rfl⟩ | ⟨j, hj, rfl, rfl⟩⟩ := g
  · exact find_rise (fun j _ z => absurd z (Nat.not_lt_zero j)) (fun hk => by have := hp _ (List.getElem_mem hk); omega)
  · refine find_rise (fun i hi z => ?_) (fun hk => ?_)
    · rcases Nat.lt_or_ge i j with y | y
      · have := List.pairwise_iff_getElem.1 hr i j hi hj y; omega
      · obtain rfl : i = j := by omega
        omega
    · have := List.pairwise_iff_getElem.1 hr j (j + 1) hj hk (by omega); omega
theorem Gone.step {T : List Rc} {k : Nat} (hk : k < T.length) : Gone T (k + 1) (T[k].q + 1) := ⟨hk, .inr ⟨k, hk, rfl, rfl⟩⟩
theorem Gone.start (T : List Rc) : Gone T 0 0 := ⟨Nat.zero_le _, .inl ⟨rfl, rfl⟩⟩
/-- what a purge leaves -/
theorem purge_left {s : Sto} {r : Rc} (h0 : tryE s r = 0) (h3 : r.k = 3) : aplS s r = ⟨s.l.filter (fun x => !(decide (x.q < r.q) && tkB r.s x.s)), s.last⟩ := by
  unfold aplS
  rw [if_neg (by rw [h0]; simp), if_neg (by omega), if_neg (by omega)]
  unfold goneB
  rw [h3]
  simp
theorem purge_try {s : Sto} {r : Rc} (h3 : r.k = 3) : tryE s r = chkR r := by
  unfold tryE
  by_cases hc : chkR r ≠ 0
  · rw [if_pos hc]
  · rw [if_neg hc, if_neg (by omega), if_pos (by omega)]
    exact (Classical.byContradiction hc : chkR r = 0).symm
end Go.Proofs.YtmccpkpeimejhahGreatDoor.Dk

namespace Go.Proofs.YtmccpkpeimejhahGreatDoor.Dk
open Go.RowKit

/-- a log whose records are all sure -/
def Safe (es : List Pap) (recs : List Rc) : Prop := (es = [] ∧ recs = []) ∨ Logd es recs recs.length
def Sured (es : List Pap) : Prop := ∀ x ∈ es, x.sure = (x.text.size : Int)
theorem Safe.sured {es : List Pap} {recs : List Rc} (h : Safe es recs) : Sured es := by
  rcases h with ⟨rfl, _⟩ | ⟨pre, e, A, L, j, rfl, rfl, hw, hs, he, hg, hj, hsu, hn⟩
  · intro x hx; cases hx
  · intro x hx
    rcases List.mem_append.1 hx with y | y
    · exact hs x y
    · rw [List.mem_singleton.1 y, hsu, he]
      rw [List.length_append] at hn
      rw [List.take_of_length_le (by omega)]
theorem Safe.opens {es : List Pap} {recs : List Rc} (h : Safe es recs) : openL es = (recs, es) := by
  rcases h with ⟨rfl, rfl⟩ | ⟨pre, e, A, L, j, rfl, rfl, hw, hs, he, hg, hj, hsu, hn⟩
  · rfl
  · rw [whole_open _ hw, openL_whole (by rw [he]; exact scan_whole hg)]
    simp [openL]
theorem stop_sure {x : Pap} (h : x.sure = (x.text.size : Int)) (keep : Int) : stopP keep x = x := by
  have hat : stopAt x keep = x.text.size := by unfold stopAt; rw [h]; omega
  unfold stopP
  rw [hat]
  have : x.text.extract 0 x.text.size = x.text := by
    apply ByteArray.ext
    simp
  rw [this]
  cases x
  simp only at h
  rw [h]
theorem Sured.stop {es : List Pap} (h : Sured es) (keep : Int) : es.map (stopP keep) = es := by
  conv => rhs; rw [← List.map_id es]
  exact List.map_congr_left (fun x hx => stop_sure (h x hx) keep)
theorem Sured.sync {es : List Pap} (h : Sured es) (n : Int) : syncL es n = es := by
  unfold syncL
  split
  · rename_i hi
    have hs := h _ (pa_mem hi)
    have e : ({ pa es (ix es n) with sure := ((pa es (ix es n)).text.size : Int) } : Pap) = pa es (ix es n) := by
      cases hp : pa es (ix es n)
      rw [hp] at hs
      simp only at hs
      rw [hs]
    rw [e, pa_get hi]
    exact List.set_getElem_self hi
  · rfl
theorem Sured.lsync {es : List Pap} (h : Sured es) : lsyncL es = es := by
  unfold lsyncL
  split
  · rfl
  · exact h.sync _
/-- of such a log the document's Append is the program's -/
theorem Sured.log {es : List Pap} (h : Sured es) (m size : Int) (r : Rc) : logP es m size r = logR es m size r := by
  by_cases h0 : (logR es m size r).1 = 0
  · exact logP_ok h0
  · rw [logP_not h0]
    refine Prod.ext rfl ?_
    unfold logR at h0 ⊢
    split
    · rfl
    · rename_i hc
      rw [if_neg hc] at h0
      split
      · rename_i hl
        rw [if_pos hl] at h0
        have h1 : appE es m 0 (codT r) ≠ 0 := h0
        exact (app_not h1).symm
      · rename_i hl
        rw [if_neg hl] at h0
        split
        · rename_i hf
          rw [if_pos hf] at h0
          rw [h.sync] at h0 ⊢
          have h1 : appE es m ((lastP es).n + 1) (codT r) ≠ 0 := h0
          exact (app_not h1).symm
        · rename_i hf
          rw [if_neg hf] at h0
          have h1 : appE es m (lastP es).n (codT r) ≠ 0 := h0
          exact (app_not h1).symm
theorem Safe.append {m size : Int} {es : List Pap} {recs : List Rc} (h : Safe es recs) (ht : Tidy m es) {r : Rc} (h0 : (logP es m size r).1 = 0) : Safe (lsyncL (logP es m size r).2) (recs ++ [r]) := by
  right
  rcases h with ⟨rfl, rfl⟩ | h
  · have hR : (logR [] m size r).1 = 0 := by
      apply Classical.byContradiction
      intro z
      rw [logP_not z] at h0
      exact z h0
    have hl : Logd (logP [] m size r).2 ([] ++ [r]) 0 := by
      rw [logP_ok hR]
      have hc : chkR r = 0 := by
        apply Classical.byContradiction
        intro z
        unfold logR at hR
        rw [if_pos z] at hR
        exact z hR
      have e : logR [] m size r = (appE [] m 0 (codT r), appL [] m 0 (codT r)) := by
        unfold logR
        rw [if_neg (by rw [hc]; simp), if_pos (show ([] : List Pap).length = 0 from rfl)]
      rw [e] at hR ⊢
      have hR' : appE [] m 0 (codT r) = 0 := hR
      obtain ⟨hI, hf⟩ := app_ok.1 hR'
      have ea : appL [] m 0 (codT r) = [⟨0, 0, codT r⟩] := by
        unfold appL
        rw [if_neg (by rw [hI]; simp), if_neg (by rw [hf]; simp), if_neg (by simp [ix])]
        rfl
      refine ⟨[], ⟨0, 0, codT r⟩, [], [r], 0, by simp only; rw [ea]; rfl, rfl, rfl, fun x hx => (by cases hx), ?_, ?_, Nat.zero_le _, ?_, Nat.zero_le _⟩
      · show codT r = catT [r]
        simp [catT]
      · intro x hx
        rw [List.mem_singleton.1 hx]; exact hc
      · simp [catT]
    exact hl.sync (ht.logp size r)
  · exact ((h.appendp ht r).1 h0).sync (ht.logp size r)
theorem Safe.rewrite {m size : Int} {es : List Pap} {l : List Rc} (hg : Good l) (h0 : (rewR es m size l).1 = 0) : Safe (rewR es m size l).2 l := by
  right
  unfold rewR at h0 ⊢
  split
  · rename_i h; rw [if_pos h] at h0; exact absurd h0 h
  · rename_i h
    rw [if_neg h] at h0
    split
    · rename_i h1; rw [if_pos h1] at h0; cases h0
    · rename_i h1
      rw [if_neg h1] at h0
      split
      · rename_i h2; rw [if_pos h2] at h0; exact absurd h0 h2
      · exact ⟨[], ⟨nextN es, ((catT l).size : Int), catT l⟩, [], l, l.length, rfl, rfl, rfl, fun x hx => (by cases hx), rfl, hg, Nat.le_refl _, by rw [List.take_length], by simp⟩
theorem rew_not {m size : Int} {es : List Pap} {l : List Rc} (h0 : (rewR es m size l).1 ≠ 0) : (rewR es m size l).2 = es := by
  unfold rewR at h0 ⊢
  split
  · rfl
  · rename_i h
    rw [if_neg h] at h0
    split
    · rfl
    · rename_i h1
      rw [if_neg h1] at h0
      split
      · rfl
      · rename_i h2
        rw [if_neg h2] at h0
        exact absurd rfl h0
/-- what records make of an empty store -/
def fillV (l : List Rc) : Sto := l.foldl aplS ⟨[], 0⟩
theorem fillV_snoc (l : List Rc) (r : Rc) : fillV (l ++ [r]) = aplS (fillV l) r := by unfold fillV; rw [List.foldl_append]; rfl
theorem foldlV_ok : ∀ (l : List Rc) {s : Sto}, s.Ok → (l.foldl aplS s).Ok
  | [], _, h => h
  | r :: l, _, h => foldlV_ok l (h.apply r)
theorem fillV_ok (l : List Rc) : (fillV l).Ok := foldlV_ok l Sto.Ok.nil
/-- a mark; what a vault is made compact to -/
def markR (n : Int) : Rc := ⟨4, n, 0, ⟨#[]⟩, ⟨#[]⟩, ⟨#[]⟩⟩
def compL (s : Sto) : List Rc := s.l ++ (if 0 < s.last then [markR s.last] else [])
theorem mark_chk {n : Int} (h : 1 ≤ n ∧ n ≤ 1099511627776) : chkR (markR n) = 0 := by
  unfold chkR markR Rc.pk Pk.chk
  simp [Pk.inB]
  omega
/-- the number of the last message -/
def endQ (l : List Rc) : Int := (l.getLast?.map (·.q)).getD 0
theorem endQ_snoc (l : List Rc) (r : Rc) : endQ (l ++ [r]) = r.q := by unfold endQ; simp
theorem nameN_front (a b : List Rc) : nameN a ≤ nameN (a ++ b) := by
  rw [nameN_len, nameN_len]
  refine nodup_le _ _ (nameL_nodup _) (fun s hs => (nameL_mem _ s).2 ?_)
  rw [hasS_append, (nameL_mem a s).1 hs]
  rfl
theorem refill_front {s : Sto} (h : s.Ok) : ∀ (k : Nat), k ≤ s.l.length → fillV (s.l.take k) = ⟨s.l.take k, endQ (s.l.take k)⟩
  | 0, _ => rfl
  | k + 1, hk => by
    have hlt : k < s.l.length := by omega
    have ih := refill_front h k (by omega)
    have hm := List.getElem_mem hlt
    obtain ⟨hk1, hc⟩ := h.msg _ hm
    have hq := h.seq hm
    rw [List.take_succ_eq_append_getElem hlt, fillV_snoc, ih]
    have hlo : ¬ (s.l[k]).q ≤ endQ (s.l.take k) := by
      cases k with
      | zero => simp [endQ]; omega
      | succ j =>
        rw [List.take_succ_eq_append_getElem (by omega), endQ_snoc]
        have := List.pairwise_iff_getElem.1 h.rise j (j + 1) (by omega) hlt (by omega)
        omega
    have hnm : ¬ (hasS (s.l.take k) (s.l[k]).s = false ∧ 100 ≤ nameN (s.l.take k)) := fun z => by
      have h1 := nameN_front (s.l.take (k + 1)) (s.l.drop (k + 1))
      rw [List.take_append_drop, List.take_succ_eq_append_getElem hlt, nameN_snoc, z.1] at h1
      have := h.names
      simp at h1
      omega
    have hfw : ¬ 200 ≤ (s.l.take k).length := by
      have := h.few
      rw [List.length_take]; omega
    have ht : tryE ⟨s.l.take k, endQ (s.l.take k)⟩ s.l[k] = 0 := by
      unfold tryE
      rw [if_neg (by rw [hc]; simp), if_neg (by omega), if_neg (by omega), if_neg hlo, if_neg (fun z => by rcases z with z | z; exact hfw z; exact hnm z)]
    unfold aplS
    rw [if_neg (by rw [ht]; simp), if_pos hk1, endQ_snoc]
theorem refill {s : Sto} (h : s.Ok) : fillV (compL s) = s ∧ Good (compL s) := by
  have hf := refill_front h s.l.length (Nat.le_refl _)
  rw [List.take_length] at hf
  have hl := h.last
  unfold compL
  by_cases h0 : 0 < s.last
  · rw [if_pos h0]
    have hmk := mark_chk (n := s.last) (by omega)
    constructor
    · rw [fillV_snoc, hf]
      have ht : tryE ⟨s.l, endQ s.l⟩ (markR s.last) = 0 := by
        unfold tryE
        rw [if_neg (by rw [hmk]; simp), if_neg (by simp [markR]), if_pos (by simp [markR])]
      have he : endQ s.l ≤ s.last := by
        unfold endQ
        cases hg : s.l.getLast? with
        | none => simp; omega
        | some x => simp; exact h.low x (List.mem_of_getLast? hg)
      unfold aplS
      rw [if_neg (by rw [ht]; simp), if_neg (by simp [markR]), if_pos (by simp [markR])]
      show Sto.mk s.l (max (endQ s.l) s.last) = s
      rw [Int.max_eq_right he]
    · intro x hx
      rcases List.mem_append.1 hx with y | y
      · exact (h.msg x y).2
      · rw [List.mem_singleton.1 y]; exact hmk
  · rw [if_neg h0, List.append_nil]
    have hn : s.l = [] := by
      cases hs : s.l with
      | nil => rfl
      | cons x l =>
        have hx : x ∈ s.l := by rw [hs]; exact List.mem_cons_self ..
        have := h.low x hx
        have := (h.seq hx).1
        omega
    constructor
    · rw [hf, hn]
      show Sto.mk [] 0 = s
      cases s
      simp only at hn hl h0 ⊢
      rw [hn]
      congr
      omega
    · rw [hn]
      intro x hx
      cases hx
/-- a vault's files and its store -/
structure VOk (m : Int) (es : List Pap) (s : Sto) : Prop where
  tidy : Tidy m es
  safe : ∃ recs, Safe es recs ∧ fillV recs = s
theorem VOk.nil {m : Int} (h : 0 ≤ m) : VOk m [] ⟨[], 0⟩ := ⟨Tidy.nil h, [], .inl ⟨rfl, rfl⟩, rfl⟩
theorem VOk.ok {m : Int} {es : List Pap} {s : Sto} (h : VOk m es s) : s.Ok := by
  obtain ⟨recs, _, rfl⟩ := h.safe
  exact fillV_ok recs
theorem VOk.sured {m : Int} {es : List Pap} {s : Sto} (h : VOk m es s) : Sured es := by
  obtain ⟨recs, h1, _⟩ := h.safe
  exact h1.sured
/-- Do: the answer; the files; the store -/
def doE (es : List Pap) (s : Sto) (m size : Int) (r : Rc) : Int := if tryE s r ≠ 0 then tryE s r else (logP es m size r).1
def doL (es : List Pap) (s : Sto) (m size : Int) (r : Rc) : List Pap := if doE es s m size r = 0 then lsyncL (logP es m size r).2 else es
def doS (es : List Pap) (s : Sto) (m size : Int) (r : Rc) : Sto := if doE es s m size r = 0 then aplS s r else s
theorem do_ok {es : List Pap} {s : Sto} {m size : Int} {r : Rc} (h : doE es s m size r = 0) : tryE s r = 0 ∧ (logP es m size r).1 = 0 := by
  unfold doE at h
  by_cases z : tryE s r = 0
  · rw [if_neg (by rw [z]; simp)] at h
    exact ⟨z, h⟩
  · rw [if_pos z] at h
    exact absurd h z
theorem VOk.did {m size : Int} {es : List Pap} {s : Sto} (h : VOk m es s) (r : Rc) : VOk m (doL es s m size r) (doS es s m size r) := by
  unfold doL doS
  by_cases h0 : doE es s m size r = 0
  · rw [if_pos h0, if_pos h0]
    obtain ⟨recs, h1, h2⟩ := h.safe
    refine ⟨(h.tidy.logp size r).lsync, recs ++ [r], h1.append h.tidy (do_ok h0).2, ?_⟩
    rw [fillV_snoc, h2]
  · rw [if_neg h0, if_neg h0]; exact h
/-- Compact -/
def compE (es : List Pap) (s : Sto) (m size : Int) : Int := (rewR es m size (compL s)).1
def compF (es : List Pap) (s : Sto) (m size : Int) : List Pap := (rewR es m size (compL s)).2
theorem VOk.comp {m size : Int} {es : List Pap} {s : Sto} (h : VOk m es s) : VOk m (compF es s m size) s := by
  unfold compF
  obtain ⟨r1, r2⟩ := refill h.ok
  by_cases h0 : (rewR es m size (compL s)).1 = 0
  · exact ⟨h.tidy.rewritten size _, compL s, Safe.rewrite r2 h0, r1⟩
  · rw [rew_not h0]; exact h
/-- a stop takes nothing; what is read again makes the store -/
theorem VOk.crash {m : Int} {es : List Pap} {s : Sto} (h : VOk m es s) (keep : Int) : es.map (stopP keep) = es ∧ (openL es).2 = es ∧ fillV (openL es).1 = s := by
  obtain ⟨recs, h1, h2⟩ := h.safe
  rw [h1.opens]
  exact ⟨h1.sured.stop keep, rfl, h2⟩
end Go.Proofs.YtmccpkpeimejhahGreatDoor.Dk

namespace Go.Proofs.YtmccpkpeimejhahGreatDoor.Dk
open Go.RowKit

def zeroR : Rc := ⟨0, 0, 0, ⟨#[]⟩, ⟨#[]⟩, ⟨#[]⟩⟩
/-- a message, or none -/
def ansV (o : Option Rc) : Value := match o with
  | some r => .tuple #[rcV r, .int .i64 0]
  | none => .tuple #[rcV zeroR, .int .i64 4]
def seekV (f : ByteArray) (o : Option Rc) : Value := if errS true f = 0 then ansV o else .tuple #[rcV zeroR, .int .i64 (errS true f)]
/-- a call may have written the store's own blocks F alone -/
def DidS (SH : World → Nat → Nat → (Nat → Prop) → Sto → Prop) (w w' : World) (B q : Nat) (F : Nat → Prop) (s : Sto) : Prop := ∃ F', SH w' B q F' s ∧ Chg F w w' ∧ ∀ k, F' k → F k ∨ w.heap.size ≤ k
end Go.Proofs.YtmccpkpeimejhahGreatDoor.Dk

namespace Go.Proofs.YtmccpkpeimejhahGreatDoor.Dk
open Go.RowKit

/-- a call may have written the vault's own blocks F alone -/
def DidV (VH : World → Nat → Nat → (Nat → Prop) → Int → Int → List Pap → Sto → Prop) (w w' : World) (B p : Nat) (F : Nat → Prop) (m size : Int) (es : List Pap) (s : Sto) : Prop := ∃ F', VH w' B p F' m size es s ∧ Chg F w w' ∧ ∀ k, F' k → F k ∨ w.heap.size ≤ k
/-- what is asked of the program's vault: VH w B p F m size es s says that at block p there is a vault of room m and that size, whose disk shows the files es and whose store is s, in the blocks F -/
structure VWorks (VH : World → Nat → Nat → (Nat → Prop) → Int → Int → List Pap → Sto → Prop) (SH : World → Nat → Nat → (Nat → Prop) → Sto → Prop) : Prop where
  own : ∀ {w B p F m size es s}, VH w B p F m size es s → ∀ k, F k → B ≤ k ∧ k < w.heap.size
  chg : ∀ {w w' B p F m size es s} {A : Nat → Prop}, VH w B p F m size es s → Chg A w w' → (∀ k, F k → ¬ A k) → VH w' B p F m size es s
  bad : ∀ (w : World) (m size : Int), (inI m 1 65536 && inI size 1 4096) = false →
    Calls Tryz.prog 17 #[.int .i64 m, .int .i64 size] w fun e w' => e = .returned (.tuple #[.pointer none, .int .i64 1]) ∧ Below w.heap.size w w'
  good : ∀ (w : World) (m size : Int), inI m 1 65536 = true → inI size 1 4096 = true →
    Calls Tryz.prog 17 #[.int .i64 m, .int .i64 size] w fun e w' => ∃ p F, e = .returned (.tuple #[.pointer (some ⟨p, 0, none⟩), .int .i64 0]) ∧ VH w' w.heap.size p F m size [] ⟨[], 0⟩ ∧ Below w.heap.size w w'
  did : ∀ {w B p F m size es s} (r : Rc), Small r → VH w B p F m size es s → VOk m es s → m ≤ 65536 → inI size 1 4096 = true → B ≤ w.heap.size →
    Calls Tryz.prog 41 #[.pointer (some ⟨p, 0, none⟩), .agg #[.int .i64 r.k, .int .i64 r.q, .int .i64 r.t, .string r.s, .string r.h, .string r.d]] w fun e w' => e = .returned (.int .i64 (doE es s m size r)) ∧ DidV VH w w' B p F m size (doL es s m size r) (doS es s m size r)
  store : ∀ {w B p F m size es s}, VH w B p F m size es s → VOk m es s → m ≤ 65536 → inI size 1 4096 = true → B ≤ w.heap.size →
    Calls Tryz.prog 24 #[.pointer (some ⟨p, 0, none⟩)] w fun e w' => ∃ q F0, e = .returned (.pointer (some ⟨q, 0, none⟩)) ∧ SH w' B q F0 s ∧ (∀ k, F0 k → F k) ∧ Below w.heap.size w w'
/-- blocks that a step has left as they were -/
def Stay (Cs : Nat → Prop) (w w' : World) : Prop := w.heap.size ≤ w'.heap.size ∧ ∀ k, Cs k → w'.heap[k]? = w.heap[k]?
theorem Stay.cell {Cs : Nat → Prop} {w w' : World} (h : Stay Cs w w') {C j : Nat} (hC : Cs C) : w'.cell? ⟨C, j, none⟩ = w.cell? ⟨C, j, none⟩ := World.cell?_of_block (w := w) (h.2 C hC)
theorem Stay.trans {Cs : Nat → Prop} {w w1 w2 : World} (h : Stay Cs w w1) (k : Stay Cs w1 w2) : Stay Cs w w2 := ⟨Nat.le_trans h.1 k.1, fun i hi => (k.2 i hi).trans (h.2 i hi)⟩
theorem Stay.fewer {Cs Cs' : Nat → Prop} {w w' : World} (h : Stay Cs w w') (hC : ∀ k, Cs' k → Cs k) : Stay Cs' w w' := ⟨h.1, fun k hk => h.2 k (hC k hk)⟩
theorem Stay.recs {Cs : Nat → Prop} {w w' : World} {a : Option Addr} {l : List Rc} (h : Stay Cs w w') (s : SlR w a l) (hn : ∀ z, a = some z → Cs z.block) : SlR w' a l := fun k hk => by
  obtain ⟨b, o, h1, h2⟩ := s k hk
  have hb : Cs b := hn _ h1
  exact ⟨b, o, h1, ⟨Nat.lt_of_lt_of_le h2.lt h.1, by rw [h.cell hb]; exact h2.c0, by rw [h.cell hb]; exact h2.c1, by rw [h.cell hb]; exact h2.c2, by rw [h.cell hb]; exact h2.c3, by rw [h.cell hb]; exact h2.c4, by rw [h.cell hb]; exact h2.c5⟩⟩
/-- a vault on its way, behind w; the blocks Cs are none of its own -/
def Vay (VH : World → Nat → Nat → (Nat → Prop) → Int → Int → List Pap → Sto → Prop) (Cs : Nat → Prop) (w wr : World) (p : Nat) (m size : Int) (es : List Pap) (s : Sto) : Prop :=
  ∃ F, VH wr w.heap.size p F m size es s ∧ Below w.heap.size w wr ∧ (∀ k, Cs k → k < wr.heap.size ∧ ¬ F k) ∧ VOk m es s ∧ m ≤ 65536 ∧ inI size 1 4096 = true
section
variable {VH : World → Nat → Nat → (Nat → Prop) → Int → Int → List Pap → Sto → Prop} {SH : World → Nat → Nat → (Nat → Prop) → Sto → Prop} {Cs Cs' : Nat → Prop} {w wr w' : World} {p : Nat} {m size : Int} {es es' : List Pap} {s s' : Sto}
theorem Vay.bl (h : Vay VH Cs w wr p m size es s) : Below w.heap.size w wr := by obtain ⟨F, _, h2, _⟩ := h; exact h2
theorem Vay.room (h : Vay VH Cs w wr p m size es s) : w.heap.size ≤ wr.heap.size := h.bl.size
theorem Vay.vok (h : Vay VH Cs w wr p m size es s) : VOk m es s := by obtain ⟨F, _, _, _, h5, _⟩ := h; exact h5
theorem Vay.ok (h : Vay VH Cs w wr p m size es s) : s.Ok := h.vok.ok
/-- new blocks may be kept -/
theorem Vay.mine (V : VWorks VH SH) (h : Vay VH Cs w wr p m size es s) (hb : Below wr.heap.size wr w') (hn : ∀ k, Cs' k → Cs k ∨ wr.heap.size ≤ k ∧ k < w'.heap.size) : Vay VH Cs' w w' p m size es s := by
  have hr := h.room
  obtain ⟨F, h1, h2, h3, h4, h5, h6⟩ := h
  refine ⟨F, V.chg (A := fun _ => False) h1 (Chg.of_below hb) (fun _ _ z => z), h2.trans (hb.mono hr), fun k hk => ?_, h4, h5, h6⟩
  rcases hn k hk with y | y
  · exact ⟨Nat.lt_of_lt_of_le (h3 k y).1 hb.size, (h3 k y).2⟩
  · exact ⟨y.2, fun z => by have := (V.own h1 k z).2; omega⟩
theorem Vay.below (V : VWorks VH SH) (h : Vay VH Cs w wr p m size es s) (hb : Below wr.heap.size wr w') : Vay VH Cs w w' p m size es s := h.mine V hb (fun _ z => .inl z)
theorem Vay.stay (h : Vay VH Cs w wr p m size es s) (hb : Below wr.heap.size wr w') : Stay Cs wr w' := by
  obtain ⟨F, _, _, h3, _⟩ := h
  exact ⟨hb.size, fun k hk => hb.block k (h3 k hk).1⟩
theorem Vay.does (V : VWorks VH SH) (h : Vay VH Cs w wr p m size es s) (hk : VOk m es' s') {fn : FuncId} {args : Array Value} {Q : Ending → World → Prop}
    (hc : ∀ F, VH wr w.heap.size p F m size es s → Calls Tryz.prog fn args wr fun e w' => Q e w' ∧ DidV VH wr w' w.heap.size p F m size es' s') :
    Calls Tryz.prog fn args wr fun e w' => Q e w' ∧ Vay VH Cs w w' p m size es' s' ∧ Stay Cs wr w' := by
  have hr := h.room
  obtain ⟨F, h1, h2, h3, h4, h5, h6⟩ := h
  refine (hc F h1).mono ?_
  rintro e w' ⟨hq, F', a1, a2, a3⟩
  refine ⟨hq, ⟨F', a1, h2.trans (a2.below hr (fun k hk z => by have := (V.own h1 k z).1; omega)), fun k hk => ⟨Nat.lt_of_lt_of_le (h3 k hk).1 a2.size, fun z => ?_⟩, hk, h5, h6⟩, a2.size, fun k hk => a2.block k (h3 k hk).1 (h3 k hk).2⟩
  rcases a3 k z with y | y
  · exact (h3 k hk).2 y
  · have := (h3 k hk).1; omega
theorem Vay.did (V : VWorks VH SH) (h : Vay VH Cs w wr p m size es s) (r : Rc) (hr : Small r) :
    Calls Tryz.prog 41 #[.pointer (some ⟨p, 0, none⟩), .agg #[.int .i64 r.k, .int .i64 r.q, .int .i64 r.t, .string r.s, .string r.h, .string r.d]] wr fun e w' => e = .returned (.int .i64 (doE es s m size r)) ∧ Vay VH Cs w w' p m size (doL es s m size r) (doS es s m size r) ∧ Stay Cs wr w' := by
  have hm := h.room
  obtain ⟨_, _, _, _, h4, h5, h6⟩ := id h
  exact h.does V (h4.did r) (fun F hF => V.did r hr hF h4 h5 h6 hm)
theorem Vay.store (V : VWorks VH SH) (h : Vay VH Cs w wr p m size es s) :
    Calls Tryz.prog 24 #[.pointer (some ⟨p, 0, none⟩)] wr fun e w' => ∃ q F0, e = .returned (.pointer (some ⟨q, 0, none⟩)) ∧ SH w' w.heap.size q F0 s ∧ Below wr.heap.size wr w' := by
  have hm := h.room
  obtain ⟨F, h1, _, _, h4, h5, h6⟩ := h
  refine (V.store h1 h4 h5 h6 hm).mono ?_
  rintro e w' ⟨q, F0, he, hs, _, hb⟩
  exact ⟨q, F0, he, hs, hb⟩
theorem Vay.new (V : VWorks VH SH) (w : World) (hm : inI m 1 65536 = true) (hs : inI size 1 4096 = true) :
    Calls Tryz.prog 17 #[.int .i64 m, .int .i64 size] w fun e w' => ∃ p, e = .returned (.tuple #[.pointer (some ⟨p, 0, none⟩), .int .i64 0]) ∧ Vay VH (fun _ => False) w w' p m size [] ⟨[], 0⟩ := by
  have hb : 1 ≤ m ∧ m ≤ 65536 := by simpa [inI] using hm
  refine (V.good w m size hm hs).mono ?_
  rintro e w' ⟨p, F, he, h1, h2⟩
  exact ⟨p, he, F, h1, h2, fun _ z => z.elim, VOk.nil (by omega), hb.2, hs⟩
end
/-- what is asked of the store of a vault where it is looked at -/
structure SSees (SH : World → Nat → Nat → (Nat → Prop) → Sto → Prop) : Prop where
  all : ∀ {w B q F s}, SH w B q F s → s.Ok → B ≤ w.heap.size →
    Calls Tryz.prog 10 #[.pointer (some ⟨q, 0, none⟩)] w fun e w' => ∃ v, e = .returned v ∧ ArrR w' w.heap.size v s.l ∧ Below w.heap.size w w'
  sums : ∀ {w B q F s}, SH w B q F s → s.Ok → B ≤ w.heap.size →
    Calls Tryz.prog 12 #[.pointer (some ⟨q, 0, none⟩)] w fun e w' => e = .returned (.agg #[.int .i64 (s.l.length : Int), .int .i64 (byteN s.l : Int), .int .i64 (firstQ s.l), .int .i64 s.last]) ∧ Below w.heap.size w w'
end Go.Proofs.YtmccpkpeimejhahGreatDoor.Dk
