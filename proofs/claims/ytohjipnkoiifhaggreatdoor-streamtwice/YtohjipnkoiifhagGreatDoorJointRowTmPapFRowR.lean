/-
  What a row's listed tables say of the world: each of them. No walk.
  A log behind a stop tells a front of what was appended: the bytes of records, a log's files as it goes on, what is read of them behind a stop. No walk, and nothing of the program's own.
  A struct of six fields of one cell each, by value: opened and shut. No program.
-/
import Derived.Lib.LaidTab
import Derived.Test.YtohjipnkoiifhagGreatDoorJointBase0PlainPapPaPapDRowZPapPdPapLPapMWorksDWorksEPlainNPlainRec
import Derived.Test.YtohjipnkoiifhagGreatDoorRows
import Derived.Test.YtohjipnkoiifhagGreatDoorJointPlainSPlainR2PapGRowGPapNWorksGPapHWorksFRowBWalkC6RowY
import Derived.Lib.SmallJoins
import Derived.OpenShut
namespace Go.Proofs.YtohjipnkoiifhagGreatDoor
open Go.RowKit

theorem laid_mem {P : Program} {w : World} : ∀ {l : List (String × DataW Unit)} {ps : List MemPlace}, DataW.LaidVars P w l ps → ∀ x ∈ l, ∃ g t cs fuel p, P.globalNamed x.1 = some g ∧ (P.globals[g]?).map (·.type) = some t ∧ w.var? P x.1 = some cs ∧ DataW.trod (fun _ => ()) P w 0 (fun _ => true) false fuel t cs.toList = some (x.2, p)
  | [], _, _, x, hx => by cases hx
  | (n, d) :: r, ps, h, x, hx => by
    obtain ⟨g, t, cs, fuel, p, q, h1, h2, h3, h4, h5, _⟩ := h
    rcases List.mem_cons.1 hx with y | y
    · subst y
      exact ⟨g, t, cs, fuel, p, h1, h2, h3, h4⟩
    · exact laid_mem h5 x y
end Go.Proofs.YtohjipnkoiifhagGreatDoor

namespace Go.Proofs.YtohjipnkoiifhagGreatDoor.Dk
open Go.RowKit

/-- the bytes of records -/
def catL : List Rc → List UInt8
  | [] => []
  | r :: l => Pk.cod r.pk ++ catL l
theorem catT_list : ∀ l : List Rc, (catT l).data.toList = catL l
  | [] => rfl
  | r :: l => by rw [catT, catL, ByteArray.data_append, Array.toList_append, catT_list l, codT, bt_list]
theorem catT_len (l : List Rc) : (catT l).size = (catL l).length := by
  rw [← catT_list]
  simp
theorem catL_append : ∀ a b : List Rc, catL (a ++ b) = catL a ++ catL b
  | [], _ => rfl
  | r :: a, b => by rw [List.cons_append, catL, catL, catL_append a b, List.append_assoc]
def Good (l : List Rc) : Prop := ∀ r ∈ l, chkR r = 0
theorem scan_front : ∀ (l : List Rc) (c f : Nat), Good l → c ≤ (catL l).length → c ≤ f → ∃ k, k ≤ l.length ∧ (catL (l.take k)).length ≤ c ∧ (scan f ((catL l).take c)).1 = l.take k ∧ ((c = (catL (l.take k)).length ∧ (scan f ((catL l).take c)).2 = none) ∨ (scan f ((catL l).take c)).2 = some (catL (l.take k)).length) ∧ ∀ j, j ≤ l.length → (catL (l.take j)).length ≤ c → j ≤ k
  | [], c, f, _, hc, _ => by
    have : c = 0 := by simpa [catL] using hc
    subst this
    refine ⟨0, Nat.le_refl _, Nat.le_refl _, ?_, .inl ⟨rfl, ?_⟩, fun j hj _ => hj⟩
    · simp [catL, scan_nil]
    · simp [catL, scan_nil]
  | r :: l, c, f, hg, hc, hf => by
    have hr : chkR r = 0 := hg r (by simp)
    have hp := cod_pos r.pk
    by_cases hlt : c < (Pk.cod r.pk).length
    · have ht : (catL (r :: l)).take c = (Pk.cod r.pk).take c := by rw [catL, List.take_append_of_le_length (by omega)]
      rw [ht]
      have hj : ∀ j, j ≤ (r :: l).length → (catL ((r :: l).take j)).length ≤ c → j ≤ 0 := fun j _ h => by
        cases j with
        | zero => exact Nat.le_refl _
        | succ j => rw [List.take_succ_cons, catL, List.length_append] at h; omega
      by_cases h0 : c = 0
      · subst h0
        refine ⟨0, Nat.zero_le _, Nat.le_refl _, ?_, .inl ⟨rfl, ?_⟩, hj⟩
        · simp [scan_nil]
        · simp [scan_nil]
      · have hd := Pk.dec_front (r := r.pk) (i := c) hr hlt
        have hl : ((Pk.cod r.pk).take c).length ≠ 0 := by rw [List.length_take]; omega
        cases f with
        | zero => omega
        | succ f =>
          rw [scan_bad hl (by rw [hd]; simp)]
          exact ⟨0, Nat.zero_le _, Nat.zero_le _, rfl, .inr rfl, hj⟩
    · have ht : (catL (r :: l)).take c = Pk.cod r.pk ++ (catL l).take (c - (Pk.cod r.pk).length) := by
        rw [catL, List.take_append]
        rw [List.take_of_length_le (by omega)]
      have hd := Pk.dec_cod (r := r.pk) hr ((catL l).take (c - (Pk.cod r.pk).length))
      have hl : (Pk.cod r.pk ++ (catL l).take (c - (Pk.cod r.pk).length)).length ≠ 0 := by rw [List.length_append]; omega
      have hc' : c - (Pk.cod r.pk).length ≤ (catL l).length := by rw [catL, List.length_append] at hc; omega
      cases f with
      | zero => omega
      | succ f =>
        obtain ⟨k, h1, h2, h3, h4, h5⟩ := scan_front l (c - (Pk.cod r.pk).length) f (fun x hx => hg x (by simp [hx])) hc' (by omega)
        rw [ht, scan_ok hl (by rw [hd]), hd]
        simp only [List.drop_left']
        rw [pk_rcOf]
        refine ⟨k + 1, by simp; omega, ?_, ?_, ?_, ?_⟩
        · rw [List.take_succ_cons, catL, List.length_append]; omega
        · rw [List.take_succ_cons, h3]
        · rw [List.take_succ_cons, catL, List.length_append]
          rcases h4 with ⟨h4, h6⟩ | h4
          · exact .inl ⟨by omega, by rw [h6]; rfl⟩
          · right
            rw [h4]
            simp [Nat.add_comm]
        · intro j hj h
          cases j with
          | zero => omega
          | succ j =>
            rw [List.take_succ_cons, catL, List.length_append] at h
            have := h5 j (by simpa using hj) (by omega)
            omega
theorem scan_whole {l : List Rc} (h : Good l) : scanT (catT l) = (l, none) := by
  unfold scanT
  rw [catT_list]
  obtain ⟨k, h1, h2, h3, h4, h5⟩ := scan_front l (catL l).length (catL l).length h (Nat.le_refl _) (Nat.le_refl _)
  have hk : k = l.length := by
    have := h5 l.length (Nat.le_refl _) (by rw [List.take_length]; exact Nat.le_refl _)
    omega
  rw [List.take_length] at h3 h4
  rw [hk, List.take_length] at h3 h4
  rcases h4 with ⟨_, h4⟩ | h4
  · exact Prod.ext h3 h4
  · have hs := scan_le _ _ _ h4
    exfalso
    have : ∀ (f : Nat) (x : List UInt8) (j : Nat), (scan f x).2 = some j → j < x.length := by
      intro f
      induction f with
      | zero => intro x j hj; cases hj
      | succ f ih =>
        intro x j hj
        by_cases h0 : x.length = 0
        · rw [scan, if_pos h0] at hj; cases hj
        · by_cases hd : (Pk.dec x).2.2 = 0
          · rw [scan_ok h0 hd] at hj
            cases hq : (scan f (x.drop (Pk.dec x).2.1)).2 with
            | none => rw [hq] at hj; cases hj
            | some i =>
              rw [hq] at hj
              have := ih _ i hq
              rw [List.length_drop] at this
              simp at hj
              omega
          · rw [scan_bad h0 hd] at hj
            cases hj
            omega
    have := this _ _ _ h4
    omega
/-- files that are read whole -/
def Whole : List Pap → List Rc → Prop
  | [], A => A = []
  | e :: r, A => ∃ rs A', scanT e.text = (rs, none) ∧ A = rs ++ A' ∧ Whole r A'
theorem whole_open : ∀ {pre : List Pap} {A : List Rc} (es : List Pap), Whole pre A → openL (pre ++ es) = (A ++ (openL es).1, pre ++ (openL es).2)
  | [], A, es, h => by
    have : A = [] := h
    subst this
    simp
  | e :: r, A, es, h => by
    obtain ⟨rs, A', h1, rfl, h3⟩ := h
    rw [List.cons_append, openL_whole h1, whole_open es h3]
    simp
theorem whole_snoc : ∀ {pre : List Pap} {A rs : List Rc} {e : Pap}, Whole pre A → scanT e.text = (rs, none) → Whole (pre ++ [e]) (A ++ rs)
  | [], A, rs, e, h, hs => by
    have : A = [] := h
    subst this
    exact ⟨rs, [], hs, by simp, rfl⟩
  | x :: r, A, rs, e, h, hs => by
    obtain ⟨r1, A', h1, rfl, h3⟩ := h
    exact ⟨r1, A' ++ rs, h1, by simp, whole_snoc h3 hs⟩
/-- a log on its way: what was appended, and how many of it were there at the last Sync -/
def Logd (es : List Pap) (all : List Rc) (n : Nat) : Prop := ∃ pre e A L j, es = pre ++ [e] ∧ all = A ++ L ∧ Whole pre A ∧ (∀ x ∈ pre, x.sure = (x.text.size : Int)) ∧ e.text = catT L ∧ Good L ∧ j ≤ L.length ∧ e.sure = ((catT (L.take j)).size : Int) ∧ n ≤ A.length + j
theorem last_ix {pre : List Pap} {e : Pap} (h : Rise (pre ++ [e])) : ix (pre ++ [e]) e.n = pre.length ∧ pa (pre ++ [e]) pre.length = e ∧ lastP (pre ++ [e]) = e := by
  have hp : pa (pre ++ [e]) pre.length = e := by unfold pa; simp
  refine ⟨?_, hp, ?_⟩
  · refine ix_hit (by simp) (by rw [hp]) (fun j hj => ?_)
    rw [beq_eq_false_iff_ne]
    have := rise_pa h hj (by simp)
    rw [hp] at this
    omega
  · unfold lastP
    rw [List.length_append, List.length_singleton, Nat.add_sub_cancel]
    exact hp
theorem set_last {pre : List Pap} {e x : Pap} : (pre ++ [e]).set pre.length x = pre ++ [x] := by simp
theorem sync_last {pre : List Pap} {e : Pap} (h : Rise (pre ++ [e])) : syncL (pre ++ [e]) e.n = pre ++ [syncP e] := by
  obtain ⟨h1, h2, _⟩ := last_ix h
  unfold syncL
  rw [h1, if_pos (by simp), h2, set_last]
  rfl
theorem app_last {pre : List Pap} {e : Pap} {m : Int} {s : ByteArray} (h : Rise (pre ++ [e])) (h0 : appE (pre ++ [e]) m e.n s = 0) : appL (pre ++ [e]) m e.n s = pre ++ [addP e s] := by
  obtain ⟨h1, h2, _⟩ := last_ix h
  obtain ⟨hI, hf⟩ := app_ok.1 h0
  rw [(app_old hI hf (by rw [h1]; simp)).2, h1, h2, set_last]
theorem app_next {pre : List Pap} {e : Pap} {m : Int} {s : ByteArray} (h : Rise (pre ++ [e])) (h0 : appE (pre ++ [e]) m (e.n + 1) s = 0) : appL (pre ++ [e]) m (e.n + 1) s = (pre ++ [e]) ++ [⟨e.n + 1, 0, s⟩] := by
  obtain ⟨h1, h2, _⟩ := last_ix h
  obtain ⟨hI, hf⟩ := app_ok.1 h0
  have hle : ∀ k, k < (pre ++ [e]).length → (pa (pre ++ [e]) k).n < e.n + 1 := fun k hk => by
    by_cases hk2 : k < pre.length
    · have := rise_pa h hk2 (by simp)
      rw [h2] at this
      omega
    · have : k = pre.length := by simp at hk; omega
      rw [this, h2]; omega
  have hno : ¬ ix (pre ++ [e]) (e.n + 1) < (pre ++ [e]).length := fun z => by
    have h3 := ix_at z
    have := hle _ z
    omega
  have hlow : low (pre ++ [e]) (e.n + 1) = (pre ++ [e]).length := by
    have := low_le (pre ++ [e]) (e.n + 1)
    rcases Nat.lt_or_ge (low (pre ++ [e]) (e.n + 1)) (pre ++ [e]).length with z | z
    · exact absurd (hle _ z) (low_at z)
    · omega
  rw [(app_new hI hf hno).2, hlow]
  unfold insL
  rw [List.take_length, List.drop_length]
theorem catT_snoc (L : List Rc) (r : Rc) : catT L ++ codT r = catT (L ++ [r]) := by
  have : ∀ a b : List Rc, catT (a ++ b) = catT a ++ catT b := by
    intro a b
    apply ByteArray.ext
    apply Array.ext'
    have h1 := catT_list (a ++ b)
    have h2 := catT_list a
    have h3 := catT_list b
    rw [catL_append] at h1
    rw [ByteArray.data_append, Array.toList_append, h1, h2, h3]
  rw [this]
  simp [catT]
theorem Logd.append {m size : Int} {es : List Pap} {all : List Rc} {n : Nat} (h : Logd es all n) (ht : Tidy m es) (r : Rc) : ((logR es m size r).1 = 0 → Logd (logR es m size r).2 (all ++ [r]) n) ∧ ((logR es m size r).1 ≠ 0 → Logd (logR es m size r).2 all n) := by
  obtain ⟨pre, e, A, L, j, rfl, rfl, hw, hs, he, hg, hj, hsu, hn⟩ := h
  have hr := ht.rise
  obtain ⟨h1, h2, h3⟩ := last_ix hr
  unfold logR
  by_cases hc : chkR r ≠ 0
  · rw [if_pos hc]
    exact ⟨fun z => absurd z hc, fun _ => ⟨pre, e, A, L, j, rfl, rfl, hw, hs, he, hg, hj, hsu, hn⟩⟩
  · have hc0 : chkR r = 0 := Classical.byContradiction hc
    rw [if_neg hc, if_neg (by simp), h3]
    have hes : syncP e = ⟨e.n, (e.text.size : Int), e.text⟩ := rfl
    have hfull : ∀ n', n' ≤ A.length + j → Logd (pre ++ [syncP e]) (A ++ L) n' := fun n' hn' => ⟨pre, syncP e, A, L, L.length, rfl, rfl, hw, hs, he, hg, Nat.le_refl _, by rw [List.take_length, ← he]; rfl, by omega⟩
    split
    · rw [sync_last hr]
      have hr2 : Rise (pre ++ [syncP e]) := by
        rw [rise_num]
        have : numL (pre ++ [syncP e]) = numL (pre ++ [e]) := by simp [numL, syncP]
        rw [this, ← rise_num]
        exact hr
      refine ⟨fun z => ?_, fun z => ?_⟩
      · have hz : appE (pre ++ [syncP e]) m ((syncP e).n + 1) (codT r) = 0 := z
        have := app_next hr2 hz
        rw [show (e.n + 1) = (syncP e).n + 1 from rfl, this]
        refine ⟨pre ++ [syncP e], ⟨e.n + 1, 0, codT r⟩, A ++ L, [r], 0, rfl, by simp, whole_snoc hw (by rw [show (syncP e).text = e.text from rfl, he]; exact scan_whole hg), ?_, ?_, ?_, Nat.zero_le _, ?_, by simp; omega⟩
        · intro x hx
          rcases List.mem_append.1 hx with hx | hx
          · exact hs x hx
          · have : x = syncP e := by simpa using hx
            rw [this]; rfl
        · show codT r = catT [r]
          simp [catT]
        · intro x hx
          have : x = r := by simpa using hx
          rw [this]; exact hc0
        · simp [catT]
      · rw [app_not z]
        exact hfull n hn
    · refine ⟨fun z => ?_, fun z => ?_⟩
      · rw [app_last hr z]
        refine ⟨pre, addP e (codT r), A, L ++ [r], j, rfl, by simp, hw, hs, ?_, ?_, by simp; omega, ?_, hn⟩
        · show e.text ++ codT r = _
          rw [he, catT_snoc]
        · intro x hx
          rcases List.mem_append.1 hx with hx | hx
          · exact hg x hx
          · have : x = r := by simpa using hx
            rw [this]; exact hc0
        · rw [List.take_append_of_le_length hj]
          exact hsu
      · rw [app_not z]
        exact ⟨pre, e, A, L, j, rfl, rfl, hw, hs, he, hg, hj, hsu, hn⟩
theorem Logd.appendp {m size : Int} {es : List Pap} {all : List Rc} {n : Nat} (h : Logd es all n) (ht : Tidy m es) (r : Rc) : ((logP es m size r).1 = 0 → Logd (logP es m size r).2 (all ++ [r]) n) ∧ ((logP es m size r).1 ≠ 0 → Logd (logP es m size r).2 all n) := by
  by_cases h0 : (logR es m size r).1 = 0
  · rw [logP_ok h0]
    exact h.append ht r
  · rw [logP_not h0]
    exact ⟨fun z => absurd z h0, fun _ => h⟩
theorem Logd.sync {m : Int} {es : List Pap} {all : List Rc} {n : Nat} (h : Logd es all n) (ht : Tidy m es) : Logd (lsyncL es) all all.length := by
  obtain ⟨pre, e, A, L, j, rfl, rfl, hw, hs, he, hg, hj, hsu, hn⟩ := h
  have hr := ht.rise
  unfold lsyncL
  rw [if_neg (by simp), (last_ix hr).2.2, sync_last hr]
  exact ⟨pre, syncP e, A, L, L.length, rfl, rfl, hw, hs, he, hg, Nat.le_refl _, by rw [List.take_length, ← he]; rfl, by simp⟩
theorem Logd.len {es : List Pap} {all : List Rc} {n : Nat} (h : Logd es all n) : n ≤ all.length := by
  obtain ⟨pre, e, A, L, j, rfl, rfl, _, _, _, _, hj, _, hn⟩ := h
  simp; omega
/-- behind a stop: a front, twice the same -/
theorem Logd.front {es : List Pap} {all : List Rc} {n : Nat} (h : Logd es all n) (keep : Int) : ∃ k, n ≤ k ∧ k ≤ all.length ∧ (openL (es.map (stopP keep))).1 = all.take k ∧ (openL (openL (es.map (stopP keep))).2).1 = all.take k := by
  obtain ⟨pre, e, A, L, j, rfl, rfl, hw, hs, he, hg, hj, hsu, hn⟩ := h
  have hpre : pre.map (stopP keep) = pre := by
    conv => rhs; rw [← List.map_id pre]
    refine List.map_congr_left (fun x hx => ?_)
    have hx2 := hs x hx
    have hat : stopAt x keep = x.text.size := by unfold stopAt; rw [hx2]; omega
    unfold stopP
    rw [hat]
    have : x.text.extract 0 x.text.size = x.text := by
      apply ByteArray.ext
      simp
    rw [this]
    cases x
    simp only at hx2
    rw [hx2]
    rfl
  have hcl : stopAt e keep ≤ (catL L).length := by rw [← catT_len, ← he]; exact stop_le e keep
  have hlow : (catL (L.take j)).length ≤ stopAt e keep := by
    have h1 : (catL (L.take j)).length ≤ (catL L).length := by
      conv => rhs; rw [← List.take_append_drop j L]
      rw [catL_append, List.length_append]
      omega
    have h2 : e.text.size = (catL L).length := by rw [he, catT_len]
    unfold stopAt
    rw [hsu, catT_len, h2]
    omega
  have htx : ∀ c, c ≤ (catL L).length → ((catT L).extract 0 c).data.toList = (catL L).take c := fun c _ => by
    rw [ByteArray.data_extract, Array.toList_extract, catT_list]
    simp
  obtain ⟨k, h1, h2, h3, h4, h5⟩ := scan_front L (stopAt e keep) (stopAt e keep) hg hcl (Nat.le_refl _)
  have hjk := h5 j hj hlow
  have hsc : scanT (stopP keep e).text = ((scan (stopAt e keep) ((catL L).take (stopAt e keep))).1, (scan (stopAt e keep) ((catL L).take (stopAt e keep))).2) := by
    unfold scanT stopP
    simp only
    rw [he, htx _ hcl, List.length_take, Nat.min_eq_left hcl]
  rw [List.map_append, hpre]
  have hgk : Good (L.take k) := fun x hx => hg x (List.mem_of_mem_take hx)
  have hres : (A ++ L).take (A.length + k) = A ++ L.take k := by
    rw [List.take_append, List.take_of_length_le (by omega), Nat.add_sub_cancel_left]
  refine ⟨A.length + k, by omega, by simp; omega, ?_, ?_⟩
  · rw [whole_open _ hw, hres]
    simp only [List.map_cons, List.map_nil]
    rcases h4 with ⟨_, h4⟩ | h4
    · rw [openL_whole (by rw [hsc, h3, h4])]
      simp [openL]
    · rw [openL_cut (by rw [hsc, h3, h4])]
  · rw [whole_open _ hw]
    simp only [List.map_cons, List.map_nil]
    rcases h4 with ⟨h6, h4⟩ | h4
    · rw [openL_whole (by rw [hsc, h3, h4])]
      simp only [openL]
      rw [whole_open _ hw, openL_whole (by rw [hsc, h3, h4]), hres]
      simp [openL]
    · rw [openL_cut (by rw [hsc, h3, h4])]
      have hcut : (cutP (stopP keep e) (catL (L.take k)).length).text = catT (L.take k) := by
        apply ByteArray.ext
        apply Array.ext'
        unfold cutP stopP
        simp only
        rw [ByteArray.data_extract, Array.toList_extract, he, htx _ hcl, catT_list]
        simp only [List.extract_eq_take_drop, List.drop_zero, Nat.sub_zero]
        rw [List.take_take, Nat.min_eq_left h2]
        have hsplit : catL L = catL (L.take k) ++ catL (L.drop k) := by rw [← catL_append, List.take_append_drop]
        rw [hsplit, List.take_left]
      rw [whole_open _ hw, openL_whole (by rw [hcut]; exact scan_whole hgk), hres]
      simp [openL]
end Go.Proofs.YtohjipnkoiifhagGreatDoor.Dk

namespace Go.Proofs.YtohjipnkoiifhagGreatDoor
open Go.Joins Go.Deep Go.WideShapes

section
variable {H : Type} {enc : TypeId × Value → H} {P : Program} {w : World} {base : Nat} {spare : Nat → Bool} {held : Bool}

theorem array6 {α : Type} {cs : Array α} (h : cs.size = 6) : ∃ c0 c1 c2 c3 c4 c5, cs = #[c0, c1, c2, c3, c4, c5] := by
  obtain ⟨l⟩ := cs
  match l, h with
  | [c0, c1, c2, c3, c4, c5], _ => exact ⟨c0, c1, c2, c3, c4, c5, rfl⟩
theorem trod_struct6 {t : TypeId} {f0 f1 f2 f3 f4 f5 : Field} {fuel : Nat} {cs : List Value} {x : DataW H × List MemPlace} (ht : P.underlying t = some (.struct #[f0, f1, f2, f3, f4, f5])) (h : DataW.trod enc P w base spare held fuel t cs = some x) :
    ∃ y0 y1 y2 y3 y4 y5 n, x = (.agg [y0.1, y1.1, y2.1, y3.1, y4.1, y5.1], y0.2 ++ (y1.2 ++ (y2.2 ++ (y3.2 ++ (y4.2 ++ y5.2))))) ∧ DataW.trod enc P w base spare held n f0.type ((cs.drop f0.offset).take (P.cellsOf f0.type)) = some y0 ∧
      DataW.trod enc P w base spare held n f1.type ((cs.drop f1.offset).take (P.cellsOf f1.type)) = some y1 ∧ DataW.trod enc P w base spare held n f2.type ((cs.drop f2.offset).take (P.cellsOf f2.type)) = some y2 ∧
      DataW.trod enc P w base spare held n f3.type ((cs.drop f3.offset).take (P.cellsOf f3.type)) = some y3 ∧ DataW.trod enc P w base spare held n f4.type ((cs.drop f4.offset).take (P.cellsOf f4.type)) = some y4 ∧
      DataW.trod enc P w base spare held n f5.type ((cs.drop f5.offset).take (P.cellsOf f5.type)) = some y5 := by
  obtain ⟨xs, n, _, rfl, hl, hlen, hf⟩ := DataW.trod_struct ht h
  match xs, hlen with
  | [y0, y1, y2, y3, y4, y5], _ => exact ⟨y0, y1, y2, y3, y4, y5, n, by simp, by simpa using hf 0 f0 rfl, by simpa using hf 1 f1 rfl, by simpa using hf 2 f2 rfl, by simpa using hf 3 f3 rfl, by simpa using hf 4 f4 rfl, by simpa using hf 5 f5 rfl⟩
theorem open_agg6 {r : Reach} {b0 : Nat} {t : TypeId} {f0 f1 f2 f3 f4 f5 : Field} {v : Value} {d : DataW H} {p : List MemPlace} (hs : P.underlying t = some (.struct #[f0, f1, f2, f3, f4, f5])) (hone : oneCellFields P #[f0, f1, f2, f3, f4, f5] = true) (hC : P.cellsOf t = 6)
    (hv : Value.okWide P w r b0 t v) (h : DataW.Trod enc P w base spare held t v d p) :
    ∃ (v0 v1 v2 v3 v4 v5 : Value) (y0 y1 y2 y3 y4 y5 : DataW H × List MemPlace) (n : Nat), v = .agg #[v0, v1, v2, v3, v4, v5] ∧ d = .agg [y0.1, y1.1, y2.1, y3.1, y4.1, y5.1] ∧ p = y0.2 ++ (y1.2 ++ (y2.2 ++ (y3.2 ++ (y4.2 ++ y5.2)))) ∧
      DataW.trod enc P w base spare held n f0.type [v0] = some y0 ∧ DataW.trod enc P w base spare held n f1.type [v1] = some y1 ∧ DataW.trod enc P w base spare held n f2.type [v2] = some y2 ∧
      DataW.trod enc P w base spare held n f3.type [v3] = some y3 ∧ DataW.trod enc P w base spare held n f4.type [v4] = some y4 ∧ DataW.trod enc P w base spare held n f5.type [v5] = some y5 := by
  obtain ⟨cs, rfl, hsz⟩ := okWide_struct hs hv
  obtain ⟨c0, c1, c2, c3, c4, c5, rfl⟩ := array6 (hsz.trans hC)
  obtain ⟨fuel, hf⟩ := h
  obtain ⟨y0, y1, y2, y3, y4, y5, n, hx, h0, h1, h2, h3, h4, h5⟩ := trod_struct6 hs hf
  obtain ⟨o0, k0⟩ := hone_of hone 0 f0 rfl
  obtain ⟨o1, k1⟩ := hone_of hone 1 f1 rfl
  obtain ⟨o2, k2⟩ := hone_of hone 2 f2 rfl
  obtain ⟨o3, k3⟩ := hone_of hone 3 f3 rfl
  obtain ⟨o4, k4⟩ := hone_of hone 4 f4 rfl
  obtain ⟨o5, k5⟩ := hone_of hone 5 f5 rfl
  simp only [Prod.mk.injEq] at hx
  exact ⟨c0, c1, c2, c3, c4, c5, y0, y1, y2, y3, y4, y5, n, rfl, hx.1, hx.2, by simpa [Value.cells, o0, k0] using h0, by simpa [Value.cells, o1, k1] using h1, by simpa [Value.cells, o2, k2] using h2, by simpa [Value.cells, o3, k3] using h3, by simpa [Value.cells, o4, k4] using h4, by simpa [Value.cells, o5, k5] using h5⟩
end
end Go.Proofs.YtohjipnkoiifhagGreatDoor
