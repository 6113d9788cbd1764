/-
  The program's log: Open, over what is asked of any disk.
  The program's log does what is asked of a log, over what is asked of any disk.
  A log behind a stop tells a front of what was appended: the bytes of records, a log's files as it goes on, what is read of them behind a stop. No walk, and nothing of the program's own.
  A store, pure: its messages by rising numbers, and the last number there ever was; what Try and Apply make of it. No walk.
-/
import Derived.Test.YtmccpkpeimejhahGreatDoorJointWalkC7WalkC8WalkLRWalkL2
import Derived.StillTailTactics
import Derived.Test.YtmccpkpeimejhahGreatDoorJointWalkC2WalkC3WalkC4WalkL1
import Derived.Test.YtmccpkpeimejhahGreatDoorJointPlainRecPlainSPlainR2PapG
import Derived.Test.YtmccpkpeimejhahGreatDoorJointWalkSplitWalk2Plain2Plain5
namespace Go.Proofs.YtmccpkpeimejhahGreatDoor.Dk
open Go.RowKit

theorem ArrR.own0 {w : World} {B : Nat} {v : Value} {l : List Rc} (h : ArrR w B v l) {a : Option Addr} {c : Nat} (hv : v = .slice a l.length c) {z : Addr} (hz : a = some z) : v.ownBlock = some z.block := by
  rcases h.2 with ⟨h1, _⟩ | ⟨g, cap, cur, h1, _⟩
  · rw [hv] at h1; rw [(Value.slice.inj h1).1] at hz; cases hz
  · rw [hv] at h1
    have e := (Value.slice.inj h1).1
    rw [hz] at e
    obtain rfl := Option.some.inj e
    rw [hv, hz]; rfl
theorem Opn.opened {Has : World → Nat → Nat → (Nat → Prop) → Int → List Pap → Prop} (H : Works Has) {w w1 w' : World} {B q : Nat} {F : Nat → Prop} {m size : Int} {es0 es : List Pap} {ov : Value} {a0 : Option Addr} {out : List Rc} {ns : List Int} (h0 : Has w B q F m es0) (hb : Below w.heap.size w w1) (hg1 : w.heap.size < w1.heap.size) (hB : B ≤ w.heap.size)
    (c0 : w1.cell? ⟨w.heap.size, 0, none⟩ = some (.pointer (some ⟨q, 0, none⟩))) (c1 : w1.cell? ⟨w.heap.size, 1, none⟩ = some (.int .i64 size)) (h : Opn Has w1 w' B q F m ov a0 es out ns) :
    ∃ a c F', ov = .slice a out.length c ∧ SlR w' a out ∧ (∀ z, a = some z → w.heap.size ≤ z.block ∧ z.block < w'.heap.size ∧ ¬ F' z.block) ∧ LHof Has w.heap.size size w' B q F' m es ∧ Chg F w w' ∧ ∀ k, F' k → F k ∨ w.heap.size ≤ k := by
  obtain ⟨⟨F', r1, r2, r3, r4⟩, hA, _, _⟩ := h
  have hF : ¬ F w.heap.size := fun z => by have := (H.own h0 _ z).2; omega
  have hF' : ¬ F' w.heap.size := fun z => by
    rcases r3 _ z with y | y
    · exact hF y
    · omega
  obtain ⟨a, c, hv, _, _, hs⟩ := hA.shape
  refine ⟨a, c, fun k => F' k ∨ k = w.heap.size, hv, hs, fun z hz => ?_, ⟨F', r1, ⟨hB, Nat.lt_of_lt_of_le hg1 r2.size⟩, hF', ?_, ?_, fun k => Iff.rfl⟩, (Chg.of_below hb).trans r2, fun k hk => ?_⟩
  · have ho := hA.own0 hv hz
    have hl := World.ownsRow.lt hA _ ho
    refine ⟨by omega, hl.2, fun y => ?_⟩
    rcases y with y | y
    · exact (r4 _ (.inl ho)).2 y
    · omega
  · rw [r2.cell (p := ⟨w.heap.size, 0, none⟩) hg1 hF]; exact c0
  · rw [r2.cell (p := ⟨w.heap.size, 1, none⟩) hg1 hF]; exact c1
  · rcases hk with y | y
    · rcases r3 k y with z | z
      · exact .inl z
      · exact .inr (by omega)
    · exact .inr (by omega)

set_option maxRecDepth 100000 in
set_option maxHeartbeats 1000000 in
theorem lopen_bad {w : World} {q B : Nat} (size : Int) (hz : inI size 1 4096 = false) (hB : B ≤ w.heap.size) :
    Calls Tryz.prog 49 #[.pointer (some ⟨q, 0, none⟩), .int .i64 size] w fun e w' => (∃ a c, e = .returned (.tuple #[.pointer none, .slice a 0 c, .int .i64 1])) ∧ Below B w w' := by
  by_cases h1 : size < 1
  · have hd : decide (size < 1) = true := decide_eq_true h1
    go_enter Tryz.func49, Tryz.ntmps49
    go_wp2_with fail
    go_ret3
    exact ⟨⟨_, _, rfl⟩, (Below.refl _ _).mono hB⟩
  · have hd : decide (size < 1) = false := decide_eq_false h1
    have h2 : 4096 < size := by
      simp [inI] at hz; omega
    have hd2 : decide (4096 < size) = true := decide_eq_true h2
    clear hz
    go_enter Tryz.func49, Tryz.ntmps49
    go_wp2_with fail
    go_ret3
    exact ⟨⟨_, _, rfl⟩, (Below.refl _ _).mono hB⟩

set_option maxRecDepth 100000 in
set_option maxHeartbeats 1000000 in
theorem lopen_any {Has : World → Nat → Nat → (Nat → Prop) → Int → List Pap → Prop} (H : More Has) (HS : Lists Has) {w : World} {B q : Nat} {F : Nat → Prop} {m : Int} {es : List Pap} (size : Int) (hz : inI size 1 4096 = true) (h : Has w B q F m es) (ht : Tidy m es) (hm : m ≤ 65536) (hB : B ≤ w.heap.size) :
    Calls Tryz.prog 49 #[.pointer (some ⟨q, 0, none⟩), .int .i64 size] w fun e w' => ∃ g a c F', e = .returned (.tuple #[.pointer (some ⟨g, 0, none⟩), .slice a (openL es).1.length c, .int .i64 0]) ∧ SlR w' a (openL es).1 ∧ (∀ z, a = some z → w.heap.size ≤ z.block ∧ z.block < w'.heap.size ∧ ¬ F' z.block) ∧ LHof Has g size w' B q F' m (openL es).2 ∧ Chg F w w' ∧ ∀ k, F' k → F k ∨ w.heap.size ≤ k := by
  have hz2 : 1 ≤ size ∧ size ≤ 4096 := by simpa [inI] using hz
  have hd : decide (size < 1) = false := decide_eq_false (by omega)
  have hd2 : decide (4096 < size) = false := decide_eq_false (by omega)
  have HH := hide h
  have HT := hide ht
  clear h ht hz hz2
  have hb0 : Below w.heap.size w (w.alloc (.cells #[.pointer (some ⟨q, 0, none⟩), .int .i64 size] 119)) := (Below.refl _ _).alloc (Nat.le_refl _) _
  have hS := heap_alloc_new w (.cells #[.pointer (some ⟨q, 0, none⟩), .int .i64 size] 119)
  have c0 := (cell_of_row _ w.heap.size 0 _ _ _ hS).trans (show _ = some (Value.pointer (some ⟨q, 0, none⟩)) from rfl)
  have c1 := (cell_of_row _ w.heap.size 1 _ _ _ hS).trans (show _ = some (Value.int .i64 size) from rfl)
  have PR := hide (lread_any H HS (H.works.chg (A := fun _ => False) (unhide HH) (Chg.of_below hb0) (fun _ _ z => z)) (unhide HT) hm (Nat.le_trans hB hb0.size))
  have HO := hide (fun w' ov a => Opn.opened (w' := w') (ov := ov) (a0 := a) (es := (openL es).2) (out := (openL es).1) (ns := numL es) H.works (unhide HH) hb0 (by simp) hB c0 c1)
  clear hb0 hS c0 c1
  go_enter Tryz.func49, Tryz.ntmps49
  go_wp2_with fail
  refine (unhide PR).mono ?_
  rintro e w2 ⟨ov, a0, rfl, o2⟩
  obtain ⟨a, c, F', rfl, o3⟩ := unhide HO _ _ _ o2
  have O3 := hide o3
  clear o2 o3 HO PR
  go_wp2_with fail
  go_ret3
  exact ⟨w.heap.size, a, c, F', rfl, unhide O3⟩
end Go.Proofs.YtmccpkpeimejhahGreatDoor.Dk

namespace Go.Proofs.YtmccpkpeimejhahGreatDoor.Dk
open Go.RowKit

theorem lworks_of {Has : World → Nat → Nat → (Nat → Prop) → Int → List Pap → Prop} (H : More Has) (HS : Lists Has) : LWorks Has (LHof Has) := {
  looks := LHof.looks H
  down := fun h => h.down
  bad := fun size hz _ _ _ hB => lopen_bad size hz hB
  good := fun size hz h ht hm hB => lopen_any H HS size hz h ht hm hB
  append := fun r hs _ h ht hm hB => by
    obtain ⟨F0, hr, c0, c1, _, hfin⟩ := h.begin
    refine (hr.didc (fun F' hF hC => lappend_has H HS r hs hF ht hm hB c0 c1 (hC _ rfl))).mono ?_
    rintro e w' ⟨h1, h2, _⟩
    exact ⟨h1, hfin _ _ h2⟩
  sync := fun _ h ht hm hB => by
    obtain ⟨F0, hr, c0, _, _, hfin⟩ := h.begin
    refine (hr.didc (fun F' hF hC => lsync_has H HS hF ht hm hB c0 (hC _ rfl))).mono ?_
    rintro e w' ⟨h1, h2, _⟩
    exact ⟨h1, hfin _ _ h2⟩
  blocks := fun _ h ht hm hB => by
    obtain ⟨F0, hr, c0, _, _, hfin⟩ := h.begin
    obtain ⟨F', h1, _⟩ := id hr
    refine (lblocks_new HS h1 ht hm hB c0).mono ?_
    rintro e w' ⟨a, c, he, _, hs, _, hb⟩
    exact ⟨a, c, he, hs, hfin _ _ (hr.below H.works hb).1⟩ }
end Go.Proofs.YtmccpkpeimejhahGreatDoor.Dk

namespace Go.Proofs.YtmccpkpeimejhahGreatDoor.Dk
open Go.RowKit

/-- the bytes of records -/
def catL : List Rc → List UInt8
  | [] => []
  | r :: l => Pk.cod r.pk ++ catL l
theorem catT_list : ∀ l : List Rc, (catT l).data.toList = catL l
  | [] => rfl
  | r :: l => by rw [catT, catL, ByteArray.data_append, Array.toList_append, catT_list l, codT, bt_list]
theorem catT_len (l : List Rc) : (catT l).size = (catL l).length := by
  rw [← catT_list]
  simp
theorem catL_append : ∀ a b : List Rc, catL (a ++ b) = catL a ++ catL b
  | [], _ => rfl
  | r :: a, b => by rw [List.cons_append, catL, catL, catL_append a b, List.append_assoc]
def Good (l : List Rc) : Prop := ∀ r ∈ l, chkR r = 0
theorem scan_front : ∀ (l : List Rc) (c f : Nat), Good l → c ≤ (catL l).length → c ≤ f → ∃ k, k ≤ l.length ∧ (catL (l.take k)).length ≤ c ∧ (scan f ((catL l).take c)).1 = l.take k ∧ ((c = (catL (l.take k)).length ∧ (scan f ((catL l).take c)).2 = none) ∨ (scan f ((catL l).take c)).2 = some (catL (l.take k)).length) ∧ ∀ j, j ≤ l.length → (catL (l.take j)).length ≤ c → j ≤ k
  | [], c, f, _, hc, _ => by
    have : c = 0 := by simpa [catL] using hc
    subst this
    refine ⟨0, Nat.le_refl _, Nat.le_refl _, ?_, .inl ⟨rfl, ?_⟩, fun j hj _ => hj⟩
    · simp [catL, scan_nil]
    · simp [catL, scan_nil]
  | r :: l, c, f, hg, hc, hf => by
    have hr : chkR r = 0 := hg r (by simp)
    have hp := cod_pos r.pk
    by_cases hlt : c < (Pk.cod r.pk).length
    · have ht : (catL (r :: l)).take c = (Pk.cod r.pk).take c := by rw [catL, List.take_append_of_le_length (by omega)]
      rw [ht]
      have hj : ∀ j, j ≤ (r :: l).length → (catL ((r :: l).take j)).length ≤ c → j ≤ 0 := fun j _ h => by
        cases j with
        | zero => exact Nat.le_refl _
        | succ j => rw [List.take_succ_cons, catL, List.length_append] at h; omega
      by_cases h0 : c = 0
      · subst h0
        refine ⟨0, Nat.zero_le _, Nat.le_refl _, ?_, .inl ⟨rfl, ?_⟩, hj⟩
        · simp [scan_nil]
        · simp [scan_nil]
      · have hd := Pk.dec_front (r := r.pk) (i := c) hr hlt
        have hl : ((Pk.cod r.pk).take c).length ≠ 0 := by rw [List.length_take]; omega
        cases f with
        | zero => omega
        | succ f =>
          rw [scan_bad hl (by rw [hd]; simp)]
          exact ⟨0, Nat.zero_le _, Nat.zero_le _, rfl, .inr rfl, hj⟩
    · have ht : (catL (r :: l)).take c = Pk.cod r.pk ++ (catL l).take (c - (Pk.cod r.pk).length) := by
        rw [catL, List.take_append]
        rw [List.take_of_length_le (by omega)]
      have hd := Pk.dec_cod (r := r.pk) hr ((catL l).take (c - (Pk.cod r.pk).length))
      have hl : (Pk.cod r.pk ++ (catL l).take (c - (Pk.cod r.pk).length)).length ≠ 0 := by rw [List.length_append]; omega
      have hc' : c - (Pk.cod r.pk).length ≤ (catL l).length := by rw [catL, List.length_append] at hc; omega
      cases f with
      | zero => omega
      | succ f =>
        obtain ⟨k, h1, h2, h3, h4, h5⟩ := scan_front l (c - (Pk.cod r.pk).length) f (fun x hx => hg x (by simp [hx])) hc' (by omega)
        rw [ht, scan_ok hl (by rw [hd]), hd]
        simp only [List.drop_left']
        rw [pk_rcOf]
        refine ⟨k + 1, by simp; omega, ?_, ?_, ?_, ?_⟩
        · rw [List.take_succ_cons, catL, List.length_append]; omega
        · rw [List.take_succ_cons, h3]
        · rw [List.take_succ_cons, catL, List.length_append]
          rcases h4 with ⟨h4, h6⟩ | h4
          · exact .inl ⟨by omega, by rw [h6]; rfl⟩
          · right
            rw [h4]
            simp [Nat.add_comm]
        · intro j hj h
          cases j with
          | zero => omega
          | succ j =>
            rw [List.take_succ_cons, catL, List.length_append] at h
            have := h5 j (by simpa using hj) (by omega)
            omega
theorem scan_whole {l : List Rc} (h : Good l) : scanT (catT l) = (l, none) := by
  unfold scanT
  rw [catT_list]
  obtain ⟨k, h1, h2, h3, h4, h5⟩ := scan_front l (catL l).length (catL l).length h (Nat.le_refl _) (Nat.le_refl _)
  have hk : k = l.length := by
    have := h5 l.length (Nat.le_refl _) (by rw [List.take_length]; exact Nat.le_refl _)
    omega
  rw [List.take_length] at h3 h4
  rw [hk, List.take_length] at h3 h4
  rcases h4 with ⟨_, h4⟩ | h4
  · exact Prod.ext h3 h4
  · have hs := scan_le _ _ _ h4
    exfalso
    have : ∀ (f : Nat) (x : List UInt8) (j : Nat), (scan f x).2 = some j → j < x.length := by
      intro f
      induction f with
      | zero => intro x j hj; cases hj
      | succ f ih =>
        intro x j hj
        by_cases h0 : x.length = 0
        · rw [scan, if_pos h0] at hj; cases hj
        · by_cases hd : (Pk.dec x).2.2 = 0
          · rw [scan_ok h0 hd] at hj
            cases hq : (scan f (x.drop (Pk.dec x).2.1)).2 with
            | none => rw [hq] at hj; cases hj
            | some i =>
              rw [hq] at hj
              have := ih _ i hq
              rw [List.length_drop] at this
              simp at hj
              omega
          · rw [scan_bad h0 hd] at hj
            cases hj
            omega
    have := this _ _ _ h4
    omega
/-- files that are read whole -/
def Whole : List Pap → List Rc → Prop
  | [], A => A = []
  | e :: r, A => ∃ rs A', scanT e.text = (rs, none) ∧ A = rs ++ A' ∧ Whole r A'
theorem whole_open : ∀ {pre : List Pap} {A : List Rc} (es : List Pap), Whole pre A → openL (pre ++ es) = (A ++ (openL es).1, pre ++ (openL es).2)
  | [], A, es, h => by
    have : A = [] := h
    subst this
    simp
  | e :: r, A, es, h => by
    obtain ⟨rs, A', h1, rfl, h3⟩ := h
    rw [List.cons_append, openL_whole h1, whole_open es h3]
    simp
theorem whole_snoc : ∀ {pre : List Pap} {A rs : List Rc} {e : Pap}, Whole pre A → scanT e.text = (rs, none) → Whole (pre ++ [e]) (A ++ rs)
  | [], A, rs, e, h, hs => by
    have : A = [] := h
    subst this
    exact ⟨rs, [], hs, by simp, rfl⟩
  | x :: r, A, rs, e, h, hs => by
    obtain ⟨r1, A', h1, rfl, h3⟩ := h
    exact ⟨r1, A' ++ rs, h1, by simp, whole_snoc h3 hs⟩
/-- a log on its way: what was appended, and how many of it were there at the last Sync -/
def Logd (es : List Pap) (all : List Rc) (n : Nat) : Prop := ∃ pre e A L j, es = pre ++ [e] ∧ all = A ++ L ∧ Whole pre A ∧ (∀ x ∈ pre, x.sure = (x.text.size : Int)) ∧ e.text = catT L ∧ Good L ∧ j ≤ L.length ∧ e.sure = ((catT (L.take j)).size : Int) ∧ n ≤ A.length + j
theorem last_ix {pre : List Pap} {e : Pap} (h : Rise (pre ++ [e])) : ix (pre ++ [e]) e.n = pre.length ∧ pa (pre ++ [e]) pre.length = e ∧ lastP (pre ++ [e]) = e := by
  have hp : pa (pre ++ [e]) pre.length = e := by unfold pa; simp
  refine ⟨?_, hp, ?_⟩
  · refine ix_hit (by simp) (by rw [hp]) (fun j hj => ?_)
    rw [beq_eq_false_iff_ne]
    have := rise_pa h hj (by simp)
    rw [hp] at this
    omega
  · unfold lastP
    rw [List.length_append, List.length_singleton, Nat.add_sub_cancel]
    exact hp
theorem set_last {pre : List Pap} {e x : Pap} : (pre ++ [e]).set pre.length x = pre ++ [x] := by simp
theorem sync_last {pre : List Pap} {e : Pap} (h : Rise (pre ++ [e])) : syncL (pre ++ [e]) e.n = pre ++ [syncP e] := by
  obtain ⟨h1, h2, _⟩ := last_ix h
  unfold syncL
  rw [h1, if_pos (by simp), h2, set_last]
  rfl
theorem app_last {pre : List Pap} {e : Pap} {m : Int} {s : ByteArray} (h : Rise (pre ++ [e])) (h0 : appE (pre ++ [e]) m e.n s = 0) : appL (pre ++ [e]) m e.n s = pre ++ [addP e s] := by
  obtain ⟨h1, h2, _⟩ := last_ix h
  obtain ⟨hI, hf⟩ := app_ok.1 h0
  rw [(app_old hI hf (by rw [h1]; simp)).2, h1, h2, set_last]
theorem app_next {pre : List Pap} {e : Pap} {m : Int} {s : ByteArray} (h : Rise (pre ++ [e])) (h0 : appE (pre ++ [e]) m (e.n + 1) s = 0) : appL (pre ++ [e]) m (e.n + 1) s = (pre ++ [e]) ++ [⟨e.n + 1, 0, s⟩] := by
  obtain ⟨h1, h2, _⟩ := last_ix h
  obtain ⟨hI, hf⟩ := app_ok.1 h0
  have hle : ∀ k, k < (pre ++ [e]).length → (pa (pre ++ [e]) k).n < e.n + 1 := fun k hk => by
    by_cases hk2 : k < pre.length
    · have := rise_pa h hk2 (by simp)
      rw [h2] at this
      omega
    · have : k = pre.length := by simp at hk; omega
      rw [this, h2]; omega
  have hno : ¬ ix (pre ++ [e]) (e.n + 1) < (pre ++ [e]).length := fun z => by
    have h3 := ix_at z
    have := hle _ z
    omega
  have hlow : low (pre ++ [e]) (e.n + 1) = (pre ++ [e]).length := by
    have := low_le (pre ++ [e]) (e.n + 1)
    rcases Nat.lt_or_ge (low (pre ++ [e]) (e.n + 1)) (pre ++ [e]).length with z | z
    · exact absurd (hle _ z) (low_at z)
    · omega
  rw [(app_new hI hf hno).2, hlow]
  unfold insL
  rw [List.take_length, List.drop_length]
theorem catT_snoc (L : List Rc) (r : Rc) : catT L ++ codT r = catT (L ++ [r]) := by
  have : ∀ a b : List Rc, catT (a ++ b) = catT a ++ catT b := by
    intro a b
    apply ByteArray.ext
    apply Array.ext'
    have h1 := catT_list (a ++ b)
    have h2 := catT_list a
    have h3 := catT_list b
    rw [catL_append] at h1
    rw [ByteArray.data_append, Array.toList_append, h1, h2, h3]
  rw [this]
  simp [catT]
theorem Logd.append {m size : Int} {es : List Pap} {all : List Rc} {n : Nat} (h : Logd es all n) (ht : Tidy m es) (r : Rc) : ((logR es m size r).1 = 0 → Logd (logR es m size r).2 (all ++ [r]) n) ∧ ((logR es m size r).1 ≠ 0 → Logd (logR es m size r).2 all n) := by
  obtain ⟨pre, e, A, L, j, rfl, rfl, hw, hs, he, hg, hj, hsu, hn⟩ := h
  have hr := ht.rise
  obtain ⟨h1, h2, h3⟩ := last_ix hr
  unfold logR
  by_cases hc : chkR r ≠ 0
  · rw [if_pos hc]
    exact ⟨fun z => absurd z hc, fun _ => ⟨pre, e, A, L, j, rfl, rfl, hw, hs, he, hg, hj, hsu, hn⟩⟩
  · have hc0 : chkR r = 0 := Classical.byContradiction hc
    rw [if_neg hc, if_neg (by simp), h3]
    have hes : syncP e = ⟨e.n, (e.text.size : Int), e.text⟩ := rfl
    have hfull : ∀ n', n' ≤ A.length + j → Logd (pre ++ [syncP e]) (A ++ L) n' := fun n' hn' => ⟨pre, syncP e, A, L, L.length, rfl, rfl, hw, hs, he, hg, Nat.le_refl _, by rw [List.take_length, ← he]; rfl, by omega⟩
    split
    · rw [sync_last hr]
      have hr2 : Rise (pre ++ [syncP e]) := by
        rw [rise_num]
        have : numL (pre ++ [syncP e]) = numL (pre ++ [e]) := by simp [numL, syncP]
        rw [this, ← rise_num]
        exact hr
      refine ⟨fun z => ?_, fun z => ?_⟩
      · have hz : appE (pre ++ [syncP e]) m ((syncP e).n + 1) (codT r) = 0 := z
        have := app_next hr2 hz
        rw [show (e.n + 1) = (syncP e).n + 1 from rfl, this]
        refine ⟨pre ++ [syncP e], ⟨e.n + 1, 0, codT r⟩, A ++ L, [r], 0, rfl, by simp, whole_snoc hw (by rw [show (syncP e).text = e.text from rfl, he]; exact scan_whole hg), ?_, ?_, ?_, Nat.zero_le _, ?_, by simp; omega⟩
        · intro x hx
          rcases List.mem_append.1 hx with hx | hx
          · exact hs x hx
          · have : x = syncP e := by simpa using hx
            rw [this]; rfl
        · show codT r = catT [r]
          simp [catT]
        · intro x hx
          have : x = r := by simpa using hx
          rw [this]; exact hc0
        · simp [catT]
      · rw [app_not z]
        exact hfull n hn
    · refine ⟨fun z => ?_, fun z => ?_⟩
      · rw [app_last hr z]
        refine ⟨pre, addP e (codT r), A, L ++ [r], j, rfl, by simp, hw, hs, ?_, ?_, by simp; omega, ?_, hn⟩
        · show e.text ++ codT r = _
          rw [he, catT_snoc]
        · intro x hx
          rcases List.mem_append.1 hx with hx | hx
          · exact hg x hx
          · have : x = r := by simpa using hx
            rw [this]; exact hc0
        · rw [List.take_append_of_le_length hj]
          exact hsu
      · rw [app_not z]
        exact ⟨pre, e, A, L, j, rfl, rfl, hw, hs, he, hg, hj, hsu, hn⟩
theorem Logd.appendp {m size : Int} {es : List Pap} {all : List Rc} {n : Nat} (h : Logd es all n) (ht : Tidy m es) (r : Rc) : ((logP es m size r).1 = 0 → Logd (logP es m size r).2 (all ++ [r]) n) ∧ ((logP es m size r).1 ≠ 0 → Logd (logP es m size r).2 all n) := by
  by_cases h0 : (logR es m size r).1 = 0
  · rw [logP_ok h0]
    exact h.append ht r
  · rw [logP_not h0]
    exact ⟨fun z => absurd z h0, fun _ => h⟩
theorem Logd.sync {m : Int} {es : List Pap} {all : List Rc} {n : Nat} (h : Logd es all n) (ht : Tidy m es) : Logd (lsyncL es) all all.length := by
  obtain ⟨pre, e, A, L, j, rfl, rfl, hw, hs, he, hg, hj, hsu, hn⟩ := h
  have hr := ht.rise
  unfold lsyncL
  rw [if_neg (by simp), (last_ix hr).2.2, sync_last hr]
  exact ⟨pre, syncP e, A, L, L.length, rfl, rfl, hw, hs, he, hg, Nat.le_refl _, by rw [List.take_length, ← he]; rfl, by simp⟩
theorem Logd.len {es : List Pap} {all : List Rc} {n : Nat} (h : Logd es all n) : n ≤ all.length := by
  obtain ⟨pre, e, A, L, j, rfl, rfl, _, _, _, _, hj, _, hn⟩ := h
  simp; omega
/-- behind a stop: a front, twice the same -/
theorem Logd.front {es : List Pap} {all : List Rc} {n : Nat} (h : Logd es all n) (keep : Int) : ∃ k, n ≤ k ∧ k ≤ all.length ∧ (openL (es.map (stopP keep))).1 = all.take k ∧ (openL (openL (es.map (stopP keep))).2).1 = all.take k := by
  obtain ⟨pre, e, A, L, j, rfl, rfl, hw, hs, he, hg, hj, hsu, hn⟩ := h
  have hpre : pre.map (stopP keep) = pre := by
    conv => rhs; rw [← List.map_id pre]
    refine List.map_congr_left (fun x hx => ?_)
    have hx2 := hs x hx
    have hat : stopAt x keep = x.text.size := by unfold stopAt; rw [hx2]; omega
    unfold stopP
    rw [hat]
    have : x.text.extract 0 x.text.size = x.text := by
      apply ByteArray.ext
      simp
    rw [this]
    cases x
    simp only at hx2
    rw [hx2]
    rfl
  have hcl : stopAt e keep ≤ (catL L).length := by rw [← catT_len, ← he]; exact stop_le e keep
  have hlow : (catL (L.take j)).length ≤ stopAt e keep := by
    have h1 : (catL (L.take j)).length ≤ (catL L).length := by
      conv => rhs; rw [← List.take_append_drop j L]
      rw [catL_append, List.length_append]
      omega
    have h2 : e.text.size = (catL L).length := by rw [he, catT_len]
    unfold stopAt
    rw [hsu, catT_len, h2]
    omega
  have htx : ∀ c, c ≤ (catL L).length → ((catT L).extract 0 c).data.toList = (catL L).take c := fun c _ => by
    rw [ByteArray.data_extract, Array.toList_extract, catT_list]
    simp
  obtain ⟨k, h1, h2, h3, h4, h5⟩ := scan_front L (stopAt e keep) (stopAt e keep) hg hcl (Nat.le_refl _)
  have hjk := h5 j hj hlow
  have hsc : scanT (stopP keep e).text = ((scan (stopAt e keep) ((catL L).take (stopAt e keep))).1, (scan (stopAt e keep) ((catL L).take (stopAt e keep))).2) := by
    unfold scanT stopP
    simp only
    rw [he, htx _ hcl, List.length_take, Nat.min_eq_left hcl]
  rw [List.map_append, hpre]
  have hgk : Good (L.take k) := fun x hx => hg x (List.mem_of_mem_take hx)
  have hres : (A ++ L).take (A.length + k) = A ++ L.take k := by
    rw [List.take_append, List.take_of_length_le (by omega), Nat.add_sub_cancel_left]
  refine ⟨A.length + k, by omega, by simp; omega, ?_, ?_⟩
  · rw [whole_open _ hw, hres]
    simp only [List.map_cons, List.map_nil]
    rcases h4 with ⟨_, h4⟩ | h4
    · rw [openL_whole (by rw [hsc, h3, h4])]
      simp [openL]
    · rw [openL_cut (by rw [hsc, h3, h4])]
  · rw [whole_open _ hw]
    simp only [List.map_cons, List.map_nil]
    rcases h4 with ⟨h6, h4⟩ | h4
    · rw [openL_whole (by rw [hsc, h3, h4])]
      simp only [openL]
      rw [whole_open _ hw, openL_whole (by rw [hsc, h3, h4]), hres]
      simp [openL]
    · rw [openL_cut (by rw [hsc, h3, h4])]
      have hcut : (cutP (stopP keep e) (catL (L.take k)).length).text = catT (L.take k) := by
        apply ByteArray.ext
        apply Array.ext'
        unfold cutP stopP
        simp only
        rw [ByteArray.data_extract, Array.toList_extract, he, htx _ hcl, catT_list]
        simp only [List.extract_eq_take_drop, List.drop_zero, Nat.sub_zero]
        rw [List.take_take, Nat.min_eq_left h2]
        have hsplit : catL L = catL (L.take k) ++ catL (L.drop k) := by rw [← catL_append, List.take_append_drop]
        rw [hsplit, List.take_left]
      rw [whole_open _ hw, openL_whole (by rw [hcut]; exact scan_whole hgk), hres]
      simp [openL]
end Go.Proofs.YtmccpkpeimejhahGreatDoor.Dk

namespace Go.Proofs.YtmccpkpeimejhahGreatDoor.Dk
open Go.RowKit

structure Sto where
  l : List Rc
  last : Int
/-- a filter takes a subject (both are right) -/
def tkB (f s : ByteArray) : Bool := coverL (Pl.toks f) (Pl.toks s)
def hasS (l : List Rc) (s : ByteArray) : Bool := l.any fun r => decide (r.s = s)
/-- how many subjects there are -/
def nameN : List Rc → Nat
  | [] => 0
  | r :: l => nameN l + (if hasS l r.s then 0 else 1)
def seqB (l : List Rc) (n : Int) : Bool := l.any fun r => decide (r.q = n)
def tryE (s : Sto) (r : Rc) : Int :=
  if chkR r ≠ 0 then chkR r
  else if r.k = 2 ∧ seqB s.l r.q = false then 4
  else if r.k ≠ 1 then 0
  else if r.q ≤ s.last then 9
  else if 200 ≤ s.l.length ∨ (hasS s.l r.s = false ∧ 100 ≤ nameN s.l) then 8
  else 0
def goneB (r x : Rc) : Bool := (decide (r.k = 2) && decide (x.q = r.q)) || (decide (r.k = 3) && (decide (x.q < r.q) && tkB r.s x.s))
def aplS (s : Sto) (r : Rc) : Sto :=
  if tryE s r ≠ 0 then s
  else if r.k = 1 then ⟨s.l ++ [r], r.q⟩
  else if r.k = 4 then ⟨s.l, max s.last r.q⟩
  else ⟨s.l.filter (fun x => !goneB r x), s.last⟩
/-- what each call keeps -/
structure Sto.Ok (s : Sto) : Prop where
  rise : s.l.Pairwise fun a b => a.q < b.q
  msg : ∀ x ∈ s.l, x.k = 1 ∧ chkR x = 0
  low : ∀ x ∈ s.l, x.q ≤ s.last
  last : 0 ≤ s.last ∧ s.last ≤ 1099511627776
  few : s.l.length ≤ 200
  names : nameN s.l ≤ 100
theorem hasS_append (a b : List Rc) (s : ByteArray) : hasS (a ++ b) s = (hasS a s || hasS b s) := by unfold hasS; rw [List.any_append]
theorem nameN_snoc : ∀ (l : List Rc) (r : Rc), nameN (l ++ [r]) = nameN l + (if hasS l r.s then 0 else 1)
  | [], r => by simp [nameN, hasS]
  | x :: l, r => by
    rw [List.cons_append, nameN, nameN, nameN_snoc l r, hasS_append]
    have e : hasS [r] x.s = decide (r.s = x.s) := by simp [hasS]
    have e2 : hasS (x :: l) r.s = (decide (x.s = r.s) || hasS l r.s) := by simp [hasS]
    rw [e, e2]
    by_cases h : x.s = r.s
    · have h' : r.s = x.s := h.symm
      rw [h]
      cases hasS l r.s <;> simp
    · have h' : ¬ r.s = x.s := fun z => h z.symm
      rw [decide_eq_false h, decide_eq_false h']
      cases hasS l x.s <;> cases hasS l r.s <;> simp
theorem hasS_filter {p : Rc → Bool} {l : List Rc} {s : ByteArray} (h : hasS (l.filter p) s = true) : hasS l s = true := by
  unfold hasS at h ⊢
  rw [List.any_eq_true] at h ⊢
  obtain ⟨x, hx, hs⟩ := h
  exact ⟨x, (List.mem_filter.1 hx).1, hs⟩
/-- subjects of fewer messages -/
def nameL : List Rc → List ByteArray
  | [] => []
  | r :: l => if hasS l r.s then nameL l else r.s :: nameL l
theorem nameN_len : ∀ l : List Rc, nameN l = (nameL l).length
  | [] => rfl
  | r :: l => by
    rw [nameN, nameL, nameN_len l]
    by_cases h : hasS l r.s = true
    · rw [if_pos h, if_pos h]; omega
    · rw [if_neg h, if_neg h]; rfl
theorem nameL_mem : ∀ (l : List Rc) (s : ByteArray), s ∈ nameL l ↔ hasS l s = true
  | [], s => by simp [nameL, hasS]
  | r :: l, s => by
    have e : hasS (r :: l) s = (decide (r.s = s) || hasS l s) := by simp [hasS]
    rw [nameL, e]
    by_cases h : hasS l r.s = true
    · rw [if_pos h, nameL_mem l s]
      constructor
      · intro z; rw [z]; simp
      · intro z
        rcases Bool.or_eq_true _ _ ▸ z with y | y
        · rw [← of_decide_eq_true y]; exact h
        · exact y
    · rw [if_neg h, List.mem_cons, nameL_mem l s, Bool.or_eq_true, decide_eq_true_eq]
      constructor
      · rintro (y | y)
        · exact .inl y.symm
        · exact .inr y
      · rintro (y | y)
        · exact .inl y.symm
        · exact .inr y
theorem nameL_nodup : ∀ l : List Rc, (nameL l).Nodup
  | [] => List.nodup_nil
  | r :: l => by
    rw [nameL]
    by_cases h : hasS l r.s = true
    · rw [if_pos h]; exact nameL_nodup l
    · rw [if_neg h, List.nodup_cons]
      exact ⟨fun z => h ((nameL_mem l r.s).1 z), nameL_nodup l⟩
theorem nodup_le {α : Type} [DecidableEq α] : ∀ (a b : List α), a.Nodup → (∀ x ∈ a, x ∈ b) → a.length ≤ b.length
  | [], b, _, _ => Nat.zero_le _
  | x :: a, b, hn, hs => by
    rw [List.nodup_cons] at hn
    have hx : x ∈ b := hs x (List.mem_cons_self ..)
    have := nodup_le a (b.erase x) hn.2 (fun y hy => (List.mem_erase_of_ne (fun e => hn.1 (by rw [← e]; exact hy))).2 (hs y (List.mem_cons_of_mem _ hy)))
    rw [List.length_erase_of_mem hx] at this
    have : 0 < b.length := List.length_pos_of_mem hx
    simp only [List.length_cons]
    omega
theorem nameN_filter (p : Rc → Bool) (l : List Rc) : nameN (l.filter p) ≤ nameN l := by
  rw [nameN_len, nameN_len]
  exact nodup_le _ _ (nameL_nodup _) (fun s hs => (nameL_mem l s).2 (hasS_filter ((nameL_mem _ s).1 hs)))
theorem Sto.Ok.nil : Sto.Ok ⟨[], 0⟩ := ⟨List.Pairwise.nil, fun _ h => (by cases h), fun _ h => (by cases h), ⟨Int.le_refl _, by decide⟩, Nat.zero_le _, Nat.zero_le _⟩
theorem chkR_in {r : Rc} (h : chkR r = 0) : 1 ≤ r.q ∧ r.q ≤ 1099511627776 := by
  obtain ⟨_, _, h1, h2, _⟩ := Pk.chk_len (r := r.pk) h
  exact ⟨h1, h2⟩
theorem Sto.Ok.apply {s : Sto} (h : s.Ok) (r : Rc) : (aplS s r).Ok := by
  unfold aplS
  by_cases h0 : tryE s r ≠ 0
  · rw [if_pos h0]; exact h
  · rw [if_neg h0]
    have h0 : tryE s r = 0 := Classical.byContradiction h0
    have hc : chkR r = 0 := by
      apply Classical.byContradiction
      intro z
      unfold tryE at h0
      rw [if_pos z] at h0
      exact z h0
    have hq := chkR_in hc
    by_cases h1 : r.k = 1
    · rw [if_pos h1]
      have h2 : ¬ r.q ≤ s.last ∧ ¬ (200 ≤ s.l.length ∨ (hasS s.l r.s = false ∧ 100 ≤ nameN s.l)) := by
        unfold tryE at h0
        rw [if_neg (by rw [hc]; simp), if_neg (by omega), if_neg (by omega)] at h0
        by_cases z : r.q ≤ s.last
        · rw [if_pos z] at h0; omega
        · rw [if_neg z] at h0
          by_cases y : 200 ≤ s.l.length ∨ (hasS s.l r.s = false ∧ 100 ≤ nameN s.l)
          · rw [if_pos y] at h0; omega
          · exact ⟨z, y⟩
      obtain ⟨h2, h3⟩ := h2
      refine ⟨?_, ?_, ?_, ⟨by show 0 ≤ r.q; omega, hq.2⟩, ?_, ?_⟩
      · rw [List.pairwise_append]
        refine ⟨h.rise, List.pairwise_singleton _ _, fun a ha b hb => ?_⟩
        rw [List.mem_singleton.1 hb]
        have := h.low a ha
        omega
      · intro x hx
        rcases List.mem_append.1 hx with y | y
        · exact h.msg x y
        · rw [List.mem_singleton.1 y]; exact ⟨h1, hc⟩
      · intro x hx
        rcases List.mem_append.1 hx with y | y
        · have := h.low x y; show x.q ≤ r.q; omega
        · rw [List.mem_singleton.1 y]; exact Int.le_refl _
      · show (s.l ++ [r]).length ≤ 200
        rw [List.length_append, List.length_singleton]; omega
      · show nameN (s.l ++ [r]) ≤ 100
        rw [nameN_snoc]
        have := h.names
        cases hh : hasS s.l r.s
        · rw [if_neg (by simp)]
          have : ¬ 100 ≤ nameN s.l := fun z => h3 (.inr ⟨hh, z⟩)
          omega
        · rw [if_pos rfl]; omega
    · rw [if_neg h1]
      by_cases h4 : r.k = 4
      · rw [if_pos h4]
        have hl := h.last
        refine ⟨h.rise, h.msg, fun x hx => ?_, ⟨?_, ?_⟩, h.few, h.names⟩
        · have := h.low x hx; show x.q ≤ max s.last r.q; omega
        · show 0 ≤ max s.last r.q; omega
        · show max s.last r.q ≤ 1099511627776; omega
      · rw [if_neg h4]
        exact ⟨h.rise.sublist List.filter_sublist, fun x hx => h.msg x (List.mem_filter.1 hx).1, fun x hx => h.low x (List.mem_filter.1 hx).1, h.last, Nat.le_trans (List.length_filter_le _ _) h.few, Nat.le_trans (nameN_filter _ _) h.names⟩
end Go.Proofs.YtmccpkpeimejhahGreatDoor.Dk
