/-
  Contracts of the document's store: Apply, Get.
  Contract of the document's store: Seek (Next and Last).
  Contracts of the document's store: Bytes, Sums.
-/
import Derived.Test.YtphhebdmfdjfeabGreatDoorJointWalkT1WalkT2WalkT3
import Derived.Test.YtphhebdmfdjfeabGreatDoorJointRowGRowBRowSRowURowVRowE
import Derived.Deep.RegionWith
import Derived.Laws.Rows
namespace Go.Proofs.YtphhebdmfdjfeabGreatDoor.Dk
open Go.RowKit

theorem ctry_chk {s : Sto} {r : Rc} (h : tryE s r = 0) : chkR r = 0 := by
  apply Classical.byContradiction
  intro z
  unfold tryE at h
  rw [if_pos z] at h
  exact z h
theorem capply_any {w : World} {B c : Nat} {F : Nat → Prop} {s : Sto} (r : Rc) (hr : Small r) (h : Che w B c F s) (hk : s.Ok) (hB : B ≤ w.heap.size) :
    Calls Tryz.prog 29 #[.pointer (some ⟨c, 0, none⟩), .agg #[.int .i64 r.k, .int .i64 r.q, .int .i64 r.t, .string r.s, .string r.h, .string r.d]] w fun e w' => e = .returned (.int .i64 (tryE s r)) ∧ DidS Che w w' B c F (aplS s r) := by
  by_cases h0 : tryE s r = 0
  · have hc := ctry_chk h0
    obtain ⟨k1, k2, _⟩ := Pk.chk_len (r := r.pk) hc
    have k1' : 1 ≤ r.k := k1
    have k2' : r.k ≤ 4 := k2
    unfold aplS
    rw [h0, if_neg (by simp)]
    by_cases e1 : r.k = 1
    · rw [if_pos e1]
      exact capply_msg r hr h hk hB h0 e1
    · rw [if_neg e1]
      by_cases e4 : r.k = 4
      · rw [if_pos e4]
        exact capply_mark r hr h hk h0 e4
      · rw [if_neg e4]
        exact capply_rest r hr h hk hB h0 hc (by omega)
  · unfold aplS
    rw [if_pos h0]
    exact capply_not r hr h hk rfl h0
theorem cget_none {l : List Rc} {n : Int} (h : ∀ k, k < l.length → ¬ (rc l k).q = n) : getO l n = none := by
  unfold getO
  rw [List.find?_eq_none]
  intro x hx
  obtain ⟨j, hj, e⟩ := List.getElem_of_mem hx
  have := h j hj
  rw [rc_get hj, e] at this
  simpa using this
theorem get_some {l : List Rc} {n : Int} {k : Nat} (hk : k < l.length) (h : ∀ j, j < k → ¬ (rc l j).q = n) (hq : (rc l k).q = n) : getO l n = some (rc l k) := by
  unfold getO
  rw [List.find?_eq_some_iff_append]
  refine ⟨by simpa using hq, l.take k, l.drop (k + 1), ?_, ?_⟩
  · rw [rc_get hk, ← List.drop_eq_getElem_cons hk, List.take_append_drop]
  · intro x hx
    obtain ⟨j, hj, e⟩ := List.getElem_of_mem hx
    rw [List.length_take] at hj
    have := h j (by omega)
    rw [rc_get (by omega)] at this
    rw [List.getElem_take] at e
    rw [e] at this
    simpa using this

set_option maxRecDepth 100000 in
set_option maxHeartbeats 1000000 in
theorem cget_any {w : World} {B c : Nat} {F : Nat → Prop} {s : Sto} (n : Int) (h : Che w B c F s) (hk : s.Ok) :
    Calls Tryz.prog 76 #[.pointer (some ⟨c, 0, none⟩), .int .i64 n] w fun e w' => e = .returned (ansV (getO s.l n)) ∧ Below w.heap.size w w' := by
  have hfew := hk.few
  obtain ⟨a, cap, c0, _, hcap, hcm, hsl, hcl⟩ := h.read
  unfold maxLen at hcm
  have HSl := hide hsl
  have HC := hide c0
  have R0 := hide (RB.new w 0 0 0 ⟨#[]⟩ ⟨#[]⟩ ⟨#[]⟩ 43)
  have B0 := hide ((Below.refl w.heap.size w).alloc (Nat.le_refl _) (.cells #[.int .i64 0, .int .i64 0, .int .i64 0, .string ⟨#[]⟩, .string ⟨#[]⟩, .string ⟨#[]⟩] 43))
  clear h hk hsl c0
  go_enter Tryz.func76, Tryz.ntmps76
  go_wp2_with fail
  obtain ⟨w0, hw0⟩ : ∃ w0, w0 = w.alloc (.cells #[.int .i64 0, .int .i64 0, .int .i64 0, .string ⟨#[]⟩, .string ⟨#[]⟩, .string ⟨#[]⟩] 43) := ⟨_, rfl⟩
  go_loopw [6] (fun iv wr => ∃ (k : Nat), iv = .int .i64 k ∧ k ≤ s.l.length ∧ Hid (∀ j, j < k → ¬ (rc s.l j).q = n) ∧ Hid (RB wr w.heap.size 0 0 0 ⟨#[]⟩ ⟨#[]⟩ ⟨#[]⟩ ∧ Below w.heap.size w wr)) (fun iv _ => s.l.length - (intOf iv).toNat)
  case atStart => exact ⟨0, rfl, Nat.zero_le _, hide (fun j hj => absurd hj (Nat.not_lt_zero j)), hide ⟨unhide R0, unhide B0⟩⟩
  case round =>
    clear R0 B0 hw0
    obtain ⟨k, rfl, hk, HQ, HT⟩ := hrel
    have c0 := ((unhide HT).2.cell (p := ⟨c, 0, none⟩) hcl).trans (unhide HC)
    by_cases hlt : k < s.l.length
    · obtain ⟨ga, o, rfl, s6⟩ := unhide HSl k hlt
      obtain ⟨y, hy⟩ : ∃ y, y = rc s.l k := ⟨_, rfl⟩
      have s7 := s6.below (unhide HT).2 s6.lt
      rw [← hy] at s7
      obtain ⟨_, y0, y1, y2, y3, y4, y5⟩ := s7
      by_cases hq : y.q = n
      · have e1 : (y.q == n) = true := by simpa using hq
        have HR : Hid (getO s.l n = some y) := hide (by rw [hy]; exact get_some hlt (unhide HQ) (by rw [← hy]; exact hq))
        obtain ⟨_, x0, x1, x2, x3, x4, x5, fr⟩ := (unhide HT).1
        have f0 := fr 0
        have f1 := fr 1
        have f2 := fr 2
        have f3 := fr 3
        have f4 := fr 4
        have f5 := fr 5
        clear hy hq s6 HQ fr
        go_wp2_with fail
        refine bodyPost_ret (results_rec2 rfl rfl ((unhide HT).1.setAll _ _ _ _ _ _)) rfl ?_
        exact ⟨by rw [unhide HR]; rfl, set6_below (unhide HT).2 (Nat.le_refl _)⟩
      · have e1 : (y.q == n) = false := by simpa using hq
        have HQ2 : Hid (∀ j, j < k + 1 → ¬ (rc s.l j).q = n) := hide (fun j hj => by
          by_cases z : j < k
          · exact unhide HQ j z
          · obtain rfl : j = k := by omega
            rw [← hy]; exact hq)
        clear hy hq s6
        go_wp2_with fail
        refine ⟨⟨k + 1, by go_num, by omega, HQ2, HT⟩, ?_⟩
        simp [intOf]; omega
    · obtain rfl : k = s.l.length := by omega
      have HR : Hid (getO s.l n = none) := hide (cget_none (unhide HQ))
      obtain ⟨_, x0, x1, x2, x3, x4, x5, fr⟩ := (unhide HT).1
      have f0 := fr 0
      have f1 := fr 1
      have f2 := fr 2
      have f3 := fr 3
      have f4 := fr 4
      have f5 := fr 5
      clear HQ fr
      go_wp2_with fail
      refine bodyPost_ret (results_rec2 rfl rfl ((unhide HT).1.setAll _ _ _ _ _ _)) rfl ?_
      exact ⟨by rw [unhide HR]; rfl, set6_below (unhide HT).2 (Nat.le_refl _)⟩
end Go.Proofs.YtphhebdmfdjfeabGreatDoor.Dk

namespace Go.Proofs.YtphhebdmfdjfeabGreatDoor.Dk
open Go.RowKit

/-- the message that Seek finds -/
def seekO (f : ByteArray) (fr : Int) (last : Bool) : List Rc → Option Rc → Option Rc
  | [], o => o
  | x :: l, o => seekO f fr last l (if (decide (fr ≤ x.q) && tkB f x.s) && (last || o.isNone) then some x else o)
theorem seekO_append (f : ByteArray) (fr : Int) (last : Bool) : ∀ (a b : List Rc) (o : Option Rc), seekO f fr last (a ++ b) o = seekO f fr last b (seekO f fr last a o)
  | [], _, _ => rfl
  | x :: a, b, o => by rw [List.cons_append, seekO, seekO, seekO_append f fr last a b]
theorem seekO_take (f : ByteArray) (fr : Int) (last : Bool) {l : List Rc} {k : Nat} (h : k < l.length) : seekO f fr last (l.take (k + 1)) none = if (decide (fr ≤ (rc l k).q) && tkB f (rc l k).s) && (last || (seekO f fr last (l.take k) none).isNone) then some (rc l k) else seekO f fr last (l.take k) none := by
  rw [List.take_succ_eq_append_getElem h, ← rc_get h, seekO_append]
  rfl
theorem seekO_some (f : ByteArray) (fr : Int) : ∀ (l : List Rc) (x : Rc), seekO f fr false l (some x) = some x
  | [], _ => rfl
  | y :: l, x => by rw [seekO]; simp [seekO_some f fr l x]
theorem seek_next (f : ByteArray) (fr : Int) : ∀ l : List Rc, seekO f fr false l none = nextO f l fr
  | [] => rfl
  | x :: l => by
    unfold nextO
    rw [seekO, List.find?_cons]
    by_cases h : (decide (fr ≤ x.q) && tkB f x.s) = true
    · have h2 : (tkB f x.s && decide (fr ≤ x.q)) = true := by rw [Bool.and_comm]; exact h
      rw [h, h2]
      simp [seekO_some]
    · have h' : (decide (fr ≤ x.q) && tkB f x.s) = false := by simpa using h
      have h2 : (tkB f x.s && decide (fr ≤ x.q)) = false := by rw [Bool.and_comm]; exact h'
      rw [h', h2]
      simp only [Bool.false_and, Bool.false_eq_true, if_false]
      rw [seek_next f fr l]
      rfl
theorem seek_last_acc (f : ByteArray) (fr : Int) : ∀ (l : List Rc) (o : Option Rc), (∀ x ∈ l, fr ≤ x.q) → seekO f fr true l o = ((takenL f l).getLast?).or o
  | [], o, _ => by simp [seekO, takenL]
  | x :: l, o, h => by
    have hx : decide (fr ≤ x.q) = true := decide_eq_true (h x (by simp))
    rw [seekO, seek_last_acc f fr l _ (fun y hy => h y (by simp [hy])), hx]
    unfold takenL
    rw [List.filter_cons]
    cases tkB f x.s
    · simp
    · simp only [Bool.and_self, Bool.true_or, if_true]
      rw [List.getLast?_cons]
      cases (List.filter (fun r => tkB f r.s) l).getLast? <;> simp
theorem seek_last {s : Sto} (h : s.Ok) (f : ByteArray) : seekO f 0 true s.l none = lastO f s.l := by
  rw [seek_last_acc f 0 s.l none (fun x hx => by have := (h.seq hx).1; omega)]
  unfold lastO
  simp
/-- a message that was found, or nothing -/
def orZ (o : Option Rc) : Rc := o.getD zeroR
def orE (o : Option Rc) : Int := if o.isSome then 0 else 4
theorem ansV_of (o : Option Rc) : ansV o = .tuple #[rcV (orZ o), .int .i64 (orE o)] := by cases o <;> rfl

set_option maxRecDepth 100000 in
set_option maxHeartbeats 2000000 in
theorem cseek_any {w : World} {B c : Nat} {F : Nat → Prop} {s : Sto} (f : ByteArray) (fr : Int) (last : Bool) (hf : f.size ≤ 140737488355328) (h : Che w B c F s) (hk : s.Ok) :
    Calls Tryz.prog 78 #[.pointer (some ⟨c, 0, none⟩), .string f, .int .i64 fr, .bool last] w fun e w' => e = .returned (seekV f (seekO f fr last s.l none)) ∧ Below w.heap.size w w' := by
  have hfew := hk.few
  obtain ⟨a, cap, c0, _, hcap, hcm, hsl, hcl⟩ := h.read
  unfold maxLen at hcm
  have HSl := hide hsl
  have HC := hide c0
  have HM : Hid (∀ x ∈ s.l, errS false x.s = 0 ∧ x.s.size ≤ 140737488355328) := hide (fun x hx => ⟨chk_msg (hk.msg x hx).2 (hk.msg x hx).1, by have := (hk.small hx).1; omega⟩)
  have R0 := hide (RB.new w 0 0 0 ⟨#[]⟩ ⟨#[]⟩ ⟨#[]⟩ 43)
  have B0 := hide ((Below.refl w.heap.size w).alloc (Nat.le_refl _) (.cells #[.int .i64 0, .int .i64 0, .int .i64 0, .string ⟨#[]⟩, .string ⟨#[]⟩, .string ⟨#[]⟩] 43))
  have PF := hide (rfilter_any f (w.alloc (.cells #[.int .i64 0, .int .i64 0, .int .i64 0, .string ⟨#[]⟩, .string ⟨#[]⟩, .string ⟨#[]⟩] 43)) hf)
  obtain ⟨E, hE⟩ : ∃ E, errS true f = E := ⟨_, rfl⟩
  rw [hE] at PF
  clear h hk hsl c0
  by_cases h0 : E = 0
  · have HF : Hid (errS true f = 0) := hide (by rw [hE]; exact h0)
    subst h0
    clear hE
    go_enter Tryz.func78, Tryz.ntmps78
    go_wp2_with fail
    refine (unhide PF).mono ?_
    rintro e w1 ⟨rfl, b1⟩
    have hw1 : w.heap.size + 1 ≤ w1.heap.size := by have := b1.size; simp at this; omega
    have R1 := hide ((unhide R0).next b1)
    have B1 := hide (bstep (unhide B0) b1)
    have L1 : Hid (RB (w1.alloc (.cells #[.int .i64 0, .int .i64 0, .int .i64 0, .string ⟨#[]⟩, .string ⟨#[]⟩, .string ⟨#[]⟩] 43)) w.heap.size 0 0 0 ⟨#[]⟩ ⟨#[]⟩ ⟨#[]⟩ ∧ RB (w1.alloc (.cells #[.int .i64 0, .int .i64 0, .int .i64 0, .string ⟨#[]⟩, .string ⟨#[]⟩, .string ⟨#[]⟩] 43)) w1.heap.size 0 0 0 ⟨#[]⟩ ⟨#[]⟩ ⟨#[]⟩ ∧ Below w.heap.size w (w1.alloc (.cells #[.int .i64 0, .int .i64 0, .int .i64 0, .string ⟨#[]⟩, .string ⟨#[]⟩, .string ⟨#[]⟩] 43))) := hide ⟨(unhide R1).alloc _, RB.new w1 0 0 0 _ _ _ _, bstep (unhide B1) ((Below.refl _ w1).alloc (Nat.le_refl _) _)⟩
    clear b1 PF R0 B0 R1 B1
    go_wp2_with fail
    go_loopw [12, 13] (fun ev iv wr => ∃ (k : Nat) (o : Option Rc), iv = .int .i64 k ∧ ev = .int .i64 (orE o) ∧ k ≤ s.l.length ∧ Hid (o = seekO f fr last (s.l.take k) none) ∧ Hid (RB wr w.heap.size 0 0 0 ⟨#[]⟩ ⟨#[]⟩ ⟨#[]⟩ ∧ RB wr w1.heap.size (orZ o).k (orZ o).q (orZ o).t (orZ o).s (orZ o).h (orZ o).d ∧ Below w.heap.size w wr)) (fun _ iv _ => s.l.length - (intOf iv).toNat)
    case atStart => exact ⟨0, none, rfl, rfl, Nat.zero_le _, hide rfl, L1⟩
    case round =>
      clear L1
      obtain ⟨k, o, rfl, rfl, hk, HO, HT⟩ := hrel
      have c0 := ((unhide HT).2.2.cell (p := ⟨c, 0, none⟩) hcl).trans (unhide HC)
      by_cases hlt : k < s.l.length
      · obtain ⟨ga, oo, rfl, s6⟩ := unhide HSl k hlt
        obtain ⟨y, hy⟩ : ∃ y, y = rc s.l k := ⟨_, rfl⟩
        have s7 := s6.below (unhide HT).2.2 s6.lt
        have hm := unhide HM (rc s.l k) (by rw [rc_get hlt]; exact List.getElem_mem hlt)
        have hst := seekO_take f fr last hlt
        rw [← unhide HO, ← hy] at hst
        rw [← hy] at s7 hm
        have HSt := hide hst
        obtain ⟨_, y0, y1, y2, y3, y4, y5⟩ := s7
        have hgl : ga < wr.heap.size := Nat.lt_of_lt_of_le s6.lt (unhide HT).2.2.size
        clear hy hst s6
        by_cases hq : fr ≤ y.q
        · have eq1 : decide (fr ≤ y.q) = true := decide_eq_true hq
          have PK := hide (rTakes_any f y.s wr hf hm.2 (few_toks (unhide HF)) (few_toks hm.1))
          rw [takes_tk hm.1] at PK
          go_wp2_with fail
          refine (unhide PK).mono ?_
          rintro e w3 ⟨rfl, b3⟩
          have T3 : Hid (RB w3 w.heap.size 0 0 0 ⟨#[]⟩ ⟨#[]⟩ ⟨#[]⟩ ∧ RB w3 w1.heap.size (orZ o).k (orZ o).q (orZ o).t (orZ o).s (orZ o).h (orZ o).d ∧ Below w.heap.size w w3) := hide ⟨(unhide HT).1.next b3, (unhide HT).2.1.next b3, bstep (unhide HT).2.2 b3⟩
          have d0 := ((unhide T3).2.2.cell (p := ⟨c, 0, none⟩) hcl).trans (unhide HC)
          have g0 := (b3.cell (p := ⟨ga, oo + k * 6, none⟩) hgl).trans y0
          have g1 := (b3.cell (p := ⟨ga, oo + k * 6 + 1, none⟩) hgl).trans y1
          have g2 := (b3.cell (p := ⟨ga, oo + k * 6 + 2, none⟩) hgl).trans y2
          have g3 := (b3.cell (p := ⟨ga, oo + k * 6 + 3, none⟩) hgl).trans y3
          have g4 := (b3.cell (p := ⟨ga, oo + k * 6 + 4, none⟩) hgl).trans y4
          have g5 := (b3.cell (p := ⟨ga, oo + k * 6 + 5, none⟩) hgl).trans y5
          have hne : w1.heap.size ≠ w.heap.size := by omega
          clear b3 PK y0 y1 y2 y3 y4 y5 HT c0
          cases htk : tkB f y.s with
          | false =>
            have HO2 : Hid (o = seekO f fr last (s.l.take (k + 1)) none) := hide (by rw [unhide HSt, htk]; simp)
            clear htk HSt HO
            go_wp2_with fail
            refine ⟨⟨k + 1, o, by go_num, rfl, by omega, HO2, T3⟩, ?_⟩
            simp [intOf]; omega
          | true =>
            cases last with
            | true =>
              have HO2 : Hid (some y = seekO f fr true (s.l.take (k + 1)) none) := hide (by rw [unhide HSt, htk, eq1]; simp)
              clear htk HSt HO
              obtain ⟨_, p0, p1, p2, p3, p4, p5, fz⟩ := (unhide T3).2.1
              have f0 := fz 0
              have f1 := fz 1
              have f2 := fz 2
              have f3 := fz 3
              have f4 := fz 4
              have f5 := fz 5
              clear fz
              go_wp2_with fail
              refine ⟨⟨k + 1, some y, by go_num, rfl, by omega, HO2, hide ⟨((((((unhide T3).1.other hne).other hne).other hne).other hne).other hne).other hne, (unhide T3).2.1.setAll _ _ _ _ _ _, set6_below (unhide T3).2.2 (by omega)⟩⟩, ?_⟩
              simp [intOf]; omega
            | false =>
              cases o with
              | none =>
                have HO2 : Hid (some y = seekO f fr false (s.l.take (k + 1)) none) := hide (by rw [unhide HSt, htk, eq1]; simp)
                have e4 : orE none = 4 := rfl
                clear htk HSt HO
                rw [e4]
                obtain ⟨_, p0, p1, p2, p3, p4, p5, fz⟩ := (unhide T3).2.1
                have f0 := fz 0
                have f1 := fz 1
                have f2 := fz 2
                have f3 := fz 3
                have f4 := fz 4
                have f5 := fz 5
                clear fz
                go_wp2_with fail
                refine ⟨⟨k + 1, some y, by go_num, rfl, by omega, HO2, hide ⟨((((((unhide T3).1.other hne).other hne).other hne).other hne).other hne).other hne, (unhide T3).2.1.setAll _ _ _ _ _ _, set6_below (unhide T3).2.2 (by omega)⟩⟩, ?_⟩
                simp [intOf]; omega
              | some z =>
                have HO2 : Hid (some z = seekO f fr false (s.l.take (k + 1)) none) := hide (by rw [unhide HSt, htk, eq1]; simp)
                have e4 : orE (some z) = 0 := rfl
                clear htk HSt HO
                rw [e4]
                go_wp2_with fail
                refine ⟨⟨k + 1, some z, by go_num, rfl, by omega, HO2, T3⟩, ?_⟩
                simp [intOf]; omega
        · have eq1 : decide (fr ≤ y.q) = false := decide_eq_false hq
          have HO2 : Hid (o = seekO f fr last (s.l.take (k + 1)) none) := hide (by rw [unhide HSt, eq1]; simp)
          clear hq HSt HO
          go_wp2_with fail
          refine ⟨⟨k + 1, o, by go_num, rfl, by omega, HO2, HT⟩, ?_⟩
          simp [intOf]; omega
      · obtain rfl : k = s.l.length := by omega
        have HR : Hid (seekV f (seekO f fr last s.l none) = .tuple #[rcV (orZ o), .int .i64 (orE o)]) := hide (by
          have h1 := unhide HO
          rw [List.take_length] at h1
          unfold seekV
          rw [if_pos (unhide HF), ← h1, ansV_of])
        obtain ⟨_, x0, x1, x2, x3, x4, x5, fz⟩ := (unhide HT).1
        obtain ⟨_, p0, p1, p2, p3, p4, p5, _⟩ := (unhide HT).2.1
        have f0 := fz 0
        have f1 := fz 1
        have f2 := fz 2
        have f3 := fz 3
        have f4 := fz 4
        have f5 := fz 5
        clear HO fz
        go_wp2_with fail
        refine bodyPost_ret (results_rec2 rfl rfl ((unhide HT).1.setAll _ _ _ _ _ _)) rfl ?_
        exact ⟨by rw [unhide HR]; rfl, set6_below (unhide HT).2.2 (Nat.le_refl _)⟩
  · have HR : Hid (seekV f (seekO f fr last s.l none) = .tuple #[rcV zeroR, .int .i64 E]) := hide (by unfold seekV; rw [hE, if_neg h0])
    have h1 : (E != 0) = true := by simpa using h0
    clear hE
    go_enter Tryz.func78, Tryz.ntmps78
    go_wp2_with fail
    refine (unhide PF).mono ?_
    rintro e w1 ⟨rfl, b1⟩
    have R1 := hide ((unhide R0).next b1)
    have B1 := hide (bstep (unhide B0) b1)
    obtain ⟨_, x0, x1, x2, x3, x4, x5, fz⟩ := unhide R1
    have f0 := fz 0
    have f1 := fz 1
    have f2 := fz 2
    have f3 := fz 3
    have f4 := fz 4
    have f5 := fz 5
    clear b1 PF R0 B0 fz
    go_wp2_with fail
    refine bodyPost_ret (results_rec2 rfl rfl ((unhide R1).setAll _ _ _ _ _ _)) rfl ?_
    exact ⟨by rw [unhide HR]; rfl, set6_below (unhide B1) (Nat.le_refl _)⟩
end Go.Proofs.YtphhebdmfdjfeabGreatDoor.Dk

namespace Go.Proofs.YtphhebdmfdjfeabGreatDoor.Dk
open Go.RowKit

def sumV (s : Sto) : Value := .agg #[.int .i64 (s.l.length : Int), .int .i64 (byteN s.l : Int), .int .i64 (firstQ s.l), .int .i64 s.last]
set_option maxRecDepth 100000 in
set_option maxHeartbeats 1000000 in
theorem rbytes_any (r : Rc) (w : World) (hs : r.s.size ≤ 140737488355328) (hh : r.h.size ≤ 140737488355328) (hd : r.d.size ≤ 140737488355328) :
    Calls Tryz.prog 120 #[.agg #[.int .i64 r.k, .int .i64 r.q, .int .i64 r.t, .string r.s, .string r.h, .string r.d]] w fun e w' => e = .returned (.int .i64 ((r.s.size + r.h.size + r.d.size : Nat) : Int)) ∧ Below w.heap.size w w' := by
  obtain ⟨_, x0, x1, x2, x3, x4, x5, _⟩ := RB.new w r.k r.q r.t r.s r.h r.d 43
  have B0 := hide ((Below.refl w.heap.size w).alloc (Nat.le_refl _) (.cells #[.int .i64 r.k, .int .i64 r.q, .int .i64 r.t, .string r.s, .string r.h, .string r.d] 43))
  have hw1 : IntKind.i64.wrap ((r.s.size : Int) + (r.h.size : Int)) = (r.s.size : Int) + (r.h.size : Int) := by rw [IntKind.wrap_i64]; omega
  have hw2 : IntKind.i64.wrap ((r.s.size : Int) + (r.h.size : Int) + (r.d.size : Int)) = (r.s.size : Int) + (r.h.size : Int) + (r.d.size : Int) := by rw [IntKind.wrap_i64]; omega
  go_enter Tryz.func120, Tryz.ntmps120
  go_wp2_with fail
  go_ret
  exact ⟨ret_eq (by omega), unhide B0⟩

theorem byteN_drop {l : List Rc} {k : Nat} (h : k < l.length) : byteN (l.drop k) = (rc l k).s.size + (rc l k).h.size + (rc l k).d.size + byteN (l.drop (k + 1)) := by
  rw [List.drop_eq_getElem_cons h, ← rc_get h, byteN]
theorem firstQ_drop {l : List Rc} {k : Nat} (h : k < l.length) : firstQ (l.drop k) = (rc l k).q := by
  rw [List.drop_eq_getElem_cons h, ← rc_get h]; rfl

set_option maxRecDepth 100000 in
set_option maxHeartbeats 2000000 in
theorem csums_any {w : World} {B c : Nat} {F : Nat → Prop} {s : Sto} (h : Che w B c F s) (hk : s.Ok) :
    Calls Tryz.prog 73 #[.pointer (some ⟨c, 0, none⟩)] w fun e w' => e = .returned (sumV s) ∧ Below w.heap.size w w' := by
  have hfew := hk.few
  have hbytes := hk.bytes
  have hlastq := hk.last
  obtain ⟨a, cap, c0, c1, hcap, hcm, hsl, hcl⟩ := h.read
  unfold maxLen at hcm
  have HSl := hide hsl
  have HC := hide c0
  have HM : Hid (∀ x ∈ s.l, x.s.size ≤ 135 ∧ x.h.size + x.d.size ≤ 256) := hide (fun x hx => hk.small hx)
  have S0 := hide (SB.new w 0 0 0 0 110)
  have B0 := hide ((Below.refl w.heap.size w).alloc (Nat.le_refl _) (.cells #[.int .i64 0, .int .i64 0, .int .i64 0, .int .i64 0] 110))
  have d0 : (w.alloc (.cells #[.int .i64 0, .int .i64 0, .int .i64 0, .int .i64 0] 110)).cell? ⟨c, 0, none⟩ = some (.slice a s.l.length cap) := by rw [(unhide B0).cell (p := ⟨c, 0, none⟩) hcl]; exact c0
  have d1 : (w.alloc (.cells #[.int .i64 0, .int .i64 0, .int .i64 0, .int .i64 0] 110)).cell? ⟨c, 1, none⟩ = some (.int .i64 s.last) := by rw [(unhide B0).cell (p := ⟨c, 1, none⟩) hcl]; exact c1
  clear h hk hsl c0 c1
  go_enter Tryz.func73, Tryz.ntmps73
  go_wp2_with fail
  go_region
  have L0 : Hid (SB ((w.alloc (.cells #[.int .i64 0, .int .i64 0, .int .i64 0, .int .i64 0] 110)).alloc (.cells #[.int .i64 (s.l.length : Int), .int .i64 0, .int .i64 0, .int .i64 s.last] 110)).drew w.heap.size 0 0 0 0 ∧ SB ((w.alloc (.cells #[.int .i64 0, .int .i64 0, .int .i64 0, .int .i64 0] 110)).alloc (.cells #[.int .i64 (s.l.length : Int), .int .i64 0, .int .i64 0, .int .i64 s.last] 110)).drew (w.heap.size + 1) (s.l.length : Int) 0 0 s.last ∧ Below w.heap.size w ((w.alloc (.cells #[.int .i64 0, .int .i64 0, .int .i64 0, .int .i64 0] 110)).alloc (.cells #[.int .i64 (s.l.length : Int), .int .i64 0, .int .i64 0, .int .i64 s.last] 110)).drew) := hide (by
    have x1 := SB.new (w.alloc (.cells #[.int .i64 0, .int .i64 0, .int .i64 0, .int .i64 0] 110)) (s.l.length : Int) 0 0 s.last 110
    rw [World.size_alloc] at x1
    exact ⟨((unhide S0).alloc _).next (Below.refl _ _).drew, x1.next (Below.refl _ _).drew, (bstep (unhide B0) ((Below.refl _ _).alloc (Nat.le_refl _) _)).drew⟩)
  have e0 : ((w.alloc (.cells #[.int .i64 0, .int .i64 0, .int .i64 0, .int .i64 0] 110)).alloc (.cells #[.int .i64 (s.l.length : Int), .int .i64 0, .int .i64 0, .int .i64 s.last] 110)).drew.cell? ⟨c, 0, none⟩ = some (.slice a s.l.length cap) := by rw [(unhide L0).2.2.cell (p := ⟨c, 0, none⟩) hcl]; exact unhide HC
  have hw0 : IntKind.i64.wrap ((s.l.length : Int) - 1) = (s.l.length : Int) - 1 := by rw [IntKind.wrap_i64]; omega
  clear S0 B0 d0 d1
  go_wp2_with fail
  go_loopw [4] (fun iv wr => ∃ (k : Nat) (j : Int), iv = .int .i64 j ∧ Hid (j = (k : Int) - 1) ∧ k ≤ s.l.length ∧ Hid (SB wr w.heap.size 0 0 0 0 ∧ SB wr (w.heap.size + 1) (s.l.length : Int) (byteN (s.l.drop k) : Int) (firstQ (s.l.drop k)) s.last ∧ Below w.heap.size w wr)) (fun iv _ => (intOf iv + 1).toNat)
  case atStart => exact ⟨s.l.length, _, rfl, hide (by first | rfl | exact hw0), Nat.le_refl _, by rw [List.drop_length]; exact L0⟩
  case round =>
    clear L0 e0
    obtain ⟨k, j, rfl, hj, hk, HT⟩ := hrel
    have c0 := ((unhide HT).2.2.cell (p := ⟨c, 0, none⟩) hcl).trans (unhide HC)
    by_cases hk0 : 0 < k
    · obtain ⟨i, rfl⟩ : ∃ i, k = i + 1 := ⟨k - 1, by omega⟩
      obtain rfl : j = (i : Int) := by have := unhide hj; omega
      have hi : i < s.l.length := by omega
      have hi0 : (0 : Int) ≤ (i : Int) := by omega
      obtain ⟨ga, o, rfl, s6⟩ := unhide HSl i hi
      obtain ⟨y, hy⟩ : ∃ y, y = rc s.l i := ⟨_, rfl⟩
      have s7 := s6.below (unhide HT).2.2 s6.lt
      have hm := unhide HM (rc s.l i) (by rw [rc_get hi]; exact List.getElem_mem hi)
      have hbd := byteN_drop hi
      have hfd := firstQ_drop hi
      rw [← hy] at s7 hm hbd hfd
      obtain ⟨_, y0, y1, y2, y3, y4, y5⟩ := s7
      have hgl := s6.lt
      have hsz := (unhide HT).2.2.size
      have hga : ¬ ga = w.heap.size + 1 := by omega
      have hca : ¬ c = w.heap.size + 1 := by omega
      have hga2 : ga < wr.heap.size := by omega
      have hca2 : c < wr.heap.size := by omega
      have hle : byteN (s.l.drop i) ≤ 78200 := by
        have := byteN_append (s.l.take i) (s.l.drop i)
        rw [List.take_append_drop] at this
        omega
      obtain ⟨nb, hnb⟩ : ∃ nb, nb = byteN (s.l.drop (i + 1)) := ⟨_, rfl⟩
      rw [← hnb] at hbd HT
      obtain ⟨_, q0, q1, q2, q3, qf⟩ := (unhide HT).2.1
      have hob := (unhide HT).2.1.lt
      have f1 := qf 1
      have f2 := qf 2
      have HY : Hid (∀ w3, Below wr.heap.size wr w3 → SB ((w3.setCell ⟨w.heap.size + 1, 1, none⟩ (.int .i64 ((nb : Int) + ((y.s.size + y.h.size + y.d.size : Nat) : Int)))).setCell ⟨w.heap.size + 1, 2, none⟩ (.int .i64 y.q)) w.heap.size 0 0 0 0 ∧ SB ((w3.setCell ⟨w.heap.size + 1, 1, none⟩ (.int .i64 ((nb : Int) + ((y.s.size + y.h.size + y.d.size : Nat) : Int)))).setCell ⟨w.heap.size + 1, 2, none⟩ (.int .i64 y.q)) (w.heap.size + 1) (s.l.length : Int) (byteN (s.l.drop i) : Int) (firstQ (s.l.drop i)) s.last ∧ Below w.heap.size w ((w3.setCell ⟨w.heap.size + 1, 1, none⟩ (.int .i64 ((nb : Int) + ((y.s.size + y.h.size + y.d.size : Nat) : Int)))).setCell ⟨w.heap.size + 1, 2, none⟩ (.int .i64 y.q))) := hide (fun w3 b3 => by
        refine ⟨(((unhide HT).1.next b3).other (by omega)).other (by omega), ?_, ((bstep (unhide HT).2.2 b3).setCell (p := ⟨w.heap.size + 1, 1, none⟩) (by simp only; omega) _).setCell (p := ⟨w.heap.size + 1, 2, none⟩) (by simp only; omega) _⟩
        have h1 := (((unhide HT).2.1.next b3).set1 ((nb : Int) + ((y.s.size + y.h.size + y.d.size : Nat) : Int))).set2 y.q
        rw [hfd, hbd]
        have e : ((y.s.size + y.h.size + y.d.size + nb : Nat) : Int) = (nb : Int) + ((y.s.size + y.h.size + y.d.size : Nat) : Int) := by omega
        rw [e]
        exact h1)
      have hw1 : IntKind.i64.wrap ((nb : Int) + ((y.s.size + y.h.size + y.d.size : Nat) : Int)) = (nb : Int) + ((y.s.size + y.h.size + y.d.size : Nat) : Int) := by rw [IntKind.wrap_i64]; omega
      have hw2 : IntKind.i64.wrap ((i : Int) - 1) = (i : Int) - 1 := by rw [IntKind.wrap_i64]; omega
      have PB : Hid (∀ W, Calls Tryz.prog 120 #[.agg #[.int .i64 y.k, .int .i64 y.q, .int .i64 y.t, .string y.s, .string y.h, .string y.d]] W fun e w' => e = .returned (.int .i64 ((y.s.size + y.h.size + y.d.size : Nat) : Int)) ∧ Below W.heap.size W w') := hide (fun W => rbytes_any y W (by omega) (by omega) (by omega))
      obtain ⟨N, hN⟩ : ∃ N : Nat, N = y.s.size + y.h.size + y.d.size := ⟨_, rfl⟩
      rw [← hN] at HY hw1 PB
      clear hy hbd hfd s6 hj hk0 qf hnb hN
      go_wp2_with fail
      go_region_with (go_at_call 120; refine (unhide PB _).mono ?_; rintro e w3 ⟨rfl, b3⟩; have o1 := (b3.cell (p := ⟨w.heap.size + 1, 1, none⟩) hob).trans q1; have o2 := (b3.cell (p := ⟨w.heap.size + 1, 2, none⟩) hob).trans q2; have o3 := (b3.frozen (p := ⟨w.heap.size + 1, 1, none⟩) hob).trans f1; have o4 := (b3.frozen (p := ⟨w.heap.size + 1, 2, none⟩) hob).trans f2; have o5 := (b3.cell (p := ⟨c, 0, none⟩) hca2).trans c0; have o6 := (b3.cell (p := ⟨ga, o + i * 6 + 1, none⟩) hga2).trans y1)
      all_goals have HY2 := hide (unhide HY w3 (((Below.refl wr.heap.size wr).drew).trans b3))
      all_goals clear b3 HY PB HT y0 y1 y2 y3 y4 y5 q0 q1 q2 q3 f1 f2 c0
      all_goals go_wp2_with fail
      all_goals refine ⟨⟨i, _, rfl, hide (by first | rfl | exact hw2), by omega, HY2⟩, ?_⟩
      all_goals first | (simp [intOf]; done) | (simp [intOf]; omega)
    · obtain rfl : k = 0 := by omega
      obtain rfl : j = -1 := by have := unhide hj; omega
      have HR : Hid (sumV s = .agg #[.int .i64 (s.l.length : Int), .int .i64 (byteN (s.l.drop 0) : Int), .int .i64 (firstQ (s.l.drop 0)), .int .i64 s.last]) := hide (by unfold sumV; rw [List.drop_zero])
      obtain ⟨_, q0, q1, q2, q3, _⟩ := (unhide HT).2.1
      obtain ⟨_, x0, x1, x2, x3, fz⟩ := (unhide HT).1
      have f0 := fz 0
      have f1 := fz 1
      have f2 := fz 2
      have f3 := fz 3
      clear hj fz
      go_wp2_with fail
      refine bodyPost_ret (results_sum rfl rfl (((((unhide HT).1.set0 _).set1 _).set2 _).set3 _)) rfl ?_
      exact ⟨by first | (unfold sumV; rfl) | rw [unhide HR], ((((unhide HT).2.2.setCell (p := ⟨w.heap.size, 0, none⟩) (Nat.le_refl _) _).setCell (p := ⟨w.heap.size, 1, none⟩) (Nat.le_refl _) _).setCell (p := ⟨w.heap.size, 2, none⟩) (Nat.le_refl _) _).setCell (p := ⟨w.heap.size, 3, none⟩) (Nat.le_refl _) _⟩
end Go.Proofs.YtphhebdmfdjfeabGreatDoor.Dk
