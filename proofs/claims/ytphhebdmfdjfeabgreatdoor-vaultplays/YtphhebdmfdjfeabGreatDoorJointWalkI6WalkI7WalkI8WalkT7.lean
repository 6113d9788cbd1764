/-
  Contracts of the document's index: rillref.before, Shelf.at with its closure and slices.IndexFunc, Shelf.Get, Shelf.Put.
  Contracts of the document's index: Shelf.Put, Shelf.Find; and of index.Find.
  Contracts of index.Find, slices.Equal at entries, and the document's Drop.
  Contract of the document's store: Subjects.
-/
import Derived.Test.YtphhebdmfdjfeabGreatDoorWalkI5
import Derived.Test.YtphhebdmfdjfeabGreatDoorJointRowTWalk3Walk4Walk6aWalkD1
import Derived.Test.YtphhebdmfdjfeabGreatDoorJointRowFWalkF
import Derived.Test.YtphhebdmfdjfeabGreatDoorJointPlain2Plain5Walk5aPlainK
import Derived.Deep.RegionHeld3
import Derived.Test.YtphhebdmfdjfeabGreatDoorJointPapSPapTPlainIPapCPapE
import Derived.Test.YtphhebdmfdjfeabGreatDoorJointWalkT4WalkT5WalkT6
namespace Go.Proofs.YtphhebdmfdjfeabGreatDoor
open Go.RowKit

theorem bef_step {f g : List ByteArray} {k : Nat} (hf : k < f.length) (hg : k < g.length) : bef (f.drop k) (g.drop k) = if eqB (tk f k) (tk g k) then bef (f.drop (k + 1)) (g.drop (k + 1)) else ltS (tk f k) (tk g k) := by
  rw [drop_tk hf, drop_tk hg, bef]
theorem bef_end {f g : List ByteArray} {k : Nat} (h1 : k ≤ f.length) (h2 : k ≤ g.length) (h : ¬ (k < f.length ∧ k < g.length)) : bef (f.drop k) (g.drop k) = decide (f.length < g.length) := by
  rcases Nat.lt_or_ge k g.length with q | q
  · have e : f.drop k = [] := List.drop_of_length_le (by omega)
    rw [e, drop_tk q, bef]
    simp; omega
  · have e : g.drop k = [] := List.drop_of_length_le (by omega)
    rw [e, bef]
    simp; omega

set_option maxRecDepth 100000 in
set_option maxHeartbeats 1000000 in
theorem before_any (bf bg cf cg : Nat) (f g : List ByteArray) (w : World) (hf : Row w bf 0 f) (hg : Row w bg 0 g) (nf : f.length ≤ 8) :
    Calls Tryz.prog 158 #[.slice (some ⟨bf, 0, none⟩) f.length cf, .slice (some ⟨bg, 0, none⟩) g.length cg] w fun e w' => e = .returned (.bool (bef f g)) ∧ ∃ n, w' = w.drewN n := by
  have Hf := hide hf
  have Hg := hide hg
  clear hf hg
  go_enter Tryz.func158, Tryz.ntmps158
  go_wp2
  go_loopw [5] (fun i wr => ∃ k : Nat, k ≤ f.length ∧ k ≤ g.length ∧ i = .int .i64 k ∧ Hid (bef f g = bef (f.drop k) (g.drop k)) ∧ ∃ n, wr = w.drewN n) (fun i _ => f.length - (intOf i).toNat)
  case atStart => exact ⟨0, Nat.zero_le _, Nat.zero_le _, rfl, hide rfl, 0, rfl⟩
  case round =>
    obtain ⟨k, hk, hk2, rfl, hq, n, rfl⟩ := hrel
    by_cases hlt : k < f.length ∧ k < g.length
    · obtain ⟨h1, h2⟩ := hlt
      have hc1 : w.cell? ⟨bf, k, none⟩ = some (.string (tk f k)) := by have := unhide Hf k h1; rwa [Nat.zero_add] at this
      have hc2 : w.cell? ⟨bg, k, none⟩ = some (.string (tk g k)) := by have := unhide Hg k h2; rwa [Nat.zero_add] at this
      have R := hide (bef_step h1 h2)
      cases hd : ((tk f k).toList == (tk g k).toList)
      · have R2 := hide (show bef f g = Op.bytesLess (tk f k).toList (tk g k).toList by rw [unhide hq, unhide R, if_neg (by unfold eqB; rw [hd]; simp)]; rfl)
        go_wp2
        go_quiet (fail)
        go_wp2
        go_quiet (fail)
        go_wp2
        go_ret
        exact ⟨ret_is (unhide R2), _, (congrArg (fun x => World.drewN x _) (World.drewN_drewN _ _ _)).trans (World.drewN_drewN _ _ _)⟩
      · have R2 := hide (show bef f g = bef (f.drop (k + 1)) (g.drop (k + 1)) by rw [unhide hq, unhide R, if_pos (by unfold eqB; exact hd)])
        go_wp2
        go_quiet (fail)
        go_wp2
        exact ⟨⟨k + 1, by omega, by omega, by go_num, hide (unhide R2), _, rfl⟩, by simp [intOf]; omega⟩
    · have R := hide ((unhide hq).trans (bef_end hk hk2 hlt))
      by_cases h1 : k < f.length
      · have h2 : ¬ k < g.length := fun h => hlt ⟨h1, h⟩
        clear hlt
        go_wp2
        go_ret
        refine ⟨ret_bool ?_, _, rfl⟩
        rw [unhide R]
      · clear hlt
        go_wp2
        go_ret
        refine ⟨ret_bool ?_, _, rfl⟩
        rw [unhide R]

set_option maxHeartbeats 400000 in
theorem at1_any (e : Ent) (s : ByteArray) (b : Nat) (w : World) (hb : w.cell? ⟨b, 0, none⟩ = some (.string s)) (hl : b < w.heap.size) :
    Calls Tryz.prog 181 #[.agg #[.string e.1, .int .i64 e.2], .pointer (some ⟨b, 0, none⟩)] w fun r w' => r = .returned (.bool (eqB e.1 s)) ∧ Below w.heap.size w w' := by
  have h2 : ∀ o, (w.alloc o).cell? ⟨b, 0, none⟩ = some (.string s) := fun o => by rw [World.cell?_alloc_lt _ _ _ hl]; exact hb
  go_enter Tryz.func181, Tryz.ntmps181
  go_wp2_with fail
  go_ret
  exact ⟨rfl, (Below.refl _ _).alloc (Nat.le_refl _) _⟩
/-- where a subject is, or -1 -/
def atI (es : List Ent) (s : ByteArray) : Int := if hasAt es s then (place es s : Int) else -1
set_option maxHeartbeats 1000000 in
theorem indexf_any (a : Option Addr) (cap : Nat) (es : List Ent) (s : ByteArray) (b : Nat) (w : World) (hsl : Sl w a es) (hord : Ord es) (h100 : es.length ≤ 100) (hb : w.cell? ⟨b, 0, none⟩ = some (.string s)) (hl : b < w.heap.size) :
    Calls Tryz.prog 180 #[.slice a es.length cap, .func (.func 181) #[] #[.pointer (some ⟨b, 0, none⟩)]] w fun e w' => e = .returned (.int .i64 (atI es s)) ∧ Below w.heap.size w w' := by
  have Hord := hide hord
  have Hb := hide hb
  clear hord hb
  go_enter Tryz.func180, Tryz.ntmps180
  go_wp2
  go_loopw [8] (fun iv wr => ∃ (i : Nat), iv = .int .i64 i ∧ i ≤ es.length ∧ Hid (∀ k, k < i → eqB (en es k).1 s = false) ∧ Hid (Sl wr a es) ∧ Below w.heap.size w wr) (fun iv _ => es.length - (intOf iv).toNat)
  case atStart => exact ⟨0, rfl, Nat.zero_le _, hide (fun k hk => absurd hk (Nat.not_lt_zero k)), hide hsl, Below.refl _ _⟩
  case round =>
    obtain ⟨i, rfl, hi, hlo, hsl2, hb⟩ := hrel
    by_cases hlt : i < es.length
    · obtain ⟨g, rfl, hg, hc1, hc2⟩ := unhide hsl2 i (by omega)
      have H := hide (at1_any (en es i) s b wr (by rw [hb.cell (p := ⟨b, 0, none⟩) hl]; exact unhide Hb) (by have := hb.size; omega))
      cases he : eqB (en es i).1 s with
      | true =>
        have hp := has_hit (unhide Hord) hlt (eqB_iff.1 he)
        have Hp := hide (show atI es s = (i : Int) by unfold atI; rw [if_pos hp.1, hp.2])
        have He := hide he
        clear he hp
        go_wp2_with fail
        refine (unhide H).mono ?_
        rintro e w1 ⟨rfl, hb1⟩
        rw [unhide He]
        clear hc1 hc2
        go_wp2_with fail
        go_ret
        exact ⟨ret_eq (unhide Hp), bstep hb hb1⟩
      | false =>
        have He := hide he
        clear he
        go_wp2_with fail
        refine (unhide H).mono ?_
        rintro e w1 ⟨rfl, hb1⟩
        rw [unhide He]
        clear hc1 hc2
        go_wp2_with fail
        refine ⟨⟨i + 1, by go_num, by omega, hide (fun k hk => ?_), hide ((unhide hsl2).below hb1), bstep hb hb1⟩, ?_⟩
        · rcases Nat.lt_succ_iff_lt_or_eq.1 hk with q | q
          · exact unhide hlo k q
          · rw [q]; exact unhide He
        · simp [intOf]; omega
    · have Hp := hide (show atI es s = -1 by unfold atI; rw [has_none (fun j hj => unhide hlo j (by omega))]; simp)
      go_wp2_with fail
      go_ret
      exact ⟨ret_eq (unhide Hp), hb⟩

set_option maxHeartbeats 400000 in
theorem at_any (B p : Nat) (v : Value) (es : List Ent) (s : ByteArray) (w : World) (hk : Keeps w B p v es) (hg : Good es) :
    Calls Tryz.prog 157 #[.pointer (some ⟨p, 0, none⟩), .string s] w fun e w' => e = .returned (.int .i64 (atI es s)) ∧ Below w.heap.size w w' := by
  have hb0 : Below w.heap.size w (w.alloc (.cells #[.string s] 9)) := (Below.refl _ _).alloc (Nat.le_refl _) _
  have k1 := hk.below hb0
  obtain ⟨a, cap, rfl, hsl⟩ := k1.arr.sl
  have hc := k1.cell
  clear k1 hk
  go_enter Tryz.func157, Tryz.ntmps157
  go_wp2_with fail
  refine (indexf_any a cap es s w.heap.size _ hsl hg.1 hg.2.1 (by simp) (by simp)).mono ?_
  rintro e w1 ⟨rfl, hb⟩
  go_wp2_with fail
  go_ret
  exact ⟨rfl, bstep hb0 hb⟩

set_option maxHeartbeats 400000 in
theorem rget_any (B p : Nat) (v : Value) (es : List Ent) (s : ByteArray) (w : World) (hk : Keeps w B p v es) (hg : Good es) (hs : s.size ≤ 140737488355328) :
    Calls Tryz.prog 125 #[.pointer (some ⟨p, 0, none⟩), .string s] w fun e w' => e = .returned (.tuple #[.int .i64 (getN es s), .int .i64 (seeE es s)]) ∧ Below w.heap.size w w' := by
  have Hk := hide hk
  have Hg := hide hg
  clear hk hg
  by_cases he : errS false s = 0
  · cases hh : hasAt es s with
    | true =>
      have Hn := hide (show getN es s = (en es (place es s)).2 by unfold getN; rw [if_pos he, if_pos hh])
      have Hs := hide (show seeE es s = 0 by unfold seeE; rw [if_pos he, if_pos hh])
      have Ha := hide (show atI es s = (place es s : Int) by unfold atI; rw [if_pos hh])
      have h1 := (has_at hh).1
      have He := hide he
      obtain ⟨q, hq⟩ : ∃ q, place es s = q := ⟨_, rfl⟩
      rw [hq] at h1 Ha Hn
      clear he hh hq
      obtain ⟨g, cap, rfl, c1, c2, c3, c4⟩ := (unhide Hk).arr.there (by omega)
      unfold maxLen at c2
      go_enter Tryz.func125, Tryz.ntmps125
      go_wp2_with fail
      refine (rsubject_any s _ hs).mono ?_
      rintro e w1 ⟨rfl, hb1⟩
      rw [unhide He]
      go_wp2_with fail
      refine (at_any B p _ es s _ ((unhide Hk).below hb1) (unhide Hg)).mono ?_
      rintro e w2 ⟨rfl, hb2⟩
      rw [unhide Ha]
      have k2 := ((unhide Hk).below hb1).below hb2
      have d1 := k2.cell
      have d2 := k2.arr.num h1
      clear k2
      go_wp2_with fail
      go_ret2
      exact ⟨ret_tii (unhide Hn) (unhide Hs), bstep hb1 hb2⟩
    | false =>
      have Hn := hide (show getN es s = 0 by unfold getN; rw [if_pos he, hh]; simp)
      have Hs := hide (show seeE es s = 4 by unfold seeE; rw [if_pos he, hh]; simp)
      have Ha := hide (show atI es s = -1 by unfold atI; rw [hh]; simp)
      have He := hide he
      clear he hh
      go_enter Tryz.func125, Tryz.ntmps125
      go_wp2_with fail
      refine (rsubject_any s _ hs).mono ?_
      rintro e w1 ⟨rfl, hb1⟩
      rw [unhide He]
      go_wp2_with fail
      refine (at_any B p _ es s _ ((unhide Hk).below hb1) (unhide Hg)).mono ?_
      rintro e w2 ⟨rfl, hb2⟩
      rw [unhide Ha]
      go_wp2_with fail
      go_ret2
      exact ⟨ret_tii (unhide Hn) (unhide Hs), bstep hb1 hb2⟩
  · have Hn := hide (show getN es s = 0 by unfold getN; rw [if_neg he])
    have Hs := hide (show seeE es s = errS false s by unfold seeE; rw [if_neg he])
    go_enter Tryz.func125, Tryz.ntmps125
    go_wp2_with fail
    refine (rsubject_any s _ hs).mono ?_
    rintro e w1 ⟨rfl, hb1⟩
    go_wp2_with fail
    go_ret2
    exact ⟨ret_tii (unhide Hn) (unhide Hs), hb1⟩
end Go.Proofs.YtphhebdmfdjfeabGreatDoor

namespace Go.Proofs.YtphhebdmfdjfeabGreatDoor
open Go.RowKit

theorem own_row {W : World} {B g cap : Nat} {l : List ByteArray} (h : Own W B g cap l) : Row W g 0 l := fun k hk => by rw [Nat.zero_add]; exact own_cells h k hk
theorem few_pcs {s : ByteArray} (h : (Pl.toks s).length ≤ 8) : (Pl.pcs s.data.toList).length ≤ 1099511627776 := by rw [← Pl.toks_length]; omega

set_option maxHeartbeats 2000000 in
theorem rput_any (B p : Nat) (v : Value) (es : List Ent) (s : ByteArray) (n : Int) (w : World) (hk : Keeps w B p v es) (hg : Good es) (hs : s.size ≤ 140737488355328) (hB : B ≤ w.heap.size) :
    Calls Tryz.prog 126 #[.pointer (some ⟨p, 0, none⟩), .string s, .int .i64 n] w fun e w' => e = .returned (.int .i64 (putE es s)) ∧ Upd w w' B p v (putL es s n) := by
  have Hk := hide hk
  have Hg := hide hg
  clear hk hg
  by_cases he : errS false s = 0
  · have hn := few he
    cases hh : hasAt es s with
    | true =>
      have Hp := hide (put_has (n := n) he hh)
      have Ha := hide (show atI es s = (place es s : Int) by unfold atI; rw [if_pos hh])
      obtain ⟨h1, h2⟩ := has_at hh
      have He := hide he
      obtain ⟨q, hq⟩ : ∃ q, place es s = q := ⟨_, rfl⟩
      rw [hq] at h1 h2 Hp Ha
      have H2 := hide h2
      clear he hh h2 hq
      obtain ⟨g, cap, rfl, c1, c2, c3, c4⟩ := (unhide Hk).arr.there (by omega)
      unfold maxLen at c2
      go_enter Tryz.func126, Tryz.ntmps126
      go_wp2_with fail
      refine (rsubject_any s _ hs).mono ?_
      rintro e w1 ⟨rfl, hb1⟩
      rw [unhide He]
      go_wp2_with fail
      refine (at_any B p _ es s _ ((unhide Hk).below hb1) (unhide Hg)).mono ?_
      rintro e w2 ⟨rfl, hb2⟩
      rw [unhide Ha]
      have k2 := ((unhide Hk).below hb1).below hb2
      have d1 := k2.cell
      have d2 := k2.arr.num h1
      have d3 := World.ownsRow.frozenAt k2.arr (q * 2 + 1)
      have K2 := hide k2
      clear k2
      go_wp2_with fail
      go_ret
      refine ⟨ret_eq (unhide Hp).1, ?_⟩
      rw [(unhide Hp).2]
      obtain ⟨u1, u2⟩ := (unhide K2).number h1 (unhide H2) n
      exact Upd.behind (bstep hb1 hb2) ⟨_, u1, u2, fun g' hg' => .inl hg'⟩
    | false =>
      have Ha := hide (show atI es s = -1 by unfold atI; rw [hh]; simp)
      have h100 := (unhide Hg).2.1
      by_cases hf : 100 ≤ es.length
      · have Hp := hide (put_full (n := n) he hh hf)
        have He := hide he
        clear he hh
        obtain ⟨a, cap, rfl, c1, c2, c3⟩ := (unhide Hk).arr.shape
        have hl : es.length = 100 := by omega
        rw [hl] at Hk ⊢
        clear c3 c2
        go_enter Tryz.func126, Tryz.ntmps126
        go_wp2_with fail
        refine (rsubject_any s _ hs).mono ?_
        rintro e w1 ⟨rfl, hb1⟩
        rw [unhide He]
        go_wp2_with fail
        refine (at_any B p _ es s _ ((unhide Hk).below hb1) (unhide Hg)).mono ?_
        rintro e w2 ⟨rfl, hb2⟩
        rw [unhide Ha]
        have d1 := (((unhide Hk).below hb1).below hb2).cell
        go_wp2_with fail
        go_ret
        refine ⟨ret_eq (unhide Hp).1, ?_⟩
        rw [(unhide Hp).2]
        exact Upd.same (unhide Hk) (bstep hb1 hb2)
      · have Hp := hide (put_new (n := n) he hh hf)
        have He := hide he
        obtain ⟨q, hq⟩ : ∃ q, place es s = q := ⟨_, rfl⟩
        have hql : q ≤ es.length := by rw [← hq]; exact place_le _ _
        have Hlt : Hid (∀ j, j < q → el (en es j).1 s = true) := hide (by rw [← hq]; exact place_lt es s)
        have Hat : Hid (q < es.length → el (en es q).1 s = false) := hide (by rw [← hq]; exact place_at es s)
        rw [hq] at Hp
        clear he hh hq
        obtain ⟨a, cap, rfl, c1, c2, c3⟩ := (unhide Hk).arr.shape
        clear c3 c2
        have hl : ((es.length : Int) == 100) = false := by rw [beq_eq_false_iff_ne]; omega
        go_enter Tryz.func126, Tryz.ntmps126
        go_wp2_with fail
        refine (rsubject_any s _ hs).mono ?_
        rintro e w1 ⟨rfl, hb1⟩
        rw [unhide He]
        go_wp2_with fail
        refine (at_any B p _ es s _ ((unhide Hk).below hb1) (unhide Hg)).mono ?_
        rintro e w2 ⟨rfl, hb2⟩
        rw [unhide Ha]
        have k2 := ((unhide Hk).below hb1).below hb2
        have d1 := k2.cell
        have K2 := hide k2
        have Hb2 := hide (bstep hb1 hb2)
        clear k2 hb1 hb2
        go_wp2_with fail
        clear d1
        go_loopw [9] (fun kv wr => ∃ (k : Nat), kv = .int .i64 k ∧ k ≤ q ∧ Hid (Keeps wr B p (.slice a es.length cap) es) ∧ Hid (Below w.heap.size w wr)) (fun kv _ => es.length - (intOf kv).toNat)
        case atStart => exact ⟨0, rfl, Nat.zero_le _, K2, Hb2⟩
        case round =>
          obtain ⟨k, rfl, hkq, K3, Hb3⟩ := hrel
          have d1 := (unhide K3).cell
          have hb4 : Below wr.heap.size wr (wr.alloc (.cells #[.string s, .int .i64 n] 122)) := (Below.refl _ _).alloc (Nat.le_refl _) _
          by_cases hlt : k < es.length
          · obtain ⟨g, cap', e0, f1, f2, f3, f4⟩ := (unhide K3).arr.there (by omega)
            obtain ⟨rfl, _, rfl⟩ := Value.slice.inj e0
            clear e0
            have d2 := (unhide K3).arr.text hlt
            obtain ⟨g1, g2⟩ := (unhide Hg).2.2 (en es k) (en_mem hlt)
            have g3 := few g1
            go_wp2_with fail
            refine (pieces_any (en es k).1 _ g2 (few_pcs g3)).mono ?_
            rintro e w3 ⟨x1, y1, l1, rfl, o1, p1, b1⟩
            have P1 := hide (isPcs_toks p1)
            clear p1
            go_wp2_with fail
            refine (pieces_any s _ hs (few_pcs hn)).mono ?_
            rintro e w4 ⟨x2, y2, l2, rfl, o2, p2, b2⟩
            have P2 := hide (isPcs_toks p2)
            clear p2
            go_wp2_with fail
            refine (before_any x1 x2 y1 y2 l1 l2 _ ((own_row o1).below b2 (own_base o1).2) (own_row o2) (by rw [unhide P1]; exact g3)).mono ?_
            rintro e w5 ⟨rfl, nn, rfl⟩
            have hbe : bef l1 l2 = el (en es k).1 s := by rw [unhide P1, unhide P2]; rfl
            rw [hbe]
            have HB := hide (below_drewN (bstep b1 b2) nn)
            have K5 := hide ((unhide K3).below (unhide HB))
            have Hb5 := hide (bstep (unhide Hb3) (unhide HB))
            clear o1 o2 b1 b2 hbe d1 d2 HB
            generalize w4.drewN nn = w6 at K5 Hb5 ⊢
            have hb6 : Below w6.heap.size w6 (w6.alloc (.cells #[.string s, .int .i64 n] 122)) := (Below.refl _ _).alloc (Nat.le_refl _) _
            cases hel : el (en es k).1 s with
            | true =>
              have hne : k ≠ q := fun e => by
                subst e
                rw [unhide Hat hlt] at hel
                cases hel
              clear hel hb6
              go_wp2_with fail
              refine ⟨⟨k + 1, by go_num, by omega, K5, Hb5⟩, ?_⟩
              simp [intOf]; omega
            | false =>
              have hkq2 : k = q := by
                rcases Nat.lt_or_ge k q with x | x
                · rw [unhide Hlt k x] at hel; cases hel
                · omega
              subst hkq2
              have d1 := (unhide K5).cell
              have K6 := hide ((unhide K5).below hb6)
              have Hb6 := hide (bstep (unhide Hb5) hb6)
              clear hel hb6
              go_wp2_with fail
              refine (insert_any B _ es k (s, n) w6.heap.size _ (unhide K6).arr (by omega) (by omega) (heap_alloc_new w6 _) (fun e => by have := ((unhide K5).arr.lt _ e).2; omega) (by have := (unhide Hb6).size; omega)).mono ?_
              rintro e w7 ⟨v', rfl, i1, i2, i3⟩
              obtain ⟨a', cap', rfl, _⟩ := i1.shape
              have d4 : w7.cell? ⟨p, 0, none⟩ = some (.slice (some ⟨g, 0, none⟩) es.length cap) := by rw [i2.cell (p := ⟨p, 0, none⟩) (unhide K6).lt (unhide K6).apart]; exact (unhide K6).cell
              have d5 : w7.frozen? ⟨p, 0, none⟩ = false := by rw [i2.frozen (p := ⟨p, 0, none⟩) (unhide K6).lt (unhide K6).apart]; exact (unhide K6).free
              have HU := hide (Upd.store (unhide K6) i2 i1 i3)
              clear i1 i2 i3 d1
              go_wp2_with fail
              go_ret
              refine ⟨ret_eq (unhide Hp).1, ?_⟩
              rw [(unhide Hp).2]
              exact Upd.behind (unhide Hb6) (unhide HU)
          · have hkq2 : k = q := by omega
            subst hkq2
            have K6 := hide ((unhide K3).below hb4)
            have Hb6 := hide (bstep (unhide Hb3) hb4)
            clear hb4
            go_wp2_with fail
            refine (insert_any B _ es k (s, n) wr.heap.size _ (unhide K6).arr (by omega) (by omega) (heap_alloc_new wr _) (fun e => by have := ((unhide K3).arr.lt _ e).2; omega) (by have := (unhide Hb6).size; omega)).mono ?_
            rintro e w7 ⟨v', rfl, i1, i2, i3⟩
            obtain ⟨a', cap', rfl, _⟩ := i1.shape
            have d4 : w7.cell? ⟨p, 0, none⟩ = some (.slice a es.length cap) := by rw [i2.cell (p := ⟨p, 0, none⟩) (unhide K6).lt (unhide K6).apart]; exact (unhide K6).cell
            have d5 : w7.frozen? ⟨p, 0, none⟩ = false := by rw [i2.frozen (p := ⟨p, 0, none⟩) (unhide K6).lt (unhide K6).apart]; exact (unhide K6).free
            have HU := hide (Upd.store (unhide K6) i2 i1 i3)
            clear i1 i2 i3 d1
            go_wp2_with fail
            go_ret
            refine ⟨ret_eq (unhide Hp).1, ?_⟩
            rw [(unhide Hp).2]
            exact Upd.behind (unhide Hb6) (unhide HU)
  · have Hp := hide (put_bad (es := es) (n := n) he)
    go_enter Tryz.func126, Tryz.ntmps126
    go_wp2_with fail
    refine (rsubject_any s _ hs).mono ?_
    rintro e w1 ⟨rfl, hb1⟩
    go_wp2_with fail
    go_ret
    refine ⟨ret_eq (unhide Hp).1, ?_⟩
    rw [(unhide Hp).2]
    exact Upd.same (unhide Hk) hb1

set_option maxHeartbeats 2000000 in
theorem rfind_any (B p : Nat) (v : Value) (es : List Ent) (f : ByteArray) (w : World) (hk : Keeps w B p v es) (hg : Good es) (hs : f.size ≤ 140737488355328) :
    Calls Tryz.prog 127 #[.pointer (some ⟨p, 0, none⟩), .string f] w fun e w' => ∃ v', e = .returned (.tuple #[v', .int .i64 (errS true f)]) ∧ Arr w' w.heap.size v' (if errS true f = 0 then findL es f else []) ∧ Below w.heap.size w w' := by
  have Hk := hide hk
  have Hg := hide hg
  clear hk hg
  by_cases he : errS true f = 0
  · rw [if_pos he]
    have hn := few he
    have h100 := (unhide Hg).2.1
    have He := hide he
    clear he
    obtain ⟨a, cap, rfl, c1, c2, c3⟩ := (unhide Hk).arr.shape
    clear c3 c2
    go_enter Tryz.func127, Tryz.ntmps127
    go_wp2_with fail
    refine (rfilter_any f _ hs).mono ?_
    rintro e w1 ⟨rfl, hb1⟩
    rw [unhide He]
    have K1 := hide ((unhide Hk).below hb1)
    have Hb1 := hide hb1
    clear hb1
    go_wp2_with fail
    go_loopw [7, 8] (fun ov kv wr => ∃ (k : Nat), kv = .int .i64 k ∧ k ≤ es.length ∧ Hid (Arr wr w.heap.size ov (findL (es.take k) f)) ∧ Hid (Keeps wr B p (.slice a es.length cap) es) ∧ Hid (Below w.heap.size w wr)) (fun _ kv _ => es.length - (intOf kv).toNat)
    case atStart => exact ⟨0, rfl, Nat.zero_le _, hide (Arr.empty _ _), K1, Hb1⟩
    case round =>
      obtain ⟨k, rfl, hkl, A3, K3, Hb3⟩ := hrel
      have d1 := (unhide K3).cell
      obtain ⟨ao, co, rfl, _⟩ := (unhide A3).shape
      by_cases hlt : k < es.length
      · obtain ⟨g, cap', e0, f1, f2, f3, f4⟩ := (unhide K3).arr.there (by omega)
        obtain ⟨rfl, _, rfl⟩ := Value.slice.inj e0
        clear e0
        have d2 := (unhide K3).arr.text hlt
        obtain ⟨g1, g2⟩ := (unhide Hg).2.2 (en es k) (en_mem hlt)
        have g3 := few g1
        have Ht := hide (takes_match (unhide He) g1)
        have Hs := hide (find_succ es f k hlt)
        have Hl := hide (find_len es f k)
        go_wp2_with fail
        refine (rTakes_any f (en es k).1 _ hs g2 (few_pcs hn) (few_pcs g3)).mono ?_
        rintro e w5 ⟨rfl, b5⟩
        rw [unhide Ht]
        have K5 := (unhide K3).below b5
        have A5 := (unhide A3).below b5
        have Hb5 := hide (bstep (unhide Hb3) b5)
        clear d1 d2
        have d1 := K5.cell
        have d2 := K5.arr.text hlt
        have d3 := K5.arr.num hlt
        have hb6 : Below w5.heap.size w5 (w5.alloc (.cells #[.string (en es k).1, .int .i64 (en es k).2] 122)) := (Below.refl _ _).alloc (Nat.le_refl _) _
        obtain ⟨v', w', hr, r1, r2, r3⟩ := append_blk _ w.heap.size 100 _ _ [en es k] (A5.below hb6) ⟨w5.heap.size, 0, none⟩ 1 (two_row w5 (en es k)) (by have := unhide Hl; simp; omega) (by have := (unhide Hb5).size; have := hb6.size; omega)
        have K6 := K5.below hb6
        have A6 := hide r1
        have hown : ∀ k2, (Value.slice ao (findL (es.take k) f).length co).ownBlock = some k2 → w.heap.size ≤ k2 := fun k2 h2 => (A5.lt k2 h2).1
        have r2' := Chg.of_grown r2
        have hb7 : Below w.heap.size _ w' := r2'.below (by have := (unhide Hb5).size; have := hb6.size; omega) (fun k2 h2 h3 => by have := hown k2 h3; omega)
        have K7 := K6.chg r2' (fun k2 h2 h3 => by
          have q1 := hown k2 h3
          rcases h2 with h2 | h2
          · have := (unhide Hk).lt; omega
          · have := ((unhide Hk).arr.lt k2 h2).2; omega)
        have Hb7 := hide ((bstep (unhide Hb5) hb6).trans hb7)
        cases hm : matchB f (en es k).1 with
        | true =>
          have A7 : Hid (Arr w' w.heap.size v' (findL (es.take (k + 1)) f)) := by rw [unhide Hs, hm, if_pos rfl]; exact A6
          clear hm hb6
          go_wp2_with (at_builtin; refine Lib.wpList_append_run _ rfl _ _ _ _ rfl _ _ rfl rfl _ _ hr ?_)
          refine ⟨⟨k + 1, by go_num, by omega, A7, hide K7, Hb7⟩, ?_⟩
          simp [intOf]; omega
        | false =>
          have A7 : Hid (Arr w5 w.heap.size (.slice ao (findL (es.take k) f).length co) (findL (es.take (k + 1)) f)) := by rw [unhide Hs, hm, if_neg (by simp), List.append_nil]; exact A5
          clear hm hb6
          go_wp2_with fail
          refine ⟨⟨k + 1, by go_num, by omega, A7, hide K5, Hb5⟩, ?_⟩
          simp [intOf]; omega
      · go_wp2_with fail
        go_ret2
        refine ⟨_, ret_ve (unhide He), ?_, unhide Hb3⟩
        have := unhide A3
        rw [List.take_of_length_le (by omega)] at this
        rw [List.take_of_length_le (by omega)]
        exact this
  · rw [if_neg he]
    go_enter Tryz.func127, Tryz.ntmps127
    go_wp2_with fail
    refine (rfilter_any f _ hs).mono ?_
    rintro e w1 ⟨rfl, hb1⟩
    go_wp2_with fail
    go_ret2
    exact ⟨_, rfl, Arr.empty _ _, hb1⟩
end Go.Proofs.YtphhebdmfdjfeabGreatDoor

namespace Go.Proofs.YtphhebdmfdjfeabGreatDoor
open Go.RowKit

theorem neqE (x : Ent) (w : World) : (binOp .neq 122 (.agg #[.string x.1, .int .i64 x.2]) (.agg #[.string x.1, .int .i64 x.2])).run Tryz.prog w = .ok (.bool false) w := by
  have u3 := Tryz.underlying3
  have u9 := Tryz.underlying9
  have hS : Tryz.prog.underlying 122 = some (.struct (Tryz.prog.fieldsOf 122)) := by kernel_rfl
  have hp : Tryz.prog.stoodInHeld 122 = false := by kernel_rfl
  rw [run_neq_struct, show (10000 : Nat) = 9999 + 1 from rfl, run_equalIn_agg w 9999 122 _ _ hS hp]
  simp only [Program.fieldsOf, Tryz.underlying122]
  go_simp
set_option maxHeartbeats 2000000 in
set_option maxRecDepth 100000 in
theorem equal_same (a b : Option Addr) (ca cb : Nat) (es : List Ent) (w : World) (ha : Sl w a es) (hb : Sl w b es) (h100 : es.length ≤ 100) :
    Calls Tryz.prog 82 #[.slice a es.length ca, .slice b es.length cb] w fun e w' => e = .returned (.bool true) ∧ ∃ q, w' = w.drewN q := by
  have Ha := hide ha
  have Hb := hide hb
  clear ha hb
  have hm : Tryz.prog.eqGuardType Tryz.prog.depth 122 = false := by kernel_rfl
  go_enter Tryz.func82, Tryz.ntmps82
  go_wp2
  go_loopw [13] (fun kv wr => ∃ (k : Nat), kv = .int .i64 k ∧ k ≤ es.length ∧ ∃ n, wr = w.drewN n) (fun kv _ => es.length - (intOf kv).toNat)
  case atStart => exact ⟨0, rfl, Nat.zero_le _, 0, rfl⟩
  case round =>
    obtain ⟨k, rfl, hk, n, rfl⟩ := hrel
    by_cases hlt : k < es.length
    · obtain ⟨g, rfl, _, c1, c2⟩ := unhide Ha k hlt
      obtain ⟨h, rfl, _, c3, c4⟩ := unhide Hb k hlt
      have hne := neqE (en es k)
      go_wp2
      go_quiet (fail)
      go_wp2
      exact ⟨⟨k + 1, by go_num, by omega, _, rfl⟩, by simp [intOf]; omega⟩
    · go_wp2
      go_ret
      exact ⟨rfl, n, rfl⟩
end Go.Proofs.YtphhebdmfdjfeabGreatDoor

namespace Go.Proofs.YtphhebdmfdjfeabGreatDoor
open Go.RowKit

theorem hasS_take {l : List Dk.Rc} {k : Nat} {s : ByteArray} (h : Dk.hasS (l.take k) s = true) : Dk.hasS l s = true := by
  unfold Dk.hasS at h ⊢
  rw [List.any_eq_true] at h ⊢
  obtain ⟨x, hx, hs⟩ := h
  exact ⟨x, List.mem_of_mem_take hx, hs⟩
theorem nameN_take (l : List Dk.Rc) (k : Nat) : Dk.nameN (l.take k) ≤ Dk.nameN l := by
  rw [Dk.nameN_len, Dk.nameN_len]
  exact Dk.nodup_le _ _ (Dk.nameL_nodup _) (fun s hs => (Dk.nameL_mem l s).2 (hasS_take ((Dk.nameL_mem _ s).1 hs)))
theorem cnt_room {l : List Dk.Rc} {es : List Ent} {k : Nat} (hk : k < l.length) (hn : Dk.nameN l ≤ 100) (h : Cnt (l.take k) es) : 0 < cntN (l.take k) (Dk.rc l k).s ∨ es.length < 100 := by
  by_cases z : 0 < cntN (l.take k) (Dk.rc l k).s
  · exact .inl z
  · right
    have h1 := nameN_take l (k + 1)
    rw [List.take_succ_eq_append_getElem hk, ← Dk.rc_get hk, Dk.nameN_snoc, cntN_has, decide_eq_false z] at h1
    simp at h1
    rw [h.len]
    omega
/-- what Find tells -/
theorem arr_lower {w : World} {B B' : Nat} {v : Value} {es : List Ent} (h : Arr w B v es) (hB : B' ≤ B) : Arr w B' v es := by
  refine ⟨h.1, ?_⟩
  rcases h.2 with q | ⟨g, cap, cur, x1, x2, x3⟩
  · exact .inl q
  · exact .inr ⟨g, cap, cur, x1, Nat.le_trans hB x2, x3⟩
theorem shelf_new (w : World) (T : TypeId) : Keeps (w.alloc (.cells #[.slice none 0 0] T)) w.heap.size w.heap.size (.slice none 0 0) [] := by
  refine ⟨?_, ?_, Nat.le_refl _, by simp, World.ownsRow_nil _ _ _ _, fun z => by cases z⟩
  · rw [cell_of_row _ w.heap.size 0 _ _ _ (heap_alloc_new w _)]; rfl
  · exact frozen_of_row _ w.heap.size 0 _ _ (heap_alloc_new w _)

set_option maxRecDepth 100000 in
set_option maxHeartbeats 1000000 in
theorem csubjects_any {w : World} {B c : Nat} {F : Nat → Prop} {s : Dk.Sto} (f : ByteArray) (hf : f.size ≤ 140737488355328) (h : Dk.Che w B c F s) (hk : s.Ok) {es0 : List Ent} (h0 : Cnt s.l es0) :
    Calls Tryz.prog 81 #[.pointer (some ⟨c, 0, none⟩), .string f] w fun e w' => ∃ v', e = .returned (.tuple #[v', .int .i64 (errS true f)]) ∧ Arr w' w.heap.size v' (foundL es0 f) ∧ Below w.heap.size w w' := by
  have hfew := hk.few
  obtain ⟨a, cap, c0, _, hcap, hcm, hsl, hcl⟩ := h.read
  unfold maxLen at hcm
  have HSl := hide hsl
  have HC := hide c0
  have HM : Hid (∀ x ∈ s.l, errS false x.s = 0 ∧ x.s.size ≤ 140737488355328) := hide (fun x hx => ⟨Dk.chk_msg (hk.msg x hx).2 (hk.msg x hx).1, by have := (hk.small hx).1; omega⟩)
  have HN := hide hk.names
  have H0 := hide h0
  have K0 : Hid (Keeps (w.alloc (.cells #[.slice none 0 0] 174)) w.heap.size w.heap.size (.slice none 0 0) [] ∧ Below w.heap.size w (w.alloc (.cells #[.slice none 0 0] 174))) := hide ⟨shelf_new w _, (Below.refl _ w).alloc (Nat.le_refl _) _⟩
  clear h hk hsl c0 h0
  go_enter Tryz.func81, Tryz.ntmps81
  go_wp2_with fail
  go_loopw [7] (fun iv wr => ∃ (k : Nat) (v : Value) (es : List Ent), iv = .int .i64 k ∧ k ≤ s.l.length ∧ Hid (Cnt (s.l.take k) es) ∧ Hid (Keeps wr w.heap.size w.heap.size v es ∧ Below w.heap.size w wr)) (fun iv _ => s.l.length - (intOf iv).toNat)
  case atStart => exact ⟨0, _, [], rfl, Nat.zero_le _, hide Cnt.nil, K0⟩
  case round =>
    clear K0
    obtain ⟨k, v, es, rfl, hk, HCn, HT⟩ := hrel
    have c0 := ((unhide HT).2.cell (p := ⟨c, 0, none⟩) hcl).trans (unhide HC)
    by_cases hlt : k < s.l.length
    · obtain ⟨ga, o, rfl, s6⟩ := unhide HSl k hlt
      have hroom := cnt_room hlt (unhide HN) (unhide HCn)
      obtain ⟨y, hy⟩ : ∃ y, y = Dk.rc s.l k := ⟨_, rfl⟩
      have htk : s.l.take (k + 1) = s.l.take k ++ [y] := by rw [hy, Dk.rc_get hlt]; exact List.take_succ_eq_append_getElem hlt
      have s7 := s6.below (unhide HT).2 s6.lt
      have hm := unhide HM (Dk.rc s.l k) (by rw [Dk.rc_get hlt]; exact List.getElem_mem hlt)
      rw [← hy] at s7 hm hroom
      have y3 := s7.c3
      have hgl := s6.lt
      have hcnt : cntN (s.l.take k) y.s ≤ k := by
        unfold cntN
        refine Nat.le_trans (List.length_filter_le _ _) ?_
        rw [List.length_take]; omega
      have PG := hide (rget_any _ _ _ _ y.s wr (unhide HT).1 (unhide HCn).good hm.2)
      rw [(unhide HCn).get hm.1] at PG
      obtain ⟨n, hn⟩ : ∃ n : Int, n = (cntN (s.l.take k) y.s : Int) := ⟨_, rfl⟩
      rw [← hn] at PG
      have hw : IntKind.i64.wrap (n + 1) = n + 1 := by rw [IntKind.wrap_i64]; omega
      have HC2 : Hid (Cnt (s.l.take (k + 1)) (putL es y.s (n + 1))) := hide (by rw [htk, hn]; exact (unhide HCn).put y hm.1 hm.2 hroom)
      have HP : Hid (∀ w3, Keeps w3 w.heap.size w.heap.size v es → w.heap.size ≤ w3.heap.size → Calls Tryz.prog 126 #[.pointer (some ⟨w.heap.size, 0, none⟩), .string y.s, .int .i64 (n + 1)] w3 fun e w' => e = .returned (.int .i64 (putE es y.s)) ∧ Upd w3 w' w.heap.size w.heap.size v (putL es y.s (n + 1))) := hide (fun w3 h3 hs3 => rput_any _ _ _ _ y.s (n + 1) w3 h3 (unhide HCn).good hm.2 hs3)
      have hsz := (unhide HT).2.size
      have hga2 : ga < wr.heap.size := by omega
      clear hy htk s6 s7 hroom hcnt hn HCn
      go_wp2_with fail
      refine (unhide PG).mono ?_
      rintro e w3 ⟨rfl, b3⟩
      have d0 := (b3.cell (p := ⟨c, 0, none⟩) (show c < wr.heap.size by omega)).trans c0
      have d3 := (b3.cell (p := ⟨ga, o + k * 6 + 3, none⟩) hga2).trans y3
      have K3 := hide ((unhide HT).1.below b3)
      have B3 := hide (bstep (unhide HT).2 b3)
      have PP := hide (unhide HP w3 (unhide K3) (unhide B3).size)
      clear b3 PG HP c0 y3 HT
      go_wp2_with fail
      refine (unhide PP).mono ?_
      rintro e w4 ⟨rfl, v', k4, ch4, _⟩
      have T4 : Hid (Keeps w4 w.heap.size w.heap.size v' (putL es y.s (n + 1)) ∧ Below w.heap.size w w4) := hide ⟨k4, (unhide B3).trans (ch4.below (unhide B3).size (fun j hj z => by
        rcases z with z | z
        · omega
        · have := (World.ownsRow.lt (unhide K3).arr j z).1; omega))⟩
      clear k4 ch4 PP B3 K3 d0 d3
      go_wp2_with fail
      refine ⟨⟨k + 1, v', _, by go_num, by omega, HC2, T4⟩, ?_⟩
      simp [intOf]; omega
    · obtain rfl : k = s.l.length := by omega
      obtain rfl : es = es0 := by
        have h1 := unhide HCn
        rw [List.take_length] at h1
        exact h1.same (unhide H0)
      have PF := hide (rfind_any _ _ _ _ f wr (unhide HT).1 (unhide HCn).good hf)
      clear HCn
      go_wp2_with fail
      refine (unhide PF).mono ?_
      rintro e w3 ⟨v', rfl, a3, b3⟩
      have A3 : Hid (Arr w3 w.heap.size v' (foundL es f)) := hide (arr_lower a3 (unhide HT).2.size)
      have B3 := hide (bstep (unhide HT).2 b3)
      clear a3 b3 PF HT
      go_wp2_with fail
      go_ret2
      exact ⟨_, rfl, unhide A3, unhide B3⟩
end Go.Proofs.YtphhebdmfdjfeabGreatDoor
