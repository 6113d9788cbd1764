/-
  Contract of the document's log: Opened (the records of a disk, which is cut): the walk.
  Contract of the document's log: Rewritten.
  Contract of rillref.Rest: a place among so many.
-/
import Derived.Test.YtphhebdmfdjfeabGreatDoorJointWalkD3WalkD4WalkO1WalkO2
import Derived.Deep.QuietTactic
import Derived.BigQuiet
import Derived.Test.YtphhebdmfdjfeabGreatDoorJointWalkN1WalkN2WalkN3
namespace Go.Proofs.YtphhebdmfdjfeabGreatDoor.Dk
open Go.RowKit

/-- what Opened leaves -/
def Told (w w' : World) (B p : Nat) (m : Int) (v ov : Value) (es' : List Pap) (out : List Rc) : Prop := ∃ v', ArrR w' w.heap.size ov out ∧ Keeps w' B p m v' es' ∧ Chg (foot p v) w w' ∧ (∀ g, v'.ownBlock = some g → v.ownBlock = some g ∨ w.heap.size ≤ g) ∧ ∀ g, ov.ownBlock = some g → ¬ foot p v' g
theorem Tail.told {w wr : World} {B p : Nat} {m : Int} {v ov : Value} {a : Option Addr} {es : List Pap} {out : List Rc} {ns : List Int} (h : Tail w wr B p m v ov a es out ns) : Told w wr B p m v ov es out := by
  obtain ⟨vj, h1, h2, h3, h4, h5, h6, h7⟩ := h
  exact ⟨vj, h4, h1, h2, h3, h6⟩

set_option maxRecDepth 100000 in
set_option maxHeartbeats 400000 in
theorem opened_any (B p : Nat) (m : Int) (v : Value) (es : List Pap) (w : World) (hk : Keeps w B p m v es) (ht : Tidy m es) (hm : m ≤ 65536) (hB : B ≤ w.heap.size) :
    Calls Tryz.prog 10 #[.pointer (some ⟨p, 0, none⟩)] w fun e w' => ∃ ov, e = .returned ov ∧ Told w w' B p m v ov (openL es).2 (openL es).1 := by
  have Hk := hide hk
  have HT := hide ht
  have hfew := ht.few
  have hfit := ht.fits
  clear hk ht
  go_enter Tryz.func10, Tryz.ntmps10
  go_wp2_with fail
  refine (list_any B p m v es w (unhide Hk) (by omega)).mono ?_
  rintro e w1 ⟨nv, rfl, nm, b1⟩
  obtain ⟨a, c, rfl, sl⟩ := nm.sl
  have hln : (numL es).length = es.length := by unfold numL; rw [List.length_map]
  have T1 : Hid (Tail w w1 B p m v (.slice none 0 0) a es [] (numL es)) := hide (by
    refine ⟨v, (unhide Hk).below b1, Chg.of_below b1, fun _ h => .inl h, ArrR.empty _ _, sl, fun g hg => (by cases hg), fun q hq => ?_⟩
    have hlt := World.ownsRow.lt nm q.block (by rw [hq]; rfl)
    refine ⟨hlt.2, fun z => ?_, fun z => by cases z⟩
    rcases z with z | z
    · have := (unhide Hk).lt; omega
    · have := ((unhide Hk).arr.lt _ z).2; omega)
  rw [hln]
  clear nm sl b1 hln
  go_wp2_with fail
  go_loopw [3, 5] (fun ov iv wr => ∃ (i : Nat) (acc : List Rc), iv = .int .i64 i ∧ i ≤ es.length ∧ acc.length ≤ 65536 ∧ Hid (Reads es i acc) ∧ Hid (Tail w wr B p m v ov a es acc (numL es))) (fun _ iv _ => es.length - (intOf iv).toNat)
  case atStart => exact ⟨0, [], rfl, Nat.zero_le _, Nat.zero_le _, hide (Reads.start es), T1⟩
  case round =>
    clear T1
    obtain ⟨i, acc, rfl, hi, hacc, R2, T2⟩ := hrel
    by_cases hlt : i < es.length
    · obtain ⟨ba, oa, rfl, hba, c1⟩ : ∃ b o, a = some ⟨b, o, none⟩ ∧ b < wr.heap.size ∧ wr.cell? ⟨b, o + i, none⟩ = some (.int .i64 (pa es i).n) := by
        obtain ⟨vj, _, _, _, _, sl, _⟩ := unhide T2
        obtain ⟨b, o, h1, h2, h3⟩ := sl i (by unfold numL; rw [List.length_map]; exact hlt)
        rw [num_nth hlt] at h3
        exact ⟨b, o, h1, h2, h3⟩
      have PR : Hid (Calls Tryz.prog 49 #[.pointer (some ⟨p, 0, none⟩), .int .i64 (pa es i).n] wr fun e w' => e = .returned (.tuple #[.string (pa es i).text, .int .i64 0]) ∧ Below wr.heap.size wr w') := hide (by
        obtain ⟨vj, h1, _⟩ := unhide T2
        have := read_any B p m vj es (pa es i).n wr h1 (by omega)
        rw [readV_pa (unhide HT) hlt] at this
        exact this)
      have hu := used_mem (pa_mem hlt)
      obtain ⟨tx, htx⟩ : ∃ tx, tx = (pa es i).text := ⟨_, rfl⟩
      rw [← htx] at PR hu
      have HX := hide htx
      clear htx
      go_wp2_with fail
      refine (unhide PR).mono ?_
      rintro e w3 ⟨rfl, b3⟩
      have T3 := hide ((unhide T2).below b3)
      clear b3 PR c1 hba
      go_wp2_with fail
      go_loopw [3, 8] (fun ov pv wr2 => ∃ (k : Nat) (rs : List Rc), pv = .int .i64 k ∧ k ≤ tx.size ∧ Hid (Dk.Read tx.data.toList k rs) ∧ Hid (Tail w wr2 B p m v ov (some ⟨ba, oa, none⟩) es (acc ++ rs) (numL es))) (fun _ pv _ => tx.size - (intOf pv).toNat)
      case atStart => exact ⟨0, [], rfl, Nat.zero_le _, hide (Dk.Read.start _), by rw [List.append_nil]; exact T3⟩
      case round =>
        clear T3 T2
        obtain ⟨k, rs, rfl, hkt, R4, T4⟩ := hrel
        have hll : tx.data.toList.length = tx.size := by simp
        by_cases hk2 : k < tx.size
        · have hk3 : k < tx.data.toList.length := by omega
          have hrs : rs.length ≤ 65536 := by have := (unhide R4).len; omega
          have hlen : (acc ++ rs).length ≤ 200000 := by rw [List.length_append]; omega
          have Hlen := hide hlen
          clear hlen hrs
          obtain ⟨r0, n0, e0, hdec⟩ : ∃ r0 n0 e0, Pk.dec (tx.data.toList.drop k) = (r0, n0, e0) := ⟨_, _, _, rfl⟩
          obtain ⟨r, hr⟩ : ∃ r, r = rcOf r0 := ⟨_, rfl⟩
          have HD : Hid (decV (tx.extract k tx.size).data.toList = .tuple #[.agg #[.int .i64 r.k, .int .i64 r.q, .int .i64 r.t, .string r.s, .string r.h, .string r.d], .int .i64 n0, .int .i64 e0]) := hide (by rw [drop_ext, hr]; exact decV_of hdec)
          by_cases he : e0 = 0
          · have hd0 : (Pk.dec (tx.data.toList.drop k)).2.2 = 0 := by rw [hdec]; exact he
            have hpos := dec_pos hd0
            have HS := hide ((unhide R4).step hk3 hd0)
            rw [hdec, ← hr] at HS
            rw [hdec, List.length_drop] at hpos
            simp only at hpos HS
            subst he
            have hw1 : IntKind.i64.wrap ((k : Int) + (n0 : Int)) = ((k + n0 : Nat) : Int) := by rw [IntKind.wrap_i64]; omega
            clear hd0 hdec hr
            go_wp2_with fail
            refine (rdecoded_any _ _ (by simp; omega)).mono ?_
            rintro e w5 ⟨rfl, b5⟩
            rw [unhide HD]
            obtain ⟨v8, w8, hrun, t8⟩ := ((unhide T4).below b5).append r (unhide Hlen)
            rw [List.append_assoc] at t8
            have T8 := hide t8
            unfold recO at hrun
            have HRun := hide hrun
            clear b5 t8 T4 hrun
            go_wp2_with (at_builtin; refine Lib.wpList_append_run _ rfl _ _ _ _ rfl _ _ rfl rfl _ _ (unhide HRun) ?_)
            clear HRun
            refine ⟨⟨k + n0, rs ++ [r], by simp, by omega, HS, T8⟩, ?_⟩
            simp [intOf]; omega
          · have hE2 : ¬ (e0 = 0) := he
            have hE' : (e0 != 0) = true := by simp [he]
            have hd0 : (Pk.dec (tx.data.toList.drop k)).2.2 ≠ 0 := by rw [hdec]; exact he
            have HS := hide ((unhide R4).bad hk3 hd0)
            have HO : Hid (openL es = (acc ++ rs, es.take i ++ [cutP (pa es i) k])) := hide ((unhide R2).bad hlt (by rw [← unhide HX]; exact unhide HS))
            have HC := hide (cutL_pa (unhide HT) (k := k) hlt (by rw [← unhide HX]; omega))
            have hw1 : IntKind.i64.wrap ((i : Int) + 1) = ((i + 1 : Nat) : Int) := by rw [IntKind.wrap_i64]; omega
            clear hd0 hdec hr HS R4 he
            go_wp2_with fail
            refine (rdecoded_any _ _ (by simp; omega)).mono ?_
            rintro e w5 ⟨rfl, b5⟩
            rw [unhide HD]
            have T6 := hide (((unhide T4).below b5).below ((Below.refl _ _).alloc (Nat.le_refl _) (.cells #[.int .i64 r.k, .int .i64 r.q, .int .i64 r.t, .string r.s, .string r.h, .string r.d] 43)))
            have c6 := (unhide T6).num rfl hlt
            have PC := hide ((unhide T6).upd (fun vj hj => cut_any B p m vj es (pa es i).n (k : Int) _ hj (by omega)))
            rw [(unhide HC).1, (unhide HC).2] at PC
            clear b5 T4 HD HC
            go_wp2_with fail
            refine (unhide PC).mono ?_
            rintro e w7 ⟨rfl, t7⟩
            have T7 := hide t7
            clear t7 PC c6 T6
            go_wp2_with fail
            go_loopw [12] (fun jv wr3 => ∃ (j : Nat), jv = .int .i64 j ∧ i < j ∧ j ≤ es.length ∧ Hid (Tail w wr3 B p m v u3 (some ⟨ba, oa, none⟩) (es.take i ++ cutP (pa es i) k :: es.drop j) (acc ++ rs) (numL es))) (fun jv _ => es.length - (intOf jv).toNat)
            case atStart => exact ⟨i + 1, by simp, by omega, by omega, T7⟩
            case round =>
              clear T7
              obtain ⟨j, rfl, hij, hj, T8⟩ := hrel
              by_cases hj2 : j < es.length
              · have c8 := (unhide T8).num rfl hj2
                have hl8 : (es.take i ++ cutP (pa es i) k :: es.drop j).length ≤ 100 := by simp; omega
                have hB8 : B ≤ wr.heap.size := by
                  obtain ⟨_, _, h2, _⟩ := unhide T8
                  exact Nat.le_trans hB h2.size
                have PR := hide ((unhide T8).upd (fun vj hv => remove_any B p m vj _ (pa es j).n _ hv hl8 hB8))
                rw [rem_step (unhide HT) hij hj2] at PR
                have hw2 : IntKind.i64.wrap ((j : Int) + 1) = ((j + 1 : Nat) : Int) := by rw [IntKind.wrap_i64]; omega
                clear hl8 hB8 T8
                go_wp2_with fail
                refine (unhide PR).mono ?_
                rintro e w9 ⟨rfl, t9⟩
                have T9 := hide t9
                clear t9 PR c8
                go_wp2_with fail
                refine ⟨⟨j + 1, by simp, by omega, by omega, T9⟩, ?_⟩
                simp [intOf]; omega
              · have T9 : Hid (Tail w wr B p m v u3 (some ⟨ba, oa, none⟩) (es.take i ++ [cutP (pa es i) k]) (acc ++ rs) (numL es)) := by
                  have := T8
                  rw [List.drop_eq_nil_of_le (by omega)] at this
                  exact this
                clear T8
                go_wp2_with fail
                go_ret
                refine ⟨_, rfl, ?_⟩
                rw [unhide HO]
                exact (unhide T9).told
        · have HR := hide ((unhide R4).done (by omega))
          have HS := hide ((unhide R2).step (rs := rs) hlt (by rw [← unhide HX]; exact unhide HR))
          have hl2 : (acc ++ rs).length ≤ 65536 := by have := (unhide HS).len; omega
          clear HR R4 R2
          go_wp2_with fail
          refine ⟨⟨i + 1, acc ++ rs, by go_num, by omega, hl2, HS, T4⟩, ?_⟩
          simp [intOf]; omega
    · have HR := hide ((unhide R2).done hlt)
      go_wp2_with fail
      go_ret
      refine ⟨_, rfl, ?_⟩
      rw [unhide HR]
      exact (unhide T2).told
end Go.Proofs.YtphhebdmfdjfeabGreatDoor.Dk

namespace Go.Proofs.YtphhebdmfdjfeabGreatDoor.Dk
open Go.RowKit

/-- the one file that a rewriting leaves -/
theorem one_paper {w : World} {B : Nat} (hB : B ≤ w.heap.size) (e : Pap) : Arr (w.alloc (.cells #[.int .i64 e.n, .int .i64 e.sure, .string e.text] 52)) B (.slice (some ⟨w.heap.size, 0, none⟩) 1 1) [e] :=
  ⟨by simp [cel], .inr ⟨w.heap.size, 1, _, rfl, hB, heap_alloc_new w _, Nat.le_refl _, by simp [maxLen], by simp, by simp [cel]⟩⟩

set_option maxRecDepth 100000 in
set_option maxHeartbeats 1000000 in
/-- behind the texts: the end of Rewritten, from the append on -/
theorem rewritten_any (B p : Nat) (m size : Int) (v : Value) (es : List Pap) (l : List Rc) (a : Option Addr) (c : Nat) (w : World) (hk : Keeps w B p m v es) (ht : Tidy m es) (hm : m ≤ 65536) (hsl : SlR w a l) (hsm : ∀ k, k < l.length → Small (rc l k)) (hl : l.length ≤ 200000) (hB : B ≤ w.heap.size) :
    Calls Tryz.prog 19 #[.pointer (some ⟨p, 0, none⟩), .int .i64 size, .slice a l.length c] w fun e w' => e = .returned (.int .i64 (rewR es m size l).1) ∧ Upd w w' B p m v (rewR es m size l).2 := by
  have Hk := hide hk
  have HT := hide ht
  have hfew := ht.few
  have hfit := ht.fits
  have HS := hide hsl
  have HM := hide hsm
  clear hk ht hsl hsm
  go_enter Tryz.func19, Tryz.ntmps19
  go_wp2_with fail
  go_loopw [7, 8] (fun tv iv wr => ∃ (k : Nat) (t : ByteArray), iv = .int .i64 k ∧ k ≤ l.length ∧ tv = .string t ∧ t.size ≤ 1100 * l.length ∧ Hid (t = catT (l.take k)) ∧ Hid (badOf (l.take k) = 0) ∧ Hid (Below w.heap.size w wr)) (fun _ iv _ => l.length - (intOf iv).toNat)
  case atStart => exact ⟨0, ByteArray.empty, rfl, Nat.zero_le _, rfl, by simp, hide rfl, hide rfl, hide (Below.refl _ _)⟩
  case round =>
    obtain ⟨k, t, rfl, hkl, rfl, hts, HE, HB, Hb⟩ := hrel
    by_cases hlt : k < l.length
    · obtain ⟨g, o, rfl, s6⟩ := unhide HS k hlt
      have s7 := s6.below (unhide Hb) s6.lt
      obtain ⟨r, hr⟩ : ∃ r, r = rc l k := ⟨_, rfl⟩
      have hsm := unhide HM k hlt
      have hbt := badOf_take hlt (unhide HB)
      have hct := catT_take hlt
      have hbf := fun h => badOf_found hlt (unhide HB) h
      rw [← hr] at s7 hsm hbt hct hbf
      obtain ⟨_, x0, x1, x2, x3, x4, x5⟩ := s7
      have C1 : Hid (∀ W, Calls Tryz.prog 54 #[.agg #[.int .i64 r.k, .int .i64 r.q, .int .i64 r.t, .string r.s, .string r.h, .string r.d]] W fun e w' => e = .returned (.int .i64 (chkR r)) ∧ Below W.heap.size W w') := hide (fun W => rrecord_any r.k r.q r.t r.s r.h r.d W hsm.s hsm.h hsm.d)
      obtain ⟨E, hE⟩ : ∃ E, E = chkR r := ⟨_, rfl⟩
      rw [← hE] at C1
      by_cases h0 : E = 0
      · have hc : chkR r = 0 := by rw [← hE]; exact h0
        have C2 : Hid (∀ W, Calls Tryz.prog 55 #[.agg #[.int .i64 r.k, .int .i64 r.q, .int .i64 r.t, .string r.s, .string r.h, .string r.d]] W fun e w' => e = .returned (.string (codT r)) ∧ Below W.heap.size W w') := hide (fun W => rcoded_any r.k r.q r.t r.s r.h r.d W hc)
        have HB2 : Hid (badOf (l.take (k + 1)) = 0) := hide (by rw [hbt]; exact hc)
        have HE2 : Hid (t ++ codT r = catT (l.take (k + 1))) := hide (by rw [hct, ← unhide HE])
        have hts2 : (t ++ codT r).size ≤ 1100 * l.length := by
          have h1 := catT_size (l.take (k + 1)) (unhide HB2)
          rw [← unhide HE2, List.length_take] at h1
          have : min (k + 1) l.length ≤ l.length := Nat.min_le_right _ _
          have := Nat.mul_le_mul_left 1100 this
          omega
        rw [h0] at C1
        have HTS := hide hts2
        have hcs := codT_size hc
        have hcat : t.size + (codT r).size ≤ 9223372036854775807 := by omega
        have hcat2 : (t.size : Int) + ((codT r).size : Int) ≤ 9223372036854775807 := by omega
        clear hE h0 hc hbt hct hbf hr hts2 HB HE s6
        go_wp2_with fail
        refine (unhide C1 _).mono ?_
        rintro e w1 ⟨rfl, b1⟩
        have y : Six w1 g (o + k * 6) r := (show Six wr g (o + k * 6) r from ⟨World.block_lt_of_cell? _ _ x0, x0, x1, x2, x3, x4, x5⟩).below b1 (World.block_lt_of_cell? _ _ x0)
        obtain ⟨_, y0, y1, y2, y3, y4, y5⟩ := y
        have B1 := hide (bstep (unhide Hb) b1)
        clear b1 x0 x1 x2 x3 x4 x5
        go_wp2_with fail
        refine (unhide C2 _).mono ?_
        rintro e w2 ⟨rfl, b2⟩
        have B2 := hide (bstep (unhide B1) b2)
        clear b2 B1 y0 y1 y2 y3 y4 y5
        go_wp2_with fail
        refine ⟨⟨k + 1, t ++ codT r, by go_num, by omega, rfl, unhide HTS, HE2, HB2, B2⟩, ?_⟩
        simp [intOf]; omega
      · have HRes : Hid (rewR es m size l = (E, es)) := hide (rewR_bad ((hbf (by rw [← hE]; exact h0)).trans hE.symm) h0)
        clear hE hbt hct hbf hr HB HE s6
        go_wp2_with fail
        refine (unhide C1 _).mono ?_
        rintro e w1 ⟨rfl, b1⟩
        have B1 := hide (bstep (unhide Hb) b1)
        clear b1 x0 x1 x2 x3 x4 x5
        go_wp2_with fail
        go_ret
        rw [unhide HRes]
        exact ⟨rfl, Upd.same (unhide Hk) (unhide B1)⟩
    · obtain rfl : k = l.length := by omega
      have HB0 : Hid (badOf l = 0) := hide (by have := unhide HB; rw [List.take_length] at this; exact this)
      have HE0 : Hid (t = catT l) := hide (by have := unhide HE; rw [List.take_length] at this; exact this)
      clear HB HE HS HM hlt
      have K1 := hide ((unhide Hk).below (unhide Hb))
      have hB1 : B ≤ wr.heap.size := Nat.le_trans hB (unhide Hb).size
      have d1 := (unhide K1).cell
      obtain ⟨ax, cx, rfl, c1, c2, _⟩ := (unhide Hk).arr.shape
      by_cases hlarge : 1 < l.length ∧ size < (t.size : Int)
      · have HRes : Hid (rewR es m size l = (8, es)) := hide (rewR_large (unhide HB0) (by rw [← unhide HE0]; exact hlarge))
        have hg1 : (1 : Int) < (l.length : Int) := by omega
        have hg2 := hlarge.2
        clear hlarge
        go_wp2_with fail
        go_ret
        rw [unhide HRes]
        exact ⟨rfl, Upd.same (unhide Hk) (unhide Hb)⟩
      · have HL : Hid (¬ (1 < l.length ∧ size < (t.size : Int))) := hide hlarge
        by_cases hg : 1 < l.length
        · have hg1 : (1 : Int) < (l.length : Int) := by omega
          have hg2 : decide (size < (t.size : Int)) = false := decide_eq_false (by omega)
          clear hlarge
          by_cases hz : es.length = 0
          · have HN := hide (next_first hz)
            have PA := hide (append_any B p m _ es 0 t wr (unhide K1) (by omega) (by omega) (by omega) hB1)
            by_cases h8 : appE es m ((0 : Int)) t = 0
            · have HRes : Hid (rewR es m size l = (0, [⟨(0 : Int), (t.size : Int), t⟩])) := hide (by
                have := rewR_ok (es := es) (m := m) (size := size) (unhide HB0) (by rw [← unhide HE0]; exact unhide HL) (by rw [← unhide HE0, unhide HN]; exact h8)
                rw [← unhide HE0, unhide HN] at this
                exact this)
              rw [h8] at PA
              clear h8
              go_wp2_with fail
              refine (unhide PA).mono ?_
              rintro e w5 ⟨rfl, v5, s1, s2, s3⟩
              have S5 := hide (And.intro s1 (And.intro s2 s3))
              have f5 := s1.free
              have d5 := s1.cell
              have HU : Hid (Upd w5 ((w5.alloc (.cells #[.int .i64 ((0 : Int)), .int .i64 (t.size : Int), .string t] 52)).setCell ⟨p, 1, none⟩ (.slice (some ⟨w5.heap.size, 0, none⟩) 1 1)) B p m v5 [⟨(0 : Int), (t.size : Int), t⟩]) := hide (Upd.store s1 (Chg.of_below ((Below.refl _ _).alloc (Nat.le_refl _) _)) (one_paper (Nat.le_trans hB1 s2.size) ⟨(0 : Int), (t.size : Int), t⟩) (fun g hg => .inr (by simp only [Value.ownBlock, Option.some.injEq] at hg; omega)))
              have hpl : p < w5.heap.size := s1.lt
              have hpn : w5.heap.size ≠ p := by omega
              rw [World.setCell_alloc_past _ _ _ _ hpl] at HU
              clear s1 s2 s3 PA
              go_wp2_with fail
              go_ret
              rw [unhide HRes]
              exact ⟨rfl, Upd.behind (unhide Hb) (Upd.andThen (unhide S5) (unhide HU))⟩
            · have HRes : Hid (rewR es m size l = (appE es m ((0 : Int)) t, es)) := hide (by
                have := rewR_full (es := es) (m := m) (size := size) (unhide HB0) (by rw [← unhide HE0]; exact unhide HL) (by rw [← unhide HE0, unhide HN]; exact h8)
                rw [← unhide HE0, unhide HN] at this
                exact this)
              rw [app_not h8] at PA
              obtain ⟨E, hE⟩ : ∃ E, E = appE es m ((0 : Int)) t := ⟨_, rfl⟩
              rw [← hE] at PA HRes h8
              have hE' : (E != 0) = true := by simp [h8]
              clear hE
              go_wp2_with fail
              refine (unhide PA).mono ?_
              rintro e w5 ⟨rfl, u5⟩
              have U5 := hide (Upd.behind (unhide Hb) u5)
              clear u5 PA
              go_wp2_with fail
              go_ret
              rw [unhide HRes]
              exact ⟨rfl, unhide U5⟩
          · obtain ⟨k, hk1⟩ : ∃ k, k + 1 = es.length := ⟨es.length - 1, by omega⟩
            have hk2 : k < es.length := by omega
            have HN := hide (next_last hk1)
            have hz1 : (0 : Int) < (es.length : Int) := by omega
            have hw : IntKind.i64.wrap ((es.length : Int) - 1) = (k : Int) := by rw [IntKind.wrap_i64]; omega
            have hnl := (unhide HT).each _ (pa_mem hk2)
            have hn1 : 0 ≤ (pa es k).n ∧ (pa es k).n ≤ 1099511627776 := by simpa [inI] using hnl.1
            have hw2 : IntKind.i64.wrap ((pa es k).n + 1) = (pa es k).n + 1 := by rw [IntKind.wrap_i64]; omega
            obtain ⟨g, cap', e0, f1, f2, f3, f4⟩ := (unhide K1).arr.there (by omega)
            obtain ⟨rfl, _, rfl⟩ := Value.slice.inj e0
            clear e0 hz hk1 hnl
            have n0 := (unhide K1).arr.num hk2
            go_wp2_with fail
            go_quiet (fail)
            have B2 := hide (below_drewN (Below.refl wr.heap.size wr) nq)
            have K2 := hide ((unhide K1).below (unhide B2))
            have B3 := hide (bstep (unhide Hb) (unhide B2))
            have hB2 : B ≤ (wr.drewN nq).heap.size := by have := (unhide B3).size; omega
            generalize wr.drewN nq = w2 at B2 K2 B3 hB2 ⊢
            have PA := hide (append_any B p m _ es ((pa es k).n + 1) t w2 (unhide K2) (by omega) (by omega) (by omega) hB2)
            clear n0 d1 B2
            by_cases h8 : appE es m ((pa es k).n + 1) t = 0
            · have HRes : Hid (rewR es m size l = (0, [⟨(pa es k).n + 1, (t.size : Int), t⟩])) := hide (by
                have := rewR_ok (es := es) (m := m) (size := size) (unhide HB0) (by rw [← unhide HE0]; exact unhide HL) (by rw [← unhide HE0, unhide HN]; exact h8)
                rw [← unhide HE0, unhide HN] at this
                exact this)
              rw [h8] at PA
              clear h8
              go_wp2_with fail
              refine (unhide PA).mono ?_
              rintro e w5 ⟨rfl, v5, s1, s2, s3⟩
              have S5 := hide (And.intro s1 (And.intro s2 s3))
              have f5 := s1.free
              have d5 := s1.cell
              have HU : Hid (Upd w5 ((w5.alloc (.cells #[.int .i64 ((pa es k).n + 1), .int .i64 (t.size : Int), .string t] 52)).setCell ⟨p, 1, none⟩ (.slice (some ⟨w5.heap.size, 0, none⟩) 1 1)) B p m v5 [⟨(pa es k).n + 1, (t.size : Int), t⟩]) := hide (Upd.store s1 (Chg.of_below ((Below.refl _ _).alloc (Nat.le_refl _) _)) (one_paper (Nat.le_trans hB2 s2.size) ⟨(pa es k).n + 1, (t.size : Int), t⟩) (fun g hg => .inr (by simp only [Value.ownBlock, Option.some.injEq] at hg; omega)))
              have hpl : p < w5.heap.size := s1.lt
              have hpn : w5.heap.size ≠ p := by omega
              rw [World.setCell_alloc_past _ _ _ _ hpl] at HU
              clear s1 s2 s3 PA
              go_wp2_with fail
              go_ret
              rw [unhide HRes]
              exact ⟨rfl, Upd.behind (unhide B3) (Upd.andThen (unhide S5) (unhide HU))⟩
            · have HRes : Hid (rewR es m size l = (appE es m ((pa es k).n + 1) t, es)) := hide (by
                have := rewR_full (es := es) (m := m) (size := size) (unhide HB0) (by rw [← unhide HE0]; exact unhide HL) (by rw [← unhide HE0, unhide HN]; exact h8)
                rw [← unhide HE0, unhide HN] at this
                exact this)
              rw [app_not h8] at PA
              obtain ⟨E, hE⟩ : ∃ E, E = appE es m ((pa es k).n + 1) t := ⟨_, rfl⟩
              rw [← hE] at PA HRes h8
              have hE' : (E != 0) = true := by simp [h8]
              clear hE
              go_wp2_with fail
              refine (unhide PA).mono ?_
              rintro e w5 ⟨rfl, u5⟩
              have U5 := hide (Upd.behind (unhide B3) u5)
              clear u5 PA
              go_wp2_with fail
              go_ret
              rw [unhide HRes]
              exact ⟨rfl, unhide U5⟩
        · have hg1 : decide ((1 : Int) < (l.length : Int)) = false := decide_eq_false (by omega)
          clear hlarge
          by_cases hz : es.length = 0
          · have HN := hide (next_first hz)
            have PA := hide (append_any B p m _ es 0 t wr (unhide K1) (by omega) (by omega) (by omega) hB1)
            by_cases h8 : appE es m ((0 : Int)) t = 0
            · have HRes : Hid (rewR es m size l = (0, [⟨(0 : Int), (t.size : Int), t⟩])) := hide (by
                have := rewR_ok (es := es) (m := m) (size := size) (unhide HB0) (by rw [← unhide HE0]; exact unhide HL) (by rw [← unhide HE0, unhide HN]; exact h8)
                rw [← unhide HE0, unhide HN] at this
                exact this)
              rw [h8] at PA
              clear h8
              go_wp2_with fail
              refine (unhide PA).mono ?_
              rintro e w5 ⟨rfl, v5, s1, s2, s3⟩
              have S5 := hide (And.intro s1 (And.intro s2 s3))
              have f5 := s1.free
              have d5 := s1.cell
              have HU : Hid (Upd w5 ((w5.alloc (.cells #[.int .i64 ((0 : Int)), .int .i64 (t.size : Int), .string t] 52)).setCell ⟨p, 1, none⟩ (.slice (some ⟨w5.heap.size, 0, none⟩) 1 1)) B p m v5 [⟨(0 : Int), (t.size : Int), t⟩]) := hide (Upd.store s1 (Chg.of_below ((Below.refl _ _).alloc (Nat.le_refl _) _)) (one_paper (Nat.le_trans hB1 s2.size) ⟨(0 : Int), (t.size : Int), t⟩) (fun g hg => .inr (by simp only [Value.ownBlock, Option.some.injEq] at hg; omega)))
              have hpl : p < w5.heap.size := s1.lt
              have hpn : w5.heap.size ≠ p := by omega
              rw [World.setCell_alloc_past _ _ _ _ hpl] at HU
              clear s1 s2 s3 PA
              go_wp2_with fail
              go_ret
              rw [unhide HRes]
              exact ⟨rfl, Upd.behind (unhide Hb) (Upd.andThen (unhide S5) (unhide HU))⟩
            · have HRes : Hid (rewR es m size l = (appE es m ((0 : Int)) t, es)) := hide (by
                have := rewR_full (es := es) (m := m) (size := size) (unhide HB0) (by rw [← unhide HE0]; exact unhide HL) (by rw [← unhide HE0, unhide HN]; exact h8)
                rw [← unhide HE0, unhide HN] at this
                exact this)
              rw [app_not h8] at PA
              obtain ⟨E, hE⟩ : ∃ E, E = appE es m ((0 : Int)) t := ⟨_, rfl⟩
              rw [← hE] at PA HRes h8
              have hE' : (E != 0) = true := by simp [h8]
              clear hE
              go_wp2_with fail
              refine (unhide PA).mono ?_
              rintro e w5 ⟨rfl, u5⟩
              have U5 := hide (Upd.behind (unhide Hb) u5)
              clear u5 PA
              go_wp2_with fail
              go_ret
              rw [unhide HRes]
              exact ⟨rfl, unhide U5⟩
          · obtain ⟨k, hk1⟩ : ∃ k, k + 1 = es.length := ⟨es.length - 1, by omega⟩
            have hk2 : k < es.length := by omega
            have HN := hide (next_last hk1)
            have hz1 : (0 : Int) < (es.length : Int) := by omega
            have hw : IntKind.i64.wrap ((es.length : Int) - 1) = (k : Int) := by rw [IntKind.wrap_i64]; omega
            have hnl := (unhide HT).each _ (pa_mem hk2)
            have hn1 : 0 ≤ (pa es k).n ∧ (pa es k).n ≤ 1099511627776 := by simpa [inI] using hnl.1
            have hw2 : IntKind.i64.wrap ((pa es k).n + 1) = (pa es k).n + 1 := by rw [IntKind.wrap_i64]; omega
            obtain ⟨g, cap', e0, f1, f2, f3, f4⟩ := (unhide K1).arr.there (by omega)
            obtain ⟨rfl, _, rfl⟩ := Value.slice.inj e0
            clear e0 hz hk1 hnl
            have n0 := (unhide K1).arr.num hk2
            go_wp2_with fail
            go_quiet (fail)
            have B2 := hide (below_drewN (Below.refl wr.heap.size wr) nq)
            have K2 := hide ((unhide K1).below (unhide B2))
            have B3 := hide (bstep (unhide Hb) (unhide B2))
            have hB2 : B ≤ (wr.drewN nq).heap.size := by have := (unhide B3).size; omega
            generalize wr.drewN nq = w2 at B2 K2 B3 hB2 ⊢
            have PA := hide (append_any B p m _ es ((pa es k).n + 1) t w2 (unhide K2) (by omega) (by omega) (by omega) hB2)
            clear n0 d1 B2
            by_cases h8 : appE es m ((pa es k).n + 1) t = 0
            · have HRes : Hid (rewR es m size l = (0, [⟨(pa es k).n + 1, (t.size : Int), t⟩])) := hide (by
                have := rewR_ok (es := es) (m := m) (size := size) (unhide HB0) (by rw [← unhide HE0]; exact unhide HL) (by rw [← unhide HE0, unhide HN]; exact h8)
                rw [← unhide HE0, unhide HN] at this
                exact this)
              rw [h8] at PA
              clear h8
              go_wp2_with fail
              refine (unhide PA).mono ?_
              rintro e w5 ⟨rfl, v5, s1, s2, s3⟩
              have S5 := hide (And.intro s1 (And.intro s2 s3))
              have f5 := s1.free
              have d5 := s1.cell
              have HU : Hid (Upd w5 ((w5.alloc (.cells #[.int .i64 ((pa es k).n + 1), .int .i64 (t.size : Int), .string t] 52)).setCell ⟨p, 1, none⟩ (.slice (some ⟨w5.heap.size, 0, none⟩) 1 1)) B p m v5 [⟨(pa es k).n + 1, (t.size : Int), t⟩]) := hide (Upd.store s1 (Chg.of_below ((Below.refl _ _).alloc (Nat.le_refl _) _)) (one_paper (Nat.le_trans hB2 s2.size) ⟨(pa es k).n + 1, (t.size : Int), t⟩) (fun g hg => .inr (by simp only [Value.ownBlock, Option.some.injEq] at hg; omega)))
              have hpl : p < w5.heap.size := s1.lt
              have hpn : w5.heap.size ≠ p := by omega
              rw [World.setCell_alloc_past _ _ _ _ hpl] at HU
              clear s1 s2 s3 PA
              go_wp2_with fail
              go_ret
              rw [unhide HRes]
              exact ⟨rfl, Upd.behind (unhide B3) (Upd.andThen (unhide S5) (unhide HU))⟩
            · have HRes : Hid (rewR es m size l = (appE es m ((pa es k).n + 1) t, es)) := hide (by
                have := rewR_full (es := es) (m := m) (size := size) (unhide HB0) (by rw [← unhide HE0]; exact unhide HL) (by rw [← unhide HE0, unhide HN]; exact h8)
                rw [← unhide HE0, unhide HN] at this
                exact this)
              rw [app_not h8] at PA
              obtain ⟨E, hE⟩ : ∃ E, E = appE es m ((pa es k).n + 1) t := ⟨_, rfl⟩
              rw [← hE] at PA HRes h8
              have hE' : (E != 0) = true := by simp [h8]
              clear hE
              go_wp2_with fail
              refine (unhide PA).mono ?_
              rintro e w5 ⟨rfl, u5⟩
              have U5 := hide (Upd.behind (unhide B3) u5)
              clear u5 PA
              go_wp2_with fail
              go_ret
              rw [unhide HRes]
              exact ⟨rfl, unhide U5⟩
end Go.Proofs.YtphhebdmfdjfeabGreatDoor.Dk

namespace Go.Proofs.YtphhebdmfdjfeabGreatDoor
open Go.RowKit

set_option maxHeartbeats 400000 in
theorem rest_any (k : Int) (m : Nat) (w : World) (h0 : 0 < m) (h1 : m ≤ 2000000000000000000) :
    Calls Tryz.prog 17 #[.int .i64 k, .int .i64 m] w fun e w' => ∃ i : Nat, e = .returned (.int .i64 i) ∧ i < m ∧ w' = w := by
  have hm : ¬ ((m : Int) = 0) := by omega
  have hm2 : ¬ ((m : Int) = -1) := by omega
  have t1 : k.tmod m < m := Int.tmod_lt_of_pos k (by omega)
  have t2 : -(m : Int) < k.tmod m := by
    have := Int.tmod_lt_of_pos (-k) (show (0 : Int) < m by omega)
    rw [Int.neg_tmod] at this
    omega
  have z1 : -9223372036854775808 ≤ k.tmod m := by omega
  have z2 : k.tmod m ≤ 9223372036854775807 := by omega
  by_cases hr : k.tmod m < 0
  · go_enter Tryz.func17, Tryz.ntmps17
    go_wp2_with fail
    go_ret
    exact ⟨(k.tmod m + m).toNat, ret_int (by omega), by omega, rfl⟩
  · go_enter Tryz.func17, Tryz.ntmps17
    go_wp2_with fail
    go_ret
    exact ⟨(k.tmod m).toNat, ret_int (by omega), by omega, rfl⟩
end Go.Proofs.YtphhebdmfdjfeabGreatDoor
