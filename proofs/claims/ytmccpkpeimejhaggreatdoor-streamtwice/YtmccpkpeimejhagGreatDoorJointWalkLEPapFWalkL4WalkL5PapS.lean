/-
  The program's log: the bytes of all records that are rewritten (a strings.Builder).
  A log behind a stop tells a front of what was appended: the bytes of records, a log's files as it goes on, what is read of them behind a stop. No walk, and nothing of the program's own.
  The program's log: Rewrite, over what is asked of any disk.
  The program's log does what is asked of a log, over what is asked of any disk.
  A store, pure: its messages by rising numbers, and the last number there ever was; what Try and Apply make of it. No walk.
-/
import Derived.Test.YtmccpkpeimejhagGreatDoorJointPapHWorksFRowMWalkM1WalkM2
import Derived.Test.YtmccpkpeimejhagGreatDoorJointWalkC4WalkL1
import Derived.Test.YtmccpkpeimejhagGreatDoorJointWalkC8WalkLRWalkL2WalkL3
import Derived.Test.YtmccpkpeimejhagGreatDoorShelfB
import Derived.Laws.Externs
import Derived.Test.YtmccpkpeimejhagGreatDoorJointPlainR2PapGRowGPapNWorksG
import Derived.Test.YtmccpkpeimejhagGreatDoorJointWalkSplitWalk2Plain2Plain5PlainK
namespace Go.Proofs.YtmccpkpeimejhagGreatDoor.Dk
open Go.RowKit

theorem byteB : (Tryz.prog.info? 5).map (fun i => (i.zero, i.size, i.bytes)) = some (some (.int .u8 0), 1, 1) := by kernel_rfl
theorem str_app (t s : ByteArray) : Lib.strCells (t ++ s) = Lib.strCells t ++ Lib.strCells s := by
  unfold Lib.strCells
  rw [ByteArray.data_append, Array.toList_append, List.map_append]
theorem bsize : (Tryz.prog.info? 136).map (fun i => i.size) = some 2 := by kernel_rfl

set_option maxRecDepth 100000 in
set_option maxHeartbeats 1000000 in
/-- a builder that was written already -/
theorem check_used (b : Nat) (w : World) (h0 : w.cell? ⟨b, 0, none⟩ = some (.pointer (some ⟨b, 0, none⟩))) :
    Calls Tryz.prog 111 #[.pointer (some ⟨b, 0, none⟩)] w fun e w' => e = .returned (.tuple #[]) ∧ w = w' := by
  obtain ⟨j, hj, _⟩ := Option.map_eq_some_iff.1 bsize
  go_enter Tryz.func111, Tryz.ntmps111
  go_wp2_with fail
  rw [Lib.run_neq_ptr_same w _ Tryz.underlying134 hj]
  go_wp2_with fail
  go_end0
  exact ⟨rfl, rfl⟩

set_option maxRecDepth 100000 in
set_option maxHeartbeats 1000000 in
/-- a builder that is new stores its own address -/
theorem check_new (b : Nat) (w : World) (h0 : w.cell? ⟨b, 0, none⟩ = some (.pointer none)) (hsh : w.shape? b = some (136, 2)) (hfz : w.frozen? ⟨b, 0, none⟩ = false) :
    Calls Tryz.prog 111 #[.pointer (some ⟨b, 0, none⟩)] w fun e w' => e = .returned (.tuple #[]) ∧ w' = w.setCell ⟨b, 0, none⟩ (.pointer (some ⟨b, 0, none⟩)) := by
  obtain ⟨j, hj, hjs⟩ := Option.map_eq_some_iff.1 bsize
  go_enter Tryz.func111, Tryz.ntmps111
  go_wp2_with fail
  rw [Lib.run_to_unsafe w ⟨b, 0, none⟩ Tryz.underlying134 Tryz.underlying192 hj (by rw [hjs]; decide) hsh (Nat.zero_lt_succ 1)]
  simp only [Result.andThen]
  rw [Oper.upon_value]
  go_wp2_with fail
  rw [run_callFunc_extern Tryz.func137 (by kernel_rfl) (by kernel_rfl) (by kernel_rfl) (e := Extern.AbiNoEscape.same) (by kernel_rfl), Lib.run_noEscape]
  simp only [Result.andThen]
  rw [Oper.upon_value]
  go_wp2_with fail
  rw [Lib.run_from_unsafe w ⟨b, 0, none⟩ Tryz.underlying192 Tryz.underlying134 hj hsh (by kernel_rfl)]
  simp only [Result.andThen]
  rw [Oper.upon_value]
  go_wp2_with fail
  go_end0
  exact ⟨rfl, rfl⟩

/-- a builder of one's own that holds a text -/
def Bld (w : World) (B b : Nat) (t : ByteArray) : Prop := Lib.IsBuilder 136 5 B b (Lib.strCells t) w
theorem Bld.below' {w w' : World} {B b : Nat} {t : ByteArray} (h : Bld w B b t) (hb : Below w.heap.size w w') : Bld w' B b t := by
  have hat : ∀ p, Lib.BuilderAt 136 5 B b p (Lib.strCells t) w → Lib.BuilderAt 136 5 B b p (Lib.strCells t) w' := fun p h => by
    obtain ⟨h1, v, h2, h3, h4⟩ := h
    refine ⟨h1, v, by rw [hb.block b (Array.getElem?_eq_some_iff.1 h2).1]; exact h2, ⟨h3.1, ?_⟩, h4⟩
    rcases h3.2 with y | ⟨g, cap, cur, y1, y2, y3, y⟩
    · exact .inl y
    · exact .inr ⟨g, cap, cur, y1, y2, by rw [hb.block g (Array.getElem?_eq_some_iff.1 y3).1]; exact y3, y⟩
  rcases h with h | h
  · exact .inl (hat _ h)
  · exact .inr (hat _ h)
theorem Bld.alloc' {w : World} {B b : Nat} {t : ByteArray} (h : Bld w B b t) (o : Obj) : Bld (w.alloc o) B b t := h.below' ((Below.refl _ _).alloc (Nat.le_refl _) _)
theorem bcheck_any (B b : Nat) (bs : List Value) (w : World) (h : Lib.IsBuilder 136 5 B b bs w) :
    Calls Tryz.prog 111 #[.pointer (some ⟨b, 0, none⟩)] w fun e w' => e = .returned (.tuple #[]) ∧ Lib.BuilderAt 136 5 B b (.pointer (some ⟨b, 0, none⟩)) bs w' ∧ Below B w w' := by
  rcases h with h | h
  · refine (check_new b w h.cell0 h.shape h.frozen0).mono ?_
    rintro e w' ⟨rfl, rfl⟩
    exact ⟨rfl, h.used _, (Below.refl B w).setCell (p := ⟨b, 0, none⟩) h.1 _⟩
  · refine (check_used b w h.cell0).mono ?_
    rintro e w' ⟨rfl, rfl⟩
    exact ⟨rfl, h, Below.refl B _⟩

set_option maxRecDepth 100000 in
set_option maxHeartbeats 1000000 in
theorem bwrite_any (B b : Nat) (t s : ByteArray) (w : World) (h : Bld w B b t) (hlen : t.size + s.size ≤ 140737488355328) (hB : B ≤ w.heap.size) :
    Calls Tryz.prog 76 #[.pointer (some ⟨b, 0, none⟩), .string s] w fun e w' => e = .returned (.tuple #[.int .i64 s.size, .nilIface]) ∧ Bld w' B b (t ++ s) ∧ Below B w w' := by
  obtain ⟨i0, hi, hz0, hz1, hz2⟩ := info_parts byteB
  go_enter Tryz.func76, Tryz.ntmps76
  go_wp2_with fail
  refine (bcheck_any B b _ w h).mono ?_
  rintro e w1 ⟨rfl, h1, b1⟩
  obtain ⟨hBb, v, hbk, hown, hne⟩ := h1
  rw [Lib.strCells_length] at hown
  have hB1 := Nat.le_trans hB b1.size
  have hlt : b < w1.heap.size := (Array.getElem?_eq_some_iff.1 hbk).1
  obtain ⟨v', w2, hrun, hown2, hg2, _⟩ := Lib.run_append_own_string (P := Tryz.prog) w1 B 108 9 108 5 i0 Tryz.underlying108 Tryz.underlying9 hi hz0 hz1 hz2 v t.size (Lib.strCells t) hown s (by unfold maxLen; omega) (by omega) hB1
  have hbk2 : w2.heap[b]? = some (.cells #[.pointer (some ⟨b, 0, none⟩), v] 136 (0, 0)) := by rw [hg2.block b hlt (fun z => hne z.symm)]; exact hbk
  have c1 : w1.cell? ⟨b, 1, none⟩ = some v := by rw [Lib.cell_of_heap hbk]; rfl
  have d1 : w2.cell? ⟨b, 1, none⟩ = some v := by rw [Lib.cell_of_heap hbk2]; rfl
  have f1 : w2.frozen? ⟨b, 1, none⟩ = false := Lib.frozen_of_heap hbk2 1
  obtain ⟨ao, n', cap, rfl⟩ : ∃ ao n' cap, v' = .slice ao n' cap := by
    rcases hown2.2 with ⟨hv, _⟩ | ⟨g, cap, cur, hv, _⟩
    · exact ⟨_, _, _, hv⟩
    · exact ⟨_, _, _, hv⟩
  have HX : Hid (Bld (w2.setCell ⟨b, 1, none⟩ (.slice ao n' cap)) B b (t ++ s) ∧ Below B w (w2.setCell ⟨b, 1, none⟩ (.slice ao n' cap))) := hide ⟨.inr (by
      rw [str_app]
      exact Lib.BuilderAt.put (T := 136) (e := 5) hBb hbk2 (bs' := Lib.strCells t ++ Lib.strCells s) (by rw [List.length_append, Lib.strCells_length, Lib.strCells_length]; exact hown2) (by decide)),
    b1.trans (((Below.refl B w1).grown hg2 hB1 (fun k hk => (World.ownsRow.lt hown k hk).1)).setCell (p := ⟨b, 1, none⟩) hBb _)⟩
  clear h b1 hown hown2 hg2 hbk hbk2 hne
  go_wp2_with (at_builtin; refine Lib.wpList_append_run _ rfl _ _ 108 9 rfl _ _ rfl rfl _ _ hrun ?_)
  go_ret2
  exact ⟨rfl, unhide HX⟩
theorem bstring_any (B b : Nat) (t : ByteArray) (w : World) (h : Bld w B b t) (hB : B ≤ w.heap.size) :
    Calls Tryz.prog 77 #[.pointer (some ⟨b, 0, none⟩)] w fun e w' => e = .returned (.string t) ∧ Below B w w' := by
  have h1 := Tryz.Builder_String_any B b t.data.toList w (by rw [← Lib.strCells_eq]; exact h) hB
  have e : (⟨t.data.toList.toArray⟩ : ByteArray) = t := by simp
  rw [e] at h1
  exact h1

/-- encV of records one after the other -/
def allV (l : List Rc) : Value := if badOf l = 0 then .tuple #[.string (catT l), .int .i64 0] else .tuple #[.string ⟨#[]⟩, .int .i64 (badOf l)]

set_option maxRecDepth 100000 in
set_option maxHeartbeats 1000000 in
theorem lencode_any (l : List Rc) (a : Option Addr) (c : Nat) (w : World) (hsl : SlR w a l) (hsm : ∀ k, k < l.length → Small (rc l k)) (hl : l.length ≤ 200000) :
    Calls Tryz.prog 42 #[.slice a l.length c] w fun e w' => e = .returned (allV l) ∧ Below w.heap.size w w' := by
  have HSl := hide hsl
  have HM := hide hsm
  have B0 : Hid (Bld (w.alloc (.cells #[.pointer none, .slice none 0 0] 136)) w.heap.size w.heap.size ByteArray.empty ∧ Below w.heap.size w (w.alloc (.cells #[.pointer none, .slice none 0 0] 136))) := hide ⟨Lib.fresh_isBuilder 136 5 w, (Below.refl _ w).alloc (Nat.le_refl _) _⟩
  clear hsl hsm
  go_enter Tryz.func42, Tryz.ntmps42
  go_wp2_with fail
  go_loopw [11] (fun iv wr => ∃ (k : Nat), iv = .int .i64 k ∧ k ≤ l.length ∧ Hid (badOf (l.take k) = 0) ∧ Hid (Bld wr w.heap.size w.heap.size (catT (l.take k)) ∧ Below w.heap.size w wr)) (fun iv _ => l.length - (intOf iv).toNat)
  case atStart => exact ⟨0, rfl, Nat.zero_le _, hide rfl, B0⟩
  case round =>
    clear B0
    obtain ⟨k, rfl, hkl, HB, Hb⟩ := hrel
    by_cases hlt : k < l.length
    · obtain ⟨ga, o, rfl, s6⟩ := unhide HSl k hlt
      have s7 := s6.below (unhide Hb).2 s6.lt
      obtain ⟨r, hr⟩ : ∃ r, r = rc l k := ⟨_, rfl⟩
      have hsm := unhide HM k hlt
      have hbt := badOf_take hlt (unhide HB)
      have hct := catT_take hlt
      have hbf := fun h => badOf_found hlt (unhide HB) h
      have hts := catT_size (l.take k) (unhide HB)
      rw [List.length_take, Nat.min_eq_left hkl] at hts
      rw [← hr] at s7 hsm hbt hct hbf
      obtain ⟨_, x0, x1, x2, x3, x4, x5⟩ := s7
      have C1 : Hid (∀ W, Calls Tryz.prog 52 #[.agg #[.int .i64 r.k, .int .i64 r.q, .int .i64 r.t, .string r.s, .string r.h, .string r.d]] W fun e w' => e = .returned (encV r.k r.q r.t r.s r.h r.d) ∧ Below W.heap.size W w') := hide (fun W => encode_any r.k r.q r.t r.s r.h r.d W hsm.s hsm.h hsm.d)
      obtain ⟨E, hE⟩ : ∃ E, chkR r = E := ⟨_, rfl⟩
      have B0 : Hid (Bld (wr.alloc (recO2 r)) w.heap.size w.heap.size (catT (l.take k)) ∧ Below w.heap.size w (wr.alloc (recO2 r))) := hide ⟨(unhide Hb).1.alloc' _, bstep (unhide Hb).2 ((Below.refl _ _).alloc (Nat.le_refl _) _)⟩
      unfold recO2 at B0
      by_cases h0 : E = 0
      · have hc : chkR r = 0 := by rw [hE]; exact h0
        rw [enc_good hc] at C1
        have HB2 : Hid (badOf (l.take (k + 1)) = 0) := hide (by rw [hbt]; exact hc)
        have hcs := codT_size hc
        have PW : Hid (∀ W, Bld W w.heap.size w.heap.size (catT (l.take k)) → Below w.heap.size w W → Calls Tryz.prog 76 #[.pointer (some ⟨w.heap.size, 0, none⟩), .string (codT r)] W fun e w' => e = .returned (.tuple #[.int .i64 (codT r).size, .nilIface]) ∧ Bld w' w.heap.size w.heap.size (catT (l.take (k + 1))) ∧ Below w.heap.size W w') := hide (fun W hW hb => by
          rw [hct]
          exact bwrite_any _ _ _ _ W hW (by omega) hb.size)
        clear hE h0 hc hbt hct hbf hr HB s6 Hb hts
        go_wp2_with fail
        refine (unhide C1 _).mono ?_
        rintro e w2 ⟨rfl, b2⟩
        have B2 := hide (And.intro ((unhide B0).1.below' b2) (bstep (unhide B0).2 b2))
        have PW2 := hide (unhide PW w2 (unhide B2).1 (unhide B2).2)
        clear b2 B0 x0 x1 x2 x3 x4 x5 PW
        go_wp2_with fail
        refine (unhide PW2).mono ?_
        rintro e w3 ⟨rfl, h3, b3⟩
        have B3 := hide (And.intro h3 ((unhide B2).2.trans b3))
        clear h3 b3 B2 PW2
        go_wp2_with fail
        refine ⟨⟨k + 1, by go_num, by omega, HB2, B3⟩, ?_⟩
        simp [intOf]; omega
      · have HRes : Hid (allV l = .tuple #[.string ⟨#[]⟩, .int .i64 E]) := hide (by
          have h1 := (hbf (by rw [hE]; exact h0)).trans hE
          unfold allV
          rw [h1, if_neg h0])
        rw [enc_bad hE h0] at C1
        have h1 : (E != 0) = true := by simpa using h0
        clear hE hbt hct hbf hr HB s6 Hb
        go_wp2_with fail
        refine (unhide C1 _).mono ?_
        rintro e w1 ⟨rfl, b1⟩
        have E1 := hide (bstep (unhide B0).2 b1)
        clear b1 x0 x1 x2 x3 x4 x5 B0
        go_wp2_with fail
        go_ret2
        rw [unhide HRes]
        exact ⟨rfl, unhide E1⟩
    · obtain rfl : k = l.length := by omega
      have HV : Hid (allV l = .tuple #[.string (catT l), .int .i64 0]) := hide (by
        have := unhide HB
        rw [List.take_length] at this
        unfold allV
        rw [if_pos this])
      have h3 := unhide Hb
      rw [List.take_length] at h3
      have PS := hide (bstring_any _ _ _ _ h3.1 h3.2.size)
      have B3 := hide h3.2
      clear h3 Hb HB
      go_wp2_with fail
      refine (unhide PS).mono ?_
      rintro e w4 ⟨rfl, b4⟩
      have B4 := hide ((unhide B3).trans b4)
      clear b4 PS B3
      go_wp2_with fail
      go_ret2
      rw [unhide HV]
      exact ⟨rfl, unhide B4⟩
end Go.Proofs.YtmccpkpeimejhagGreatDoor.Dk

namespace Go.Proofs.YtmccpkpeimejhagGreatDoor.Dk
open Go.RowKit

/-- the bytes of records -/
def catL : List Rc → List UInt8
  | [] => []
  | r :: l => Pk.cod r.pk ++ catL l
theorem catT_list : ∀ l : List Rc, (catT l).data.toList = catL l
  | [] => rfl
  | r :: l => by rw [catT, catL, ByteArray.data_append, Array.toList_append, catT_list l, codT, bt_list]
theorem catT_len (l : List Rc) : (catT l).size = (catL l).length := by
  rw [← catT_list]
  simp
theorem catL_append : ∀ a b : List Rc, catL (a ++ b) = catL a ++ catL b
  | [], _ => rfl
  | r :: a, b => by rw [List.cons_append, catL, catL, catL_append a b, List.append_assoc]
def Good (l : List Rc) : Prop := ∀ r ∈ l, chkR r = 0
theorem scan_front : ∀ (l : List Rc) (c f : Nat), Good l → c ≤ (catL l).length → c ≤ f → ∃ k, k ≤ l.length ∧ (catL (l.take k)).length ≤ c ∧ (scan f ((catL l).take c)).1 = l.take k ∧ ((c = (catL (l.take k)).length ∧ (scan f ((catL l).take c)).2 = none) ∨ (scan f ((catL l).take c)).2 = some (catL (l.take k)).length) ∧ ∀ j, j ≤ l.length → (catL (l.take j)).length ≤ c → j ≤ k
  | [], c, f, _, hc, _ => by
    have : c = 0 := by simpa [catL] using hc
    subst this
    refine ⟨0, Nat.le_refl _, Nat.le_refl _, ?_, .inl ⟨rfl, ?_⟩, fun j hj _ => hj⟩
    · simp [catL, scan_nil]
    · simp [catL, scan_nil]
  | r :: l, c, f, hg, hc, hf => by
    have hr : chkR r = 0 := hg r (by simp)
    have hp := cod_pos r.pk
    by_cases hlt : c < (Pk.cod r.pk).length
    · have ht : (catL (r :: l)).take c = (Pk.cod r.pk).take c := by rw [catL, List.take_append_of_le_length (by omega)]
      rw [ht]
      have hj : ∀ j, j ≤ (r :: l).length → (catL ((r :: l).take j)).length ≤ c → j ≤ 0 := fun j _ h => by
        cases j with
        | zero => exact Nat.le_refl _
        | succ j => rw [List.take_succ_cons, catL, List.length_append] at h; omega
      by_cases h0 : c = 0
      · subst h0
        refine ⟨0, Nat.zero_le _, Nat.le_refl _, ?_, .inl ⟨rfl, ?_⟩, hj⟩
        · simp [scan_nil]
        · simp [scan_nil]
      · have hd := Pk.dec_front (r := r.pk) (i := c) hr hlt
        have hl : ((Pk.cod r.pk).take c).length ≠ 0 := by rw [List.length_take]; omega
        cases f with
        | zero => omega
        | succ f =>
          rw [scan_bad hl (by rw [hd]; simp)]
          exact ⟨0, Nat.zero_le _, Nat.zero_le _, rfl, .inr rfl, hj⟩
    · have ht : (catL (r :: l)).take c = Pk.cod r.pk ++ (catL l).take (c - (Pk.cod r.pk).length) := by
        rw [catL, List.take_append]
        rw [List.take_of_length_le (by omega)]
      have hd := Pk.dec_cod (r := r.pk) hr ((catL l).take (c - (Pk.cod r.pk).length))
      have hl : (Pk.cod r.pk ++ (catL l).take (c - (Pk.cod r.pk).length)).length ≠ 0 := by rw [List.length_append]; omega
      have hc' : c - (Pk.cod r.pk).length ≤ (catL l).length := by rw [catL, List.length_append] at hc; omega
      cases f with
      | zero => omega
      | succ f =>
        obtain ⟨k, h1, h2, h3, h4, h5⟩ := scan_front l (c - (Pk.cod r.pk).length) f (fun x hx => hg x (by simp [hx])) hc' (by omega)
        rw [ht, scan_ok hl (by rw [hd]), hd]
        simp only [List.drop_left']
        rw [pk_rcOf]
        refine ⟨k + 1, by simp; omega, ?_, ?_, ?_, ?_⟩
        · rw [List.take_succ_cons, catL, List.length_append]; omega
        · rw [List.take_succ_cons, h3]
        · rw [List.take_succ_cons, catL, List.length_append]
          rcases h4 with ⟨h4, h6⟩ | h4
          · exact .inl ⟨by omega, by rw [h6]; rfl⟩
          · right
            rw [h4]
            simp [Nat.add_comm]
        · intro j hj h
          cases j with
          | zero => omega
          | succ j =>
            rw [List.take_succ_cons, catL, List.length_append] at h
            have := h5 j (by simpa using hj) (by omega)
            omega
theorem scan_whole {l : List Rc} (h : Good l) : scanT (catT l) = (l, none) := by
  unfold scanT
  rw [catT_list]
  obtain ⟨k, h1, h2, h3, h4, h5⟩ := scan_front l (catL l).length (catL l).length h (Nat.le_refl _) (Nat.le_refl _)
  have hk : k = l.length := by
    have := h5 l.length (Nat.le_refl _) (by rw [List.take_length]; exact Nat.le_refl _)
    omega
  rw [List.take_length] at h3 h4
  rw [hk, List.take_length] at h3 h4
  rcases h4 with ⟨_, h4⟩ | h4
  · exact Prod.ext h3 h4
  · have hs := scan_le _ _ _ h4
    exfalso
    have : ∀ (f : Nat) (x : List UInt8) (j : Nat), (scan f x).2 = some j → j < x.length := by
      intro f
      induction f with
      | zero => intro x j hj; cases hj
      | succ f ih =>
        intro x j hj
        by_cases h0 : x.length = 0
        · rw [scan, if_pos h0] at hj; cases hj
        · by_cases hd : (Pk.dec x).2.2 = 0
          · rw [scan_ok h0 hd] at hj
            cases hq : (scan f (x.drop (Pk.dec x).2.1)).2 with
            | none => rw [hq] at hj; cases hj
            | some i =>
              rw [hq] at hj
              have := ih _ i hq
              rw [List.length_drop] at this
              simp at hj
              omega
          · rw [scan_bad h0 hd] at hj
            cases hj
            omega
    have := this _ _ _ h4
    omega
/-- files that are read whole -/
def Whole : List Pap → List Rc → Prop
  | [], A => A = []
  | e :: r, A => ∃ rs A', scanT e.text = (rs, none) ∧ A = rs ++ A' ∧ Whole r A'
theorem whole_open : ∀ {pre : List Pap} {A : List Rc} (es : List Pap), Whole pre A → openL (pre ++ es) = (A ++ (openL es).1, pre ++ (openL es).2)
  | [], A, es, h => by
    have : A = [] := h
    subst this
    simp
  | e :: r, A, es, h => by
    obtain ⟨rs, A', h1, rfl, h3⟩ := h
    rw [List.cons_append, openL_whole h1, whole_open es h3]
    simp
theorem whole_snoc : ∀ {pre : List Pap} {A rs : List Rc} {e : Pap}, Whole pre A → scanT e.text = (rs, none) → Whole (pre ++ [e]) (A ++ rs)
  | [], A, rs, e, h, hs => by
    have : A = [] := h
    subst this
    exact ⟨rs, [], hs, by simp, rfl⟩
  | x :: r, A, rs, e, h, hs => by
    obtain ⟨r1, A', h1, rfl, h3⟩ := h
    exact ⟨r1, A' ++ rs, h1, by simp, whole_snoc h3 hs⟩
/-- a log on its way: what was appended, and how many of it were there at the last Sync -/
def Logd (es : List Pap) (all : List Rc) (n : Nat) : Prop := ∃ pre e A L j, es = pre ++ [e] ∧ all = A ++ L ∧ Whole pre A ∧ (∀ x ∈ pre, x.sure = (x.text.size : Int)) ∧ e.text = catT L ∧ Good L ∧ j ≤ L.length ∧ e.sure = ((catT (L.take j)).size : Int) ∧ n ≤ A.length + j
theorem last_ix {pre : List Pap} {e : Pap} (h : Rise (pre ++ [e])) : ix (pre ++ [e]) e.n = pre.length ∧ pa (pre ++ [e]) pre.length = e ∧ lastP (pre ++ [e]) = e := by
  have hp : pa (pre ++ [e]) pre.length = e := by unfold pa; simp
  refine ⟨?_, hp, ?_⟩
  · refine ix_hit (by simp) (by rw [hp]) (fun j hj => ?_)
    rw [beq_eq_false_iff_ne]
    have := rise_pa h hj (by simp)
    rw [hp] at this
    omega
  · unfold lastP
    rw [List.length_append, List.length_singleton, Nat.add_sub_cancel]
    exact hp
theorem set_last {pre : List Pap} {e x : Pap} : (pre ++ [e]).set pre.length x = pre ++ [x] := by simp
theorem sync_last {pre : List Pap} {e : Pap} (h : Rise (pre ++ [e])) : syncL (pre ++ [e]) e.n = pre ++ [syncP e] := by
  obtain ⟨h1, h2, _⟩ := last_ix h
  unfold syncL
  rw [h1, if_pos (by simp), h2, set_last]
  rfl
theorem app_last {pre : List Pap} {e : Pap} {m : Int} {s : ByteArray} (h : Rise (pre ++ [e])) (h0 : appE (pre ++ [e]) m e.n s = 0) : appL (pre ++ [e]) m e.n s = pre ++ [addP e s] := by
  obtain ⟨h1, h2, _⟩ := last_ix h
  obtain ⟨hI, hf⟩ := app_ok.1 h0
  rw [(app_old hI hf (by rw [h1]; simp)).2, h1, h2, set_last]
theorem app_next {pre : List Pap} {e : Pap} {m : Int} {s : ByteArray} (h : Rise (pre ++ [e])) (h0 : appE (pre ++ [e]) m (e.n + 1) s = 0) : appL (pre ++ [e]) m (e.n + 1) s = (pre ++ [e]) ++ [⟨e.n + 1, 0, s⟩] := by
  obtain ⟨h1, h2, _⟩ := last_ix h
  obtain ⟨hI, hf⟩ := app_ok.1 h0
  have hle : ∀ k, k < (pre ++ [e]).length → (pa (pre ++ [e]) k).n < e.n + 1 := fun k hk => by
    by_cases hk2 : k < pre.length
    · have := rise_pa h hk2 (by simp)
      rw [h2] at this
      omega
    · have : k = pre.length := by simp at hk; omega
      rw [this, h2]; omega
  have hno : ¬ ix (pre ++ [e]) (e.n + 1) < (pre ++ [e]).length := fun z => by
    have h3 := ix_at z
    have := hle _ z
    omega
  have hlow : low (pre ++ [e]) (e.n + 1) = (pre ++ [e]).length := by
    have := low_le (pre ++ [e]) (e.n + 1)
    rcases Nat.lt_or_ge (low (pre ++ [e]) (e.n + 1)) (pre ++ [e]).length with z | z
    · exact absurd (hle _ z) (low_at z)
    · omega
  rw [(app_new hI hf hno).2, hlow]
  unfold insL
  rw [List.take_length, List.drop_length]
theorem catT_snoc (L : List Rc) (r : Rc) : catT L ++ codT r = catT (L ++ [r]) := by
  have : ∀ a b : List Rc, catT (a ++ b) = catT a ++ catT b := by
    intro a b
    apply ByteArray.ext
    apply Array.ext'
    have h1 := catT_list (a ++ b)
    have h2 := catT_list a
    have h3 := catT_list b
    rw [catL_append] at h1
    rw [ByteArray.data_append, Array.toList_append, h1, h2, h3]
  rw [this]
  simp [catT]
theorem Logd.append {m size : Int} {es : List Pap} {all : List Rc} {n : Nat} (h : Logd es all n) (ht : Tidy m es) (r : Rc) : ((logR es m size r).1 = 0 → Logd (logR es m size r).2 (all ++ [r]) n) ∧ ((logR es m size r).1 ≠ 0 → Logd (logR es m size r).2 all n) := by
  obtain ⟨pre, e, A, L, j, rfl, rfl, hw, hs, he, hg, hj, hsu, hn⟩ := h
  have hr := ht.rise
  obtain ⟨h1, h2, h3⟩ := last_ix hr
  unfold logR
  by_cases hc : chkR r ≠ 0
  · rw [if_pos hc]
    exact ⟨fun z => absurd z hc, fun _ => ⟨pre, e, A, L, j, rfl, rfl, hw, hs, he, hg, hj, hsu, hn⟩⟩
  · have hc0 : chkR r = 0 := Classical.byContradiction hc
    rw [if_neg hc, if_neg (by simp), h3]
    have hes : syncP e = ⟨e.n, (e.text.size : Int), e.text⟩ := rfl
    have hfull : ∀ n', n' ≤ A.length + j → Logd (pre ++ [syncP e]) (A ++ L) n' := fun n' hn' => ⟨pre, syncP e, A, L, L.length, rfl, rfl, hw, hs, he, hg, Nat.le_refl _, by rw [List.take_length, ← he]; rfl, by omega⟩
    split
    · rw [sync_last hr]
      have hr2 : Rise (pre ++ [syncP e]) := by
        rw [rise_num]
        have : numL (pre ++ [syncP e]) = numL (pre ++ [e]) := by simp [numL, syncP]
        rw [this, ← rise_num]
        exact hr
      refine ⟨fun z => ?_, fun z => ?_⟩
      · have hz : appE (pre ++ [syncP e]) m ((syncP e).n + 1) (codT r) = 0 := z
        have := app_next hr2 hz
        rw [show (e.n + 1) = (syncP e).n + 1 from rfl, this]
        refine ⟨pre ++ [syncP e], ⟨e.n + 1, 0, codT r⟩, A ++ L, [r], 0, rfl, by simp, whole_snoc hw (by rw [show (syncP e).text = e.text from rfl, he]; exact scan_whole hg), ?_, ?_, ?_, Nat.zero_le _, ?_, by simp; omega⟩
        · intro x hx
          rcases List.mem_append.1 hx with hx | hx
          · exact hs x hx
          · have : x = syncP e := by simpa using hx
            rw [this]; rfl
        · show codT r = catT [r]
          simp [catT]
        · intro x hx
          have : x = r := by simpa using hx
          rw [this]; exact hc0
        · simp [catT]
      · rw [app_not z]
        exact hfull n hn
    · refine ⟨fun z => ?_, fun z => ?_⟩
      · rw [app_last hr z]
        refine ⟨pre, addP e (codT r), A, L ++ [r], j, rfl, by simp, hw, hs, ?_, ?_, by simp; omega, ?_, hn⟩
        · show e.text ++ codT r = _
          rw [he, catT_snoc]
        · intro x hx
          rcases List.mem_append.1 hx with hx | hx
          · exact hg x hx
          · have : x = r := by simpa using hx
            rw [this]; exact hc0
        · rw [List.take_append_of_le_length hj]
          exact hsu
      · rw [app_not z]
        exact ⟨pre, e, A, L, j, rfl, rfl, hw, hs, he, hg, hj, hsu, hn⟩
theorem Logd.appendp {m size : Int} {es : List Pap} {all : List Rc} {n : Nat} (h : Logd es all n) (ht : Tidy m es) (r : Rc) : ((logP es m size r).1 = 0 → Logd (logP es m size r).2 (all ++ [r]) n) ∧ ((logP es m size r).1 ≠ 0 → Logd (logP es m size r).2 all n) := by
  by_cases h0 : (logR es m size r).1 = 0
  · rw [logP_ok h0]
    exact h.append ht r
  · rw [logP_not h0]
    exact ⟨fun z => absurd z h0, fun _ => h⟩
theorem Logd.sync {m : Int} {es : List Pap} {all : List Rc} {n : Nat} (h : Logd es all n) (ht : Tidy m es) : Logd (lsyncL es) all all.length := by
  obtain ⟨pre, e, A, L, j, rfl, rfl, hw, hs, he, hg, hj, hsu, hn⟩ := h
  have hr := ht.rise
  unfold lsyncL
  rw [if_neg (by simp), (last_ix hr).2.2, sync_last hr]
  exact ⟨pre, syncP e, A, L, L.length, rfl, rfl, hw, hs, he, hg, Nat.le_refl _, by rw [List.take_length, ← he]; rfl, by simp⟩
theorem Logd.len {es : List Pap} {all : List Rc} {n : Nat} (h : Logd es all n) : n ≤ all.length := by
  obtain ⟨pre, e, A, L, j, rfl, rfl, _, _, _, _, hj, _, hn⟩ := h
  simp; omega
/-- behind a stop: a front, twice the same -/
theorem Logd.front {es : List Pap} {all : List Rc} {n : Nat} (h : Logd es all n) (keep : Int) : ∃ k, n ≤ k ∧ k ≤ all.length ∧ (openL (es.map (stopP keep))).1 = all.take k ∧ (openL (openL (es.map (stopP keep))).2).1 = all.take k := by
  obtain ⟨pre, e, A, L, j, rfl, rfl, hw, hs, he, hg, hj, hsu, hn⟩ := h
  have hpre : pre.map (stopP keep) = pre := by
    conv => rhs; rw [← List.map_id pre]
    refine List.map_congr_left (fun x hx => ?_)
    have hx2 := hs x hx
    have hat : stopAt x keep = x.text.size := by unfold stopAt; rw [hx2]; omega
    unfold stopP
    rw [hat]
    have : x.text.extract 0 x.text.size = x.text := by
      apply ByteArray.ext
      simp
    rw [this]
    cases x
    simp only at hx2
    rw [hx2]
    rfl
  have hcl : stopAt e keep ≤ (catL L).length := by rw [← catT_len, ← he]; exact stop_le e keep
  have hlow : (catL (L.take j)).length ≤ stopAt e keep := by
    have h1 : (catL (L.take j)).length ≤ (catL L).length := by
      conv => rhs; rw [← List.take_append_drop j L]
      rw [catL_append, List.length_append]
      omega
    have h2 : e.text.size = (catL L).length := by rw [he, catT_len]
    unfold stopAt
    rw [hsu, catT_len, h2]
    omega
  have htx : ∀ c, c ≤ (catL L).length → ((catT L).extract 0 c).data.toList = (catL L).take c := fun c _ => by
    rw [ByteArray.data_extract, Array.toList_extract, catT_list]
    simp
  obtain ⟨k, h1, h2, h3, h4, h5⟩ := scan_front L (stopAt e keep) (stopAt e keep) hg hcl (Nat.le_refl _)
  have hjk := h5 j hj hlow
  have hsc : scanT (stopP keep e).text = ((scan (stopAt e keep) ((catL L).take (stopAt e keep))).1, (scan (stopAt e keep) ((catL L).take (stopAt e keep))).2) := by
    unfold scanT stopP
    simp only
    rw [he, htx _ hcl, List.length_take, Nat.min_eq_left hcl]
  rw [List.map_append, hpre]
  have hgk : Good (L.take k) := fun x hx => hg x (List.mem_of_mem_take hx)
  have hres : (A ++ L).take (A.length + k) = A ++ L.take k := by
    rw [List.take_append, List.take_of_length_le (by omega), Nat.add_sub_cancel_left]
  refine ⟨A.length + k, by omega, by simp; omega, ?_, ?_⟩
  · rw [whole_open _ hw, hres]
    simp only [List.map_cons, List.map_nil]
    rcases h4 with ⟨_, h4⟩ | h4
    · rw [openL_whole (by rw [hsc, h3, h4])]
      simp [openL]
    · rw [openL_cut (by rw [hsc, h3, h4])]
  · rw [whole_open _ hw]
    simp only [List.map_cons, List.map_nil]
    rcases h4 with ⟨h6, h4⟩ | h4
    · rw [openL_whole (by rw [hsc, h3, h4])]
      simp only [openL]
      rw [whole_open _ hw, openL_whole (by rw [hsc, h3, h4]), hres]
      simp [openL]
    · rw [openL_cut (by rw [hsc, h3, h4])]
      have hcut : (cutP (stopP keep e) (catL (L.take k)).length).text = catT (L.take k) := by
        apply ByteArray.ext
        apply Array.ext'
        unfold cutP stopP
        simp only
        rw [ByteArray.data_extract, Array.toList_extract, he, htx _ hcl, catT_list]
        simp only [List.extract_eq_take_drop, List.drop_zero, Nat.sub_zero]
        rw [List.take_take, Nat.min_eq_left h2]
        have hsplit : catL L = catL (L.take k) ++ catL (L.drop k) := by rw [← catL_append, List.take_append_drop]
        rw [hsplit, List.take_left]
      rw [whole_open _ hw, openL_whole (by rw [hcut]; exact scan_whole hgk), hres]
      simp [openL]
end Go.Proofs.YtmccpkpeimejhagGreatDoor.Dk

namespace Go.Proofs.YtmccpkpeimejhagGreatDoor.Dk
open Go.RowKit

/-- the files behind the append and the Sync of what is rewritten -/
theorem rew_app {m : Int} {es : List Pap} {t : ByteArray} (ht : Tidy m es) (h0 : appE es m (nextN es) t = 0) : appL es m (nextN es) t = es ++ [⟨nextN es, 0, t⟩] := by
  by_cases hz : es.length = 0
  · obtain rfl : es = [] := List.eq_nil_of_length_eq_zero hz
    obtain ⟨hI, hf⟩ := app_ok.1 h0
    rw [(app_new hI hf (by simp)).2]
    simp [insL]
  · obtain ⟨pre, e, rfl⟩ : ∃ pre e, es = pre ++ [e] := ⟨es.dropLast, es.getLast (by intro h; rw [h] at hz; simp at hz), (List.dropLast_concat_getLast _).symm⟩
    have hn : nextN (pre ++ [e]) = e.n + 1 := by
      unfold nextN
      rw [if_neg hz, (last_ix ht.rise).2.2]
    rw [hn] at h0 ⊢
    exact app_next ht.rise h0
theorem rew_sync {m : Int} {es : List Pap} {n : Int} {t : ByteArray} (ht : Tidy m (es ++ [⟨n, 0, t⟩])) : syncL (es ++ [⟨n, 0, t⟩]) n = es ++ [⟨n, (t.size : Int), t⟩] := by
  have := sync_last (pre := es) (e := ⟨n, 0, t⟩) ht.rise
  simpa [syncP] using this
/-- all files ahead of the new one are removed -/
theorem rew_rems {m : Int} {es : List Pap} {x : Pap} (ht : Tidy m (es ++ [x])) : (numL es).reverse.foldl remL (es ++ [x]) = [x] := by
  have h := rem_rev [x] es.length [] es rfl (by rw [List.nil_append]; exact ht.rise)
  rw [List.nil_append, List.nil_append] at h
  exact h
theorem allV_bad {l : List Rc} {E : Int} (h : badOf l = E) (h0 : E ≠ 0) : allV l = .tuple #[.string ⟨#[]⟩, .int .i64 E] := by unfold allV; rw [h, if_neg h0]
theorem allV_good {l : List Rc} (h : badOf l = 0) : allV l = .tuple #[.string (catT l), .int .i64 0] := by unfold allV; rw [if_pos h]
section
variable {Has : World → Nat → Nat → (Nat → Prop) → Int → List Pap → Prop} {w wr : World} {B q g : Nat} {size : Int} {F : Nat → Prop} {m : Int} {es : List Pap} {Cs : Nat → Prop}
theorem Run.blocks (H : Works Has) (HS : Lists Has) (h : Run Has Cs w wr B q F m es) (ht : Tidy m es) (hm : m ≤ 65536) (hB : B ≤ w.heap.size) (c0 : wr.cell? ⟨g, 0, none⟩ = some (.pointer (some ⟨q, 0, none⟩))) :
    Calls Tryz.prog 43 #[.pointer (some ⟨g, 0, none⟩)] wr fun e w' => ∃ a c, e = .returned (.slice a es.length c) ∧ (es.length ≤ c ∧ c ≤ maxLen) ∧ SlI w' a (numL es) ∧ Run Has (fun k => Cs k ∨ ∃ z, a = some z ∧ z.block = k) w w' B q F m es ∧ Kept Cs wr w' := by
  have hr := h.room
  obtain ⟨F', h1, _⟩ := id h
  refine (lblocks_new HS h1 ht hm (Nat.le_trans hB hr) c0).mono ?_
  rintro e w' ⟨a, c, he, hc, hs, ha, hb⟩
  refine ⟨a, c, he, hc, hs, h.mine H hb (fun k hk => ?_), (h.below H hb).2⟩
  rcases hk with y | ⟨z, hz, rfl⟩
  · exact .inl y
  · exact .inr (ha z hz)
theorem Run.removed (H : Works Has) (HS : Lists Has) (h : Run Has Cs w wr B q F m es) (a : Option Addr) (zs : List Int) (cap : Nat) (hz : ∀ k, k < zs.length → wf (nth zs k)) (hlen : zs.length ≤ 1000) (hs : SlI wr a zs) (ha : ∀ z, a = some z → Cs z.block) (ht : Tidy m es) (hm : m ≤ 65536) (hB : B ≤ w.heap.size) :
    Calls Tryz.prog 48 #[.pointer (some ⟨q, 0, none⟩), .slice a zs.length cap] wr fun e w' => e = .returned (.tuple #[]) ∧ Run Has Cs w w' B q F m (zs.reverse.foldl remL es) ∧ Kept Cs wr w' := by
  have hr := h.room
  refine h.didc (Q := fun e _ => e = .returned (.tuple #[])) (es' := zs.reverse.foldl remL es) (fun F' hF hC => ?_)
  refine (lremove_any H HS a zs cap hz hlen hs (fun z hz => hC _ (ha z hz)) hF ht hm (Nat.le_trans hB hr)).mono ?_
  rintro e w' ⟨h1, h2, h3⟩
  exact ⟨h1, F', h2, h3, fun _ hk => .inl hk⟩

set_option maxRecDepth 100000 in
set_option maxHeartbeats 1000000 in
theorem lrewrite_has (H : More Has) (HS : Lists Has) (l : List Rc) (a : Option Addr) (c : Nat) (hsl : SlR w a l) (hsm : ∀ k, k < l.length → Small (rc l k)) (hl : l.length ≤ 200000) (h : Has w B q F m es) (ht : Tidy m es) (hm : m ≤ 65536) (hB : B ≤ w.heap.size) (c0 : w.cell? ⟨g, 0, none⟩ = some (.pointer (some ⟨q, 0, none⟩))) (c1 : w.cell? ⟨g, 1, none⟩ = some (.int .i64 size)) (hg : g < w.heap.size ∧ ¬ F g) :
    Calls Tryz.prog 23 #[.pointer (some ⟨g, 0, none⟩), .slice a l.length c] w fun e w' => e = .returned (.int .i64 (rewR es m size l).1) ∧ Did Has w w' B q F m (rewR es m size l).2 := by
  have hfew := ht.few
  have R0 := Run.start (Cs := fun k => k = g) h (fun k hk => by subst hk; exact hg)
  have U0 := hide R0
  have HT := hide ht
  have PE := hide (lencode_any l a c w hsl hsm hl)
  clear h ht R0 hsl hsm
  obtain ⟨E, hE⟩ : ∃ E, badOf l = E := ⟨_, rfl⟩
  by_cases h0 : E = 0
  · rw [h0] at hE
    have hts := catT_size l hE
    rw [allV_good hE] at PE
    have HB0 := hide hE
    obtain ⟨t, ht0⟩ : ∃ t, t = catT l := ⟨_, rfl⟩
    rw [← ht0] at PE hts
    have HE0 := hide ht0
    clear h0 hE ht0
    go_enter Tryz.func23, Tryz.ntmps23
    go_wp2_with fail
    refine (unhide PE).mono ?_
    rintro e w1 ⟨rfl, b1⟩
    obtain ⟨r1, k1⟩ := (unhide U0).below H.works b1
    have d0 := (k1.cell (C := g) (j := 0) rfl).trans c0
    have d1 := (k1.cell (C := g) (j := 1) rfl).trans c1
    have E0 := hide r1.done
    have PL := hide (r1.blocks (g := g) H.works HS (unhide HT) hm hB d0)
    clear b1 r1 k1 c0 c1 U0 PE
    by_cases hlarge : 1 < l.length ∧ size < (t.size : Int)
    · have HRes : Hid (rewR es m size l = (8, es)) := hide (rewR_large (unhide HB0) (by rw [← unhide HE0]; exact hlarge))
      have hg1 : (1 : Int) < (l.length : Int) := by omega
      have hg2 := hlarge.2
      clear hlarge PL
      go_wp2_with fail
      go_ret
      rw [unhide HRes]
      exact ⟨rfl, unhide E0⟩
    · have HL : Hid (¬ (1 < l.length ∧ size < (t.size : Int))) := hide hlarge
      have HN := hide (next_lastN es)
      have hlast : -1 ≤ lastN es ∧ lastN es ≤ 1099511627776 := by
        by_cases hz : es.length = 0
        · rw [lastN_none hz]; omega
        · obtain ⟨k, hk1⟩ : ∃ k, k + 1 = es.length := ⟨es.length - 1, by omega⟩
          rw [lastN_some hk1]
          have hnl := (unhide HT).each _ (pa_mem (show k < es.length by omega))
          have hn1 : 0 ≤ (pa es k).n ∧ (pa es k).n ≤ 1099511627776 := by simpa [inI] using hnl.1
          omega
      have hw : IntKind.i64.wrap (lastN es + 1) = nextN es := by rw [unhide HN, IntKind.wrap_i64]; omega
      have HWz : Hid (∀ k, k < (numL es).length → wf (nth (numL es) k)) := hide (fun k hk => by
        rw [num_length] at hk
        rw [num_nth hk]
        exact wf_of ((unhide HT).each _ (pa_mem hk)).1)
      have hcase : ((1 : Int) < (l.length : Int) ∧ decide (size < (t.size : Int)) = false) ∨ decide ((1 : Int) < (l.length : Int)) = false := by
        by_cases hg' : 1 < l.length
        · exact .inl ⟨by omega, decide_eq_false (by omega)⟩
        · exact .inr (decide_eq_false (by omega))
      have hAE : ∃ E8, appE es m (nextN es) t = E8 := ⟨_, rfl⟩
      obtain ⟨E8, hE8⟩ := hAE
      have HOK : Hid (E8 = 0 → appL es m (nextN es) t = es ++ [⟨nextN es, 0, t⟩] ∧ Tidy m (es ++ [⟨nextN es, 0, t⟩]) ∧ wf (nextN es) ∧ rewR es m size l = (0, [⟨nextN es, (t.size : Int), t⟩])) := hide (fun z => by
        rw [z] at hE8
        have e1 := rew_app (t := t) (unhide HT) hE8
        refine ⟨e1, by rw [← e1]; exact (unhide HT).app (nextN es) t, wf_of (app_ok.1 hE8).1, ?_⟩
        have := rewR_ok (es := es) (m := m) (size := size) (unhide HB0) (by rw [← unhide HE0]; exact unhide HL) (by rw [← unhide HE0]; exact hE8)
        rw [← unhide HE0] at this
        exact this)
      have HNO : Hid (E8 ≠ 0 → appL es m (nextN es) t = es ∧ rewR es m size l = (E8, es)) := hide (fun z => by
        rw [← hE8] at z
        refine ⟨app_not z, ?_⟩
        have := rewR_full (es := es) (m := m) (size := size) (unhide HB0) (by rw [← unhide HE0]; exact unhide HL) (by rw [← unhide HE0]; exact z)
        rw [← unhide HE0, hE8] at this
        exact this)
      have HE8 := hide hE8
      clear hlarge E0 hlast hE8
      rcases hcase with ⟨hg1, hg2⟩ | hg1
      all_goals go_wp2_with fail
      all_goals refine (unhide PL).mono ?_
      all_goals rintro e w2 ⟨a2, c2, rfl, _, s2, r2, k2⟩
      all_goals have f0 := (k2.cell (C := g) (j := 0) rfl).trans d0
      all_goals have S2 := hide s2
      all_goals have PN := hide (r2.looks H.works (fun F' hF => llast_any (g := g) HS hF (unhide HT) hm (Nat.le_trans hB r2.room) f0))
      all_goals clear PL k2 d0 d1 s2 r2
      all_goals go_wp2_with fail
      all_goals refine (unhide PN).mono ?_
      all_goals rintro e w3 ⟨rfl, r3, k3⟩
      all_goals have g0 := (k3.cell (C := g) (j := 0) (.inl rfl)).trans f0
      all_goals have S3 := hide (k3.nums (unhide S2) (fun z hz => .inr ⟨z, hz, rfl⟩))
      all_goals have PF := hide (lfiles_any g0)
      all_goals have PA := hide (r3.did (fun F' hF => H.works.append (nextN es) t hF (unhide HT) hm (by omega) (Nat.le_trans hB r3.room)))
      all_goals rw [unhide HE8] at PA
      all_goals clear PN k3 f0 S2 r3
      all_goals go_wp2_with fail
      all_goals refine (unhide PF).mono ?_
      all_goals rintro e w4 ⟨rfl, rfl⟩
      all_goals go_wp2_with fail
      all_goals refine (unhide PA).mono ?_
      all_goals rintro e w5 ⟨rfl, r5, k5⟩
      all_goals have l0 := (k5.cell (C := g) (j := 0) (.inl rfl)).trans g0
      all_goals have S5 := hide (k5.nums (unhide S3) (fun z hz => .inr ⟨z, hz, rfl⟩))
      all_goals clear PA PF k5 g0 S3
      all_goals by_cases h8 : E8 = 0
      all_goals first
        | (obtain ⟨e1, ht3, hwf, HRes⟩ := unhide HOK h8
           rw [e1] at r5
           have HT3 := hide ht3
           have HT4 := hide (ht3.sync (nextN es))
           have hRes := hide HRes
           have PS := hide (r5.did (fun F' hF => H.works.sync (nextN es) hwf hF (unhide HT3) hm (Nat.le_trans hB r5.room)))
           rw [rew_sync ht3] at PS HT4
           have PF := hide (lfiles_any l0)
           subst h8
           clear r5 e1 ht3 hwf HRes HOK HNO HE8
           go_wp2_with fail
           refine (unhide PF).mono ?_
           rintro e w6 ⟨rfl, rfl⟩
           go_wp2_with fail
           refine (unhide PS).mono ?_
           rintro e w7 ⟨rfl, r7, k7⟩
           have q0 := (k7.cell (C := g) (j := 0) (.inl rfl)).trans l0
           have S7 := k7.nums (unhide S5) (fun z hz => .inr ⟨z, hz, rfl⟩)
           have PR := hide (r7.removed H.works HS a2 (numL es) c2 (unhide HWz) (by rw [num_length]; omega) S7 (fun z hz => .inr ⟨z, hz, rfl⟩) (unhide HT4) hm hB)
           rw [rew_rems (unhide HT4), num_length] at PR
           have PF2 := hide (lfiles_any q0)
           clear PS PF k7 r7 S7 S5 l0
           go_wp2_with fail
           refine (unhide PF2).mono ?_
           rintro e w8 ⟨rfl, rfl⟩
           go_wp2_with fail
           refine (unhide PR).mono ?_
           rintro e w9 ⟨rfl, r9, _⟩
           have E9 := hide r9.done
           clear PR PF2 r9
           go_wp2_with fail
           go_ret
           rw [unhide hRes]
           exact ⟨rfl, unhide E9⟩)
        | (obtain ⟨e1, HRes⟩ := unhide HNO h8
           rw [e1] at r5
           have E5 := hide r5.done
           have hRes := hide HRes
           have hE' : (E8 != 0) = true := by simpa using h8
           clear r5 e1 HRes HOK HNO HE8
           go_wp2_with fail
           go_ret
           rw [unhide hRes]
           exact ⟨rfl, unhide E5⟩)
  · have HRes : Hid (rewR es m size l = (E, es)) := hide (rewR_bad hE h0)
    rw [allV_bad hE h0] at PE
    have h1 : (E != 0) = true := by simpa using h0
    clear hE
    go_enter Tryz.func23, Tryz.ntmps23
    go_wp2_with fail
    refine (unhide PE).mono ?_
    rintro e w1 ⟨rfl, b1⟩
    have E1 := hide ((unhide U0).below H.works b1).1.done
    clear b1 U0 PE
    go_wp2_with fail
    go_ret
    rw [unhide HRes]
    exact ⟨rfl, unhide E1⟩
end
end Go.Proofs.YtmccpkpeimejhagGreatDoor.Dk

namespace Go.Proofs.YtmccpkpeimejhagGreatDoor.Dk
open Go.RowKit

theorem lworks_of {Has : World → Nat → Nat → (Nat → Prop) → Int → List Pap → Prop} (H : More Has) (HS : Lists Has) : LWorks Has (LHof Has) := {
  looks := LHof.looks H
  down := fun h => h.down
  bad := fun size hz _ _ _ hB => lopen_bad size hz hB
  good := fun size hz h ht hm hB => lopen_any H HS size hz h ht hm hB
  append := fun r hs _ h ht hm hB => by
    obtain ⟨F0, hr, c0, c1, _, hfin⟩ := h.begin
    refine (hr.didc (fun F' hF hC => lappend_has H HS r hs hF ht hm hB c0 c1 (hC _ rfl))).mono ?_
    rintro e w' ⟨h1, h2, _⟩
    exact ⟨h1, hfin _ _ h2⟩
  sync := fun _ h ht hm hB => by
    obtain ⟨F0, hr, c0, _, _, hfin⟩ := h.begin
    refine (hr.didc (fun F' hF hC => lsync_has H HS hF ht hm hB c0 (hC _ rfl))).mono ?_
    rintro e w' ⟨h1, h2, _⟩
    exact ⟨h1, hfin _ _ h2⟩
  rewrite := fun l a c hsl hsm hl _ _ h ht hm hB => by
    obtain ⟨F0, hr, c0, c1, _, hfin⟩ := h.begin
    refine (hr.didc (fun F' hF hC => lrewrite_has H HS l a c hsl hsm hl hF ht hm hB c0 c1 (hC _ rfl))).mono ?_
    rintro e w' ⟨h1, h2, _⟩
    exact ⟨h1, hfin _ _ h2⟩
  blocks := fun _ h ht hm hB => by
    obtain ⟨F0, hr, c0, _, _, hfin⟩ := h.begin
    obtain ⟨F', h1, _⟩ := id hr
    refine (lblocks_new HS h1 ht hm hB c0).mono ?_
    rintro e w' ⟨a, c, he, _, hs, _, hb⟩
    exact ⟨a, c, he, hs, hfin _ _ (hr.below H.works hb).1⟩ }
end Go.Proofs.YtmccpkpeimejhagGreatDoor.Dk

namespace Go.Proofs.YtmccpkpeimejhagGreatDoor.Dk
open Go.RowKit

structure Sto where
  l : List Rc
  last : Int
/-- a filter takes a subject (both are right) -/
def tkB (f s : ByteArray) : Bool := coverL (Pl.toks f) (Pl.toks s)
def hasS (l : List Rc) (s : ByteArray) : Bool := l.any fun r => decide (r.s = s)
/-- how many subjects there are -/
def nameN : List Rc → Nat
  | [] => 0
  | r :: l => nameN l + (if hasS l r.s then 0 else 1)
def seqB (l : List Rc) (n : Int) : Bool := l.any fun r => decide (r.q = n)
def tryE (s : Sto) (r : Rc) : Int :=
  if chkR r ≠ 0 then chkR r
  else if r.k = 2 ∧ seqB s.l r.q = false then 4
  else if r.k ≠ 1 then 0
  else if r.q ≤ s.last then 9
  else if 200 ≤ s.l.length ∨ (hasS s.l r.s = false ∧ 100 ≤ nameN s.l) then 8
  else 0
def goneB (r x : Rc) : Bool := (decide (r.k = 2) && decide (x.q = r.q)) || (decide (r.k = 3) && (decide (x.q < r.q) && tkB r.s x.s))
def aplS (s : Sto) (r : Rc) : Sto :=
  if tryE s r ≠ 0 then s
  else if r.k = 1 then ⟨s.l ++ [r], r.q⟩
  else if r.k = 4 then ⟨s.l, max s.last r.q⟩
  else ⟨s.l.filter (fun x => !goneB r x), s.last⟩
/-- what each call keeps -/
structure Sto.Ok (s : Sto) : Prop where
  rise : s.l.Pairwise fun a b => a.q < b.q
  msg : ∀ x ∈ s.l, x.k = 1 ∧ chkR x = 0
  low : ∀ x ∈ s.l, x.q ≤ s.last
  last : 0 ≤ s.last ∧ s.last ≤ 1099511627776
  few : s.l.length ≤ 200
  names : nameN s.l ≤ 100
theorem hasS_append (a b : List Rc) (s : ByteArray) : hasS (a ++ b) s = (hasS a s || hasS b s) := by unfold hasS; rw [List.any_append]
theorem nameN_snoc : ∀ (l : List Rc) (r : Rc), nameN (l ++ [r]) = nameN l + (if hasS l r.s then 0 else 1)
  | [], r => by simp [nameN, hasS]
  | x :: l, r => by
    rw [List.cons_append, nameN, nameN, nameN_snoc l r, hasS_append]
    have e : hasS [r] x.s = decide (r.s = x.s) := by simp [hasS]
    have e2 : hasS (x :: l) r.s = (decide (x.s = r.s) || hasS l r.s) := by simp [hasS]
    rw [e, e2]
    by_cases h : x.s = r.s
    · have h' : r.s = x.s := h.symm
      rw [h]
      cases hasS l r.s <;> simp
    · have h' : ¬ r.s = x.s := fun z => h z.symm
      rw [decide_eq_false h, decide_eq_false h']
      cases hasS l x.s <;> cases hasS l r.s <;> simp
theorem hasS_filter {p : Rc → Bool} {l : List Rc} {s : ByteArray} (h : hasS (l.filter p) s = true) : hasS l s = true := by
  unfold hasS at h ⊢
  rw [List.any_eq_true] at h ⊢
  obtain ⟨x, hx, hs⟩ := h
  exact ⟨x, (List.mem_filter.1 hx).1, hs⟩
/-- subjects of fewer messages -/
def nameL : List Rc → List ByteArray
  | [] => []
  | r :: l => if hasS l r.s then nameL l else r.s :: nameL l
theorem nameN_len : ∀ l : List Rc, nameN l = (nameL l).length
  | [] => rfl
  | r :: l => by
    rw [nameN, nameL, nameN_len l]
    by_cases h : hasS l r.s = true
    · rw [if_pos h, if_pos h]; omega
    · rw [if_neg h, if_neg h]; rfl
theorem nameL_mem : ∀ (l : List Rc) (s : ByteArray), s ∈ nameL l ↔ hasS l s = true
  | [], s => by simp [nameL, hasS]
  | r :: l, s => by
    have e : hasS (r :: l) s = (decide (r.s = s) || hasS l s) := by simp [hasS]
    rw [nameL, e]
    by_cases h : hasS l r.s = true
    · rw [if_pos h, nameL_mem l s]
      constructor
      · intro z; rw [z]; simp
      · intro z
        rcases Bool.or_eq_true _ _ ▸ z with y | y
        · rw [← of_decide_eq_true y]; exact h
        · exact y
    · rw [if_neg h, List.mem_cons, nameL_mem l s, Bool.or_eq_true, decide_eq_true_eq]
      constructor
      · rintro (y | y)
        · exact .inl y.symm
        · exact .inr y
      · rintro (y | y)
        · exact .inl y.symm
        · exact .inr y
theorem nameL_nodup : ∀ l : List Rc, (nameL l).Nodup
  | [] => List.nodup_nil
  | r :: l => by
    rw [nameL]
    by_cases h : hasS l r.s = true
    · rw [if_pos h]; exact nameL_nodup l
    · rw [if_neg h, List.nodup_cons]
      exact ⟨fun z => h ((nameL_mem l r.s).1 z), nameL_nodup l⟩
theorem nodup_le {α : Type} [DecidableEq α] : ∀ (a b : List α), a.Nodup → (∀ x ∈ a, x ∈ b) → a.length ≤ b.length
  | [], b, _, _ => Nat.zero_le _
  | x :: a, b, hn, hs => by
    rw [List.nodup_cons] at hn
    have hx : x ∈ b := hs x (List.mem_cons_self ..)
    have := nodup_le a (b.erase x) hn.2 (fun y hy => (List.mem_erase_of_ne (fun e => hn.1 (by rw [← e]; exact hy))).2 (hs y (List.mem_cons_of_mem _ hy)))
    rw [List.length_erase_of_mem hx] at this
    have : 0 < b.length := List.length_pos_of_mem hx
    simp only [List.length_cons]
    omega
theorem nameN_filter (p : Rc → Bool) (l : List Rc) : nameN (l.filter p) ≤ nameN l := by
  rw [nameN_len, nameN_len]
  exact nodup_le _ _ (nameL_nodup _) (fun s hs => (nameL_mem l s).2 (hasS_filter ((nameL_mem _ s).1 hs)))
theorem Sto.Ok.nil : Sto.Ok ⟨[], 0⟩ := ⟨List.Pairwise.nil, fun _ h => (by cases h), fun _ h => (by cases h), ⟨Int.le_refl _, by decide⟩, Nat.zero_le _, Nat.zero_le _⟩
theorem chkR_in {r : Rc} (h : chkR r = 0) : 1 ≤ r.q ∧ r.q ≤ 1099511627776 := by
  obtain ⟨_, _, h1, h2, _⟩ := Pk.chk_len (r := r.pk) h
  exact ⟨h1, h2⟩
theorem Sto.Ok.apply {s : Sto} (h : s.Ok) (r : Rc) : (aplS s r).Ok := by
  unfold aplS
  by_cases h0 : tryE s r ≠ 0
  · rw [if_pos h0]; exact h
  · rw [if_neg h0]
    have h0 : tryE s r = 0 := Classical.byContradiction h0
    have hc : chkR r = 0 := by
      apply Classical.byContradiction
      intro z
      unfold tryE at h0
      rw [if_pos z] at h0
      exact z h0
    have hq := chkR_in hc
    by_cases h1 : r.k = 1
    · rw [if_pos h1]
      have h2 : ¬ r.q ≤ s.last ∧ ¬ (200 ≤ s.l.length ∨ (hasS s.l r.s = false ∧ 100 ≤ nameN s.l)) := by
        unfold tryE at h0
        rw [if_neg (by rw [hc]; simp), if_neg (by omega), if_neg (by omega)] at h0
        by_cases z : r.q ≤ s.last
        · rw [if_pos z] at h0; omega
        · rw [if_neg z] at h0
          by_cases y : 200 ≤ s.l.length ∨ (hasS s.l r.s = false ∧ 100 ≤ nameN s.l)
          · rw [if_pos y] at h0; omega
          · exact ⟨z, y⟩
      obtain ⟨h2, h3⟩ := h2
      refine ⟨?_, ?_, ?_, ⟨by show 0 ≤ r.q; omega, hq.2⟩, ?_, ?_⟩
      · rw [List.pairwise_append]
        refine ⟨h.rise, List.pairwise_singleton _ _, fun a ha b hb => ?_⟩
        rw [List.mem_singleton.1 hb]
        have := h.low a ha
        omega
      · intro x hx
        rcases List.mem_append.1 hx with y | y
        · exact h.msg x y
        · rw [List.mem_singleton.1 y]; exact ⟨h1, hc⟩
      · intro x hx
        rcases List.mem_append.1 hx with y | y
        · have := h.low x y; show x.q ≤ r.q; omega
        · rw [List.mem_singleton.1 y]; exact Int.le_refl _
      · show (s.l ++ [r]).length ≤ 200
        rw [List.length_append, List.length_singleton]; omega
      · show nameN (s.l ++ [r]) ≤ 100
        rw [nameN_snoc]
        have := h.names
        cases hh : hasS s.l r.s
        · rw [if_neg (by simp)]
          have : ¬ 100 ≤ nameN s.l := fun z => h3 (.inr ⟨hh, z⟩)
          omega
        · rw [if_pos rfl]; omega
    · rw [if_neg h1]
      by_cases h4 : r.k = 4
      · rw [if_pos h4]
        have hl := h.last
        refine ⟨h.rise, h.msg, fun x hx => ?_, ⟨?_, ?_⟩, h.few, h.names⟩
        · have := h.low x hx; show x.q ≤ max s.last r.q; omega
        · show 0 ≤ max s.last r.q; omega
        · show max s.last r.q ≤ 1099511627776; omega
      · rw [if_neg h4]
        exact ⟨h.rise.sublist List.filter_sublist, fun x hx => h.msg x (List.mem_filter.1 hx).1, fun x hx => h.low x (List.mem_filter.1 hx).1, h.last, Nat.le_trans (List.length_filter_le _ _) h.few, Nat.le_trans (nameN_filter _ _) h.names⟩
end Go.Proofs.YtmccpkpeimejhagGreatDoor.Dk
