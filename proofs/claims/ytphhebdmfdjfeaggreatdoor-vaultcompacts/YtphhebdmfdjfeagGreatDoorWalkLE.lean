/-
  The program's log: the bytes of all records that are rewritten (a strings.Builder).
-/
import Derived.Test.YtphhebdmfdjfeagGreatDoorJointWorksDWorksEWorksGPapHPapFWorksF
import Derived.Test.YtphhebdmfdjfeagGreatDoorJointWalkL1WalkLR
import Derived.Test.YtphhebdmfdjfeagGreatDoorJointWalkL2WalkL3
import Derived.Test.YtphhebdmfdjfeagGreatDoorShelfB
import Derived.Laws.Externs
namespace Go.Proofs.YtphhebdmfdjfeagGreatDoor.Dk
open Go.RowKit

theorem byteB : (Tryz.prog.info? 5).map (fun i => (i.zero, i.size, i.bytes)) = some (some (.int .u8 0), 1, 1) := by kernel_rfl
theorem str_app (t s : ByteArray) : Lib.strCells (t ++ s) = Lib.strCells t ++ Lib.strCells s := by
  unfold Lib.strCells
  rw [ByteArray.data_append, Array.toList_append, List.map_append]
theorem bsize : (Tryz.prog.info? 82).map (fun i => i.size) = some 2 := by kernel_rfl

set_option maxRecDepth 100000 in
set_option maxHeartbeats 1000000 in
/-- a builder that was written already -/
theorem check_used (b : Nat) (w : World) (h0 : w.cell? ⟨b, 0, none⟩ = some (.pointer (some ⟨b, 0, none⟩))) :
    Calls Tryz.prog 68 #[.pointer (some ⟨b, 0, none⟩)] w fun e w' => e = .returned (.tuple #[]) ∧ w = w' := by
  obtain ⟨j, hj, _⟩ := Option.map_eq_some_iff.1 bsize
  go_enter Tryz.func68, Tryz.ntmps68
  go_wp2_with fail
  rw [Lib.run_neq_ptr_same w _ Tryz.underlying80 hj]
  go_wp2_with fail
  go_end0
  exact ⟨rfl, rfl⟩

set_option maxRecDepth 100000 in
set_option maxHeartbeats 1000000 in
/-- a builder that is new stores its own address -/
theorem check_new (b : Nat) (w : World) (h0 : w.cell? ⟨b, 0, none⟩ = some (.pointer none)) (hsh : w.shape? b = some (82, 2)) (hfz : w.frozen? ⟨b, 0, none⟩ = false) :
    Calls Tryz.prog 68 #[.pointer (some ⟨b, 0, none⟩)] w fun e w' => e = .returned (.tuple #[]) ∧ w' = w.setCell ⟨b, 0, none⟩ (.pointer (some ⟨b, 0, none⟩)) := by
  obtain ⟨j, hj, hjs⟩ := Option.map_eq_some_iff.1 bsize
  go_enter Tryz.func68, Tryz.ntmps68
  go_wp2_with fail
  rw [Lib.run_to_unsafe w ⟨b, 0, none⟩ Tryz.underlying80 Tryz.underlying134 hj (by rw [hjs]; decide) hsh (Nat.zero_lt_succ 1)]
  simp only [Result.andThen]
  rw [Oper.upon_value]
  go_wp2_with fail
  rw [run_callFunc_extern Tryz.func91 (by kernel_rfl) (by kernel_rfl) (by kernel_rfl) (e := Extern.AbiNoEscape.same) (by kernel_rfl), Lib.run_noEscape]
  simp only [Result.andThen]
  rw [Oper.upon_value]
  go_wp2_with fail
  rw [Lib.run_from_unsafe w ⟨b, 0, none⟩ Tryz.underlying134 Tryz.underlying80 hj hsh (by kernel_rfl)]
  simp only [Result.andThen]
  rw [Oper.upon_value]
  go_wp2_with fail
  go_end0
  exact ⟨rfl, rfl⟩

/-- a builder of one's own that holds a text -/
def Bld (w : World) (B b : Nat) (t : ByteArray) : Prop := Lib.IsBuilder 82 5 B b (Lib.strCells t) w
theorem Bld.below' {w w' : World} {B b : Nat} {t : ByteArray} (h : Bld w B b t) (hb : Below w.heap.size w w') : Bld w' B b t := by
  have hat : ∀ p, Lib.BuilderAt 82 5 B b p (Lib.strCells t) w → Lib.BuilderAt 82 5 B b p (Lib.strCells t) w' := fun p h => by
    obtain ⟨h1, v, h2, h3, h4⟩ := h
    refine ⟨h1, v, by rw [hb.block b (Array.getElem?_eq_some_iff.1 h2).1]; exact h2, ⟨h3.1, ?_⟩, h4⟩
    rcases h3.2 with y | ⟨g, cap, cur, y1, y2, y3, y⟩
    · exact .inl y
    · exact .inr ⟨g, cap, cur, y1, y2, by rw [hb.block g (Array.getElem?_eq_some_iff.1 y3).1]; exact y3, y⟩
  rcases h with h | h
  · exact .inl (hat _ h)
  · exact .inr (hat _ h)
theorem Bld.alloc' {w : World} {B b : Nat} {t : ByteArray} (h : Bld w B b t) (o : Obj) : Bld (w.alloc o) B b t := h.below' ((Below.refl _ _).alloc (Nat.le_refl _) _)
theorem bcheck_any (B b : Nat) (bs : List Value) (w : World) (h : Lib.IsBuilder 82 5 B b bs w) :
    Calls Tryz.prog 68 #[.pointer (some ⟨b, 0, none⟩)] w fun e w' => e = .returned (.tuple #[]) ∧ Lib.BuilderAt 82 5 B b (.pointer (some ⟨b, 0, none⟩)) bs w' ∧ Below B w w' := by
  rcases h with h | h
  · refine (check_new b w h.cell0 h.shape h.frozen0).mono ?_
    rintro e w' ⟨rfl, rfl⟩
    exact ⟨rfl, h.used _, (Below.refl B w).setCell (p := ⟨b, 0, none⟩) h.1 _⟩
  · refine (check_used b w h.cell0).mono ?_
    rintro e w' ⟨rfl, rfl⟩
    exact ⟨rfl, h, Below.refl B _⟩

set_option maxRecDepth 100000 in
set_option maxHeartbeats 1000000 in
theorem bwrite_any (B b : Nat) (t s : ByteArray) (w : World) (h : Bld w B b t) (hlen : t.size + s.size ≤ 140737488355328) (hB : B ≤ w.heap.size) :
    Calls Tryz.prog 43 #[.pointer (some ⟨b, 0, none⟩), .string s] w fun e w' => e = .returned (.tuple #[.int .i64 s.size, .nilIface]) ∧ Bld w' B b (t ++ s) ∧ Below B w w' := by
  obtain ⟨i0, hi, hz0, hz1, hz2⟩ := info_parts byteB
  go_enter Tryz.func43, Tryz.ntmps43
  go_wp2_with fail
  refine (bcheck_any B b _ w h).mono ?_
  rintro e w1 ⟨rfl, h1, b1⟩
  obtain ⟨hBb, v, hbk, hown, hne⟩ := h1
  rw [Lib.strCells_length] at hown
  have hB1 := Nat.le_trans hB b1.size
  have hlt : b < w1.heap.size := (Array.getElem?_eq_some_iff.1 hbk).1
  obtain ⟨v', w2, hrun, hown2, hg2, _⟩ := Lib.run_append_own_string (P := Tryz.prog) w1 B 75 9 75 5 i0 Tryz.underlying75 Tryz.underlying9 hi hz0 hz1 hz2 v t.size (Lib.strCells t) hown s (by unfold maxLen; omega) (by omega) hB1
  have hbk2 : w2.heap[b]? = some (.cells #[.pointer (some ⟨b, 0, none⟩), v] 82 (0, 0)) := by rw [hg2.block b hlt (fun z => hne z.symm)]; exact hbk
  have c1 : w1.cell? ⟨b, 1, none⟩ = some v := by rw [Lib.cell_of_heap hbk]; rfl
  have d1 : w2.cell? ⟨b, 1, none⟩ = some v := by rw [Lib.cell_of_heap hbk2]; rfl
  have f1 : w2.frozen? ⟨b, 1, none⟩ = false := Lib.frozen_of_heap hbk2 1
  obtain ⟨ao, n', cap, rfl⟩ : ∃ ao n' cap, v' = .slice ao n' cap := by
    rcases hown2.2 with ⟨hv, _⟩ | ⟨g, cap, cur, hv, _⟩
    · exact ⟨_, _, _, hv⟩
    · exact ⟨_, _, _, hv⟩
  have HX : Hid (Bld (w2.setCell ⟨b, 1, none⟩ (.slice ao n' cap)) B b (t ++ s) ∧ Below B w (w2.setCell ⟨b, 1, none⟩ (.slice ao n' cap))) := hide ⟨.inr (by
      rw [str_app]
      exact Lib.BuilderAt.put (T := 82) (e := 5) hBb hbk2 (bs' := Lib.strCells t ++ Lib.strCells s) (by rw [List.length_append, Lib.strCells_length, Lib.strCells_length]; exact hown2) (by decide)),
    b1.trans (((Below.refl B w1).grown hg2 hB1 (fun k hk => (World.ownsRow.lt hown k hk).1)).setCell (p := ⟨b, 1, none⟩) hBb _)⟩
  clear h b1 hown hown2 hg2 hbk hbk2 hne
  go_wp2_with (at_builtin; refine Lib.wpList_append_run _ rfl _ _ 75 9 rfl _ _ rfl rfl _ _ hrun ?_)
  go_ret2
  exact ⟨rfl, unhide HX⟩
theorem bstring_any (B b : Nat) (t : ByteArray) (w : World) (h : Bld w B b t) (hB : B ≤ w.heap.size) :
    Calls Tryz.prog 44 #[.pointer (some ⟨b, 0, none⟩)] w fun e w' => e = .returned (.string t) ∧ Below B w w' := by
  have h1 := Tryz.Builder_String_any B b t.data.toList w (by rw [← Lib.strCells_eq]; exact h) hB
  have e : (⟨t.data.toList.toArray⟩ : ByteArray) = t := by simp
  rw [e] at h1
  exact h1

/-- encV of records one after the other -/
def allV (l : List Rc) : Value := if badOf l = 0 then .tuple #[.string (catT l), .int .i64 0] else .tuple #[.string ⟨#[]⟩, .int .i64 (badOf l)]

set_option maxRecDepth 100000 in
set_option maxHeartbeats 1000000 in
theorem lencode_any (l : List Rc) (a : Option Addr) (c : Nat) (w : World) (hsl : SlR w a l) (hsm : ∀ k, k < l.length → Small (rc l k)) (hl : l.length ≤ 200000) :
    Calls Tryz.prog 25 #[.slice a l.length c] w fun e w' => e = .returned (allV l) ∧ Below w.heap.size w w' := by
  have HSl := hide hsl
  have HM := hide hsm
  have B0 : Hid (Bld (w.alloc (.cells #[.pointer none, .slice none 0 0] 82)) w.heap.size w.heap.size ByteArray.empty ∧ Below w.heap.size w (w.alloc (.cells #[.pointer none, .slice none 0 0] 82))) := hide ⟨Lib.fresh_isBuilder 82 5 w, (Below.refl _ w).alloc (Nat.le_refl _) _⟩
  clear hsl hsm
  go_enter Tryz.func25, Tryz.ntmps25
  go_wp2_with fail
  go_loopw [11] (fun iv wr => ∃ (k : Nat), iv = .int .i64 k ∧ k ≤ l.length ∧ Hid (badOf (l.take k) = 0) ∧ Hid (Bld wr w.heap.size w.heap.size (catT (l.take k)) ∧ Below w.heap.size w wr)) (fun iv _ => l.length - (intOf iv).toNat)
  case atStart => exact ⟨0, rfl, Nat.zero_le _, hide rfl, B0⟩
  case round =>
    clear B0
    obtain ⟨k, rfl, hkl, HB, Hb⟩ := hrel
    by_cases hlt : k < l.length
    · obtain ⟨ga, o, rfl, s6⟩ := unhide HSl k hlt
      have s7 := s6.below (unhide Hb).2 s6.lt
      obtain ⟨r, hr⟩ : ∃ r, r = rc l k := ⟨_, rfl⟩
      have hsm := unhide HM k hlt
      have hbt := badOf_take hlt (unhide HB)
      have hct := catT_take hlt
      have hbf := fun h => badOf_found hlt (unhide HB) h
      have hts := catT_size (l.take k) (unhide HB)
      rw [List.length_take, Nat.min_eq_left hkl] at hts
      rw [← hr] at s7 hsm hbt hct hbf
      obtain ⟨_, x0, x1, x2, x3, x4, x5⟩ := s7
      have C1 : Hid (∀ W, Calls Tryz.prog 35 #[.agg #[.int .i64 r.k, .int .i64 r.q, .int .i64 r.t, .string r.s, .string r.h, .string r.d]] W fun e w' => e = .returned (encV r.k r.q r.t r.s r.h r.d) ∧ Below W.heap.size W w') := hide (fun W => encode_any r.k r.q r.t r.s r.h r.d W hsm.s hsm.h hsm.d)
      obtain ⟨E, hE⟩ : ∃ E, chkR r = E := ⟨_, rfl⟩
      have B0 : Hid (Bld (wr.alloc (recO2 r)) w.heap.size w.heap.size (catT (l.take k)) ∧ Below w.heap.size w (wr.alloc (recO2 r))) := hide ⟨(unhide Hb).1.alloc' _, bstep (unhide Hb).2 ((Below.refl _ _).alloc (Nat.le_refl _) _)⟩
      unfold recO2 at B0
      by_cases h0 : E = 0
      · have hc : chkR r = 0 := by rw [hE]; exact h0
        rw [enc_good hc] at C1
        have HB2 : Hid (badOf (l.take (k + 1)) = 0) := hide (by rw [hbt]; exact hc)
        have hcs := codT_size hc
        have PW : Hid (∀ W, Bld W w.heap.size w.heap.size (catT (l.take k)) → Below w.heap.size w W → Calls Tryz.prog 43 #[.pointer (some ⟨w.heap.size, 0, none⟩), .string (codT r)] W fun e w' => e = .returned (.tuple #[.int .i64 (codT r).size, .nilIface]) ∧ Bld w' w.heap.size w.heap.size (catT (l.take (k + 1))) ∧ Below w.heap.size W w') := hide (fun W hW hb => by
          rw [hct]
          exact bwrite_any _ _ _ _ W hW (by omega) hb.size)
        clear hE h0 hc hbt hct hbf hr HB s6 Hb hts
        go_wp2_with fail
        refine (unhide C1 _).mono ?_
        rintro e w2 ⟨rfl, b2⟩
        have B2 := hide (And.intro ((unhide B0).1.below' b2) (bstep (unhide B0).2 b2))
        have PW2 := hide (unhide PW w2 (unhide B2).1 (unhide B2).2)
        clear b2 B0 x0 x1 x2 x3 x4 x5 PW
        go_wp2_with fail
        refine (unhide PW2).mono ?_
        rintro e w3 ⟨rfl, h3, b3⟩
        have B3 := hide (And.intro h3 ((unhide B2).2.trans b3))
        clear h3 b3 B2 PW2
        go_wp2_with fail
        refine ⟨⟨k + 1, by go_num, by omega, HB2, B3⟩, ?_⟩
        simp [intOf]; omega
      · have HRes : Hid (allV l = .tuple #[.string ⟨#[]⟩, .int .i64 E]) := hide (by
          have h1 := (hbf (by rw [hE]; exact h0)).trans hE
          unfold allV
          rw [h1, if_neg h0])
        rw [enc_bad hE h0] at C1
        have h1 : (E != 0) = true := by simpa using h0
        clear hE hbt hct hbf hr HB s6 Hb
        go_wp2_with fail
        refine (unhide C1 _).mono ?_
        rintro e w1 ⟨rfl, b1⟩
        have E1 := hide (bstep (unhide B0).2 b1)
        clear b1 x0 x1 x2 x3 x4 x5 B0
        go_wp2_with fail
        go_ret2
        rw [unhide HRes]
        exact ⟨rfl, unhide E1⟩
    · obtain rfl : k = l.length := by omega
      have HV : Hid (allV l = .tuple #[.string (catT l), .int .i64 0]) := hide (by
        have := unhide HB
        rw [List.take_length] at this
        unfold allV
        rw [if_pos this])
      have h3 := unhide Hb
      rw [List.take_length] at h3
      have PS := hide (bstring_any _ _ _ _ h3.1 h3.2.size)
      have B3 := hide h3.2
      clear h3 Hb HB
      go_wp2_with fail
      refine (unhide PS).mono ?_
      rintro e w4 ⟨rfl, b4⟩
      have B4 := hide ((unhide B3).trans b4)
      clear b4 PS B3
      go_wp2_with fail
      go_ret2
      rw [unhide HV]
      exact ⟨rfl, unhide B4⟩
end Go.Proofs.YtphhebdmfdjfeagGreatDoor.Dk
