/-
  The program's log: the bytes of all records that are rewritten (a strings.Builder).
  The program's log: Rewrite, over what is asked of any disk.
  The program's log does what is asked of a log, over what is asked of any disk.
-/
import Derived.Test.YtohjipnkoiifhagGreatDoorJointPlainSPlainR2PapGRowGPapNWorksGPapHWorksFRowBWalkC6RowY
import Derived.Test.YtohjipnkoiifhagGreatDoorWalkL1
import Derived.Test.YtohjipnkoiifhagGreatDoorWalkL2
import Derived.Test.YtohjipnkoiifhagGreatDoorShelfB
import Derived.Laws.Externs
import Derived.Test.YtohjipnkoiifhagGreatDoorWalkLR
import Derived.Test.YtohjipnkoiifhagGreatDoorJointRowTmPapFRowR
import Derived.Test.YtohjipnkoiifhagGreatDoorJointWalkL3Ov1Ov3Ov5Ov2
namespace Go.Proofs.YtohjipnkoiifhagGreatDoor.Dk
open Go.RowKit

theorem byteB : (Tryz.prog.info? 5).map (fun i => (i.zero, i.size, i.bytes)) = some (some (.int .u8 0), 1, 1) := by kernel_rfl
theorem str_app (t s : ByteArray) : Lib.strCells (t ++ s) = Lib.strCells t ++ Lib.strCells s := by
  unfold Lib.strCells
  rw [ByteArray.data_append, Array.toList_append, List.map_append]
theorem bsize : (Tryz.prog.info? 136).map (fun i => i.size) = some 2 := by kernel_rfl

set_option maxRecDepth 100000 in
set_option maxHeartbeats 1000000 in
/-- a builder that was written already -/
theorem check_used (b : Nat) (w : World) (h0 : w.cell? ⟨b, 0, none⟩ = some (.pointer (some ⟨b, 0, none⟩))) :
    Calls Tryz.prog 111 #[.pointer (some ⟨b, 0, none⟩)] w fun e w' => e = .returned (.tuple #[]) ∧ w = w' := by
  obtain ⟨j, hj, _⟩ := Option.map_eq_some_iff.1 bsize
  go_enter Tryz.func111, Tryz.ntmps111
  go_wp2_with fail
  rw [Lib.run_neq_ptr_same w _ Tryz.underlying134 hj]
  go_wp2_with fail
  go_end0
  exact ⟨rfl, rfl⟩

set_option maxRecDepth 100000 in
set_option maxHeartbeats 1000000 in
/-- a builder that is new stores its own address -/
theorem check_new (b : Nat) (w : World) (h0 : w.cell? ⟨b, 0, none⟩ = some (.pointer none)) (hsh : w.shape? b = some (136, 2)) (hfz : w.frozen? ⟨b, 0, none⟩ = false) :
    Calls Tryz.prog 111 #[.pointer (some ⟨b, 0, none⟩)] w fun e w' => e = .returned (.tuple #[]) ∧ w' = w.setCell ⟨b, 0, none⟩ (.pointer (some ⟨b, 0, none⟩)) := by
  obtain ⟨j, hj, hjs⟩ := Option.map_eq_some_iff.1 bsize
  go_enter Tryz.func111, Tryz.ntmps111
  go_wp2_with fail
  rw [Lib.run_to_unsafe w ⟨b, 0, none⟩ Tryz.underlying134 Tryz.underlying192 hj (by rw [hjs]; decide) hsh (Nat.zero_lt_succ 1)]
  simp only [Result.andThen]
  rw [Oper.upon_value]
  go_wp2_with fail
  rw [run_callFunc_extern Tryz.func137 (by kernel_rfl) (by kernel_rfl) (by kernel_rfl) (e := Extern.AbiNoEscape.same) (by kernel_rfl), Lib.run_noEscape]
  simp only [Result.andThen]
  rw [Oper.upon_value]
  go_wp2_with fail
  rw [Lib.run_from_unsafe w ⟨b, 0, none⟩ Tryz.underlying192 Tryz.underlying134 hj hsh (by kernel_rfl)]
  simp only [Result.andThen]
  rw [Oper.upon_value]
  go_wp2_with fail
  go_end0
  exact ⟨rfl, rfl⟩

/-- a builder of one's own that holds a text -/
def Bld (w : World) (B b : Nat) (t : ByteArray) : Prop := Lib.IsBuilder 136 5 B b (Lib.strCells t) w
theorem Bld.below' {w w' : World} {B b : Nat} {t : ByteArray} (h : Bld w B b t) (hb : Below w.heap.size w w') : Bld w' B b t := by
  have hat : ∀ p, Lib.BuilderAt 136 5 B b p (Lib.strCells t) w → Lib.BuilderAt 136 5 B b p (Lib.strCells t) w' := fun p h => by
    obtain ⟨h1, v, h2, h3, h4⟩ := h
    refine ⟨h1, v, by rw [hb.block b (Array.getElem?_eq_some_iff.1 h2).1]; exact h2, ⟨h3.1, ?_⟩, h4⟩
    rcases h3.2 with y | ⟨g, cap, cur, y1, y2, y3, y⟩
    · exact .inl y
    · exact .inr ⟨g, cap, cur, y1, y2, by rw [hb.block g (Array.getElem?_eq_some_iff.1 y3).1]; exact y3, y⟩
  rcases h with h | h
  · exact .inl (hat _ h)
  · exact .inr (hat _ h)
theorem Bld.alloc' {w : World} {B b : Nat} {t : ByteArray} (h : Bld w B b t) (o : Obj) : Bld (w.alloc o) B b t := h.below' ((Below.refl _ _).alloc (Nat.le_refl _) _)
theorem bcheck_any (B b : Nat) (bs : List Value) (w : World) (h : Lib.IsBuilder 136 5 B b bs w) :
    Calls Tryz.prog 111 #[.pointer (some ⟨b, 0, none⟩)] w fun e w' => e = .returned (.tuple #[]) ∧ Lib.BuilderAt 136 5 B b (.pointer (some ⟨b, 0, none⟩)) bs w' ∧ Below B w w' := by
  rcases h with h | h
  · refine (check_new b w h.cell0 h.shape h.frozen0).mono ?_
    rintro e w' ⟨rfl, rfl⟩
    exact ⟨rfl, h.used _, (Below.refl B w).setCell (p := ⟨b, 0, none⟩) h.1 _⟩
  · refine (check_used b w h.cell0).mono ?_
    rintro e w' ⟨rfl, rfl⟩
    exact ⟨rfl, h, Below.refl B _⟩

set_option maxRecDepth 100000 in
set_option maxHeartbeats 1000000 in
theorem bwrite_any (B b : Nat) (t s : ByteArray) (w : World) (h : Bld w B b t) (hlen : t.size + s.size ≤ 140737488355328) (hB : B ≤ w.heap.size) :
    Calls Tryz.prog 76 #[.pointer (some ⟨b, 0, none⟩), .string s] w fun e w' => e = .returned (.tuple #[.int .i64 s.size, .nilIface]) ∧ Bld w' B b (t ++ s) ∧ Below B w w' := by
  obtain ⟨i0, hi, hz0, hz1, hz2⟩ := info_parts byteB
  go_enter Tryz.func76, Tryz.ntmps76
  go_wp2_with fail
  refine (bcheck_any B b _ w h).mono ?_
  rintro e w1 ⟨rfl, h1, b1⟩
  obtain ⟨hBb, v, hbk, hown, hne⟩ := h1
  rw [Lib.strCells_length] at hown
  have hB1 := Nat.le_trans hB b1.size
  have hlt : b < w1.heap.size := (Array.getElem?_eq_some_iff.1 hbk).1
  obtain ⟨v', w2, hrun, hown2, hg2, _⟩ := Lib.run_append_own_string (P := Tryz.prog) w1 B 108 9 108 5 i0 Tryz.underlying108 Tryz.underlying9 hi hz0 hz1 hz2 v t.size (Lib.strCells t) hown s (by unfold maxLen; omega) (by omega) hB1
  have hbk2 : w2.heap[b]? = some (.cells #[.pointer (some ⟨b, 0, none⟩), v] 136 (0, 0)) := by rw [hg2.block b hlt (fun z => hne z.symm)]; exact hbk
  have c1 : w1.cell? ⟨b, 1, none⟩ = some v := by rw [Lib.cell_of_heap hbk]; rfl
  have d1 : w2.cell? ⟨b, 1, none⟩ = some v := by rw [Lib.cell_of_heap hbk2]; rfl
  have f1 : w2.frozen? ⟨b, 1, none⟩ = false := Lib.frozen_of_heap hbk2 1
  obtain ⟨ao, n', cap, rfl⟩ : ∃ ao n' cap, v' = .slice ao n' cap := by
    rcases hown2.2 with ⟨hv, _⟩ | ⟨g, cap, cur, hv, _⟩
    · exact ⟨_, _, _, hv⟩
    · exact ⟨_, _, _, hv⟩
  have HX : Hid (Bld (w2.setCell ⟨b, 1, none⟩ (.slice ao n' cap)) B b (t ++ s) ∧ Below B w (w2.setCell ⟨b, 1, none⟩ (.slice ao n' cap))) := hide ⟨.inr (by
      rw [str_app]
      exact Lib.BuilderAt.put (T := 136) (e := 5) hBb hbk2 (bs' := Lib.strCells t ++ Lib.strCells s) (by rw [List.length_append, Lib.strCells_length, Lib.strCells_length]; exact hown2) (by decide)),
    b1.trans (((Below.refl B w1).grown hg2 hB1 (fun k hk => (World.ownsRow.lt hown k hk).1)).setCell (p := ⟨b, 1, none⟩) hBb _)⟩
  clear h b1 hown hown2 hg2 hbk hbk2 hne
  go_wp2_with (at_builtin; refine Lib.wpList_append_run _ rfl _ _ 108 9 rfl _ _ rfl rfl _ _ hrun ?_)
  go_ret2
  exact ⟨rfl, unhide HX⟩
theorem bstring_any (B b : Nat) (t : ByteArray) (w : World) (h : Bld w B b t) (hB : B ≤ w.heap.size) :
    Calls Tryz.prog 77 #[.pointer (some ⟨b, 0, none⟩)] w fun e w' => e = .returned (.string t) ∧ Below B w w' := by
  have h1 := Tryz.Builder_String_any B b t.data.toList w (by rw [← Lib.strCells_eq]; exact h) hB
  have e : (⟨t.data.toList.toArray⟩ : ByteArray) = t := by simp
  rw [e] at h1
  exact h1

/-- encV of records one after the other -/
def allV (l : List Rc) : Value := if badOf l = 0 then .tuple #[.string (catT l), .int .i64 0] else .tuple #[.string ⟨#[]⟩, .int .i64 (badOf l)]

set_option maxRecDepth 100000 in
set_option maxHeartbeats 1000000 in
theorem lencode_any (l : List Rc) (a : Option Addr) (c : Nat) (w : World) (hsl : SlR w a l) (hsm : ∀ k, k < l.length → Small (rc l k)) (hl : l.length ≤ 200000) :
    Calls Tryz.prog 42 #[.slice a l.length c] w fun e w' => e = .returned (allV l) ∧ Below w.heap.size w w' := by
  have HSl := hide hsl
  have HM := hide hsm
  have B0 : Hid (Bld (w.alloc (.cells #[.pointer none, .slice none 0 0] 136)) w.heap.size w.heap.size ByteArray.empty ∧ Below w.heap.size w (w.alloc (.cells #[.pointer none, .slice none 0 0] 136))) := hide ⟨Lib.fresh_isBuilder 136 5 w, (Below.refl _ w).alloc (Nat.le_refl _) _⟩
  clear hsl hsm
  go_enter Tryz.func42, Tryz.ntmps42
  go_wp2_with fail
  go_loopw [11] (fun iv wr => ∃ (k : Nat), iv = .int .i64 k ∧ k ≤ l.length ∧ Hid (badOf (l.take k) = 0) ∧ Hid (Bld wr w.heap.size w.heap.size (catT (l.take k)) ∧ Below w.heap.size w wr)) (fun iv _ => l.length - (intOf iv).toNat)
  case atStart => exact ⟨0, rfl, Nat.zero_le _, hide rfl, B0⟩
  case round =>
    clear B0
    obtain ⟨k, rfl, hkl, HB, Hb⟩ := hrel
    by_cases hlt : k < l.length
    · obtain ⟨ga, o, rfl, s6⟩ := unhide HSl k hlt
      have s7 := s6.below (unhide Hb).2 s6.lt
      obtain ⟨r, hr⟩ : ∃ r, r = rc l k := ⟨_, rfl⟩
      have hsm := unhide HM k hlt
      have hbt := badOf_take hlt (unhide HB)
      have hct := catT_take hlt
      have hbf := fun h => badOf_found hlt (unhide HB) h
      have hts := catT_size (l.take k) (unhide HB)
      rw [List.length_take, Nat.min_eq_left hkl] at hts
      rw [← hr] at s7 hsm hbt hct hbf
      obtain ⟨_, x0, x1, x2, x3, x4, x5⟩ := s7
      have C1 : Hid (∀ W, Calls Tryz.prog 52 #[.agg #[.int .i64 r.k, .int .i64 r.q, .int .i64 r.t, .string r.s, .string r.h, .string r.d]] W fun e w' => e = .returned (encV r.k r.q r.t r.s r.h r.d) ∧ Below W.heap.size W w') := hide (fun W => encode_any r.k r.q r.t r.s r.h r.d W hsm.s hsm.h hsm.d)
      obtain ⟨E, hE⟩ : ∃ E, chkR r = E := ⟨_, rfl⟩
      have B0 : Hid (Bld (wr.alloc (recO2 r)) w.heap.size w.heap.size (catT (l.take k)) ∧ Below w.heap.size w (wr.alloc (recO2 r))) := hide ⟨(unhide Hb).1.alloc' _, bstep (unhide Hb).2 ((Below.refl _ _).alloc (Nat.le_refl _) _)⟩
      unfold recO2 at B0
      by_cases h0 : E = 0
      · have hc : chkR r = 0 := by rw [hE]; exact h0
        rw [enc_good hc] at C1
        have HB2 : Hid (badOf (l.take (k + 1)) = 0) := hide (by rw [hbt]; exact hc)
        have hcs := codT_size hc
        have PW : Hid (∀ W, Bld W w.heap.size w.heap.size (catT (l.take k)) → Below w.heap.size w W → Calls Tryz.prog 76 #[.pointer (some ⟨w.heap.size, 0, none⟩), .string (codT r)] W fun e w' => e = .returned (.tuple #[.int .i64 (codT r).size, .nilIface]) ∧ Bld w' w.heap.size w.heap.size (catT (l.take (k + 1))) ∧ Below w.heap.size W w') := hide (fun W hW hb => by
          rw [hct]
          exact bwrite_any _ _ _ _ W hW (by omega) hb.size)
        clear hE h0 hc hbt hct hbf hr HB s6 Hb hts
        go_wp2_with fail
        refine (unhide C1 _).mono ?_
        rintro e w2 ⟨rfl, b2⟩
        have B2 := hide (And.intro ((unhide B0).1.below' b2) (bstep (unhide B0).2 b2))
        have PW2 := hide (unhide PW w2 (unhide B2).1 (unhide B2).2)
        clear b2 B0 x0 x1 x2 x3 x4 x5 PW
        go_wp2_with fail
        refine (unhide PW2).mono ?_
        rintro e w3 ⟨rfl, h3, b3⟩
        have B3 := hide (And.intro h3 ((unhide B2).2.trans b3))
        clear h3 b3 B2 PW2
        go_wp2_with fail
        refine ⟨⟨k + 1, by go_num, by omega, HB2, B3⟩, ?_⟩
        simp [intOf]; omega
      · have HRes : Hid (allV l = .tuple #[.string ⟨#[]⟩, .int .i64 E]) := hide (by
          have h1 := (hbf (by rw [hE]; exact h0)).trans hE
          unfold allV
          rw [h1, if_neg h0])
        rw [enc_bad hE h0] at C1
        have h1 : (E != 0) = true := by simpa using h0
        clear hE hbt hct hbf hr HB s6 Hb
        go_wp2_with fail
        refine (unhide C1 _).mono ?_
        rintro e w1 ⟨rfl, b1⟩
        have E1 := hide (bstep (unhide B0).2 b1)
        clear b1 x0 x1 x2 x3 x4 x5 B0
        go_wp2_with fail
        go_ret2
        rw [unhide HRes]
        exact ⟨rfl, unhide E1⟩
    · obtain rfl : k = l.length := by omega
      have HV : Hid (allV l = .tuple #[.string (catT l), .int .i64 0]) := hide (by
        have := unhide HB
        rw [List.take_length] at this
        unfold allV
        rw [if_pos this])
      have h3 := unhide Hb
      rw [List.take_length] at h3
      have PS := hide (bstring_any _ _ _ _ h3.1 h3.2.size)
      have B3 := hide h3.2
      clear h3 Hb HB
      go_wp2_with fail
      refine (unhide PS).mono ?_
      rintro e w4 ⟨rfl, b4⟩
      have B4 := hide ((unhide B3).trans b4)
      clear b4 PS B3
      go_wp2_with fail
      go_ret2
      rw [unhide HV]
      exact ⟨rfl, unhide B4⟩
end Go.Proofs.YtohjipnkoiifhagGreatDoor.Dk

namespace Go.Proofs.YtohjipnkoiifhagGreatDoor.Dk
open Go.RowKit

/-- the files behind the append and the Sync of what is rewritten -/
theorem rew_app {m : Int} {es : List Pap} {t : ByteArray} (ht : Tidy m es) (h0 : appE es m (nextN es) t = 0) : appL es m (nextN es) t = es ++ [⟨nextN es, 0, t⟩] := by
  by_cases hz : es.length = 0
  · obtain rfl : es = [] := List.eq_nil_of_length_eq_zero hz
    obtain ⟨hI, hf⟩ := app_ok.1 h0
    rw [(app_new hI hf (by simp)).2]
    simp [insL]
  · obtain ⟨pre, e, rfl⟩ : ∃ pre e, es = pre ++ [e] := ⟨es.dropLast, es.getLast (by intro h; rw [h] at hz; simp at hz), (List.dropLast_concat_getLast _).symm⟩
    have hn : nextN (pre ++ [e]) = e.n + 1 := by
      unfold nextN
      rw [if_neg hz, (last_ix ht.rise).2.2]
    rw [hn] at h0 ⊢
    exact app_next ht.rise h0
theorem rew_sync {m : Int} {es : List Pap} {n : Int} {t : ByteArray} (ht : Tidy m (es ++ [⟨n, 0, t⟩])) : syncL (es ++ [⟨n, 0, t⟩]) n = es ++ [⟨n, (t.size : Int), t⟩] := by
  have := sync_last (pre := es) (e := ⟨n, 0, t⟩) ht.rise
  simpa [syncP] using this
/-- all files ahead of the new one are removed -/
theorem rew_rems {m : Int} {es : List Pap} {x : Pap} (ht : Tidy m (es ++ [x])) : (numL es).reverse.foldl remL (es ++ [x]) = [x] := by
  have h := rem_rev [x] es.length [] es rfl (by rw [List.nil_append]; exact ht.rise)
  rw [List.nil_append, List.nil_append] at h
  exact h
theorem allV_bad {l : List Rc} {E : Int} (h : badOf l = E) (h0 : E ≠ 0) : allV l = .tuple #[.string ⟨#[]⟩, .int .i64 E] := by unfold allV; rw [h, if_neg h0]
theorem allV_good {l : List Rc} (h : badOf l = 0) : allV l = .tuple #[.string (catT l), .int .i64 0] := by unfold allV; rw [if_pos h]
section
variable {Has : World → Nat → Nat → (Nat → Prop) → Int → List Pap → Prop} {w wr : World} {B q g : Nat} {size : Int} {F : Nat → Prop} {m : Int} {es : List Pap} {Cs : Nat → Prop}
theorem Run.blocks (H : Works Has) (HS : Lists Has) (h : Run Has Cs w wr B q F m es) (ht : Tidy m es) (hm : m ≤ 65536) (hB : B ≤ w.heap.size) (c0 : wr.cell? ⟨g, 0, none⟩ = some (.pointer (some ⟨q, 0, none⟩))) :
    Calls Tryz.prog 43 #[.pointer (some ⟨g, 0, none⟩)] wr fun e w' => ∃ a c, e = .returned (.slice a es.length c) ∧ (es.length ≤ c ∧ c ≤ maxLen) ∧ SlI w' a (numL es) ∧ Run Has (fun k => Cs k ∨ ∃ z, a = some z ∧ z.block = k) w w' B q F m es ∧ Kept Cs wr w' := by
  have hr := h.room
  obtain ⟨F', h1, _⟩ := id h
  refine (lblocks_new HS h1 ht hm (Nat.le_trans hB hr) c0).mono ?_
  rintro e w' ⟨a, c, he, hc, hs, ha, hb⟩
  refine ⟨a, c, he, hc, hs, h.mine H hb (fun k hk => ?_), (h.below H hb).2⟩
  rcases hk with y | ⟨z, hz, rfl⟩
  · exact .inl y
  · exact .inr (ha z hz)
theorem Run.removed (H : Works Has) (HS : Lists Has) (h : Run Has Cs w wr B q F m es) (a : Option Addr) (zs : List Int) (cap : Nat) (hz : ∀ k, k < zs.length → wf (nth zs k)) (hlen : zs.length ≤ 1000) (hs : SlI wr a zs) (ha : ∀ z, a = some z → Cs z.block) (ht : Tidy m es) (hm : m ≤ 65536) (hB : B ≤ w.heap.size) :
    Calls Tryz.prog 48 #[.pointer (some ⟨q, 0, none⟩), .slice a zs.length cap] wr fun e w' => e = .returned (.tuple #[]) ∧ Run Has Cs w w' B q F m (zs.reverse.foldl remL es) ∧ Kept Cs wr w' := by
  have hr := h.room
  refine h.didc (Q := fun e _ => e = .returned (.tuple #[])) (es' := zs.reverse.foldl remL es) (fun F' hF hC => ?_)
  refine (lremove_any H HS a zs cap hz hlen hs (fun z hz => hC _ (ha z hz)) hF ht hm (Nat.le_trans hB hr)).mono ?_
  rintro e w' ⟨h1, h2, h3⟩
  exact ⟨h1, F', h2, h3, fun _ hk => .inl hk⟩

set_option maxRecDepth 100000 in
set_option maxHeartbeats 1000000 in
theorem lrewrite_has (H : More Has) (HS : Lists Has) (l : List Rc) (a : Option Addr) (c : Nat) (hsl : SlR w a l) (hsm : ∀ k, k < l.length → Small (rc l k)) (hl : l.length ≤ 200000) (h : Has w B q F m es) (ht : Tidy m es) (hm : m ≤ 65536) (hB : B ≤ w.heap.size) (c0 : w.cell? ⟨g, 0, none⟩ = some (.pointer (some ⟨q, 0, none⟩))) (c1 : w.cell? ⟨g, 1, none⟩ = some (.int .i64 size)) (hg : g < w.heap.size ∧ ¬ F g) :
    Calls Tryz.prog 23 #[.pointer (some ⟨g, 0, none⟩), .slice a l.length c] w fun e w' => e = .returned (.int .i64 (rewR es m size l).1) ∧ Did Has w w' B q F m (rewR es m size l).2 := by
  have hfew := ht.few
  have R0 := Run.start (Cs := fun k => k = g) h (fun k hk => by subst hk; exact hg)
  have U0 := hide R0
  have HT := hide ht
  have PE := hide (lencode_any l a c w hsl hsm hl)
  clear h ht R0 hsl hsm
  obtain ⟨E, hE⟩ : ∃ E, badOf l = E := ⟨_, rfl⟩
  by_cases h0 : E = 0
  · rw [h0] at hE
    have hts := catT_size l hE
    rw [allV_good hE] at PE
    have HB0 := hide hE
    obtain ⟨t, ht0⟩ : ∃ t, t = catT l := ⟨_, rfl⟩
    rw [← ht0] at PE hts
    have HE0 := hide ht0
    clear h0 hE ht0
    go_enter Tryz.func23, Tryz.ntmps23
    go_wp2_with fail
    refine (unhide PE).mono ?_
    rintro e w1 ⟨rfl, b1⟩
    obtain ⟨r1, k1⟩ := (unhide U0).below H.works b1
    have d0 := (k1.cell (C := g) (j := 0) rfl).trans c0
    have d1 := (k1.cell (C := g) (j := 1) rfl).trans c1
    have E0 := hide r1.done
    have PL := hide (r1.blocks (g := g) H.works HS (unhide HT) hm hB d0)
    clear b1 r1 k1 c0 c1 U0 PE
    by_cases hlarge : 1 < l.length ∧ size < (t.size : Int)
    · have HRes : Hid (rewR es m size l = (8, es)) := hide (rewR_large (unhide HB0) (by rw [← unhide HE0]; exact hlarge))
      have hg1 : (1 : Int) < (l.length : Int) := by omega
      have hg2 := hlarge.2
      clear hlarge PL
      go_wp2_with fail
      go_ret
      rw [unhide HRes]
      exact ⟨rfl, unhide E0⟩
    · have HL : Hid (¬ (1 < l.length ∧ size < (t.size : Int))) := hide hlarge
      have HN := hide (next_lastN es)
      have hlast : -1 ≤ lastN es ∧ lastN es ≤ 1099511627776 := by
        by_cases hz : es.length = 0
        · rw [lastN_none hz]; omega
        · obtain ⟨k, hk1⟩ : ∃ k, k + 1 = es.length := ⟨es.length - 1, by omega⟩
          rw [lastN_some hk1]
          have hnl := (unhide HT).each _ (pa_mem (show k < es.length by omega))
          have hn1 : 0 ≤ (pa es k).n ∧ (pa es k).n ≤ 1099511627776 := by simpa [inI] using hnl.1
          omega
      have hw : IntKind.i64.wrap (lastN es + 1) = nextN es := by rw [unhide HN, IntKind.wrap_i64]; omega
      have HWz : Hid (∀ k, k < (numL es).length → wf (nth (numL es) k)) := hide (fun k hk => by
        rw [num_length] at hk
        rw [num_nth hk]
        exact wf_of ((unhide HT).each _ (pa_mem hk)).1)
      have hcase : ((1 : Int) < (l.length : Int) ∧ decide (size < (t.size : Int)) = false) ∨ decide ((1 : Int) < (l.length : Int)) = false := by
        by_cases hg' : 1 < l.length
        · exact .inl ⟨by omega, decide_eq_false (by omega)⟩
        · exact .inr (decide_eq_false (by omega))
      have hAE : ∃ E8, appE es m (nextN es) t = E8 := ⟨_, rfl⟩
      obtain ⟨E8, hE8⟩ := hAE
      have HOK : Hid (E8 = 0 → appL es m (nextN es) t = es ++ [⟨nextN es, 0, t⟩] ∧ Tidy m (es ++ [⟨nextN es, 0, t⟩]) ∧ wf (nextN es) ∧ rewR es m size l = (0, [⟨nextN es, (t.size : Int), t⟩])) := hide (fun z => by
        rw [z] at hE8
        have e1 := rew_app (t := t) (unhide HT) hE8
        refine ⟨e1, by rw [← e1]; exact (unhide HT).app (nextN es) t, wf_of (app_ok.1 hE8).1, ?_⟩
        have := rewR_ok (es := es) (m := m) (size := size) (unhide HB0) (by rw [← unhide HE0]; exact unhide HL) (by rw [← unhide HE0]; exact hE8)
        rw [← unhide HE0] at this
        exact this)
      have HNO : Hid (E8 ≠ 0 → appL es m (nextN es) t = es ∧ rewR es m size l = (E8, es)) := hide (fun z => by
        rw [← hE8] at z
        refine ⟨app_not z, ?_⟩
        have := rewR_full (es := es) (m := m) (size := size) (unhide HB0) (by rw [← unhide HE0]; exact unhide HL) (by rw [← unhide HE0]; exact z)
        rw [← unhide HE0, hE8] at this
        exact this)
      have HE8 := hide hE8
      clear hlarge E0 hlast hE8
      rcases hcase with ⟨hg1, hg2⟩ | hg1
      all_goals go_wp2_with fail
      all_goals refine (unhide PL).mono ?_
      all_goals rintro e w2 ⟨a2, c2, rfl, _, s2, r2, k2⟩
      all_goals have f0 := (k2.cell (C := g) (j := 0) rfl).trans d0
      all_goals have S2 := hide s2
      all_goals have PN := hide (r2.looks H.works (fun F' hF => llast_any (g := g) HS hF (unhide HT) hm (Nat.le_trans hB r2.room) f0))
      all_goals clear PL k2 d0 d1 s2 r2
      all_goals go_wp2_with fail
      all_goals refine (unhide PN).mono ?_
      all_goals rintro e w3 ⟨rfl, r3, k3⟩
      all_goals have g0 := (k3.cell (C := g) (j := 0) (.inl rfl)).trans f0
      all_goals have S3 := hide (k3.nums (unhide S2) (fun z hz => .inr ⟨z, hz, rfl⟩))
      all_goals have PF := hide (lfiles_any g0)
      all_goals have PA := hide (r3.did (fun F' hF => H.works.append (nextN es) t hF (unhide HT) hm (by omega) (Nat.le_trans hB r3.room)))
      all_goals rw [unhide HE8] at PA
      all_goals clear PN k3 f0 S2 r3
      all_goals go_wp2_with fail
      all_goals refine (unhide PF).mono ?_
      all_goals rintro e w4 ⟨rfl, rfl⟩
      all_goals go_wp2_with fail
      all_goals refine (unhide PA).mono ?_
      all_goals rintro e w5 ⟨rfl, r5, k5⟩
      all_goals have l0 := (k5.cell (C := g) (j := 0) (.inl rfl)).trans g0
      all_goals have S5 := hide (k5.nums (unhide S3) (fun z hz => .inr ⟨z, hz, rfl⟩))
      all_goals clear PA PF k5 g0 S3
      all_goals by_cases h8 : E8 = 0
      all_goals first
        | (obtain ⟨e1, ht3, hwf, HRes⟩ := unhide HOK h8
           rw [e1] at r5
           have HT3 := hide ht3
           have HT4 := hide (ht3.sync (nextN es))
           have hRes := hide HRes
           have PS := hide (r5.did (fun F' hF => H.works.sync (nextN es) hwf hF (unhide HT3) hm (Nat.le_trans hB r5.room)))
           rw [rew_sync ht3] at PS HT4
           have PF := hide (lfiles_any l0)
           subst h8
           clear r5 e1 ht3 hwf HRes HOK HNO HE8
           go_wp2_with fail
           refine (unhide PF).mono ?_
           rintro e w6 ⟨rfl, rfl⟩
           go_wp2_with fail
           refine (unhide PS).mono ?_
           rintro e w7 ⟨rfl, r7, k7⟩
           have q0 := (k7.cell (C := g) (j := 0) (.inl rfl)).trans l0
           have S7 := k7.nums (unhide S5) (fun z hz => .inr ⟨z, hz, rfl⟩)
           have PR := hide (r7.removed H.works HS a2 (numL es) c2 (unhide HWz) (by rw [num_length]; omega) S7 (fun z hz => .inr ⟨z, hz, rfl⟩) (unhide HT4) hm hB)
           rw [rew_rems (unhide HT4), num_length] at PR
           have PF2 := hide (lfiles_any q0)
           clear PS PF k7 r7 S7 S5 l0
           go_wp2_with fail
           refine (unhide PF2).mono ?_
           rintro e w8 ⟨rfl, rfl⟩
           go_wp2_with fail
           refine (unhide PR).mono ?_
           rintro e w9 ⟨rfl, r9, _⟩
           have E9 := hide r9.done
           clear PR PF2 r9
           go_wp2_with fail
           go_ret
           rw [unhide hRes]
           exact ⟨rfl, unhide E9⟩)
        | (obtain ⟨e1, HRes⟩ := unhide HNO h8
           rw [e1] at r5
           have E5 := hide r5.done
           have hRes := hide HRes
           have hE' : (E8 != 0) = true := by simpa using h8
           clear r5 e1 HRes HOK HNO HE8
           go_wp2_with fail
           go_ret
           rw [unhide hRes]
           exact ⟨rfl, unhide E5⟩)
  · have HRes : Hid (rewR es m size l = (E, es)) := hide (rewR_bad hE h0)
    rw [allV_bad hE h0] at PE
    have h1 : (E != 0) = true := by simpa using h0
    clear hE
    go_enter Tryz.func23, Tryz.ntmps23
    go_wp2_with fail
    refine (unhide PE).mono ?_
    rintro e w1 ⟨rfl, b1⟩
    have E1 := hide ((unhide U0).below H.works b1).1.done
    clear b1 U0 PE
    go_wp2_with fail
    go_ret
    rw [unhide HRes]
    exact ⟨rfl, unhide E1⟩
end
end Go.Proofs.YtohjipnkoiifhagGreatDoor.Dk

namespace Go.Proofs.YtohjipnkoiifhagGreatDoor.Dk
open Go.RowKit

theorem lworks_of {Has : World → Nat → Nat → (Nat → Prop) → Int → List Pap → Prop} (H : More Has) (HS : Lists Has) : LWorks Has (LHof Has) := {
  looks := LHof.looks H
  down := fun h => h.down
  bad := fun size hz _ _ _ hB => lopen_bad size hz hB
  good := fun size hz h ht hm hB => lopen_any H HS size hz h ht hm hB
  append := fun r hs _ h ht hm hB => by
    obtain ⟨F0, hr, c0, c1, _, hfin⟩ := h.begin
    refine (hr.didc (fun F' hF hC => lappend_has H HS r hs hF ht hm hB c0 c1 (hC _ rfl))).mono ?_
    rintro e w' ⟨h1, h2, _⟩
    exact ⟨h1, hfin _ _ h2⟩
  sync := fun _ h ht hm hB => by
    obtain ⟨F0, hr, c0, _, _, hfin⟩ := h.begin
    refine (hr.didc (fun F' hF hC => lsync_has H HS hF ht hm hB c0 (hC _ rfl))).mono ?_
    rintro e w' ⟨h1, h2, _⟩
    exact ⟨h1, hfin _ _ h2⟩
  rewrite := fun l a c hsl hsm hl _ _ h ht hm hB => by
    obtain ⟨F0, hr, c0, c1, _, hfin⟩ := h.begin
    refine (hr.didc (fun F' hF hC => lrewrite_has H HS l a c hsl hsm hl hF ht hm hB c0 c1 (hC _ rfl))).mono ?_
    rintro e w' ⟨h1, h2, _⟩
    exact ⟨h1, hfin _ _ h2⟩
  blocks := fun _ h ht hm hB => by
    obtain ⟨F0, hr, c0, _, _, hfin⟩ := h.begin
    obtain ⟨F', h1, _⟩ := id hr
    refine (lblocks_new HS h1 ht hm hB c0).mono ?_
    rintro e w' ⟨a, c, he, _, hs, _, hb⟩
    exact ⟨a, c, he, hs, hfin _ _ (hr.below H.works hb).1⟩ }
end Go.Proofs.YtohjipnkoiifhagGreatDoor.Dk
