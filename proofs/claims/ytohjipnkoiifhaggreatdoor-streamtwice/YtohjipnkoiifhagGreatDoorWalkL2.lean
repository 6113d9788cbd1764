/-
  The program's log: what Open reads, over what is asked of any disk.
-/
import Derived.Test.YtohjipnkoiifhagGreatDoorJointPlainSPlainR2PapGRowGPapNWorksGPapHWorksFRowBWalkC6RowY
import Derived.Test.YtohjipnkoiifhagGreatDoorJointWalkC3WalkC4
import Derived.Test.YtohjipnkoiifhagGreatDoorWalkC8
import Derived.Test.YtohjipnkoiifhagGreatDoorWalkLR
namespace Go.Proofs.YtohjipnkoiifhagGreatDoor.Dk
open Go.RowKit

theorem Kept.arr {Cs : Nat → Prop} {w w' : World} {B : Nat} {v : Value} {l : List Rc} (h : Kept Cs w w') (a : ArrR w B v l) (hn : ∀ g, v.ownBlock = some g → Cs g) : ArrR w' B v l := by
  refine ⟨a.1, ?_⟩
  rcases a.2 with q | ⟨g, cap, cur, h1, h2, h3, r⟩
  · exact .inl q
  · refine .inr ⟨g, cap, cur, h1, h2, ?_, r⟩
    rw [h.2 g (hn g (by rw [h1]; rfl))]
    exact h3
/-- append of a row onto a row of one's own -/
theorem append_arr (w : World) (B B1 : Nat) (v v1 : Value) (l fs : List Rc) (ha : ArrR w B v l) (h1 : ArrR w B1 v1 fs) (hl : l.length + fs.length ≤ 1000000) (hB : B ≤ w.heap.size) :
    ∃ v' w', (Builtin.append_ #[22, 22] 22 #[v, v1]).run Tryz.prog w = .ok v' w' ∧ ArrR w' B v' (l ++ fs) ∧ Chg (fun k => v.ownBlock = some k) w w' ∧ ∀ g, v'.ownBlock = some g → v.ownBlock = some g ∨ w.heap.size ≤ g := by
  have h1' := h1
  rcases h1.2 with ⟨e1, e2⟩ | ⟨g, cap, cur, e1, _⟩
  · obtain ⟨i0, hi, hz0, hz1, hz2⟩ := info_parts infoR
    obtain rfl : fs = [] := List.eq_nil_of_length_eq_zero e2
    refine ⟨v, w, ?_, by rw [List.append_nil]; exact ha, Chg.refl _ _, fun g hg => .inl hg⟩
    rw [e1]
    exact run_append_owned_none (P := Tryz.prog) w B 22 22 30 i0 6 Tryz.underlying22 hi v l.length (celR l) ha
  · rw [e1] at h1' ⊢
    exact append_rec w B 22 v l fs ha ⟨g, 0, none⟩ cap (World.ownsRow.cells h1' (g := g) rfl) hl hB
def recO2 (r : Rc) : Obj := .cells #[.int .i64 r.k, .int .i64 r.q, .int .i64 r.t, .string r.s, .string r.h, .string r.d] 30
/-- one record more, by way of a block of its own -/
theorem arr_one {w wr : World} {B : Nat} {ov : Value} {out : List Rc} (h : ArrR wr B ov out) (hb : Below B w wr) (r : Rc) (hl : out.length ≤ 200000) (hB : B ≤ wr.heap.size) :
    ∃ v8 w8, (Builtin.append_ #[22, 22] 22 #[ov, .slice (some ⟨wr.heap.size + 1, 0, none⟩) 1 1]).run Tryz.prog ((wr.alloc (recO2 r)).alloc (recO2 r)) = .ok v8 w8 ∧ ArrR w8 B v8 (out ++ [r]) ∧ Below B w w8 := by
  have hb7 : Below wr.heap.size wr ((wr.alloc (recO2 r)).alloc (recO2 r)) := ((Below.refl _ _).alloc (Nat.le_refl _) _).alloc (by simp) _
  have h7 := h.below hb7
  have hs7 := hb7.size
  obtain ⟨v8, w8, hrun, A8, C8, L8⟩ := append_rec ((wr.alloc (recO2 r)).alloc (recO2 r)) B 22 ov out [r] h7 ⟨(wr.alloc (recO2 r)).heap.size, 0, none⟩ 1 (six_row (wr.alloc (recO2 r)) r) (by simp; omega) (Nat.le_trans hB hs7)
  have e : (wr.alloc (recO2 r)).heap.size = wr.heap.size + 1 := by simp
  rw [e] at hrun
  refine ⟨v8, w8, hrun, A8, ?_⟩
  have hb8 : Below B ((wr.alloc (recO2 r)).alloc (recO2 r)) w8 := C8.below (Nat.le_trans hB hs7) (fun k hk z => by have := (World.ownsRow.lt h7 k z).1; omega)
  exact (hb.trans (hb7.mono hB)).trans hb8
/-- a disk on its way, the records that are told, the numbers of the files -/
def Opn (Has : World → Nat → Nat → (Nat → Prop) → Int → List Pap → Prop) (w wr : World) (B q : Nat) (F : Nat → Prop) (m : Int) (ov : Value) (a : Option Addr) (es : List Pap) (out : List Rc) (ns : List Int) : Prop :=
  Run Has (fun k => ov.ownBlock = some k ∨ ∃ z, a = some z ∧ z.block = k) w wr B q F m es ∧ ArrR wr w.heap.size ov out ∧ SlI wr a ns ∧ ∀ z, a = some z → ov.ownBlock ≠ some z.block
section
variable {Has : World → Nat → Nat → (Nat → Prop) → Int → List Pap → Prop} {w wr w' : World} {B q : Nat} {F : Nat → Prop} {m : Int} {ov : Value} {a : Option Addr} {es es' : List Pap} {out : List Rc} {ns : List Int}
theorem Opn.kept (h : Opn Has w wr B q F m ov a es out ns) (hk : Kept (fun k => ov.ownBlock = some k ∨ ∃ z, a = some z ∧ z.block = k) wr w') (hr : Run Has (fun k => ov.ownBlock = some k ∨ ∃ z, a = some z ∧ z.block = k) w w' B q F m es') : Opn Has w w' B q F m ov a es' out ns :=
  ⟨hr, hk.arr h.2.1 (fun _ hg => .inl hg), hk.nums h.2.2.1 (fun z hz => .inr ⟨z, hz, rfl⟩), h.2.2.2⟩
theorem Opn.below (H : Works Has) (h : Opn Has w wr B q F m ov a es out ns) (hb : Below wr.heap.size wr w') : Opn Has w w' B q F m ov a es out ns := h.kept (h.1.below H hb).2 (h.1.below H hb).1
theorem Opn.did (h : Opn Has w wr B q F m ov a es out ns) {fn : FuncId} {args : Array Value} {Q : Ending → World → Prop}
    (hc : ∀ F', Has wr B q F' m es → Calls Tryz.prog fn args wr fun e w' => Q e w' ∧ Did Has wr w' B q F' m es') :
    Calls Tryz.prog fn args wr fun e w' => Q e w' ∧ Opn Has w w' B q F m ov a es' out ns := by
  refine (h.1.did hc).mono ?_
  rintro e w' ⟨h1, h2, h3⟩
  exact ⟨h1, h.kept h3 h2⟩
/-- the row of the records that are told grows by a row -/
theorem Opn.join (H : Works Has) (h : Opn Has w wr B q F m ov a es out ns) {v1 : Value} {B1 : Nat} {rs : List Rc} (h1 : ArrR wr B1 v1 rs) (hl : out.length + rs.length ≤ 1000000) :
    ∃ v8 w8, (Builtin.append_ #[22, 22] 22 #[ov, v1]).run Tryz.prog wr = .ok v8 w8 ∧ Opn Has w w8 B q F m v8 a es (out ++ rs) ns := by
  have hs7 := h.1.room
  obtain ⟨v8, w8, hrun, A8, C8, L8⟩ := append_arr wr w.heap.size B1 ov v1 out rs h.2.1 h1 hl hs7
  have hall : ∀ z, a = some z → z.block < wr.heap.size := fun z hz => by
    obtain ⟨_, _, _, _, h4⟩ := h.1
    exact (h4 z.block (.inr ⟨z, hz, rfl⟩)).1
  refine ⟨v8, w8, hrun, h.1.own H C8 (fun k hk => ⟨.inl hk, (World.ownsRow.lt h.2.1 k hk).1⟩) (fun k hk => ?_), A8, h.2.2.1.chg C8 (fun z hz => h.2.2.2 z hz), fun z hz y => ?_⟩
  · rcases hk with y | y
    · rcases L8 k y with x | x
      · exact .inl (.inl x)
      · exact .inr ⟨x, (World.ownsRow.lt A8 k y).2⟩
    · exact .inl (.inr y)
  · rcases L8 _ y with x | x
    · exact h.2.2.2 z hz x
    · have := hall z hz; omega
/-- files are removed, their numbers a part of the row of numbers -/
theorem Opn.removed (H : Works Has) (HS : Lists Has) (h : Opn Has w wr B q F m ov a es out ns) (a' : Option Addr) (zs : List Int) (cap : Nat) (hz : ∀ k, k < zs.length → wf (nth zs k)) (hlen : zs.length ≤ 1000) (hs : SlI wr a' zs) (ha : ∀ z, a' = some z → ∃ y, a = some y ∧ y.block = z.block) (ht : Tidy m es) (hm : m ≤ 65536) (hB : B ≤ w.heap.size) :
    Calls Tryz.prog 48 #[.pointer (some ⟨q, 0, none⟩), .slice a' zs.length cap] wr fun e w' => e = .returned (.tuple #[]) ∧ Opn Has w w' B q F m ov a (zs.reverse.foldl remL es) out ns := by
  have hr := h.1.room
  refine (h.1.didc (Q := fun e _ => e = .returned (.tuple #[])) (es' := zs.reverse.foldl remL es) (fun F' hF hC => ?_)).mono ?_
  · refine (lremove_any H HS a' zs cap hz hlen hs (fun z hz => ?_) hF ht hm (Nat.le_trans hB hr)).mono ?_
    · obtain ⟨y, hy, he⟩ := ha z hz
      rw [← he]
      exact hC _ (.inr ⟨y, hy, rfl⟩)
    · rintro e w' ⟨h1, h2, h3⟩
      exact ⟨h1, F', h2, h3, fun _ hk => .inl hk⟩
  · rintro e w' ⟨h1, h2, h3⟩
    exact ⟨h1, h.kept h3 h2⟩
theorem Opn.num {es0 : List Pap} (h : Opn Has w wr B q F m ov a es out (numL es0)) {i b o : Nat} (ha : a = some ⟨b, o, none⟩) (hi : i < es0.length) : wr.cell? ⟨b, o + i, none⟩ = some (.int .i64 (pa es0 i).n) := by
  obtain ⟨b', o', h1, _, h3⟩ := h.2.2.1.num hi
  rw [ha] at h1
  cases h1
  exact h3
end


set_option maxRecDepth 100000 in
set_option maxHeartbeats 1000000 in
theorem lrecords_any (tx : ByteArray) (w : World) (htx : tx.size ≤ 65536) :
    Calls Tryz.prog 109 #[.string tx] w fun e w' => ∃ (ov : Value) (rs : List Rc) (k : Nat), e = .returned (.tuple #[ov, .int .i64 (k : Int)]) ∧ ArrR w' w.heap.size ov rs ∧ Below w.heap.size w w' ∧ ((k = tx.size ∧ scanT tx = (rs, none)) ∨ (k < tx.size ∧ scanT tx = (rs, some k))) := by
  have hll : tx.data.toList.length = tx.size := by simp
  go_enter Tryz.func109, Tryz.ntmps109
  go_wp2_with fail
  go_loopw [4, 5] (fun ov gv wr => ∃ (k : Nat) (rs : List Rc), gv = .int .i64 k ∧ k ≤ tx.size ∧ rs.length ≤ 65536 ∧ Hid (Dk.Read tx.data.toList k rs) ∧ Hid (ArrR wr w.heap.size ov rs ∧ Below w.heap.size w wr)) (fun _ gv _ => tx.size - (intOf gv).toNat)
  case atStart => exact ⟨0, [], rfl, Nat.zero_le _, Nat.zero_le _, hide (Dk.Read.start _), hide ⟨ArrR.empty _ _, Below.refl _ _⟩⟩
  case round =>
    obtain ⟨k, rs, rfl, hk, hrs, R4, T4⟩ := hrel
    by_cases hlt : k < tx.size
    · have hk3 : k < tx.data.toList.length := by omega
      obtain ⟨r0, n0, e0, hdec⟩ : ∃ r0 n0 e0, Pk.dec (tx.data.toList.drop k) = (r0, n0, e0) := ⟨_, _, _, rfl⟩
      obtain ⟨r, hr⟩ : ∃ r, r = rcOf r0 := ⟨_, rfl⟩
      have HD : Hid (decV (tx.extract k tx.size).data.toList = .tuple #[.agg #[.int .i64 r.k, .int .i64 r.q, .int .i64 r.t, .string r.s, .string r.h, .string r.d], .int .i64 n0, .int .i64 e0]) := hide (by rw [drop_ext, hr]; exact decV_of hdec)
      have hes : (tx.extract k tx.size).size ≤ 281474976710656 := by simp; omega
      by_cases he : e0 = 0
      · have hd0 : (Pk.dec (tx.data.toList.drop k)).2.2 = 0 := by rw [hdec]; exact he
        have hpos := dec_pos hd0
        have HS := hide ((unhide R4).step hk3 hd0)
        rw [hdec, ← hr] at HS
        rw [hdec, List.length_drop] at hpos
        simp only at hpos HS
        subst he
        have hkn : k + n0 ≤ tx.size := by omega
        have hpos1 := hpos.1
        have hl2 : (rs ++ [r]).length ≤ 65536 := by have := (unhide HS).len; omega
        have HL2 := hide hl2
        have hw : IntKind.i64.wrap ((k : Int) + (n0 : Int)) = ((k + n0 : Nat) : Int) := by rw [IntKind.wrap_i64]; omega
        clear hd0 hdec hr hpos hll hl2
        go_wp2_with fail
        refine (decode_any _ _ hes).mono ?_
        rintro e w5 ⟨rfl, b5⟩
        rw [unhide HD]
        obtain ⟨v8, w8, hrun, t8⟩ := arr_one ((unhide T4).1.below b5) (bstep (unhide T4).2 b5) r (by omega) (bstep (unhide T4).2 b5).size
        have T8 := hide t8
        unfold recO2 at hrun
        have HRun := hide hrun
        clear b5 t8 T4 hrun
        go_wp2_with (at_builtin; refine Lib.wpList_append_run _ rfl _ _ _ _ rfl _ _ rfl rfl _ _ (unhide HRun) ?_)
        clear HRun
        refine ⟨⟨k + n0, rs ++ [r], by go_num, hkn, unhide HL2, HS, T8⟩, ?_⟩
        simp [intOf]; omega
      · have hE2 : ¬ (e0 = 0) := he
        have hE' : (e0 != 0) = true := by simp [he]
        have hd0 : (Pk.dec (tx.data.toList.drop k)).2.2 ≠ 0 := by rw [hdec]; exact he
        have HS : Hid (scanT tx = (rs, some k)) := hide ((unhide R4).bad hk3 hd0)
        clear hd0 hdec hr R4 he hll
        go_wp2_with fail
        refine (decode_any _ _ hes).mono ?_
        rintro e w5 ⟨rfl, b5⟩
        rw [unhide HD]
        have T6 : Hid (ArrR (w5.alloc (recO2 r)) w.heap.size u4 rs ∧ Below w.heap.size w (w5.alloc (recO2 r))) := hide ⟨((unhide T4).1.below b5).below ((Below.refl _ _).alloc (Nat.le_refl _) _), bstep (bstep (unhide T4).2 b5) ((Below.refl _ _).alloc (Nat.le_refl _) _)⟩
        unfold recO2 at T6
        clear b5 T4
        go_wp2_with fail
        go_ret2
        exact ⟨_, rs, k, rfl, (unhide T6).1, (unhide T6).2, .inr ⟨hlt, unhide HS⟩⟩
    · have HR : Hid (scanT tx = (rs, none)) := hide ((unhide R4).done (by omega))
      obtain rfl : k = tx.size := by omega
      clear R4 hll
      go_wp2_with fail
      go_ret2
      exact ⟨_, rs, tx.size, rfl, (unhide T4).1, (unhide T4).2, .inl ⟨rfl, unhide HR⟩⟩
theorem num_drop (es : List Pap) (i : Nat) : (numL (es.drop i)).length = es.length - i := by unfold numL; rw [List.length_map, List.length_drop]
theorem nth_drop {es : List Pap} {i k : Nat} (h : i + k < es.length) : nth (numL (es.drop i)) k = (pa es (i + k)).n := by
  unfold nth numL
  rw [List.getElem?_map, List.getElem?_drop, List.getElem?_eq_getElem h, pa_get h]
  rfl
/-- the files behind the one that is cut are removed, then it is cut -/
theorem rems_behind {m : Int} {es : List Pap} (ht : Tidy m es) (i : Nat) : (numL (es.drop (i + 1))).reverse.foldl remL es = es.take (i + 1) := by
  have h := rem_rev [] (es.drop (i + 1)).length (es.take (i + 1)) (es.drop (i + 1)) rfl (by rw [List.append_nil, List.take_append_drop]; exact ht.rise)
  rw [List.append_nil, List.append_nil, List.take_append_drop] at h
  exact h
theorem pa_take {es : List Pap} {i j : Nat} (h : i < j) : pa (es.take j) i = pa es i := by
  unfold pa
  rw [List.getElem?_take_of_lt h]
theorem cut_behind {m : Int} {es : List Pap} {i k : Nat} (ht : Tidy m (es.take (i + 1))) (hi : i < es.length) (hk : k ≤ (pa es i).text.size) : cutL (es.take (i + 1)) (pa es i).n (k : Int) = es.take i ++ [cutP (pa es i) k] ∧ cutE (es.take (i + 1)) (pa es i).n (k : Int) = 0 := by
  have hl : (es.take (i + 1)).length = i + 1 := by rw [List.length_take]; omega
  have hp := pa_take (es := es) (Nat.lt_succ_self i)
  have h := cutL_pa ht (i := i) (k := k) (by omega) (by rw [hp]; exact hk)
  rw [hp] at h
  rw [h.1, h.2]
  refine ⟨?_, rfl⟩
  rw [List.take_take, Nat.min_eq_left (by omega), List.drop_eq_nil_of_le (by omega)]

set_option maxRecDepth 100000 in
set_option maxHeartbeats 1000000 in
theorem lread_any {Has : World → Nat → Nat → (Nat → Prop) → Int → List Pap → Prop} {w : World} {B q : Nat} {F : Nat → Prop} {m : Int} {es : List Pap} (H : More Has) (HS : Lists Has) (h : Has w B q F m es) (ht : Tidy m es) (hm : m ≤ 65536) (hB : B ≤ w.heap.size) :
    Calls Tryz.prog 75 #[.pointer (some ⟨q, 0, none⟩)] w fun e w' => ∃ ov a, e = .returned ov ∧ Opn Has w w' B q F m ov a (openL es).2 (openL es).1 (numL es) := by
  have hfew := ht.few
  have hfit := ht.fits
  have PL := hide ((Run.start (Cs := fun _ => False) h (fun _ z => z.elim)).list H.works HS ht hm hB)
  have HT := hide ht
  clear h ht
  go_enter Tryz.func75, Tryz.ntmps75
  go_wp2_with fail
  refine (unhide PL).mono ?_
  rintro e w1 ⟨a, c, rfl, ⟨hc1, hc2⟩, s1, r1, _⟩
  unfold maxLen at hc2
  have T1 : Hid (Opn Has w w1 B q F m (.slice none 0 0) a es [] (numL es)) := hide ⟨r1.fewer (fun k hk => by
    rcases hk with y | y
    · cases y
    · exact .inr y), ArrR.empty _ _, s1, fun z _ y => by cases y⟩
  clear s1 r1 PL
  go_wp2_with fail
  go_loopw [3, 15] (fun ov iv wr => ∃ (i : Nat) (acc : List Rc), iv = .int .i64 i ∧ i ≤ es.length ∧ acc.length ≤ 65536 ∧ Hid (Reads es i acc) ∧ Hid (Opn Has w wr B q F m ov a es acc (numL es))) (fun _ iv _ => es.length - (intOf iv).toNat)
  case atStart => exact ⟨0, [], rfl, Nat.zero_le _, Nat.zero_le _, hide (Reads.start es), T1⟩
  case round =>
    clear T1
    obtain ⟨i, acc, rfl, hi, hacc, R2, T2⟩ := hrel
    by_cases hlt : i < es.length
    · obtain ⟨ba, oa, rfl, hba, c1⟩ := (unhide T2).2.2.1.num hlt
      have hwn := wf_of ((unhide HT).each _ (pa_mem hlt)).1
      have hBr := Nat.le_trans hB (unhide T2).1.room
      have PR := hide ((unhide T2).did (Q := fun e _ => e = .returned (readV es (pa es i).n)) (fun F' hF => H.works.read (pa es i).n hwn hF (unhide HT) hm hBr))
      rw [readV_pa (unhide HT) hlt] at PR
      have hu := used_mem (pa_mem hlt)
      obtain ⟨tx, htx⟩ : ∃ tx, tx = (pa es i).text := ⟨_, rfl⟩
      rw [← htx] at PR hu
      have HX := hide htx
      have hwn' := hide hwn
      clear htx hwn hBr
      go_wp2_with fail
      refine (unhide PR).mono ?_
      rintro e w3 ⟨rfl, t3⟩
      have T3 := hide t3
      clear t3 PR c1 hba T2
      go_wp2_with fail
      refine (lrecords_any tx _ (by omega)).mono ?_
      rintro e w4 ⟨ov1, rs, k, rfl, a4, b4, hsc⟩
      have hrs : rs.length ≤ tx.size := by
        have h1 := scanT_len tx
        rcases hsc with ⟨_, y⟩ | ⟨_, y⟩
        · rw [y] at h1; exact h1
        · rw [y] at h1; exact h1
      obtain ⟨v8, w8, hrun, t8⟩ := ((unhide T3).below H.works b4).join H.works a4 (by omega)
      have HRun := hide hrun
      have T8 := hide t8
      obtain ⟨ao, co, hov, _⟩ := a4.shape
      subst hov
      clear a4 b4 hrun t8 T3
      rcases hsc with ⟨hkz, hsc⟩ | ⟨hkz, hsc⟩
      · have HS2 := hide ((unhide R2).step (rs := rs) hlt (by rw [← unhide HX]; exact hsc))
        have hl2 : (acc ++ rs).length ≤ 65536 := by have := (unhide HS2).len; omega
        have HL2 := hide hl2
        have hge : ¬ k < tx.size := by omega
        clear hsc R2 hl2
        subst hkz
        go_wp2_with (at_builtin; refine Lib.wpList_append_run _ rfl _ _ _ _ rfl _ _ rfl rfl _ _ (unhide HRun) ?_)
        clear HRun
        refine ⟨⟨i + 1, acc ++ rs, by go_num, by omega, unhide HL2, HS2, T8⟩, ?_⟩
        simp [intOf]; omega
      · have HO : Hid (openL es = (acc ++ rs, es.take i ++ [cutP (pa es i) k])) := hide ((unhide R2).bad hlt (by rw [← unhide HX]; exact hsc))
        have hw2 : IntKind.i64.wrap ((i : Int) + 1) = ((i + 1 : Nat) : Int) := by rw [IntKind.wrap_i64]; omega
        have HTk := hide (Tidy.rems (numL (es.drop (i + 1))).reverse (unhide HT))
        rw [rems_behind (unhide HT) i] at HTk
        have HC := hide (cut_behind (unhide HTk) hlt (k := k) (by rw [← unhide HX]; omega))
        have hwz : ∀ j, j < (numL (es.drop (i + 1))).length → wf (nth (numL (es.drop (i + 1))) j) := fun j hj => by
          rw [num_drop] at hj
          rw [nth_drop (by omega)]
          exact wf_of ((unhide HT).each _ (pa_mem (by omega))).1
        have HWz := hide hwz
        have hkz' : (k : Int) < (tx.size : Int) := by omega
        have PR2 : Hid (∀ a' cap', SlI w8 a' (numL (es.drop (i + 1))) → (∀ z, a' = some z → z.block = ba) → Calls Tryz.prog 48 #[.pointer (some ⟨q, 0, none⟩), .slice a' (es.length - (i + 1)) cap'] w8 fun e w' => e = .returned (.tuple #[]) ∧ Opn Has w w' B q F m v8 (some ⟨ba, oa, none⟩) (es.take (i + 1)) (acc ++ rs) (numL es)) := hide (fun a' cap' hs' hb' => by
          have h := (unhide T8).removed H.works HS a' (numL (es.drop (i + 1))) cap' (unhide HWz) (by rw [num_drop]; omega) hs' (fun z hz => ⟨⟨ba, oa, none⟩, rfl, (hb' z hz).symm⟩) (unhide HT) hm hB
          rw [rems_behind (unhide HT) i, num_drop] at h
          exact h)
        have PC2 : Hid (∀ w9, Opn Has w w9 B q F m v8 (some ⟨ba, oa, none⟩) (es.take (i + 1)) (acc ++ rs) (numL es) → Calls Tryz.prog 110 #[.pointer (some ⟨q, 0, none⟩), .int .i64 (pa es i).n, .int .i64 (k : Int)] w9 fun e w' => e = .returned (.int .i64 0) ∧ Opn Has w w' B q F m v8 (some ⟨ba, oa, none⟩) (openL es).2 (openL es).1 (numL es)) := hide (fun w9 o9 => by
          have h := o9.did (fun F' hF => H.cut (pa es i).n (k : Int) (unhide hwn') hF (unhide HTk) hm (Nat.le_trans hB o9.1.room))
          rw [(unhide HC).1, (unhide HC).2] at h
          rw [unhide HO]
          exact h)
        have S8 : Hid (SlI w8 (some ⟨ba, oa + (i + 1), none⟩) (numL (es.drop (i + 1)))) := hide (fun j hj => by
          rw [num_drop] at hj
          have h1 := (unhide T8).num rfl (show i + 1 + j < es.length by omega)
          obtain ⟨b', o', x1, x2, _⟩ := (unhide T8).2.2.1.num (show i + 1 + j < es.length by omega)
          cases x1
          exact ⟨ba, oa + (i + 1), rfl, x2, by rw [nth_drop (by omega), Nat.add_assoc]; exact h1⟩)
        clear hsc R2 hwz T8 HC HTk HO HX
        by_cases hi1 : i + 1 < es.length
        · have hne : ¬ c = i + 1 := by omega
          have hne2 : i + 1 < c := by omega
          go_wp2_with (at_builtin; refine Lib.wpList_append_run _ rfl _ _ _ _ rfl _ _ rfl rfl _ _ (unhide HRun) ?_)
          refine (unhide PR2 _ _ (unhide S8) (fun z hz => by cases hz; rfl)).mono ?_
          rintro e w9 ⟨rfl, t9⟩
          have PC3 := hide (unhide PC2 w9 t9)
          clear t9 PR2 PC2 S8 HRun
          go_wp2_with fail
          refine (unhide PC3).mono ?_
          rintro e w10 ⟨rfl, t10⟩
          have T10 := hide t10
          clear t10 PC3
          go_wp2_with fail
          go_ret
          exact ⟨_, _, rfl, unhide T10⟩
        · have hne : es.length - (i + 1) = 0 := by omega
          have S9 : Hid (∀ a', SlI w8 a' (numL (es.drop (i + 1)))) := hide (fun a' j hj => by rw [num_drop] at hj; omega)
          rw [hne] at PR2
          go_wp2_with (at_builtin; refine Lib.wpList_append_run _ rfl _ _ _ _ rfl _ _ rfl rfl _ _ (unhide HRun) ?_)
          all_goals refine (unhide PR2 _ _ (unhide S9 _) (fun z hz => by cases hz; rfl)).mono ?_
          all_goals rintro e w9 ⟨rfl, t9⟩
          all_goals have PC3 := hide (unhide PC2 w9 t9)
          all_goals clear t9 PR2 PC2 S8 S9 HRun
          all_goals go_wp2_with fail
          all_goals refine (unhide PC3).mono ?_
          all_goals rintro e w10 ⟨rfl, t10⟩
          all_goals have T10 := hide t10
          all_goals clear t10 PC3
          all_goals go_wp2_with fail
          all_goals go_ret
          all_goals exact ⟨_, _, rfl, unhide T10⟩
    · have HR := hide ((unhide R2).done hlt)
      go_wp2_with fail
      go_ret
      refine ⟨_, a, rfl, ?_⟩
      rw [unhide HR]
      exact unhide T2
end Go.Proofs.YtohjipnkoiifhagGreatDoor.Dk
