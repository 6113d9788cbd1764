/-
  The walk of the law IndexFinds: what is put is found by just the filters that take it; what is dropped is not.
-/
import Derived.Test.YtcdajajekmichadDoorWalkG2
import Derived.Test.YtcdajajekmichadDoorWalkIN
import Derived.Test.YtcdajajekmichadDoorWalkK1
namespace Go.Proofs.YtcdajajekmichadDoor
open Go.RowKit

theorem Keeps.lower {w : World} {B B' p : Nat} {v : Value} {es : List Ent} (h : Keeps w B p v es) (hB : B' ≤ B) : Keeps w B' p v es := by
  refine ⟨h.cell, h.free, Nat.le_trans hB h.base, h.lt, ⟨h.arr.1, ?_⟩, h.apart⟩
  rcases h.arr.2 with q | ⟨g, cap, cur, h1, h2, r⟩
  · exact .inl q
  · exact .inr ⟨g, cap, cur, h1, by omega, r⟩
theorem ArrS.empty (w : World) (B : Nat) : ArrS w B (.slice none 0 0) [] := World.ownsRow_nil w B _ 1
theorem fs_new (w w2 : World) (nm : Value) (k : Keeps w2 (w.alloc (.cells #[nm] 30)).heap.size (w.alloc (.cells #[nm] 30)).heap.size (.slice none 0 0) []) (hb : Below (w.alloc (.cells #[nm] 30)).heap.size (w.alloc (.cells #[nm] 30)) w2) :
    Fs w w2 w.heap.size (w.alloc (.cells #[nm] 30)).heap.size nm (.slice none 0 0) [] (.slice none 0 0) [] := by
  have hz : (w.alloc (.cells #[nm] 30)).heap.size = w.heap.size + 1 := by simp
  refine ⟨k.lower (by omega), ArrS.empty _ _, fun g hg => by simp [Value.ownBlock] at hg, fun q hq => ?_, fun g hg => by simp [Value.ownBlock] at hg, ?_, ?_, bstep ((Below.refl _ _).alloc (Nat.le_refl _) _) hb⟩
  · rcases hq with h | h
    · omega
    · simp [Value.ownBlock] at h
  · rw [hb.cell (p := ⟨w.heap.size, 0, none⟩) (by simp), cell_of_row _ w.heap.size 0 _ _ _ (heap_alloc_new w _)]; rfl
  · have := hb.size; omega
theorem put_len {es : List Ent} {s : ByteArray} {n : Int} : (putL es s n).length ≤ es.length + 1 := by
  unfold putL
  split
  · split
    · rw [List.length_set]; omega
    · split
      · omega
      · rw [insL_length (place_le _ _)]; omega
  · omega
def cnt (th : List ByteArray) (f : ByteArray) (k : Nat) : Nat := ((th.take k).filter (fun s => matchB f s)).length
theorem count_succ (th : List ByteArray) (f : ByteArray) (k : Nat) (hk : k < th.length) : cnt th f (k + 1) = cnt th f k + (if matchB f (tk th k) then 1 else 0) := by
  unfold cnt
  rw [List.take_succ_eq_append_getElem hk, List.filter_append, ← tk_get hk, List.length_append]
  cases h : matchB f (tk th k) <;> simp [h]
theorem count_le (th : List ByteArray) (f : ByteArray) (k : Nat) : cnt th f k ≤ th.length :=
  Nat.le_trans (List.length_filter_le _ _) (by rw [List.length_take]; omega)

set_option maxHeartbeats 4000000 in
set_option maxRecDepth 100000 in
theorem finds_any (a : Option Addr) (n cap : Nat) (Sx : Nat → ByteArray) (f : ByteArray) (kk : Int) (w : World) (hN : Names w a n Sx) (hf : f.size ≤ 140737488355328) :
    Calls Tryd.prog 7 #[.slice a n cap, .string f, .int .i64 kk] w fun e w' => e = .returned (.bool true) ∧ Below w.heap.size w w' := by
  have HN := hide hN
  clear hN
  have zab : ab.size ≤ 140737488355328 := by decide
  go_enter Tryd.func7, Tryd.ntmps7
  go_wp2_with fail
  refine (new_any _).mono ?_
  rintro e w2 ⟨rfl, k2, z2, b2⟩
  have S2 := hide (fs_new w w2 (.slice a n cap) k2 b2)
  have hpx : (w.alloc (.cells #[.slice a n cap] 30)).heap.size = w.heap.size + 1 := by simp
  rw [hpx] at S2
  clear k2 b2 z2 hpx
  go_wp2_with fail
  refine (put_any w.heap.size (w.heap.size + 1) _ [] ab 7 _ (unhide S2).kx good_nil zab (unhide S2).below.size).mono ?_
  rintro e w3 ⟨rfl, u3⟩
  rw [ab_put.1]
  rw [ab_put.2] at u3
  obtain ⟨vx3, s3⟩ := (unhide S2).upd u3
  have S3 := hide s3
  clear s3 u3
  go_wp2_with fail
  refine (count_any w.heap.size (w.heap.size + 1) _ [(ab, 7)] _ (unhide S3).kx).mono ?_
  rintro e w4 ⟨rfl, rfl⟩
  go_wp2_with fail
  refine (get_any w.heap.size (w.heap.size + 1) _ [(ab, 7)] ab _ (unhide S3).kx ab_good zab).mono ?_
  rintro e w5 ⟨rfl, b5⟩
  rw [ab_get.1, ab_get.2]
  have S5 := hide ((unhide S3).step b5)
  clear b5
  go_wp2_with fail
  refine (drop_any w.heap.size (w.heap.size + 1) _ [(ab, 7)] ab _ (unhide S5).kx ab_good zab).mono ?_
  rintro e w6 ⟨rfl, u6⟩
  rw [ab_drop] at u6
  obtain ⟨vx6, s6⟩ := (unhide S5).upd u6
  have S6 := hide s6
  have d6 := s6.cell
  clear s6 u6
  by_cases hn : 60 < n
  · have hn1 : (60 : Int) < (n : Int) := by omega
    go_wp2_with fail
    go_ret
    exact ⟨rfl, (unhide S6).below⟩
  · have hn1 : ¬ (60 : Int) < (n : Int) := by omega
    go_wp2_with fail
    refine (count_any w.heap.size (w.heap.size + 1) _ [] _ (unhide S6).kx).mono ?_
    rintro e w7 ⟨rfl, rfl⟩
    go_wp2_with fail
    clear d6
    go_loopw [10, 54] (fun tv kv wr => ∃ (k : Nat) (es : List Ent) (vx : Value) (th : List ByteArray), kv = .int .i64 k ∧ k ≤ n ∧ Hid (Fs w wr w.heap.size (w.heap.size + 1) (.slice a n cap) vx es tv th) ∧ Hid (Inv Sx n es th) ∧ es.length ≤ k) (fun _ kv _ => n - (intOf kv).toNat)
    case atStart => exact ⟨0, [], vx6, [], rfl, Nat.zero_le _, S6, hide Inv.nil, Nat.le_refl _⟩
    case round =>
      obtain ⟨k, es, vx, th, rfl, hk, S8, I8, hl⟩ := hrel
      by_cases hlt : k < n
      · obtain ⟨b, o, rfl, hb, hc, hsz⟩ := unhide HN k hlt
        have c1 : wr.cell? ⟨b, o + k, none⟩ = some (.string (Sx k)) := by rw [(unhide S8).below.cell (p := ⟨b, o + k, none⟩) hb]; exact hc
        clear hc
        obtain ⟨s, hs⟩ : ∃ s, Sx k = s := ⟨_, rfl⟩
        rw [hs] at c1 hsz
        have Hs := hide hs
        clear hs
        obtain ⟨ao, co, rfl⟩ := (unhide S8).th.shape
        have hth : th.length ≤ 60 := by rw [(unhide I8).len]; omega
        have PX := hide (put_any w.heap.size (w.heap.size + 1) vx es s (k : Int) wr (unhide S8).kx (unhide I8).good hsz (unhide S8).below.size)
        by_cases he : errS false s = 0
        · cases hh : hasAt es s with
          | true =>
            have Hp := hide (Go.Proofs.YtcdajajekmichadDoor.put_has (n := (k : Int)) he hh).1
            have I9 := hide ((unhide I8).put_has hlt (unhide Hs) hsz he hh)
            have Hc := hide (show th.any (fun t => eqB s t) = true by rw [← (unhide I8).has]; exact hh)
            clear he hh
            go_wp2_with fail
            refine (unhide PX).mono ?_
            rintro e w9 ⟨rfl, u9⟩
            rw [unhide Hp]
            obtain ⟨vx9, s9⟩ := (unhide S8).upd u9
            have S9 := hide s9
            clear s9 u9
            obtain ⟨a9, c9, e9, l9⟩ := (unhide S9).th.sl
            obtain ⟨rfl, _, rfl⟩ := Value.slice.inj e9
            have L9 := hide l9
            clear e9 l9
            go_wp2_with fail
            refine (contains_any _ _ th s _ (unhide L9) (by omega)).mono ?_
            rintro e w10 ⟨rfl, rfl⟩
            rw [unhide Hc]
            go_wp2_with fail
            refine ⟨⟨k + 1, _, vx9, th, by go_num, by omega, S9, I9, Nat.le_trans put_len (by omega)⟩, ?_⟩
            simp [intOf]; omega
          | false =>
            have Hp := hide (Go.Proofs.YtcdajajekmichadDoor.put_new (n := (k : Int)) he hh (by omega)).1
            have I9 := hide ((unhide I8).put_new hlt (unhide Hs) hsz he hh (by omega))
            have Hc := hide (show th.any (fun t => eqB s t) = false by rw [← (unhide I8).has]; exact hh)
            clear he hh
            go_wp2_with fail
            refine (unhide PX).mono ?_
            rintro e w9 ⟨rfl, u9⟩
            rw [unhide Hp]
            obtain ⟨vx9, s9⟩ := (unhide S8).upd u9
            have S9 := hide s9
            clear s9 u9
            obtain ⟨a9, c9, e9, l9⟩ := (unhide S9).th.sl
            obtain ⟨rfl, _, rfl⟩ := Value.slice.inj e9
            have L9 := hide l9
            clear e9 l9
            go_wp2_with fail
            refine (contains_any _ _ th s _ (unhide L9) (by omega)).mono ?_
            rintro e w10 ⟨rfl, rfl⟩
            rw [unhide Hc]
            have s10 := (unhide S9).step ((Below.refl _ _).alloc (Nat.le_refl _) (.cells #[.string s] 9))
            obtain ⟨vt, w11, hr, r1, r2, r3⟩ := sappend_blk _ w.heap.size 30 _ th s s10.th ⟨w10.heap.size, 0, none⟩ 1 (one_new w10 (.string s) 9) (by omega) s10.below.size
            have S11 := hide (s10.row (Chg.of_grown r2) r1 r3)
            clear s10 r1 r2 r3
            go_wp2_with (at_builtin; refine Lib.wpList_append_run _ rfl _ _ _ _ rfl _ _ rfl rfl _ _ hr ?_)
            refine ⟨⟨k + 1, _, vx9, th ++ [s], by go_num, by omega, S11, I9, Nat.le_trans put_len (by omega)⟩, ?_⟩
            simp [intOf]; omega
        · have Hp := hide (put_bad (es := es) (n := (k : Int)) he)
          have he2 : ((errS false s) == 0) = false := by rw [beq_eq_false_iff_ne]; exact he
          go_wp2_with fail
          refine (unhide PX).mono ?_
          rintro e w9 ⟨rfl, u9⟩
          rw [(unhide Hp).1]
          rw [(unhide Hp).2] at u9
          obtain ⟨vx9, s9⟩ := (unhide S8).upd u9
          have S9 := hide s9
          clear s9 u9
          go_wp2_with fail
          refine ⟨⟨k + 1, es, vx9, th, by go_num, by omega, S9, I8, by omega⟩, ?_⟩
          simp [intOf]; omega
      · obtain rfl : n = k := by omega
        have hth : th.length ≤ 60 := by rw [(unhide I8).len]; omega
        by_cases h0 : th.length = 0
        · obtain ⟨aT, cT, rfl⟩ := (unhide S8).th.shape
          have hz : ¬ (0 : Int) < (th.length : Int) := by omega
          obtain ⟨vT, esT, thT, hvT, heT, htT⟩ : ∃ vT esT thT, vT = vx ∧ esT = es ∧ thT = th := ⟨_, _, _, rfl, rfl, rfl⟩
          have ST := S8
          have IT := I8
          have hT : es.length ≤ 60 := by omega
          clear h0 hth
          subst hvT heT htT
          go_wp2_with fail
          refine (find_any w.heap.size (w.heap.size + 1) vT esT f _ (unhide ST).kx (unhide IT).good hf).mono ?_
          rintro e w20 ⟨v20, rfl, a20, b20⟩
          have S20 := hide ((unhide ST).step b20)
          clear b20
          by_cases he : errS true f = 0
          · rw [if_pos he] at a20
            obtain ⟨al, cl, rfl, l20⟩ := a20.sl
            have L20 := hide l20
            have hfl : (findL esT f).length ≤ 60 := Nat.le_trans (List.length_filter_le _ _) hT
            have hthl : thT.length ≤ 60 := by rw [(unhide IT).len]; exact hT
            rw [he]
            clear a20 l20 he
            go_wp2_with fail
            go_loopw [16, 122] (fun cv kv wr => ∃ j : Nat, kv = .int .i64 j ∧ j ≤ thT.length ∧ cv = .int .i64 (cnt thT f j) ∧ Hid (Fs w wr w.heap.size (w.heap.size + 1) (.slice a n cap) vT esT (.slice aT thT.length cT) thT) ∧ Hid (Sl wr al (findL esT f))) (fun _ kv _ => thT.length - (intOf kv).toNat)
            case atStart => exact ⟨0, rfl, Nat.zero_le _, rfl, S20, L20⟩
            case round =>
              obtain ⟨j, rfl, hj, rfl, S21, L21⟩ := hrel
              by_cases hjl : j < thT.length
              · exfalso; omega
              · obtain rfl : j = thT.length := by omega
                have q1 : ((cnt thT f thT.length : Int) == ((findL esT f).length : Int)) = true := by
                  have := (unhide IT).found f
                  unfold cnt
                  rw [List.take_of_length_le (Nat.le_refl _), ← this]
                  simp
                have q2 : ((esT.length : Int) == (thT.length : Int)) = true := by rw [(unhide IT).len]; simp
                go_wp2_with fail
                refine (count_any w.heap.size (w.heap.size + 1) _ esT _ (unhide S21).kx).mono ?_
                rintro e w25 ⟨rfl, rfl⟩
                go_wp2_with fail
                go_ret
                exact ⟨rfl, (unhide S21).below⟩
          · rw [if_neg he] at a20
            obtain ⟨al, cl, rfl, l20⟩ := a20.sl
            clear a20 l20
            go_wp2_with fail
            refine (filter_any f _ hf).mono ?_
            rintro e w21 ⟨rfl, b21⟩
            have B21 := hide (bstep (unhide S20).below b21)
            clear b21
            go_wp2_with fail
            go_ret
            exact ⟨rfl, unhide B21⟩
        · obtain ⟨g, ct, rfl, f1, f2, f3, f4⟩ := (unhide S8).th.there (by omega)
          have hz : (0 : Int) < (th.length : Int) := by omega
          go_wp2_with fail
          refine (rest_any kk th.length _ (by omega) (by omega)).mono ?_
          rintro e w11 ⟨i, rfl, hi, rfl⟩
          have D := (unhide I8).drop hi
          rw [← tk_get hi] at D
          obtain ⟨t, ht⟩ : ∃ t, tk th i = t := ⟨_, rfl⟩
          have d11 := (unhide S8).th.cell hi
          rw [ht] at D d11
          have HT := hide ht
          have HD := hide D
          clear D ht
          go_wp2_with fail
          refine (drop_any w.heap.size (w.heap.size + 1) vx es t _ (unhide S8).kx (unhide I8).good (unhide HD).2.2.2).mono ?_
          rintro e w12 ⟨rfl, u12⟩
          rw [(unhide HD).1]
          obtain ⟨vx12, s12⟩ := (unhide S8).upd u12
          have S12 := hide s12
          clear u12 s12 d11
          have d12 := (unhide S12).th.cell hi
          rw [unhide HT] at d12
          go_wp2_with fail
          refine (drop_any w.heap.size (w.heap.size + 1) vx12 (dropL es t) t _ (unhide S12).kx (unhide HD).2.1.good (unhide HD).2.2.2).mono ?_
          rintro e w13 ⟨rfl, u13⟩
          rw [(unhide HD).2.2.1]
          rw [drop_miss (by rw [(unhide HD).2.2.1]; decide)] at u13
          obtain ⟨vT, s13⟩ := (unhide S12).upd u13
          have S13 := hide s13
          clear u13 s13 d12
          go_wp2_with fail
          refine (sdelete_any w.heap.size _ th i _ (unhide S13).th hi (by omega)).mono ?_
          rintro e w14 ⟨v14, rfl, a14, c14, b14⟩
          obtain ⟨esT, heT⟩ : ∃ esT, dropL es t = esT := ⟨_, rfl⟩
          obtain ⟨thT, htT⟩ : ∃ thT, th.take i ++ th.drop (i + 1) = thT := ⟨_, rfl⟩
          have IT := hide (unhide HD).2.1
          rw [heT, htT] at IT
          rw [htT] at a14
          rw [heT] at S13
          have hT : esT.length ≤ 60 := by
            rw [← (unhide IT).len, ← htT, List.length_append, List.length_take, List.length_drop]
            omega
          obtain ⟨aT, cT, rfl⟩ := a14.shape
          have ST := hide ((unhide S13).row c14 a14 (.inl b14))
          clear a14 c14 b14 heT htT
          go_wp2_with fail
          refine (find_any w.heap.size (w.heap.size + 1) vT esT f _ (unhide ST).kx (unhide IT).good hf).mono ?_
          rintro e w20 ⟨v20, rfl, a20, b20⟩
          have S20 := hide ((unhide ST).step b20)
          clear b20
          by_cases he : errS true f = 0
          · rw [if_pos he] at a20
            obtain ⟨al, cl, rfl, l20⟩ := a20.sl
            have L20 := hide l20
            have hfl : (findL esT f).length ≤ 60 := Nat.le_trans (List.length_filter_le _ _) hT
            have hthl : thT.length ≤ 60 := by rw [(unhide IT).len]; exact hT
            rw [he]
            clear a20 l20 he
            go_wp2_with fail
            go_loopw [16, 122] (fun cv kv wr => ∃ j : Nat, kv = .int .i64 j ∧ j ≤ thT.length ∧ cv = .int .i64 (cnt thT f j) ∧ Hid (Fs w wr w.heap.size (w.heap.size + 1) (.slice a n cap) vT esT (.slice aT thT.length cT) thT) ∧ Hid (Sl wr al (findL esT f))) (fun _ kv _ => thT.length - (intOf kv).toNat)
            case atStart => exact ⟨0, rfl, Nat.zero_le _, rfl, S20, L20⟩
            case round =>
              obtain ⟨j, rfl, hj, rfl, S21, L21⟩ := hrel
              by_cases hjl : j < thT.length
              · obtain ⟨g, ct, e21, f1, f2, f3, f4⟩ := (unhide S21).th.there (by omega)
                obtain ⟨rfl, _, rfl⟩ := Value.slice.inj e21
                clear e21
                have d21 := (unhide S21).th.cell hjl
                have hmem : tk thT j ∈ thT := by rw [tk_get hjl]; exact List.getElem_mem hjl
                have hsz := (unhide IT).few hmem
                have Hmem := hide hmem
                have hb0 : Below wr.heap.size wr (wr.alloc (.cells #[.string (tk thT j)] 9)) := (Below.refl _ _).alloc (Nat.le_refl _) _
                have S22 := hide ((unhide S21).step hb0)
                have L22 := hide ((unhide L21).below hb0)
                have Hct := hide (count_succ thT f j hjl)
                have hcl := count_le thT f j
                clear hb0 hmem
                go_wp2_with fail
                refine (is_any 14 (.inl rfl) f (tk thT j) _ hf hsz).mono ?_
                rintro e w23 ⟨rfl, b23⟩
                rw [ask_match]
                have S23 := hide ((unhide S22).step b23)
                have L23 := hide ((unhide L22).below b23)
                have f23 : w23.cell? ⟨wr.heap.size, 0, none⟩ = some (.string (tk thT j)) := by rw [b23.cell (p := ⟨wr.heap.size, 0, none⟩) (by simp), cell_of_row _ wr.heap.size 0 _ _ _ (heap_alloc_new wr _)]; rfl
                have g23 : wr.heap.size < w23.heap.size := by have := b23.size; simp at this; omega
                clear b23 d21
                cases hm : matchB f (tk thT j) with
                | true =>
                  have PF := hide (containsf_any al cl (findL esT f) (tk thT j) wr.heap.size w.heap.size _ n cap Sx w23 (unhide L23) (by omega) f23 g23 (unhide S23).cell (unhide S23).lt ((unhide HN).below (unhide S23).below) ((unhide IT).nums f) ((unhide IT).hit (unhide Hmem) hm))
                  have Hc2 := hide (show cnt thT f (j + 1) = cnt thT f j + 1 by rw [unhide Hct, hm]; rfl)
                  clear hm f23 g23
                  go_wp2_with fail
                  refine (unhide PF).mono ?_
                  rintro e w24 ⟨rfl, b24⟩
                  have S24 := hide ((unhide S23).step b24)
                  have L24 := hide ((unhide L23).below b24)
                  clear b24
                  go_wp2_with fail
                  refine ⟨⟨j + 1, by go_num, by omega, by rw [unhide Hc2]; go_num, S24, L24⟩, ?_⟩
                  simp [intOf]; omega
                | false =>
                  have Hc2 := hide (show cnt thT f (j + 1) = cnt thT f j by rw [unhide Hct, hm]; rfl)
                  clear hm f23 g23
                  go_wp2_with fail
                  refine ⟨⟨j + 1, by go_num, by omega, by rw [unhide Hc2], S23, L23⟩, ?_⟩
                  simp [intOf]; omega
              · obtain rfl : j = thT.length := by omega
                have q1 : ((cnt thT f thT.length : Int) == ((findL esT f).length : Int)) = true := by
                  have := (unhide IT).found f
                  unfold cnt
                  rw [List.take_of_length_le (Nat.le_refl _), ← this]
                  simp
                have q2 : ((esT.length : Int) == (thT.length : Int)) = true := by rw [(unhide IT).len]; simp
                go_wp2_with fail
                refine (count_any w.heap.size (w.heap.size + 1) _ esT _ (unhide S21).kx).mono ?_
                rintro e w25 ⟨rfl, rfl⟩
                go_wp2_with fail
                go_ret
                exact ⟨rfl, (unhide S21).below⟩
          · rw [if_neg he] at a20
            obtain ⟨al, cl, rfl, l20⟩ := a20.sl
            clear a20 l20
            go_wp2_with fail
            refine (filter_any f _ hf).mono ?_
            rintro e w21 ⟨rfl, b21⟩
            have B21 := hide (bstep (unhide S20).below b21)
            clear b21
            go_wp2_with fail
            go_ret
            exact ⟨rfl, unhide B21⟩
end Go.Proofs.YtcdajajekmichadDoor
