/-
  Contracts of the document's index: Shelf.Put, Shelf.Find; and of index.Find.
-/
import Derived.Test.YtcdajajekmichaaDoorWalkI6
import Derived.Test.YtcdajajekmichaaDoorRowF
namespace Go.Proofs.YtcdajajekmichaaDoor
open Go.RowKit

theorem own_row {W : World} {B g cap : Nat} {l : List ByteArray} (h : Own W B g cap l) : Row W g 0 l := fun k hk => by rw [Nat.zero_add]; exact own_cells h k hk
theorem few_pcs {s : ByteArray} (h : (Pl.toks s).length ≤ 8) : (Pl.pcs s.data.toList).length ≤ 1099511627776 := by rw [← Pl.toks_length]; omega

set_option maxHeartbeats 2000000 in
theorem rput_any (B p : Nat) (v : Value) (es : List Ent) (s : ByteArray) (n : Int) (w : World) (hk : Keeps w B p v es) (hg : Good es) (hs : s.size ≤ 140737488355328) (hB : B ≤ w.heap.size) :
    Calls Tryd.prog 20 #[.pointer (some ⟨p, 0, none⟩), .string s, .int .i64 n] w fun e w' => e = .returned (.int .i64 (putE es s)) ∧ Upd w w' B p v (putL es s n) := by
  have Hk := hide hk
  have Hg := hide hg
  clear hk hg
  by_cases he : errS false s = 0
  · have hn := few he
    cases hh : hasAt es s with
    | true =>
      have Hp := hide (put_has (n := n) he hh)
      have Ha := hide (show atI es s = (place es s : Int) by unfold atI; rw [if_pos hh])
      obtain ⟨h1, h2⟩ := has_at hh
      have He := hide he
      obtain ⟨q, hq⟩ : ∃ q, place es s = q := ⟨_, rfl⟩
      rw [hq] at h1 h2 Hp Ha
      have H2 := hide h2
      clear he hh h2 hq
      obtain ⟨g, cap, rfl, c1, c2, c3, c4⟩ := (unhide Hk).arr.there (by omega)
      unfold maxLen at c2
      go_enter Tryd.func20, Tryd.ntmps20
      go_wp2_with fail
      refine (rsubject_any s _ hs).mono ?_
      rintro e w1 ⟨rfl, hb1⟩
      rw [unhide He]
      go_wp2_with fail
      refine (at_any B p _ es s _ ((unhide Hk).below hb1) (unhide Hg)).mono ?_
      rintro e w2 ⟨rfl, hb2⟩
      rw [unhide Ha]
      have k2 := ((unhide Hk).below hb1).below hb2
      have d1 := k2.cell
      have d2 := k2.arr.num h1
      have d3 := World.ownsRow.frozenAt k2.arr (q * 2 + 1)
      have K2 := hide k2
      clear k2
      go_wp2_with fail
      go_ret
      refine ⟨ret_eq (unhide Hp).1, ?_⟩
      rw [(unhide Hp).2]
      obtain ⟨u1, u2⟩ := (unhide K2).number h1 (unhide H2) n
      exact Upd.behind (bstep hb1 hb2) ⟨_, u1, u2, fun g' hg' => .inl hg'⟩
    | false =>
      have Ha := hide (show atI es s = -1 by unfold atI; rw [hh]; simp)
      have h100 := (unhide Hg).2.1
      by_cases hf : 100 ≤ es.length
      · have Hp := hide (put_full (n := n) he hh hf)
        have He := hide he
        clear he hh
        obtain ⟨a, cap, rfl, c1, c2, c3⟩ := (unhide Hk).arr.shape
        have hl : es.length = 100 := by omega
        rw [hl] at Hk ⊢
        clear c3 c2
        go_enter Tryd.func20, Tryd.ntmps20
        go_wp2_with fail
        refine (rsubject_any s _ hs).mono ?_
        rintro e w1 ⟨rfl, hb1⟩
        rw [unhide He]
        go_wp2_with fail
        refine (at_any B p _ es s _ ((unhide Hk).below hb1) (unhide Hg)).mono ?_
        rintro e w2 ⟨rfl, hb2⟩
        rw [unhide Ha]
        have d1 := (((unhide Hk).below hb1).below hb2).cell
        go_wp2_with fail
        go_ret
        refine ⟨ret_eq (unhide Hp).1, ?_⟩
        rw [(unhide Hp).2]
        exact Upd.same (unhide Hk) (bstep hb1 hb2)
      · have Hp := hide (put_new (n := n) he hh hf)
        have He := hide he
        obtain ⟨q, hq⟩ : ∃ q, place es s = q := ⟨_, rfl⟩
        have hql : q ≤ es.length := by rw [← hq]; exact place_le _ _
        have Hlt : Hid (∀ j, j < q → el (en es j).1 s = true) := hide (by rw [← hq]; exact place_lt es s)
        have Hat : Hid (q < es.length → el (en es q).1 s = false) := hide (by rw [← hq]; exact place_at es s)
        rw [hq] at Hp
        clear he hh hq
        obtain ⟨a, cap, rfl, c1, c2, c3⟩ := (unhide Hk).arr.shape
        clear c3 c2
        have hl : ((es.length : Int) == 100) = false := by rw [beq_eq_false_iff_ne]; omega
        go_enter Tryd.func20, Tryd.ntmps20
        go_wp2_with fail
        refine (rsubject_any s _ hs).mono ?_
        rintro e w1 ⟨rfl, hb1⟩
        rw [unhide He]
        go_wp2_with fail
        refine (at_any B p _ es s _ ((unhide Hk).below hb1) (unhide Hg)).mono ?_
        rintro e w2 ⟨rfl, hb2⟩
        rw [unhide Ha]
        have k2 := ((unhide Hk).below hb1).below hb2
        have d1 := k2.cell
        have K2 := hide k2
        have Hb2 := hide (bstep hb1 hb2)
        clear k2 hb1 hb2
        go_wp2_with fail
        clear d1
        go_loopw [9] (fun kv wr => ∃ (k : Nat), kv = .int .i64 k ∧ k ≤ q ∧ Hid (Keeps wr B p (.slice a es.length cap) es) ∧ Hid (Below w.heap.size w wr)) (fun kv _ => es.length - (intOf kv).toNat)
        case atStart => exact ⟨0, rfl, Nat.zero_le _, K2, Hb2⟩
        case round =>
          obtain ⟨k, rfl, hkq, K3, Hb3⟩ := hrel
          have d1 := (unhide K3).cell
          have hb4 : Below wr.heap.size wr (wr.alloc (.cells #[.string s, .int .i64 n] 45)) := (Below.refl _ _).alloc (Nat.le_refl _) _
          by_cases hlt : k < es.length
          · obtain ⟨g, cap', e0, f1, f2, f3, f4⟩ := (unhide K3).arr.there (by omega)
            obtain ⟨rfl, _, rfl⟩ := Value.slice.inj e0
            clear e0
            have d2 := (unhide K3).arr.text hlt
            obtain ⟨g1, g2⟩ := (unhide Hg).2.2 (en es k) (en_mem hlt)
            have g3 := few g1
            go_wp2_with fail
            refine (pieces_any (en es k).1 _ g2 (few_pcs g3)).mono ?_
            rintro e w3 ⟨x1, y1, l1, rfl, o1, p1, b1⟩
            have P1 := hide (isPcs_toks p1)
            clear p1
            go_wp2_with fail
            refine (pieces_any s _ hs (few_pcs hn)).mono ?_
            rintro e w4 ⟨x2, y2, l2, rfl, o2, p2, b2⟩
            have P2 := hide (isPcs_toks p2)
            clear p2
            go_wp2_with fail
            refine (before_any x1 x2 y1 y2 l1 l2 _ ((own_row o1).below b2 (own_base o1).2) (own_row o2) (by rw [unhide P1]; exact g3)).mono ?_
            rintro e w5 ⟨rfl, nn, rfl⟩
            have hbe : bef l1 l2 = el (en es k).1 s := by rw [unhide P1, unhide P2]; rfl
            rw [hbe]
            have HB := hide (below_drewN (bstep b1 b2) nn)
            have K5 := hide ((unhide K3).below (unhide HB))
            have Hb5 := hide (bstep (unhide Hb3) (unhide HB))
            clear o1 o2 b1 b2 hbe d1 d2 HB
            generalize w4.drewN nn = w6 at K5 Hb5 ⊢
            have hb6 : Below w6.heap.size w6 (w6.alloc (.cells #[.string s, .int .i64 n] 45)) := (Below.refl _ _).alloc (Nat.le_refl _) _
            cases hel : el (en es k).1 s with
            | true =>
              have hne : k ≠ q := fun e => by
                subst e
                rw [unhide Hat hlt] at hel
                cases hel
              clear hel hb6
              go_wp2_with fail
              refine ⟨⟨k + 1, by go_num, by omega, K5, Hb5⟩, ?_⟩
              simp [intOf]; omega
            | false =>
              have hkq2 : k = q := by
                rcases Nat.lt_or_ge k q with x | x
                · rw [unhide Hlt k x] at hel; cases hel
                · omega
              subst hkq2
              have d1 := (unhide K5).cell
              have K6 := hide ((unhide K5).below hb6)
              have Hb6 := hide (bstep (unhide Hb5) hb6)
              clear hel hb6
              go_wp2_with fail
              refine (insert_any B _ es k (s, n) w6.heap.size _ (unhide K6).arr (by omega) (by omega) (heap_alloc_new w6 _) (fun e => by have := ((unhide K5).arr.lt _ e).2; omega) (by have := (unhide Hb6).size; omega)).mono ?_
              rintro e w7 ⟨v', rfl, i1, i2, i3⟩
              obtain ⟨a', cap', rfl, _⟩ := i1.shape
              have d4 : w7.cell? ⟨p, 0, none⟩ = some (.slice (some ⟨g, 0, none⟩) es.length cap) := by rw [i2.cell (p := ⟨p, 0, none⟩) (unhide K6).lt (unhide K6).apart]; exact (unhide K6).cell
              have d5 : w7.frozen? ⟨p, 0, none⟩ = false := by rw [i2.frozen (p := ⟨p, 0, none⟩) (unhide K6).lt (unhide K6).apart]; exact (unhide K6).free
              have HU := hide (Upd.store (unhide K6) i2 i1 i3)
              clear i1 i2 i3 d1
              go_wp2_with fail
              go_ret
              refine ⟨ret_eq (unhide Hp).1, ?_⟩
              rw [(unhide Hp).2]
              exact Upd.behind (unhide Hb6) (unhide HU)
          · have hkq2 : k = q := by omega
            subst hkq2
            have K6 := hide ((unhide K3).below hb4)
            have Hb6 := hide (bstep (unhide Hb3) hb4)
            clear hb4
            go_wp2_with fail
            refine (insert_any B _ es k (s, n) wr.heap.size _ (unhide K6).arr (by omega) (by omega) (heap_alloc_new wr _) (fun e => by have := ((unhide K3).arr.lt _ e).2; omega) (by have := (unhide Hb6).size; omega)).mono ?_
            rintro e w7 ⟨v', rfl, i1, i2, i3⟩
            obtain ⟨a', cap', rfl, _⟩ := i1.shape
            have d4 : w7.cell? ⟨p, 0, none⟩ = some (.slice a es.length cap) := by rw [i2.cell (p := ⟨p, 0, none⟩) (unhide K6).lt (unhide K6).apart]; exact (unhide K6).cell
            have d5 : w7.frozen? ⟨p, 0, none⟩ = false := by rw [i2.frozen (p := ⟨p, 0, none⟩) (unhide K6).lt (unhide K6).apart]; exact (unhide K6).free
            have HU := hide (Upd.store (unhide K6) i2 i1 i3)
            clear i1 i2 i3 d1
            go_wp2_with fail
            go_ret
            refine ⟨ret_eq (unhide Hp).1, ?_⟩
            rw [(unhide Hp).2]
            exact Upd.behind (unhide Hb6) (unhide HU)
  · have Hp := hide (put_bad (es := es) (n := n) he)
    go_enter Tryd.func20, Tryd.ntmps20
    go_wp2_with fail
    refine (rsubject_any s _ hs).mono ?_
    rintro e w1 ⟨rfl, hb1⟩
    go_wp2_with fail
    go_ret
    refine ⟨ret_eq (unhide Hp).1, ?_⟩
    rw [(unhide Hp).2]
    exact Upd.same (unhide Hk) hb1

set_option maxHeartbeats 2000000 in
theorem rfind_any (B p : Nat) (v : Value) (es : List Ent) (f : ByteArray) (w : World) (hk : Keeps w B p v es) (hg : Good es) (hs : f.size ≤ 140737488355328) :
    Calls Tryd.prog 26 #[.pointer (some ⟨p, 0, none⟩), .string f] w fun e w' => ∃ v', e = .returned (.tuple #[v', .int .i64 (errS true f)]) ∧ Arr w' w.heap.size v' (if errS true f = 0 then findL es f else []) ∧ Below w.heap.size w w' := by
  have Hk := hide hk
  have Hg := hide hg
  clear hk hg
  by_cases he : errS true f = 0
  · rw [if_pos he]
    have hn := few he
    have h100 := (unhide Hg).2.1
    have He := hide he
    clear he
    obtain ⟨a, cap, rfl, c1, c2, c3⟩ := (unhide Hk).arr.shape
    clear c3 c2
    go_enter Tryd.func26, Tryd.ntmps26
    go_wp2_with fail
    refine (rfilter_any f _ hs).mono ?_
    rintro e w1 ⟨rfl, hb1⟩
    rw [unhide He]
    have K1 := hide ((unhide Hk).below hb1)
    have Hb1 := hide hb1
    clear hb1
    go_wp2_with fail
    go_loopw [7, 8] (fun ov kv wr => ∃ (k : Nat), kv = .int .i64 k ∧ k ≤ es.length ∧ Hid (Arr wr w.heap.size ov (findL (es.take k) f)) ∧ Hid (Keeps wr B p (.slice a es.length cap) es) ∧ Hid (Below w.heap.size w wr)) (fun _ kv _ => es.length - (intOf kv).toNat)
    case atStart => exact ⟨0, rfl, Nat.zero_le _, hide (Arr.empty _ _), K1, Hb1⟩
    case round =>
      obtain ⟨k, rfl, hkl, A3, K3, Hb3⟩ := hrel
      have d1 := (unhide K3).cell
      obtain ⟨ao, co, rfl, _⟩ := (unhide A3).shape
      by_cases hlt : k < es.length
      · obtain ⟨g, cap', e0, f1, f2, f3, f4⟩ := (unhide K3).arr.there (by omega)
        obtain ⟨rfl, _, rfl⟩ := Value.slice.inj e0
        clear e0
        have d2 := (unhide K3).arr.text hlt
        obtain ⟨g1, g2⟩ := (unhide Hg).2.2 (en es k) (en_mem hlt)
        have g3 := few g1
        have Ht := hide (takes_match (unhide He) g1)
        have Hs := hide (find_succ es f k hlt)
        have Hl := hide (find_len es f k)
        go_wp2_with fail
        refine (rTakes_any f (en es k).1 _ hs g2 (few_pcs hn) (few_pcs g3)).mono ?_
        rintro e w5 ⟨rfl, b5⟩
        rw [unhide Ht]
        have K5 := (unhide K3).below b5
        have A5 := (unhide A3).below b5
        have Hb5 := hide (bstep (unhide Hb3) b5)
        clear d1 d2
        have d1 := K5.cell
        have d2 := K5.arr.text hlt
        have d3 := K5.arr.num hlt
        have hb6 : Below w5.heap.size w5 (w5.alloc (.cells #[.string (en es k).1, .int .i64 (en es k).2] 45)) := (Below.refl _ _).alloc (Nat.le_refl _) _
        obtain ⟨v', w', hr, r1, r2, r3⟩ := append_blk _ w.heap.size 33 _ _ [en es k] (A5.below hb6) ⟨w5.heap.size, 0, none⟩ 1 (two_row w5 (en es k)) (by have := unhide Hl; simp; omega) (by have := (unhide Hb5).size; have := hb6.size; omega)
        have K6 := K5.below hb6
        have A6 := hide r1
        have hown : ∀ k2, (Value.slice ao (findL (es.take k) f).length co).ownBlock = some k2 → w.heap.size ≤ k2 := fun k2 h2 => (A5.lt k2 h2).1
        have r2' := Chg.of_grown r2
        have hb7 : Below w.heap.size _ w' := r2'.below (by have := (unhide Hb5).size; have := hb6.size; omega) (fun k2 h2 h3 => by have := hown k2 h3; omega)
        have K7 := K6.chg r2' (fun k2 h2 h3 => by
          have q1 := hown k2 h3
          rcases h2 with h2 | h2
          · have := (unhide Hk).lt; omega
          · have := ((unhide Hk).arr.lt k2 h2).2; omega)
        have Hb7 := hide ((bstep (unhide Hb5) hb6).trans hb7)
        cases hm : matchB f (en es k).1 with
        | true =>
          have A7 : Hid (Arr w' w.heap.size v' (findL (es.take (k + 1)) f)) := by rw [unhide Hs, hm, if_pos rfl]; exact A6
          clear hm hb6
          go_wp2_with (at_builtin; refine Lib.wpList_append_run _ rfl _ _ _ _ rfl _ _ rfl rfl _ _ hr ?_)
          refine ⟨⟨k + 1, by go_num, by omega, A7, hide K7, Hb7⟩, ?_⟩
          simp [intOf]; omega
        | false =>
          have A7 : Hid (Arr w5 w.heap.size (.slice ao (findL (es.take k) f).length co) (findL (es.take (k + 1)) f)) := by rw [unhide Hs, hm, if_neg (by simp), List.append_nil]; exact A5
          clear hm hb6
          go_wp2_with fail
          refine ⟨⟨k + 1, by go_num, by omega, A7, hide K5, Hb5⟩, ?_⟩
          simp [intOf]; omega
      · go_wp2_with fail
        go_ret2
        refine ⟨_, ret_ve (unhide He), ?_, unhide Hb3⟩
        have := unhide A3
        rw [List.take_of_length_le (by omega)] at this
        rw [List.take_of_length_le (by omega)]
        exact this
  · rw [if_neg he]
    go_enter Tryd.func26, Tryd.ntmps26
    go_wp2_with fail
    refine (rfilter_any f _ hs).mono ?_
    rintro e w1 ⟨rfl, hb1⟩
    go_wp2_with fail
    go_ret2
    exact ⟨_, rfl, Arr.empty _ _, hb1⟩
end Go.Proofs.YtcdajajekmichaaDoor
