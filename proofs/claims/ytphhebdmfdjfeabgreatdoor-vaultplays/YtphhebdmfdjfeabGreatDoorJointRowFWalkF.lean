/-
  The entries that a filter takes, one by one. No walk.
  Contract of index.Find: the entries that the filter takes, in the order of the index.
-/
import Derived.Test.YtphhebdmfdjfeabGreatDoorJointPlain2Plain5Walk5aPlainK
import Derived.Test.YtphhebdmfdjfeabGreatDoorJointWalkI3WalkI4
import Derived.Test.YtphhebdmfdjfeabGreatDoorWalkI5
namespace Go.Proofs.YtphhebdmfdjfeabGreatDoor
open Go.RowKit

theorem find_succ (es : List Ent) (f : ByteArray) (k : Nat) (hk : k < es.length) : findL (es.take (k + 1)) f = findL (es.take k) f ++ (if matchB f (en es k).1 then [en es k] else []) := by
  unfold findL
  rw [List.take_succ_eq_append_getElem hk, List.filter_append, ← en_get hk]
  cases h : matchB f (en es k).1 <;> simp [h]
theorem find_len (es : List Ent) (f : ByteArray) (k : Nat) : (findL (es.take k) f).length ≤ es.length := by
  unfold findL
  exact Nat.le_trans (List.length_filter_le _ _) (by rw [List.length_take]; omega)
theorem ret_ve {v : Value} {a b : Int} (h : b = a) : Ending.returned (.tuple #[v, .int .i64 a]) = .returned (.tuple #[v, .int .i64 b]) := by rw [h]
theorem two_row (w : World) (x : Ent) : ∀ j u, (cel [x])[j]? = some u → (w.alloc (.cells #[.string x.1, .int .i64 x.2] 122)).cell? ((⟨w.heap.size, 0, none⟩ : Addr).add j) = some u := by
  intro j u hj
  rw [Addr.add_lit, Nat.zero_add]
  exact (one_row (heap_alloc_new w _)).1 j u hj
end Go.Proofs.YtphhebdmfdjfeabGreatDoor

namespace Go.Proofs.YtphhebdmfdjfeabGreatDoor
open Go.RowKit

set_option maxHeartbeats 2000000 in
theorem find_any {o : Nat} (B p : Nat) (v : Value) (es : List Ent) (f : ByteArray) (w : World) (hk : KeepsO o w B p v es) (hg : Good es) (hs : f.size ≤ 140737488355328) :
    Calls Tryz.prog 124 #[.pointer (some ⟨p, o, none⟩), .string f] w fun e w' => ∃ v', e = .returned (.tuple #[v', .int .i64 (errS true f)]) ∧ Arr w' w.heap.size v' (if errS true f = 0 then findL es f else []) ∧ Below w.heap.size w w' := by
  have Hk := hide hk
  have Hg := hide hg
  clear hk hg
  by_cases he : errS true f = 0
  · rw [if_pos he]
    have h100 := (unhide Hg).2.1
    have He := hide he
    clear he
    obtain ⟨a, cap, rfl, c1, c2, c3⟩ := (unhide Hk).arr.shape
    clear c3 c2
    go_enter Tryz.func124, Tryz.ntmps124
    go_wp2_with fail
    refine (filter_any f _ hs).mono ?_
    rintro e w1 ⟨rfl, hb1⟩
    rw [unhide He]
    have k1 := (unhide Hk).below hb1
    have d0 := k1.cell
    have K1 := hide k1
    have Hb1 := hide hb1
    clear hb1 k1
    go_wp2_with fail
    clear d0
    go_loopw [7, 22] (fun ov kv wr => ∃ (k : Nat), kv = .int .i64 k ∧ k ≤ es.length ∧ Hid (Arr wr w.heap.size ov (findL (es.take k) f)) ∧ Hid (KeepsO o wr B p (.slice a es.length cap) es) ∧ Hid (Below w.heap.size w wr)) (fun _ kv _ => es.length - (intOf kv).toNat)
    case atStart => exact ⟨0, rfl, Nat.zero_le _, hide (Arr.empty _ _), K1, Hb1⟩
    case round =>
      obtain ⟨k, rfl, hkl, A3, K3, Hb3⟩ := hrel
      obtain ⟨ao, co, rfl, _⟩ := (unhide A3).shape
      by_cases hlt : k < es.length
      · obtain ⟨g, cap', e0, f1, f2, f3, f4⟩ := (unhide K3).arr.there (by omega)
        obtain ⟨rfl, _, rfl⟩ := Value.slice.inj e0
        clear e0
        have d2 := (unhide K3).arr.text hlt
        have d3 := (unhide K3).arr.num hlt
        obtain ⟨g1, g2⟩ := (unhide Hg).2.2 (en es k) (en_mem hlt)
        have Hs := hide (find_succ es f k hlt)
        have Hl := hide (find_len es f k)
        have hb0 : Below wr.heap.size wr (wr.alloc (.cells #[.string (en es k).1, .int .i64 (en es k).2] 122)) := (Below.refl _ _).alloc (Nat.le_refl _) _
        have Hb0 := hide hb0
        clear hb0
        go_wp2_with fail
        refine (match_any f (en es k).1 _ hs g2).mono ?_
        rintro e w5 ⟨rfl, b5⟩
        have r0 := one_row (heap_alloc_new wr (.cells #[.string (en es k).1, .int .i64 (en es k).2] 122))
        have d4 : w5.cell? ⟨wr.heap.size, 0, none⟩ = some (.string (en es k).1) := by rw [b5.cell (p := ⟨wr.heap.size, 0, none⟩) (by simp)]; exact r0.1 0 _ rfl
        have d5 : w5.cell? ⟨wr.heap.size, 1, none⟩ = some (.int .i64 (en es k).2) := by rw [b5.cell (p := ⟨wr.heap.size, 1, none⟩) (by simp)]; exact r0.1 1 _ rfl
        have K5 := ((unhide K3).below (unhide Hb0)).below b5
        have A5 := ((unhide A3).below (unhide Hb0)).below b5
        have Hb5 := hide (bstep (bstep (unhide Hb3) (unhide Hb0)) b5)
        clear d2 d3 r0
        cases hm : matchB f (en es k).1 with
        | true =>
          have Hm := hide hm
          have K5' := hide K5
          have A5' := hide A5
          clear hm K5 A5
          go_wp2_with fail
          refine (copyE_any (en es k).1 (en es k).2 _ g2).mono ?_
          rintro e w6 ⟨rfl, b6⟩
          have K6 := (unhide K5').below b6
          have A6 := (unhide A5').below b6
          have Hb6 := hide (bstep (unhide Hb5) b6)
          clear K5' A5' Hb5 b5 d4 d5
          have hb6 : Below w6.heap.size w6 (w6.alloc (.cells #[.string (en es k).1, .int .i64 (en es k).2] 122)) := (Below.refl _ _).alloc (Nat.le_refl _) _
          obtain ⟨v', w', hr, r1, r2, r3⟩ := append_blk _ w.heap.size 100 _ _ [en es k] (A6.below hb6) ⟨w6.heap.size, 0, none⟩ 1 (two_row w6 (en es k)) (by have := unhide Hl; simp; omega) (by have := (unhide Hb6).size; have := hb6.size; omega)
          have hown : ∀ k2, (Value.slice ao (findL (es.take k) f).length co).ownBlock = some k2 → w.heap.size ≤ k2 := fun k2 h2 => (A6.lt k2 h2).1
          have r2' := Chg.of_grown r2
          have hb7 : Below w.heap.size _ w' := r2'.below (by have := (unhide Hb6).size; have := hb6.size; omega) (fun k2 h2 h3 => by have := hown k2 h3; omega)
          have K7 := hide ((K6.below hb6).chg r2' (fun k2 h2 h3 => by
            have q1 := hown k2 h3
            rcases h2 with h2 | h2
            · have := (unhide Hk).lt; omega
            · have := ((unhide Hk).arr.lt k2 h2).2; omega))
          have Hb7 := hide ((bstep (unhide Hb6) hb6).trans hb7)
          have A7 : Hid (Arr w' w.heap.size v' (findL (es.take (k + 1)) f)) := hide (by rw [unhide Hs, unhide Hm, if_pos rfl]; exact r1)
          clear hb6 b6 K6 A6 r1 r2 r2' r3 hb7 hown
          go_wp2_with (at_builtin; refine Lib.wpList_append_run _ rfl _ _ _ _ rfl _ _ rfl rfl _ _ hr ?_)
          refine ⟨⟨k + 1, by go_num, by omega, A7, K7, Hb7⟩, ?_⟩
          simp [intOf]; omega
        | false =>
          have A7 : Hid (Arr w5 w.heap.size (.slice ao (findL (es.take k) f).length co) (findL (es.take (k + 1)) f)) := hide (by rw [unhide Hs, hm, if_neg (by simp), List.append_nil]; exact A5)
          have K7 := hide K5
          clear hm K5 A5
          go_wp2_with fail
          refine ⟨⟨k + 1, by go_num, by omega, A7, K7, Hb5⟩, ?_⟩
          simp [intOf]; omega
      · go_wp2_with fail
        go_ret2
        refine ⟨_, ret_ve (unhide He), ?_, unhide Hb3⟩
        have := unhide A3
        rw [List.take_of_length_le (by omega)] at this
        rw [List.take_of_length_le (by omega)]
        exact this
  · rw [if_neg he]
    go_enter Tryz.func124, Tryz.ntmps124
    go_wp2_with fail
    refine (filter_any f _ hs).mono ?_
    rintro e w1 ⟨rfl, hb1⟩
    go_wp2_with fail
    go_ret2
    exact ⟨_, rfl, Arr.empty _ _, hb1⟩

end Go.Proofs.YtphhebdmfdjfeabGreatDoor
