/-
  Contract of slices.DeleteFunc at pulls, whatever function is handed in.
-/
import Derived.Test.YtbflhmkapfodiaaWalkPu2
namespace Go.Proofs.Ytbflhmkapfodiaa.Dk
open Go.RowKit

theorem new_pul (w : World) (x : Pul) (t : TypeId) : let W := w.alloc (.cells #[.int .i64 x.b, .int .i64 x.t, .bool x.nw] t)
    W.cell? ⟨w.heap.size, 0, none⟩ = some (.int .i64 x.b) ∧ W.cell? ⟨w.heap.size, 1, none⟩ = some (.int .i64 x.t) ∧ W.cell? ⟨w.heap.size, 2, none⟩ = some (.bool x.nw) := by
  refine ⟨?_, ?_, ?_⟩ <;> (rw [cell_of_row _ w.heap.size _ _ _ _ (heap_alloc_new w _)]; rfl)
section
variable {g : Nat} {lb : Array Value} {p : Pul → Bool}
set_option maxRecDepth 100000 in
set_option maxHeartbeats 4000000 in
theorem deleteU_any (eg : ∀ args w, (callFunc g args).run Try.prog w = .ok (.enter g args) w) (v : Value) (B : Nat) (l : List Pul) (w : World) (ha : ArrU w B v l) (hl : l.length ≤ 1000000)
    (hp : ∀ W, Chg (fun k => v.ownBlock = some k) w W → ∀ x ∈ l, Calls Try.prog g (#[pulV x] ++ lb) W fun e w' => e = .returned (.bool (p x)) ∧ Below W.heap.size W w') :
    Calls Try.prog 21 #[v, .func (.func g) #[] lb] w fun e w' => ∃ v', e = .returned v' ∧ ArrU w' B v' (l.filter (fun x => !p x)) ∧ Chg (fun k => v.ownBlock = some k) w w' ∧ ∀ g, v'.ownBlock = some g → v.ownBlock = some g ∨ w.heap.size ≤ g := by
  have Ha := hide ha
  have Hp := hide hp
  obtain ⟨a, cap, rfl, hcap, hmax, hsl, hown⟩ := ha.shape
  have HI := hide (indexU_any (p := p) eg a cap l w hsl hl (fun W hb => hp W (Chg.of_below hb)))
  rcases fstQ_ends p l with ⟨e1, hall⟩ | ⟨i, hil, e1, hpi, hlo⟩
  · have HF := hide (filterQ_none hall)
    rw [e1] at HI
    clear hp hsl ha hall e1 hown
    go_enter Try.func21, Try.ntmps21
    go_wp2_with (go_at_call 24; refine (unhide HI).mono ?_; rintro e w' ⟨rfl, hb'⟩)
    go_ret
    rw [unhide HF]
    exact ⟨_, rfl, (unhide Ha).below hb', Chg.of_below hb', fun _ q => .inl q⟩
  · obtain ⟨b, _, e0, z9⟩ := hsl 0 (Nat.lt_of_le_of_lt (Nat.zero_le _) hil)
    clear z9
    have e9 := hown _ e0
    obtain ⟨k1, k2⟩ := midQ_start hil hlo hpi
    obtain ⟨b', cap', e8, z8⟩ := ha.there (Nat.lt_of_le_of_lt (Nat.zero_le _) hil)
    clear z8
    obtain ⟨rfl, _, rfl⟩ := Value.slice.inj e8
    obtain rfl : b = b' := by cases e0; rfl
    rw [e1] at HI
    have K1 := hide k1
    have K2 := hide k2
    obtain ⟨N, hN⟩ : ∃ N, l.length = N := ⟨_, rfl⟩
    have HN := hide hN
    have hne1 : ((i : Int) == -1) = false := beq_eq_false_iff_ne.2 (by omega)
    rw [hN] at HI Ha Hp hl hcap
    rw [hN]
    have hiN : i < N := by omega
    clear hp hsl ha e1 hown e0 e8 e9 k1 k2 hlo hpi hil hN
    go_enter Try.func21, Try.ntmps21
    go_wp2_with (go_at_call 24; refine (unhide HI).mono ?_; rintro e w1 ⟨rfl, hb1⟩)
    go_loopw [5, 6, 7] (fun iv jv _ wr => ∃ j : Nat, iv = .int .i64 ((keptQ p l j).length : Int) ∧ jv = .int .i64 j ∧ j ≤ N ∧ (keptQ p l j).length < j ∧ Hid (ArrU wr B (.slice (some ⟨b, 0, none⟩) N cap) (midQ p l j)) ∧ Hid (Chg (fun k => k = b) w wr)) (fun _ jv _ _ => N - (intOf jv).toNat)
    case atStart => exact ⟨i + 1, by rw [unhide K1], by go_num, by omega, by rw [unhide K1]; omega, hide (by rw [unhide K2]; exact (unhide Ha).below hb1), hide (Chg.of_below hb1)⟩
    case round =>
      obtain ⟨j, rfl, rfl, hj, hij, AW, CW⟩ := hrel
      by_cases hlt : j < N
      · have hjl : j < l.length := by rw [unhide HN]; exact hlt
        have hjm : j < (midQ p l j).length := by rw [midQ_length]; exact hjl
        obtain ⟨hbl, c0, c1, c2⟩ := (unhide AW).at hjm
        rw [midQ_at hjl hjm] at c0 c1 c2
        have him : (keptQ p l j).length < (midQ p l j).length := by omega
        have hN2 : (midQ p l j).length = N := by rw [midQ_length]; exact unhide HN
        obtain ⟨x, hx⟩ : ∃ x, l[j] = x := ⟨_, rfl⟩
        have HX := hide hx
        rw [hx] at c0 c1 c2
        have bA : Below wr.heap.size wr (wr.alloc (pulO x)) := (Below.refl _ _).alloc (Nat.le_refl _) _
        have cA := hide ((unhide CW).trans (Chg.of_below bA))
        have H := hide (unhide Hp (wr.alloc (pulO x)) ((unhide cA).mono (fun k _ q => by rw [q]; rfl)) x (by rw [← hx]; exact List.getElem_mem _))
        obtain ⟨n0, n1, n2⟩ := new_pul wr x 30
        have BA := hide bA
        have AA := hide ((unhide AW).below bA)
        clear hx bA
        have hb0 : b < (wr.alloc (pulO x)).heap.size := by simp; omega
        have hnb : wr.heap.size ≠ b := by omega
        cases he : p x with
        | false =>
          have HM := hide (midQ_more (p := p) hjl (by rw [unhide HX]; exact he))
          have HK := hide (congrArg List.length (keptQ_more (p := p) hjl (by rw [unhide HX]; exact he)))
          rw [he] at H
          rw [unhide HX] at HM
          obtain ⟨i, hi⟩ : ∃ i, (keptQ p l j).length = i := ⟨_, rfl⟩
          rw [hi] at hij him HM
          rw [List.length_append, hi, List.length_singleton] at HK
          have hti := (unhide AA).at him
          obtain ⟨y, hy⟩ : ∃ y, (midQ p l j)[i] = y := ⟨_, rfl⟩
          rw [hy] at hti
          have hfr := hide ((unhide AA).free).1
          rw [hi]
          clear he hjm him hi hy HX
          go_wp2_with (go_at_fn g; refine (unhide H).mono ?_; rintro e w' ⟨rfl, hb'⟩; have m0 := (hb'.cell (p := ⟨wr.heap.size, 0, none⟩) (by simp)).trans n0; have m1 := (hb'.cell (p := ⟨wr.heap.size, 1, none⟩) (by simp)).trans n1; have m2 := (hb'.cell (p := ⟨wr.heap.size, 2, none⟩) (by simp)).trans n2; have t0 := (hb'.cell (p := ⟨b, i * 3, none⟩) hb0).trans hti.c0; have t1 := (hb'.cell (p := ⟨b, i * 3 + 1, none⟩) hb0).trans hti.c1; have t2 := (hb'.cell (p := ⟨b, i * 3 + 2, none⟩) hb0).trans hti.c2; have f0 := (hb'.frozen (p := ⟨b, i * 3, none⟩) hb0).trans (unhide hfr _); have f1 := (hb'.frozen (p := ⟨b, i * 3 + 1, none⟩) hb0).trans (unhide hfr _); have f2 := (hb'.frozen (p := ⟨b, i * 3 + 2, none⟩) hb0).trans (unhide hfr _))
          have A1 := (unhide AA).below hb'
          rw [← hN2] at A1
          have A2 := A1.set (k := i) (by rw [hN2]; omega) x
          rw [hN2, ← unhide HM] at A2
          refine ⟨⟨j + 1, by rw [unhide HK]; go_num, by go_num, by omega, by rw [unhide HK]; omega, hide A2, hide (((unhide cA).trans (Chg.of_below hb')).trans (chgT_sets [.int .i64 x.b, .int .i64 x.t, .bool x.nw] (i * 3) w'))⟩, ?_⟩
          simp [intOf]; omega
        | true =>
          have HM := hide (midQ_skip (p := p) hjl (by rw [unhide HX]; exact he))
          have HK := hide (keptQ_skip (p := p) hjl (by rw [unhide HX]; exact he))
          rw [he] at H
          clear HX hjl hjm him he
          go_wp2_with (go_at_fn g; refine (unhide H).mono ?_; rintro e w' ⟨rfl, hb'⟩)
          refine ⟨⟨j + 1, by rw [unhide HK], by go_num, by omega, by rw [unhide HK]; omega, hide (by rw [unhide HM]; exact (unhide AA).below hb'), hide ((unhide cA).trans (Chg.of_below hb'))⟩, ?_⟩
          simp [intOf]; omega
      · obtain rfl : j = N := by omega
        obtain ⟨i, hi⟩ : ∃ i, (keptQ p l j).length = i := ⟨_, rfl⟩
        rw [hi] at hij
        rw [hi]
        have hfr := hide ((unhide AW).free).1
        have hsp := hide ((unhide AW).free).2
        have hcl : ∀ ty, (Builtin.clear_ #[26] ty #[.slice (some ⟨b, i * 3, none⟩) (j - i) (cap - i)]).run Try.prog wr = .ok (.tuple #[]) (wr.setCells b (i * 3) (zlT (.agg #[.int .i64 0, .int .i64 0, .bool false]) (j - i))) := fun ty =>
          run_clear_tri (P := Try.prog) 26 30 ty _ Try.underlying26 Try.zeroValue30 rfl (fun k hk => by
            match k, hk with
            | 0, _ => rfl
            | 1, _ => rfl
            | 2, _ => rfl) wr b (i * 3) (j - i) (cap - i) (by omega) (fun k hk => unhide hsp _ (by omega)) (fun k hk => unhide hfr _)
        have q1 : ¬ (cap = i) := by omega
        have HI2 := hide hi
        clear hi
        go_wp2_with fail
        go_ret
        have hk2 : keptQ p l j = l.filter (fun x => !p x) := by rw [← unhide HN]; exact keptQ_all p l
        have hml := midQ_length p l j
        rw [unhide HN] at hml
        have A1 : ArrU wr B (.slice (some ⟨b, 0, none⟩) (midQ p l j).length cap) (midQ p l j) := by rw [hml]; exact unhide AW
        have A2 := ArrU.cut (a := keptQ p l j) (r := l.drop (keptQ p l j).length) A1 (zlT (.agg #[.int .i64 0, .int .i64 0, .bool false]) (j - i)) (by rw [zlT_length _ _ rfl, List.length_drop, unhide HN, unhide HI2])
        rw [unhide HI2, hk2] at A2
        exact ⟨_, rfl, A2, ((unhide CW).trans (chgT_sets _ _ _)).mono (fun k _ q => by rw [q]; rfl), fun _ q => .inl q⟩
end
end Go.Proofs.Ytbflhmkapfodiaa.Dk
