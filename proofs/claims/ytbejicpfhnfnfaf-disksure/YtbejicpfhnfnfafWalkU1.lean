/-
  The walk of the law DiskSure, over what is asked of any disk.
-/
import Derived.Test.YtbejicpfhnfnfafPapU
namespace Go.Proofs.Ytbejicpfhnfnfaf.Dk
open Go.RowKit

/-- the texts that are handed in -/
def Texts (w : World) (a : Option Addr) (n : Nat) (S : Nat → ByteArray) : Prop := ∀ i, i < n → ∃ b o, a = some ⟨b, o, none⟩ ∧ b < w.heap.size ∧ w.cell? ⟨b, o + i, none⟩ = some (.string (S i)) ∧ (S i).size ≤ 140737488355328
/-- the bit of a number that says whether a file is synced -/
def bitB (sy : Int) (i : Nat) : Bool := bits BinOp.and IntKind.i64 (sy / 2 ^ (i % 60)) 1 == 1
def ab : ByteArray := ⟨#[97, 98]⟩
theorem ab_app : appE [] 65536 3 ab = 0 ∧ appL [] 65536 3 ab = [⟨3, 0, ab⟩] := by
  have h1 : inI 3 0 1099511627776 = true := by decide
  have h2 : ¬ ix [] 3 < ([] : List Pap).length := by simp
  have h3 : full [] 65536 3 ab = false := by simp [full, used, ab, ByteArray.size]
  obtain ⟨a, b⟩ := app_new h1 h3 h2
  exact ⟨a, by rw [b]; simp [insL]⟩
theorem ab_used : used [⟨3, 0, ab⟩] = 2 := by simp [used, ab, ByteArray.size]
theorem ab_rem : hasE [⟨3, 0, ab⟩] 3 = 0 ∧ remL [⟨3, 0, ab⟩] 3 = [] := by
  have h : ix [⟨3, 0, ab⟩] 3 = 0 := by rw [ix_cons, if_pos rfl]
  unfold hasE remL
  rw [h]
  simp

set_option maxRecDepth 100000 in
set_option maxHeartbeats 2000000 in
theorem sure_any {Has : World → Nat → Nat → (Nat → Prop) → Int → List Pap → Prop} (H : Works Has) (N : News Has) (a : Option Addr) (l cap : Nat) (S : Nat → ByteArray) (sy keep : Int) (w : World) (hp : Texts w a l S) :
    Calls Try.prog 3 #[.slice a l cap, .int .i64 sy, .int .i64 keep] w fun e w' => e = .returned (.bool true) ∧ Below w.heap.size w w' := by
  have Hp := hide hp
  clear hp
  obtain ⟨b, hb⟩ : ∃ b : Nat → Bool, b = bitB sy := ⟨_, rfl⟩
  have Hb : Hid (∀ i, b i = (bits BinOp.and IntKind.i64 (sy / 2 ^ (i % 60)) 1 == 1)) := hide (fun i => by rw [hb]; rfl)
  clear hb
  go_enter Try.func3, Try.ntmps3
  go_wp2_with fail
  refine (N.good _ 65536 (by decide)).mono ?_
  rintro e w1 ⟨q, F, rfl, z1, b1⟩
  have hB1 := b1.size
  have T0 : Hid (Tidy 65536 []) := hide (Tidy.nil (by omega))
  have T1 := hide ((unhide T0).app 3 ab)
  rw [ab_app.2] at T1
  have PA := hide (H.append 3 ab z1 (unhide T0) (by omega) (by decide) hB1)
  rw [ab_app.1, ab_app.2] at PA
  go_wp2_with fail
  refine (unhide PA).mono ?_
  rintro e w2 ⟨rfl, x2⟩
  obtain ⟨⟨F2, z2⟩, b2, hB2⟩ := did_below H z1 hB1 x2
  have PU := hide (H.used z2 (unhide T1) (by omega) hB2)
  rw [ab_used] at PU
  clear PA
  go_wp2_with fail
  refine (unhide PU).mono ?_
  rintro e w3 ⟨rfl, x3⟩
  obtain ⟨⟨F3, z3⟩, b3, hB3⟩ := did_below H z2 hB2 x3
  have PR := hide (H.remove 3 (wf_low (by omega)) z3 (unhide T1) (by omega) hB3)
  rw [ab_rem.1, ab_rem.2] at PR
  clear PU
  go_wp2_with fail
  refine (unhide PR).mono ?_
  rintro e w4 ⟨rfl, x4⟩
  obtain ⟨⟨F4, z4⟩, b4, hB4⟩ := did_below H z3 hB3 x4
  have Z4 := hide z4
  have B4 := hide ((b1.trans b2).trans (b3.trans b4))
  clear z4 b4 PR z3 z2 z1 b1 b2 b3 x2 x3 x4 hB1 hB2 hB3 hB4 T1
  go_wp2_with fail
  go_loopw [39] (fun kv wr => ∃ (k : Nat), kv = .int .i64 k ∧ k ≤ l ∧ k ≤ 20 ∧ Hid (∀ i, i < k → (S i).size ≤ 1000) ∧ Hid (∃ F', Has wr w.heap.size q F' 65536 (filesL S b k)) ∧ Hid (Tidy 65536 (filesL S b k)) ∧ Hid (Below w.heap.size w wr)) (fun kv _ => l - (intOf kv).toNat)
  case atStart => exact ⟨0, rfl, Nat.zero_le _, Nat.zero_le _, hide (fun i hi => by omega), hide ⟨F4, unhide Z4⟩, T0, B4⟩
  case round =>
    clear Z4 B4
    obtain ⟨k, rfl, hkl, hk20, HS, Z5, T5, B5⟩ := hrel
    by_cases hlt : k < l
    · obtain ⟨bb, o, rfl, hbb, c0, hsz⟩ := unhide Hp k hlt
      have e0 : wr.cell? ⟨bb, o + k, none⟩ = some (.string (S k)) := by rw [(unhide B5).cell (p := ⟨bb, o + k, none⟩) hbb]; exact c0
      clear c0
      by_cases hge : k = 20 ∨ 1000 < (S k).size
      · have HW : Hid (Below w.heap.size w wr) := B5
        by_cases g1 : k = 20
        · have n1 : decide ((20 : Int) ≤ (k : Int)) = true := decide_eq_true (by omega)
          clear g1 hge
          go_wp2_with fail
          go_ret
          exact ⟨rfl, unhide HW⟩
        · have n1 : decide ((20 : Int) ≤ (k : Int)) = false := decide_eq_false (by omega)
          have n2 : decide ((1000 : Int) < ((S k).size : Int)) = true := decide_eq_true (by omega)
          go_wp2_with fail
          go_ret
          exact ⟨rfl, unhide HW⟩
      · have g1 : k < 20 := by omega
        have g2 : (S k).size ≤ 1000 := by omega
        obtain ⟨F5, z5⟩ := unhide Z5
        have hB5 := (unhide B5).size
        have HS2 : Hid (∀ i, i < k + 1 → (S i).size ≤ 1000) := hide (fun i hi => by
          rcases Nat.lt_or_ge i k with z | z
          · exact unhide HS i z
          · have : i = k := by omega
            rw [this]; exact g2)
        have PA := hide (H.append (k : Int) (S k) z5 (unhide T5) (by omega) (by omega) hB5)
        have T6 := hide ((unhide T5).app (k : Int) (S k))
        rw [files_app g1 (unhide HS) g2] at PA T6
        have n1 : decide ((20 : Int) ≤ (k : Int)) = false := decide_eq_false (by omega)
        have n2 : decide ((1000 : Int) < ((S k).size : Int)) = false := decide_eq_false (by omega)
        cases hbk : b k with
        | true =>
          have hbit := unhide Hb k
          rw [hbk] at hbit
          have hbit2 : (bits BinOp.and IntKind.i64 (sy / 2 ^ (k % 60)) 1 == 1) = true := hbit.symm
          have T7 := hide ((unhide T6).sync (k : Int))
          have T8 := hide ((unhide T7).app (k : Int) (S k))
          rw [files_sync] at T7 T8
          have HE := hide (files_again (b := b) (x := ((S k).size : Int)) g1 (unhide HS) g2 (by rw [hbk]; rfl))
          rw [unhide HE] at T8
          clear hbit
          go_wp2_with fail
          refine (unhide PA).mono ?_
          rintro e w6 ⟨rfl, x6⟩
          obtain ⟨⟨F6, z6⟩, b6, hB6⟩ := did_below H z5 hB5 x6
          have PS := hide (H.sync (k : Int) (wf_low (by omega)) z6 (unhide T6) (by omega) hB6)
          rw [files_sync] at PS
          go_wp2_with fail
          refine (unhide PS).mono ?_
          rintro e w7 ⟨rfl, x7⟩
          obtain ⟨⟨F7, z7⟩, b7, hB7⟩ := did_below H z6 hB6 x7
          have PB := hide (H.append (k : Int) (S k) z7 (unhide T7) (by omega) (by omega) hB7)
          rw [unhide HE] at PB
          go_wp2_with fail
          refine (unhide PB).mono ?_
          rintro e w8 ⟨rfl, x8⟩
          obtain ⟨⟨F8, z8⟩, b8, hB8⟩ := did_below H z7 hB7 x8
          have Z8 := hide z8
          have B8 := hide ((unhide B5).trans (b6.trans (b7.trans b8)))
          go_wp2_with fail
          refine ⟨⟨k + 1, by go_num, by omega, by omega, HS2, hide ⟨F8, unhide Z8⟩, T8, B8⟩, ?_⟩
          simp [intOf]; omega
        | false =>
          have hbit := unhide Hb k
          rw [hbk] at hbit
          have hbit2 : (bits BinOp.and IntKind.i64 (sy / 2 ^ (k % 60)) 1 == 1) = false := hbit.symm
          have T8 := hide ((unhide T6).app (k : Int) (S k))
          have HE := hide (files_again (b := b) (x := 0) g1 (unhide HS) g2 (by rw [hbk]; rfl))
          rw [unhide HE] at T8
          clear hbit
          go_wp2_with fail
          refine (unhide PA).mono ?_
          rintro e w6 ⟨rfl, x6⟩
          obtain ⟨⟨F6, z6⟩, b6, hB6⟩ := did_below H z5 hB5 x6
          have PB := hide (H.append (k : Int) (S k) z6 (unhide T6) (by omega) (by omega) hB6)
          rw [unhide HE] at PB
          go_wp2_with fail
          refine (unhide PB).mono ?_
          rintro e w8 ⟨rfl, x8⟩
          obtain ⟨⟨F8, z8⟩, b8, hB8⟩ := did_below H z6 hB6 x8
          have Z8 := hide z8
          have B8 := hide ((unhide B5).trans (b6.trans b8))
          go_wp2_with fail
          refine ⟨⟨k + 1, by go_num, by omega, by omega, HS2, hide ⟨F8, unhide Z8⟩, T8, B8⟩, ?_⟩
          simp [intOf]; omega
    · have hke : k = l := by omega
      rw [hke] at Z5 T5 HS hk20
      obtain ⟨F5, z5⟩ := unhide Z5
      have hB5 := (unhide B5).size
      have PC := hide (H.crash keep z5 (unhide T5) (by omega) hB5)
      have T6 := hide ((unhide T5).stop keep)
      clear hke
      go_wp2_with fail
      refine (unhide PC).mono ?_
      rintro e w6 ⟨rfl, x6⟩
      obtain ⟨⟨F6, z6⟩, b6, hB6⟩ := did_below H z5 hB5 x6
      have Z6 := hide z6
      have B6 := hide ((unhide B5).trans b6)
      clear z6 b6 x6 hB6 PC z5 hB5 Z5 B5
      go_wp2_with fail
      go_loopw [72] (fun jv wr => ∃ (j : Nat), jv = .int .i64 j ∧ j ≤ 2 ∧ Hid (∃ F', Has wr w.heap.size q F' 65536 ((filesL S b l).map (stopP keep))) ∧ Hid (Below w.heap.size w wr)) (fun jv _ => 2 - (intOf jv).toNat)
      case atStart => exact ⟨0, rfl, Nat.zero_le _, hide ⟨F6, unhide Z6⟩, B6⟩
      case round =>
        clear Z6 B6
        obtain ⟨j, rfl, hj2, Z7, B7⟩ := hrel
        by_cases hj : j < 2
        · have hj1 : decide ((j : Int) < 2) = true := decide_eq_true (by omega)
          go_wp2_with fail
          clear hj1
          go_loopw [76] (fun kv wx => ∃ (i : Nat), kv = .int .i64 i ∧ i ≤ l ∧ Hid (∃ F', Has wx w.heap.size q F' 65536 ((filesL S b l).map (stopP keep))) ∧ Hid (Below w.heap.size w wx)) (fun kv _ => l - (intOf kv).toNat)
          case atStart => exact ⟨0, rfl, Nat.zero_le _, Z7, B7⟩
          case round =>
            clear Z7 B7
            obtain ⟨i, rfl, hil, Z8, B8⟩ := hrel
            by_cases hi : i < l
            · obtain ⟨bb, o, rfl, hbb, c0, hsz⟩ := unhide Hp i hi
              have e0 : wr.cell? ⟨bb, o + i, none⟩ = some (.string (S i)) := by rw [(unhide B8).cell (p := ⟨bb, o + i, none⟩) hbb]; exact c0
              clear c0
              have hs1 := unhide HS i hi
              obtain ⟨F8, z8⟩ := unhide Z8
              have hB8 := (unhide B8).size
              have PR := hide (H.read (i : Int) (wf_low (by omega)) z8 (unhide T6) (by omega) hB8)
              rw [files_read (unhide T5) hi] at PR
              have hcat : ¬ 9223372036854775807 < (S i).size + (S i).size := by omega
              cases hbi : b i with
              | true =>
                have hbit2 : (bits BinOp.and IntKind.i64 (sy / 2 ^ (i % 60)) 1 == 1) = true := by rw [← unhide Hb i]; exact hbi
                rcases Int.lt_or_le keep 0 with k1 | k1
                · skip
                  have hc : stopAt (fileP S b i) keep = (S i).size := by
                    have h := stop_want S b i keep
                    rw [hbi] at h
                    simp only [if_true] at h
                    omega
                  rw [hc] at PR
                  clear hc
                  go_wp2_with fail
                  all_goals
                    refine (unhide PR).mono ?_
                    rintro e w9 ⟨rfl, x9⟩
                    obtain ⟨⟨F9, z9⟩, b9, hB9⟩ := did_below H z8 hB8 x9
                    have Z9 := hide z9
                    have B9 := hide ((unhide B8).trans b9)
                    clear z9 b9 x9 hB9
                    go_wp2_with fail
                    refine ⟨⟨i + 1, by go_num, by omega, hide ⟨F9, unhide Z9⟩, B9⟩, ?_⟩
                    simp [intOf]; omega
                · obtain ⟨kn, rfl⟩ := Int.eq_ofNat_of_zero_le k1
                  by_cases k2 : kn ≤ (S i).size
                  · skip
                    have k3 : (kn : Int) ≤ 2 * ((S i).size : Int) := by omega
                    have k4 : (kn : Int) ≤ ((S i).size : Int) := by omega
                    have hc : stopAt (fileP S b i) (kn : Int) = (S i).size + kn := by
                      have h := stop_want S b i (kn : Int)
                      rw [hbi] at h
                      simp only [if_true] at h
                      omega
                    rw [hc] at PR
                    clear hc
                    go_wp2_with fail
                    all_goals
                      refine (unhide PR).mono ?_
                      rintro e w9 ⟨rfl, x9⟩
                      obtain ⟨⟨F9, z9⟩, b9, hB9⟩ := did_below H z8 hB8 x9
                      have Z9 := hide z9
                      have B9 := hide ((unhide B8).trans b9)
                      clear z9 b9 x9 hB9
                      go_wp2_with fail
                      refine ⟨⟨i + 1, by go_num, by omega, hide ⟨F9, unhide Z9⟩, B9⟩, ?_⟩
                      simp [intOf]; omega
                  · skip
                    have k4 : ¬ (kn : Int) ≤ ((S i).size : Int) := by omega
                    have hc : stopAt (fileP S b i) (kn : Int) = (S i).size + (S i).size := by
                      have h := stop_want S b i (kn : Int)
                      rw [hbi] at h
                      simp only [if_true] at h
                      omega
                    rw [hc] at PR
                    clear hc
                    go_wp2_with fail
                    all_goals
                      refine (unhide PR).mono ?_
                      rintro e w9 ⟨rfl, x9⟩
                      obtain ⟨⟨F9, z9⟩, b9, hB9⟩ := did_below H z8 hB8 x9
                      have Z9 := hide z9
                      have B9 := hide ((unhide B8).trans b9)
                      clear z9 b9 x9 hB9
                      go_wp2_with fail
                      refine ⟨⟨i + 1, by go_num, by omega, hide ⟨F9, unhide Z9⟩, B9⟩, ?_⟩
                      simp [intOf]; omega
              | false =>
                have hbit2 : (bits BinOp.and IntKind.i64 (sy / 2 ^ (i % 60)) 1 == 1) = false := by rw [← unhide Hb i]; exact hbi
                rcases Int.lt_or_le keep 0 with k1 | k1
                · skip
                  have hc : stopAt (fileP S b i) keep = 0 := by
                    have h := stop_want S b i keep
                    rw [hbi] at h
                    simp only [Bool.false_eq_true, if_false] at h
                    omega
                  rw [hc] at PR
                  clear hc
                  go_wp2_with fail
                  all_goals
                    refine (unhide PR).mono ?_
                    rintro e w9 ⟨rfl, x9⟩
                    obtain ⟨⟨F9, z9⟩, b9, hB9⟩ := did_below H z8 hB8 x9
                    have Z9 := hide z9
                    have B9 := hide ((unhide B8).trans b9)
                    clear z9 b9 x9 hB9
                    go_wp2_with fail
                    refine ⟨⟨i + 1, by go_num, by omega, hide ⟨F9, unhide Z9⟩, B9⟩, ?_⟩
                    simp [intOf]; omega
                · obtain ⟨kn, rfl⟩ := Int.eq_ofNat_of_zero_le k1
                  by_cases k2 : kn ≤ 2 * (S i).size
                  · skip
                    have k3 : (kn : Int) ≤ 2 * ((S i).size : Int) := by omega
                    have hc : stopAt (fileP S b i) (kn : Int) = kn := by
                      have h := stop_want S b i (kn : Int)
                      rw [hbi] at h
                      simp only [Bool.false_eq_true, if_false] at h
                      omega
                    rw [hc] at PR
                    clear hc
                    go_wp2_with fail
                    all_goals
                      refine (unhide PR).mono ?_
                      rintro e w9 ⟨rfl, x9⟩
                      obtain ⟨⟨F9, z9⟩, b9, hB9⟩ := did_below H z8 hB8 x9
                      have Z9 := hide z9
                      have B9 := hide ((unhide B8).trans b9)
                      clear z9 b9 x9 hB9
                      go_wp2_with fail
                      refine ⟨⟨i + 1, by go_num, by omega, hide ⟨F9, unhide Z9⟩, B9⟩, ?_⟩
                      simp [intOf]; omega
                  · skip
                    have k4 : ¬ (kn : Int) ≤ 2 * ((S i).size : Int) := by omega
                    have hc : stopAt (fileP S b i) (kn : Int) = 2 * (S i).size := by
                      have h := stop_want S b i (kn : Int)
                      rw [hbi] at h
                      simp only [Bool.false_eq_true, if_false] at h
                      omega
                    rw [hc] at PR
                    clear hc
                    go_wp2_with fail
                    all_goals
                      refine (unhide PR).mono ?_
                      rintro e w9 ⟨rfl, x9⟩
                      obtain ⟨⟨F9, z9⟩, b9, hB9⟩ := did_below H z8 hB8 x9
                      have Z9 := hide z9
                      have B9 := hide ((unhide B8).trans b9)
                      clear z9 b9 x9 hB9
                      go_wp2_with fail
                      refine ⟨⟨i + 1, by go_num, by omega, hide ⟨F9, unhide Z9⟩, B9⟩, ?_⟩
                      simp [intOf]; omega
            · obtain ⟨F8, z8⟩ := unhide Z8
              have hB8 := (unhide B8).size
              have PC := hide (H.crash (-1) z8 (unhide T6) (by omega) hB8)
              rw [stop_again] at PC
              go_wp2_with fail
              refine (unhide PC).mono ?_
              rintro e w9 ⟨rfl, x9⟩
              obtain ⟨⟨F9, z9⟩, b9, hB9⟩ := did_below H z8 hB8 x9
              have Z9 := hide z9
              have B9 := hide ((unhide B8).trans b9)
              clear z9 b9 x9 hB9 PC z8 hB8
              go_wp2_with fail
              refine ⟨⟨j + 1, by go_num, by omega, hide ⟨F9, unhide Z9⟩, B9⟩, ?_⟩
              simp [intOf]; omega
        · go_wp2_with fail
          go_ret
          exact ⟨rfl, unhide B7⟩
end Go.Proofs.Ytbejicpfhnfnfaf.Dk
