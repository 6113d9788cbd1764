/-
  rillkeep.StoreOwn, over what is asked of any store.
-/
import Derived.Test.YtcdajajekmichaiDoorWalkOx
import Derived.Test.YtcdajajekmichaiDoorWalkQ1o
import Derived.Test.YtcdajajekmichaiDoorWalkIN
import Derived.Test.YtcdajajekmichaiDoorJointRowFWalkF
import Derived.Test.YtcdajajekmichaiDoorJointWorksBWorksT
import Derived.Test.YtcdajajekmichaiDoorWalkG1r
import Derived.Deep.RegionHeld3
namespace Go.Proofs.YtcdajajekmichaiDoor.Dk
open Go.RowKit

/-- the index that holds "a" alone -/
def oneE : List Ent := [(⟨#[97]⟩, 1)]
theorem put_a : putE [] ⟨#[97]⟩ = 0 ∧ putL [] ⟨#[97]⟩ 1 = oneE := by constructor <;> decide +kernel
theorem find_a : (if errS true ⟨#[62]⟩ = 0 then findL oneE ⟨#[62]⟩ else []) = oneE := by decide +kernel
theorem get_a : getN oneE ⟨#[97]⟩ = 1 ∧ seeE oneE ⟨#[97]⟩ = 0 := by constructor <;> decide +kernel
theorem good_a : Good oneE := by
  have := good_put good_nil (s := ⟨#[97]⟩) 1 (by decide)
  rw [put_a.2] at this
  exact this
theorem some_text {s : ByteArray} (h : errS false s = 0) : s.toList ≠ [] := fun e => by
  have : s = ⟨#[]⟩ := eqB_iff.1 (by
    show (s.toList == (⟨#[]⟩ : ByteArray).toList) = true
    rw [e]
    decide +kernel)
  rw [this] at h
  revert h
  decide +kernel

set_option maxRecDepth 100000 in
set_option maxHeartbeats 2000000 in
theorem own_law {SH : World → Nat → Nat → (Nat → Prop) → Sto → Prop} (H : SBase SH) (HT : STells SH) (l : List Rc) (a : Option Addr) (c : Nat) (f : ByteArray) (w : World) (hsl : SlR w a l) (hsm : ∀ k, k < l.length → Small (rc l k)) (hf : f.size ≤ 140737488355328) :
    Calls Tryd.prog 3 #[.slice a l.length c, .string f] w fun e w' => e = .returned (.bool true) ∧ Below w.heap.size w w' := by
  have HSl := hide hsl
  have HM := hide hsm
  clear hsl hsm
  go_enter Tryd.func3, Tryd.ntmps3
  go_wp2_with fail
  refine (new_any w).mono ?_
  rintro e w1 ⟨rfl, k1, s1, b1⟩
  have P := hide (put_any w.heap.size w.heap.size _ [] ⟨#[97]⟩ 1 w1 k1 good_nil (by decide) b1.size)
  rw [put_a.1, put_a.2] at P
  clear k1 s1
  have HB1 := hide b1
  clear b1
  go_wp2_with fail
  refine (unhide P).mono ?_
  rintro e w2 ⟨rfl, v2, k2, c2, o2⟩
  have HB2 := hide ((unhide HB1).trans ((chgD c2).below (unhide HB1).size (fun k hk z => by
    rcases z with z | z
    · omega
    · simp [Value.ownBlock] at z)))
  have P2 := hide (find_any (o := 0) w.heap.size w.heap.size v2 oneE ⟨#[62]⟩ w2 k2 good_a (by decide))
  rw [find_a] at P2
  have HK2 := hide k2
  clear P k2 c2 o2 HB1
  go_wp2_with fail
  refine (unhide P2).mono ?_
  rintro e w3 ⟨v3, rfl, a3, b3⟩
  have HK3 := hide ((unhide HK2).below b3)
  have HB3 := hide (bstep (unhide HB2) b3)
  obtain ⟨q3, cp3, rfl, _, _, _⟩ := a3.shape
  have hl3 : oneE.length = 1 := rfl
  have P3 := hide (spoilE_any (⟨#[]⟩, 0) a3)
  have HA3 : Hid (∀ k, (Value.slice q3 oneE.length cp3).ownBlock = some k → w2.heap.size ≤ k) := hide (fun k z => (a3.lt k z).1)
  rw [hl3] at P3 HA3 ⊢
  clear P2 a3 b3 hl3
  go_wp2_with fail
  refine (unhide P3).mono ?_
  rintro e w4 ⟨rfl, c4⟩
  have HK4 := hide ((unhide HK3).chg (chgE c4) (fun k hk z => by
    have := unhide HA3 k z
    rcases hk with rfl | hk
    · have := (unhide HK2).lt; omega
    · have := ((unhide HK2).arr.lt k hk).2; omega))
  have HB4 := hide ((unhide HB3).trans (c4.below (unhide HB3).size (fun k hk z => by have := unhide HA3 k z; have := (unhide HB2).size; omega)))
  have P4 := hide (get_any (o := 0) w.heap.size w.heap.size v2 oneE ⟨#[97]⟩ w4 (unhide HK4) good_a (by decide))
  rw [get_a.1, get_a.2] at P4
  clear P3 c4 HK3 HB3 HK2 HA3 HB2
  go_wp2_with fail
  refine (unhide P4).mono ?_
  rintro e w5 ⟨rfl, b5⟩
  have HB5 := hide (bstep (unhide HB4) b5)
  clear P4 b5 HK4 HB4
  by_cases h250 : 250 < l.length
  · go_wp2_with fail
    go_ret
    exact ⟨ret_is (by simp), unhide HB5⟩
  · have P5 := hide (filled_any H l a c w5 ((unhide HSl).below (unhide HB5)) (unhide HM) (by omega))
    go_wp2_with fail
    refine (unhide P5).mono ?_
    rintro e w6 ⟨q, rfl, F, h6, b6⟩
    have hok := fill_ok l
    generalize fillS l = s at *
    obtain ⟨es, hes⟩ := hok.cnt
    have hown := H.own h6
    have HB6 := hide (bstep (unhide HB5) b6)
    have hle6 : w5.heap.size ≤ w6.heap.size := b6.size
    have P6 := hide (H.all h6 hok hle6)
    have HS6 := hide h6
    have HO := hide hown
    have HOk := hide hok
    have HE := hide hes
    have hfew := hok.few
    have hfl : (foundL es f).length ≤ 100 := by
      unfold foundL
      have := hes.good.2.1
      split
      · exact Nat.le_trans (List.length_filter_le _ _) this
      · simp
    have HTx : Hid (∀ e ∈ foundL es f, e.1.toList ≠ []) := hide (fun e he => by
      unfold foundL at he
      split at he
      · exact some_text (hes.good.2.2 e (List.mem_filter.1 he).1).1
      · cases he)
    clear P5 h6 b6 hown hok hes HB5
    go_wp2_with fail
    refine (unhide P6).mono ?_
    rintro e w7 ⟨v7, rfl, a7, b7⟩
    have P7 := hide (cloneR_any a7 hfew)
    have HA7 := hide a7
    have HB7 := hide (bstep (unhide HB6) b7)
    have HS7 := hide (H.chg (A := fun _ => False) (unhide HS6) (Chg.of_below b7) (fun _ _ z => z))
    have h67 := b7.size
    clear P6 a7 b7 HS6
    obtain ⟨q7, cp7, rfl, _, _, _⟩ := (unhide HA7).shape
    go_wp2_with fail
    refine (unhide P7).mono ?_
    rintro e w8 ⟨v8, rfl, a8, b8⟩
    have HA8 := hide a8
    have HA7b := hide ((unhide HA7).below b8)
    have HB8 := hide (bstep (unhide HB7) b8)
    have HS8 := hide (H.chg (A := fun _ => False) (unhide HS7) (Chg.of_below b8) (fun _ _ z => z))
    have h78 := b8.size
    have P8 := hide (HT.subjects f hf (unhide HS8) (unhide HOk) (by omega) (unhide HE))
    clear P7 a8 b8 HS7
    obtain ⟨q8, cp8, rfl, _, _, _⟩ := (unhide HA8).shape
    go_wp2_with fail
    refine (unhide P8).mono ?_
    rintro e w9 ⟨v9, rfl, a9, b9⟩
    have HA9 := hide a9
    have HA8c := hide ((unhide HA8).below b9)
    have HA7c := hide ((unhide HA7b).below b9)
    have HB9 := hide (bstep (unhide HB8) b9)
    have HS9 := hide (H.chg (A := fun _ => False) (unhide HS8) (Chg.of_below b9) (fun _ _ z => z))
    have h89 := b9.size
    have P9 := hide (spoilR_any (⟨0, 0, 0, ⟨#[]⟩, ⟨#[]⟩, ⟨#[]⟩⟩ : Rc) (unhide HA7c))
    clear P8 a9 b9 HS8
    obtain ⟨q9, cp9, rfl, _, _, _⟩ := (unhide HA9).shape
    go_wp2_with fail
    refine (unhide P9).mono ?_
    rintro e w10 ⟨rfl, c10⟩
    have HS10 := hide (H.chg (unhide HS9) c10 (fun k hk z => by have := (unhide HO k hk).2; have := ((unhide HA7).lt k z).1; omega))
    have HA8d := hide ((unhide HA8c).chg c10 (fun g hg z => by have := ((unhide HA8).lt g hg).1; have := ((unhide HA7).lt g z).2; omega))
    have HA9d := hide ((unhide HA9).chg (chgE c10) (fun g hg z => by have := ((unhide HA9).lt g hg).1; have := ((unhide HA7).lt g z).2; omega))
    have HB10 := hide ((unhide HB9).trans (c10.below (unhide HB9).size (fun k hk z => by have := ((unhide HA7).lt k z).1; have := (unhide HB6).size; omega)))
    have h910 := c10.size
    have P10 := hide (spoilE_any ((⟨#[]⟩, 9) : Ent) (unhide HA9d))
    clear P9 c10 HS9 HA8c HA7c HA7b HB9
    go_wp2_with fail
    refine (unhide P10).mono ?_
    rintro e w11 ⟨rfl, c11⟩
    have HS11 := hide (H.chg (unhide HS10) c11 (fun k hk z => by have := (unhide HO k hk).2; have := ((unhide HA9).lt k z).1; omega))
    have HA8e := hide ((unhide HA8d).chg c11 (fun g hg z => by have := ((unhide HA8).lt g hg).2; have := ((unhide HA9).lt g z).1; omega))
    have HB11 := hide ((unhide HB10).trans (c11.below (unhide HB10).size (fun k hk z => by have := ((unhide HA9).lt k z).1; have := (unhide HB6).size; omega)))
    have h1011 := c11.size
    have P11 := hide (HT.subjects f hf (unhide HS11) (unhide HOk) (by omega) (unhide HE))
    clear P10 c11 HS10 HA8d HB10 HA9d
    go_wp2_with fail
    refine (unhide P11).mono ?_
    rintro e w12 ⟨v12, rfl, a12, b12⟩
    obtain ⟨q12, cp12, rfl, s12⟩ := a12.sl
    have HS12 := hide (H.chg (A := fun _ => False) (unhide HS11) (Chg.of_below b12) (fun _ _ z => z))
    have HA8f := hide ((unhide HA8e).below b12)
    have HB12 := hide (bstep (unhide HB11) b12)
    have HSl12 := hide s12
    have h1112 := b12.size
    have P12 := hide (H.all (unhide HS12) (unhide HOk) (by omega))
    clear P11 a12 b12 s12 HS11 HA8e
    go_wp2_with fail
    refine (unhide P12).mono ?_
    rintro e w13 ⟨v13, rfl, a13, b13⟩
    obtain ⟨q13, cp13, rfl, _, _, s13⟩ := a13.shape
    obtain ⟨q8', cp8', e8, _, _, s8⟩ := ((unhide HA8f).below b13).shape
    obtain ⟨rfl, _, rfl⟩ := Value.slice.inj e8
    have P13 := hide (equal_rec q13 q8 cp13 cp8 s.l w13 s13 s8 (by omega))
    have HSl13 := hide ((unhide HSl12).below b13)
    have HB13 := hide (bstep (unhide HB12) b13)
    clear P12 a13 b13 e8 s8 s13
    go_wp2_with fail
    refine (unhide P13).mono ?_
    rintro e w14 ⟨rfl, n14, rfl⟩
    have P14 := hide (containso_any q12 cp12 (foundL es f) (w13.drewN n14) ((unhide HSl13).below (below_drewN (Below.refl _ _) n14)) hfl (unhide HTx))
    clear P13
    go_wp2_with fail
    refine (unhide P14).mono ?_
    rintro e w15 ⟨rfl, b15⟩
    go_wp2_with fail
    go_ret
    exact ⟨ret_is (by simp), bstep (below_drewN (unhide HB13) n14) b15⟩
end Go.Proofs.YtcdajajekmichaiDoor.Dk
