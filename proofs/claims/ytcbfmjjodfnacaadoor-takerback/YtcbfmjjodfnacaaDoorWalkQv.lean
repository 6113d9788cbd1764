/-
  The walk of the law TakerBack.
-/
import Derived.Test.YtcbfmjjodfnacaaDoorWalkQh
import Derived.Test.YtcbfmjjodfnacaaDoorJointWalkQoWalkQp
import Derived.Test.YtcbfmjjodfnacaaDoorWalkQu
import Derived.Test.YtcbfmjjodfnacaaDoorPapQd
import Derived.Deep.DeepCutAuto
namespace Go.Proofs.YtcbfmjjodfnacaaDoor
open Go.RowKit

/-- a consumer's plan in a block of its own, and what the tables say -/
abbrev Tsb (w0 w : World) (b : Nat) (t : Tk.Tkr) (a : Option Addr) (c : Nat) : Prop := TB w b t a c ∧ Dk.SlI w a t.bo ∧ TG w ∧ Below w0.heap.size w0 w
theorem Tsb.next {w0 w w' : World} {b : Nat} {t : Tk.Tkr} {a : Option Addr} {c : Nat} (h : Tsb w0 w b t a c) (hb : Below w.heap.size w w') : Tsb w0 w' b t a c := ⟨h.1.next hb, nums_on h.2.1 hb, h.2.2.1.next hb, bstep h.2.2.2 hb⟩
theorem smallQ_of {t : Tk.Tkr} (h : Tk.takE t = 0) : SmallQ t := by
  have hx := (Tk.text_ok h).2
  rw [Tk.takT_tl, Pn.bs_size] at hx
  simp only [List.length_append, List.length_cons] at hx
  have e1 : t.n.data.toList.length = t.n.size := Array.length_toList
  have e2 : t.f.data.toList.length = t.f.size := Array.length_toList
  have e3 := (Tk.tak_ok h).2.2.1
  exact ⟨by omega, by omega, by omega⟩
theorem print_backQ {q : Tk.Tkr} {s : ByteArray} (h : Tk.readT s = (q, 0)) : tprintV q = .tuple #[.string s, .int .i64 0] ∧ Tk.takE q = 0 := by
  obtain ⟨h1, h2⟩ := Tk.print_read h
  refine ⟨?_, h1⟩
  unfold tprintV
  rw [if_neg (by rw [h1]; simp), h2]
theorem print_casesQ (p : Tk.Tkr) : ∃ (S : ByteArray) (FF : Int), tprintV p = .tuple #[.string S, .int .i64 FF] ∧ (FF ≠ 0 ∨ (FF = 0 ∧ Tk.takE p = 0 ∧ Tk.readT S = (p, 0) ∧ S.size ≤ 1024)) := by
  unfold tprintV
  by_cases h0 : Tk.takE p = 0
  · rw [if_neg (by rw [h0]; simp)]
    exact ⟨_, _, rfl, .inr ⟨rfl, h0, Tk.read_print h0, (Tk.text_ok h0).2⟩⟩
  · rw [if_pos h0]
    exact ⟨_, _, rfl, .inl h0⟩
theorem one_printQ : tprintV Tk.oneT = .tuple #[.string ⟨#[99, 32, 97, 32, 119, 97, 105, 116, 61, 53]⟩, .int .i64 0] := by
  unfold tprintV
  rw [if_neg (by rw [Tk.one_ok]; simp), Tk.one_text]
set_option maxRecDepth 100000 in
set_option maxHeartbeats 4000000 in
theorem taker_back (t : Tk.Tkr) (a : Option Addr) (c : Nat) (s : ByteArray) (w : World) (hsm : SmallQ t) (hsl : Dk.SlI w a t.bo) (hs : s.size ≤ 140737488355328) (hG : TG w) :
    Calls Tryd.prog 5 #[tkV t a c, .string s] w fun e w' => e = .returned (.bool true) ∧ Below w.heap.size w w' := by
  have b0 : Below w.heap.size w (w.alloc (tkO t a c)) := (Below.refl _ _).alloc (Nat.le_refl _) _
  obtain ⟨W, hW⟩ : ∃ W, W = w.alloc (tkO t a c) := ⟨_, rfl⟩
  have Q0 : Hid (Tsb w W w.heap.size t a c) := hide (by rw [hW]; exact ⟨TB.new w t a c, nums_on hsl b0, hG.next b0, b0⟩)
  have P1 : Hid (Calls Tryd.prog 8 #[.agg #[.string ⟨#[99]⟩, .string ⟨#[97]⟩, .int .i64 0, .int .i64 0, .int .i64 2, .int .i64 5, .slice none 0 0, .int .i64 0, .int .i64 0, .bool false]] W fun e w' => e = .returned (.tuple #[.string ⟨#[99, 32, 97, 32, 119, 97, 105, 116, 61, 53]⟩, .int .i64 0]) ∧ Below W.heap.size W w') := hide (by
    have := tprint_any Tk.oneT none 0 W (smallQ_of Tk.one_ok) (fun k hk => by simp [Tk.oneT] at hk) (unhide Q0).2.2.1
    rw [one_printQ] at this
    exact this)
  have PPr := hide (fun (W : World) (h : Tsb w W w.heap.size t a c) => tprint_any t a c W hsm h.2.1 h.2.2.1)
  obtain ⟨S, FF, hSF, hcase⟩ := print_casesQ t
  rw [hSF] at PPr
  obtain ⟨q, E2, hq⟩ : ∃ q E2, Tk.readT s = (q, E2) := ⟨_, _, rfl⟩
  have HQs := hide hq
  have HCase := hide hcase
  clear hsl hG b0 hsm hSF hcase hq
  go_enter Tryd.func5, Tryd.ntmps5
  go_upto_region 1 with fail
  rw [← hW]
  obtain ⟨b, hb⟩ : ∃ b, b = w.heap.size := ⟨_, rfl⟩
  rw [← hb] at Q0 PPr ⊢
  clear hW hb
  go_wp2_with fail
  refine (unhide P1).mono ?_
  rintro e w2 ⟨rfl, b2⟩
  have Q2 := hide ((unhide Q0).next b2)
  have P2 := hide (unhide PPr w2 (unhide Q2))
  obtain ⟨_, y0, y1, y2, y3, y4, y5, y6, y7, y8, y9⟩ := (unhide Q2).1
  clear P1 b2 Q0 PPr
  go_wp2_with fail
  refine (unhide P2).mono ?_
  rintro e w3 ⟨rfl, b3⟩
  have Q3 := hide ((unhide Q2).next b3)
  clear P2 b3 Q2 y0 y1 y2 y3 y4 y5 y6 y7 y8 y9
  rcases unhide HCase with h0 | ⟨h0, he, hr, hsz⟩
  · have e1 : (FF == 0) = false := by rw [beq_eq_false_iff_ne]; exact h0
    clear HCase h0
    have hGs := (unhide Q3).2.2.1
    by_cases hE2 : E2 = 0
    · obtain ⟨pv, hpe⟩ := print_backQ ((unhide HQs).trans (by rw [hE2]))
      have hsq := smallQ_of hpe
      have PP : Hid (Calls Tryd.prog 12 #[.string s] w3 fun e w' => ∃ a c, e = .returned (.tuple #[tkV q a c, .int .i64 0]) ∧ Dk.SlI w' a q.bo ∧ Below w3.heap.size w3 w') := hide ((tparse_any s w3 hs hGs.1).mono (fun _ _ ⟨a, c, h1, h2, h3, _⟩ => by rw [unhide HQs, hE2] at h1; rw [unhide HQs] at h2; exact ⟨a, c, h1, h2, h3⟩))
      have PPq := hide (fun (a : Option Addr) (c : Nat) (W : World) (h1 : Dk.SlI W a q.bo) (h2 : TG W) => tprint_any q a c W hsq h1 h2)
      have PCq := hide (fun (a : Option Addr) (c : Nat) (W : World) (h1 : Dk.SlI W a q.bo) => tcheck_any q a c W hsq h1)
      rw [pv] at PPq
      rw [hpe] at PCq
      clear pv hpe hsq hE2 HQs hGs
      go_wp2_with fail
      refine (unhide PP).mono ?_
      rintro e w7 ⟨a7, c7, rfl, s7, b7⟩
      have k7 : Below w7.heap.size w7 (w7.alloc (tkO q a7 c7)) := (Below.refl _ _).alloc (Nat.le_refl _) _
      have R7 : Hid (Tsb w (w7.alloc (tkO q a7 c7)) w7.heap.size q a7 c7) := hide ⟨TB.new w7 q a7 c7, nums_on s7 k7, ((unhide Q3).2.2.1.next b7).next k7, bstep (bstep (unhide Q3).2.2.2 b7) k7⟩
      have P8 := hide (unhide PPq a7 c7 _ (unhide R7).2.1 (unhide R7).2.2.1)
      obtain ⟨bq, hbq⟩ : ∃ b, b = w7.heap.size := ⟨_, rfl⟩
      obtain ⟨W7, hW7⟩ : ∃ W, W = w7.alloc (tkO q a7 c7) := ⟨_, rfl⟩
      rw [← hW7] at P8 R7
      rw [← hbq] at R7
      clear PP PPq s7 b7 k7 Q3
      go_wp2_with fail
      rw [← hW7, ← hbq]
      clear hW7 hbq
      refine (unhide P8).mono ?_
      rintro e w8 ⟨rfl, b8⟩
      have R8 := hide ((unhide R7).next b8)
      have P9 := hide (unhide PCq a7 c7 _ (unhide R8).2.1)
      obtain ⟨_, y0, y1, y2, y3, y4, y5, y6, y7, y8, y9⟩ := (unhide R8).1
      clear P8 PCq b8 R7
      go_wp2_with fail
      refine (unhide P9).mono ?_
      rintro e w9 ⟨rfl, b9⟩
      have B9 := hide (bstep (unhide R8).2.2.2 b9)
      clear P9 b9 R8 y0 y1 y2 y3 y4 y5 y6 y7 y8 y9
      go_wp2_with fail
      go_ret
      exact ⟨rfl, unhide B9⟩
    · have hz2 : Tk.readT s = (Tk.zeroT, E2) := by
        have := Tk.read_bad (s := s) (by rw [unhide HQs]; exact hE2)
        rw [← this, unhide HQs]
      have e2 : (E2 != 0) = true := by simpa using hE2
      have PP2 : Hid (Calls Tryd.prog 12 #[.string s] w3 fun e w' => ∃ a c, e = .returned (.tuple #[.agg #[.string ⟨#[]⟩, .string ⟨#[]⟩, .int .i64 0, .int .i64 0, .int .i64 0, .int .i64 0, .slice a 0 c, .int .i64 0, .int .i64 0, .bool false], .int .i64 E2]) ∧ Below w3.heap.size w3 w') := hide ((tparse_any s w3 hs hGs.1).mono (fun _ _ ⟨a, c, h1, _, h3, _⟩ => by rw [hz2] at h1; exact ⟨a, c, h1, h3⟩))
      clear hz2 HQs hGs
      go_wp2_with fail
      refine (unhide PP2).mono ?_
      rintro e w7 ⟨a, c, rfl, b7⟩
      have B7 := hide (bstep (bstep (unhide Q3).2.2.2 b7) ((Below.refl _ _).alloc (Nat.le_refl _) (.cells #[.string ⟨#[]⟩, .string ⟨#[]⟩, .int .i64 0, .int .i64 0, .int .i64 0, .int .i64 0, .slice a 0 c, .int .i64 0, .int .i64 0, .bool false] 24)))
      clear PP2 b7 Q3
      go_wp2_with fail
      go_ret
      exact ⟨rfl, unhide B7⟩
  · subst h0
    have hl5 : t.bo.length ≤ 5 := (Tk.tak_ok he).2.2.1
    have PP : Hid (Calls Tryd.prog 12 #[.string S] w3 fun e w' => ∃ a c, e = .returned (.tuple #[tkV t a c, .int .i64 0]) ∧ Dk.SlI w' a t.bo ∧ Below w3.heap.size w3 w') := hide ((tparse_any S w3 (by omega) (unhide Q3).2.2.1.1).mono (fun _ _ ⟨a, c, h1, h2, h3, _⟩ => by rw [hr] at h1 h2; exact ⟨a, c, h1, h2, h3⟩))
    clear HCase hr he hsz
    go_wp2_with fail
    refine (unhide PP).mono ?_
    rintro e w4 ⟨a4, c4, rfl, s4, b4⟩
    have k4 : Below w4.heap.size w4 (w4.alloc (tkO t a4 c4)) := (Below.refl _ _).alloc (Nat.le_refl _) _
    have Q4 := hide (((unhide Q3).next b4).next k4)
    have P5 := hide (same_taker t a4 a c4 c _ (nums_on s4 k4) (unhide Q4).2.1 (by omega))
    have T4 := TB.new w4 t a4 c4
    obtain ⟨b4', hb4⟩ : ∃ b, b = w4.heap.size := ⟨_, rfl⟩
    obtain ⟨W4, hW4⟩ : ∃ W, W = w4.alloc (tkO t a4 c4) := ⟨_, rfl⟩
    rw [← hW4] at Q4 P5 T4
    rw [← hb4] at T4
    obtain ⟨_, y0, y1, y2, y3, y4, y5, y6, y7, y8, y9⟩ := (unhide Q4).1
    obtain ⟨_, z0, z1, z2, z3, z4, z5, z6, z7, z8, z9⟩ := T4
    clear PP s4 b4 k4 Q3
    rw [hW4] at y0 y1 y2 y3 y4 y5 y6 y7 y8 y9 z0 z1 z2 z3 z4 z5 z6 z7 z8 z9
    rw [hb4] at z0 z1 z2 z3 z4 z5 z6 z7 z8 z9
    go_wp2_with fail
    rw [← hW4, ← hb4]
    clear y0 y1 y2 y3 y4 y5 y6 y7 y8 y9 z0 z1 z2 z3 z4 z5 z6 z7 z8 z9 hW4 hb4
    refine (unhide P5).mono ?_
    rintro e w5 ⟨rfl, b5⟩
    have Q5 := hide ((unhide Q4).next b5)
    clear P5 b5 Q4
    have hGs := (unhide Q5).2.2.1
    by_cases hE2 : E2 = 0
    · obtain ⟨pv, hpe⟩ := print_backQ ((unhide HQs).trans (by rw [hE2]))
      have hsq := smallQ_of hpe
      have PP : Hid (Calls Tryd.prog 12 #[.string s] w5 fun e w' => ∃ a c, e = .returned (.tuple #[tkV q a c, .int .i64 0]) ∧ Dk.SlI w' a q.bo ∧ Below w5.heap.size w5 w') := hide ((tparse_any s w5 hs hGs.1).mono (fun _ _ ⟨a, c, h1, h2, h3, _⟩ => by rw [unhide HQs, hE2] at h1; rw [unhide HQs] at h2; exact ⟨a, c, h1, h2, h3⟩))
      have PPq := hide (fun (a : Option Addr) (c : Nat) (W : World) (h1 : Dk.SlI W a q.bo) (h2 : TG W) => tprint_any q a c W hsq h1 h2)
      have PCq := hide (fun (a : Option Addr) (c : Nat) (W : World) (h1 : Dk.SlI W a q.bo) => tcheck_any q a c W hsq h1)
      rw [pv] at PPq
      rw [hpe] at PCq
      clear pv hpe hsq hE2 HQs hGs
      go_wp2_with fail
      refine (unhide PP).mono ?_
      rintro e w7 ⟨a7, c7, rfl, s7, b7⟩
      have k7 : Below w7.heap.size w7 (w7.alloc (tkO q a7 c7)) := (Below.refl _ _).alloc (Nat.le_refl _) _
      have R7 : Hid (Tsb w (w7.alloc (tkO q a7 c7)) w7.heap.size q a7 c7) := hide ⟨TB.new w7 q a7 c7, nums_on s7 k7, ((unhide Q5).2.2.1.next b7).next k7, bstep (bstep (unhide Q5).2.2.2 b7) k7⟩
      have P8 := hide (unhide PPq a7 c7 _ (unhide R7).2.1 (unhide R7).2.2.1)
      obtain ⟨bq, hbq⟩ : ∃ b, b = w7.heap.size := ⟨_, rfl⟩
      obtain ⟨W7, hW7⟩ : ∃ W, W = w7.alloc (tkO q a7 c7) := ⟨_, rfl⟩
      rw [← hW7] at P8 R7
      rw [← hbq] at R7
      clear PP PPq s7 b7 k7 Q5
      go_wp2_with fail
      rw [← hW7, ← hbq]
      clear hW7 hbq
      refine (unhide P8).mono ?_
      rintro e w8 ⟨rfl, b8⟩
      have R8 := hide ((unhide R7).next b8)
      have P9 := hide (unhide PCq a7 c7 _ (unhide R8).2.1)
      obtain ⟨_, y0, y1, y2, y3, y4, y5, y6, y7, y8, y9⟩ := (unhide R8).1
      clear P8 PCq b8 R7
      go_wp2_with fail
      refine (unhide P9).mono ?_
      rintro e w9 ⟨rfl, b9⟩
      have B9 := hide (bstep (unhide R8).2.2.2 b9)
      clear P9 b9 R8 y0 y1 y2 y3 y4 y5 y6 y7 y8 y9
      go_wp2_with fail
      go_ret
      exact ⟨rfl, unhide B9⟩
    · have hz2 : Tk.readT s = (Tk.zeroT, E2) := by
        have := Tk.read_bad (s := s) (by rw [unhide HQs]; exact hE2)
        rw [← this, unhide HQs]
      have e2 : (E2 != 0) = true := by simpa using hE2
      have PP2 : Hid (Calls Tryd.prog 12 #[.string s] w5 fun e w' => ∃ a c, e = .returned (.tuple #[.agg #[.string ⟨#[]⟩, .string ⟨#[]⟩, .int .i64 0, .int .i64 0, .int .i64 0, .int .i64 0, .slice a 0 c, .int .i64 0, .int .i64 0, .bool false], .int .i64 E2]) ∧ Below w5.heap.size w5 w') := hide ((tparse_any s w5 hs hGs.1).mono (fun _ _ ⟨a, c, h1, _, h3, _⟩ => by rw [hz2] at h1; exact ⟨a, c, h1, h3⟩))
      clear hz2 HQs hGs
      go_wp2_with fail
      refine (unhide PP2).mono ?_
      rintro e w7 ⟨a, c, rfl, b7⟩
      have B7 := hide (bstep (bstep (unhide Q5).2.2.2 b7) ((Below.refl _ _).alloc (Nat.le_refl _) (.cells #[.string ⟨#[]⟩, .string ⟨#[]⟩, .int .i64 0, .int .i64 0, .int .i64 0, .int .i64 0, .slice a 0 c, .int .i64 0, .int .i64 0, .bool false] 24)))
      clear PP2 b7 Q5
      go_wp2_with fail
      go_ret
      exact ⟨rfl, unhide B7⟩
end Go.Proofs.YtcbfmjjodfnacaaDoor
