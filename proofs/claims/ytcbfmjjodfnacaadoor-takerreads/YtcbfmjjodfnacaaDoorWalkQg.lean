/-
  Contract of the landed taker.valueOf: what stands behind the i-th word.
-/
import Derived.Test.YtcbfmjjodfnacaaDoorWalkQe
import Derived.BigQuiet
namespace Go.Proofs.YtcbfmjjodfnacaaDoor
open Go.RowKit

section
variable {t : Tk.Tkr} {a : Option Addr} {c : Nat} {w : World}
theorem val_ret {o : Option (List UInt8)} {s : Value} {b : Value} {e : Ending} (h : ValIs o e) (he : e = .returned (.tuple #[s, b])) : ValIs o (.returned (.tuple #[s, b])) := by rw [← he]; exact h
set_option maxRecDepth 100000 in
set_option maxHeartbeats 1000000 in
theorem val_of0 (hs : Tk.takE t = 0) (hsl : Dk.SlI w a t.bo) (hT : TabP w) :
    Calls Tryd.prog 19 #[.string ⟨#[102, 114, 111, 109, 61]⟩, tkV t a c] w fun e w' => ValIs (Tk.valT t 0) e ∧ Below w.heap.size w w' := by
  have b0 : Below w.heap.size w (w.alloc (tkO t a c)) := (Below.refl _ _).alloc (Nat.le_refl _) _
  have B0 := hide b0
  have hT0 := tabP_next hT b0
  have hs0 := nums_on hsl b0
  obtain ⟨_, _, hl, hst, hak⟩ := Tk.tak_ok hs
  have P1 := hide (val_from t a c (w.alloc (tkO t a c)) (fun h3 => by rcases Tk.start_of hst with h | h <;> omega) hT0)
  obtain ⟨_, c0, c1, c2, c3, c4, c5, c6, c7, c8, c9⟩ := TB.new w t a c
  clear b0 hT0 hs0 hl hst hak hs hsl hT
  go_enter Tryd.func19, Tryd.ntmps19
  go_wp2_with fail
  refine (unhide P1).mono ?_
  rintro e w1 ⟨⟨s, rfl, hv⟩, b1⟩
  have HV := hide (show ValIs (Tk.valT t 0) (.returned (.tuple #[.string s, .bool (Tk.valT t 0).isSome])) from ⟨s, rfl, hv⟩)
  have B1 := hide (bstep (unhide B0) b1)
  clear P1 b1 hv
  go_wp2_with fail
  go_ret2
  exact ⟨unhide HV, unhide B1⟩
set_option maxRecDepth 100000 in
set_option maxHeartbeats 1000000 in
theorem val_of1 (hs : Tk.takE t = 0) (hsl : Dk.SlI w a t.bo) (hT : TabP w) :
    Calls Tryd.prog 19 #[.string ⟨#[97, 99, 107, 61]⟩, tkV t a c] w fun e w' => ValIs (Tk.valT t 1) e ∧ Below w.heap.size w w' := by
  have b0 : Below w.heap.size w (w.alloc (tkO t a c)) := (Below.refl _ _).alloc (Nat.le_refl _) _
  have B0 := hide b0
  have hT0 := tabP_next hT b0
  have hs0 := nums_on hsl b0
  obtain ⟨_, _, hl, hst, hak⟩ := Tk.tak_ok hs
  have P1 := hide (val_ack t.ack (w.alloc (tkO t a c)))
  obtain ⟨_, c0, c1, c2, c3, c4, c5, c6, c7, c8, c9⟩ := TB.new w t a c
  clear b0 hT0 hs0 hl hst hak hs hsl hT
  go_enter Tryd.func19, Tryd.ntmps19
  go_wp2_with fail
  refine (unhide P1).mono ?_
  rintro e w1 ⟨⟨s, rfl, hv⟩, b1⟩
  have HV := hide (show ValIs (Tk.valT t 1) (.returned (.tuple #[.string s, .bool (Tk.valT t 1).isSome])) from ⟨s, rfl, hv⟩)
  have B1 := hide (bstep (unhide B0) b1)
  clear P1 b1 hv
  go_wp2_with fail
  go_ret2
  exact ⟨unhide HV, unhide B1⟩
set_option maxRecDepth 100000 in
set_option maxHeartbeats 1000000 in
theorem val_of2 (hs : Tk.takE t = 0) (hsl : Dk.SlI w a t.bo) (hT : TabP w) :
    Calls Tryd.prog 19 #[.string ⟨#[119, 97, 105, 116, 61]⟩, tkV t a c] w fun e w' => ValIs (Tk.valT t 2) e ∧ Below w.heap.size w w' := by
  have b0 : Below w.heap.size w (w.alloc (tkO t a c)) := (Below.refl _ _).alloc (Nat.le_refl _) _
  have B0 := hide b0
  have hT0 := tabP_next hT b0
  have hs0 := nums_on hsl b0
  obtain ⟨_, _, hl, hst, hak⟩ := Tk.tak_ok hs
  have P1 := hide (val_num t.wait (w.alloc (tkO t a c)) (by have := (Tk.nums_of hak).1; omega) hT0)
  obtain ⟨_, c0, c1, c2, c3, c4, c5, c6, c7, c8, c9⟩ := TB.new w t a c
  clear b0 hT0 hs0 hl hst hak hs hsl hT
  go_enter Tryd.func19, Tryd.ntmps19
  go_wp2_with fail
  refine (unhide P1).mono ?_
  rintro e w1 ⟨⟨s, rfl, hv⟩, b1⟩
  have HV := hide (show ValIs (Tk.valT t 2) (.returned (.tuple #[.string s, .bool (Tk.valT t 2).isSome])) from ⟨s, rfl, hv⟩)
  have B1 := hide (bstep (unhide B0) b1)
  clear P1 b1 hv
  go_wp2_with fail
  go_ret2
  exact ⟨unhide HV, unhide B1⟩
set_option maxRecDepth 100000 in
set_option maxHeartbeats 1000000 in
theorem val_of3 (hs : Tk.takE t = 0) (hsl : Dk.SlI w a t.bo) (hT : TabP w) :
    Calls Tryd.prog 19 #[.string ⟨#[98, 97, 99, 107, 111, 102, 102, 61]⟩, tkV t a c] w fun e w' => ValIs (Tk.valT t 3) e ∧ Below w.heap.size w w' := by
  have b0 : Below w.heap.size w (w.alloc (tkO t a c)) := (Below.refl _ _).alloc (Nat.le_refl _) _
  have B0 := hide b0
  have hT0 := tabP_next hT b0
  have hs0 := nums_on hsl b0
  obtain ⟨_, _, hl, hst, hak⟩ := Tk.tak_ok hs
  have P1 := hide (val_back a t.bo c (w.alloc (tkO t a c)) hs0 hl (Tk.nums_of hak).2.2.2 hT0)
  obtain ⟨_, c0, c1, c2, c3, c4, c5, c6, c7, c8, c9⟩ := TB.new w t a c
  clear b0 hT0 hs0 hl hst hak hs hsl hT
  go_enter Tryd.func19, Tryd.ntmps19
  go_wp2_with fail
  refine (unhide P1).mono ?_
  rintro e w1 ⟨⟨s, rfl, hv⟩, b1⟩
  have HV := hide (show ValIs (Tk.valT t 3) (.returned (.tuple #[.string s, .bool (Tk.valT t 3).isSome])) from ⟨s, rfl, hv⟩)
  have B1 := hide (bstep (unhide B0) b1)
  clear P1 b1 hv
  go_wp2_with fail
  go_ret2
  exact ⟨unhide HV, unhide B1⟩
set_option maxRecDepth 100000 in
set_option maxHeartbeats 1000000 in
theorem val_of4 (hs : Tk.takE t = 0) (hsl : Dk.SlI w a t.bo) (hT : TabP w) :
    Calls Tryd.prog 19 #[.string ⟨#[109, 111, 115, 116, 61]⟩, tkV t a c] w fun e w' => ValIs (Tk.valT t 4) e ∧ Below w.heap.size w w' := by
  have b0 : Below w.heap.size w (w.alloc (tkO t a c)) := (Below.refl _ _).alloc (Nat.le_refl _) _
  have B0 := hide b0
  have hT0 := tabP_next hT b0
  have hs0 := nums_on hsl b0
  obtain ⟨_, _, hl, hst, hak⟩ := Tk.tak_ok hs
  have P1 := hide (val_num t.mo (w.alloc (tkO t a c)) (by have := (Tk.nums_of hak).2.1; omega) hT0)
  obtain ⟨_, c0, c1, c2, c3, c4, c5, c6, c7, c8, c9⟩ := TB.new w t a c
  clear b0 hT0 hs0 hl hst hak hs hsl hT
  go_enter Tryd.func19, Tryd.ntmps19
  go_wp2_with fail
  refine (unhide P1).mono ?_
  rintro e w1 ⟨⟨s, rfl, hv⟩, b1⟩
  have HV := hide (show ValIs (Tk.valT t 4) (.returned (.tuple #[.string s, .bool (Tk.valT t 4).isSome])) from ⟨s, rfl, hv⟩)
  have B1 := hide (bstep (unhide B0) b1)
  clear P1 b1 hv
  go_wp2_with fail
  go_ret2
  exact ⟨unhide HV, unhide B1⟩
set_option maxRecDepth 100000 in
set_option maxHeartbeats 1000000 in
theorem val_of5 (hs : Tk.takE t = 0) (hsl : Dk.SlI w a t.bo) (hT : TabP w) :
    Calls Tryd.prog 19 #[.string ⟨#[112, 101, 110, 100, 105, 110, 103, 61]⟩, tkV t a c] w fun e w' => ValIs (Tk.valT t 5) e ∧ Below w.heap.size w w' := by
  have b0 : Below w.heap.size w (w.alloc (tkO t a c)) := (Below.refl _ _).alloc (Nat.le_refl _) _
  have B0 := hide b0
  have hT0 := tabP_next hT b0
  have hs0 := nums_on hsl b0
  obtain ⟨_, _, hl, hst, hak⟩ := Tk.tak_ok hs
  have P1 := hide (val_num t.pe (w.alloc (tkO t a c)) (by have := (Tk.nums_of hak).2.2.1; omega) hT0)
  obtain ⟨_, c0, c1, c2, c3, c4, c5, c6, c7, c8, c9⟩ := TB.new w t a c
  clear b0 hT0 hs0 hl hst hak hs hsl hT
  go_enter Tryd.func19, Tryd.ntmps19
  go_wp2_with fail
  refine (unhide P1).mono ?_
  rintro e w1 ⟨⟨s, rfl, hv⟩, b1⟩
  have HV := hide (show ValIs (Tk.valT t 5) (.returned (.tuple #[.string s, .bool (Tk.valT t 5).isSome])) from ⟨s, rfl, hv⟩)
  have B1 := hide (bstep (unhide B0) b1)
  clear P1 b1 hv
  go_wp2_with fail
  go_ret2
  exact ⟨unhide HV, unhide B1⟩
set_option maxRecDepth 100000 in
set_option maxHeartbeats 1000000 in
theorem val_of6 : 
    Calls Tryd.prog 19 #[.string ⟨#[112, 117, 115, 104]⟩, tkV t a c] w fun e w' => ValIs (Tk.valT t 6) e ∧ Below w.heap.size w w' := by
  have b0 : Below w.heap.size w (w.alloc (tkO t a c)) := (Below.refl _ _).alloc (Nat.le_refl _) _
  have B0 := hide (fun n => below_drewN b0 n)
  obtain ⟨_, c0, c1, c2, c3, c4, c5, c6, c7, c8, c9⟩ := TB.new w t a c
  have HV : Hid (ValIs (Tk.valT t 6) (.returned (.tuple #[.string ⟨#[]⟩, .bool t.pu]))) := hide ⟨⟨#[]⟩, by cases hp : t.pu <;> simp [Tk.valT, hp], fun v hv => (by cases hp : t.pu <;> simp [Tk.valT, hp] at hv; subst hv; rfl), by decide⟩
  clear b0
  go_enter Tryd.func19, Tryd.ntmps19
  go_wp2_with fail
  go_quiet (fail)
  go_wp2_with fail
  go_ret2
  exact ⟨unhide HV, unhide B0 _⟩
theorem val_of (i : Nat) (hi : i < 7) (hs : Tk.takE t = 0) (hsl : Dk.SlI w a t.bo) (hT : TabP w) :
    Calls Tryd.prog 19 #[.string (Pn.bs (Tk.hd i)), tkV t a c] w fun e w' => ValIs (Tk.valT t i) e ∧ Below w.heap.size w w' := by
  have : i = 0 ∨ i = 1 ∨ i = 2 ∨ i = 3 ∨ i = 4 ∨ i = 5 ∨ i = 6 := by omega
  rcases this with rfl | rfl | rfl | rfl | rfl | rfl | rfl
  · exact val_of0 hs hsl hT
  · exact val_of1 hs hsl hT
  · exact val_of2 hs hsl hT
  · exact val_of3 hs hsl hT
  · exact val_of4 hs hsl hT
  · exact val_of5 hs hsl hT
  · exact val_of6
end
end Go.Proofs.YtcbfmjjodfnacaaDoor
