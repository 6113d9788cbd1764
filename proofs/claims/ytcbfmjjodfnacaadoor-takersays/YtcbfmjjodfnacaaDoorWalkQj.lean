/-
  The document's TakerText.
-/
import Derived.Test.YtcbfmjjodfnacaaDoorWalkQd
import Derived.Test.YtcbfmjjodfnacaaDoorPapQd
import Derived.Deep.DeepCutAuto
import Derived.Deep.RegionHeldLaw
namespace Go.Proofs.YtcbfmjjodfnacaaDoor
open Go.RowKit

/-- a text joined -/
theorem bs_join (x y : List UInt8) : Pn.bs x ++ Pn.bs y = Pn.bs (x ++ y) := by rw [Pn.bs_app, Pn.list_bs]
theorem add_num {X h z y : List UInt8} (e : y = h ++ z) : Pn.bs X ++ (Pn.bs h ++ Pn.bs z) = Pn.bs (X ++ y) := by rw [e, bs_join, bs_join]
theorem add_two {X h z y : List UInt8} (e : y = X ++ (h ++ z)) : Pn.bs X ++ Pn.bs h ++ Pn.bs z = Pn.bs y := by rw [e, bs_join, bs_join, List.append_assoc]
/-- five cells -/
abbrev At5 (b : Nat) (n f : ByteArray) (fr st ack : Int) (w : World) : Prop := w.cell? ⟨b, 0, none⟩ = some (.string n) ∧ w.cell? ⟨b, 1, none⟩ = some (.string f) ∧ w.cell? ⟨b, 2, none⟩ = some (.int .i64 fr) ∧ w.cell? ⟨b, 3, none⟩ = some (.int .i64 st) ∧ w.cell? ⟨b, 4, none⟩ = some (.int .i64 ack)
theorem At5.below {b : Nat} {n f : ByteArray} {fr st ack : Int} {w w' : World} (h : At5 b n f fr st ack w) (hb : b < w.heap.size) (hw : Below w.heap.size w w') : At5 b n f fr st ack w' := by
  obtain ⟨h0, h1, h2, h3, h4⟩ := h
  exact ⟨by rw [hw.cell (p := ⟨b, 0, none⟩) hb]; exact h0, by rw [hw.cell (p := ⟨b, 1, none⟩) hb]; exact h1, by rw [hw.cell (p := ⟨b, 2, none⟩) hb]; exact h2, by rw [hw.cell (p := ⟨b, 3, none⟩) hb]; exact h3, by rw [hw.cell (p := ⟨b, 4, none⟩) hb]; exact h4⟩
/-- what stands behind the name and the filter: from .. -/
def frA (S : ByteArray) : Nat → ByteArray
  | 0 => ⟨#[]⟩
  | 1 => ⟨#[32, 102, 114, 111, 109, 61, 108, 97, 115, 116]⟩
  | 2 => ⟨#[32, 102, 114, 111, 109, 61, 110, 101, 119]⟩
  | _ => ⟨#[32, 102, 114, 111, 109, 61]⟩ ++ S
/-- .. and ack -/
def ackA : Nat → ByteArray
  | 0 => ⟨#[32, 97, 99, 107, 61, 110, 111, 110, 101]⟩
  | 1 => ⟨#[32, 97, 99, 107, 61, 97, 108, 108]⟩
  | _ => ⟨#[]⟩
/-- a narrower condition serves, too -/
theorem held_mono {P : Program} {md : Region.Mode} {ops : Array Oper} {Q : Exit → Act → World → Prop} {S S' : World → Prop} (hSS : ∀ w, S' w → S w) : ∀ (fuel : Nat) (listed : Array Bool) (a : Act) (w : World), wpAnyH P md ops Q S' fuel listed a w → wpAnyH P md ops Q S fuel listed a w
  | 0, _, _, _, h => h
  | fuel + 1, _, _, _, h => ⟨h.1, fun i hi => wpOp_mono (fun a' w' h' => ⟨hSS _ h'.1, held_mono hSS fuel _ a' w' h'.2⟩) (h.2 i hi)⟩
theorem frA_size (S : ByteArray) : ∀ k, (frA S k).size ≤ 16 + S.size
  | 0 => Nat.zero_le _
  | 1 => by show 10 ≤ _; omega
  | 2 => by show 9 ≤ _; omega
  | k + 3 => by show (_ ++ S : ByteArray).size ≤ _; rw [ByteArray.size_append]; show 6 + _ ≤ _; omega
theorem ackA_size : ∀ k, (ackA k).size ≤ 9
  | 0 => Nat.le_refl _
  | 1 => by show 8 ≤ 9; omega
  | k + 2 => Nat.zero_le _
abbrev objA (S : ByteArray) : Obj := .cells #[.string ⟨#[]⟩, .string ⟨#[32, 102, 114, 111, 109, 61, 108, 97, 115, 116]⟩, .string ⟨#[32, 102, 114, 111, 109, 61, 110, 101, 119]⟩, .string (⟨#[32, 102, 114, 111, 109, 61]⟩ ++ S)] 9
abbrev objB : Obj := .cells #[.string ⟨#[32, 97, 99, 107, 61, 110, 111, 110, 101]⟩, .string ⟨#[32, 97, 99, 107, 61, 97, 108, 108]⟩, .string ⟨#[]⟩] 9
theorem cellA (w : World) (S : ByteArray) : ∀ k, k < 4 → (w.alloc (objA S)).cell? ⟨w.heap.size, k, none⟩ = some (.string (frA S k))
  | 0, _ => World.cell?_alloc_at _ _ _ _ rfl
  | 1, _ => World.cell?_alloc_at _ _ _ _ rfl
  | 2, _ => World.cell?_alloc_at _ _ _ _ rfl
  | 3, _ => World.cell?_alloc_at _ _ _ _ rfl
  | k + 4, h => absurd h (by omega)
theorem cellB (w : World) : ∀ k, k < 3 → (w.alloc objB).cell? ⟨w.heap.size, k, none⟩ = some (.string (ackA k))
  | 0, _ => World.cell?_alloc_at _ _ _ _ rfl
  | 1, _ => World.cell?_alloc_at _ _ _ _ rfl
  | 2, _ => World.cell?_alloc_at _ _ _ _ rfl
  | k + 3, h => absurd h (by omega)
abbrev At6 (b : Nat) (n f : ByteArray) (fr st ack : Int) (g m : Nat) (x : ByteArray) (w : World) : Prop := At5 b n f fr st ack w ∧ w.cell? ⟨g, m, none⟩ = some (.string x)
theorem At6.below {b : Nat} {n f : ByteArray} {fr st ack : Int} {g m : Nat} {x : ByteArray} {w w' : World} (h : At6 b n f fr st ack g m x w) (hb : b < w.heap.size) (hg : g < w.heap.size) (hw : Below w.heap.size w w') : At6 b n f fr st ack g m x w' := ⟨h.1.below hb hw, (hw.cell (p := ⟨g, m, none⟩) hg).trans h.2⟩
abbrev At7b (b : Nat) (n f : ByteArray) (fr st ack : Int) (g m : Nat) (x : ByteArray) (g' m' : Nat) (x' : ByteArray) (w : World) : Prop := At6 b n f fr st ack g m x w ∧ w.cell? ⟨g', m', none⟩ = some (.string x')
theorem alloc_below (w : World) (o : Obj) : Below w.heap.size w (w.alloc o) := (Below.refl _ _).alloc (Nat.le_refl _) _
theorem alloc_size (w : World) (o : Obj) : (w.alloc o).heap.size = w.heap.size + 1 := by show (w.heap.push o).size = _; rw [Array.size_push]
theorem bs_data (x : ByteArray) : Pn.bs x.data.toList = x := by cases x; rfl
theorem frA_tl {t : Tk.Tkr} {k : Nat} (h : t.fr = (k : Int)) (hk : k < 4) : frA (Pn.bs (Lib.itoa t.st)) k = Pn.bs (Tk.tl t 0) := by
  match k, hk with
  | 0, _ => rw [Tk.tl_from0 h]; rfl
  | 1, _ => rw [Tk.tl_from1 h]; rfl
  | 2, _ => rw [Tk.tl_from2 h]; rfl
  | 3, _ => rw [Tk.tl_from3 h, ← bs_join]; rfl
  | k + 4, h4 => exact absurd h4 (by omega)
theorem ackA_tl {t : Tk.Tkr} {k : Nat} (h : t.ack = (k : Int)) (hk : k < 3) : ackA k = Pn.bs (Tk.tl t 1) := by
  match k, hk with
  | 0, _ => rw [Tk.tl_ack0 h]; rfl
  | 1, _ => rw [Tk.tl_ack1 h]; rfl
  | 2, _ => rw [Tk.tl_ack2 h]; rfl
  | k + 3, h4 => exact absurd h4 (by omega)
theorem t0_is (n f : ByteArray) (x y : List UInt8) : Pn.bs (n.data.toList ++ 32 :: (f.data.toList ++ (x ++ y))) = n ++ (⟨#[32]⟩ : ByteArray) ++ f ++ Pn.bs x ++ Pn.bs y := by
  have e : n ++ (⟨#[32]⟩ : ByteArray) ++ f = Pn.bs (n.data.toList ++ [32] ++ f.data.toList) := by
    have e1 : (⟨#[32]⟩ : ByteArray) = Pn.bs [32] := rfl
    rw [e1, ← bs_join, ← bs_join, bs_data, bs_data]
  rw [e, bs_join, bs_join]
  simp
set_option maxRecDepth 100000 in
set_option maxHeartbeats 2000000 in
theorem rtext_any (t : Tk.Tkr) (a : Option Addr) (c : Nat) (w : World) (hok : Tk.takE t = 0) (hsz : t.n.size ≤ 1024 ∧ t.f.size ≤ 1024) (hsl : Dk.SlI w a t.bo) (hT : TabP w) :
    Calls Tryd.prog 7 #[tkV t a c] w fun e w' => e = .returned (.string (Tk.takT t)) ∧ Below w.heap.size w w' := by
  have b0 : Below w.heap.size w (w.alloc (tkO t a c)) := (Below.refl _ _).alloc (Nat.le_refl _) _
  have HW := hide (fun (W : World) (hW : Below (w.alloc (tkO t a c)).heap.size (w.alloc (tkO t a c)) W) => show TB W w.heap.size t a c ∧ Dk.SlI W a t.bo ∧ TabP W ∧ Below w.heap.size w W from ⟨(TB.new w t a c).next hW, nums_on (nums_on hsl b0) hW, tabP_next (tabP_next hT b0) hW, bstep b0 hW⟩)
  obtain ⟨b, hb⟩ : ∃ b, b = w.heap.size := ⟨_, rfl⟩
  obtain ⟨W, hW⟩ : ∃ W, W = w.alloc (tkO t a c) := ⟨_, rfl⟩
  obtain ⟨T0, hT0⟩ : ∃ T0, T0 = t.n.data.toList ++ 32 :: (t.f.data.toList ++ (Tk.tl t 0 ++ Tk.tl t 1)) := ⟨_, rfl⟩
  have hz0 : T0.length ≤ 4096 := by
    have h := (Tk.text_ok hok).2
    rw [Tk.takT_tl, Pn.bs_size] at h
    rw [hT0]
    simp only [List.length_append, List.length_cons] at h ⊢
    omega
  have HTx : Hid (Tk.takT t = Pn.bs (T0 ++ Tk.tl t 2 ++ Tk.tl t 3 ++ Tk.tl t 4 ++ Tk.tl t 5 ++ Tk.tl t 6) ∧ (T0 ++ Tk.tl t 2 ++ Tk.tl t 3 ++ Tk.tl t 4 ++ Tk.tl t 5 ++ Tk.tl t 6).length ≤ 1024) := hide (by
    have e : t.n.data.toList ++ 32 :: (t.f.data.toList ++ (Tk.tl t 0 ++ (Tk.tl t 1 ++ (Tk.tl t 2 ++ (Tk.tl t 3 ++ (Tk.tl t 4 ++ (Tk.tl t 5 ++ Tk.tl t 6))))))) = T0 ++ Tk.tl t 2 ++ Tk.tl t 3 ++ Tk.tl t 4 ++ Tk.tl t 5 ++ Tk.tl t 6 := by rw [hT0]; simp
    have h := (Tk.text_ok hok).2
    rw [Tk.takT_tl, e, Pn.bs_size] at h
    exact ⟨by rw [Tk.takT_tl, e], h⟩)
  have HT0 := hide hT0
  obtain ⟨_, _, hl5, hst, hak⟩ := Tk.tak_ok hok
  have HK := hide (Tk.ack_of hak)
  have HN : Hid (∀ i, i < t.bo.length → 1 ≤ Dk.nth t.bo i ∧ Dk.nth t.bo i ≤ 100000) := hide (fun i hi => by
    rcases Tk.ack_of hak with h | h
    · rw [h.2.2.2.2] at hi; simp at hi
    · exact h.2.1 _ (by unfold Dk.nth; rw [List.getElem?_eq_getElem hi]; exact List.getElem_mem hi))
  have hmo : 0 ≤ t.mo ∧ t.mo ≤ 20 := by rcases Tk.ack_of hak with h | h <;> omega
  have hpe : 0 ≤ t.pe ∧ t.pe ≤ 50 := by rcases Tk.ack_of hak with h | h <;> omega
  have HOK := hide hok
  clear b0 hsl hT hT0 hst hak hok
  go_enter Tryd.func7, Tryd.ntmps7
  go_upto_region 1 with fail
  rw [← hW, ← hb] at HW
  rw [← hb, ← hW]
  have HB := hide hb
  have HWe := hide hW
  clear hb hW
  go_cut [3] (fun v wx => v = .string (Pn.bs T0) ∧ Below W.heap.size W wx)
  case first =>
    obtain ⟨tb, _, hg1, _⟩ := unhide HW W (Below.refl _ _)
    obtain ⟨hbl, c0, c1, c2, c3, c4, c5, c6, c7, c8, c9⟩ := tb
    have hst : -9223372036854775808 ≤ t.st ∧ t.st ≤ 9223372036854775807 := by rcases Tk.start_of (Tk.tak_ok (unhide HOK)).2.2.2.1 with h | h <;> omega
    have HG := hide hg1
    have PI : Hid (∀ X, Below W.heap.size W X → Calls Tryd.prog 18 #[.int .i64 t.st] X fun e w' => e = .returned (.string (Pn.bs (Lib.itoa t.st))) ∧ Below X.heap.size X w') := hide (fun X hX => itoa_any t.st hst.1 hst.2 X (tabP_next (unhide HG) hX))
    obtain ⟨k, hk, hk4⟩ : ∃ k : Nat, t.fr = (k : Int) ∧ k < 4 := ⟨t.fr.toNat, by rcases Tk.start_of (Tk.tak_ok (unhide HOK)).2.2.2.1 with h | h <;> omega, by rcases Tk.start_of (Tk.tak_ok (unhide HOK)).2.2.2.1 with h | h <;> omega⟩
    obtain ⟨j, hj, hj3⟩ : ∃ j : Nat, t.ack = (j : Int) ∧ j < 3 := ⟨t.ack.toNat, by rcases unhide HK with h | h <;> omega, by rcases unhide HK with h | h <;> omega⟩
    have k0 : At5 b t.n t.f k t.st j W.drew := ⟨c0, c1, hk ▸ c2, c3, hj ▸ c4⟩
    have hS9 : (Pn.bs (Lib.itoa t.st)).size ≤ 1000 := by have := (Tk.itoa_low9 (x := t.st) (by rcases Tk.start_of (Tk.tak_ok (unhide HOK)).2.2.2.1 with h | h <;> omega)).1; rw [Pn.bs_size]; omega
    obtain ⟨S, hS⟩ : ∃ S, Pn.bs (Lib.itoa t.st) = S := ⟨_, rfl⟩
    rw [hS] at PI hS9
    have HE : Hid (Pn.bs T0 = t.n ++ (⟨#[32]⟩ : ByteArray) ++ t.f ++ frA S k ++ ackA j) := hide (by rw [← hS, frA_tl hk hk4, ackA_tl hj hj3, unhide HT0]; exact t0_is _ _ _ _)
    generalize t.n = N at *
    generalize t.f = F at *
    generalize t.st = ST at *
    clear c0 c1 c2 c3 c4 c5 c6 c7 c8 c9 hg1 HG hst hS HK HN hmo hpe hk hj
    have y1 : N.size + (⟨#[32]⟩ : ByteArray).size ≤ 9223372036854775807 := by show _ + 1 ≤ _; omega
    have y2 : (N ++ (⟨#[32]⟩ : ByteArray)).size + F.size ≤ 9223372036854775807 := by rw [ByteArray.size_append]; show (_ + 1) + _ ≤ _; omega
    have y3 : (⟨#[32, 102, 114, 111, 109, 61]⟩ : ByteArray).size + S.size ≤ 9223372036854775807 := by show 6 + _ ≤ _; omega
    have z1 : N.size + 1 ≤ 9223372036854775807 := by omega
    have z2 : N.size + 1 + F.size ≤ 9223372036854775807 := by omega
    have z3 : 6 + S.size ≤ 9223372036854775807 := by omega
    have z4 : ∀ k, N.size + 1 + F.size + (frA S k).size ≤ 9223372036854775807 := fun k => by have := frA_size S k; omega
    have z5 : ∀ k j, N.size + 1 + F.size + (frA S k).size + (ackA j).size ≤ 9223372036854775807 := fun k j => by have := frA_size S k; have := ackA_size j; omega
    have z4k := z4 k
    have z5k := z5 k j
    have hkI : (k : Int) < 4 := by omega
    have hjI : (j : Int) < 3 := by omega
    have z1' : ¬ (9223372036854775807 < N.size + 1) := by omega
    have z2' : ¬ (9223372036854775807 < N.size + 1 + F.size) := by omega
    have z3' : ¬ (9223372036854775807 < 6 + S.size) := by omega
    have z4' : ¬ (9223372036854775807 < N.size + 1 + F.size + (frA S k).size) := by omega
    have z5' : ¬ (9223372036854775807 < N.size + 1 + F.size + (frA S k).size + (ackA j).size) := by omega
    clear z4 z5
    go_wp2_with fail
    have hHeld : At5 b N F k ST j W.drew := k0
    refine wp_region_held_drew (S := At5 b N F k ST j) (by kernel_rfl) k0 (fun hHeld => ?_)
    refine wpAnyH_take (i := 0) (v := ?_) rfl (by kernel_rfl) (by kernel_rfl) (by kernel_rfl) (fun _ _ _ h => h) (Or.inl ⟨by rfl, ?_⟩) (by assumption) (show wpAnyH _ _ _ _ _ _ _ (Act.put _ (some 5) _) _ from ?_)
    rotate_left
    · (intro w hSw; (try dsimp only at hSw); go_simp; try with_reducible rfl)
    simp only [Act.put, List.setIfInBounds_toArray, List.set_cons_zero, List.set_cons_succ]
    refine wpAnyH_take (i := 1) (v := ?_) rfl (by kernel_rfl) (by kernel_rfl) (by kernel_rfl) (fun _ _ _ h => h) (Or.inl ⟨by rfl, ?_⟩) (by assumption) (show wpAnyH _ _ _ _ _ _ _ (Act.put _ (some 6) _) _ from ?_)
    rotate_left
    · (intro w hSw; (try dsimp only at hSw); go_simp; try with_reducible rfl)
    simp only [Act.put, List.setIfInBounds_toArray, List.set_cons_zero, List.set_cons_succ]
    refine wpAnyH_take (i := 2) (v := ?_) rfl (by kernel_rfl) (by kernel_rfl) (by kernel_rfl) (fun _ _ _ h => h) (Or.inl ⟨by rfl, ?_⟩) (by assumption) (show wpAnyH _ _ _ _ _ _ _ (Act.put _ (some 7) _) _ from ?_)
    rotate_left
    · (intro w hSw; (try dsimp only at hSw); go_simp; try with_reducible rfl)
    simp only [Act.put, List.setIfInBounds_toArray, List.set_cons_zero, List.set_cons_succ]
    refine wpAnyH_take (i := 3) (v := ?_) rfl (by kernel_rfl) (by kernel_rfl) (by kernel_rfl) (fun _ _ _ h => h) (Or.inl ⟨by rfl, ?_⟩) (by assumption) (show wpAnyH _ _ _ _ _ _ _ (Act.put _ (some 8) _) _ from ?_)
    rotate_left
    · (intro w hSw; (try dsimp only at hSw); go_simp; try with_reducible rfl)
    simp only [Act.put, List.setIfInBounds_toArray, List.set_cons_zero, List.set_cons_succ]
    refine wpAnyH_take (i := 4) (v := ?_) rfl (by kernel_rfl) (by kernel_rfl) (by kernel_rfl) (fun _ _ _ h => h) (Or.inl ⟨by rfl, ?_⟩) (by assumption) (show wpAnyH _ _ _ _ _ _ _ (Act.put _ (some 9) _) _ from ?_)
    rotate_left
    · (intro w hSw; (try dsimp only at hSw); go_simp; try with_reducible rfl)
    simp only [Act.put, List.setIfInBounds_toArray, List.set_cons_zero, List.set_cons_succ]
    refine wpAnyH_take (i := 5) (v := ?_) rfl (by kernel_rfl) (by kernel_rfl) (by kernel_rfl) (fun _ _ _ h => h) (Or.inl ⟨by rfl, ?_⟩) (by assumption) (show wpAnyH _ _ _ _ _ _ _ (Act.put _ (some 10) _) _ from ?_)
    rotate_left
    · (intro w hSw; (try dsimp only at hSw); go_simp; try with_reducible rfl)
    simp only [Act.put, List.setIfInBounds_toArray, List.set_cons_zero, List.set_cons_succ]
    refine wpAnyH_take (i := 6) (v := ?_) rfl (by kernel_rfl) (by kernel_rfl) (by kernel_rfl) (fun _ _ _ h => h) (Or.inl ⟨by rfl, ?_⟩) (by assumption) (show wpAnyH _ _ _ _ _ _ _ (Act.put _ (some 11) _) _ from ?_)
    rotate_left
    · (intro w hSw; (try dsimp only at hSw); go_simp; try with_reducible rfl)
    simp only [Act.put, List.setIfInBounds_toArray, List.set_cons_zero, List.set_cons_succ]
    refine wpAnyH_take (i := 7) (v := ?_) rfl (by kernel_rfl) (by kernel_rfl) (by kernel_rfl) (fun _ _ _ h => h) (Or.inl ⟨by rfl, ?_⟩) (by assumption) (show wpAnyH _ _ _ _ _ _ _ (Act.put _ (some 12) _) _ from ?_)
    rotate_left
    · (intro w hSw; (try dsimp only at hSw); go_simp; try with_reducible rfl)
    simp only [Act.put, List.setIfInBounds_toArray, List.set_cons_zero, List.set_cons_succ]
    refine wpAnyH_take (i := 11) (v := ?_) rfl (by kernel_rfl) (by kernel_rfl) (by kernel_rfl) (fun _ _ _ h => h) (Or.inl ⟨by rfl, ?_⟩) (by assumption) (show wpAnyH _ _ _ _ _ _ _ (Act.put _ (some 16) _) _ from ?_)
    rotate_left
    · (intro w hSw; (try dsimp only at hSw); go_simp; try with_reducible rfl)
    simp only [Act.put, List.setIfInBounds_toArray, List.set_cons_zero, List.set_cons_succ]
    refine wpAnyH_take (i := 12) (v := ?_) rfl (by kernel_rfl) (by kernel_rfl) (by kernel_rfl) (fun _ _ _ h => h) (Or.inl ⟨by rfl, ?_⟩) (by assumption) (show wpAnyH _ _ _ _ _ _ _ (Act.put _ (some 17) _) _ from ?_)
    rotate_left
    · (intro w hSw; (try dsimp only at hSw); go_simp; try with_reducible rfl)
    simp only [Act.put, List.setIfInBounds_toArray, List.set_cons_zero, List.set_cons_succ]
    refine wpAnyH_take (i := 17) (v := ?_) rfl (by kernel_rfl) (by kernel_rfl) (by kernel_rfl) (fun _ _ _ h => h) (Or.inl ⟨by rfl, ?_⟩) (by assumption) (show wpAnyH _ _ _ _ _ _ _ (Act.put _ (some 22) _) _ from ?_)
    rotate_left
    · (intro w hSw; (try dsimp only at hSw); go_simp; try with_reducible rfl)
    simp only [Act.put, List.setIfInBounds_toArray, List.set_cons_zero, List.set_cons_succ]
    refine wpAnyH_take (i := 18) (v := ?_) rfl (by kernel_rfl) (by kernel_rfl) (by kernel_rfl) (fun _ _ _ h => h) (Or.inl ⟨by rfl, ?_⟩) (by assumption) (show wpAnyH _ _ _ _ _ _ _ (Act.put _ (some 23) _) _ from ?_)
    rotate_left
    · (intro w hSw; (try dsimp only at hSw); go_simp; try with_reducible rfl)
    simp only [Act.put, List.setIfInBounds_toArray, List.set_cons_zero, List.set_cons_succ]
    refine wpAnyH_ready (rs := [8, 16]) (by kernel_rfl) (by simp) ?_
    refine AllReadyH.cons rfl (fun K hK => ?_) (AllReadyH.cons rfl (fun K hK => ?_) AllReadyH.nil)
    · go_simp
      go_wp2_with (first | (go_at_call 18; refine (unhide PI _ ((Below.refl _ _).drew)).mono ?_; rintro e w2 ⟨rfl, b2⟩; have k2 : At5 b N F k ST j w2 := At5.below hHeld hbl b2))
      refine hK.out _ _ k2 (fun hHeld2 => ?_)
      clear hK K
      refine wpAnyH_take (i := 9) (v := ?_) rfl (by kernel_rfl) (by kernel_rfl) (by kernel_rfl) (fun _ _ _ h => h) (Or.inl ⟨by rfl, ?_⟩) (by assumption) (show wpAnyH _ _ _ _ _ _ _ (Act.put _ (some 14) _) _ from ?_)
      rotate_left
      · (intro w hSw; (try dsimp only at hSw); go_simp; try with_reducible rfl)
      simp only [Act.put, List.setIfInBounds_toArray, List.set_cons_zero, List.set_cons_succ]
      refine wpAnyH_ready (rs := [10, 16]) (by kernel_rfl) (by simp) ?_
      refine AllReadyH.cons rfl (fun K hK => ?_) (AllReadyH.cons rfl (fun K hK => ?_) AllReadyH.nil)
      · go_simp
        have hb2 : b < w2.heap.size := Nat.lt_of_lt_of_le hbl b2.size
        refine hK.out _ _ (At5.below k2 hb2 (alloc_below _ _)) (fun hHeld3 => ?_)
        clear hK K
        have k3 : At6 b N F k ST j w2.heap.size k (frA S k) (w2.alloc (objA S)) := ⟨hHeld3, cellA _ _ _ hk4⟩
        refine held_mono (S' := At6 b N F k ST j w2.heap.size k (frA S k)) (fun _ h => h.1) _ _ _ _ ?_
        refine wpAnyH_take (i := 13) (v := ?_) rfl (by kernel_rfl) (by kernel_rfl) (by kernel_rfl) (fun _ _ _ h => h) (Or.inl ⟨by rfl, ?_⟩) (by assumption) (show wpAnyH _ _ _ _ _ _ _ (Act.put _ (some 18) _) _ from ?_)
        rotate_left
        · (intro w hSw; (try dsimp only at hSw); go_simp; try with_reducible rfl)
        simp only [Act.put, List.setIfInBounds_toArray, List.set_cons_zero, List.set_cons_succ]
        refine wpAnyH_take (i := 14) (v := ?_) rfl (by kernel_rfl) (by kernel_rfl) (by kernel_rfl) (fun _ _ _ h => h) (Or.inl ⟨by rfl, ?_⟩) (by assumption) (show wpAnyH _ _ _ _ _ _ _ (Act.put _ (some 19) _) _ from ?_)
        rotate_left
        · (intro w hSw; (try dsimp only at hSw); go_simp; try with_reducible rfl)
        simp only [Act.put, List.setIfInBounds_toArray, List.set_cons_zero, List.set_cons_succ]
        refine wpAnyH_take (i := 15) (v := ?_) rfl (by kernel_rfl) (by kernel_rfl) (by kernel_rfl) (fun _ _ _ h => h) (Or.inl ⟨by rfl, ?_⟩) (by assumption) (show wpAnyH _ _ _ _ _ _ _ (Act.put _ (some 20) _) _ from ?_)
        rotate_left
        · (intro w hSw; (try dsimp only at hSw); go_simp; try with_reducible rfl)
        simp only [Act.put, List.setIfInBounds_toArray, List.set_cons_zero, List.set_cons_succ]
        refine wpAnyH_ready (rs := [16]) (by kernel_rfl) (by simp) ?_
        refine AllReadyH.cons rfl (fun K hK => ?_) AllReadyH.nil
        go_simp
        have k4 : At6 b N F k ST j w2.heap.size k (frA S k) ((w2.alloc (objA S)).alloc objB) := At6.below k3 (by rw [alloc_size]; omega) (by rw [alloc_size]; omega) (alloc_below _ _)
        refine hK.out _ _ k4 (fun hHeld4 => ?_)
        clear hK K
        have k5 : At7b b N F k ST j w2.heap.size k (frA S k) (w2.heap.size + 1) j (ackA j) ((w2.alloc (objA S)).alloc objB) := ⟨k4, by have := cellB (w2.alloc (objA S)) j hj3; rw [alloc_size] at this; exact this⟩
        refine held_mono (S' := At7b b N F k ST j w2.heap.size k (frA S k) (w2.heap.size + 1) j (ackA j)) (fun _ h => h.1) _ _ _ _ ?_
        refine wpAnyH_take (i := 19) (v := ?_) rfl (by kernel_rfl) (by kernel_rfl) (by kernel_rfl) (fun _ _ _ h => h) (Or.inl ⟨by rfl, ?_⟩) (by assumption) (show wpAnyH _ _ _ _ _ _ _ (Act.put _ (some 24) _) _ from ?_)
        rotate_left
        · (intro w hSw; (try dsimp only at hSw); go_simp; try with_reducible rfl)
        simp only [Act.put, List.setIfInBounds_toArray, List.set_cons_zero, List.set_cons_succ]
        refine wpAnyH_take (i := 20) (v := ?_) rfl (by kernel_rfl) (by kernel_rfl) (by kernel_rfl) (fun _ _ _ h => h) (Or.inl ⟨by rfl, ?_⟩) (by assumption) (show wpAnyH _ _ _ _ _ _ _ (Act.put _ (some 25) _) _ from ?_)
        rotate_left
        · (intro w hSw; (try dsimp only at hSw); go_simp; try with_reducible rfl)
        simp only [Act.put, List.setIfInBounds_toArray, List.set_cons_zero, List.set_cons_succ]
        refine wpAnyH_take (i := 21) (v := ?_) rfl (by kernel_rfl) (by kernel_rfl) (by kernel_rfl) (fun _ _ _ h => h) (Or.inl ⟨by rfl, ?_⟩) (by assumption) (show wpAnyH _ _ _ _ _ _ _ (Act.put _ (some 26) _) _ from ?_)
        rotate_left
        · (intro w hSw; (try dsimp only at hSw); go_simp; try with_reducible rfl)
        simp only [Act.put, List.setIfInBounds_toArray, List.set_cons_zero, List.set_cons_succ]
        refine wpAnyH_take (i := 22) (v := ?_) rfl (by kernel_rfl) (by kernel_rfl) (by kernel_rfl) (fun _ _ _ h => h) (Or.inl ⟨by rfl, ?_⟩) (by assumption) (show wpAnyH _ _ _ _ _ _ _ (Act.put _ (some 3) _) _ from ?_)
        rotate_left
        · (intro w hSw; (try dsimp only at hSw); go_simp; try with_reducible rfl)
        simp only [Act.put, List.setIfInBounds_toArray, List.set_cons_zero, List.set_cons_succ]
        refine wpAnyH_done (by kernel_rfl) ?_ _
        go_wp2_with fail
        go_meet
        exact ⟨congrArg Value.string (unhide HE).symm, bstep (bstep ((Below.refl _ _).drew.trans b2) (alloc_below _ _)) (alloc_below _ _)⟩
      · go_simp
        have hb2 : b < w2.heap.size := Nat.lt_of_lt_of_le hbl b2.size
        refine hK.out _ _ (At5.below k2 hb2 (alloc_below _ _)) (fun hHeld3 => ?_)
        clear hK K
        have k3 : At6 b N F k ST j w2.heap.size j (ackA j) (w2.alloc objB) := ⟨hHeld3, cellB _ _ hj3⟩
        refine held_mono (S' := At6 b N F k ST j w2.heap.size j (ackA j)) (fun _ h => h.1) _ _ _ _ ?_
        refine wpAnyH_take (i := 19) (v := ?_) rfl (by kernel_rfl) (by kernel_rfl) (by kernel_rfl) (fun _ _ _ h => h) (Or.inl ⟨by rfl, ?_⟩) (by assumption) (show wpAnyH _ _ _ _ _ _ _ (Act.put _ (some 24) _) _ from ?_)
        rotate_left
        · (intro w hSw; (try dsimp only at hSw); go_simp; try with_reducible rfl)
        simp only [Act.put, List.setIfInBounds_toArray, List.set_cons_zero, List.set_cons_succ]
        refine wpAnyH_take (i := 20) (v := ?_) rfl (by kernel_rfl) (by kernel_rfl) (by kernel_rfl) (fun _ _ _ h => h) (Or.inl ⟨by rfl, ?_⟩) (by assumption) (show wpAnyH _ _ _ _ _ _ _ (Act.put _ (some 25) _) _ from ?_)
        rotate_left
        · (intro w hSw; (try dsimp only at hSw); go_simp; try with_reducible rfl)
        simp only [Act.put, List.setIfInBounds_toArray, List.set_cons_zero, List.set_cons_succ]
        refine wpAnyH_ready (rs := [10]) (by kernel_rfl) (by simp) ?_
        refine AllReadyH.cons rfl (fun K hK => ?_) AllReadyH.nil
        go_simp
        have k4 : At6 b N F k ST j w2.heap.size j (ackA j) ((w2.alloc objB).alloc (objA S)) := At6.below k3 (by rw [alloc_size]; omega) (by rw [alloc_size]; omega) (alloc_below _ _)
        refine hK.out _ _ k4 (fun hHeld4 => ?_)
        clear hK K
        have k5 : At7b b N F k ST j w2.heap.size j (ackA j) (w2.heap.size + 1) k (frA S k) ((w2.alloc objB).alloc (objA S)) := ⟨k4, by have := cellA (w2.alloc objB) S k hk4; rw [alloc_size] at this; exact this⟩
        refine held_mono (S' := At7b b N F k ST j w2.heap.size j (ackA j) (w2.heap.size + 1) k (frA S k)) (fun _ h => h.1) _ _ _ _ ?_
        refine wpAnyH_take (i := 13) (v := ?_) rfl (by kernel_rfl) (by kernel_rfl) (by kernel_rfl) (fun _ _ _ h => h) (Or.inl ⟨by rfl, ?_⟩) (by assumption) (show wpAnyH _ _ _ _ _ _ _ (Act.put _ (some 18) _) _ from ?_)
        rotate_left
        · (intro w hSw; (try dsimp only at hSw); go_simp; try with_reducible rfl)
        simp only [Act.put, List.setIfInBounds_toArray, List.set_cons_zero, List.set_cons_succ]
        refine wpAnyH_take (i := 14) (v := ?_) rfl (by kernel_rfl) (by kernel_rfl) (by kernel_rfl) (fun _ _ _ h => h) (Or.inl ⟨by rfl, ?_⟩) (by assumption) (show wpAnyH _ _ _ _ _ _ _ (Act.put _ (some 19) _) _ from ?_)
        rotate_left
        · (intro w hSw; (try dsimp only at hSw); go_simp; try with_reducible rfl)
        simp only [Act.put, List.setIfInBounds_toArray, List.set_cons_zero, List.set_cons_succ]
        refine wpAnyH_take (i := 15) (v := ?_) rfl (by kernel_rfl) (by kernel_rfl) (by kernel_rfl) (fun _ _ _ h => h) (Or.inl ⟨by rfl, ?_⟩) (by assumption) (show wpAnyH _ _ _ _ _ _ _ (Act.put _ (some 20) _) _ from ?_)
        rotate_left
        · (intro w hSw; (try dsimp only at hSw); go_simp; try with_reducible rfl)
        simp only [Act.put, List.setIfInBounds_toArray, List.set_cons_zero, List.set_cons_succ]
        refine wpAnyH_take (i := 21) (v := ?_) rfl (by kernel_rfl) (by kernel_rfl) (by kernel_rfl) (fun _ _ _ h => h) (Or.inl ⟨by rfl, ?_⟩) (by assumption) (show wpAnyH _ _ _ _ _ _ _ (Act.put _ (some 26) _) _ from ?_)
        rotate_left
        · (intro w hSw; (try dsimp only at hSw); go_simp; try with_reducible rfl)
        simp only [Act.put, List.setIfInBounds_toArray, List.set_cons_zero, List.set_cons_succ]
        refine wpAnyH_take (i := 22) (v := ?_) rfl (by kernel_rfl) (by kernel_rfl) (by kernel_rfl) (fun _ _ _ h => h) (Or.inl ⟨by rfl, ?_⟩) (by assumption) (show wpAnyH _ _ _ _ _ _ _ (Act.put _ (some 3) _) _ from ?_)
        rotate_left
        · (intro w hSw; (try dsimp only at hSw); go_simp; try with_reducible rfl)
        simp only [Act.put, List.setIfInBounds_toArray, List.set_cons_zero, List.set_cons_succ]
        refine wpAnyH_done (by kernel_rfl) ?_ _
        go_wp2_with fail
        go_meet
        exact ⟨congrArg Value.string (unhide HE).symm, bstep (bstep ((Below.refl _ _).drew.trans b2) (alloc_below _ _)) (alloc_below _ _)⟩
    · go_simp
      refine hK.out _ _ (At5.below hHeld hbl (alloc_below W.drew _)) (fun hHeld3 => ?_)
      clear hK K
      have k3 : At6 b N F k ST j W.heap.size j (ackA j) (W.drew.alloc objB) := ⟨hHeld3, cellB W.drew _ hj3⟩
      refine held_mono (S' := At6 b N F k ST j W.heap.size j (ackA j)) (fun _ h => h.1) _ _ _ _ ?_
      refine wpAnyH_take (i := 19) (v := ?_) rfl (by kernel_rfl) (by kernel_rfl) (by kernel_rfl) (fun _ _ _ h => h) (Or.inl ⟨by rfl, ?_⟩) (by assumption) (show wpAnyH _ _ _ _ _ _ _ (Act.put _ (some 24) _) _ from ?_)
      rotate_left
      · (intro w hSw; (try dsimp only at hSw); go_simp; try with_reducible rfl)
      simp only [Act.put, List.setIfInBounds_toArray, List.set_cons_zero, List.set_cons_succ]
      refine wpAnyH_take (i := 20) (v := ?_) rfl (by kernel_rfl) (by kernel_rfl) (by kernel_rfl) (fun _ _ _ h => h) (Or.inl ⟨by rfl, ?_⟩) (by assumption) (show wpAnyH _ _ _ _ _ _ _ (Act.put _ (some 25) _) _ from ?_)
      rotate_left
      · (intro w hSw; (try dsimp only at hSw); go_simp; try with_reducible rfl)
      simp only [Act.put, List.setIfInBounds_toArray, List.set_cons_zero, List.set_cons_succ]
      refine wpAnyH_ready (rs := [8]) (by kernel_rfl) (by simp) ?_
      refine AllReadyH.cons rfl (fun K hK => ?_) AllReadyH.nil
      go_simp
      go_wp2_with (first | (go_at_call 18; refine (unhide PI (W.drew.alloc objB) (bstep (Below.refl W.heap.size W).drew (alloc_below W.drew objB))).mono ?_; rintro e w2 ⟨rfl, b2⟩; have k4 : At6 b N F k ST j W.heap.size j (ackA j) w2 := At6.below k3 (by rw [alloc_size]; exact Nat.lt_succ_of_lt hbl) (by rw [alloc_size]; exact Nat.lt_succ_self _) b2))
      refine hK.out _ _ k4 (fun hHeld4 => ?_)
      clear hK K
      refine wpAnyH_take (i := 9) (v := ?_) rfl (by kernel_rfl) (by kernel_rfl) (by kernel_rfl) (fun _ _ _ h => h) (Or.inl ⟨by rfl, ?_⟩) (by assumption) (show wpAnyH _ _ _ _ _ _ _ (Act.put _ (some 14) _) _ from ?_)
      rotate_left
      · (intro w hSw; (try dsimp only at hSw); go_simp; try with_reducible rfl)
      simp only [Act.put, List.setIfInBounds_toArray, List.set_cons_zero, List.set_cons_succ]
      refine wpAnyH_ready (rs := [10]) (by kernel_rfl) (by simp) ?_
      refine AllReadyH.cons rfl (fun K hK => ?_) AllReadyH.nil
      go_simp
      have hs2 : W.heap.size + 1 ≤ w2.heap.size := by have := b2.size; rw [alloc_size] at this; exact this
      have k5 : At6 b N F k ST j W.heap.size j (ackA j) (w2.alloc (objA S)) := At6.below k4 (by omega) (by omega) (alloc_below _ _)
      refine hK.out _ _ k5 (fun hHeld5 => ?_)
      clear hK K
      have k6 : At7b b N F k ST j W.heap.size j (ackA j) w2.heap.size k (frA S k) (w2.alloc (objA S)) := ⟨k5, cellA w2 S k hk4⟩
      refine held_mono (S' := At7b b N F k ST j W.heap.size j (ackA j) w2.heap.size k (frA S k)) (fun _ h => h.1) _ _ _ _ ?_
      refine wpAnyH_take (i := 13) (v := ?_) rfl (by kernel_rfl) (by kernel_rfl) (by kernel_rfl) (fun _ _ _ h => h) (Or.inl ⟨by rfl, ?_⟩) (by assumption) (show wpAnyH _ _ _ _ _ _ _ (Act.put _ (some 18) _) _ from ?_)
      rotate_left
      · (intro w hSw; (try dsimp only at hSw); go_simp; try with_reducible rfl)
      simp only [Act.put, List.setIfInBounds_toArray, List.set_cons_zero, List.set_cons_succ]
      refine wpAnyH_take (i := 14) (v := ?_) rfl (by kernel_rfl) (by kernel_rfl) (by kernel_rfl) (fun _ _ _ h => h) (Or.inl ⟨by rfl, ?_⟩) (by assumption) (show wpAnyH _ _ _ _ _ _ _ (Act.put _ (some 19) _) _ from ?_)
      rotate_left
      · (intro w hSw; (try dsimp only at hSw); go_simp; try with_reducible rfl)
      simp only [Act.put, List.setIfInBounds_toArray, List.set_cons_zero, List.set_cons_succ]
      refine wpAnyH_take (i := 15) (v := ?_) rfl (by kernel_rfl) (by kernel_rfl) (by kernel_rfl) (fun _ _ _ h => h) (Or.inl ⟨by rfl, ?_⟩) (by assumption) (show wpAnyH _ _ _ _ _ _ _ (Act.put _ (some 20) _) _ from ?_)
      rotate_left
      · (intro w hSw; (try dsimp only at hSw); go_simp; try with_reducible rfl)
      simp only [Act.put, List.setIfInBounds_toArray, List.set_cons_zero, List.set_cons_succ]
      refine wpAnyH_take (i := 21) (v := ?_) rfl (by kernel_rfl) (by kernel_rfl) (by kernel_rfl) (fun _ _ _ h => h) (Or.inl ⟨by rfl, ?_⟩) (by assumption) (show wpAnyH _ _ _ _ _ _ _ (Act.put _ (some 26) _) _ from ?_)
      rotate_left
      · (intro w hSw; (try dsimp only at hSw); go_simp; try with_reducible rfl)
      simp only [Act.put, List.setIfInBounds_toArray, List.set_cons_zero, List.set_cons_succ]
      refine wpAnyH_take (i := 22) (v := ?_) rfl (by kernel_rfl) (by kernel_rfl) (by kernel_rfl) (fun _ _ _ h => h) (Or.inl ⟨by rfl, ?_⟩) (by assumption) (show wpAnyH _ _ _ _ _ _ _ (Act.put _ (some 3) _) _ from ?_)
      rotate_left
      · (intro w hSw; (try dsimp only at hSw); go_simp; try with_reducible rfl)
      simp only [Act.put, List.setIfInBounds_toArray, List.set_cons_zero, List.set_cons_succ]
      refine wpAnyH_done (by kernel_rfl) ?_ _
      go_wp2_with fail
      go_meet
      exact ⟨congrArg Value.string (unhide HE).symm, bstep (bstep (bstep (Below.refl W.heap.size W).drew (alloc_below W.drew objB)) b2) (alloc_below _ _)⟩
  case rest =>
    obtain ⟨rfl, b1⟩ := hcut
    obtain ⟨tb, hs1, hg1, be⟩ := unhide HW wc b1
    have B1 := hide b1
    have HG := hide hg1
    obtain ⟨hbl, c0, c1, c2, c3, c4, c5, c6, c7, c8, c9⟩ := tb
    clear b1 be hs1 hg1
    have hl2 : (T0 ++ Tk.tl t 2).length ≤ 1024 := by have := (unhide HTx).2; simp only [List.length_append] at this ⊢; omega
    go_upto_if 29 with fail
    go_cut [3] (fun v wx => v = .string (Pn.bs (T0 ++ Tk.tl t 2)) ∧ Below W.heap.size W wx)
    case first =>
      rcases unhide HK with ⟨h0, h1, _⟩ | ⟨h0, _, ⟨h1, h2⟩, _⟩
      · have e0 : (t.ack != 0) = false := by rw [h0]; rfl
        have HV := hide (show Value.string (Pn.bs T0) = .string (Pn.bs (T0 ++ Tk.tl t 2)) from by rw [Tk.tl_wait0 h1, List.append_nil])
        clear h0 h1
        go_wp2_with fail
        go_meet
        exact ⟨unhide HV, unhide B1⟩
      · have e0 : (t.ack != 0) = true := by rcases h0 with h | h <;> (rw [h]; rfl)
        have PI := hide (itoa_any t.wait (by omega) (by omega) wc (unhide HG))
        have HV := hide (show Value.string (Pn.bs T0 ++ (Pn.bs [32, 119, 97, 105, 116, 61] ++ Pn.bs (Lib.itoa t.wait))) = .string (Pn.bs (T0 ++ Tk.tl t 2)) from congrArg Value.string (add_num (Tk.tl_wait1 h1)))
        have hz1 := (Tk.itoa_low9 (x := t.wait) (by omega)).1
        have hy1 : (⟨#[32, 119, 97, 105, 116, 61]⟩ : ByteArray).size + (Pn.bs (Lib.itoa t.wait)).size ≤ 9223372036854775807 := by rw [Pn.bs_size]; show 6 + _ ≤ _; omega
        have hy2 : (Pn.bs T0).size + ((⟨#[32, 119, 97, 105, 116, 61]⟩ : ByteArray) ++ Pn.bs (Lib.itoa t.wait)).size ≤ 9223372036854775807 := by rw [ByteArray.size_append, Pn.bs_size, Pn.bs_size]; show _ + (6 + _) ≤ _; omega
        clear h0
        go_wp2_with fail
        refine (unhide PI).mono ?_
        rintro e w2 ⟨rfl, b2⟩
        have B2 := hide (bstep (unhide B1) b2)
        clear PI b2
        go_wp2_with fail
        go_meet
        exact ⟨unhide HV, unhide B2⟩
    case rest =>
      clear c0 c1 c2 c3 c4 c5 c6 c7 c8 c9 HG B1
      obtain ⟨rfl, b1⟩ := hcut
      obtain ⟨T1, hT1⟩ : ∃ T1, T1 = T0 ++ Tk.tl t 2 := ⟨_, rfl⟩
      rw [← hT1] at HTx hl2 ⊢
      have B1 := hide b1
      have hbl := (unhide HW wc b1).1.lt
      clear hT1 b1
      go_wp2_with fail
      go_loopw [3, 4] (fun ov iv wr => ∃ i : Nat, iv = .int .i64 i ∧ i ≤ t.bo.length ∧ ov = .string (Pn.bs (T1 ++ Tk.boX t.bo i)) ∧ (T1 ++ Tk.boX t.bo i).length ≤ 1024 + 20 * i ∧ Hid (Below W.heap.size W wr)) (fun _ iv _ => t.bo.length - (intOf iv).toNat)
      case atStart => exact ⟨0, rfl, Nat.zero_le _, by rw [Tk.boX_zero, List.append_nil], by rw [Tk.boX_zero, List.append_nil]; omega, B1⟩
      case round =>
        clear B1
        obtain ⟨i, rfl, hi, rfl, hle, B1⟩ := hrel
        obtain ⟨tb, hs1, hg1, _⟩ := unhide HW wr (unhide B1)
        have HG := hide hg1
        obtain ⟨hbl, c0, c1, c2, c3, c4, c5, c6, c7, c8, c9⟩ := tb
        clear hg1
        by_cases hlt : i < t.bo.length
        · obtain ⟨g, o, rfl, _, e1⟩ := hs1 i hlt
          have hx := unhide HN i hlt
          have PI := hide (itoa_any (Dk.nth t.bo i) (by omega) (by omega) wr (unhide HG))
          have hz1 := (Tk.itoa_low9 (x := Dk.nth t.bo i) (by omega)).1
          by_cases h0 : i = 0
          · have q0 : ((i : Int) == 0) = true := by rw [h0]; rfl
            have hn : Tk.boX t.bo (i + 1) = Tk.boX t.bo i ++ ([32, 98, 97, 99, 107, 111, 102, 102, 61] ++ Lib.itoa (Dk.nth t.bo i)) := by
              rw [h0] at hlt ⊢
              rw [Tk.boX_one hlt, Tk.boX_zero, List.nil_append]
            have HV := hide (show Value.string (Pn.bs (T1 ++ Tk.boX t.bo i) ++ Pn.bs [32, 98, 97, 99, 107, 111, 102, 102, 61] ++ Pn.bs (Lib.itoa (Dk.nth t.bo i))) = .string (Pn.bs (T1 ++ Tk.boX t.bo (i + 1))) from congrArg Value.string (add_two (by rw [hn, List.append_assoc])))
            have HLe : Hid ((T1 ++ Tk.boX t.bo (i + 1)).length ≤ 1024 + 20 * (i + 1)) := hide (by
              rw [hn]
              simp only [List.length_append, List.length_cons, List.length_nil] at hle ⊢
              omega)
            have hy1 : (Pn.bs (T1 ++ Tk.boX t.bo i)).size + (⟨#[32, 98, 97, 99, 107, 111, 102, 102, 61]⟩ : ByteArray).size ≤ 9223372036854775807 := by rw [Pn.bs_size]; show _ + 9 ≤ _; omega
            have hy2 : (Pn.bs (T1 ++ Tk.boX t.bo i) ++ (⟨#[32, 98, 97, 99, 107, 111, 102, 102, 61]⟩ : ByteArray)).size + (Pn.bs (Lib.itoa (Dk.nth t.bo i))).size ≤ 9223372036854775807 := by rw [ByteArray.size_append, Pn.bs_size, Pn.bs_size]; show (_ + 9) + _ ≤ _; omega
            obtain ⟨x, hxx⟩ : ∃ x, Dk.nth t.bo i = x := ⟨_, rfl⟩
            obtain ⟨O, hO⟩ : ∃ O, Pn.bs (T1 ++ Tk.boX t.bo i) = O := ⟨_, rfl⟩
            rw [hxx] at e1 PI HV hy2
            rw [hO] at HV hy1 hy2 ⊢
            clear hxx hx hn hO hle hz1 hs1 h0
            go_wp2_with fail
            refine (unhide PI).mono ?_
            rintro e w2 ⟨rfl, b2⟩
            have B2 := hide (bstep (unhide B1) b2)
            clear PI b2
            go_wp2_with fail
            refine ⟨⟨i + 1, by go_num, by omega, unhide HV, unhide HLe, B2⟩, ?_⟩
            simp [intOf]; omega
          · have hn := Tk.boX_more h0 hlt
            have q0 : ((i : Int) == 0) = false := by rw [beq_eq_false_iff_ne]; omega
            have HV := hide (show Value.string (Pn.bs (T1 ++ Tk.boX t.bo i) ++ Pn.bs [44] ++ Pn.bs (Lib.itoa (Dk.nth t.bo i))) = .string (Pn.bs (T1 ++ Tk.boX t.bo (i + 1))) from congrArg Value.string (add_two (by rw [hn, List.append_assoc])))
            have HLe : Hid ((T1 ++ Tk.boX t.bo (i + 1)).length ≤ 1024 + 20 * (i + 1)) := hide (by
              rw [hn]
              simp only [List.length_append, List.length_cons, List.length_nil] at hle ⊢
              omega)
            have hy1 : (Pn.bs (T1 ++ Tk.boX t.bo i)).size + (⟨#[44]⟩ : ByteArray).size ≤ 9223372036854775807 := by rw [Pn.bs_size]; show _ + 1 ≤ _; omega
            have hy2 : (Pn.bs (T1 ++ Tk.boX t.bo i) ++ (⟨#[44]⟩ : ByteArray)).size + (Pn.bs (Lib.itoa (Dk.nth t.bo i))).size ≤ 9223372036854775807 := by rw [ByteArray.size_append, Pn.bs_size, Pn.bs_size]; show (_ + 1) + _ ≤ _; omega
            obtain ⟨x, hxx⟩ : ∃ x, Dk.nth t.bo i = x := ⟨_, rfl⟩
            obtain ⟨O, hO⟩ : ∃ O, Pn.bs (T1 ++ Tk.boX t.bo i) = O := ⟨_, rfl⟩
            rw [hxx] at e1 PI HV hy2
            rw [hO] at HV hy1 hy2 ⊢
            clear hxx hx hn hO hle hz1 hs1
            go_wp2_with fail
            refine (unhide PI).mono ?_
            rintro e w2 ⟨rfl, b2⟩
            have B2 := hide (bstep (unhide B1) b2)
            clear PI b2
            go_wp2_with fail
            refine ⟨⟨i + 1, by go_num, by omega, unhide HV, unhide HLe, B2⟩, ?_⟩
            simp [intOf]; omega
        · obtain rfl : i = t.bo.length := by omega
          rw [Tk.boX_all] at hle ⊢
          obtain ⟨T2, hT2⟩ : ∃ T2, T2 = T1 ++ Tk.tl t 3 := ⟨_, rfl⟩
          rw [← hT2] at HTx hle ⊢
          clear hT2 hs1
          go_upto_if 59 with fail
          go_cut [3] (fun v wx => v = .string (Pn.bs (T2 ++ Tk.tl t 4)) ∧ Below W.heap.size W wx)
          case first =>
            by_cases h0 : t.mo = 0
            · have e0 : (t.mo != 0) = false := by rw [h0]; rfl
              have HV := hide (show Value.string (Pn.bs T2) = .string (Pn.bs (T2 ++ Tk.tl t 4)) from by rw [Tk.tl_most0 h0, List.append_nil])
              clear h0
              go_wp2_with fail
              go_meet
              exact ⟨unhide HV, unhide B1⟩
            · have e0 : (t.mo != 0) = true := by simpa using h0
              have PI := hide (itoa_any t.mo (by omega) (by omega) wr (unhide HG))
              have HV := hide (show Value.string (Pn.bs T2 ++ (Pn.bs [32, 109, 111, 115, 116, 61] ++ Pn.bs (Lib.itoa t.mo))) = .string (Pn.bs (T2 ++ Tk.tl t 4)) from congrArg Value.string (add_num (Tk.tl_most1 h0)))
              have hz1 := (Tk.itoa_low9 (x := t.mo) (by omega)).1
              have hy1 : (⟨#[32, 109, 111, 115, 116, 61]⟩ : ByteArray).size + (Pn.bs (Lib.itoa t.mo)).size ≤ 9223372036854775807 := by rw [Pn.bs_size]; show 6 + _ ≤ _; omega
              have hy2 : (Pn.bs T2).size + ((⟨#[32, 109, 111, 115, 116, 61]⟩ : ByteArray) ++ Pn.bs (Lib.itoa t.mo)).size ≤ 9223372036854775807 := by rw [ByteArray.size_append, Pn.bs_size, Pn.bs_size]; show _ + (6 + _) ≤ _; omega
              clear h0
              go_wp2_with fail
              refine (unhide PI).mono ?_
              rintro e w2 ⟨rfl, b2⟩
              have B2 := hide (bstep (unhide B1) b2)
              clear PI b2
              go_wp2_with fail
              go_meet
              exact ⟨unhide HV, unhide B2⟩
          case rest =>
            clear c0 c1 c2 c3 c4 c5 c6 c7 c8 c9 HG B1
            obtain ⟨rfl, b1⟩ := hcut
            obtain ⟨T3, hT3⟩ : ∃ T3, T3 = T2 ++ Tk.tl t 4 := ⟨_, rfl⟩
            rw [← hT3] at HTx ⊢
            have hlT3 : T3.length ≤ 1024 := by have := (unhide HTx).2; simp only [List.length_append] at this ⊢; omega
            have B1 := hide b1
            obtain ⟨tb, _, hg1, _⟩ := unhide HW wc b1
            have HG := hide hg1
            obtain ⟨hbl, c0, c1, c2, c3, c4, c5, c6, c7, c8, c9⟩ := tb
            clear hT3 b1 hg1
            go_upto_if 68 with fail
            go_cut [3] (fun v wx => v = .string (Pn.bs (T3 ++ Tk.tl t 5)) ∧ Below W.heap.size W wx)
            case first =>
              by_cases h0 : t.pe = 0
              · have e0 : (t.pe != 0) = false := by rw [h0]; rfl
                have HV := hide (show Value.string (Pn.bs T3) = .string (Pn.bs (T3 ++ Tk.tl t 5)) from by rw [Tk.tl_pend0 h0, List.append_nil])
                clear h0
                go_wp2_with fail
                go_meet
                exact ⟨unhide HV, unhide B1⟩
              · have e0 : (t.pe != 0) = true := by simpa using h0
                have PI := hide (itoa_any t.pe (by omega) (by omega) wc (unhide HG))
                have HV := hide (show Value.string (Pn.bs T3 ++ (Pn.bs [32, 112, 101, 110, 100, 105, 110, 103, 61] ++ Pn.bs (Lib.itoa t.pe))) = .string (Pn.bs (T3 ++ Tk.tl t 5)) from congrArg Value.string (add_num (Tk.tl_pend1 h0)))
                have hz1 := (Tk.itoa_low9 (x := t.pe) (by omega)).1
                have hy1 : (⟨#[32, 112, 101, 110, 100, 105, 110, 103, 61]⟩ : ByteArray).size + (Pn.bs (Lib.itoa t.pe)).size ≤ 9223372036854775807 := by rw [Pn.bs_size]; show 9 + _ ≤ _; omega
                have hy2 : (Pn.bs T3).size + ((⟨#[32, 112, 101, 110, 100, 105, 110, 103, 61]⟩ : ByteArray) ++ Pn.bs (Lib.itoa t.pe)).size ≤ 9223372036854775807 := by rw [ByteArray.size_append, Pn.bs_size, Pn.bs_size]; show _ + (9 + _) ≤ _; omega
                clear h0
                go_wp2_with fail
                refine (unhide PI).mono ?_
                rintro e w2 ⟨rfl, b2⟩
                have B2 := hide (bstep (unhide B1) b2)
                clear PI b2
                go_wp2_with fail
                go_meet
                exact ⟨unhide HV, unhide B2⟩
            case rest =>
              clear c0 c1 c2 c3 c4 c5 c6 c7 c8 c9 HG B1
              obtain ⟨rfl, b1⟩ := hcut
              obtain ⟨T4, hT4⟩ : ∃ T4, T4 = T3 ++ Tk.tl t 5 := ⟨_, rfl⟩
              rw [← hT4] at HTx ⊢
              have hlT4 : T4.length ≤ 1024 := by have := (unhide HTx).2; simp only [List.length_append] at this ⊢; omega
              have B1 := hide b1
              obtain ⟨tb, _, hg1, _⟩ := unhide HW wc b1
              have HG := hide hg1
              obtain ⟨hbl, c0, c1, c2, c3, c4, c5, c6, c7, c8, c9⟩ := tb
              clear hT4 b1 hg1
              cases hpu : t.pu with
              | false =>
                rw [hpu] at c9
                have HV := hide (show T4 ++ Tk.tl t 6 = T4 from by rw [Tk.tl_push0 hpu, List.append_nil])
                clear hpu
                have HE := hide (unhide HW wc (unhide B1)).2.2.2
                go_wp2_with fail
                go_ret
                rw [(unhide HTx).1, unhide HV, ← unhide HB]
                exact ⟨rfl, unhide HE⟩
              | true =>
                rw [hpu] at c9
                have HV := hide (show Pn.bs T4 ++ Pn.bs [32, 112, 117, 115, 104] = Pn.bs (T4 ++ Tk.tl t 6) from by rw [Tk.tl_push1 hpu, bs_join])
                have hy1 : (Pn.bs T4).size + (⟨#[32, 112, 117, 115, 104]⟩ : ByteArray).size ≤ 9223372036854775807 := by rw [Pn.bs_size]; show _ + 5 ≤ _; omega
                clear hpu
                have HE := hide (unhide HW wc (unhide B1)).2.2.2
                go_wp2_with fail
                go_ret
                rw [(unhide HTx).1, ← unhide HV, ← unhide HB]
                exact ⟨rfl, unhide HE⟩
end Go.Proofs.YtcbfmjjodfnacaaDoor
