/-
  Contract of the landed taker.read.
  Contract of the landed taker.Parse.
-/
import Derived.Test.YtcbfmjjodfnacaaDoorWalkQn
import Derived.Test.YtcbfmjjodfnacaaDoorJointRowZRowPpRowQp
import Derived.Test.YtcbfmjjodfnacaaDoorWalkCl
import Derived.Deep.RegionHeldLaw
import Derived.Deep.DeepCutAuto
import Derived.Deep.DrawnRows
namespace Go.Proofs.YtcbfmjjodfnacaaDoor
open Go.RowKit

theorem readT_cut {s : ByteArray} (h : ¬ 1024 < s.size) (h2 : ¬ (cutT 32 s).length < 2) : Tk.readT s = match Tk.rdT Tk.seven (((cutT 32 s).drop 2).map (·.data.toList)) (Tk.base (tk (cutT 32 s) 0) (tk (cutT 32 s) 1)) with
    | some t => if Tk.takE t = 0 then (t, 0) else (Tk.zeroT, Tk.takE t)
    | none => (Tk.zeroT, 3) := by
  unfold Tk.readT
  rw [if_neg h, ← cutT_data 32 s]
  generalize cutT 32 s = ws at h2 ⊢
  cases ws with
  | nil => simp at h2
  | cons x xs =>
    cases xs with
    | nil => simp at h2
    | cons y ys =>
      show (match Tk.rdT Tk.seven (ys.map (·.data.toList)) (Tk.base (Pn.bs x.data.toList) (Pn.bs y.data.toList)) with
        | some t => if Tk.takE t = 0 then (t, 0) else (Tk.zeroT, Tk.takE t)
        | none => (Tk.zeroT, 3)) = _
      rw [Pn.bs_list, Pn.bs_list]
      rfl
theorem readT_short {s : ByteArray} (h : ¬ 1024 < s.size) (h2 : (cutT 32 s).length < 2) : Tk.readT s = (Tk.zeroT, 3) := by
  unfold Tk.readT
  rw [if_neg h, ← cutT_data 32 s]
  generalize cutT 32 s = ws at h2 ⊢
  cases ws with
  | nil => rfl
  | cons x xs =>
    cases xs with
    | nil => rfl
    | cons y ys => simp only [List.length_cons] at h2; omega
theorem rdT_name {is : List Nat} : ∀ {us : List (List UInt8)} {t t' : Tk.Tkr}, Tk.rdT is us t = some t' → t'.n = t.n ∧ t'.f = t.f := by
  induction is with
  | nil =>
    intro us t t' h
    cases us with
    | nil => cases h; exact ⟨rfl, rfl⟩
    | cons u us => cases h
  | cons i is ih =>
    intro us t t' h
    cases us with
    | nil => cases h; exact ⟨rfl, rfl⟩
    | cons u us =>
      rw [Tk.rdT] at h
      split at h
      · split at h
        · rename_i t2 h2
          have e := Tk.set_put h2
          have hn := Tk.name_put t2 t i
          rw [← e] at hn
          obtain ⟨q1, q2⟩ := ih h
          exact ⟨q1.trans hn.1, q2.trans hn.2⟩
        · cases h
      · exact ih h
abbrev Tw (g : Nat) (x y : ByteArray) (w : World) : Prop := w.cell? ⟨g, 0, none⟩ = some (.string x) ∧ w.cell? ⟨g, 1, none⟩ = some (.string y)
theorem Tw.alloc {g : Nat} {x y : ByteArray} {W : World} {o : Obj} (h : Tw g x y W) (hg : g < W.heap.size) : Tw g x y (W.alloc o) := ⟨by rw [World.cell?_alloc_old _ _ _ (Nat.ne_of_lt hg)]; exact h.1, by rw [World.cell?_alloc_old _ _ _ (Nat.ne_of_lt hg)]; exact h.2⟩
theorem Tw.allocd {g : Nat} {x y : ByteArray} {W : World} {o : Obj} (h : Tw g x y W.drew) (hg : g < W.heap.size) : Tw g x y (W.alloc o).drew := Tw.alloc (o := o) (W := W) h hg
theorem Tw.next {g : Nat} {x y : ByteArray} {W W' : World} (h : Tw g x y W) (hb : Below W.heap.size W W') (hg : g < W.heap.size) : Tw g x y W' := ⟨by rw [hb.cell (p := ⟨g, 0, none⟩) hg]; exact h.1, by rw [hb.cell (p := ⟨g, 1, none⟩) hg]; exact h.2⟩
theorem Tw.puts {g : Nat} {x y : ByteArray} {W : World} {b : Nat} (h : Tw g x y W) (hg : g ≠ b) (vs : List Value) : Tw g x y (puts W b 0 vs) := ⟨by rw [puts_other hg]; exact h.1, by rw [puts_other hg]; exact h.2⟩
/-- the words behind the second, as a slice is cut -/
theorem SlS.two' {w : World} {g : Nat} {ws : List ByteArray} (h : SlS w (some ⟨g, 0, none⟩) ws) : SlS w (if ws.length = 2 then some ⟨g, 0, none⟩ else some ⟨g, 2, none⟩) (ws.drop 2) := fun k hk => by
  rw [List.length_drop] at hk
  rw [if_neg (by omega)]
  obtain ⟨b, o, e, h1, h2⟩ := h (k + 2) (by omega)
  cases e
  refine ⟨g, 2, rfl, h1, ?_⟩
  rw [show 2 + k = 0 + (k + 2) by omega, h2]
  unfold tk
  rw [List.getElem?_drop, Nat.add_comm 2 k]
/-- the plan is laid -/
def LayQ (w1 wx : World) (b : Nat) (X Y : ByteArray) : Prop := TB wx b (Tk.base X Y) none 0 ∧ (∀ j, wx.frozen? ⟨b, j, none⟩ = false) ∧ Below w1.heap.size w1 wx ∧ w1.heap.size ≤ b
theorem LayQ.last {w1 w3 : World} (X Y : ByteArray) (hb : Below w1.heap.size w1 w3) : LayQ w1 (w3.alloc (tkO (Tk.base X Y) none 0)) w3.heap.size X Y :=
  ⟨TB.new w3 _ _ _, fun j => World.frozen?_alloc_new _ _ _ j, hb.alloc hb.size _, hb.size⟩
theorem LayQ.over {w1 w3 : World} {b : Nat} (X Y : ByteArray) (hz : Zb w3 b) (hb : Below w1.heap.size w1 w3) (hl : w1.heap.size ≤ b) : LayQ w1 (puts w3 b 0 [.string X, .string Y, .int .i64 0, .int .i64 0, .int .i64 2, .int .i64 0, .slice none 0 0, .int .i64 0, .int .i64 0, .bool false]) b X Y :=
  ⟨hz.1.puts (Tk.base X Y) none 0, fun j => by rw [puts_frozen']; exact hz.2 j, puts_below hl _ _ _ hb, hl⟩
theorem zb_new {w w' : World} (hb : Below (w.alloc tkZ).drew.heap.size (w.alloc tkZ).drew w') : Zb w' w.heap.size :=
  ((Zb.new w).next (Below.refl _ _).drew).next hb
theorem zb_new' {w w' : World} (hb : Below (w.alloc tkZ).heap.size (w.alloc tkZ) w') : Zb w' w.heap.size := (Zb.new w).next hb
/-- what read answers -/
def ReadQ (s : ByteArray) (w : World) (e : Ending) (w' : World) : Prop := ∃ (r : Bool) (t : Tk.Tkr) (a : Option Addr) (c : Nat), e = .returned (.tuple #[tkV t a c, .bool r]) ∧ Dk.SlI w' a t.bo ∧ Below w.heap.size w w' ∧ (r = false → Tk.readT s = (Tk.zeroT, 3)) ∧ (r = true → Tk.readT s = (if Tk.takE t = 0 then (t, 0) else (Tk.zeroT, Tk.takE t)) ∧ t.n.size ≤ 1024 ∧ t.f.size ≤ 1024) ∧ t.bo.length ≤ 2000 ∧ t.bo.length ≤ c ∧ ∀ z, a = some z → w.heap.size ≤ z.block
theorem ReadQ.short {s : ByteArray} {w W : World} (h : Tk.readT s = (Tk.zeroT, 3)) (hb : Below w.heap.size w W) {t : Value} (ht : t = .bool false) : ReadQ s w (.returned (.tuple #[tkV Tk.zeroT none 0, t])) W := by
  subst ht
  exact ⟨false, Tk.zeroT, none, 0, rfl, fun k hk => by simp [Tk.zeroT] at hk, hb, fun _ => h, fun q => by simp at q, by simp [Tk.zeroT], by simp [Tk.zeroT], fun z hz => by cases hz⟩
set_option maxRecDepth 100000 in
set_option maxHeartbeats 4000000 in
theorem readq_any (s : ByteArray) (w : World) (hs : s.size ≤ 1024) (hG : OrdIs w) :
    Calls Tryd.prog 25 #[.string s] w fun e w' => ReadQ s w e w' := by
  have z0 := Zb.new w
  have b0 : Below w.heap.size w (w.alloc tkZ) := (Below.refl _ _).alloc (Nat.le_refl _) _
  obtain ⟨W, hW⟩ : ∃ W, W = w.alloc tkZ := ⟨_, rfl⟩
  rw [← hW] at z0 b0
  have hf : (cutT 32 s).length ≤ 1025 := by
    rw [cutT_length]
    have h1 := List.count_le_length (a := (32 : UInt8)) (l := s.data.toList)
    have e : s.data.toList.length = s.size := by simp
    omega
  have PP := hide (split_at 32 s W (by omega) (by omega))
  have HS2 : Hid ((cutT 32 s).length < 2 → Tk.readT s = (Tk.zeroT, 3)) := hide (readT_short (by omega))
  have HS3 : Hid (¬ (cutT 32 s).length < 2 → _) := hide (fun h => readT_cut (s := s) (by omega) h)
  have HSz : Hid (∀ k, k < (cutT 32 s).length → (tk (cutT 32 s) k).size ≤ 1024) := hide (fun k hk => Nat.le_trans (cut_piece (cutT_data 32 s) hk) hs)
  obtain ⟨ws, hws⟩ : ∃ ws, cutT 32 s = ws := ⟨_, rfl⟩
  rw [hws] at PP HS2 HS3 HSz hf
  have hWl : w.heap.size < W.heap.size := z0.1.lt
  have H0 := hide z0
  have HB := hide (And.intro b0 (hG.next b0))
  have hGl : 0 < w.heap.size := hG.1
  clear hws z0 b0 hG
  go_enter Tryd.func25, Tryd.ntmps25
  go_wp2_with fail
  rw [← hW]
  obtain ⟨rb, hrb⟩ : ∃ rb, rb = w.heap.size := ⟨_, rfl⟩
  rw [← hrb] at H0 ⊢
  have hrw : w.heap.size ≤ rb := by omega
  rw [← hrb] at hWl
  clear hW hrb
  refine (unhide PP).mono ?_
  rintro e w1 ⟨g, rfl, o1, b1⟩
  have H1 : Hid (Zb w1 rb ∧ Below w.heap.size w w1 ∧ OrdIs w1 ∧ SlS w1 (some ⟨g, 0, none⟩) ws) := hide ⟨(unhide H0).next b1, bstep (unhide HB).1 b1, (unhide HB).2.next b1, own_txts o1⟩
  have hgl : g < w1.heap.size := (own_base o1).2
  have hgr : rb ≠ g := by have := (own_base o1).1; omega
  clear PP o1 b1 H0 HB
  by_cases h2 : ws.length < 2
  · have g2 : decide ((ws.length : Int) < 2) = true := decide_eq_true (by omega)
    have HR := hide (unhide HS2 h2)
    obtain ⟨_, y0, y1, y2, y3, y4, y5, y6, y7, y8, y9⟩ := (unhide H1).1.1
    have fz := (unhide H1).1.2
    clear HS2 HS3 HSz
    go_wp2_with fail
    refine bodyPost_ret (results_tk2 rfl rfl ((unhide H1).1.1.puts Tk.zeroT none 0)) rfl ?_
    exact ReadQ.short (unhide HR) (puts_below hrw [_, _, _, _, _, _, _, _, _, _] w1 0 (unhide H1).2.1) rfl
  · have g2 : decide ((ws.length : Int) < 2) = false := decide_eq_false (by omega)
    have HR := hide (unhide HS3 h2)
    obtain ⟨_, _, e0, _, c0⟩ := (unhide H1).2.2.2 0 (by omega)
    cases e0
    obtain ⟨_, _, e0, _, c1⟩ := (unhide H1).2.2.2 1 (by omega)
    cases e0
    rw [Nat.zero_add] at c0 c1
    have hXz := unhide HSz 0 (by omega)
    have hYz := unhide HSz 1 (by omega)
    obtain ⟨X, hX⟩ : ∃ X, tk ws 0 = X := ⟨_, rfl⟩
    obtain ⟨Y, hY⟩ : ∃ Y, tk ws 1 = Y := ⟨_, rfl⟩
    rw [hX] at c0 hXz HR
    rw [hY] at c1 hYz HR
    have PC : Hid (∀ (x : ByteArray) (W : World), x = X ∨ x = Y → Calls Tryd.prog 46 #[.string x] W fun e w' => e = .returned (.string x) ∧ Below W.heap.size W w') := hide (fun x W h => clone_any x W (by rcases h with rfl | rfl <;> omega))
    have hi0 : 0 < ws.length := by omega
    have hi1 : 1 < ws.length := by omega
    have hj0 : (0 : Int) < (ws.length : Int) := by omega
    have hj1 : (1 : Int) < (ws.length : Int) := by omega
    have k0 : Tw g X Y w1.drew := ⟨by simpa using c0, by simpa using c1⟩
    have hne : g ≠ w1.heap.size := by omega
    clear hX hY HS2 HS3 c0 c1
    go_upto_region 4 with fail
    go_cut [5] (fun v wx => ∃ b, v = .pointer (some ⟨b, 0, none⟩) ∧ Hid (LayQ w1 wx b X Y))
    case first =>
      clear HR H1 HSz
      go_wp2_with fail
      go_region_held_law (Tw g X Y) (first | with_reducible assumption | ((with_reducible refine Tw.alloc ?_ ?_) <;> assumption) | ((with_reducible refine Tw.allocd ?_ ?_) <;> assumption) | exact Tw.puts k3 (by assumption) [_, _, _, _, _, _, _, _, _, _])
        (first
          | (go_at_call 46; refine (unhide PC Y _ (.inr rfl)).mono ?_; rintro e w3 ⟨rfl, b3⟩
             have k3 : Tw g X Y w3 := ⟨by rw [b3.cell (p := ⟨g, 0, none⟩) (by first | assumption | (simp; omega))]; go_split_ands; assumption, by rw [b3.cell (p := ⟨g, 1, none⟩) (by first | assumption | (simp; omega))]; go_split_ands; assumption⟩
             have hgl3 : g < w3.heap.size := Nat.lt_of_lt_of_le hgl2 (by first | exact b3.size | (have := b3.size; simp at this; omega))
             first
             | (have hz3 := Zb.next hz b3; obtain ⟨⟨_, y0, y1, y2, y3, y4, y5, y6, y7, y8, y9⟩, yf⟩ := id hz3)
             | (have hz3 := zb_new b3; obtain ⟨⟨_, y0, y1, y2, y3, y4, y5, y6, y7, y8, y9⟩, yf⟩ := id hz3; have hne3 : g ≠ w2.heap.size := Nat.ne_of_lt hgl2)
             | (have hz3 := zb_new' b3; obtain ⟨⟨_, y0, y1, y2, y3, y4, y5, y6, y7, y8, y9⟩, yf⟩ := id hz3; have hne3 : g ≠ w2.heap.size := Nat.ne_of_lt hgl2)
             | skip)
          | (go_at_call 46; refine (unhide PC X _ (.inl rfl)).mono ?_; rintro e w2 ⟨rfl, b2⟩
             have k2 : Tw g X Y w2 := ⟨by rw [b2.cell (p := ⟨g, 0, none⟩) (by first | simpa using hgl | (simp; omega))]; go_split_ands; assumption, by rw [b2.cell (p := ⟨g, 1, none⟩) (by first | simpa using hgl | (simp; omega))]; go_split_ands; assumption⟩
             have hgl2 : g < w2.heap.size := Nat.lt_of_lt_of_le hgl (by first | exact b2.size | (have := b2.size; simp at this; omega))
             first
             | (have hz := zb_new b2)
             | (have hz := zb_new' b2)
             | skip))
      · have HL := hide (LayQ.last X Y (w1 := w1) (bstep ((Below.refl w1.heap.size w1).drew.trans b2) b3))
        clear k2 k3 hgl3 hgl2 b2 b3 PC k0
        go_wp2_with fail
        go_meet
        exact ⟨_, rfl, HL⟩
      · have HL := hide (LayQ.over X Y (w1 := w1) hz3 (bstep (bstep ((Below.refl w1.heap.size w1).drew.trans b2) ((Below.refl w2.heap.size w2).alloc (Nat.le_refl _) tkZ)) b3) ((Below.refl w1.heap.size w1).drew.trans b2).size)
        clear k2 k3 hgl3 hgl2 b2 b3 PC k0 y0 y1 y2 y3 y4 y5 y6 y7 y8 y9 yf hz3
        go_wp2_with fail
        go_meet
        exact ⟨_, rfl, HL⟩
      · have HL := hide (LayQ.over X Y (w1 := w1) hz3 (bstep (bstep ((Below.refl w1.heap.size w1).alloc (Nat.le_refl _) tkZ).drew b2) b3) (Nat.le_refl _))
        clear k2 k3 hgl3 hgl2 b2 b3 PC k0 y0 y1 y2 y3 y4 y5 y6 y7 y8 y9 yf hz3
        go_wp2_with fail
        go_meet
        exact ⟨_, rfl, HL⟩
    case rest =>
      obtain ⟨b, rfl, HL⟩ := hcut
      obtain ⟨l1, l2, l3, l4⟩ := unhide HL
      have hrb1 : rb < w1.heap.size := (unhide H1).1.1.lt
      have hbw : w.heap.size ≤ b := Nat.le_trans (unhide H1).2.1.size l4
      have hrow : SlS wc (some ⟨g, 0, none⟩) ws := (unhide H1).2.2.2.next l3
      have hq : Wq wc b (if ws.length = 2 then some ⟨g, 0, none⟩ else some ⟨g, 2, none⟩) (ws.drop 2) := ⟨hrow.two', fun z hz => by
          split at hz
          · cases hz; exact Nat.lt_of_lt_of_le hgl l4
          · cases hz; exact Nat.lt_of_lt_of_le hgl l4, fun k hk => by
          rw [List.length_drop] at hk
          have := unhide HSz (k + 2) (by omega)
          unfold tk at this ⊢
          rw [List.getElem?_drop, Nat.add_comm 2 k]
          exact this⟩
      have hrd : Rdt wc wc b (Tk.base X Y) none 0 := ⟨l1, ⟨rfl, .inl ⟨rfl, rfl⟩⟩, l2, Below.refl _ _⟩
      have PR := hide (readWords_any (if ws.length = 2 then some ⟨g, 0, none⟩ else some ⟨g, 2, none⟩) (ws.drop 2) (ws.length - 2) b (Tk.base X Y) wc wc ((unhide H1).2.2.1.next l3) (Nat.lt_of_lt_of_le hGl hbw) hq hrd rfl (by rw [List.length_drop]; omega))
      rw [List.length_drop] at PR
      obtain ⟨ans, hans⟩ : ∃ ans, Tk.rdT Tk.seven ((ws.drop 2).map (·.data.toList)) (Tk.base X Y) = ans := ⟨_, rfl⟩
      rw [hans] at PR HR
      have HN : Hid (∀ t', ans = some t' → t'.n.size ≤ 1024 ∧ t'.f.size ≤ 1024) := hide (fun t' ht => by
        obtain ⟨q1, q2⟩ := rdT_name (hans.trans ht)
        rw [q1, q2]
        exact ⟨hXz, hYz⟩)
      have HF : Hid (Below w.heap.size w wc ∧ Zb wc rb) := hide ⟨bstep (unhide H1).2.1 l3, (unhide H1).1.next l3⟩
      clear hq hrd hrow l1 l2 l3 HL H1 hans k0 hne PC HSz
      by_cases h22 : ws.length = 2
      all_goals
        first
          | (rw [if_pos h22, show ws.length - 2 = 0 by omega] at PR)
          | (rw [if_neg h22] at PR)
        go_wp2_with fail
        refine (unhide PR).mono ?_
        rintro e w9 ⟨r, t', a', c', rfl, hr1, hr2, rd9, few9⟩
        have hza : ∀ z, a' = some z → b + 1 ≤ z.block := fun z hz => by
          subst hz
          exact (World.ownsRow.lt rd9.nums z.block rfl).1
        obtain ⟨_, _, es, hc9, _⟩ := rd9.nums.shape
        obtain ⟨rfl, _, rfl⟩ := Value.slice.inj es
        obtain ⟨_, _, es, sl9⟩ := rd9.nums.sl
        obtain ⟨rfl, _, rfl⟩ := Value.slice.inj es
        have zb9 : Zb w9 rb := (unhide HF).2.after rd9.low (by omega)
        have bl9 : Below w.heap.size w w9 := (unhide HF).1.trans (rd9.low.mono hbw)
        have HQ : Hid ((r = false → Tk.readT s = (Tk.zeroT, 3)) ∧ (r = true → Tk.readT s = (if Tk.takE t' = 0 then (t', 0) else (Tk.zeroT, Tk.takE t')) ∧ t'.n.size ≤ 1024 ∧ t'.f.size ≤ 1024)) := hide ⟨fun h => by rw [unhide HR, hr2 h], fun h => ⟨by rw [unhide HR, hr1 h], unhide HN t' (hr1 h)⟩⟩
        have HA := hide hza
        have H9 := hide (And.intro zb9 (And.intro bl9 sl9))
        obtain ⟨⟨_, y0, y1, y2, y3, y4, y5, y6, y7, y8, y9⟩, fz⟩ := zb9
        obtain ⟨_, z0, z1, z2, z3, z4, z5, z6, z7, z8, z9⟩ := rd9.tb
        clear PR HF HR HN hr1 hr2 rd9 sl9 bl9 hza es
        go_wp2_with fail
        refine bodyPost_ret (results_tk2 rfl rfl ((unhide H9).1.1.puts t' _ _)) rfl ?_
        exact ⟨r, t', _, _, rfl, nums_puts (fun z hz e => by have := unhide HA z hz; omega) [_, _, _, _, _, _, _, _, _, _] _ 0 (unhide H9).2.2, puts_below hrw [_, _, _, _, _, _, _, _, _, _] _ 0 (unhide H9).2.1, (unhide HQ).1, (unhide HQ).2, few9, hc9, fun z hz => by have := unhide HA z hz; omega⟩
end Go.Proofs.YtcbfmjjodfnacaaDoor

namespace Go.Proofs.YtcbfmjjodfnacaaDoor
open Go.RowKit

/-- what Parse answers -/
def ParseQ (s : ByteArray) (w : World) (e : Ending) (w' : World) : Prop := ∃ a c, e = .returned (.tuple #[tkV (Tk.readT s).1 a c, .int .i64 (Tk.readT s).2]) ∧ Dk.SlI w' a (Tk.readT s).1.bo ∧ Below w.heap.size w w' ∧ (Tk.readT s).1.bo.length ≤ c
theorem ParseQ.bad {s : ByteArray} {w W : World} {E : Int} {t : Value} (h : Tk.readT s = (Tk.zeroT, E)) (hb : Below w.heap.size w W) (ht : t = .int .i64 E) : ParseQ s w (.returned (.tuple #[tkV Tk.zeroT none 0, t])) W := by
  unfold ParseQ
  rw [h, ht]
  exact ⟨none, 0, rfl, fun k hk => by simp [Tk.zeroT] at hk, hb, by simp [Tk.zeroT]⟩
theorem ParseQ.good {s : ByteArray} {w W : World} {v : Value} {t : Tk.Tkr} {a : Option Addr} {c : Nat} (h : Tk.readT s = (t, 0)) (hb : Below w.heap.size w W) (hs : Dk.SlI W a t.bo) (hc : t.bo.length ≤ c) (ht : v = .int .i64 0) : ParseQ s w (.returned (.tuple #[tkV t a c, v])) W := by
  unfold ParseQ
  rw [h, ht]
  exact ⟨a, c, rfl, hs, hb, hc⟩
theorem readT_large {s : ByteArray} (h : 1024 < s.size) : Tk.readT s = (Tk.zeroT, 2) := by unfold Tk.readT; rw [if_pos h]
set_option maxRecDepth 100000 in
set_option maxHeartbeats 4000000 in
theorem tparse_any (s : ByteArray) (w : World) (hs : s.size ≤ 140737488355328) (hG : OrdIs w) :
    Calls Tryd.prog 12 #[.string s] w fun e w' => ParseQ s w e w' := by
  have r0 := Zb.new w
  have b0 : Below w.heap.size w (w.alloc tkZ) := (Below.refl _ _).alloc (Nat.le_refl _) _
  by_cases h1 : 1024 < s.size
  · have HR := hide (readT_large h1)
    have R0 := hide (And.intro r0 b0)
    have g1 : decide ((1024 : Int) < (s.size : Int)) = true := decide_eq_true (by omega)
    clear r0 b0
    go_enter Tryd.func12, Tryd.ntmps12
    go_wp2_with fail
    refine bodyPost_ret (results_tk2 rfl rfl (unhide R0).1.1) rfl ?_
    exact ParseQ.bad (unhide HR) (unhide R0).2 rfl
  · have g1 : decide ((1024 : Int) < (s.size : Int)) = false := decide_eq_false (by omega)
    obtain ⟨W, hW⟩ : ∃ W, W = w.alloc tkZ := ⟨_, rfl⟩
    rw [← hW] at r0 b0
    have PP := hide (readq_any s W (by omega) (hG.next b0))
    have hWl : w.heap.size < W.heap.size := r0.1.lt
    have H0 := hide r0
    have HB := hide b0
    clear r0 b0
    go_enter Tryd.func12, Tryd.ntmps12
    go_wp2_with fail
    rw [← hW]
    obtain ⟨rb, hrb⟩ : ∃ rb, rb = w.heap.size := ⟨_, rfl⟩
    rw [← hrb] at H0 ⊢
    have hrw : w.heap.size ≤ rb := by omega
    rw [← hrb] at hWl
    clear hW hrb
    refine (unhide PP).mono ?_
    rintro e w1 ⟨r, t, a, c, rfl, sl1, b1, hr1, hr2, few, hc, hza⟩
    have HNr : Hid (∀ z, a = some z → z.block ≠ rb) := hide (fun z hz e => by
      have := hza z hz
      omega)
    have k2 : Below w1.heap.size w1 (w1.alloc (tkO t a c)) := (Below.refl _ _).alloc (Nat.le_refl _) _
    have p2 := TB.new w1 t a c
    have bW2 : Below W.heap.size W (w1.alloc (tkO t a c)) := bstep b1 k2
    have sl2 := nums_on sl1 k2
    obtain ⟨W2, hW2⟩ : ∃ W2, W2 = w1.alloc (tkO t a c) := ⟨_, rfl⟩
    obtain ⟨b, hb⟩ : ∃ b, b = w1.heap.size := ⟨_, rfl⟩
    rw [← hW2] at p2 bW2 sl2
    rw [← hb] at p2
    have H2 : Hid (Zb W2 rb ∧ Below w.heap.size w W2 ∧ TB W2 b t a c ∧ Dk.SlI W2 a t.bo) := hide ⟨(unhide H0).next bW2, bstep (unhide HB) bW2, p2, sl2⟩
    have HQ := hide (And.intro hr1 hr2)
    clear PP H0 HB sl1 b1 k2 p2 bW2 sl2 hr1 hr2 hza
    cases r with
    | false =>
      have HR := hide ((unhide HQ).1 rfl)
      obtain ⟨⟨_, y0, y1, y2, y3, y4, y5, y6, y7, y8, y9⟩, fz⟩ := (unhide H2).1
      rw [hW2] at y0 y1 y2 y3 y4 y5 y6 y7 y8 y9 fz
      go_wp2_with fail
      rw [← hW2]
      refine bodyPost_ret (results_tk2 rfl rfl ((unhide H2).1.1.puts Tk.zeroT none 0)) rfl ?_
      exact ParseQ.bad (unhide HR) (puts_below hrw [_, _, _, _, _, _, _, _, _, _] W2 0 (unhide H2).2.1) rfl
    | true =>
      have HR := hide ((unhide HQ).2 rfl).1
      have hn := ((unhide HQ).2 rfl).2
      have PC := hide (tcheck_any t a c W2 ⟨by omega, by omega, by omega⟩ (unhide H2).2.2.2)
      obtain ⟨E, hE⟩ : ∃ E, Tk.takE t = E := ⟨_, rfl⟩
      rw [hE] at PC HR
      clear hE HQ
      go_wp2_with fail
      rw [← hW2, ← hb]
      clear hW2 hb
      refine (unhide PC).mono ?_
      rintro e w5 ⟨rfl, b5⟩
      have H5 : Hid (Zb w5 rb ∧ Below w.heap.size w w5 ∧ TB w5 b t a c ∧ Dk.SlI w5 a t.bo) := hide ⟨(unhide H2).1.next b5, bstep (unhide H2).2.1 b5, (unhide H2).2.2.1.next b5, nums_on (unhide H2).2.2.2 b5⟩
      obtain ⟨⟨_, y0, y1, y2, y3, y4, y5, y6, y7, y8, y9⟩, fz⟩ := (unhide H5).1
      clear PC b5 H2
      by_cases hE0 : E = 0
      · subst hE0
        rw [if_pos rfl] at HR
        obtain ⟨_, z0, z1, z2, z3, z4, z5, z6, z7, z8, z9⟩ := (unhide H5).2.2.1
        go_wp2_with fail
        refine bodyPost_ret (results_tk2 rfl rfl ((unhide H5).1.1.puts t a c)) rfl ?_
        exact ParseQ.good (unhide HR) (puts_below hrw [_, _, _, _, _, _, _, _, _, _] _ 0 (unhide H5).2.1) (nums_puts (unhide HNr) [_, _, _, _, _, _, _, _, _, _] _ 0 (unhide H5).2.2.2) hc rfl
      · have gE : (E != 0) = true := by simpa using hE0
        rw [if_neg hE0] at HR
        go_wp2_with fail
        refine bodyPost_ret (results_tk2 rfl rfl ((unhide H5).1.1.puts Tk.zeroT none 0)) rfl ?_
        exact ParseQ.bad (unhide HR) (puts_below hrw [_, _, _, _, _, _, _, _, _, _] _ 0 (unhide H5).2.1) rfl
end Go.Proofs.YtcbfmjjodfnacaaDoor
