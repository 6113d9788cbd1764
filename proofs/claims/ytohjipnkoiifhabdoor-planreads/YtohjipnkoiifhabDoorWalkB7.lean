/-
  Contract of rillref.ReadPlan.
-/
import Derived.Test.YtohjipnkoiifhabDoorJointWalkB6WalkB7a
import Derived.Test.YtohjipnkoiifhabDoorPapPs
namespace Go.Proofs.YtohjipnkoiifhabDoor
open Go.RowKit

theorem read_words {s : ByteArray} {ws l : List ByteArray} (h : ¬ 1024 < s.size) (hc : ws.map (·.data.toList) = Pn.cut 32 s.data.toList) (h2 : ¬ ws.length < 2) (hl : isCut 44 (tk ws 1) (tk ws 1).size l) : Pn.readP s = match Pn.rdN Pn.words8 ((ws.drop 2).map (·.data.toList)) with
    | some v => if Pn.planE ⟨tk ws 0, l, v⟩ = 0 then (⟨tk ws 0, l, v⟩, 0) else (Pn.zeroP, Pn.planE ⟨tk ws 0, l, v⟩)
    | none => (Pn.zeroP, 3) := by
  unfold Pn.readP
  rw [if_neg h, ← hc]
  cases ws with
  | nil => simp at h2
  | cons x xs =>
    cases xs with
    | nil => simp at h2
    | cons y ys =>
      have hl2 : l = (Pn.cut 44 y.data.toList).map Pn.bs := by
        apply bs_back
        have := hl
        unfold isCut at this
        rw [List.take_of_length_le (by simp)] at this
        exact this
      rw [hl2]
      show (match Pn.rdN Pn.words8 (ys.map (·.data.toList)) with
        | some v => if Pn.planE ⟨Pn.bs x.data.toList, (Pn.cut 44 y.data.toList).map Pn.bs, v⟩ = 0 then ((⟨Pn.bs x.data.toList, (Pn.cut 44 y.data.toList).map Pn.bs, v⟩ : Pn.Pln), (0 : Int)) else (Pn.zeroP, Pn.planE ⟨Pn.bs x.data.toList, (Pn.cut 44 y.data.toList).map Pn.bs, v⟩)
        | none => (Pn.zeroP, 3)) = _
      rw [Pn.bs_list]
      rfl
abbrev Wk (g k i : Nat) (t u : ByteArray) (w : World) : Prop := w.cell? ⟨g, k, none⟩ = some (.string t) ∧ w.cell? ⟨1, i, none⟩ = some (.string u)
abbrev Pt (bt i b : Nat) (w : World) : Prop := w.cell? ⟨bt, i, none⟩ = some (.pointer (some ⟨b, 2 + i, none⟩))
theorem Pt.far {bt i b j : Nat} {x : Value} {W : World} (h : bt ≠ b) (ht : Pt bt i b W) : Pt bt i b (W.setCell ⟨b, j, none⟩ x) := by
  show (W.setCell ⟨b, j, none⟩ x).cell? ⟨bt, i, none⟩ = _
  rw [set_far h]
  exact ht
/-- a block of its own, a call behind it -/
theorem new_after {w1 w2 : World} (b2 : Below (w1.alloc (.cells #[.string ⟨#[]⟩, .slice none 0 0, .int .i64 0, .int .i64 0, .int .i64 0, .int .i64 0, .int .i64 0, .int .i64 0, .int .i64 0, .int .i64 0] 24)).drew.heap.size (w1.alloc (.cells #[.string ⟨#[]⟩, .slice none 0 0, .int .i64 0, .int .i64 0, .int .i64 0, .int .i64 0, .int .i64 0, .int .i64 0, .int .i64 0, .int .i64 0] 24)).drew w2) : PB w2 w1.heap.size ⟨#[]⟩ none 0 0 0 0 0 0 0 0 0 0 ∧ ∀ j, w2.frozen? ⟨w1.heap.size, j, none⟩ = false := by
  have p := (PB.new w1 ⟨#[]⟩ none 0 0 0 0 0 0 0 0 0 0 24).next (Below.refl _ _).drew
  refine ⟨p.next b2, fun j => ?_⟩
  rw [b2.frozen (p := ⟨w1.heap.size, j, none⟩) p.lt]
  exact World.frozen?_alloc_new _ _ _ j
abbrev Tw (g : Nat) (x y : ByteArray) (w : World) : Prop := w.cell? ⟨g, 0, none⟩ = some (.string x) ∧ w.cell? ⟨g, 1, none⟩ = some (.string y)
theorem Tw.alloc {g : Nat} {x y : ByteArray} {W : World} {o : Obj} (h : Tw g x y W) (hg : g < W.heap.size) : Tw g x y (W.alloc o) := ⟨by rw [World.cell?_alloc_old _ _ _ (Nat.ne_of_lt hg)]; exact h.1, by rw [World.cell?_alloc_old _ _ _ (Nat.ne_of_lt hg)]; exact h.2⟩
theorem Tw.allocd {g : Nat} {x y : ByteArray} {W : World} {o : Obj} (h : Tw g x y W.drew) (hg : g < W.heap.size) : Tw g x y (W.alloc o).drew := Tw.alloc (o := o) (W := W) h hg
theorem Tw.puts {g : Nat} {x y : ByteArray} {W : World} {b : Nat} (h : Tw g x y W) (hg : g ≠ b) (vs : List Value) : Tw g x y (puts W b 0 vs) := ⟨by rw [puts_other hg]; exact h.1, by rw [puts_other hg]; exact h.2⟩
/-- what ReadPlan answers -/
def ReadIs (s : ByteArray) (w : World) (e : Ending) (w' : World) : Prop := ∃ a c, e = .returned (.tuple #[plV (Pn.readP s).1 a c, .int .i64 (Pn.readP s).2]) ∧ SlS w' a (Pn.readP s).1.f ∧ Below w.heap.size w w'
theorem ReadIs.bad {s : ByteArray} {w W : World} {E : Int} {t : Value} (h : Pn.readP s = (Pn.zeroP, E)) (hb : Below w.heap.size w W) (ht : t = .int .i64 E) : ReadIs s w (.returned (.tuple #[planV ⟨#[]⟩ none 0 0 0 0 0 0 0 0 0 0, t])) W := by
  unfold ReadIs
  rw [h, ht]
  exact ⟨none, 0, rfl, fun k hk => by simp [Pn.zeroP] at hk, hb⟩
theorem ReadIs.good {s : ByteArray} {w W : World} {t : Value} {n : ByteArray} {l : List ByteArray} {x0 x1 x2 x3 x4 x5 x6 x7 : Int} {a : Option Addr} {c : Nat} (h : Pn.readP s = (⟨n, l, [x0, x1, x2, x3, x4, x5, x6, x7]⟩, 0)) (hb : Below w.heap.size w W) (hs : SlS W a l) (ht : t = .int .i64 0) : ReadIs s w (.returned (.tuple #[planV n a l.length c x0 x1 x2 x3 x4 x5 x6 x7, t])) W := by
  unfold ReadIs
  rw [h, ht]
  exact ⟨a, c, rfl, hs, hb⟩

set_option maxRecDepth 100000 in
set_option maxHeartbeats 4000000 in
theorem rread_post (s : ByteArray) (w : World) (hs : s.size ≤ 140737488355328) (hw : WrdIs w) :
    Calls Tryd.prog 10 #[.string s] w fun e w' => ReadIs s w e w' := by
  have r0 := PB.new w ⟨#[]⟩ none 0 0 0 0 0 0 0 0 0 0 24
  have b0 : Below w.heap.size w (w.alloc (.cells #[.string ⟨#[]⟩, .slice none 0 0, .int .i64 0, .int .i64 0, .int .i64 0, .int .i64 0, .int .i64 0, .int .i64 0, .int .i64 0, .int .i64 0] 24)) := (Below.refl _ _).alloc (Nat.le_refl _) _
  by_cases h1 : 1024 < s.size
  · have HR := hide (read_large h1)
    have R0 := hide (And.intro r0 b0)
    have g1 : decide ((1024 : Int) < (s.size : Int)) = true := decide_eq_true (by omega)
    clear r0 b0
    go_enter Tryd.func10, Tryd.ntmps10
    go_wp2_with fail
    refine bodyPost_ret (results_plan2 rfl rfl (unhide R0).1) rfl ?_
    exact ReadIs.bad (unhide HR) (unhide R0).2 rfl
  · have g1 : decide ((1024 : Int) < (s.size : Int)) = false := decide_eq_false (by omega)
    have rf0 : ∀ j, (w.alloc (.cells #[.string ⟨#[]⟩, .slice none 0 0, .int .i64 0, .int .i64 0, .int .i64 0, .int .i64 0, .int .i64 0, .int .i64 0, .int .i64 0, .int .i64 0] 24)).frozen? ⟨w.heap.size, j, none⟩ = false := fun j => World.frozen?_alloc_new _ _ _ j
    obtain ⟨W, hW⟩ : ∃ W, W = w.alloc (.cells #[.string ⟨#[]⟩, .slice none 0 0, .int .i64 0, .int .i64 0, .int .i64 0, .int .i64 0, .int .i64 0, .int .i64 0, .int .i64 0, .int .i64 0] 24) := ⟨_, rfl⟩
    rw [← hW] at r0 b0 rf0
    have PP := hide (pieces_at 32 s W (by omega) (by
      have h1 := List.count_le_length (a := (32 : UInt8)) (l := s.data.toList)
      have e : s.data.toList.length = s.size := by simp
      rw [Pn.cut_length]
      omega))
    have hWl : w.heap.size < W.heap.size := r0.lt
    have HW := hide (hw.next b0)
    have HLow := hide hw.1
    have H0 := hide (And.intro r0 rf0)
    have HB := hide b0
    clear hw r0 rf0 b0
    go_enter Tryd.func10, Tryd.ntmps10
    go_wp2_with fail
    rw [← hW]
    obtain ⟨rb, hrb⟩ : ∃ rb, rb = w.heap.size := ⟨_, rfl⟩
    rw [← hrb] at H0 ⊢
    have hrw : w.heap.size ≤ rb := by omega
    rw [← hrb] at hWl
    clear hW hrb
    refine (unhide PP).mono ?_
    rintro e w1 ⟨g, cap, ws, rfl, o1, p1, b1⟩
    have hcut : ws.map (·.data.toList) = Pn.cut 32 s.data.toList := by
      have := p1
      unfold isCut at this
      rwa [List.take_of_length_le (by simp)] at this
    have hg1 := own_base o1
    have hwl : ws.length ≤ 1025 := by
      have e := congrArg List.length hcut
      rw [List.length_map, Pn.cut_length] at e
      have h1 := List.count_le_length (a := (32 : UInt8)) (l := s.data.toList)
      have e2 : s.data.toList.length = s.size := by simp
      omega
    have H1 : Hid (Pre w w1 rb g ws) := hide ⟨(unhide H0).1.next b1, fun j => by rw [b1.frozen (p := ⟨rb, j, none⟩) hWl]; exact (unhide H0).2 j, bstep (unhide HB) b1, own_txts o1, (unhide HW).next b1, unhide HLow⟩
    have HC := hide hcut
    clear PP p1 o1 hcut H0 HW HB HLow b1
    by_cases h2 : ws.length < 2
    · have g2 : decide ((ws.length : Int) < 2) = true := decide_eq_true (by omega)
      have HR := hide (read_short h1 (unhide HC) h2)
      obtain ⟨_, y0, y1, y2, y3, y4, y5, y6, y7, y8, y9⟩ := (unhide H1).res
      have fz := (unhide H1).rfr
      go_wp2_with fail
      refine bodyPost_ret (results_plan2 rfl rfl ((unhide H1).res.puts _ _ _ _ _ _ _ _ _ _ _ _)) rfl ?_
      exact ReadIs.bad (unhide HR) (puts_below hrw [_, _, _, _, _, _, _, _, _, _] w1 0 (unhide H1).bl) rfl
    · have g2 : decide ((ws.length : Int) < 2) = false := decide_eq_false (by omega)
      obtain ⟨_, _, e0, _, c0⟩ := (unhide H1).row 0 (by omega)
      cases e0
      obtain ⟨_, _, e0, _, c1⟩ := (unhide H1).row 1 (by omega)
      cases e0
      rw [Nat.zero_add] at c0 c1
      have hz1 : (tk ws 1).size ≤ 1024 := by
        have := cut_piece (unhide HC) (show 1 < ws.length by omega)
        omega
      have P2 : Hid (∀ W, Calls Tryd.prog 23 #[.string (tk ws 1), .int .u8 44] W fun e w' => ∃ g cap l, e = .returned (.slice (some ⟨g, 0, none⟩) l.length cap) ∧ Own w' W.heap.size g cap l ∧ isCut 44 (tk ws 1) (tk ws 1).size l ∧ Below W.heap.size W w') := hide (fun W => pieces_at 44 (tk ws 1) W (by omega) (by
        have h1 := List.count_le_length (a := (44 : UInt8)) (l := (tk ws 1).data.toList)
        have e : (tk ws 1).data.toList.length = (tk ws 1).size := by simp
        rw [Pn.cut_length]
        omega))
      obtain ⟨X, hX⟩ : ∃ X, X = tk ws 0 := ⟨_, rfl⟩
      obtain ⟨Y, hY⟩ : ∃ Y, Y = tk ws 1 := ⟨_, rfl⟩
      rw [← hX] at c0
      rw [← hY] at c1 P2 hz1
      have k0 : Tw g X Y w1.drew := ⟨by simpa using c0, by simpa using c1⟩
      have hgl : g < w1.heap.size := hg1.2
      have hne : g ≠ w1.heap.size := by omega
      have hi0 : 0 < ws.length := by omega
      have hi1 : 1 < ws.length := by omega
      have hj0 : (0 : Int) < (ws.length : Int) := by omega
      have hj1 : (1 : Int) < (ws.length : Int) := by omega
      have HX := hide (And.intro hX hY)
      clear c0 c1 hX hY
      go_wp2_with fail
      go_region_held_law (Tw g X Y) (first | with_reducible assumption | ((with_reducible refine Tw.alloc ?_ ?_) <;> assumption) | ((with_reducible refine Tw.allocd ?_ ?_) <;> assumption) | exact Tw.puts k2 hne [_, _, _, _, _, _, _, _, _, _])
        (first
          | (go_at_call 23; refine (unhide P2 _).mono ?_; rintro e w2 ⟨g2, cap2, l2, rfl, o2, p2, b2⟩; have k2 : Tw g X Y w2 := ⟨by rw [b2.cell (p := ⟨g, 0, none⟩) (by first | simpa using hgl | (simp; omega))]; go_split_ands; assumption, by rw [b2.cell (p := ⟨g, 1, none⟩) (by first | simpa using hgl | (simp; omega))]; go_split_ands; assumption⟩; have hgl2 : g < w2.heap.size := Nat.lt_of_lt_of_le hgl (by first | exact b2.size | (have := b2.size; simp at this; omega)); first | (have bb : Below w1.drew.heap.size w1.drew w2 := b2) | (obtain ⟨⟨_, y0, y1, y2, y3, y4, y5, y6, y7, y8, y9⟩, yf⟩ := new_after b2)))
      all_goals
        first
        | (have RS := hide (Rs.call_first X (unhide H1) hrw hgl o2 b2)
           have HL := hide p2
           clear k2 hgl2 bb o2 p2 b2
           obtain ⟨b, hb⟩ : ∃ b, b = w2.heap.size := ⟨_, rfl⟩
           rw [← hb] at RS ⊢
           generalize (w2.alloc (.cells #[.string X, .slice (some ⟨g2, 0, none⟩) l2.length cap2, .int .i64 0, .int .i64 0, .int .i64 0, .int .i64 0, .int .i64 0, .int .i64 0, .int .i64 0, .int .i64 0] 24)) = W3 at RS ⊢
           clear hb)
        | (have RS : Hid (Rs w ((((((((((w2.setCell ⟨w1.heap.size, 0, none⟩ (.string X)).setCell ⟨w1.heap.size, 1, none⟩ (.slice (some ⟨g2, 0, none⟩) l2.length cap2)).setCell ⟨w1.heap.size, 2, none⟩ (.int .i64 0)).setCell ⟨w1.heap.size, 3, none⟩ (.int .i64 0)).setCell ⟨w1.heap.size, 4, none⟩ (.int .i64 0)).setCell ⟨w1.heap.size, 5, none⟩ (.int .i64 0)).setCell ⟨w1.heap.size, 6, none⟩ (.int .i64 0)).setCell ⟨w1.heap.size, 7, none⟩ (.int .i64 0)).setCell ⟨w1.heap.size, 8, none⟩ (.int .i64 0)).setCell ⟨w1.heap.size, 9, none⟩ (.int .i64 0)) rb w1.heap.size g ws X (some ⟨g2, 0, none⟩) l2 cap2) := hide (Rs.block_first X (unhide H1) hrw hgl o2 b2)
           have HL := hide p2
           clear k2 hgl2 o2 p2 b2 y0 y1 y2 y3 y4 y5 y6 y7 y8 y9 yf
           obtain ⟨b, hb⟩ : ∃ b, b = w1.heap.size := ⟨_, rfl⟩
           rw [← hb] at RS ⊢
           generalize ((((((((((w2.setCell ⟨b, 0, none⟩ (.string X)).setCell ⟨b, 1, none⟩ (.slice (some ⟨g2, 0, none⟩) l2.length cap2)).setCell ⟨b, 2, none⟩ (.int .i64 0)).setCell ⟨b, 3, none⟩ (.int .i64 0)).setCell ⟨b, 4, none⟩ (.int .i64 0)).setCell ⟨b, 5, none⟩ (.int .i64 0)).setCell ⟨b, 6, none⟩ (.int .i64 0)).setCell ⟨b, 7, none⟩ (.int .i64 0)).setCell ⟨b, 8, none⟩ (.int .i64 0)).setCell ⟨b, 9, none⟩ (.int .i64 0)) = W3 at RS ⊢
           clear hb)
        have HP : Hid (Pn.readP s = match Pn.rdN Pn.words8 ((ws.drop 2).map (·.data.toList)) with
            | some v => if Pn.planE ⟨X, l2, v⟩ = 0 then (⟨X, l2, v⟩, 0) else (Pn.zeroP, Pn.planE ⟨X, l2, v⟩)
            | none => (Pn.zeroP, 3)) := hide (by
          rw [(unhide HX).1]
          exact read_words h1 (unhide HC) h2 (by rw [← (unhide HX).2]; exact unhide HL))
        have hXz : X.size ≤ 1024 := by
          rw [(unhide HX).1]
          have := cut_piece (unhide HC) hi0
          omega
        have hWz : Hid (∀ k, k < ws.length → (tk ws k).size ≤ 1024) := hide (fun k hk => by
          have := cut_piece (unhide HC) hk
          omega)
        have hcY : l2.map (·.data.toList) = Pn.cut 44 Y.data.toList := by
          have := unhide HL
          unfold isCut at this
          rwa [List.take_of_length_le (by simp)] at this
        have hLz : Hid (∀ k, k < l2.length → (tk l2 k).size ≤ 1024) := hide (fun k hk => by
          have := cut_piece hcY hk
          omega)
        have hL8 : l2.length ≤ 1025 := by
          have e := congrArg List.length hcY
          rw [List.length_map, Pn.cut_length] at e
          have h1 := List.count_le_length (a := (44 : UInt8)) (l := Y.data.toList)
          have e2 : Y.data.toList.length = Y.size := by simp
          omega
        have hne5 : g2 ≠ rb := (unhide RS).ne5 _ rfl
        have RD := hide ((unhide RS).rd 43)
        clear HX HC hcY HL H1 P2 k0 hgl hne hi0 hj0 hj1 hz1 hg1 hWl g1 h1 RS
        go_wp2_with fail
        obtain ⟨bt, hbt⟩ : ∃ bt, bt = W3.heap.size := ⟨_, rfl⟩
        rw [← hbt] at RD ⊢
        clear hbt
        go_loopw [7, 8] (fun nv kv wr => ∃ (i k : Nat) (v : List Int), nv = .int .i64 i ∧ kv = .int .i64 k ∧ 2 ≤ k ∧ k ≤ ws.length ∧ i ≤ 8 ∧ Hid (Pn.Rel ((ws.drop 2).map (·.data.toList)) i ((ws.drop k).map (·.data.toList)) v) ∧ Hid (Rd w wr rb b bt g ws X (some ⟨g2, 0, none⟩) l2 cap2 v)) (fun _ kv _ => ws.length - (intOf kv).toNat)
        case atStart => exact ⟨0, 2, _, rfl, rfl, by omega, by omega, by omega, hide (Pn.Rel.start _), RD⟩
        case round =>
          clear RD
          obtain ⟨i0, k, v0, rfl, rfl, hk2, hk, hi0, HR0, RD0⟩ := hrel
          by_cases hlt : k < ws.length
          · have hTz := unhide hWz k hlt
            have HK := hide (rest_cons hlt)
            go_wp2_with fail
            go_loopw [7, 9, 10] (fun nv fv iv wr => ∃ (n i : Nat) (f : Bool) (v : List Int), nv = .int .i64 n ∧ fv = .bool f ∧ iv = .int .i64 i ∧ n ≤ 8 ∧ i ≤ 8 ∧ Hid (f = false → Pn.Rel ((ws.drop 2).map (·.data.toList)) i ((ws.drop k).map (·.data.toList)) v) ∧ Hid (f = true → Pn.Rel ((ws.drop 2).map (·.data.toList)) n ((ws.drop (k + 1)).map (·.data.toList)) v) ∧ Hid (Rd w wr rb b bt g ws X (some ⟨g2, 0, none⟩) l2 cap2 v)) (fun _ _ iv _ => 8 - (intOf iv).toNat)
            case atStart => exact ⟨i0, i0, false, v0, rfl, rfl, rfl, hi0, hi0, hide (fun _ => unhide HR0), hide (fun h => by simp at h), RD0⟩
            case round =>
              clear HR0 RD0
              obtain ⟨n, i, f, v, rfl, rfl, rfl, hn, hi, HRa, HRb, RD⟩ := hrel
              cases f with
              | true =>
                have HR2 := hide (unhide HRb rfl)
                clear HRa HRb
                by_cases hi8 : i < 8
                · go_wp2_with fail
                  refine ⟨⟨n, k + 1, v, rfl, by go_num, by omega, by omega, hn, HR2, RD⟩, ?_⟩
                  simp [intOf]; omega
                · obtain rfl : i = 8 := by omega
                  go_wp2_with fail
                  refine ⟨⟨n, k + 1, v, rfl, by go_num, by omega, by omega, hn, HR2, RD⟩, ?_⟩
                  simp [intOf]; omega
              | false =>
                have HR2 := hide (unhide HRa rfl)
                clear HRa HRb
                rw [unhide HK] at HR2
                by_cases hi8 : i < 8
                · obtain ⟨TT, hTT⟩ : ∃ TT, TT = tk ws k := ⟨_, rfl⟩
                  obtain ⟨WD, hWD⟩ : ∃ WD, WD = wd i := ⟨_, rfl⟩
                  have hwz : WD.size ≤ 7 := by
                    rw [hWD]
                    unfold wd
                    rw [Pn.bs_size]
                    have : (Pn.words8[i]?).getD [] ∈ Pn.words8 := by rw [List.getElem?_eq_getElem (show i < Pn.words8.length from hi8)]; exact List.getElem_mem _
                    exact (Pn.words8_ok _ this).1
                  have k1 : Wk g k i TT WD wr.drew := by
                    obtain ⟨g', o', eg, _, e1⟩ := (unhide RD).row k hlt
                    cases eg
                    rw [Nat.zero_add] at e1
                    rw [hTT, hWD]
                    exact ⟨by simpa using e1, by simpa using (unhide RD).wrd.2 i hi8⟩
                  have hbs : (⟨#[61]⟩ : ByteArray).size = 1 := rfl
                  have hws : WD.size + 1 ≤ 9223372036854775807 := by omega
                  have PF := hide (rfront_any TT (WD ++ ⟨#[61]⟩) wr.drew (by rw [ByteArray.size_append]; omega))
                  have RD1 := hide ((unhide RD).next (Below.refl _ _).drew)
                  by_cases hp : (WD.data.toList ++ [61]).isPrefixOf TT.data.toList = true
                  · obtain ⟨D, hD⟩ : ∃ D, D = Pn.bs (TT.data.toList.drop (WD.data.toList.length + 1)) := ⟨_, rfl⟩
                    have hF : frontV TT (WD ++ ⟨#[61]⟩) = .tuple #[.string D, .bool true] := by
                      unfold frontV
                      rw [word_eq, word_size, if_pos hp, ← hD]
                    rw [hF] at PF
                    have hDz : D.size ≤ 1024 := by
                      rw [hD, Pn.bs_size, List.length_drop]
                      have : TT.data.toList.length = TT.size := by simp
                      rw [← hTT] at hTz
                      omega
                    have hDl : D.data.toList = TT.data.toList.drop (WD.data.toList.length + 1) := by rw [hD, Pn.list_bs]
                    have HB2 : Hid (Pn.digV D.data.toList < 1 → Pn.readP s = (Pn.zeroP, 3)) := hide (fun h => by
                      rw [unhide HP, (unhide HR2).bad hi8 (by rw [← hTT, ← hWD]; exact hp) (by rw [← hTT, ← hWD, ← hDl]; exact h)])
                    have HG2 : Hid (¬ Pn.digV D.data.toList < 1 → Pn.Rel ((ws.drop 2).map (·.data.toList)) (i + 1) ((ws.drop (k + 1)).map (·.data.toList)) (v.set i (Pn.digV D.data.toList))) := hide (fun h => by
                      have := (unhide HR2).took hi8 (by rw [← hTT, ← hWD]; exact hp) (by rw [← hTT, ← hWD, ← hDl]; exact h)
                      rwa [← hTT, ← hWD, ← hDl] at this)
                    have PD := hide (fun W => rdigits_any D W (by omega))
                    obtain ⟨x, hx⟩ : ∃ x, Pn.digV D.data.toList = x := ⟨_, rfl⟩
                    rw [hx] at PD HB2 HG2
                    have h8 := (unhide HR2).2.1
                    have RD3 := hide ((((unhide RD).put h8 hi8 x).next (Below.refl _ _).drew).next (Below.refl _ _).drew)
                    clear RD
                    clear hF hD hp hTT hWD hDl hx HR2 hTz HK
                    go_wp2_with fail
                    go_region_held_law (Wk g k i TT WD) (first | assumption | go_keep)
                      (first
                        | (go_at_call 26; refine (unhide PF).mono ?_; rintro e w5 ⟨rfl, rfl⟩))
                    all_goals
                      clear k1 PF
                      have RD2 := hide ((unhide RD1).next (Below.refl _ _).drew)
                      have t1 : Pt bt i b wr.drew.drew := (unhide RD2).to i hi8
                      have t2 := (unhide RD2).num i hi8
                      have t3 := (unhide RD2).fr (2 + i)
                      have hnb : bt ≠ b := (unhide RD2).ne2
                      clear RD1
                      go_wp2_with fail
                      go_region_held_law (Pt bt i b) (first | assumption | exact Pt.far hnb t1)
                        (first
                          | (go_at_call 27; refine (unhide PD _).mono ?_; rintro e w5 ⟨rfl, rfl⟩))
                      all_goals
                        clear t1 t2 t3 RD2 PD
                        generalize (wr.setCell ⟨b, 2 + i, none⟩ (.int .i64 x)).drew.drew = W6 at RD3 ⊢
                        have t1 := (unhide RD3).to i hi8
                        have t2 := (unhide RD3).num i hi8
                        rw [Pn.nth_set (by omega), if_pos rfl] at t2
                        by_cases hx1 : x < 1
                        · have HE := hide (unhide HB2 hx1)
                          have gx : decide (x < 1) = true := decide_eq_true hx1
                          obtain ⟨_, y0, y1, y2, y3, y4, y5, y6, y7, y8, y9⟩ := (unhide RD3).res
                          have fz := (unhide RD3).rfr
                          clear HG2 HB2
                          go_wp2_with fail
                          refine bodyPost_ret (results_plan2 rfl rfl ((unhide RD3).res.puts _ _ _ _ _ _ _ _ _ _ _ _)) rfl ?_
                          exact ReadIs.bad (unhide HE) (puts_below hrw [_, _, _, _, _, _, _, _, _, _] _ 0 (unhide RD3).bl) rfl
                        · have HR3 := hide (unhide HG2 (by omega))
                          have gx : decide (x < 1) = false := decide_eq_false hx1
                          clear HG2 HB2
                          go_wp2_with fail
                          refine ⟨⟨i + 1, i + 1, true, v.set i x, by go_num, rfl, by go_num, by omega, by omega, hide (fun h => by simp at h), hide (fun _ => unhide HR3), RD3⟩, ?_⟩
                          simp [intOf]; omega
                  · have hF : frontV TT (WD ++ ⟨#[61]⟩) = .tuple #[.string ⟨#[]⟩, .bool false] := by
                      unfold frontV
                      rw [word_eq, if_neg hp]
                    rw [hF] at PF
                    have HR3 := hide ((unhide HR2).skip hi8 (by rw [← hTT, ← hWD]; exact hp))
                    rw [← unhide HK] at HR3
                    clear hF hp hTT hWD HR2 hTz HK RD
                    go_wp2_with fail
                    go_region_held_law (Wk g k i TT WD) (first | assumption | go_keep)
                      (first
                        | (go_at_call 26; refine (unhide PF).mono ?_; rintro e w5 ⟨rfl, rfl⟩))
                    all_goals go_wp2_with fail
                    all_goals refine ⟨⟨n, i + 1, false, v, rfl, rfl, by go_num, hn, by omega, hide (fun _ => unhide HR3), hide (fun h => by simp at h), RD1⟩, ?_⟩
                    all_goals simp [intOf]; omega
                · obtain rfl : i = 8 := by omega
                  have HE : Hid (Pn.readP s = (Pn.zeroP, 3)) := hide (by rw [unhide HP, (unhide HR2).over])
                  obtain ⟨_, y0, y1, y2, y3, y4, y5, y6, y7, y8, y9⟩ := (unhide RD).res
                  have fz := (unhide RD).rfr
                  go_wp2_with fail
                  refine bodyPost_ret (results_plan2 rfl rfl ((unhide RD).res.puts _ _ _ _ _ _ _ _ _ _ _ _)) rfl ?_
                  exact ReadIs.bad (unhide HE) (puts_below hrw [_, _, _, _, _, _, _, _, _, _] _ 0 (unhide RD).bl) rfl
          · obtain rfl : k = ws.length := by omega
            rw [List.drop_length] at HR0
            have hv := (unhide HR0).done
            obtain ⟨x0, x1, x2, x3, x4, x5, x6, x7, rfl⟩ := eight (unhide HR0).2.1
            have HP2 : Hid (Pn.readP s = if Pn.planE ⟨X, l2, [x0, x1, x2, x3, x4, x5, x6, x7]⟩ = 0 then (⟨X, l2, [x0, x1, x2, x3, x4, x5, x6, x7]⟩, 0) else (Pn.zeroP, Pn.planE ⟨X, l2, [x0, x1, x2, x3, x4, x5, x6, x7]⟩)) := hide (by rw [unhide HP, hv])
            have PP := hide (rplan_any X (some ⟨g2, 0, none⟩) l2 cap2 x0 x1 x2 x3 x4 x5 x6 x7 wr (by omega) (unhide RD0).fil (fun k hk => by have := unhide hLz k hk; omega) (by omega))
            obtain ⟨E, hE⟩ : ∃ E, Pn.planE ⟨X, l2, [x0, x1, x2, x3, x4, x5, x6, x7]⟩ = E := ⟨_, rfl⟩
            rw [hE] at PP HP2
            have c0 := (unhide RD0).c0
            have c1 := (unhide RD0).c1
            have d0 : wr.cell? ⟨b, 2, none⟩ = some (.int .i64 x0) := (unhide RD0).num 0 (by omega)
            have d1 : wr.cell? ⟨b, 3, none⟩ = some (.int .i64 x1) := (unhide RD0).num 1 (by omega)
            have d2 : wr.cell? ⟨b, 4, none⟩ = some (.int .i64 x2) := (unhide RD0).num 2 (by omega)
            have d3 : wr.cell? ⟨b, 5, none⟩ = some (.int .i64 x3) := (unhide RD0).num 3 (by omega)
            have d4 : wr.cell? ⟨b, 6, none⟩ = some (.int .i64 x4) := (unhide RD0).num 4 (by omega)
            have d5 : wr.cell? ⟨b, 7, none⟩ = some (.int .i64 x5) := (unhide RD0).num 5 (by omega)
            have d6 : wr.cell? ⟨b, 8, none⟩ = some (.int .i64 x6) := (unhide RD0).num 6 (by omega)
            have d7 : wr.cell? ⟨b, 9, none⟩ = some (.int .i64 x7) := (unhide RD0).num 7 (by omega)
            clear HR0 hv hE HP
            go_wp2_with fail
            refine (unhide PP).mono ?_
            rintro e w5 ⟨rfl, b5⟩
            have RD5 := hide ((unhide RD0).next b5)
            clear PP RD0 b5 c0 c1 d0 d1 d2 d3 d4 d5 d6 d7
            obtain ⟨_, y0, y1, y2, y3, y4, y5, y6, y7, y8, y9⟩ := (unhide RD5).res
            have fz := (unhide RD5).rfr
            by_cases hE0 : E = 0
            · subst hE0
              rw [if_pos rfl] at HP2
              have c0 := (unhide RD5).c0
              have c1 := (unhide RD5).c1
              have d0 : w5.cell? ⟨b, 2, none⟩ = some (.int .i64 x0) := (unhide RD5).num 0 (by omega)
              have d1 : w5.cell? ⟨b, 3, none⟩ = some (.int .i64 x1) := (unhide RD5).num 1 (by omega)
              have d2 : w5.cell? ⟨b, 4, none⟩ = some (.int .i64 x2) := (unhide RD5).num 2 (by omega)
              have d3 : w5.cell? ⟨b, 5, none⟩ = some (.int .i64 x3) := (unhide RD5).num 3 (by omega)
              have d4 : w5.cell? ⟨b, 6, none⟩ = some (.int .i64 x4) := (unhide RD5).num 4 (by omega)
              have d5 : w5.cell? ⟨b, 7, none⟩ = some (.int .i64 x5) := (unhide RD5).num 5 (by omega)
              have d6 : w5.cell? ⟨b, 8, none⟩ = some (.int .i64 x6) := (unhide RD5).num 6 (by omega)
              have d7 : w5.cell? ⟨b, 9, none⟩ = some (.int .i64 x7) := (unhide RD5).num 7 (by omega)
              go_wp2_with fail
              refine bodyPost_ret (results_plan2 rfl rfl ((unhide RD5).res.puts _ _ _ _ _ _ _ _ _ _ _ _)) rfl ?_
              exact ReadIs.good (unhide HP2) (puts_below hrw [_, _, _, _, _, _, _, _, _, _] _ 0 (unhide RD5).bl) (SlS.puts (fun z hz => by cases hz; exact hne5) [_, _, _, _, _, _, _, _, _, _] _ 0 (unhide RD5).fil) rfl
            · have gE : (E != 0) = true := by simpa using hE0
              rw [if_neg hE0] at HP2
              go_wp2_with fail
              refine bodyPost_ret (results_plan2 rfl rfl ((unhide RD5).res.puts _ _ _ _ _ _ _ _ _ _ _ _)) rfl ?_
              exact ReadIs.bad (unhide HP2) (puts_below hrw [_, _, _, _, _, _, _, _, _, _] _ 0 (unhide RD5).bl) rfl
theorem rread_any (s : ByteArray) (w : World) (hs : s.size ≤ 140737488355328) (hw : WrdIs w) :
    Calls Tryd.prog 10 #[.string s] w fun e w' => ∃ a c, e = .returned (.tuple #[plV (Pn.readP s).1 a c, .int .i64 (Pn.readP s).2]) ∧ SlS w' a (Pn.readP s).1.f ∧ Below w.heap.size w w' := (rread_post s w hs hw).mono (fun _ _ h => h)
end Go.Proofs.YtohjipnkoiifhabDoor
