/-
  Contracts behind IndexFinds: slices.Delete (one text), append of one text, the closure of IndexFinds and slices.ContainsFunc at entries; what is there besides an index.
-/
import Derived.Test.YtcdajajekmichadDoorWalkG
namespace Go.Proofs.YtcdajajekmichadDoor
open Go.RowKit Go.Deep

set_option maxHeartbeats 4000000 in
set_option maxRecDepth 100000 in
theorem sdelete_in (B g c i m : Nat) (l : List ByteArray) (w : World) (hn : l.length = i + 1 + m) (ha : ArrS w B (.slice (some ⟨g, 0, none⟩) (i + 1 + m) c) l) (h100 : l.length ≤ 100) (hc : i + 1 + m ≤ c) :
    Calls Tryd.prog 23 #[.slice (some ⟨g, 0, none⟩) (i + 1 + m) c, .int .i64 i, .int .i64 (i + 1)] w fun e w' =>
      e = .returned (.slice (some ⟨g, 0, none⟩) (i + m) c) ∧ w' = (w.drew.setCells g (0 + i * 1) ((l.map Value.string).drop (i + 1))).setCells g (i + m) [.string ByteArray.empty] := by
  obtain ⟨i0, hi0, hz0, hz1, hz2⟩ := info_parts info9
  obtain ⟨news, hnews⟩ : ∃ news, news = (l.map Value.string).drop (i + 1) := ⟨_, rfl⟩
  have hlen : news.length = m := by rw [hnews, List.length_drop, List.length_map, hn]; omega
  obtain ⟨cur, hg, hcs⟩ : ∃ cur, w.heap[g]? = some (.cells cur 9 (0, 0)) ∧ cur.size = c := by
    rcases ha.2 with ⟨q, _⟩ | ⟨g', cap', cur, q, h2, h3, h4, h5, h6, h7⟩
    · cases q
    · simp only [Value.slice.injEq, Option.some.injEq, Addr.mk.injEq, and_true] at q
      obtain ⟨rfl, _, rfl⟩ := q
      exact ⟨cur, h3, by omega⟩
  have hsp : ∀ j, j < c → (w.cell? ⟨g, j, none⟩).isSome = true := by
    intro j hj
    rw [cell_of_row w g j _ _ _ hg, Array.getElem?_eq_getElem (by omega)]
    rfl
  have hfz : ∀ j, w.frozen? ⟨g, j, none⟩ = false := fun j => frozen_of_row w g j _ _ hg
  have hcell : ∀ j u, (l.map Value.string)[j]? = some u → w.cell? ⟨g, j, none⟩ = some u := by
    intro j u hj
    rw [← hn] at ha
    have hjl : j < l.length := by
      have := (List.getElem?_eq_some_iff.1 hj).1
      simpa using this
    rw [ha.cell hjl, tk_get hjl]
    rw [List.getElem?_map, List.getElem?_eq_getElem hjl] at hj
    exact hj
  obtain ⟨A, hA, hsrc⟩ : ∃ A : Addr, (if c = i + 1 then some (⟨g, 0, none⟩ : Addr) else some ⟨g, i + 1, none⟩) = some A ∧ Hid (∀ t u, news[t]? = some u → w.drew.cell? (A.add t) = some u) := by
    by_cases h : c = i + 1
    · refine ⟨⟨g, 0, none⟩, by simp [h], fun t u hu => ?_⟩
      have h0 : news.length = 0 := by rw [hlen]; omega
      rw [List.length_eq_zero_iff.1 h0] at hu
      simp at hu
    · refine ⟨⟨g, i + 1, none⟩, by simp [h], fun t u hu => ?_⟩
      rw [Addr.add_lit]
      refine hcell _ u ?_
      rw [hnews, List.getElem?_drop] at hu
      exact hu
  have s1 : Hid (news.length = m * 1) := hide (by omega)
  have s2 : Hid (∀ u ∈ news, u.oneCell' = true) := by
    intro u hu
    rw [hnews] at hu
    obtain ⟨x, _, rfl⟩ := List.mem_map.1 (List.mem_of_mem_drop hu)
    rfl
  have s3 : Hid (∀ t, t < news.length → (w.drew.cell? ⟨g, 0 + i * 1 + t, none⟩).isSome = true ∧ w.drew.frozen? ⟨g, 0 + i * 1 + t, none⟩ = false) := by
    intro t ht
    rw [hlen] at ht
    exact ⟨hsp _ (by omega), hfz _⟩
  obtain ⟨W1, hW1⟩ : ∃ W1, W1 = w.drew.setCells g (0 + i * 1) news := ⟨_, rfl⟩
  have hcl : ∀ ty c', (Builtin.clear_ #[30] ty #[.slice (some ⟨g, i + m, none⟩) 1 c']).run Tryd.prog W1 = .ok (.tuple #[]) (W1.setCells g (i + m) [.string ByteArray.empty]) := fun ty c' =>
    Lib.run_clear_slice W1 _ _ ty (.string ByteArray.empty) Tryd.underlying30 Tryd.zeroValue9 rfl rfl g (i + m) 1 c' (by omega) (fun j hj => by
        rw [hW1]
        exact isSome_setCells g news (0 + i * 1) w.drew (fun t ht => hsp _ (by rw [hlen] at ht; omega)) _ (hsp _ (by omega)))
      (fun j hj => by rw [hW1, World.frozen?_setCells]; exact hfz _)
  have hW : Hid (W1 = w.drew.setCells g (0 + i * 1) news) := hW1
  rw [← hnews]
  clear hW1 hsp hfz hcell hg ha hnews hlen hz0 hz2
  have hic : i ≤ c := by omega
  have hjc : i + 1 ≤ c := by omega
  have b1 : (0 : Int) ≤ (i : Int) + 1 := by omega
  have b2 : (i : Int) + 1 ≤ (i : Int) + 1 + (m : Int) := by omega
  have q1 : ¬ (c = i + m) := by omega
  have q2 : i + 1 + m - (i + m) = 1 := by omega
  go_enter Tryd.func23, Tryd.ntmps23
  go_wp2_with fail
  go_region_law (refine step_append_room rfl (.tmp 22) (.tmp 25) 30 rfl 9 i0 1 Tryd.underlying30 hi0 hz1 g 0 i c (by simp [Act.eval, Act.put]) A m (c - (i + 1)) news (by simp [Act.eval, Act.put]) s1.out hsrc.out s2.out (by omega) s3.out ?_; rw [← hW.out])
  go_wp2
  go_ret
  exact ⟨rfl, by rw [hW.out]⟩
theorem sdelete_any (B : Nat) (v : Value) (l : List ByteArray) (i : Nat) (w : World) (ha : ArrS w B v l) (hi : i < l.length) (h100 : l.length ≤ 100) :
    Calls Tryd.prog 23 #[v, .int .i64 i, .int .i64 (i + 1)] w fun e w' => ∃ v', e = .returned v' ∧ ArrS w' B v' (l.take i ++ l.drop (i + 1)) ∧ Chg (fun k => v.ownBlock = some k) w w' ∧ v'.ownBlock = v.ownBlock := by
  obtain ⟨g, cap, rfl, c1, c2, c3, c4⟩ := ha.there (by omega)
  obtain ⟨m, hn⟩ : ∃ m, l.length = i + 1 + m := ⟨l.length - (i + 1), by omega⟩
  rw [hn] at ha c1 ⊢
  refine (sdelete_in B g cap i m l w hn ha h100 c1).mono ?_
  rintro e w' ⟨rfl, rfl⟩
  refine ⟨_, rfl, ?_, ?_, rfl⟩
  · have o0 : w.drew.ownsRow B 9 1 (.slice (some ⟨g, 0, none⟩) (i + 1 + m) cap) (i + 1 + m) (l.map Value.string) := by
      unfold ArrS at ha
      rw [hn] at ha
      exact ha
    have hcl : (l.map Value.string).length = i + 1 + m := by rw [List.length_map, hn]
    have hdl : ((l.map Value.string).drop (i + 1)).length = m := by rw [List.length_drop, hcl]; omega
    have o1 := own_sets ((l.map Value.string).drop (i + 1)) i _ _ o0 (by rw [hcl, hdl]; omega)
    have o2 := own_sets [.string ByteArray.empty] (i + m) _ _ o1 (by
      simp only [List.length_append, List.length_take, List.length_drop, hcl, List.length_cons, List.length_nil]
      omega)
    have o3 := own_shorter (k := i + m) o2 (by omega)
    have hl2 : (l.take i ++ l.drop (i + 1)).length = i + m := by rw [List.length_append, List.length_take, List.length_drop, hn]; omega
    unfold ArrS
    rw [hl2, Nat.zero_add, Nat.mul_one]
    have h1 : ((l.map Value.string).take i ++ (l.map Value.string).drop (i + 1)).length = i + m := by rw [List.length_append, List.length_take, List.length_drop, hcl]; omega
    have h2 : ((l.map Value.string).take i ++ (l.map Value.string).drop (i + 1) ++ (l.map Value.string).drop (i + ((l.map Value.string).drop (i + 1)).length)).take (i + m) = (l.map Value.string).take i ++ (l.map Value.string).drop (i + 1) := by
      rw [List.take_append_of_le_length (by omega), List.take_of_length_le (by omega)]
    rw [h2, Nat.mul_one, List.append_assoc ((l.map Value.string).take i ++ (l.map Value.string).drop (i + 1)), List.take_append_of_le_length (by omega), List.take_of_length_le (by omega), ← List.map_take, ← List.map_drop, ← List.map_append] at o3
    rw [← List.map_drop]
    exact o3
  · have c : Chg (fun k => k = g) w w.drew := ⟨rfl, rfl, rfl, Nat.le_refl _, fun _ _ _ => rfl⟩
    exact ((c.trans (chg_sets _ _ _)).trans (chg_sets _ _ _)).mono (fun k _ hk => by rw [hk]; rfl)

theorem sappend_blk (w : World) (B : Nat) (ty : TypeId) (v : Value) (l : List ByteArray) (s : ByteArray) (ha : ArrS w B v l) (a : Addr) (c : Nat) (hnews : ∀ (j : Nat) u, [Value.string s][j]? = some u → w.cell? (a.add j) = some u) (hl : l.length ≤ 10000) (hB : B ≤ w.heap.size) :
    ∃ v' w', (Builtin.append_ #[30, 30] ty #[v, .slice (some a) 1 c]).run Tryd.prog w = .ok v' w' ∧ ArrS w' B v' (l ++ [s]) ∧ w.grownBy w' v.ownBlock ∧ (v'.ownBlock = v.ownBlock ∨ v'.ownBlock = some w.heap.size) := by
  obtain ⟨i0, hi, hz0, hz1, hz2⟩ := info_parts info9
  obtain ⟨v', w', hr, h2, h3, h4⟩ := run_append_own (P := Tryd.prog) w B 30 ty 9 i0 _ 1 16 Tryd.underlying30 hi hz0 hz1 hz2 rfl (by omega) v l.length (l.map Value.string) ha a 1 c [.string s] rfl hnews (one_cell s) (by unfold maxLen; omega) (by omega) hB
  refine ⟨v', w', hr, ?_, h3, ?_⟩
  · unfold ArrS
    rw [List.length_append, List.map_append]
    exact h2
  · rcases ha.2 with ⟨rfl, hn⟩ | ⟨g, cap, cur, rfl, hbg, hg, hnc, hcm, hcs, htake⟩
    · right
      have hr2 := run_append_nil (P := Tryd.prog) w 30 ty 9 i0 _ Tryd.underlying30 hi hz0 a 1 c [.string s] (by rw [hz1]; rfl) hnews (by omega) (by omega) (by rw [hz2]; omega)
      rw [hr] at hr2
      cases hr2
      rfl
    · by_cases hroom : l.length + 1 ≤ cap
      · left
        obtain ⟨w2, hr2, _, _⟩ := run_append_fits (P := Tryd.prog) w B 30 ty 9 i0 1 Tryd.underlying30 hi hz1 g l.length cap (l.map Value.string) ha a 1 c [.string s] rfl hnews (one_cell s) hroom
        rw [hr] at hr2
        cases hr2
        rfl
      · right
        have hr2 := run_append_grow (P := Tryd.prog) w 30 ty 9 i0 _ Tryd.underlying30 hi hz0 ⟨g, 0, none⟩ l.length cap (l.map Value.string) (by rw [hz1]; exact ha.1) (World.ownsRow.cells ha (g := g) rfl) a 1 c [.string s] (by rw [hz1]; rfl) hnews (by omega) (by omega) (by rw [hz2]; exact growslice_fits (by omega) (by omega))
        rw [hr] at hr2
        cases hr2
        rfl

/-- the names that were handed in -/
def Names (w : World) (a : Option Addr) (n : Nat) (Sx : Nat → ByteArray) : Prop := ∀ i, i < n → ∃ b o, a = some ⟨b, o, none⟩ ∧ b < w.heap.size ∧ w.cell? ⟨b, o + i, none⟩ = some (.string (Sx i)) ∧ (Sx i).size ≤ 140737488355328
theorem Names.below {w w' : World} {a : Option Addr} {n : Nat} {Sx : Nat → ByteArray} (h : Names w a n Sx) (hb : Below w.heap.size w w') : Names w' a n Sx := by
  intro i hi
  obtain ⟨b, o, h1, h2, h3, h4⟩ := h i hi
  exact ⟨b, o, h1, by have := hb.size; omega, by rw [hb.cell (p := ⟨b, o + i, none⟩) h2]; exact h3, h4⟩
set_option maxHeartbeats 1000000 in
set_option maxRecDepth 100000 in
theorem finds1_any (e : Ent) (s : ByteArray) (bs bn : Nat) (a : Option Addr) (n cap : Nat) (Sx : Nat → ByteArray) (w : World) (hs : w.cell? ⟨bs, 0, none⟩ = some (.string s)) (hls : bs < w.heap.size) (hn : w.cell? ⟨bn, 0, none⟩ = some (.slice a n cap)) (hln : bn < w.heap.size) (hN : Names w a n Sx) (he : ∃ i : Nat, i < n ∧ e.2 = (i : Int) ∧ Sx i = e.1) :
    Calls Tryd.prog 26 #[.agg #[.string e.1, .int .i64 e.2], .pointer (some ⟨bs, 0, none⟩), .pointer (some ⟨bn, 0, none⟩)] w fun r w' => r = .returned (.bool (eqB e.1 s)) ∧ Below w.heap.size w w' := by
  obtain ⟨i, hi, he1, he2⟩ := he
  obtain ⟨b, o, rfl, hb, hc, _⟩ := hN i hi
  obtain ⟨t, z⟩ := e
  simp only at he1 he2
  subst he1 he2
  have k1 : ∀ x, (w.alloc x).cell? ⟨bs, 0, none⟩ = some (.string s) := fun x => by rw [World.cell?_alloc_lt _ _ _ hls]; exact hs
  have k2 : ∀ x, (w.alloc x).cell? ⟨bn, 0, none⟩ = some (.slice (some ⟨b, o, none⟩) n cap) := fun x => by rw [World.cell?_alloc_lt _ _ _ hln]; exact hn
  have k3 : ∀ x, (w.alloc x).cell? ⟨b, o + i, none⟩ = some (.string (Sx i)) := fun x => by rw [World.cell?_alloc_lt _ _ _ hb]; exact hc
  have hb0 : ∀ x, Below w.heap.size w (w.alloc x) := fun x => (Below.refl _ _).alloc (Nat.le_refl _) x
  clear hN hs hn hc
  cases hq : ((Sx i).toList == s.toList) with
  | true =>
    have R := hide (show eqB (Sx i) s = true from hq)
    go_enter Tryd.func26, Tryd.ntmps26
    go_wp2
    go_quiet (fail)
    go_wp2
    go_ret
    exact ⟨ret_is (unhide R), below_drewN (hb0 _) _⟩
  | false =>
    have R := hide (show eqB (Sx i) s = false from hq)
    go_enter Tryd.func26, Tryd.ntmps26
    go_wp2
    go_quiet (fail)
    go_wp2
    go_ret
    exact ⟨ret_is (unhide R), below_drewN (hb0 _) _⟩

set_option maxHeartbeats 1000000 in
theorem indexff_any (a : Option Addr) (cap : Nat) (fs : List Ent) (s : ByteArray) (bs bn : Nat) (an : Option Addr) (n cn : Nat) (Sx : Nat → ByteArray) (w : World) (hsl : Sl w a fs) (h100 : fs.length ≤ 100) (hs : w.cell? ⟨bs, 0, none⟩ = some (.string s)) (hls : bs < w.heap.size) (hn : w.cell? ⟨bn, 0, none⟩ = some (.slice an n cn)) (hln : bn < w.heap.size) (hN : Names w an n Sx)
    (hnum : ∀ e ∈ fs, ∃ i : Nat, i < n ∧ e.2 = (i : Int) ∧ Sx i = e.1) (hit : ∃ j, j < fs.length ∧ (en fs j).1 = s) :
    Calls Tryd.prog 41 #[.slice a fs.length cap, .func (.func 26) #[] #[.pointer (some ⟨bs, 0, none⟩), .pointer (some ⟨bn, 0, none⟩)]] w fun e w' => ∃ i : Nat, e = .returned (.int .i64 i) ∧ i ≤ 100 ∧ Below w.heap.size w w' := by
  have Hs := hide hs
  have Hn := hide hn
  have HN := hide hN
  have Hnum := hide hnum
  have Hit := hide hit
  clear hs hn hN hnum hit
  go_enter Tryd.func41, Tryd.ntmps41
  go_wp2
  go_loopw [8] (fun iv wr => ∃ (i : Nat), iv = .int .i64 i ∧ i ≤ fs.length ∧ Hid (∀ k, k < i → eqB (en fs k).1 s = false) ∧ Hid (Sl wr a fs) ∧ Below w.heap.size w wr) (fun iv _ => fs.length - (intOf iv).toNat)
  case atStart => exact ⟨0, rfl, Nat.zero_le _, hide (fun k hk => absurd hk (Nat.not_lt_zero k)), hide hsl, Below.refl _ _⟩
  case round =>
    obtain ⟨i, rfl, hi, hlo, hsl2, hb⟩ := hrel
    by_cases hlt : i < fs.length
    · obtain ⟨g, rfl, hg, hc1, hc2⟩ := unhide hsl2 i (by omega)
      have H := hide (finds1_any (en fs i) s bs bn an n cn Sx wr (by rw [hb.cell (p := ⟨bs, 0, none⟩) hls]; exact unhide Hs) (by have := hb.size; omega) (by rw [hb.cell (p := ⟨bn, 0, none⟩) hln]; exact unhide Hn) (by have := hb.size; omega) ((unhide HN).below hb) (unhide Hnum _ (en_mem hlt)))
      cases he : eqB (en fs i).1 s with
      | true =>
        have He := hide he
        clear he
        go_wp2_with fail
        refine (unhide H).mono ?_
        rintro e w1 ⟨rfl, hb1⟩
        rw [unhide He]
        clear hc1 hc2
        go_wp2_with fail
        go_ret
        exact ⟨i, rfl, by omega, bstep hb hb1⟩
      | false =>
        have He := hide he
        clear he
        go_wp2_with fail
        refine (unhide H).mono ?_
        rintro e w1 ⟨rfl, hb1⟩
        rw [unhide He]
        clear hc1 hc2
        go_wp2_with fail
        refine ⟨⟨i + 1, by go_num, by omega, hide (fun k hk => ?_), hide ((unhide hsl2).below hb1), bstep hb hb1⟩, ?_⟩
        · rcases Nat.lt_succ_iff_lt_or_eq.1 hk with q | q
          · exact unhide hlo k q
          · rw [q]; exact unhide He
        · simp [intOf]; omega
    · exfalso
      obtain ⟨j, hj, e⟩ := unhide Hit
      have := unhide hlo j (by omega)
      rw [e, eqB_self] at this
      cases this
set_option maxHeartbeats 400000 in
theorem containsf_any (a : Option Addr) (cap : Nat) (fs : List Ent) (s : ByteArray) (bs bn : Nat) (an : Option Addr) (n cn : Nat) (Sx : Nat → ByteArray) (w : World) (hsl : Sl w a fs) (h100 : fs.length ≤ 100) (hs : w.cell? ⟨bs, 0, none⟩ = some (.string s)) (hls : bs < w.heap.size) (hn : w.cell? ⟨bn, 0, none⟩ = some (.slice an n cn)) (hln : bn < w.heap.size) (hN : Names w an n Sx)
    (hnum : ∀ e ∈ fs, ∃ i : Nat, i < n ∧ e.2 = (i : Int) ∧ Sx i = e.1) (hit : ∃ j, j < fs.length ∧ (en fs j).1 = s) :
    Calls Tryd.prog 25 #[.slice a fs.length cap, .func (.func 26) #[] #[.pointer (some ⟨bs, 0, none⟩), .pointer (some ⟨bn, 0, none⟩)]] w fun e w' => e = .returned (.bool true) ∧ Below w.heap.size w w' := by
  have P := hide (indexff_any a cap fs s bs bn an n cn Sx w hsl h100 hs hls hn hln hN hnum hit)
  clear hsl hs hn hN hnum hit
  go_enter Tryd.func25, Tryd.ntmps25
  go_wp2_with fail
  refine (unhide P).mono ?_
  rintro e w1 ⟨i, rfl, h1, h2⟩
  go_wp2_with fail
  go_ret
  exact ⟨rfl, h2⟩

/-- an index, the names' variable bn and a row of texts, apart -/
structure Fs (w0 w : World) (bn px : Nat) (nm vx : Value) (es : List Ent) (vt : Value) (th : List ByteArray) : Prop where
  kx : Keeps w w0.heap.size px vx es
  th : ArrS w w0.heap.size vt th
  ap : ∀ g, vt.ownBlock = some g → ¬ foot px vx g
  n1 : ∀ k, foot px vx k → k ≠ bn
  n2 : ∀ g, vt.ownBlock = some g → g ≠ bn
  cell : w.cell? ⟨bn, 0, none⟩ = some nm
  lt : bn < w.heap.size
  below : Below w0.heap.size w0 w
theorem Keeps.foot_lt {w : World} {B p : Nat} {v : Value} {es : List Ent} (h : Keeps w B p v es) {k : Nat} (hk : foot p v k) : B ≤ k ∧ k < w.heap.size := by
  rcases hk with q | q
  · subst q; exact ⟨h.base, h.lt⟩
  · exact h.arr.lt k q
section
variable {w0 w w' : World} {bn px : Nat} {nm vx vt : Value} {es es' : List Ent} {th th' : List ByteArray}
theorem Fs.step (h : Fs w0 w bn px nm vx es vt th) (hb : Below w.heap.size w w') : Fs w0 w' bn px nm vx es vt th :=
  ⟨h.kx.below hb, h.th.chg (A := fun _ => False) (Chg.of_below hb) (fun _ _ q => q), h.ap, h.n1, h.n2, by rw [hb.cell (p := ⟨bn, 0, none⟩) h.lt]; exact h.cell, by have := hb.size; have := h.lt; omega, bstep h.below hb⟩
theorem Fs.upd (h : Fs w0 w bn px nm vx es vt th) (u : Upd w w' w0.heap.size px vx es') : ∃ vx', Fs w0 w' bn px nm vx' es' vt th := by
  obtain ⟨vx', h1, h2, h3⟩ := u
  have f' : ∀ k, foot px vx' k → foot px vx k ∨ w.heap.size ≤ k := by
    intro k hk
    rcases hk with q | q
    · exact .inl (.inl q)
    · rcases h3 k q with z | z
      · exact .inl (.inr z)
      · exact .inr z
  have hB : w0.heap.size ≤ w.heap.size := h.below.size
  refine ⟨vx', h1, h.th.chg h2 (fun g hg => h.ap g hg), fun g hg q => ?_, fun k hk => ?_, h.n2, ?_, by have := h2.size; have := h.lt; omega, h.below.trans (h2.below hB (fun k hk q => by have := (h.kx.foot_lt q).1; omega))⟩
  · rcases f' g q with z | z
    · exact h.ap g hg z
    · have := (h.th.lt g hg).2; omega
  · rcases f' k hk with z | z
    · exact h.n1 k z
    · have := h.lt; omega
  · rw [h2.cell (p := ⟨bn, 0, none⟩) h.lt (fun q => h.n1 bn q rfl)]; exact h.cell
theorem Fs.row {vt' : Value} (h : Fs w0 w bn px nm vx es vt th) (c : Chg (fun k => vt.ownBlock = some k) w w') (a : ArrS w' w0.heap.size vt' th') (b : vt'.ownBlock = vt.ownBlock ∨ vt'.ownBlock = some w.heap.size) : Fs w0 w' bn px nm vx es vt' th' := by
  have hB : w0.heap.size ≤ w.heap.size := h.below.size
  refine ⟨h.kx.chg c (fun k hk q => h.ap k q hk), a, fun g hg q => ?_, h.n1, fun g hg => ?_, ?_, by have := c.size; have := h.lt; omega, h.below.trans (c.below hB (fun k hk q => by have := (h.th.lt k q).1; omega))⟩
  · rcases b with z | z
    · exact h.ap g (by rw [← z]; exact hg) q
    · rw [z] at hg; cases hg; have := (h.kx.foot_lt q).2; omega
  · rcases b with z | z
    · exact h.n2 g (by rw [← z]; exact hg)
    · rw [z] at hg; cases hg; have := h.lt; omega
  · rw [c.cell (p := ⟨bn, 0, none⟩) h.lt (fun q => h.n2 bn q rfl)]; exact h.cell
end
end Go.Proofs.YtcdajajekmichadDoor
