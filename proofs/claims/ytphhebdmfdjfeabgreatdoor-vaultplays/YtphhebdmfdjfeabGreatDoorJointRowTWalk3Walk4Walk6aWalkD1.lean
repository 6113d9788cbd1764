/-
  The document's store in memory: a row of messages and the last number, in a block of its own; a map of how many messages each subject has. No walk.
  Contract of rillref.Pieces at a dot: it lays the pieces into a row of its own.
  Contract of rillref.tokens, Subject and Filter: the errors of the plain functions.
  Contracts of the document's own answers: rillref.takes and Takes.
  Contract of rillref.Record: what is wrong with a record.
-/
import Derived.Test.YtphhebdmfdjfeabGreatDoorJointPapSPapTPlainIPapCPapE
import Derived.Test.YtphhebdmfdjfeabGreatDoorJointRowGRowBRowSRowURowVRowE
import Derived.Maps.OwnSet
import Derived.Maps.OwnOps
import Derived.Test.YtphhebdmfdjfeabGreatDoorJointWalkSplitWalk2
import Derived.RegionTactic
import Derived.ChangeAlike
import Derived.Test.YtphhebdmfdjfeabGreatDoorJointPlain2Plain5Walk5aPlainK
import Derived.Test.YtphhebdmfdjfeabGreatDoorJointWalkC3WalkC6WalkG1rWorksSWorksTaWorksTWorksYPapW
namespace Go.Proofs.YtphhebdmfdjfeabGreatDoor.Dk
open Go.RowKit

theorem lawS : Maps.Keyed Tryz.prog 9 := Maps.string_keyed Tryz.underlying9
/-- what a subject is as a key -/
def kS (s : ByteArray) : Lit := .string s.data.toList
theorem keyS {s : ByteArray} (h : s.size ≤ maxLen) : keyOf Tryz.prog 9 (.string s) = some (kS s) := WideMaps.keyOf_string_mk Tryz.underlying9 h
theorem kS_ne {a b : ByteArray} (h : a ≠ b) : kS a ≠ kS b := fun e => h (by
  unfold kS at e
  have := Lit.string.inj e
  apply ByteArray.ext
  exact Array.ext' this)
theorem zeroI (w : World) : (zeroValue 3).run Tryz.prog w = .ok (.int .i64 0) w := by kernel_rfl
/-- how many messages each subject has, as a map -/
structure Nam (w : World) (b : Nat) (l : List Rc) (D : DataW Unit) : Prop where
  own : w.ownsMap Tryz.prog 9 (plainElem Tryz.prog 3) b l.length D
  at' : ∀ s : ByteArray, s.size ≤ maxLen → D.atKey (kS s) (.lit (.int .i64 0)) = .lit (.int .i64 (cntN l s : Int))
  has : ∀ s : ByteArray, s.size ≤ maxLen → Maps.has D (kS s) = decide (0 < cntN l s)
  size : Maps.size D = nameN l
theorem Nam.made (w : World) : Nam (w.alloc (.map #[] 0)) w.heap.size [] (.map []) := by
  refine ⟨World.ownsMap_made _ _ _ _, fun s _ => ?_, fun s _ => ?_, rfl⟩
  · simp [DataW.atKey, cntN]
  · simp [Maps.has, cntN]
theorem kS_key (s : ByteArray) : WideAt.IsKeyLit (kS s) := by unfold kS; trivial
theorem Nam.put {w w' : World} {b : Nat} {l : List Rc} {D : DataW Unit} (h : Nam w b l D) (r : Rc) (hs : r.s.size ≤ maxLen) (h' : w'.ownsMap Tryz.prog 9 (plainElem Tryz.prog 3) b (l.length + 1) (D.put (kS r.s) (.lit (.int .i64 ((cntN l r.s : Int) + 1))))) : Nam w' b (l ++ [r]) (D.put (kS r.s) (.lit (.int .i64 ((cntN l r.s : Int) + 1)))) := by
  have hD := h.own.tidy lawS
  refine ⟨by rw [List.length_append, List.length_singleton]; exact h', fun s hz => ?_, fun s hz => ?_, ?_⟩
  · rw [cntN_append, cntN_one]
    by_cases e : r.s = s
    · rw [if_pos e, ← e, Maps.atKey_put_same hD.isMap (kS_key _)]
      simp
    · rw [if_neg e, Maps.atKey_put_other (kS_ne (fun z => e z.symm)), h.at' s hz]
      simp
  · rw [cntN_append, cntN_one]
    by_cases e : r.s = s
    · rw [if_pos e, ← e, Maps.has_put_same hD.isMap (kS_key _)]
      simp
    · rw [if_neg e, Maps.has_put_other (kS_ne (fun z => e z.symm)), h.has s hz]
      simp
  · rw [Maps.size_put hD, h.has _ hs, h.size, nameN_snoc, cntN_has]
    cases decide (0 < cntN l r.s) <;> simp
theorem Nam.drew {w : World} {b : Nat} {l : List Rc} {D : DataW Unit} (h : Nam w b l D) : Nam w.drew b l D := ⟨h.own.drew, h.at', h.has, h.size⟩
theorem Nam.drewN {w : World} {b : Nat} {l : List Rc} {D : DataW Unit} (h : Nam w b l D) (n : Nat) : Nam (w.drewN n) b l D := ⟨h.own, h.at', h.has, h.size⟩
/-- the document's store, in block c -/
def Che (w : World) (B c : Nat) (F : Nat → Prop) (s : Sto) : Prop :=
  ∃ v, (B ≤ c ∧ c < w.heap.size) ∧ w.cell? ⟨c, 0, none⟩ = some v ∧ w.cell? ⟨c, 1, none⟩ = some (.int .i64 s.last) ∧ w.frozen? ⟨c, 0, none⟩ = false ∧ w.frozen? ⟨c, 1, none⟩ = false ∧ ArrR w B v s.l ∧ v.ownBlock ≠ some c ∧ ∀ k, F k ↔ k = c ∨ v.ownBlock = some k
theorem Che.own {w : World} {B c : Nat} {F : Nat → Prop} {s : Sto} (h : Che w B c F s) : ∀ k, F k → B ≤ k ∧ k < w.heap.size := fun k hk => by
  obtain ⟨v, h1, _, _, _, _, h6, _, h8⟩ := h
  rcases (h8 k).1 hk with y | y
  · subst y; exact h1
  · exact World.ownsRow.lt h6 k y
theorem Che.chg {w w' : World} {B c : Nat} {F : Nat → Prop} {s : Sto} {A : Nat → Prop} (h : Che w B c F s) (hc : Chg A w w') (hn : ∀ k, F k → ¬ A k) : Che w' B c F s := by
  obtain ⟨v, h1, h2, h3, h4, h5, h6, h7, h8⟩ := h
  have hcA : ¬ A c := hn c ((h8 c).2 (.inl rfl))
  exact ⟨v, ⟨h1.1, Nat.lt_of_lt_of_le h1.2 hc.size⟩, by rw [hc.cell (p := ⟨c, 0, none⟩) h1.2 hcA]; exact h2, by rw [hc.cell (p := ⟨c, 1, none⟩) h1.2 hcA]; exact h3, by rw [hc.frozen (p := ⟨c, 0, none⟩) h1.2 hcA]; exact h4, by rw [hc.frozen (p := ⟨c, 1, none⟩) h1.2 hcA]; exact h5, h6.chg hc (fun g hg => hn g ((h8 g).2 (.inr hg))), h7, h8⟩
theorem Che.below {w w' : World} {B c : Nat} {F : Nat → Prop} {s : Sto} (h : Che w B c F s) (hb : Below w.heap.size w w') : Che w' B c F s := h.chg (A := fun _ => False) (Chg.of_below hb) (fun _ _ z => z)
/-- the messages of a store, read -/
theorem Che.read {w : World} {B c : Nat} {F : Nat → Prop} {s : Sto} (h : Che w B c F s) : ∃ a cap, w.cell? ⟨c, 0, none⟩ = some (.slice a s.l.length cap) ∧ w.cell? ⟨c, 1, none⟩ = some (.int .i64 s.last) ∧ s.l.length ≤ cap ∧ cap ≤ maxLen ∧ SlR w a s.l ∧ c < w.heap.size := by
  obtain ⟨v, h1, h2, h3, _, _, h6, _⟩ := h
  obtain ⟨a, cap, rfl, x1, x2, x3⟩ := h6.shape
  exact ⟨a, cap, h2, h3, x1, x2, x3, h1.2⟩
theorem seqB_take {l : List Rc} {k : Nat} (h : k < l.length) (n : Int) : seqB (l.take (k + 1)) n = (seqB (l.take k) n || decide ((rc l k).q = n)) := by
  rw [List.take_succ_eq_append_getElem h, rc_get h]
  unfold seqB
  rw [List.any_append]
  simp
end Go.Proofs.YtphhebdmfdjfeabGreatDoor.Dk

namespace Go.Proofs.YtphhebdmfdjfeabGreatDoor
open Go.RowKit

def isPcs (s : ByteArray) (k : Nat) (l : List ByteArray) : Prop := l.map (·.data.toList) = Pl.pcs (s.data.toList.take k)

theorem isPcs_zero (s : ByteArray) : isPcs s 0 [ByteArray.empty] := rfl
theorem take_snoc (s : ByteArray) (k : Nat) (h : k < s.size) : s.data.toList.take (k + 1) = s.data.toList.take k ++ [s[k]] := by
  rw [List.take_succ_eq_append_getElem (by simpa using h)]; rfl
theorem isPcs_ne {s : ByteArray} {k : Nat} {l : List ByteArray} (h : isPcs s k l) : l ≠ [] := by
  intro e; subst e
  exact Pl.pcs_ne _ h.symm
theorem isPcs_dot {s : ByteArray} {k : Nat} {l : List ByteArray} (h : isPcs s k l) (hk : k < s.size) (hd : s[k] = 46) : isPcs s (k + 1) (l ++ [ByteArray.empty]) := by
  unfold isPcs at *
  rw [take_snoc s k hk, hd, Pl.pcs_snoc_dot, ← h, List.map_append]
  rfl
theorem isPcs_byte {s : ByteArray} {k : Nat} {i : List ByteArray} {t : ByteArray} (h : isPcs s k (i ++ [t])) (hk : k < s.size) (hd : s[k] ≠ 46) : isPcs s (k + 1) (i ++ [t ++ s.extract k (k + 1)]) := by
  unfold isPcs at *
  have e := Pl.pcs_snoc (s.data.toList.take k) s[k] hd (i.map (·.data.toList)) t.data.toList (by rw [← h, List.map_append]; rfl)
  rw [take_snoc s k hk, e, List.map_append]
  congr 1
  rw [List.map_cons, List.map_nil, ByteArray.data_append, Array.toList_append, Lib.extract_data]
  congr 2
  rw [Nat.add_sub_cancel_left, List.drop_eq_getElem_cons (by simpa using hk)]
  rfl

theorem isPcs_len {s : ByteArray} {k : Nat} {l : List ByteArray} (h : isPcs s k l) : l.length ≤ (Pl.pcs s.data.toList).length := by
  have h1 : l.length = (Pl.pcs (s.data.toList.take k)).length := by rw [← h, List.length_map]
  rw [h1, Pl.pcs_length, Pl.pcs_length]
  have := (List.take_sublist k s.data.toList).count_le 46
  omega
theorem isPcs_size {s : ByteArray} {k : Nat} {i : List ByteArray} {t : ByteArray} (h : isPcs s k (i ++ [t])) : t.size ≤ s.size := by
  have h1 : t.data.toList ∈ Pl.pcs (s.data.toList.take k) := by rw [← h]; simp
  have h2 := Pl.pcs_short _ _ h1
  have h3 : (s.data.toList.take k).length ≤ s.size := by simp; omega
  have h4 : t.data.toList.length = t.size := by simp
  omega
theorem own_last {W : World} {B g cap : Nat} {i : List ByteArray} {t : ByteArray} (h : Own W B g cap (i ++ [t])) : W.cell? ⟨g, i.length, none⟩ = some (.string t) := by
  have := World.ownsRow.cellAt h i.length (by simp)
  rw [this]
  simp
theorem rel_dot {s : ByteArray} {k g cap g1 cap1 : Nat} {l : List ByteArray} {w wr w1 : World} {o : Obj} (hlt : k < s.size) (hd : s[k] = 46) (hown : Own wr w.heap.size g cap l) (hp : isPcs s k l) (hb : Below w.heap.size w wr)
    (h1 : w1.ownsRow w.heap.size 9 1 (.slice (some ⟨g1, 0, none⟩) (l.length + 1) cap1) (l.length + 1) (l.map Value.string ++ [.string ByteArray.empty]))
    (hg : (wr.alloc o).grownBy w1 (Value.ownBlock (.slice (some ⟨g, 0, none⟩) l.length cap))) :
    Own w1 w.heap.size g1 cap1 (l ++ [ByteArray.empty]) ∧ isPcs s (k + 1) (l ++ [ByteArray.empty]) ∧ Below w.heap.size w w1 := by
  refine ⟨?_, isPcs_dot hp hlt hd, ?_⟩
  · unfold Own
    rw [List.length_append, List.map_append]
    exact h1
  · refine (hb.alloc hb.size o).grown hg (by have := hb.size; simp; omega) ?_
    intro j hj
    have := (own_base hown).1
    simp [Value.ownBlock] at hj
    omega

theorem rel_byte {s : ByteArray} {k g cap : Nat} {i : List ByteArray} {t : ByteArray} {w wr : World} (hlt : k < s.size) (hd : s[k] ≠ 46) (hown : Own wr w.heap.size g cap (i ++ [t])) (hp : isPcs s k (i ++ [t])) (hb : Below w.heap.size w wr) :
    Own (wr.setCell ⟨g, i.length, none⟩ (.string (t ++ s.extract k (k + 1)))) w.heap.size g cap (i ++ [t ++ s.extract k (k + 1)]) ∧ isPcs s (k + 1) (i ++ [t ++ s.extract k (k + 1)]) ∧
      Below w.heap.size w (wr.setCell ⟨g, i.length, none⟩ (.string (t ++ s.extract k (k + 1)))) := by
  refine ⟨?_, isPcs_byte hp hlt hd, hb.setCell (own_base hown).1 _⟩
  have h := (World.ownsRow.stored hown i.length (.string (t ++ s.extract k (k + 1)))).1
  unfold Own
  have e : (i ++ [t]).length = (i ++ [t ++ s.extract k (k + 1)]).length := by simp
  rw [e] at h
  rw [List.map_append, List.map_cons, List.map_nil, List.set_append_right _ _ (by simp)] at h
  rw [List.map_append]
  simpa using h

set_option maxHeartbeats 1000000 in
theorem pieces_any (s : ByteArray) (w : World) (hs : s.size ≤ 140737488355328) (hn : (Pl.pcs s.data.toList).length ≤ 1099511627776) :
    Calls Tryz.prog 119 #[.string s, .int .u8 46] w fun e w' => ∃ g cap l, e = .returned (.slice (some ⟨g, 0, none⟩) l.length cap) ∧ Own w' w.heap.size g cap l ∧ isPcs s s.size l ∧ Below w.heap.size w w' := by
  obtain ⟨i0, hi, hz0, hz1, hz2⟩ := info_parts info9
  go_enter Tryz.func119, Tryz.ntmps119
  go_wp2
  go_loopw [5, 6] (fun out i wr => ∃ (k g cap : Nat) (l : List ByteArray), k ≤ s.size ∧ i = .int .i64 k ∧ out = .slice (some ⟨g, 0, none⟩) l.length cap ∧ Own wr w.heap.size g cap l ∧ Hid (isPcs s k l) ∧ Below w.heap.size w wr) (fun _ i _ => s.size - (intOf i).toNat)
  case atStart => exact ⟨0, w.heap.size, 1, [ByteArray.empty], Nat.zero_le _, rfl, rfl, World.ownsRow_lit w #[.string ByteArray.empty] 1 (Nat.le_refl _) (by decide) rfl, hide (isPcs_zero s), (Below.refl _ _).alloc (Nat.le_refl _) _⟩
  case round =>
    obtain ⟨k, g, cap, l, hk, rfl, rfl, hown, hp, hb⟩ := hrel
    by_cases hlt : k < s.size
    · by_cases hd : s[k] = 46
      · have hlen : l.length ≤ 1099511627776 := Nat.le_trans (isPcs_len (unhide hp)) hn
        have hsz := hb.size
        have hown2 : wr.ownsRow w.heap.size 9 1 (.slice (some ⟨g, 0, none⟩) l.length cap) l.length (l.map Value.string) := hown
        go_wp2_with (at_builtin; refine wpList_append_own _ rfl (.tmp 19) (.tmp 20) 165 rfl w.heap.size 9 i0 (.string ByteArray.empty) 1 16 Tryz.underlying165 hi hz0 hz1 hz2 rfl (by decide) _ _ _ rfl (hown2.alloc _) ⟨wr.heap.size, 0, none⟩ 1 1 [.string ByteArray.empty] rfl rfl (one_new _ _ _) (one_cell _) (by unfold maxLen; omega) (by omega) (by simp; omega) ?_; intro v' w1 hown1 hgrow _)
        obtain ⟨g1, cap1, rfl⟩ := own_some hown1
        have R := rel_dot hlt hd hown (unhide hp) hb hown1 hgrow
        clear hown hown2 hown1 hgrow hb hp
        go_wp2
        go_roundw
        case rel => exact ⟨k + 1, g1, cap1, l ++ [ByteArray.empty], by omega, by go_num, by simp, R.1, hide R.2.1, R.2.2⟩
        case measure => simp [intOf]; omega
      · obtain ⟨i, t, rfl⟩ : ∃ i t, l = i ++ [t] := ⟨l.dropLast, l.getLast (isPcs_ne (unhide hp)), (List.dropLast_concat_getLast _).symm⟩
        have hc := own_last hown
        have hf := own_free hown i.length
        have hl1 : ((i ++ [t]).length : Int) - 1 = (i.length : Int) := by simp
        have hl2 : (i ++ [t]).length = i.length + 1 := by simp
        have hlen : i.length ≤ 1099511627776 := by have := isPcs_len (unhide hp); simp at this; omega
        have hne : ((s[k].toNat : Int) == 46) = false := by rw [beq_eq_false_iff_ne]; intro e; exact hd (UInt8.toNat_inj.1 (by simp; omega))
        have hts : t.size ≤ s.size := isPcs_size (unhide hp)
        have hex : (s.extract k (k + 1)).size ≤ 1 := by rw [ByteArray.size_extract]; omega
        have hsum : t.size + (s.extract k (k + 1)).size ≤ 9223372036854775807 := by omega
        have Hown := hide hown
        clear hown hl1
        go_wp2
        go_region
        all_goals go_wp2
        all_goals
          have R := rel_byte hlt hd (unhide Hown) (unhide hp) hb
          refine ⟨⟨k + 1, g, cap, i ++ [t ++ s.extract k (k + 1)], by omega, by go_num, by simp, R.1.drew, hide R.2.1, R.2.2.drew⟩, ?_⟩
          simp [intOf]; omega
    · go_wp2
      go_ret
      obtain rfl : k = s.size := by omega
      exact ⟨g, cap, l, rfl, hown, unhide hp, hb⟩
end Go.Proofs.YtphhebdmfdjfeabGreatDoor

namespace Go.Proofs.YtphhebdmfdjfeabGreatDoor
open Go.RowKit

def inI (n lo hi : Int) : Bool := decide (lo ≤ n) && decide (n ≤ hi)
set_option maxHeartbeats 400000 in
theorem in_any (n lo hi : Int) (w : World) :
    Calls Tryz.prog 9 #[.int .i64 n, .int .i64 lo, .int .i64 hi] w fun e w' => e = .returned (.bool (inI n lo hi)) ∧ w' = w := by
  by_cases h1 : lo ≤ n <;> by_cases h2 : n ≤ hi
  all_goals
    go_enter Tryz.func9, Tryz.ntmps9
    go_wp2
    go_ret
    exact ⟨by simp [inI, *], rfl⟩

/-- a byte as the document's answer asks it (a dot is never met there) -/
def rB (c : Int) : Bool := decide (32 < c) && (decide (c < 127) && (decide (c ≠ 42) && decide (c ≠ 62)))
def okTo (t : ByteArray) (k : Nat) : Bool := inI t.size 1 16 && (t.data.toList.take k).all fun c => rB c.toNat
theorem okTo_zero (t : ByteArray) : okTo t 0 = inI t.size 1 16 := by simp [okTo]
theorem okTo_succ (t : ByteArray) (k : Nat) (h : k < t.size) : okTo t (k + 1) = (okTo t k && rB (t[k].toNat : Int)) := by
  unfold okTo
  rw [take_snoc t k h, List.all_append, Bool.and_assoc]
  simp
theorem okTo_all (t : ByteArray) (h : t.data.toList.count 46 = 0) : okTo t t.size = isPlainB t := by
  have e : t.data.toList.length = t.size := by simp
  unfold okTo isPlainB Pl.plainB inI
  rw [List.take_of_length_le (by omega), Bool.and_assoc, e]
  congr 1
  · rw [Bool.eq_iff_iff]; simp; omega
  congr 1
  · rw [Bool.eq_iff_iff]; simp; omega
  have hf : ∀ c ∈ t.data.toList, rB (c.toNat : Int) = Pl.tokB c := by
    intro c hc
    have hne : c ≠ 46 := by
      intro e
      subst e
      exact absurd hc (List.count_eq_zero.1 h)
    have hne2 : c.toNat ≠ 46 := fun e => hne (UInt8.toNat_inj.1 (by simpa using e))
    unfold rB Pl.tokB
    rw [Bool.eq_iff_iff]
    simp
    omega
  rw [Bool.eq_iff_iff, List.all_eq_true, List.all_eq_true]
  exact ⟨fun g c hc => by rw [← hf c hc]; exact g c hc, fun g c hc => by rw [hf c hc]; exact g c hc⟩
theorem isPcs_at {s : ByteArray} {l : List ByteArray} (h : isPcs s s.size l) (k : Nat) : (Pl.pcs s.data.toList)[k]?.getD [] = (tk l k).data.toList := by
  have e : s.data.toList.take s.size = s.data.toList := List.take_of_length_le (by simp)
  unfold isPcs at h
  rw [e] at h
  rw [← h, List.getElem?_map]
  unfold tk
  cases l[k]? <;> rfl
theorem isPcs_length {s : ByteArray} {l : List ByteArray} (h : isPcs s s.size l) : l.length = (Pl.pcs s.data.toList).length := by
  have e : s.data.toList.take s.size = s.data.toList := List.take_of_length_le (by simp)
  unfold isPcs at h
  rw [e] at h
  rw [← h, List.length_map]
theorem isPcs_free {s : ByteArray} {l : List ByteArray} (h : isPcs s s.size l) (k : Nat) : (tk l k).data.toList.count 46 = 0 := by
  rw [← isPcs_at h]
  cases e : (Pl.pcs s.data.toList)[k]? with
  | none => rfl
  | some p => exact Pl.pcs_free _ _ (List.mem_of_getElem? e)
theorem isPcs_tk_size {s : ByteArray} {l : List ByteArray} (h : isPcs s s.size l) (k : Nat) : (tk l k).size ≤ s.size := by
  have e := isPcs_at h k
  have h2 : ((Pl.pcs s.data.toList)[k]?.getD []).length ≤ s.data.toList.length := by
    cases e : (Pl.pcs s.data.toList)[k]? with
    | none => simp
    | some p => exact Pl.pcs_short _ _ (List.mem_of_getElem? e)
  rw [e] at h2
  simpa using h2
/-- is a piece right, as the document's answer asks it? -/
def rOk (wild : Bool) (l : List ByteArray) (k : Nat) : Bool := isPlainB (tk l k) || (wild && ((tk l k).toList == [42] || ((tk l k).toList == [62] && decide (k + 1 = l.length))))
theorem rOk_eq {s : ByteArray} {l : List ByteArray} (h : isPcs s s.size l) (wild : Bool) (k : Nat) : Pl.tokOk wild (decide (k + 1 = (Pl.pcs s.data.toList).length)) ((Pl.pcs s.data.toList)[k]?.getD []) = rOk wild l k := by
  rw [isPcs_at h, ← isPcs_length h]
  unfold Pl.tokOk rOk
  rw [byte_eq, byte_eq]
  rfl
theorem r_bad {s : ByteArray} {l : List ByteArray} {wild : Bool} {k : Nat} (h : isPcs s s.size l) (h8 : l.length ≤ 8) (hk : k < l.length) (g : rOk wild l k = false) : errS wild s = 3 := by
  rw [isPcs_length h] at h8 hk
  exact Pl.errOf_bad (k := k) (by omega) hk (by rw [rOk_eq h]; exact g)
theorem r_good {s : ByteArray} {l : List ByteArray} {wild : Bool} (h : isPcs s s.size l) (h8 : l.length ≤ 8) (g : ∀ k, k < l.length → rOk wild l k = true) : errS wild s = 0 := by
  rw [isPcs_length h] at h8
  refine Pl.errOf_good (by omega) ?_
  simp only [Pl.goodTo, List.all_eq_true, List.mem_range]
  intro i hi
  rw [← isPcs_length h] at hi
  rw [rOk_eq h]
  exact g i hi
def dots (s : ByteArray) (k : Nat) : Nat := (s.data.toList.take k).count 46
theorem dots_succ (s : ByteArray) (k : Nat) (h : k < s.size) : dots s (k + 1) = dots s k + if s[k] = 46 then 1 else 0 := by
  unfold dots
  rw [take_snoc s k h, List.count_append]
  congr 1
  by_cases e : s[k] = 46
  · rw [if_pos e, e]; rfl
  · rw [if_neg e]; simp [e]
theorem dots_le (s : ByteArray) (k : Nat) : dots s k ≤ k := by
  unfold dots
  have h : List.count 46 (s.data.toList.take k) ≤ (s.data.toList.take k).length := List.count_le_length
  have h2 : (s.data.toList.take k).length ≤ k := List.length_take_le _ _
  omega
theorem dots_all (s : ByteArray) : dots s s.size + 1 = (Pl.pcs s.data.toList).length := by
  unfold dots
  rw [List.take_of_length_le (by simp), Pl.pcs_length]

theorem rOk_of {wild : Bool} {l : List ByteArray} {k : Nat} {a b c d : Bool} (h1 : isPlainB (tk l k) = a) (h2 : ((tk l k).toList == [42]) = b) (h3 : ((tk l k).toList == [62]) = c) (h4 : decide (k + 1 = l.length) = d) : rOk wild l k = (a || (wild && (b || (c && d)))) := by
  unfold rOk; rw [h1, h2, h3, h4]
theorem rOk_at {wild : Bool} {t : ByteArray} {l : List ByteArray} {k : Nat} {a b c d : Bool} (e : t = tk l k) (h1 : isPlainB t = a) (h2 : (t.toList == [42]) = b) (h3 : (t.toList == [62]) = c) (h4 : decide (k + 1 = l.length) = d) : rOk wild l k = (a || (wild && (b || (c && d)))) := by
  subst e; exact rOk_of h1 h2 h3 h4
theorem ret_pair {v v' : Value} {a b : Int} (hv : v = v') (h : b = a) : Ending.returned (.tuple #[v, .int .i64 a]) = .returned (.tuple #[v', .int .i64 b]) := by rw [h, hv]

set_option maxRecDepth 100000 in
set_option maxHeartbeats 2000000 in
theorem rtokens_any (wild : Bool) (s : ByteArray) (w : World) (hs : s.size ≤ 140737488355328) :
    Calls Tryz.prog 134 #[.string s, .bool wild] w fun e w' => (∃ v, e = .returned (.tuple #[v, .int .i64 (errS wild s)])) ∧ Below w.heap.size w w' := by
  go_enter Tryz.func134, Tryz.ntmps134
  go_wp2
  go_loop [6, 7] (fun n i => ∃ k : Nat, k ≤ s.size ∧ i = .int .i64 k ∧ n = .int .i64 (dots s k + 1)) (fun _ i => s.size - (intOf i).toNat)
  case atStart => exact ⟨0, Nat.zero_le _, rfl, rfl⟩
  case round =>
    obtain ⟨k, hk, rfl, rfl⟩ := hrel
    have hdk := dots_le s k
    by_cases hlt : k < s.size
    · have Hd := hide (dots_succ s k hlt)
      by_cases hd : s[k] = 46
      · go_wp2
        go_round
        case rel => exact ⟨k + 1, by omega, by go_num, by rw [unhide Hd, if_pos hd]; go_num⟩
        case measure => simp [intOf]; omega
      · have hne : ((s[k].toNat : Int) == 46) = false := by rw [beq_eq_false_iff_ne]; intro e; exact hd (UInt8.toNat_inj.1 (by simp; omega))
        go_wp2
        go_round
        case rel => exact ⟨k + 1, by omega, by go_num, by rw [unhide Hd, if_neg hd]; go_num⟩
        case measure => simp [intOf]; omega
    · obtain rfl : k = s.size := by omega
      have Ha := hide (dots_all s)
      by_cases h8 : 8 < dots s s.size + 1
      · go_wp2
        go_ret2
        exact ⟨⟨_, ret_pair rfl (Pl.errOf_large (by rw [← unhide Ha]; exact h8))⟩, Below.refl _ _⟩
      · go_wp2_with (go_at_call 119; refine (pieces_any s _ hs (by have := unhide Ha; omega)).mono ?_; rintro e w1 ⟨g, cap, l, rfl, hown, hp, hb⟩)
        have hln : l.length = dots s s.size + 1 := by rw [isPcs_length hp]; exact (unhide Ha).symm
        have Hln := hide hln
        have Hp := hide hp
        have Hown := hide hown
        have hdn : dots s s.size + 1 ≤ 8 := by omega
        have hcell : ∀ k, k < l.length → w1.cell? ⟨g, k, none⟩ = some (.string (tk l k)) := own_cells hown
        have Hcell := hide hcell
        clear hln hp hown hdk hlt hk hcell
        go_wp2
        go_loop [9] (fun i => ∃ k : Nat, k ≤ l.length ∧ i = .int .i64 k ∧ Hid (∀ j, j < k → rOk wild l j = true)) (fun i => l.length - (intOf i).toNat)
        case atStart => exact ⟨0, Nat.zero_le _, rfl, hide (fun j h => absurd h (Nat.not_lt_zero j))⟩
        case round =>
          obtain ⟨k, hk, rfl, hq⟩ := hrel
          by_cases hlt : k < l.length
          · have hkd : k < dots s s.size + 1 := by have := unhide Hln; omega
            have hc1 := unhide Hcell k hlt
            have hts := isPcs_tk_size (unhide Hp) k
            obtain ⟨t, ht⟩ : ∃ t, t = tk l k := ⟨_, rfl⟩
            rw [← ht] at hc1 hts
            have Ht := hide ht
            clear ht
            go_wp2_with (go_at_call 9; refine (in_any _ _ _ _).mono ?_; rintro e w' ⟨rfl, rfl⟩)
            go_loop [10, 11] (fun ok i => ∃ m : Nat, m ≤ t.size ∧ i = .int .i64 m ∧ ok = .bool (okTo t m)) (fun _ i => t.size - (intOf i).toNat)
            case atStart => exact ⟨0, Nat.zero_le _, rfl, by rw [okTo_zero]⟩
            case round =>
              obtain ⟨m, hm, rfl, rfl⟩ := hrel
              by_cases hmt : m < t.size
              · have Hs := hide (okTo_succ t m hmt)
                cases hok : okTo t m
                · rw [hok] at Hs
                  go_wp2
                  go_round
                  case rel => exact ⟨m + 1, by omega, by go_num, by rw [unhide Hs]; rfl⟩
                  case measure => simp [intOf]; omega
                · rw [hok] at Hs
                  go_wp2
                  all_goals
                    go_round
                    case rel => exact ⟨m + 1, by omega, by go_num, congrArg Value.bool (by rw [unhide Hs, Bool.eq_iff_iff]; simp [rB]; omega)⟩
                    case measure => simp [intOf]; omega
              · obtain rfl : m = t.size := by omega
                have hpl : okTo t t.size = isPlainB t := by
                  have := isPcs_free (unhide Hp) k
                  rw [← unhide Ht] at this
                  exact okTo_all t this
                have Hkl : Hid (decide (k + 1 = l.length) = decide (k = dots s s.size)) := by
                  have := unhide Hln
                  exact hide (by rw [Bool.eq_iff_iff]; simp; omega)
                rw [hpl]
                have hlast : ((k : Int) == (dots s s.size : Int)) = decide (k = dots s s.size) := by rw [Bool.eq_iff_iff]; simp; omega
                have Hf := hide (rOk_at (wild := wild) (a := isPlainB t) (b := t.toList == [42]) (c := t.toList == [62]) (unhide Ht) rfl rfl rfl (unhide Hkl))
                clear hpl Hkl
                cases wild
                · rw [Bool.false_and, Bool.or_false] at Hf
                  cases hpb : isPlainB t
                  all_goals rw [hpb] at Hf
                  · skip
                    go_wp2
                    go_ret2
                    exact ⟨⟨_, ret_pair rfl (r_bad (unhide Hp) (by have := unhide Hln; omega) hlt (unhide Hf))⟩, hb⟩
                  · skip
                    go_wp2
                    go_round
                    case rel => exact ⟨k + 1, by omega, by go_num, hide (fun j h => by
                      rcases Nat.lt_succ_iff_lt_or_eq.1 h with h | h
                      · exact unhide hq j h
                      · subst h; exact unhide Hf)⟩
                    case measure => simp [intOf]; omega
                · rw [Bool.true_and] at Hf
                  cases ha : (t.toList == [42])
                  · rw [ha, Bool.false_or] at Hf
                    cases hg : (t.toList == [62])
                    · rw [hg, Bool.false_and, Bool.or_false] at Hf
                      cases hpb : isPlainB t
                      all_goals rw [hpb] at Hf
                      · skip
                        go_wp2
                        go_ret2
                        exact ⟨⟨_, ret_pair rfl (r_bad (unhide Hp) (by have := unhide Hln; omega) hlt (unhide Hf))⟩, hb⟩
                      · skip
                        go_wp2
                        go_round
                        case rel => exact ⟨k + 1, by omega, by go_num, hide (fun j h => by
                          rcases Nat.lt_succ_iff_lt_or_eq.1 h with h | h
                          · exact unhide hq j h
                          · subst h; exact unhide Hf)⟩
                        case measure => simp [intOf]; omega
                    · rw [hg, Bool.true_and] at Hf
                      cases he : decide (k = dots s s.size)
                      · rw [he] at Hf hlast
                        rw [Bool.or_false] at Hf
                        clear he
                        cases hpb : isPlainB t
                        all_goals rw [hpb] at Hf
                        · skip
                          go_wp2
                          go_ret2
                          exact ⟨⟨_, ret_pair rfl (r_bad (unhide Hp) (by have := unhide Hln; omega) hlt (unhide Hf))⟩, hb⟩
                        · skip
                          go_wp2
                          go_round
                          case rel => exact ⟨k + 1, by omega, by go_num, hide (fun j h => by
                            rcases Nat.lt_succ_iff_lt_or_eq.1 h with h | h
                            · exact unhide hq j h
                            · subst h; exact unhide Hf)⟩
                          case measure => simp [intOf]; omega
                      · rw [he] at Hf hlast
                        rw [Bool.or_true] at Hf
                        clear he
                        go_wp2
                        go_round
                        case rel => exact ⟨k + 1, by omega, by go_num, hide (fun j h => by
                          rcases Nat.lt_succ_iff_lt_or_eq.1 h with h | h
                          · exact unhide hq j h
                          · subst h; exact unhide Hf)⟩
                        case measure => simp [intOf]; omega
                  · rw [ha, Bool.true_or, Bool.or_true] at Hf
                    go_wp2
                    go_round
                    case rel => exact ⟨k + 1, by omega, by go_num, hide (fun j h => by
                      rcases Nat.lt_succ_iff_lt_or_eq.1 h with h | h
                      · exact unhide hq j h
                      · subst h; exact unhide Hf)⟩
                    case measure => simp [intOf]; omega
          · have hkd : ¬ k < dots s s.size + 1 := by have := unhide Hln; omega
            go_wp2
            go_ret2
            exact ⟨⟨_, ret_pair rfl (r_good (unhide Hp) (by have := unhide Hln; omega) (fun j hj => unhide hq j (by omega)))⟩, hb⟩

set_option maxHeartbeats 400000 in
theorem rsubject_any (s : ByteArray) (w : World) (hs : s.size ≤ 140737488355328) :
    Calls Tryz.prog 94 #[.string s] w fun e w' => e = .returned (.int .i64 (errS false s)) ∧ Below w.heap.size w w' := by
  go_enter Tryz.func94, Tryz.ntmps94
  go_wp2_with (go_at_call 134; refine (rtokens_any false s _ hs).mono ?_; rintro e w1 ⟨⟨v, rfl⟩, hb⟩)
  go_ret
  exact ⟨rfl, hb⟩
set_option maxHeartbeats 400000 in
theorem rfilter_any (s : ByteArray) (w : World) (hs : s.size ≤ 140737488355328) :
    Calls Tryz.prog 95 #[.string s] w fun e w' => e = .returned (.int .i64 (errS true s)) ∧ Below w.heap.size w w' := by
  go_enter Tryz.func95, Tryz.ntmps95
  go_wp2_with (go_at_call 134; refine (rtokens_any true s _ hs).mono ?_; rintro e w1 ⟨⟨v, rfl⟩, hb⟩)
  go_ret
  exact ⟨rfl, hb⟩
end Go.Proofs.YtphhebdmfdjfeabGreatDoor

namespace Go.Proofs.YtphhebdmfdjfeabGreatDoor
open Go.RowKit

/-- a slice's address leads to a row of these strings (where there is one) -/
def At (w : World) (a : Option Addr) (l : List ByteArray) : Prop := l ≠ [] → ∃ b o, a = some ⟨b, o, none⟩ ∧ Row w b o l
theorem At.drewN {w : World} {a : Option Addr} {l : List ByteArray} (h : At w a l) (n : Nat) : At (w.drewN n) a l := h
/-- where 's[1:]' leads -/
def tl (b o c : Nat) : Option Addr := if c = 1 then some ⟨b, o, none⟩ else some ⟨b, o + 1, none⟩
theorem At.head {w : World} {a : Option Addr} {x : ByteArray} {l : List ByteArray} (h : At w a (x :: l)) : ∃ b o, a = some ⟨b, o, none⟩ ∧ w.cell? ⟨b, o, none⟩ = some (.string x) ∧ ∀ c, l.length + 1 ≤ c → At w (tl b o c) l := by
  obtain ⟨b, o, rfl, hr⟩ := h (by simp)
  refine ⟨b, o, rfl, hr 0 (by simp), fun c hc hne => ?_⟩
  have : l.length ≠ 0 := fun e => hne (List.length_eq_zero_iff.1 e)
  unfold tl
  rw [if_neg (by omega)]
  refine ⟨b, o + 1, rfl, fun k hk => ?_⟩
  have := hr (k + 1) (by simpa using hk)
  rw [show o + 1 + k = o + (k + 1) by omega, this]
  simp [tk]
theorem run_tail (b o n c : Nat) (W : World) : (Instr.slice 165 (.slice (some ⟨b, o, none⟩) (n + 1) c) (some (.int .i64 1)) none none).run Tryz.prog W = .ok (.slice (tl b o c) n (c - 1)) W := by
  have he : Tryz.prog.elem 165 = 9 := by kernel_rfl
  rw [run_slice_l W 165 _ _ _ (by rw [he]; exact Tryz.underlying165) .i64 1 (by omega) (by omega), he]
  unfold tl
  by_cases h : c = 1
  · simp [Result.andThen, sliced, h, go_sem, Tryz.sizeOf9]
  · simp [Result.andThen, sliced, h, go_sem, Tryz.sizeOf9, Addr.add]
set_option maxRecDepth 100000 in
set_option maxHeartbeats 1000000 in
theorem rtakes_any : ∀ (f s : List ByteArray) (af ag : Option Addr) (cf cs : Nat) (w : World), At w af f → At w ag s → f.length ≤ cf → s.length ≤ cs →
    Calls Tryz.prog 118 #[.slice af f.length cf, .slice ag s.length cs] w fun e w' => e = .returned (.bool (takesL f s)) ∧ ∃ n, w' = w.drewN n := by
  intro f
  induction f with
  | nil =>
    intro s af ag cf cs w h1 h2 h3 h4
    go_enter Tryz.func118, Tryz.ntmps118
    go_wp2_with fail
    go_ret
    refine ⟨ret_bool ?_, 0, rfl⟩
    simp [takesL]
  | cons x fs ih =>
    intro s af ag cf cs w h1 h2 h3 h4
    have IH := hide ih
    clear ih
    obtain ⟨b, o, rfl, hc, hat⟩ := h1.head
    have Hat := hide hat
    clear hat h1
    cases hg : (x.toList == [62])
    · cases s with
      | nil =>
        go_enter Tryz.func118, Tryz.ntmps118
        go_wp2_with fail
        go_quiet (fail)
        go_wp2_with fail
        go_ret
        exact ⟨rfl, _, rfl⟩
      | cons y ss =>
        obtain ⟨c, q, rfl, hc2, hat2⟩ := h2.head
        have Hat2 := hide hat2
        clear hat2 h2
        cases hs : (x.toList == [42])
        · cases he : (x.toList == y.toList)
          · have R : takesL (x :: fs) (y :: ss) = false := by rw [takesL]; unfold gtB stB eqB; rw [hg, hs, he]; rfl
            have HR := hide R
            clear R
            go_enter Tryz.func118, Tryz.ntmps118
            go_wp2_with fail
            go_quiet (fail)
            go_wp2_with fail
            go_ret
            exact ⟨ret_is (unhide HR), _, rfl⟩
          · have R : takesL (x :: fs) (y :: ss) = takesL fs ss := by rw [takesL]; unfold gtB stB eqB; rw [hg, hs, he]; rfl
            have HR := hide R
            clear R
            go_enter Tryz.func118, Tryz.ntmps118
            go_wp2_with fail
            have hs1 := run_tail b o fs.length cf
            have hs2 := run_tail c q ss.length cs
            simp only [List.length_cons] at h3 h4
            go_quiet ((go_at_call 118; exact Calls.quiet_of (unhide IH ss _ _ _ _ _ ((unhide Hat cf h3).drewN _) ((unhide Hat2 cs h4).drewN _) (by omega) (by omega))))
            go_wp2_with fail
            go_ret
            exact ⟨ret_is (unhide HR), _, rfl⟩
        · have R : takesL (x :: fs) (y :: ss) = takesL fs ss := by rw [takesL]; unfold gtB stB eqB; rw [hg, hs]; rfl
          have HR := hide R
          clear R
          have hs1 := run_tail b o fs.length cf
          have hs2 := run_tail c q ss.length cs
          simp only [List.length_cons] at h3 h4
          go_enter Tryz.func118, Tryz.ntmps118
          go_wp2_with fail
          go_quiet ((go_at_call 118; exact Calls.quiet_of (unhide IH ss _ _ _ _ _ ((unhide Hat cf h3).drewN _) ((unhide Hat2 cs h4).drewN _) (by omega) (by omega))))
          go_wp2_with fail
          go_ret
          exact ⟨ret_is (unhide HR), _, rfl⟩
    · cases s with
      | nil =>
        go_enter Tryz.func118, Tryz.ntmps118
        go_wp2_with fail
        go_ret
        exact ⟨rfl, 0, rfl⟩
      | cons y ss =>
        have R : takesL (x :: fs) (y :: ss) = true := by rw [takesL]; unfold gtB stB eqB; rw [hg]; rfl
        have HR := hide R
        clear R
        go_enter Tryz.func118, Tryz.ntmps118
        go_wp2_with fail
        go_ret
        exact ⟨ret_is (unhide HR), 0, rfl⟩
/-- what Pieces lays, where it stands -/
theorem own_at {W : World} {B g cap : Nat} {l : List ByteArray} (h : Own W B g cap l) : At W (some ⟨g, 0, none⟩) l := fun _ => ⟨g, 0, rfl, fun k hk => by rw [Nat.zero_add]; exact own_cells h k hk⟩
theorem own_cap {W : World} {B g cap : Nat} {l : List ByteArray} (h : Own W B g cap l) : l.length ≤ cap := by
  rcases h.2 with ⟨h', _⟩ | ⟨g', cap', cur, h', _, _, hn, _⟩
  · simp at h'
  · simp only [Value.slice.injEq] at h'
    omega
theorem At.below {w w' : World} {g : Nat} {l : List ByteArray} {B : Nat} (h : At w (some ⟨g, 0, none⟩) l) (hb : Below B w w') (hg : g < B) : At w' (some ⟨g, 0, none⟩) l := by
  intro hne
  obtain ⟨b, o, e, hr⟩ := h hne
  simp only [Option.some.injEq, Addr.mk.injEq] at e
  obtain ⟨rfl, rfl, _⟩ := e
  exact ⟨_, _, rfl, hr.below hb hg⟩
theorem isPcs_toks {s : ByteArray} {l : List ByteArray} (h : isPcs s s.size l) : l = Pl.toks s := by
  have e : s.data.toList.take s.size = s.data.toList := List.take_of_length_le (by simp)
  unfold isPcs at h
  rw [e, ← Pl.toks_data] at h
  exact List.map_inj_right (fun a b hab => WideShapes.bytes_inj hab) |>.1 h
set_option maxHeartbeats 400000 in
theorem rTakes_any (f s : ByteArray) (w : World) (hf : f.size ≤ 140737488355328) (hs : s.size ≤ 140737488355328) (nf : (Pl.pcs f.data.toList).length ≤ 1099511627776) (ns : (Pl.pcs s.data.toList).length ≤ 1099511627776) :
    Calls Tryz.prog 71 #[.string f, .string s] w fun e w' => e = .returned (.bool (takesL (Pl.toks f) (Pl.toks s))) ∧ Below w.heap.size w w' := by
  go_enter Tryz.func71, Tryz.ntmps71
  go_wp2_with fail
  refine (pieces_any f _ hf nf).mono ?_
  rintro e w1 ⟨g1, c1, l1, rfl, o1, p1, b1⟩
  have P1 := hide (isPcs_toks p1)
  clear p1
  go_wp2_with fail
  refine (pieces_any s _ hs ns).mono ?_
  rintro e w2 ⟨g2, c2, l2, rfl, o2, p2, b2⟩
  have P2 := hide (isPcs_toks p2)
  clear p2
  go_wp2_with fail
  refine (rtakes_any l1 l2 _ _ _ _ _ ((own_at o1).below b2 (own_base o1).2) (own_at o2) (own_cap o1) (own_cap o2)).mono ?_
  rintro e w3 ⟨rfl, n, rfl⟩
  go_wp2
  go_ret
  exact ⟨ret_is (by rw [unhide P1, unhide P2]), below_drewN (b1.trans (b2.mono b1.size)) n⟩
end Go.Proofs.YtphhebdmfdjfeabGreatDoor

namespace Go.Proofs.YtphhebdmfdjfeabGreatDoor
open Go.RowKit

theorem cat_none (a b : ByteArray) : ((a ++ b).toList = []) = (a.size + b.size = 0) := by rw [tl_nil, ByteArray.size_append]
theorem inI_three (k q t : Int) : Pk.inB k q t = (inI k 1 4 && (inI q 1 1099511627776 && inI t 0 1099511627776)) := by
  unfold Pk.inB inI
  cases decide (1 ≤ k) <;> cases decide (k ≤ 4) <;> cases decide (1 ≤ q) <;> cases decide (q ≤ 1099511627776) <;> rfl

set_option maxRecDepth 100000 in
set_option maxHeartbeats 1000000 in
theorem rrecord_out (k q t : Int) (s h d : ByteArray) (w : World) (hI : Pk.inB k q t = false) :
    Calls Tryz.prog 54 #[.agg #[.int .i64 k, .int .i64 q, .int .i64 t, .string s, .string h, .string d]] w fun e w' => e = .returned (.int .i64 (chkV k q t s h d)) ∧ Below w.heap.size w w' := by
  have R0 := hide (RB.new w k q t s h d 43)
  have B0 : Hid (Below w.heap.size w (w.alloc (.cells #[.int .i64 k, .int .i64 q, .int .i64 t, .string s, .string h, .string d] 43))) := hide ((Below.refl _ _).alloc (Nat.le_refl _) _)
  have M : Hid (chkV k q t s h d = 1) := hide (chk_out hI)
  rw [inI_three] at hI
  cases i1 : inI k 1 4 with
  | false =>
    have I1 := hide i1
    have I2 := hide i1
    have I3 := hide i1
    clear hI i1
    go_enter Tryz.func54, Tryz.ntmps54
    go_wp2_with (go_at_call 9; refine (in_any _ _ _ _).mono ?_; rintro e w' ⟨rfl, rfl⟩; first | rw [unhide I1] | rw [unhide I2] | rw [unhide I3])
    go_ret
    exact ⟨ret_int (unhide M).symm, unhide B0⟩
  | true =>
    cases i2 : inI q 1 1099511627776 with
    | false =>
      have I1 := hide i1
      have I2 := hide i2
      have I3 := hide i1
      clear hI i1 i2
      go_enter Tryz.func54, Tryz.ntmps54
      go_wp2_with (go_at_call 9; refine (in_any _ _ _ _).mono ?_; rintro e w' ⟨rfl, rfl⟩; first | rw [unhide I1] | rw [unhide I2] | rw [unhide I3])
      go_ret
      exact ⟨ret_int (unhide M).symm, unhide B0⟩
    | true =>
      cases i3 : inI t 0 1099511627776 with
      | false =>
        have I1 := hide i1
        have I2 := hide i2
        have I3 := hide i3
        clear hI i1 i2 i3
        go_enter Tryz.func54, Tryz.ntmps54
        go_wp2_with (go_at_call 9; refine (in_any _ _ _ _).mono ?_; rintro e w' ⟨rfl, rfl⟩; first | rw [unhide I1] | rw [unhide I2] | rw [unhide I3])
        go_ret
        exact ⟨ret_int (unhide M).symm, unhide B0⟩
      | true => rw [i1, i2, i3] at hI; cases hI

set_option maxRecDepth 100000 in
set_option maxHeartbeats 1000000 in
theorem rrecord_in (k q t : Int) (s h d : ByteArray) (w : World) (hs : s.size ≤ 140737488355328) (hh : h.size ≤ 140737488355328) (hd : d.size ≤ 140737488355328) (hI : Pk.inB k q t = true) :
    Calls Tryz.prog 54 #[.agg #[.int .i64 k, .int .i64 q, .int .i64 t, .string s, .string h, .string d]] w fun e w' => e = .returned (.int .i64 (chkV k q t s h d)) ∧ Below w.heap.size w w' := by
  have R0 := hide (RB.new w k q t s h d 43)
  have B0 : Hid (Below w.heap.size w (w.alloc (.cells #[.int .i64 k, .int .i64 q, .int .i64 t, .string s, .string h, .string d] 43))) := hide ((Below.refl _ _).alloc (Nat.le_refl _) _)
  have c1 : ¬ 9223372036854775807 < h.size + d.size := by omega
  have c2 : ¬ 9223372036854775807 < s.size + h.size := by omega
  have c3 : ¬ 9223372036854775807 < s.size + h.size + d.size := by omega
  have M := hide (chk_in (s := s) (h := h) (d := d) hI)
  obtain ⟨j1, j2, -, -, -, -⟩ := Pk.inB_iff.1 hI
  rw [inI_three] at hI
  obtain ⟨i1, i2, i3⟩ : inI k 1 4 = true ∧ inI q 1 1099511627776 = true ∧ inI t 0 1099511627776 = true := by simpa [Bool.and_eq_true] using hI
  have I1 := hide i1
  have I2 := hide i2
  have I3 := hide i3
  clear hI i1 i2 i3
  by_cases k1 : k = 1
  · subst k1
    obtain ⟨E, hE⟩ : ∃ E, E = errS false s := ⟨_, rfl⟩
    have CS : Hid (∀ W : World, Calls Tryz.prog 94 #[.string s] W fun e w' => e = .returned (.int .i64 E) ∧ Below W.heap.size W w') := hide (fun W => by rw [hE]; exact rsubject_any s W hs)
    have N : Hid (chkV 1 q t s h d = if E ≠ 0 then E else if 256 < h.size + d.size then 2 else 0) := hide (by rw [unhide M, if_pos rfl]; unfold msgE; rw [← hE])
    clear hE M
    go_enter Tryz.func54, Tryz.ntmps54
    go_wp2_with (go_at_call 9; refine (in_any _ _ _ _).mono ?_; rintro e w' ⟨rfl, rfl⟩; first | rw [unhide I1] | rw [unhide I2] | rw [unhide I3])
    refine (unhide CS _).mono ?_
    rintro e w1 ⟨rfl, b1⟩
    have R1 := (unhide R0).next b1
    have d4 := R1.c4
    have d5 := R1.c5
    have B1 := hide (bstep (unhide B0) b1)
    clear R1 R0 B0 b1
    go_wp2_with fail
    all_goals go_ret
    all_goals refine ⟨ret_int ?_, unhide B1⟩
    all_goals rw [unhide N]
    all_goals clear N CS d4 d5 B1 I1 I2 I3
    all_goals simp only [bne_iff_ne, ne_eq, bne_eq_false_iff_eq] at *
    all_goals split
    all_goals first | rfl | omega | (split <;> omega)
  by_cases k3 : k = 3
  · subst k3
    obtain ⟨E, hE⟩ : ∃ E, E = errS true s := ⟨_, rfl⟩
    have CS : Hid (∀ W : World, Calls Tryz.prog 95 #[.string s] W fun e w' => e = .returned (.int .i64 E) ∧ Below W.heap.size W w') := hide (fun W => by rw [hE]; exact rfilter_any s W hs)
    have N : Hid (chkV 3 q t s h d = if E ≠ 0 then E else if h.size + d.size = 0 then 0 else 1) := hide (by rw [unhide M, if_neg (by decide), if_pos rfl]; unfold purE; rw [← hE])
    clear hE M k1
    go_enter Tryz.func54, Tryz.ntmps54
    go_wp2_with (go_at_call 9; refine (in_any _ _ _ _).mono ?_; rintro e w' ⟨rfl, rfl⟩; first | rw [unhide I1] | rw [unhide I2] | rw [unhide I3])
    refine (unhide CS _).mono ?_
    rintro e w1 ⟨rfl, b1⟩
    have R1 := (unhide R0).next b1
    have d4 := R1.c4
    have d5 := R1.c5
    have B1 := hide (bstep (unhide B0) b1)
    clear R1 R0 B0 b1
    go_wp2_with fail
    all_goals go_ret
    all_goals refine ⟨ret_int ?_, unhide B1⟩
    all_goals rw [unhide N]
    all_goals clear N CS d4 d5 B1 I1 I2 I3
    all_goals simp only [tl_emp, ByteArray.size_append, Bool.not_eq_true', Bool.not_eq_false', decide_eq_true_eq, decide_eq_false_iff_not, bne_iff_ne, ne_eq, bne_eq_false_iff_eq] at *
    all_goals split
    all_goals first | rfl | omega | (split <;> omega)
  · have N : Hid (chkV k q t s h d = if s.size + (h.size + d.size) = 0 then 0 else 1) := hide (by rw [unhide M, if_neg k1, if_neg k3]; rfl)
    have n1 : (k == 1) = false := by simp; omega
    have n3 : (k == 3) = false := by simp; omega
    clear M k1 k3
    go_enter Tryz.func54, Tryz.ntmps54
    go_wp2_with (go_at_call 9; refine (in_any _ _ _ _).mono ?_; rintro e w' ⟨rfl, rfl⟩; first | rw [unhide I1] | rw [unhide I2] | rw [unhide I3])
    all_goals go_ret
    all_goals refine ⟨ret_int ?_, unhide B0⟩
    all_goals rw [unhide N]
    all_goals clear N R0 B0 I1 I2 I3
    all_goals simp only [tl_emp, ByteArray.size_append, Bool.not_eq_true', Bool.not_eq_false', decide_eq_true_eq, decide_eq_false_iff_not] at *
    all_goals first | (rw [if_pos (by omega)]; done) | (rw [if_neg (by omega)]; done)

theorem rrecord_any (k q t : Int) (s h d : ByteArray) (w : World) (hs : s.size ≤ 140737488355328) (hh : h.size ≤ 140737488355328) (hd : d.size ≤ 140737488355328) :
    Calls Tryz.prog 54 #[.agg #[.int .i64 k, .int .i64 q, .int .i64 t, .string s, .string h, .string d]] w fun e w' => e = .returned (.int .i64 (chkV k q t s h d)) ∧ Below w.heap.size w w' := by
  cases hI : Pk.inB k q t with
  | false => exact rrecord_out k q t s h d w hI
  | true => exact rrecord_in k q t s h d w hs hh hd hI
end Go.Proofs.YtphhebdmfdjfeabGreatDoor
