/-
  The program's store: Last, Next.
-/
import Derived.Test.YtcdajajekmichafDoorWalkXT
import Derived.Test.YtcdajajekmichafDoorWalkX1
namespace Go.Proofs.YtcdajajekmichafDoor.Dk
open Go.RowKit Go.Shelf

theorem find_tk {f : ByteArray} (hf : errS true f = 0) {zs : List Rc} (hz : ∀ x ∈ zs, errS false x.s = 0) : zs.find? (fun r => matchB f r.s) = zs.find? (fun r => tkB f r.s) :=
  find_same (fun x hx => by unfold matchB tkB; rw [hf, hz x hx]; simp)
theorem last_back (f : ByteArray) (l : List Rc) : lastO f l = l.reverse.find? fun r => tkB f r.s := by
  unfold lastO takenL
  rw [List.getLast?_eq_head?_reverse, ← List.filter_reverse, List.head?_filter]
theorem seek_same {f : ByteArray} {zs : List Rc} {o : Option Rc} (hz : ∀ x ∈ zs, errS false x.s = 0) (h : o = zs.find? fun r => tkB f r.s) : seekV f (zs.find? fun r => matchB f r.s) = seekV f o := by
  unfold seekV
  by_cases e : errS true f = 0
  · rw [if_pos e, if_pos e, find_tk e hz, h]
  · rw [if_neg e, if_neg e]

set_option maxHeartbeats 400000 in
theorem backR_call (a : Option Addr) (len cap : Nat) (w : World) :
    Calls Tryd.prog 28 #[.slice a len cap] w fun e w' => e = .returned (.func (.func 43) #[] #[.pointer (some ⟨w.heap.size, 0, none⟩)]) ∧ w' = w.alloc (.cells #[.slice a len cap] 22) := by
  go_enter Tryd.func28, Tryd.ntmps28
  go_wp2
  go_ret
  exact ⟨rfl, rfl⟩
set_option maxHeartbeats 400000 in
theorem allR_call (a : Option Addr) (len cap : Nat) (w : World) :
    Calls Tryd.prog 23 #[.slice a len cap] w fun e w' => e = .returned (.func (.func 39) #[] #[.pointer (some ⟨w.heap.size, 0, none⟩)]) ∧ w' = w.alloc (.cells #[.slice a len cap] 22) := by
  go_enter Tryd.func23, Tryd.ntmps23
  go_wp2
  go_ret
  exact ⟨rfl, rfl⟩

/-- firstTaken over the records of a slice, backward -/
theorem ftake_back (f : ByteArray) (hf : f.size ≤ 140737488355328) (a : Option Addr) (zs : List Rc) (cap : Nat) (w : World) (hc : SlR w a zs) (ha : ∀ z, a = some z → z.block < w.heap.size) (hz : ∀ x ∈ zs, Small x) (hlen : zs.length ≤ 1000) :
    Calls Tryd.prog 22 #[.string f, .func (.func 43) #[] #[.pointer (some ⟨w.heap.size, 0, none⟩)]] (w.alloc (.cells #[.slice a zs.length cap] 22)) fun e w' => e = .returned (seekV f (zs.reverse.find? fun r => matchB f r.s)) ∧ Below w.heap.size w w' := by
  have hb : Below w.heap.size w (w.alloc (.cells #[.slice a zs.length cap] 22)) := (Below.refl _ _).alloc (Nat.le_refl _) _
  have hC : ∀ k, (k = w.heap.size ∨ ∃ z, a = some z ∧ z.block = k) → k < (w.alloc (.cells #[.slice a zs.length cap] 22)).heap.size := fun k hk => by
    rw [World.size_alloc]
    rcases hk with rfl | ⟨z, e, rfl⟩
    · omega
    · have := ha z e; omega
  have hcell : (w.alloc (.cells #[.slice a zs.length cap] 22)).cell? ⟨w.heap.size, 0, none⟩ = some (.slice a zs.length cap) := by
    rw [cell_of_row _ w.heap.size 0 _ _ _ (heap_alloc_new w _)]; rfl
  refine (ftake_any f hf zs.reverse _ _ (fun k => k = w.heap.size ∨ ∃ z, a = some z ∧ z.block = k) _ hC (enters_of Tryd.func43 (by kernel_rfl) rfl) (fun W0 h0 => ?_)).mono ?_
  · have hs := below_stay h0 hC
    have := backR_stops Fence.wide 7 trivial rfl (by omega) w.heap.size (fun k => k = w.heap.size ∨ ∃ z, a = some z ∧ z.block = k) a zs cap (fun k hk => hz _ (rc_mem hk)) hlen (.inl rfl) (fun z e => .inr ⟨z, e, rfl⟩) W0 (fun k hk => Nat.lt_of_lt_of_le (hC k hk) h0.size) ((hs.cell (.inl rfl)).trans hcell) (hs.recs (hc.below hb) (fun z e => .inr ⟨z, e, rfl⟩))
    rw [List.length_reverse]
    exact this
  · rintro e w' ⟨he, h2⟩
    exact ⟨he, bstep hb h2⟩
/-- firstTaken over the records of a slice, in their order -/
theorem ftake_all (f : ByteArray) (hf : f.size ≤ 140737488355328) (a : Option Addr) (zs : List Rc) (cap : Nat) (w : World) (hc : SlR w a zs) (ha : ∀ z, a = some z → z.block < w.heap.size) (hz : ∀ x ∈ zs, Small x) (hlen : zs.length ≤ 1000) :
    Calls Tryd.prog 22 #[.string f, .func (.func 39) #[] #[.pointer (some ⟨w.heap.size, 0, none⟩)]] (w.alloc (.cells #[.slice a zs.length cap] 22)) fun e w' => e = .returned (seekV f (zs.find? fun r => matchB f r.s)) ∧ Below w.heap.size w w' := by
  have hb : Below w.heap.size w (w.alloc (.cells #[.slice a zs.length cap] 22)) := (Below.refl _ _).alloc (Nat.le_refl _) _
  have hC : ∀ k, (k = w.heap.size ∨ ∃ z, a = some z ∧ z.block = k) → k < (w.alloc (.cells #[.slice a zs.length cap] 22)).heap.size := fun k hk => by
    rw [World.size_alloc]
    rcases hk with rfl | ⟨z, e, rfl⟩
    · omega
    · have := ha z e; omega
  have hcell : (w.alloc (.cells #[.slice a zs.length cap] 22)).cell? ⟨w.heap.size, 0, none⟩ = some (.slice a zs.length cap) := by
    rw [cell_of_row _ w.heap.size 0 _ _ _ (heap_alloc_new w _)]; rfl
  refine (ftake_any f hf zs _ _ (fun k => k = w.heap.size ∨ ∃ z, a = some z ∧ z.block = k) _ hC (enters_of Tryd.func39 (by kernel_rfl) rfl) (fun W0 h0 => ?_)).mono ?_
  · have hs := below_stay h0 hC
    exact allR_stops Fence.wide 7 trivial rfl (by omega) w.heap.size (fun k => k = w.heap.size ∨ ∃ z, a = some z ∧ z.block = k) a zs cap (fun k hk => hz _ (rc_mem hk)) hlen (.inl rfl) (fun z e => .inr ⟨z, e, rfl⟩) W0 (fun k hk => Nat.lt_of_lt_of_le (hC k hk) h0.size) ((hs.cell (.inl rfl)).trans hcell) (hs.recs (hc.below hb) (fun z e => .inr ⟨z, e, rfl⟩))
  · rintro e w' ⟨he, h2⟩
    exact ⟨he, bstep hb h2⟩
theorem ArrR.blk {w : World} {B : Nat} {a : Option Addr} {n c : Nat} {l : List Rc} (h : ArrR w B (.slice a n c) l) : ∀ z, a = some z → z.block < w.heap.size := fun z e => by
  rcases h.2 with ⟨h1, _⟩ | ⟨g, cap, cur, h1, h2, h3, _⟩
  · obtain ⟨rfl, _, _⟩ := Value.slice.inj h1
    cases e
  · obtain ⟨rfl, _, _⟩ := Value.slice.inj h1
    cases e
    exact (Array.getElem?_eq_some_iff.1 h3).1

theorem seekV_shape (f : ByteArray) (o : Option Rc) : ∃ (y : Rc) (E : Int), seekV f o = .tuple #[.agg #[.int .i64 y.k, .int .i64 y.q, .int .i64 y.t, .string y.s, .string y.h, .string y.d], .int .i64 E] := by
  unfold seekV
  by_cases e : errS true f = 0
  · rw [if_pos e]
    cases o with
    | none => exact ⟨zeroR, 4, rfl⟩
    | some r => exact ⟨r, 0, rfl⟩
  · rw [if_neg e]
    exact ⟨zeroR, _, rfl⟩

set_option maxRecDepth 100000 in
set_option maxHeartbeats 1000000 in
theorem slast_any {w : World} {B q : Nat} {v u : Value} {l : List Rc} {es : List Ent} {last : Int} (f : ByteArray) (hf : f.size ≤ 140737488355328) (h : Sho w B q v u l es last) (h200 : l.length ≤ 200) (hm : ∀ x ∈ l, Small x) (hr : ∀ x ∈ l, errS false x.s = 0) :
    Calls Tryd.prog 14 #[.pointer (some ⟨q, 0, none⟩), .string f] w fun e w' => e = .returned (seekV f (lastO f l)) ∧ Below w.heap.size w w' := by
  obtain ⟨w0, hw0⟩ : ∃ w0, w0 = w.alloc (.cells #[.int .i64 0, .int .i64 0, .int .i64 0, .string ⟨#[]⟩, .string ⟨#[]⟩, .string ⟨#[]⟩] 26) := ⟨_, rfl⟩
  have hb0 : Below w.heap.size w w0 := by rw [hw0]; exact (Below.refl _ _).alloc (Nat.le_refl _) _
  have h0 := h.below hb0
  have Z0 : RF w0 w.heap.size zeroR := by rw [hw0]; exact RF.new w zeroR
  obtain ⟨a, cap, rfl, c1, c2, hsl⟩ := h0.msgs.shape
  have d0 := h.c0
  have hql := h.lt
  have P := hide (ftake_back f hf a l cap w0 hsl h0.msgs.blk hm (by omega))
  have HR := hide (seek_same (f := f) (zs := l.reverse) (o := lastO f l) (fun x hx => hr x (List.mem_reverse.1 hx)) (last_back f l))
  rw [unhide HR] at P
  obtain ⟨y, E, hy⟩ := seekV_shape f (lastO f l)
  rw [hy] at P ⊢
  have HZ := hide Z0
  have Hb0 := hide hb0
  clear h h0 hsl hm hr HR hy hb0 Z0
  go_enter Tryd.func14, Tryd.ntmps14
  go_wp2_with fail
  rw [← hw0]
  refine (backR_call a l.length cap _).mono ?_
  rintro e w1 ⟨rfl, rfl⟩
  clear hw0 d0
  go_wp2_with fail
  refine (unhide P).mono ?_
  rintro e w2 ⟨rfl, b2⟩
  have Z2 := hide ((unhide HZ).next b2)
  have B2 := hide (bstep (unhide Hb0) b2)
  obtain ⟨_, y0, y1, y2, y3, y4, y5, gz⟩ := (unhide Z2).rb
  have g0 := gz 0
  have g1 := gz 1
  have g2 := gz 2
  have g3 := gz 3
  have g4 := gz 4
  have g5 := gz 5
  clear gz b2 P HZ Hb0
  go_wp2_with fail
  refine bodyPost_ret (results_rec2 rfl rfl ((unhide Z2).rb.setAll y.k y.q y.t y.s y.h y.d)) rfl ?_
  exact ⟨rfl, set6_below (unhide B2) (Nat.le_refl _)⟩
theorem rc_drop (l : List Rc) (p k : Nat) : rc (l.drop p) k = rc l (p + k) := by unfold rc; rw [List.getElem?_drop]
set_option maxRecDepth 100000 in
set_option maxHeartbeats 1000000 in
theorem snext_any {w : World} {B q : Nat} {v u : Value} {l : List Rc} {es : List Ent} {last : Int} (f : ByteArray) (n : Int) (hf : f.size ≤ 140737488355328) (h : Sho w B q v u l es last) (hi : RiseQ l) (h200 : l.length ≤ 200) (hm : ∀ x ∈ l, Small x) (hr : ∀ x ∈ l, errS false x.s = 0) :
    Calls Tryd.prog 11 #[.pointer (some ⟨q, 0, none⟩), .string f, .int .i64 n] w fun e w' => e = .returned (seekV f (nextO f l n)) ∧ Below w.heap.size w w' := by
  obtain ⟨w0, hw0⟩ : ∃ w0, w0 = w.alloc (.cells #[.int .i64 0, .int .i64 0, .int .i64 0, .string ⟨#[]⟩, .string ⟨#[]⟩, .string ⟨#[]⟩] 26) := ⟨_, rfl⟩
  have hb0 : Below w.heap.size w w0 := by rw [hw0]; exact (Below.refl _ _).alloc (Nat.le_refl _) _
  have h0 := h.below hb0
  have Z0 : RF w0 w.heap.size zeroR := by rw [hw0]; exact RF.new w zeroR
  have PP := hide (splace_any n h0 hi h200)
  have HR := hide (seek_same (f := f) (zs := l.drop (pq l n)) (o := nextO f l n) (fun x hx => hr x (List.mem_of_mem_drop hx)) (nextO_drop hi f n))
  obtain ⟨y, E, hy⟩ := seekV_shape f (nextO f l n)
  have hpl := pq_le l n
  obtain ⟨p, hp⟩ : ∃ p, p = pq l n := ⟨_, rfl⟩
  rw [← hp] at PP HR hpl
  rw [hy] at HR ⊢
  have HZ := hide Z0
  have Hb0 := hide hb0
  have H0 := hide h0
  have HM := hide hm
  clear h0 hr hy hb0 Z0 hi hp hm
  by_cases hlt : p < l.length
  · obtain ⟨g, cap, rfl, c1, c2, c3, c4⟩ := h.msgs.there (by omega)
    unfold maxLen at c2
    have e1 : (p : Int) ≤ (l.length : Int) := by omega
    have e2 : ¬ cap = p := by omega
    have e3 : (0 : Int) ≤ (p : Int) := by omega
    clear h
    go_enter Tryd.func11, Tryd.ntmps11
    go_wp2_with fail
    rw [← hw0]
    refine (unhide PP).mono ?_
    rintro e w1 ⟨rfl, b1⟩
    have h1 := (unhide H0).below b1
    have d0 := h1.c0
    have hsl : SlR w1 (some ⟨g, p * 6, none⟩) (l.drop p) := fun k hk => by
      rw [List.length_drop] at hk
      have s6 := h1.msgs.six (k := p + k) (by omega)
      refine ⟨g, p * 6, rfl, ?_⟩
      rw [rc_drop, show p * 6 + k * 6 = (p + k) * 6 by omega]
      exact s6
    have P := hide (ftake_all f hf (some ⟨g, p * 6, none⟩) (l.drop p) (cap - p) w1 hsl (fun z e => by cases e; exact (h1.msgs.lt g rfl).2) (fun x hx => unhide HM x (List.mem_of_mem_drop hx)) (by rw [List.length_drop]; omega))
    rw [unhide HR, List.length_drop] at P
    have Z1 := hide ((unhide HZ).next b1)
    have B1 := hide (bstep (unhide Hb0) b1)
    clear hw0 b1 PP H0 HZ Hb0 h1 hsl HR HM
    go_wp2_with fail
    refine (allR_call _ _ _ _).mono ?_
    rintro e w2 ⟨rfl, rfl⟩
    go_wp2_with fail
    refine (unhide P).mono ?_
    rintro e w2 ⟨rfl, b2⟩
    have Z2 := hide ((unhide Z1).next b2)
    have B2 := hide (bstep (unhide B1) b2)
    obtain ⟨_, y0, y1, y2, y3, y4, y5, gz⟩ := (unhide Z2).rb
    have g0 := gz 0
    have g1 := gz 1
    have g2 := gz 2
    have g3 := gz 3
    have g4 := gz 4
    have g5 := gz 5
    clear gz b2 P Z1 B1 d0
    go_wp2_with fail
    refine bodyPost_ret (results_rec2 rfl rfl ((unhide Z2).rb.setAll y.k y.q y.t y.s y.h y.d)) rfl ?_
    exact ⟨rfl, set6_below (unhide B2) (Nat.le_refl _)⟩
  · have hpe : p = l.length := by omega
    have hde : l.drop p = [] := List.drop_of_length_le (by omega)
    subst hpe
    obtain ⟨a, cap, rfl, c1, c2, _⟩ := h.msgs.shape
    unfold maxLen at c2
    have hbk := h.msgs.blk
    have P : Hid (∀ a' c' w1, (∀ z, a' = some z → z.block < w1.heap.size) → Calls Tryd.prog 22 #[.string f, .func (.func 39) #[] #[.pointer (some ⟨w1.heap.size, 0, none⟩)]] (w1.alloc (.cells #[.slice a' 0 c'] 22)) fun e w' => e = .returned (.tuple #[.agg #[.int .i64 y.k, .int .i64 y.q, .int .i64 y.t, .string y.s, .string y.h, .string y.d], .int .i64 E]) ∧ Below w1.heap.size w1 w') := hide (fun a' c' w1 hz => by
      have := ftake_all f hf a' [] c' w1 (fun k hk => by cases hk) hz (fun x hx => by cases hx) (by simp)
      rw [← hde, unhide HR] at this
      rw [hde] at this
      exact this)
    clear h hlt
    go_enter Tryd.func11, Tryd.ntmps11
    go_wp2_with fail
    rw [← hw0]
    refine (unhide PP).mono ?_
    rintro e w1 ⟨rfl, b1⟩
    have d0 := ((unhide H0).below b1).c0
    have Z1 := hide ((unhide HZ).next b1)
    have B1 := hide (bstep (unhide Hb0) b1)
    have HK : Hid (∀ z, a = some z → z.block < w1.heap.size) := hide (fun z e => Nat.lt_of_lt_of_le (hbk z e) (unhide B1).size)
    have HK2 : Hid (∀ z, Option.map (fun x : Addr => x.add (l.length * 6)) a = some z → z.block < w1.heap.size) := hide (fun z e => by
      cases a with
      | none => cases e
      | some x =>
        have e : x.add (l.length * 6) = z := by simpa using e
        rw [← e]
        have : (x.add (l.length * 6)).block = x.block := by unfold Addr.add; split <;> rfl
        rw [this]
        exact unhide HK x rfl)
    clear hw0 b1 PP H0 HZ Hb0 HR HM hbk
    go_wp2_with fail
    all_goals
      refine (allR_call _ _ _ _).mono ?_
      rintro e w2 ⟨rfl, rfl⟩
      go_wp2_with fail
      refine (unhide P _ _ _ (by first | exact unhide HK | exact unhide HK2)).mono ?_
      rintro e w2 ⟨rfl, b2⟩
      have Z2 := hide ((unhide Z1).next b2)
      have B2 := hide (bstep (unhide B1) b2)
      obtain ⟨_, y0, y1, y2, y3, y4, y5, gz⟩ := (unhide Z2).rb
      have g0 := gz 0
      have g1 := gz 1
      have g2 := gz 2
      have g3 := gz 3
      have g4 := gz 4
      have g5 := gz 5
      clear gz b2 P Z1 B1 d0
      go_wp2_with fail
      refine bodyPost_ret (results_rec2 rfl rfl ((unhide Z2).rb.setAll y.k y.q y.t y.s y.h y.d)) rfl ?_
      exact ⟨rfl, set6_below (unhide B2) (Nat.le_refl _)⟩
end Go.Proofs.YtcdajajekmichafDoor.Dk
