/-
  The program's stream: Crash.
  The program's stream does what is asked of a stream.
  A plan that is handed in by value: a struct of ten fields of one cell each, opened; its filters. No walk.
  A struct of six fields of one cell each, by value: opened and shut. No program.
-/
import Derived.Test.YtmccpkpeimejhahGreatDoorJointOsAOsCOsKOsK2
import Derived.Test.YtmccpkpeimejhahGreatDoorJointOv2OsOOsO2Ov6
import Derived.Test.YtmccpkpeimejhahGreatDoorJointOsQRowPtRowPuOsN
import Derived.Lib.SmallJoins
import Derived.OpenShut
import Derived.SizedLaws
import Derived.Deep.Strs
import Derived.Test.YtmccpkpeimejhahGreatDoorJointRowPlRowPsPapPcPapPe
namespace Go.Proofs.YtmccpkpeimejhahGreatDoor.Dk
open Go.RowKit

section
variable {Has : World → Nat → Nat → (Nat → Prop) → Int → List Pap → Prop} {SH : World → Nat → Nat → (Nat → Prop) → Sto → Prop} {F0 Cs : Nat → Prop} {w wr w' : World} {B x : Nat} {a : Option Addr} {c : Nat} {mb : Option Nat} {P : Pn.Pln} {m size : Int} {st : Str}
/-- the ids are forgotten -/
theorem Rst.forgets (U : Und Has SH) (h : Rst Has SH F0 Cs w wr B x a c mb P m size st) (hl : 0 ≤ st.s.last) : Rst Has SH F0 Cs w (wr.setCell ⟨x, 14, none⟩ (.map none)) B x a c none P m size ⟨st.es, st.s, []⟩ ∧ Stay Cs wr (wr.setCell ⟨x, 14, none⟩ (.map none)) := by
  have hr := h.room
  obtain ⟨FV, h1, h2, h3, h4⟩ := h
  have hx := h1.vault.blk
  have e : mids P [] = [] := by unfold mids; split <;> rfl
  have cs : Chg (fun k => k = x) wr (wr.setCell ⟨x, 14, none⟩ (.map none)) := (Chg.refl _ _).setCell (A := fun k => k = x) (p := ⟨x, 14, none⟩) (.inl rfl) _
  refine ⟨⟨FV, h1.put U.H U.S (by rw [e]; exact KMap.none _) (fun b hb => (by cases hb)) (by rw [e]; exact Lasts.nil) (by simpa using hl), chg_more h2 cs (fun i hi z => ?_), fun k hk' => ?_, fun k hk' => ?_⟩, cs.size, fun k hk' => ?_⟩
  · subst z
    rcases h3 _ (.inl hx.1) with y | y
    · exact y
    · omega
  · rcases hk' with z | z | z
    · exact h3 k (.inl z)
    · exact h3 k (.inr (.inl z))
    · cases z
  · have hc := h4 k hk'
    refine ⟨Nat.lt_of_lt_of_le hc.1 cs.size, fun z => ?_⟩
    rcases z with z | z | z
    · exact hc.2 (.inl z)
    · exact hc.2 (.inr (.inl z))
    · cases z
  · have hc := h4 k hk'
    exact cs.block k hc.1 (fun z => hc.2 (.inl (z ▸ hx.1)))

set_option maxRecDepth 100000 in
set_option maxHeartbeats 1000000 in
theorem tcrash_any (U : Und Has SH) (h : Rst Has SH F0 Cs w wr B x a c mb P m size st) (hf : Fit P m size st) (hB : B ≤ w.heap.size) (keep : Int) :
    Calls Tryz.prog 13 #[.pointer (some ⟨x, 0, none⟩), .int .i64 keep] wr fun e w' => e = .returned (.tuple #[]) ∧ Rst Has SH F0 Cs w w' B x a c none P m size ⟨st.es, st.s, []⟩ ∧ Stay Cs wr w' := by
  have PC := hide (h.did (es' := st.es) (s' := st.s) (Int.le_refl _) (Q := fun e _ => e = .returned (.tuple #[])) (fun _ hv => vcrash_any U.H U.L U.S keep hv hf.vok hf.room hf.size (Nat.le_trans hB h.room)))
  have HL := hide hf.vok.ok.last.1
  clear h hf
  go_enter Tryz.func13, Tryz.ntmps13
  go_wp2_with fail
  refine (unhide PC).mono ?_
  rintro e w1 ⟨rfl, r1, s1⟩
  have c14 := r1.ids.1
  have f14 := r1.ids.2
  have hx := r1.lt
  have HE := hide (show Rst Has SH F0 Cs w (w1.setCell ⟨x, 14, none⟩ (.map none)) B x a c none P m size ⟨st.es, st.s, []⟩ ∧ Stay Cs wr (w1.setCell ⟨x, 14, none⟩ (.map none)) from ⟨(r1.forgets U (unhide HL)).1, s1.trans (r1.forgets U (unhide HL)).2⟩)
  clear PC r1 s1
  go_wp2_with fail
  go_end0
  exact ⟨rfl, unhide HE⟩
end
end Go.Proofs.YtmccpkpeimejhahGreatDoor.Dk

namespace Go.Proofs.YtmccpkpeimejhahGreatDoor.Dk
open Go.RowKit

/-- the program's stream, from a block on that may lie lower -/
def RHx (Has : World → Nat → Nat → (Nat → Prop) → Int → List Pap → Prop) (SH : World → Nat → Nat → (Nat → Prop) → Sto → Prop) (w : World) (B x : Nat) (F : Nat → Prop) (P : Pn.Pln) (m size : Int) (st : Str) : Prop := ∃ B0, B ≤ B0 ∧ B0 ≤ w.heap.size ∧ RHof Has SH w B0 x F P m size st
section
variable {Has : World → Nat → Nat → (Nat → Prop) → Int → List Pap → Prop} {SH : World → Nat → Nat → (Nat → Prop) → Sto → Prop} {w w' : World} {B B0 x : Nat} {F : Nat → Prop} {P : Pn.Pln} {m size : Int} {st st' : Str}
theorem RHx.did (h : DidR (RHof Has SH) w w' B0 x F P m size st') (hB : B ≤ B0) (hw : B0 ≤ w.heap.size) : DidR (RHx Has SH) w w' B x F P m size st' := by
  obtain ⟨F', h1, h2, h3⟩ := h
  exact ⟨F', ⟨B0, hB, Nat.le_trans hw h2.size, h1⟩, h2, h3⟩

set_option maxRecDepth 100000 in
set_option maxHeartbeats 1000000 in
theorem rstore_any (h : RHof Has SH w B x F P m size st) :
    Calls Tryz.prog 9 #[.pointer (some ⟨x, 0, none⟩)] w fun e w' => ∃ q G, e = .returned (.pointer (some ⟨q, 0, none⟩)) ∧ SH w' B q G st.s ∧ (∀ k, G k → F k) ∧ Below w.heap.size w w' := by
  obtain ⟨FV, a, c, mb, h1, h2⟩ := h
  have P1 := hide (vstore_any h1.vault)
  have HF := hide (fun k (hk : FV k) => (h2 k).2 (.inl hk))
  clear h1 h2
  go_enter Tryz.func9, Tryz.ntmps9
  go_wp2_with fail
  refine (unhide P1).mono ?_
  rintro e w1 ⟨q, G, rfl, h1, h2, b1⟩
  have B1 := hide (show SH w1 B q G st.s ∧ (∀ k, G k → F k) ∧ Below w.heap.size w w1 from ⟨h1, fun k hk => unhide HF k (h2 k hk), b1⟩)
  clear P1 h1 h2 b1
  go_wp2_with fail
  go_ret
  exact ⟨q, G, rfl, unhide B1⟩
theorem rworks_of (U : Und Has SH) (N : News Has) (T : STells SH) (V : SWorks SH) : RWorks BndIs (RHx Has SH) SH where
  own := fun h k hk => by
    obtain ⟨B0, h1, _, FV, a, c, mb, h3, h4⟩ := h
    have := h3.own U.H U.S k ((h4 k).1 hk)
    exact ⟨Nat.le_trans h1 this.1, this.2⟩
  chg := fun h hc hn => by
    obtain ⟨B0, h1, h2, FV, a, c, mb, h3, h4⟩ := h
    exact ⟨B0, h1, Nat.le_trans h2 hc.size, FV, a, c, mb, h3.chg U.H U.S hc (fun k hk => hn k ((h4 k).2 hk)), h4⟩
  wrong := fun w P a c m size hs hsl hc hG hp => tnew_wrong w P a c m size hs hsl hc hG hp
  bad := fun w P a c m size hs hsl hc hG hp hb => tnew_bad N w P a c m size hs hsl hc hG hp hb
  good := fun w P a c m size hs hsl hc hG hp hm hz => (tnew_good U N w P a c m size hs hsl hc hG hp hm hz).mono (by
    rintro e w' ⟨p, F, B0, he, ⟨h1, h2, h3⟩, hb⟩
    exact ⟨p, F, he, ⟨B0, h1, h2, h3⟩, hb⟩)
  publish := fun now x hx h hf _ => by
    obtain ⟨B0, h1, h2, h3⟩ := h
    obtain ⟨a, c, mb, r, hfin⟩ := h3.begin
    refine (publish_any U T V r hf h2 now x hx).mono ?_
    rintro e w' ⟨he, ⟨mb', r'⟩, _⟩
    exact ⟨he, RHx.did (hfin _ _ _ _ r') h1 h2⟩
  store := fun h _ _ => by
    obtain ⟨B0, h1, h2, h3⟩ := h
    refine (rstore_any h3).mono ?_
    rintro e w' ⟨q, G, he, hs, hg, hb⟩
    exact ⟨q, G, he, U.S.low hs h1, hg, hb⟩
theorem rstops_of (U : Und Has SH) : RStops (RHx Has SH) where
  crash := fun keep h hf _ => by (obtain ⟨B0, h1, h2, h3⟩ := h; obtain ⟨a, c, mb, r, hfin⟩ := h3.begin; refine (tcrash_any U r hf h2 keep).mono ?_; rintro e w' ⟨he, r', _⟩; exact ⟨he, RHx.did (hfin _ _ _ _ r') h1 h2⟩)
  true' := trivial
end
end Go.Proofs.YtmccpkpeimejhahGreatDoor.Dk

namespace Go.Proofs.YtmccpkpeimejhahGreatDoor
open Go.Joins Go.Deep Go.WideShapes Go.ChangeShapes Go.ChangeAt Go.RowKit

section
variable {H : Type} {enc : TypeId × Value → H} {P : Program} {w : World} {base : Nat} {spare : Nat → Bool} {held : Bool}

theorem array10 {α : Type} {cs : Array α} (h : cs.size = 10) : ∃ c0 c1 c2 c3 c4 c5 c6 c7 c8 c9, cs = #[c0, c1, c2, c3, c4, c5, c6, c7, c8, c9] := by
  obtain ⟨l⟩ := cs
  match l, h with
  | [c0, c1, c2, c3, c4, c5, c6, c7, c8, c9], _ => exact ⟨c0, c1, c2, c3, c4, c5, c6, c7, c8, c9, rfl⟩
theorem trod_struct10 {t : TypeId} {f0 f1 f2 f3 f4 f5 f6 f7 f8 f9 : Field} {fuel : Nat} {cs : List Value} {x : DataW H × List MemPlace} (ht : P.underlying t = some (.struct #[f0, f1, f2, f3, f4, f5, f6, f7, f8, f9])) (h : DataW.trod enc P w base spare held fuel t cs = some x) :
    ∃ y0 y1 y2 y3 y4 y5 y6 y7 y8 y9 n, x = (.agg [y0.1, y1.1, y2.1, y3.1, y4.1, y5.1, y6.1, y7.1, y8.1, y9.1], y0.2 ++ (y1.2 ++ (y2.2 ++ (y3.2 ++ (y4.2 ++ (y5.2 ++ (y6.2 ++ (y7.2 ++ (y8.2 ++ (y9.2)))))))))) ∧ DataW.trod enc P w base spare held n f0.type ((cs.drop f0.offset).take (P.cellsOf f0.type)) = some y0 ∧ DataW.trod enc P w base spare held n f1.type ((cs.drop f1.offset).take (P.cellsOf f1.type)) = some y1 ∧ DataW.trod enc P w base spare held n f2.type ((cs.drop f2.offset).take (P.cellsOf f2.type)) = some y2 ∧ DataW.trod enc P w base spare held n f3.type ((cs.drop f3.offset).take (P.cellsOf f3.type)) = some y3 ∧ DataW.trod enc P w base spare held n f4.type ((cs.drop f4.offset).take (P.cellsOf f4.type)) = some y4 ∧ DataW.trod enc P w base spare held n f5.type ((cs.drop f5.offset).take (P.cellsOf f5.type)) = some y5 ∧ DataW.trod enc P w base spare held n f6.type ((cs.drop f6.offset).take (P.cellsOf f6.type)) = some y6 ∧ DataW.trod enc P w base spare held n f7.type ((cs.drop f7.offset).take (P.cellsOf f7.type)) = some y7 ∧ DataW.trod enc P w base spare held n f8.type ((cs.drop f8.offset).take (P.cellsOf f8.type)) = some y8 ∧ DataW.trod enc P w base spare held n f9.type ((cs.drop f9.offset).take (P.cellsOf f9.type)) = some y9 := by
  obtain ⟨xs, n, _, rfl, hl, hlen, hf⟩ := DataW.trod_struct ht h
  match xs, hlen with
  | [y0, y1, y2, y3, y4, y5, y6, y7, y8, y9], _ => exact ⟨y0, y1, y2, y3, y4, y5, y6, y7, y8, y9, n, by simp, by simpa using hf 0 f0 rfl, by simpa using hf 1 f1 rfl, by simpa using hf 2 f2 rfl, by simpa using hf 3 f3 rfl, by simpa using hf 4 f4 rfl, by simpa using hf 5 f5 rfl, by simpa using hf 6 f6 rfl, by simpa using hf 7 f7 rfl, by simpa using hf 8 f8 rfl, by simpa using hf 9 f9 rfl⟩
theorem open_agg10 {r : Reach} {b0 : Nat} {t : TypeId} {f0 f1 f2 f3 f4 f5 f6 f7 f8 f9 : Field} {v : Value} {d : DataW H} {p : List MemPlace} (hs : P.underlying t = some (.struct #[f0, f1, f2, f3, f4, f5, f6, f7, f8, f9])) (hone : oneCellFields P #[f0, f1, f2, f3, f4, f5, f6, f7, f8, f9] = true) (hC : P.cellsOf t = 10)
    (hv : Value.okWide P w r b0 t v) (h : DataW.Trod enc P w base spare held t v d p) :
    ∃ (v0 v1 v2 v3 v4 v5 v6 v7 v8 v9 : Value) (y0 y1 y2 y3 y4 y5 y6 y7 y8 y9 : DataW H × List MemPlace) (n : Nat), v = .agg #[v0, v1, v2, v3, v4, v5, v6, v7, v8, v9] ∧ d = .agg [y0.1, y1.1, y2.1, y3.1, y4.1, y5.1, y6.1, y7.1, y8.1, y9.1] ∧ DataW.trod enc P w base spare held n f0.type [v0] = some y0 ∧ DataW.trod enc P w base spare held n f1.type [v1] = some y1 ∧ DataW.trod enc P w base spare held n f2.type [v2] = some y2 ∧ DataW.trod enc P w base spare held n f3.type [v3] = some y3 ∧ DataW.trod enc P w base spare held n f4.type [v4] = some y4 ∧ DataW.trod enc P w base spare held n f5.type [v5] = some y5 ∧ DataW.trod enc P w base spare held n f6.type [v6] = some y6 ∧ DataW.trod enc P w base spare held n f7.type [v7] = some y7 ∧ DataW.trod enc P w base spare held n f8.type [v8] = some y8 ∧ DataW.trod enc P w base spare held n f9.type [v9] = some y9 := by
  obtain ⟨cs, rfl, hsz⟩ := okWide_struct hs hv
  obtain ⟨c0, c1, c2, c3, c4, c5, c6, c7, c8, c9, rfl⟩ := array10 (hsz.trans hC)
  obtain ⟨fuel, hf⟩ := h
  obtain ⟨y0, y1, y2, y3, y4, y5, y6, y7, y8, y9, n, hx, h0, h1, h2, h3, h4, h5, h6, h7, h8, h9⟩ := trod_struct10 hs hf
  obtain ⟨o0, k0⟩ := hone_of hone 0 f0 rfl
  obtain ⟨o1, k1⟩ := hone_of hone 1 f1 rfl
  obtain ⟨o2, k2⟩ := hone_of hone 2 f2 rfl
  obtain ⟨o3, k3⟩ := hone_of hone 3 f3 rfl
  obtain ⟨o4, k4⟩ := hone_of hone 4 f4 rfl
  obtain ⟨o5, k5⟩ := hone_of hone 5 f5 rfl
  obtain ⟨o6, k6⟩ := hone_of hone 6 f6 rfl
  obtain ⟨o7, k7⟩ := hone_of hone 7 f7 rfl
  obtain ⟨o8, k8⟩ := hone_of hone 8 f8 rfl
  obtain ⟨o9, k9⟩ := hone_of hone 9 f9 rfl
  simp only [Prod.mk.injEq] at hx
  exact ⟨c0, c1, c2, c3, c4, c5, c6, c7, c8, c9, y0, y1, y2, y3, y4, y5, y6, y7, y8, y9, n, rfl, hx.1, by simpa [Value.cells, o0, k0] using h0, by simpa [Value.cells, o1, k1] using h1, by simpa [Value.cells, o2, k2] using h2, by simpa [Value.cells, o3, k3] using h3, by simpa [Value.cells, o4, k4] using h4, by simpa [Value.cells, o5, k5] using h5, by simpa [Value.cells, o6, k6] using h6, by simpa [Value.cells, o7, k7] using h7, by simpa [Value.cells, o8, k8] using h8, by simpa [Value.cells, o9, k9] using h9⟩
theorem weights_in {P : Program} {e : TypeId} {d : DataW H} {x : Nat} (hx : x ∈ d.weights P e) : ∀ {l : List (DataW H)}, d ∈ l → x ∈ DataW.weightsAll P e l
  | a :: r, h => by
    simp only [DataW.weightsAll, List.mem_append]
    rcases List.mem_cons.1 h with q | q
    · subst q; exact .inl hx
    · exact .inr (weights_in hx q)
end
theorem cellsS1 : Tryz.prog.cellsOf 9 = 1 := by kernel_rfl
theorem bytesS : Tryz.prog.bytesOf 9 = 16 := by kernel_rfl
theorem cellsP : Tryz.prog.cellsOf 24 = 10 := by kernel_rfl
theorem tk_range (f : Nat → ByteArray) {n k : Nat} (h : k < n) : tk ((List.range n).map f) k = f k := by unfold tk; simp [h]

set_option maxRecDepth 100000 in
set_option maxHeartbeats 1000000 in
/-- what a plan that is handed in is -/
theorem open_plan {H : Type} {enc : TypeId × Value → H} {W : World} {base : Nat} {v : Value} {d : DataW H} {p : List MemPlace} (hv : Value.okWide Tryz.prog W .any base 24 v) (h : DataW.Trod enc Tryz.prog W 0 (fun _ => true) true 24 v d p) (hw : ∀ x ∈ DataW.weights Tryz.prog 24 d, x ≤ reachBytes) :
    ∃ (n : ByteArray) (a : Option Addr) (l : List ByteArray) (c : Nat) (x0 x1 x2 x3 x4 x5 x6 x7 : Int), v = planV n a l.length c x0 x1 x2 x3 x4 x5 x6 x7 ∧ n.size ≤ 140737488355328 ∧ SlS W a l ∧ (∀ k, k < l.length → (tk l k).size ≤ 140737488355328) ∧ l.length ≤ 140737488355328 ∧ l.length ≤ c := by
  obtain ⟨u0, u1, u2, u3, u4, u5, u6, u7, u8, u9, y0, y1, y2, y3, y4, y5, y6, y7, y8, y9, m, rfl, hd, g0, g1, g2, g3, g4, g5, g6, g7, g8, g9⟩ := open_agg10 Tryz.underlying24 (by kernel_rfl) cellsP hv h
  obtain ⟨n, e0, q0, _⟩ := DataW.trod_string Tryz.underlying9 g0
  obtain ⟨x0, e2, q2, _⟩ := DataW.trod_int Tryz.underlying3 g2
  obtain ⟨x1, e3, q3, _⟩ := DataW.trod_int Tryz.underlying3 g3
  obtain ⟨x2, e4, q4, _⟩ := DataW.trod_int Tryz.underlying3 g4
  obtain ⟨x3, e5, q5, _⟩ := DataW.trod_int Tryz.underlying3 g5
  obtain ⟨x4, e6, q6, _⟩ := DataW.trod_int Tryz.underlying3 g6
  obtain ⟨x5, e7, q7, _⟩ := DataW.trod_int Tryz.underlying3 g7
  obtain ⟨x6, e8, q8, _⟩ := DataW.trod_int Tryz.underlying3 g8
  obtain ⟨x7, e9, q9, _⟩ := DataW.trod_int Tryz.underlying3 g9
  simp only [List.cons.injEq, and_true] at e0 e2 e3 e4 e5 e6 e7 e8 e9
  subst e0 e2 e3 e4 e5 e6 e7 e8 e9
  rcases open_strs Tryz.underlying22 Tryz.underlying9 cellsS1 g1 with ⟨hcs, hx⟩ | ⟨a, len, cap, mm, Sx, hcs, hb, hl, hm, hmm, hx, hel⟩
  · simp only [List.cons.injEq, and_true] at hcs
    subst hcs
    have hz : n.size ≤ 140737488355328 := by
      have h := hw n.data.toList.length (by rw [hd, q0]; simp [DataW.weights, DataW.weightsEach, Tryz.underlying24])
      have e : n.data.toList.length = n.size := by simp
      unfold reachBytes at h
      omega
    exact ⟨n, none, [], 0, x0, x1, x2, x3, x4, x5, x6, x7, rfl, hz, fun k hk => by simp at hk, fun k hk => by simp at hk, by simp, by simp⟩
  · simp only [List.cons.injEq, and_true] at hcs
    subst hcs
    have hx1 : y1.1 = DataW.slice ((List.range len).map fun i => .lit (.string (Sx i).data.toList)) ((List.range (mm - len)).map fun j => .lit (.string (Sx (len + j)).data.toList)) := by rw [hx]
    have hz : n.size ≤ 140737488355328 := by
      have h := hw n.data.toList.length (by rw [hd, q0]; simp [DataW.weights, DataW.weightsEach, Tryz.underlying24])
      have e : n.data.toList.length = n.size := by simp
      unfold reachBytes at h
      omega
    have hlm : len ≤ mm := by rw [hmm]; split <;> omega
    have hsub : ∀ y ∈ DataW.weights (H := H) Tryz.prog 22 y1.1, y ≤ reachBytes := fun y hy => hw y (by
      rw [hd]
      simp only [DataW.weights, Tryz.underlying24]
      simp only [List.map_cons, List.map_nil]
      exact DataW.weights_mem_each (j := 1) rfl rfl _ hy)
    obtain ⟨bm, om, spot⟩ := a
    have hspot : len = 0 ∨ spot = none := by
      by_cases h0 : len = 0
      · exact .inl h0
      · right
        simpa [Addr.add] using World.cell?_spot (hel 0 (by omega)).1
    rcases hspot with h0 | rfl
    · subst h0
      exact ⟨n, some ⟨bm, om, spot⟩, [], cap, x0, x1, x2, x3, x4, x5, x6, x7, rfl, hz, fun k hk => by simp at hk, fun k hk => by simp at hk, by simp, by simp⟩
    · refine ⟨n, some ⟨bm, om, none⟩, (List.range len).map Sx, cap, x0, x1, x2, x3, x4, x5, x6, x7, by simp, hz, fun k hk => ?_, fun k hk => ?_, ?_, by simpa using hl⟩
      · have hk' : k < len := by simpa using hk
        have f0 := (hel k (by omega)).1
        simp only [add_plain] at f0
        exact ⟨bm, om, rfl, World.block_lt_of_cell? _ _ f0, by rw [tk_range Sx hk']; exact f0⟩
      · have hk' : k < len := by simpa using hk
        rw [tk_range Sx hk']
        have hle := hsub (Sx k).data.toList.length (by
          rw [hx1]
          simp only [DataW.weights, Tryz.underlying22, List.mem_cons, List.mem_append]
          refine .inr (.inl (weights_in (d := .lit (.string (Sx k).data.toList)) ?_ (List.mem_map.2 ⟨k, List.mem_range.2 hk', rfl⟩)))
          simp [DataW.weights])
        have e : (Sx k).data.toList.length = (Sx k).size := by simp
        unfold reachBytes at hle
        omega
      · simp only [List.length_map, List.length_range]
        have hh := hsub ((len + (mm - len)) * Tryz.prog.bytesOf 9) (by rw [hx1]; simp [DataW.weights, Tryz.underlying22])
        rw [bytesS] at hh
        unfold reachBytes at hh
        omega
end Go.Proofs.YtmccpkpeimejhahGreatDoor

namespace Go.Proofs.YtmccpkpeimejhahGreatDoor
open Go.Joins Go.Deep Go.WideShapes

section
variable {H : Type} {enc : TypeId × Value → H} {P : Program} {w : World} {base : Nat} {spare : Nat → Bool} {held : Bool}

theorem array6 {α : Type} {cs : Array α} (h : cs.size = 6) : ∃ c0 c1 c2 c3 c4 c5, cs = #[c0, c1, c2, c3, c4, c5] := by
  obtain ⟨l⟩ := cs
  match l, h with
  | [c0, c1, c2, c3, c4, c5], _ => exact ⟨c0, c1, c2, c3, c4, c5, rfl⟩
theorem trod_struct6 {t : TypeId} {f0 f1 f2 f3 f4 f5 : Field} {fuel : Nat} {cs : List Value} {x : DataW H × List MemPlace} (ht : P.underlying t = some (.struct #[f0, f1, f2, f3, f4, f5])) (h : DataW.trod enc P w base spare held fuel t cs = some x) :
    ∃ y0 y1 y2 y3 y4 y5 n, x = (.agg [y0.1, y1.1, y2.1, y3.1, y4.1, y5.1], y0.2 ++ (y1.2 ++ (y2.2 ++ (y3.2 ++ (y4.2 ++ y5.2))))) ∧ DataW.trod enc P w base spare held n f0.type ((cs.drop f0.offset).take (P.cellsOf f0.type)) = some y0 ∧
      DataW.trod enc P w base spare held n f1.type ((cs.drop f1.offset).take (P.cellsOf f1.type)) = some y1 ∧ DataW.trod enc P w base spare held n f2.type ((cs.drop f2.offset).take (P.cellsOf f2.type)) = some y2 ∧
      DataW.trod enc P w base spare held n f3.type ((cs.drop f3.offset).take (P.cellsOf f3.type)) = some y3 ∧ DataW.trod enc P w base spare held n f4.type ((cs.drop f4.offset).take (P.cellsOf f4.type)) = some y4 ∧
      DataW.trod enc P w base spare held n f5.type ((cs.drop f5.offset).take (P.cellsOf f5.type)) = some y5 := by
  obtain ⟨xs, n, _, rfl, hl, hlen, hf⟩ := DataW.trod_struct ht h
  match xs, hlen with
  | [y0, y1, y2, y3, y4, y5], _ => exact ⟨y0, y1, y2, y3, y4, y5, n, by simp, by simpa using hf 0 f0 rfl, by simpa using hf 1 f1 rfl, by simpa using hf 2 f2 rfl, by simpa using hf 3 f3 rfl, by simpa using hf 4 f4 rfl, by simpa using hf 5 f5 rfl⟩
theorem open_agg6 {r : Reach} {b0 : Nat} {t : TypeId} {f0 f1 f2 f3 f4 f5 : Field} {v : Value} {d : DataW H} {p : List MemPlace} (hs : P.underlying t = some (.struct #[f0, f1, f2, f3, f4, f5])) (hone : oneCellFields P #[f0, f1, f2, f3, f4, f5] = true) (hC : P.cellsOf t = 6)
    (hv : Value.okWide P w r b0 t v) (h : DataW.Trod enc P w base spare held t v d p) :
    ∃ (v0 v1 v2 v3 v4 v5 : Value) (y0 y1 y2 y3 y4 y5 : DataW H × List MemPlace) (n : Nat), v = .agg #[v0, v1, v2, v3, v4, v5] ∧ d = .agg [y0.1, y1.1, y2.1, y3.1, y4.1, y5.1] ∧ p = y0.2 ++ (y1.2 ++ (y2.2 ++ (y3.2 ++ (y4.2 ++ y5.2)))) ∧
      DataW.trod enc P w base spare held n f0.type [v0] = some y0 ∧ DataW.trod enc P w base spare held n f1.type [v1] = some y1 ∧ DataW.trod enc P w base spare held n f2.type [v2] = some y2 ∧
      DataW.trod enc P w base spare held n f3.type [v3] = some y3 ∧ DataW.trod enc P w base spare held n f4.type [v4] = some y4 ∧ DataW.trod enc P w base spare held n f5.type [v5] = some y5 := by
  obtain ⟨cs, rfl, hsz⟩ := okWide_struct hs hv
  obtain ⟨c0, c1, c2, c3, c4, c5, rfl⟩ := array6 (hsz.trans hC)
  obtain ⟨fuel, hf⟩ := h
  obtain ⟨y0, y1, y2, y3, y4, y5, n, hx, h0, h1, h2, h3, h4, h5⟩ := trod_struct6 hs hf
  obtain ⟨o0, k0⟩ := hone_of hone 0 f0 rfl
  obtain ⟨o1, k1⟩ := hone_of hone 1 f1 rfl
  obtain ⟨o2, k2⟩ := hone_of hone 2 f2 rfl
  obtain ⟨o3, k3⟩ := hone_of hone 3 f3 rfl
  obtain ⟨o4, k4⟩ := hone_of hone 4 f4 rfl
  obtain ⟨o5, k5⟩ := hone_of hone 5 f5 rfl
  simp only [Prod.mk.injEq] at hx
  exact ⟨c0, c1, c2, c3, c4, c5, y0, y1, y2, y3, y4, y5, n, rfl, hx.1, hx.2, by simpa [Value.cells, o0, k0] using h0, by simpa [Value.cells, o1, k1] using h1, by simpa [Value.cells, o2, k2] using h2, by simpa [Value.cells, o3, k3] using h3, by simpa [Value.cells, o4, k4] using h4, by simpa [Value.cells, o5, k5] using h5⟩
end
end Go.Proofs.YtmccpkpeimejhahGreatDoor
