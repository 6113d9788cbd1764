/-
  Contracts of the document's own answers: rillref.takes and Takes.
  Contracts of the document's own answers: rillref.overlap, covers, Overlap, Covers.
-/
import Derived.Test.YtohjipnkoiifhabDoorJointPlain2Plain5PlainK
import Derived.Test.YtohjipnkoiifhabDoorWalk4
namespace Go.Proofs.YtohjipnkoiifhabDoor
open Go.RowKit

/-- a slice's address leads to a row of these strings (where there is one) -/
def At (w : World) (a : Option Addr) (l : List ByteArray) : Prop := l ≠ [] → ∃ b o, a = some ⟨b, o, none⟩ ∧ Row w b o l
theorem At.drewN {w : World} {a : Option Addr} {l : List ByteArray} (h : At w a l) (n : Nat) : At (w.drewN n) a l := h
/-- where 's[1:]' leads -/
def tl (b o c : Nat) : Option Addr := if c = 1 then some ⟨b, o, none⟩ else some ⟨b, o + 1, none⟩
theorem At.head {w : World} {a : Option Addr} {x : ByteArray} {l : List ByteArray} (h : At w a (x :: l)) : ∃ b o, a = some ⟨b, o, none⟩ ∧ w.cell? ⟨b, o, none⟩ = some (.string x) ∧ ∀ c, l.length + 1 ≤ c → At w (tl b o c) l := by
  obtain ⟨b, o, rfl, hr⟩ := h (by simp)
  refine ⟨b, o, rfl, hr 0 (by simp), fun c hc hne => ?_⟩
  have : l.length ≠ 0 := fun e => hne (List.length_eq_zero_iff.1 e)
  unfold tl
  rw [if_neg (by omega)]
  refine ⟨b, o + 1, rfl, fun k hk => ?_⟩
  have := hr (k + 1) (by simpa using hk)
  rw [show o + 1 + k = o + (k + 1) by omega, this]
  simp [tk]
theorem run_tail (b o n c : Nat) (W : World) : (Instr.slice 22 (.slice (some ⟨b, o, none⟩) (n + 1) c) (some (.int .i64 1)) none none).run Tryd.prog W = .ok (.slice (tl b o c) n (c - 1)) W := by
  have he : Tryd.prog.elem 22 = 9 := by kernel_rfl
  rw [run_slice_l W 22 _ _ _ (by rw [he]; exact Tryd.underlying22) .i64 1 (by omega) (by omega), he]
  unfold tl
  by_cases h : c = 1
  · simp [Result.andThen, sliced, h, go_sem, Tryd.sizeOf9]
  · simp [Result.andThen, sliced, h, go_sem, Tryd.sizeOf9, Addr.add]
theorem own_at {W : World} {B g cap : Nat} {l : List ByteArray} (h : Own W B g cap l) : At W (some ⟨g, 0, none⟩) l := fun _ => ⟨g, 0, rfl, fun k hk => by rw [Nat.zero_add]; exact own_cells h k hk⟩
theorem own_cap {W : World} {B g cap : Nat} {l : List ByteArray} (h : Own W B g cap l) : l.length ≤ cap := by
  rcases h.2 with ⟨h', _⟩ | ⟨g', cap', cur, h', _, _, hn, _⟩
  · simp at h'
  · simp only [Value.slice.injEq] at h'
    omega
theorem At.below {w w' : World} {g : Nat} {l : List ByteArray} {B : Nat} (h : At w (some ⟨g, 0, none⟩) l) (hb : Below B w w') (hg : g < B) : At w' (some ⟨g, 0, none⟩) l := by
  intro hne
  obtain ⟨b, o, e, hr⟩ := h hne
  simp only [Option.some.injEq, Addr.mk.injEq] at e
  obtain ⟨rfl, rfl, _⟩ := e
  exact ⟨_, _, rfl, hr.below hb hg⟩
theorem isPcs_toks {s : ByteArray} {l : List ByteArray} (h : isPcs s s.size l) : l = Pl.toks s := by
  have e : s.data.toList.take s.size = s.data.toList := List.take_of_length_le (by simp)
  unfold isPcs at h
  rw [e, ← Pl.toks_data] at h
  exact List.map_inj_right (fun a b hab => WideShapes.bytes_inj hab) |>.1 h
end Go.Proofs.YtohjipnkoiifhabDoor

namespace Go.Proofs.YtohjipnkoiifhabDoor
open Go.RowKit

set_option maxRecDepth 100000 in
set_option maxHeartbeats 1000000 in
theorem roverlap_any : ∀ (f s : List ByteArray) (af ag : Option Addr) (cf cs : Nat) (w : World), At w af f → At w ag s → f.length ≤ cf → s.length ≤ cs →
    Calls Tryd.prog 31 #[.slice af f.length cf, .slice ag s.length cs] w fun e w' => e = .returned (.bool (meetL f s)) ∧ ∃ n, w' = w.drewN n := by
  intro f
  induction f with
  | nil =>
    intro s af ag cf cs w h1 h2 h3 h4
    go_enter Tryd.func31, Tryd.ntmps31
    go_wp2_with fail
    go_ret
    refine ⟨ret_bool ?_, 0, rfl⟩
    cases s <;> simp [meetL] <;> omega
  | cons x fs ih =>
    intro s af ag cf cs w h1 h2 h3 h4
    have IH := hide ih
    clear ih
    obtain ⟨b, o, rfl, hc, hat⟩ := h1.head
    have Hat := hide hat
    clear hat h1
    cases s with
    | nil =>
      go_enter Tryd.func31, Tryd.ntmps31
      go_wp2_with fail
      go_ret
      refine ⟨ret_bool ?_, 0, rfl⟩
      simp [meetL]
      omega
    | cons y ss =>
      obtain ⟨c, q, rfl, hc2, hat2⟩ := h2.head
      have Hat2 := hide hat2
      clear hat2 h2
      have hz1 : ((fs.length : Int) + 1 == 0) = false := by rw [beq_eq_false_iff_ne]; omega
      have hz2 : ((ss.length : Int) + 1 == 0) = false := by rw [beq_eq_false_iff_ne]; omega
      have hs1 := run_tail b o fs.length cf
      have hs2 := run_tail c q ss.length cs
      simp only [List.length_cons] at h3 h4
      cases ha : (x.toList == [62])
      · cases hb : (y.toList == [62])
        · cases hd : (x.toList == y.toList)
          · cases he : (x.toList == [42])
            · cases hg : (y.toList == [42])
              · have R : meetL (x :: fs) (y :: ss) = false := by rw [meetL]; unfold gtB stB eqB; rw [ha, hb, hd, he, hg]; rfl
                have HR := hide R
                clear R
                go_enter Tryd.func31, Tryd.ntmps31
                go_wp2_with fail
                go_quiet (fail)
                go_wp2_with fail
                go_ret
                exact ⟨ret_is (unhide HR), _, rfl⟩
              · have R : meetL (x :: fs) (y :: ss) = meetL fs ss := by rw [meetL]; unfold gtB stB eqB; rw [ha, hb, hd, he, hg]; rfl
                have HR := hide R
                clear R
                go_enter Tryd.func31, Tryd.ntmps31
                go_wp2_with fail
                go_quiet ((go_at_call 31; exact Calls.quiet_of (unhide IH ss _ _ _ _ _ ((unhide Hat cf h3).drewN _) ((unhide Hat2 cs h4).drewN _) (by omega) (by omega))))
                go_wp2_with fail
                go_ret
                exact ⟨ret_is (unhide HR), _, rfl⟩
            · have R : meetL (x :: fs) (y :: ss) = meetL fs ss := by rw [meetL]; unfold gtB stB eqB; rw [ha, hb, hd, he]; rfl
              have HR := hide R
              clear R
              go_enter Tryd.func31, Tryd.ntmps31
              go_wp2_with fail
              go_quiet ((go_at_call 31; exact Calls.quiet_of (unhide IH ss _ _ _ _ _ ((unhide Hat cf h3).drewN _) ((unhide Hat2 cs h4).drewN _) (by omega) (by omega))))
              go_wp2_with fail
              go_ret
              exact ⟨ret_is (unhide HR), _, rfl⟩
          · have R : meetL (x :: fs) (y :: ss) = meetL fs ss := by rw [meetL]; unfold gtB stB eqB; rw [ha, hb, hd]; rfl
            have HR := hide R
            clear R
            go_enter Tryd.func31, Tryd.ntmps31
            go_wp2_with fail
            go_quiet ((go_at_call 31; exact Calls.quiet_of (unhide IH ss _ _ _ _ _ ((unhide Hat cf h3).drewN _) ((unhide Hat2 cs h4).drewN _) (by omega) (by omega))))
            go_wp2_with fail
            go_ret
            exact ⟨ret_is (unhide HR), _, rfl⟩
        · have R : meetL (x :: fs) (y :: ss) = true := by rw [meetL]; unfold gtB stB eqB; rw [ha, hb]; rfl
          have HR := hide R
          clear R
          go_enter Tryd.func31, Tryd.ntmps31
          go_wp2_with fail
          go_ret
          exact ⟨ret_is (unhide HR), 0, rfl⟩
      · have R : meetL (x :: fs) (y :: ss) = true := by rw [meetL]; unfold gtB stB eqB; rw [ha]; rfl
        have HR := hide R
        clear R
        go_enter Tryd.func31, Tryd.ntmps31
        go_wp2_with fail
        go_ret
        exact ⟨ret_is (unhide HR), 0, rfl⟩
set_option maxHeartbeats 400000 in
theorem rOverlap_any (f s : ByteArray) (w : World) (hf : f.size ≤ 140737488355328) (hs : s.size ≤ 140737488355328) (nf : (Pl.pcs f.data.toList).length ≤ 1099511627776) (ns : (Pl.pcs s.data.toList).length ≤ 1099511627776) :
    Calls Tryd.prog 14 #[.string f, .string s] w fun e w' => e = .returned (.bool (meetL (Pl.toks f) (Pl.toks s))) ∧ Below w.heap.size w w' := by
  go_enter Tryd.func14, Tryd.ntmps14
  go_wp2_with fail
  refine (pieces_any f _ hf nf).mono ?_
  rintro e w1 ⟨g1, c1, l1, rfl, o1, p1, b1⟩
  have P1 := hide (isPcs_toks p1)
  clear p1
  go_wp2_with fail
  refine (pieces_any s _ hs ns).mono ?_
  rintro e w2 ⟨g2, c2, l2, rfl, o2, p2, b2⟩
  have P2 := hide (isPcs_toks p2)
  clear p2
  go_wp2_with fail
  refine (roverlap_any l1 l2 _ _ _ _ _ ((own_at o1).below b2 (own_base o1).2) (own_at o2) (own_cap o1) (own_cap o2)).mono ?_
  rintro e w3 ⟨rfl, n, rfl⟩
  go_wp2
  go_ret
  exact ⟨ret_is (by rw [unhide P1, unhide P2]), below_drewN (b1.trans (b2.mono b1.size)) n⟩
end Go.Proofs.YtohjipnkoiifhabDoor
