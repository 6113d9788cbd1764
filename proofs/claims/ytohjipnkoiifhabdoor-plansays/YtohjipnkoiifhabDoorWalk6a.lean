/-
  Contracts of the document's own answers: rillref.takes and Takes.
-/
import Derived.Test.YtohjipnkoiifhabDoorJointPlain2Plain5PlainK
import Derived.Test.YtohjipnkoiifhabDoorWalk4
namespace Go.Proofs.YtohjipnkoiifhabDoor
open Go.RowKit

/-- a slice's address leads to a row of these strings (where there is one) -/
def At (w : World) (a : Option Addr) (l : List ByteArray) : Prop := l ≠ [] → ∃ b o, a = some ⟨b, o, none⟩ ∧ Row w b o l
theorem At.drewN {w : World} {a : Option Addr} {l : List ByteArray} (h : At w a l) (n : Nat) : At (w.drewN n) a l := h
/-- where 's[1:]' leads -/
def tl (b o c : Nat) : Option Addr := if c = 1 then some ⟨b, o, none⟩ else some ⟨b, o + 1, none⟩
theorem At.head {w : World} {a : Option Addr} {x : ByteArray} {l : List ByteArray} (h : At w a (x :: l)) : ∃ b o, a = some ⟨b, o, none⟩ ∧ w.cell? ⟨b, o, none⟩ = some (.string x) ∧ ∀ c, l.length + 1 ≤ c → At w (tl b o c) l := by
  obtain ⟨b, o, rfl, hr⟩ := h (by simp)
  refine ⟨b, o, rfl, hr 0 (by simp), fun c hc hne => ?_⟩
  have : l.length ≠ 0 := fun e => hne (List.length_eq_zero_iff.1 e)
  unfold tl
  rw [if_neg (by omega)]
  refine ⟨b, o + 1, rfl, fun k hk => ?_⟩
  have := hr (k + 1) (by simpa using hk)
  rw [show o + 1 + k = o + (k + 1) by omega, this]
  simp [tk]
theorem run_tail (b o n c : Nat) (W : World) : (Instr.slice 22 (.slice (some ⟨b, o, none⟩) (n + 1) c) (some (.int .i64 1)) none none).run Tryd.prog W = .ok (.slice (tl b o c) n (c - 1)) W := by
  have he : Tryd.prog.elem 22 = 9 := by kernel_rfl
  rw [run_slice_l W 22 _ _ _ (by rw [he]; exact Tryd.underlying22) .i64 1 (by omega) (by omega), he]
  unfold tl
  by_cases h : c = 1
  · simp [Result.andThen, sliced, h, go_sem, Tryd.sizeOf9]
  · simp [Result.andThen, sliced, h, go_sem, Tryd.sizeOf9, Addr.add]
theorem own_at {W : World} {B g cap : Nat} {l : List ByteArray} (h : Own W B g cap l) : At W (some ⟨g, 0, none⟩) l := fun _ => ⟨g, 0, rfl, fun k hk => by rw [Nat.zero_add]; exact own_cells h k hk⟩
theorem own_cap {W : World} {B g cap : Nat} {l : List ByteArray} (h : Own W B g cap l) : l.length ≤ cap := by
  rcases h.2 with ⟨h', _⟩ | ⟨g', cap', cur, h', _, _, hn, _⟩
  · simp at h'
  · simp only [Value.slice.injEq] at h'
    omega
theorem At.below {w w' : World} {g : Nat} {l : List ByteArray} {B : Nat} (h : At w (some ⟨g, 0, none⟩) l) (hb : Below B w w') (hg : g < B) : At w' (some ⟨g, 0, none⟩) l := by
  intro hne
  obtain ⟨b, o, e, hr⟩ := h hne
  simp only [Option.some.injEq, Addr.mk.injEq] at e
  obtain ⟨rfl, rfl, _⟩ := e
  exact ⟨_, _, rfl, hr.below hb hg⟩
theorem isPcs_toks {s : ByteArray} {l : List ByteArray} (h : isPcs s s.size l) : l = Pl.toks s := by
  have e : s.data.toList.take s.size = s.data.toList := List.take_of_length_le (by simp)
  unfold isPcs at h
  rw [e, ← Pl.toks_data] at h
  exact List.map_inj_right (fun a b hab => WideShapes.bytes_inj hab) |>.1 h
end Go.Proofs.YtohjipnkoiifhabDoor
