/-
  Contract of record.Encode: what is wrong with the record, or its bytes.
-/
import Derived.Test.YtmbnmljkioikjaaDoorWalkC2
import Derived.Test.YtmbnmljkioikjaaDoorWalkC3
namespace Go.Proofs.YtmbnmljkioikjaaDoor
open Go.RowKit

/-- what an encoding answers -/
def encV (k q t : Int) (s h d : ByteArray) : Value :=
  .tuple #[.string (if chkV k q t s h d = 0 then bs (Pk.cod ⟨k, q, t, s.data.toList, h.data.toList, d.data.toList⟩) else ⟨#[]⟩), .int .i64 (chkV k q t s h d)]
theorem encV_bad {k q t : Int} {s h d : ByteArray} {E : Int} (hE : chkV k q t s h d = E) (h0 : E ≠ 0) : encV k q t s h d = .tuple #[.string ⟨#[]⟩, .int .i64 E] := by
  unfold encV; rw [hE, if_neg h0]
theorem encV_good {k q t : Int} {s h d : ByteArray} (hE : chkV k q t s h d = 0) : encV k q t s h d = .tuple #[.string (bs (Pk.cod ⟨k, q, t, s.data.toList, h.data.toList, d.data.toList⟩)), .int .i64 0] := by
  unfold encV; rw [hE, if_pos rfl]

set_option maxRecDepth 100000 in
set_option maxHeartbeats 400000 in
theorem encode_any (k q t : Int) (s h d : ByteArray) (w : World) (hs : s.size ≤ 140737488355328) (hh : h.size ≤ 140737488355328) (hd : d.size ≤ 140737488355328) :
    Calls Tryd.prog 31 #[.agg #[.int .i64 k, .int .i64 q, .int .i64 t, .string s, .string h, .string d]] w fun e w' => e = .returned (encV k q t s h d) ∧ Below w.heap.size w w' := by
  obtain ⟨E, hE⟩ : ∃ E, chkV k q t s h d = E := ⟨_, rfl⟩
  have R0 := hide (RB.new w k q t s h d 49)
  have B0 : Hid (Below w.heap.size w (w.alloc (.cells #[.int .i64 k, .int .i64 q, .int .i64 t, .string s, .string h, .string d] 49))) := hide ((Below.refl _ _).alloc (Nat.le_refl _) _)
  by_cases h0 : E = 0
  · subst h0
    obtain ⟨k1, k2, q1, q2, t1, t2, s1, s2⟩ := Pk.chk_len (r := ⟨k, q, t, s.data.toList, h.data.toList, d.data.toList⟩) hE
    simp only [len_size] at s1 s2
    obtain ⟨B, hB⟩ : ∃ B, B = bs (Pk.bod ⟨k, q, t, s.data.toList, h.data.toList, d.data.toList⟩) := ⟨_, rfl⟩
    have zB : B.size ≤ 1024 := by rw [hB, bs_size]; exact (Pk.bod_len hE).2
    obtain ⟨X, hX⟩ : ∃ X, X = bs (Pk.txt B.data.toList) := ⟨_, rfl⟩
    obtain ⟨Y, hY⟩ : ∃ Y, Y = bs (Pk.le4 (Pk.crc B.data.toList)) := ⟨_, rfl⟩
    have zX : X.size ≤ 1033 := by
      rw [hX, bs_size, Pk.txt, List.length_append, len_size]
      have := Pk.enc_nine (n := B.size) (by omega)
      omega
    have zY : Y.size = 4 := by rw [hY, bs_size]; rfl
    have zC : ¬ 9223372036854775807 < X.size + Y.size := by omega
    have HE := hide hE
    have R : Hid (encV k q t s h d = .tuple #[.string (X ++ Y), .int .i64 0]) := hide (by
      rw [encV_good hE, hX, hY, cat_bs, hB, bs_list]; rfl)
    have CB : Hid (∀ W : World, Calls Tryd.prog 56 #[.agg #[.int .i64 k, .int .i64 q, .int .i64 t, .string s, .string h, .string d]] W fun e w' => e = .returned (.string B) ∧ Below W.heap.size W w') :=
      hide (fun W => by rw [hB]; exact bodyof_any k q t s h d W k1 k2 q2 t2 (by omega) (by omega) (by omega))
    have CX : Hid (∀ W : World, Calls Tryd.prog 57 #[.string B] W fun e w' => e = .returned (.string X) ∧ Below W.heap.size W w') := hide (fun W => by rw [hX]; exact text_any B W (by omega))
    have CY : Hid (∀ W : World, Calls Tryd.prog 58 #[.string B] W fun e w' => e = .returned (.string Y) ∧ Below W.heap.size W w') := hide (fun W => by rw [hY]; exact sumof_any B W (by omega))
    clear hE hB hX hY
    go_enter Tryd.func31, Tryd.ntmps31
    go_wp2_with fail
    refine (check_any _ _ _ _ _ _ _ hs hh hd).mono ?_
    rintro e w1 ⟨rfl, b1⟩
    rw [unhide HE]
    have R1 := (unhide R0).next b1
    have B1 := hide (bstep (unhide B0) b1)
    obtain ⟨_, c0, c1, c2, c3, c4, c5, _⟩ := R1
    clear R0 B0 b1
    go_wp2_with fail
    refine (unhide CB _).mono ?_
    rintro e w2 ⟨rfl, b2⟩
    clear c0 c1 c2 c3 c4 c5
    go_wp2_with fail
    refine (unhide CX _).mono ?_
    rintro e w3 ⟨rfl, b3⟩
    go_wp2_with fail
    refine (unhide CY _).mono ?_
    rintro e w4 ⟨rfl, b4⟩
    go_wp2_with fail
    go_ret2
    exact ⟨by rw [unhide R]; rfl, bstep (bstep (bstep (unhide B1) b2) b3) b4⟩
  · have R := hide (encV_bad hE h0)
    have HE := hide hE
    have h1 : (E != 0) = true := by simpa using h0
    clear hE h0
    go_enter Tryd.func31, Tryd.ntmps31
    go_wp2_with fail
    refine (check_any _ _ _ _ _ _ _ hs hh hd).mono ?_
    rintro e w1 ⟨rfl, b1⟩
    rw [unhide HE]
    go_wp2_with fail
    go_ret2
    exact ⟨by rw [unhide R]; rfl, bstep (unhide B0) b1⟩
end Go.Proofs.YtmbnmljkioikjaaDoor
