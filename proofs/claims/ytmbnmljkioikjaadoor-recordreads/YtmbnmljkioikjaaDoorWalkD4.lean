/-
  Contract of rillref.Decoded behind a right sum: the parts of the body, one by one.
-/
import Derived.Test.YtmbnmljkioikjaaDoorWalkD3
namespace Go.Proofs.YtmbnmljkioikjaaDoor
open Go.RowKit

/-- the state of the parts' loop: where the answer will lie, the record so far -/
structure DS (w0 W : World) (b : Nat) (k q t : Int) (s h d : ByteArray) : Prop where
  res : RB W w0.heap.size 0 0 0 ⟨#[]⟩ ⟨#[]⟩ ⟨#[]⟩
  got : RB W b k q t s h d
  lt : w0.heap.size < b
  bel : Below w0.heap.size w0 W
theorem DS.next {w0 W w' : World} {b : Nat} {k q t : Int} {s h d : ByteArray} (x : DS w0 W b k q t s h d) (hb : Below W.heap.size W w') : DS w0 w' b k q t s h d :=
  ⟨x.res.next hb, x.got.next hb, x.lt, bstep x.bel hb⟩
theorem DS.drew {w0 W : World} {b : Nat} {k q t : Int} {s h d : ByteArray} (x : DS w0 W b k q t s h d) : DS w0 W.drew b k q t s h d := x.next (Below.refl _ _).drew
theorem DS.set1 {w0 W : World} {b : Nat} {k q t : Int} {s h d : ByteArray} (x : DS w0 W b k q t s h d) (y : Int) : DS w0 (W.setCell ⟨b, 1, none⟩ (.int .i64 y)) b k y t s h d :=
  ⟨x.res.other (by have := x.lt; omega), x.got.set1 y, x.lt, x.bel.setCell (Nat.le_of_lt x.lt) _⟩
theorem DS.set2 {w0 W : World} {b : Nat} {k q t : Int} {s h d : ByteArray} (x : DS w0 W b k q t s h d) (y : Int) : DS w0 (W.setCell ⟨b, 2, none⟩ (.int .i64 y)) b k q y s h d :=
  ⟨x.res.other (by have := x.lt; omega), x.got.set2 y, x.lt, x.bel.setCell (Nat.le_of_lt x.lt) _⟩
theorem DS.set3 {w0 W : World} {b : Nat} {k q t : Int} {s h d : ByteArray} (x : DS w0 W b k q t s h d) (y : ByteArray) : DS w0 (W.setCell ⟨b, 3, none⟩ (.string y)) b k q t y h d :=
  ⟨x.res.other (by have := x.lt; omega), x.got.set3 y, x.lt, x.bel.setCell (Nat.le_of_lt x.lt) _⟩
theorem DS.set4 {w0 W : World} {b : Nat} {k q t : Int} {s h d : ByteArray} (x : DS w0 W b k q t s h d) (y : ByteArray) : DS w0 (W.setCell ⟨b, 4, none⟩ (.string y)) b k q t s y d :=
  ⟨x.res.other (by have := x.lt; omega), x.got.set4 y, x.lt, x.bel.setCell (Nat.le_of_lt x.lt) _⟩
theorem DS.set5 {w0 W : World} {b : Nat} {k q t : Int} {s h d : ByteArray} (x : DS w0 W b k q t s h d) (y : ByteArray) : DS w0 (W.setCell ⟨b, 5, none⟩ (.string y)) b k q t s h y :=
  ⟨x.res.other (by have := x.lt; omega), x.got.set5 y, x.lt, x.bel.setCell (Nat.le_of_lt x.lt) _⟩
theorem okB_bad0 {r0 : List UInt8} (h : (Pk.rd r0).2.2 ≠ 0) : Pk.okB r0 = false := by
  unfold Pk.okB; rw [decide_eq_false h]; rfl
theorem okB_bad1 {r0 : List UInt8} (h : (Pk.rd (Pk.p1 r0)).2.2 ≠ 0) : Pk.okB r0 = false := by
  unfold Pk.okB; rw [decide_eq_false (p := (Pk.rd (Pk.p1 r0)).2.2 = 0) h]; simp
theorem okB_bad2 {r0 : List UInt8} (h : (Pk.rt (Pk.p2 r0) 1024).2.2 ≠ 0) : Pk.okB r0 = false := by
  unfold Pk.okB; rw [decide_eq_false (p := (Pk.rt (Pk.p2 r0) 1024).2.2 = 0) h]; simp
theorem okB_bad3 {r0 : List UInt8} (h : (Pk.rt (Pk.p3 r0) 1024).2.2 ≠ 0) : Pk.okB r0 = false := by
  unfold Pk.okB; rw [decide_eq_false (p := (Pk.rt (Pk.p3 r0) 1024).2.2 = 0) h]; simp
theorem okB_bad4 {r0 : List UInt8} (h : (Pk.rt (Pk.p4 r0) 1024).2.2 ≠ 0) : Pk.okB r0 = false := by
  unfold Pk.okB; rw [decide_eq_false (p := (Pk.rt (Pk.p4 r0) 1024).2.2 = 0) h]; simp
theorem okB_bad5 {r0 : List UInt8} (h : (Pk.p5 r0).length ≠ 0) : Pk.okB r0 = false := by
  unfold Pk.okB; rw [decide_eq_false (p := (Pk.p5 r0).length = 0) h]; simp
theorem p_next0 (r0 : List UInt8) : Pk.p1 r0 = Pk.aftN r0 := rfl
theorem p_next1 (r0 : List UInt8) : Pk.p2 r0 = Pk.aftN (Pk.p1 r0) := rfl
theorem p_next2 (r0 : List UInt8) : Pk.p3 r0 = Pk.aftT (Pk.p2 r0) := rfl
theorem p_next3 (r0 : List UInt8) : Pk.p4 r0 = Pk.aftT (Pk.p3 r0) := rfl
theorem p_next4 (r0 : List UInt8) : Pk.p5 r0 = Pk.aftT (Pk.p4 r0) := rfl
theorem num_facts {l nx : List UInt8} (hn : nx = Pk.aftN l) (hl : l.length ≤ 1024) : ∃ N K E : Nat, Hid (numV (bs l).data.toList = .tuple #[.int .i64 N, .int .i64 K, .int .i64 E]) ∧ Hid ((bs l).extract K (bs l).size = bs nx) ∧ Hid ((Pk.rd l).1 = N) ∧ K ≤ (bs l).size ∧ Hid ((Pk.rd l).2.2 = E) ∧ (bs l).size ≤ 1024 :=
  ⟨_, _, _, hide (by rw [bs_list]; rfl), hide (by rw [hn, cut_tail, bs_list]; rfl), hide rfl, by rw [bs_size]; exact rd_took l, hide rfl, by rw [bs_size]; exact hl⟩
theorem text_facts {l nx : List UInt8} (hn : nx = Pk.aftT l) (hl : l.length ≤ 1024) : ∃ (N : List UInt8) (K E : Nat), Hid (textV (bs l).data.toList 1024 = .tuple #[.string (bs N), .int .i64 K, .int .i64 E]) ∧ Hid ((bs l).extract K (bs l).size = bs nx) ∧ Hid ((Pk.rt l 1024).1 = N) ∧ K ≤ (bs l).size ∧ Hid ((Pk.rt l 1024).2.2 = E) ∧ (bs l).size ≤ 1024 :=
  ⟨_, _, _, hide (by rw [bs_list]; rfl), hide (by rw [hn, cut_tail, bs_list]; rfl), hide rfl, by rw [bs_size]; exact rt_took l, hide rfl, by rw [bs_size]; exact hl⟩
/-- which parts have been read -/
def DRel (w0 : World) (b : Nat) (r0 : List UInt8) (c : Nat) (rest ok i : Value) (W : World) : Prop :=
  (i = .int .i64 0 ∧ ok = .bool true ∧ rest = .string (bs r0) ∧ Hid (DS w0 W b c 0 0 ⟨#[]⟩ ⟨#[]⟩ ⟨#[]⟩)) ∨
  (i = .int .i64 1 ∧ ok = .bool true ∧ rest = .string (bs (Pk.p1 r0)) ∧ Hid (DS w0 W b c (Pk.rd r0).1 0 ⟨#[]⟩ ⟨#[]⟩ ⟨#[]⟩ ∧ (Pk.rd r0).2.2 = 0)) ∨
  (i = .int .i64 2 ∧ ok = .bool true ∧ rest = .string (bs (Pk.p2 r0)) ∧ Hid (DS w0 W b c (Pk.rd r0).1 (Pk.rd (Pk.p1 r0)).1 ⟨#[]⟩ ⟨#[]⟩ ⟨#[]⟩ ∧ (Pk.rd r0).2.2 = 0 ∧ (Pk.rd (Pk.p1 r0)).2.2 = 0)) ∨
  (i = .int .i64 3 ∧ ok = .bool true ∧ rest = .string (bs (Pk.p3 r0)) ∧ Hid (DS w0 W b c (Pk.rd r0).1 (Pk.rd (Pk.p1 r0)).1 (bs (Pk.rt (Pk.p2 r0) 1024).1) ⟨#[]⟩ ⟨#[]⟩ ∧ (Pk.rd r0).2.2 = 0 ∧ (Pk.rd (Pk.p1 r0)).2.2 = 0 ∧ (Pk.rt (Pk.p2 r0) 1024).2.2 = 0)) ∨
  (i = .int .i64 4 ∧ ok = .bool true ∧ rest = .string (bs (Pk.p4 r0)) ∧ Hid (DS w0 W b c (Pk.rd r0).1 (Pk.rd (Pk.p1 r0)).1 (bs (Pk.rt (Pk.p2 r0) 1024).1) (bs (Pk.rt (Pk.p3 r0) 1024).1) ⟨#[]⟩ ∧ (Pk.rd r0).2.2 = 0 ∧ (Pk.rd (Pk.p1 r0)).2.2 = 0 ∧ (Pk.rt (Pk.p2 r0) 1024).2.2 = 0 ∧ (Pk.rt (Pk.p3 r0) 1024).2.2 = 0)) ∨
  (i = .int .i64 5 ∧ ok = .bool true ∧ rest = .string (bs (Pk.p5 r0)) ∧ Hid (DS w0 W b c (Pk.rd r0).1 (Pk.rd (Pk.p1 r0)).1 (bs (Pk.rt (Pk.p2 r0) 1024).1) (bs (Pk.rt (Pk.p3 r0) 1024).1) (bs (Pk.rt (Pk.p4 r0) 1024).1) ∧ (Pk.rd r0).2.2 = 0 ∧ (Pk.rd (Pk.p1 r0)).2.2 = 0 ∧ (Pk.rt (Pk.p2 r0) 1024).2.2 = 0 ∧ (Pk.rt (Pk.p3 r0) 1024).2.2 = 0 ∧ (Pk.rt (Pk.p4 r0) 1024).2.2 = 0)) ∨
  (∃ (n : Nat) (L : ByteArray), n ≤ 5 ∧ i = .int .i64 (n : Int) ∧ ok = .bool false ∧ rest = .string L ∧ Hid ((∃ q t s h d, DS w0 W b c q t s h d) ∧ Pk.okB r0 = false))

set_option maxRecDepth 100000 in
set_option maxHeartbeats 4000000 in
theorem rdecoded_D (s : ByteArray) (X : List UInt8) (K : Nat) (w : World) (hs : s.size ≤ 281474976710656) (hr : Pk.rt s.data.toList 1024 = (X, K, 0)) (h4 : K + 4 ≤ s.size) (hX : X.length ≤ 1024) (hne : nS s.data.toList K 4 = Pk.crc X) (h0 : 0 < X.length) (hbad : Pk.okB (X.drop 1) = false ∨ Pk.chk (Pk.recOf (Pk.at' X 0) (X.drop 1)) ≠ 0 → Pk.dec s.data.toList = (Pk.none', 0, 7)) (hgood : Pk.okB (X.drop 1) = true → Pk.chk (Pk.recOf (Pk.at' X 0) (X.drop 1)) = 0 → Pk.dec s.data.toList = (Pk.recOf (Pk.at' X 0) (X.drop 1), K + 4, 0)) :
    Calls Tryd.prog 34 #[.string s] w fun e w' => e = .returned (decV s.data.toList) ∧ Below w.heap.size w w' := by
  have hv : textV s.data.toList 1024 = .tuple #[.string (bs X), .int .i64 K, .int .i64 0] := by unfold textV; rw [hr]; rfl
  have RB' := hide hbad
  have RG := hide hgood
  have R0 := hide (RB.new w 0 0 0 ⟨#[]⟩ ⟨#[]⟩ ⟨#[]⟩ 49)
  have B0 : Hid (Below w.heap.size w (w.alloc (.cells #[.int .i64 0, .int .i64 0, .int .i64 0, .string ⟨#[]⟩, .string ⟨#[]⟩, .string ⟨#[]⟩] 49))) := hide ((Below.refl _ _).alloc (Nat.le_refl _) _)
  have HX := hide hX
  have HN := hide hne
  clear hr hbad hgood hne
  go_enter Tryd.func34, Tryd.ntmps34
  go_wp2_with fail
  refine (rreadt_any s 1024 _ hs).mono ?_
  rintro e w1 ⟨rfl, b1⟩
  rw [hv]
  have R1 := (unhide R0).next b1
  have B1 := hide (bstep (unhide B0) b1)
  have H1 := hide R1
  clear R0 B0 b1 R1
  go_wp2_with fail
  go_loop [8, 9] (fun a i => (∃ j : Nat, j ≤ 3 ∧ i = .int .i64 (j : Int) ∧ a = .int .i64 ((nS s.data.toList K (3 - j) : Nat) : Int)) ∨ (i = .int .i64 (-1) ∧ a = .int .i64 ((nS s.data.toList K 4 : Nat) : Int))) (fun _ i => (intOf i + 1).toNat)
  case atStart => exact .inl ⟨3, by decide, rfl, rfl⟩
  case round =>
    rcases hrel with ⟨j, hj, rfl, rfl⟩ | ⟨rfl, rfl⟩
    · have hl := nS_few s.data.toList K (m := 3 - j) (by omega)
      have hjs : K + j < s.size := by omega
      have e := hide (nS_round s hjs hj)
      go_wp2_with fail
      go_round
      case rel =>
        rcases Nat.eq_zero_or_pos j with h0 | h0
        · subst h0
          exact .inr ⟨by go_num, congrArg (Value.int .i64) (unhide e)⟩
        · exact .inl ⟨j - 1, by omega, by go_num, by rw [show 3 - (j - 1) = 4 - j from by omega, unhide e]⟩
      case measure => simp [intOf]
    · have hl4 := nS_few s.data.toList K (m := 4) (by decide)
      have hc4 := Pk.crc_lt X
      have R1 := unhide H1
      obtain ⟨_, c0, c1, c2, c3, c4, c5, fr⟩ := R1
      have f0 := fr 0
      have f1 := fr 1
      have f2 := fr 2
      have f3 := fr 3
      have f4 := fr 4
      have f5 := fr 5
      clear fr
      generalize hn : nS s.data.toList K 4 = n4 at hl4 HN ⊢
      generalize hcc : Pk.crc X = cc at hc4 HN
      have HCC := hide hcc
      clear hn hcc
      have hq' : ((n4 : Int) != (cc : Int)) = false := by rw [unhide HN]; simp
      have hz1 : 0 < (bs X).size := by rw [bs_size]; exact h0
      have hx2 : (((bs X).size : Int) == 0) = false := by rw [beq_eq_false_iff_ne]; omega
      go_wp2_with fail
      refine (rsum_any (bs X) _ (by rw [bs_size]; omega)).mono ?_
      rintro e w2 ⟨rfl, rfl⟩
      rw [bs_list, unhide HCC]
      clear c0 c1 c2 c3 c4 c5 f0 f1 f2 f3 f4 f5
      go_wp2_with fail
      have HK : Hid (wrap64 (((bs X)[0]'hz1).toNat : Int) = ((Pk.at' X 0 : Nat) : Int)) := hide (by
        rw [byte_at (bs X) hz1, bs_list]
        have := Pk.at_lt X 0
        exact IntWalk.wrap64_in _ ⟨by omega, by omega⟩)
      have HT := hide (cut_tail (bs X) 1)
      rw [bs_list] at HT
      rw [unhide HT, unhide HK]
      have S0 : Hid (DS w (w2.alloc (.cells #[.int .i64 ((Pk.at' X 0 : Nat) : Int), .int .i64 0, .int .i64 0, .string ⟨#[]⟩, .string ⟨#[]⟩, .string ⟨#[]⟩] 49)) w2.heap.size ((Pk.at' X 0 : Nat) : Int) 0 0 ⟨#[]⟩ ⟨#[]⟩ ⟨#[]⟩) := hide ⟨(unhide H1).alloc _, RB.new _ _ _ _ _ _ _ _, (unhide H1).lt, (unhide B1).alloc (Nat.le_of_lt (unhide H1).lt) _⟩
      have hl0 : (X.drop 1).length ≤ 1024 := by rw [List.length_drop]; omega
      generalize w2.heap.size = b at S0 ⊢
      generalize w2.alloc (.cells #[.int .i64 ((Pk.at' X 0 : Nat) : Int), .int .i64 0, .int .i64 0, .string ⟨#[]⟩, .string ⟨#[]⟩, .string ⟨#[]⟩] 49) = W2 at S0 ⊢
      generalize Pk.at' X 0 = c0 at S0 RB' RG ⊢
      generalize X.drop 1 = r0 at hl0 RB' RG ⊢
      have hm0 : r0.length ≤ 1024 := hl0
      have hm1 : (Pk.p1 r0).length ≤ 1024 := by rw [p_next0]; exact Nat.le_trans (aftN_len _) hm0
      have hm2 : (Pk.p2 r0).length ≤ 1024 := by rw [p_next1]; exact Nat.le_trans (aftN_len _) hm1
      have hm3 : (Pk.p3 r0).length ≤ 1024 := by rw [p_next2]; exact Nat.le_trans (aftT_len _) hm2
      have hm4 : (Pk.p4 r0).length ≤ 1024 := by rw [p_next3]; exact Nat.le_trans (aftT_len _) hm3
      clear hl0 hq' hx2 hl4 hc4 HN HCC HK HT HX hv hX h0 H1 B1
      go_loopw [11, 12, 13] (fun rest ok i wr => DRel w b r0 c0 rest ok i wr) (fun _ _ i _ => (6 - intOf i).toNat)
      case atStart => exact .inl ⟨rfl, rfl, rfl, S0⟩
      case round =>
        clear S0
        rcases hrel with ⟨rfl, rfl, rfl, S⟩ | ⟨rfl, rfl, rfl, S⟩ | ⟨rfl, rfl, rfl, S⟩ | ⟨rfl, rfl, rfl, S⟩ | ⟨rfl, rfl, rfl, S⟩ | ⟨rfl, rfl, rfl, S⟩ | ⟨n, L, hn5, rfl, rfl, rfl, S⟩
        · obtain ⟨N, K', E, hv, hx2, HN, hK', HE, hz⟩ := num_facts (l := r0) (nx := (Pk.p1 r0)) (p_next0 r0) hm0
          have f := (unhide S).got.fr 1
          have c := (unhide S).got.c1
          by_cases hE : E = 0
          · subst hE
            go_wp2_with fail
            refine (rreadn_any (bs r0) _ (by omega)).mono ?_
            rintro e w3 ⟨rfl, rfl⟩
            rw [unhide hv]
            have S3' := (unhide S)
            have S3 := hide (S3'.set1 N)
            have f2 := S3'.got.fr 1
            have c2 := S3'.got.c1
            clear S3' f c
            go_wp2_with fail
            exact ⟨.inr (.inl ⟨rfl, rfl, by rw [unhide hx2], hide ⟨by rw [unhide HN]; exact unhide S3, unhide HE⟩⟩), by simp [intOf]⟩
          · have hE' : ((E : Int) == 0) = false := by rw [beq_eq_false_iff_ne]; omega
            have HO : Hid (Pk.okB r0 = false) := hide (okB_bad0 (by rw [unhide HE]; exact hE))
            clear hE
            go_wp2_with fail
            refine (rreadn_any (bs r0) _ (by omega)).mono ?_
            rintro e w3 ⟨rfl, rfl⟩
            rw [unhide hv]
            have S3' := (unhide S)
            have S3 := hide (S3'.set1 N)
            have f2 := S3'.got.fr 1
            have c2 := S3'.got.c1
            clear S3' f c
            go_wp2_with fail
            exact ⟨.inr (.inr (.inr (.inr (.inr (.inr ⟨1, _, by decide, rfl, rfl, rfl, hide ⟨⟨_, _, _, _, _, unhide S3⟩, unhide HO⟩⟩))))), by simp [intOf]⟩
        · obtain ⟨N, K', E, hv, hx2, HN, hK', HE, hz⟩ := num_facts (l := (Pk.p1 r0)) (nx := (Pk.p2 r0)) (p_next1 r0) hm1
          have f := (unhide S).1.got.fr 2
          have c := (unhide S).1.got.c2
          by_cases hE : E = 0
          · subst hE
            go_wp2_with fail
            refine (rreadn_any (bs (Pk.p1 r0)) _ (by omega)).mono ?_
            rintro e w3 ⟨rfl, rfl⟩
            rw [unhide hv]
            have S3' := (unhide S).1
            have S3 := hide (S3'.set2 N)
            have f2 := S3'.got.fr 2
            have c2 := S3'.got.c2
            clear S3' f c
            go_wp2_with fail
            exact ⟨.inr (.inr (.inl ⟨rfl, rfl, by rw [unhide hx2], hide ⟨by rw [unhide HN]; exact unhide S3, (unhide S).2, unhide HE⟩⟩)), by simp [intOf]⟩
          · have hE' : ((E : Int) == 0) = false := by rw [beq_eq_false_iff_ne]; omega
            have HO : Hid (Pk.okB r0 = false) := hide (okB_bad1 (by rw [unhide HE]; exact hE))
            clear hE
            go_wp2_with fail
            refine (rreadn_any (bs (Pk.p1 r0)) _ (by omega)).mono ?_
            rintro e w3 ⟨rfl, rfl⟩
            rw [unhide hv]
            have S3' := (unhide S).1
            have S3 := hide (S3'.set2 N)
            have f2 := S3'.got.fr 2
            have c2 := S3'.got.c2
            clear S3' f c
            go_wp2_with fail
            exact ⟨.inr (.inr (.inr (.inr (.inr (.inr ⟨2, _, by decide, rfl, rfl, rfl, hide ⟨⟨_, _, _, _, _, unhide S3⟩, unhide HO⟩⟩))))), by simp [intOf]⟩
        · obtain ⟨N, K', E, hv, hx2, HN, hK', HE, hz⟩ := text_facts (l := (Pk.p2 r0)) (nx := (Pk.p3 r0)) (p_next2 r0) hm2
          have f := (unhide S).1.got.fr 3
          have c := (unhide S).1.got.c3
          by_cases hE : E = 0
          · subst hE
            go_wp2_with fail
            refine (rreadt_any (bs (Pk.p2 r0)) 1024 _ (by omega)).mono ?_
            rintro e w3 ⟨rfl, b3⟩
            rw [unhide hv]
            have S3' := (unhide S).1.next b3
            have S3 := hide (S3'.set3 (bs N))
            have f2 := S3'.got.fr 3
            have c2 := S3'.got.c3
            clear S3' f c
            go_wp2_with fail
            exact ⟨.inr (.inr (.inr (.inl ⟨rfl, rfl, by rw [unhide hx2], hide ⟨by rw [unhide HN]; exact unhide S3, (unhide S).2.1, (unhide S).2.2, unhide HE⟩⟩))), by simp [intOf]⟩
          · have hE' : ((E : Int) == 0) = false := by rw [beq_eq_false_iff_ne]; omega
            have HO : Hid (Pk.okB r0 = false) := hide (okB_bad2 (by rw [unhide HE]; exact hE))
            clear hE
            go_wp2_with fail
            refine (rreadt_any (bs (Pk.p2 r0)) 1024 _ (by omega)).mono ?_
            rintro e w3 ⟨rfl, b3⟩
            rw [unhide hv]
            have S3' := (unhide S).1.next b3
            have S3 := hide (S3'.set3 (bs N))
            have f2 := S3'.got.fr 3
            have c2 := S3'.got.c3
            clear S3' f c
            go_wp2_with fail
            exact ⟨.inr (.inr (.inr (.inr (.inr (.inr ⟨3, _, by decide, rfl, rfl, rfl, hide ⟨⟨_, _, _, _, _, unhide S3⟩, unhide HO⟩⟩))))), by simp [intOf]⟩
        · obtain ⟨N, K', E, hv, hx2, HN, hK', HE, hz⟩ := text_facts (l := (Pk.p3 r0)) (nx := (Pk.p4 r0)) (p_next3 r0) hm3
          have f := (unhide S).1.got.fr 4
          have c := (unhide S).1.got.c4
          by_cases hE : E = 0
          · subst hE
            go_wp2_with fail
            refine (rreadt_any (bs (Pk.p3 r0)) 1024 _ (by omega)).mono ?_
            rintro e w3 ⟨rfl, b3⟩
            rw [unhide hv]
            have S3' := (unhide S).1.next b3
            have S3 := hide (S3'.set4 (bs N))
            have f2 := S3'.got.fr 4
            have c2 := S3'.got.c4
            clear S3' f c
            go_wp2_with fail
            exact ⟨.inr (.inr (.inr (.inr (.inl ⟨rfl, rfl, by rw [unhide hx2], hide ⟨by rw [unhide HN]; exact unhide S3, (unhide S).2.1, (unhide S).2.2.1, (unhide S).2.2.2, unhide HE⟩⟩)))), by simp [intOf]⟩
          · have hE' : ((E : Int) == 0) = false := by rw [beq_eq_false_iff_ne]; omega
            have HO : Hid (Pk.okB r0 = false) := hide (okB_bad3 (by rw [unhide HE]; exact hE))
            clear hE
            go_wp2_with fail
            refine (rreadt_any (bs (Pk.p3 r0)) 1024 _ (by omega)).mono ?_
            rintro e w3 ⟨rfl, b3⟩
            rw [unhide hv]
            have S3' := (unhide S).1.next b3
            have S3 := hide (S3'.set4 (bs N))
            have f2 := S3'.got.fr 4
            have c2 := S3'.got.c4
            clear S3' f c
            go_wp2_with fail
            exact ⟨.inr (.inr (.inr (.inr (.inr (.inr ⟨4, _, by decide, rfl, rfl, rfl, hide ⟨⟨_, _, _, _, _, unhide S3⟩, unhide HO⟩⟩))))), by simp [intOf]⟩
        · obtain ⟨N, K', E, hv, hx2, HN, hK', HE, hz⟩ := text_facts (l := (Pk.p4 r0)) (nx := (Pk.p5 r0)) (p_next4 r0) hm4
          have f := (unhide S).1.got.fr 5
          have c := (unhide S).1.got.c5
          by_cases hE : E = 0
          · subst hE
            go_wp2_with fail
            refine (rreadt_any (bs (Pk.p4 r0)) 1024 _ (by omega)).mono ?_
            rintro e w3 ⟨rfl, b3⟩
            rw [unhide hv]
            have S3' := (unhide S).1.next b3
            have S3 := hide (S3'.set5 (bs N))
            have f2 := S3'.got.fr 5
            have c2 := S3'.got.c5
            clear S3' f c
            go_wp2_with fail
            exact ⟨.inr (.inr (.inr (.inr (.inr (.inl ⟨rfl, rfl, by rw [unhide hx2], hide ⟨by rw [unhide HN]; exact unhide S3, (unhide S).2.1, (unhide S).2.2.1, (unhide S).2.2.2.1, (unhide S).2.2.2.2, unhide HE⟩⟩))))), by simp [intOf]⟩
          · have hE' : ((E : Int) == 0) = false := by rw [beq_eq_false_iff_ne]; omega
            have HO : Hid (Pk.okB r0 = false) := hide (okB_bad4 (by rw [unhide HE]; exact hE))
            clear hE
            go_wp2_with fail
            refine (rreadt_any (bs (Pk.p4 r0)) 1024 _ (by omega)).mono ?_
            rintro e w3 ⟨rfl, b3⟩
            rw [unhide hv]
            have S3' := (unhide S).1.next b3
            have S3 := hide (S3'.set5 (bs N))
            have f2 := S3'.got.fr 5
            have c2 := S3'.got.c5
            clear S3' f c
            go_wp2_with fail
            exact ⟨.inr (.inr (.inr (.inr (.inr (.inr ⟨5, _, by decide, rfl, rfl, rfl, hide ⟨⟨_, _, _, _, _, unhide S3⟩, unhide HO⟩⟩))))), by simp [intOf]⟩
        · have S' := (unhide S).1
          have HS := hide S'
          by_cases h5 : (Pk.p5 r0).length = 0
          · have ho : Pk.okB r0 = true := by
              obtain ⟨_, e1, e2, e3, e4, e5⟩ := unhide S
              unfold Pk.okB
              rw [decide_eq_true e1, decide_eq_true e2, decide_eq_true e3, decide_eq_true e4, decide_eq_true e5, decide_eq_true h5]
              rfl
            have hem : (bs (Pk.p5 r0)).toList.isEmpty = true := by rw [tl_empty, bs_size, decide_eq_true h5]
            have hrec := chkV_rec (Pk.recOf c0 r0)
            have hk : chkV (c0 : Int) ((Pk.rd r0).1 : Int) ((Pk.rd (Pk.p1 r0)).1 : Int) (bs (Pk.rt (Pk.p2 r0) 1024).1) (bs (Pk.rt (Pk.p3 r0) 1024).1) (bs (Pk.rt (Pk.p4 r0) 1024).1) = Pk.chk (Pk.recOf c0 r0) := by
              rw [← hrec]; simp only [Pk.recOf]
            have z1 : (bs (Pk.rt (Pk.p2 r0) 1024).1).size ≤ 1024 := by rw [bs_size]; exact rec_few _
            have z2 : (bs (Pk.rt (Pk.p3 r0) 1024).1).size ≤ 1024 := by rw [bs_size]; exact rec_few _
            have z3 : (bs (Pk.rt (Pk.p4 r0) 1024).1).size ≤ 1024 := by rw [bs_size]; exact rec_few _
            have hG : Pk.chk (Pk.recOf c0 r0) = 0 → decV s.data.toList = .tuple #[.agg #[.int .i64 (c0 : Int), .int .i64 ((Pk.rd r0).1 : Int), .int .i64 ((Pk.rd (Pk.p1 r0)).1 : Int), .string (bs (Pk.rt (Pk.p2 r0) 1024).1), .string (bs (Pk.rt (Pk.p3 r0) 1024).1), .string (bs (Pk.rt (Pk.p4 r0) 1024).1)], .int .i64 ((K : Int) + 4), .int .i64 0] := fun hc => by
              rw [decV_of (unhide RG ho hc)]
              unfold recV
              simp only [Pk.recOf]
              rfl
            have hB := fun hc => decV_of (unhide RB' (.inr hc))
            obtain ⟨C, hC⟩ : ∃ C, Pk.chk (Pk.recOf c0 r0) = C := ⟨_, rfl⟩
            rw [hC] at hk hG hB
            generalize ((Pk.rd r0).1 : Int) = QQ at S' HS hk hG
            generalize ((Pk.rd (Pk.p1 r0)).1 : Int) = TT at S' HS hk hG
            generalize bs (Pk.rt (Pk.p2 r0) 1024).1 = A1 at S' HS hk hG z1
            generalize bs (Pk.rt (Pk.p3 r0) 1024).1 = A2 at S' HS hk hG z2
            generalize bs (Pk.rt (Pk.p4 r0) 1024).1 = A3 at S' HS hk hG z3
            have CK : Hid (∀ W : World, Calls Tryd.prog 29 #[.agg #[.int .i64 (c0 : Int), .int .i64 QQ, .int .i64 TT, .string A1, .string A2, .string A3]] W fun e w' => e = .returned (.int .i64 C) ∧ Below W.heap.size W w') := hide (fun W => by rw [← hk]; exact rrecord_any _ _ _ _ _ _ W (by omega) (by omega) (by omega))
            have HG := hide hG
            have HB := hide hB
            obtain ⟨_, y0, y1, y2, y3, y4, y5, _⟩ := S'.got
            clear S S' hG hB hk hrec ho h5 hC
            by_cases hc : C = 0
            · have R := hide (unhide HG hc)
              subst hc
              clear HG HB
              go_wp2_with fail
              refine (unhide CK _).mono ?_
              rintro e w3 ⟨rfl, b3⟩
              have S3 := (unhide HS).next b3
              have H3 := hide S3
              clear y0 y1 y2 y3 y4 y5
              obtain ⟨_, y0, y1, y2, y3, y4, y5, _⟩ := S3.got
              obtain ⟨_, x0, x1, x2, x3, x4, x5, fr⟩ := S3.res
              have f0 := fr 0
              have f1 := fr 1
              have f2 := fr 2
              have f3 := fr 3
              have f4 := fr 4
              have f5 := fr 5
              clear fr S3 b3
              go_wp2_with fail
              refine bodyPost_ret (results_rec3 rfl rfl ((unhide H3).res.setAll _ _ _ _ _ _)) rfl ?_
              exact ⟨by rw [unhide R]; rfl, set6_below (unhide H3).bel (Nat.le_refl _)⟩
            · have R := hide (unhide HB hc)
              have hc' : (C != 0) = true := by simpa using hc
              clear hc HG HB
              go_wp2_with fail
              refine (unhide CK _).mono ?_
              rintro e w3 ⟨rfl, b3⟩
              have S3 := (unhide HS).next b3
              have H3 := hide S3
              clear y0 y1 y2 y3 y4 y5
              obtain ⟨_, x0, x1, x2, x3, x4, x5, fr⟩ := S3.res
              have f0 := fr 0
              have f1 := fr 1
              have f2 := fr 2
              have f3 := fr 3
              have f4 := fr 4
              have f5 := fr 5
              clear fr S3 b3
              go_wp2_with fail
              refine bodyPost_ret (results_rec3 rfl rfl ((unhide H3).res.setAll _ _ _ _ _ _)) rfl ?_
              exact ⟨by rw [unhide R]; rfl, set6_below (unhide H3).bel (Nat.le_refl _)⟩
          · have R := hide (decV_of (unhide RB' (.inl (okB_bad5 h5))))
            have hem : (bs (Pk.p5 r0)).toList.isEmpty = false := by rw [tl_empty, bs_size, decide_eq_false h5]
            obtain ⟨_, x0, x1, x2, x3, x4, x5, fr⟩ := S'.res
            have f0 := fr 0
            have f1 := fr 1
            have f2 := fr 2
            have f3 := fr 3
            have f4 := fr 4
            have f5 := fr 5
            clear fr S' h5 S
            go_wp2_with fail
            refine bodyPost_ret (results_rec3 rfl rfl ((unhide HS).res.setAll _ _ _ _ _ _)) rfl ?_
            exact ⟨by rw [unhide R]; rfl, set6_below (unhide HS).bel (Nat.le_refl _)⟩
        · obtain ⟨⟨qq, tt, aa, ab, ac, S'⟩, ho⟩ := unhide S
          have R := hide (decV_of (unhide RB' (.inl ho)))
          have HS := hide S'
          have hn5' : (n : Int) ≤ 5 := by omega
          obtain ⟨_, x0, x1, x2, x3, x4, x5, fr⟩ := S'.res
          have f0 := fr 0
          have f1 := fr 1
          have f2 := fr 2
          have f3 := fr 3
          have f4 := fr 4
          have f5 := fr 5
          clear fr S' S ho
          have hn : n = 0 ∨ n = 1 ∨ n = 2 ∨ n = 3 ∨ n = 4 ∨ n = 5 := by omega
          clear hn5 hn5'
          rcases hn with rfl | rfl | rfl | rfl | rfl | rfl
          all_goals go_wp2_with fail
          all_goals refine bodyPost_ret (results_rec3 rfl rfl ((unhide HS).res.setAll _ _ _ _ _ _)) rfl ?_
          all_goals exact ⟨by rw [unhide R]; rfl, set6_below (unhide HS).bel (Nat.le_refl _)⟩

theorem rdecoded_any (s : ByteArray) (w : World) (hs : s.size ≤ 281474976710656) :
    Calls Tryd.prog 34 #[.string s] w fun e w' => e = .returned (decV s.data.toList) ∧ Below w.heap.size w w' := by
  obtain ⟨X, K, E, hr⟩ : ∃ X K E, Pk.rt s.data.toList 1024 = (X, K, E) := ⟨_, _, _, rfl⟩
  by_cases hE : E = 0
  · subst hE
    obtain ⟨hK, hX⟩ := rt_size hr
    rw [len_size] at hK
    by_cases h4 : s.size < K + 4
    · exact rdecoded_B s X K w hs hr hK h4
    have h4' : ¬ s.data.toList.length < K + 4 := by rw [len_size]; exact h4
    have hiff := sum_iff (l := s.data.toList) (K := K) (c := Pk.crc X) (by rw [len_size]; omega) (Pk.crc_lt X)
    by_cases hsum : nS s.data.toList K 4 = Pk.crc X
    · by_cases h0 : X.length = 0
      · exact rdecoded_C s X K w hs hr (by omega) hX (.inr h0) (dec_D hr h4' (hiff.1 hsum) (.inl h0))
      · exact rdecoded_D s X K w hs hr (by omega) hX hsum (by omega) (fun h => dec_D hr h4' (hiff.1 hsum) (.inr h)) (fun ho hc => dec_F hr h4' (hiff.1 hsum) h0 ho hc)
    · exact rdecoded_C s X K w hs hr (by omega) hX (.inl hsum) (dec_C hr h4' (fun h => hsum (hiff.2 h)))
  · exact rdecoded_A s X K E w hs hr hE
end Go.Proofs.YtmbnmljkioikjaaDoor
