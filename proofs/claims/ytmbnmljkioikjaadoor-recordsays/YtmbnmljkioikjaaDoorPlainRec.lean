/-
  Plain mathematics of records as bytes: a body out of its parts and the parts out of a body, a sum as four bytes. No program.
-/
import Derived.Test.YtmbnmljkioikjaaDoorPlainN
namespace Go.Proofs.YtmbnmljkioikjaaDoor.Pk

/-! records -/
theorem rt_one {l x : List UInt8} {most : Int} {n : Nat} (h : rt l most = (x, n, 0)) : txt x = l.take n ∧ n ≤ l.length ∧ (x.length : Int) ≤ most := by
  unfold rt at h
  split at h
  · rename_i he; injection h with _ h; injection h with _ h; exact absurd h he
  rename_i he
  have he0 : (rd l).2.2 = 0 := Classical.byContradiction fun q => he q
  obtain ⟨g1, g2, g3, g4, g5⟩ := rd_good he0
  split at h
  · injection h with _ h; injection h with _ h; exact absurd h (by decide)
  rename_i hm
  split at h
  · injection h with _ h; injection h with _ h; exact absurd h (by decide)
  rename_i hl
  injection h with h1 h2
  injection h2 with h2 _
  have hx : x.length = (rd l).1 := by rw [← h1]; simp; omega
  refine ⟨?_, by omega, by omega⟩
  unfold txt
  rw [hx, g1, ← h1, ← h2, List.take_add]
/-- a record's body -/
def body (k q t : Nat) (s h d : List UInt8) : List UInt8 := UInt8.ofNat k :: (enc q ++ (enc t ++ (txt s ++ (txt h ++ txt d))))
def le4 (n : Nat) : List UInt8 := [UInt8.ofNat (n % 256), UInt8.ofNat (n / 256 % 256), UInt8.ofNat (n / 65536 % 256), UInt8.ofNat (n / 16777216 % 256)]
def num4 (l : List UInt8) : Nat := at' l 0 + 256 * at' l 1 + 65536 * at' l 2 + 16777216 * at' l 3
theorem num4_le4 {n : Nat} (h : n < 4294967296) (more : List UInt8) : num4 (le4 n ++ more) = n := by
  unfold num4 le4
  simp only [List.cons_append, at_zero, at_succ, List.nil_append]
  rw [u8_of (by omega), u8_of (by omega), u8_of (by omega), u8_of (by omega)]
  omega
theorem le4_num4 {l : List UInt8} (h : 4 ≤ l.length) : le4 (num4 l) = l.take 4 := by
  match l, h with
  | a :: b :: c :: d :: r, _ =>
    unfold num4 le4
    simp only [at_zero, at_succ]
    have ha := UInt8.toNat_lt a
    have hb := UInt8.toNat_lt b
    have hc := UInt8.toNat_lt c
    have hd := UInt8.toNat_lt d
    rw [show (a.toNat + 256 * b.toNat + 65536 * c.toNat + 16777216 * d.toNat) % 256 = a.toNat from by omega,
      show (a.toNat + 256 * b.toNat + 65536 * c.toNat + 16777216 * d.toNat) / 256 % 256 = b.toNat from by omega,
      show (a.toNat + 256 * b.toNat + 65536 * c.toNat + 16777216 * d.toNat) / 65536 % 256 = c.toNat from by omega,
      show (a.toNat + 256 * b.toNat + 65536 * c.toNat + 16777216 * d.toNat) / 16777216 % 256 = d.toNat from by omega]
    simp
/-- what stands behind a number, behind a text -/
def aftN (l : List UInt8) : List UInt8 := l.drop (rd l).2.1
def aftT (l : List UInt8) : List UInt8 := l.drop (rt l 1024).2.1
theorem split_N {l : List UInt8} (h : (rd l).2.2 = 0) : enc (rd l).1 ++ aftN l = l := by
  rw [(rd_good h).1]; exact List.take_append_drop _ _
theorem split_T {l : List UInt8} (h : (rt l 1024).2.2 = 0) : txt (rt l 1024).1 ++ aftT l = l ∧ (rt l 1024).1.length ≤ 1024 := by
  have := rt_one (l := l) (most := 1024) (x := (rt l 1024).1) (n := (rt l 1024).2.1) (by rw [← h])
  refine ⟨?_, by omega⟩
  rw [this.1]
  exact List.take_append_drop _ _
/-- are a body's parts right, and is nothing left behind them? -/
def partsOk (r0 : List UInt8) : Prop := (rd r0).2.2 = 0 ∧ (rd (aftN r0)).2.2 = 0 ∧ (rt (aftN (aftN r0)) 1024).2.2 = 0 ∧ (rt (aftT (aftN (aftN r0))) 1024).2.2 = 0 ∧ (rt (aftT (aftT (aftN (aftN r0)))) 1024).2.2 = 0 ∧ aftT (aftT (aftT (aftN (aftN r0)))) = []
theorem aftN_enc {n : Nat} (h : n < 9223372036854775808) (more : List UInt8) : aftN (enc n ++ more) = more := by
  unfold aftN; rw [rd_enc h]; simp
theorem rt_at {t : List UInt8} (h : t.length ≤ 1024) (more : List UInt8) : rt (txt t ++ more) 1024 = (t, (txt t).length, 0) := by
  have h0 : t.length < 9223372036854775808 := by omega
  unfold rt txt
  rw [List.append_assoc, rd_enc h0]
  simp only []
  rw [if_neg (by simp), if_neg (by omega), if_neg (by simp)]
  simp
theorem aftT_txt {x : List UInt8} (h : x.length ≤ 1024) (more : List UInt8) : aftT (txt x ++ more) = more := by
  unfold aftT; rw [rt_at h]; simp
theorem parts_body {q t : Nat} {s h d : List UInt8} (hq : q < 9223372036854775808) (ht : t < 9223372036854775808) (hs : s.length ≤ 1024) (hh : h.length ≤ 1024) (hd : d.length ≤ 1024) :
    partsOk (enc q ++ (enc t ++ (txt s ++ (txt h ++ txt d)))) := by
  have e5 : rt (txt d) 1024 = (d, (txt d).length, 0) := by have := rt_at hd []; rwa [List.append_nil] at this
  have e6 : aftT (txt d) = [] := by have := aftT_txt hd []; rwa [List.append_nil] at this
  unfold partsOk
  rw [aftN_enc hq, aftN_enc ht, aftT_txt hs, aftT_txt hh, rd_enc hq, rd_enc ht, rt_at hs, rt_at hh, e5, e6]
  exact ⟨rfl, rfl, rfl, rfl, rfl, rfl⟩
theorem parts_one {r0 : List UInt8} (h : partsOk r0) :
    enc (rd r0).1 ++ (enc (rd (aftN r0)).1 ++ (txt (rt (aftN (aftN r0)) 1024).1 ++ (txt (rt (aftT (aftN (aftN r0))) 1024).1 ++ txt (rt (aftT (aftT (aftN (aftN r0)))) 1024).1))) = r0 := by
  obtain ⟨h1, h2, h3, h4, h5, h6⟩ := h
  have s5 := (split_T h5).1
  rw [h6, List.append_nil] at s5
  rw [s5, (split_T h4).1, (split_T h3).1, split_N h2, split_N h1]
end Go.Proofs.YtmbnmljkioikjaaDoor.Pk
