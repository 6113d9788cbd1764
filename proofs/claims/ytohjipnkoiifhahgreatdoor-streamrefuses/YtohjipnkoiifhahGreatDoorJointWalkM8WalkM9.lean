/-
  Contract of the program's disk: Crash, file by file in any order; what is asked of a disk, of it.
  The program's disk does what is asked of a disk.
-/
import Derived.Test.YtohjipnkoiifhahGreatDoorJointWalkM5WalkM6WalkM7
import Derived.StillTailTactics
import Derived.Test.YtohjipnkoiifhahGreatDoorWalkM3
import Derived.Test.YtohjipnkoiifhahGreatDoorJointRowMWalkM1WalkM2WalkMC
namespace Go.Proofs.YtohjipnkoiifhahGreatDoor.Dk
open Go.RowKit

/-- the files while a stop goes through them: those that are still to come are as they were -/
def half (keep : Int) (left : Lit → Bool) (es : List Pap) : List Pap := es.map (fun e => if left (.int .i64 e.n) then e else stopP keep e)
theorem half_fnd (keep : Int) (left : Lit → Bool) (es : List Pap) (k : Int) : fnd (half keep left es) k = (fnd es k).map (fun e => if left (.int .i64 e.n) then e else stopP keep e) :=
  fnd_map es _ (fun e => by split <;> rfl) k
theorem half_start {keep : Int} {left : Lit → Bool} {es : List Pap} (h : ∀ e ∈ es, left (.int .i64 e.n) = true) : half keep left es = es := by
  unfold half
  conv => rhs; rw [← List.map_id es]
  exact List.map_congr_left (fun e he => by rw [h e he]; rfl)
theorem half_end {keep : Int} {left : Lit → Bool} {es : List Pap} (h : ∀ kl, left kl = false) : half keep left es = es.map (stopP keep) := by
  unfold half
  exact List.map_congr_left (fun e _ => by rw [h]; rfl)
theorem half_step {keep : Int} {left : Lit → Bool} {es : List Pap} {x : Int} {e : Pap} (hf : fnd es x = some e) (k : Int) : fnd (half keep (fun z => left z && !z.sameKey (.int .i64 x)) es) k = if k = x then some (stopP keep e) else fnd (half keep left es) k := by
  rw [half_fnd, half_fnd]
  by_cases hk : k = x
  · rw [if_pos hk, hk, hf]
    have := (fnd_mem hf).2
    simp [this, Lit.sameKey]
  · rw [if_neg hk]
    cases hfk : fnd es k with
    | none => rfl
    | some e1 =>
      have h1 := (fnd_mem hfk).2
      have : Lit.sameKey (.int .i64 e1.n) (.int .i64 x) = false := Maps.sameKey_ne (lit_ne (by rw [h1]; exact hk))
      simp [this]
theorem half_at {keep : Int} {left : Lit → Bool} {es : List Pap} {x : Int} {e : Pap} (hf : fnd es x = some e) (hl : left (.int .i64 x) = true) : fnd (half keep left es) x = some e := by
  rw [half_fnd, hf]
  have := (fnd_mem hf).2
  simp [this, hl]
theorem half_len (keep : Int) (left : Lit → Bool) (es : List Pap) : (half keep left es).length = es.length := by simp [half]
/-- where a stop cuts a file, as the program reckons it -/
theorem stop_reckon {e : Pap} (keep : Int) (h0 : 0 ≤ e.sure) (h1 : e.sure ≤ (e.text.size : Int)) : e.sure + min (max keep 0) ((e.text.size : Int) - e.sure) = (stopAt e keep : Int) := by
  unfold stopAt
  omega
/-- what a stop has left so far -/
def Stops (w wr : World) (B q : Nat) (rl : Nat → Option (Nat × Int)) (m : Int) (es : List Pap) (b : Nat) (D : DataW Unit) (cO : Int → Nat) (keep : Int) (left : Lit → Bool) : Prop := ∃ rl' vO, Disk wr B q rl' m (half keep left es) (some b) D cO vO ∧ Chg (fun k => (rl k).isSome = true) w wr ∧ (∀ k, (rl' k).isSome = true → (rl k).isSome = true ∨ w.heap.size < k)

set_option maxRecDepth 100000 in
set_option maxHeartbeats 1000000 in
theorem dcrash_any {w : World} {B q : Nat} {F : Nat → Prop} {m : Int} {es : List Pap} (keep : Int) (hH : Has w B q F m es) (ht : Tidy m es) (hm : m ≤ 65536) :
    Calls Tryz.prog 45 #[.pointer (some ⟨q, 0, none⟩), .int .i64 keep] w fun e w' => e = .returned (.tuple #[]) ∧ Did Has w w' B q F m (es.map (stopP keep)) := by
  have HH := hide hH
  obtain ⟨rl, mb, D, cO, vO, hF, h⟩ := hH
  have k1 := h.c1
  have HT := hide ht
  have hfit := ht.fits
  rcases h.mp with ⟨rfl, rfl⟩ | ⟨b, rfl, hown⟩
  · have h0 : es = [] := List.eq_nil_of_length_eq_zero h.sz.symm
    subst h0
    have hrg := run_range_nilMap (P := Tryz.prog) w 101 3 114 Tryz.underlying101
    have hnx : ∀ ty, (Instr.next (.pointer (some ⟨w.heap.size, 0, none⟩)) false ty).run Tryz.prog (w.alloc (.mapIter none 0 #[] 0)) = _ := fun ty => run_next_nilMap w ty 0 0 #[]
    clear h hF ht hfit
    go_enter Tryz.func45, Tryz.ntmps45
    go_wp2_with fail
    refine wp_loop_rounds 1 ?_
    rw [rounds_succ]
    go_wp2_with fail
    go_end0
    exact ⟨rfl, did_new (unhide HH) ((Below.refl _ _).alloc (Nat.le_refl _) _)⟩
  · have H := hide h
    have HF := hide hF
    have hbl := hown.lt
    clear h hF ht
    go_enter Tryz.func45, Tryz.ntmps45
    go_wp2_with (first
      | (at_range; refine wpList_range_own _ rfl _ 101 rfl 3 114 lawK Tryz.underlying101 _ b _ _ rfl hown ?_; intro w0 hrg0 hg0 hs0)
      | go_in)
    go_frame
    clear k1
    go_loopw [11] (fun _ wr => ∃ (left : Lit → Bool) (cnt : Nat), wr.ranges Tryz.prog 3 fileElem b w.heap.size (Maps.size D) D left cnt ∧ Hid (Stops w wr B q rl m es b D cO keep left)) (fun _ wr => wr.rangeLeft b w.heap.size)
    case atStart =>
      refine ⟨_, _, hrg0, hide ⟨rl, vO, ?_, (Chg.of_grown hg0).mono (fun k _ z => by cases z), fun k hk => .inl hk⟩⟩
      rw [half_start (fun e he => by rw [(unhide H).key, ← num_mem]; exact List.mem_map.2 ⟨e, he, rfl⟩)]
      exact (unhide H).keep (A := fun _ => False) ((Chg.of_grown hg0).mono (fun k _ z => by cases z)) (fun _ _ z => z)
    case round =>
      obtain ⟨left, cnt, hrg, hS⟩ := hrel
      clear hrg0 hg0 hs0
      go_wp2_with (first
        | (at_next; refine wpList_next_ranges _ rfl _ rfl 3 lawK fileElem (Value.int .i64) mkP invK invV b w.heap.size _ _ _ _ rfl hrg ?_ ?_)
        | go_in)
      · intro _ hl0
        go_wp2_with fail
        go_end0
        obtain ⟨rl', vO', h', hc, hr⟩ := unhide hS
        rw [half_end hl0] at h'
        exact ⟨rfl, h'.did (unhide HF) hc (fun k hk => (hr k hk).imp id Nat.le_of_lt)⟩
      · intro x c kl yd yp w2 cnt2 hkey hlk hv hat hrg2 hlt hg2 hs2 hen
        obtain ⟨rfl, rfl, e, hf⟩ := (unhide H).came hkey hv hat
        obtain ⟨rl', vO', h', hc, hr⟩ := unhide hS
        have hit : ¬ (rl' w.heap.size).isSome = true := fun z => by
          rcases hr _ z with y | y
          · have := ((unhide H).own _ y).2; omega
          · omega
        have hg2' : Chg (fun k => k = w.heap.size) wr w2 := (Chg.of_grown hg2).mono (fun k _ z => (Option.some.inj z).symm)
        have h2 := h'.keep hg2' (fun k hk z => hit (by rw [← z]; exact hk))
        have hf2 := half_at (keep := keep) hf hlk
        have hfile := h2.file x e hf2
        have haw := h2.away hf2
        obtain ⟨a, cap, hvv, _, _⟩ := hfile.shape
        have d0 : w2.drew.cell? ⟨cO x, 0, none⟩ = some (.slice a e.text.size cap) := by rw [← hvv]; exact hfile.c0
        have d1 : w2.drew.cell? ⟨cO x, 1, none⟩ = some (.int .i64 e.sure) := hfile.c1
        have hmem := used_mem (fnd_mem hf).1
        have hs01 := (unhide HT).each e (fnd_mem hf).1
        have hK := stop_reckon keep hs01.2.1 hs01.2.2
        have hst := stop_le e keep
        have hs0 := hs01.2.1
        have hs1 := hs01.2.2
        obtain ⟨K, hKK⟩ : ∃ K, K = max keep 0 := ⟨_, rfl⟩
        have hmx : ∀ ts t W, (Builtin.max_ ts t #[.int .i64 keep, .int .i64 0]).run Tryz.prog W = .ok (.int .i64 K) W := fun ts t W => by rw [run_max_int2, hKK]; congr 2; omega
        obtain ⟨M, hMM⟩ : ∃ M, M = min K ((e.text.size : Int) - e.sure) := ⟨_, rfl⟩
        have hmn : ∀ ts t W, (Builtin.min_ ts t #[.int .i64 K, .int .i64 ((e.text.size : Int) - e.sure)]).run Tryz.prog W = .ok (.int .i64 M) W := fun ts t W => by rw [run_min_int2, hMM]; congr 2; omega
        have hw1 : IntKind.i64.wrap ((e.text.size : Int) - e.sure) = (e.text.size : Int) - e.sure := by rw [IntKind.wrap_i64]; omega
        have hw2 : IntKind.i64.wrap (e.sure + M) = (stopAt e keep : Int) := by rw [IntKind.wrap_i64]; omega
        have hfd : File w2.drew B (cO x) (vO' x) e := hfile.chg (A := fun _ => False) (Chg.of_below (Below.refl _ _).drew) (fun z => z) (fun _ _ z => z)
        have PC := hide (ccut_any (stopAt e keep) hfd haw hst)
        have HX : Hid (∀ w3, (∃ v', File w3 B (cO x) v' (cutP e (stopAt e keep)) ∧ v'.ownBlock = (vO' x).ownBlock ∧ Chg (fun k => k = cO x ∨ (vO' x).ownBlock = some k) w2.drew w3) → w3.ranges Tryz.prog 3 fileElem b w.heap.size (Maps.size D) D (fun z => left z && !z.sameKey (.int .i64 x)) cnt2 ∧ Hid (Stops w w3 B q rl m es b D cO keep (fun z => left z && !z.sameKey (.int .i64 x)))) := hide (by
          rintro w3 ⟨v', p1, p2, p3⟩
          have p3' : Chg (fun k => k = cO x ∨ (vO' x).ownBlock = some k) w2 w3 := (Chg.of_below (Below.refl _ _).drew).trans p3
          obtain ⟨rl3, h3, hr3⟩ := h2.one (e' := stopP keep e) (es' := half keep (fun z => left z && !z.sameKey (.int .i64 x)) es) hf2 (by rw [half_len, half_len]) (half_step hf) p3' p1 (fun g hg => .inl (by rw [← p2]; exact hg))
          refine ⟨?_, hide ⟨rl3, _, h3, ?_, fun k hk => ?_⟩⟩
          · have n1 : ¬ (b = cO x ∨ (vO' x).ownBlock = some b) := fun z => by
              have rb := h2.r1 b rfl
              rcases z with z | z
              · rw [z, h2.r2 x e hf2] at rb; cases rb
              · rw [h2.r3 x e hf2 b z] at rb; cases rb
            have n2 : ¬ (w.heap.size = cO x ∨ (vO' x).ownBlock = some w.heap.size) := fun z => hit (by
              rcases z with z | z
              · rw [z, h2.r2 x e hf2]; rfl
              · rw [h2.r3 x e hf2 _ z]; rfl)
            have l1 := hrg2.owns.lt
            have l2 := hrg2.lt
            obtain ⟨xs, clock, since, seen, c0, z1, F1, z2, z3, z4, rest⟩ := hrg2
            exact ⟨xs, clock, since, seen, c0, (p3'.block b l1 n1).trans z1, F1, z2, z3, (p3'.block _ l2 n2).trans z4, rest⟩
          · refine (hc.more hg2' (fun i hi z => by omega)).more (h2.foot hf2 p3') (fun i hi z => ?_)
            rcases hr i z with y | y
            · exact y
            · omega
          · rcases hr3 k hk with y | y
            · exact hr k y
            · right
              have := hrg2.lt
              omega)
        have hql := hrg.left_eq
        clear h2 h' hc hr hit hg2' hfile haw hvv hfd hMM hKK hK hs01 hmem hst hkey hlk hv hat hf hf2 hs2 hg2 hs0 hs1
        unfold mkP at hen ⊢
        go_wp2_with fail
        have mixed : Tryz.prog.follows .mixedOrders = true := by kernel_rfl
        go_still_tail 19, mixed
        go_wp2_with fail
        refine (unhide PC).mono ?_
        rintro r w3 ⟨rfl, hx3⟩
        obtain ⟨hrg3, hS3⟩ := unhide HX w3 hx3
        clear hx3 d0 d1 hen
        go_wp2_with fail
        go_roundw
        case rel => exact ⟨_, cnt2, hrg3, hS3⟩
        case measure => rw [hrg3.left_eq, hql]; exact hlt
end Go.Proofs.YtohjipnkoiifhahGreatDoor.Dk

namespace Go.Proofs.YtohjipnkoiifhahGreatDoor.Dk
open Go.RowKit

theorem works : Works Has := {
  own := fun h => h.own
  chg := fun h hc hA => h.chg hc hA
  append := fun n s h ht hm hs hB => dappend_any n s h ht hm hs hB
  sync := fun n hn h ht _ _ => dsync_any n hn h ht
  remove := fun n hn h ht _ _ => dremove_any n hn h ht
  crash := fun keep h ht hm _ => dcrash_any keep h ht hm
  read := fun n hn h _ _ _ => (dread_any n hn h).mono (fun e w' ⟨h1, h2⟩ => ⟨h1, by subst h2; exact did_same h⟩)
  used := fun h ht hm _ => (dused_any h ht hm).mono (fun e w' ⟨h1, h2⟩ => ⟨h1, did_new h h2⟩) }
end Go.Proofs.YtohjipnkoiifhahGreatDoor.Dk
