/-
  The program's store does what is asked of a store.
  The document's store in memory: a row of messages and the last number, in a block of its own; a map of how many messages each subject has. No walk.
  A stream, pure: what Publish, Purge and Age make of it, over a vault. No program.
  A stream, pure: room is made; bounds hold behind each post; numbers rise by one. No program.
-/
import Derived.Test.YtmccpkpeimejhahGreatDoorJointWalkX6WalkX7WalkX8WalkX9a
import Derived.Test.YtmccpkpeimejhahGreatDoorJointRowFWalkFWalkX9WalkXF
import Derived.Test.YtmccpkpeimejhahGreatDoorJointRowSRowUWalkXSOvV
import Derived.Test.YtmccpkpeimejhahGreatDoorJointWalkXTWalkXLWorksSWorksT
import Derived.Test.YtmccpkpeimejhahGreatDoorJointPapTPapVaRowVWorksV
import Derived.Test.YtmccpkpeimejhahGreatDoorJointOvRPlainIPapCPapE
import Derived.Test.YtmccpkpeimejhahGreatDoorJointRowGPapNWorksGPapH
import Derived.Maps.OwnSet
import Derived.Maps.OwnOps
import Derived.Test.YtmccpkpeimejhahGreatDoorJointPlainKPapPbPapPnPapD
namespace Go.Proofs.YtmccpkpeimejhahGreatDoor.Dk
open Go.RowKit

theorem Sto.Ok.smalls {s : Sto} (h : s.Ok) : ∀ x ∈ s.l, Small x := fun x hx => Small.of (h.msg x hx).2
theorem Sto.Ok.rights {s : Sto} (h : s.Ok) : ∀ x ∈ s.l, errS false x.s = 0 := fun x hx => right_msg (h.msg x hx).2 (h.msg x hx).1
theorem sworks : SWorks SHas where
  own := fun h => h.own
  chg := fun h hc hn => h.chg hc hn
  new := fun w => (snew_any w).mono (by
    rintro e w' ⟨rfl, h, hb⟩
    exact ⟨_, _, rfl, ⟨_, _, [], h, Cnt.nil, rfl⟩, hb⟩)
  apply := fun r hm h hk hB => by
    obtain ⟨v, u, es, h1, h2, rfl⟩ := h
    refine (sapply_any r hm h1 h2 hk hB).mono ?_
    rintro e w' ⟨he, es', m, c⟩
    exact ⟨he, SHas.did m c⟩
  all := fun h hk hB => by
    obtain ⟨v, u, es, h1, h2, rfl⟩ := h
    exact sall_any h1 hk.few hk.smalls
  sums := fun h hk hB => by
    obtain ⟨v, u, es, h1, h2, rfl⟩ := h
    exact ssum_any h1 hk.few (fun x hx => hk.small hx)
  next := fun f n hf h hk hB => by
    obtain ⟨v, u, es, h1, h2, rfl⟩ := h
    exact snext_any f n hf h1 hk.rise hk.few hk.smalls hk.rights
theorem stells : STells SHas where
  subjects := by
    intro w B q F s f es hf h hk hB hc
    obtain ⟨v, u, es', h1, h2, rfl⟩ := h
    rw [hc.same h2]
    exact ssub_any f hf h1 h2.good
end Go.Proofs.YtmccpkpeimejhahGreatDoor.Dk

namespace Go.Proofs.YtmccpkpeimejhahGreatDoor.Dk
open Go.RowKit

theorem lawS : Maps.Keyed Tryz.prog 9 := Maps.string_keyed Tryz.underlying9
/-- what a subject is as a key -/
def kS (s : ByteArray) : Lit := .string s.data.toList
theorem keyS {s : ByteArray} (h : s.size ≤ maxLen) : keyOf Tryz.prog 9 (.string s) = some (kS s) := WideMaps.keyOf_string_mk Tryz.underlying9 h
theorem kS_ne {a b : ByteArray} (h : a ≠ b) : kS a ≠ kS b := fun e => h (by
  unfold kS at e
  have := Lit.string.inj e
  apply ByteArray.ext
  exact Array.ext' this)
theorem zeroI (w : World) : (zeroValue 3).run Tryz.prog w = .ok (.int .i64 0) w := by kernel_rfl
/-- how many messages each subject has, as a map -/
structure Nam (w : World) (b : Nat) (l : List Rc) (D : DataW Unit) : Prop where
  own : w.ownsMap Tryz.prog 9 (plainElem Tryz.prog 3) b l.length D
  at' : ∀ s : ByteArray, s.size ≤ maxLen → D.atKey (kS s) (.lit (.int .i64 0)) = .lit (.int .i64 (cntN l s : Int))
  has : ∀ s : ByteArray, s.size ≤ maxLen → Maps.has D (kS s) = decide (0 < cntN l s)
  size : Maps.size D = nameN l
theorem Nam.made (w : World) : Nam (w.alloc (.map #[] 0)) w.heap.size [] (.map []) := by
  refine ⟨World.ownsMap_made _ _ _ _, fun s _ => ?_, fun s _ => ?_, rfl⟩
  · simp [DataW.atKey, cntN]
  · simp [Maps.has, cntN]
theorem kS_key (s : ByteArray) : WideAt.IsKeyLit (kS s) := by unfold kS; trivial
theorem Nam.put {w w' : World} {b : Nat} {l : List Rc} {D : DataW Unit} (h : Nam w b l D) (r : Rc) (hs : r.s.size ≤ maxLen) (h' : w'.ownsMap Tryz.prog 9 (plainElem Tryz.prog 3) b (l.length + 1) (D.put (kS r.s) (.lit (.int .i64 ((cntN l r.s : Int) + 1))))) : Nam w' b (l ++ [r]) (D.put (kS r.s) (.lit (.int .i64 ((cntN l r.s : Int) + 1)))) := by
  have hD := h.own.tidy lawS
  refine ⟨by rw [List.length_append, List.length_singleton]; exact h', fun s hz => ?_, fun s hz => ?_, ?_⟩
  · rw [cntN_append, cntN_one]
    by_cases e : r.s = s
    · rw [if_pos e, ← e, Maps.atKey_put_same hD.isMap (kS_key _)]
      simp
    · rw [if_neg e, Maps.atKey_put_other (kS_ne (fun z => e z.symm)), h.at' s hz]
      simp
  · rw [cntN_append, cntN_one]
    by_cases e : r.s = s
    · rw [if_pos e, ← e, Maps.has_put_same hD.isMap (kS_key _)]
      simp
    · rw [if_neg e, Maps.has_put_other (kS_ne (fun z => e z.symm)), h.has s hz]
      simp
  · rw [Maps.size_put hD, h.has _ hs, h.size, nameN_snoc, cntN_has]
    cases decide (0 < cntN l r.s) <;> simp
theorem Nam.drew {w : World} {b : Nat} {l : List Rc} {D : DataW Unit} (h : Nam w b l D) : Nam w.drew b l D := ⟨h.own.drew, h.at', h.has, h.size⟩
theorem Nam.drewN {w : World} {b : Nat} {l : List Rc} {D : DataW Unit} (h : Nam w b l D) (n : Nat) : Nam (w.drewN n) b l D := ⟨h.own, h.at', h.has, h.size⟩
/-- the document's store, in block c -/
def Che (w : World) (B c : Nat) (F : Nat → Prop) (s : Sto) : Prop :=
  ∃ v, (B ≤ c ∧ c < w.heap.size) ∧ w.cell? ⟨c, 0, none⟩ = some v ∧ w.cell? ⟨c, 1, none⟩ = some (.int .i64 s.last) ∧ w.frozen? ⟨c, 0, none⟩ = false ∧ w.frozen? ⟨c, 1, none⟩ = false ∧ ArrR w B v s.l ∧ v.ownBlock ≠ some c ∧ ∀ k, F k ↔ k = c ∨ v.ownBlock = some k
theorem Che.own {w : World} {B c : Nat} {F : Nat → Prop} {s : Sto} (h : Che w B c F s) : ∀ k, F k → B ≤ k ∧ k < w.heap.size := fun k hk => by
  obtain ⟨v, h1, _, _, _, _, h6, _, h8⟩ := h
  rcases (h8 k).1 hk with y | y
  · subst y; exact h1
  · exact World.ownsRow.lt h6 k y
theorem Che.chg {w w' : World} {B c : Nat} {F : Nat → Prop} {s : Sto} {A : Nat → Prop} (h : Che w B c F s) (hc : Chg A w w') (hn : ∀ k, F k → ¬ A k) : Che w' B c F s := by
  obtain ⟨v, h1, h2, h3, h4, h5, h6, h7, h8⟩ := h
  have hcA : ¬ A c := hn c ((h8 c).2 (.inl rfl))
  exact ⟨v, ⟨h1.1, Nat.lt_of_lt_of_le h1.2 hc.size⟩, by rw [hc.cell (p := ⟨c, 0, none⟩) h1.2 hcA]; exact h2, by rw [hc.cell (p := ⟨c, 1, none⟩) h1.2 hcA]; exact h3, by rw [hc.frozen (p := ⟨c, 0, none⟩) h1.2 hcA]; exact h4, by rw [hc.frozen (p := ⟨c, 1, none⟩) h1.2 hcA]; exact h5, h6.chg hc (fun g hg => hn g ((h8 g).2 (.inr hg))), h7, h8⟩
theorem Che.below {w w' : World} {B c : Nat} {F : Nat → Prop} {s : Sto} (h : Che w B c F s) (hb : Below w.heap.size w w') : Che w' B c F s := h.chg (A := fun _ => False) (Chg.of_below hb) (fun _ _ z => z)
/-- the messages of a store, read -/
theorem Che.read {w : World} {B c : Nat} {F : Nat → Prop} {s : Sto} (h : Che w B c F s) : ∃ a cap, w.cell? ⟨c, 0, none⟩ = some (.slice a s.l.length cap) ∧ w.cell? ⟨c, 1, none⟩ = some (.int .i64 s.last) ∧ s.l.length ≤ cap ∧ cap ≤ maxLen ∧ SlR w a s.l ∧ c < w.heap.size := by
  obtain ⟨v, h1, h2, h3, _, _, h6, _⟩ := h
  obtain ⟨a, cap, rfl, x1, x2, x3⟩ := h6.shape
  exact ⟨a, cap, h2, h3, x1, x2, x3, h1.2⟩
theorem seqB_take {l : List Rc} {k : Nat} (h : k < l.length) (n : Int) : seqB (l.take (k + 1)) n = (seqB (l.take k) n || decide ((rc l k).q = n)) := by
  rw [List.take_succ_eq_append_getElem h, rc_get h]
  unfold seqB
  rw [List.any_append]
  simp
end Go.Proofs.YtmccpkpeimejhahGreatDoor.Dk

namespace Go.Proofs.YtmccpkpeimejhahGreatDoor.Dk
open Go

/-- a post: subject, id, header, data, the number that is expected, what is rolled up -/
structure Po where
  s : ByteArray
  i : ByteArray
  h : ByteArray
  d : ByteArray
  x : Int
  ro : Int
/-- an id that is known: since when, and of which number -/
structure Kn where
  i : ByteArray
  a : Int
  q : Int
/-- a stream: the disk's files, the store, the ids -/
structure Str where
  es : List Pap
  s : Sto
  ids : List Kn
/-- a plan's k-th number: msgs bytes age per size discard keep window -/
def pv (p : Pn.Pln) (k : Nat) : Int := nth p.v k
def takesP (p : Pn.Pln) (s : ByteArray) : Bool := p.f.any fun f => tkB f s
/-- what is wrong with a post ahead of all looking at the messages -/
def preE (p : Pn.Pln) (now : Int) (x : Po) : Int :=
  if (inI now 0 1099511627776 && (decide (-1 ≤ x.x) && inI x.ro 0 2)) = false then 1
  else if errS false x.s ≠ 0 then errS false x.s
  else if takesP p x.s = false then 10
  else if (decide (256 < x.h.size + x.d.size) || ((decide (pv p 4 ≠ 0) && decide (pv p 4 < ((x.h.size + x.d.size : Nat) : Int))) || decide (16 < x.i.size))) = true then 2
  else 0
def seenQ (ids : List Kn) (i : ByteArray) (from' : Int) : Int := ids.foldl (fun q k => if k.i = i ∧ from' ≤ k.a then k.q else q) 0
def sameN (l : List Rc) (s : ByteArray) : Nat := l.countP fun r => decide (r.s = s)
def firstS (l : List Rc) (s : ByteArray) : Int := ((l.find? fun r => decide (r.s = s)).map (·.q)).getD 0
def szP (x : Po) : Nat := x.s.size + x.h.size + x.d.size
/-- has its subject as many as it may? are there as many as there may be? -/
def crowdB (p : Pn.Pln) (l : List Rc) (x : Po) : Bool := decide (pv p 3 ≠ 0) && decide (pv p 3 ≤ (sameN l x.s : Int))
def fullB (p : Pn.Pln) (l : List Rc) (x : Po) : Bool := (decide (pv p 0 ≠ 0) && decide (pv p 0 ≤ (l.length : Int))) || (decide (pv p 1 ≠ 0) && decide (pv p 1 < ((byteN l + szP x : Nat) : Int)))
def noB : ByteArray := ⟨#[]⟩
def eraR (q now : Int) : Rc := ⟨2, q, now, noB, noB, noB⟩
def msgR (q now : Int) (x : Po) : Rc := ⟨1, q, now, x.s, x.h, x.d⟩
def purR (q now : Int) (f : ByteArray) : Rc := ⟨3, q, now, f, noB, noB⟩
/-- which message goes first -/
def goQ (p : Pn.Pln) (l : List Rc) (x : Po) : Int := if crowdB p l x = true then firstS l x.s else firstQ l
/-- room is made: the error; the files and the store then -/
def roomF (p : Pn.Pln) (m size now : Int) (x : Po) : Nat → List Pap → Sto → Int × List Pap × Sto
  | 0, es, s => (0, es, s)
  | k + 1, es, s => if (crowdB p s.l x || fullB p s.l x) = false then (0, es, s)
    else if pv p 5 = 1 then (8, es, s)
    else if doE es s m size (eraR (goQ p s.l x) now) ≠ 0 then (doE es s m size (eraR (goQ p s.l x) now), es, s)
    else roomF p m size now x k (doL es s m size (eraR (goQ p s.l x) now)) (doS es s m size (eraR (goQ p s.l x) now))
def roomE (p : Pn.Pln) (m size now : Int) (x : Po) (es : List Pap) (s : Sto) : Int × List Pap × Sto :=
  if pv p 1 ≠ 0 ∧ pv p 1 < (szP x : Int) then (8, es, s) else roomF p m size now x (s.l.length + 1) es s
def rollF (x : Po) : ByteArray := if x.ro = 1 then x.s else ⟨#[62]⟩
def idsP (ids : List Kn) (x : Po) (now q : Int) : List Kn := if x.i.size = 0 then ids else ids ++ [⟨x.i, now, q⟩]
/-- the message is written, and what it rolls up goes -/
def putP (m size now : Int) (x : Po) (ids : List Kn) (es : List Pap) (s : Sto) : (Int × Bool × Int) × Str :=
  if doE es s m size (msgR (s.last + 1) now x) ≠ 0 then ((0, false, doE es s m size (msgR (s.last + 1) now x)), ⟨es, s, ids⟩)
  else if x.ro = 0 then ((s.last + 1, false, 0), ⟨doL es s m size (msgR (s.last + 1) now x), doS es s m size (msgR (s.last + 1) now x), idsP ids x now (s.last + 1)⟩)
  else if doE (doL es s m size (msgR (s.last + 1) now x)) (doS es s m size (msgR (s.last + 1) now x)) m size (purR (s.last + 1) now (rollF x)) ≠ 0 then
    ((0, false, doE (doL es s m size (msgR (s.last + 1) now x)) (doS es s m size (msgR (s.last + 1) now x)) m size (purR (s.last + 1) now (rollF x))), ⟨doL es s m size (msgR (s.last + 1) now x), doS es s m size (msgR (s.last + 1) now x), idsP ids x now (s.last + 1)⟩)
  else ((s.last + 1, false, 0), ⟨doL (doL es s m size (msgR (s.last + 1) now x)) (doS es s m size (msgR (s.last + 1) now x)) m size (purR (s.last + 1) now (rollF x)), doS (doL es s m size (msgR (s.last + 1) now x)) (doS es s m size (msgR (s.last + 1) now x)) m size (purR (s.last + 1) now (rollF x)), idsP ids x now (s.last + 1)⟩)
/-- is it told again? -/
def againB (p : Pn.Pln) (now : Int) (x : Po) (ids : List Kn) : Bool := decide (x.i.size ≠ 0) && (decide (pv p 7 ≠ 0) && decide (0 < seenQ ids x.i (now - pv p 7)))
/-- Publish -/
def pubP (p : Pn.Pln) (m size now : Int) (x : Po) (st : Str) : (Int × Bool × Int) × Str :=
  if preE p now x ≠ 0 then ((0, false, preE p now x), st)
  else if againB p now x st.ids = true then ((seenQ st.ids x.i (now - pv p 7), true, 0), st)
  else if x.x ≠ -1 ∧ x.x ≠ st.s.last then ((0, false, 9), st)
  else if (roomE p m size now x st.es st.s).1 ≠ 0 then ((0, false, (roomE p m size now x st.es st.s).1), ⟨(roomE p m size now x st.es st.s).2.1, (roomE p m size now x st.es st.s).2.2, st.ids⟩)
  else putP m size now x st.ids (roomE p m size now x st.es st.s).2.1 (roomE p m size now x st.es st.s).2.2
/-- Purge -/
def pgP (m size : Int) (f : ByteArray) (below : Int) (st : Str) : (Int × Int) × Str :=
  if doE st.es st.s m size (purR below 0 f) ≠ 0 then ((0, doE st.es st.s m size (purR below 0 f)), st)
  else (((st.s.l.length : Int) - ((doS st.es st.s m size (purR below 0 f)).l.length : Int), 0), ⟨doL st.es st.s m size (purR below 0 f), doS st.es st.s m size (purR below 0 f), st.ids⟩)
/-- Age -/
def oldQ (l : List Rc) (t : Int) : Option Rc := l.find? fun r => decide (r.t < t)
def ageF (p : Pn.Pln) (m size now : Int) : Nat → Int → List Pap → Sto → (Int × Int) × List Pap × Sto
  | 0, n, es, s => ((n, 0), es, s)
  | k + 1, n, es, s => match oldQ s.l (now - pv p 2) with
    | none => ((n, 0), es, s)
    | some r => if doE es s m size (eraR r.q now) ≠ 0 then ((n, doE es s m size (eraR r.q now)), es, s)
      else ageF p m size now k (n + 1) (doL es s m size (eraR r.q now)) (doS es s m size (eraR r.q now))
def ageP (p : Pn.Pln) (m size now : Int) (st : Str) : (Int × Int) × Str :=
  if inI now 0 1099511627776 = false then ((0, 1), st)
  else if pv p 2 = 0 then ((0, 0), st)
  else ((ageF p m size now (st.s.l.length + 1) 0 st.es st.s).1, ⟨(ageF p m size now (st.s.l.length + 1) 0 st.es st.s).2.1, (ageF p m size now (st.s.l.length + 1) 0 st.es st.s).2.2, st.ids⟩)

/- what each call keeps -/
theorem VOk.room {p : Pn.Pln} {m size now : Int} {x : Po} : ∀ (k : Nat) {es : List Pap} {s : Sto}, VOk m es s → VOk m (roomF p m size now x k es s).2.1 (roomF p m size now x k es s).2.2
  | 0, _, _, h => h
  | k + 1, es, s, h => by
    unfold roomF
    split
    · exact h
    · split
      · exact h
      · split
        · exact h
        · exact VOk.room k (h.did _)
theorem VOk.roomE {p : Pn.Pln} {m size now : Int} {x : Po} {es : List Pap} {s : Sto} (h : VOk m es s) : VOk m (roomE p m size now x es s).2.1 (roomE p m size now x es s).2.2 := by
  unfold Dk.roomE
  split
  · exact h
  · exact VOk.room _ h
theorem VOk.put {m size now : Int} {x : Po} {ids : List Kn} {es : List Pap} {s : Sto} (h : VOk m es s) : VOk m (putP m size now x ids es s).2.es (putP m size now x ids es s).2.s := by
  unfold putP
  split
  · exact h
  · split
    · exact h.did _
    · split
      · exact h.did _
      · exact (h.did _).did _
theorem VOk.pub {p : Pn.Pln} {m size now : Int} {x : Po} {st : Str} (h : VOk m st.es st.s) : VOk m (pubP p m size now x st).2.es (pubP p m size now x st).2.s := by
  unfold pubP
  split
  · exact h
  · split
    · exact h
    · split
      · exact h
      · split
        · exact h.roomE
        · exact VOk.put h.roomE
theorem VOk.purge {m size : Int} {f : ByteArray} {below : Int} {st : Str} (h : VOk m st.es st.s) : VOk m (pgP m size f below st).2.es (pgP m size f below st).2.s := by
  unfold pgP
  split
  · exact h
  · exact h.did _
theorem VOk.ageF {p : Pn.Pln} {m size now : Int} : ∀ (k : Nat) {n : Int} {es : List Pap} {s : Sto}, VOk m es s → VOk m (ageF p m size now k n es s).2.1 (ageF p m size now k n es s).2.2
  | 0, _, _, _, h => h
  | k + 1, n, es, s, h => by
    unfold Dk.ageF
    split
    · exact h
    · split
      · exact h
      · exact VOk.ageF k (h.did _)
theorem VOk.age {p : Pn.Pln} {m size now : Int} {st : Str} (h : VOk m st.es st.s) : VOk m (ageP p m size now st).2.es (ageP p m size now st).2.s := by
  unfold ageP
  split
  · exact h
  · split
    · exact h
    · exact VOk.ageF _ h
end Go.Proofs.YtmccpkpeimejhahGreatDoor.Dk

namespace Go.Proofs.YtmccpkpeimejhahGreatDoor.Dk
open Go

theorem era_chk {q now : Int} (hq : 1 ≤ q ∧ q ≤ 1099511627776) (hn : 0 ≤ now ∧ now ≤ 1099511627776) : chkR (eraR q now) = 0 := by
  unfold chkR eraR Rc.pk Pk.chk
  simp [Pk.inB, noB]
  omega
/-- a message that is there may be erased -/
theorem era_try {s : Sto} {q now : Int} (h : s.Ok) (hm : ∃ r ∈ s.l, r.q = q) (hn : 0 ≤ now ∧ now ≤ 1099511627776) : tryE s (eraR q now) = 0 := by
  obtain ⟨r, hr, e⟩ := hm
  have hc : chkR (eraR q now) = 0 := era_chk (by rw [← e]; exact h.seq hr) hn
  have hs : seqB s.l q = true := by
    unfold seqB
    rw [List.any_eq_true]
    exact ⟨r, hr, by simpa using e⟩
  unfold tryE
  rw [if_neg (by rw [hc]; simp), if_neg (by intro z; have := z.2; rw [show (eraR q now).q = q from rfl, hs] at this; cases this), if_pos (by show (2 : Int) ≠ 1; decide)]
theorem era_apl {s : Sto} {q now : Int} (h0 : tryE s (eraR q now) = 0) : aplS s (eraR q now) = ⟨s.l.filter (fun x => decide (x.q ≠ q)), s.last⟩ := by
  unfold aplS
  rw [if_neg (by rw [h0]; simp), if_neg (by show ¬ (2 : Int) = 1; decide), if_neg (by show ¬ (2 : Int) = 4; decide)]
  congr 1
  apply List.filter_congr
  intro x _
  unfold goneB eraR
  simp
theorem filter_less {α : Type} {p : α → Bool} : ∀ {l : List α}, (∃ x ∈ l, p x = false) → (l.filter p).length < l.length
  | [], h => by obtain ⟨x, hx, _⟩ := h; cases hx
  | y :: l, h => by
    have hle := List.length_filter_le p l
    by_cases hy : p y = true
    · rw [List.filter_cons_of_pos hy, List.length_cons, List.length_cons]
      obtain ⟨x, hx, e⟩ := h
      rcases List.mem_cons.1 hx with z | z
      · subst z; rw [hy] at e; cases e
      · have := filter_less ⟨x, z, e⟩
        omega
    · rw [List.filter_cons_of_neg hy, List.length_cons]
      omega
theorem sameN_sub {a b : List Rc} (h : a.Sublist b) (s : ByteArray) : sameN a s ≤ sameN b s := h.countP_le
theorem byteN_sub : ∀ {a b : List Rc}, a.Sublist b → byteN a ≤ byteN b
  | _, _, .slnil => Nat.le_refl _
  | _, _, .cons x h => by have := byteN_sub h; rw [byteN]; omega
  | _, _, .cons_cons x h => by have := byteN_sub h; rw [byteN, byteN]; omega
/-- what a Do has made of the store where it was an erasure -/
theorem era_did {es : List Pap} {s : Sto} {m size q now : Int} (h0 : doE es s m size (eraR q now) = 0) : doS es s m size (eraR q now) = ⟨s.l.filter (fun x => decide (x.q ≠ q)), s.last⟩ := by
  unfold doS
  rw [if_pos h0, era_apl (do_ok h0).1]
/-- room takes messages alone -/
theorem room_sub {p : Pn.Pln} {m size now : Int} {x : Po} : ∀ (k : Nat) (es : List Pap) (s : Sto), (roomF p m size now x k es s).2.2.l.Sublist s.l ∧ (roomF p m size now x k es s).2.2.last = s.last
  | 0, _, _ => ⟨List.Sublist.refl _, rfl⟩
  | k + 1, es, s => by
    unfold roomF
    split
    · exact ⟨List.Sublist.refl _, rfl⟩
    · split
      · exact ⟨List.Sublist.refl _, rfl⟩
      · split
        · exact ⟨List.Sublist.refl _, rfl⟩
        · rename_i h0
          have h0 : doE es s m size (eraR (goQ p s.l x) now) = 0 := Classical.not_not.1 h0
          obtain ⟨i1, i2⟩ := room_sub (p := p) (m := m) (size := size) (now := now) (x := x) k (doL es s m size (eraR (goQ p s.l x) now)) (doS es s m size (eraR (goQ p s.l x) now))
          rw [era_did h0] at i1 i2 ⊢
          exact ⟨i1.trans List.filter_sublist, i2⟩
/-- the plan's numbers aren't below 0 -/
structure PPos (p : Pn.Pln) : Prop where
  pos : ∀ k, 0 ≤ pv p k
theorem ppos_of {p : Pn.Pln} (h : Pn.planE p = 0) : PPos p := by
  obtain ⟨_, _, _, _, _, h6⟩ := Pn.plan_ok h
  refine ⟨fun k => ?_⟩
  unfold pv nth
  have key : ∀ (v ms : List Int) (k : Nat), Pn.inAll v ms = true → 0 ≤ (v[k]?).getD 0 := by
    intro v
    induction v with
    | nil => intro ms k _; simp
    | cons y v ih =>
      intro ms k hh
      cases ms with
      | nil => simp [Pn.inAll] at hh
      | cons w ms =>
        simp only [Pn.inAll, Bool.and_eq_true, decide_eq_true_eq] at hh
        cases k with
        | zero => simpa using hh.1.1
        | succ k => simpa using ih ms k hh.2
  exact key p.v Pn.most8 k h6
theorem find_in {l : List Rc} {s : ByteArray} (h : 0 < sameN l s) : ∃ r ∈ l, r.q = firstS l s := by
  unfold sameN at h
  obtain ⟨r, hr, e⟩ := List.countP_pos_iff.1 h
  unfold firstS
  cases hf : l.find? (fun r => decide (r.s = s)) with
  | none =>
    have := List.find?_eq_none.1 hf r hr
    exact absurd e this
  | some y => exact ⟨y, List.mem_of_find?_eq_some hf, rfl⟩
theorem first_in {l : List Rc} (h : 0 < l.length) : ∃ r ∈ l, r.q = firstQ l := by
  cases l with
  | nil => simp at h
  | cons r l => exact ⟨r, by simp, rfl⟩
theorem byteN_pos {l : List Rc} (h : 0 < byteN l) : 0 < l.length := by
  cases l with
  | nil => simp [byteN] at h
  | cons r l => simp
/-- where there is no room there is a message that goes -/
theorem go_in {p : Pn.Pln} {l : List Rc} {x : Po} (hp : PPos p) (hz : ¬ (pv p 1 ≠ 0 ∧ pv p 1 < (szP x : Int))) (h : ¬ (crowdB p l x || fullB p l x) = false) : ∃ r ∈ l, r.q = goQ p l x := by
  unfold goQ
  by_cases hc : crowdB p l x = true
  · rw [if_pos hc]
    unfold crowdB at hc
    simp only [Bool.and_eq_true, decide_eq_true_eq] at hc
    have := hp.pos 3
    exact find_in (by omega)
  · rw [if_neg hc]
    have hc : crowdB p l x = false := by simpa using hc
    rw [hc, Bool.false_or] at h
    have hf : fullB p l x = true := by simpa using h
    unfold fullB at hf
    simp only [Bool.or_eq_true, Bool.and_eq_true, decide_eq_true_eq] at hf
    rcases hf with ⟨a, b⟩ | ⟨a, b⟩
    · have := hp.pos 0
      exact first_in (by omega)
    · have hb : ¬ pv p 1 < (szP x : Int) := fun z => hz ⟨a, z⟩
      exact first_in (byteN_pos (by omega))
/-- room is made to the end -/
theorem room_ends {p : Pn.Pln} {m size now : Int} {x : Po} (hp : PPos p) (hz : ¬ (pv p 1 ≠ 0 ∧ pv p 1 < (szP x : Int))) : ∀ (k : Nat) (es : List Pap) (s : Sto), s.l.length < k → (roomF p m size now x k es s).1 = 0 → (crowdB p (roomF p m size now x k es s).2.2.l x || fullB p (roomF p m size now x k es s).2.2.l x) = false
  | 0, _, s, h, _ => by omega
  | k + 1, es, s, h, h1 => by
    unfold roomF at h1 ⊢
    by_cases a : (crowdB p s.l x || fullB p s.l x) = false
    · rw [if_pos a]; exact a
    · rw [if_neg a] at h1 ⊢
      by_cases b : pv p 5 = 1
      · rw [if_pos b] at h1; cases h1
      · rw [if_neg b] at h1 ⊢
        by_cases c : doE es s m size (eraR (goQ p s.l x) now) = 0
        · rw [if_neg (by rw [c]; simp)] at h1 ⊢
          refine room_ends hp hz k _ _ ?_ h1
          rw [era_did c]
          obtain ⟨r, hr, e⟩ := go_in hp hz a
          have := filter_less (p := fun y : Rc => decide (y.q ≠ goQ p s.l x)) ⟨r, hr, by simpa using e⟩
          show (s.l.filter (fun y => decide (y.q ≠ goQ p s.l x))).length < k
          omega
        · rw [if_pos c] at h1
          exact absurd h1 c
theorem roomE_zero {p : Pn.Pln} {m size now : Int} {x : Po} {es : List Pap} {s : Sto} (hp : PPos p) (h : (roomE p m size now x es s).1 = 0) : (crowdB p (roomE p m size now x es s).2.2.l x || fullB p (roomE p m size now x es s).2.2.l x) = false := by
  unfold roomE at h ⊢
  by_cases a : pv p 1 ≠ 0 ∧ pv p 1 < (szP x : Int)
  · rw [if_pos a] at h; cases h
  · rw [if_neg a] at h ⊢
    exact room_ends hp a _ _ _ (by omega) h
theorem roomE_sub {p : Pn.Pln} {m size now : Int} {x : Po} {es : List Pap} {s : Sto} : (roomE p m size now x es s).2.2.l.Sublist s.l ∧ (roomE p m size now x es s).2.2.last = s.last := by
  unfold roomE
  split
  · exact ⟨List.Sublist.refl _, rfl⟩
  · exact room_sub _ _ _
/-- the plan's bounds -/
structure Bnd (p : Pn.Pln) (l : List Rc) : Prop where
  msgs : pv p 0 ≠ 0 → (l.length : Int) ≤ pv p 0
  bytes : pv p 1 ≠ 0 → (byteN l : Int) ≤ pv p 1
  per : pv p 3 ≠ 0 → ∀ t, (sameN l t : Int) ≤ pv p 3
theorem Bnd.nil {p : Pn.Pln} (hp : PPos p) : Bnd p [] := ⟨fun _ => by have := hp.pos 0; simpa using this, fun _ => by have := hp.pos 1; simpa [byteN] using this, fun _ t => by have := hp.pos 3; simpa [sameN] using this⟩
theorem Bnd.sub {p : Pn.Pln} {a b : List Rc} (h : Bnd p b) (hs : a.Sublist b) : Bnd p a := ⟨fun z => by have := h.msgs z; have := hs.length_le; omega, fun z => by have := h.bytes z; have := byteN_sub hs; omega, fun z t => by have := h.per z t; have := sameN_sub hs t; omega⟩
theorem sameN_snoc (l : List Rc) (r : Rc) (t : ByteArray) : sameN (l ++ [r]) t = sameN l t + (if r.s = t then 1 else 0) := by
  unfold sameN
  rw [List.countP_append]
  by_cases e : r.s = t <;> simp [e]
theorem Bnd.more {p : Pn.Pln} {l : List Rc} {x : Po} {q now : Int} (h : Bnd p l) (hr : (crowdB p l x || fullB p l x) = false) : Bnd p (l ++ [msgR q now x]) := by
  rw [Bool.or_eq_false_iff] at hr
  obtain ⟨h1, h2⟩ := hr
  unfold crowdB at h1
  unfold fullB at h2
  rw [Bool.or_eq_false_iff] at h2
  obtain ⟨h2, h3⟩ := h2
  simp only [Bool.and_eq_false_iff, decide_eq_false_iff_not] at h1 h2 h3
  refine ⟨fun z => ?_, fun z => ?_, fun z t => ?_⟩
  · rw [List.length_append, List.length_singleton]
    rcases h2 with a | a
    · exact absurd z a
    · omega
  · rw [byteN_append]
    have e : byteN [msgR q now x] = szP x := by simp [byteN, msgR, szP]
    rw [e]
    rcases h3 with a | a
    · exact absurd z a
    · omega
  · rw [sameN_snoc]
    rcases h1 with a | a
    · exact absurd z a
    · by_cases e : (msgR q now x).s = t
      · rw [if_pos e, ← e]
        show ((sameN l x.s + 1 : Nat) : Int) ≤ pv p 3
        omega
      · rw [if_neg e]
        exact h.per z t
/-- a message that was written -/
theorem msg_did {es : List Pap} {s : Sto} {m size q now : Int} {x : Po} (h0 : doE es s m size (msgR q now x) = 0) : doS es s m size (msgR q now x) = ⟨s.l ++ [msgR q now x], q⟩ := by
  unfold doS aplS
  rw [if_pos h0, if_neg (by rw [(do_ok h0).1]; simp), if_pos (by rfl)]
  rfl
theorem pur_did {es : List Pap} {s : Sto} {m size q now : Int} {f : ByteArray} (h0 : doE es s m size (purR q now f) = 0) : doS es s m size (purR q now f) = ⟨s.l.filter (fun y => !(decide (y.q < q) && tkB f y.s)), s.last⟩ := by
  unfold doS
  rw [if_pos h0, purge_left (do_ok h0).1 rfl]
  rfl
/-- behind each post the bounds hold -/
theorem Bnd.pub {p : Pn.Pln} {m size now : Int} {x : Po} {st : Str} (hp : PPos p) (h : Bnd p st.s.l) : Bnd p (pubP p m size now x st).2.s.l := by
  unfold pubP
  split
  · exact h
  · split
    · exact h
    · split
      · exact h
      · split
        · exact h.sub roomE_sub.1
        · rename_i h0
          have h0 : (roomE p m size now x st.es st.s).1 = 0 := Classical.not_not.1 h0
          have hb := h.sub (roomE_sub (p := p) (m := m) (size := size) (now := now) (x := x) (es := st.es) (s := st.s)).1
          have hr := roomE_zero hp h0
          generalize (roomE p m size now x st.es st.s).2.1 = es at *
          generalize (roomE p m size now x st.es st.s).2.2 = s at *
          unfold putP
          by_cases a : doE es s m size (msgR (s.last + 1) now x) = 0
          · rw [if_neg (by rw [a]; simp)]
            have hm : Bnd p (doS es s m size (msgR (s.last + 1) now x)).l := by rw [msg_did a]; exact hb.more hr
            split
            · exact hm
            · split
              · exact hm
              · rename_i b
                have b := Classical.not_not.1 b
                rw [show (doS (doL es s m size (msgR (s.last + 1) now x)) (doS es s m size (msgR (s.last + 1) now x)) m size (purR (s.last + 1) now (rollF x))).l = (doS es s m size (msgR (s.last + 1) now x)).l.filter _ from by rw [pur_did b]]
                exact hm.sub List.filter_sublist
          · rw [if_pos a]; exact hb
/-- the number that is told: the next one; 0 with an error -/
theorem pub_num {p : Pn.Pln} {m size now : Int} {x : Po} {st : Str} : ((pubP p m size now x st).1.2.2 ≠ 0 → (pubP p m size now x st).1.1 = 0 ∧ (pubP p m size now x st).1.2.1 = false) ∧ ((pubP p m size now x st).1.2.2 = 0 → (pubP p m size now x st).1.2.1 = false → (pubP p m size now x st).1.1 = st.s.last + 1) ∧ ((pubP p m size now x st).1.2.1 = true → (pubP p m size now x st).2 = st) := by
  unfold pubP
  split
  · rename_i a; exact ⟨fun _ => ⟨rfl, rfl⟩, fun z => absurd z a, fun z => by cases z⟩
  · split
    · exact ⟨fun z => absurd rfl z, fun _ z => (by cases z), fun _ => rfl⟩
    · split
      · exact ⟨fun _ => ⟨rfl, rfl⟩, fun z => (by cases z), fun z => by cases z⟩
      · split
        · rename_i a; exact ⟨fun _ => ⟨rfl, rfl⟩, fun z => absurd z a, fun z => by cases z⟩
        · have hl := (roomE_sub (p := p) (m := m) (size := size) (now := now) (x := x) (es := st.es) (s := st.s)).2
          generalize (roomE p m size now x st.es st.s).2.1 = es at *
          generalize (roomE p m size now x st.es st.s).2.2 = s at *
          unfold putP
          rw [hl]
          split
          · rename_i a; exact ⟨fun _ => ⟨rfl, rfl⟩, fun z => absurd z a, fun z => by cases z⟩
          · split
            · exact ⟨fun z => absurd rfl z, fun _ _ => rfl, fun z => by cases z⟩
            · split
              · rename_i a; exact ⟨fun _ => ⟨rfl, rfl⟩, fun z => absurd z a, fun z => by cases z⟩
              · exact ⟨fun z => absurd rfl z, fun _ _ => rfl, fun z => by cases z⟩
end Go.Proofs.YtmccpkpeimejhahGreatDoor.Dk
