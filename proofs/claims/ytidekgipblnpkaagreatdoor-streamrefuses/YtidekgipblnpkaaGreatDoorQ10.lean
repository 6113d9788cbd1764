/- A part of the proof. -/
import Derived.Test.YtidekgipblnpkaaGreatDoorQ2
import Derived.Test.YtidekgipblnpkaaGreatDoorQ9
namespace Go.Proofs.YtidekgipblnpkaaGreatDoor.Pn
open Go Go.Proofs.Tryz
def iP:List (List UInt8):=[[109,115,103,115],[98,121,116,101,115],[97,103,101],[112,101,114],[115,105,122,101],[100,105,115,99,97,114,100],[107,101,101,112],[119,105,110,100,111,119]]
def dK:List Int:=[200,65536,100000,200,256,1,2,100000]
structure aU where
 n:ByteArray
 f:List ByteArray
 v:List Int
def nameB (c:UInt8):Bool:=(decide (97<=c.toNat)&&decide (c.toNat<=122))||((decide (48<=c.toNat)&&decide (c.toNat<=57))||decide (c.toNat=45))
def dZ (s:ByteArray):Bool:=s.data.toList.all nameB&&(decide (1<=s.size)&&decide (s.size<=16))
def fQ:List ByteArray->Int
 | []=>0
 | f::r=>if aC true f=0 then fQ r else aC true f
def laps:List ByteArray->Bool
 | []=>false
 | f::r=>r.any (λg=>bI (Pl.toks f) (Pl.toks g))||laps r
def dO:List Int->List Int->Bool
 | [],[]=>true
 | x::v,m::ms=>(decide (0<=x)&&decide (x<=m))&&dO v ms
 | _,_=>false
def bG (p:aU):Int:=if dZ p.n=false then 3 else if 4<p.f.length then 2 else if p.f.length=0 then 1 else if fQ p.f≠0 then fQ p.f else if laps p.f=true then 10 else if dO p.v dK=true then 0 else 1
theorem mJ {p:aU}(h:bG p=0):dZ p.n=true/\p.f.length<=4/\p.f.length≠0/\fQ p.f=0/\laps p.f=false/\dO p.v dK=true:=by
 unfold bG at h;by_cases h1:dZ p.n=false
 ·rw[if_pos h1] at h;cases h
 ·rw[if_neg h1] at h;by_cases h2:4<p.f.length
  ·rw[if_pos h2] at h;cases h
  ·rw[if_neg h2] at h;by_cases h3:p.f.length=0
   ·rw[if_pos h3] at h;cases h
   ·rw[if_neg h3] at h;by_cases h4:fQ p.f≠0
    ·rw[if_pos h4] at h;exact absurd h h4
    ·rw[if_neg h4] at h;by_cases h5:laps p.f=true
     ·rw[if_pos h5] at h;cases h
     ·rw[if_neg h5] at h;by_cases h6:dO p.v dK=true
      ·exact⟨by simpa using h1,by omega,h3,Classical.not_not.1 h4,by simpa using h5,h6⟩
      ·rw[if_neg h6] at h;cases h
theorem CV:∀{l:List ByteArray},fQ l=0->∀f∈l,aC true f=0
 | [],_,f,hf=>by cases hf
 | g::r,h,f,hf=>by
  unfold fQ at h;by_cases e:aC true g=0
  ·rw[if_pos e] at h;rcases List.mem_cons.1 hf with y|y
   ·rw[y];exact e
   ·exact CV h f y
  ·rw[if_neg e] at h;exact absurd h e
def dI:List (List UInt8)->List Int->List (List UInt8)
 | w::ws,x::v=>if x=0 then dI ws v else (w++61::Lib.itoa x)::dI ws v
 | _,_=>[]
def vF (p:aU):List (List UInt8):=p.n.data.toList::glue 44 (p.f.map (·.data.toList))::dI iP p.v
def Az (p:aU):ByteArray:=⟨(glue 32 (vF p)).toArray⟩
def commas (p:aU):Bool:=p.f.any (λf=>f.data.toList.contains 44)
def QX:List (List UInt8)->List (List UInt8)->Option (List Int)
 | [],[]=>some []
 | [],_::_=>none
 | _::ws,[]=>(QX ws []).map (λv=>0::v)
 | w::ws,t::ts=>if (w++[61]).isPrefixOf t=true then (if vP (t.drop (w.length+1))<1 then none else (QX ws ts).map (λv=>vP (t.drop (w.length+1))::v)) else (QX ws (t::ts)).map (λv=>0::v)
def Gx:aU:=⟨⟨#[]⟩,[],[0,0,0,0,0,0,0,0]⟩
def bs (l:List UInt8):ByteArray:=⟨l.toArray⟩
def JH (s:ByteArray):aU×Int:=if 1024<s.size then (Gx,2) else match cut 32 s.data.toList with
 | n::f::ts=>match QX iP ts with
  | some v=>if bG ⟨bs n,(cut 44 f).map bs,v⟩=0 then (⟨bs n,(cut 44 f).map bs,v⟩,0) else (Gx,bG ⟨bs n,(cut 44 f).map bs,v⟩)
  | none=>(Gx,3)
 | _=>(Gx,3)
theorem TA {a b d:List UInt8}(ha:(61:UInt8)∉a)(hb:(61:UInt8)∉b)(h:(a++[61]).isPrefixOf (b++61::d)=true):a=b:=by
 induction a generalizing b with
 | nil =>
  cases b with
  | nil=>rfl
  | cons x b =>
   simp[List.isPrefixOf] at h;exact absurd (by rw[<-h];exact List.mem_cons_self ..) hb
 | cons y a ih =>
  cases b with
  | nil =>
   simp[List.isPrefixOf] at h;exact absurd (by rw[h.1];exact List.mem_cons_self ..) ha
  | cons x b =>
   simp only[List.cons_append,List.isPrefixOf,Bool.and_eq_true,beq_iff_eq] at h;rw[h.1,ih (λz=>ha (List.mem_cons_of_mem _ z)) (λz=>hb (List.mem_cons_of_mem _ z)) h.2]
theorem GR (w d:List UInt8):(w++[61]).isPrefixOf (w++61::d)=true/\(w++61::d).drop (w.length+1)=d:=by
 constructor
 ·rw[List.isPrefixOf_iff_prefix];exact⟨d,by simp⟩
 ·rw[List.drop_append,List.drop_of_length_le (by omega),show w.length+1-w.length=1 by omega];rfl
theorem GU:∀(ws:List (List UInt8)) (v:List Int) {t:List UInt8} {ts:List (List UInt8)},dI ws v=t::ts->∃u∈ws,∃d,t=u++61::d
 | [],_,t,ts,h=>by simp[dI] at h
 | w::ws,[],t,ts,h=>by simp[dI] at h
 | w::ws,x::v,t,ts,h=>by
  by_cases e:x=0
  ·rw[dI,if_pos e] at h;obtain⟨u,hu,d,hd⟩:=GU ws v h;exact⟨u,List.mem_cons_of_mem _ hu,d,hd⟩
  ·rw[dI,if_neg e] at h;exact⟨w,List.mem_cons_self ..,Lib.itoa x,(List.cons.inj h).1.symm⟩
theorem TB:∀(ws:List (List UInt8)) (v:List Int),ws.Nodup->(∀w∈ws,(61:UInt8)∉w)->v.length=ws.length->(∀x∈v,0<=x/\x<1000000000)->QX ws (dI ws v)=some v
 | [],[],_,_,_,_=>rfl
 | [],_::_,_,_,h,_=>by simp at h
 | w::ws,[],_,_,h,_=>by simp at h
 | w::ws,x::v,hn,hw,hl,hx=>by
  have hn':=List.nodup_cons.1 hn;have ih:=TB ws v hn'.2 (λu hu=>hw u (List.mem_cons_of_mem _ hu)) (by simpa using hl) (λy hy=>hx y (List.mem_cons_of_mem _ hy));by_cases e:x=0
  ·have e1:dI (w::ws) (x::v)=dI ws v:=by rw[dI,if_pos e]
   rw[e1]
   cases ht:dI ws v with
   | nil=>rw[ht] at ih;rw[QX,ih,e];rfl
   | cons t ts =>
    have hm:∃u∈ws,∃d,t=u++61::d:=GU ws v ht;obtain⟨u,hu,d,rfl⟩:=hm;rw[ht] at ih;have hp:¬(w++[61]).isPrefixOf (u++61::d)=true:=λz=>by
     have:=TA (hw w (List.mem_cons_self ..)) (hw u (List.mem_cons_of_mem _ hu)) z;rw[this] at hn';exact hn'.1 hu
    rw[QX,if_neg hp,ih,e];rfl
  ·have e1:dI (w::ws) (x::v)=(w++61::Lib.itoa x)::dI ws v:=by rw[dI,if_neg e]
   have hx0:=hx x (List.mem_cons_self ..);obtain⟨u,rfl⟩:∃u:Nat,x=(u:Int):=⟨x.toNat,by omega⟩;have hi:Lib.itoa (u:Int)=Lib.decDigits u:=by unfold Lib.itoa;rw[if_neg (by omega)];simp
   obtain⟨p1,p2⟩:=GR w (Lib.itoa (u:Int));have hd:vP (Lib.itoa (u:Int))=(u:Int):=by rw[hi];exact aci (by omega) (by omega)
   rw[e1,QX,if_pos p1,p2,hd,if_neg (by omega),ih];rfl
theorem IC:∀(ws ts:List (List UInt8)) {v:List Int},QX ws ts=some v->dI ws v=ts/\v.length=ws.length/\∀x∈v,0<=x/\x<1000000000
 | [],[],v,h=>by
  simp[QX] at h;subst h;exact⟨rfl,rfl,λx hx=>by cases hx⟩
 | [],_::_,v,h=>by simp[QX] at h
 | w::ws,[],v,h=>by
  rw[QX] at h
  cases hr:QX ws [] with
  | none=>rw[hr] at h;simp at h
  | some u =>
   rw[hr] at h;simp at h;subst h;obtain⟨h1,h2,h3⟩:=IC ws [] hr;refine⟨by rw[dI,if_pos rfl];exact h1,by simp[h2],λx hx=>?_⟩;rcases List.mem_cons.1 hx with y|y
   ·omega
   ·exact h3 x y
 | w::ws,t::ts,v,h=>by
  rw[QX] at h;by_cases hp:(w++[61]).isPrefixOf t=true
  ·rw[if_pos hp] at h;by_cases hd:vP (t.drop (w.length+1))<1
   ·rw[if_pos hd] at h;cases h
   ·rw[if_neg hd] at h
    cases hr:QX ws ts with
    | none=>rw[hr] at h;simp at h
    | some u =>
     rw[hr] at h;simp at h;subst h;obtain⟨h1,h2,h3⟩:=IC ws ts hr;obtain⟨b1,b2⟩:=ZW (l:=t.drop (w.length+1)) (by omega);obtain⟨d,hd2⟩:=List.isPrefixOf_iff_prefix.1 hp;have e:t.drop (w.length+1)=d:=by rw[<-hd2,List.append_assoc];exact(GR w d).2
     refine⟨?_,by simp[h2],λx hx=>?_⟩
     ·rw[dI,if_neg (by omega),b1,h1,e,<-hd2];simp
     ·rcases List.mem_cons.1 hx with y|y
      ·omega
      ·exact h3 x y
  ·rw[if_neg hp] at h
   cases hr:QX ws (t::ts) with
   | none=>rw[hr] at h;simp at h
   | some u =>
    rw[hr] at h;simp at h;subst h;obtain⟨h1,h2,h3⟩:=IC ws (t::ts) hr;refine⟨by rw[dI,if_pos rfl];exact h1,by simp[h2],λx hx=>?_⟩;rcases List.mem_cons.1 hx with y|y
    ·omega
    ·exact h3 x y
end Go.Proofs.YtidekgipblnpkaaGreatDoor.Pn
namespace Go.Proofs.YtidekgipblnpkaaGreatDoor
open Go.RowKit Go.Proofs.Tryz
theorem aaF (s:ByteArray)(k:Nat)(h:k<s.size):s.data.toList.take (k+1)=s.data.toList.take k++[s[k]]:=by
 rw[List.take_succ_eq_append_getElem (by simpa using h)];rfl
def mM (s:ByteArray)(k:Nat):Bool:=(s.data.toList.take k).all Pn.nameB
theorem AB {s:ByteArray}{k:Nat}(h:k<s.size):mM s (k+1)=(mM s k&&Pn.nameB s[k]):=by
 unfold mM;rw[aaF s k h,List.all_append];simp
theorem Nv {s:ByteArray}{k:Nat}(h:k<s.size)(hb:Pn.nameB s[k]=false):Pn.dZ s=false:=by
 unfold Pn.dZ;have:s.data.toList.all Pn.nameB=false:=by
  rw[List.all_eq_false];exact⟨s[k],by
   have:s.data.toList[k]'(by simpa using h)∈s.data.toList:=List.getElem_mem _;exact this,by simp[hb]⟩
 rw[this];rfl
theorem named_ok {s:ByteArray}(h:mM s s.size=true):Pn.dZ s=(decide (1<=s.size)&&decide (s.size<=16)):=by
 unfold mM at h;rw[List.take_of_length_le (by simp)] at h;unfold Pn.dZ;rw[h,Bool.true_and]
abbrev sQ (n:ByteArray)(a:Option Addr)(l c:Nat)(x0 x1 x2 x3 x4 x5 x6 x7:Int):Value:=.agg #[.string n,.slice a l c,.int .i64 x0,.int .i64 x1,.int .i64 x2,.int .i64 x3,.int .i64 x4,.int .i64 x5,.int .i64 x6,.int .i64 x7]
structure PB (w:World)(b:Nat)(n:ByteArray)(a:Option Addr)(l c:Nat)(x0 x1 x2 x3 x4 x5 x6 x7:Int):Prop where
 lt:b<w.heap.size
 c0:w.cell? ⟨b,0,none⟩=some (.string n)
 c1:w.cell? ⟨b,1,none⟩=some (.slice a l c)
 c2:w.cell? ⟨b,2,none⟩=some (.int .i64 x0)
 c3:w.cell? ⟨b,3,none⟩=some (.int .i64 x1)
 c4:w.cell? ⟨b,4,none⟩=some (.int .i64 x2)
 c5:w.cell? ⟨b,5,none⟩=some (.int .i64 x3)
 c6:w.cell? ⟨b,6,none⟩=some (.int .i64 x4)
 c7:w.cell? ⟨b,7,none⟩=some (.int .i64 x5)
 c8:w.cell? ⟨b,8,none⟩=some (.int .i64 x6)
 c9:w.cell? ⟨b,9,none⟩=some (.int .i64 x7)
section
variable {w w':World}{b:Nat}{n:ByteArray}{a:Option Addr}{l c:Nat}{x0 x1 x2 x3 x4 x5 x6 x7:Int}
theorem PB.next (h:PB w b n a l c x0 x1 x2 x3 x4 x5 x6 x7)(hb:Below w.heap.size w w'):PB w' b n a l c x0 x1 x2 x3 x4 x5 x6 x7 :=
 ⟨Nat.lt_of_lt_of_le h.lt hb.size,by rw[hb.cell (p:=⟨b,0,none⟩) h.lt];exact h.c0,by rw[hb.cell (p:=⟨b,1,none⟩) h.lt];exact h.c1,by rw[hb.cell (p:=⟨b,2,none⟩) h.lt];exact h.c2,by rw[hb.cell (p:=⟨b,3,none⟩) h.lt];exact h.c3,by rw[hb.cell (p:=⟨b,4,none⟩) h.lt];exact h.c4,by rw[hb.cell (p:=⟨b,5,none⟩) h.lt];exact h.c5,by rw[hb.cell (p:=⟨b,6,none⟩) h.lt];exact h.c6,by rw[hb.cell (p:=⟨b,7,none⟩) h.lt];exact h.c7,by rw[hb.cell (p:=⟨b,8,none⟩) h.lt];exact h.c8,by rw[hb.cell (p:=⟨b,9,none⟩) h.lt];exact h.c9⟩
theorem PB.new (w:World)(n:ByteArray)(a:Option Addr)(l c:Nat)(x0 x1 x2 x3 x4 x5 x6 x7:Int)(T:TypeId):PB (w.alloc (.cells #[.string n,.slice a l c,.int .i64 x0,.int .i64 x1,.int .i64 x2,.int .i64 x3,.int .i64 x4,.int .i64 x5,.int .i64 x6,.int .i64 x7] T)) w.heap.size n a l c x0 x1 x2 x3 x4 x5 x6 x7 :=
 ⟨by simp,by simp,by simp,by simp,by simp,by simp,by simp,by simp,by simp,by simp,by simp⟩
end
theorem Nw (w:World)(x0 x1 x2 x3 x4 x5 x6 x7:Int)(T:TypeId):Dk.qL (w.alloc (.cells #[.int .i64 x0,.int .i64 x1,.int .i64 x2,.int .i64 x3,.int .i64 x4,.int .i64 x5,.int .i64 x6,.int .i64 x7] T)) (some ⟨w.heap.size,0,none⟩) [x0,x1,x2,x3,x4,x5,x6,x7]:=λk hk=>by
 refine⟨w.heap.size,0,rfl,by simp,?_⟩;rw[cell_of_row _ w.heap.size (0+k) _ _ _ (heap_alloc_new w _),Nat.zero_add];have:k<8:=by simpa using hk
 rcases k with _|_|_|_|_|_|_|_|k;all_goals first
  | rfl
  | omega
theorem lJ {w w':World}{a:Option Addr}{l:List Int}(h:Dk.qL w a l)(hb:Below w.heap.size w w'):Dk.qL w' a l:=λk hk=>by
 obtain⟨b,o,h1,h2,h3⟩:=h k hk;exact⟨b,o,h1,Nat.lt_of_lt_of_le h2 hb.size,by rw[hb.cell (p:=⟨b,o+k,none⟩) h2];exact h3⟩
def jW (w:World)(a:Option Addr)(l:List ByteArray):Prop:=∀k,k<l.length->∃b o,a=some ⟨b,o,none⟩/\b<w.heap.size/\w.cell? ⟨b,o+k,none⟩=some (.string (tk l k))
theorem jW.next {w w':World}{a:Option Addr}{l:List ByteArray}(h:jW w a l)(hb:Below w.heap.size w w'):jW w' a l:=λk hk=>by
 obtain⟨b,o,h1,h2,h3⟩:=h k hk;exact⟨b,o,h1,Nat.lt_of_lt_of_le h2 hb.size,by rw[hb.cell (p:=⟨b,o+k,none⟩) h2];exact h3⟩
theorem jW.from {B:Nat}{w w':World}{a:Option Addr}{l:List ByteArray}(h:jW w a l)(hb:Below B w w')(hB:w.heap.size<=B):jW w' a l:=λk hk=>by
 obtain⟨b,o,h1,h2,h3⟩:=h k hk;exact⟨b,o,h1,Nat.lt_of_lt_of_le h2 hb.size,by rw[hb.cell (p:=⟨b,o+k,none⟩) (Nat.lt_of_lt_of_le h2 hB)];exact h3⟩
namespace Pn
open Go.Proofs.Tryz
theorem uG {l:List ByteArray}{i:Nat}(h:i<l.length):fQ (l.drop i)=if aC true (tk l i)=0 then fQ (l.drop (i+1)) else aC true (tk l i):=by rw[iV h];rfl
theorem Ny {l:List ByteArray}{i:Nat}(h:i<l.length):laps (l.drop i)=((l.drop (i+1)).any (λg=>bI (Pl.toks (tk l i)) (Pl.toks g))||laps (l.drop (i+1))):=by rw[iV h];rfl
theorem JI {l:List ByteArray}{i:Nat}(h:i<l.length)(f:ByteArray->Bool):(l.drop i).any f=(f (tk l i)||(l.drop (i+1)).any f):=by rw[iV h];rfl
theorem JJ {v:List Int}{i:Nat}(h:i<v.length)(h8:v.length=8):dO (v.drop i) (dK.drop i)=((decide (0<=Dk.nth v i)&&decide (Dk.nth v i<=Dk.nth dK i))&&dO (v.drop (i+1)) (dK.drop (i+1))):=by
 have h2:i<dK.length:=by rw[h8] at h;exact h
 rw[List.drop_eq_getElem_cons h,List.drop_eq_getElem_cons h2,dO,Dk.nth,Dk.nth,List.getElem?_eq_getElem h,List.getElem?_eq_getElem h2];rfl
section
variable {p:aU}
theorem JK (h:dZ p.n=false):bG p=3:=by unfold bG;rw[if_pos h]
theorem Wp (h:dZ p.n=true)(h2:4<p.f.length):bG p=2:=by unfold bG;rw[if_neg (by rw[h];simp),if_pos h2]
theorem Wq (h:dZ p.n=true)(h2:p.f.length=0):bG p=1:=by unfold bG;rw[if_neg (by rw[h];simp),if_neg (by omega),if_pos h2]
theorem Ws (h:dZ p.n=true)(h2:¬4<p.f.length)(h3:p.f.length≠0)(h4:fQ p.f≠0):bG p=fQ p.f:=by unfold bG;rw[if_neg (by rw[h];simp),if_neg h2,if_neg h3,if_pos h4]
theorem Wu (h:dZ p.n=true)(h2:¬4<p.f.length)(h3:p.f.length≠0)(h4:fQ p.f=0)(h5:laps p.f=true):bG p=10:=by unfold bG;rw[if_neg (by rw[h];simp),if_neg h2,if_neg h3,if_neg (by rw[h4];simp),if_pos h5]
theorem Wv (h:dZ p.n=true)(h2:¬4<p.f.length)(h3:p.f.length≠0)(h4:fQ p.f=0)(h5:laps p.f=false):bG p=if dO p.v dK=true then 0 else 1:=by unfold bG;rw[if_neg (by rw[h];simp),if_neg h2,if_neg h3,if_neg (by rw[h4];simp),if_neg (by rw[h5];simp)]
end
end Pn
def Pst (w wr:World)(b:Nat)(n:ByteArray)(a:Option Addr)(l:List ByteArray)(c:Nat)(x0 x1 x2 x3 x4 x5 x6 x7:Int):Prop:=PB wr b n a l.length c x0 x1 x2 x3 x4 x5 x6 x7/\jW wr a l/\Below w.heap.size w wr
theorem Pst.next {w wr w':World}{b:Nat}{n:ByteArray}{a:Option Addr}{l:List ByteArray}{c:Nat}{x0 x1 x2 x3 x4 x5 x6 x7:Int}(h:Pst w wr b n a l c x0 x1 x2 x3 x4 x5 x6 x7)(hb:Below wr.heap.size wr w'):Pst w w' b n a l c x0 x1 x2 x3 x4 x5 x6 x7:=⟨h.1.next hb,h.2.1.next hb,ak h.2.2 hb⟩
def Vst (w wr:World)(g1 g2:Nat)(v:List Int):Prop:=Dk.qL wr (some ⟨g1,0,none⟩) v/\Dk.qL wr (some ⟨g2,0,none⟩) Pn.dK/\Below w.heap.size w wr
theorem Vst.next {w wr w':World}{g1 g2:Nat}{v:List Int}(h:Vst w wr g1 g2 v)(hb:Below wr.heap.size wr w'):Vst w w' g1 g2 v:=⟨lJ h.1 hb,lJ h.2.1 hb,ak h.2.2 hb⟩
abbrev aji (g1 g2 i:Nat)(x y:Int)(w:World):Prop:=w.cell? ⟨g1,i,none⟩=some (.int .i64 x)/\w.cell? ⟨g2,i,none⟩=some (.int .i64 y)
theorem Vst.two {w wr:World}{g1 g2:Nat}{v:List Int}(h:Vst w wr g1 g2 v)(h8:v.length=8){i:Nat}(hi:i<8):aji g1 g2 i (Dk.nth v i) (Dk.nth Pn.dK i) wr:=by
 obtain⟨b1,o1,e1,_,h1⟩:=h.1 i (by omega);obtain⟨b2,o2,e2,_,h2⟩:=h.2.1 i hi
 cases e1
 cases e2
 rw[Nat.zero_add] at h1 h2;exact⟨h1,h2⟩
abbrev ajj (b:Nat)(a:Option Addr)(l c ba o i k:Nat)(f g:ByteArray)(w:World):Prop:=w.cell? ⟨b,1,none⟩=some (.slice a l c)/\w.cell? ⟨ba,o+i,none⟩=some (.string f)/\w.cell? ⟨ba,o+k,none⟩=some (.string g)
theorem Pst.two {w wr:World}{b ba o:Nat}{n:ByteArray}{l:List ByteArray}{c:Nat}{x0 x1 x2 x3 x4 x5 x6 x7:Int}(h:Pst w wr b n (some ⟨ba,o,none⟩) l c x0 x1 x2 x3 x4 x5 x6 x7){i k:Nat}(hi:i<l.length)(hk:k<l.length):ajj b (some ⟨ba,o,none⟩) l.length c ba o i k (tk l i) (tk l k) wr:=by
 obtain⟨b1,o1,e1,_,h1⟩:=h.2.1 i hi;obtain⟨b2,o2,e2,_,h2⟩:=h.2.1 k hk
 cases e1
 cases e2
 exact⟨h.1.c1,h1,h2⟩
end Go.Proofs.YtidekgipblnpkaaGreatDoor
namespace Go.Proofs.YtidekgipblnpkaaGreatDoor.Pn
open Go Go.Proofs.Tryz
theorem dB (s:ByteArray):bs s.data.toList=s:=by unfold bs;apply ByteArray.ext;simp
theorem IE (l:List UInt8):(bs l).data.toList=l:=by unfold bs;simp
theorem AL:∀{v ms:List Int},dO v ms=true->v.length=ms.length/\∀x∈v,0<=x/\∃m∈ms,x<=m
 | [],[],_=>⟨rfl,λx hx=>by cases hx⟩
 | [],_::_,h=>by simp[dO] at h
 | _::_,[],h=>by simp[dO] at h
 | x::v,m::ms,h=>by
  unfold dO at h;simp only[Bool.and_eq_true,decide_eq_true_eq] at h;obtain⟨h1,h2⟩:=AL h.2;refine⟨by simp[h1],λy hy=>?_⟩;rcases List.mem_cons.1 hy with z|z
  ·rw[z];exact⟨h.1.1,m,List.mem_cons_self ..,h.1.2⟩
  ·obtain⟨q,k,hk,hl⟩:=h2 y z;exact⟨q,k,List.mem_cons_of_mem _ hk,hl⟩
theorem Y4:∀m∈dK,m<=100000:=by decide
theorem ade {t:List UInt8}{last:Bool}(h:Pl.lZ true last t=true):t.length<=16/\∀c∈t,33<=c.toNat:=by
 unfold Pl.lZ at h;rcases Bool.or_eq_true_iff.1 h with y|y
 ·unfold Pl.vK at y;simp only[Bool.and_eq_true,decide_eq_true_eq,List.all_eq_true] at y;refine⟨y.2.1,λc hc=>?_⟩;have:=y.2.2 c hc;unfold Pl.VD at this;simp only[Bool.and_eq_true,decide_eq_true_eq] at this;exact this.1
 ·simp only[Bool.true_and,Bool.or_eq_true,beq_iff_eq,Bool.and_eq_true] at y;rcases y with y|y
  ·rw[y];exact⟨by decide,by decide⟩
  ·rw[y.1];exact⟨by decide,by decide⟩
theorem zh {f:ByteArray}(h:aC true f=0):f.size<=136/\∀c∈f.data.toList,33<=c.toNat:=by
 obtain⟨h1,h2⟩:=Pq h;have hp:∀t∈Pl.iO f.data.toList,t.length<=16/\∀c∈t,33<=c.toNat:=λt ht=>by
  obtain⟨k,hk,rfl⟩:=List.mem_iff_getElem.1 ht;unfold Pl.jo at h2;rw[List.all_eq_true] at h2;have:=h2 k (List.mem_range.2 hk);rw[List.getElem?_eq_getElem hk] at this;exact ade this
 have hg:=zJ 46 f.data.toList;rw[Yx] at hg;constructor
 ·have:=zK 46 16 _ (λt ht=>(hp t ht).1);rw[hg] at this;have e:f.data.toList.length=f.size:=by simp
  omega
 ·intro c hc;rw[<-hg] at hc;rcases I7 46 _ c hc with y|⟨t,ht,hct⟩
  ·rw[y];decide
  ·exact(hp t ht).2 c hct
theorem Wx {s:ByteArray}(h:dZ s=true):s.size<=16/\∀c∈s.data.toList,33<=c.toNat:=by
 unfold dZ at h;simp only[Bool.and_eq_true,decide_eq_true_eq,List.all_eq_true] at h;refine⟨h.2.2,λc hc=>?_⟩;have:=h.1 c hc;unfold nameB at this;simp only[Bool.or_eq_true,Bool.and_eq_true,decide_eq_true_eq] at this;omega
theorem aaG {u:Nat}:∀c∈Lib.decDigits u,33<=c.toNat:=λc hc=>by
 have:=Yy u c hc;unfold kR at this;simp at this;omega
theorem adf {x:Int}(h:0<=x/\x<=100000):(Lib.itoa x).length<=6/\∀c∈Lib.itoa x,33<=c.toNat:=by
 have e:Lib.itoa x=Lib.decDigits x.toNat:=by unfold Lib.itoa;rw[if_neg (by omega)]
 rw[e];exact⟨OQ 5 _ (by simp;omega),aaG⟩
theorem AO:∀(ws:List (List UInt8)) (v:List Int),(∀w∈ws,w.length<=7/\∀c∈w,33<=c.toNat)->(∀x∈v,0<=x/\x<=100000)->(dI ws v).length<=ws.length/\∀t∈dI ws v,t.length<=14/\∀c∈t,33<=c.toNat
 | [],v,_,_=>by simp[dI]
 | w::ws,[],_,_=>by simp[dI]
 | w::ws,x::v,hw,hx=>by
  obtain⟨h1,h2⟩:=AO ws v (λu hu=>hw u (List.mem_cons_of_mem _ hu)) (λy hy=>hx y (List.mem_cons_of_mem _ hy));by_cases e:x=0
  ·rw[dI,if_pos e];exact⟨by simp;omega,h2⟩
  ·rw[dI,if_neg e];refine⟨by simp;omega,λt ht=>?_⟩;rcases List.mem_cons.1 ht with y|y
   ·obtain⟨i1,i2⟩:=adf (hx x (List.mem_cons_self ..));obtain⟨w1,w2⟩:=hw w (List.mem_cons_self ..);rw[y];refine⟨by rw[List.length_append,List.length_cons];omega,λc hc=>?_⟩;rcases List.mem_append.1 hc with z|z
    ·exact w2 c z
    ·rcases List.mem_cons.1 z with q|q
     ·rw[q];decide
     ·exact i2 c q
   ·exact h2 t y
theorem aaH:∀w∈iP,w.length<=7/\∀c∈w,33<=c.toNat:=by decide
theorem aaI:∀w∈iP,(61:UInt8)∉w:=by decide
theorem Px:iP.Nodup:=by decide
theorem agq {p:aU}(h:bG p=0):(∀t∈vF p,(32:UInt8)∉t)/\(Az p).size<=1024:=by
 obtain⟨h1,h2,h3,h4,h5,h6⟩:=mJ h;obtain⟨n1,n2⟩:=Wx h1;have hf:=CV h4;have hv:∀x∈p.v,0<=x/\x<=100000:=λx hx=>by
  obtain⟨q,m,hm,hl⟩:=(AL h6).2 x hx;have:=Y4 m hm;omega
 obtain⟨w1,w2⟩:=AO iP p.v aaH hv;have hj:∀c∈glue 44 (p.f.map (·.data.toList)),33<=c.toNat:=λc hc=>by
  rcases I7 44 _ c hc with y|⟨t,ht,hct⟩
  ·rw[y];decide
  ·obtain⟨f,hff,rfl⟩:=List.mem_map.1 ht;exact(zh (hf f hff)).2 c hct
 have no:∀{t:List UInt8},(∀c∈t,33<=c.toNat)->(32:UInt8)∉t:=λht z=>by
  have:=ht _ z;simp at this
 constructor
 ·intro t ht;unfold vF at ht;rcases List.mem_cons.1 ht with y|y
  ·rw[y];exact no n2
  ·rcases List.mem_cons.1 y with z|z
   ·rw[z];exact no hj
   ·exact no (w2 t z).2
 ·have hjl:(glue 44 (p.f.map (·.data.toList))).length<=548:=by
   have:=zK 44 136 (p.f.map (·.data.toList)) (λt ht=>by
    obtain⟨f,hff,rfl⟩:=List.mem_map.1 ht;have:=(zh (hf f hff)).1;simpa using this)
   rw[List.length_map] at this;omega
  have hw:=zK 32 14 _ (λt ht=>(w2 t ht).1);have hl8:iP.length=8:=rfl;have hstep:∀(t:List UInt8) (ts:List (List UInt8)),(glue 32 (t::ts)).length<=t.length+1+(glue 32 ts).length:=λt ts=>by
   cases ts with
   | nil=>simp[glue]
   | cons u us=>rw[jH 32 t (by simp),List.length_append,List.length_cons];omega
  have s1:=hstep p.n.data.toList (glue 44 (p.f.map (·.data.toList))::dI iP p.v);have s2:=hstep (glue 44 (p.f.map (·.data.toList))) (dI iP p.v);have e:(Az p).size=(glue 32 (vF p)).length:=by
   show(glue 32 (vF p)).toArray.size=_;simp
  have en:p.n.data.toList.length=p.n.size:=by simp
  rw[e];unfold vF;omega
theorem air {p:aU}(h:bG p=0)(hc:commas p=false):JH (Az p)=(p,0):=by
 obtain⟨h1,h2,h3,h4,h5,h6⟩:=mJ h;obtain⟨t1,t2⟩:=agq h;have hcut:cut 32 (Az p).data.toList=vF p:=by
  have e:(Az p).data.toList=glue 32 (vF p):=by simp[Az]
  rw[e];exact I5 32 _ (by unfold vF;simp) t1
 have hfc:cut 44 (glue 44 (p.f.map (·.data.toList)))=p.f.map (·.data.toList):=by
  refine I5 44 _ (λz=>h3 (by simpa using congrArg List.length z)) (λt ht=>?_);obtain⟨f,hf,rfl⟩:=List.mem_map.1 ht;unfold commas at hc;rw[List.any_eq_false] at hc;have:=hc f hf;simpa using this
 have hfm:(cut 44 (glue 44 (p.f.map (·.data.toList)))).map bs=p.f:=by
  rw[hfc,List.map_map];conv=>rhs;rw[<-List.map_id p.f]
  exact List.map_congr_left (λf _=>dB f)
 have hv:∀x∈p.v,0<=x/\x<1000000000:=λx hx=>by
  obtain⟨q,m,hm,hl⟩:=(AL h6).2 x hx;have:=Y4 m hm;omega
 have hr:=TB iP p.v Px aaI ((AL h6).1) hv;unfold JH;rw[if_neg (by omega),hcut];unfold vF;simp only[hr,hfm,dB];rw[if_pos h]
theorem ais {s:ByteArray}{x:aU}(h:JH s=(x,0)):bG x=0/\commas x=false/\Az x=s:=by
 unfold JH at h;split at h
 ·cases h
 ·cases hc:cut 32 s.data.toList with
  | nil=>exact absurd hc (vN 32 _)
  | cons n r =>
   rw[hc] at h
   cases r with
   | nil=>cases h
   | cons f ts =>
    simp only at h
    cases hr:QX iP ts with
    | none=>rw[hr] at h;cases h
    | some v =>
     rw[hr] at h;simp only at h;by_cases he:bG ⟨bs n,(cut 44 f).map bs,v⟩=0
     ·rw[if_pos he] at h;have hx:=(Prod.mk.inj h).1;subst hx;refine⟨he,?_,?_⟩
      ·unfold commas;rw[List.any_eq_false];intro g hg;obtain⟨t,ht,rfl⟩:=List.mem_map.1 hg;rw[IE];simpa using zI 44 f t ht
      ·have e1:((cut 44 f).map bs).map (·.data.toList)=cut 44 f:=by
        rw[List.map_map];conv=>rhs;rw[<-List.map_id (cut 44 f)]
        exact List.map_congr_left (λt _=>IE t)
       have e2:vF ⟨bs n,(cut 44 f).map bs,v⟩=cut 32 s.data.toList:=by
        unfold vF;simp only[e1,zJ,IE,(IC iP ts hr).1,hc]
       unfold Az;rw[e2,zJ]
     ·rw[if_neg he] at h;exact absurd (Prod.mk.inj h).2 he
theorem ajk {s:ByteArray}(h:(JH s).2≠0):(JH s).1=Gx:=by
 unfold JH at h ⊢;split
 ·rfl
 ·rename_i hs
  rw[if_neg hs] at h
  cases hc:cut 32 s.data.toList with
  | nil=>rfl
  | cons n r =>
   rw[hc] at h
   cases r with
   | nil=>rfl
   | cons f ts =>
    simp only at h ⊢
    cases hr:QX iP ts with
    | none=>rfl
    | some v =>
     rw[hr] at h;simp only at h ⊢;by_cases he:bG ⟨bs n,(cut 44 f).map bs,v⟩=0
     ·rw[if_pos he] at h;exact absurd rfl h
     ·rw[if_neg he]
def Py:aU:=⟨⟨#[115]⟩,[⟨#[97,46,62]⟩,⟨#[98]⟩],[0,0,0,3,0,0,0,0]⟩
theorem ake:bG Py=0/\commas Py=false:=by decide +kernel
theorem ajl:Az Py=⟨#[115,32,97,46,62,44,98,32,112,101,114,61,51]⟩:=by decide +kernel
end Go.Proofs.YtidekgipblnpkaaGreatDoor.Pn
namespace Go.Proofs.YtidekgipblnpkaaGreatDoor
open Go Go.Proofs.Tryz
def wd (i:Nat):ByteArray:=Pn.bs ((Pn.iP[i]?).getD [])
namespace Pn
open Go.Proofs.Tryz
theorem ahJ {v:List Int}(h8:v.length=8){i:Nat}(hi:i<8):dI (iP.take (i+1)) (v.take (i+1))=dI (iP.take i) (v.take i)++(if Dk.nth v i=0 then [] else [(wd i).data.toList++61::Lib.itoa (Dk.nth v i)]):=by
 have key:∀(ws:List (List UInt8)) (v:List Int) (i:Nat),i<ws.length->i<v.length->dI (ws.take (i+1)) (v.take (i+1))=dI (ws.take i) (v.take i)++(if Dk.nth v i=0 then [] else [(ws[i]?).getD []++61::Lib.itoa (Dk.nth v i)]):=by
  intro ws;induction ws with
  | nil=>intro v i h;simp at h
  | cons w ws ih =>
   intro v i h1 h2
   cases v with
   | nil=>simp at h2
   | cons x v =>
    cases i with
    | zero =>
     simp only[List.take_succ_cons,List.take_zero,dI,Dk.nth];by_cases e:x=0
     ·simp[e]
     ·simp[e]
    | succ i =>
     have:=ih v i (by simpa using h1) (by simpa using h2);simp only[List.take_succ_cons,dI];have en:Dk.nth (x::v) (i+1)=Dk.nth v i:=rfl;rw[en,this];by_cases e:x=0
     ·rw[if_pos e,if_pos e];simp
     ·rw[if_neg e,if_neg e];simp
 have:=key iP v i hi (by omega);rw[this];unfold wd;rw[IE]
theorem ai0 (f:ByteArray):f.data.toList.contains 44=decide (1<(cut 44 f.data.toList).length):=by
 rw[yO,Bool.eq_iff_iff,decide_eq_true_eq,List.contains_iff_mem,<-List.count_pos_iff];omega
theorem akf {v:List Int}{i:Nat}(h:i<v.length):Dk.nth v i∈v:=by unfold Dk.nth;rw[List.getElem?_eq_getElem h];exact List.getElem_mem h
end Pn
end Go.Proofs.YtidekgipblnpkaaGreatDoor
namespace Go.Proofs.YtidekgipblnpkaaGreatDoor.Dk
open Go.RowKit Go.Proofs.Tryz
structure aG where
 l:List Rc
 last:Int
def lY (f s:ByteArray):Bool:=bT (Pl.toks f) (Pl.toks s)
def fU (l:List Rc)(s:ByteArray):Bool:=l.any λr=>decide (r.s=s)
def dX:List Rc->Nat
 | []=>0
 | r::l=>dX l+(if fU l r.s then 0 else 1)
def seqB (l:List Rc)(n:Int):Bool:=l.any λr=>decide (r.q=n)
def bV (s:aG)(r:Rc):Int :=
 if dA r≠0 then dA r
 else if r.k=2/\seqB s.l r.q=false then 4
 else if r.k≠1 then 0
 else if r.q<=s.last then 9
 else if 200<=s.l.length\/(fU s.l r.s=false/\100<=dX s.l) then 8
 else 0
def qw (r x:Rc):Bool:=(decide (r.k=2)&&decide (x.q=r.q))||(decide (r.k=3)&&(decide (x.q<r.q)&&lY r.s x.s))
def kQ (s:aG)(r:Rc):aG :=
 if bV s r≠0 then s
 else if r.k=1 then ⟨s.l++[r],r.q⟩
 else if r.k=4 then ⟨s.l,max s.last r.q⟩
 else ⟨s.l.filter (λx=>!qw r x),s.last⟩
structure aG.Ok (s:aG):Prop where
 rise:s.l.Pairwise λa b=>a.q<b.q
 msg:∀x∈s.l,x.k=1/\dA x=0
 low:∀x∈s.l,x.q<=s.last
 last:0<=s.last/\s.last<=1099511627776
 few:s.l.length<=200
 names:dX s.l<=100
theorem GV (a b:List Rc)(s:ByteArray):fU (a++b) s=(fU a s||fU b s):=by unfold fU;rw[List.any_append]
theorem nM:∀(l:List Rc) (r:Rc),dX (l++[r])=dX l+(if fU l r.s then 0 else 1)
 | [],r=>by simp[dX,fU]
 | x::l,r=>by
  rw[List.cons_append,dX,dX,nM l r,GV];have e:fU [r] x.s=decide (r.s=x.s):=by simp[fU]
  have e2:fU (x::l) r.s=(decide (x.s=r.s)||fU l r.s):=by simp[fU]
  rw[e,e2];by_cases h:x.s=r.s
  ·have h':r.s=x.s:=h.symm;rw[h]
   cases fU l r.s<;>simp
  ·have h':¬r.s=x.s:=λz=>h z.symm
   rw[decide_eq_false h,decide_eq_false h']
   cases fU l x.s<;>cases fU l r.s<;>simp
theorem TD {p:Rc->Bool}{l:List Rc}{s:ByteArray}(h:fU (l.filter p) s=true):fU l s=true:=by
 unfold fU at h ⊢;rw[List.any_eq_true] at h ⊢;obtain⟨x,hx,hs⟩:=h;exact⟨x,(List.mem_filter.1 hx).1,hs⟩
def yF:List Rc->List ByteArray
 | []=>[]
 | r::l=>if fU l r.s then yF l else r.s::yF l
theorem lQ:∀l:List Rc,dX l=(yF l).length
 | []=>rfl
 | r::l=>by
  rw[dX,yF,lQ l];by_cases h:fU l r.s=true
  ·rw[if_pos h,if_pos h];omega
  ·rw[if_neg h,if_neg h];rfl
theorem jK:∀(l:List Rc) (s:ByteArray),s∈yF l↔fU l s=true
 | [],s=>by simp[yF,fU]
 | r::l,s=>by
  have e:fU (r::l) s=(decide (r.s=s)||fU l s):=by simp[fU]
  rw[yF,e];by_cases h:fU l r.s=true
  ·rw[if_pos h,jK l s];constructor
   ·intro z;rw[z];simp
   ·intro z;rcases Bool.or_eq_true _ _▸z with y|y
    ·rw[<-of_decide_eq_true y];exact h
    ·exact y
  ·rw[if_neg h,List.mem_cons,jK l s,Bool.or_eq_true,decide_eq_true_eq];constructor
   ·rintro (y|y)
    ·exact .inl y.symm
    ·exact .inr y
   ·rintro (y|y)
    ·exact .inl y.symm
    ·exact .inr y
theorem lS:∀l:List Rc,(yF l).Nodup
 | []=>List.nodup_nil
 | r::l=>by
  rw[yF];by_cases h:fU l r.s=true
  ·rw[if_pos h];exact lS l
  ·rw[if_neg h,List.nodup_cons];exact⟨λz=>h ((jK l r.s).1 z),lS l⟩
theorem sS {α:Type}[DecidableEq α]:∀(a b:List α),a.Nodup->(∀x∈a,x∈b)->a.length<=b.length
 | [],b,_,_=>Nat.zero_le _
 | x::a,b,hn,hs=>by
  rw[List.nodup_cons] at hn;have hx:x∈b:=hs x (List.mem_cons_self ..);have:=sS a (b.erase x) hn.2 (λy hy=>(List.mem_erase_of_ne (λe=>hn.1 (by rw[<-e];exact hy))).2 (hs y (List.mem_cons_of_mem _ hy)));rw[List.length_erase_of_mem hx] at this;have:0<b.length:=List.length_pos_of_mem hx;simp only[List.length_cons];omega
theorem Pz (p:Rc->Bool)(l:List Rc):dX (l.filter p)<=dX l:=by
 rw[lQ,lQ];exact sS _ _ (lS _) (λs hs=>(jK l s).2 (TD ((jK _ s).1 hs)))
theorem aG.Ok.nil:aG.Ok ⟨[],0⟩:=⟨List.Pairwise.nil,λ_ h=>(by cases h),λ_ h=>(by cases h),⟨Int.le_refl _,by decide⟩,Nat.zero_le _,Nat.zero_le _⟩
theorem PV {r:Rc}(h:dA r=0):1<=r.q/\r.q<=1099511627776:=by
 obtain⟨_,_,h1,h2,_⟩:=Pk.oZ (r:=r.pk) h;exact⟨h1,h2⟩
theorem aG.Ok.apply {s:aG}(h:s.Ok)(r:Rc):(kQ s r).Ok:=by
 unfold kQ;by_cases h0:bV s r≠0
 ·rw[if_pos h0];exact h
 ·rw[if_neg h0];have h0:bV s r=0:=Classical.byContradiction h0;have hc:dA r=0:=by
   apply Classical.byContradiction;intro z;unfold bV at h0;rw[if_pos z] at h0;exact z h0
  have hq:=PV hc;by_cases h1:r.k=1
  ·rw[if_pos h1];have h2:¬r.q<=s.last/\¬(200<=s.l.length\/(fU s.l r.s=false/\100<=dX s.l)):=by
    unfold bV at h0;rw[if_neg (by rw[hc];simp),if_neg (by omega),if_neg (by omega)] at h0;by_cases z:r.q<=s.last
    ·rw[if_pos z] at h0;omega
    ·rw[if_neg z] at h0;by_cases y:200<=s.l.length\/(fU s.l r.s=false/\100<=dX s.l)
     ·rw[if_pos y] at h0;omega
     ·exact⟨z,y⟩
   obtain⟨h2,h3⟩:=h2;refine⟨?_,?_,?_,⟨by show 0<=r.q;omega,hq.2⟩,?_,?_⟩
   ·rw[List.pairwise_append];refine⟨h.rise,List.pairwise_singleton _ _,λa ha b hb=>?_⟩;rw[List.mem_singleton.1 hb];have:=h.low a ha;omega
   ·intro x hx;rcases List.mem_append.1 hx with y|y
    ·exact h.msg x y
    ·rw[List.mem_singleton.1 y];exact⟨h1,hc⟩
   ·intro x hx;rcases List.mem_append.1 hx with y|y
    ·have:=h.low x y;show x.q<=r.q;omega
    ·rw[List.mem_singleton.1 y];exact Int.le_refl _
   ·show(s.l++[r]).length<=200;rw[List.length_append,List.length_singleton];omega
   ·show dX (s.l++[r])<=100;rw[nM];have:=h.names
    cases hh:fU s.l r.s
    ·rw[if_neg (by simp)];have:¬100<=dX s.l:=λz=>h3 (.inr ⟨hh,z⟩)
     omega
    ·rw[if_pos rfl];omega
  ·rw[if_neg h1];by_cases h4:r.k=4
   ·rw[if_pos h4];have hl:=h.last;refine⟨h.rise,h.msg,λx hx=>?_,⟨?_,?_⟩,h.few,h.names⟩
    ·have:=h.low x hx;show x.q<=max s.last r.q;omega
    ·show 0<=max s.last r.q;omega
    ·show max s.last r.q<=1099511627776;omega
   ·rw[if_neg h4];exact⟨h.rise.sublist List.filter_sublist,λx hx=>h.msg x (List.mem_filter.1 hx).1,λx hx=>h.low x (List.mem_filter.1 hx).1,h.last,Nat.le_trans (List.length_filter_le _ _) h.few,Nat.le_trans (Pz _ _) h.names⟩
def qx (f:ByteArray)(l:List Rc):List Rc:=l.filter λr=>lY f r.s
def AP (l:List Rc)(n:Int):Option Rc:=l.find? λr=>decide (r.q=n)
def oP (f:ByteArray)(l:List Rc)(from':Int):Option Rc:=l.find? λr=>lY f r.s&&decide (from'<=r.q)
def AQ (f:ByteArray)(l:List Rc):Option Rc:=(qx f l).getLast?
def aP:List Rc->Nat
 | []=>0
 | r::l=>r.s.size+r.h.size+r.d.size+aP l
def cZ (l:List Rc):Int:=match l with
 | []=>0
 | r::_=>r.q
theorem mO:∀a b:List Rc,aP (a++b)=aP a+aP b
 | [],b=>by simp[aP]
 | r::a,b=>by rw[List.cons_append,aP,aP,mO a b];omega
theorem TF {l:List Rc}(h:∀r∈l,r.s.size<=135/\r.h.size+r.d.size<=256):aP l<=391*l.length:=by
 induction l with
 | nil=>simp[aP]
 | cons r l ih =>
  have h1:=h r (List.mem_cons_self ..);have h2:=ih (λx hx=>h x (List.mem_cons_of_mem _ hx));rw[aP,List.length_cons];omega
theorem aG.Ok.small {s:aG}(h:s.Ok){x:Rc}(hx:x∈s.l):x.s.size<=135/\x.h.size+x.d.size<=256:=by
 obtain⟨_,_,_,_,_,_,h1,h2⟩:=Pk.oZ (r:=x.pk) (h.msg x hx).2;have e:∀x:ByteArray,x.data.toList.length=x.size:=λx=>by simp
 simp only[Rc.pk,e] at h1 h2;exact⟨h1,h2⟩
theorem aG.Ok.bytes {s:aG}(h:s.Ok):aP s.l<=78200:=by
 have h1:=TF (λr hr=>h.small hr);have:=h.few;omega
theorem aG.Ok.seq {s:aG}(h:s.Ok){x:Rc}(hx:x∈s.l):1<=x.q/\x.q<=1099511627776:=PV (h.msg x hx).2
theorem Wy {f:ByteArray}{l:List Rc}(h:l.Pairwise λa b=>a.q<b.q):(qx f l).Pairwise λa b=>a.q<b.q:=h.sublist List.filter_sublist
theorem WA (f:ByteArray)(l:List Rc)(n:Int):oP f l n=(qx f l).find? λr=>decide (n<=r.q):=by
 unfold oP qx;rw[List.find?_filter];congr
 funext r
 cases lY f r.s<;>simp
theorem Nz {T:List Rc}{k:Nat}{n:Int}(h1:∀j,(hj:j<T.length)->j<k->T[j].q<n)(h2:∀hk:k<T.length,n<=T[k].q):T.find? (λr=>decide (n<=r.q))=T[k]?:=by
 by_cases hk:k<T.length
 ·rw[List.getElem?_eq_getElem hk,List.find?_eq_some_iff_getElem];refine⟨by simpa using h2 hk,k,hk,rfl,λj hj=>?_⟩;have:=h1 j (by omega) hj;simp only[Bool.not_eq_true',decide_eq_false_iff_not];omega
 ·rw[List.getElem?_eq_none (by omega),List.find?_eq_none];intro x hx;obtain⟨j,hj,rfl⟩:=List.getElem_of_mem hx;have:=h1 j hj (by omega);simp only[decide_eq_true_eq];omega
def Gone (T:List Rc)(k:Nat)(n:Int):Prop:=k<=T.length/\((k=0/\n=0)\/∃j,∃hj:j<T.length,k=j+1/\n=T[j].q+1)
theorem Gone.next {f:ByteArray}{s:aG}(h:s.Ok){k:Nat}{n:Int}(g:Gone (qx f s.l) k n):oP f s.l n=(qx f s.l)[k]?:=by
 have hr:=Wy (f:=f) h.rise;have hp:∀x∈qx f s.l,1<=x.q:=λx hx=>(h.seq (List.mem_filter.1 hx).1).1
 rw[WA];obtain⟨_,⟨rfl,rfl⟩|⟨j,hj,rfl,rfl⟩⟩:=g
 ·exact Nz (λj _ z=>absurd z (Nat.not_lt_zero j)) (λhk=>by have:=hp _ (List.getElem_mem hk);omega)
 ·refine Nz (λi hi z=>?_) (λhk=>?_)
  ·rcases Nat.lt_or_ge i j with y|y
   ·have:=List.pairwise_iff_getElem.1 hr i j hi hj y;omega
   ·obtain rfl:i=j:=by omega
    omega
  ·have:=List.pairwise_iff_getElem.1 hr j (j+1) hj hk (by omega);omega
theorem Gone.step {T:List Rc}{k:Nat}(hk:k<T.length):Gone T (k+1) (T[k].q+1):=⟨hk,.inr ⟨k,hk,rfl,rfl⟩⟩
theorem Gone.start (T:List Rc):Gone T 0 0:=⟨Nat.zero_le _,.inl ⟨rfl,rfl⟩⟩
theorem JL {s:aG}{r:Rc}(h0:bV s r=0)(h3:r.k=3):kQ s r=⟨s.l.filter (λx=>!(decide (x.q<r.q)&&lY r.s x.s)),s.last⟩:=by
 unfold kQ;rw[if_neg (by rw[h0];simp),if_neg (by omega),if_neg (by omega)];unfold qw;rw[h3];simp
theorem aaJ {s:aG}{r:Rc}(h3:r.k=3):bV s r=dA r:=by
 unfold bV;by_cases hc:dA r≠0
 ·rw[if_pos hc]
 ·rw[if_neg hc,if_neg (by omega),if_pos (by omega)];exact(Classical.byContradiction hc:dA r=0).symm
def Safe (es:List ay)(recs:List Rc):Prop:=(es=[]/\recs=[])\/vG es recs recs.length
def yG (es:List ay):Prop:=∀x∈es,x.sure=(x.text.size:Int)
theorem Safe.Y6 {es:List ay}{recs:List Rc}(h:Safe es recs):yG es:=by
 rcases h with ⟨rfl,_⟩|⟨pre,e,A,L,j,rfl,rfl,hw,hs,he,hg,hj,hsu,hn⟩
 ·intro x hx;cases hx
 ·intro x hx;rcases List.mem_append.1 hx with y|y
  ·exact hs x y
  ·rw[List.mem_singleton.1 y,hsu,he];rw[List.length_append] at hn;rw[List.take_of_length_le (by omega)]
theorem Safe.opens {es:List ay}{recs:List Rc}(h:Safe es recs):aX es=(recs,es):=by
 rcases h with ⟨rfl,rfl⟩|⟨pre,e,A,L,j,rfl,rfl,hw,hs,he,hg,hj,hsu,hn⟩
 ·rfl
 ·rw[nD _ hw,gI (by rw[he];exact yS hg)];simp[aX]
theorem aaK {x:ay}(h:x.sure=(x.text.size:Int))(keep:Int):fP keep x=x:=by
 have hat:dn x keep=x.text.size:=by unfold dn;rw[h];omega
 unfold fP;rw[hat];have:x.text.extract 0 x.text.size=x.text:=by
  apply ByteArray.ext;simp
 rw[this]
 cases x
 simp only at h;rw[h]
theorem yG.stop {es:List ay}(h:yG es)(keep:Int):es.map (fP keep)=es:=by
 conv=>rhs;rw[<-List.map_id es]
 exact List.map_congr_left (λx hx=>aaK (h x hx) keep)
theorem yG.sync {es:List ay}(h:yG es)(n:Int):dM es n=es:=by
 unfold dM;split
 ·rename_i hi
  have hs:=h _ (gY hi);have e:({pa es (ix es n) with sure:=((pa es (ix es n)).text.size:Int)}:ay)=pa es (ix es n):=by
   cases hp:pa es (ix es n)
   rw[hp] at hs;simp only at hs;rw[hs]
  rw[e,gX hi];exact List.set_getElem_self hi
 ·rfl
theorem yG.RY {es:List ay}(h:yG es):dU es=es:=by
 unfold dU;split
 ·rfl
 ·exact h.sync _
theorem yG.log {es:List ay}(h:yG es)(m size:Int)(r:Rc):iT es m size r=iD es m size r:=by
 by_cases h0:(iD es m size r).1=0
 ·exact um h0
 ·rw[nZ h0];refine Prod.ext rfl ?_;unfold iD at h0 ⊢;split
  ·rfl
  ·rename_i hc
   rw[if_neg hc] at h0;split
   ·rename_i hl
    rw[if_pos hl] at h0;have h1:bY es m 0 (bZ r)≠0:=h0;exact(jQ h1).symm
   ·rename_i hl
    rw[if_neg hl] at h0;split
    ·rename_i hf
     rw[if_pos hf] at h0;rw[h.sync] at h0 ⊢;have h1:bY es m ((iI es).n+1) (bZ r)≠0:=h0;exact(jQ h1).symm
    ·rename_i hf
     rw[if_neg hf] at h0;have h1:bY es m (iI es).n (bZ r)≠0:=h0;exact(jQ h1).symm
theorem Safe.append {m size:Int}{es:List ay}{recs:List Rc}(h:Safe es recs)(ht:Tidy m es){r:Rc}(h0:(iT es m size r).1=0):Safe (dU (iT es m size r).2) (recs++[r]):=by
 right;rcases h with ⟨rfl,rfl⟩|h
 ·have hR:(iD [] m size r).1=0:=by
   apply Classical.byContradiction;intro z;rw[nZ z] at h0;exact z h0
  have hl:vG (iT [] m size r).2 ([]++[r]) 0:=by
   rw[um hR];have hc:dA r=0:=by
    apply Classical.byContradiction;intro z;unfold iD at hR;rw[if_pos z] at hR;exact z hR
   have e:iD [] m size r=(bY [] m 0 (bZ r),gK [] m 0 (bZ r)):=by
    unfold iD;rw[if_neg (by rw[hc];simp),if_pos (show([]:List ay).length=0 from rfl)]
   rw[e] at hR ⊢;have hR':bY [] m 0 (bZ r)=0:=hR;obtain⟨hI,hf⟩:=l9.1 hR';have ea:gK [] m 0 (bZ r)=[⟨0,0,bZ r⟩]:=by
    unfold gK;rw[if_neg (by rw[hI];simp),if_neg (by rw[hf];simp),if_neg (by simp[ix])];rfl
   refine⟨[],⟨0,0,bZ r⟩,[],[r],0,by simp only;rw[ea];rfl,rfl,rfl,λx hx=>(by cases hx),?_,?_,Nat.zero_le _,?_,Nat.zero_le _⟩
   ·show bZ r=dP [r];simp[dP]
   ·intro x hx;rw[List.mem_singleton.1 hx];exact hc
   ·simp[dP]
  exact hl.sync (ht.logp size r)
 ·exact((h.afZ ht r).1 h0).sync (ht.logp size r)
theorem Safe.rewrite {m size:Int}{es:List ay}{l:List Rc}(hg:Good l)(h0:(jq es m size l).1=0):Safe (jq es m size l).2 l:=by
 right;unfold jq at h0 ⊢;split
 ·rename_i h;rw[if_pos h] at h0;exact absurd h0 h
 ·rename_i h
  rw[if_neg h] at h0;split
  ·rename_i h1;rw[if_pos h1] at h0;cases h0
  ·rename_i h1
   rw[if_neg h1] at h0;split
   ·rename_i h2;rw[if_pos h2] at h0;exact absurd h0 h2
   ·exact⟨[],⟨dN es,((dP l).size:Int),dP l⟩,[],l,l.length,rfl,rfl,rfl,λx hx=>(by cases hx),rfl,hg,Nat.le_refl _,by rw[List.take_length],by simp⟩
theorem agr {m size:Int}{es:List ay}{l:List Rc}(h0:(jq es m size l).1≠0):(jq es m size l).2=es:=by
 unfold jq at h0 ⊢;split
 ·rfl
 ·rename_i h
  rw[if_neg h] at h0;split
  ·rfl
  ·rename_i h1
   rw[if_neg h1] at h0;split
   ·rfl
   ·rename_i h2
    rw[if_neg h2] at h0;exact absurd rfl h0
def lT (l:List Rc):aG:=l.foldl kQ ⟨[],0⟩
theorem uH (l:List Rc)(r:Rc):lT (l++[r])=kQ (lT l) r:=by unfold lT;rw[List.foldl_append];rfl
theorem NC:∀(l:List Rc) {s:aG},s.Ok->(l.foldl kQ s).Ok
 | [],_,h=>h
 | r::l,_,h=>NC l (h.apply r)
theorem JM (l:List Rc):(lT l).Ok:=NC l aG.Ok.nil
def rC (n:Int):Rc:=⟨4,n,0,⟨#[]⟩,⟨#[]⟩,⟨#[]⟩⟩
def lU (s:aG):List Rc:=s.l++(if 0<s.last then [rC s.last] else [])
theorem adg {n:Int}(h:1<=n/\n<=1099511627776):dA (rC n)=0:=by
 unfold dA rC Rc.pk Pk.chk;simp[Pk.inB];omega
def Ls (l:List Rc):Int:=(l.getLast?.map (·.q)).getD 0
theorem ND (l:List Rc)(r:Rc):Ls (l++[r])=r.q:=by unfold Ls;simp
theorem TG (a b:List Rc):dX a<=dX (a++b):=by
 rw[lQ,lQ];refine sS _ _ (lS _) (λs hs=>(jK _ s).2 ?_);rw[GV,(jK a s).1 hs];rfl
theorem AU {s:aG}(h:s.Ok):∀(k:Nat),k<=s.l.length->lT (s.l.take k)=⟨s.l.take k,Ls (s.l.take k)⟩
 | 0,_=>rfl
 | k+1,hk=>by
  have hlt:k<s.l.length:=by omega
  have ih:=AU h k (by omega);have hm:=List.getElem_mem hlt;obtain⟨hk1,hc⟩:=h.msg _ hm;have hq:=h.seq hm;rw[List.take_succ_eq_append_getElem hlt,uH,ih];have hlo:¬(s.l[k]).q<=Ls (s.l.take k):=by
   cases k with
   | zero=>simp[Ls];omega
   | succ j =>
    rw[List.take_succ_eq_append_getElem (by omega),ND];have:=List.pairwise_iff_getElem.1 h.rise j (j+1) (by omega) hlt (by omega);omega
  have hnm:¬(fU (s.l.take k) (s.l[k]).s=false/\100<=dX (s.l.take k)):=λz=>by
   have h1:=TG (s.l.take (k+1)) (s.l.drop (k+1));rw[List.take_append_drop,List.take_succ_eq_append_getElem hlt,nM,z.1] at h1;have:=h.names;simp at h1;omega
  have hfw:¬200<=(s.l.take k).length:=by
   have:=h.few;rw[List.length_take];omega
  have ht:bV ⟨s.l.take k,Ls (s.l.take k)⟩ s.l[k]=0:=by
   unfold bV;rw[if_neg (by rw[hc];simp),if_neg (by omega),if_neg (by omega),if_neg hlo,if_neg (λz=>by rcases z with z|z;exact hfw z;exact hnm z)]
  unfold kQ;rw[if_neg (by rw[ht];simp),if_pos hk1,ND]
theorem adh {s:aG}(h:s.Ok):lT (lU s)=s/\Good (lU s):=by
 have hf:=AU h s.l.length (Nat.le_refl _);rw[List.take_length] at hf;have hl:=h.last;unfold lU;by_cases h0:0<s.last
 ·rw[if_pos h0];have hmk:=adg (n:=s.last) (by omega);constructor
  ·rw[uH,hf];have ht:bV ⟨s.l,Ls s.l⟩ (rC s.last)=0:=by
    unfold bV;rw[if_neg (by rw[hmk];simp),if_neg (by simp[rC]),if_pos (by simp[rC])]
   have he:Ls s.l<=s.last:=by
    unfold Ls
    cases hg:s.l.getLast? with
    | none=>simp;omega
    | some x=>simp;exact h.low x (List.mem_of_getLast? hg)
   unfold kQ;rw[if_neg (by rw[ht];simp),if_neg (by simp[rC]),if_pos (by simp[rC])];show aG.mk s.l (max (Ls s.l) s.last)=s;rw[Int.max_eq_right he]
  ·intro x hx;rcases List.mem_append.1 hx with y|y
   ·exact(h.msg x y).2
   ·rw[List.mem_singleton.1 y];exact hmk
 ·rw[if_neg h0,List.append_nil];have hn:s.l=[]:=by
   cases hs:s.l with
   | nil=>rfl
   | cons x l =>
    have hx:x∈s.l:=by rw[hs];exact List.mem_cons_self ..
    have:=h.low x hx;have:=(h.seq hx).1;omega
  constructor
  ·rw[hf,hn];show aG.mk [] 0=s
   cases s
   simp only at hn hl h0 ⊢;rw[hn];congr
   omega
  ·rw[hn];intro x hx
   cases hx
structure lC (m:Int)(es:List ay)(s:aG):Prop where
 tidy:Tidy m es
 safe:∃recs,Safe es recs/\lT recs=s
theorem lC.nil {m:Int}(h:0<=m):lC m [] ⟨[],0⟩:=⟨Tidy.nil h,[],.inl ⟨rfl,rfl⟩,rfl⟩
theorem lC.ok {m:Int}{es:List ay}{s:aG}(h:lC m es s):s.Ok:=by
 obtain⟨recs,_,rfl⟩:=h.safe;exact JM recs
theorem lC.Y6 {m:Int}{es:List ay}{s:aG}(h:lC m es s):yG es:=by
 obtain⟨recs,h1,_⟩:=h.safe;exact h1.Y6
def gV (es:List ay)(s:aG)(m size:Int)(r:Rc):Int:=if bV s r≠0 then bV s r else (iT es m size r).1
def nN (es:List ay)(s:aG)(m size:Int)(r:Rc):List ay:=if gV es s m size r=0 then dU (iT es m size r).2 else es
def iM (es:List ay)(s:aG)(m size:Int)(r:Rc):aG:=if gV es s m size r=0 then kQ s r else s
theorem Y7 {es:List ay}{s:aG}{m size:Int}{r:Rc}(h:gV es s m size r=0):bV s r=0/\(iT es m size r).1=0:=by
 unfold gV at h;by_cases z:bV s r=0
 ·rw[if_neg (by rw[z];simp)] at h;exact⟨z,h⟩
 ·rw[if_pos z] at h;exact absurd h z
theorem lC.did {m size:Int}{es:List ay}{s:aG}(h:lC m es s)(r:Rc):lC m (nN es s m size r) (iM es s m size r):=by
 unfold nN iM;by_cases h0:gV es s m size r=0
 ·rw[if_pos h0,if_pos h0];obtain⟨recs,h1,h2⟩:=h.safe;refine⟨(h.tidy.logp size r).RY,recs++[r],h1.append h.tidy (Y7 h0).2,?_⟩;rw[uH,h2]
 ·rw[if_neg h0,if_neg h0];exact h
def rD (es:List ay)(s:aG)(m size:Int):Int:=(jq es m size (lU s)).1
def lV (es:List ay)(s:aG)(m size:Int):List ay:=(jq es m size (lU s)).2
theorem lC.comp {m size:Int}{es:List ay}{s:aG}(h:lC m es s):lC m (lV es s m size) s:=by
 unfold lV;obtain⟨r1,r2⟩:=adh h.ok;by_cases h0:(jq es m size (lU s)).1=0
 ·exact⟨h.tidy.rewritten size _,lU s,Safe.rewrite r2 h0,r1⟩
 ·rw[agr h0];exact h
theorem lC.crash {m:Int}{es:List ay}{s:aG}(h:lC m es s)(keep:Int):es.map (fP keep)=es/\(aX es).2=es/\lT (aX es).1=s:=by
 obtain⟨recs,h1,h2⟩:=h.safe;rw[h1.opens];exact⟨h1.Y6.stop keep,rfl,h2⟩
def iZ:Rc:=⟨0,0,0,⟨#[]⟩,⟨#[]⟩,⟨#[]⟩⟩
def aaL (o:Option Rc):Value:=match o with
 | some r=>.tuple #[rcV r,.int .i64 0]
 | none=>.tuple #[rcV iZ,.int .i64 4]
def jc (f:ByteArray)(o:Option Rc):Value:=if aC true f=0 then aaL o else .tuple #[rcV iZ,.int .i64 (aC true f)]
def uI (SH:World->Nat->Nat->(Nat->Prop)->aG->Prop)(w w':World)(B q:Nat)(F:Nat->Prop)(s:aG):Prop:=∃F',SH w' B q F' s/\aF F w w'/\∀k,F' k->F k\/w.heap.size<=k
def Lu (VH:World->Nat->Nat->(Nat->Prop)->Int->Int->List ay->aG->Prop)(w w':World)(B p:Nat)(F:Nat->Prop)(m size:Int)(es:List ay)(s:aG):Prop:=∃F',VH w' B p F' m size es s/\aF F w w'/\∀k,F' k->F k\/w.heap.size<=k
structure zi (VH:World->Nat->Nat->(Nat->Prop)->Int->Int->List ay->aG->Prop)(SH:World->Nat->Nat->(Nat->Prop)->aG->Prop):Prop where
 own:∀{w B p F m size es s},VH w B p F m size es s->∀k,F k->B<=k/\k<w.heap.size
 dh:∀{w w' B p F m size es s} {A:Nat->Prop},VH w B p F m size es s->aF A w w'->(∀k,F k->¬A k)->VH w' B p F m size es s
 bad:∀(w:World) (m size:Int),(aY m 1 65536&&aY size 1 4096)=false ->
  Calls prog 25 #[.int .i64 m,.int .i64 size] w λe w'=>e=.returned (.tuple #[.pointer none,.int .i64 1])/\Below w.heap.size w w'
 good:∀(w:World) (m size:Int),aY m 1 65536=true->aY size 1 4096=true ->
  Calls prog 25 #[.int .i64 m,.int .i64 size] w λe w'=>∃p F,e=.returned (.tuple #[.pointer (some ⟨p,0,none⟩),.int .i64 0])/\VH w' w.heap.size p F m size [] ⟨[],0⟩/\Below w.heap.size w w'
 did:∀{w B p F m size es s} (r:Rc),Small r->VH w B p F m size es s->lC m es s->m<=65536->aY size 1 4096=true->B<=w.heap.size ->
  Calls prog 102 #[.pointer (some ⟨p,0,none⟩),.agg #[.int .i64 r.k,.int .i64 r.q,.int .i64 r.t,.string r.s,.string r.h,.string r.d]] w λe w'=>e=.returned (.int .i64 (gV es s m size r))/\Lu VH w w' B p F m size (nN es s m size r) (iM es s m size r)
 compact:∀{w B p F m size es s},VH w B p F m size es s->lC m es s->m<=65536->aY size 1 4096=true->B<=w.heap.size ->
  Calls prog 83 #[.pointer (some ⟨p,0,none⟩)] w λe w'=>e=.returned (.int .i64 (rD es s m size))/\Lu VH w w' B p F m size (lV es s m size) s
 store:∀{w B p F m size es s},VH w B p F m size es s->lC m es s->m<=65536->aY size 1 4096=true->B<=w.heap.size ->
  Calls prog 49 #[.pointer (some ⟨p,0,none⟩)] w λe w'=>∃q F0,e=.returned (.pointer (some ⟨q,0,none⟩))/\SH w' B q F0 s/\(∀k,F0 k->F k)/\Below w.heap.size w w'
def aJ (Cs:Nat->Prop)(w w':World):Prop:=w.heap.size<=w'.heap.size/\∀k,Cs k->w'.heap[k]?=w.heap[k]?
theorem aJ.cell {Cs:Nat->Prop}{w w':World}(h:aJ Cs w w'){C j:Nat}(hC:Cs C):w'.cell? ⟨C,j,none⟩=w.cell? ⟨C,j,none⟩:=World.cell?_of_block (w:=w) (h.2 C hC)
theorem aJ.trans {Cs:Nat->Prop}{w w1 w2:World}(h:aJ Cs w w1)(k:aJ Cs w1 w2):aJ Cs w w2:=⟨Nat.le_trans h.1 k.1,λi hi=>(k.2 i hi).trans (h.2 i hi)⟩
theorem aJ.fewer {Cs jw:Nat->Prop}{w w':World}(h:aJ Cs w w')(hC:∀k,jw k->Cs k):aJ jw w w':=⟨h.1,λk hk=>h.2 k (hC k hk)⟩
theorem aJ.recs {Cs:Nat->Prop}{w w':World}{a:Option Addr}{l:List Rc}(h:aJ Cs w w')(s:qM w a l)(hn:∀z,a=some z->Cs z.block):qM w' a l:=λk hk=>by
 obtain⟨b,o,h1,h2⟩:=s k hk;have hb:Cs b:=hn _ h1;exact⟨b,o,h1,⟨Nat.lt_of_lt_of_le h2.lt h.1,by rw[h.cell hb];exact h2.c0,by rw[h.cell hb];exact h2.c1,by rw[h.cell hb];exact h2.c2,by rw[h.cell hb];exact h2.c3,by rw[h.cell hb];exact h2.c4,by rw[h.cell hb];exact h2.c5⟩⟩
def AV (VH:World->Nat->Nat->(Nat->Prop)->Int->Int->List ay->aG->Prop)(Cs:Nat->Prop)(w wr:World)(p:Nat)(m size:Int)(es:List ay)(s:aG):Prop :=
 ∃F,VH wr w.heap.size p F m size es s/\Below w.heap.size w wr/\(∀k,Cs k->k<wr.heap.size/\¬F k)/\lC m es s/\m<=65536/\aY size 1 4096=true
section
variable {VH:World->Nat->Nat->(Nat->Prop)->Int->Int->List ay->aG->Prop}{SH:World->Nat->Nat->(Nat->Prop)->aG->Prop}{Cs jw:Nat->Prop}{w wr w':World}{p:Nat}{m size:Int}{es es':List ay}{s s':aG}
theorem AV.bl (h:AV VH Cs w wr p m size es s):Below w.heap.size w wr:=by obtain⟨F,_,h2,_⟩:=h;exact h2
theorem AV.room (h:AV VH Cs w wr p m size es s):w.heap.size<=wr.heap.size:=h.bl.size
theorem AV.mX (h:AV VH Cs w wr p m size es s):lC m es s:=by obtain⟨F,_,_,_,h5,_⟩:=h;exact h5
theorem AV.ok (h:AV VH Cs w wr p m size es s):s.Ok:=h.mX.ok
theorem AV.mine (V:zi VH SH)(h:AV VH Cs w wr p m size es s)(hb:Below wr.heap.size wr w')(hn:∀k,jw k->Cs k\/wr.heap.size<=k/\k<w'.heap.size):AV VH jw w w' p m size es s:=by
 have hr:=h.room;obtain⟨F,h1,h2,h3,h4,h5,h6⟩:=h;refine⟨F,V.dh (A:=λ_=>False) h1 (aF.of_below hb) (λ_ _ z=>z),h2.trans (hb.mono hr),λk hk=>?_,h4,h5,h6⟩;rcases hn k hk with y|y
 ·exact⟨Nat.lt_of_lt_of_le (h3 k y).1 hb.size,(h3 k y).2⟩
 ·exact⟨y.2,λz=>by have:=(V.own h1 k z).2;omega⟩
theorem AV.below (V:zi VH SH)(h:AV VH Cs w wr p m size es s)(hb:Below wr.heap.size wr w'):AV VH Cs w w' p m size es s:=h.mine V hb (λ_ z=>.inl z)
theorem AV.stay (h:AV VH Cs w wr p m size es s)(hb:Below wr.heap.size wr w'):aJ Cs wr w':=by
 obtain⟨F,_,_,h3,_⟩:=h;exact⟨hb.size,λk hk=>hb.block k (h3 k hk).1⟩
theorem AV.does (V:zi VH SH)(h:AV VH Cs w wr p m size es s)(hk:lC m es' s'){fn:FuncId}{args:Array Value}{Q:Ending->World->Prop}
 (hc:∀F,VH wr w.heap.size p F m size es s->Calls prog fn args wr λe w'=>Q e w'/\Lu VH wr w' w.heap.size p F m size es' s') :
 Calls prog fn args wr λe w'=>Q e w'/\AV VH Cs w w' p m size es' s'/\aJ Cs wr w':=by
 have hr:=h.room;obtain⟨F,h1,h2,h3,h4,h5,h6⟩:=h;refine(hc F h1).mono ?_;rintro e w' ⟨hq,F',a1,a2,a3⟩;refine⟨hq,⟨F',a1,h2.trans (a2.below hr (λk hk z=>by have:=(V.own h1 k z).1;omega)),λk hk=>⟨Nat.lt_of_lt_of_le (h3 k hk).1 a2.size,λz=>?_⟩,hk,h5,h6⟩,a2.size,λk hk=>a2.block k (h3 k hk).1 (h3 k hk).2⟩;rcases a3 k z with y|y
 ·exact(h3 k hk).2 y
 ·have:=(h3 k hk).1;omega
theorem AV.did (V:zi VH SH)(h:AV VH Cs w wr p m size es s)(r:Rc)(hr:Small r) :
 Calls prog 102 #[.pointer (some ⟨p,0,none⟩),.agg #[.int .i64 r.k,.int .i64 r.q,.int .i64 r.t,.string r.s,.string r.h,.string r.d]] wr λe w'=>e=.returned (.int .i64 (gV es s m size r))/\AV VH Cs w w' p m size (nN es s m size r) (iM es s m size r)/\aJ Cs wr w':=by
 have hm:=h.room;obtain⟨_,_,_,_,h4,h5,h6⟩:=id h;exact h.does V (h4.did r) (λF hF=>V.did r hr hF h4 h5 h6 hm)
theorem AV.compact (V:zi VH SH)(h:AV VH Cs w wr p m size es s) :
 Calls prog 83 #[.pointer (some ⟨p,0,none⟩)] wr λe w'=>e=.returned (.int .i64 (rD es s m size))/\AV VH Cs w w' p m size (lV es s m size) s/\aJ Cs wr w':=by
 have hm:=h.room;obtain⟨_,_,_,_,h4,h5,h6⟩:=id h;exact h.does V h4.comp (λF hF=>V.compact hF h4 h5 h6 hm)
theorem AV.store (V:zi VH SH)(h:AV VH Cs w wr p m size es s) :
 Calls prog 49 #[.pointer (some ⟨p,0,none⟩)] wr λe w'=>∃q F0,e=.returned (.pointer (some ⟨q,0,none⟩))/\SH w' w.heap.size q F0 s/\Below wr.heap.size wr w':=by
 have hm:=h.room;obtain⟨F,h1,_,_,h4,h5,h6⟩:=h;refine(V.store h1 h4 h5 h6 hm).mono ?_;rintro e w' ⟨q,F0,he,hs,_,hb⟩;exact⟨q,F0,he,hs,hb⟩
theorem AV.new (V:zi VH SH)(w:World)(hm:aY m 1 65536=true)(hs:aY size 1 4096=true) :
 Calls prog 25 #[.int .i64 m,.int .i64 size] w λe w'=>∃p,e=.returned (.tuple #[.pointer (some ⟨p,0,none⟩),.int .i64 0])/\AV VH (λ_=>False) w w' p m size [] ⟨[],0⟩:=by
 have hb:1<=m/\m<=65536:=by simpa[aY] using hm
 refine(V.good w m size hm hs).mono ?_;rintro e w' ⟨p,F,he,h1,h2⟩;exact⟨p,he,F,h1,h2,λ_ z=>z.elim,lC.nil (by omega),hb.2,hs⟩
end
structure jd (SH:World->Nat->Nat->(Nat->Prop)->aG->Prop):Prop where
 all:∀{w B q F s},SH w B q F s->s.Ok->B<=w.heap.size ->
  Calls prog 21 #[.pointer (some ⟨q,0,none⟩)] w λe w'=>∃v,e=.returned v/\bK w' w.heap.size v s.l/\Below w.heap.size w w'
 sums:∀{w B q F s},SH w B q F s->s.Ok->B<=w.heap.size ->
  Calls prog 18 #[.pointer (some ⟨q,0,none⟩)] w λe w'=>e=.returned (.agg #[.int .i64 (s.l.length:Int),.int .i64 (aP s.l:Int),.int .i64 (cZ s.l),.int .i64 s.last])/\Below w.heap.size w w'
theorem bK.low {w:World}{B B':Nat}{v:Value}{l:List Rc}(h:bK w B v l)(hB:B'<=B):bK w B' v l:=by
 refine⟨h.1,?_⟩;rcases h.2 with q|⟨g,cap,cur,h1,h2,r⟩
 ·exact .inl q
 ·exact .inr ⟨g,cap,cur,h1,Nat.le_trans hB h2,r⟩
structure eP (SH:World->Nat->Nat->(Nat->Prop)->aG->Prop):Prop where
 own:∀{w B q F s},SH w B q F s->∀k,F k->B<=k/\k<w.heap.size
 dh:∀{w w' B q F s} {A:Nat->Prop},SH w B q F s->aF A w w'->(∀k,F k->¬A k)->SH w' B q F s
 low:∀{w B B' q F s},SH w B q F s->B'<=B->SH w B' q F s
 new:∀w:World,Calls prog 112 #[] w λe w'=>∃q F,e=.returned (.pointer (some ⟨q,0,none⟩))/\SH w' w.heap.size q F ⟨[],0⟩/\Below w.heap.size w w'
 tries:∀{w B q F s} (r:Rc),Small r->SH w B q F s->s.Ok->B<=w.heap.size ->
  Calls prog 136 #[.pointer (some ⟨q,0,none⟩),.agg #[.int .i64 r.k,.int .i64 r.q,.int .i64 r.t,.string r.s,.string r.h,.string r.d]] w λe w'=>e=.returned (.int .i64 (bV s r))/\Below w.heap.size w w'
 apply:∀{w B q F s} (r:Rc),Small r->SH w B q F s->s.Ok->B<=w.heap.size ->
  Calls prog 113 #[.pointer (some ⟨q,0,none⟩),.agg #[.int .i64 r.k,.int .i64 r.q,.int .i64 r.t,.string r.s,.string r.h,.string r.d]] w λe w'=>e=.returned (.int .i64 (bV s r))/\uI SH w w' B q F (kQ s r)
 sees:jd SH
structure Va (Has:World->Nat->Nat->(Nat->Prop)->Int->List ay->Prop)(SH:World->Nat->Nat->(Nat->Prop)->aG->Prop)(w:World)(B x o q g c:Nat)(FL G:Nat->Prop)(m size:Int)(es:List ay)(s:aG):Prop where
 log:ku Has g size w B q FL m es
 kH:SH w B c G s
 base:B<=x
 lt:x<w.heap.size
 c0:w.cell? ⟨x,o,none⟩=some (.pointer (some ⟨q,0,none⟩))
 c1:w.cell? ⟨x,o+1,none⟩=some (.int .i64 size)
 c2:w.cell? ⟨x,o+2,none⟩=some (.pointer (some ⟨g,0,none⟩))
 c3:w.cell? ⟨x,o+3,none⟩=some (.pointer (some ⟨c,0,none⟩))
 free:∀j,w.frozen? ⟨x,j,none⟩=false
 ap:∀k,FL k->¬G k
 xd:¬FL x
 xg:¬G x
def vaF (x:Nat)(FL G:Nat->Prop)(k:Nat):Prop:=k=x\/FL k\/G k
section
variable {Has:World->Nat->Nat->(Nat->Prop)->Int->List ay->Prop}{SH:World->Nat->Nat->(Nat->Prop)->aG->Prop}{w w1 w':World}{B x o q g c:Nat}{FL G A:Nat->Prop}{m size:Int}{es es':List ay}{s s':aG}
theorem Va.own (H:More Has)(S:eP SH)(h:Va Has SH w B x o q g c FL G m size es s):∀k,vaF x FL G k->B<=k/\k<w.heap.size:=by
 rintro k (rfl|z|z)
 ·exact⟨h.base,h.lt⟩
 ·exact(ku.looks H g size).own h.log k z
 ·exact S.own h.kH k z
theorem Va.dh (H:More Has)(S:eP SH)(h:Va Has SH w B x o q g c FL G m size es s)(hc:aF A w w')(hn:∀k,vaF x FL G k->¬A k):Va Has SH w' B x o q g c FL G m size es s:=by
 have hx:=hn x (.inl rfl);exact⟨(ku.looks H g size).dh h.log hc (λk hk=>hn k (.inr (.inl hk))),S.dh h.kH hc (λk hk=>hn k (.inr (.inr hk))),h.base,Nat.lt_of_lt_of_le h.lt hc.size,by rw[hc.cell (p:=⟨x,o,none⟩) h.lt hx];exact h.c0,by rw[hc.cell (p:=⟨x,o+1,none⟩) h.lt hx];exact h.c1,by rw[hc.cell (p:=⟨x,o+2,none⟩) h.lt hx];exact h.c2,by rw[hc.cell (p:=⟨x,o+3,none⟩) h.lt hx];exact h.c3,λj=>by rw[hc.frozen (p:=⟨x,j,none⟩) h.lt hx];exact h.free j,h.ap,h.xd,h.xg⟩
theorem Va.below (H:More Has)(S:eP SH)(h:Va Has SH w B x o q g c FL G m size es s)(hb:Below w.heap.size w w'):Va Has SH w' B x o q g c FL G m size es s:=h.dh H S (A:=λ_=>False) (aF.of_below hb) (λ_ _ z=>z)
theorem Va.upd (S:eP SH)(h:Va Has SH w B x o q g c FL G m size es s)(hu:Did (ku Has g size) w w' B q FL m es'):∃FL',Va Has SH w' B x o q g c FL' G m size es' s/\aF FL w w'/\∀k,FL' k->FL k\/w.heap.size<=k:=by
 obtain⟨FL',k1,hc,ho⟩:=hu;have hx:=h.xd;refine⟨FL',⟨k1,S.dh h.kH hc (λk hk z=>h.ap k z hk),h.base,Nat.lt_of_lt_of_le h.lt hc.size,by rw[hc.cell (p:=⟨x,o,none⟩) h.lt hx];exact h.c0,by rw[hc.cell (p:=⟨x,o+1,none⟩) h.lt hx];exact h.c1,by rw[hc.cell (p:=⟨x,o+2,none⟩) h.lt hx];exact h.c2,by rw[hc.cell (p:=⟨x,o+3,none⟩) h.lt hx];exact h.c3,λj=>by rw[hc.frozen (p:=⟨x,j,none⟩) h.lt hx];exact h.free j,λk hk z=>?_,λz=>?_,h.xg⟩,hc,ho⟩
 ·rcases ho k hk with y|y
  ·exact h.ap k y z
  ·have:=(S.own h.kH k z).2;omega
 ·rcases ho x z with y|y
  ·exact h.xd y
  ·have:=h.lt;omega
theorem Va.did (H:More Has)(h:Va Has SH w B x o q g c FL G m size es s)(hu:uI SH w w' B c G s'):∃G',Va Has SH w' B x o q g c FL G' m size es s'/\aF G w w'/\∀k,G' k->G k\/w.heap.size<=k:=by
 obtain⟨G',k1,hc,ho⟩:=hu;have hx:=h.xg;refine⟨G',⟨(ku.looks H g size).dh h.log hc (λk hk z=>h.ap k hk z),k1,h.base,Nat.lt_of_lt_of_le h.lt hc.size,by rw[hc.cell (p:=⟨x,o,none⟩) h.lt hx];exact h.c0,by rw[hc.cell (p:=⟨x,o+1,none⟩) h.lt hx];exact h.c1,by rw[hc.cell (p:=⟨x,o+2,none⟩) h.lt hx];exact h.c2,by rw[hc.cell (p:=⟨x,o+3,none⟩) h.lt hx];exact h.c3,λj=>by rw[hc.frozen (p:=⟨x,j,none⟩) h.lt hx];exact h.free j,λk hk z=>?_,h.xd,λz=>?_⟩,hc,ho⟩
 ·rcases ho k z with y|y
  ·exact h.ap k hk y
  ·have:=((ku.looks H g size).own h.log k hk).2;omega
 ·rcases ho x z with y|y
  ·exact h.xg y
  ·have:=h.lt;omega
end
def NG (o x:Nat)(w w':World):Prop:=∀j,(j<o\/o+4<=j)->w'.cell? ⟨x,j,none⟩=w.cell? ⟨x,j,none⟩
theorem NG.refl (o x:Nat)(w:World):NG o x w w:=λ_ _=>rfl
theorem NG.trans {o x:Nat}{w w1 w2:World}(h:NG o x w w1)(k:NG o x w1 w2):NG o x w w2:=λj hj=>(k j hj).trans (h j hj)
theorem NG.dh {o x:Nat}{A:Nat->Prop}{w w':World}(h:aF A w w')(hx:x<w.heap.size)(hn:¬A x):NG o x w w':=λj _=>h.cell (p:=⟨x,j,none⟩) hx hn
theorem NG.below {o x:Nat}{w w':World}(h:Below w.heap.size w w')(hx:x<w.heap.size):NG o x w w':=NG.dh (A:=λ_=>False) (aF.of_below h) hx (λz=>z)
def Rv (Has:World->Nat->Nat->(Nat->Prop)->Int->List ay->Prop)(SH:World->Nat->Nat->(Nat->Prop)->aG->Prop)(F0 Cs:Nat->Prop)(w wr:World)(B x o q g c:Nat)(m size:Int)(es:List ay)(s:aG):Prop :=
 ∃FL G,Va Has SH wr B x o q g c FL G m size es s/\aF F0 w wr/\(∀k,vaF x FL G k->F0 k\/w.heap.size<=k)/\(∀k,Cs k->k<wr.heap.size/\¬vaF x FL G k)/\NG o x w wr
section
variable {Has:World->Nat->Nat->(Nat->Prop)->Int->List ay->Prop}{SH:World->Nat->Nat->(Nat->Prop)->aG->Prop}{F0 Cs jw:Nat->Prop}{w wr w':World}{B x o q g c:Nat}{m size:Int}{es es':List ay}{s s':aG}
theorem Rv.room (h:Rv Has SH F0 Cs w wr B x o q g c m size es s):w.heap.size<=wr.heap.size:=by
 obtain⟨_,_,_,h2,_⟩:=h;exact h2.size
theorem Rv.cells (h:Rv Has SH F0 Cs w wr B x o q g c m size es s):wr.cell? ⟨x,o,none⟩=some (.pointer (some ⟨q,0,none⟩))/\wr.cell? ⟨x,o+1,none⟩=some (.int .i64 size)/\wr.cell? ⟨x,o+2,none⟩=some (.pointer (some ⟨g,0,none⟩))/\wr.cell? ⟨x,o+3,none⟩=some (.pointer (some ⟨c,0,none⟩))/\x<wr.heap.size:=by
 obtain⟨_,_,h1,_⟩:=h;exact⟨h1.c0,h1.c1,h1.c2,h1.c3,h1.lt⟩
theorem Rv.mine (H:More Has)(S:eP SH)(h:Rv Has SH F0 Cs w wr B x o q g c m size es s)(hb:Below wr.heap.size wr w')(hn:∀k,jw k->Cs k\/wr.heap.size<=k/\k<w'.heap.size):Rv Has SH F0 jw w w' B x o q g c m size es s:=by
 obtain⟨FL,G,h1,h2,h3,h4,h5⟩:=h;refine⟨FL,G,h1.below H S hb,h2.trans (aF.of_below hb),h3,λk hk=>?_,h5.trans (NG.below hb h1.lt)⟩;rcases hn k hk with y|y
 ·exact⟨Nat.lt_of_lt_of_le (h4 k y).1 hb.size,(h4 k y).2⟩
 ·exact⟨y.2,λz=>by have:=(h1.own H S k z).2;omega⟩
theorem Rv.below (H:More Has)(S:eP SH)(h:Rv Has SH F0 Cs w wr B x o q g c m size es s)(hb:Below wr.heap.size wr w'):Rv Has SH F0 Cs w w' B x o q g c m size es s:=h.mine H S hb (λ_ z=>.inl z)
theorem Rv.upd (S:eP SH)(h:Rv Has SH F0 Cs w wr B x o q g c m size es s){fn:FuncId}{args:Array Value}{Q:Ending->World->Prop}
 (hc:∀FL,ku Has g size wr B q FL m es->(∀k,Cs k->¬FL k)->Calls prog fn args wr λe w'=>Q e w'/\Did (ku Has g size) wr w' B q FL m es') :
 Calls prog fn args wr λe w'=>Q e w'/\Rv Has SH F0 Cs w w' B x o q g c m size es' s/\aJ Cs wr w':=by
 have hr:=h.room;obtain⟨FL,G,h1,h2,h3,h4,h5⟩:=h;refine(hc FL h1.log (λk hk z=>(h4 k hk).2 (.inr (.inl z)))).mono ?_;rintro e w' ⟨hq,hu⟩;obtain⟨FL',a1,a2,a3⟩:=h1.upd S hu;refine⟨hq,⟨FL',G,a1,jD h2 a2 (λi hi z=>?_),λk hk=>?_,λk hk=>⟨Nat.lt_of_lt_of_le (h4 k hk).1 a2.size,λz=>?_⟩,h5.trans (NG.dh a2 h1.lt h1.xd)⟩,a2.size,λk hk=>a2.block k (h4 k hk).1 (λz=>(h4 k hk).2 (.inr (.inl z)))⟩
 ·rcases h3 i (.inr (.inl z)) with y|y
  ·exact y
  ·omega
 ·rcases hk with z|z|z
  ·exact h3 k (.inl z)
  ·rcases a3 k z with y|y
   ·exact h3 k (.inr (.inl y))
   ·exact .inr (Nat.le_trans hr y)
  ·exact h3 k (.inr (.inr z))
 ·rcases z with z|z|z
  ·exact(h4 k hk).2 (.inl z)
  ·rcases a3 k z with y|y
   ·exact(h4 k hk).2 (.inr (.inl y))
   ·have:=(h4 k hk).1;omega
  ·exact(h4 k hk).2 (.inr (.inr z))
theorem Rv.did (H:More Has)(h:Rv Has SH F0 Cs w wr B x o q g c m size es s){fn:FuncId}{args:Array Value}{Q:Ending->World->Prop}
 (hc:∀G,SH wr B c G s->Calls prog fn args wr λe w'=>Q e w'/\uI SH wr w' B c G s') :
 Calls prog fn args wr λe w'=>Q e w'/\Rv Has SH F0 Cs w w' B x o q g c m size es s'/\aJ Cs wr w':=by
 have hr:=h.room;obtain⟨FL,G,h1,h2,h3,h4,h5⟩:=h;refine(hc G h1.kH).mono ?_;rintro e w' ⟨hq,hu⟩;obtain⟨G',a1,a2,a3⟩:=h1.did H hu;refine⟨hq,⟨FL,G',a1,jD h2 a2 (λi hi z=>?_),λk hk=>?_,λk hk=>⟨Nat.lt_of_lt_of_le (h4 k hk).1 a2.size,λz=>?_⟩,h5.trans (NG.dh a2 h1.lt h1.xg)⟩,a2.size,λk hk=>a2.block k (h4 k hk).1 (λz=>(h4 k hk).2 (.inr (.inr z)))⟩
 ·rcases h3 i (.inr (.inr z)) with y|y
  ·exact y
  ·omega
 ·rcases hk with z|z|z
  ·exact h3 k (.inl z)
  ·exact h3 k (.inr (.inl z))
  ·rcases a3 k z with y|y
   ·exact h3 k (.inr (.inr y))
   ·exact .inr (Nat.le_trans hr y)
 ·rcases z with z|z|z
  ·exact(h4 k hk).2 (.inl z)
  ·exact(h4 k hk).2 (.inr (.inl z))
  ·rcases a3 k z with y|y
   ·exact(h4 k hk).2 (.inr (.inr y))
   ·have:=(h4 k hk).1;omega
end
def qy (Has:World->Nat->Nat->(Nat->Prop)->Int->List ay->Prop)(SH:World->Nat->Nat->(Nat->Prop)->aG->Prop)(o:Nat)(w:World)(B x:Nat)(F:Nat->Prop)(m size:Int)(es:List ay)(s:aG):Prop:=∃q g c FL G,Va Has SH w B x o q g c FL G m size es s/\∀k,F k↔vaF x FL G k
section
variable {Has:World->Nat->Nat->(Nat->Prop)->Int->List ay->Prop}{SH:World->Nat->Nat->(Nat->Prop)->aG->Prop}{F:Nat->Prop}{w:World}{B x o:Nat}{m size:Int}{es:List ay}{s:aG}
def WB (Has:World->Nat->Nat->(Nat->Prop)->Int->List ay->Prop)(SH:World->Nat->Nat->(Nat->Prop)->aG->Prop)(o:Nat)(w w':World)(B x:Nat)(F:Nat->Prop)(m size:Int)(es:List ay)(s:aG):Prop:=Lu (qy Has SH o) w w' B x F m size es s/\NG o x w w'
theorem qy.begin (h:qy Has SH o w B x F m size es s):∃q g c,Rv Has SH F (λ_=>False) w w B x o q g c m size es s/\∀Cs wr g' c' es' s',Rv Has SH F Cs w wr B x o q g' c' m size es' s'->WB Has SH o w wr B x F m size es' s':=by
 obtain⟨q,g,c,FL,G,h1,h2⟩:=h;refine⟨q,g,c,⟨FL,G,h1,aF.refl _ _,λk z=>.inl ((h2 k).2 z),λ_ z=>z.elim,NG.refl _ _ _⟩,λCs wr g' c' es' s' hr=>?_⟩;obtain⟨FL',G',r1,r2,r3,_,r5⟩:=hr;exact⟨⟨_,⟨q,g',c',FL',G',r1,λk=>Iff.rfl⟩,r2,r3⟩,r5⟩
end
structure mP (SH:World->Nat->Nat->(Nat->Prop)->aG->Prop):Prop where
 own:∀{w B q F s},SH w B q F s->∀k,F k->B<=k/\k<w.heap.size
 dh:∀{w w' B q F s} {A:Nat->Prop},SH w B q F s->aF A w w'->(∀k,F k->¬A k)->SH w' B q F s
 new:∀w:World,Calls prog 112 #[] w λe w'=>∃q F,e=.returned (.pointer (some ⟨q,0,none⟩))/\SH w' w.heap.size q F ⟨[],0⟩/\Below w.heap.size w w'
 apply:∀{w B q F s} (r:Rc),Small r->SH w B q F s->s.Ok->B<=w.heap.size ->
  Calls prog 113 #[.pointer (some ⟨q,0,none⟩),.agg #[.int .i64 r.k,.int .i64 r.q,.int .i64 r.t,.string r.s,.string r.h,.string r.d]] w λe w'=>e=.returned (.int .i64 (bV s r))/\uI SH w w' B q F (kQ s r)
 all:∀{w B q F s},SH w B q F s->s.Ok->B<=w.heap.size ->
  Calls prog 21 #[.pointer (some ⟨q,0,none⟩)] w λe w'=>∃v,e=.returned v/\bK w' w.heap.size v s.l/\Below w.heap.size w w'
 sums:∀{w B q F s},SH w B q F s->s.Ok->B<=w.heap.size ->
  Calls prog 18 #[.pointer (some ⟨q,0,none⟩)] w λe w'=>e=.returned (.agg #[.int .i64 (s.l.length:Int),.int .i64 (aP s.l:Int),.int .i64 (cZ s.l),.int .i64 s.last])/\Below w.heap.size w w'
 last:∀{w B q F s} (f:ByteArray),f.size<=140737488355328->SH w B q F s->s.Ok->B<=w.heap.size ->
  Calls prog 44 #[.pointer (some ⟨q,0,none⟩),.string f] w λe w'=>e=.returned (jc f (AQ f s.l))/\Below w.heap.size w w'
 next:∀{w B q F s} (f:ByteArray) (n:Int),f.size<=140737488355328->SH w B q F s->s.Ok->B<=w.heap.size ->
  Calls prog 46 #[.pointer (some ⟨q,0,none⟩),.string f,.int .i64 n] w λe w'=>e=.returned (jc f (oP f s.l n))/\Below w.heap.size w w'
end Go.Proofs.YtidekgipblnpkaaGreatDoor.Dk
namespace Go.Proofs.YtidekgipblnpkaaGreatDoor.Dk
open Go Go.Proofs.Tryz
structure Po where
 s:ByteArray
 i:ByteArray
 h:ByteArray
 d:ByteArray
 x:Int
 ro:Int
structure Kn where
 i:ByteArray
 a:Int
 q:Int
structure Str where
 es:List ay
 s:aG
 ids:List Kn
def pv (p:Pn.aU)(k:Nat):Int:=nth p.v k
def oL (p:Pn.aU)(s:ByteArray):Bool:=p.f.any λf=>lY f s
def jy (p:Pn.aU)(now:Int)(x:Po):Int :=
 if (aY now 0 1099511627776&&(decide (-1<=x.x)&&aY x.ro 0 2))=false then 1
 else if aC false x.s≠0 then aC false x.s
 else if oL p x.s=false then 10
 else if (decide (256<x.h.size+x.d.size)||((decide (pv p 4≠0)&&decide (pv p 4<((x.h.size+x.d.size:Nat):Int)))||decide (16<x.i.size)))=true then 2
 else 0
def iJ (ids:List Kn)(i:ByteArray)(from':Int):Int:=ids.foldl (λq k=>if k.i=i/\from'<=k.a then k.q else q) 0
def iR (l:List Rc)(s:ByteArray):Nat:=l.countP λr=>decide (r.s=s)
def nO (l:List Rc)(s:ByteArray):Int:=((l.find? λr=>decide (r.s=s)).map (·.q)).getD 0
def oM (x:Po):Nat:=x.s.size+x.h.size+x.d.size
def bH (p:Pn.aU)(l:List Rc)(x:Po):Bool:=decide (pv p 3≠0)&&decide (pv p 3<=(iR l x.s:Int))
def bP (p:Pn.aU)(l:List Rc)(x:Po):Bool:=(decide (pv p 0≠0)&&decide (pv p 0<=(l.length:Int)))||(decide (pv p 1≠0)&&decide (pv p 1<((aP l+oM x:Nat):Int)))
def noB:ByteArray:=⟨#[]⟩
def bM (q now:Int):Rc:=⟨2,q,now,noB,noB,noB⟩
def bQ (q now:Int)(x:Po):Rc:=⟨1,q,now,x.s,x.h,x.d⟩
def dS (q now:Int)(f:ByteArray):Rc:=⟨3,q,now,f,noB,noB⟩
def uJ (p:Pn.aU)(l:List Rc)(x:Po):Int:=if bH p l x=true then nO l x.s else cZ l
def ji (p:Pn.aU)(m size now:Int)(x:Po):Nat->List ay->aG->Int×List ay×aG
 | 0,es,s=>(0,es,s)
 | k+1,es,s=>if (bH p s.l x||bP p s.l x)=false then (0,es,s)
  else if pv p 5=1 then (8,es,s)
  else if gV es s m size (bM (uJ p s.l x) now)≠0 then (gV es s m size (bM (uJ p s.l x) now),es,s)
  else ji p m size now x k (nN es s m size (bM (uJ p s.l x) now)) (iM es s m size (bM (uJ p s.l x) now))
def aZ (p:Pn.aU)(m size now:Int)(x:Po)(es:List ay)(s:aG):Int×List ay×aG :=
 if pv p 1≠0/\pv p 1<(oM x:Int) then (8,es,s) else ji p m size now x (s.l.length+1) es s
def iq (x:Po):ByteArray:=if x.ro=1 then x.s else ⟨#[62]⟩
def JO (ids:List Kn)(x:Po)(now q:Int):List Kn:=if x.i.size=0 then ids else ids++[⟨x.i,now,q⟩]
def jU (m size now:Int)(x:Po)(ids:List Kn)(es:List ay)(s:aG):(Int×Bool×Int)×Str :=
 if gV es s m size (bQ (s.last+1) now x)≠0 then ((0,false,gV es s m size (bQ (s.last+1) now x)),⟨es,s,ids⟩)
 else if x.ro=0 then ((s.last+1,false,0),⟨nN es s m size (bQ (s.last+1) now x),iM es s m size (bQ (s.last+1) now x),JO ids x now (s.last+1)⟩)
 else if gV (nN es s m size (bQ (s.last+1) now x)) (iM es s m size (bQ (s.last+1) now x)) m size (dS (s.last+1) now (iq x))≠0 then
  ((0,false,gV (nN es s m size (bQ (s.last+1) now x)) (iM es s m size (bQ (s.last+1) now x)) m size (dS (s.last+1) now (iq x))),⟨nN es s m size (bQ (s.last+1) now x),iM es s m size (bQ (s.last+1) now x),JO ids x now (s.last+1)⟩)
 else ((s.last+1,false,0),⟨nN (nN es s m size (bQ (s.last+1) now x)) (iM es s m size (bQ (s.last+1) now x)) m size (dS (s.last+1) now (iq x)),iM (nN es s m size (bQ (s.last+1) now x)) (iM es s m size (bQ (s.last+1) now x)) m size (dS (s.last+1) now (iq x)),JO ids x now (s.last+1)⟩)
def fH (p:Pn.aU)(now:Int)(x:Po)(ids:List Kn):Bool:=decide (x.i.size≠0)&&(decide (pv p 7≠0)&&decide (0<iJ ids x.i (now-pv p 7)))
def aI (p:Pn.aU)(m size now:Int)(x:Po)(st:Str):(Int×Bool×Int)×Str :=
 if jy p now x≠0 then ((0,false,jy p now x),st)
 else if fH p now x st.ids=true then ((iJ st.ids x.i (now-pv p 7),true,0),st)
 else if x.x≠-1/\x.x≠st.s.last then ((0,false,9),st)
 else if (aZ p m size now x st.es st.s).1≠0 then ((0,false,(aZ p m size now x st.es st.s).1),⟨(aZ p m size now x st.es st.s).2.1,(aZ p m size now x st.es st.s).2.2,st.ids⟩)
 else jU m size now x st.ids (aZ p m size now x st.es st.s).2.1 (aZ p m size now x st.es st.s).2.2
def xR (m size:Int)(f:ByteArray)(below:Int)(st:Str):(Int×Int)×Str :=
 if gV st.es st.s m size (dS below 0 f)≠0 then ((0,gV st.es st.s m size (dS below 0 f)),st)
 else (((st.s.l.length:Int)-((iM st.es st.s m size (dS below 0 f)).l.length:Int),0),⟨nN st.es st.s m size (dS below 0 f),iM st.es st.s m size (dS below 0 f),st.ids⟩)
def rM (l:List Rc)(t:Int):Option Rc:=l.find? λr=>decide (r.t<t)
def sU (p:Pn.aU)(m size now:Int):Nat->Int->List ay->aG->(Int×Int)×List ay×aG
 | 0,n,es,s=>((n,0),es,s)
 | k+1,n,es,s=>match rM s.l (now-pv p 2) with
  | none=>((n,0),es,s)
  | some r=>if gV es s m size (bM r.q now)≠0 then ((n,gV es s m size (bM r.q now)),es,s)
   else sU p m size now k (n+1) (nN es s m size (bM r.q now)) (iM es s m size (bM r.q now))
def jE (p:Pn.aU)(m size now:Int)(st:Str):(Int×Int)×Str :=
 if aY now 0 1099511627776=false then ((0,1),st)
 else if pv p 2=0 then ((0,0),st)
 else ((sU p m size now (st.s.l.length+1) 0 st.es st.s).1,⟨(sU p m size now (st.s.l.length+1) 0 st.es st.s).2.1,(sU p m size now (st.s.l.length+1) 0 st.es st.s).2.2,st.ids⟩)
theorem lC.room {p:Pn.aU}{m size now:Int}{x:Po}:∀(k:Nat) {es:List ay} {s:aG},lC m es s->lC m (ji p m size now x k es s).2.1 (ji p m size now x k es s).2.2
 | 0,_,_,h=>h
 | k+1,es,s,h=>by
  unfold ji;split
  ·exact h
  ·split
   ·exact h
   ·split
    ·exact h
    ·exact lC.room k (h.did _)
theorem lC.aZ {p:Pn.aU}{m size now:Int}{x:Po}{es:List ay}{s:aG}(h:lC m es s):lC m (aZ p m size now x es s).2.1 (aZ p m size now x es s).2.2:=by
 unfold Dk.aZ;split
 ·exact h
 ·exact lC.room _ h
theorem lC.put {m size now:Int}{x:Po}{ids:List Kn}{es:List ay}{s:aG}(h:lC m es s):lC m (jU m size now x ids es s).2.es (jU m size now x ids es s).2.s:=by
 unfold jU;split
 ·exact h
 ·split
  ·exact h.did _
  ·split
   ·exact h.did _
   ·exact(h.did _).did _
theorem lC.pub {p:Pn.aU}{m size now:Int}{x:Po}{st:Str}(h:lC m st.es st.s):lC m (aI p m size now x st).2.es (aI p m size now x st).2.s:=by
 unfold aI;split
 ·exact h
 ·split
  ·exact h
  ·split
   ·exact h
   ·split
    ·exact h.aZ
    ·exact lC.put h.aZ
theorem lC.NH {m size:Int}{f:ByteArray}{below:Int}{st:Str}(h:lC m st.es st.s):lC m (xR m size f below st).2.es (xR m size f below st).2.s:=by
 unfold xR;split
 ·exact h
 ·exact h.did _
theorem lC.sU {p:Pn.aU}{m size now:Int}:∀(k:Nat) {n:Int} {es:List ay} {s:aG},lC m es s->lC m (sU p m size now k n es s).2.1 (sU p m size now k n es s).2.2
 | 0,_,_,_,h=>h
 | k+1,n,es,s,h=>by
  unfold Dk.sU;split
  ·exact h
  ·split
   ·exact h
   ·exact lC.sU k (h.did _)
theorem lC.age {p:Pn.aU}{m size now:Int}{st:Str}(h:lC m st.es st.s):lC m (jE p m size now st).2.es (jE p m size now st).2.s:=by
 unfold jE;split
 ·exact h
 ·split
  ·exact h
  ·exact lC.sU _ h
theorem Y8 {q now:Int}(hq:1<=q/\q<=1099511627776)(hn:0<=now/\now<=1099511627776):dA (bM q now)=0:=by
 unfold dA bM Rc.pk Pk.chk;simp[Pk.inB,noB];omega
theorem ags {s:aG}{q now:Int}(h:s.Ok)(hm:∃r∈s.l,r.q=q)(hn:0<=now/\now<=1099511627776):bV s (bM q now)=0:=by
 obtain⟨r,hr,e⟩:=hm;have hc:dA (bM q now)=0:=Y8 (by rw[<-e];exact h.seq hr) hn;have hs:seqB s.l q=true:=by
  unfold seqB;rw[List.any_eq_true];exact⟨r,hr,by simpa using e⟩
 unfold bV;rw[if_neg (by rw[hc];simp),if_neg (by intro z;have:=z.2;rw[show(bM q now).q=q from rfl,hs] at this;cases this),if_pos (by show(2:Int)≠1;decide)]
theorem agt {s:aG}{q now:Int}(h0:bV s (bM q now)=0):kQ s (bM q now)=⟨s.l.filter (λx=>decide (x.q≠q)),s.last⟩:=by
 unfold kQ;rw[if_neg (by rw[h0];simp),if_neg (by show ¬(2:Int)=1;decide),if_neg (by show ¬(2:Int)=4;decide)];congr 1
 apply List.filter_congr;intro x _;unfold qw bM;simp
theorem rE {α:Type}{p:α->Bool}:∀{l:List α},(∃x∈l,p x=false)->(l.filter p).length<l.length
 | [],h=>by obtain⟨x,hx,_⟩:=h;cases hx
 | y::l,h=>by
  have hle:=List.length_filter_le p l;by_cases hy:p y=true
  ·rw[List.filter_cons_of_pos hy,List.length_cons,List.length_cons];obtain⟨x,hx,e⟩:=h;rcases List.mem_cons.1 hx with z|z
   ·subst z;rw[hy] at e;cases e
   ·have:=rE ⟨x,z,e⟩;omega
  ·rw[List.filter_cons_of_neg hy,List.length_cons];omega
theorem NI {a b:List Rc}(h:a.Sublist b)(s:ByteArray):iR a s<=iR b s:=h.countP_le
theorem CW:∀{a b:List Rc},a.Sublist b->aP a<=aP b
 | _,_,.slnil=>Nat.le_refl _
 | _,_,.cons x h=>by have:=CW h;rw[aP];omega
 | _,_,.cons_cons x h=>by have:=CW h;rw[aP,aP];omega
theorem xU {es:List ay}{s:aG}{m size q now:Int}(h0:gV es s m size (bM q now)=0):iM es s m size (bM q now)=⟨s.l.filter (λx=>decide (x.q≠q)),s.last⟩:=by
 unfold iM;rw[if_pos h0,agt (Y7 h0).1]
theorem TI {p:Pn.aU}{m size now:Int}{x:Po}:∀(k:Nat) (es:List ay) (s:aG),(ji p m size now x k es s).2.2.l.Sublist s.l/\(ji p m size now x k es s).2.2.last=s.last
 | 0,_,_=>⟨List.Sublist.refl _,rfl⟩
 | k+1,es,s=>by
  unfold ji;split
  ·exact⟨List.Sublist.refl _,rfl⟩
  ·split
   ·exact⟨List.Sublist.refl _,rfl⟩
   ·split
    ·exact⟨List.Sublist.refl _,rfl⟩
    ·rename_i h0
     have h0:gV es s m size (bM (uJ p s.l x) now)=0:=Classical.not_not.1 h0;obtain⟨i1,i2⟩:=TI (p:=p) (m:=m) (size:=size) (now:=now) (x:=x) k (nN es s m size (bM (uJ p s.l x) now)) (iM es s m size (bM (uJ p s.l x) now));rw[xU h0] at i1 i2 ⊢;exact⟨i1.trans List.filter_sublist,i2⟩
structure JQ (p:Pn.aU):Prop where
 pos:∀k,0<=pv p k
theorem nX {p:Pn.aU}(h:Pn.bG p=0):JQ p:=by
 obtain⟨_,_,_,_,_,h6⟩:=Pn.mJ h;refine⟨λk=>?_⟩;unfold pv nth;have key:∀(v ms:List Int) (k:Nat),Pn.dO v ms=true->0<=(v[k]?).getD 0:=by
  intro v;induction v with
  | nil=>intro ms k _;simp
  | cons y v ih =>
   intro ms k hh
   cases ms with
   | nil=>simp[Pn.dO] at hh
   | cons w ms =>
    simp only[Pn.dO,Bool.and_eq_true,decide_eq_true_eq] at hh
    cases k with
    | zero=>simpa using hh.1.1
    | succ k=>simpa using ih ms k hh.2
 exact key p.v Pn.dK k h6
theorem agu {l:List Rc}{s:ByteArray}(h:0<iR l s):∃r∈l,r.q=nO l s:=by
 unfold iR at h;obtain⟨r,hr,e⟩:=List.countP_pos_iff.1 h;unfold nO
 cases hf:l.find? (λr=>decide (r.s=s)) with
 | none =>
  have:=List.find?_eq_none.1 hf r hr;exact absurd e this
 | some y=>exact⟨y,List.mem_of_find?_eq_some hf,rfl⟩
theorem TJ {l:List Rc}(h:0<l.length):∃r∈l,r.q=cZ l:=by
 cases l with
 | nil=>simp at h
 | cons r l=>exact⟨r,by simp,rfl⟩
theorem aaM {l:List Rc}(h:0<aP l):0<l.length:=by
 cases l with
 | nil=>simp[aP] at h
 | cons r l=>simp
theorem go_in {p:Pn.aU}{l:List Rc}{x:Po}(hp:JQ p)(hz:¬(pv p 1≠0/\pv p 1<(oM x:Int)))(h:¬(bH p l x||bP p l x)=false):∃r∈l,r.q=uJ p l x:=by
 unfold uJ;by_cases hc:bH p l x=true
 ·rw[if_pos hc];unfold bH at hc;simp only[Bool.and_eq_true,decide_eq_true_eq] at hc;have:=hp.pos 3;exact agu (by omega)
 ·rw[if_neg hc];have hc:bH p l x=false:=by simpa using hc
  rw[hc,Bool.false_or] at h;have hf:bP p l x=true:=by simpa using h
  unfold bP at hf;simp only[Bool.or_eq_true,Bool.and_eq_true,decide_eq_true_eq] at hf;rcases hf with ⟨a,b⟩|⟨a,b⟩
  ·have:=hp.pos 0;exact TJ (by omega)
  ·have hb:¬pv p 1<(oM x:Int):=λz=>hz ⟨a,z⟩
   exact TJ (aaM (by omega))
theorem NJ {p:Pn.aU}{m size now:Int}{x:Po}(hp:JQ p)(hz:¬(pv p 1≠0/\pv p 1<(oM x:Int))):∀(k:Nat) (es:List ay) (s:aG),s.l.length<k->(ji p m size now x k es s).1=0->(bH p (ji p m size now x k es s).2.2.l x||bP p (ji p m size now x k es s).2.2.l x)=false
 | 0,_,s,h,_=>by omega
 | k+1,es,s,h,h1=>by
  unfold ji at h1 ⊢;by_cases a:(bH p s.l x||bP p s.l x)=false
  ·rw[if_pos a];exact a
  ·rw[if_neg a] at h1 ⊢;by_cases b:pv p 5=1
   ·rw[if_pos b] at h1;cases h1
   ·rw[if_neg b] at h1 ⊢;by_cases c:gV es s m size (bM (uJ p s.l x) now)=0
    ·rw[if_neg (by rw[c];simp)] at h1 ⊢;refine NJ hp hz k _ _ ?_ h1;rw[xU c];obtain⟨r,hr,e⟩:=go_in hp hz a;have:=rE (p:=λy:Rc=>decide (y.q≠uJ p s.l x)) ⟨r,hr,by simpa using e⟩;show(s.l.filter (λy=>decide (y.q≠uJ p s.l x))).length<k;omega
    ·rw[if_pos c] at h1;exact absurd h1 c
theorem WC {p:Pn.aU}{m size now:Int}{x:Po}{es:List ay}{s:aG}(hp:JQ p)(h:(aZ p m size now x es s).1=0):(bH p (aZ p m size now x es s).2.2.l x||bP p (aZ p m size now x es s).2.2.l x)=false:=by
 unfold aZ at h ⊢;by_cases a:pv p 1≠0/\pv p 1<(oM x:Int)
 ·rw[if_pos a] at h;cases h
 ·rw[if_neg a] at h ⊢;exact NJ hp a _ _ _ (by omega) h
theorem pU {p:Pn.aU}{m size now:Int}{x:Po}{es:List ay}{s:aG}:(aZ p m size now x es s).2.2.l.Sublist s.l/\(aZ p m size now x es s).2.2.last=s.last:=by
 unfold aZ;split
 ·exact⟨List.Sublist.refl _,rfl⟩
 ·exact TI _ _ _
structure QY (p:Pn.aU)(l:List Rc):Prop where
 msgs:pv p 0≠0->(l.length:Int)<=pv p 0
 bytes:pv p 1≠0->(aP l:Int)<=pv p 1
 per:pv p 3≠0->∀t,(iR l t:Int)<=pv p 3
theorem QY.nil {p:Pn.aU}(hp:JQ p):QY p []:=⟨λ_=>by have:=hp.pos 0;simpa using this,λ_=>by have:=hp.pos 1;simpa[aP] using this,λ_ t=>by have:=hp.pos 3;simpa[iR] using this⟩
theorem QY.sub {p:Pn.aU}{a b:List Rc}(h:QY p b)(hs:a.Sublist b):QY p a:=⟨λz=>by have:=h.msgs z;have:=hs.length_le;omega,λz=>by have:=h.bytes z;have:=CW hs;omega,λz t=>by have:=h.per z t;have:=NI hs t;omega⟩
theorem WE (l:List Rc)(r:Rc)(t:ByteArray):iR (l++[r]) t=iR l t+(if r.s=t then 1 else 0):=by
 unfold iR;rw[List.countP_append];by_cases e:r.s=t<;>simp[e]
theorem QY.more {p:Pn.aU}{l:List Rc}{x:Po}{q now:Int}(h:QY p l)(hr:(bH p l x||bP p l x)=false):QY p (l++[bQ q now x]):=by
 rw[Bool.or_eq_false_iff] at hr;obtain⟨h1,h2⟩:=hr;unfold bH at h1;unfold bP at h2;rw[Bool.or_eq_false_iff] at h2;obtain⟨h2,h3⟩:=h2;simp only[Bool.and_eq_false_iff,decide_eq_false_iff_not] at h1 h2 h3;refine⟨λz=>?_,λz=>?_,λz t=>?_⟩
 ·rw[List.length_append,List.length_singleton];rcases h2 with a|a
  ·exact absurd z a
  ·omega
 ·rw[mO];have e:aP [bQ q now x]=oM x:=by simp[aP,bQ,oM]
  rw[e];rcases h3 with a|a
  ·exact absurd z a
  ·omega
 ·rw[WE];rcases h1 with a|a
  ·exact absurd z a
  ·by_cases e:(bQ q now x).s=t
   ·rw[if_pos e,<-e];show((iR l x.s+1:Nat):Int)<=pv p 3;omega
   ·rw[if_neg e];exact h.per z t
theorem uK {es:List ay}{s:aG}{m size q now:Int}{x:Po}(h0:gV es s m size (bQ q now x)=0):iM es s m size (bQ q now x)=⟨s.l++[bQ q now x],q⟩:=by
 unfold iM kQ;rw[if_pos h0,if_neg (by rw[(Y7 h0).1];simp),if_pos (by rfl)];rfl
theorem IG {es:List ay}{s:aG}{m size q now:Int}{f:ByteArray}(h0:gV es s m size (dS q now f)=0):iM es s m size (dS q now f)=⟨s.l.filter (λy=>!(decide (y.q<q)&&lY f y.s)),s.last⟩:=by
 unfold iM;rw[if_pos h0,JL (Y7 h0).1 rfl];rfl
theorem QY.pub {p:Pn.aU}{m size now:Int}{x:Po}{st:Str}(hp:JQ p)(h:QY p st.s.l):QY p (aI p m size now x st).2.s.l:=by
 unfold aI;split
 ·exact h
 ·split
  ·exact h
  ·split
   ·exact h
   ·split
    ·exact h.sub pU.1
    ·rename_i h0
     have h0:(aZ p m size now x st.es st.s).1=0:=Classical.not_not.1 h0;have hb:=h.sub (pU (p:=p) (m:=m) (size:=size) (now:=now) (x:=x) (es:=st.es) (s:=st.s)).1;have hr:=WC hp h0;generalize (aZ p m size now x st.es st.s).2.1=es at *;generalize (aZ p m size now x st.es st.s).2.2=s at *;unfold jU;by_cases a:gV es s m size (bQ (s.last+1) now x)=0
     ·rw[if_neg (by rw[a];simp)];have hm:QY p (iM es s m size (bQ (s.last+1) now x)).l:=by rw[uK a];exact hb.more hr
      split
      ·exact hm
      ·split
       ·exact hm
       ·rename_i b
        have b:=Classical.not_not.1 b;rw[show(iM (nN es s m size (bQ (s.last+1) now x)) (iM es s m size (bQ (s.last+1) now x)) m size (dS (s.last+1) now (iq x))).l=(iM es s m size (bQ (s.last+1) now x)).l.filter _ from by rw[IG b]];exact hm.sub List.filter_sublist
     ·rw[if_pos a];exact hb
theorem PX {p:Pn.aU}{m size now:Int}{x:Po}{st:Str}:((aI p m size now x st).1.2.2≠0->(aI p m size now x st).1.1=0/\(aI p m size now x st).1.2.1=false)/\((aI p m size now x st).1.2.2=0->(aI p m size now x st).1.2.1=false->(aI p m size now x st).1.1=st.s.last+1)/\((aI p m size now x st).1.2.1=true->(aI p m size now x st).2=st):=by
 unfold aI;split
 ·rename_i a;exact⟨λ_=>⟨rfl,rfl⟩,λz=>absurd z a,λz=>by cases z⟩
 ·split
  ·exact⟨λz=>absurd rfl z,λ_ z=>(by cases z),λ_=>rfl⟩
  ·split
   ·exact⟨λ_=>⟨rfl,rfl⟩,λz=>(by cases z),λz=>by cases z⟩
   ·split
    ·rename_i a;exact⟨λ_=>⟨rfl,rfl⟩,λz=>absurd z a,λz=>by cases z⟩
    ·have hl:=(pU (p:=p) (m:=m) (size:=size) (now:=now) (x:=x) (es:=st.es) (s:=st.s)).2;generalize (aZ p m size now x st.es st.s).2.1=es at *;generalize (aZ p m size now x st.es st.s).2.2=s at *;unfold jU;rw[hl];split
     ·rename_i a;exact⟨λ_=>⟨rfl,rfl⟩,λz=>absurd z a,λz=>by cases z⟩
     ·split
      ·exact⟨λz=>absurd rfl z,λ_ _=>rfl,λz=>by cases z⟩
      ·split
       ·rename_i a;exact⟨λ_=>⟨rfl,rfl⟩,λz=>absurd z a,λz=>by cases z⟩
       ·exact⟨λz=>absurd rfl z,λ_ _=>rfl,λz=>by cases z⟩
theorem xW {l:List Rc}{i:Nat}(h:i<l.length):l.drop i=rc l i::l.drop (i+1):=by
 rw[List.drop_eq_getElem_cons h];unfold rc;rw[List.getElem?_eq_getElem h];rfl
theorem WG {l:List Rc}{i:Nat}(h:i<l.length)(s:ByteArray):iR (l.drop i) s=iR (l.drop (i+1)) s+(if (rc l i).s=s then 1 else 0):=by
 rw[xW h];unfold iR;rw[List.countP_cons];by_cases e:(rc l i).s=s<;>simp[e]
theorem TK {l:List Rc}{i:Nat}(h:i<l.length)(s:ByteArray):nO (l.drop i) s=if (rc l i).s=s then (rc l i).q else nO (l.drop (i+1)) s:=by
 rw[xW h];unfold nO;by_cases e:(rc l i).s=s
 ·rw[List.find?_cons_of_pos (by simpa using e),if_pos e];rfl
 ·rw[List.find?_cons_of_neg (by simpa using e),if_neg e]
theorem wI {l:List Rc}{i:Nat}(h:i<l.length):cZ (l.drop i)=(rc l i).q:=by
 rw[xW h];rfl
theorem ahK {l:List Rc}{s:ByteArray}(h:iR l s=0):nO l s=0:=by
 unfold nO;have:l.find? (λr=>decide (r.s=s))=none:=by
  rw[List.find?_eq_none];intro r hr z;unfold iR at h;rw[List.countP_eq_zero] at h;exact h r hr z
 rw[this];rfl
theorem agv {l:List Rc}{t:Int}{k:Nat}(h:k<l.length)(h1:∀j,j<k->¬(rc l j).t<t)(h2:(rc l k).t<t):rM l t=some (rc l k):=by
 induction l generalizing k with
 | nil=>simp at h
 | cons r l ih =>
  unfold rM
  cases k with
  | zero=>rw[List.find?_cons_of_pos (by simpa[rc] using h2)];rfl
  | succ k =>
   have h0:=h1 0 (by omega);rw[List.find?_cons_of_neg (by simpa[rc] using h0)];exact ih (by simpa using h) (λj hj=>by simpa[rc] using h1 (j+1) (by omega)) (by simpa[rc] using h2)
theorem aaN {l:List Rc}{t:Int}(h:∀j,j<l.length->¬(rc l j).t<t):rM l t=none:=by
 unfold rM;rw[List.find?_eq_none];intro r hr z;obtain⟨j,hj,e⟩:=List.mem_iff_getElem.1 hr;have:=h j hj;unfold rc at this;rw[List.getElem?_eq_getElem hj] at this;rw[<-e] at z;simp at z this;omega
theorem ait {ids:List Kn}{k:Nat}(h:k<ids.length)(i:ByteArray)(f:Int):iJ (ids.take (k+1)) i f=if ids[k].i=i/\f<=ids[k].a then ids[k].q else iJ (ids.take k) i f:=by
 rw[List.take_succ_eq_append_getElem h];unfold iJ;rw[List.foldl_append];rfl
theorem ai1 {ids:List Kn}(h:∀k∈ids,1<=k.q)(i:ByteArray)(f:Int):0<=iJ ids i f:=by
 have key:∀(ids:List Kn) (q:Int),(∀k∈ids,1<=k.q)->0<=q->0<=ids.foldl (λq k=>if k.i=i/\f<=k.a then k.q else q) q:=by
  intro ids;induction ids with
  | nil=>intro q _ hq;exact hq
  | cons k r ih =>
   intro q hk hq;apply ih _ (λz hz=>hk z (List.mem_cons_of_mem _ hz));have:=hk k (List.mem_cons_self ..);show 0<=if k.i=i/\f<=k.a then k.q else q
   split<;>omega
 exact key ids 0 h (Int.le_refl _)
theorem adi {p:Pn.aU}{m size now:Int}:∀(k:Nat) (n:Int) (es:List ay) (s:aG),s.l.length<k->(sU p m size now k n es s).1.2=0->rM (sU p m size now k n es s).2.2.l (now-pv p 2)=none
 | 0,_,_,s,h,_=>by omega
 | k+1,n,es,s,h,h1=>by
  unfold sU at h1 ⊢
  cases ho:rM s.l (now-pv p 2) with
  | none=>simp only[ho]
  | some r =>
   simp only[ho] at h1 ⊢;by_cases c:gV es s m size (bM r.q now)=0
   ·rw[if_neg (by rw[c];simp)] at h1 ⊢;refine adi k _ _ _ ?_ h1;rw[xU c];have hm:r∈s.l:=List.mem_of_find?_eq_some ho;have:=rE (p:=λy:Rc=>decide (y.q≠r.q)) ⟨r,hm,by simp⟩;show(s.l.filter (λy=>decide (y.q≠r.q))).length<k;omega
   ·rw[if_pos c] at h1;exact absurd h1 c
theorem Pm (s:ByteArray):Pl.toks s≠[]:=λh=>by
 have:=congrArg List.length h;rw[Pl.bF] at this;have h2:=Pl.tY s.data.toList;exact h2 (List.length_eq_zero_iff.1 (by simpa using this))
theorem Za (s:ByteArray):lY ⟨#[62]⟩ s=true:=by
 unfold lY;rw[IB.2];exact Nk (by decide +kernel) (Pm s)
theorem adk (s:ByteArray):lY s s=true:=ru _
theorem Zb {p:Pn.aU}{m size now:Int}{x:Po}{st:Str}(h0:(aI p m size now x st).1.2.2=0)(ha:(aI p m size now x st).1.2.1=false) :
 jy p now x=0/\(aI p m size now x st).1.1=st.s.last+1/\(aI p m size now x st).2.s.last=st.s.last+1/\(aI p m size now x st).2.ids=JO st.ids x now (st.s.last+1) /\
  ∃l,l.Sublist st.s.l/\(x.ro=0->(aI p m size now x st).2.s.l=l++[bQ (st.s.last+1) now x])/\(x.ro≠0->(aI p m size now x st).2.s.l=(l++[bQ (st.s.last+1) now x]).filter (λy=>!(decide (y.q<st.s.last+1)&&lY (iq x) y.s))):=by
 unfold aI at h0 ha ⊢;by_cases a:jy p now x=0
 ·rw[if_neg (by rw[a];simp)] at h0 ha ⊢;by_cases b:fH p now x st.ids=true
  ·rw[if_pos b] at ha;cases ha
  ·rw[if_neg b] at h0 ha ⊢;by_cases c:x.x≠-1/\x.x≠st.s.last
   ·rw[if_pos c] at h0;cases h0
   ·rw[if_neg c] at h0 ha ⊢;by_cases d:(aZ p m size now x st.es st.s).1=0
    ·rw[if_neg (by rw[d];simp)] at h0 ha ⊢;obtain⟨hs,hl⟩:=pU (p:=p) (m:=m) (size:=size) (now:=now) (x:=x) (es:=st.es) (s:=st.s);generalize (aZ p m size now x st.es st.s).2.1=es at *;generalize (aZ p m size now x st.es st.s).2.2=s at *;unfold jU at h0 ⊢;rw[hl] at h0 ⊢;by_cases e:gV es s m size (bQ (st.s.last+1) now x)=0
     ·rw[if_neg (by rw[e];simp)] at h0 ⊢;by_cases f:x.ro=0
      ·rw[if_pos f];refine⟨a,rfl,by rw[uK e],rfl,s.l,hs,λ_=>by rw[uK e],λz=>absurd f z⟩
      ·rw[if_neg f] at h0 ⊢;by_cases g:gV (nN es s m size (bQ (st.s.last+1) now x)) (iM es s m size (bQ (st.s.last+1) now x)) m size (dS (st.s.last+1) now (iq x))=0
       ·rw[if_neg (by rw[g];simp)];refine⟨a,rfl,?_,rfl,s.l,hs,λz=>absurd z f,λ_=>?_⟩
        ·rw[show(iM (nN es s m size (bQ (st.s.last+1) now x)) (iM es s m size (bQ (st.s.last+1) now x)) m size (dS (st.s.last+1) now (iq x))).last=(iM es s m size (bQ (st.s.last+1) now x)).last from by rw[IG g],uK e]
        ·rw[show(iM (nN es s m size (bQ (st.s.last+1) now x)) (iM es s m size (bQ (st.s.last+1) now x)) m size (dS (st.s.last+1) now (iq x))).l=(iM es s m size (bQ (st.s.last+1) now x)).l.filter _ from by rw[IG g],uK e]
       ·rw[if_pos g] at h0;exact absurd h0 g
     ·rw[if_pos e] at h0;exact absurd h0 e
    ·rw[if_pos d] at h0;exact absurd h0 d
 ·rw[if_pos a] at h0;exact absurd h0 a
theorem aaO {p:Pn.aU}{m size now:Int}{x:Po}{st:Str}(hk:st.s.Ok)(h0:(aI p m size now x st).1.2.2=0)(ha:(aI p m size now x st).1.2.1=false)(hr:x.ro≠0) :
 (∀r∈(aI p m size now x st).2.s.l,r.q≠(aI p m size now x st).1.1->¬(x.ro=2\/r.s=x.s))/\((aI p m size now x st).2.s.l.getLast?.map (·.q))=some (aI p m size now x st).1.1:=by
 obtain⟨hp,h1,_,_,l,hs,_,h6⟩:=Zb h0 ha;have h7:=h6 hr;have h12:x.ro=1\/x.ro=2:=by
  unfold jy at hp;by_cases z:(aY now 0 1099511627776&&(decide (-1<=x.x)&&aY x.ro 0 2))=false
  ·rw[if_pos z] at hp;cases hp
  ·have z:(aY now 0 1099511627776&&(decide (-1<=x.x)&&aY x.ro 0 2))=true:=by simpa using z
   simp only[aY,Bool.and_eq_true,decide_eq_true_eq] at z;omega
 rw[h7,h1];constructor
 ·intro r hr' hq hn;rw[List.mem_filter] at hr';obtain⟨hm,hg⟩:=hr';rcases List.mem_append.1 hm with y|y
  ·have hlow:=hk.low r (hs.subset y);have ht:lY (iq x) r.s=true:=by
    unfold iq;rcases h12 with e|e
    ·rw[if_pos e];rcases hn with z|z
     ·omega
     ·rw[z];exact adk _
    ·rw[if_neg (by omega)];exact Za _
   rw[ht,decide_eq_true (show r.q<st.s.last+1 by omega)] at hg
   cases hg
  ·rw[List.mem_singleton.1 y] at hq;exact hq rfl
 ·rw[List.filter_append];have e:[bQ (st.s.last+1) now x].filter (λy=>!(decide (y.q<st.s.last+1)&&lY (iq x) y.s))=[bQ (st.s.last+1) now x]:=by
   rw[List.filter_cons_of_pos (by simp[bQ])];rfl
  rw[e,List.getLast?_append];rfl
theorem aaP {p:Pn.aU}{m size now later:Int}{x:Po}{st:Str}(hp:JQ p)(hl:0<=st.s.last)(hi:st.ids=[])(h0:(aI p m size now x st).1.2.2=0)(ha:(aI p m size now x st).1.2.1=false) :
 (aY later 0 1099511627776=false->(aI p m size later x (aI p m size now x st).2).1.2.2=1) /\
 (aY later 0 1099511627776=true->x.i.size≠0->0<pv p 7->later-pv p 7<=now->aI p m size later x (aI p m size now x st).2=(((aI p m size now x st).1.1,true,0),(aI p m size now x st).2)) /\
 (aY later 0 1099511627776=true->¬(x.i.size≠0/\0<pv p 7/\later-pv p 7<=now)->(aI p m size later x (aI p m size now x st).2).1.2.1=false/\((aI p m size later x (aI p m size now x st).2).1.2.2=0->(aI p m size later x (aI p m size now x st).2).1.1=(aI p m size now x st).1.1+1)):=by
 obtain⟨hpr,h1,h2,h3,_⟩:=Zb h0 ha;rw[hi] at h3;have hpl:aY later 0 1099511627776=true->jy p later x=0:=λh=>by
  unfold jy at hpr ⊢;by_cases z:(aY now 0 1099511627776&&(decide (-1<=x.x)&&aY x.ro 0 2))=false
  ·rw[if_pos z] at hpr;cases hpr
  ·rw[if_neg z] at hpr;have z:(aY now 0 1099511627776&&(decide (-1<=x.x)&&aY x.ro 0 2))=true:=by simpa using z
   rw[Bool.and_eq_true] at z;rw[if_neg (by rw[h,z.2];decide)];exact hpr
 have hn:=PX (p:=p) (m:=m) (size:=size) (now:=later) (x:=x) (st:=(aI p m size now x st).2);rw[h2] at hn;rw[h1];generalize (aI p m size now x st).2=st1 at *;have ahL:x.i.size≠0->iJ st1.ids x.i (later-pv p 7)=if later-pv p 7<=now then st.s.last+1 else 0:=λz=>by
  rw[h3];unfold JO iJ;rw[if_neg z];simp
 refine⟨λh=>?_,λh a b c=>?_,λh a=>?_⟩
 ·have hp1:jy p later x=1:=by
   unfold jy;rw[if_pos (by rw[h];rfl)]
  unfold aI;rw[if_pos (by rw[hp1];decide)];exact hp1
 ·unfold aI;have hs:=ahL a;rw[if_pos c] at hs;have hag:fH p later x st1.ids=true:=by
   unfold fH;rw[hs,decide_eq_true a,decide_eq_true (show pv p 7≠0 by omega),decide_eq_true (show 0<st.s.last+1 by omega)];rfl
  rw[if_neg (by rw[hpl h];simp),if_pos hag,hs]
 ·have hag:fH p later x st1.ids=false:=by
   unfold fH;by_cases z1:x.i.size=0
   ·rw[decide_eq_false (p:=x.i.size≠0) (by omega)];rfl
   ·by_cases z2:pv p 7=0
    ·rw[decide_eq_false (p:=pv p 7≠0) (by omega)];simp
    ·have:=hp.pos 7;have hs:=ahL z1;rw[if_neg (λy=>a ⟨z1,by omega,y⟩)] at hs;rw[hs,decide_eq_false (p:=(0:Int)<0) (by omega)];simp
  have hfa:(aI p m size later x st1).1.2.1=false:=by
   unfold aI;rw[if_neg (by rw[hpl h];simp),if_neg (by rw[hag];simp)];split
   ·rfl
   ·split
    ·rfl
    ·unfold jU;split
     ·rfl
     ·split
      ·rfl
      ·split<;>rfl
  exact⟨hfa,λz=>hn.2.1 z hfa⟩
end Go.Proofs.YtidekgipblnpkaaGreatDoor.Dk
namespace Go.Proofs.YtidekgipblnpkaaGreatDoor
open Go.RowKit Go.Proofs.Tryz
def qQ (p:Pn.aU)(a:Option Addr)(c:Nat):Value:=sQ p.n a p.f.length c (Dk.nth p.v 0) (Dk.nth p.v 1) (Dk.nth p.v 2) (Dk.nth p.v 3) (Dk.nth p.v 4) (Dk.nth p.v 5) (Dk.nth p.v 6) (Dk.nth p.v 7)
structure iE (p:Pn.aU):Prop where
 name:p.n.size<=140737488355328
 each:∀k,k<p.f.length->(tk p.f k).size<=140737488355328
 many:p.f.length<=140737488355328
 nums:p.v.length=8
end Go.Proofs.YtidekgipblnpkaaGreatDoor
namespace Go.Proofs.YtidekgipblnpkaaGreatDoor.Dk
open Go.RowKit Go.Proofs.Tryz
abbrev yw (x:Po):Value:=.agg #[.string x.s,.string x.i,.string x.h,.string x.d,.int .i64 x.x,.int .i64 x.ro]
structure dL (x:Po):Prop where
 s:x.s.size<=140737488355328
 i:x.i.size<=140737488355328
 h:x.h.size<=140737488355328
 d:x.d.size<=140737488355328
def iK:Str:=⟨[],⟨[],0⟩,[]⟩
def uM (RH:World->Nat->Nat->(Nat->Prop)->Pn.aU->Int->Int->Str->Prop)(w w':World)(B p:Nat)(F:Nat->Prop)(P:Pn.aU)(m size:Int)(st:Str):Prop:=∃F',RH w' B p F' P m size st/\aF F w w'/\∀k,F' k->F k\/w.heap.size<=k
structure Fit (P:Pn.aU)(m size:Int)(st:Str):Prop where
 plan:Pn.bG P=0
 mX:lC m st.es st.s
 room:m<=65536
 size:aY size 1 4096=true
 yx:∀k∈st.ids,1<=k.q
structure aK (G:World->Prop)(RH:World->Nat->Nat->(Nat->Prop)->Pn.aU->Int->Int->Str->Prop)(SH:World->Nat->Nat->(Nat->Prop)->aG->Prop):Prop where
 own:∀{w B p F P m size st},RH w B p F P m size st->∀k,F k->B<=k/\k<w.heap.size
 dh:∀{w w' B p F P m size st} {A:Nat->Prop},RH w B p F P m size st->aF A w w'->(∀k,F k->¬A k)->RH w' B p F P m size st
 wrong:∀(w:World) (P:Pn.aU) (a:Option Addr) (c:Nat) (m size:Int),iE P->jW w a P.f->P.f.length<=c->G w->Pn.bG P≠0 ->
  Calls prog 9 #[qQ P a c,.int .i64 m,.int .i64 size] w λe w'=>e=.returned (.tuple #[.pointer none,.int .i64 (Pn.bG P)])/\Below w.heap.size w w'
 bad:∀(w:World) (P:Pn.aU) (a:Option Addr) (c:Nat) (m size:Int),iE P->jW w a P.f->P.f.length<=c->G w->Pn.bG P=0->(aY m 1 65536&&aY size 1 4096)=false ->
  Calls prog 9 #[qQ P a c,.int .i64 m,.int .i64 size] w λe w'=>e=.returned (.tuple #[.pointer none,.int .i64 1])/\Below w.heap.size w w'
 good:∀(w:World) (P:Pn.aU) (a:Option Addr) (c:Nat) (m size:Int),iE P->jW w a P.f->P.f.length<=c->G w->Pn.bG P=0->aY m 1 65536=true->aY size 1 4096=true ->
  Calls prog 9 #[qQ P a c,.int .i64 m,.int .i64 size] w λe w'=>∃p F,e=.returned (.tuple #[.pointer (some ⟨p,0,none⟩),.int .i64 0])/\RH w' w.heap.size p F P m size iK/\Below w.heap.size w w'
 publish:∀{w B p F P m size st} (now:Int) (x:Po),dL x->RH w B p F P m size st->Fit P m size st->B<=w.heap.size ->
  Calls prog 19 #[.pointer (some ⟨p,0,none⟩),.int .i64 now,yw x] w λe w'=>e=.returned (.tuple #[.int .i64 (aI P m size now x st).1.1,.bool (aI P m size now x st).1.2.1,.int .i64 (aI P m size now x st).1.2.2])/\uM RH w w' B p F P m size (aI P m size now x st).2
 store:∀{w B p F P m size st},RH w B p F P m size st->Fit P m size st->B<=w.heap.size ->
  Calls prog 14 #[.pointer (some ⟨p,0,none⟩)] w λe w'=>∃q F0,e=.returned (.pointer (some ⟨q,0,none⟩))/\SH w' B q F0 st.s/\(∀k,F0 k->F k)/\Below w.heap.size w w'
structure kT (RH:World->Nat->Nat->(Nat->Prop)->Pn.aU->Int->Int->Str->Prop):Prop where
 crash:∀{w B p F P m size st} (keep:Int),RH w B p F P m size st->Fit P m size st->B<=w.heap.size->Calls prog 23 #[.pointer (some ⟨p,0,none⟩),.int .i64 keep] w λe w'=>e=.returned (.tuple #[])/\uM RH w w' B p F P m size ⟨st.es,st.s,[]⟩
 true':True
theorem Fit.nil {P:Pn.aU}{m size:Int}(hp:Pn.bG P=0)(hm:aY m 1 65536=true)(hs:aY size 1 4096=true):Fit P m size iK:=by
 have hb:1<=m/\m<=65536:=by simpa[aY] using hm
 exact⟨hp,lC.nil (by omega),hb.2,hs,λk hk=>by cases hk⟩
theorem AX {ids:List Kn}{x:Po}{now q:Int}(h:∀k∈ids,1<=k.q)(hq:1<=q):∀k∈JO ids x now q,1<=k.q:=by
 unfold JO;split
 ·exact h
 ·intro k hk;rcases List.mem_append.1 hk with y|y
  ·exact h k y
  ·rw[List.mem_singleton.1 y];exact hq
theorem agw {m size now:Int}{x:Po}{ids:List Kn}{es:List ay}{s:aG}(h:∀k∈ids,1<=k.q)(hl:0<=s.last):∀k∈(jU m size now x ids es s).2.ids,1<=k.q:=by
 unfold jU;split
 ·exact h
 ·split
  ·exact AX h (by omega)
  ·split
   ·exact AX h (by omega)
   ·exact AX h (by omega)
theorem Fit.pub {P:Pn.aU}{m size now:Int}{x:Po}{st:Str}(h:Fit P m size st):Fit P m size (aI P m size now x st).2:=by
 refine⟨h.plan,h.mX.pub,h.room,h.size,?_⟩;unfold aI;split
 ·exact h.yx
 ·split
  ·exact h.yx
  ·split
   ·exact h.yx
   ·split
    ·exact h.yx
    ·exact agw h.yx h.mX.aZ.ok.last.1
theorem Fit.stop {P:Pn.aU}{m size:Int}{st:Str}(h:Fit P m size st):Fit P m size ⟨st.es,st.s,[]⟩:=⟨h.plan,h.mX,h.room,h.size,λk hk=>by cases hk⟩
def pV (RH:World->Nat->Nat->(Nat->Prop)->Pn.aU->Int->Int->Str->Prop)(Cs:Nat->Prop)(w wr:World)(p:Nat)(P:Pn.aU)(m size:Int)(st:Str):Prop :=
 ∃F,RH wr w.heap.size p F P m size st/\Below w.heap.size w wr/\(∀k,Cs k->k<wr.heap.size/\¬F k)/\Fit P m size st
section
variable {G:World->Prop}{RH:World->Nat->Nat->(Nat->Prop)->Pn.aU->Int->Int->Str->Prop}{SH:World->Nat->Nat->(Nat->Prop)->aG->Prop}{Cs jw:Nat->Prop}{w wr w':World}{p:Nat}{P:Pn.aU}{m size:Int}{st st':Str}
theorem pV.bl (h:pV RH Cs w wr p P m size st):Below w.heap.size w wr:=by obtain⟨F,_,h2,_⟩:=h;exact h2
theorem pV.room (h:pV RH Cs w wr p P m size st):w.heap.size<=wr.heap.size:=h.bl.size
theorem pV.fit (h:pV RH Cs w wr p P m size st):Fit P m size st:=by obtain⟨F,_,_,_,h5⟩:=h;exact h5
theorem pV.mine (V:aK G RH SH)(h:pV RH Cs w wr p P m size st)(hb:Below wr.heap.size wr w')(hn:∀k,jw k->Cs k\/wr.heap.size<=k/\k<w'.heap.size):pV RH jw w w' p P m size st:=by
 have hr:=h.room;obtain⟨F,h1,h2,h3,h4⟩:=h;refine⟨F,V.dh (A:=λ_=>False) h1 (aF.of_below hb) (λ_ _ z=>z),h2.trans (hb.mono hr),λk hk=>?_,h4⟩;rcases hn k hk with y|y
 ·exact⟨Nat.lt_of_lt_of_le (h3 k y).1 hb.size,(h3 k y).2⟩
 ·exact⟨y.2,λz=>by have:=(V.own h1 k z).2;omega⟩
theorem pV.below (V:aK G RH SH)(h:pV RH Cs w wr p P m size st)(hb:Below wr.heap.size wr w'):pV RH Cs w w' p P m size st:=h.mine V hb (λ_ z=>.inl z)
theorem pV.stay (h:pV RH Cs w wr p P m size st)(hb:Below wr.heap.size wr w'):aJ Cs wr w':=by
 obtain⟨F,_,_,h3,_⟩:=h;exact⟨hb.size,λk hk=>hb.block k (h3 k hk).1⟩
theorem pV.does (V:aK G RH SH)(h:pV RH Cs w wr p P m size st)(hk:Fit P m size st'){fn:FuncId}{args:Array Value}{Q:Ending->World->Prop}
 (hc:∀F,RH wr w.heap.size p F P m size st->Calls prog fn args wr λe w'=>Q e w'/\uM RH wr w' w.heap.size p F P m size st') :
 Calls prog fn args wr λe w'=>Q e w'/\pV RH Cs w w' p P m size st'/\aJ Cs wr w':=by
 have hr:=h.room;obtain⟨F,h1,h2,h3,h4⟩:=h;refine(hc F h1).mono ?_;rintro e w' ⟨hq,F',a1,a2,a3⟩;refine⟨hq,⟨F',a1,h2.trans (a2.below hr (λk hk z=>by have:=(V.own h1 k z).1;omega)),λk hk=>⟨Nat.lt_of_lt_of_le (h3 k hk).1 a2.size,λz=>?_⟩,hk⟩,a2.size,λk hk=>a2.block k (h3 k hk).1 (h3 k hk).2⟩;rcases a3 k z with y|y
 ·exact(h3 k hk).2 y
 ·have:=(h3 k hk).1;omega
theorem pV.publish (V:aK G RH SH)(h:pV RH Cs w wr p P m size st)(now:Int)(x:Po)(hx:dL x) :
 Calls prog 19 #[.pointer (some ⟨p,0,none⟩),.int .i64 now,yw x] wr λe w'=>e=.returned (.tuple #[.int .i64 (aI P m size now x st).1.1,.bool (aI P m size now x st).1.2.1,.int .i64 (aI P m size now x st).1.2.2])/\pV RH Cs w w' p P m size (aI P m size now x st).2/\aJ Cs wr w':=by
 have hm:=h.room;exact h.does V h.fit.pub (λF hF=>V.publish now x hx hF h.fit hm)
theorem pV.store (V:aK G RH SH)(h:pV RH Cs w wr p P m size st) :
 Calls prog 14 #[.pointer (some ⟨p,0,none⟩)] wr λe w'=>∃q F0,e=.returned (.pointer (some ⟨q,0,none⟩))/\SH w' w.heap.size q F0 st.s/\Below wr.heap.size wr w':=by
 have hm:=h.room;have hf:=h.fit;obtain⟨F,h1,_⟩:=h;refine(V.store h1 hf hm).mono ?_;rintro e w' ⟨q,F0,he,hs,_,hb⟩;exact⟨q,F0,he,hs,hb⟩
theorem pV.new (V:aK G RH SH)(w:World)(P:Pn.aU)(a:Option Addr)(c:Nat)(hs:iE P)(hsl:jW w a P.f)(hc:P.f.length<=c)(hG:G w)(hp:Pn.bG P=0)(hm:aY m 1 65536=true)(hz:aY size 1 4096=true) :
 Calls prog 9 #[qQ P a c,.int .i64 m,.int .i64 size] w λe w'=>∃p,e=.returned (.tuple #[.pointer (some ⟨p,0,none⟩),.int .i64 0])/\pV RH (λ_=>False) w w' p P m size iK:=by
 refine(V.good w P a c m size hs hsl hc hG hp hm hz).mono ?_;rintro e w' ⟨p,F,he,h1,h2⟩;exact⟨p,he,F,h1,h2,λ_ z=>z.elim,Fit.nil hp hm hz⟩
theorem pV.crash (V:aK G RH SH)(C:kT RH)(h:pV RH Cs w wr p P m size st)(keep:Int) :
 Calls prog 23 #[.pointer (some ⟨p,0,none⟩),.int .i64 keep] wr λe w'=>e=.returned (.tuple #[])/\pV RH Cs w w' p P m size ⟨st.es,st.s,[]⟩/\aJ Cs wr w':=by
 have hm:=h.room;exact h.does V h.fit.stop (λF hF=>C.crash keep hF h.fit hm)
end
structure rV (w:World)(b:Nat)(x:Po):Prop where
 lt:b<w.heap.size
 c0:w.cell? ⟨b,0,none⟩=some (.string x.s)
 c1:w.cell? ⟨b,1,none⟩=some (.string x.i)
 c2:w.cell? ⟨b,2,none⟩=some (.string x.h)
 c3:w.cell? ⟨b,3,none⟩=some (.string x.d)
 c4:w.cell? ⟨b,4,none⟩=some (.int .i64 x.x)
 c5:w.cell? ⟨b,5,none⟩=some (.int .i64 x.ro)
abbrev jO (x:Po):Obj:=.cells #[.string x.s,.string x.i,.string x.h,.string x.d,.int .i64 x.x,.int .i64 x.ro] 48
theorem rV.new (w:World)(x:Po):rV (w.alloc (jO x)) w.heap.size x:=⟨by simp,by simp,by simp,by simp,by simp,by simp,by simp⟩
theorem rV.same {w w':World}{b:Nat}{x:Po}(h:rV w b x)(hs:w.heap.size<=w'.heap.size)(hb:w'.heap[b]?=w.heap[b]?):rV w' b x:=by
 have e:∀j,w'.cell? ⟨b,j,none⟩=w.cell? ⟨b,j,none⟩:=λj=>World.cell?_of_block (w:=w) (a:=⟨b,j,none⟩) hb
 exact⟨Nat.lt_of_lt_of_le h.lt hs,by rw[e];exact h.c0,by rw[e];exact h.c1,by rw[e];exact h.c2,by rw[e];exact h.c3,by rw[e];exact h.c4,by rw[e];exact h.c5⟩
theorem rV.below {w w':World}{b:Nat}{x:Po}(h:rV w b x)(hb:Below w.heap.size w w'):rV w' b x:=h.same hb.size (hb.block b h.lt)
theorem rV.stay {Cs:Nat->Prop}{w w':World}{b:Nat}{x:Po}(h:rV w b x)(hs:aJ Cs w w')(hb:Cs b):rV w' b x:=h.same hs.1 (hs.2 b hb)
end Go.Proofs.YtidekgipblnpkaaGreatDoor.Dk
namespace Go.Proofs.YtidekgipblnpkaaGreatDoor.Dk
open Go Go.Proofs.Tryz
def Low (es:List ay):Prop:=∀e∈es,0<=e.n/\e.n<(es.length:Int)
theorem Low.nil:Low []:=λe h=>by cases h
theorem Zc {es:List ay}(h:es.length≠0):iI es∈es:=gY (by omega)
theorem Low.sync {es:List ay}(h:Low es)(n:Int):Low (dM es n):=by
 unfold dM;split
 ·rename_i hi
  intro e he;rw[List.length_set];rcases List.mem_or_eq_of_mem_set he with y|y
  ·exact h e y
  ·rw[y];exact h (pa es (ix es n)) (gY hi)
 ·exact h
theorem Low.RY {es:List ay}(h:Low es):Low (dU es):=by
 unfold dU;split
 ·exact h
 ·exact h.sync _
theorem Low.app {es:List ay}(h:Low es){m n:Int}{s:ByteArray}(hn:0<=n/\n<=(es.length:Int)):Low (gK es m n s):=by
 unfold gK;split
 ·exact h
 ·split
  ·exact h
  ·split
   ·rename_i hi
    intro e he;rw[List.length_set];rcases List.mem_or_eq_of_mem_set he with y|y
    ·exact h e y
    ·rw[y];exact h (pa es (ix es n)) (gY hi)
   ·intro e he;have hl:(insL es (low es n) ⟨n,0,s⟩).length=es.length+1:=by
     unfold insL;rw[List.length_append,List.length_cons,List.length_take,List.length_drop];have:low es n<=es.length:=by unfold low;exact List.findIdx_le_length
     omega
    rw[hl];rcases Iq he with y|y
    ·rw[y];exact⟨hn.1,by show n<((es.length+1:Nat):Int);omega⟩
    ·have:=h e y;exact⟨this.1,by omega⟩
theorem Low.aaQ (es:List ay)(n:Int):(dM es n).length=es.length:=by
 unfold dM;split
 ·rw[List.length_set]
 ·rfl
theorem Low.log {es:List ay}(h:Low es)(m size:Int)(r:Rc):Low (iT es m size r).2:=by
 unfold iT;split
 ·unfold iD;split
  ·exact h
  ·split
   ·exact h.app ⟨Int.le_refl _,by omega⟩
   ·rename_i hne
    have hl:=h _ (Zc hne);split
    ·exact(h.sync _).app ⟨by omega,by rw[Low.aaQ];omega⟩
    ·exact h.app ⟨hl.1,by omega⟩
 ·exact h
theorem Low.did {es:List ay}(h:Low es)(s:aG)(m size:Int)(r:Rc):Low (nN es s m size r):=by
 unfold nN;split
 ·exact(h.log m size r).RY
 ·exact h
theorem agx {es:List ay}(h:Low es)(hf:es.length<=20){m size:Int}{r:Rc}(hc:dA r=0):(iT es m size r).1=0\/(iT es m size r).1=8:=by
 have key:∀(es':List ay) (n:Int),0<=n->n<=1099511627776->bY es' m n (bZ r)=0\/bY es' m n (bZ r)=8:=λes' n h1 h2=>by
  unfold bY;rw[if_neg (by unfold aY;rw[decide_eq_true h1,decide_eq_true h2];decide)];split
  ·exact .inr rfl
  ·exact .inl rfl
 have hR:(iD es m size r).1=0\/(iD es m size r).1=8:=by
  unfold iD;rw[if_neg (by rw[hc];simp)];split
  ·exact key es 0 (by omega) (by omega)
  ·rename_i hne
   have hl:=h _ (Zc hne);split
   ·exact key (dM es (iI es).n) ((iI es).n+1) (by omega) (by omega)
   ·exact key es (iI es).n (by omega) (by omega)
 unfold iT;split
 ·exact hR
 ·exact hR
theorem WH {es:List ay}(h:Low es)(hf:es.length<=20){s:aG}{m size:Int}{r:Rc}(hc:dA r=0)(ht:bV s r=0\/bV s r=8):gV es s m size r=0\/gV es s m size r=8:=by
 unfold gV;split
 ·exact ht
 ·exact agx h hf hc
theorem JR (dD:Bool)(s:ByteArray):aC dD s=Pl.errOf dD (Pl.iO s.data.toList):=rfl
theorem agy {p:Pn.aU}{now:Int}{x:Po}{q:Int}(h:jy p now x=0)(hq:1<=q/\q<=1099511627776):dA (bQ q now x)=0:=by
 unfold jy at h;by_cases a:(aY now 0 1099511627776&&(decide (-1<=x.x)&&aY x.ro 0 2))=false
 ·rw[if_pos a] at h;cases h
 ·rw[if_neg a] at h;by_cases b:aC false x.s=0
  ·rw[if_neg (by rw[b];simp)] at h;by_cases c:oL p x.s=false
   ·rw[if_pos c] at h;cases h
   ·rw[if_neg c] at h;have a:(aY now 0 1099511627776&&(decide (-1<=x.x)&&aY x.ro 0 2))=true:=by simpa using a
    simp only[aY,Bool.and_eq_true,decide_eq_true_eq] at a;have d:¬256<x.h.size+x.d.size:=λz=>by
     rw[decide_eq_true z] at h;simp at h
    have e:∀y:ByteArray,y.data.toList.length=y.size:=λy=>by simp
    unfold dA bQ Rc.pk Pk.chk;rw[if_neg (by
     have:Pk.inB 1 q now=true:=Pk.oW.2 ⟨by decide,by decide,hq.1,hq.2,a.1.1,a.1.2⟩;rw[this];decide),if_pos rfl,if_neg (by rw[<-JR,b];simp),if_neg (by simp only[e];exact d)]
  ·rw[if_pos b] at h;exact absurd h b
theorem agz {q now:Int}{f:ByteArray}(hq:1<=q/\q<=1099511627776)(hn:0<=now/\now<=1099511627776)(hf:aC true f=0):dA (dS q now f)=0:=by
 unfold dA dS Rc.pk Pk.chk;rw[if_neg (by
  have:Pk.inB 3 q now=true:=Pk.oW.2 ⟨by decide,by decide,hq.1,hq.2,hn.1,hn.2⟩;rw[this];decide),if_neg (by show ¬(3:Int)=1;decide),if_pos rfl,if_neg (by rw[<-JR,hf];simp),if_pos (by simp[noB])]
theorem agA {s:aG}{q now:Int}{x:Po}(hc:dA (bQ q now x)=0)(hq:s.last<q):bV s (bQ q now x)=0\/bV s (bQ q now x)=8:=by
 unfold bV;rw[if_neg (by rw[hc];simp),if_neg (by intro z;have:=z.1;cases this),if_neg (by intro z;exact z rfl),if_neg (by show ¬q<=s.last;omega)];split
 ·exact .inr rfl
 ·exact .inl rfl
theorem Low.room {p:Pn.aU}{m size now:Int}{x:Po}:∀(k:Nat) {es:List ay} {s:aG},Low es->Low (ji p m size now x k es s).2.1
 | 0,_,_,h=>h
 | k+1,es,s,h=>by
  unfold ji;split
  ·exact h
  ·split
   ·exact h
   ·split
    ·exact h
    ·exact Low.room k (h.did _ _ _ _)
theorem Low.pub {p:Pn.aU}{m size now:Int}{x:Po}{st:Str}(h:Low st.es):Low (aI p m size now x st).2.es:=by
 have hr:Low (aZ p m size now x st.es st.s).2.1:=by
  unfold aZ;split
  ·exact h
  ·exact Low.room _ h
 unfold aI;split
 ·exact h
 ·split
  ·exact h
  ·split
   ·exact h
   ·split
    ·exact hr
    ·unfold jU;split
     ·exact hr
     ·split
      ·exact hr.did _ _ _ _
      ·split
       ·exact hr.did _ _ _ _
       ·exact(hr.did _ _ _ _).did _ _ _ _
theorem TL {p:Pn.aU}{m size now:Int}{x:Po}(hp:JQ p)(hn:0<=now/\now<=1099511627776)(hz:¬(pv p 1≠0/\pv p 1<(oM x:Int))):∀(k:Nat) {es:List ay} {s:aG},lC m es s->Low es ->
 (pv p 5=1->(ji p m size now x k es s).2.2=s)/\((ji p m size now x k es s).1=0\/(ji p m size now x k es s).1=8)
 | 0,_,_,_,_=>⟨λ_=>rfl,.inl rfl⟩
 | k+1,es,s,hv,hl=>by
  unfold ji;by_cases a:(bH p s.l x||bP p s.l x)=false
  ·rw[if_pos a];exact⟨λ_=>rfl,.inl rfl⟩
  ·rw[if_neg a];by_cases b:pv p 5=1
   ·rw[if_pos b];exact⟨λ_=>rfl,.inr rfl⟩
   ·rw[if_neg b];obtain⟨r,hr,e⟩:=go_in hp hz a;have ht:=ags (now:=now) hv.ok ⟨r,hr,e⟩ hn;have hc:dA (bM (uJ p s.l x) now)=0:=Y8 (by rw[<-e];exact hv.ok.seq hr) hn;have hd:=WH (m:=m) (size:=size) hl hv.tidy.few hc (.inl ht);by_cases c:gV es s m size (bM (uJ p s.l x) now)=0
    ·rw[if_neg (by rw[c];simp)];obtain⟨_,i2⟩:=TL hp hn hz k (hv.did (size:=size) (bM (uJ p s.l x) now)) (hl.did s m size (bM (uJ p s.l x) now));exact⟨λz=>absurd z b,i2⟩
    ·rw[if_pos c];exact⟨λz=>absurd z b,hd⟩
theorem TM {p:Pn.aU}{m size now:Int}{x:Po}{st:Str}(hp:JQ p)(hv:lC m st.es st.s)(hl:Low st.es)(hq:st.s.last<1099511627776)(h0:(aI p m size now x st).1.2.2≠0)(h8:¬((aI p m size now x st).1.2.2=8/\(pv p 5≠1\/x.ro≠0))):(aI p m size now x st).2.s.l=st.s.l:=by
 unfold aI at h0 h8 ⊢;by_cases a:jy p now x=0
 ·rw[if_neg (by rw[a];simp)] at h0 h8 ⊢;by_cases b:fH p now x st.ids=true
  ·rw[if_pos b]
  ·rw[if_neg b] at h0 h8 ⊢;by_cases c:x.x≠-1/\x.x≠st.s.last
   ·rw[if_pos c]
   ·rw[if_neg c] at h0 h8 ⊢;have hn:0<=now/\now<=1099511627776:=by
     have h:=a;unfold jy at h;by_cases z:(aY now 0 1099511627776&&(decide (-1<=x.x)&&aY x.ro 0 2))=false
     ·rw[if_pos z] at h;cases h
     ·have z:(aY now 0 1099511627776&&(decide (-1<=x.x)&&aY x.ro 0 2))=true:=by simpa using z
      simp only[aY,Bool.and_eq_true,decide_eq_true_eq] at z;exact⟨z.1.1,z.1.2⟩
    have hsub:aC true x.s=0:=by
     have h:=a;unfold jy at h;by_cases z:(aY now 0 1099511627776&&(decide (-1<=x.x)&&aY x.ro 0 2))=false
     ·rw[if_pos z] at h;cases h
     ·rw[if_neg z] at h;by_cases y:aC false x.s=0
      ·exact kG y
      ·rw[if_pos y] at h;exact absurd h y
    have hv1:=hv.aZ (p:=p) (size:=size) (now:=now) (x:=x);have hs1:=(pU (p:=p) (m:=m) (size:=size) (now:=now) (x:=x) (es:=st.es) (s:=st.s)).2;have hL:Low (aZ p m size now x st.es st.s).2.1/\(pv p 5=1->(aZ p m size now x st.es st.s).2.2=st.s)/\((aZ p m size now x st.es st.s).1=0\/(aZ p m size now x st.es st.s).1=8/\(pv p 5≠1\/(aZ p m size now x st.es st.s).2.2=st.s)):=by
     unfold aZ;by_cases z:pv p 1≠0/\pv p 1<(oM x:Int)
     ·rw[if_pos z];exact⟨hl,λ_=>rfl,.inr ⟨rfl,.inr rfl⟩⟩
     ·rw[if_neg z];obtain⟨r1,r2⟩:=TL (size:=size) hp hn z (st.s.l.length+1) hv hl;refine⟨Low.room _ hl,r1,?_⟩;rcases r2 with y|y
      ·exact .inl y
      ·by_cases d:pv p 5=1
       ·exact .inr ⟨y,.inr (r1 d)⟩
       ·exact .inr ⟨y,.inl d⟩
    obtain⟨hL1,hL2,hL3⟩:=hL;by_cases d:(aZ p m size now x st.es st.s).1=0
    ·rw[if_neg (by rw[d];simp)] at h0 h8 ⊢;clear hL3 d;generalize (aZ p m size now x st.es st.s).2.1=es at *;generalize (aZ p m size now x st.es st.s).2.2=s at *;have hs0:0<=s.last:=hv1.ok.last.1;have hc:=agy (q:=s.last+1) a ⟨by omega,by omega⟩;have hd:=WH (m:=m) (size:=size) hL1 hv1.tidy.few hc (agA (s:=s) (q:=s.last+1) hc (by omega));unfold jU at h0 h8 ⊢;by_cases e:gV es s m size (bQ (s.last+1) now x)=0
     ·rw[if_neg (by rw[e];simp)] at h0 h8 ⊢;by_cases f:x.ro=0
      ·rw[if_pos f] at h0;exact absurd rfl h0
      ·rw[if_neg f] at h0 h8 ⊢;have hcp:dA (dS (s.last+1) now (iq x))=0:=agz ⟨by omega,by omega⟩ hn (by
        unfold iq;split
        ·exact hsub
        ·exact IB.1)
       have hdp:=WH (m:=m) (size:=size) (hL1.did s m size (bQ (s.last+1) now x)) (hv1.did (size:=size) (bQ (s.last+1) now x)).tidy.few (s:=iM es s m size (bQ (s.last+1) now x)) hcp (.inl (by rw[aaJ rfl];exact hcp));by_cases g:gV (nN es s m size (bQ (s.last+1) now x)) (iM es s m size (bQ (s.last+1) now x)) m size (dS (s.last+1) now (iq x))=0
       ·rw[if_neg (by rw[g];simp)] at h0;exact absurd rfl h0
       ·rw[if_pos g] at h8;rcases hdp with y|y
        ·exact absurd y g
        ·exact absurd ⟨y,.inr f⟩ h8
     ·rw[if_pos e] at h0 h8 ⊢;rcases hd with y|y
      ·exact absurd y e
      ·by_cases z:pv p 5=1
       ·show s.l=st.s.l;rw[hL2 z]
       ·exact absurd ⟨y,.inl z⟩ h8
    ·rw[if_pos d] at h0 h8 ⊢;rcases hL3 with y|⟨y,z⟩
     ·exact absurd y d
     ·rcases z with z|z
      ·exact absurd ⟨y,.inl z⟩ h8
      ·show(aZ p m size now x st.es st.s).2.2.l=st.s.l;rw[z]
 ·rw[if_pos a]
end Go.Proofs.YtidekgipblnpkaaGreatDoor.Dk
namespace Go.Proofs.YtidekgipblnpkaaGreatDoor
open Go.RowKit Go.Proofs.Tryz
theorem ajm {w:World}{B g cap:Nat}{l:List ByteArray}(h:Own w B g cap l):jW w (some ⟨g,0,none⟩) l:=λk hk=>by
 have hr:=World.ownsRow.cellAt h k (by simpa using hk);refine⟨g,0,rfl,(own_base h).2,?_⟩;rw[Nat.zero_add,hr,List.getElem?_map];unfold tk;rw[List.getElem?_eq_getElem hk];rfl
theorem agB {W:World}{b k j i:Nat}{x:Value}(h:k≠b):(W.setCell ⟨b,i,none⟩ x).cell? ⟨k,j,none⟩=W.cell? ⟨k,j,none⟩:=World.cell?_setCell_other _ _ _ _ (by intro e;injection e;omega)
theorem jW.far {W:World}{a:Option Addr}{l:List ByteArray}{b i:Nat}{x:Value}(h:jW W a l)(hn:∀z,a=some z->z.block≠b):jW (W.setCell ⟨b,i,none⟩ x) a l:=λk hk=>by
 obtain⟨b',o,h1,h2,h3⟩:=h k hk;exact⟨b',o,h1,by simpa[World.setCell] using h2,by rw[agB (hn _ h1)];exact h3⟩
def kV (w:World)(B:Nat)(v:Value)(l:List ByteArray):Prop:=w.ownsRow B 9 1 v l.length (l.map Value.string)
theorem kV.lit (w:World)(x y:ByteArray):kV (w.alloc (.cells #[.string x,.string y] 9)) w.heap.size (.slice (some ⟨w.heap.size,0,none⟩) 2 2) [x,y]:=World.ownsRow_lit (base:=w.heap.size) (e:=9) (size:=1) w #[.string x,.string y] 2 (Nat.le_refl _) (by unfold maxLen;omega) (by simp)
theorem kV.below {w w':World}{B:Nat}{v:Value}{l:List ByteArray}(h:kV w B v l)(hb:Below w.heap.size w w'):kV w' B v l:=by
 refine⟨h.1,?_⟩;rcases h.2 with q|⟨g,cap,cur,h1,h2,h3,r⟩
 ·exact .inl q
 ·refine .inr ⟨g,cap,cur,h1,h2,?_,r⟩;rw[hb.block g (World.ownsRow.lt h g (by rw[h1];rfl)).2];exact h3
theorem adl {w wr:World}{B:Nat}{v:Value}{l:List ByteArray}(h:kV wr B v l)(hb:Below B w wr)(t:ByteArray)(hl:l.length<=200000)(hB:B<=wr.heap.size) :
 ∃v8 w8,(Builtin.append_ #[22,22] 22 #[v,.slice (some ⟨wr.heap.size,0,none⟩) 1 1]).run prog (wr.alloc (.cells #[.string t] 9))=.ok v8 w8/\kV w8 B v8 (l++[t])/\Below B w w8:=by
 have hb7:Below wr.heap.size wr (wr.alloc (.cells #[.string t] 9)):=(Below.refl _ _).alloc (Nat.le_refl _) _;have h7:=h.below hb7;obtain⟨i0,hi,hz0,hz1,hz2⟩:=info_parts info9;obtain⟨v',w',hr,h2,h3,h4⟩:=run_append_own (P:=prog) (wr.alloc (.cells #[.string t] 9)) B 22 22 9 i0 (.string ByteArray.empty) 1 16 underlying22 hi hz0 hz1 hz2 rfl (by omega) v l.length (l.map Value.string) h7 ⟨wr.heap.size,0,none⟩ 1 1 [.string t] rfl (oQ _ _ _) (one_cell _) (by unfold maxLen;omega) (by omega) (Nat.le_trans hB hb7.size);refine⟨v',w',hr,?_,?_⟩
 ·unfold kV;rw[List.length_append,List.map_append];exact h2
 ·refine(hb.trans (hb7.mono hB)).grown h3 (Nat.le_trans hB hb7.size) ?_;intro j hj;exact(World.ownsRow.lt h j hj).1
theorem kV.sl {w:World}{B:Nat}{v:Value}{l:List ByteArray}(h:kV w B v l)(h0:0<l.length):∃g cap,v=.slice (some ⟨g,0,none⟩) l.length cap/\l.length<=cap/\jW w (some ⟨g,0,none⟩) l:=by
 obtain⟨n,hn⟩:∃n,l.length=n+1:=⟨l.length-1,by omega⟩;have h':=h;unfold kV at h';rw[hn] at h';obtain⟨g,cap,rfl⟩:=rW h';refine⟨g,cap,by rw[hn],?_,λk hk=>⟨g,0,rfl,(World.ownsRow.lt h' g rfl).2,?_⟩⟩
 ·rcases h'.2 with ⟨e,_⟩|⟨g',cap',cur,e,_,_,hn',_⟩
  ·simp at e
  ·simp only[Value.slice.injEq] at e;omega
 ·rw[Nat.zero_add,World.ownsRow.cellAt h' k (by omega),List.getElem?_map,List.getElem?_eq_getElem hk];unfold tk;rw[List.getElem?_eq_getElem hk];rfl
theorem kV.dh {A:Nat->Prop}{w w':World}{B:Nat}{v:Value}{l:List ByteArray}(h:kV w B v l)(hc:Dk.aF A w w')(hn:∀g,B<=g->¬A g):kV w' B v l:=by
 refine⟨h.1,?_⟩;rcases h.2 with q|⟨g,cap,cur,h1,h2,h3,r⟩
 ·exact .inl q
 ·refine .inr ⟨g,cap,cur,h1,h2,?_,r⟩;have hg:=World.ownsRow.lt h g (by rw[h1];rfl);rw[hc.block g hg.2 (hn g hg.1)];exact h3
theorem kV.nil (w:World)(B:Nat):kV w B (.slice none 0 0) []:=⟨by simp,.inl ⟨rfl,rfl⟩⟩
theorem kV.shape {w:World}{B:Nat}{v:Value}{l:List ByteArray}(h:kV w B v l):∃a c,v=.slice a l.length c/\l.length<=c/\jW w a l:=by
 by_cases h0:0<l.length
 ·obtain⟨g,cap,e,hc,hs⟩:=h.sl h0;exact⟨_,cap,e,hc,hs⟩
 ·have hl:l=[]:=List.length_eq_zero_iff.1 (by omega);subst hl;rcases h.2 with ⟨e,_⟩|⟨g,cap,cur,h1,h2,h3,r⟩
  ·exact⟨none,0,e,Nat.le_refl _,λk hk=>by simp at hk⟩
  ·exact⟨_,cap,h1,by simp,λk hk=>by simp at hk⟩
end Go.Proofs.YtidekgipblnpkaaGreatDoor
