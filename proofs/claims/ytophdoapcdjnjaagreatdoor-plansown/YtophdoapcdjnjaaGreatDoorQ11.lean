/- A part. -/
import Derived.Test.YtophdoapcdjnjaaGreatDoorQ4
import Derived.Test.YtophdoapcdjnjaaGreatDoorQ9
import Derived.Lib.Atoi
import Derived.Lib.IndexAny
import Derived.Lib.Join
set_option maxRecDepth 100000
set_option maxHeartbeats 8000000
namespace Go.Proofs.YtophdoapcdjnjaaGreatDoor.Pn
open Go Go.Proofs.Tryz
def dO:List (List UInt8):=[[109,115,103,115],[98,121,116,101,115],[97,103,101],[112,101,114],[115,105,122,101],[100,105,115,99,97,114,100],[107,101,101,112],[119,105,110,100,111,119]]
def dB:List Int:=[200,65536,100000,200,256,1,2,100000]
structure dN where
 n:ByteArray
 f:List ByteArray
 v:List Int
def nameB (c:UInt8):Bool:=(decide (97<=c.toNat)&&decide (c.toNat<=122))||((decide (48<=c.toNat)&&decide (c.toNat<=57))||decide (c.toNat=45))
def bD (s:ByteArray):Bool:=s.data.toList.all nameB&&(decide (1<=s.size)&&decide (s.size<=16))
def eG:List ByteArray->Int
 | []=>0
 | f::r=>if aB true f=0 then eG r else aB true f
def laps:List ByteArray->Bool
 | []=>false
 | f::r=>r.any (λg=>bC (Pl.toks f) (Pl.toks g))||laps r
def fJ:List Int->List Int->Bool
 | [],[]=>true
 | x::v,m::ms=>(decide (0<=x)&&decide (x<=m))&&fJ v ms
 | _,_=>false
def bT (p:dN):Int:=if bD p.n=false then 3 else if 4<p.f.length then 2 else if p.f.length=0 then 1 else if eG p.f≠0 then eG p.f else if laps p.f=true then 10 else if fJ p.v dB=true then 0 else 1
theorem rP {p:dN}(h:bT p=0):bD p.n=true/\p.f.length<=4/\p.f.length≠0/\eG p.f=0/\laps p.f=false/\fJ p.v dB=true:=by
 unfold bT at h;by_cases h1:bD p.n=false
 ·rw[if_pos h1] at h;cases h
 ·rw[if_neg h1] at h;by_cases h2:4<p.f.length
  ·rw[if_pos h2] at h;cases h
  ·rw[if_neg h2] at h;by_cases h3:p.f.length=0
   ·rw[if_pos h3] at h;cases h
   ·rw[if_neg h3] at h;by_cases h4:eG p.f≠0
    ·rw[if_pos h4] at h;exact absurd h h4
    ·rw[if_neg h4] at h;by_cases h5:laps p.f=true
     ·rw[if_pos h5] at h;cases h
     ·rw[if_neg h5] at h;by_cases h6:fJ p.v dB=true
      ·exact⟨by simpa using h1,by omega,h3,Classical.not_not.1 h4,by simpa using h5,h6⟩
      ·rw[if_neg h6] at h;cases h
theorem zQ:∀{l:List ByteArray},eG l=0->∀f∈l,aB true f=0
 | [],_,f,hf=>by cases hf
 | g::r,h,f,hf=>by
  unfold eG at h;by_cases e:aB true g=0
  ·rw[if_pos e] at h;rcases List.mem_cons.1 hf with y|y
   ·rw[y];exact e
   ·exact zQ h f y
  ·rw[if_neg e] at h;exact absurd h e
def aU:List (List UInt8)->List Int->List (List UInt8)
 | w::ws,x::v=>if x=0 then aU ws v else (w++61::Lib.itoa x)::aU ws v
 | _,_=>[]
def kL (p:dN):List (List UInt8):=p.n.data.toList::glue 44 (p.f.map (·.data.toList))::aU dO p.v
def rQ (p:dN):ByteArray:=⟨(glue 32 (kL p)).toArray⟩
def commas (p:dN):Bool:=p.f.any (λf=>f.data.toList.contains 44)
def Dp:List (List UInt8)->List (List UInt8)->Option (List Int)
 | [],[]=>some []
 | [],_::_=>none
 | _::ws,[]=>(Dp ws []).map (λv=>0::v)
 | w::ws,t::ts=>if (w++[61]).isPrefixOf t=true then (if gW (t.drop (w.length+1))<1 then none else (Dp ws ts).map (λv=>gW (t.drop (w.length+1))::v)) else (Dp ws (t::ts)).map (λv=>0::v)
def Ew:dN:=⟨⟨#[]⟩,[],[0,0,0,0,0,0,0,0]⟩
def bs (l:List UInt8):ByteArray:=⟨l.toArray⟩
def xG (s:ByteArray):dN×Int:=if 1024<s.size then (Ew,2) else match cut 32 s.data.toList with
 | n::f::ts=>match Dp dO ts with
  | some v=>if bT ⟨bs n,(cut 44 f).map bs,v⟩=0 then (⟨bs n,(cut 44 f).map bs,v⟩,0) else (Ew,bT ⟨bs n,(cut 44 f).map bs,v⟩)
  | none=>(Ew,3)
 | _=>(Ew,3)
theorem Ey {a b d:List UInt8}(ha:(61:UInt8)∉a)(hb:(61:UInt8)∉b)(h:(a++[61]).isPrefixOf (b++61::d)=true):a=b:=by
 induction a generalizing b with
 | nil =>
  cases b with
  | nil=>rfl
  | cons x b =>
   simp[List.isPrefixOf] at h;exact absurd (by rw[<-h];exact List.mem_cons_self ..) hb
 | cons y a ih =>
  cases b with
  | nil =>
   simp[List.isPrefixOf] at h;exact absurd (by rw[h.1];exact List.mem_cons_self ..) ha
  | cons x b =>
   simp only[List.cons_append,List.isPrefixOf,Bool.and_eq_true,beq_iff_eq] at h;rw[h.1,ih (λz=>ha (List.mem_cons_of_mem _ z)) (λz=>hb (List.mem_cons_of_mem _ z)) h.2]
theorem uK (w d:List UInt8):(w++[61]).isPrefixOf (w++61::d)=true/\(w++61::d).drop (w.length+1)=d:=by
 constructor
 ·rw[List.isPrefixOf_iff_prefix];exact⟨d,by simp⟩
 ·rw[List.drop_append,List.drop_of_length_le (by omega),show w.length+1-w.length=1 by omega];rfl
theorem uM:∀(ws:List (List UInt8)) (v:List Int) {t:List UInt8} {ts:List (List UInt8)},aU ws v=t::ts->∃u∈ws,∃d,t=u++61::d
 | [],_,t,ts,h=>by simp[aU] at h
 | w::ws,[],t,ts,h=>by simp[aU] at h
 | w::ws,x::v,t,ts,h=>by
  by_cases e:x=0
  ·rw[aU,if_pos e] at h;obtain⟨u,hu,d,hd⟩:=uM ws v h;exact⟨u,List.mem_cons_of_mem _ hu,d,hd⟩
  ·rw[aU,if_neg e] at h;exact⟨w,List.mem_cons_self ..,Lib.itoa x,(List.cons.inj h).1.symm⟩
theorem Ez:∀(ws:List (List UInt8)) (v:List Int),ws.Nodup->(∀w∈ws,(61:UInt8)∉w)->v.length=ws.length->(∀x∈v,0<=x/\x<1000000000)->Dp ws (aU ws v)=some v
 | [],[],_,_,_,_=>rfl
 | [],_::_,_,_,h,_=>by simp at h
 | w::ws,[],_,_,h,_=>by simp at h
 | w::ws,x::v,hn,hw,hl,hx=>by
  have hn':=List.nodup_cons.1 hn;have ih:=Ez ws v hn'.2 (λu hu=>hw u (List.mem_cons_of_mem _ hu)) (by simpa using hl) (λy hy=>hx y (List.mem_cons_of_mem _ hy));by_cases e:x=0
  ·have e1:aU (w::ws) (x::v)=aU ws v:=by rw[aU,if_pos e]
   rw[e1]
   cases ht:aU ws v with
   | nil=>rw[ht] at ih;rw[Dp,ih,e];rfl
   | cons t ts =>
    have hm:∃u∈ws,∃d,t=u++61::d:=uM ws v ht;obtain⟨u,hu,d,rfl⟩:=hm;rw[ht] at ih;have hp:¬(w++[61]).isPrefixOf (u++61::d)=true:=λz=>by
     have:=Ey (hw w (List.mem_cons_self ..)) (hw u (List.mem_cons_of_mem _ hu)) z;rw[this] at hn';exact hn'.1 hu
    rw[Dp,if_neg hp,ih,e];rfl
  ·have e1:aU (w::ws) (x::v)=(w++61::Lib.itoa x)::aU ws v:=by rw[aU,if_neg e]
   have hx0:=hx x (List.mem_cons_self ..);obtain⟨u,rfl⟩:∃u:Nat,x=(u:Int):=⟨x.toNat,by omega⟩;have hi:Lib.itoa (u:Int)=Lib.decDigits u:=by unfold Lib.itoa;rw[if_neg (by omega)];simp
   obtain⟨p1,p2⟩:=uK w (Lib.itoa (u:Int));have hd:gW (Lib.itoa (u:Int))=(u:Int):=by rw[hi];exact DF (by omega) (by omega)
   rw[e1,Dp,if_pos p1,p2,hd,if_neg (by omega),ih];rfl
theorem vO:∀(ws ts:List (List UInt8)) {v:List Int},Dp ws ts=some v->aU ws v=ts/\v.length=ws.length/\∀x∈v,0<=x/\x<1000000000
 | [],[],v,h=>by
  simp[Dp] at h;subst h;exact⟨rfl,rfl,λx hx=>by cases hx⟩
 | [],_::_,v,h=>by simp[Dp] at h
 | w::ws,[],v,h=>by
  rw[Dp] at h
  cases hr:Dp ws [] with
  | none=>rw[hr] at h;simp at h
  | some u =>
   rw[hr] at h;simp at h;subst h;obtain⟨h1,h2,h3⟩:=vO ws [] hr;refine⟨by rw[aU,if_pos rfl];exact h1,by simp[h2],λx hx=>?_⟩;rcases List.mem_cons.1 hx with y|y
   ·omega
   ·exact h3 x y
 | w::ws,t::ts,v,h=>by
  rw[Dp] at h;by_cases hp:(w++[61]).isPrefixOf t=true
  ·rw[if_pos hp] at h;by_cases hd:gW (t.drop (w.length+1))<1
   ·rw[if_pos hd] at h;cases h
   ·rw[if_neg hd] at h
    cases hr:Dp ws ts with
    | none=>rw[hr] at h;simp at h
    | some u =>
     rw[hr] at h;simp at h;subst h;obtain⟨h1,h2,h3⟩:=vO ws ts hr;obtain⟨b1,b2⟩:=zh (l:=t.drop (w.length+1)) (by omega);obtain⟨d,hd2⟩:=List.isPrefixOf_iff_prefix.1 hp;have e:t.drop (w.length+1)=d:=by rw[<-hd2,List.append_assoc];exact(uK w d).2
     refine⟨?_,by simp[h2],λx hx=>?_⟩
     ·rw[aU,if_neg (by omega),b1,h1,e,<-hd2];simp
     ·rcases List.mem_cons.1 hx with y|y
      ·omega
      ·exact h3 x y
  ·rw[if_neg hp] at h
   cases hr:Dp ws (t::ts) with
   | none=>rw[hr] at h;simp at h
   | some u =>
    rw[hr] at h;simp at h;subst h;obtain⟨h1,h2,h3⟩:=vO ws (t::ts) hr;refine⟨by rw[aU,if_pos rfl];exact h1,by simp[h2],λx hx=>?_⟩;rcases List.mem_cons.1 hx with y|y
    ·omega
    ·exact h3 x y
end Go.Proofs.YtophdoapcdjnjaaGreatDoor.Pn
namespace Go.Proofs.YtophdoapcdjnjaaGreatDoor
open Go.RowKit Go.Proofs.Tryz
theorem Lp (s:ByteArray)(k:Nat)(h:k<s.size):s.data.toList.take (k+1)=s.data.toList.take k++[s[k]]:=by
 rw[List.take_succ_eq_append_getElem (by simpa using h)];rfl
def mD (s:ByteArray)(k:Nat):Bool:=(s.data.toList.take k).all Pn.nameB
theorem BL {s:ByteArray}{k:Nat}(h:k<s.size):mD s (k+1)=(mD s k&&Pn.nameB s[k]):=by
 unfold mD;rw[Lp s k h,List.all_append];simp
theorem Lr {s:ByteArray}{k:Nat}(h:k<s.size)(hb:Pn.nameB s[k]=false):Pn.bD s=false:=by
 unfold Pn.bD;have:s.data.toList.all Pn.nameB=false:=by
  rw[List.all_eq_false];exact⟨s[k],by
   have:s.data.toList[k]'(by simpa using h)∈s.data.toList:=List.getElem_mem _;exact this,by simp[hb]⟩
 rw[this];rfl
theorem named_ok {s:ByteArray}(h:mD s s.size=true):Pn.bD s=(decide (1<=s.size)&&decide (s.size<=16)):=by
 unfold mD at h;rw[List.take_of_length_le (by simp)] at h;unfold Pn.bD;rw[h,Bool.true_and]
abbrev uN (n:ByteArray)(a:Option Addr)(l c:Nat)(x0 x1 x2 x3 x4 x5 x6 x7:Int):Value:=.agg #[.string n,.slice a l c,.int .i64 x0,.int .i64 x1,.int .i64 x2,.int .i64 x3,.int .i64 x4,.int .i64 x5,.int .i64 x6,.int .i64 x7]
structure PB (w:World)(b:Nat)(n:ByteArray)(a:Option Addr)(l c:Nat)(x0 x1 x2 x3 x4 x5 x6 x7:Int):Prop where
 lt:b<w.heap.size
 c0:w.cell? ⟨b,0,none⟩=some (.string n)
 c1:w.cell? ⟨b,1,none⟩=some (.slice a l c)
 c2:w.cell? ⟨b,2,none⟩=some (.int .i64 x0)
 c3:w.cell? ⟨b,3,none⟩=some (.int .i64 x1)
 c4:w.cell? ⟨b,4,none⟩=some (.int .i64 x2)
 c5:w.cell? ⟨b,5,none⟩=some (.int .i64 x3)
 c6:w.cell? ⟨b,6,none⟩=some (.int .i64 x4)
 c7:w.cell? ⟨b,7,none⟩=some (.int .i64 x5)
 c8:w.cell? ⟨b,8,none⟩=some (.int .i64 x6)
 c9:w.cell? ⟨b,9,none⟩=some (.int .i64 x7)
section
variable {w w':World}{b:Nat}{n:ByteArray}{a:Option Addr}{l c:Nat}{x0 x1 x2 x3 x4 x5 x6 x7:Int}
theorem PB.next (h:PB w b n a l c x0 x1 x2 x3 x4 x5 x6 x7)(hb:Below w.heap.size w w'):PB w' b n a l c x0 x1 x2 x3 x4 x5 x6 x7 :=
 ⟨Nat.lt_of_lt_of_le h.lt hb.size,by rw[hb.cell (p:=⟨b,0,none⟩) h.lt];exact h.c0,by rw[hb.cell (p:=⟨b,1,none⟩) h.lt];exact h.c1,by rw[hb.cell (p:=⟨b,2,none⟩) h.lt];exact h.c2,by rw[hb.cell (p:=⟨b,3,none⟩) h.lt];exact h.c3,by rw[hb.cell (p:=⟨b,4,none⟩) h.lt];exact h.c4,by rw[hb.cell (p:=⟨b,5,none⟩) h.lt];exact h.c5,by rw[hb.cell (p:=⟨b,6,none⟩) h.lt];exact h.c6,by rw[hb.cell (p:=⟨b,7,none⟩) h.lt];exact h.c7,by rw[hb.cell (p:=⟨b,8,none⟩) h.lt];exact h.c8,by rw[hb.cell (p:=⟨b,9,none⟩) h.lt];exact h.c9⟩
theorem PB.new (w:World)(n:ByteArray)(a:Option Addr)(l c:Nat)(x0 x1 x2 x3 x4 x5 x6 x7:Int)(T:TypeId):PB (w.alloc (.cells #[.string n,.slice a l c,.int .i64 x0,.int .i64 x1,.int .i64 x2,.int .i64 x3,.int .i64 x4,.int .i64 x5,.int .i64 x6,.int .i64 x7] T)) w.heap.size n a l c x0 x1 x2 x3 x4 x5 x6 x7 :=
 ⟨by simp,by simp,by simp,by simp,by simp,by simp,by simp,by simp,by simp,by simp,by simp⟩
end
theorem zS (w:World)(x0 x1 x2 x3 x4 x5 x6 x7:Int)(T:TypeId):Dk.jm (w.alloc (.cells #[.int .i64 x0,.int .i64 x1,.int .i64 x2,.int .i64 x3,.int .i64 x4,.int .i64 x5,.int .i64 x6,.int .i64 x7] T)) (some ⟨w.heap.size,0,none⟩) [x0,x1,x2,x3,x4,x5,x6,x7]:=λk hk=>by
 refine⟨w.heap.size,0,rfl,by simp,?_⟩;rw[cell_of_row _ w.heap.size (0+k) _ _ _ (heap_alloc_new w _),Nat.zero_add];have:k<8:=by simpa using hk
 rcases k with _|_|_|_|_|_|_|_|k;all_goals first
  | rfl
  | omega
theorem iy {w w':World}{a:Option Addr}{l:List Int}(h:Dk.jm w a l)(hb:Below w.heap.size w w'):Dk.jm w' a l:=λk hk=>by
 obtain⟨b,o,h1,h2,h3⟩:=h k hk;exact⟨b,o,h1,Nat.lt_of_lt_of_le h2 hb.size,by rw[hb.cell (p:=⟨b,o+k,none⟩) h2];exact h3⟩
def jg (w:World)(a:Option Addr)(l:List ByteArray):Prop:=∀k,k<l.length->∃b o,a=some ⟨b,o,none⟩/\b<w.heap.size/\w.cell? ⟨b,o+k,none⟩=some (.string (tk l k))
theorem jg.next {w w':World}{a:Option Addr}{l:List ByteArray}(h:jg w a l)(hb:Below w.heap.size w w'):jg w' a l:=λk hk=>by
 obtain⟨b,o,h1,h2,h3⟩:=h k hk;exact⟨b,o,h1,Nat.lt_of_lt_of_le h2 hb.size,by rw[hb.cell (p:=⟨b,o+k,none⟩) h2];exact h3⟩
theorem jg.from {B:Nat}{w w':World}{a:Option Addr}{l:List ByteArray}(h:jg w a l)(hb:Below B w w')(hB:w.heap.size<=B):jg w' a l:=λk hk=>by
 obtain⟨b,o,h1,h2,h3⟩:=h k hk;exact⟨b,o,h1,Nat.lt_of_lt_of_le h2 hb.size,by rw[hb.cell (p:=⟨b,o+k,none⟩) (Nat.lt_of_lt_of_le h2 hB)];exact h3⟩
namespace Pn
open Go.Proofs.Tryz
theorem xH {l:List ByteArray}{i:Nat}(h:i<l.length):eG (l.drop i)=if aB true (tk l i)=0 then eG (l.drop (i+1)) else aB true (tk l i):=by rw[fV h];rfl
theorem W9 {l:List ByteArray}{i:Nat}(h:i<l.length):laps (l.drop i)=((l.drop (i+1)).any (λg=>bC (Pl.toks (tk l i)) (Pl.toks g))||laps (l.drop (i+1))):=by rw[fV h];rfl
theorem XQ {l:List ByteArray}{i:Nat}(h:i<l.length)(f:ByteArray->Bool):(l.drop i).any f=(f (tk l i)||(l.drop (i+1)).any f):=by rw[fV h];rfl
theorem GI {v:List Int}{i:Nat}(h:i<v.length)(h8:v.length=8):fJ (v.drop i) (dB.drop i)=((decide (0<=Dk.nth v i)&&decide (Dk.nth v i<=Dk.nth dB i))&&fJ (v.drop (i+1)) (dB.drop (i+1))):=by
 have h2:i<dB.length:=by rw[h8] at h;exact h
 rw[List.drop_eq_getElem_cons h,List.drop_eq_getElem_cons h2,fJ,Dk.nth,Dk.nth,List.getElem?_eq_getElem h,List.getElem?_eq_getElem h2];rfl
section
variable {p:dN}
theorem GK (h:bD p.n=false):bT p=3:=by unfold bT;rw[if_pos h]
theorem VR (h:bD p.n=true)(h2:4<p.f.length):bT p=2:=by unfold bT;rw[if_neg (by rw[h];simp),if_pos h2]
theorem VT (h:bD p.n=true)(h2:p.f.length=0):bT p=1:=by unfold bT;rw[if_neg (by rw[h];simp),if_neg (by omega),if_pos h2]
theorem VU (h:bD p.n=true)(h2:¬4<p.f.length)(h3:p.f.length≠0)(h4:eG p.f≠0):bT p=eG p.f:=by unfold bT;rw[if_neg (by rw[h];simp),if_neg h2,if_neg h3,if_pos h4]
theorem VW (h:bD p.n=true)(h2:¬4<p.f.length)(h3:p.f.length≠0)(h4:eG p.f=0)(h5:laps p.f=true):bT p=10:=by unfold bT;rw[if_neg (by rw[h];simp),if_neg h2,if_neg h3,if_neg (by rw[h4];simp),if_pos h5]
theorem VX (h:bD p.n=true)(h2:¬4<p.f.length)(h3:p.f.length≠0)(h4:eG p.f=0)(h5:laps p.f=false):bT p=if fJ p.v dB=true then 0 else 1:=by unfold bT;rw[if_neg (by rw[h];simp),if_neg h2,if_neg h3,if_neg (by rw[h4];simp),if_neg (by rw[h5];simp)]
end
end Pn
def Xa (w wr:World)(b:Nat)(n:ByteArray)(a:Option Addr)(l:List ByteArray)(c:Nat)(x0 x1 x2 x3 x4 x5 x6 x7:Int):Prop:=PB wr b n a l.length c x0 x1 x2 x3 x4 x5 x6 x7/\jg wr a l/\Below w.heap.size w wr
theorem Xa.next {w wr w':World}{b:Nat}{n:ByteArray}{a:Option Addr}{l:List ByteArray}{c:Nat}{x0 x1 x2 x3 x4 x5 x6 x7:Int}(h:Xa w wr b n a l c x0 x1 x2 x3 x4 x5 x6 x7)(hb:Below wr.heap.size wr w'):Xa w w' b n a l c x0 x1 x2 x3 x4 x5 x6 x7:=⟨h.1.next hb,h.2.1.next hb,aA h.2.2 hb⟩
def XR (w wr:World)(g1 g2:Nat)(v:List Int):Prop:=Dk.jm wr (some ⟨g1,0,none⟩) v/\Dk.jm wr (some ⟨g2,0,none⟩) Pn.dB/\Below w.heap.size w wr
theorem XR.next {w wr w':World}{g1 g2:Nat}{v:List Int}(h:XR w wr g1 g2 v)(hb:Below wr.heap.size wr w'):XR w w' g1 g2 v:=⟨iy h.1 hb,iy h.2.1 hb,aA h.2.2 hb⟩
abbrev Zt (g1 g2 i:Nat)(x y:Int)(w:World):Prop:=w.cell? ⟨g1,i,none⟩=some (.int .i64 x)/\w.cell? ⟨g2,i,none⟩=some (.int .i64 y)
theorem XR.two {w wr:World}{g1 g2:Nat}{v:List Int}(h:XR w wr g1 g2 v)(h8:v.length=8){i:Nat}(hi:i<8):Zt g1 g2 i (Dk.nth v i) (Dk.nth Pn.dB i) wr:=by
 obtain⟨b1,o1,e1,_,h1⟩:=h.1 i (by omega);obtain⟨b2,o2,e2,_,h2⟩:=h.2.1 i hi
 cases e1
 cases e2
 rw[Nat.zero_add] at h1 h2;exact⟨h1,h2⟩
abbrev Zu (b:Nat)(a:Option Addr)(l c ba o i k:Nat)(f g:ByteArray)(w:World):Prop:=w.cell? ⟨b,1,none⟩=some (.slice a l c)/\w.cell? ⟨ba,o+i,none⟩=some (.string f)/\w.cell? ⟨ba,o+k,none⟩=some (.string g)
theorem Xa.two {w wr:World}{b ba o:Nat}{n:ByteArray}{l:List ByteArray}{c:Nat}{x0 x1 x2 x3 x4 x5 x6 x7:Int}(h:Xa w wr b n (some ⟨ba,o,none⟩) l c x0 x1 x2 x3 x4 x5 x6 x7){i k:Nat}(hi:i<l.length)(hk:k<l.length):Zu b (some ⟨ba,o,none⟩) l.length c ba o i k (tk l i) (tk l k) wr:=by
 obtain⟨b1,o1,e1,_,h1⟩:=h.2.1 i hi;obtain⟨b2,o2,e2,_,h2⟩:=h.2.1 k hk
 cases e1
 cases e2
 exact⟨h.1.c1,h1,h2⟩
end Go.Proofs.YtophdoapcdjnjaaGreatDoor
namespace Go.Proofs.YtophdoapcdjnjaaGreatDoor.Pn
open Go Go.Proofs.Tryz
theorem BM (s:ByteArray):bs s.data.toList=s:=by unfold bs;apply ByteArray.ext;simp
theorem vP (l:List UInt8):(bs l).data.toList=l:=by unfold bs;simp
theorem rU:∀{v ms:List Int},fJ v ms=true->v.length=ms.length/\∀x∈v,0<=x/\∃m∈ms,x<=m
 | [],[],_=>⟨rfl,λx hx=>by cases hx⟩
 | [],_::_,h=>by simp[fJ] at h
 | _::_,[],h=>by simp[fJ] at h
 | x::v,m::ms,h=>by
  unfold fJ at h;simp only[Bool.and_eq_true,decide_eq_true_eq] at h;obtain⟨h1,h2⟩:=rU h.2;refine⟨by simp[h1],λy hy=>?_⟩;rcases List.mem_cons.1 hy with z|z
  ·rw[z];exact⟨h.1.1,m,List.mem_cons_self ..,h.1.2⟩
  ·obtain⟨q,k,hk,hl⟩:=h2 y z;exact⟨q,k,List.mem_cons_of_mem _ hk,hl⟩
theorem Jp:∀m∈dB,m<=100000:=by decide
theorem OW {t:List UInt8}{last:Bool}(h:Pl.jc true last t=true):t.length<=16/\∀c∈t,33<=c.toNat:=by
 unfold Pl.jc at h;rcases Bool.or_eq_true_iff.1 h with y|y
 ·unfold Pl.pW at y;simp only[Bool.and_eq_true,decide_eq_true_eq,List.all_eq_true] at y;refine⟨y.2.1,λc hc=>?_⟩;have:=y.2.2 c hc;unfold Pl.NS at this;simp only[Bool.and_eq_true,decide_eq_true_eq] at this;exact this.1
 ·simp only[Bool.true_and,Bool.or_eq_true,beq_iff_eq,Bool.and_eq_true] at y;rcases y with y|y
  ·rw[y];exact⟨by decide,by decide⟩
  ·rw[y.1];exact⟨by decide,by decide⟩
theorem xI {f:ByteArray}(h:aB true f=0):f.size<=136/\∀c∈f.data.toList,33<=c.toNat:=by
 obtain⟨h1,h2⟩:=BD h;have hp:∀t∈Pl.fZ f.data.toList,t.length<=16/\∀c∈t,33<=c.toNat:=λt ht=>by
  obtain⟨k,hk,rfl⟩:=List.mem_iff_getElem.1 ht;unfold Pl.fH at h2;rw[List.all_eq_true] at h2;have:=h2 k (List.mem_range.2 hk);rw[List.getElem?_eq_getElem hk] at this;exact OW this
 have hg:=qN 46 f.data.toList;rw[II] at hg;constructor
 ·have:=qP 46 16 _ (λt ht=>(hp t ht).1);rw[hg] at this;have e:f.data.toList.length=f.size:=by simp
  omega
 ·intro c hc;rw[<-hg] at hc;rcases wB 46 _ c hc with y|⟨t,ht,hct⟩
  ·rw[y];decide
  ·exact(hp t ht).2 c hct
theorem GL {s:ByteArray}(h:bD s=true):s.size<=16/\∀c∈s.data.toList,33<=c.toNat:=by
 unfold bD at h;simp only[Bool.and_eq_true,decide_eq_true_eq,List.all_eq_true] at h;refine⟨h.2.2,λc hc=>?_⟩;have:=h.1 c hc;unfold nameB at this;simp only[Bool.or_eq_true,Bool.and_eq_true,decide_eq_true_eq] at this;omega
theorem Ls {u:Nat}:∀c∈Lib.decDigits u,33<=c.toNat:=λc hc=>by
 have:=AQ u c hc;unfold fO at this;simp at this;omega
theorem OX {x:Int}(h:0<=x/\x<=100000):(Lib.itoa x).length<=6/\∀c∈Lib.itoa x,33<=c.toNat:=by
 have e:Lib.itoa x=Lib.decDigits x.toNat:=by unfold Lib.itoa;rw[if_neg (by omega)]
 rw[e];exact⟨AU 5 _ (by simp;omega),Ls⟩
theorem rV:∀(ws:List (List UInt8)) (v:List Int),(∀w∈ws,w.length<=7/\∀c∈w,33<=c.toNat)->(∀x∈v,0<=x/\x<=100000)->(aU ws v).length<=ws.length/\∀t∈aU ws v,t.length<=14/\∀c∈t,33<=c.toNat
 | [],v,_,_=>by simp[aU]
 | w::ws,[],_,_=>by simp[aU]
 | w::ws,x::v,hw,hx=>by
  obtain⟨h1,h2⟩:=rV ws v (λu hu=>hw u (List.mem_cons_of_mem _ hu)) (λy hy=>hx y (List.mem_cons_of_mem _ hy));by_cases e:x=0
  ·rw[aU,if_pos e];exact⟨by simp;omega,h2⟩
  ·rw[aU,if_neg e];refine⟨by simp;omega,λt ht=>?_⟩;rcases List.mem_cons.1 ht with y|y
   ·obtain⟨i1,i2⟩:=OX (hx x (List.mem_cons_self ..));obtain⟨w1,w2⟩:=hw w (List.mem_cons_self ..);rw[y];refine⟨by rw[List.length_append,List.length_cons];omega,λc hc=>?_⟩;rcases List.mem_append.1 hc with z|z
    ·exact w2 c z
    ·rcases List.mem_cons.1 z with q|q
     ·rw[q];decide
     ·exact i2 c q
   ·exact h2 t y
theorem Lu:∀w∈dO,w.length<=7/\∀c∈w,33<=c.toNat:=by decide
theorem LC:∀w∈dO,(61:UInt8)∉w:=by decide
theorem BN:dO.Nodup:=by decide
theorem Tz {p:dN}(h:bT p=0):(∀t∈kL p,(32:UInt8)∉t)/\(rQ p).size<=1024:=by
 obtain⟨h1,h2,h3,h4,h5,h6⟩:=rP h;obtain⟨n1,n2⟩:=GL h1;have hf:=zQ h4;have hv:∀x∈p.v,0<=x/\x<=100000:=λx hx=>by
  obtain⟨q,m,hm,hl⟩:=(rU h6).2 x hx;have:=Jp m hm;omega
 obtain⟨w1,w2⟩:=rV dO p.v Lu hv;have hj:∀c∈glue 44 (p.f.map (·.data.toList)),33<=c.toNat:=λc hc=>by
  rcases wB 44 _ c hc with y|⟨t,ht,hct⟩
  ·rw[y];decide
  ·obtain⟨f,Jq,rfl⟩:=List.mem_map.1 ht;exact(xI (hf f Jq)).2 c hct
 have no:∀{t:List UInt8},(∀c∈t,33<=c.toNat)->(32:UInt8)∉t:=λht z=>by
  have:=ht _ z;simp at this
 constructor
 ·intro t ht;unfold kL at ht;rcases List.mem_cons.1 ht with y|y
  ·rw[y];exact no n2
  ·rcases List.mem_cons.1 y with z|z
   ·rw[z];exact no hj
   ·exact no (w2 t z).2
 ·have hjl:(glue 44 (p.f.map (·.data.toList))).length<=548:=by
   have:=qP 44 136 (p.f.map (·.data.toList)) (λt ht=>by
    obtain⟨f,Jq,rfl⟩:=List.mem_map.1 ht;have:=(xI (hf f Jq)).1;simpa using this)
   rw[List.length_map] at this;omega
  have hw:=qP 32 14 _ (λt ht=>(w2 t ht).1);have hl8:dO.length=8:=rfl;have hstep:∀(t:List UInt8) (ts:List (List UInt8)),(glue 32 (t::ts)).length<=t.length+1+(glue 32 ts).length:=λt ts=>by
   cases ts with
   | nil=>simp[glue]
   | cons u us=>rw[fE 32 t (by simp),List.length_append,List.length_cons];omega
  have s1:=hstep p.n.data.toList (glue 44 (p.f.map (·.data.toList))::aU dO p.v);have s2:=hstep (glue 44 (p.f.map (·.data.toList))) (aU dO p.v);have e:(rQ p).size=(glue 32 (kL p)).length:=by
   show(glue 32 (kL p)).toArray.size=_;simp
  have en:p.n.data.toList.length=p.n.size:=by simp
  rw[e];unfold kL;omega
theorem VY {p:dN}(h:bT p=0)(hc:commas p=false):xG (rQ p)=(p,0):=by
 obtain⟨h1,h2,h3,h4,h5,h6⟩:=rP h;obtain⟨t1,t2⟩:=Tz h;have hcut:cut 32 (rQ p).data.toList=kL p:=by
  have e:(rQ p).data.toList=glue 32 (kL p):=by simp[rQ]
  rw[e];exact qO 32 _ (by unfold kL;simp) t1
 have hfc:cut 44 (glue 44 (p.f.map (·.data.toList)))=p.f.map (·.data.toList):=by
  refine qO 44 _ (λz=>h3 (by simpa using congrArg List.length z)) (λt ht=>?_);obtain⟨f,hf,rfl⟩:=List.mem_map.1 ht;unfold commas at hc;rw[List.any_eq_false] at hc;have:=hc f hf;simpa using this
 have hfm:(cut 44 (glue 44 (p.f.map (·.data.toList)))).map bs=p.f:=by
  rw[hfc,List.map_map];conv=>rhs;rw[<-List.map_id p.f]
  exact List.map_congr_left (λf _=>BM f)
 have hv:∀x∈p.v,0<=x/\x<1000000000:=λx hx=>by
  obtain⟨q,m,hm,hl⟩:=(rU h6).2 x hx;have:=Jp m hm;omega
 have hr:=Ez dO p.v BN LC ((rU h6).1) hv;unfold xG;rw[if_neg (by omega),hcut];unfold kL;simp only[hr,hfm,BM];rw[if_pos h]
theorem VZ {s:ByteArray}{x:dN}(h:xG s=(x,0)):bT x=0/\commas x=false/\rQ x=s:=by
 unfold xG at h;split at h
 ·cases h
 ·cases hc:cut 32 s.data.toList with
  | nil=>exact absurd hc (nD 32 _)
  | cons n r =>
   rw[hc] at h
   cases r with
   | nil=>cases h
   | cons f ts =>
    simp only at h
    cases hr:Dp dO ts with
    | none=>rw[hr] at h;cases h
    | some v =>
     rw[hr] at h;simp only at h;by_cases he:bT ⟨bs n,(cut 44 f).map bs,v⟩=0
     ·rw[if_pos he] at h;have hx:=(Prod.mk.inj h).1;subst hx;refine⟨he,?_,?_⟩
      ·unfold commas;rw[List.any_eq_false];intro g hg;obtain⟨t,ht,rfl⟩:=List.mem_map.1 hg;rw[vP];simpa using qM 44 f t ht
      ·have e1:((cut 44 f).map bs).map (·.data.toList)=cut 44 f:=by
        rw[List.map_map];conv=>rhs;rw[<-List.map_id (cut 44 f)]
        exact List.map_congr_left (λt _=>vP t)
       have e2:kL ⟨bs n,(cut 44 f).map bs,v⟩=cut 32 s.data.toList:=by
        unfold kL;simp only[e1,qN,vP,(vO dO ts hr).1,hc]
       unfold rQ;rw[e2,qN]
     ·rw[if_neg he] at h;exact absurd (Prod.mk.inj h).2 he
theorem XT {s:ByteArray}(h:(xG s).2≠0):(xG s).1=Ew:=by
 unfold xG at h ⊢;split
 ·rfl
 ·rename_i hs;rw[if_neg hs] at h
  cases hc:cut 32 s.data.toList with
  | nil=>rfl
  | cons n r =>
   rw[hc] at h
   cases r with
   | nil=>rfl
   | cons f ts =>
    simp only at h ⊢
    cases hr:Dp dO ts with
    | none=>rfl
    | some v =>
     rw[hr] at h;simp only at h ⊢;by_cases he:bT ⟨bs n,(cut 44 f).map bs,v⟩=0
     ·rw[if_pos he] at h;exact absurd rfl h
     ·rw[if_neg he]
def BO:dN:=⟨⟨#[115]⟩,[⟨#[97,46,62]⟩,⟨#[98]⟩],[0,0,0,3,0,0,0,0]⟩
theorem Zv:bT BO=0/\commas BO=false:=by decide +kernel
theorem XU:rQ BO=⟨#[115,32,97,46,62,44,98,32,112,101,114,61,51]⟩:=by decide +kernel
theorem BP (f:ByteArray)(r:List ByteArray):tk (f::r) 0=f:=rfl
theorem BR (f:ByteArray)(r:List ByteArray)(k:Nat):tk (f::r) (k+1)=tk r k:=rfl
theorem Vh {l:List ByteArray}{k:Nat}(h:k<l.length):tk l k=l[k]:=by
 unfold tk;rw[List.getElem?_eq_getElem h];rfl
theorem XV {l:List ByteArray}{k:Nat}(h:k<l.length):tk l k∈l:=by
 rw[Vh h];exact List.getElem_mem h
theorem xJ:∀l:List ByteArray,laps l=true↔∃i j,j<i/\i<l.length/\bC (Pl.toks (tk l i)) (Pl.toks (tk l j))=true
 | []=>by
  constructor
  ·intro h;cases h
  ·rintro ⟨i,j,_,h,_⟩;simp at h
 | f::r=>by
  have ih:=xJ r;rw[laps,Bool.or_eq_true,ih,List.any_eq_true];constructor
  ·rintro (⟨g,hg,hm⟩|⟨i,j,h1,h2,h3⟩)
   ·obtain⟨k,hk,rfl⟩:=List.mem_iff_getElem.1 hg;refine⟨k+1,0,by omega,by simpa using hk,?_⟩;rw[BR,BP,Vh hk,qy];exact hm
   ·exact⟨i+1,j+1,by omega,by simpa using h2,h3⟩
  ·rintro ⟨i,j,h1,h2,h3⟩;obtain⟨i,rfl⟩:∃k,i=k+1:=⟨i-1,by omega⟩;have hi:i<r.length:=by simpa using h2
   cases j with
   | zero =>
    left;refine⟨tk r i,XV hi,?_⟩;rw[qy];exact h3
   | succ j=>exact Or.inr ⟨i,j,by omega,hi,h3⟩
def dD (l:List ByteArray):Int:=if 4<l.length then 2 else if l.length=0 then 1 else if eG l≠0 then eG l else if laps l=true then 10 else 0
theorem BU {p:dN}(h:bD p.n=true):bT p=if dD p.f≠0 then dD p.f else if fJ p.v dB=true then 0 else 1:=by
 unfold bT dD;rw[if_neg (by rw[h];simp)];by_cases h2:4<p.f.length
 ·rw[if_pos h2,if_pos h2];rfl
 ·rw[if_neg h2,if_neg h2];by_cases h3:p.f.length=0
  ·rw[if_pos h3,if_pos h3];rfl
  ·rw[if_neg h3,if_neg h3];by_cases h4:eG p.f≠0
   ·rw[if_pos h4,if_pos h4,if_pos h4]
   ·rw[if_neg h4,if_neg h4];by_cases h5:laps p.f=true
    ·rw[if_pos h5,if_pos h5];rfl
    ·rw[if_neg h5,if_neg h5,if_neg (show ¬(0:Int)≠0 by decide)]
theorem V5 {l:List ByteArray}(h:dD l=0):l.length<=4/\l.length≠0/\eG l=0/\laps l=false:=by
 unfold dD at h;by_cases h2:4<l.length
 ·rw[if_pos h2] at h;cases h
 ·rw[if_neg h2] at h;by_cases h3:l.length=0
  ·rw[if_pos h3] at h;cases h
  ·rw[if_neg h3] at h;by_cases h4:eG l≠0
   ·rw[if_pos h4] at h;exact absurd h h4
   ·rw[if_neg h4] at h;by_cases h5:laps l=true
    ·rw[if_pos h5] at h;cases h
    ·exact⟨by omega,h3,Classical.not_not.1 h4,by simpa using h5⟩
def OY (l:List UInt8):Bool:=l.all fO&&(decide (1<=l.length)&&(decide (l.length<=9)&&decide (l.head?≠some 48)))
theorem OZ {l:List UInt8}(h:OY l=true):1<=gW l/\gW l=(iF l:Int)/\l.length<=9/\l≠[]/\∀c∈l,fO c=true:=by
 unfold OY at h;simp only[Bool.and_eq_true,decide_eq_true_eq,List.all_eq_true] at h;obtain⟨h1,h2,h3,h4⟩:=h;have hne:l≠[]:=by intro e;rw[e] at h2;simp at h2
 have e:gW l=(iF l:Int):=by
  unfold gW;rw[if_pos ⟨by rw[List.take_of_length_le (by omega),List.all_eq_true];exact h1,h2,h3,λq=>h4 q.1⟩]
 refine⟨?_,e,h3,hne,h1⟩;rw[e];have:=IJ h1 hne h4;omega
theorem YV {l:List UInt8}(h:OY l=false):gW l<1:=by
 unfold gW;by_cases q:(l.take 10).all fO=true/\1<=l.length/\l.length<=9/\¬(l.head?=some 48/\l≠[48])
 ·obtain⟨q1,q2,q3,q4⟩:=q;rw[if_pos ⟨q1,q2,q3,q4⟩];rw[List.take_of_length_le (by omega)] at q1;unfold OY at h;rw[q1,decide_eq_true q2,decide_eq_true q3] at h;have hh:l.head?=some 48:=by simpa using h
  have hl:l=[48]:=Classical.byContradiction (λx=>q4 ⟨hh,x⟩);rw[hl];decide
 ·rw[if_neg q];decide
theorem uO:∀(l:List UInt8) (a:Nat),(∀c∈l,fO c=true)->Lib.decFrom a l=some (l.foldl (λn c=>n*10+(c.toNat-48)) a)
 | [],a,_=>rfl
 | c::r,a,h=>by
  have hc:=h c (by simp);unfold fO at hc;simp only[Bool.and_eq_true,decide_eq_true_eq] at hc;rw[Lib.decFrom,Lib.digitVal,if_pos ⟨hc.1,hc.2⟩];exact uO r _ (λx hx=>h x (by simp[hx]))
theorem O0 {l:List UInt8}(hne:l≠[])(h:∀c∈l,fO c=true):Lib.atoi l=some (iF l:Int):=by
 cases l with
 | nil=>exact absurd rfl hne
 | cons c r =>
  have hc:=h c (by simp);unfold fO at hc;simp only[Bool.and_eq_true,decide_eq_true_eq] at hc;have n45:¬(c==45)=true:=by
   intro e;rw[beq_iff_eq] at e;subst e;simp at hc
  have n43:¬(c==43)=true:=by
   intro e;rw[beq_iff_eq] at e;subst e;simp at hc
  rw[Lib.atoi,if_neg n45,if_neg n43,Lib.decNat,if_neg (by simp),uO _ _ h];rfl
theorem Xb {l:List UInt8}(h:OY l=true):Lib.atoi l=some (gW l):=by
 obtain⟨_,e,_,hne,hd⟩:=OZ h;rw[e,O0 hne hd]
theorem LD (b:UInt8):∀ts:List (List UInt8),Lib.join ts [b]=glue b ts
 | []=>rfl
 | [t]=>by simp[Lib.join,List.intercalate,glue]
 | t::u::r=>by
  have ih:=LD b (u::r);rw[fE b t (by simp),<-ih];simp[Lib.join,List.intercalate]
theorem Vj (f:ByteArray):decide (0<=Lib.indexByte f.data.toList 44)=f.data.toList.contains 44:=(Lib.contains_iff_indexByte _ _).symm
end Go.Proofs.YtophdoapcdjnjaaGreatDoor.Pn
namespace Go.Proofs.YtophdoapcdjnjaaGreatDoor
open Go.RowKit Go.Proofs.Tryz
def GN (c:Int):Bool:=decide (48<=c)&&decide (c<=57)
def EC (c:Int):Bool:=(decide (97<=c)&&decide (c<=122))||(GN c||decide (c=45))
theorem Xc (c:UInt8):GN (c.toNat:Int)=Pn.fO c:=by
 unfold GN Pn.fO;rw[Bool.eq_iff_iff];simp;omega
theorem xK (c:UInt8):EC (c.toNat:Int)=Pn.nameB c:=by
 unfold EC Pn.nameB GN;rw[Bool.eq_iff_iff];simp;omega
theorem LH (c:Int)(w:World) :
 Calls prog 117 #[.int .u8 c] w λe w'=>e=.returned (.bool (GN c))/\w'=w:=by
 go_enter func117,ntmps117;go_wp2;all_goals go_ret
 all_goals refine⟨iZ ?_,rfl⟩
 all_goals simp[GN]
 all_goals omega
theorem rW (c:Int)(w:World) :
 Calls prog 86 #[.int .u8 c] w λe w'=>e=.returned (.bool (EC c))/\w'=w:=by
 have HD:=aj (LH c);go_enter func86,ntmps86;go_wp2_with (go_at_call 117;refine(ah HD _).mono ?_;rintro e w' ⟨rfl,rfl⟩);all_goals go_ret
 all_goals refine⟨iZ ?_,rfl⟩
 all_goals simp_all [EC,GN]
 all_goals omega
theorem xM {s:ByteArray}(h:s.size<1\/16<s.size):Pn.bD s=false:=by
 unfold Pn.bD;rcases h with h|h
 ·rw[decide_eq_false (p:=1<=s.size) (by omega)];simp
 ·rw[decide_eq_false (p:=s.size<=16) (by omega)];simp
theorem O1 {s:ByteArray}(h1:1<=s.size)(h2:s.size<=16)(h:mD s s.size=true):Pn.bD s=true:=by
 rw[named_ok h];simp;omega
theorem xO (s:ByteArray)(w:World)(hs:s.size<=140737488355328) :
 Calls prog 54 #[.string s] w λe w'=>e=.returned (.bool (Pn.bD s))/\w'=w:=by
 by_cases h1:s.size<1
 ·go_enter func54,ntmps54;go_wp2;go_ret;exact⟨iE (xM (Or.inl h1)),rfl⟩
 by_cases h2:16<s.size
 ·go_enter func54,ntmps54;go_wp2;go_ret;exact⟨iE (xM (Or.inr h2)),rfl⟩
 go_enter func54,ntmps54;go_wp2;go_loop [14] (λi=>∃k:Nat,k<=s.size/\i=.int .i64 k/\Hid (mD s k=true)) (λi=>s.size-(intOf i).toNat)
 case atStart=>exact⟨0,Nat.zero_le _,rfl,aj rfl⟩
 case round =>
  obtain⟨k,hk,rfl,hq⟩:=hrel;by_cases hlt:k<s.size
  ·cases ht:EC (s[k].toNat:Int) with
   | false =>
    have Ht:=aj ht;clear ht;go_wp2_with (go_at_call 86;refine(rW _ _).mono ?_;rintro e w' ⟨rfl,rfl⟩;rw[ah Ht]);go_ret;exact⟨iE (Lr hlt (by rw[<-xK];exact ah Ht)),rfl⟩
   | true =>
    have Ht:=aj ht;clear ht;go_wp2_with (go_at_call 86;refine(rW _ _).mono ?_;rintro e w' ⟨rfl,rfl⟩;rw[ah Ht]);go_round
    case rel=>exact⟨k+1,by omega,by go_num,aj (by rw[BL hlt,ah hq,<-xK,ah Ht];rfl)⟩
    case measure=>simp[intOf];omega
  ·obtain rfl:k=s.size:=by omega
   go_wp2;go_ret;exact⟨iE (O1 (by omega) (by omega) (ah hq)),rfl⟩
def Vk (w wr:World)(a:Option Addr)(l:List ByteArray):Prop:=jg wr a l/\Below w.heap.size w wr
theorem Vk.next {w wr w':World}{a:Option Addr}{l:List ByteArray}(h:Vk w wr a l)(hb:Below wr.heap.size wr w'):Vk w w' a l:=⟨h.1.next hb,aA h.2 hb⟩
def Apart (l:List ByteArray)(i:Nat):Prop:=∀i',i'<i->∀j,j<i'->bC (Pl.toks (tk l i')) (Pl.toks (tk l j))=false
theorem LJ {l:List ByteArray}(h:Apart l l.length):Pn.laps l=false:=by
 rw[Bool.eq_false_iff];intro q;obtain⟨i,j,h1,h2,h3⟩:=(Pn.xJ l).1 q;rw[h i h2 j h1] at h3
 cases h3
theorem BZ {f g:ByteArray}(hf:aB true f=0)(hg:aB true g=0):aZ f g=bC (Pl.toks f) (Pl.toks g):=by
 unfold aZ;rw[hf,hg];rfl
theorem O3 (a:Option Addr)(l:List ByteArray)(c:Nat)(w:World)(hsl:jg w a l)(hz:∀k,k<l.length->(tk l k).size<=140737488355328)(hok:∀k,k<l.length->aB true (tk l k)=0)(hl:l.length<=4)(hc:l.length<=c) :
 Calls prog 100 #[.slice a l.length c] w λe w'=>e=.returned (.bool (Pn.laps l))/\Below w.heap.size w w':=by
 have HZ:=aj hz;have HOk:=aj hok;have HS:Hid (Vk w w a l):=aj ⟨hsl,Below.refl _ _⟩;clear hz hok hsl;go_enter func100,ntmps100;go_wp2_with fail;go_loopw [11] (λiv wr=>∃(i:Nat),iv=.int .i64 i/\i<=l.length/\Hid (Apart l i)/\Hid (Vk w wr a l)) (λiv _=>l.length-(intOf iv).toNat)
 case atStart=>exact⟨0,rfl,Nat.zero_le _,aj (λi' h=>by omega),HS⟩
 case round =>
  clear HS;obtain⟨i,rfl,hi,HA,HS⟩:=hrel;by_cases hlt:i<l.length
  ·obtain⟨ba,o,rfl,_,e1⟩:=(ah HS).1 i hlt;go_wp2_with fail;clear e1;go_loopw [20] (λkv wr=>∃(k:Nat),kv=.int .i64 k/\k<=i/\Hid (∀j,j<k->bC (Pl.toks (tk l i)) (Pl.toks (tk l j))=false)/\Hid (Vk w wr (some ⟨ba,o,none⟩) l)) (λkv _=>i-(intOf kv).toNat)
   case atStart=>exact⟨0,rfl,Nat.zero_le _,aj (λj h=>by omega),HS⟩
   case round =>
    clear HS;obtain⟨k,rfl,hk,HK,HS⟩:=hrel;by_cases hki:k<i
    ·obtain⟨ba',o',eq,_,e1⟩:=(ah HS).1 k (by omega)
     cases eq
     have hf:=ah HOk i hlt;have hg:=ah HOk k (by omega);obtain⟨M,hM⟩:∃M,bC (Pl.toks (tk l i)) (Pl.toks (tk l k))=M:=⟨_,rfl⟩;have PO:=aj (Gw (f:=tk l i) (s:=tk l k) (a:=M) (x:=0) (by rw[BZ hf hg];exact hM) (by rw[hf,hg];rfl) (ah HZ i hlt) (ah HZ k (by omega)) wr);have HM:=aj hM;have HN:=aj (λ(w':World) (h:Below wr.heap.size wr w')=>(ah HS).next h);clear hf hg hM
     cases M with
     | true =>
      have HR:Hid (Pn.laps l=true):=aj ((Pn.xJ l).2 ⟨i,k,hki,hlt,ah HM⟩);go_wp2_with (go_at_call 125;refine(ah PO).mono ?_;rintro e w4 ⟨rfl,b4⟩;have Q4:=ah HN w4 b4);go_ret;rw[ah HR];exact⟨rfl,Q4.2⟩
     | false =>
      have TD:Hid (∀j,j<k+1->bC (Pl.toks (tk l i)) (Pl.toks (tk l j))=false):=aj (λj hj=>by
       by_cases e:j=k
       ·rw[e];exact ah HM
       ·exact ah HK j (by omega))
      clear HM HK;go_wp2_with (go_at_call 125;refine(ah PO).mono ?_;rintro e w4 ⟨rfl,b4⟩;have Q4:=aj (ah HN w4 b4);clear b4);refine⟨⟨k+1,by go_num,by omega,TD,Q4⟩,?_⟩;simp[intOf];omega
    ·obtain rfl:k=i:=by omega
     have HA2:Hid (Apart l (k+1)):=aj (λi' hi' j hj=>by
      by_cases e:i'=k
      ·subst e;exact ah HK j hj
      ·exact ah HA i' (by omega) j hj)
     clear HA HK;go_wp2_with fail;refine⟨⟨k+1,by go_num,by omega,HA2,HS⟩,?_⟩;simp[intOf];omega
  ·obtain rfl:i=l.length:=by omega
   have HR:=aj (LJ (ah HA));go_wp2_with fail;go_ret;rw[ah HR];exact⟨rfl,(ah HS).2⟩
theorem ED (a:Option Addr)(l:List ByteArray)(c:Nat)(w:World)(hsl:jg w a l)(hz:∀k,k<l.length->(tk l k).size<=140737488355328)(hl:l.length<=140737488355328)(hc:l.length<=c) :
 Calls prog 72 #[.slice a l.length c] w λe w'=>e=.returned (.int .i64 (Pn.dD l))/\Below w.heap.size w w':=by
 have HZ:=aj hz;have HS:Hid (Vk w w a l):=aj ⟨hsl,Below.refl _ _⟩;clear hz hsl;by_cases h4:4<l.length
 ·have HR:Hid (Pn.dD l=2):=aj (by unfold Pn.dD;rw[if_pos h4]);have g4:decide ((4:Int)<(l.length:Int))=true:=decide_eq_true (by omega);go_enter func72,ntmps72;go_wp2_with fail;go_ret;rw[ah HR];exact⟨rfl,(ah HS).2⟩
 have g4:decide ((4:Int)<(l.length:Int))=false:=decide_eq_false (by omega);by_cases h0:l.length=0
 ·have HR:Hid (Pn.dD l=1):=aj (by unfold Pn.dD;rw[if_neg h4,if_pos h0]);have g0:((l.length:Int)==0)=true:=by rw[beq_iff_eq];omega
  go_enter func72,ntmps72;go_wp2_with fail;go_ret;rw[ah HR];exact⟨rfl,(ah HS).2⟩
 have g0:((l.length:Int)==0)=false:=by rw[beq_eq_false_iff_ne];omega
 have HE:Hid (Pn.dD l=if Pn.eG l≠0 then Pn.eG l else if Pn.laps l=true then 10 else 0):=aj (by unfold Pn.dD;rw[if_neg h4,if_neg h0]);go_enter func72,ntmps72;go_wp2_with fail;go_loopw [14] (λiv wr=>∃(i:Nat),iv=.int .i64 i/\i<=l.length/\Hid (Pn.eG l=Pn.eG (l.drop i)/\∀k,k<i->aB true (tk l k)=0)/\Hid (Vk w wr a l)) (λiv _=>l.length-(intOf iv).toNat)
 case atStart=>exact⟨0,rfl,Nat.zero_le _,aj ⟨rfl,λk hk=>by omega⟩,HS⟩
 case round =>
  clear HS;obtain⟨i,rfl,hi,HF,HS⟩:=hrel;by_cases hlt:i<l.length
  ·obtain⟨ba,o,rfl,_,e1⟩:=(ah HS).1 i hlt;obtain⟨E,hE⟩:∃E,aB true (tk l i)=E:=⟨_,rfl⟩;have PF:=aj (Lc hE wr (ah HZ i hlt));have Xd:=aj hE;have HN:=aj (λ(w':World) (h:Below wr.heap.size wr w')=>(ah HS).next h);clear hE;by_cases hE0:E=0
   ·have HF2:Hid (Pn.eG l=Pn.eG (l.drop (i+1))/\∀k,k<i+1->aB true (tk l k)=0):=aj ⟨by rw[(ah HF).1,Pn.xH hlt,if_pos (by rw[ah Xd];exact hE0)],λk hk=>by
     by_cases e:k=i
     ·rw[e,ah Xd];exact hE0
     ·exact(ah HF).2 k (by omega)⟩
    subst hE0;clear HF Xd;go_wp2_with (go_at_call 41;refine(ah PF).mono ?_;rintro e w4 ⟨rfl,b4⟩;have Q4:=aj (ah HN w4 b4);clear b4);refine⟨⟨i+1,by go_num,by omega,HF2,Q4⟩,?_⟩;simp[intOf];omega
   ·have HR:Hid (Pn.dD l=E):=aj (by
     have e1:Pn.eG l=E:=by rw[(ah HF).1,Pn.xH hlt,if_neg (by rw[ah Xd];exact hE0),ah Xd]
     rw[ah HE,e1,if_pos hE0])
    have hE':(E !=0)=true:=by simpa using hE0
    clear HF Xd;go_wp2_with (go_at_call 41;refine(ah PF).mono ?_;rintro e w4 ⟨rfl,b4⟩;have Q4:=ah HN w4 b4);go_ret;rw[ah HR];exact⟨rfl,Q4.2⟩
  ·obtain rfl:i=l.length:=by omega
   have PL:=aj (O3 a l c wr (ah HS).1 (ah HZ) (ah HF).2 (by omega) hc);have HE2:Hid (Pn.dD l=if Pn.laps l=true then 10 else 0):=aj (by
    have e1:Pn.eG l=0:=by rw[(ah HF).1,List.drop_length];rfl
    rw[ah HE,e1,if_neg (show ¬(0:Int)≠0 by decide)])
   have HN:=aj (λ(w':World) (h:Below wr.heap.size wr w')=>(ah HS).next h);clear HF HE hlt
   cases hP:Pn.laps l with
   | true =>
    rw[hP] at PL HE2;clear hP;go_wp2_with (go_at_call 100;refine(ah PL).mono ?_;rintro e w4 ⟨rfl,b4⟩;have Q4:=ah HN w4 b4);go_ret;rw[ah HE2];exact⟨rfl,Q4.2⟩
   | false =>
    rw[hP] at PL HE2;clear hP;go_wp2_with (go_at_call 100;refine(ah PL).mono ?_;rintro e w4 ⟨rfl,b4⟩;have Q4:=ah HN w4 b4);go_ret;rw[ah HE2];exact⟨rfl,Q4.2⟩
theorem zT {w:World}{b:Nat}{n:ByteArray}{a:Option Addr}{l c:Nat}{x0 x1 x2 x3 x4 x5 x6 x7:Int}(r:PB w b n a l c x0 x1 x2 x3 x4 x5 x6 x7) :
 (loadVar 52 ⟨b,0,none⟩).run prog w=.ok (.agg #[.string n,.slice a l c,.int .i64 x0,.int .i64 x1,.int .i64 x2,.int .i64 x3,.int .i64 x4,.int .i64 x5,.int .i64 x6,.int .i64 x7]) w:=by
 have hl:(loadCells ⟨b,0,none⟩ 10).run prog w=.ok #[.string n,.slice a l c,.int .i64 x0,.int .i64 x1,.int .i64 x2,.int .i64 x3,.int .i64 x4,.int .i64 x5,.int .i64 x6,.int .i64 x7] w :=
  run_loadCells_list (P:=prog) w ⟨b,0,none⟩ [.string n,.slice a l c,.int .i64 x0,.int .i64 x1,.int .i64 x2,.int .i64 x3,.int .i64 x4,.int .i64 x5,.int .i64 x6,.int .i64 x7] (λj v hv=>by
   rw[NZ,Nat.zero_add];match j,hv with
   | 0,hv=>rw[r.c0];simpa using hv
   | 1,hv=>rw[r.c1];simpa using hv
   | 2,hv=>rw[r.c2];simpa using hv
   | 3,hv=>rw[r.c3];simpa using hv
   | 4,hv=>rw[r.c4];simpa using hv
   | 5,hv=>rw[r.c5];simpa using hv
   | 6,hv=>rw[r.c6];simpa using hv
   | 7,hv=>rw[r.c7];simpa using hv
   | 8,hv=>rw[r.c8];simpa using hv
   | 9,hv=>rw[r.c9];simpa using hv)
 have hz:Tryz.t52.size=10:=by kernel_rfl
 simp[loadVar,isAgg,sizeOf];rw[hz,hl];rfl
theorem Rn {fn:Func}{t u:Tmp}{tmps:Array Value}{w:World}{b:Nat}{n:ByteArray}{a:Option Addr}{l c:Nat}{x0 x1 x2 x3 x4 x5 x6 x7:Int}(hf:fn.results=#[.cell t 52,.tmp u])(ha:tmps.getD t undef=.pointer (some ⟨b,0,none⟩))(r:PB w b n a l c x0 x1 x2 x3 x4 x5 x6 x7) :
 (results fn tmps).run prog w=.ok (.tuple #[.agg #[.string n,.slice a l c,.int .i64 x0,.int .i64 x1,.int .i64 x2,.int .i64 x3,.int .i64 x4,.int .i64 x5,.int .i64 x6,.int .i64 x7],tmps.getD u undef]) w:=by
 have ha':tmps[t]?.getD undef=.pointer (some ⟨b,0,none⟩):=by simpa using ha
 simp[results,hf,ha',asAddr,zT r]
theorem PB.puts {W:World}{b:Nat}{n':ByteArray}{a':Option Addr}{l' c':Nat}{z0 z1 z2 z3 z4 z5 z6 z7:Int}(h:PB W b n' a' l' c' z0 z1 z2 z3 z4 z5 z6 z7)(n:ByteArray)(a:Option Addr)(l c:Nat)(x0 x1 x2 x3 x4 x5 x6 x7:Int):PB ((((((((((W.setCell ⟨b,0,none⟩ (.string n)).setCell ⟨b,1,none⟩ (.slice a l c)).setCell ⟨b,2,none⟩ (.int .i64 x0)).setCell ⟨b,3,none⟩ (.int .i64 x1)).setCell ⟨b,4,none⟩ (.int .i64 x2)).setCell ⟨b,5,none⟩ (.int .i64 x3)).setCell ⟨b,6,none⟩ (.int .i64 x4)).setCell ⟨b,7,none⟩ (.int .i64 x5)).setCell ⟨b,8,none⟩ (.int .i64 x6)).setCell ⟨b,9,none⟩ (.int .i64 x7)) b n a l c x0 x1 x2 x3 x4 x5 x6 x7:=by
 have key:=(sQ b [.string n,.slice a l c,.int .i64 x0,.int .i64 x1,.int .i64 x2,.int .i64 x3,.int .i64 x4,.int .i64 x5,.int .i64 x6,.int .i64 x7] W 0 (λj hj=>by
  have:j<10:=hj;rw[Nat.zero_add];rcases j with _|_|_|_|_|_|_|_|_|_|j
  ·rw[h.c0];rfl
  ·rw[h.c1];rfl
  ·rw[h.c2];rfl
  ·rw[h.c3];rfl
  ·rw[h.c4];rfl
  ·rw[h.c5];rfl
  ·rw[h.c6];rfl
  ·rw[h.c7];rfl
  ·rw[h.c8];rfl
  ·rw[h.c9];rfl
  ·omega)).1
 have hsz:=oH b [.string n,.slice a l c,.int .i64 x0,.int .i64 x1,.int .i64 x2,.int .i64 x3,.int .i64 x4,.int .i64 x5,.int .i64 x6,.int .i64 x7] W 0;refine⟨Nat.lt_of_lt_of_eq h.lt hsz.symm,key 0 (by simp),key 1 (by simp),key 2 (by simp),key 3 (by simp),key 4 (by simp),key 5 (by simp),key 6 (by simp),key 7 (by simp),key 8 (by simp),key 9 (by simp)⟩
end Go.Proofs.YtophdoapcdjnjaaGreatDoor
namespace Go.Proofs.YtophdoapcdjnjaaGreatDoor
open Go Go.Proofs.Tryz
def wd (i:Nat):ByteArray:=Pn.bs ((Pn.dO[i]?).getD [])
namespace Pn
open Go.Proofs.Tryz
theorem Vl {v:List Int}(h8:v.length=8){i:Nat}(hi:i<8):aU (dO.take (i+1)) (v.take (i+1))=aU (dO.take i) (v.take i)++(if Dk.nth v i=0 then [] else [(wd i).data.toList++61::Lib.itoa (Dk.nth v i)]):=by
 have key:∀(ws:List (List UInt8)) (v:List Int) (i:Nat),i<ws.length->i<v.length->aU (ws.take (i+1)) (v.take (i+1))=aU (ws.take i) (v.take i)++(if Dk.nth v i=0 then [] else [(ws[i]?).getD []++61::Lib.itoa (Dk.nth v i)]):=by
  intro ws;induction ws with
  | nil=>intro v i h;simp at h
  | cons w ws ih =>
   intro v i h1 h2
   cases v with
   | nil=>simp at h2
   | cons x v =>
    cases i with
    | zero =>
     simp only[List.take_succ_cons,List.take_zero,aU,Dk.nth];by_cases e:x=0
     ·simp[e]
     ·simp[e]
    | succ i =>
     have:=ih v i (by simpa using h1) (by simpa using h2);simp only[List.take_succ_cons,aU];have en:Dk.nth (x::v) (i+1)=Dk.nth v i:=rfl;rw[en,this];by_cases e:x=0
     ·rw[if_pos e,if_pos e];simp
     ·rw[if_neg e,if_neg e];simp
 have:=key dO v i hi (by omega);rw[this];unfold wd;rw[vP]
theorem Xe (f:ByteArray):f.data.toList.contains 44=decide (1<(cut 44 f.data.toList).length):=by
 rw[qg,Bool.eq_iff_iff,decide_eq_true_eq,List.contains_iff_mem,<-List.count_pos_iff];omega
theorem Zw {v:List Int}{i:Nat}(h:i<v.length):Dk.nth v i∈v:=by unfold Dk.nth;rw[List.getElem?_eq_getElem h];exact List.getElem_mem h
end Pn
end Go.Proofs.YtophdoapcdjnjaaGreatDoor
namespace Go.Proofs.YtophdoapcdjnjaaGreatDoor.Dk
open Go.RowKit Go.Proofs.Tryz
structure aX where
 l:List Rc
 last:Int
def lM (f s:ByteArray):Bool:=aN (Pl.toks f) (Pl.toks s)
def dP (l:List Rc)(s:ByteArray):Bool:=l.any λr=>decide (r.s=s)
def eH:List Rc->Nat
 | []=>0
 | r::l=>eH l+(if dP l r.s then 0 else 1)
def seqB (l:List Rc)(n:Int):Bool:=l.any λr=>decide (r.q=n)
def dG (s:aX)(r:Rc):Int :=
 if dJ r≠0 then dJ r
 else if r.k=2/\seqB s.l r.q=false then 4
 else if r.k≠1 then 0
 else if r.q<=s.last then 9
 else if 200<=s.l.length\/(dP s.l r.s=false/\100<=eH s.l) then 8
 else 0
def Jr (r x:Rc):Bool:=(decide (r.k=2)&&decide (x.q=r.q))||(decide (r.k=3)&&(decide (x.q<r.q)&&lM r.s x.s))
def jF (s:aX)(r:Rc):aX :=
 if dG s r≠0 then s
 else if r.k=1 then ⟨s.l++[r],r.q⟩
 else if r.k=4 then ⟨s.l,max s.last r.q⟩
 else ⟨s.l.filter (λx=>!Jr r x),s.last⟩
structure aX.Ok (s:aX):Prop where
 rise:s.l.Pairwise λa b=>a.q<b.q
 msg:∀x∈s.l,x.k=1/\dJ x=0
 low:∀x∈s.l,x.q<=s.last
 last:0<=s.last/\s.last<=1099511627776
 few:s.l.length<=200
 names:eH s.l<=100
theorem uP (a b:List Rc)(s:ByteArray):dP (a++b) s=(dP a s||dP b s):=by unfold dP;rw[List.any_append]
theorem mF:∀(l:List Rc) (r:Rc),eH (l++[r])=eH l+(if dP l r.s then 0 else 1)
 | [],r=>by simp[eH,dP]
 | x::l,r=>by
  rw[List.cons_append,eH,eH,mF l r,uP];have e:dP [r] x.s=decide (r.s=x.s):=by simp[dP]
  have e2:dP (x::l) r.s=(decide (x.s=r.s)||dP l r.s):=by simp[dP]
  rw[e,e2];by_cases h:x.s=r.s
  ·have h':r.s=x.s:=h.symm;rw[h]
   cases dP l r.s<;>simp
  ·have h':¬r.s=x.s:=λz=>h z.symm
   rw[decide_eq_false h,decide_eq_false h']
   cases dP l x.s<;>cases dP l r.s<;>simp
theorem EF {p:Rc->Bool}{l:List Rc}{s:ByteArray}(h:dP (l.filter p) s=true):dP l s=true:=by
 unfold dP at h ⊢;rw[List.any_eq_true] at h ⊢;obtain⟨x,hx,hs⟩:=h;exact⟨x,(List.mem_filter.1 hx).1,hs⟩
def pI:List Rc->List ByteArray
 | []=>[]
 | r::l=>if dP l r.s then pI l else r.s::pI l
theorem jM:∀l:List Rc,eH l=(pI l).length
 | []=>rfl
 | r::l=>by
  rw[eH,pI,jM l];by_cases h:dP l r.s=true
  ·rw[if_pos h,if_pos h];omega
  ·rw[if_neg h,if_neg h];rfl
theorem iC:∀(l:List Rc) (s:ByteArray),s∈pI l↔dP l s=true
 | [],s=>by simp[pI,dP]
 | r::l,s=>by
  have e:dP (r::l) s=(decide (r.s=s)||dP l s):=by simp[dP]
  rw[pI,e];by_cases h:dP l r.s=true
  ·rw[if_pos h,iC l s];constructor
   ·intro z;rw[z];simp
   ·intro z;rcases Bool.or_eq_true _ _▸z with y|y
    ·rw[<-of_decide_eq_true y];exact h
    ·exact y
  ·rw[if_neg h,List.mem_cons,iC l s,Bool.or_eq_true,decide_eq_true_eq];constructor
   ·rintro (y|y)
    ·exact .inl y.symm
    ·exact .inr y
   ·rintro (y|y)
    ·exact .inl y.symm
    ·exact .inr y
theorem jh:∀l:List Rc,(pI l).Nodup
 | []=>List.nodup_nil
 | r::l=>by
  rw[pI];by_cases h:dP l r.s=true
  ·rw[if_pos h];exact jh l
  ·rw[if_neg h,List.nodup_cons];exact⟨λz=>h ((iC l r.s).1 z),jh l⟩
theorem nR {α:Type}[DecidableEq α]:∀(a b:List α),a.Nodup->(∀x∈a,x∈b)->a.length<=b.length
 | [],b,_,_=>Nat.zero_le _
 | x::a,b,hn,hs=>by
  rw[List.nodup_cons] at hn;have hx:x∈b:=hs x (List.mem_cons_self ..);have:=nR a (b.erase x) hn.2 (λy hy=>(List.mem_erase_of_ne (λe=>hn.1 (by rw[<-e];exact hy))).2 (hs y (List.mem_cons_of_mem _ hy)));rw[List.length_erase_of_mem hx] at this;have:0<b.length:=List.length_pos_of_mem hx;simp only[List.length_cons];omega
theorem Cb (p:Rc->Bool)(l:List Rc):eH (l.filter p)<=eH l:=by
 rw[jM,jM];exact nR _ _ (jh _) (λs hs=>(iC l s).2 (EF ((iC _ s).1 hs)))
theorem aX.Ok.nil:aX.Ok ⟨[],0⟩:=⟨List.Pairwise.nil,λ_ h=>(by cases h),λ_ h=>(by cases h),⟨Int.le_refl _,by decide⟩,Nat.zero_le _,Nat.zero_le _⟩
theorem Cc {r:Rc}(h:dJ r=0):1<=r.q/\r.q<=1099511627776:=by
 obtain⟨_,_,h1,h2,_⟩:=Pk.oI (r:=r.pk) h;exact⟨h1,h2⟩
theorem aX.Ok.apply {s:aX}(h:s.Ok)(r:Rc):(jF s r).Ok:=by
 unfold jF;by_cases h0:dG s r≠0
 ·rw[if_pos h0];exact h
 ·rw[if_neg h0];have h0:dG s r=0:=Classical.byContradiction h0;have hc:dJ r=0:=by
   apply Classical.byContradiction;intro z;unfold dG at h0;rw[if_pos z] at h0;exact z h0
  have hq:=Cc hc;by_cases h1:r.k=1
  ·rw[if_pos h1];have h2:¬r.q<=s.last/\¬(200<=s.l.length\/(dP s.l r.s=false/\100<=eH s.l)):=by
    unfold dG at h0;rw[if_neg (by rw[hc];simp),if_neg (by omega),if_neg (by omega)] at h0;by_cases z:r.q<=s.last
    ·rw[if_pos z] at h0;omega
    ·rw[if_neg z] at h0;by_cases y:200<=s.l.length\/(dP s.l r.s=false/\100<=eH s.l)
     ·rw[if_pos y] at h0;omega
     ·exact⟨z,y⟩
   obtain⟨h2,h3⟩:=h2;refine⟨?_,?_,?_,⟨by show 0<=r.q;omega,hq.2⟩,?_,?_⟩
   ·rw[List.pairwise_append];refine⟨h.rise,List.pairwise_singleton _ _,λa ha b hb=>?_⟩;rw[List.mem_singleton.1 hb];have:=h.low a ha;omega
   ·intro x hx;rcases List.mem_append.1 hx with y|y
    ·exact h.msg x y
    ·rw[List.mem_singleton.1 y];exact⟨h1,hc⟩
   ·intro x hx;rcases List.mem_append.1 hx with y|y
    ·have:=h.low x y;show x.q<=r.q;omega
    ·rw[List.mem_singleton.1 y];exact Int.le_refl _
   ·show(s.l++[r]).length<=200;rw[List.length_append,List.length_singleton];omega
   ·show eH (s.l++[r])<=100;rw[mF];have:=h.names
    cases hh:dP s.l r.s
    ·rw[if_neg (by simp)];have:¬100<=eH s.l:=λz=>h3 (.inr ⟨hh,z⟩)
     omega
    ·rw[if_pos rfl];omega
  ·rw[if_neg h1];by_cases h4:r.k=4
   ·rw[if_pos h4];have hl:=h.last;refine⟨h.rise,h.msg,λx hx=>?_,⟨?_,?_⟩,h.few,h.names⟩
    ·have:=h.low x hx;show x.q<=max s.last r.q;omega
    ·show 0<=max s.last r.q;omega
    ·show max s.last r.q<=1099511627776;omega
   ·rw[if_neg h4];exact⟨h.rise.sublist List.filter_sublist,λx hx=>h.msg x (List.mem_filter.1 hx).1,λx hx=>h.low x (List.mem_filter.1 hx).1,h.last,Nat.le_trans (List.length_filter_le _ _) h.few,Nat.le_trans (Cb _ _) h.names⟩
end Go.Proofs.YtophdoapcdjnjaaGreatDoor.Dk
namespace Go.Proofs.YtophdoapcdjnjaaGreatDoor
open Go.RowKit Go.Proofs.Tryz
theorem XW {es:List aJ}{y:aJ}(h:y∈es):∃j,j<es.length/\en es j=y:=by
 obtain⟨j,hj,e⟩:=List.getElem_of_mem h;exact⟨j,hj,by rw[jr hj];exact e⟩
theorem Ce {es:List aJ}(h:Ord es){s:ByteArray}{y:aJ}(hy:y∈es)(e:y.1=s):cO es s=true/\y=en es (place es s):=by
 obtain⟨j,hj,rfl⟩:=XW hy;obtain⟨h1,h2⟩:=Jl h hj e;exact⟨h1,by rw[h2]⟩
theorem Js:∀{a b:List aJ},Ord a->Ord b->(∀e,e∈a↔e∈b)->a=b
 | [],[],_,_,_=>rfl
 | [],y::b,_,_,h=>absurd ((h y).2 (List.mem_cons_self ..)) (by simp)
 | x::a,[],_,_,h=>absurd ((h x).1 (List.mem_cons_self ..)) (by simp)
 | x::a,y::b,ha,hb,h=>by
  have ha1:=List.pairwise_cons.1 ha;have hb1:=List.pairwise_cons.1 hb;have hxy:x=y:=by
   rcases List.mem_cons.1 ((h x).1 (List.mem_cons_self ..)) with z|z
   ·exact z
   ·rcases List.mem_cons.1 ((h y).2 (List.mem_cons_self ..)) with u|u
    ·exact u.symm
    ·have:=lJ (hb1.1 x z) (ha1.1 y u);rw[iw] at this;cases this
  subst hxy;have hx:∀{c:List aJ},(∀e∈c,el x.1 e.1=true)->x∉c:=λhc z=>by have:=hc x z;rw[iw] at this;cases this
  rw[Js ha1.2 hb1.2 (λe=>?_)];constructor
  ·intro z;rcases List.mem_cons.1 ((h e).1 (List.mem_cons_of_mem _ z)) with u|u
   ·subst u;exact absurd z (hx ha1.1)
   ·exact u
  ·intro z;rcases List.mem_cons.1 ((h e).2 (List.mem_cons_of_mem _ z)) with u|u
   ·subst u;exact absurd z (hx hb1.1)
   ·exact u
theorem Jt {es:List aJ}(h:dW es){s:ByteArray}(n:Int)(hs:aB false s=0)(hr:cO es s=true\/es.length<100)(x:aJ):x∈lK es s n↔x=(s,n)\/(x∈es/\x.1≠s):=by
 unfold lK;rw[if_pos hs]
 cases hh:cO es s
 ·rw[if_neg (by simp),if_neg (by rcases hr with z|z;rw[hh] at z;cases z;omega)];have hne:∀y∈es,y.1≠s:=λy hy e=>by have:=(Ce h.1 hy e).1;rw[hh] at this;cases this
  have e:x∈eX es (place es s) (s,n)↔x=(s,n)\/x∈es:=by
   unfold eX;rw[List.mem_append,List.mem_cons];have:=List.take_append_drop (place es s) es;constructor
   ·rintro (z|z|z)
    ·exact .inr (List.mem_of_mem_take z)
    ·exact .inl z
    ·exact .inr (List.mem_of_mem_drop z)
   ·rintro (z|z)
    ·exact .inr (.inl z)
    ·rw[<-this] at z;rcases List.mem_append.1 z with y|y
     ·exact .inl y
     ·exact .inr (.inr y)
  rw[e];constructor
  ·rintro (z|z)
   ·exact .inl z
   ·exact .inr ⟨z,hne x z⟩
  ·rintro (z|z)
   ·exact .inl z
   ·exact .inr z.1
 ·rw[if_pos rfl];obtain⟨p1,p2⟩:=nP hh;constructor
  ·intro z;obtain⟨j,hj,e⟩:=List.getElem_of_mem z;rw[List.length_set] at hj;rw[List.getElem_set] at e;by_cases hp:place es s=j
   ·rw[if_pos hp] at e;exact .inl e.symm
   ·rw[if_neg hp] at e;refine .inr ⟨by rw[<-e];exact List.getElem_mem hj,λq=>hp ?_⟩;exact(zM h.1 hj (by rw[jr hj,e];exact q)).symm
  ·rintro (z|⟨z,q⟩)
   ·rw[z];exact List.mem_set p1 _
   ·obtain⟨j,hj,e⟩:=List.getElem_of_mem z;have hp:¬place es s=j:=λhp=>q (by rw[<-e,<-jr hj,<-hp];exact p2)
    have:(es.set (place es s) (s,n))[j]'(by rw[List.length_set];exact hj)=x:=by rw[List.getElem_set,if_neg hp];exact e
    rw[<-this];exact List.getElem_mem _
theorem O4 {es:List aJ}(h:dW es){s:ByteArray}(hs:aB false s=0)(x:aJ):x∈jU es s↔x∈es/\x.1≠s:=by
 unfold jU;rw[if_pos hs]
 cases hh:cO es s
 ·rw[if_neg (by simp)];exact⟨λz=>⟨z,λe=>by have:=(Ce h.1 z e).1;rw[hh] at this;cases this⟩,λz=>z.1⟩
 ·rw[if_pos rfl];obtain⟨p1,p2⟩:=nP hh;have hsp:es=es.take (place es s)++en es (place es s)::es.drop (place es s+1):=by
   rw[jr p1,<-List.drop_eq_getElem_cons p1,List.take_append_drop]
  constructor
  ·intro z;refine⟨Jm z,λe=>?_⟩;have ho:=h.1;unfold Ord at ho;rw[hsp,List.pairwise_append,List.pairwise_cons] at ho;obtain⟨_,⟨o2,_⟩,o3⟩:=ho;unfold rO at z;rcases List.mem_append.1 z with y|y
   ·have:=o3 x y (en es (place es s)) (List.mem_cons_self ..);rw[e,p2,iw] at this;cases this
   ·have:=o2 x y;rw[e,p2,iw] at this;cases this
  ·rintro ⟨z,q⟩;rw[hsp] at z;unfold rO;rcases List.mem_append.1 z with y|y
   ·exact List.mem_append.2 (.inl y)
   ·rcases List.mem_cons.1 y with u|u
    ·exact absurd (by rw[u];exact p2) q
    ·exact List.mem_append.2 (.inr u)
def eY (l:List Dk.Rc)(s:ByteArray):Nat:=(l.filter λr=>decide (r.s=s)).length
theorem dL (a b:List Dk.Rc)(s:ByteArray):eY (a++b) s=eY a s+eY b s:=by unfold eY;rw[List.filter_append,List.length_append]
theorem nS (r:Dk.Rc)(s:ByteArray):eY [r] s=if r.s=s then 1 else 0:=by
 unfold eY;by_cases h:r.s=s
 ·rw[if_pos h];simp[h]
 ·rw[if_neg h];simp[h]
theorem nT (l:List Dk.Rc)(s:ByteArray):Dk.dP l s=decide (0<eY l s):=by
 unfold Dk.dP eY;rw[Bool.eq_iff_iff,List.any_eq_true,decide_eq_true_eq,List.length_pos_iff_exists_mem];constructor
 ·rintro ⟨x,h1,h2⟩;exact⟨x,List.mem_filter.2 ⟨h1,h2⟩⟩
 ·rintro ⟨x,h1⟩;obtain⟨h1,h2⟩:=List.mem_filter.1 h1;exact⟨x,h1,h2⟩
structure Cnt (l:List Dk.Rc)(es:List aJ):Prop where
 good:dW es
 mem:∀e:aJ,e∈es↔0<eY l e.1/\e.2=(eY l e.1:Int)
theorem Cnt.nil:Cnt [] []:=⟨OT,λe=>by simp[eY]⟩
theorem Cnt.same {l:List Dk.Rc}{a b:List aJ}(h:Cnt l a)(g:Cnt l b):a=b:=Js h.good.1 g.good.1 (λe=>by rw[h.mem,g.mem])
theorem Cnt.has {l:List Dk.Rc}{es:List aJ}(h:Cnt l es)(s:ByteArray):cO es s=decide (0<eY l s):=by
 rw[Bool.eq_iff_iff,decide_eq_true_eq];constructor
 ·intro z;obtain⟨p1,p2⟩:=nP z;have:=((h.mem _).1 (Gz p1)).1;rw[p2] at this;exact this
 ·intro z;exact(Ce h.good.1 ((h.mem (s,(eY l s:Int))).2 ⟨z,rfl⟩) rfl).1
theorem Cnt.get {l:List Dk.Rc}{es:List aJ}(h:Cnt l es){s:ByteArray}(hs:aB false s=0):iJ es s=(eY l s:Int):=by
 unfold iJ;rw[if_pos hs,h.has];by_cases z:0<eY l s
 ·rw[decide_eq_true z,if_pos rfl];have:=(Ce h.good.1 ((h.mem (s,(eY l s:Int))).2 ⟨z,rfl⟩) rfl).2;rw[<-this]
 ·rw[decide_eq_false z,if_neg (by simp)];omega
theorem Cnt.put {l:List Dk.Rc}{es:List aJ}(h:Cnt l es)(r:Dk.Rc)(hs:aB false r.s=0)(hz:r.s.size<=140737488355328)(hr:0<eY l r.s\/es.length<100):Cnt (l++[r]) (lK es r.s ((eY l r.s:Int)+1)):=by
 refine⟨Es h.good _ hz,λe=>?_⟩;rw[Jt h.good _ hs (by rw[h.has];simpa using hr),h.mem,dL,nS];by_cases q:e.1=r.s
 ·rw[if_pos q.symm,q];constructor
  ·rintro (z|z)
   ·rw[z];exact⟨by omega,by simp⟩
   ·exact absurd rfl z.2
  ·rintro ⟨_,z⟩;exact .inl (Prod.ext q (by rw[z];simp))
 ·rw[if_neg (λz=>q z.symm),Nat.add_zero];constructor
  ·rintro (z|z)
   ·exact absurd (by rw[z]) q
   ·exact z.1
  ·intro z;exact .inr ⟨z,q⟩
theorem Cnt.less {A B:List Dk.Rc}{x:Dk.Rc}{es:List aJ}(h:Cnt (A++x::B) es)(hs:aB false x.s=0)(hz:x.s.size<=140737488355328):(eY (A++B) x.s=0->Cnt (A++B) (jU es x.s))/\Cnt (A++B) (if eY (A++B) x.s=0 then jU es x.s else lK es x.s (eY (A++B) x.s:Int)):=by
 have hc:∀s,eY (A++x::B) s=eY (A++B) s+(if x.s=s then 1 else 0):=λs=>by
  rw[show A++x::B=A++([x]++B) from rfl,dL,dL,dL,nS];omega
 have hd:eY (A++B) x.s=0->Cnt (A++B) (jU es x.s):=λh0=>by
  refine⟨Lj h.good _,λe=>?_⟩;rw[O4 h.good hs,h.mem,hc];by_cases q:e.1=x.s
  ·rw[q,h0];simp
  ·rw[if_neg (λz=>q z.symm),Nat.add_zero];exact⟨λz=>z.1,λz=>⟨z,q⟩⟩
 refine⟨hd,?_⟩;by_cases h0:eY (A++B) x.s=0
 ·rw[if_pos h0];exact hd h0
 ·rw[if_neg h0];refine⟨Es h.good _ hz,λe=>?_⟩;rw[Jt h.good _ hs (.inl (by rw[h.has,hc,if_pos rfl];simp)),h.mem,hc];by_cases q:e.1=x.s
  ·rw[q];constructor
   ·rintro (z|z)
    ·rw[z];exact⟨by omega,rfl⟩
    ·exact absurd rfl z.2
   ·rintro ⟨_,z⟩;exact .inl (Prod.ext q z)
  ·rw[if_neg (λz=>q z.symm),Nat.add_zero];constructor
   ·rintro (z|z)
    ·exact absurd (by rw[z]) q
    ·exact z.1
   ·intro z;exact .inr ⟨z,q⟩
theorem Cnt.len {l:List Dk.Rc}{es:List aJ}(h:Cnt l es):es.length=Dk.eH l:=by
 have hn:(es.map (·.1)).Nodup:=by
  have:=h.good.1;unfold Ord at this;rw[List.Nodup,List.pairwise_map];exact this.imp (λ{a b} hab e=>by rw[e,iw] at hab;cases hab)
 have hm:∀s,s∈es.map (·.1)↔s∈Dk.pI l:=λs=>by
  rw[Dk.iC,nT,decide_eq_true_eq,List.mem_map];constructor
  ·rintro ⟨e,he,rfl⟩;exact((h.mem e).1 he).1
  ·intro z;exact⟨(s,(eY l s:Int)),(h.mem _).2 ⟨z,rfl⟩,rfl⟩
 rw[Dk.jM,<-List.length_map (f:=λe:aJ=>e.1)];exact Nat.le_antisymm (Dk.nR _ _ hn (λs hs=>(hm s).1 hs)) (Dk.nR _ _ (Dk.jh l) (λs hs=>(hm s).2 hs))
def O5 (es:List aJ)(f:ByteArray):List aJ:=if aB true f=0 then Vg es f else []
def mX:List aJ->Int
 | []=>0
 | e::es=>e.2+mX es
theorem nU:∀a b:List aJ,mX (a++b)=mX a+mX b
 | [],b=>by simp[mX]
 | e::a,b=>by rw[List.cons_append,mX,mX,nU a b,Int.add_assoc]
theorem Xf {es:List aJ}{k:Nat}(h:k<es.length):mX (es.take (k+1))=mX (es.take k)+(en es k).2:=by
 rw[List.take_succ_eq_append_getElem h,nU];have:en es k=es[k]:=by unfold en;rw[List.getElem?_eq_getElem h];rfl
 rw[this];simp[mX]
theorem xP:∀{es:List aJ},(∀e∈es,0<=e.2)->0<=mX es
 | [],_=>Int.le_refl _
 | e::es,h=>by
  have h1:=h e (List.mem_cons_self ..);have h2:=xP (es:=es) (λx hx=>h x (List.mem_cons_of_mem _ hx));rw[mX];omega
theorem V6 {es:List aJ}(h:∀e∈es,0<=e.2)(k:Nat):0<=mX (es.take k)/\mX (es.take k)<=mX es:=by
 have h1:=xP (es:=es.take k) (λx hx=>h x (List.mem_of_mem_take hx));have h2:=xP (es:=es.drop k) (λx hx=>h x (List.mem_of_mem_drop hx));have h3:=nU (es.take k) (es.drop k);rw[List.take_append_drop] at h3;omega
def rX (l:List Dk.Rc):List ByteArray->Nat
 | []=>0
 | s::N=>eY l s+rX l N
theorem zU {r:Dk.Rc}{l:List Dk.Rc}:∀{N:List ByteArray},r.s∉N->rX (r::l) N=rX l N
 | [],_=>rfl
 | s::N,h=>by
  have h1:¬r.s=s:=λe=>h (by rw[e];exact List.mem_cons_self ..)
  rw[rX,rX,zU (N:=N) (λz=>h (List.mem_cons_of_mem _ z)),show r::l=[r]++l from rfl,dL,nS,if_neg h1,Nat.zero_add]
theorem EG {r:Dk.Rc}{l:List Dk.Rc}:∀{N:List ByteArray},N.Nodup->r.s∈N->rX (r::l) N=rX l N+1
 | [],_,h=>by cases h
 | s::N,hn,h=>by
  obtain⟨h1,h2⟩:=List.nodup_cons.1 hn;rw[rX,rX,show r::l=[r]++l from rfl,dL,nS];by_cases e:r.s=s
  ·rw[if_pos e,show[r]++l=r::l from rfl,zU (by rw[e];exact h1)];omega
  ·rw[if_neg e,show[r]++l=r::l from rfl,EG h2 (by
    rcases List.mem_cons.1 h with z|z
    ·exact absurd z e
    ·exact z)]
   omega
theorem EH:∀N:List ByteArray,rX [] N=0
 | []=>rfl
 | s::N=>by rw[rX,EH N];rfl
theorem EI {N:List ByteArray}(hn:N.Nodup):∀{l:List Dk.Rc},(∀r∈l,r.s∈N)->rX l N=l.length
 | [],_=>EH N
 | r::l,h=>by
  rw[EG hn (h r (List.mem_cons_self ..)),EI hn (λx hx=>h x (List.mem_cons_of_mem _ hx))];rfl
theorem O6 {l:List Dk.Rc}:∀{es:List aJ},(∀e∈es,e.2=(eY l e.1:Int))->mX es=(rX l (es.map (·.1)):Int)
 | [],_=>rfl
 | e::es,h=>by
  rw[mX,List.map_cons,rX,O6 (λx hx=>h x (List.mem_cons_of_mem _ hx)),h e (List.mem_cons_self ..)];omega
theorem Cnt.sum {l:List Dk.Rc}{es:List aJ}(h:Cnt l es):mX es=(l.length:Int):=by
 have hn:(es.map (·.1)).Nodup:=by
  have:=h.good.1;unfold Ord at this;rw[List.Nodup,List.pairwise_map];exact this.imp (λ{a b} hab e=>by rw[e,iw] at hab;cases hab)
 rw[O6 (λe he=>((h.mem e).1 he).2),EI hn (λr hr=>?_)];refine List.mem_map.2 ⟨(r.s,(eY l r.s:Int)),(h.mem _).2 ⟨?_,rfl⟩,rfl⟩;have:=nT l r.s;have h2:Dk.dP l r.s=true:=by
  unfold Dk.dP;exact List.any_eq_true.2 ⟨r,hr,by simp⟩
 rw[h2] at this;simpa using this.symm
theorem Cnt.pos {l:List Dk.Rc}{es:List aJ}(h:Cnt l es):∀e∈es,0<=e.2:=λe he=>by
 rw[((h.mem e).1 he).2];omega
theorem O7:∀(n:Nat) (l:List Dk.Rc),l.length=n->(∀x∈l,aB false x.s=0/\x.s.size<=140737488355328)->Dk.eH l<=100->∃es,Cnt l es
 | 0,l,hn,_,_=>by
  obtain rfl:=List.length_eq_zero_iff.1 hn;exact⟨[],Cnt.nil⟩
 | n+1,l,hn,h,je=>by
  rcases List.eq_nil_or_concat l with rfl|⟨L,b,rfl⟩
  ·cases hn
  ·rw[List.concat_eq_append] at hn h je ⊢;rw[Dk.mF] at je;rw[List.length_append] at hn;have hn:L.length=n:=by simpa using hn
   obtain⟨es,hc⟩:=O7 n L hn (λx hx=>h x (List.mem_append.2 (.inl hx))) (by omega);have hb:=h b (List.mem_append.2 (.inr (List.mem_singleton.2 rfl)));refine⟨_,hc.put b hb.1 hb.2 ?_⟩;by_cases z:Dk.dP L b.s=true
   ·left;rw[nT] at z;simpa using z
   ·right;rw[if_neg z] at je;rw[hc.len];omega
theorem EJ:aB true ⟨#[62]⟩=0:=by decide +kernel
theorem TF:Pl.toks ⟨#[62]⟩=[⟨#[62]⟩]:=by decide +kernel
theorem LK (s:ByteArray):∃t ts,Pl.toks s=t::ts:=by
 have h:=Pl.jI s
 cases hs:Pl.toks s with
 | cons t ts=>exact⟨t,ts,rfl⟩
 | nil =>
  rw[hs] at h;exact absurd h.symm (Pl.ny _)
theorem Cnt.Xg {l:List Dk.Rc}{es:List aJ}(h:Cnt l es):O5 es ⟨#[62]⟩=es:=by
 unfold O5 Vg;rw[if_pos EJ];refine List.filter_eq_self.2 (λe he=>?_);have hs:=(h.good.2.2 e he).1;obtain⟨t,ts,ht⟩:=LK e.1;unfold aI;rw[EJ,hs,TF,ht];simp[aN,pF]
end Go.Proofs.YtophdoapcdjnjaaGreatDoor
namespace Go.Proofs.YtophdoapcdjnjaaGreatDoor.Dk
open Go.RowKit Go.Proofs.Tryz
def nV (f:ByteArray)(l:List Rc):List Rc:=l.filter λr=>lM f r.s
def rY (l:List Rc)(n:Int):Option Rc:=l.find? λr=>decide (r.q=n)
def aT (f:ByteArray)(l:List Rc)(from':Int):Option Rc:=l.find? λr=>lM f r.s&&decide (from'<=r.q)
def jB (f:ByteArray)(l:List Rc):Option Rc:=(nV f l).getLast?
def bU:List Rc->Nat
 | []=>0
 | r::l=>r.s.size+r.h.size+r.d.size+bU l
def mG (l:List Rc):Int:=match l with
 | []=>0
 | r::_=>r.q
theorem jG:∀a b:List Rc,bU (a++b)=bU a+bU b
 | [],b=>by simp[bU]
 | r::a,b=>by rw[List.cons_append,bU,bU,jG a b];omega
theorem EK {l:List Rc}(h:∀r∈l,r.s.size<=135/\r.h.size+r.d.size<=256):bU l<=391*l.length:=by
 induction l with
 | nil=>simp[bU]
 | cons r l ih =>
  have h1:=h r (List.mem_cons_self ..);have h2:=ih (λx hx=>h x (List.mem_cons_of_mem _ hx));rw[bU,List.length_cons];omega
theorem aX.Ok.small {s:aX}(h:s.Ok){x:Rc}(hx:x∈s.l):x.s.size<=135/\x.h.size+x.d.size<=256:=by
 obtain⟨_,_,_,_,_,_,h1,h2⟩:=Pk.oI (r:=x.pk) (h.msg x hx).2;have e:∀x:ByteArray,x.data.toList.length=x.size:=λx=>by simp
 simp only[Rc.pk,e] at h1 h2;exact⟨h1,h2⟩
theorem aX.Ok.bytes {s:aX}(h:s.Ok):bU s.l<=78200:=by
 have h1:=EK (λr hr=>h.small hr);have:=h.few;omega
theorem aX.Ok.seq {s:aX}(h:s.Ok){x:Rc}(hx:x∈s.l):1<=x.q/\x.q<=1099511627776:=Cc (h.msg x hx).2
theorem GR {f:ByteArray}{l:List Rc}(h:l.Pairwise λa b=>a.q<b.q):(nV f l).Pairwise λa b=>a.q<b.q:=h.sublist List.filter_sublist
theorem GU (f:ByteArray)(l:List Rc)(n:Int):aT f l n=(nV f l).find? λr=>decide (n<=r.q):=by
 unfold aT nV;rw[List.find?_filter];congr
 funext r
 cases lM f r.s<;>simp
theorem zV {T:List Rc}{k:Nat}{n:Int}(h1:∀j,(hj:j<T.length)->j<k->T[j].q<n)(h2:∀hk:k<T.length,n<=T[k].q):T.find? (λr=>decide (n<=r.q))=T[k]?:=by
 by_cases hk:k<T.length
 ·rw[List.getElem?_eq_getElem hk,List.find?_eq_some_iff_getElem];refine⟨by simpa using h2 hk,k,hk,rfl,λj hj=>?_⟩;have:=h1 j (by omega) hj;simp only[Bool.not_eq_true',decide_eq_false_iff_not];omega
 ·rw[List.getElem?_eq_none (by omega),List.find?_eq_none];intro x hx;obtain⟨j,hj,rfl⟩:=List.getElem_of_mem hx;have:=h1 j hj (by omega);simp only[decide_eq_true_eq];omega
def Gone (T:List Rc)(k:Nat)(n:Int):Prop:=k<=T.length/\((k=0/\n=0)\/∃j,∃hj:j<T.length,k=j+1/\n=T[j].q+1)
theorem Gone.next {f:ByteArray}{s:aX}(h:s.Ok){k:Nat}{n:Int}(g:Gone (nV f s.l) k n):aT f s.l n=(nV f s.l)[k]?:=by
 have hr:=GR (f:=f) h.rise;have hp:∀x∈nV f s.l,1<=x.q:=λx hx=>(h.seq (List.mem_filter.1 hx).1).1
 rw[GU];obtain⟨_,⟨rfl,rfl⟩|⟨j,hj,rfl,rfl⟩⟩:=g
 ·exact zV (λj _ z=>absurd z (Nat.not_lt_zero j)) (λhk=>by have:=hp _ (List.getElem_mem hk);omega)
 ·refine zV (λi hi z=>?_) (λhk=>?_)
  ·rcases Nat.lt_or_ge i j with y|y
   ·have:=List.pairwise_iff_getElem.1 hr i j hi hj y;omega
   ·obtain rfl:i=j:=by omega
    omega
  ·have:=List.pairwise_iff_getElem.1 hr j (j+1) hj hk (by omega);omega
theorem Gone.step {T:List Rc}{k:Nat}(hk:k<T.length):Gone T (k+1) (T[k].q+1):=⟨hk,.inr ⟨k,hk,rfl,rfl⟩⟩
theorem Gone.start (T:List Rc):Gone T 0 0:=⟨Nat.zero_le _,.inl ⟨rfl,rfl⟩⟩
theorem xQ {s:aX}{r:Rc}(h0:dG s r=0)(h3:r.k=3):jF s r=⟨s.l.filter (λx=>!(decide (x.q<r.q)&&lM r.s x.s)),s.last⟩:=by
 unfold jF;rw[if_neg (by rw[h0];simp),if_neg (by omega),if_neg (by omega)];unfold Jr;rw[h3];simp
theorem LM {s:aX}{r:Rc}(h3:r.k=3):dG s r=dJ r:=by
 unfold dG;by_cases hc:dJ r≠0
 ·rw[if_pos hc]
 ·rw[if_neg hc,if_neg (by omega),if_pos (by omega)];exact(Classical.byContradiction hc:dJ r=0).symm
def dH:Rc:=⟨0,0,0,⟨#[]⟩,⟨#[]⟩,⟨#[]⟩⟩
def TG (o:Option Rc):Value:=match o with
 | some r=>.tuple #[WW r,.int .i64 0]
 | none=>.tuple #[WW dH,.int .i64 4]
def gJ (f:ByteArray)(o:Option Rc):Value:=if aB true f=0 then TG o else .tuple #[WW dH,.int .i64 (aB true f)]
def XY (SH:World->Nat->Nat->(Nat->Prop)->aX->Prop)(w w':World)(B q:Nat)(F:Nat->Prop)(s:aX):Prop:=∃F',SH w' B q F' s/\aF F w w'/\∀k,F' k->F k\/w.heap.size<=k
def pq:List Rc->Int->Nat
 | [],_=>0
 | r::l,n=>if r.q<n then pq l n+1 else 0
def gK (l:List Rc):Prop:=l.Pairwise λa b=>a.q<b.q
theorem Ju:∀(l:List Rc) (n:Int),pq l n<=l.length
 | [],_=>Nat.le_refl _
 | r::l,n=>by
  have:=Ju l n;rw[pq,List.length_cons];split<;>omega
theorem nX {l:List Rc}{k:Nat}(h:k<l.length):rc l k∈l:=by rw[dU h];exact List.getElem_mem h
theorem zW:∀(l:List Rc) (n:Int) (k:Nat),k<pq l n->(rc l k).q<n
 | [],n,k,h=>by simp[pq] at h
 | r::l,n,k,h=>by
  rw[pq] at h;by_cases hr:r.q<n
  ·rw[if_pos hr] at h;match k,h with
   | 0,_=>exact hr
   | k+1,h=>exact zW l n k (by omega)
  ·rw[if_neg hr] at h;omega
theorem O8:∀(l:List Rc) (n:Int),pq l n<l.length->n<=(rc l (pq l n)).q
 | [],n,h=>by simp[pq] at h
 | r::l,n,h=>by
  rw[pq] at h ⊢;by_cases hr:r.q<n
  ·rw[if_pos hr] at h ⊢;have:=O8 l n (by rw[List.length_cons] at h;omega);exact this
  ·rw[if_neg hr];have e:rc (r::l) 0=r:=rfl;rw[e];omega
theorem oM {l:List Rc}(h:gK l){i j:Nat}(hij:i<j)(hj:j<l.length):(rc l i).q<(rc l j).q:=by
 rw[dU (by omega),dU hj];exact List.pairwise_iff_getElem.1 h i j (by omega) hj hij
theorem Vm {l:List Rc}(h:gK l)(n:Int)(k:Nat)(h1:pq l n<=k)(h2:k<l.length):n<=(rc l k).q:=by
 have ha:=O8 l n (by omega);rcases Nat.eq_or_lt_of_le h1 with e|e
 ·rw[<-e];exact ha
 ·have:=oM h e h2;omega
theorem Vo {l:List Rc}{n:Int}{i:Nat}(hi:i<=l.length)(h1:∀j,j<i->(rc l j).q<n)(h2:∀j,i<=j->j<l.length->n<=(rc l j).q):i=pq l n:=by
 rcases Nat.lt_trichotomy i (pq l n) with h|h|h
 ·have a:=zW l n i h;have:=Ju l n;have:=h2 i (Nat.le_refl _) (by omega);omega
 ·exact h
 ·have a:=O8 l n (by omega);have:=h1 (pq l n) h;omega
theorem GV {l:List Rc}(h:gK l)(n:Int):seqB l n=(decide (pq l n<l.length)&&decide ((rc l (pq l n)).q=n)):=by
 unfold seqB;rw[Bool.eq_iff_iff,List.any_eq_true,Bool.and_eq_true,decide_eq_true_eq,decide_eq_true_eq];constructor
 ·rintro ⟨x,hx,e⟩;have e:x.q=n:=of_decide_eq_true e;obtain⟨j,hj,rfl⟩:=List.getElem_of_mem hx;rw[<-dU hj] at e;have hp:pq l n=j:=by
   refine(Vo (by omega) (λi hi=>?_) (λi hi hl=>?_)).symm
   ·have:=oM h hi hj;omega
   ·rcases Nat.eq_or_lt_of_le hi with z|z
    ·rw[<-z];omega
    ·have:=oM h z hl;omega
  rw[hp];exact⟨hj,e⟩
 ·rintro ⟨h1,h2⟩;exact⟨_,nX h1,by rw[h2];simp⟩
theorem O9 {l:List Rc}(h:gK l){n:Int}(hp:pq l n<l.length):seqB l n=decide ((rc l (pq l n)).q=n):=by
 rw[GV h,decide_eq_true hp,Bool.true_and]
theorem TI {l:List Rc}(h:gK l){n:Int}(hp:¬pq l n<l.length):seqB l n=false:=by
 rw[GV h,decide_eq_false hp,Bool.false_and]
theorem rZ {l:List Rc}(h:gK l){n:Int}(hs:seqB l n=true):pq l n<l.length/\(rc l (pq l n)).q=n:=by
 rw[GV h,Bool.and_eq_true,decide_eq_true_eq,decide_eq_true_eq] at hs;exact hs
theorem EL {l:List Rc}{k:Nat}(h:k<l.length):l=l.take k++rc l k::l.drop (k+1):=by
 rw[dU h,<-List.drop_eq_getElem_cons h,List.take_append_drop]
theorem get_hit {l:List Rc}(h:gK l){n:Int}(hs:seqB l n=true):rY l n=some (rc l (pq l n)):=by
 obtain⟨h1,h2⟩:=rZ h hs;unfold rY;rw[List.find?_eq_some_iff_getElem];refine⟨by rw[h2];simp,pq l n,h1,(dU h1).symm,λj hj=>?_⟩;have:=zW l n j hj;rw[dU (by omega)] at this;simp only[Bool.not_eq_true',decide_eq_false_iff_not];omega
theorem get_none {l:List Rc}{n:Int}(hs:seqB l n=false):rY l n=none:=by
 unfold rY;rw[List.find?_eq_none];intro x hx;unfold seqB at hs;rw[List.any_eq_false] at hs;exact hs x hx
theorem tK {p q:Rc->Bool}:∀{l:List Rc},(∀x∈l,p x=q x)->l.find? p=l.find? q
 | [],_=>rfl
 | x::l,h=>by
  rw[List.find?_cons,List.find?_cons,h x (List.mem_cons_self ..),tK (l:=l) (λy hy=>h y (List.mem_cons_of_mem _ hy))]
theorem GX {l:List Rc}(h:gK l)(f:ByteArray)(n:Int):aT f l n=(l.drop (pq l n)).find? λr=>lM f r.s:=by
 unfold aT;have e:l.find? (λr=>lM f r.s&&decide (n<=r.q))=((l.take (pq l n))++(l.drop (pq l n))).find? (λr=>lM f r.s&&decide (n<=r.q)):=by rw[List.take_append_drop]
 rw[e,List.find?_append];have e1:(l.take (pq l n)).find? (λr=>lM f r.s&&decide (n<=r.q))=none:=by
  rw[List.find?_eq_none];intro x hx;obtain⟨j,hj,rfl⟩:=List.getElem_of_mem hx;rw[List.length_take] at hj;have:=zW l n j (by omega);rw[dU (by omega)] at this;rw[List.getElem_take];simp only[Bool.and_eq_true,decide_eq_true_eq,not_and];intro _;omega
 rw[e1,Option.none_or];refine tK (λx hx=>?_);obtain⟨j,hj,rfl⟩:=List.getElem_of_mem hx;rw[List.length_drop] at hj;rw[List.getElem_drop];have:=Vm h n (pq l n+j) (by omega) (by omega);rw[dU (by omega)] at this;rw[decide_eq_true this,Bool.and_true]
def yQ (l:List Rc)(i:Nat):List Rc:=l.take i++l.drop (i+1)
theorem EM {l:List Rc}{i:Nat}(h:i<l.length):(yQ l i).length=l.length-1:=by
 unfold yQ;rw[List.length_append,List.length_take,List.length_drop];omega
theorem Pe {l:List Rc}(h:gK l){n:Int}(hs:seqB l n=true):l.filter (λx=>!decide (x.q=n))=yQ l (pq l n):=by
 obtain⟨h1,h2⟩:=rZ h hs;unfold yQ;have e:=congrArg (List.filter λx:Rc=>!decide (x.q=n)) (EL h1);rw[e,List.filter_append,List.filter_cons,h2];simp only[decide_true,Bool.not_true,Bool.false_eq_true,if_false];congr 1
 ·refine List.filter_eq_self.2 (λx hx=>?_);obtain⟨j,hj,rfl⟩:=List.getElem_of_mem hx;rw[List.length_take] at hj;have:=zW l n j (by omega);rw[dU (by omega)] at this;rw[List.getElem_take];simp only[Bool.not_eq_true',decide_eq_false_iff_not];omega
 ·refine List.filter_eq_self.2 (λx hx=>?_);obtain⟨j,hj,rfl⟩:=List.getElem_of_mem hx;rw[List.length_drop] at hj;have:=oM h (i:=pq l n) (j:=pq l n+1+j) (by omega) (by omega);rw[dU (l:=l) (k:=pq l n+1+j) (by omega)] at this;rw[List.getElem_drop];simp only[Bool.not_eq_true',decide_eq_false_iff_not];omega
def gQ (f:ByteArray)(l:List Rc):List Rc:=l.filter λx=>!lM f x.s
theorem tN {f:ByteArray}{l:List Rc}{k:Nat}(h:k<l.length):gQ f (l.take (k+1))=gQ f (l.take k)++(if lM f (rc l k).s then [] else [rc l k]):=by
 unfold gQ;rw[List.take_succ_eq_append_getElem h,<-dU h,List.filter_append]
 cases e:lM f (rc l k).s<;>simp[e]
theorem xR (f:ByteArray)(l:List Rc):(gQ f l).length<=l.length:=List.length_filter_le _ _
theorem Pg {l:List Rc}(h:gK l)(f:ByteArray)(n:Int):l.filter (λx=>!(decide (x.q<n)&&lM f x.s))=gQ f (l.take (pq l n))++l.drop (pq l n):=by
 have e:=congrArg (List.filter λx:Rc=>!(decide (x.q<n)&&lM f x.s)) (List.take_append_drop (pq l n) l).symm;rw[e,List.filter_append];congr 1
 ·unfold gQ;refine List.filter_congr (λx hx=>?_);obtain⟨j,hj,rfl⟩:=List.getElem_of_mem hx;rw[List.length_take] at hj;have:=zW l n j (by omega);rw[dU (by omega)] at this;rw[List.getElem_take,decide_eq_true this,Bool.true_and]
 ·refine List.filter_eq_self.2 (λx hx=>?_);obtain⟨j,hj,rfl⟩:=List.getElem_of_mem hx;rw[List.length_drop] at hj;have:=Vm h n (pq l n+j) (by omega) (by omega);rw[dU (by omega)] at this;rw[List.getElem_drop,decide_eq_false (by omega),Bool.false_and];rfl
def GY (es:List aJ)(n:Int)(s:ByteArray):List aJ:=if 1<n then lK es s (n-1) else jU es s
theorem Cnt.off {A B:List Rc}{x:Rc}{es:List aJ}(h:Cnt (A++x::B) es)(hs:aB false x.s=0)(hz:x.s.size<=140737488355328):Cnt (A++B) (GY es (iJ es x.s) x.s):=by
 have hc:eY (A++x::B) x.s=eY (A++B) x.s+1:=by
  rw[show A++x::B=A++([x]++B) from rfl,dL,dL,dL,nS,if_pos rfl];omega
 have h2:=(h.less hs hz).2;unfold GY;rw[h.get hs,hc];by_cases h0:eY (A++B) x.s=0
 ·rw[if_pos h0] at h2;rw[if_neg (by omega)];exact h2
 ·rw[if_neg h0] at h2;rw[if_pos (by omega),show((eY (A++B) x.s+1:Nat):Int)-1=(eY (A++B) x.s:Int) by omega];exact h2
end Go.Proofs.YtophdoapcdjnjaaGreatDoor.Dk
namespace Go.Proofs.YtophdoapcdjnjaaGreatDoor
open Go.RowKit Go.Proofs.Tryz
def aP:List aJ->List Value
 | []=>[]
 | e::r=>.string e.1::.int .i64 e.2::aP r
theorem bJ:∀es:List aJ,(aP es).length=es.length*2
 | []=>rfl
 | e::r=>by simp[aP,bJ r];omega
theorem gX:∀a b:List aJ,aP (a++b)=aP a++aP b
 | [],_=>rfl
 | e::a,b=>by simp[aP,gX a b]
theorem su:∀(es:List aJ) (k:Nat),aP (es.take k)=(aP es).take (k*2)
 | [],k=>by simp[aP]
 | e::r,0=>by simp[aP]
 | e::r,k+1=>by rw[show(k+1)*2=k*2+1+1 by omega];simp[aP,su r k]
theorem sD:∀(es:List aJ) (k:Nat),aP (es.drop k)=(aP es).drop (k*2)
 | [],k=>by simp[aP]
 | e::r,0=>by simp[aP]
 | e::r,k+1=>by rw[show(k+1)*2=k*2+1+1 by omega];simp[aP,sD r k]
theorem EO:∀(es:List aJ) (k:Nat),k<es.length->(aP es)[k*2]?=some (.string (en es k).1)
 | [],k,h=>absurd h (Nat.not_lt_zero k)
 | e::r,0,_=>rfl
 | e::r,k+1,h=>by
  rw[show(k+1)*2=k*2+1+1 by omega];simp only[aP,List.getElem?_cons_succ];exact EO r k (by simpa using h)
theorem Jv:∀(es:List aJ) (k:Nat),k<es.length->(aP es)[k*2+1]?=some (.int .i64 (en es k).2)
 | [],k,h=>absurd h (Nat.not_lt_zero k)
 | e::r,0,_=>rfl
 | e::r,k+1,h=>by
  rw[show(k+1)*2+1=k*2+1+1+1 by omega];simp only[aP,List.getElem?_cons_succ];exact Jv r k (by simpa using h)
theorem kM:∀(es:List aJ),∀v∈aP es,v.oneCell'=true
 | [],v,h=>by simp[aP] at h
 | e::r,v,h=>by
  simp only[aP,List.mem_cons] at h;rcases h with h|h|h
  ·subst h;rfl
  ·subst h;rfl
  ·exact kM r v h
theorem Jw:∀(es:List aJ) (k:Nat) (s:ByteArray) (n:Int),k<es.length->(en es k).1=s->aP (es.set k (s,n))=(aP es).set (k*2+1) (.int .i64 n)
 | [],k,_,_,h,_=>absurd h (Nat.not_lt_zero k)
 | e::r,0,s,n,_,q=>by
  have:e.1=s:=q;simp[aP,this]
 | e::r,k+1,s,n,h,q=>by
  rw[show(k+1)*2+1=k*2+1+1+1 by omega];simp only[List.set_cons_succ,aP];rw[Jw r k s n (by simpa using h) q]
theorem TJ:∀a b:List aJ,aP a=aP b->a=b
 | [],[],_=>rfl
 | [],_::_,h=>by simp[aP] at h
 | _::_,[],h=>by simp[aP] at h
 | (s,n)::a,(t,m)::b,h=>by
  simp only[aP,List.cons.injEq,Value.string.injEq,Value.int.injEq,true_and] at h;obtain⟨h1,h2,h3⟩:=h;rw[h1,h2,TJ a b h3]
theorem Ph:(prog.info? 169).map (λi=>(i.zero,i.size,i.bytes))=some (some (.agg #[.string ByteArray.empty,.int .i64 0]),2,24):=by kernel_rfl
def ku (w:World)(B:Nat)(v:Value)(es:List aJ):Prop:=w.ownsRow B 169 2 v es.length (aP es)
theorem ku.empty (w:World)(B:Nat):ku w B (.slice none 0 0) []:=World.ownsRow_nil w B _ 2
theorem ku.shape {w:World}{B:Nat}{v:Value}{es:List aJ}(h:ku w B v es):∃a cap,v=.slice a es.length cap/\es.length<=cap/\cap<=maxLen/\∀g,v.ownBlock=some g->a=some ⟨g,0,none⟩/\B<=g/\g<w.heap.size:=by
 rcases h.2 with ⟨h1,h2⟩|⟨g,cap,cur,h1,h2,h3,h4,h5,h6,h7⟩
 ·exact⟨none,0,by rw[h1,h2],by omega,by simp[maxLen],λg hg=>by rw[h1] at hg;simp[Value.ownBlock] at hg⟩
 ·exact⟨_,cap,h1,h4,h5,λk hk=>by
   have:=h.lt k hk;rw[h1] at hk;simp only[Value.ownBlock,Option.some.injEq] at hk;subst hk;exact⟨rfl,this⟩⟩
theorem ku.there {w:World}{B:Nat}{v:Value}{es:List aJ}(h:ku w B v es)(hn:0<es.length):∃g cap,v=.slice (some ⟨g,0,none⟩) es.length cap/\es.length<=cap/\cap<=maxLen/\B<=g/\g<w.heap.size:=by
 rcases h.2 with ⟨h1,h2⟩|⟨g,cap,cur,h1,h2,h3,h4,h5,h6,h7⟩
 ·omega
 ·exact⟨g,cap,h1,h4,h5,h.lt g (by rw[h1];rfl)⟩
theorem ku.text {w:World}{B g cap:Nat}{es:List aJ}(h:ku w B (.slice (some ⟨g,0,none⟩) es.length cap) es){k:Nat}(hk:k<es.length):w.cell? ⟨g,k*2,none⟩=some (.string (en es k).1):=by
 rw[World.ownsRow.cellAt h _ (by omega)];exact EO es k hk
theorem ku.num {w:World}{B g cap:Nat}{es:List aJ}(h:ku w B (.slice (some ⟨g,0,none⟩) es.length cap) es){k:Nat}(hk:k<es.length):w.cell? ⟨g,k*2+1,none⟩=some (.int .i64 (en es k).2):=by
 rw[World.ownsRow.cellAt h _ (by omega)];exact Jv es k hk
theorem ku.cell {w:World}{B g cap:Nat}{es:List aJ}(h:ku w B (.slice (some ⟨g,0,none⟩) es.length cap) es)(j:Nat)(u:Value)(hj:(aP es)[j]?=some u):w.cell? ⟨g,j,none⟩=some u:=by
 have hl:j<es.length*2:=by
  rw[<-bJ];rcases Nat.lt_or_ge j (aP es).length with q|q
  ·exact q
  ·rw[List.getElem?_eq_none q] at hj;cases hj
 rw[World.ownsRow.cellAt h _ hl];exact hj
theorem ku.below {w w':World}{B:Nat}{v:Value}{es:List aJ}(h:ku w B v es)(hb:Below w.heap.size w w'):ku w' B v es:=by
 refine⟨h.1,?_⟩;rcases h.2 with q|⟨g,cap,cur,h1,h2,h3,r⟩
 ·exact .inl q
 ·refine .inr ⟨g,cap,cur,h1,h2,?_,r⟩;rw[hb.block g (h.lt g (by rw[h1];rfl)).2];exact h3
structure aK (A:Nat->Prop)(w w':World):Prop where
 os:w'.os=w.os
 tape:w'.tape=w.tape
 output:w'.output=w.output
 size:w.heap.size<=w'.heap.size
 block:∀k,k<w.heap.size->¬A k->w'.heap[k]?=w.heap[k]?
theorem aK.refl (A:Nat->Prop)(w:World):aK A w w:=⟨rfl,rfl,rfl,Nat.le_refl _,λ_ _ _=>rfl⟩
theorem aK.trans {A:Nat->Prop}{a b c:World}(h:aK A a b)(k:aK A b c):aK A a c :=
 ⟨k.os.trans h.os,k.tape.trans h.tape,k.output.trans h.output,Nat.le_trans h.size k.size,λi hi hn=>(k.block i (by have:=h.size;omega) hn).trans (h.block i hi hn)⟩
theorem aK.mono {A A':Nat->Prop}{a b:World}(h:aK A a b)(hA:∀k,k<a.heap.size->A k->A' k):aK A' a b :=
 ⟨h.os,h.tape,h.output,h.size,λk hk hn=>h.block k hk (λq=>hn (hA k hk q))⟩
theorem aK.of_below {A:Nat->Prop}{w w':World}(h:Below w.heap.size w w'):aK A w w':=⟨h.os,h.tape,h.output,h.size,λk hk _=>h.block k hk⟩
theorem aK.cu {w w':World}{row:Option Nat}(h:w.grownBy w' row):aK (λk=>row=some k) w w':=⟨h.os,h.tape,h.output,h.size,λk hk hn=>h.block k hk (λe=>hn e.symm)⟩
theorem aK.setCell {A:Nat->Prop}{a w:World}(h:aK A a w){p:Addr}(hp:A p.block\/a.heap.size<=p.block)(u:Value):aK A a (w.setCell p u):=by
 refine⟨h.os,h.tape,h.output,by simpa[World.setCell] using h.size,λk hk hn=>?_⟩;rw[Below.heap_setCell _ _ _ _ (λe=>by subst e;rcases hp with q|q;exact hn q;omega)];exact h.block k hk hn
theorem aK.below {A:Nat->Prop}{B:Nat}{w w':World}(h:aK A w w')(hB:B<=w.heap.size)(hA:∀k,k<B->¬A k):Below B w w':=⟨h.os,h.tape,h.output,h.size,λk hk=>h.block k (by omega) (hA k hk)⟩
theorem aK.cell {A:Nat->Prop}{w w':World}(h:aK A w w'){p:Addr}(hp:p.block<w.heap.size)(hn:¬A p.block):w'.cell? p=w.cell? p:=World.cell?_of_block (w:=w) (h.block p.block hp hn)
theorem aK.frozen {A:Nat->Prop}{w w':World}(h:aK A w w'){p:Addr}(hp:p.block<w.heap.size)(hn:¬A p.block):w'.frozen? p=w.frozen? p:=World.frozen?_of_block (w:=w) (h.block p.block hp hn)
theorem ku.bW {A:Nat->Prop}{w w':World}{B:Nat}{v:Value}{es:List aJ}(h:ku w B v es)(hb:aK A w w')(hn:∀g,v.ownBlock=some g->¬A g):ku w' B v es:=by
 refine⟨h.1,?_⟩;rcases h.2 with q|⟨g,cap,cur,h1,h2,h3,r⟩
 ·exact .inl q
 ·refine .inr ⟨g,cap,cur,h1,h2,?_,r⟩;rw[hb.block g (h.lt g (by rw[h1];rfl)).2 (hn g (by rw[h1];rfl))];exact h3
structure dF (o:Nat)(w:World)(B p:Nat)(v:Value)(es:List aJ):Prop where
 cell:w.cell? ⟨p,o,none⟩=some v
 free:w.frozen? ⟨p,o,none⟩=false
 base:B<=p
 lt:p<w.heap.size
 arr:ku w B v es
 apart:v.ownBlock≠some p
abbrev Keeps (w:World)(B p:Nat)(v:Value)(es:List aJ):Prop:=dF 0 w B p v es
def foot (p:Nat)(v:Value)(k:Nat):Prop:=k=p\/v.ownBlock=some k
theorem dF.below {o:Nat}{w w':World}{B p:Nat}{v:Value}{es:List aJ}(h:dF o w B p v es)(hb:Below w.heap.size w w'):dF o w' B p v es :=
 ⟨by rw[hb.cell (p:=⟨p,o,none⟩) h.lt];exact h.cell,by rw[hb.frozen (p:=⟨p,o,none⟩) h.lt];exact h.free,h.base,by have:=hb.size;have:=h.lt;omega,h.arr.below hb,h.apart⟩
theorem dF.bW {o:Nat}{A:Nat->Prop}{w w':World}{B p:Nat}{v:Value}{es:List aJ}(h:dF o w B p v es)(hb:aK A w w')(hn:∀k,foot p v k->¬A k):dF o w' B p v es :=
 ⟨by rw[hb.cell (p:=⟨p,o,none⟩) h.lt (hn p (.inl rfl))];exact h.cell,by rw[hb.frozen (p:=⟨p,o,none⟩) h.lt (hn p (.inl rfl))];exact h.free,h.base,by have:=hb.size;have:=h.lt;omega,h.arr.bW hb (λg hg=>hn g (.inr hg)),h.apart⟩
structure Side (o p:Nat)(w w':World):Prop where
 cell:∀j,j≠o->w'.cell? ⟨p,j,none⟩=w.cell? ⟨p,j,none⟩
 free:∀j,w'.frozen? ⟨p,j,none⟩=w.frozen? ⟨p,j,none⟩
theorem Side.trans {o p:Nat}{a b c:World}(h:Side o p a b)(k:Side o p b c):Side o p a c:=⟨λj hj=>(k.cell j hj).trans (h.cell j hj),λj=>(k.free j).trans (h.free j)⟩
theorem Side.bW {o p:Nat}{A:Nat->Prop}{w w':World}(h:aK A w w')(hp:p<w.heap.size)(hn:¬A p):Side o p w w':=⟨λj _=>h.cell (p:=⟨p,j,none⟩) hp hn,λj=>h.frozen (p:=⟨p,j,none⟩) hp hn⟩
theorem Side.below {o p:Nat}{w w':World}(h:Below w.heap.size w w')(hp:p<w.heap.size):Side o p w w':=Side.bW (A:=λ_=>False) (aK.of_below h) hp (λz=>z)
theorem Side.set {o p:Nat}{w:World}(v:Value):Side o p w (w.setCell ⟨p,o,none⟩ v):=⟨λj hj=>by rw[World.cell?_setCell_other _ _ _ _ (by simp<;>omega)],λj=>World.frozen?_setCell _ _ _ _⟩
theorem Side.other {o p g j:Nat}{w:World}(v:Value)(h:g≠p):Side o p w (w.setCell ⟨g,j,none⟩ v):=⟨λi hi=>by rw[World.cell?_setCell_other _ _ _ _ (by simp<;>omega)],λi=>World.frozen?_setCell _ _ _ _⟩
theorem dF.store {o:Nat}{w w':World}{B p:Nat}{v v':Value}{es es':List aJ}(h:dF o w B p v es)(hb:aK (λk=>v.ownBlock=some k) w w')(ha:ku w' B v' es')(hv:∀g,v'.ownBlock=some g->v.ownBlock=some g\/w.heap.size<=g) :
 dF o (w'.setCell ⟨p,o,none⟩ v') B p v' es'/\aK (foot p v) w (w'.setCell ⟨p,o,none⟩ v'):=by
 have hne:v'.ownBlock≠some p:=λe=>by
  rcases hv p e with q|q
  ·exact h.apart q
  ·have:=h.lt;omega
 have hc:w'.cell? ⟨p,o,none⟩=some v:=by rw[hb.cell (p:=⟨p,o,none⟩) h.lt h.apart];exact h.cell
 refine⟨⟨World.cell?_setCell_same _ _ _ hc,?_,h.base,?_,?_,hne⟩,?_⟩
 ·rw[World.frozen?_setCell,hb.frozen (p:=⟨p,o,none⟩) h.lt h.apart];exact h.free
 ·have:=hb.size;have:=h.lt;simp[World.setCell];omega
 ·refine ha.bW (A:=λk=>k=p) (aK.setCell (A:=λk=>k=p) (p:=⟨p,o,none⟩) (aK.refl _ _) (.inl rfl) _) (λg hg e=>?_);subst e;exact hne hg
 ·exact(hb.mono (λk _ q=>.inr q)).setCell (.inl (.inl rfl)) _
theorem dF.number {o:Nat}{w:World}{B p g cap:Nat}{es:List aJ}(h:dF o w B p (.slice (some ⟨g,0,none⟩) es.length cap) es){k:Nat}(hk:k<es.length){s:ByteArray}(hs:(en es k).1=s)(n:Int) :
 dF o (w.setCell ⟨g,k*2+1,none⟩ (.int .i64 n)) B p (.slice (some ⟨g,0,none⟩) es.length cap) (es.set k (s,n))/\aK (foot p (.slice (some ⟨g,0,none⟩) es.length cap)) w (w.setCell ⟨g,k*2+1,none⟩ (.int .i64 n)):=by
 have hgp:g≠p:=λe=>h.apart (by rw[e];rfl)
 have hst:=(World.ownsRow.stored h.arr (k*2+1) (.int .i64 n)).1;refine⟨⟨?_,?_,h.base,?_,?_,h.apart⟩,?_⟩
 ·rw[World.cell?_setCell_other _ _ _ _ (by simp<;>omega)];exact h.cell
 ·rw[World.frozen?_setCell];exact h.free
 ·have:=h.lt;simpa[World.setCell] using this
 ·unfold ku;rw[List.length_set,Jw es k s n hk hs];exact hst
 ·exact(aK.refl _ _).setCell (.inl (.inr rfl)) _
end Go.Proofs.YtophdoapcdjnjaaGreatDoor
namespace Go.Proofs.YtophdoapcdjnjaaGreatDoor.Dk
open Go.RowKit Go.Proofs.Tryz
structure dX (SH:World->Nat->Nat->(Nat->Prop)->aX->Prop):Prop where
 own:∀{w B q F s},SH w B q F s->∀k,F k->B<=k/\k<w.heap.size
 bW:∀{w w' B q F s} {A:Nat->Prop},SH w B q F s->aF A w w'->(∀k,F k->¬A k)->SH w' B q F s
 new:∀w:World,Calls prog 20 #[] w λe w'=>∃q F,e=.returned (.pointer (some ⟨q,0,none⟩))/\SH w' w.heap.size q F ⟨[],0⟩/\Below w.heap.size w w'
 apply:∀{w B q F s} (r:Rc),Small r->SH w B q F s->s.Ok->B<=w.heap.size ->
  Calls prog 29 #[.pointer (some ⟨q,0,none⟩),.agg #[.int .i64 r.k,.int .i64 r.q,.int .i64 r.t,.string r.s,.string r.h,.string r.d]] w λe w'=>e=.returned (.int .i64 (dG s r))/\XY SH w w' B q F (jF s r)
 all:∀{w B q F s},SH w B q F s->s.Ok->B<=w.heap.size ->
  Calls prog 11 #[.pointer (some ⟨q,0,none⟩)] w λe w'=>∃v,e=.returned v/\dA w' w.heap.size v s.l/\Below w.heap.size w w'
 sums:∀{w B q F s},SH w B q F s->s.Ok->B<=w.heap.size ->
  Calls prog 59 #[.pointer (some ⟨q,0,none⟩)] w λe w'=>e=.returned (.agg #[.int .i64 (s.l.length:Int),.int .i64 (bU s.l:Int),.int .i64 (mG s.l),.int .i64 s.last])/\Below w.heap.size w w'
 last:∀{w B q F s} (f:ByteArray),f.size<=140737488355328->SH w B q F s->s.Ok->B<=w.heap.size ->
  Calls prog 58 #[.pointer (some ⟨q,0,none⟩),.string f] w λe w'=>e=.returned (gJ f (jB f s.l))/\Below w.heap.size w w'
 next:∀{w B q F s} (f:ByteArray) (n:Int),f.size<=140737488355328->SH w B q F s->s.Ok->B<=w.heap.size ->
  Calls prog 64 #[.pointer (some ⟨q,0,none⟩),.string f,.int .i64 n] w λe w'=>e=.returned (gJ f (aT f s.l n))/\Below w.heap.size w w'
structure Jy (SH:World->Nat->Nat->(Nat->Prop)->aX->Prop):Prop where
 tries:∀{w B q F s} (r:Rc),Small r->SH w B q F s->s.Ok->B<=w.heap.size ->
  Calls prog 50 #[.pointer (some ⟨q,0,none⟩),.agg #[.int .i64 r.k,.int .i64 r.q,.int .i64 r.t,.string r.s,.string r.h,.string r.d]] w λe w'=>e=.returned (.int .i64 (dG s r))/\Below w.heap.size w w'
 gets:∀{w B q F s} (n:Int),SH w B q F s->s.Ok->B<=w.heap.size ->
  Calls prog 61 #[.pointer (some ⟨q,0,none⟩),.int .i64 n] w λe w'=>e=.returned (TG (rY s.l n))/\Below w.heap.size w w'
structure Dv where
 q:Int
 n:Int
 d:Int
structure dM where
 t:Tk.bM
 pl:Int
 pe:List Dv
 cn:Int
def kN (now:Int):Bool:=decide (0<=now)&&decide (now<=1099511627776)
def kZ (t:Tk.bM)(p:Dv):Bool:=decide (t.mo≠0)&&decide (t.mo<=p.n)
def mY (t:Tk.bM)(l:List Rc)(now:Int)(p:Dv):Bool:=decide (p.d<=now)&&((rY l p.q).isSome&&!kZ t p)
def iD (t:Tk.bM)(l:List Rc)(now:Int):List Dv->List Dv×Option (Rc×Int)
 | []=>([],none)
 | p::ps=>if now<p.d then (p::(iD t l now ps).1,(iD t l now ps).2) else match rY l p.q with
  | none=>iD t l now ps
  | some m=>if kZ t p=true then iD t l now ps else (⟨p.q,p.n+1,now+Tk.dV t (p.n+1)⟩::ps,some (m,p.n+1))
def bP (f:ByteArray)(l:List Rc)(pl:Int):Nat:=(l.filter λr=>lM f r.s&&decide (pl<=r.q)).length
def gq (c:dM)(l:List Rc)(now:Int):dM×Option (Rc×Int)×Int :=
 if kN now=false then (c,none,1) else match (iD c.t l now c.pe).2 with
 | some (m,n)=>(⟨c.t,c.pl,(iD c.t l now c.pe).1,c.cn+1⟩,some (m,n),0)
 | none=>if c.t.pe≠0/\c.t.pe<=((iD c.t l now c.pe).1.length:Int) then (⟨c.t,c.pl,(iD c.t l now c.pe).1,c.cn⟩,none,11) else match aT c.t.f l c.pl with
  | none=>(⟨c.t,c.pl,(iD c.t l now c.pe).1,c.cn⟩,none,4)
  | some m=>(⟨c.t,m.q+1,if c.t.ack=0 then (iD c.t l now c.pe).1 else (iD c.t l now c.pe).1++[⟨m.q,1,now+Tk.dV c.t 1⟩],c.cn+1⟩,some (m,1),0)
def qC (so n:Int):Bool:=if so=2 then decide (0<=n)&&decide (n<=100000) else (decide (so=1)||(decide (so=3)||decide (so=4)))&&decide (n=0)
def qE (l:List Dv)(q:Int):Bool:=l.any λp=>decide (p.q=q)
def oV (l:List Dv)(q:Int)(f:Dv->Int):List Dv:=l.map λp=>if p.q=q then ⟨p.q,p.n,f p⟩ else p
def iV (c:dM)(now q so n:Int):dM×Int :=
 if kN now=false\/qC so n=false then (c,1) else if qE c.pe q=false then (c,4)
 else if so=1 then (⟨c.t,c.pl,c.pe.filter λp=>if c.t.ack=1 then decide (q<p.q) else decide (p.q≠q),c.cn⟩,0)
 else if so=2 then (⟨c.t,c.pl,oV c.pe q λ_=>now+n,c.cn⟩,0)
 else if so=3 then (⟨c.t,c.pl,oV c.pe q λp=>now+Tk.dV c.t p.n,c.cn⟩,0)
 else (⟨c.t,c.pl,c.pe.filter λp=>decide (p.q≠q),c.cn⟩,0)
def aah (c:dM)(q:Int):Bool:=decide (q<c.pl)&&!qE c.pe q
def XZ:List Dv->Int
 | []=>-1
 | p::ps=>ps.foldl (λm x=>min m x.d) p.d
def tV (c:dM):Int:=match c.pe with
 | []=>c.pl-1
 | p::_=>p.q-1
def dY (t:Tk.bM)(s:aX):Int:=if t.fr=1 then (match jB t.f s.l with
 | some m=>m.q
 | none=>s.last+1) else if t.fr=2 then s.last+1 else if t.fr=3 then t.st else 1
structure dM.Ok (c:dM):Prop where
 rise:c.pe.Pairwise λa b=>a.q<b.q
 low:∀p∈c.pe,1<=p.q/\p.q<c.pl
 nth:∀p∈c.pe,1<=p.n
 due:∀p∈c.pe,0<=p.d/\p.d<=1099511727776
 none0:c.t.ack=0->c.pe=[]
 pl:1<=c.pl/\c.pl<=1099511627777
theorem nY {t:Tk.bM}{l:List Rc}{now:Int}:∀{ps:List Dv} {p:Dv},p∈(iD t l now ps).1->∃p0∈ps,p0.q=p.q/\(p=p0\/(p.n=p0.n+1/\p.d=now+Tk.dV t p.n))
 | [],p,h=>by simp[iD] at h
 | p0::ps,p,h=>by
  rw[iD] at h;split at h
  ·rcases List.mem_cons.1 h with rfl|h
   ·exact⟨p,List.mem_cons_self ..,rfl,.inl rfl⟩
   ·obtain⟨x,hx,r⟩:=nY h;exact⟨x,List.mem_cons_of_mem _ hx,r⟩
  ·split at h
   ·obtain⟨x,hx,r⟩:=nY h;exact⟨x,List.mem_cons_of_mem _ hx,r⟩
   ·split at h
    ·obtain⟨x,hx,r⟩:=nY h;exact⟨x,List.mem_cons_of_mem _ hx,r⟩
    ·rcases List.mem_cons.1 h with rfl|h
     ·exact⟨p0,List.mem_cons_self ..,rfl,.inr ⟨rfl,rfl⟩⟩
     ·exact⟨p,List.mem_cons_of_mem _ h,rfl,.inl rfl⟩
theorem Jz {t:Tk.bM}{l:List Rc}{now:Int}:∀{ps:List Dv},(ps.Pairwise λa b=>a.q<b.q)->((iD t l now ps).1.Pairwise λa b=>a.q<b.q)
 | [],_=>by simp[iD]
 | p0::ps,h=>by
  obtain⟨h1,h2⟩:=List.pairwise_cons.1 h;have ih:=Jz (t:=t) (l:=l) (now:=now) h2;rw[iD];split
  ·exact List.pairwise_cons.2 ⟨λx hx=>by
    obtain⟨y,hy,e,_⟩:=nY hx;rw[<-e];exact h1 y hy,ih⟩
  ·split
   ·exact ih
   ·split
    ·exact ih
    ·exact List.pairwise_cons.2 ⟨λx hx=>h1 x hx,h2⟩
theorem tX {t:Tk.bM}{l:List Rc}{now:Int}:∀(ps:List Dv),(iD t l now ps).1.length<=ps.length
 | []=>by simp[iD]
 | p0::ps=>by
  have ih:=tX (t:=t) (l:=l) (now:=now) ps;rw[iD];split
  ·simp only[List.length_cons];omega
  ·split
   ·simp only[List.length_cons];omega
   ·split
    ·simp only[List.length_cons];omega
    ·simp only[List.length_cons];omega
section
variable {t:Tk.bM}{l:List Rc}{now:Int}
theorem JA {p:Dv}(h:mY t l now p=false)(hd:¬now<p.d)(ps:List Dv):iD t l now (p::ps)=iD t l now ps:=by
 rw[iD,if_neg hd];unfold mY at h;rw[decide_eq_true (by omega),Bool.true_and] at h
 cases hg:rY l p.q with
 | none=>rfl
 | some m =>
  rw[hg] at h;simp only[Option.isSome_some,Bool.true_and,Bool.not_eq_false'] at h;simp only[h,if_true]
theorem TK {p:Dv}(h:mY t l now p=true):∃m,rY l p.q=some m/\∀ps,iD t l now (p::ps)=(⟨p.q,p.n+1,now+Tk.dV t (p.n+1)⟩::ps,some (m,p.n+1)):=by
 unfold mY at h;rw[Bool.and_eq_true,Bool.and_eq_true] at h;obtain⟨h1,h2,h3⟩:=h;have h1:=of_decide_eq_true h1;obtain⟨m,hm⟩:=Option.isSome_iff_exists.1 h2;refine⟨m,hm,λps=>?_⟩;rw[iD,if_neg (by omega),hm];have h4:¬kZ t p=true:=by simpa using h3
 simp only[if_neg h4]
theorem Pj {a:List Dv}(ha:∀p∈a,mY t l now p=false){p:Dv}(hp:mY t l now p=true)(b:List Dv):∃m,rY l p.q=some m/\iD t l now (a++p::b)=((a.filter λx=>!decide (x.d<=now))++⟨p.q,p.n+1,now+Tk.dV t (p.n+1)⟩::b,some (m,p.n+1)):=by
 obtain⟨m,hm,hy⟩:=TK hp;refine⟨m,hm,?_⟩;induction a with
 | nil=>exact hy b
 | cons x a ih =>
  have ih:=ih (λq hq=>ha q (List.mem_cons_of_mem _ hq));have hx:=ha x (List.mem_cons_self ..);rw[List.cons_append];by_cases hd:now<x.d
  ·rw[iD,if_pos hd,ih,List.filter_cons_of_pos (by simp;omega),List.cons_append]
  ·rw[JA hx hd,ih,List.filter_cons_of_neg (by simp;omega)]
theorem TL {a:List Dv}(ha:∀p∈a,mY t l now p=false):iD t l now a=(a.filter λx=>!decide (x.d<=now),none):=by
 induction a with
 | nil=>rfl
 | cons x a ih =>
  have ih:=ih (λq hq=>ha q (List.mem_cons_of_mem _ hq));have hx:=ha x (List.mem_cons_self ..);by_cases hd:now<x.d
  ·rw[iD,if_pos hd,ih,List.filter_cons_of_pos (by simp;omega)]
  ·rw[JA hx hd,ih,List.filter_cons_of_neg (by simp;omega)]
theorem X4 {a:List Dv}(ha:∀p∈a,now<p.d)(b:List Dv):iD t l now (a++b)=(a++(iD t l now b).1,(iD t l now b).2):=by
 induction a with
 | nil=>rfl
 | cons x a ih =>
  have ih:=ih (λq hq=>ha q (List.mem_cons_of_mem _ hq));rw[List.cons_append,iD,if_pos (ha x (List.mem_cons_self ..)),ih,List.cons_append]
theorem JB {a b:List Dv}{p:Dv}(h:(a++p::b).Pairwise λx y=>x.q<y.q):(a++p::b).filter (λx=>decide (x.q≠p.q))=a++b:=by
 rw[List.pairwise_append,List.pairwise_cons] at h;obtain⟨_,⟨h2,_⟩,h3⟩:=h;rw[List.filter_append,List.filter_cons_of_neg (by simp)];rw[List.filter_eq_self.2 (λx hx=>?_),List.filter_eq_self.2 (λx hx=>?_)]
 ·have:=h2 x hx;simp only[decide_eq_true_eq];omega
 ·have:=h3 x hx p (List.mem_cons_self ..);simp only[decide_eq_true_eq];omega
theorem vS (hw:0<=t.wait/\t.wait<=100000)(hb:∀x∈t.bo,0<=x/\x<=100000)(n:Int):0<=Tk.dV t n/\Tk.dV t n<=100000:=by
 unfold Tk.dV;split
 ·exact hw
 ·cases h:t.bo[(min (max n 1) (t.bo.length:Int)-1).toNat]? with
  | none=>exact⟨by decide,by decide⟩
  | some x=>exact hb x (List.mem_of_getElem? h)
end
theorem X5 {l:List Rc}{n:Int}{m:Rc}(h:rY l n=some m):m∈l/\m.q=n:=⟨List.mem_of_find?_eq_some h,by have:=List.find?_some h;simpa using this⟩
theorem oN {f:ByteArray}{l:List Rc}{n:Int}{m:Rc}(h:aT f l n=some m):m∈l/\n<=m.q/\lM f m.s=true:=by
 have h1:=List.find?_some h;simp only[Bool.and_eq_true,decide_eq_true_eq] at h1;exact⟨List.mem_of_find?_eq_some h,h1.2,h1.1⟩
structure iY (t:Tk.bM):Prop where
 w:0<=t.wait/\t.wait<=100000
 b:∀x∈t.bo,0<=x/\x<=100000
theorem JC {c:dM}(h:c.Ok)(hw:iY c.t)(l:List Rc){now:Int}(ht:0<=now/\now<=1099511627776)(cn:Int):(⟨c.t,c.pl,(iD c.t l now c.pe).1,cn⟩:dM).Ok where
 rise:=Jz h.rise
 low:=λp hp=>by
  obtain⟨x,hx,e,_⟩:=nY hp;rw[<-e];exact h.low x hx
 nth:=λp hp=>by
  obtain⟨x,hx,_,r⟩:=nY hp;have:=h.nth x hx;rcases r with rfl|⟨r,_⟩
  ·exact this
  ·omega
 due:=λp hp=>by
  obtain⟨x,hx,_,r⟩:=nY hp;rcases r with rfl|⟨_,r⟩
  ·exact h.due p hx
  ·have:=vS hw.w hw.b p.n;rw[r];omega
 none0:=λh0=>by
  show(iD c.t l now c.pe).1=[];rw[h.none0 h0];rfl
 pl:=h.pl
theorem dM.Ok.next {c:dM}(h:c.Ok)(hw:iY c.t){s:aX}(hs:s.Ok)(now:Int):(gq c s.l now).1.Ok:=by
 unfold gq;split
 ·exact h
 ·rename_i ht;have ht:0<=now/\now<=1099511627776:=by
   unfold kN at ht;simp only[Bool.not_eq_false,Bool.and_eq_true,decide_eq_true_eq] at ht;exact ht
  split
  ·exact JC h hw _ ht _
  ·split
   ·exact JC h hw _ ht _
   ·split
    ·exact JC h hw _ ht _
    ·rename_i m hm;obtain⟨m1,m2,_⟩:=oN hm;obtain⟨q1,q2⟩:=hs.seq m1;have k:=JC h hw s.l ht c.cn;have hwt:=vS hw.w hw.b 1;have hlow:∀p∈(iD c.t s.l now c.pe).1,1<=p.q/\p.q<m.q:=λp hp=>by
      have h1:1<=p.q/\p.q<c.pl:=k.low p hp;omega
     by_cases h0:c.t.ack=0
     ·simp only[h0,if_true];exact⟨k.rise,λp hp=>by
       have h1:1<=p.q/\p.q<m.q:=hlow p hp;exact⟨h1.1,by show p.q<m.q+1;omega⟩,k.nth,k.due,λz=>k.none0 z,by show 1<=m.q+1/\m.q+1<=1099511627777;omega⟩
     ·simp only[if_neg h0];refine⟨?_,λp hp=>?_,λp hp=>?_,λp hp=>?_,λz=>absurd z h0,by show 1<=m.q+1/\m.q+1<=1099511627777;omega⟩
      ·show List.Pairwise _ ((iD c.t s.l now c.pe).1++[_]);rw[List.pairwise_append];exact⟨k.rise,by simp,λx hx y hy=>by
        rw[List.mem_singleton] at hy;subst hy;exact(hlow x hx).2⟩
      ·rcases List.mem_append.1 hp with hp|hp
       ·have h1:=hlow p hp;exact⟨h1.1,by show p.q<m.q+1;omega⟩
       ·rw[List.mem_singleton] at hp;subst hp;exact⟨q1,by show m.q<m.q+1;omega⟩
      ·rcases List.mem_append.1 hp with hp|hp
       ·exact k.nth p hp
       ·rw[List.mem_singleton] at hp;subst hp;exact Int.le_refl _
      ·rcases List.mem_append.1 hp with hp|hp
       ·exact k.due p hp
       ·rw[List.mem_singleton] at hp;subst hp;show 0<=now+Tk.dV c.t 1/\now+Tk.dV c.t 1<=1099511727776;omega
end Go.Proofs.YtophdoapcdjnjaaGreatDoor.Dk
namespace Go.Proofs.YtophdoapcdjnjaaGreatDoor.Tk
open Go Pn Go.Proofs.Tryz
def inB (n lo hi:Int):Bool:=decide (lo<=n)&&decide (n<=hi)
def lg (t:bM):Bool:=if t.fr=3 then inB t.st 1 999999999 else (inB t.fr 0 2&&decide (t.st=0))
def mJ (t:bM):Bool:=t.bo.all (λn=>inB n 1 100000)&&inB t.wait 1 100000
def xU (t:bM):Bool:=if t.ack=0 then (decide (t.wait=0)&&(decide (t.mo=0)&&(decide (t.pe=0)&&decide (t.bo.length=0)))) else if t.ack=1\/t.ack=2 then (mJ t&&(inB t.mo 0 20&&inB t.pe 0 50)) else false
def ji (t:bM):Int:=if bD t.n=false then 3 else if aB true t.f≠0 then aB true t.f else if 5<t.bo.length then 2 else if (lg t&&xU t)=true then 0 else 1
theorem jw {t:bM}(h:ji t=0):bD t.n=true/\aB true t.f=0/\t.bo.length<=5/\lg t=true/\xU t=true:=by
 unfold ji at h;by_cases h1:bD t.n=false
 ·rw[if_pos h1] at h;cases h
 ·rw[if_neg h1] at h;by_cases h2:aB true t.f≠0
  ·rw[if_pos h2] at h;exact absurd h h2
  ·rw[if_neg h2] at h;by_cases h3:5<t.bo.length
   ·rw[if_pos h3] at h;cases h
   ·rw[if_neg h3] at h;by_cases h4:(lg t&&xU t)=true
    ·rw[Bool.and_eq_true] at h4;exact⟨by simpa using h1,Classical.not_not.1 h2,by omega,h4.1,h4.2⟩
    ·rw[if_neg h4] at h;cases h
def hd:Nat->List UInt8
 | 0=>[102,114,111,109,61]
 | 1=>[97,99,107,61]
 | 2=>[119,97,105,116,61]
 | 3=>[98,97,99,107,111,102,102,61]
 | 4=>[109,111,115,116,61]
 | 5=>[112,101,110,100,105,110,103,61]
 | _=>[112,117,115,104]
def lastT:List UInt8:=[108,97,115,116]
def newT:List UInt8:=[110,101,119]
def Vp:List UInt8:=[110,111,110,101]
def allT:List UInt8:=[97,108,108]
def EP (n:Int):Option (List UInt8):=if n=0 then none else some (Lib.itoa n)
def fromV (t:bM):Option (List UInt8):=if t.fr=1 then some lastT else if t.fr=2 then some newT else if t.fr=3 then some (Lib.itoa t.st) else none
def V7 (n:Int):Option (List UInt8):=if n=0 then some Vp else if n=1 then some allT else none
def Zx (l:List Int):Option (List UInt8):=if l=[] then none else some (glue 44 (l.map Lib.itoa))
def jV (t:bM):Nat->Option (List UInt8)
 | 0=>fromV t
 | 1=>V7 t.ack
 | 2=>EP t.wait
 | 3=>Zx t.bo
 | 4=>EP t.mo
 | 5=>EP t.pe
 | _=>if t.pu=true then some [] else none
def X6 (t:bM)(i:Nat):Option (List UInt8):=(jV t i).map (λv=>hd i++v)
def seven:List Nat:=[0,1,2,3,4,5,6]
def kL (t:bM):List (List UInt8):=t.n.data.toList::t.f.data.toList::seven.filterMap (X6 t)
def aap (t:bM):ByteArray:=⟨(glue 32 (kL t)).toArray⟩
def Vq:List (List UInt8)->Option (List Int)
 | []=>some []
 | v::vs=>if gW v<1 then none else (Vq vs).map (λl=>gW v::l)
def vF (t:bM)(i:Nat)(v:List UInt8):Option bM:=match i with
 | 0=>if v=lastT then some {t with fr:=1} else if v=newT then some {t with fr:=2} else if gW v<1 then none else some {t with fr:=3,st:=gW v}
 | 1=>if v=Vp then some {t with ack:=0} else if v=allT then some {t with ack:=1} else none
 | 2=>if gW v<1 then none else some {t with wait:=gW v}
 | 3=>(Vq (cut 44 v)).map (λl=>{t with bo:=t.bo++l})
 | 4=>if gW v<1 then none else some {t with mo:=gW v}
 | 5=>if gW v<1 then none else some {t with pe:=gW v}
 | _=>if v=[] then some {t with pu:=true} else none
def Zy:List Nat->List (List UInt8)->bM->Option bM
 | [],[],t=>some t
 | [],_::_,_=>none
 | _::_,[],t=>some t
 | i::is,u::us,t=>if (hd i).isPrefixOf u=true then (match vF t i (u.drop (hd i).length) with
  | some t'=>Zy is us t'
  | none=>none) else Zy is (u::us) t
def base (n f:ByteArray):bM:=⟨n,f,0,0,2,0,[],0,0,false⟩
def lN:bM:=⟨⟨#[]⟩,⟨#[]⟩,0,0,0,0,[],0,0,false⟩
def aai (s:ByteArray):bM×Int:=if 1024<s.size then (lN,2) else match cut 32 s.data.toList with
 | n::f::ts=>match Zy seven ts (base (bs n) (bs f)) with
  | some t=>if ji t=0 then (t,0) else (lN,ji t)
  | none=>(lN,3)
 | _=>(lN,3)
def put (t c:bM):Nat->bM
 | 0=>{c with fr:=t.fr,st:=t.st}
 | 1=>{c with ack:=t.ack}
 | 2=>{c with wait:=t.wait}
 | 3=>{c with bo:=t.bo}
 | 4=>{c with mo:=t.mo}
 | 5=>{c with pe:=t.pe}
 | _=>{c with pu:=t.pu}
def bare (c:bM):Nat->Prop
 | 0=>c.fr=0/\c.st=0
 | 1=>c.ack=2
 | 2=>c.wait=0
 | 3=>c.bo=[]
 | 4=>c.mo=0
 | 5=>c.pe=0
 | _=>c.pu=false
def like (a b:bM):Nat->Prop
 | 0=>a.fr=b.fr/\a.st=b.st
 | 1=>a.ack=b.ack
 | 2=>a.wait=b.wait
 | 3=>a.bo=b.bo
 | 4=>a.mo=b.mo
 | 5=>a.pe=b.pe
 | _=>a.pu=b.pu
theorem X7 {a b:bM}:∀{i:Nat},like a b i->jV a i=jV b i
 | 0,h=>by simp only[like] at h;simp only[jV,fromV];rw[h.1,h.2]
 | 1,h=>by simp only[like] at h;simp only[jV];rw[h]
 | 2,h=>by simp only[like] at h;simp only[jV];rw[h]
 | 3,h=>by simp only[like] at h;simp only[jV];rw[h]
 | 4,h=>by simp only[like] at h;simp only[jV];rw[h]
 | 5,h=>by simp only[like] at h;simp only[jV];rw[h]
 | _+6,h=>by simp only[like] at h;simp only[jV];rw[h]
theorem xW {x:Int}(h:1<=x)(h9:x<=999999999):gW (Lib.itoa x)=x:=by
 obtain⟨u,rfl⟩:∃u:Nat,x=(u:Int):=⟨x.toNat,by omega⟩;have hi:Lib.itoa (u:Int)=Lib.decDigits u:=by unfold Lib.itoa;rw[if_neg (by omega)];simp
 rw[hi];exact DF (by omega) (by omega)
theorem ER:∀(l:List Int),(∀x∈l,1<=x/\x<=999999999)->Vq (l.map Lib.itoa)=some l
 | [],_=>rfl
 | x::l,h=>by
  have hx:=h x (List.mem_cons_self ..);rw[List.map_cons,Vq,xW hx.1 hx.2,if_neg (by omega),ER l (λy hy=>h y (List.mem_cons_of_mem _ hy))];rfl
theorem TM:∀(vs:List (List UInt8)) {l:List Int},Vq vs=some l->l.map Lib.itoa=vs/\l.length=vs.length
 | [],l,h=>by simp[Vq] at h;subst h;exact⟨rfl,rfl⟩
 | v::vs,l,h=>by
  rw[Vq] at h;by_cases hd:gW v<1
  ·rw[if_pos hd] at h;cases h
  ·rw[if_neg hd] at h
   cases hr:Vq vs with
   | none=>rw[hr] at h;simp at h
   | some u =>
    rw[hr] at h;simp at h;subst h;obtain⟨h1,h2⟩:=TM vs hr;have:=(zh (l:=v) (by omega)).1;exact⟨by rw[List.map_cons,this,h1],by simp[h2]⟩
theorem Pm {v:List UInt8}(h:v=lastT\/v=newT):gW v<1:=by
 rcases h with h|h<;>(rw[h];decide)
theorem LP {x:Int}(h:1<=x/\x<=999999999)(b:UInt8)(hb:b.toNat<48):b∉Lib.itoa x:=by
 intro hm;have e:Lib.itoa x=Lib.decDigits x.toNat:=by unfold Lib.itoa;rw[if_neg (by omega)]
 rw[e] at hm;have:=AQ _ b hm;unfold fO at this;simp at this;omega
theorem zX {n lo hi:Int}(h:inB n lo hi=true):lo<=n/\n<=hi:=by unfold inB at h;simpa using h
theorem Pq {t:bM}(h:xU t=true):(t.ack=0/\t.wait=0/\t.mo=0/\t.pe=0/\t.bo=[])\/((t.ack=1\/t.ack=2)/\(∀x∈t.bo,1<=x/\x<=100000)/\(1<=t.wait/\t.wait<=100000)/\(0<=t.mo/\t.mo<=20)/\(0<=t.pe/\t.pe<=50)):=by
 unfold xU at h;by_cases h0:t.ack=0
 ·rw[if_pos h0] at h;simp only[Bool.and_eq_true,decide_eq_true_eq] at h;exact .inl ⟨h0,h.1,h.2.1,h.2.2.1,List.eq_nil_of_length_eq_zero h.2.2.2⟩
 ·rw[if_neg h0] at h;by_cases h1:t.ack=1\/t.ack=2
  ·rw[if_pos h1] at h;simp only[Bool.and_eq_true,mJ,List.all_eq_true] at h;exact .inr ⟨h1,λx hx=>zX (h.1.1 x hx),zX h.1.2,zX h.2.1,zX h.2.2⟩
  ·rw[if_neg h1] at h;cases h
theorem ES {t:bM}(h:lg t=true):(t.fr=3/\1<=t.st/\t.st<=999999999)\/((t.fr=0\/t.fr=1\/t.fr=2)/\t.st=0):=by
 unfold lg at h;by_cases h3:t.fr=3
 ·rw[if_pos h3] at h;exact .inl ⟨h3,zX h⟩
 ·rw[if_neg h3] at h;simp only[Bool.and_eq_true,decide_eq_true_eq] at h;have:=zX h.1;exact .inr ⟨by omega,h.2⟩
theorem vT {t:bM}(h:xU t=true):(t.wait=0\/1<=t.wait/\t.wait<=100000)/\(t.mo=0\/1<=t.mo/\t.mo<=100000)/\(t.pe=0\/1<=t.pe/\t.pe<=100000)/\∀x∈t.bo,1<=x/\x<=100000:=by
 rcases Pq h with ⟨_,h1,h2,h3,h4⟩|⟨_,h1,h2,h3,h4⟩
 ·exact⟨.inl h1,.inl h2,.inl h3,λx hx=>by rw[h4] at hx;cases hx⟩
 ·exact⟨.inr h2,by omega,by omega,h1⟩
theorem Ci {n:Int}(h:n=0\/1<=n/\n<=100000){v:List UInt8}(hv:EP n=some v):gW v=n/\1<=n:=by
 unfold EP at hv;by_cases e:n=0
 ·rw[if_pos e] at hv;cases hv
 ·rw[if_neg e] at hv
  cases hv
  exact⟨xW (by omega) (by omega),by omega⟩
theorem YW {t c:bM}(h:ji t=0):∀{i:Nat},bare c i->∀{v},jV t i=some v->vF c i v=some (put t c i)
 | 0,hb,v,hv=>by
  obtain⟨_,_,_,hs,_⟩:=jw h;simp only[bare] at hb;simp only[jV,fromV] at hv;rcases ES hs with ⟨h3,h4⟩|⟨h3,h4⟩
  ·rw[if_neg (by omega),if_neg (by omega),if_pos h3] at hv
   cases hv
   have hd:=xW h4.1 h4.2;have n1:¬Lib.itoa t.st=lastT:=λz=>by have:=Pm (.inl z);omega
   have n2:¬Lib.itoa t.st=newT:=λz=>by have:=Pm (.inr z);omega
   simp only[vF];rw[if_neg n1,if_neg n2,hd,if_neg (by omega)];simp only[put,h3]
  ·rcases h3 with h3|h3|h3
   ·rw[if_neg (by omega),if_neg (by omega),if_neg (by omega)] at hv;cases hv
   ·rw[if_pos h3] at hv
    cases hv
    simp only[vF];rw[if_pos trivial];simp only[put,h3,h4];rw[<-hb.2]
   ·rw[if_neg (by omega),if_pos h3] at hv
    cases hv
    simp only[vF];rw[if_neg (by decide),if_pos trivial];simp only[put,h3,h4];rw[<-hb.2]
 | 1,hb,v,hv=>by
  simp only[jV,V7] at hv;by_cases h0:t.ack=0
  ·rw[if_pos h0] at hv
   cases hv
   simp only[vF];rw[if_pos trivial];simp only[put,h0]
  ·rw[if_neg h0] at hv;by_cases h1:t.ack=1
   ·rw[if_pos h1] at hv
    cases hv
    simp only[vF];rw[if_neg (by decide),if_pos trivial];simp only[put,h1]
   ·rw[if_neg h1] at hv;cases hv
 | 2,hb,v,hv=>by
  obtain⟨_,_,_,_,ha⟩:=jw h;obtain⟨e1,e2⟩:=Ci (vT ha).1 hv;simp only[vF];rw[e1,if_neg (by omega)];rfl
 | 3,hb,v,hv=>by
  obtain⟨_,_,_,_,ha⟩:=jw h;have hn:=(vT ha).2.2.2;simp only[bare] at hb;simp only[jV,Zx] at hv;by_cases e:t.bo=[]
  ·rw[if_pos e] at hv;cases hv
  ·rw[if_neg e] at hv
   cases hv
   have hc:cut 44 (glue 44 (t.bo.map Lib.itoa))=t.bo.map Lib.itoa:=qO 44 _ (λz=>e (List.map_eq_nil_iff.1 z)) (λu hu=>by
    obtain⟨x,hx,rfl⟩:=List.mem_map.1 hu;have:=hn x hx;exact LP (by omega) 44 (by decide))
   simp only[vF];rw[hc,ER t.bo (λx hx=>by have:=hn x hx;omega)];simp only[Option.map_some,put,hb,List.nil_append]
 | 4,hb,v,hv=>by
  obtain⟨_,_,_,_,ha⟩:=jw h;obtain⟨e1,e2⟩:=Ci (vT ha).2.1 hv;simp only[vF];rw[e1,if_neg (by omega)];rfl
 | 5,hb,v,hv=>by
  obtain⟨_,_,_,_,ha⟩:=jw h;obtain⟨e1,e2⟩:=Ci (vT ha).2.2.1 hv;simp only[vF];rw[e1,if_neg (by omega)];rfl
 | i+6,hb,v,hv=>by
  simp only[jV] at hv;by_cases e:t.pu=true
  ·rw[if_pos e] at hv
   cases hv
   simp only[vF];rw[if_pos trivial];simp only[put,e]
  ·rw[if_neg e] at hv;cases hv
theorem X9 {t c:bM}(h:ji t=0):∀{i:Nat},bare c i->jV t i=none->put t c i=c
 | 0,hb,hv=>by
  obtain⟨_,_,_,hs,_⟩:=jw h;simp only[bare] at hb;simp only[jV,fromV] at hv;rcases ES hs with ⟨h3,h4⟩|⟨h3,h4⟩
  ·rw[if_neg (by omega),if_neg (by omega),if_pos h3] at hv;cases hv
  ·rcases h3 with h3|h3|h3
   ·simp only[put,h3,h4]
    cases c
    simp only at hb;simp[hb.1,hb.2]
   ·rw[if_pos h3] at hv;cases hv
   ·rw[if_neg (by omega),if_pos h3] at hv;cases hv
 | 1,hb,hv=>by
  obtain⟨_,_,_,_,ha⟩:=jw h;simp only[bare] at hb;simp only[jV,V7] at hv;have:t.ack=2:=by
   rcases Pq ha with ⟨h0,_⟩|⟨h0,_⟩
   ·rw[if_pos h0] at hv;cases hv
   ·rcases h0 with h0|h0
    ·rw[if_neg (by omega),if_pos h0] at hv;cases hv
    ·exact h0
  simp only[put,this];rw[<-hb]
 | 2,hb,hv=>by
  simp only[bare] at hb;simp only[jV,EP] at hv;by_cases e:t.wait=0
  ·simp only[put,e];rw[<-hb]
  ·rw[if_neg e] at hv;cases hv
 | 3,hb,hv=>by
  simp only[bare] at hb;simp only[jV,Zx] at hv;by_cases e:t.bo=[]
  ·simp only[put,e];rw[<-hb]
  ·rw[if_neg e] at hv;cases hv
 | 4,hb,hv=>by
  simp only[bare] at hb;simp only[jV,EP] at hv;by_cases e:t.mo=0
  ·simp only[put,e];rw[<-hb]
  ·rw[if_neg e] at hv;cases hv
 | 5,hb,hv=>by
  simp only[bare] at hb;simp only[jV,EP] at hv;by_cases e:t.pe=0
  ·simp only[put,e];rw[<-hb]
  ·rw[if_neg e] at hv;cases hv
 | i+6,hb,hv=>by
  simp only[bare] at hb;simp only[jV] at hv;by_cases e:t.pu=true
  ·rw[if_pos e] at hv;cases hv
  ·have e':t.pu=false:=by simpa using e
   simp only[put,e'];rw[<-hb]
end Go.Proofs.YtophdoapcdjnjaaGreatDoor.Tk
namespace Go.Proofs.YtophdoapcdjnjaaGreatDoor.Dk
open Go.RowKit Go.Proofs.Tryz
theorem tY {now:Int}:kN now=true↔0<=now/\now<=1099511627776:=by
 unfold kN;rw[Bool.and_eq_true,decide_eq_true_eq,decide_eq_true_eq]
theorem Vr {c:dM}(h:c.Ok)(p:Dv->Bool):(⟨c.t,c.pl,c.pe.filter p,c.cn⟩:dM).Ok where
 rise:=h.rise.sublist List.filter_sublist
 low:=λx hx=>h.low x (List.mem_filter.1 hx).1
 nth:=λx hx=>h.nth x (List.mem_filter.1 hx).1
 due:=λx hx=>h.due x (List.mem_filter.1 hx).1
 none0:=λh0=>by
  show c.pe.filter p=[];rw[h.none0 h0];rfl
 pl:=h.pl
theorem sF {l:List Dv}{q:Int}{f:Dv->Int}{p:Dv}(h:p∈oV l q f):∃x∈l,x.q=p.q/\x.n=p.n/\(p=x\/p.d=f x):=by
 obtain⟨x,hx,rfl⟩:=List.mem_map.1 h;refine⟨x,hx,?_⟩;split
 ·exact⟨rfl,rfl,.inr rfl⟩
 ·exact⟨rfl,rfl,.inl rfl⟩
theorem Pv {c:dM}(h:c.Ok)(q:Int)(f:Dv->Int)(hf:∀x∈c.pe,0<=f x/\f x<=1099511727776):(⟨c.t,c.pl,oV c.pe q f,c.cn⟩:dM).Ok where
 rise:=by
  show(oV c.pe q f).Pairwise _;unfold oV;rw[List.pairwise_map];refine h.rise.imp (λ{a b} hab=>?_);split<;>split<;>exact hab
 low:=λp hp=>by
  obtain⟨x,hx,e,_⟩:=sF hp;rw[<-e];exact h.low x hx
 nth:=λp hp=>by
  obtain⟨x,hx,_,e,_⟩:=sF hp;rw[<-e];exact h.nth x hx
 due:=λp hp=>by
  obtain⟨x,hx,_,_,r⟩:=sF hp;rcases r with rfl|r
  ·exact h.due p hx
  ·rw[r];exact hf x hx
 none0:=λh0=>by
  show oV c.pe q f=[];rw[h.none0 h0];rfl
 pl:=h.pl
theorem dM.Ok.ans {c:dM}(h:c.Ok)(hw:iY c.t)(now q so n:Int):(iV c now q so n).1.Ok:=by
 unfold iV;split
 ·exact h
 ·rename_i h1;rw[not_or] at h1;have ht:=tY.1 (by simpa using h1.1);have ha:qC so n=true:=by simpa using h1.2
  split
  ·exact h
  ·split
   ·exact Vr h _
   ·split
    ·rename_i h2;refine Pv h _ _ (λ_ _=>?_);unfold qC at ha;rw[if_pos h2,Bool.and_eq_true,decide_eq_true_eq,decide_eq_true_eq] at ha;omega
    ·split
     ·exact Pv h _ _ (λx _=>by have:=vS hw.w hw.b x.n;omega)
     ·exact Vr h _
theorem Px {t:Tk.bM}(h:Tk.ji t=0):iY t:=by
 have hk:=(Tk.jw h).2.2.2.2;unfold Tk.xU at hk;split at hk
 ·simp only[Bool.and_eq_true,decide_eq_true_eq] at hk;refine⟨by omega,λx hx=>?_⟩;have:t.bo=[]:=List.length_eq_zero_iff.1 hk.2.2.2;rw[this] at hx
  cases hx
 ·split at hk
  ·rw[Bool.and_eq_true] at hk;obtain⟨h1,_⟩:=hk;unfold Tk.mJ at h1;rw[Bool.and_eq_true,List.all_eq_true] at h1;obtain⟨h2,h3⟩:=h1;unfold Tk.inB at h3;rw[Bool.and_eq_true,decide_eq_true_eq,decide_eq_true_eq] at h3;refine⟨by omega,λx hx=>?_⟩;have h4:=h2 x hx;unfold Tk.inB at h4;rw[Bool.and_eq_true,decide_eq_true_eq,decide_eq_true_eq] at h4;omega
  ·cases hk
theorem V8 {t:Tk.bM}(h:Tk.ji t=0){s:aX}(hs:s.Ok):(⟨t,dY t s,[],0⟩:dM).Ok where
 rise:=List.Pairwise.nil
 low:=λp hp=>by cases hp
 nth:=λp hp=>by cases hp
 due:=λp hp=>by cases hp
 none0:=λ_=>rfl
 pl:=by
  show 1<=dY t s/\dY t s<=1099511627777;have hl:=hs.last;unfold dY;split
  ·cases hm:jB t.f s.l with
   | none=>show 1<=s.last+1/\s.last+1<=_;omega
   | some m =>
    have h1:m∈s.l:=(List.mem_filter.1 (List.mem_of_getLast? hm)).1;have:=hs.seq h1;show 1<=m.q/\m.q<=_;omega
  ·split
   ·omega
   ·split
    ·rename_i h3;have hst:=(Tk.jw h).2.2.2.1;unfold Tk.lg at hst;rw[if_pos h3] at hst;unfold Tk.inB at hst;rw[Bool.and_eq_true,decide_eq_true_eq,decide_eq_true_eq] at hst;omega
    ·omega
theorem TN {l:List Dv}{q:Int}(h:qE l q=true):∃a p b,l=a++p::b/\p.q=q:=by
 unfold qE at h;rw[List.any_eq_true] at h;obtain⟨p,hp,e⟩:=h;obtain⟨a,b,rfl⟩:=List.append_of_mem hp;exact⟨a,p,b,rfl,by simpa using e⟩
theorem Ya {l:List Dv}{q:Int}(h:qE l q=false):∀p∈l,p.q≠q:=by
 unfold qE at h;rw[List.any_eq_false] at h;intro p hp e;exact h p hp (by simpa using e)
theorem TP {a b:List Dv}{p:Dv}(h:(a++p::b).Pairwise λx y=>x.q<y.q):(a++p::b).filter (λx=>decide (p.q<x.q))=b:=by
 rw[List.pairwise_append,List.pairwise_cons] at h;obtain⟨_,⟨h2,_⟩,h3⟩:=h;rw[List.filter_append,List.filter_cons_of_neg (by simp)];rw[List.filter_eq_nil_iff.2 (λx hx=>?_),List.filter_eq_self.2 (λx hx=>?_),List.nil_append]
 ·have:=h2 x hx;simpa using this
 ·have:=h3 x hx p (List.mem_cons_self ..);simp only[decide_eq_true_eq];omega
theorem JD {a b:List Dv}{p:Dv}(h:(a++p::b).Pairwise λx y=>x.q<y.q)(f:Dv->Int):oV (a++p::b) p.q f=a++⟨p.q,p.n,f p⟩::b:=by
 rw[List.pairwise_append,List.pairwise_cons] at h;obtain⟨_,⟨h2,_⟩,h3⟩:=h;unfold oV;rw[List.map_append,List.map_cons,if_pos rfl];congr 1
 ·conv=>rhs;rw[<-List.map_id a]
  apply List.map_congr_left;intro x hx;have:=h3 x hx p (List.mem_cons_self ..);rw[if_neg (by omega)];rfl
 ·congr 1
  conv=>rhs;rw[<-List.map_id b]
  apply List.map_congr_left;intro x hx;have:=h2 x hx;rw[if_neg (by omega)];rfl
theorem LQ {f:ByteArray}:∀{l:List Rc} {n:Int},aT f l n=none->bP f l n=0:=by
 intro l n h;unfold aT at h;unfold bP;rw[List.find?_eq_none] at h;rw[List.length_eq_zero_iff,List.filter_eq_nil_iff];exact h
theorem left_step {f:ByteArray}:∀{l:List Rc} {n:Int} {m:Rc},(l.Pairwise λa b=>a.q<b.q)->aT f l n=some m->bP f l n=bP f l (m.q+1)+1
 | [],n,m,_,h=>by simp[aT] at h
 | x::l,n,m,hp,h=>by
  obtain⟨h1,h2⟩:=List.pairwise_cons.1 hp;by_cases hx:(lM f x.s&&decide (n<=x.q))=true
  ·have e:aT f (x::l) n=some x:=by unfold aT;rw[List.find?_cons_of_pos (p:=λr:Rc=>lM f r.s&&decide (n<=r.q)) hx]
   rw[e] at h
   cases h
   have e1:bP f (x::l) n=bP f l n+1:=by unfold bP;rw[List.filter_cons_of_pos (p:=λr:Rc=>lM f r.s&&decide (n<=r.q)) hx];rfl
   have e2:bP f (x::l) (x.q+1)=bP f l (x.q+1):=by
    unfold bP;rw[List.filter_cons_of_neg (by simp only[Bool.and_eq_true,decide_eq_true_eq,not_and];intro _;omega)]
   have e3:bP f l n=bP f l (x.q+1):=by
    unfold bP;congr 1
    apply List.filter_congr;intro r hr;have:=h1 r hr;simp only[Bool.and_eq_true,decide_eq_true_eq] at hx;rw[decide_eq_true (show n<=r.q by omega),decide_eq_true (show x.q+1<=r.q by omega)]
   rw[e1,e2,e3]
  ·have e:aT f (x::l) n=aT f l n:=by unfold aT;rw[List.find?_cons_of_neg (p:=λr:Rc=>lM f r.s&&decide (n<=r.q)) hx]
   rw[e] at h;have hm:=(oN h).1;have:=h1 m hm;have e1:bP f (x::l) n=bP f l n:=by unfold bP;rw[List.filter_cons_of_neg (p:=λr:Rc=>lM f r.s&&decide (n<=r.q)) hx]
   have e2:bP f (x::l) (m.q+1)=bP f l (m.q+1):=by
    unfold bP;rw[List.filter_cons_of_neg (by simp only[Bool.and_eq_true,decide_eq_true_eq,not_and];intro _;omega)]
   rw[e1,e2];exact left_step h2 h
theorem Py {f:ByteArray}{l:List Rc}{n:Int}:bP f l n<=l.length:=List.length_filter_le _ _
def uQ (f:ByteArray)(l:List Rc):Option Rc->Nat
 | none=>0
 | some m=>bP f l (m.q+1)+1
theorem JE {f:ByteArray}{l:List Rc}{n:Int}(hp:l.Pairwise λa b=>a.q<b.q):uQ f l (aT f l n)=bP f l n:=by
 cases h:aT f l n with
 | none=>rw[LQ h];rfl
 | some m=>rw[left_step hp h];rfl
def ET (c:dM):Bool:=(c.t.pe !=0)&&decide (c.t.pe<=(c.pe.length:Int))
def newC (c:dM)(l:List Rc)(now:Int):dM×Option (Rc×Int)×Int :=
 if ET c=true then (c,none,11) else match aT c.t.f l c.pl with
  | none=>(c,none,4)
  | some m=>(⟨c.t,m.q+1,if c.t.ack=0 then c.pe else c.pe++[⟨m.q,1,now+Tk.dV c.t 1⟩],c.cn+1⟩,some (m,1),0)
theorem Pz {c:dM}{l:List Rc}{now:Int}(ht:kN now=true)(h:(iD c.t l now c.pe).2=none):gq c l now=newC ⟨c.t,c.pl,(iD c.t l now c.pe).1,c.cn⟩ l now:=by
 unfold gq newC ET;rw[ht,if_neg (by simp)];rw[h];by_cases q:c.t.pe≠0/\c.t.pe<=((iD c.t l now c.pe).1.length:Int)
 ·have e:((c.t.pe !=0)&&decide (c.t.pe<=((iD c.t l now c.pe).1.length:Int)))=true:=by
   rw[decide_eq_true q.2,Bool.and_true];simpa using q.1
  simp only[e,if_pos q,if_true]
 ·have e:((c.t.pe !=0)&&decide (c.t.pe<=((iD c.t l now c.pe).1.length:Int)))=false:=by
   by_cases z:c.t.pe=0
   ·rw[z];rfl
   ·rw[decide_eq_false (λy=>q ⟨z,y⟩),Bool.and_false]
  simp only[e,if_neg q,Bool.false_eq_true,if_false];all_goals (cases aT c.t.f l c.pl<;>rfl)
theorem GZ {c:dM}{l:List Rc}{now:Int}{m:Rc}{n:Int}(ht:kN now=true)(h:(iD c.t l now c.pe).2=some (m,n)):gq c l now=(⟨c.t,c.pl,(iD c.t l now c.pe).1,c.cn+1⟩,some (m,n),0):=by
 unfold gq;rw[ht,if_neg (by simp),h]
def xX (c:dM)(l:List Rc):Option (Rc×Int)->U9
 | none=>fB
 | some (m,n)=>⟨m.q,m.s,m.d,c.cn,n,(bP c.t.f l c.pl:Int)⟩
structure dM.Go (c:dM)(N:Nat):Prop where
 ok:c.Ok
 right:Tk.ji c.t=0
 small:jq c.t
 cn:0<=c.cn/\c.cn<=(N:Int)
 nth:∀p∈c.pe,0<=p.n/\p.n<=(N:Int)
 len:c.pe.length<=N
theorem dM.Go.waits {c:dM}{N:Nat}(h:c.Go N):iY c.t:=Px h.right
theorem dM.Go.bo {c:dM}{N:Nat}(h:c.Go N):c.t.bo.length<=5:=(Tk.jw h.right).2.2.1
theorem dM.Go.filt {c:dM}{N:Nat}(h:c.Go N):aB true c.t.f=0:=(Tk.jw h.right).2.1
theorem dM.Go.more {c:dM}{N M:Nat}(h:c.Go N)(hm:N<=M):c.Go M :=
 ⟨h.ok,h.right,h.small,by have:=h.cn;omega,λp hp=>by have:=h.nth p hp;omega,by have:=h.len;omega⟩
theorem dM.Go.new {t:Tk.bM}(h:Tk.ji t=0)(hs:jq t){s:aX}(hk:s.Ok):(⟨t,dY t s,[],0⟩:dM).Go 0 :=
 ⟨V8 h hk,h,hs,⟨Int.le_refl _,Int.le_refl _⟩,λp hp=>(by cases hp),Nat.le_refl _⟩
theorem V9 {t:Tk.bM}{l:List Rc}{now:Int}{ps:List Dv}{N:Nat}(h:∀p∈ps,0<=p.n/\p.n<=(N:Int)):∀p∈(iD t l now ps).1,0<=p.n/\p.n<=((N+1:Nat):Int):=λp hp=>by
 obtain⟨x,hx,_,r⟩:=nY hp;have:=h x hx;rcases r with rfl|⟨r,_⟩<;>omega
theorem zY (c:dM)(l:List Rc)(now:Int):(gq c l now).1.t=c.t:=by
 unfold gq;split
 ·rfl
 ·split
  ·rfl
  ·split
   ·rfl
   ·split<;>rfl
theorem dM.Go.next {c:dM}{N:Nat}(h:c.Go N){s:aX}(hs:s.Ok)(now:Int):(gq c s.l now).1.Go (N+1):=by
 have hcn:=h.cn;have hl:=h.len;have ha:=tX (t:=c.t) (l:=s.l) (now:=now) c.pe;have hn:=V9 (t:=c.t) (l:=s.l) (now:=now) h.nth;refine⟨h.ok.next h.waits hs now,by rw[zY];exact h.right,by rw[zY];exact h.small,?_,?_,?_⟩
 ·unfold gq;split
  ·show 0<=c.cn/\c.cn<=_;omega
  ·split
   ·show 0<=c.cn+1/\c.cn+1<=_;omega
   ·split
    ·show 0<=c.cn/\c.cn<=_;omega
    ·split
     ·show 0<=c.cn/\c.cn<=_;omega
     ·show 0<=c.cn+1/\c.cn+1<=_;omega
 ·unfold gq;split
  ·exact λp hp=>by have:=h.nth p hp;omega
  ·split
   ·exact hn
   ·split
    ·exact hn
    ·split
     ·exact hn
     ·intro p hp;simp only at hp;split at hp
      ·exact hn p hp
      ·rcases List.mem_append.1 hp with q|q
       ·exact hn p q
       ·rw[List.mem_singleton] at q;subst q;show(0:Int)<=1/\(1:Int)<=_;omega
 ·unfold gq;split
  ·show c.pe.length<=_;omega
  ·split
   ·show(iD c.t s.l now c.pe).1.length<=_;omega
   ·split
    ·show(iD c.t s.l now c.pe).1.length<=_;omega
    ·split
     ·show(iD c.t s.l now c.pe).1.length<=_;omega
     ·simp only;split
      ·omega
      ·rw[List.length_append];simp only[List.length_singleton];omega
theorem EU (c:dM)(now q so n:Int):(iV c now q so n).1.t=c.t:=by
 unfold iV;split
 ·rfl
 ·split
  ·rfl
  ·split
   ·rfl
   ·split
    ·rfl
    ·split<;>rfl
theorem Wh (c:dM)(now q so n:Int):(iV c now q so n).1.cn=c.cn/\(iV c now q so n).1.pl=c.pl:=by
 unfold iV;split
 ·exact⟨rfl,rfl⟩
 ·split
  ·exact⟨rfl,rfl⟩
  ·split
   ·exact⟨rfl,rfl⟩
   ·split
    ·exact⟨rfl,rfl⟩
    ·split<;>exact⟨rfl,rfl⟩
theorem TQ {c:dM}{now q so n:Int}{p:Dv}(hp:p∈(iV c now q so n).1.pe):∃x∈c.pe,x.q=p.q/\x.n=p.n:=by
 have hd:∀f:Dv->Int,p∈oV c.pe q f->∃x∈c.pe,x.q=p.q/\x.n=p.n:=λf h=>by
  obtain⟨x,hx,e1,e2,_⟩:=sF h;exact⟨x,hx,e1,e2⟩
 unfold iV at hp;split at hp
 ·exact⟨p,hp,rfl,rfl⟩
 ·split at hp
  ·exact⟨p,hp,rfl,rfl⟩
  ·split at hp
   ·exact⟨p,(List.mem_filter.1 hp).1,rfl,rfl⟩
   ·split at hp
    ·exact hd _ hp
    ·split at hp
     ·exact hd _ hp
     ·exact⟨p,(List.mem_filter.1 hp).1,rfl,rfl⟩
theorem TR (c:dM)(now q so n:Int):(iV c now q so n).1.pe.length<=c.pe.length:=by
 unfold iV;split
 ·exact Nat.le_refl _
 ·split
  ·exact Nat.le_refl _
  ·split
   ·exact List.length_filter_le _ _
   ·split
    ·show(oV _ _ _).length<=_;unfold oV;rw[List.length_map];exact Nat.le_refl _
    ·split
     ·show(oV _ _ _).length<=_;unfold oV;rw[List.length_map];exact Nat.le_refl _
     ·exact List.length_filter_le _ _
theorem dM.Go.ans {c:dM}{N:Nat}(h:c.Go N)(now q so n:Int):(iV c now q so n).1.Go N :=
 ⟨h.ok.ans h.waits now q so n,by rw[EU];exact h.right,by rw[EU];exact h.small,by rw[(Wh c now q so n).1];exact h.cn,λp hp=>by
  obtain⟨x,hx,_,e⟩:=TQ hp;rw[<-e];exact h.nth x hx,Nat.le_trans (TR c now q so n) h.len⟩
def Wi (CH:World->Nat->Nat->(Nat->Prop)->dM->Prop)(w w':World)(B b:Nat)(G:Nat->Prop)(c:dM):Prop:=∃G',CH w' B b G' c/\aF G w w'/\∀k,G' k->G k\/w.heap.size<=k
structure nZ (SH:World->Nat->Nat->(Nat->Prop)->aX->Prop)(CH:World->Nat->Nat->(Nat->Prop)->dM->Prop):Prop where
 own:∀{w B b G c},CH w B b G c->∀k,G k->B<=k/\k<w.heap.size
 bW:∀{w w' B b G c} {A:Nat->Prop},CH w B b G c->aF A w w'->(∀k,G k->¬A k)->CH w' B b G c
 bad:∀{w:World} (t:Tk.bM) (a:Option Addr) (ca q:Nat),jq t->jm w a t.bo->Tk.ji t≠0 ->
  Calls prog 7 #[qZ t a ca,.pointer (some ⟨q,0,none⟩)] w λe w'=>e=.returned (.tuple #[.pointer none,.int .i64 (Tk.ji t)])/\Below w.heap.size w w'
 new:∀{w B' q F s} (t:Tk.bM) (a:Option Addr) (ca:Nat),jq t->jm w a t.bo->Tk.ji t=0->SH w B' q F s->s.Ok->B'<=w.heap.size ->
  Calls prog 7 #[qZ t a ca,.pointer (some ⟨q,0,none⟩)] w λe w'=>(∃b G,e=.returned (.tuple #[.pointer (some ⟨b,0,none⟩),.int .i64 0])/\CH w' w.heap.size b G ⟨t,dY t s,[],0⟩)/\Below w.heap.size w w'
 next:∀{w B b G c B' q F s N},CH w B b G c->c.Go N->N<=100000->SH w B' q F s->s.Ok->B<=w.heap.size->B'<=w.heap.size->(∀k,F k->¬G k)->∀now:Int,
  Calls prog 9 #[.pointer (some ⟨b,0,none⟩),.pointer (some ⟨q,0,none⟩),.int .i64 now] w λe w'=>e=.returned (.tuple #[Rj (xX (gq c s.l now).1 s.l (gq c s.l now).2.1),.int .i64 (gq c s.l now).2.2])/\Wi CH w w' B b G (gq c s.l now).1
 answer:∀{w B b G c N},CH w B b G c->c.Go N->N<=100000->∀now q so n:Int,
  Calls prog 10 #[.pointer (some ⟨b,0,none⟩),.int .i64 now,.int .i64 q,.agg #[.int .i64 so,.int .i64 n]] w λe w'=>e=.returned (.int .i64 (iV c now q so n).2)/\Wi CH w w' B b G (iV c now q so n).1
 info:∀{w B b G c N},CH w B b G c->c.Go N ->
  Calls prog 8 #[.pointer (some ⟨b,0,none⟩)] w λe w'=>e=.returned (YU (tV c) (c.pl-1) c.cn (c.pe.length:Int))/\Below w.heap.size w w'
 taker:∀{w B b G c N},CH w B b G c->c.Go N ->
  Calls prog 27 #[.pointer (some ⟨b,0,none⟩)] w λe w'=>∃a' c',e=.returned (qZ c.t a' c')/\Nums w' w.heap.size (.slice a' c.t.bo.length c') c.t.bo/\Below w.heap.size w w'
def mZ:List Dv->List Value
 | []=>[]
 | p::l=>.int .i64 p.q::.int .i64 p.n::.int .i64 p.d::mZ l
theorem og:∀l:List Dv,(mZ l).length=l.length*3
 | []=>rfl
 | p::l=>by simp[mZ,og l];omega
theorem oh:∀a b:List Dv,mZ (a++b)=mZ a++mZ b
 | [],_=>rfl
 | p::a,b=>by simp[mZ,oh a b]
theorem PK:∀(l:List Dv),∀v∈mZ l,v.oneCell'=true
 | [],v,h=>by simp[mZ] at h
 | p::l,v,h=>by
  simp only[mZ,List.mem_cons] at h;rcases h with h|h|h|h
  ·subst h;rfl
  ·subst h;rfl
  ·subst h;rfl
  ·exact PK l v h
def dv (l:List Dv)(k:Nat):Dv:=l[k]?.getD ⟨0,0,0⟩
theorem JF:∀(l:List Dv) (k:Nat),k<l.length->(mZ l)[k*3]?=some (.int .i64 (dv l k).q)/\(mZ l)[k*3+1]?=some (.int .i64 (dv l k).n)/\(mZ l)[k*3+2]?=some (.int .i64 (dv l k).d)
 | [],k,h=>absurd h (Nat.not_lt_zero k)
 | p::l,0,_=>⟨rfl,rfl,rfl⟩
 | p::l,k+1,h=>by
  rw[show(k+1)*3=k*3+1+1+1 by omega];have:=JF l k (by simpa using h);have e:dv (p::l) (k+1)=dv l k:=rfl;rw[e];exact this
def fK (w:World)(B:Nat)(v:Value)(l:List Dv):Prop:=w.ownsRow B 78 3 v l.length (mZ l)
theorem fK.empty (w:World)(B:Nat):fK w B (.slice none 0 0) []:=World.ownsRow_nil w B _ 3
theorem fK.bW {A:Nat->Prop}{w w':World}{B:Nat}{v:Value}{l:List Dv}(h:fK w B v l)(hb:aF A w w')(hn:∀g,v.ownBlock=some g->¬A g):fK w' B v l:=by
 refine⟨h.1,?_⟩;rcases h.2 with q|⟨g,cap,cur,h1,h2,h3,r⟩
 ·exact .inl q
 ·refine .inr ⟨g,cap,cur,h1,h2,?_,r⟩;rw[hb.block g (h.lt g (by rw[h1];rfl)).2 (hn g (by rw[h1];rfl))];exact h3
theorem fK.below {w w':World}{B:Nat}{v:Value}{l:List Dv}(h:fK w B v l)(hb:Below w.heap.size w w'):fK w' B v l:=h.bW (A:=λ_=>False) (aF.of_below hb) (λ_ _ z=>z)
structure Thr (w:World)(b o:Nat)(p:Dv):Prop where
 lt:b<w.heap.size
 c0:w.cell? ⟨b,o,none⟩=some (.int .i64 p.q)
 c1:w.cell? ⟨b,o+1,none⟩=some (.int .i64 p.n)
 c2:w.cell? ⟨b,o+2,none⟩=some (.int .i64 p.d)
def Xh (w:World)(a:Option Addr)(l:List Dv):Prop:=∀k,k<l.length->∃b,a=some ⟨b,0,none⟩/\Thr w b (k*3) (dv l k)
theorem fK.shape {w:World}{B:Nat}{v:Value}{l:List Dv}(h:fK w B v l):∃a cap,v=.slice a l.length cap/\l.length<=cap/\cap<=maxLen/\Xh w a l:=by
 rcases h.2 with ⟨h1,h2⟩|⟨g,cap,cur,h1,h2,h3,h4,h5,h6,h7⟩
 ·exact⟨none,0,by rw[h1,h2],by omega,by simp[maxLen],λk hk=>by omega⟩
 ·refine⟨_,cap,h1,h4,h5,λk hk=>⟨g,rfl,?_⟩⟩;have hl:=(h.lt g (by rw[h1];rfl)).2;have hat:=JF l k hk;rw[h1] at h;refine⟨hl,?_,?_,?_⟩
  ·rw[World.ownsRow.cellAt h (k*3) (by omega)];exact hat.1
  ·rw[World.ownsRow.cellAt h (k*3+1) (by omega)];exact hat.2.1
  ·rw[World.ownsRow.cellAt h (k*3+2) (by omega)];exact hat.2.2
structure Cm (w:World)(B b:Nat)(c:dM)(a:Option Addr)(ca:Nat)(v:Value):Prop where
 tb:TB w b c.t a ca
 pl:w.cell? ⟨b,10,none⟩=some (.int .i64 c.pl)
 pe:w.cell? ⟨b,11,none⟩=some v
 cn:w.cell? ⟨b,12,none⟩=some (.int .i64 c.cn)
 row:fK w B v c.pe
 bo:jm w a c.t.bo
 fr:∀i,w.frozen? ⟨b,i,none⟩=false
 bB:B<=b
 ne1:v.ownBlock≠some b
 TS:∀z,a=some z->z.block≠b/\v.ownBlock≠some z.block
 al:∀z,a=some z->B<=z.block/\z.block<w.heap.size
theorem Cm.next {w w':World}{B b:Nat}{c:dM}{a:Option Addr}{ca:Nat}{v:Value}(h:Cm w B b c a ca v)(hb:Below w.heap.size w w'):Cm w' B b c a ca v :=
 ⟨h.tb.next hb,by rw[hb.cell (p:=⟨b,10,none⟩) h.tb.lt];exact h.pl,by rw[hb.cell (p:=⟨b,11,none⟩) h.tb.lt];exact h.pe,by rw[hb.cell (p:=⟨b,12,none⟩) h.tb.lt];exact h.cn,h.row.below hb,bY h.bo hb,λi=>by rw[hb.frozen (p:=⟨b,i,none⟩) h.tb.lt];exact h.fr i,h.bB,h.ne1,h.TS,λz hz=>⟨(h.al z hz).1,Nat.lt_of_lt_of_le (h.al z hz).2 hb.size⟩⟩
theorem Cm.bW {A:Nat->Prop}{w w':World}{B b:Nat}{c:dM}{a:Option Addr}{ca:Nat}{v:Value}(h:Cm w B b c a ca v)(hb:aF A w w')(h1:¬A b)(h2:∀g,v.ownBlock=some g->¬A g)(h3:∀z,a=some z->¬A z.block):Cm w' B b c a ca v :=
 ⟨h.tb.same hb.size (λj=>hb.cell (p:=⟨b,j,none⟩) h.tb.lt h1),by rw[hb.cell (p:=⟨b,10,none⟩) h.tb.lt h1];exact h.pl,by rw[hb.cell (p:=⟨b,11,none⟩) h.tb.lt h1];exact h.pe,by rw[hb.cell (p:=⟨b,12,none⟩) h.tb.lt h1];exact h.cn,h.row.bW hb h2,(λk hk=>by
  obtain⟨b',o,e1,e2,e3⟩:=h.bo k hk;exact⟨b',o,e1,Nat.lt_of_lt_of_le e2 hb.size,by rw[hb.cell (p:=⟨b',o+k,none⟩) e2 (h3 ⟨b',o,none⟩ e1)];exact e3⟩),λi=>by rw[hb.frozen (p:=⟨b,i,none⟩) h.tb.lt h1];exact h.fr i,h.bB,h.ne1,h.TS,λz hz=>⟨(h.al z hz).1,Nat.lt_of_lt_of_le (h.al z hz).2 hb.size⟩⟩
theorem Cm.put {w w1:World}{B b:Nat}{c:dM}{a:Option Addr}{ca:Nat}{v:Value}(h:Cm w B b c a ca v)(h1:aF (λk=>v.ownBlock=some k) w w1){j:Nat}{u v':Value}{pl cn:Int}{pe:List Dv}(hj:j=10/\u=.int .i64 pl/\cn=c.cn/\v'=v\/j=12/\u=.int .i64 cn/\pl=c.pl/\v'=v\/j=11/\u=v'/\pl=c.pl/\cn=c.cn)(hr:fK w1 B v' pe)(hv:∀g,v'.ownBlock=some g->v.ownBlock=some g\/w.heap.size<=g) :
 Cm (w1.setCell ⟨b,j,none⟩ u) B b ⟨c.t,pl,pe,cn⟩ a ca v':=by
 have hnb:¬(v.ownBlock=some b):=h.ne1;have hc:aF (λk=>k=b) w1 (w1.setCell ⟨b,j,none⟩ u):=(aF.refl (λk=>k=b) w1).setCell (p:=⟨b,j,none⟩) (.inl rfl) _;have hlt:=h.tb.lt;have ho:∀i,i≠j->(w1.setCell ⟨b,j,none⟩ u).cell? ⟨b,i,none⟩=w.cell? ⟨b,i,none⟩:=λi hi=>by
  rw[World.cell?_setCell_other _ _ _ _ (by intro e;injection e;omega),h1.cell (p:=⟨b,i,none⟩) hlt hnb]
 have hs:∀x,w.cell? ⟨b,j,none⟩=some x->(w1.setCell ⟨b,j,none⟩ u).cell? ⟨b,j,none⟩=some u:=λx hx=>World.cell?_setCell_same _ _ _ (by rw[h1.cell (p:=⟨b,j,none⟩) hlt hnb];exact hx)
 have hj9:10<=j:=by omega
 have hne':v'.ownBlock≠some b:=λe=>by
  rcases hv b e with q|q
  ·exact hnb q
  ·omega
 refine⟨⟨by have:=h1.size;simp[World.setCell];omega,by rw[ho 0 (by omega)];exact h.tb.c0,by rw[ho 1 (by omega)];exact h.tb.c1,by rw[ho 2 (by omega)];exact h.tb.c2,by rw[ho 3 (by omega)];exact h.tb.c3,by rw[ho 4 (by omega)];exact h.tb.c4,by rw[ho 5 (by omega)];exact h.tb.c5,by rw[ho 6 (by omega)];exact h.tb.c6,by rw[ho 7 (by omega)];exact h.tb.c7,by rw[ho 8 (by omega)];exact h.tb.c8,by rw[ho 9 (by omega)];exact h.tb.c9⟩,?_,?_,?_,hr.bW hc (λg hg z=>hne' (by rw[hg];exact congrArg some z)),?_,λi=>by rw[World.frozen?_setCell,h1.frozen (p:=⟨b,i,none⟩) hlt hnb];exact h.fr i,h.bB,hne',λz hz=>⟨(h.TS z hz).1,λq=>?_⟩,λz hz=>⟨(h.al z hz).1,by have:=(h.al z hz).2;have:=h1.size;simp[World.setCell];omega⟩⟩
 ·rcases hj with ⟨rfl,rfl,_,_⟩|⟨rfl,_,rfl,_⟩|⟨rfl,_,rfl,_⟩
  ·exact hs _ h.pl
  ·rw[ho 10 (by omega)];exact h.pl
  ·rw[ho 10 (by omega)];exact h.pl
 ·rcases hj with ⟨rfl,_,_,rfl⟩|⟨rfl,_,_,rfl⟩|⟨rfl,rfl,_,_⟩
  ·rw[ho 11 (by omega)];exact h.pe
  ·rw[ho 11 (by omega)];exact h.pe
  ·exact hs _ h.pe
 ·rcases hj with ⟨rfl,_,rfl,_⟩|⟨rfl,rfl,_,_⟩|⟨rfl,_,_,rfl⟩
  ·rw[ho 12 (by omega)];exact h.cn
  ·exact hs _ h.cn
  ·rw[ho 12 (by omega)];exact h.cn
 ·intro k hk;obtain⟨b',o,e1,e2,e3⟩:=h.bo k hk;have hne:=h.TS _ e1;have hne1:b'≠b:=hne.1;exact⟨b',o,e1,by have:=h1.size;simp[World.setCell];omega,by rw[World.cell?_setCell_other _ _ _ _ (by intro e;injection e;omega),h1.cell (p:=⟨b',o+k,none⟩) e2 hne.2];exact e3⟩
 ·rcases hv _ q with y|y
  ·exact(h.TS z hz).2 y
  ·have:=(h.al z hz).2;omega
def jC (b:Nat)(v:Value)(k:Nat):Prop:=k=b\/v.ownBlock=some k
def aQ (w w':World)(B b:Nat)(a:Option Addr)(ca:Nat)(v:Value)(c':dM):Prop:=∃v',Cm w' B b c' a ca v'/\aF (jC b v) w w'/\∀g,v'.ownBlock=some g->v.ownBlock=some g\/w.heap.size<=g
theorem aQ.same {w w':World}{B b:Nat}{c:dM}{a:Option Addr}{ca:Nat}{v:Value}(h:Cm w B b c a ca v)(hb:Below w.heap.size w w'):aQ w w' B b a ca v c:=⟨v,h.next hb,aF.of_below hb,λ_ hg=>.inl hg⟩
theorem aQ.trans {w w1 w':World}{B b:Nat}{a:Option Addr}{ca:Nat}{v v1:Value}{c':dM}(c1:aF (jC b v) w w1)(h1:∀g,v1.ownBlock=some g->v.ownBlock=some g\/w.heap.size<=g)(h:aQ w1 w' B b a ca v1 c'):aQ w w' B b a ca v c':=by
 obtain⟨v',k,c,hg⟩:=h;have s:=c1.size;refine⟨v',k,⟨c.os.trans c1.os,c.tape.trans c1.tape,c.output.trans c1.output,Nat.le_trans c1.size c.size,λi hi hn=>?_⟩,λg e=>?_⟩
 ·rw[c.block i (by omega) (λq=>?_)]
  ·exact c1.block i hi hn
  ·rcases q with q|q
   ·exact hn (.inl q)
   ·rcases h1 i q with z|z
    ·exact hn (.inr z)
    ·omega
 ·rcases hg g e with z|z
  ·exact h1 g z
  ·exact .inr (by omega)
theorem aQ.put {w w1:World}{B b:Nat}{c:dM}{a:Option Addr}{ca:Nat}{v:Value}(h:Cm w B b c a ca v)(h1:aF (λk=>v.ownBlock=some k) w w1){j:Nat}{u v':Value}{pl cn:Int}{pe:List Dv}(hj:j=10/\u=.int .i64 pl/\cn=c.cn/\v'=v\/j=12/\u=.int .i64 cn/\pl=c.pl/\v'=v\/j=11/\u=v'/\pl=c.pl/\cn=c.cn)(hr:fK w1 B v' pe)(hv:∀g,v'.ownBlock=some g->v.ownBlock=some g\/w.heap.size<=g) :
 aQ w (w1.setCell ⟨b,j,none⟩ u) B b a ca v ⟨c.t,pl,pe,cn⟩ :=
 ⟨v',h.put h1 hj hr hv,(h1.mono (λ_ _ q=>.inr q)).setCell (.inl (.inl rfl)) _,hv⟩
end Go.Proofs.YtophdoapcdjnjaaGreatDoor.Dk
namespace Go.Proofs.YtophdoapcdjnjaaGreatDoor
open Go.RowKit Go.Proofs.Tryz
def TU (t:Tk.bM)(a:Option Addr)(c:Nat):Nat->Value
 | 0=>.string t.n
 | 1=>.string t.f
 | 2=>.int .i64 t.fr
 | 3=>.int .i64 t.st
 | 4=>.int .i64 t.ack
 | 5=>.int .i64 t.wait
 | 6=>.slice a t.bo.length c
 | 7=>.int .i64 t.mo
 | 8=>.int .i64 t.pe
 | _=>.bool t.pu
theorem TB.of {w:World}{b:Nat}{t:Tk.bM}{a:Option Addr}{c:Nat}(hb:b<w.heap.size)(h:∀j,j<10->w.cell? ⟨b,j,none⟩=some (TU t a c j)):TB w b t a c :=
 ⟨hb,h 0 (by omega),h 1 (by omega),h 2 (by omega),h 3 (by omega),h 4 (by omega),h 5 (by omega),h 6 (by omega),h 7 (by omega),h 8 (by omega),h 9 (by omega)⟩
theorem TB.cells {w:World}{b:Nat}{t:Tk.bM}{a:Option Addr}{c:Nat}(h:TB w b t a c):∀j,j<10->w.cell? ⟨b,j,none⟩=some (TU t a c j)
 | 0,_=>h.c0
 | 1,_=>h.c1
 | 2,_=>h.c2
 | 3,_=>h.c3
 | 4,_=>h.c4
 | 5,_=>h.c5
 | 6,_=>h.c6
 | 7,_=>h.c7
 | 8,_=>h.c8
 | 9,_=>h.c9
 | j+10,hj=>absurd hj (by omega)
theorem TB.put {w:World}{b:Nat}{t t':Tk.bM}{a a':Option Addr}{c c':Nat}(h:TB w b t a c)(i:Nat)(hi:i<10)(hn:∀j,j<10->j≠i->TU t' a' c' j=TU t a c j):TB (w.setCell ⟨b,i,none⟩ (TU t' a' c' i)) b t' a' c':=by
 refine TB.of (by simpa[World.setCell] using h.lt) (λj hj=>?_);by_cases e:j=i
 ·subst e;exact World.cell?_setCell_same _ _ _ (h.cells j hj)
 ·rw[World.cell?_setCell_other _ _ _ _ (by intro z;injection z;omega),hn j hj e];exact h.cells j hj
structure qI (w0 w:World)(b:Nat)(t:Tk.bM)(a:Option Addr)(c:Nat):Prop where
 tb:TB w b t a c
 nums:Dk.Nums w (b+1) (.slice a t.bo.length c) t.bo
 fr:∀i,w.frozen? ⟨b,i,none⟩=false
 low:Below b w0 w
theorem qI.next {w0 w w':World}{b:Nat}{t:Tk.bM}{a:Option Addr}{c:Nat}(h:qI w0 w b t a c)(hb:Below w.heap.size w w'):qI w0 w' b t a c :=
 ⟨h.tb.next hb,h.nums.below hb,λi=>by rw[hb.frozen (p:=⟨b,i,none⟩) h.tb.lt];exact h.fr i,h.low.trans (hb.mono (Nat.le_of_lt h.tb.lt))⟩
theorem low_set {w0 w:World}{b i:Nat}{x:Value}(h:Below b w0 w):Below b w0 (w.setCell ⟨b,i,none⟩ x):=by
 refine h.trans ?_;have:=(Dk.aF.refl (λk=>k=b) w).setCell (p:=⟨b,i,none⟩) (.inl rfl) x;exact⟨this.os,this.tape,this.output,this.size,λk hk=>by
  by_cases hs:k<w.heap.size
  ·exact this.block k hs (by show ¬k=b;omega)
  ·have e:(w.setCell ⟨b,i,none⟩ x).heap.size=w.heap.size:=by simp[World.setCell]
   rw[Array.getElem?_eq_none (by omega),Array.getElem?_eq_none (by omega)]⟩
theorem qI.put {w0 w:World}{b:Nat}{t:Tk.bM}{a:Option Addr}{c:Nat}(h:qI w0 w b t a c)(t':Tk.bM)(i:Nat)(hi:i<10)(hn:∀j,j<10->j≠i->TU t' a c j=TU t a c j)(JG:t'.bo=t.bo):qI w0 (w.setCell ⟨b,i,none⟩ (TU t' a c i)) b t' a c:=by
 refine⟨h.tb.put i hi hn,?_,λj=>by rw[World.frozen?_setCell];exact h.fr j,low_set h.low⟩;rw[JG];exact h.nums.bW ((Dk.aF.refl (λk=>k=b) w).setCell (p:=⟨b,i,none⟩) (.inl rfl) _) (λg hg z=>by have:g=b:=z;omega)
theorem qI.fr' {w0 w:World}{b:Nat}{t:Tk.bM}{a:Option Addr}{c:Nat}(h:qI w0 w b t a c)(x:Int):qI w0 (w.setCell ⟨b,2,none⟩ (.int .i64 x)) b {t with fr:=x} a c:=h.put {t with fr:=x} 2 (by omega) (λj _ hj=>by rcases j with _|_|_|_|_|_|_|_|_|_|j<;>first|rfl|exact absurd rfl hj) rfl
theorem qI.st' {w0 w:World}{b:Nat}{t:Tk.bM}{a:Option Addr}{c:Nat}(h:qI w0 w b t a c)(x:Int):qI w0 (w.setCell ⟨b,3,none⟩ (.int .i64 x)) b {t with st:=x} a c:=h.put {t with st:=x} 3 (by omega) (λj _ hj=>by rcases j with _|_|_|_|_|_|_|_|_|_|j<;>first|rfl|exact absurd rfl hj) rfl
theorem qI.aaq {w0 w:World}{b:Nat}{t:Tk.bM}{a:Option Addr}{c:Nat}(h:qI w0 w b t a c)(x:Int):qI w0 (w.setCell ⟨b,4,none⟩ (.int .i64 x)) b {t with ack:=x} a c:=h.put {t with ack:=x} 4 (by omega) (λj _ hj=>by rcases j with _|_|_|_|_|_|_|_|_|_|j<;>first|rfl|exact absurd rfl hj) rfl
theorem qI.aaj {w0 w:World}{b:Nat}{t:Tk.bM}{a:Option Addr}{c:Nat}(h:qI w0 w b t a c)(x:Int):qI w0 (w.setCell ⟨b,5,none⟩ (.int .i64 x)) b {t with wait:=x} a c:=h.put {t with wait:=x} 5 (by omega) (λj _ hj=>by rcases j with _|_|_|_|_|_|_|_|_|_|j<;>first|rfl|exact absurd rfl hj) rfl
theorem qI.mo' {w0 w:World}{b:Nat}{t:Tk.bM}{a:Option Addr}{c:Nat}(h:qI w0 w b t a c)(x:Int):qI w0 (w.setCell ⟨b,7,none⟩ (.int .i64 x)) b {t with mo:=x} a c:=h.put {t with mo:=x} 7 (by omega) (λj _ hj=>by rcases j with _|_|_|_|_|_|_|_|_|_|j<;>first|rfl|exact absurd rfl hj) rfl
theorem qI.Zz {w0 w:World}{b:Nat}{t:Tk.bM}{a:Option Addr}{c:Nat}(h:qI w0 w b t a c)(x:Int):qI w0 (w.setCell ⟨b,8,none⟩ (.int .i64 x)) b {t with pe:=x} a c:=h.put {t with pe:=x} 8 (by omega) (λj _ hj=>by rcases j with _|_|_|_|_|_|_|_|_|_|j<;>first|rfl|exact absurd rfl hj) rfl
theorem qI.pu' {w0 w:World}{b:Nat}{t:Tk.bM}{a:Option Addr}{c:Nat}(h:qI w0 w b t a c)(x:Bool):qI w0 (w.setCell ⟨b,9,none⟩ (.bool x)) b {t with pu:=x} a c:=h.put {t with pu:=x} 9 (by omega) (λj hj9 hj=>by rcases j with _|_|_|_|_|_|_|_|_|_|j<;>first|rfl|exact absurd rfl hj|omega) rfl
theorem LU {w:World}{B B':Nat}{v:Value}{l:List Int}(h:Dk.Nums w B' v l)(hB:B<=B'):Dk.Nums w B v l:=by
 refine⟨h.1,?_⟩;rcases h.2 with h1|⟨g,cap,cur,h1,h2,h3⟩
 ·exact .inl h1
 ·exact .inr ⟨g,cap,cur,h1,Nat.le_trans hB h2,h3⟩
theorem qI.more {w0 w:World}{b B:Nat}{t:Tk.bM}{a:Option Addr}{c:Nat}(h:qI w0 w b t a c)(hn:Dk.Nums w B (.slice a t.bo.length c) t.bo)(hbB:b<B)(hB:B<=w.heap.size)(hl:t.bo.length<=200000)(n:Int) :
 ∃a' c' w',(Builtin.append_ #[22,22] 22 #[.slice a t.bo.length c,.slice (some ⟨w.heap.size,0,none⟩) 1 1]).run prog (w.alloc (.cells #[.int .i64 n] 3))=.ok (.slice a' (t.bo.length+1) c') w'/\w'.frozen? ⟨b,6,none⟩=false/\w'.cell? ⟨b,6,none⟩=some (.slice a t.bo.length c)/\b<w'.heap.size/\qI w0 (w'.setCell ⟨b,6,none⟩ (.slice a' (t.bo.length+1) c')) b {t with bo:=t.bo++[n]} a' c'/\Dk.Nums (w'.setCell ⟨b,6,none⟩ (.slice a' (t.bo.length+1) c')) B (.slice a' (t.bo++[n]).length c') (t.bo++[n])/\Dk.aF (λk=>k=b\/B<=k) w (w'.setCell ⟨b,6,none⟩ (.slice a' (t.bo.length+1) c')):=by
 have b1:Below w.heap.size w (w.alloc (.cells #[.int .i64 n] 3)):=(Below.refl _ _).alloc (Nat.le_refl _) _;have h1:=h.next b1;have hlt:=h1.tb.lt;have n1:=hn.below b1;have hB1:B<=(w.alloc (.cells #[.int .i64 n] 3)).heap.size:=Nat.le_trans hB b1.size;obtain⟨v',w',hr,hN,hC⟩:=Dk.Gj (w.alloc (.cells #[.int .i64 n] 3)) B 22 _ t.bo n n1 ⟨w.heap.size,0,none⟩ 1 (World.cell?_alloc_at _ _ _ _ rfl) hl hB1;obtain⟨a',c',rfl,hc',_⟩:=hN.shape;have hlen:(t.bo++[n]).length=t.bo.length+1:=by simp
 rw[hlen] at hr hc';have hob:∀k,(Value.slice a t.bo.length c).ownBlock=some k->B<=k:=λk z=>(World.ownsRow.lt n1 k z).1
 have hnb:¬(Value.slice a t.bo.length c).ownBlock=some b:=λz=>by
  have:=hob b z;omega
 have tb':TB w' b t a c:=h1.tb.same hC.size (λj=>hC.cell (p:=⟨b,j,none⟩) hlt hnb);have fr':∀i,w'.frozen? ⟨b,i,none⟩=false:=λi=>by rw[hC.frozen (p:=⟨b,i,none⟩) hlt hnb];exact h1.fr i
 have ZA:Below b w0 w':=h1.low.trans (hC.below (Nat.le_of_lt hlt) (λk hk z=>by
  have:=hob k z;omega))
 have ZB:Dk.Nums (w'.setCell ⟨b,6,none⟩ (.slice a' (t.bo.length+1) c')) B (.slice a' (t.bo++[n]).length c') (t.bo++[n]):=hN.bW ((Dk.aF.refl (λk=>k=b) w').setCell (p:=⟨b,6,none⟩) (.inl rfl) _) (λg hg z=>by have:g=b:=z;omega);refine⟨a',c',w',hr,fr' 6,tb'.c6,tb'.lt,⟨?_,LU ZB hbB,λj=>by rw[World.frozen?_setCell];exact fr' j,low_set ZA⟩,ZB,?_⟩
 ·have:=tb'.put (t':={t with bo:=t.bo++[n]}) (a':=a') (c':=c') 6 (by omega) (λj _ hj=>by rcases j with _|_|_|_|_|_|_|_|_|_|j<;>first|rfl|exact absurd rfl hj);rw[show TU {t with bo:=t.bo++[n]} a' c' 6=.slice a' (t.bo.length+1) c' by show Value.slice a' (t.bo++[n]).length c'=_;rw[hlen]] at this;exact this
 ·refine Dk.aF.trans (Dk.aF.of_below b1) (Dk.aF.trans ?_ ((Dk.aF.refl (λk=>k=b\/B<=k) w').setCell (p:=⟨b,6,none⟩) (.inl (.inl rfl)) _));exact⟨hC.os,hC.tape,hC.output,hC.size,λk hk hn'=>hC.block k hk (λz=>hn' (.inr (hob k z)))⟩
theorem JH {w:World}{b:Nat}{t:Tk.bM}{a:Option Addr}{c:Nat}(r:TB w b t a c) :
 (loadVar 24 ⟨b,0,none⟩).run prog w=.ok (qZ t a c) w:=by
 have hl:(loadCells ⟨b,0,none⟩ 10).run prog w=.ok #[.string t.n,.string t.f,.int .i64 t.fr,.int .i64 t.st,.int .i64 t.ack,.int .i64 t.wait,.slice a t.bo.length c,.int .i64 t.mo,.int .i64 t.pe,.bool t.pu] w :=
  run_loadCells_list (P:=prog) w ⟨b,0,none⟩ [.string t.n,.string t.f,.int .i64 t.fr,.int .i64 t.st,.int .i64 t.ack,.int .i64 t.wait,.slice a t.bo.length c,.int .i64 t.mo,.int .i64 t.pe,.bool t.pu] (λj v hv=>by
   rw[NZ,Nat.zero_add];match j,hv with
   | 0,hv=>rw[r.c0];simpa using hv
   | 1,hv=>rw[r.c1];simpa using hv
   | 2,hv=>rw[r.c2];simpa using hv
   | 3,hv=>rw[r.c3];simpa using hv
   | 4,hv=>rw[r.c4];simpa using hv
   | 5,hv=>rw[r.c5];simpa using hv
   | 6,hv=>rw[r.c6];simpa using hv
   | 7,hv=>rw[r.c7];simpa using hv
   | 8,hv=>rw[r.c8];simpa using hv
   | 9,hv=>rw[r.c9];simpa using hv)
 have hz:Tryz.t24.size=10:=by kernel_rfl
 simp[loadVar,isAgg,sizeOf];rw[hz,hl];rfl
theorem Vs {fn:Func}{p u:Tmp}{tmps:Array Value}{w:World}{b:Nat}{t:Tk.bM}{a:Option Addr}{c:Nat}(hf:fn.results=#[.cell p 24,.tmp u])(ha:tmps.getD p undef=.pointer (some ⟨b,0,none⟩))(r:TB w b t a c) :
 (results fn tmps).run prog w=.ok (.tuple #[qZ t a c,tmps.getD u undef]) w:=by
 have ha':tmps[p]?.getD undef=.pointer (some ⟨b,0,none⟩):=by simpa using ha
 simp[results,hf,ha',asAddr,JH r]
theorem TB.puts {W:World}{b:Nat}{t':Tk.bM}{a':Option Addr}{c':Nat}(h:TB W b t' a' c')(t:Tk.bM)(a:Option Addr)(c:Nat):TB (Go.Proofs.YtophdoapcdjnjaaGreatDoor.puts W b 0 [.string t.n,.string t.f,.int .i64 t.fr,.int .i64 t.st,.int .i64 t.ack,.int .i64 t.wait,.slice a t.bo.length c,.int .i64 t.mo,.int .i64 t.pe,.bool t.pu]) b t a c:=by
 have key:=(sQ b [.string t.n,.string t.f,.int .i64 t.fr,.int .i64 t.st,.int .i64 t.ack,.int .i64 t.wait,.slice a t.bo.length c,.int .i64 t.mo,.int .i64 t.pe,.bool t.pu] W 0 (λj hj=>by
  have:j<10:=hj;rw[Nat.zero_add,h.cells j this];rfl)).1
 have hsz:=oH b [.string t.n,.string t.f,.int .i64 t.fr,.int .i64 t.st,.int .i64 t.ack,.int .i64 t.wait,.slice a t.bo.length c,.int .i64 t.mo,.int .i64 t.pe,.bool t.pu] W 0;exact⟨Nat.lt_of_lt_of_eq h.lt hsz.symm,key 0 (by simp),key 1 (by simp),key 2 (by simp),key 3 (by simp),key 4 (by simp),key 5 (by simp),key 6 (by simp),key 7 (by simp),key 8 (by simp),key 9 (by simp)⟩
theorem Cj (b:Nat):∀(vs:List Value) (W:World) (o:Nat) (p:Addr),(Go.Proofs.YtophdoapcdjnjaaGreatDoor.puts W b o vs).frozen? p=W.frozen? p
 | [],_,_,_=>rfl
 | _::vs,_,o,p=>by
  show(Go.Proofs.YtophdoapcdjnjaaGreatDoor.puts _ b (o+1) vs).frozen? p=_;rw[Cj b vs,World.frozen?_setCell]
theorem Xi {b:Nat}{a:Option Addr}{l:List Int}(hn:∀z,a=some z->z.block≠b)(vs:List Value)(W:World)(o:Nat)(h:Dk.jm W a l):Dk.jm (Go.Proofs.YtophdoapcdjnjaaGreatDoor.puts W b o vs) a l:=λk hk=>by
 obtain⟨b',o',h1,h2,h3⟩:=h k hk;exact⟨b',o',h1,by rw[oH];exact h2,by rw[wC (hn _ h1)];exact h3⟩
def Zb (w:World)(b:Nat):Prop:=TB w b Tk.lN none 0/\∀j,w.frozen? ⟨b,j,none⟩=false
abbrev ZC:Obj:=.cells #[.string ⟨#[]⟩,.string ⟨#[]⟩,.int .i64 0,.int .i64 0,.int .i64 0,.int .i64 0,.slice none 0 0,.int .i64 0,.int .i64 0,.bool false] 24
theorem Zb.new (w:World):Zb (w.alloc ZC) w.heap.size:=⟨TB.new w Tk.lN none 0,λj=>World.frozen?_alloc_new _ _ _ j⟩
theorem Zb.next {w w':World}{b:Nat}(h:Zb w b)(hb:Below w.heap.size w w'):Zb w' b:=⟨h.1.next hb,λj=>by rw[hb.frozen (p:=⟨b,j,none⟩) h.1.lt];exact h.2 j⟩
theorem Zb.after {w w':World}{b:Nat}{B:Nat}(h:Zb w b)(hb:Below B w w')(hB:b<B):Zb w' b:=⟨h.1.same hb.size (λj=>hb.cell (p:=⟨b,j,none⟩) hB),λj=>by rw[hb.frozen (p:=⟨b,j,none⟩) hB];exact h.2 j⟩
end Go.Proofs.YtophdoapcdjnjaaGreatDoor
namespace Go.Proofs.YtophdoapcdjnjaaGreatDoor.Dk
open Go.RowKit Go.Proofs.Tryz
theorem xY (n:Int)(w:World):Calls prog 33 #[.int .i64 n] w λe w'=>e=.returned (.bool (kN n))/\w'=w:=by
 by_cases h0:0<=n
 ·have g0:decide ((0:Int)<=n)=true:=decide_eq_true h0;have HV:Hid (kN n=decide (n<=1099511627776)):=aj (by unfold kN;rw[g0,Bool.true_and]);go_enter func33,ntmps33;go_wp2_with fail;go_ret;rw[ah HV];exact⟨rfl,rfl⟩
 ·have g0:decide ((0:Int)<=n)=false:=decide_eq_false h0;have HV:Hid (kN n=false):=aj (by unfold kN;rw[g0,Bool.false_and]);go_enter func33,ntmps33;go_wp2_with fail;go_ret;rw[ah HV];exact⟨rfl,rfl⟩
abbrev PZ (so n:Int):Obj:=.cells #[.int .i64 so,.int .i64 n] 42
theorem CG (so n:Int)(w:World):Calls prog 36 #[.agg #[.int .i64 so,.int .i64 n]] w λe w'=>e=.returned (.bool (qC so n))/\Below w.heap.size w w':=by
 have B0:=aj (show Below w.heap.size w (w.alloc (PZ so n)) from(Below.refl _ _).alloc (Nat.le_refl _) _);by_cases h2:so=2
 ·subst h2;by_cases h0:0<=n
  ·have g0:decide ((0:Int)<=n)=true:=decide_eq_true h0;have HV:Hid (qC 2 n=decide (n<=100000)):=aj (by unfold qC;rw[if_pos rfl,g0,Bool.true_and]);go_enter func36,ntmps36;go_wp2_with fail;go_ret;rw[ah HV];exact⟨rfl,ah B0⟩
  ·have g0:decide ((0:Int)<=n)=false:=decide_eq_false h0;have HV:Hid (qC 2 n=false):=aj (by unfold qC;rw[if_pos rfl,g0,Bool.false_and]);go_enter func36,ntmps36;go_wp2_with fail;go_ret;rw[ah HV];exact⟨rfl,ah B0⟩
 ·have e2:(so==2)=false:=by rw[beq_eq_false_iff_ne];exact h2
  by_cases h3:so=1\/so=3\/so=4
  ·have HV:Hid (qC so n=(n==0)):=aj (by
    have hd:decide (n=0)=(n==0):=by rw[Bool.eq_iff_iff];simp
    unfold qC;rw[if_neg h2,hd];rcases h3 with rfl|rfl|rfl<;>rfl)
   rcases h3 with rfl|rfl|rfl;all_goals
    go_enter func36,ntmps36
    go_wp2_with fail
    go_ret
    rw[ah HV]
    exact⟨rfl,ah B0⟩
  ·have HV:Hid (qC so n=false):=aj (by
    unfold qC;rw[if_neg h2,decide_eq_false (by omega),decide_eq_false (by omega),decide_eq_false (by omega)];rfl)
   have e1:(so==1)=false:=by rw[beq_eq_false_iff_ne];omega
   have e3:(so==3)=false:=by rw[beq_eq_false_iff_ne];omega
   have e4:(so==4)=false:=by rw[beq_eq_false_iff_ne];omega
   clear h3 h2;go_enter func36,ntmps36;go_wp2_with fail;go_ret;rw[ah HV];exact⟨rfl,ah B0⟩
section
variable {w:World}{B b:Nat}{c:dM}{a:Option Addr}{ca:Nat}{v:Value}
theorem tZ (h:Cm w B b c a ca v)(hw:iY c.t)(hf:c.t.bo.length<=140737488355328)(n now:Int)(ht:0<=now/\now<=1099511627776) :
 Calls prog 39 #[.pointer (some ⟨b,0,none⟩),.int .i64 n,.int .i64 now] w λe w'=>e=.returned (.int .i64 (now+Tk.dV c.t n))/\Below w.heap.size w w':=by
 have PW:=aj (OB c.t a ca n w h.bo hf);have hb:=vS hw.w hw.b n;obtain⟨_,y0,y1,y2,y3,y4,y5,y6,y7,y8,y9⟩:=h.tb;obtain⟨X,hX⟩:∃X,Tk.dV c.t n=X:=⟨_,rfl⟩;rw[hX] at PW hb;rw[hX];clear hX h hw hf;go_enter func39,ntmps39;go_wp2_with fail;refine(ah PW).mono ?_;rintro e w1 ⟨rfl,b1⟩;have B1:=aj b1;clear PW b1;go_wp2_with fail;go_ret;exact⟨by go_num,ah B1⟩
theorem EW (h:Cm w B b c a ca v)(p:Dv) :
 Calls prog 60 #[.pointer (some ⟨b,0,none⟩),.agg #[.int .i64 p.q,.int .i64 p.n,.int .i64 p.d]] w λe w'=>e=.returned (.bool (kZ c.t p))/\Below w.heap.size w w':=by
 have b0:Below w.heap.size w (w.alloc (.cells #[.int .i64 p.q,.int .i64 p.n,.int .i64 p.d] 78)):=(Below.refl _ _).alloc (Nat.le_refl _) _;have y7:=(h.next b0).tb.c7;have hbl:=h.tb.lt;have HB:=aj (λn=>below_drewN b0 n);obtain⟨M,hM⟩:∃M,c.t.mo=M:=⟨_,rfl⟩;rw[hM] at y7;by_cases h0:M=0
 ·have g0:(M !=0)=false:=by rw[h0];rfl
  have HV:Hid (kZ c.t p=false):=aj (by unfold kZ;rw[hM,h0];rfl);clear h b0 hM h0;go_enter func60,ntmps60;go_wp2_with fail;go_quiet (fail)
  go_wp2_with fail;go_ret;rw[ah HV];exact⟨rfl,ah HB _⟩
 ·have g0:(M !=0)=true:=by simpa using h0
  have HV:Hid (kZ c.t p=decide (M<=p.n)):=aj (by unfold kZ;rw[hM,decide_eq_true h0,Bool.true_and]);clear h b0 hM h0;go_enter func60,ntmps60;go_wp2_with fail;go_quiet (fail)
  go_wp2_with fail;go_ret;rw[ah HV];exact⟨rfl,ah HB _⟩
end
def G5 (l:List Dv)(k:Nat):Int:=(l.take k).foldl (λm x=>min m x.d) (dv l 0).d
theorem lQ {l:List Dv}{k:Nat}(h:k<l.length):dv l k=l[k]:=by unfold dv;rw[List.getElem?_eq_getElem h];rfl
theorem LV {l:List Dv}{k:Nat}(h:k<l.length):G5 l (k+1)=min (G5 l k) (dv l k).d:=by
 unfold G5;rw[List.take_succ_eq_append_getElem h,List.foldl_append,lQ h];rfl
theorem Yb {l:List Dv}(h:l≠[]):G5 l l.length=XZ l:=by
 cases l with
 | nil=>exact absurd rfl h
 | cons p ps =>
  unfold G5 XZ;rw[List.take_length,List.foldl_cons];show ps.foldl _ (min p.d p.d)=_;rw[Int.min_self]
theorem TV {l:List Dv}(hd:∀p∈l,0<=p.d/\p.d<=1099511727776)(h0:0<l.length):∀{k:Nat},k<=l.length->0<=G5 l k/\G5 l k<=1099511727776
 | 0,_=>by
  have:=hd (dv l 0) (by rw[lQ h0];exact List.getElem_mem _);exact this
 | k+1,hk=>by
  have h1:=TV hd h0 (k:=k) (by omega);have h2:=hd (dv l k) (by rw[lQ (show k<l.length by omega)];exact List.getElem_mem _);rw[LV (by omega)];omega
section
variable {w:World}{B b:Nat}{c:dM}{a:Option Addr}{ca:Nat}{v:Value}
end
end Go.Proofs.YtophdoapcdjnjaaGreatDoor.Dk
namespace Go.Proofs.YtophdoapcdjnjaaGreatDoor
open Go.RowKit Go.Proofs.Tryz
theorem dQ (n lo hi:Int)(w:World) :
 Calls prog 87 #[.int .i64 n,.int .i64 lo,.int .i64 hi] w λe w'=>e=.returned (.bool (Tk.inB n lo hi))/\w'=w:=by
 unfold Tk.inB;by_cases h1:lo<=n
 ·have e1:decide (lo<=n)=true:=decide_eq_true h1;rw[e1,Bool.true_and];clear h1;go_enter func87,ntmps87;go_wp2;go_ret;exact⟨rfl,rfl⟩
 ·have e1:decide (lo<=n)=false:=decide_eq_false h1;rw[e1,Bool.false_and];clear h1;go_enter func87,ntmps87;go_wp2;go_ret;exact⟨rfl,rfl⟩
section
variable {t:Tk.bM}{a:Option Addr}{c:Nat}{w:World}
theorem TW:Below w.heap.size w (w.alloc (vC t a c)):=(Below.refl _ _).alloc (Nat.le_refl _) _
theorem LW (t:Tk.bM)(a:Option Addr)(c:Nat)(w:World) :
 Calls prog 55 #[qZ t a c] w λe w'=>e=.returned (.bool (Tk.lg t))/\Below w.heap.size w w':=by
 have B0:=aj (TW (t:=t) (a:=a) (c:=c) (w:=w));obtain⟨_,c0,c1,c2,c3,c4,c5,c6,c7,c8,c9⟩:=TB.new w t a c;unfold Tk.lg;by_cases h3:t.fr=3
 ·rw[if_pos h3];have e3:(t.fr==3)=true:=by simpa using h3
  obtain⟨R,hR⟩:∃R,Tk.inB t.st 1 999999999=R:=⟨_,rfl⟩;have HR:=aj hR;rw[hR];clear h3 hR;go_enter func55,ntmps55;go_wp2_with (go_at_call 87;refine(dQ _ _ _ _).mono ?_;rintro e w2 ⟨rfl,rfl⟩;rw[ah HR]);go_ret;exact⟨rfl,ah B0⟩
 ·rw[if_neg h3];have e3:(t.fr==3)=false:=by simpa using h3
  cases hR:Tk.inB t.fr 0 2 with
  | false =>
   have HR:=aj hR;rw[Bool.false_and];clear h3 hR;go_enter func55,ntmps55;go_wp2_with (go_at_call 87;refine(dQ _ _ _ _).mono ?_;rintro e w2 ⟨rfl,rfl⟩;rw[ah HR]);go_ret;exact⟨rfl,ah B0⟩
  | true =>
   have HR:=aj hR;rw[Bool.true_and];clear h3 hR;go_enter func55,ntmps55;go_wp2_with (go_at_call 87;refine(dQ _ _ _ _).mono ?_;rintro e w2 ⟨rfl,rfl⟩;rw[ah HR]);go_ret;refine⟨?_,ah B0⟩;first|rfl|simp[beq_eq_decide]
theorem LX (t:Tk.bM)(a:Option Addr)(c:Nat)(w:World)(hsl:Dk.jm w a t.bo)(hl:t.bo.length<=140737488355328) :
 Calls prog 88 #[qZ t a c] w λe w'=>e=.returned (.bool (Tk.mJ t))/\Below w.heap.size w w':=by
 have B0:=aj (TW (t:=t) (a:=a) (c:=c) (w:=w));have HS:=aj (bY hsl (ah B0));have HT:=aj (TB.new w t a c);obtain⟨_,c0,c1,c2,c3,c4,c5,c6,c7,c8,c9⟩:=TB.new w t a c;clear hsl;obtain⟨b,hb⟩:∃b,b=w.heap.size:=⟨_,rfl⟩;obtain⟨W,hW⟩:∃W,W=w.alloc (vC t a c):=⟨_,rfl⟩;go_enter func88,ntmps88;go_wp2_with fail;rw[<-hb,<-hW] at HT;rw[<-hW] at HS B0;rw[<-hb,<-hW];clear hb hW c0 c1 c2 c3 c4 c5 c6 c7 c8 c9;go_loop [8] (λiv=>∃i:Nat,iv=.int .i64 i/\i<=t.bo.length/\Hid (∀k,k<i->Tk.inB (Dk.nth t.bo k) 1 100000=true)) (λiv=>t.bo.length-(intOf iv).toNat)
 case atStart=>exact⟨0,rfl,Nat.zero_le _,aj (λk hk=>absurd hk (Nat.not_lt_zero k))⟩
 case round =>
  obtain⟨i,rfl,hi,hq⟩:=hrel;by_cases hlt:i<t.bo.length
  ·obtain⟨g,o,rfl,_,e1⟩:=ah HS i hlt;have hm:Dk.nth t.bo i∈t.bo:=by unfold Dk.nth;rw[List.getElem?_eq_getElem hlt];exact List.getElem_mem hlt
   have HM:=aj hm;obtain⟨x,hx⟩:∃x,x=Dk.nth t.bo i:=⟨_,rfl⟩;rw[<-hx] at e1 HM;have HX:=aj hx;clear hx hm
   cases hR:Tk.inB x 1 100000 with
   | false =>
    have HR:=aj hR;have HE:Hid (Tk.mJ t=false):=aj (by
     unfold Tk.mJ;have:t.bo.all (λn=>Tk.inB n 1 100000)=false:=by
      rw[List.all_eq_false];exact⟨x,ah HM,by rw[hR];decide⟩
     rw[this];rfl)
    clear hR;go_wp2_with (go_at_call 87;refine(dQ _ _ _ _).mono ?_;rintro e w2 ⟨rfl,rfl⟩;rw[ah HR]);go_ret;exact⟨by rw[ah HE];rfl,ah B0⟩
   | true =>
    have HR:=aj hR;clear hR;go_wp2_with (go_at_call 87;refine(dQ _ _ _ _).mono ?_;rintro e w2 ⟨rfl,rfl⟩;rw[ah HR]);go_round
    case rel=>exact⟨i+1,by go_num,by omega,aj (λk hk=>by
     rcases Nat.lt_succ_iff_lt_or_eq.1 hk with q|q
     ·exact ah hq k q
     ·rw[q,<-ah HX];exact ah HR)⟩
    case measure=>simp[intOf];omega
  ·obtain rfl:i=t.bo.length:=by omega
   have HE:Hid (Tk.mJ t=Tk.inB t.wait 1 100000):=aj (by
    unfold Tk.mJ;have:t.bo.all (λn=>Tk.inB n 1 100000)=true:=by
     rw[List.all_eq_true];intro x hx;obtain⟨k,hk,rfl⟩:=List.mem_iff_getElem.1 hx;have:=ah hq k hk;unfold Dk.nth at this;rw[List.getElem?_eq_getElem hk] at this;exact this
    rw[this];rfl)
   obtain⟨R,hR⟩:∃R,Tk.inB t.wait 1 100000=R:=⟨_,rfl⟩;have HR:=aj hR;rw[hR] at HE;have c5:=(ah HT).c5;have hbl:=(ah HT).lt;clear hR hq HS HT;go_wp2_with (go_at_call 87;refine(dQ _ _ _ _).mono ?_;rintro e w2 ⟨rfl,rfl⟩;rw[ah HR]);go_ret;exact⟨by rw[ah HE];rfl,ah B0⟩
end
theorem TY (t:Tk.bM)(a:Option Addr)(c:Nat)(w:World)(hsl:Dk.jm w a t.bo)(hl:t.bo.length<=140737488355328) :
 Calls prog 56 #[qZ t a c] w λe w'=>e=.returned (.bool (Tk.xU t))/\Below w.heap.size w w':=by
 have B0:=aj (TW (t:=t) (a:=a) (c:=c) (w:=w));have HT:=aj (TB.new w t a c);obtain⟨_,c0,c1,c2,c3,c4,c5,c6,c7,c8,c9⟩:=TB.new w t a c;unfold Tk.xU;by_cases h0:t.ack=0
 ·rw[if_pos h0];have e0:(t.ack==0)=true:=by simpa using h0
  clear h0 hsl;by_cases w0:t.wait=0
  ·rw[decide_eq_true w0];have e5:(t.wait==0)=true:=by simpa using w0
   clear w0;by_cases m0:t.mo=0
   ·rw[decide_eq_true m0];have e7:(t.mo==0)=true:=by simpa using m0
    clear m0;by_cases p0:t.pe=0
    ·rw[decide_eq_true p0];have e8:(t.pe==0)=true:=by simpa using p0
     clear p0;by_cases l0:t.bo.length=0
     ·rw[decide_eq_true l0];have e6:((t.bo.length:Int)==0)=true:=by rw[beq_iff_eq];omega
      clear l0;go_enter func56,ntmps56;go_wp2_with fail;go_ret;refine⟨?_,ah B0⟩;first|rfl|simp
     ·rw[decide_eq_false l0];have e6:((t.bo.length:Int)==0)=false:=by rw[beq_eq_false_iff_ne];omega
      clear l0;go_enter func56,ntmps56;go_wp2_with fail;go_ret;refine⟨?_,ah B0⟩;first|rfl|simp
    ·rw[decide_eq_false p0];have e8:(t.pe==0)=false:=by simpa using p0
     clear p0;go_enter func56,ntmps56;go_wp2_with fail;go_ret;refine⟨?_,ah B0⟩;first|rfl|simp
   ·rw[decide_eq_false m0];have e7:(t.mo==0)=false:=by simpa using m0
    clear m0;go_enter func56,ntmps56;go_wp2_with fail;go_ret;refine⟨?_,ah B0⟩;first|rfl|simp
  ·rw[decide_eq_false w0];have e5:(t.wait==0)=false:=by simpa using w0
   clear w0;go_enter func56,ntmps56;go_wp2_with fail;go_ret;refine⟨?_,ah B0⟩;first|rfl|simp
 ·rw[if_neg h0];have e0:(t.ack==0)=false:=by simpa using h0
  by_cases h1:t.ack=1\/t.ack=2
  ·rw[if_pos h1];have PW:=aj (LX t a c (w.alloc (vC t a c)) (bY hsl (ah B0)) hl);obtain⟨A,hA⟩:∃A,Tk.mJ t=A:=⟨_,rfl⟩;rw[hA] at PW ⊢;obtain⟨M,hM⟩:∃M,Tk.inB t.mo 0 20=M:=⟨_,rfl⟩;obtain⟨Q,hQ⟩:∃Q,Tk.inB t.pe 0 50=Q:=⟨_,rfl⟩;have HM:=aj hM;have HQ:=aj hQ;rw[hM,hQ];have HC:=aj (λ(W:World) (hW:Below (w.alloc (vC t a c)).heap.size (w.alloc (vC t a c)) W)=>show W.cell? ⟨w.heap.size,7,none⟩=some (.int .i64 t.mo)/\W.cell? ⟨w.heap.size,8,none⟩=some (.int .i64 t.pe)/\w.heap.size<W.heap.size/\Below w.heap.size w W from⟨((ah HT).next hW).c7,((ah HT).next hW).c8,((ah HT).next hW).lt,aA (ah B0) hW⟩)
   have e1:(t.ack==1)=true\/((t.ack==1)=false/\(t.ack==2)=true):=by
    rcases h1 with h|h
    ·exact .inl (by simpa using h)
    ·exact .inr ⟨by rw[h];decide,by simpa using h⟩
   clear h0 h1 hA hM hQ hsl;go_enter func56,ntmps56;rcases e1 with e1|⟨e1,e2⟩
   ·go_wp2_with fail;refine(ah PW).mono ?_;rintro e w1 ⟨rfl,b1⟩;obtain⟨d7,d8,hbl,be⟩:=ah HC w1 b1;have BE:=aj be;clear PW b1 be HC
    cases A with
    | false =>
     go_wp2_with fail;go_ret;refine⟨?_,ah BE⟩;first|rfl|simp
    | true =>
     cases M with
     | false =>
      go_wp2_with (go_at_call 87;refine(dQ _ _ _ _).mono ?_;rintro e w2 ⟨rfl,rfl⟩;first|rw[ah HM]|rw[ah HQ]);go_ret;refine⟨?_,ah BE⟩;first|rfl|simp
     | true =>
      go_wp2_with (go_at_call 87;refine(dQ _ _ _ _).mono ?_;rintro e w2 ⟨rfl,rfl⟩;first|rw[ah HM]|rw[ah HQ]);go_ret;refine⟨?_,ah BE⟩;first|rfl|simp
   ·go_wp2_with fail;refine(ah PW).mono ?_;rintro e w1 ⟨rfl,b1⟩;obtain⟨d7,d8,hbl,be⟩:=ah HC w1 b1;have BE:=aj be;clear PW b1 be HC
    cases A with
    | false =>
     go_wp2_with fail;go_ret;refine⟨?_,ah BE⟩;first|rfl|simp
    | true =>
     cases M with
     | false =>
      go_wp2_with (go_at_call 87;refine(dQ _ _ _ _).mono ?_;rintro e w2 ⟨rfl,rfl⟩;first|rw[ah HM]|rw[ah HQ]);go_ret;refine⟨?_,ah BE⟩;first|rfl|simp
     | true =>
      go_wp2_with (go_at_call 87;refine(dQ _ _ _ _).mono ?_;rintro e w2 ⟨rfl,rfl⟩;first|rw[ah HM]|rw[ah HQ]);go_ret;refine⟨?_,ah BE⟩;first|rfl|simp
  ·rw[if_neg h1];have e1:(t.ack==1)=false:=by rw[beq_eq_false_iff_ne];exact λz=>h1 (.inl z)
   have e2:(t.ack==2)=false:=by rw[beq_eq_false_iff_ne];exact λz=>h1 (.inr z)
   clear h0 h1 hsl;go_enter func56,ntmps56;go_wp2_with fail;go_ret;exact⟨rfl,ah B0⟩
theorem xZ (t:Tk.bM)(a:Option Addr)(c:Nat)(w:World)(hs:jq t)(hsl:Dk.jm w a t.bo) :
 Calls prog 30 #[qZ t a c] w λe w'=>e=.returned (.int .i64 (Tk.ji t))/\Below w.heap.size w w':=by
 have b0:=TW (t:=t) (a:=a) (c:=c) (w:=w);have PN:=aj (xO t.n (w.alloc (vC t a c)) hs.name);have PF:=aj (λW=>filter_any t.f W hs.filt);have HW:=aj (λ(W:World) (hW:Below (w.alloc (vC t a c)).heap.size (w.alloc (vC t a c)) W)=>show TB W w.heap.size t a c/\Dk.jm W a t.bo/\Below w.heap.size w W from⟨(TB.new w t a c).next hW,bY (bY hsl b0) hW,aA b0 hW⟩);have hl:=hs.many;obtain⟨_,c0,c1,c2,c3,c4,c5,c6,c7,c8,c9⟩:=TB.new w t a c;have Qa:Hid (Pn.bD t.n=false->Tk.ji t=3):=aj (λh=>by unfold Tk.ji;rw[if_pos h]);have Rq:Hid (Pn.bD t.n=true->Tk.ji t=if aB true t.f≠0 then aB true t.f else if 5<t.bo.length then 2 else if (Tk.lg t&&Tk.xU t)=true then 0 else 1):=aj (λh=>by unfold Tk.ji;rw[if_neg (by rw[h];simp)])
 obtain⟨N,hN⟩:∃N,Pn.bD t.n=N:=⟨_,rfl⟩;rw[hN] at PN Qa Rq;obtain⟨E,hE⟩:∃E,aB true t.f=E:=⟨_,rfl⟩;rw[hE] at PF Rq;obtain⟨R,hR⟩:∃R,Tk.ji t=R:=⟨_,rfl⟩;rw[hR] at Qa Rq ⊢;have PS:=aj (λ(W:World)=>LW t a c W);have PA:=aj (λ(W:World) (h:Dk.jm W a t.bo)=>TY t a c W h hl);obtain⟨SB,hSB⟩:∃SB,Tk.lg t=SB:=⟨_,rfl⟩;obtain⟨AB,hAB⟩:∃AB,Tk.xU t=AB:=⟨_,rfl⟩;rw[hSB] at PS Rq;rw[hAB] at PA Rq;clear hN hE hR hSB hAB hs hsl b0;go_enter func30,ntmps30;go_wp2_with fail;refine(ah PN).mono ?_;rintro e w0 ⟨rfl,hw0⟩;rw[hw0];clear hw0 PN
 cases N with
 | false =>
  obtain rfl:R=3:=ah Qa rfl;have BE:=aj (ah HW _ (Below.refl _ _)).2.2;clear Qa Rq HW;go_wp2_with fail;go_ret;exact⟨rfl,ah BE⟩
 | true =>
  have HR:=aj (ah Rq rfl);clear Qa Rq;have zZ:=aj (ah PF (w.alloc (vC t a c)));clear PF;go_wp2_with fail;refine(ah zZ).mono ?_;rintro e w1 ⟨rfl,b1⟩;obtain⟨tb,hs1,be⟩:=ah HW w1 b1;have BE:=aj be;have B1:=aj b1;have Wj:=aj (ah PS w1);clear zZ b1 be PS c0 c1 c2 c3 c4 c5 c6 c7 c8 c9;obtain⟨hbl,c0,c1,c2,c3,c4,c5,c6,c7,c8,c9⟩:=tb;by_cases hE0:E=0
  ·subst hE0;by_cases h5:5<t.bo.length
   ·have hd:(5:Int)<(t.bo.length:Int):=by omega
    obtain rfl:R=2:=by rw[ah HR,if_neg (by simp),if_pos h5]
    clear HR h5 Wj PA HW;go_wp2_with fail;go_ret;exact⟨rfl,ah BE⟩
   ·have hd:decide ((5:Int)<(t.bo.length:Int))=false:=decide_eq_false (by omega);have HR2:=aj (show R=if (SB&&AB)=true then 0 else 1 from by rw[ah HR,if_neg (by simp),if_neg h5]);clear HR h5;go_wp2_with fail;refine(ah Wj).mono ?_;rintro e w2 ⟨rfl,b2⟩;have B2:=aj (aA (ah B1) b2);obtain⟨tb,hs2,be⟩:=ah HW w2 (ah B2);have BE2:=aj be;have ZE:=aj (ah PA w2 hs2);clear Wj b2 be PA c0 c1 c2 c3 c4 c5 c6 c7 c8 c9 hbl hs2;obtain⟨hbl,c0,c1,c2,c3,c4,c5,c6,c7,c8,c9⟩:=tb
    cases SB with
    | false =>
     obtain rfl:R=1:=by rw[ah HR2];rfl
     clear HR2 ZE HW;go_wp2_with fail;go_ret;exact⟨rfl,ah BE2⟩
    | true =>
     go_wp2_with fail;refine(ah ZE).mono ?_;rintro e w3 ⟨rfl,b3⟩;obtain⟨_,_,be⟩:=ah HW w3 (aA (ah B2) b3);have BE3:=aj be;clear ZE b3 be c0 c1 c2 c3 c4 c5 c6 c7 c8 c9 hbl HW
     cases AB with
     | false =>
      obtain rfl:R=1:=by rw[ah HR2];rfl
      clear HR2;go_wp2_with fail;go_ret;exact⟨rfl,ah BE3⟩
     | true =>
      obtain rfl:R=0:=by rw[ah HR2];rfl
      clear HR2;go_wp2_with fail;go_ret;exact⟨rfl,ah BE3⟩
  ·have e5:(E !=0)=true:=by simpa using hE0
   obtain rfl:R=E:=by rw[ah HR,if_pos hE0]
   clear HR hE0 Wj PA HW;go_wp2_with fail;go_ret;exact⟨rfl,ah BE⟩
def FZ (p:Pn.dN)(a:Option Addr)(c:Nat):Value:=uN p.n a p.f.length c (Dk.nth p.v 0) (Dk.nth p.v 1) (Dk.nth p.v 2) (Dk.nth p.v 3) (Dk.nth p.v 4) (Dk.nth p.v 5) (Dk.nth p.v 6) (Dk.nth p.v 7)
structure oq (p:Pn.dN):Prop where
 name:p.n.size<=140737488355328
 each:∀k,k<p.f.length->(tk p.f k).size<=140737488355328
 many:p.f.length<=140737488355328
 nums:p.v.length=8
theorem Yc {w:World}{B g cap:Nat}{l:List ByteArray}(h:Own w B g cap l):jg w (some ⟨g,0,none⟩) l:=λk hk=>by
 have hr:=World.ownsRow.cellAt h k (by simpa using hk);refine⟨g,0,rfl,(own_base h).2,?_⟩;rw[Nat.zero_add,hr,List.getElem?_map];unfold tk;rw[List.getElem?_eq_getElem hk];rfl
theorem Ua {W:World}{b k j i:Nat}{x:Value}(h:k≠b):(W.setCell ⟨b,i,none⟩ x).cell? ⟨k,j,none⟩=W.cell? ⟨k,j,none⟩:=World.cell?_setCell_other _ _ _ _ (by intro e;injection e;omega)
theorem jg.far {W:World}{a:Option Addr}{l:List ByteArray}{b i:Nat}{x:Value}(h:jg W a l)(hn:∀z,a=some z->z.block≠b):jg (W.setCell ⟨b,i,none⟩ x) a l:=λk hk=>by
 obtain⟨b',o,h1,h2,h3⟩:=h k hk;exact⟨b',o,h1,by simpa[World.setCell] using h2,by rw[Ua (hn _ h1)];exact h3⟩
def bK (w:World)(B:Nat)(v:Value)(l:List ByteArray):Prop:=w.ownsRow B 9 1 v l.length (l.map Value.string)
theorem bK.lit (w:World)(x y:ByteArray):bK (w.alloc (.cells #[.string x,.string y] 9)) w.heap.size (.slice (some ⟨w.heap.size,0,none⟩) 2 2) [x,y]:=World.ownsRow_lit (base:=w.heap.size) (e:=9) (size:=1) w #[.string x,.string y] 2 (Nat.le_refl _) (by unfold maxLen;omega) (by simp)
theorem bK.below {w w':World}{B:Nat}{v:Value}{l:List ByteArray}(h:bK w B v l)(hb:Below w.heap.size w w'):bK w' B v l:=by
 refine⟨h.1,?_⟩;rcases h.2 with q|⟨g,cap,cur,h1,h2,h3,r⟩
 ·exact .inl q
 ·refine .inr ⟨g,cap,cur,h1,h2,?_,r⟩;rw[hb.block g (World.ownsRow.lt h g (by rw[h1];rfl)).2];exact h3
theorem Qb {w wr:World}{B:Nat}{v:Value}{l:List ByteArray}(h:bK wr B v l)(hb:Below B w wr)(t:ByteArray)(hl:l.length<=200000)(hB:B<=wr.heap.size) :
 ∃v8 w8,(Builtin.append_ #[50,50] 50 #[v,.slice (some ⟨wr.heap.size,0,none⟩) 1 1]).run prog (wr.alloc (.cells #[.string t] 9))=.ok v8 w8/\bK w8 B v8 (l++[t])/\Below B w w8:=by
 have hb7:Below wr.heap.size wr (wr.alloc (.cells #[.string t] 9)):=(Below.refl _ _).alloc (Nat.le_refl _) _;have h7:=h.below hb7;obtain⟨i0,hi,hz0,hz1,hz2⟩:=info_parts info9;obtain⟨v',w',hr,h2,h3,h4⟩:=run_append_own (P:=prog) (wr.alloc (.cells #[.string t] 9)) B 50 50 9 i0 (.string ByteArray.empty) 1 16 underlying50 hi hz0 hz1 hz2 rfl (by omega) v l.length (l.map Value.string) h7 ⟨wr.heap.size,0,none⟩ 1 1 [.string t] rfl (Rz _ _ _) (one_cell _) (by unfold maxLen;omega) (by omega) (Nat.le_trans hB hb7.size);refine⟨v',w',hr,?_,?_⟩
 ·unfold bK;rw[List.length_append,List.map_append];exact h2
 ·refine(hb.trans (hb7.mono hB)).grown h3 (Nat.le_trans hB hb7.size) ?_;intro j hj;exact(World.ownsRow.lt h j hj).1
theorem bK.sl {w:World}{B:Nat}{v:Value}{l:List ByteArray}(h:bK w B v l)(h0:0<l.length):∃g cap,v=.slice (some ⟨g,0,none⟩) l.length cap/\l.length<=cap/\jg w (some ⟨g,0,none⟩) l:=by
 obtain⟨n,hn⟩:∃n,l.length=n+1:=⟨l.length-1,by omega⟩;have h':=h;unfold bK at h';rw[hn] at h';obtain⟨g,cap,rfl⟩:=NR h';refine⟨g,cap,by rw[hn],?_,λk hk=>⟨g,0,rfl,(World.ownsRow.lt h' g rfl).2,?_⟩⟩
 ·rcases h'.2 with ⟨e,_⟩|⟨g',cap',cur,e,_,_,hn',_⟩
  ·simp at e
  ·simp only[Value.slice.injEq] at e;omega
 ·rw[Nat.zero_add,World.ownsRow.cellAt h' k (by omega),List.getElem?_map,List.getElem?_eq_getElem hk];unfold tk;rw[List.getElem?_eq_getElem hk];rfl
theorem bK.bW {A:Nat->Prop}{w w':World}{B:Nat}{v:Value}{l:List ByteArray}(h:bK w B v l)(hc:Dk.aF A w w')(hn:∀g,B<=g->¬A g):bK w' B v l:=by
 refine⟨h.1,?_⟩;rcases h.2 with q|⟨g,cap,cur,h1,h2,h3,r⟩
 ·exact .inl q
 ·refine .inr ⟨g,cap,cur,h1,h2,?_,r⟩;have hg:=World.ownsRow.lt h g (by rw[h1];rfl);rw[hc.block g hg.2 (hn g hg.1)];exact h3
theorem bK.nil (w:World)(B:Nat):bK w B (.slice none 0 0) []:=⟨by simp,.inl ⟨rfl,rfl⟩⟩
theorem bK.shape {w:World}{B:Nat}{v:Value}{l:List ByteArray}(h:bK w B v l):∃a c,v=.slice a l.length c/\l.length<=c/\jg w a l:=by
 by_cases h0:0<l.length
 ·obtain⟨g,cap,e,hc,hs⟩:=h.sl h0;exact⟨_,cap,e,hc,hs⟩
 ·have hl:l=[]:=List.length_eq_zero_iff.1 (by omega);subst hl;rcases h.2 with ⟨e,_⟩|⟨g,cap,cur,h1,h2,h3,r⟩
  ·exact⟨none,0,e,Nat.le_refl _,λk hk=>by simp at hk⟩
  ·exact⟨_,cap,h1,by simp,λk hk=>by simp at hk⟩
end Go.Proofs.YtophdoapcdjnjaaGreatDoor
namespace Go.Proofs.YtophdoapcdjnjaaGreatDoor.Dk
open Go.RowKit Go.Proofs.Tryz
def Safe (es:List aC)(recs:List Rc):Prop:=(es=[]/\recs=[])\/mW es recs recs.length
def pJ (es:List aC):Prop:=∀x∈es,x.sure=(x.text.size:Int)
theorem Safe.Qc {es:List aC}{recs:List Rc}(h:Safe es recs):pJ es:=by
 rcases h with ⟨rfl,_⟩|⟨pre,e,A,L,j,rfl,rfl,hw,hs,he,hg,hj,hsu,hn⟩
 ·intro x hx;cases hx
 ·intro x hx;rcases List.mem_append.1 hx with y|y
  ·exact hs x y
  ·rw[List.mem_singleton.1 y,hsu,he];rw[List.length_append] at hn;rw[List.take_of_length_le (by omega)]
theorem Safe.opens {es:List aC}{recs:List Rc}(h:Safe es recs):bG es=(recs,es):=by
 rcases h with ⟨rfl,rfl⟩|⟨pre,e,A,L,j,rfl,rfl,hw,hs,he,hg,hj,hsu,hn⟩
 ·rfl
 ·rw[iR _ hw,dI (by rw[he];exact qo hg)];simp[bG]
theorem LY {x:aC}(h:x.sure=(x.text.size:Int))(keep:Int):iL keep x=x:=by
 have hat:eU x keep=x.text.size:=by unfold eU;rw[h];omega
 unfold iL;rw[hat];have:x.text.extract 0 x.text.size=x.text:=by
  apply ByteArray.ext;simp
 rw[this]
 cases x
 simp only at h;rw[h]
theorem pJ.stop {es:List aC}(h:pJ es)(keep:Int):es.map (iL keep)=es:=by
 conv=>rhs;rw[<-List.map_id es]
 exact List.map_congr_left (λx hx=>LY (h x hx) keep)
theorem pJ.sync {es:List aC}(h:pJ es)(n:Int):jA es n=es:=by
 unfold jA;split
 ·rename_i hi;have hs:=h _ (pY hi);have e:({pa es (ix es n) with sure:=((pa es (ix es n)).text.size:Int)}:aC)=pa es (ix es n):=by
   cases hp:pa es (ix es n)
   rw[hp] at hs;simp only at hs;rw[hs]
  rw[e,fP hi];exact List.set_getElem_self hi
 ·rfl
theorem pJ.Jd {es:List aC}(h:pJ es):kX es=es:=by
 unfold kX;split
 ·rfl
 ·exact h.sync _
theorem pJ.log {es:List aC}(h:pJ es)(m size:Int)(r:Rc):jZ es m size r=jd es m size r:=by
 by_cases h0:(jd es m size r).1=0
 ·exact Bh h0
 ·rw[wO h0];refine Prod.ext rfl ?_;unfold jd at h0 ⊢;split
  ·rfl
  ·rename_i hc;rw[if_neg hc] at h0;split
   ·rename_i hl;rw[if_pos hl] at h0;have h1:iH es m 0 (gB r)≠0:=h0;exact(lX h1).symm
   ·rename_i hl;rw[if_neg hl] at h0;split
    ·rename_i hf;rw[if_pos hf] at h0;rw[h.sync] at h0 ⊢;have h1:iH es m ((gG es).n+1) (gB r)≠0:=h0;exact(lX h1).symm
    ·rename_i hf;rw[if_neg hf] at h0;have h1:iH es m (gG es).n (gB r)≠0:=h0;exact(lX h1).symm
theorem Safe.append {m size:Int}{es:List aC}{recs:List Rc}(h:Safe es recs)(ht:Tidy m es){r:Rc}(h0:(jZ es m size r).1=0):Safe (kX (jZ es m size r).2) (recs++[r]):=by
 right;rcases h with ⟨rfl,rfl⟩|h
 ·have hR:(jd [] m size r).1=0:=by
   apply Classical.byContradiction;intro z;rw[wO z] at h0;exact z h0
  have hl:mW (jZ [] m size r).2 ([]++[r]) 0:=by
   rw[Bh hR];have hc:dJ r=0:=by
    apply Classical.byContradiction;intro z;unfold jd at hR;rw[if_pos z] at hR;exact z hR
   have e:jd [] m size r=(iH [] m 0 (gB r),kU [] m 0 (gB r)):=by
    unfold jd;rw[if_neg (by rw[hc];simp),if_pos (show([]:List aC).length=0 from rfl)]
   rw[e] at hR ⊢;have hR':iH [] m 0 (gB r)=0:=hR;obtain⟨hI,hf⟩:=qh.1 hR';have ea:kU [] m 0 (gB r)=[⟨0,0,gB r⟩]:=by
    unfold kU;rw[if_neg (by rw[hI];simp),if_neg (by rw[hf];simp),if_neg (by simp[ix])];rfl
   refine⟨[],⟨0,0,gB r⟩,[],[r],0,by simp only;rw[ea];rfl,rfl,rfl,λx hx=>(by cases hx),?_,?_,Nat.zero_le _,?_,Nat.zero_le _⟩
   ·show gB r=gu [r];simp[gu]
   ·intro x hx;rw[List.mem_singleton.1 hx];exact hc
   ·simp[gu]
  exact hl.sync (ht.logp size r)
 ·exact((h.SX ht r).1 h0).sync (ht.logp size r)
theorem Safe.rewrite {m size:Int}{es:List aC}{l:List Rc}(hg:Good l)(h0:(wP es m size l).1=0):Safe (wP es m size l).2 l:=by
 right;unfold wP at h0 ⊢;split
 ·rename_i h;rw[if_pos h] at h0;exact absurd h0 h
 ·rename_i h;rw[if_neg h] at h0;split
  ·rename_i h1;rw[if_pos h1] at h0;cases h0
  ·rename_i h1;rw[if_neg h1] at h0;split
   ·rename_i h2;rw[if_pos h2] at h0;exact absurd h0 h2
   ·exact⟨[],⟨D7 es,((gu l).size:Int),gu l⟩,[],l,l.length,rfl,rfl,rfl,λx hx=>(by cases hx),rfl,hg,Nat.le_refl _,by rw[List.take_length],by simp⟩
theorem Ub {m size:Int}{es:List aC}{l:List Rc}(h0:(wP es m size l).1≠0):(wP es m size l).2=es:=by
 unfold wP at h0 ⊢;split
 ·rfl
 ·rename_i h;rw[if_neg h] at h0;split
  ·rfl
  ·rename_i h1;rw[if_neg h1] at h0;split
   ·rfl
   ·rename_i h2;rw[if_neg h2] at h0;exact absurd rfl h0
def uS (l:List Rc):aX:=l.foldl jF ⟨[],0⟩
theorem qF (l:List Rc)(r:Rc):uS (l++[r])=jF (uS l) r:=by unfold uS;rw[List.foldl_append];rfl
theorem Aa:∀(l:List Rc) {s:aX},s.Ok->(l.foldl jF s).Ok
 | [],_,h=>h
 | r::l,_,h=>Aa l (h.apply r)
theorem Qd (l:List Rc):(uS l).Ok:=Aa l aX.Ok.nil
def uT (n:Int):Rc:=⟨4,n,0,⟨#[]⟩,⟨#[]⟩,⟨#[]⟩⟩
def yc (s:aX):List Rc:=s.l++(if 0<s.last then [uT s.last] else [])
theorem Qe {n:Int}(h:1<=n/\n<=1099511627776):dJ (uT n)=0:=by
 unfold dJ uT Rc.pk Pk.chk;simp[Pk.inB];omega
def yR (l:List Rc):Int:=(l.getLast?.map (·.q)).getD 0
theorem Ac (l:List Rc)(r:Rc):yR (l++[r])=r.q:=by unfold yR;simp
theorem EX (a b:List Rc):eH a<=eH (a++b):=by
 rw[jM,jM];refine nR _ _ (jh _) (λs hs=>(iC _ s).2 ?_);rw[uP,(iC a s).1 hs];rfl
theorem sG {s:aX}(h:s.Ok):∀(k:Nat),k<=s.l.length->uS (s.l.take k)=⟨s.l.take k,yR (s.l.take k)⟩
 | 0,_=>rfl
 | k+1,hk=>by
  have hlt:k<s.l.length:=by omega
  have ih:=sG h k (by omega);have hm:=List.getElem_mem hlt;obtain⟨hk1,hc⟩:=h.msg _ hm;have hq:=h.seq hm;rw[List.take_succ_eq_append_getElem hlt,qF,ih];have hlo:¬(s.l[k]).q<=yR (s.l.take k):=by
   cases k with
   | zero=>simp[yR];omega
   | succ j =>
    rw[List.take_succ_eq_append_getElem (by omega),Ac];have:=List.pairwise_iff_getElem.1 h.rise j (j+1) (by omega) hlt (by omega);omega
  have hnm:¬(dP (s.l.take k) (s.l[k]).s=false/\100<=eH (s.l.take k)):=λz=>by
   have h1:=EX (s.l.take (k+1)) (s.l.drop (k+1));rw[List.take_append_drop,List.take_succ_eq_append_getElem hlt,mF,z.1] at h1;have:=h.names;simp at h1;omega
  have hfw:¬200<=(s.l.take k).length:=by
   have:=h.few;rw[List.length_take];omega
  have ht:dG ⟨s.l.take k,yR (s.l.take k)⟩ s.l[k]=0:=by
   unfold dG;rw[if_neg (by rw[hc];simp),if_neg (by omega),if_neg (by omega),if_neg hlo,if_neg (λz=>by rcases z with z|z;exact hfw z;exact hnm z)]
  unfold jF;rw[if_neg (by rw[ht];simp),if_pos hk1,Ac]
theorem Wl {s:aX}(h:s.Ok):uS (yc s)=s/\Good (yc s):=by
 have hf:=sG h s.l.length (Nat.le_refl _);rw[List.take_length] at hf;have hl:=h.last;unfold yc;by_cases h0:0<s.last
 ·rw[if_pos h0];have hmk:=Qe (n:=s.last) (by omega);constructor
  ·rw[qF,hf];have ht:dG ⟨s.l,yR s.l⟩ (uT s.last)=0:=by
    unfold dG;rw[if_neg (by rw[hmk];simp),if_neg (by simp[uT]),if_pos (by simp[uT])]
   have he:yR s.l<=s.last:=by
    unfold yR
    cases hg:s.l.getLast? with
    | none=>simp;omega
    | some x=>simp;exact h.low x (List.mem_of_getLast? hg)
   unfold jF;rw[if_neg (by rw[ht];simp),if_neg (by simp[uT]),if_pos (by simp[uT])];show aX.mk s.l (max (yR s.l) s.last)=s;rw[Int.max_eq_right he]
  ·intro x hx;rcases List.mem_append.1 hx with y|y
   ·exact(h.msg x y).2
   ·rw[List.mem_singleton.1 y];exact hmk
 ·rw[if_neg h0,List.append_nil];have hn:s.l=[]:=by
   cases hs:s.l with
   | nil=>rfl
   | cons x l =>
    have hx:x∈s.l:=by rw[hs];exact List.mem_cons_self ..
    have:=h.low x hx;have:=(h.seq hx).1;omega
  constructor
  ·rw[hf,hn];show aX.mk [] 0=s
   cases s
   simp only at hn hl h0 ⊢;rw[hn];congr
   omega
  ·rw[hn];intro x hx
   cases hx
structure lu (m:Int)(es:List aC)(s:aX):Prop where
 tidy:Tidy m es
 safe:∃recs,Safe es recs/\uS recs=s
theorem lu.nil {m:Int}(h:0<=m):lu m [] ⟨[],0⟩:=⟨Tidy.nil h,[],.inl ⟨rfl,rfl⟩,rfl⟩
theorem lu.ok {m:Int}{es:List aC}{s:aX}(h:lu m es s):s.Ok:=by
 obtain⟨recs,_,rfl⟩:=h.safe;exact Qd recs
theorem lu.Qc {m:Int}{es:List aC}{s:aX}(h:lu m es s):pJ es:=by
 obtain⟨recs,h1,_⟩:=h.safe;exact h1.Qc
def qJ (es:List aC)(s:aX)(m size:Int)(r:Rc):Int:=if dG s r≠0 then dG s r else (jZ es m size r).1
def yg (es:List aC)(s:aX)(m size:Int)(r:Rc):List aC:=if qJ es s m size r=0 then kX (jZ es m size r).2 else es
def kQ (es:List aC)(s:aX)(m size:Int)(r:Rc):aX:=if qJ es s m size r=0 then jF s r else s
theorem JI {es:List aC}{s:aX}{m size:Int}{r:Rc}(h:qJ es s m size r=0):dG s r=0/\(jZ es m size r).1=0:=by
 unfold qJ at h;by_cases z:dG s r=0
 ·rw[if_neg (by rw[z];simp)] at h;exact⟨z,h⟩
 ·rw[if_pos z] at h;exact absurd h z
theorem lu.did {m size:Int}{es:List aC}{s:aX}(h:lu m es s)(r:Rc):lu m (yg es s m size r) (kQ es s m size r):=by
 unfold yg kQ;by_cases h0:qJ es s m size r=0
 ·rw[if_pos h0,if_pos h0];obtain⟨recs,h1,h2⟩:=h.safe;refine⟨(h.tidy.logp size r).Jd,recs++[r],h1.append h.tidy (JI h0).2,?_⟩;rw[qF,h2]
 ·rw[if_neg h0,if_neg h0];exact h
def aak (es:List aC)(s:aX)(m size:Int):Int:=(wP es m size (yc s)).1
def Vt (es:List aC)(s:aX)(m size:Int):List aC:=(wP es m size (yc s)).2
theorem lu.comp {m size:Int}{es:List aC}{s:aX}(h:lu m es s):lu m (Vt es s m size) s:=by
 unfold Vt;obtain⟨r1,r2⟩:=Wl h.ok;by_cases h0:(wP es m size (yc s)).1=0
 ·exact⟨h.tidy.rewritten size _,yc s,Safe.rewrite r2 h0,r1⟩
 ·rw[Ub h0];exact h
theorem lu.crash {m:Int}{es:List aC}{s:aX}(h:lu m es s)(keep:Int):es.map (iL keep)=es/\(bG es).2=es/\uS (bG es).1=s:=by
 obtain⟨recs,h1,h2⟩:=h.safe;rw[h1.opens];exact⟨h1.Qc.stop keep,rfl,h2⟩
theorem CJ (n:ByteArray):∀u∈[Value.string n],u.oneCell'=true:=by
 intro u hu;simp at hu;subst hu;rfl
theorem Qg (b o i:Nat):(⟨b,o,none⟩:Addr).add i=⟨b,o+i,none⟩:=by unfold Addr.add;split<;>simp_all
theorem LZ (w:World)(n:Nat)(hn:n<=8796093021952):∃w1,(Instr.makeSlice 50 (.int .i64 0) (.int .i64 ((n:Int)+3))).run prog w=.ok (.slice (some ⟨w.heap.size,0,none⟩) 0 (n+3)) w1/\bK w1 w.heap.size (.slice (some ⟨w.heap.size,0,none⟩) 0 (n+3)) []/\Below w.heap.size w w1:=by
 obtain⟨i0,hi,hz0,hz1,hz2⟩:=info_parts info9;obtain⟨w1,h1,h2,h3⟩:=run_make_own (P:=prog) w w.heap.size 50 9 i0 _ 1 underlying50 hi hz0 hz1 .i64 .i64 (n+3) (by rw[hz2];omega) (by unfold maxLen;omega) (Nat.le_refl _);exact⟨w1,by rw[show((n:Int)+3)=((n+3:Nat):Int) by omega];exact h1,h2,(Below.refl _ _).grown h3 (Nat.le_refl _) (λj hj=>by cases hj)⟩
theorem EY (w:World)(B g cap:Nat)(k:List ByteArray)(ha:bK w B (.slice (some ⟨g,0,none⟩) 0 cap) [])(a:Option Addr)(c:Nat)(hk:jg w a k)(hl:k.length<=8796093021952)(hB:B<=w.heap.size) :
 ∃v' w',(Builtin.append_ #[50,50] 50 #[.slice (some ⟨g,0,none⟩) 0 cap,.slice a k.length c]).run prog w=.ok v' w'/\bK w' B v' k/\aF (λj=>j=g) w w':=by
 obtain⟨i0,hi,hz0,hz1,hz2⟩:=info_parts info9;match a with
 | none =>
  have h0:k=[]:=by
   cases k with
   | nil=>rfl
   | cons x xs=>obtain⟨_,_,e,_⟩:=hk 0 (by simp);cases e
  subst h0;have hr:=run_append_room_src (P:=prog) w 50 50 50 9 i0 underlying50 hi g 0 0 cap (.slice none 0 c) 0 [] (Src.ofNil w underlying50 c) (by omega) (λj hj=>by cases hj) (λj hj=>by cases hj);exact⟨_,_,hr,ha,aF.refl _ _⟩
 | some a =>
  obtain⟨v',w',hr,h2,h3,h4⟩:=run_append_own (P:=prog) w B 50 50 9 i0 _ 1 16 underlying50 hi hz0 hz1 hz2 rfl (by omega) _ 0 [] ha a k.length c (k.map Value.string) (by simp) (λj u hj=>by
   rw[List.getElem?_map] at hj;obtain⟨y,hy,rfl⟩:=Option.map_eq_some_iff.1 hj;have hjl:j<k.length:=(List.getElem?_eq_some_iff.1 hy).1;obtain⟨b,o,e,_,hc⟩:=hk j hjl
   cases e
   rw[Qg,hc];unfold tk;rw[hy];rfl) (λu hu=>by obtain⟨y,_,rfl⟩:=List.mem_map.1 hu;exact CJ y _ (by simp)) (by unfold maxLen;omega) (by omega) hB
  refine⟨v',w',hr,?_,(aF.cu h3).mono (λj _ e=>(Option.some.inj (show some g=some j from e)).symm)⟩;unfold bK;rw[Nat.zero_add] at h2;exact h2
theorem CO (w:World)(B:Nat)(v:Value)(l:List ByteArray)(x y:ByteArray)(ha:bK w B v l)(b:Nat)(h0:w.cell? ⟨b,0,none⟩=some (.string x))(h1:w.cell? ⟨b,1,none⟩=some (.string y))(hl:l.length<=8796093021952)(hB:B<=w.heap.size) :
 ∃g cap w',(Builtin.append_ #[50,50] 50 #[v,.slice (some ⟨b,0,none⟩) 2 2]).run prog w=.ok (.slice (some ⟨g,0,none⟩) (l.length+2) cap) w'/\l.length+2<=cap/\cap<=maxLen/\bK w' B (.slice (some ⟨g,0,none⟩) (l.length+2) cap) (l++[x,y])/\aF (λk=>v.ownBlock=some k) w w':=by
 obtain⟨i0,hi,hz0,hz1,hz2⟩:=info_parts info9;obtain⟨v',w',hr,h2,h3,h4⟩:=run_append_own (P:=prog) w B 50 50 9 i0 _ 1 16 underlying50 hi hz0 hz1 hz2 rfl (by omega) v l.length (l.map Value.string) ha ⟨b,0,none⟩ 2 2 [.string x,.string y] rfl (λj u hj=>by
  match j,hj with
  | 0,hj=>rw[Qg,h0];simpa using hj
  | 1,hj=>rw[Qg,h1];simpa using hj) (λu hu=>by simp at hu;rcases hu with rfl|rfl;exact CJ x _ (by simp);exact CJ y _ (by simp)) (by unfold maxLen;omega) (by omega) hB
 have hN:bK w' B v' (l++[x,y]):=by
  unfold bK;rw[List.length_append,List.map_append];exact h2
 rcases hN.2 with ⟨_,e⟩|⟨g,cap,cur,e1,e2,e3,e4,e5,e6,e7⟩
 ·simp at e
 ·have hn:(l++[x,y]).length=l.length+2:=by simp
  rw[hn] at e1 e4;subst e1;exact⟨g,cap,w',hr,e4,e5,hN,aF.cu h3⟩
end Go.Proofs.YtophdoapcdjnjaaGreatDoor.Dk
