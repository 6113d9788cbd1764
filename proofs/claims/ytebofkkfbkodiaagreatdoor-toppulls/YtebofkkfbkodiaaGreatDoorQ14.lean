/- A part. -/
import Derived.Test.YtebofkkfbkodiaaGreatDoorQ11
namespace Go.Proofs.YtebofkkfbkodiaaGreatDoor.Pn
open Go Go.Proofs.Tryz
def dR:List (List UInt8):=[[109,115,103,115],[98,121,116,101,115],[97,103,101],[112,101,114],[115,105,122,101],[100,105,115,99,97,114,100],[107,101,101,112],[119,105,110,100,111,119]]
def fV:List Int:=[200,65536,100000,200,256,1,2,100000]
structure aX where
 n:ad
 f:List ad
 v:List Int
def nameB (c:UInt8):Bool:=(decide (97<=c.toNat)&&decide (c.toNat<=122))||((decide (48<=c.toNat)&&decide (c.toNat<=57))||decide (c.toNat=45))
def eF (s:ad):Bool:=s.data.toList.all nameB&&(decide (1<=s.size)&&decide (s.size<=16))
def kF:List ad->Int
 | []=>0
 | f::r=>if aC true f=0 then kF r else aC true f
def laps:List ad->Bool
 | []=>false
 | f::r=>r.any (λg=>dY (Pl.toks f) (Pl.toks g))||laps r
def gY:List Int->List Int->Bool
 | [],[]=>true
 | x::v,m::ms=>(decide (0<=x)&&decide (x<=m))&&gY v ms
 | _,_=>false
def aZ (p:aX):Int:=if eF p.n=false then 3 else if 4<p.f.length then 2 else if p.f.length=0 then 1 else if kF p.f≠0 then kF p.f else if laps p.f=true then 10 else if gY p.v fV=true then 0 else 1
theorem kU {p:aX}(h:aZ p=0):eF p.n=true/\p.f.length<=4/\p.f.length≠0/\kF p.f=0/\laps p.f=false/\gY p.v fV=true:=by
 unfold aZ at h;by_cases h1:eF p.n=false
 ·rw[if_pos h1] at h;cases h
 ·rw[if_neg h1] at h;by_cases h2:4<p.f.length
  ·rw[if_pos h2] at h;cases h
  ·rw[if_neg h2] at h;by_cases h3:p.f.length=0
   ·rw[if_pos h3] at h;cases h
   ·rw[if_neg h3] at h;by_cases h4:kF p.f≠0
    ·rw[if_pos h4] at h;exact absurd h h4
    ·rw[if_neg h4] at h;by_cases h5:laps p.f=true
     ·rw[if_pos h5] at h;cases h
     ·rw[if_neg h5] at h;by_cases h6:gY p.v fV=true
      ·exact⟨by simpa using h1,by omega,h3,Classical.not_not.1 h4,by simpa using h5,h6⟩
      ·rw[if_neg h6] at h;cases h
theorem vI:∀{l:List ad},kF l=0->∀f∈l,aC true f=0
 | [],_,f,hf=>by cases hf
 | g::r,h,f,hf=>by
  unfold kF at h;by_cases e:aC true g=0
  ·rw[if_pos e] at h;rcases akb.1 hf with y|y
   ·rw[y];exact e
   ·exact vI h f y
  ·rw[if_neg e] at h;exact absurd h e
def xI:List (List UInt8)->List Int->List (List UInt8)
 | w::ws,x::v=>if x=0 then xI ws v else (w++61::Lib.itoa x)::xI ws v
 | _,_=>[]
def EY (p:aX):List (List UInt8):=p.n.data.toList::glue 44 (p.f.map (·.data.toList))::xI dR p.v
def aa7 (p:aX):ad:=⟨(glue 32 (EY p)).toArray⟩
def commas (p:aX):Bool:=p.f.any (λf=>f.data.toList.contains 44)
def AV:List (List UInt8)->List (List UInt8)->Option (List Int)
 | [],[]=>some []
 | [],_::_=>none
 | _::ws,[]=>(AV ws []).map (λv=>0::v)
 | w::ws,t::ts=>if (w++[61]).isPrefixOf t=true then (if dU (t.drop (w.length+1))<1 then none else (AV ws ts).map (λv=>dU (t.drop (w.length+1))::v)) else (AV ws (t::ts)).map (λv=>0::v)
def iG:aX:=⟨⟨#[]⟩,[],[0,0,0,0,0,0,0,0]⟩
def bs (l:List UInt8):ad:=⟨l.toArray⟩
def cu (s:ad):aX×Int:=if 1024<s.size then (iG,2) else match cut 32 s.data.toList with
 | n::f::ts=>match AV dR ts with
  | some v=>if aZ ⟨bs n,(cut 44 f).map bs,v⟩=0 then (⟨bs n,(cut 44 f).map bs,v⟩,0) else (iG,aZ ⟨bs n,(cut 44 f).map bs,v⟩)
  | none=>(iG,3)
 | _=>(iG,3)
theorem OI (w d:List UInt8):(w++[61]).isPrefixOf (w++61::d)=true/\(w++61::d).drop (w.length+1)=d:=by
 constructor
 ·rw[List.isPrefixOf_iff_prefix];exact⟨d,by simp⟩
 ·rw[List.drop_append,aki (by omega),show w.length+1-w.length=1 by omega];rfl
theorem DK:∀(ws ts:List (List UInt8)) {v:List Int},AV ws ts=some v->xI ws v=ts/\v.length=ws.length/\∀x∈v,0<=x/\x<1000000000
 | [],[],v,h=>by
  simp[AV] at h;subst h;exact⟨rfl,rfl,λx hx=>by cases hx⟩
 | [],_::_,v,h=>by simp[AV] at h
 | w::ws,[],v,h=>by
  rw[AV] at h
  cases hr:AV ws [] with
  | none=>rw[hr] at h;simp at h
  | some u =>
   rw[hr] at h;simp at h;subst h;obtain⟨h1,h2,h3⟩:=DK ws [] hr;refine⟨by rw[xI,if_pos rfl];exact h1,by simp[h2],λx hx=>?_⟩;rcases akb.1 hx with y|y
   ·omega
   ·exact h3 x y
 | w::ws,t::ts,v,h=>by
  rw[AV] at h;by_cases hp:(w++[61]).isPrefixOf t=true
  ·rw[if_pos hp] at h;by_cases hd:dU (t.drop (w.length+1))<1
   ·rw[if_pos hd] at h;cases h
   ·rw[if_neg hd] at h
    cases hr:AV ws ts with
    | none=>rw[hr] at h;simp at h
    | some u =>
     rw[hr] at h;simp at h;subst h;obtain⟨h1,h2,h3⟩:=DK ws ts hr;obtain⟨b1,b2⟩:=nU (l:=t.drop (w.length+1)) (by omega);obtain⟨d,hd2⟩:=List.isPrefixOf_iff_prefix.1 hp;have e:t.drop (w.length+1)=d:=by rw[<-hd2,aku];exact(OI w d).2
     refine⟨?_,by simp[h2],λx hx=>?_⟩
     ·rw[xI,if_neg (by omega),b1,h1,e,<-hd2];simp
     ·rcases akb.1 hx with y|y
      ·omega
      ·exact h3 x y
  ·rw[if_neg hp] at h
   cases hr:AV ws (t::ts) with
   | none=>rw[hr] at h;simp at h
   | some u =>
    rw[hr] at h;simp at h;subst h;obtain⟨h1,h2,h3⟩:=DK ws (t::ts) hr;refine⟨by rw[xI,if_pos rfl];exact h1,by simp[h2],λx hx=>?_⟩;rcases akb.1 hx with y|y
    ·omega
    ·exact h3 x y
end Go.Proofs.YtebofkkfbkodiaaGreatDoor.Pn
namespace Go.Proofs.YtebofkkfbkodiaaGreatDoor
open Go.RowKit Go.Proofs.Tryz
variable {k:Nat}
theorem Jg (s:ad)(k:Nat)(h:k<s.size):s.data.toList.take (k+1)=s.data.toList.take k++[s[k]]:=by
 rw[akc (by simpa using h)];rfl
def rD (s:ad)(k:Nat):Bool:=(s.data.toList.take k).all Pn.nameB
theorem Le {s:ad}(h:k<s.size):rD s (k+1)=(rD s k&&Pn.nameB s[k]):=by
 unfold rD;rw[Jg s k h,List.all_append];simp
theorem Yg {s:ad}(h:k<s.size)(hb:Pn.nameB s[k]=false):Pn.eF s=false:=by
 unfold Pn.eF;have:s.data.toList.all Pn.nameB=false:=by
  rw[List.all_eq_false];exact⟨s[k],by
   have:s.data.toList[k]'(by simpa using h)∈s.data.toList:=ako _;exact this,by simp[hb]⟩
 rw[this];rfl
theorem named_ok {s:ad}(h:rD s s.size=true):Pn.eF s=(decide (1<=s.size)&&decide (s.size<=16)):=by
 unfold rD at h;rw[ajR (by simp)] at h;unfold Pn.eF;rw[h,akz]
abbrev BQ (n:ad)(a:Option Addr)(l c:Nat)(x0 x1 x2 x3 x4 x5 x6 x7:Int):Value:=.agg #[.string n,.slice a l c,aa x0,aa x1,aa x2,aa x3,aa x4,aa x5,aa x6,aa x7]
structure PB (w:I)(b:Nat)(n:ad)(a:Option Addr)(l c:Nat)(x0 x1 x2 x3 x4 x5 x6 x7:Int):Prop where
 lt:b<w.heap.size
 c0:w.cell? (aq b 0)=some (.string n)
 c1:w.cell? (aq b 1)=some (.slice a l c)
 c2:w.cell? (aq b 2)=some (aa x0)
 c3:w.cell? (aq b 3)=some (aa x1)
 c4:w.cell? (aq b 4)=some (aa x2)
 c5:w.cell? (aq b 5)=some (aa x3)
 c6:w.cell? (aq b 6)=some (aa x4)
 c7:w.cell? (aq b 7)=some (aa x5)
 c8:w.cell? (aq b 8)=some (aa x6)
 c9:w.cell? (aq b 9)=some (aa x7)
section
variable {w w':I}{b:Nat}{n:ad}{a:Option Addr}{l c:Nat}{x0 x1 x2 x3 x4 x5 x6 x7:Int}
theorem PB.next (h:PB w b n a l c x0 x1 x2 x3 x4 x5 x6 x7)(hb:ai w w'):PB w' b n a l c x0 x1 x2 x3 x4 x5 x6 x7 :=
 ⟨ajz h.lt hb.size,by rw[hb.cell (p:=aq b 0) h.lt];exact h.c0,by rw[hb.cell (p:=aq b 1) h.lt];exact h.c1,by rw[hb.cell (p:=aq b 2) h.lt];exact h.c2,by rw[hb.cell (p:=aq b 3) h.lt];exact h.c3,by rw[hb.cell (p:=aq b 4) h.lt];exact h.c4,by rw[hb.cell (p:=aq b 5) h.lt];exact h.c5,by rw[hb.cell (p:=aq b 6) h.lt];exact h.c6,by rw[hb.cell (p:=aq b 7) h.lt];exact h.c7,by rw[hb.cell (p:=aq b 8) h.lt];exact h.c8,by rw[hb.cell (p:=aq b 9) h.lt];exact h.c9⟩
theorem PB.new (w:I)(n:ad)(a:Option Addr)(l c:Nat)(x0 x1 x2 x3 x4 x5 x6 x7:Int)(T:TypeId):PB (w.alloc (.cells #[.string n,.slice a l c,aa x0,aa x1,aa x2,aa x3,aa x4,aa x5,aa x6,aa x7] T)) w.heap.size n a l c x0 x1 x2 x3 x4 x5 x6 x7 :=
 ⟨by simp,by simp,by simp,by simp,by simp,by simp,by simp,by simp,by simp,by simp,by simp⟩
end
theorem Jh {w w':I}{a:Option Addr}{l:List Int}(h:Dk.kK w a l)(hb:ai w w'):Dk.kK w' a l:=λk hk=>by
 obtain⟨b,o,h1,h2,h3⟩:=h k hk;exact⟨b,o,h1,ajz h2 hb.size,by rw[hb.cell (p:=aq b (o+k)) h2];exact h3⟩
def gU (w:I)(a:Option Addr)(l:List ad):Prop:=∀k,k<l.length->∃b o,a=some ⟨b,o,none⟩/\b<w.heap.size/\w.cell? (aq b (o+k))=some (.string (tk l k))
theorem gU.next {w w':I}{a:Option Addr}{l:List ad}(h:gU w a l)(hb:ai w w'):gU w' a l:=λk hk=>by
 obtain⟨b,o,h1,h2,h3⟩:=h k hk;exact⟨b,o,h1,ajz h2 hb.size,by rw[hb.cell (p:=aq b (o+k)) h2];exact h3⟩
namespace Pn
open Go.Proofs.Tryz
variable {i:Nat}
theorem EZ {l:List ad}(h:i<l.length):kF (l.drop i)=if aC true (tk l i)=0 then kF (l.drop (i+1)) else aC true (tk l i):=by rw[jP h];rfl
theorem aa8 {l:List ad}(h:i<l.length)(f:ad->Bool):(l.drop i).any f=(f (tk l i)||(l.drop (i+1)).any f):=by rw[jP h];rfl
theorem TF {v:List Int}(h:i<v.length)(h8:v.length=8):gY (v.drop i) (fV.drop i)=((decide (0<=Dk.nth v i)&&decide (Dk.nth v i<=Dk.nth fV i))&&gY (v.drop (i+1)) (fV.drop (i+1))):=by
 have h2:i<fV.length:=by rw[h8] at h;exact h
 rw[ajW h,ajW h2,gY,Dk.nth,Dk.nth,ajC h,ajC h2];rfl
section
variable {p:aX}
theorem TG (h:eF p.n=false):aZ p=3:=by unfold aZ;rw[if_pos h]
end
end Pn
def Pst (w wr:I)(b:Nat)(n:ad)(a:Option Addr)(l:List ad)(c:Nat)(x0 x1 x2 x3 x4 x5 x6 x7:Int):Prop:=PB wr b n a l.length c x0 x1 x2 x3 x4 x5 x6 x7/\gU wr a l/\ai w wr
theorem Pst.next {w wr w':I}{b:Nat}{n:ad}{a:Option Addr}{l:List ad}{c:Nat}{x0 x1 x2 x3 x4 x5 x6 x7:Int}(h:Pst w wr b n a l c x0 x1 x2 x3 x4 x5 x6 x7)(hb:ai wr w'):Pst w w' b n a l c x0 x1 x2 x3 x4 x5 x6 x7:=⟨h.1.next hb,h.2.1.next hb,ak h.2.2 hb⟩
def Vst (w wr:I)(g1 g2:Nat)(v:List Int):Prop:=Dk.kK wr (some ⟨g1,0,none⟩) v/\Dk.kK wr (some ⟨g2,0,none⟩) Pn.fV/\ai w wr
abbrev ajc (g1 g2 i:Nat)(x y:Int)(w:I):Prop:=w.cell? (aq g1 i)=some (aa x)/\w.cell? (aq g2 i)=some (aa y)
abbrev ajd (b:Nat)(a:Option Addr)(l c ba o i k:Nat)(f g:ad)(w:I):Prop:=w.cell? (aq b 1)=some (.slice a l c)/\w.cell? (aq ba (o+i))=some (.string f)/\w.cell? (aq ba (o+k))=some (.string g)
end Go.Proofs.YtebofkkfbkodiaaGreatDoor
namespace Go.Proofs.YtebofkkfbkodiaaGreatDoor.Pn
open Go Go.Proofs.Tryz
theorem zo (s:ad):bs s.data.toList=s:=by unfold bs;apply ama;simp
theorem lW (l:List UInt8):(bs l).data.toList=l:=by unfold bs;simp
theorem OJ:∀{v ms:List Int},gY v ms=true->v.length=ms.length/\∀x∈v,0<=x/\∃m∈ms,x<=m
 | [],[],_=>⟨rfl,λx hx=>by cases hx⟩
 | [],_::_,h=>by simp[gY] at h
 | _::_,[],h=>by simp[gY] at h
 | x::v,m::ms,h=>by
  unfold gY at h;simp only[ajN,ajG] at h;obtain⟨h1,h2⟩:=OJ h.2;refine⟨by simp[h1],λy hy=>?_⟩;rcases akb.1 hy with z|z
  ·rw[z];exact⟨h.1.1,m,ajP ..,h.1.2⟩
  ·obtain⟨q,k,hk,hl⟩:=h2 y z;exact⟨q,k,ajS _ hk,hl⟩
theorem aa9 {t:List UInt8}{last:Bool}(h:Pl.mZ true last t=true):t.length<=16/\∀c∈t,33<=c.toNat:=by
 unfold Pl.mZ at h;rcases Bool.or_eq_true_iff.1 h with y|y
 ·unfold Pl.wV at y;simp only[ajN,ajG,akS] at y;refine⟨y.2.1,λc hc=>?_⟩;have:=y.2.2 c hc;unfold Pl.aac at this;simp only[ajN,ajG] at this;exact this.1
 ·simp only[akz,ali,alx,ajN] at y;rcases y with y|y
  ·rw[y];exact⟨by decide,by decide⟩
  ·rw[y.1];exact⟨by decide,by decide⟩
theorem E8 {f:ad}(h:aC true f=0):f.size<=136/\∀c∈f.data.toList,33<=c.toNat:=by
 obtain⟨h1,h2⟩:=KZ h;have hp:∀t∈Pl.mJ f.data.toList,t.length<=16/\∀c∈t,33<=c.toNat:=λt ht=>by
  obtain⟨k,hk,rfl⟩:=akq.1 ht;unfold Pl.jd at h2;rw[akS] at h2;have:=h2 k (amc.2 hk);rw[ajC hk] at this;exact aa9 this
 have hg:=qx 46 f.data.toList;rw[Vg] at hg;constructor
 ·have:=Nl 46 16 _ (λt ht=>(hp t ht).1);rw[hg] at this;have e:f.data.toList.length=f.size:=by simp
  omega
 ·intro c hc;rw[<-hg] at hc;rcases Np 46 _ c hc with y|⟨t,ht,hct⟩
  ·rw[y];decide
  ·exact(hp t ht).2 c hct
theorem Yh:∀w∈dR,w.length<=7/\∀c∈w,33<=c.toNat:=by decide
theorem xJ {s:ad}{x:aX}(h:cu s=(x,0)):aZ x=0/\commas x=false/\aa7 x=s:=by
 unfold cu at h;split at h
 ·cases h
 ·cases hc:cut 32 s.data.toList with
  | nil=>exact absurd hc (wX 32 _)
  | cons n r =>
   rw[hc] at h
   cases r with
   | nil=>cases h
   | cons f ts =>
    simp only at h
    cases hr:AV dR ts with
    | none=>rw[hr] at h;cases h
    | some v =>
     rw[hr] at h;simp only at h;by_cases he:aZ ⟨bs n,(cut 44 f).map bs,v⟩=0
     ·rw[if_pos he] at h;have hx:=(Prod.mk.inj h).1;subst hx;refine⟨he,?_,?_⟩
      ·unfold commas;rw[List.any_eq_false];intro g hg;obtain⟨t,ht,rfl⟩:=alh.1 hg;rw[lW];simpa using yw 44 f t ht
      ·have e1:((cut 44 f).map bs).map (·.data.toList)=cut 44 f:=by
        rw[List.map_map];conv=>rhs;rw[<-List.map_id (cut 44 f)]
        exact alP (λt _=>lW t)
       have e2:EY ⟨bs n,(cut 44 f).map bs,v⟩=cut 32 s.data.toList:=by
        unfold EY;simp only[e1,qx,lW,(DK dR ts hr).1,hc]
       unfold aa7;rw[e2,qx]
     ·rw[if_neg he] at h;exact absurd (Prod.mk.inj h).2 he
def ah4:aX:=⟨⟨#[115]⟩,[⟨#[97,46,62]⟩,⟨#[98]⟩],[0,0,0,3,0,0,0,0]⟩
end Go.Proofs.YtebofkkfbkodiaaGreatDoor.Pn
namespace Go.Proofs.YtebofkkfbkodiaaGreatDoor
open Go.RowKit Go.Proofs.Tryz
theorem Ji {w:I}{b:Nat}{n:ad}{a:Option Addr}{l c:Nat}{x0 x1 x2 x3 x4 x5 x6 x7:Int}(r:PB w b n a l c x0 x1 x2 x3 x4 x5 x6 x7) :
 (loadVar 80 ⟨b,0,none⟩).run prog w=.ok (.agg #[.string n,.slice a l c,aa x0,aa x1,aa x2,aa x3,aa x4,aa x5,aa x6,aa x7]) w:=by
 have hl:(loadCells ⟨b,0,none⟩ 10).run prog w=.ok #[.string n,.slice a l c,aa x0,aa x1,aa x2,aa x3,aa x4,aa x5,aa x6,aa x7] w :=
  aly (P:=prog) w ⟨b,0,none⟩ [.string n,.slice a l c,aa x0,aa x1,aa x2,aa x3,aa x4,aa x5,aa x6,aa x7] (λj v hv=>by
   rw[RP,ajT];match j,hv with
   | 0,hv=>rw[r.c0];simpa using hv
   | 1,hv=>rw[r.c1];simpa using hv
   | 2,hv=>rw[r.c2];simpa using hv
   | 3,hv=>rw[r.c3];simpa using hv
   | 4,hv=>rw[r.c4];simpa using hv
   | 5,hv=>rw[r.c5];simpa using hv
   | 6,hv=>rw[r.c6];simpa using hv
   | 7,hv=>rw[r.c7];simpa using hv
   | 8,hv=>rw[r.c8];simpa using hv
   | 9,hv=>rw[r.c9];simpa using hv)
 have hz:Tryz.t80.size=10:=by kernel_rfl
 simp[loadVar,isAgg,sizeOf];rw[hz,hl];rfl
theorem iO {fn:Func}{t u:Tmp}{tmps:Array Value}{w:I}{b:Nat}{n:ad}{a:Option Addr}{l c:Nat}{x0 x1 x2 x3 x4 x5 x6 x7:Int}(hf:fn.results=#[.cell t 80,.tmp u])(ha:tmps.getD t undef=ae b)(r:PB w b n a l c x0 x1 x2 x3 x4 x5 x6 x7) :
 (results fn tmps).run prog w=.ok (.tuple #[.agg #[.string n,.slice a l c,aa x0,aa x1,aa x2,aa x3,aa x4,aa x5,aa x6,aa x7],tmps.getD u undef]) w:=by
 have ha':tmps[t]?.getD undef=ae b:=by simpa using ha
 simp[results,hf,ha',asAddr,Ji r]
theorem PB.puts {W:I}{b:Nat}{n':ad}{a':Option Addr}{l' c':Nat}{z0 z1 z2 z3 z4 z5 z6 z7:Int}(h:PB W b n' a' l' c' z0 z1 z2 z3 z4 z5 z6 z7)(n:ad)(a:Option Addr)(l c:Nat)(x0 x1 x2 x3 x4 x5 x6 x7:Int):PB ((((((((((W.setCell (aq b 0) (.string n)).setCell (aq b 1) (.slice a l c)).setCell (aq b 2) (aa x0)).setCell (aq b 3) (aa x1)).setCell (aq b 4) (aa x2)).setCell (aq b 5) (aa x3)).setCell (aq b 6) (aa x4)).setCell (aq b 7) (aa x5)).setCell (aq b 8) (aa x6)).setCell (aq b 9) (aa x7)) b n a l c x0 x1 x2 x3 x4 x5 x6 x7:=by
 have key:=(Ah b [.string n,.slice a l c,aa x0,aa x1,aa x2,aa x3,aa x4,aa x5,aa x6,aa x7] W 0 (λj hj=>by
  have:j<10:=hj;rw[ajT];rcases j with _|_|_|_|_|_|_|_|_|_|j
  ·rw[h.c0];rfl
  ·rw[h.c1];rfl
  ·rw[h.c2];rfl
  ·rw[h.c3];rfl
  ·rw[h.c4];rfl
  ·rw[h.c5];rfl
  ·rw[h.c6];rfl
  ·rw[h.c7];rfl
  ·rw[h.c8];rfl
  ·rw[h.c9];rfl
  ·omega)).1
 have hsz:=uV b [.string n,.slice a l c,aa x0,aa x1,aa x2,aa x3,aa x4,aa x5,aa x6,aa x7] W 0;refine⟨Nat.lt_of_lt_of_eq h.lt hsz.symm,key 0 (by simp),key 1 (by simp),key 2 (by simp),key 3 (by simp),key 4 (by simp),key 5 (by simp),key 6 (by simp),key 7 (by simp),key 8 (by simp),key 9 (by simp)⟩
end Go.Proofs.YtebofkkfbkodiaaGreatDoor
namespace Go.Proofs.YtebofkkfbkodiaaGreatDoor
open Go Go.Proofs.Tryz
def wd (i:Nat):ad:=Pn.bs ((Pn.dR[i]?).getD [])
namespace Pn
open Go.Proofs.Tryz
end Pn
end Go.Proofs.YtebofkkfbkodiaaGreatDoor
namespace Go.Proofs.YtebofkkfbkodiaaGreatDoor.Dk
open Go.RowKit Go.Proofs.Tryz
structure aH where
 l:List Rc
 last:Int
def ng (f s:ad):Bool:=bP (Pl.toks f) (Pl.toks s)
def gV (l:List Rc)(s:ad):Bool:=l.any λr=>decide (r.s=s)
def iY:List Rc->Nat
 | []=>0
 | r::l=>iY l+(if gV l r.s then 0 else 1)
def seqB (l:List Rc)(n:Int):Bool:=l.any λr=>decide (r.q=n)
def fF (s:aH)(r:Rc):Int :=
 if iw r≠0 then iw r
 else if r.k=2/\seqB s.l r.q=false then 4
 else if r.k≠1 then 0
 else if r.q<=s.last then 9
 else if 200<=s.l.length\/(gV s.l r.s=false/\100<=iY s.l) then 8
 else 0
def VY (r x:Rc):Bool:=(decide (r.k=2)&&decide (x.q=r.q))||(decide (r.k=3)&&(decide (x.q<r.q)&&ng r.s x.s))
def kV (s:aH)(r:Rc):aH :=
 if fF s r≠0 then s
 else if r.k=1 then ⟨s.l++[r],r.q⟩
 else if r.k=4 then ⟨s.l,max s.last r.q⟩
 else ⟨s.l.filter (λx=>!VY r x),s.last⟩
structure aH.Ok (s:aH):Prop where
 rise:s.l.Pairwise λa b=>a.q<b.q
 msg:∀x∈s.l,x.k=1/\iw x=0
 low:∀x∈s.l,x.q<=s.last
 last:0<=s.last/\s.last<=1099511627776
 few:s.l.length<=200
 names:iY s.l<=100
theorem OL (a b:List Rc)(s:ad):gV (a++b) s=(gV a s||gV b s):=by unfold gV;rw[List.any_append]
theorem xK:∀(l:List Rc) (r:Rc),iY (l++[r])=iY l+(if gV l r.s then 0 else 1)
 | [],r=>by simp[iY,gV]
 | x::l,r=>by
  rw[akx,iY,iY,xK l r,OL];have e:gV [r] x.s=decide (r.s=x.s):=by simp[gV]
  have e2:gV (x::l) r.s=(decide (x.s=r.s)||gV l r.s):=by simp[gV]
  rw[e,e2];by_cases h:x.s=r.s
  ·have h':r.s=x.s:=h.symm;rw[h]
   cases gV l r.s<;>simp
  ·have h':¬r.s=x.s:=λz=>h z.symm
   rw[ajE h,ajE h']
   cases gV l x.s<;>cases gV l r.s<;>simp
theorem OM {p:Rc->Bool}{l:List Rc}{s:ad}(h:gV (l.filter p) s=true):gV l s=true:=by
 unfold gV at h ⊢;rw[akN] at h ⊢;obtain⟨x,hx,hs⟩:=h;exact⟨x,(alc.1 hx).1,hs⟩
def wL:List Rc->List ad
 | []=>[]
 | r::l=>if gV l r.s then wL l else r.s::wL l
theorem vJ:∀l:List Rc,iY l=(wL l).length
 | []=>rfl
 | r::l=>by
  rw[iY,wL,vJ l];by_cases h:gV l r.s=true
  ·rw[if_pos h,if_pos h];omega
  ·rw[if_neg h,if_neg h];rfl
theorem nV:∀(l:List Rc) (s:ad),s∈wL l↔gV l s=true
 | [],s=>by simp[wL,gV]
 | r::l,s=>by
  have e:gV (r::l) s=(decide (r.s=s)||gV l s):=by simp[gV]
  rw[wL,e];by_cases h:gV l r.s=true
  ·rw[if_pos h,nV l s];constructor
   ·intro z;rw[z];simp
   ·intro z;rcases ali _ _▸z with y|y
    ·rw[<-alN y];exact h
    ·exact y
  ·rw[if_neg h,akb,nV l s,ali,ajG];constructor
   ·rintro (y|y)
    ·exact .inl y.symm
    ·exact .inr y
   ·rintro (y|y)
    ·exact .inl y.symm
    ·exact .inr y
theorem pG:∀l:List Rc,(wL l).Nodup
 | []=>List.nodup_nil
 | r::l=>by
  rw[wL];by_cases h:gV l r.s=true
  ·rw[if_pos h];exact pG l
  ·rw[if_neg h,amE];exact⟨λz=>h ((nV l r.s).1 z),pG l⟩
theorem zq {α:Type}[DecidableEq α]:∀(a b:List α),a.Nodup->(∀x∈a,x∈b)->a.length<=b.length
 | [],b,_,_=>ajO _
 | x::a,b,hn,hs=>by
  rw[amE] at hn;have hx:x∈b:=hs x (ajP ..);have:=zq a (b.erase x) hn.2 (λy hy=>(List.mem_erase_of_ne (λe=>hn.1 (by rw[<-e];exact hy))).2 (hs y (ajS _ hy)));rw[List.length_erase_of_mem hx] at this;have:0<b.length:=List.length_pos_of_mem hx;simp only[ajX];omega
theorem Lh (p:Rc->Bool)(l:List Rc):iY (l.filter p)<=iY l:=by
 rw[vJ,vJ];exact zq _ _ (pG _) (λs hs=>(nV l s).2 (OM ((nV _ s).1 hs)))
theorem aH.Ok.nil:aH.Ok ⟨[],0⟩:=⟨List.Pairwise.nil,λ_ h=>(by cases h),λ_ h=>(by cases h),⟨amb _,by decide⟩,ajO _,ajO _⟩
theorem Lj {r:Rc}(h:iw r=0):1<=r.q/\r.q<=1099511627776:=by
 obtain⟨_,_,h1,h2,_⟩:=Pk.qV (r:=r.pk) h;exact⟨h1,h2⟩
theorem aH.Ok.apply {s:aH}(h:s.Ok)(r:Rc):(kV s r).Ok:=by
 unfold kV;by_cases h0:fF s r≠0
 ·rw[if_pos h0];exact h
 ·rw[if_neg h0];have h0:fF s r=0:=akn h0;have hc:iw r=0:=by
   apply akn;intro z;unfold fF at h0;rw[if_pos z] at h0;exact z h0
  have hq:=Lj hc;by_cases h1:r.k=1
  ·rw[if_pos h1];have h2:¬r.q<=s.last/\¬(200<=s.l.length\/(gV s.l r.s=false/\100<=iY s.l)):=by
    unfold fF at h0;rw[if_neg (by rw[hc];simp),if_neg (by omega),if_neg (by omega)] at h0;by_cases z:r.q<=s.last
    ·rw[if_pos z] at h0;omega
    ·rw[if_neg z] at h0;by_cases y:200<=s.l.length\/(gV s.l r.s=false/\100<=iY s.l)
     ·rw[if_pos y] at h0;omega
     ·exact⟨z,y⟩
   obtain⟨h2,h3⟩:=h2;refine⟨?_,?_,?_,⟨by show 0<=r.q;omega,hq.2⟩,?_,?_⟩
   ·rw[akO];refine⟨h.rise,List.pairwise_singleton _ _,λa ha b hb=>?_⟩;rw[akd.1 hb];have:=h.low a ha;omega
   ·intro x hx;rcases akg.1 hx with y|y
    ·exact h.msg x y
    ·rw[akd.1 y];exact⟨h1,hc⟩
   ·intro x hx;rcases akg.1 hx with y|y
    ·have:=h.low x y;show x.q<=r.q;omega
    ·rw[akd.1 y];exact amb _
   ·show(s.l++[r]).length<=200;rw[ajB,akR];omega
   ·show iY (s.l++[r])<=100;rw[xK];have:=h.names
    cases hh:gV s.l r.s
    ·rw[if_neg (by simp)];have:¬100<=iY s.l:=λz=>h3 (.inr ⟨hh,z⟩)
     omega
    ·rw[if_pos rfl];omega
  ·rw[if_neg h1];by_cases h4:r.k=4
   ·rw[if_pos h4];have hl:=h.last;refine⟨h.rise,h.msg,λx hx=>?_,⟨?_,?_⟩,h.few,h.names⟩
    ·have:=h.low x hx;show x.q<=max s.last r.q;omega
    ·show 0<=max s.last r.q;omega
    ·show max s.last r.q<=1099511627776;omega
   ·rw[if_neg h4];exact⟨h.rise.sublist List.filter_sublist,λx hx=>h.msg x (alc.1 hx).1,λx hx=>h.low x (alc.1 hx).1,h.last,ajA (akF _ _) h.few,ajA (Lh _ _) h.names⟩
def TI (f:ad)(l:List Rc):List Rc:=l.filter λr=>ng f r.s
def AX (l:List Rc)(n:Int):Option Rc:=l.find? λr=>decide (r.q=n)
def aV (f:ad)(l:List Rc)(from':Int):Option Rc:=l.find? λr=>ng f r.s&&decide (from'<=r.q)
def ni (f:ad)(l:List Rc):Option Rc:=(TI f l).getLast?
def dG:List Rc->Nat
 | []=>0
 | r::l=>r.s.size+r.h.size+r.d.size+dG l
def jE (l:List Rc):Int:=match l with
 | []=>0
 | r::_=>r.q
theorem rE:∀a b:List Rc,dG (a++b)=dG a+dG b
 | [],b=>by simp[dG]
 | r::a,b=>by rw[akx,dG,dG,rE a b];omega
theorem OO {l:List Rc}(h:∀r∈l,r.s.size<=135/\r.h.size+r.d.size<=256):dG l<=391*l.length:=by
 induction l with
 | nil=>simp[dG]
 | cons r l ih =>
  have h1:=h r (ajP ..);have h2:=ih (λx hx=>h x (ajS _ hx));rw[dG,ajX];omega
theorem aH.Ok.small {s:aH}(h:s.Ok){x:Rc}(hx:x∈s.l):x.s.size<=135/\x.h.size+x.d.size<=256:=by
 obtain⟨_,_,_,_,_,_,h1,h2⟩:=Pk.qV (r:=x.pk) (h.msg x hx).2;have e:∀x:ad,x.data.toList.length=x.size:=λx=>by simp
 simp only[Rc.pk,e] at h1 h2;exact⟨h1,h2⟩
theorem aH.Ok.bytes {s:aH}(h:s.Ok):dG s.l<=78200:=by
 have h1:=OO (λr hr=>h.small hr);have:=h.few;omega
theorem aH.Ok.seq {s:aH}(h:s.Ok){x:Rc}(hx:x∈s.l):1<=x.q/\x.q<=1099511627776:=Lj (h.msg x hx).2
theorem Jj {T:List Rc}{k:Nat}{n:Int}(h1:∀j,(hj:j<T.length)->j<k->T[j].q<n)(h2:∀hk:k<T.length,n<=T[k].q):T.find? (λr=>decide (n<=r.q))=T[k]?:=by
 by_cases hk:k<T.length
 ·rw[ajC hk,List.find?_eq_some_iff_getElem];refine⟨by simpa using h2 hk,k,hk,rfl,λj hj=>?_⟩;have:=h1 j (by omega) hj;simp only[alC,akr];omega
 ·rw[ald (by omega),akW];intro x hx;obtain⟨j,hj,rfl⟩:=akU hx;have:=h1 j hj (by omega);simp only[ajG];omega
def Gone (T:List Rc)(k:Nat)(n:Int):Prop:=k<=T.length/\((k=0/\n=0)\/∃j,∃hj:j<T.length,k=j+1/\n=T[j].q+1)
theorem TJ {s:aH}{r:Rc}(h0:fF s r=0)(h3:r.k=3):kV s r=⟨s.l.filter (λx=>!(decide (x.q<r.q)&&ng r.s x.s)),s.last⟩:=by
 unfold kV;rw[if_neg (by rw[h0];simp),if_neg (by omega),if_neg (by omega)];unfold VY;rw[h3];simp
def Safe (es:List aB)(recs:List Rc):Prop:=(es=[]/\recs=[])\/yL es recs recs.length
def ai0 (es:List aB):Prop:=∀x∈es,x.sure=(x.text.size:Int)
theorem Safe.append {m size:Int}{es:List aB}{recs:List Rc}(h:Safe es recs)(ht:Tidy m es){r:Rc}(h0:(jS es m size r).1=0):Safe (fE (jS es m size r).2) (recs++[r]):=by
 right;rcases h with ⟨rfl,rfl⟩|h
 ·have hR:(lu [] m size r).1=0:=by
   apply akn;intro z;rw[og z] at h0;exact z h0
  have hl:yL (jS [] m size r).2 ([]++[r]) 0:=by
   rw[vC hR];have hc:iw r=0:=by
    apply akn;intro z;unfold lu at hR;rw[if_pos z] at hR;exact z hR
   have e:lu [] m size r=(dK [] m 0 (dZ r),iZ [] m 0 (dZ r)):=by
    unfold lu;rw[if_neg (by rw[hc];simp),if_pos (show([]:List aB).length=0 from rfl)]
   rw[e] at hR ⊢;have hR':dK [] m 0 (dZ r)=0:=hR;obtain⟨hI,hf⟩:=nZ.1 hR';have ea:iZ [] m 0 (dZ r)=[⟨0,0,dZ r⟩]:=by
    unfold iZ;rw[if_neg (by rw[hI];simp),if_neg (by rw[hf];simp),if_neg (by simp[ix])];rfl
   refine⟨[],⟨0,0,dZ r⟩,[],[r],0,by simp only;rw[ea];rfl,rfl,rfl,λx hx=>(by cases hx),?_,?_,ajO _,?_,ajO _⟩
   ·show dZ r=oh [r];simp[oh]
   ·intro x hx;rw[akd.1 hx];exact hc
   ·simp[oh]
  exact hl.sync (ht.logp size r)
 ·exact((h.ad6 ht r).1 h0).sync (ht.logp size r)
def pI (l:List Rc):aH:=l.foldl kV ⟨[],0⟩
theorem Fa (l:List Rc)(r:Rc):pI (l++[r])=kV (pI l) r:=by unfold pI;rw[ams];rfl
theorem Jk:∀(l:List Rc) {s:aH},s.Ok->(l.foldl kV s).Ok
 | [],_,h=>h
 | r::l,_,h=>Jk l (h.apply r)
theorem OQ (l:List Rc):(pI l).Ok:=Jk l aH.Ok.nil
def ahk (n:Int):Rc:=⟨4,n,0,⟨#[]⟩,⟨#[]⟩,⟨#[]⟩⟩
def afM (s:aH):List Rc:=s.l++(if 0<s.last then [ahk s.last] else [])
def aje (l:List Rc):Int:=(l.getLast?.map (·.q)).getD 0
structure zu (m:Int)(es:List aB)(s:aH):Prop where
 tidy:Tidy m es
 safe:∃recs,Safe es recs/\pI recs=s
theorem zu.nil {m:Int}(h:0<=m):zu m [] ⟨[],0⟩:=⟨Tidy.nil h,[],.inl ⟨rfl,rfl⟩,rfl⟩
theorem zu.ok {m:Int}{es:List aB}{s:aH}(h:zu m es s):s.Ok:=by
 obtain⟨recs,_,rfl⟩:=h.safe;exact OQ recs
def ji (es:List aB)(s:aH)(m size:Int)(r:Rc):Int:=if fF s r≠0 then fF s r else (jS es m size r).1
def wM (es:List aB)(s:aH)(m size:Int)(r:Rc):List aB:=if ji es s m size r=0 then fE (jS es m size r).2 else es
def oV (es:List aB)(s:aH)(m size:Int)(r:Rc):aH:=if ji es s m size r=0 then kV s r else s
theorem VZ {es:List aB}{s:aH}{m size:Int}{r:Rc}(h:ji es s m size r=0):fF s r=0/\(jS es m size r).1=0:=by
 unfold ji at h;by_cases z:fF s r=0
 ·rw[if_neg (by rw[z];simp)] at h;exact⟨z,h⟩
 ·rw[if_pos z] at h;exact absurd h z
theorem zu.did {m size:Int}{es:List aB}{s:aH}(h:zu m es s)(r:Rc):zu m (wM es s m size r) (oV es s m size r):=by
 unfold wM oV;by_cases h0:ji es s m size r=0
 ·rw[if_pos h0,if_pos h0];obtain⟨recs,h1,h2⟩:=h.safe;refine⟨(h.tidy.logp size r).afI,recs++[r],h1.append h.tidy (VZ h0).2,?_⟩;rw[Fa,h2]
 ·rw[if_neg h0,if_neg h0];exact h
def ahl (es:List aB)(s:aH)(m size:Int):Int:=(ahe es m size (afM s)).1
def ahm (es:List aB)(s:aH)(m size:Int):List aB:=(ahe es m size (afM s)).2
def eU:Rc:=⟨0,0,0,⟨#[]⟩,⟨#[]⟩,⟨#[]⟩⟩
def aep (o:Option Rc):Value:=match o with
 | some r=>.tuple #[rcV r,aa 0]
 | none=>.tuple #[rcV eU,aa 4]
def jk (f:ad)(o:Option Rc):Value:=if aC true f=0 then aep o else .tuple #[rcV eU,aa (aC true f)]
def abb (SH:I->Nat->Nat->af->aH->Prop)(w w':I)(B q:Nat)(F:af)(s:aH):Prop:=∃F',SH w' B q F' s/\aA F w w'/\∀k,F' k->F k\/w.heap.size<=k
def ahn (VH:I->Nat->Nat->af->Int->Int->List aB->aH->Prop)(w w':I)(B p:Nat)(F:af)(m size:Int)(es:List aB)(s:aH):Prop:=∃F',VH w' B p F' m size es s/\aA F w w'/\∀k,F' k->F k\/w.heap.size<=k
structure aii (VH:I->Nat->Nat->af->Int->Int->List aB->aH->Prop)(SH:I->Nat->Nat->af->aH->Prop):Prop where
 own:∀{w B p F m size es s},VH w B p F m size es s->∀k,F k->B<=k/\k<w.heap.size
 aF:∀{w w' B p F m size es s} {A:af},VH w B p F m size es s->aA A w w'->(∀k,F k->¬A k)->VH w' B p F m size es s
 bad:∀(w:I) (m size:Int),(eX m 1 65536&&eX size 1 4096)=false ->
  Calls prog 89 #[aa m,aa size] w λe w'=>e=.returned (.tuple #[.pointer none,aa 1])/\ai w w'
 good:∀(w:I) (m size:Int),eX m 1 65536=true->eX size 1 4096=true ->
  Calls prog 89 #[aa m,aa size] w λe w'=>∃p F,e=.returned (.tuple #[ae p,aa 0])/\VH w' w.heap.size p F m size [] ⟨[],0⟩/\ai w w'
 did:∀{w B p F m size es s} (r:Rc),Small r->VH w B p F m size es s->zu m es s->m<=65536->eX size 1 4096=true->B<=w.heap.size ->
  Calls prog 105 #[ae p,.agg #[aa r.k,aa r.q,aa r.t,.string r.s,.string r.h,.string r.d]] w λe w'=>e=.returned (aa (ji es s m size r))/\ahn VH w w' B p F m size (wM es s m size r) (oV es s m size r)
 store:∀{w B p F m size es s},VH w B p F m size es s->zu m es s->m<=65536->eX size 1 4096=true->B<=w.heap.size ->
  Calls prog 69 #[ae p] w λe w'=>∃q F0,e=.returned (ae q)/\SH w' B q F0 s/\(∀k,F0 k->F k)/\ai w w'
def gu (Cs:af)(w w':I):Prop:=w.heap.size<=w'.heap.size/\∀k,Cs k->w'.heap[k]?=w.heap[k]?
theorem gu.cell {Cs:af}{w w':I}(h:gu Cs w w'){C j:Nat}(hC:Cs C):w'.cell? (aq C j)=w.cell? (aq C j):=alU (w:=w) (h.2 C hC)
theorem gu.trans {Cs:af}{w w1 w2:I}(h:gu Cs w w1)(k:gu Cs w1 w2):gu Cs w w2:=⟨ajA h.1 k.1,λi hi=>(k.2 i hi).trans (h.2 i hi)⟩
theorem gu.fewer {Cs yI:af}{w w':I}(h:gu Cs w w')(hC:∀k,yI k->Cs k):gu yI w w':=⟨h.1,λk hk=>h.2 k (hC k hk)⟩
theorem gu.recs {Cs:af}{w w':I}{a:Option Addr}{l:List Rc}(h:gu Cs w w')(s:H6 w a l)(hn:∀z,a=some z->Cs z.block):H6 w' a l:=λk hk=>by
 obtain⟨b,o,h1,h2⟩:=s k hk;have hb:Cs b:=hn _ h1;exact⟨b,o,h1,⟨ajz h2.lt h.1,by rw[h.cell hb];exact h2.c0,by rw[h.cell hb];exact h2.c1,by rw[h.cell hb];exact h2.c2,by rw[h.cell hb];exact h2.c3,by rw[h.cell hb];exact h2.c4,by rw[h.cell hb];exact h2.c5⟩⟩
def Vay (VH:I->Nat->Nat->af->Int->Int->List aB->aH->Prop)(Cs:af)(w wr:I)(p:Nat)(m size:Int)(es:List aB)(s:aH):Prop :=
 ∃F,VH wr w.heap.size p F m size es s/\ai w wr/\(∀k,Cs k->k<wr.heap.size/\¬F k)/\zu m es s/\m<=65536/\eX size 1 4096=true
section
variable {VH:I->Nat->Nat->af->Int->Int->List aB->aH->Prop}{SH:I->Nat->Nat->af->aH->Prop}{Cs yI:af}{w wr w':I}{p:Nat}{m size:Int}{es es':List aB}{s s':aH}
end
structure aho (SH:I->Nat->Nat->af->aH->Prop):Prop where
 all:∀{w B q F s},SH w B q F s->s.Ok->B<=w.heap.size ->
  Calls prog 36 #[ae q] w λe w'=>∃v,e=.returned v/\bI w' w.heap.size v s.l/\ai w w'
 sums:∀{w B q F s},SH w B q F s->s.Ok->B<=w.heap.size ->
  Calls prog 100 #[ae q] w λe w'=>e=.returned (.agg #[aa (s.l.length:Int),aa (dG s.l:Int),aa (jE s.l),aa s.last])/\ai w w'
theorem bI.low {w:I}{B B':Nat}{v:Value}{l:List Rc}(h:bI w B v l)(hB:B'<=B):bI w B' v l:=by
 refine⟨h.1,?_⟩;rcases h.2 with q|⟨g,cap,cur,h1,h2,r⟩
 ·exact .inl q
 ·exact .inr ⟨g,cap,cur,h1,ajA hB h2,r⟩
structure eG (SH:I->Nat->Nat->af->aH->Prop):Prop where
 own:∀{w B q F s},SH w B q F s->∀k,F k->B<=k/\k<w.heap.size
 aF:∀{w w' B q F s} {A:af},SH w B q F s->aA A w w'->(∀k,F k->¬A k)->SH w' B q F s
 low:∀{w B B' q F s},SH w B q F s->B'<=B->SH w B' q F s
 new:∀w:I,Calls prog 169 #[] w λe w'=>∃q F,e=.returned (ae q)/\SH w' w.heap.size q F ⟨[],0⟩/\ai w w'
 tries:∀{w B q F s} (r:Rc),Small r->SH w B q F s->s.Ok->B<=w.heap.size ->
  Calls prog 144 #[ae q,.agg #[aa r.k,aa r.q,aa r.t,.string r.s,.string r.h,.string r.d]] w λe w'=>e=.returned (aa (fF s r))/\ai w w'
 apply:∀{w B q F s} (r:Rc),Small r->SH w B q F s->s.Ok->B<=w.heap.size ->
  Calls prog 147 #[ae q,.agg #[aa r.k,aa r.q,aa r.t,.string r.s,.string r.h,.string r.d]] w λe w'=>e=.returned (aa (fF s r))/\abb SH w w' B q F (kV s r)
 sees:aho SH
structure Va (Has:I->Nat->Nat->af->Int->List aB->Prop)(SH:I->Nat->Nat->af->aH->Prop)(w:I)(B x o q g c:Nat)(FL G:af)(m size:Int)(es:List aB)(s:aH):Prop where
 log:jH Has g size w B q FL m es
 zx:SH w B c G s
 base:B<=x
 lt:x<w.heap.size
 c0:w.cell? (aq x o)=some (ae q)
 c1:w.cell? (aq x (o+1))=some (aa size)
 c2:w.cell? (aq x (o+2))=some (ae g)
 c3:w.cell? (aq x (o+3))=some (ae c)
 free:∀j,w.frozen? (aq x j)=false
 ap:∀k,FL k->¬G k
 xd:¬FL x
 xg:¬G x
def vaF (x:Nat)(FL G:af)(k:Nat):Prop:=k=x\/FL k\/G k
section
variable {Has:I->Nat->Nat->af->Int->List aB->Prop}{SH:I->Nat->Nat->af->aH->Prop}{w w1 w':I}{B x o q g c:Nat}{FL G A:af}{m size:Int}{es es':List aB}{s s':aH}
theorem Va.own (H:More Has)(S:eG SH)(h:Va Has SH w B x o q g c FL G m size es s):∀k,vaF x FL G k->B<=k/\k<w.heap.size:=by
 rintro k (rfl|z|z)
 ·exact⟨h.base,h.lt⟩
 ·exact(jH.looks H g size).own h.log k z
 ·exact S.own h.zx k z
theorem Va.aF (H:More Has)(S:eG SH)(h:Va Has SH w B x o q g c FL G m size es s)(hc:aA A w w')(hn:∀k,vaF x FL G k->¬A k):Va Has SH w' B x o q g c FL G m size es s:=by
 have hx:=hn x (.inl rfl);exact⟨(jH.looks H g size).aF h.log hc (λk hk=>hn k (.inr (.inl hk))),S.aF h.zx hc (λk hk=>hn k (.inr (.inr hk))),h.base,ajz h.lt hc.size,by rw[hc.cell (p:=aq x o) h.lt hx];exact h.c0,by rw[hc.cell (p:=aq x (o+1)) h.lt hx];exact h.c1,by rw[hc.cell (p:=aq x (o+2)) h.lt hx];exact h.c2,by rw[hc.cell (p:=aq x (o+3)) h.lt hx];exact h.c3,λj=>by rw[hc.frozen (p:=aq x j) h.lt hx];exact h.free j,h.ap,h.xd,h.xg⟩
theorem Va.below (H:More Has)(S:eG SH)(h:Va Has SH w B x o q g c FL G m size es s)(hb:ai w w'):Va Has SH w' B x o q g c FL G m size es s:=h.aF H S (A:=λ_=>False) (aA.of_below hb) (λ_ _ z=>z)
theorem Va.upd (S:eG SH)(h:Va Has SH w B x o q g c FL G m size es s)(hu:Did (jH Has g size) w w' B q FL m es'):∃FL',Va Has SH w' B x o q g c FL' G m size es' s/\aA FL w w'/\∀k,FL' k->FL k\/w.heap.size<=k:=by
 obtain⟨FL',k1,hc,ho⟩:=hu;have hx:=h.xd;refine⟨FL',⟨k1,S.aF h.zx hc (λk hk z=>h.ap k z hk),h.base,ajz h.lt hc.size,by rw[hc.cell (p:=aq x o) h.lt hx];exact h.c0,by rw[hc.cell (p:=aq x (o+1)) h.lt hx];exact h.c1,by rw[hc.cell (p:=aq x (o+2)) h.lt hx];exact h.c2,by rw[hc.cell (p:=aq x (o+3)) h.lt hx];exact h.c3,λj=>by rw[hc.frozen (p:=aq x j) h.lt hx];exact h.free j,λk hk z=>?_,λz=>?_,h.xg⟩,hc,ho⟩
 ·rcases ho k hk with y|y
  ·exact h.ap k y z
  ·have:=(S.own h.zx k z).2;omega
 ·rcases ho x z with y|y
  ·exact h.xd y
  ·have:=h.lt;omega
theorem Va.did (H:More Has)(h:Va Has SH w B x o q g c FL G m size es s)(hu:abb SH w w' B c G s'):∃G',Va Has SH w' B x o q g c FL G' m size es s'/\aA G w w'/\∀k,G' k->G k\/w.heap.size<=k:=by
 obtain⟨G',k1,hc,ho⟩:=hu;have hx:=h.xg;refine⟨G',⟨(jH.looks H g size).aF h.log hc (λk hk z=>h.ap k hk z),k1,h.base,ajz h.lt hc.size,by rw[hc.cell (p:=aq x o) h.lt hx];exact h.c0,by rw[hc.cell (p:=aq x (o+1)) h.lt hx];exact h.c1,by rw[hc.cell (p:=aq x (o+2)) h.lt hx];exact h.c2,by rw[hc.cell (p:=aq x (o+3)) h.lt hx];exact h.c3,λj=>by rw[hc.frozen (p:=aq x j) h.lt hx];exact h.free j,λk hk z=>?_,h.xd,λz=>?_⟩,hc,ho⟩
 ·rcases ho k z with y|y
  ·exact h.ap k hk y
  ·have:=((jH.looks H g size).own h.log k hk).2;omega
 ·rcases ho x z with y|y
  ·exact h.xg y
  ·have:=h.lt;omega
end
def Na (o x:Nat)(w w':I):Prop:=∀j,(j<o\/o+4<=j)->w'.cell? (aq x j)=w.cell? (aq x j)
theorem Na.refl (o x:Nat)(w:I):Na o x w w:=λ_ _=>rfl
theorem Na.trans {o x:Nat}{w w1 w2:I}(h:Na o x w w1)(k:Na o x w1 w2):Na o x w w2:=λj hj=>(k j hj).trans (h j hj)
theorem Na.aF {o x:Nat}{A:af}{w w':I}(h:aA A w w')(hx:x<w.heap.size)(hn:¬A x):Na o x w w':=λj _=>h.cell (p:=aq x j) hx hn
theorem Na.below {o x:Nat}{w w':I}(h:ai w w')(hx:x<w.heap.size):Na o x w w':=Na.aF (A:=λ_=>False) (aA.of_below h) hx (λz=>z)
def Rv (Has:I->Nat->Nat->af->Int->List aB->Prop)(SH:I->Nat->Nat->af->aH->Prop)(F0 Cs:af)(w wr:I)(B x o q g c:Nat)(m size:Int)(es:List aB)(s:aH):Prop :=
 ∃FL G,Va Has SH wr B x o q g c FL G m size es s/\aA F0 w wr/\(∀k,vaF x FL G k->F0 k\/w.heap.size<=k)/\(∀k,Cs k->k<wr.heap.size/\¬vaF x FL G k)/\Na o x w wr
section
variable {Has:I->Nat->Nat->af->Int->List aB->Prop}{SH:I->Nat->Nat->af->aH->Prop}{F0 Cs yI:af}{w wr w':I}{B x o q g c:Nat}{m size:Int}{es es':List aB}{s s':aH}
theorem Rv.room (h:Rv Has SH F0 Cs w wr B x o q g c m size es s):w.heap.size<=wr.heap.size:=by
 obtain⟨_,_,_,h2,_⟩:=h;exact h2.size
theorem Rv.cells (h:Rv Has SH F0 Cs w wr B x o q g c m size es s):wr.cell? (aq x o)=some (ae q)/\wr.cell? (aq x (o+1))=some (aa size)/\wr.cell? (aq x (o+2))=some (ae g)/\wr.cell? (aq x (o+3))=some (ae c)/\x<wr.heap.size:=by
 obtain⟨_,_,h1,_⟩:=h;exact⟨h1.c0,h1.c1,h1.c2,h1.c3,h1.lt⟩
theorem Rv.mine (H:More Has)(S:eG SH)(h:Rv Has SH F0 Cs w wr B x o q g c m size es s)(hb:ai wr w')(hn:∀k,yI k->Cs k\/wr.heap.size<=k/\k<w'.heap.size):Rv Has SH F0 yI w w' B x o q g c m size es s:=by
 obtain⟨FL,G,h1,h2,h3,h4,h5⟩:=h;refine⟨FL,G,h1.below H S hb,h2.trans (aA.of_below hb),h3,λk hk=>?_,h5.trans (Na.below hb h1.lt)⟩;rcases hn k hk with y|y
 ·exact⟨ajz (h4 k y).1 hb.size,(h4 k y).2⟩
 ·exact⟨y.2,λz=>by have:=(h1.own H S k z).2;omega⟩
theorem Rv.below (H:More Has)(S:eG SH)(h:Rv Has SH F0 Cs w wr B x o q g c m size es s)(hb:ai wr w'):Rv Has SH F0 Cs w w' B x o q g c m size es s:=h.mine H S hb (λ_ z=>.inl z)
theorem Rv.upd (S:eG SH)(h:Rv Has SH F0 Cs w wr B x o q g c m size es s){fn:FuncId}{args:Array Value}{Q:Ending->I->Prop}
 (hc:∀FL,jH Has g size wr B q FL m es->(∀k,Cs k->¬FL k)->Calls prog fn args wr λe w'=>Q e w'/\Did (jH Has g size) wr w' B q FL m es') :
 Calls prog fn args wr λe w'=>Q e w'/\Rv Has SH F0 Cs w w' B x o q g c m size es' s/\gu Cs wr w':=by
 have hr:=h.room;obtain⟨FL,G,h1,h2,h3,h4,h5⟩:=h;refine(hc FL h1.log (λk hk z=>(h4 k hk).2 (.inr (.inl z)))).mono ?_;rintro e w' ⟨hq,hu⟩;obtain⟨FL',a1,a2,a3⟩:=h1.upd S hu;refine⟨hq,⟨FL',G,a1,kP h2 a2 (λi hi z=>?_),λk hk=>?_,λk hk=>⟨ajz (h4 k hk).1 a2.size,λz=>?_⟩,h5.trans (Na.aF a2 h1.lt h1.xd)⟩,a2.size,λk hk=>a2.block k (h4 k hk).1 (λz=>(h4 k hk).2 (.inr (.inl z)))⟩
 ·rcases h3 i (.inr (.inl z)) with y|y
  ·exact y
  ·omega
 ·rcases hk with z|z|z
  ·exact h3 k (.inl z)
  ·rcases a3 k z with y|y
   ·exact h3 k (.inr (.inl y))
   ·exact .inr (ajA hr y)
  ·exact h3 k (.inr (.inr z))
 ·rcases z with z|z|z
  ·exact(h4 k hk).2 (.inl z)
  ·rcases a3 k z with y|y
   ·exact(h4 k hk).2 (.inr (.inl y))
   ·have:=(h4 k hk).1;omega
  ·exact(h4 k hk).2 (.inr (.inr z))
theorem Rv.did (H:More Has)(h:Rv Has SH F0 Cs w wr B x o q g c m size es s){fn:FuncId}{args:Array Value}{Q:Ending->I->Prop}
 (hc:∀G,SH wr B c G s->Calls prog fn args wr λe w'=>Q e w'/\abb SH wr w' B c G s') :
 Calls prog fn args wr λe w'=>Q e w'/\Rv Has SH F0 Cs w w' B x o q g c m size es s'/\gu Cs wr w':=by
 have hr:=h.room;obtain⟨FL,G,h1,h2,h3,h4,h5⟩:=h;refine(hc G h1.zx).mono ?_;rintro e w' ⟨hq,hu⟩;obtain⟨G',a1,a2,a3⟩:=h1.did H hu;refine⟨hq,⟨FL,G',a1,kP h2 a2 (λi hi z=>?_),λk hk=>?_,λk hk=>⟨ajz (h4 k hk).1 a2.size,λz=>?_⟩,h5.trans (Na.aF a2 h1.lt h1.xg)⟩,a2.size,λk hk=>a2.block k (h4 k hk).1 (λz=>(h4 k hk).2 (.inr (.inr z)))⟩
 ·rcases h3 i (.inr (.inr z)) with y|y
  ·exact y
  ·omega
 ·rcases hk with z|z|z
  ·exact h3 k (.inl z)
  ·exact h3 k (.inr (.inl z))
  ·rcases a3 k z with y|y
   ·exact h3 k (.inr (.inr y))
   ·exact .inr (ajA hr y)
 ·rcases z with z|z|z
  ·exact(h4 k hk).2 (.inl z)
  ·exact(h4 k hk).2 (.inr (.inl z))
  ·rcases a3 k z with y|y
   ·exact(h4 k hk).2 (.inr (.inr y))
   ·have:=(h4 k hk).1;omega
end
def ql (Has:I->Nat->Nat->af->Int->List aB->Prop)(SH:I->Nat->Nat->af->aH->Prop)(o:Nat)(w:I)(B x:Nat)(F:af)(m size:Int)(es:List aB)(s:aH):Prop:=∃q g c FL G,Va Has SH w B x o q g c FL G m size es s/\∀k,F k↔vaF x FL G k
section
variable {Has:I->Nat->Nat->af->Int->List aB->Prop}{SH:I->Nat->Nat->af->aH->Prop}{F:af}{w:I}{B x o:Nat}{m size:Int}{es:List aB}{s:aH}
def aer (Has:I->Nat->Nat->af->Int->List aB->Prop)(SH:I->Nat->Nat->af->aH->Prop)(o:Nat)(w w':I)(B x:Nat)(F:af)(m size:Int)(es:List aB)(s:aH):Prop:=ahn (ql Has SH o) w w' B x F m size es s/\Na o x w w'
theorem ql.begin (h:ql Has SH o w B x F m size es s):∃q g c,Rv Has SH F (λ_=>False) w w B x o q g c m size es s/\∀Cs wr g' c' es' s',Rv Has SH F Cs w wr B x o q g' c' m size es' s'->aer Has SH o w wr B x F m size es' s':=by
 obtain⟨q,g,c,FL,G,h1,h2⟩:=h;refine⟨q,g,c,⟨FL,G,h1,aA.refl _ _,λk z=>.inl ((h2 k).2 z),λ_ z=>z.elim,Na.refl _ _ _⟩,λCs wr g' c' es' s' hr=>?_⟩;obtain⟨FL',G',r1,r2,r3,_,r5⟩:=hr;exact⟨⟨_,⟨q,g',c',FL',G',r1,λk=>alJ⟩,r2,r3⟩,r5⟩
end
end Go.Proofs.YtebofkkfbkodiaaGreatDoor.Dk
namespace Go.Proofs.YtebofkkfbkodiaaGreatDoor
open Go.RowKit Go.Proofs.Tryz
variable {y:aS}
theorem ahp {es:List aS}(h:y∈es):∃j,j<es.length/\en es j=y:=by
 obtain⟨j,hj,e⟩:=akU h;exact⟨j,hj,by rw[lJ hj];exact e⟩
theorem Ll {es:List aS}(h:Ord es){s:ad}(hy:y∈es)(e:y.1=s):fB es s=true/\y=en es (place es s):=by
 obtain⟨j,hj,rfl⟩:=ahp hy;obtain⟨h1,h2⟩:=VU h hj e;exact⟨h1,by rw[h2]⟩
theorem Lm:∀{a b:List aS},Ord a->Ord b->(∀e,e∈a↔e∈b)->a=b
 | [],[],_,_,_=>rfl
 | [],y::b,_,_,h=>absurd ((h y).2 (ajP ..)) (by simp)
 | x::a,[],_,_,h=>absurd ((h x).1 (ajP ..)) (by simp)
 | x::a,y::b,ha,hb,h=>by
  have ha1:=akL.1 ha;have hb1:=akL.1 hb;have hxy:x=y:=by
   rcases akb.1 ((h x).1 (ajP ..)) with z|z
   ·exact z
   ·rcases akb.1 ((h y).2 (ajP ..)) with u|u
    ·exact u.symm
    ·have:=qI (hb1.1 x z) (ha1.1 y u);rw[lK] at this;cases this
  subst hxy;have hx:∀{c:List aS},(∀e∈c,el x.1 e.1=true)->x∉c:=λhc z=>by have:=hc x z;rw[lK] at this;cases this
  rw[Lm ha1.2 hb1.2 (λe=>?_)];constructor
  ·intro z;rcases akb.1 ((h e).1 (ajS _ z)) with u|u
   ·subst u;exact absurd z (hx ha1.1)
   ·exact u
  ·intro z;rcases akb.1 ((h e).2 (ajS _ z)) with u|u
   ·subst u;exact absurd z (hx hb1.1)
   ·exact u
theorem V5 {es:List aS}(h:iC es){s:ad}(n:Int)(hs:aC false s=0)(hr:fB es s=true\/es.length<100)(x:aS):x∈rC es s n↔x=(s,n)\/(x∈es/\x.1≠s):=by
 unfold rC;rw[if_pos hs]
 cases hh:fB es s
 ·rw[if_neg (by simp),if_neg (by rcases hr with z|z;rw[hh] at z;cases z;omega)];have hne:∀y∈es,y.1≠s:=λy hy e=>by have:=(Ll h.1 hy e).1;rw[hh] at this;cases this
  have e:x∈iD es (place es s) (s,n)↔x=(s,n)\/x∈es:=by
   unfold iD;rw[akg,akb];have:=akm (place es s) es;constructor
   ·rintro (z|z|z)
    ·exact .inr (amh z)
    ·exact .inl z
    ·exact .inr (akP z)
   ·rintro (z|z)
    ·exact .inr (.inl z)
    ·rw[<-this] at z;rcases akg.1 z with y|y
     ·exact .inl y
     ·exact .inr (.inr y)
  rw[e];constructor
  ·rintro (z|z)
   ·exact .inl z
   ·exact .inr ⟨z,hne x z⟩
  ·rintro (z|z)
   ·exact .inl z
   ·exact .inr z.1
 ·rw[if_pos rfl];obtain⟨p1,p2⟩:=uh hh;constructor
  ·intro z;obtain⟨j,hj,e⟩:=akU z;rw[alb] at hj;rw[amN] at e;by_cases hp:place es s=j
   ·rw[if_pos hp] at e;exact .inl e.symm
   ·rw[if_neg hp] at e;refine .inr ⟨by rw[<-e];exact ako hj,λq=>hp ?_⟩;exact(Je h.1 hj (by rw[lJ hj,e];exact q)).symm
  ·rintro (z|⟨z,q⟩)
   ·rw[z];exact List.mem_set p1 _
   ·obtain⟨j,hj,e⟩:=akU z;have hp:¬place es s=j:=λhp=>q (by rw[<-e,<-lJ hj,<-hp];exact p2)
    have:(es.set (place es s) (s,n))[j]'(by rw[alb];exact hj)=x:=by rw[amN,if_neg hp];exact e
    rw[<-this];exact ako _
theorem abd {es:List aS}(h:iC es){s:ad}(hs:aC false s=0)(x:aS):x∈pF es s↔x∈es/\x.1≠s:=by
 unfold pF;rw[if_pos hs]
 cases hh:fB es s
 ·rw[if_neg (by simp)];exact⟨λz=>⟨z,λe=>by have:=(Ll h.1 z e).1;rw[hh] at this;cases this⟩,λz=>z.1⟩
 ·rw[if_pos rfl];obtain⟨p1,p2⟩:=uh hh;have hsp:es=es.take (place es s)++en es (place es s)::es.drop (place es s+1):=by
   rw[lJ p1,<-ajW p1,akm]
  constructor
  ·intro z;refine⟨VW z,λe=>?_⟩;have ho:=h.1;unfold Ord at ho;rw[hsp,akO,akL] at ho;obtain⟨_,⟨o2,_⟩,o3⟩:=ho;unfold zh at z;rcases akg.1 z with y|y
   ·have:=o3 x y (en es (place es s)) (ajP ..);rw[e,p2,lK] at this;cases this
   ·have:=o2 x y;rw[e,p2,lK] at this;cases this
  ·rintro ⟨z,q⟩;rw[hsp] at z;unfold zh;rcases akg.1 z with y|y
   ·exact akg.2 (.inl y)
   ·rcases akb.1 y with u|u
    ·exact absurd (by rw[u];exact p2) q
    ·exact akg.2 (.inr u)
def gB (l:List Dk.Rc)(s:ad):Nat:=(l.filter λr=>decide (r.s=s)).length
theorem jl (a b:List Dk.Rc)(s:ad):gB (a++b) s=gB a s+gB b s:=by unfold gB;rw[alr,ajB]
theorem Fe (r:Dk.Rc)(s:ad):gB [r] s=if r.s=s then 1 else 0:=by
 unfold gB;by_cases h:r.s=s
 ·rw[if_pos h];simp[h]
 ·rw[if_neg h];simp[h]
theorem zy (l:List Dk.Rc)(s:ad):Dk.gV l s=decide (0<gB l s):=by
 unfold Dk.gV gB;rw[akK,akN,ajG,List.length_pos_iff_exists_mem];constructor
 ·rintro ⟨x,h1,h2⟩;exact⟨x,alc.2 ⟨h1,h2⟩⟩
 ·rintro ⟨x,h1⟩;obtain⟨h1,h2⟩:=alc.1 h1;exact⟨x,h1,h2⟩
structure Cnt (l:List Dk.Rc)(es:List aS):Prop where
 good:iC es
 mem:∀e:aS,e∈es↔0<gB l e.1/\e.2=(gB l e.1:Int)
theorem Cnt.nil:Cnt [] []:=⟨aa3,λe=>by simp[gB]⟩
theorem Cnt.same {l:List Dk.Rc}{a b:List aS}(h:Cnt l a)(g:Cnt l b):a=b:=Lm h.good.1 g.good.1 (λe=>by rw[h.mem,g.mem])
theorem Cnt.has {l:List Dk.Rc}{es:List aS}(h:Cnt l es)(s:ad):fB es s=decide (0<gB l s):=by
 rw[akK,ajG];constructor
 ·intro z;obtain⟨p1,p2⟩:=uh z;have:=((h.mem _).1 (La p1)).1;rw[p2] at this;exact this
 ·intro z;exact(Ll h.good.1 ((h.mem (s,(gB l s:Int))).2 ⟨z,rfl⟩) rfl).1
theorem Cnt.get {l:List Dk.Rc}{es:List aS}(h:Cnt l es){s:ad}(hs:aC false s=0):kT es s=(gB l s:Int):=by
 unfold kT;rw[if_pos hs,h.has];by_cases z:0<gB l s
 ·rw[ajH z,if_pos rfl];have:=(Ll h.good.1 ((h.mem (s,(gB l s:Int))).2 ⟨z,rfl⟩) rfl).2;rw[<-this]
 ·rw[ajE z,if_neg (by simp)];omega
theorem Cnt.put {l:List Dk.Rc}{es:List aS}(h:Cnt l es)(r:Dk.Rc)(hs:aC false r.s=0)(hz:r.s.size<=140737488355328)(hr:0<gB l r.s\/es.length<100):Cnt (l++[r]) (rC es r.s ((gB l r.s:Int)+1)):=by
 refine⟨OA h.good _ hz,λe=>?_⟩;rw[V5 h.good _ hs (by rw[h.has];simpa using hr),h.mem,jl,Fe];by_cases q:e.1=r.s
 ·rw[if_pos q.symm,q];constructor
  ·rintro (z|z)
   ·rw[z];exact⟨by omega,by simp⟩
   ·exact absurd rfl z.2
  ·rintro ⟨_,z⟩;exact .inl (Prod.ext q (by rw[z];simp))
 ·rw[if_neg (λz=>q z.symm),alK];constructor
  ·rintro (z|z)
   ·exact absurd (by rw[z]) q
   ·exact z.1
  ·intro z;exact .inr ⟨z,q⟩
theorem Cnt.less {A B:List Dk.Rc}{x:Dk.Rc}{es:List aS}(h:Cnt (A++x::B) es)(hs:aC false x.s=0)(hz:x.s.size<=140737488355328):(gB (A++B) x.s=0->Cnt (A++B) (pF es x.s))/\Cnt (A++B) (if gB (A++B) x.s=0 then pF es x.s else rC es x.s (gB (A++B) x.s:Int)):=by
 have hc:∀s,gB (A++x::B) s=gB (A++B) s+(if x.s=s then 1 else 0):=λs=>by
  rw[show A++x::B=A++([x]++B) from rfl,jl,jl,jl,Fe];omega
 have hd:gB (A++B) x.s=0->Cnt (A++B) (pF es x.s):=λh0=>by
  refine⟨Ye h.good _,λe=>?_⟩;rw[abd h.good hs,h.mem,hc];by_cases q:e.1=x.s
  ·rw[q,h0];simp
  ·rw[if_neg (λz=>q z.symm),alK];exact⟨λz=>z.1,λz=>⟨z,q⟩⟩
 refine⟨hd,?_⟩;by_cases h0:gB (A++B) x.s=0
 ·rw[if_pos h0];exact hd h0
 ·rw[if_neg h0];refine⟨OA h.good _ hz,λe=>?_⟩;rw[V5 h.good _ hs (.inl (by rw[h.has,hc,if_pos rfl];simp)),h.mem,hc];by_cases q:e.1=x.s
  ·rw[q];constructor
   ·rintro (z|z)
    ·rw[z];exact⟨by omega,rfl⟩
    ·exact absurd rfl z.2
   ·rintro ⟨_,z⟩;exact .inl (Prod.ext q z)
  ·rw[if_neg (λz=>q z.symm),alK];constructor
   ·rintro (z|z)
    ·exact absurd (by rw[z]) q
    ·exact z.1
   ·intro z;exact .inr ⟨z,q⟩
theorem Cnt.len {l:List Dk.Rc}{es:List aS}(h:Cnt l es):es.length=Dk.iY l:=by
 have hn:(es.map (·.1)).Nodup:=by
  have:=h.good.1;unfold Ord at this;rw[List.Nodup,List.pairwise_map];exact this.imp (λ{a b} hab e=>by rw[e,lK] at hab;cases hab)
 have hm:∀s,s∈es.map (·.1)↔s∈Dk.wL l:=λs=>by
  rw[Dk.nV,zy,ajG,alh];constructor
  ·rintro ⟨e,he,rfl⟩;exact((h.mem e).1 he).1
  ·intro z;exact⟨(s,(gB l s:Int)),(h.mem _).2 ⟨z,rfl⟩,rfl⟩
 rw[Dk.vJ,<-akk (f:=λe:aS=>e.1)];exact Nat.le_antisymm (Dk.zq _ _ hn (λs hs=>(hm s).1 hs)) (Dk.zq _ _ (Dk.pG l) (λs hs=>(hm s).2 hs))
def Lp (es:List aS)(f:ad):List aS:=if aC true f=0 then qJ es f else []
def aij:List aS->Int
 | []=>0
 | e::es=>e.2+aij es
def aik (l:List Dk.Rc):List ad->Nat
 | []=>0
 | s::N=>gB l s+aik l N
theorem abe:∀(n:Nat) (l:List Dk.Rc),l.length=n->(∀x∈l,aC false x.s=0/\x.s.size<=140737488355328)->Dk.iY l<=100->∃es,Cnt l es
 | 0,l,hn,_,_=>by
  obtain rfl:=ajZ.1 hn;exact⟨[],Cnt.nil⟩
 | n+1,l,hn,h,kQ=>by
  rcases List.eq_nil_or_concat l with rfl|⟨L,b,rfl⟩
  ·cases hn
  ·rw[List.concat_eq_append] at hn h kQ ⊢;rw[Dk.xK] at kQ;rw[ajB] at hn;have hn:L.length=n:=by simpa using hn
   obtain⟨es,hc⟩:=abe n L hn (λx hx=>h x (akg.2 (.inl hx))) (by omega);have hb:=h b (akg.2 (.inr (akd.2 rfl)));refine⟨_,hc.put b hb.1 hb.2 ?_⟩;by_cases z:Dk.gV L b.s=true
   ·left;rw[zy] at z;simpa using z
   ·right;rw[if_neg z] at kQ;rw[hc.len];omega
theorem abf:aC true ⟨#[62]⟩=0:=by decide +kernel
end Go.Proofs.YtebofkkfbkodiaaGreatDoor
namespace Go.Proofs.YtebofkkfbkodiaaGreatDoor.Dk
open Go.RowKit Go.Proofs.Tryz
variable {i k:Nat}
def pq:List Rc->Int->Nat
 | [],_=>0
 | r::l,n=>if r.q<n then pq l n+1 else 0
def jI (l:List Rc):Prop:=l.Pairwise λa b=>a.q<b.q
theorem V6:∀(l:List Rc) (n:Int),pq l n<=l.length
 | [],_=>agH _
 | r::l,n=>by
  have:=V6 l n;rw[pq,ajX];split<;>omega
theorem uj {l:List Rc}(h:k<l.length):rc l k∈l:=by rw[bU h];exact ako h
theorem Jl:∀(l:List Rc) (n:Int) (k:Nat),k<pq l n->(rc l k).q<n
 | [],n,k,h=>by simp[pq] at h
 | r::l,n,k,h=>by
  rw[pq] at h;by_cases hr:r.q<n
  ·rw[if_pos hr] at h;match k,h with
   | 0,_=>exact hr
   | k+1,h=>exact Jl l n k (by omega)
  ·rw[if_neg hr] at h;omega
theorem abg:∀(l:List Rc) (n:Int),pq l n<l.length->n<=(rc l (pq l n)).q
 | [],n,h=>by simp[pq] at h
 | r::l,n,h=>by
  rw[pq] at h ⊢;by_cases hr:r.q<n
  ·rw[if_pos hr] at h ⊢;have:=abg l n (by rw[ajX] at h;omega);exact this
  ·rw[if_neg hr];have e:rc (r::l) 0=r:=rfl;rw[e];omega
theorem vK {l:List Rc}(h:jI l){j:Nat}(hij:i<j)(hj:j<l.length):(rc l i).q<(rc l j).q:=by
 rw[bU (by omega),bU hj];exact ale.1 h i j (by omega) hj hij
theorem afN {l:List Rc}(h:jI l)(n:Int)(k:Nat)(h1:pq l n<=k)(h2:k<l.length):n<=(rc l k).q:=by
 have ha:=abg l n (by omega);rcases akX h1 with e|e
 ·rw[<-e];exact ha
 ·have:=vK h e h2;omega
theorem afO {l:List Rc}{n:Int}(hi:i<=l.length)(h1:∀j,j<i->(rc l j).q<n)(h2:∀j,i<=j->j<l.length->n<=(rc l j).q):i=pq l n:=by
 rcases Nat.lt_trichotomy i (pq l n) with h|h|h
 ·have a:=Jl l n i h;have:=V6 l n;have:=h2 i (agH _) (by omega);omega
 ·exact h
 ·have a:=abg l n (by omega);have:=h1 (pq l n) h;omega
theorem TK {l:List Rc}(h:jI l)(n:Int):seqB l n=(decide (pq l n<l.length)&&decide ((rc l (pq l n)).q=n)):=by
 unfold seqB;rw[akK,akN,ajN,ajG,ajG];constructor
 ·rintro ⟨x,hx,e⟩;have e:x.q=n:=alN e;obtain⟨j,hj,rfl⟩:=akU hx;rw[<-bU hj] at e;have hp:pq l n=j:=by
   refine(afO (by omega) (λi hi=>?_) (λi hi hl=>?_)).symm
   ·have:=vK h hi hj;omega
   ·rcases akX hi with z|z
    ·rw[<-z];omega
    ·have:=vK h z hl;omega
  rw[hp];exact⟨hj,e⟩
 ·rintro ⟨h1,h2⟩;exact⟨_,uj h1,by rw[h2];simp⟩
theorem abh {l:List Rc}(h:jI l){n:Int}(hp:pq l n<l.length):seqB l n=decide ((rc l (pq l n)).q=n):=by
 rw[TK h,ajH hp,akz]
theorem aes {l:List Rc}(h:jI l){n:Int}(hp:¬pq l n<l.length):seqB l n=false:=by
 rw[TK h,ajE hp,akH]
theorem zA {l:List Rc}(h:jI l){n:Int}(hs:seqB l n=true):pq l n<l.length/\(rc l (pq l n)).q=n:=by
 rw[TK h,ajN,ajG,ajG] at hs;exact hs
theorem OT {l:List Rc}(h:k<l.length):l=l.take k++rc l k::l.drop (k+1):=by
 rw[bU h,<-ajW h,akm]
theorem get_hit {l:List Rc}(h:jI l){n:Int}(hs:seqB l n=true):AX l n=some (rc l (pq l n)):=by
 obtain⟨h1,h2⟩:=zA h hs;unfold AX;rw[List.find?_eq_some_iff_getElem];refine⟨by rw[h2];simp,pq l n,h1,(bU h1).symm,λj hj=>?_⟩;have:=Jl l n j hj;rw[bU (by omega)] at this;simp only[alC,akr];omega
theorem get_none {l:List Rc}{n:Int}(hs:seqB l n=false):AX l n=none:=by
 unfold AX;rw[akW];intro x hx;unfold seqB at hs;rw[List.any_eq_false] at hs;exact hs x hx
theorem AY {p q:Rc->Bool}:∀{l:List Rc},(∀x∈l,p x=q x)->l.find? p=l.find? q
 | [],_=>rfl
 | x::l,h=>by
  rw[ame,ame,h x (ajP ..),AY (l:=l) (λy hy=>h y (ajS _ hy))]
theorem TL {l:List Rc}(h:jI l)(f:ad)(n:Int):aV f l n=(l.drop (pq l n)).find? λr=>ng f r.s:=by
 unfold aV;have e:l.find? (λr=>ng f r.s&&decide (n<=r.q))=((l.take (pq l n))++(l.drop (pq l n))).find? (λr=>ng f r.s&&decide (n<=r.q)):=by rw[akm]
 rw[e,List.find?_append];have e1:(l.take (pq l n)).find? (λr=>ng f r.s&&decide (n<=r.q))=none:=by
  rw[akW];intro x hx;obtain⟨j,hj,rfl⟩:=akU hx;rw[ajL] at hj;have:=Jl l n j (by omega);rw[bU (by omega)] at this;rw[alB];simp only[ajN,ajG,not_and];intro _;omega
 rw[e1,Option.none_or];refine AY (λx hx=>?_);obtain⟨j,hj,rfl⟩:=akU hx;rw[ajI] at hj;rw[amg];have:=afN h n (pq l n+j) (by omega) (by omega);rw[bU (by omega)] at this;rw[ajH this,Bool.and_true]
def Ic (l:List Rc)(i:Nat):List Rc:=l.take i++l.drop (i+1)
theorem OU {l:List Rc}(h:i<l.length):(Ic l i).length=l.length-1:=by
 unfold Ic;rw[ajB,ajL,ajI];omega
theorem abj {l:List Rc}(h:jI l){n:Int}(hs:seqB l n=true):l.filter (λx=>!decide (x.q=n))=Ic l (pq l n):=by
 obtain⟨h1,h2⟩:=zA h hs;unfold Ic;have e:=congrArg (List.filter λx:Rc=>!decide (x.q=n)) (OT h1);rw[e,alr,ang,h2];simp only[decide_true,Bool.not_true,amZ,if_false];congr 1
 ·refine akZ.2 (λx hx=>?_);obtain⟨j,hj,rfl⟩:=akU hx;rw[ajL] at hj;have:=Jl l n j (by omega);rw[bU (by omega)] at this;rw[alB];simp only[alC,akr];omega
 ·refine akZ.2 (λx hx=>?_);obtain⟨j,hj,rfl⟩:=akU hx;rw[ajI] at hj;have:=vK h (i:=pq l n) (j:=pq l n+1+j) (by omega) (by omega);rw[bU (l:=l) (k:=pq l n+1+j) (by omega)] at this;rw[amg];simp only[alC,akr];omega
def jJ (f:ad)(l:List Rc):List Rc:=l.filter λx=>!ng f x.s
theorem AZ {f:ad}{l:List Rc}(h:k<l.length):jJ f (l.take (k+1))=jJ f (l.take k)++(if ng f (rc l k).s then [] else [rc l k]):=by
 unfold jJ;rw[akc h,<-bU h,alr]
 cases e:ng f (rc l k).s<;>simp[e]
theorem Fg (f:ad)(l:List Rc):(jJ f l).length<=l.length:=akF _ _
theorem abk {l:List Rc}(h:jI l)(f:ad)(n:Int):l.filter (λx=>!(decide (x.q<n)&&ng f x.s))=jJ f (l.take (pq l n))++l.drop (pq l n):=by
 have e:=congrArg (List.filter λx:Rc=>!(decide (x.q<n)&&ng f x.s)) (akm (pq l n) l).symm;rw[e,alr];congr 1
 ·unfold jJ;refine List.filter_congr (λx hx=>?_);obtain⟨j,hj,rfl⟩:=akU hx;rw[ajL] at hj;have:=Jl l n j (by omega);rw[bU (by omega)] at this;rw[alB,ajH this,akz]
 ·refine akZ.2 (λx hx=>?_);obtain⟨j,hj,rfl⟩:=akU hx;rw[ajI] at hj;have:=afN h n (pq l n+j) (by omega) (by omega);rw[bU (by omega)] at this;rw[amg,ajE (by omega),akH];rfl
def TM (es:List aS)(n:Int)(s:ad):List aS:=if 1<n then rC es s (n-1) else pF es s
theorem Cnt.off {A B:List Rc}{x:Rc}{es:List aS}(h:Cnt (A++x::B) es)(hs:aC false x.s=0)(hz:x.s.size<=140737488355328):Cnt (A++B) (TM es (kT es x.s) x.s):=by
 have hc:gB (A++x::B) x.s=gB (A++B) x.s+1:=by
  rw[show A++x::B=A++([x]++B) from rfl,jl,jl,jl,Fe,if_pos rfl];omega
 have h2:=(h.less hs hz).2;unfold TM;rw[h.get hs,hc];by_cases h0:gB (A++B) x.s=0
 ·rw[if_pos h0] at h2;rw[if_neg (by omega)];exact h2
 ·rw[if_neg h0] at h2;rw[if_pos (by omega),show((gB (A++B) x.s+1:Nat):Int)-1=(gB (A++B) x.s:Int) by omega];exact h2
end Go.Proofs.YtebofkkfbkodiaaGreatDoor.Dk
namespace Go.Proofs.YtebofkkfbkodiaaGreatDoor
open Go.RowKit Go.Proofs.Tryz
variable {v:Value}{cap k:Nat}
def aY:List aS->List Value
 | []=>[]
 | e::r=>.string e.1::aa e.2::aY r
theorem dM:∀es:List aS,(aY es).length=es.length*2
 | []=>rfl
 | e::r=>by simp[aY,dM r];omega
theorem jX:∀a b:List aS,aY (a++b)=aY a++aY b
 | [],_=>rfl
 | e::a,b=>by simp[aY,jX a b]
theorem zD:∀(es:List aS) (k:Nat),aY (es.take k)=(aY es).take (k*2)
 | [],k=>by simp[aY]
 | e::r,0=>by simp[aY]
 | e::r,k+1=>by rw[show(k+1)*2=k*2+1+1 by omega];simp[aY,zD r k]
theorem zF:∀(es:List aS) (k:Nat),aY (es.drop k)=(aY es).drop (k*2)
 | [],k=>by simp[aY]
 | e::r,0=>by simp[aY]
 | e::r,k+1=>by rw[show(k+1)*2=k*2+1+1 by omega];simp[aY,zF r k]
theorem OV:∀(es:List aS) (k:Nat),k<es.length->(aY es)[k*2]?=some (.string (en es k).1)
 | [],k,h=>absurd h (akh k)
 | e::r,0,_=>rfl
 | e::r,k+1,h=>by
  rw[show(k+1)*2=k*2+1+1 by omega];simp only[aY,akC];exact OV r k (by simpa using h)
theorem V7:∀(es:List aS) (k:Nat),k<es.length->(aY es)[k*2+1]?=some (aa (en es k).2)
 | [],k,h=>absurd h (akh k)
 | e::r,0,_=>rfl
 | e::r,k+1,h=>by
  rw[show(k+1)*2+1=k*2+1+1+1 by omega];simp only[aY,akC];exact V7 r k (by simpa using h)
theorem pJ:∀(es:List aS),∀v∈aY es,v.oneCell'=true
 | [],v,h=>by simp[aY] at h
 | e::r,v,h=>by
  simp only[aY,akb] at h;rcases h with h|h|h
  ·subst h;rfl
  ·subst h;rfl
  ·exact pJ r v h
theorem V8:∀(es:List aS) (k:Nat) (s:ad) (n:Int),k<es.length->(en es k).1=s->aY (es.set k (s,n))=(aY es).set (k*2+1) (aa n)
 | [],k,_,_,h,_=>absurd h (akh k)
 | e::r,0,s,n,_,q=>by
  have:e.1=s:=q;simp[aY,this]
 | e::r,k+1,s,n,h,q=>by
  rw[show(k+1)*2+1=k*2+1+1+1 by omega];simp only[ajJ,aY];rw[V8 r k s n (by simpa using h) q]
theorem abl:(prog.info? 258).map (λi=>(i.zero,i.size,i.bytes))=some (some (.agg #[.string ByteArray.empty,aa 0]),2,24):=by kernel_rfl
def mg (w:I)(B:Nat)(v:Value)(es:List aS):Prop:=w.ownsRow B 258 2 v es.length (aY es)
theorem mg.empty (w:I)(B:Nat):mg w B (.slice none 0 0) []:=alu w B _ 2
theorem mg.shape {w:I}{B:Nat}{es:List aS}(h:mg w B v es):∃a cap,v=.slice a es.length cap/\es.length<=cap/\cap<=maxLen/\∀g,v.ownBlock=some g->a=some ⟨g,0,none⟩/\B<=g/\g<w.heap.size:=by
 rcases h.2 with ⟨h1,h2⟩|⟨g,cap,cur,h1,h2,h3,h4,h5,h6,h7⟩
 ·exact⟨none,0,by rw[h1,h2],by omega,by simp[maxLen],λg hg=>by rw[h1] at hg;simp[Value.ownBlock] at hg⟩
 ·exact⟨_,cap,h1,h4,h5,λk hk=>by
   have:=h.lt k hk;rw[h1] at hk;simp only[Value.ownBlock,akB] at hk;subst hk;exact⟨rfl,this⟩⟩
theorem mg.there {w:I}{B:Nat}{es:List aS}(h:mg w B v es)(hn:0<es.length):∃g cap,v=.slice (some ⟨g,0,none⟩) es.length cap/\es.length<=cap/\cap<=maxLen/\B<=g/\g<w.heap.size:=by
 rcases h.2 with ⟨h1,h2⟩|⟨g,cap,cur,h1,h2,h3,h4,h5,h6,h7⟩
 ·omega
 ·exact⟨g,cap,h1,h4,h5,h.lt g (by rw[h1];rfl)⟩
theorem mg.text {w:I}{B g:Nat}{es:List aS}(h:mg w B (.slice (some ⟨g,0,none⟩) es.length cap) es)(hk:k<es.length):w.cell? (aq g (k*2))=some (.string (en es k).1):=by
 rw[ake h _ (by omega)];exact OV es k hk
theorem mg.num {w:I}{B g:Nat}{es:List aS}(h:mg w B (.slice (some ⟨g,0,none⟩) es.length cap) es)(hk:k<es.length):w.cell? (aq g (k*2+1))=some (aa (en es k).2):=by
 rw[ake h _ (by omega)];exact V7 es k hk
theorem mg.cell {w:I}{B g cap:Nat}{es:List aS}(h:mg w B (.slice (some ⟨g,0,none⟩) es.length cap) es)(j:Nat)(u:Value)(hj:(aY es)[j]?=some u):w.cell? (aq g j)=some u:=by
 have hl:j<es.length*2:=by
  rw[<-dM];rcases alR j (aY es).length with q|q
  ·exact q
  ·rw[ald q] at hj;cases hj
 rw[ake h _ hl];exact hj
theorem mg.below {w w':I}{B:Nat}{es:List aS}(h:mg w B v es)(hb:ai w w'):mg w' B v es:=by
 refine⟨h.1,?_⟩;rcases h.2 with q|⟨g,cap,cur,h1,h2,h3,r⟩
 ·exact .inl q
 ·refine .inr ⟨g,cap,cur,h1,h2,?_,r⟩;rw[hb.block g (h.lt g (by rw[h1];rfl)).2];exact h3
structure aQ (A:af)(w w':I):Prop where
 os:w'.os=w.os
 tape:w'.tape=w.tape
 output:w'.output=w.output
 size:w.heap.size<=w'.heap.size
 block:∀k,k<w.heap.size->¬A k->w'.heap[k]?=w.heap[k]?
theorem aQ.refl (A:af)(w:I):aQ A w w:=⟨rfl,rfl,rfl,agH _,λ_ _ _=>rfl⟩
theorem aQ.trans {A:af}{a b c:I}(h:aQ A a b)(k:aQ A b c):aQ A a c :=
 ⟨k.os.trans h.os,k.tape.trans h.tape,k.output.trans h.output,ajA h.size k.size,λi hi hn=>(k.block i (by have:=h.size;omega) hn).trans (h.block i hi hn)⟩
theorem aQ.mono {A A':af}{a b:I}(h:aQ A a b)(hA:∀k,k<a.heap.size->A k->A' k):aQ A' a b :=
 ⟨h.os,h.tape,h.output,h.size,λk hk hn=>h.block k hk (λq=>hn (hA k hk q))⟩
theorem aQ.of_below {A:af}{w w':I}(h:ai w w'):aQ A w w':=⟨h.os,h.tape,h.output,h.size,λk hk _=>h.block k hk⟩
theorem aQ.bC {w w':I}{row:Option Nat}(h:w.grownBy w' row):aQ (λk=>row=some k) w w':=⟨h.os,h.tape,h.output,h.size,λk hk hn=>h.block k hk (λe=>hn e.symm)⟩
theorem aQ.setCell {A:af}{a w:I}(h:aQ A a w){p:Addr}(hp:A p.block\/a.heap.size<=p.block)(u:Value):aQ A a (w.setCell p u):=by
 refine⟨h.os,h.tape,h.output,by simpa[World.setCell] using h.size,λk hk hn=>?_⟩;rw[Below.heap_setCell _ _ _ _ (λe=>by subst e;rcases hp with q|q;exact hn q;omega)];exact h.block k hk hn
theorem aQ.below {A:af}{B:Nat}{w w':I}(h:aQ A w w')(hB:B<=w.heap.size)(hA:∀k,k<B->¬A k):Below B w w':=⟨h.os,h.tape,h.output,h.size,λk hk=>h.block k (by omega) (hA k hk)⟩
theorem aQ.cell {A:af}{w w':I}(h:aQ A w w'){p:Addr}(hp:p.block<w.heap.size)(hn:¬A p.block):w'.cell? p=w.cell? p:=alU (w:=w) (h.block p.block hp hn)
theorem aQ.frozen {A:af}{w w':I}(h:aQ A w w'){p:Addr}(hp:p.block<w.heap.size)(hn:¬A p.block):w'.frozen? p=w.frozen? p:=World.frozen?_of_block (w:=w) (h.block p.block hp hn)
theorem mg.aF {A:af}{w w':I}{B:Nat}{es:List aS}(h:mg w B v es)(hb:aQ A w w')(hn:∀g,v.ownBlock=some g->¬A g):mg w' B v es:=by
 refine⟨h.1,?_⟩;rcases h.2 with q|⟨g,cap,cur,h1,h2,h3,r⟩
 ·exact .inl q
 ·refine .inr ⟨g,cap,cur,h1,h2,?_,r⟩;rw[hb.block g (h.lt g (by rw[h1];rfl)).2 (hn g (by rw[h1];rfl))];exact h3
structure dW (o:Nat)(w:I)(B p:Nat)(v:Value)(es:List aS):Prop where
 cell:w.cell? (aq p o)=some v
 free:w.frozen? (aq p o)=false
 base:B<=p
 lt:p<w.heap.size
 arr:mg w B v es
 apart:v.ownBlock≠some p
abbrev Keeps (w:I)(B p:Nat)(v:Value)(es:List aS):Prop:=dW 0 w B p v es
def foot (p:Nat)(v:Value)(k:Nat):Prop:=k=p\/v.ownBlock=some k
theorem dW.below {o:Nat}{w w':I}{B p:Nat}{v:Value}{es:List aS}(h:dW o w B p v es)(hb:ai w w'):dW o w' B p v es :=
 ⟨by rw[hb.cell (p:=aq p o) h.lt];exact h.cell,by rw[hb.frozen (p:=aq p o) h.lt];exact h.free,h.base,by have:=hb.size;have:=h.lt;omega,h.arr.below hb,h.apart⟩
theorem dW.aF {o:Nat}{A:af}{w w':I}{B p:Nat}{v:Value}{es:List aS}(h:dW o w B p v es)(hb:aQ A w w')(hn:∀k,foot p v k->¬A k):dW o w' B p v es :=
 ⟨by rw[hb.cell (p:=aq p o) h.lt (hn p (.inl rfl))];exact h.cell,by rw[hb.frozen (p:=aq p o) h.lt (hn p (.inl rfl))];exact h.free,h.base,by have:=hb.size;have:=h.lt;omega,h.arr.aF hb (λg hg=>hn g (.inr hg)),h.apart⟩
structure Side (o p:Nat)(w w':I):Prop where
 cell:∀j,j≠o->w'.cell? (aq p j)=w.cell? (aq p j)
 free:∀j,w'.frozen? (aq p j)=w.frozen? (aq p j)
theorem Side.trans {o p:Nat}{a b c:I}(h:Side o p a b)(k:Side o p b c):Side o p a c:=⟨λj hj=>(k.cell j hj).trans (h.cell j hj),λj=>(k.free j).trans (h.free j)⟩
theorem Side.aF {o p:Nat}{A:af}{w w':I}(h:aQ A w w')(hp:p<w.heap.size)(hn:¬A p):Side o p w w':=⟨λj _=>h.cell (p:=aq p j) hp hn,λj=>h.frozen (p:=aq p j) hp hn⟩
theorem Side.below {o p:Nat}{w w':I}(h:ai w w')(hp:p<w.heap.size):Side o p w w':=Side.aF (A:=λ_=>False) (aQ.of_below h) hp (λz=>z)
theorem Side.set {o p:Nat}{w:I}(v:Value):Side o p w (w.setCell (aq p o) v):=⟨λj hj=>by rw[ajD _ _ _ _ (by simp<;>omega)],λj=>ajV _ _ _ _⟩
theorem Side.other {o p g j:Nat}{w:I}(v:Value)(h:g≠p):Side o p w (w.setCell (aq g j) v):=⟨λi hi=>by rw[ajD _ _ _ _ (by simp<;>omega)],λi=>ajV _ _ _ _⟩
theorem dW.store {o:Nat}{w w':I}{B p:Nat}{v':Value}{es es':List aS}(h:dW o w B p v es)(hb:aQ (λk=>v.ownBlock=some k) w w')(ha:mg w' B v' es')(hv:∀g,v'.ownBlock=some g->v.ownBlock=some g\/w.heap.size<=g) :
 dW o (w'.setCell (aq p o) v') B p v' es'/\aQ (foot p v) w (w'.setCell (aq p o) v'):=by
 have hne:v'.ownBlock≠some p:=λe=>by
  rcases hv p e with q|q
  ·exact h.apart q
  ·have:=h.lt;omega
 have hc:w'.cell? (aq p o)=some v:=by rw[hb.cell (p:=aq p o) h.lt h.apart];exact h.cell
 refine⟨⟨akf _ _ _ hc,?_,h.base,?_,?_,hne⟩,?_⟩
 ·rw[ajV,hb.frozen (p:=aq p o) h.lt h.apart];exact h.free
 ·have:=hb.size;have:=h.lt;simp[World.setCell];omega
 ·refine ha.aF (A:=λk=>k=p) (aQ.setCell (A:=λk=>k=p) (p:=aq p o) (aQ.refl _ _) (.inl rfl) _) (λg hg e=>?_);subst e;exact hne hg
 ·exact(hb.mono (λk _ q=>.inr q)).setCell (.inl (.inl rfl)) _
theorem dW.number {o:Nat}{w:I}{B p g:Nat}{es:List aS}(h:dW o w B p (.slice (some ⟨g,0,none⟩) es.length cap) es)(hk:k<es.length){s:ad}(hs:(en es k).1=s)(n:Int) :
 dW o (w.setCell (aq g (k*2+1)) (aa n)) B p (.slice (some ⟨g,0,none⟩) es.length cap) (es.set k (s,n))/\aQ (foot p (.slice (some ⟨g,0,none⟩) es.length cap)) w (w.setCell (aq g (k*2+1)) (aa n)):=by
 have hgp:g≠p:=λe=>h.apart (by rw[e];rfl)
 have hst:=(alV h.arr (k*2+1) (aa n)).1;refine⟨⟨?_,?_,h.base,?_,?_,h.apart⟩,?_⟩
 ·rw[ajD _ _ _ _ (by simp<;>omega)];exact h.cell
 ·rw[ajV];exact h.free
 ·have:=h.lt;simpa[World.setCell] using this
 ·unfold mg;rw[alb,V8 es k s n hk hs];exact hst
 ·exact(aQ.refl _ _).setCell (.inl (.inr rfl)) _
end Go.Proofs.YtebofkkfbkodiaaGreatDoor
namespace Go.Proofs.YtebofkkfbkodiaaGreatDoor.Dk
open Go.RowKit Go.Proofs.Tryz
structure jF (SH:I->Nat->Nat->af->aH->Prop):Prop where
 own:∀{w B q F s},SH w B q F s->∀k,F k->B<=k/\k<w.heap.size
 aF:∀{w w' B q F s} {A:af},SH w B q F s->aA A w w'->(∀k,F k->¬A k)->SH w' B q F s
 new:∀w:I,Calls prog 169 #[] w λe w'=>∃q F,e=.returned (ae q)/\SH w' w.heap.size q F ⟨[],0⟩/\ai w w'
 apply:∀{w B q F s} (r:Rc),Small r->SH w B q F s->s.Ok->B<=w.heap.size ->
  Calls prog 147 #[ae q,.agg #[aa r.k,aa r.q,aa r.t,.string r.s,.string r.h,.string r.d]] w λe w'=>e=.returned (aa (fF s r))/\abb SH w w' B q F (kV s r)
 all:∀{w B q F s},SH w B q F s->s.Ok->B<=w.heap.size ->
  Calls prog 36 #[ae q] w λe w'=>∃v,e=.returned v/\bI w' w.heap.size v s.l/\ai w w'
 sums:∀{w B q F s},SH w B q F s->s.Ok->B<=w.heap.size ->
  Calls prog 100 #[ae q] w λe w'=>e=.returned (.agg #[aa (s.l.length:Int),aa (dG s.l:Int),aa (jE s.l),aa s.last])/\ai w w'
 last:∀{w B q F s} (f:ad),f.size<=140737488355328->SH w B q F s->s.Ok->B<=w.heap.size ->
  Calls prog 124 #[ae q,.string f] w λe w'=>e=.returned (jk f (ni f s.l))/\ai w w'
 next:∀{w B q F s} (f:ad) (n:Int),f.size<=140737488355328->SH w B q F s->s.Ok->B<=w.heap.size ->
  Calls prog 113 #[ae q,.string f,aa n] w λe w'=>e=.returned (jk f (aV f s.l n))/\ai w w'
structure V9 (SH:I->Nat->Nat->af->aH->Prop):Prop where
 tries:∀{w B q F s} (r:Rc),Small r->SH w B q F s->s.Ok->B<=w.heap.size ->
  Calls prog 144 #[ae q,.agg #[aa r.k,aa r.q,aa r.t,.string r.s,.string r.h,.string r.d]] w λe w'=>e=.returned (aa (fF s r))/\ai w w'
 gets:∀{w B q F s} (n:Int),SH w B q F s->s.Ok->B<=w.heap.size ->
  Calls prog 110 #[ae q,aa n] w λe w'=>e=.returned (aep (AX s.l n))/\ai w w'
theorem Ie:Maps.Keyed prog 9:=Maps.string_keyed underlying9
def kS (s:ad):Lit:=.string s.data.toList
theorem keyS {s:ad}(h:s.size<=maxLen):keyOf prog 9 (.string s)=some (kS s):=WideMaps.keyOf_string_mk underlying9 h
theorem Fh {a b:ad}(h:a≠b):kS a≠kS b:=λe=>h (by
 unfold kS at e;have:=Lit.string.inj e;apply ama;exact Array.ext' this)
structure Nam (w:I)(b:Nat)(l:List Rc)(D:DataW Unit):Prop where
 own:w.ownsMap prog 9 (plainElem prog 3) b l.length D
 at':∀s:ad,s.size<=maxLen->D.atKey (kS s) (.lit (.int .i64 0))=.lit (.int .i64 (gB l s:Int))
 has:∀s:ad,s.size<=maxLen->Maps.has D (kS s)=decide (0<gB l s)
 size:Maps.size D=iY l
theorem Lr (s:ad):WideAt.IsKeyLit (kS s):=by unfold kS;trivial
def Che (w:I)(B c:Nat)(F:af)(s:aH):Prop :=
 ∃v,(B<=c/\c<w.heap.size)/\w.cell? (aq c 0)=some v/\w.cell? (aq c 1)=some (aa s.last)/\w.frozen? (aq c 0)=false/\w.frozen? (aq c 1)=false/\bI w B v s.l/\v.ownBlock≠some c/\∀k,F k↔k=c\/v.ownBlock=some k
end Go.Proofs.YtebofkkfbkodiaaGreatDoor.Dk
namespace Go.Proofs.YtebofkkfbkodiaaGreatDoor.Dk
open Go Go.Proofs.Tryz
structure Po where
 s:ad
 i:ad
 h:ad
 d:ad
 x:Int
 ro:Int
structure Kn where
 i:ad
 a:Int
 q:Int
structure Str where
 es:List aB
 s:aH
 ids:List Kn
def pv (p:Pn.aX)(k:Nat):Int:=nth p.v k
def bV (p:Pn.aX)(s:ad):Bool:=p.f.any λf=>ng f s
def sN (p:Pn.aX)(now:Int)(x:Po):Int :=
 if (eX now 0 1099511627776&&(decide (-1<=x.x)&&eX x.ro 0 2))=false then 1
 else if aC false x.s≠0 then aC false x.s
 else if bV p x.s=false then 10
 else if (decide (256<x.h.size+x.d.size)||((decide (pv p 4≠0)&&decide (pv p 4<((x.h.size+x.d.size:Nat):Int)))||decide (16<x.i.size)))=true then 2
 else 0
def pK (ids:List Kn)(i:ad)(from':Int):Int:=ids.foldl (λq k=>if k.i=i/\from'<=k.a then k.q else q) 0
def qL (l:List Rc)(s:ad):Nat:=l.countP λr=>decide (r.s=s)
def Fj (l:List Rc)(s:ad):Int:=((l.find? λr=>decide (r.s=s)).map (·.q)).getD 0
def sO (x:Po):Nat:=x.s.size+x.h.size+x.d.size
def bT (p:Pn.aX)(l:List Rc)(x:Po):Bool:=decide (pv p 3≠0)&&decide (pv p 3<=(qL l x.s:Int))
def bK (p:Pn.aX)(l:List Rc)(x:Po):Bool:=(decide (pv p 0≠0)&&decide (pv p 0<=(l.length:Int)))||(decide (pv p 1≠0)&&decide (pv p 1<((dG l+sO x:Nat):Int)))
def noB:ad:=⟨#[]⟩
def dF (q now:Int):Rc:=⟨2,q,now,noB,noB,noB⟩
def iH (q now:Int)(x:Po):Rc:=⟨1,q,now,x.s,x.h,x.d⟩
def mD (q now:Int)(f:ad):Rc:=⟨3,q,now,f,noB,noB⟩
def Ls (p:Pn.aX)(l:List Rc)(x:Po):Int:=if bT p l x=true then Fj l x.s else jE l
def pO (p:Pn.aX)(m size now:Int)(x:Po):Nat->List aB->aH->Int×List aB×aH
 | 0,es,s=>(0,es,s)
 | k+1,es,s=>if (bT p s.l x||bK p s.l x)=false then (0,es,s)
  else if pv p 5=1 then (8,es,s)
  else if ji es s m size (dF (Ls p s.l x) now)≠0 then (ji es s m size (dF (Ls p s.l x) now),es,s)
  else pO p m size now x k (wM es s m size (dF (Ls p s.l x) now)) (oV es s m size (dF (Ls p s.l x) now))
def kW (p:Pn.aX)(m size now:Int)(x:Po)(es:List aB)(s:aH):Int×List aB×aH :=
 if pv p 1≠0/\pv p 1<(sO x:Int) then (8,es,s) else pO p m size now x (s.l.length+1) es s
def qM (x:Po):ad:=if x.ro=1 then x.s else ⟨#[62]⟩
def TN (ids:List Kn)(x:Po)(now q:Int):List Kn:=if x.i.size=0 then ids else ids++[⟨x.i,now,q⟩]
def mF (m size now:Int)(x:Po)(ids:List Kn)(es:List aB)(s:aH):(Int×Bool×Int)×Str :=
 if ji es s m size (iH (s.last+1) now x)≠0 then ((0,false,ji es s m size (iH (s.last+1) now x)),⟨es,s,ids⟩)
 else if x.ro=0 then ((s.last+1,false,0),⟨wM es s m size (iH (s.last+1) now x),oV es s m size (iH (s.last+1) now x),TN ids x now (s.last+1)⟩)
 else if ji (wM es s m size (iH (s.last+1) now x)) (oV es s m size (iH (s.last+1) now x)) m size (mD (s.last+1) now (qM x))≠0 then
  ((0,false,ji (wM es s m size (iH (s.last+1) now x)) (oV es s m size (iH (s.last+1) now x)) m size (mD (s.last+1) now (qM x))),⟨wM es s m size (iH (s.last+1) now x),oV es s m size (iH (s.last+1) now x),TN ids x now (s.last+1)⟩)
 else ((s.last+1,false,0),⟨wM (wM es s m size (iH (s.last+1) now x)) (oV es s m size (iH (s.last+1) now x)) m size (mD (s.last+1) now (qM x)),oV (wM es s m size (iH (s.last+1) now x)) (oV es s m size (iH (s.last+1) now x)) m size (mD (s.last+1) now (qM x)),TN ids x now (s.last+1)⟩)
def oG (p:Pn.aX)(now:Int)(x:Po)(ids:List Kn):Bool:=decide (x.i.size≠0)&&(decide (pv p 7≠0)&&decide (0<pK ids x.i (now-pv p 7)))
def dX (p:Pn.aX)(m size now:Int)(x:Po)(st:Str):(Int×Bool×Int)×Str :=
 if sN p now x≠0 then ((0,false,sN p now x),st)
 else if oG p now x st.ids=true then ((pK st.ids x.i (now-pv p 7),true,0),st)
 else if x.x≠-1/\x.x≠st.s.last then ((0,false,9),st)
 else if (kW p m size now x st.es st.s).1≠0 then ((0,false,(kW p m size now x st.es st.s).1),⟨(kW p m size now x st.es st.s).2.1,(kW p m size now x st.es st.s).2.2,st.ids⟩)
 else mF m size now x st.ids (kW p m size now x st.es st.s).2.1 (kW p m size now x st.es st.s).2.2
def pgP (m size:Int)(f:ad)(below:Int)(st:Str):(Int×Int)×Str :=
 if ji st.es st.s m size (mD below 0 f)≠0 then ((0,ji st.es st.s m size (mD below 0 f)),st)
 else (((st.s.l.length:Int)-((oV st.es st.s m size (mD below 0 f)).l.length:Int),0),⟨wM st.es st.s m size (mD below 0 f),oV st.es st.s m size (mD below 0 f),st.ids⟩)
def Fp (l:List Rc)(t:Int):Option Rc:=l.find? λr=>decide (r.t<t)
def Fq (p:Pn.aX)(m size now:Int):Nat->Int->List aB->aH->(Int×Int)×List aB×aH
 | 0,n,es,s=>((n,0),es,s)
 | k+1,n,es,s=>match Fp s.l (now-pv p 2) with
  | none=>((n,0),es,s)
  | some r=>if ji es s m size (dF r.q now)≠0 then ((n,ji es s m size (dF r.q now)),es,s)
   else Fq p m size now k (n+1) (wM es s m size (dF r.q now)) (oV es s m size (dF r.q now))
def ail (p:Pn.aX)(m size now:Int)(st:Str):(Int×Int)×Str :=
 if eX now 0 1099511627776=false then ((0,1),st)
 else if pv p 2=0 then ((0,0),st)
 else ((Fq p m size now (st.s.l.length+1) 0 st.es st.s).1,⟨(Fq p m size now (st.s.l.length+1) 0 st.es st.s).2.1,(Fq p m size now (st.s.l.length+1) 0 st.es st.s).2.2,st.ids⟩)
theorem zu.room {p:Pn.aX}{m size now:Int}{x:Po}:∀(k:Nat) {es:List aB} {s:aH},zu m es s->zu m (pO p m size now x k es s).2.1 (pO p m size now x k es s).2.2
 | 0,_,_,h=>h
 | k+1,es,s,h=>by
  unfold pO;split
  ·exact h
  ·split
   ·exact h
   ·split
    ·exact h
    ·exact zu.room k (h.did _)
theorem zu.kW {p:Pn.aX}{m size now:Int}{x:Po}{es:List aB}{s:aH}(h:zu m es s):zu m (kW p m size now x es s).2.1 (kW p m size now x es s).2.2:=by
 unfold Dk.kW;split
 ·exact h
 ·exact zu.room _ h
theorem zu.put {m size now:Int}{x:Po}{ids:List Kn}{es:List aB}{s:aH}(h:zu m es s):zu m (mF m size now x ids es s).2.es (mF m size now x ids es s).2.s:=by
 unfold mF;split
 ·exact h
 ·split
  ·exact h.did _
  ·split
   ·exact h.did _
   ·exact(h.did _).did _
theorem zu.pub {p:Pn.aX}{m size now:Int}{x:Po}{st:Str}(h:zu m st.es st.s):zu m (dX p m size now x st).2.es (dX p m size now x st).2.s:=by
 unfold dX;split
 ·exact h
 ·split
  ·exact h
  ·split
   ·exact h
   ·split
    ·exact h.kW
    ·exact zu.put h.kW
theorem aeu {s:aH}{q now:Int}(h0:fF s (dF q now)=0):kV s (dF q now)=⟨s.l.filter (λx=>decide (x.q≠q)),s.last⟩:=by
 unfold kV;rw[if_neg (by rw[h0];simp),if_neg (by show ¬(2:Int)=1;decide),if_neg (by show ¬(2:Int)=4;decide)];congr 1
 apply List.filter_congr;intro x _;unfold VY dF;simp
theorem BR {α:Type}{p:α->Bool}:∀{l:List α},(∃x∈l,p x=false)->(l.filter p).length<l.length
 | [],h=>by obtain⟨x,hx,_⟩:=h;cases hx
 | y::l,h=>by
  have hle:=akF p l;by_cases hy:p y=true
  ·rw[List.filter_cons_of_pos hy,ajX,ajX];obtain⟨x,hx,e⟩:=h;rcases akb.1 hx with z|z
   ·subst z;rw[hy] at e;cases e
   ·have:=BR ⟨x,z,e⟩;omega
  ·rw[List.filter_cons_of_neg hy,ajX];omega
theorem Yi {a b:List Rc}(h:a.Sublist b)(s:ad):qL a s<=qL b s:=h.countP_le
theorem Lu {es:List aB}{s:aH}{m size q now:Int}(h0:ji es s m size (dF q now)=0):oV es s m size (dF q now)=⟨s.l.filter (λx=>decide (x.q≠q)),s.last⟩:=by
 unfold oV;rw[if_pos h0,aeu (VZ h0).1]
structure aev (p:Pn.aX):Prop where
 pos:∀k,0<=pv p k
theorem LC {p:Pn.aX}(h:Pn.aZ p=0):aev p:=by
 obtain⟨_,_,_,_,_,h6⟩:=Pn.kU h;refine⟨λk=>?_⟩;unfold pv nth;have key:∀(v ms:List Int) (k:Nat),Pn.gY v ms=true->0<=(v[k]?).getD 0:=by
  intro v;induction v with
  | nil=>intro ms k _;simp
  | cons y v ih =>
   intro ms k hh
   cases ms with
   | nil=>simp[Pn.gY] at hh
   | cons w ms =>
    simp only[Pn.gY,ajN,ajG] at hh
    cases k with
    | zero=>simpa using hh.1.1
    | succ k=>simpa using ih ms k hh.2
 exact key p.v Pn.fV k h6
theorem aew {l:List Rc}{s:ad}(h:0<qL l s):∃r∈l,r.q=Fj l s:=by
 unfold qL at h;obtain⟨r,hr,e⟩:=List.countP_pos_iff.1 h;unfold Fj
 cases hf:l.find? (λr=>decide (r.s=s)) with
 | none =>
  have:=akW.1 hf r hr;exact absurd e this
 | some y=>exact⟨y,akY hf,rfl⟩
theorem OW {l:List Rc}(h:0<l.length):∃r∈l,r.q=jE l:=by
 cases l with
 | nil=>simp at h
 | cons r l=>exact⟨r,by simp,rfl⟩
theorem Yj {l:List Rc}(h:0<dG l):0<l.length:=by
 cases l with
 | nil=>simp[dG] at h
 | cons r l=>simp
theorem go_in {p:Pn.aX}{l:List Rc}{x:Po}(hp:aev p)(hz:¬(pv p 1≠0/\pv p 1<(sO x:Int)))(h:¬(bT p l x||bK p l x)=false):∃r∈l,r.q=Ls p l x:=by
 unfold Ls;by_cases hc:bT p l x=true
 ·rw[if_pos hc];unfold bT at hc;simp only[ajN,ajG] at hc;have:=hp.pos 3;exact aew (by omega)
 ·rw[if_neg hc];have hc:bT p l x=false:=by simpa using hc
  rw[hc,Bool.false_or] at h;have hf:bK p l x=true:=by simpa using h
  unfold bK at hf;simp only[ali,ajN,ajG] at hf;rcases hf with ⟨a,b⟩|⟨a,b⟩
  ·have:=hp.pos 0;exact OW (by omega)
  ·have hb:¬pv p 1<(sO x:Int):=λz=>hz ⟨a,z⟩
   exact OW (Yj (by omega))
structure Bnd (p:Pn.aX)(l:List Rc):Prop where
 msgs:pv p 0≠0->(l.length:Int)<=pv p 0
 bytes:pv p 1≠0->(dG l:Int)<=pv p 1
 per:pv p 3≠0->∀t,(qL l t:Int)<=pv p 3
theorem aex {es:List aB}{s:aH}{m size q now:Int}{x:Po}(h0:ji es s m size (iH q now x)=0):oV es s m size (iH q now x)=⟨s.l++[iH q now x],q⟩:=by
 unfold oV kV;rw[if_pos h0,if_neg (by rw[(VZ h0).1];simp),if_pos (by rfl)];rfl
theorem LD {l:List Rc}{i:Nat}(h:i<l.length):l.drop i=rc l i::l.drop (i+1):=by
 rw[ajW h];unfold rc;rw[ajC h];rfl
theorem aey (s:ad):Pl.toks s≠[]:=λh=>by
 have:=congrArg List.length h;rw[Pl.bH] at this;have h2:=Pl.Kz s.data.toList;exact h2 (ajZ.1 (by simpa using this))
theorem aez (s:ad):ng ⟨#[62]⟩ s=true:=by
 unfold ng;rw[aeg.2];exact XZ (by decide +kernel) (aey s)
end Go.Proofs.YtebofkkfbkodiaaGreatDoor.Dk
namespace Go.Proofs.YtebofkkfbkodiaaGreatDoor
open Go.RowKit Go.Proofs.Tryz
def Ba (p:Pn.aX)(a:Option Addr)(c:Nat):Value:=BQ p.n a p.f.length c (Dk.nth p.v 0) (Dk.nth p.v 1) (Dk.nth p.v 2) (Dk.nth p.v 3) (Dk.nth p.v 4) (Dk.nth p.v 5) (Dk.nth p.v 6) (Dk.nth p.v 7)
structure gI (p:Pn.aX):Prop where
 name:p.n.size<=140737488355328
 each:∀k,k<p.f.length->(tk p.f k).size<=140737488355328
 many:p.f.length<=140737488355328
 nums:p.v.length=8
end Go.Proofs.YtebofkkfbkodiaaGreatDoor
namespace Go.Proofs.YtebofkkfbkodiaaGreatDoor.Dk
open Go.RowKit Go.Proofs.Tryz
variable {ids:List Kn}
abbrev BU (x:Po):Value:=.agg #[.string x.s,.string x.i,.string x.h,.string x.d,aa x.x,aa x.ro]
structure jm (x:Po):Prop where
 s:x.s.size<=140737488355328
 i:x.i.size<=140737488355328
 h:x.h.size<=140737488355328
 d:x.d.size<=140737488355328
def kG:Str:=⟨[],⟨[],0⟩,[]⟩
def TP (RH:I->Nat->Nat->af->Pn.aX->Int->Int->Str->Prop)(w w':I)(B p:Nat)(F:af)(P:Pn.aX)(m size:Int)(st:Str):Prop:=∃F',RH w' B p F' P m size st/\aA F w w'/\∀k,F' k->F k\/w.heap.size<=k
structure Fit (P:Pn.aX)(m size:Int)(st:Str):Prop where
 plan:Pn.aZ P=0
 vM:zu m st.es st.s
 room:m<=65536
 size:eX size 1 4096=true
 Ig:∀k∈st.ids,1<=k.q
structure abm (G:I->Prop)(RH:I->Nat->Nat->af->Pn.aX->Int->Int->Str->Prop)(SH:I->Nat->Nat->af->aH->Prop):Prop where
 own:∀{w B p F P m size st},RH w B p F P m size st->∀k,F k->B<=k/\k<w.heap.size
 aF:∀{w w' B p F P m size st} {A:af},RH w B p F P m size st->aA A w w'->(∀k,F k->¬A k)->RH w' B p F P m size st
 wrong:∀(w:I) (P:Pn.aX) (a:Option Addr) (c:Nat) (m size:Int),gI P->gU w a P.f->P.f.length<=c->G w->Pn.aZ P≠0 ->
  Calls prog 48 #[Ba P a c,aa m,aa size] w λe w'=>e=.returned (.tuple #[.pointer none,aa (Pn.aZ P)])/\ai w w'
 bad:∀(w:I) (P:Pn.aX) (a:Option Addr) (c:Nat) (m size:Int),gI P->gU w a P.f->P.f.length<=c->G w->Pn.aZ P=0->(eX m 1 65536&&eX size 1 4096)=false ->
  Calls prog 48 #[Ba P a c,aa m,aa size] w λe w'=>e=.returned (.tuple #[.pointer none,aa 1])/\ai w w'
 good:∀(w:I) (P:Pn.aX) (a:Option Addr) (c:Nat) (m size:Int),gI P->gU w a P.f->P.f.length<=c->G w->Pn.aZ P=0->eX m 1 65536=true->eX size 1 4096=true ->
  Calls prog 48 #[Ba P a c,aa m,aa size] w λe w'=>∃p F,e=.returned (.tuple #[ae p,aa 0])/\RH w' w.heap.size p F P m size kG/\ai w w'
 publish:∀{w B p F P m size st} (now:Int) (x:Po),jm x->RH w B p F P m size st->Fit P m size st->B<=w.heap.size ->
  Calls prog 29 #[ae p,aa now,BU x] w λe w'=>e=.returned (.tuple #[aa (dX P m size now x st).1.1,.bool (dX P m size now x st).1.2.1,aa (dX P m size now x st).1.2.2])/\TP RH w w' B p F P m size (dX P m size now x st).2
 store:∀{w B p F P m size st},RH w B p F P m size st->Fit P m size st->B<=w.heap.size ->
  Calls prog 34 #[ae p] w λe w'=>∃q F0,e=.returned (ae q)/\SH w' B q F0 st.s/\(∀k,F0 k->F k)/\ai w w'
structure ain (RH:I->Nat->Nat->af->Pn.aX->Int->Int->Str->Prop):Prop where
 true':True
theorem Fit.nil {P:Pn.aX}{m size:Int}(hp:Pn.aZ P=0)(hm:eX m 1 65536=true)(hs:eX size 1 4096=true):Fit P m size kG:=by
 have hb:1<=m/\m<=65536:=by simpa[eX] using hm
 exact⟨hp,zu.nil (by omega),hb.2,hs,λk hk=>by cases hk⟩
theorem DL {x:Po}{now q:Int}(h:∀k∈ids,1<=k.q)(hq:1<=q):∀k∈TN ids x now q,1<=k.q:=by
 unfold TN;split
 ·exact h
 ·intro k hk;rcases akg.1 hk with y|y
  ·exact h k y
  ·rw[akd.1 y];exact hq
theorem aeA {m size now:Int}{x:Po}{es:List aB}{s:aH}(h:∀k∈ids,1<=k.q)(hl:0<=s.last):∀k∈(mF m size now x ids es s).2.ids,1<=k.q:=by
 unfold mF;split
 ·exact h
 ·split
  ·exact DL h (by omega)
  ·split
   ·exact DL h (by omega)
   ·exact DL h (by omega)
theorem Fit.pub {P:Pn.aX}{m size now:Int}{x:Po}{st:Str}(h:Fit P m size st):Fit P m size (dX P m size now x st).2:=by
 refine⟨h.plan,h.vM.pub,h.room,h.size,?_⟩;unfold dX;split
 ·exact h.Ig
 ·split
  ·exact h.Ig
  ·split
   ·exact h.Ig
   ·split
    ·exact h.Ig
    ·exact aeA h.Ig h.vM.kW.ok.last.1
def Ray (RH:I->Nat->Nat->af->Pn.aX->Int->Int->Str->Prop)(Cs:af)(w wr:I)(p:Nat)(P:Pn.aX)(m size:Int)(st:Str):Prop :=
 ∃F,RH wr w.heap.size p F P m size st/\ai w wr/\(∀k,Cs k->k<wr.heap.size/\¬F k)/\Fit P m size st
section
variable {G:I->Prop}{RH:I->Nat->Nat->af->Pn.aX->Int->Int->Str->Prop}{SH:I->Nat->Nat->af->aH->Prop}{Cs yI:af}{w wr w':I}{p:Nat}{P:Pn.aX}{m size:Int}{st st':Str}
end
structure vN (w:I)(b:Nat)(x:Po):Prop where
 lt:b<w.heap.size
 c0:w.cell? (aq b 0)=some (.string x.s)
 c1:w.cell? (aq b 1)=some (.string x.i)
 c2:w.cell? (aq b 2)=some (.string x.h)
 c3:w.cell? (aq b 3)=some (.string x.d)
 c4:w.cell? (aq b 4)=some (aa x.x)
 c5:w.cell? (aq b 5)=some (aa x.ro)
abbrev jQ (x:Po):Obj:=.cells #[.string x.s,.string x.i,.string x.h,.string x.d,aa x.x,aa x.ro] 31
theorem vN.new (w:I)(x:Po):vN (w.alloc (jQ x)) w.heap.size x:=⟨by simp,by simp,by simp,by simp,by simp,by simp,by simp⟩
theorem vN.same {w w':I}{b:Nat}{x:Po}(h:vN w b x)(hs:w.heap.size<=w'.heap.size)(hb:w'.heap[b]?=w.heap[b]?):vN w' b x:=by
 have e:∀j,w'.cell? (aq b j)=w.cell? (aq b j):=λj=>alU (w:=w) (a:=⟨b,j,none⟩) hb
 exact⟨ajz h.lt hs,by rw[e];exact h.c0,by rw[e];exact h.c1,by rw[e];exact h.c2,by rw[e];exact h.c3,by rw[e];exact h.c4,by rw[e];exact h.c5⟩
theorem vN.below {w w':I}{b:Nat}{x:Po}(h:vN w b x)(hb:ai w w'):vN w' b x:=h.same hb.size (hb.block b h.lt)
theorem vN.stay {Cs:af}{w w':I}{b:Nat}{x:Po}(h:vN w b x)(hs:gu Cs w w')(hb:Cs b):vN w' b x:=h.same hs.1 (hs.2 b hb)
end Go.Proofs.YtebofkkfbkodiaaGreatDoor.Dk
namespace Go.Proofs.YtebofkkfbkodiaaGreatDoor.Dk
open Go Go.Proofs.Tryz
def Low (es:List aB):Prop:=∀e∈es,0<=e.n/\e.n<(es.length:Int)
end Go.Proofs.YtebofkkfbkodiaaGreatDoor.Dk
namespace Go.Proofs.YtebofkkfbkodiaaGreatDoor
open Go.RowKit Go.Proofs.Tryz
variable {W:I}{i:Nat}{v:Value}
theorem zG {w:I}{B g cap:Nat}{l:List ad}(h:pz w B g cap l):gU w (some ⟨g,0,none⟩) l:=λk hk=>by
 have hr:=ake h k (by simpa using hk);refine⟨g,0,rfl,(own_base h).2,?_⟩;rw[ajT,hr,alj];unfold tk;rw[ajC hk];rfl
theorem LG {b k j:Nat}{x:Value}(h:k≠b):(W.setCell (aq b i) x).cell? (aq k j)=W.cell? (aq k j):=ajD _ _ _ _ (by intro e;injection e;omega)
theorem gU.far {a:Option Addr}{l:List ad}{b:Nat}{x:Value}(h:gU W a l)(hn:∀z,a=some z->z.block≠b):gU (W.setCell (aq b i) x) a l:=λk hk=>by
 obtain⟨b',o,h1,h2,h3⟩:=h k hk;exact⟨b',o,h1,by simpa[World.setCell] using h2,by rw[LG (hn _ h1)];exact h3⟩
def jK (w:I)(B:Nat)(v:Value)(l:List ad):Prop:=w.ownsRow B 9 1 v l.length (l.map Value.string)
theorem jK.below {w w':I}{B:Nat}{l:List ad}(h:jK w B v l)(hb:ai w w'):jK w' B v l:=by
 refine⟨h.1,?_⟩;rcases h.2 with q|⟨g,cap,cur,h1,h2,h3,r⟩
 ·exact .inl q
 ·refine .inr ⟨g,cap,cur,h1,h2,?_,r⟩;rw[hb.block g (aks h g (by rw[h1];rfl)).2];exact h3
theorem OZ {w wr:I}{B:Nat}{l:List ad}(h:jK wr B v l)(hb:Below B w wr)(t:ad)(hl:l.length<=200000)(hB:B<=wr.heap.size) :
 ∃v8 w8,(Builtin.append_ #[22,22] 22 #[v,.slice (some ⟨wr.heap.size,0,none⟩) 1 1]).run prog (wr.alloc (.cells #[.string t] 9))=.ok v8 w8/\jK w8 B v8 (l++[t])/\Below B w w8:=by
 have hb7:ai wr (wr.alloc (.cells #[.string t] 9)):=ax _ _;have h7:=h.below hb7;obtain⟨i0,hi,hz0,hz1,hz2⟩:=alq info9;obtain⟨v',w',hr,h2,h3,h4⟩:=amj (P:=prog) (wr.alloc (.cells #[.string t] 9)) B 22 22 9 i0 (.string ByteArray.empty) 1 16 underlying22 hi hz0 hz1 hz2 rfl (by omega) v l.length (l.map Value.string) h7 ⟨wr.heap.size,0,none⟩ 1 1 [.string t] rfl (uU _ _ _) (one_cell _) (by unfold maxLen;omega) (by omega) (ajA hB hb7.size);refine⟨v',w',hr,?_,?_⟩
 ·unfold jK;rw[ajB,akt];exact h2
 ·refine(hb.trans (hb7.mono hB)).grown h3 (ajA hB hb7.size) ?_;intro j hj;exact(aks h j hj).1
theorem jK.sl {w:I}{B:Nat}{l:List ad}(h:jK w B v l)(h0:0<l.length):∃g cap,v=.slice (some ⟨g,0,none⟩) l.length cap/\l.length<=cap/\gU w (some ⟨g,0,none⟩) l:=by
 obtain⟨n,hn⟩:∃n,l.length=n+1:=⟨l.length-1,by omega⟩;have h':=h;unfold jK at h';rw[hn] at h';obtain⟨g,cap,rfl⟩:=D9 h';refine⟨g,cap,by rw[hn],?_,λk hk=>⟨g,0,rfl,(aks h' g rfl).2,?_⟩⟩
 ·rcases h'.2 with ⟨e,_⟩|⟨g',cap',cur,e,_,_,hn',_⟩
  ·simp at e
  ·simp only[alk] at e;omega
 ·rw[ajT,ake h' k (by omega),alj,ajC hk];unfold tk;rw[ajC hk];rfl
theorem jK.aF {A:af}{w w':I}{B:Nat}{l:List ad}(h:jK w B v l)(hc:Dk.aA A w w')(hn:∀g,B<=g->¬A g):jK w' B v l:=by
 refine⟨h.1,?_⟩;rcases h.2 with q|⟨g,cap,cur,h1,h2,h3,r⟩
 ·exact .inl q
 ·refine .inr ⟨g,cap,cur,h1,h2,?_,r⟩;have hg:=aks h g (by rw[h1];rfl);rw[hc.block g hg.2 (hn g hg.1)];exact h3
theorem jK.nil (w:I)(B:Nat):jK w B (.slice none 0 0) []:=⟨by simp,.inl ⟨rfl,rfl⟩⟩
theorem jK.shape {w:I}{B:Nat}{l:List ad}(h:jK w B v l):∃a c,v=.slice a l.length c/\l.length<=c/\gU w a l:=by
 by_cases h0:0<l.length
 ·obtain⟨g,cap,e,hc,hs⟩:=h.sl h0;exact⟨_,cap,e,hc,hs⟩
 ·have hl:l=[]:=ajZ.1 (by omega);subst hl;rcases h.2 with ⟨e,_⟩|⟨g,cap,cur,h1,h2,h3,r⟩
  ·exact⟨none,0,e,agH _,λk hk=>by simp at hk⟩
  ·exact⟨_,cap,h1,by simp,λk hk=>by simp at hk⟩
end Go.Proofs.YtebofkkfbkodiaaGreatDoor
namespace Go.Proofs.YtebofkkfbkodiaaGreatDoor.Dk
open Go.RowKit Go.Proofs.Tryz
structure Dv where
 q:Int
 n:Int
 d:Int
structure bM where
 t:Tk.bJ
 pl:Int
 pe:List Dv
 cn:Int
def pR (now:Int):Bool:=decide (0<=now)&&decide (now<=1099511627776)
def qm (t:Tk.bJ)(p:Dv):Bool:=decide (t.mo≠0)&&decide (t.mo<=p.n)
def sQ (t:Tk.bJ)(l:List Rc)(now:Int)(p:Dv):Bool:=decide (p.d<=now)&&((AX l p.q).isSome&&!qm t p)
def kH (t:Tk.bJ)(l:List Rc)(now:Int):List Dv->List Dv×Option (Rc×Int)
 | []=>([],none)
 | p::ps=>if now<p.d then (p::(kH t l now ps).1,(kH t l now ps).2) else match AX l p.q with
  | none=>kH t l now ps
  | some m=>if qm t p=true then kH t l now ps else (⟨p.q,p.n+1,now+Tk.fH t (p.n+1)⟩::ps,some (m,p.n+1))
def dN (f:ad)(l:List Rc)(pl:Int):Nat:=(l.filter λr=>ng f r.s&&decide (pl<=r.q)).length
def aK (c:bM)(l:List Rc)(now:Int):bM×Option (Rc×Int)×Int :=
 if pR now=false then (c,none,1) else match (kH c.t l now c.pe).2 with
 | some (m,n)=>(⟨c.t,c.pl,(kH c.t l now c.pe).1,c.cn+1⟩,some (m,n),0)
 | none=>if c.t.pe≠0/\c.t.pe<=((kH c.t l now c.pe).1.length:Int) then (⟨c.t,c.pl,(kH c.t l now c.pe).1,c.cn⟩,none,11) else match aV c.t.f l c.pl with
  | none=>(⟨c.t,c.pl,(kH c.t l now c.pe).1,c.cn⟩,none,4)
  | some m=>(⟨c.t,m.q+1,if c.t.ack=0 then (kH c.t l now c.pe).1 else (kH c.t l now c.pe).1++[⟨m.q,1,now+Tk.fH c.t 1⟩],c.cn+1⟩,some (m,1),0)
def xM (so n:Int):Bool:=if so=2 then decide (0<=n)&&decide (n<=100000) else (decide (so=1)||(decide (so=3)||decide (so=4)))&&decide (n=0)
def zH (l:List Dv)(q:Int):Bool:=l.any λp=>decide (p.q=q)
def wB (l:List Dv)(q:Int)(f:Dv->Int):List Dv:=l.map λp=>if p.q=q then ⟨p.q,p.n,f p⟩ else p
def iT (c:bM)(now q so n:Int):bM×Int :=
 if pR now=false\/xM so n=false then (c,1) else if zH c.pe q=false then (c,4)
 else if so=1 then (⟨c.t,c.pl,c.pe.filter λp=>if c.t.ack=1 then decide (q<p.q) else decide (p.q≠q),c.cn⟩,0)
 else if so=2 then (⟨c.t,c.pl,wB c.pe q λ_=>now+n,c.cn⟩,0)
 else if so=3 then (⟨c.t,c.pl,wB c.pe q λp=>now+Tk.fH c.t p.n,c.cn⟩,0)
 else (⟨c.t,c.pl,c.pe.filter λp=>decide (p.q≠q),c.cn⟩,0)
def um (c:bM)(q:Int):Bool:=decide (q<c.pl)&&!zH c.pe q
def ajf:List Dv->Int
 | []=>-1
 | p::ps=>ps.foldl (λm x=>min m x.d) p.d
def agc (c:bM):Int:=match c.pe with
 | []=>c.pl-1
 | p::_=>p.q-1
def eH (t:Tk.bJ)(s:aH):Int:=if t.fr=1 then (match ni t.f s.l with
 | some m=>m.q
 | none=>s.last+1) else if t.fr=2 then s.last+1 else if t.fr=3 then t.st else 1
structure bM.Ok (c:bM):Prop where
 rise:c.pe.Pairwise λa b=>a.q<b.q
 low:∀p∈c.pe,1<=p.q/\p.q<c.pl
 nth:∀p∈c.pe,1<=p.n
 due:∀p∈c.pe,0<=p.d/\p.d<=1099511727776
 none0:c.t.ack=0->c.pe=[]
 pl:1<=c.pl/\c.pl<=1099511627777
theorem uo {t:Tk.bJ}{l:List Rc}{now:Int}:∀{ps:List Dv} {p:Dv},p∈(kH t l now ps).1->∃p0∈ps,p0.q=p.q/\(p=p0\/(p.n=p0.n+1/\p.d=now+Tk.fH t p.n))
 | [],p,h=>by simp[kH] at h
 | p0::ps,p,h=>by
  rw[kH] at h;split at h
  ·rcases akb.1 h with rfl|h
   ·exact⟨p,ajP ..,rfl,.inl rfl⟩
   ·obtain⟨x,hx,r⟩:=uo h;exact⟨x,ajS _ hx,r⟩
  ·split at h
   ·obtain⟨x,hx,r⟩:=uo h;exact⟨x,ajS _ hx,r⟩
   ·split at h
    ·obtain⟨x,hx,r⟩:=uo h;exact⟨x,ajS _ hx,r⟩
    ·rcases akb.1 h with rfl|h
     ·exact⟨p0,ajP ..,rfl,.inr ⟨rfl,rfl⟩⟩
     ·exact⟨p,ajS _ h,rfl,.inl rfl⟩
theorem Wh {t:Tk.bJ}{l:List Rc}{now:Int}:∀{ps:List Dv},(ps.Pairwise λa b=>a.q<b.q)->((kH t l now ps).1.Pairwise λa b=>a.q<b.q)
 | [],_=>by simp[kH]
 | p0::ps,h=>by
  obtain⟨h1,h2⟩:=akL.1 h;have ih:=Wh (t:=t) (l:=l) (now:=now) h2;rw[kH];split
  ·exact akL.2 ⟨λx hx=>by
    obtain⟨y,hy,e,_⟩:=uo hx;rw[<-e];exact h1 y hy,ih⟩
  ·split
   ·exact ih
   ·split
    ·exact ih
    ·exact akL.2 ⟨λx hx=>h1 x hx,h2⟩
theorem Bc {t:Tk.bJ}{l:List Rc}{now:Int}:∀(ps:List Dv),(kH t l now ps).1.length<=ps.length
 | []=>by simp[kH]
 | p0::ps=>by
  have ih:=Bc (t:=t) (l:=l) (now:=now) ps;rw[kH];split
  ·simp only[ajX];omega
  ·split
   ·simp only[ajX];omega
   ·split
    ·simp only[ajX];omega
    ·simp only[ajX];omega
section
variable {t:Tk.bJ}{l:List Rc}{now:Int}
theorem Wi {p:Dv}(h:sQ t l now p=false)(hd:¬now<p.d)(ps:List Dv):kH t l now (p::ps)=kH t l now ps:=by
 rw[kH,if_neg hd];unfold sQ at h;rw[ajH (by omega),akz] at h
 cases hg:AX l p.q with
 | none=>rfl
 | some m =>
  rw[hg] at h;simp only[Option.isSome_some,akz,ana] at h;simp only[h,ami]
theorem aeB {p:Dv}(h:sQ t l now p=true):∃m,AX l p.q=some m/\∀ps,kH t l now (p::ps)=(⟨p.q,p.n+1,now+Tk.fH t (p.n+1)⟩::ps,some (m,p.n+1)):=by
 unfold sQ at h;rw[ajN,ajN] at h;obtain⟨h1,h2,h3⟩:=h;have h1:=alN h1;obtain⟨m,hm⟩:=Option.isSome_iff_exists.1 h2;refine⟨m,hm,λps=>?_⟩;rw[kH,if_neg (by omega),hm];have h4:¬qm t p=true:=by simpa using h3
 simp only[if_neg h4]
theorem abn {a:List Dv}(ha:∀p∈a,sQ t l now p=false){p:Dv}(hp:sQ t l now p=true)(b:List Dv):∃m,AX l p.q=some m/\kH t l now (a++p::b)=((a.filter λx=>!decide (x.d<=now))++⟨p.q,p.n+1,now+Tk.fH t (p.n+1)⟩::b,some (m,p.n+1)):=by
 obtain⟨m,hm,hy⟩:=aeB hp;refine⟨m,hm,?_⟩;induction a with
 | nil=>exact hy b
 | cons x a ih =>
  have ih:=ih (λq hq=>ha q (ajS _ hq));have hx:=ha x (ajP ..);rw[akx];by_cases hd:now<x.d
  ·rw[kH,if_pos hd,ih,List.filter_cons_of_pos (by simp;omega),akx]
  ·rw[Wi hx hd,ih,List.filter_cons_of_neg (by simp;omega)]
theorem aeC {a:List Dv}(ha:∀p∈a,sQ t l now p=false):kH t l now a=(a.filter λx=>!decide (x.d<=now),none):=by
 induction a with
 | nil=>rfl
 | cons x a ih =>
  have ih:=ih (λq hq=>ha q (ajS _ hq));have hx:=ha x (ajP ..);by_cases hd:now<x.d
  ·rw[kH,if_pos hd,ih,List.filter_cons_of_pos (by simp;omega)]
  ·rw[Wi hx hd,ih,List.filter_cons_of_neg (by simp;omega)]
theorem abo {a:List Dv}(ha:∀p∈a,now<p.d)(b:List Dv):kH t l now (a++b)=(a++(kH t l now b).1,(kH t l now b).2):=by
 induction a with
 | nil=>rfl
 | cons x a ih =>
  have ih:=ih (λq hq=>ha q (ajS _ hq));rw[akx,kH,if_pos (ha x (ajP ..)),ih,akx]
theorem Wj {a b:List Dv}{p:Dv}(h:(a++p::b).Pairwise λx y=>x.q<y.q):(a++p::b).filter (λx=>decide (x.q≠p.q))=a++b:=by
 rw[akO,akL] at h;obtain⟨_,⟨h2,_⟩,h3⟩:=h;rw[alr,List.filter_cons_of_neg (by simp)];rw[akZ.2 (λx hx=>?_),akZ.2 (λx hx=>?_)]
 ·have:=h2 x hx;simp only[ajG];omega
 ·have:=h3 x hx p (ajP ..);simp only[ajG];omega
theorem DN (hw:0<=t.wait/\t.wait<=100000)(hb:∀x∈t.bo,0<=x/\x<=100000)(n:Int):0<=Tk.fH t n/\Tk.fH t n<=100000:=by
 unfold Tk.fH;split
 ·exact hw
 ·cases h:t.bo[(min (max n 1) (t.bo.length:Int)-1).toNat]? with
  | none=>exact⟨by decide,by decide⟩
  | some x=>exact hb x (amP h)
end
theorem vP {f:ad}{l:List Rc}{n:Int}{m:Rc}(h:aV f l n=some m):m∈l/\n<=m.q/\ng f m.s=true:=by
 have h1:=List.find?_some h;simp only[ajN,ajG] at h1;exact⟨akY h,h1.2,h1.1⟩
structure lX (t:Tk.bJ):Prop where
 w:0<=t.wait/\t.wait<=100000
 b:∀x∈t.bo,0<=x/\x<=100000
theorem Wl {c:bM}(h:c.Ok)(hw:lX c.t)(l:List Rc){now:Int}(ht:0<=now/\now<=1099511627776)(cn:Int):(⟨c.t,c.pl,(kH c.t l now c.pe).1,cn⟩:bM).Ok where
 rise:=Wh h.rise
 low:=λp hp=>by
  obtain⟨x,hx,e,_⟩:=uo hp;rw[<-e];exact h.low x hx
 nth:=λp hp=>by
  obtain⟨x,hx,_,r⟩:=uo hp;have:=h.nth x hx;rcases r with rfl|⟨r,_⟩
  ·exact this
  ·omega
 due:=λp hp=>by
  obtain⟨x,hx,_,r⟩:=uo hp;rcases r with rfl|⟨_,r⟩
  ·exact h.due p hx
  ·have:=DN hw.w hw.b p.n;rw[r];omega
 none0:=λh0=>by
  show(kH c.t l now c.pe).1=[];rw[h.none0 h0];rfl
 pl:=h.pl
theorem bM.Ok.next {c:bM}(h:c.Ok)(hw:lX c.t){s:aH}(hs:s.Ok)(now:Int):(aK c s.l now).1.Ok:=by
 unfold aK;split
 ·exact h
 ·rename_i ht;have ht:0<=now/\now<=1099511627776:=by
   unfold pR at ht;simp only[Bool.not_eq_false,ajN,ajG] at ht;exact ht
  split
  ·exact Wl h hw _ ht _
  ·split
   ·exact Wl h hw _ ht _
   ·split
    ·exact Wl h hw _ ht _
    ·rename_i m hm;obtain⟨m1,m2,_⟩:=vP hm;obtain⟨q1,q2⟩:=hs.seq m1;have k:=Wl h hw s.l ht c.cn;have hwt:=DN hw.w hw.b 1;have hlow:∀p∈(kH c.t s.l now c.pe).1,1<=p.q/\p.q<m.q:=λp hp=>by
      have h1:1<=p.q/\p.q<c.pl:=k.low p hp;omega
     by_cases h0:c.t.ack=0
     ·simp only[h0,ami];exact⟨k.rise,λp hp=>by
       have h1:1<=p.q/\p.q<m.q:=hlow p hp;exact⟨h1.1,by show p.q<m.q+1;omega⟩,k.nth,k.due,λz=>k.none0 z,by show 1<=m.q+1/\m.q+1<=1099511627777;omega⟩
     ·simp only[if_neg h0];refine⟨?_,λp hp=>?_,λp hp=>?_,λp hp=>?_,λz=>absurd z h0,by show 1<=m.q+1/\m.q+1<=1099511627777;omega⟩
      ·show List.Pairwise _ ((kH c.t s.l now c.pe).1++[_]);rw[akO];exact⟨k.rise,by simp,λx hx y hy=>by
        rw[akd] at hy;subst hy;exact(hlow x hx).2⟩
      ·rcases akg.1 hp with hp|hp
       ·have h1:=hlow p hp;exact⟨h1.1,by show p.q<m.q+1;omega⟩
       ·rw[akd] at hp;subst hp;exact⟨q1,by show m.q<m.q+1;omega⟩
      ·rcases akg.1 hp with hp|hp
       ·exact k.nth p hp
       ·rw[akd] at hp;subst hp;exact amb _
      ·rcases akg.1 hp with hp|hp
       ·exact k.due p hp
       ·rw[akd] at hp;subst hp;show 0<=now+Tk.fH c.t 1/\now+Tk.fH c.t 1<=1099511727776;omega
end Go.Proofs.YtebofkkfbkodiaaGreatDoor.Dk
namespace Go.Proofs.YtebofkkfbkodiaaGreatDoor
open Go Go.Proofs.Tryz
namespace Pn
open Go.Proofs.Tryz
variable {v:List Int}{i:Nat}{all ts:List (List UInt8)}
def Rel (all:List (List UInt8))(i:Nat)(rest:List (List UInt8))(v:List Int):Prop:=AV dR all=(AV (dR.drop i) rest).map (λu=>v.take i++u)/\v.length=8/\i<=8/\∀j,i<=j->j<8->Dk.nth v j=0
theorem Rel.start (all:List (List UInt8)):Rel all 0 all [0,0,0,0,0,0,0,0]:=by
 refine⟨?_,rfl,by omega,λj _ hj=>?_⟩
 ·simp
 ·have:j=0\/j=1\/j=2\/j=3\/j=4\/j=5\/j=6\/j=7:=by omega
  rcases this with rfl|rfl|rfl|rfl|rfl|rfl|rfl|rfl<;>rfl
theorem O0 (h:i<v.length):v.take (i+1)=v.take i++[Dk.nth v i]:=by
 rw[akc h];unfold Dk.nth;rw[ajC h];rfl
theorem vS (h:i<8):dR.drop i=(wd i).data.toList::dR.drop (i+1):=by
 have h2:i<dR.length:=h;rw[ajW h2];unfold wd;rw[lW,ajC h2];rfl
theorem Rel.skip {t:List UInt8}(h:Rel all i (t::ts) v)(hi:i<8)(hp:¬((wd i).data.toList++[61]).isPrefixOf t=true):Rel all (i+1) (t::ts) v:=by
 obtain⟨h1,h2,h3,h4⟩:=h;refine⟨?_,h2,by omega,λj hj hj8=>h4 j (by omega) hj8⟩;rw[h1,vS hi,AV,if_neg hp,Option.map_map,O0 (by omega),h4 i (agH _) hi];congr 1
 funext u
 simp
theorem Rel.bad {t:List UInt8}(h:Rel all i (t::ts) v)(hi:i<8)(hp:((wd i).data.toList++[61]).isPrefixOf t=true)(hd:dU (t.drop ((wd i).data.toList.length+1))<1):AV dR all=none:=by
 obtain⟨h1,_⟩:=h;rw[h1,vS hi,AV,if_pos hp,if_pos hd];rfl
theorem LJ {j:Nat}{x:Int}(h:i<v.length):Dk.nth (v.set i x) j=if i=j then x else Dk.nth v j:=by
 unfold Dk.nth;rw[List.getElem?_set];by_cases e:i=j
 ·rw[if_pos e,if_pos e,if_pos (by omega)];rfl
 ·rw[if_neg e,if_neg e]
theorem Rel.took {t:List UInt8}(h:Rel all i (t::ts) v)(hi:i<8)(hp:((wd i).data.toList++[61]).isPrefixOf t=true)(hd:¬dU (t.drop ((wd i).data.toList.length+1))<1):Rel all (i+1) ts (v.set i (dU (t.drop ((wd i).data.toList.length+1)))):=by
 obtain⟨h1,h2,h3,h4⟩:=h;refine⟨?_,by rw[alb];exact h2,by omega,λj hj hj8=>by rw[LJ (by omega),if_neg (by omega)];exact h4 j (by omega) hj8⟩;rw[h1,vS hi,AV,if_pos hp,if_neg hd,Option.map_map,O0 (by rw[alb];omega),LJ (by omega),if_pos rfl,List.take_set_of_le (agH _)];congr 1
 funext u
 simp
theorem Rel.over {t:List UInt8}(h:Rel all 8 (t::ts) v):AV dR all=none:=by
 obtain⟨h1,_⟩:=h;rw[h1];rfl
theorem Rel.done (h:Rel all i [] v):AV dR all=some v:=by
 obtain⟨h1,h2,h3,h4⟩:=h;have key:∀(n i:Nat),i+n=8->(∀j,i<=j->j<8->Dk.nth v j=0)->AV (dR.drop i) []=some (v.drop i):=by
  intro n;induction n with
  | zero =>
   intro i hi _;have e8:i=8:=by omega
   subst e8;rw[show dR.drop 8=[] from rfl,show v.drop 8=[] from aki (by omega)];rfl
  | succ n ih =>
   intro i hi hz;rw[vS (by omega),AV,ih (i+1) (by omega) (λj hj hj8=>hz j (by omega) hj8),ajW (show i<v.length by omega)];have:=hz i (agH _) (by omega);unfold Dk.nth at this;rw[ajC (show i<v.length by omega)] at this;simp at this;simp[this]
 rw[h1,key (8-i) i (by omega) h4];simp
end Pn
end Go.Proofs.YtebofkkfbkodiaaGreatDoor
namespace Go.Proofs.YtebofkkfbkodiaaGreatDoor
open Go Go.Proofs.Tryz
variable {ws:List ad}
theorem TQ {s:ad}(h:1024<s.size):Pn.cu s=(Pn.iG,2):=by unfold Pn.cu;rw[if_pos h]
theorem read_short {s:ad}(h:¬1024<s.size)(hc:ws.map (·.data.toList)=Pn.cut 32 s.data.toList)(h2:ws.length<2):Pn.cu s=(Pn.iG,3):=by
 unfold Pn.cu;rw[if_neg h,<-hc]
 cases ws with
 | nil=>rfl
 | cons x xs =>
  cases xs with
  | nil=>rfl
  | cons y ys=>simp at h2;omega
theorem Bd {s:ad}{b:UInt8}(hc:ws.map (·.data.toList)=Pn.cut b s.data.toList){i:Nat}(hi:i<ws.length):(tk ws i).size<=s.size:=by
 have hm:(tk ws i).data.toList∈Pn.cut b s.data.toList:=by
  rw[<-hc,alh];refine⟨tk ws i,?_,rfl⟩;unfold tk;rw[ajC hi];exact ako hi
 have:=Pn.Iz b _ _ hm;simpa using this
theorem Ws (u:ad):(u++⟨#[61]⟩:ad).data.toList=u.data.toList++[61]:=by simp[ByteArray.data_append]
theorem Yk (u:ad):(u++⟨#[61]⟩:ad).size=u.data.toList.length+1:=by rw[anj];simp;rfl
theorem eight {v:List Int}(h:v.length=8):∃x0 x1 x2 x3 x4 x5 x6 x7,v=[x0,x1,x2,x3,x4,x5,x6,x7]:=by
 match v,h with
 | [x0,x1,x2,x3,x4,x5,x6,x7],_=>exact⟨x0,x1,x2,x3,x4,x5,x6,x7,rfl⟩
end Go.Proofs.YtebofkkfbkodiaaGreatDoor
namespace Go.Proofs.YtebofkkfbkodiaaGreatDoor
open Go.RowKit Go.Proofs.Tryz
namespace Pn
open Go.Proofs.Tryz
theorem aU (a:List UInt8):(bs a).size=a.length:=by show a.toArray.size=a.length;simp
end Pn
end Go.Proofs.YtebofkkfbkodiaaGreatDoor
namespace Go.Proofs.YtebofkkfbkodiaaGreatDoor
open Go.RowKit Go.Proofs.Tryz
def aio (p:Pn.aX):Value:=if Pn.aZ p≠0 then .tuple #[.string ⟨#[]⟩,aa (Pn.aZ p)] else if Pn.commas p=true then .tuple #[.string ⟨#[]⟩,aa 3] else .tuple #[.string (Pn.aa7 p),aa 0]
structure ai1 (G:I->Prop):Prop where
 check:∀(p:Pn.aX) (a:Option Addr) (c:Nat) (w:I),gI p->gU w a p.f->p.f.length<=c->G w ->
  Calls prog 87 #[Ba p a c] w λe w'=>e=.returned (aa (Pn.aZ p))/\ai w w'
structure oH (G:I->Prop):Prop where
 parse:∀(s:ad) (w:I),s.size<=140737488355328->G w ->
  Calls prog 46 #[.string s] w λe w'=>∃a c,e=.returned (.tuple #[Ba (Pn.cu s).1 a c,aa (Pn.cu s).2])/\gU w' a (Pn.cu s).1.f/\ai w w'/\(Pn.cu s).1.f.length<=c
theorem gU.puts {b:Nat}{a:Option Addr}{l:List ad}(hn:∀z,a=some z->z.block≠b):∀(vs:List Value) (W:I) (o:Nat),gU W a l->gU (puts W b o vs) a l
 | [],_,_,h=>h
 | _::vs,_,o,h=>gU.puts hn vs _ (o+1) (h.far hn)
end Go.Proofs.YtebofkkfbkodiaaGreatDoor
namespace Go.Proofs.YtebofkkfbkodiaaGreatDoor.Dk
open Go.RowKit Go.Proofs.Tryz
abbrev Ps:=List (ad×Nat)
def cZ (ps:Ps)(i:ad):Option Nat:=(ps.find? λp=>decide (p.1=i)).map (·.2)
def O1 (o:Option Nat):Value:=.pointer (o.map λc=>⟨c,0,none⟩)
def ahq (D:DataW Unit)(ps:Ps):Prop:=Maps.size D=ps.length/\∀i:ad,i.size<=maxLen->(cZ ps i=none->Maps.has D (kS i)=false)/\∀c,cZ ps i=some c->Maps.has D (kS i)=true/\∀zd,D.atKey (kS i) zd=.lit (.int .i64 (c:Int))
def mV (w:I)(mb:Option Nat)(ps:Ps):Prop:=(mb=none/\ps=[])\/∃b D,mb=some b/\w.ownsMap prog 9 bD b ps.length D/\ahq D ps
theorem Yl {ps:Ps}{i:ad}(h:cZ ps i=none):∀p∈ps,p.1≠i:=λp hp e=>by
 unfold cZ at h;have:=akW.1 (Option.map_eq_none_iff.1 h) p hp;simp[e] at this
theorem Ym (ps:Ps)(n i:ad)(c:Nat)(h:cZ ps n=none):cZ (ps++[(n,c)]) i=if i=n then some c else cZ ps i:=by
 by_cases e:i=n
 ·subst e;have hn:=Yl h;unfold cZ;rw[List.find?_append,akW.2 (λp hp=>by simpa using hn p hp)];simp
 ·unfold cZ;rw[List.find?_append,if_neg e]
  cases ps.find? λp=>decide (p.1=i) with
  | none=>simp[show ¬n=i from λz=>e z.symm]
  | some p=>simp
section
variable {w w':I}{mb:Option Nat}{ps:Ps}{A:af}{b r cnt:Nat}{left:ad->Bool}
theorem mV.made (w:I):mV (w.alloc (.map #[] 0)) (some w.heap.size) []:=.inr ⟨_,.map [],rfl,World.ownsMap_made _ _ _ _,rfl,λi _=>⟨λ_=>by simp[Maps.has],λk hk=>by cases hk⟩⟩
theorem mV.aF (h:mV w mb ps)(hc:aA A w w')(hn:∀b,mb=some b->¬A b):mV w' mb ps:=by
 rcases h with h|⟨b,D,rfl,h,h2⟩
 ·exact .inl h
 ·refine .inr ⟨b,D,rfl,?_,h2⟩;have hl:=h.lt;obtain⟨es,clock,hb,r⟩:=h;exact⟨es,clock,(hc.block b hl (hn b rfl)).trans hb,r⟩
theorem mV.lt (h:mV w (some b) ps):b<w.heap.size:=by
 rcases h with ⟨h,_⟩|⟨b',D,e,h,_⟩
 ·cases h
 ·cases e;exact h.lt
section
variable {mt et:TypeId}(hm:prog.underlying mt=some (.map 9 et))(hz:∀w,(zeroValue et).run prog w=.ok (.pointer none) w)
include hm hz
theorem mV.look (h:mV w mb ps)(i:ad)(hi:i.size<=maxLen)(c:Bool) :
 (Instr.lookup mt (.map mb) (.string i) c).run prog w=.ok (if c then .tuple #[O1 (cZ ps i),.bool (cZ ps i).isSome] else O1 (cZ ps i)) w:=by
 rcases h with ⟨rfl,rfl⟩|⟨b,D,rfl,h,_,h2⟩
 ·exact Maps.look_nil c Ie hm (hz w) (keyS hi)
 ·obtain⟨es,clock,hb,F,hs,rfl⟩:=h;obtain⟨g1,g2⟩:=h2 i hi;rcases Maps.fit_look c Ie hm (hz w) hb F (keyS hi) with ⟨h1,_,h3⟩|⟨e0,y,_,_,h1,h4,h3,_⟩
  ·cases hl:cZ ps i with
   | none=>exact h1
   | some k=>have:=Maps.has_false_of_atKey h3;rw[(g2 k hl).1] at this;cases this
  ·obtain⟨k,hv,hy⟩:=nJ h4
   cases hl:cZ ps i with
   | none=>have:=Maps.has_true_of_atKey h3;rw[g1 hl] at this;cases this
   | some k' =>
    have e:=((g2 k' hl).2 .nil).symm.trans (h3 .nil);rw[hy] at e;have:k=k':=by simp only[amf,amz,ane] at e;omega
    subst this;rw[h1,hv];rfl
omit hz in
theorem mV.store (h:mV w (some b) ps)(hn:ps.length<maxLen)(i:ad)(hi:i.size<=maxLen)(c:Nat)(hnew:cZ ps i=none) :
 ∃w',(Instr.mapUpdate mt (.map (some b)) (.string i) (ae c)).run prog w=.ok () w'/\mV w' (some b) (ps++[(i,c)])/\aA (λk=>k=b) w w':=by
 rcases h with ⟨h,_⟩|⟨b',D,e,h,h0,h2⟩
 ·cases h
 ·cases e
  obtain⟨w',hrun,h3,h4⟩:=h.store Ie hm hn (keyS hi) (tV c);have hD:=h.tidy Ie;refine⟨w',hrun,.inr ⟨b,_,rfl,by rw[ajB,akR];exact h3,?_,λj hj=>?_⟩,(aA.bC h4.grown).mono (λk _ z=>(ajU z).symm)⟩
  ·rw[Maps.size_put hD,(h2 i hi).1 hnew,h0];simp
  ·rw[Ym ps i j c hnew];by_cases e:j=i
   ·subst e;rw[if_pos rfl];refine⟨(λz=>by cases z),λk hk=>?_⟩
    cases hk
    exact⟨Maps.has_put_same hD.isMap (Lr _) _,λzd=>Maps.atKey_put_same hD.isMap (Lr _) _ _⟩
   ·rw[if_neg e];obtain⟨g1,g2⟩:=h2 j hj;refine⟨λz=>?_,λk hk=>⟨?_,λzd=>?_⟩⟩
    ·rw[amm (Fh e)];exact g1 z
    ·rw[amm (Fh e)];exact(g2 k hk).1
    ·rw[Maps.atKey_put_other (Fh e)];exact(g2 k hk).2 zd
omit hz in
theorem mV.len (h:mV w mb ps)(ty:TypeId):(Builtin.len_ #[mt] ty #[.map mb]).run prog w=.ok (.int .i64 ps.length) w:=by
 rcases h with ⟨rfl,rfl⟩|⟨b,D,rfl,h,h0,_⟩
 ·rw[Maps.len_nil hm ty];rfl
 ·rw[h.len hm ty,h0]
omit hz in
end
def Rg (w:I)(mb:Option Nat)(r:Nat)(ps:Ps)(left:ad->Bool)(cnt:Nat):Prop :=
 (mb=none/\ps=[]/\cnt=0/\∃a s c,w.heap[r]?=some (.mapIter none a s c))\/∃b D lf,mb=some b/\w.ranges prog 9 bD b r ps.length D lf cnt/\ahq D ps/\(∀kl,lf kl=true->Maps.has D kl=true)/\∀i:ad,i.size<=maxLen->lf (kS i)=(left i&&(cZ ps i).isSome)
def kX (mb:Option Nat)(r:Nat)(w:I):Nat:=match mb with
 | none=>0
 | some b=>w.rangeLeft b r
theorem Rg.left_eq (h:Rg w mb r ps left cnt):kX mb r w=cnt:=by
 rcases h with ⟨rfl,_,rfl,_⟩|⟨b,D,lf,rfl,h,_⟩
 ·rfl
 ·exact h.left_eq
theorem Rg.aF (h:Rg w mb r ps left cnt)(hc:aA A w w')(h1:∀b,mb=some b->¬A b)(h2:¬A r)(hr:r<w.heap.size):Rg w' mb r ps left cnt:=by
 rcases h with ⟨e1,e2,e3,a,s,c,e4⟩|⟨b,D,lf,rfl,h,h3⟩
 ·exact .inl ⟨e1,e2,e3,a,s,c,(hc.block r hr h2).trans e4⟩
 ·have hl:=h.owns.lt;obtain⟨es,clock,since,seen,c0,g1,g2,g3,g4,g5,g6⟩:=h;exact .inr ⟨b,D,lf,rfl,⟨es,clock,since,seen,c0,(hc.block b hl (h1 b rfl)).trans g1,g2,g3,g4,(hc.block r hr h2).trans g5,g6⟩,h3⟩
theorem O4 {key:Value}{kl:Lit}(h:keyOf prog 9 key=some kl):∃s:ad,key=.string s/\kl=kS s/\s.size<=maxLen:=by
 cases key<;>simp[keyOf,underlying9,mapKey] at h
 obtain⟨h1,h2⟩:=h;refine⟨_,rfl,h2.symm,?_⟩;simpa using h1
theorem invS (key:Value)(kl:Lit)(h:keyOf prog 9 key=some kl):∃x,key=Value.string x:=by
 obtain⟨s,e,_⟩:=O4 h;exact⟨s,e⟩
def mkB (c:Nat):Value:=ae c
theorem aip (v:Value)(y:DataW Unit×List MemPlace)(h:bD v=some y):∃c,v=mkB c:=by
 obtain⟨b,h,_⟩:=nJ h;exact⟨b,h⟩
section
variable {ops:Array Oper}{rest:List Oper}{o:Oper}{a:Act}{Q:Exit->Act->I->Prop}
theorem nO (hg:o.guard=none)(m:Operand)(t et:TypeId)(hop:o.op=Op.range t m)(ht:prog.underlying t=some (.map 9 et))(hmv:a.eval m=.map mb)(h:mV w mb ps)
 (hK:∀w' cnt,Rg w' mb w.heap.size ps (λ_=>true) cnt->ai w w'->w'.heap.size=w.heap.size+1->wpList prog ops Q rest (a.put o.dst (.pointer (some ⟨w.heap.size,0,none⟩))) w') :
 wpList prog ops Q (o::rest) a w:=by
 rcases h with ⟨rfl,rfl⟩|⟨b,D,rfl,h,h2⟩
 ·refine wpList_plain hg λK' hK'=>?_
  have hrun:=run_range_nilMap (P:=prog) w t 9 et ht;unfold Oper.wp;simp[execOp,hop,hmv,hrun,Result.andThen];exact hK' _ _ (hK _ 0 (.inl ⟨rfl,rfl,rfl,0,#[],0,akv _ _⟩) (ax _ _) (by simp))
 ·refine wpList_range_own w hg m t hop 9 et Ie ht bD b ps.length D hmv h λw' h1 hg hs=>hK w' _ (.inr ⟨b,D,_,rfl,h1,h2,λ_ z=>z,λi hi=>?_⟩) ((agP _ _).grown hg (agH _) (λj hj=>by cases hj)) hs
  cases hl:cZ ps i with
  | none=>exact(h2.2 i hi).1 hl
  | some c=>exact((h2.2 i hi).2 c hl).1
theorem pU (hg:o.guard=none)(it:Operand)(hop:o.op=Op.next it false)(hit:a.eval it=ae r)(h:Rg w mb r ps left cnt)
 (hDone:(∀i:ad,i.size<=maxLen->(cZ ps i).isSome=true->left i=false)->wpList prog ops Q rest (a.put o.dst (.tuple #[.bool false])) w)
 (hMore:∀(x:ad) (c:Nat) (w':I) (cnt':Nat),x.size<=maxLen->cZ ps x=some c->left x=true->Rg w' mb r ps (λz=>left z&&decide (z≠x)) cnt'->cnt'<cnt->aA (λk=>k=r) w w' ->
  (Instr.entry (ae r)).run prog w'=.ok (.tuple #[.string x,ae c]) w'->wpList prog ops Q rest (a.put o.dst (.tuple #[.bool true,.string x,ae c])) w') :
 wpList prog ops Q (o::rest) a w:=by
 rcases h with ⟨rfl,rfl,rfl,s,q,c,e4⟩|⟨b,D,lf,rfl,h,h2,h4,h3⟩
 ·refine wpList_plain hg λK' hK'=>?_
  have hrun:(Instr.next (ae r) false o.type).run prog w=.ok (.tuple #[.bool false]) w:=by
   simp only[Instr.next,getObj,Sem.run_bind,Sem.run,e4,Result.andThen];rfl
  unfold Oper.wp;simp[execOp,hop,hit,hrun,Result.andThen];exact hK' _ _ (hDone (λi _ z=>by cases z))
 ·refine wpList_next_ranges w hg it hop 9 Ie bD Value.string mkB invS aip b r ps.length D lf cnt hit h (λ_ hl=>hDone λi hi z=>?_) λx c kl y w' cnt' hkey hlk hv hat hrg hlt hgr hsz hen=>?_
  ·have:=h3 i hi;rw[hl,z,Bool.and_true] at this;exact this.symm
  ·obtain⟨s,e1,rfl,hs⟩:=O4 hkey
   cases e1
   have hl:=h3 x hs;rw[hlk] at hl;have hl':=Bool.and_eq_true_iff.1 hl.symm;obtain⟨c',hc'⟩:=Option.isSome_iff_exists.1 hl'.2;have e:=((((h2.2 x hs).2 c' hc').2) .nil).symm.trans (hat .nil);have hy:y=(.lit (.int .i64 (c:Int)),[]):=(ajU hv).symm;rw[hy] at e;have:c'=c:=by simp only[amf,amz,ane] at e;omega
   subst this;refine hMore x c' w' cnt' hs hc' hl'.1 (.inr ⟨b,D,_,rfl,hrg,h2,λkl z=>h4 kl (Bool.and_eq_true_iff.1 z).1,λi hi=>?_⟩) hlt ((aA.bC hgr).mono (λk _ z=>(ajU z).symm)) hen;show(lf (kS i)&&!(kS i).sameKey (kS x))=_;rw[h3 i hi];have hk:(kS i).sameKey (kS x)=decide (i=x):=by
    by_cases e:i=x
    ·subst e;simp[Lit.sameKey,kS]
    ·have:kS i≠kS x:=Fh e;unfold kS at this ⊢;simp only[Lit.sameKey,e,decide_false];simpa using this
   rw[hk];by_cases e:i=x
   ·simp[e]
   ·simp[e]
end
end
abbrev poL (x:Po):List Value:=[.string x.s,.string x.i,.string x.h,.string x.d,aa x.x,aa x.ro]
theorem abp {w:I}{b:Nat}{x:Po}(r:CB w b (poL x)):(loadVar 31 ⟨b,0,none⟩).run prog w=.ok (BU x) w:=by
 have hl:(loadCells ⟨b,0,none⟩ 6).run prog w=.ok #[.string x.s,.string x.i,.string x.h,.string x.d,aa x.x,aa x.ro] w :=
  aly (P:=prog) w ⟨b,0,none⟩ (poL x) (λj v hv=>by rw[NM];exact r.cell j v hv)
 have hz:Tryz.t31.size=6:=by kernel_rfl
 simp[loadVar,isAgg,sizeOf];rw[hz,hl];rfl
theorem O5 {fn:Func}{a:Tmp}{tmps:Array Value}{w:I}{b:Nat}{x:Po}(hf:fn.results=#[.cell a 31])(ha:tmps.getD a undef=ae b)(r:CB w b (poL x)) :
 (results fn tmps).run prog w=.ok (BU x) w:=by
 have ha':tmps[a]?.getD undef=ae b:=by simpa using ha
 simp[results,hf,ha',asAddr,abp r]
def ai2 (f:ad)(l:List Rc):List Rc:=if aC true f=0 then TI f l else []
def noE (f:ad):Int:=if aC true f=0 then 4 else aC true f
def ajg (r:Rc):Value:=.agg #[aa r.k,aa r.q,aa r.t,.string r.s,.string r.h,.string r.d]
def ai3 (T:List Rc):Nat->Rc
 | 0=>eU
 | k+1=>rc T k
def ajh (l:List Rc):List Int:=l.map (·.q)
end Go.Proofs.YtebofkkfbkodiaaGreatDoor.Dk
