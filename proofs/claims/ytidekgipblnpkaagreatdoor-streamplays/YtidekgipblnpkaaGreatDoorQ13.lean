/- A part. -/
import Derived.Test.YtidekgipblnpkaaGreatDoorQ10
namespace Go.Proofs.YtidekgipblnpkaaGreatDoor.Pn
open Go Go.Proofs.Tryz
def BU:List (List UInt8):=[[109,115,103,115],[98,121,116,101,115],[97,103,101],[112,101,114],[115,105,122,101],[100,105,115,99,97,114,100],[107,101,101,112],[119,105,110,100,111,119]]
def dN:List Int:=[200,65536,100000,200,256,1,2,100000]
structure cu where
 n:ByteArray
 f:List ByteArray
 v:List Int
def Ae (c:UInt8):Bool:=(decide (97<=c.toNat)&&decide (c.toNat<=122))||((decide (48<=c.toNat)&&decide (c.toNat<=57))||decide (c.toNat=45))
def eP (s:ByteArray):Bool:=s.data.toList.all Ae&&(decide (1<=s.size)&&decide (s.size<=16))
def gJ:List ByteArray->Int
 | []=>0
 | f::r=>if aG true f=0 then gJ r else aG true f
def oG:List ByteArray->Bool
 | []=>false
 | f::r=>r.any (λg=>bD (Pl.aI f) (Pl.aI g))||oG r
def gK:List Int->List Int->Bool
 | [],[]=>true
 | x::v,m::ms=>(decide (0<=x)&&decide (x<=m))&&gK v ms
 | _,_=>false
def dG (p:cu):Int:=if eP p.n=false then 3 else if 4<p.f.length then 2 else if p.f.length=0 then 1 else if gJ p.f≠0 then gJ p.f else if oG p.f=true then 10 else if gK p.v dN=true then 0 else 1
theorem tV {p:cu}(h:dG p=0):eP p.n=true/\p.f.length<=4/\p.f.length≠0/\gJ p.f=0/\oG p.f=false/\gK p.v dN=true:=by
 unfold dG at h;by_cases h1:eP p.n=false
 ·rw[if_pos h1] at h;cases h
 ·rw[if_neg h1] at h;by_cases h2:4<p.f.length
  ·rw[if_pos h2] at h;cases h
  ·rw[if_neg h2] at h;by_cases h3:p.f.length=0
   ·rw[if_pos h3] at h;cases h
   ·rw[if_neg h3] at h;by_cases h4:gJ p.f≠0
    ·rw[if_pos h4] at h;exact absurd h h4
    ·rw[if_neg h4] at h;by_cases h5:oG p.f=true
     ·rw[if_pos h5] at h;cases h
     ·rw[if_neg h5] at h;by_cases h6:gK p.v dN=true
      ·exact⟨by simpa using h1,by omega,h3,Classical.not_not.1 h4,by simpa using h5,h6⟩
      ·rw[if_neg h6] at h;cases h
theorem LY:∀{l:List ByteArray},gJ l=0->∀f∈l,aG true f=0
 | [],_,f,hf=>by cases hf
 | g::r,h,f,hf=>by
  unfold gJ at h;by_cases e:aG true g=0
  ·rw[if_pos e] at h;rcases ajT.1 hf with y|y
   ·rw[y];exact e
   ·exact LY h f y
  ·rw[if_neg e] at h;exact absurd h e
def VB:List (List UInt8)->List Int->List (List UInt8)
 | w::ws,x::v=>if x=0 then VB ws v else (w++61::Lib.itoa x)::VB ws v
 | _,_=>[]
def ahL (p:cu):List (List UInt8):=p.n.data.toList::glue 44 (p.f.map (·.data.toList))::VB BU p.v
def aiY (p:cu):ByteArray:=⟨(glue 32 (ahL p)).toArray⟩
def aiB (p:cu):Bool:=p.f.any (λf=>f.data.toList.contains 44)
def rdN:List (List UInt8)->List (List UInt8)->Option (List Int)
 | [],[]=>some []
 | [],_::_=>none
 | _::ws,[]=>(rdN ws []).map (λv=>0::v)
 | w::ws,t::ts=>if (w++[61]).isPrefixOf t=true then (if ahz (t.drop (w.length+1))<1 then none else (rdN ws ts).map (λv=>ahz (t.drop (w.length+1))::v)) else (rdN ws (t::ts)).map (λv=>0::v)
def IC:cu:=⟨⟨#[]⟩,[],[0,0,0,0,0,0,0,0]⟩
def bs (l:List UInt8):ByteArray:=⟨l.toArray⟩
def aiZ (s:ByteArray):cu×Int:=if 1024<s.size then (IC,2) else match cut 32 s.data.toList with
 | n::f::ts=>match rdN BU ts with
  | some v=>if dG ⟨bs n,(cut 44 f).map bs,v⟩=0 then (⟨bs n,(cut 44 f).map bs,v⟩,0) else (IC,dG ⟨bs n,(cut 44 f).map bs,v⟩)
  | none=>(IC,3)
 | _=>(IC,3)
end Go.Proofs.YtidekgipblnpkaaGreatDoor.Pn
namespace Go.Proofs.YtidekgipblnpkaaGreatDoor
open Go.RowKit Go.Proofs.Tryz
theorem ZF (s:ByteArray)(k:Nat)(h:k<s.size):s.data.toList.take (k+1)=s.data.toList.take k++[s[k]]:=by
 rw[ajo (by simpa using h)];rfl
def lQ (s:ByteArray)(k:Nat):Bool:=(s.data.toList.take k).all Pn.Ae
theorem Af {s:ByteArray}{k:Nat}(h:k<s.size):lQ s (k+1)=(lQ s k&&Pn.Ae s[k]):=by
 unfold lQ;rw[ZF s k h,List.all_append];simp
theorem LZ {s:ByteArray}{k:Nat}(h:k<s.size)(hb:Pn.Ae s[k]=false):Pn.eP s=false:=by
 unfold Pn.eP;have:s.data.toList.all Pn.Ae=false:=by
  rw[List.all_eq_false];exact⟨s[k],by
   have:s.data.toList[k]'(by simpa using h)∈s.data.toList:=akk _;exact this,by simp[hb]⟩
 rw[this];rfl
theorem aco {s:ByteArray}(h:lQ s s.size=true):Pn.eP s=(decide (1<=s.size)&&decide (s.size<=16)):=by
 unfold lQ at h;rw[ajs (by simp)] at h;unfold Pn.eP;rw[h,akn]
abbrev rU (n:ByteArray)(a:Option Addr)(l c:Nat)(x0 x1 x2 x3 x4 x5 x6 x7:Int):Value:=.agg #[.string n,.slice a l c,.int .i64 x0,.int .i64 x1,.int .i64 x2,.int .i64 x3,.int .i64 x4,.int .i64 x5,.int .i64 x6,.int .i64 x7]
structure PB (w:World)(b:Nat)(n:ByteArray)(a:Option Addr)(l c:Nat)(x0 x1 x2 x3 x4 x5 x6 x7:Int):Prop where
 lt:b<w.heap.size
 c0:w.cell? ⟨b,0,none⟩=some (.string n)
 c1:w.cell? ⟨b,1,none⟩=some (.slice a l c)
 c2:w.cell? ⟨b,2,none⟩=some (.int .i64 x0)
 c3:w.cell? ⟨b,3,none⟩=some (.int .i64 x1)
 c4:w.cell? ⟨b,4,none⟩=some (.int .i64 x2)
 c5:w.cell? ⟨b,5,none⟩=some (.int .i64 x3)
 c6:w.cell? ⟨b,6,none⟩=some (.int .i64 x4)
 c7:w.cell? ⟨b,7,none⟩=some (.int .i64 x5)
 c8:w.cell? ⟨b,8,none⟩=some (.int .i64 x6)
 c9:w.cell? ⟨b,9,none⟩=some (.int .i64 x7)
section
variable {w w':World}{b:Nat}{n:ByteArray}{a:Option Addr}{l c:Nat}{x0 x1 x2 x3 x4 x5 x6 x7:Int}
theorem PB.next (h:PB w b n a l c x0 x1 x2 x3 x4 x5 x6 x7)(hb:Below w.heap.size w w'):PB w' b n a l c x0 x1 x2 x3 x4 x5 x6 x7 :=
 ⟨ajc h.lt hb.size,by rw[hb.cell (p:=⟨b,0,none⟩) h.lt];exact h.c0,by rw[hb.cell (p:=⟨b,1,none⟩) h.lt];exact h.c1,by rw[hb.cell (p:=⟨b,2,none⟩) h.lt];exact h.c2,by rw[hb.cell (p:=⟨b,3,none⟩) h.lt];exact h.c3,by rw[hb.cell (p:=⟨b,4,none⟩) h.lt];exact h.c4,by rw[hb.cell (p:=⟨b,5,none⟩) h.lt];exact h.c5,by rw[hb.cell (p:=⟨b,6,none⟩) h.lt];exact h.c6,by rw[hb.cell (p:=⟨b,7,none⟩) h.lt];exact h.c7,by rw[hb.cell (p:=⟨b,8,none⟩) h.lt];exact h.c8,by rw[hb.cell (p:=⟨b,9,none⟩) h.lt];exact h.c9⟩
theorem PB.new (w:World)(n:ByteArray)(a:Option Addr)(l c:Nat)(x0 x1 x2 x3 x4 x5 x6 x7:Int)(T:TypeId):PB (w.alloc (.cells #[.string n,.slice a l c,.int .i64 x0,.int .i64 x1,.int .i64 x2,.int .i64 x3,.int .i64 x4,.int .i64 x5,.int .i64 x6,.int .i64 x7] T)) w.heap.size n a l c x0 x1 x2 x3 x4 x5 x6 x7 :=
 ⟨by simp,by simp,by simp,by simp,by simp,by simp,by simp,by simp,by simp,by simp,by simp⟩
end
theorem L6 (w:World)(x0 x1 x2 x3 x4 x5 x6 x7:Int)(T:TypeId):Dk.pY (w.alloc (.cells #[.int .i64 x0,.int .i64 x1,.int .i64 x2,.int .i64 x3,.int .i64 x4,.int .i64 x5,.int .i64 x6,.int .i64 x7] T)) (some ⟨w.heap.size,0,none⟩) [x0,x1,x2,x3,x4,x5,x6,x7]:=λk hk=>by
 refine⟨w.heap.size,0,rfl,by simp,?_⟩;rw[ajY _ w.heap.size (0+k) _ _ _ (ajF w _),ajv];have:k<8:=by simpa using hk
 rcases k with _|_|_|_|_|_|_|_|k;all_goals first
  | rfl
  | omega
theorem kT {w w':World}{a:Option Addr}{l:List Int}(h:Dk.pY w a l)(hb:Below w.heap.size w w'):Dk.pY w' a l:=λk hk=>by
 obtain⟨b,o,h1,h2,h3⟩:=h k hk;exact⟨b,o,h1,ajc h2 hb.size,by rw[hb.cell (p:=⟨b,o+k,none⟩) h2];exact h3⟩
def nZ (w:World)(a:Option Addr)(l:List ByteArray):Prop:=∀k,k<l.length->∃b o,a=some ⟨b,o,none⟩/\b<w.heap.size/\w.cell? ⟨b,o+k,none⟩=some (.string (tk l k))
theorem nZ.next {w w':World}{a:Option Addr}{l:List ByteArray}(h:nZ w a l)(hb:Below w.heap.size w w'):nZ w' a l:=λk hk=>by
 obtain⟨b,o,h1,h2,h3⟩:=h k hk;exact⟨b,o,h1,ajc h2 hb.size,by rw[hb.cell (p:=⟨b,o+k,none⟩) h2];exact h3⟩
theorem nZ.from {B:Nat}{w w':World}{a:Option Addr}{l:List ByteArray}(h:nZ w a l)(hb:Below B w w')(hB:w.heap.size<=B):nZ w' a l:=λk hk=>by
 obtain⟨b,o,h1,h2,h3⟩:=h k hk;exact⟨b,o,h1,ajc h2 hb.size,by rw[hb.cell (p:=⟨b,o+k,none⟩) (ajc h2 hB)];exact h3⟩
namespace Pn
open Go.Proofs.Tryz
theorem tX {l:List ByteArray}{i:Nat}(h:i<l.length):gJ (l.drop i)=if aG true (tk l i)=0 then gJ (l.drop (i+1)) else aG true (tk l i):=by rw[iw h];rfl
theorem L9 {l:List ByteArray}{i:Nat}(h:i<l.length):oG (l.drop i)=((l.drop (i+1)).any (λg=>bD (Pl.aI (tk l i)) (Pl.aI g))||oG (l.drop (i+1))):=by rw[iw h];rfl
theorem Ja {l:List ByteArray}{i:Nat}(h:i<l.length)(f:ByteArray->Bool):(l.drop i).any f=(f (tk l i)||(l.drop (i+1)).any f):=by rw[iw h];rfl
theorem Jb {v:List Int}{i:Nat}(h:i<v.length)(h8:v.length=8):gK (v.drop i) (dN.drop i)=((decide (0<=Dk.nth v i)&&decide (Dk.nth v i<=Dk.nth dN i))&&gK (v.drop (i+1)) (dN.drop (i+1))):=by
 have h2:i<dN.length:=by rw[h8] at h;exact h
 rw[ajD h,ajD h2,gK,Dk.nth,Dk.nth,ajl h,ajl h2];rfl
section
variable {p:cu}
theorem Jc (h:eP p.n=false):dG p=3:=by unfold dG;rw[if_pos h]
theorem VD (h:eP p.n=true)(h2:4<p.f.length):dG p=2:=by unfold dG;rw[if_neg (by rw[h];simp),if_pos h2]
theorem VE (h:eP p.n=true)(h2:p.f.length=0):dG p=1:=by unfold dG;rw[if_neg (by rw[h];simp),if_neg (by omega),if_pos h2]
theorem VF (h:eP p.n=true)(h2:¬4<p.f.length)(h3:p.f.length≠0)(h4:gJ p.f≠0):dG p=gJ p.f:=by unfold dG;rw[if_neg (by rw[h];simp),if_neg h2,if_neg h3,if_pos h4]
theorem VG (h:eP p.n=true)(h2:¬4<p.f.length)(h3:p.f.length≠0)(h4:gJ p.f=0)(h5:oG p.f=true):dG p=10:=by unfold dG;rw[if_neg (by rw[h];simp),if_neg h2,if_neg h3,if_neg (by rw[h4];simp),if_pos h5]
theorem VI (h:eP p.n=true)(h2:¬4<p.f.length)(h3:p.f.length≠0)(h4:gJ p.f=0)(h5:oG p.f=false):dG p=if gK p.v dN=true then 0 else 1:=by unfold dG;rw[if_neg (by rw[h];simp),if_neg h2,if_neg h3,if_neg (by rw[h4];simp),if_neg (by rw[h5];simp)]
end
end Pn
def Pst (w wr:World)(b:Nat)(n:ByteArray)(a:Option Addr)(l:List ByteArray)(c:Nat)(x0 x1 x2 x3 x4 x5 x6 x7:Int):Prop:=PB wr b n a l.length c x0 x1 x2 x3 x4 x5 x6 x7/\nZ wr a l/\Below w.heap.size w wr
theorem Pst.next {w wr w':World}{b:Nat}{n:ByteArray}{a:Option Addr}{l:List ByteArray}{c:Nat}{x0 x1 x2 x3 x4 x5 x6 x7:Int}(h:Pst w wr b n a l c x0 x1 x2 x3 x4 x5 x6 x7)(hb:Below wr.heap.size wr w'):Pst w w' b n a l c x0 x1 x2 x3 x4 x5 x6 x7:=⟨h.1.next hb,h.2.1.next hb,ak h.2.2 hb⟩
def Vst (w wr:World)(g1 g2:Nat)(v:List Int):Prop:=Dk.pY wr (some ⟨g1,0,none⟩) v/\Dk.pY wr (some ⟨g2,0,none⟩) Pn.dN/\Below w.heap.size w wr
theorem Vst.next {w wr w':World}{g1 g2:Nat}{v:List Int}(h:Vst w wr g1 g2 v)(hb:Below wr.heap.size wr w'):Vst w w' g1 g2 v:=⟨kT h.1 hb,kT h.2.1 hb,ak h.2.2 hb⟩
abbrev ahM (g1 g2 i:Nat)(x y:Int)(w:World):Prop:=w.cell? ⟨g1,i,none⟩=some (.int .i64 x)/\w.cell? ⟨g2,i,none⟩=some (.int .i64 y)
theorem Vst.two {w wr:World}{g1 g2:Nat}{v:List Int}(h:Vst w wr g1 g2 v)(h8:v.length=8){i:Nat}(hi:i<8):ahM g1 g2 i (Dk.nth v i) (Dk.nth Pn.dN i) wr:=by
 obtain⟨b1,o1,e1,_,h1⟩:=h.1 i (by omega);obtain⟨b2,o2,e2,_,h2⟩:=h.2.1 i hi
 cases e1
 cases e2
 rw[ajv] at h1 h2;exact⟨h1,h2⟩
abbrev ahN (b:Nat)(a:Option Addr)(l c ba o i k:Nat)(f g:ByteArray)(w:World):Prop:=w.cell? ⟨b,1,none⟩=some (.slice a l c)/\w.cell? ⟨ba,o+i,none⟩=some (.string f)/\w.cell? ⟨ba,o+k,none⟩=some (.string g)
theorem Pst.two {w wr:World}{b ba o:Nat}{n:ByteArray}{l:List ByteArray}{c:Nat}{x0 x1 x2 x3 x4 x5 x6 x7:Int}(h:Pst w wr b n (some ⟨ba,o,none⟩) l c x0 x1 x2 x3 x4 x5 x6 x7){i k:Nat}(hi:i<l.length)(hk:k<l.length):ahN b (some ⟨ba,o,none⟩) l.length c ba o i k (tk l i) (tk l k) wr:=by
 obtain⟨b1,o1,e1,_,h1⟩:=h.2.1 i hi;obtain⟨b2,o2,e2,_,h2⟩:=h.2.1 k hk
 cases e1
 cases e2
 exact⟨h.1.c1,h1,h2⟩
end Go.Proofs.YtidekgipblnpkaaGreatDoor
namespace Go.Proofs.YtidekgipblnpkaaGreatDoor.Pn
open Go Go.Proofs.Tryz
theorem afk (s:ByteArray):bs s.data.toList=s:=by unfold bs;apply akQ;simp
theorem acp {t:List UInt8}{last:Bool}(h:Pl.mF true last t=true):t.length<=16/\∀c∈t,33<=c.toNat:=by
 unfold Pl.mF at h;rcases Bool.or_eq_true_iff.1 h with y|y
 ·unfold Pl.vF at y;simp only[ajU,ajw,akv] at y;refine⟨y.2.1,λc hc=>?_⟩;have:=y.2.2 c hc;unfold Pl.UD at this;simp only[ajU,ajw] at this;exact this.1
 ·simp only[akn,akP,akT,ajU] at y;rcases y with y|y
  ·rw[y];exact⟨by decide,by decide⟩
  ·rw[y.1];exact⟨by decide,by decide⟩
theorem VJ {f:ByteArray}(h:aG true f=0):f.size<=136/\∀c∈f.data.toList,33<=c.toNat:=by
 obtain⟨h1,h2⟩:=Oo h;have hp:∀t∈Pl.ig f.data.toList,t.length<=16/\∀c∈t,33<=c.toNat:=λt ht=>by
  obtain⟨k,hk,rfl⟩:=aks.1 ht;unfold Pl.jk at h2;rw[akv] at h2;have:=h2 k (alc.2 hk);rw[ajl hk] at this;exact acp this
 have hg:=Qi 46 f.data.toList;rw[Xv] at hg;constructor
 ·have:=Qj 46 16 _ (λt ht=>(hp t ht).1);rw[hg] at this;have e:f.data.toList.length=f.size:=by simp
  omega
 ·intro c hc;rw[<-hg] at hc;rcases Qk 46 _ c hc with y|⟨t,ht,hct⟩
  ·rw[y];decide
  ·exact(hp t ht).2 c hct
def aiw:cu:=⟨⟨#[115]⟩,[⟨#[97,46,62]⟩,⟨#[98]⟩],[0,0,0,3,0,0,0,0]⟩
end Go.Proofs.YtidekgipblnpkaaGreatDoor.Pn
namespace Go.Proofs.YtidekgipblnpkaaGreatDoor
open Go.RowKit Go.Proofs.Tryz
theorem ZG {w:World}{b:Nat}{n:ByteArray}{a:Option Addr}{l c:Nat}{x0 x1 x2 x3 x4 x5 x6 x7:Int}(r:PB w b n a l c x0 x1 x2 x3 x4 x5 x6 x7) :
 (loadVar 24 ⟨b,0,none⟩).run prog w=.ok (.agg #[.string n,.slice a l c,.int .i64 x0,.int .i64 x1,.int .i64 x2,.int .i64 x3,.int .i64 x4,.int .i64 x5,.int .i64 x6,.int .i64 x7]) w:=by
 have hl:(loadCells ⟨b,0,none⟩ 10).run prog w=.ok #[.string n,.slice a l c,.int .i64 x0,.int .i64 x1,.int .i64 x2,.int .i64 x3,.int .i64 x4,.int .i64 x5,.int .i64 x6,.int .i64 x7] w :=
  alr (P:=prog) w ⟨b,0,none⟩ [.string n,.slice a l c,.int .i64 x0,.int .i64 x1,.int .i64 x2,.int .i64 x3,.int .i64 x4,.int .i64 x5,.int .i64 x6,.int .i64 x7] (λj v hv=>by
   rw[UH,ajv];match j,hv with
   | 0,hv=>rw[r.c0];simpa using hv
   | 1,hv=>rw[r.c1];simpa using hv
   | 2,hv=>rw[r.c2];simpa using hv
   | 3,hv=>rw[r.c3];simpa using hv
   | 4,hv=>rw[r.c4];simpa using hv
   | 5,hv=>rw[r.c5];simpa using hv
   | 6,hv=>rw[r.c6];simpa using hv
   | 7,hv=>rw[r.c7];simpa using hv
   | 8,hv=>rw[r.c8];simpa using hv
   | 9,hv=>rw[r.c9];simpa using hv)
 have hz:Tryz.t24.size=10:=by kernel_rfl
 simp[loadVar,isAgg,sizeOf];rw[hz,hl];rfl
theorem PB.Gy {W:World}{b:Nat}{n':ByteArray}{a':Option Addr}{l' c':Nat}{z0 z1 z2 z3 z4 z5 z6 z7:Int}(h:PB W b n' a' l' c' z0 z1 z2 z3 z4 z5 z6 z7)(n:ByteArray)(a:Option Addr)(l c:Nat)(x0 x1 x2 x3 x4 x5 x6 x7:Int):PB ((((((((((W.setCell ⟨b,0,none⟩ (.string n)).setCell ⟨b,1,none⟩ (.slice a l c)).setCell ⟨b,2,none⟩ (.int .i64 x0)).setCell ⟨b,3,none⟩ (.int .i64 x1)).setCell ⟨b,4,none⟩ (.int .i64 x2)).setCell ⟨b,5,none⟩ (.int .i64 x3)).setCell ⟨b,6,none⟩ (.int .i64 x4)).setCell ⟨b,7,none⟩ (.int .i64 x5)).setCell ⟨b,8,none⟩ (.int .i64 x6)).setCell ⟨b,9,none⟩ (.int .i64 x7)) b n a l c x0 x1 x2 x3 x4 x5 x6 x7:=by
 have key:=(KW b [.string n,.slice a l c,.int .i64 x0,.int .i64 x1,.int .i64 x2,.int .i64 x3,.int .i64 x4,.int .i64 x5,.int .i64 x6,.int .i64 x7] W 0 (λj hj=>by
  have:j<10:=hj;rw[ajv];rcases j with _|_|_|_|_|_|_|_|_|_|j
  ·rw[h.c0];rfl
  ·rw[h.c1];rfl
  ·rw[h.c2];rfl
  ·rw[h.c3];rfl
  ·rw[h.c4];rfl
  ·rw[h.c5];rfl
  ·rw[h.c6];rfl
  ·rw[h.c7];rfl
  ·rw[h.c8];rfl
  ·rw[h.c9];rfl
  ·omega)).1
 have hsz:=KX b [.string n,.slice a l c,.int .i64 x0,.int .i64 x1,.int .i64 x2,.int .i64 x3,.int .i64 x4,.int .i64 x5,.int .i64 x6,.int .i64 x7] W 0;refine⟨Nat.lt_of_lt_of_eq h.lt hsz.symm,key 0 (by simp),key 1 (by simp),key 2 (by simp),key 3 (by simp),key 4 (by simp),key 5 (by simp),key 6 (by simp),key 7 (by simp),key 8 (by simp),key 9 (by simp)⟩
end Go.Proofs.YtidekgipblnpkaaGreatDoor
namespace Go.Proofs.YtidekgipblnpkaaGreatDoor
open Go Go.Proofs.Tryz
def wd (i:Nat):ByteArray:=Pn.bs ((Pn.BU[i]?).getD [])
namespace Pn
open Go.Proofs.Tryz
end Pn
end Go.Proofs.YtidekgipblnpkaaGreatDoor
namespace Go.Proofs.YtidekgipblnpkaaGreatDoor.Dk
open Go.RowKit Go.Proofs.Tryz
structure aJ where
 l:List Rc
 last:Int
def mX (f s:ByteArray):Bool:=dI (Pl.aI f) (Pl.aI s)
def fJ (l:List Rc)(s:ByteArray):Bool:=l.any λr=>decide (r.s=s)
def dP:List Rc->Nat
 | []=>0
 | r::l=>dP l+(if fJ l r.s then 0 else 1)
def seqB (l:List Rc)(n:Int):Bool:=l.any λr=>decide (r.q=n)
def bY (s:aJ)(r:Rc):Int :=
 if dL r≠0 then dL r
 else if r.k=2/\seqB s.l r.q=false then 4
 else if r.k≠1 then 0
 else if r.q<=s.last then 9
 else if 200<=s.l.length\/(fJ s.l r.s=false/\100<=dP s.l) then 8
 else 0
def pF (r x:Rc):Bool:=(decide (r.k=2)&&decide (x.q=r.q))||(decide (r.k=3)&&(decide (x.q<r.q)&&mX r.s x.s))
def jW (s:aJ)(r:Rc):aJ :=
 if bY s r≠0 then s
 else if r.k=1 then ⟨s.l++[r],r.q⟩
 else if r.k=4 then ⟨s.l,max s.last r.q⟩
 else ⟨s.l.filter (λx=>!pF r x),s.last⟩
structure aJ.Ok (s:aJ):Prop where
 jT:s.l.Pairwise λa b=>a.q<b.q
 msg:∀x∈s.l,x.k=1/\dL x=0
 low:∀x∈s.l,x.q<=s.last
 last:0<=s.last/\s.last<=1099511627776
 iW:s.l.length<=200
 names:dP s.l<=100
theorem F9 (a b:List Rc)(s:ByteArray):fJ (a++b) s=(fJ a s||fJ b s):=by unfold fJ;rw[List.any_append]
theorem mY:∀(l:List Rc) (r:Rc),dP (l++[r])=dP l+(if fJ l r.s then 0 else 1)
 | [],r=>by simp[dP,fJ]
 | x::l,r=>by
  rw[ajM,dP,dP,mY l r,F9];have e:fJ [r] x.s=decide (r.s=x.s):=by simp[fJ]
  have e2:fJ (x::l) r.s=(decide (x.s=r.s)||fJ l r.s):=by simp[fJ]
  rw[e,e2];by_cases h:x.s=r.s
  ·have h':r.s=x.s:=h.symm;rw[h]
   cases fJ l r.s<;>simp
  ·have h':¬r.s=x.s:=λz=>h z.symm
   rw[ajd h,ajd h']
   cases fJ l x.s<;>cases fJ l r.s<;>simp
theorem Rz {p:Rc->Bool}{l:List Rc}{s:ByteArray}(h:fJ (l.filter p) s=true):fJ l s=true:=by
 unfold fJ at h ⊢;rw[amb] at h ⊢;obtain⟨x,hx,hs⟩:=h;exact⟨x,(alN.1 hx).1,hs⟩
def yu:List Rc->List ByteArray
 | []=>[]
 | r::l=>if fJ l r.s then yu l else r.s::yu l
theorem kU:∀l:List Rc,dP l=(yu l).length
 | []=>rfl
 | r::l=>by
  rw[dP,yu,kU l];by_cases h:fJ l r.s=true
  ·rw[if_pos h,if_pos h];omega
  ·rw[if_neg h,if_neg h];rfl
theorem jh:∀(l:List Rc) (s:ByteArray),s∈yu l↔fJ l s=true
 | [],s=>by simp[yu,fJ]
 | r::l,s=>by
  have e:fJ (r::l) s=(decide (r.s=s)||fJ l s):=by simp[fJ]
  rw[yu,e];by_cases h:fJ l r.s=true
  ·rw[if_pos h,jh l s];constructor
   ·intro z;rw[z];simp
   ·intro z;rcases akP _ _▸z with y|y
    ·rw[<-alF y];exact h
    ·exact y
  ·rw[if_neg h,ajT,jh l s,akP,ajw];constructor
   ·rintro (y|y)
    ·exact .inl y.symm
    ·exact .inr y
   ·rintro (y|y)
    ·exact .inl y.symm
    ·exact .inr y
theorem kV:∀l:List Rc,(yu l).Nodup
 | []=>List.nodup_nil
 | r::l=>by
  rw[yu];by_cases h:fJ l r.s=true
  ·rw[if_pos h];exact kV l
  ·rw[if_neg h,anb];exact⟨λz=>h ((jh l r.s).1 z),kV l⟩
theorem rV {α:Type}[DecidableEq α]:∀(a b:List α),a.Nodup->(∀x∈a,x∈b)->a.length<=b.length
 | [],b,_,_=>ajm _
 | x::a,b,hn,hs=>by
  rw[anb] at hn;have hx:x∈b:=hs x (ajQ ..);have:=rV a (b.erase x) hn.2 (λy hy=>(List.mem_erase_of_ne (λe=>hn.1 (by rw[<-e];exact hy))).2 (hs y (akg _ hy)));rw[List.length_erase_of_mem hx] at this;have:0<b.length:=List.length_pos_of_mem hx;simp only[ajB];omega
theorem Oz (p:Rc->Bool)(l:List Rc):dP (l.filter p)<=dP l:=by
 rw[kU,kU];exact rV _ _ (kV _) (λs hs=>(jh l s).2 (Rz ((jh _ s).1 hs)))
theorem aJ.Ok.nil:aJ.Ok ⟨[],0⟩:=⟨List.Pairwise.nil,λ_ h=>(by cases h),λ_ h=>(by cases h),⟨amK _,by decide⟩,ajm _,ajm _⟩
theorem OA {r:Rc}(h:dL r=0):1<=r.q/\r.q<=1099511627776:=by
 obtain⟨_,_,h1,h2,_⟩:=Pk.oC (r:=r.pk) h;exact⟨h1,h2⟩
theorem aJ.Ok.apply {s:aJ}(h:s.Ok)(r:Rc):(jW s r).Ok:=by
 unfold jW;by_cases h0:bY s r≠0
 ·rw[if_pos h0];exact h
 ·rw[if_neg h0];have h0:bY s r=0:=aju h0;have hc:dL r=0:=by
   apply aju;intro z;unfold bY at h0;rw[if_pos z] at h0;exact z h0
  have hq:=OA hc;by_cases h1:r.k=1
  ·rw[if_pos h1];have h2:¬r.q<=s.last/\¬(200<=s.l.length\/(fJ s.l r.s=false/\100<=dP s.l)):=by
    unfold bY at h0;rw[if_neg (by rw[hc];simp),if_neg (by omega),if_neg (by omega)] at h0;by_cases z:r.q<=s.last
    ·rw[if_pos z] at h0;omega
    ·rw[if_neg z] at h0;by_cases y:200<=s.l.length\/(fJ s.l r.s=false/\100<=dP s.l)
     ·rw[if_pos y] at h0;omega
     ·exact⟨z,y⟩
   obtain⟨h2,h3⟩:=h2;refine⟨?_,?_,?_,⟨by show 0<=r.q;omega,hq.2⟩,?_,?_⟩
   ·rw[ala];refine⟨h.jT,List.pairwise_singleton _ _,λa ha b hb=>?_⟩;rw[akr.1 hb];have:=h.low a ha;omega
   ·intro x hx;rcases ajS.1 hx with y|y
    ·exact h.msg x y
    ·rw[akr.1 y];exact⟨h1,hc⟩
   ·intro x hx;rcases ajS.1 hx with y|y
    ·have:=h.low x y;show x.q<=r.q;omega
    ·rw[akr.1 y];exact amK _
   ·show(s.l++[r]).length<=200;rw[ajh,akX];omega
   ·show dP (s.l++[r])<=100;rw[mY];have:=h.names
    cases hh:fJ s.l r.s
    ·rw[if_neg (by simp)];have:¬100<=dP s.l:=λz=>h3 (.inr ⟨hh,z⟩)
     omega
    ·rw[if_pos rfl];omega
  ·rw[if_neg h1];by_cases h4:r.k=4
   ·rw[if_pos h4];have hl:=h.last;refine⟨h.jT,h.msg,λx hx=>?_,⟨?_,?_⟩,h.iW,h.names⟩
    ·have:=h.low x hx;show x.q<=max s.last r.q;omega
    ·show 0<=max s.last r.q;omega
    ·show max s.last r.q<=1099511627776;omega
   ·rw[if_neg h4];exact⟨h.jT.sublist List.filter_sublist,λx hx=>h.msg x (alN.1 hx).1,λx hx=>h.low x (alN.1 hx).1,h.last,aje (akB _ _) h.iW,aje (Oz _ _) h.names⟩
def Jd (f:ByteArray)(l:List Rc):List Rc:=l.filter λr=>mX f r.s
def Ah (l:List Rc)(n:Int):Option Rc:=l.find? λr=>decide (r.q=n)
def rW (f:ByteArray)(l:List Rc)(from':Int):Option Rc:=l.find? λr=>mX f r.s&&decide (from'<=r.q)
def Ai (f:ByteArray)(l:List Rc):Option Rc:=(Jd f l).getLast?
def bI:List Rc->Nat
 | []=>0
 | r::l=>r.s.size+r.h.size+r.d.size+bI l
def dU (l:List Rc):Int:=match l with
 | []=>0
 | r::_=>r.q
theorem oH:∀a b:List Rc,bI (a++b)=bI a+bI b
 | [],b=>by simp[bI]
 | r::a,b=>by rw[ajM,bI,bI,oH a b];omega
theorem RI {l:List Rc}(h:∀r∈l,r.s.size<=135/\r.h.size+r.d.size<=256):bI l<=391*l.length:=by
 induction l with
 | nil=>simp[bI]
 | cons r l ih =>
  have h1:=h r (ajQ ..);have h2:=ih (λx hx=>h x (akg _ hx));rw[bI,ajB];omega
theorem aJ.Ok.small {s:aJ}(h:s.Ok){x:Rc}(hx:x∈s.l):x.s.size<=135/\x.h.size+x.d.size<=256:=by
 obtain⟨_,_,_,_,_,_,h1,h2⟩:=Pk.oC (r:=x.pk) (h.msg x hx).2;have e:∀x:ByteArray,x.data.toList.length=x.size:=λx=>by simp
 simp only[Rc.pk,e] at h1 h2;exact⟨h1,h2⟩
theorem aJ.Ok.bytes {s:aJ}(h:s.Ok):bI s.l<=78200:=by
 have h1:=RI (λr hr=>h.small hr);have:=h.iW;omega
theorem aJ.Ok.seq {s:aJ}(h:s.Ok){x:Rc}(hx:x∈s.l):1<=x.q/\x.q<=1099511627776:=OA (h.msg x hx).2
def ai4 (T:List Rc)(k:Nat)(n:Int):Prop:=k<=T.length/\((k=0/\n=0)\/∃j,∃hj:j<T.length,k=j+1/\n=T[j].q+1)
theorem VK {s:aJ}{r:Rc}(h0:bY s r=0)(h3:r.k=3):jW s r=⟨s.l.filter (λx=>!(decide (x.q<r.q)&&mX r.s x.s)),s.last⟩:=by
 unfold jW;rw[if_neg (by rw[h0];simp),if_neg (by omega),if_neg (by omega)];unfold pF;rw[h3];simp
def Safe (es:List ay)(lg:List Rc):Prop:=(es=[]/\lg=[])\/zA es lg lg.length
def Gf (es:List ay):Prop:=∀x∈es,x.sure=(x.text.size:Int)
theorem Safe.Yb {es:List ay}{lg:List Rc}(h:Safe es lg):Gf es:=by
 rcases h with ⟨rfl,_⟩|⟨pre,e,A,L,j,rfl,rfl,hw,hs,he,hg,hj,hsu,hn⟩
 ·intro x hx;cases hx
 ·intro x hx;rcases ajS.1 hx with y|y
  ·exact hs x y
  ·rw[akr.1 y,hsu,he];rw[ajh] at hn;rw[ajs (by omega)]
theorem Safe.opens {es:List ay}{lg:List Rc}(h:Safe es lg):bQ es=(lg,es):=by
 rcases h with ⟨rfl,rfl⟩|⟨pre,e,A,L,j,rfl,rfl,hw,hs,he,hg,hj,hsu,hn⟩
 ·rfl
 ·rw[IJ _ hw,nH (by rw[he];exact II hg)];simp[bQ]
theorem ZH {x:ay}(h:x.sure=(x.text.size:Int))(keep:Int):lu keep x=x:=by
 have hat:fA x keep=x.text.size:=by unfold fA;rw[h];omega
 unfold lu;rw[hat];have:x.text.extract 0 x.text.size=x.text:=by
  apply akQ;simp
 rw[this]
 cases x
 simp only at h;rw[h]
theorem Gf.stop {es:List ay}(h:Gf es)(keep:Int):es.map (lu keep)=es:=by
 conv=>rhs;rw[<-List.map_id es]
 exact amy (λx hx=>ZH (h x hx) keep)
theorem Gf.sync {es:List ay}(h:Gf es)(n:Int):dO es n=es:=by
 unfold dO;split
 ·rename_i hi;have hs:=h _ (iD hi);have e:({pa es (ix es n) with sure:=((pa es (ix es n)).text.size:Int)}:ay)=pa es (ix es n):=by
   cases hp:pa es (ix es n)
   rw[hp] at hs;simp only at hs;rw[hs]
  rw[e,fZ hi];exact List.set_getElem_self hi
 ·rfl
theorem Gf.log {es:List ay}(h:Gf es)(m size:Int)(r:Rc):jl es m size r=iq es m size r:=by
 by_cases h0:(iq es m size r).1=0
 ·exact tq h0
 ·rw[nI h0];refine anr rfl ?_;unfold iq at h0 ⊢;split
  ·rfl
  ·rename_i hc;rw[if_neg hc] at h0;split
   ·rename_i hl;rw[if_pos hl] at h0;have h1:bJ es m 0 (bK r)≠0:=h0;exact(jr h1).symm
   ·rename_i hl;rw[if_neg hl] at h0;split
    ·rename_i hf;rw[if_pos hf] at h0;rw[h.sync] at h0 ⊢;have h1:bJ es m ((iY es).n+1) (bK r)≠0:=h0;exact(jr h1).symm
    ·rename_i hf;rw[if_neg hf] at h0;have h1:bJ es m (iY es).n (bK r)≠0:=h0;exact(jr h1).symm
theorem Safe.append {m size:Int}{es:List ay}{lg:List Rc}(h:Safe es lg)(ht:Tidy m es){r:Rc}(h0:(jl es m size r).1=0):Safe (fM (jl es m size r).2) (lg++[r]):=by
 right;rcases h with ⟨rfl,rfl⟩|h
 ·have hR:(iq [] m size r).1=0:=by
   apply aju;intro z;rw[nI z] at h0;exact z h0
  have hl:zA (jl [] m size r).2 ([]++[r]) 0:=by
   rw[tq hR];have hc:dL r=0:=by
    apply aju;intro z;unfold iq at hR;rw[if_pos z] at hR;exact z hR
   have e:iq [] m size r=(bJ [] m 0 (bK r),gU [] m 0 (bK r)):=by
    unfold iq;rw[if_neg (by rw[hc];simp),if_pos (show([]:List ay).length=0 from rfl)]
   rw[e] at hR ⊢;have hR':bJ [] m 0 (bK r)=0:=hR;obtain⟨hI,hf⟩:=lC.1 hR';have ea:gU [] m 0 (bK r)=[⟨0,0,bK r⟩]:=by
    unfold gU;rw[if_neg (by rw[hI];simp),if_neg (by rw[hf];simp),if_neg (by simp[ix])];rfl
   refine⟨[],⟨0,0,bK r⟩,[],[r],0,by simp only;rw[ea];rfl,rfl,rfl,λx hx=>(by cases hx),?_,?_,ajm _,?_,ajm _⟩
   ·show bK r=dM [r];simp[dM]
   ·intro x hx;rw[akr.1 hx];exact hc
   ·simp[dM]
  exact hl.sync (ht.abn size r)
 ·exact((h.aeR ht r).1 h0).sync (ht.abn size r)
theorem Safe.rewrite {m size:Int}{es:List ay}{l:List Rc}(hg:Good l)(h0:(iP es m size l).1=0):Safe (iP es m size l).2 l:=by
 right;unfold iP at h0 ⊢;split
 ·rename_i h;rw[if_pos h] at h0;exact absurd h0 h
 ·rename_i h;rw[if_neg h] at h0;split
  ·rename_i h1;rw[if_pos h1] at h0;cases h0
  ·rename_i h1;rw[if_neg h1] at h0;split
   ·rename_i h2;rw[if_pos h2] at h0;exact absurd h0 h2
   ·exact⟨[],⟨dJ es,((dM l).size:Int),dM l⟩,[],l,l.length,rfl,rfl,rfl,λx hx=>(by cases hx),rfl,hg,Xc _,by rw[ajN],by simp⟩
theorem afl {m size:Int}{es:List ay}{l:List Rc}(h0:(iP es m size l).1≠0):(iP es m size l).2=es:=by
 unfold iP at h0 ⊢;split
 ·rfl
 ·rename_i h;rw[if_neg h] at h0;split
  ·rfl
  ·rename_i h1;rw[if_neg h1] at h0;split
   ·rfl
   ·rename_i h2;rw[if_neg h2] at h0;exact absurd rfl h0
def kW (l:List Rc):aJ:=l.foldl jW ⟨[],0⟩
theorem tY (l:List Rc)(r:Rc):kW (l++[r])=jW (kW l) r:=by unfold kW;rw[amr];rfl
theorem Mc:∀(l:List Rc) {s:aJ},s.Ok->(l.foldl jW s).Ok
 | [],_,h=>h
 | r::l,_,h=>Mc l (h.apply r)
theorem Je (l:List Rc):(kW l).Ok:=Mc l aJ.Ok.nil
def qF (n:Int):Rc:=⟨4,n,0,⟨#[]⟩,⟨#[]⟩,⟨#[]⟩⟩
def kX (s:aJ):List Rc:=s.l++(if 0<s.last then [qF s.last] else [])
theorem acr {n:Int}(h:1<=n/\n<=1099511627776):dL (qF n)=0:=by
 unfold dL qF Rc.pk Pk.Kw;simp[Pk.QB];omega
def KC (l:List Rc):Int:=(l.getLast?.map (·.q)).getD 0
theorem Md (l:List Rc)(r:Rc):KC (l++[r])=r.q:=by unfold KC;simp
theorem RJ (a b:List Rc):dP a<=dP (a++b):=by
 rw[kU,kU];refine rV _ _ (kV _) (λs hs=>(jh _ s).2 ?_);rw[F9,(jh a s).1 hs];rfl
theorem Aj {s:aJ}(h:s.Ok):∀(k:Nat),k<=s.l.length->kW (s.l.take k)=⟨s.l.take k,KC (s.l.take k)⟩
 | 0,_=>rfl
 | k+1,hk=>by
  have hlt:k<s.l.length:=by omega
  have ih:=Aj h k (by omega);have hm:=akk hlt;obtain⟨hk1,hc⟩:=h.msg _ hm;have hq:=h.seq hm;rw[ajo hlt,tY,ih];have hlo:¬(s.l[k]).q<=KC (s.l.take k):=by
   cases k with
   | zero=>simp[KC];omega
   | succ j =>
    rw[ajo (by omega),Md];have:=alo.1 h.jT j (j+1) (by omega) hlt (by omega);omega
  have hnm:¬(fJ (s.l.take k) (s.l[k]).s=false/\100<=dP (s.l.take k)):=λz=>by
   have h1:=RJ (s.l.take (k+1)) (s.l.drop (k+1));rw[ajA,ajo hlt,mY,z.1] at h1;have:=h.names;simp at h1;omega
  have hfw:¬200<=(s.l.take k).length:=by
   have:=h.iW;rw[ajn];omega
  have ht:bY ⟨s.l.take k,KC (s.l.take k)⟩ s.l[k]=0:=by
   unfold bY;rw[if_neg (by rw[hc];simp),if_neg (by omega),if_neg (by omega),if_neg hlo,if_neg (λz=>by rcases z with z|z;exact hfw z;exact hnm z)]
  unfold jW;rw[if_neg (by rw[ht];simp),if_pos hk1,Md]
theorem acs {s:aJ}(h:s.Ok):kW (kX s)=s/\Good (kX s):=by
 have hf:=Aj h s.l.length (Xc _);rw[ajN] at hf;have hl:=h.last;unfold kX;by_cases h0:0<s.last
 ·rw[if_pos h0];have hmk:=acr (n:=s.last) (by omega);constructor
  ·rw[tY,hf];have ht:bY ⟨s.l,KC s.l⟩ (qF s.last)=0:=by
    unfold bY;rw[if_neg (by rw[hmk];simp),if_neg (by simp[qF]),if_pos (by simp[qF])]
   have he:KC s.l<=s.last:=by
    unfold KC
    cases hg:s.l.getLast? with
    | none=>simp;omega
    | some x=>simp;exact h.low x (List.mem_of_getLast? hg)
   unfold jW;rw[if_neg (by rw[ht];simp),if_neg (by simp[qF]),if_pos (by simp[qF])];show aJ.mk s.l (max (KC s.l) s.last)=s;rw[Int.max_eq_right he]
  ·intro x hx;rcases ajS.1 hx with y|y
   ·exact(h.msg x y).2
   ·rw[akr.1 y];exact hmk
 ·rw[if_neg h0,ake];have hn:s.l=[]:=by
   cases hs:s.l with
   | nil=>rfl
   | cons x l =>
    have hx:x∈s.l:=by rw[hs];exact ajQ ..
    have:=h.low x hx;have:=(h.seq hx).1;omega
  constructor
  ·rw[hf,hn];show aJ.mk [] 0=s
   cases s
   simp only at hn hl h0 ⊢;rw[hn];congr
   omega
  ·rw[hn];intro x hx
   cases hx
structure lS (m:Int)(es:List ay)(s:aJ):Prop where
 tidy:Tidy m es
 safe:∃lg,Safe es lg/\kW lg=s
theorem lS.nil {m:Int}(h:0<=m):lS m [] ⟨[],0⟩:=⟨Tidy.nil h,[],.inl ⟨rfl,rfl⟩,rfl⟩
theorem lS.ok {m:Int}{es:List ay}{s:aJ}(h:lS m es s):s.Ok:=by
 obtain⟨lg,_,rfl⟩:=h.safe;exact Je lg
theorem lS.Yb {m:Int}{es:List ay}{s:aJ}(h:lS m es s):Gf es:=by
 obtain⟨lg,h1,_⟩:=h.safe;exact h1.Yb
def iJ (es:List ay)(s:aJ)(m size:Int)(r:Rc):Int:=if bY s r≠0 then bY s r else (jl es m size r).1
def qL (es:List ay)(s:aJ)(m size:Int)(r:Rc):List ay:=if iJ es s m size r=0 then fM (jl es m size r).2 else es
def lq (es:List ay)(s:aJ)(m size:Int)(r:Rc):aJ:=if iJ es s m size r=0 then jW s r else s
theorem acu {es:List ay}{s:aJ}{m size:Int}{r:Rc}(h:iJ es s m size r=0):bY s r=0/\(jl es m size r).1=0:=by
 unfold iJ at h;by_cases z:bY s r=0
 ·rw[if_neg (by rw[z];simp)] at h;exact⟨z,h⟩
 ·rw[if_pos z] at h;exact absurd h z
theorem lS.did {m size:Int}{es:List ay}{s:aJ}(h:lS m es s)(r:Rc):lS m (qL es s m size r) (lq es s m size r):=by
 unfold qL lq;by_cases h0:iJ es s m size r=0
 ·rw[if_pos h0,if_pos h0];obtain⟨lg,h1,h2⟩:=h.safe;refine⟨(h.tidy.abn size r).agn,lg++[r],h1.append h.tidy (acu h0).2,?_⟩;rw[tY,h2]
 ·rw[if_neg h0,if_neg h0];exact h
def rX (es:List ay)(s:aJ)(m size:Int):Int:=(iP es m size (kX s)).1
def lT (es:List ay)(s:aJ)(m size:Int):List ay:=(iP es m size (kX s)).2
theorem lS.comp {m size:Int}{es:List ay}{s:aJ}(h:lS m es s):lS m (lT es s m size) s:=by
 unfold lT;obtain⟨r1,r2⟩:=acs h.ok;by_cases h0:(iP es m size (kX s)).1=0
 ·exact⟨h.tidy.Y1 size _,kX s,Safe.rewrite r2 h0,r1⟩
 ·rw[afl h0];exact h
theorem lS.uQ {m:Int}{es:List ay}{s:aJ}(h:lS m es s)(keep:Int):es.map (lu keep)=es/\(bQ es).2=es/\kW (bQ es).1=s:=by
 obtain⟨lg,h1,h2⟩:=h.safe;rw[h1.opens];exact⟨h1.Yb.stop keep,rfl,h2⟩
def iF:Rc:=⟨0,0,0,⟨#[]⟩,⟨#[]⟩,⟨#[]⟩⟩
def ZI (o:Option Rc):Value:=match o with
 | some r=>.tuple #[rcV r,.int .i64 0]
 | none=>.tuple #[rcV iF,.int .i64 4]
def iG (f:ByteArray)(o:Option Rc):Value:=if aG true f=0 then ZI o else .tuple #[rcV iF,.int .i64 (aG true f)]
def tZ (SH:World->Nat->Nat->(Nat->Prop)->aJ->Prop)(w w':World)(B q:Nat)(F:Nat->Prop)(s:aJ):Prop:=∃F',SH w' B q F' s/\aH F w w'/\∀k,F' k->F k\/w.heap.size<=k
def OB (VH:World->Nat->Nat->(Nat->Prop)->Int->Int->List ay->aJ->Prop)(w w':World)(B p:Nat)(F:Nat->Prop)(m size:Int)(es:List ay)(s:aJ):Prop:=∃F',VH w' B p F' m size es s/\aH F w w'/\∀k,F' k->F k\/w.heap.size<=k
structure aiC (VH:World->Nat->Nat->(Nat->Prop)->Int->Int->List ay->aJ->Prop)(SH:World->Nat->Nat->(Nat->Prop)->aJ->Prop):Prop where
 own:∀{w B p F m size es s},VH w B p F m size es s->∀k,F k->B<=k/\k<w.heap.size
 bZ:∀{w w' B p F m size es s} {A:Nat->Prop},VH w B p F m size es s->aH A w w'->(∀k,F k->¬A k)->VH w' B p F m size es s
 bad:∀(w:World) (m size:Int),(dn m 1 65536&&dn size 1 4096)=false ->
  Calls prog 25 #[.int .i64 m,.int .i64 size] w λe w'=>e=.returned (.tuple #[.pointer none,.int .i64 1])/\Below w.heap.size w w'
 jY:∀(w:World) (m size:Int),dn m 1 65536=true->dn size 1 4096=true ->
  Calls prog 25 #[.int .i64 m,.int .i64 size] w λe w'=>∃p F,e=.returned (.tuple #[.pointer (some ⟨p,0,none⟩),.int .i64 0])/\VH w' w.heap.size p F m size [] ⟨[],0⟩/\Below w.heap.size w w'
 did:∀{w B p F m size es s} (r:Rc),Small r->VH w B p F m size es s->lS m es s->m<=65536->dn size 1 4096=true->B<=w.heap.size ->
  Calls prog 102 #[.pointer (some ⟨p,0,none⟩),.agg #[.int .i64 r.k,.int .i64 r.q,.int .i64 r.t,.string r.s,.string r.h,.string r.d]] w λe w'=>e=.returned (.int .i64 (iJ es s m size r))/\OB VH w w' B p F m size (qL es s m size r) (lq es s m size r)
 Ak:∀{w B p F m size es s},VH w B p F m size es s->lS m es s->m<=65536->dn size 1 4096=true->B<=w.heap.size ->
  Calls prog 83 #[.pointer (some ⟨p,0,none⟩)] w λe w'=>e=.returned (.int .i64 (rX es s m size))/\OB VH w w' B p F m size (lT es s m size) s
 store:∀{w B p F m size es s},VH w B p F m size es s->lS m es s->m<=65536->dn size 1 4096=true->B<=w.heap.size ->
  Calls prog 49 #[.pointer (some ⟨p,0,none⟩)] w λe w'=>∃q F0,e=.returned (.pointer (some ⟨q,0,none⟩))/\SH w' B q F0 s/\(∀k,F0 k->F k)/\Below w.heap.size w w'
def aO (Cs:Nat->Prop)(w w':World):Prop:=w.heap.size<=w'.heap.size/\∀k,Cs k->w'.heap[k]?=w.heap[k]?
theorem aO.cell {Cs:Nat->Prop}{w w':World}(h:aO Cs w w'){C j:Nat}(hC:Cs C):w'.cell? ⟨C,j,none⟩=w.cell? ⟨C,j,none⟩:=akD (w:=w) (h.2 C hC)
theorem aO.trans {Cs:Nat->Prop}{w w1 w2:World}(h:aO Cs w w1)(k:aO Cs w1 w2):aO Cs w w2:=⟨aje h.1 k.1,λi hi=>(k.2 i hi).trans (h.2 i hi)⟩
theorem aO.aZ {Cs jR:Nat->Prop}{w w':World}(h:aO Cs w w')(hC:∀k,jR k->Cs k):aO jR w w':=⟨h.1,λk hk=>h.2 k (hC k hk)⟩
theorem aO.lg {Cs:Nat->Prop}{w w':World}{a:Option Addr}{l:List Rc}(h:aO Cs w w')(s:vk w a l)(hn:∀z,a=some z->Cs z.block):vk w' a l:=λk hk=>by
 obtain⟨b,o,h1,h2⟩:=s k hk;have hb:Cs b:=hn _ h1;exact⟨b,o,h1,⟨ajc h2.lt h.1,by rw[h.cell hb];exact h2.c0,by rw[h.cell hb];exact h2.c1,by rw[h.cell hb];exact h2.c2,by rw[h.cell hb];exact h2.c3,by rw[h.cell hb];exact h2.c4,by rw[h.cell hb];exact h2.c5⟩⟩
def Vay (VH:World->Nat->Nat->(Nat->Prop)->Int->Int->List ay->aJ->Prop)(Cs:Nat->Prop)(w wr:World)(p:Nat)(m size:Int)(es:List ay)(s:aJ):Prop :=
 ∃F,VH wr w.heap.size p F m size es s/\Below w.heap.size w wr/\(∀k,Cs k->k<wr.heap.size/\¬F k)/\lS m es s/\m<=65536/\dn size 1 4096=true
section
variable {VH:World->Nat->Nat->(Nat->Prop)->Int->Int->List ay->aJ->Prop}{SH:World->Nat->Nat->(Nat->Prop)->aJ->Prop}{Cs jR:Nat->Prop}{w wr w':World}{p:Nat}{m size:Int}{es es':List ay}{s s':aJ}
theorem Vay.rY (h:Vay VH Cs w wr p m size es s):lS m es s:=by obtain⟨F,_,_,_,h5,_⟩:=h;exact h5
end
structure ahO (SH:World->Nat->Nat->(Nat->Prop)->aJ->Prop):Prop where
 all:∀{w B q F s},SH w B q F s->s.Ok->B<=w.heap.size ->
  Calls prog 21 #[.pointer (some ⟨q,0,none⟩)] w λe w'=>∃v,e=.returned v/\aT w' w.heap.size v s.l/\Below w.heap.size w w'
 BX:∀{w B q F s},SH w B q F s->s.Ok->B<=w.heap.size ->
  Calls prog 18 #[.pointer (some ⟨q,0,none⟩)] w λe w'=>e=.returned (.agg #[.int .i64 (s.l.length:Int),.int .i64 (bI s.l:Int),.int .i64 (dU s.l),.int .i64 s.last])/\Below w.heap.size w w'
theorem aT.low {w:World}{B B':Nat}{v:Value}{l:List Rc}(h:aT w B v l)(hB:B'<=B):aT w B' v l:=by
 refine⟨h.1,?_⟩;rcases h.2 with q|⟨g,cap,cur,h1,h2,r⟩
 ·exact .inl q
 ·exact .inr ⟨g,cap,cur,h1,aje hB h2,r⟩
structure dY (SH:World->Nat->Nat->(Nat->Prop)->aJ->Prop):Prop where
 own:∀{w B q F s},SH w B q F s->∀k,F k->B<=k/\k<w.heap.size
 bZ:∀{w w' B q F s} {A:Nat->Prop},SH w B q F s->aH A w w'->(∀k,F k->¬A k)->SH w' B q F s
 low:∀{w B B' q F s},SH w B q F s->B'<=B->SH w B' q F s
 new:∀w:World,Calls prog 112 #[] w λe w'=>∃q F,e=.returned (.pointer (some ⟨q,0,none⟩))/\SH w' w.heap.size q F ⟨[],0⟩/\Below w.heap.size w w'
 tries:∀{w B q F s} (r:Rc),Small r->SH w B q F s->s.Ok->B<=w.heap.size ->
  Calls prog 136 #[.pointer (some ⟨q,0,none⟩),.agg #[.int .i64 r.k,.int .i64 r.q,.int .i64 r.t,.string r.s,.string r.h,.string r.d]] w λe w'=>e=.returned (.int .i64 (bY s r))/\Below w.heap.size w w'
 apply:∀{w B q F s} (r:Rc),Small r->SH w B q F s->s.Ok->B<=w.heap.size ->
  Calls prog 113 #[.pointer (some ⟨q,0,none⟩),.agg #[.int .i64 r.k,.int .i64 r.q,.int .i64 r.t,.string r.s,.string r.h,.string r.d]] w λe w'=>e=.returned (.int .i64 (bY s r))/\tZ SH w w' B q F (jW s r)
 lU:ahO SH
structure Va (Has:World->Nat->Nat->(Nat->Prop)->Int->List ay->Prop)(SH:World->Nat->Nat->(Nat->Prop)->aJ->Prop)(w:World)(B x o q g c:Nat)(FL G:Nat->Prop)(m size:Int)(es:List ay)(s:aJ):Prop where
 log:jV Has g size w B q FL m es
 jL:SH w B c G s
 base:B<=x
 lt:x<w.heap.size
 c0:w.cell? ⟨x,o,none⟩=some (.pointer (some ⟨q,0,none⟩))
 c1:w.cell? ⟨x,o+1,none⟩=some (.int .i64 size)
 c2:w.cell? ⟨x,o+2,none⟩=some (.pointer (some ⟨g,0,none⟩))
 c3:w.cell? ⟨x,o+3,none⟩=some (.pointer (some ⟨c,0,none⟩))
 free:∀j,w.frozen? ⟨x,j,none⟩=false
 ap:∀k,FL k->¬G k
 xd:¬FL x
 xg:¬G x
def vaF (x:Nat)(FL G:Nat->Prop)(k:Nat):Prop:=k=x\/FL k\/G k
section
variable {Has:World->Nat->Nat->(Nat->Prop)->Int->List ay->Prop}{SH:World->Nat->Nat->(Nat->Prop)->aJ->Prop}{w w1 w':World}{B x o q g c:Nat}{FL G A:Nat->Prop}{m size:Int}{es es':List ay}{s s':aJ}
theorem Va.own (H:jZ Has)(S:dY SH)(h:Va Has SH w B x o q g c FL G m size es s):∀k,vaF x FL G k->B<=k/\k<w.heap.size:=by
 rintro k (rfl|z|z)
 ·exact⟨h.base,h.lt⟩
 ·exact(jV.looks H g size).own h.log k z
 ·exact S.own h.jL k z
theorem Va.bZ (H:jZ Has)(S:dY SH)(h:Va Has SH w B x o q g c FL G m size es s)(hc:aH A w w')(hn:∀k,vaF x FL G k->¬A k):Va Has SH w' B x o q g c FL G m size es s:=by
 have hx:=hn x (.inl rfl);exact⟨(jV.looks H g size).bZ h.log hc (λk hk=>hn k (.inr (.inl hk))),S.bZ h.jL hc (λk hk=>hn k (.inr (.inr hk))),h.base,ajc h.lt hc.size,by rw[hc.cell (p:=⟨x,o,none⟩) h.lt hx];exact h.c0,by rw[hc.cell (p:=⟨x,o+1,none⟩) h.lt hx];exact h.c1,by rw[hc.cell (p:=⟨x,o+2,none⟩) h.lt hx];exact h.c2,by rw[hc.cell (p:=⟨x,o+3,none⟩) h.lt hx];exact h.c3,λj=>by rw[hc.frozen (p:=⟨x,j,none⟩) h.lt hx];exact h.free j,h.ap,h.xd,h.xg⟩
theorem Va.below (H:jZ Has)(S:dY SH)(h:Va Has SH w B x o q g c FL G m size es s)(hb:Below w.heap.size w w'):Va Has SH w' B x o q g c FL G m size es s:=h.bZ H S (A:=λ_=>False) (aH.aA hb) (λ_ _ z=>z)
theorem Va.Kr (S:dY SH)(h:Va Has SH w B x o q g c FL G m size es s)(hu:oO (jV Has g size) w w' B q FL m es'):∃FL',Va Has SH w' B x o q g c FL' G m size es' s/\aH FL w w'/\∀k,FL' k->FL k\/w.heap.size<=k:=by
 obtain⟨FL',k1,hc,ho⟩:=hu;have hx:=h.xd;refine⟨FL',⟨k1,S.bZ h.jL hc (λk hk z=>h.ap k z hk),h.base,ajc h.lt hc.size,by rw[hc.cell (p:=⟨x,o,none⟩) h.lt hx];exact h.c0,by rw[hc.cell (p:=⟨x,o+1,none⟩) h.lt hx];exact h.c1,by rw[hc.cell (p:=⟨x,o+2,none⟩) h.lt hx];exact h.c2,by rw[hc.cell (p:=⟨x,o+3,none⟩) h.lt hx];exact h.c3,λj=>by rw[hc.frozen (p:=⟨x,j,none⟩) h.lt hx];exact h.free j,λk hk z=>?_,λz=>?_,h.xg⟩,hc,ho⟩
 ·rcases ho k hk with y|y
  ·exact h.ap k y z
  ·have:=(S.own h.jL k z).2;omega
 ·rcases ho x z with y|y
  ·exact h.xd y
  ·have:=h.lt;omega
theorem Va.did (H:jZ Has)(h:Va Has SH w B x o q g c FL G m size es s)(hu:tZ SH w w' B c G s'):∃G',Va Has SH w' B x o q g c FL G' m size es s'/\aH G w w'/\∀k,G' k->G k\/w.heap.size<=k:=by
 obtain⟨G',k1,hc,ho⟩:=hu;have hx:=h.xg;refine⟨G',⟨(jV.looks H g size).bZ h.log hc (λk hk z=>h.ap k hk z),k1,h.base,ajc h.lt hc.size,by rw[hc.cell (p:=⟨x,o,none⟩) h.lt hx];exact h.c0,by rw[hc.cell (p:=⟨x,o+1,none⟩) h.lt hx];exact h.c1,by rw[hc.cell (p:=⟨x,o+2,none⟩) h.lt hx];exact h.c2,by rw[hc.cell (p:=⟨x,o+3,none⟩) h.lt hx];exact h.c3,λj=>by rw[hc.frozen (p:=⟨x,j,none⟩) h.lt hx];exact h.free j,λk hk z=>?_,h.xd,λz=>?_⟩,hc,ho⟩
 ·rcases ho k z with y|y
  ·exact h.ap k hk y
  ·have:=((jV.looks H g size).own h.log k hk).2;omega
 ·rcases ho x z with y|y
  ·exact h.xg y
  ·have:=h.lt;omega
end
def Me (o x:Nat)(w w':World):Prop:=∀j,(j<o\/o+4<=j)->w'.cell? ⟨x,j,none⟩=w.cell? ⟨x,j,none⟩
theorem Me.refl (o x:Nat)(w:World):Me o x w w:=λ_ _=>rfl
theorem Me.trans {o x:Nat}{w w1 w2:World}(h:Me o x w w1)(k:Me o x w1 w2):Me o x w w2:=λj hj=>(k j hj).trans (h j hj)
theorem Me.bZ {o x:Nat}{A:Nat->Prop}{w w':World}(h:aH A w w')(hx:x<w.heap.size)(hn:¬A x):Me o x w w':=λj _=>h.cell (p:=⟨x,j,none⟩) hx hn
theorem Me.below {o x:Nat}{w w':World}(h:Below w.heap.size w w')(hx:x<w.heap.size):Me o x w w':=Me.bZ (A:=λ_=>False) (aH.aA h) hx (λz=>z)
def Rv (Has:World->Nat->Nat->(Nat->Prop)->Int->List ay->Prop)(SH:World->Nat->Nat->(Nat->Prop)->aJ->Prop)(F0 Cs:Nat->Prop)(w wr:World)(B x o q g c:Nat)(m size:Int)(es:List ay)(s:aJ):Prop :=
 ∃FL G,Va Has SH wr B x o q g c FL G m size es s/\aH F0 w wr/\(∀k,vaF x FL G k->F0 k\/w.heap.size<=k)/\(∀k,Cs k->k<wr.heap.size/\¬vaF x FL G k)/\Me o x w wr
section
variable {Has:World->Nat->Nat->(Nat->Prop)->Int->List ay->Prop}{SH:World->Nat->Nat->(Nat->Prop)->aJ->Prop}{F0 Cs jR:Nat->Prop}{w wr w':World}{B x o q g c:Nat}{m size:Int}{es es':List ay}{s s':aJ}
theorem Rv.room (h:Rv Has SH F0 Cs w wr B x o q g c m size es s):w.heap.size<=wr.heap.size:=by
 obtain⟨_,_,_,h2,_⟩:=h;exact h2.size
theorem Rv.cells (h:Rv Has SH F0 Cs w wr B x o q g c m size es s):wr.cell? ⟨x,o,none⟩=some (.pointer (some ⟨q,0,none⟩))/\wr.cell? ⟨x,o+1,none⟩=some (.int .i64 size)/\wr.cell? ⟨x,o+2,none⟩=some (.pointer (some ⟨g,0,none⟩))/\wr.cell? ⟨x,o+3,none⟩=some (.pointer (some ⟨c,0,none⟩))/\x<wr.heap.size:=by
 obtain⟨_,_,h1,_⟩:=h;exact⟨h1.c0,h1.c1,h1.c2,h1.c3,h1.lt⟩
theorem Rv.lF (H:jZ Has)(S:dY SH)(h:Rv Has SH F0 Cs w wr B x o q g c m size es s)(hb:Below wr.heap.size wr w')(hn:∀k,jR k->Cs k\/wr.heap.size<=k/\k<w'.heap.size):Rv Has SH F0 jR w w' B x o q g c m size es s:=by
 obtain⟨FL,G,h1,h2,h3,h4,h5⟩:=h;refine⟨FL,G,h1.below H S hb,h2.trans (aH.aA hb),h3,λk hk=>?_,h5.trans (Me.below hb h1.lt)⟩;rcases hn k hk with y|y
 ·exact⟨ajc (h4 k y).1 hb.size,(h4 k y).2⟩
 ·exact⟨y.2,λz=>by have:=(h1.own H S k z).2;omega⟩
theorem Rv.below (H:jZ Has)(S:dY SH)(h:Rv Has SH F0 Cs w wr B x o q g c m size es s)(hb:Below wr.heap.size wr w'):Rv Has SH F0 Cs w w' B x o q g c m size es s:=h.lF H S hb (λ_ z=>.inl z)
theorem Rv.Kr (S:dY SH)(h:Rv Has SH F0 Cs w wr B x o q g c m size es s){fn:FuncId}{args:Array Value}{Q:Ending->World->Prop}
 (hc:∀FL,jV Has g size wr B q FL m es->(∀k,Cs k->¬FL k)->Calls prog fn args wr λe w'=>Q e w'/\oO (jV Has g size) wr w' B q FL m es') :
 Calls prog fn args wr λe w'=>Q e w'/\Rv Has SH F0 Cs w w' B x o q g c m size es' s/\aO Cs wr w':=by
 have hr:=h.room;obtain⟨FL,G,h1,h2,h3,h4,h5⟩:=h;refine(hc FL h1.log (λk hk z=>(h4 k hk).2 (.inr (.inl z)))).mono ?_;rintro e w' ⟨hq,hu⟩;obtain⟨FL',a1,a2,a3⟩:=h1.Kr S hu;refine⟨hq,⟨FL',G,a1,iZ h2 a2 (λi hi z=>?_),λk hk=>?_,λk hk=>⟨ajc (h4 k hk).1 a2.size,λz=>?_⟩,h5.trans (Me.bZ a2 h1.lt h1.xd)⟩,a2.size,λk hk=>a2.block k (h4 k hk).1 (λz=>(h4 k hk).2 (.inr (.inl z)))⟩
 ·rcases h3 i (.inr (.inl z)) with y|y
  ·exact y
  ·omega
 ·rcases hk with z|z|z
  ·exact h3 k (.inl z)
  ·rcases a3 k z with y|y
   ·exact h3 k (.inr (.inl y))
   ·exact .inr (aje hr y)
  ·exact h3 k (.inr (.inr z))
 ·rcases z with z|z|z
  ·exact(h4 k hk).2 (.inl z)
  ·rcases a3 k z with y|y
   ·exact(h4 k hk).2 (.inr (.inl y))
   ·have:=(h4 k hk).1;omega
  ·exact(h4 k hk).2 (.inr (.inr z))
theorem Rv.did (H:jZ Has)(h:Rv Has SH F0 Cs w wr B x o q g c m size es s){fn:FuncId}{args:Array Value}{Q:Ending->World->Prop}
 (hc:∀G,SH wr B c G s->Calls prog fn args wr λe w'=>Q e w'/\tZ SH wr w' B c G s') :
 Calls prog fn args wr λe w'=>Q e w'/\Rv Has SH F0 Cs w w' B x o q g c m size es s'/\aO Cs wr w':=by
 have hr:=h.room;obtain⟨FL,G,h1,h2,h3,h4,h5⟩:=h;refine(hc G h1.jL).mono ?_;rintro e w' ⟨hq,hu⟩;obtain⟨G',a1,a2,a3⟩:=h1.did H hu;refine⟨hq,⟨FL,G',a1,iZ h2 a2 (λi hi z=>?_),λk hk=>?_,λk hk=>⟨ajc (h4 k hk).1 a2.size,λz=>?_⟩,h5.trans (Me.bZ a2 h1.lt h1.xg)⟩,a2.size,λk hk=>a2.block k (h4 k hk).1 (λz=>(h4 k hk).2 (.inr (.inr z)))⟩
 ·rcases h3 i (.inr (.inr z)) with y|y
  ·exact y
  ·omega
 ·rcases hk with z|z|z
  ·exact h3 k (.inl z)
  ·exact h3 k (.inr (.inl z))
  ·rcases a3 k z with y|y
   ·exact h3 k (.inr (.inr y))
   ·exact .inr (aje hr y)
 ·rcases z with z|z|z
  ·exact(h4 k hk).2 (.inl z)
  ·exact(h4 k hk).2 (.inr (.inl z))
  ·rcases a3 k z with y|y
   ·exact(h4 k hk).2 (.inr (.inr y))
   ·have:=(h4 k hk).1;omega
end
def pG (Has:World->Nat->Nat->(Nat->Prop)->Int->List ay->Prop)(SH:World->Nat->Nat->(Nat->Prop)->aJ->Prop)(o:Nat)(w:World)(B x:Nat)(F:Nat->Prop)(m size:Int)(es:List ay)(s:aJ):Prop:=∃q g c FL G,Va Has SH w B x o q g c FL G m size es s/\∀k,F k↔vaF x FL G k
section
variable {Has:World->Nat->Nat->(Nat->Prop)->Int->List ay->Prop}{SH:World->Nat->Nat->(Nat->Prop)->aJ->Prop}{F:Nat->Prop}{w:World}{B x o:Nat}{m size:Int}{es:List ay}{s:aJ}
def VL (Has:World->Nat->Nat->(Nat->Prop)->Int->List ay->Prop)(SH:World->Nat->Nat->(Nat->Prop)->aJ->Prop)(o:Nat)(w w':World)(B x:Nat)(F:Nat->Prop)(m size:Int)(es:List ay)(s:aJ):Prop:=OB (pG Has SH o) w w' B x F m size es s/\Me o x w w'
theorem pG.begin (h:pG Has SH o w B x F m size es s):∃q g c,Rv Has SH F (λ_=>False) w w B x o q g c m size es s/\∀Cs wr g' c' es' s',Rv Has SH F Cs w wr B x o q g' c' m size es' s'->VL Has SH o w wr B x F m size es' s':=by
 obtain⟨q,g,c,FL,G,h1,h2⟩:=h;refine⟨q,g,c,⟨FL,G,h1,aH.refl _ _,λk z=>.inl ((h2 k).2 z),λ_ z=>z.elim,Me.refl _ _ _⟩,λCs wr g' c' es' s' hr=>?_⟩;obtain⟨FL',G',r1,r2,r3,_,r5⟩:=hr;exact⟨⟨_,⟨q,g',c',FL',G',r1,λk=>amq⟩,r2,r3⟩,r5⟩
end
end Go.Proofs.YtidekgipblnpkaaGreatDoor.Dk
namespace Go.Proofs.YtidekgipblnpkaaGreatDoor
open Go.RowKit Go.Proofs.Tryz
theorem ahP {es:List aW}{y:aW}(h:y∈es):∃j,j<es.length/\en es j=y:=by
 obtain⟨j,hj,e⟩:=akl h;exact⟨j,hj,by rw[mQ hj];exact e⟩
theorem OC {es:List aW}(h:Ord es){s:ByteArray}{y:aW}(hy:y∈es)(e:y.1=s):eu es s=true/\y=en es (place es s):=by
 obtain⟨j,hj,rfl⟩:=ahP hy;obtain⟨h1,h2⟩:=Oq h hj e;exact⟨h1,by rw[h2]⟩
theorem OD:∀{a b:List aW},Ord a->Ord b->(∀e,e∈a↔e∈b)->a=b
 | [],[],_,_,_=>rfl
 | [],y::b,_,_,h=>absurd ((h y).2 (ajQ ..)) (by simp)
 | x::a,[],_,_,h=>absurd ((h x).1 (ajQ ..)) (by simp)
 | x::a,y::b,ha,hb,h=>by
  have ha1:=alq.1 ha;have hb1:=alq.1 hb;have hxy:x=y:=by
   rcases ajT.1 ((h x).1 (ajQ ..)) with z|z
   ·exact z
   ·rcases ajT.1 ((h y).2 (ajQ ..)) with u|u
    ·exact u.symm
    ·have:=rO (hb1.1 x z) (ha1.1 y u);rw[kQ] at this;cases this
  subst hxy;have hx:∀{c:List aW},(∀e∈c,el x.1 e.1=true)->x∉c:=λhc z=>by have:=hc x z;rw[kQ] at this;cases this
  rw[OD ha1.2 hb1.2 (λe=>?_)];constructor
  ·intro z;rcases ajT.1 ((h e).1 (akg _ z)) with u|u
   ·subst u;exact absurd z (hx ha1.1)
   ·exact u
  ·intro z;rcases ajT.1 ((h e).2 (akg _ z)) with u|u
   ·subst u;exact absurd z (hx hb1.1)
   ·exact u
theorem Yc {es:List aW}(h:gI es){s:ByteArray}(n:Int)(hs:aG false s=0)(hr:eu es s=true\/es.length<100)(x:aW):x∈pz es s n↔x=(s,n)\/(x∈es/\x.1≠s):=by
 unfold pz;rw[if_pos hs]
 cases hh:eu es s
 ·rw[if_neg (by simp),if_neg (by rcases hr with z|z;rw[hh] at z;cases z;omega)];have hne:∀y∈es,y.1≠s:=λy hy e=>by have:=(OC h.1 hy e).1;rw[hh] at this;cases this
  have e:x∈iR es (place es s) (s,n)↔x=(s,n)\/x∈es:=by
   unfold iR;rw[ajS,ajT];have:=ajA (place es s) es;constructor
   ·rintro (z|z|z)
    ·exact .inr (aly z)
    ·exact .inl z
    ·exact .inr (akm z)
   ·rintro (z|z)
    ·exact .inr (.inl z)
    ·rw[<-this] at z;rcases ajS.1 z with y|y
     ·exact .inl y
     ·exact .inr (.inr y)
  rw[e];constructor
  ·rintro (z|z)
   ·exact .inl z
   ·exact .inr ⟨z,hne x z⟩
  ·rintro (z|z)
   ·exact .inl z
   ·exact .inr z.1
 ·rw[if_pos rfl];obtain⟨p1,p2⟩:=qJ hh;constructor
  ·intro z;obtain⟨j,hj,e⟩:=akl z;rw[akq] at hj;rw[amV] at e;by_cases hp:place es s=j
   ·rw[if_pos hp] at e;exact .inl e.symm
   ·rw[if_neg hp] at e;refine .inr ⟨by rw[<-e];exact akk hj,λq=>hp ?_⟩;exact(LV h.1 hj (by rw[mQ hj,e];exact q)).symm
  ·rintro (z|⟨z,q⟩)
   ·rw[z];exact List.mem_set p1 _
   ·obtain⟨j,hj,e⟩:=akl z;have hp:¬place es s=j:=λhp=>q (by rw[<-e,<-mQ hj,<-hp];exact p2)
    have:(es.set (place es s) (s,n))[j]'(by rw[akq];exact hj)=x:=by rw[amV,if_neg hp];exact e
    rw[<-this];exact akk _
theorem acv {es:List aW}(h:gI es){s:ByteArray}(hs:aG false s=0)(x:aW):x∈qE es s↔x∈es/\x.1≠s:=by
 unfold qE;rw[if_pos hs]
 cases hh:eu es s
 ·rw[if_neg (by simp)];exact⟨λz=>⟨z,λe=>by have:=(OC h.1 z e).1;rw[hh] at this;cases this⟩,λz=>z.1⟩
 ·rw[if_pos rfl];obtain⟨p1,p2⟩:=qJ hh;have hsp:es=es.take (place es s)++en es (place es s)::es.drop (place es s+1):=by
   rw[mQ p1,<-ajD p1,ajA]
  constructor
  ·intro z;refine⟨X9 z,λe=>?_⟩;have ho:=h.1;unfold Ord at ho;rw[hsp,ala,alq] at ho;obtain⟨_,⟨o2,_⟩,o3⟩:=ho;unfold Aa at z;rcases ajS.1 z with y|y
   ·have:=o3 x y (en es (place es s)) (ajQ ..);rw[e,p2,kQ] at this;cases this
   ·have:=o2 x y;rw[e,p2,kQ] at this;cases this
  ·rintro ⟨z,q⟩;rw[hsp] at z;unfold Aa;rcases ajS.1 z with y|y
   ·exact ajS.2 (.inl y)
   ·rcases ajT.1 y with u|u
    ·exact absurd (by rw[u];exact p2) q
    ·exact ajS.2 (.inr u)
def dQ (l:List Dk.Rc)(s:ByteArray):Nat:=(l.filter λr=>decide (r.s=s)).length
theorem eU (a b:List Dk.Rc)(s:ByteArray):dQ (a++b) s=dQ a s+dQ b s:=by unfold dQ;rw[alu,ajh]
theorem pI (r:Dk.Rc)(s:ByteArray):dQ [r] s=if r.s=s then 1 else 0:=by
 unfold dQ;by_cases h:r.s=s
 ·rw[if_pos h];simp[h]
 ·rw[if_neg h];simp[h]
theorem nO (l:List Dk.Rc)(s:ByteArray):Dk.fJ l s=decide (0<dQ l s):=by
 unfold Dk.fJ dQ;rw[akc,amb,ajw,List.length_pos_iff_exists_mem];constructor
 ·rintro ⟨x,h1,h2⟩;exact⟨x,alN.2 ⟨h1,h2⟩⟩
 ·rintro ⟨x,h1⟩;obtain⟨h1,h2⟩:=alN.1 h1;exact⟨x,h1,h2⟩
structure nP (l:List Dk.Rc)(es:List aW):Prop where
 jY:gI es
 mem:∀e:aW,e∈es↔0<dQ l e.1/\e.2=(dQ l e.1:Int)
theorem nP.nil:nP [] []:=⟨ab6,λe=>by simp[dQ]⟩
theorem nP.same {l:List Dk.Rc}{a b:List aW}(h:nP l a)(g:nP l b):a=b:=OD h.jY.1 g.jY.1 (λe=>by rw[h.mem,g.mem])
theorem nP.has {l:List Dk.Rc}{es:List aW}(h:nP l es)(s:ByteArray):eu es s=decide (0<dQ l s):=by
 rw[akc,ajw];constructor
 ·intro z;obtain⟨p1,p2⟩:=qJ z;have:=((h.mem _).1 (BQ p1)).1;rw[p2] at this;exact this
 ·intro z;exact(OC h.jY.1 ((h.mem (s,(dQ l s:Int))).2 ⟨z,rfl⟩) rfl).1
theorem nP.get {l:List Dk.Rc}{es:List aW}(h:nP l es){s:ByteArray}(hs:aG false s=0):jA es s=(dQ l s:Int):=by
 unfold jA;rw[if_pos hs,h.has];by_cases z:0<dQ l s
 ·rw[ajg z,if_pos rfl];have:=(OC h.jY.1 ((h.mem (s,(dQ l s:Int))).2 ⟨z,rfl⟩) rfl).2;rw[<-this]
 ·rw[ajd z,if_neg (by simp)];omega
theorem nP.put {l:List Dk.Rc}{es:List aW}(h:nP l es)(r:Dk.Rc)(hs:aG false r.s=0)(hz:r.s.size<=140737488355328)(hr:0<dQ l r.s\/es.length<100):nP (l++[r]) (pz es r.s ((dQ l r.s:Int)+1)):=by
 refine⟨Rq h.jY _ hz,λe=>?_⟩;rw[Yc h.jY _ hs (by rw[h.has];simpa using hr),h.mem,eU,pI];by_cases q:e.1=r.s
 ·rw[if_pos q.symm,q];constructor
  ·rintro (z|z)
   ·rw[z];exact⟨by omega,by simp⟩
   ·exact absurd rfl z.2
  ·rintro ⟨_,z⟩;exact .inl (anr q (by rw[z];simp))
 ·rw[if_neg (λz=>q z.symm),ale];constructor
  ·rintro (z|z)
   ·exact absurd (by rw[z]) q
   ·exact z.1
  ·intro z;exact .inr ⟨z,q⟩
theorem nP.less {A B:List Dk.Rc}{x:Dk.Rc}{es:List aW}(h:nP (A++x::B) es)(hs:aG false x.s=0)(hz:x.s.size<=140737488355328):(dQ (A++B) x.s=0->nP (A++B) (qE es x.s))/\nP (A++B) (if dQ (A++B) x.s=0 then qE es x.s else pz es x.s (dQ (A++B) x.s:Int)):=by
 have hc:∀s,dQ (A++x::B) s=dQ (A++B) s+(if x.s=s then 1 else 0):=λs=>by
  rw[show A++x::B=A++([x]++B) from rfl,eU,eU,eU,pI];omega
 have hd:dQ (A++B) x.s=0->nP (A++B) (qE es x.s):=λh0=>by
  refine⟨Zy h.jY _,λe=>?_⟩;rw[acv h.jY hs,h.mem,hc];by_cases q:e.1=x.s
  ·rw[q,h0];simp
  ·rw[if_neg (λz=>q z.symm),ale];exact⟨λz=>z.1,λz=>⟨z,q⟩⟩
 refine⟨hd,?_⟩;by_cases h0:dQ (A++B) x.s=0
 ·rw[if_pos h0];exact hd h0
 ·rw[if_neg h0];refine⟨Rq h.jY _ hz,λe=>?_⟩;rw[Yc h.jY _ hs (.inl (by rw[h.has,hc,if_pos rfl];simp)),h.mem,hc];by_cases q:e.1=x.s
  ·rw[q];constructor
   ·rintro (z|z)
    ·rw[z];exact⟨by omega,rfl⟩
    ·exact absurd rfl z.2
   ·rintro ⟨_,z⟩;exact .inl (anr q z)
  ·rw[if_neg (λz=>q z.symm),ale];constructor
   ·rintro (z|z)
    ·exact absurd (by rw[z]) q
    ·exact z.1
   ·intro z;exact .inr ⟨z,q⟩
theorem nP.len {l:List Dk.Rc}{es:List aW}(h:nP l es):es.length=Dk.dP l:=by
 have hn:(es.map (·.1)).Nodup:=by
  have:=h.jY.1;unfold Ord at this;rw[List.Nodup,List.pairwise_map];exact this.imp (λ{a b} hab e=>by rw[e,kQ] at hab;cases hab)
 have hm:∀s,s∈es.map (·.1)↔s∈Dk.yu l:=λs=>by
  rw[Dk.jh,nO,ajw,alP];constructor
  ·rintro ⟨e,he,rfl⟩;exact((h.mem e).1 he).1
  ·intro z;exact⟨(s,(dQ l s:Int)),(h.mem _).2 ⟨z,rfl⟩,rfl⟩
 rw[Dk.kU,<-akw (f:=λe:aW=>e.1)];exact Nat.le_antisymm (Dk.rV _ _ hn (λs hs=>(hm s).1 hs)) (Dk.rV _ _ (Dk.kV l) (λs hs=>(hm s).2 hs))
def uf (es:List aW)(f:ByteArray):List aW:=if aG true f=0 then lK es f else []
def afm:List aW->Int
 | []=>0
 | e::es=>e.2+afm es
def Am (l:List Dk.Rc):List ByteArray->Nat
 | []=>0
 | s::N=>dQ l s+Am l N
theorem MB {r:Dk.Rc}{l:List Dk.Rc}:∀{N:List ByteArray},r.s∉N->Am (r::l) N=Am l N
 | [],_=>rfl
 | s::N,h=>by
  have h1:¬r.s=s:=λe=>h (by rw[e];exact ajQ ..)
  rw[Am,Am,MB (N:=N) (λz=>h (akg _ z)),show r::l=[r]++l from rfl,eU,pI,if_neg h1,ajv]
theorem RN {r:Dk.Rc}{l:List Dk.Rc}:∀{N:List ByteArray},N.Nodup->r.s∈N->Am (r::l) N=Am l N+1
 | [],_,h=>by cases h
 | s::N,hn,h=>by
  obtain⟨h1,h2⟩:=anb.1 hn;rw[Am,Am,show r::l=[r]++l from rfl,eU,pI];by_cases e:r.s=s
  ·rw[if_pos e,show[r]++l=r::l from rfl,MB (by rw[e];exact h1)];omega
  ·rw[if_neg e,show[r]++l=r::l from rfl,RN h2 (by
    rcases ajT.1 h with z|z
    ·exact absurd z e
    ·exact z)]
   omega
theorem RP:∀N:List ByteArray,Am [] N=0
 | []=>rfl
 | s::N=>by rw[Am,RP N];rfl
theorem RQ {N:List ByteArray}(hn:N.Nodup):∀{l:List Dk.Rc},(∀r∈l,r.s∈N)->Am l N=l.length
 | [],_=>RP N
 | r::l,h=>by
  rw[RN hn (h r (ajQ ..)),RQ hn (λx hx=>h x (akg _ hx))];rfl
theorem acw {l:List Dk.Rc}:∀{es:List aW},(∀e∈es,e.2=(dQ l e.1:Int))->afm es=(Am l (es.map (·.1)):Int)
 | [],_=>rfl
 | e::es,h=>by
  rw[afm,akt,Am,acw (λx hx=>h x (akg _ hx)),h e (ajQ ..)];omega
theorem nP.sum {l:List Dk.Rc}{es:List aW}(h:nP l es):afm es=(l.length:Int):=by
 have hn:(es.map (·.1)).Nodup:=by
  have:=h.jY.1;unfold Ord at this;rw[List.Nodup,List.pairwise_map];exact this.imp (λ{a b} hab e=>by rw[e,kQ] at hab;cases hab)
 rw[acw (λe he=>((h.mem e).1 he).2),RQ hn (λr hr=>?_)];refine alP.2 ⟨(r.s,(dQ l r.s:Int)),(h.mem _).2 ⟨?_,rfl⟩,rfl⟩;have:=nO l r.s;have h2:Dk.fJ l r.s=true:=by
  unfold Dk.fJ;exact amb.2 ⟨r,hr,by simp⟩
 rw[h2] at this;simpa using this.symm
theorem nP.pos {l:List Dk.Rc}{es:List aW}(h:nP l es):∀e∈es,0<=e.2:=λe he=>by
 rw[((h.mem e).1 he).2];omega
theorem acy:∀(n:Nat) (l:List Dk.Rc),l.length=n->(∀x∈l,aG false x.s=0/\x.s.size<=140737488355328)->Dk.dP l<=100->∃es,nP l es
 | 0,l,hn,_,_=>by
  obtain rfl:=ajK.1 hn;exact⟨[],nP.nil⟩
 | n+1,l,hn,h,dK=>by
  rcases List.eq_nil_or_concat l with rfl|⟨L,b,rfl⟩
  ·cases hn
  ·rw[List.concat_eq_append] at hn h dK ⊢;rw[Dk.mY] at dK;rw[ajh] at hn;have hn:L.length=n:=by simpa using hn
   obtain⟨es,hc⟩:=acy n L hn (λx hx=>h x (ajS.2 (.inl hx))) (by omega);have hb:=h b (ajS.2 (.inr (akr.2 rfl)));refine⟨_,hc.put b hb.1 hb.2 ?_⟩;by_cases z:Dk.fJ L b.s=true
   ·left;rw[nO] at z;simpa using z
   ·right;rw[if_neg z] at dK;rw[hc.len];omega
theorem acz:aG true ⟨#[62]⟩=0:=by decide +kernel
end Go.Proofs.YtidekgipblnpkaaGreatDoor
namespace Go.Proofs.YtidekgipblnpkaaGreatDoor.Dk
open Go.RowKit Go.Proofs.Tryz
def pq:List Rc->Int->Nat
 | [],_=>0
 | r::l,n=>if r.q<n then pq l n+1 else 0
def kD (l:List Rc):Prop:=l.Pairwise λa b=>a.q<b.q
theorem Yd:∀(l:List Rc) (n:Int),pq l n<=l.length
 | [],_=>Xc _
 | r::l,n=>by
  have:=Yd l n;rw[pq,ajB];split<;>omega
theorem wB {l:List Rc}{k:Nat}(h:k<l.length):rc l k∈l:=by rw[bP h];exact akk h
theorem MC:∀(l:List Rc) (n:Int) (k:Nat),k<pq l n->(rc l k).q<n
 | [],n,k,h=>by simp[pq] at h
 | r::l,n,k,h=>by
  rw[pq] at h;by_cases hr:r.q<n
  ·rw[if_pos hr] at h;match k,h with
   | 0,_=>exact hr
   | k+1,h=>exact MC l n k (by omega)
  ·rw[if_neg hr] at h;omega
theorem acA:∀(l:List Rc) (n:Int),pq l n<l.length->n<=(rc l (pq l n)).q
 | [],n,h=>by simp[pq] at h
 | r::l,n,h=>by
  rw[pq] at h ⊢;by_cases hr:r.q<n
  ·rw[if_pos hr] at h ⊢;have:=acA l n (by rw[ajB] at h;omega);exact this
  ·rw[if_neg hr];have e:rc (r::l) 0=r:=rfl;rw[e];omega
theorem xH {l:List Rc}(h:kD l){i j:Nat}(hij:i<j)(hj:j<l.length):(rc l i).q<(rc l j).q:=by
 rw[bP (by omega),bP hj];exact alo.1 h i j (by omega) hj hij
theorem agv {l:List Rc}(h:kD l)(n:Int)(k:Nat)(h1:pq l n<=k)(h2:k<l.length):n<=(rc l k).q:=by
 have ha:=acA l n (by omega);rcases akA h1 with e|e
 ·rw[<-e];exact ha
 ·have:=xH h e h2;omega
theorem agw {l:List Rc}{n:Int}{i:Nat}(hi:i<=l.length)(h1:∀j,j<i->(rc l j).q<n)(h2:∀j,i<=j->j<l.length->n<=(rc l j).q):i=pq l n:=by
 rcases Nat.lt_trichotomy i (pq l n) with h|h|h
 ·have a:=MC l n i h;have:=Yd l n;have:=h2 i (Xc _) (by omega);omega
 ·exact h
 ·have a:=acA l n (by omega);have:=h1 (pq l n) h;omega
theorem VN {l:List Rc}(h:kD l)(n:Int):seqB l n=(decide (pq l n<l.length)&&decide ((rc l (pq l n)).q=n)):=by
 unfold seqB;rw[akc,amb,ajU,ajw,ajw];constructor
 ·rintro ⟨x,hx,e⟩;have e:x.q=n:=alF e;obtain⟨j,hj,rfl⟩:=akl hx;rw[<-bP hj] at e;have hp:pq l n=j:=by
   refine(agw (by omega) (λi hi=>?_) (λi hi hl=>?_)).symm
   ·have:=xH h hi hj;omega
   ·rcases akA hi with z|z
    ·rw[<-z];omega
    ·have:=xH h z hl;omega
  rw[hp];exact⟨hj,e⟩
 ·rintro ⟨h1,h2⟩;exact⟨_,wB h1,by rw[h2];simp⟩
theorem acB {l:List Rc}(h:kD l){n:Int}(hp:pq l n<l.length):seqB l n=decide ((rc l (pq l n)).q=n):=by
 rw[VN h,ajg hp,akn]
theorem afn {l:List Rc}(h:kD l){n:Int}(hp:¬pq l n<l.length):seqB l n=false:=by
 rw[VN h,ajd hp,akH]
theorem Ap {l:List Rc}(h:kD l){n:Int}(hs:seqB l n=true):pq l n<l.length/\(rc l (pq l n)).q=n:=by
 rw[VN h,ajU,ajw,ajw] at hs;exact hs
theorem RU {l:List Rc}{k:Nat}(h:k<l.length):l=l.take k++rc l k::l.drop (k+1):=by
 rw[bP h,<-ajD h,ajA]
theorem afo {l:List Rc}(h:kD l){n:Int}(hs:seqB l n=true):Ah l n=some (rc l (pq l n)):=by
 obtain⟨h1,h2⟩:=Ap h hs;unfold Ah;rw[List.find?_eq_some_iff_getElem];refine⟨by rw[h2];simp,pq l n,h1,(bP h1).symm,λj hj=>?_⟩;have:=MC l n j hj;rw[bP (by omega)] at this;simp only[akL,ajP];omega
theorem get_none {l:List Rc}{n:Int}(hs:seqB l n=false):Ah l n=none:=by
 unfold Ah;rw[akZ];intro x hx;unfold seqB at hs;rw[List.any_eq_false] at hs;exact hs x hx
theorem BZ {p q:Rc->Bool}:∀{l:List Rc},(∀x∈l,p x=q x)->l.find? p=l.find? q
 | [],_=>rfl
 | x::l,h=>by
  rw[alI,alI,h x (ajQ ..),BZ (l:=l) (λy hy=>h y (akg _ hy))]
theorem VO {l:List Rc}(h:kD l)(f:ByteArray)(n:Int):rW f l n=(l.drop (pq l n)).find? λr=>mX f r.s:=by
 unfold rW;have e:l.find? (λr=>mX f r.s&&decide (n<=r.q))=((l.take (pq l n))++(l.drop (pq l n))).find? (λr=>mX f r.s&&decide (n<=r.q)):=by rw[ajA]
 rw[e,List.find?_append];have e1:(l.take (pq l n)).find? (λr=>mX f r.s&&decide (n<=r.q))=none:=by
  rw[akZ];intro x hx;obtain⟨j,hj,rfl⟩:=akl hx;rw[ajn] at hj;have:=MC l n j (by omega);rw[bP (by omega)] at this;rw[alC];simp only[ajU,ajw,not_and];intro _;omega
 rw[e1,Option.none_or];refine BZ (λx hx=>?_);obtain⟨j,hj,rfl⟩:=akl hx;rw[ajp] at hj;rw[alO];have:=agv h n (pq l n+j) (by omega) (by omega);rw[bP (by omega)] at this;rw[ajg this,Bool.and_true]
def KD (l:List Rc)(i:Nat):List Rc:=l.take i++l.drop (i+1)
theorem RV {l:List Rc}{i:Nat}(h:i<l.length):(KD l i).length=l.length-1:=by
 unfold KD;rw[ajh,ajn,ajp];omega
theorem acC {l:List Rc}(h:kD l){n:Int}(hs:seqB l n=true):l.filter (λx=>!decide (x.q=n))=KD l (pq l n):=by
 obtain⟨h1,h2⟩:=Ap h hs;unfold KD;have e:=congrArg (List.filter λx:Rc=>!decide (x.q=n)) (RU h1);rw[e,alu,amW,h2];simp only[decide_true,Bool.not_true,amg,ant];congr 1
 ·refine alX.2 (λx hx=>?_);obtain⟨j,hj,rfl⟩:=akl hx;rw[ajn] at hj;have:=MC l n j (by omega);rw[bP (by omega)] at this;rw[alC];simp only[akL,ajP];omega
 ·refine alX.2 (λx hx=>?_);obtain⟨j,hj,rfl⟩:=akl hx;rw[ajp] at hj;have:=xH h (i:=pq l n) (j:=pq l n+1+j) (by omega) (by omega);rw[bP (l:=l) (k:=pq l n+1+j) (by omega)] at this;rw[alO];simp only[akL,ajP];omega
def kE (f:ByteArray)(l:List Rc):List Rc:=l.filter λx=>!mX f x.s
theorem Cb {f:ByteArray}{l:List Rc}{k:Nat}(h:k<l.length):kE f (l.take (k+1))=kE f (l.take k)++(if mX f (rc l k).s then [] else [rc l k]):=by
 unfold kE;rw[ajo h,<-bP h,alu]
 cases e:mX f (rc l k).s<;>simp[e]
theorem Jf (f:ByteArray)(l:List Rc):(kE f l).length<=l.length:=akB _ _
theorem acD {l:List Rc}(h:kD l)(f:ByteArray)(n:Int):l.filter (λx=>!(decide (x.q<n)&&mX f x.s))=kE f (l.take (pq l n))++l.drop (pq l n):=by
 have e:=congrArg (List.filter λx:Rc=>!(decide (x.q<n)&&mX f x.s)) (ajA (pq l n) l).symm;rw[e,alu];congr 1
 ·unfold kE;refine List.filter_congr (λx hx=>?_);obtain⟨j,hj,rfl⟩:=akl hx;rw[ajn] at hj;have:=MC l n j (by omega);rw[bP (by omega)] at this;rw[alC,ajg this,akn]
 ·refine alX.2 (λx hx=>?_);obtain⟨j,hj,rfl⟩:=akl hx;rw[ajp] at hj;have:=agv h n (pq l n+j) (by omega) (by omega);rw[bP (by omega)] at this;rw[alO,ajd (by omega),akH];rfl
def VP (es:List aW)(n:Int)(s:ByteArray):List aW:=if 1<n then pz es s (n-1) else qE es s
theorem nP.off {A B:List Rc}{x:Rc}{es:List aW}(h:nP (A++x::B) es)(hs:aG false x.s=0)(hz:x.s.size<=140737488355328):nP (A++B) (VP es (jA es x.s) x.s):=by
 have hc:dQ (A++x::B) x.s=dQ (A++B) x.s+1:=by
  rw[show A++x::B=A++([x]++B) from rfl,eU,eU,eU,pI,if_pos rfl];omega
 have h2:=(h.less hs hz).2;unfold VP;rw[h.get hs,hc];by_cases h0:dQ (A++B) x.s=0
 ·rw[if_pos h0] at h2;rw[if_neg (by omega)];exact h2
 ·rw[if_neg h0] at h2;rw[if_pos (by omega),show((dQ (A++B) x.s+1:Nat):Int)-1=(dQ (A++B) x.s:Int) by omega];exact h2
end Go.Proofs.YtidekgipblnpkaaGreatDoor.Dk
namespace Go.Proofs.YtidekgipblnpkaaGreatDoor
open Go.RowKit Go.Proofs.Tryz
def aC:List aW->List Value
 | []=>[]
 | e::r=>.string e.1::.int .i64 e.2::aC r
theorem dB:∀es:List aW,(aC es).length=es.length*2
 | []=>rfl
 | e::r=>by simp[aC,dB r];omega
theorem iT:∀a b:List aW,aC (a++b)=aC a++aC b
 | [],_=>rfl
 | e::a,b=>by simp[aC,iT a b]
theorem ug:∀(es:List aW) (k:Nat),aC (es.take k)=(aC es).take (k*2)
 | [],k=>by simp[aC]
 | e::r,0=>by simp[aC]
 | e::r,k+1=>by rw[show(k+1)*2=k*2+1+1 by omega];simp[aC,ug r k]
theorem uh:∀(es:List aW) (k:Nat),aC (es.drop k)=(aC es).drop (k*2)
 | [],k=>by simp[aC]
 | e::r,0=>by simp[aC]
 | e::r,k+1=>by rw[show(k+1)*2=k*2+1+1 by omega];simp[aC,uh r k]
theorem Jg:∀(es:List aW) (k:Nat),k<es.length->(aC es)[k*2]?=some (.string (en es k).1)
 | [],k,h=>absurd h (ajG k)
 | e::r,0,_=>rfl
 | e::r,k+1,h=>by
  rw[show(k+1)*2=k*2+1+1 by omega];simp only[aC,akb];exact Jg r k (by simpa using h)
theorem Ye:∀(es:List aW) (k:Nat),k<es.length->(aC es)[k*2+1]?=some (.int .i64 (en es k).2)
 | [],k,h=>absurd h (ajG k)
 | e::r,0,_=>rfl
 | e::r,k+1,h=>by
  rw[show(k+1)*2+1=k*2+1+1+1 by omega];simp only[aC,akb];exact Ye r k (by simpa using h)
theorem kY:∀(es:List aW),∀v∈aC es,v.oneCell'=true
 | [],v,h=>by simp[aC] at h
 | e::r,v,h=>by
  simp only[aC,ajT] at h;rcases h with h|h|h
  ·subst h;rfl
  ·subst h;rfl
  ·exact kY r v h
theorem Yf:∀(es:List aW) (k:Nat) (s:ByteArray) (n:Int),k<es.length->(en es k).1=s->aC (es.set k (s,n))=(aC es).set (k*2+1) (.int .i64 n)
 | [],k,_,_,h,_=>absurd h (ajG k)
 | e::r,0,s,n,_,q=>by
  have:e.1=s:=q;simp[aC,this]
 | e::r,k+1,s,n,h,q=>by
  rw[show(k+1)*2+1=k*2+1+1+1 by omega];simp only[ajj,aC];rw[Yf r k s n (by simpa using h) q]
theorem OE:(prog.info? 68).map (λi=>(i.zero,i.size,i.bytes))=some (some (.agg #[.string ByteArray.empty,.int .i64 0]),2,24):=by kernel_rfl
def aS (w:World)(B:Nat)(v:Value)(es:List aW):Prop:=w.ownsRow B 68 2 v es.length (aC es)
theorem aS.empty (w:World)(B:Nat):aS w B (.slice none 0 0) []:=akW w B _ 2
theorem aS.shape {w:World}{B:Nat}{v:Value}{es:List aW}(h:aS w B v es):∃a cap,v=.slice a es.length cap/\es.length<=cap/\cap<=maxLen/\∀g,v.ownBlock=some g->a=some ⟨g,0,none⟩/\B<=g/\g<w.heap.size:=by
 rcases h.2 with ⟨h1,h2⟩|⟨g,cap,cur,h1,h2,h3,h4,h5,h6,h7⟩
 ·exact⟨none,0,by rw[h1,h2],by omega,by simp[maxLen],λg hg=>by rw[h1] at hg;simp[Value.ownBlock] at hg⟩
 ·exact⟨_,cap,h1,h4,h5,λk hk=>by
   have:=h.lt k hk;rw[h1] at hk;simp only[Value.ownBlock,ajX] at hk;subst hk;exact⟨rfl,this⟩⟩
theorem aS.there {w:World}{B:Nat}{v:Value}{es:List aW}(h:aS w B v es)(hn:0<es.length):∃g cap,v=.slice (some ⟨g,0,none⟩) es.length cap/\es.length<=cap/\cap<=maxLen/\B<=g/\g<w.heap.size:=by
 rcases h.2 with ⟨h1,h2⟩|⟨g,cap,cur,h1,h2,h3,h4,h5,h6,h7⟩
 ·omega
 ·exact⟨g,cap,h1,h4,h5,h.lt g (by rw[h1];rfl)⟩
theorem aS.text {w:World}{B g cap:Nat}{es:List aW}(h:aS w B (.slice (some ⟨g,0,none⟩) es.length cap) es){k:Nat}(hk:k<es.length):w.cell? ⟨g,k*2,none⟩=some (.string (en es k).1):=by
 rw[ajH h _ (by omega)];exact Jg es k hk
theorem aS.num {w:World}{B g cap:Nat}{es:List aW}(h:aS w B (.slice (some ⟨g,0,none⟩) es.length cap) es){k:Nat}(hk:k<es.length):w.cell? ⟨g,k*2+1,none⟩=some (.int .i64 (en es k).2):=by
 rw[ajH h _ (by omega)];exact Ye es k hk
theorem aS.cell {w:World}{B g cap:Nat}{es:List aW}(h:aS w B (.slice (some ⟨g,0,none⟩) es.length cap) es)(j:Nat)(u:Value)(hj:(aC es)[j]?=some u):w.cell? ⟨g,j,none⟩=some u:=by
 have hl:j<es.length*2:=by
  rw[<-dB];rcases ald j (aC es).length with q|q
  ·exact q
  ·rw[alM q] at hj;cases hj
 rw[ajH h _ hl];exact hj
theorem aS.below {w w':World}{B:Nat}{v:Value}{es:List aW}(h:aS w B v es)(hb:Below w.heap.size w w'):aS w' B v es:=by
 refine⟨h.1,?_⟩;rcases h.2 with q|⟨g,cap,cur,h1,h2,h3,r⟩
 ·exact .inl q
 ·refine .inr ⟨g,cap,cur,h1,h2,?_,r⟩;rw[hb.block g (h.lt g (by rw[h1];rfl)).2];exact h3
structure aX (A:Nat->Prop)(w w':World):Prop where
 os:w'.os=w.os
 tape:w'.tape=w.tape
 output:w'.output=w.output
 size:w.heap.size<=w'.heap.size
 block:∀k,k<w.heap.size->¬A k->w'.heap[k]?=w.heap[k]?
theorem aX.refl (A:Nat->Prop)(w:World):aX A w w:=⟨rfl,rfl,rfl,Xc _,λ_ _ _=>rfl⟩
theorem aX.trans {A:Nat->Prop}{a b c:World}(h:aX A a b)(k:aX A b c):aX A a c :=
 ⟨k.os.trans h.os,k.tape.trans h.tape,k.output.trans h.output,aje h.size k.size,λi hi hn=>(k.block i (by have:=h.size;omega) hn).trans (h.block i hi hn)⟩
theorem aX.mono {A A':Nat->Prop}{a b:World}(h:aX A a b)(hA:∀k,k<a.heap.size->A k->A' k):aX A' a b :=
 ⟨h.os,h.tape,h.output,h.size,λk hk hn=>h.block k hk (λq=>hn (hA k hk q))⟩
theorem aX.aA {A:Nat->Prop}{w w':World}(h:Below w.heap.size w w'):aX A w w':=⟨h.os,h.tape,h.output,h.size,λk hk _=>h.block k hk⟩
theorem aX.bH {w w':World}{row:Option Nat}(h:w.grownBy w' row):aX (λk=>row=some k) w w':=⟨h.os,h.tape,h.output,h.size,λk hk hn=>h.block k hk (λe=>hn e.symm)⟩
theorem aX.setCell {A:Nat->Prop}{a w:World}(h:aX A a w){p:Addr}(hp:A p.block\/a.heap.size<=p.block)(u:Value):aX A a (w.setCell p u):=by
 refine⟨h.os,h.tape,h.output,by simpa[World.setCell] using h.size,λk hk hn=>?_⟩;rw[Below.heap_setCell _ _ _ _ (λe=>by subst e;rcases hp with q|q;exact hn q;omega)];exact h.block k hk hn
theorem aX.below {A:Nat->Prop}{B:Nat}{w w':World}(h:aX A w w')(hB:B<=w.heap.size)(hA:∀k,k<B->¬A k):Below B w w':=⟨h.os,h.tape,h.output,h.size,λk hk=>h.block k (by omega) (hA k hk)⟩
theorem aX.cell {A:Nat->Prop}{w w':World}(h:aX A w w'){p:Addr}(hp:p.block<w.heap.size)(hn:¬A p.block):w'.cell? p=w.cell? p:=akD (w:=w) (h.block p.block hp hn)
theorem aX.frozen {A:Nat->Prop}{w w':World}(h:aX A w w'){p:Addr}(hp:p.block<w.heap.size)(hn:¬A p.block):w'.frozen? p=w.frozen? p:=World.frozen?_of_block (w:=w) (h.block p.block hp hn)
theorem aS.bZ {A:Nat->Prop}{w w':World}{B:Nat}{v:Value}{es:List aW}(h:aS w B v es)(hb:aX A w w')(hn:∀g,v.ownBlock=some g->¬A g):aS w' B v es:=by
 refine⟨h.1,?_⟩;rcases h.2 with q|⟨g,cap,cur,h1,h2,h3,r⟩
 ·exact .inl q
 ·refine .inr ⟨g,cap,cur,h1,h2,?_,r⟩;rw[hb.block g (h.lt g (by rw[h1];rfl)).2 (hn g (by rw[h1];rfl))];exact h3
structure fB (o:Nat)(w:World)(B p:Nat)(v:Value)(es:List aW):Prop where
 cell:w.cell? ⟨p,o,none⟩=some v
 free:w.frozen? ⟨p,o,none⟩=false
 base:B<=p
 lt:p<w.heap.size
 arr:aS w B v es
 apart:v.ownBlock≠some p
abbrev jy (w:World)(B p:Nat)(v:Value)(es:List aW):Prop:=fB 0 w B p v es
def pJ (p:Nat)(v:Value)(k:Nat):Prop:=k=p\/v.ownBlock=some k
theorem fB.below {o:Nat}{w w':World}{B p:Nat}{v:Value}{es:List aW}(h:fB o w B p v es)(hb:Below w.heap.size w w'):fB o w' B p v es :=
 ⟨by rw[hb.cell (p:=⟨p,o,none⟩) h.lt];exact h.cell,by rw[hb.frozen (p:=⟨p,o,none⟩) h.lt];exact h.free,h.base,by have:=hb.size;have:=h.lt;omega,h.arr.below hb,h.apart⟩
theorem fB.bZ {o:Nat}{A:Nat->Prop}{w w':World}{B p:Nat}{v:Value}{es:List aW}(h:fB o w B p v es)(hb:aX A w w')(hn:∀k,pJ p v k->¬A k):fB o w' B p v es :=
 ⟨by rw[hb.cell (p:=⟨p,o,none⟩) h.lt (hn p (.inl rfl))];exact h.cell,by rw[hb.frozen (p:=⟨p,o,none⟩) h.lt (hn p (.inl rfl))];exact h.free,h.base,by have:=hb.size;have:=h.lt;omega,h.arr.bZ hb (λg hg=>hn g (.inr hg)),h.apart⟩
structure uj (o p:Nat)(w w':World):Prop where
 cell:∀j,j≠o->w'.cell? ⟨p,j,none⟩=w.cell? ⟨p,j,none⟩
 free:∀j,w'.frozen? ⟨p,j,none⟩=w.frozen? ⟨p,j,none⟩
theorem uj.trans {o p:Nat}{a b c:World}(h:uj o p a b)(k:uj o p b c):uj o p a c:=⟨λj hj=>(k.cell j hj).trans (h.cell j hj),λj=>(k.free j).trans (h.free j)⟩
theorem uj.bZ {o p:Nat}{A:Nat->Prop}{w w':World}(h:aX A w w')(hp:p<w.heap.size)(hn:¬A p):uj o p w w':=⟨λj _=>h.cell (p:=⟨p,j,none⟩) hp hn,λj=>h.frozen (p:=⟨p,j,none⟩) hp hn⟩
theorem uj.below {o p:Nat}{w w':World}(h:Below w.heap.size w w')(hp:p<w.heap.size):uj o p w w':=uj.bZ (A:=λ_=>False) (aX.aA h) hp (λz=>z)
theorem uj.set {o p:Nat}{w:World}(v:Value):uj o p w (w.setCell ⟨p,o,none⟩ v):=⟨λj hj=>by rw[aji _ _ _ _ (by simp<;>omega)],λj=>ajt _ _ _ _⟩
theorem uj.other {o p g j:Nat}{w:World}(v:Value)(h:g≠p):uj o p w (w.setCell ⟨g,j,none⟩ v):=⟨λi hi=>by rw[aji _ _ _ _ (by simp<;>omega)],λi=>ajt _ _ _ _⟩
theorem fB.store {o:Nat}{w w':World}{B p:Nat}{v v':Value}{es es':List aW}(h:fB o w B p v es)(hb:aX (λk=>v.ownBlock=some k) w w')(ha:aS w' B v' es')(hv:∀g,v'.ownBlock=some g->v.ownBlock=some g\/w.heap.size<=g) :
 fB o (w'.setCell ⟨p,o,none⟩ v') B p v' es'/\aX (pJ p v) w (w'.setCell ⟨p,o,none⟩ v'):=by
 have hne:v'.ownBlock≠some p:=λe=>by
  rcases hv p e with q|q
  ·exact h.apart q
  ·have:=h.lt;omega
 have hc:w'.cell? ⟨p,o,none⟩=some v:=by rw[hb.cell (p:=⟨p,o,none⟩) h.lt h.apart];exact h.cell
 refine⟨⟨ajL _ _ _ hc,?_,h.base,?_,?_,hne⟩,?_⟩
 ·rw[ajt,hb.frozen (p:=⟨p,o,none⟩) h.lt h.apart];exact h.free
 ·have:=hb.size;have:=h.lt;simp[World.setCell];omega
 ·refine ha.bZ (A:=λk=>k=p) (aX.setCell (A:=λk=>k=p) (p:=⟨p,o,none⟩) (aX.refl _ _) (.inl rfl) _) (λg hg e=>?_);subst e;exact hne hg
 ·exact(hb.mono (λk _ q=>.inr q)).setCell (.inl (.inl rfl)) _
theorem fB.number {o:Nat}{w:World}{B p g cap:Nat}{es:List aW}(h:fB o w B p (.slice (some ⟨g,0,none⟩) es.length cap) es){k:Nat}(hk:k<es.length){s:ByteArray}(hs:(en es k).1=s)(n:Int) :
 fB o (w.setCell ⟨g,k*2+1,none⟩ (.int .i64 n)) B p (.slice (some ⟨g,0,none⟩) es.length cap) (es.set k (s,n))/\aX (pJ p (.slice (some ⟨g,0,none⟩) es.length cap)) w (w.setCell ⟨g,k*2+1,none⟩ (.int .i64 n)):=by
 have hgp:g≠p:=λe=>h.apart (by rw[e];rfl)
 have hst:=(alz h.arr (k*2+1) (.int .i64 n)).1;refine⟨⟨?_,?_,h.base,?_,?_,h.apart⟩,?_⟩
 ·rw[aji _ _ _ _ (by simp<;>omega)];exact h.cell
 ·rw[ajt];exact h.free
 ·have:=h.lt;simpa[World.setCell] using this
 ·unfold aS;rw[akq,Yf es k s n hk hs];exact hst
 ·exact(aX.refl _ _).setCell (.inl (.inr rfl)) _
end Go.Proofs.YtidekgipblnpkaaGreatDoor
namespace Go.Proofs.YtidekgipblnpkaaGreatDoor.Dk
open Go.RowKit Go.Proofs.Tryz
structure lV (SH:World->Nat->Nat->(Nat->Prop)->aJ->Prop):Prop where
 own:∀{w B q F s},SH w B q F s->∀k,F k->B<=k/\k<w.heap.size
 bZ:∀{w w' B q F s} {A:Nat->Prop},SH w B q F s->aH A w w'->(∀k,F k->¬A k)->SH w' B q F s
 new:∀w:World,Calls prog 112 #[] w λe w'=>∃q F,e=.returned (.pointer (some ⟨q,0,none⟩))/\SH w' w.heap.size q F ⟨[],0⟩/\Below w.heap.size w w'
 apply:∀{w B q F s} (r:Rc),Small r->SH w B q F s->s.Ok->B<=w.heap.size ->
  Calls prog 113 #[.pointer (some ⟨q,0,none⟩),.agg #[.int .i64 r.k,.int .i64 r.q,.int .i64 r.t,.string r.s,.string r.h,.string r.d]] w λe w'=>e=.returned (.int .i64 (bY s r))/\tZ SH w w' B q F (jW s r)
 all:∀{w B q F s},SH w B q F s->s.Ok->B<=w.heap.size ->
  Calls prog 21 #[.pointer (some ⟨q,0,none⟩)] w λe w'=>∃v,e=.returned v/\aT w' w.heap.size v s.l/\Below w.heap.size w w'
 BX:∀{w B q F s},SH w B q F s->s.Ok->B<=w.heap.size ->
  Calls prog 18 #[.pointer (some ⟨q,0,none⟩)] w λe w'=>e=.returned (.agg #[.int .i64 (s.l.length:Int),.int .i64 (bI s.l:Int),.int .i64 (dU s.l),.int .i64 s.last])/\Below w.heap.size w w'
 last:∀{w B q F s} (f:ByteArray),f.size<=140737488355328->SH w B q F s->s.Ok->B<=w.heap.size ->
  Calls prog 44 #[.pointer (some ⟨q,0,none⟩),.string f] w λe w'=>e=.returned (iG f (Ai f s.l))/\Below w.heap.size w w'
 next:∀{w B q F s} (f:ByteArray) (n:Int),f.size<=140737488355328->SH w B q F s->s.Ok->B<=w.heap.size ->
  Calls prog 46 #[.pointer (some ⟨q,0,none⟩),.string f,.int .i64 n] w λe w'=>e=.returned (iG f (rW f s.l n))/\Below w.heap.size w w'
structure Gg (SH:World->Nat->Nat->(Nat->Prop)->aJ->Prop):Prop where
 tries:∀{w B q F s} (r:Rc),Small r->SH w B q F s->s.Ok->B<=w.heap.size ->
  Calls prog 136 #[.pointer (some ⟨q,0,none⟩),.agg #[.int .i64 r.k,.int .i64 r.q,.int .i64 r.t,.string r.s,.string r.h,.string r.d]] w λe w'=>e=.returned (.int .i64 (bY s r))/\Below w.heap.size w w'
 ahQ:∀{w B q F s} (n:Int),SH w B q F s->s.Ok->B<=w.heap.size ->
  Calls prog 42 #[.pointer (some ⟨q,0,none⟩),.int .i64 n] w λe w'=>e=.returned (ZI (Ah s.l n))/\Below w.heap.size w w'
theorem KE:Maps.Keyed prog 9:=Maps.string_keyed underlying9
def kS (s:ByteArray):Lit:=.string s.data.toList
theorem acE {s:ByteArray}(h:s.size<=maxLen):keyOf prog 9 (.string s)=some (kS s):=WideMaps.keyOf_string_mk underlying9 h
theorem RY {a b:ByteArray}(h:a≠b):kS a≠kS b:=λe=>h (by
 unfold kS at e;have:=Lit.string.inj e;apply akQ;exact Array.ext' this)
theorem agx (w:World):(zeroValue 3).run prog w=.ok (.int .i64 0) w:=by kernel_rfl
structure VQ (w:World)(b:Nat)(l:List Rc)(D:DataW Unit):Prop where
 own:w.ownsMap prog 9 (plainElem prog 3) b l.length D
 at':∀s:ByteArray,s.size<=maxLen->D.atKey (kS s) (.lit (.int .i64 0))=.lit (.int .i64 (dQ l s:Int))
 has:∀s:ByteArray,s.size<=maxLen->Maps.has D (kS s)=decide (0<dQ l s)
 size:Maps.size D=dP l
theorem VQ.made (w:World):VQ (w.alloc (.map #[] 0)) w.heap.size [] (.map []):=by
 refine⟨World.ownsMap_made _ _ _ _,λs _=>?_,λs _=>?_,rfl⟩
 ·simp[DataW.atKey,dQ]
 ·simp[Maps.has,dQ]
theorem OG (s:ByteArray):WideAt.IsKeyLit (kS s):=by unfold kS;trivial
theorem VQ.put {w w':World}{b:Nat}{l:List Rc}{D:DataW Unit}(h:VQ w b l D)(r:Rc)(hs:r.s.size<=maxLen)(h':w'.ownsMap prog 9 (plainElem prog 3) b (l.length+1) (D.put (kS r.s) (.lit (.int .i64 ((dQ l r.s:Int)+1))))):VQ w' b (l++[r]) (D.put (kS r.s) (.lit (.int .i64 ((dQ l r.s:Int)+1)))):=by
 have hD:=h.own.tidy KE;refine⟨by rw[ajh,akX];exact h',λs hz=>?_,λs hz=>?_,?_⟩
 ·rw[eU,pI];by_cases e:r.s=s
  ·rw[if_pos e,<-e,Maps.atKey_put_same hD.isMap (OG _)];simp
  ·rw[if_neg e,Maps.atKey_put_other (RY (λz=>e z.symm)),h.at' s hz];simp
 ·rw[eU,pI];by_cases e:r.s=s
  ·rw[if_pos e,<-e,Maps.has_put_same hD.isMap (OG _)];simp
  ·rw[if_neg e,amH (RY (λz=>e z.symm)),h.has s hz];simp
 ·rw[Maps.size_put hD,h.has _ hs,h.size,mY,nO]
  cases decide (0<dQ l r.s)<;>simp
theorem VQ.drewN {w:World}{b:Nat}{l:List Rc}{D:DataW Unit}(h:VQ w b l D)(n:Nat):VQ (w.drewN n) b l D:=⟨h.own,h.at',h.has,h.size⟩
def qg (w:World)(B c:Nat)(F:Nat->Prop)(s:aJ):Prop :=
 ∃v,(B<=c/\c<w.heap.size)/\w.cell? ⟨c,0,none⟩=some v/\w.cell? ⟨c,1,none⟩=some (.int .i64 s.last)/\w.frozen? ⟨c,0,none⟩=false/\w.frozen? ⟨c,1,none⟩=false/\aT w B v s.l/\v.ownBlock≠some c/\∀k,F k↔k=c\/v.ownBlock=some k
theorem qg.own {w:World}{B c:Nat}{F:Nat->Prop}{s:aJ}(h:qg w B c F s):∀k,F k->B<=k/\k<w.heap.size:=λk hk=>by
 obtain⟨v,h1,_,_,_,_,h6,_,h8⟩:=h;rcases(h8 k).1 hk with y|y
 ·subst y;exact h1
 ·exact ajz h6 k y
theorem qg.bZ {w w':World}{B c:Nat}{F:Nat->Prop}{s:aJ}{A:Nat->Prop}(h:qg w B c F s)(hc:aH A w w')(hn:∀k,F k->¬A k):qg w' B c F s:=by
 obtain⟨v,h1,h2,h3,h4,h5,h6,h7,h8⟩:=h;have hcA:¬A c:=hn c ((h8 c).2 (.inl rfl));exact⟨v,⟨h1.1,ajc h1.2 hc.size⟩,by rw[hc.cell (p:=⟨c,0,none⟩) h1.2 hcA];exact h2,by rw[hc.cell (p:=⟨c,1,none⟩) h1.2 hcA];exact h3,by rw[hc.frozen (p:=⟨c,0,none⟩) h1.2 hcA];exact h4,by rw[hc.frozen (p:=⟨c,1,none⟩) h1.2 hcA];exact h5,h6.bZ hc (λg hg=>hn g ((h8 g).2 (.inr hg))),h7,h8⟩
theorem qg.below {w w':World}{B c:Nat}{F:Nat->Prop}{s:aJ}(h:qg w B c F s)(hb:Below w.heap.size w w'):qg w' B c F s:=h.bZ (A:=λ_=>False) (aH.aA hb) (λ_ _ z=>z)
theorem qg.read {w:World}{B c:Nat}{F:Nat->Prop}{s:aJ}(h:qg w B c F s):∃a cap,w.cell? ⟨c,0,none⟩=some (.slice a s.l.length cap)/\w.cell? ⟨c,1,none⟩=some (.int .i64 s.last)/\s.l.length<=cap/\cap<=maxLen/\vk w a s.l/\c<w.heap.size:=by
 obtain⟨v,h1,h2,h3,_,_,h6,_⟩:=h;obtain⟨a,cap,rfl,x1,x2,x3⟩:=h6.shape;exact⟨a,cap,h2,h3,x1,x2,x3,h1.2⟩
theorem ZJ {l:List Rc}{k:Nat}(h:k<l.length)(n:Int):seqB (l.take (k+1)) n=(seqB (l.take k) n||decide ((rc l k).q=n)):=by
 rw[ajo h,bP h];unfold seqB;rw[List.any_append];simp
end Go.Proofs.YtidekgipblnpkaaGreatDoor.Dk
namespace Go.Proofs.YtidekgipblnpkaaGreatDoor.Dk
open Go Go.Proofs.Tryz
structure Po where
 s:ByteArray
 i:ByteArray
 h:ByteArray
 d:ByteArray
 x:Int
 ro:Int
structure Kn where
 i:ByteArray
 a:Int
 q:Int
structure dW where
 es:List ay
 s:aJ
 ids:List Kn
def pv (p:Pn.cu)(k:Nat):Int:=nth p.v k
def pK (p:Pn.cu)(s:ByteArray):Bool:=p.f.any λf=>mX f s
def mZ (p:Pn.cu)(now:Int)(x:Po):Int :=
 if (dn now 0 1099511627776&&(decide (-1<=x.x)&&dn x.ro 0 2))=false then 1
 else if aG false x.s≠0 then aG false x.s
 else if pK p x.s=false then 10
 else if (decide (256<x.h.size+x.d.size)||((decide (pv p 4≠0)&&decide (pv p 4<((x.h.size+x.d.size:Nat):Int)))||decide (16<x.i.size)))=true then 2
 else 0
def jX (ids:List Kn)(i:ByteArray)(from':Int):Int:=ids.foldl (λq k=>if k.i=i/\from'<=k.a then k.q else q) 0
def lW (l:List Rc)(s:ByteArray):Nat:=l.countP λr=>decide (r.s=s)
def pO (l:List Rc)(s:ByteArray):Int:=((l.find? λr=>decide (r.s=s)).map (·.q)).getD 0
def qm (x:Po):Nat:=x.s.size+x.h.size+x.d.size
def bG (p:Pn.cu)(l:List Rc)(x:Po):Bool:=decide (pv p 3≠0)&&decide (pv p 3<=(lW l x.s:Int))
def bM (p:Pn.cu)(l:List Rc)(x:Po):Bool:=(decide (pv p 0≠0)&&decide (pv p 0<=(l.length:Int)))||(decide (pv p 1≠0)&&decide (pv p 1<((bI l+qm x:Nat):Int)))
def noB:ByteArray:=⟨#[]⟩
def bT (q now:Int):Rc:=⟨2,q,now,noB,noB,noB⟩
def gY (q now:Int)(x:Po):Rc:=⟨1,q,now,x.s,x.h,x.d⟩
def fP (q now:Int)(f:ByteArray):Rc:=⟨3,q,now,f,noB,noB⟩
def Aq (p:Pn.cu)(l:List Rc)(x:Po):Int:=if bG p l x=true then pO l x.s else dU l
def rZ (p:Pn.cu)(m size now:Int)(x:Po):Nat->List ay->aJ->Int×List ay×aJ
 | 0,es,s=>(0,es,s)
 | k+1,es,s=>if (bG p s.l x||bM p s.l x)=false then (0,es,s)
  else if pv p 5=1 then (8,es,s)
  else if iJ es s m size (bT (Aq p s.l x) now)≠0 then (iJ es s m size (bT (Aq p s.l x) now),es,s)
  else rZ p m size now x k (qL es s m size (bT (Aq p s.l x) now)) (lq es s m size (bT (Aq p s.l x) now))
def eY (p:Pn.cu)(m size now:Int)(x:Po)(es:List ay)(s:aJ):Int×List ay×aJ :=
 if pv p 1≠0/\pv p 1<(qm x:Int) then (8,es,s) else rZ p m size now x (s.l.length+1) es s
def nR (x:Po):ByteArray:=if x.ro=1 then x.s else ⟨#[62]⟩
def OH (ids:List Kn)(x:Po)(now q:Int):List Kn:=if x.i.size=0 then ids else ids++[⟨x.i,now,q⟩]
def l9 (m size now:Int)(x:Po)(ids:List Kn)(es:List ay)(s:aJ):(Int×Bool×Int)×dW :=
 if iJ es s m size (gY (s.last+1) now x)≠0 then ((0,false,iJ es s m size (gY (s.last+1) now x)),⟨es,s,ids⟩)
 else if x.ro=0 then ((s.last+1,false,0),⟨qL es s m size (gY (s.last+1) now x),lq es s m size (gY (s.last+1) now x),OH ids x now (s.last+1)⟩)
 else if iJ (qL es s m size (gY (s.last+1) now x)) (lq es s m size (gY (s.last+1) now x)) m size (fP (s.last+1) now (nR x))≠0 then
  ((0,false,iJ (qL es s m size (gY (s.last+1) now x)) (lq es s m size (gY (s.last+1) now x)) m size (fP (s.last+1) now (nR x))),⟨qL es s m size (gY (s.last+1) now x),lq es s m size (gY (s.last+1) now x),OH ids x now (s.last+1)⟩)
 else ((s.last+1,false,0),⟨qL (qL es s m size (gY (s.last+1) now x)) (lq es s m size (gY (s.last+1) now x)) m size (fP (s.last+1) now (nR x)),lq (qL es s m size (gY (s.last+1) now x)) (lq es s m size (gY (s.last+1) now x)) m size (fP (s.last+1) now (nR x)),OH ids x now (s.last+1)⟩)
def jM (p:Pn.cu)(now:Int)(x:Po)(ids:List Kn):Bool:=decide (x.i.size≠0)&&(decide (pv p 7≠0)&&decide (0<jX ids x.i (now-pv p 7)))
def eX (p:Pn.cu)(m size now:Int)(x:Po)(st:dW):(Int×Bool×Int)×dW :=
 if mZ p now x≠0 then ((0,false,mZ p now x),st)
 else if jM p now x st.ids=true then ((jX st.ids x.i (now-pv p 7),true,0),st)
 else if x.x≠-1/\x.x≠st.s.last then ((0,false,9),st)
 else if (eY p m size now x st.es st.s).1≠0 then ((0,false,(eY p m size now x st.es st.s).1),⟨(eY p m size now x st.es st.s).2.1,(eY p m size now x st.es st.s).2.2,st.ids⟩)
 else l9 m size now x st.ids (eY p m size now x st.es st.s).2.1 (eY p m size now x st.es st.s).2.2
def xI (m size:Int)(f:ByteArray)(below:Int)(st:dW):(Int×Int)×dW :=
 if iJ st.es st.s m size (fP below 0 f)≠0 then ((0,iJ st.es st.s m size (fP below 0 f)),st)
 else (((st.s.l.length:Int)-((lq st.es st.s m size (fP below 0 f)).l.length:Int),0),⟨qL st.es st.s m size (fP below 0 f),lq st.es st.s m size (fP below 0 f),st.ids⟩)
def um (l:List Rc)(t:Int):Option Rc:=l.find? λr=>decide (r.t<t)
def wC (p:Pn.cu)(m size now:Int):Nat->Int->List ay->aJ->(Int×Int)×List ay×aJ
 | 0,n,es,s=>((n,0),es,s)
 | k+1,n,es,s=>match um s.l (now-pv p 2) with
  | none=>((n,0),es,s)
  | some r=>if iJ es s m size (bT r.q now)≠0 then ((n,iJ es s m size (bT r.q now)),es,s)
   else wC p m size now k (n+1) (qL es s m size (bT r.q now)) (lq es s m size (bT r.q now))
def jc (p:Pn.cu)(m size now:Int)(st:dW):(Int×Int)×dW :=
 if dn now 0 1099511627776=false then ((0,1),st)
 else if pv p 2=0 then ((0,0),st)
 else ((wC p m size now (st.s.l.length+1) 0 st.es st.s).1,⟨(wC p m size now (st.s.l.length+1) 0 st.es st.s).2.1,(wC p m size now (st.s.l.length+1) 0 st.es st.s).2.2,st.ids⟩)
theorem lS.room {p:Pn.cu}{m size now:Int}{x:Po}:∀(k:Nat) {es:List ay} {s:aJ},lS m es s->lS m (rZ p m size now x k es s).2.1 (rZ p m size now x k es s).2.2
 | 0,_,_,h=>h
 | k+1,es,s,h=>by
  unfold rZ;split
  ·exact h
  ·split
   ·exact h
   ·split
    ·exact h
    ·exact lS.room k (h.did _)
theorem lS.eY {p:Pn.cu}{m size now:Int}{x:Po}{es:List ay}{s:aJ}(h:lS m es s):lS m (eY p m size now x es s).2.1 (eY p m size now x es s).2.2:=by
 unfold Dk.eY;split
 ·exact h
 ·exact lS.room _ h
theorem lS.put {m size now:Int}{x:Po}{ids:List Kn}{es:List ay}{s:aJ}(h:lS m es s):lS m (l9 m size now x ids es s).2.es (l9 m size now x ids es s).2.s:=by
 unfold l9;split
 ·exact h
 ·split
  ·exact h.did _
  ·split
   ·exact h.did _
   ·exact(h.did _).did _
theorem lS.pub {p:Pn.cu}{m size now:Int}{x:Po}{st:dW}(h:lS m st.es st.s):lS m (eX p m size now x st).2.es (eX p m size now x st).2.s:=by
 unfold eX;split
 ·exact h
 ·split
  ·exact h
  ·split
   ·exact h
   ·split
    ·exact h.eY
    ·exact lS.put h.eY
theorem lS.MF {m size:Int}{f:ByteArray}{below:Int}{st:dW}(h:lS m st.es st.s):lS m (xI m size f below st).2.es (xI m size f below st).2.s:=by
 unfold xI;split
 ·exact h
 ·exact h.did _
theorem lS.wC {p:Pn.cu}{m size now:Int}:∀(k:Nat) {n:Int} {es:List ay} {s:aJ},lS m es s->lS m (wC p m size now k n es s).2.1 (wC p m size now k n es s).2.2
 | 0,_,_,_,h=>h
 | k+1,n,es,s,h=>by
  unfold Dk.wC;split
  ·exact h
  ·split
   ·exact h
   ·exact lS.wC k (h.did _)
theorem lS.age {p:Pn.cu}{m size now:Int}{st:dW}(h:lS m st.es st.s):lS m (jc p m size now st).2.es (jc p m size now st).2.s:=by
 unfold jc;split
 ·exact h
 ·split
  ·exact h
  ·exact lS.wC _ h
theorem afp {s:aJ}{q now:Int}(h0:bY s (bT q now)=0):jW s (bT q now)=⟨s.l.filter (λx=>decide (x.q≠q)),s.last⟩:=by
 unfold jW;rw[if_neg (by rw[h0];simp),if_neg (by show ¬(2:Int)=1;decide),if_neg (by show ¬(2:Int)=4;decide)];congr 1
 apply List.filter_congr;intro x _;unfold pF bT;simp
theorem Gh {α:Type}{p:α->Bool}:∀{l:List α},(∃x∈l,p x=false)->(l.filter p).length<l.length
 | [],h=>by obtain⟨x,hx,_⟩:=h;cases hx
 | y::l,h=>by
  have hle:=akB p l;by_cases hy:p y=true
  ·rw[List.filter_cons_of_pos hy,ajB,ajB];obtain⟨x,hx,e⟩:=h;rcases ajT.1 hx with z|z
   ·subst z;rw[hy] at e;cases e
   ·have:=Gh ⟨x,z,e⟩;omega
  ·rw[List.filter_cons_of_neg hy,ajB];omega
theorem ZK {a b:List Rc}(h:a.Sublist b)(s:ByteArray):lW a s<=lW b s:=h.countP_le
theorem OI {es:List ay}{s:aJ}{m size q now:Int}(h0:iJ es s m size (bT q now)=0):lq es s m size (bT q now)=⟨s.l.filter (λx=>decide (x.q≠q)),s.last⟩:=by
 unfold lq;rw[if_pos h0,afp (acu h0).1]
structure afq (p:Pn.cu):Prop where
 pos:∀k,0<=pv p k
theorem uo {p:Pn.cu}(h:Pn.dG p=0):afq p:=by
 obtain⟨_,_,_,_,_,h6⟩:=Pn.tV h;refine⟨λk=>?_⟩;unfold pv nth;have key:∀(v ms:List Int) (k:Nat),Pn.gK v ms=true->0<=(v[k]?).getD 0:=by
  intro v;induction v with
  | nil=>intro ms k _;simp
  | cons y v ih =>
   intro ms k hh
   cases ms with
   | nil=>simp[Pn.gK] at hh
   | cons w ms =>
    simp only[Pn.gK,ajU,ajw] at hh
    cases k with
    | zero=>simpa using hh.1.1
    | succ k=>simpa using ih ms k hh.2
 exact key p.v Pn.dN k h6
theorem afr {l:List Rc}{s:ByteArray}(h:0<lW l s):∃r∈l,r.q=pO l s:=by
 unfold lW at h;obtain⟨r,hr,e⟩:=List.countP_pos_iff.1 h;unfold pO
 cases hf:l.find? (λr=>decide (r.s=s)) with
 | none =>
  have:=akZ.1 hf r hr;exact absurd e this
 | some y=>exact⟨y,aln hf,rfl⟩
theorem RZ {l:List Rc}(h:0<l.length):∃r∈l,r.q=dU l:=by
 cases l with
 | nil=>simp at h
 | cons r l=>exact⟨r,by simp,rfl⟩
theorem ZL {l:List Rc}(h:0<bI l):0<l.length:=by
 cases l with
 | nil=>simp[bI] at h
 | cons r l=>simp
theorem go_in {p:Pn.cu}{l:List Rc}{x:Po}(hp:afq p)(hz:¬(pv p 1≠0/\pv p 1<(qm x:Int)))(h:¬(bG p l x||bM p l x)=false):∃r∈l,r.q=Aq p l x:=by
 unfold Aq;by_cases hc:bG p l x=true
 ·rw[if_pos hc];unfold bG at hc;simp only[ajU,ajw] at hc;have:=hp.pos 3;exact afr (by omega)
 ·rw[if_neg hc];have hc:bG p l x=false:=by simpa using hc
  rw[hc,Bool.false_or] at h;have hf:bM p l x=true:=by simpa using h
  unfold bM at hf;simp only[akP,ajU,ajw] at hf;rcases hf with ⟨a,b⟩|⟨a,b⟩
  ·have:=hp.pos 0;exact RZ (by omega)
  ·have hb:¬pv p 1<(qm x:Int):=λz=>hz ⟨a,z⟩
   exact RZ (ZL (by omega))
structure Bnd (p:Pn.cu)(l:List Rc):Prop where
 msgs:pv p 0≠0->(l.length:Int)<=pv p 0
 bytes:pv p 1≠0->(bI l:Int)<=pv p 1
 per:pv p 3≠0->∀t,(lW l t:Int)<=pv p 3
theorem afs {es:List ay}{s:aJ}{m size q now:Int}{x:Po}(h0:iJ es s m size (gY q now x)=0):lq es s m size (gY q now x)=⟨s.l++[gY q now x],q⟩:=by
 unfold lq jW;rw[if_pos h0,if_neg (by rw[(acu h0).1];simp),if_pos (by rfl)];rfl
theorem xJ {l:List Rc}{i:Nat}(h:i<l.length):l.drop i=rc l i::l.drop (i+1):=by
 rw[ajD h];unfold rc;rw[ajl h];rfl
theorem VR {l:List Rc}{i:Nat}(h:i<l.length)(s:ByteArray):lW (l.drop i) s=lW (l.drop (i+1)) s+(if (rc l i).s=s then 1 else 0):=by
 rw[xJ h];unfold lW;rw[List.countP_cons];by_cases e:(rc l i).s=s<;>simp[e]
theorem Si {l:List Rc}{i:Nat}(h:i<l.length)(s:ByteArray):pO (l.drop i) s=if (rc l i).s=s then (rc l i).q else pO (l.drop (i+1)) s:=by
 rw[xJ h];unfold pO;by_cases e:(rc l i).s=s
 ·rw[List.find?_cons_of_pos (by simpa using e),if_pos e];rfl
 ·rw[List.find?_cons_of_neg (by simpa using e),if_neg e]
theorem Sj {l:List Rc}{i:Nat}(h:i<l.length):dU (l.drop i)=(rc l i).q:=by
 rw[xJ h];rfl
theorem aft {l:List Rc}{t:Int}{k:Nat}(h:k<l.length)(h1:∀j,j<k->¬(rc l j).t<t)(h2:(rc l k).t<t):um l t=some (rc l k):=by
 induction l generalizing k with
 | nil=>simp at h
 | cons r l ih =>
  unfold um
  cases k with
  | zero=>rw[List.find?_cons_of_pos (by simpa[rc] using h2)];rfl
  | succ k =>
   have h0:=h1 0 (by omega);rw[List.find?_cons_of_neg (by simpa[rc] using h0)];exact ih (by simpa using h) (λj hj=>by simpa[rc] using h1 (j+1) (by omega)) (by simpa[rc] using h2)
theorem ZM {l:List Rc}{t:Int}(h:∀j,j<l.length->¬(rc l j).t<t):um l t=none:=by
 unfold um;rw[akZ];intro r hr z;obtain⟨j,hj,e⟩:=aks.1 hr;have:=h j hj;unfold rc at this;rw[ajl hj] at this;rw[<-e] at z;simp at z this;omega
theorem afu (s:ByteArray):Pl.aI s≠[]:=λh=>by
 have:=congrArg List.length h;rw[Pl.aU] at this;have h2:=Pl.vG s.data.toList;exact h2 (ajK.1 (by simpa using this))
theorem afv (s:ByteArray):mX ⟨#[62]⟩ s=true:=by
 unfold mX;rw[ae8.2];exact Zq (by decide +kernel) (afu s)
end Go.Proofs.YtidekgipblnpkaaGreatDoor.Dk
namespace Go.Proofs.YtidekgipblnpkaaGreatDoor
open Go.RowKit Go.Proofs.Tryz
def Jh (p:Pn.cu)(a:Option Addr)(c:Nat):Value:=rU p.n a p.f.length c (Dk.nth p.v 0) (Dk.nth p.v 1) (Dk.nth p.v 2) (Dk.nth p.v 3) (Dk.nth p.v 4) (Dk.nth p.v 5) (Dk.nth p.v 6) (Dk.nth p.v 7)
structure kM (p:Pn.cu):Prop where
 name:p.n.size<=140737488355328
 each:∀k,k<p.f.length->(tk p.f k).size<=140737488355328
 many:p.f.length<=140737488355328
 nums:p.v.length=8
end Go.Proofs.YtidekgipblnpkaaGreatDoor
namespace Go.Proofs.YtidekgipblnpkaaGreatDoor.Dk
open Go.RowKit Go.Proofs.Tryz
abbrev G5 (x:Po):Value:=.agg #[.string x.s,.string x.i,.string x.h,.string x.d,.int .i64 x.x,.int .i64 x.ro]
structure dZ (x:Po):Prop where
 s:x.s.size<=140737488355328
 i:x.i.size<=140737488355328
 h:x.h.size<=140737488355328
 d:x.d.size<=140737488355328
def su:dW:=⟨[],⟨[],0⟩,[]⟩
def uV (RH:World->Nat->Nat->(Nat->Prop)->Pn.cu->Int->Int->dW->Prop)(w w':World)(B p:Nat)(F:Nat->Prop)(P:Pn.cu)(m size:Int)(st:dW):Prop:=∃F',RH w' B p F' P m size st/\aH F w w'/\∀k,F' k->F k\/w.heap.size<=k
structure Fit (P:Pn.cu)(m size:Int)(st:dW):Prop where
 plan:Pn.dG P=0
 rY:lS m st.es st.s
 room:m<=65536
 size:dn size 1 4096=true
 xU:∀k∈st.ids,1<=k.q
structure gQ (G:World->Prop)(RH:World->Nat->Nat->(Nat->Prop)->Pn.cu->Int->Int->dW->Prop)(SH:World->Nat->Nat->(Nat->Prop)->aJ->Prop):Prop where
 own:∀{w B p F P m size st},RH w B p F P m size st->∀k,F k->B<=k/\k<w.heap.size
 bZ:∀{w w' B p F P m size st} {A:Nat->Prop},RH w B p F P m size st->aH A w w'->(∀k,F k->¬A k)->RH w' B p F P m size st
 agy:∀(w:World) (P:Pn.cu) (a:Option Addr) (c:Nat) (m size:Int),kM P->nZ w a P.f->P.f.length<=c->G w->Pn.dG P≠0 ->
  Calls prog 9 #[Jh P a c,.int .i64 m,.int .i64 size] w λe w'=>e=.returned (.tuple #[.pointer none,.int .i64 (Pn.dG P)])/\Below w.heap.size w w'
 bad:∀(w:World) (P:Pn.cu) (a:Option Addr) (c:Nat) (m size:Int),kM P->nZ w a P.f->P.f.length<=c->G w->Pn.dG P=0->(dn m 1 65536&&dn size 1 4096)=false ->
  Calls prog 9 #[Jh P a c,.int .i64 m,.int .i64 size] w λe w'=>e=.returned (.tuple #[.pointer none,.int .i64 1])/\Below w.heap.size w w'
 jY:∀(w:World) (P:Pn.cu) (a:Option Addr) (c:Nat) (m size:Int),kM P->nZ w a P.f->P.f.length<=c->G w->Pn.dG P=0->dn m 1 65536=true->dn size 1 4096=true ->
  Calls prog 9 #[Jh P a c,.int .i64 m,.int .i64 size] w λe w'=>∃p F,e=.returned (.tuple #[.pointer (some ⟨p,0,none⟩),.int .i64 0])/\RH w' w.heap.size p F P m size su/\Below w.heap.size w w'
 G6:∀{w B p F P m size st} (now:Int) (x:Po),dZ x->RH w B p F P m size st->Fit P m size st->B<=w.heap.size ->
  Calls prog 19 #[.pointer (some ⟨p,0,none⟩),.int .i64 now,G5 x] w λe w'=>e=.returned (.tuple #[.int .i64 (eX P m size now x st).1.1,.bool (eX P m size now x st).1.2.1,.int .i64 (eX P m size now x st).1.2.2])/\uV RH w w' B p F P m size (eX P m size now x st).2
 store:∀{w B p F P m size st},RH w B p F P m size st->Fit P m size st->B<=w.heap.size ->
  Calls prog 14 #[.pointer (some ⟨p,0,none⟩)] w λe w'=>∃q F0,e=.returned (.pointer (some ⟨q,0,none⟩))/\SH w' B q F0 st.s/\(∀k,F0 k->F k)/\Below w.heap.size w w'
structure uq (RH:World->Nat->Nat->(Nat->Prop)->Pn.cu->Int->Int->dW->Prop):Prop where
 uQ:∀{w B p F P m size st} (keep:Int),RH w B p F P m size st->Fit P m size st->B<=w.heap.size->Calls prog 23 #[.pointer (some ⟨p,0,none⟩),.int .i64 keep] w λe w'=>e=.returned (.tuple #[])/\uV RH w w' B p F P m size ⟨st.es,st.s,[]⟩
 ahR:True
theorem Fit.nil {P:Pn.cu}{m size:Int}(hp:Pn.dG P=0)(hm:dn m 1 65536=true)(hs:dn size 1 4096=true):Fit P m size su:=by
 have hb:1<=m/\m<=65536:=by simpa[dn] using hm
 exact⟨hp,lS.nil (by omega),hb.2,hs,λk hk=>by cases hk⟩
theorem Ar {ids:List Kn}{x:Po}{now q:Int}(h:∀k∈ids,1<=k.q)(hq:1<=q):∀k∈OH ids x now q,1<=k.q:=by
 unfold OH;split
 ·exact h
 ·intro k hk;rcases ajS.1 hk with y|y
  ·exact h k y
  ·rw[akr.1 y];exact hq
theorem afw {m size now:Int}{x:Po}{ids:List Kn}{es:List ay}{s:aJ}(h:∀k∈ids,1<=k.q)(hl:0<=s.last):∀k∈(l9 m size now x ids es s).2.ids,1<=k.q:=by
 unfold l9;split
 ·exact h
 ·split
  ·exact Ar h (by omega)
  ·split
   ·exact Ar h (by omega)
   ·exact Ar h (by omega)
theorem Fit.pub {P:Pn.cu}{m size now:Int}{x:Po}{st:dW}(h:Fit P m size st):Fit P m size (eX P m size now x st).2:=by
 refine⟨h.plan,h.rY.pub,h.room,h.size,?_⟩;unfold eX;split
 ·exact h.xU
 ·split
  ·exact h.xU
  ·split
   ·exact h.xU
   ·split
    ·exact h.xU
    ·exact afw h.xU h.rY.eY.ok.last.1
theorem Fit.stop {P:Pn.cu}{m size:Int}{st:dW}(h:Fit P m size st):Fit P m size ⟨st.es,st.s,[]⟩:=⟨h.plan,h.rY,h.room,h.size,λk hk=>by cases hk⟩
def Ray (RH:World->Nat->Nat->(Nat->Prop)->Pn.cu->Int->Int->dW->Prop)(Cs:Nat->Prop)(w wr:World)(p:Nat)(P:Pn.cu)(m size:Int)(st:dW):Prop :=
 ∃F,RH wr w.heap.size p F P m size st/\Below w.heap.size w wr/\(∀k,Cs k->k<wr.heap.size/\¬F k)/\Fit P m size st
section
variable {G:World->Prop}{RH:World->Nat->Nat->(Nat->Prop)->Pn.cu->Int->Int->dW->Prop}{SH:World->Nat->Nat->(Nat->Prop)->aJ->Prop}{Cs jR:Nat->Prop}{w wr w':World}{p:Nat}{P:Pn.cu}{m size:Int}{st st':dW}
end
structure qP (w:World)(b:Nat)(x:Po):Prop where
 lt:b<w.heap.size
 c0:w.cell? ⟨b,0,none⟩=some (.string x.s)
 c1:w.cell? ⟨b,1,none⟩=some (.string x.i)
 c2:w.cell? ⟨b,2,none⟩=some (.string x.h)
 c3:w.cell? ⟨b,3,none⟩=some (.string x.d)
 c4:w.cell? ⟨b,4,none⟩=some (.int .i64 x.x)
 c5:w.cell? ⟨b,5,none⟩=some (.int .i64 x.ro)
abbrev jq (x:Po):Obj:=.cells #[.string x.s,.string x.i,.string x.h,.string x.d,.int .i64 x.x,.int .i64 x.ro] 48
theorem qP.new (w:World)(x:Po):qP (w.alloc (jq x)) w.heap.size x:=⟨by simp,by simp,by simp,by simp,by simp,by simp,by simp⟩
theorem qP.same {w w':World}{b:Nat}{x:Po}(h:qP w b x)(hs:w.heap.size<=w'.heap.size)(hb:w'.heap[b]?=w.heap[b]?):qP w' b x:=by
 have e:∀j,w'.cell? ⟨b,j,none⟩=w.cell? ⟨b,j,none⟩:=λj=>akD (w:=w) (a:=⟨b,j,none⟩) hb
 exact⟨ajc h.lt hs,by rw[e];exact h.c0,by rw[e];exact h.c1,by rw[e];exact h.c2,by rw[e];exact h.c3,by rw[e];exact h.c4,by rw[e];exact h.c5⟩
theorem qP.below {w w':World}{b:Nat}{x:Po}(h:qP w b x)(hb:Below w.heap.size w w'):qP w' b x:=h.same hb.size (hb.block b h.lt)
theorem qP.stay {Cs:Nat->Prop}{w w':World}{b:Nat}{x:Po}(h:qP w b x)(hs:aO Cs w w')(hb:Cs b):qP w' b x:=h.same hs.1 (hs.2 b hb)
end Go.Proofs.YtidekgipblnpkaaGreatDoor.Dk
namespace Go.Proofs.YtidekgipblnpkaaGreatDoor.Dk
open Go Go.Proofs.Tryz
def Low (es:List ay):Prop:=∀e∈es,0<=e.n/\e.n<(es.length:Int)
end Go.Proofs.YtidekgipblnpkaaGreatDoor.Dk
namespace Go.Proofs.YtidekgipblnpkaaGreatDoor
open Go.RowKit Go.Proofs.Tryz
def kF (w:World)(B:Nat)(v:Value)(l:List ByteArray):Prop:=w.ownsRow B 9 1 v l.length (l.map Value.string)
theorem kF.lit (w:World)(x y:ByteArray):kF (w.alloc (.cells #[.string x,.string y] 9)) w.heap.size (.slice (some ⟨w.heap.size,0,none⟩) 2 2) [x,y]:=World.ownsRow_lit (base:=w.heap.size) (e:=9) (size:=1) w #[.string x,.string y] 2 (Xc _) (by unfold maxLen;omega) (by simp)
theorem kF.below {w w':World}{B:Nat}{v:Value}{l:List ByteArray}(h:kF w B v l)(hb:Below w.heap.size w w'):kF w' B v l:=by
 refine⟨h.1,?_⟩;rcases h.2 with q|⟨g,cap,cur,h1,h2,h3,r⟩
 ·exact .inl q
 ·refine .inr ⟨g,cap,cur,h1,h2,?_,r⟩;rw[hb.block g (ajz h g (by rw[h1];rfl)).2];exact h3
theorem acF {w wr:World}{B:Nat}{v:Value}{l:List ByteArray}(h:kF wr B v l)(hb:Below B w wr)(t:ByteArray)(hl:l.length<=200000)(hB:B<=wr.heap.size) :
 ∃v8 w8,(Builtin.append_ #[22,22] 22 #[v,.slice (some ⟨wr.heap.size,0,none⟩) 1 1]).run prog (wr.alloc (.cells #[.string t] 9))=.ok v8 w8/\kF w8 B v8 (l++[t])/\Below B w w8:=by
 have hb7:Below wr.heap.size wr (wr.alloc (.cells #[.string t] 9)):=(ajb _ _).alloc (Xc _) _;have h7:=h.below hb7;obtain⟨i0,hi,hz0,hz1,hz2⟩:=akJ XZ;obtain⟨v',w',hr,h2,h3,h4⟩:=amN (P:=prog) (wr.alloc (.cells #[.string t] 9)) B 22 22 9 i0 (.string ByteArray.empty) 1 16 underlying22 hi hz0 hz1 hz2 rfl (by omega) v l.length (l.map Value.string) h7 ⟨wr.heap.size,0,none⟩ 1 1 [.string t] rfl (ou _ _ _) (one_cell _) (by unfold maxLen;omega) (by omega) (aje hB hb7.size);refine⟨v',w',hr,?_,?_⟩
 ·unfold kF;rw[ajh,aki];exact h2
 ·refine(hb.trans (hb7.mono hB)).grown h3 (aje hB hb7.size) ?_;intro j hj;exact(ajz h j hj).1
theorem kF.sl {w:World}{B:Nat}{v:Value}{l:List ByteArray}(h:kF w B v l)(h0:0<l.length):∃g cap,v=.slice (some ⟨g,0,none⟩) l.length cap/\l.length<=cap/\nZ w (some ⟨g,0,none⟩) l:=by
 obtain⟨n,hn⟩:∃n,l.length=n+1:=⟨l.length-1,by omega⟩;have h':=h;unfold kF at h';rw[hn] at h';obtain⟨g,cap,rfl⟩:=yS h';refine⟨g,cap,by rw[hn],?_,λk hk=>⟨g,0,rfl,(ajz h' g rfl).2,?_⟩⟩
 ·rcases h'.2 with ⟨e,_⟩|⟨g',cap',cur,e,_,_,hn',_⟩
  ·simp at e
  ·simp only[akM] at e;omega
 ·rw[ajv,ajH h' k (by omega),akK,ajl hk];unfold tk;rw[ajl hk];rfl
theorem kF.bZ {A:Nat->Prop}{w w':World}{B:Nat}{v:Value}{l:List ByteArray}(h:kF w B v l)(hc:Dk.aH A w w')(hn:∀g,B<=g->¬A g):kF w' B v l:=by
 refine⟨h.1,?_⟩;rcases h.2 with q|⟨g,cap,cur,h1,h2,h3,r⟩
 ·exact .inl q
 ·refine .inr ⟨g,cap,cur,h1,h2,?_,r⟩;have hg:=ajz h g (by rw[h1];rfl);rw[hc.block g hg.2 (hn g hg.1)];exact h3
theorem kF.nil (w:World)(B:Nat):kF w B (.slice none 0 0) []:=⟨by simp,.inl ⟨rfl,rfl⟩⟩
theorem kF.shape {w:World}{B:Nat}{v:Value}{l:List ByteArray}(h:kF w B v l):∃a c,v=.slice a l.length c/\l.length<=c/\nZ w a l:=by
 by_cases h0:0<l.length
 ·obtain⟨g,cap,e,hc,hs⟩:=h.sl h0;exact⟨_,cap,e,hc,hs⟩
 ·have hl:l=[]:=ajK.1 (by omega);subst hl;rcases h.2 with ⟨e,_⟩|⟨g,cap,cur,h1,h2,h3,r⟩
  ·exact⟨none,0,e,Xc _,λk hk=>by simp at hk⟩
  ·exact⟨_,cap,h1,by simp,λk hk=>by simp at hk⟩
end Go.Proofs.YtidekgipblnpkaaGreatDoor
