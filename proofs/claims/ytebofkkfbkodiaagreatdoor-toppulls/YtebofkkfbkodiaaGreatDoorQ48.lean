/- A part. -/
import Derived.Test.YtebofkkfbkodiaaGreatDoorQ22
import Derived.Test.YtebofkkfbkodiaaGreatDoorQ26
import Derived.Test.YtebofkkfbkodiaaGreatDoorQ43
set_option maxRecDepth 100000
set_option maxHeartbeats 8000000
namespace Go.Proofs.YtebofkkfbkodiaaGreatDoor
open Go.RowKit Go.Proofs.Tryz
namespace Dk
theorem ZE {v:List Int}(h:v.length=8):v=[nth v 0,nth v 1,nth v 2,nth v 3,nth v 4,nth v 5,nth v 6,nth v 7]:=by
 match v,h with
 | [_,_,_,_,_,_,_,_],_=>rfl
abbrev RJ (P:Pn.aX)(a:Option Addr)(c:Nat):Obj:=.cells #[.string P.n,.slice a P.f.length c,aa (nth P.v 0),aa (nth P.v 1),aa (nth P.v 2),aa (nth P.v 3),aa (nth P.v 4),aa (nth P.v 5),aa (nth P.v 6),aa (nth P.v 7)] 80
theorem yc (P:Pn.aX)(a:Option Addr)(c:Nat)(w:I)(hs:gI P)(hsl:gU w a P.f)(hc:P.f.length<=c)(hG:fK w) :
 Calls prog 87 #[Ba P a c] w λe w'=>e=.returned (aa (Pn.aZ P))/\ai w w':=by
 have h:=CG P.n a P.f c (nth P.v 0) (nth P.v 1) (nth P.v 2) (nth P.v 3) (nth P.v 4) (nth P.v 5) (nth P.v 6) (nth P.v 7) w hs.name hsl hs.each hs.many hc hG;rw[<-ZE hs.nums] at h;exact h
theorem J8 (P:Pn.aX)(a:Option Addr)(c:Nat)(w:I)(hs:gI P)(hsl:gU w a P.f)(hl:P.f.length<=100) :
 Calls prog 63 #[Ba P a c] w λe w'=>∃a' c',e=.returned (Ba P a' c')/\jK w' w.heap.size (.slice a' P.f.length c') P.f/\ai w w' :=
 YK P.n a P.f c (nth P.v 0) (nth P.v 1) (nth P.v 2) (nth P.v 3) (nth P.v 4) (nth P.v 5) (nth P.v 6) (nth P.v 7) w hs.name hsl hs.each hl
abbrev MX (b:Nat)(P:Pn.aX)(a:Option Addr)(c:Nat)(v q g k:Nat)(size:Int)(w:I):Prop :=
 (w.cell? (aq b 0)=some (.string P.n)/\w.cell? (aq b 1)=some (.slice a P.f.length c)/\w.cell? (aq b 2)=some (aa (nth P.v 0))/\w.cell? (aq b 3)=some (aa (nth P.v 1))/\w.cell? (aq b 4)=some (aa (nth P.v 2))/\w.cell? (aq b 5)=some (aa (nth P.v 3))/\w.cell? (aq b 6)=some (aa (nth P.v 4))/\w.cell? (aq b 7)=some (aa (nth P.v 5))/\w.cell? (aq b 8)=some (aa (nth P.v 6))/\w.cell? (aq b 9)=some (aa (nth P.v 7))) /\
 w.cell? (aq v 0)=some (ae q)/\w.cell? (aq v 1)=some (aa size)/\w.cell? (aq v 2)=some (ae g)/\w.cell? (aq v 3)=some (ae k)
theorem ahS {b:Nat}{P:Pn.aX}{a:Option Addr}{c v q g k:Nat}{size:Int}{w:I}(h:YO w b P a c)(h0:w.cell? (aq v 0)=some (ae q))(h1:w.cell? (aq v 1)=some (aa size))(h2:w.cell? (aq v 2)=some (ae g))(h3:w.cell? (aq v 3)=some (ae k)):MX b P a c v q g k size w:=⟨⟨h.c0,h.c1,h.c2,h.c3,h.c4,h.c5,h.c6,h.c7,h.c8,h.c9⟩,h0,h1,h2,h3⟩
theorem MX.alloc {b:Nat}{P:Pn.aX}{a:Option Addr}{c v q g k:Nat}{size:Int}{w:I}{o:Obj}(h:MX b P a c v q g k size w)(hb:b<w.heap.size)(hv:v<w.heap.size):MX b P a c v q g k size (w.alloc o):=by
 have e:∀i,(w.alloc o).cell? (aq b i)=w.cell? (aq b i):=λi=>alO _ _ _ hb
 have f:∀i,(w.alloc o).cell? (aq v i)=w.cell? (aq v i):=λi=>alO _ _ _ hv
 unfold MX;rw[e,e,e,e,e,e,e,e,e,e,f,f,f,f];exact h
section
variable {Has:I->Nat->Nat->af->Int->List aB->Prop}{SH:I->Nat->Nat->af->aH->Prop}{w W:I}{B x v q g k:Nat}{FL G:af}{a:Option Addr}{c:Nat}{P:Pn.aX}{m size:Int}
theorem agU (U:Af Has SH)(hs:gI P)(hB:B<=W.heap.size)(hv:Va Has SH W B v 0 q g k FL G m size [] ⟨[],0⟩)(ht:jK W B (.slice a P.f.length c) P.f)(hn:∀z,a=some z->¬vaF v FL G z.block/\z.block<W.heap.size) :
 Qv Has SH (W.alloc (.cells #[.string P.n,.slice a P.f.length c,aa (nth P.v 0),aa (nth P.v 1),aa (nth P.v 2),aa (nth P.v 3),aa (nth P.v 4),aa (nth P.v 5),aa (nth P.v 6),aa (nth P.v 7),ae q,aa size,ae g,ae k,.map none] 135)) B W.heap.size (vaF W.heap.size FL G) a c none P m size kG:=by
 obtain⟨o,ho⟩:∃o,o=Obj.cells #[.string P.n,.slice a P.f.length c,aa (nth P.v 0),aa (nth P.v 1),aa (nth P.v 2),aa (nth P.v 3),aa (nth P.v 4),aa (nth P.v 5),aa (nth P.v 6),aa (nth P.v 7),ae q,aa size,ae g,ae k,.map none] 135:=⟨_,rfl⟩;have bb:ai W (W.alloc o):=ax _ _;have hsz:(W.alloc o).heap.size=W.heap.size+1:=by simp
 have hnew:∀j u,#[Value.string P.n,.slice a P.f.length c,aa (nth P.v 0),aa (nth P.v 1),aa (nth P.v 2),aa (nth P.v 3),aa (nth P.v 4),aa (nth P.v 5),aa (nth P.v 6),aa (nth P.v 7),ae q,aa size,ae g,ae k,.map none][j]?=some u->(W.alloc o).cell? (aq W.heap.size j)=some u:=λj u hu=>by
  rw[ho];exact(aky _ W.heap.size j _ _ _ (akv W _)).trans hu
 have hfr:∀j,(W.alloc o).frozen? (aq W.heap.size j)=false:=λj=>by
  rw[ho];exact akp _ _ _ j
 have hv':=hv.below U.H U.S bb;have hlo:∀i,vaF v FL G i->i<W.heap.size:=λi hi=>(hv.own U.H U.S i hi).2
 rw[<-ho];obtain⟨a',c',hac,hcap,hsl⟩:=(ht.below bb).shape;have ahT:=akE hac;have ea:a'=a:=ahT.1.symm;have ec:c'=c:=ahT.2.2.symm;subst ea ec;have e:jA P kG.ids=[]:=by unfold jA kG;split<;>rfl
 have hvh:ql Has SH 10 (W.alloc o) B W.heap.size (vaF W.heap.size FL G) m size kG.es kG.s:=⟨q,g,k,FL,G,⟨hv'.log,hv'.zx,hB,by omega,hnew 10 _ rfl,hnew 11 _ rfl,hnew 12 _ rfl,hnew 13 _ rfl,hfr,hv'.ap,(λz=>by have:=hlo _ (.inr (.inl z));omega),(λz=>by have:=hlo _ (.inr (.inr z));omega)⟩,λ_=>alJ⟩;refine⟨hvh,⟨by omega,hnew 0 _ rfl,hnew 1 _ rfl,hnew 2 _ rfl,hnew 3 _ rfl,hnew 4 _ rfl,hnew 5 _ rfl,hnew 6 _ rfl,hnew 7 _ rfl,hnew 8 _ rfl,hnew 9 _ rfl⟩,hnew 14 _ rfl,hsl,λz hz=>⟨?_,?_,λy=>?_⟩,hcap,by rw[e];exact sS.none _,λb hb=>(by cases hb),by rw[e];exact sD.nil,?_,hs⟩
 ·exact(aks ht z.block (by rw[hz];rfl)).1
 ·have:=(hn z hz).2;omega
 ·rcases y with y|y
  ·have:=(hn z hz).2;omega
  ·exact(hn z hz).1 (.inr y)
 ·show((0:Nat):Int)<=0;simp
end
section
variable {Has:I->Nat->Nat->af->Int->List aB->Prop}{SH:I->Nat->Nat->af->aH->Prop}
theorem U2 (w:I)(P:Pn.aX)(a:Option Addr)(c:Nat)(m size:Int)(hs:gI P)(hsl:gU w a P.f)(hc:P.f.length<=c)(hG:fK w)(hp:Pn.aZ P≠0) :
 Calls prog 48 #[Ba P a c,aa m,aa size] w λe w'=>e=.returned (.tuple #[.pointer none,aa (Pn.aZ P)])/\ai w w':=by
 have b0:ai w (w.alloc (RJ P a c)):=ax _ _;have P1:=aj (yc P a c (w.alloc (RJ P a c)) hs (hsl.next b0) hc (hG.next b0));obtain⟨_,c0,c1,c2,c3,c4,c5,c6,c7,c8,c9⟩:=PB.new w P.n a P.f.length c (nth P.v 0) (nth P.v 1) (nth P.v 2) (nth P.v 3) (nth P.v 4) (nth P.v 5) (nth P.v 6) (nth P.v 7) 80;have B0:=aj b0;unfold Ba at P1 ⊢;generalize Pn.aZ P=E at *;have e5:(E !=0)=true:=by simpa using hp
 clear hs hsl hc hG hp b0;go_enter func48,ntmps48;go_wp2_with fail;refine(ah P1).mono ?_;rintro e w1 ⟨rfl,b1⟩;have B1:=aj (ak (ah B0) b1);clear P1 b1 c0 c1 c2 c3 c4 c5 c6 c7 c8 c9;go_wp2_with fail;go_ret2;exact⟨rfl,ah B1⟩
theorem ads (N:Xt Has)(w:I)(P:Pn.aX)(a:Option Addr)(c:Nat)(m size:Int)(hs:gI P)(hsl:gU w a P.f)(hc:P.f.length<=c)(hG:fK w)(hp:Pn.aZ P=0)(hb:(eX m 1 65536&&eX size 1 4096)=false) :
 Calls prog 48 #[Ba P a c,aa m,aa size] w λe w'=>e=.returned (.tuple #[.pointer none,aa 1])/\ai w w':=by
 have b0:ai w (w.alloc (RJ P a c)):=ax _ _;have P1:=aj (yc P a c (w.alloc (RJ P a c)) hs (hsl.next b0) hc (hG.next b0));have P2:=aj (λW=>acG N W m size hb);obtain⟨_,c0,c1,c2,c3,c4,c5,c6,c7,c8,c9⟩:=PB.new w P.n a P.f.length c (nth P.v 0) (nth P.v 1) (nth P.v 2) (nth P.v 3) (nth P.v 4) (nth P.v 5) (nth P.v 6) (nth P.v 7) 80;have B0:=aj b0;unfold Ba at P1 ⊢;rw[hp] at P1;clear hs hsl hc hG hp hb b0;go_enter func48,ntmps48;go_wp2_with fail;refine(ah P1).mono ?_;rintro e w1 ⟨rfl,b1⟩;have B1:=aj (ak (ah B0) b1)
 clear P1 b1 c0 c1 c2 c3 c4 c5 c6 c7 c8 c9;go_wp2_with fail;refine(ah P2 _).mono ?_;rintro e w2 ⟨rfl,b2⟩;have B2:=aj (ak (ah B1) b2);clear P2 b2;go_wp2_with fail;go_ret2;exact⟨rfl,ah B2⟩
theorem ZF (U:Af Has SH)(N:Xt Has)(w:I)(P:Pn.aX)(a:Option Addr)(c:Nat)(m size:Int)(hs:gI P)(hsl:gU w a P.f)(hc:P.f.length<=c)(hG:fK w)(hp:Pn.aZ P=0)(hm:eX m 1 65536=true)(hz:eX size 1 4096=true) :
 Calls prog 48 #[Ba P a c,aa m,aa size] w λe w'=>∃p F B0,e=.returned (.tuple #[ae p,aa 0])/\(w.heap.size<=B0/\B0<=w'.heap.size/\Qw Has SH w' B0 p F P m size kG)/\ai w w':=by
 have b0:ai w (w.alloc (RJ P a c)):=ax _ _;have P1:=aj (yc P a c (w.alloc (RJ P a c)) hs (hsl.next b0) hc (hG.next b0));have P2:=aj (λW=>Zd U.H N U.L U.S W m size hm hz);have hl:P.f.length<=100:=by
  have:=(Pn.kU hp).2.1;omega
 have pb:=PB.new w P.n a P.f.length c (nth P.v 0) (nth P.v 1) (nth P.v 2) (nth P.v 3) (nth P.v 4) (nth P.v 5) (nth P.v 6) (nth P.v 7) 80;have HP:Hid (∀W,Below (w.alloc (RJ P a c)).heap.size (w.alloc (RJ P a c)) W->YO W w.heap.size P a c/\gU W a P.f/\ai w W):=aj (λW hW=>⟨pb.next hW,(hsl.next b0).next hW,ak b0 hW⟩);have PC:=aj (λ(W:I) (h:gU W a P.f)=>J8 P a c W hs h hl);obtain⟨_,c0,c1,c2,c3,c4,c5,c6,c7,c8,c9⟩:=pb;have HS:=aj hs;rw[hp] at P1;unfold Ba at P1 PC ⊢;clear hs hsl hc hG hp hm hz b0;go_enter func48,ntmps48;go_wp2_with fail;refine(ah P1).mono ?_
 rintro e w1 ⟨rfl,b1⟩;have B1:=aj b1;clear P1 b1 c0 c1 c2 c3 c4 c5 c6 c7 c8 c9;go_wp2_with fail;refine(ah P2 w1).mono ?_;rintro e w2 ⟨v,F,rfl,⟨q,g,k,FL,G,hv,hF⟩,b2⟩;have B2:=aj (ak (ah B1) b2);have hd:ai w2 w2.drew:=(agP _ _).drew;have B3:=aj (ak (ah B2) hd);obtain⟨p3,s3,_⟩:=ah HP _ (ah B3);have V3:=aj (hv.below U.H U.S hd);have k3:MX w.heap.size P a c v q g k size w2.drew:=ahS p3 (ah V3).c0 (ah V3).c1 (ah V3).c2 (ah V3).c3;have P3:=aj (ah PC _ s3);have aiN:=b2.size;have hvl:=hv.lt;clear P2 b2 hd p3 s3 hv hF PC;go_wp2_with fail
 go_region_held3 (MX w.heap.size P a c v q g k size) (first|with_reducible assumption|exact MX.alloc k4 h4a h4b)
  (first
   | (go_at_call 63;refine(ah P3).mono ?_;rintro e w4 ⟨a4,c4,rfl,t4,b4⟩;have B4:=aj (ak (ah B3) b4);have V4:=aj ((ah V3).below U.H U.S b4);have k4:MX w.heap.size P a c v q g k size w4:=ahS (ah HP _ (ah B4)).1 (ah V4).c0 (ah V4).c1 (ah V4).c2 (ah V4).c3;have T4:=aj t4;have BB4:=aj b4;have h4a:w.heap.size<w4.heap.size:=(ah HP _ (ah B4)).1.lt;have h4b:v<w4.heap.size:=(ah V4).lt;clear t4 b4))
 have hle:w1.heap.size<=w2.drew.heap.size:=aiN;have hl4:=(ah BB4).size;have ht:=ah T4;have sm:=agU U (ah HS) (B:=w1.heap.size) (ajA hle hl4) (ah V4) (Qq ht hle) (λz hz=>by
  have h1:=aks ht z.block (by rw[hz];rfl);refine⟨λy=>?_,h1.2⟩;have h2:=((ah V3).own U.H U.S _ y).2;omega)
 have HE:=aj (show ∃F,Qw Has SH _ w1.heap.size w4.heap.size F P m size kG from⟨_,_,a4,c4,none,sm,λk=>alJ⟩);have HB:=aj (ak (ah HP _ (ah B4)).2.2 ((agP w4.heap.size w4).alloc (agH _) (.cells #[.string P.n,.slice a4 P.f.length c4,aa (nth P.v 0),aa (nth P.v 1),aa (nth P.v 2),aa (nth P.v 3),aa (nth P.v 4),aa (nth P.v 5),aa (nth P.v 6),aa (nth P.v 7),ae q,aa size,ae g,ae k,.map none] 135)));have HL:=aj (show w.heap.size<=w1.heap.size/\w1.heap.size<=w4.heap.size+1 from⟨(ah HP _ (ah B1)).2.2.size,by omega⟩)
 clear k3 k4 P3 V3 V4 T4 BB4 hle hl4 ht sm h4a h4b;go_wp2_with fail;go_ret2;obtain⟨F5,h5⟩:=ah HE;exact⟨w4.heap.size,F5,w1.heap.size,rfl,⟨(ah HL).1,by simpa using (ah HL).2,h5⟩,ah HB⟩
end
