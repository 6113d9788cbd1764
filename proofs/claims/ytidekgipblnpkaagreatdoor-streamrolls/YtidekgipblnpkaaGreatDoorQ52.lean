/- A part of the proof. -/
import Derived.Test.YtidekgipblnpkaaGreatDoorQ16
import Derived.Test.YtidekgipblnpkaaGreatDoorQ37
import Derived.Test.YtidekgipblnpkaaGreatDoorQ51
set_option maxRecDepth 100000
set_option maxHeartbeats 8000000
namespace Go.Proofs.YtidekgipblnpkaaGreatDoor.Dk
open Go.RowKit Go.Proofs.Tryz
theorem abN {v:List Int}(h:v.length=8):v=[nth v 0,nth v 1,nth v 2,nth v 3,nth v 4,nth v 5,nth v 6,nth v 7]:=by
 match v,h with
 | [_,_,_,_,_,_,_,_],_=>rfl
abbrev plO (P:Pn.aU)(a:Option Addr)(c:Nat):Obj:=.cells #[.string P.n,.slice a P.f.length c,.int .i64 (nth P.v 0),.int .i64 (nth P.v 1),.int .i64 (nth P.v 2),.int .i64 (nth P.v 3),.int .i64 (nth P.v 4),.int .i64 (nth P.v 5),.int .i64 (nth P.v 6),.int .i64 (nth P.v 7)] 24
theorem zu (P:Pn.aU)(a:Option Addr)(c:Nat)(w:World)(hs:iE P)(hsl:jW w a P.f)(hc:P.f.length<=c)(hG:oz w) :
 Calls prog 24 #[qQ P a c] w λe w'=>e=.returned (.int .i64 (Pn.bG P))/\Below w.heap.size w w':=by
 have h:=Uc P.n a P.f c (nth P.v 0) (nth P.v 1) (nth P.v 2) (nth P.v 3) (nth P.v 4) (nth P.v 5) (nth P.v 6) (nth P.v 7) w hs.name hsl hs.each hs.many hc hG;rw[<-abN hs.nums] at h;exact h
theorem OB (P:Pn.aU)(a:Option Addr)(c:Nat)(w:World)(hs:iE P)(hsl:jW w a P.f)(hl:P.f.length<=100) :
 Calls prog 26 #[qQ P a c] w λe w'=>∃a' c',e=.returned (qQ P a' c')/\kV w' w.heap.size (.slice a' P.f.length c') P.f/\Below w.heap.size w w' :=
 abM P.n a P.f c (nth P.v 0) (nth P.v 1) (nth P.v 2) (nth P.v 3) (nth P.v 4) (nth P.v 5) (nth P.v 6) (nth P.v 7) w hs.name hsl hs.each hl
abbrev QE (b:Nat)(P:Pn.aU)(a:Option Addr)(c:Nat)(v q g k:Nat)(size:Int)(w:World):Prop :=
 (w.cell? ⟨b,0,none⟩=some (.string P.n)/\w.cell? ⟨b,1,none⟩=some (.slice a P.f.length c)/\w.cell? ⟨b,2,none⟩=some (.int .i64 (nth P.v 0))/\w.cell? ⟨b,3,none⟩=some (.int .i64 (nth P.v 1))/\w.cell? ⟨b,4,none⟩=some (.int .i64 (nth P.v 2))/\w.cell? ⟨b,5,none⟩=some (.int .i64 (nth P.v 3))/\w.cell? ⟨b,6,none⟩=some (.int .i64 (nth P.v 4))/\w.cell? ⟨b,7,none⟩=some (.int .i64 (nth P.v 5))/\w.cell? ⟨b,8,none⟩=some (.int .i64 (nth P.v 6))/\w.cell? ⟨b,9,none⟩=some (.int .i64 (nth P.v 7))) /\
 w.cell? ⟨v,0,none⟩=some (.pointer (some ⟨q,0,none⟩))/\w.cell? ⟨v,1,none⟩=some (.int .i64 size)/\w.cell? ⟨v,2,none⟩=some (.pointer (some ⟨g,0,none⟩))/\w.cell? ⟨v,3,none⟩=some (.pointer (some ⟨k,0,none⟩))
theorem ajA {b:Nat}{P:Pn.aU}{a:Option Addr}{c v q g k:Nat}{size:Int}{w:World}(h:PBx w b P a c)(h0:w.cell? ⟨v,0,none⟩=some (.pointer (some ⟨q,0,none⟩)))(h1:w.cell? ⟨v,1,none⟩=some (.int .i64 size))(h2:w.cell? ⟨v,2,none⟩=some (.pointer (some ⟨g,0,none⟩)))(h3:w.cell? ⟨v,3,none⟩=some (.pointer (some ⟨k,0,none⟩))):QE b P a c v q g k size w:=⟨⟨h.c0,h.c1,h.c2,h.c3,h.c4,h.c5,h.c6,h.c7,h.c8,h.c9⟩,h0,h1,h2,h3⟩
theorem QE.alloc {b:Nat}{P:Pn.aU}{a:Option Addr}{c v q g k:Nat}{size:Int}{w:World}{o:Obj}(h:QE b P a c v q g k size w)(hb:b<w.heap.size)(hv:v<w.heap.size):QE b P a c v q g k size (w.alloc o):=by
 have e:∀i,(w.alloc o).cell? ⟨b,i,none⟩=w.cell? ⟨b,i,none⟩:=λi=>World.cell?_alloc_past _ _ _ hb
 have f:∀i,(w.alloc o).cell? ⟨v,i,none⟩=w.cell? ⟨v,i,none⟩:=λi=>World.cell?_alloc_past _ _ _ hv
 unfold QE;rw[e,e,e,e,e,e,e,e,e,e,f,f,f,f];exact h
section
variable {Has:World->Nat->Nat->(Nat->Prop)->Int->List ay->Prop}{SH:World->Nat->Nat->(Nat->Prop)->aG->Prop}{w W:World}{B x v q g k:Nat}{FL G:Nat->Prop}{a:Option Addr}{c:Nat}{P:Pn.aU}{m size:Int}
theorem aiM (U:tu Has SH)(hs:iE P)(hB:B<=W.heap.size)(hv:Va Has SH W B v 0 q g k FL G m size [] ⟨[],0⟩)(ht:kV W B (.slice a P.f.length c) P.f)(hn:∀z,a=some z->¬vaF v FL G z.block/\z.block<W.heap.size) :
 Uh Has SH (W.alloc (.cells #[.string P.n,.slice a P.f.length c,.int .i64 (nth P.v 0),.int .i64 (nth P.v 1),.int .i64 (nth P.v 2),.int .i64 (nth P.v 3),.int .i64 (nth P.v 4),.int .i64 (nth P.v 5),.int .i64 (nth P.v 6),.int .i64 (nth P.v 7),.pointer (some ⟨q,0,none⟩),.int .i64 size,.pointer (some ⟨g,0,none⟩),.pointer (some ⟨k,0,none⟩),.map none] 88)) B W.heap.size (vaF W.heap.size FL G) a c none P m size iK:=by
 obtain⟨o,ho⟩:∃o,o=Obj.cells #[.string P.n,.slice a P.f.length c,.int .i64 (nth P.v 0),.int .i64 (nth P.v 1),.int .i64 (nth P.v 2),.int .i64 (nth P.v 3),.int .i64 (nth P.v 4),.int .i64 (nth P.v 5),.int .i64 (nth P.v 6),.int .i64 (nth P.v 7),.pointer (some ⟨q,0,none⟩),.int .i64 size,.pointer (some ⟨g,0,none⟩),.pointer (some ⟨k,0,none⟩),.map none] 88:=⟨_,rfl⟩;have bb:Below W.heap.size W (W.alloc o):=(Below.refl _ _).alloc (Nat.le_refl _) _;have hsz:(W.alloc o).heap.size=W.heap.size+1:=by simp
 have hnew:∀j u,#[Value.string P.n,.slice a P.f.length c,.int .i64 (nth P.v 0),.int .i64 (nth P.v 1),.int .i64 (nth P.v 2),.int .i64 (nth P.v 3),.int .i64 (nth P.v 4),.int .i64 (nth P.v 5),.int .i64 (nth P.v 6),.int .i64 (nth P.v 7),.pointer (some ⟨q,0,none⟩),.int .i64 size,.pointer (some ⟨g,0,none⟩),.pointer (some ⟨k,0,none⟩),.map none][j]?=some u->(W.alloc o).cell? ⟨W.heap.size,j,none⟩=some u:=λj u hu=>by
  rw[ho];exact(cell_of_row _ W.heap.size j _ _ _ (heap_alloc_new W _)).trans hu
 have hfr:∀j,(W.alloc o).frozen? ⟨W.heap.size,j,none⟩=false:=λj=>by
  rw[ho];exact World.frozen?_alloc_new _ _ _ j
 have hv':=hv.below U.H U.S bb;have hlo:∀i,vaF v FL G i->i<W.heap.size:=λi hi=>(hv.own U.H U.S i hi).2
 rw[<-ho];obtain⟨a',c',hac,hcap,hsl⟩:=(ht.below bb).shape;have ajB:=Value.slice.inj hac;have ea:a'=a:=ajB.1.symm;have ec:c'=c:=ajB.2.2.symm;subst ea ec;have e:jV P iK.ids=[]:=by unfold jV iK;split<;>rfl
 have hvh:qy Has SH 10 (W.alloc o) B W.heap.size (vaF W.heap.size FL G) m size iK.es iK.s:=⟨q,g,k,FL,G,⟨hv'.log,hv'.kH,hB,by omega,hnew 10 _ rfl,hnew 11 _ rfl,hnew 12 _ rfl,hnew 13 _ rfl,hfr,hv'.ap,(λz=>by have:=hlo _ (.inr (.inl z));omega),(λz=>by have:=hlo _ (.inr (.inr z));omega)⟩,λ_=>Iff.rfl⟩;refine⟨hvh,⟨by omega,hnew 0 _ rfl,hnew 1 _ rfl,hnew 2 _ rfl,hnew 3 _ rfl,hnew 4 _ rfl,hnew 5 _ rfl,hnew 6 _ rfl,hnew 7 _ rfl,hnew 8 _ rfl,hnew 9 _ rfl⟩,hnew 14 _ rfl,hsl,λz hz=>⟨?_,?_,λy=>?_⟩,hcap,by rw[e];exact rO.none _,λb hb=>(by cases hb),by rw[e];exact sW.nil,?_,hs⟩
 ·exact(World.ownsRow.lt ht z.block (by rw[hz];rfl)).1
 ·have:=(hn z hz).2;omega
 ·rcases y with y|y
  ·have:=(hn z hz).2;omega
  ·exact(hn z hz).1 (.inr y)
 ·show((0:Nat):Int)<=0;simp
end
section
variable {Has:World->Nat->Nat->(Nat->Prop)->Int->List ay->Prop}{SH:World->Nat->Nat->(Nat->Prop)->aG->Prop}
theorem XM (w:World)(P:Pn.aU)(a:Option Addr)(c:Nat)(m size:Int)(hs:iE P)(hsl:jW w a P.f)(hc:P.f.length<=c)(hG:oz w)(hp:Pn.bG P≠0) :
 Calls prog 9 #[qQ P a c,.int .i64 m,.int .i64 size] w λe w'=>e=.returned (.tuple #[.pointer none,.int .i64 (Pn.bG P)])/\Below w.heap.size w w':=by
 have b0:Below w.heap.size w (w.alloc (plO P a c)):=(Below.refl _ _).alloc (Nat.le_refl _) _;have P1:=aj (zu P a c (w.alloc (plO P a c)) hs (hsl.next b0) hc (hG.next b0));obtain⟨_,c0,c1,c2,c3,c4,c5,c6,c7,c8,c9⟩:=PB.new w P.n a P.f.length c (nth P.v 0) (nth P.v 1) (nth P.v 2) (nth P.v 3) (nth P.v 4) (nth P.v 5) (nth P.v 6) (nth P.v 7) 24;have B0:=aj b0;unfold qQ at P1 ⊢;generalize Pn.bG P=E at *;have e5:(E !=0)=true:=by simpa using hp
 clear hs hsl hc hG hp b0;go_enter func9,ntmps9
 go_wp2_with fail
 refine(ah P1).mono ?_;rintro e w1 ⟨rfl,b1⟩;have B1:=aj (ak (ah B0) b1);clear P1 b1 c0 c1 c2 c3 c4 c5 c6 c7 c8 c9;go_wp2_with fail
 go_ret2
 exact⟨rfl,ah B1⟩
theorem aeS (N:Z8 Has)(w:World)(P:Pn.aU)(a:Option Addr)(c:Nat)(m size:Int)(hs:iE P)(hsl:jW w a P.f)(hc:P.f.length<=c)(hG:oz w)(hp:Pn.bG P=0)(hb:(aY m 1 65536&&aY size 1 4096)=false) :
 Calls prog 9 #[qQ P a c,.int .i64 m,.int .i64 size] w λe w'=>e=.returned (.tuple #[.pointer none,.int .i64 1])/\Below w.heap.size w w':=by
 have b0:Below w.heap.size w (w.alloc (plO P a c)):=(Below.refl _ _).alloc (Nat.le_refl _) _;have P1:=aj (zu P a c (w.alloc (plO P a c)) hs (hsl.next b0) hc (hG.next b0));have P2:=aj (λW=>aeh N W m size hb);obtain⟨_,c0,c1,c2,c3,c4,c5,c6,c7,c8,c9⟩:=PB.new w P.n a P.f.length c (nth P.v 0) (nth P.v 1) (nth P.v 2) (nth P.v 3) (nth P.v 4) (nth P.v 5) (nth P.v 6) (nth P.v 7) 24;have B0:=aj b0;unfold qQ at P1 ⊢;rw[hp] at P1;clear hs hsl hc hG hp hb b0;go_enter func9,ntmps9
 go_wp2_with fail
 refine(ah P1).mono ?_;rintro e w1 ⟨rfl,b1⟩;have B1:=aj (ak (ah B0) b1);clear P1 b1 c0 c1 c2 c3 c4 c5 c6 c7 c8 c9;go_wp2_with fail
 refine(ah P2 _).mono ?_;rintro e w2 ⟨rfl,b2⟩;have B2:=aj (ak (ah B1) b2);clear P2 b2;go_wp2_with fail
 go_ret2
 exact⟨rfl,ah B2⟩
theorem abO (U:tu Has SH)(N:Z8 Has)(w:World)(P:Pn.aU)(a:Option Addr)(c:Nat)(m size:Int)(hs:iE P)(hsl:jW w a P.f)(hc:P.f.length<=c)(hG:oz w)(hp:Pn.bG P=0)(hm:aY m 1 65536=true)(hz:aY size 1 4096=true) :
 Calls prog 9 #[qQ P a c,.int .i64 m,.int .i64 size] w λe w'=>∃p F B0,e=.returned (.tuple #[.pointer (some ⟨p,0,none⟩),.int .i64 0])/\(w.heap.size<=B0/\B0<=w'.heap.size/\Ui Has SH w' B0 p F P m size iK)/\Below w.heap.size w w':=by
 have b0:Below w.heap.size w (w.alloc (plO P a c)):=(Below.refl _ _).alloc (Nat.le_refl _) _;have P1:=aj (zu P a c (w.alloc (plO P a c)) hs (hsl.next b0) hc (hG.next b0));have P2:=aj (λW=>abn U.H N U.L U.S W m size hm hz);have hl:P.f.length<=100:=by
  have:=(Pn.mJ hp).2.1;omega
 have pb:=PB.new w P.n a P.f.length c (nth P.v 0) (nth P.v 1) (nth P.v 2) (nth P.v 3) (nth P.v 4) (nth P.v 5) (nth P.v 6) (nth P.v 7) 24;have HP:Hid (∀W,Below (w.alloc (plO P a c)).heap.size (w.alloc (plO P a c)) W->PBx W w.heap.size P a c/\jW W a P.f/\Below w.heap.size w W):=aj (λW hW=>⟨pb.next hW,(hsl.next b0).next hW,ak b0 hW⟩);have PC:=aj (λ(W:World) (h:jW W a P.f)=>OB P a c W hs h hl);obtain⟨_,c0,c1,c2,c3,c4,c5,c6,c7,c8,c9⟩:=pb;have HS:=aj hs;rw[hp] at P1;unfold qQ at P1 PC ⊢;clear hs hsl hc hG hp hm hz b0;go_enter func9,ntmps9
 go_wp2_with fail
 refine(ah P1).mono ?_;rintro e w1 ⟨rfl,b1⟩;have B1:=aj b1;clear P1 b1 c0 c1 c2 c3 c4 c5 c6 c7 c8 c9;go_wp2_with fail
 refine(ah P2 w1).mono ?_;rintro e w2 ⟨v,F,rfl,⟨q,g,k,FL,G,hv,hF⟩,b2⟩;have B2:=aj (ak (ah B1) b2);have hd:Below w2.heap.size w2 w2.drew:=(Below.refl _ _).drew;have B3:=aj (ak (ah B2) hd);obtain⟨p3,s3,_⟩:=ah HP _ (ah B3);have V3:=aj (hv.below U.H U.S hd);have k3:QE w.heap.size P a c v q g k size w2.drew:=ajA p3 (ah V3).c0 (ah V3).c1 (ah V3).c2 (ah V3).c3;have P3:=aj (ah PC _ s3);have ako:=b2.size;have hvl:=hv.lt;clear P2 b2 hd p3 s3 hv hF PC;go_wp2_with fail
 go_region_held3 (QE w.heap.size P a c v q g k size) (first|with_reducible assumption|exact QE.alloc k4 h4a h4b)
  (first
   | (go_at_call 26;refine(ah P3).mono ?_;rintro e w4 ⟨a4,c4,rfl,t4,b4⟩;have B4:=aj (ak (ah B3) b4);have V4:=aj ((ah V3).below U.H U.S b4);have k4:QE w.heap.size P a c v q g k size w4:=ajA (ah HP _ (ah B4)).1 (ah V4).c0 (ah V4).c1 (ah V4).c2 (ah V4).c3;have T4:=aj t4;have BB4:=aj b4;have h4a:w.heap.size<w4.heap.size:=(ah HP _ (ah B4)).1.lt;have h4b:v<w4.heap.size:=(ah V4).lt;clear t4 b4))
 have hle:w1.heap.size<=w2.drew.heap.size:=ako;have hl4:=(ah BB4).size;have ht:=ah T4;have sm:=aiM U (ah HS) (B:=w1.heap.size) (Nat.le_trans hle hl4) (ah V4) (U4 ht hle) (λz hz=>by
  have h1:=World.ownsRow.lt ht z.block (by rw[hz];rfl);refine⟨λy=>?_,h1.2⟩;have h2:=((ah V3).own U.H U.S _ y).2;omega)
 have HE:=aj (show ∃F,Ui Has SH _ w1.heap.size w4.heap.size F P m size iK from⟨_,_,a4,c4,none,sm,λk=>Iff.rfl⟩);have HB:=aj (ak (ah HP _ (ah B4)).2.2 ((Below.refl w4.heap.size w4).alloc (Nat.le_refl _) (.cells #[.string P.n,.slice a4 P.f.length c4,.int .i64 (nth P.v 0),.int .i64 (nth P.v 1),.int .i64 (nth P.v 2),.int .i64 (nth P.v 3),.int .i64 (nth P.v 4),.int .i64 (nth P.v 5),.int .i64 (nth P.v 6),.int .i64 (nth P.v 7),.pointer (some ⟨q,0,none⟩),.int .i64 size,.pointer (some ⟨g,0,none⟩),.pointer (some ⟨k,0,none⟩),.map none] 88)));have HL:=aj (show w.heap.size<=w1.heap.size/\w1.heap.size<=w4.heap.size+1 from⟨(ah HP _ (ah B1)).2.2.size,by omega⟩)
 clear k3 k4 P3 V3 V4 T4 BB4 hle hl4 ht sm h4a h4b;go_wp2_with fail
 go_ret2
 obtain⟨F5,h5⟩:=ah HE;exact⟨w4.heap.size,F5,w1.heap.size,rfl,⟨(ah HL).1,by simpa using (ah HL).2,h5⟩,ah HB⟩
end
end Go.Proofs.YtidekgipblnpkaaGreatDoor.Dk
