/- A part. -/
import Derived.Test.YtidekgipblnpkaaGreatDoorQ38
import Derived.Deep.RegionHeldLaw
set_option maxRecDepth 100000
set_option maxHeartbeats 8000000
namespace Go.Proofs.YtidekgipblnpkaaGreatDoor
open Go.RowKit Go.Proofs.Tryz
namespace Dk
section
variable {Has:World->Nat->Nat->(Nat->Prop)->Int->List ay->Prop}{SH:World->Nat->Nat->(Nat->Prop)->aJ->Prop}{F0 Cs:Nat->Prop}{w wr:World}{B x:Nat}{a:Option Addr}{c:Nat}{mb:Option Nat}{P:Pn.cu}{m size:Int}{st:dW}
theorem aaH (T:lX SH)(h:fF Has SH F0 Cs w wr B x a c mb P m size st)(hf:Fit P m size st)(hB:B<=w.heap.size)(s:ByteArray)(hs:s.size<=140737488355328)(hok:aG false s=0) :
 Calls prog 135 #[.pointer (some ⟨x,0,none⟩),.string s] wr λe w'=>e=.returned (.int .i64 (lW st.s.l s:Int))/\Below wr.heap.size wr w':=by
 have hk:=hf.rY.ok;obtain⟨es,hes⟩:=hk.cnt;have P1:=aj (fG h);have hfo:=aac hes hok (λr hr=>ny (hk.msg r hr).2 (hk.msg r hr).1);have hBr:=aje hB h.room;have P2:=aj (λ(W:World) (q:Nat) (G:Nat->Prop) (hS:SH W B q G st.s) (hW:B<=W.heap.size)=>T.Jz s hs hS hk hW hes);obtain⟨N,hN⟩:∃N,lW st.s.l s=N:=⟨_,rfl⟩;rw[hN] at hfo ⊢;clear h hf hk hes hN;go_enter func135,ntmps135;go_wp2_with fail;refine(ah P1).mono ?_;rintro e w1 ⟨q,G,rfl,h1,b1⟩;have P3:=aj (ah P2 w1 q G h1 (aje hBr b1.size));have B1:=aj b1;clear P1 P2 h1 b1;go_wp2_with fail
 refine(ah P3).mono ?_;rintro e w2 ⟨v,rfl,a2,b2⟩;have B2:=aj (ak (ah B1) b2);clear P3 b2;rw[hfo] at a2;by_cases h0:N=0
 ·rw[if_pos h0] at a2;obtain⟨a',cap,rfl,_⟩:=a2.shape;subst h0;clear a2;go_wp2_with fail;go_ret;exact⟨rfl,ah B2⟩
 ·rw[if_neg h0] at a2;obtain⟨g,cap,rfl,hc1,hc2,_,hg⟩:=a2.there (by simp);have e1:w2.cell? ⟨g,1,none⟩=some (.int .i64 (N:Int)):=a2.num (k:=0) (by simp);have hc3:1<=cap:=by simpa using hc1
  clear a2 hc1;rw[akX];go_wp2_with fail;go_ret;exact⟨rfl,ah B2⟩
end
section
variable {Has:World->Nat->Nat->(Nat->Prop)->Int->List ay->Prop}{SH:World->Nat->Nat->(Nat->Prop)->aJ->Prop}{F0 Cs:Nat->Prop}{w wr:World}{B x:Nat}{a:Option Addr}{c:Nat}{mb:Option Nat}{P:Pn.cu}{m size:Int}{st:dW}
abbrev AtN (x j:Nat)(N:Int)(b:Nat)(s:ByteArray)(w:World):Prop:=w.cell? ⟨x,j,none⟩=some (.int .i64 N)/\w.cell? ⟨b,0,none⟩=some (.string s)
theorem Gv (U:vC Has SH)(T:lX SH)(h:fF Has SH F0 Cs w wr B x a c mb P m size st)(hf:Fit P m size st)(hB:B<=w.heap.size)(y:Po)(hy:dZ y)(hok:aG false y.s=0) :
 Calls prog 99 #[.pointer (some ⟨x,0,none⟩),G5 y] wr λe w'=>e=.returned (.bool (bG P st.s.l y))/\Below wr.heap.size wr w':=by
 have b0:Below wr.heap.size wr (wr.alloc (jq y)):=(ajb _ _).alloc (Xc _) _;have bd:Below wr.heap.size wr (wr.alloc (jq y)).drew:=b0.drew;have r1:=h.below U.H U.S bd;have p1:=(qP.new wr y).below (ajb _ _).drew;have k0:AtN x 5 (nth P.v 3) wr.heap.size y.s (wr.alloc (jq y)).drew:=⟨r1.plan.c5,p1.c0⟩;have PC:=aj (aaH T r1 hf hB y.s hy.s hok);have HK:=aj (λ(W:World) (hW:Below (wr.alloc (jq y)).drew.heap.size (wr.alloc (jq y)).drew W)=>show AtN x 5 (nth P.v 3) wr.heap.size y.s W/\Below wr.heap.size wr W from⟨⟨(r1.below U.H U.S hW).plan.c5,(p1.below hW).c0⟩,ak bd hW⟩)
 have B0:=aj (λn=>below_drewN b0 n);have hx:=h.lt;have c5:=h.plan.c5;unfold bG pv;generalize nth P.v 3=M at *;generalize lW st.s.l y.s=N at *;clear h hf hok r1 p1 b0 bd hy;by_cases hM:M=0
 ·subst hM;go_enter func99,ntmps99;go_wp2_with fail;go_quiet (fail)
  go_wp2_with fail;go_ret;exact⟨rfl,ah B0 _⟩
 ·have e1:(M !=0)=true:=by simpa using hM
  rw[ajg (p:=M≠0) hM,akn];go_enter func99,ntmps99;go_wp2_with fail;first|(go_region_held_law (AtN x 5 M wr.heap.size y.s) (first|assumption|go_keep)
   (first
    | (go_at_call 135;refine(ah PC).mono ?_;rintro e w3 ⟨rfl,b3⟩;obtain⟨k3,B3⟩:=ah HK w3 b3)))|fail
  all_goals (
   go_wp2_with fail
   go_ret
   exact⟨rfl,B3⟩)
end
abbrev AtF (x:Nat)(M0 M1:Int)(b:Nat)(y:Po)(g:Nat)(n k:Int)(w:World):Prop:=w.cell? ⟨x,2,none⟩=some (.int .i64 M0)/\w.cell? ⟨x,3,none⟩=some (.int .i64 M1)/\w.cell? ⟨b,0,none⟩=some (.string y.s)/\w.cell? ⟨b,1,none⟩=some (.string y.i)/\w.cell? ⟨b,2,none⟩=some (.string y.h)/\w.cell? ⟨b,3,none⟩=some (.string y.d)/\w.cell? ⟨b,4,none⟩=some (.int .i64 y.x)/\w.cell? ⟨b,5,none⟩=some (.int .i64 y.ro)/\w.cell? ⟨g,0,none⟩=some (.int .i64 n)/\w.cell? ⟨g,1,none⟩=some (.int .i64 k)
section
variable {Has:World->Nat->Nat->(Nat->Prop)->Int->List ay->Prop}{SH:World->Nat->Nat->(Nat->Prop)->aJ->Prop}{F0 Cs:Nat->Prop}{w wr:World}{B x:Nat}{a:Option Addr}{c:Nat}{mb:Option Nat}{P:Pn.cu}{m size:Int}{st:dW}
theorem ad4 (U:vC Has SH)(h:fF Has SH F0 Cs w wr B x a c mb P m size st)(hf:Fit P m size st)(hB:B<=w.heap.size)(y:Po)(hy:dZ y)(hA:nth P.v 0≠0/\nth P.v 0<=(st.s.l.length:Int)) :
 Calls prog 100 #[.pointer (some ⟨x,0,none⟩),G5 y] wr λe w'=>e=.returned (.bool (bM P st.s.l y))/\Below wr.heap.size wr w':=by
 have b0:Below wr.heap.size wr (wr.alloc (jq y)):=(ajb _ _).alloc (Xc _) _;have r1:=h.below U.H U.S b0;have p1:=qP.new wr y;have hk:=hf.rY.ok;have P1:=aj (fG r1);have P2:=aj (λ(W:World) (q:Nat) (G:Nat->Prop) (hS:SH W B q G st.s) (hW:B<=W.heap.size)=>U.S.lU.BX hS hk hW);have hBr:=aje hB r1.room;have HW:=aj (λ(W:World) (hW:Below (wr.alloc (jq y)).heap.size (wr.alloc (jq y)) W)=>show PBx W x P a c/\qP W wr.heap.size y/\Below wr.heap.size wr W from⟨(r1.below U.H U.S hW).plan,p1.below hW,ak b0 hW⟩);have hbytes:=hk.bytes;have PZ:=aj (λW=>nC y hy W)
 have hz:qm y<=422212465065984:=by
  have h1:=hy.s;have h2:=hy.h;have h3:=hy.d;unfold qm;omega
 have hfew:=hk.iW;have xY:Hid (bM P st.s.l y=((decide (nth P.v 0≠0)&&decide (nth P.v 0<=(st.s.l.length:Int)))||(decide (nth P.v 1≠0)&&decide (nth P.v 1<(bI st.s.l:Int)+(qm y:Int))))):=aj (by unfold bM pv;rw[amF]);obtain⟨L,hL⟩:∃L,st.s.l.length=L:=⟨_,rfl⟩;obtain⟨K,hK⟩:∃K,bI st.s.l=K:=⟨_,rfl⟩;obtain⟨Z,hZ⟩:∃Z,qm y=Z:=⟨_,rfl⟩;rw[hL,hK] at P2;rw[hL,hK,hZ] at xY;rw[hZ] at PZ hz;rw[hL] at hfew;rw[hL] at hA;rw[hK] at hbytes;generalize dU st.s.l=fq at *;clear h hf hk r1 p1 b0 hy hL hK hZ;go_enter func100,ntmps100;go_wp2_with fail;refine(ah P1).mono ?_;rintro e w1 ⟨q,G,rfl,h1,b1⟩
 have P3:=aj (ah P2 w1 q G h1 (aje hBr b1.size));have B1:=aj b1;clear P1 P2 h1 b1;go_wp2_with fail;refine(ah P3).mono ?_;rintro e w2 ⟨rfl,b2⟩;have B2:=aj (ak (ah B1) b2);clear P3 b2 B1;obtain⟨hp2,hy2,hb2⟩:=ah HW w2 (ah B2);have HB2:=aj hb2;have hx2:=hp2.lt;have c2:=hp2.c2;have c3:=hp2.c3;have hby:=hy2.lt;have bA:Below w2.heap.size w2 (w2.alloc (.cells #[.int .i64 (L:Int),.int .i64 (K:Int),.int .i64 fq,.int .i64 st.s.last] 60)):=(ajb _ _).alloc (Xc _) _;have HB3:=aj (λn=>below_drewN (ak hb2 bA) n);have k0:AtF x (nth P.v 0) (nth P.v 1) wr.heap.size y w2.heap.size (L:Int) (K:Int) (w2.alloc (.cells #[.int .i64 (L:Int),.int .i64 (K:Int),.int .i64 fq,.int .i64 st.s.last] 60)).drew:=by
  have hy3:=(hy2.below bA).below (ajb _ _).drew;have hp3:=(hp2.next bA).next (ajb _ _).drew;exact⟨hp3.c2,hp3.c3,hy3.c0,hy3.c1,hy3.c2,hy3.c3,hy3.c4,hy3.c5,by simp,by simp⟩
 have HK:=aj (λ(W:World) (hW:Below (w2.alloc (.cells #[.int .i64 (L:Int),.int .i64 (K:Int),.int .i64 fq,.int .i64 st.s.last] 60)).drew.heap.size (w2.alloc (.cells #[.int .i64 (L:Int),.int .i64 (K:Int),.int .i64 fq,.int .i64 st.s.last] 60)).drew W)=>show AtF x (nth P.v 0) (nth P.v 1) wr.heap.size y w2.heap.size (L:Int) (K:Int) W/\Below wr.heap.size wr W from by
  have hy3:=((hy2.below bA).below (ajb _ _).drew).below hW;have hp3:=((hp2.next bA).next (ajb _ _).drew).next hW;exact⟨⟨hp3.c2,hp3.c3,hy3.c0,hy3.c1,hy3.c2,hy3.c3,hy3.c4,hy3.c5,(hW.cell (p:=⟨w2.heap.size,0,none⟩) (by simp)).trans k0.2.2.2.2.2.2.2.2.1,(hW.cell (p:=⟨w2.heap.size,1,none⟩) (by simp)).trans k0.2.2.2.2.2.2.2.2.2⟩,ak (ak hb2 bA).drew hW⟩)
 generalize nth P.v 0=M0 at *;generalize nth P.v 1=M1 at *;have hyc:=hy2;obtain⟨_,y0,y1,y2,y3,y4,y5⟩:=hyc;clear hp2 hy2 hb2 bA HW B2 HB2;have e1:(M0 !=0)=true:=by simpa using hA.1
 have e2:M0<=(L:Int):=hA.2;have e3:bM P st.s.l y=true:=by rw[ah xY,ajg hA.1,ajg hA.2];rfl
 have E3:=aj e3;clear hA e3 xY PZ HK k0;go_wp2_with fail;go_quiet (fail)
 go_wp2_with fail;go_ret;exact⟨by rw[ah E3];rfl,ah HB3 _⟩
theorem aaI (U:vC Has SH)(h:fF Has SH F0 Cs w wr B x a c mb P m size st)(hf:Fit P m size st)(hB:B<=w.heap.size)(y:Po)(hy:dZ y)(hM0:nth P.v 0=0)(hM1:nth P.v 1=0) :
 Calls prog 100 #[.pointer (some ⟨x,0,none⟩),G5 y] wr λe w'=>e=.returned (.bool (bM P st.s.l y))/\Below wr.heap.size wr w':=by
 have b0:Below wr.heap.size wr (wr.alloc (jq y)):=(ajb _ _).alloc (Xc _) _;have r1:=h.below U.H U.S b0;have p1:=qP.new wr y;have hk:=hf.rY.ok;have P1:=aj (fG r1);have P2:=aj (λ(W:World) (q:Nat) (G:Nat->Prop) (hS:SH W B q G st.s) (hW:B<=W.heap.size)=>U.S.lU.BX hS hk hW);have hBr:=aje hB r1.room;have HW:=aj (λ(W:World) (hW:Below (wr.alloc (jq y)).heap.size (wr.alloc (jq y)) W)=>show PBx W x P a c/\qP W wr.heap.size y/\Below wr.heap.size wr W from⟨(r1.below U.H U.S hW).plan,p1.below hW,ak b0 hW⟩);have hbytes:=hk.bytes;have PZ:=aj (λW=>nC y hy W)
 have hz:qm y<=422212465065984:=by
  have h1:=hy.s;have h2:=hy.h;have h3:=hy.d;unfold qm;omega
 have hfew:=hk.iW;have xY:Hid (bM P st.s.l y=((decide (nth P.v 0≠0)&&decide (nth P.v 0<=(st.s.l.length:Int)))||(decide (nth P.v 1≠0)&&decide (nth P.v 1<(bI st.s.l:Int)+(qm y:Int))))):=aj (by unfold bM pv;rw[amF]);obtain⟨L,hL⟩:∃L,st.s.l.length=L:=⟨_,rfl⟩;obtain⟨K,hK⟩:∃K,bI st.s.l=K:=⟨_,rfl⟩;obtain⟨Z,hZ⟩:∃Z,qm y=Z:=⟨_,rfl⟩;rw[hL,hK] at P2;rw[hL,hK,hZ] at xY;rw[hZ] at PZ hz;rw[hL] at hfew;rw[hK] at hbytes;generalize dU st.s.l=fq at *;clear h hf hk r1 p1 b0 hy hL hK hZ;go_enter func100,ntmps100;go_wp2_with fail;refine(ah P1).mono ?_;rintro e w1 ⟨q,G,rfl,h1,b1⟩
 have P3:=aj (ah P2 w1 q G h1 (aje hBr b1.size));have B1:=aj b1;clear P1 P2 h1 b1;go_wp2_with fail;refine(ah P3).mono ?_;rintro e w2 ⟨rfl,b2⟩;have B2:=aj (ak (ah B1) b2);clear P3 b2 B1;obtain⟨hp2,hy2,hb2⟩:=ah HW w2 (ah B2);have HB2:=aj hb2;have hx2:=hp2.lt;have c2:=hp2.c2;have c3:=hp2.c3;have hby:=hy2.lt;have bA:Below w2.heap.size w2 (w2.alloc (.cells #[.int .i64 (L:Int),.int .i64 (K:Int),.int .i64 fq,.int .i64 st.s.last] 60)):=(ajb _ _).alloc (Xc _) _;have HB3:=aj (λn=>below_drewN (ak hb2 bA) n);have k0:AtF x (nth P.v 0) (nth P.v 1) wr.heap.size y w2.heap.size (L:Int) (K:Int) (w2.alloc (.cells #[.int .i64 (L:Int),.int .i64 (K:Int),.int .i64 fq,.int .i64 st.s.last] 60)).drew:=by
  have hy3:=(hy2.below bA).below (ajb _ _).drew;have hp3:=(hp2.next bA).next (ajb _ _).drew;exact⟨hp3.c2,hp3.c3,hy3.c0,hy3.c1,hy3.c2,hy3.c3,hy3.c4,hy3.c5,by simp,by simp⟩
 have HK:=aj (λ(W:World) (hW:Below (w2.alloc (.cells #[.int .i64 (L:Int),.int .i64 (K:Int),.int .i64 fq,.int .i64 st.s.last] 60)).drew.heap.size (w2.alloc (.cells #[.int .i64 (L:Int),.int .i64 (K:Int),.int .i64 fq,.int .i64 st.s.last] 60)).drew W)=>show AtF x (nth P.v 0) (nth P.v 1) wr.heap.size y w2.heap.size (L:Int) (K:Int) W/\Below wr.heap.size wr W from by
  have hy3:=((hy2.below bA).below (ajb _ _).drew).below hW;have hp3:=((hp2.next bA).next (ajb _ _).drew).next hW;exact⟨⟨hp3.c2,hp3.c3,hy3.c0,hy3.c1,hy3.c2,hy3.c3,hy3.c4,hy3.c5,(hW.cell (p:=⟨w2.heap.size,0,none⟩) (by simp)).trans k0.2.2.2.2.2.2.2.2.1,(hW.cell (p:=⟨w2.heap.size,1,none⟩) (by simp)).trans k0.2.2.2.2.2.2.2.2.2⟩,ak (ak hb2 bA).drew hW⟩)
 generalize nth P.v 0=M0 at *;generalize nth P.v 1=M1 at *;have hyc:=hy2;obtain⟨_,y0,y1,y2,y3,y4,y5⟩:=hyc;clear hp2 hy2 hb2 bA HW B2 HB2;have e3:bM P st.s.l y=false:=by rw[ah xY,hM0,hM1];rfl
 have E3:=aj e3;subst hM0 hM1;clear e3 xY PZ HK k0;go_wp2_with fail;go_quiet (fail)
 go_wp2_with fail;go_ret;exact⟨by rw[ah E3];rfl,ah HB3 _⟩
theorem aaJ (U:vC Has SH)(h:fF Has SH F0 Cs w wr B x a c mb P m size st)(hf:Fit P m size st)(hB:B<=w.heap.size)(y:Po)(hy:dZ y)(hA:¬(nth P.v 0≠0/\nth P.v 0<=(st.s.l.length:Int)))(hM0:nth P.v 0≠0)(hM1:nth P.v 1=0) :
 Calls prog 100 #[.pointer (some ⟨x,0,none⟩),G5 y] wr λe w'=>e=.returned (.bool (bM P st.s.l y))/\Below wr.heap.size wr w':=by
 have b0:Below wr.heap.size wr (wr.alloc (jq y)):=(ajb _ _).alloc (Xc _) _;have r1:=h.below U.H U.S b0;have p1:=qP.new wr y;have hk:=hf.rY.ok;have P1:=aj (fG r1);have P2:=aj (λ(W:World) (q:Nat) (G:Nat->Prop) (hS:SH W B q G st.s) (hW:B<=W.heap.size)=>U.S.lU.BX hS hk hW);have hBr:=aje hB r1.room;have HW:=aj (λ(W:World) (hW:Below (wr.alloc (jq y)).heap.size (wr.alloc (jq y)) W)=>show PBx W x P a c/\qP W wr.heap.size y/\Below wr.heap.size wr W from⟨(r1.below U.H U.S hW).plan,p1.below hW,ak b0 hW⟩);have hbytes:=hk.bytes;have PZ:=aj (λW=>nC y hy W)
 have hz:qm y<=422212465065984:=by
  have h1:=hy.s;have h2:=hy.h;have h3:=hy.d;unfold qm;omega
 have hfew:=hk.iW;have xY:Hid (bM P st.s.l y=((decide (nth P.v 0≠0)&&decide (nth P.v 0<=(st.s.l.length:Int)))||(decide (nth P.v 1≠0)&&decide (nth P.v 1<(bI st.s.l:Int)+(qm y:Int))))):=aj (by unfold bM pv;rw[amF]);obtain⟨L,hL⟩:∃L,st.s.l.length=L:=⟨_,rfl⟩;obtain⟨K,hK⟩:∃K,bI st.s.l=K:=⟨_,rfl⟩;obtain⟨Z,hZ⟩:∃Z,qm y=Z:=⟨_,rfl⟩;rw[hL,hK] at P2;rw[hL,hK,hZ] at xY;rw[hZ] at PZ hz;rw[hL] at hfew;rw[hL] at hA;rw[hK] at hbytes;generalize dU st.s.l=fq at *;clear h hf hk r1 p1 b0 hy hL hK hZ;go_enter func100,ntmps100;go_wp2_with fail;refine(ah P1).mono ?_;rintro e w1 ⟨q,G,rfl,h1,b1⟩
 have P3:=aj (ah P2 w1 q G h1 (aje hBr b1.size));have B1:=aj b1;clear P1 P2 h1 b1;go_wp2_with fail;refine(ah P3).mono ?_;rintro e w2 ⟨rfl,b2⟩;have B2:=aj (ak (ah B1) b2);clear P3 b2 B1;obtain⟨hp2,hy2,hb2⟩:=ah HW w2 (ah B2);have HB2:=aj hb2;have hx2:=hp2.lt;have c2:=hp2.c2;have c3:=hp2.c3;have hby:=hy2.lt;have bA:Below w2.heap.size w2 (w2.alloc (.cells #[.int .i64 (L:Int),.int .i64 (K:Int),.int .i64 fq,.int .i64 st.s.last] 60)):=(ajb _ _).alloc (Xc _) _;have HB3:=aj (λn=>below_drewN (ak hb2 bA) n);have k0:AtF x (nth P.v 0) (nth P.v 1) wr.heap.size y w2.heap.size (L:Int) (K:Int) (w2.alloc (.cells #[.int .i64 (L:Int),.int .i64 (K:Int),.int .i64 fq,.int .i64 st.s.last] 60)).drew:=by
  have hy3:=(hy2.below bA).below (ajb _ _).drew;have hp3:=(hp2.next bA).next (ajb _ _).drew;exact⟨hp3.c2,hp3.c3,hy3.c0,hy3.c1,hy3.c2,hy3.c3,hy3.c4,hy3.c5,by simp,by simp⟩
 have HK:=aj (λ(W:World) (hW:Below (w2.alloc (.cells #[.int .i64 (L:Int),.int .i64 (K:Int),.int .i64 fq,.int .i64 st.s.last] 60)).drew.heap.size (w2.alloc (.cells #[.int .i64 (L:Int),.int .i64 (K:Int),.int .i64 fq,.int .i64 st.s.last] 60)).drew W)=>show AtF x (nth P.v 0) (nth P.v 1) wr.heap.size y w2.heap.size (L:Int) (K:Int) W/\Below wr.heap.size wr W from by
  have hy3:=((hy2.below bA).below (ajb _ _).drew).below hW;have hp3:=((hp2.next bA).next (ajb _ _).drew).next hW;exact⟨⟨hp3.c2,hp3.c3,hy3.c0,hy3.c1,hy3.c2,hy3.c3,hy3.c4,hy3.c5,(hW.cell (p:=⟨w2.heap.size,0,none⟩) (by simp)).trans k0.2.2.2.2.2.2.2.2.1,(hW.cell (p:=⟨w2.heap.size,1,none⟩) (by simp)).trans k0.2.2.2.2.2.2.2.2.2⟩,ak (ak hb2 bA).drew hW⟩)
 generalize nth P.v 0=M0 at *;generalize nth P.v 1=M1 at *;have hyc:=hy2;obtain⟨_,y0,y1,y2,y3,y4,y5⟩:=hyc;clear hp2 hy2 hb2 bA HW B2 HB2;have e0:(M0 !=0)=true:=by simpa using hM0
 have e4:decide (M0<=(L:Int))=false:=ajd (λz=>hA ⟨hM0,z⟩);have e3:bM P st.s.l y=false:=by rw[ah xY,hM1,e4];simp
 have E3:=aj e3;subst hM1;clear hA e3 xY PZ HK k0;go_wp2_with fail;go_quiet (fail)
 go_wp2_with fail;go_ret;exact⟨by rw[ah E3];rfl,ah HB3 _⟩
end
def wP (X last M1:Int)(Z:Nat)(D:Int)(C Fl:Bool):Int:=if X≠-1/\X≠last then 9 else if M1≠0/\M1<(Z:Int) then 8 else if D=1/\(C||Fl)=true then 8 else 0
def PY (P:Pn.cu)(s:aJ)(y:Po):Int:=wP y.x s.last (pv P 1) (qm y) (pv P 5) (bG P s.l y) (bM P s.l y)
abbrev AtG (x:Nat)(M1:Int)(b:Nat)(y:Po)(w:World):Prop:=w.cell? ⟨x,3,none⟩=some (.int .i64 M1)/\w.cell? ⟨b,0,none⟩=some (.string y.s)/\w.cell? ⟨b,1,none⟩=some (.string y.i)/\w.cell? ⟨b,2,none⟩=some (.string y.h)/\w.cell? ⟨b,3,none⟩=some (.string y.d)/\w.cell? ⟨b,4,none⟩=some (.int .i64 y.x)/\w.cell? ⟨b,5,none⟩=some (.int .i64 y.ro)
abbrev AtE (b:Nat)(X:Int)(w:World):Prop:=w.cell? ⟨b,4,none⟩=some (.int .i64 X)
section
variable {Has:World->Nat->Nat->(Nat->Prop)->Int->List ay->Prop}{SH:World->Nat->Nat->(Nat->Prop)->aJ->Prop}{F0 Cs:Nat->Prop}{w wr:World}{B x:Nat}{a:Option Addr}{c:Nat}{mb:Option Nat}{P:Pn.cu}{m size:Int}{st:dW}
theorem J6 (U:vC Has SH)(T:lX SH)(h:fF Has SH F0 Cs w wr B x a c mb P m size st)(hf:Fit P m size st)(hB:B<=w.heap.size)(y:Po)(hy:dZ y)(hok:aG false y.s=0)
 (IF:∀W,fF Has SH F0 Cs w W B x a c mb P m size st->Calls prog 100 #[.pointer (some ⟨x,0,none⟩),G5 y] W λe w'=>e=.returned (.bool (bM P st.s.l y))/\Below W.heap.size W w') :
 Calls prog 56 #[.pointer (some ⟨x,0,none⟩),G5 y] wr λe w'=>e=.returned (.int .i64 (PY P st.s y))/\Below wr.heap.size wr w':=by
 have b0:Below wr.heap.size wr (wr.alloc (jq y)):=(ajb _ _).alloc (Xc _) _;have r1:=h.below U.H U.S b0;have p1:=qP.new wr y;have hk:=hf.rY.ok;have HW:Hid (∀W:World,Below (wr.alloc (jq y)).heap.size (wr.alloc (jq y)) W->x<W.heap.size/\W.cell? ⟨x,3,none⟩=some (.int .i64 (nth P.v 1))/\W.cell? ⟨x,7,none⟩=some (.int .i64 (nth P.v 5))/\qP W wr.heap.size y/\Below wr.heap.size wr W):=aj (λW hW=>⟨(r1.below U.H U.S hW).lt,(r1.below U.H U.S hW).plan.c3,(r1.below U.H U.S hW).plan.c7,p1.below hW,ak b0 hW⟩);have dR:Hid (∀W:World,Below (wr.alloc (jq y)).heap.size (wr.alloc (jq y)) W->Below wr.heap.size wr W):=aj (λW hW=>ak b0 hW)
 have aaK:=aj (λ(W:World) (hW:Below (wr.alloc (jq y)).heap.size (wr.alloc (jq y)) W)=>Gv U T (r1.below U.H U.S hW) hf hB y hy hok);have aaL:=aj (λ(W:World) (hW:Below (wr.alloc (jq y)).heap.size (wr.alloc (jq y)) W)=>IF W (r1.below U.H U.S hW));have aho:=aj (fG (r1.below U.H U.S (ajb _ _).drew));have PSum:=aj (λ(W:World) (q:Nat) (G:Nat->Prop) (hS:SH W B q G st.s) (hW:B<=W.heap.size)=>U.S.lU.BX hS hk hW);have hBr:=aje hB (r1.below U.H U.S (ajb _ _).drew).room;have PZ:=aj (λW=>nC y hy W);have hx0:=r1.lt;have w4:=p1.c4;have hsl:∀x0 x1 x2 x3:Value,∀W:World,(Instr.field 60 (.agg #[x0,x1,x2,x3]) 3).run prog W=.ok x3 W:=λ_ _ _ _ _=>by kernel_rfl
 unfold PY pv;generalize nth P.v 1=M1 at *;generalize nth P.v 5=D at *;generalize qm y=Z at *;generalize bG P st.s.l y=C at *;generalize bM P st.s.l y=Fl at *;generalize st.s.last=last at *;clear h hf hk r1 p1 b0 hy IF hok;by_cases hX1:y.x=-1
 ·have hE:¬(y.x≠-1/\y.x≠last):=λz=>z.1 hX1
  have e0:(y.x !=-1)=false:=by rw[hX1];rfl
  clear hX1;clear aho PSum;go_enter func56,ntmps56;go_wp2_with fail;go_quiet (fail)
  obtain⟨Wc,hWc⟩:∃Wc,Wc=(wr.alloc (jq y)).drewN nq:=⟨_,rfl⟩;have HBc:Hid (Below (wr.alloc (jq y)).heap.size (wr.alloc (jq y)) Wc):=aj (by rw[hWc];exact below_drewN (ajb _ _) nq);rw[<-hWc];clear hWc w4;obtain⟨hx,c3,_,hpo,_⟩:=ah HW Wc (ah HBc);have ad5:=hpo;obtain⟨hbl,y0,y1,y2,y3,y4,y5⟩:=hpo;by_cases hM:M1=0
  ·have HR:=aj (show wP y.x last M1 Z D C Fl=if D=1/\(C||Fl)=true then 8 else 0 from by unfold wP;rw[if_neg hE,if_neg (λz=>z.1 hM)]);subst hM;clear ad5;go_wp2_with fail;go_quiet (fail)
   have CG:=aj (below_drewN (ah HBc) nq);have c7:=(ah HW _ (ah CG)).2.2.1;have hx7:=(ah HW _ (ah CG)).1;obtain⟨_,z0,z1,z2,z3,z4,z5⟩:=(ah HW _ (ah CG)).2.2.2.1;by_cases hD:D=1
   ·subst hD;have PS5:=aj (ah aaK _ (ah CG));go_wp2_with fail;refine(ah PS5).mono ?_;rintro e w5 ⟨rfl,b5⟩;have B5:=aj (ak (ah CG) b5);have PF5:=aj (ah aaL _ (ah B5));obtain⟨_,v0,v1,v2,v3,v4,v5⟩:=(ah HW _ (ah B5)).2.2.2.1;clear PS5 b5 z0 z1 z2 z3 z4 z5 c7
    cases C with
    | true =>
     go_wp2_with fail;go_ret;exact⟨by rw[ah HR];rfl,ah dR _ (ah B5)⟩
    | false =>
     go_wp2_with fail;refine(ah PF5).mono ?_;rintro e w6 ⟨rfl,b6⟩;have B6:=aj (ak (ah B5) b6);clear PF5 b6 v0 v1 v2 v3 v4 v5
     cases Fl with
     | true =>
      go_wp2_with fail;go_ret;exact⟨by rw[ah HR];rfl,ah dR _ (ah B6)⟩
     | false =>
      go_wp2_with fail;go_ret;exact⟨by rw[ah HR];rfl,ah dR _ (ah B6)⟩
   ·have e7:(D==1)=false:=by rw[ajr];exact hD
    have e8:decide (D=1)=false:=ajd hD;have HR2:=aj ((ah HR).trans (if_neg (λz=>hD z.1)));go_wp2_with fail;go_ret;exact⟨by rw[ah HR2];rfl,ah dR _ (ah CG)⟩
  ·have e1:(M1 !=0)=true:=by simpa using hM
   have k3:AtG x M1 wr.heap.size y Wc.drew:=by
    have q:=(ah HW Wc.drew (ah HBc).drew);exact⟨q.2.1,q.2.2.2.1.c0,q.2.2.2.1.c1,q.2.2.2.1.c2,q.2.2.2.1.c3,q.2.2.2.1.c4,q.2.2.2.1.c5⟩
   clear ad5 y0 y1 y2 y3 y4 y5 c3;go_wp2_with fail;first|(go_region_held_law (AtG x M1 wr.heap.size y) (first|with_reducible assumption|go_keep)
    (first
     | (go_at_call 98;refine(ah PZ _).mono ?_;rintro e w4 ⟨rfl,b4⟩;have B4:=aj (ak (ah HBc).drew b4);have q4:=ah HW w4 (ah B4);have k4:AtG x M1 wr.heap.size y w4:=⟨q4.2.1,q4.2.2.2.1.c0,q4.2.2.2.1.c1,q4.2.2.2.1.c2,q4.2.2.2.1.c3,q4.2.2.2.1.c4,q4.2.2.2.1.c5⟩;clear b4 q4)))|fail
   clear k3 k4;by_cases hV:M1<(Z:Int)
   ·have HR:=aj (show wP y.x last M1 Z D C Fl=8 from by unfold wP;rw[if_neg hE,if_pos ⟨hM,hV⟩]);go_wp2_with fail;go_ret;exact⟨by rw[ah HR];rfl,ah dR _ (ah B4)⟩
   ·have HR:=aj (show wP y.x last M1 Z D C Fl=if D=1/\(C||Fl)=true then 8 else 0 from by unfold wP;rw[if_neg hE,if_neg (λz=>hV z.2)]);have hV2:decide (M1<(Z:Int))=false:=ajd hV;have CG:=aj (ah B4);have c7:=(ah HW _ (ah CG)).2.2.1;have hx7:=(ah HW _ (ah CG)).1;obtain⟨_,z0,z1,z2,z3,z4,z5⟩:=(ah HW _ (ah CG)).2.2.2.1;by_cases hD:D=1
    ·subst hD;have PS5:=aj (ah aaK _ (ah CG));go_wp2_with fail;refine(ah PS5).mono ?_;rintro e w5 ⟨rfl,b5⟩;have B5:=aj (ak (ah CG) b5);have PF5:=aj (ah aaL _ (ah B5));obtain⟨_,v0,v1,v2,v3,v4,v5⟩:=(ah HW _ (ah B5)).2.2.2.1;clear PS5 b5 z0 z1 z2 z3 z4 z5 c7
     cases C with
     | true =>
      go_wp2_with fail;go_ret;exact⟨by rw[ah HR];rfl,ah dR _ (ah B5)⟩
     | false =>
      go_wp2_with fail;refine(ah PF5).mono ?_;rintro e w6 ⟨rfl,b6⟩;have B6:=aj (ak (ah B5) b6);clear PF5 b6 v0 v1 v2 v3 v4 v5
      cases Fl with
      | true =>
       go_wp2_with fail;go_ret;exact⟨by rw[ah HR];rfl,ah dR _ (ah B6)⟩
      | false =>
       go_wp2_with fail;go_ret;exact⟨by rw[ah HR];rfl,ah dR _ (ah B6)⟩
    ·have e7:(D==1)=false:=by rw[ajr];exact hD
     have e8:decide (D=1)=false:=ajd hD;have HR2:=aj ((ah HR).trans (if_neg (λz=>hD z.1)));go_wp2_with fail;go_ret;exact⟨by rw[ah HR2];rfl,ah dR _ (ah CG)⟩
 ·have e0:(y.x !=-1)=true:=by simpa using hX1
  have k0:AtE wr.heap.size y.x (wr.alloc (jq y)).drew:=w4;go_enter func56,ntmps56;go_wp2_with fail;first|(go_region_held_law (AtE wr.heap.size y.x) (first|with_reducible assumption|go_keep)
   (first
    | (go_at_call 14;refine(ah aho).mono ?_;rintro e w1 ⟨q,G,rfl,h1,b1⟩;have B1:=aj (ak (ajb (wr.alloc (jq y)).heap.size (wr.alloc (jq y))).drew b1);have k1:AtE wr.heap.size y.x w1:=(ah HW w1 (ah B1)).2.2.2.1.c4;have P1:=aj (ah PSum w1 q G h1 (aje hBr b1.size));clear h1 b1)
    | (go_at_call 18;refine(ah P1).mono ?_;rintro e Wc ⟨rfl,b2⟩;have HBc:=aj (ak (ah B1) b2);have k2:AtE wr.heap.size y.x Wc:=(ah HW Wc (ah HBc)).2.2.2.1.c4;clear b2 P1)))|fail
  clear k0 k1 k2 aho PSum B1 w4;by_cases hX2:y.x=last
  ·have hE:¬(y.x≠-1/\y.x≠last):=λz=>z.2 hX2
   have e2:(y.x !=last)=false:=by rw[hX2];simp
   clear hX2;obtain⟨hx,c3,_,hpo,_⟩:=ah HW Wc (ah HBc);have ad5:=hpo;obtain⟨hbl,y0,y1,y2,y3,y4,y5⟩:=hpo;by_cases hM:M1=0
   ·have HR:=aj (show wP y.x last M1 Z D C Fl=if D=1/\(C||Fl)=true then 8 else 0 from by unfold wP;rw[if_neg hE,if_neg (λz=>z.1 hM)]);subst hM;clear ad5;go_wp2_with fail;go_quiet (fail)
    have CG:=aj (below_drewN (ah HBc) nq);have c7:=(ah HW _ (ah CG)).2.2.1;have hx7:=(ah HW _ (ah CG)).1;obtain⟨_,z0,z1,z2,z3,z4,z5⟩:=(ah HW _ (ah CG)).2.2.2.1;by_cases hD:D=1
    ·subst hD;have PS5:=aj (ah aaK _ (ah CG));go_wp2_with fail;refine(ah PS5).mono ?_;rintro e w5 ⟨rfl,b5⟩;have B5:=aj (ak (ah CG) b5);have PF5:=aj (ah aaL _ (ah B5));obtain⟨_,v0,v1,v2,v3,v4,v5⟩:=(ah HW _ (ah B5)).2.2.2.1;clear PS5 b5 z0 z1 z2 z3 z4 z5 c7
     cases C with
     | true =>
      go_wp2_with fail;go_ret;exact⟨by rw[ah HR];rfl,ah dR _ (ah B5)⟩
     | false =>
      go_wp2_with fail;refine(ah PF5).mono ?_;rintro e w6 ⟨rfl,b6⟩;have B6:=aj (ak (ah B5) b6);clear PF5 b6 v0 v1 v2 v3 v4 v5
      cases Fl with
      | true =>
       go_wp2_with fail;go_ret;exact⟨by rw[ah HR];rfl,ah dR _ (ah B6)⟩
      | false =>
       go_wp2_with fail;go_ret;exact⟨by rw[ah HR];rfl,ah dR _ (ah B6)⟩
    ·have e7:(D==1)=false:=by rw[ajr];exact hD
     have e8:decide (D=1)=false:=ajd hD;have HR2:=aj ((ah HR).trans (if_neg (λz=>hD z.1)));go_wp2_with fail;go_ret;exact⟨by rw[ah HR2];rfl,ah dR _ (ah CG)⟩
   ·have e1:(M1 !=0)=true:=by simpa using hM
    have k3:AtG x M1 wr.heap.size y Wc.drew:=by
     have q:=(ah HW Wc.drew (ah HBc).drew);exact⟨q.2.1,q.2.2.2.1.c0,q.2.2.2.1.c1,q.2.2.2.1.c2,q.2.2.2.1.c3,q.2.2.2.1.c4,q.2.2.2.1.c5⟩
    clear ad5 y0 y1 y2 y3 y4 y5 c3;go_wp2_with fail;first|(go_region_held_law (AtG x M1 wr.heap.size y) (first|with_reducible assumption|go_keep)
     (first
      | (go_at_call 98;refine(ah PZ _).mono ?_;rintro e w4 ⟨rfl,b4⟩;have B4:=aj (ak (ah HBc).drew b4);have q4:=ah HW w4 (ah B4);have k4:AtG x M1 wr.heap.size y w4:=⟨q4.2.1,q4.2.2.2.1.c0,q4.2.2.2.1.c1,q4.2.2.2.1.c2,q4.2.2.2.1.c3,q4.2.2.2.1.c4,q4.2.2.2.1.c5⟩;clear b4 q4)))|fail
    clear k3 k4;by_cases hV:M1<(Z:Int)
    ·have HR:=aj (show wP y.x last M1 Z D C Fl=8 from by unfold wP;rw[if_neg hE,if_pos ⟨hM,hV⟩]);go_wp2_with fail;go_ret;exact⟨by rw[ah HR];rfl,ah dR _ (ah B4)⟩
    ·have HR:=aj (show wP y.x last M1 Z D C Fl=if D=1/\(C||Fl)=true then 8 else 0 from by unfold wP;rw[if_neg hE,if_neg (λz=>hV z.2)]);have hV2:decide (M1<(Z:Int))=false:=ajd hV;have CG:=aj (ah B4);have c7:=(ah HW _ (ah CG)).2.2.1;have hx7:=(ah HW _ (ah CG)).1;obtain⟨_,z0,z1,z2,z3,z4,z5⟩:=(ah HW _ (ah CG)).2.2.2.1;by_cases hD:D=1
     ·subst hD;have PS5:=aj (ah aaK _ (ah CG));go_wp2_with fail;refine(ah PS5).mono ?_;rintro e w5 ⟨rfl,b5⟩;have B5:=aj (ak (ah CG) b5);have PF5:=aj (ah aaL _ (ah B5));obtain⟨_,v0,v1,v2,v3,v4,v5⟩:=(ah HW _ (ah B5)).2.2.2.1;clear PS5 b5 z0 z1 z2 z3 z4 z5 c7
      cases C with
      | true =>
       go_wp2_with fail;go_ret;exact⟨by rw[ah HR];rfl,ah dR _ (ah B5)⟩
      | false =>
       go_wp2_with fail;refine(ah PF5).mono ?_;rintro e w6 ⟨rfl,b6⟩;have B6:=aj (ak (ah B5) b6);clear PF5 b6 v0 v1 v2 v3 v4 v5
       cases Fl with
       | true =>
        go_wp2_with fail;go_ret;exact⟨by rw[ah HR];rfl,ah dR _ (ah B6)⟩
       | false =>
        go_wp2_with fail;go_ret;exact⟨by rw[ah HR];rfl,ah dR _ (ah B6)⟩
     ·have e7:(D==1)=false:=by rw[ajr];exact hD
      have e8:decide (D=1)=false:=ajd hD;have HR2:=aj ((ah HR).trans (if_neg (λz=>hD z.1)));go_wp2_with fail;go_ret;exact⟨by rw[ah HR2];rfl,ah dR _ (ah CG)⟩
  ·have HR:=aj (show wP y.x last M1 Z D C Fl=9 from by unfold wP;rw[if_pos ⟨hX1,hX2⟩]);have e2:(y.x !=last)=true:=by simpa using hX2
   go_wp2_with fail;go_ret;exact⟨by rw[ah HR];rfl,ah dR _ (ah HBc)⟩
end
section
variable {Has:World->Nat->Nat->(Nat->Prop)->Int->List ay->Prop}{SH:World->Nat->Nat->(Nat->Prop)->aJ->Prop}{F0 Cs:Nat->Prop}{w wr:World}{B x:Nat}{a:Option Addr}{c:Nat}{mb:Option Nat}{P:Pn.cu}{m size:Int}{st:dW}
theorem aaM (U:vC Has SH)(h:fF Has SH F0 Cs w wr B x a c mb P m size st)(hf:Fit P m size st)(hB:B<=w.heap.size)(y:Po)(hy:dZ y)(hM0:nth P.v 0=0)(hM1:nth P.v 1≠0) :
 Calls prog 100 #[.pointer (some ⟨x,0,none⟩),G5 y] wr λe w'=>e=.returned (.bool (bM P st.s.l y))/\Below wr.heap.size wr w':=by
 have b0:Below wr.heap.size wr (wr.alloc (jq y)):=(ajb _ _).alloc (Xc _) _;have r1:=h.below U.H U.S b0;have p1:=qP.new wr y;have hk:=hf.rY.ok;have P1:=aj (fG r1);have P2:=aj (λ(W:World) (q:Nat) (G:Nat->Prop) (hS:SH W B q G st.s) (hW:B<=W.heap.size)=>U.S.lU.BX hS hk hW);have hBr:=aje hB r1.room;have HW:=aj (λ(W:World) (hW:Below (wr.alloc (jq y)).heap.size (wr.alloc (jq y)) W)=>show PBx W x P a c/\qP W wr.heap.size y/\Below wr.heap.size wr W from⟨(r1.below U.H U.S hW).plan,p1.below hW,ak b0 hW⟩);have hbytes:=hk.bytes;have PZ:=aj (λW=>nC y hy W)
 have hz:qm y<=422212465065984:=by
  have h1:=hy.s;have h2:=hy.h;have h3:=hy.d;unfold qm;omega
 have hfew:=hk.iW;have xY:Hid (bM P st.s.l y=((decide (nth P.v 0≠0)&&decide (nth P.v 0<=(st.s.l.length:Int)))||(decide (nth P.v 1≠0)&&decide (nth P.v 1<(bI st.s.l:Int)+(qm y:Int))))):=aj (by unfold bM pv;rw[amF]);obtain⟨L,hL⟩:∃L,st.s.l.length=L:=⟨_,rfl⟩;obtain⟨K,hK⟩:∃K,bI st.s.l=K:=⟨_,rfl⟩;obtain⟨Z,hZ⟩:∃Z,qm y=Z:=⟨_,rfl⟩;rw[hL,hK] at P2;rw[hL,hK,hZ] at xY;rw[hZ] at PZ hz;rw[hL] at hfew;rw[hK] at hbytes;generalize dU st.s.l=fq at *;have hwz:IntKind.i64.wrap ((K:Int)+(Z:Int))=(K:Int)+(Z:Int):=by rw[ajq];omega
 clear h hf hk r1 p1 b0 hy hL hK hZ;go_enter func100,ntmps100;go_wp2_with fail;refine(ah P1).mono ?_;rintro e w1 ⟨q,G,rfl,h1,b1⟩;have P3:=aj (ah P2 w1 q G h1 (aje hBr b1.size));have B1:=aj b1;clear P1 P2 h1 b1;go_wp2_with fail;refine(ah P3).mono ?_;rintro e w2 ⟨rfl,b2⟩;have B2:=aj (ak (ah B1) b2);clear P3 b2 B1;obtain⟨hp2,hy2,hb2⟩:=ah HW w2 (ah B2);have HB2:=aj hb2;have hx2:=hp2.lt;have c2:=hp2.c2;have c3:=hp2.c3;have hby:=hy2.lt;have bA:Below w2.heap.size w2 (w2.alloc (.cells #[.int .i64 (L:Int),.int .i64 (K:Int),.int .i64 fq,.int .i64 st.s.last] 60)):=(ajb _ _).alloc (Xc _) _
 have HB3:=aj (λn=>below_drewN (ak hb2 bA) n);have k0:AtF x (nth P.v 0) (nth P.v 1) wr.heap.size y w2.heap.size (L:Int) (K:Int) (w2.alloc (.cells #[.int .i64 (L:Int),.int .i64 (K:Int),.int .i64 fq,.int .i64 st.s.last] 60)).drew:=by
  have hy3:=(hy2.below bA).below (ajb _ _).drew;have hp3:=(hp2.next bA).next (ajb _ _).drew;exact⟨hp3.c2,hp3.c3,hy3.c0,hy3.c1,hy3.c2,hy3.c3,hy3.c4,hy3.c5,by simp,by simp⟩
 have HK:=aj (λ(W:World) (hW:Below (w2.alloc (.cells #[.int .i64 (L:Int),.int .i64 (K:Int),.int .i64 fq,.int .i64 st.s.last] 60)).drew.heap.size (w2.alloc (.cells #[.int .i64 (L:Int),.int .i64 (K:Int),.int .i64 fq,.int .i64 st.s.last] 60)).drew W)=>show AtF x (nth P.v 0) (nth P.v 1) wr.heap.size y w2.heap.size (L:Int) (K:Int) W/\Below wr.heap.size wr W from by
  have hy3:=((hy2.below bA).below (ajb _ _).drew).below hW;have hp3:=((hp2.next bA).next (ajb _ _).drew).next hW;exact⟨⟨hp3.c2,hp3.c3,hy3.c0,hy3.c1,hy3.c2,hy3.c3,hy3.c4,hy3.c5,(hW.cell (p:=⟨w2.heap.size,0,none⟩) (by simp)).trans k0.2.2.2.2.2.2.2.2.1,(hW.cell (p:=⟨w2.heap.size,1,none⟩) (by simp)).trans k0.2.2.2.2.2.2.2.2.2⟩,ak (ak hb2 bA).drew hW⟩)
 generalize nth P.v 0=M0 at *;generalize nth P.v 1=M1 at *;have hyc:=hy2;obtain⟨_,y0,y1,y2,y3,y4,y5⟩:=hyc;clear hp2 hy2 hb2 bA HW B2 HB2;have e1:(M1 !=0)=true:=by simpa using hM1
 have e3:bM P st.s.l y=decide (M1<(K:Int)+(Z:Int)):=by rw[ah xY,hM0,ajg hM1];simp
 have E3:=aj e3;subst hM0;clear e3 xY;go_wp2_with fail;refine wp_region_held_drew (S:=AtF x 0 M1 wr.heap.size y w2.heap.size (L:Int) (K:Int)) (by kernel_rfl) k0 (λhHeld=>?_);refine ajx (i:=0) (v:=?_) rfl (by kernel_rfl) (by kernel_rfl) (by kernel_rfl) (λ_ _ _ h=>h) (Or.inl ⟨by rfl,?_⟩) (by assumption) (show wpAnyH _ _ _ _ _ _ _ (Act.put _ (some 9) _) _ from ?_);rotate_left
 ·(intro w hSw;(try dsimp only at hSw);go_simp;try with_reducible rfl)
 simp only[Act.put,ajf,ajk,ajj];refine ajx (i:=1) (v:=?_) rfl (by kernel_rfl) (by kernel_rfl) (by kernel_rfl) (λ_ _ _ h=>h) (Or.inl ⟨by rfl,?_⟩) (by assumption) (show wpAnyH _ _ _ _ _ _ _ (Act.put _ (some 10) _) _ from ?_);rotate_left
 ·(intro w hSw;(try dsimp only at hSw);go_simp;try with_reducible rfl)
 simp only[Act.put,ajf,ajk,ajj];refine ajx (i:=2) (v:=?_) rfl (by kernel_rfl) (by kernel_rfl) (by kernel_rfl) (λ_ _ _ h=>h) (Or.inl ⟨by rfl,?_⟩) (by assumption) (show wpAnyH _ _ _ _ _ _ _ (Act.put _ (some 11) _) _ from ?_);rotate_left
 ·(intro w hSw;(try dsimp only at hSw);go_simp;try with_reducible rfl)
 simp only[Act.put,ajf,ajk,ajj];refine ajx (i:=3) (v:=?_) rfl (by kernel_rfl) (by kernel_rfl) (by kernel_rfl) (λ_ _ _ h=>h) (Or.inl ⟨by rfl,?_⟩) (by assumption) (show wpAnyH _ _ _ _ _ _ _ (Act.put _ (some 12) _) _ from ?_);rotate_left
 ·(intro w hSw;(try dsimp only at hSw);go_simp;try with_reducible rfl)
 simp only[Act.put,ajf,ajk,ajj];refine ajx (i:=4) (v:=?_) rfl (by kernel_rfl) (by kernel_rfl) (by kernel_rfl) (λ_ _ _ h=>h) (Or.inl ⟨by rfl,?_⟩) (by assumption) (show wpAnyH _ _ _ _ _ _ _ (Act.put _ (some 13) _) _ from ?_);rotate_left
 ·(intro w hSw;(try dsimp only at hSw);go_simp;try with_reducible rfl)
 simp only[Act.put,ajf,ajk,ajj];refine ajx (i:=5) (v:=?_) rfl (by kernel_rfl) (by kernel_rfl) (by kernel_rfl) (λ_ _ _ h=>h) (Or.inl ⟨by rfl,?_⟩) (by assumption) (show wpAnyH _ _ _ _ _ _ _ (Act.put _ (some 14) _) _ from ?_);rotate_left
 ·(intro w hSw;(try dsimp only at hSw);go_simp;try with_reducible rfl)
 simp only[Act.put,ajf,ajk,ajj];refine ajx (i:=6) (v:=?_) rfl (by kernel_rfl) (by kernel_rfl) (by kernel_rfl) (λ_ _ _ h=>h) (Or.inl ⟨by rfl,?_⟩) (by assumption) (show wpAnyH _ _ _ _ _ _ _ (Act.put _ (some 15) _) _ from ?_);rotate_left
 ·(intro w hSw;(try dsimp only at hSw);go_simp;try with_reducible rfl)
 simp only[Act.put,ajf,ajk,ajj];refine ajx (i:=7) (v:=undef) rfl (by kernel_rfl) (by kernel_rfl) (by kernel_rfl) (λ_ _ _ h=>h) (Or.inr ⟨by kernel_rfl,rfl⟩) (by assumption) (show wpAnyH _ _ _ _ _ _ _ (Act.put _ (some 16) _) _ from ?_);simp only[Act.put,ajf,ajk,ajj];refine ajx (i:=8) (v:=undef) rfl (by kernel_rfl) (by kernel_rfl) (by kernel_rfl) (λ_ _ _ h=>h) (Or.inr ⟨by kernel_rfl,rfl⟩) (by assumption) (show wpAnyH _ _ _ _ _ _ _ (Act.put _ (some 17) _) _ from ?_);simp only[Act.put,ajf,ajk,ajj]
 refine ajx (i:=9) (v:=undef) rfl (by kernel_rfl) (by kernel_rfl) (by kernel_rfl) (λ_ _ _ h=>h) (Or.inr ⟨by kernel_rfl,rfl⟩) (by assumption) (show wpAnyH _ _ _ _ _ _ _ (Act.put _ (some 18) _) _ from ?_);simp only[Act.put,ajf,ajk,ajj];refine ajx (i:=10) (v:=undef) rfl (by kernel_rfl) (by kernel_rfl) (by kernel_rfl) (λ_ _ _ h=>h) (Or.inr ⟨by kernel_rfl,rfl⟩) (by assumption) (show wpAnyH _ _ _ _ _ _ _ (Act.put _ (some 19) _) _ from ?_);simp only[Act.put,ajf,ajk,ajj];refine ajx (i:=11) (v:=undef) rfl (by kernel_rfl) (by kernel_rfl) (by kernel_rfl) (λ_ _ _ h=>h) (Or.inr ⟨by kernel_rfl,rfl⟩) (by assumption) (show wpAnyH _ _ _ _ _ _ _ (Act.put _ (some 20) _) _ from ?_)
 simp only[Act.put,ajf,ajk,ajj];refine ajx (i:=12) (v:=undef) rfl (by kernel_rfl) (by kernel_rfl) (by kernel_rfl) (λ_ _ _ h=>h) (Or.inr ⟨by kernel_rfl,rfl⟩) (by assumption) (show wpAnyH _ _ _ _ _ _ _ (Act.put _ (some 21) _) _ from ?_);simp only[Act.put,ajf,ajk,ajj];refine ajx (i:=13) (v:=undef) rfl (by kernel_rfl) (by kernel_rfl) (by kernel_rfl) (λ_ _ _ h=>h) (Or.inr ⟨by kernel_rfl,rfl⟩) (by assumption) (show wpAnyH _ _ _ _ _ _ _ (Act.put _ (some 22) _) _ from ?_);simp only[Act.put,ajf,ajk,ajj]
 refine ajx (i:=14) (v:=undef) rfl (by kernel_rfl) (by kernel_rfl) (by kernel_rfl) (λ_ _ _ h=>h) (Or.inr ⟨by kernel_rfl,rfl⟩) (by assumption) (show wpAnyH _ _ _ _ _ _ _ (Act.put _ (some 23) _) _ from ?_);simp only[Act.put,ajf,ajk,ajj];refine ajx (i:=15) (v:=?_) rfl (by kernel_rfl) (by kernel_rfl) (by kernel_rfl) (λ_ _ _ h=>h) (Or.inl ⟨by rfl,?_⟩) (by assumption) (show wpAnyH _ _ _ _ _ _ _ (Act.put _ (some 24) _) _ from ?_);rotate_left
 ·(intro w hSw;(try dsimp only at hSw);go_simp;try with_reducible rfl)
 simp only[Act.put,ajf,ajk,ajj];refine ajx (i:=16) (v:=?_) rfl (by kernel_rfl) (by kernel_rfl) (by kernel_rfl) (λ_ _ _ h=>h) (Or.inl ⟨by rfl,?_⟩) (by assumption) (show wpAnyH _ _ _ _ _ _ _ (Act.put _ (some 25) _) _ from ?_);rotate_left
 ·(intro w hSw;(try dsimp only at hSw);go_simp;try with_reducible rfl)
 simp only[Act.put,ajf,ajk,ajj];refine ajx (i:=17) (v:=?_) rfl (by kernel_rfl) (by kernel_rfl) (by kernel_rfl) (λ_ _ _ h=>h) (Or.inl ⟨by rfl,?_⟩) (by assumption) (show wpAnyH _ _ _ _ _ _ _ (Act.put _ (some 26) _) _ from ?_);rotate_left
 ·(intro w hSw;(try dsimp only at hSw);go_simp;try with_reducible rfl)
 simp only[Act.put,ajf,ajk,ajj];refine ajx (i:=18) (v:=?_) rfl (by kernel_rfl) (by kernel_rfl) (by kernel_rfl) (λ_ _ _ h=>h) (Or.inl ⟨by rfl,?_⟩) (by assumption) (show wpAnyH _ _ _ _ _ _ _ (Act.put _ (some 27) _) _ from ?_);rotate_left
 ·(intro w hSw;(try dsimp only at hSw);go_simp;try with_reducible rfl)
 simp only[Act.put,ajf,ajk,ajj];refine ajx (i:=19) (v:=?_) rfl (by kernel_rfl) (by kernel_rfl) (by kernel_rfl) (λ_ _ _ h=>h) (Or.inl ⟨by rfl,?_⟩) (by assumption) (show wpAnyH _ _ _ _ _ _ _ (Act.put _ (some 28) _) _ from ?_);rotate_left
 ·(intro w hSw;(try dsimp only at hSw);go_simp;try with_reducible rfl)
 simp only[Act.put,ajf,ajk,ajj];refine ajx (i:=20) (v:=?_) rfl (by kernel_rfl) (by kernel_rfl) (by kernel_rfl) (λ_ _ _ h=>h) (Or.inl ⟨by rfl,?_⟩) (by assumption) (show wpAnyH _ _ _ _ _ _ _ (Act.put _ (some 29) _) _ from ?_);rotate_left
 ·(intro w hSw;(try dsimp only at hSw);go_simp;try with_reducible rfl)
 simp only[Act.put,ajf,ajk,ajj];refine ajx (i:=21) (v:=?_) rfl (by kernel_rfl) (by kernel_rfl) (by kernel_rfl) (λ_ _ _ h=>h) (Or.inl ⟨by rfl,?_⟩) (by assumption) (show wpAnyH _ _ _ _ _ _ _ (Act.put _ (some 30) _) _ from ?_);rotate_left
 ·(intro w hSw;(try dsimp only at hSw);go_simp;try with_reducible rfl)
 simp only[Act.put,ajf,ajk,ajj];refine ajx (i:=22) (v:=?_) rfl (by kernel_rfl) (by kernel_rfl) (by kernel_rfl) (λ_ _ _ h=>h) (Or.inl ⟨by rfl,?_⟩) (by assumption) (show wpAnyH _ _ _ _ _ _ _ (Act.put _ (some 31) _) _ from ?_);rotate_left
 ·(intro w hSw;(try dsimp only at hSw);go_simp;try with_reducible rfl)
 simp only[Act.put,ajf,ajk,ajj];refine ajx (i:=23) (v:=?_) rfl (by kernel_rfl) (by kernel_rfl) (by kernel_rfl) (λ_ _ _ h=>h) (Or.inl ⟨by rfl,?_⟩) (by assumption) (show wpAnyH _ _ _ _ _ _ _ (Act.put _ (some 32) _) _ from ?_);rotate_left
 ·(intro w hSw;(try dsimp only at hSw);go_simp;try with_reducible rfl)
 simp only[Act.put,ajf,ajk,ajj];refine ajx (i:=24) (v:=?_) rfl (by kernel_rfl) (by kernel_rfl) (by kernel_rfl) (λ_ _ _ h=>h) (Or.inl ⟨by rfl,?_⟩) (by assumption) (show wpAnyH _ _ _ _ _ _ _ (Act.put _ (some 33) _) _ from ?_);rotate_left
 ·(intro w hSw;(try dsimp only at hSw);go_simp;try with_reducible rfl)
 simp only[Act.put,ajf,ajk,ajj];refine ajx (i:=25) (v:=?_) rfl (by kernel_rfl) (by kernel_rfl) (by kernel_rfl) (λ_ _ _ h=>h) (Or.inl ⟨by rfl,?_⟩) (by assumption) (show wpAnyH _ _ _ _ _ _ _ (Act.put _ (some 34) _) _ from ?_);rotate_left
 ·(intro w hSw;(try dsimp only at hSw);go_simp;try with_reducible rfl)
 simp only[Act.put,ajf,ajk,ajj];refine ajx (i:=26) (v:=?_) rfl (by kernel_rfl) (by kernel_rfl) (by kernel_rfl) (λ_ _ _ h=>h) (Or.inl ⟨by rfl,?_⟩) (by assumption) (show wpAnyH _ _ _ _ _ _ _ (Act.put _ (some 35) _) _ from ?_);rotate_left
 ·(intro w hSw;(try dsimp only at hSw);go_simp;try with_reducible rfl)
 simp only[Act.put,ajf,ajk,ajj];refine ajx (i:=29) (v:=?_) rfl (by kernel_rfl) (by kernel_rfl) (by kernel_rfl) (λ_ _ _ h=>h) (Or.inl ⟨by rfl,?_⟩) (by assumption) (show wpAnyH _ _ _ _ _ _ _ (Act.put _ (some 38) _) _ from ?_);rotate_left
 ·(intro w hSw;(try dsimp only at hSw);go_simp;try with_reducible rfl)
 simp only[Act.put,ajf,ajk,ajj];refine ajx (i:=30) (v:=?_) rfl (by kernel_rfl) (by kernel_rfl) (by kernel_rfl) (λ_ _ _ h=>h) (Or.inl ⟨by rfl,?_⟩) (by assumption) (show wpAnyH _ _ _ _ _ _ _ (Act.put _ (some 39) _) _ from ?_);rotate_left
 ·(intro w hSw;(try dsimp only at hSw);go_simp;try with_reducible rfl)
 simp only[Act.put,ajf,ajk,ajj];refine ajx (i:=31) (v:=?_) rfl (by kernel_rfl) (by kernel_rfl) (by kernel_rfl) (λ_ _ _ h=>h) (Or.inl ⟨by rfl,?_⟩) (by assumption) (show wpAnyH _ _ _ _ _ _ _ (Act.put _ (some 40) _) _ from ?_);rotate_left
 ·(intro w hSw;(try dsimp only at hSw);go_simp;try with_reducible rfl)
 simp only[Act.put,ajf,ajk,ajj];refine ajx (i:=32) (v:=?_) rfl (by kernel_rfl) (by kernel_rfl) (by kernel_rfl) (λ_ _ _ h=>h) (Or.inl ⟨by rfl,?_⟩) (by assumption) (show wpAnyH _ _ _ _ _ _ _ (Act.put _ (some 41) _) _ from ?_);rotate_left
 ·(intro w hSw;(try dsimp only at hSw);go_simp;try with_reducible rfl)
 simp only[Act.put,ajf,ajk,ajj];refine ajx (i:=33) (v:=?_) rfl (by kernel_rfl) (by kernel_rfl) (by kernel_rfl) (λ_ _ _ h=>h) (Or.inl ⟨by rfl,?_⟩) (by assumption) (show wpAnyH _ _ _ _ _ _ _ (Act.put _ (some 42) _) _ from ?_);rotate_left
 ·(intro w hSw;(try dsimp only at hSw);go_simp;try with_reducible rfl)
 simp only[Act.put,ajf,ajk,ajj];refine ank (rs:=[27]) (by kernel_rfl) (by simp) ?_;refine anh rfl (λK hK=>?_) anj;go_simp;go_wp2_with (go_at_call 98;refine(ah PZ _).mono ?_;rintro e w3 ⟨rfl,b3⟩;obtain⟨k3,B3⟩:=ah HK w3 b3);refine hK.out _ _ k3 (λXc=>?_);clear hK K;refine ajx (i:=28) (v:=?_) rfl (by kernel_rfl) (by kernel_rfl) (by kernel_rfl) (λ_ _ _ h=>h) (Or.inl ⟨by rfl,?_⟩) (by assumption) (show wpAnyH _ _ _ _ _ _ _ (Act.put _ (some 37) _) _ from ?_);rotate_left
 ·(intro w hSw;(try dsimp only at hSw);go_simp;try with_reducible rfl)
 simp only[Act.put,ajf,ajk,ajj];refine ajx (i:=34) (v:=?_) rfl (by kernel_rfl) (by kernel_rfl) (by kernel_rfl) (λ_ _ _ h=>h) (Or.inl ⟨by rfl,?_⟩) (by assumption) (show wpAnyH _ _ _ _ _ _ _ (Act.put _ (some 43) _) _ from ?_);rotate_left
 ·(intro w hSw;(try dsimp only at hSw);go_simp;try with_reducible rfl)
 simp only[Act.put,ajf,ajk,ajj];refine ajx (i:=35) (v:=?_) rfl (by kernel_rfl) (by kernel_rfl) (by kernel_rfl) (λ_ _ _ h=>h) (Or.inl ⟨by rfl,?_⟩) (by assumption) (show wpAnyH _ _ _ _ _ _ _ (Act.put _ (some 44) _) _ from ?_);rotate_left
 ·(intro w hSw;(try dsimp only at hSw);go_simp;try with_reducible rfl)
 simp only[Act.put,ajf,ajk,ajj];refine ajx (i:=36) (v:=?_) rfl (by kernel_rfl) (by kernel_rfl) (by kernel_rfl) (λ_ _ _ h=>h) (Or.inl ⟨by rfl,?_⟩) (by assumption) (show wpAnyH _ _ _ _ _ _ _ (Act.put _ (some 45) _) _ from ?_);rotate_left
 ·(intro w hSw;(try dsimp only at hSw);go_simp;try with_reducible rfl)
 simp only[Act.put,ajf,ajk,ajj];refine ajx (i:=37) (v:=?_) rfl (by kernel_rfl) (by kernel_rfl) (by kernel_rfl) (λ_ _ _ h=>h) (Or.inl ⟨by rfl,?_⟩) (by assumption) (show wpAnyH _ _ _ _ _ _ _ (Act.put _ (some 4) _) _ from ?_);rotate_left
 ·(intro w hSw;(try dsimp only at hSw);go_simp;try with_reducible rfl)
 simp only[Act.put,ajf,ajk,ajj];refine wpAnyH_done (by kernel_rfl) ?_ _;go_wp2_with fail;go_ret;exact⟨by rw[ah E3];rfl,B3⟩
end
section
variable {Has:World->Nat->Nat->(Nat->Prop)->Int->List ay->Prop}{SH:World->Nat->Nat->(Nat->Prop)->aJ->Prop}{F0 Cs:Nat->Prop}{w wr:World}{B x:Nat}{a:Option Addr}{c:Nat}{mb:Option Nat}{P:Pn.cu}{m size:Int}{st:dW}
theorem aaN (U:vC Has SH)(h:fF Has SH F0 Cs w wr B x a c mb P m size st)(hf:Fit P m size st)(hB:B<=w.heap.size)(y:Po)(hy:dZ y)(hA:¬(nth P.v 0≠0/\nth P.v 0<=(st.s.l.length:Int)))(hM0:nth P.v 0≠0)(hM1:nth P.v 1≠0) :
 Calls prog 100 #[.pointer (some ⟨x,0,none⟩),G5 y] wr λe w'=>e=.returned (.bool (bM P st.s.l y))/\Below wr.heap.size wr w':=by
 have b0:Below wr.heap.size wr (wr.alloc (jq y)):=(ajb _ _).alloc (Xc _) _;have r1:=h.below U.H U.S b0;have p1:=qP.new wr y;have hk:=hf.rY.ok;have P1:=aj (fG r1);have P2:=aj (λ(W:World) (q:Nat) (G:Nat->Prop) (hS:SH W B q G st.s) (hW:B<=W.heap.size)=>U.S.lU.BX hS hk hW);have hBr:=aje hB r1.room;have HW:=aj (λ(W:World) (hW:Below (wr.alloc (jq y)).heap.size (wr.alloc (jq y)) W)=>show PBx W x P a c/\qP W wr.heap.size y/\Below wr.heap.size wr W from⟨(r1.below U.H U.S hW).plan,p1.below hW,ak b0 hW⟩);have hbytes:=hk.bytes;have PZ:=aj (λW=>nC y hy W)
 have hz:qm y<=422212465065984:=by
  have h1:=hy.s;have h2:=hy.h;have h3:=hy.d;unfold qm;omega
 have hfew:=hk.iW;have xY:Hid (bM P st.s.l y=((decide (nth P.v 0≠0)&&decide (nth P.v 0<=(st.s.l.length:Int)))||(decide (nth P.v 1≠0)&&decide (nth P.v 1<(bI st.s.l:Int)+(qm y:Int))))):=aj (by unfold bM pv;rw[amF]);obtain⟨L,hL⟩:∃L,st.s.l.length=L:=⟨_,rfl⟩;obtain⟨K,hK⟩:∃K,bI st.s.l=K:=⟨_,rfl⟩;obtain⟨Z,hZ⟩:∃Z,qm y=Z:=⟨_,rfl⟩;rw[hL,hK] at P2;rw[hL,hK,hZ] at xY;rw[hZ] at PZ hz;rw[hL] at hfew;rw[hL] at hA;rw[hK] at hbytes;generalize dU st.s.l=fq at *;have hwz:IntKind.i64.wrap ((K:Int)+(Z:Int))=(K:Int)+(Z:Int):=by rw[ajq];omega
 clear h hf hk r1 p1 b0 hy hL hK hZ;go_enter func100,ntmps100;go_wp2_with fail;refine(ah P1).mono ?_;rintro e w1 ⟨q,G,rfl,h1,b1⟩;have P3:=aj (ah P2 w1 q G h1 (aje hBr b1.size));have B1:=aj b1;clear P1 P2 h1 b1;go_wp2_with fail;refine(ah P3).mono ?_;rintro e w2 ⟨rfl,b2⟩;have B2:=aj (ak (ah B1) b2);clear P3 b2 B1;obtain⟨hp2,hy2,hb2⟩:=ah HW w2 (ah B2);have HB2:=aj hb2;have hx2:=hp2.lt;have c2:=hp2.c2;have c3:=hp2.c3;have hby:=hy2.lt;have bA:Below w2.heap.size w2 (w2.alloc (.cells #[.int .i64 (L:Int),.int .i64 (K:Int),.int .i64 fq,.int .i64 st.s.last] 60)):=(ajb _ _).alloc (Xc _) _
 have HB3:=aj (λn=>below_drewN (ak hb2 bA) n);have k0:AtF x (nth P.v 0) (nth P.v 1) wr.heap.size y w2.heap.size (L:Int) (K:Int) (w2.alloc (.cells #[.int .i64 (L:Int),.int .i64 (K:Int),.int .i64 fq,.int .i64 st.s.last] 60)).drew:=by
  have hy3:=(hy2.below bA).below (ajb _ _).drew;have hp3:=(hp2.next bA).next (ajb _ _).drew;exact⟨hp3.c2,hp3.c3,hy3.c0,hy3.c1,hy3.c2,hy3.c3,hy3.c4,hy3.c5,by simp,by simp⟩
 have HK:=aj (λ(W:World) (hW:Below (w2.alloc (.cells #[.int .i64 (L:Int),.int .i64 (K:Int),.int .i64 fq,.int .i64 st.s.last] 60)).drew.heap.size (w2.alloc (.cells #[.int .i64 (L:Int),.int .i64 (K:Int),.int .i64 fq,.int .i64 st.s.last] 60)).drew W)=>show AtF x (nth P.v 0) (nth P.v 1) wr.heap.size y w2.heap.size (L:Int) (K:Int) W/\Below wr.heap.size wr W from by
  have hy3:=((hy2.below bA).below (ajb _ _).drew).below hW;have hp3:=((hp2.next bA).next (ajb _ _).drew).next hW;exact⟨⟨hp3.c2,hp3.c3,hy3.c0,hy3.c1,hy3.c2,hy3.c3,hy3.c4,hy3.c5,(hW.cell (p:=⟨w2.heap.size,0,none⟩) (by simp)).trans k0.2.2.2.2.2.2.2.2.1,(hW.cell (p:=⟨w2.heap.size,1,none⟩) (by simp)).trans k0.2.2.2.2.2.2.2.2.2⟩,ak (ak hb2 bA).drew hW⟩)
 generalize nth P.v 0=M0 at *;generalize nth P.v 1=M1 at *;have hyc:=hy2;obtain⟨_,y0,y1,y2,y3,y4,y5⟩:=hyc;clear hp2 hy2 hb2 bA HW B2 HB2;have e0:(M0 !=0)=true:=by simpa using hM0
 have e4:decide (M0<=(L:Int))=false:=ajd (λz=>hA ⟨hM0,z⟩);have e1:(M1 !=0)=true:=by simpa using hM1
 have e3:bM P st.s.l y=decide (M1<(K:Int)+(Z:Int)):=by rw[ah xY,e4,ajg hM1];simp
 have E3:=aj e3;clear hA e3 xY;go_wp2_with fail;first|(go_region_held_law (AtF x M0 M1 wr.heap.size y w2.heap.size (L:Int) (K:Int)) (first|with_reducible assumption|go_keep)
  (first
   | (go_at_call 98;refine(ah PZ _).mono ?_;rintro e w3 ⟨rfl,b3⟩;obtain⟨k3,B3⟩:=ah HK w3 b3)))|fail
 all_goals (
  go_wp2_with fail
  go_ret
  exact⟨by rw[ah E3];rfl,B3⟩)
end
theorem J7 {Has:World->Nat->Nat->(Nat->Prop)->Int->List ay->Prop}{SH:World->Nat->Nat->(Nat->Prop)->aJ->Prop}{F0 Cs:Nat->Prop}{w wr:World}{B x:Nat}{a:Option Addr}{c:Nat}{mb:Option Nat}{P:Pn.cu}{m size:Int}{st:dW}(U:vC Has SH)(h:fF Has SH F0 Cs w wr B x a c mb P m size st)(hf:Fit P m size st)(hB:B<=w.heap.size)(y:Po)(hy:dZ y) :
 Calls prog 100 #[.pointer (some ⟨x,0,none⟩),G5 y] wr λe w'=>e=.returned (.bool (bM P st.s.l y))/\Below wr.heap.size wr w':=by
 by_cases hA:nth P.v 0≠0/\nth P.v 0<=(st.s.l.length:Int)
 ·exact ad4 U h hf hB y hy hA
 ·by_cases h0:nth P.v 0=0
  ·by_cases h1:nth P.v 1=0
   ·exact aaI U h hf hB y hy h0 h1
   ·exact aaM U h hf hB y hy h0 h1
  ·by_cases h1:nth P.v 1=0
   ·exact aaJ U h hf hB y hy hA h0 h1
   ·exact aaN U h hf hB y hy hA h0 h1
