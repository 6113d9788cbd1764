/- A part. -/
import Derived.Test.YtebofkkfbkodiaaGreatDoorQ43
import Derived.Deep.RegionHeldLaw
set_option maxRecDepth 100000
set_option maxHeartbeats 8000000
namespace Go.Proofs.YtebofkkfbkodiaaGreatDoor
open Go.RowKit Go.Proofs.Tryz
namespace Dk
section
variable {Has:I->Nat->Nat->af->Int->List aB->Prop}{SH:I->Nat->Nat->af->aH->Prop}{F0 Cs:af}{w wr:I}{B x:Nat}{a:Option Addr}{c:Nat}{mb:Option Nat}{P:Pn.aX}{m size:Int}{st:Str}
theorem count_any (T:xU SH)(h:fM Has SH F0 Cs w wr B x a c mb P m size st)(hf:Fit P m size st)(hB:B<=w.heap.size)(s:ad)(hs:s.size<=140737488355328)(hok:aC false s=0) :
 Calls prog 143 #[ae x,.string s] wr λe w'=>e=.returned (aa (qL st.s.l s:Int))/\ai wr w':=by
 have hk:=hf.vM.ok;obtain⟨es,hes⟩:=hk.cnt;have P1:=aj (iF h);have hfo:=YN hes hok (λr hr=>lQ (hk.msg r hr).2 (hk.msg r hr).1);have hBr:=ajA hB h.room;have P2:=aj (λ(W:I) (q:Nat) (G:af) (hS:SH W B q G st.s) (hW:B<=W.heap.size)=>T.Qr s hs hS hk hW hes);obtain⟨N,hN⟩:∃N,qL st.s.l s=N:=⟨_,rfl⟩;rw[hN] at hfo ⊢;clear h hf hk hes hN;go_enter func143,ntmps143;go_wp2_with fail;refine(ah P1).mono ?_;rintro e w1 ⟨q,G,rfl,h1,b1⟩;have P3:=aj (ah P2 w1 q G h1 (ajA hBr b1.size));have B1:=aj b1;clear P1 P2 h1 b1;go_wp2_with fail
 refine(ah P3).mono ?_;rintro e w2 ⟨v,rfl,a2,b2⟩;have B2:=aj (ak (ah B1) b2);clear P3 b2;rw[hfo] at a2;by_cases h0:N=0
 ·rw[if_pos h0] at a2;obtain⟨a',cap,rfl,_⟩:=a2.shape;subst h0;clear a2;go_wp2_with fail;go_ret;exact⟨rfl,ah B2⟩
 ·rw[if_neg h0] at a2;obtain⟨g,cap,rfl,hc1,hc2,_,hg⟩:=a2.there (by simp);have e1:w2.cell? (aq g 1)=some (aa (N:Int)):=a2.num (k:=0) (by simp);have hc3:1<=cap:=by simpa using hc1
  clear a2 hc1;rw[akR];go_wp2_with fail;go_ret;exact⟨rfl,ah B2⟩
end
section
variable {Has:I->Nat->Nat->af->Int->List aB->Prop}{SH:I->Nat->Nat->af->aH->Prop}{F0 Cs:af}{w wr:I}{B x:Nat}{a:Option Addr}{c:Nat}{mb:Option Nat}{P:Pn.aX}{m size:Int}{st:Str}
abbrev AtN (x j:Nat)(N:Int)(b:Nat)(s:ad)(w:I):Prop:=w.cell? (aq x j)=some (aa N)/\w.cell? (aq b 0)=some (.string s)
theorem CV (U:Af Has SH)(T:xU SH)(h:fM Has SH F0 Cs w wr B x a c mb P m size st)(hf:Fit P m size st)(hB:B<=w.heap.size)(y:Po)(hy:jm y)(hok:aC false y.s=0) :
 Calls prog 102 #[ae x,BU y] wr λe w'=>e=.returned (.bool (bT P st.s.l y))/\ai wr w':=by
 have b0:ai wr (wr.alloc (jQ y)):=ax _ _;have bd:ai wr (wr.alloc (jQ y)).drew:=b0.drew;have r1:=h.below U.H U.S bd;have p1:=(vN.new wr y).below (agP _ _).drew;have k0:AtN x 5 (nth P.v 3) wr.heap.size y.s (wr.alloc (jQ y)).drew:=⟨r1.plan.c5,p1.c0⟩;have PC:=aj (count_any T r1 hf hB y.s hy.s hok);have HK:=aj (λ(W:I) (hW:Below (wr.alloc (jQ y)).drew.heap.size (wr.alloc (jQ y)).drew W)=>show AtN x 5 (nth P.v 3) wr.heap.size y.s W/\ai wr W from⟨⟨(r1.below U.H U.S hW).plan.c5,(p1.below hW).c0⟩,ak bd hW⟩)
 have B0:=aj (λn=>below_drewN b0 n);have hx:=h.lt;have c5:=h.plan.c5;unfold bT pv;generalize nth P.v 3=M at *;generalize qL st.s.l y.s=N at *;clear h hf hok r1 p1 b0 bd hy;by_cases hM:M=0
 ·subst hM;go_enter func102,ntmps102;go_wp2_with fail;go_quiet (fail)
  go_wp2_with fail;go_ret;exact⟨rfl,ah B0 _⟩
 ·have e1:(M !=0)=true:=by simpa using hM
  rw[ajH (p:=M≠0) hM,akz];go_enter func102,ntmps102;go_wp2_with fail;first|(go_region_held_law (AtN x 5 M wr.heap.size y.s) (first|assumption|go_keep)
   (first
    | (go_at_call 143;refine(ah PC).mono ?_;rintro e w3 ⟨rfl,b3⟩;obtain⟨k3,B3⟩:=ah HK w3 b3)))|fail
  all_goals (
   go_wp2_with fail
   go_ret
   exact⟨rfl,B3⟩)
end
abbrev AtF (x:Nat)(M0 M1:Int)(b:Nat)(y:Po)(g:Nat)(n k:Int)(w:I):Prop:=w.cell? (aq x 2)=some (aa M0)/\w.cell? (aq x 3)=some (aa M1)/\w.cell? (aq b 0)=some (.string y.s)/\w.cell? (aq b 1)=some (.string y.i)/\w.cell? (aq b 2)=some (.string y.h)/\w.cell? (aq b 3)=some (.string y.d)/\w.cell? (aq b 4)=some (aa y.x)/\w.cell? (aq b 5)=some (aa y.ro)/\w.cell? (aq g 0)=some (aa n)/\w.cell? (aq g 1)=some (aa k)
section
variable {Has:I->Nat->Nat->af->Int->List aB->Prop}{SH:I->Nat->Nat->af->aH->Prop}{F0 Cs:af}{w wr:I}{B x:Nat}{a:Option Addr}{c:Nat}{mb:Option Nat}{P:Pn.aX}{m size:Int}{st:Str}
theorem ac1 (U:Af Has SH)(h:fM Has SH F0 Cs w wr B x a c mb P m size st)(hf:Fit P m size st)(hB:B<=w.heap.size)(y:Po)(hy:jm y)(hA:nth P.v 0≠0/\nth P.v 0<=(st.s.l.length:Int)) :
 Calls prog 103 #[ae x,BU y] wr λe w'=>e=.returned (.bool (bK P st.s.l y))/\ai wr w':=by
 have b0:ai wr (wr.alloc (jQ y)):=ax _ _;have r1:=h.below U.H U.S b0;have p1:=vN.new wr y;have hk:=hf.vM.ok;have P1:=aj (iF r1);have P2:=aj (λ(W:I) (q:Nat) (G:af) (hS:SH W B q G st.s) (hW:B<=W.heap.size)=>U.S.sees.sums hS hk hW);have hBr:=ajA hB r1.room;have HW:=aj (λ(W:I) (hW:Below (wr.alloc (jQ y)).heap.size (wr.alloc (jQ y)) W)=>show YO W x P a c/\vN W wr.heap.size y/\ai wr W from⟨(r1.below U.H U.S hW).plan,p1.below hW,ak b0 hW⟩);have hbytes:=hk.bytes;have PZ:=aj (λW=>lS y hy W)
 have hz:sO y<=422212465065984:=by
  have h1:=hy.s;have h2:=hy.h;have h3:=hy.d;unfold sO;omega
 have hfew:=hk.few;have MP:Hid (bK P st.s.l y=((decide (nth P.v 0≠0)&&decide (nth P.v 0<=(st.s.l.length:Int)))||(decide (nth P.v 1≠0)&&decide (nth P.v 1<(dG st.s.l:Int)+(sO y:Int))))):=aj (by unfold bK pv;rw[amF]);obtain⟨L,hL⟩:∃L,st.s.l.length=L:=⟨_,rfl⟩;obtain⟨K,hK⟩:∃K,dG st.s.l=K:=⟨_,rfl⟩;obtain⟨Z,hZ⟩:∃Z,sO y=Z:=⟨_,rfl⟩;rw[hL,hK] at P2;rw[hL,hK,hZ] at MP;rw[hZ] at PZ hz;rw[hL] at hfew;rw[hL] at hA;rw[hK] at hbytes;generalize jE st.s.l=fq at *;clear h hf hk r1 p1 b0 hy hL hK hZ;go_enter func103,ntmps103;go_wp2_with fail;refine(ah P1).mono ?_;rintro e w1 ⟨q,G,rfl,h1,b1⟩
 have P3:=aj (ah P2 w1 q G h1 (ajA hBr b1.size));have B1:=aj b1;clear P1 P2 h1 b1;go_wp2_with fail;refine(ah P3).mono ?_;rintro e w2 ⟨rfl,b2⟩;have B2:=aj (ak (ah B1) b2);clear P3 b2 B1;obtain⟨hp2,hy2,hb2⟩:=ah HW w2 (ah B2);have HB2:=aj hb2;have hx2:=hp2.lt;have c2:=hp2.c2;have c3:=hp2.c3;have hby:=hy2.lt;have bA:ai w2 (w2.alloc (.cells #[aa (L:Int),aa (K:Int),aa fq,aa st.s.last] 182)):=ax _ _;have HB3:=aj (λn=>below_drewN (ak hb2 bA) n);have k0:AtF x (nth P.v 0) (nth P.v 1) wr.heap.size y w2.heap.size (L:Int) (K:Int) (w2.alloc (.cells #[aa (L:Int),aa (K:Int),aa fq,aa st.s.last] 182)).drew:=by
  have hy3:=(hy2.below bA).below (agP _ _).drew;have hp3:=(hp2.next bA).next (agP _ _).drew;exact⟨hp3.c2,hp3.c3,hy3.c0,hy3.c1,hy3.c2,hy3.c3,hy3.c4,hy3.c5,by simp,by simp⟩
 have HK:=aj (λ(W:I) (hW:Below (w2.alloc (.cells #[aa (L:Int),aa (K:Int),aa fq,aa st.s.last] 182)).drew.heap.size (w2.alloc (.cells #[aa (L:Int),aa (K:Int),aa fq,aa st.s.last] 182)).drew W)=>show AtF x (nth P.v 0) (nth P.v 1) wr.heap.size y w2.heap.size (L:Int) (K:Int) W/\ai wr W from by
  have hy3:=((hy2.below bA).below (agP _ _).drew).below hW;have hp3:=((hp2.next bA).next (agP _ _).drew).next hW;exact⟨⟨hp3.c2,hp3.c3,hy3.c0,hy3.c1,hy3.c2,hy3.c3,hy3.c4,hy3.c5,(hW.cell (p:=aq w2.heap.size 0) (by simp)).trans k0.2.2.2.2.2.2.2.2.1,(hW.cell (p:=aq w2.heap.size 1) (by simp)).trans k0.2.2.2.2.2.2.2.2.2⟩,ak (ak hb2 bA).drew hW⟩)
 generalize nth P.v 0=M0 at *;generalize nth P.v 1=M1 at *;have hyc:=hy2;obtain⟨_,y0,y1,y2,y3,y4,y5⟩:=hyc;clear hp2 hy2 hb2 bA HW B2 HB2;have e1:(M0 !=0)=true:=by simpa using hA.1
 have e2:M0<=(L:Int):=hA.2;have e3:bK P st.s.l y=true:=by rw[ah MP,ajH hA.1,ajH hA.2];rfl
 have E3:=aj e3;clear hA e3 MP PZ HK k0;go_wp2_with fail;go_quiet (fail)
 go_wp2_with fail;go_ret;exact⟨by rw[ah E3];rfl,ah HB3 _⟩
theorem Zt (U:Af Has SH)(h:fM Has SH F0 Cs w wr B x a c mb P m size st)(hf:Fit P m size st)(hB:B<=w.heap.size)(y:Po)(hy:jm y)(hM0:nth P.v 0=0)(hM1:nth P.v 1=0) :
 Calls prog 103 #[ae x,BU y] wr λe w'=>e=.returned (.bool (bK P st.s.l y))/\ai wr w':=by
 have b0:ai wr (wr.alloc (jQ y)):=ax _ _;have r1:=h.below U.H U.S b0;have p1:=vN.new wr y;have hk:=hf.vM.ok;have P1:=aj (iF r1);have P2:=aj (λ(W:I) (q:Nat) (G:af) (hS:SH W B q G st.s) (hW:B<=W.heap.size)=>U.S.sees.sums hS hk hW);have hBr:=ajA hB r1.room;have HW:=aj (λ(W:I) (hW:Below (wr.alloc (jQ y)).heap.size (wr.alloc (jQ y)) W)=>show YO W x P a c/\vN W wr.heap.size y/\ai wr W from⟨(r1.below U.H U.S hW).plan,p1.below hW,ak b0 hW⟩);have hbytes:=hk.bytes;have PZ:=aj (λW=>lS y hy W)
 have hz:sO y<=422212465065984:=by
  have h1:=hy.s;have h2:=hy.h;have h3:=hy.d;unfold sO;omega
 have hfew:=hk.few;have MP:Hid (bK P st.s.l y=((decide (nth P.v 0≠0)&&decide (nth P.v 0<=(st.s.l.length:Int)))||(decide (nth P.v 1≠0)&&decide (nth P.v 1<(dG st.s.l:Int)+(sO y:Int))))):=aj (by unfold bK pv;rw[amF]);obtain⟨L,hL⟩:∃L,st.s.l.length=L:=⟨_,rfl⟩;obtain⟨K,hK⟩:∃K,dG st.s.l=K:=⟨_,rfl⟩;obtain⟨Z,hZ⟩:∃Z,sO y=Z:=⟨_,rfl⟩;rw[hL,hK] at P2;rw[hL,hK,hZ] at MP;rw[hZ] at PZ hz;rw[hL] at hfew;rw[hK] at hbytes;generalize jE st.s.l=fq at *;clear h hf hk r1 p1 b0 hy hL hK hZ;go_enter func103,ntmps103;go_wp2_with fail;refine(ah P1).mono ?_;rintro e w1 ⟨q,G,rfl,h1,b1⟩
 have P3:=aj (ah P2 w1 q G h1 (ajA hBr b1.size));have B1:=aj b1;clear P1 P2 h1 b1;go_wp2_with fail;refine(ah P3).mono ?_;rintro e w2 ⟨rfl,b2⟩;have B2:=aj (ak (ah B1) b2);clear P3 b2 B1;obtain⟨hp2,hy2,hb2⟩:=ah HW w2 (ah B2);have HB2:=aj hb2;have hx2:=hp2.lt;have c2:=hp2.c2;have c3:=hp2.c3;have hby:=hy2.lt;have bA:ai w2 (w2.alloc (.cells #[aa (L:Int),aa (K:Int),aa fq,aa st.s.last] 182)):=ax _ _;have HB3:=aj (λn=>below_drewN (ak hb2 bA) n);have k0:AtF x (nth P.v 0) (nth P.v 1) wr.heap.size y w2.heap.size (L:Int) (K:Int) (w2.alloc (.cells #[aa (L:Int),aa (K:Int),aa fq,aa st.s.last] 182)).drew:=by
  have hy3:=(hy2.below bA).below (agP _ _).drew;have hp3:=(hp2.next bA).next (agP _ _).drew;exact⟨hp3.c2,hp3.c3,hy3.c0,hy3.c1,hy3.c2,hy3.c3,hy3.c4,hy3.c5,by simp,by simp⟩
 have HK:=aj (λ(W:I) (hW:Below (w2.alloc (.cells #[aa (L:Int),aa (K:Int),aa fq,aa st.s.last] 182)).drew.heap.size (w2.alloc (.cells #[aa (L:Int),aa (K:Int),aa fq,aa st.s.last] 182)).drew W)=>show AtF x (nth P.v 0) (nth P.v 1) wr.heap.size y w2.heap.size (L:Int) (K:Int) W/\ai wr W from by
  have hy3:=((hy2.below bA).below (agP _ _).drew).below hW;have hp3:=((hp2.next bA).next (agP _ _).drew).next hW;exact⟨⟨hp3.c2,hp3.c3,hy3.c0,hy3.c1,hy3.c2,hy3.c3,hy3.c4,hy3.c5,(hW.cell (p:=aq w2.heap.size 0) (by simp)).trans k0.2.2.2.2.2.2.2.2.1,(hW.cell (p:=aq w2.heap.size 1) (by simp)).trans k0.2.2.2.2.2.2.2.2.2⟩,ak (ak hb2 bA).drew hW⟩)
 generalize nth P.v 0=M0 at *;generalize nth P.v 1=M1 at *;have hyc:=hy2;obtain⟨_,y0,y1,y2,y3,y4,y5⟩:=hyc;clear hp2 hy2 hb2 bA HW B2 HB2;have e3:bK P st.s.l y=false:=by rw[ah MP,hM0,hM1];rfl
 have E3:=aj e3;subst hM0 hM1;clear e3 MP PZ HK k0;go_wp2_with fail;go_quiet (fail)
 go_wp2_with fail;go_ret;exact⟨by rw[ah E3];rfl,ah HB3 _⟩
theorem Zu (U:Af Has SH)(h:fM Has SH F0 Cs w wr B x a c mb P m size st)(hf:Fit P m size st)(hB:B<=w.heap.size)(y:Po)(hy:jm y)(hA:¬(nth P.v 0≠0/\nth P.v 0<=(st.s.l.length:Int)))(hM0:nth P.v 0≠0)(hM1:nth P.v 1=0) :
 Calls prog 103 #[ae x,BU y] wr λe w'=>e=.returned (.bool (bK P st.s.l y))/\ai wr w':=by
 have b0:ai wr (wr.alloc (jQ y)):=ax _ _;have r1:=h.below U.H U.S b0;have p1:=vN.new wr y;have hk:=hf.vM.ok;have P1:=aj (iF r1);have P2:=aj (λ(W:I) (q:Nat) (G:af) (hS:SH W B q G st.s) (hW:B<=W.heap.size)=>U.S.sees.sums hS hk hW);have hBr:=ajA hB r1.room;have HW:=aj (λ(W:I) (hW:Below (wr.alloc (jQ y)).heap.size (wr.alloc (jQ y)) W)=>show YO W x P a c/\vN W wr.heap.size y/\ai wr W from⟨(r1.below U.H U.S hW).plan,p1.below hW,ak b0 hW⟩);have hbytes:=hk.bytes;have PZ:=aj (λW=>lS y hy W)
 have hz:sO y<=422212465065984:=by
  have h1:=hy.s;have h2:=hy.h;have h3:=hy.d;unfold sO;omega
 have hfew:=hk.few;have MP:Hid (bK P st.s.l y=((decide (nth P.v 0≠0)&&decide (nth P.v 0<=(st.s.l.length:Int)))||(decide (nth P.v 1≠0)&&decide (nth P.v 1<(dG st.s.l:Int)+(sO y:Int))))):=aj (by unfold bK pv;rw[amF]);obtain⟨L,hL⟩:∃L,st.s.l.length=L:=⟨_,rfl⟩;obtain⟨K,hK⟩:∃K,dG st.s.l=K:=⟨_,rfl⟩;obtain⟨Z,hZ⟩:∃Z,sO y=Z:=⟨_,rfl⟩;rw[hL,hK] at P2;rw[hL,hK,hZ] at MP;rw[hZ] at PZ hz;rw[hL] at hfew;rw[hL] at hA;rw[hK] at hbytes;generalize jE st.s.l=fq at *;clear h hf hk r1 p1 b0 hy hL hK hZ;go_enter func103,ntmps103;go_wp2_with fail;refine(ah P1).mono ?_;rintro e w1 ⟨q,G,rfl,h1,b1⟩
 have P3:=aj (ah P2 w1 q G h1 (ajA hBr b1.size));have B1:=aj b1;clear P1 P2 h1 b1;go_wp2_with fail;refine(ah P3).mono ?_;rintro e w2 ⟨rfl,b2⟩;have B2:=aj (ak (ah B1) b2);clear P3 b2 B1;obtain⟨hp2,hy2,hb2⟩:=ah HW w2 (ah B2);have HB2:=aj hb2;have hx2:=hp2.lt;have c2:=hp2.c2;have c3:=hp2.c3;have hby:=hy2.lt;have bA:ai w2 (w2.alloc (.cells #[aa (L:Int),aa (K:Int),aa fq,aa st.s.last] 182)):=ax _ _;have HB3:=aj (λn=>below_drewN (ak hb2 bA) n);have k0:AtF x (nth P.v 0) (nth P.v 1) wr.heap.size y w2.heap.size (L:Int) (K:Int) (w2.alloc (.cells #[aa (L:Int),aa (K:Int),aa fq,aa st.s.last] 182)).drew:=by
  have hy3:=(hy2.below bA).below (agP _ _).drew;have hp3:=(hp2.next bA).next (agP _ _).drew;exact⟨hp3.c2,hp3.c3,hy3.c0,hy3.c1,hy3.c2,hy3.c3,hy3.c4,hy3.c5,by simp,by simp⟩
 have HK:=aj (λ(W:I) (hW:Below (w2.alloc (.cells #[aa (L:Int),aa (K:Int),aa fq,aa st.s.last] 182)).drew.heap.size (w2.alloc (.cells #[aa (L:Int),aa (K:Int),aa fq,aa st.s.last] 182)).drew W)=>show AtF x (nth P.v 0) (nth P.v 1) wr.heap.size y w2.heap.size (L:Int) (K:Int) W/\ai wr W from by
  have hy3:=((hy2.below bA).below (agP _ _).drew).below hW;have hp3:=((hp2.next bA).next (agP _ _).drew).next hW;exact⟨⟨hp3.c2,hp3.c3,hy3.c0,hy3.c1,hy3.c2,hy3.c3,hy3.c4,hy3.c5,(hW.cell (p:=aq w2.heap.size 0) (by simp)).trans k0.2.2.2.2.2.2.2.2.1,(hW.cell (p:=aq w2.heap.size 1) (by simp)).trans k0.2.2.2.2.2.2.2.2.2⟩,ak (ak hb2 bA).drew hW⟩)
 generalize nth P.v 0=M0 at *;generalize nth P.v 1=M1 at *;have hyc:=hy2;obtain⟨_,y0,y1,y2,y3,y4,y5⟩:=hyc;clear hp2 hy2 hb2 bA HW B2 HB2;have e0:(M0 !=0)=true:=by simpa using hM0
 have e4:decide (M0<=(L:Int))=false:=ajE (λz=>hA ⟨hM0,z⟩);have e3:bK P st.s.l y=false:=by rw[ah MP,hM1,e4];simp
 have E3:=aj e3;subst hM1;clear hA e3 MP PZ HK k0;go_wp2_with fail;go_quiet (fail)
 go_wp2_with fail;go_ret;exact⟨by rw[ah E3];rfl,ah HB3 _⟩
end
def uP (X last M1:Int)(Z:Nat)(D:Int)(C Fl:Bool):Int:=if X≠-1/\X≠last then 9 else if M1≠0/\M1<(Z:Int) then 8 else if D=1/\(C||Fl)=true then 8 else 0
def MQ (P:Pn.aX)(s:aH)(y:Po):Int:=uP y.x s.last (pv P 1) (sO y) (pv P 5) (bT P s.l y) (bK P s.l y)
abbrev AtG (x:Nat)(M1:Int)(b:Nat)(y:Po)(w:I):Prop:=w.cell? (aq x 3)=some (aa M1)/\w.cell? (aq b 0)=some (.string y.s)/\w.cell? (aq b 1)=some (.string y.i)/\w.cell? (aq b 2)=some (.string y.h)/\w.cell? (aq b 3)=some (.string y.d)/\w.cell? (aq b 4)=some (aa y.x)/\w.cell? (aq b 5)=some (aa y.ro)
abbrev AtE (b:Nat)(X:Int)(w:I):Prop:=w.cell? (aq b 4)=some (aa X)
section
variable {Has:I->Nat->Nat->af->Int->List aB->Prop}{SH:I->Nat->Nat->af->aH->Prop}{F0 Cs:af}{w wr:I}{B x:Nat}{a:Option Addr}{c:Nat}{mb:Option Nat}{P:Pn.aX}{m size:Int}{st:Str}
theorem GI (U:Af Has SH)(T:xU SH)(h:fM Has SH F0 Cs w wr B x a c mb P m size st)(hf:Fit P m size st)(hB:B<=w.heap.size)(y:Po)(hy:jm y)(hok:aC false y.s=0)
 (IF:∀W,fM Has SH F0 Cs w W B x a c mb P m size st->Calls prog 103 #[ae x,BU y] W λe w'=>e=.returned (.bool (bK P st.s.l y))/\ai W w') :
 Calls prog 60 #[ae x,BU y] wr λe w'=>e=.returned (aa (MQ P st.s y))/\ai wr w':=by
 have b0:ai wr (wr.alloc (jQ y)):=ax _ _;have r1:=h.below U.H U.S b0;have p1:=vN.new wr y;have hk:=hf.vM.ok;have HW:Hid (∀W:I,Below (wr.alloc (jQ y)).heap.size (wr.alloc (jQ y)) W->x<W.heap.size/\W.cell? (aq x 3)=some (aa (nth P.v 1))/\W.cell? (aq x 7)=some (aa (nth P.v 5))/\vN W wr.heap.size y/\ai wr W):=aj (λW hW=>⟨(r1.below U.H U.S hW).lt,(r1.below U.H U.S hW).plan.c3,(r1.below U.H U.S hW).plan.c7,p1.below hW,ak b0 hW⟩);have gQ:Hid (∀W:I,Below (wr.alloc (jQ y)).heap.size (wr.alloc (jQ y)) W->ai wr W):=aj (λW hW=>ak b0 hW)
 have zW:=aj (λ(W:I) (hW:Below (wr.alloc (jQ y)).heap.size (wr.alloc (jQ y)) W)=>CV U T (r1.below U.H U.S hW) hf hB y hy hok);have Zv:=aj (λ(W:I) (hW:Below (wr.alloc (jQ y)).heap.size (wr.alloc (jQ y)) W)=>IF W (r1.below U.H U.S hW));have agG:=aj (iF (r1.below U.H U.S (agP _ _).drew));have PSum:=aj (λ(W:I) (q:Nat) (G:af) (hS:SH W B q G st.s) (hW:B<=W.heap.size)=>U.S.sees.sums hS hk hW);have hBr:=ajA hB (r1.below U.H U.S (agP _ _).drew).room;have PZ:=aj (λW=>lS y hy W);have hx0:=r1.lt;have w4:=p1.c4;have hsl:∀x0 x1 x2 x3:Value,∀W:I,(Instr.field 182 (.agg #[x0,x1,x2,x3]) 3).run prog W=.ok x3 W:=λ_ _ _ _ _=>by kernel_rfl
 unfold MQ pv;generalize nth P.v 1=M1 at *;generalize nth P.v 5=D at *;generalize sO y=Z at *;generalize bT P st.s.l y=C at *;generalize bK P st.s.l y=Fl at *;generalize st.s.last=last at *;clear h hf hk r1 p1 b0 hy IF hok;by_cases hX1:y.x=-1
 ·have hE:¬(y.x≠-1/\y.x≠last):=λz=>z.1 hX1
  have e0:(y.x !=-1)=false:=by rw[hX1];rfl
  clear hX1;clear agG PSum;go_enter func60,ntmps60;go_wp2_with fail;go_quiet (fail)
  obtain⟨Wc,hWc⟩:∃Wc,Wc=(wr.alloc (jQ y)).drewN nq:=⟨_,rfl⟩;have HBc:Hid (Below (wr.alloc (jQ y)).heap.size (wr.alloc (jQ y)) Wc):=aj (by rw[hWc];exact below_drewN (agP _ _) nq);rw[<-hWc];clear hWc w4;obtain⟨hx,c3,_,hpo,_⟩:=ah HW Wc (ah HBc);have ac2:=hpo;obtain⟨hbl,y0,y1,y2,y3,y4,y5⟩:=hpo;by_cases hM:M1=0
  ·have HR:=aj (show uP y.x last M1 Z D C Fl=if D=1/\(C||Fl)=true then 8 else 0 from by unfold uP;rw[if_neg hE,if_neg (λz=>z.1 hM)]);subst hM;clear ac2;go_wp2_with fail;go_quiet (fail)
   have BD:=aj (below_drewN (ah HBc) nq);have c7:=(ah HW _ (ah BD)).2.2.1;have hx7:=(ah HW _ (ah BD)).1;obtain⟨_,z0,z1,z2,z3,z4,z5⟩:=(ah HW _ (ah BD)).2.2.2.1;by_cases hD:D=1
   ·subst hD;have PS5:=aj (ah zW _ (ah BD));go_wp2_with fail;refine(ah PS5).mono ?_;rintro e w5 ⟨rfl,b5⟩;have B5:=aj (ak (ah BD) b5);have PF5:=aj (ah Zv _ (ah B5));obtain⟨_,v0,v1,v2,v3,v4,v5⟩:=(ah HW _ (ah B5)).2.2.2.1;clear PS5 b5 z0 z1 z2 z3 z4 z5 c7
    cases C with
    | true =>
     go_wp2_with fail;go_ret;exact⟨by rw[ah HR];rfl,ah gQ _ (ah B5)⟩
    | false =>
     go_wp2_with fail;refine(ah PF5).mono ?_;rintro e w6 ⟨rfl,b6⟩;have B6:=aj (ak (ah B5) b6);clear PF5 b6 v0 v1 v2 v3 v4 v5
     cases Fl with
     | true =>
      go_wp2_with fail;go_ret;exact⟨by rw[ah HR];rfl,ah gQ _ (ah B6)⟩
     | false =>
      go_wp2_with fail;go_ret;exact⟨by rw[ah HR];rfl,ah gQ _ (ah B6)⟩
   ·have e7:(D==1)=false:=by rw[ajM];exact hD
    have e8:decide (D=1)=false:=ajE hD;have HR2:=aj ((ah HR).trans (if_neg (λz=>hD z.1)));go_wp2_with fail;go_ret;exact⟨by rw[ah HR2];rfl,ah gQ _ (ah BD)⟩
  ·have e1:(M1 !=0)=true:=by simpa using hM
   have k3:AtG x M1 wr.heap.size y Wc.drew:=by
    have q:=(ah HW Wc.drew (ah HBc).drew);exact⟨q.2.1,q.2.2.2.1.c0,q.2.2.2.1.c1,q.2.2.2.1.c2,q.2.2.2.1.c3,q.2.2.2.1.c4,q.2.2.2.1.c5⟩
   clear ac2 y0 y1 y2 y3 y4 y5 c3;go_wp2_with fail;first|(go_region_held_law (AtG x M1 wr.heap.size y) (first|with_reducible assumption|go_keep)
    (first
     | (go_at_call 101;refine(ah PZ _).mono ?_;rintro e w4 ⟨rfl,b4⟩;have B4:=aj (ak (ah HBc).drew b4);have q4:=ah HW w4 (ah B4);have k4:AtG x M1 wr.heap.size y w4:=⟨q4.2.1,q4.2.2.2.1.c0,q4.2.2.2.1.c1,q4.2.2.2.1.c2,q4.2.2.2.1.c3,q4.2.2.2.1.c4,q4.2.2.2.1.c5⟩;clear b4 q4)))|fail
   clear k3 k4;by_cases hV:M1<(Z:Int)
   ·have HR:=aj (show uP y.x last M1 Z D C Fl=8 from by unfold uP;rw[if_neg hE,if_pos ⟨hM,hV⟩]);go_wp2_with fail;go_ret;exact⟨by rw[ah HR];rfl,ah gQ _ (ah B4)⟩
   ·have HR:=aj (show uP y.x last M1 Z D C Fl=if D=1/\(C||Fl)=true then 8 else 0 from by unfold uP;rw[if_neg hE,if_neg (λz=>hV z.2)]);have hV2:decide (M1<(Z:Int))=false:=ajE hV;have BD:=aj (ah B4);have c7:=(ah HW _ (ah BD)).2.2.1;have hx7:=(ah HW _ (ah BD)).1;obtain⟨_,z0,z1,z2,z3,z4,z5⟩:=(ah HW _ (ah BD)).2.2.2.1;by_cases hD:D=1
    ·subst hD;have PS5:=aj (ah zW _ (ah BD));go_wp2_with fail;refine(ah PS5).mono ?_;rintro e w5 ⟨rfl,b5⟩;have B5:=aj (ak (ah BD) b5);have PF5:=aj (ah Zv _ (ah B5));obtain⟨_,v0,v1,v2,v3,v4,v5⟩:=(ah HW _ (ah B5)).2.2.2.1;clear PS5 b5 z0 z1 z2 z3 z4 z5 c7
     cases C with
     | true =>
      go_wp2_with fail;go_ret;exact⟨by rw[ah HR];rfl,ah gQ _ (ah B5)⟩
     | false =>
      go_wp2_with fail;refine(ah PF5).mono ?_;rintro e w6 ⟨rfl,b6⟩;have B6:=aj (ak (ah B5) b6);clear PF5 b6 v0 v1 v2 v3 v4 v5
      cases Fl with
      | true =>
       go_wp2_with fail;go_ret;exact⟨by rw[ah HR];rfl,ah gQ _ (ah B6)⟩
      | false =>
       go_wp2_with fail;go_ret;exact⟨by rw[ah HR];rfl,ah gQ _ (ah B6)⟩
    ·have e7:(D==1)=false:=by rw[ajM];exact hD
     have e8:decide (D=1)=false:=ajE hD;have HR2:=aj ((ah HR).trans (if_neg (λz=>hD z.1)));go_wp2_with fail;go_ret;exact⟨by rw[ah HR2];rfl,ah gQ _ (ah BD)⟩
 ·have e0:(y.x !=-1)=true:=by simpa using hX1
  have k0:AtE wr.heap.size y.x (wr.alloc (jQ y)).drew:=w4;go_enter func60,ntmps60;go_wp2_with fail;first|(go_region_held_law (AtE wr.heap.size y.x) (first|with_reducible assumption|go_keep)
   (first
    | (go_at_call 34;refine(ah agG).mono ?_;rintro e w1 ⟨q,G,rfl,h1,b1⟩;have B1:=aj (ak (agP (wr.alloc (jQ y)).heap.size (wr.alloc (jQ y))).drew b1);have k1:AtE wr.heap.size y.x w1:=(ah HW w1 (ah B1)).2.2.2.1.c4;have P1:=aj (ah PSum w1 q G h1 (ajA hBr b1.size));clear h1 b1)
    | (go_at_call 100;refine(ah P1).mono ?_;rintro e Wc ⟨rfl,b2⟩;have HBc:=aj (ak (ah B1) b2);have k2:AtE wr.heap.size y.x Wc:=(ah HW Wc (ah HBc)).2.2.2.1.c4;clear b2 P1)))|fail
  clear k0 k1 k2 agG PSum B1 w4;by_cases hX2:y.x=last
  ·have hE:¬(y.x≠-1/\y.x≠last):=λz=>z.2 hX2
   have e2:(y.x !=last)=false:=by rw[hX2];simp
   clear hX2;obtain⟨hx,c3,_,hpo,_⟩:=ah HW Wc (ah HBc);have ac2:=hpo;obtain⟨hbl,y0,y1,y2,y3,y4,y5⟩:=hpo;by_cases hM:M1=0
   ·have HR:=aj (show uP y.x last M1 Z D C Fl=if D=1/\(C||Fl)=true then 8 else 0 from by unfold uP;rw[if_neg hE,if_neg (λz=>z.1 hM)]);subst hM;clear ac2;go_wp2_with fail;go_quiet (fail)
    have BD:=aj (below_drewN (ah HBc) nq);have c7:=(ah HW _ (ah BD)).2.2.1;have hx7:=(ah HW _ (ah BD)).1;obtain⟨_,z0,z1,z2,z3,z4,z5⟩:=(ah HW _ (ah BD)).2.2.2.1;by_cases hD:D=1
    ·subst hD;have PS5:=aj (ah zW _ (ah BD));go_wp2_with fail;refine(ah PS5).mono ?_;rintro e w5 ⟨rfl,b5⟩;have B5:=aj (ak (ah BD) b5);have PF5:=aj (ah Zv _ (ah B5));obtain⟨_,v0,v1,v2,v3,v4,v5⟩:=(ah HW _ (ah B5)).2.2.2.1;clear PS5 b5 z0 z1 z2 z3 z4 z5 c7
     cases C with
     | true =>
      go_wp2_with fail;go_ret;exact⟨by rw[ah HR];rfl,ah gQ _ (ah B5)⟩
     | false =>
      go_wp2_with fail;refine(ah PF5).mono ?_;rintro e w6 ⟨rfl,b6⟩;have B6:=aj (ak (ah B5) b6);clear PF5 b6 v0 v1 v2 v3 v4 v5
      cases Fl with
      | true =>
       go_wp2_with fail;go_ret;exact⟨by rw[ah HR];rfl,ah gQ _ (ah B6)⟩
      | false =>
       go_wp2_with fail;go_ret;exact⟨by rw[ah HR];rfl,ah gQ _ (ah B6)⟩
    ·have e7:(D==1)=false:=by rw[ajM];exact hD
     have e8:decide (D=1)=false:=ajE hD;have HR2:=aj ((ah HR).trans (if_neg (λz=>hD z.1)));go_wp2_with fail;go_ret;exact⟨by rw[ah HR2];rfl,ah gQ _ (ah BD)⟩
   ·have e1:(M1 !=0)=true:=by simpa using hM
    have k3:AtG x M1 wr.heap.size y Wc.drew:=by
     have q:=(ah HW Wc.drew (ah HBc).drew);exact⟨q.2.1,q.2.2.2.1.c0,q.2.2.2.1.c1,q.2.2.2.1.c2,q.2.2.2.1.c3,q.2.2.2.1.c4,q.2.2.2.1.c5⟩
    clear ac2 y0 y1 y2 y3 y4 y5 c3;go_wp2_with fail;first|(go_region_held_law (AtG x M1 wr.heap.size y) (first|with_reducible assumption|go_keep)
     (first
      | (go_at_call 101;refine(ah PZ _).mono ?_;rintro e w4 ⟨rfl,b4⟩;have B4:=aj (ak (ah HBc).drew b4);have q4:=ah HW w4 (ah B4);have k4:AtG x M1 wr.heap.size y w4:=⟨q4.2.1,q4.2.2.2.1.c0,q4.2.2.2.1.c1,q4.2.2.2.1.c2,q4.2.2.2.1.c3,q4.2.2.2.1.c4,q4.2.2.2.1.c5⟩;clear b4 q4)))|fail
    clear k3 k4;by_cases hV:M1<(Z:Int)
    ·have HR:=aj (show uP y.x last M1 Z D C Fl=8 from by unfold uP;rw[if_neg hE,if_pos ⟨hM,hV⟩]);go_wp2_with fail;go_ret;exact⟨by rw[ah HR];rfl,ah gQ _ (ah B4)⟩
    ·have HR:=aj (show uP y.x last M1 Z D C Fl=if D=1/\(C||Fl)=true then 8 else 0 from by unfold uP;rw[if_neg hE,if_neg (λz=>hV z.2)]);have hV2:decide (M1<(Z:Int))=false:=ajE hV;have BD:=aj (ah B4);have c7:=(ah HW _ (ah BD)).2.2.1;have hx7:=(ah HW _ (ah BD)).1;obtain⟨_,z0,z1,z2,z3,z4,z5⟩:=(ah HW _ (ah BD)).2.2.2.1;by_cases hD:D=1
     ·subst hD;have PS5:=aj (ah zW _ (ah BD));go_wp2_with fail;refine(ah PS5).mono ?_;rintro e w5 ⟨rfl,b5⟩;have B5:=aj (ak (ah BD) b5);have PF5:=aj (ah Zv _ (ah B5));obtain⟨_,v0,v1,v2,v3,v4,v5⟩:=(ah HW _ (ah B5)).2.2.2.1;clear PS5 b5 z0 z1 z2 z3 z4 z5 c7
      cases C with
      | true =>
       go_wp2_with fail;go_ret;exact⟨by rw[ah HR];rfl,ah gQ _ (ah B5)⟩
      | false =>
       go_wp2_with fail;refine(ah PF5).mono ?_;rintro e w6 ⟨rfl,b6⟩;have B6:=aj (ak (ah B5) b6);clear PF5 b6 v0 v1 v2 v3 v4 v5
       cases Fl with
       | true =>
        go_wp2_with fail;go_ret;exact⟨by rw[ah HR];rfl,ah gQ _ (ah B6)⟩
       | false =>
        go_wp2_with fail;go_ret;exact⟨by rw[ah HR];rfl,ah gQ _ (ah B6)⟩
     ·have e7:(D==1)=false:=by rw[ajM];exact hD
      have e8:decide (D=1)=false:=ajE hD;have HR2:=aj ((ah HR).trans (if_neg (λz=>hD z.1)));go_wp2_with fail;go_ret;exact⟨by rw[ah HR2];rfl,ah gQ _ (ah BD)⟩
  ·have HR:=aj (show uP y.x last M1 Z D C Fl=9 from by unfold uP;rw[if_pos ⟨hX1,hX2⟩]);have e2:(y.x !=last)=true:=by simpa using hX2
   go_wp2_with fail;go_ret;exact⟨by rw[ah HR];rfl,ah gQ _ (ah HBc)⟩
end
section
variable {Has:I->Nat->Nat->af->Int->List aB->Prop}{SH:I->Nat->Nat->af->aH->Prop}{F0 Cs:af}{w wr:I}{B x:Nat}{a:Option Addr}{c:Nat}{mb:Option Nat}{P:Pn.aX}{m size:Int}{st:Str}
theorem Zw (U:Af Has SH)(h:fM Has SH F0 Cs w wr B x a c mb P m size st)(hf:Fit P m size st)(hB:B<=w.heap.size)(y:Po)(hy:jm y)(hM0:nth P.v 0=0)(hM1:nth P.v 1≠0) :
 Calls prog 103 #[ae x,BU y] wr λe w'=>e=.returned (.bool (bK P st.s.l y))/\ai wr w':=by
 have b0:ai wr (wr.alloc (jQ y)):=ax _ _;have r1:=h.below U.H U.S b0;have p1:=vN.new wr y;have hk:=hf.vM.ok;have P1:=aj (iF r1);have P2:=aj (λ(W:I) (q:Nat) (G:af) (hS:SH W B q G st.s) (hW:B<=W.heap.size)=>U.S.sees.sums hS hk hW);have hBr:=ajA hB r1.room;have HW:=aj (λ(W:I) (hW:Below (wr.alloc (jQ y)).heap.size (wr.alloc (jQ y)) W)=>show YO W x P a c/\vN W wr.heap.size y/\ai wr W from⟨(r1.below U.H U.S hW).plan,p1.below hW,ak b0 hW⟩);have hbytes:=hk.bytes;have PZ:=aj (λW=>lS y hy W)
 have hz:sO y<=422212465065984:=by
  have h1:=hy.s;have h2:=hy.h;have h3:=hy.d;unfold sO;omega
 have hfew:=hk.few;have MP:Hid (bK P st.s.l y=((decide (nth P.v 0≠0)&&decide (nth P.v 0<=(st.s.l.length:Int)))||(decide (nth P.v 1≠0)&&decide (nth P.v 1<(dG st.s.l:Int)+(sO y:Int))))):=aj (by unfold bK pv;rw[amF]);obtain⟨L,hL⟩:∃L,st.s.l.length=L:=⟨_,rfl⟩;obtain⟨K,hK⟩:∃K,dG st.s.l=K:=⟨_,rfl⟩;obtain⟨Z,hZ⟩:∃Z,sO y=Z:=⟨_,rfl⟩;rw[hL,hK] at P2;rw[hL,hK,hZ] at MP;rw[hZ] at PZ hz;rw[hL] at hfew;rw[hK] at hbytes;generalize jE st.s.l=fq at *;have hwz:IntKind.i64.wrap ((K:Int)+(Z:Int))=(K:Int)+(Z:Int):=by rw[akl];omega
 clear h hf hk r1 p1 b0 hy hL hK hZ;go_enter func103,ntmps103;go_wp2_with fail;refine(ah P1).mono ?_;rintro e w1 ⟨q,G,rfl,h1,b1⟩;have P3:=aj (ah P2 w1 q G h1 (ajA hBr b1.size));have B1:=aj b1;clear P1 P2 h1 b1;go_wp2_with fail;refine(ah P3).mono ?_;rintro e w2 ⟨rfl,b2⟩;have B2:=aj (ak (ah B1) b2);clear P3 b2 B1;obtain⟨hp2,hy2,hb2⟩:=ah HW w2 (ah B2);have HB2:=aj hb2;have hx2:=hp2.lt;have c2:=hp2.c2;have c3:=hp2.c3;have hby:=hy2.lt;have bA:ai w2 (w2.alloc (.cells #[aa (L:Int),aa (K:Int),aa fq,aa st.s.last] 182)):=ax _ _
 have HB3:=aj (λn=>below_drewN (ak hb2 bA) n);have k0:AtF x (nth P.v 0) (nth P.v 1) wr.heap.size y w2.heap.size (L:Int) (K:Int) (w2.alloc (.cells #[aa (L:Int),aa (K:Int),aa fq,aa st.s.last] 182)).drew:=by
  have hy3:=(hy2.below bA).below (agP _ _).drew;have hp3:=(hp2.next bA).next (agP _ _).drew;exact⟨hp3.c2,hp3.c3,hy3.c0,hy3.c1,hy3.c2,hy3.c3,hy3.c4,hy3.c5,by simp,by simp⟩
 have HK:=aj (λ(W:I) (hW:Below (w2.alloc (.cells #[aa (L:Int),aa (K:Int),aa fq,aa st.s.last] 182)).drew.heap.size (w2.alloc (.cells #[aa (L:Int),aa (K:Int),aa fq,aa st.s.last] 182)).drew W)=>show AtF x (nth P.v 0) (nth P.v 1) wr.heap.size y w2.heap.size (L:Int) (K:Int) W/\ai wr W from by
  have hy3:=((hy2.below bA).below (agP _ _).drew).below hW;have hp3:=((hp2.next bA).next (agP _ _).drew).next hW;exact⟨⟨hp3.c2,hp3.c3,hy3.c0,hy3.c1,hy3.c2,hy3.c3,hy3.c4,hy3.c5,(hW.cell (p:=aq w2.heap.size 0) (by simp)).trans k0.2.2.2.2.2.2.2.2.1,(hW.cell (p:=aq w2.heap.size 1) (by simp)).trans k0.2.2.2.2.2.2.2.2.2⟩,ak (ak hb2 bA).drew hW⟩)
 generalize nth P.v 0=M0 at *;generalize nth P.v 1=M1 at *;have hyc:=hy2;obtain⟨_,y0,y1,y2,y3,y4,y5⟩:=hyc;clear hp2 hy2 hb2 bA HW B2 HB2;have e1:(M1 !=0)=true:=by simpa using hM1
 have e3:bK P st.s.l y=decide (M1<(K:Int)+(Z:Int)):=by rw[ah MP,hM0,ajH hM1];simp
 have E3:=aj e3;subst hM0;clear e3 MP;go_wp2_with fail;refine wp_region_held_drew (S:=AtF x 0 M1 wr.heap.size y w2.heap.size (L:Int) (K:Int)) (by kernel_rfl) k0 (λhHeld=>?_);refine akj (i:=0) (v:=?_) rfl (by kernel_rfl) (by kernel_rfl) (by kernel_rfl) (λ_ _ _ h=>h) (Or.inl ⟨by rfl,?_⟩) (by assumption) (show wpAnyH _ _ _ _ _ _ _ (Act.put _ (some 9) _) _ from ?_);rotate_left
 ·(intro w hSw;(try dsimp only at hSw);go_simp;try with_reducible rfl)
 simp only[Act.put,ajF,ajK,ajJ];refine akj (i:=1) (v:=?_) rfl (by kernel_rfl) (by kernel_rfl) (by kernel_rfl) (λ_ _ _ h=>h) (Or.inl ⟨by rfl,?_⟩) (by assumption) (show wpAnyH _ _ _ _ _ _ _ (Act.put _ (some 10) _) _ from ?_);rotate_left
 ·(intro w hSw;(try dsimp only at hSw);go_simp;try with_reducible rfl)
 simp only[Act.put,ajF,ajK,ajJ];refine akj (i:=2) (v:=?_) rfl (by kernel_rfl) (by kernel_rfl) (by kernel_rfl) (λ_ _ _ h=>h) (Or.inl ⟨by rfl,?_⟩) (by assumption) (show wpAnyH _ _ _ _ _ _ _ (Act.put _ (some 11) _) _ from ?_);rotate_left
 ·(intro w hSw;(try dsimp only at hSw);go_simp;try with_reducible rfl)
 simp only[Act.put,ajF,ajK,ajJ];refine akj (i:=3) (v:=?_) rfl (by kernel_rfl) (by kernel_rfl) (by kernel_rfl) (λ_ _ _ h=>h) (Or.inl ⟨by rfl,?_⟩) (by assumption) (show wpAnyH _ _ _ _ _ _ _ (Act.put _ (some 12) _) _ from ?_);rotate_left
 ·(intro w hSw;(try dsimp only at hSw);go_simp;try with_reducible rfl)
 simp only[Act.put,ajF,ajK,ajJ];refine akj (i:=4) (v:=?_) rfl (by kernel_rfl) (by kernel_rfl) (by kernel_rfl) (λ_ _ _ h=>h) (Or.inl ⟨by rfl,?_⟩) (by assumption) (show wpAnyH _ _ _ _ _ _ _ (Act.put _ (some 13) _) _ from ?_);rotate_left
 ·(intro w hSw;(try dsimp only at hSw);go_simp;try with_reducible rfl)
 simp only[Act.put,ajF,ajK,ajJ];refine akj (i:=5) (v:=?_) rfl (by kernel_rfl) (by kernel_rfl) (by kernel_rfl) (λ_ _ _ h=>h) (Or.inl ⟨by rfl,?_⟩) (by assumption) (show wpAnyH _ _ _ _ _ _ _ (Act.put _ (some 14) _) _ from ?_);rotate_left
 ·(intro w hSw;(try dsimp only at hSw);go_simp;try with_reducible rfl)
 simp only[Act.put,ajF,ajK,ajJ];refine akj (i:=6) (v:=?_) rfl (by kernel_rfl) (by kernel_rfl) (by kernel_rfl) (λ_ _ _ h=>h) (Or.inl ⟨by rfl,?_⟩) (by assumption) (show wpAnyH _ _ _ _ _ _ _ (Act.put _ (some 15) _) _ from ?_);rotate_left
 ·(intro w hSw;(try dsimp only at hSw);go_simp;try with_reducible rfl)
 simp only[Act.put,ajF,ajK,ajJ];refine akj (i:=7) (v:=undef) rfl (by kernel_rfl) (by kernel_rfl) (by kernel_rfl) (λ_ _ _ h=>h) (Or.inr ⟨by kernel_rfl,rfl⟩) (by assumption) (show wpAnyH _ _ _ _ _ _ _ (Act.put _ (some 16) _) _ from ?_);simp only[Act.put,ajF,ajK,ajJ];refine akj (i:=8) (v:=undef) rfl (by kernel_rfl) (by kernel_rfl) (by kernel_rfl) (λ_ _ _ h=>h) (Or.inr ⟨by kernel_rfl,rfl⟩) (by assumption) (show wpAnyH _ _ _ _ _ _ _ (Act.put _ (some 17) _) _ from ?_);simp only[Act.put,ajF,ajK,ajJ]
 refine akj (i:=9) (v:=undef) rfl (by kernel_rfl) (by kernel_rfl) (by kernel_rfl) (λ_ _ _ h=>h) (Or.inr ⟨by kernel_rfl,rfl⟩) (by assumption) (show wpAnyH _ _ _ _ _ _ _ (Act.put _ (some 18) _) _ from ?_);simp only[Act.put,ajF,ajK,ajJ];refine akj (i:=10) (v:=undef) rfl (by kernel_rfl) (by kernel_rfl) (by kernel_rfl) (λ_ _ _ h=>h) (Or.inr ⟨by kernel_rfl,rfl⟩) (by assumption) (show wpAnyH _ _ _ _ _ _ _ (Act.put _ (some 19) _) _ from ?_);simp only[Act.put,ajF,ajK,ajJ];refine akj (i:=11) (v:=undef) rfl (by kernel_rfl) (by kernel_rfl) (by kernel_rfl) (λ_ _ _ h=>h) (Or.inr ⟨by kernel_rfl,rfl⟩) (by assumption) (show wpAnyH _ _ _ _ _ _ _ (Act.put _ (some 20) _) _ from ?_)
 simp only[Act.put,ajF,ajK,ajJ];refine akj (i:=12) (v:=undef) rfl (by kernel_rfl) (by kernel_rfl) (by kernel_rfl) (λ_ _ _ h=>h) (Or.inr ⟨by kernel_rfl,rfl⟩) (by assumption) (show wpAnyH _ _ _ _ _ _ _ (Act.put _ (some 21) _) _ from ?_);simp only[Act.put,ajF,ajK,ajJ];refine akj (i:=13) (v:=undef) rfl (by kernel_rfl) (by kernel_rfl) (by kernel_rfl) (λ_ _ _ h=>h) (Or.inr ⟨by kernel_rfl,rfl⟩) (by assumption) (show wpAnyH _ _ _ _ _ _ _ (Act.put _ (some 22) _) _ from ?_);simp only[Act.put,ajF,ajK,ajJ]
 refine akj (i:=14) (v:=undef) rfl (by kernel_rfl) (by kernel_rfl) (by kernel_rfl) (λ_ _ _ h=>h) (Or.inr ⟨by kernel_rfl,rfl⟩) (by assumption) (show wpAnyH _ _ _ _ _ _ _ (Act.put _ (some 23) _) _ from ?_);simp only[Act.put,ajF,ajK,ajJ];refine akj (i:=15) (v:=?_) rfl (by kernel_rfl) (by kernel_rfl) (by kernel_rfl) (λ_ _ _ h=>h) (Or.inl ⟨by rfl,?_⟩) (by assumption) (show wpAnyH _ _ _ _ _ _ _ (Act.put _ (some 24) _) _ from ?_);rotate_left
 ·(intro w hSw;(try dsimp only at hSw);go_simp;try with_reducible rfl)
 simp only[Act.put,ajF,ajK,ajJ];refine akj (i:=16) (v:=?_) rfl (by kernel_rfl) (by kernel_rfl) (by kernel_rfl) (λ_ _ _ h=>h) (Or.inl ⟨by rfl,?_⟩) (by assumption) (show wpAnyH _ _ _ _ _ _ _ (Act.put _ (some 25) _) _ from ?_);rotate_left
 ·(intro w hSw;(try dsimp only at hSw);go_simp;try with_reducible rfl)
 simp only[Act.put,ajF,ajK,ajJ];refine akj (i:=17) (v:=?_) rfl (by kernel_rfl) (by kernel_rfl) (by kernel_rfl) (λ_ _ _ h=>h) (Or.inl ⟨by rfl,?_⟩) (by assumption) (show wpAnyH _ _ _ _ _ _ _ (Act.put _ (some 26) _) _ from ?_);rotate_left
 ·(intro w hSw;(try dsimp only at hSw);go_simp;try with_reducible rfl)
 simp only[Act.put,ajF,ajK,ajJ];refine akj (i:=18) (v:=?_) rfl (by kernel_rfl) (by kernel_rfl) (by kernel_rfl) (λ_ _ _ h=>h) (Or.inl ⟨by rfl,?_⟩) (by assumption) (show wpAnyH _ _ _ _ _ _ _ (Act.put _ (some 27) _) _ from ?_);rotate_left
 ·(intro w hSw;(try dsimp only at hSw);go_simp;try with_reducible rfl)
 simp only[Act.put,ajF,ajK,ajJ];refine akj (i:=19) (v:=?_) rfl (by kernel_rfl) (by kernel_rfl) (by kernel_rfl) (λ_ _ _ h=>h) (Or.inl ⟨by rfl,?_⟩) (by assumption) (show wpAnyH _ _ _ _ _ _ _ (Act.put _ (some 28) _) _ from ?_);rotate_left
 ·(intro w hSw;(try dsimp only at hSw);go_simp;try with_reducible rfl)
 simp only[Act.put,ajF,ajK,ajJ];refine akj (i:=20) (v:=?_) rfl (by kernel_rfl) (by kernel_rfl) (by kernel_rfl) (λ_ _ _ h=>h) (Or.inl ⟨by rfl,?_⟩) (by assumption) (show wpAnyH _ _ _ _ _ _ _ (Act.put _ (some 29) _) _ from ?_);rotate_left
 ·(intro w hSw;(try dsimp only at hSw);go_simp;try with_reducible rfl)
 simp only[Act.put,ajF,ajK,ajJ];refine akj (i:=21) (v:=?_) rfl (by kernel_rfl) (by kernel_rfl) (by kernel_rfl) (λ_ _ _ h=>h) (Or.inl ⟨by rfl,?_⟩) (by assumption) (show wpAnyH _ _ _ _ _ _ _ (Act.put _ (some 30) _) _ from ?_);rotate_left
 ·(intro w hSw;(try dsimp only at hSw);go_simp;try with_reducible rfl)
 simp only[Act.put,ajF,ajK,ajJ];refine akj (i:=22) (v:=?_) rfl (by kernel_rfl) (by kernel_rfl) (by kernel_rfl) (λ_ _ _ h=>h) (Or.inl ⟨by rfl,?_⟩) (by assumption) (show wpAnyH _ _ _ _ _ _ _ (Act.put _ (some 31) _) _ from ?_);rotate_left
 ·(intro w hSw;(try dsimp only at hSw);go_simp;try with_reducible rfl)
 simp only[Act.put,ajF,ajK,ajJ];refine akj (i:=23) (v:=?_) rfl (by kernel_rfl) (by kernel_rfl) (by kernel_rfl) (λ_ _ _ h=>h) (Or.inl ⟨by rfl,?_⟩) (by assumption) (show wpAnyH _ _ _ _ _ _ _ (Act.put _ (some 32) _) _ from ?_);rotate_left
 ·(intro w hSw;(try dsimp only at hSw);go_simp;try with_reducible rfl)
 simp only[Act.put,ajF,ajK,ajJ];refine akj (i:=24) (v:=?_) rfl (by kernel_rfl) (by kernel_rfl) (by kernel_rfl) (λ_ _ _ h=>h) (Or.inl ⟨by rfl,?_⟩) (by assumption) (show wpAnyH _ _ _ _ _ _ _ (Act.put _ (some 33) _) _ from ?_);rotate_left
 ·(intro w hSw;(try dsimp only at hSw);go_simp;try with_reducible rfl)
 simp only[Act.put,ajF,ajK,ajJ];refine akj (i:=25) (v:=?_) rfl (by kernel_rfl) (by kernel_rfl) (by kernel_rfl) (λ_ _ _ h=>h) (Or.inl ⟨by rfl,?_⟩) (by assumption) (show wpAnyH _ _ _ _ _ _ _ (Act.put _ (some 34) _) _ from ?_);rotate_left
 ·(intro w hSw;(try dsimp only at hSw);go_simp;try with_reducible rfl)
 simp only[Act.put,ajF,ajK,ajJ];refine akj (i:=26) (v:=?_) rfl (by kernel_rfl) (by kernel_rfl) (by kernel_rfl) (λ_ _ _ h=>h) (Or.inl ⟨by rfl,?_⟩) (by assumption) (show wpAnyH _ _ _ _ _ _ _ (Act.put _ (some 35) _) _ from ?_);rotate_left
 ·(intro w hSw;(try dsimp only at hSw);go_simp;try with_reducible rfl)
 simp only[Act.put,ajF,ajK,ajJ];refine akj (i:=29) (v:=?_) rfl (by kernel_rfl) (by kernel_rfl) (by kernel_rfl) (λ_ _ _ h=>h) (Or.inl ⟨by rfl,?_⟩) (by assumption) (show wpAnyH _ _ _ _ _ _ _ (Act.put _ (some 38) _) _ from ?_);rotate_left
 ·(intro w hSw;(try dsimp only at hSw);go_simp;try with_reducible rfl)
 simp only[Act.put,ajF,ajK,ajJ];refine akj (i:=30) (v:=?_) rfl (by kernel_rfl) (by kernel_rfl) (by kernel_rfl) (λ_ _ _ h=>h) (Or.inl ⟨by rfl,?_⟩) (by assumption) (show wpAnyH _ _ _ _ _ _ _ (Act.put _ (some 39) _) _ from ?_);rotate_left
 ·(intro w hSw;(try dsimp only at hSw);go_simp;try with_reducible rfl)
 simp only[Act.put,ajF,ajK,ajJ];refine akj (i:=31) (v:=?_) rfl (by kernel_rfl) (by kernel_rfl) (by kernel_rfl) (λ_ _ _ h=>h) (Or.inl ⟨by rfl,?_⟩) (by assumption) (show wpAnyH _ _ _ _ _ _ _ (Act.put _ (some 40) _) _ from ?_);rotate_left
 ·(intro w hSw;(try dsimp only at hSw);go_simp;try with_reducible rfl)
 simp only[Act.put,ajF,ajK,ajJ];refine akj (i:=32) (v:=?_) rfl (by kernel_rfl) (by kernel_rfl) (by kernel_rfl) (λ_ _ _ h=>h) (Or.inl ⟨by rfl,?_⟩) (by assumption) (show wpAnyH _ _ _ _ _ _ _ (Act.put _ (some 41) _) _ from ?_);rotate_left
 ·(intro w hSw;(try dsimp only at hSw);go_simp;try with_reducible rfl)
 simp only[Act.put,ajF,ajK,ajJ];refine akj (i:=33) (v:=?_) rfl (by kernel_rfl) (by kernel_rfl) (by kernel_rfl) (λ_ _ _ h=>h) (Or.inl ⟨by rfl,?_⟩) (by assumption) (show wpAnyH _ _ _ _ _ _ _ (Act.put _ (some 42) _) _ from ?_);rotate_left
 ·(intro w hSw;(try dsimp only at hSw);go_simp;try with_reducible rfl)
 simp only[Act.put,ajF,ajK,ajJ];refine wpAnyH_ready (rs:=[27]) (by kernel_rfl) (by simp) ?_;refine AllReadyH.cons rfl (λK hK=>?_) AllReadyH.nil;go_simp;go_wp2_with (go_at_call 101;refine(ah PZ _).mono ?_;rintro e w3 ⟨rfl,b3⟩;obtain⟨k3,B3⟩:=ah HK w3 b3);refine hK.out _ _ k3 (λagH=>?_);clear hK K;refine akj (i:=28) (v:=?_) rfl (by kernel_rfl) (by kernel_rfl) (by kernel_rfl) (λ_ _ _ h=>h) (Or.inl ⟨by rfl,?_⟩) (by assumption) (show wpAnyH _ _ _ _ _ _ _ (Act.put _ (some 37) _) _ from ?_);rotate_left
 ·(intro w hSw;(try dsimp only at hSw);go_simp;try with_reducible rfl)
 simp only[Act.put,ajF,ajK,ajJ];refine akj (i:=34) (v:=?_) rfl (by kernel_rfl) (by kernel_rfl) (by kernel_rfl) (λ_ _ _ h=>h) (Or.inl ⟨by rfl,?_⟩) (by assumption) (show wpAnyH _ _ _ _ _ _ _ (Act.put _ (some 43) _) _ from ?_);rotate_left
 ·(intro w hSw;(try dsimp only at hSw);go_simp;try with_reducible rfl)
 simp only[Act.put,ajF,ajK,ajJ];refine akj (i:=35) (v:=?_) rfl (by kernel_rfl) (by kernel_rfl) (by kernel_rfl) (λ_ _ _ h=>h) (Or.inl ⟨by rfl,?_⟩) (by assumption) (show wpAnyH _ _ _ _ _ _ _ (Act.put _ (some 44) _) _ from ?_);rotate_left
 ·(intro w hSw;(try dsimp only at hSw);go_simp;try with_reducible rfl)
 simp only[Act.put,ajF,ajK,ajJ];refine akj (i:=36) (v:=?_) rfl (by kernel_rfl) (by kernel_rfl) (by kernel_rfl) (λ_ _ _ h=>h) (Or.inl ⟨by rfl,?_⟩) (by assumption) (show wpAnyH _ _ _ _ _ _ _ (Act.put _ (some 45) _) _ from ?_);rotate_left
 ·(intro w hSw;(try dsimp only at hSw);go_simp;try with_reducible rfl)
 simp only[Act.put,ajF,ajK,ajJ];refine akj (i:=37) (v:=?_) rfl (by kernel_rfl) (by kernel_rfl) (by kernel_rfl) (λ_ _ _ h=>h) (Or.inl ⟨by rfl,?_⟩) (by assumption) (show wpAnyH _ _ _ _ _ _ _ (Act.put _ (some 4) _) _ from ?_);rotate_left
 ·(intro w hSw;(try dsimp only at hSw);go_simp;try with_reducible rfl)
 simp only[Act.put,ajF,ajK,ajJ];refine wpAnyH_done (by kernel_rfl) ?_ _;go_wp2_with fail;go_ret;exact⟨by rw[ah E3];rfl,B3⟩
end
section
variable {Has:I->Nat->Nat->af->Int->List aB->Prop}{SH:I->Nat->Nat->af->aH->Prop}{F0 Cs:af}{w wr:I}{B x:Nat}{a:Option Addr}{c:Nat}{mb:Option Nat}{P:Pn.aX}{m size:Int}{st:Str}
theorem Zx (U:Af Has SH)(h:fM Has SH F0 Cs w wr B x a c mb P m size st)(hf:Fit P m size st)(hB:B<=w.heap.size)(y:Po)(hy:jm y)(hA:¬(nth P.v 0≠0/\nth P.v 0<=(st.s.l.length:Int)))(hM0:nth P.v 0≠0)(hM1:nth P.v 1≠0) :
 Calls prog 103 #[ae x,BU y] wr λe w'=>e=.returned (.bool (bK P st.s.l y))/\ai wr w':=by
 have b0:ai wr (wr.alloc (jQ y)):=ax _ _;have r1:=h.below U.H U.S b0;have p1:=vN.new wr y;have hk:=hf.vM.ok;have P1:=aj (iF r1);have P2:=aj (λ(W:I) (q:Nat) (G:af) (hS:SH W B q G st.s) (hW:B<=W.heap.size)=>U.S.sees.sums hS hk hW);have hBr:=ajA hB r1.room;have HW:=aj (λ(W:I) (hW:Below (wr.alloc (jQ y)).heap.size (wr.alloc (jQ y)) W)=>show YO W x P a c/\vN W wr.heap.size y/\ai wr W from⟨(r1.below U.H U.S hW).plan,p1.below hW,ak b0 hW⟩);have hbytes:=hk.bytes;have PZ:=aj (λW=>lS y hy W)
 have hz:sO y<=422212465065984:=by
  have h1:=hy.s;have h2:=hy.h;have h3:=hy.d;unfold sO;omega
 have hfew:=hk.few;have MP:Hid (bK P st.s.l y=((decide (nth P.v 0≠0)&&decide (nth P.v 0<=(st.s.l.length:Int)))||(decide (nth P.v 1≠0)&&decide (nth P.v 1<(dG st.s.l:Int)+(sO y:Int))))):=aj (by unfold bK pv;rw[amF]);obtain⟨L,hL⟩:∃L,st.s.l.length=L:=⟨_,rfl⟩;obtain⟨K,hK⟩:∃K,dG st.s.l=K:=⟨_,rfl⟩;obtain⟨Z,hZ⟩:∃Z,sO y=Z:=⟨_,rfl⟩;rw[hL,hK] at P2;rw[hL,hK,hZ] at MP;rw[hZ] at PZ hz;rw[hL] at hfew;rw[hL] at hA;rw[hK] at hbytes;generalize jE st.s.l=fq at *;have hwz:IntKind.i64.wrap ((K:Int)+(Z:Int))=(K:Int)+(Z:Int):=by rw[akl];omega
 clear h hf hk r1 p1 b0 hy hL hK hZ;go_enter func103,ntmps103;go_wp2_with fail;refine(ah P1).mono ?_;rintro e w1 ⟨q,G,rfl,h1,b1⟩;have P3:=aj (ah P2 w1 q G h1 (ajA hBr b1.size));have B1:=aj b1;clear P1 P2 h1 b1;go_wp2_with fail;refine(ah P3).mono ?_;rintro e w2 ⟨rfl,b2⟩;have B2:=aj (ak (ah B1) b2);clear P3 b2 B1;obtain⟨hp2,hy2,hb2⟩:=ah HW w2 (ah B2);have HB2:=aj hb2;have hx2:=hp2.lt;have c2:=hp2.c2;have c3:=hp2.c3;have hby:=hy2.lt;have bA:ai w2 (w2.alloc (.cells #[aa (L:Int),aa (K:Int),aa fq,aa st.s.last] 182)):=ax _ _
 have HB3:=aj (λn=>below_drewN (ak hb2 bA) n);have k0:AtF x (nth P.v 0) (nth P.v 1) wr.heap.size y w2.heap.size (L:Int) (K:Int) (w2.alloc (.cells #[aa (L:Int),aa (K:Int),aa fq,aa st.s.last] 182)).drew:=by
  have hy3:=(hy2.below bA).below (agP _ _).drew;have hp3:=(hp2.next bA).next (agP _ _).drew;exact⟨hp3.c2,hp3.c3,hy3.c0,hy3.c1,hy3.c2,hy3.c3,hy3.c4,hy3.c5,by simp,by simp⟩
 have HK:=aj (λ(W:I) (hW:Below (w2.alloc (.cells #[aa (L:Int),aa (K:Int),aa fq,aa st.s.last] 182)).drew.heap.size (w2.alloc (.cells #[aa (L:Int),aa (K:Int),aa fq,aa st.s.last] 182)).drew W)=>show AtF x (nth P.v 0) (nth P.v 1) wr.heap.size y w2.heap.size (L:Int) (K:Int) W/\ai wr W from by
  have hy3:=((hy2.below bA).below (agP _ _).drew).below hW;have hp3:=((hp2.next bA).next (agP _ _).drew).next hW;exact⟨⟨hp3.c2,hp3.c3,hy3.c0,hy3.c1,hy3.c2,hy3.c3,hy3.c4,hy3.c5,(hW.cell (p:=aq w2.heap.size 0) (by simp)).trans k0.2.2.2.2.2.2.2.2.1,(hW.cell (p:=aq w2.heap.size 1) (by simp)).trans k0.2.2.2.2.2.2.2.2.2⟩,ak (ak hb2 bA).drew hW⟩)
 generalize nth P.v 0=M0 at *;generalize nth P.v 1=M1 at *;have hyc:=hy2;obtain⟨_,y0,y1,y2,y3,y4,y5⟩:=hyc;clear hp2 hy2 hb2 bA HW B2 HB2;have e0:(M0 !=0)=true:=by simpa using hM0
 have e4:decide (M0<=(L:Int))=false:=ajE (λz=>hA ⟨hM0,z⟩);have e1:(M1 !=0)=true:=by simpa using hM1
 have e3:bK P st.s.l y=decide (M1<(K:Int)+(Z:Int)):=by rw[ah MP,e4,ajH hM1];simp
 have E3:=aj e3;clear hA e3 MP;go_wp2_with fail;first|(go_region_held_law (AtF x M0 M1 wr.heap.size y w2.heap.size (L:Int) (K:Int)) (first|with_reducible assumption|go_keep)
  (first
   | (go_at_call 101;refine(ah PZ _).mono ?_;rintro e w3 ⟨rfl,b3⟩;obtain⟨k3,B3⟩:=ah HK w3 b3)))|fail
 all_goals (
  go_wp2_with fail
  go_ret
  exact⟨by rw[ah E3];rfl,B3⟩)
end
theorem GK {Has:I->Nat->Nat->af->Int->List aB->Prop}{SH:I->Nat->Nat->af->aH->Prop}{F0 Cs:af}{w wr:I}{B x:Nat}{a:Option Addr}{c:Nat}{mb:Option Nat}{P:Pn.aX}{m size:Int}{st:Str}(U:Af Has SH)(h:fM Has SH F0 Cs w wr B x a c mb P m size st)(hf:Fit P m size st)(hB:B<=w.heap.size)(y:Po)(hy:jm y) :
 Calls prog 103 #[ae x,BU y] wr λe w'=>e=.returned (.bool (bK P st.s.l y))/\ai wr w':=by
 by_cases hA:nth P.v 0≠0/\nth P.v 0<=(st.s.l.length:Int)
 ·exact ac1 U h hf hB y hy hA
 ·by_cases h0:nth P.v 0=0
  ·by_cases h1:nth P.v 1=0
   ·exact Zt U h hf hB y hy h0 h1
   ·exact Zw U h hf hB y hy h0 h1
  ·by_cases h1:nth P.v 1=0
   ·exact Zu U h hf hB y hy hA h0 h1
   ·exact Zx U h hf hB y hy hA h0 h1
