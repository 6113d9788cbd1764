/- A part. -/
import Derived.Test.YtidekgipblnpkaaGreatDoorQ41
import Derived.Deep.LoopGhost
set_option maxRecDepth 100000
set_option maxHeartbeats 8000000
namespace Go.Proofs.YtidekgipblnpkaaGreatDoor
open Go.RowKit Go.Proofs.Tryz
namespace Dk
def Mk (Has:World->Nat->Nat->(Nat->Prop)->Int->List ay->Prop)(SH:World->Nat->Nat->(Nat->Prop)->aJ->Prop)(F0 Cs:Nat->Prop)(w wr W:World)(B x:Nat)(a:Option Addr)(c:Nat)(mb:Option Nat)(P:Pn.cu)(m size now:Int)(y:Po)(b:Nat)(ids:List Kn)(R:Int×List ay×aJ)(es:List ay)(s:aJ):Prop :=
 fF Has SH F0 (λk=>Cs k\/k=b) w W B x a c mb P m size ⟨es,s,ids⟩/\Fit P m size ⟨es,s,ids⟩/\qP W b y/\aO Cs wr W/\gW P m size now y es s=R/\(pv P 5=1->(bG P s.l y||bM P s.l y)=false)
section
variable {Has:World->Nat->Nat->(Nat->Prop)->Int->List ay->Prop}{SH:World->Nat->Nat->(Nat->Prop)->aJ->Prop}{F0 Cs jR:Nat->Prop}{w wr wo W W':World}{B x:Nat}{a:Option Addr}{c:Nat}{mb:Option Nat}{P:Pn.cu}{m size now:Int}{y:Po}{b:Nat}{ids:List Kn}{R:Int×List ay×aJ}{es:List ay}{s:aJ}{st:dW}
theorem fF.aZ (U:vC Has SH)(h:fF Has SH F0 Cs w wr B x a c mb P m size st)(hC:∀k,jR k->Cs k):fF Has SH F0 jR w wr B x a c mb P m size st:=h.lF U.H U.S (ajb _ _) (λk hk=>.inl (hC k hk))
theorem Mk.below (U:vC Has SH)(h:Mk Has SH F0 Cs w wr W B x a c mb P m size now y b ids R es s)(hb:Below W.heap.size W W'):Mk Has SH F0 Cs w wr W' B x a c mb P m size now y b ids R es s :=
 ⟨h.1.below U.H U.S hb,h.2.1,h.2.2.1.below hb,h.2.2.2.1.trans ((h.1.aZ U (λ_ hk=>.inl hk)).stay hb),h.2.2.2.2⟩
theorem Mk.erase (U:vC Has SH)(V:lV SH)(h:Mk Has SH F0 Cs w wr W B x a c mb P m size now y b ids R es s)(hB:B<=w.heap.size)(hz:¬(pv P 1≠0/\pv P 1<(qm y:Int)))(hc:¬(bG P s.l y||bM P s.l y)=false)(f:ByteArray)(hs:f.size<=140737488355328)(hok:aG true f=0)(hq:nxQ f s.l=Aq P s.l y) :
 ∃D:Int,(D≠0->R=(D,es,s))/\Calls prog 101 #[.pointer (some ⟨x,0,none⟩),.int .i64 now,.string f] W λe w'=>e=.returned (.int .i64 D)/\(D≠0->Mk Has SH F0 Cs w wr w' B x a c mb P m size now y b ids R es s)/\(D=0->∃es' s',Mk Has SH F0 Cs w wr w' B x a c mb P m size now y b ids R es' s'/\s'.l.length<s.l.length/\s'.l.Sublist s.l):=by
 have hp:=uo h.2.1.plan;have hd:pv P 5≠1:=λz=>hc (h.2.2.2.2.2 z)
 have he:=JZ U V h.1 h.2.1 hB now f hs hok;rw[show(⟨es,s,ids⟩:dW).s=s from rfl,show(⟨es,s,ids⟩:dW).es=es from rfl,hq] at he;have hfit:=h.2.1.did (bT (Aq P s.l y) now);refine⟨iJ es s m size (bT (Aq P s.l y) now),λhD=>by rw[<-h.2.2.2.2.1];exact Tt hc hd hD,he.mono ?_⟩;rintro e w' ⟨rfl,r1,s1⟩;have hst:aO Cs W w':=s1.aZ (λk hk=>.inl hk);have hpo:qP w' b y:=h.2.2.1.stay s1 (.inr rfl);refine⟨rfl,λhD=>?_,λhD=>?_⟩
 ·have e1:qL es s m size (bT (Aq P s.l y) now)=es:=by unfold qL;rw[if_neg hD]
  have e2:lq es s m size (bT (Aq P s.l y) now)=s:=by unfold lq;rw[if_neg hD]
  unfold pX at r1;simp only[e1,e2] at r1;exact⟨r1,h.2.1,hpo,h.2.2.2.1.trans hst,h.2.2.2.2⟩
 ·exact⟨_,_,⟨r1,hfit,hpo,h.2.2.2.1.trans hst,(Yr hp hz hc hd hD).symm.trans h.2.2.2.2.1,λz=>absurd z hd⟩,pU hD (go_in hp hz hc),afH hD⟩
theorem P7 (U:vC Has SH)(T:lX SH)(V:lV SH)(h:fF Has SH F0 Cs w wo B x a c mb P m size st)(hf:Fit P m size st)(hB:B<=w.heap.size)(y:Po)(hy:dZ y)(hok:aG false y.s=0)(hz:¬(pv P 1≠0/\pv P 1<(qm y:Int)))(hd:pv P 5=1->(bG P st.s.l y||bM P st.s.l y)=false)
 (IF:∀(jR:Nat->Prop) (W:World) (s':dW),fF Has SH F0 jR w W B x a c mb P m size s'->Fit P m size s'->Calls prog 100 #[.pointer (some ⟨x,0,none⟩),G5 y] W λe w'=>e=.returned (.bool (bM P s'.s.l y))/\Below W.heap.size W w') :
 Calls prog 57 #[.pointer (some ⟨x,0,none⟩),.int .i64 now,G5 y] wo λe w'=>e=.returned (.int .i64 (gW P m size now y st.es st.s).1)/\fF Has SH F0 Cs w w' B x a c mb P m size ⟨(gW P m size now y st.es st.s).2.1,(gW P m size now y st.es st.s).2.2,st.ids⟩/\aO Cs wo w':=by
 have b0:Below wo.heap.size wo (wo.alloc (jq y)):=(ajb _ _).alloc (Xc _) _;obtain⟨R,hR⟩:∃R,gW P m size now y st.es st.s=R:=⟨_,rfl⟩;have hM0:Hid (Mk Has SH F0 Cs w wo (wo.alloc (jq y)) B x a c mb P m size now y wo.heap.size st.ids R st.es st.s):=aj ⟨h.lF U.H U.S b0 (λk hk=>by
  rcases hk with z|z
  ·exact .inl z
  ·exact .inr ⟨by omega,by subst z;simp⟩),hf,qP.new wo y,h.stay b0,hR,hd⟩
 rw[hR];have aaK:Hid (∀(W:World) (es:List ay) (s:aJ),Mk Has SH F0 Cs w wo W B x a c mb P m size now y wo.heap.size st.ids R es s->Calls prog 99 #[.pointer (some ⟨x,0,none⟩),G5 y] W λe w'=>e=.returned (.bool (bG P s.l y))/\Below W.heap.size W w'):=aj (λW es s hm=>Gv U T hm.1 hm.2.1 hB y hy hok);have aaL:Hid (∀(W:World) (es:List ay) (s:aJ),Mk Has SH F0 Cs w wo W B x a c mb P m size now y wo.heap.size st.ids R es s->Calls prog 100 #[.pointer (some ⟨x,0,none⟩),G5 y] W λe w'=>e=.returned (.bool (bM P s.l y))/\Below W.heap.size W w'):=aj (λW es s hm=>IF _ W _ hm.1 hm.2.1)
 have aiP:=aj (λ(W:World) (es:List ay) (s:aJ) (hm:Mk Has SH F0 Cs w wo W B x a c mb P m size now y wo.heap.size st.ids R es s) (hc:bG P s.l y=true)=>hm.erase U V hB hz (by rw[hc];simp) y.s hy.s (lJ hok) (by
  unfold Aq;rw[if_pos hc];exact Wu hm.2.1.rY.ok hok))
 have aiQ:=aj (λ(W:World) (es:List ay) (s:aJ) (hm:Mk Has SH F0 Cs w wo W B x a c mb P m size now y wo.heap.size st.ids R es s) (hc:bG P s.l y=false) (hfu:bM P s.l y=true)=>hm.erase U V hB hz (by rw[hfu];simp) ⟨#[62]⟩ (by decide) acz (by
  unfold Aq;rw[if_neg (by rw[hc];simp)];exact ahd hm.2.1.rY.ok))
 have HMb:=aj (λ(W W':World) (es:List ay) (s:aJ) (hm:Mk Has SH F0 Cs w wo W B x a c mb P m size now y wo.heap.size st.ids R es s) (hb:Below W.heap.size W W')=>hm.below U hb);have dR:Hid (∀(W:World) (es:List ay) (s:aJ),Mk Has SH F0 Cs w wo W B x a c mb P m size now y wo.heap.size st.ids R es s->R.2.1=es->R.2.2=s->fF Has SH F0 Cs w W B x a c mb P m size ⟨R.2.1,R.2.2,st.ids⟩/\aO Cs wo W):=aj (λW es s hm h1 h2=>by
  rw[h1,h2];exact⟨hm.1.aZ U (λk hk=>.inl hk),hm.2.2.2.1⟩)
 obtain⟨n0,hn0⟩:∃n0,n0=st.s.l.length:=⟨_,rfl⟩;have HN0:=aj hn0;obtain⟨W0,hW0⟩:∃W0,W0=wo.alloc (jq y):=⟨_,rfl⟩;rw[<-hW0] at hM0;clear h hf hB hy hok hz hd IF b0 hR hn0;go_enter func57,ntmps57;go_wp2_with fail;rw[<-hW0];clear hW0;go_loopg [] n0 (λk W=>∃(es:List ay) (s:aJ),Hid (Mk Has SH F0 Cs w wo W B x a c mb P m size now y wo.heap.size st.ids R es s)/\Hid (k=s.l.length))
 case atStart=>exact⟨_,_,hM0,HN0⟩
 case round =>
  clear hM0 HN0;obtain⟨es,s,HM,HN⟩:=hrel;obtain⟨hlt,y0,y1,y2,y3,y4,y5⟩:=(ah HM).2.2.1;have PS:=aj (ah aaK _ _ _ (ah HM));obtain⟨C,hC⟩:∃C,bG P s.l y=C:=⟨_,rfl⟩;rw[hC] at PS;have HC:=aj hC;clear hC;go_wp2_with fail;refine(ah PS).mono ?_;rintro e w1 ⟨rfl,b1⟩;have HM1:=aj (ah HMb _ _ _ _ (ah HM) b1);clear PS b1 HM y0 y1 y2 y3 y4 y5 hlt
  cases C with
  | true =>
   obtain⟨D,hD1,hD2⟩:=ah aiP _ _ _ (ah HM1) (ah HC);have PE:=aj hD2;have HD:=aj hD1;have y0:=(ah HM1).2.2.1.c0;clear hD1 hD2;go_wp2_with fail;refine(ah PE).mono ?_;rintro e w2 ⟨rfl,k1,k2⟩;have K1:=aj k1;have K2:=aj k2;clear PE k1 k2 HM1 y0;by_cases h0:D=0
   ·obtain⟨es',s',hm',hl',_⟩:=ah K2 h0;have HM2:=aj hm';have HL:=aj hl';subst h0;clear hm' hl' K1 K2 HD;go_wp2_with fail;go_roundg s'.l.length
    case measure=>have:=ah HL;have:=ah HN;omega
    case rel=>exact⟨_,_,HM2,aj rfl⟩
   ·have e5:(D !=0)=true:=by simpa using h0
    have hr:=ah HD h0;have HE:=aj (ah dR _ _ _ (ah K1 h0) (by rw[hr]) (by rw[hr]));have HR:=aj (show R.1=D from by rw[hr]);clear K1 K2 HD hr;go_wp2_with fail;go_ret;rw[ah HR];exact⟨rfl,ah HE⟩
  | false =>
   obtain⟨n1,hn1⟩:∃n1,n1=s.l.length:=⟨_,rfl⟩;have HN1:=aj hn1;clear hn1 HN;go_wp2_with fail;go_loopg [] n1 (λk W=>∃(es:List ay) (s:aJ),Hid (Mk Has SH F0 Cs w wo W B x a c mb P m size now y wo.heap.size st.ids R es s)/\Hid (k=s.l.length)/\Hid (bG P s.l y=false))
   case atStart=>exact⟨_,_,HM1,HN1,HC⟩
   case round =>
    clear HM1 HN1 HC;obtain⟨es,s,HM,HN,HC⟩:=hrel;obtain⟨hlt,y0,y1,y2,y3,y4,y5⟩:=(ah HM).2.2.1;have PS:=aj (ah aaL _ _ _ (ah HM));obtain⟨C,hC⟩:∃C,bM P s.l y=C:=⟨_,rfl⟩;rw[hC] at PS;have HF:=aj hC;clear hC;go_wp2_with fail;refine(ah PS).mono ?_;rintro e w1 ⟨rfl,b1⟩;have HM1:=aj (ah HMb _ _ _ _ (ah HM) b1);clear PS b1 HM y0 y1 y2 y3 y4 y5 hlt
    cases C with
    | true =>
     obtain⟨D,hD1,hD2⟩:=ah aiQ _ _ _ (ah HM1) (ah HC) (ah HF);have PE:=aj hD2;have HD:=aj hD1;clear hD1 hD2;go_wp2_with fail;refine(ah PE).mono ?_;rintro e w2 ⟨rfl,k1,k2⟩;have K1:=aj k1;have K2:=aj k2;clear PE k1 k2 HM1;by_cases h0:D=0
     ·obtain⟨es',s',hm',hl',hs'⟩:=ah K2 h0;have HM2:=aj hm';have HL:=aj hl';have HC2:=aj (Wq hs' (ah HC));subst h0;clear hm' hl' hs' K1 K2 HD;go_wp2_with fail;go_roundg s'.l.length
      case measure=>have:=ah HL;have:=ah HN;omega
      case rel=>exact⟨_,_,HM2,aj rfl,HC2⟩
     ·have e5:(D !=0)=true:=by simpa using h0
      have hr:=ah HD h0;have HE:=aj (ah dR _ _ _ (ah K1 h0) (by rw[hr]) (by rw[hr]));have HR:=aj (show R.1=D from by rw[hr]);clear K1 K2 HD hr;go_wp2_with fail;go_ret;rw[ah HR];exact⟨rfl,ah HE⟩
    | false =>
     have hr:R=(0,es,s):=(ah HM1).2.2.2.2.1.symm.trans (Yq (by rw[ah HC,ah HF];rfl));have HE:=aj (ah dR _ _ _ (ah HM1) (by rw[hr]) (by rw[hr]));have HR:=aj (show R.1=0 from by rw[hr]);clear hr HM1;go_wp2_with fail;go_ret;rw[ah HR];exact⟨rfl,ah HE⟩
end
def qN (m size now:Int)(y:Po)(q:Int)(st:dW):Int:=if y.ro=0 then 0 else iJ st.es st.s m size (fP q now (nR y))
def wR (m size now:Int)(y:Po)(q:Int)(st:dW):dW:=if y.ro=0 then st else pX m size st (fP q now (nR y))
abbrev At6 (g:Nat)(r:Rc)(w:World):Prop:=w.cell? ⟨g,0,none⟩=some (.int .i64 r.k)/\w.cell? ⟨g,1,none⟩=some (.int .i64 r.q)/\w.cell? ⟨g,2,none⟩=some (.int .i64 r.t)/\w.cell? ⟨g,3,none⟩=some (.string r.s)/\w.cell? ⟨g,4,none⟩=some (.string r.h)/\w.cell? ⟨g,5,none⟩=some (.string r.d)
section
variable {Has:World->Nat->Nat->(Nat->Prop)->Int->List ay->Prop}{SH:World->Nat->Nat->(Nat->Prop)->aJ->Prop}{F0 Cs:Nat->Prop}{w wr w':World}{B x:Nat}{a:Option Addr}{c:Nat}{mb:Option Nat}{P:Pn.cu}{m size:Int}{st:dW}
theorem aea (U:vC Has SH)(h:fF Has SH F0 Cs w wr B x a c mb P m size st)(hf:Fit P m size st)(hB:B<=w.heap.size)(now q:Int)(y:Po)(hy:dZ y)(hr:0<=y.ro/\y.ro<=2) :
 Calls prog 104 #[.pointer (some ⟨x,0,none⟩),.int .i64 now,.int .i64 q,G5 y] wr λe w'=>e=.returned (.int .i64 (qN m size now y q st))/\fF Has SH F0 Cs w w' B x a c mb P m size (wR m size now y q st)/\aO Cs wr w':=by
 have b0:Below wr.heap.size wr (wr.alloc (jq y)):=(ajb _ _).alloc (Xc _) _;have r0:=h.below U.H U.S b0;have s0:=h.stay b0;have hx:=h.lt;obtain⟨_,y0,y1,y2,y3,y4,y5⟩:=qP.new wr y;by_cases h1:y.ro=1
 ·have e1:(y.ro==1)=true:=by rw[akT];exact h1
  have e2:decide (y.ro=1)=true:=ajg h1;have hF:nR y=y.s:=by unfold nR;rw[if_pos h1]
  have HR:=aj (show qN m size now y q st=iJ st.es st.s m size (fP q now y.s)/\wR m size now y q st=pX m size st (fP q now y.s) from by
   unfold qN wR;rw[hF,if_neg (by omega),if_neg (by omega)];exact⟨rfl,rfl⟩)
  have PP:=aj (yP U r0 hf hB now q y.s hy.s);have S0:=aj s0;generalize iJ st.es st.s m size (fP q now y.s)=D at *;generalize pX m size st (fP q now y.s)=st' at *;clear h hf r0 s0 h1 hr hF b0 hy;go_enter func104,ntmps104;go_wp2_with fail;refine(ah PP).mono ?_;rintro e w1 ⟨rfl,r1,s1⟩;have B1:=aj (And.intro r1 ((ah S0).trans s1));clear PP r1 s1;go_wp2_with fail;go_ret;rw[(ah HR).1,(ah HR).2];exact⟨rfl,ah B1⟩
 ·have e1:(y.ro==1)=false:=by rw[ajr];exact h1
  have e2:decide (y.ro=1)=false:=ajd h1;by_cases h2:y.ro=2
  ·have e3:(y.ro==2)=true:=by rw[akT];exact h2
   have e4:decide (y.ro=2)=true:=ajg h2;have hF:nR y=⟨#[62]⟩:=by unfold nR;rw[if_neg h1]
   have HR:=aj (show qN m size now y q st=iJ st.es st.s m size (fP q now ⟨#[62]⟩)/\wR m size now y q st=pX m size st (fP q now ⟨#[62]⟩) from by
    unfold qN wR;rw[hF,if_neg (by omega),if_neg (by omega)];exact⟨rfl,rfl⟩)
   have PP:=aj (yP U r0 hf hB now q ⟨#[62]⟩ (by decide));have S0:=aj s0;generalize iJ st.es st.s m size (fP q now ⟨#[62]⟩)=D at *;generalize pX m size st (fP q now ⟨#[62]⟩)=st' at *;clear h hf r0 s0 h1 h2 hr hF b0 hy;go_enter func104,ntmps104;go_wp2_with fail;refine(ah PP).mono ?_;rintro e w1 ⟨rfl,r1,s1⟩;have B1:=aj (And.intro r1 ((ah S0).trans s1));clear PP r1 s1;go_wp2_with fail;go_ret;rw[(ah HR).1,(ah HR).2];exact⟨rfl,ah B1⟩
  ·have e3:(y.ro==2)=false:=by rw[ajr];exact h2
   have e4:decide (y.ro=2)=false:=ajd h2;have h3:y.ro=0:=by omega
   have HR:=aj (show qN m size now y q st=0/\wR m size now y q st=st from by
    unfold qN wR;rw[if_pos h3,if_pos h3];exact⟨rfl,rfl⟩)
   have B1:=aj (And.intro r0 s0);clear h hf r0 s0 h1 h2 h3 hr b0 hy;go_enter func104,ntmps104;go_wp2_with fail;go_ret;rw[(ah HR).1,(ah HR).2];exact⟨rfl,ah B1⟩
theorem Fit.more {qo:List Kn}(h:Fit P m size st)(hq:∀k∈qo,1<=k.q):Fit P m size ⟨st.es,st.s,qo⟩:=⟨h.plan,h.rY,h.room,h.size,hq⟩
theorem fF.iW (h:fF Has SH F0 Cs w wr B x a c mb P m size st):(st.ids.length:Int)<=st.s.last:=by
 obtain⟨FV,h1,_⟩:=h;exact h1.iW
end
section
variable {Has:World->Nat->Nat->(Nat->Prop)->Int->List ay->Prop}{SH:World->Nat->Nat->(Nat->Prop)->aJ->Prop}{F0 Cs:Nat->Prop}{w wr w':World}{B x:Nat}{a:Option Addr}{c:Nat}{mb:Option Nat}{P:Pn.cu}{m size:Int}{st:dW}
theorem At6.stay {g:Nat}{r:Rc}{W W':World}{D:Nat->Prop}(h:At6 g r W)(s:aO D W W')(hg:D g):At6 g r W':=⟨(s.cell hg).trans h.1,(s.cell hg).trans h.2.1,(s.cell hg).trans h.2.2.1,(s.cell hg).trans h.2.2.2.1,(s.cell hg).trans h.2.2.2.2.1,(s.cell hg).trans h.2.2.2.2.2⟩
theorem YO {r:Rc}(h:iJ st.es st.s m size r≠0):pX m size st r=st:=by
 unfold pX qL lq;rw[if_neg h,if_neg h]
theorem YP {now:Int}{y:Po}(h:iJ st.es st.s m size (gY (st.s.last+1) now y)≠0):l9 m size now y st.ids st.es st.s=((0,false,iJ st.es st.s m size (gY (st.s.last+1) now y)),st):=by
 unfold l9;rw[if_pos h]
theorem J8 {now:Int}{y:Po}{st1:dW}(h:iJ st.es st.s m size (gY (st.s.last+1) now y)=0)(h1:st1=⟨(pX m size st (gY (st.s.last+1) now y)).es,(pX m size st (gY (st.s.last+1) now y)).s,oL st.ids y.i now (st.s.last+1)⟩) :
 l9 m size now y st.ids st.es st.s=((if qN m size now y (st.s.last+1) st1=0 then st.s.last+1 else 0,false,qN m size now y (st.s.last+1) st1),wR m size now y (st.s.last+1) st1):=by
 subst h1;unfold l9 qN wR;rw[if_neg (by rw[h];simp)];by_cases c1:y.ro=0
 ·rw[if_pos c1,if_pos c1,if_pos c1];rfl
 ·rw[if_neg c1,if_neg c1,if_neg c1];unfold pX oL OH;simp only;by_cases c2:iJ (qL st.es st.s m size (gY (st.s.last+1) now y)) (lq st.es st.s m size (gY (st.s.last+1) now y)) m size (fP (st.s.last+1) now (nR y))=0
  ·rw[if_neg (by rw[c2];simp),if_pos c2,c2]
  ·rw[if_pos c2,if_neg c2];have e1:qL (qL st.es st.s m size (gY (st.s.last+1) now y)) (lq st.es st.s m size (gY (st.s.last+1) now y)) m size (fP (st.s.last+1) now (nR y))=qL st.es st.s m size (gY (st.s.last+1) now y):=by
    rw[qL,if_neg c2]
   have e2:lq (qL st.es st.s m size (gY (st.s.last+1) now y)) (lq st.es st.s m size (gY (st.s.last+1) now y)) m size (fP (st.s.last+1) now (nR y))=lq st.es st.s m size (gY (st.s.last+1) now y):=by
    rw[lq,if_neg c2]
   rw[e1,e2]
theorem af6 (U:vC Has SH)(h:fF Has SH F0 Cs w wr B x a c mb P m size st)(hf:Fit P m size st)(hB:B<=w.heap.size)(now:Int)(y:Po)(hy:dZ y)(hr:0<=y.ro/\y.ro<=2)(hno:y.i.size≠0->pv P 7≠0->¬0<jX st.ids y.i (now-pv P 7)) :
 Calls prog 58 #[.pointer (some ⟨x,0,none⟩),.int .i64 now,G5 y] wr λe w'=>e=.returned (.tuple #[.int .i64 (l9 m size now y st.ids st.es st.s).1.1,.int .i64 (l9 m size now y st.ids st.es st.s).1.2.2])/\(∃mb',fF Has SH F0 Cs w w' B x a c mb' P m size (l9 m size now y st.ids st.es st.s).2)/\aO Cs wr w':=by
 have b0:Below wr.heap.size wr (wr.alloc (jq y)):=(ajb _ _).alloc (Xc _) _;have hk:=hf.rY.ok;have hlast:=hk.last;have r0:=h.lF U.H U.S (jR:=λk=>Cs k\/k=wr.heap.size) b0 (λk hk=>by
  rcases hk with z|z
  ·exact .inl z
  ·exact .inr ⟨by omega,by subst z;simp⟩)
 have p0:=qP.new wr y;have s0:=h.stay b0;have P1:=aj (fG r0);have P2:=aj (λ(W:World) (q:Nat) (G:Nat->Prop) (hS:SH W B q G st.s) (hW:B<=W.heap.size)=>U.S.lU.BX hS hk hW);have hBr:=aje hB r0.room;have R0:=aj r0;have HP:=aj (λ(W:World) (hW:Below (wr.alloc (jq y)).heap.size (wr.alloc (jq y)) W)=>p0.below hW);have S0:=aj s0;have hsl:∀x0 x1 x2 x3:Value,∀W:World,(Instr.field 60 (.agg #[x0,x1,x2,x3]) 3).run prog W=.ok x3 W:=λ_ _ _ _ _=>by kernel_rfl
 have hms:Small (gY (st.s.last+1) now y):=⟨hy.s,hy.h,hy.d⟩;have HF:=aj hf;have aiR:=aj h.iW;have HY:=aj hy;have HRo:=aj hr;have HNo:=aj hno;obtain⟨r,hrr⟩:∃r,gY (st.s.last+1) now y=r:=⟨_,rfl⟩;have HRR:=aj hrr;obtain⟨l0,l1⟩:=hlast;obtain⟨last,hla⟩:∃last,st.s.last=last:=⟨_,rfl⟩;have HLa:=aj hla;rw[hla] at P2 l0 l1;rw[hrr] at hms;generalize (st.s.l.length:Int)=n1 at P2;generalize (bI st.s.l:Int)=n2 at P2;generalize dU st.s.l=n3 at P2;clear h hf hk r0 p0 b0 s0 hy hr hno hrr hla;go_enter func58,ntmps58;go_wp2_with fail;refine(ah P1).mono ?_;rintro e w1 ⟨q,G,rfl,h1,b1⟩
 have P3:=aj (ah P2 w1 q G h1 (aje hBr b1.size));have B1:=aj b1;clear P1 P2 h1 b1;go_wp2_with fail;refine(ah P3).mono ?_;rintro e w2 ⟨rfl,b2⟩;have B2:=aj (ak (ah B1) b2);obtain⟨hpl,z0,z1,z2,z3,z4,z5⟩:=ah HP w2 (ah B2);clear P3 b2 B1;have er:r=⟨1,last+1,now,y.s,y.h,y.d⟩:=by rw[<-ah HRR,ah HLa];rfl
 have bA:Below w2.heap.size w2 (w2.alloc (.cells #[.int .i64 1,.int .i64 (last+1),.int .i64 now,.string y.s,.string y.h,.string y.d] 73)):=(ajb _ _).alloc (Xc _) _;have bA2:Below w2.heap.size w2 (w2.alloc (.cells #[.int .i64 1,.int .i64 (last+1),.int .i64 now,.string y.s,.string y.h,.string y.d] 73)).drew:=bA.drew;have R3:=aj ((((ah R0).below U.H U.S (ah B2)).lF U.H U.S (jR:=λk=>(Cs k\/k=wr.heap.size)\/k=w2.heap.size) bA2 (λk hk=>by
  rcases hk with z|z
  ·exact .inl z
  ·exact .inr ⟨by omega,by subst z;simp⟩)))
 have S3:=aj (((ah S0).trans ⟨(ah B2).size,λk hk=>((ah R0).stay (ah B2)).2 k (.inl hk)⟩).trans ⟨bA2.size,λk hk=>(((ah R0).below U.H U.S (ah B2)).stay bA2).2 k (.inl hk)⟩);have k3:At6 w2.heap.size r (w2.alloc (.cells #[.int .i64 1,.int .i64 (last+1),.int .i64 now,.string y.s,.string y.h,.string y.d] 73)).drew:=by
  rw[er];exact⟨by simp,by simp,by simp,by simp,by simp,by simp⟩
 have PO3:=aj ((ah HP w2 (ah B2)).below bA2);have PD:=aj ((ah R3).vdo U (ah HF) hB r hms);have HK3:=aj k3;clear er bA bA2 z4 z5 z1;go_wp2_with fail;go_region_held3 (At6 w2.heap.size r) (first|assumption|go_keep)
  (first
   | (go_at_call 102;refine(ah PD).mono ?_;rintro e w4 ⟨rfl,r4,s4⟩;have k4:=At6.stay (ah HK3) s4 (.inr rfl);have R4:=aj r4;have S4:=aj s4;clear r4 s4))
 have PO4:=aj ((ah PO3).stay (ah S4) (.inl (.inr rfl)));have SS4:=aj ((ah S3).trans ((ah S4).aZ (λk hk=>.inl (.inl hk))));clear k3 k4 HK3 PD R3 S3 S4 PO3 hpl z0 z2 z3;obtain⟨E,hE⟩:∃E,iJ st.es st.s m size r=E:=⟨_,rfl⟩;rw[hE];have HE:=aj hE;clear hE;by_cases h0:E=0
 ·have hz:=(ah HE).trans h0;have hzm:iJ st.es st.s m size (gY (st.s.last+1) now y)=0:=by rw[ah HRR];exact hz
  have hl1:(pX m size st r).s.last=last+1:=by
   show(lq st.es st.s m size r).last=last+1;rw[<-ah HRR,afs hzm,ah HLa]
  have F4:=aj ((ah HF).did r);have PK:=aj (adT U (ah R4) (ah F4) hB y.i (ah HY).i (last+1) now (λu v=>by have t:=ah HNo u v;show ¬0<jX st.ids y.i (now-pv P 7);omega) (by rw[hl1,<-ah HLa];have:=ah aiR;show(st.ids.length:Int)+1<=_;omega));have y1:=(ah PO4).c1;obtain⟨st2,hst2⟩:∃st2,st2=(⟨(pX m size st r).es,(pX m size st r).s,oL (pX m size st r).ids y.i now (last+1)⟩:dW):=⟨_,rfl⟩;rw[<-hst2] at PK;have F5:=aj (show Fit P m size st2 from by
   rw[hst2];refine(ah F4).more (λk hk=>?_);have hk':k∈OH st.ids y now (last+1):=hk;exact Ar (ah HF).xU (by omega) k hk')
  have Ba:=aj (J8 (now:=now) (y:=y) (st1:=st2) hzm (by rw[hst2,ah HRR,ah HLa];rfl));rw[ah HLa] at Ba;subst h0;clear hz hzm hl1 hst2 F4 HE;go_wp2_with fail;refine(ah PK).mono ?_;rintro e w5 ⟨rfl,⟨mb5,r5⟩,s5⟩;have PO5:=aj ((ah PO4).stay s5 (.inl (.inr rfl)));have SS5:=aj ((ah SS4).trans (s5.aZ (λk hk=>.inl (.inl hk))));have PR:=aj (aea U r5 (ah F5) hB now (last+1) y (ah HY) (ah HRo));obtain⟨_,v0,v1,v2,v3,v4,v5⟩:=ah PO5;obtain⟨D,hD⟩:∃D,qN m size now y (last+1) st2=D:=⟨_,rfl⟩;rw[hD] at PR Ba;clear PK R4 PO4 SS4 y1 r5 s5 hD;go_wp2_with fail
  refine(ah PR).mono ?_;rintro e w6 ⟨rfl,r6,s6⟩;have E6:=aj (show(∃mb',fF Has SH F0 Cs w w6 B x a c mb' P m size (l9 m size now y st.ids st.es st.s).2)/\aO Cs wr w6 from⟨⟨mb5,by rw[ah Ba];exact r6.aZ U (λk hk=>.inl (.inl hk))⟩,(ah SS5).trans (s6.aZ (λk hk=>.inl (.inl hk)))⟩);clear PR r6 s6 SS5 PO5 v0 v1 v2 v3 v4 v5;by_cases hD0:D=0
  ·have HQ:=aj (show(l9 m size now y st.ids st.es st.s).1.1=last+1/\(l9 m size now y st.ids st.es st.s).1.2.2=0 from by rw[ah Ba,if_pos hD0];exact⟨rfl,hD0⟩);subst hD0;clear Ba;go_wp2_with fail;go_ret2;rw[(ah HQ).1,(ah HQ).2];exact⟨rfl,ah E6⟩
  ·have HQ:=aj (show(l9 m size now y st.ids st.es st.s).1.1=0/\(l9 m size now y st.ids st.es st.s).1.2.2=D from by rw[ah Ba,if_neg hD0];exact⟨rfl,rfl⟩);have e5:(D !=0)=true:=by simpa using hD0
   clear Ba;go_wp2_with fail;go_ret2;rw[(ah HQ).1,(ah HQ).2];exact⟨rfl,ah E6⟩
 ·have hb:=YO (by rw[ah HE];exact h0:iJ st.es st.s m size r≠0);have hp:=YP (now:=now) (y:=y) (by rw[ah HRR,ah HE];exact h0:iJ st.es st.s m size (gY (st.s.last+1) now y)≠0);rw[ah HRR,ah HE] at hp;have E6:=aj (show(∃mb',fF Has SH F0 Cs w w4 B x a c mb' P m size (l9 m size now y st.ids st.es st.s).2)/\aO Cs wr w4 from⟨⟨mb,by rw[hp,<-hb];exact(ah R4).aZ U (λk hk=>.inl (.inl hk))⟩,ah SS4⟩);have HQ:=aj (show(l9 m size now y st.ids st.es st.s).1.1=0/\(l9 m size now y st.ids st.es st.s).1.2.2=E from by rw[hp];exact⟨rfl,rfl⟩);have e5:(E !=0)=true:=by simpa using h0
  clear hb hp HE R4 SS4 PO4;go_wp2_with fail;go_ret2;rw[(ah HQ).1,(ah HQ).2];exact⟨rfl,ah E6⟩
end
section
variable {Has:World->Nat->Nat->(Nat->Prop)->Int->List ay->Prop}{SH:World->Nat->Nat->(Nat->Prop)->aJ->Prop}{F0 Cs:Nat->Prop}{w wr w':World}{B x:Nat}{a:Option Addr}{c:Nat}{mb:Option Nat}{P:Pn.cu}{m size:Int}{st:dW}
theorem Bc {now:Int}{y:Po}(h:mZ P now y≠0):eX P m size now y st=((0,false,mZ P now y),st):=by unfold eX;rw[if_pos h]
theorem NC {now:Int}{y:Po}(h:mZ P now y=0)(h1:jM P now y st.ids=true):eX P m size now y st=((jX st.ids y.i (now-pv P 7),true,0),st):=by unfold eX;rw[if_neg (by rw[h];simp),if_pos h1]
theorem af7 {now:Int}{y:Po}(h:mZ P now y=0)(h1:jM P now y st.ids=false)(h2:PY P st.s y≠0):eX P m size now y st=((0,false,PY P st.s y),st):=by
 unfold eX;rw[if_neg (by rw[h];simp),if_neg (by rw[h1];simp)];unfold PY wP at h2 ⊢;by_cases c1:y.x≠-1/\y.x≠st.s.last
 ·rw[if_pos c1,if_pos c1]
 ·rw[if_neg c1] at h2 ⊢;rw[if_neg c1];have hr:eY P m size now y st.es st.s=(8,st.es,st.s):=by
   unfold eY;by_cases c2:pv P 1≠0/\pv P 1<(qm y:Int)
   ·rw[if_pos c2]
   ·rw[if_neg c2] at h2 ⊢;by_cases c3:pv P 5=1/\(bG P st.s.l y||bM P st.s.l y)=true
    ·exact JB (by rw[c3.2];simp) c3.1
    ·rw[if_neg c3] at h2;exact absurd rfl h2
  have h8:(if pv P 1≠0/\pv P 1<(qm y:Int) then (8:Int) else if pv P 5=1/\(bG P st.s.l y||bM P st.s.l y)=true then 8 else 0)=8:=by
   by_cases c2:pv P 1≠0/\pv P 1<(qm y:Int)
   ·rw[if_pos c2]
   ·rw[if_neg c2] at h2 ⊢;by_cases c3:pv P 5=1/\(bG P st.s.l y||bM P st.s.l y)=true
    ·rw[if_pos c3]
    ·rw[if_neg c3] at h2;exact absurd rfl h2
  rw[hr,h8];rfl
theorem aeb {y:Po}(h:PY P st.s y=0):¬(y.x≠-1/\y.x≠st.s.last)/\¬(pv P 1≠0/\pv P 1<(qm y:Int))/\(pv P 5=1->(bG P st.s.l y||bM P st.s.l y)=false):=by
 unfold PY wP at h;by_cases c1:y.x≠-1/\y.x≠st.s.last
 ·rw[if_pos c1] at h;exact absurd h (by decide)
 ·rw[if_neg c1] at h;by_cases c2:pv P 1≠0/\pv P 1<(qm y:Int)
  ·rw[if_pos c2] at h;exact absurd h (by decide)
  ·rw[if_neg c2] at h;refine⟨c1,c2,λz=>?_⟩
   cases hc:(bG P st.s.l y||bM P st.s.l y) with
   | false=>rfl
   | true=>rw[if_pos ⟨z,hc⟩] at h;exact absurd h (by decide)
theorem ahp {now:Int}{y:Po}(h:mZ P now y=0)(h1:jM P now y st.ids=false)(h2:PY P st.s y=0):eX P m size now y st=if (gW P m size now y st.es st.s).1≠0 then ((0,false,(gW P m size now y st.es st.s).1),⟨(gW P m size now y st.es st.s).2.1,(gW P m size now y st.es st.s).2.2,st.ids⟩) else l9 m size now y st.ids (gW P m size now y st.es st.s).2.1 (gW P m size now y st.es st.s).2.2:=by
 obtain⟨c1,c2,_⟩:=aeb h2;have hr:eY P m size now y st.es st.s=gW P m size now y st.es st.s:=by unfold eY gW;rw[if_neg c2]
 unfold eX;rw[if_neg (by rw[h];simp),if_neg (by rw[h1];simp),if_neg c1,hr]
theorem ahq {now:Int}{y:Po}(h:mZ P now y=0):(0<=now/\now<=1099511627776)/\(0<=y.ro/\y.ro<=2)/\aG false y.s=0:=by
 by_cases hg:dn now 0 1099511627776=true/\-1<=y.x/\0<=y.ro/\y.ro<=2
 ·refine⟨by simpa[dn] using hg.1,⟨hg.2.2.1,hg.2.2.2⟩,?_⟩;rw[sN hg] at h;by_cases c1:aG false y.s=0
  ·exact c1
  ·rw[if_pos c1] at h;exact absurd h c1
 ·rw[H8 hg] at h;exact absurd h (by decide)
theorem fF.lU (h:fF Has SH F0 Cs w wr B x a c mb P m size st):PBx wr x P a c/\nZ wr a P.f/\kM P:=by
 obtain⟨FV,h1,_⟩:=h;exact⟨h1.plan,h1.row,h1.small⟩
theorem Fit.aic {now:Int}{y:Po}(h:Fit P m size st):Fit P m size ⟨(gW P m size now y st.es st.s).2.1,(gW P m size now y st.es st.s).2.2,st.ids⟩:=⟨h.plan,lS.room _ h.rY,h.room,h.size,h.xU⟩
theorem Uk (U:vC Has SH)(T:lX SH)(V:lV SH)(h:fF Has SH F0 Cs w wr B x a c mb P m size st)(hf:Fit P m size st)(hB:B<=w.heap.size)(now:Int)(y:Po)(hy:dZ y) :
 Calls prog 19 #[.pointer (some ⟨x,0,none⟩),.int .i64 now,G5 y] wr λe w'=>e=.returned (.tuple #[.int .i64 (eX P m size now y st).1.1,.bool (eX P m size now y st).1.2.1,.int .i64 (eX P m size now y st).1.2.2])/\(∃mb',fF Has SH F0 Cs w w' B x a c mb' P m size (eX P m size now y st).2)/\aO Cs wr w':=by
 have b0:Below wr.heap.size wr (wr.alloc (jq y)):=(ajb _ _).alloc (Xc _) _;have r0:=h.lF U.H U.S (jR:=λk=>Cs k\/k=wr.heap.size) b0 (λk hk=>by
  rcases hk with z|z
  ·exact .inl z
  ·exact .inr ⟨by omega,by subst z;simp⟩)
 have p0:=qP.new wr y;have s0:=h.stay b0;have hse:=r0.lU;have P1:=aj (KT hf.plan hse.2.2 hse.1 hse.2.1 now y hy);have HW:=aj (λ(W:World) (hW:Below (wr.alloc (jq y)).heap.size (wr.alloc (jq y)) W)=>show fF Has SH F0 (λk=>Cs k\/k=wr.heap.size) w W B x a c mb P m size st/\qP W wr.heap.size y/\aO Cs wr W from⟨r0.below U.H U.S hW,p0.below hW,s0.trans ⟨hW.size,λk hk=>(r0.stay hW).2 k (.inl hk)⟩⟩);have dR:=aj (λ(W:World) (hW:Below (wr.alloc (jq y)).heap.size (wr.alloc (jq y)) W)=>show(∃mb',fF Has SH F0 Cs w W B x a c mb' P m size st)/\aO Cs wr W from⟨⟨mb,(r0.below U.H U.S hW).aZ U (λk hk=>.inl hk)⟩,s0.trans ⟨hW.size,λk hk=>(r0.stay hW).2 k (.inl hk)⟩⟩)
 have hx0:=r0.lt;obtain⟨_,y0,y1,y2,y3,y4,y5⟩:=p0;obtain⟨E,hE⟩:∃E,mZ P now y=E:=⟨_,rfl⟩;rw[hE] at P1;have HE:=aj hE;have HF:=aj hf;have HY:=aj hy;clear h hf hy r0 b0 s0 hse hE;go_enter func19,ntmps19;go_wp2_with fail;refine(ah P1).mono ?_;rintro e w1 ⟨rfl,b1⟩;have B1:=aj b1;clear P1 b1 y0 y1 y2 y3 y4 y5;by_cases h0:E=0
 ·have hpre:=(ah HE).trans h0;obtain⟨hn,hro,hok⟩:=ahq hpre;have uP:=aj hpre;have HRo:=aj hro;have HOk:=aj hok;have q1:=ah HW w1 (ah B1);have P2:=aj (Ug q1.1 (ah HF) now hn y.i (ah HY).i);obtain⟨ha,hb⟩:=adR (now:=now) (y:=y) q1.1.map.2 (ah HF).xU;rw[<-ha] at P2;have HA:=aj hb;have z1:=q1.2.1.c1;subst h0;clear hpre hn hro hok q1 HE ha hb;obtain⟨K,hK⟩:∃K,knQ (lY (jC P st.ids) y.i) (now-pv P 7)=K:=⟨_,rfl⟩;rw[hK] at P2 HA;obtain⟨A,hA⟩:∃A,jM P now y st.ids=A:=⟨_,rfl⟩;rw[hA] at P2 HA;have HAA:=aj hA;clear hK hA;go_wp2_with fail;refine(ah P2).mono ?_
  rintro e w2 ⟨rfl,b2⟩;have B2:=aj (ak (ah B1) b2);clear P2 b2 z1
  cases A with
  | true =>
   have HQ:=aj (NC (m:=m) (size:=size) (ah uP) (ah HAA));have HS:=aj (ah HA rfl);have HZ:=aj (ah dR w2 (ah B2));clear HA dR HW;go_wp2_with fail;go_ret3;rw[ah HQ];exact⟨by rw[ah HS];rfl,ah HZ⟩
  | false =>
   have q2:=ah HW w2 (ah B2);have P3:=aj (J6 U T q2.1 (ah HF) hB y (ah HY) (ah HOk) (λW hW=>J7 U hW (ah HF) hB y (ah HY)));obtain⟨_,y0,y1,y2,y3,y4,y5⟩:=q2.2.1;obtain⟨E2,hE2⟩:∃E,PY P st.s y=E:=⟨_,rfl⟩;rw[hE2] at P3;have HE2:=aj hE2;clear q2 hE2 HA;go_wp2_with fail;refine(ah P3).mono ?_;rintro e w3 ⟨rfl,b3⟩;have B3:=aj (ak (ah B2) b3);clear P3 b3 y0 y1 y2 y3 y4 y5;by_cases h2:E2=0
   ·have hc:=(ah HE2).trans h2;obtain⟨_,hc2,hc3⟩:=aeb hc;have HG:=aj (ahp (m:=m) (size:=size) (ah uP) (ah HAA) hc);have q3:=ah HW w3 (ah B3);have P4:=aj (P7 (now:=now) U T V q3.1 (ah HF) hB y (ah HY) (ah HOk) hc2 hc3 (λjR W s' hW hf'=>J7 U hW hf' hB y (ah HY)));have F4:=aj ((ah HF).aic (now:=now) (y:=y));obtain⟨es4,he4⟩:∃z,(gW P m size now y st.es st.s).2.1=z:=⟨_,rfl⟩;obtain⟨s4,hs4⟩:∃z,(gW P m size now y st.es st.s).2.2=z:=⟨_,rfl⟩;obtain⟨D,hD⟩:∃z,(gW P m size now y st.es st.s).1=z:=⟨_,rfl⟩;rw[he4,hs4,hD] at P4 HG
    rw[he4,hs4] at F4;have S3:=aj q3.2.2;have PO3:=aj q3.2.1;obtain⟨_,y0,y1,y2,y3,y4,y5⟩:=q3.2.1;subst h2;clear hc hc2 hc3 q3 he4 hs4 hD HE2 dR HW;go_wp2_with fail;refine(ah P4).mono ?_;rintro e w4 ⟨rfl,r4,t4⟩;have R4:=aj r4;have S4:=aj ((ah S3).trans (t4.aZ (λk hk=>.inl hk)));have PO4:=aj ((ah PO3).stay t4 (.inr rfl));clear P4 r4 t4 y0 y1 y2 y3 y4 y5;by_cases h4:D=0
    ·have HG2:=ah HG;rw[if_neg (by rw[h4];simp)] at HG2;have HG3:=aj HG2;have P5:=aj (af6 U (ah R4) (ah F4) hB now y (ah HY) (ah HRo) (λu v z=>by
      have hz:=ah HAA;unfold jM at hz;have z':0<jX st.ids y.i (now-pv P 7):=z;rw[ajg u,ajg v,ajg z'] at hz
      cases hz))
     obtain⟨_,y0,y1,y2,y3,y4,y5⟩:=ah PO4;rw[<-HG2] at P5;subst h4;clear HG2 HG R4;go_wp2_with fail;refine(ah P5).mono ?_;rintro e w5 ⟨rfl,⟨mb5,r5⟩,t5⟩;have HZ:=aj (show(∃mb',fF Has SH F0 Cs w w5 B x a c mb' P m size (eX P m size now y st).2)/\aO Cs wr w5 from⟨⟨mb5,r5.aZ U (λk hk=>.inl hk)⟩,(ah S4).trans (t5.aZ (λk hk=>.inl hk))⟩);have HB:=aj (show(eX P m size now y st).1.2.1=false from by
      rw[ah HG3];unfold l9;split
      ·rfl
      ·split
       ·rfl
       ·split
        ·rfl
        ·rfl)
     clear P5 r5 t5 HG3;go_wp2_with fail;go_ret3;rw[ah HB];exact⟨rfl,ah HZ⟩
    ·have HG2:=ah HG;rw[if_pos h4] at HG2;have HG3:=aj HG2;have e5:(D !=0)=true:=by simpa using h4
     have HZ:=aj (show(∃mb',fF Has SH F0 Cs w w4 B x a c mb' P m size ⟨es4,s4,st.ids⟩)/\aO Cs wr w4 from⟨⟨mb,(ah R4).aZ U (λk hk=>.inl hk)⟩,ah S4⟩);clear HG2 HG R4;go_wp2_with fail;go_ret3;rw[ah HG3];exact⟨rfl,ah HZ⟩
   ·have HQ:=aj (af7 (m:=m) (size:=size) (ah uP) (ah HAA) (by rw[ah HE2];exact h2));rw[ah HE2] at HQ;have e5:(E2 !=0)=true:=by simpa using h2
    have HZ:=aj (ah dR w3 (ah B3));clear dR HW HE2;go_wp2_with fail;go_ret3;rw[ah HQ];exact⟨rfl,ah HZ⟩
 ·have HQ:=aj (Bc (m:=m) (size:=size) (st:=st) (by rw[ah HE];exact h0:mZ P now y≠0));rw[ah HE] at HQ;have e5:(E !=0)=true:=by simpa using h0
  have HZ:=aj (ah dR w1 (ah B1));clear HE dR HW;go_wp2_with fail;go_ret3;rw[ah HQ];exact⟨rfl,ah HZ⟩
end
def Ag (Has:World->Nat->Nat->(Nat->Prop)->Int->List ay->Prop)(SH:World->Nat->Nat->(Nat->Prop)->aJ->Prop)(F0 Cs D:Nat->Prop)(w wo W:World)(B x:Nat)(a:Option Addr)(c:Nat)(mb:Option Nat)(P:Pn.cu)(m size now:Int)(ids:List Kn)(R:(Int×Int)×List ay×aJ)(l:List Rc)(av:Option Addr)(k:Nat)(n:Int)(es:List ay)(s:aJ):Prop :=
 fF Has SH F0 (λi=>Cs i\/D i) w W B x a c mb P m size ⟨es,s,ids⟩/\Fit P m size ⟨es,s,ids⟩/\vk W av l/\aO Cs wo W/\JD P m size now n es s=R/\Uy (now-pv P 2) l k s/\n<=(k:Int)/\0<=n
section
variable {Has:World->Nat->Nat->(Nat->Prop)->Int->List ay->Prop}{SH:World->Nat->Nat->(Nat->Prop)->aJ->Prop}{F0 Cs D:Nat->Prop}{w wo W W':World}{B x:Nat}{a:Option Addr}{c:Nat}{mb:Option Nat}{P:Pn.cu}{m size now:Int}{ids:List Kn}{R:(Int×Int)×List ay×aJ}{l:List Rc}{av:Option Addr}{k:Nat}{n:Int}{es:List ay}{s:aJ}{st:dW}
theorem Ag.below (U:vC Has SH)(h:Ag Has SH F0 Cs D w wo W B x a c mb P m size now ids R l av k n es s)(hb:Below W.heap.size W W'):Ag Has SH F0 Cs D w wo W' B x a c mb P m size now ids R l av k n es s :=
 ⟨h.1.below U.H U.S hb,h.2.1,h.2.2.1.below hb,h.2.2.2.1.trans ((h.1.aZ U (λ_ hk=>.inl hk)).stay hb),h.2.2.2.2⟩
theorem Ag.ac5 (h:Ag Has SH F0 Cs D w wo W B x a c mb P m size now ids R l av k n es s)(hk:k<l.length)(ht:¬(rc l k).t<now-pv P 2):Ag Has SH F0 Cs D w wo W B x a c mb P m size now ids R l av (k+1) n es s :=
 ⟨h.1,h.2.1,h.2.2.1,h.2.2.2.1,h.2.2.2.2.1,h.2.2.2.2.2.1.ac5 hk ht,by have:=h.2.2.2.2.2.2.1;omega,h.2.2.2.2.2.2.2⟩
theorem Ag.erase (U:vC Has SH)(h:Ag Has SH F0 Cs D w wo W B x a c mb P m size now ids R l av k n es s)(hB:B<=w.heap.size)(hD:∀z,av=some z->D z.block)(hk:k<l.length)(ht:(rc l k).t<now-pv P 2) :
 ∃E:Int,(E≠0->R=((n,E),es,s))/\Calls prog 74 #[.pointer (some ⟨x,0,none⟩),.int .i64 now,.int .i64 (rc l k).q] W λe w'=>e=.returned (.int .i64 E)/\(E≠0->Ag Has SH F0 Cs D w wo w' B x a c mb P m size now ids R l av k n es s)/\(E=0->∃es' s',Ag Has SH F0 Cs D w wo w' B x a c mb P m size now ids R l av (k+1) (n+1) es' s'):=by
 have ho:=h.2.2.2.2.2.1.old hk ht;have he:=yO U h.1 h.2.1 hB now (rc l k).q;have hfit:=h.2.1.did (bT (rc l k).q now);refine⟨iJ es s m size (bT (rc l k).q now),λhE=>by rw[<-h.2.2.2.2.1];exact Yt ho hE,he.mono ?_⟩;rintro e w' ⟨rfl,r1,s1⟩;have hst:aO Cs W w':=s1.aZ (λk hk=>.inl hk);have hsl:vk w' av l:=s1.lg h.2.2.1 (λz hz=>.inr (hD z hz));refine⟨rfl,λhE=>?_,λhE=>?_⟩
 ·have e1:qL es s m size (bT (rc l k).q now)=es:=by unfold qL;rw[if_neg hE]
  have e2:lq es s m size (bT (rc l k).q now)=s:=by unfold lq;rw[if_neg hE]
  unfold pX at r1;simp only[e1,e2] at r1;exact⟨r1,h.2.1,hsl,h.2.2.2.1.trans hst,h.2.2.2.2⟩
 ·exact⟨_,_,r1,hfit,hsl,h.2.2.2.1.trans hst,(ac4 ho hE).symm.trans h.2.2.2.2.1,h.2.2.2.2.2.1.gone h.2.1.rY.ok hk hE,by have:=h.2.2.2.2.2.2.1;omega,by have:=h.2.2.2.2.2.2.2;omega⟩
theorem aec (U:vC Has SH)(h:fF Has SH F0 Cs w wo B x a c mb P m size st)(hf:Fit P m size st)(hB:B<=w.heap.size)(now:Int) :
 Calls prog 36 #[.pointer (some ⟨x,0,none⟩),.int .i64 now] wo λe w'=>e=.returned (.tuple #[.int .i64 (jc P m size now st).1.1,.int .i64 (jc P m size now st).1.2])/\fF Has SH F0 Cs w w' B x a c mb P m size (jc P m size now st).2/\aO Cs wo w':=by
 by_cases hI:dn now 0 1099511627776=false
 ·have hp:jc P m size now st=((0,1),st):=by unfold jc;rw[if_pos hI]
  rw[hp];have HI:=aj hI;have HE:=aj (And.intro h (show aO Cs wo wo from⟨Xc _,λ_ _=>rfl⟩));clear h hf hI hp;go_enter func36,ntmps36;go_wp2_with (go_at_call 80;refine(jP _ _).mono ?_;rintro e wi ⟨rfl,hw⟩;rw[hw,ah HI];clear hw);go_ret2;exact⟨rfl,ah HE⟩
 ·have hI1:dn now 0 1099511627776=true:=by simpa using hI
  have hn:0<=now/\now<=1099511627776:=by simpa[dn] using hI1
  have HI:=aj hI1;have c4:=h.plan.c4;have hx:=h.lt;by_cases hM:pv P 2=0
  ·have hp:jc P m size now st=((0,0),st):=by unfold jc;rw[if_neg hI,if_pos hM]
   rw[hp];have HE:=aj (And.intro h (show aO Cs wo wo from⟨Xc _,λ_ _=>rfl⟩));have hM2:nth P.v 2=0:=hM;rw[hM2] at c4;clear h hf hI hI1 hp hM hM2;go_enter func36,ntmps36;go_wp2_with (go_at_call 80;refine(jP _ _).mono ?_;rintro e wi ⟨rfl,hw⟩;rw[hw,ah HI];clear hw);go_ret2;exact⟨rfl,ah HE⟩
  ·obtain⟨R,hR⟩:∃R,JD P m size now 0 st.es st.s=R:=⟨_,rfl⟩;have hp:jc P m size now st=(R.1,⟨R.2.1,R.2.2,st.ids⟩):=by
    unfold jc;rw[if_neg hI,if_neg hM,<-hR];rfl
   rw[hp];have hk:=hf.rY.ok;have hfew:=hk.iW;have hM0:0<=nth P.v 2:=(uo hf.plan).pos 2;have hM1:nth P.v 2<=100000:=wO hf.plan 2;have e7:(nth P.v 2==0)=false:=by rw[ajr];exact hM
   have e8:decide (nth P.v 2=0)=false:=ajd hM;have hBr:=aje hB h.room;have P1:=aj (fG h);have P2:=aj (λ(W:World) (q:Nat) (G:Nat->Prop) (hS:SH W B q G st.s) (hW:B<=W.heap.size)=>U.S.lU.all hS hk hW);have HA:=aj (λ(W:World) (v:Value) (B1:Nat) (hW:Below wo.heap.size wo W) (hv:aT W B1 v st.s.l) (hB1:wo.heap.size<=B1) (av:Option Addr) (cv:Nat) (he:v=.slice av st.s.l.length cv)=>show Ag Has SH F0 Cs (λi=>v.ownBlock=some i) w wo W B x a c mb P m size now st.ids R st.s.l av 0 0 st.es st.s from by
    obtain⟨a2,c2,e2,_,_,hsl⟩:=hv.shape;rw[he] at e2;obtain⟨e3,_,_⟩:=ajO e2;refine⟨h.lF U.H U.S hW (λk hk=>?_),hf,by rw[e3];exact hsl,h.stay hW,hR,Uy.start _ _,by simp,by simp⟩;rcases hk with z|z
    ·exact .inl z
    ·exact .inr ⟨aje hB1 (ajz hv k z).1,(ajz hv k z).2⟩)
   have Qe:=aj (λ(D:Nat->Prop) (W:World) (av:Option Addr) (k:Nat) (n:Int) (es:List ay) (s:aJ) (hm:Ag Has SH F0 Cs D w wo W B x a c mb P m size now st.ids R st.s.l av k n es s) (hD:∀z,av=some z->D z.block) (hk:k<st.s.l.length) (ht:(rc st.s.l k).t<now-pv P 2)=>hm.erase U hB hD hk ht);have dR:Hid (∀(D:Nat->Prop) (W:World) (av:Option Addr) (k:Nat) (n:Int) (es:List ay) (s:aJ),Ag Has SH F0 Cs D w wo W B x a c mb P m size now st.ids R st.s.l av k n es s->R.2.1=es->R.2.2=s->fF Has SH F0 Cs w W B x a c mb P m size ⟨R.2.1,R.2.2,st.ids⟩/\aO Cs wo W):=aj (λD W av k n es s hm h1 h2=>by
    rw[h1,h2];exact⟨hm.1.aZ U (λk hk=>.inl hk),hm.2.2.2.1⟩)
   have HPl:=aj (λ(D:Nat->Prop) (W:World) (av:Option Addr) (k:Nat) (n:Int) (es:List ay) (s:aJ) (hm:Ag Has SH F0 Cs D w wo W B x a c mb P m size now st.ids R st.s.l av k n es s)=>And.intro hm.1.plan.c4 hm.1.lt);have HBe:=aj (λ(D:Nat->Prop) (W W':World) (av:Option Addr) (k:Nat) (n:Int) (es:List ay) (s:aJ) (hm:Ag Has SH F0 Cs D w wo W B x a c mb P m size now st.ids R st.s.l av k n es s) (hb:Below W.heap.size W W')=>hm.below U hb);have hpv:pv P 2=nth P.v 2:=rfl;rw[hpv] at Qe;clear h hf hk hI hI1 hp hM hR hpv;go_enter func36,ntmps36;go_wp2_with (go_at_call 80;refine(jP _ _).mono ?_;rintro e wi ⟨rfl,hw⟩;rw[hw,ah HI];clear hw)
   refine(ah P1).mono ?_;rintro e w1 ⟨q,G,rfl,h1,b1⟩;have P3:=aj (ah P2 w1 q G h1 (aje hBr b1.size));have B1:=aj b1;clear P1 P2 h1 b1;go_wp2_with fail;refine(ah P3).mono ?_;rintro e w2 ⟨v,rfl,a2,b2⟩;obtain⟨av,cv,hv,hc1,hc2,_⟩:=a2.shape;have A0:=aj (ah HA w2 v w1.heap.size (ak (ah B1) b2) a2 (ah B1).size av cv hv);have hDD:Hid (∀z,av=some z->v.ownBlock=some z.block):=aj (λz hz=>by rw[hv,hz];rfl);obtain⟨D,hD⟩:∃D:Nat->Prop,D=λi=>v.ownBlock=some i:=⟨_,rfl⟩
   rw[<-hD] at A0;have HD:Hid (∀z,av=some z->D z.block):=aj (λz hz=>by rw[hD];exact ah hDD z hz);subst hv;clear P3 a2 b2 HA hDD hD;obtain⟨L,hL⟩:∃L,L=st.s.l.length:=⟨_,rfl⟩;rw[<-hL];rw[<-hL] at hc1 hfew;have HL:=aj hL;clear hL;go_wp2_with fail;go_loopw [6,23] (λnv iv W=>∃(k:Nat) (n:Int) (es:List ay) (s:aJ),iv=.int .i64 k/\nv=.int .i64 n/\k<=L/\n<=(k:Int)/\0<=n/\Hid (Ag Has SH F0 Cs D w wo W B x a c mb P m size now st.ids R st.s.l av k n es s)) (λ_ iv _=>L-(intOf iv).toNat)
   case atStart=>exact⟨0,0,st.es,st.s,rfl,rfl,ajm _,by simp,by simp,A0⟩
   case round =>
    clear A0;obtain⟨k,n,es,s,rfl,rfl,hk,hn1,hn2,A⟩:=hrel;by_cases hlt:k<L
    ·have hlt2:k<st.s.l.length:=by rw[<-ah HL];exact hlt
     obtain⟨b,o,hbo,s6⟩:=(ah A).2.2.1 k hlt2;subst hbo;obtain⟨hbl,x0,x1,x2,x3,x4,x5⟩:=s6;obtain⟨d4,hxl⟩:=ah HPl _ _ _ _ _ _ _ (ah A);obtain⟨r,hr⟩:∃r,rc st.s.l k=r:=⟨_,rfl⟩;rw[hr] at x0 x1 x2 x3 x4 x5;have bA:Below wr.heap.size wr (wr.alloc (.cells #[.int .i64 r.k,.int .i64 r.q,.int .i64 r.t,.string r.s,.string r.h,.string r.d] 73)):=(ajb _ _).alloc (Xc _) _;have HR:=aj hr;have HLt:=aj hlt2;have BA:=aj (λnq=>below_drewN bA nq);clear hr hlt2 bA;by_cases hy:r.t<now-nth P.v 2
     ·have e1:decide (now-nth P.v 2<=r.t)=false:=ajd (by omega);go_wp2_with fail;go_quiet (fail)
      have A2:=aj (ah HBe _ _ _ _ _ _ _ _ (ah A) (ah BA nq));obtain⟨E,hE1,hE2⟩:=ah Qe _ _ _ _ _ _ _ (ah A2) (ah HD) (ah HLt) (by rw[ah HR];exact hy);rw[ah HR] at hE2;have Xg:=aj hE1;have PE:=aj hE2;clear hE1 hE2 A BA x0 x1 x2 x3 x4 x5;go_wp2_with fail;refine(ah PE).mono ?_;rintro e w5 ⟨rfl,k1,k2⟩;have K1:=aj k1;have K2:=aj k2;clear PE k1 k2 A2;by_cases h0:E=0
      ·obtain⟨es',s',hm'⟩:=ah K2 h0;have HM:=aj hm';subst h0;clear hm' K1 K2 Xg;go_wp2_with fail;refine⟨⟨k+1,n+1,es',s',by go_num,rfl,by omega,by omega,by omega,HM⟩,?_⟩;simp[intOf];omega
      ·have e5:(E !=0)=true:=by simpa using h0
       have hr2:=ah Xg h0;have HE:=aj (ah dR _ _ _ _ _ _ _ (ah K1 h0) (by rw[hr2]) (by rw[hr2]));have HRR:=aj (show R.1.1=n/\R.1.2=E from by rw[hr2];exact⟨rfl,rfl⟩);clear K1 K2 Xg hr2;go_wp2_with fail;go_ret2;refine⟨?_,ah HE⟩;rw[(ah HRR).1,(ah HRR).2];rfl
     ·have e1:now-nth P.v 2<=r.t:=by omega
      go_wp2_with fail;go_quiet (fail)
      have A2:=aj ((ah HBe _ _ _ _ _ _ _ _ (ah A) (ah BA nq)).ac5 (ah HLt) (by rw[ah HR];show ¬r.t<now-nth P.v 2;omega));clear A BA x0 x1 x2 x3 x4 x5;go_wp2_with fail;refine⟨⟨k+1,n,es,s,by go_num,rfl,by omega,by omega,by omega,A2⟩,?_⟩;simp[intOf];omega
    ·obtain rfl:k=L:=by omega
     have hr2:R=((n,0),es,s):=(ah A).2.2.2.2.1.symm.trans (ac3 (by
      have hg:=(ah A).2.2.2.2.2.1;rw[ah HL] at hg;exact hg.aiF))
     have HE:=aj (ah dR _ _ _ _ _ _ _ (ah A) (by rw[hr2]) (by rw[hr2]));have HRR:=aj (show R.1.1=n/\R.1.2=0 from by rw[hr2];exact⟨rfl,rfl⟩);clear A hr2;go_wp2_with fail;go_ret2;refine⟨?_,ah HE⟩;rw[(ah HRR).1,(ah HRR).2];rfl
end
