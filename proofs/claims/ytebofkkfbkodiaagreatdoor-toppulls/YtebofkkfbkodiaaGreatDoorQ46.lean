/- A part. -/
import Derived.Test.YtebofkkfbkodiaaGreatDoorQ45
import Derived.Deep.LoopGhost
set_option maxRecDepth 100000
set_option maxHeartbeats 8000000
namespace Go.Proofs.YtebofkkfbkodiaaGreatDoor
open Go.RowKit Go.Proofs.Tryz
namespace Dk
def Mk (Has:I->Nat->Nat->af->Int->List aB->Prop)(SH:I->Nat->Nat->af->aH->Prop)(F0 Cs:af)(w wr W:I)(B x:Nat)(a:Option Addr)(c:Nat)(mb:Option Nat)(P:Pn.aX)(m size now:Int)(y:Po)(b:Nat)(ids:List Kn)(R:Int×List aB×aH)(es:List aB)(s:aH):Prop :=
 fM Has SH F0 (λk=>Cs k\/k=b) w W B x a c mb P m size ⟨es,s,ids⟩/\Fit P m size ⟨es,s,ids⟩/\vN W b y/\gu Cs wr W/\gK P m size now y es s=R/\(pv P 5=1->(bT P s.l y||bK P s.l y)=false)
section
variable {Has:I->Nat->Nat->af->Int->List aB->Prop}{SH:I->Nat->Nat->af->aH->Prop}{F0 Cs yI:af}{w wr wo W W':I}{B x:Nat}{a:Option Addr}{c:Nat}{mb:Option Nat}{P:Pn.aX}{m size now:Int}{y:Po}{b:Nat}{ids:List Kn}{R:Int×List aB×aH}{es:List aB}{s:aH}{st:Str}
theorem fM.fewer (U:Af Has SH)(h:fM Has SH F0 Cs w wr B x a c mb P m size st)(hC:∀k,yI k->Cs k):fM Has SH F0 yI w wr B x a c mb P m size st:=h.mine U.H U.S (agP _ _) (λk hk=>.inl (hC k hk))
theorem Mk.below (U:Af Has SH)(h:Mk Has SH F0 Cs w wr W B x a c mb P m size now y b ids R es s)(hb:ai W W'):Mk Has SH F0 Cs w wr W' B x a c mb P m size now y b ids R es s :=
 ⟨h.1.below U.H U.S hb,h.2.1,h.2.2.1.below hb,h.2.2.2.1.trans ((h.1.fewer U (λ_ hk=>.inl hk)).stay hb),h.2.2.2.2⟩
theorem Mk.erase (U:Af Has SH)(V:jF SH)(h:Mk Has SH F0 Cs w wr W B x a c mb P m size now y b ids R es s)(hB:B<=w.heap.size)(hz:¬(pv P 1≠0/\pv P 1<(sO y:Int)))(hc:¬(bT P s.l y||bK P s.l y)=false)(f:ad)(hs:f.size<=140737488355328)(hok:aC true f=0)(hq:nxQ f s.l=Ls P s.l y) :
 ∃D:Int,(D≠0->R=(D,es,s))/\Calls prog 104 #[ae x,aa now,.string f] W λe w'=>e=.returned (aa D)/\(D≠0->Mk Has SH F0 Cs w wr w' B x a c mb P m size now y b ids R es s)/\(D=0->∃es' s',Mk Has SH F0 Cs w wr w' B x a c mb P m size now y b ids R es' s'/\s'.l.length<s.l.length/\s'.l.Sublist s.l):=by
 have hp:=LC h.2.1.plan;have hd:pv P 5≠1:=λz=>hc (h.2.2.2.2.2 z)
 have he:=Gz U V h.1 h.2.1 hB now f hs hok;rw[show(⟨es,s,ids⟩:Str).s=s from rfl,show(⟨es,s,ids⟩:Str).es=es from rfl,hq] at he;have hfit:=h.2.1.did (dF (Ls P s.l y) now);refine⟨ji es s m size (dF (Ls P s.l y) now),λhD=>by rw[<-h.2.2.2.2.1];exact abW hc hd hD,he.mono ?_⟩;rintro e w' ⟨rfl,r1,s1⟩;have hst:gu Cs W w':=s1.fewer (λk hk=>.inl hk);have hpo:vN w' b y:=h.2.2.1.stay s1 (.inr rfl);refine⟨rfl,λhD=>?_,λhD=>?_⟩
 ·have e1:wM es s m size (dF (Ls P s.l y) now)=es:=by unfold wM;rw[if_neg hD]
  have e2:oV es s m size (dF (Ls P s.l y) now)=s:=by unfold oV;rw[if_neg hD]
  unfold Ag at r1;simp only[e1,e2] at r1;exact⟨r1,h.2.1,hpo,h.2.2.2.1.trans hst,h.2.2.2.2⟩
 ·exact⟨_,_,⟨r1,hfit,hpo,h.2.2.2.1.trans hst,(ae2 hp hz hc hd hD).symm.trans h.2.2.2.2.1,λz=>absurd z hd⟩,uH hD (go_in hp hz hc),ae3 hD⟩
theorem MR (U:Af Has SH)(T:xU SH)(V:jF SH)(h:fM Has SH F0 Cs w wo B x a c mb P m size st)(hf:Fit P m size st)(hB:B<=w.heap.size)(y:Po)(hy:jm y)(hok:aC false y.s=0)(hz:¬(pv P 1≠0/\pv P 1<(sO y:Int)))(hd:pv P 5=1->(bT P st.s.l y||bK P st.s.l y)=false)
 (IF:∀(yI:af) (W:I) (s':Str),fM Has SH F0 yI w W B x a c mb P m size s'->Fit P m size s'->Calls prog 103 #[ae x,BU y] W λe w'=>e=.returned (.bool (bK P s'.s.l y))/\ai W w') :
 Calls prog 61 #[ae x,aa now,BU y] wo λe w'=>e=.returned (aa (gK P m size now y st.es st.s).1)/\fM Has SH F0 Cs w w' B x a c mb P m size ⟨(gK P m size now y st.es st.s).2.1,(gK P m size now y st.es st.s).2.2,st.ids⟩/\gu Cs wo w':=by
 have b0:ai wo (wo.alloc (jQ y)):=ax _ _;obtain⟨R,hR⟩:∃R,gK P m size now y st.es st.s=R:=⟨_,rfl⟩;have hM0:Hid (Mk Has SH F0 Cs w wo (wo.alloc (jQ y)) B x a c mb P m size now y wo.heap.size st.ids R st.es st.s):=aj ⟨h.mine U.H U.S b0 (λk hk=>by
  rcases hk with z|z
  ·exact .inl z
  ·exact .inr ⟨by omega,by subst z;simp⟩),hf,vN.new wo y,h.stay b0,hR,hd⟩
 rw[hR];have zW:Hid (∀(W:I) (es:List aB) (s:aH),Mk Has SH F0 Cs w wo W B x a c mb P m size now y wo.heap.size st.ids R es s->Calls prog 102 #[ae x,BU y] W λe w'=>e=.returned (.bool (bT P s.l y))/\ai W w'):=aj (λW es s hm=>CV U T hm.1 hm.2.1 hB y hy hok);have Zv:Hid (∀(W:I) (es:List aB) (s:aH),Mk Has SH F0 Cs w wo W B x a c mb P m size now y wo.heap.size st.ids R es s->Calls prog 103 #[ae x,BU y] W λe w'=>e=.returned (.bool (bK P s.l y))/\ai W w'):=aj (λW es s hm=>IF _ W _ hm.1 hm.2.1)
 have aiI:=aj (λ(W:I) (es:List aB) (s:aH) (hm:Mk Has SH F0 Cs w wo W B x a c mb P m size now y wo.heap.size st.ids R es s) (hc:bT P s.l y=true)=>hm.erase U V hB hz (by rw[hc];simp) y.s hy.s (kR hok) (by
  unfold Ls;rw[if_pos hc];exact Ur hm.2.1.vM.ok hok))
 have aiJ:=aj (λ(W:I) (es:List aB) (s:aH) (hm:Mk Has SH F0 Cs w wo W B x a c mb P m size now y wo.heap.size st.ids R es s) (hc:bT P s.l y=false) (hfu:bK P s.l y=true)=>hm.erase U V hB hz (by rw[hfu];simp) ⟨#[62]⟩ (by decide) abf (by
  unfold Ls;rw[if_neg (by rw[hc];simp)];exact ags hm.2.1.vM.ok))
 have HMb:=aj (λ(W W':I) (es:List aB) (s:aH) (hm:Mk Has SH F0 Cs w wo W B x a c mb P m size now y wo.heap.size st.ids R es s) (hb:ai W W')=>hm.below U hb);have gQ:Hid (∀(W:I) (es:List aB) (s:aH),Mk Has SH F0 Cs w wo W B x a c mb P m size now y wo.heap.size st.ids R es s->R.2.1=es->R.2.2=s->fM Has SH F0 Cs w W B x a c mb P m size ⟨R.2.1,R.2.2,st.ids⟩/\gu Cs wo W):=aj (λW es s hm h1 h2=>by
  rw[h1,h2];exact⟨hm.1.fewer U (λk hk=>.inl hk),hm.2.2.2.1⟩)
 obtain⟨n0,hn0⟩:∃n0,n0=st.s.l.length:=⟨_,rfl⟩;have HN0:=aj hn0;obtain⟨W0,hW0⟩:∃W0,W0=wo.alloc (jQ y):=⟨_,rfl⟩;rw[<-hW0] at hM0;clear h hf hB hy hok hz hd IF b0 hR hn0;go_enter func61,ntmps61;go_wp2_with fail;rw[<-hW0];clear hW0;go_loopg [] n0 (λk W=>∃(es:List aB) (s:aH),Hid (Mk Has SH F0 Cs w wo W B x a c mb P m size now y wo.heap.size st.ids R es s)/\Hid (k=s.l.length))
 case atStart=>exact⟨_,_,hM0,HN0⟩
 case round =>
  clear hM0 HN0;obtain⟨es,s,HM,HN⟩:=hrel;obtain⟨hlt,y0,y1,y2,y3,y4,y5⟩:=(ah HM).2.2.1;have PS:=aj (ah zW _ _ _ (ah HM));obtain⟨C,hC⟩:∃C,bT P s.l y=C:=⟨_,rfl⟩;rw[hC] at PS;have HC:=aj hC;clear hC;go_wp2_with fail;refine(ah PS).mono ?_;rintro e w1 ⟨rfl,b1⟩;have WV:=aj (ah HMb _ _ _ _ (ah HM) b1);clear PS b1 HM y0 y1 y2 y3 y4 y5 hlt
  cases C with
  | true =>
   obtain⟨D,hD1,hD2⟩:=ah aiI _ _ _ (ah WV) (ah HC);have PE:=aj hD2;have HD:=aj hD1;have y0:=(ah WV).2.2.1.c0;clear hD1 hD2;go_wp2_with fail;refine(ah PE).mono ?_;rintro e w2 ⟨rfl,k1,k2⟩;have K1:=aj k1;have K2:=aj k2;clear PE k1 k2 WV y0;by_cases h0:D=0
   ·obtain⟨es',s',hm',hl',_⟩:=ah K2 h0;have YH:=aj hm';have HL:=aj hl';subst h0;clear hm' hl' K1 K2 HD;go_wp2_with fail;go_roundg s'.l.length
    case measure=>have:=ah HL;have:=ah HN;omega
    case rel=>exact⟨_,_,YH,aj rfl⟩
   ·have e5:(D !=0)=true:=by simpa using h0
    have hr:=ah HD h0;have HE:=aj (ah gQ _ _ _ (ah K1 h0) (by rw[hr]) (by rw[hr]));have HR:=aj (show R.1=D from by rw[hr]);clear K1 K2 HD hr;go_wp2_with fail;go_ret;rw[ah HR];exact⟨rfl,ah HE⟩
  | false =>
   obtain⟨n1,hn1⟩:∃n1,n1=s.l.length:=⟨_,rfl⟩;have HN1:=aj hn1;clear hn1 HN;go_wp2_with fail;go_loopg [] n1 (λk W=>∃(es:List aB) (s:aH),Hid (Mk Has SH F0 Cs w wo W B x a c mb P m size now y wo.heap.size st.ids R es s)/\Hid (k=s.l.length)/\Hid (bT P s.l y=false))
   case atStart=>exact⟨_,_,WV,HN1,HC⟩
   case round =>
    clear WV HN1 HC;obtain⟨es,s,HM,HN,HC⟩:=hrel;obtain⟨hlt,y0,y1,y2,y3,y4,y5⟩:=(ah HM).2.2.1;have PS:=aj (ah Zv _ _ _ (ah HM));obtain⟨C,hC⟩:∃C,bK P s.l y=C:=⟨_,rfl⟩;rw[hC] at PS;have HF:=aj hC;clear hC;go_wp2_with fail;refine(ah PS).mono ?_;rintro e w1 ⟨rfl,b1⟩;have WV:=aj (ah HMb _ _ _ _ (ah HM) b1);clear PS b1 HM y0 y1 y2 y3 y4 y5 hlt
    cases C with
    | true =>
     obtain⟨D,hD1,hD2⟩:=ah aiJ _ _ _ (ah WV) (ah HC) (ah HF);have PE:=aj hD2;have HD:=aj hD1;clear hD1 hD2;go_wp2_with fail;refine(ah PE).mono ?_;rintro e w2 ⟨rfl,k1,k2⟩;have K1:=aj k1;have K2:=aj k2;clear PE k1 k2 WV;by_cases h0:D=0
     ·obtain⟨es',s',hm',hl',hs'⟩:=ah K2 h0;have YH:=aj hm';have HL:=aj hl';have HC2:=aj (Un hs' (ah HC));subst h0;clear hm' hl' hs' K1 K2 HD;go_wp2_with fail;go_roundg s'.l.length
      case measure=>have:=ah HL;have:=ah HN;omega
      case rel=>exact⟨_,_,YH,aj rfl,HC2⟩
     ·have e5:(D !=0)=true:=by simpa using h0
      have hr:=ah HD h0;have HE:=aj (ah gQ _ _ _ (ah K1 h0) (by rw[hr]) (by rw[hr]));have HR:=aj (show R.1=D from by rw[hr]);clear K1 K2 HD hr;go_wp2_with fail;go_ret;rw[ah HR];exact⟨rfl,ah HE⟩
    | false =>
     have hr:R=(0,es,s):=(ah WV).2.2.2.2.1.symm.trans (ae1 (by rw[ah HC,ah HF];rfl));have HE:=aj (ah gQ _ _ _ (ah WV) (by rw[hr]) (by rw[hr]));have HR:=aj (show R.1=0 from by rw[hr]);clear hr WV;go_wp2_with fail;go_ret;rw[ah HR];exact⟨rfl,ah HE⟩
end
def GL (m size now:Int)(y:Po)(q:Int)(st:Str):Int:=if y.ro=0 then 0 else ji st.es st.s m size (mD q now (qM y))
def MS (m size now:Int)(y:Po)(q:Int)(st:Str):Str:=if y.ro=0 then st else Ag m size st (mD q now (qM y))
abbrev At6 (g:Nat)(r:Rc)(w:I):Prop:=w.cell? (aq g 0)=some (aa r.k)/\w.cell? (aq g 1)=some (aa r.q)/\w.cell? (aq g 2)=some (aa r.t)/\w.cell? (aq g 3)=some (.string r.s)/\w.cell? (aq g 4)=some (.string r.h)/\w.cell? (aq g 5)=some (.string r.d)
section
variable {Has:I->Nat->Nat->af->Int->List aB->Prop}{SH:I->Nat->Nat->af->aH->Prop}{F0 Cs:af}{w wr w':I}{B x:Nat}{a:Option Addr}{c:Nat}{mb:Option Nat}{P:Pn.aX}{m size:Int}{st:Str}
theorem ac3 (U:Af Has SH)(h:fM Has SH F0 Cs w wr B x a c mb P m size st)(hf:Fit P m size st)(hB:B<=w.heap.size)(now q:Int)(y:Po)(hy:jm y)(hr:0<=y.ro/\y.ro<=2) :
 Calls prog 107 #[ae x,aa now,aa q,BU y] wr λe w'=>e=.returned (aa (GL m size now y q st))/\fM Has SH F0 Cs w w' B x a c mb P m size (MS m size now y q st)/\gu Cs wr w':=by
 have b0:ai wr (wr.alloc (jQ y)):=ax _ _;have r0:=h.below U.H U.S b0;have s0:=h.stay b0;have hx:=h.lt;obtain⟨_,y0,y1,y2,y3,y4,y5⟩:=vN.new wr y;by_cases h1:y.ro=1
 ·have e1:(y.ro==1)=true:=by rw[alx];exact h1
  have e2:decide (y.ro=1)=true:=ajH h1;have hF:qM y=y.s:=by unfold qM;rw[if_pos h1]
  have HR:=aj (show GL m size now y q st=ji st.es st.s m size (mD q now y.s)/\MS m size now y q st=Ag m size st (mD q now y.s) from by
   unfold GL MS;rw[hF,if_neg (by omega),if_neg (by omega)];exact⟨rfl,rfl⟩)
  have PP:=aj (Gx U r0 hf hB now q y.s hy.s);have S0:=aj s0;generalize ji st.es st.s m size (mD q now y.s)=D at *;generalize Ag m size st (mD q now y.s)=st' at *;clear h hf r0 s0 h1 hr hF b0 hy;go_enter func107,ntmps107;go_wp2_with fail;refine(ah PP).mono ?_;rintro e w1 ⟨rfl,r1,s1⟩;have B1:=aj (And.intro r1 ((ah S0).trans s1));clear PP r1 s1;go_wp2_with fail;go_ret;rw[(ah HR).1,(ah HR).2];exact⟨rfl,ah B1⟩
 ·have e1:(y.ro==1)=false:=by rw[ajM];exact h1
  have e2:decide (y.ro=1)=false:=ajE h1;by_cases h2:y.ro=2
  ·have e3:(y.ro==2)=true:=by rw[alx];exact h2
   have e4:decide (y.ro=2)=true:=ajH h2;have hF:qM y=⟨#[62]⟩:=by unfold qM;rw[if_neg h1]
   have HR:=aj (show GL m size now y q st=ji st.es st.s m size (mD q now ⟨#[62]⟩)/\MS m size now y q st=Ag m size st (mD q now ⟨#[62]⟩) from by
    unfold GL MS;rw[hF,if_neg (by omega),if_neg (by omega)];exact⟨rfl,rfl⟩)
   have PP:=aj (Gx U r0 hf hB now q ⟨#[62]⟩ (by decide));have S0:=aj s0;generalize ji st.es st.s m size (mD q now ⟨#[62]⟩)=D at *;generalize Ag m size st (mD q now ⟨#[62]⟩)=st' at *;clear h hf r0 s0 h1 h2 hr hF b0 hy;go_enter func107,ntmps107;go_wp2_with fail;refine(ah PP).mono ?_;rintro e w1 ⟨rfl,r1,s1⟩;have B1:=aj (And.intro r1 ((ah S0).trans s1));clear PP r1 s1;go_wp2_with fail;go_ret;rw[(ah HR).1,(ah HR).2];exact⟨rfl,ah B1⟩
  ·have e3:(y.ro==2)=false:=by rw[ajM];exact h2
   have e4:decide (y.ro=2)=false:=ajE h2;have h3:y.ro=0:=by omega
   have HR:=aj (show GL m size now y q st=0/\MS m size now y q st=st from by
    unfold GL MS;rw[if_pos h3,if_pos h3];exact⟨rfl,rfl⟩)
   have B1:=aj (And.intro r0 s0);clear h hf r0 s0 h1 h2 h3 hr b0 hy;go_enter func107,ntmps107;go_wp2_with fail;go_ret;rw[(ah HR).1,(ah HR).2];exact⟨rfl,ah B1⟩
theorem Fit.more {wE:List Kn}(h:Fit P m size st)(hq:∀k∈wE,1<=k.q):Fit P m size ⟨st.es,st.s,wE⟩:=⟨h.plan,h.vM,h.room,h.size,hq⟩
theorem fM.few (h:fM Has SH F0 Cs w wr B x a c mb P m size st):(st.ids.length:Int)<=st.s.last:=by
 obtain⟨FV,h1,_⟩:=h;exact h1.few
end
section
variable {Has:I->Nat->Nat->af->Int->List aB->Prop}{SH:I->Nat->Nat->af->aH->Prop}{F0 Cs:af}{w wr w':I}{B x:Nat}{a:Option Addr}{c:Nat}{mb:Option Nat}{P:Pn.aX}{m size:Int}{st:Str}
theorem At6.stay {g:Nat}{r:Rc}{W W':I}{D:af}(h:At6 g r W)(s:gu D W W')(hg:D g):At6 g r W':=⟨(s.cell hg).trans h.1,(s.cell hg).trans h.2.1,(s.cell hg).trans h.2.2.1,(s.cell hg).trans h.2.2.2.1,(s.cell hg).trans h.2.2.2.2.1,(s.cell hg).trans h.2.2.2.2.2⟩
theorem Xd {r:Rc}(h:ji st.es st.s m size r≠0):Ag m size st r=st:=by
 unfold Ag wM oV;rw[if_neg h,if_neg h]
theorem afu {now:Int}{y:Po}(h:ji st.es st.s m size (iH (st.s.last+1) now y)≠0):mF m size now y st.ids st.es st.s=((0,false,ji st.es st.s m size (iH (st.s.last+1) now y)),st):=by
 unfold mF;rw[if_pos h]
theorem UR {now:Int}{y:Po}{st1:Str}(h:ji st.es st.s m size (iH (st.s.last+1) now y)=0)(h1:st1=⟨(Ag m size st (iH (st.s.last+1) now y)).es,(Ag m size st (iH (st.s.last+1) now y)).s,xY st.ids y.i now (st.s.last+1)⟩) :
 mF m size now y st.ids st.es st.s=((if GL m size now y (st.s.last+1) st1=0 then st.s.last+1 else 0,false,GL m size now y (st.s.last+1) st1),MS m size now y (st.s.last+1) st1):=by
 subst h1;unfold mF GL MS;rw[if_neg (by rw[h];simp)];by_cases c1:y.ro=0
 ·rw[if_pos c1,if_pos c1,if_pos c1];rfl
 ·rw[if_neg c1,if_neg c1,if_neg c1];unfold Ag xY TN;simp only;by_cases c2:ji (wM st.es st.s m size (iH (st.s.last+1) now y)) (oV st.es st.s m size (iH (st.s.last+1) now y)) m size (mD (st.s.last+1) now (qM y))=0
  ·rw[if_neg (by rw[c2];simp),if_pos c2,c2]
  ·rw[if_pos c2,if_neg c2];have e1:wM (wM st.es st.s m size (iH (st.s.last+1) now y)) (oV st.es st.s m size (iH (st.s.last+1) now y)) m size (mD (st.s.last+1) now (qM y))=wM st.es st.s m size (iH (st.s.last+1) now y):=by
    rw[wM,if_neg c2]
   have e2:oV (wM st.es st.s m size (iH (st.s.last+1) now y)) (oV st.es st.s m size (iH (st.s.last+1) now y)) m size (mD (st.s.last+1) now (qM y))=oV st.es st.s m size (iH (st.s.last+1) now y):=by
    rw[oV,if_neg c2]
   rw[e1,e2]
theorem add_any (U:Af Has SH)(h:fM Has SH F0 Cs w wr B x a c mb P m size st)(hf:Fit P m size st)(hB:B<=w.heap.size)(now:Int)(y:Po)(hy:jm y)(hr:0<=y.ro/\y.ro<=2)(hno:y.i.size≠0->pv P 7≠0->¬0<pK st.ids y.i (now-pv P 7)) :
 Calls prog 62 #[ae x,aa now,BU y] wr λe w'=>e=.returned (.tuple #[aa (mF m size now y st.ids st.es st.s).1.1,aa (mF m size now y st.ids st.es st.s).1.2.2])/\(∃mb',fM Has SH F0 Cs w w' B x a c mb' P m size (mF m size now y st.ids st.es st.s).2)/\gu Cs wr w':=by
 have b0:ai wr (wr.alloc (jQ y)):=ax _ _;have hk:=hf.vM.ok;have hlast:=hk.last;have r0:=h.mine U.H U.S (yI:=λk=>Cs k\/k=wr.heap.size) b0 (λk hk=>by
  rcases hk with z|z
  ·exact .inl z
  ·exact .inr ⟨by omega,by subst z;simp⟩)
 have p0:=vN.new wr y;have s0:=h.stay b0;have P1:=aj (iF r0);have P2:=aj (λ(W:I) (q:Nat) (G:af) (hS:SH W B q G st.s) (hW:B<=W.heap.size)=>U.S.sees.sums hS hk hW);have hBr:=ajA hB r0.room;have R0:=aj r0;have HP:=aj (λ(W:I) (hW:Below (wr.alloc (jQ y)).heap.size (wr.alloc (jQ y)) W)=>p0.below hW);have S0:=aj s0;have hsl:∀x0 x1 x2 x3:Value,∀W:I,(Instr.field 182 (.agg #[x0,x1,x2,x3]) 3).run prog W=.ok x3 W:=λ_ _ _ _ _=>by kernel_rfl
 have hms:Small (iH (st.s.last+1) now y):=⟨hy.s,hy.h,hy.d⟩;have HF:=aj hf;have aiK:=aj h.few;have HY:=aj hy;have HRo:=aj hr;have HNo:=aj hno;obtain⟨r,hrr⟩:∃r,iH (st.s.last+1) now y=r:=⟨_,rfl⟩;have HRR:=aj hrr;obtain⟨l0,l1⟩:=hlast;obtain⟨last,hla⟩:∃last,st.s.last=last:=⟨_,rfl⟩;have HLa:=aj hla;rw[hla] at P2 l0 l1;rw[hrr] at hms;generalize (st.s.l.length:Int)=n1 at P2;generalize (dG st.s.l:Int)=n2 at P2;generalize jE st.s.l=n3 at P2;clear h hf hk r0 p0 b0 s0 hy hr hno hrr hla;go_enter func62,ntmps62;go_wp2_with fail;refine(ah P1).mono ?_;rintro e w1 ⟨q,G,rfl,h1,b1⟩
 have P3:=aj (ah P2 w1 q G h1 (ajA hBr b1.size));have B1:=aj b1;clear P1 P2 h1 b1;go_wp2_with fail;refine(ah P3).mono ?_;rintro e w2 ⟨rfl,b2⟩;have B2:=aj (ak (ah B1) b2);obtain⟨hpl,z0,z1,z2,z3,z4,z5⟩:=ah HP w2 (ah B2);clear P3 b2 B1;have er:r=⟨1,last+1,now,y.s,y.h,y.d⟩:=by rw[<-ah HRR,ah HLa];rfl
 have bA:ai w2 (w2.alloc (.cells #[aa 1,aa (last+1),aa now,.string y.s,.string y.h,.string y.d] 46)):=ax _ _;have bA2:ai w2 (w2.alloc (.cells #[aa 1,aa (last+1),aa now,.string y.s,.string y.h,.string y.d] 46)).drew:=bA.drew;have R3:=aj ((((ah R0).below U.H U.S (ah B2)).mine U.H U.S (yI:=λk=>(Cs k\/k=wr.heap.size)\/k=w2.heap.size) bA2 (λk hk=>by
  rcases hk with z|z
  ·exact .inl z
  ·exact .inr ⟨by omega,by subst z;simp⟩)))
 have S3:=aj (((ah S0).trans ⟨(ah B2).size,λk hk=>((ah R0).stay (ah B2)).2 k (.inl hk)⟩).trans ⟨bA2.size,λk hk=>(((ah R0).below U.H U.S (ah B2)).stay bA2).2 k (.inl hk)⟩);have k3:At6 w2.heap.size r (w2.alloc (.cells #[aa 1,aa (last+1),aa now,.string y.s,.string y.h,.string y.d] 46)).drew:=by
  rw[er];exact⟨by simp,by simp,by simp,by simp,by simp,by simp⟩
 have PO3:=aj ((ah HP w2 (ah B2)).below bA2);have PD:=aj ((ah R3).vdo U (ah HF) hB r hms);have HK3:=aj k3;clear er bA bA2 z4 z5 z1;go_wp2_with fail;go_region_held3 (At6 w2.heap.size r) (first|assumption|go_keep)
  (first
   | (go_at_call 105;refine(ah PD).mono ?_;rintro e w4 ⟨rfl,r4,s4⟩;have k4:=At6.stay (ah HK3) s4 (.inr rfl);have R4:=aj r4;have S4:=aj s4;clear r4 s4))
 have PO4:=aj ((ah PO3).stay (ah S4) (.inl (.inr rfl)));have SS4:=aj ((ah S3).trans ((ah S4).fewer (λk hk=>.inl (.inl hk))));clear k3 k4 HK3 PD R3 S3 S4 PO3 hpl z0 z2 z3;obtain⟨E,hE⟩:∃E,ji st.es st.s m size r=E:=⟨_,rfl⟩;rw[hE];have HE:=aj hE;clear hE;by_cases h0:E=0
 ·have hz:=(ah HE).trans h0;have hzm:ji st.es st.s m size (iH (st.s.last+1) now y)=0:=by rw[ah HRR];exact hz
  have hl1:(Ag m size st r).s.last=last+1:=by
   show(oV st.es st.s m size r).last=last+1;rw[<-ah HRR,aex hzm,ah HLa]
  have F4:=aj ((ah HF).did r);have PK:=aj (acY U (ah R4) (ah F4) hB y.i (ah HY).i (last+1) now (λu v=>by have t:=ah HNo u v;show ¬0<pK st.ids y.i (now-pv P 7);omega) (by rw[hl1,<-ah HLa];have:=ah aiK;show(st.ids.length:Int)+1<=_;omega));have y1:=(ah PO4).c1;obtain⟨st2,hst2⟩:∃st2,st2=(⟨(Ag m size st r).es,(Ag m size st r).s,xY (Ag m size st r).ids y.i now (last+1)⟩:Str):=⟨_,rfl⟩;rw[<-hst2] at PK;have F5:=aj (show Fit P m size st2 from by
   rw[hst2];refine(ah F4).more (λk hk=>?_);have hk':k∈TN st.ids y now (last+1):=hk;exact DL (ah HF).Ig (by omega) k hk')
  have UU:=aj (UR (now:=now) (y:=y) (st1:=st2) hzm (by rw[hst2,ah HRR,ah HLa];rfl));rw[ah HLa] at UU;subst h0;clear hz hzm hl1 hst2 F4 HE;go_wp2_with fail;refine(ah PK).mono ?_;rintro e w5 ⟨rfl,⟨mb5,r5⟩,s5⟩;have PO5:=aj ((ah PO4).stay s5 (.inl (.inr rfl)));have SS5:=aj ((ah SS4).trans (s5.fewer (λk hk=>.inl (.inl hk))));have PR:=aj (ac3 U r5 (ah F5) hB now (last+1) y (ah HY) (ah HRo));obtain⟨_,v0,v1,v2,v3,v4,v5⟩:=ah PO5;obtain⟨D,hD⟩:∃D,GL m size now y (last+1) st2=D:=⟨_,rfl⟩;rw[hD] at PR UU;clear PK R4 PO4 SS4 y1 r5 s5 hD;go_wp2_with fail
  refine(ah PR).mono ?_;rintro e w6 ⟨rfl,r6,s6⟩;have E6:=aj (show(∃mb',fM Has SH F0 Cs w w6 B x a c mb' P m size (mF m size now y st.ids st.es st.s).2)/\gu Cs wr w6 from⟨⟨mb5,by rw[ah UU];exact r6.fewer U (λk hk=>.inl (.inl hk))⟩,(ah SS5).trans (s6.fewer (λk hk=>.inl (.inl hk)))⟩);clear PR r6 s6 SS5 PO5 v0 v1 v2 v3 v4 v5;by_cases hD0:D=0
  ·have HQ:=aj (show(mF m size now y st.ids st.es st.s).1.1=last+1/\(mF m size now y st.ids st.es st.s).1.2.2=0 from by rw[ah UU,if_pos hD0];exact⟨rfl,hD0⟩);subst hD0;clear UU;go_wp2_with fail;go_ret2;rw[(ah HQ).1,(ah HQ).2];exact⟨rfl,ah E6⟩
  ·have HQ:=aj (show(mF m size now y st.ids st.es st.s).1.1=0/\(mF m size now y st.ids st.es st.s).1.2.2=D from by rw[ah UU,if_neg hD0];exact⟨rfl,rfl⟩);have e5:(D !=0)=true:=by simpa using hD0
   clear UU;go_wp2_with fail;go_ret2;rw[(ah HQ).1,(ah HQ).2];exact⟨rfl,ah E6⟩
 ·have hb:=Xd (by rw[ah HE];exact h0:ji st.es st.s m size r≠0);have hp:=afu (now:=now) (y:=y) (by rw[ah HRR,ah HE];exact h0:ji st.es st.s m size (iH (st.s.last+1) now y)≠0);rw[ah HRR,ah HE] at hp;have E6:=aj (show(∃mb',fM Has SH F0 Cs w w4 B x a c mb' P m size (mF m size now y st.ids st.es st.s).2)/\gu Cs wr w4 from⟨⟨mb,by rw[hp,<-hb];exact(ah R4).fewer U (λk hk=>.inl (.inl hk))⟩,ah SS4⟩);have HQ:=aj (show(mF m size now y st.ids st.es st.s).1.1=0/\(mF m size now y st.ids st.es st.s).1.2.2=E from by rw[hp];exact⟨rfl,rfl⟩);have e5:(E !=0)=true:=by simpa using h0
  clear hb hp HE R4 SS4 PO4;go_wp2_with fail;go_ret2;rw[(ah HQ).1,(ah HQ).2];exact⟨rfl,ah E6⟩
end
section
variable {Has:I->Nat->Nat->af->Int->List aB->Prop}{SH:I->Nat->Nat->af->aH->Prop}{F0 Cs:af}{w wr w':I}{B x:Nat}{a:Option Addr}{c:Nat}{mb:Option Nat}{P:Pn.aX}{m size:Int}{st:Str}
theorem afv {now:Int}{y:Po}(h:sN P now y≠0):dX P m size now y st=((0,false,sN P now y),st):=by unfold dX;rw[if_pos h]
theorem Zy {now:Int}{y:Po}(h:sN P now y=0)(h1:oG P now y st.ids=true):dX P m size now y st=((pK st.ids y.i (now-pv P 7),true,0),st):=by unfold dX;rw[if_neg (by rw[h];simp),if_pos h1]
theorem afw {now:Int}{y:Po}(h:sN P now y=0)(h1:oG P now y st.ids=false)(h2:MQ P st.s y≠0):dX P m size now y st=((0,false,MQ P st.s y),st):=by
 unfold dX;rw[if_neg (by rw[h];simp),if_neg (by rw[h1];simp)];unfold MQ uP at h2 ⊢;by_cases c1:y.x≠-1/\y.x≠st.s.last
 ·rw[if_pos c1,if_pos c1]
 ·rw[if_neg c1] at h2 ⊢;rw[if_neg c1];have hr:kW P m size now y st.es st.s=(8,st.es,st.s):=by
   unfold kW;by_cases c2:pv P 1≠0/\pv P 1<(sO y:Int)
   ·rw[if_pos c2]
   ·rw[if_neg c2] at h2 ⊢;by_cases c3:pv P 5=1/\(bT P st.s.l y||bK P st.s.l y)=true
    ·exact abV (by rw[c3.2];simp) c3.1
    ·rw[if_neg c3] at h2;exact absurd rfl h2
  have h8:(if pv P 1≠0/\pv P 1<(sO y:Int) then (8:Int) else if pv P 5=1/\(bT P st.s.l y||bK P st.s.l y)=true then 8 else 0)=8:=by
   by_cases c2:pv P 1≠0/\pv P 1<(sO y:Int)
   ·rw[if_pos c2]
   ·rw[if_neg c2] at h2 ⊢;by_cases c3:pv P 5=1/\(bT P st.s.l y||bK P st.s.l y)=true
    ·rw[if_pos c3]
    ·rw[if_neg c3] at h2;exact absurd rfl h2
  rw[hr,h8];rfl
theorem ac4 {y:Po}(h:MQ P st.s y=0):¬(y.x≠-1/\y.x≠st.s.last)/\¬(pv P 1≠0/\pv P 1<(sO y:Int))/\(pv P 5=1->(bT P st.s.l y||bK P st.s.l y)=false):=by
 unfold MQ uP at h;by_cases c1:y.x≠-1/\y.x≠st.s.last
 ·rw[if_pos c1] at h;exact absurd h (by decide)
 ·rw[if_neg c1] at h;by_cases c2:pv P 1≠0/\pv P 1<(sO y:Int)
  ·rw[if_pos c2] at h;exact absurd h (by decide)
  ·rw[if_neg c2] at h;refine⟨c1,c2,λz=>?_⟩
   cases hc:(bT P st.s.l y||bK P st.s.l y) with
   | false=>rfl
   | true=>rw[if_pos ⟨z,hc⟩] at h;exact absurd h (by decide)
theorem agI {now:Int}{y:Po}(h:sN P now y=0)(h1:oG P now y st.ids=false)(h2:MQ P st.s y=0):dX P m size now y st=if (gK P m size now y st.es st.s).1≠0 then ((0,false,(gK P m size now y st.es st.s).1),⟨(gK P m size now y st.es st.s).2.1,(gK P m size now y st.es st.s).2.2,st.ids⟩) else mF m size now y st.ids (gK P m size now y st.es st.s).2.1 (gK P m size now y st.es st.s).2.2:=by
 obtain⟨c1,c2,_⟩:=ac4 h2;have hr:kW P m size now y st.es st.s=gK P m size now y st.es st.s:=by unfold kW gK;rw[if_neg c2]
 unfold dX;rw[if_neg (by rw[h];simp),if_neg (by rw[h1];simp),if_neg c1,hr]
theorem agJ {now:Int}{y:Po}(h:sN P now y=0):(0<=now/\now<=1099511627776)/\(0<=y.ro/\y.ro<=2)/\aC false y.s=0:=by
 by_cases hg:eX now 0 1099511627776=true/\-1<=y.x/\0<=y.ro/\y.ro<=2
 ·refine⟨by simpa[eX] using hg.1,⟨hg.2.2.1,hg.2.2.2⟩,?_⟩;rw[Q8 hg] at h;by_cases c1:aC false y.s=0
  ·exact c1
  ·rw[if_pos c1] at h;exact absurd h c1
 ·rw[Xc hg] at h;exact absurd h (by decide)
theorem fM.sees (h:fM Has SH F0 Cs w wr B x a c mb P m size st):YO wr x P a c/\gU wr a P.f/\gI P:=by
 obtain⟨FV,h1,_⟩:=h;exact⟨h1.plan,h1.row,h1.small⟩
theorem Fit.room' {now:Int}{y:Po}(h:Fit P m size st):Fit P m size ⟨(gK P m size now y st.es st.s).2.1,(gK P m size now y st.es st.s).2.2,st.ids⟩:=⟨h.plan,zu.room _ h.vM,h.room,h.size,h.Ig⟩
theorem Q9 (U:Af Has SH)(T:xU SH)(V:jF SH)(h:fM Has SH F0 Cs w wr B x a c mb P m size st)(hf:Fit P m size st)(hB:B<=w.heap.size)(now:Int)(y:Po)(hy:jm y) :
 Calls prog 29 #[ae x,aa now,BU y] wr λe w'=>e=.returned (.tuple #[aa (dX P m size now y st).1.1,.bool (dX P m size now y st).1.2.1,aa (dX P m size now y st).1.2.2])/\(∃mb',fM Has SH F0 Cs w w' B x a c mb' P m size (dX P m size now y st).2)/\gu Cs wr w':=by
 have b0:ai wr (wr.alloc (jQ y)):=ax _ _;have r0:=h.mine U.H U.S (yI:=λk=>Cs k\/k=wr.heap.size) b0 (λk hk=>by
  rcases hk with z|z
  ·exact .inl z
  ·exact .inr ⟨by omega,by subst z;simp⟩)
 have p0:=vN.new wr y;have s0:=h.stay b0;have hse:=r0.sees;have P1:=aj (Iq hf.plan hse.2.2 hse.1 hse.2.1 now y hy);have HW:=aj (λ(W:I) (hW:Below (wr.alloc (jQ y)).heap.size (wr.alloc (jQ y)) W)=>show fM Has SH F0 (λk=>Cs k\/k=wr.heap.size) w W B x a c mb P m size st/\vN W wr.heap.size y/\gu Cs wr W from⟨r0.below U.H U.S hW,p0.below hW,s0.trans ⟨hW.size,λk hk=>(r0.stay hW).2 k (.inl hk)⟩⟩);have gQ:=aj (λ(W:I) (hW:Below (wr.alloc (jQ y)).heap.size (wr.alloc (jQ y)) W)=>show(∃mb',fM Has SH F0 Cs w W B x a c mb' P m size st)/\gu Cs wr W from⟨⟨mb,(r0.below U.H U.S hW).fewer U (λk hk=>.inl hk)⟩,s0.trans ⟨hW.size,λk hk=>(r0.stay hW).2 k (.inl hk)⟩⟩)
 have hx0:=r0.lt;obtain⟨_,y0,y1,y2,y3,y4,y5⟩:=p0;obtain⟨E,hE⟩:∃E,sN P now y=E:=⟨_,rfl⟩;rw[hE] at P1;have HE:=aj hE;have HF:=aj hf;have HY:=aj hy;clear h hf hy r0 b0 s0 hse hE;go_enter func29,ntmps29;go_wp2_with fail;refine(ah P1).mono ?_;rintro e w1 ⟨rfl,b1⟩;have B1:=aj b1;clear P1 b1 y0 y1 y2 y3 y4 y5;by_cases h0:E=0
 ·have hpre:=(ah HE).trans h0;obtain⟨hn,hro,hok⟩:=agJ hpre;have MO:=aj hpre;have HRo:=aj hro;have HOk:=aj hok;have q1:=ah HW w1 (ah B1);have P2:=aj (Q7 q1.1 (ah HF) now hn y.i (ah HY).i);obtain⟨ha,hb⟩:=acW (now:=now) (y:=y) q1.1.map.2 (ah HF).Ig;rw[<-ha] at P2;have HA:=aj hb;have z1:=q1.2.1.c1;subst h0;clear hpre hn hro hok q1 HE ha hb;obtain⟨K,hK⟩:∃K,knQ (kZ (jA P st.ids) y.i) (now-pv P 7)=K:=⟨_,rfl⟩;rw[hK] at P2 HA;obtain⟨A,hA⟩:∃A,oG P now y st.ids=A:=⟨_,rfl⟩;rw[hA] at P2 HA;have HAA:=aj hA;clear hK hA;go_wp2_with fail;refine(ah P2).mono ?_
  rintro e w2 ⟨rfl,b2⟩;have B2:=aj (ak (ah B1) b2);clear P2 b2 z1
  cases A with
  | true =>
   have HQ:=aj (Zy (m:=m) (size:=size) (ah MO) (ah HAA));have HS:=aj (ah HA rfl);have HZ:=aj (ah gQ w2 (ah B2));clear HA gQ HW;go_wp2_with fail;go_ret3;rw[ah HQ];exact⟨by rw[ah HS];rfl,ah HZ⟩
  | false =>
   have q2:=ah HW w2 (ah B2);have P3:=aj (GI U T q2.1 (ah HF) hB y (ah HY) (ah HOk) (λW hW=>GK U hW (ah HF) hB y (ah HY)));obtain⟨_,y0,y1,y2,y3,y4,y5⟩:=q2.2.1;obtain⟨E2,hE2⟩:∃E,MQ P st.s y=E:=⟨_,rfl⟩;rw[hE2] at P3;have HE2:=aj hE2;clear q2 hE2 HA;go_wp2_with fail;refine(ah P3).mono ?_;rintro e w3 ⟨rfl,b3⟩;have B3:=aj (ak (ah B2) b3);clear P3 b3 y0 y1 y2 y3 y4 y5;by_cases h2:E2=0
   ·have hc:=(ah HE2).trans h2;obtain⟨_,hc2,hc3⟩:=ac4 hc;have HG:=aj (agI (m:=m) (size:=size) (ah MO) (ah HAA) hc);have q3:=ah HW w3 (ah B3);have P4:=aj (MR (now:=now) U T V q3.1 (ah HF) hB y (ah HY) (ah HOk) hc2 hc3 (λyI W s' hW hf'=>GK U hW hf' hB y (ah HY)));have F4:=aj ((ah HF).room' (now:=now) (y:=y));obtain⟨es4,he4⟩:∃z,(gK P m size now y st.es st.s).2.1=z:=⟨_,rfl⟩;obtain⟨s4,hs4⟩:∃z,(gK P m size now y st.es st.s).2.2=z:=⟨_,rfl⟩;obtain⟨D,hD⟩:∃z,(gK P m size now y st.es st.s).1=z:=⟨_,rfl⟩;rw[he4,hs4,hD] at P4 HG
    rw[he4,hs4] at F4;have S3:=aj q3.2.2;have PO3:=aj q3.2.1;obtain⟨_,y0,y1,y2,y3,y4,y5⟩:=q3.2.1;subst h2;clear hc hc2 hc3 q3 he4 hs4 hD HE2 gQ HW;go_wp2_with fail;refine(ah P4).mono ?_;rintro e w4 ⟨rfl,r4,t4⟩;have R4:=aj r4;have S4:=aj ((ah S3).trans (t4.fewer (λk hk=>.inl hk)));have PO4:=aj ((ah PO3).stay t4 (.inr rfl));clear P4 r4 t4 y0 y1 y2 y3 y4 y5;by_cases h4:D=0
    ·have HG2:=ah HG;rw[if_neg (by rw[h4];simp)] at HG2;have HG3:=aj HG2;have P5:=aj (add_any U (ah R4) (ah F4) hB now y (ah HY) (ah HRo) (λu v z=>by
      have hz:=ah HAA;unfold oG at hz;have z':0<pK st.ids y.i (now-pv P 7):=z;rw[ajH u,ajH v,ajH z'] at hz
      cases hz))
     obtain⟨_,y0,y1,y2,y3,y4,y5⟩:=ah PO4;rw[<-HG2] at P5;subst h4;clear HG2 HG R4;go_wp2_with fail;refine(ah P5).mono ?_;rintro e w5 ⟨rfl,⟨mb5,r5⟩,t5⟩;have HZ:=aj (show(∃mb',fM Has SH F0 Cs w w5 B x a c mb' P m size (dX P m size now y st).2)/\gu Cs wr w5 from⟨⟨mb5,r5.fewer U (λk hk=>.inl hk)⟩,(ah S4).trans (t5.fewer (λk hk=>.inl hk))⟩);have HB:=aj (show(dX P m size now y st).1.2.1=false from by
      rw[ah HG3];unfold mF;split
      ·rfl
      ·split
       ·rfl
       ·split
        ·rfl
        ·rfl)
     clear P5 r5 t5 HG3;go_wp2_with fail;go_ret3;rw[ah HB];exact⟨rfl,ah HZ⟩
    ·have HG2:=ah HG;rw[if_pos h4] at HG2;have HG3:=aj HG2;have e5:(D !=0)=true:=by simpa using h4
     have HZ:=aj (show(∃mb',fM Has SH F0 Cs w w4 B x a c mb' P m size ⟨es4,s4,st.ids⟩)/\gu Cs wr w4 from⟨⟨mb,(ah R4).fewer U (λk hk=>.inl hk)⟩,ah S4⟩);clear HG2 HG R4;go_wp2_with fail;go_ret3;rw[ah HG3];exact⟨rfl,ah HZ⟩
   ·have HQ:=aj (afw (m:=m) (size:=size) (ah MO) (ah HAA) (by rw[ah HE2];exact h2));rw[ah HE2] at HQ;have e5:(E2 !=0)=true:=by simpa using h2
    have HZ:=aj (ah gQ w3 (ah B3));clear gQ HW HE2;go_wp2_with fail;go_ret3;rw[ah HQ];exact⟨rfl,ah HZ⟩
 ·have HQ:=aj (afv (m:=m) (size:=size) (st:=st) (by rw[ah HE];exact h0:sN P now y≠0));rw[ah HE] at HQ;have e5:(E !=0)=true:=by simpa using h0
  have HZ:=aj (ah gQ w1 (ah B1));clear HE gQ HW;go_wp2_with fail;go_ret3;rw[ah HQ];exact⟨rfl,ah HZ⟩
end
