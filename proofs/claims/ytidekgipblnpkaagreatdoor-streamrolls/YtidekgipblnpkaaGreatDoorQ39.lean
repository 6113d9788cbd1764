/- A part of the proof. -/
import Derived.Test.YtidekgipblnpkaaGreatDoorQ38
import Derived.Deep.LoopGhost
set_option maxRecDepth 100000
set_option maxHeartbeats 8000000
namespace Go.Proofs.YtidekgipblnpkaaGreatDoor.Dk
open Go.RowKit Go.Proofs.Tryz
def Mk (Has:World->Nat->Nat->(Nat->Prop)->Int->List ay->Prop)(SH:World->Nat->Nat->(Nat->Prop)->aG->Prop)(F0 Cs:Nat->Prop)(w wr W:World)(B x:Nat)(a:Option Addr)(c:Nat)(mb:Option Nat)(P:Pn.aU)(m size now:Int)(y:Po)(b:Nat)(ids:List Kn)(R:Int×List ay×aG)(es:List ay)(s:aG):Prop :=
 fK Has SH F0 (λk=>Cs k\/k=b) w W B x a c mb P m size ⟨es,s,ids⟩/\Fit P m size ⟨es,s,ids⟩/\rV W b y/\aJ Cs wr W/\iL P m size now y es s=R/\(pv P 5=1->(bH P s.l y||bP P s.l y)=false)
section
variable {Has:World->Nat->Nat->(Nat->Prop)->Int->List ay->Prop}{SH:World->Nat->Nat->(Nat->Prop)->aG->Prop}{F0 Cs jw:Nat->Prop}{w wr wo W W':World}{B x:Nat}{a:Option Addr}{c:Nat}{mb:Option Nat}{P:Pn.aU}{m size now:Int}{y:Po}{b:Nat}{ids:List Kn}{R:Int×List ay×aG}{es:List ay}{s:aG}{st:Str}
theorem fK.fewer (U:tu Has SH)(h:fK Has SH F0 Cs w wr B x a c mb P m size st)(hC:∀k,jw k->Cs k):fK Has SH F0 jw w wr B x a c mb P m size st:=h.mine U.H U.S (Below.refl _ _) (λk hk=>.inl (hC k hk))
theorem Mk.below (U:tu Has SH)(h:Mk Has SH F0 Cs w wr W B x a c mb P m size now y b ids R es s)(hb:Below W.heap.size W W'):Mk Has SH F0 Cs w wr W' B x a c mb P m size now y b ids R es s :=
 ⟨h.1.below U.H U.S hb,h.2.1,h.2.2.1.below hb,h.2.2.2.1.trans ((h.1.fewer U (λ_ hk=>.inl hk)).stay hb),h.2.2.2.2⟩
theorem Mk.erase (U:tu Has SH)(V:mP SH)(h:Mk Has SH F0 Cs w wr W B x a c mb P m size now y b ids R es s)(hB:B<=w.heap.size)(hz:¬(pv P 1≠0/\pv P 1<(oM y:Int)))(hc:¬(bH P s.l y||bP P s.l y)=false)(f:ByteArray)(hs:f.size<=140737488355328)(hok:aC true f=0)(hq:nxQ f s.l=uJ P s.l y) :
 ∃D:Int,(D≠0->R=(D,es,s))/\Calls prog 101 #[.pointer (some ⟨x,0,none⟩),.int .i64 now,.string f] W λe w'=>e=.returned (.int .i64 D)/\(D≠0->Mk Has SH F0 Cs w wr w' B x a c mb P m size now y b ids R es s)/\(D=0->∃es' s',Mk Has SH F0 Cs w wr w' B x a c mb P m size now y b ids R es' s'/\s'.l.length<s.l.length/\s'.l.Sublist s.l):=by
 have hp:=nX h.2.1.plan;have hd:pv P 5≠1:=λz=>hc (h.2.2.2.2.2 z)
 have he:=KF U V h.1 h.2.1 hB now f hs hok;rw[show(⟨es,s,ids⟩:Str).s=s from rfl,show(⟨es,s,ids⟩:Str).es=es from rfl,hq] at he;have hfit:=h.2.1.did (bM (uJ P s.l y) now);refine⟨gV es s m size (bM (uJ P s.l y) now),λhD=>by rw[<-h.2.2.2.2.1];exact Ue hc hd hD,he.mono ?_⟩;rintro e w' ⟨rfl,r1,s1⟩;have hst:aJ Cs W w':=s1.fewer (λk hk=>.inl hk);have hpo:rV w' b y:=h.2.2.1.stay s1 (.inr rfl);refine⟨rfl,λhD=>?_,λhD=>?_⟩
 ·have e1:nN es s m size (bM (uJ P s.l y) now)=es:=by unfold nN;rw[if_neg hD]
  have e2:iM es s m size (bM (uJ P s.l y) now)=s:=by unfold iM;rw[if_neg hD]
  unfold qG at r1;simp only[e1,e2] at r1;exact⟨r1,h.2.1,hpo,h.2.2.2.1.trans hst,h.2.2.2.2⟩
 ·exact⟨_,_,⟨r1,hfit,hpo,h.2.2.2.1.trans hst,(Zi hp hz hc hd hD).symm.trans h.2.2.2.2.1,λz=>absurd z hd⟩,qC hD (go_in hp hz hc),agJ hD⟩
theorem Qu (U:tu Has SH)(T:jA SH)(V:mP SH)(h:fK Has SH F0 Cs w wo B x a c mb P m size st)(hf:Fit P m size st)(hB:B<=w.heap.size)(y:Po)(hy:dL y)(hok:aC false y.s=0)(hz:¬(pv P 1≠0/\pv P 1<(oM y:Int)))(hd:pv P 5=1->(bH P st.s.l y||bP P st.s.l y)=false)
 (IF:∀(jw:Nat->Prop) (W:World) (s':Str),fK Has SH F0 jw w W B x a c mb P m size s'->Fit P m size s'->Calls prog 100 #[.pointer (some ⟨x,0,none⟩),yw y] W λe w'=>e=.returned (.bool (bP P s'.s.l y))/\Below W.heap.size W w') :
 Calls prog 57 #[.pointer (some ⟨x,0,none⟩),.int .i64 now,yw y] wo λe w'=>e=.returned (.int .i64 (iL P m size now y st.es st.s).1)/\fK Has SH F0 Cs w w' B x a c mb P m size ⟨(iL P m size now y st.es st.s).2.1,(iL P m size now y st.es st.s).2.2,st.ids⟩/\aJ Cs wo w':=by
 have b0:Below wo.heap.size wo (wo.alloc (jO y)):=(Below.refl _ _).alloc (Nat.le_refl _) _;obtain⟨R,hR⟩:∃R,iL P m size now y st.es st.s=R:=⟨_,rfl⟩;have hM0:Hid (Mk Has SH F0 Cs w wo (wo.alloc (jO y)) B x a c mb P m size now y wo.heap.size st.ids R st.es st.s):=aj ⟨h.mine U.H U.S b0 (λk hk=>by
  rcases hk with z|z
  ·exact .inl z
  ·exact .inr ⟨by omega,by subst z;simp⟩),hf,rV.new wo y,h.stay b0,hR,hd⟩
 rw[hR];have abr:Hid (∀(W:World) (es:List ay) (s:aG),Mk Has SH F0 Cs w wo W B x a c mb P m size now y wo.heap.size st.ids R es s->Calls prog 99 #[.pointer (some ⟨x,0,none⟩),yw y] W λe w'=>e=.returned (.bool (bH P s.l y))/\Below W.heap.size W w'):=aj (λW es s hm=>G9 U T hm.1 hm.2.1 hB y hy hok);have abt:Hid (∀(W:World) (es:List ay) (s:aG),Mk Has SH F0 Cs w wo W B x a c mb P m size now y wo.heap.size st.ids R es s->Calls prog 100 #[.pointer (some ⟨x,0,none⟩),yw y] W λe w'=>e=.returned (.bool (bP P s.l y))/\Below W.heap.size W w'):=aj (λW es s hm=>IF _ W _ hm.1 hm.2.1)
 have akk:=aj (λ(W:World) (es:List ay) (s:aG) (hm:Mk Has SH F0 Cs w wo W B x a c mb P m size now y wo.heap.size st.ids R es s) (hc:bH P s.l y=true)=>hm.erase U V hB hz (by rw[hc];simp) y.s hy.s (kG hok) (by
  unfold uJ;rw[if_pos hc];exact Xc hm.2.1.mX.ok hok))
 have akl:=aj (λ(W:World) (es:List ay) (s:aG) (hm:Mk Has SH F0 Cs w wo W B x a c mb P m size now y wo.heap.size st.ids R es s) (hc:bH P s.l y=false) (hfu:bP P s.l y=true)=>hm.erase U V hB hz (by rw[hfu];simp) ⟨#[62]⟩ (by decide) JV (by
  unfold uJ;rw[if_neg (by rw[hc];simp)];exact aiB hm.2.1.mX.ok))
 have HMb:=aj (λ(W W':World) (es:List ay) (s:aG) (hm:Mk Has SH F0 Cs w wo W B x a c mb P m size now y wo.heap.size st.ids R es s) (hb:Below W.heap.size W W')=>hm.below U hb);have dY:Hid (∀(W:World) (es:List ay) (s:aG),Mk Has SH F0 Cs w wo W B x a c mb P m size now y wo.heap.size st.ids R es s->R.2.1=es->R.2.2=s->fK Has SH F0 Cs w W B x a c mb P m size ⟨R.2.1,R.2.2,st.ids⟩/\aJ Cs wo W):=aj (λW es s hm h1 h2=>by
  rw[h1,h2];exact⟨hm.1.fewer U (λk hk=>.inl hk),hm.2.2.2.1⟩)
 obtain⟨n0,hn0⟩:∃n0,n0=st.s.l.length:=⟨_,rfl⟩;have HN0:=aj hn0;obtain⟨W0,hW0⟩:∃W0,W0=wo.alloc (jO y):=⟨_,rfl⟩;rw[<-hW0] at hM0;clear h hf hB hy hok hz hd IF b0 hR hn0;go_enter func57,ntmps57
 go_wp2_with fail
 rw[<-hW0];clear hW0;go_loopg [] n0 (λk W=>∃(es:List ay) (s:aG),Hid (Mk Has SH F0 Cs w wo W B x a c mb P m size now y wo.heap.size st.ids R es s)/\Hid (k=s.l.length))
 case atStart=>exact⟨_,_,hM0,HN0⟩
 case round =>
  clear hM0 HN0;obtain⟨es,s,HM,HN⟩:=hrel;obtain⟨hlt,y0,y1,y2,y3,y4,y5⟩:=(ah HM).2.2.1;have PS:=aj (ah abr _ _ _ (ah HM));obtain⟨C,hC⟩:∃C,bH P s.l y=C:=⟨_,rfl⟩;rw[hC] at PS;have HC:=aj hC;clear hC;go_wp2_with fail
  refine(ah PS).mono ?_;rintro e w1 ⟨rfl,b1⟩;have HM1:=aj (ah HMb _ _ _ _ (ah HM) b1);clear PS b1 HM y0 y1 y2 y3 y4 y5 hlt
  cases C with
  | true =>
   obtain⟨D,hD1,hD2⟩:=ah akk _ _ _ (ah HM1) (ah HC);have PE:=aj hD2;have HD:=aj hD1;have y0:=(ah HM1).2.2.1.c0;clear hD1 hD2;go_wp2_with fail
   refine(ah PE).mono ?_;rintro e w2 ⟨rfl,k1,k2⟩;have K1:=aj k1;have K2:=aj k2;clear PE k1 k2 HM1 y0;by_cases h0:D=0
   ·obtain⟨es',s',hm',hl',_⟩:=ah K2 h0;have HM2:=aj hm';have HL:=aj hl';subst h0;clear hm' hl' K1 K2 HD;go_wp2_with fail
    go_roundg s'.l.length
    case measure=>have:=ah HL;have:=ah HN;omega
    case rel=>exact⟨_,_,HM2,aj rfl⟩
   ·have e5:(D !=0)=true:=by simpa using h0
    have hr:=ah HD h0;have HE:=aj (ah dY _ _ _ (ah K1 h0) (by rw[hr]) (by rw[hr]));have HR:=aj (show R.1=D from by rw[hr]);clear K1 K2 HD hr;go_wp2_with fail
    go_ret
    rw[ah HR];exact⟨rfl,ah HE⟩
  | false =>
   obtain⟨n1,hn1⟩:∃n1,n1=s.l.length:=⟨_,rfl⟩;have HN1:=aj hn1;clear hn1 HN;go_wp2_with fail
   go_loopg [] n1 (λk W=>∃(es:List ay) (s:aG),Hid (Mk Has SH F0 Cs w wo W B x a c mb P m size now y wo.heap.size st.ids R es s)/\Hid (k=s.l.length)/\Hid (bH P s.l y=false))
   case atStart=>exact⟨_,_,HM1,HN1,HC⟩
   case round =>
    clear HM1 HN1 HC;obtain⟨es,s,HM,HN,HC⟩:=hrel;obtain⟨hlt,y0,y1,y2,y3,y4,y5⟩:=(ah HM).2.2.1;have PS:=aj (ah abt _ _ _ (ah HM));obtain⟨C,hC⟩:∃C,bP P s.l y=C:=⟨_,rfl⟩;rw[hC] at PS;have HF:=aj hC;clear hC;go_wp2_with fail
    refine(ah PS).mono ?_;rintro e w1 ⟨rfl,b1⟩;have HM1:=aj (ah HMb _ _ _ _ (ah HM) b1);clear PS b1 HM y0 y1 y2 y3 y4 y5 hlt
    cases C with
    | true =>
     obtain⟨D,hD1,hD2⟩:=ah akl _ _ _ (ah HM1) (ah HC) (ah HF);have PE:=aj hD2;have HD:=aj hD1;clear hD1 hD2;go_wp2_with fail
     refine(ah PE).mono ?_;rintro e w2 ⟨rfl,k1,k2⟩;have K1:=aj k1;have K2:=aj k2;clear PE k1 k2 HM1;by_cases h0:D=0
     ·obtain⟨es',s',hm',hl',hs'⟩:=ah K2 h0;have HM2:=aj hm';have HL:=aj hl';have HC2:=aj (Xa hs' (ah HC));subst h0;clear hm' hl' hs' K1 K2 HD;go_wp2_with fail
      go_roundg s'.l.length
      case measure=>have:=ah HL;have:=ah HN;omega
      case rel=>exact⟨_,_,HM2,aj rfl,HC2⟩
     ·have e5:(D !=0)=true:=by simpa using h0
      have hr:=ah HD h0;have HE:=aj (ah dY _ _ _ (ah K1 h0) (by rw[hr]) (by rw[hr]));have HR:=aj (show R.1=D from by rw[hr]);clear K1 K2 HD hr;go_wp2_with fail
      go_ret
      rw[ah HR];exact⟨rfl,ah HE⟩
    | false =>
     have hr:R=(0,es,s):=(ah HM1).2.2.2.2.1.symm.trans (Zh (by rw[ah HC,ah HF];rfl));have HE:=aj (ah dY _ _ _ (ah HM1) (by rw[hr]) (by rw[hr]));have HR:=aj (show R.1=0 from by rw[hr]);clear hr HM1;go_wp2_with fail
     go_ret
     rw[ah HR];exact⟨rfl,ah HE⟩
end
def rP (m size now:Int)(y:Po)(q:Int)(st:Str):Int:=if y.ro=0 then 0 else gV st.es st.s m size (dS q now (iq y))
def wV (m size now:Int)(y:Po)(q:Int)(st:Str):Str:=if y.ro=0 then st else qG m size st (dS q now (iq y))
abbrev At6 (g:Nat)(r:Rc)(w:World):Prop:=w.cell? ⟨g,0,none⟩=some (.int .i64 r.k)/\w.cell? ⟨g,1,none⟩=some (.int .i64 r.q)/\w.cell? ⟨g,2,none⟩=some (.int .i64 r.t)/\w.cell? ⟨g,3,none⟩=some (.string r.s)/\w.cell? ⟨g,4,none⟩=some (.string r.h)/\w.cell? ⟨g,5,none⟩=some (.string r.d)
section
variable {Has:World->Nat->Nat->(Nat->Prop)->Int->List ay->Prop}{SH:World->Nat->Nat->(Nat->Prop)->aG->Prop}{F0 Cs:Nat->Prop}{w wr w':World}{B x:Nat}{a:Option Addr}{c:Nat}{mb:Option Nat}{P:Pn.aU}{m size:Int}{st:Str}
theorem aep (U:tu Has SH)(h:fK Has SH F0 Cs w wr B x a c mb P m size st)(hf:Fit P m size st)(hB:B<=w.heap.size)(now q:Int)(y:Po)(hy:dL y)(hr:0<=y.ro/\y.ro<=2) :
 Calls prog 104 #[.pointer (some ⟨x,0,none⟩),.int .i64 now,.int .i64 q,yw y] wr λe w'=>e=.returned (.int .i64 (rP m size now y q st))/\fK Has SH F0 Cs w w' B x a c mb P m size (wV m size now y q st)/\aJ Cs wr w':=by
 have b0:Below wr.heap.size wr (wr.alloc (jO y)):=(Below.refl _ _).alloc (Nat.le_refl _) _;have r0:=h.below U.H U.S b0;have s0:=h.stay b0;have hx:=h.lt;obtain⟨_,y0,y1,y2,y3,y4,y5⟩:=rV.new wr y;by_cases h1:y.ro=1
 ·have e1:(y.ro==1)=true:=by rw[beq_iff_eq];exact h1
  have e2:decide (y.ro=1)=true:=decide_eq_true h1;have hF:iq y=y.s:=by unfold iq;rw[if_pos h1]
  have HR:=aj (show rP m size now y q st=gV st.es st.s m size (dS q now y.s)/\wV m size now y q st=qG m size st (dS q now y.s) from by
   unfold rP wV;rw[hF,if_neg (by omega),if_neg (by omega)];exact⟨rfl,rfl⟩)
  have PP:=aj (zn U r0 hf hB now q y.s hy.s);have S0:=aj s0;generalize gV st.es st.s m size (dS q now y.s)=D at *;generalize qG m size st (dS q now y.s)=st' at *;clear h hf r0 s0 h1 hr hF b0 hy;go_enter func104,ntmps104
  go_wp2_with fail
  refine(ah PP).mono ?_;rintro e w1 ⟨rfl,r1,s1⟩;have B1:=aj (And.intro r1 ((ah S0).trans s1));clear PP r1 s1;go_wp2_with fail
  go_ret
  rw[(ah HR).1,(ah HR).2];exact⟨rfl,ah B1⟩
 ·have e1:(y.ro==1)=false:=by rw[beq_eq_false_iff_ne];exact h1
  have e2:decide (y.ro=1)=false:=decide_eq_false h1;by_cases h2:y.ro=2
  ·have e3:(y.ro==2)=true:=by rw[beq_iff_eq];exact h2
   have e4:decide (y.ro=2)=true:=decide_eq_true h2;have hF:iq y=⟨#[62]⟩:=by unfold iq;rw[if_neg h1]
   have HR:=aj (show rP m size now y q st=gV st.es st.s m size (dS q now ⟨#[62]⟩)/\wV m size now y q st=qG m size st (dS q now ⟨#[62]⟩) from by
    unfold rP wV;rw[hF,if_neg (by omega),if_neg (by omega)];exact⟨rfl,rfl⟩)
   have PP:=aj (zn U r0 hf hB now q ⟨#[62]⟩ (by decide));have S0:=aj s0;generalize gV st.es st.s m size (dS q now ⟨#[62]⟩)=D at *;generalize qG m size st (dS q now ⟨#[62]⟩)=st' at *;clear h hf r0 s0 h1 h2 hr hF b0 hy;go_enter func104,ntmps104
   go_wp2_with fail
   refine(ah PP).mono ?_;rintro e w1 ⟨rfl,r1,s1⟩;have B1:=aj (And.intro r1 ((ah S0).trans s1));clear PP r1 s1;go_wp2_with fail
   go_ret
   rw[(ah HR).1,(ah HR).2];exact⟨rfl,ah B1⟩
  ·have e3:(y.ro==2)=false:=by rw[beq_eq_false_iff_ne];exact h2
   have e4:decide (y.ro=2)=false:=decide_eq_false h2;have h3:y.ro=0:=by omega
   have HR:=aj (show rP m size now y q st=0/\wV m size now y q st=st from by
    unfold rP wV;rw[if_pos h3,if_pos h3];exact⟨rfl,rfl⟩)
   have B1:=aj (And.intro r0 s0);clear h hf r0 s0 h1 h2 h3 hr b0 hy;go_enter func104,ntmps104
   go_wp2_with fail
   go_ret
   rw[(ah HR).1,(ah HR).2];exact⟨rfl,ah B1⟩
theorem Fit.more {qR:List Kn}(h:Fit P m size st)(hq:∀k∈qR,1<=k.q):Fit P m size ⟨st.es,st.s,qR⟩:=⟨h.plan,h.mX,h.room,h.size,hq⟩
theorem fK.few (h:fK Has SH F0 Cs w wr B x a c mb P m size st):(st.ids.length:Int)<=st.s.last:=by
 obtain⟨FV,h1,_⟩:=h;exact h1.few
end
section
variable {Has:World->Nat->Nat->(Nat->Prop)->Int->List ay->Prop}{SH:World->Nat->Nat->(Nat->Prop)->aG->Prop}{F0 Cs:Nat->Prop}{w wr w':World}{B x:Nat}{a:Option Addr}{c:Nat}{mb:Option Nat}{P:Pn.aU}{m size:Int}{st:Str}
theorem At6.stay {g:Nat}{r:Rc}{W W':World}{D:Nat->Prop}(h:At6 g r W)(s:aJ D W W')(hg:D g):At6 g r W':=⟨(s.cell hg).trans h.1,(s.cell hg).trans h.2.1,(s.cell hg).trans h.2.2.1,(s.cell hg).trans h.2.2.2.1,(s.cell hg).trans h.2.2.2.2.1,(s.cell hg).trans h.2.2.2.2.2⟩
theorem Zu {r:Rc}(h:gV st.es st.s m size r≠0):qG m size st r=st:=by
 unfold qG nN iM;rw[if_neg h,if_neg h]
theorem Bo {now:Int}{y:Po}(h:gV st.es st.s m size (bQ (st.s.last+1) now y)≠0):jU m size now y st.ids st.es st.s=((0,false,gV st.es st.s m size (bQ (st.s.last+1) now y)),st):=by
 unfold jU;rw[if_pos h]
theorem KJ {now:Int}{y:Po}{st1:Str}(h:gV st.es st.s m size (bQ (st.s.last+1) now y)=0)(h1:st1=⟨(qG m size st (bQ (st.s.last+1) now y)).es,(qG m size st (bQ (st.s.last+1) now y)).s,pI st.ids y.i now (st.s.last+1)⟩) :
 jU m size now y st.ids st.es st.s=((if rP m size now y (st.s.last+1) st1=0 then st.s.last+1 else 0,false,rP m size now y (st.s.last+1) st1),wV m size now y (st.s.last+1) st1):=by
 subst h1;unfold jU rP wV;rw[if_neg (by rw[h];simp)];by_cases c1:y.ro=0
 ·rw[if_pos c1,if_pos c1,if_pos c1];rfl
 ·rw[if_neg c1,if_neg c1,if_neg c1];unfold qG pI JO;simp only;by_cases c2:gV (nN st.es st.s m size (bQ (st.s.last+1) now y)) (iM st.es st.s m size (bQ (st.s.last+1) now y)) m size (dS (st.s.last+1) now (iq y))=0
  ·rw[if_neg (by rw[c2];simp),if_pos c2,c2]
  ·rw[if_pos c2,if_neg c2];have e1:nN (nN st.es st.s m size (bQ (st.s.last+1) now y)) (iM st.es st.s m size (bQ (st.s.last+1) now y)) m size (dS (st.s.last+1) now (iq y))=nN st.es st.s m size (bQ (st.s.last+1) now y):=by
    rw[nN,if_neg c2]
   have e2:iM (nN st.es st.s m size (bQ (st.s.last+1) now y)) (iM st.es st.s m size (bQ (st.s.last+1) now y)) m size (dS (st.s.last+1) now (iq y))=iM st.es st.s m size (bQ (st.s.last+1) now y):=by
    rw[iM,if_neg c2]
   rw[e1,e2]
theorem add_any (U:tu Has SH)(h:fK Has SH F0 Cs w wr B x a c mb P m size st)(hf:Fit P m size st)(hB:B<=w.heap.size)(now:Int)(y:Po)(hy:dL y)(hr:0<=y.ro/\y.ro<=2)(hno:y.i.size≠0->pv P 7≠0->¬0<iJ st.ids y.i (now-pv P 7)) :
 Calls prog 58 #[.pointer (some ⟨x,0,none⟩),.int .i64 now,yw y] wr λe w'=>e=.returned (.tuple #[.int .i64 (jU m size now y st.ids st.es st.s).1.1,.int .i64 (jU m size now y st.ids st.es st.s).1.2.2])/\(∃mb',fK Has SH F0 Cs w w' B x a c mb' P m size (jU m size now y st.ids st.es st.s).2)/\aJ Cs wr w':=by
 have b0:Below wr.heap.size wr (wr.alloc (jO y)):=(Below.refl _ _).alloc (Nat.le_refl _) _;have hk:=hf.mX.ok;have hlast:=hk.last;have r0:=h.mine U.H U.S (jw:=λk=>Cs k\/k=wr.heap.size) b0 (λk hk=>by
  rcases hk with z|z
  ·exact .inl z
  ·exact .inr ⟨by omega,by subst z;simp⟩)
 have p0:=rV.new wr y;have s0:=h.stay b0;have P1:=aj (fM r0);have P2:=aj (λ(W:World) (q:Nat) (G:Nat->Prop) (hS:SH W B q G st.s) (hW:B<=W.heap.size)=>U.S.sees.sums hS hk hW);have hBr:=Nat.le_trans hB r0.room;have R0:=aj r0;have HP:=aj (λ(W:World) (hW:Below (wr.alloc (jO y)).heap.size (wr.alloc (jO y)) W)=>p0.below hW);have S0:=aj s0;have hsl:∀x0 x1 x2 x3:Value,∀W:World,(Instr.field 60 (.agg #[x0,x1,x2,x3]) 3).run prog W=.ok x3 W:=λ_ _ _ _ _=>by kernel_rfl
 have hms:Small (bQ (st.s.last+1) now y):=⟨hy.s,hy.h,hy.d⟩;have HF:=aj hf;have akm:=aj h.few;have HY:=aj hy;have HRo:=aj hr;have HNo:=aj hno;obtain⟨r,hrr⟩:∃r,bQ (st.s.last+1) now y=r:=⟨_,rfl⟩;have HRR:=aj hrr;obtain⟨l0,l1⟩:=hlast;obtain⟨last,hla⟩:∃last,st.s.last=last:=⟨_,rfl⟩;have HLa:=aj hla;rw[hla] at P2 l0 l1;rw[hrr] at hms;generalize (st.s.l.length:Int)=n1 at P2;generalize (aP st.s.l:Int)=n2 at P2;generalize cZ st.s.l=n3 at P2;clear h hf hk r0 p0 b0 s0 hy hr hno hrr hla;go_enter func58,ntmps58
 go_wp2_with fail
 refine(ah P1).mono ?_;rintro e w1 ⟨q,G,rfl,h1,b1⟩;have P3:=aj (ah P2 w1 q G h1 (Nat.le_trans hBr b1.size));have B1:=aj b1;clear P1 P2 h1 b1;go_wp2_with fail
 refine(ah P3).mono ?_;rintro e w2 ⟨rfl,b2⟩;have B2:=aj (ak (ah B1) b2);obtain⟨hpl,z0,z1,z2,z3,z4,z5⟩:=ah HP w2 (ah B2);clear P3 b2 B1;have er:r=⟨1,last+1,now,y.s,y.h,y.d⟩:=by rw[<-ah HRR,ah HLa];rfl
 have bA:Below w2.heap.size w2 (w2.alloc (.cells #[.int .i64 1,.int .i64 (last+1),.int .i64 now,.string y.s,.string y.h,.string y.d] 73)):=(Below.refl _ _).alloc (Nat.le_refl _) _;have bA2:Below w2.heap.size w2 (w2.alloc (.cells #[.int .i64 1,.int .i64 (last+1),.int .i64 now,.string y.s,.string y.h,.string y.d] 73)).drew:=bA.drew;have R3:=aj ((((ah R0).below U.H U.S (ah B2)).mine U.H U.S (jw:=λk=>(Cs k\/k=wr.heap.size)\/k=w2.heap.size) bA2 (λk hk=>by
  rcases hk with z|z
  ·exact .inl z
  ·exact .inr ⟨by omega,by subst z;simp⟩)))
 have S3:=aj (((ah S0).trans ⟨(ah B2).size,λk hk=>((ah R0).stay (ah B2)).2 k (.inl hk)⟩).trans ⟨bA2.size,λk hk=>(((ah R0).below U.H U.S (ah B2)).stay bA2).2 k (.inl hk)⟩);have k3:At6 w2.heap.size r (w2.alloc (.cells #[.int .i64 1,.int .i64 (last+1),.int .i64 now,.string y.s,.string y.h,.string y.d] 73)).drew:=by
  rw[er];exact⟨by simp,by simp,by simp,by simp,by simp,by simp⟩
 have PO3:=aj ((ah HP w2 (ah B2)).below bA2);have PD:=aj ((ah R3).vdo U (ah HF) hB r hms);have HK3:=aj k3;clear er bA bA2 z4 z5 z1;go_wp2_with fail
 go_region_held3 (At6 w2.heap.size r) (first|assumption|go_keep)
  (first
   | (go_at_call 102;refine(ah PD).mono ?_;rintro e w4 ⟨rfl,r4,s4⟩;have k4:=At6.stay (ah HK3) s4 (.inr rfl);have R4:=aj r4;have S4:=aj s4;clear r4 s4))
 have PO4:=aj ((ah PO3).stay (ah S4) (.inl (.inr rfl)));have SS4:=aj ((ah S3).trans ((ah S4).fewer (λk hk=>.inl (.inl hk))));clear k3 k4 HK3 PD R3 S3 S4 PO3 hpl z0 z2 z3;obtain⟨E,hE⟩:∃E,gV st.es st.s m size r=E:=⟨_,rfl⟩;rw[hE];have HE:=aj hE;clear hE;by_cases h0:E=0
 ·have hz:=(ah HE).trans h0;have hzm:gV st.es st.s m size (bQ (st.s.last+1) now y)=0:=by rw[ah HRR];exact hz
  have hl1:(qG m size st r).s.last=last+1:=by
   show(iM st.es st.s m size r).last=last+1;rw[<-ah HRR,uK hzm,ah HLa]
  have F4:=aj ((ah HF).did r);have PK:=aj (ael U (ah R4) (ah F4) hB y.i (ah HY).i (last+1) now (λu v=>by have t:=ah HNo u v;show ¬0<iJ st.ids y.i (now-pv P 7);omega) (by rw[hl1,<-ah HLa];have:=ah akm;show(st.ids.length:Int)+1<=_;omega));have y1:=(ah PO4).c1;obtain⟨st2,hst2⟩:∃st2,st2=(⟨(qG m size st r).es,(qG m size st r).s,pI (qG m size st r).ids y.i now (last+1)⟩:Str):=⟨_,rfl⟩;rw[<-hst2] at PK;have F5:=aj (show Fit P m size st2 from by
   rw[hst2];refine(ah F4).more (λk hk=>?_);have hk':k∈JO st.ids y now (last+1):=hk;exact AX (ah HF).yx (by omega) k hk')
  have Bv:=aj (KJ (now:=now) (y:=y) (st1:=st2) hzm (by rw[hst2,ah HRR,ah HLa];rfl));rw[ah HLa] at Bv;subst h0;clear hz hzm hl1 hst2 F4 HE;go_wp2_with fail
  refine(ah PK).mono ?_;rintro e w5 ⟨rfl,⟨mb5,r5⟩,s5⟩;have PO5:=aj ((ah PO4).stay s5 (.inl (.inr rfl)));have SS5:=aj ((ah SS4).trans (s5.fewer (λk hk=>.inl (.inl hk))));have PR:=aj (aep U r5 (ah F5) hB now (last+1) y (ah HY) (ah HRo));obtain⟨_,v0,v1,v2,v3,v4,v5⟩:=ah PO5;obtain⟨D,hD⟩:∃D,rP m size now y (last+1) st2=D:=⟨_,rfl⟩;rw[hD] at PR Bv;clear PK R4 PO4 SS4 y1 r5 s5 hD;go_wp2_with fail
  refine(ah PR).mono ?_;rintro e w6 ⟨rfl,r6,s6⟩;have E6:=aj (show(∃mb',fK Has SH F0 Cs w w6 B x a c mb' P m size (jU m size now y st.ids st.es st.s).2)/\aJ Cs wr w6 from⟨⟨mb5,by rw[ah Bv];exact r6.fewer U (λk hk=>.inl (.inl hk))⟩,(ah SS5).trans (s6.fewer (λk hk=>.inl (.inl hk)))⟩);clear PR r6 s6 SS5 PO5 v0 v1 v2 v3 v4 v5;by_cases hD0:D=0
  ·have HQ:=aj (show(jU m size now y st.ids st.es st.s).1.1=last+1/\(jU m size now y st.ids st.es st.s).1.2.2=0 from by rw[ah Bv,if_pos hD0];exact⟨rfl,hD0⟩);subst hD0;clear Bv;go_wp2_with fail
   go_ret2
   rw[(ah HQ).1,(ah HQ).2];exact⟨rfl,ah E6⟩
  ·have HQ:=aj (show(jU m size now y st.ids st.es st.s).1.1=0/\(jU m size now y st.ids st.es st.s).1.2.2=D from by rw[ah Bv,if_neg hD0];exact⟨rfl,rfl⟩);have e5:(D !=0)=true:=by simpa using hD0
   clear Bv;go_wp2_with fail
   go_ret2
   rw[(ah HQ).1,(ah HQ).2];exact⟨rfl,ah E6⟩
 ·have hb:=Zu (by rw[ah HE];exact h0:gV st.es st.s m size r≠0);have hp:=Bo (now:=now) (y:=y) (by rw[ah HRR,ah HE];exact h0:gV st.es st.s m size (bQ (st.s.last+1) now y)≠0);rw[ah HRR,ah HE] at hp;have E6:=aj (show(∃mb',fK Has SH F0 Cs w w4 B x a c mb' P m size (jU m size now y st.ids st.es st.s).2)/\aJ Cs wr w4 from⟨⟨mb,by rw[hp,<-hb];exact(ah R4).fewer U (λk hk=>.inl (.inl hk))⟩,ah SS4⟩);have HQ:=aj (show(jU m size now y st.ids st.es st.s).1.1=0/\(jU m size now y st.ids st.es st.s).1.2.2=E from by rw[hp];exact⟨rfl,rfl⟩);have e5:(E !=0)=true:=by simpa using h0
  clear hb hp HE R4 SS4 PO4;go_wp2_with fail
  go_ret2
  rw[(ah HQ).1,(ah HQ).2];exact⟨rfl,ah E6⟩
end
section
variable {Has:World->Nat->Nat->(Nat->Prop)->Int->List ay->Prop}{SH:World->Nat->Nat->(Nat->Prop)->aG->Prop}{F0 Cs:Nat->Prop}{w wr w':World}{B x:Nat}{a:Option Addr}{c:Nat}{mb:Option Nat}{P:Pn.aU}{m size:Int}{st:Str}
theorem Bz {now:Int}{y:Po}(h:jy P now y≠0):aI P m size now y st=((0,false,jy P now y),st):=by unfold aI;rw[if_pos h]
theorem Oj {now:Int}{y:Po}(h:jy P now y=0)(h1:fH P now y st.ids=true):aI P m size now y st=((iJ st.ids y.i (now-pv P 7),true,0),st):=by unfold aI;rw[if_neg (by rw[h];simp),if_pos h1]
theorem agU {now:Int}{y:Po}(h:jy P now y=0)(h1:fH P now y st.ids=false)(h2:Qs P st.s y≠0):aI P m size now y st=((0,false,Qs P st.s y),st):=by
 unfold aI;rw[if_neg (by rw[h];simp),if_neg (by rw[h1];simp)];unfold Qs wU at h2 ⊢;by_cases c1:y.x≠-1/\y.x≠st.s.last
 ·rw[if_pos c1,if_pos c1]
 ·rw[if_neg c1] at h2 ⊢;rw[if_neg c1];have hr:aZ P m size now y st.es st.s=(8,st.es,st.s):=by
   unfold aZ;by_cases c2:pv P 1≠0/\pv P 1<(oM y:Int)
   ·rw[if_pos c2]
   ·rw[if_neg c2] at h2 ⊢;by_cases c3:pv P 5=1/\(bH P st.s.l y||bP P st.s.l y)=true
    ·exact J8 (by rw[c3.2];simp) c3.1
    ·rw[if_neg c3] at h2;exact absurd rfl h2
  have h8:(if pv P 1≠0/\pv P 1<(oM y:Int) then (8:Int) else if pv P 5=1/\(bH P st.s.l y||bP P st.s.l y)=true then 8 else 0)=8:=by
   by_cases c2:pv P 1≠0/\pv P 1<(oM y:Int)
   ·rw[if_pos c2]
   ·rw[if_neg c2] at h2 ⊢;by_cases c3:pv P 5=1/\(bH P st.s.l y||bP P st.s.l y)=true
    ·rw[if_pos c3]
    ·rw[if_neg c3] at h2;exact absurd rfl h2
  rw[hr,h8];rfl
theorem aer {y:Po}(h:Qs P st.s y=0):¬(y.x≠-1/\y.x≠st.s.last)/\¬(pv P 1≠0/\pv P 1<(oM y:Int))/\(pv P 5=1->(bH P st.s.l y||bP P st.s.l y)=false):=by
 unfold Qs wU at h;by_cases c1:y.x≠-1/\y.x≠st.s.last
 ·rw[if_pos c1] at h;exact absurd h (by decide)
 ·rw[if_neg c1] at h;by_cases c2:pv P 1≠0/\pv P 1<(oM y:Int)
  ·rw[if_pos c2] at h;exact absurd h (by decide)
  ·rw[if_neg c2] at h;refine⟨c1,c2,λz=>?_⟩
   cases hc:(bH P st.s.l y||bP P st.s.l y) with
   | false=>rfl
   | true=>rw[if_pos ⟨z,hc⟩] at h;exact absurd h (by decide)
theorem aiF {now:Int}{y:Po}(h:jy P now y=0)(h1:fH P now y st.ids=false)(h2:Qs P st.s y=0):aI P m size now y st=if (iL P m size now y st.es st.s).1≠0 then ((0,false,(iL P m size now y st.es st.s).1),⟨(iL P m size now y st.es st.s).2.1,(iL P m size now y st.es st.s).2.2,st.ids⟩) else jU m size now y st.ids (iL P m size now y st.es st.s).2.1 (iL P m size now y st.es st.s).2.2:=by
 obtain⟨c1,c2,_⟩:=aer h2;have hr:aZ P m size now y st.es st.s=iL P m size now y st.es st.s:=by unfold aZ iL;rw[if_neg c2]
 unfold aI;rw[if_neg (by rw[h];simp),if_neg (by rw[h1];simp),if_neg c1,hr]
theorem aiG {now:Int}{y:Po}(h:jy P now y=0):(0<=now/\now<=1099511627776)/\(0<=y.ro/\y.ro<=2)/\aC false y.s=0:=by
 by_cases hg:aY now 0 1099511627776=true/\-1<=y.x/\0<=y.ro/\y.ro<=2
 ·refine⟨by simpa[aY] using hg.1,⟨hg.2.2.1,hg.2.2.2⟩,?_⟩;rw[tC hg] at h;by_cases c1:aC false y.s=0
  ·exact c1
  ·rw[if_pos c1] at h;exact absurd h c1
 ·rw[IV hg] at h;exact absurd h (by decide)
theorem fK.sees (h:fK Has SH F0 Cs w wr B x a c mb P m size st):PBx wr x P a c/\jW wr a P.f/\iE P:=by
 obtain⟨FV,h1,_⟩:=h;exact⟨h1.plan,h1.row,h1.small⟩
theorem Fit.room' {now:Int}{y:Po}(h:Fit P m size st):Fit P m size ⟨(iL P m size now y st.es st.s).2.1,(iL P m size now y st.es st.s).2.2,st.ids⟩:=⟨h.plan,lC.room _ h.mX,h.room,h.size,h.yx⟩
theorem UH (U:tu Has SH)(T:jA SH)(V:mP SH)(h:fK Has SH F0 Cs w wr B x a c mb P m size st)(hf:Fit P m size st)(hB:B<=w.heap.size)(now:Int)(y:Po)(hy:dL y) :
 Calls prog 19 #[.pointer (some ⟨x,0,none⟩),.int .i64 now,yw y] wr λe w'=>e=.returned (.tuple #[.int .i64 (aI P m size now y st).1.1,.bool (aI P m size now y st).1.2.1,.int .i64 (aI P m size now y st).1.2.2])/\(∃mb',fK Has SH F0 Cs w w' B x a c mb' P m size (aI P m size now y st).2)/\aJ Cs wr w':=by
 have b0:Below wr.heap.size wr (wr.alloc (jO y)):=(Below.refl _ _).alloc (Nat.le_refl _) _;have r0:=h.mine U.H U.S (jw:=λk=>Cs k\/k=wr.heap.size) b0 (λk hk=>by
  rcases hk with z|z
  ·exact .inl z
  ·exact .inr ⟨by omega,by subst z;simp⟩)
 have p0:=rV.new wr y;have s0:=h.stay b0;have hse:=r0.sees;have P1:=aj (LW hf.plan hse.2.2 hse.1 hse.2.1 now y hy);have HW:=aj (λ(W:World) (hW:Below (wr.alloc (jO y)).heap.size (wr.alloc (jO y)) W)=>show fK Has SH F0 (λk=>Cs k\/k=wr.heap.size) w W B x a c mb P m size st/\rV W wr.heap.size y/\aJ Cs wr W from⟨r0.below U.H U.S hW,p0.below hW,s0.trans ⟨hW.size,λk hk=>(r0.stay hW).2 k (.inl hk)⟩⟩);have dY:=aj (λ(W:World) (hW:Below (wr.alloc (jO y)).heap.size (wr.alloc (jO y)) W)=>show(∃mb',fK Has SH F0 Cs w W B x a c mb' P m size st)/\aJ Cs wr W from⟨⟨mb,(r0.below U.H U.S hW).fewer U (λk hk=>.inl hk)⟩,s0.trans ⟨hW.size,λk hk=>(r0.stay hW).2 k (.inl hk)⟩⟩)
 have hx0:=r0.lt;obtain⟨_,y0,y1,y2,y3,y4,y5⟩:=p0;obtain⟨E,hE⟩:∃E,jy P now y=E:=⟨_,rfl⟩;rw[hE] at P1;have HE:=aj hE;have HF:=aj hf;have HY:=aj hy;clear h hf hy r0 b0 s0 hse hE;go_enter func19,ntmps19
 go_wp2_with fail
 refine(ah P1).mono ?_;rintro e w1 ⟨rfl,b1⟩;have B1:=aj b1;clear P1 b1 y0 y1 y2 y3 y4 y5;by_cases h0:E=0
 ·have hpre:=(ah HE).trans h0;obtain⟨hn,hro,hok⟩:=aiG hpre;have uT:=aj hpre;have HRo:=aj hro;have HOk:=aj hok;have q1:=ah HW w1 (ah B1);have P2:=aj (UG q1.1 (ah HF) now hn y.i (ah HY).i);obtain⟨ha,hb⟩:=aej (now:=now) (y:=y) q1.1.map.2 (ah HF).yx;rw[<-ha] at P2;have HA:=aj hb;have z1:=q1.2.1.c1;subst h0;clear hpre hn hro hok q1 HE ha hb;obtain⟨K,hK⟩:∃K,knQ (mV (jV P st.ids) y.i) (now-pv P 7)=K:=⟨_,rfl⟩;rw[hK] at P2 HA;obtain⟨A,hA⟩:∃A,fH P now y st.ids=A:=⟨_,rfl⟩;rw[hA] at P2 HA;have HAA:=aj hA;clear hK hA;go_wp2_with fail
  refine(ah P2).mono ?_;rintro e w2 ⟨rfl,b2⟩;have B2:=aj (ak (ah B1) b2);clear P2 b2 z1
  cases A with
  | true =>
   have HQ:=aj (Oj (m:=m) (size:=size) (ah uT) (ah HAA));have HS:=aj (ah HA rfl);have HZ:=aj (ah dY w2 (ah B2));clear HA dY HW;go_wp2_with fail
   go_ret3
   rw[ah HQ];exact⟨by rw[ah HS];rfl,ah HZ⟩
  | false =>
   have q2:=ah HW w2 (ah B2);have P3:=aj (KH U T q2.1 (ah HF) hB y (ah HY) (ah HOk) (λW hW=>KI U hW (ah HF) hB y (ah HY)));obtain⟨_,y0,y1,y2,y3,y4,y5⟩:=q2.2.1;obtain⟨E2,hE2⟩:∃E,Qs P st.s y=E:=⟨_,rfl⟩;rw[hE2] at P3;have HE2:=aj hE2;clear q2 hE2 HA;go_wp2_with fail
   refine(ah P3).mono ?_;rintro e w3 ⟨rfl,b3⟩;have B3:=aj (ak (ah B2) b3);clear P3 b3 y0 y1 y2 y3 y4 y5;by_cases h2:E2=0
   ·have hc:=(ah HE2).trans h2;obtain⟨_,hc2,hc3⟩:=aer hc;have HG:=aj (aiF (m:=m) (size:=size) (ah uT) (ah HAA) hc);have q3:=ah HW w3 (ah B3);have P4:=aj (Qu (now:=now) U T V q3.1 (ah HF) hB y (ah HY) (ah HOk) hc2 hc3 (λjw W s' hW hf'=>KI U hW hf' hB y (ah HY)));have F4:=aj ((ah HF).room' (now:=now) (y:=y));obtain⟨es4,he4⟩:∃z,(iL P m size now y st.es st.s).2.1=z:=⟨_,rfl⟩;obtain⟨s4,hs4⟩:∃z,(iL P m size now y st.es st.s).2.2=z:=⟨_,rfl⟩;obtain⟨D,hD⟩:∃z,(iL P m size now y st.es st.s).1=z:=⟨_,rfl⟩;rw[he4,hs4,hD] at P4 HG
    rw[he4,hs4] at F4;have S3:=aj q3.2.2;have PO3:=aj q3.2.1;obtain⟨_,y0,y1,y2,y3,y4,y5⟩:=q3.2.1;subst h2;clear hc hc2 hc3 q3 he4 hs4 hD HE2 dY HW;go_wp2_with fail
    refine(ah P4).mono ?_;rintro e w4 ⟨rfl,r4,t4⟩;have R4:=aj r4;have S4:=aj ((ah S3).trans (t4.fewer (λk hk=>.inl hk)));have PO4:=aj ((ah PO3).stay t4 (.inr rfl));clear P4 r4 t4 y0 y1 y2 y3 y4 y5;by_cases h4:D=0
    ·have HG2:=ah HG;rw[if_neg (by rw[h4];simp)] at HG2;have HG3:=aj HG2;have P5:=aj (add_any U (ah R4) (ah F4) hB now y (ah HY) (ah HRo) (λu v z=>by
      have hz:=ah HAA;unfold fH at hz;have z':0<iJ st.ids y.i (now-pv P 7):=z;rw[decide_eq_true u,decide_eq_true v,decide_eq_true z'] at hz
      cases hz))
     obtain⟨_,y0,y1,y2,y3,y4,y5⟩:=ah PO4;rw[<-HG2] at P5;subst h4;clear HG2 HG R4;go_wp2_with fail
     refine(ah P5).mono ?_;rintro e w5 ⟨rfl,⟨mb5,r5⟩,t5⟩;have HZ:=aj (show(∃mb',fK Has SH F0 Cs w w5 B x a c mb' P m size (aI P m size now y st).2)/\aJ Cs wr w5 from⟨⟨mb5,r5.fewer U (λk hk=>.inl hk)⟩,(ah S4).trans (t5.fewer (λk hk=>.inl hk))⟩);have HB:=aj (show(aI P m size now y st).1.2.1=false from by
      rw[ah HG3];unfold jU;split
      ·rfl
      ·split
       ·rfl
       ·split
        ·rfl
        ·rfl)
     clear P5 r5 t5 HG3;go_wp2_with fail
     go_ret3
     rw[ah HB];exact⟨rfl,ah HZ⟩
    ·have HG2:=ah HG;rw[if_pos h4] at HG2;have HG3:=aj HG2;have e5:(D !=0)=true:=by simpa using h4
     have HZ:=aj (show(∃mb',fK Has SH F0 Cs w w4 B x a c mb' P m size ⟨es4,s4,st.ids⟩)/\aJ Cs wr w4 from⟨⟨mb,(ah R4).fewer U (λk hk=>.inl hk)⟩,ah S4⟩);clear HG2 HG R4;go_wp2_with fail
     go_ret3
     rw[ah HG3];exact⟨rfl,ah HZ⟩
   ·have HQ:=aj (agU (m:=m) (size:=size) (ah uT) (ah HAA) (by rw[ah HE2];exact h2));rw[ah HE2] at HQ;have e5:(E2 !=0)=true:=by simpa using h2
    have HZ:=aj (ah dY w3 (ah B3));clear dY HW HE2;go_wp2_with fail
    go_ret3
    rw[ah HQ];exact⟨rfl,ah HZ⟩
 ·have HQ:=aj (Bz (m:=m) (size:=size) (st:=st) (by rw[ah HE];exact h0:jy P now y≠0));rw[ah HE] at HQ;have e5:(E !=0)=true:=by simpa using h0
  have HZ:=aj (ah dY w1 (ah B1));clear HE dY HW;go_wp2_with fail
  go_ret3
  rw[ah HQ];exact⟨rfl,ah HZ⟩
end
end Go.Proofs.YtidekgipblnpkaaGreatDoor.Dk
