/- A part. -/
import Derived.Test.YtidekgipblnpkaaGreatDoorQ43
import Derived.Test.YtidekgipblnpkaaGreatDoorQ47
import Derived.Deep.DeepCutAuto
set_option maxRecDepth 100000
set_option maxHeartbeats 8000000
namespace Go.Proofs.YtidekgipblnpkaaGreatDoor
open Go.RowKit Go.Proofs.Tryz
namespace Dk
theorem agN {a b:ByteArray}(h:a=b):(a.toList==b.toList)=true/\(a.data.toList==b.data.toList)=true:=by
 subst h;exact⟨beq_self_eq_true _,beq_self_eq_true _⟩
theorem agO {a b:ByteArray}(h:¬a=b):(a.toList==b.toList)=false/\(a.data.toList==b.data.toList)=false:=by
 have h2:¬a.data.toList=b.data.toList:=λe=>h (akQ (amx.1 e))
 refine⟨?_,ajr.2 h2⟩;rw[ajr,akd,akd];exact h2
def Mr (F0 Cs:Nat->Prop)(w wo W:World)(B y x d:Nat)(a:Option Addr)(c:Nat)(P:Pn.cu)(m size now:Int)(z:Po)(b:Nat)(ids:List Kn)(R:Int×List ay×aJ)(es:List ay)(s:aJ):Prop :=
 Rr F0 (λi=>Cs i\/i=b) w W B y x d a c P m size ⟨es,s,ids⟩/\Fit P m size ⟨es,s,ids⟩/\qP W b z/\aO Cs wo W/\gW P m size now z es s=R
structure Rds (W:World)(y x ch b g:Nat)(ar:Option Addr)(cap:Nat)(l:List Rc)(ys:ByteArray):Prop where
 yl:y<W.heap.size
 xl:x<W.heap.size
 cl:ch<W.heap.size
 bl:b<W.heap.size
 Gu:W.cell? ⟨y,10,none⟩=some (.pointer (some ⟨x,0,none⟩))
 x1:W.cell? ⟨x,1,none⟩=some (.pointer (some ⟨ch,0,none⟩))
 c0:W.cell? ⟨ch,0,none⟩=some (.slice ar l.length cap)
 b0:W.cell? ⟨b,0,none⟩=some (.string ys)
 row:vk W ar l
theorem Rds.below {W W':World}{y x ch b g:Nat}{ar:Option Addr}{cap:Nat}{l:List Rc}{ys:ByteArray}(h:Rds W y x ch b g ar cap l ys)(hb:Below W.heap.size W W'):Rds W' y x ch b g ar cap l ys :=
 ⟨ajc h.yl hb.size,ajc h.xl hb.size,ajc h.cl hb.size,ajc h.bl hb.size,(hb.cell (p:=⟨y,10,none⟩) h.yl).trans h.Gu,(hb.cell (p:=⟨x,1,none⟩) h.xl).trans h.x1,(hb.cell (p:=⟨ch,0,none⟩) h.cl).trans h.c0,(hb.cell (p:=⟨b,0,none⟩) h.bl).trans h.b0,h.row.below hb⟩
section
variable {F0 Cs:Nat->Prop}{w wo W W':World}{B y x d:Nat}{a:Option Addr}{c:Nat}{P:Pn.cu}{m size now:Int}{z:Po}{b:Nat}{ids:List Kn}{R:Int×List ay×aJ}{es:List ay}{s:aJ}{st:dW}
theorem Mr.below (h:Mr F0 Cs w wo W B y x d a c P m size now z b ids R es s)(hb:Below W.heap.size W W'):Mr F0 Cs w wo W' B y x d a c P m size now z b ids R es s :=
 ⟨h.1.below hb,h.2.1,h.2.2.1.below hb,h.2.2.2.1.trans ((h.1.aZ (λ_ hk=>.inl hk)).stay hb),h.2.2.2.2⟩
theorem Mr.rds (h:Mr F0 Cs w wo W B y x d a c P m size now z b ids R es s)(g:Nat):∃ch ar cap,Rds W y x ch b g ar cap s.l z.s/\s.l.length<=cap/\cap<=maxLen:=by
 obtain⟨ch,ar,cap,q1,q2,q3,q4,q5,q6,q7,q8,q9⟩:=h.1.reads;exact⟨ch,ar,cap,⟨h.1.lt,q8,q9,h.2.2.1.lt,q1,q2,q3,h.2.2.1.c0,q7⟩,q5,q6⟩
theorem Mr.erase (h:Mr F0 Cs w wo W B y x d a c P m size now z b ids R es s)(hB:B<=w.heap.size)(hz:¬(pv P 1≠0/\pv P 1<(qm z:Int)))(hc:¬(bG P s.l z||bM P s.l z)=false)(hd:pv P 5≠1) :
 ∃D:Int,(D≠0->R=(D,es,s))/\Calls prog 33 #[.pointer (some ⟨x,0,none⟩),.agg #[.int .i64 2,.int .i64 (Aq P s.l z),.int .i64 now,.string ⟨#[]⟩,.string ⟨#[]⟩,.string ⟨#[]⟩]] W λe w'=>e=.returned (.int .i64 D)/\(D≠0->Mr F0 Cs w wo w' B y x d a c P m size now z b ids R es s)/\(D=0->∃es' s',Mr F0 Cs w wo w' B y x d a c P m size now z b ids R es' s'/\s'.l.length<s.l.length):=by
 have hp:=uo h.2.1.plan;have he:=h.1.vdo h.2.1 hB (bT (Aq P s.l z) now) ⟨dh,dh,dh⟩;have hfit:=h.2.1.did (bT (Aq P s.l z) now);refine⟨iJ es s m size (bT (Aq P s.l z) now),λhD=>by rw[<-h.2.2.2.2];exact Tt hc hd hD,he.mono ?_⟩;rintro e w' ⟨rfl,r1,s1⟩;have hst:aO Cs W w':=s1.aZ (λk hk=>.inl hk);have hpo:qP w' b z:=h.2.2.1.stay s1 (.inr rfl);refine⟨rfl,λhD=>?_,λhD=>?_⟩
 ·have e1:qL es s m size (bT (Aq P s.l z) now)=es:=by unfold qL;rw[if_neg hD]
  have e2:lq es s m size (bT (Aq P s.l z) now)=s:=by unfold lq;rw[if_neg hD]
  unfold pX at r1;simp only[e1,e2] at r1;exact⟨r1,h.2.1,hpo,h.2.2.2.1.trans hst,h.2.2.2.2⟩
 ·exact⟨qL es s m size (bT (Aq P s.l z) now),lq es s m size (bT (Aq P s.l z) now),⟨r1,hfit,hpo,h.2.2.2.1.trans hst,(Yr hp hz hc hd hD).symm.trans h.2.2.2.2⟩,pU hD (go_in hp hz hc)⟩
end
section
variable {F0 Cs:Nat->Prop}{w wo W W':World}{B y x d:Nat}{a:Option Addr}{c:Nat}{P:Pn.cu}{m size now:Int}{z:Po}{b:Nat}{ids:List Kn}{R:Int×List ay×aJ}{es:List ay}{s:aJ}{st:dW}
theorem aaZ (h:Rr F0 Cs w wo B y x d a c P m size st)(hf:Fit P m size st)(hB:B<=w.heap.size)(z:Po)(hz:dZ z) :
 Calls prog 73 #[.pointer (some ⟨y,0,none⟩),.int .i64 now,G5 z] wo λe w'=>e=.returned (.int .i64 (eY P m size now z st.es st.s).1)/\Rr F0 Cs w w' B y x d a c P m size ⟨(eY P m size now z st.es st.s).2.1,(eY P m size now z st.es st.s).2.2,st.ids⟩/\aO Cs wo w':=by
 have b0:Below wo.heap.size wo (wo.alloc (jq z)):=(ajb _ _).alloc (Xc _) _;have r0:=h.lF (jR:=λi=>Cs i\/i=wo.heap.size) b0 (λk hk=>by
  rcases hk with u|u
  ·exact .inl u
  ·exact .inr ⟨by omega,by subst u;simp⟩)
 have s0:=h.stay b0;have p0:=qP.new wo z;obtain⟨_,y0,y1,y2,y3,y4,y5⟩:=qP.new wo z;have hsz:qm z<=422212465065984:=by
  have h1:=hz.s;have h2:=hz.h;have h3:=hz.d;unfold qm;omega
 have hz1:=hz.s;have hz2:=hz.h;have hz3:=hz.d;have c3:=h.plan.1.c3;have hyl:=h.lt;by_cases hA:pv P 1≠0/\pv P 1<(qm z:Int)
 ·have hr:eY P m size now z st.es st.s=(8,st.es,st.s):=by unfold eY;rw[if_pos hA]
  rw[hr];have e1:(nth P.v 1 !=0)=true:=by have u:nth P.v 1≠0:=hA.1;simpa using u
  have e2:nth P.v 1<(z.s.size:Int)+(z.h.size:Int)+(z.d.size:Int):=by
   have u:=hA.2;unfold qm pv at u;omega
  have HE:=aj (And.intro (r0.aZ (jR:=Cs) (λk hk=>.inl hk)) s0);clear h hf hz r0 s0 p0 b0 hA hr hsz;go_enter func73,ntmps73;go_wp2_with fail;go_ret;exact⟨rfl,ah HE⟩
 ·obtain⟨R,hR⟩:∃R,gW P m size now z st.es st.s=R:=⟨_,rfl⟩;have hr:eY P m size now z st.es st.s=R:=by unfold eY;rw[if_neg hA];exact hR
  rw[hr];have A0:Hid (Mr F0 Cs w wo (wo.alloc (jq z)) B y x d a c P m size now z wo.heap.size st.ids R st.es st.s):=aj ⟨r0,hf,p0,s0,hR⟩;have Qe:=aj (λ(W:World) (es:List ay) (s:aJ) (hm:Mr F0 Cs w wo W B y x d a c P m size now z wo.heap.size st.ids R es s) (hc:¬(bG P s.l z||bM P s.l z)=false) (hd:pv P 5≠1)=>hm.erase hB hA hc hd);have dR:Hid (∀(W:World) (es:List ay) (s:aJ),Mr F0 Cs w wo W B y x d a c P m size now z wo.heap.size st.ids R es s->R.2.1=es->R.2.2=s->Rr F0 Cs w W B y x d a c P m size ⟨R.2.1,R.2.2,st.ids⟩/\aO Cs wo W):=aj (λW es s hm h1 h2=>by
   rw[h1,h2];exact⟨hm.1.aZ (λk hk=>.inl hk),hm.2.2.2.1⟩)
  obtain⟨n0,hn0⟩:∃n0,n0=st.s.l.length:=⟨_,rfl⟩;have HN0:=aj hn0;have hA2:nth P.v 1=0\/¬nth P.v 1<(z.s.size:Int)+(z.h.size:Int)+(z.d.size:Int):=by
   by_cases u:nth P.v 1=0
   ·exact .inl u
   ·exact .inr (λv=>hA ⟨u,by unfold qm pv;omega⟩)
  have HA2:=aj hA2;clear h hf hz r0 s0 p0 b0 hA hr hR hn0 hA2;go_enter func73,ntmps73;go_upto_region 2 with fail
  go_cut [41] (λs41 wx=>s41=.bool false/\wx=wo.alloc (jq z))
  case first =>
   by_cases hM:nth P.v 1=0
   ·rw[hM] at c3;go_wp2_with fail;go_meet
    exact⟨rfl,rfl⟩
   ·have e1:(nth P.v 1 !=0)=true:=by simpa using hM
    have e2:decide (nth P.v 1<(z.s.size:Int)+(z.h.size:Int)+(z.d.size:Int))=false:=ajd (by
     rcases ah HA2 with u|u
     ·exact absurd u hM
     ·exact u)
    go_wp2_with fail;go_meet
    exact⟨rfl,rfl⟩
  case rest =>
   obtain⟨rfl,rfl⟩:=hcut;go_wp2_with fail;clear c3 y0 y1 y2 y3 y4 y5 HA2;obtain⟨b,hb⟩:∃b,b=wo.heap.size:=⟨_,rfl⟩;obtain⟨W0,hW0⟩:∃W0,W0=wo.alloc (jq z):=⟨_,rfl⟩;rw[<-hW0,<-hb];rw[<-hW0,<-hb] at A0;rw[<-hb] at Qe dR;clear hW0 hb hyl;go_loopg [] n0 (λk W=>∃(es:List ay) (s:aJ),Hid (Mr F0 Cs w wo W B y x d a c P m size now z b st.ids R es s)/\Hid (k=s.l.length))
   case atStart=>exact⟨_,_,A0,HN0⟩
   case round =>
    clear A0 HN0;obtain⟨es,s,A,HN⟩:=hrel;obtain⟨ch0,G0,q1,q2,q3,q4⟩:=(ah A).1.lU;have hyl:=(ah A).1.lt;have hk:=(ah A).2.1.rY.ok;have hfew:=hk.iW;have hbytes:=hk.bytes;have hlast:=hk.last;have PS:=aj (MR q4 hk);unfold Z7 at PS;clear q4 hk;go_wp2_with fail;refine(ah PS).mono ?_;rintro e w1 ⟨rfl,b1⟩;obtain⟨W2,hW2⟩:∃W2,W2=w1.alloc (.cells #[.int .i64 (s.l.length:Int),.int .i64 (bI s.l:Int),.int .i64 (dU s.l),.int .i64 s.last] 60):=⟨_,rfl⟩;have bA:Below w1.heap.size w1 W2:=by rw[hW2];exact(ajb _ _).alloc (Xc _) _
    have A2:=aj (((ah A).below b1).below bA);have hg2:W2.cell? ⟨w1.heap.size,0,none⟩=some (.int .i64 (s.l.length:Int))/\W2.cell? ⟨w1.heap.size,1,none⟩=some (.int .i64 (bI s.l:Int))/\w1.heap.size<W2.heap.size:=by rw[hW2];exact⟨by simp,by simp,by simp⟩
    obtain⟨ch,ar,cap,hrd,hcap,hcap2⟩:=(ah A2).rds w1.heap.size;obtain⟨g,hg⟩:∃g,g=w1.heap.size:=⟨_,rfl⟩;rw[<-hg] at hg2 hrd;have RD:=aj hrd;have HG:=aj hg2;have aja:=aj (And.intro hcap hcap2);have d10:=hrd.Gu;have dx1:=hrd.x1;have dc0:=hrd.c0;have l1:=hrd.yl;have l2:=hrd.xl;have l3:=hrd.cl;rw[hW2] at d10 dx1 dc0 l1 l2 l3;unfold maxLen at hcap2;clear PS b1 bA A q1 q2 q3 hyl hrd hg2;go_wp2_with fail;rw[<-hW2,<-hg];clear hW2 hg d10 dx1 dc0 l1 l2 l3;have hL9:IntKind.i64.wrap ((s.l.length:Int)-1)=(s.l.length:Int)-1:=by rw[ajq];omega
    go_loopw [9,10,11,12] (λnv qv fv iv wr=>∃(k:Nat) (N Q S j:Int),nv=.int .i64 N/\qv=.int .i64 Q/\fv=.int .i64 S/\iv=.int .i64 j/\0<=N/\N+(k:Int)<=(s.l.length:Int)/\k<=s.l.length/\Hid (j=(k:Int)-1)/\Hid (N=(lW (s.l.drop k) z.s:Int)/\Q=dU (s.l.drop k)/\S=pO (s.l.drop k) z.s)/\Hid (Below W2.heap.size W2 wr)) (λ_ _ _ iv _=>(intOf iv+1).toNat)
    case atStart=>exact⟨s.l.length,0,0,0,_,rfl,rfl,rfl,rfl,by omega,by omega,Xc _,aj (by first|rfl|exact hL9),aj (by rw[alb];exact⟨rfl,rfl,rfl⟩),aj (ajb _ _)⟩
    case round =>
     obtain⟨k,N,Q,S,j,rfl,rfl,rfl,rfl,hN0,hN1,hk,hj,HV,HB⟩:=hrel;by_cases hk0:0<k
     ·obtain⟨i,rfl⟩:∃i,k=i+1:=⟨k-1,by omega⟩;obtain rfl:j=(i:Int):=by have:=ah hj;omega
      have hi:i<s.l.length:=by omega
      have hi0:(0:Int)<=(i:Int):=by omega
      have hiI:(i:Int)<(s.l.length:Int):=by omega
      have hid:decide ((i:Int)<0)=false:=ajd (by omega);have hN2:N<=199:=by omega
      have rd:=(ah RD).below (ah HB);obtain⟨ga,o,har,s6⟩:=rd.row i hi;subst har;have HD:=aj (And.intro (VR hi z.s) (And.intro (Sj hi) (Si hi z.s)));obtain⟨r,hr⟩:∃r,r=rc s.l i:=⟨_,rfl⟩;rw[<-hr] at s6 HD;have v10:=rd.Gu;have vx1:=rd.x1;have vc0:=rd.c0;have vb0:=rd.b0;have m1:=rd.yl;have m2:=rd.xl;have m3:=rd.cl;have m4:=rd.bl;have m5:=s6.lt;have y1:=s6.c1;have y3:=s6.c3;have hw2:IntKind.i64.wrap ((i:Int)-1)=(i:Int)-1:=by rw[ajq];omega
      have B1:=aj (λn=>below_drewN (ah HB) n);clear rd s6 hr hj hk0 HG;by_cases hs:r.s=z.s
      ·have e1:decide (r.s=z.s)=true:=ajg hs;obtain⟨e2,e3⟩:=agN hs;have HV2:Hid (N+1=(lW (s.l.drop i) z.s:Int)/\r.q=dU (s.l.drop i)/\r.q=pO (s.l.drop i) z.s):=aj (by
        obtain⟨d1,d2,d3⟩:=ah HD;rw[d1,d2,d3,if_pos hs,if_pos hs,(ah HV).1];exact⟨by omega,rfl,rfl⟩)
       clear HV HD hs;go_wp2_with fail;go_quiet (fail)
       go_wp2_with fail;refine⟨⟨i,_,_,_,_,rfl,rfl,rfl,rfl,by omega,by omega,by omega,aj (by first|rfl|exact hw2),HV2,aj (ah B1 _)⟩,?_⟩;first|(simp[intOf];done)|(simp[intOf];omega)
      ·have e1:decide (r.s=z.s)=false:=ajd hs;obtain⟨e2,e3⟩:=agO hs;have HV2:Hid (N=(lW (s.l.drop i) z.s:Int)/\r.q=dU (s.l.drop i)/\S=pO (s.l.drop i) z.s):=aj (by
        obtain⟨d1,d2,d3⟩:=ah HD;rw[d1,d2,d3,if_neg hs,if_neg hs];exact⟨by rw[(ah HV).1];omega,rfl,(ah HV).2.2⟩)
       clear HV HD hs;go_wp2_with fail;go_quiet (fail)
       go_wp2_with fail;refine⟨⟨i,_,_,_,_,rfl,rfl,rfl,rfl,by omega,by omega,by omega,aj (by first|rfl|exact hw2),HV2,aj (ah B1 _)⟩,?_⟩;first|(simp[intOf];done)|(simp[intOf];omega)
     ·obtain rfl:k=0:=by omega
      obtain rfl:j=-1:=by have:=ah hj;omega
      rw[alY] at HV;have A3:=aj ((ah A2).below (ah HB));have hg0:=((ah HB).cell (p:=⟨g,0,none⟩) (ah HG).2.2).trans (ah HG).1;have hg1:=((ah HB).cell (p:=⟨g,1,none⟩) (ah HG).2.2).trans (ah HG).2.1;have hgl:g<wr.heap.size:=ajc (ah HG).2.2 (ah HB).size;obtain⟨Z,hZ⟩:∃Z:Int,Z=(z.s.size:Int)+(z.h.size:Int)+(z.d.size:Int):=⟨_,rfl⟩;have hZ0:0<=Z/\Z<=422212465065984:=by omega
      have xY:Hid (bM P s.l z=((decide (nth P.v 0≠0)&&decide (nth P.v 0<=(s.l.length:Int)))||(decide (nth P.v 1≠0)&&decide (nth P.v 1<(bI s.l:Int)+Z)))):=aj (by
       have e:((bI s.l+qm z:Nat):Int)=(bI s.l:Int)+Z:=by rw[hZ];unfold qm;omega
       unfold bM pv;rw[e])
      have HCr:Hid (bG P s.l z=(decide (nth P.v 3≠0)&&decide (nth P.v 3<=N))):=aj (by unfold bG pv;rw[(ah HV).1]);have HGo:Hid (Aq P s.l z=if bG P s.l z=true then S else Q):=aj (by unfold Aq;rw[(ah HV).2.1,(ah HV).2.2]);have hp:=(ah A3).1.plan.1;have hyl:=hp.lt;have c2:=hp.c2;have c3:=hp.c3;have c5:=hp.c5;rw[<-hZ];have HZ:=aj hZ;clear hp HV HG RD HB A2 hj hk0 hL9 hZ hz1 hz2 hz3 hsz;go_upto_region 14 with fail
      go_cut [13] (λs13 wx=>s13=.bool (bG P s.l z)/\wx=wr)
      case first =>
       by_cases h3:nth P.v 3=0
       ·have e:bG P s.l z=false:=by rw[ah HCr,h3];rfl
        rw[h3] at c5;have E:=aj e;clear e HCr xY HGo Qe dR h3;go_wp2_with fail;go_meet
        exact⟨by rw[ah E],rfl⟩
       ·have e:bG P s.l z=decide (nth P.v 3<=N):=by rw[ah HCr];simp[h3]
        have E:=aj e;have e1:(nth P.v 3 !=0)=true:=by simpa using h3
        clear e HCr xY HGo Qe dR h3;go_wp2_with fail;go_meet
        exact⟨by rw[ah E],rfl⟩
      case rest =>
       obtain⟨rfl,hwx⟩:=hcut;rw[hwx];clear hwx HCr c5;go_upto_region 15 with fail
       go_cut [14] (λs14 wx=>s14=.bool (bM P s.l z)/\Hid (Below wr.heap.size wr wx))
       case first =>
        have BD:=aj (λn=>below_drewN (ajb wr.heap.size wr) n);clear HGo Qe dR A3;generalize bM P s.l z=Fl at *;generalize bG P s.l z=C at *;generalize nth P.v 0=M0 at *;generalize nth P.v 1=M1 at *;generalize bI s.l=K at *;by_cases h0:M0=0
        ·by_cases h1:M1=0
         ·have E:Hid (Fl=false):=aj (by rw[ah xY,h0,h1];rfl);subst h0 h1;clear xY;go_quiet (fail)
          first|go_meet|(go_wp2_with fail;go_meet)
          exact⟨by rw[ah E],aj (ah BD _)⟩
         ·have E:Hid (Fl=decide (M1<(K:Int)+Z)):=aj (by rw[ah xY,h0];simp[h1]);have e1:(M1 !=0)=true:=by simpa using h1
          subst h0;clear xY h1;go_quiet (fail)
          first|go_meet|(go_wp2_with fail;go_meet)
          exact⟨by rw[ah E],aj (ah BD _)⟩
        ·have e0:(M0 !=0)=true:=by simpa using h0
         by_cases h2:M0<=(s.l.length:Int)
         ·have E:Hid (Fl=true):=aj (by rw[ah xY];simp[h0,h2]);have e2:decide (M0<=(s.l.length:Int))=true:=ajg h2;clear xY h0 h2;go_quiet (fail)
          first|go_meet|(go_wp2_with fail;go_meet)
          exact⟨by rw[ah E],aj (ah BD _)⟩
         ·have e2:decide (M0<=(s.l.length:Int))=false:=ajd h2;by_cases h1:M1=0
          ·have E:Hid (Fl=false):=aj (by rw[ah xY,h1,e2];simp);subst h1;clear xY h0 h2;go_quiet (fail)
           first|go_meet|(go_wp2_with fail;go_meet)
           exact⟨by rw[ah E],aj (ah BD _)⟩
          ·have E:Hid (Fl=decide (M1<(K:Int)+Z)):=aj (by rw[ah xY,e2];simp[h1]);have e1:(M1 !=0)=true:=by simpa using h1
           clear xY h0 h1 h2;go_quiet (fail)
           first|go_meet|(go_wp2_with fail;go_meet)
           exact⟨by rw[ah E],aj (ah BD _)⟩
       case rest =>
        obtain⟨rfl,HB5⟩:=hcut;clear xY c2 c3 hg0 hg1 hgl hyl hZ0;have A5:=aj ((ah A3).below (ah HB5));have c7:=(ah A5).1.plan.1.c7;have aij:=(ah A5).1.lt;clear A3 HB5;by_cases hc:(bG P s.l z||bM P s.l z)=false
        ·have hr2:R=(0,es,s):=(ah A5).2.2.2.2.symm.trans (Yq hc);have HE:=aj (ah dR _ _ _ (ah A5) (by rw[hr2]) (by rw[hr2]));have HRR:=aj (show R.1=0 from by rw[hr2]);obtain⟨x1,x2⟩:=Bool.or_eq_false_iff.1 hc;rw[x1,x2];clear Qe HGo hr2 A5 hc x1 x2;go_wp2_with fail;go_ret;exact⟨by rw[ah HRR];rfl,ah HE⟩
        ·cases hC:bG P s.l z with
         | true =>
          rw[hC] at HGo;by_cases hd:nth P.v 5=1
          ·have e5:pv P 5=1:=hd;have hr2:R=(8,es,s):=(ah A5).2.2.2.2.symm.trans (JB hc e5);have HE:=aj (ah dR _ _ _ (ah A5) (by rw[hr2]) (by rw[hr2]));have HRR:=aj (show R.1=8 from by rw[hr2]);rw[hd] at c7;clear Qe HGo hr2 A5 hc hd e5;go_wp2_with fail;go_ret;exact⟨by rw[ah HRR];rfl,ah HE⟩
          ·have e5:pv P 5≠1:=hd;obtain⟨D,hE1,hE2⟩:=ah Qe _ _ _ (ah A5) hc e5;rw[ah HGo] at hE2;simp only[anq] at hE2;have Xg:=aj hE1;have PE:=aj hE2;have e7:(nth P.v 5==1)=false:=by rw[ajr];exact hd
           obtain⟨_,_,_,Gu,_⟩:=(ah A5).1.reads;clear hE1 hE2 HGo Qe hc hd e5;go_wp2_with fail;refine(ah PE).mono ?_;rintro e w5 ⟨rfl,k1,k2⟩;have K1:=aj k1;have K2:=aj k2;clear PE k1 k2 A5 c7 Gu aij;by_cases h0:D=0
           ·obtain⟨es',s',hm',hl'⟩:=ah K2 h0;have HM:=aj hm';have HLe:=aj hl';subst h0;clear hm' hl' K1 K2 Xg;go_wp2_with fail;rw[ah HZ];go_roundg s'.l.length
            case measure=>have:=ah HLe;have:=ah HN;omega
            case rel=>exact⟨_,_,HM,aj rfl⟩
           ·have e8:(D !=0)=true:=by simpa using h0
            have hr2:=ah Xg h0;have HE:=aj (ah dR _ _ _ (ah K1 h0) (by rw[hr2]) (by rw[hr2]));have HRR:=aj (show R.1=D from by rw[hr2]);clear K1 K2 Xg hr2;go_wp2_with fail;go_ret;exact⟨by rw[ah HRR];rfl,ah HE⟩
         | false =>
          rw[hC] at HGo;have hF:bM P s.l z=true:=by
           cases hF:bM P s.l z with
           | true=>rfl
           | false=>exact absurd (by rw[hC,hF];rfl) hc
          rw[hF];by_cases hd:nth P.v 5=1
          ·have e5:pv P 5=1:=hd;have hr2:R=(8,es,s):=(ah A5).2.2.2.2.symm.trans (JB hc e5);have HE:=aj (ah dR _ _ _ (ah A5) (by rw[hr2]) (by rw[hr2]));have HRR:=aj (show R.1=8 from by rw[hr2]);rw[hd] at c7;clear Qe HGo hr2 A5 hc hd e5;go_wp2_with fail;go_ret;exact⟨by rw[ah HRR];rfl,ah HE⟩
          ·have e5:pv P 5≠1:=hd;obtain⟨D,hE1,hE2⟩:=ah Qe _ _ _ (ah A5) hc e5;rw[ah HGo] at hE2;simp only[amg,ant] at hE2;have Xg:=aj hE1;have PE:=aj hE2;have e7:(nth P.v 5==1)=false:=by rw[ajr];exact hd
           obtain⟨_,_,_,Gu,_⟩:=(ah A5).1.reads;clear hE1 hE2 HGo Qe hc hd e5;go_wp2_with fail;refine(ah PE).mono ?_;rintro e w5 ⟨rfl,k1,k2⟩;have K1:=aj k1;have K2:=aj k2;clear PE k1 k2 A5 c7 Gu aij;by_cases h0:D=0
           ·obtain⟨es',s',hm',hl'⟩:=ah K2 h0;have HM:=aj hm';have HLe:=aj hl';subst h0;clear hm' hl' K1 K2 Xg;go_wp2_with fail;rw[ah HZ];go_roundg s'.l.length
            case measure=>have:=ah HLe;have:=ah HN;omega
            case rel=>exact⟨_,_,HM,aj rfl⟩
           ·have e8:(D !=0)=true:=by simpa using h0
            have hr2:=ah Xg h0;have HE:=aj (ah dR _ _ _ (ah K1 h0) (by rw[hr2]) (by rw[hr2]));have HRR:=aj (show R.1=D from by rw[hr2]);clear K1 K2 Xg hr2;go_wp2_with fail;go_ret;exact⟨by rw[ah HRR];rfl,ah HE⟩
end
def agP:Nat->Code->Code
 | 0,c=>c
 | n+1,.seq _ b=>agP n b
 | _+1,c=>c
def Bd (f:Func)(n:Nat):Code:=agP n (f.body.getD .skip)
def mD (F0 Cs:Nat->Prop)(w wo:World)(B y x d:Nat)(a:Option Addr)(c:Nat)(P:Pn.cu)(m size now:Int)(z:Po)(st:dW):Ending->World->Prop:=λe w'=>e=.returned (.tuple #[.int .i64 (eX P m size now z st).1.1,.bool (eX P m size now z st).1.2.1,.int .i64 (eX P m size now z st).1.2.2])/\Rr F0 Cs w w' B y x d a c P m size (eX P m size now z st).2/\aO Cs wo w'
abbrev ahs (y b:Nat)(a:Option Addr)(n c:Nat)(g o:Nat)(f s:ByteArray)(w:World):Prop:=w.cell? ⟨y,1,none⟩=some (.slice a n c)/\w.cell? ⟨g,o,none⟩=some (.string f)/\w.cell? ⟨b,0,none⟩=some (.string s)
theorem aej {l:List ByteArray}{q:ByteArray->Bool}{i:Nat}(h:i<l.length):(l.take (i+1)).any q=((l.take i).any q||q (tk l i)):=by
 rw[ajo h,List.any_append];have e:tk l i=l[i]:=by unfold tk;rw[ajl h];rfl
 rw[e];simp
theorem aa0 {l:List Kn}{i:ByteArray}{f:Int}{k:Nat}(h:k<l.length):jX (l.take (k+1)) i f=if (kn l k).i=i/\f<=(kn l k).a then (kn l k).q else jX (l.take k) i f:=by
 unfold jX;rw[ajo h,amr,ahe h];rfl
def aa1 (P:Pn.cu)(z:Po):Bool:=decide (256<z.h.size+z.d.size)||((decide (pv P 4≠0)&&decide (pv P 4<((z.h.size+z.d.size:Nat):Int)))||decide (16<z.i.size))
theorem agb {P:Pn.cu}{now:Int}{z:Po}(h:dn now 0 1099511627776=true/\-1<=z.x/\0<=z.ro/\z.ro<=2)(h1:aG false z.s=0)(h2:pK P z.s=true):mZ P now z=if aa1 P z=true then 2 else 0:=by
 rw[sN h,if_neg (by rw[h1];simp),if_neg (by rw[h2];simp)];rfl
structure Pbw (F0 Cs:Nat->Prop)(w wo wr:World)(B y x d:Nat)(a:Option Addr)(c:Nat)(P:Pn.cu)(m size:Int)(z:Po)(b:Nat)(st:dW):Prop where
 r:Rr F0 (λk=>Cs k\/k=b) w wr B y x d a c P m size st
 po:qP wr b z
 s:aO Cs wo wr
theorem Pbw.below {F0 Cs:Nat->Prop}{w wo wr W:World}{B y x d:Nat}{a:Option Addr}{c:Nat}{P:Pn.cu}{m size:Int}{z:Po}{b:Nat}{st:dW}(h:Pbw F0 Cs w wo wr B y x d a c P m size z b st)(hW:Below wr.heap.size wr W):Pbw F0 Cs w wo W B y x d a c P m size z b st :=
 ⟨h.r.below hW,h.po.below hW,h.s.trans ⟨hW.size,λk hk=>(h.r.stay hW).2 k (.inl hk)⟩⟩
theorem Pbw.out {F0 Cs:Nat->Prop}{w wo wr:World}{B y x d:Nat}{a:Option Addr}{c:Nat}{P:Pn.cu}{m size:Int}{z:Po}{b:Nat}{st:dW}(h:Pbw F0 Cs w wo wr B y x d a c P m size z b st):Rr F0 Cs w wr B y x d a c P m size st/\aO Cs wo wr:=⟨h.r.aZ (λ_ hk=>.inl hk),h.s⟩
structure Pbg (F0 Cs:Nat->Prop)(w wo wr:World)(B y x d:Nat)(a:Option Addr)(c:Nat)(P:Pn.cu)(m size:Int)(z:Po)(b g:Nat)(rr:Rc)(st:dW):Prop where
 r:Rr F0 (λk=>(Cs k\/k=b)\/k=g) w wr B y x d a c P m size st
 po:qP wr b z
 rc:At6 g rr wr
 lt:g<wr.heap.size
 s:aO Cs wo wr
section
variable {F0 Cs:Nat->Prop}{w wo wr W:World}{B y x d:Nat}{a:Option Addr}{c:Nat}{P:Pn.cu}{m size:Int}{z:Po}{b g:Nat}{rr:Rc}{st st':dW}
theorem Pbg.out (h:Pbg F0 Cs w wo wr B y x d a c P m size z b g rr st):Rr F0 Cs w wr B y x d a c P m size st/\aO Cs wo wr:=⟨h.r.aZ (λ_ hk=>.inl (.inl hk)),h.s⟩
theorem Pbg.to (h:Pbg F0 Cs w wo wr B y x d a c P m size z b g rr st)(hr:Rr F0 (λk=>(Cs k\/k=b)\/k=g) w W B y x d a c P m size st')(hs:aO (λk=>(Cs k\/k=b)\/k=g) wr W):Pbg F0 Cs w wo W B y x d a c P m size z b g rr st' :=
 ⟨hr,h.po.stay hs (.inl (.inr rfl)),h.rc.stay hs (.inr rfl),ajc h.lt hs.1,h.s.trans (hs.aZ (λ_ hk=>.inl (.inl hk)))⟩
theorem Rr.aik (h:Rr F0 Cs w wr B y x d a c P m size st)(k:Kn)(hl:st.ids.length<=1000)(hB:B<=w.heap.size) :
 ∃a1 n cp a' n' cp' w8,wr.cell? ⟨y,11,none⟩=some (.slice a1 n cp)/\(Builtin.append_ #[44,44] 44 #[.slice a1 n cp,.slice (some ⟨wr.heap.size,0,none⟩) 1 1]).run prog (wr.alloc (.cells #[.string k.i,.int .i64 k.a,.int .i64 k.q] 135))=.ok (.slice a' n' cp') w8/\w8.cell? ⟨y,11,none⟩=some (.slice a1 n cp)/\w8.frozen? ⟨y,11,none⟩=false/\y<w8.heap.size/\Rr F0 Cs w (w8.setCell ⟨y,11,none⟩ (.slice a' n' cp')) B y x d a c P m size ⟨st.es,st.s,st.ids++[k]⟩/\aO Cs wr (w8.setCell ⟨y,11,none⟩ (.slice a' n' cp')):=by
 have hr:=h.room;obtain⟨v,G,h1,h2,h3,h4⟩:=h;have hb7:Below wr.heap.size wr (wr.alloc (.cells #[.string k.i,.int .i64 k.a,.int .i64 k.q] 135)):=(ajb _ _).alloc (Xc _) _;have h7:=h1.below hb7;obtain⟨v8,w8,hrun,A8,C8,L8⟩:=aad (wr.alloc (.cells #[.string k.i,.int .i64 k.a,.int .i64 k.q] 135)) B 44 v st.ids [k] h7.ids ⟨wr.heap.size,0,none⟩ 1 (ahf wr k) (by simp;omega) (aje hB (aje hr hb7.size));obtain⟨k1,k2⟩:=h7.keeps (v':=v8) (qo:=st.ids++[k]) A8 C8 L8;have hy7:y<(wr.alloc (.cells #[.string k.i,.int .i64 k.a,.int .i64 k.q] 135)).heap.size:=h7.plan.lt;have e11:w8.cell? ⟨y,11,none⟩=some v:=(C8.cell (p:=⟨y,11,none⟩) hy7 h7.ya).trans h7.Ku
 have f11:w8.frozen? ⟨y,11,none⟩=false:=(C8.frozen (p:=⟨y,11,none⟩) hy7 h7.ya).trans h7.fz;have hsz:=hb7.size;obtain⟨a1,cp,hv,_⟩:=h1.ids.shape;obtain⟨a',cp',hv8,_⟩:=A8.shape;have Ku:=h1.Ku;have hst:Rr F0 Cs w (w8.setCell ⟨y,11,none⟩ v8) B y x d a c P m size ⟨st.es,st.s,st.ids++[k]⟩/\aO Cs wr (w8.setCell ⟨y,11,none⟩ v8):=by
  refine⟨⟨v8,G,k1,oI (h2.trans (aH.aA hb7)) k2 (λi hi u=>?_),λi hi=>?_,λi hi=>⟨ajc (ajc (h4 i hi).1 hsz) k2.size,λu=>?_⟩⟩,aje hsz k2.size,λi hi=>(k2.block i (ajc (h4 i hi).1 hsz) (λu=>?_)).trans (hb7.block i (h4 i hi).1)⟩
  ·have hv':rvF y v G i:=by
    rcases u with u|u
    ·exact .inl u
    ·exact .inr (.inl u)
   rcases h3 i hv' with q|q
   ·exact q
   ·omega
  ·rcases hi with u|u|u
   ·exact h3 i (.inl u)
   ·rcases L8 i u with q|q
    ·exact h3 i (.inr (.inl q))
    ·exact .inr (by omega)
   ·exact h3 i (.inr (.inr u))
  ·rcases u with u|u|u
   ·exact(h4 i hi).2 (.inl u)
   ·rcases L8 i u with q|q
    ·exact(h4 i hi).2 (.inr (.inl q))
    ·have:=(h4 i hi).1;omega
   ·exact(h4 i hi).2 (.inr (.inr u))
  ·rcases u with u|u
   ·exact(h4 i hi).2 (.inl u)
   ·exact(h4 i hi).2 (.inr (.inl u))
 have hy8:y<w8.heap.size:=ajc hy7 C8.size;subst hv hv8;exact⟨a1,_,cp,a',_,cp',w8,Ku,hrun,e11,f11,hy8,hst.1,hst.2⟩
end
abbrev aa2 (y x g:Nat)(q:Int)(w:World):Prop:=w.cell? ⟨y,10,none⟩=some (.pointer (some ⟨x,0,none⟩))/\w.cell? ⟨g,1,none⟩=some (.int .i64 q)
section
variable {F0 Cs:Nat->Prop}{w wo wq:World}{B y x d:Nat}{a:Option Addr}{c:Nat}{P:Pn.cu}{m size now:Int}{z:Po}{b g:Nat}{rr:Rc}{st st1:dW}
theorem ail (h:Pbg F0 Cs w wo wq B y x d a c P m size z b g rr st1)(hf:Fit P m size st1)(hB:B<=w.heap.size)(hz:dZ z)(hg:dn now 0 1099511627776=true/\-1<=z.x/\0<=z.ro/\z.ro<=2)(hput:eX P m size now z st=((if qN m size now z rr.q st1=0 then rr.q else 0,false,qN m size now z rr.q st1),wR m size now z rr.q st1))(c2 c3 c4 c6 c7 c8 c9 Gu Ku c12 c13 c14 c15 c17 c18 c19 c20 c21 c22 c23 c24 c25 c26 c27 c28 c29 c30 c31 c32 c33 c34 c35 c36 c37 c38 c39 c40 c41 c42 c43 c44 c45 c46 c47 c48 c49 c50 c51 c52 c53 c54 c55 c56 c57 c58 c59 c60 c61 c62 c63 c64 c65 c66 c67 c68 c69 c70 c71 c72 c73 c74 c75 c76 c77 c78 c79 c80 c81 c82 c83 c84 c85 c86 c87 c88 c89 c90 c91 c92 c93 c94 c95 c96 c97 c98 c99 CJ CO CP CQ CU c105 CV c107 CW c109 CZ Dc Df Dh Di Dj c116 c117 Dl c119 Dn Dp Dq Dt c124 Du Dv c127 Dw Dx c130 c131 Dy Dz DC DF DI DJ c138 c139 DK c141 DL c143 DN c145 c146 DR c148 DT DU DV c152 DW c154 DX c156 c157 DY c159 c160 DZ c162 D5 c164 D6 D7 c167 c168 D8 D9 c171 Ea c173 Eb c175 Ec Ed Ee Ef Eh Ei c182 c183 Ej Em En Eo Ep Es Et Eu Ew c193 c194 Ey c196 Ez c198 EC ED c201 EF c203 EG EH c206 EI c208 EJ c210 EK c212 c213 EL EM EO EP c218 ER ES ET c222 EU EW EX c226 c227 c228 c229 EY EZ c232 c233 c234 Fa c236 Fb Fe Fg Fh Fj Fp Fq Fv Fz FB FC FD FH FI FK FM FN:Value) :
 Code.wp prog (Bd Tryz.f31 14) (bodyPost prog Tryz.f31 (mD F0 Cs w wo B y x d a c P m size now z st)) ⟨List.toArray (.pointer (some ⟨y,0,none⟩)::.int .i64 now::c2::c3::c4::.pointer (some ⟨b,0,none⟩)::c6::c7::c8::c9::Gu::Ku::c12::c13::c14::c15::.pointer (some ⟨g,0,none⟩)::c17::c18::c19::c20::c21::c22::c23::c24::c25::c26::c27::c28::c29::c30::c31::c32::c33::c34::c35::c36::c37::c38::c39::c40::c41::c42::c43::c44::c45::c46::c47::c48::c49::c50::c51::c52::c53::c54::c55::c56::c57::c58::c59::c60::c61::c62::c63::c64::c65::c66::c67::c68::c69::c70::c71::c72::c73::c74::c75::c76::c77::c78::c79::c80::c81::c82::c83::c84::c85::c86::c87::c88::c89::c90::c91::c92::c93::c94::c95::c96::c97::c98::c99::CJ::CO::CP::CQ::CU::c105::CV::c107::CW::c109::CZ::Dc::Df::Dh::Di::Dj::c116::c117::Dl::c119::Dn::Dp::Dq::Dt::c124::Du::Dv::c127::Dw::Dx::c130::c131::Dy::Dz::DC::DF::DI::DJ::c138::c139::DK::c141::DL::c143::DN::c145::c146::DR::c148::DT::DU::DV::c152::DW::c154::DX::c156::c157::DY::c159::c160::DZ::c162::D5::c164::D6::D7::c167::c168::D8::D9::c171::Ea::c173::Eb::c175::Ec::Ed::Ee::Ef::Eh::Ei::c182::c183::Ej::Em::En::Eo::Ep::Es::Et::Eu::Ew::c193::c194::Ey::c196::Ez::c198::EC::ED::c201::EF::c203::EG::EH::c206::EI::c208::EJ::c210::EK::c212::c213::EL::EM::EO::EP::c218::ER::ES::ET::c222::EU::EW::EX::c226::c227::c228::c229::EY::EZ::c232::c233::c234::Fa::c236::Fb::Fe::Fg::Fh::Fj::Fp::Fq::Fv::Fz::FB::FC::FD::FH::FI::FK::FM::FN::[]),[]⟩ wq:=by
 have p0:=h.po.c0;have p5:=h.po.c5;have hbl:=h.po.lt;have hgl:=h.lt;have hyl:=h.r.lt;have g1:=h.rc.2.1;have H:=aj h;have HF:=aj hf;have HY:=aj hz;have HG:=aj hg;have HP:=aj hput;clear h hf hz hg hput;by_cases h0:z.ro=0
 ·have hre:qN m size now z rr.q st1=0:=by unfold qN;rw[if_pos h0]
  have hrt:wR m size now z rr.q st1=st1:=by unfold wR;rw[if_pos h0]
  rw[hre,hrt,if_pos rfl] at HP;have HZ:=aj (ah H).out;rw[h0] at p5;clear hre hrt h0 H;conv=>arg 2;whnf
  go_wp2_with fail;go_ret3;unfold mD;rw[ah HP];exact⟨rfl,ah HZ⟩
 ·conv=>arg 2;whnf
  by_cases hc:z.ro=1
  ·have hr1:z.ro=1:=hc;have hrf:nR z=z.s:=by unfold nR;rw[if_pos hr1]
   have b5:Below wq.heap.size wq (wq.alloc (.cells #[.string ⟨#[]⟩,.string z.s,.string ⟨#[62]⟩] 9)).drew:=((ajb _ _).alloc (Xc _) _).drew;have Uo:=(ah H).to ((ah H).r.below b5) ((ah H).r.stay b5);have PD:=aj (show Calls prog 33 #[.pointer (some ⟨x,0,none⟩),.agg #[.int .i64 3,.int .i64 rr.q,.int .i64 now,.string z.s,.string ⟨#[]⟩,.string ⟨#[]⟩]] (wq.alloc (.cells #[.string ⟨#[]⟩,.string z.s,.string ⟨#[62]⟩] 9)).drew _ from Uo.r.vdo (ah HF) hB (fP rr.q now z.s) ⟨(ah HY).s,dh,dh⟩);obtain⟨_,_,_,v10,_⟩:=Uo.r.reads;have k5:aa2 y x g rr.q (wq.alloc (.cells #[.string ⟨#[]⟩,.string z.s,.string ⟨#[62]⟩] 9)).drew:=⟨v10,Uo.rc.2.1⟩
   have H5:=aj Uo;obtain⟨E,hE⟩:∃E,iJ st1.es st1.s m size (fP rr.q now z.s)=E:=⟨_,rfl⟩;rw[hE] at PD;have hre:qN m size now z rr.q st1=E:=by unfold qN;rw[if_neg h0,hrf,hE]
   have hrt:wR m size now z rr.q st1=pX m size st1 (fP rr.q now z.s):=by unfold wR;rw[if_neg h0,hrf]
   rw[hre,hrt] at HP;rw[hr1] at p5;have e0:(z.ro !=0)=true:=by simpa using h0
   clear b5 Uo hE hre hrt hrf h0 H v10;go_wp2_with fail;go_region_held3 (aa2 y x g rr.q) (first|assumption|go_keep)
    (first
     | (go_at_call 33;refine(ah PD).mono ?_;rintro e w6 ⟨rfl,r6,s6⟩;obtain⟨_,_,_,u10,_⟩:=r6.reads;have k7:aa2 y x g rr.q w6:=⟨u10,((ah H5).rc.stay s6 (.inr rfl)).2.1⟩;have H7:=aj ((ah H5).to r6 s6);clear r6 s6))
   have HZ:=aj (ah H7).out;have gq:=k7.2;clear k5 PD H5 H7;by_cases hE0:E=0
   ·subst hE0;go_wp2_with fail;go_ret3;unfold mD;rw[ah HP];exact⟨rfl,ah HZ⟩
   ·have e5:(E !=0)=true:=by simpa using hE0
    have HP3:=aj (show(if E=0 then rr.q else 0)=0 from if_neg hE0);clear hE0;go_wp2_with fail;go_ret3;unfold mD;rw[ah HP,ah HP3];exact⟨rfl,ah HZ⟩
  ·have hr1:z.ro=2:=by obtain⟨_,_,u,v⟩:=ah HG;omega
   have hrf:nR z=⟨#[62]⟩:=by unfold nR;rw[if_neg (by rw[hr1];decide)]
   have b5:Below wq.heap.size wq (wq.alloc (.cells #[.string ⟨#[]⟩,.string z.s,.string ⟨#[62]⟩] 9)).drew:=((ajb _ _).alloc (Xc _) _).drew;have Uo:=(ah H).to ((ah H).r.below b5) ((ah H).r.stay b5);have PD:=aj (show Calls prog 33 #[.pointer (some ⟨x,0,none⟩),.agg #[.int .i64 3,.int .i64 rr.q,.int .i64 now,.string ⟨#[62]⟩,.string ⟨#[]⟩,.string ⟨#[]⟩]] (wq.alloc (.cells #[.string ⟨#[]⟩,.string z.s,.string ⟨#[62]⟩] 9)).drew _ from Uo.r.vdo (ah HF) hB (fP rr.q now ⟨#[62]⟩) ⟨(by decide:(⟨#[62]⟩:ByteArray).size<=140737488355328),dh,dh⟩);obtain⟨_,_,_,v10,_⟩:=Uo.r.reads
   have k5:aa2 y x g rr.q (wq.alloc (.cells #[.string ⟨#[]⟩,.string z.s,.string ⟨#[62]⟩] 9)).drew:=⟨v10,Uo.rc.2.1⟩;have H5:=aj Uo;obtain⟨E,hE⟩:∃E,iJ st1.es st1.s m size (fP rr.q now ⟨#[62]⟩)=E:=⟨_,rfl⟩;rw[hE] at PD;have hre:qN m size now z rr.q st1=E:=by unfold qN;rw[if_neg h0,hrf,hE]
   have hrt:wR m size now z rr.q st1=pX m size st1 (fP rr.q now ⟨#[62]⟩):=by unfold wR;rw[if_neg h0,hrf]
   rw[hre,hrt] at HP;rw[hr1] at p5;have e0:(z.ro !=0)=true:=by simpa using h0
   clear b5 Uo hE hre hrt hrf h0 H v10;go_wp2_with fail;go_region_held3 (aa2 y x g rr.q) (first|assumption|go_keep)
    (first
     | (go_at_call 33;refine(ah PD).mono ?_;rintro e w6 ⟨rfl,r6,s6⟩;obtain⟨_,_,_,u10,_⟩:=r6.reads;have k7:aa2 y x g rr.q w6:=⟨u10,((ah H5).rc.stay s6 (.inr rfl)).2.1⟩;have H7:=aj ((ah H5).to r6 s6);clear r6 s6))
   have HZ:=aj (ah H7).out;have gq:=k7.2;clear k5 PD H5 H7;by_cases hE0:E=0
   ·subst hE0;go_wp2_with fail;go_ret3;unfold mD;rw[ah HP];exact⟨rfl,ah HZ⟩
   ·have e5:(E !=0)=true:=by simpa using hE0
    have HP3:=aj (show(if E=0 then rr.q else 0)=0 from if_neg hE0);clear hE0;go_wp2_with fail;go_ret3;unfold mD;rw[ah HP,ah HP3];exact⟨rfl,ah HZ⟩
end
section
variable {F0 Cs:Nat->Prop}{w wo wq:World}{B y x d:Nat}{a:Option Addr}{c:Nat}{P:Pn.cu}{m size now:Int}{z:Po}{b g:Nat}{rr:Rc}{st st1:dW}
theorem ain (h:Pbg F0 Cs w wo wq B y x d a c P m size z b g rr st1)(hf:Fit P m size st1)(hB:B<=w.heap.size)(FP:st1.ids.length<=1000)(hz:dZ z)(hg:dn now 0 1099511627776=true/\-1<=z.x/\0<=z.ro/\z.ro<=2)(hq:1<=rr.q)(hput:eX P m size now z st=((if qN m size now z rr.q ⟨st1.es,st1.s,oL st1.ids z.i now rr.q⟩=0 then rr.q else 0,false,qN m size now z rr.q ⟨st1.es,st1.s,oL st1.ids z.i now rr.q⟩),wR m size now z rr.q ⟨st1.es,st1.s,oL st1.ids z.i now rr.q⟩))(c2 c3 c4 c6 c7 c8 c9 Gu Ku c12 c13 c14 c15 c17 c18 c19 c20 c21 c22 c23 c24 c25 c26 c27 c28 c29 c30 c31 c32 c33 c34 c35 c36 c37 c38 c39 c40 c41 c42 c43 c44 c45 c46 c47 c48 c49 c50 c51 c52 c53 c54 c55 c56 c57 c58 c59 c60 c61 c62 c63 c64 c65 c66 c67 c68 c69 c70 c71 c72 c73 c74 c75 c76 c77 c78 c79 c80 c81 c82 c83 c84 c85 c86 c87 c88 c89 c90 c91 c92 c93 c94 c95 c96 c97 c98 c99 CJ CO CP CQ CU c105 CV c107 CW c109 CZ Dc Df Dh Di Dj c116 c117 Dl c119 Dn Dp Dq Dt c124 Du Dv c127 Dw Dx c130 c131 Dy Dz DC DF DI DJ c138 c139 DK c141 DL c143 DN c145 c146 DR c148 DT DU DV c152 DW c154 DX c156 c157 DY c159 c160 DZ c162 D5 c164 D6 D7 c167 c168 D8 D9 c171 Ea c173 Eb c175 Ec Ed Ee Ef Eh Ei c182 c183 Ej Em En Eo Ep Es Et Eu Ew c193 c194 Ey c196 Ez c198 EC ED c201 EF c203 EG EH c206 EI c208 EJ c210 EK c212 c213 EL EM EO EP c218 ER ES ET c222 EU EW EX c226 c227 c228 c229 EY EZ c232 c233 c234 Fa c236 Fb Fe Fg Fh Fj Fp Fq Fv Fz FB FC FD FH FI FK FM FN:Value) :
 Code.wp prog (Bd Tryz.f31 13) (bodyPost prog Tryz.f31 (mD F0 Cs w wo B y x d a c P m size now z st)) ⟨List.toArray (.pointer (some ⟨y,0,none⟩)::.int .i64 now::c2::c3::c4::.pointer (some ⟨b,0,none⟩)::c6::c7::c8::c9::Gu::Ku::c12::c13::c14::c15::.pointer (some ⟨g,0,none⟩)::c17::c18::c19::c20::c21::c22::c23::c24::c25::c26::c27::c28::c29::c30::c31::c32::c33::c34::c35::c36::c37::c38::c39::c40::c41::c42::c43::c44::c45::c46::c47::c48::c49::c50::c51::c52::c53::c54::c55::c56::c57::c58::c59::c60::c61::c62::c63::c64::c65::c66::c67::c68::c69::c70::c71::c72::c73::c74::c75::c76::c77::c78::c79::c80::c81::c82::c83::c84::c85::c86::c87::c88::c89::c90::c91::c92::c93::c94::c95::c96::c97::c98::c99::CJ::CO::CP::CQ::CU::c105::CV::c107::CW::c109::CZ::Dc::Df::Dh::Di::Dj::c116::c117::Dl::c119::Dn::Dp::Dq::Dt::c124::Du::Dv::c127::Dw::Dx::c130::c131::Dy::Dz::DC::DF::DI::DJ::c138::c139::DK::c141::DL::c143::DN::c145::c146::DR::c148::DT::DU::DV::c152::DW::c154::DX::c156::c157::DY::c159::c160::DZ::c162::D5::c164::D6::D7::c167::c168::D8::D9::c171::Ea::c173::Eb::c175::Ec::Ed::Ee::Ef::Eh::Ei::c182::c183::Ej::Em::En::Eo::Ep::Es::Et::Eu::Ew::c193::c194::Ey::c196::Ez::c198::EC::ED::c201::EF::c203::EG::EH::c206::EI::c208::EJ::c210::EK::c212::c213::EL::EM::EO::EP::c218::ER::ES::ET::c222::EU::EW::EX::c226::c227::c228::c229::EY::EZ::c232::c233::c234::Fa::c236::Fb::Fe::Fg::Fh::Fj::Fp::Fq::Fv::Fz::FB::FC::FD::FH::FI::FK::FM::FN::[]),[]⟩ wq:=by
 have z1:=hz.i;have p1:=h.po.c1;have hbl:=h.po.lt;have hgl:=h.lt;have hyl:=h.r.lt;have g1:=h.rc.2.1;have H:=aj h;have HF:=aj hf;have HY:=aj hz;have HG:=aj hg;have HP:=aj hput;clear h hf hz hg hput;conv=>arg 2;whnf
 go_upto_region 34 with fail
 go_cut [213] (λv wx=>v=.bool (decide (z.i.size≠0))/\wx=wq)
 case first =>
  clear H HF HY HG HP;by_cases hi:z.i.size=0
  ·have hd:z.i.data.toList=[]:=ajZ (by simpa using hi);have hie:z.i=⟨#[]⟩:=by apply akQ;exact amx.1 (by rw[hd])
   have E:=aj (show decide (z.i.size≠0)=false from ajd (by simpa using hi));rw[hie] at p1;clear hd hi;go_wp2_with fail;go_meet
   exact⟨by rw[ah E];try rfl,rfl⟩
  ·have hne:(!z.i.toList.isEmpty)=true:=by
    rw[akd]
    cases hl:z.i.data.toList with
    | nil=>exact absurd (by have:=congrArg List.length hl;simpa using this) hi
    | cons u us=>rfl
   have hne2:(!z.i.data.toList.isEmpty)=true:=by rw[<-akd];exact hne
   have hn3:z.i.toList≠[]:=λe=>by rw[e] at hne;cases hne
   have E:=aj (show decide (z.i.size≠0)=true from ajg hi);go_wp2_with fail;go_meet
   exact⟨by rw[ah E];try first|rfl|(rw[hne2])|(rw[hne]),rfl⟩
 case rest =>
  obtain⟨rfl,hwx⟩:=hcut;rw[hwx];clear hwx;go_upto_if 213 with fail
  go_cut [] (λwx=>Hid (Pbg F0 Cs w wo wx B y x d a c P m size z b g rr ⟨st1.es,st1.s,oL st1.ids z.i now rr.q⟩))
  case first =>
   by_cases hi:z.i.size=0
   ·have e1:decide (z.i.size≠0)=false:=ajd (by simpa using hi);have Ur:oL st1.ids z.i now rr.q=st1.ids:=by unfold oL;rw[if_pos hi]
    rw[e1];have HI2:=aj Ur;clear e1 Ur hi;go_wp2_with fail;go_meet
    rw[ah HI2];exact H
   ·have e1:decide (z.i.size≠0)=true:=ajg hi;have Ur:oL st1.ids z.i now rr.q=st1.ids++[⟨z.i,now,rr.q⟩]:=by unfold oL;rw[if_neg hi]
    rw[e1];have HI2:=aj Ur;have hd:Below wq.heap.size wq wq.drew:=(ajb _ _).drew;obtain⟨a1,n,cp,a',n',cp',w8,y1,y2,y3,y4,y5,y6,y7⟩:=((ah H).r.below hd).aik ⟨z.i,now,rr.q⟩ FP hB;have HE:=aj (show Pbg F0 Cs w wo (w8.setCell ⟨y,11,none⟩ (.slice a' n' cp')) B y x d a c P m size z b g rr ⟨st1.es,st1.s,st1.ids++[⟨z.i,now,rr.q⟩]⟩ from(ah H).to y6 y7);have y1':wq.cell? ⟨y,11,none⟩=some (.slice a1 n cp):=y1;have y2':(Builtin.append_ #[44,44] 44 #[.slice a1 n cp,.slice (some ⟨wq.heap.size,0,none⟩) 1 1]).run prog (wq.alloc (.cells #[.string z.i,.int .i64 now,.int .i64 rr.q] 135)).drew=.ok (.slice a' n' cp') w8:=y2
    have afD:(wq.alloc (.cells #[.string z.i,.int .i64 now,.int .i64 rr.q] 135)).cell? ⟨y,11,none⟩=some (.slice a1 n cp):=by rw[aku _ _ _ hyl];exact y1'
    have Y2:=aj y2';clear y1 y2 y2' y6 y7 e1 Ur hi hd H;go_wp2_with fail;go_region_law (refine sF rfl _ _ 44 44 rfl (.slice a1 n cp) _ (by simp[Act.eval]) (by simp[Act.eval]) (ah Y2) ?_)
    all_goals clear Y2 y1' afD
    all_goals go_wp2_with fail
    all_goals go_meet
    all_goals (rw[ah HI2];exact HE)
  case rest =>
   have F2:=aj (show Fit P m size ⟨st1.es,st1.s,oL st1.ids z.i now rr.q⟩ from(ah HF).more (λk hk=>Ar (x:=z) (ah HF).xU hq k hk));refine(show ∀(a':Act) (w':World),Code.wp prog (Bd Tryz.f31 14) (bodyPost prog Tryz.f31 (mD F0 Cs w wo B y x d a c P m size now z st)) a' w'->_ from by assumption) _ _ ?_;exact ail (ah hcut) (ah F2) hB (ah HY) (ah HG) (ah HP) _ _ _ _ _ _ _ _ _ _ _ _ _ _ _ _ _ _ _ _ _ _ _ _ _ _ _ _ _ _ _ _ _ _ _ _ _ _ _ _ _ _ _ _ _ _ _ _ _ _ _ _ _ _ _ _ _ _ _ _ _ _ _ _ _ _ _ _ _ _ _ _ _ _ _ _ _ _ _ _ _ _ _ _ _ _ _ _ _ _ _ _ _ _ _ _ _ _ _ _ _ _ _ _ _ _ _ _ _ _ _ _ _ _ _ _ _ _ _ _ _ _ _ _ _ _ _ _ _ _ _ _ _ _ _ _ _ _ _ _ _ _ _ _ _ _ _ _ _ _ _ _ _ _ _ _ _ _ _ _ _ _ _ _ _ _ _ _ _ _ _ _ _ _ _ _ _ _ _ _ _ _ _ _ _ _ _ _ _ _ _ _ _ _ _ _ _ _ _ _ _ _ _ _ _ _ _ _ _ _ _ _ _ _ _ _ _ _ _ _ _ _ _ _ _ _ _ _ _ _ _ _ _ _ _ _ _ _ _ _ _ _ _ _ _ _ _ _ _ _
end
section
variable {F0 Cs:Nat->Prop}{w wo wq:World}{B y x d:Nat}{a:Option Addr}{c:Nat}{P:Pn.cu}{m size now:Int}{z:Po}{b g:Nat}{rr:Rc}{st st1:dW}
theorem aio (h:Pbw F0 Cs w wo wq B y x d a c P m size z b st1)(hf:Fit P m size st1)(hB:B<=w.heap.size)(FP:st1.ids.length<=1000)(hz:dZ z)(hg:dn now 0 1099511627776=true/\-1<=z.x/\0<=z.ro/\z.ro<=2)(hput:eX P m size now z st=l9 m size now z st1.ids st1.es st1.s)(c2 c3 c4 c6 c7 c8 c9 Gu Ku c12 c13 c14 c15 c16 c17 c18 c19 c20 c21 c22 c23 c24 c25 c26 c27 c28 c29 c30 c31 c32 c33 c34 c35 c36 c37 c38 c39 c40 c41 c42 c43 c44 c45 c46 c47 c48 c49 c50 c51 c52 c53 c54 c55 c56 c57 c58 c59 c60 c61 c62 c63 c64 c65 c66 c67 c68 c69 c70 c71 c72 c73 c74 c75 c76 c77 c78 c79 c80 c81 c82 c83 c84 c85 c86 c87 c88 c89 c90 c91 c92 c93 c94 c95 c96 c97 c98 c99 CJ CO CP CQ CU c105 CV c107 CW c109 CZ Dc Df Dh Di Dj c116 c117 Dl c119 Dn Dp Dq Dt c124 Du Dv c127 Dw Dx c130 c131 Dy Dz DC DF DI DJ c138 c139 DK c141 DL c143 DN c145 c146 DR c148 DT DU DV c152 DW c154 DX c156 c157 DY c159 c160 DZ c162 D5 c164 D6 D7 c167 c168 D8 D9 c171 Ea c173 Eb c175 Ec Ed Ee Ef Eh Ei c182 c183 Ej Em En Eo Ep Es Et Eu Ew c193 c194 Ey c196 Ez c198 EC ED c201 EF c203 EG EH c206 EI c208 EJ c210 EK c212 c213 EL EM EO EP c218 ER ES ET c222 EU EW EX c226 c227 c228 c229 EY EZ c232 c233 c234 Fa c236 Fb Fe Fg Fh Fj Fp Fq Fv Fz FB FC FD FH FI FK FM FN:Value) :
 Code.wp prog (Bd Tryz.f31 11) (bodyPost prog Tryz.f31 (mD F0 Cs w wo B y x d a c P m size now z st)) ⟨List.toArray (.pointer (some ⟨y,0,none⟩)::.int .i64 now::c2::c3::c4::.pointer (some ⟨b,0,none⟩)::c6::c7::c8::c9::Gu::Ku::c12::c13::c14::c15::c16::c17::c18::c19::c20::c21::c22::c23::c24::c25::c26::c27::c28::c29::c30::c31::c32::c33::c34::c35::c36::c37::c38::c39::c40::c41::c42::c43::c44::c45::c46::c47::c48::c49::c50::c51::c52::c53::c54::c55::c56::c57::c58::c59::c60::c61::c62::c63::c64::c65::c66::c67::c68::c69::c70::c71::c72::c73::c74::c75::c76::c77::c78::c79::c80::c81::c82::c83::c84::c85::c86::c87::c88::c89::c90::c91::c92::c93::c94::c95::c96::c97::c98::c99::CJ::CO::CP::CQ::CU::c105::CV::c107::CW::c109::CZ::Dc::Df::Dh::Di::Dj::c116::c117::Dl::c119::Dn::Dp::Dq::Dt::c124::Du::Dv::c127::Dw::Dx::c130::c131::Dy::Dz::DC::DF::DI::DJ::c138::c139::DK::c141::DL::c143::DN::c145::c146::DR::c148::DT::DU::DV::c152::DW::c154::DX::c156::c157::DY::c159::c160::DZ::c162::D5::c164::D6::D7::c167::c168::D8::D9::c171::Ea::c173::Eb::c175::Ec::Ed::Ee::Ef::Eh::Ei::c182::c183::Ej::Em::En::Eo::Ep::Es::Et::Eu::Ew::c193::c194::Ey::c196::Ez::c198::EC::ED::c201::EF::c203::EG::EH::c206::EI::c208::EJ::c210::EK::c212::c213::EL::EM::EO::EP::c218::ER::ES::ET::c222::EU::EW::EX::c226::c227::c228::c229::EY::EZ::c232::c233::c234::Fa::c236::Fb::Fe::Fg::Fh::Fj::Fp::Fq::Fv::Fz::FB::FC::FD::FH::FI::FK::FM::FN::[]),[]⟩ wq:=by
 have hk:=hf.rY.ok;have hlast:=hk.last;obtain⟨L,hL⟩:∃L,L=st1.s.last:=⟨_,rfl⟩;obtain⟨ch,ar,cap,q1,q2,q3,q4,q5,q6,_,q8,q9⟩:=h.r.reads;rw[<-hL] at q4 hlast;obtain⟨l0,l1⟩:=hlast;have hyl:=h.r.lt;obtain⟨hbl,y0,y1,y2,y3,y4,y5⟩:=h.po;have H:=aj h;have HF:=aj hf;have HY:=aj hz;have HG:=aj hg;have HL:=aj hL;have HP:=aj hput;clear h hf hz hg hput hL hk q3 q5 q6 y1 y4 y5;conv=>arg 2;whnf
 go_upto_region 30 with fail
 go_cut [16] (λv wx=>v=.pointer (some ⟨wq.heap.size,0,none⟩)/\wx=(wq.alloc (.cells #[.int .i64 1,.int .i64 (L+1),.int .i64 now,.string z.s,.string z.h,.string z.d] 73)).drew)
 case first =>
  clear H HF HY HG HL HP;go_region
  go_wp2_with fail;go_meet
  exact⟨rfl,rfl⟩
 case rest =>
  obtain⟨rfl,hwx⟩:=hcut;rw[hwx];clear hwx q1 q2 q4 q8 q9 hyl hbl y0 y2 y3;obtain⟨rr,hrr⟩:∃rr,rr=gY (L+1) now z:=⟨_,rfl⟩;have b5:Below wq.heap.size wq (wq.alloc (.cells #[.int .i64 1,.int .i64 (L+1),.int .i64 now,.string z.s,.string z.h,.string z.d] 73)).drew:=((ajb _ _).alloc (Xc _) _).drew;have k5:At6 wq.heap.size rr (wq.alloc (.cells #[.int .i64 1,.int .i64 (L+1),.int .i64 now,.string z.s,.string z.h,.string z.d] 73)).drew:=by
   rw[hrr];exact⟨by simp[gY],by simp[gY],by simp[gY],by simp[gY],by simp[gY],by simp[gY]⟩
  have l5:wq.heap.size<(wq.alloc (.cells #[.int .i64 1,.int .i64 (L+1),.int .i64 now,.string z.s,.string z.h,.string z.d] 73)).drew.heap.size:=by simp
  obtain⟨W5,hW5⟩:∃W5,W5=(wq.alloc (.cells #[.int .i64 1,.int .i64 (L+1),.int .i64 now,.string z.s,.string z.h,.string z.d] 73)).drew:=⟨_,rfl⟩;rw[<-hW5] at b5 k5 l5 ⊢;obtain⟨g,hgq⟩:∃g,g=wq.heap.size:=⟨_,rfl⟩;have r5:=(ah H).r.lF (jR:=λk=>(Cs k\/k=b)\/k=g) b5 (λk hk=>by
   rcases hk with u|u
   ·exact .inl u
   ·exact .inr ⟨by omega,by omega⟩)
  rw[<-hgq] at k5 l5 ⊢;have Uo:Pbg F0 Cs w wo W5 B y x d a c P m size z b g rr st1:=⟨r5,(ah H).po.below b5,k5,l5,(ah H).s.trans (((ah H).r.aZ (jR:=Cs) (λk hk=>.inl hk)).stay b5)⟩;have d5:Below W5.heap.size W5 W5.drew:=(ajb _ _).drew;have hp6:Pbg F0 Cs w wo W5.drew B y x d a c P m size z b g rr st1:=Uo.to (Uo.r.below d5) (Uo.r.stay d5);have hms:Small rr:=by rw[hrr];exact⟨(ah HY).s,(ah HY).h,(ah HY).d⟩
  have PD:=aj (hp6.r.vdo (ah HF) hB rr hms);obtain⟨_,_,_,v10,_⟩:=hp6.r.reads;have k6:At7 y 10 x g rr W5.drew:=⟨v10,hp6.rc⟩;have H6:=aj hp6;have HRR:=aj hrr;have hyl:=Uo.r.lt;clear H b5 k5 hW5 hgq r5 Uo hp6 d5 hms v10 hrr;go_wp2_with fail;go_region_held3 (At7 y 10 x g rr) (first|assumption|go_keep)
   (first
    | (go_at_call 33;refine(ah PD).mono ?_;rintro e w6 ⟨rfl,r6,s6⟩;obtain⟨_,_,_,u10,_⟩:=r6.reads;have k7:At7 y 10 x g rr w6:=⟨u10,(ah H6).rc.stay s6 (.inr rfl)⟩;have H7:=aj ((ah H6).to r6 s6);clear r6 s6))
  clear k6 PD H6;obtain⟨E,hE⟩:∃E,iJ st1.es st1.s m size rr=E:=⟨_,rfl⟩;rw[hE];have HE:=aj hE;have HM:=aj (show rr=gY (st1.s.last+1) now z from by rw[ah HRR,ah HL]);clear hE;by_cases h0:E=0
  ·have hz0:iJ st1.es st1.s m size (gY (st1.s.last+1) now z)=0:=by rw[<-ah HM,ah HE];exact h0
   have Ba:=aj (J8 (m:=m) (size:=size) (st:=st1) (now:=now) (y:=z) hz0 rfl);rw[<-ah HM] at Ba;have hqq:rr.q=L+1:=by rw[ah HRR];rfl
   rw[<-ah HL,<-hqq] at Ba;have hq1:1<=rr.q:=by omega
   subst h0;clear k7 hyl;go_upto_if 209 with fail
   go_cut [] (λwx=>wx=w6)
   case first =>
    go_wp2_with fail;go_meet
    rfl
   case rest =>
    rw[hcut];refine(show ∀(a':Act) (w':World),Code.wp prog (Bd Tryz.f31 13) (bodyPost prog Tryz.f31 (mD F0 Cs w wo B y x d a c P m size now z st)) a' w'->_ from by assumption) _ _ ?_;exact ain (st1:=pX m size st1 rr) (ah H7) ((ah HF).did rr) hB FP (ah HY) (ah HG) hq1 ((ah HP).trans (ah Ba)) _ _ _ _ _ _ _ _ _ _ _ _ _ _ _ _ _ _ _ _ _ _ _ _ _ _ _ _ _ _ _ _ _ _ _ _ _ _ _ _ _ _ _ _ _ _ _ _ _ _ _ _ _ _ _ _ _ _ _ _ _ _ _ _ _ _ _ _ _ _ _ _ _ _ _ _ _ _ _ _ _ _ _ _ _ _ _ _ _ _ _ _ _ _ _ _ _ _ _ _ _ _ _ _ _ _ _ _ _ _ _ _ _ _ _ _ _ _ _ _ _ _ _ _ _ _ _ _ _ _ _ _ _ _ _ _ _ _ _ _ _ _ _ _ _ _ _ _ _ _ _ _ _ _ _ _ _ _ _ _ _ _ _ _ _ _ _ _ _ _ _ _ _ _ _ _ _ _ _ _ _ _ _ _ _ _ _ _ _ _ _ _ _ _ _ _ _ _ _ _ _ _ _ _ _ _ _ _ _ _ _ _ _ _ _ _ _ _ _ _ _ _ _ _ _ _ _ _ _ _ _ _ _ _ _ _ _ _ _ _ _ _ _ _ _ _ _ _ _ _
  ·have Ba:=aj (YP (m:=m) (size:=size) (st:=st1) (now:=now) (y:=z) (by rw[<-ah HM,ah HE];exact h0));rw[<-ah HM,ah HE] at Ba;have hb:=YO (by rw[ah HE];exact h0:iJ st1.es st1.s m size rr≠0);have HZ:=(ah H7).out;rw[hb] at HZ;have HZ2:=aj HZ;have e5:(E !=0)=true:=by simpa using h0
   clear hb HZ H7 h0 k7 hyl;go_wp2_with fail;go_ret3;unfold mD;rw[ah HP,ah Ba];exact⟨rfl,ah HZ2⟩
end
section
variable {F0 Cs:Nat->Prop}{w wo wq:World}{B y x d:Nat}{a:Option Addr}{c:Nat}{P:Pn.cu}{m size now:Int}{z:Po}{b g:Nat}{rr:Rc}{st st1:dW}
theorem aip (h:Pbw F0 Cs w wo wq B y x d a c P m size z b st)(hf:Fit P m size st)(hB:B<=w.heap.size)(FP:st.ids.length<=1000)(hz:dZ z)(hg:dn now 0 1099511627776=true/\-1<=z.x/\0<=z.ro/\z.ro<=2)(hpre:mZ P now z=0)(hag:jM P now z st.ids=false)(hexp:¬(z.x≠-1/\z.x≠st.s.last))(c2 c3 c4 c6 c7 c8 c9 Gu Ku c12 c13 c14 c15 c16 c17 c18 c19 c20 c21 c22 c23 c24 c25 c26 c27 c28 c29 c30 c31 c32 c33 c34 c35 c36 c37 c38 c39 c40 c41 c42 c43 c44 c45 c46 c47 c48 c49 c50 c51 c52 c53 c54 c55 c56 c57 c58 c59 c60 c61 c62 c63 c64 c65 c66 c67 c68 c69 c70 c71 c72 c73 c74 c75 c76 c77 c78 c79 c80 c81 c82 c83 c84 c85 c86 c87 c88 c89 c90 c91 c92 c93 c94 c95 c96 c97 c98 c99 CJ CO CP CQ CU c105 CV c107 CW c109 CZ Dc Df Dh Di Dj c116 c117 Dl c119 Dn Dp Dq Dt c124 Du Dv c127 Dw Dx c130 c131 Dy Dz DC DF DI DJ c138 c139 DK c141 DL c143 DN c145 c146 DR c148 DT DU DV c152 DW c154 DX c156 c157 DY c159 c160 DZ c162 D5 c164 D6 D7 c167 c168 D8 D9 c171 Ea c173 Eb c175 Ec Ed Ee Ef Eh Ei c182 c183 Ej Em En Eo Ep Es Et Eu Ew c193 c194 Ey c196 Ez c198 EC ED c201 EF c203 EG EH c206 EI c208 EJ c210 EK c212 c213 EL EM EO EP c218 ER ES ET c222 EU EW EX c226 c227 c228 c229 EY EZ c232 c233 c234 Fa c236 Fb Fe Fg Fh Fj Fp Fq Fv Fz FB FC FD FH FI FK FM FN:Value) :
 Code.wp prog (Bd Tryz.f31 10) (bodyPost prog Tryz.f31 (mD F0 Cs w wo B y x d a c P m size now z st)) ⟨List.toArray (.pointer (some ⟨y,0,none⟩)::.int .i64 now::c2::c3::c4::.pointer (some ⟨b,0,none⟩)::c6::c7::c8::c9::Gu::Ku::c12::c13::c14::c15::c16::c17::c18::c19::c20::c21::c22::c23::c24::c25::c26::c27::c28::c29::c30::c31::c32::c33::c34::c35::c36::c37::c38::c39::c40::c41::c42::c43::c44::c45::c46::c47::c48::c49::c50::c51::c52::c53::c54::c55::c56::c57::c58::c59::c60::c61::c62::c63::c64::c65::c66::c67::c68::c69::c70::c71::c72::c73::c74::c75::c76::c77::c78::c79::c80::c81::c82::c83::c84::c85::c86::c87::c88::c89::c90::c91::c92::c93::c94::c95::c96::c97::c98::c99::CJ::CO::CP::CQ::CU::c105::CV::c107::CW::c109::CZ::Dc::Df::Dh::Di::Dj::c116::c117::Dl::c119::Dn::Dp::Dq::Dt::c124::Du::Dv::c127::Dw::Dx::c130::c131::Dy::Dz::DC::DF::DI::DJ::c138::c139::DK::c141::DL::c143::DN::c145::c146::DR::c148::DT::DU::DV::c152::DW::c154::DX::c156::c157::DY::c159::c160::DZ::c162::D5::c164::D6::D7::c167::c168::D8::D9::c171::Ea::c173::Eb::c175::Ec::Ed::Ee::Ef::Eh::Ei::c182::c183::Ej::Em::En::Eo::Ep::Es::Et::Eu::Ew::c193::c194::Ey::c196::Ez::c198::EC::ED::c201::EF::c203::EG::EH::c206::EI::c208::EJ::c210::EK::c212::c213::EL::EM::EO::EP::c218::ER::ES::ET::c222::EU::EW::EX::c226::c227::c228::c229::EY::EZ::c232::c233::c234::Fa::c236::Fb::Fe::Fg::Fh::Fj::Fp::Fq::Fv::Fz::FB::FC::FD::FH::FI::FK::FM::FN::[]),[]⟩ wq:=by
 have PR:=aj (aaZ (now:=now) h.r hf hB z hz);have aek:=aj (show eX P m size now z st=if (eY P m size now z st.es st.s).1≠0 then ((0,false,(eY P m size now z st.es st.s).1),⟨(eY P m size now z st.es st.s).2.1,(eY P m size now z st.es st.s).2.2,st.ids⟩) else l9 m size now z st.ids (eY P m size now z st.es st.s).2.1 (eY P m size now z st.es st.s).2.2 from by
  unfold eX;rw[if_neg (by rw[hpre];simp),if_neg (by rw[hag];simp),if_neg hexp])
 have aiq:=aj (show Fit P m size ⟨(eY P m size now z st.es st.s).2.1,(eY P m size now z st.es st.s).2.2,st.ids⟩ from⟨hf.plan,lS.eY hf.rY,hf.room,hf.size,hf.xU⟩);obtain⟨R,hR⟩:∃R,eY P m size now z st.es st.s=R:=⟨_,rfl⟩;rw[hR] at PR aek aiq;obtain⟨E,es1,s1⟩:=R;have H:=aj h;have HY:=aj hz;have HG:=aj hg;obtain⟨hbl,y0,y1,y2,y3,y4,y5⟩:=h.po;have hyl:=h.r.lt;clear h hf hz hg hpre hag hexp hR;conv=>arg 2;whnf
 go_wp2_with fail;refine(ah PR).mono ?_;rintro e w4 ⟨rfl,r4,t4⟩;have hp4:Pbw F0 Cs w wo w4 B y x d a c P m size z b ⟨es1,s1,st.ids⟩:=⟨r4,(ah H).po.stay t4 (.inr rfl),(ah H).s.trans (t4.aZ (λk hk=>.inl hk))⟩;have H4:=aj hp4;clear PR r4 t4 H hp4 hbl y0 y1 y2 y3 y4 y5 hyl;by_cases h0:E=0
 ·have HP2:=aj (show eX P m size now z st=l9 m size now z st.ids es1 s1 from by rw[ah aek,if_neg (by rw[h0];simp)]);subst h0;clear aek;go_upto_if 181 with fail
  go_cut [] (λwx=>wx=w4)
  case first =>
   go_wp2_with fail;go_meet
   rfl
  case rest =>
   rw[hcut];refine(show ∀(a':Act) (w':World),Code.wp prog (Bd Tryz.f31 11) (bodyPost prog Tryz.f31 (mD F0 Cs w wo B y x d a c P m size now z st)) a' w'->_ from by assumption) _ _ ?_;exact aio (ah H4) (ah aiq) hB FP (ah HY) (ah HG) (ah HP2) _ _ _ _ _ _ _ _ _ _ _ _ _ _ _ _ _ _ _ _ _ _ _ _ _ _ _ _ _ _ _ _ _ _ _ _ _ _ _ _ _ _ _ _ _ _ _ _ _ _ _ _ _ _ _ _ _ _ _ _ _ _ _ _ _ _ _ _ _ _ _ _ _ _ _ _ _ _ _ _ _ _ _ _ _ _ _ _ _ _ _ _ _ _ _ _ _ _ _ _ _ _ _ _ _ _ _ _ _ _ _ _ _ _ _ _ _ _ _ _ _ _ _ _ _ _ _ _ _ _ _ _ _ _ _ _ _ _ _ _ _ _ _ _ _ _ _ _ _ _ _ _ _ _ _ _ _ _ _ _ _ _ _ _ _ _ _ _ _ _ _ _ _ _ _ _ _ _ _ _ _ _ _ _ _ _ _ _ _ _ _ _ _ _ _ _ _ _ _ _ _ _ _ _ _ _ _ _ _ _ _ _ _ _ _ _ _ _ _ _ _ _ _ _ _ _ _ _ _ _ _ _ _ _ _ _ _ _ _ _ _ _ _ _ _ _ _ _ _ _ _
 ·have HP2:=aj (show eX P m size now z st=((0,false,E),⟨es1,s1,st.ids⟩) from by rw[ah aek,if_pos h0]);have e5:(E !=0)=true:=by simpa using h0
  have HZ:=aj (ah H4).out;clear aek h0;go_wp2_with fail;go_ret3;unfold mD;rw[ah HP2];exact⟨rfl,ah HZ⟩
end
section
variable {F0 Cs:Nat->Prop}{w wo wq:World}{B y x d:Nat}{a:Option Addr}{c:Nat}{P:Pn.cu}{m size now:Int}{z:Po}{b:Nat}{st:dW}
theorem aiT (h:Pbw F0 Cs w wo wq B y x d a c P m size z b st)(hf:Fit P m size st)(hB:B<=w.heap.size)(FP:st.ids.length<=1000)(hz:dZ z)(hg:dn now 0 1099511627776=true/\-1<=z.x/\0<=z.ro/\z.ro<=2)(hpre:mZ P now z=0)(hag:jM P now z st.ids=false)(c2 c3 c4 c6 c7 c8 c9 Gu Ku c12 c13 c14 c15 c16 c17 c18 c19 c20 c21 c22 c23 c24 c25 c26 c27 c28 c29 c30 c31 c32 c33 c34 c35 c36 c37 c38 c39 c40 c41 c42 c43 c44 c45 c46 c47 c48 c49 c50 c51 c52 c53 c54 c55 c56 c57 c58 c59 c60 c61 c62 c63 c64 c65 c66 c67 c68 c69 c70 c71 c72 c73 c74 c75 c76 c77 c78 c79 c80 c81 c82 c83 c84 c85 c86 c87 c88 c89 c90 c91 c92 c93 c94 c95 c96 c97 c98 c99 CJ CO CP CQ CU c105 CV c107 CW c109 CZ Dc Df Dh Di Dj c116 c117 Dl c119 Dn Dp Dq Dt c124 Du Dv c127 Dw Dx c130 c131 Dy Dz DC DF DI DJ c138 c139 DK c141 DL c143 DN c145 c146 DR c148 DT DU DV c152 DW c154 DX c156 c157 DY c159 c160 DZ c162 D5 c164 D6 D7 c167 c168 D8 D9 c171 Ea c173 Eb c175 Ec Ed Ee Ef Eh Ei c182 c183 Ej Em En Eo Ep Es Et Eu Ew c193 c194 Ey c196 Ez c198 EC ED c201 EF c203 EG EH c206 EI c208 EJ c210 EK c212 c213 EL EM EO EP c218 ER ES ET c222 EU EW EX c226 c227 c228 c229 EY EZ c232 c233 c234 Fa c236 Fb Fe Fg Fh Fj Fp Fq Fv Fz FB FC FD FH FI FK FM FN:Value) :
 Code.wp prog (Bd Tryz.f31 9) (bodyPost prog Tryz.f31 (mD F0 Cs w wo B y x d a c P m size now z st)) ⟨List.toArray (.pointer (some ⟨y,0,none⟩)::.int .i64 now::c2::c3::c4::.pointer (some ⟨b,0,none⟩)::c6::c7::c8::c9::Gu::Ku::c12::c13::c14::c15::c16::c17::c18::c19::c20::c21::c22::c23::c24::c25::c26::c27::c28::c29::c30::c31::c32::c33::c34::c35::c36::c37::c38::c39::c40::c41::c42::c43::c44::c45::c46::c47::c48::c49::c50::c51::c52::c53::c54::c55::c56::c57::c58::c59::c60::c61::c62::c63::c64::c65::c66::c67::c68::c69::c70::c71::c72::c73::c74::c75::c76::c77::c78::c79::c80::c81::c82::c83::c84::c85::c86::c87::c88::c89::c90::c91::c92::c93::c94::c95::c96::c97::c98::c99::CJ::CO::CP::CQ::CU::c105::CV::c107::CW::c109::CZ::Dc::Df::Dh::Di::Dj::c116::c117::Dl::c119::Dn::Dp::Dq::Dt::c124::Du::Dv::c127::Dw::Dx::c130::c131::Dy::Dz::DC::DF::DI::DJ::c138::c139::DK::c141::DL::c143::DN::c145::c146::DR::c148::DT::DU::DV::c152::DW::c154::DX::c156::c157::DY::c159::c160::DZ::c162::D5::c164::D6::D7::c167::c168::D8::D9::c171::Ea::c173::Eb::c175::Ec::Ed::Ee::Ef::Eh::Ei::c182::c183::Ej::Em::En::Eo::Ep::Es::Et::Eu::Ew::c193::c194::Ey::c196::Ez::c198::EC::ED::c201::EF::c203::EG::EH::c206::EI::c208::EJ::c210::EK::c212::c213::EL::EM::EO::EP::c218::ER::ES::ET::c222::EU::EW::EX::c226::c227::c228::c229::EY::EZ::c232::c233::c234::Fa::c236::Fb::Fe::Fg::Fh::Fj::Fp::Fq::Fv::Fz::FB::FC::FD::FH::FI::FK::FM::FN::[]),[]⟩ wq:=by
 have HP:=aj h;have HF:=aj hf;have HY:=aj hz;have HG:=aj hg;have uP:=aj hpre;have HA:=aj hag;obtain⟨ch,ar,cap,q1,q2,q3,q4,q5,q6,_,q8,q9⟩:=h.r.reads;have air:=h.r.lt;have ais:=h.po.lt;have p4:=h.po.c4;have B1:=aj (λn=>below_drewN (ajb wq.heap.size wq) n);clear h hf hz hg hpre hag q3 q5 q6;obtain⟨L,hL⟩:∃L,L=st.s.last:=⟨_,rfl⟩;rw[<-hL] at q4;have HL:=aj hL;clear hL;conv=>arg 2;whnf
 go_upto_region 25 with fail
 go_cut [175] (λv wx=>v=.bool (decide (z.x≠-1)&&decide (z.x≠L))/\Hid (Below wq.heap.size wq wx))
 case first =>
  clear HP HF HY HG uP HA HL;by_cases h1:z.x=-1
  ·have E:=aj (show(decide (z.x≠-1)&&decide (z.x≠L))=false from by rw[ajd (p:=z.x≠-1) (by simpa using h1)];rfl);rw[h1] at p4;clear h1;go_quiet (fail)
   first|go_meet|(go_wp2_with fail;go_meet)
   exact⟨by rw[ah E],aj (ah B1 _)⟩
  ·have e1:(z.x !=-1)=true:=by simpa using h1
   have E:=aj (show(decide (z.x≠-1)&&decide (z.x≠L))=(z.x !=L) from by rw[ajg (p:=z.x≠-1) h1,akn];by_cases e:z.x=L<;>simp[e]);clear h1;go_quiet (fail)
   first|go_meet|(go_wp2_with fail;go_meet)
   exact⟨by rw[ah E],aj (ah B1 _)⟩
 case rest =>
  obtain⟨rfl,HB⟩:=hcut;have HP2:=aj ((ah HP).below (ah HB));clear HP HB q1 q2 q4 q8 q9 air ais p4 B1;by_cases hx:z.x≠-1/\z.x≠L
  ·have e1:(decide (z.x≠-1)&&decide (z.x≠L))=true:=by rw[ajg hx.1,ajg hx.2];rfl
   rw[e1];have HR:=aj (show eX P m size now z st=((0,false,9),st) from by
    unfold eX;rw[if_neg (by rw[ah uP];simp),if_neg (by rw[ah HA];simp),if_pos (by rw[<-ah HL];exact hx)])
   have HZ:=aj (ah HP2).out;clear hx e1;go_wp2_with fail;go_ret3;unfold mD;rw[ah HR];exact⟨rfl,ah HZ⟩
  ·have e1:(decide (z.x≠-1)&&decide (z.x≠L))=false:=by
    by_cases u:z.x=-1
    ·rw[ajd (p:=z.x≠-1) (by simpa using u)];rfl
    ·have v:z.x=L:=aju (λv=>hx ⟨u,v⟩);rw[ajd (p:=z.x≠L) (by simpa using v)];simp
   rw[e1];go_upto_if 175 with fail
   go_cut [] (λwx=>wx=wc)
   case first =>
    go_wp2_with fail;go_meet
    rfl
   case rest =>
    rw[hcut];refine(show ∀(a':Act) (w':World),Code.wp prog (Bd Tryz.f31 10) (bodyPost prog Tryz.f31 (mD F0 Cs w wo B y x d a c P m size now z st)) a' w'->_ from by assumption) _ _ ?_;exact aip (ah HP2) (ah HF) hB FP (ah HY) (ah HG) (ah uP) (ah HA) (by rw[<-ah HL];exact hx) _ _ _ _ _ _ _ _ _ _ _ _ _ _ _ _ _ _ _ _ _ _ _ _ _ _ _ _ _ _ _ _ _ _ _ _ _ _ _ _ _ _ _ _ _ _ _ _ _ _ _ _ _ _ _ _ _ _ _ _ _ _ _ _ _ _ _ _ _ _ _ _ _ _ _ _ _ _ _ _ _ _ _ _ _ _ _ _ _ _ _ _ _ _ _ _ _ _ _ _ _ _ _ _ _ _ _ _ _ _ _ _ _ _ _ _ _ _ _ _ _ _ _ _ _ _ _ _ _ _ _ _ _ _ _ _ _ _ _ _ _ _ _ _ _ _ _ _ _ _ _ _ _ _ _ _ _ _ _ _ _ _ _ _ _ _ _ _ _ _ _ _ _ _ _ _ _ _ _ _ _ _ _ _ _ _ _ _ _ _ _ _ _ _ _ _ _ _ _ _ _ _ _ _ _ _ _ _ _ _ _ _ _ _ _ _ _ _ _ _ _ _ _ _ _ _ _ _ _ _ _ _ _ _ _ _ _ _ _ _ _ _ _ _ _ _ _ _ _ _ _
end
section
variable {F0 Cs:Nat->Prop}{w wo wq:World}{B y x d:Nat}{a:Option Addr}{c:Nat}{P:Pn.cu}{m size now:Int}{z:Po}{b:Nat}{st:dW}
theorem aiU (h:Pbw F0 Cs w wo wq B y x d a c P m size z b st)(hf:Fit P m size st)(hB:B<=w.heap.size)(FP:st.ids.length<=1000)(hz:dZ z)(hg:dn now 0 1099511627776=true/\-1<=z.x/\0<=z.ro/\z.ro<=2)(hpre:mZ P now z=0)(c2 c3 c4 c6 c7 c8 c9 Gu Ku c12 c13 c14 c15 c16 c17 c18 c19 c20 c21 c22 c23 c24 c25 c26 c27 c28 c29 c30 c31 c32 c33 c34 c35 c36 c37 c38 c39 c40 c41 c42 c43 c44 c45 c46 c47 c48 c49 c50 c51 c52 c53 c54 c55 c56 c57 c58 c59 c60 c61 c62 c63 c64 c65 c66 c67 c68 c69 c70 c71 c72 c73 c74 c75 c76 c77 c78 c79 c80 c81 c82 c83 c84 c85 c86 c87 c88 c89 c90 c91 c92 c93 c94 c95 c96 c97 c98 c99 CJ CO CP CQ CU c105 CV c107 CW c109 CZ Dc Df Dh Di Dj c116 c117 Dl c119 Dn Dp Dq Dt c124 Du Dv c127 Dw Dx c130 c131 Dy Dz DC DF DI DJ c138 c139 DK c141 DL c143 DN c145 c146 DR c148 DT DU DV c152 DW c154 DX c156 c157 DY c159 c160 DZ c162 D5 c164 D6 D7 c167 c168 D8 D9 c171 Ea c173 Eb c175 Ec Ed Ee Ef Eh Ei c182 c183 Ej Em En Eo Ep Es Et Eu Ew c193 c194 Ey c196 Ez c198 EC ED c201 EF c203 EG EH c206 EI c208 EJ c210 EK c212 c213 EL EM EO EP c218 ER ES ET c222 EU EW EX c226 c227 c228 c229 EY EZ c232 c233 c234 Fa c236 Fb Fe Fg Fh Fj Fp Fq Fv Fz FB FC FD FH FI FK FM FN:Value) :
 Code.wp prog (Bd Tryz.f31 8) (bodyPost prog Tryz.f31 (mD F0 Cs w wo B y x d a c P m size now z st)) ⟨List.toArray (.pointer (some ⟨y,0,none⟩)::.int .i64 now::c2::c3::c4::.pointer (some ⟨b,0,none⟩)::c6::c7::c8::c9::Gu::Ku::c12::c13::c14::c15::c16::c17::c18::c19::c20::c21::c22::c23::c24::c25::c26::c27::c28::c29::c30::c31::c32::c33::c34::c35::c36::c37::c38::c39::c40::c41::c42::c43::c44::c45::c46::c47::c48::c49::c50::c51::c52::c53::c54::c55::c56::c57::c58::c59::c60::c61::c62::c63::c64::c65::c66::c67::c68::c69::c70::c71::c72::c73::c74::c75::c76::c77::c78::c79::c80::c81::c82::c83::c84::c85::c86::c87::c88::c89::c90::c91::c92::c93::c94::c95::c96::c97::c98::c99::CJ::CO::CP::CQ::CU::c105::CV::c107::CW::c109::CZ::Dc::Df::Dh::Di::Dj::c116::c117::Dl::c119::Dn::Dp::Dq::Dt::c124::Du::Dv::c127::Dw::Dx::c130::c131::Dy::Dz::DC::DF::DI::DJ::c138::c139::DK::c141::DL::c143::DN::c145::c146::DR::c148::DT::DU::DV::c152::DW::c154::DX::c156::c157::DY::c159::c160::DZ::c162::D5::c164::D6::D7::c167::c168::D8::D9::c171::Ea::c173::Eb::c175::Ec::Ed::Ee::Ef::Eh::Ei::c182::c183::Ej::Em::En::Eo::Ep::Es::Et::Eu::Ew::c193::c194::Ey::c196::Ez::c198::EC::ED::c201::EF::c203::EG::EH::c206::EI::c208::EJ::c210::EK::c212::c213::EL::EM::EO::EP::c218::ER::ES::ET::c222::EU::EW::EX::c226::c227::c228::c229::EY::EZ::c232::c233::c234::Fa::c236::Fb::Fe::Fg::Fh::Fj::Fp::Fq::Fv::Fz::FB::FC::FD::FH::FI::FK::FM::FN::[]),[]⟩ wq:=by
 have p1:=h.po.c1;have z1:=hz.i;have hbl:=h.po.lt;have hyl:=h.r.lt;have ait:0<=now/\now<=1099511627776:=by simpa[dn] using hg.1
 have H:=aj h;have HF:=aj hf;have HY:=aj hz;have HG:=aj hg;have uP:=aj hpre;clear h hf hz hg hpre;conv=>arg 2;whnf
 have z9:=(ah H).r.plan.1.c9;have hW0:0<=nth P.v 7:=(uo (ah HF).plan).pos 7;have hW1:nth P.v 7<=100000:=wO (ah HF).plan 7;go_upto_region 16 with fail
 go_cut [108] (λv wx=>v=.bool (decide (z.i.size≠0)&&decide (nth P.v 7≠0))/\wx=wq)
 case first =>
  clear H HF HY HG uP;by_cases hi:z.i.size=0
  ·have hnil:z.i.toList=[]:=by rw[akd];exact ajZ (by simpa using hi)
   have hd:z.i.data.toList=[]:=ajZ (by simpa using hi);have hie:z.i=⟨#[]⟩:=by apply akQ;exact amx.1 (by rw[hd])
   have E:=aj (show(decide (z.i.size≠0)&&decide (nth P.v 7≠0))=false from by rw[ajd (p:=z.i.size≠0) (by simpa using hi)];rfl);rw[hie] at p1;clear hnil hd hi;go_wp2_with fail;go_meet
   exact⟨by rw[ah E],rfl⟩
  ·have hne:(!z.i.toList.isEmpty)=true:=by
    rw[akd]
    cases hl:z.i.data.toList with
    | nil=>exact absurd (by have:=congrArg List.length hl;simpa using this) hi
    | cons u us=>rfl
   have hne2:(!z.i.data.toList.isEmpty)=true:=by rw[<-akd];exact hne
   have hn3:z.i.toList≠[]:=λe=>by rw[e] at hne;cases hne
   have E:=aj (show(decide (z.i.size≠0)&&decide (nth P.v 7≠0))=(nth P.v 7 !=0) from by rw[ajg (p:=z.i.size≠0) hi,akn];by_cases e:nth P.v 7=0<;>simp[e]);go_wp2_with fail;go_meet
   exact⟨by rw[ah E],rfl⟩
 case rest =>
  obtain⟨rfl,hwx⟩:=hcut;rw[hwx];clear hwx p1;go_upto_if 108 with fail
  go_cut [] (λwx=>Hid (jM P now z st.ids=false)/\Hid (Below wq.heap.size wq wx))
  case first =>
   cases hc:(decide (z.i.size≠0)&&decide (nth P.v 7≠0)) with
   | false =>
    have HA:=aj (show jM P now z st.ids=false from by unfold jM pv;rw[<-ang,hc];rfl);clear hc H HF;go_wp2_with fail;go_meet
    exact⟨HA,aj (ajb _ _)⟩
   | true =>
    have HC:=aj hc;clear hc;go_wp2_with fail;go_loopw [13,14] (λqv iv wr=>∃(i:Nat) (Q:Int),qv=.int .i64 Q/\iv=.int .i64 i/\i<=st.ids.length/\Hid (Q=jX (st.ids.take i) z.i (now-nth P.v 7))/\Hid (Below wq.heap.size wq wr)) (λ_ iv _=>st.ids.length-(intOf iv).toNat)
    case atStart=>exact⟨0,0,rfl,rfl,ajm _,aj rfl,aj (ajb _ _)⟩
    case round =>
     obtain⟨i,Q,rfl,rfl,hi,HQ,HB⟩:=hrel;have hp:=(ah H).below (ah HB);obtain⟨ar,cap,k11,_,hcap,hcap2,hrow⟩:=hp.r.idc;have air:=hp.r.lt;have ais:=hp.po.lt;have q1:=hp.po.c1;have q9:=hp.r.plan.1.c9;have B1:=aj (λn=>below_drewN (ah HB) n);unfold maxLen at hcap2;clear hyl hbl z9;by_cases hlt:i<st.ids.length
     ·obtain⟨g,rfl,hgl,r0,r1,r2⟩:=hrow i hlt;have HS:=aj (aa0 (i:=z.i) (f:=now-nth P.v 7) hlt);obtain⟨k,hk⟩:∃k,k=kn st.ids i:=⟨_,rfl⟩;rw[<-hk] at r0 r1 r2 HS;have hi2:(i:Int)<(st.ids.length:Int):=by omega
      clear hp hrow hk H HB;generalize nth P.v 7=M at *;by_cases hs:k.i=z.i
      ·obtain⟨e2,e3⟩:=agN hs;have e1:decide (k.i=z.i)=true:=ajg hs;by_cases ha:now-M<=k.a
       ·have e4:decide (now-M<=k.a)=true:=ajg ha;have Wi:Hid (k.q=jX (st.ids.take (i+1)) z.i (now-M)):=aj (by rw[ah HS,if_pos ⟨hs,ha⟩]);clear HQ HS hs ha;go_wp2_with fail;go_quiet (fail)
        go_wp2_with fail;refine⟨⟨i+1,k.q,rfl,by go_num,by omega,Wi,aj (ah B1 _)⟩,?_⟩;simp[intOf];omega
       ·have e4:decide (now-M<=k.a)=false:=ajd ha;have Wi:Hid (Q=jX (st.ids.take (i+1)) z.i (now-M)):=aj (by rw[ah HS,if_neg (λu=>ha u.2)];exact ah HQ);clear HQ HS hs ha;go_wp2_with fail;go_quiet (fail)
        go_wp2_with fail;refine⟨⟨i+1,Q,rfl,by go_num,by omega,Wi,aj (ah B1 _)⟩,?_⟩;simp[intOf];omega
      ·obtain⟨e2,e3⟩:=agO hs;have e1:decide (k.i=z.i)=false:=ajd hs;have Wi:Hid (Q=jX (st.ids.take (i+1)) z.i (now-M)):=aj (by rw[ah HS,if_neg (λu=>hs u.1)];exact ah HQ);clear HQ HS hs;go_wp2_with fail;go_quiet (fail)
       go_wp2_with fail;refine⟨⟨i+1,Q,rfl,by go_num,by omega,Wi,aj (ah B1 _)⟩,?_⟩;simp[intOf];omega
     ·obtain rfl:i=st.ids.length:=by omega
      rw[ajs (Xc _)] at HQ;have HAg:=aj (show jM P now z st.ids=decide (0<Q) from by
       unfold jM pv;rw[<-ang,ah HC,akn,ah HQ])
      have HZ:=aj hp.out;clear hp hrow;by_cases hQ:0<Q
      ·have e4:decide (0<Q)=true:=ajg hQ;have HR:=aj (NC (m:=m) (size:=size) (ah uP) (by rw[ah HAg];exact e4));have HR2:=aj (show jX st.ids z.i (now-pv P 7)=Q from(ah HQ).symm);clear HAg HQ hQ;go_wp2_with fail;go_ret3;unfold mD;rw[ah HR,ah HR2];exact⟨rfl,ah HZ⟩
      ·have e4:decide (0<Q)=false:=ajd hQ;have HA:=aj (show jM P now z st.ids=false from by rw[ah HAg];exact e4);clear HAg HQ hQ;go_wp2_with fail;go_meet
       exact⟨HA,HB⟩
  case rest =>
   obtain⟨HA,HB⟩:=hcut;refine(show ∀(a':Act) (w':World),Code.wp prog (Bd Tryz.f31 9) (bodyPost prog Tryz.f31 (mD F0 Cs w wo B y x d a c P m size now z st)) a' w'->_ from by assumption) _ _ ?_;exact aiT ((ah H).below (ah HB)) (ah HF) hB FP (ah HY) (ah HG) (ah uP) (ah HA) _ _ _ _ _ _ _ _ _ _ _ _ _ _ _ _ _ _ _ _ _ _ _ _ _ _ _ _ _ _ _ _ _ _ _ _ _ _ _ _ _ _ _ _ _ _ _ _ _ _ _ _ _ _ _ _ _ _ _ _ _ _ _ _ _ _ _ _ _ _ _ _ _ _ _ _ _ _ _ _ _ _ _ _ _ _ _ _ _ _ _ _ _ _ _ _ _ _ _ _ _ _ _ _ _ _ _ _ _ _ _ _ _ _ _ _ _ _ _ _ _ _ _ _ _ _ _ _ _ _ _ _ _ _ _ _ _ _ _ _ _ _ _ _ _ _ _ _ _ _ _ _ _ _ _ _ _ _ _ _ _ _ _ _ _ _ _ _ _ _ _ _ _ _ _ _ _ _ _ _ _ _ _ _ _ _ _ _ _ _ _ _ _ _ _ _ _ _ _ _ _ _ _ _ _ _ _ _ _ _ _ _ _ _ _ _ _ _ _ _ _ _ _ _ _ _ _ _ _ _ _ _ _ _ _ _ _ _ _ _ _ _ _ _ _ _ _ _ _ _ _
end
section
variable {F0 Cs:Nat->Prop}{w wo wq:World}{B y x d:Nat}{a:Option Addr}{c:Nat}{P:Pn.cu}{m size now:Int}{z:Po}{b:Nat}{st:dW}
theorem aiV (h:Pbw F0 Cs w wo wq B y x d a c P m size z b st)(hf:Fit P m size st)(hB:B<=w.heap.size)(FP:st.ids.length<=1000)(hz:dZ z)(hg:dn now 0 1099511627776=true/\-1<=z.x/\0<=z.ro/\z.ro<=2)(hok:aG false z.s=0)(ht:pK P z.s=true)(c2 c3 c4 c6 c7 c8 c9 Gu Ku c13 c14 c15 c16 c17 c18 c19 c20 c21 c22 c23 c24 c25 c26 c27 c28 c29 c30 c31 c32 c33 c34 c35 c36 c37 c38 c39 c40 c41 c42 c43 c44 c45 c46 c47 c48 c49 c50 c51 c52 c53 c54 c55 c56 c57 c58 c59 c60 c61 c62 c63 c64 c65 c66 c67 c68 c69 c70 c71 c72 c73 c74 c75 c76 c77 c78 c79 c80 c81 c82 c83 c84 c85 c86 c87 c88 c89 c90 c91 c92 c93 c94 c95 c96 c97 c98 c99 CJ CO CP CQ CU c105 CV c107 CW c109 CZ Dc Df Dh Di Dj c116 c117 Dl c119 Dn Dp Dq Dt c124 Du Dv c127 Dw Dx c130 c131 Dy Dz DC DF DI DJ c138 c139 DK c141 DL c143 DN c145 c146 DR c148 DT DU DV c152 DW c154 DX c156 c157 DY c159 c160 DZ c162 D5 c164 D6 D7 c167 c168 D8 D9 c171 Ea c173 Eb c175 Ec Ed Ee Ef Eh Ei c182 c183 Ej Em En Eo Ep Es Et Eu Ew c193 c194 Ey c196 Ez c198 EC ED c201 EF c203 EG EH c206 EI c208 EJ c210 EK c212 c213 EL EM EO EP c218 ER ES ET c222 EU EW EX c226 c227 c228 c229 EY EZ c232 c233 c234 Fa c236 Fb Fe Fg Fh Fj Fp Fq Fv Fz FB FC FD FH FI FK FM FN:Value) :
 Code.wp prog (Bd Tryz.f31 7) (bodyPost prog Tryz.f31 (mD F0 Cs w wo B y x d a c P m size now z st)) ⟨List.toArray (.pointer (some ⟨y,0,none⟩)::.int .i64 now::c2::c3::c4::.pointer (some ⟨b,0,none⟩)::c6::c7::c8::c9::Gu::Ku::.int .i64 ((z.h.size:Int)+(z.d.size:Int))::c13::c14::c15::c16::c17::c18::c19::c20::c21::c22::c23::c24::c25::c26::c27::c28::c29::c30::c31::c32::c33::c34::c35::c36::c37::c38::c39::c40::c41::c42::c43::c44::c45::c46::c47::c48::c49::c50::c51::c52::c53::c54::c55::c56::c57::c58::c59::c60::c61::c62::c63::c64::c65::c66::c67::c68::c69::c70::c71::c72::c73::c74::c75::c76::c77::c78::c79::c80::c81::c82::c83::c84::c85::c86::c87::c88::c89::c90::c91::c92::c93::c94::c95::c96::c97::c98::c99::CJ::CO::CP::CQ::CU::c105::CV::c107::CW::c109::CZ::Dc::Df::Dh::Di::Dj::c116::c117::Dl::c119::Dn::Dp::Dq::Dt::c124::Du::Dv::c127::Dw::Dx::c130::c131::Dy::Dz::DC::DF::DI::DJ::c138::c139::DK::c141::DL::c143::DN::c145::c146::DR::c148::DT::DU::DV::c152::DW::c154::DX::c156::c157::DY::c159::c160::DZ::c162::D5::c164::D6::D7::c167::c168::D8::D9::c171::Ea::c173::Eb::c175::Ec::Ed::Ee::Ef::Eh::Ei::c182::c183::Ej::Em::En::Eo::Ep::Es::Et::Eu::Ew::c193::c194::Ey::c196::Ez::c198::EC::ED::c201::EF::c203::EG::EH::c206::EI::c208::EJ::c210::EK::c212::c213::EL::EM::EO::EP::c218::ER::ES::ET::c222::EU::EW::EX::c226::c227::c228::c229::EY::EZ::c232::c233::c234::Fa::c236::Fb::Fe::Fg::Fh::Fj::Fp::Fq::Fv::Fz::FB::FC::FD::FH::FI::FK::FM::FN::[]),[]⟩ wq:=by
 have hpo:=h.po;have hpl:=h.r.plan.1;have ael:=aj (agb (P:=P) hg hok ht);have p1:=hpo.c1;have hbl:=hpo.lt;have hyl:=h.r.lt;have k6:=hpl.c6;have z1:=hz.i;have z2:=hz.h;have z3:=hz.d;have ait:0<=now/\now<=1099511627776:=by simpa[dn] using hg.1
 have H:=aj h;have HF:=aj hf;have HY:=aj hz;have HG:=aj hg;have HOk:=aj hok;clear h hf hz hg hok ht hpo hpl;conv=>arg 2;whnf
 go_upto_region 14 with fail
 go_cut [97] (λv wx=>v=.bool (aa1 P z)/\wx=wq)
 case first =>
  have HBB:Hid (aa1 P z=(decide (256<(z.h.size:Int)+(z.d.size:Int))||((decide (nth P.v 4≠0)&&decide (nth P.v 4<(z.h.size:Int)+(z.d.size:Int)))||decide ((16:Int)<(z.i.size:Int))))):=aj (by
   unfold aa1 pv;rw[show((z.h.size+z.d.size:Nat):Int)=(z.h.size:Int)+(z.d.size:Int) by omega];congr 1
   ·exact decide_eq_decide.2 (by omega)
   ·congr 1
    exact decide_eq_decide.2 (by omega))
  clear ael H HF;generalize aa1 P z=Bg at *;generalize nth P.v 4=M at *;by_cases h1:256<(z.h.size:Int)+(z.d.size:Int)
  ·have e1:decide (256<(z.h.size:Int)+(z.d.size:Int))=true:=ajg h1;have E:=aj (show Bg=true from by rw[ah HBB,e1];rfl);clear HBB;go_wp2_with fail;go_meet
   exact⟨by rw[ah E],rfl⟩
  ·have e1:decide (256<(z.h.size:Int)+(z.d.size:Int))=false:=ajd h1;by_cases h2:M=0
   ·have E:=aj (show Bg=decide ((16:Int)<(z.i.size:Int)) from by rw[ah HBB,e1,h2];rfl);rw[h2] at k6;clear HBB h2;go_wp2_with fail;go_meet
    exact⟨by rw[ah E],rfl⟩
   ·have e2:(M !=0)=true:=by simpa using h2
    by_cases h3:M<(z.h.size:Int)+(z.d.size:Int)
    ·have e3:decide (M<(z.h.size:Int)+(z.d.size:Int))=true:=ajg h3;have E:=aj (show Bg=true from by rw[ah HBB,e1,e3];simp[h2]);clear HBB h2;go_wp2_with fail;go_meet
     exact⟨by rw[ah E],rfl⟩
    ·have e3:decide (M<(z.h.size:Int)+(z.d.size:Int))=false:=ajd h3;have E:=aj (show Bg=decide ((16:Int)<(z.i.size:Int)) from by rw[ah HBB,e1,e3];simp);clear HBB h2;go_wp2_with fail;go_meet
     exact⟨by rw[ah E],rfl⟩
 case rest =>
  obtain⟨rfl,hwx⟩:=hcut;rw[hwx];clear hwx k6
  cases hbg:aa1 P z with
  | true =>
   have hq:mZ P now z=2:=by rw[ah ael,if_pos hbg]
   have HQ:=aj (Bc (m:=m) (size:=size) (st:=st) (show mZ P now z≠0 from by rw[hq];decide));have Wi:=aj hq;have HZ:=aj (ah H).out;clear H hq ael hbg;go_wp2_with fail;go_ret3;unfold mD;rw[ah HQ,ah Wi];exact⟨rfl,ah HZ⟩
  | false =>
   have uP:=aj (show mZ P now z=0 from by rw[ah ael,if_neg (by rw[hbg];decide)]);clear ael hbg;go_upto_if 97 with fail
   go_cut [] (λwx=>wx=wq)
   case first =>
    go_wp2_with fail;go_meet
    rfl
   case rest =>
    rw[hcut];refine(show ∀(a':Act) (w':World),Code.wp prog (Bd Tryz.f31 8) (bodyPost prog Tryz.f31 (mD F0 Cs w wo B y x d a c P m size now z st)) a' w'->_ from by assumption) _ _ ?_;exact aiU (ah H) (ah HF) hB FP (ah HY) (ah HG) (ah uP) _ _ _ _ _ _ _ _ _ _ _ _ _ _ _ _ _ _ _ _ _ _ _ _ _ _ _ _ _ _ _ _ _ _ _ _ _ _ _ _ _ _ _ _ _ _ _ _ _ _ _ _ _ _ _ _ _ _ _ _ _ _ _ _ _ _ _ _ _ _ _ _ _ _ _ _ _ _ _ _ _ _ _ _ _ _ _ _ _ _ _ _ _ _ _ _ _ _ _ _ _ _ _ _ _ _ _ _ _ _ _ _ _ _ _ _ _ _ _ _ _ _ _ _ _ _ _ _ _ _ _ _ _ _ _ _ _ _ _ _ _ _ _ _ _ _ _ _ _ _ _ _ _ _ _ _ _ _ _ _ _ _ _ _ _ _ _ _ _ _ _ _ _ _ _ _ _ _ _ _ _ _ _ _ _ _ _ _ _ _ _ _ _ _ _ _ _ _ _ _ _ _ _ _ _ _ _ _ _ _ _ _ _ _ _ _ _ _ _ _ _ _ _ _ _ _ _ _ _ _ _ _ _ _ _ _ _ _ _ _ _ _ _ _ _ _ _ _ _ _ _
end
section
variable {F0 Cs:Nat->Prop}{w wo W W':World}{B y x d:Nat}{a:Option Addr}{c:Nat}{P:Pn.cu}{m size:Int}{st:dW}
theorem Qb (h:Rr F0 Cs w wo B y x d a c P m size st)(hf:Fit P m size st)(hB:B<=w.heap.size)(FP:st.ids.length<=1000)(now:Int)(z:Po)(hz:dZ z) :
 Calls prog 31 #[.pointer (some ⟨y,0,none⟩),.int .i64 now,G5 z] wo (mD F0 Cs w wo B y x d a c P m size now z st):=by
 have b0:Below wo.heap.size wo (wo.alloc (jq z)):=(ajb _ _).alloc (Xc _) _;have r0:=h.lF (jR:=λi=>Cs i\/i=wo.heap.size) b0 (λk hk=>by
  rcases hk with u|u
  ·exact .inl u
  ·exact .inr ⟨by omega,by subst u;simp⟩)
 have s0:=h.stay b0;have p0:=qP.new wo z;have hb0:wo.heap.size<(wo.alloc (jq z)).heap.size:=by simp
 have HW:=aj (λ(W:World) (hW:Below (wo.alloc (jq z)).heap.size (wo.alloc (jq z)) W)=>show Rr F0 (λk=>Cs k\/k=wo.heap.size) w W B y x d a c P m size st/\qP W wo.heap.size z/\aO Cs wo W from⟨r0.below hW,p0.below hW,s0.trans ⟨hW.size,λk hk=>(r0.stay hW).2 k (.inl hk)⟩⟩);have dR:=aj (λ(W:World) (hW:Below (wo.alloc (jq z)).heap.size (wo.alloc (jq z)) W)=>show Rr F0 Cs w W B y x d a c P m size st/\aO Cs wo W from⟨(r0.below hW).aZ (λk hk=>.inl hk),s0.trans ⟨hW.size,λk hk=>(r0.stay hW).2 k (.inl hk)⟩⟩);have HF:=aj hf;have HY:=aj hz;obtain⟨_,y0,y1,y2,y3,y4,y5⟩:=p0;have g4:(wo.alloc (jq z)).cell? ⟨wo.heap.size,4,none⟩=some (.int .i64 z.x):=y4
 have g5:(wo.alloc (jq z)).cell? ⟨wo.heap.size,5,none⟩=some (.int .i64 z.ro):=y5;clear h hf hz r0 b0 s0 y1 y2 y3 hb0;go_enter func31,ntmps31;go_upto_region 1 with fail
 go_cut [33] (λv wx=>v=.bool (!(dn now 0 1099511627776&&(decide (-1<=z.x)&&dn z.ro 0 2)))/\wx=wo.alloc (jq z))
 case first =>
  clear HW dR HF HY
  cases hI:dn now 0 1099511627776 with
  | false =>
   have HI:=aj hI;clear hI;go_wp2_with (go_at_call 11;refine(jI _ _ _ _).mono ?_;rintro e w2 ⟨rfl,rfl⟩;rw[ah HI]);go_meet
   exact⟨by rw[ah HI];rfl,rfl⟩
  | true =>
   have HI:=aj hI;clear hI;by_cases hx:z.x < -1
   ·have e1:decide (z.x < -1)=true:=ajg hx;have E2:=aj (show decide (-1<=z.x)=false from ajd (by omega));go_wp2_with (go_at_call 11;refine(jI _ _ _ _).mono ?_;rintro e w2 ⟨rfl,rfl⟩;rw[ah HI]);go_meet
    exact⟨by rw[ah HI,ah E2];rfl,rfl⟩
   ·have e1:decide (z.x < -1)=false:=ajd hx;have E2:=aj (show decide (-1<=z.x)=true from ajg (by omega));clear hx;obtain⟨R,hR⟩:∃R,dn z.ro 0 2=R:=⟨_,rfl⟩;have HR:=aj hR;clear hR;go_wp2_with (go_at_call 11;refine(jI _ _ _ _).mono ?_;rintro e w2 ⟨rfl,rfl⟩;first|rw[ah HI]|rw[ah HR]);go_meet
    exact⟨by rw[ah HI,ah E2,ah HR];cases R<;>rfl,rfl⟩
 case rest =>
  obtain⟨rfl,rfl⟩:=hcut;clear g4 g5;by_cases hg:dn now 0 1099511627776=true/\-1<=z.x/\0<=z.ro/\z.ro<=2
  ·have hgb:(!(dn now 0 1099511627776&&(decide (-1<=z.x)&&dn z.ro 0 2)))=false:=by
    obtain⟨a1,a2,a3,a4⟩:=hg;rw[a1,ajg a2];unfold dn;rw[ajg a3,ajg a4];rfl
   rw[hgb];have HG:=aj hg;have ait:0<=now/\now<=1099511627776:=by simpa[dn] using hg.1
   have PS:=aj (fO z.s (wo.alloc (jq z)) (ah HY).s);obtain⟨E,hE⟩:∃E,aG false z.s=E:=⟨_,rfl⟩;rw[hE] at PS;have HE:=aj hE;clear hg hgb hE;go_wp2_with fail;refine(ah PS).mono ?_;rintro e w1 ⟨rfl,b1⟩;have B1:=aj b1;clear PS b1 y0;by_cases hE0:E=0
   ·subst hE0;obtain⟨hr1,aiW,_⟩:=ah HW w1 (ah B1);have HOk:=aj (ah HE);have HPl:=aj (Cm (ah HF).plan);have hnf:P.f.length<=4:=(Pn.tV (ah HF).plan).2.1;clear HE hr1 aiW;obtain⟨b,hb⟩:∃b,b=wo.heap.size:=⟨_,rfl⟩;obtain⟨W0,hW0⟩:∃W0,W0=wo.alloc (jq z):=⟨_,rfl⟩;go_wp2_with fail;rw[<-hb];rw[<-hW0] at B1;rw[<-hW0,<-hb] at HW;rw[<-hW0] at dR;clear hb hW0;go_loopw [10,11] (λtv iv wr=>∃(i:Nat) (T:Bool),tv=.bool T/\iv=.int .i64 i/\i<=P.f.length/\Hid (T=(P.f.take i).any (λf=>mX f z.s))/\Hid (Below W0.heap.size W0 wr)) (λ_ iv _=>P.f.length-(intOf iv).toNat)
    case atStart=>exact⟨0,false,rfl,rfl,ajm _,aj (by simp),B1⟩
    case round =>
     clear B1;obtain⟨i,T,rfl,rfl,hi,HT,HB⟩:=hrel;obtain⟨hr,hpo,_⟩:=ah HW wr (ah HB);obtain⟨hpl,hrow⟩:=hr.plan;have hyl:=hr.lt;have k1:=hpl.c1;by_cases hlt:i<P.f.length
     ·obtain⟨g,o,rfl,hgl,e1⟩:=hrow i hlt;have hfe:=ah HPl i hlt;have HTS:=aj (aej (q:=λf=>mX f z.s) hlt)
      cases T with
      | true =>
       have B2:=aj (λn=>below_drewN (ah HB) n);have HT2:Hid (true=(P.f.take (i+1)).any (λf=>mX f z.s)):=aj (by rw[ah HTS,<-ah HT];rfl);clear hr hpo hpl hrow HTS HT HB;go_wp2_with fail;go_quiet (fail)
       go_wp2_with fail;refine⟨⟨i+1,true,rfl,by go_num,by omega,HT2,aj (ah B2 _)⟩,?_⟩;simp[intOf];omega
      | false =>
       have PK:=aj (λ(W:World)=>tN (tk P.f i) z.s W (by have:=(Pn.VJ hfe).1;omega) (ah HY).s (sG hfe) (sG (ah HOk)));rw[Ju (ah HOk)] at PK;have HT2:Hid (mX (tk P.f i) z.s=(P.f.take (i+1)).any (λf=>mX f z.s)):=aj (by rw[ah HTS,<-ah HT];rfl);obtain⟨f,hf⟩:∃f,f=tk P.f i:=⟨_,rfl⟩;rw[<-hf] at e1 PK HT2;obtain⟨U,hU⟩:∃U,U=mX f z.s:=⟨_,rfl⟩;rw[<-hU] at PK HT2;have hbl:=hpo.lt;have k0:ahs y b (some ⟨g,o,none⟩) P.f.length c g (o+i) f z.s wr.drew:=⟨by simpa using k1,by simpa using e1,by simpa using hpo.c0⟩;have B2:=aj (λW' (hb':Below wr.drew.heap.size wr.drew W')=>ak (ah HB) ((ajb _ _).drew.trans hb'))
       have HK:=aj (λW' (hb':Below wr.drew.heap.size wr.drew W')=>show ahs y b (some ⟨g,o,none⟩) P.f.length c g (o+i) f z.s W' from⟨(hb'.cell (p:=⟨y,1,none⟩) hyl).trans k0.1,(hb'.cell (p:=⟨g,o+i,none⟩) hgl).trans k0.2.1,(hb'.cell (p:=⟨b,0,none⟩) hbl).trans k0.2.2⟩);have hi2:(i:Int)<(P.f.length:Int):=by omega
       clear hr hpo hpl hrow HTS HT HB hf hU hfe e1;go_wp2_with fail;go_region_held_law (ahs y b (some ⟨g,o,none⟩) P.f.length c g (o+i) f z.s) (first|assumption|go_keep)
        (first|(go_at_call 72;refine(ah PK _).mono ?_;rintro e w5 ⟨rfl,b5⟩;have B5:=aj (ah B2 _ b5);have k5:=ah HK _ b5))
       all_goals
        go_wp2_with fail
        refine⟨⟨i+1,U,rfl,by go_num,by omega,HT2,B5⟩,?_⟩
        simp[intOf];omega
     ·obtain rfl:i=P.f.length:=by omega
      rw[ajs (Xc _)] at HT;clear hr hrow hi;have HT2:Hid (T=pK P z.s):=aj (ah HT)
      cases T with
      | false =>
       have hq:mZ P now z=10:=by rw[sN (ah HG),if_neg (by rw[ah HOk];simp),if_pos (ah HT2).symm]
       have HQ:=aj (Bc (m:=m) (size:=size) (st:=st) (show mZ P now z≠0 from by rw[hq];decide));have Wi:=aj hq;have HZ:=aj (ah dR wr (ah HB));clear dR HW HT HT2 HPl hq;go_wp2_with fail;go_ret3;unfold mD;rw[ah HQ,ah Wi];exact⟨rfl,ah HZ⟩
      | true =>
       have hp7:Pbw F0 Cs w wo wr B y x d a c P m size z b st:=⟨(ah HW wr (ah HB)).1,(ah HW wr (ah HB)).2.1,(ah HW wr (ah HB)).2.2⟩;have H7:=aj hp7;have p2:=hpo.c2;have p3:=hpo.c3;have hbl:=hpo.lt;have z2:=(ah HY).h;have z3:=(ah HY).d;clear HT HPl hpl hpo hp7 HW dR;go_upto_region 13 with fail
       clear k1;go_cut [12] (λv wx=>v=.int .i64 ((z.h.size:Int)+(z.d.size:Int))/\wx=wr)
       case first =>
        go_wp2_with fail;go_meet
        exact⟨rfl,rfl⟩
       case rest =>
        obtain⟨rfl,hwx⟩:=hcut;rw[hwx];refine(show ∀(a':Act) (w':World),Code.wp prog (Bd Tryz.f31 7) (bodyPost prog Tryz.f31 (mD F0 Cs w wo B y x d a c P m size now z st)) a' w'->_ from by assumption) _ _ ?_;exact aiV (ah H7) (ah HF) hB FP (ah HY) (ah HG) (ah HOk) (ah HT2).symm _ _ _ _ _ _ _ _ _ _ _ _ _ _ _ _ _ _ _ _ _ _ _ _ _ _ _ _ _ _ _ _ _ _ _ _ _ _ _ _ _ _ _ _ _ _ _ _ _ _ _ _ _ _ _ _ _ _ _ _ _ _ _ _ _ _ _ _ _ _ _ _ _ _ _ _ _ _ _ _ _ _ _ _ _ _ _ _ _ _ _ _ _ _ _ _ _ _ _ _ _ _ _ _ _ _ _ _ _ _ _ _ _ _ _ _ _ _ _ _ _ _ _ _ _ _ _ _ _ _ _ _ _ _ _ _ _ _ _ _ _ _ _ _ _ _ _ _ _ _ _ _ _ _ _ _ _ _ _ _ _ _ _ _ _ _ _ _ _ _ _ _ _ _ _ _ _ _ _ _ _ _ _ _ _ _ _ _ _ _ _ _ _ _ _ _ _ _ _ _ _ _ _ _ _ _ _ _ _ _ _ _ _ _ _ _ _ _ _ _ _ _ _ _ _ _ _ _ _ _ _ _ _ _ _ _ _ _ _ _ _ _ _ _ _ _ _ _ _ _
   ·have HQ:=aj (Bc (m:=m) (size:=size) (st:=st) (show mZ P now z≠0 from by rw[sN (ah HG),if_pos (by rw[ah HE];exact hE0),ah HE];exact hE0));have Wi:=aj (show mZ P now z=E from by rw[sN (ah HG),if_pos (by rw[ah HE];exact hE0),ah HE]);have e5:(E !=0)=true:=by simpa using hE0
    have HZ:=aj (ah dR w1 (ah B1));clear HE dR HW;go_wp2_with fail;go_ret3;unfold mD;rw[ah HQ,ah Wi];exact⟨rfl,ah HZ⟩
  ·have hgb:(!(dn now 0 1099511627776&&(decide (-1<=z.x)&&dn z.ro 0 2)))=true:=by
    cases hb:(dn now 0 1099511627776&&(decide (-1<=z.x)&&dn z.ro 0 2)) with
    | false=>rfl
    | true =>
     exfalso;apply hg;unfold dn at hb ⊢;simpa using hb
   rw[hgb];have HQ:=aj (Bc (m:=m) (size:=size) (st:=st) (show mZ P now z≠0 from by rw[H8 hg];decide));have Wi:=aj (H8 (P:=P) hg);have HZ:=aj (ah dR _ (ajb _ _));clear dR HW hg hgb y0 y4 y5;go_wp2_with fail;go_ret3;unfold mD;rw[ah HQ,ah Wi];exact⟨rfl,ah HZ⟩
end
