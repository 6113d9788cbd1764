/- A part. -/
import Derived.Test.YtidekgipblnpkaaGreatDoorQ47
import Derived.Deep.LoopGhost
set_option maxRecDepth 100000
set_option maxHeartbeats 8000000
namespace Go.Proofs.YtidekgipblnpkaaGreatDoor
open Go.RowKit Go.Proofs.Tryz
namespace Dk
abbrev aeg (bn br y:Nat)(now M:Int)(w:World):Prop:=w.cell? ⟨bn,0,none⟩=some (.int .i64 now)/\w.cell? ⟨br,0,none⟩=some (.pointer (some ⟨y,0,none⟩))/\w.cell? ⟨y,4,none⟩=some (.int .i64 M)
theorem aeg.below {bn br y:Nat}{now M:Int}{w w':World}(h:aeg bn br y now M w)(h1:bn<w.heap.size)(h2:br<w.heap.size)(h3:y<w.heap.size)(hb:Below w.heap.size w w'):aeg bn br y now M w':=⟨(hb.cell (p:=⟨bn,0,none⟩) h1).trans h.1,(hb.cell (p:=⟨br,0,none⟩) h2).trans h.2.1,(hb.cell (p:=⟨y,4,none⟩) h3).trans h.2.2⟩
theorem aeh (r:Rc)(bn br y:Nat)(now M:Int)(w:World)(h:aeg bn br y now M w)(h1:bn<w.heap.size)(h2:br<w.heap.size)(h3:y<w.heap.size)(hn:0<=now/\now<=1099511627776)(hM:0<=M/\M<=100000) :
 Calls prog 82 #[.agg #[.int .i64 r.k,.int .i64 r.q,.int .i64 r.t,.string r.s,.string r.h,.string r.d],.pointer (some ⟨bn,0,none⟩),.pointer (some ⟨br,0,none⟩)] w λe w'=>e=.returned (.bool (decide (r.t<now-M)))/\Below w.heap.size w w':=by
 obtain⟨c1,c2,c3⟩:=h;have bA:Below w.heap.size w (w.alloc (.cells #[.int .i64 r.k,.int .i64 r.q,.int .i64 r.t,.string r.s,.string r.h,.string r.d] 73)):=(ajb _ _).alloc (Xc _) _;have BA:=aj (λn=>below_drewN bA n);clear bA;go_enter func82,ntmps82;go_wp2_with fail;go_quiet (fail)
 go_wp2_with fail;go_ret;exact⟨rfl,ah BA _⟩
theorem Xm (a:Option Addr)(cap:Nat)(l:List Rc)(bn br y:Nat)(now M:Int)(w:World)(hsl:vk w a l)(hl:l.length<=200)(h:aeg bn br y now M w)(h1:bn<w.heap.size)(h2:br<w.heap.size)(h3:y<w.heap.size)(hn:0<=now/\now<=1099511627776)(hM:0<=M/\M<=100000) :
 Calls prog 81 #[.slice a l.length cap,.func (.func 82) #[] #[.pointer (some ⟨bn,0,none⟩),.pointer (some ⟨br,0,none⟩)]] w λe w'=>((e=.returned (.int .i64 (-1))/\um l (now-M)=none)\/∃k:Nat,e=.returned (.int .i64 (k:Int))/\k<l.length/\um l (now-M)=some (rc l k))/\Below w.heap.size w w':=by
 have H:=aj h;have HS:=aj hsl;clear h hsl;go_enter func81,ntmps81;go_wp2;go_loopw [8] (λiv wr=>∃(i:Nat),iv=.int .i64 i/\i<=l.length/\Hid (∀k,k<i->¬(rc l k).t<now-M)/\Hid (Below w.heap.size w wr)) (λiv _=>l.length-(intOf iv).toNat)
 case atStart=>exact⟨0,rfl,ajm _,aj (λk hk=>absurd hk (ajG k)),aj (ajb _ _)⟩
 case round =>
  obtain⟨i,rfl,hi,hlo,HB⟩:=hrel;by_cases hlt:i<l.length
  ·obtain⟨g,o,rfl,s6⟩:=ah HS i hlt;have s7:=s6.below (ah HB) s6.lt;have hsz:=(ah HB).size;have HC:=aj (aeh (rc l i) bn br y now M wr ((ah H).below h1 h2 h3 (ah HB)) (by omega) (by omega) (by omega) hn hM);obtain⟨r,hr⟩:∃r,rc l i=r:=⟨_,rfl⟩;rw[hr] at s7 HC;obtain⟨_,x0,x1,x2,x3,x4,x5⟩:=s7;have HR:=aj hr;clear hr s6 hsz;by_cases ho:r.t<now-M
   ·have HO:=aj (aft hlt (ah hlo) (by rw[ah HR];exact ho));have e1:decide (r.t<now-M)=true:=ajg ho;rw[e1] at HC;clear e1 ho;go_wp2_with fail;refine(ah HC).mono ?_;rintro e w1 ⟨rfl,hb1⟩;have B1:=aj (ak (ah HB) hb1);clear HC hb1 x0 x1 x2 x3 x4 x5;go_wp2_with fail;go_ret;exact⟨.inr ⟨i,rfl,hlt,ah HO⟩,ah B1⟩
   ·have e1:decide (r.t<now-M)=false:=ajd ho;have HO:=aj ho;rw[e1] at HC;clear e1 ho;go_wp2_with fail;refine(ah HC).mono ?_;rintro e w1 ⟨rfl,hb1⟩;have B1:=aj (ak (ah HB) hb1);clear HC hb1 x0 x1 x2 x3 x4 x5;go_wp2_with fail;refine⟨⟨i+1,by go_num,by omega,aj (λk hk=>?_),B1⟩,?_⟩
    ·rcases ajR.1 hk with q|q
     ·have:=ah hlo k q;omega
     ·rw[q,ah HR];have:=ah HO;omega
    ·simp[intOf];omega
  ·obtain rfl:i=l.length:=by omega
   have HO:=aj (ZM (ah hlo));go_wp2_with fail;go_ret;exact⟨.inl ⟨rfl,ah HO⟩,ah HB⟩
def Rg (F0 Cs:Nat->Prop)(w wo W:World)(B y x d:Nat)(a:Option Addr)(c:Nat)(P:Pn.cu)(m size now:Int)(br bn:Nat)(ids:List Kn)(R:(Int×Int)×List ay×aJ)(n:Int)(es:List ay)(s:aJ):Prop :=
 Rr F0 (λi=>Cs i\/(i=br\/i=bn)) w W B y x d a c P m size ⟨es,s,ids⟩/\Fit P m size ⟨es,s,ids⟩/\(W.cell? ⟨br,0,none⟩=some (.pointer (some ⟨y,0,none⟩))/\W.cell? ⟨bn,0,none⟩=some (.int .i64 now)/\br<W.heap.size/\bn<W.heap.size)/\aO Cs wo W/\JD P m size now n es s=R/\0<=n/\n<=1000-(s.l.length:Int)
section
variable {F0 Cs:Nat->Prop}{w wo W W':World}{B y x d:Nat}{a:Option Addr}{c:Nat}{P:Pn.cu}{m size now:Int}{br bn:Nat}{ids:List Kn}{R:(Int×Int)×List ay×aJ}{n:Int}{es:List ay}{s:aJ}{st:dW}
theorem Rg.below (h:Rg F0 Cs w wo W B y x d a c P m size now br bn ids R n es s)(hb:Below W.heap.size W W'):Rg F0 Cs w wo W' B y x d a c P m size now br bn ids R n es s :=
 ⟨h.1.below hb,h.2.1,⟨(hb.cell (p:=⟨br,0,none⟩) h.2.2.1.2.2.1).trans h.2.2.1.1,(hb.cell (p:=⟨bn,0,none⟩) h.2.2.1.2.2.2).trans h.2.2.1.2.1,ajc h.2.2.1.2.2.1 hb.size,ajc h.2.2.1.2.2.2 hb.size⟩,h.2.2.2.1.trans ((h.1.aZ (λ_ hk=>.inl hk)).stay hb),h.2.2.2.2⟩
theorem Rg.erase (h:Rg F0 Cs w wo W B y x d a c P m size now br bn ids R n es s)(hB:B<=w.heap.size){r:Rc}(ho:um s.l (now-pv P 2)=some r) :
 ∃E:Int,(E≠0->R=((n,E),es,s))/\Calls prog 33 #[.pointer (some ⟨x,0,none⟩),.agg #[.int .i64 2,.int .i64 r.q,.int .i64 now,.string ⟨#[]⟩,.string ⟨#[]⟩,.string ⟨#[]⟩]] W λe w'=>e=.returned (.int .i64 E)/\(E≠0->Rg F0 Cs w wo w' B y x d a c P m size now br bn ids R n es s)/\(E=0->∃es' s',Rg F0 Cs w wo w' B y x d a c P m size now br bn ids R (n+1) es' s'/\s'.l.length<s.l.length):=by
 have he:=h.1.vdo h.2.1 hB (bT r.q now) ⟨dh,dh,dh⟩;have hfit:=h.2.1.did (bT r.q now);refine⟨iJ es s m size (bT r.q now),λhE=>by rw[<-h.2.2.2.2.1];exact Yt ho hE,he.mono ?_⟩;rintro e w' ⟨rfl,r1,s1⟩;have hst:aO Cs W w':=s1.aZ (λk hk=>.inl hk);have hcl:w'.cell? ⟨br,0,none⟩=some (.pointer (some ⟨y,0,none⟩))/\w'.cell? ⟨bn,0,none⟩=some (.int .i64 now)/\br<w'.heap.size/\bn<w'.heap.size:=⟨(s1.cell (.inr (.inl rfl))).trans h.2.2.1.1,(s1.cell (.inr (.inr rfl))).trans h.2.2.1.2.1,ajc h.2.2.1.2.2.1 s1.1,ajc h.2.2.1.2.2.2 s1.1⟩;refine⟨rfl,λhE=>?_,λhE=>?_⟩
 ·have e1:qL es s m size (bT r.q now)=es:=by unfold qL;rw[if_neg hE]
  have e2:lq es s m size (bT r.q now)=s:=by unfold lq;rw[if_neg hE]
  unfold pX at r1;simp only[e1,e2] at r1;exact⟨r1,h.2.1,hcl,h.2.2.2.1.trans hst,h.2.2.2.2⟩
 ·have hl:=pU hE ⟨r,aln ho,rfl⟩;exact⟨qL es s m size (bT r.q now),lq es s m size (bT r.q now),⟨r1,hfit,hcl,h.2.2.2.1.trans hst,(ac4 ho hE).symm.trans h.2.2.2.2.1,by have:=h.2.2.2.2.2.1;omega,by have:=h.2.2.2.2.2.2;omega⟩,hl⟩
theorem aei (h:Rr F0 Cs w wo B y x d a c P m size st)(hf:Fit P m size st)(hB:B<=w.heap.size)(now:Int) :
 Calls prog 37 #[.pointer (some ⟨y,0,none⟩),.int .i64 now] wo λe w'=>e=.returned (.tuple #[.int .i64 (jc P m size now st).1.1,.int .i64 (jc P m size now st).1.2])/\Rr F0 Cs w w' B y x d a c P m size (jc P m size now st).2/\aO Cs wo w':=by
 obtain⟨W0,hW0⟩:∃W0,W0=(wo.alloc (.cells #[.pointer (some ⟨y,0,none⟩)] 32)).alloc (.cells #[.int .i64 now] 3):=⟨_,rfl⟩;have b0:Below wo.heap.size wo W0:=by rw[hW0];exact((ajb _ _).alloc (Xc _) _).alloc (by simp) _
 have hs0:W0.heap.size=wo.heap.size+2:=by rw[hW0];simp
 have k0:W0.cell? ⟨wo.heap.size,0,none⟩=some (.pointer (some ⟨y,0,none⟩))/\W0.cell? ⟨wo.heap.size+1,0,none⟩=some (.int .i64 now):=by
  rw[hW0];refine⟨?_,?_⟩
  ·rw[akz _ _ _ (by simp),alB _ _ _ _ rfl];rfl
  ·rw[alB _ _ _ _ (by simp)];rfl
 have r0:=h.lF (jR:=λi=>Cs i\/(i=wo.heap.size\/i=wo.heap.size+1)) b0 (λk hk=>by
  rcases hk with z|z|z
  ·exact .inl z
  ·exact .inr ⟨by omega,by omega⟩
  ·exact .inr ⟨by omega,by omega⟩)
 have s0:=h.stay b0;by_cases hI:dn now 0 1099511627776=false
 ·have hp:jc P m size now st=((0,1),st):=by unfold jc;rw[if_pos hI]
  rw[hp];have HI:=aj hI;have HE:=aj (And.intro (r0.aZ (jR:=Cs) (λk hk=>.inl hk)) s0);rw[hW0] at HE;clear h hf hI hp k0 hs0 r0 s0 b0 hW0;go_enter func37,ntmps37;go_wp2_with (go_at_call 11;refine(jI _ _ _ _).mono ?_;rintro e w2 ⟨rfl,rfl⟩;rw[ah HI]);go_ret2;exact⟨rfl,ah HE⟩
 ·have hI1:dn now 0 1099511627776=true:=by simpa using hI
  have hn:0<=now/\now<=1099511627776:=by simpa[dn] using hI1
  have HI:=aj hI1;have hyl:=h.lt;have c4:=h.plan.1.c4;by_cases hM:pv P 2=0
  ·have hp:jc P m size now st=((0,0),st):=by unfold jc;rw[if_neg hI,if_pos hM]
   rw[hp];have HE:=aj (And.intro (r0.aZ (jR:=Cs) (λk hk=>.inl hk)) s0);rw[hW0] at HE;have hM2:nth P.v 2=0:=hM;rw[hM2] at c4;clear h hf hI hI1 hp hM hM2 k0 hs0 r0 s0 b0 hW0;go_enter func37,ntmps37;go_wp2_with (go_at_call 11;refine(jI _ _ _ _).mono ?_;rintro e w2 ⟨rfl,rfl⟩;rw[ah HI]);go_loopg [6] 0 (λ_ nv W=>nv=.int .i64 0/\W=(wo.alloc (.cells #[.pointer (some ⟨y,0,none⟩)] 32)).alloc (.cells #[.int .i64 now] 3))
   case atStart=>exact⟨rfl,rfl⟩
   case round =>
    obtain⟨rfl,rfl⟩:=hrel;go_wp2_with fail;go_ret2;exact⟨rfl,ah HE⟩
  ·obtain⟨R,hR⟩:∃R,JD P m size now 0 st.es st.s=R:=⟨_,rfl⟩;have hp:jc P m size now st=(R.1,⟨R.2.1,R.2.2,st.ids⟩):=by
    unfold jc;rw[if_neg hI,if_neg hM,<-hR];rfl
   rw[hp];have hM0:0<=nth P.v 2:=(uo hf.plan).pos 2;have hM1:nth P.v 2<=100000:=wO hf.plan 2;have e7:(nth P.v 2 !=0)=true:=by have z:nth P.v 2≠0:=hM;simpa using z
   have A0:Hid (Rg F0 Cs w wo W0 B y x d a c P m size now wo.heap.size (wo.heap.size+1) st.ids R 0 st.es st.s):=aj ⟨r0,hf,⟨k0.1,k0.2,by omega,by omega⟩,s0,hR,by simp,by have:=hf.rY.ok.iW;omega⟩;have Qe:=aj (λ(W:World) (n:Int) (es:List ay) (s:aJ) (hm:Rg F0 Cs w wo W B y x d a c P m size now wo.heap.size (wo.heap.size+1) st.ids R n es s) (r:Rc) (ho:um s.l (now-pv P 2)=some r)=>hm.erase hB ho);have dR:Hid (∀(W:World) (n:Int) (es:List ay) (s:aJ),Rg F0 Cs w wo W B y x d a c P m size now wo.heap.size (wo.heap.size+1) st.ids R n es s->R.2.1=es->R.2.2=s->Rr F0 Cs w W B y x d a c P m size ⟨R.2.1,R.2.2,st.ids⟩/\aO Cs wo W):=aj (λW n es s hm h1 h2=>by
    rw[h1,h2];exact⟨hm.1.aZ (λk hk=>.inl hk),hm.2.2.2.1⟩)
   have hpv:pv P 2=nth P.v 2:=rfl;rw[hpv] at Qe;obtain⟨n0,hn0⟩:∃n0,n0=st.s.l.length:=⟨_,rfl⟩;have HN0:=aj hn0;clear h hf hI hI1 hp hM hR k0 r0 s0 b0 hs0 c4 hyl hpv hn0;obtain⟨br,hbr⟩:∃b,b=wo.heap.size:=⟨_,rfl⟩;obtain⟨bn,hbn⟩:∃b,b=wo.heap.size+1:=⟨_,rfl⟩;go_enter func37,ntmps37;go_wp2_with (go_at_call 11;refine(jI _ _ _ _).mono ?_;rintro e w2 ⟨rfl,rfl⟩;rw[ah HI]);rw[<-hW0,<-hbn,<-hbr];rw[<-hbn,<-hbr] at A0 Qe dR;clear hW0 hbr hbn;go_loopg [6] n0 (λk nv W=>∃(n:Int) (es:List ay) (s:aJ),nv=.int .i64 n/\0<=n/\n<=1000/\Hid (Rg F0 Cs w wo W B y x d a c P m size now br bn st.ids R n es s)/\Hid (k=s.l.length))
   case atStart=>exact⟨0,_,_,rfl,by simp,by simp,A0,HN0⟩
   case round =>
    clear A0 HN0;obtain⟨n,es,s,rfl,hn1,hn2,A,HN⟩:=hrel;obtain⟨c1,c2,l1,l2⟩:=(ah A).2.2.1;have hyl:=(ah A).1.lt;have c4:=(ah A).1.plan.1.c4;obtain⟨ch,ar,cap,q1,q2,q3,q4,q5,q6,q7,q8,q9⟩:=(ah A).1.reads;have hfew:=(ah A).2.1.rY.ok.iW;have PI:=aj (Xm ar cap s.l bn br y now (nth P.v 2) wr q7 hfew ⟨c2,c1,c4⟩ l2 l1 hyl hn ⟨hM0,hM1⟩);have Bf:=aj q7;obtain⟨L,hL⟩:∃L,s.l.length=L:=⟨_,rfl⟩;have q3':wr.cell? ⟨ch,0,none⟩=some (.slice ar L cap):=by rw[<-hL];exact q3
    rw[hL] at PI;have hq5:L<=cap:=by rw[<-hL];exact q5
    have aef:L<=200:=by rw[<-hL];exact hfew
    have HL:=aj hL;unfold maxLen at q6;clear q3 q4 q5 q7 hfew hL;go_wp2_with fail;refine(ah PI).mono ?_;rintro e w1 ⟨hcase,b1⟩;have A1:=aj ((ah A).below b1);rcases hcase with ⟨rfl,ho⟩|⟨k,rfl,hk,ho⟩
    ·have hr2:R=((n,0),es,s):=(ah A).2.2.2.2.1.symm.trans (ac3 ho);have HE:=aj (ah dR _ _ _ _ (ah A1) (by rw[hr2]) (by rw[hr2]));have HRR:=aj (show R.1.1=n/\R.1.2=0 from by rw[hr2];exact⟨rfl,rfl⟩);clear PI b1 ho hr2 A A1;go_wp2_with fail;go_ret2;refine⟨?_,ah HE⟩;rw[(ah HRR).1,(ah HRR).2];rfl
    ·obtain⟨z1,z2,m1,m2⟩:=(ah A1).2.2.1;have ai9:=(ah A1).1.lt;obtain⟨ch1,ar1,cap1,p1,p2,p3,p4,p5,p6,p7,p8,p9⟩:=(ah A1).1.reads;have hk2:k<s.l.length:=by rw[ah HL];exact hk
     obtain⟨g,o,har,s6⟩:=p7 k hk2;subst har;have p3':w1.cell? ⟨ch1,0,none⟩=some (.slice (some ⟨g,o,none⟩) L cap1):=by rw[<-ah HL];exact p3
     have p5':L<=cap1:=by rw[<-ah HL];exact p5
     have A2:=aj ((ah A1).below (ajb _ _).drew);obtain⟨E,hE1,hE2⟩:=ah Qe _ _ _ _ (ah A2) _ ho;have x1:=s6.c1;have hgl:=s6.lt;generalize rc s.l k=r at *;have Xg:=aj hE1;have PE:=aj hE2;unfold maxLen at p6;have mixed:prog.follows .mixedOrders=true:=by kernel_rfl
     clear PI b1 ho A A1 hE1 hE2 p3 p4 p5 p7 s6 q1 q2 q3' q6 q8 q9 hq5 c1 c2 c4 l1 l2 hyl hk2;have hkI:(k:Int)<(L:Int):=by omega
     have hk0:decide ((k:Int)<0)=false:=ajd (by omega);go_wp2_with fail;go_still_tail 20,mixed
     go_wp2_with fail;refine(ah PE).mono ?_;rintro e w5 ⟨rfl,k1,k2⟩;have K1:=aj k1;have K2:=aj k2;clear PE k1 k2 A2 z1 z2 p1 p2 p3' p5' p6 p8 p9 x1;by_cases h0:E=0
     ·obtain⟨es',s',hm',hl'⟩:=ah K2 h0;have HM:=aj hm';have HLe:=aj hl';subst h0;clear hm' hl' K1 K2 Xg;go_wp2_with fail;go_roundg s'.l.length
      case measure=>have:=ah HLe;have:=ah HN;omega
      case rel=>exact⟨n+1,_,_,rfl,by omega,by have:=(ah HM).2.2.2.2.2.2;omega,HM,aj rfl⟩
     ·have e5:(E !=0)=true:=by simpa using h0
      have hr2:=ah Xg h0;have HE:=aj (ah dR _ _ _ _ (ah K1 h0) (by rw[hr2]) (by rw[hr2]));have HRR:=aj (show R.1.1=n/\R.1.2=E from by rw[hr2];exact⟨rfl,rfl⟩);clear K1 K2 Xg hr2;go_wp2_with fail;go_ret2;refine⟨?_,ah HE⟩;rw[(ah HRR).1,(ah HRR).2];rfl
end
