/- A part. -/
import Derived.Test.YtebofkkfbkodiaaGreatDoorQ49
set_option maxRecDepth 100000
set_option maxHeartbeats 8000000
namespace Go.Proofs.YtebofkkfbkodiaaGreatDoor
open Go.RowKit Go.Proofs.Tryz
namespace Dk
variable {v:Value}{l:List mM}{s:Sv}{N n sp:Nat}{w0:I}{push:Bool}{q:List dD}
theorem fJ.low {w:I}{B B':Nat}(h:fJ w B v l)(hb:B'<=B):fJ w B' v l:=by
 refine⟨h.1,?_⟩;rcases h.2 with q|⟨g,cap,cur,h1,h2,r⟩
 ·exact .inl q
 ·exact .inr ⟨g,cap,cur,h1,ajA hb h2,r⟩
section
variable {G:I->Prop}{SH:I->Nat->Nat->af->aH->Prop}{RH:I->Nat->Nat->af->Pn.aX->Int->Int->Str->Prop}{CH:I->Nat->Nat->af->bM->Prop}{B:Nat}{w w':I}{F:af}
variable (W:dS G SH RH CH)
include W
theorem dS.ZU {n who:ad}{x:Sr}{y:Mb}{b c p:Nat}{F1 FS F2:af}{wa wb:I}{f:Mb->Mb}(hf:Fnd RH CH B s n who sp w F x y b c p F1 FS F2)(hb:ai w wa)(hT:Told CH B c wa F2 (f y,l) v wb)(hnm:(f y).nm=y.nm)(hok:(x.put who f).Ok N)(hN:N<=100000){fS:Sr->Sr}(hS:fS x=x.put who f){u:FrameMode} :
 CallsD prog 28 #[ptr b] u wb λe u' w'=>u'=u/\e=.returned (.tuple #[])/\fJ w' w.heap.size v l/\Dd (qo RH CH B (s.put n λx=>(fS x).sweep) sp) w w' F:=by
 obtain⟨F',k1,k2,k3,k4,k5⟩:=hT;obtain⟨g,hg⟩:∃g,g=v.ownBlock.getD wb.heap.size:=⟨_,rfl⟩;have hgn:¬F' g:=λz=>by
  cases e:v.ownBlock with
  | none=>rw[e] at hg;have:=((W.mb B _ c).own k2 g z).2;rw[hg] at this;simp at this
  | some g'=>rw[e] at hg;simp at hg;subst hg;exact k5 _ e z
 have hgl:w.heap.size<=g:=by
  cases e:v.ownBlock with
  | none=>rw[e] at hg;rw[hg];simp;exact ajA hb.size k3.size
  | some g'=>rw[e] at hg;simp at hg;subst hg;exact ajA hb.size (aks k1 _ e).1
 obtain⟨F3,⟨m1,m4⟩,m2,m3⟩:=hf.upG (f:=f) hgl hb hnm ⟨F',⟨k2,hgn⟩,k3,k4⟩;refine(G5 W m1 hok hN).mono ?_;rintro e u' w' ⟨hu,he,D⟩;obtain⟨_,_,h4,_⟩:=id D;refine⟨hu,he,?_,Dd.fst hb (hf.lift (f:=λx=>(fS x).sweep) hb (by show(fS x).sweep.nm=x.nm;rw[hS];exact(Ad _).trans rfl) (by show Dd (mY RH CH B (fS x).sweep b) wa w' F1;rw[hS];exact Dd.on m2 m3 D))⟩;refine fJ.low (k1.aF h4 (λg' e z=>?_)) hb.size;rw[e] at hg;simp at hg;subst hg;exact m4 z
theorem Ve (h:qo RH CH B s sp w F)(ho:s.Ok N)(hN:N+501<=100000)(n who:ad)(hn:n.size<=maxLen)(hw:who.size<=maxLen) :
 Calls prog 19 #[ptr sp,.string n,.string who] w λe w'=>∃v,e=.returned (.tuple #[v,aa (lq s n who).2.2])/\fJ w' w.heap.size v (lq s n who).2.1/\Dd (qo RH CH B (lq s n who).1 sp) w w' F:=by
 rcases vZ W h n who hn hw with ⟨hx,hc⟩|⟨x,y,b,c,p,F1,FS,F2,hx,hf,hc⟩
 ·have e:lq s n who=(s,([],4)):=by unfold lq;rw[hx]
  rw[e];have HE:=aj (And.intro (fJ.empty w w.heap.size) ((W.sv B s sp).same h (agP _ _)));have PF:=aj (hc w (agP _ _));clear h ho hn hw hx e hc;go_enter_defers func19,ntmps19
  go_wp2_with fail;refine(ah PF).mono ?_;rintro e w1 ⟨hw1,u,v,rfl⟩;subst hw1;clear PF;go_wp2_with fail;exact⟨_,results_tmp2 rfl _ _ _,⟨_,rfl,ah HE⟩⟩
 ·obtain⟨R,hR⟩:∃R,jG x.st.s.l s.t y=R:=⟨_,rfl⟩;obtain⟨hx1,hy1⟩:=D7 hx;have hox:=ho.all x (by_some hx1).1;have hoy:=hox.all y (by_some hy1).1;have e:lq s n who=(s.put n λx=>(x.put who λy=>(jG x.st.s.l s.t y).1).sweep,(R.2,0)):=by unfold lq;rw[hx];simp only[hR]
  rw[e];have hown:=λk hk=>((W.sv B s sp).own h k hk).2
  obtain⟨Bs,s1,s2,_⟩:=Up.open hf.st;obtain⟨p',d0,hcl,hrd,_⟩:=W.reads (N:=N) hf.mb hoy (by omega);have PI:=aj (hrd w (agP _ _));have c0:=d0;have PF:=aj (hc w (agP _ _));have PSt:=aj (λ(W':I) (hb:ai w W')=>W.V.store (W.V.aF (A:=λ_=>False) s2 (aA.of_below hb) (λ_ _ z=>z)) hox.fit (ajA s1 hb.size));have HK:=aj (λ(W':I) (hb:ai w W')=>show W'.cell? (aq b 0)=some (ptr p)/\W'.cell? (aq sp 1)=some (aa s.t) from⟨(hb.cell (p:=aq b 0) hf.lt).trans hf.cell,(hb.cell (p:=aq sp 1) hf.cells.2).trans hf.cells.1⟩)
  have yP:=aj (λ(wa wb:I) (hb:ai w wa) (v:Value) (hT:Told CH B c wa F2 R v wb)=>show wb.cell? (aq b 0)=some (ptr p)/\wb.cell? (aq sp 1)=some (aa s.t) from by
   obtain⟨_,_,_,hch,_⟩:=hT;exact⟨(hch.cell (p:=aq b 0) (ajz hf.lt hb.size) (λz=>(hf.in2 _ z).2 rfl)).trans ((hb.cell (p:=aq b 0) hf.lt).trans hf.cell),(hch.cell (p:=aq sp 1) (ajz hf.cells.2 hb.size) (λz=>(hf.in1 _ (hf.in2 _ z).1).2 rfl)).trans ((hb.cell (p:=aq sp 1) hf.cells.2).trans hf.cells.1)⟩)
  have U6:=aj (λ(wa wb:I) (v:Value) (hb:ai w wa) (hT:Told CH B c wa F2 R v wb) (u:FrameMode)=>W.ZU (N:=N+501) (u:=u) (f:=λy=>(jG x.st.s.l s.t y).1) (l:=R.2) hf hb (by rw[hR];exact hT) (by show(jG x.st.s.l s.t y).1.c.t.n=y.c.t.n;rw[(Rj hox.fit.vM.ok s.t hoy).2]) (hox.put (by omega) λy' hy' e=>Rj hox.fit.vM.ok _ (hox.all y' hy')) hN (fS:=λx=>x.put who λy=>(jG x.st.s.l s.t y).1) rfl);by_cases hp:y.c.t.pu=true
  ·skip
   have hin:∀a' c' W,(Instr.field 98 (sJ y.c.t a' c') 9).run prog W=.ok (.bool true) W:=λa' c' W=>by rw[Xo,hp]
   have eR:jG x.st.s.l s.t y=sG x.st.s.l s.t 200 y:=by unfold jG;rw[hp];rfl
   have PV:=aj (λ(wa:I) (q:Nat) (F0:af) (ba:ai w wa) (g:SH wa Bs q F0 x.st.s) (hsub:∀k,F0 k->FS k)=>ZR W ((W.mb B y c).next hf.mb ba) hoy (by omega) g hox.fit.vM.ok (ajA s1 ba.size) (λk hk z=>hf.apart k (hsub k hk) z) s.t);rw[<-eR,hR] at PV;clear h ho hn hw hx e hc hx1 hy1 hox hoy hf s1 s2 hrd hR eR hp d0 hcl;go_enter_defers func19,ntmps19
   go_wp2_with fail;refine(ah PF).mono ?_;rintro e w1 ⟨hw1,rfl⟩;subst hw1;clear PF;go_wp2_with fail;refine(ah PI).mono ?_;rintro e w2 ⟨a',c',rfl,_,b2⟩;have B2:=aj b2;clear b2 PI c0;have k0:=ah HK _ (ah B2).drew;have PS2:=aj (ah PSt _ (ah B2).drew);have HB3:=aj (λ(W1:I) (h2:Below w2.drew.heap.size w2.drew W1)=>ak (ah B2).drew h2);go_wp2_with fail;go_region_held3 (λW'=>W'.cell? (aq b 0)=some (ptr p)/\W'.cell? (aq sp 1)=some (aa s.t)) (first|with_reducible assumption)
    (first|(go_at_call 34;with_reducible refine(ah PS2).mono ?_;rintro e wa ⟨q,F0,rfl,g1,g2,ba⟩;have BA:=aj (ah HB3 wa ba);have PV2:=aj (ah PV wa q F0 (ah BA) g1 g2);have k1:=ah HK wa (ah BA);clear g1 g2 ba)|(go_at_call 44;with_reducible refine(ah PV2).mono ?_;rintro e wb ⟨v,rfl,hT⟩;have HD:=aj (ah U6 wa wb v (ah BA) hT);have k2:=ah yP wa wb (ah BA) v hT;clear hT))
   clear PV PV2 PSt PS2 HK yP U6 k0 k1 k2 B2 BA HB3;go_wp2_with fail;refine leaves_cons (f:=28) (args:=#[ptr b]) (by simp) (by simp[go_sem]) ?_;refine(ah HD _).mono ?_;rintro e u' w3 ⟨rfl,rfl,ha,hfin⟩;exact⟨_,results_tmp2 rfl _ _ _,⟨v,rfl,ha,hfin⟩⟩
  ·have hp:y.c.t.pu=false:=by simpa using hp
   have hin:∀a' c' W,(Instr.field 98 (sJ y.c.t a' c') 9).run prog W=.ok (.bool false) W:=λa' c' W=>by rw[Xo,hp]
   have eR:jG x.st.s.l s.t y=jM x.st.s.l s.t 501 y:=by unfold jG;rw[hp];rfl
   have PV:=aj (λ(wa:I) (q:Nat) (F0:af) (ba:ai w wa) (g:SH wa Bs q F0 x.st.s) (hsub:∀k,F0 k->FS k)=>Vd W ((W.mb B y c).next hf.mb ba) hoy hN g hox.fit.vM.ok (ajA s1 ba.size) (λk hk z=>hf.apart k (hsub k hk) z) s.t);rw[<-eR,hR] at PV;clear h ho hn hw hx e hc hx1 hy1 hox hoy hf s1 s2 hrd hR eR hp d0 hcl;go_enter_defers func19,ntmps19
   go_wp2_with fail;refine(ah PF).mono ?_;rintro e w1 ⟨hw1,rfl⟩;subst hw1;clear PF;go_wp2_with fail;refine(ah PI).mono ?_;rintro e w2 ⟨a',c',rfl,_,b2⟩;have B2:=aj b2;clear b2 PI c0;have k0:=ah HK _ (ah B2).drew;have PS2:=aj (ah PSt _ (ah B2).drew);have HB3:=aj (λ(W1:I) (h2:Below w2.drew.heap.size w2.drew W1)=>ak (ah B2).drew h2);go_wp2_with fail;go_region_held3 (λW'=>W'.cell? (aq b 0)=some (ptr p)/\W'.cell? (aq sp 1)=some (aa s.t)) (first|with_reducible assumption)
    (first|(go_at_call 34;with_reducible refine(ah PS2).mono ?_;rintro e wa ⟨q,F0,rfl,g1,g2,ba⟩;have BA:=aj (ah HB3 wa ba);have PV2:=aj (ah PV wa q F0 (ah BA) g1 g2);have k1:=ah HK wa (ah BA);clear g1 g2 ba)|(go_at_call 45;with_reducible refine(ah PV2).mono ?_;rintro e wb ⟨v,rfl,hT⟩;have HD:=aj (ah U6 wa wb v (ah BA) hT);have k2:=ah yP wa wb (ah BA) v hT;clear hT))
   clear PV PV2 PSt PS2 HK yP U6 k0 k1 k2 B2 BA HB3;go_wp2_with fail;refine leaves_cons (f:=28) (args:=#[ptr b]) (by simp) (by simp[go_sem]) ?_;refine(ah HD _).mono ?_;rintro e u' w3 ⟨rfl,rfl,ha,hfin⟩;exact⟨_,results_tmp2 rfl _ _ _,⟨v,rfl,ha,hfin⟩⟩
end
section
variable {G:I->Prop}{G2:I->Prop}{SH:I->Nat->Nat->af->aH->Prop}{RH:I->Nat->Nat->af->Pn.aX->Int->Int->Str->Prop}{CH:I->Nat->Nat->af->bM->Prop}{w w':I}
def Ir (RH:I->Nat->Nat->af->Pn.aX->Int->Int->Str->Prop)(CH:I->Nat->Nat->af->bM->Prop)(w0:I)(sp:Nat)(push:Bool)(n:Nat)(q:List dD)(w:I):Prop :=
 ∃s x y,Mine RH CH w0.heap.size w0 s sp w/\s.Ok 0/\Kp push s n q x y
theorem ag9 {a b:ad}(h:a≠b):(a.toList==b.toList)=false:=by
 rw[ajM,akM,akM];intro z;exact h (Go.WideShapes.bytes_inj z)
variable (W:dS G SH RH CH)
include W
theorem Ir.next {w0:I}{sp n:Nat}{push:Bool}{q:List dD}(h:Ir RH CH w0 sp push n q w)(hb:ai w w'):Ir RH CH w0 sp push n q w':=by
 obtain⟨s,x,y,h1,h2,h3⟩:=h;exact⟨s,x,y,Mine.next W h1 hb,h2,h3⟩
theorem aha (h:Ir RH CH w0 sp push n q w)(nm:ad)(hn:nm.size<=140737488355328) :
 Calls prog 8 #[ptr sp,BU (nH nm ⟨#[]⟩)] w λe w2=>∃k j ag E,e=.returned (.tuple #[.string k,aa j,.bool ag,aa E])/\Ir RH CH w0 sp push (if E=0/\k=aO then n+1 else n) q w2:=by
 obtain⟨s,x,y,⟨F,h1,h2,h3⟩,ho,hk⟩:=h;refine(Rq W h1 ho (by omega) (nH nm ⟨#[]⟩) ⟨hn,by show(⟨#[]⟩:ad).size<=_;decide,by show(⟨#[]⟩:ad).size<=_;decide,by show(⟨#[]⟩:ad).size<=_;decide⟩).mono ?_;rintro e w2 ⟨he,D⟩;obtain⟨x',hk'⟩:=agT hk ho (nH nm ⟨#[]⟩) rfl rfl rfl;exact⟨(nT s (nH nm ⟨#[]⟩)).2.1,(nT s (nH nm ⟨#[]⟩)).2.2.1,(nT s (nH nm ⟨#[]⟩)).2.2.2.1,(nT s (nH nm ⟨#[]⟩)).2.2.2.2,he,_,x',y,Mine.step h2 h3 D,ho.pub _,hk'⟩
theorem afD (h:Ir RH CH w0 sp push n q w)(hq:NoEnd q)(hb:∀p∈q,1<=p.b)(b:Int) :
 Calls prog 18 #[ptr sp,.string aO,.string x9,NV ⟨b,0,false⟩] w λe w2=>∃E q',e=.returned (aa E)/\(push=true->E=11)/\(push=false->E≠11)/\Ir RH CH w0 sp push n q' w2/\NoEnd q'/\(∀p∈q',1<=p.b)/\mQ q'=(if E=0 then mQ q+b else mQ q)/\(E=0->1<=b/\b<=50):=by
 obtain⟨s,x,y,⟨F,h1,h2,h3⟩,ho,hk⟩:=h;refine(ZT W h1 ho (by omega) aO x9 (by decide) (by decide) ⟨b,0,false⟩).mono ?_;rintro e w2 ⟨he,D⟩;obtain⟨k1,k2⟩:=afy hk hq b
 cases push with
 | true =>
  have e1:=k1 rfl;refine⟨(jD s aO x9 ⟨b,0,false⟩).2,q,he,(λ_=>by rw[e1]),(λz=>by cases z),⟨_,x,y,Mine.step h2 h3 D,ho.pull _ _ _,by rw[e1];exact hk⟩,hq,hb,by rw[e1];rfl,(λz=>by rw[e1] at z;cases z)⟩
 | false =>
  obtain⟨e1,x',y',hk'⟩:=k2 rfl;have hB:(jD s aO x9 ⟨b,0,false⟩).2=0->1<=b/\b<=50:=λz=>by
   have hat:jD s aO x9 ⟨b,0,false⟩=(s.put aO λx=>x.put x9 λy=>⟨y.c,oC s.t ⟨b,0,false⟩ y.q⟩,sK s.t ⟨b,0,false⟩ y.q):=by
    unfold jD;rw[Xk hk];show(if y.c.t.pu=true then (s,(11:Int)) else _)=_;rw[if_neg (by rw[hk.co];exact Bool.false_ne_true)]
   rw[hat] at z;have z':sK s.t ⟨b,0,false⟩ y.q=0:=z;unfold sK at z';split at z'
   ·rename_i hc;have:=hc.2;unfold xw at this;simp only[ajN,ajG] at this;omega
   ·cases z'
  refine⟨(jD s aO x9 ⟨b,0,false⟩).2,_,he,(λz=>by cases z),(λ_=>e1),⟨_,x',y',Mine.step h2 h3 D,ho.pull _ _ _,hk'⟩,?_,?_,?_,hB⟩
  ·split
   ·intro p hp;rcases akg.1 hp with z|z
    ·exact hq p z
    ·rw[akd] at z;rw[z]
   ·exact hq
  ·split
   ·rename_i hz;intro p hp;rcases akg.1 hp with z|z
    ·exact hb p z
    ·rw[akd] at z;rw[z];exact(hB hz).1
   ·exact hb
  ·split
   ·rw[BK];simp[mQ]
   ·rfl
theorem adF {S:Nat}(h:Ir RH CH w0 sp push n q w)(hn:n<=60)(hq:NoEnd q)(hb:∀p∈q,1<=p.b)(hS:mQ q=(S:Int))(h5:S<=450) :
 Calls prog 19 #[ptr sp,.string aO,.string x9] w λe w2=>∃a c dl,e=.returned (.tuple #[.slice a dl.length c,aa 0])/\dl.length=(if push=true then n else min n S)/\(dl.Pairwise λa b=>a.q<b.q)/\XM w2 a dl/\ai w0 w2:=by
 obtain⟨s,x,y,⟨F,h1,h2,h3⟩,ho,hk⟩:=h;refine(Ve W h1 ho (by omega) aO x9 (by decide) (by decide)).mono ?_;rintro e w2 ⟨v,he,ha,D⟩;obtain⟨k0,k1,k2⟩:=adr hk ho hn hq hb hS h5;obtain⟨av,cv,hv,_,_,hsl⟩:=ha.shape;obtain⟨_,_,_,hb2⟩:=Mine.step h2 h3 D;exact⟨av,cv,_,by rw[he,hv,k0],k1,k2,hsl,hb2⟩
theorem afE (TR:oQ G2)(hG:U4 G G2 w0)(push:Bool)(h:Mine RH CH w0.heap.size w0 tB8 sp w) :
 Calls prog 17 #[ptr sp,.string aO,.string (tPt push)] w λe w2=>e=.returned (aa 0)/\Ir RH CH w0 sp push 0 [] w2:=by
 obtain⟨F,h1,h2,h3⟩:=h;refine(Kr W TR h1 U1 (by omega) h3.size (hG _ h3).2 aO (tPt push) (by decide) (by cases push<;>decide) (ig _)).mono ?_;rintro e w2 ⟨he,D⟩;obtain⟨x,y,hk⟩:=adk push;exact⟨by rw[he,ahR push],tPs push,x,y,Mine.step h2 h3 D,agS push,hk⟩
theorem Vf (PR:oH G)(TR:oQ G2)(l:List ad)(a:Option Addr)(c:Nat)(bl:List Int)(ba:Option Addr)(bc:Nat)(push:Bool)(w:I)(hsl:gU w a l)(hl:l.length<=c/\∀k,k<l.length->(tk l k).size<=140737488355328)(hsb:kK w ba bl)(_:bl.length<=bc)(hG:U4 G G2 w) :
 Calls prog 4 #[.slice a l.length c,.slice ba bl.length bc,.bool push] w λe w'=>e=.returned (.bool true)/\ai w w':=by
 have P1:=aj (adB W PR TR w hG);have P2:Hid (∀w1,ai w w1->Calls prog 7 #[] w1 λe w2=>∃sp,e=.returned (ptr sp)/\Mine RH CH w.heap.size w tB8 sp w2):=aj (λw1 b1=>(G7 W PR TR b1.size (hG.next b1)).mono λe w2 ⟨sp,he,F,g1,g2,g3⟩=>⟨sp,he,F,g1,λk hk=>ajA b1.size (g2 k hk),ak b1 g3⟩);have P3:=aj (λ(sp:Nat) (w1:I) (h:Mine RH CH w.heap.size w tB8 sp w1)=>afE W TR hG push h);have D1:=aj (λ(sp n:Nat) (q:List dD) (w1:I) (h:Ir RH CH w sp push n q w1) (nm:ad) (hn:nm.size<=140737488355328)=>aha W h nm hn);have D2:=aj (λ(sp n:Nat) (q:List dD) (w1:I) (h:Ir RH CH w sp push n q w1) (hq:NoEnd q) (hb:∀p∈q,1<=p.b) (b:Int)=>afD W h hq hb b)
 have D3:=aj (λ(sp n S:Nat) (q:List dD) (w1:I) (h:Ir RH CH w sp push n q w1) (hn:n<=60) (hq:NoEnd q) (hb:∀p∈q,1<=p.b) (hS:mQ q=(S:Int)) (h5:S<=450)=>adF W h hn hq hb hS h5);have N1:=aj (λ(sp n:Nat) (q:List dD) (w1 w2:I) (h:Ir RH CH w sp push n q w1) (hb:ai w1 w2)=>Ir.next W h hb);have B1:Hid (∀sp n q w1,Ir RH CH w sp push n q w1->ai w w1):=aj (λsp n q w1 ⟨_,_,_,⟨_,_,_,h⟩,_⟩=>h);have VO:=aj hsl;have HSm:=aj hl.2;have HSb:=aj hsb;have PP:=aj (λn w=>Kt n ⟨#[]⟩ w);clear PR TR hG hsl hl hsb;by_cases hg:60<l.length\/9<bl.length
 ·clear P2 P3 D1 D2 D3 N1 B1 VO HSm HSb PP;by_cases h1:60<l.length
  ·have g1:(60:Int)<(l.length:Int):=by omega
   go_enter func4,ntmps4;go_wp2_with fail;refine(ah P1).mono ?_;rintro e w1 ⟨rfl,b1⟩;have HB:=aj b1;clear P1 b1;go_wp2_with fail;go_ret;exact⟨rfl,ah HB⟩
  ·have g1:¬(60:Int)<(l.length:Int):=by omega
   have g2:(9:Int)<(bl.length:Int):=by omega
   go_enter func4,ntmps4;go_wp2_with fail;refine(ah P1).mono ?_;rintro e w1 ⟨rfl,b1⟩;have HB:=aj b1;clear P1 b1;go_wp2_with fail;go_ret;exact⟨rfl,ah HB⟩
 ·have ajv:l.length<=60:=by omega
  have hb9:bl.length<=9:=by omega
  have g1:¬(60:Int)<(l.length:Int):=by omega
  have g2:¬(9:Int)<(bl.length:Int):=by omega
  clear hg;go_enter func4,ntmps4;go_wp2_with fail;refine(ah P1).mono ?_;rintro e w1 ⟨rfl,b1⟩;have Q1:=aj (ah P2 w1 b1);clear P1 P2 b1;go_wp2_with fail;refine(ah Q1).mono ?_;rintro e w2 ⟨sp,rfl,h2⟩;have Q2:=aj (ah P3 sp w2 h2);clear Q1 P3 h2;go_upto_if 36 with fail
  go_cut [8] (λv8 wx=>v8=.string (tPt push)/\wx=w2)
  case first =>
   clear Q2 D1 D2 D3 N1 B1 VO HSm HSb PP
   cases push with
   | true =>
    go_wp2_with fail;go_meet
    exact⟨rfl,rfl⟩
   | false =>
    go_wp2_with fail;go_meet
    exact⟨rfl,rfl⟩
  case rest =>
   obtain⟨rfl,rfl⟩:=hcut;go_wp2_with fail;refine(ah Q2).mono ?_;rintro e w3 ⟨rfl,h3⟩;have H3:=aj h3;clear Q2 h3;go_wp2_with fail;go_loopw [9,45] (λv9 iv wr=>∃i n:Nat,v9=aa n/\iv=aa i/\i<=l.length/\n<=i/\Hid (Ir RH CH w sp push n [] wr)) (λ_ iv _=>l.length-(intOf iv).toNat)
   case atStart=>exact⟨0,0,rfl,rfl,ajO _,agH _,H3⟩
   case round =>
    clear H3;obtain⟨i,n,rfl,rfl,hi,hni,HP⟩:=hrel;by_cases hlt:i<l.length
    ·obtain⟨b,o,rfl,hlb,hc⟩:=ah VO i hlt;have c0:=((ah B1 _ _ _ _ (ah HP)).cell (p:=aq b (o+i)) hlb).trans hc;have aiW:b<wr.heap.size:=ajz hlb (ah B1 _ _ _ _ (ah HP)).size;have Q:=aj (λ(w2:I) (b2:ai wr w2)=>ah D1 sp n [] w2 (ah N1 _ _ _ _ _ (ah HP) b2) (tk l i) (ah HSm i hlt));clear HP D1 D2 D3 N1 B1 VO HSm HSb hc hlb;go_wp2_with fail;refine(ah PP _ _).mono ?_;rintro e w4 ⟨rfl,b4⟩;have Q':=aj (ah Q w4 b4);clear Q b4 PP c0;go_wp2_with fail;refine(ah Q').mono ?_;rintro e w5 ⟨k,j,ag,E,rfl,h5⟩;have H5:=aj h5
     clear Q' h5;by_cases hE:E=0
     ·subst hE;by_cases hk:k=aO
      ·subst hk;have H5':Hid (Ir RH CH w sp push (n+1) [] w5):=by have:=ah H5;rw[if_pos ⟨rfl,rfl⟩] at this;exact aj this
       clear H5;go_wp2_with fail;refine⟨⟨i+1,n+1,by go_num,by go_num,by omega,by omega,H5'⟩,?_⟩;simp[intOf];omega
      ·have H5':Hid (Ir RH CH w sp push n [] w5):=by have:=ah H5;rw[if_neg (λz=>hk z.2)] at this;exact aj this
       have hk2:(k.toList==[107,101,101,112])=false:=by
        have z:=ag9 hk;rw[akM aO] at z;exact z
       clear H5;go_wp2_with fail;refine⟨⟨i+1,n,rfl,by go_num,by omega,by omega,H5'⟩,?_⟩;simp[intOf];omega
     ·have hE2:(E==0)=false:=by simpa using hE
      have H5':Hid (Ir RH CH w sp push n [] w5):=by have:=ah H5;rw[if_neg (λz=>hE z.1)] at this;exact aj this
      clear H5;go_wp2_with fail;refine⟨⟨i+1,n,rfl,by go_num,by omega,by omega,H5'⟩,?_⟩;simp[intOf];omega
    ·obtain rfl:i=l.length:=by omega
     clear D1 VO HSm PP;go_wp2_with fail;go_loopw [16,69] (λv16 iv wr=>∃(i S:Nat) (q:List dD),v16=aa S/\iv=aa i/\i<=bl.length/\S<=50*i/\mQ q=(S:Int)/\Hid (Ir RH CH w sp push n q wr/\NoEnd q/\∀p∈q,1<=p.b)) (λ_ iv _=>bl.length-(intOf iv).toNat)
     case atStart=>exact⟨0,0,[],rfl,rfl,ajO _,agH _,rfl,aj ⟨ah HP,(λp hp=>by cases hp),λp hp=>by cases hp⟩⟩
     case round =>
      clear HP;obtain⟨i,S,q,rfl,rfl,hi,hS,hsum,HP⟩:=hrel;by_cases hlt:i<bl.length
      ·obtain⟨b,o,rfl,hlb,hc⟩:=ah HSb i hlt;obtain⟨bb,hbb⟩:∃bb,nth bl i=bb:=⟨_,rfl⟩;have c0:=((ah B1 _ _ _ _ (ah HP).1).cell (p:=aq b (o+i)) hlb).trans hc;rw[hbb] at c0;have aiW:b<wr.heap.size:=ajz hlb (ah B1 _ _ _ _ (ah HP).1).size;have Q:=aj (ah D2 sp n q _ (ah HP).1 (ah HP).2.1 (ah HP).2.2 bb);clear HP D2 D3 N1 B1 HSb hc hlb hbb;go_wp2_with fail;refine(ah Q).mono ?_;rintro e w4 ⟨E,q',rfl,hp1,hp2,hk,hq,hb,hs,h50⟩;have H4:=aj (show Ir RH CH w sp push n q' w4/\NoEnd q'/\∀p∈q',1<=p.b from⟨hk,hq,hb⟩);clear Q hk hq hb c0
       cases push with
       | true =>
        obtain rfl:=hp1 rfl;rw[if_neg (by decide)] at hs;clear hp1 hp2 h50;go_wp2_with fail;refine⟨⟨i+1,S,q',rfl,by go_num,by omega,by omega,by rw[hs];exact hsum,H4⟩,?_⟩;simp[intOf];omega
       | false =>
        have ajw:(E==11)=false:=by simpa using hp2 rfl
        clear hp1 hp2;by_cases hE:E=0
        ·subst hE;obtain⟨hb1,hb2⟩:=h50 rfl;rw[if_pos rfl] at hs;have hbn:∃m:Nat,bb=(m:Int):=⟨bb.toNat,by omega⟩;obtain⟨m,rfl⟩:=hbn;clear h50;go_wp2_with fail;refine⟨⟨i+1,S+m,q',by go_num,by go_num,by omega,by omega,by rw[hs,hsum];go_num,H4⟩,?_⟩;simp[intOf];omega
        ·have hE2:(E==0)=false:=by simpa using hE
         rw[if_neg hE] at hs;clear h50;go_wp2_with fail;refine⟨⟨i+1,S,q',rfl,by go_num,by omega,by omega,by rw[hs];exact hsum,H4⟩,?_⟩;simp[intOf];omega
      ·obtain rfl:i=bl.length:=by omega
       have Q:=aj (ah D3 sp n S q _ (ah HP).1 (by omega) (ah HP).2.1 (ah HP).2.2 hsum (by omega));clear HP D2 D3 N1 B1 HSb;go_wp2_with fail;refine(ah Q).mono ?_;rintro e w4 ⟨da,dc,dl,rfl,hlen,hrise,hsd,hb4⟩;have HD:=aj hsd;have HR:=aj hrise;have HB:=aj hb4;clear Q hsd hrise hb4;obtain⟨M,hM⟩:∃M:Nat,min (n:Int) (S:Int)=(M:Int):=⟨min n S,by omega⟩;have HLen:=aj (show dl.length=if push=true then n else M by rw[hlen];split<;>omega);clear hlen;go_upto_if 95 with fail
       go_cut [22] (λv22 wx=>v22=aa (dl.length:Int)/\wx=w4)
       case first =>
        clear HD HR HB
        cases push with
        | true =>
         go_wp2_with fail;go_meet
         exact⟨by rw[ah HLen];simp,rfl⟩
        | false =>
         go_wp2_with fail;go_meet
         exact⟨by rw[ah HLen];simp,rfl⟩
       case rest =>
        obtain⟨rfl,rfl⟩:=hcut;have ajx:dl.length<=60:=by
         have:=ah HLen;split at this<;>omega
        clear HLen hM;go_wp2_with fail;go_loopw [99] (λiv wr=>∃i:Nat,iv=aa i/\i<=dl.length/\Hid (XM wr da dl/\ai w wr)) (λiv _=>dl.length-(intOf iv).toNat)
        case atStart=>exact⟨0,rfl,ajO _,aj ⟨ah HD,ah HB⟩⟩
        case round =>
         clear HD HB;obtain⟨i,rfl,hi,HD⟩:=hrel;by_cases hlt:i<dl.length
         ·obtain⟨b,o,rfl,lb,d0,d1,d2,d3,d4,d5⟩:=(ah HD).1 i hlt;obtain⟨x,hx⟩:∃x,Ar dl i=x:=⟨_,rfl⟩;rw[hx] at d0 d1 d2 d3 d4 d5;obtain⟨W5,Dj⟩:∃W5,W5=wr.alloc (.cells #[aa x.q,.string x.s,.string x.d,aa x.c,aa x.n,aa x.l] 35):=⟨_,rfl⟩;have b5:ai wr W5:=by rw[Dj];exact ax _ _
          have r5:CB W5 wr.heap.size [aa x.q,.string x.s,.string x.d,aa x.c,aa x.n,aa x.l]:=by rw[Dj];exact CB.new wr [aa x.q,.string x.s,.string x.d,aa x.c,aa x.n,aa x.l] _
          have HE:=aj (λk=>And.intro ((((ah HD).1.below b5)).below (below_drewN (agP _ _) k)) (ak (ak (ah HD).2 b5) (below_drewN (agP _ _) k)));have e0:=r5.cell 0 _ rfl;by_cases h0:i=0
          ·subst h0;have hd:decide ((0:Int)<((0:Nat):Int))=false:=rfl;simp only[Nat.zero_mul,alK] at d0 d1 d2 d3 d4 d5;clear HD b5 r5 hx;go_upto_region 36 with fail
           rw[show wr.alloc (.cells #[aa x.q,.string x.s,.string x.d,aa x.c,aa x.n,aa x.l] 35)=W5 from Dj.symm];clear Dj;go_quiet (fail)
           go_wp2_with fail;refine⟨⟨1,rfl,by omega,aj (ah HE _)⟩,?_⟩;simp[intOf];omega
          ·obtain⟨j,rfl⟩:∃j,i=j+1:=⟨i-1,by omega⟩;obtain⟨b',o',e',lb',f0,_⟩:=(ah HD).1 j (by omega)
           cases e'
           obtain⟨y,hy⟩:∃y,Ar dl j=y:=⟨_,rfl⟩;rw[hy] at f0;have f5:=(b5.cell (p:=aq b (o+j*6)) lb).trans f0;have hq:y.q<x.q:=by
            rw[<-hx,<-hy,Og hlt,Og (by omega)];exact ale.1 (ah HR) j (j+1) (by omega) hlt (by omega)
           have hd:decide ((0:Int)<((j+1:Nat):Int))=true:=ajH (by omega);have hle:decide (x.q<=y.q)=false:=ajE (by omega);have ajy:b<W5.heap.size:=ajz lb b5.size;have hj1:((j+1:Nat):Int)-1=(j:Int):=by omega
           have hw1:IntKind.i64.wrap (((j+1:Nat):Int)-1)=(j:Int):=by rw[akl];omega
           have hjl:(j:Int)<(dl.length:Int):=by omega
           have hjn:j<dl.length:=by omega
           clear HD b5 r5 hx hy f0;go_upto_region 36 with fail
           rw[show wr.alloc (.cells #[aa x.q,.string x.s,.string x.d,aa x.c,aa x.n,aa x.l] 35)=W5 from Dj.symm];clear Dj;go_quiet (fail)
           go_wp2_with fail;refine⟨⟨j+2,by go_num,by omega,aj (ah HE _)⟩,?_⟩;simp[intOf];omega
         ·obtain rfl:i=dl.length:=by omega
          have HB:=aj (ah HD).2;clear HD HR;go_wp2_with fail;go_ret;exact⟨rfl,ah HB⟩
end
