/- A part. -/
import Derived.Test.YtidekgipblnpkaaGreatDoorQ34
import Derived.Test.YtidekgipblnpkaaGreatDoorQ36
import Derived.Test.YtidekgipblnpkaaGreatDoorQ38
import Derived.Test.YtidekgipblnpkaaGreatDoorQ44
set_option maxRecDepth 100000
set_option maxHeartbeats 8000000
namespace Go.Proofs.YtidekgipblnpkaaGreatDoor
open Go.RowKit Go.Proofs.Tryz
namespace Dk
def Rs (F:Nat->Prop)(ov:Value)(w wr:World)(B x p c:Nat)(m size:Int)(es:List ay)(l:List Rc)(s:aJ):Prop :=
 Rn F (λk=>ov.ownBlock=some k) w wr B x p c m size es s/\aT wr w.heap.size ov l
theorem aO.arr {Cs:Nat->Prop}{w w':World}{B:Nat}{v:Value}{l:List Rc}(h:aO Cs w w')(a:aT w B v l)(hn:∀g,v.ownBlock=some g->Cs g):aT w' B v l:=by
 refine⟨a.1,?_⟩;rcases a.2 with q|⟨g,cap,cur,h1,h2,h3,r⟩
 ·exact .inl q
 ·refine .inr ⟨g,cap,cur,h1,h2,?_,r⟩;rw[h.2 g (hn g (by rw[h1];rfl))];exact h3
theorem Rn.renew {F:Nat->Prop}{w w1 w2:World}{B x p c:Nat}{m size:Int}{es:List ay}{s:aJ}{v ov:Value}{G:Nat->Prop}{l:List Rc}(h1:Sa w1 B x p c v G m size es s)(h2:aH F w w1)(h3:∀k,saF x p v G k->F k\/w.heap.size<=k)(ht:Told w1 w2 B p m v ov es l)(hB:B<=w1.heap.size) :
 Rs F ov w ((w2.alloc (.cells #[.slice none 0 0,.int .i64 0] 41)).setCell ⟨x,1,none⟩ (.pointer (some ⟨w2.heap.size,0,none⟩))) B x p w2.heap.size m size es l ⟨[],0⟩/\w2.cell? ⟨x,1,none⟩=some (.pointer (some ⟨c,0,none⟩))/\w2.frozen? ⟨x,1,none⟩=false/\x<w2.heap.size:=by
 obtain⟨v',t1,t2,t3,t4,t5⟩:=ht;have hx1:=h1.lt;have hx2:x<w2.heap.size:=ajc h1.lt t3.size;have e:∀j,w2.cell? ⟨x,j,none⟩=w1.cell? ⟨x,j,none⟩:=λj=>t3.cell (p:=⟨x,j,none⟩) h1.lt h1.xd
 have ef:w2.frozen? ⟨x,1,none⟩=false:=by rw[t3.frozen (p:=⟨x,1,none⟩) h1.lt h1.xd];exact h1.free
 have hb:Below w2.heap.size w2 (w2.alloc (.cells #[.slice none 0 0,.int .i64 0] 41)):=(ajb _ _).alloc (Xc _) _;have hg:∀k,jG p v' k->jG p v k\/w1.heap.size<=k:=λk hk=>by
  rcases hk with z|z
  ·exact .inl (.inl z)
  ·rcases t4 k z with y|y
   ·exact .inl (.inr y)
   ·exact .inr y
 have hxd:¬jG p v' x:=λz=>by
  rcases hg x z with y|y
  ·exact h1.xd y
  ·omega
 have cs:aH (λk=>k=x) (w2.alloc (.cells #[.slice none 0 0,.int .i64 0] 41)) ((w2.alloc (.cells #[.slice none 0 0,.int .i64 0] 41)).setCell ⟨x,1,none⟩ (.pointer (some ⟨w2.heap.size,0,none⟩))):=(aH.refl _ _).setCell (A:=λk=>k=x) (p:=⟨x,1,none⟩) (.inl rfl) _;have hxo:ov.ownBlock≠some x:=λz=>by have:=(ajz t1 x z).1;omega
 refine⟨⟨⟨v',λk=>k=w2.heap.size,⟨(t2.below hb).bZ cs (λk hk z=>by subst z;exact hxd hk),?_,h1.base,?_,?_,?_,?_,?_,λk hk z=>?_,hxd,λz=>by omega⟩,?_,λk hk=>?_,λk hk=>?_⟩,?_⟩,(e 1).trans h1.c1,ef,hx2⟩
 ·refine qg.bZ (A:=λk=>k=x) ⟨.slice none 0 0,⟨aje hB t3.size,by simp⟩,by simp,by simp,by simp,by simp,aT.empty _ _,by simp[Value.ownBlock],λk=>by simp[Value.ownBlock]⟩ cs (λk hk z=>by omega)
 ·exact ajc (ajc hx2 hb.size) cs.size
 ·rw[aji _ _ _ _ (by simp),hb.cell (p:=⟨x,0,none⟩) hx2,e];exact h1.c0
 ·refine ajL _ _ _ (u:=.pointer (some ⟨c,0,none⟩)) ?_;rw[hb.cell (p:=⟨x,1,none⟩) hx2,e];exact h1.c1
 ·rw[aji _ _ _ _ (by simp),hb.cell (p:=⟨x,2,none⟩) hx2,e];exact h1.c2
 ·rw[ajt,hb.frozen (p:=⟨x,1,none⟩) hx2];exact ef
 ·have:=(t2.OU hk).2;omega
 ·have hF:aH F w w2:=oI h2 t3 (λi hi z=>by
   rcases h3 i (.inr (.inl z)) with y|y
   ·exact y
   ·omega)
  refine oI (hF.trans (aH.aA hb)) cs (λi hi z=>?_);subst z;rcases h3 i (.inl rfl) with y|y
  ·exact y
  ·omega
 ·rcases hk with z|z|z
  ·exact h3 k (.inl z)
  ·rcases hg k z with y|y
   ·exact h3 k (.inr (.inl y))
   ·exact .inr (aje h2.size y)
  ·right;subst z;exact aje h2.size t3.size
 ·have hl:=ajz t1 k hk;refine⟨ajc (ajc hl.2 hb.size) cs.size,λz=>?_⟩;rcases z with z|z|z
  ·subst z;exact hxo hk
  ·exact t5 k hk z
  ·omega
 ·exact((t1.below hb).bZ cs (λk hk z=>by subst z;exact hxo hk)).low h2.size
theorem Rs.apply {F:Nat->Prop}{ov:Value}{w wr:World}{B x p c:Nat}{m size:Int}{es:List ay}{l:List Rc}{s:aJ}(h:Rs F ov w wr B x p c m size es l s)(hk:s.Ok)(hB:B<=w.heap.size)(r:Rc)(hr:Small r) :
 Calls prog 78 #[.pointer (some ⟨c,0,none⟩),.agg #[.int .i64 r.k,.int .i64 r.q,.int .i64 r.t,.string r.s,.string r.h,.string r.d]] wr λe w'=>e=.returned (.int .i64 (bY s r))/\Rs F ov w w' B x p c m size es l (jW s r):=by
 refine(h.1.did (λG hG=>Jv r hr hG hk (aje hB h.1.room))).mono ?_;rintro e w' ⟨he,h1,h2⟩;exact⟨he,h1,h2.arr h.2 (λ_ z=>z)⟩
theorem Rs.below {F:Nat->Prop}{ov:Value}{w wr w':World}{B x p c:Nat}{m size:Int}{es:List ay}{l:List Rc}{s:aJ}(h:Rs F ov w wr B x p c m size es l s)(hb:Below wr.heap.size wr w'):Rs F ov w w' B x p c m size es l s:=⟨h.1.below hb,h.2.below hb⟩
theorem Rs.sl {F:Nat->Prop}{a:Option Addr}{n cap:Nat}{w wr:World}{B x p c:Nat}{m size:Int}{es:List ay}{l:List Rc}{s:aJ}(h:Rs F (.slice a n cap) w wr B x p c m size es l s):vk wr a l:=by
 obtain⟨a',cap',e,_,_,hs⟩:=h.2.shape;rw[(ajO e).1];exact hs
abbrev aii (x j c b o:Nat)(r:Rc)(w:World):Prop:=w.cell? ⟨x,j,none⟩=some (.pointer (some ⟨c,0,none⟩))/\w.cell? ⟨b,o,none⟩=some (.int .i64 r.k)/\w.cell? ⟨b,o+1,none⟩=some (.int .i64 r.q)/\w.cell? ⟨b,o+2,none⟩=some (.int .i64 r.t)/\w.cell? ⟨b,o+3,none⟩=some (.string r.s)/\w.cell? ⟨b,o+4,none⟩=some (.string r.h)/\w.cell? ⟨b,o+5,none⟩=some (.string r.d)
theorem Rs.WO {F:Nat->Prop}{b o n cap:Nat}{w wr:World}{B x p c:Nat}{m size:Int}{es:List ay}{l:List Rc}{s:aJ}(h:Rs F (.slice (some ⟨b,o,none⟩) n cap) w wr B x p c m size es l s){k:Nat}(hk:k<l.length){r:Rc}(hr:r=rc l k):aii x 1 c b (o+k*6) r wr:=by
 obtain⟨b',o',e,h6⟩:=h.sl k hk
 cases e
 rw[<-hr] at h6;exact⟨h.1.cells.2.1,h6.c0,h6.c1,h6.c2,h6.c3,h6.c4,h6.c5⟩
theorem Xj {w:World}{B x p:Nat}{F:Nat->Prop}{m size:Int}{es:List ay}{s:aJ}(keep:Int)(h:KH p w B x F m size es s)(hv:lS m es s)(hm:m<=65536)(hB:B<=w.heap.size) :
 Calls prog 85 #[.pointer (some ⟨x,0,none⟩),.int .i64 keep] w λe w'=>e=.returned (.tuple #[])/\OB (KH p) w w' B x F m size es s:=by
 obtain⟨c,r0,hfin⟩:=h.begin;have HF:=aj hfin;have HV:=aj hv;have hfew:=hv.tidy.iW;have x0:=r0.cells.1;have PC:Hid (Calls prog 121 #[.pointer (some ⟨p,0,none⟩),.int .i64 keep] w λe w'=>e=.returned (.tuple #[])/\Rn F (λ_=>False) w w' B x p c m size es s/\aO (λ_=>False) w w'):=aj (r0.Kr (es':=es) (Q:=λe _=>e=.returned (.tuple #[])) (λv hk=>by
  have:=Zf B p m v es keep w hk (by omega) (hv.tidy.sound (by omega));rw[(hv.uQ keep).1] at this;exact this))
 clear h r0 hfin hv;go_enter func85,ntmps85;go_wp2_with fail;refine(ah PC).mono ?_;rintro e w1 ⟨rfl,r1,_⟩;have hr1:=r1.room;have y0:=r1.cells.1;obtain⟨v,G,h1,h2,h3,_⟩:=r1;have PO:=aj (WS B p m v es w1 h1.Jk (ah HV).tidy hm (aje hB hr1));have hcr:=(ah HV).uQ keep;rw[hcr.2.1] at PO;have hlen:(bQ es).1.length<=200000:=by
  have:=xu es;have:=(ah HV).tidy.fits;omega
 have hsm:=wM es;have HS:Hid (kW (bQ es).1=s):=aj hcr.2.2;obtain⟨l,hl⟩:∃l,l=(bQ es).1:=⟨_,rfl⟩;rw[<-hl] at PO hlen hsm HS;have HM:=aj hsm;have HN:=aj (λw2 ov (ht:Told w1 w2 B p m v ov es l)=>Rn.renew h1 h2 h3 ht (aje hB hr1));clear PC hcr hl hsm h1 h2 h3;go_wp2_with fail;refine(ah PO).mono ?_;rintro e w2 ⟨ov,rfl,t2⟩;obtain⟨n2,n3,n4,n5⟩:=ah HN w2 ov t2;have R3:Hid (Rs F ov w _ B x p w2.heap.size m size es l (kW (l.take 0))):=aj n2;obtain⟨a,cap,hov,a1,a2,_⟩:=n2.2.shape;obtain⟨c2,hc2⟩:∃c,c=w2.heap.size:=⟨_,rfl⟩;clear PO HN n2 t2;subst hov;go_wp2_with fail
 rw[akI _ _ _ _ n5,<-hc2] at R3;rw[<-hc2];clear hc2;go_loopw [5] (λiv wr=>∃(k:Nat),iv=.int .i64 k/\k<=l.length/\Hid (Rs F (.slice a l.length cap) w wr B x p c2 m size es l (kW (l.take k)))) (λiv _=>l.length-(intOf iv).toNat)
 case atStart=>exact⟨0,rfl,ajm _,R3⟩
 case round =>
  clear R3;obtain⟨k,rfl,hkl,R4⟩:=hrel;by_cases hlt:k<l.length
  ·obtain⟨ga,o,rfl,_⟩:=(ah R4).sl k hlt;have hsm:=TW (ah HM) hlt;have hft:=JU hlt;obtain⟨r,hr⟩:∃r,r=rc l k:=⟨_,rfl⟩;rw[<-hr] at hsm hft;have R5:=aj ((ah R4).below (ajb _ _).drew);have k5:=(ah R5).WO hlt hr;have PA:=aj ((ah R5).apply (Je _) hB r hsm);rw[<-hft] at PA;have HK:=aj (λw' s' (h:Rs F (.slice (some ⟨ga,o,none⟩) l.length cap) w w' B x p c2 m size es l s')=>h.WO hlt hr);clear hr hft R4 R5;go_wp2_with fail;go_region_held3 (aii x 1 c2 ga (o+k*6) r) (first|assumption|go_keep)
    (first
     | (go_at_call 78;refine(ah PA).mono ?_;rintro e w6 ⟨rfl,r6⟩;have k6:=ah HK w6 _ r6;have R6:=aj r6;clear r6))
   clear k5 k6 PA HK;go_wp2_with fail;refine⟨⟨k+1,by go_num,by omega,R6⟩,?_⟩;simp[intOf];omega
  ·obtain rfl:k=l.length:=by omega
   have D3:=aj (ah HF _ _ _ _ _ (ah R4).1);rw[ajN,ah HS] at D3;clear R4 hlt;go_wp2_with fail;go_end0
   exact⟨rfl,ah D3⟩
section
variable {F0 Cs:Nat->Prop}{w wr:World}{B y x d:Nat}{a:Option Addr}{c:Nat}{P:Pn.cu}{m size:Int}{st:dW}
theorem Rr.vdo (h:Rr F0 Cs w wr B y x d a c P m size st)(hf:Fit P m size st)(hB:B<=w.heap.size)(r:Rc)(hr:Small r) :
 Calls prog 33 #[.pointer (some ⟨x,0,none⟩),.agg #[.int .i64 r.k,.int .i64 r.q,.int .i64 r.t,.string r.s,.string r.h,.string r.d]] wr λe w'=>e=.returned (.int .i64 (iJ st.es st.s m size r))/\Rr F0 Cs w w' B y x d a c P m size (pX m size st r)/\aO Cs wr w' :=
 h.did (Q:=λe _=>e=.returned (.int .i64 (iJ st.es st.s m size r))) (λ_ hG=>af9 r hr hG hf.rY hf.room (aje hB h.room))
theorem Rr.reads (h:Rr F0 Cs w wr B y x d a c P m size st):∃ch ar cap,wr.cell? ⟨y,10,none⟩=some (.pointer (some ⟨x,0,none⟩))/\wr.cell? ⟨x,1,none⟩=some (.pointer (some ⟨ch,0,none⟩))/\wr.cell? ⟨ch,0,none⟩=some (.slice ar st.s.l.length cap)/\wr.cell? ⟨ch,1,none⟩=some (.int .i64 st.s.last)/\st.s.l.length<=cap/\cap<=maxLen/\vk wr ar st.s.l/\x<wr.heap.size/\ch<wr.heap.size:=by
 obtain⟨ch,G,h1,h2,h3,h4⟩:=h.lU;obtain⟨ar,cap,k1,k2,k3,k4,k5,k6⟩:=h4.read;exact⟨ch,ar,cap,h1,h2,k1,k2,k3,k4,k5,h3,k6⟩
theorem Xk (h:Rr F0 Cs w wr B y x d a c P m size st)(hf:Fit P m size st)(hB:B<=w.heap.size)(f:ByteArray)(hs:f.size<=140737488355328)(below:Int) :
 Calls prog 35 #[.pointer (some ⟨y,0,none⟩),.string f,.int .i64 below] wr λe w'=>e=.returned (.tuple #[.int .i64 (xI m size f below st).1.1,.int .i64 (xI m size f below st).1.2])/\Rr F0 Cs w w' B y x d a c P m size (xI m size f below st).2/\aO Cs wr w':=by
 obtain⟨ch,ar,cap,q1,q2,q3,q4,q5,q6,_,q8,q9⟩:=h.reads;have hfew:=hf.rY.ok.iW;have aef:=(hf.did (fP below 0 f)).rY.ok.iW;have PD:=aj (show Calls prog 33 #[.pointer (some ⟨x,0,none⟩),.agg #[.int .i64 3,.int .i64 below,.int .i64 0,.string f,.string ⟨#[]⟩,.string ⟨#[]⟩]] wr _ from h.vdo hf hB (fP below 0 f) ⟨hs,dh,dh⟩);obtain⟨E,hE⟩:∃E,iJ st.es st.s m size (fP below 0 f)=E:=⟨_,rfl⟩;rw[hE] at PD;have HE:=aj hE;obtain⟨n1,hn1⟩:∃n,st.s.l.length=n:=⟨_,rfl⟩;rw[hn1] at q3 q5 hfew;have HN:=aj hn1;unfold maxLen at q6;clear h hf hE hn1;go_enter func35,ntmps35;go_wp2_with fail
 refine(ah PD).mono ?_;rintro e w1 ⟨rfl,r1,s1⟩;have R1:=aj r1;have S1:=aj s1;clear PD s1;by_cases h0:E=0
 ·have hp:xI m size f below st=(((n1:Int)-((lq st.es st.s m size (fP below 0 f)).l.length:Int),0),pX m size st (fP below 0 f)):=by
   unfold xI;rw[if_neg (by rw[ah HE,h0];simp),ah HN];rfl
  have HP:=aj hp;obtain⟨ch1,ar1,cap1,z1,z2,z3,z4,z5,z6,_,z8,z9⟩:=r1.reads;have hsS:(pX m size st (fP below 0 f)).s=lq st.es st.s m size (fP below 0 f):=rfl;rw[hsS] at z3 z5 aef;obtain⟨n2,hn2⟩:∃n,(lq st.es st.s m size (fP below 0 f)).l.length=n:=⟨_,rfl⟩;rw[hn2] at z3 z5 HP aef;unfold maxLen at z6;subst h0;clear hp r1 hsS hn2 q1 q2 q3 q4 q5 q6 q8 q9;go_wp2_with fail;go_ret2;rw[ah HP];exact⟨rfl,ah R1,ah S1⟩
 ·have hp:xI m size f below st=((0,E),st):=by
   unfold xI;rw[if_pos (by rw[ah HE];exact h0),ah HE]
  have hb:pX m size st (fP below 0 f)=st:=by
   unfold pX qL lq;rw[if_neg (by rw[ah HE];exact h0),if_neg (by rw[ah HE];exact h0)]
  have HP:=aj hp;rw[hb] at r1;have R2:=aj r1;have e5:(E !=0)=true:=by simpa using h0
  clear hp hb r1 R1 q1 q2 q3 q4 q5 q6 q8 q9;go_wp2_with fail;go_ret2;rw[ah HP];exact⟨rfl,ah R2,ah S1⟩
theorem Rr.AY (h:Rr F0 Cs w wr B y x d a c P m size st):Rr F0 Cs w (wr.setCell ⟨y,11,none⟩ (.slice none 0 0)) B y x d a c P m size ⟨st.es,st.s,[]⟩/\aO Cs wr (wr.setCell ⟨y,11,none⟩ (.slice none 0 0)):=by
 have hr:=h.room;obtain⟨v,G,h1,h2,h3,h4⟩:=h;obtain⟨k1,k2⟩:=h1.keeps (v':=.slice none 0 0) (qo:=[]) (AO.empty _ _) (aH.refl _ _) (λg hg=>by simp[Value.ownBlock] at hg);refine⟨⟨_,G,k1,oI h2 k2 (λi hi z=>?_),λk hk=>?_,λk hk=>⟨ajc (h4 k hk).1 k2.size,λz=>?_⟩⟩,k2.size,λk hk=>k2.block k (h4 k hk).1 (λz=>?_)⟩
 ·have hv:rvF y v G i:=by
   rcases z with z|z
   ·exact .inl z
   ·exact .inr (.inl z)
  rcases h3 i hv with u|u
  ·exact u
  ·omega
 ·rcases hk with z|z|z
  ·exact h3 k (.inl z)
  ·simp[Value.ownBlock] at z
  ·exact h3 k (.inr (.inr z))
 ·rcases z with z|z|z
  ·exact(h4 k hk).2 (.inl z)
  ·simp[Value.ownBlock] at z
  ·exact(h4 k hk).2 (.inr (.inr z))
 ·rcases z with z|z
  ·exact(h4 k hk).2 (.inl z)
  ·exact(h4 k hk).2 (.inr (.inl z))
theorem Rr.idc (h:Rr F0 Cs w wr B y x d a c P m size st):∃ar cap,wr.cell? ⟨y,11,none⟩=some (.slice ar st.ids.length cap)/\wr.frozen? ⟨y,11,none⟩=false/\st.ids.length<=cap/\cap<=maxLen/\SlK wr ar st.ids:=by
 obtain⟨v,G,h1,_⟩:=h;obtain⟨ar,cap,rfl,k1,k2,k3⟩:=h1.ids.shape;exact⟨ar,cap,h1.Ku,h1.fz,k1,k2,k3⟩
theorem Xl (h:Rr F0 Cs w wr B y x d a c P m size st)(hf:Fit P m size st)(hB:B<=w.heap.size)(keep:Int) :
 Calls prog 40 #[.pointer (some ⟨y,0,none⟩),.int .i64 keep] wr λe w'=>e=.returned (.tuple #[])/\Rr F0 Cs w w' B y x d a c P m size ⟨st.es,st.s,[]⟩/\aO Cs wr w':=by
 obtain⟨ch,G,q1,_⟩:=h.lU;have hyl:=h.lt;have PC:=aj (h.did (es':=st.es) (s':=st.s) (Q:=λe _=>e=.returned (.tuple #[])) (λ_ hG=>Xj keep hG hf.rY hf.room (aje hB h.room)));clear h hf;go_enter func40,ntmps40;go_wp2_with fail;refine(ah PC).mono ?_;rintro e w1 ⟨rfl,r1,s1⟩;obtain⟨ar,cap,z1,z2,_⟩:=r1.idc;have hy1:=r1.lt;have HE:=aj (show Rr F0 Cs w (w1.setCell ⟨y,11,none⟩ (.slice none 0 0)) B y x d a c P m size ⟨st.es,st.s,[]⟩/\aO Cs wr (w1.setCell ⟨y,11,none⟩ (.slice none 0 0)) from⟨r1.AY.1,s1.trans r1.AY.2⟩);clear PC r1 s1;go_wp2_with fail;go_end0
 exact⟨rfl,ah HE⟩
end
