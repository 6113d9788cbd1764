/- A part. -/
import Derived.Test.YtidekgipblnpkaaGreatDoorQ17
import Derived.Test.YtidekgipblnpkaaGreatDoorQ25
import Derived.Test.YtidekgipblnpkaaGreatDoorQ33
import Derived.Test.YtidekgipblnpkaaGreatDoorQ35
set_option maxRecDepth 100000
set_option maxHeartbeats 8000000
namespace Go.Proofs.YtidekgipblnpkaaGreatDoor
open Go.RowKit Go.Proofs.Tryz
namespace Dk
theorem lS.some {m size:Int}{es:List ay}{s:aJ}(h:lS m es s){r:Rc}(h0:(jl es m size r).1=0):0<(jl es m size r).2.length:=by
 obtain⟨lg,h1,_⟩:=h.safe;have h2:=h1.append h.tidy h0
 cases hl:(jl es m size r).2 with
 | cons y ys=>simp
 | nil =>
  rw[hl] at h2;rcases h2 with ⟨_,z⟩|⟨pre,e,A,L,j,z,_⟩
  ·simp at z
  ·have:fM ([]:List ay)=[]:=rfl;rw[this] at z;have:=congrArg List.length z;simp at this
theorem ND (es:List ay)(n:Int):(dO es n).length=es.length:=by unfold dO;split<;>simp
theorem af8 (es:List ay)(n:Int)(k:Nat):(pa (dO es n) k).n=(pa es k).n:=by
 unfold dO;split
 ·rename_i hi;by_cases e:ix es n=k
  ·subst e;simp[pa,hi]
  ·simp[pa,e]
 ·rfl
theorem aaS (B p:Nat)(m:Int)(v:Value)(es:List ay)(n:Int)(w:World)(hk:aY w B p m v es)(dK:es.length<=100)(hh:ix es n<es.length) :
 Calls prog 77 #[.pointer (some ⟨p,0,none⟩),.int .i64 n] w λe w'=>e=.returned (.int .i64 0)/\aY w' B p m v (dO es n)/\aH (jG p v) w w':=by
 have Hk:=aj hk;clear hk;have Ha:=aj (oN hh);have HR:Hid (dO es n=es.set (ix es n) {pa es (ix es n) with sure:=((pa es (ix es n)).text.size:Int)}):=aj (by unfold dO;rw[if_pos hh]);generalize ix es n=q at hh Ha HR;obtain⟨g,cap,rfl,c1,c2,c3,c4⟩:=(ah Hk).arr.there (by omega);unfold maxLen at c2;go_enter func77,ntmps77;go_wp2_with fail;refine(lH B p m _ es n _ (ah Hk) dK).mono ?_;rintro e w1 ⟨rfl,hb1⟩;rw[ah Ha];have k1:=(ah Hk).below hb1;have d1:=k1.cell;have d2:=k1.arr.text hh;have d3:=k1.arr.sure hh;have d4:=akj k1.arr (q*3+1);have K1:=aj k1
 clear k1;go_wp2_with fail;go_region
 have HU:=aj ((ah K1).sure hh ((pa es q).text.size:Int));go_wp2_with fail;go_ret;refine⟨rfl,?_⟩;rw[ah HR];have k1:=(ah HU).1;rw[akq] at k1;exact⟨k1.below (ajb _ _).drew,(aH.aA hb1).trans ((ah HU).2.trans (aH.aA (ajb _ _).drew))⟩
theorem Rn.synced {F0 Cs:Nat->Prop}{w wr:World}{B x p c:Nat}{m size:Int}{es:List ay}{s:aJ}(h:Rn F0 Cs w wr B x p c m size es s){k:Nat}(hk:k+1=es.length)(ht:Tidy m es):∃g cap,wr.cell? ⟨x,0,none⟩=some (.pointer (some ⟨p,0,none⟩))/\wr.cell? ⟨p,1,none⟩=some (.slice (some ⟨g,0,none⟩) es.length cap)/\wr.cell? ⟨g,k*3,none⟩=some (.int .i64 (pa es k).n)/\es.length<=cap/\cap<=maxLen /\
 Calls prog 77 #[.pointer (some ⟨p,0,none⟩),.int .i64 (pa es k).n] wr λe w'=>(e=.returned (.int .i64 0)/\w'.cell? ⟨p,1,none⟩=some (.slice (some ⟨g,0,none⟩) es.length cap)/\w'.cell? ⟨g,k*3,none⟩=some (.int .i64 (pa es k).n))/\Rn F0 Cs w w' B x p c m size (fM es) s/\aO Cs wr w':=by
 have hfew:=ht.iW;obtain⟨v,G,h1,h2,h3,h4⟩:=h;obtain⟨g,cap,hv,f1,f2,_⟩:=h1.Jk.arr.there (by omega);have hd:=h1.Jk.cell;have ha:=h1.Jk.arr;rw[hv] at hd ha;have hh:ix es (pa es k).n<es.length:=by
  have:=abr ht (show k<es.length by omega);unfold oP at this;apply aju;intro z;rw[if_neg z] at this
  cases this
 refine⟨g,cap,h1.c0,hd,ha.num (by omega),f1,f2,?_⟩;refine((aaS B p m v es (pa es k).n wr h1.Jk (by omega) hh).mono ?_);rintro e w' ⟨he,k7,c7⟩;have hd7:=k7.cell;have ha7:=k7.arr;rw[hv] at hd7 ha7;rw[<-ND es (pa es k).n] at ha7;have hn7:=ha7.num (k:=k) (by rw[ND];omega);rw[af8] at hn7;rw[IB hk];obtain⟨v',a1,a2,a3⟩:=h1.Kr ⟨v,k7,c7,λ_ z=>.inl z⟩;have hr:=h2.size;refine⟨⟨he,hd7,hn7⟩,⟨v',G,a1,oI h2 a2 (λi hi z=>?_),λk hk=>?_,λk hk=>⟨ajc (h4 k hk).1 a2.size,λz=>?_⟩⟩,a2.size,λk hk=>a2.block k (h4 k hk).1 (λz=>(h4 k hk).2 (.inr (.inl z)))⟩
 ·rcases h3 i (.inr (.inl z)) with y|y
  ·exact y
  ·omega
 ·rcases hk with z|z|z
  ·exact h3 k (.inl z)
  ·rcases a3 k z with y|y
   ·exact h3 k (.inr (.inl y))
   ·exact .inr (aje hr y)
  ·exact h3 k (.inr (.inr z))
 ·rcases z with z|z|z
  ·exact(h4 k hk).2 (.inl z)
  ·rcases a3 k z with y|y
   ·exact(h4 k hk).2 (.inr (.inl y))
   ·have:=(h4 k hk).1;omega
  ·exact(h4 k hk).2 (.inr (.inr z))
abbrev At3 (x p g k l cap:Nat)(n:Int)(w:World):Prop:=w.cell? ⟨x,0,none⟩=some (.pointer (some ⟨p,0,none⟩))/\w.cell? ⟨p,1,none⟩=some (.slice (some ⟨g,0,none⟩) l cap)/\w.cell? ⟨g,k*3,none⟩=some (.int .i64 n)
abbrev At8 (x p b:Nat)(size:Int)(r:Rc)(w:World):Prop:=w.cell? ⟨x,2,none⟩=some (.int .i64 size)/\At7 x 0 p b r w
theorem af9 {w:World}{B x p:Nat}{F:Nat->Prop}{m size:Int}{es:List ay}{s:aJ}(r:Rc)(hr:Small r)(h:KH p w B x F m size es s)(hv:lS m es s)(hm:m<=65536)(hB:B<=w.heap.size) :
 Calls prog 33 #[.pointer (some ⟨x,0,none⟩),.agg #[.int .i64 r.k,.int .i64 r.q,.int .i64 r.t,.string r.s,.string r.h,.string r.d]] w λe w'=>e=.returned (.int .i64 (iJ es s m size r))/\OB (KH p) w w' B x F m size (qL es s m size r) (lq es s m size r):=by
 obtain⟨c,r0,hfin⟩:=h.begin;have HF:=aj hfin;have HV:=aj hv;have hal:Below w.heap.size w (w.alloc (.cells #[.int .i64 r.k,.int .i64 r.q,.int .i64 r.t,.string r.s,.string r.h,.string r.d] 73)):=(ajb _ _).alloc (Xc _) _;obtain⟨w1,hw1⟩:∃W,W=w.alloc (.cells #[.int .i64 r.k,.int .i64 r.q,.int .i64 r.t,.string r.s,.string r.h,.string r.d] 73):=⟨_,rfl⟩;have R1:=aj (r0.lF (jR:=λk=>k=w.heap.size) hal (λk hk=>.inr ⟨by omega,by subst hk;simp⟩));have C1:=aj (RB.new w r.k r.q r.t r.s r.h r.d 73);rw[<-hw1] at R1 C1;have R2:=aj ((ah R1).below (ajb _ _).drew);have C2:=aj ((ah C1).next (ajb _ _).drew)
 have k2:=WO (ah C2) (ah R2).cells.2.1;have PT:=aj (show Calls prog 75 #[.pointer (some ⟨c,0,none⟩),.agg #[.int .i64 r.k,.int .i64 r.q,.int .i64 r.t,.string r.s,.string r.h,.string r.d]] _ λe w'=>e=.returned (.int .i64 (bY s r))/\Below _ _ w' from by
  obtain⟨v,G,h1,_⟩:=ah R2;exact wG r hr h1.jL hv.ok)
 obtain⟨E,hE⟩:∃E,bY s r=E:=⟨_,rfl⟩;rw[hE] at PT;have HE:=aj hE;clear h r0 hfin hv hal R1 C1 hE;go_enter func33,ntmps33;go_wp2_with fail;rw[<-hw1];clear hw1;go_region_held3 (At7 x 1 c w.heap.size r) (first|assumption|go_keep)
  (first
   | (go_at_call 75;refine(ah PT).mono ?_;rintro e w3 ⟨rfl,b3⟩;have R3:=aj ((ah R2).below b3);have C3:=aj ((ah C2).next b3);have k3:=WO (ah C3) (ah R3).cells.2.1;clear b3))
 clear k2 k3 PT R2 C2;by_cases h0:E=0
 ·have HT:=aj ((ah HE).trans h0);subst h0;have R4:=aj ((ah R3).below (ajb _ _).drew);have C4:=aj ((ah C3).next (ajb _ _).drew);have k4:At8 x p w.heap.size size r _:=⟨(ah R4).cells.2.2.1,WO (ah C4) (ah R4).cells.1⟩;have PA:=aj ((ah R4).Kr (Q:=λe _=>e=.returned (.int .i64 (iq es m size r).1)) (es':=(iq es m size r).2) (λv hk=>WM B p m size v es r _ hk (ah HV).tidy hm hr (aje hB (ah R4).room)));rw[<-(ah HV).Yb.log] at PA;obtain⟨E2,hE2⟩:∃E,(jl es m size r).1=E:=⟨_,rfl⟩;rw[hE2] at PA;have HE2:=aj hE2;clear HE R3 C3 hE2
  go_wp2_with fail;go_region_held3 (At8 x p w.heap.size size r) (first|assumption|go_keep)
   (first
    | (go_at_call 76;refine(ah PA).mono ?_;rintro e w5 ⟨rfl,r5,s5⟩;have R5:=aj r5;have C5:=aj (sK (ah C4) s5 rfl);have k5:At8 x p w.heap.size size r w5:=⟨(ah R5).cells.2.2.1,WO (ah C5) (ah R5).cells.1⟩;clear r5 s5))
  clear k4 k5 PA R4 C4;by_cases h1:E2=0
  ·have hpos:=(ah HV).some ((ah HE2).trans h1);obtain⟨e1,e2,e3⟩:=adD (ah HT) ((ah HE2).trans h1);subst h1;have HR:=aj (And.intro e1 (And.intro e2 (And.intro e3 (ah HT))));have ht5:=(ah HV).tidy.abn size r;generalize (jl es m size r).2=es5 at *;obtain⟨k,hk⟩:∃k,k+1=es5.length:=⟨es5.length-1,by omega⟩;have hfew:=ht5.iW;have R6:=aj ((ah R5).below (ajb _ _).drew);have C6:=aj ((ah C5).next (ajb _ _).drew);obtain⟨g,cap,z0,z1,z2,z3,z4,PS0⟩:=(ah R6).synced hk ht5;have PS:=aj PS0;unfold maxLen at z4;obtain⟨N,hN⟩:∃N,es5.length=N:=⟨_,rfl⟩;obtain⟨n,hn⟩:∃n,(pa es5 k).n=n:=⟨_,rfl⟩
   rw[hN,hn] at PS;rw[hN] at z1 z3 hk hfew;rw[hn] at z2;have k6:At3 x p g k N cap n _:=⟨z0,z1,z2⟩;have hw:IntKind.i64.wrap ((N:Int)-1)=(k:Int):=by rw[ajq];omega
   have hk2:k<N:=by omega
   clear e1 e2 e3 HE2 HT z0 z1 z2 ht5 R5 C5 hk hpos hN hn PS0;go_wp2_with fail;go_region_held3 (At3 x p g k N cap n) (first|assumption|go_keep)
    (first
     | (go_at_call 77;refine(ah PS).mono ?_;rintro e w7 ⟨⟨rfl,q1,q2⟩,r7,s7⟩;have k7:At3 x p g k N cap n w7:=⟨r7.cells.1,q1,q2⟩;have R7:=aj r7;have C7:=aj (sK (ah C6) s7 rfl);clear r7 s7 q1 q2))
   have R8:=aj ((ah R7).below (ajb _ _).drew);have C8:=aj ((ah C7).next (ajb _ _).drew);have k8:=WO (ah C8) (ah R8).cells.2.1;have PD:=aj ((ah R8).did (λG hG=>Jv r hr hG (ah HV).ok (aje hB (ah R8).room)));rw[show bY s r=0 from(ah HR).2.2.2] at PD;clear k6 k7 PS R6 C6 R7 C7 hw hk2 z3 z4 hfew;go_wp2_with fail;go_region_held3 (At7 x 1 c w.heap.size r) (first|assumption|go_keep)
    (first
     | (go_at_call 78;refine(ah PD).mono ?_;rintro e w9 ⟨rfl,r9,s9⟩;have R9:=aj r9;have C9:=aj (sK (ah C8) s9 rfl);have k9:=WO (ah C9) (ah R9).cells.2.1;clear r9 s9))
   clear k8 k9 PD R8 C8;go_wp2_with fail;go_ret;obtain⟨e1,e2,e3,_⟩:=ah HR;rw[e1,e2,e3];exact⟨rfl,ah HF _ _ _ _ _ (ah R9)⟩
  ·obtain⟨e1,e2,e3⟩:=adC (ah HT) (by rw[ah HE2];exact h1);have e4:=Np (es:=es) (m:=m) (size:=size) (r:=r) (by rw[ah HE2];exact h1);have R6:Hid (Rn F (λk=>k=w.heap.size) w w5 B x p c m size es s):=by
    have:=R5;rw[e4] at this;exact this
   rw[ah HE2] at e1;have HR:=aj (And.intro e1 (And.intro e2 e3));have e5:(E2 !=0)=true:=by simpa using h1
   clear e1 e2 e3 e4 HE2 HT R5;go_wp2_with fail;go_ret;obtain⟨e1,e2,e3⟩:=ah HR;rw[e1,e2,e3];exact⟨rfl,ah HF _ _ _ _ _ (ah R6)⟩
 ·obtain⟨e1,e2,e3⟩:=adB (es:=es) (m:=m) (size:=size) (s:=s) (r:=r) (by rw[ah HE];exact h0);rw[ah HE] at e1;have HR:=aj (And.intro e1 (And.intro e2 e3));have e5:(E !=0)=true:=by simpa using h0
  clear e1 e2 e3 HE;go_wp2_with fail;go_ret;obtain⟨e1,e2,e3⟩:=ah HR;rw[e1,e2,e3];exact⟨rfl,ah HF _ _ _ _ _ (ah R3)⟩
theorem Rn.YQ {F0 Cs jR A:Nat->Prop}{w wr w':World}{B x p c:Nat}{m size:Int}{es:List ay}{s:aJ}(h:Rn F0 Cs w wr B x p c m size es s)(hc:aH A wr w')(hA:∀k,A k->Cs k/\w.heap.size<=k)(hn:∀k,jR k->Cs k\/wr.heap.size<=k/\k<w'.heap.size):Rn F0 jR w w' B x p c m size es s:=by
 obtain⟨v,G,h1,h2,h3,h4⟩:=h;refine⟨v,G,h1.bZ hc (λk hk z=>(h4 k (hA k z).1).2 hk),oI h2 hc (λi hi z=>by have:=(hA i z).2;omega),h3,λk hk=>?_⟩;rcases hn k hk with y|y
 ·exact⟨ajc (h4 k y).1 hc.size,(h4 k y).2⟩
 ·exact⟨y.2,λz=>by have:=(h1.own k z).2;omega⟩
theorem Rn.jL {F0 Cs:Nat->Prop}{w wr:World}{B x p c:Nat}{m size:Int}{es:List ay}{s:aJ}(h:Rn F0 Cs w wr B x p c m size es s):∃v,wr.cell? ⟨c,0,none⟩=some v/\wr.cell? ⟨c,1,none⟩=some (.int .i64 s.last)/\aT wr B v s.l:=by
 obtain⟨_,_,h1,_⟩:=h;obtain⟨v,_,h2,h3,_,_,h6,_⟩:=h1.jL;exact⟨v,h2,h3,h6⟩
abbrev aed (x p:Nat)(size:Int)(w:World):Prop:=w.cell? ⟨x,0,none⟩=some (.pointer (some ⟨p,0,none⟩))/\w.cell? ⟨x,2,none⟩=some (.int .i64 size)
theorem P8 {w:World}{B x p:Nat}{F:Nat->Prop}{m size:Int}{es:List ay}{s:aJ}(h:KH p w B x F m size es s)(hv:lS m es s)(hm:m<=65536)(hB:B<=w.heap.size) :
 Calls prog 39 #[.pointer (some ⟨x,0,none⟩)] w λe w'=>e=.returned (.int .i64 (rX es s m size))/\OB (KH p) w w' B x F m size (lT es s m size) s:=by
 obtain⟨c,r0,hfin⟩:=h.begin;have HF:=aj hfin;have hlast:=hv.ok.last;have hfew:=hv.ok.iW;have PW:=aj (λ(Cs:Nat->Prop) (wr:World) (hr:Rn F Cs w wr B x p c m size es s) (a:Option Addr) (k:Nat) (hsl:vk wr a (kX s))=>hr.Kr (es':=lT es s m size) (Q:=λe _=>e=.returned (.int .i64 (rX es s m size))) (λv hk=>KQ B p m size v es (kX s) a k wr hk hv.tidy hm hsl (JW hv.ok) (by have:=TY hv.ok;omega) (aje hB hr.room)));obtain⟨x0,x1,x2,xl⟩:=r0.cells;obtain⟨v0,d0,d1,ha0⟩:=r0.jL;obtain⟨v1,w1,hrun1,a1,c1,l1⟩:=JL w w.heap.size B (.slice none 0 0) v0 [] s.l (aT.empty _ _) ha0 (by simp;omega) (Xc _)
 rw[akh] at a1;have R1:=aj (r0.YQ (jR:=λk=>v1.ownBlock=some k) c1 (λk hk=>by simp[Value.ownBlock] at hk) (λk hk=>.inr (ajz a1 k hk)));have A1:=aj a1;have nU:=aj hrun1;obtain⟨a0,cap0,rfl,_,_,_⟩:=ha0.shape;obtain⟨n,hn⟩:∃n,s.last=n:=⟨_,rfl⟩;obtain⟨y0,y1,y2,yl⟩:=(ah R1).cells;obtain⟨v9,e0,e1,_⟩:=(ah R1).jL;obtain⟨aa,cap1,hv1,b1,b2,sl1⟩:=a1.shape;rw[hn] at d1 e1 hlast;have HN:=aj hn;have HS1:=aj sl1;clear h r0 hfin hv ha0 c1 l1 hrun1 hn sl1 a1;subst hv1;have PQ:=aj (λ(Cs:Nat->Prop) (wr:World) (hr:Rn F Cs w wr B x p c m size es s) (a:Option Addr) (k:Nat) (hsl:vk wr a (kX s))=>And.intro (show aed x p size wr.drew from⟨(hr.below (ajb _ _).drew).cells.1,(hr.below (ajb _ _).drew).cells.2.2.1⟩) (ah PW Cs wr.drew (hr.below (ajb _ _).drew) a k (hsl.below (ajb _ _).drew)))
 clear PW;by_cases h0:n=0
 ·subst h0;obtain⟨k2,PR0⟩:=ah PQ _ _ (ah R1) aa cap1 (by rw[uK (ah HN)];exact ah HS1);rw[uK (ah HN)] at PR0;have PR:=aj PR0;clear PQ HS1 A1 R1 PR0 HN;go_enter func39,ntmps39;go_wp2_with (at_builtin;refine ajy _ rfl _ _ _ _ rfl _ _ rfl rfl _ _ (ah nU) ?_);go_region_held3 (aed x p size) (first|assumption|go_keep)
   (first
    | (go_at_call 84;refine(ah PR).mono ?_;rintro e w3 ⟨rfl,r3,_⟩;have k3:aed x p size w3:=⟨r3.cells.1,r3.cells.2.2.1⟩))
  have D3:=aj (ah HF _ _ _ _ _ r3);clear PR r3 k2 k3;go_wp2_with fail;go_ret;exact⟨rfl,ah D3⟩
 ·have hp:0<s.last:=by rw[ah HN];omega
  have hne:decide (0<n)=true:=ajg (by omega);obtain⟨v8,w8,hrun,A8,C8,L8⟩:=Ua (w0:=w) (n:=n) (ah A1) hfew (ah R1).room;have R8:=(ah R1).YQ (jR:=λk=>v8.ownBlock=some k) C8 (λk hk=>⟨hk,(ajz (ah A1) k hk).1⟩) L8;obtain⟨a8,ahh,rfl,_,_,WR⟩:=A8.shape;rw[<-ah HN,<-uM hp] at WR;obtain⟨k2,PR0⟩:=ah PQ _ _ R8 a8 ahh WR;rw[uM hp,ah HN,show(s.l++[qF n]).length=s.l.length+1 by simp] at PR0;have PR:=aj PR0;have agM:=aj hrun;have hp2:0<n:=by omega
  clear PQ HS1 A1 R1 PR0 HN hp R8 A8 C8 L8 WR hrun h0 hlast;go_enter func39,ntmps39;go_wp2_with (at_builtin;first|(refine ajy _ rfl _ _ _ _ rfl _ _ rfl rfl _ _ (ah nU) ?_;clear nU)|(refine ajy _ rfl _ _ _ _ rfl _ _ rfl rfl _ _ (ah agM) ?_;clear agM));go_region_held3 (aed x p size) (first|assumption|go_keep)
   (first
    | (go_at_call 84;refine(ah PR).mono ?_;rintro e w3 ⟨rfl,r3,_⟩;have k3:aed x p size w3:=⟨r3.cells.1,r3.cells.2.2.1⟩))
  have D3:=aj (ah HF _ _ _ _ _ r3);clear PR r3 k2 k3;go_wp2_with fail;go_ret;exact⟨rfl,ah D3⟩
