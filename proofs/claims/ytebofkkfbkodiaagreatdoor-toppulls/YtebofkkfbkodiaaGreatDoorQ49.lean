/- A part. -/
import Derived.Test.YtebofkkfbkodiaaGreatDoorQ6
import Derived.Test.YtebofkkfbkodiaaGreatDoorQ31
import Derived.Test.YtebofkkfbkodiaaGreatDoorQ46
import Derived.Test.YtebofkkfbkodiaaGreatDoorQ47
import Derived.Test.YtebofkkfbkodiaaGreatDoorQ48
set_option maxRecDepth 100000
set_option maxHeartbeats 8000000
namespace Go.Proofs.YtebofkkfbkodiaaGreatDoor
open Go.RowKit Go.Proofs.Tryz
namespace Dk
variable {Bs N b g i p q sp:Nat}{v:Value}{l:List Rc}{y y2:Mb}{ps:Ps}{α:Type}{w0 w1 w2:I}{av:Option Addr}{R:Str}{u:FrameMode}{F' F1 FS:af}{f:List ad}{aG:List (Nat×List Value)}{cs:List Value}{K:Nat->Mb->Prop}{tl:List mM}
def RHx (Has:I->Nat->Nat->af->Int->List aB->Prop)(SH:I->Nat->Nat->af->aH->Prop)(w:I)(B x:Nat)(F:af)(P:Pn.aX)(m size:Int)(st:Str):Prop:=∃B0,B<=B0/\B0<=w.heap.size/\Qw Has SH w B0 x F P m size st
section
variable {Has:I->Nat->Nat->af->Int->List aB->Prop}{SH:I->Nat->Nat->af->aH->Prop}{w w':I}{B B0 x:Nat}{F:af}{P:Pn.aX}{m size:Int}{st st':Str}
theorem RHx.did (h:TP (Qw Has SH) w w' B0 x F P m size st')(hB:B<=B0)(hw:B0<=w.heap.size):TP (RHx Has SH) w w' B x F P m size st':=by
 obtain⟨F',h1,h2,h3⟩:=h;exact⟨F',⟨B0,hB,ajA hw h2.size,h1⟩,h2,h3⟩
theorem U3 (h:Qw Has SH w B x F P m size st) :
 Calls prog 34 #[ae x] w λe w'=>∃q G,e=.returned (ae q)/\SH w' B q G st.s/\(∀k,G k->F k)/\ai w w':=by
 obtain⟨FV,a,c,mb,h1,h2⟩:=h;have P1:=aj (Gt h1.pW);have HF:=aj (λk (hk:FV k)=>(h2 k).2 (.inl hk));clear h1 h2;go_enter func34,ntmps34;go_wp2_with fail;refine(ah P1).mono ?_;rintro e w1 ⟨q,G,rfl,h1,h2,b1⟩;have B1:=aj (show SH w1 B q G st.s/\(∀k,G k->F k)/\ai w w1 from⟨h1,λk hk=>ah HF k (h2 k hk),b1⟩);clear P1 h1 h2 b1;go_wp2_with fail;go_ret;exact⟨q,G,rfl,ah B1⟩
theorem ZG (U:Af Has SH)(N:Xt Has)(T:xU SH)(V:jF SH):abm fK (RHx Has SH) SH where
 own:=λh k hk=>by
  obtain⟨B0,h1,_,FV,a,c,mb,h3,h4⟩:=h;have:=h3.own U.H U.S k ((h4 k).1 hk);exact⟨ajA h1 this.1,this.2⟩
 aF:=λh hc hn=>by
  obtain⟨B0,h1,h2,FV,a,c,mb,h3,h4⟩:=h;exact⟨B0,h1,ajA h2 hc.size,FV,a,c,mb,h3.aF U.H U.S hc (λk hk=>hn k ((h4 k).2 hk)),h4⟩
 wrong:=λw P a c m size hs hsl hc hG hp=>U2 w P a c m size hs hsl hc hG hp
 bad:=λw P a c m size hs hsl hc hG hp hb=>ads N w P a c m size hs hsl hc hG hp hb
 good:=λw P a c m size hs hsl hc hG hp hm hz=>(ZF U N w P a c m size hs hsl hc hG hp hm hz).mono (by
  rintro e w' ⟨p,F,B0,he,⟨h1,h2,h3⟩,hb⟩;exact⟨p,F,he,⟨B0,h1,h2,h3⟩,hb⟩)
 publish:=λnow x hx h hf _=>by
  obtain⟨B0,h1,h2,h3⟩:=h;obtain⟨a,c,mb,r,hfin⟩:=h3.begin;refine(Q9 U T V r hf h2 now x hx).mono ?_;rintro e w' ⟨he,⟨mb',r'⟩,_⟩;exact⟨he,RHx.did (hfin _ _ _ _ r') h1 h2⟩
 store:=λh _ _=>by
  obtain⟨B0,h1,h2,h3⟩:=h;refine(U3 h3).mono ?_;rintro e w' ⟨q,G,he,hs,hg,hb⟩;exact⟨q,G,he,U.S.low hs h1,hg,hb⟩
end
section
variable {Has:I->Nat->Nat->af->Int->List aB->Prop}{SH:I->Nat->Nat->af->aH->Prop}{F0 Cs:af}{w wr w':I}{B x:Nat}{a:Option Addr}{c:Nat}{mb:Option Nat}{P:Pn.aX}{m size:Int}{st:Str}
theorem Rn (U:Af Has SH)(h:fM Has SH F0 Cs w wr B x a c mb P m size st)(hf:Fit P m size st)(hB:B<=w.heap.size)(q:Int) :
 Calls prog 57 #[ae x,aa q] wr λe w'=>e=.returned (aa (ji st.es st.s m size (dF q 0)))/\fM Has SH F0 Cs w w' B x a c mb P m size (Ag m size st (dF q 0))/\gu Cs wr w':=by
 have PD:=aj (Gw U h hf hB 0 q);clear h hf;generalize ji st.es st.s m size (dF q 0)=E at *;go_enter func57,ntmps57;go_wp2_with fail;refine(ah PD).mono ?_;rintro e w1 ⟨rfl,h1⟩;have B1:=aj h1;clear PD h1;go_wp2_with fail;go_ret;exact⟨rfl,ah B1⟩
theorem ZH (h:fM Has SH F0 Cs w wr B x a c mb P m size st)(hl:P.f.length<=100) :
 Calls prog 30 #[ae x] wr λe w'=>∃a' c',e=.returned (Ba P a' c')/\gU w' a' P.f/\P.f.length<=c'/\ai wr w':=by
 obtain⟨W,hW⟩:∃W,W=wr.alloc (.cells #[.string ⟨#[]⟩,.slice none 0 0,aa 0,aa 0,aa 0,aa 0,aa 0,aa 0,aa 0,aa 0] 80):=⟨_,rfl⟩;have b0:ai wr W:=by rw[hW];exact ax _ _
 have p1:PB W wr.heap.size ⟨#[]⟩ none 0 0 0 0 0 0 0 0 0 0:=by rw[hW];exact PB.new wr ⟨#[]⟩ none 0 0 0 0 0 0 0 0 0 0 80
 have f1:∀j,W.frozen? (aq wr.heap.size j)=false:=λj=>by rw[hW];exact akp _ _ _ j
 obtain⟨FV,h1,_⟩:=h;have PC:=aj (J8 P a c W h1.small (h1.row.next b0) hl);obtain⟨hx,c0,c1,c2,c3,c4,c5,c6,c7,c8,c9⟩:=h1.plan;have B0:=aj b0;have P1:=aj p1;have F1:=aj f1;unfold Ba at PC ⊢;clear h1 p1 f1 b0;go_enter func30,ntmps30;go_wp2_with fail;rw[<-hW];clear hW;refine(ah PC).mono ?_;rintro e w1 ⟨a',c',rfl,t1,b1⟩;have pb:=(ah P1).next b1;have g1:∀j,w1.frozen? (aq wr.heap.size j)=false:=λj=>(b1.frozen (p:=aq wr.heap.size j) (ah P1).lt).trans (ah F1 j)
 have PB':=aj pb;have T1:=aj t1;have BW:=aj (ak (ah B0) b1);have HWs:=aj (show wr.heap.size<W.heap.size from(ah P1).lt);obtain⟨lb,d0,d1,d2,d3,d4,d5,d6,d7,d8,d9⟩:=pb;have t0:=g1 0;have t1':=g1 1;have t2:=g1 2;have t3:=g1 3;have t4:=g1 4;have t5:=g1 5;have t6:=g1 6;have t7:=g1 7;have t8:=g1 8;have t9:=g1 9;clear PC b1 t1 g1 c0 c1 c2 c3 c4 c5 c6 c7 c8 c9;go_wp2_with fail;have hfin:=(ah PB').puts P.n a' P.f.length c' (nth P.v 0) (nth P.v 1) (nth P.v 2) (nth P.v 3) (nth P.v 4) (nth P.v 5) (nth P.v 6) (nth P.v 7);(try simp only[Exit.inBlock,Exit.then])
 refine ajY (wQ (b:=wr.heap.size) rfl rfl hfin) rfl ?_;have ht:=jK.aF (A:=λk=>k=wr.heap.size) (ah T1) (FX (A:=λk=>k=wr.heap.size) (b:=wr.heap.size) rfl [.string P.n,.slice a' P.f.length c',aa (nth P.v 0),aa (nth P.v 1),aa (nth P.v 2),aa (nth P.v 3),aa (nth P.v 4),aa (nth P.v 5),aa (nth P.v 6),aa (nth P.v 7)] _ 0 (aA.refl _ _)) (λg hg z=>by have:=ah HWs;omega);obtain⟨a2,c2,e2,hc2,hs2⟩:=ht.shape;obtain⟨e3,_,e4⟩:=akE e2;subst e3 e4;exact⟨a',c',rfl,hs2,hc2,dA (b:=wr.heap.size) (agH _) [.string P.n,.slice a' P.f.length c',aa (nth P.v 0),aa (nth P.v 1),aa (nth P.v 2),aa (nth P.v 3),aa (nth P.v 4),aa (nth P.v 5),aa (nth P.v 6),aa (nth P.v 7)] _ 0 (ah BW)⟩
end
structure afU (RH:I->Nat->Nat->af->Pn.aX->Int->Int->Str->Prop):Prop where
 erase:∀{w B p F P m size st} (q:Int),RH w B p F P m size st->Fit P m size st->B<=w.heap.size->Calls prog 57 #[ae p,aa q] w λe w'=>e=.returned (aa (ji st.es st.s m size (dF q 0)))/\TP RH w w' B p F P m size (Ag m size st (dF q 0))
 plan:∀{w B p F P m size st},RH w B p F P m size st->P.f.length<=100->Calls prog 30 #[ae p] w λe w'=>∃a' c',e=.returned (Ba P a' c')/\gU w' a' P.f/\P.f.length<=c'/\ai w w'
 takes:∀{w B p F P m size st} (s:ad),s.size<=140737488355328->aC false s=0->RH w B p F P m size st->Pn.aZ P=0->Calls prog 55 #[ae p,.string s] w λe w'=>e=.returned (.bool (bV P s))/\ai w w'
section
variable {Has:I->Nat->Nat->af->Int->List aB->Prop}{SH:I->Nat->Nat->af->aH->Prop}
theorem adt (U:Af Has SH):afU (RHx Has SH) where
 erase:=λq h hf _=>by
  obtain⟨B0,h1,h2,h3⟩:=h;obtain⟨a,c,mb,r,hfin⟩:=h3.begin;refine(Rn U r hf h2 q).mono ?_;rintro e w' ⟨he,r',_⟩;exact⟨he,RHx.did (hfin _ _ _ _ r') h1 h2⟩
 plan:=λh hl=>by
  obtain⟨B0,h1,h2,h3⟩:=h;obtain⟨a,c,mb,r,hfin⟩:=h3.begin;exact ZH r hl
 takes:=λs hs he h hp=>by
  obtain⟨B0,h1,h2,h3⟩:=h;obtain⟨a,c,mb,r,hfin⟩:=h3.begin;obtain⟨q1,q2,q3⟩:=r.sees;exact Gy hp q3 q1 q2 s hs he
end
abbrev ptr (b:Nat):Value:=ae b
structure dS (G:I->Prop)(SH:I->Nat->Nat->af->aH->Prop)(RH:I->Nat->Nat->af->Pn.aX->Int->Int->Str->Prop)(CH:I->Nat->Nat->af->bM->Prop):Prop where
 S:jF SH
 V:abm G RH SH
 M:afU RH
 C:abD SH CH
section
variable {G:I->Prop}{SH:I->Nat->Nat->af->aH->Prop}{RH:I->Nat->Nat->af->Pn.aX->Int->Int->Str->Prop}{CH:I->Nat->Nat->af->bM->Prop}{B:Nat}{w w':I}{F:af}
def StT (RH:I->Nat->Nat->af->Pn.aX->Int->Int->Str->Prop)(B p:Nat)(x:Sr):wF:=Up B λB' w F=>RH w B' p F x.P x.m x.z x.st
def CoT (CH:I->Nat->Nat->af->bM->Prop)(B p:Nat)(c:bM):wF:=Up B λB' w F=>CH w B' p F c
def QuT (B p:Nat)(l:List dD):wF:=Up B λB' w F=>∃v,fA w B' p v l/\∀k,F k↔qC p v k
def yg (CH:I->Nat->Nat->af->bM->Prop)(B:Nat)(y:Mb)(b:Nat):wF:=λw F=>∃p:Nat×Nat,Two (Blk B b [ptr p.1,ptr p.2]) (Two (CoT CH B p.1 y.c) (QuT B p.2 y.q)) w F
def mY (RH:I->Nat->Nat->af->Pn.aX->Int->Int->Str->Prop)(CH:I->Nat->Nat->af->bM->Prop)(B:Nat)(x:Sr)(b:Nat):wF:=λw F=>∃p:Nat×Nat,Two (Blk B b [ptr p.1,.map (some p.2)]) (Two (StT RH B p.1 x) (yt Mb.nm (yg CH B) B (some p.2) x.cs)) w F
def qo (RH:I->Nat->Nat->af->Pn.aX->Int->Int->Str->Prop)(CH:I->Nat->Nat->af->bM->Prop)(B:Nat)(s:Sv)(b:Nat):wF:=λw F=>∃mb:Option Nat,Two (Blk B b [.map mb,aa s.t]) (yt Sr.nm (mY RH CH B) B mb s.l) w F
theorem fA.owns {B:Nat}{l:List dD}(h:fA w B p v l):∀k,qC p v k->B<=k/\k<w.heap.size:=λk hk=>by
 rcases hk with z|z
 ·subst z;exact⟨h.base,h.lt⟩
 ·exact aks h.arr k z
theorem Own.qu (B p:Nat)(l:List dD):Own B (QuT B p l):=Own.up λ_=>⟨λ⟨_,h,hF⟩ k hk=>h.owns k ((hF k).1 hk),λ⟨v,h,hF⟩ hc hn=>⟨v,h.aF hc (λk hk=>hn k ((hF k).2 hk)),hF⟩⟩
variable (W:dS G SH RH CH)
include W
theorem dS.st (B p:Nat)(x:Sr):Own B (StT RH B p x):=Own.up λ_=>⟨λh=>W.V.own h,λh hc hn=>W.V.aF h hc hn⟩
theorem dS.co (B p:Nat)(c:bM):Own B (CoT CH B p c):=Own.up λ_=>⟨λh=>W.C.own h,λh hc hn=>W.C.aF h hc hn⟩
theorem dS.mb (B:Nat)(y:Mb)(b:Nat):Own B (yg CH B y b):=Own.ex λp=>(Own.blk B b _).two ((W.co B p.1 y.c).two (Own.qu B p.2 y.q))
theorem dS.sr (B:Nat)(x:Sr)(b:Nat):Own B (mY RH CH B x b):=Own.ex λp=>(Own.blk B b _).two ((W.st B p.1 x).two (Own.bag λy b=>W.mb B y b))
theorem dS.sv (B:Nat)(s:Sv)(b:Nat):Own B (qo RH CH B s b):=Own.ex λ_=>(Own.blk B b _).two (Own.bag λx b=>W.sr B x b)
theorem dS.mem (h:yg CH B y b w F):∃p q,w.cell? (aq b 0)=some (ptr p)/\w.cell? (aq b 1)=some (ptr q)/\b<w.heap.size/\∃F1 F2,CoT CH B p y.c w F1/\QuT B q y.q w F2/\(∀k,F1 k->F k/\k≠b)/\(∀k,F2 k->F k/\k≠b) /\
 (∀{c:bM} {w':I},Dd (CoT CH B p c) w w' F1->Dd (yg CH B ⟨c,y.q⟩ b) w w' F)/\∀{l:List dD} {w':I},Dd (QuT B q l) w w' F2->Dd (yg CH B ⟨y.c,l⟩ b) w w' F:=by
 obtain⟨⟨p,q⟩,h⟩:=h;obtain⟨Fb,F0,hb,h0,hdis,_,i0,_,f0⟩:=Two.both (Own.blk B b _) ((W.co B p y.c).two (Own.qu B q y.q)) h;obtain⟨F1,F2,h1,h2,_,i1,i2,f1,f2⟩:=Two.both (W.co B p y.c) (Own.qu B q y.q) h0;exact⟨p,q,hb.2.1.cell 0 _ rfl,hb.2.1.cell 1 _ rfl,hb.2.1.lt,F1,F2,h1,h2,λk hk=>⟨i0 k (i1 k hk),λe=>hdis k ((hb.2.2.2 k).2 e) (i1 k hk)⟩,λk hk=>⟨i0 k (i2 k hk),λe=>hdis k ((hb.2.2.2 k).2 e) (i2 k hk)⟩,λhd=>(f0 (f1 hd)).to λ_ z=>⟨(p,q),z⟩,λhd=>(f0 (f2 hd)).to λ_ z=>⟨(p,q),z⟩⟩
end
theorem afz (w:I):(zeroValue 67).run prog w=.ok (.pointer none) w:=by kernel_rfl
theorem afA (w:I):(zeroValue 84).run prog w=.ok (.pointer none) w:=by kernel_rfl
theorem D8 {w:I}{mb:Option Nat}(h:mV w mb ps)(n:ad)(c:Bool)(hn:n.size<=maxLen):(Instr.lookup 76 (.map mb) (.string n) c).run prog w=.ok (if c then .tuple #[O1 (cZ ps n),.bool (cZ ps n).isSome] else O1 (cZ ps n)) w:=h.look underlying76 afz n hn c
theorem Xl {w:I}{mb:Option Nat}(h:mV w mb ps)(n:ad)(c:Bool)(hn:n.size<=maxLen):(Instr.lookup 73 (.map mb) (.string n) c).run prog w=.ok (if c then .tuple #[O1 (cZ ps n),.bool (cZ ps n).isSome] else O1 (cZ ps n)) w:=h.look underlying73 afA n hn c
def GZ (g:Nat)(X:wF):wF:=λw F=>X w F/\¬F g
theorem Own.J9 {B:Nat}{X:wF}(O:Own B X):Own B (GZ g X):=⟨λh=>O.own h.1,λh hc hn=>⟨O.aF h.1 hc hn,h.2⟩⟩
theorem Aa.J9 {nm:α->ad}{Q:α->Nat->wF}{B:Nat}{mb:Option Nat}{w:I}{l:List α}{bO:ad->Nat}{fO:ad->Nat->Prop}(h:Aa nm Q B mb l w bO fO)(hg:∀x∈l,¬fO (nm x) g):Aa nm (λx b=>GZ g (Q x b)) B mb l w bO fO :=
 ⟨h.ptr,h.nd,λx hx=>⟨h.each x hx,hg x hx⟩,h.apart,h.Zz⟩
theorem yt.aiO {nm:α->ad}{Q:α->Nat->wF}{B:Nat}{mb:Option Nat}{w:I}{F:af}{l:List α}(h:yt nm (λx b=>GZ g (Q x b)) B mb l w F)(hm:mb≠some g):yt nm Q B mb l w F/\¬F g:=by
 obtain⟨bO,fO,h,hF⟩:=h;refine⟨⟨bO,fO,⟨h.ptr,h.nd,λx hx=>(h.each x hx).1,h.apart,h.Zz⟩,hF⟩,λz=>?_⟩;rcases(hF g).1 z with q|⟨x,hx,q⟩
 ·exact hm q
 ·exact(h.each x hx).2 q
section
variable {G:I->Prop}{SH:I->Nat->Nat->af->aH->Prop}{RH:I->Nat->Nat->af->Pn.aX->Int->Int->Str->Prop}{CH:I->Nat->Nat->af->bM->Prop}{B:Nat}{w w':I}{F:af}
variable (W:dS G SH RH CH)
include W
theorem dS.srv {s:Sv}(h:qo RH CH B s sp w F):∃mb,w.cell? (aq sp 0)=some (.map mb)/\w.cell? (aq sp 1)=some (aa s.t)/\sp<w.heap.size /\
 ∃ps,mV w mb ps/\ps.length=s.l.length/\(∀n,jL Sr.nm n s.l=none->cZ ps n=none) /\
 ∀n x,jL Sr.nm n s.l=some x->∃b F1,cZ ps n=some b/\mY RH CH B x b w F1/\(∀k,F1 k->F k/\k≠sp)/\∀{f:Sr->Sr} {w1 w'},ai w w1->(f x).nm=x.nm->Dd (mY RH CH B (f x) b) w1 w' F1->Dd (qo RH CH B (s.put n f) sp) w1 w' F:=by
 obtain⟨mb,h⟩:=h;obtain⟨Fb,F2,hk,⟨bO,fO,hb,hF⟩,hdis,hall⟩:=h;have i2:=λk hk=>(hall k).2 (.inr hk)
 refine⟨mb,hk.2.1.cell 0 _ rfl,hk.2.1.cell 1 _ rfl,hk.2.1.lt,_,hb.ptr,by unfold zZ;rw[akk],λn hn=>(Ac ..).trans (by rw[hn];rfl),λn x hx=>?_⟩;obtain⟨hm,rfl⟩:=by_some hx;obtain⟨q1,q2,q3⟩:=hb.one (λx b=>W.sr B x b) hF hm;refine⟨_,_,(Ac ..).trans (by rw[hx];rfl),q1,λk hk'=>⟨i2 k (q2 k hk'),λe=>hdis k ((hk.2.2.2 k).2 e) (q2 k hk')⟩,λ{f w1 w'} hb1 hf hd=>?_⟩;obtain⟨_,_,q4⟩:=(hb.next (λx b=>W.sr B x b) hb1).one (λx b=>W.sr B x b) hF hm;exact(Two.J7 (Own.blk B sp _) ((Own.blk B sp _).next hk hb1) hdis hall (q4 hf hd)).to λ_ z=>⟨mb,z⟩
theorem dS.ZI {x:Sr}(h:mY RH CH B x b w F):∃p cb,w.cell? (aq b 0)=some (ptr p)/\w.cell? (aq b 1)=some (.map (some cb))/\b<w.heap.size /\
 ∃FS,StT RH B p x w FS/\(∀k,FS k->F k/\k≠b)/\(∀{st:Str} {w'},Dd (StT RH B p {x with st:=st}) w w' FS->Dd (mY RH CH B {x with st:=st} b) w w' F) /\
 ∃ps,mV w (some cb) ps/\ps.length=x.cs.length/\(∀n,jL Mb.nm n x.cs=none->cZ ps n=none) /\
 ∀n y,jL Mb.nm n x.cs=some y->∃c F1,cZ ps n=some c/\yg CH B y c w F1/\(∀k,F1 k->F k/\k≠b)/\(∀k,FS k->¬F1 k)/\∀{f:Mb->Mb} {w1 w'},ai w w1->(f y).nm=y.nm->(Dd (yg CH B (f y) c) w1 w' F1->Dd (mY RH CH B (x.put n f) b) w1 w' F)/\∀{g},w.heap.size<=g->Dd (GZ g (yg CH B (f y) c)) w1 w' F1->Dd (GZ g (mY RH CH B (x.put n f) b)) w1 w' F:=by
 obtain⟨⟨p,cb⟩,h⟩:=h;have OB:=Own.bag (nm:=Mb.nm) (mb:=some cb) (l:=x.cs) λy b=>W.mb B y b
 obtain⟨Fb,F0,hk,⟨FS,F2,g1,g2,g3,g4⟩,hdis,hall⟩:=h;have i0:=λk hk=>(hall k).2 (.inr hk)
 have i1:=λk hk=>(g4 k).2 (.inl hk)
 have i2:=λk hk=>(g4 k).2 (.inr hk)
 obtain⟨bO,fO,hb,hF⟩:=id g2;refine⟨p,cb,hk.2.1.cell 0 _ rfl,hk.2.1.cell 1 _ rfl,hk.2.1.lt,FS,g1,λk hk'=>⟨i0 k (i1 k hk'),λe=>hdis k ((hk.2.2.2 k).2 e) (i1 k hk')⟩,λhd=>(Two.J7 (Own.blk B b _) hk hdis hall (Two.afT OB g2 g3 g4 hd)).to λ_ z=>⟨(p,cb),z⟩,_,hb.ptr,by unfold zZ;rw[akk],λn hn=>(Ac ..).trans (by rw[hn];rfl),λn y hy=>?_⟩;obtain⟨hm,rfl⟩:=by_some hy;obtain⟨q1,q2,q3⟩:=hb.one (λx b=>W.mb B x b) hF hm;refine⟨_,_,(Ac ..).trans (by rw[hy];rfl),q1,λk hk'=>⟨i0 k (i2 k (q2 k hk')),λe=>hdis k ((hk.2.2.2 k).2 e) (i2 k (q2 k hk'))⟩,λk hk z=>g3 k hk (q2 k z),λ{f w1 w'} hb1 hf=>⟨λhd=>?_,λ{g} hg hd=>?_⟩⟩
 ·obtain⟨_,_,q4⟩:=(hb.next (λx b=>W.mb B x b) hb1).one (λx b=>W.mb B x b) hF hm;exact(Two.J7 (Own.blk B b _) ((Own.blk B b _).next hk hb1) hdis hall (Two.J7 (W.st B p x) ((W.st B p x).next g1 hb1) g3 g4 (q4 hf hd))).to λ_ z=>⟨(p,cb),z⟩
 ·have hlt:=hb.ptr.lt;have hin:∀z∈x.cs,¬fO z.nm g:=λz hz q=>by have:=((W.mb B z _).own (hb.each z hz) g q).2;omega
  obtain⟨_,_,q4⟩:=((hb.J9 hin).next (λx b=>(W.mb B x b).J9) hb1).one (λx b=>(W.mb B x b).J9) hF hm;have hSg:¬FS g:=λq=>by have:=((W.st B p x).own g1 g q).2;omega
  have hBg:¬Fb g:=λq=>by have:=((Own.blk B b _).own hk g q).2;omega
  refine(Two.J7 (Own.blk B b _).J9 ⟨(Own.blk B b _).next hk hb1,hBg⟩ hdis hall (Two.J7 (W.st B p x).J9 ⟨(W.st B p x).next g1 hb1,hSg⟩ g3 g4 (q4 hf hd))).to λF' z=>?_
  obtain⟨A1,A2,⟨k1,n1⟩,⟨A3,A4,⟨k3,n3⟩,k4,k5,k6⟩,k7,k8⟩:=z;obtain⟨k4,n4⟩:=yt.aiO k4 (λe=>by cases e;omega);refine⟨⟨(p,cb),A1,A2,k1,⟨A3,A4,k3,k4,k5,k6⟩,k7,k8⟩,λq=>?_⟩;rcases(k8 g).1 q with q|q
  ·exact n1 q
  ·exact((k6 g).1 q).elim n3 n4
end
def U4 (G G2:I->Prop)(w:I):Prop:=∀w',ai w w'->G w'/\G2 w'
theorem U4.next {G G2:I->Prop}{w w':I}(h:U4 G G2 w)(hb:ai w w'):U4 G G2 w':=λx hx=>h x (ak hb hx)
section
variable {G:I->Prop}{SH:I->Nat->Nat->af->aH->Prop}{RH:I->Nat->Nat->af->Pn.aX->Int->Int->Str->Prop}{CH:I->Nat->Nat->af->bM->Prop}{B:Nat}{w w':I}
def Mine (RH:I->Nat->Nat->af->Pn.aX->Int->Int->Str->Prop)(CH:I->Nat->Nat->af->bM->Prop)(B:Nat)(w:I)(s:Sv)(sp:Nat)(w':I):Prop:=∃F,qo RH CH B s sp w' F/\(∀k,F k->w.heap.size<=k)/\ai w w'
theorem Mine.step {s':Sv}{F:af}(h2:∀k,F k->w0.heap.size<=k)(h3:ai w0 w)(D:Dd (qo RH CH B s' sp) w w' F):Mine RH CH B w0 s' sp w':=by
 obtain⟨F',g1,g2,g3⟩:=D;refine⟨F',g1,λk hk=>?_,h3.trans (g2.below h3.size (λk hk z=>by have:=h2 k z;omega))⟩;rcases g3 k hk with y|y
 ·exact h2 k y
 ·exact ajA h3.size y
variable (W:dS G SH RH CH)
include W
theorem Mine.next {s:Sv}{sp:Nat}{w0:I}(h:Mine RH CH B w0 s sp w)(hb:ai w w'):Mine RH CH B w0 s sp w':=by
 obtain⟨F,h1,h2,h3⟩:=h;exact⟨F,(W.sv B s sp).next h1 hb,h2,ak h3 hb⟩
end
theorem afV (t:Tk.bJ)(a:Option Addr)(c:Nat)(W:I):(Instr.field 98 (sJ t a c) 1).run prog W=.ok (.string t.f) W:=by kernel_rfl
section
variable {G:I->Prop}{SH:I->Nat->Nat->af->aH->Prop}{RH:I->Nat->Nat->af->Pn.aX->Int->Int->Str->Prop}{CH:I->Nat->Nat->af->bM->Prop}{B:Nat}{w w':I}{F:af}
variable (W:dS G SH RH CH)
include W
theorem dS.reads {c:Nat}(h:yg CH B y c w F)(hy:y.Ok N)(hN:N<=100000):∃p,w.cell? (aq c 0)=some (ptr p)/\c<w.heap.size/\(∀W',ai w W'->Calls prog 42 #[ptr p] W' λe w'=>∃a' c',e=.returned (sJ y.c.t a' c')/\Nums w' W'.heap.size (.slice a' y.c.t.bo.length c') y.c.t.bo/\ai W' w') /\
 ∀W',ai w W'->∀n,Calls prog 142 #[ptr p,aa n] W' λe w'=>e=.returned (.bool (um y.c n))/\ai W' w':=by
 obtain⟨p,q,c0,_,hl,F1,_,h1,_⟩:=W.mem h;obtain⟨B',_,h2,_⟩:=Up.open h1;exact⟨p,c0,hl,λW' hb=>W.C.taker (W.C.aF (A:=λ_=>False) h2 (aA.of_below hb) (λ_ _ z=>z)) hy.go,λW' hb n=>W.C.done (W.C.aF (A:=λ_=>False) h2 (aA.of_below hb) (λ_ _ z=>z)) hy.go hN n⟩
theorem adu {x:Sr}(h:mY RH CH B x b w F)(hx:x.Ok N)(hN:N<=100000)(done:Bool)(r:Rc)(hr:Small r) :
 Calls prog 98 #[ptr b,.bool done,.agg #[aa r.k,aa r.q,aa r.t,.string r.s,.string r.h,.string r.d]] w λe w'=>e=.returned (.bool (hasB x.cs done r))/\ai w w':=by
 obtain⟨W2,hW2⟩:∃W2,W2=w.alloc (.cells #[aa r.k,aa r.q,aa r.t,.string r.s,.string r.h,.string r.d] 46):=⟨_,rfl⟩;have k2:ai w W2:=by rw[hW2];exact ax _ _
 have r2:CB W2 w.heap.size [aa r.k,aa r.q,aa r.t,.string r.s,.string r.h,.string r.d]:=by rw[hW2];exact CB.new w [aa r.k,aa r.q,aa r.t,.string r.s,.string r.h,.string r.d] _
 obtain⟨_,cb,-,d1,hbl,_,-,-,-,ps,hP,-,hno,hyes⟩:=W.ZI ((W.sr B x b).next h k2);have HM:=aj (λn c (hc:cZ ps n=some c)=>show ∃y F1,y∈x.cs/\y.nm=n/\yg CH B y c W2 F1 by
  cases hy:jL Mb.nm n x.cs with
  | none=>rw[hno n hy] at hc;cases hc
  | some y =>
   obtain⟨c',F1,e1,e2,_⟩:=hyes n y hy;rw[hc] at e1
   cases e1
   exact⟨y,F1,(by_some hy).1,(by_some hy).2,e2⟩)
 have HA:Hid (∀y∈x.cs,y.nm.size<=maxLen/\(cZ ps y.nm).isSome=true):=aj (λy hy=>by
  have hs:=(hx.all y hy).go.small.name;obtain⟨c',F1,e1,_⟩:=hyes y.nm y (rU hx.nd hy);exact⟨by unfold maxLen;show y.c.t.n.size<=_;omega,by rw[e1];rfl⟩)
 have HX:=aj hx;have HR:=aj (And.intro r2 k2);have HS:=aj hr.s;have hcl:cb<W2.heap.size:=hP.lt;clear h hno hyes hx hr k2 r2;go_enter func98,ntmps98;go_upto_region 1 with fail
 rw[show w.alloc (.cells #[aa r.k,aa r.q,aa r.t,.string r.s,.string r.h,.string r.d] 46)=W2 from hW2.symm];clear hW2;go_wp2_with (first
  | (at_range;refine nO rfl _ 73 84 rfl underlying73 rfl hP ?_;intro w0 agV hrg0 hb0 hs0)
  | go_in)
 go_frame
 have HB0:=aj hb0;clear hP d1 hbl hb0;go_loopw [] (λwr=>∃left cnt,Rg wr (some cb) W2.heap.size ps left cnt/\Hid (ai W2 wr/\W2.heap.size<wr.heap.size)/\Hid (∀y∈x.cs,left y.nm=false->(aN y.c.t.f r.s&&(um y.c r.q==done))=false)) (λwr=>kX (some cb) W2.heap.size wr)
 case atStart=>exact⟨_,_,hrg0,aj ⟨ah HB0,by omega⟩,aj (λy _ z=>by cases z)⟩
 case round =>
  clear hrg0 HB0 hs0;obtain⟨left,cnt,hrg,HB,HN⟩:=hrel;go_wp2_with (first
   | (at_next;refine pU rfl _ rfl rfl hrg ?_ ?_)
   | go_in)
  ·intro hl0;have HE:Hid (hasB x.cs done r=false/\ai w wr):=aj (by
    refine⟨?_,(ah HR).2.trans ((ah HB).1.mono (ah HR).2.size)⟩;unfold hasB;rw[List.any_eq_false];intro y hy;rw[Bool.not_eq_true];exact ah HN y hy (hl0 _ (ah HA y hy).1 (ah HA y hy).2))
   clear HN HB hl0 hrg;go_wp2_with fail;go_ret;rw[(ah HE).1];exact⟨rfl,(ah HE).2⟩
  ·intro n c w2 cnt2 hns hlk hlf hrg2 hlt hch hen;obtain⟨y,F1,hy,hyn,hmb⟩:=ah HM n c hlk;have hb2:ai W2 w2:=(ah HB).1.trans (hch.below (ah HB).1.size (λk hk z=>by omega));obtain⟨q,c0,hcl',PT,PD⟩:=W.reads ((W.mb B y c).next hmb hb2) ((ah HX).all y hy) hN;have rc:=(ah HR).1.next hb2;have r3:=rc.cell 3 _ rfl;have r1:=rc.cell 1 _ rfl;have HRL:=aj rc.lt;have HPT:=aj PT;have HPD:=aj PD;have HB2:Hid (ai W2 w2/\W2.heap.size<w2.heap.size):=aj ⟨hb2,ajz (ah HB).2 hch.size⟩;obtain⟨M,hM⟩:∃M,aN y.c.t.f r.s=M:=⟨_,rfl⟩;have PM:=aj (Ot hM rfl ((ah HX).all y hy).go.small.filt (ah HS))
   have HY:=aj (And.intro hy hyn);have HMM:=aj hM;have HL:=aj (And.intro hrg2 (And.intro hlt hrg.left_eq));have HCL:=aj hcl';clear hmb hb2 PT PD rc hlk hlf hrg2 hrg hch HB hy hyn hlt hcl' hM hns;have hin:=afV;go_upto_region 4 with fail
   have HK:Hid (∀W',ai w2 W'->(W'.cell? (aq c 0)=some (ptr q)/\W'.cell? (aq w.heap.size 3)=some (.string r.s))/\W'.cell? (aq w.heap.size 1)=some (aa r.q)):=aj (λW' hb=>⟨⟨(hb.cell (p:=aq c 0) (ah HCL)).trans c0,(hb.cell (p:=aq w.heap.size 3) (ah HRL)).trans r3⟩,(hb.cell (p:=aq w.heap.size 1) (ah HRL)).trans r1⟩);have hd:ai w2 w2.drew:=(agP _ _).drew;have k0:(w2.drew.cell? (aq c 0)=some (ptr q)/\w2.drew.cell? (aq w.heap.size 3)=some (.string r.s)):=(ah HK _ hd).1;clear c0 r3 r1;go_cut [9,10] (λv9 v10 wx=>v9=.bool M/\Hid (ai w2 wx))
   case first =>
    go_region_held_law (λW'=>W'.cell? (aq c 0)=some (ptr q)/\W'.cell? (aq w.heap.size 3)=some (.string r.s)) (first|with_reducible assumption)
     (first
      | (
       go_at_call 42;with_reducible refine(ah HPT _ hd).mono ?_;rintro e wt ⟨a',c',rfl,_,bt⟩
       have BT:=aj (ak hd bt);have k1:(wt.cell? (aq c 0)=some (ptr q)/\wt.cell? (aq w.heap.size 3)=some (.string r.s)):=(ah HK _ (ah BT)).1;clear bt)
      | (
       go_at_call 31;with_reducible refine(ah PM wt).mono ?_;rintro e wm ⟨rfl,bm⟩
       have BM:=aj (ak (ah BT) bm);have k2:(wm.cell? (aq c 0)=some (ptr q)/\wm.cell? (aq w.heap.size 3)=some (.string r.s)):=(ah HK _ (ah BM)).1;clear bm))
    all_goals go_wp2_with fail
    all_goals go_meet
    exact⟨rfl,BM⟩
   case rest =>
    obtain⟨rfl,BX⟩:=hcut;have lD:Hid (∀w9,ai w2 w9->(aN y.c.t.f r.s&&(um y.c r.q==done))=false->(∃left cnt,Rg w9 (some cb) W2.heap.size ps left cnt/\Hid (ai W2 w9/\W2.heap.size<w9.heap.size)/\Hid (∀y∈x.cs,left y.nm=false->(aN y.c.t.f r.s&&(um y.c r.q==done))=false))/\kX (some cb) W2.heap.size w9<kX (some cb) W2.heap.size wr):=aj (λw9 hb hf=>by
     obtain⟨hr2,hlt,hle⟩:=ah HL;have hr9:=hr2.aF (A:=λ_=>False) (aA.of_below hb) (λ_ _ z=>z) (λz=>z) (ah HB2).2;refine⟨⟨_,cnt2,hr9,aj ⟨(ah HB2).1.trans (hb.mono (ah HB2).1.size),ajz (ah HB2).2 hb.size⟩,aj (λy' hy' z=>?_)⟩,by rw[hr9.left_eq,hle];exact hlt⟩;rw[Bool.and_eq_false_iff] at z;rcases z with z|z
     ·exact ah HN y' hy' z
     ·have e:y'.nm=n:=by simpa using z
      have a1:=(ah HX).one hy' e;rw[(ah HX).one (ah HY).1 (ah HY).2] at a1;rw[<-ajU a1];exact hf)
    cases M with
    | false =>
     have HF:Hid ((aN y.c.t.f r.s&&(um y.c r.q==done))=false):=aj (by rw[ah HMM];rfl);clear HL HN HY HX HMM HPT HPD PM HK k0 hd hin HB2 HCL HRL HA HM HR HS;go_upto_region 5 with fail
     go_quiet (fail)
     have hfin:=ah lD (wc.drewN nq) (below_drewN (ah BX) _) (ah HF);clear lD HF BX;go_wp2_with fail;go_roundw
     case rel=>exact hfin.1
     case measure=>exact hfin.2
    | true =>
     go_upto_region 5 with fail
     have hd5:ai wc wc.drew:=(agP _ _).drew;have k5:(wc.drew.cell? (aq c 0)=some (ptr q)/\wc.drew.cell? (aq w.heap.size 1)=some (aa r.q)):=⟨(ah HK _ (ak (ah BX) hd5)).1.1,(ah HK _ (ak (ah BX) hd5)).2⟩;obtain⟨D,hD⟩:∃D,um y.c r.q=D:=⟨_,rfl⟩;have PDD:=aj (ah HPD wc.drew (ak (ah BX) hd5) r.q);rw[hD] at PDD;go_cut [43] (λv43 wx=>v43=.bool (D==done)/\Hid (ai w2 wx))
     case first =>
      have yP:Hid (∀W',ai w2 W'->(W'.cell? (aq c 0)=some (ptr q)/\W'.cell? (aq w.heap.size 1)=some (aa r.q))):=aj (λW' hb=>⟨(ah HK _ hb).1.1,(ah HK _ hb).2⟩);clear k0 HK HL HN HY HX HPT HPD PM hd hin HB2 HCL HRL HA HM HR HS lD;refine wp_region_held_drew (S:=(λW'=>W'.cell? (aq c 0)=some (ptr q)/\W'.cell? (aq w.heap.size 1)=some (aa r.q))) (by kernel_rfl) k5 (λhHeld=>?_);refine akj (i:=0) (v:=?_) rfl (by kernel_rfl) (by kernel_rfl) (by kernel_rfl) (λ_ _ _ h=>h) (Or.inl ⟨by rfl,?_⟩) (by assumption) (show wpAnyH _ _ _ _ _ _ _ (Act.put _ (some 32) _) _ from ?_)
      rotate_left
      ·(intro w hSw;(try dsimp only at hSw);go_simp;try with_reducible rfl)
      simp only[Act.put,ajF,ajK,ajJ];refine akj (i:=1) (v:=?_) rfl (by kernel_rfl) (by kernel_rfl) (by kernel_rfl) (λ_ _ _ h=>h) (Or.inl ⟨by rfl,?_⟩) (by assumption) (show wpAnyH _ _ _ _ _ _ _ (Act.put _ (some 33) _) _ from ?_);rotate_left
      ·(intro w hSw;(try dsimp only at hSw);go_simp;try with_reducible rfl)
      simp only[Act.put,ajF,ajK,ajJ];refine akj (i:=2) (v:=?_) rfl (by kernel_rfl) (by kernel_rfl) (by kernel_rfl) (λ_ _ _ h=>h) (Or.inl ⟨by rfl,?_⟩) (by assumption) (show wpAnyH _ _ _ _ _ _ _ (Act.put _ (some 34) _) _ from ?_);rotate_left
      ·(intro w hSw;(try dsimp only at hSw);go_simp;try with_reducible rfl)
      simp only[Act.put,ajF,ajK,ajJ];refine akj (i:=3) (v:=?_) rfl (by kernel_rfl) (by kernel_rfl) (by kernel_rfl) (λ_ _ _ h=>h) (Or.inl ⟨by rfl,?_⟩) (by assumption) (show wpAnyH _ _ _ _ _ _ _ (Act.put _ (some 35) _) _ from ?_);rotate_left
      ·(intro w hSw;(try dsimp only at hSw);go_simp;try with_reducible rfl)
      simp only[Act.put,ajF,ajK,ajJ];refine akj (i:=4) (v:=?_) rfl (by kernel_rfl) (by kernel_rfl) (by kernel_rfl) (λ_ _ _ h=>h) (Or.inl ⟨by rfl,?_⟩) (by assumption) (show wpAnyH _ _ _ _ _ _ _ (Act.put _ (some 36) _) _ from ?_);rotate_left
      ·(intro w hSw;(try dsimp only at hSw);go_simp;try with_reducible rfl)
      simp only[Act.put,ajF,ajK,ajJ];refine akj (i:=5) (v:=?_) rfl (by kernel_rfl) (by kernel_rfl) (by kernel_rfl) (λ_ _ _ h=>h) (Or.inl ⟨by rfl,?_⟩) (by assumption) (show wpAnyH _ _ _ _ _ _ _ (Act.put _ (some 37) _) _ from ?_);rotate_left
      ·(intro w hSw;(try dsimp only at hSw);go_simp;try with_reducible rfl)
      simp only[Act.put,ajF,ajK,ajJ];refine akj (i:=6) (v:=?_) rfl (by kernel_rfl) (by kernel_rfl) (by kernel_rfl) (λ_ _ _ h=>h) (Or.inl ⟨by rfl,?_⟩) (by assumption) (show wpAnyH _ _ _ _ _ _ _ (Act.put _ (some 38) _) _ from ?_);rotate_left
      ·(intro w hSw;(try dsimp only at hSw);go_simp;try with_reducible rfl)
      simp only[Act.put,ajF,ajK,ajJ];refine akj (i:=7) (v:=?_) rfl (by kernel_rfl) (by kernel_rfl) (by kernel_rfl) (λ_ _ _ h=>h) (Or.inl ⟨by rfl,?_⟩) (by assumption) (show wpAnyH _ _ _ _ _ _ _ (Act.put _ (some 39) _) _ from ?_);rotate_left
      ·(intro w hSw;(try dsimp only at hSw);go_simp;try with_reducible rfl)
      simp only[Act.put,ajF,ajK,ajJ];refine akj (i:=9) (v:=?_) rfl (by kernel_rfl) (by kernel_rfl) (by kernel_rfl) (λ_ _ _ h=>h) (Or.inl ⟨by rfl,?_⟩) (by assumption) (show wpAnyH _ _ _ _ _ _ _ (Act.put _ (some 41) _) _ from ?_);rotate_left
      ·(intro w hSw;(try dsimp only at hSw);go_simp;try with_reducible rfl)
      simp only[Act.put,ajF,ajK,ajJ];refine wpAnyH_ready (rs:=[8]) (by kernel_rfl) (by simp) ?_;refine AllReadyH.cons rfl (λK hK=>?_) AllReadyH.nil;go_simp;go_wp2_with (go_at_call 142;with_reducible refine(ah PDD).mono ?_;rintro e wt ⟨rfl,bt⟩;have BT:=aj (ak (ak (ah BX) hd5) bt);have k1:=ah yP _ (ah BT);clear bt);refine hK.out _ _ k1 (λagH=>?_);clear hK K;refine akj (i:=10) (v:=?_) rfl (by kernel_rfl) (by kernel_rfl) (by kernel_rfl) (λ_ _ _ h=>h) (Or.inl ⟨by rfl,?_⟩) (by assumption) (show wpAnyH _ _ _ _ _ _ _ (Act.put _ (some 42) _) _ from ?_)
      rotate_left
      ·(intro w hSw;(try dsimp only at hSw);go_simp;try with_reducible rfl)
      simp only[Act.put,ajF,ajK,ajJ];refine akj (i:=11) (v:=?_) rfl (by kernel_rfl) (by kernel_rfl) (by kernel_rfl) (λ_ _ _ h=>h) (Or.inl ⟨by rfl,?_⟩) (by assumption) (show wpAnyH _ _ _ _ _ _ _ (Act.put _ (some 43) _) _ from ?_);rotate_left
      ·(intro w hSw;(try dsimp only at hSw);go_simp;try with_reducible rfl)
      simp only[Act.put,ajF,ajK,ajJ];refine wpAnyH_done (by kernel_rfl) ?_ _;go_wp2_with fail;go_meet
      exact⟨rfl,BT⟩
     case rest =>
      obtain⟨rfl,BY⟩:=hcut;have HV:Hid ((aN y.c.t.f r.s&&(um y.c r.q==done))=(D==done)):=aj (by rw[ah HMM,hD];rfl);obtain⟨V,hV⟩:∃V,(D==done)=V:=⟨_,rfl⟩;rw[hV] at HV;rw[hV];clear PDD k0 HK k5 hd5 hD hV BX HPT HPD PM hd hin HCL HRL
      cases V with
      | false =>
       have hfin:=ah lD wc (ah BY) (ah HV);clear lD HV BY HL HN HY HX HMM HB2 HA HM HR HS;go_wp2_with fail;go_roundw
       case rel=>exact hfin.1
       case measure=>exact hfin.2
      | true =>
       have HE:Hid (hasB x.cs done r=true/\ai w wc):=aj ⟨by unfold hasB;exact akN.2 ⟨y,(ah HY).1,ah HV⟩,(ah HR).2.trans (((ah HB2).1.trans ((ah BY).mono (ah HB2).1.size)).mono (ah HR).2.size)⟩;clear lD HV BY HL HN HY HX HMM HB2 HA HM HR HS;go_wp2_with fail;go_ret;rw[(ah HE).1];exact⟨rfl,(ah HE).2⟩
end
theorem Xm (P:Pn.aX)(a:Option Addr)(c:Nat)(W:I):(Instr.field 80 (Ba P a c) 8).run prog W=.ok (aa (nth P.v 6)) W:=by kernel_rfl
section
variable {G:I->Prop}{SH:I->Nat->Nat->af->aH->Prop}{RH:I->Nat->Nat->af->Pn.aX->Int->Int->Str->Prop}{CH:I->Nat->Nat->af->bM->Prop}{B:Nat}{w w':I}{F:af}
variable (W:dS G SH RH CH)
include W
theorem dS.does {x:Sr}(h:mY RH CH B x b w F):∃p,w.cell? (aq b 0)=some (ptr p)/\b<w.heap.size/\(∀W',ai w W'->∃B' F1,RH W' B' p F1 x.P x.m x.z x.st/\B'<=W'.heap.size/\∀k,F1 k->F k/\k≠b) /\
 ∀{fn:FuncId} {args:Array Value} {Q:Ending->Prop} {st:Str},(∀B' F1,RH w B' p F1 x.P x.m x.z x.st->B'<=w.heap.size->Calls prog fn args w λe w'=>Q e/\TP RH w w' B' p F1 x.P x.m x.z st)->Calls prog fn args w λe w'=>Q e/\Dd (mY RH CH B {x with st:=st} b) w w' F/\aA (λk=>F k/\k≠b) w w':=by
 obtain⟨p,cb,c0,_,hl,FS,h1,h2,h3,_⟩:=W.ZI h;obtain⟨B',e1,e2,e3⟩:=Up.open h1;refine⟨p,c0,hl,λW' hb=>⟨B',FS,W.V.aF (A:=λ_=>False) e2 (aA.of_below hb) (λ_ _ z=>z),ajA e1 hb.size,h2⟩,λ{fn args Q st} hc=>(hc B' FS e2 e1).mono ?_⟩;rintro e w' ⟨hq,hd⟩;exact⟨hq,h3 (e3 (Y:=λB' w F=>RH w B' p F x.P x.m x.z st) hd),hd.choose_spec.2.1.mono (λk _ z=>h2 k z)⟩
theorem ZJ {x:Sr}(h:mY RH CH B x b w F)(hx:x.Ok N)(hN:N<=100000)(r:Rc)(hr:Small r) :
 Calls prog 56 #[ptr b,aa (pv x.P 6),.agg #[aa r.k,aa r.q,aa r.t,.string r.s,.string r.h,.string r.d]] w λe w'=>e=.returned (.bool (oN x r))/\ai w w':=by
 obtain⟨W2,hW2⟩:∃W2,W2=w.alloc (.cells #[aa r.k,aa r.q,aa r.t,.string r.s,.string r.h,.string r.d] 46):=⟨_,rfl⟩;have k2:ai w W2:=by rw[hW2];exact ax _ _
 have r2:CB W2 w.heap.size [aa r.k,aa r.q,aa r.t,.string r.s,.string r.h,.string r.d]:=by rw[hW2];exact CB.new w [aa r.k,aa r.q,aa r.t,.string r.s,.string r.h,.string r.d] _
 have PH:=aj (λdone=>adu W ((W.sr B x b).next h k2) hx hN done r hr);have HB:=aj k2;have c0:=r2.cell 0 _ rfl;have c1:=r2.cell 1 _ rfl;have c2:=r2.cell 2 _ rfl;have c3:=r2.cell 3 _ rfl;have c4:=r2.cell 4 _ rfl;have c5:=r2.cell 5 _ rfl;obtain⟨K,hK⟩:∃K,pv x.P 6=K:=⟨_,rfl⟩;have HK:=aj hK;rw[hK];clear h hx hr k2 r2 hK;go_enter func56,ntmps56;go_upto_region 1 with fail
 rw[show w.alloc (.cells #[aa r.k,aa r.q,aa r.t,.string r.s,.string r.h,.string r.d] 46)=W2 from hW2.symm];clear hW2;by_cases hk:K=2
 ·subst hk;have HN:Hid (oN x r=!hasB x.cs true r):=aj (by unfold oN;rw[if_pos (ah HK)]);go_wp2_with fail;refine(ah PH true).mono ?_;rintro e w3 ⟨rfl,b3⟩;have B3:=aj (ak (ah HB) b3);clear b3 PH;go_wp2_with fail;go_ret;rw[ah HN];exact⟨rfl,ah B3⟩
 ·have HN:Hid (oN x r=hasB x.cs false r):=aj (by unfold oN;rw[if_neg (by rw[ah HK];exact hk)]);have hk2:(K==2)=false:=by simpa using hk
  go_wp2_with fail;refine(ah PH false).mono ?_;rintro e w3 ⟨rfl,b3⟩;have B3:=aj (ak (ah HB) b3);clear b3 PH;go_wp2_with fail;go_ret;rw[ah HN];exact⟨rfl,ah B3⟩
end
section
variable {G:I->Prop}{SH:I->Nat->Nat->af->aH->Prop}{RH:I->Nat->Nat->af->Pn.aX->Int->Int->Str->Prop}{CH:I->Nat->Nat->af->bM->Prop}{B:Nat}{w w':I}{F:af}
def Dq (RH:I->Nat->Nat->af->Pn.aX->Int->Int->Str->Prop)(CH:I->Nat->Nat->af->bM->Prop)(B:Nat)(x:Sr)(b N:Nat)(w:I)(F:af)(l:List Rc)(av:Option Addr)(R:Str)(i:Nat)(wr:I):Prop :=
 ∃st F',mY RH CH B {x with st:=st} b wr F'/\aA F w wr/\(∀k,F' k->F k\/w.heap.size<=k)/\H6 wr av l/\(∀z,av=some z->¬F' z.block)/\({x with st:=st}:Sr).Ok N/\oO x.m x.z (oN x) (l.drop i) st=R
variable (W:dS G SH RH CH)
include W
theorem Dq.next {x:Sr}{b N i:Nat}{l:List Rc}{av:Option Addr}{R:Str}{wr:I}(h:Dq RH CH B x b N w F l av R i wr)(hb:ai wr w'):Dq RH CH B x b N w F l av R i w':=by
 obtain⟨st,F',h1,h2,h3,h4,h5,h6,h7⟩:=h;exact⟨st,F',(W.sr B _ b).next h1 hb,h2.trans (aA.of_below hb),h3,h4.below hb,h5,h6,h7⟩
omit W in
theorem Dq.done {x:Sr}{wr:I}(h:Dq RH CH B x b N w F l av R i wr)(hR:∀st,oO x.m x.z (oN x) (l.drop i) st=R->st=R):Dd (mY RH CH B {x with st:=R} b) w wr F:=by
 obtain⟨st,F',h1,h2,h3,_,_,_,h7⟩:=h;rw[<-hR st h7];exact⟨F',h1,h2,h3⟩
omit W in
theorem Dq.keeps {x:Sr}{wr:I}(h:Dq RH CH B x b N w F l av R i wr)(hi:i<l.length)(hn:oN x (rc l i)=true):Dq RH CH B x b N w F l av R (i+1) wr:=by
 obtain⟨st,F',h1,h2,h3,h4,h5,h6,h7⟩:=h;refine⟨st,F',h1,h2,h3,h4,h5,h6,?_⟩;rw[<-h7,ajW hi,<-bU hi,oO,if_pos hn]
theorem Dq.drops {x:Sr}{wr:I}(h:Dq RH CH B x b N w F l av R i wr)(hi:i<l.length)(hn:oN x (rc l i)=false)(hb1:ai wr w1) :
 ∃p,w1.cell? (aq b 0)=some (ptr p)/\b<wr.heap.size/\Calls prog 57 #[ptr p,aa (rc l i).q] w1 λe w'=>∃E:Int,e=.returned (aa E)/\aA (λk=>k<wr.heap.size/\k≠b) w1 w'/\(E=0->Dq RH CH B x b N w F l av R (i+1) w')/\(E≠0->Dd (mY RH CH B {x with st:=R} b) w w' F):=by
 obtain⟨st,F',h1,h2,h3,h4,h5,h6,h7⟩:=h;obtain⟨_,_,hl,_⟩:=W.does h1;have hown:∀k,F' k->k<wr.heap.size:=λk hk=>((W.sr B _ b).own h1 k hk).2
 have h1:=(W.sr B _ b).next h1 hb1;have h2:=h2.trans (aA.of_below (A:=F) hb1);have h4:=h4.below hb1;obtain⟨p,c0,_,_,hc⟩:=W.does h1;refine⟨p,c0,hl,(hc (st:=Ag x.m x.z st (dF (rc l i).q 0)) (Q:=λe=>e=.returned (aa (ji st.es st.s x.m x.z (dF (rc l i).q 0)))) (λB' F1 hr hb=>W.M.erase (rc l i).q hr h6.fit hb)).mono ?_⟩;rintro e w' ⟨he,⟨F2,g1,g2,g3⟩,hc2⟩;have hs:=h2.size;have ahU:aA F w w':=h2.more g2 (λk hk z=>by rcases h3 k z with y|y;exact y;omega);have hsub:∀k,F2 k->F k\/w.heap.size<=k:=λk hk=>by
  rcases g3 k hk with y|y
  ·exact h3 k y
  ·exact .inr (by omega)
 have hsw:oO x.m x.z (oN x) (l.drop i) st=if ji st.es st.s x.m x.z (dF (rc l i).q 0)≠0 then st else oO x.m x.z (oN x) (l.drop (i+1)) (Ag x.m x.z st (dF (rc l i).q 0)):=by
  rw[ajW hi,<-bU hi,oO,if_neg (by rw[hn];simp)]
 rw[h7] at hsw;refine⟨_,he,hc2.mono (λk _ z=>⟨hown k z.1,z.2⟩),λe0=>⟨_,F2,g1,ahU,hsub,λk hk=>?_,λz hz q=>?_,h6.str (h6.fit.did _),?_⟩,λe1=>?_⟩
 ·obtain⟨b',o,e,s⟩:=h4 k hk;exact⟨b',o,e,s.aF g2 (h5 _ e)⟩
 ·rcases g3 _ q with y|y
  ·exact h5 z hz y
  ·obtain⟨b',o,e,s⟩:=h4 i hi;rw[hz] at e
   cases e
   have:=s.lt;simp only at y;omega
 ·rw[hsw,if_neg (by rw[e0];simp)]
 ·rw[if_pos e1] at hsw;rw[hsw];rw[Xd e1] at g1;exact⟨F2,g1,ahU,hsub⟩
theorem Dq.asks {x:Sr}{wr:I}(h:Dq RH CH B x b N w F l av R i wr)(hN:N<=100000)(r:Rc)(hr:Small r) :
 Calls prog 56 #[ptr b,aa (pv x.P 6),.agg #[aa r.k,aa r.q,aa r.t,.string r.s,.string r.h,.string r.d]] wr λe w'=>e=.returned (.bool (oN x r))/\Dq RH CH B x b N w F l av R i w'/\ai wr w':=by
 obtain⟨st,F',h1,_,_,_,_,h6,_⟩:=id h;refine(ZJ W h1 h6 hN r hr).mono ?_;rintro e w' ⟨he,hb⟩;exact⟨he,Dq.next W h hb,hb⟩
theorem Ko {x:Sr}(h:mY RH CH B x b w F)(hx:x.Ok N)(hN:N<=100000) :
 ∃c,Tryz.f28.body=some c/\c.wp prog (bodyPost prog Tryz.f28 λe w'=>e=.returned (.tuple #[])/\Dd (mY RH CH B x.sweep b) w w' F) {tmps:=#[ptr b]++Array.replicate (Tryz.f28.ntmps-(#[ptr b]:Array Value).size) undef,defers:=[]} w:=by
 obtain⟨p,c0,hl,hs,_⟩:=W.does h;have hpl:=(Pn.kU hx.fit.plan).2.1;obtain⟨_,_,h1,_⟩:=hs w (agP _ _);have PP:=aj (W.M.plan h1 (by omega));have HS:=aj hs;have HX:=aj (And.intro h hx);have HL:=aj hl;obtain⟨K,hK⟩:∃K,nth x.P.v 6=K:=⟨_,rfl⟩;have hK':pv x.P 6=K:=hK;have hin:=Xm x.P;rw[hK] at hin;have HK:=aj hK';clear h hx hs hK hK' hpl h1;refine⟨_,rfl,?_⟩;simp only[ntmps28,alm,ajX,alG,Nat.reduceAdd,Nat.reduceSub,alo,alp,alD,als,akD,akx];go_wp2_with fail
 refine(ah PP).mono ?_;rintro e w1 ⟨a',c',rfl,_,_,b1⟩;have B1:=aj b1;have c1:=(b1.cell (p:=aq b 0) hl).trans c0;clear b1 PP c0;by_cases hk:K=0
 ·have HE:Hid (Dd (mY RH CH B x.sweep b) w w1 F):=aj (by
   have e:x.sweep=x:=by unfold Sr.sweep;rw[if_pos (by rw[ah HK];exact hk)]
   rw[e];exact(W.sr B x b).same (ah HX).1 (ah B1))
  subst hk;clear HS HX B1 HK;go_wp2_with fail;refine ajY (amo rfl _ _ _) rfl ?_;exact⟨rfl,ah HE⟩
 ·have hk2:(K==0)=false:=by simpa using hk
  obtain⟨_,_,h1,hBq,_⟩:=ah HS w1 (ah B1);have h2:=hBq;have PS:=aj (W.V.store h1 (ah HX).2.fit h2);clear h1 h2 HS;go_wp2_with fail;refine(ah PS).mono ?_;rintro e w2 ⟨q,F0,rfl,h2,_,b2⟩;have B2:=aj (ak (ah B1) b2);have c2:=(b2.cell (p:=aq b 0) (ajz hl (ah B1).size)).trans c1;have hl2:b<w2.heap.size:=ajz hl (ah B2).size;have PA:=aj (W.S.all h2 (ah HX).2.fit.vM.ok (ajA (by assumption) b2.size));have hfew:=(ah HX).2.fit.vM.ok.few;clear PS h2 b2 c1;go_wp2_with fail;refine(ah PA).mono ?_;rintro e w3 ⟨v,rfl,a3,b3⟩
  obtain⟨av,cv,hv,hc1,hc2,hsl⟩:=a3.shape;have hz:∀z,av=some z->¬F z.block:=λz hz hF=>by
   subst hv;have:=aks a3 z.block (by rw[hz];rfl);have:=((W.sr B x b).own (ah HX).1 _ hF).2;have:=(ah B2).size;omega
  have HR:Hid (Dq RH CH B x b N w F x.st.s.l av x.sweep.st 0 w3):=aj ⟨x.st,F,(W.sr B x b).next (ah HX).1 (ak (ah B2) b3),aA.of_below (ak (ah B2) b3),λ_ z=>.inl z,hsl,hz,(ah HX).2,by unfold Sr.sweep;rw[if_neg (by rw[ah HK];exact hk)];rfl⟩;subst hv;clear PA a3 b3 c2 hl2 hsl hz;go_wp2_with fail;have gQ:Hid (∀wr,Dq RH CH B x b N w F x.st.s.l av x.sweep.st x.st.s.l.length wr->Dd (mY RH CH B x.sweep b) w wr F):=aj (λwr h=>by
   have e:x.sweep={x with st:=x.sweep.st}:=by unfold Sr.sweep;split<;>rfl
   rw[e];exact h.done (λst hst=>by rw[amk] at hst;exact hst))
  have HEr:Hid (∀wr,Dd (mY RH CH B {x with st:=x.sweep.st} b) w wr F->Dd (mY RH CH B x.sweep b) w wr F):=aj (λwr h=>by
   have e:x.sweep={x with st:=x.sweep.st}:=by unfold Sr.sweep;split<;>rfl
   rw[e];exact h)
  have HSm:Hid (∀i,i<x.st.s.l.length->Small (rc x.st.s.l i)):=aj (λi hi=>Small.of ((ah HX).2.fit.vM.ok.msg _ (by rw[bU hi];exact ako hi)).2);have ZK:=aj (λ(wr:I) (i:Nat) (h:Dq RH CH B x b N w F x.st.s.l av x.sweep.st i wr) (r:Rc) (hr:Small r)=>Dq.asks W h hN r hr);rw[ah HK] at ZK;have HDr:=aj (λ(wr:I) (i:Nat) (h:Dq RH CH B x b N w F x.st.s.l av x.sweep.st i wr) (hi:i<x.st.s.l.length) (hn:oN x (rc x.st.s.l i)=false) (w1:I) (hb:ai wr w1)=>Dq.drops W h hi hn hb);have HNx:=aj (λ(wr w':I) (i:Nat) (h:Dq RH CH B x b N w F x.st.s.l av x.sweep.st i wr) (hb:ai wr w')=>Dq.next W h hb)
  obtain⟨l,hl'⟩:∃l,x.st.s.l=l:=⟨_,rfl⟩;obtain⟨R,hR'⟩:∃R,x.sweep.st=R:=⟨_,rfl⟩;rw[hl',hR'] at HR gQ ZK HDr HNx;rw[hl'] at HSm hc1 hfew;rw[hR'] at HEr;rw[hl'];clear hl' hR' HX B1 B2 HK hin hl HL;go_loopw [21] (λiv wr=>∃i:Nat,iv=aa i/\i<=l.length/\Hid (Dq RH CH B x b N w F l av R i wr)) (λiv _=>l.length-(intOf iv).toNat)
  case atStart=>exact⟨0,rfl,ajO _,HR⟩
  case round =>
   clear HR;obtain⟨i,rfl,hi,HR⟩:=hrel;by_cases hlt:i<l.length
   ·obtain⟨ba,o,rfl,six⟩:∃b o,av=some ⟨b,o,none⟩/\Six wr b (o+i*6) (rc l i):=by
     obtain⟨st,F',_,_,_,h4,_⟩:=ah HR;exact h4 i hlt
    obtain⟨lb,d0,d1,d2,d3,d4,d5⟩:=six;obtain⟨W4,hW4⟩:∃W4,W4=wr.alloc (.cells #[aa (rc l i).k,aa (rc l i).q,aa (rc l i).t,.string (rc l i).s,.string (rc l i).h,.string (rc l i).d] 46):=⟨_,rfl⟩;have b4:ai wr W4:=by rw[hW4];exact ax _ _
    have r4:CB W4 wr.heap.size [aa (rc l i).k,aa (rc l i).q,aa (rc l i).t,.string (rc l i).s,.string (rc l i).h,.string (rc l i).d]:=by rw[hW4];exact CB.new wr [aa (rc l i).k,aa (rc l i).q,aa (rc l i).t,.string (rc l i).s,.string (rc l i).h,.string (rc l i).d] _
    have HR4:=aj (ah HNx _ _ _ (ah HR) b4);have PQ:=aj (ah ZK _ _ (ah HR4) _ (ah HSm i hlt));go_upto_region 5 with fail
    rw[show wr.alloc (.cells #[aa (rc l i).k,aa (rc l i).q,aa (rc l i).t,.string (rc l i).s,.string (rc l i).h,.string (rc l i).d] 46)=W4 from hW4.symm];have y0:=r4.cell 0 _ rfl;have y1:=r4.cell 1 _ rfl;have y2:=r4.cell 2 _ rfl;have y3:=r4.cell 3 _ rfl;have y4:=r4.cell 4 _ rfl;have y5:=r4.cell 5 _ rfl;have HB4:=aj (And.intro r4 b4);clear hW4 d0 d1 d2 d3 d4 d5 lb r4 b4;obtain⟨Nd,hNd⟩:∃Nd,oN x (rc l i)=Nd:=⟨_,rfl⟩;rw[hNd] at PQ;have HNd:=aj hNd;clear hNd
    cases Nd with
    | true =>
     clear gQ HEr HSm ZK HDr HNx HR4 HR;go_wp2_with (go_at_call 56;refine(ah PQ).mono ?_;rintro e w5 ⟨rfl,r5,_⟩;have R5:=aj r5;clear r5);refine⟨⟨i+1,by go_num,by omega,aj ((ah R5).keeps hlt (ah HNd))⟩,?_⟩;simp[intOf];omega
    | false =>
     go_upto_region 6 with (go_at_call 56;refine(ah PQ).mono ?_;rintro e w5 ⟨rfl,r5,b5⟩;have R5:=aj r5;have B5:=aj b5;clear r5 b5)
     have hd:ai w5 w5.drew:=(agP _ _).drew;obtain⟨p',c0,hl0,PE⟩:=ah HDr _ _ (ah HR) hlt (ah HNd) w5.drew (ak (ak (ah HB4).2 (ah B5)) hd);have HL0:=aj (And.intro hl0 (And.intro (ajz hl0 (ak (ak (ah HB4).2 (ah B5)) hd).size) ((ah HB4).1.next (ak (ah B5) hd)).lt));have c1:w5.drew.cell? (aq wr.heap.size 1)=some (aa (rc l i).q):=((ah HB4).1.next (ak (ah B5) hd)).cell 1 _ rfl;have PE:=aj PE;have k0:w5.drew.cell? (aq b 0)=some (ptr p')/\w5.drew.cell? (aq wr.heap.size 1)=some (aa (rc l i).q):=⟨c0,c1⟩
     clear y0 y1 y2 y3 y4 y5 ZK HDr HNx gQ HSm PQ R5 B5 hd HR4 HR HB4 c0 c1 hl0;go_cut [5] (λv5 wx=>∃E:Int,v5=aa E/\Hid ((E=0->Dq RH CH B x b N w F l (some ⟨ba,o,none⟩) R (i+1) wx)/\(E≠0->Dd (mY RH CH B {x with st:=R} b) w wx F)))
     case first =>
      go_region_held3 (λW'=>W'.cell? (aq b 0)=some (ptr p')/\W'.cell? (aq wr.heap.size 1)=some (aa (rc l i).q)) (first|with_reducible assumption)
       (first|(go_at_call 57;with_reducible refine(ah PE).mono ?_;rintro e w6 ⟨E,rfl,qc,q1,q2⟩;have HQ:=aj (And.intro q1 q2);have k1:w6.cell? (aq b 0)=some (ptr p')/\w6.cell? (aq wr.heap.size 1)=some (aa (rc l i).q):=⟨(qc.cell (p:=aq b 0) (ah HL0).2.1 (λz=>absurd rfl z.2)).trans k0.1,(qc.cell (p:=aq wr.heap.size 1) (ah HL0).2.2 (λz=>absurd z.1 (Nat.lt_irrefl _))).trans k0.2⟩;clear q1 q2 qc))
      all_goals go_wp2_with fail
      all_goals go_meet
      exact⟨E,rfl,HQ⟩
     case rest =>
      obtain⟨E,rfl,HQ⟩:=hcut;clear PE k0;by_cases hE:E=0
      ·subst hE;have h9:=aj ((ah HQ).1 rfl);clear HQ HEr;go_wp2_with fail;refine⟨⟨i+1,by go_num,by omega,h9⟩,?_⟩;simp[intOf];omega
      ·have hE2:(E !=0)=true:=by simpa using hE
       have h9:=aj (ah HEr _ ((ah HQ).2 hE));clear HQ HEr;go_wp2_with fail;refine ajY (amo rfl _ _ _) rfl ?_;exact⟨rfl,ah h9⟩
   ·obtain rfl:i=l.length:=by omega
    have hfin:=aj (ah gQ _ (ah HR));clear HR gQ HEr HSm ZK HDr HNx;go_wp2_with fail;go_end0
    exact⟨rfl,ah hfin⟩
theorem U5 {x:Sr}(h:mY RH CH B x b w F)(hx:x.Ok N)(hN:N<=100000) :
 Calls prog 28 #[ptr b] w λe w'=>e=.returned (.tuple #[])/\Dd (mY RH CH B x.sweep b) w w' F:=by
 obtain⟨c,hc,hw⟩:=Ko W h hx hN;exact calls_of_wp func28 hc hw
theorem G5 {x:Sr}(h:mY RH CH B x b w F)(hx:x.Ok N)(hN:N<=100000) :
 CallsD prog 28 #[ptr b] u w λe u' w'=>u'=u/\e=.returned (.tuple #[])/\Dd (mY RH CH B x.sweep b) w w' F:=by
 obtain⟨c,hc,hw⟩:=Ko W h hx hN;exact callsD_of_wp func28 hc hw
end
section
variable {G:I->Prop}{SH:I->Nat->Nat->af->aH->Prop}{RH:I->Nat->Nat->af->Pn.aX->Int->Int->Str->Prop}{CH:I->Nat->Nat->af->bM->Prop}{B:Nat}{w w':I}{F:af}
variable (W:dS G SH RH CH)
include W
theorem dS.ask {s:Sv}(h:qo RH CH B s sp w F)(n:ad)(hn:n.size<=maxLen):∃mb,w.cell? (aq sp 0)=some (.map mb)/\w.cell? (aq sp 1)=some (aa s.t) /\
 ((jL Sr.nm n s.l=none/\(Instr.lookup 76 (.map mb) (.string n) true).run prog w=.ok (.tuple #[.pointer none,.bool false]) w) \/
 ∃x b F1,jL Sr.nm n s.l=some x/\(Instr.lookup 76 (.map mb) (.string n) true).run prog w=.ok (.tuple #[ptr b,.bool true]) w/\mY RH CH B x b w F1/\(∀k,F1 k->F k/\k≠sp)/\∀{f:Sr->Sr} {w1 w'},ai w w1->(f x).nm=x.nm->Dd (mY RH CH B (f x) b) w1 w' F1->Dd (qo RH CH B (s.put n f) sp) w1 w' F):=by
 obtain⟨mb,c0,c1,_,ps,ho,_,ho0,ho1⟩:=W.srv h;have hl:=D8 ho n true hn;refine⟨mb,c0,c1,?_⟩
 cases hx:jL Sr.nm n s.l with
 | none =>
  rw[ho0 n hx] at hl;exact .inl ⟨rfl,hl⟩
 | some x =>
  obtain⟨b,F1,ob,q1,q2,q3⟩:=ho1 n x hx;rw[ob] at hl;exact .inr ⟨x,b,F1,rfl,hl,q1,q2,q3⟩
theorem ZL {s:Sv}(h:qo RH CH B s sp w F)(ho:s.Ok N)(n:ad)(hn:n.size<=maxLen) :
 Calls prog 13 #[ptr sp,.string n] w λe w'=>∃v,e=.returned (.tuple #[v,aa (GR s n).2])/\bI w' w.heap.size v (GR s n).1/\ai w w':=by
 obtain⟨mb,c0,_,⟨hx,hl⟩|⟨x,b,F1,hx,hl,q1,_,_⟩⟩:=W.ask h n hn
 ·have e:GR s n=([],4):=by unfold GR;rw[hx]
  rw[e];clear h ho hn hx e;go_enter func13,ntmps13;go_wp2_with fail;go_ret2;exact⟨_,rfl,⟨rfl,.inl ⟨rfl,rfl⟩⟩,agP _ _⟩
 ·have e:GR s n=(x.st.s.l,0):=by unfold GR;rw[hx]
  rw[e];have hf:=(ho.all x (by_some hx).1).fit;obtain⟨p,d0,hbl,hs,_⟩:=W.does q1;obtain⟨_,_,h1,h2,_⟩:=hs w (agP _ _);have PS:=aj (W.V.store h1 hf h2);have HK:=aj hf.vM.ok;clear h ho hn hx e q1 hs h1 hf;go_enter func13,ntmps13;go_wp2_with fail;refine(ah PS).mono ?_;rintro e w1 ⟨q,F0,rfl,g1,_,b1⟩;have PA:=aj (W.S.all g1 (ah HK) (ajA h2 b1.size));have B1:=aj b1;clear PS g1 b1;go_wp2_with fail;refine(ah PA).mono ?_;rintro e w2 ⟨v,rfl,a2,b2⟩;have HF:=aj (And.intro (bI.low a2 (ah B1).size) (ak (ah B1) b2));clear PA a2 b2 B1;go_wp2_with fail
  go_ret2;exact⟨v,rfl,ah HF⟩
end
section
variable {G:I->Prop}{SH:I->Nat->Nat->af->aH->Prop}{RH:I->Nat->Nat->af->Pn.aX->Int->Int->Str->Prop}{CH:I->Nat->Nat->af->bM->Prop}{B:Nat}{w w':I}{F:af}
structure Fnd (RH:I->Nat->Nat->af->Pn.aX->Int->Int->Str->Prop)(CH:I->Nat->Nat->af->bM->Prop)(B:Nat)(s:Sv)(n who:ad)(sp:Nat)(w:I)(F:af)(x:Sr)(y:Mb)(b c p:Nat)(F1 FS F2:af):Prop where
 src:mY RH CH B x b w F1
 lift:∀{f:Sr->Sr} {w1 w':I},ai w w1->(f x).nm=x.nm->Dd (mY RH CH B (f x) b) w1 w' F1->Dd (qo RH CH B (s.put n f) sp) w1 w' F
 cell:w.cell? (aq b 0)=some (ptr p)
 lt:b<w.heap.size
 st:StT RH B p x w FS
 mb:yg CH B y c w F2
 apart:∀k,FS k->¬F2 k
 in1:∀k,F1 k->F k/\k≠sp
 in2:∀k,F2 k->F1 k/\k≠b
 cells:w.cell? (aq sp 1)=some (aa s.t)/\sp<w.heap.size
 up:∀{f:Mb->Mb} {w1 w':I},ai w w1->(f y).nm=y.nm->Dd (yg CH B (f y) c) w1 w' F2->Dd (mY RH CH B (x.put who f) b) w1 w' F1
 upG:∀{g:Nat} {f:Mb->Mb} {w1 w':I},w.heap.size<=g->ai w w1->(f y).nm=y.nm->Dd (GZ g (yg CH B (f y) c)) w1 w' F2->Dd (GZ g (mY RH CH B (x.put who f) b)) w1 w' F1
variable (W:dS G SH RH CH)
include W
theorem vZ {s:Sv}(h:qo RH CH B s sp w F)(n who:ad)(hn:n.size<=maxLen)(hw:who.size<=maxLen) :
 (s.at n who=none/\∀W',ai w W'->Calls prog 32 #[ptr sp,.string n,.string who] W' λe w'=>w'=W'/\∃u v,e=.returned (.tuple #[u,v,.bool false])) \/
 ∃x y b c p F1 FS F2,s.at n who=some (x,y)/\Fnd RH CH B s n who sp w F x y b c p F1 FS F2/\∀W',ai w W'->Calls prog 32 #[ptr sp,.string n,.string who] W' λe w'=>w'=W'/\e=.returned (.tuple #[ptr b,ptr c,.bool true]):=by
 obtain⟨mb,c0,csp,hlt,ps,ho,_,ho0,ho1⟩:=W.srv h;have hl:=λ(W':I) (hb:ai w W')=>D8 (ho.aF (A:=λ_=>False) (aA.of_below hb) (λ_ _ z=>z)) n true hn
 have c0:=λ(W':I) (hb:ai w W')=>(hb.cell (p:=aq sp 0) hlt).trans c0
 cases hx:jL Sr.nm n s.l with
 | none =>
  rw[ho0 n hx] at hl;refine .inl ⟨by unfold Sv.at;rw[hx];rfl,λW' hb=>?_⟩;have hl:=hl W' hb;have c0:=c0 W' hb;clear h ho ho0 ho1 hn hw hx csp;simp only[O1,Option.map_none,Option.isSome_none,ami] at hl;go_enter func32,ntmps32;go_wp2_with fail;go_ret3;exact⟨rfl,_,_,rfl⟩
 | some x =>
  obtain⟨b,F1,ob,q1,q2,q3⟩:=ho1 n x hx;rw[ob] at hl;obtain⟨p,cb,d0,d1,hbl,FS,g1,g2,g3,ps',ho',_,agW,agX⟩:=W.ZI q1;have hl2:=λ(W':I) (hb:ai w W')=>Xl (ho'.aF (A:=λ_=>False) (aA.of_below hb) (λ_ _ z=>z)) who true hw
  have d1':=λ(W':I) (hb:ai w W')=>(hb.cell (p:=aq b 1) hbl).trans d1
  cases hy:jL Mb.nm who x.cs with
  | none =>
   rw[agW who hy] at hl2;refine .inl ⟨by unfold Sv.at;rw[hx];simp[hy],λW' hb=>?_⟩;have hl:=hl W' hb;have c0:=c0 W' hb;have hl2:=hl2 W' hb;have d1:=d1' W' hb;clear h ho ho0 ho1 hn hw hx csp q1 q2 q3 ob g1 g2 g3 ho' agW agX hy d1' hb d0 hbl hlt;simp only[O1,Option.map_some,Option.isSome_some,ami] at hl;simp only[O1,Option.map_none,Option.isSome_none,ami] at hl2;go_enter func32,ntmps32;go_wp2_with fail;go_ret3;exact⟨rfl,_,_,rfl⟩
  | some y =>
   obtain⟨c,F2,oc,e1,e2,e3,e4⟩:=agX who y hy;rw[oc] at hl2;refine .inr ⟨x,y,b,c,p,F1,FS,F2,by unfold Sv.at;rw[hx];simp[hy],⟨q1,q3,d0,hbl,g1,e1,e3,q2,e2,⟨csp,hlt⟩,λhb hf=>(e4 hb hf).1,λhg hb hf=>(e4 hb hf).2 hg⟩,λW' hb=>?_⟩;have hl:=hl W' hb;have c0:=c0 W' hb;have hl2:=hl2 W' hb;have d1:=d1' W' hb;clear h ho ho0 ho1 hn hw hx csp q1 q2 q3 ob g1 g2 g3 ho' agW agX hy oc e1 e2 e3 e4 d1' hb d0 hbl hlt;simp only[O1,Option.map_some,Option.isSome_some,ami] at hl;simp only[O1,Option.map_some,Option.isSome_some,ami] at hl2;go_enter func32,ntmps32;go_wp2_with fail;go_ret3;exact⟨rfl,rfl⟩
end
section
variable {G:I->Prop}{SH:I->Nat->Nat->af->aH->Prop}{RH:I->Nat->Nat->af->Pn.aX->Int->Int->Str->Prop}{CH:I->Nat->Nat->af->bM->Prop}{B:Nat}{w w':I}{F:af}
variable (W:dS G SH RH CH)
include W
theorem dS.G6 {c:Nat}(h:yg CH B y c w F):∃p q,w.cell? (aq c 0)=some (ptr p)/\w.cell? (aq c 1)=some (ptr q)/\c<w.heap.size /\
 (∀{w1:I} {fn:FuncId} {args:Array Value} {Q:Ending->Prop} {c':bM},ai w w1->(∀B' F1,CH w1 B' p F1 y.c->B'<=w1.heap.size->(∀k,F1 k->F k)->Calls prog fn args w1 λe w'=>Q e/\aeL CH w1 w' B' p F1 c')->Calls prog fn args w1 λe w'=>Q e/\Dd (yg CH B ⟨c',y.q⟩ c) w1 w' F/\aA (λk=>F k/\k≠c) w1 w') /\
 ∀{w1:I} {fn:FuncId} {args:Array Value} {Q:Ending->Prop} {l:List dD},ai w w1->(∀B' v,fA w1 B' q v y.q->Calls prog fn args w1 λe w'=>Q e/\iR w1 w' B' q v l)->Calls prog fn args w1 λe w'=>Q e/\Dd (yg CH B ⟨y.c,l⟩ c) w1 w' F/\aA (λk=>F k/\k≠c) w1 w':=by
 obtain⟨p,q,c0,c1,hl,_⟩:=W.mem h;refine⟨p,q,c0,c1,hl,λ{w1 fn args Q c'} hb hc=>?_,λ{w1 fn args Q l} hb hc=>?_⟩
 ·obtain⟨p2,q2,d0,d1,_,F1,F2,h1,h2,i1,i2,f1,f2⟩:=W.mem ((W.mb B y c).next h hb);rw[(hb.cell (p:=aq c 0) hl).trans c0] at d0;have:p=p2:=by simpa using d0
  subst this;obtain⟨B',e1,e2,e3⟩:=Up.open h1;refine(hc B' F1 e2 e1 (λk hk=>(i1 k hk).1)).mono ?_;rintro e w' ⟨hq,hd⟩;exact⟨hq,f1 (e3 (Y:=λB' w F=>CH w B' p F c') hd),hd.choose_spec.2.1.mono (λk _ z=>i1 k z)⟩
 ·obtain⟨p2,q2,d0,d1,_,F1,F2,h1,h2,i1,i2,f1,f2⟩:=W.mem ((W.mb B y c).next h hb);rw[(hb.cell (p:=aq c 1) hl).trans c1] at d1;have:q=q2:=by simpa using d1
  subst this;obtain⟨B2,g1,⟨v,g2,g3⟩,g4⟩:=Up.open h2;refine(hc B2 v g2).mono ?_;rintro e w' ⟨hq,v',k1,k2,k3⟩;have hc2:aA F2 w1 w':=k2.mono (λk _ z=>(g3 k).2 z);refine⟨hq,f2 (g4 (Y:=λB' w F=>∃v,fA w B' q v l/\∀k,F k↔qC q v k) ⟨qC q v',⟨v',k1,λ_=>alJ⟩,hc2,λk hk=>?_⟩),hc2.mono (λk _ z=>i2 k z)⟩;rcases hk with z|z
  ·exact .inl ((g3 k).2 (.inl z))
  ·exact(k3 k z).imp (λy=>(g3 k).2 (.inr y)) id
omit W in
theorem Ad (x:Sr):x.sweep.nm=x.nm:=by unfold Sr.nm;rw[(vY x).1]
theorem dS.afW {s:Sv}{n who:ad}{x:Sr}{c:Nat}{F2:af}{f:Sr->Sr}(hf:Fnd RH CH B s n who sp w F x y b c p F1 FS F2)(hb:ai w w0)(hd:Dd (mY RH CH B (f x) b) w0 w1 F1)(hnm:(f x).nm=x.nm)(hok:(f x).Ok N)(hN:N<=100000) :
 CallsD prog 28 #[ptr b] u w1 λe u' w'=>u'=u/\e=.returned (.tuple #[])/\Dd (qo RH CH B (s.put n λx=>(f x).sweep) sp) w0 w' F:=by
 obtain⟨F',g1,g2,g3⟩:=hd;refine(G5 W g1 hok hN).mono ?_;rintro e u' w' ⟨hu,he,F4,k1,k2,k3⟩;have:=g2.size;refine⟨hu,he,hf.lift (f:=λx=>(f x).sweep) hb ((Ad _).trans hnm) ⟨F4,k1,g2.more k2 (λi hi z=>?_),λi z=>?_⟩⟩
 ·rcases g3 i z with q|q
  ·exact q
  ·omega
 ·rcases k3 i z with q|q
  ·exact g3 i q
  ·exact .inr (by omega)
theorem adv {s:Sv}(h:qo RH CH B s sp w F)(ho:s.Ok N)(hN:N<=100000)(n who:ad)(hn:n.size<=maxLen)(hw:who.size<=maxLen)(q so k:Int) :
 Calls prog 12 #[ptr sp,.string n,.string who,aa q,.agg #[aa so,aa k]] w λe w'=>e=.returned (aa (GN s n who q so k).2)/\Dd (qo RH CH B (GN s n who q so k).1 sp) w w' F:=by
 obtain⟨W0,hW0⟩:∃W0,W0=w.alloc (.cells #[aa so,aa k] 40):=⟨_,rfl⟩;have b0:ai w W0:=by rw[hW0];exact ax _ _
 have r0:CB W0 w.heap.size [aa so,aa k]:=by rw[hW0];exact CB.new w [aa so,aa k] _
 have hown:=λk hk=>((W.sv B s sp).own h k hk).2
 rcases vZ W h n who hn hw with ⟨hx,hc⟩|⟨x,y,b,c,p,F1,FS,F2,hx,hf,hc⟩
 ·have e:GN s n who q so k=(s,4):=by unfold GN;rw[hx]
  rw[e];have HE:=aj ((W.sv B s sp).same h b0);have PF:=aj (hc W0 b0);clear h ho hn hw hx e b0 r0 hc hown;go_enter_defers func12,ntmps12
  go_upto_region 1 with fail
  rw[show w.alloc (.cells #[aa so,aa k] 40)=W0 from hW0.symm];clear hW0;go_wp2_with fail;refine(ah PF).mono ?_;rintro e w1 ⟨hw1,u,v,rfl⟩;subst hw1;clear PF;go_wp2_with fail;exact⟨_,results_tmp rfl _ _ _,rfl,ah HE⟩
 ·have e:GN s n who q so k=(s.put n λx=>(x.put who λy=>⟨(iT y.c s.t q so k).1,y.q⟩).sweep,(iT y.c s.t q so k).2):=by unfold GN;rw[hx]
  rw[e];obtain⟨hx1,hy1⟩:=D7 hx;have hox:=ho.all x (by_some hx1).1;have hoy:=hox.all y (by_some hy1).1;have hd:ai w W0.drew:=b0.drew;obtain⟨p',_,c0,_,hcl,hcd,_⟩:=W.G6 hf.mb;have PE:=aj (hcd (Q:=λe=>e=.returned (aa (iT y.c s.t q so k).2)) (c':=(iT y.c s.t q so k).1) hd (λB' F1 hch hb _=>W.C.answer hch hoy.go hN s.t q so k));have U6:=aj (λ(w1:I) (D:Dd (yg CH B ⟨(iT y.c s.t q so k).1,y.q⟩ c) W0.drew w1 F2) (u:FrameMode)=>W.afW (f:=λx=>x.put who λy=>⟨(iT y.c s.t q so k).1,y.q⟩) hf (agP _ _) (hf.up (f:=λy=>⟨(iT y.c s.t q so k).1,y.q⟩) (agP _ _) (by show(iT y.c s.t q so k).1.t.n=y.c.t.n;rw[uy]) (Dd.fst hd D)) rfl (hox.put (agH _) λy' hy' e=>⟨⟨(hox.all y' hy').go.ans _ _ _ _,(hox.all y' hy').MV⟩,uy _ _ _ _ _⟩) hN (u:=u))
  have HK:Hid (∀w1,aA (λk=>F2 k/\k≠c) W0.drew w1->w1.cell? (aq c 0)=some (ptr p')/\w1.cell? (aq sp 1)=some (aa s.t)/\w1.cell? (aq w.heap.size 0)=some (aa so)/\w1.cell? (aq w.heap.size 1)=some (aa k)):=aj (λw1 hc=>by
   have n2:¬(F2 w.heap.size/\w.heap.size≠c):=λz=>by have:=hown _ (hf.in1 _ (hf.in2 _ z.1).1).1;omega
   exact⟨(hc.cell (p:=aq c 0) (ajz hcl hd.size) (λz=>absurd rfl z.2)).trans ((hd.cell (p:=aq c 0) hcl).trans c0),(hc.cell (p:=aq sp 1) (ajz hf.cells.2 hd.size) (λz=>absurd rfl (hf.in1 _ (hf.in2 _ z.1).1).2)).trans ((hd.cell (p:=aq sp 1) hf.cells.2).trans hf.cells.1),(hc.cell (p:=aq w.heap.size 0) r0.lt n2).trans (r0.cell 0 _ rfl),(hc.cell (p:=aq w.heap.size 1) r0.lt n2).trans (r0.cell 1 _ rfl)⟩)
  have k0:=ah HK _ (aA.refl _ _);have PF:=aj (hc W0 b0);clear h ho hn hw hx e b0 r0 hc hown hx1 hy1 hox hoy c0 hcl hcd hd hf;go_enter_defers func12,ntmps12
  go_upto_region 1 with fail
  rw[show w.alloc (.cells #[aa so,aa k] 40)=W0 from hW0.symm];clear hW0;go_wp2_with fail;refine(ah PF).mono ?_;rintro e w1 ⟨hw1,rfl⟩;subst hw1;clear PF;go_wp2_with fail;go_region_held3 (λW'=>W'.cell? (aq c 0)=some (ptr p')/\W'.cell? (aq sp 1)=some (aa s.t)/\W'.cell? (aq w.heap.size 0)=some (aa so)/\W'.cell? (aq w.heap.size 1)=some (aa k)) (first|with_reducible assumption)
   (first|(go_at_call 35;with_reducible refine(ah PE).mono ?_;rintro e w2 ⟨rfl,D,hc2⟩;have HD:=aj (ah U6 _ D);have k2:=ah HK _ hc2;clear D hc2))
  clear HK k0 k2 PE U6;go_wp2_with fail;refine leaves_cons (f:=28) (args:=#[ptr b]) (by simp) (by simp[go_sem]) ?_;refine(ah HD _).mono ?_;rintro e u' w3 ⟨rfl,rfl,hfin⟩;exact⟨_,results_tmp rfl _ _ _,rfl,hfin⟩
end
theorem Dd.on {Y:wF}{w:I}{F:af}(g2:aA F w w1)(g3:∀k,F' k->F k\/w.heap.size<=k)(D:Dd Y w1 w2 F'):Dd Y w w2 F:=by
 obtain⟨F2,k1,k2,k3⟩:=D;have:=g2.size;refine⟨F2,k1,g2.more k2 (λi hi z=>?_),λi z=>?_⟩
 ·rcases g3 i z with y|y
  ·exact y
  ·omega
 ·rcases k3 i z with y|y
  ·exact g3 i y
  ·exact .inr (by omega)
section
variable {G:I->Prop}{SH:I->Nat->Nat->af->aH->Prop}{RH:I->Nat->Nat->af->Pn.aX->Int->Int->Str->Prop}{CH:I->Nat->Nat->af->bM->Prop}{B:Nat}{w w':I}{F:af}
variable (W:dS G SH RH CH)
include W
end
theorem U7 {P Q:Pn.aX}{u:ad}(hp:Pn.aZ P=0)(hq:Pn.aZ Q=0)(hu:aC false u=0)(h1:bV P u=true)(h2:bV Q u=true):sV P.f Q.f=true:=by
 unfold bV at h1 h2;obtain⟨f,hf,e1⟩:=akN.1 h1;obtain⟨g,hg,e2⟩:=akN.1 h2;have m:∀{p:Pn.aX} {f:ad},Pn.aZ p=0->f∈p.f->ng f u=true->aN f u=true:=λ{p f} hp hf e=>by
  unfold aN;rw[Pn.vI (Pn.kU hp).2.2.2.1 _ hf,hu];exact e
 unfold sV;exact akN.2 ⟨f,hf,akN.2 ⟨g,hg,Ib (m hp hf e1) (m hq hg e2)⟩⟩
theorem agY {R:α->α->Prop}(hs:∀a b,R a b->R b a){l:List α}(h:l.Pairwise R){x y:α}(hx:x∈l)(hy:y∈l)(hne:x≠y):R x y:=by
 induction l with
 | nil=>cases hx
 | cons a r ih =>
  rw[akL] at h;rcases akb.1 hx with e|hx'
  ·rcases akb.1 hy with e2|hy'
   ·exact absurd (e.trans e2.symm) hne
   ·rw[e];exact h.1 y hy'
  ·rcases akb.1 hy with e|hy'
   ·rw[e];exact hs _ _ (h.1 x hx')
   ·exact ih h.2 hx' hy'
theorem Sv.Ok.takes {s:Sv}{x:Sr}{u:ad}(h:s.Ok N)(hu:aC false u=0)(hx:x∈s.l)(ht:bV x.P u=true):s.l.find? (λx=>bV x.P u)=some x:=by
 cases e:s.l.find? (λx=>bV x.P u) with
 | none=>exact absurd ht (akW.1 e x hx)
 | some y =>
  have hy:=akY e;have ht2:bV y.P u=true:=by simpa using List.find?_some e
  congr 1
  by_cases hne:y=x
  ·exact hne
  ·exfalso;have:=agY (λa b z=>by rw[Rf];exact z) h.apart hy hx hne;rw[U7 (h.all y hy).fit.plan (h.all x hx).fit.plan hu ht2 ht] at this
   cases this
section
variable {G:I->Prop}{SH:I->Nat->Nat->af->aH->Prop}{RH:I->Nat->Nat->af->Pn.aX->Int->Int->Str->Prop}{CH:I->Nat->Nat->af->bM->Prop}{B:Nat}{w w':I}{F:af}
variable (W:dS G SH RH CH)
include W
theorem agZ {s:Sv}{mb:Option Nat}(c0:w.cell? (aq sp 0)=some (.map mb))(hP:mV w mb ps)(hM:∀n b,cZ ps n=some b->∃x F1,x∈s.l/\x.nm=n/\mY RH CH B x b w F1)(hA:∀x∈s.l,x.nm.size<=maxLen/\(cZ ps x.nm).isSome=true)(ho:s.Ok N)(u:ad)(hu:u.size<=140737488355328)(he:aC false u=0) :
 Calls prog 27 #[ptr sp,.string u] w λe w'=>(((∀x∈s.l,bV x.P u=false)/\e=.returned (.tuple #[.pointer none,.bool false]))\/∃x b,x∈s.l/\bV x.P u=true/\cZ ps x.nm=some b/\e=.returned (.tuple #[ptr b,.bool true]))/\ai w w':=by
 have HM:=aj hM;have HA:=aj hA;have HO:=aj ho;have HU:=aj (And.intro hu he);have hml:∀b,mb=some b->b<w.heap.size:=λb hb=>by subst hb;exact hP.lt
 have HML:=aj hml;clear hM hA ho hu he hml;go_enter func27,ntmps27;go_wp2_with (first
  | (at_range;refine nO rfl _ 76 67 rfl underlying76 rfl hP ?_;intro w0 agV hrg0 hb0 hs0)
  | go_in)
 go_frame
 have HB0:=aj hb0;clear hP c0 hb0;go_loopw [] (λwr=>∃left cnt,Rg wr mb w.heap.size ps left cnt/\Hid (ai w wr/\w.heap.size<wr.heap.size)/\Hid (∀x∈s.l,left x.nm=false->bV x.P u=false)) (λwr=>kX mb w.heap.size wr)
 case atStart=>exact⟨_,_,hrg0,aj ⟨ah HB0,by omega⟩,aj (λx _ z=>by cases z)⟩
 case round =>
  clear hrg0 HB0 hs0;obtain⟨left,cnt,hrg,HB,HN⟩:=hrel;go_wp2_with (first
   | (at_next;refine pU rfl _ rfl rfl hrg ?_ ?_)
   | go_in)
  ·intro hl0;have HE:Hid (∀x∈s.l,bV x.P u=false):=aj (λx hx=>ah HN x hx (hl0 _ (ah HA x hx).1 (ah HA x hx).2));clear HN hl0 hrg;go_wp2_with fail;go_ret2;exact⟨.inl ⟨ah HE,rfl⟩,(ah HB).1⟩
  ·intro n c w2 cnt2 hns hlk hlf hrg2 hlt hch hen;obtain⟨x,F1,hx,hxn,hsr⟩:=ah HM n c hlk;have hb2:ai w w2:=(ah HB).1.trans (hch.below (ah HB).1.size (λk hk z=>by omega));have hox:=(ah HO).all x hx;obtain⟨q,d0,hcl,hs,_⟩:=W.does ((W.sr B x c).next hsr hb2);obtain⟨B',G',g1,g2,g3⟩:=hs w2 (agP _ _);obtain⟨T,hT⟩:∃T,bV x.P u=T:=⟨_,rfl⟩;have PT:=aj (W.M.takes u (ah HU).1 (ah HU).2 g1 hox.fit.plan);have HX:=aj (And.intro hx (And.intro hxn (And.intro hT hlk)));rw[hT] at PT;have lD:Hid (∀w9,ai w2 w9->T=false->(∃left cnt,Rg w9 mb w.heap.size ps left cnt/\Hid (ai w w9/\w.heap.size<w9.heap.size)/\Hid (∀x∈s.l,left x.nm=false->bV x.P u=false))/\kX mb w.heap.size w9<kX mb w.heap.size wr):=aj (λw9 hb hf=>by
    have hl2:w.heap.size<w2.heap.size:=ajz (ah HB).2 hch.size;have hr9:=hrg2.aF (A:=λ_=>False) (aA.of_below hb) (λ_ _ z=>z) (λz=>z) hl2;refine⟨⟨_,cnt2,hr9,aj ⟨hb2.trans (hb.mono hb2.size),ajz hl2 hb.size⟩,aj (λy hy z=>?_)⟩,by rw[hr9.left_eq,hrg.left_eq];exact hlt⟩;rw[Bool.and_eq_false_iff] at z;rcases z with z|z
    ·exact ah HN y hy z
    ·have e:y.nm=n:=by simpa using z
     have a1:=(ah HO).one hy e;rw[(ah HO).one hx hxn] at a1;rw[<-ajU a1,hT];exact hf)
   have HB2:=aj hb2;clear hx hxn hsr hb2 hox hs g1 g2 g3 hT hlk hlf hrg2 hrg hch HB HN HA HM HO HML hns hlt
   cases T with
   | false =>
    go_wp2_with fail;refine(ah PT).mono ?_;rintro e w3 ⟨rfl,b3⟩;have hfin:=ah lD w3 b3 (by first|rfl|trivial);clear lD b3 PT;go_wp2_with fail;go_roundw
    case rel=>exact hfin.1
    case measure=>exact hfin.2
   | true =>
    go_wp2_with fail;refine(ah PT).mono ?_;rintro e w3 ⟨rfl,b3⟩;have B3:=aj (ak (ah HB2) b3);clear lD b3 PT;go_wp2_with fail;go_ret2;obtain⟨hx,hxn,hT,hlk⟩:=ah HX;exact⟨.inr ⟨x,c,hx,hT,by rw[hxn];exact hlk,rfl⟩,ah B3⟩
theorem afB {s:Sv}(h:qo RH CH B s sp w F)(ho:s.Ok N)(u:ad)(hu:u.size<=140737488355328)(he:aC false u=0) :
 (s.l.find? (λx=>bV x.P u)=none/\∀W',ai w W'->Calls prog 27 #[ptr sp,.string u] W' λe w'=>e=.returned (.tuple #[.pointer none,.bool false])/\ai W' w') \/
 ∃x b F1,s.l.find? (λx=>bV x.P u)=some x/\jL Sr.nm x.nm s.l=some x/\mY RH CH B x b w F1/\(∀k,F1 k->F k/\k≠sp)/\(∀{f:Sr->Sr} {w1 w'},ai w w1->(f x).nm=x.nm->Dd (mY RH CH B (f x) b) w1 w' F1->Dd (qo RH CH B (s.put x.nm f) sp) w1 w' F) /\
  ∀W',ai w W'->Calls prog 27 #[ptr sp,.string u] W' λe w'=>e=.returned (.tuple #[ptr b,.bool true])/\ai W' w':=by
 obtain⟨mb,c0,_,hlt,ps,hP,_,hno,hyes⟩:=W.srv h;have hA:∀x∈s.l,x.nm.size<=maxLen/\(cZ ps x.nm).isSome=true:=λx hx=>by
  obtain⟨c',F1,e1,_⟩:=hyes x.nm x (rU ho.nd hx);exact⟨by have:=(ho.all x hx).small.name;unfold maxLen;show x.P.n.size<=_;omega,by rw[e1];rfl⟩
 have hin:∀W',ai w W'->_:=λW' hb=>agZ W (w:=W') (s:=s) (sp:=sp) (N:=N) (ps:=ps) ((hb.cell (p:=aq sp 0) hlt).trans c0) (hP.aF (A:=λ_=>False) (aA.of_below hb) (λ_ _ z=>z)) (λn b hl=>by
  cases hx:jL Sr.nm n s.l with
  | none=>rw[hno n hx] at hl;cases hl
  | some x =>
   obtain⟨c',F1,e1,e2,_⟩:=hyes n x hx;rw[hl] at e1
   cases e1
   exact⟨x,F1,(by_some hx).1,(by_some hx).2,(W.sr B x b).next e2 hb⟩) hA ho u hu he
 cases e:s.l.find? (λx=>bV x.P u) with
 | none =>
  refine .inl ⟨rfl,λW' hb=>(hin W' hb).mono ?_⟩;rintro e' w' ⟨⟨_,rfl⟩|⟨x,b,hx,ht,_⟩,hw⟩
  ·exact⟨rfl,hw⟩
  ·exact absurd ht (akW.1 e x hx)
 | some x =>
  have hx:=akY e;have hbx:=rU (nm:=Sr.nm) ho.nd hx;obtain⟨b,F1,e1,e2,e3,e4⟩:=hyes x.nm x hbx;refine .inr ⟨x,b,F1,rfl,hbx,e2,e3,e4,λW' hb=>(hin W' hb).mono ?_⟩;rintro e' w' ⟨⟨hn,_⟩|⟨y,c,hy,ht,hl,rfl⟩,hw⟩
  ·have:=hn x hx;have ht:bV x.P u=true:=by simpa using List.find?_some e
   rw[this] at ht
   cases ht
  ·have:=ho.takes he hy ht;rw[e] at this
   cases this
   rw[e1] at hl
   cases hl
   exact⟨rfl,hw⟩
end
theorem rV {fn:Func}{t u v x:Tmp}(h:fn.results=#[.tmp t,.tmp u,.tmp v,.tmp x])(tmps:Array Value)(P:Program)(w:I) :
 (results fn tmps).run P w=.ok (.tuple #[tmps.getD t undef,tmps.getD u undef,tmps.getD v undef,tmps.getD x undef]) w:=by
 simp[results,h]
theorem ahV (P:Pn.aX)(a:Option Addr)(c:Nat)(W:I):(Instr.field 80 (Ba P a c) 0).run prog W=.ok (.string P.n) W:=by kernel_rfl
abbrev pbV (r:ad×Int×Bool×Int):Value:=.tuple #[.string r.1,aa r.2.1,.bool r.2.2.1,aa r.2.2.2]
abbrev PS6 (b p sp g:Nat)(t:Int)(y:Po)(W:I):Prop:=W.cell? (aq b 0)=some (ptr p)/\W.cell? (aq sp 1)=some (aa t)/\W.cell? (aq g 0)=some (.string y.s)/\W.cell? (aq g 1)=some (.string y.i)/\W.cell? (aq g 2)=some (.string y.h)/\W.cell? (aq g 3)=some (.string y.d)/\W.cell? (aq g 4)=some (aa y.x)/\W.cell? (aq g 5)=some (aa y.ro)
section
variable {G:I->Prop}{SH:I->Nat->Nat->af->aH->Prop}{RH:I->Nat->Nat->af->Pn.aX->Int->Int->Str->Prop}{CH:I->Nat->Nat->af->bM->Prop}{B:Nat}{w w':I}{F:af}
variable (W:dS G SH RH CH)
include W
theorem dS.ahW {x:Sr}(h:mY RH CH B x b w F):∃p,w.cell? (aq b 0)=some (ptr p)/\b<w.heap.size/\∀w1,ai w w1 ->
 ∀{fn:FuncId} {args:Array Value} {Q:Ending->Prop} {st:Str},(∀B' F1,RH w1 B' p F1 x.P x.m x.z x.st->B'<=w1.heap.size->Calls prog fn args w1 λe w'=>Q e/\TP RH w1 w' B' p F1 x.P x.m x.z st)->Calls prog fn args w1 λe w'=>Q e/\Dd (mY RH CH B {x with st:=st} b) w1 w' F/\aA (λk=>F k/\k≠b) w1 w':=by
 obtain⟨p,c0,hl,_⟩:=W.does h;refine⟨p,c0,hl,λw1 hb fn args Q st hc=>?_⟩;obtain⟨p2,d0,_,_,hd⟩:=W.does ((W.sr B x b).next h hb);rw[(hb.cell (p:=aq b 0) hl).trans c0] at d0;have:p=p2:=by simpa using d0
 subst this;exact hd hc
theorem dS.ag0 {s:Sv}{x':Sr}(hl:∀{w'},Dd (mY RH CH B x'.sweep b) w0 w' F1->Dd (qo RH CH B s sp) w0 w' F)(hb:ai w w0)(hd:Dd (mY RH CH B x' b) w0 w1 F1)(hok:x'.Ok N)(hN:N<=100000) :
 CallsD prog 28 #[ptr b] u w1 λe u' w'=>u'=u/\e=.returned (.tuple #[])/\Dd (qo RH CH B s sp) w w' F:=by
 obtain⟨F',g1,g2,g3⟩:=hd;refine(G5 W g1 hok hN).mono ?_;rintro e u' w' ⟨hu,he,D⟩;exact⟨hu,he,Dd.fst hb (hl (Dd.on g2 g3 D))⟩
theorem Rq {s:Sv}(h:qo RH CH B s sp w F)(ho:s.Ok N)(hN:N<=100000)(y:Po)(hy:jm y) :
 Calls prog 8 #[ptr sp,BU y] w λe w'=>e=.returned (pbV (nT s y).2)/\Dd (qo RH CH B (nT s y).1 sp) w w' F:=by
 obtain⟨W0,hW0⟩:∃W0,W0=w.alloc (jQ y):=⟨_,rfl⟩;have b0:ai w W0:=by rw[hW0];exact ax _ _
 have r0:CB W0 w.heap.size [.string y.s,.string y.i,.string y.h,.string y.d,aa y.x,aa y.ro]:=by rw[hW0];exact CB.new w [.string y.s,.string y.i,.string y.h,.string y.d,aa y.x,aa y.ro] _
 have hown:=λk hk=>((W.sv B s sp).own h k hk).2
 obtain⟨E,hE⟩:∃E,aC false y.s=E:=⟨_,rfl⟩;have zW:=aj (dQ y.s W0 hy.s);rw[hE] at zW;have c0:=r0.cell 0 _ rfl;by_cases hz:E≠0
 ·have e:nT s y=(s,(noB,0,false,E)):=by unfold nT;rw[if_pos (by rw[hE];exact hz),hE]
  rw[e];have HE:=aj (λw1 (b1:ai W0 w1)=>(W.sv B s sp).same h (ak b0 b1));have hz2:(E==0)=false:=by simpa using hz
  clear h ho hy e b0 r0 hown hE;go_enter_defers func8,ntmps8
  go_upto_region 1 with fail
  rw[show w.alloc (jQ y)=W0 from hW0.symm];clear hW0;go_wp2_with fail;refine(ah zW).mono ?_;rintro e w1 ⟨rfl,b1⟩;have HF:=aj (ah HE w1 b1);clear zW b1 HE;go_wp2_with fail;exact⟨_,rV rfl _ _ _,rfl,ah HF⟩
 ·have hz:E=0:=Classical.not_not.1 hz;subst hz;rcases afB W h ho y.s hy.s hE with ⟨hx,hc⟩|⟨x,b,F1,hx,hbx,hsr,hin1,Kq,hc⟩
  ·have e:nT s y=(s,(noB,0,false,10)):=by unfold nT;rw[if_neg (by rw[hE];simp),hx]
   rw[e];have HE:=aj (λw1 (b1:ai W0 w1)=>(W.sv B s sp).same h (ak b0 b1));have HC:=aj (λw1 (b1:ai W0 w1)=>hc w1 (ak b0 b1));have HR:=aj (λw1 (b1:ai W0 w1)=>(b1.cell (p:=aq w.heap.size 0) r0.lt).trans c0);have HS:=aj (λ(w1 w2:I) (b1:ai W0 w1) (b2:ai w1 w2)=>ak b1 b2);clear h ho hy e b0 r0 hown hE hx hc;go_enter_defers func8,ntmps8
   go_upto_region 1 with fail
   rw[show w.alloc (jQ y)=W0 from hW0.symm];clear hW0;go_wp2_with fail;refine(ah zW).mono ?_;rintro e w1 ⟨rfl,b1⟩;have PC:=aj (ah HC w1 b1);have r1:=ah HR w1 b1;have HS1:=aj (λw2=>ah HS w1 w2 b1);clear zW b1 HC HS c0 HR;go_wp2_with fail;refine(ah PC).mono ?_;rintro e w2 ⟨rfl,b2⟩;have HF:=aj (ah HE w2 (ah HS1 w2 b2));clear PC b2 HE HS1;go_wp2_with fail;exact⟨_,rV rfl _ _ _,rfl,ah HF⟩
  ·have e:nT s y=(s.put x.nm λx=>Sr.sweep {x with st:=(dX x.P x.m x.z s.t y x.st).2},(x.nm,(dX x.P x.m x.z s.t y x.st).1)):=by unfold nT;rw[if_neg (by rw[hE];simp),hx]
   rw[e];have hox:=ho.all x (by_some hbx).1;obtain⟨p,d0,hbl,hdo⟩:=W.ahW hsr;have hsv:w.cell? (aq sp 1)=some (aa s.t)/\sp<w.heap.size:=by obtain⟨_,_,q1,q2,_⟩:=W.srv h;exact⟨q1,q2⟩
   obtain⟨c1,ag1⟩:=hsv;obtain⟨r,hr⟩:∃r,(dX x.P x.m x.z s.t y x.st).1=r:=⟨_,rfl⟩;have HC:=aj (λw1 (b1:ai W0 w1)=>hc w1 (ak b0 b1));have HR:=aj (λw1 (b1:ai W0 w1)=>(b1.cell (p:=aq w.heap.size 0) r0.lt).trans c0);have HS:=aj (λ(w1 w2:I) (b1:ai W0 w1) (b2:ai w1 w2)=>ak b1 b2);have HP:=aj (λw2 (b2:ai W0 w2)=>hdo w2.drew (ak b0 b2).drew (Q:=λe=>e=.returned (.tuple #[aa (dX x.P x.m x.z s.t y x.st).1.1,.bool (dX x.P x.m x.z s.t y x.st).1.2.1,aa (dX x.P x.m x.z s.t y x.st).1.2.2])) (st:=(dX x.P x.m x.z s.t y x.st).2) (λB' F1 g1 g2=>W.V.publish s.t y hy g1 hox.fit g2))
   rw[hr] at HP;have HK:=aj (λw2 (b2:ai W0 w2) w3 (hch:aA (λk=>F1 k/\k≠b) w2.drew w3)=>show PS6 b p sp w.heap.size s.t y w3 from by
    have b3:=(ak b0 b2).drew;have n2:¬(F1 w.heap.size/\w.heap.size≠b):=λz=>by have:=hown _ (hin1 _ z.1).1;omega
    have hl2:w.heap.size<w2.drew.heap.size:=ajz r0.lt b2.size;have r3:=(r0.next b2.drew).aF hch n2;exact⟨(hch.cell (p:=aq b 0) (ajz hbl b3.size) (λz=>absurd rfl z.2)).trans ((b3.cell (p:=aq b 0) hbl).trans d0),(hch.cell (p:=aq sp 1) (ajz ag1 b3.size) (λz=>absurd rfl (hin1 _ z.1).2)).trans ((b3.cell (p:=aq sp 1) ag1).trans c1),r3.cell 0 _ rfl,r3.cell 1 _ rfl,r3.cell 2 _ rfl,r3.cell 3 _ rfl,r3.cell 4 _ rfl,r3.cell 5 _ rfl⟩)
   have aiP:=hdo;have HPl:=aj (λw2 (b2:ai W0 w2) w3 (D:Dd (mY RH CH B {x with st:=(dX x.P x.m x.z s.t y x.st).2} b) w2.drew w3 F1) (hch:aA (λk=>F1 k/\k≠b) w2.drew w3)=>show Calls prog 30 #[ptr p] w3 λe w4=>∃a' c',e=.returned (Ba x.P a' c')/\gU w4 a' x.P.f/\x.P.f.length<=c'/\ai w3 w4 from by
    obtain⟨F3,g1,g2,g3⟩:=D;obtain⟨p3,q0,_,hs3,_⟩:=W.does g1;have e0:=(ah HK w2 b2 w3 hch).1;rw[e0] at q0;have:p=p3:=by simpa using q0
    subst this;obtain⟨B',F4,k1,_⟩:=hs3 w3 (agP _ _);exact W.M.plan k1 (by have:=(Pn.kU hox.fit.plan).2.1;show x.P.f.length<=100;omega))
   have U6:=aj (λw2 (b2:ai W0 w2) w3 (D:Dd (mY RH CH B {x with st:=(dX x.P x.m x.z s.t y x.st).2} b) w2.drew w3 F1) w4 (b4:ai w3 w4) (u:FrameMode)=>W.ag0 (u:=u) (N:=N) (w0:=w2.drew) (w1:=w4) (x':={x with st:=(dX x.P x.m x.z s.t y x.st).2}) (s:=s.put x.nm λx=>Sr.sweep {x with st:=(dX x.P x.m x.z s.t y x.st).2}) (sp:=sp) (λ{w'} D=>Kq (f:=λx=>Sr.sweep {x with st:=(dX x.P x.m x.z s.t y x.st).2}) (ak b0 b2).drew (Ad _) D) (ak b0 b2).drew (Dd.snd (W.sr B _ b) D b4) (hox.str hox.fit.pub) hN);rw[hr];have hin:=ahV;clear h ho hy e b0 r0 hown hE hx hc hbx hsr hin1 Kq hox d0 hbl hdo aiP c1 ag1 hr
   go_enter_defers func8,ntmps8
   go_upto_region 1 with fail
   rw[show w.alloc (jQ y)=W0 from hW0.symm];clear hW0;go_wp2_with fail;refine(ah zW).mono ?_;rintro e w1 ⟨rfl,b1⟩;have PC:=aj (ah HC w1 b1);have r1:=ah HR w1 b1;have HS1:=aj (λw2=>ah HS w1 w2 b1);clear zW b1 HC HS c0 HR;go_wp2_with fail;refine(ah PC).mono ?_;rintro e w2 ⟨rfl,b2⟩;have b2:=ah HS1 w2 b2;have k0:=ah HK w2 b2 _ (aA.refl _ _);have PP:=aj (ah HP w2 b2);have HK:=aj (ah HK w2 b2);have HPl:=aj (ah HPl w2 b2);have U6:=aj (ah U6 w2 b2);clear PC b2 HS1 r1 HP;go_wp2_with fail;go_region_held3 (PS6 b p sp w.heap.size s.t y) (first|with_reducible assumption)
    (first|(go_at_call 29;with_reducible refine(ah PP).mono ?_;rintro e w3 ⟨rfl,D,hch⟩;have k3:=ah HK w3 hch;have PL:=aj (ah HPl w3 D hch);have PSw:=aj (ah U6 w3 D);clear D hch))
   have e0:=k3.1;clear HK HPl U6 PP k0 k3;go_wp2_with fail;refine(ah PL).mono ?_;rintro e w4 ⟨a',c',rfl,_,_,b4⟩;have HD:=aj (ah PSw w4 b4);clear PL b4 PSw e0;go_wp2_with fail;refine leaves_cons (f:=28) (args:=#[ptr b]) (by simp) (by simp[go_sem]) ?_;refine(ah HD _).mono ?_;rintro e u' w5 ⟨rfl,rfl,hfin⟩;exact⟨_,rV rfl _ _ _,rfl,hfin⟩
end
theorem ag2 {g:List ad}{k:Nat}(hi:i<f.length)(hk:k<g.length)(h:aT (tk f i) (tk g k)=true):sV f g=true:=by
 unfold sV;refine akN.2 ⟨tk f i,?_,akN.2 ⟨tk g k,?_,h⟩⟩
 ·unfold tk;rw[ajC hi];exact ako hi
 ·unfold tk;rw[ajC hk];exact ako hk
theorem ag3 {g:List ad}(h:∀i,i<f.length->∀k,k<g.length->aT (tk f i) (tk g k)=false):sV f g=false:=by
 unfold sV;rw[List.any_eq_false];intro a ha;rw[Bool.not_eq_true,List.any_eq_false];intro b hb;obtain⟨i,hi,rfl⟩:=akq.1 ha;obtain⟨k,hk,rfl⟩:=akq.1 hb;have:=h i hi k hk;unfold tk at this;rw[ajC hi,ajC hk] at this;rw[Bool.not_eq_true];exact this
theorem adw (a a':Option Addr)(f g:List ad)(c c':Nat)(w:I)(hf:gU w a f)(hg:gU w a' g)(hz:∀k,k<f.length->(tk f k).size<=140737488355328)(hz':∀k,k<g.length->(tk g k).size<=140737488355328)(hl:f.length<=1000)(hl':g.length<=1000) :
 Calls prog 88 #[.slice a f.length c,.slice a' g.length c'] w λe w'=>e=.returned (.bool (sV f g))/\ai w w':=by
 have HZ:=aj (And.intro hz hz');have HX:=aj (And.intro hf hg);have HB:=aj (agP w.heap.size w);clear hz hz' hf hg;go_enter func88,ntmps88;go_wp2_with fail;go_loopw [13] (λiv wr=>∃(i:Nat),iv=aa i/\i<=f.length/\Hid (∀i',i'<i->∀k,k<g.length->aT (tk f i') (tk g k)=false)/\Hid (ai w wr)) (λiv _=>f.length-(intOf iv).toNat)
 case atStart=>exact⟨0,rfl,ajO _,aj (λi' h=>by omega),HB⟩
 case round =>
  clear HB;obtain⟨i,rfl,hi,HA,HS⟩:=hrel;by_cases hlt:i<f.length
  ·obtain⟨ba,o,rfl,_,e1⟩:=((ah HX).1.next (ah HS)) i hlt;go_wp2_with fail;clear e1;go_loopw [19] (λkv wr=>∃(k:Nat),kv=aa k/\k<=g.length/\Hid (∀j,j<k->aT (tk f i) (tk g j)=false)/\Hid (ai w wr)) (λkv _=>g.length-(intOf kv).toNat)
   case atStart=>exact⟨0,rfl,ajO _,aj (λj h=>by omega),HS⟩
   case round =>
    clear HS;obtain⟨k,rfl,hk,HK,HS⟩:=hrel;by_cases hki:k<g.length
    ·obtain⟨ba',o',rfl,_,e1⟩:=((ah HX).2.next (ah HS)) k hki;obtain⟨M,hM⟩:∃M,aT (tk f i) (tk g k)=M:=⟨_,rfl⟩;have PO:=aj (xH (f:=tk f i) (s:=tk g k) (a:=M) (x:=iW (aC true (tk f i)) (aC true (tk g k))) hM rfl ((ah HZ).1 i hlt) ((ah HZ).2 k hki) wr);have HM:=aj hM;have HN:=aj (λ(w':I) (h:ai wr w')=>ak (ah HS) h);clear hM
     cases M with
     | true =>
      have HR:Hid (sV f g=true):=aj (ag2 hlt hki (ah HM));go_wp2_with (go_at_call 123;refine(ah PO).mono ?_;rintro e w4 ⟨rfl,b4⟩;have Q4:=ah HN w4 b4);go_ret;rw[ah HR];exact⟨rfl,Q4⟩
     | false =>
      have yP:Hid (∀j,j<k+1->aT (tk f i) (tk g j)=false):=aj (λj hj=>by
       by_cases e:j=k
       ·rw[e];exact ah HM
       ·exact ah HK j (by omega))
      clear HM HK;go_wp2_with (go_at_call 123;refine(ah PO).mono ?_;rintro e w4 ⟨rfl,b4⟩;have Q4:=aj (ah HN w4 b4);clear b4);refine⟨⟨k+1,by go_num,by omega,yP,Q4⟩,?_⟩;simp[intOf];omega
    ·obtain rfl:k=g.length:=by omega
     have HA2:Hid (∀i',i'<i+1->∀k,k<g.length->aT (tk f i') (tk g k)=false):=aj (λi' hi' j hj=>by
      by_cases e:i'=i
      ·subst e;exact ah HK j hj
      ·exact ah HA i' (by omega) j hj)
     clear HA HK;go_wp2_with fail;refine⟨⟨i+1,by go_num,by omega,HA2,HS⟩,?_⟩;simp[intOf];omega
  ·obtain rfl:i=f.length:=by omega
   have HR:=aj (ag3 (ah HA));go_wp2_with fail;go_ret;rw[ah HR];exact⟨rfl,ah HS⟩
theorem ahX (P:Pn.aX)(a:Option Addr)(c:Nat)(W:I):(Instr.field 80 (Ba P a c) 1).run prog W=.ok (.slice a P.f.length c) W:=by kernel_rfl
theorem uS (P:Pn.aX)(a:Option Addr)(c:Nat):Ba P a c=.agg #[.string P.n,.slice a P.f.length c,aa (nth P.v 0),aa (nth P.v 1),aa (nth P.v 2),aa (nth P.v 3),aa (nth P.v 4),aa (nth P.v 5),aa (nth P.v 6),aa (nth P.v 7)]:=rfl
section
variable {G:I->Prop}{SH:I->Nat->Nat->af->aH->Prop}{RH:I->Nat->Nat->af->Pn.aX->Int->Int->Str->Prop}{CH:I->Nat->Nat->af->bM->Prop}{B:Nat}{w w':I}{F:af}
variable (W:dS G SH RH CH)
include W
theorem ZM {s:Sv}(h:qo RH CH B s sp w F)(ho:s.Ok N)(P:Pn.aX)(a:Option Addr)(c:Nat)(hP:gI P)(hp:Pn.aZ P=0)(hsl:gU w a P.f) :
 Calls prog 47 #[ptr sp,Ba P a c] w λe w'=>e=.returned (aa (pY s P))/\ai w w':=by
 obtain⟨W0,hW0⟩:∃W0,W0=w.alloc (RJ P a c):=⟨_,rfl⟩;have b0:ai w W0:=by rw[hW0];exact ax _ _
 have r0:CB W0 w.heap.size [.string P.n,.slice a P.f.length c,aa (nth P.v 0),aa (nth P.v 1),aa (nth P.v 2),aa (nth P.v 3),aa (nth P.v 4),aa (nth P.v 5),aa (nth P.v 6),aa (nth P.v 7)]:=by rw[hW0];exact CB.new w [.string P.n,.slice a P.f.length c,aa (nth P.v 0),aa (nth P.v 1),aa (nth P.v 2),aa (nth P.v 3),aa (nth P.v 4),aa (nth P.v 5),aa (nth P.v 6),aa (nth P.v 7)] _
 have hpl:=(Pn.kU hp).2.1;have hown:=λk hk=>((W.sv B s sp).own h k hk).2
 have h1:=(W.sv B s sp).next h b0;obtain⟨mb,c0,_,hlt,ps,Rt,hlen,hno,hyes⟩:=W.srv h1;have hnm:P.n.size<=maxLen:=by have:=hP.name;unfold maxLen;omega
 have hl:=D8 (Rt.aF (A:=λ_=>False) (aA.of_below (agP _ _).drew) (λ_ _ z=>z)) P.n true hnm;have n0:=r0.cell 0 _ rfl
 cases hx:jL Sr.nm P.n s.l with
 | some x =>
  obtain⟨b,F1,ob,_⟩:=hyes _ x hx;rw[ob] at hl;have e:pY s P=5:=by unfold pY;rw[hx];rfl
  rw[e];simp only[O1,Option.map_some,Option.isSome_some,ami] at hl;have HB:=aj b0.drew;clear h ho hP hp hsl b0 r0 hpl hown h1 Rt hlen hno hyes hnm hx ob e;rw[uS];go_enter func47,ntmps47;go_upto_region 1 with fail
  rw[show w.alloc (RJ P a c)=W0 from hW0.symm];clear hW0;go_region
  go_wp2_with fail;go_ret;exact⟨rfl,ah HB⟩
 | none =>
  rw[hno _ hx] at hl;simp only[O1,Option.map_none,Option.isSome_none,ami] at hl;have hPD:mV W0.drew mb ps:=Rt.aF (A:=λ_=>False) (aA.of_below (agP _ _).drew) (λ_ _ z=>z);have hln:=hPD.len underlying76 3;obtain⟨n,hn⟩:∃n,s.l.length=n:=⟨_,rfl⟩;rw[hlen,hn] at hln;by_cases h4:4<=n
  ·have e:pY s P=8:=by unfold pY;rw[hx,if_neg (by simp),if_pos (by omega)]
   rw[e];have HB:=aj b0.drew;have h4':(4:Int)<=(n:Int):=by omega
   clear h ho hP hp hsl b0 r0 hpl hown h1 Rt hPD hlen hno hyes hnm hx e hn h4;rw[uS];go_enter func47,ntmps47;go_upto_region 1 with fail
   rw[show w.alloc (RJ P a c)=W0 from hW0.symm];clear hW0;go_region
   go_wp2_with fail;go_ret;exact⟨rfl,ah HB⟩
  ·have h4':(n:Int)<4:=by omega
   have HE:Hid (pY s P=if (s.l.any λx=>sV P.f x.P.f)=true then 10 else 0):=aj (by unfold pY;rw[hx,if_neg (by simp),if_neg (by omega)]);have HM:=aj (λn b (hc:cZ ps n=some b)=>show ∃x F1,x∈s.l/\x.nm=n/\mY RH CH B x b W0 F1 by
    cases hy:jL Sr.nm n s.l with
    | none=>rw[hno n hy] at hc;cases hc
    | some y =>
     obtain⟨c',F1,e1,e2,_⟩:=hyes n y hy;rw[hc] at e1
     cases e1
     exact⟨y,F1,(by_some hy).1,(by_some hy).2,e2⟩)
   have HA:Hid (∀x∈s.l,x.nm.size<=maxLen/\(cZ ps x.nm).isSome=true):=aj (λx hx=>by
    obtain⟨c',F1,e1,_⟩:=hyes x.nm x (rU ho.nd hx);exact⟨by have:=(ho.all x hx).small.name;unfold maxLen;show x.P.n.size<=_;omega,by rw[e1];rfl⟩)
   have HO:=aj ho;have HP:=aj (And.intro hP (And.intro hpl (hsl.next b0)));have HR:=aj (And.intro b0 r0);have HML:=aj (λb (hb:mb=some b)=>show b<W0.heap.size by subst hb;exact Rt.lt);clear h ho hP hp hsl b0 r0 hpl hown h1 Rt hlen hno hyes hnm hx hn h4 n0;have n0:=(ah HR).2.cell 0 _ rfl;rw[uS];go_enter func47,ntmps47;go_upto_region 1 with fail
   rw[show w.alloc (RJ P a c)=W0 from hW0.symm];clear hW0;go_region
   have aiQ:=hPD;go_wp2_with (first
    | (at_range;refine nO rfl _ 76 67 rfl underlying76 rfl hPD ?_;intro w0 agV hrg0 hb0 hs0)
    | go_in)
   rw[show W0.drew.heap.size=W0.heap.size from rfl] at hrg0 hs0;go_frame
   (try rw[show W0.drew.heap.size=W0.heap.size from rfl])
   have HB0:=aj ((agP W0.heap.size W0).drew.trans hb0);clear hPD aiQ c0 hb0 hl hln h4';go_loopw [] (λwr=>∃left cnt,Rg wr mb W0.heap.size ps left cnt/\Hid (ai W0 wr/\W0.heap.size<wr.heap.size)/\Hid (∀x∈s.l,left x.nm=false->sV P.f x.P.f=false)) (λwr=>kX mb W0.heap.size wr)
   case atStart=>exact⟨_,_,hrg0,aj ⟨ah HB0,by omega⟩,aj (λx _ z=>by cases z)⟩
   case round =>
    clear hrg0 HB0 hs0;obtain⟨left,cnt,hrg,HB,HN⟩:=hrel;go_wp2_with (first
     | (at_next;refine pU rfl _ rfl rfl hrg ?_ ?_)
     | go_in)
    ·intro hl0;have HF:Hid (pY s P=0):=aj (by
      rw[ah HE,if_neg];rw[Bool.not_eq_true,List.any_eq_false];intro x hx;rw[ah HN x hx (hl0 _ (ah HA x hx).1 (ah HA x hx).2)];decide)
     clear HN hl0 hrg;go_wp2_with fail;go_ret;rw[ah HF];exact⟨rfl,(ah HR).1.trans ((ah HB).1.mono (ah HR).1.size)⟩
    ·intro nn b w2 cnt2 hns hlk hlf hrg2 hlt2 hch hen;obtain⟨x,F1,hx,hxn,hsr⟩:=ah HM nn b hlk;have hb2:ai W0 w2:=(ah HB).1.trans (hch.below (ah HB).1.size (λk hk z=>by omega));have hox:=(ah HO).all x hx;obtain⟨q,d0,hbl,hs,_⟩:=W.does ((W.sr B x b).next hsr hb2);have hn1:=(ah HR).2.next hb2;have x1:=hn1.cell 1 _ rfl;have hwl:=hn1.lt;obtain⟨L,hL⟩:∃L,sV P.f x.P.f=L:=⟨_,rfl⟩;have hxl:=(Pn.kU hox.fit.plan).2.1;have PP:=aj (λ(W':I) (hb:ai w2 W')=>show Calls prog 30 #[ptr q] W' λe w'=>∃a' c',e=.returned (Ba x.P a' c')/\gU w' a' x.P.f/\x.P.f.length<=c'/\ai W' w' from by
      obtain⟨B',G',g1,_⟩:=hs W' hb;exact W.M.plan g1 (by omega))
     have PO:=aj (λ(W':I) (hb:ai w2 W') (a':Option Addr) (c':Nat) (h2:gU W' a' x.P.f)=>adw a a' P.f x.P.f c c' W' (((ah HP).2.2.next hb2).next hb) h2 (ah HP).1.each hox.small.each (by have:=(ah HP).2.1;omega) (by omega));rw[hL] at PO;have HK:=aj (λ(W':I) (hb:ai w2 W')=>show W'.cell? (aq w.heap.size 1)=some (.slice a P.f.length c)/\W'.cell? (aq b 0)=some (ptr q) from⟨(hb.cell (p:=aq w.heap.size 1) hwl).trans x1,(hb.cell (p:=aq b 0) hbl).trans d0⟩);have lD:Hid (∀w9,ai w2 w9->L=false->(∃left cnt,Rg w9 mb W0.heap.size ps left cnt/\Hid (ai W0 w9/\W0.heap.size<w9.heap.size)/\Hid (∀x∈s.l,left x.nm=false->sV P.f x.P.f=false))/\kX mb W0.heap.size w9<kX mb W0.heap.size wr):=aj (λw9 hb hf=>by
      have hl2:W0.heap.size<w2.heap.size:=ajz (ah HB).2 hch.size;have hr9:=hrg2.aF (A:=λ_=>False) (aA.of_below hb) (λ_ _ z=>z) (λz=>z) hl2;refine⟨⟨_,cnt2,hr9,aj ⟨hb2.trans (hb.mono hb2.size),ajz hl2 hb.size⟩,aj (λy hy z=>?_)⟩,by rw[hr9.left_eq,show kX mb W0.heap.size wr=cnt from hrg.left_eq];exact hlt2⟩;rw[Bool.and_eq_false_iff] at z;rcases z with z|z
      ·exact ah HN y hy z
      ·have e:y.nm=nn:=by simpa using z
       have a1:=(ah HO).one hy e;rw[(ah HO).one hx hxn] at a1;rw[<-ajU a1,hL];exact hf)
     have HT:Hid (L=true->∀w9,ai w2 w9->pY s P=10/\ai w w9):=aj (λhf w9 hb=>⟨by
      rw[ah HE,if_pos];exact akN.2 ⟨x,hx,by rw[hL];exact hf⟩,(ah HR).1.trans ((hb2.trans (hb.mono hb2.size)).mono (ah HR).1.size)⟩)
     have HS:=aj (λ(W1 W2:I) (h1:ai w2 W1) (h2:ai W1 W2)=>ak h1 h2);have hd:ai w2 w2.drew:=(agP _ _).drew;have k0:=ah HK _ hd;have hin:=ahX;clear hx hxn hsr hb2 hox hs hn1 hwl hxl hL d0 hbl hlk hlf hrg2 hrg hch HB HN HA HM HO HE HP HR HML hns hlt2 x1;go_upto_region 9 with fail
     go_region_held3 (λW'=>W'.cell? (aq w.heap.size 1)=some (.slice a P.f.length c)/\W'.cell? (aq b 0)=some (ptr q)) (first|with_reducible assumption)
      (first|(go_at_call 30;with_reducible refine(ah PP _ hd).mono ?_;rintro e wa ⟨a',c',rfl,g1,_,ba⟩;have BA:=aj (ah HS _ _ hd ba);have PO2:=aj (ah PO wa (ah BA) a' c' g1);have k1:=ah HK wa (ah BA);clear g1 ba)|(go_at_call 88;with_reducible refine(ah PO2).mono ?_;rintro e wb ⟨rfl,bb⟩;have BB:=aj (ah HS _ _ (ah BA) bb);have k2:=ah HK wb (ah BB);clear bb))
     clear PO PO2 PP HK HS k0 k1 k2 hd BA
     cases L with
     | false =>
      have hfin:=ah lD wb (ah BB) (by first|rfl|trivial);clear lD HT BB;go_wp2_with fail;go_roundw
      case rel=>exact hfin.1
      case measure=>exact hfin.2
     | true =>
      have hfin:=ah HT (by first|rfl|trivial) wb (ah BB);clear lD HT BB;go_wp2_with fail;go_ret;rw[hfin.1];exact⟨rfl,hfin.2⟩
end
section
variable {G:I->Prop}{SH:I->Nat->Nat->af->aH->Prop}{RH:I->Nat->Nat->af->Pn.aX->Int->Int->Str->Prop}{CH:I->Nat->Nat->af->bM->Prop}{B:Nat}{w w':I}{F:af}
def SvM (RH:I->Nat->Nat->af->Pn.aX->Int->Int->Str->Prop)(CH:I->Nat->Nat->af->bM->Prop)(B:Nat)(s:Sv)(sp:Nat)(mb:Option Nat):wF:=Two (Blk B sp [.map mb,aa s.t]) (yt Sr.nm (mY RH CH B) B mb s.l)
theorem yt.in {nm:α->ad}{Q:α->Nat->wF}{l:List α}(h:yt nm Q B (some b) l w F):F b/\B<=b/\b<w.heap.size:=by
 obtain⟨bO,fO,h,hF⟩:=h;exact⟨(hF b).2 (.inl rfl),(h.Zz b rfl).1,h.ptr.lt⟩
theorem yt.aiR {nm:α->ad}{Q:α->Nat->wF}{l:List α}(h:yt nm Q B none l w F):l=[]/\∀k,¬F k:=by
 obtain⟨bO,fO,h,hF⟩:=h;have hl:l=[]:=by
  rcases h.ptr with ⟨_,e⟩|⟨b,_,e,_⟩
  ·unfold zZ at e;simpa using e
  ·cases e
 subst hl;refine⟨rfl,λk hk=>?_⟩;rcases(hF k).1 hk with z|⟨x,hx,_⟩
 ·cases z
 ·cases hx
theorem Blk.new (w:I)(l:List Value)(T:TypeId)(hB:B<=w.heap.size):Blk B w.heap.size l (w.alloc (.cells l.toArray T)) (λk=>k=w.heap.size) :=
 ⟨hB,CB.new w l T,λj=>akp _ _ _ j,λ_=>alJ⟩
variable (W:dS G SH RH CH)
include W
theorem dS.svm (B:Nat)(s:Sv)(sp:Nat)(mb:Option Nat):Own B (SvM RH CH B s sp mb):=(Own.blk B sp _).two (Own.bag λx b=>W.sr B x b)
theorem dS.mapped {s:Sv}(h:SvM RH CH B s sp none w F)(hB:B<=w.heap.size):Dd (SvM RH CH B s sp (some w.heap.size)) w ((w.alloc (.map #[] 0)).setCell (aq sp 0) (.map (some w.heap.size))) F:=by
 obtain⟨F1,F2,hk,hb,hdis,hall⟩:=h;obtain⟨hl,hnF⟩:=yt.aiR hb;have b0:ai w (w.alloc (.map #[] 0)):=ax _ _;have hk1:=(Own.blk B sp _).next hk b0;have hlt:=hk.2.1.lt;have hs:(w.alloc (.map #[] 0)).heap.size=w.heap.size+1:=by simp
 have aiS:yt Sr.nm (mY RH CH B) B (some w.heap.size) s.l (w.alloc (.map #[] 0)) (λk=>k=w.heap.size):=by rw[hl];exact yt.made B hB
 have hc:aA (λk=>k=sp) (w.alloc (.map #[] 0)) ((w.alloc (.map #[] 0)).setCell (aq sp 0) (.map (some w.heap.size))):=jo (g:=sp) [.map (some w.heap.size)] 0 _;refine⟨λk=>k=sp\/k=w.heap.size,⟨λk=>k=sp,λk=>k=w.heap.size,⟨hk.1,?_,λj=>?_,λ_=>alJ⟩,(Own.bag λx b=>W.sr B x b).aF aiS hc (λk hk z=>by omega),λk hk z=>by omega,λ_=>alJ⟩,(aA.of_below b0).trans (hc.mono (λk _ z=>(hall k).2 (.inl ((hk.2.2.2 k).2 z)))),λk hk'=>?_⟩
 ·exact hk1.2.1.put (j:=0) (by simp) _
 ·rw[ajV];exact hk1.2.2.1 j
 ·rcases hk' with z|z
  ·exact .inl ((hall k).2 (.inl ((hk.2.2.2 k).2 z)))
  ·exact .inr (by omega)
theorem dS.grown {s:Sv}{mb:Nat}(h:SvM RH CH B s sp (some mb) w F)(hB:B<=w.heap.size)(hl:s.l.length<1000){x:Sr}(hx:x.cs=[])(hn:jL Sr.nm x.nm s.l=none)(hs:x.nm.size<=maxLen)(hst:StT RH B p x w FS)(hd:∀k,FS k->¬F k)(T:TypeId) :
 ∃w',(Instr.mapUpdate 76 (.map (some mb)) (.string x.nm) (ptr (w.heap.size+1))).run prog ((w.alloc (.map #[] 0)).alloc (.cells #[ptr p,.map (some w.heap.size)] T))=.ok () w'/\∃F',qo RH CH B ⟨s.l++[x],s.t⟩ sp w' F'/\aA F w w'/\∀k,F' k->F k\/FS k\/w.heap.size<=k:=by
 obtain⟨W1,hW1⟩:∃W1,W1=w.alloc (.map #[] 0):=⟨_,rfl⟩;have e1:W1.heap.size=w.heap.size+1:=by rw[hW1];simp
 have b1:ai w W1:=by rw[hW1];exact ax _ _
 obtain⟨W2,hW2⟩:∃W2,W2=W1.alloc (.cells #[ptr p,.map (some w.heap.size)] T):=⟨_,rfl⟩;have b12:ai W1 W2:=by rw[hW2];exact ax _ _
 have b2:ai w W2:=ak b1 b12;have e2:W2.heap.size=w.heap.size+2:=by rw[hW2];simp[e1]
 have hown:=λk hk=>(W.svm B s sp (some mb)).own h k hk
 have hownS:=λk hk=>(W.st B p x).own hst k hk
 have hin:yt Mb.nm (yg CH B) B (some w.heap.size) [] W2 (λk=>k=w.heap.size):=(Own.bag λy b=>W.mb B y b).next (by rw[hW1];exact yt.made B hB) b12;have hblk:Blk B W1.heap.size [ptr p,.map (some w.heap.size)] W2 (λk=>k=W1.heap.size):=by rw[hW2];exact Blk.new W1 [ptr p,.map (some w.heap.size)] T (by omega)
 have hst2:=(W.st B p x).next hst b2;have hx2:mY RH CH B x (w.heap.size+1) W2 (λk=>k=w.heap.size+1\/(FS k\/k=w.heap.size)):=by
  refine⟨(p,w.heap.size),λk=>k=w.heap.size+1,λk=>FS k\/k=w.heap.size,by rw[<-e1];exact hblk,⟨FS,λk=>k=w.heap.size,hst2,by rw[hx];exact hin,λk hk z=>?_,λ_=>alJ⟩,λk hk z=>?_,λ_=>alJ⟩
  ·have:=(hownS k hk).2;omega
  ·rcases z with z|z
   ·have:=(hownS k z).2;omega
   ·omega
 obtain⟨F1,F2,hk,hb,hdis,hall⟩:=(W.svm B s sp (some mb)).next h b2;have hmb:=yt.in hb;obtain⟨w',hr,hb',hc'⟩:=yt.add (λx b=>W.sr B x b) underlying76 hb hl hn hs hx2 (λk hk z=>by
  have hF:=(hall k).2 (.inr z);have:=(hown k hF).2;rcases hk with q|q|q
  ·omega
  ·exact hd k q hF
  ·omega)
 rw[hW1] at hW2;rw[<-hW2];refine⟨w',hr,λk=>F1 k\/(F2 k\/(k=w.heap.size+1\/(FS k\/k=w.heap.size))),⟨some mb,F1,_,(Own.blk B sp _).aF hk hc' (λk hk' z=>hdis k hk' (by rw[z];exact hmb.1)),hb',λk hk' z=>?_,λ_=>alJ⟩,(aA.of_below b2).trans (hc'.mono (λk _ z=>(hall k).2 (.inr (by rw[z];exact hmb.1)))),λk hk'=>?_⟩
 ·have hF:=(hall k).2 (.inl hk');have:=(hown k hF).2;rcases z with z|q|q|q
  ·exact hdis k hk' z
  ·omega
  ·exact hd k q hF
  ·omega
 ·rcases hk' with z|z|q|q|q
  ·exact .inl ((hall k).2 (.inl z))
  ·exact .inl ((hall k).2 (.inr z))
  ·exact .inr (.inr (by omega))
  ·exact .inr (.inl q)
  ·exact .inr (.inr (by omega))
theorem dS.joined {x:Sr}{cb:Nat}(h:mY RH CH B x b w F)(c1:w.cell? (aq b 1)=some (.map (some cb)))(hB:B<=w.heap.size)(hl:x.cs.length<1000)(hn:jL Mb.nm y.nm x.cs=none)(hs:y.nm.size<=maxLen){G1 G2:af}(h1:CoT CH B p y.c w G1)(h2:QuT B q y.q w G2)(d1:∀k,G1 k->¬F k)(d2:∀k,G2 k->¬F k)(d3:∀k,G1 k->¬G2 k)(T:TypeId) :
 ∃w',(Instr.mapUpdate 73 (.map (some cb)) (.string y.nm) (ptr w.heap.size)).run prog (w.alloc (.cells #[ptr p,ptr q] T))=.ok () w'/\w'.cell? (aq b 1)=some (.map (some cb))/\∃F',mY RH CH B {x with cs:=x.cs++[y]} b w' F'/\aA F w w'/\∀k,F' k->F k\/G1 k\/G2 k\/w.heap.size<=k:=by
 obtain⟨W1,hW1⟩:∃W1,W1=w.alloc (.cells #[ptr p,ptr q] T):=⟨_,rfl⟩;have e1:W1.heap.size=w.heap.size+1:=by rw[hW1];simp
 have b1:ai w W1:=by rw[hW1];exact ax _ _
 have hown:=λk hk=>(W.sr B x b).own h k hk
 have hown1:=λk hk=>(W.co B p y.c).own h1 k hk
 have hown2:=λk hk=>(Own.qu B q y.q).own h2 k hk
 have hblk:Blk B w.heap.size [ptr p,ptr q] W1 (λk=>k=w.heap.size):=by rw[hW1];exact Blk.new w [ptr p,ptr q] T hB
 have hy2:yg CH B y w.heap.size W1 (λk=>k=w.heap.size\/(G1 k\/G2 k)):=by
  refine⟨(p,q),λk=>k=w.heap.size,λk=>G1 k\/G2 k,hblk,⟨G1,G2,(W.co B p y.c).next h1 b1,(Own.qu B q y.q).next h2 b1,d3,λ_=>alJ⟩,λk hk z=>?_,λ_=>alJ⟩;rcases z with z|z
  ·have:=(hown1 k z).2;omega
  ·have:=(hown2 k z).2;omega
 obtain⟨⟨ps,cb'⟩,Fb,F0,hk,hb0,hdis,hall⟩:=(W.sr B x b).next h b1;have ec:cb'=cb:=by
  have:=(hk.2.1.cell 1 _ rfl).symm.trans ((b1.cell (p:=aq b 1) (by have:=(hown b ((hall b).2 (.inl ((hk.2.2.2 b).2 rfl)))).2;exact this)).trans c1);simpa using this
 subst ec;obtain⟨FS,FM,g1,g2,g3,g4⟩:=hb0;have hcb:=yt.in g2;obtain⟨w',hr,hb',hc'⟩:=yt.add (λy b=>W.mb B y b) underlying73 g2 hl hn hs hy2 (λk hk z=>by
  have hF:=(hall k).2 (.inr ((g4 k).2 (.inr z)));have:=(hown k hF).2;rcases hk with q|q|q
  ·omega
  ·exact d1 k q hF
  ·exact d2 k q hF)
 rw[<-hW1];have aiT:F cb':=(hall cb').2 (.inr ((g4 cb').2 (.inr hcb.1)));have hblk':=(Own.blk B b _).aF hk hc' (λk hk' z=>hdis k hk' ((g4 k).2 (.inr (by rw[z];exact hcb.1))));refine⟨w',hr,hblk'.2.1.cell 1 _ rfl,λk=>Fb k\/(FS k\/(FM k\/(k=w.heap.size\/(G1 k\/G2 k)))),⟨(ps,cb'),Fb,λk=>FS k\/(FM k\/(k=w.heap.size\/(G1 k\/G2 k))),hblk',⟨FS,_,(W.st B ps x).aF g1 hc' (λk hk' z=>g3 k hk' (by rw[z];exact hcb.1)),hb',λk hk' z=>?_,λ_=>alJ⟩,λk hk' z=>?_,λ_=>alJ⟩,(aA.of_below b1).trans (hc'.mono (λk _ z=>by rw[z];exact aiT)),λk hk'=>?_⟩
 ·have hF:=(hall k).2 (.inr ((g4 k).2 (.inl hk')));have:=(hown k hF).2;rcases z with z|q|q|q
  ·exact g3 k hk' z
  ·omega
  ·exact d1 k q hF
  ·exact d2 k q hF
 ·have hF:=(hall k).2 (.inl hk');have:=(hown k hF).2;rcases z with z|z|q|q|q
  ·exact hdis k hk' ((g4 k).2 (.inl z))
  ·exact hdis k hk' ((g4 k).2 (.inr z))
  ·omega
  ·exact d1 k q hF
  ·exact d2 k q hF
 ·rcases hk' with z|z|z|q|q|q
  ·exact .inl ((hall k).2 (.inl z))
  ·exact .inl ((hall k).2 (.inr ((g4 k).2 (.inl z))))
  ·exact .inl ((hall k).2 (.inr ((g4 k).2 (.inr z))))
  ·exact .inr (.inr (.inr (by omega)))
  ·exact .inr (.inl q)
  ·exact .inr (.inr (.inl q))
omit W in
theorem dS.born (w:I)(T:TypeId)(hB:B<=w.heap.size):qo RH CH B ⟨[],0⟩ w.heap.size (w.alloc (.cells #[.map none,aa 0] T)) (λk=>k=w.heap.size) :=
 ⟨none,λk=>k=w.heap.size,λ_=>False,Blk.new w [.map none,aa 0] T hB,yt.nil B _,λ_ _ z=>z,λ_=>⟨.inl,λz=>z.elim id False.elim⟩⟩
end
theorem Ru (w:I):(Instr.makeMap 73 none).run prog w=.ok (.map (some w.heap.size)) (w.alloc (.map #[] 0)):=by kernel_rfl
theorem adx (w:I):(Instr.makeMap 76 none).run prog w=.ok (.map (some w.heap.size)) (w.alloc (.map #[] 0)):=by kernel_rfl
theorem map_eq (b:Nat)(w:I):(binOp .eql 76 (.map (some b)) (.map none)).run prog w=.ok (.bool false) w:=by kernel_rfl
theorem afC (w:I):(binOp .eql 76 (.map none) (.map none)).run prog w=.ok (.bool true) w:=by kernel_rfl
section
variable {G:I->Prop}{SH:I->Nat->Nat->af->aH->Prop}{RH:I->Nat->Nat->af->Pn.aX->Int->Int->Str->Prop}{CH:I->Nat->Nat->af->bM->Prop}{B:Nat}{w w':I}{F:af}
variable (W:dS G SH RH CH)
include W
theorem Rw (PR:oH G){s:Sv}(h:qo RH CH B s sp w F)(ho:s.Ok N)(hB:B<=w.heap.size)(hG:∀w',ai w w'->G w')(tx:ad)(ht:tx.size<=140737488355328)(hsm:gI (Pn.cu tx).1)(m z:Int) :
 Calls prog 22 #[ptr sp,.string tx,aa m,aa z] w λe w'=>e=.returned (aa (fP s tx m z).2)/\Dd (qo RH CH B (fP s tx m z).1 sp) w w' F:=by
 have PP:=aj (PR.parse tx w ht (hG w (agP _ _)));obtain⟨P,hP⟩:∃P,(Pn.cu tx).1=P:=⟨_,rfl⟩;obtain⟨E,hE⟩:∃E,(Pn.cu tx).2=E:=⟨_,rfl⟩;rw[hP,hE] at PP;rw[hP] at hsm;by_cases h1:E≠0
 ·have e:fP s tx m z=(s,E):=by unfold fP;rw[if_pos (by rw[hE];exact h1),hE]
  rw[e];have HE:=aj (λw1 (b1:ai w w1)=>(W.sv B s sp).same h b1);have h1':(E==0)=false:=by simpa using h1
  clear h ho hB hG ht hsm hP hE e;go_enter func22,ntmps22;go_wp2_with fail;refine(ah PP).mono ?_;rintro e w1 ⟨a,c,rfl,hsl,b1,hl⟩;rw[uS];have HB:=aj b1;clear PP hsl hl b1;go_wp2_with fail;go_ret;exact⟨rfl,ah HE _ ((ah HB).trans ((agP _ _).alloc (ah HB).size _))⟩
 have h1:E=0:=Classical.not_not.1 h1;subst h1;have hp:Pn.aZ P=0:=by rw[<-hP];exact Rh hE
 have HA:=aj (λw1 a c (b1:ai w w1)=>show ai w (w1.alloc (RJ P a c)) from b1.trans ((agP _ _).alloc b1.size _));have HC:=aj (λw1 a c (b1:ai w w1) (hsl:gU w1 a P.f)=>ZM W ((W.sv B s sp).next h (b1.trans ((agP _ _).alloc b1.size _):ai w (w1.alloc (RJ P a c)))) ho P a c hsm hp (hsl.next (ax _ _)));obtain⟨C,hC⟩:∃C,pY s P=C:=⟨_,rfl⟩;rw[hC] at HC;have HS:=aj (λ(w1 w2:I) (h1:ai w w1) (h2:ai w1 w2)=>ak h1 h2);by_cases h2:C≠0
 ·have e:fP s tx m z=(s,C):=by unfold fP;rw[if_neg (by rw[hE];simp),hP,if_pos (by rw[hC];exact h2),hC]
  rw[e];have HE:=aj (λw1 (b1:ai w w1)=>(W.sv B s sp).same h b1);have h2':(C==0)=false:=by simpa using h2
  clear h ho hB hG ht hsm hP hE e hp hC;go_enter func22,ntmps22;go_wp2_with fail;refine(ah PP).mono ?_;rintro e w1 ⟨a,c,rfl,hsl,b1,hl⟩;rw[uS];have PC:=aj (ah HC w1 a c b1 hsl);have HB:=aj (ah HA w1 a c b1);clear PP hsl hl b1 HC HA;go_wp2_with fail;refine(ah PC).mono ?_;rintro e w3 ⟨rfl,b3⟩;have HF:=aj (ah HE _ (ah HS _ _ (ah HB) b3));clear PC b3 HE HS HB;go_wp2_with fail;go_ret;exact⟨rfl,ah HF⟩
 have h2:C=0:=Classical.not_not.1 h2;subst h2;have HT:=aj (λw3 (b3:ai w w3)=>hG w3 b3);have Z7:=aj (λw1 a c (w3:I) (b3:Below (w1.alloc (RJ P a c)).heap.size (w1.alloc (RJ P a c)) w3)=>show CB w3 w1.heap.size [.string P.n,.slice a P.f.length c,aa (nth P.v 0),aa (nth P.v 1),aa (nth P.v 2),aa (nth P.v 3),aa (nth P.v 4),aa (nth P.v 5),aa (nth P.v 6),aa (nth P.v 7)] from(CB.new w1 [.string P.n,.slice a P.f.length c,aa (nth P.v 0),aa (nth P.v 1),aa (nth P.v 2),aa (nth P.v 3),aa (nth P.v 4),aa (nth P.v 5),aa (nth P.v 6),aa (nth P.v 7)] _).next b3)
 by_cases h3:(eX m 1 65536&&eX z 1 4096)=false
 ·have e:fP s tx m z=(s,1):=by unfold fP;rw[if_neg (by rw[hE];simp),hP,if_neg (by rw[hC];simp),if_pos h3]
  rw[e];have HE:=aj (λw1 (b1:ai w w1)=>(W.sv B s sp).same h b1);have HN:=aj (λw3 a c (hsl:gU w3 a P.f) (hl:P.f.length<=c) (b3:ai w w3)=>W.V.bad w3 P a c m z hsm hsl hl (hG w3 b3) hp h3);clear h ho hB hG ht hsm hP hE e hp hC h3 HT;go_enter func22,ntmps22;go_wp2_with fail;refine(ah PP).mono ?_;rintro e w1 ⟨a,c,rfl,hsl,b1,hl⟩;rw[uS];have PC:=aj (ah HC w1 a c b1 hsl);have HB:=aj (ah HA w1 a c b1);have HSL:=aj (And.intro hsl hl);have Rx:=aj (ah Z7 w1 a c);clear PP hsl hl b1 HC HA Z7;go_wp2_with fail;refine(ah PC).mono ?_
  rintro e w3 ⟨rfl,b3⟩;have PN:=aj (ah HN w3 a c (((ah HSL).1.next (ax _ _)).next b3) (ah HSL).2 (ah HS _ _ (ah HB) b3));have HB3:=aj (ah HS _ _ (ah HB) b3);have hcb:=ah Rx w3 b3;have z0:=hcb.cell 0 _ rfl;have z1:=hcb.cell 1 _ rfl;have z2:=hcb.cell 2 _ rfl;have z3:=hcb.cell 3 _ rfl;have z4:=hcb.cell 4 _ rfl;have z5:=hcb.cell 5 _ rfl;have z6:=hcb.cell 6 _ rfl;have z7:=hcb.cell 7 _ rfl;have z8:=hcb.cell 8 _ rfl;have z9:=hcb.cell 9 _ rfl;clear PC b3 HB HN HSL hcb Rx;go_wp2_with fail;refine(ah PN).mono ?_;rintro e w4 ⟨rfl,b4⟩
  have HF:=aj (ah HE _ (ah HS _ _ (ah HB3) b4));clear PN b4 HE HS HB3 z0 z1 z2 z3 z4 z5 z6 z7 z8 z9;go_wp2_with fail;go_ret;exact⟨rfl,ah HF⟩
 obtain⟨hm1,hz1⟩:eX m 1 65536=true/\eX z 1 4096=true:=by simpa[Bool.and_eq_true] using h3
 have e:fP s tx m z=(⟨s.l++[⟨P,m,z,kG,[]⟩],s.t⟩,0):=by unfold fP;rw[if_neg (by rw[hE];simp),hP,if_neg (by rw[hC];simp),if_neg h3]
 rw[e];have hbn:=(GV hC).1;have hfew:=(GV hC).2.1;have hnm:P.n.size<=maxLen:=by have:=hsm.name;unfold maxLen;omega
 have hown:=λk hk=>((W.sv B s sp).own h k hk).2
 have HN:=aj (λw3 a c (hsl:gU w3 a P.f) (hl:P.f.length<=c) (b3:ai w w3)=>W.V.good w3 P a c m z hsm hsl hl (hG w3 b3) hp hm1 hz1);obtain⟨mb,hm⟩:=h;have hm:SvM RH CH B s sp mb w F:=hm;have hk0:w.cell? (aq sp 0)=some (.map mb)/\w.frozen? (aq sp 0)=false/\sp<w.heap.size:=by
  obtain⟨_,_,hk,_⟩:=hm;exact⟨hk.2.1.cell 0 _ rfl,hk.2.2.1 0,hk.2.1.lt⟩
 cases mb with
 | some b =>
  have HG:Hid (∀(w3 w4:I) (b3:ai w w3) (b4:ai w3 w4) (p:Nat) (FS:af),RH w4 w3.heap.size p FS P m z kG ->
   w4.cell? (aq sp 0)=some (.map (some b))/\w4.frozen? (aq sp 0)=false/\∃w5,(Instr.mapUpdate 76 (.map (some b)) (.string P.n) (.pointer (some ⟨w4.heap.size+1,0,none⟩))).run prog ((w4.alloc (.map #[] 0)).alloc (.cells #[ae p,.map (some w4.heap.size)] 75)).drew=.ok () w5/\Dd (qo RH CH B ⟨s.l++[⟨P,m,z,kG,[]⟩],s.t⟩ sp) w w5 F):=aj (λw3 w4 b3 b4 p FS hr=>by
   have Ry:=ak b3 b4;refine⟨(Ry.cell (p:=aq sp 0) hk0.2.2).trans hk0.1,(Ry.frozen (p:=aq sp 0) hk0.2.2).trans hk0.2.1,?_⟩;have hd4:ai w4 w4.drew:=(agP _ _).drew;have hst:StT RH B p ⟨P,m,z,kG,[]⟩ w4.drew FS:=⟨w3.heap.size,ajA hB b3.size,ajA b4.size hd4.size,W.V.aF (A:=λ_=>False) hr (aA.of_below hd4) (λ_ _ z=>z)⟩;have hge:∀k,FS k->w.heap.size<=k:=λk hk=>ajA b3.size (W.V.own hr k hk).1
   obtain⟨w5,hup,F',g1,g2,g3⟩:=W.grown ((W.svm B s sp (some b)).next hm Ry.drew) (ajA hB Ry.drew.size) (by omega) (x:=⟨P,m,z,kG,[]⟩) rfl hbn hnm hst (λk hk z=>by have:=hown k z;have:=hge k hk;omega) 75;exact⟨w5,hup,F',g1,(aA.of_below Ry.drew).trans g2,λk hk=>(g3 k hk).imp id (λz=>z.elim (hge k) (λz=>ajA Ry.drew.size z))⟩)
  have HSP:=aj hk0.2.2;have heq:=map_eq b;have hmk:=Ru;clear ho hB hG ht hsm hP hE hp hC h3 HT hm hk0 hown hnm hbn hfew hm1 hz1 e;go_enter func22,ntmps22;go_wp2_with fail;refine(ah PP).mono ?_;rintro e w1 ⟨a,c,rfl,hsl,b1,hl⟩;rw[uS];have PC:=aj (ah HC w1 a c b1 hsl);have HB:=aj (ah HA w1 a c b1);have HSL:=aj (And.intro hsl hl);have Rx:=aj (ah Z7 w1 a c);clear PP hsl hl b1 HC HA Z7;go_wp2_with fail;refine(ah PC).mono ?_;rintro e w3 ⟨rfl,b3⟩;have PN:=aj (ah HN w3 a c (((ah HSL).1.next (ax _ _)).next b3) (ah HSL).2 (ah HS _ _ (ah HB) b3))
  have HB3:=aj (ah HS _ _ (ah HB) b3);have hcb:=ah Rx w3 b3;have z0:=hcb.cell 0 _ rfl;have z1:=hcb.cell 1 _ rfl;have z2:=hcb.cell 2 _ rfl;have z3:=hcb.cell 3 _ rfl;have z4:=hcb.cell 4 _ rfl;have z5:=hcb.cell 5 _ rfl;have z6:=hcb.cell 6 _ rfl;have z7:=hcb.cell 7 _ rfl;have z8:=hcb.cell 8 _ rfl;have z9:=hcb.cell 9 _ rfl;have HL3:=aj hcb.lt;clear PC b3 HB HN HSL hcb Rx;go_wp2_with fail;refine(ah PN).mono ?_;rintro e w4 ⟨p,FS,rfl,hr,b4⟩;have n0:=(b4.cell (p:=aq w1.heap.size 0) (ah HL3)).trans z0;obtain⟨k0,kf,w5,hup,hfin⟩:=ah HG w3 w4 (ah HB3) b4 p FS hr;have HF:=aj hfin
  have hq:∀W',ai w4 W'->W'.cell? (aq sp 0)=some (.map (some b))/\W'.cell? (aq w1.heap.size 0)=some (.string P.n):=λW' hb=>⟨(hb.cell (p:=aq sp 0) (ajz (ah HSP) (ajA (ah HB3).size b4.size))).trans k0,(hb.cell (p:=aq w1.heap.size 0) (ajz (ah HL3) b4.size)).trans n0⟩
  have Xn:ai w4 (w4.alloc (.map #[] 0)):=ax _ _;have bA2:ai w4 ((w4.alloc (.map #[] 0)).alloc (.cells #[ae p,.map (some w4.heap.size)] 75)):=Xn.alloc Xn.size _;obtain⟨q0,r0⟩:=hq _ (agP _ _).drew;obtain⟨q1,r1⟩:=hq _ Xn.drew;obtain⟨q2,r2⟩:=hq _ bA2.drew;clear hq Xn bA2 HSP PN b4 HS HB3 z0 z1 z2 z3 z4 z5 z6 z7 z8 z9 HL3 hfin hr HG;go_wp2_with fail;go_region
  go_wp2_with fail;go_ret;exact⟨rfl,ah HF⟩
 | none =>
  have HG:Hid (∀(w3 w4:I) (b3:ai w w3) (b4:ai w3 w4) (p:Nat) (FS:af),RH w4 w3.heap.size p FS P m z kG ->
   w4.cell? (aq sp 0)=some (.map none)/\w4.frozen? (aq sp 0)=false/\∀W5,W5=(w4.setCell (aq sp 0) (.map (some w4.heap.size))).alloc (.map #[] 0)->∃w5,(Instr.mapUpdate 76 (.map (some w4.heap.size)) (.string P.n) (.pointer (some ⟨W5.heap.size+1,0,none⟩))).run prog ((W5.alloc (.map #[] 0)).alloc (.cells #[ae p,.map (some W5.heap.size)] 75)).drew=.ok () w5/\Dd (qo RH CH B ⟨s.l++[⟨P,m,z,kG,[]⟩],s.t⟩ sp) w w5 F):=aj (λw3 w4 b3 b4 p FS hr=>by
   have Ry:=ak b3 b4;refine⟨(Ry.cell (p:=aq sp 0) hk0.2.2).trans hk0.1,(Ry.frozen (p:=aq sp 0) hk0.2.2).trans hk0.2.1,λW5 Dj=>?_⟩;have hge:∀k,FS k->w.heap.size<=k:=λk hk=>ajA b3.size (W.V.own hr k hk).1
   have hfl:∀k,FS k->k<w4.heap.size:=λk hk=>(W.V.own hr k hk).2
   obtain⟨F5,m1,m2,m3⟩:=W.mapped ((W.svm B s sp none).next hm Ry) (ajA hB Ry.size);rw[alT _ _ _ _ (ajz hk0.2.2 Ry.size),<-Dj] at m1 m2;have hd5:ai W5 W5.drew:=(agP _ _).drew;have hst:StT RH B p ⟨P,m,z,kG,[]⟩ W5.drew FS:=⟨w3.heap.size,ajA hB b3.size,ajA b4.size (ajA m2.size hd5.size),W.V.aF (A:=λ_=>False) (W.V.aF hr m2 (λk hk z=>by have:=hown k z;have:=hge k hk;omega)) (aA.of_below hd5) (λ_ _ z=>z)⟩;obtain⟨w5,hup,F',g1,g2,g3⟩:=W.grown ((W.svm B s sp (some w4.heap.size)).next m1 hd5) (ajA hB (ajA Ry.size (ajA m2.size hd5.size))) (by omega) (x:=⟨P,m,z,kG,[]⟩) rfl hbn hnm hst (λk hk z=>by
    have h1:=hge k hk;have h2:=hfl k hk;rcases m3 k z with q|q
    ·have:=hown k q;omega
    ·omega) 75
   refine⟨w5,hup,F',g1,((aA.of_below Ry).trans m2).more ((aA.of_below hd5).trans (g2.mono (λ_ _ z=>z))) (λk hk z=>?_),λk hk=>?_⟩
   ·rcases m3 k z with q|q
    ·exact q
    ·have:=Ry.size;omega
   ·rcases g3 k hk with q|q|q
    ·rcases m3 k q with y|y
     ·exact .inl y
     ·exact .inr (ajA Ry.size y)
    ·exact .inr (hge k q)
    ·exact .inr (ajA Ry.size (ajA m2.size (ajA hd5.size q))))
  have HSP:=aj hk0.2.2;have heq:=afC;have hmk:=adx;have HMK:=aj Ru;clear ho hB hG ht hsm hP hE hp hC h3 HT hm hk0 hown hnm hbn hfew hm1 hz1 e;go_enter func22,ntmps22;go_wp2_with fail;refine(ah PP).mono ?_;rintro e w1 ⟨a,c,rfl,hsl,b1,hl⟩;rw[uS];have PC:=aj (ah HC w1 a c b1 hsl);have HB:=aj (ah HA w1 a c b1);have HSL:=aj (And.intro hsl hl);have Rx:=aj (ah Z7 w1 a c);have HB1:=aj b1;clear PP hsl hl b1 HC HA Z7;go_wp2_with fail;refine(ah PC).mono ?_;rintro e w3 ⟨rfl,b3⟩;have PN:=aj (ah HN w3 a c (((ah HSL).1.next (ax _ _)).next b3) (ah HSL).2 (ah HS _ _ (ah HB) b3))
  have HB3:=aj (ah HS _ _ (ah HB) b3);have hcb:=ah Rx w3 b3;have z0:=hcb.cell 0 _ rfl;have z1:=hcb.cell 1 _ rfl;have z2:=hcb.cell 2 _ rfl;have z3:=hcb.cell 3 _ rfl;have z4:=hcb.cell 4 _ rfl;have z5:=hcb.cell 5 _ rfl;have z6:=hcb.cell 6 _ rfl;have z7:=hcb.cell 7 _ rfl;have z8:=hcb.cell 8 _ rfl;have z9:=hcb.cell 9 _ rfl;have HL3:=aj hcb.lt;clear PC b3 HB HN HSL hcb Rx;go_wp2_with fail;refine(ah PN).mono ?_;rintro e w4 ⟨p,FS,rfl,hr,b4⟩;have n0:=(b4.cell (p:=aq w1.heap.size 0) (ah HL3)).trans z0;obtain⟨k0,kf,HU⟩:=ah HG w3 w4 (ah HB3) b4 p FS hr;have HU:=aj HU
  have hlt4:sp<w4.heap.size/\w1.heap.size<w4.heap.size:=⟨ajz (ah HSP) (ajA (ah HB3).size b4.size),ajz (ah HL3) b4.size⟩;have aiU:w1.heap.size≠sp:=by have:=ah HSP;have:=(ah HB1).size;omega
  have Xn:ai w4 (w4.alloc (.map #[] 0)):=ax _ _;have q00:=(Xn.cell (p:=aq sp 0) hlt4.1).trans k0;have qf:=(Xn.frozen (p:=aq sp 0) hlt4.1).trans kf;have n1:=(Xn.cell (p:=aq w1.heap.size 0) hlt4.2).trans n0;clear PN b4 HS HB3 z0 z1 z2 z3 z4 z5 z6 z7 z8 z9 HL3 hr HG Xn HSP;go_wp2_with fail;go_upto_region 12 with fail
  obtain⟨W5,Dj⟩:∃W5,W5=(w4.setCell (aq sp 0) (.map (some w4.heap.size))).alloc (.map #[] 0):=⟨_,rfl⟩;rw[<-Dj];have hs5:W5.heap.size=w4.heap.size+1:=by rw[Dj];simp
  have n5:W5.cell? (aq w1.heap.size 0)=some (.string P.n):=by
   rw[Dj,<-alT _ _ _ _ hlt4.1,ajD _ _ _ _ (by intro e;injection e;omega)];exact n1
  have p5:W5.cell? (aq sp 0)=some (.map (some w4.heap.size)):=by
   rw[Dj,<-alT _ _ _ _ hlt4.1];exact akf _ _ _ q00
  obtain⟨w5,hup,hfin⟩:=ah HU W5 Dj;have HF:=aj hfin;have hmm:=ah HMK;have hq:∀W',ai W5 W'->W'.cell? (aq sp 0)=some (.map (some w4.heap.size))/\W'.cell? (aq w1.heap.size 0)=some (.string P.n):=λW' hb=>⟨(hb.cell (p:=aq sp 0) (show sp<W5.heap.size by omega)).trans p5,(hb.cell (p:=aq w1.heap.size 0) (show w1.heap.size<W5.heap.size by omega)).trans n5⟩
  have Xn:ai W5 (W5.alloc (.map #[] 0)):=ax _ _;have bA2:ai W5 ((W5.alloc (.map #[] 0)).alloc (.cells #[ae p,.map (some W5.heap.size)] 75)):=Xn.alloc Xn.size _;obtain⟨q0,r0⟩:=hq _ (agP _ _).drew;obtain⟨q1,r1⟩:=hq _ Xn.drew;obtain⟨q2,r2⟩:=hq _ bA2.drew;clear hq Xn bA2 hfin HU Dj hs5 n5 p5 n1 qf k0 kf hlt4 aiU HB1 heq hmk HMK n0;go_region
  go_wp2_with fail;go_ret;exact⟨rfl,ah HF⟩
end
section
variable {G:I->Prop}{SH:I->Nat->Nat->af->aH->Prop}{RH:I->Nat->Nat->af->Pn.aX->Int->Int->Str->Prop}{CH:I->Nat->Nat->af->bM->Prop}{B:Nat}{w w':I}{F:af}
variable (W:dS G SH RH CH)
include W
theorem ZN {x:Sr}(h:mY RH CH B x b w F)(hx:x.Ok N)(hN:N<=100000)(t:Tk.bJ)(a:Option Addr)(c:Nat)(ht:jU t) :
 Calls prog 77 #[ptr b,sJ t a c] w λe w'=>e=.returned (aa (sF x.cs t))/\ai w w':=by
 obtain⟨W0,hW0⟩:∃W0,W0=w.alloc (rY t a c):=⟨_,rfl⟩;have b0:ai w W0:=by rw[hW0];exact ax _ _
 have r0:CB W0 w.heap.size [.string t.n,.string t.f,aa t.fr,aa t.st,aa t.ack,aa t.wait,.slice a t.bo.length c,aa t.mo,aa t.pe,.bool t.pu]:=by rw[hW0];exact CB.new w [.string t.n,.string t.f,aa t.fr,aa t.st,aa t.ack,aa t.wait,.slice a t.bo.length c,aa t.mo,aa t.pe,.bool t.pu] _
 have z4:=r0.cell 4 _ rfl;have z2:=r0.cell 2 _ rfl;obtain⟨K,hK⟩:∃K,t.ack=K:=⟨_,rfl⟩;obtain⟨R,hR⟩:∃R,t.fr=R:=⟨_,rfl⟩;rw[hK] at z4;rw[hR] at z2;have HB0:=aj b0;by_cases hk:K≠2
 ·have e:sF x.cs t=1:=by unfold sF;rw[if_pos (by left;rw[hK];exact hk)]
  rw[e];have hk':(K==2)=false:=by simpa using hk
  clear h hx ht b0 r0 e hK hR;go_enter func77,ntmps77;go_upto_region 1 with fail
  rw[show w.alloc (rY t a c)=W0 from hW0.symm];clear hW0;go_wp2_with fail;go_ret;exact⟨rfl,ah HB0⟩
 have hk:K=2:=Classical.not_not.1 hk;subst hk;by_cases hr:R≠0
 ·have e:sF x.cs t=1:=by unfold sF;rw[if_pos (by right;rw[hR];exact hr)]
  rw[e];have hr':(R==0)=false:=by simpa using hr
  clear h hx ht b0 r0 e hK hR;go_enter func77,ntmps77;go_upto_region 1 with fail
  rw[show w.alloc (rY t a c)=W0 from hW0.symm];clear hW0;go_wp2_with fail;go_ret;exact⟨rfl,ah HB0⟩
 have hr:R=0:=Classical.not_not.1 hr;subst hr;have HE:Hid (sF x.cs t=if (x.cs.any λy=>aT t.f y.c.t.f)=true then 10 else 0):=aj (by unfold sF;rw[if_neg (by rw[hK,hR];simp)]);obtain⟨_,cb,-,d1,hbl,_,-,-,-,ps,hP,-,hno,hyes⟩:=W.ZI ((W.sr B x b).next h b0);have HM:=aj (λn c (hc:cZ ps n=some c)=>show ∃y F1,y∈x.cs/\y.nm=n/\yg CH B y c W0 F1 by
  cases hy:jL Mb.nm n x.cs with
  | none=>rw[hno n hy] at hc;cases hc
  | some y =>
   obtain⟨c',F1,e1,e2,_⟩:=hyes n y hy;rw[hc] at e1
   cases e1
   exact⟨y,F1,(by_some hy).1,(by_some hy).2,e2⟩)
 have HA:Hid (∀y∈x.cs,y.nm.size<=maxLen/\(cZ ps y.nm).isSome=true):=aj (λy hy=>by
  have hs:=(hx.all y hy).go.small.name;obtain⟨c',F1,e1,_⟩:=hyes y.nm y (rU hx.nd hy);exact⟨by unfold maxLen;show y.c.t.n.size<=_;omega,by rw[e1];rfl⟩)
 have HX:=aj hx;have HR:=aj r0;have HS:=aj ht.filt;have hcl:cb<W0.heap.size:=hP.lt;clear h hno hyes hx b0 r0 hK hR ht;go_enter func77,ntmps77;go_upto_region 1 with fail
 rw[show w.alloc (rY t a c)=W0 from hW0.symm];clear hW0;go_wp2_with (first
  | (at_range;refine nO rfl _ 73 84 rfl underlying73 rfl hP ?_;intro w0 agV hrg0 hb0 hs0)
  | go_in)
 go_frame
 have HB1:=aj hb0;clear hP d1 hbl hb0 z4 z2;go_loopw [] (λwr=>∃left cnt,Rg wr (some cb) W0.heap.size ps left cnt/\Hid (ai W0 wr/\W0.heap.size<wr.heap.size)/\Hid (∀y∈x.cs,left y.nm=false->aT t.f y.c.t.f=false)) (λwr=>kX (some cb) W0.heap.size wr)
 case atStart=>exact⟨_,_,hrg0,aj ⟨ah HB1,by omega⟩,aj (λy _ z=>by cases z)⟩
 case round =>
  clear hrg0 HB1 hs0;obtain⟨left,cnt,hrg,HB,HN⟩:=hrel;go_wp2_with (first
   | (at_next;refine pU rfl _ rfl rfl hrg ?_ ?_)
   | go_in)
  ·intro hl0;have HF:Hid (sF x.cs t=0/\ai w wr):=aj (by
    refine⟨?_,(ah HB0).trans ((ah HB).1.mono (ah HB0).size)⟩;rw[ah HE,if_neg];rw[Bool.not_eq_true,List.any_eq_false];intro y hy;rw[ah HN y hy (hl0 _ (ah HA y hy).1 (ah HA y hy).2)];decide)
   clear HN HB hl0 hrg;go_wp2_with fail;go_ret;rw[(ah HF).1];exact⟨rfl,(ah HF).2⟩
  ·intro n cm w2 cnt2 hns hlk hlf hrg2 hlt hch hen;obtain⟨y,F1,hy,hyn,hmb⟩:=ah HM n cm hlk;have hb2:ai W0 w2:=(ah HB).1.trans (hch.below (ah HB).1.size (λk hk z=>by omega));obtain⟨q,c0,hcl',PT,_⟩:=W.reads ((W.mb B y cm).next hmb hb2) ((ah HX).all y hy) hN;have rc:=(ah HR).next hb2;have r1:=rc.cell 1 _ rfl;have hrl:=rc.lt;obtain⟨M,hM⟩:∃M,aT t.f y.c.t.f=M:=⟨_,rfl⟩;have PO:=aj (λ(W':I)=>xH (f:=t.f) (s:=y.c.t.f) (a:=M) (x:=iW (aC true t.f) (aC true y.c.t.f)) hM rfl (ah HS) ((ah HX).all y hy).go.small.filt W');have HPT:=aj PT
   have HK:=aj (λ(W':I) (hb:ai w2 W')=>show W'.cell? (aq w.heap.size 1)=some (.string t.f)/\W'.cell? (aq cm 0)=some (ptr q) from⟨(hb.cell (p:=aq w.heap.size 1) hrl).trans r1,(hb.cell (p:=aq cm 0) hcl').trans c0⟩);have lD:Hid (∀w9,ai w2 w9->M=false->(∃left cnt,Rg w9 (some cb) W0.heap.size ps left cnt/\Hid (ai W0 w9/\W0.heap.size<w9.heap.size)/\Hid (∀y∈x.cs,left y.nm=false->aT t.f y.c.t.f=false))/\kX (some cb) W0.heap.size w9<kX (some cb) W0.heap.size wr):=aj (λw9 hb hf=>by
    have hl2:W0.heap.size<w2.heap.size:=ajz (ah HB).2 hch.size;have hr9:=hrg2.aF (A:=λ_=>False) (aA.of_below hb) (λ_ _ z=>z) (λz=>z) hl2;refine⟨⟨_,cnt2,hr9,aj ⟨hb2.trans (hb.mono hb2.size),ajz hl2 hb.size⟩,aj (λy' hy' z=>?_)⟩,by rw[hr9.left_eq,hrg.left_eq];exact hlt⟩;rw[Bool.and_eq_false_iff] at z;rcases z with z|z
    ·exact ah HN y' hy' z
    ·have e:y'.nm=n:=by simpa using z
     have a1:=(ah HX).one hy' e;rw[(ah HX).one hy hyn] at a1;rw[<-ajU a1,hM];exact hf)
   have HT:Hid (M=true->∀w9,ai w2 w9->sF x.cs t=10/\ai w w9):=aj (λhf w9 hb=>⟨by
    rw[ah HE,if_pos];exact akN.2 ⟨y,hy,by rw[hM];exact hf⟩,(ah HB0).trans ((hb2.trans (hb.mono hb2.size)).mono (ah HB0).size)⟩)
   have HSt:=aj (λ(W1 W2:I) (h1:ai w2 W1) (h2:ai W1 W2)=>ak h1 h2);have hd:ai w2 w2.drew:=(agP _ _).drew;have k0:=ah HK _ hd;have hin:=afV;clear hy hyn hmb hb2 PT rc r1 hrl hM c0 hcl' hlk hlf hrg2 hrg hch HB HN HA HM HX HE HR HS HB0 hns hlt;go_upto_region 6 with fail
   go_region_held3 (λW'=>W'.cell? (aq w.heap.size 1)=some (.string t.f)/\W'.cell? (aq cm 0)=some (ptr q)) (first|with_reducible assumption)
    (first|(go_at_call 42;with_reducible refine(ah HPT _ hd).mono ?_;rintro e wa ⟨a',c',rfl,_,ba⟩;have BA:=aj (ah HSt _ _ hd ba);have k1:=ah HK wa (ah BA);clear ba)|(go_at_call 123;with_reducible refine(ah PO wa).mono ?_;rintro e wb ⟨rfl,bb⟩;have BB:=aj (ah HSt _ _ (ah BA) bb);have k2:=ah HK wb (ah BB);clear bb))
   clear PO HPT HK HSt k0 k1 k2 hd BA
   cases M with
   | false =>
    have hfin:=ah lD wb (ah BB) (by first|rfl|trivial);clear lD HT BB;go_wp2_with fail;go_roundw
    case rel=>exact hfin.1
    case measure=>exact hfin.2
   | true =>
    have hfin:=ah HT (by first|rfl|trivial) wb (ah BB);clear lD HT BB;go_wp2_with fail;go_ret;rw[hfin.1];exact⟨rfl,hfin.2⟩
theorem U8 {x:Sr}(h:mY RH CH B x b w F)(hx:x.Ok N)(hN:N<=100000)(t:Tk.bJ)(a:Option Addr)(c:Nat)(ht:jU t) :
 Calls prog 39 #[ptr b,sJ t a c] w λe w'=>e=.returned (aa (oP x t))/\ai w w':=by
 obtain⟨W0,hW0⟩:∃W0,W0=w.alloc (rY t a c):=⟨_,rfl⟩;have b0:ai w W0:=by rw[hW0];exact ax _ _
 have r0:CB W0 w.heap.size [.string t.n,.string t.f,aa t.fr,aa t.st,aa t.ack,aa t.wait,.slice a t.bo.length c,aa t.mo,aa t.pe,.bool t.pu]:=by rw[hW0];exact CB.new w [.string t.n,.string t.f,aa t.fr,aa t.st,aa t.ack,aa t.wait,.slice a t.bo.length c,aa t.mo,aa t.pe,.bool t.pu] _
 have h1:=(W.sr B x b).next h b0;obtain⟨_,cb,-,c1,hbl,_,-,-,-,ps,Rt,hlen,hno,hyes⟩:=W.ZI h1;have hnm:t.n.size<=maxLen:=by have:=ht.name;unfold maxLen;omega
 have hl:=Xl (Rt.aF (A:=λ_=>False) (aA.of_below (agP _ _).drew) (λ_ _ z=>z)) t.n true hnm;have n0:=r0.cell 0 _ rfl
 cases hy:jL Mb.nm t.n x.cs with
 | some y =>
  obtain⟨c',F1,ob,_⟩:=hyes _ y hy;rw[ob] at hl;have e:oP x t=5:=by unfold oP;rw[hy];rfl
  rw[e];simp only[O1,Option.map_some,Option.isSome_some,ami] at hl;have HB:=aj b0.drew;clear h hx ht b0 r0 h1 Rt hlen hno hyes hnm hy ob e;go_enter func39,ntmps39;go_upto_region 1 with fail
  rw[show w.alloc (rY t a c)=W0 from hW0.symm];clear hW0;go_region
  go_wp2_with fail;go_ret;exact⟨rfl,ah HB⟩
 | none =>
  rw[hno _ hy] at hl;simp only[O1,Option.map_none,Option.isSome_none,ami] at hl;have hln:=(mV.aF (A:=λ_=>False) Rt (aA.of_below (agP _ _).drew) (λ_ _ z=>z):mV W0.drew (some cb) ps).len underlying73 3;obtain⟨n,hn⟩:∃n,x.cs.length=n:=⟨_,rfl⟩;rw[hlen,hn] at hln;by_cases h6:6<=n
  ·have e:oP x t=8:=by unfold oP;rw[hy,if_neg (by simp),if_pos (by omega)]
   rw[e];have HB:=aj b0.drew;have h6':(6:Int)<=(n:Int):=by omega
   clear h hx ht b0 r0 h1 Rt hlen hno hyes hnm hy e hn h6;go_enter func39,ntmps39;go_upto_region 1 with fail
   rw[show w.alloc (rY t a c)=W0 from hW0.symm];clear hW0;go_region
   go_wp2_with fail;go_ret;exact⟨rfl,ah HB⟩
  have h6':(n:Int)<6:=by omega
  have HE:Hid (oP x t=if pv x.P 6=2 then sF x.cs t else 0):=aj (by unfold oP;rw[hy,if_neg (by simp),if_neg (by omega)]);obtain⟨q,d0,_,hs,_⟩:=W.does h1;have hxl:=(Pn.kU hx.fit.plan).2.1;have PP:=aj (λ(W':I) (hb:ai W0 W')=>show Calls prog 30 #[ptr q] W' λe w'=>∃a' c',e=.returned (Ba x.P a' c')/\gU w' a' x.P.f/\x.P.f.length<=c'/\ai W' w' from by
   obtain⟨B',G',g1,_⟩:=hs W' hb;exact W.M.plan g1 (by omega))
  have PW:=aj (λ(W':I) (hb:ai W0 W')=>ZN W ((W.sr B x b).next h1 hb) hx hN t a c ht);have HB:=aj (λ(W1 W2:I) (h1:ai W0 W1) (h2:ai W1 W2)=>ak h1 h2);have HB0:=aj b0;have HR:=aj (λ(W':I) (hb:ai W0 W')=>r0.next hb);obtain⟨K,hK⟩:∃K,pv x.P 6=K:=⟨_,rfl⟩;have hin:∀a c W,(Instr.field 80 (Ba x.P a c) 8).run prog W=.ok (aa K) W:=λa c W=>by rw[<-hK];exact Xm x.P a c W
  rw[hK] at HE;have hd:ai W0 W0.drew:=(agP _ _).drew;clear h hx ht b0 r0 h1 Rt hlen hno hyes hnm hy hn h6 hs hxl hK;go_enter func39,ntmps39;go_upto_region 1 with fail
  rw[show w.alloc (rY t a c)=W0 from hW0.symm];clear hW0;go_region
  by_cases hk:K=2
  ·subst hk;go_wp2_with fail;refine(ah PP _ hd).mono ?_;rintro e w2 ⟨a',c',rfl,_,_,b2⟩;have B2:=aj (ah HB _ _ hd b2);have PW2:=aj (ah PW w2 (ah B2));have hr2:=ah HR w2 (ah B2);have z0:=hr2.cell 0 _ rfl;have z1:=hr2.cell 1 _ rfl;have z2:=hr2.cell 2 _ rfl;have z3:=hr2.cell 3 _ rfl;have z4:=hr2.cell 4 _ rfl;have z5:=hr2.cell 5 _ rfl;have z6:=hr2.cell 6 _ rfl;have z7:=hr2.cell 7 _ rfl;have z8:=hr2.cell 8 _ rfl;have z9:=hr2.cell 9 _ rfl;clear PP PW hd b2 hr2 HR;go_wp2_with fail;refine(ah PW2).mono ?_;rintro e w3 ⟨rfl,b3⟩;have HF:=aj (ak (ah HB0) (ah HB _ _ (ah B2) b3))
   have HE2:Hid (oP x t=sF x.cs t):=aj (by rw[ah HE];simp);clear PW2 b3 z0 z1 z2 z3 z4 z5 z6 z7 z8 z9 HB;go_wp2_with fail;go_ret;rw[ah HE2];exact⟨rfl,ah HF⟩
  ·have HE2:Hid (oP x t=0):=aj (by rw[ah HE,if_neg hk]);have hk':(K==2)=false:=by simpa using hk
   go_wp2_with fail;refine(ah PP _ hd).mono ?_;rintro e w2 ⟨a',c',rfl,_,_,b2⟩;have B2:=aj (ak (ah HB0) (ah HB _ _ hd b2));clear PP PW hd b2 HR HB;go_wp2_with fail;go_ret;rw[ah HE2];exact⟨rfl,ah B2⟩
end
structure oQ (G:I->Prop):Prop where
 parse:∀(s:ad) (w:I),s.size<=140737488355328->G w ->
  Calls prog 38 #[.string s] w λe w'=>∃a c,e=.returned (.tuple #[sJ (Tk.dw s).1 a c,aa (Tk.dw s).2])/\kK w' a (Tk.dw s).1.bo/\ai w w'
theorem Sr.Ok.join {N:Nat}{x:Sr}{t:Tk.bJ}(h:x.Ok N)(ht:Tk.iV t=0)(hs:jU t)(he:oP x t=0):(x.join t).Ok N/\jL Mb.nm t.n x.cs=none/\x.cs.length<6:=by
 unfold oP at he;split at he
 ·cases he
 ·split at he
  ·cases he
  ·rename_i h4 h5;have hn:jL Mb.nm t.n x.cs=none:=by simpa using h4
   refine⟨⟨h.fit,h.small,by simp[Sr.join];omega,?_,λy hy=>?_⟩,hn,by omega⟩
   ·simp only[Sr.join,akt,akw,alZ];rw[List.nodup_append];refine⟨h.nd,by simp,λa ha b hb e=>?_⟩;rw[akd] at hb;subst e;rw[hb] at ha;exact uQ.1 hn ha
   ·rcases akg.1 hy with q|q
    ·exact h.all y q
    ·rw[akd] at q;subst q;exact⟨(bM.Go.new ht hs h.fit.vM.ok).more (ajO _),yO.nil⟩
abbrev TkS (b p g:Nat)(t:Tk.bJ)(a:Option Addr)(c:Nat)(W:I):Prop:=W.cell? (aq b 0)=some (ptr p)/\W.cell? (aq g 0)=some (.string t.n)/\W.cell? (aq g 1)=some (.string t.f)/\W.cell? (aq g 2)=some (aa t.fr)/\W.cell? (aq g 3)=some (aa t.st)/\W.cell? (aq g 4)=some (aa t.ack)/\W.cell? (aq g 5)=some (aa t.wait)/\W.cell? (aq g 6)=some (.slice a t.bo.length c)/\W.cell? (aq g 7)=some (aa t.mo)/\W.cell? (aq g 8)=some (aa t.pe)/\W.cell? (aq g 9)=some (.bool t.pu)
section
variable {G:I->Prop}{SH:I->Nat->Nat->af->aH->Prop}{RH:I->Nat->Nat->af->Pn.aX->Int->Int->Str->Prop}{CH:I->Nat->Nat->af->bM->Prop}{B:Nat}{w w':I}{F:af}
variable (W:dS G SH RH CH)
include W
theorem Kr {G2:I->Prop}(TR:oQ G2){s:Sv}(h:qo RH CH B s sp w F)(ho:s.Ok N)(hN:N<=100000)(hB:B<=w.heap.size)(hG:G2 w)(n tx:ad)(hn:n.size<=maxLen)(ht:tx.size<=140737488355328)(hsm:jU (Tk.dw tx).1) :
 Calls prog 17 #[ptr sp,.string n,.string tx] w λe w'=>e=.returned (aa (takeC s n tx).2)/\Dd (qo RH CH B (takeC s n tx).1 sp) w w' F:=by
 have PP:=aj (TR.parse tx w ht hG);obtain⟨t,hT⟩:∃t,(Tk.dw tx).1=t:=⟨_,rfl⟩;obtain⟨E,hE⟩:∃E,(Tk.dw tx).2=E:=⟨_,rfl⟩;rw[hT,hE] at PP;rw[hT] at hsm;have HS:=aj (λ(w1 w2:I) (h1:ai w w1) (h2:ai w1 w2)=>ak h1 h2);have HA:=aj (λ(w1:I) a c (b1:ai w w1)=>show ai w (w1.alloc (rY t a c)) from b1.trans ((agP _ _).alloc b1.size _));have HE:=aj (λw1 (b1:ai w w1)=>(W.sv B s sp).same h b1);by_cases h1:E≠0
 ·have e:takeC s n tx=(s,E):=by unfold takeC;rw[if_pos (by rw[hE];exact h1),hE]
  rw[e];have h1':(E==0)=false:=by simpa using h1
  clear h ho hB hG ht hsm hT hE e hn;go_enter func17,ntmps17;go_wp2_with fail;refine(ah PP).mono ?_;rintro e w1 ⟨a,c,rfl,hsl,b1⟩;have HF:=aj (ah HE _ (ah HA w1 a c b1));clear PP hsl b1 HE HA HS;go_wp2_with fail;go_ret;exact⟨rfl,ah HF⟩
 have h1:E=0:=Classical.not_not.1 h1;subst h1;have htk:Tk.iV t=0:=by rw[<-hT];exact Ri hE
 obtain⟨mb,c0,_,hlt,ps,Rt,_,hno,hyes⟩:=W.srv h;have hl:=λ(W':I) (hb:ai w W')=>D8 (Rt.aF (A:=λ_=>False) (aA.of_below hb) (λ_ _ z=>z)) n true hn
 have Ip:=aj (λ(w1:I) (b1:ai w w1)=>(b1.cell (p:=aq sp 0) hlt).trans c0)
 cases hx:jL Sr.nm n s.l with
 | none =>
  rw[hno n hx] at hl;simp only[O1,Option.map_none,Option.isSome_none,ami] at hl;have HL:=aj hl;have e:takeC s n tx=(s,4):=by unfold takeC;rw[if_neg (by rw[hE];simp),hx]
  rw[e];clear h ho hB hG ht hsm hT hE e hn Rt hno hyes hx hl htk c0 hlt;go_enter func17,ntmps17;go_wp2_with fail;refine(ah PP).mono ?_;rintro e w1 ⟨a,c,rfl,hsl,b1⟩;have HF:=aj (ah HE _ (ah HA w1 a c b1));have c0:=ah Ip _ (ah HA w1 a c b1);have hl:=ah HL _ (ah HA w1 a c b1);clear PP hsl b1 HE HA HS Ip HL;go_wp2_with fail;go_ret;exact⟨rfl,ah HF⟩
 | some x =>
  obtain⟨b,F1,ob,hsr,hin1,Kq⟩:=hyes n x hx;rw[ob] at hl;simp only[O1,Option.map_some,Option.isSome_some,ami] at hl;have HL:=aj hl;have hox:=ho.all x (by_some hx).1;have HCk:=aj (λ(W':I) a c (hb:ai w W')=>U8 W ((W.sr B x b).next hsr hb) hox hN t a c hsm);obtain⟨C,hC⟩:∃C,oP x t=C:=⟨_,rfl⟩;rw[hC] at HCk;by_cases h2:C≠0
  ·have e:takeC s n tx=(s,C):=by
    unfold takeC;rw[if_neg (by rw[hE];simp),hx];simp only[hT,hC];rw[if_pos h2]
   rw[e];have h2':(C==0)=false:=by simpa using h2
   clear h ho hB hG ht hsm hT hE e hn Rt hno hyes hx hl htk c0 hlt hox hsr hin1 Kq ob hC;go_enter func17,ntmps17;go_wp2_with fail;refine(ah PP).mono ?_;rintro e w1 ⟨a,c,rfl,hsl,b1⟩;have HF:=aj (λw3 (b3:Below (w1.alloc (rY t a c)).heap.size (w1.alloc (rY t a c)) w3)=>ah HE _ (ah HS _ _ (ah HA w1 a c b1) b3));have c0:=ah Ip _ (ah HA w1 a c b1);have hl:=ah HL _ (ah HA w1 a c b1);have PC:=aj (ah HCk _ a c (ah HA w1 a c b1));clear PP hsl b1 HE HA HS Ip HL HCk;go_wp2_with fail;refine(ah PC).mono ?_;rintro e w3 ⟨rfl,b3⟩;have HF2:=aj (ah HF w3 b3)
   clear HF b3 PC c0 hl;go_wp2_with fail;go_ret;exact⟨rfl,ah HF2⟩
  have h2:C=0:=Classical.not_not.1 h2;subst h2;have e:takeC s n tx=(s.put n λx=>(x.join t).sweep,0):=by
   unfold takeC;rw[if_neg (by rw[hE];simp),hx];simp only[hT,hC];rw[if_neg (by simp)]
  rw[e];obtain⟨hjo,hnn,hfew⟩:=hox.join htk hsm hC;obtain⟨p,cb,d0,d1,hbl,FS,hst,_⟩:=W.ZI hsr;obtain⟨Bs,s1,s2,_⟩:=Up.open hst;have hown:=λk hk=>((W.sr B x b).own hsr k hk).2
  have hown0:=λk hk=>((W.sv B s sp).own h k hk).2
  have ahY:t.n.size<=maxLen:=by have:=hsm.name;unfold maxLen;omega
  have HBC:=aj (λ(W':I) (hb:ai w W')=>show W'.cell? (aq b 0)=some (ptr p)/\W'.cell? (aq b 1)=some (.map (some cb)) from⟨(hb.cell (p:=aq b 0) hbl).trans d0,(hb.cell (p:=aq b 1) hbl).trans d1⟩);have ahZ:=aj (λ(W':I) (hb:ai w W')=>W.V.store (W.V.aF (A:=λ_=>False) s2 (aA.of_below hb) (λ_ _ z=>z)) hox.fit (ajA s1 hb.size));have ah0:=aj (λ(W':I) (hb:ai w W') (q:Nat) (F0:af) a c (hsl:kK W' a t.bo) (g:SH W' Bs q F0 x.st.s)=>W.C.new t a c hsm hsl htk g hox.fit.vM.ok (ajA s1 hb.size));have HJ:Hid (∀(w4 w5 w6:I) (pc:Nat) (GC:af) (T:TypeId),ai w w4->ai w4 w5->CH w5 w4.heap.size pc GC ⟨t,eH t x.st.s,[],0⟩->ai w5 w6->fA w6 w5.heap.size w5.heap.size (.slice none 0 0) [] ->
   ∃w7,(Instr.mapUpdate 73 (.map (some cb)) (.string t.n) (.pointer (some ⟨w6.heap.size,0,none⟩))).run prog (w6.alloc (.cells #[ae pc,.pointer (some ⟨w5.heap.size,0,none⟩)] T))=.ok () w7/\w7.cell? (aq b 1)=some (.map (some cb))/\(∀k j,w.heap.size<=k->k<w6.heap.size->w7.cell? (aq k j)=w6.cell? (aq k j)) /\
    Calls prog 28 #[ptr b] w7 λe w8=>e=.returned (.tuple #[])/\Dd (qo RH CH B (s.put n λx=>(x.join t).sweep) sp) w w8 F):=aj (λw4 w5 w6 pc GC T b4 b45 hch b56 hku=>by
   have b5:=ak b4 b45;have b6:=ak b5 b56;have hC6:CoT CH B pc ⟨t,eH t x.st.s,[],0⟩ w6 GC:=⟨w4.heap.size,ajA hB b4.size,ajA b45.size b56.size,W.C.aF (A:=λ_=>False) hch (aA.of_below b56) (λ_ _ z=>z)⟩;have hQ6:QuT B w5.heap.size [] w6 (qC w5.heap.size (.slice none 0 0)):=⟨w5.heap.size,ajA hB b5.size,b56.size,_,hku,λ_=>alJ⟩;have ag4:∀k,GC k->w.heap.size<=k/\k<w5.heap.size:=λk hk=>⟨ajA b4.size (W.C.own hch k hk).1,(W.C.own hch k hk).2⟩
   have hqe:∀k,qC w5.heap.size (.slice none 0 0) k->k=w5.heap.size:=λk hk=>by
    rcases hk with z|z
    ·exact z
    ·simp[Value.ownBlock] at z
   obtain⟨w7,hr,hc1,F',g1,g2,g3⟩:=W.joined ((W.sr B x b).next hsr b6) ((b6.cell (p:=aq b 1) hbl).trans d1) (ajA hB b6.size) (by omega) (y:=⟨⟨t,eH t x.st.s,[],0⟩,[]⟩) hnn ahY hC6 hQ6 (λk hk z=>by have:=ag4 k hk;have:=hown k z;omega) (λk hk z=>by have:=hqe k hk;have:=hown k z;have:=b5.size;omega) (λk hk z=>by have:=ag4 k hk;have:=hqe k z;omega) T;have hge:∀k,F' k->F1 k\/w.heap.size<=k:=λk hk=>by
    rcases g3 k hk with q|q|q|q
    ·exact .inl q
    ·exact .inr (ag4 k q).1
    ·exact .inr (by rw[hqe k q];exact b5.size)
    ·exact .inr (ajA b6.size q)
   have aiV:aA F1 w w7:=(aA.of_below b6).trans (g2.mono (λ_ _ z=>z));refine⟨w7,hr,hc1,λk j hk hk6=>(g2.cell (p:=aq k j) hk6 (λz=>by have:=hown k z;omega)),(U5 W g1 hjo hN).mono ?_⟩;rintro e w8 ⟨rfl,D⟩;exact⟨rfl,Kq (f:=λx=>(x.join t).sweep) (agP _ _) (Ad _) (Dd.on aiV hge D)⟩)
  clear h ho hB hG ht hT hE e hn Rt hno hyes hx hl c0 hlt hox hsr hin1 Kq ob hC hjo hnn hfew d0 d1 hbl hst s2 hown hown0 ahY htk hsm HE;go_enter func17,ntmps17;go_wp2_with fail;refine(ah PP).mono ?_;rintro e w1 ⟨a,c,rfl,hsl,b1⟩;have bA:=ah HA w1 a c b1;have HB2:=aj bA;have HSL:=aj (λW' (hb:Below (w1.alloc (rY t a c)).heap.size (w1.alloc (rY t a c)) W')=>show kK W' a t.bo from Go.Proofs.YtebofkkfbkodiaaGreatDoor.Jh (Go.Proofs.YtebofkkfbkodiaaGreatDoor.Jh hsl (ax _ _)) hb);have Z7:=aj (λW' (hb:Below (w1.alloc (rY t a c)).heap.size (w1.alloc (rY t a c)) W')=>(CB.new w1 [.string t.n,.string t.f,aa t.fr,aa t.st,aa t.ack,aa t.wait,.slice a t.bo.length c,aa t.mo,aa t.pe,.bool t.pu] 98).next hb)
  have HL1:=aj b1.size;have c0:=ah Ip _ bA;have hl:=ah HL _ bA;have PC:=aj (ah HCk _ a c bA);clear PP hsl b1 HA Ip HL HCk bA;go_wp2_with fail;refine(ah PC).mono ?_;rintro e w3 ⟨rfl,b3⟩;have HB3:=aj (ah HS _ _ (ah HB2) b3);have ady:=aj b3;clear PC b3 c0 hl;go_wp2_with fail;have hd3:ai w3 w3.drew:=(agP _ _).drew;have HK:=aj (λW' (hb:ai w3 W')=>show TkS b p w1.heap.size t a c W' from by
   have hc:=ah Z7 W' (ak (ah ady) hb);exact⟨(ah HBC W' (ak (ah HB3) hb)).1,hc.cell 0 _ rfl,hc.cell 1 _ rfl,hc.cell 2 _ rfl,hc.cell 3 _ rfl,hc.cell 4 _ rfl,hc.cell 5 _ rfl,hc.cell 6 _ rfl,hc.cell 7 _ rfl,hc.cell 8 _ rfl,hc.cell 9 _ rfl⟩)
  have PSt:=aj (ah ahZ _ (ah HS _ _ (ah HB3) hd3));have PNw:=aj (λwa (ba:Below w3.drew.heap.size w3.drew wa) q F0 (g:SH wa Bs q F0 x.st.s)=>ah ah0 wa (ah HS _ _ (ah HB3) (ak hd3 ba)) q F0 a c (ah HSL wa (ak (ah ady) (ak hd3 ba))) g);have adz:=aj (λ(W1 W2:I) (h1:ai w3 W1) (h2:ai W1 W2)=>ak h1 h2);have k0:=ah HK _ hd3;clear ah0 ahZ HSL;go_region_held3 (TkS b p w1.heap.size t a c) (first|with_reducible assumption)
   (first|(go_at_call 34;with_reducible refine(ah PSt).mono ?_;rintro e wa ⟨q,F0,rfl,g1,_,ba⟩;have PN2:=aj (ah PNw wa ba q F0 g1);have BA:=aj (ah adz _ _ hd3 ba);have k1:=ah HK wa (ah BA);clear g1 ba)|(go_at_call 40;with_reducible refine(ah PN2).mono ?_;rintro e wb ⟨⟨pc,GC,rfl,hch⟩,bb⟩;have HCH:=aj hch;have BB:=aj bb;have k2:=ah HK wb (ah adz _ _ (ah BA) bb);clear hch bb))
  have yP:=aj (λW' (hb:ai wb W')=>show W'.cell? (aq b 1)=some (.map (some cb))/\W'.cell? (aq w1.heap.size 0)=some (.string t.n) from
   ⟨(ah HBC W' (ah HS _ _ (ah HB3) (ak (ah adz _ _ (ah BA) (ah BB)) hb))).2,((ah Z7 W' (ak (ah ady) (ak (ah adz _ _ (ah BA) (ah BB)) hb))).cell 0 _ rfl)⟩)
  have HLb:=aj (show w1.heap.size<wb.heap.size from ajz (show w1.heap.size<(w1.alloc (rY t a c)).heap.size by simp) (ajA (ah ady).size (ajA (ah BA).size (ah BB).size)));have HJ2:=aj (λw6 (b6:ai wb w6) hk=>ah HJ wa wb w6 pc GC 91 (ah HS _ _ (ah HB3) (ah BA)) (ah BB) (ah HCH) b6 hk);have hdb:ai wb wb.drew:=(agP _ _).drew;have PQ:Hid (Calls prog 41 #[] wb.drew λe w'=>e=.returned (.pointer (some ⟨wb.heap.size,0,none⟩))/\fA w' wb.heap.size wb.heap.size (.slice none 0 0) []/\ai wb w'):=aj ((aaC wb.drew).mono (by
   rintro e w' ⟨h1,h2,_,h3⟩;exact⟨h1,h2,ak hdb h3⟩))
  have hk3:=ah yP wb.drew hdb;clear HK HJ HB2 HB3 HBC Z7 ady PSt PNw adz PN2 BA BB HCH k0 k1 k2 HS hd3;go_wp2_with fail;go_region_held3 (λW'=>W'.cell? (aq b 1)=some (.map (some cb))/\W'.cell? (aq w1.heap.size 0)=some (.string t.n)) (first|with_reducible assumption)
   (first|(go_at_call 41;with_reducible refine(ah PQ).mono ?_;rintro e w6 ⟨rfl,hku,b6'⟩;obtain⟨w7,hup,hc7,hpr,hsw⟩:=ah HJ2 w6 b6' hku;have HSW:=aj hsw;have k6:=ah yP w6 b6';have k6a:=ah yP (w6.alloc (.cells #[ae pc,.pointer (some ⟨wb.heap.size,0,none⟩)] 91)) (b6'.alloc b6'.size _);have k7:w7.cell? (aq b 1)=some (.map (some cb))/\w7.cell? (aq w1.heap.size 0)=some (.string t.n):=⟨hc7,(hpr _ 0 (ah HL1) (ajz (ah HLb) b6'.size)).trans k6.2⟩;clear hku b6' hc7 hpr hsw))
  clear HJ2 yP HLb PQ hk3 k6 k6a k7 HL1;go_wp2_with fail;refine(ah HSW).mono ?_;rintro e w8 ⟨rfl,D⟩;have HF:=aj D;clear D HSW;go_wp2_with fail;go_ret;exact⟨rfl,ah HF⟩
end
section
variable {RH:I->Nat->Nat->af->Pn.aX->Int->Int->Str->Prop}{CH:I->Nat->Nat->af->bM->Prop}{B:Nat}{w w':I}{F:af}
theorem ZO (w:I)(hB:B<=w.heap.size) :
 Calls prog 21 #[] w λe w'=>e=.returned (ptr w.heap.size)/\qo RH CH B ⟨[],0⟩ w.heap.size w' (λk=>k=w.heap.size)/\ai w w':=by
 have HF:=aj (dS.born (RH:=RH) (CH:=CH) w 78 hB);go_enter func21,ntmps21;go_wp2_with fail;go_ret;exact⟨rfl,ah HF,ax _ _⟩
end
abbrev SN (c b sp p' p:Nat)(t:Int)(W:I):Prop:=W.cell? (aq c 0)=some (ptr p')/\W.cell? (aq b 0)=some (ptr p)/\W.cell? (aq sp 1)=some (aa t)
theorem SN.sets {c b sp p' p d:Nat}{t:Int}(h1:c≠d)(h2:b≠d)(h3:sp≠d):∀(vs:List Value) (o:Nat) (W:I),SN c b sp p' p t W->SN c b sp p' p t (W.setCells d o vs)
 | [],_,_,h=>h
 | v::r,o,W,h=>SN.sets h1 h2 h3 r (o+1) _ ⟨by rw[ajD _ _ _ _ (by intro e;injection e;omega)];exact h.1,by rw[ajD _ _ _ _ (by intro e;injection e;omega)];exact h.2.1,by rw[ajD _ _ _ _ (by intro e;injection e;omega)];exact h.2.2⟩
section
variable {G:I->Prop}{SH:I->Nat->Nat->af->aH->Prop}{RH:I->Nat->Nat->af->Pn.aX->Int->Int->Str->Prop}{CH:I->Nat->Nat->af->bM->Prop}{B:Nat}{w w':I}{F:af}
variable (W:dS G SH RH CH)
include W
theorem U9 {s:Sv}(h:qo RH CH B s sp w F)(ho:s.Ok N)(hN:N+1<=100000)(n who:ad)(hn:n.size<=maxLen)(hw:who.size<=maxLen) :
 Calls prog 11 #[ptr sp,.string n,.string who] w λe w'=>e=.returned (.tuple #[NP (nD s n who).2.1,aa (nD s n who).2.2])/\Dd (qo RH CH B (nD s n who).1 sp) w w' F:=by
 obtain⟨W0,hW0⟩:∃W0,W0=w.alloc zdO:=⟨_,rfl⟩;have b0:ai w W0:=by rw[hW0];exact ax _ _
 have r0:CB W0 w.heap.size (sH dP):=by rw[hW0];exact CB.new w (sH dP) _
 have f0:∀j,W0.frozen? (aq w.heap.size j)=false:=λj=>by rw[hW0];exact akp _ _ _ j
 have hown:=λk hk=>((W.sv B s sp).own h k hk).2
 rcases vZ W h n who hn hw with ⟨hx,hc⟩|⟨x,y,b,c,p,F1,FS,F2,hx,hf,hc⟩
 ·have e:nD s n who=(s,(dP,4)):=by unfold nD;rw[hx]
  rw[e];have PF:=aj (hc W0 b0);have HE:Hid (CB (W0.setCells w.heap.size 0 (sH dP)) w.heap.size (sH dP)/\Dd (qo RH CH B s sp) w (W0.setCells w.heap.size 0 (sH dP)) F):=aj ⟨r0.gG _ rfl,(W.sv B s sp).same h (b0.trans ((jo (g:=w.heap.size) (sH dP) 0 W0).below b0.size (λk hk z=>by omega)))⟩;have c0:=r0.cell 0 _ rfl;have c1:=r0.cell 1 _ rfl;have c2:=r0.cell 2 _ rfl;have c3:=r0.cell 3 _ rfl;have c4:=r0.cell 4 _ rfl;have c5:=r0.cell 5 _ rfl;have g0:=f0 0;have g1:=f0 1;have g2:=f0 2;have g3:=f0 3;have g4:=f0 4;have g5:=f0 5;clear h ho hn hw hx e b0 r0 hc hown f0;go_enter_defers func11,ntmps11
  go_upto_region 1 with fail
  rw[show w.alloc (.cells #[aa 0,.string ⟨#[]⟩,.string ⟨#[]⟩,aa 0,aa 0,aa 0] 35)=W0 from hW0.symm];clear hW0;go_wp2_with fail;refine(ah PF).mono ?_;rintro e w1 ⟨hw1,u,v,rfl⟩;subst hw1;clear PF;go_wp2_with fail;exact⟨_,eP rfl rfl (ah HE).1,rfl,(ah HE).2⟩
 ·have e:nD s n who=(s.put n λx=>(x.put who λy=>⟨(aK y.c x.st.s.l s.t).1,y.q⟩).sweep,(oW (aK y.c x.st.s.l s.t).1 x.st.s.l (aK y.c x.st.s.l s.t).2.1,(aK y.c x.st.s.l s.t).2.2)):=by unfold nD;rw[hx]
  rw[e];obtain⟨hx1,hy1⟩:=D7 hx;have hox:=ho.all x (by_some hx1).1;have hoy:=hox.all y (by_some hy1).1;have hd:ai w W0.drew:=b0.drew;have hlt:w.heap.size<W0.heap.size:=r0.lt;obtain⟨Bs,s1,s2,_⟩:=Up.open hf.st;have PS:=aj (W.V.store (W.V.aF (A:=λ_=>False) s2 (aA.of_below hd) (λ_ _ z=>z)) hox.fit (ajA s1 hd.size));obtain⟨p',_,c0,_,hcl,hcd,_⟩:=W.G6 hf.mb;obtain⟨c2,hc2⟩:∃c2,(aK y.c x.st.s.l s.t).1=c2:=⟨_,rfl⟩;obtain⟨d,hd2⟩:∃d,oW c2 x.st.s.l (aK y.c x.st.s.l s.t).2.1=d:=⟨_,rfl⟩;obtain⟨E,hE⟩:∃E,(aK y.c x.st.s.l s.t).2.2=E:=⟨_,rfl⟩;have PN:=aj (λ(w1:I) (q:Nat) (F0:af) (g1:SH w1 Bs q F0 x.st.s) (g2:∀k,F0 k->FS k) (b1:Below W0.drew.heap.size W0.drew w1)=>hcd (w1:=w1) (Q:=λe=>e=.returned (.tuple #[NP (oW (aK y.c x.st.s.l s.t).1 x.st.s.l (aK y.c x.st.s.l s.t).2.1),aa (aK y.c x.st.s.l s.t).2.2])) (c':=(aK y.c x.st.s.l s.t).1) (ak hd b1) (λB' G' hch hb hsub=>W.C.next hch hoy.go (by omega) g1 hox.fit.vM.ok hb (ajA s1 (ak hd b1).size) (λk hk z=>hf.apart k (g2 k hk) (hsub k z)) s.t))
  have U6:=aj (λ(w1 w2:I) (b1:Below W0.drew.heap.size W0.drew w1) (D:Dd (yg CH B ⟨(aK y.c x.st.s.l s.t).1,y.q⟩ c) w1 w2 F2) (us:List Value) (u:FrameMode)=>W.afW (f:=λx=>x.put who λy=>⟨(aK y.c x.st.s.l s.t).1,y.q⟩) (N:=N+1) (u:=u) (w0:=W0.setCells w.heap.size 0 us) (w1:=w2.setCells w.heap.size 0 us) hf (b0.trans ((jo (g:=w.heap.size) us 0 W0).below b0.size (λk hk z=>by omega)))
   (hf.up (f:=λy=>⟨(aK y.c x.st.s.l s.t).1,y.q⟩) (b0.trans ((jo (g:=w.heap.size) us 0 W0).below b0.size (λk hk z=>by omega))) (by show(aK y.c x.st.s.l s.t).1.t.n=y.c.t.n;rw[jy]) (Dd.both (W.mb B _ c) us (Dd.fst (ak ((agP W0.heap.size W0).drew) b1) D) hlt (λz=>by have:=hown _ (hf.in1 _ (hf.in2 _ z).1).1;omega))) rfl (hox.put (alE _) λy' hy' e=>⟨⟨(hox.all y' hy').go.next hox.fit.vM.ok _,(hox.all y' hy').MV⟩,jy _ _ _⟩) hN)
  rw[hc2,hd2,hE] at PN;rw[hc2] at U6;rw[hc2,hd2,hE];have HK:Hid (∀w1,Below W0.drew.heap.size W0.drew w1->∀w2,aA (λk=>F2 k/\k≠c) w1 w2->SN c b sp p' p s.t w2/\CB w2 w.heap.size (sH dP)/\∀j,w2.frozen? (aq w.heap.size j)=false):=aj (λw1 b1 w2 hc=>by
   have hb1:=ak hd b1;have n2:¬(F2 w.heap.size/\w.heap.size≠c):=λz=>by have:=hown _ (hf.in1 _ (hf.in2 _ z.1).1).1;omega
   have hl1:w.heap.size<w1.heap.size:=ajz hlt (ak ((agP W0.heap.size W0).drew) b1).size;have e0:=ak ((agP W0.heap.size W0).drew) b1;exact⟨⟨(hc.cell (p:=aq c 0) (ajz hcl hb1.size) (λz=>absurd rfl z.2)).trans ((hb1.cell (p:=aq c 0) hcl).trans c0),(hc.cell (p:=aq b 0) (ajz hf.lt hb1.size) (λz=>absurd rfl (hf.in2 _ z.1).2)).trans ((hb1.cell (p:=aq b 0) hf.lt).trans hf.cell),(hc.cell (p:=aq sp 1) (ajz hf.cells.2 hb1.size) (λz=>absurd rfl (hf.in1 _ (hf.in2 _ z.1).1).2)).trans ((hb1.cell (p:=aq sp 1) hf.cells.2).trans hf.cells.1)⟩,(r0.next e0).aF hc n2,λj=>(hc.frozen (p:=aq w.heap.size j) hl1 n2).trans ((e0.frozen (p:=aq w.heap.size j) hlt).trans (f0 j))⟩)
  have HC:Hid (∀(us:List Value),us.length=6->ai w (W0.setCells w.heap.size 0 us)/\CB (W0.setCells w.heap.size 0 us) w.heap.size us/\¬F w.heap.size):=aj (λus hu=>⟨b0.trans ((jo (g:=w.heap.size) us 0 W0).below b0.size (λk hk z=>by omega)),r0.gG us hu,λz=>by have:=hown _ z;omega⟩);have k0:=(ah HK _ (agP _ _) _ (aA.refl _ _)).1;have n1:c≠w.heap.size:=by omega
  have n2:b≠w.heap.size:=by have:=hf.lt;omega
  have n3:sp≠w.heap.size:=by have:=hf.cells.2;omega
  have PF:=aj (hc W0 b0);clear h ho hn hw hx e b0 r0 hc hown hx1 hy1 hox hoy c0 hcl hcd hd hf hlt f0 s1 s2 hc2 hd2 hE;go_enter_defers func11,ntmps11
  go_upto_region 1 with fail
  rw[show w.alloc (.cells #[aa 0,.string ⟨#[]⟩,.string ⟨#[]⟩,aa 0,aa 0,aa 0] 35)=W0 from hW0.symm];clear hW0;go_wp2_with fail;refine(ah PF).mono ?_;rintro e w1 ⟨hw1,rfl⟩;subst hw1;clear PF;go_wp2_with fail;go_region_held3 (SN c b sp p' p s.t) (first|with_reducible assumption|exact SN.sets (by assumption) (by assumption) (by assumption) [_,_,_,_,_,_] 0 _ (by assumption))
   (first|(go_at_call 34;with_reducible refine(ah PS).mono ?_;rintro e wa ⟨q,F0,rfl,g1,g2,ba⟩;have BA:=aj ba;have PN2:=aj (ah PN wa q F0 g1 g2 ba);have k1:=(ah HK wa ba wa (aA.refl _ _)).1;clear g1 g2 ba)|(go_at_call 33;with_reducible refine(ah PN2).mono ?_;rintro e wb ⟨rfl,D,hc2⟩;obtain⟨k2,hz2,hg2⟩:=ah HK wa (ah BA) wb hc2;have HD:=aj (ah U6 wa wb (ah BA) D);have z0:=hz2.cell 0 _ rfl;have z1:=hz2.cell 1 _ rfl;have z2:=hz2.cell 2 _ rfl;have z3:=hz2.cell 3 _ rfl;have z4:=hz2.cell 4 _ rfl;have z5:=hz2.cell 5 _ rfl;have g0:=hg2 0;have g1:=hg2 1;have g2:=hg2 2;have g3:=hg2 3;have g4:=hg2 4;have g5:=hg2 5;clear D hc2 hz2 hg2))
  clear z0 z1 z2 z3 z4 z5 g0 g1 g2 g3 g4 g5 HK PN PN2 PS;go_wp2_with fail;refine leaves_cons (f:=28) (args:=#[ptr b]) (by simp) (by simp[go_sem]) ?_;refine(ah HD (sH d) _).mono ?_;rintro e u' w3 ⟨rfl,rfl,F9,q1,q2,q3⟩;obtain⟨t1,t2,t3⟩:=ah HC (sH d) rfl;exact⟨_,eP rfl rfl (t2.aF q2 t3),rfl,Dd.fst t1 ⟨F9,q1,q2,q3⟩⟩
end
section
variable {G:I->Prop}{G2:I->Prop}{SH:I->Nat->Nat->af->aH->Prop}{RH:I->Nat->Nat->af->Pn.aX->Int->Int->Str->Prop}{CH:I->Nat->Nat->af->bM->Prop}{B:Nat}{w w':I}{F:af}
theorem Kt (n d:ad)(w:I):Calls prog 9 #[.string n,.string d] w λe w'=>e=.returned (BU (nH n d))/\ai w w':=by
 go_enter func9,ntmps9;go_wp2_with fail;exact ajY (O5 rfl rfl (CB.new w (poL (nH n d)) _)) rfl ⟨rfl,ax _ _⟩
variable (W:dS G SH RH CH)
include W
theorem MZ (PR:oH G){s:Sv}(hB:B<=w0.heap.size)(hG:U4 G G2 w0)(ho:s.Ok 0)(tx:ad)(ht:tx.size<=140737488355328)(m z:Int)(h:Mine RH CH B w0 s sp w) :
 Calls prog 22 #[ptr sp,.string tx,aa m,aa z] w λe w'=>(∃v,e=.returned v)/\Mine RH CH B w0 (fP s tx m z).1 sp w':=by
 obtain⟨F,h1,h2,h3⟩:=h;refine(Rw W PR h1 ho (ajA hB h3.size) (λw' z=>(hG w' (h3.trans (z.mono h3.size))).1) tx ht (qg _) m z).mono ?_;rintro e w2 ⟨he,D⟩;exact⟨⟨_,he⟩,Mine.step h2 h3 D⟩
theorem Rz (TR:oQ G2){s:Sv}(hB:B<=w0.heap.size)(hG:U4 G G2 w0)(ho:s.Ok 0)(n tx:ad)(hn:n.size<=maxLen)(ht:tx.size<=140737488355328)(h:Mine RH CH B w0 s sp w) :
 Calls prog 17 #[ptr sp,.string n,.string tx] w λe w'=>(∃v,e=.returned v)/\Mine RH CH B w0 (takeC s n tx).1 sp w':=by
 obtain⟨F,h1,h2,h3⟩:=h;refine(Kr W TR h1 ho (by omega) (ajA hB h3.size) (hG _ h3).2 n tx hn ht (ig _)).mono ?_;rintro e w2 ⟨he,D⟩;exact⟨⟨_,he⟩,Mine.step h2 h3 D⟩
theorem G7 (PR:oH G)(TR:oQ G2)(hB:B<=w.heap.size)(hG:U4 G G2 w) :
 Calls prog 7 #[] w λe w'=>∃sp,e=.returned (ptr sp)/\Mine RH CH B w tB8 sp w':=by
 have P0:=aj (ZO (RH:=RH) (CH:=CH) w hB);have P1:=aj (λ(w1:I) (h:Mine RH CH B w tB0 w.heap.size w1)=>MZ W PR hB hG ac8 tT0 (by decide) 65536 4096 h);have P2:=aj (λ(w1:I) (h:Mine RH CH B w tB1 w.heap.size w1)=>MZ W PR hB hG ac9 tT1 (by decide) 65536 4096 h);have P3:=aj (λ(w1:I) (h:Mine RH CH B w tB2 w.heap.size w1)=>MZ W PR hB hG ada tT2 (by decide) 65536 4096 h);have P4:=aj (λ(w1:I) (h:Mine RH CH B w tB3 w.heap.size w1)=>Rz W TR hB hG adb aO tU0 (by decide) (by decide) h);have P5:=aj (λ(w1:I) (h:Mine RH CH B w tB4 w.heap.size w1)=>Rz W TR hB hG ade GX tU1 (by decide) (by decide) h)
 have P6:=aj (λ(w1:I) (h:Mine RH CH B w tB5 w.heap.size w1)=>Rz W TR hB hG adf GX tU2 (by decide) (by decide) h);have P7:=aj (λ(w1:I) (h:Mine RH CH B w tB6 w.heap.size w1)=>Rz W TR hB hG adg GY tU3 (by decide) (by decide) h);have P8:=aj (λ(w1:I) (h:Mine RH CH B w tB7 w.heap.size w1)=>Rz W TR hB hG adh GY tU4 (by decide) (by decide) h);clear PR TR hB hG;go_enter func7,ntmps7;go_wp2_with fail;refine(ah P0).mono ?_;rintro e w0 ⟨rfl,h,b⟩;have Q:=aj (ah P1 w0 ⟨_,h,λk hk=>by omega,b⟩);clear P0 P1 h b;go_wp2_with fail;refine(ah Q).mono ?_
 rintro e w1 ⟨⟨v1,rfl⟩,h⟩;have Q':=aj (ah P2 w1 h);clear Q h P2;have Q:=Q';clear Q';go_wp2_with fail;refine(ah Q).mono ?_;rintro e w2 ⟨⟨v2,rfl⟩,h⟩;have Q':=aj (ah P3 w2 h);clear Q h P3;have Q:=Q';clear Q';go_wp2_with fail;refine(ah Q).mono ?_;rintro e w3 ⟨⟨v3,rfl⟩,h⟩;have Q':=aj (ah P4 w3 h);clear Q h P4;have Q:=Q';clear Q';go_wp2_with fail;refine(ah Q).mono ?_;rintro e w4 ⟨⟨v4,rfl⟩,h⟩;have Q':=aj (ah P5 w4 h);clear Q h P5;have Q:=Q';clear Q';go_wp2_with fail;refine(ah Q).mono ?_;rintro e w5 ⟨⟨v5,rfl⟩,h⟩;have Q':=aj (ah P6 w5 h);clear Q h P6;have Q:=Q'
 clear Q';go_wp2_with fail;refine(ah Q).mono ?_;rintro e w6 ⟨⟨v6,rfl⟩,h⟩;have Q':=aj (ah P7 w6 h);clear Q h P7;have Q:=Q';clear Q';go_wp2_with fail;refine(ah Q).mono ?_;rintro e w7 ⟨⟨v7,rfl⟩,h⟩;have Q':=aj (ah P8 w7 h);clear Q h P8;have Q:=Q';clear Q';go_wp2_with fail;refine(ah Q).mono ?_;rintro e w8 ⟨⟨v8,rfl⟩,h⟩;have HF:=aj h;clear Q h;go_wp2_with fail;go_ret;exact⟨_,rfl,ah HF⟩
theorem ZP {s:Sv}(h:qo RH CH B s sp w F)(ho:s.Ok N)(n:ad)(hn:n.size<=maxLen) :
 Calls prog 25 #[ptr sp,.string n] w λe w'=>e=.returned (aa (GR s n).1.length)/\ai w w':=by
 have P:=aj (ZL W h ho n hn);obtain⟨L,hL⟩:∃L,GR s n=L:=⟨_,rfl⟩;rw[hL] at P;rw[hL];clear h ho hn hL;go_enter func25,ntmps25;go_wp2_with fail;refine(ah P).mono ?_;rintro e w1 ⟨v,rfl,a1,b1⟩;obtain⟨av,cv,rfl,_,_,_⟩:=a1.shape;have HB:=aj b1;clear P a1 b1;go_wp2_with fail;go_ret;exact⟨rfl,ah HB⟩
end
section
variable {G:I->Prop}{G2:I->Prop}{SH:I->Nat->Nat->af->aH->Prop}{RH:I->Nat->Nat->af->Pn.aX->Int->Int->Str->Prop}{CH:I->Nat->Nat->af->bM->Prop}{B:Nat}{w w':I}{F:af}
def tXs:List Value:=[.string (tX 0),.string (tX 1),.string (tX 2)]
def tYs:List Value:=[.string (tN 0),.string (tM 0),.string (tN 1),.string (tM 1),.string (tN 2),.string (tM 2)]
theorem ag5 (h:i<3):tXs[i]?=some (.string (tX i)):=by
 match i,h with
 | 0,_=>rfl
 | 1,_=>rfl
 | 2,_=>rfl
theorem ag6 (h:i<3):tYs[i*2]?=some (.string (tN i))/\tYs[i*2+1]?=some (.string (tM i)):=by
 match i,h with
 | 0,_=>exact⟨rfl,rfl⟩
 | 1,_=>exact⟨rfl,rfl⟩
 | 2,_=>exact⟨rfl,rfl⟩
def uT (RH:I->Nat->Nat->af->Pn.aX->Int->Int->Str->Prop)(CH:I->Nat->Nat->af->bM->Prop)(B:Nat)(w:I)(s:Sv)(sp:Nat)(aG:List (Nat×List Value))(w':I):Prop:=∃F,qo RH CH B s sp w' F/\(∀k,F k->w.heap.size<=k)/\ai w w'/\∀p∈aG,¬F p.1/\CB w' p.1 p.2
theorem uT.mine {s:Sv}(h:uT RH CH B w0 s sp aG w):Mine RH CH B w0 s sp w:=by
 obtain⟨F,h1,h2,h3,_⟩:=h;exact⟨F,h1,h2,h3⟩
theorem uT.cb {s:Sv}{p:Nat×List Value}(h:uT RH CH B w0 s sp aG w)(hp:p∈aG):CB w p.1 p.2:=by
 obtain⟨F,_,_,_,h5⟩:=h;exact(h5 p hp).2
theorem uT.less {s:Sv}{cs:List (Nat×List Value)}(h:uT RH CH B w0 s sp aG w)(hs:∀p∈cs,p∈aG):uT RH CH B w0 s sp cs w:=by
 obtain⟨F,h1,h2,h3,h5⟩:=h;exact⟨F,h1,h2,h3,λp hp=>h5 p (hs p hp)⟩
theorem uT.open {s:Sv}(h:uT RH CH B w0 s sp aG w):∃F,qo RH CH B s sp w F/\w0.heap.size<=w.heap.size/\∀{s':Sv} {w'},Dd (qo RH CH B s' sp) w w' F->uT RH CH B w0 s' sp aG w':=by
 obtain⟨F,h1,h2,h3,h4⟩:=h;refine⟨F,h1,h3.size,λ{s' w'} ⟨F',g1,g2,g3⟩=>⟨F',g1,λk hk=>?_,h3.trans (g2.below h3.size (λk hk z=>by have:=h2 k z;omega)),λp hp=>⟨λz=>?_,(h4 p hp).2.aF g2 (h4 p hp).1⟩⟩⟩
 ·rcases g3 k hk with y|y
  ·exact h2 k y
  ·exact ajA h3.size y
 ·have:=(h4 p hp).2.lt;rcases g3 _ z with y|y
  ·exact(h4 p hp).1 y
  ·omega
variable (W:dS G SH RH CH)
include W
theorem uT.next {w0:I}{s:Sv}{sp:Nat}{aG:List (Nat×List Value)}(h:uT RH CH B w0 s sp aG w)(hb:ai w w'):uT RH CH B w0 s sp aG w':=by
 obtain⟨F,h1,h2,h3,h4⟩:=h;exact⟨F,(W.sv B s sp).next h1 hb,h2,ak h3 hb,λp hp=>⟨(h4 p hp).1,(h4 p hp).2.next hb⟩⟩
theorem uT.add {s:Sv}(h:uT RH CH B w0 s sp aG w)(hb:ai w w')(hg:CB w' w.heap.size cs):uT RH CH B w0 s sp ((w.heap.size,cs)::aG) w':=by
 obtain⟨F,h1,h2,h3,h4⟩:=h;refine⟨F,(W.sv B s sp).next h1 hb,h2,ak h3 hb,λp hp=>?_⟩;rcases akb.1 hp with z|z
 ·rw[z];exact⟨λz=>by have:=((W.sv B s sp).own h1 _ z).2;omega,hg⟩
 ·exact⟨(h4 p z).1,(h4 p z).2.next hb⟩
theorem Mine.boxed {s:Sv}(h:Mine RH CH B w0 s sp w)(hb:ai w w')(hg:CB w' w.heap.size cs):uT RH CH B w0 s sp [(w.heap.size,cs)] w':=by
 obtain⟨F,h1,h2,h3⟩:=h;exact uT.add W (aG:=[]) ⟨F,h1,h2,h3,λp hp=>by cases hp⟩ hb hg
theorem adA (hi:i<3)(h:uT RH CH B w0 (tP i) sp aG w) :
 Calls prog 8 #[ptr sp,BU (nH (tX i) ⟨#[100]⟩)] w λe w'=>(∃nm ag,e=.returned (.tuple #[.string nm,aa 1,.bool ag,aa 0]))/\uT RH CH B w0 (tP (i+1)) sp aG w':=by
 obtain⟨F1,h1,_,hf⟩:=h.open;refine(Rq W h1 (Xh i) (by omega) (nH (tX i) ⟨#[100]⟩) ⟨afx i,by show(⟨#[]⟩:ad).size<=_;decide,by show(⟨#[]⟩:ad).size<=_;decide,by show(⟨#[100]⟩:ad).size<=_;decide⟩).mono ?_;rintro e w2 ⟨he,D⟩;obtain⟨k1,k2⟩:=aiL i hi;refine⟨⟨(nT (tP i) (nH (tX i) ⟨#[100]⟩)).2.1,(nT (tP i) (nH (tX i) ⟨#[100]⟩)).2.2.2.1,?_⟩,hf D⟩;rw[he];unfold pbV;rw[k1,k2]
theorem Ku {s:Sv}(ho:s.Ok N)(h:Mine RH CH B w0 s sp w) :
 Calls prog 25 #[ptr sp,.string (tN i)] w λe w'=>e=.returned (aa (GR s (tN i)).1.length)/\Mine RH CH B w0 s sp w':=by
 obtain⟨F1,h1,h2,h3⟩:=id h;refine(ZP W h1 ho (tN i) (MW i)).mono ?_;rintro e w2 ⟨he,hb⟩;exact⟨he,Mine.next W h hb⟩
theorem ZQ (hi:i<3)(h:uT RH CH B w0 (tQ i) sp aG w) :
 Calls prog 11 #[ptr sp,.string (tN i),.string (tM i)] w λe w'=>(∃ds dd dc dn dl,e=.returned (.tuple #[NP ⟨1,ds,dd,dc,dn,dl⟩,aa 0]))/\∀w2 cs,ai w' w2->CB w2 w'.heap.size cs->uT RH CH B w0 (nD (tQ i) (tN i) (tM i)).1 sp ((w'.heap.size,cs)::aG) w2 /\
  Calls prog 12 #[ptr sp,.string (tN i),.string (tM i),aa 1,.agg #[aa 1,aa 0]] w2 λe w3=>e=.returned (aa 0)/\uT RH CH B w0 (tQ (i+1)) sp aG w3:=by
 obtain⟨F1,h1,_,hf⟩:=h.open;obtain⟨⟨k1,k2⟩,k3⟩:=aiM i hi;refine(U9 W h1 (Xi i) (by omega) (tN i) (tM i) (MW i) (Xj i)).mono ?_;rintro e w1 ⟨he,D⟩;refine⟨?_,λw2 cs hb hcs=>⟨uT.add W (hf D) hb hcs,?_⟩⟩
 ·obtain⟨⟨q,ds,dd,dc,dn,dl⟩,hd⟩:∃d,(nD (tQ i) (tN i) (tM i)).2.1=d:=⟨_,rfl⟩;rw[hd] at he k2;simp only at k2;subst k2;exact⟨ds,dd,dc,dn,dl,by rw[he,k1]⟩
 ·obtain⟨F2,g1,_,gf⟩:=(uT.next W (hf D) hb).open;refine(adv W g1 ((Xi i).next _ _) (by omega) (tN i) (tM i) (MW i) (Xj i) 1 1 0).mono ?_;rintro e w3 ⟨he,D3⟩;exact⟨by rw[he,k3],gf D3⟩
theorem adB (PR:oH G)(TR:oQ G2)(w:I)(hG:U4 G G2 w) :
 Calls prog 6 #[] w λe w'=>e=.returned (.bool true)/\ai w w':=by
 obtain⟨B,hB⟩:∃B,B=w.heap.size:=⟨_,rfl⟩;have P1:=aj (G7 W (B:=B) PR TR (Nat.le_of_eq hB) hG);have R1:=aj (λ(i sp:Nat) (aG:List (Nat×List Value)) (w1:I) (hi:i<3) (h:uT RH CH B w (tP i) sp aG w1)=>adA W hi h);have R2:=aj (λ(sp i:Nat) (w1:I) (h:Mine RH CH B w (tP 3) sp w1)=>Ku W (i:=i) (Xh 3) h);have R3:=aj (λ(i sp:Nat) (aG:List (Nat×List Value)) (w1:I) (hi:i<3) (h:uT RH CH B w (tQ i) sp aG w1)=>ZQ W hi h);have R4:=aj (λ(sp i:Nat) (w1:I) (h:Mine RH CH B w (tQ 3) sp w1)=>Ku W (i:=i) (Xi 3) h);have N1:=aj (λ(s:Sv) (sp:Nat) (aG:List (Nat×List Value)) (w1 w2:I) (h:uT RH CH B w s sp aG w1) (hb:ai w1 w2)=>uT.next W h hb)
 have N3:=aj (λ(s:Sv) (sp:Nat) (aG:List (Nat×List Value)) (cs:List Value) (w1 w2:I) (h:uT RH CH B w s sp aG w1) (hb:ai w1 w2) (hg:CB w2 w1.heap.size cs)=>uT.add W h hb hg);have N2:=aj (λ(s:Sv) (sp:Nat) (cs:List Value) (w1 w2:I) (h:Mine RH CH B w s sp w1) (hb:ai w1 w2) (hg:CB w2 w1.heap.size cs)=>Mine.boxed W h hb hg);have PP:=aj (λn w=>Kt n ⟨#[100]⟩ w);clear hG PR TR hB;go_enter func6,ntmps6;go_wp2_with fail;refine(ah P1).mono ?_;rintro e w1 ⟨sp,rfl,h1⟩;have bA:ai w1 (w1.alloc (.cells #[.string (tX 0),.string (tX 1),.string (tX 2)] 9)):=ax _ _
 have HP:Hid (uT RH CH B w (tP 0) sp [(w1.heap.size,tXs)] (w1.alloc (.cells #[.string (tX 0),.string (tX 1),.string (tX 2)] 9))):=aj (ah N2 _ _ _ _ _ h1 bA (CB.new w1 tXs _));have HX:Hid (∀i,i<3->tXs[i]?=some (.string (tX i))):=aj (λi h=>ag5 h);clear P1 h1 bA;go_wp2_with fail;go_loopw [15] (λiv wr=>∃i:Nat,iv=aa i/\i<=3/\Hid (uT RH CH B w (tP i) sp [(w1.heap.size,tXs)] wr)) (λiv _=>3-(intOf iv).toNat)
 case atStart=>exact⟨0,rfl,ajO _,HP⟩
 case round =>
  clear HP;obtain⟨i,rfl,hi,HP⟩:=hrel;by_cases hlt:i<3
  ·have hb:=(ah HP).cb (ajP ..);have c0:=hb.cell i _ (ah HX i hlt);have hlb:=hb.lt;have R1':=aj (λ(w2:I) (b:ai wr w2)=>ah R1 i sp _ w2 hlt (ah N1 _ _ _ _ _ (ah HP) b));clear hb HP R1 R2 R3 R4 N1 N2 HX;go_wp2_with fail;refine(ah PP _ _).mono ?_;rintro e w2 ⟨rfl,b2⟩;have Q:=aj (ah R1' w2 b2);clear R1' b2 PP;go_wp2_with fail;refine(ah Q).mono ?_;rintro e w3 ⟨⟨nm,ag,rfl⟩,h3⟩;have H3:=aj h3;clear Q h3 c0;go_wp2_with fail;refine⟨⟨i+1,by go_num,by omega,H3⟩,?_⟩;simp[intOf];omega
  ·obtain rfl:i=3:=by omega
   have hm:=(ah HP).mine;have Q:=aj (ah R2 sp 0 wr hm);have k0:=agQ 0 (by omega);have k1:=agQ 1 (by omega);have k2:=agQ 2 (by omega);rw[k0] at Q;clear HP hm R1 HX k0;go_wp2_with fail;refine(ah Q).mono ?_;rintro e w2 ⟨rfl,h2⟩;have Q':=aj (ah R2 sp 1 w2 h2);rw[k1] at Q';clear Q h2 k1;go_wp2_with fail;refine(ah Q').mono ?_;rintro e w3 ⟨rfl,h3⟩;have Q:=aj (ah R2 sp 2 w3 h3);rw[k2] at Q;clear Q' h3 k2 R2;go_wp2_with fail;refine(ah Q).mono ?_;rintro e w4 ⟨rfl,h4⟩;have bA:ai w4 (w4.alloc (.cells #[.string (tN 0),.string (tM 0),.string (tN 1),.string (tM 1),.string (tN 2),.string (tM 2)] 64)):=ax _ _
   have HP:Hid (uT RH CH B w (tQ 0) sp [(w4.heap.size,tYs)] (w4.alloc (.cells #[.string (tN 0),.string (tM 0),.string (tN 1),.string (tM 1),.string (tN 2),.string (tM 2)] 64))):=aj (ah N2 _ _ _ _ _ h4 bA (CB.new w4 tYs _));have HY:Hid (∀i,i<3->tYs[i*2]?=some (.string (tN i))/\tYs[i*2+1]?=some (.string (tM i))):=aj (λi h=>ag6 h);clear Q h4 bA N2;go_wp2_with fail;go_loopw [53] (λiv wr=>∃i:Nat,iv=aa i/\i<=3/\Hid (uT RH CH B w (tQ i) sp [(w4.heap.size,tYs)] wr)) (λiv _=>3-(intOf iv).toNat)
   case atStart=>exact⟨0,rfl,ajO _,HP⟩
   case round =>
    clear HP;obtain⟨i,rfl,hi,HP⟩:=hrel;by_cases hlt:i<3
    ·have hb:=(ah HP).cb (ajP ..);have c0:=hb.cell _ _ (ah HY i hlt).1;have c1:=hb.cell _ _ (ah HY i hlt).2;have hlb:=hb.lt;obtain⟨W5,Dj⟩:∃W5,W5=wr.alloc (.cells #[.string (tN i),.string (tM i)] 64):=⟨_,rfl⟩;have b5:ai wr W5:=by rw[Dj];exact ax _ _
     have r5:CB W5 wr.heap.size [.string (tN i),.string (tM i)]:=by rw[Dj];exact CB.new wr [.string (tN i),.string (tM i)] _
     have Q:=aj (ah R3 i sp _ W5 hlt (ah N3 _ _ _ _ _ _ (ah HP) b5 r5));have d0:=r5.cell 0 _ rfl;have d1:=r5.cell 1 _ rfl;clear hb HP R3 R4 N1 N3 HY b5 r5;go_upto_region 14 with fail
     rw[show wr.alloc (.cells #[.string (tN i),.string (tM i)] 64)=W5 from Dj.symm];clear Dj c0 c1;go_wp2_with fail;refine(ah Q).mono ?_;rintro e w6 ⟨⟨ds,dd,dc,dn,dl,rfl⟩,h6⟩;obtain⟨W7,hW7⟩:∃W7,W7=w6.alloc (.cells #[aa 1,.string ds,.string dd,aa dc,aa dn,aa dl] 35):=⟨_,rfl⟩;have b7:ai w6 W7:=by rw[hW7];exact ax _ _
     have r7:CB W7 w6.heap.size [aa 1,.string ds,.string dd,aa dc,aa dn,aa dl]:=by rw[hW7];exact CB.new w6 [aa 1,.string ds,.string dd,aa dc,aa dn,aa dl] _
     obtain⟨h7,hA⟩:=h6 W7 _ b7 r7;have QA:=aj hA;have y0:=r7.cell 0 _ rfl;have rb:=h7.cb (p:=(wr.heap.size,[.string (tN i),.string (tM i)])) (by simp);have z0:=rb.cell 0 _ rfl;have z1:=rb.cell 1 _ rfl;clear Q h6 b7 r7 h7 hA rb d0 d1;go_upto_region 15 with fail
     rw[show w6.alloc (.cells #[aa 1,.string ds,.string dd,aa dc,aa dn,aa dl] 35)=W7 from hW7.symm];clear hW7;go_wp2_with fail;refine(ah QA).mono ?_;rintro e w8 ⟨rfl,h8⟩;have H8:=aj (h8.less (cs:=[(w4.heap.size,tYs)]) (λp hp=>by rw[akd] at hp;rw[hp];simp));clear QA h8 y0 z0 z1;go_wp2_with fail;refine⟨⟨i+1,by go_num,by omega,H8⟩,?_⟩;simp[intOf];omega
    ·obtain rfl:i=3:=by omega
     have hm:=(ah HP).mine;have Q:=aj (ah R4 sp 0 _ hm);have k0:=agR 0 (by omega);have k1:=agR 1 (by omega);have k2:=agR 2 (by omega);rw[k0] at Q;clear HP hm R3 HY k0;go_wp2_with fail;refine(ah Q).mono ?_;rintro e w2 ⟨rfl,h2⟩;have Q':=aj (ah R4 sp 1 w2 h2);rw[k1] at Q';clear Q h2 k1;go_wp2_with fail;refine(ah Q').mono ?_;rintro e w3 ⟨rfl,h3⟩;have Q:=aj (ah R4 sp 2 w3 h3);rw[k2] at Q;clear Q' h3 k2 R4;go_wp2_with fail;refine(ah Q).mono ?_;rintro e w4 ⟨rfl,_,_,_,b4⟩;have B4:=aj b4;clear Q b4;go_wp2_with fail;go_ret;exact⟨rfl,ah B4⟩
end
def Sv.part (s:Sv)(g:Sr->Sr)(left:ad->Bool):Sv:=⟨s.l.map λx=>if left x.nm=true then x else g x,s.t⟩
section
variable {G:I->Prop}{SH:I->Nat->Nat->af->aH->Prop}{RH:I->Nat->Nat->af->Pn.aX->Int->Int->Str->Prop}{CH:I->Nat->Nat->af->bM->Prop}{B:Nat}{w w':I}{F:af}
variable (W:dS G SH RH CH)
include W
def Turn (RH:I->Nat->Nat->af->Pn.aX->Int->Int->Str->Prop)(CH:I->Nat->Nat->af->bM->Prop)(B:Nat)(s:Sv)(g:Sr->Sr)(sp:Nat)(mb:Option Nat)(r:Nat)(w:I)(F:af)(left:ad->Bool)(wr:I):Prop :=
 ∃F',qo RH CH B (s.part g left) sp wr F'/\aA F w wr/\(∀k,F' k->F k\/w.heap.size<=k)/\wr.cell? (aq sp 0)=some (.map mb)/\¬F' r/\sp<wr.heap.size/\r<wr.heap.size
end
section
variable {G:I->Prop}{SH:I->Nat->Nat->af->aH->Prop}{RH:I->Nat->Nat->af->Pn.aX->Int->Int->Str->Prop}{CH:I->Nat->Nat->af->bM->Prop}{B:Nat}{w w':I}{F:af}
def RD (CH:I->Nat->Nat->af->bM->Prop)(B:Nat)(c:Nat)(K:Nat->Mb->Prop)(w:I)(F:af)(R:Mb×List mM)(rest:Mb->Mb×List mM)(i:Nat)(v:Value)(wr:I):Prop :=
 ∃y tl F',yg CH B y c wr F'/\aA F w wr/\(∀k,F' k->F k\/w.heap.size<=k)/\K i y/\fJ wr w.heap.size v tl/\(∀g,v.ownBlock=some g->¬F' g)/\tl.length=i/\R=((rest y).1,tl++(rest y).2)
variable (W:dS G SH RH CH)
include W
theorem RD.more {c i:Nat}{K:Nat->Mb->Prop}{R:Mb×List mM}{rest':Mb->Mb×List mM}{y2:Mb}{tl:List mM}{F':af}{v:Value}{wr w1:I}{d:mM}(h2:aA F w wr)(h3:∀k,F' k->F k\/w.heap.size<=k)(h5:fJ wr w.heap.size v tl)(h6:∀g,v.ownBlock=some g->¬F' g)(h7:tl.length=i)(hi:i<=1000)
 (D:Dd (yg CH B y2 c) wr w1 F') (hok:K (i+1) y2) (hR:R=((rest' y2).1,tl++d::(rest' y2).2)) :
 ∃v' w4,(Builtin.append_ #[54,54] 54 #[v,.slice (some ⟨w1.heap.size+1,0,none⟩) 1 1]).run prog ((w1.alloc (.cells #[aa d.q,.string d.s,.string d.d,aa d.c,aa d.n,aa d.l] 35)).alloc (.cells #[aa d.q,.string d.s,.string d.d,aa d.c,aa d.n,aa d.l] 35))=.ok v' w4/\RD CH B c K w F R rest' (i+1) v' w4:=by
 obtain⟨F2,g1,g2,g3⟩:=D;obtain⟨Wa,hWa⟩:∃Wa,Wa=w1.alloc (.cells #[aa d.q,.string d.s,.string d.d,aa d.c,aa d.n,aa d.l] 35):=⟨_,rfl⟩;have ba:ai w1 Wa:=by rw[hWa];exact ax _ _
 have ea:Wa.heap.size=w1.heap.size+1:=by rw[hWa];simp
 obtain⟨Wb,hWb⟩:∃Wb,Wb=Wa.alloc (.cells #[aa d.q,.string d.s,.string d.d,aa d.c,aa d.n,aa d.l] 35):=⟨_,rfl⟩;have bb:ai Wa Wb:=by rw[hWb];exact ax _ _
 have b1b:=ak ba bb;have h5':fJ Wb w.heap.size v tl:=(h5.aF g2 (λg hg z=>h6 g hg z)).below b1b;have hge:w.heap.size<=Wb.heap.size:=ajA h2.size (ajA g2.size b1b.size);obtain⟨v',w4,hr,k1,k2,k3⟩:=I5 Wb w.heap.size 54 v tl [d] h5' ⟨w1.heap.size+1,0,none⟩ 1 (by rw[hWb,<-ea];exact aaR Wa d) (by simp;omega) hge;have hown:∀g,v.ownBlock=some g->w.heap.size<=g/\g<Wb.heap.size:=λg hg=>aks h5' g hg
 have adC:∀g,v.ownBlock=some g->¬F2 g:=λg hg z=>by
  have hgl:=(aks h5 g hg).2;rcases g3 g z with q|q
  ·exact h6 g hg q
  ·omega
 have hb1:=b1b.size;rw[hWa] at hWb;rw[<-hWb];have hmb:=(W.mb B y2 c).aF ((W.mb B y2 c).next g1 b1b) k2 (λk hk z=>adC k z hk);have hsz:=k2.size;have ag7:=λk hk=>((W.mb B y2 c).own g1 k hk).2
 refine⟨v',w4,hr,y2,tl++[d],F2,hmb,((h2.more g2 (λk hk z=>?_)).trans (aA.of_below b1b)).more k2 (λk hk z=>?_),λk hk=>?_,hok,k1,λg hg z=>?_,by simp;omega,by rw[hR];simp⟩
 ·rcases h3 k z with q|q
  ·exact q
  ·omega
 ·have:=(hown k z).1;omega
 ·rcases g3 k hk with q|q
  ·exact h3 k q
  ·exact .inr (ajA h2.size q)
 ·rcases k3 g hg with q|q
  ·exact adC g q z
  ·have:=ag7 g z;omega
def lenOf:Value->Nat
 | .slice _ n _=>n
 | _=>0
omit W in
theorem RD.len {c:Nat}{R:Mb×List mM}{rest:Mb->Mb×List mM}{wr:I}(h:RD CH B c K w F R rest i v wr):lenOf v=i:=by
 obtain⟨_,tl,_,_,_,_,_,h5,_,h7,_⟩:=h;obtain⟨a,cap,e,_⟩:=h5.shape;rw[e,<-h7];rfl
def Told (CH:I->Nat->Nat->af->bM->Prop)(B:Nat)(c:Nat)(w:I)(F:af)(R:Mb×List mM)(v:Value)(w':I):Prop :=
 ∃F',fJ w' w.heap.size v R.2/\yg CH B R.1 c w' F'/\aA F w w'/\(∀k,F' k->F k\/w.heap.size<=k)/\∀g,v.ownBlock=some g->¬F' g
def sG (l:List Rc)(now:Int)(k:Nat)(y:Mb):Mb×List mM:=(⟨(nG l now k y.c).1,y.q⟩,(nG l now k y.c).2)
theorem Told.end {c:Nat}{R:Mb×List mM}{wr:I}(h2:aA F w wr)(h3:∀k,F' k->F k\/w.heap.size<=k)(h5:fJ wr w.heap.size v tl)(h6:∀g,v.ownBlock=some g->¬F' g)
 (D:Dd (yg CH B y2 c) wr w1 F') (hb:ai w1 w2) (hR:R=(y2,tl)):Told CH B c w F R v w2:=by
 obtain⟨F2,g1,g2,g3⟩:=D;subst hR;refine⟨F2,(h5.aF g2 (λg hg z=>h6 g hg z)).below hb,(W.mb B y2 c).next g1 hb,(h2.more g2 (λk hk z=>?_)).trans (aA.of_below hb),λk hk=>?_,λg hg z=>?_⟩
 ·rcases h3 k z with q|q
  ·exact q
  ·omega
 ·rcases g3 k hk with q|q
  ·exact h3 k q
  ·exact .inr (ajA h2.size q)
 ·have hgl:=(aks h5 g hg).2;rcases g3 g z with q|q
  ·exact h6 g hg q
  ·omega
theorem ZR {c:Nat}(h:yg CH B y c w F)(hy:y.Ok N)(hN:N+200<=100000){F0:af}{st:aH}(hs:SH w Bs q F0 st)(hst:st.Ok)(hBs:Bs<=w.heap.size)(hd:∀k,F0 k->¬F k)(now:Int) :
 Calls prog 44 #[ptr c,ptr q,aa now] w λe w'=>∃v,e=.returned v/\Told CH B c w F (sG st.l now 200 y) v w':=by
 obtain⟨R,hR⟩:∃R,sG st.l now 200 y=R:=⟨_,rfl⟩;rw[hR];have Yf:=λk hk=>(W.S.own hs k hk).2
 have HP:Hid (RD CH B c (λi y=>y.Ok (N+i)) w F R (sG st.l now 200) 0 (.slice none 0 0) w):=aj ⟨y,[],F,h,aA.refl _ _,λ_ z=>.inl z,hy,fJ.empty _ _,λg hg=>by simp[Value.ownBlock] at hg,rfl,by rw[List.nil_append,hR]⟩;-- one round,ahead of the walk
 have HRd:Hid (∀(i:Nat) (v:Value) (wr:I),i<200->RD CH B c (λi y=>y.Ok (N+i)) w F R (sG st.l now (200-i)) i v wr->∃p E d,wr.cell? (aq c 0)=some (ptr p)/\Calls prog 33 #[ptr p,ptr q,aa now] wr λe w1=>e=.returned (.tuple #[NP d,aa E]) /\
  (E≠0->∀w2,ai w1 w2->Told CH B c w F R v w2) /\
  (E=0->∃v' w4,(Builtin.append_ #[54,54] 54 #[v,.slice (some ⟨w1.heap.size+1,0,none⟩) 1 1]).run prog ((w1.alloc (.cells #[aa d.q,.string d.s,.string d.d,aa d.c,aa d.n,aa d.l] 35)).alloc (.cells #[aa d.q,.string d.s,.string d.d,aa d.c,aa d.n,aa d.l] 35))=.ok v' w4/\RD CH B c (λi y=>y.Ok (N+i)) w F R (sG st.l now (200-(i+1))) (i+1) v' w4)):=aj (λi v wr hi hp=>by
  obtain⟨y1,tl,F',h1,h2,h3,h4,h5,h6,h7,h8⟩:=hp;have h4:y1.Ok (N+i):=h4;obtain⟨p,_,c0,_,_,hcd,_⟩:=W.G6 h1;have hsr:SH wr Bs q F0 st:=W.S.aF hs h2 hd;have hdis:∀k,F0 k->¬F' k:=λk hk z=>by
   rcases h3 k z with y|y
   ·exact hd k hk y
   ·have:=Yf k hk;omega
  refine⟨p,(aK y1.c st.l now).2.2,oW (aK y1.c st.l now).1 st.l (aK y1.c st.l now).2.1,c0,(hcd (agP _ _) (Q:=λe=>e=.returned (.tuple #[NP (oW (aK y1.c st.l now).1 st.l (aK y1.c st.l now).2.1),aa (aK y1.c st.l now).2.2])) (c':=(aK y1.c st.l now).1) (λB' G' hch hb hsub=>W.C.next hch h4.go (by omega) hsr hst hb (ajA hBs h2.size) (λk hk z=>hdis k hk (hsub k z)) now)).mono ?_⟩;rintro e w1 ⟨he,D,_⟩;have ah1:200-i=(200-(i+1))+1:=by omega
  refine⟨he,λhE w2 hb=>?_,λhE=>?_⟩
  ·refine Told.end W h2 h3 h5 h6 D hb ?_;rw[h8,ah1];unfold sG nG;rw[if_pos hE];simp
  ·refine RD.more W (y2:=⟨(aK y1.c st.l now).1,y1.q⟩) (rest':=sG st.l now (200-(i+1))) h2 h3 h5 h6 h7 (by omega) D ?_ ?_
   ·exact(⟨(h4.go.next hst now).more (by omega),h4.MV⟩:(⟨(aK y1.c st.l now).1,y1.q⟩:Mb).Ok (N+(i+1)))
   ·rw[h8,ah1];unfold sG;rw[nG,if_neg (by rw[hE];simp)])
 have gQ:Hid (∀(v:Value) (wr w2:I),RD CH B c (λi y=>y.Ok (N+i)) w F R (sG st.l now 0) 200 v wr->ai wr w2->Told CH B c w F R v w2):=aj (λv wr w2 hp hb=>by
  obtain⟨y1,tl,F',h1,h2,h3,h4,h5,h6,h7,h8⟩:=hp;exact Told.end W h2 h3 h5 h6 ((W.mb B y1 c).same h1 (agP _ _)) hb (by rw[h8];simp[sG,nG]))
 clear h hy hs hst hBs hd hR Yf;go_enter func44,ntmps44;go_wp2_with fail;go_loopw [7,10] (λv iv wr=>∃i:Nat,iv=aa i/\i<=200/\Hid (RD CH B c (λi y=>y.Ok (N+i)) w F R (sG st.l now (200-i)) i v wr)) (λ_ iv _=>200-(intOf iv).toNat)
 case atStart=>exact⟨0,rfl,ajO _,HP⟩
 case round =>
  clear HP;obtain⟨i,rfl,hi,HPs⟩:=hrel;by_cases hlt:i<200
  ·obtain⟨p,E,d,c0,hc⟩:=ah HRd i _ _ hlt (ah HPs);have PN:=aj hc;have hlt':(i:Int)<200:=by omega
   clear hc HRd gQ HPs;by_cases hE:E≠0
   ·have hE':(E==0)=false:=by simpa using hE
    go_wp2_with fail;refine(ah PN).mono ?_;rintro e w1 ⟨rfl,hb,_⟩;have HT:=aj (hb hE _ ((agP _ _).alloc (agH _) (.cells #[aa d.q,.string d.s,.string d.d,aa d.c,aa d.n,aa d.l] 35)));clear PN hb c0;go_wp2_with fail;go_ret;exact⟨_,rfl,ah HT⟩
   ·have hE:E=0:=Classical.not_not.1 hE;subst hE;go_wp2_with fail;refine(ah PN).mono ?_;rintro e w1 ⟨rfl,_,hg⟩;obtain⟨v',w4,hr,hp⟩:=hg (by first|rfl|trivial);have HP4:=aj hp;have qO:=aj hr;clear PN hg c0 hp hr;go_wp2_with (at_builtin;refine akA _ rfl _ _ _ _ rfl _ _ rfl rfl _ _ (ah qO) ?_);refine⟨⟨i+1,by go_num,by omega,HP4⟩,?_⟩;simp[intOf];omega
  ·obtain rfl:i=200:=by omega
   have HT:=aj (ah gQ _ _ _ (ah HPs) (agP _ _));clear HRd gQ HPs;go_wp2_with fail;go_ret;exact⟨_,rfl,ah HT⟩
end
def yh (l:List dD):Nat:=(l.map λp=>p.b.toNat).sum
theorem G8 (f:dD->Bool):∀l:List dD,yh (l.filter f)<=yh l
 | []=>agH _
 | p::r=>by
  have:=G8 f r;unfold yh at *;rw[ang];split
  ·simp only[akw,alF];omega
  ·simp only[akw,alF];omega
theorem adD {l:List dD}(h:∀p∈l,1<=p.b/\p.b<=50):yh l<=l.length*50:=by
 induction l with
 | nil=>exact agH _
 | cons p r ih =>
  have:=ih (λx hx=>h x (ajS _ hx));have:=h p (ajP ..);unfold yh at *;simp only[akw,alF,ajX];omega
theorem adE {l:List dD}{now:Int}(h:yO l)(hw:0<xA now l):yh (ug now (Hy now l))+1<=yh l:=by
 unfold xA at hw;split at hw
 ·rename_i ht;unfold ug Hy;rw[if_pos ht,if_pos ht];have hk:bZ now (bZ now l)=bZ now l:=by unfold bZ;rw[List.filter_filter];simp
  rw[hk];have hle:=G8 (λp=>!KT now p) l;have hq:=h.keep now;show yh (qB (bZ now l))+1<=_;have hle:yh (bZ now l)<=yh l:=hle
  cases e:bZ now l with
  | nil=>rw[e] at hw;simp at hw
  | cons p r =>
   rw[e] at hle hq;have h1:=hq.one p (by simp);show yh (if p.b-1=0 then r else ⟨p.b-1,p.t,p.nw⟩::r)+1<=_;unfold yh at *;simp only[akw,alF] at hle;split
   ·omega
   ·simp only[akw,alF];omega
 ·omega
section
variable {G:I->Prop}{SH:I->Nat->Nat->af->aH->Prop}{RH:I->Nat->Nat->af->Pn.aX->Int->Int->Str->Prop}{CH:I->Nat->Nat->af->bM->Prop}{B:Nat}{w w':I}{F:af}
variable (W:dS G SH RH CH)
include W
theorem RD.more1 {c:Nat}{R:Mb×List mM}{rest':Mb->Mb×List mM}{wr:I}{d:mM}(h2:aA F w wr)(h3:∀k,F' k->F k\/w.heap.size<=k)(h5:fJ wr w.heap.size v tl)(h6:∀g,v.ownBlock=some g->¬F' g)(h7:tl.length=i)(hi:i<=1000)
 (D:Dd (yg CH B y2 c) wr w1 F') (hok:K (i+1) y2) (hR:R=((rest' y2).1,tl++d::(rest' y2).2)) :
 ∃v' w4,(Builtin.append_ #[54,54] 54 #[v,.slice (some ⟨w1.heap.size,0,none⟩) 1 1]).run prog (w1.alloc (.cells #[aa d.q,.string d.s,.string d.d,aa d.c,aa d.n,aa d.l] 35))=.ok v' w4/\RD CH B c K w F R rest' (i+1) v' w4:=by
 obtain⟨F2,g1,g2,g3⟩:=D;obtain⟨Wb,hWb⟩:∃Wb,Wb=w1.alloc (.cells #[aa d.q,.string d.s,.string d.d,aa d.c,aa d.n,aa d.l] 35):=⟨_,rfl⟩;have b1b:ai w1 Wb:=by rw[hWb];exact ax _ _
 have h5':fJ Wb w.heap.size v tl:=(h5.aF g2 (λg hg z=>h6 g hg z)).below b1b;have hge:w.heap.size<=Wb.heap.size:=ajA h2.size (ajA g2.size b1b.size);obtain⟨v',w4,hr,k1,k2,k3⟩:=I5 Wb w.heap.size 54 v tl [d] h5' ⟨w1.heap.size,0,none⟩ 1 (by rw[hWb];exact aaR w1 d) (by simp;omega) hge;have hown:∀g,v.ownBlock=some g->w.heap.size<=g/\g<Wb.heap.size:=λg hg=>aks h5' g hg
 have adC:∀g,v.ownBlock=some g->¬F2 g:=λg hg z=>by
  have hgl:=(aks h5 g hg).2;rcases g3 g z with q|q
  ·exact h6 g hg q
  ·omega
 have hb1:=b1b.size;rw[<-hWb];have hmb:=(W.mb B y2 c).aF ((W.mb B y2 c).next g1 b1b) k2 (λk hk z=>adC k z hk);have hsz:=k2.size;have ag7:=λk hk=>((W.mb B y2 c).own g1 k hk).2
 refine⟨v',w4,hr,y2,tl++[d],F2,hmb,((h2.more g2 (λk hk z=>?_)).trans (aA.of_below b1b)).more k2 (λk hk z=>?_),λk hk=>?_,hok,k1,λg hg z=>?_,by simp;omega,by rw[hR];simp⟩
 ·rcases h3 k z with q|q
  ·exact q
  ·omega
 ·have:=(hown k z).1;omega
 ·rcases g3 k hk with q|q
  ·exact h3 k q
  ·exact .inr (ajA h2.size q)
 ·rcases k3 g hg with q|q
  ·exact adC g q z
  ·have:=ag7 g z;omega
theorem Vb {c:Nat}(h:yg CH B y c w F)(hy:y.Ok N)(now:Int) :
 Calls prog 83 #[ptr c,aa now] w λe w'=>e=.returned (.bool (decide (0<xA now y.q)))/\Dd (yg CH B ⟨y.c,Hy now y.q⟩ c) w w' F/\aA (λk=>F k/\k≠c) w w':=by
 obtain⟨p,q,_,c1,hl,_,hqd⟩:=W.G6 h;obtain⟨M,hM⟩:∃M,xA now y.q=M:=⟨_,rfl⟩;have PW:=aj (hqd (agP _ _) (Q:=λe=>e=.returned (.tuple #[aa (xA now y.q),aa (RG now)])) (l:=Hy now y.q) (λB' v hk=>XI hk hy.MV.few now));rw[hM] at PW;rw[hM];clear h hy hqd hM;go_enter func83,ntmps83;go_wp2_with fail;refine(ah PW).mono ?_;rintro e w1 ⟨rfl,D,hc⟩;have HF:=aj (And.intro D hc);clear D hc PW;go_wp2_with fail;go_ret;exact⟨rfl,ah HF⟩
theorem Vd {c:Nat}(h:yg CH B y c w F)(hy:y.Ok N)(hN:N+501<=100000){F0:af}{st:aH}(hs:SH w Bs q F0 st)(hst:st.Ok)(hBs:Bs<=w.heap.size)(hd:∀k,F0 k->¬F k)(now:Int) :
 Calls prog 45 #[ptr c,ptr q,aa now] w λe w'=>∃v,e=.returned v/\Told CH B c w F (jM st.l now 501 y) v w':=by
 obtain⟨R,hR⟩:∃R,jM st.l now 501 y=R:=⟨_,rfl⟩;rw[hR];have Yf:=λk hk=>(W.S.own hs k hk).2
 obtain⟨K,hK⟩:∃K:Nat->Mb->Prop,K=λi y=>y.Ok (N+i)/\yh y.q+i<=500:=⟨_,rfl⟩
 have HP:Hid (RD CH B c K w F R (jM st.l now 501) 0 (.slice none 0 0) w):=aj ⟨y,[],F,h,aA.refl _ _,λ_ z=>.inl z,by rw[hK];exact⟨hy,by have:=adD hy.MV.one;have:=hy.MV.few;omega⟩,fJ.empty _ _,λg hg=>by simp[Value.ownBlock] at hg,rfl,by rw[List.nil_append,hR]⟩;have HRd:Hid (∀(i:Nat) (v:Value) (wr:I),RD CH B c K w F R (jM st.l now (501-i)) i v wr->i<=500/\∃M:Int,Calls prog 83 #[ptr c,aa now] wr λe w0=>e=.returned (.bool (decide (0<M))) /\
  (M<=0->∀w2,ai w0 w2->Told CH B c w F R v w2) /\
  (0<M->i<500/\∃p p2 E d,w0.cell? (aq c 0)=some (ptr p)/\Calls prog 33 #[ptr p,ptr q,aa now] w0 λe w1=>e=.returned (.tuple #[NP d,aa E])/\∀Wa,Wa=w1.alloc (.cells #[aa d.q,.string d.s,.string d.d,aa d.c,aa d.n,aa d.l] 35)->Wa.cell? (aq c 1)=some (ptr p2) /\
   (E≠0->Calls prog 84 #[ptr p2,aa now] Wa λe w2=>(∃x,e=.returned x)/\Told CH B c w F R v w2) /\
   (E=0->Calls prog 85 #[ptr p2,aa now] Wa λe w2=>(∃x,e=.returned x)/\(∀j u,(sH d)[j]?=some u->w2.cell? (aq w1.heap.size j)=some u) /\
    ∃v' w4,(Builtin.append_ #[54,54] 54 #[v,.slice (some ⟨w2.heap.size,0,none⟩) 1 1]).run prog (w2.alloc (.cells #[aa d.q,.string d.s,.string d.d,aa d.c,aa d.n,aa d.l] 35))=.ok v' w4/\RD CH B c K w F R (jM st.l now (501-(i+1))) (i+1) v' w4))):=aj (λi v wr hp=>by
  obtain⟨y1,tl,F',h1,h2,h3,h4,h5,h6,h7,h8⟩:=hp;rw[hK] at h4;obtain⟨h4,h4t⟩:y1.Ok (N+i)/\yh y1.q+i<=500:=h4;have ag8:501-i=(501-(i+1))+1:=by omega
  refine⟨by omega,xA now y1.q,(Vb W h1 h4 now).mono ?_⟩;rintro e w0 ⟨he,D0,hc0⟩;refine⟨he,λhM w2 hb=>?_,λhM=>?_⟩
  ·refine Told.end W h2 h3 h5 h6 D0 hb ?_;rw[h8,ag8,jM,if_pos hM];simp
  ·have htk:=adE h4.MV hM;refine⟨by omega,?_⟩;obtain⟨F2,g1,g2,g3⟩:=id D0;obtain⟨p,p2,c0,c1,hcl,hcd,hqd⟩:=W.G6 g1;have hsr:SH w0 Bs q F0 st:=W.S.aF (W.S.aF hs h2 hd) g2 (λk hk z=>by
    rcases h3 k z with y|y
    ·exact hd k hk y
    ·have:=Yf k hk;omega)
   have hdis:∀k,F0 k->¬F2 k:=λk hk z=>by
    have:=Yf k hk;have:=h2.size;rcases g3 k z with y|y
    ·rcases h3 k y with y|y
     ·exact hd k hk y
     ·omega
    ·omega
   refine⟨p,p2,(aK y1.c st.l now).2.2,oW (aK y1.c st.l now).1 st.l (aK y1.c st.l now).2.1,c0,(hcd (agP _ _) (Q:=λe=>e=.returned (.tuple #[NP (oW (aK y1.c st.l now).1 st.l (aK y1.c st.l now).2.1),aa (aK y1.c st.l now).2.2])) (c':=(aK y1.c st.l now).1) (λB' G' hch hb hsub=>W.C.next hch h4.go (by omega) hsr hst hb (ajA hBs (ajA h2.size g2.size)) (λk hk z=>hdis k hk (hsub k z)) now)).mono ?_⟩;rintro e w1 ⟨he,D1,hc1⟩;refine⟨he,λWa hWa=>?_⟩;have ba:ai w1 Wa:=by rw[hWa];exact ax _ _
   have rca:CB Wa w1.heap.size (sH (oW (aK y1.c st.l now).1 st.l (aK y1.c st.l now).2.1)):=by rw[hWa];exact CB.new w1 (sH _) _
   obtain⟨F3,n1,m2,m3⟩:=id D1;have m1:=(W.mb B _ c).next n1 ba;have hF3:=λk hk=>((W.mb B _ c).own n1 k hk).2
   obtain⟨_,p3,_,c3,_,_,ah2⟩:=W.G6 m1;have cA:Wa.cell? (aq c 1)=some (ptr p2):=(ba.cell (p:=aq c 1) (ajz hcl hc1.size)).trans ((hc1.cell (p:=aq c 1) hcl (λz=>absurd rfl z.2)).trans c1);have ep:p3=p2:=by rw[cA] at c3;simpa using c3.symm
   subst ep;refine⟨cA,λhE=>?_,λhE=>?_⟩
   ·refine(ah2 (agP _ _) (Q:=λe=>∃x,e=.returned x) (l:=KU now (Hy now y1.q)) (λB' v hk=>(aaD hk (h4.MV.at now).few now).mono (by rintro e w ⟨he,hu⟩;exact⟨⟨_,he⟩,hu⟩))).mono ?_;rintro e w2 ⟨he,D3,_⟩;refine⟨he,Told.end W h2 h3 h5 h6 (Dd.on g2 g3 (Dd.on m2 m3 (Dd.fst ba D3))) (agP _ _) ?_⟩;rw[h8,ag8,jM,if_neg (by omega),if_pos hE];simp
   ·refine(ah2 (agP _ _) (Q:=λe=>∃x,e=.returned x) (l:=ug now (Hy now y1.q)) (λB' v hk=>(take_any hk (h4.MV.at now) now).mono (by rintro e w ⟨he,hu⟩;exact⟨⟨_,he⟩,hu⟩))).mono ?_;rintro e w2 ⟨he,D3,hc3⟩;refine⟨he,λj u hj=>(rca.aF hc3 (λz=>by have:=hF3 _ z.1;omega)).cell j u hj,?_⟩;refine RD.more1 W (y2:=⟨(aK y1.c st.l now).1,ug now (Hy now y1.q)⟩) (rest':=jM st.l now (501-(i+1))) h2 h3 h5 h6 h7 (by omega) (Dd.on g2 g3 (Dd.on m2 m3 (Dd.fst ba D3))) ?_ ?_
    ·rw[hK];exact⟨⟨(h4.go.next hst now).more (by omega),(h4.MV.at now).take now⟩,by show yh (ug now (Hy now y1.q))+(i+1)<=500;omega⟩
    ·rw[h8,ag8,jM,if_neg (by omega),if_neg (by rw[hE];simp)])
 clear h hy hs hst hBs hd hR Yf hK;go_enter func45,ntmps45;go_wp2_with fail;go_loopw [7] (λv wr=>∃i:Nat,Hid (RD CH B c K w F R (jM st.l now (501-i)) i v wr)) (λv _=>501-lenOf v)
 case atStart=>exact⟨0,HP⟩
 case round =>
  clear HP;obtain⟨i,HPs⟩:=hrel;obtain⟨hi,M,hc⟩:=ah HRd i _ _ (ah HPs);have HL:=aj (ah HPs).len;have PA:=aj hc;clear hc HRd HPs;by_cases hM:0<M
  ·have hd:decide (0<M)=true:=by simpa using hM
   go_wp2_with fail;refine(ah PA).mono ?_;rintro e w0 ⟨rfl,_,hg⟩;obtain⟨hi5,p,p2,E,d,c0,hn⟩:=hg hM;have PN:=aj hn;clear PA hg hn;rw[hd];by_cases hE:E≠0
   ·have hE':(E==0)=false:=by simpa using hE
    go_wp2_with fail;refine(ah PN).mono ?_;rintro e w1 ⟨rfl,hb⟩;obtain⟨c1,hidle,_⟩:=hb _ rfl;have PI:=aj (hidle hE);clear PN hb c0 hidle;go_wp2_with fail;refine(ah PI).mono ?_;rintro e w2 ⟨⟨x,rfl⟩,hT⟩;have HT:=aj hT;clear PI hT c1;go_wp2_with fail;go_ret;exact⟨_,rfl,ah HT⟩
   ·have hE:E=0:=Classical.not_not.1 hE;subst hE;go_wp2_with fail;refine(ah PN).mono ?_;rintro e w1 ⟨rfl,hb⟩;obtain⟨c1,_,htk⟩:=hb _ rfl;have PI:=aj (htk (by first|rfl|trivial));clear PN hb c0 htk;go_wp2_with fail;refine(ah PI).mono ?_;rintro e w2 ⟨⟨x,rfl⟩,hcells,v',w4,hr,hp⟩;have z0:=hcells 0 _ rfl;have z1:=hcells 1 _ rfl;have z2:=hcells 2 _ rfl;have z3:=hcells 3 _ rfl;have z4:=hcells 4 _ rfl;have z5:=hcells 5 _ rfl;have qO:=aj hr;have HL2:=aj hp.len;have HP4:=aj hp;clear PI hcells c1 hr hp;go_wp2_with (at_builtin;refine akA _ rfl _ _ _ _ rfl _ _ rfl rfl _ _ (ah qO) ?_)
    refine⟨⟨i+1,HP4⟩,?_⟩;rw[ah HL,ah HL2];omega
  ·have hd:decide (0<M)=false:=by simpa using hM
   go_wp2_with fail;refine(ah PA).mono ?_;rintro e w0 ⟨rfl,hb,_⟩;have HT:=aj (hb (by omega) w0 (agP _ _));clear PA hb;rw[hd];go_wp2_with fail;go_ret;exact⟨_,rfl,ah HT⟩
end
theorem Xo (t:Tk.bJ)(a:Option Addr)(c:Nat)(W:I):(Instr.field 98 (sJ t a c) 9).run prog W=.ok (.bool t.pu) W:=by kernel_rfl
section
variable {G:I->Prop}{SH:I->Nat->Nat->af->aH->Prop}{RH:I->Nat->Nat->af->Pn.aX->Int->Int->Str->Prop}{CH:I->Nat->Nat->af->bM->Prop}{B:Nat}{w w':I}{F:af}
variable (W:dS G SH RH CH)
include W
theorem ZT {s:Sv}(h:qo RH CH B s sp w F)(ho:s.Ok N)(hN:N<=100000)(n who:ad)(hn:n.size<=maxLen)(hw:who.size<=maxLen)(pl:dD) :
 Calls prog 18 #[ptr sp,.string n,.string who,NV pl] w λe w'=>e=.returned (aa (jD s n who pl).2)/\Dd (qo RH CH B (jD s n who pl).1 sp) w w' F:=by
 obtain⟨W0,hW0⟩:∃W0,W0=w.alloc (xB pl):=⟨_,rfl⟩;have b0:ai w W0:=by rw[hW0];exact ax _ _
 have r0:CB W0 w.heap.size [aa pl.b,aa pl.t,.bool pl.nw]:=by rw[hW0];exact CB.new w [aa pl.b,aa pl.t,.bool pl.nw] _
 have hown:=λk hk=>((W.sv B s sp).own h k hk).2
 rcases vZ W h n who hn hw with ⟨hx,hc⟩|⟨x,y,b,c,p,F1,FS,F2,hx,hf,hc⟩
 ·have e:jD s n who pl=(s,4):=by unfold jD;rw[hx]
  rw[e];have HE:=aj ((W.sv B s sp).same h b0);have PF:=aj (hc W0 b0);clear h ho hn hw hx e b0 r0 hc hown;go_enter func18,ntmps18;go_upto_region 1 with fail
  rw[show w.alloc (xB pl)=W0 from hW0.symm];clear hW0;go_wp2_with fail;refine(ah PF).mono ?_;rintro e w1 ⟨hw1,u,v,rfl⟩;subst hw1;clear PF;go_wp2_with fail;go_ret;exact⟨rfl,ah HE⟩
 ·obtain⟨hx1,hy1⟩:=D7 hx;have hox:=ho.all x (by_some hx1).1;have hoy:=hox.all y (by_some hy1).1;obtain⟨p',q',d0,d1,hcl,hcd,hqd⟩:=W.G6 hf.mb;obtain⟨p2,d2,_,hrd,_⟩:=W.reads (N:=N) hf.mb hoy hN;have e2:p'=p2:=by rw[d0] at d2;simpa using d2
  subst e2;have hd:ai W0 W0.drew:=(agP _ _).drew;have PI:=aj (hrd W0 b0);have c0:=(b0.cell (p:=aq c 0) hcl).trans d0;have PF:=aj (hc W0 b0);by_cases hp:y.c.t.pu=true
  ·have e:jD s n who pl=(s,11):=by unfold jD;rw[hx];simp[hp]
   rw[e];have HB:=aj (λw2 (b2:ai W0 w2)=>(W.sv B s sp).same h (ak b0 b2));have hin:∀a' c' W,(Instr.field 98 (sJ y.c.t a' c') 9).run prog W=.ok (.bool true) W:=λa' c' W=>by rw[Xo,hp]
   clear h ho hn hw hx e b0 r0 hc hown hx1 hy1 hox hoy hcl hcd hqd hrd hf hd d0 d1 d2 hp;go_enter func18,ntmps18;go_upto_region 1 with fail
   rw[show w.alloc (xB pl)=W0 from hW0.symm];clear hW0;go_wp2_with fail;refine(ah PF).mono ?_;rintro e w1 ⟨hw1,rfl⟩;subst hw1;clear PF;go_wp2_with fail;refine(ah PI).mono ?_;rintro e w2 ⟨a',c',rfl,_,b2⟩;have HE:=aj (ah HB _ b2);clear PI b2 HB;go_wp2_with fail;go_ret;exact⟨rfl,ah HE⟩
  ·have hp:y.c.t.pu=false:=by simpa using hp
   have e:jD s n who pl=(s.put n λx=>x.put who λy=>⟨y.c,oC s.t pl y.q⟩,sK s.t pl y.q):=by unfold jD;rw[hx];simp[hp]
   rw[e];have hin:∀a' c' W,(Instr.field 98 (sJ y.c.t a' c') 9).run prog W=.ok (.bool false) W:=λa' c' W=>by rw[Xo,hp]
   have hlt:=r0.lt;have HD:=aj (λ(w2:I) (b2:ai W0 w2)=>hqd (w1:=w2.drew) (Q:=λe=>e=.returned (aa (sK s.t pl y.q))) (l:=oC s.t pl y.q) ((ak b0 b2).drew) (λB' v hk=>ad7 hk hoy.MV.few s.t pl));have HK:=aj (λ(w2:I) (b2:ai W0 w2)=>(show w2.drew.cell? (aq c 1)=some (ptr q')/\w2.drew.cell? (aq sp 1)=some (aa s.t)/\w2.drew.cell? (aq w.heap.size 0)=some (aa pl.b)/\w2.drew.cell? (aq w.heap.size 1)=some (aa pl.t)/\w2.drew.cell? (aq w.heap.size 2)=some (.bool pl.nw) from⟨((ak b0 b2).cell (p:=aq c 1) hcl).trans d1,((ak b0 b2).cell (p:=aq sp 1) hf.cells.2).trans hf.cells.1,(b2.cell (p:=aq w.heap.size 0) hlt).trans (r0.cell 0 _ rfl),(b2.cell (p:=aq w.heap.size 1) hlt).trans (r0.cell 1 _ rfl),(b2.cell (p:=aq w.heap.size 2) hlt).trans (r0.cell 2 _ rfl)⟩))
   have yP:=aj (λ(w2 w3:I) (b2:ai W0 w2) (hc:aA (λk=>F2 k/\k≠c) w2.drew w3)=>(show w3.cell? (aq c 1)=some (ptr q')/\w3.cell? (aq sp 1)=some (aa s.t)/\w3.cell? (aq w.heap.size 0)=some (aa pl.b)/\w3.cell? (aq w.heap.size 1)=some (aa pl.t)/\w3.cell? (aq w.heap.size 2)=some (.bool pl.nw) from by
    obtain⟨x1,x2,x3,x4,x5⟩:=ah HK w2 b2;have hb2:=ak b0 b2;have n2:¬(F2 w.heap.size/\w.heap.size≠c):=λz=>by have:=hown _ (hf.in1 _ (hf.in2 _ z.1).1).1;omega
    have hl2:w.heap.size<w2.drew.heap.size:=ajz hlt b2.size;exact⟨(hc.cell (p:=aq c 1) (ajz hcl hb2.size) (λz=>absurd rfl z.2)).trans x1,(hc.cell (p:=aq sp 1) (ajz hf.cells.2 hb2.size) (λz=>absurd rfl (hf.in1 _ (hf.in2 _ z.1).1).2)).trans x2,(hc.cell (p:=aq w.heap.size 0) hl2 n2).trans x3,(hc.cell (p:=aq w.heap.size 1) hl2 n2).trans x4,(hc.cell (p:=aq w.heap.size 2) hl2 n2).trans x5⟩))
   have HL:=aj (λ(w2 w3:I) (b2:ai W0 w2) (D:Dd (yg CH B ⟨y.c,oC s.t pl y.q⟩ c) w2.drew w3 F2)=>hf.lift (f:=λx=>x.put who λy=>⟨y.c,oC s.t pl y.q⟩) (agP _ _) rfl (Dd.fst ((ak b0 b2).drew) (hf.up (f:=λy=>⟨y.c,oC s.t pl y.q⟩) ((ak b0 b2).drew) rfl D)));clear h ho hn hw hx e b0 r0 hc hown hx1 hy1 hox hoy hcl hcd hqd hrd hf hd d0 d1 d2 hp hlt;go_enter func18,ntmps18;go_upto_region 1 with fail
   rw[show w.alloc (xB pl)=W0 from hW0.symm];clear hW0;go_wp2_with fail;refine(ah PF).mono ?_;rintro e w1 ⟨hw1,rfl⟩;subst hw1;clear PF;go_wp2_with fail;refine(ah PI).mono ?_;rintro e w2 ⟨a',c',rfl,_,b2⟩;have k0:=ah HK _ b2;have PA:=aj (ah HD _ b2);have PL:=aj (λw3=>ah HL w2 w3 b2);have PK:=aj (λw3=>ah yP w2 w3 b2);clear PI b2 HD HK yP HL c0;go_wp2_with fail;go_region_held3 (λW'=>W'.cell? (aq c 1)=some (ptr q')/\W'.cell? (aq sp 1)=some (aa s.t)/\W'.cell? (aq w.heap.size 0)=some (aa pl.b)/\W'.cell? (aq w.heap.size 1)=some (aa pl.t)/\W'.cell? (aq w.heap.size 2)=some (.bool pl.nw)) (first|with_reducible assumption)
    (first|(go_at_call 43;with_reducible refine(ah PA).mono ?_;rintro e w3 ⟨rfl,D,hc3⟩;have HE:=aj (ah PL _ D);have k3:=ah PK _ hc3;clear D hc3))
   go_wp2_with fail;go_ret;exact⟨rfl,ah HE⟩
end
