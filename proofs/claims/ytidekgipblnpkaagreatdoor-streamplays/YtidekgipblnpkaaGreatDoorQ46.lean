/- A part. -/
import Derived.Test.YtidekgipblnpkaaGreatDoorQ43
import Derived.Test.YtidekgipblnpkaaGreatDoorQ45
set_option maxRecDepth 100000
set_option maxHeartbeats 8000000
namespace Go.Proofs.YtidekgipblnpkaaGreatDoor
open Go.RowKit Go.Proofs.Tryz
namespace Dk
def RHx (Has:World->Nat->Nat->(Nat->Prop)->Int->List ay->Prop)(SH:World->Nat->Nat->(Nat->Prop)->aJ->Prop)(w:World)(B x:Nat)(F:Nat->Prop)(P:Pn.cu)(m size:Int)(st:dW):Prop:=∃B0,B<=B0/\B0<=w.heap.size/\TD Has SH w B0 x F P m size st
section
variable {Has:World->Nat->Nat->(Nat->Prop)->Int->List ay->Prop}{SH:World->Nat->Nat->(Nat->Prop)->aJ->Prop}{w w':World}{B B0 x:Nat}{F:Nat->Prop}{P:Pn.cu}{m size:Int}{st st':dW}
theorem RHx.did (h:uV (TD Has SH) w w' B0 x F P m size st')(hB:B<=B0)(hw:B0<=w.heap.size):uV (RHx Has SH) w w' B x F P m size st':=by
 obtain⟨F',h1,h2,h3⟩:=h;exact⟨F',⟨B0,hB,aje hw h2.size,h1⟩,h2,h3⟩
theorem Xi (h:TD Has SH w B x F P m size st) :
 Calls prog 14 #[.pointer (some ⟨x,0,none⟩)] w λe w'=>∃q G,e=.returned (.pointer (some ⟨q,0,none⟩))/\SH w' B q G st.s/\(∀k,G k->F k)/\Below w.heap.size w w':=by
 obtain⟨FV,a,c,mb,h1,h2⟩:=h;have P1:=aj (JV h1.pV);have HF:=aj (λk (hk:FV k)=>(h2 k).2 (.inl hk));clear h1 h2;go_enter func14,ntmps14;go_wp2_with fail;refine(ah P1).mono ?_;rintro e w1 ⟨q,G,rfl,h1,h2,b1⟩;have B1:=aj (show SH w1 B q G st.s/\(∀k,G k->F k)/\Below w.heap.size w w1 from⟨h1,λk hk=>ah HF k (h2 k hk),b1⟩);clear P1 h1 h2 b1;go_wp2_with fail;go_ret;exact⟨q,G,rfl,ah B1⟩
theorem aaW (U:vC Has SH)(N:YU Has)(T:lX SH)(V:lV SH):gQ uT (RHx Has SH) SH where
 own:=λh k hk=>by
  obtain⟨B0,h1,_,FV,a,c,mb,h3,h4⟩:=h;have:=h3.own U.H U.S k ((h4 k).1 hk);exact⟨aje h1 this.1,this.2⟩
 bZ:=λh hc hn=>by
  obtain⟨B0,h1,h2,FV,a,c,mb,h3,h4⟩:=h;exact⟨B0,h1,aje h2 hc.size,FV,a,c,mb,h3.bZ U.H U.S hc (λk hk=>hn k ((h4 k).2 hk)),h4⟩
 agy:=λw P a c m size hs hsl hc hG hp=>Xh w P a c m size hs hsl hc hG hp
 bad:=λw P a c m size hs hsl hc hG hp hb=>aee N w P a c m size hs hsl hc hG hp hb
 jY:=λw P a c m size hs hsl hc hG hp hm hz=>(aaV U N w P a c m size hs hsl hc hG hp hm hz).mono (by
  rintro e w' ⟨p,F,B0,he,⟨h1,h2,h3⟩,hb⟩;exact⟨p,F,he,⟨B0,h1,h2,h3⟩,hb⟩)
 G6:=λnow x hx h hf _=>by
  obtain⟨B0,h1,h2,h3⟩:=h;obtain⟨a,c,mb,r,hfin⟩:=h3.begin;refine(Uk U T V r hf h2 now x hx).mono ?_;rintro e w' ⟨he,⟨mb',r'⟩,_⟩;exact⟨he,RHx.did (hfin _ _ _ _ r') h1 h2⟩
 store:=λh _ _=>by
  obtain⟨B0,h1,h2,h3⟩:=h;refine(Xi h3).mono ?_;rintro e w' ⟨q,G,he,hs,hg,hb⟩;exact⟨q,G,he,U.S.low hs h1,hg,hb⟩
theorem aaX (_U:vC Has SH):uq (RHx Has SH) where
 uQ:=λkeep h hf _=>by(obtain⟨B0,h1,h2,h3⟩:=h;obtain⟨a,c,mb,r,hfin⟩:=h3.begin;refine(WX _U r hf h2 keep).mono ?_;rintro e w' ⟨he,r',_⟩;exact⟨he,RHx.did (hfin _ _ _ _ r') h1 h2⟩)
 ahR:=trivial
end
section
variable {Has:World->Nat->Nat->(Nat->Prop)->Int->List ay->Prop}{SH:World->Nat->Nat->(Nat->Prop)->aJ->Prop}{F0 Cs:Nat->Prop}{w wr w':World}{B x:Nat}{a:Option Addr}{c:Nat}{mb:Option Nat}{P:Pn.cu}{m size:Int}{st:dW}
theorem Um (U:vC Has SH)(h:fF Has SH F0 Cs w wr B x a c mb P m size st)(hf:Fit P m size st)(hB:B<=w.heap.size)(q:Int) :
 Calls prog 32 #[.pointer (some ⟨x,0,none⟩),.int .i64 q] wr λe w'=>e=.returned (.int .i64 (iJ st.es st.s m size (bT q 0)))/\fF Has SH F0 Cs w w' B x a c mb P m size (pX m size st (bT q 0))/\aO Cs wr w':=by
 have PD:=aj (yO U h hf hB 0 q);clear h hf;generalize iJ st.es st.s m size (bT q 0)=E at *;go_enter func32,ntmps32;go_wp2_with fail;refine(ah PD).mono ?_;rintro e w1 ⟨rfl,h1⟩;have B1:=aj h1;clear PD h1;go_wp2_with fail;go_ret;exact⟨rfl,ah B1⟩
theorem Qa (U:vC Has SH)(h:fF Has SH F0 Cs w wr B x a c mb P m size st)(hf:Fit P m size st)(hB:B<=w.heap.size) :
 Calls prog 38 #[.pointer (some ⟨x,0,none⟩)] wr λe w'=>e=.returned (.int .i64 (rX st.es st.s m size))/\fF Has SH F0 Cs w w' B x a c mb P m size ⟨lT st.es st.s m size,st.s,st.ids⟩/\aO Cs wr w':=by
 have PC:=aj (h.did (es':=lT st.es st.s m size) (s':=st.s) (amK _) (Q:=λe _=>e=.returned (.int .i64 (rX st.es st.s m size))) (λ_ hv=>Pm U.H U.L U.S hv hf.rY hf.room hf.size (aje hB h.room)));clear h hf;generalize rX st.es st.s m size=E at *;go_enter func38,ntmps38;go_wp2_with fail;refine(ah PC).mono ?_;rintro e w1 ⟨rfl,h1⟩;have B1:=aj h1;clear PC h1;go_wp2_with fail;go_ret;exact⟨rfl,ah B1⟩
theorem Un (U:vC Has SH)(h:fF Has SH F0 Cs w wr B x a c mb P m size st)(hf:Fit P m size st)(hB:B<=w.heap.size)(f:ByteArray)(hs:f.size<=140737488355328)(below:Int) :
 Calls prog 34 #[.pointer (some ⟨x,0,none⟩),.string f,.int .i64 below] wr λe w'=>e=.returned (.tuple #[.int .i64 (xI m size f below st).1.1,.int .i64 (xI m size f below st).1.2])/\fF Has SH F0 Cs w w' B x a c mb P m size (xI m size f below st).2/\aO Cs wr w':=by
 have hk:=hf.rY.ok;have hBr:=aje hB h.room;have P1:=aj (fG h);have P2:=aj (λ(W:World) (q:Nat) (G:Nat->Prop) (s:aJ) (ho:s.Ok) (hS:SH W B q G s) (hW:B<=W.heap.size)=>U.S.lU.BX hS ho hW);have PP:=aj (λ(W:World) (hW:Below wr.heap.size wr W)=>yP U (h.below U.H U.S hW) hf hB 0 below f hs);have HS:=aj (λ(W:World) (hW:Below wr.heap.size wr W)=>h.stay hW);have hsl:∀x0 x1 x2 x3:Value,∀W:World,(Instr.field 60 (.agg #[x0,x1,x2,x3]) 0).run prog W=.ok x0 W:=λ_ _ _ _ _=>by kernel_rfl
 have HK:=aj hk;have hk2:=(hf.did (fP below 0 f)).rY.ok;have HK2:=aj hk2;have hf1:=hk.iW;have hf2:=hk2.iW;obtain⟨E,hE⟩:∃E,iJ st.es st.s m size (fP below 0 f)=E:=⟨_,rfl⟩;rw[hE] at PP;have HE:=aj hE;clear h hf hk hk2 hE;go_enter func34,ntmps34;go_wp2_with fail;refine(ah P1).mono ?_;rintro e w1 ⟨q,G,rfl,h1,b1⟩;have P3:=aj (ah P2 w1 q G _ (ah HK) h1 (aje hBr b1.size));have B1:=aj b1;clear P1 h1 b1;go_wp2_with fail;refine(ah P3).mono ?_;rintro e w2 ⟨rfl,b2⟩;have PQ:=aj (ah PP w2 (ak (ah B1) b2));have S2:=aj (ah HS w2 (ak (ah B1) b2))
 clear P3 b2 PP HS;go_wp2_with fail;refine(ah PQ).mono ?_;rintro e w3 ⟨rfl,r3,s3⟩;have R3:=aj r3;have S3:=aj ((ah S2).trans s3);have hB3:=aje hBr (aje (ah S2).1 s3.1);clear PQ r3 s3 S2;by_cases h0:E=0
 ·have hp:xI m size f below st=(((st.s.l.length:Int)-((lq st.es st.s m size (fP below 0 f)).l.length:Int),0),pX m size st (fP below 0 f)):=by
   unfold xI;rw[if_neg (by rw[ah HE,h0];simp)];rfl
  have HP:=aj hp;have P4:=aj (fG (ah R3));subst h0;clear hp;go_wp2_with fail;refine(ah P4).mono ?_;rintro e w4 ⟨q4,G4,rfl,h4,b4⟩;have P5:=aj (ah P2 w4 q4 G4 _ (ah HK2) h4 (aje hB3 b4.size));have R4:=aj ((ah R3).below U.H U.S b4);have S4:=aj ((ah S3).trans ((ah R3).stay b4));have hsS:(pX m size st (fP below 0 f)).s=lq st.es st.s m size (fP below 0 f):=rfl;rw[hsS] at P5;rw[hsS] at hf2;clear P4 h4 b4 hsS;obtain⟨n2,hn2⟩:∃n,(lq st.es st.s m size (fP below 0 f)).l.length=n:=⟨_,rfl⟩;obtain⟨n1,hn1⟩:∃n,st.s.l.length=n:=⟨_,rfl⟩;rw[hn2] at P5 HP hf2
  rw[hn1] at HP hf1;rw[hn1];clear hn1 hn2;go_wp2_with fail;refine(ah P5).mono ?_;rintro e w5 ⟨rfl,b5⟩;have E5:=aj (And.intro ((ah R4).below U.H U.S b5) ((ah S4).trans ((ah R4).stay b5)));clear P5 b5;go_wp2_with fail;go_ret2;rw[ah HP];exact⟨rfl,ah E5⟩
 ·have hp:xI m size f below st=((0,E),st):=by
   unfold xI;rw[if_pos (by rw[ah HE];exact h0),ah HE]
  have hb:pX m size st (fP below 0 f)=st:=by
   unfold pX qL lq;rw[if_neg (by rw[ah HE];exact h0),if_neg (by rw[ah HE];exact h0)]
  have HP:=aj hp;have R4:=ah R3;rw[hb] at R4;have E5:=aj (And.intro R4 (ah S3));have e5:(E !=0)=true:=by simpa using h0
  clear hp hb R4 R3;go_wp2_with fail;go_ret2;rw[ah HP];exact⟨rfl,ah E5⟩
theorem aaY (h:fF Has SH F0 Cs w wr B x a c mb P m size st)(hl:P.f.length<=100) :
 Calls prog 16 #[.pointer (some ⟨x,0,none⟩)] wr λe w'=>∃a' c',e=.returned (Jh P a' c')/\nZ w' a' P.f/\P.f.length<=c'/\Below wr.heap.size wr w':=by
 obtain⟨W,hW⟩:∃W,W=wr.alloc (.cells #[.string ⟨#[]⟩,.slice none 0 0,.int .i64 0,.int .i64 0,.int .i64 0,.int .i64 0,.int .i64 0,.int .i64 0,.int .i64 0,.int .i64 0] 24):=⟨_,rfl⟩;have b0:Below wr.heap.size wr W:=by rw[hW];exact(ajb _ _).alloc (Xc _) _
 have p1:PB W wr.heap.size ⟨#[]⟩ none 0 0 0 0 0 0 0 0 0 0:=by rw[hW];exact PB.new wr ⟨#[]⟩ none 0 0 0 0 0 0 0 0 0 0 24
 have f1:∀j,W.frozen? ⟨wr.heap.size,j,none⟩=false:=λj=>by rw[hW];exact akf _ _ _ j
 obtain⟨FV,h1,_⟩:=h;have PC:=aj (NG P a c W h1.small (h1.row.next b0) hl);obtain⟨hx,c0,c1,c2,c3,c4,c5,c6,c7,c8,c9⟩:=h1.plan;have B0:=aj b0;have P1:=aj p1;have F1:=aj f1;unfold Jh at PC ⊢;clear h1 p1 f1 b0;go_enter func16,ntmps16;go_wp2_with fail;rw[<-hW];clear hW;refine(ah PC).mono ?_;rintro e w1 ⟨a',c',rfl,t1,b1⟩;have pb:=(ah P1).next b1;have g1:∀j,w1.frozen? ⟨wr.heap.size,j,none⟩=false:=λj=>(b1.frozen (p:=⟨wr.heap.size,j,none⟩) (ah P1).lt).trans (ah F1 j)
 have PB':=aj pb;have T1:=aj t1;have BW:=aj (ak (ah B0) b1);have HWs:=aj (show wr.heap.size<W.heap.size from(ah P1).lt);obtain⟨lb,d0,d1,d2,d3,d4,d5,d6,d7,d8,d9⟩:=pb;have t0:=g1 0;have t1':=g1 1;have t2:=g1 2;have t3:=g1 3;have t4:=g1 4;have t5:=g1 5;have t6:=g1 6;have t7:=g1 7;have t8:=g1 8;have t9:=g1 9;clear PC b1 t1 g1 c0 c1 c2 c3 c4 c5 c6 c7 c8 c9;go_wp2_with fail;have hfin:=(ah PB').Gy P.n a' P.f.length c' (nth P.v 0) (nth P.v 1) (nth P.v 2) (nth P.v 3) (nth P.v 4) (nth P.v 5) (nth P.v 6) (nth P.v 7);(try simp only[Exit.inBlock,Exit.then])
 refine ajJ (yB (b:=wr.heap.size) rfl rfl hfin) rfl ?_;have ht:=kF.bZ (A:=λk=>k=wr.heap.size) (ah T1) (J9 (A:=λk=>k=wr.heap.size) (b:=wr.heap.size) rfl [.string P.n,.slice a' P.f.length c',.int .i64 (nth P.v 0),.int .i64 (nth P.v 1),.int .i64 (nth P.v 2),.int .i64 (nth P.v 3),.int .i64 (nth P.v 4),.int .i64 (nth P.v 5),.int .i64 (nth P.v 6),.int .i64 (nth P.v 7)] _ 0 (aH.refl _ _)) (λg hg z=>by have:=ah HWs;omega);obtain⟨a2,c2,e2,hc2,hs2⟩:=ht.shape;obtain⟨e3,_,e4⟩:=ajO e2;subst e3 e4;exact⟨a',c',rfl,hs2,hc2,yD (b:=wr.heap.size) (Xc _) [.string P.n,.slice a' P.f.length c',.int .i64 (nth P.v 0),.int .i64 (nth P.v 1),.int .i64 (nth P.v 2),.int .i64 (nth P.v 3),.int .i64 (nth P.v 4),.int .i64 (nth P.v 5),.int .i64 (nth P.v 6),.int .i64 (nth P.v 7)] _ 0 (ah BW)⟩
end
