/- A part. -/
import Derived.Test.YtmhbobnfmncdbaaGreatDoorQ34
set_option maxRecDepth 100000
set_option maxHeartbeats 8000000
namespace Go.Proofs.YtmhbobnfmncdbaaGreatDoor
open Go.RowKit Go.Proofs.Tryz
namespace Dk
section
variable {SH:World->Nat->Nat->(Nat->Prop)->aY->Prop}{CH:World->Nat->Nat->(Nat->Prop)->aV->Prop}{Cs D:Nat->Prop}{w wr w':World}{q b N tb:Nat}{s:aY}{c c':aV}
theorem kP.all (H:aH SH)(h:kP SH CH Cs w wr q b s c)(hk:s.Ok) :
 Calls prog 29 #[.pointer (some ⟨q,0,none⟩)] wr λe w'=>∃a c,e=.returned (.slice a s.l.length c)/\(s.l.length<=c/\c<=maxLen)/\um w' a s.l/\Below wr.heap.size wr w':=by
 obtain⟨B,F,B',G,h1,h2,h3,_⟩:=h;refine(H.all h1 hk h3.2).mono ?_;rintro e w' ⟨v,he,hA,hb⟩;obtain⟨a,c,rfl,hc1,hc2,hs⟩:=hA.shape;exact⟨a,c,he,⟨hc1,hc2⟩,hs,hb⟩
theorem WZ (x0 x1 x2 x3:Value)(W:World):(Instr.field 55 (.agg #[x0,x1,x2,x3]) 1).run prog W=.ok x1 W:=by kernel_rfl
theorem Xa (x0 x1 x2 x3:Value)(W:World):(Instr.field 55 (.agg #[x0,x1,x2,x3]) 3).run prog W=.ok x3 W:=by kernel_rfl
theorem D8 {A:Nat->Prop}{t:Tk.bV}{a:Option Addr}{ca:Nat}(h:TB w b t a ca)(hc:aB A w w')(hn:¬A b):TB w' b t a ca:=h.same hc.size (λj=>hc.cell (p:=⟨b,j,none⟩) h.lt hn)
def LD (SH:World->Nat->Nat->(Nat->Prop)->aY->Prop)(CH:World->Nat->Nat->(Nat->Prop)->aV->Prop)(w wr:World)(q b:Nat)(gv:Value)(s:aY)(t:Tk.bV)(ta:Option Addr)(tc:Nat)(p:Int)(k:Nat):Prop :=
 kP SH CH (λj=>gv.ownBlock=some j\/j=w.heap.size) w wr q b s (gK t p (aI t.f p s.l) k)/\(gK t p (aI t.f p s.l) k).Go k/\Nums wr (w.heap.size+1) gv (lN ((aI t.f p s.l).take k))/\TB wr w.heap.size t ta tc
theorem LD.step (H:aH SH)(C:bZ SH CH){gv:Value}{t:Tk.bV}{ta:Option Addr}{tc:Nat}{p:Int}{k:Nat}(h:LD SH CH w wr q b gv s t ta tc p k)(hs:s.Ok)(ht:Tk.eH t=0){now:Int}(U7:dB now=true)(hk:k<(aI t.f p s.l).length){m:Rc}(hm:m=rc (aI t.f p s.l) k) :
 Calls prog 13 #[.pointer (some ⟨b,0,none⟩),.pointer (some ⟨q,0,none⟩),.int .i64 now] wr λe w'=>∃cn lf:Int,e=.returned (.tuple #[.agg #[.int .i64 m.q,.string m.s,.string m.d,.int .i64 cn,.int .i64 1,.int .i64 lf],.int .i64 0])/\∃x g,x=w'.alloc (.cells #[.int .i64 m.q,.string m.s,.string m.d,.int .i64 cn,.int .i64 1,.int .i64 lf] 47)/\g=w'.heap.size/\∃Zj w8,(Builtin.append_ #[22,22] 22 #[gv,.slice (some ⟨x.heap.size,0,none⟩) 1 1]).run prog (x.alloc (.cells #[.int .i64 m.q] 3))=.ok Zj w8/\x.cell? ⟨g,0,none⟩=some (.int .i64 m.q)/\w8.cell? ⟨g,0,none⟩=some (.int .i64 m.q)/\TB w8 w.heap.size t ta tc/\Nums w8 (w.heap.size+1) Zj (lN ((aI t.f p s.l).take (k+1)))/\∃c',c'=(⟨t,nD p (aI t.f p s.l) (k+1),if t.ack=0 then [] else [⟨m.q,1,now+Tk.bU t 1⟩],((k+1:Nat):Int)⟩:aV)/\kP SH CH (λj=>Zj.ownBlock=some j\/j=w.heap.size) w w8 q b s c'/\c'.Go (k+1):=by
 subst hm;obtain⟨h1,h2,h3,h4⟩:=h;have hl:=vg (f:=t.f) (p:=p) hs;refine(h1.step H C h2 (by omega) hs now (Jl ht hs U7 hk) rfl).mono ?_;rintro e w' ⟨he,⟨a1,a2,x,hx⟩,a3,a4,a5⟩;refine⟨_,_,he,x,_,hx,rfl,?_⟩;rw[<-hx] at a1 a2 a4;have n1:=h3.keep a4 (λg hg z=>z (.inl hg));have t1:=D8 h4 a4 (λz=>z (.inr rfl));have hxs:w'.heap.size<x.heap.size:=a2.lt;have hb:Below x.heap.size x (x.alloc (.cells #[.int .i64 (rc (aI t.f p s.l) k).q] 3)):=(Below.refl _ _).alloc (Nat.le_refl _) _;obtain⟨Zj,w8,r1,r2,r3,r4⟩:=Gn (x.alloc (.cells #[.int .i64 (rc (aI t.f p s.l) k).q] 3)) (w.heap.size+1) 22 gv _ (rc (aI t.f p s.l) k).q (n1.below hb) ⟨x.heap.size,0,none⟩ 1 (by simp) (by rw[jw,List.length_take];omega) (by have:=t1.lt;have:=hb.size;omega)
 have hgw:∀g,gv.ownBlock=some g->w.heap.size+1<=g/\g<wr.heap.size:=λg hg=>World.ownsRow.lt h3 g hg
 have hng:gv.ownBlock≠some w'.heap.size:=λz=>by have:=(hgw _ z).2;omega
 have hx1:=a2.cell 0 _ rfl;have hbs:=hb.size;have hr3:aB (λk=>gv.ownBlock=some k) x w8:=(aB.of_below hb).trans r3;refine⟨Zj,w8,r1,hx1,((r3.cell (p:=⟨w'.heap.size,0,none⟩) (by show w'.heap.size<_;omega) hng).trans (hb.cell (p:=⟨w'.heap.size,0,none⟩) hxs)).trans hx1,D8 (t1.next hb) r3 (λz=>by have:=(hgw _ z).1;omega),?_,_,rfl,?_,a3⟩
 ·rw[Bc hk];exact r2
 ·refine a1.bn H C hr3 (λj z=>.inl (.inl z)) (λj z=>by have:=(hgw _ z).1;omega) (λj hj=>?_);rcases hj with z|z
  ·rcases r4 j z with y|y
   ·exact .inl (.inl (.inl y))
   ·exact .inr ⟨by omega,(World.ownsRow.lt r2 j z).2⟩
  ·exact .inl (.inl (.inr z))
theorem LD.done (C:bZ SH CH)(H:aH SH){gv:Value}{t:Tk.bV}{ta:Option Addr}{tc:Nat}{p now:Int}{k:Nat}{m:Rc}(U7:dB now=true)(ha:t.ack≠0)(hc:c=(⟨t,nD p (aI t.f p s.l) (k+1),if t.ack=0 then [] else [⟨m.q,1,now+Tk.bU t 1⟩],((k+1:Nat):Int)⟩:aV))(hk:k<=1000)(h1:kP SH CH (λj=>gv.ownBlock=some j\/j=w.heap.size) w wr q b s c)(h2:c.Go (k+1))(h3:Nums wr (w.heap.size+1) gv (lN ((aI t.f p s.l).take (k+1))))(h4:TB wr w.heap.size t ta tc) :
 Calls prog 15 #[.pointer (some ⟨b,0,none⟩),.int .i64 now,.int .i64 m.q,.agg #[.int .i64 1,.int .i64 0]] wr λe w'=>e=.returned (.int .i64 0)/\LD SH CH w w' q b gv s t ta tc p (k+1):=by
 have e1:fD c now m.q 1 0=(gK t p (aI t.f p s.l) (k+1),0):=by rw[hc,if_neg ha];exact Ot _ _ _ _ _ U7
 have g1:=h2.ans now m.q 1 0;have:=h1.answer H C h2 (by omega) now m.q 1 0;rw[e1] at this g1;refine this.mono ?_;rintro e w' ⟨he,a1,a2⟩;exact⟨he,a1,g1,h3.keep a2 (λg hg z=>z (.inl hg)),D8 h4 a2 (λz=>z (.inr rfl))⟩
theorem LD.none (H:aH SH)(C:bZ SH CH){gv:Value}{t:Tk.bV}{ta:Option Addr}{tc:Nat}{p:Int}{k:Nat}(h:LD SH CH w wr q b gv s t ta tc p k)(hs:s.Ok)(ht:Tk.eH t=0){now:Int}(U7:dB now=true)(hk:k=(aI t.f p s.l).length) :
 Calls prog 13 #[.pointer (some ⟨b,0,none⟩),.pointer (some ⟨q,0,none⟩),.int .i64 now] wr λe w'=>e=.returned (.tuple #[.agg #[.int .i64 0,.string ⟨#[]⟩,.string ⟨#[]⟩,.int .i64 0,.int .i64 0,.int .i64 0],.int .i64 4])/\LD SH CH w (w'.alloc (WG bJ)) q b gv s t ta tc p k:=by
 obtain⟨h1,h2,h3,h4⟩:=h;have hl:=vg (f:=t.f) (p:=p) hs;refine(h1.step H C h2 (by omega) hs now (Oq ht hs U7 hk) rfl).mono ?_;rintro e w' ⟨he,⟨a1,_,_⟩,a3,a4,_⟩;exact⟨he,a1.fewer (λ_ z=>.inl z),h2,h3.keep a4 (λg hg z=>z (.inl hg)),D8 h4 a4 (λz=>z (.inr rfl))⟩
theorem LD.below (H:aH SH)(C:bZ SH CH){gv:Value}{t:Tk.bV}{ta:Option Addr}{tc:Nat}{p:Int}{k:Nat}(h:LD SH CH w wr q b gv s t ta tc p k)(hb:Below wr.heap.size wr w'):LD SH CH w w' q b gv s t ta tc p k :=
 ⟨h.1.below H C hb,h.2.1,h.2.2.1.below hb,h.2.2.2.next hb⟩
end
def lU (f:ByteArray)(p:Int)(x:Rc):Bool:=decide (p<=x.q)&&aF f x.s
theorem SV {f:ByteArray}{p:Int}{s:aY}(hs:s.Ok)(hf:aA true f=0):s.l.filter (lU f p)=aI f p s.l:=by
 unfold aI;refine List.filter_congr (λx hx=>?_);unfold lU aF;rw[hf,jP (hs.msg x hx).2 (hs.msg x hx).1,Bool.and_comm (iY f x.s)];unfold iY;simp
section
variable {SH:World->Nat->Nat->(Nat->Prop)->aY->Prop}{CH:World->Nat->Nat->(Nat->Prop)->aV->Prop}
theorem Jy (H:aH SH)(C:bZ SH CH)(t:Tk.bV)(ta:Option Addr)(tc:Nat)(l:List Rc)(a:Option Addr)(cap:Nat)(now:Int)(w:World)(hts:iQ t)(nM:jQ w ta t.bo)(hsl:um w a l)(hsm:∀k,k<l.length->Small (rc l k)) :
 Calls prog 5 #[oH t ta tc,.slice a l.length cap,.int .i64 now] w λe w'=>e=.returned (.bool true)/\Below w.heap.size w w':=by
 obtain⟨W0,hW0⟩:∃W0,W0=w.alloc (ru t ta tc):=⟨_,rfl⟩;have b0:Below w.heap.size w W0:=by rw[hW0];exact(Below.refl _ _).alloc (Nat.le_refl _) _
 have T0:Hid (TB W0 w.heap.size t ta tc):=aj (by rw[hW0];exact TB.new w t ta tc);have PR:=aj (Oi H C W0);go_enter func5,ntmps5;go_upto_region 1 with fail
 rw[<-hW0];clear hW0;go_wp2_with fail;refine(ah PR).mono ?_;rintro e w1 ⟨rfl,b1⟩;have T1:=aj ((ah T0).next b1);have B1:=aj (ay b0 b1);clear PR T0 b1 b0;by_cases hbad:150<l.length\/now<0\/1099511627776<now
 ·have hev:(150:Int)<(l.length:Int)\/(decide ((150:Int)<(l.length:Int))=false/\now<0)\/(decide ((150:Int)<(l.length:Int))=false/\decide (now<0)=false/\(1099511627776:Int)<now):=by
   by_cases z1:150<l.length
   ·exact .inl (by omega)
   ·have y1:decide ((150:Int)<(l.length:Int))=false:=decide_eq_false (by omega);by_cases z2:now<0
    ·exact .inr (.inl ⟨y1,z2⟩)
    ·exact .inr (.inr ⟨y1,decide_eq_false z2,by omega⟩)
  clear hbad;rcases hev with z1|⟨z1,z2⟩|⟨z1,z2,z3⟩;all_goals
   go_wp2_with fail
   go_ret
   exact⟨rfl,ah B1⟩
 ·have z1:decide ((150:Int)<(l.length:Int))=false:=decide_eq_false (by omega);have z2:decide (now<0)=false:=decide_eq_false (by omega);have z3:decide ((1099511627776:Int)<now)=false:=decide_eq_false (by omega);have U7:dB now=true:=iL.2 (by omega);have hlen:l.length<=150:=by omega
  have S1:Hid (um w1 a l):=aj (λk hk=>by
   obtain⟨b,o,h1,h2⟩:=hsl k hk;exact⟨b,o,h1,h2.below (ah B1) h2.lt⟩)
  have PF:=aj (yM H l a cap w1 (ah S1) hsm (by omega));have U2:=aj (bG nM (ah B1));have HTm:=aj U7;clear hbad S1 hsl hsm nM U7;go_wp2_with fail;refine(ah PF).mono ?_;rintro e w2 ⟨q,rfl,F,f2,b2⟩;have hok:=DL l;obtain⟨s,hs⟩:∃s,s=fU l:=⟨_,rfl⟩;rw[<-hs] at f2 hok;have T2:=(ah T1).next b2;have Xb:=aj (bG (ah U2) b2);have hsz1:=(ah B1).size;have B2:=aj ((ah B1).trans (b2.mono hsz1));obtain⟨E,hE⟩:∃E,Tk.eH t=E:=⟨_,rfl⟩;have k0:=T2.c0;have k1:=T2.c1;have k2:=T2.c2;have k3:=T2.c3;have k4:=T2.c4;have k5:=T2.c5;have k6:=T2.c6;have k7:=T2.c7
  have k8:=T2.c8;have k9:=T2.c9;by_cases hE0:E=0
  ·have PN:=aj (kP.new (w:=w) (Cs:=λk=>k=w.heap.size) H C t ta tc hts (ah Xb) (by rw[hE,hE0]) f2 hok ⟨hsz1,b2.size⟩ (ah B2) (λk hk=>by
    have:=T2.lt;have:=(ah T1).lt;exact⟨by omega,λz=>by have:=(H.own f2 k z).1;omega⟩))
   have vF:=aj hok;have HT0:Hid (Tk.eH t=0):=aj (hE.trans hE0);have U3:=aj (aV.Go.new (ah HT0) hts hok);have HT2:=aj T2;clear f2 b2 hs hE hE0 T2 U2 Xb T1 PF hok hsz1;go_wp2_with fail;refine(ah PN).mono ?_;rintro e w3 ⟨⟨b,rfl,h3⟩,b3⟩;have PI:=aj (h3.info C (ah U3));have H3:=aj h3;have T3:=aj ((ah HT2).next b3);clear PN h3 b3 HT2 k0 k1 k2 k3 k4 k5 k6 k7 k8 k9;go_wp2_with fail;refine(ah PI).mono ?_;rintro e w4 ⟨rfl,b4⟩;obtain⟨p,hp⟩:∃p,aX t s=p:=⟨_,rfl⟩;have hpl:=(ah U3).ok.pl;rw[show(⟨t,aX t s,[],0⟩:aV).pl=aX t s from rfl] at hpl;have D4:Hid (LD SH CH w w4 q b (.slice none 0 0) s t ta tc p 0):=aj (by
    have h4:=(ah H3).below H C b4;rw[<-hp];exact⟨h4.fewer (λk hk=>by
     rcases hk with z|z;· cases z
     ·exact z),ah U3,World.ownsRow_nil _ _ _ _,(ah T3).next b4⟩)
   rw[show(⟨t,aX t s,[],0⟩:aV).pl-1=aX t s-1 from rfl];rw[hp] at hpl ⊢;have hw1:IntKind.i64.wrap (p-1+1)=p:=by rw[IntKind.wrap_i64];omega
   have hil:=WZ;clear PI H3 T3 b4 hp U3;have hU:=vg (f:=t.f) (p:=p) (ah vF);obtain⟨N,hN⟩:∃N,(aI t.f p s.l).length=N:=⟨_,rfl⟩;have HN:=aj hN;rw[hN] at hU;go_wp2_with fail;clear hN;go_loopw [11,46] (λgv iv wr=>∃(k:Nat),iv=.int .i64 k/\k<=N/\Hid (LD SH CH w wr q b gv s t ta tc p k)) (λ_ iv _=>300-(intOf iv).toNat)
   case atStart=>exact⟨0,rfl,Nat.zero_le _,D4⟩
   case round =>
    clear D4;obtain⟨k,rfl,hk,HD⟩:=hrel;have acj:(k:Int)<300:=by omega
    by_cases hlt:k<N
    ·obtain⟨m,hm⟩:∃m,m=rc (aI t.f p s.l) k:=⟨_,rfl⟩;have PS:=aj ((ah HD).step H C (ah vF) (ah HT0) (ah HTm) (by rw[ah HN];exact hlt) hm);clear HD hm;go_wp2_with fail;refine(ah PS).mono ?_;rintro e w5 ⟨cn,lf,rfl,x,g,hx,hg,Zj,w8,hrun,x1,y1,T8,n8,c',hc',c8,g8⟩;have k4:=T8.c4;have qX:=aj hrun;have C8:=aj (And.intro hc' (And.intro c8 (And.intro g8 (And.intro n8 T8))));clear PS hrun T8 n8 hc' c8 g8;go_upto_region 14 with fail
     rw[<-hx,<-hg];clear hx hg;by_cases h0:t.ack=0
     ·have g4:(t.ack !=0)=false:=by rw[h0];rfl
      have HD2:Hid (LD SH CH w w8 q b Zj s t ta tc p (k+1)):=aj (by
       obtain⟨q1,q2,q3,q4,q5⟩:=ah C8;rw[if_pos h0] at q1;subst q1;exact⟨q2,q3,q4,q5⟩)
      clear C8 h0;go_wp2_with (at_builtin;refine Lib.wpList_append_run _ rfl _ _ _ _ rfl _ _ rfl rfl _ _ (ah qX) ?_);refine⟨⟨k+1,by go_num,by omega,HD2⟩,?_⟩;simp[intOf];omega
     ·have g4:(t.ack !=0)=true:=by simpa using h0
      have PA:=aj (LD.done (m:=m) (now:=now) C H (ah HTm) h0 (ah C8).1 (by omega) (ah C8).2.1 (ah C8).2.2.1 (ah C8).2.2.2.1 (ah C8).2.2.2.2);clear C8 h0;go_wp2_with (at_builtin;refine Lib.wpList_append_run _ rfl _ _ _ _ rfl _ _ rfl rfl _ _ (ah qX) ?_);refine(ah PA).mono ?_;rintro e w9 ⟨rfl,d9⟩;have D9:=aj d9;clear d9 PA;go_wp2_with fail;refine⟨⟨k+1,by go_num,by omega,D9⟩,?_⟩;simp[intOf];omega
    ·obtain rfl:k=N:=by omega
     have PS:=aj ((ah HD).none H C (ah vF) (ah HT0) (ah HTm) (ah HN).symm);clear HD;go_wp2_with fail;refine(ah PS).mono ?_;rintro e w5 ⟨rfl,d5⟩;obtain⟨x,hx⟩:∃x,x=w5.alloc (WG bJ):=⟨_,rfl⟩;rw[<-hx] at d5;have PA:=aj (d5.1.all H (ah vF));have D5:=aj d5;clear PS d5;go_upto_region 14 with fail
     rw[show w5.alloc (.cells #[.int .i64 0,.string ⟨#[]⟩,.string ⟨#[]⟩,.int .i64 0,.int .i64 0,.int .i64 0] 47)=x from hx.symm];clear hx;go_wp2_with fail;refine(ah PA).mono ?_;rintro e w9 ⟨a1,c1,rfl,⟨hc1,hc2⟩,s9,b9⟩;unfold maxLen at hc2;have D9:=aj ((ah D5).below H C b9);have S9:=aj s9;clear s9 b9 PA D5;have hfew:=(ah vF).few;go_wp2_with fail;go_loopw [12,78] (λwv iv wr=>∃(j:Nat),iv=.int .i64 j/\j<=s.l.length/\Hid (Nums wr w9.heap.size wv (lN ((s.l.take j).filter (lU t.f p)))/\Below w9.heap.size w9 wr)) (λ_ iv _=>s.l.length-(intOf iv).toNat)
     case atStart=>exact⟨0,rfl,Nat.zero_le _,aj ⟨World.ownsRow_nil _ _ _ _,Below.refl _ _⟩⟩
     case round =>
      obtain⟨j,rfl,hj,HR⟩:=hrel;have hwr:=(ah HR).2.size;by_cases hlt:j<s.l.length
      ·obtain⟨ga,o,rfl,s6⟩:=ah S9 j hlt;obtain⟨y,hy⟩:∃y,y=rc s.l j:=⟨_,rfl⟩;have s7:=s6.below (ah HR).2 s6.lt;have hft:=Oe (p:=lU t.f p) hlt;have hys:(rc s.l j).s.size<=135:=((ah vF).small (by rw[aW hlt];exact List.getElem_mem hlt)).1;rw[<-hy] at s7 hft hys;obtain⟨_,y0,y1,y2,y3,y4,y5⟩:=s7;have hlen2:(lN ((s.l.take j).filter (lU t.f p))).length<=200:=by
        rw[jw];refine Nat.le_trans (List.length_filter_le _ _) ?_;rw[List.length_take];omega
       obtain⟨wx,hwx⟩:∃wx,wx=wr.alloc (.cells #[.int .i64 y.k,.int .i64 y.q,.int .i64 y.t,.string y.s,.string y.h,.string y.d] 33):=⟨_,rfl⟩;have RX:=RB.new wr y.k y.q y.t y.s y.h y.d 33;rw[<-hwx] at RX;have hbx:Below wr.heap.size wr wx:=by rw[hwx];exact(Below.refl _ _).alloc (Nat.le_refl _) _
       have TX:=((ah D9).2.2.2.next (ah HR).2).next hbx;have k1:=TX.c1;have RX':=aj RX;obtain⟨_,p0,p1,p2,p3,p4,p5,_⟩:=RX;have Hx:=aj hbx;have LG:Hid (lU t.f p y=false->∀w3,Below wr.heap.size wr w3->Nums w3 w9.heap.size u12 (lN ((s.l.take (j+1)).filter (lU t.f p)))/\Below w9.heap.size w9 w3):=aj (λhg w3 hb3=>by
        rw[hft];simp only[hg,Bool.false_eq_true,if_false,List.append_nil];exact⟨(ah HR).1.below hb3,(ah HR).2.trans (hb3.mono hwr)⟩)
       have SX:Hid (lU t.f p y=true->∀w3,Below wr.heap.size wr w3->∃v8 w8,(Builtin.append_ #[22,22] 22 #[u12,.slice (some ⟨w3.heap.size,0,none⟩) 1 1]).run prog (w3.alloc (.cells #[.int .i64 y.q] 3))=.ok v8 w8/\Nums w8 w9.heap.size v8 (lN ((s.l.take (j+1)).filter (lU t.f p)))/\Below w9.heap.size w9 w8):=aj (λhg w3 hb3=>by
        rw[hft];simp only[hg,if_true];rw[GL];exact SL ((ah HR).1.below hb3) ((ah HR).2.trans (hb3.mono hwr)) y.q (by omega) (Nat.le_trans hwr hb3.size))
       have PI:=aj (vV t.f y.s wx hts.filt (by omega));clear hy hft s6 HR TX hbx;go_upto_region 22 with fail
       rw[<-hwx];clear hwx;by_cases hp:p<=y.q
       ·have e1:decide (p<=y.q)=true:=decide_eq_true hp;have e2:decide (y.q>=p)=true:=e1;have hwb:lU t.f p y=aF t.f y.s:=by unfold lU;rw[e1,Bool.true_and]
        clear hp;go_wp2_with fail;refine(ah PI).mono ?_;rintro e w3 ⟨rfl,b3⟩;have RX3:=(ah RX').next b3;have B3:=aj (ay (ah Hx) b3);clear b3 PI RX' p0 p1 p2 p3 p4 p5
        cases hm:aF t.f y.s with
        | false =>
         have G1:=aj (ah LG (hwb.trans hm) _ (ah B3));clear LG SX hm hwb RX3;go_wp2_with fail;refine⟨⟨j+1,by go_num,by omega,G1⟩,?_⟩;simp[intOf];omega
        | true =>
         obtain⟨v8,w8',hrun,n8⟩:=ah SX (hwb.trans hm) _ (ah B3);have N8:=aj n8;have qX:=aj hrun;obtain⟨_,p0,p1,p2,p3,p4,p5,_⟩:=RX3;clear LG SX hrun n8 hm hwb;go_wp2_with (at_builtin;refine Lib.wpList_append_run _ rfl _ _ _ _ rfl _ _ rfl rfl _ _ (ah qX) ?_);refine⟨⟨j+1,by go_num,by omega,N8⟩,?_⟩;simp[intOf];omega
       ·have e1:decide (p<=y.q)=false:=decide_eq_false hp;have e2:decide (y.q>=p)=false:=e1;have hwb:lU t.f p y=false:=by unfold lU;rw[e1,Bool.false_and]
        have G1:=aj (ah LG hwb _ (ah Hx));clear LG SX hwb hp PI RX';go_wp2_with fail;refine⟨⟨j+1,by go_num,by omega,G1⟩,?_⟩;simp[intOf];omega
      ·obtain rfl:j=s.l.length:=by omega
       have h3:=ah HR;rw[List.take_length,SV (ah vF) (Tk.iG (ah HT0)).2.1] at h3;have n9:=(ah D9).2.2.1;rw[<-ah HN,List.take_length] at n9;obtain⟨ga,gc,rfl,g9⟩:=n9.sl;obtain⟨aw,cw,rfl,g3⟩:=h3.1.sl;rw[jw,ah HN];have PE:=aj (qN ga aw gc cw (lN (aI t.f p s.l)) wr (bG g9 h3.2) g3 (by rw[jw,ah HN];omega));rw[jw,ah HN] at PE;have PI:Hid (∀n,∃f' p' c':Int,Calls prog 21 #[.pointer (some ⟨b,0,none⟩)] (wr.drewN n) λe w'=>e=.returned (.agg #[.int .i64 f',.int .i64 p',.int .i64 c',.int .i64 0])/\Below w.heap.size w w'):=aj (λn=>by
        have d10:=(ah D9).below H C (below_drewN h3.2 n);refine⟨fE (gK t p (aI t.f p s.l) k),(gK t p (aI t.f p s.l) k).pl-1,(gK t p (aI t.f p s.l) k).cn,(d10.1.info C d10.2.1).mono ?_⟩;rintro e w' ⟨he,hb⟩;exact⟨he,ay d10.1.base hb⟩)
       have hip:=Xa;clear HR S9 D9 hlt h3 n9 g9 g3;go_wp2_with fail;refine(ah PE).mono ?_;rintro e w11 ⟨rfl,nq,rfl⟩;obtain⟨f',p',c',PI2⟩:=ah PI nq;have PI3:=aj PI2;clear PE PI PI2;go_wp2_with fail;refine(ah PI3).mono ?_;rintro e w12 ⟨rfl,b12⟩;go_wp2_with fail;go_ret;exact⟨rfl,b12⟩
  ·have PN:=aj (C.bad t ta tc q hts (ah Xb) (w:=w2) (by rw[hE];exact hE0));rw[hE] at PN;have he:(E !=0)=true:=by simpa using hE0
   clear hE T2 U2 Xb T1 f2 b2;go_wp2_with fail;refine(ah PN).mono ?_;rintro e w3 ⟨rfl,b3⟩;go_wp2_with fail;go_ret;exact⟨rfl,ay (ah B2) b3⟩
end
