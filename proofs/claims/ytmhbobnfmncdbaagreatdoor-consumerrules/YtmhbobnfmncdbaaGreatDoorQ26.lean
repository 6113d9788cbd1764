/- A part. -/
import Derived.Test.YtmhbobnfmncdbaaGreatDoorQ25
import Derived.Deep.CutBlock
set_option maxRecDepth 100000
set_option maxHeartbeats 8000000
namespace Go.Proofs.YtmhbobnfmncdbaaGreatDoor
open Go.RowKit Go.Proofs.Tryz
namespace Dk
def numOf:Value->Int|.int _ q=>q|_=>0
theorem OE (x0 x1 x2 x3:Value)(W:World):(Instr.field 55 (.agg #[x0,x1,x2,x3]) 0).run prog W=.ok x0 W:=by kernel_rfl
section
variable {SH:World->Nat->Nat->(Nat->Prop)->bD->Prop}{CH:World->Nat->Nat->(Nat->Prop)->bJ->Prop}
theorem FQ (H:aQ SH)(C:bG SH CH)(V:mX SH)(t:Tk.bH)(ta:Option Addr)(tc:Nat)(l:List Rc)(a:Option Addr)(cap:Nat)(us:List wE)(ua:Option Addr)(uc:Nat)(w:World)(hts:gZ t)(oI:lF w ta t.bo)(hsl:ug w a l)(hsm:∀k,k<l.length->Small (rc l k))(hus:Dq w ua us)(hum:∀k,k<us.length->Small (VG us k).r) :
 Calls prog 4 #[lU t ta tc,.slice a l.length cap,.slice ua us.length uc] w λe w'=>e=.returned (.bool true)/\Below w.heap.size w w':=by
 obtain⟨W0,hW0⟩:∃W0,W0=w.alloc (oh t ta tc):=⟨_,rfl⟩;have b0:Below w.heap.size w W0:=by rw[hW0];exact(Below.refl _ _).alloc (Nat.le_refl _) _
 have T0:Hid (TB W0 w.heap.size t ta tc):=aj (by rw[hW0];exact TB.new w t ta tc);have PR:=aj (JQ H C W0);go_enter func4,ntmps4;go_upto_region 1 with fail
 rw[<-hW0];clear hW0;go_wp2_with fail;refine(ah PR).mono ?_;rintro e w1 ⟨rfl,b1⟩;have T1:=aj ((ah T0).next b1);have B1:=aj (ay b0 b1);have Un:=aj (dG oI (ay b0 b1));have S1:Hid (ug w1 a l):=aj (λk hk=>by
  obtain⟨b,o,h1,h2⟩:=hsl k hk;exact⟨b,o,h1,h2.below (ay b0 b1) h2.lt⟩)
 have HUs:=aj (hus.from (ay b0 b1) (Nat.le_refl _));have HM:=aj hsm;have HUm:=aj hum;clear PR T0 b1 b0 oI hsl hsm hus hum;by_cases hbad:60<l.length\/80<us.length
 ·have hev:(60:Int)<(l.length:Int)\/(decide ((60:Int)<(l.length:Int))=false/\(80:Int)<(us.length:Int)):=by
   by_cases z1:60<l.length
   ·exact .inl (by omega)
   ·exact .inr ⟨decide_eq_false (by omega),by omega⟩
  clear hbad;rcases hev with z1|⟨z1,z2⟩;all_goals
   go_wp2_with fail
   go_ret
   exact⟨rfl,ah B1⟩
 ·have z1:decide ((60:Int)<(l.length:Int))=false:=decide_eq_false (by omega);have z2:decide ((80:Int)<(us.length:Int))=false:=decide_eq_false (by omega);have aay:us.length<=80:=by omega
  have PF:=aj (wu H l a cap w1 (ah S1) (ah HM) (by omega));clear hbad S1 HM;go_wp2_with fail;refine(ah PF).mono ?_;rintro e w2 ⟨q,rfl,F,f2,b2⟩;have hok:=Ag l;obtain⟨s,hs⟩:∃s,s=fG l:=⟨_,rfl⟩;rw[<-hs] at f2 hok;have T2:=(ah T1).next b2;have Ry:=aj (dG (ah Un) b2);have hsz1:=(ah B1).size;have B2:=aj ((ah B1).trans (b2.mono hsz1));obtain⟨E,hE⟩:∃E,Tk.gX t=E:=⟨_,rfl⟩;have k0:=T2.c0;have k1:=T2.c1;have k2:=T2.c2;have k3:=T2.c3;have k4:=T2.c4;have k5:=T2.c5;have k6:=T2.c6;have k7:=T2.c7;have k8:=T2.c8;have k9:=T2.c9;by_cases hE0:E=0
  ·have PN:=aj (lg.new (w:=w1) (Cs:=λ_=>False) H C t ta tc hts (ah Ry) (by rw[hE,hE0]) f2 hok ⟨Nat.le_refl _,b2.size⟩ b2 (λ_ z=>z.elim));have HOk:=aj hok;have HT0:Hid (Tk.gX t=0):=aj (hE.trans hE0);have VK:=aj (bJ.Go.new (ah HT0) hts hok);have XG:=aj b2.size;have HTa:Hid (∀x,ta=some x->t.bo≠[]->x.block<w1.heap.size):=aj (λx hx hn=>by
    obtain⟨b',o,e1,e2,_⟩:=ah Un 0 (List.length_pos_iff.2 hn);rw[hx] at e1
    cases e1
    exact e2)
   clear f2 b2 hs hE T2 Ry PF hok hsz1;subst hE0;go_wp2_with fail;refine(ah PN).mono ?_;rintro e w3 ⟨⟨b,rfl,h3⟩,b3⟩;have hmm:=@run_makeMap prog;have R3:Hid (Rn SH CH (λ_=>False) w1 ((((w3.alloc (.map #[] 0)).alloc (.map #[] 0)).alloc (.map #[] 0)).alloc (.cells #[.map (some w3.heap.size),.map (some (w3.heap.size+1)),.map (some (w3.heap.size+2)),.int .i64 0,.int .i64 0] 66)) q b (w3.heap.size+3) w3.heap.size (w3.heap.size+1) (w3.heap.size+2) t s ⟨t,cu t s,[],0⟩ U6 0):=aj (by
    have hs3:=b3.size;have hs2:=ah XG;have hW:=gJ.new w3 (B:=w1.heap.size) (by omega);have hb:Below w3.heap.size w3 ((((w3.alloc (.map #[] 0)).alloc (.map #[] 0)).alloc (.map #[] 0)).alloc (.cells #[.map (some w3.heap.size),.map (some (w3.heap.size+1)),.map (some (w3.heap.size+2)),.int .i64 0,.int .i64 0] 66)):=((((Below.refl _ _).alloc (Nat.le_refl _) _).alloc (by simp) _).alloc (by simp;omega) _).alloc (by simp;omega) _;have hpl:=(ah VK).ok.pl;refine⟨h3.with H C hb (λj hj=>.inr ?_),hW,⟨rfl,λp hp=>(by cases hp),λx hx=>absurd rfl hx,λx hx=>(by cases hx),by show(0:Int)<_;omega,λht=>by show((0:Nat):Int)<=t.pe;exact Int.le_of_lt ht⟩,λp hp=>(by cases hp),ah VK,ah HOk,rfl⟩
    rcases hj with z|z
    ·refine⟨?_,(hW.own j z).2⟩;rcases z with y|y|y|y<;>omega
    ·exact z.elim)
   clear PN h3 b3 VK HOk XG k0 k1 k2 k3 k4 k5 k6 k7 k8 k9;go_upto_region 10 with fail
   obtain⟨w4,hw4⟩:∃w4,w4=((((w3.alloc (.map #[] 0)).alloc (.map #[] 0)).alloc (.map #[] 0)).alloc (.cells #[.map (some w3.heap.size),.map (some (w3.heap.size+1)),.map (some (w3.heap.size+1+1)),.int .i64 0,.int .i64 0] 66)):=⟨_,rfl⟩;obtain⟨wb,hwb⟩:∃wb,wb=w3.heap.size+1+1+1:=⟨_,rfl⟩;obtain⟨z,hz⟩:∃z,z=w3.heap.size+1+1:=⟨_,rfl⟩;obtain⟨n,hn⟩:∃n,n=w3.heap.size+1:=⟨_,rfl⟩;obtain⟨d,hd⟩:∃d,d=w3.heap.size:=⟨_,rfl⟩;have R4:Hid (Rn SH CH (λ_=>False) w1 w4 q b wb d n z t s ⟨t,cu t s,[],0⟩ U6 0):=aj (by rw[hw4,hwb,hz,hn,hd];exact ah R3);clear R3 hmm;rw[<-hw4,<-hwb,<-hz,<-hn,<-hd];clear hw4 hwb hz hn hd
   go_wp2_with fail;go_loopw [46] (λiv wr=>∃(k:Nat) (s:bD) (c:bJ) (W:uo),iv=.int .i64 k/\k<=us.length/\Hid (Rn SH CH (λ_=>False) w1 wr q b wb d n z t s c W k)) (λiv _=>us.length-(numOf iv).toNat)
   case atStart=>exact⟨0,_,_,_,rfl,Nat.zero_le _,R4⟩
   case round =>
    clear R4;obtain⟨k,s,c,W,rfl,hk,HD⟩:=hrel;by_cases hlt:k<us.length
    ·obtain⟨ba,bo,rfl,s11⟩:=ah HUs k hlt;have bl:=(ah HD).xu.base;have s12:=s11.keep bl.size (bl.block ba s11.1);have hsm:=ah HUm k hlt;obtain⟨u,hu⟩:∃u,VG us k=u:=⟨_,rfl⟩;rw[hu] at s12 hsm;have aad:=s12.1;have x0:wr.cell? ⟨ba,bo+k*11,none⟩=some (.int .i64 u.k):=s12.2 0 _ rfl;have x1:=s12.2 1 _ rfl;have x2:=s12.2 2 _ rfl;have x3:=s12.2 3 _ rfl;have x4:=s12.2 4 _ rfl;have x5:=s12.2 5 _ rfl;have x6:=s12.2 6 _ rfl;have x7:=s12.2 7 _ rfl;have x8:=s12.2 8 _ rfl;have x9:=s12.2 9 _ rfl;have x10:=s12.2 10 _ rfl;obtain⟨wx,hwx⟩:∃wx,wx=wr.alloc (.cells (QO u).toArray 45):=⟨_,rfl⟩;have hbx:Below wr.heap.size wr wx:=by rw[hwx];exact(Below.refl _ _).alloc (Nat.le_refl _) _
     have CBx:Hid (CB wx wr.heap.size (QO u)):=aj (by rw[hwx];exact CB.new wr (QO u) _);obtain⟨xb,hxb⟩:∃xb,xb=wr.heap.size:=⟨_,rfl⟩;have DX:Hid (Rn SH CH (λj=>j=xb) w1 wx q b wb d n z t s c W k):=aj ((ah HD).with H C hbx (λj hj=>.inr (by rw[hj,hxb];exact⟨Nat.le_refl _,by rw[hwx];simp⟩)));rw[<-hxb] at CBx;have PI:Hid (Calls prog 21 #[.pointer (some ⟨b,0,none⟩)] wx λe w'=>e=.returned (.agg #[.int .i64 (aJ c),.int .i64 (c.pl-1),.int .i64 c.cn,.int .i64 (c.pe.length:Int)])/\Below wx.heap.size wx w'):=aj ((ah DX).info C);clear s11 s12 bl hu hbx HD;go_upto_region 13 with fail
     rw[show wr.alloc (.cells #[.int .i64 u.k,.int .i64 u.now,.int .i64 u.q,.int .i64 u.so,.int .i64 u.n,.int .i64 u.r.k,.int .i64 u.r.q,.int .i64 u.r.t,.string u.r.s,.string u.r.h,.string u.r.d] 45)=wx from hwx.symm,<-hxb];clear hwx hxb x0 x1 x2 x3 x4 x5 x6 x7 x8 x9 x10 aad;obtain⟨fl,hfl⟩:∃fl,fl=aJ c:=⟨_,rfl⟩;rw[<-hfl] at PI;go_wp2_with fail;refine(ah PI).mono ?_;rintro e w6 ⟨rfl,b6⟩;have wH:=aj ((ah CBx).next b6);have D6:=aj ((ah DX).with H C b6 (λj hj=>.inl hj));have HFl:=aj hfl;have x0:=(ah wH).cell 0 _ rfl;have Kw:k<=80:=by omega
     clear PI CBx DX b6 hfl;have hif:=OE;go_upto_block 2 with fail
     go_cut [] (λwz=>Hid (∃s2 c2 W2,Rn SH CH (λ_=>False) w1 wz q b wb d n z t s2 c2 W2 (k+1)/\aJ c<=aJ c2))
     case first =>
      have x1:=(ah wH).cell 1 _ rfl;by_cases h0:u.k=0
      ·have e0:(u.k==0)=true:=by rw[h0];rfl
       obtain⟨E,hE⟩:∃E,(aI c s.l u.now).2.2=E:=⟨_,rfl⟩;clear h0;by_cases hE0:E=0
       ·obtain⟨m,cn,nn,lf,XH⟩:=(ah D6).U8 H C Kw u.now (hE.trans hE0);have PN:=aj XH;have hee:(E==0)=true:=by rw[hE0];rfl
        clear XH hE;subst hE0;go_wp2_with fail;refine(ah PN).mono ?_;rintro e w7 ⟨rfl,d7,AO⟩;obtain⟨w8,hw8⟩:∃w8,w8=w7.alloc (.cells #[.int .i64 m.q,.string m.s,.string m.d,.int .i64 cn,.int .i64 nn,.int .i64 lf] 47):=⟨_,rfl⟩;have b8:Below w7.heap.size w7 w8:=by rw[hw8];exact(Below.refl _ _).alloc (Nat.le_refl _) _
        have Ip:CB w8 w7.heap.size [.int .i64 m.q,.string m.s,.string m.d,.int .i64 cn,.int .i64 nn,.int .i64 lf]:=by rw[hw8];exact CB.new w7 [.int .i64 m.q,.string m.s,.string m.d,.int .i64 cn,.int .i64 nn,.int .i64 lf] _
        obtain⟨yb,hyb⟩:∃yb,yb=w7.heap.size:=⟨_,rfl⟩;rw[<-hyb] at Ip;have CB8:=((ah wH).aT AO (λy=>y (.inr rfl))).next b8;have D8:=aj (d7.with (Y:=λj=>j=xb\/j=yb) H C b8 (λj hj=>by
         rcases hj with y|y
         ·exact .inl y
         ·exact .inr (by rw[y,hyb,hw8];simp)))
        have hb8:=(ah D8).xu.base;have PD:=aj ((ah D8).told H C V Kw ta tc (dG (ah Un) hb8) (ah HTa) lf);have T8:=(ah T1).next hb8;have HF2:Hid (aJ c<=aJ (aI c s.l u.now).1):=aj (wG (ah D6).go.ok u.now);obtain⟨_,k0,k1,k2,k3,k4,k5,k6,k7,k8,k9⟩:=T8;have x1':=CB8.cell 1 _ rfl;have y0:=Ip.cell 0 _ rfl;have y1:=Ip.cell 1 _ rfl;have y2:=Ip.cell 2 _ rfl;have y3:=Ip.cell 3 _ rfl;have y4:=Ip.cell 4 _ rfl;have y5:=Ip.cell 5 _ rfl;clear PN d7 AO b8 CB8 Ip hb8 x0 x1 wH D6;go_upto_region 17 with fail
        rw[<-hw8,<-hyb];clear hw8 hyb;go_wp2_with fail;refine(ah PD).mono ?_;rintro e w9 ⟨rfl,d9,_⟩;have HX:Hid (∃s2 c2 W2,Rn SH CH (λ_=>False) w1 w9 q b wb d n z t s2 c2 W2 (k+1)/\aJ c<=aJ c2):=aj ⟨_,_,_,d9.with H C (Below.refl _ _) (λ_ y=>y.elim),ah HF2⟩;clear PD d9 D8 HF2 k0 k1 k2 k3 k4 k5 k6 k7 k8 k9 x1' y0 y1 y2 y3 y4 y5;go_wp2_with fail;go_meet
        exact HX
       ·obtain⟨y,XH⟩:=(ah D6).Rx H C Kw u.now hE hE0;have PN:=aj XH;have hee:(E==0)=false:=by simpa using hE0
        have HF2:Hid (aJ c<=aJ (aI c s.l u.now).1):=aj (wG (ah D6).go.ok u.now);clear XH hE hE0;go_wp2_with fail;refine(ah PN).mono ?_;rintro e w7 ⟨rfl,d7,AO⟩;obtain⟨w8,hw8⟩:∃w8,w8=w7.alloc (.cells #[.int .i64 y.q,.string y.s,.string y.d,.int .i64 y.c,.int .i64 y.n,.int .i64 y.l] 47):=⟨_,rfl⟩;have b8:Below w7.heap.size w7 w8:=by rw[hw8];exact(Below.refl _ _).alloc (Nat.le_refl _) _
        have HX:Hid (∃s2 c2 W2,Rn SH CH (λ_=>False) w1 w8 q b wb d n z t s2 c2 W2 (k+1)/\aJ c<=aJ c2):=aj ⟨_,_,_,d7.with H C b8 (λ_ y=>y.elim),ah HF2⟩;clear PN d7 AO b8 HF2 x0 x1 wH D6;go_upto_region 17 with fail
        rw[<-hw8];clear hw8;go_wp2_with fail;go_meet
        exact HX
      ·have e0:(u.k==0)=false:=by simpa using h0
       clear h0;by_cases h1:u.k=1
       ·have e1:(u.k==1)=true:=by rw[h1];rfl
        obtain⟨E,hE⟩:∃E,(dJ c u.now u.q u.so u.n).2=E:=⟨_,rfl⟩;have x2:=(ah wH).cell 2 _ rfl;have x3:=(ah wH).cell 3 _ rfl;have x4:=(ah wH).cell 4 _ rfl;clear h1;by_cases hE0:E=0
        ·have PN:=aj ((ah D6).XF H C Kw (hE.trans hE0));have HF2:Hid (aJ c<=aJ (dJ c u.now u.q u.so u.n).1):=aj (JL (ah D6).go.ok u.now u.q u.so u.n);clear hE hE0;go_wp2_with fail;refine(ah PN).mono ?_;rintro e w7 ⟨rfl,d7,AO⟩;have hb7:=d7.xu.base;have Fh:=(ah wH).aT AO (λy=>y (.inr rfl));have PD:=aj (d7.told H C Kw ta tc (dG (ah Un) hb7));have T7:=(ah T1).next hb7;obtain⟨_,k0,k1,k2,k3,k4,k5,k6,k7,k8,k9⟩:=T7;clear x0 x1 x2 x3 x4 PN d7 AO hb7 wH D6;have x0:=Fh.cell 0 _ rfl;have x1:=Fh.cell 1 _ rfl;have x2:=Fh.cell 2 _ rfl;have x3:=Fh.cell 3 _ rfl
         have x4:=Fh.cell 4 _ rfl;have x5:=Fh.cell 5 _ rfl;have x6:=Fh.cell 6 _ rfl;have x7:=Fh.cell 7 _ rfl;have x8:=Fh.cell 8 _ rfl;have x9:=Fh.cell 9 _ rfl;have x10:=Fh.cell 10 _ rfl;clear Fh;go_wp2_with fail;refine(ah PD).mono ?_;rintro e w9 ⟨rfl,d9,_⟩;have HX:Hid (∃s2 c2 W2,Rn SH CH (λ_=>False) w1 w9 q b wb d n z t s2 c2 W2 (k+1)/\aJ c<=aJ c2):=aj ⟨_,_,_,d9.with H C (Below.refl _ _) (λ_ y=>y.elim),ah HF2⟩;clear PD d9 HF2 k0 k1 k2 k3 k4 k5 k6 k7 k8 k9 x0 x1 x2 x3 x4 x5 x6 x7 x8 x9 x10;go_wp2_with fail;go_meet
         exact HX
        ·have PN:=aj ((ah D6).U9 H C Kw hE hE0);have hee:(E==0)=false:=by simpa using hE0
         clear hE hE0;go_wp2_with fail;refine(ah PN).mono ?_;rintro e w7 ⟨rfl,d7,AO⟩;have HX:Hid (∃s2 c2 W2,Rn SH CH (λ_=>False) w1 w7 q b wb d n z t s2 c2 W2 (k+1)/\aJ c<=aJ c2):=aj ⟨_,_,_,d7.with H C (Below.refl _ _) (λ_ y=>y.elim),Int.le_refl _⟩;clear PN d7 AO x0 x1 x2 x3 x4 wH D6;go_wp2_with fail;go_meet
         exact HX
       ·have e1:(u.k==1)=false:=by simpa using h1
        clear h1;by_cases h2:u.k=2
        ·have e2:(u.k==2)=true:=by rw[h2];rfl
         have x5:=(ah wH).cell 5 _ rfl;have x6:=(ah wH).cell 6 _ rfl;have x7:=(ah wH).cell 7 _ rfl;have x8:=(ah wH).cell 8 _ rfl;have x9:=(ah wH).cell 9 _ rfl;have x10:=(ah wH).cell 10 _ rfl;have PN:=aj ((ah D6).apply H C u.r hsm);clear h2;go_wp2_with fail;refine(ah PN).mono ?_;rintro e w7 ⟨rfl,d7,AO⟩;have HX:Hid (∃s2 c2 W2,Rn SH CH (λ_=>False) w1 w7 q b wb d n z t s2 c2 W2 (k+1)/\aJ c<=aJ c2):=aj ⟨_,_,_,d7.with H C (Below.refl _ _) (λ_ y=>y.elim),Int.le_refl _⟩;clear PN d7 AO x0 x1 x5 x6 x7 x8 x9 x10 wH D6;go_wp2_with fail;go_meet
         exact HX
        ·have e2:(u.k==2)=false:=by simpa using h2
         have HX:Hid (∃s2 c2 W2,Rn SH CH (λ_=>False) w1 w6 q b wb d n z t s2 c2 W2 (k+1)/\aJ c<=aJ c2):=aj ⟨_,_,_,((ah D6).more).with H C (Below.refl _ _) (λ_ y=>y.elim),Int.le_refl _⟩;clear h2 x0 x1 wH D6;go_wp2_with fail;go_meet
         exact HX
     case rest =>
      obtain⟨s2,c2,W2,d2,hf⟩:=ah hcut;have PI:Hid (Calls prog 21 #[.pointer (some ⟨b,0,none⟩)] wc λe w'=>e=.returned (.agg #[.int .i64 (aJ c2),.int .i64 (c2.pl-1),.int .i64 c2.cn,.int .i64 (c2.pe.length:Int)])/\Below wc.heap.size wc w'):=aj (d2.info C);have q1:decide (aJ c2<fl)=false:=decide_eq_false (by rw[ah HFl];omega);have q2:decide (c2.pl-1<aJ c2)=false:=decide_eq_false (by have:=E8 d2.go.ok;omega);have q3:(W2.cnt !=W2.cnt)=false:=by simp
      have hfull:0<t.pe->(c2.pe.length:Int)<=t.pe:=by rw[<-d2.pl];exact d2.inv.full
      rw[<-d2.inv.cnt] at PI;generalize aJ c2=f2 at PI q1 q2;generalize c2.pl-1=l2 at PI q2;generalize (c2.pe.length:Int)=p2 at PI hfull;have D2:=aj d2;clear hcut hf d2 D6 wH HFl x0 hsm;go_wp2_with fail;refine(ah PI).mono ?_;rintro e w7 ⟨rfl,b7⟩;obtain⟨w8,hw8⟩:∃w8,w8=w7.alloc (.cells #[.int .i64 f2,.int .i64 l2,.int .i64 W2.cnt,.int .i64 p2] 55):=⟨_,rfl⟩;have b8:Below w7.heap.size w7 w8:=by rw[hw8];exact(Below.refl _ _).alloc (Nat.le_refl _) _
      have Ip:CB w8 w7.heap.size [.int .i64 f2,.int .i64 l2,.int .i64 W2.cnt,.int .i64 p2]:=by rw[hw8];exact CB.new w7 [.int .i64 f2,.int .i64 l2,.int .i64 W2.cnt,.int .i64 p2] _
      have D8:=(ah D2).with (Y:=λ_=>False) H C (ay b7 b8) (λ_ y=>y.elim);have k8:=((ah T1).next D8.xu.base).c8;have y0:=Ip.cell 0 _ rfl;have y1:=Ip.cell 1 _ rfl;have y2:=Ip.cell 2 _ rfl;have y3:=Ip.cell 3 _ rfl;have z4:=D8.wO.c4;have Xx:=aj D8;clear PI D2 b7 b8 Ip D8;go_upto_region 25 with fail
      rw[<-hw8];clear hw8;by_cases hp:0<t.pe
      ·have p1:decide (0<t.pe)=true:=decide_eq_true hp;have p3:decide (t.pe<p2)=false:=decide_eq_false (by have:=hfull hp;omega);clear hp hfull;go_wp2_with (go_quiet (fail));refine⟨⟨k+1,s2,c2,W2,by go_num,by omega,aj ((ah Xx).with H C (below_drewN (Below.refl _ _) nq) (λ_ y=>y.elim))⟩,?_⟩;simp[numOf];omega
      ·have p1:decide (0<t.pe)=false:=decide_eq_false hp;clear hp hfull;go_wp2_with (go_quiet (fail));refine⟨⟨k+1,s2,c2,W2,by go_num,by omega,aj ((ah Xx).with H C (below_drewN (Below.refl _ _) nq) (λ_ y=>y.elim))⟩,?_⟩;simp[numOf];omega
    ·obtain rfl:k=us.length:=by omega
     have hb:=(ah HD).xu.base;go_wp2_with fail;go_ret;exact⟨rfl,(ah B1).trans (hb.mono (ah B1).size)⟩
  ·have PN:=aj (C.bad t ta tc q hts (ah Ry) (w:=w2) (by rw[hE];exact hE0));rw[hE] at PN;have he:(E !=0)=true:=by simpa using hE0
   clear hE T2 Un Ry T1 f2 b2;go_wp2_with fail;refine(ah PN).mono ?_;rintro e w3 ⟨rfl,b3⟩;go_wp2_with fail;go_ret;exact⟨rfl,ay (ah B2) b3⟩
end
