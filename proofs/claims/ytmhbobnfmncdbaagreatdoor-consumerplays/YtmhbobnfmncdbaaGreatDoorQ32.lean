/- A part. -/
import Derived.Test.YtmhbobnfmncdbaaGreatDoorQ6
import Derived.Test.YtmhbobnfmncdbaaGreatDoorQ13
import Derived.Test.YtmhbobnfmncdbaaGreatDoorQ17
import Derived.Test.YtmhbobnfmncdbaaGreatDoorQ31
import Derived.Deep.CutBlock
set_option maxRecDepth 100000
set_option maxHeartbeats 8000000
namespace Go.Proofs.YtmhbobnfmncdbaaGreatDoor
open Go.RowKit Go.Proofs.Tryz
namespace Dk
theorem abp (x:JF)(W:World):(binOp .eql 47 (Bv x) (Bv x)).run prog W=.ok (.bool true) W:=by
 have u3:=underlying3;have u9:=underlying9;have hS:prog.underlying 47=some (.struct (prog.fieldsOf 47)):=by kernel_rfl
 have hp:prog.stoodInHeld 47=false:=by kernel_rfl
 rw[run_eql_struct,show(10000:Nat)=9999+1 from rfl,run_equalIn_agg W 9999 47 _ _ hS hp];simp only[Program.fieldsOf,underlying47];go_simp
theorem aaA (x0 x1 x2 x3:Int)(W:World):(binOp .neq 55 (.agg #[.int .i64 x0,.int .i64 x1,.int .i64 x2,.int .i64 x3]) (.agg #[.int .i64 x0,.int .i64 x1,.int .i64 x2,.int .i64 x3])).run prog W=.ok (.bool false) W:=by
 have u3:=underlying3;have hS:prog.underlying 55=some (.struct (prog.fieldsOf 55)):=by kernel_rfl
 have hp:prog.stoodInHeld 55=false:=by kernel_rfl
 rw[run_neq_struct,show(10000:Nat)=9999+1 from rfl,run_equalIn_agg W 9999 55 _ _ hS hp];simp only[Program.fieldsOf,underlying55];go_simp
section
variable {SH:World->Nat->Nat->(Nat->Prop)->bD->Prop}{CH:World->Nat->Nat->(Nat->Prop)->aV->Prop}
def Uj (SH:World->Nat->Nat->(Nat->Prop)->bD->Prop)(CH:World->Nat->Nat->(Nat->Prop)->aV->Prop)(Cs:Nat->Prop)(w wr:World)(ta:Option Addr)(tc q b cq hh:Nat)(t:Tk.bY)(s:bD)(c:aV)(k:Nat):Prop:=Duo SH CH Cs w wr ta tc q b s c cq hh s c/\c.Go k/\s.Ok/\c.t=t
theorem Je (H:aS SH)(C:eF SH CH)(t:Tk.bY)(ta:Option Addr)(tc:Nat)(l:List Rc)(a:Option Addr)(cap:Nat)(us:List Ky)(ua:Option Addr)(uc:Nat)(w:World)(hts:iV t)(oK:jV w ta t.bo)(hsl:vJ w a l)(hsm:∀k,k<l.length->Small (rc l k))(hus:Fj w ua us)(hum:∀k,k<us.length->Small (Za us k).r) :
 Calls prog 3 #[pF t ta tc,.slice a l.length cap,.slice ua us.length uc] w λe w'=>e=.returned (.bool true)/\Below w.heap.size w w':=by
 obtain⟨W0,hW0⟩:∃W0,W0=w.alloc (qY t ta tc):=⟨_,rfl⟩;have b0:Below w.heap.size w W0:=by rw[hW0];exact(Below.refl _ _).alloc (Nat.le_refl _) _
 have T0:Hid (TB W0 w.heap.size t ta tc):=aj (by rw[hW0];exact TB.new w t ta tc);have B0:=aj b0;have Zk:=aj (bK oK b0);have zZ:Hid (vJ W0 a l):=aj (λk hk=>by
  obtain⟨b,o,h1,h2⟩:=hsl k hk;exact⟨b,o,h1,h2.below b0 h2.lt⟩)
 have HUs:=aj (hus.from b0 (Nat.le_refl _));have HM:=aj hsm;have HUm:=aj hum;have hz0:w.heap.size<W0.heap.size:=(ah T0).lt;have abq:=Zk;have abr:∀k,k<t.bo.length->∃b o,ta=some ⟨b,o,none⟩/\b<W0.heap.size/\W0.cell? ⟨b,o+k,none⟩=some (.int .i64 (nth t.bo k)):=bK oK b0;clear b0 oK hsl hsm hus hum;by_cases hbad:60<l.length\/80<us.length
 ·have hev:(60:Int)<(l.length:Int)\/(decide ((60:Int)<(l.length:Int))=false/\(80:Int)<(us.length:Int)):=by
   by_cases z1:60<l.length
   ·exact .inl (by omega)
   ·exact .inr ⟨decide_eq_false (by omega),by omega⟩
  go_enter func3,ntmps3;go_upto_region 1 with fail
  rw[<-hW0];clear hW0 hbad;rcases hev with z1|⟨z1,z2⟩;all_goals
   go_wp2_with fail
   go_ret
   exact⟨rfl,ah B0⟩
 ·have z1:decide ((60:Int)<(l.length:Int))=false:=decide_eq_false (by omega);have z2:decide ((80:Int)<(us.length:Int))=false:=decide_eq_false (by omega);have abR:l.length<=60:=by omega
  have abS:us.length<=80:=by omega
  clear hbad;go_enter func3,ntmps3;go_upto_region 1 with fail
  rw[<-hW0];clear hW0;go_wp2_with fail;refine(H.new W0).mono ?_;rintro e w1 ⟨q,F0,rfl,h1,b1⟩;have HP:Hid (Pair SH W0 (w1.alloc (.cells #[.slice none 0 0,.int .i64 0] 31)) q w1.heap.size (mZ (l.take 0)) (mZ (l.take 0))):=aj (by
   have ba:Below w1.heap.size w1 (w1.alloc (.cells #[.slice none 0 0,.int .i64 0] 31)):=(Below.refl _ _).alloc (Nat.le_refl _) _;refine⟨F0,λk=>k=w1.heap.size,H.aW (A:=λ_=>False) h1 (aB.of_below ba) (λ_ _ z=>z),⟨.slice none 0 0,⟨b1.size,by simp⟩,by simp,by simp[mZ],by simp,by simp,bT.empty _ _,by simp[Value.ownBlock],λk=>by simp[Value.ownBlock]⟩,λk hk z=>?_,ay b1 ba⟩;have:=(H.own h1 k hk).2;omega)
  obtain⟨cq,hc⟩:∃c,c=w1.heap.size:=⟨_,rfl⟩;rw[<-hc] at HP;clear h1 b1;go_wp2_with fail;rw[<-hc];clear hc;go_loopw [35] (λiv wr=>∃(k:Nat),iv=.int .i64 k/\k<=l.length/\Hid (Pair SH W0 wr q cq (mZ (l.take k)) (mZ (l.take k)))) (λiv _=>l.length-(intOf iv).toNat)
  case atStart=>exact⟨0,rfl,Nat.zero_le _,HP⟩
  case round =>
   clear HP;obtain⟨k,rfl,hk,HP⟩:=hrel;by_cases hlt:k<l.length
   ·obtain⟨ba,bo,rfl,s6⟩:=ah zZ k hlt;have s7:Six wr ba (bo+k*6) (rc l k):=by
     obtain⟨_,_,_,_,_,hb⟩:=ah HP;exact s6.below hb s6.lt
    have hsm:=ah HM k hlt;have hok:=FD (l.take k);have hft:=II hlt;obtain⟨s',hs'⟩:∃s',s'=mZ (l.take (k+1)):=⟨_,rfl⟩;rw[<-hs'] at hft;have HS':=aj hs';clear hs';generalize mZ (l.take k)=s at *;generalize rc l k=r at *;obtain⟨_,x0,x1,x2,x3,x4,x5⟩:=s7;have B0':=aj ((ah HP).box H r);have P3:=aj (((ah B0').next H (Below.refl _ _).drew).apply H hok r hsm);obtain⟨_,u0,u1,u2,u3,u4,u5,_⟩:=(ah B0').rb;clear s6 HP;go_wp2_with fail;go_region_held3 (λw'=>w'.cell? ⟨wr.heap.size,0,none⟩=some (.int .i64 r.k)/\w'.cell? ⟨wr.heap.size,1,none⟩=some (.int .i64 r.q)/\w'.cell? ⟨wr.heap.size,2,none⟩=some (.int .i64 r.t)/\w'.cell? ⟨wr.heap.size,3,none⟩=some (.string r.s)/\w'.cell? ⟨wr.heap.size,4,none⟩=some (.string r.h)/\w'.cell? ⟨wr.heap.size,5,none⟩=some (.string r.d)) (first|(refine⟨?_,?_,?_,?_,?_,?_⟩<;>assumption)|go_keep)
     (first
      | (go_at_call 8;refine(ah P3).mono ?_;rintro e w4 ⟨rfl,p4⟩;have P4:=aj (p4.Yh H hok r hsm);obtain⟨_,v0,v1,v2,v3,v4,v5,_⟩:=p4.rb;clear p4)
      | (go_at_call 9;refine(ah P4).mono ?_;rintro e w5 ⟨rfl,p5⟩;obtain⟨_,t0,t1,t2,t3,t4,t5,_⟩:=p5.rb))
    have B5:Hid (Pair SH W0 w5 q cq s' s'):=aj (by rw[hft];exact p5.pair);clear p5 P3 P4 B0' u0 u1 u2 u3 u4 u5 v0 v1 v2 v3 v4 v5 t0 t1 t2 t3 t4 t5 hft x0 x1 x2 x3 x4 x5;go_wp2_with fail;refine⟨⟨k+1,by go_num,by omega,by rw[<-ah HS'];exact B5⟩,?_⟩;simp[intOf];omega
   ·obtain rfl:k=l.length:=by omega
    rw[List.take_length] at HP;have hok:=FD l;obtain⟨s,hs⟩:∃s,s=mZ l:=⟨_,rfl⟩;rw[<-hs] at HP hok;have Dq:=aj hok;clear hs hok hlt hk zZ HM;obtain⟨F,G,f1,g1,d1,bl⟩:=ah HP;have T1:=(ah T0).next bl;have HT1:=aj T1;have BL:=aj bl;have Oj:=aj (bK (ah Zk) bl);obtain⟨E,hE⟩:∃E,Tk.gG t=E:=⟨_,rfl⟩;have HE:=aj hE;by_cases hE0:E=0
    ·have PN:=aj (C.new t ta tc hts (ah Oj) (by rw[hE,hE0]) f1 (ah Dq) bl.size);have HT0:Hid (Tk.gG t=0):=aj (hE.trans hE0);have HG0:=aj (aV.Go.new (ah HT0) hts (ah Dq));have H1:=aj (And.intro f1 (And.intro g1 d1));subst hE0;obtain⟨_,x0,x1,x2,x3,x4,x5,x6,x7,x8,x9⟩:=T1;clear hE f1 g1 d1 bl HP Zk;go_wp2_with fail;refine(ah PN).mono ?_;rintro e w3 ⟨⟨b,G3,rfl,c3⟩,b3⟩;have T3:=(ah HT1).next b3;have PT:=aj (yu t ta tc w3 hts (bK (ah Oj) b3));rw[ah HE] at PT;have H3:=aj (And.intro c3 b3);have HT3:=aj T3;clear x0 x1 x2 x3 x4 x5 x6 x7 x8 x9 PN c3 b3
     obtain⟨_,x0,x1,x2,x3,x4,x5,x6,x7,x8,x9⟩:=T3;go_wp2_with fail;refine(ah PT).mono ?_;rintro e w4 ⟨rfl,b4⟩;have T4:=(ah HT3).next b4;have hb4:=ay (ah H3).2 b4;have PH:=aj (F5 t ta tc hts.filt (bK (ah Oj) hb4) (Tk.iZ (ah HT0)).2.1 ((ah H1).2.1.below hb4) (ah Dq));have B4:=aj b4;clear x0 x1 x2 x3 x4 x5 x6 x7 x8 x9 PT hb4 b4 HT3;have HT4:=aj T4;obtain⟨_,x0,x1,x2,x3,x4,x5,x6,x7,x8,x9⟩:=T4;go_wp2_with fail;refine(ah PH).mono ?_;rintro e w5 ⟨⟨hh,rfl,h5⟩,b5⟩;have D5:Hid (Uj SH CH (λ_=>False) W0 w5 ta tc q b cq hh t s ⟨t,bC t s,[],0⟩ 0):=aj (by
      obtain⟨f1,g1,d1⟩:=ah H1;obtain⟨c3,b3⟩:=ah H3;have b4:=ah B4;have bl:=ah BL;have s3:=b3.size;have s4:=b4.size;have s5:=b5.size;have sl:=bl.size;have b35:=ay (ay b3 b4) b5;have hF:=λk (hk:F k)=>H.own f1 k hk
      have hG:=λk (hk:G k)=>g1.own k hk
      have h3:=λk (hk:G3 k)=>C.own c3 k hk
      have hb0:hh<w5.heap.size:=h5.tb.lt;have hb1:w4.heap.size<=hh:=h5.bB;refine⟨⟨λk=>G k\/gu hh (.slice none 0 0) k,⟨_,F,_,G3,H.aW (A:=λ_=>False) f1 (aB.of_below b35) (λ_ _ z=>z),C.aW (A:=λ_=>False) c3 (aB.of_below (ay b4 b5)) (λ_ _ z=>z),⟨Nat.le_refl _,by omega⟩,⟨sl,by omega⟩,λk hk z=>?_,ay (ay (ay bl b3) b4) b5,λk hk=>?_⟩,⟨_,G,_,_,g1.below b35,h5,⟨Nat.le_refl _,by omega⟩,⟨by omega,by omega⟩,λk hk z=>?_,λk=>Iff.rfl,ay (ay (ay bl b3) b4) b5,λhn z hz=>?_⟩,λk z=>z.elim⟩,ah HG0,ah Dq,rfl⟩
      ·have:=hF k hk;have:=h3 k z;omega
      ·rcases hk with z|z|z|z
       ·exact z.elim
       ·have:=hG k z;exact⟨by omega,λy=>d1 k y z,λy=>by have:=h3 k y;omega⟩
       ·rw[z];exact⟨hb0,λy=>by have:=hF hh y;omega,λy=>by have:=h3 hh y;omega⟩
       ·cases z
      ·have:=hG k hk;rcases z with z|z
       ·omega
       ·cases z
      ·obtain⟨k,hk⟩:∃k,k<t.bo.length:=⟨0,List.length_pos_iff.2 hn⟩;obtain⟨bb,o,e1,e2,_⟩:=abr k hk;rw[hz] at e1
       cases e1
       exact e2)
     clear H1 H3 B4 BL PH x0 x1 x2 x3 x4 x5 x6 x7 x8 x9 b5 h5 Oj HT1 HG0 HT4;go_wp2_with fail;go_loopw [73] (λiv wr=>∃(k:Nat) (s:bD) (c:aV),iv=.int .i64 k/\k<=us.length/\Hid (Uj SH CH (λ_=>False) W0 wr ta tc q b cq hh t s c k)) (λiv _=>us.length-(intOf iv).toNat)
     case atStart=>exact⟨0,_,_,rfl,Nat.zero_le _,D5⟩
     case round =>
      clear D5 Dq;obtain⟨k,s,c,rfl,hk,HD⟩:=hrel;by_cases hlt:k<us.length
      ·obtain⟨ba,bo,rfl,s11⟩:=ah HUs k hlt;have bl:=(ah HD).1.base;have s12:=s11.keep bl.size (bl.block ba s11.1);have hsm:=ah HUm k hlt;obtain⟨u,hu⟩:∃u,Za us k=u:=⟨_,rfl⟩;rw[hu] at s12 hsm;have abt:=s12.1;have x0:wr.cell? ⟨ba,bo+k*11,none⟩=some (.int .i64 u.k):=s12.2 0 _ rfl;have x1:=s12.2 1 _ rfl;have x2:=s12.2 2 _ rfl;have x3:=s12.2 3 _ rfl;have x4:=s12.2 4 _ rfl;have x5:=s12.2 5 _ rfl;have x6:=s12.2 6 _ rfl;have x7:=s12.2 7 _ rfl;have x8:=s12.2 8 _ rfl;have x9:=s12.2 9 _ rfl;have x10:=s12.2 10 _ rfl;obtain⟨wx,hwx⟩:∃wx,wx=wr.alloc (.cells (tuL u).toArray 45):=⟨_,rfl⟩;have hbx:Below wr.heap.size wr wx:=by rw[hwx];exact(Below.refl _ _).alloc (Nat.le_refl _) _
       have Dt:Hid (CB wx wr.heap.size (tuL u)):=aj (by rw[hwx];exact CB.new wr (tuL u) _);obtain⟨xb,hxb⟩:∃xb,xb=wr.heap.size:=⟨_,rfl⟩;have DX:Hid (Uj SH CH (λj=>j=xb) W0 wx ta tc q b cq hh t s c k):=aj ⟨(ah HD).1.with H C hbx (λj hj=>.inr (by rw[hj,hxb];exact⟨Nat.le_refl _,by rw[hwx];simp⟩)),(ah HD).2⟩;rw[<-hxb] at Dt;have hxw:W0.heap.size<=xb:=by rw[hxb];exact bl.size
       clear s11 s12 bl hu hbx HD;go_upto_region 18 with fail
       rw[show wr.alloc (.cells #[.int .i64 u.k,.int .i64 u.now,.int .i64 u.q,.int .i64 u.so,.int .i64 u.n,.int .i64 u.r.k,.int .i64 u.r.q,.int .i64 u.r.t,.string u.r.s,.string u.r.h,.string u.r.d] 45)=wx from hwx.symm,<-hxb];clear hwx hxb x0 x1 x2 x3 x4 x5 x6 x7 x8 x9 x10 abt;have x0:=(ah Dt).cell 0 _ rfl;have DX0:=aj (ah DX).1.base;go_upto_block 4 with fail
       go_cut [17] (λok wz=>ok=.bool true/\Hid (∃s2 c2,Uj SH CH (λj=>j=xb) W0 wz ta tc q b cq hh t s2 c2 (k+1))/\Hid (aB (λj=>W0.heap.size<=j/\¬j=xb) wx wz))
       case first =>
        obtain⟨D1,hg,hok,hct⟩:=ah DX;have HG:=aj hg;have Dq:=aj hok;have Xl:=aj hct;have abT:k<=80:=by omega
        have Ol:Hid (c.t.bo.length<=5):=aj hg.bo;have Xm:=aj D1;clear DX D1 hg hok hct;have x1:=(ah Dt).cell 1 _ rfl;by_cases h0:u.k=0
        ·have e0:(u.k==0)=true:=by rw[h0];rfl
         have PN:=aj ((ah Xm).Uc (λE hE=>hE.next H C (ah HG) (by omega) (ah Dq) u.now));clear h0;go_wp2_with fail;refine(ah PN).mono ?_;rintro e w6 ⟨rfl,d6,ch6⟩;obtain⟨y,hy⟩:∃y,lC (aQ c s.l u.now).1 s.l (aQ c s.l u.now).2.1=y:=⟨_,rfl⟩;obtain⟨E,hE⟩:∃E,(aQ c s.l u.now).2.2=E:=⟨_,rfl⟩;have HY:=aj (And.intro hy hE);rw[hy,hE];obtain⟨w7,hw7⟩:∃w7,w7=w6.alloc (Yl y):=⟨_,rfl⟩;have b7:Below w6.heap.size w6 w7:=by rw[hw7];exact(Below.refl _ _).alloc (Nat.le_refl _) _
         have CBy:Hid (CB w7 w6.heap.size (jh y)):=aj (by rw[hw7];exact CB.new w6 (jh y) _);obtain⟨yb,hyb⟩:∃yb,yb=w6.heap.size:=⟨_,rfl⟩;have D7:=aj (d6.with (D:=λj=>j=xb\/j=yb) H C b7 (λj hj=>by
          rcases hj with z|z
          ·exact .inl z
          ·exact .inr (by rw[z,hyb,hw7];simp)))
         rw[<-hyb] at CBy;have CY:=aj (((ah Dt).aW ch6 (λz=>z.2 rfl)).next b7);have CH7:=aj (ch6.trans (aB.of_below b7));clear PN d6 ch6 hy hE b7 e0 x1 x0;have x1:=(ah CY).cell 1 _ rfl;go_upto_region 22 with fail
         rw[show w6.alloc (.cells #[.int .i64 y.q,.string y.s,.string y.d,.int .i64 y.c,.int .i64 y.n,.int .i64 y.l] 47)=w7 from hw7.symm,<-hyb];clear hw7 hyb;have PM:=aj ((ah D7).doc H C (λE hE=>hE.did (pK c s.l u.now) (λB F B' v f1 m1 d1=>Oi m1 (ah HG).ok f1 (ah Dq) d1 (ah HG).waits (by have:=ah Ol;omega) (ah HG).filt (ah HG).small.filt (by have:=(ah HG).cn;omega) (by have:=(ah HG).len;omega) (λp hp=>by have:=(ah HG).nth p hp;omega) u.now)));rw[(ah HY).1,(ah HY).2] at PM;go_wp2_with fail;refine(ah PM).mono ?_;rintro e w8 ⟨rfl,d8,Xd⟩
         obtain⟨w9,hw9⟩:∃w9,w9=w8.alloc (Yl y):=⟨_,rfl⟩;have b9:Below w8.heap.size w8 w9:=by rw[hw9];exact(Below.refl _ _).alloc (Nat.le_refl _) _
         have YC:CB w9 w8.heap.size (jh y):=by rw[hw9];exact CB.new w8 (jh y) _
         have Jf:=((ah CBy).aW Xd (λz=>z.2 (.inr rfl))).next b9;have HX:Hid (∃s2 c2,Uj SH CH (λj=>j=xb) W0 w9 ta tc q b cq hh t s2 c2 (k+1)):=aj ⟨s,(aQ c s.l u.now).1,d8.with H C b9 (λj hj=>.inl (.inl hj)),(ah HG).next (ah Dq) u.now,ah Dq,by rw[pK];exact ah Xl⟩;have HZ:Hid (aB (λj=>W0.heap.size<=j/\¬j=xb) wx w9):=aj ((ah CH7).trans ((Xd.mono (λj _ z=>⟨z.1,λe=>z.2 (.inl e)⟩)).trans (aB.of_below b9)));have y0:=Jf.cell 0 _ rfl;have y1:=Jf.cell 1 _ rfl;have y2:=Jf.cell 2 _ rfl;have y3:=Jf.cell 3 _ rfl;have y4:=Jf.cell 4 _ rfl
         have y5:=Jf.cell 5 _ rfl;have z0:=YC.cell 0 _ rfl;have z1:=YC.cell 1 _ rfl;have z2:=YC.cell 2 _ rfl;have z3:=YC.cell 3 _ rfl;have z4:=YC.cell 4 _ rfl;have z5:=YC.cell 5 _ rfl;have hq:=abp y;have hee:(E==E)=true:=by simp
         clear PM d8 Xd b9 YC Jf D7 CY CH7 CBy Dt DX0 Xm HG Dq Xl Ol HY x1;go_upto_region 23 with fail
         rw[show w8.alloc (.cells #[.int .i64 y.q,.string y.s,.string y.d,.int .i64 y.c,.int .i64 y.n,.int .i64 y.l] 47)=w9 from hw9.symm];clear hw9;go_wp2_with fail;go_meet
         exact⟨rfl,HX,HZ⟩
        ·have e0:(u.k==0)=false:=by simpa using h0
         clear h0;by_cases h1:u.k=1
         ·have e1:(u.k==1)=true:=by rw[h1];rfl
          have bd:Below wx.heap.size wx wx.drew:=(Below.refl _ _).drew;have CB1:=aj ((ah Dt).next bd);have PA:=aj (((ah Xm).below H C bd).Uc (λE hE=>hE.answer H C (ah HG) (by omega) u.now u.q u.so u.n));have HD:=aj bd;have x2:=(ah Dt).cell 2 _ rfl;have x3:=(ah Dt).cell 3 _ rfl;have x4:=(ah Dt).cell 4 _ rfl;have hee:((fO c u.now u.q u.so u.n).2==(fO c u.now u.q u.so u.n).2)=true:=by simp
          obtain⟨E,hE⟩:∃E,(fO c u.now u.q u.so u.n).2=E:=⟨_,rfl⟩;have CJ:=aj hE;rw[hE] at PA hee;clear h1 x0 Xm bd hE;go_upto_region 25 with fail
          go_region_held3 (λW=>W.cell? ⟨xb,1,none⟩=some (.int .i64 u.now)/\W.cell? ⟨xb,2,none⟩=some (.int .i64 u.q)/\W.cell? ⟨xb,3,none⟩=some (.int .i64 u.so)/\W.cell? ⟨xb,4,none⟩=some (.int .i64 u.n)) (first|(refine⟨?_,?_,?_,?_⟩<;>assumption)|go_keep)
           (first
            | (go_at_call 15;refine(ah PA).mono ?_;rintro e w6 ⟨rfl,d6,ch6⟩;have Dx:=aj ((ah CB1).aW ch6 (λz=>z.2 rfl));have p1:=(ah Dx).cell 1 _ rfl;have p2:=(ah Dx).cell 2 _ rfl;have p3:=(ah Dx).cell 3 _ rfl;have p4:=(ah Dx).cell 4 _ rfl;have PB:=aj (d6.doc H C (λE hE=>hE.did (su c u.now u.q u.so u.n) (λB F B' v f1 m1 d1=>F7 m1 (ah HG).ok (ah HG).waits (by have:=ah Ol;omega) (λp hp=>by have:=(ah HG).nth p hp;omega) (by have:=(ah HG).len;omega) u.now u.q u.so u.n)));rw[ah CJ] at PB;have C6:=aj ch6;clear d6 ch6)
            | (go_at_call 16;refine(ah PB).mono ?_;rintro e w7 ⟨rfl,d7,KG⟩;have CY:=(ah Dx).aW KG (λz=>z.2 rfl);have q1:=CY.cell 1 _ rfl;have q2:=CY.cell 2 _ rfl;have q3:=CY.cell 3 _ rfl;have q4:=CY.cell 4 _ rfl;clear CY))
          have HX:Hid (∃s2 c2,Uj SH CH (λj=>j=xb) W0 w7 ta tc q b cq hh t s2 c2 (k+1)):=aj ⟨s,(fO c u.now u.q u.so u.n).1,d7,((ah HG).ans u.now u.q u.so u.n).more (Nat.le_succ _),ah Dq,by rw[su];exact ah Xl⟩;have HZ:Hid (aB (λj=>W0.heap.size<=j/\¬j=xb) wx w7):=aj ((aB.of_below (ah HD)).trans ((ah C6).trans KG));clear p1 p2 p3 p4 q1 q2 q3 q4 PA PB C6 Dx d7 KG x1 x2 x3 x4 HG Dq Xl Ol DX0 HD CB1;go_wp2_with fail;go_meet
          exact⟨rfl,HX,HZ⟩
         ·have e1:(u.k==1)=false:=by simpa using h1
          clear h1;by_cases h2:u.k=2
          ·have e2:(u.k==2)=true:=by rw[h2];rfl
           have bd:Below wx.heap.size wx wx.drew:=(Below.refl _ _).drew;have CB1:=aj ((ah Dt).next bd);have PA:=aj (((ah Xm).below H C bd).Uc (λE hE=>hE.X8 H C (λB F hS hB=>H.apply u.r hsm hS (ah Dq) hB)));have HD:=aj bd;have x5:=(ah Dt).cell 5 _ rfl;have x6:=(ah Dt).cell 6 _ rfl;have x7:=(ah Dt).cell 7 _ rfl;have x8:=(ah Dt).cell 8 _ rfl;have x9:=(ah Dt).cell 9 _ rfl;have x10:=(ah Dt).cell 10 _ rfl;have hee:(bQ s u.r==bQ s u.r)=true:=by simp
           clear h2 x0 x1 Xm bd;go_upto_region 27 with fail
           go_region_held3 (λW=>W.cell? ⟨xb,5,none⟩=some (.int .i64 u.r.k)/\W.cell? ⟨xb,6,none⟩=some (.int .i64 u.r.q)/\W.cell? ⟨xb,7,none⟩=some (.int .i64 u.r.t)/\W.cell? ⟨xb,8,none⟩=some (.string u.r.s)/\W.cell? ⟨xb,9,none⟩=some (.string u.r.h)/\W.cell? ⟨xb,10,none⟩=some (.string u.r.d)) (first|(refine⟨?_,?_,?_,?_,?_,?_⟩<;>assumption)|go_keep)
            (first
             | (go_at_call 8;refine(ah PA).mono ?_;rintro e w6 ⟨rfl,d6,ch6⟩;have Dx:=aj ((ah CB1).aW ch6 (λz=>z.2 rfl));have p1:=(ah Dx).cell 5 _ rfl;have p2:=(ah Dx).cell 6 _ rfl;have p3:=(ah Dx).cell 7 _ rfl;have p4:=(ah Dx).cell 8 _ rfl;have p5:=(ah Dx).cell 9 _ rfl;have p6:=(ah Dx).cell 10 _ rfl;have PB:=aj (d6.doc H C (λE hE=>hE.X8 (λB F hS hB=>yx u.r hsm hS (ah Dq) hB)));have C6:=aj ch6;clear d6 ch6)
             | (go_at_call 9;refine(ah PB).mono ?_;rintro e w7 ⟨rfl,d7,KG⟩;have CY:=(ah Dx).aW KG (λz=>z.2 rfl);have q1:=CY.cell 5 _ rfl;have q2:=CY.cell 6 _ rfl;have q3:=CY.cell 7 _ rfl;have q4:=CY.cell 8 _ rfl;have q5:=CY.cell 9 _ rfl;have q6:=CY.cell 10 _ rfl;clear CY))
           have HX:Hid (∃s2 c2,Uj SH CH (λj=>j=xb) W0 w7 ta tc q b cq hh t s2 c2 (k+1)):=aj ⟨gW s u.r,c,d7,(ah HG).more (Nat.le_succ _),(ah Dq).apply u.r,ah Xl⟩;have HZ:Hid (aB (λj=>W0.heap.size<=j/\¬j=xb) wx w7):=aj ((aB.of_below (ah HD)).trans ((ah C6).trans KG));clear p1 p2 p3 p4 p5 p6 q1 q2 q3 q4 q5 q6 PA PB C6 Dx d7 KG x5 x6 x7 x8 x9 x10 HG Dq Xl Ol DX0 HD CB1;go_wp2_with fail;go_meet
           exact⟨rfl,HX,HZ⟩
          ·have e2:(u.k==2)=false:=by simpa using h2
           have HX:Hid (∃s2 c2,Uj SH CH (λj=>j=xb) W0 wx ta tc q b cq hh t s2 c2 (k+1)):=aj ⟨s,c,ah Xm,(ah HG).more (Nat.le_succ _),ah Dq,ah Xl⟩;clear h2 Xm HG Dq Xl Ol DX0 Dt x1;go_wp2_with fail;go_meet
           exact⟨rfl,HX,aj (aB.refl _ _)⟩
       case rest =>
        obtain⟨rfl,HX,HZ⟩:=hcut;obtain⟨s2,c2,d2,hg2,hok2,aaB⟩:=ah HX;have Xn:=aj ((ah Dt).aW (ah HZ) (λz=>z.2 rfl));have HR:Hid (∀W,Below wc.heap.size wc W->Uj SH CH (λj=>j=xb) W0 W ta tc q b cq hh t s2 c2 (k+1)):=aj (λW hW=>⟨d2.below H C hW,hg2,hok2,aaB⟩);have hl2:=hg2.len;have x2:=(ah Xn).cell 2 _ rfl;have HG2:=aj hg2;obtain⟨dn,hdn⟩:∃dn,zT c2 u.q=dn:=⟨_,rfl⟩;obtain⟨du,hdu⟩:∃du,yL c2.pe=du:=⟨_,rfl⟩;obtain⟨fl,hfl⟩:∃fl,fK c2=fl:=⟨_,rfl⟩;obtain⟨ls,hls⟩:∃ls,c2.pl-1=ls:=⟨_,rfl⟩;obtain⟨pn,hpn⟩:∃pn:Int,(c2.pe.length:Int)=pn:=⟨_,rfl⟩;have K:Hid (∀W,Below wc.heap.size wc W->(Calls prog 17 #[.pointer (some ⟨b,0,none⟩),.int .i64 u.q] W λe w'=>e=.returned (.bool dn)/\Below W.heap.size W w')/\(Calls prog 18 #[.pointer (some ⟨hh,0,none⟩),.int .i64 u.q] W λe w'=>e=.returned (.bool dn)/\Below W.heap.size W w')/\(Calls prog 19 #[.pointer (some ⟨b,0,none⟩)] W λe w'=>e=.returned (.int .i64 du)/\Below W.heap.size W w')/\(Calls prog 20 #[.pointer (some ⟨hh,0,none⟩)] W λe w'=>e=.returned (.int .i64 du)/\Below W.heap.size W w')/\(Calls prog 21 #[.pointer (some ⟨b,0,none⟩)] W λe w'=>e=.returned (Wy fl ls c2.cn pn)/\Below W.heap.size W w')/\(Calls prog 22 #[.pointer (some ⟨hh,0,none⟩)] W λe w'=>e=.returned (Wy fl ls c2.cn pn)/\Below W.heap.size W w')):=aj (λW hW=>by
         obtain⟨⟨E,⟨_,_,_,_,_,c3,_⟩,⟨_,_,_,v,_,m3,_⟩,_⟩,_⟩:=ah HR W hW;subst hdn hdu hfl hls hpn;exact⟨C.done c3 (ah HG2) (by omega) u.q,Na m3 (by omega) u.q,C.due c3 (ah HG2) (by omega),QC m3 (ah HG2).ok (by omega),C.info c3 (ah HG2),ND m3 (ah HG2).ok⟩)
        have hN:=aaA fl ls c2.cn pn;have hm:prog.eqGuardType prog.depth 55=false:=by kernel_rfl
        have hdd:(dn !=dn)=false:=by simp
        have abU:(du !=du)=false:=by simp
        have Bd:=aj (show Below wc.heap.size wc wc.drew from(Below.refl _ _).drew);clear HX HZ Dt DX DX0 d2 hg2 hok2 aaB hdn hdu hfl hls hpn HG2;go_upto_region 28 with fail
        go_region_held3 (λW=>W.cell? ⟨xb,2,none⟩=some (.int .i64 u.q)) (first|assumption|go_keep)
         (first
          | (go_at_call 17;refine(ah K _ (ah Bd)).1.mono ?_;rintro e w1 ⟨rfl,b1⟩;have Wh:=aj (ay (ah Bd) b1);have k1:=((ah Xn).next (ah Wh)).cell 2 _ rfl;clear b1 Bd)
          | (go_at_call 18;refine(ah K _ (ah Wh)).2.1.mono ?_;rintro e w2 ⟨rfl,b2⟩;have YD:=aj (ay (ah Wh) b2);have k2:=((ah Xn).next (ah YD)).cell 2 _ rfl;clear b2 Wh)
          | (go_at_call 19;refine(ah K _ (ah YD)).2.2.1.mono ?_;rintro e w3 ⟨rfl,b3⟩;have Bd3:=aj (ay (ah YD) b3);have k3:=((ah Xn).next (ah Bd3)).cell 2 _ rfl;clear b3 YD)
          | (go_at_call 20;refine(ah K _ (ah Bd3)).2.2.2.1.mono ?_;rintro e w4 ⟨rfl,b4⟩;have Bd4:=aj (ay (ah Bd3) b4);have k4:=((ah Xn).next (ah Bd4)).cell 2 _ rfl;clear b4 Bd3)
          | (go_at_call 21;refine(ah K _ (ah Bd4)).2.2.2.2.1.mono ?_;rintro e w5 ⟨rfl,b5⟩;have Bd5:=aj (ay (ah Bd4) b5);have k5:=((ah Xn).next (ah Bd5)).cell 2 _ rfl;clear b5 Bd4)
          | (go_at_call 22;refine(ah K _ (ah Bd5)).2.2.2.2.2.mono ?_;rintro e w6 ⟨rfl,b6⟩;have Bd6:=aj (ay (ah Bd5) b6);have k6:=((ah Xn).next (ah Bd6)).cell 2 _ rfl;clear b6 Bd5))
        have HF:Hid (Uj SH CH (λ_=>False) W0 w6 ta tc q b cq hh t s2 c2 (k+1)):=aj (by
         obtain⟨a1,a2⟩:=ah HR _ (ah Bd6);exact⟨a1.with H C (Below.refl _ _) (λ_ z=>z.elim),a2⟩)
        clear k1 k2 k3 k4 k5 k6 K HR Bd6 Xn x2 hN hm;go_wp2_with fail;refine⟨⟨k+1,s2,c2,by go_num,by omega,HF⟩,?_⟩;simp[intOf];omega
      ·obtain rfl:k=us.length:=by omega
       obtain⟨d1,hg,hok,hct⟩:=ah HD;have bl:=d1.base;have Bd:=aj (ay bl (show Below wr.heap.size wr wr.drew from(Below.refl _ _).drew));have PT:Hid (Calls prog 24 #[.pointer (some ⟨b,0,none⟩)] wr.drew λe w'=>∃a' c',e=.returned (pF t a' c')/\jV w' a' t.bo/\Below wr.drew.heap.size wr.drew w'):=aj (by
        obtain⟨E,⟨_,_,_,_,_,c3,_⟩,_⟩:=d1.below H C (show Below wr.heap.size wr wr.drew from(Below.refl _ _).drew);refine(C.taker c3 hg).mono ?_;rintro e w' ⟨a',c',he,hn,hb⟩;subst hct;obtain⟨aa,cc,ee,hsl⟩:=hn.sl
        cases ee
        exact⟨a',c',he,hsl,hb⟩)
       have aaC:=aj (aV.Go.bo hg);rw[hct] at aaC;have HTB:Hid (∀W,Below W0.heap.size W0 W->Tq w.heap.size t ta tc W/\jV W ta t.bo):=aj (λW hW=>⟨sO ((ah T0).next hW),bK (ah abq) hW⟩);have k0:Tq w.heap.size t ta tc wr.drew:=(ah HTB _ (ah Bd)).1;have abu:=(ah T0).next bl;obtain⟨_,x0,x1,x2,x3,x4,x5,x6,x7,x8,x9⟩:=abu;clear HD d1 hg hok hct bl hlt;go_upto_region 31 with fail
       go_region_held_law (Tq w.heap.size t ta tc) (first|with_reducible assumption|go_keep)
        (first
         | (go_at_call 24;with_reducible refine(ah PT).mono ?_;rintro e w1 ⟨a',c',rfl,s1,b1⟩;have Wh:=aj ((ah Bd).trans (b1.mono (ah Bd).size));have k1:=(ah HTB w1 (ah Wh)).1;have PS:=aj (GU t a' ta c' tc w1 s1 (ah HTB w1 (ah Wh)).2 (by have:=ah aaC;omega));clear s1 b1)
         | (go_at_call 23;with_reducible refine(ah PS).mono ?_;rintro e w2 ⟨rfl,b2⟩;have YD:=aj ((ah Wh).trans (b2.mono (ah Wh).size));have k2:=(ah HTB w2 (ah YD)).1;clear b2))
       all_goals
        clear k1 k2 PS PT HTB
        go_wp2_with fail
        go_ret
        exact⟨rfl,(ah B0).trans ((ah YD).mono (ah B0).size)⟩
    ·have PN:=aj (C.bad t ta tc q (w:=wr) hts (ah Oj) (by rw[hE];exact hE0));rw[hE] at PN;have he:(E !=0)=true:=by simpa using hE0
     have hee:(E==E)=true:=by simp
     obtain⟨_,x0,x1,x2,x3,x4,x5,x6,x7,x8,x9⟩:=T1;clear hE f1 g1 d1 bl HP Zk;go_wp2_with fail;refine(ah PN).mono ?_;rintro e w3 ⟨rfl,b3⟩;have T3:=(ah HT1).next b3;have PT:=aj (yu t ta tc w3 hts (bK (ah Oj) b3));rw[ah HE] at PT;have B3:=aj (ay (ah BL) b3);clear x0 x1 x2 x3 x4 x5 x6 x7 x8 x9 PN b3;obtain⟨_,x0,x1,x2,x3,x4,x5,x6,x7,x8,x9⟩:=T3;go_wp2_with fail;refine(ah PT).mono ?_;rintro e w4 ⟨rfl,b4⟩;have B4:=aj (ay (ah B3) b4);clear PT b4;go_wp2_with fail;go_ret;exact⟨rfl,(ah B0).trans ((ah B4).mono (ah B0).size)⟩
end
