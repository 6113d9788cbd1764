/- A part. -/
import Derived.Test.YtidekgipblnpkaaGreatDoorQ5
import Derived.Test.YtidekgipblnpkaaGreatDoorQ30
set_option maxRecDepth 100000
set_option maxHeartbeats 8000000
namespace Go.Proofs.YtidekgipblnpkaaGreatDoor
open Go.RowKit Go.Proofs.Tryz
namespace Dk
theorem jm.andThen {w w1 w2:World}{B p:Nat}{m:Int}{v v1:Value}{es1 es2:List ay}(h:aY w1 B p m v1 es1/\aH (jG p v) w w1/\∀g,v1.ownBlock=some g->v.ownBlock=some g\/w.heap.size<=g)(u:jm w1 w2 B p m v1 es2):jm w w2 B p m v es2:=by
 obtain⟨_,h2,h3⟩:=h;obtain⟨v2,u1,u2,u3⟩:=u;refine⟨v2,u1,h2.more u2 (λi hi z=>?_),λg hg=>?_⟩
 ·rcases z with z|z
  ·exact .inl z
  ·rcases h3 i z with y|y
   ·exact .inr y
   ·omega
 ·rcases u3 g hg with z|z
  ·exact h3 g z
  ·exact .inr (aje h2.size z)
theorem WM (B p:Nat)(m size:Int)(v:Value)(es:List ay)(r:Rc)(w:World)(hk:aY w B p m v es)(ht:Tidy m es)(hm:m<=65536)(hs:Small r)(hB:B<=w.heap.size) :
 Calls prog 76 #[.pointer (some ⟨p,0,none⟩),.int .i64 size,.agg #[.int .i64 r.k,.int .i64 r.q,.int .i64 r.t,.string r.s,.string r.h,.string r.d]] w λe w'=>e=.returned (.int .i64 (iq es m size r).1)/\jm w w' B p m v (iq es m size r).2:=by
 have Hk:=aj hk;have HT:=aj ht;have hfew:=ht.iW;have hfit:=ht.fits;have R0:=RB.new w r.k r.q r.t r.s r.h r.d 73;have B0:Hid (Below w.heap.size w (w.alloc (.cells #[.int .i64 r.k,.int .i64 r.q,.int .i64 r.t,.string r.s,.string r.h,.string r.d] 73))):=aj ((ajb _ _).alloc (Xc _) _);have C1:Hid (∀W,Calls prog 116 #[.agg #[.int .i64 r.k,.int .i64 r.q,.int .i64 r.t,.string r.s,.string r.h,.string r.d]] W λe w'=>e=.returned (.int .i64 (dL r))/\Below W.heap.size W w'):=aj (λW=>qG r.k r.q r.t r.s r.h r.d W hs.s hs.h hs.d);obtain⟨E,hE⟩:∃E,E=dL r:=⟨_,rfl⟩;rw[<-hE] at C1
 clear hk ht;by_cases h0:E=0
 ·have hc:dL r=0:=by rw[<-hE];exact h0
  have C2:Hid (∀W,Calls prog 117 #[.agg #[.int .i64 r.k,.int .i64 r.q,.int .i64 r.t,.string r.s,.string r.h,.string r.d]] W λe w'=>e=.returned (.string (bK r))/\Below W.heap.size W w'):=aj (λW=>JK r.k r.q r.t r.s r.h r.d W hc);have hsz:=ru hc;rw[h0] at C1;have HC:=aj hc;clear hE h0;obtain⟨a,cap,rfl,c1,c2,_⟩:=(ah Hk).arr.shape;by_cases hz:es.length=0
  ·rw[Iq hc hz];obtain rfl:es=[]:=ajZ hz;clear hc hz;obtain⟨_,x0,x1,x2,x3,x4,x5,_⟩:=R0;go_enter func76,ntmps76;go_wp2_with fail;refine(ah C1 _).mono ?_;rintro e w1 ⟨rfl,b1⟩;have R1:=(RB.new w r.k r.q r.t r.s r.h r.d 73).next b1;obtain⟨_,y0,y1,y2,y3,y4,y5,_⟩:=R1;have B1:=aj (ak (ah B0) b1);clear b1 x0 x1 x2 x3 x4 x5;go_wp2_with fail;refine(ah C2 _).mono ?_;rintro e w2 ⟨rfl,b2⟩;have B2:=aj (ak (ah B1) b2);have K2:=aj ((ah Hk).below (ah B2));have d1:=(ah K2).cell;clear b2 B1 y0 y1 y2 y3 y4 y5;have PA:=aj (kK B p m _ [] 0 (bK r) w2 (ah K2) (by omega) (by omega) (by omega) (by have:=(ah B2).size;omega))
   go_wp2_with fail;refine(ah PA).mono ?_;rintro e w3 ⟨rfl,u3⟩;have U3:=aj (jm.behind (ah B2) u3);clear u3 PA;go_wp2_with fail;go_ret;exact⟨rfl,ah U3⟩
  ·obtain⟨k,hk1⟩:∃k,k+1=es.length:=⟨es.length-1,by omega⟩;have hk2:k<es.length:=by omega
   have hw:IntKind.i64.wrap ((es.length:Int)-1)=(k:Int):=by rw[ajq];omega
   have hz':((es.length:Int)==0)=false:=by rw[ajr];omega
   have hnl:=(ah HT).each _ (iD hk2);have hn1:0<=(pa es k).n/\(pa es k).n<=1099511627776:=by simpa[dn] using hnl.1
   have hw2:IntKind.i64.wrap ((pa es k).n+1)=(pa es k).n+1:=by rw[ajq];omega
   have hu:=oU (iD hk2);have hw3:IntKind.i64.wrap (((pa es k).text.size:Int)+((bK r).size:Int))=((pa es k).text.size:Int)+((bK r).size:Int):=by rw[ajq];omega
   have hfull:Hid ((0<(pa es k).text.size/\size<((pa es k).text.size:Int)+((bK r).size:Int))/\iq es m size r=(bJ (dO es (pa es k).n) m ((pa es k).n+1) (bK r),gU (dO es (pa es k).n) m ((pa es k).n+1) (bK r))\/¬(0<(pa es k).text.size/\size<((pa es k).text.size:Int)+((bK r).size:Int))/\iq es m size r=(bJ es m (pa es k).n (bK r),gU es m (pa es k).n (bK r))):=aj (by
    by_cases hf:0<(pa es k).text.size/\size<((pa es k).text.size:Int)+((bK r).size:Int)
    ·exact .inl ⟨hf,Y4 hc hk1 hf⟩
    ·exact .inr ⟨hf,Y6 hc hk1 hf⟩)
   have HT1:=aj ((ah HT).sync (pa es k).n);generalize hre:iq es m size r=RES at hfull ⊢;clear hre hc hz hk1 hnl;obtain⟨g,cap',e0,f1,f2,f3,f4⟩:=(ah Hk).arr.there (by omega);obtain⟨rfl,_,rfl⟩:=ajO e0;clear e0;obtain⟨_,x0,x1,x2,x3,x4,x5,_⟩:=R0;go_enter func76,ntmps76;go_wp2_with fail;refine(ah C1 _).mono ?_;rintro e w1 ⟨rfl,b1⟩;have R1:=(RB.new w r.k r.q r.t r.s r.h r.d 73).next b1;obtain⟨_,y0,y1,y2,y3,y4,y5,_⟩:=R1;have B1:=aj (ak (ah B0) b1);clear b1 x0 x1 x2 x3 x4 x5;go_wp2_with fail;refine(ah C2 _).mono ?_;rintro e w2 ⟨rfl,b2⟩;have B2:=aj (ak (ah B1) b2)
   have K2:=aj ((ah Hk).below (ah B2));have d1:=(ah K2).cell;have n0:=(ah K2).arr.num hk2;have n1:=(ah K2).arr.sure hk2;have n2:=(ah K2).arr.text hk2;clear b2 B1 y0 y1 y2 y3 y4 y5;have hb3:Below w2.heap.size w2 (w2.alloc (.cells #[.int .i64 (pa es k).n,.int .i64 (pa es k).sure,.string (pa es k).text] 139)):=(ajb _ _).alloc (Xc _) _;have K3:=aj ((ah K2).below hb3);have B3:=aj (ak (ah B2) hb3);have hB3:B<=(w2.alloc (.cells #[.int .i64 (pa es k).n,.int .i64 (pa es k).sure,.string (pa es k).text] 139)).heap.size:=by have:=(ah B3).size;omega
   have z0:(w2.alloc (.cells #[.int .i64 (pa es k).n,.int .i64 (pa es k).sure,.string (pa es k).text] 139)).cell? ⟨w2.heap.size,0,none⟩=some (.int .i64 (pa es k).n):=by
    rw[ajY _ w2.heap.size 0 _ _ _ (ajF w2 _)];rfl
   have hC:∀j,jG p (.slice (some ⟨g,0,none⟩) es.length cap) j->j<w2.heap.size:=λj hj=>by
    rcases hj with z|z
    ·rw[z];exact(ah K2).lt
    ·exact((ah K2).arr.lt j z).2
   clear hb3;rcases ah hfull with ⟨hf,rfl⟩|⟨hf,rfl⟩
   ·have hf1:(0:Int)<((pa es k).text.size:Int):=by omega
    have hd1:decide ((0:Int)<((pa es k).text.size:Int))=true:=ajg hf1;have hd2:decide (size<((pa es k).text.size:Int)+((bK r).size:Int))=true:=ajg hf.2;have PS:=aj (abx B p m _ es (pa es k).n _ (ah K3) (by omega));have hf2:=hf.2;clear hfull hf;go_wp2_with fail;refine(ah PS).mono ?_;rintro e w4 ⟨rfl,v4,s1,s2,s3⟩;have z4:w4.cell? ⟨w2.heap.size,0,none⟩=some (.int .i64 (pa es k).n):=by
     rw[s2.cell (p:=⟨w2.heap.size,0,none⟩) (by simp) (λz=>Nat.lt_irrefl _ (hC _ z))];exact z0
    have hl4:(dO es (pa es k).n).length<=20:=(ah HT1).iW;have hf4:=(ah HT1).fits;have PA:=aj (kK B p m v4 (dO es (pa es k).n) ((pa es k).n+1) (bK r) w4 s1 hl4 (by omega) (by omega) (aje hB3 s2.size));have S4:=aj (And.intro s1 (And.intro s2 s3));clear s1 s2 s3 d1 n0 n1 n2 z0 PS;go_wp2_with fail;refine(ah PA).mono ?_;rintro e w5 ⟨rfl,u5⟩;have U5:=aj (jm.behind (ah B3) (jm.andThen (ah S4) u5));clear u5 PA S4 z4;go_wp2_with fail;go_ret;exact⟨rfl,ah U5⟩
   ·have PA:=aj (kK B p m _ es (pa es k).n (bK r) _ (ah K3) (by omega) (by omega) (by omega) hB3);by_cases hf1:0<(pa es k).text.size
    ·have hd1:decide ((0:Int)<((pa es k).text.size:Int))=true:=ajg (by omega);have hd2:decide (size<((pa es k).text.size:Int)+((bK r).size:Int))=false:=ajd (by omega);clear hfull hf;go_wp2_with fail;refine(ah PA).mono ?_;rintro e w5 ⟨rfl,u5⟩;have U5:=aj (jm.behind (ah B3) u5);clear u5 PA;go_wp2_with fail;go_ret;exact⟨rfl,ah U5⟩
    ·have hd1:decide ((0:Int)<((pa es k).text.size:Int))=false:=ajd (by omega);clear hfull hf;go_wp2_with fail;refine(ah PA).mono ?_;rintro e w5 ⟨rfl,u5⟩;have U5:=aj (jm.behind (ah B3) u5);clear u5 PA;go_wp2_with fail;go_ret;exact⟨rfl,ah U5⟩
 ·rw[QD (by rw[<-hE];exact h0),<-hE];clear hE;obtain⟨_,x0,x1,x2,x3,x4,x5,_⟩:=R0;go_enter func76,ntmps76;go_wp2_with fail;refine(ah C1 _).mono ?_;rintro e w1 ⟨rfl,b1⟩;have B1:=aj (ak (ah B0) b1);clear b1;go_wp2_with fail;go_ret;exact⟨rfl,jm.same (ah Hk) (ah B1)⟩
theorem xQ {w:World}{B:Nat}(hB:B<=w.heap.size)(e:ay):qO (w.alloc (.cells #[.int .i64 e.n,.int .i64 e.sure,.string e.text] 139)) B (.slice (some ⟨w.heap.size,0,none⟩) 1 1) [e] :=
 ⟨by simp[dw],.inr ⟨w.heap.size,1,_,rfl,hB,heap_alloc_new w _,Nat.le_refl _,by simp[maxLen],by simp,by simp[dw]⟩⟩
theorem KQ (B p:Nat)(m size:Int)(v:Value)(es:List ay)(l:List Rc)(a:Option Addr)(c:Nat)(w:World)(hk:aY w B p m v es)(ht:Tidy m es)(hm:m<=65536)(hsl:vk w a l)(hsm:∀k,k<l.length->Small (rc l k))(hl:l.length<=200000)(hB:B<=w.heap.size) :
 Calls prog 84 #[.pointer (some ⟨p,0,none⟩),.int .i64 size,.slice a l.length c] w λe w'=>e=.returned (.int .i64 (iP es m size l).1)/\jm w w' B p m v (iP es m size l).2:=by
 have Hk:=aj hk;have HT:=aj ht;have hfew:=ht.iW;have hfit:=ht.fits;have HS:=aj hsl;have HM:=aj hsm;clear hk ht hsl hsm;go_enter func84,ntmps84;go_wp2_with fail;go_loopw [7,8] (λtv iv wr=>∃(k:Nat) (t:ByteArray),iv=.int .i64 k/\k<=l.length/\tv=.string t/\t.size<=1100*l.length/\Hid (t=dM (l.take k))/\Hid (gu (l.take k)=0)/\Hid (Below w.heap.size w wr)) (λ_ iv _=>l.length-(intOf iv).toNat)
 case atStart=>exact⟨0,ByteArray.empty,rfl,ajm _,rfl,by simp,aj rfl,aj rfl,aj (ajb _ _)⟩
 case round =>
  obtain⟨k,t,rfl,hkl,rfl,hts,HE,HB,Hb⟩:=hrel;by_cases hlt:k<l.length
  ·obtain⟨g,o,rfl,s6⟩:=ah HS k hlt;have s7:=s6.below (ah Hb) s6.lt;obtain⟨r,hr⟩:∃r,r=rc l k:=⟨_,rfl⟩;have hsm:=ah HM k hlt;have hbt:=yH hlt (ah HB);have hct:=Le hlt;have hbf:=λh=>FU hlt (ah HB) h
   rw[<-hr] at s7 hsm hbt hct hbf;obtain⟨_,x0,x1,x2,x3,x4,x5⟩:=s7;have C1:Hid (∀W,Calls prog 116 #[.agg #[.int .i64 r.k,.int .i64 r.q,.int .i64 r.t,.string r.s,.string r.h,.string r.d]] W λe w'=>e=.returned (.int .i64 (dL r))/\Below W.heap.size W w'):=aj (λW=>qG r.k r.q r.t r.s r.h r.d W hsm.s hsm.h hsm.d);obtain⟨E,hE⟩:∃E,E=dL r:=⟨_,rfl⟩;rw[<-hE] at C1;by_cases h0:E=0
   ·have hc:dL r=0:=by rw[<-hE];exact h0
    have C2:Hid (∀W,Calls prog 117 #[.agg #[.int .i64 r.k,.int .i64 r.q,.int .i64 r.t,.string r.s,.string r.h,.string r.d]] W λe w'=>e=.returned (.string (bK r))/\Below W.heap.size W w'):=aj (λW=>JK r.k r.q r.t r.s r.h r.d W hc);have HB2:Hid (gu (l.take (k+1))=0):=aj (by rw[hbt];exact hc);have HE2:Hid (t++bK r=dM (l.take (k+1))):=aj (by rw[hct,<-ah HE]);have ah1:(t++bK r).size<=1100*l.length:=by
     have h1:=xw (l.take (k+1)) (ah HB2);rw[<-ah HE2,ajn] at h1;have:min (k+1) l.length<=l.length:=Nat.min_le_right _ _;have:=Nat.mul_le_mul_left 1100 this;omega
    rw[h0] at C1;have HTS:=aj ah1;have hcs:=ru hc;have agV:t.size+(bK r).size<=9223372036854775807:=by omega
    have ai3:(t.size:Int)+((bK r).size:Int)<=9223372036854775807:=by omega
    clear hE h0 hc hbt hct hbf hr ah1 HB HE s6;go_wp2_with fail;refine(ah C1 _).mono ?_;rintro e w1 ⟨rfl,b1⟩;have y:Six w1 g (o+k*6) r:=(show Six wr g (o+k*6) r from⟨alH _ _ x0,x0,x1,x2,x3,x4,x5⟩).below b1 (alH _ _ x0);obtain⟨_,y0,y1,y2,y3,y4,y5⟩:=y;have B1:=aj (ak (ah Hb) b1);clear b1 x0 x1 x2 x3 x4 x5;go_wp2_with fail;refine(ah C2 _).mono ?_;rintro e w2 ⟨rfl,b2⟩;have B2:=aj (ak (ah B1) b2);clear b2 B1 y0 y1 y2 y3 y4 y5;go_wp2_with fail;refine⟨⟨k+1,t++bK r,by go_num,by omega,rfl,ah HTS,HE2,HB2,B2⟩,?_⟩;simp[intOf];omega
   ·have fE:Hid (iP es m size l=(E,es)):=aj (QF ((hbf (by rw[<-hE];exact h0)).trans hE.symm) h0);clear hE hbt hct hbf hr HB HE s6;go_wp2_with fail;refine(ah C1 _).mono ?_;rintro e w1 ⟨rfl,b1⟩;have B1:=aj (ak (ah Hb) b1);clear b1 x0 x1 x2 x3 x4 x5;go_wp2_with fail;go_ret;rw[ah fE];exact⟨rfl,jm.same (ah Hk) (ah B1)⟩
  ·obtain rfl:k=l.length:=by omega
   have HB0:Hid (gu l=0):=aj (by have:=ah HB;rw[ajN] at this;exact this);have xX:Hid (t=dM l):=aj (by have:=ah HE;rw[ajN] at this;exact this);clear HB HE HS HM hlt;have K1:=aj ((ah Hk).below (ah Hb));have hB1:B<=wr.heap.size:=aje hB (ah Hb).size;have d1:=(ah K1).cell;obtain⟨ax,cx,rfl,c1,c2,_⟩:=(ah Hk).arr.shape;by_cases og:1<l.length/\size<(t.size:Int)
   ·have fE:Hid (iP es m size l=(8,es)):=aj (Iu (ah HB0) (by rw[<-ah xX];exact og));have hg1:(1:Int)<(l.length:Int):=by omega
    have hg2:=og.2;clear og;go_wp2_with fail;go_ret;rw[ah fE];exact⟨rfl,jm.same (ah Hk) (ah Hb)⟩
   ·have HL:Hid (¬(1<l.length/\size<(t.size:Int))):=aj og;by_cases hg:1<l.length
    ·have hg1:(1:Int)<(l.length:Int):=by omega
     have hg2:decide (size<(t.size:Int))=false:=ajd (by omega);clear og;by_cases hz:es.length=0
     ·have HN:=aj (yI hz);have PA:=aj (kK B p m _ es 0 t wr (ah K1) (by omega) (by omega) (by omega) hB1);by_cases h8:bJ es m ((0:Int)) t=0
      ·have fE:Hid (iP es m size l=(0,[⟨(0:Int),(t.size:Int),t⟩])):=aj (by
        have:=zu (es:=es) (m:=m) (size:=size) (ah HB0) (by rw[<-ah xX];exact ah HL) (by rw[<-ah xX,ah HN];exact h8);rw[<-ah xX,ah HN] at this;exact this)
       rw[h8] at PA;clear h8;go_wp2_with fail;refine(ah PA).mono ?_;rintro e w5 ⟨rfl,v5,s1,s2,s3⟩;have S5:=aj (And.intro s1 (And.intro s2 s3));have f5:=s1.free;have d5:=s1.cell;have HU:Hid (jm w5 ((w5.alloc (.cells #[.int .i64 ((0:Int)),.int .i64 (t.size:Int),.string t] 139)).setCell ⟨p,1,none⟩ (.slice (some ⟨w5.heap.size,0,none⟩) 1 1)) B p m v5 [⟨(0:Int),(t.size:Int),t⟩]):=aj (jm.store s1 (aH.aA ((ajb _ _).alloc (Xc _) _)) (xQ (aje hB1 s2.size) ⟨(0:Int),(t.size:Int),t⟩) (λg hg=>.inr (by simp only[Value.ownBlock,ajX] at hg;omega)))
       have hpl:p<w5.heap.size:=s1.lt;have hpn:w5.heap.size≠p:=by omega
       rw[akI _ _ _ _ hpl] at HU;clear s1 s2 s3 PA;go_wp2_with fail;go_ret;rw[ah fE];exact⟨rfl,jm.behind (ah Hb) (jm.andThen (ah S5) (ah HU))⟩
      ·have fE:Hid (iP es m size l=(bJ es m ((0:Int)) t,es)):=aj (by
        have:=rC (es:=es) (m:=m) (size:=size) (ah HB0) (by rw[<-ah xX];exact ah HL) (by rw[<-ah xX,ah HN];exact h8);rw[<-ah xX,ah HN] at this;exact this)
       rw[jr h8] at PA;obtain⟨E,hE⟩:∃E,E=bJ es m ((0:Int)) t:=⟨_,rfl⟩;rw[<-hE] at PA fE h8;have hE':(E !=0)=true:=by simp[h8]
       clear hE;go_wp2_with fail;refine(ah PA).mono ?_;rintro e w5 ⟨rfl,u5⟩;have U5:=aj (jm.behind (ah Hb) u5);clear u5 PA;go_wp2_with fail;go_ret;rw[ah fE];exact⟨rfl,ah U5⟩
     ·obtain⟨k,hk1⟩:∃k,k+1=es.length:=⟨es.length-1,by omega⟩;have hk2:k<es.length:=by omega
      have HN:=aj (Lh hk1);have hz1:(0:Int)<(es.length:Int):=by omega
      have hw:IntKind.i64.wrap ((es.length:Int)-1)=(k:Int):=by rw[ajq];omega
      have hnl:=(ah HT).each _ (iD hk2);have hn1:0<=(pa es k).n/\(pa es k).n<=1099511627776:=by simpa[dn] using hnl.1
      have hw2:IntKind.i64.wrap ((pa es k).n+1)=(pa es k).n+1:=by rw[ajq];omega
      obtain⟨g,cap',e0,f1,f2,f3,f4⟩:=(ah K1).arr.there (by omega);obtain⟨rfl,_,rfl⟩:=ajO e0;clear e0 hz hk1 hnl;have n0:=(ah K1).arr.num hk2;go_wp2_with fail;go_quiet (fail)
      have B2:=aj (below_drewN (ajb wr.heap.size wr) nq);have K2:=aj ((ah K1).below (ah B2));have B3:=aj (ak (ah Hb) (ah B2));have hB2:B<=(wr.drewN nq).heap.size:=by have:=(ah B3).size;omega
      generalize wr.drewN nq=w2 at B2 K2 B3 hB2 ⊢;have PA:=aj (kK B p m _ es ((pa es k).n+1) t w2 (ah K2) (by omega) (by omega) (by omega) hB2);clear n0 d1 B2;by_cases h8:bJ es m ((pa es k).n+1) t=0
      ·have fE:Hid (iP es m size l=(0,[⟨(pa es k).n+1,(t.size:Int),t⟩])):=aj (by
        have:=zu (es:=es) (m:=m) (size:=size) (ah HB0) (by rw[<-ah xX];exact ah HL) (by rw[<-ah xX,ah HN];exact h8);rw[<-ah xX,ah HN] at this;exact this)
       rw[h8] at PA;clear h8;go_wp2_with fail;refine(ah PA).mono ?_;rintro e w5 ⟨rfl,v5,s1,s2,s3⟩;have S5:=aj (And.intro s1 (And.intro s2 s3));have f5:=s1.free;have d5:=s1.cell;have HU:Hid (jm w5 ((w5.alloc (.cells #[.int .i64 ((pa es k).n+1),.int .i64 (t.size:Int),.string t] 139)).setCell ⟨p,1,none⟩ (.slice (some ⟨w5.heap.size,0,none⟩) 1 1)) B p m v5 [⟨(pa es k).n+1,(t.size:Int),t⟩]):=aj (jm.store s1 (aH.aA ((ajb _ _).alloc (Xc _) _)) (xQ (aje hB2 s2.size) ⟨(pa es k).n+1,(t.size:Int),t⟩) (λg hg=>.inr (by simp only[Value.ownBlock,ajX] at hg;omega)))
       have hpl:p<w5.heap.size:=s1.lt;have hpn:w5.heap.size≠p:=by omega
       rw[akI _ _ _ _ hpl] at HU;clear s1 s2 s3 PA;go_wp2_with fail;go_ret;rw[ah fE];exact⟨rfl,jm.behind (ah B3) (jm.andThen (ah S5) (ah HU))⟩
      ·have fE:Hid (iP es m size l=(bJ es m ((pa es k).n+1) t,es)):=aj (by
        have:=rC (es:=es) (m:=m) (size:=size) (ah HB0) (by rw[<-ah xX];exact ah HL) (by rw[<-ah xX,ah HN];exact h8);rw[<-ah xX,ah HN] at this;exact this)
       rw[jr h8] at PA;obtain⟨E,hE⟩:∃E,E=bJ es m ((pa es k).n+1) t:=⟨_,rfl⟩;rw[<-hE] at PA fE h8;have hE':(E !=0)=true:=by simp[h8]
       clear hE;go_wp2_with fail;refine(ah PA).mono ?_;rintro e w5 ⟨rfl,u5⟩;have U5:=aj (jm.behind (ah B3) u5);clear u5 PA;go_wp2_with fail;go_ret;rw[ah fE];exact⟨rfl,ah U5⟩
    ·have hg1:decide ((1:Int)<(l.length:Int))=false:=ajd (by omega);clear og;by_cases hz:es.length=0
     ·have HN:=aj (yI hz);have PA:=aj (kK B p m _ es 0 t wr (ah K1) (by omega) (by omega) (by omega) hB1);by_cases h8:bJ es m ((0:Int)) t=0
      ·have fE:Hid (iP es m size l=(0,[⟨(0:Int),(t.size:Int),t⟩])):=aj (by
        have:=zu (es:=es) (m:=m) (size:=size) (ah HB0) (by rw[<-ah xX];exact ah HL) (by rw[<-ah xX,ah HN];exact h8);rw[<-ah xX,ah HN] at this;exact this)
       rw[h8] at PA;clear h8;go_wp2_with fail;refine(ah PA).mono ?_;rintro e w5 ⟨rfl,v5,s1,s2,s3⟩;have S5:=aj (And.intro s1 (And.intro s2 s3));have f5:=s1.free;have d5:=s1.cell;have HU:Hid (jm w5 ((w5.alloc (.cells #[.int .i64 ((0:Int)),.int .i64 (t.size:Int),.string t] 139)).setCell ⟨p,1,none⟩ (.slice (some ⟨w5.heap.size,0,none⟩) 1 1)) B p m v5 [⟨(0:Int),(t.size:Int),t⟩]):=aj (jm.store s1 (aH.aA ((ajb _ _).alloc (Xc _) _)) (xQ (aje hB1 s2.size) ⟨(0:Int),(t.size:Int),t⟩) (λg hg=>.inr (by simp only[Value.ownBlock,ajX] at hg;omega)))
       have hpl:p<w5.heap.size:=s1.lt;have hpn:w5.heap.size≠p:=by omega
       rw[akI _ _ _ _ hpl] at HU;clear s1 s2 s3 PA;go_wp2_with fail;go_ret;rw[ah fE];exact⟨rfl,jm.behind (ah Hb) (jm.andThen (ah S5) (ah HU))⟩
      ·have fE:Hid (iP es m size l=(bJ es m ((0:Int)) t,es)):=aj (by
        have:=rC (es:=es) (m:=m) (size:=size) (ah HB0) (by rw[<-ah xX];exact ah HL) (by rw[<-ah xX,ah HN];exact h8);rw[<-ah xX,ah HN] at this;exact this)
       rw[jr h8] at PA;obtain⟨E,hE⟩:∃E,E=bJ es m ((0:Int)) t:=⟨_,rfl⟩;rw[<-hE] at PA fE h8;have hE':(E !=0)=true:=by simp[h8]
       clear hE;go_wp2_with fail;refine(ah PA).mono ?_;rintro e w5 ⟨rfl,u5⟩;have U5:=aj (jm.behind (ah Hb) u5);clear u5 PA;go_wp2_with fail;go_ret;rw[ah fE];exact⟨rfl,ah U5⟩
     ·obtain⟨k,hk1⟩:∃k,k+1=es.length:=⟨es.length-1,by omega⟩;have hk2:k<es.length:=by omega
      have HN:=aj (Lh hk1);have hz1:(0:Int)<(es.length:Int):=by omega
      have hw:IntKind.i64.wrap ((es.length:Int)-1)=(k:Int):=by rw[ajq];omega
      have hnl:=(ah HT).each _ (iD hk2);have hn1:0<=(pa es k).n/\(pa es k).n<=1099511627776:=by simpa[dn] using hnl.1
      have hw2:IntKind.i64.wrap ((pa es k).n+1)=(pa es k).n+1:=by rw[ajq];omega
      obtain⟨g,cap',e0,f1,f2,f3,f4⟩:=(ah K1).arr.there (by omega);obtain⟨rfl,_,rfl⟩:=ajO e0;clear e0 hz hk1 hnl;have n0:=(ah K1).arr.num hk2;go_wp2_with fail;go_quiet (fail)
      have B2:=aj (below_drewN (ajb wr.heap.size wr) nq);have K2:=aj ((ah K1).below (ah B2));have B3:=aj (ak (ah Hb) (ah B2));have hB2:B<=(wr.drewN nq).heap.size:=by have:=(ah B3).size;omega
      generalize wr.drewN nq=w2 at B2 K2 B3 hB2 ⊢;have PA:=aj (kK B p m _ es ((pa es k).n+1) t w2 (ah K2) (by omega) (by omega) (by omega) hB2);clear n0 d1 B2;by_cases h8:bJ es m ((pa es k).n+1) t=0
      ·have fE:Hid (iP es m size l=(0,[⟨(pa es k).n+1,(t.size:Int),t⟩])):=aj (by
        have:=zu (es:=es) (m:=m) (size:=size) (ah HB0) (by rw[<-ah xX];exact ah HL) (by rw[<-ah xX,ah HN];exact h8);rw[<-ah xX,ah HN] at this;exact this)
       rw[h8] at PA;clear h8;go_wp2_with fail;refine(ah PA).mono ?_;rintro e w5 ⟨rfl,v5,s1,s2,s3⟩;have S5:=aj (And.intro s1 (And.intro s2 s3));have f5:=s1.free;have d5:=s1.cell;have HU:Hid (jm w5 ((w5.alloc (.cells #[.int .i64 ((pa es k).n+1),.int .i64 (t.size:Int),.string t] 139)).setCell ⟨p,1,none⟩ (.slice (some ⟨w5.heap.size,0,none⟩) 1 1)) B p m v5 [⟨(pa es k).n+1,(t.size:Int),t⟩]):=aj (jm.store s1 (aH.aA ((ajb _ _).alloc (Xc _) _)) (xQ (aje hB2 s2.size) ⟨(pa es k).n+1,(t.size:Int),t⟩) (λg hg=>.inr (by simp only[Value.ownBlock,ajX] at hg;omega)))
       have hpl:p<w5.heap.size:=s1.lt;have hpn:w5.heap.size≠p:=by omega
       rw[akI _ _ _ _ hpl] at HU;clear s1 s2 s3 PA;go_wp2_with fail;go_ret;rw[ah fE];exact⟨rfl,jm.behind (ah B3) (jm.andThen (ah S5) (ah HU))⟩
      ·have fE:Hid (iP es m size l=(bJ es m ((pa es k).n+1) t,es)):=aj (by
        have:=rC (es:=es) (m:=m) (size:=size) (ah HB0) (by rw[<-ah xX];exact ah HL) (by rw[<-ah xX,ah HN];exact h8);rw[<-ah xX,ah HN] at this;exact this)
       rw[jr h8] at PA;obtain⟨E,hE⟩:∃E,E=bJ es m ((pa es k).n+1) t:=⟨_,rfl⟩;rw[<-hE] at PA fE h8;have hE':(E !=0)=true:=by simp[h8]
       clear hE;go_wp2_with fail;refine(ah PA).mono ?_;rintro e w5 ⟨rfl,u5⟩;have U5:=aj (jm.behind (ah B3) u5);clear u5 PA;go_wp2_with fail;go_ret;rw[ah fE];exact⟨rfl,ah U5⟩
