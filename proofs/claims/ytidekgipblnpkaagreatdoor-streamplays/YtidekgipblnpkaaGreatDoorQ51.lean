/- A part. -/
import Derived.Test.YtidekgipblnpkaaGreatDoorQ40
import Derived.Test.YtidekgipblnpkaaGreatDoorQ50
set_option maxRecDepth 100000
set_option maxHeartbeats 8000000
namespace Go.Proofs.YtidekgipblnpkaaGreatDoor
open Go.RowKit Go.Proofs.Tryz
namespace Dk
abbrev Xq (P:Pn.cu)(a:Option Addr)(c:Nat):Obj:=.cells #[.string P.n,.slice a P.f.length c,.int .i64 (nth P.v 0),.int .i64 (nth P.v 1),.int .i64 (nth P.v 2),.int .i64 (nth P.v 3),.int .i64 (nth P.v 4),.int .i64 (nth P.v 5),.int .i64 (nth P.v 6),.int .i64 (nth P.v 7)] 24
abbrev aes (b:Nat)(c:uX)(w:World):Prop:=w.cell? ⟨b,0,none⟩=some (.int .i64 c.k)/\w.cell? ⟨b,1,none⟩=some (.int .i64 c.now)/\w.cell? ⟨b,2,none⟩=some (.int .i64 c.n)/\w.cell? ⟨b,3,none⟩=some (.string c.x.s)/\w.cell? ⟨b,4,none⟩=some (.string c.x.i)/\w.cell? ⟨b,5,none⟩=some (.string c.x.h)/\w.cell? ⟨b,6,none⟩=some (.string c.x.d)/\w.cell? ⟨b,7,none⟩=some (.int .i64 c.x.x)/\w.cell? ⟨b,8,none⟩=some (.int .i64 c.x.ro)/\w.cell? ⟨b,9,none⟩=some (.string c.f)
theorem UC.ten {w:World}{b:Nat}{c:uX}(h:UC w b c):aes b c w:=⟨h.c0,h.c1,h.c2,h.c3,h.c4,h.c5,h.c6,h.c7,h.c8,h.c9⟩
abbrev Xr (b y x ch:Nat)(c:uX)(w:World):Prop:=aes b c w/\w.cell? ⟨y,10,none⟩=some (.pointer (some ⟨x,0,none⟩))/\w.cell? ⟨x,1,none⟩=some (.pointer (some ⟨ch,0,none⟩))
theorem Xr.below {b y x ch:Nat}{c:uX}{w w':World}(h:Xr b y x ch c w)(hb:b<w.heap.size)(hy:y<w.heap.size)(hx:x<w.heap.size)(hw:Below w.heap.size w w'):Xr b y x ch c w':=by
 have e:∀j,w'.cell? ⟨b,j,none⟩=w.cell? ⟨b,j,none⟩:=λj=>hw.cell (p:=⟨b,j,none⟩) hb
 obtain⟨⟨h0,h1,h2,h3,h4,h5,h6,h7,h8,h9⟩,h10,h11⟩:=h;exact⟨⟨(e 0).trans h0,(e 1).trans h1,(e 2).trans h2,(e 3).trans h3,(e 4).trans h4,(e 5).trans h5,(e 6).trans h6,(e 7).trans h7,(e 8).trans h8,(e 9).trans h9⟩,(hw.cell (p:=⟨y,10,none⟩) hy).trans h10,(hw.cell (p:=⟨x,1,none⟩) hx).trans h11⟩
abbrev AtP (b:Nat)(P:Pn.cu)(a:Option Addr)(c:Nat)(w:World):Prop:=w.cell? ⟨b,0,none⟩=some (.string P.n)/\w.cell? ⟨b,1,none⟩=some (.slice a P.f.length c)/\w.cell? ⟨b,2,none⟩=some (.int .i64 (nth P.v 0))/\w.cell? ⟨b,3,none⟩=some (.int .i64 (nth P.v 1))/\w.cell? ⟨b,4,none⟩=some (.int .i64 (nth P.v 2))/\w.cell? ⟨b,5,none⟩=some (.int .i64 (nth P.v 3))/\w.cell? ⟨b,6,none⟩=some (.int .i64 (nth P.v 4))/\w.cell? ⟨b,7,none⟩=some (.int .i64 (nth P.v 5))/\w.cell? ⟨b,8,none⟩=some (.int .i64 (nth P.v 6))/\w.cell? ⟨b,9,none⟩=some (.int .i64 (nth P.v 7))
theorem Gx {P:Program}{md:Region.Mode}{ops:Array Oper}{Q:Exit->Act->World->Prop}{S S':World->Prop}(hSS:∀w,S' w->S w):∀(fuel:Nat) (listed:Array Bool) (a:Act) (w:World),wpAnyH P md ops Q S' fuel listed a w->wpAnyH P md ops Q S fuel listed a w
 | 0,_,_,_,h=>h
 | fuel+1,_,_,_,h=>⟨h.1,λi hi=>wpOp_mono (λa' w' h'=>⟨hSS _ h'.1,Gx hSS fuel _ a' w' h'.2⟩) (h.2 i hi)⟩
section
variable {RH:World->Nat->Nat->(Nat->Prop)->Pn.cu->Int->Int->dW->Prop}{SH:World->Nat->Nat->(Nat->Prop)->aJ->Prop}{T:World->Prop}
theorem Qd (V:gQ T RH SH)(M:sO RH)(C:uq RH)(H:lV SH)(HT:lX SH)(HY:Gg SH)(P:Pn.cu)(a:Option Addr)(c:Nat)(m size:Int)(l:List uX)(al:Option Addr)(cl:Nat)(f:ByteArray)(w:World)(hP:kM P)(hsl:nZ w a P.f)(hc:P.f.length<=c)(hG:∀W,Below w.heap.size w W->T W)(hsp:SlP w al l)(hst:∀k,k<l.length->wE (spt l k))(hf:f.size<=140737488355328) :
 Calls prog 3 #[Jh P a c,.int .i64 m,.int .i64 size,.slice al l.length cl,.string f] w λe w'=>e=.returned (.bool true)/\Below w.heap.size w w':=by
 unfold Jh;have b0:Below w.heap.size w (w.alloc (Xq P a c)):=(ajb _ _).alloc (Xc _) _;have pb0:=PB.new w P.n a P.f.length c (nth P.v 0) (nth P.v 1) (nth P.v 2) (nth P.v 3) (nth P.v 4) (nth P.v 5) (nth P.v 6) (nth P.v 7) 24;have HP0:=aj pb0;have B0:=aj b0;have PN:=aj (λ(W:World) (hW:Below (w.alloc (Xq P a c)).heap.size (w.alloc (Xq P a c)) W)=>aag P.n a P.f c (nth P.v 0) (nth P.v 1) (nth P.v 2) (nth P.v 3) (nth P.v 4) (nth P.v 5) (nth P.v 6) (nth P.v 7) W hP.name ((hsl.next b0).next hW) hP.each hP.many);rw[aeo hP.nums] at PN;have hsl0:=hsl.next b0;have Bf:=aj hsl
 have HSp:=aj hsp;have HM:=aj hst;have HFz:=aj hf;obtain⟨_,c0,c1,c2,c3,c4,c5,c6,c7,c8,c9⟩:=pb0;by_cases he:Pn.dG P=0
 ·by_cases hg:(dn m 1 65536&&dn size 1 4096)=false
  ·have P1:=aj (V.bad (w.alloc (Xq P a c)) P a c m size hP hsl0 hc (hG _ b0) he hg);unfold Jh rU at P1;rw[he] at PN;clear hP hsl hc hG hsp hst hf V M C H HT HY hsl0 b0 he
   cases hI:dn m 1 65536 with
   | false =>
    have HI:=aj hI;clear hI hg;go_enter func3,ntmps3;go_wp2_with fail;refine(ah P1).mono ?_;rintro e w1 ⟨rfl,b1⟩;have B1:=aj b1;have P2:=aj (ah PN w1 b1);obtain⟨hbl,d0,d1,d2,d3,d4,d5,d6,d7,d8,d9⟩:=(ah HP0).next b1;clear P1 PN b1 c0 c1 c2 c3 c4 c5 c6 c7 c8 c9;go_wp2_with fail;refine(ah P2).mono ?_;rintro e w2 ⟨rfl,b2⟩;have BE:=aj (ak (ak (ah B0) (ah B1)) b2);clear P2 b2 hbl d0 d1 d2 d3 d4 d5 d6 d7 d8 d9;go_wp2_with (go_at_call 11;refine(jI _ _ _ _).mono ?_;rintro e w3 ⟨rfl,rfl⟩;rw[ah HI]);go_ret;exact⟨rfl,ah BE⟩
   | true =>
    have HI:=aj hI;have HJ:Hid (dn size 1 4096=false):=aj (by rw[hI] at hg;simpa using hg);clear hI hg;go_enter func3,ntmps3;go_wp2_with fail;refine(ah P1).mono ?_;rintro e w1 ⟨rfl,b1⟩;have B1:=aj b1;have P2:=aj (ah PN w1 b1);obtain⟨hbl,d0,d1,d2,d3,d4,d5,d6,d7,d8,d9⟩:=(ah HP0).next b1;clear P1 PN b1 c0 c1 c2 c3 c4 c5 c6 c7 c8 c9;go_wp2_with fail;refine(ah P2).mono ?_;rintro e w2 ⟨rfl,b2⟩;have BE:=aj (ak (ak (ah B0) (ah B1)) b2);clear P2 b2 hbl d0 d1 d2 d3 d4 d5 d6 d7 d8 d9;go_wp2_with (go_at_call 11;refine(jI _ _ _ _).mono ?_;rintro e w3 ⟨rfl,rfl⟩;first|rw[ah HI]|rw[ah HJ])
    go_ret;exact⟨rfl,ah BE⟩
  ·obtain⟨hg1,hg2⟩:dn m 1 65536=true/\dn size 1 4096=true:=by
    cases h1:dn m 1 65536<;>cases h2:dn size 1 4096<;>simp_all
   have HI:=aj hg1;have HJ:=aj hg2;have P1:=aj (V.jY (w.alloc (Xq P a c)) P a c m size hP hsl0 hc (hG _ b0) he hg1 hg2);unfold Jh rU at P1;have HF0:=aj (Fit.nil (m:=m) (size:=size) he hg1 hg2);have hnf:P.f.length<=4/\P.f.length≠0:=⟨(Pn.tV he).2.1,(Pn.tV he).2.2.1⟩;rw[he] at PN;have HS0:=aj hsl0;clear hg hg1 hg2 hP hsl hc hG hsp hst hf hsl0 b0 he;go_enter func3,ntmps3;go_wp2_with fail;refine(ah P1).mono ?_;rintro e w1 ⟨p,F1,rfl,h1,b1⟩;have V1:=aj (And.intro h1 b1);have P2:=aj (ah PN w1 b1);obtain⟨hbl,d0,d1,d2,d3,d4,d5,d6,d7,d8,d9⟩:=(ah HP0).next b1
   clear P1 PN b1 h1 c0 c1 c2 c3 c4 c5 c6 c7 c8 c9;go_wp2_with fail;refine(ah P2).mono ?_;rintro e w2 ⟨rfl,b2⟩;have h2:=V.bZ (A:=λ_=>False) (ah V1).1 (aH.aA b2) (λ_ _ z=>z);have b12:=ak (ah V1).2 b2;have V2:=aj (And.intro h2 b12);have BE:=aj (ak (ah B0) b12);clear P2 b2 h2 b12 V1 hbl d0 d1 d2 d3 d4 d5 d6 d7 d8 d9;by_cases h60:60<l.length
   ·have hd:(60:Int)<(l.length:Int):=by omega
    go_wp2_with (go_at_call 11;refine(jI _ _ _ _).mono ?_;rintro e w3 ⟨rfl,rfl⟩;first|rw[ah HI]|rw[ah HJ]);go_ret;exact⟨rfl,ah BE⟩
   ·have hd:decide ((60:Int)<(l.length:Int))=false:=ajd (by omega);have hs1:(w2.alloc (.cells #[.int .i64 m,.slice none 0 0] 37)).heap.size=w2.heap.size+1:=by simp
    have hs2:((w2.alloc (.cells #[.int .i64 m,.slice none 0 0] 37)).alloc (.cells #[.slice none 0 0,.int .i64 0] 41)).heap.size=w2.heap.size+1+1:=by simp
    have hs3:(((w2.alloc (.cells #[.int .i64 m,.slice none 0 0] 37)).alloc (.cells #[.slice none 0 0,.int .i64 0] 41)).alloc (.cells #[.pointer (some ⟨w2.heap.size,0,none⟩),.pointer (some ⟨w2.heap.size+1,0,none⟩),.int .i64 size] 43)).heap.size=w2.heap.size+1+1+1:=by simp
    have HP:=aj (PR.aht V (ah V2).1 (ah V2).2 (ah HS0) hnf.2 rfl rfl rfl rfl (c:=c));rw[hs1,hs2,hs3] at HP;obtain⟨hbl,d0,d1,d2,d3,d4,d5,d6,d7,d8,d9⟩:=(ah HP0).next (ah V2).2;obtain⟨y,hy⟩:∃y,y=w2.heap.size+1+1+1:=⟨_,rfl⟩;obtain⟨W,hW⟩:∃W,W=((((w2.alloc (.cells #[.int .i64 m,.slice none 0 0] 37)).alloc (.cells #[.slice none 0 0,.int .i64 0] 41)).alloc (.cells #[.pointer (some ⟨w2.heap.size,0,none⟩),.pointer (some ⟨w2.heap.size+1,0,none⟩),.int .i64 size] 43)).alloc (aiu P a c (w2.heap.size+1+1))):=⟨_,rfl⟩;rw[<-hy,<-hW] at HP;clear V2 hs1 hs2 hs3;go_wp2_with (go_at_call 11;refine(jI _ _ _ _).mono ?_;rintro e w2 ⟨rfl,rfl⟩;first|rw[ah HI]|rw[ah HJ])
    rw[<-hy,<-hW];clear hW hy d0 d1 d2 d3 d4 d5 d6 d7 d8 d9 hbl BE;generalize w2.heap.size+1+1=x at HP;generalize w2.heap.size=d at HP;obtain⟨W0,hW0⟩:∃W0,W0=w.alloc (Xq P a c):=⟨_,rfl⟩;obtain⟨bp,hbp⟩:∃bp,bp=w.heap.size:=⟨_,rfl⟩;rw[<-hW0] at HP B0 HS0;rw[<-hW0,<-hbp] at HP0;rw[<-hbp];have ahu:=aj ((ah HSp).next (ah B0));clear hW0 hbp HSp Bf;go_loopw [66] (λiv wr=>∃(k:Nat) (st:dW),iv=.int .i64 k/\k<=l.length/\Hid (Fit P m size st/\st.ids.length<=k)/\Hid (PR RH (λ_=>False) W0 wr p y x d a c P m size st st)) (λiv _=>l.length-(intOf iv).toNat)
    case atStart=>exact⟨0,su,rfl,ajm _,aj ⟨ah HF0,Xc _⟩,HP⟩
    case round =>
     clear HP HF0;obtain⟨k,st,rfl,hk,HF,HP⟩:=hrel;by_cases hlt:k<l.length
     ·obtain⟨ba,bo,rfl,s6⟩:=ah ahu k hlt;have s7:Ten wr ba (bo+k*10) (spt l k):=s6.keep (ah HP).bl.size ((ah HP).bl.block ba s6.lt);have hsm:=ah HM k hlt;obtain⟨s,hs⟩:∃s,s=spt l k:=⟨_,rfl⟩;rw[<-hs] at s7 hsm;obtain⟨_,x0,x1,x2,x3,x4,x5,x6,x7,x8,x9⟩:=s7;have b1:Below wr.heap.size wr (wr.alloc (Kv s)).drew:=((ajb _ _).alloc (Xc _) _).drew;have r1:=(ah HP).lF V (jR:=λi=>i=wr.heap.size) b1 (λi hi=>.inr ⟨by omega,by subst hi;simp⟩);have t1:UC (wr.alloc (Kv s)).drew wr.heap.size s:=(UC.new wr s).same (Xc _) rfl;have P1:=aj (Ut V M C r1 (ah HF).1 (by have:=(ah HF).2;omega) s hsm)
      have F2:=aj (show Fit P m size (stepT P m size s st)/\(stepT P m size s st).ids.length<=k+1 from⟨(ah HF).1.step,by have:=(ah HF).2;have:=aen (P:=P) (m:=m) (size:=size) (c:=s) (st:=st);omega⟩);obtain⟨st2,hst2⟩:∃st2,stepT P m size s st=st2:=⟨_,rfl⟩;rw[hst2] at P1 F2;obtain⟨b,hb⟩:∃b,b=wr.heap.size:=⟨_,rfl⟩;obtain⟨W1,hW1⟩:∃W1,W1=wr.alloc (Kv s):=⟨_,rfl⟩;rw[<-hW1,<-hb] at P1 t1;have T1:=aj t1;have PS:=aj (λ(W2:World) (h2:PR RH (λi=>i=b) W0 W2 p y x d a c P m size st2 st2)=>h2.store V (ah F2).1);have HSS:=aj (λ(W3:World) (q ch:Nat) (F3 G3:Nat->Prop) (h3:SH W3 W0.heap.size q F3 st2.s) (hc3:qg W3 W0.heap.size ch G3 st2.s) (hB3:W0.heap.size<=W3.heap.size)=>Xb H HT HY f s.n (ah HFz) h3 hc3 (ah F2).1.rY.ok hB3)
      have HN:=aj (λ(W2 W3:World) (h2:PR RH (λi=>i=b) W0 W2 p y x d a c P m size st2 st2) (b3:Below W2.heap.size W2 W3)=>show PR RH (λ_=>False) W0 W3 p y x d a c P m size st2 st2 from(h2.next V b3).aZ V (λ_ z=>z.elim));clear s6 hs hsm b1 r1 t1 hst2 HP HF HM ahu;go_wp2_with fail;rw[<-hW1,<-hb];clear hW1 hb x0 x1 x2 x3 x4 x5 x6 x7 x8 x9;have k1:aes b s W1.drew:=(ah T1).ten;refine wp_region_held_drew (S:=aes b s) (by kernel_rfl) k1 (λhHeld=>?_);refine ajx (i:=0) (v:=?_) rfl (by kernel_rfl) (by kernel_rfl) (by kernel_rfl) (λ_ _ _ h=>h) (Or.inl ⟨by rfl,?_⟩) (by assumption) (show wpAnyH _ _ _ _ _ _ _ (Act.put _ (some 70) _) _ from ?_)
      rotate_left
      ·(intro w hSw;(try dsimp only at hSw);go_simp;try with_reducible rfl)
      simp only[Act.put,ajf,ajk,ajj];refine ajx (i:=1) (v:=?_) rfl (by kernel_rfl) (by kernel_rfl) (by kernel_rfl) (λ_ _ _ h=>h) (Or.inl ⟨by rfl,?_⟩) (by assumption) (show wpAnyH _ _ _ _ _ _ _ (Act.put _ (some 71) _) _ from ?_);rotate_left
      ·(intro w hSw;(try dsimp only at hSw);go_simp;try with_reducible rfl)
      simp only[Act.put,ajf,ajk,ajj];refine ajx (i:=2) (v:=?_) rfl (by kernel_rfl) (by kernel_rfl) (by kernel_rfl) (λ_ _ _ h=>h) (Or.inl ⟨by rfl,?_⟩) (by assumption) (show wpAnyH _ _ _ _ _ _ _ (Act.put _ (some 72) _) _ from ?_);rotate_left
      ·(intro w hSw;(try dsimp only at hSw);go_simp;try with_reducible rfl)
      simp only[Act.put,ajf,ajk,ajj];refine ank (rs:=[3]) (by kernel_rfl) (by simp) ?_;refine anh rfl (λK hK=>?_) anj;go_simp;go_wp2_with (first|(go_at_call 12;refine(ah P1).mono ?_;rintro e w2 ⟨rfl,q2,s2⟩;obtain⟨ch,Gd,v10,v1,vyl,vxl,vch⟩:=q2.lU;have t2:=(ah T1).stay s2 rfl;have vb:=t2.lt;have k2:aes b s w2:=t2.ten;have j2:Xr b y x ch s w2:=⟨t2.ten,v10,v1⟩;have HC:=aj vch;have P2:=aj (ah PS w2 q2);have Q2:=aj q2;clear q2 s2 vch t2 P1));refine hK.out _ _ k2 (λXc=>?_);clear hK K;refine ajx (i:=4) (v:=?_) rfl (by kernel_rfl) (by kernel_rfl) (by kernel_rfl) (λ_ _ _ h=>h) (Or.inl ⟨by rfl,?_⟩) (by assumption) (show wpAnyH _ _ _ _ _ _ _ (Act.put _ (some 74) _) _ from ?_)
      rotate_left
      ·(intro w hSw;(try dsimp only at hSw);go_simp;try with_reducible rfl)
      simp only[Act.put,ajf,ajk,ajj];refine ajx (i:=5) (v:=?_) rfl (by kernel_rfl) (by kernel_rfl) (by kernel_rfl) (λ_ _ _ h=>h) (Or.inl ⟨by rfl,?_⟩) (by assumption) (show wpAnyH _ _ _ _ _ _ _ (Act.put _ (some 75) _) _ from ?_);rotate_left
      ·(intro w hSw;(try dsimp only at hSw);go_simp;try with_reducible rfl)
      simp only[Act.put,ajf,ajk,ajj];refine Gx (S':=Xr b y x ch s) (λ_ h=>h.1) _ _ _ _ ?_;have ahv:=j2;refine ajx (i:=6) (v:=?_) rfl (by kernel_rfl) (by kernel_rfl) (by kernel_rfl) (λ_ _ _ h=>h) (Or.inl ⟨by rfl,?_⟩) (by assumption) (show wpAnyH _ _ _ _ _ _ _ (Act.put _ (some 76) _) _ from ?_);rotate_left
      ·(intro w hSw;(try dsimp only at hSw);go_simp;try with_reducible rfl)
      simp only[Act.put,ajf,ajk,ajj];refine ajx (i:=8) (v:=?_) rfl (by kernel_rfl) (by kernel_rfl) (by kernel_rfl) (λ_ _ _ h=>h) (Or.inl ⟨by rfl,?_⟩) (by assumption) (show wpAnyH _ _ _ _ _ _ _ (Act.put _ (some 78) _) _ from ?_);rotate_left
      ·(intro w hSw;(try dsimp only at hSw);go_simp;try with_reducible rfl)
      simp only[Act.put,ajf,ajk,ajj];refine ajx (i:=9) (v:=?_) rfl (by kernel_rfl) (by kernel_rfl) (by kernel_rfl) (λ_ _ _ h=>h) (Or.inl ⟨by rfl,?_⟩) (by assumption) (show wpAnyH _ _ _ _ _ _ _ (Act.put _ (some 79) _) _ from ?_);rotate_left
      ·(intro w hSw;(try dsimp only at hSw);go_simp;try with_reducible rfl)
      simp only[Act.put,ajf,ajk,ajj];refine ajx (i:=10) (v:=?_) rfl (by kernel_rfl) (by kernel_rfl) (by kernel_rfl) (λ_ _ _ h=>h) (Or.inl ⟨by rfl,?_⟩) (by assumption) (show wpAnyH _ _ _ _ _ _ _ (Act.put _ (some 80) _) _ from ?_);rotate_left
      ·(intro w hSw;(try dsimp only at hSw);go_simp;try with_reducible rfl)
      simp only[Act.put,ajf,ajk,ajj];refine ajx (i:=11) (v:=?_) rfl (by kernel_rfl) (by kernel_rfl) (by kernel_rfl) (λ_ _ _ h=>h) (Or.inl ⟨by rfl,?_⟩) (by assumption) (show wpAnyH _ _ _ _ _ _ _ (Act.put _ (some 81) _) _ from ?_);rotate_left
      ·(intro w hSw;(try dsimp only at hSw);go_simp;try with_reducible rfl)
      simp only[Act.put,ajf,ajk,ajj];refine ajx (i:=12) (v:=?_) rfl (by kernel_rfl) (by kernel_rfl) (by kernel_rfl) (λ_ _ _ h=>h) (Or.inl ⟨by rfl,?_⟩) (by assumption) (show wpAnyH _ _ _ _ _ _ _ (Act.put _ (some 82) _) _ from ?_);rotate_left
      ·(intro w hSw;(try dsimp only at hSw);go_simp;try with_reducible rfl)
      simp only[Act.put,ajf,ajk,ajj];refine ajx (i:=13) (v:=?_) rfl (by kernel_rfl) (by kernel_rfl) (by kernel_rfl) (λ_ _ _ h=>h) (Or.inl ⟨by rfl,?_⟩) (by assumption) (show wpAnyH _ _ _ _ _ _ _ (Act.put _ (some 83) _) _ from ?_);rotate_left
      ·(intro w hSw;(try dsimp only at hSw);go_simp;try with_reducible rfl)
      simp only[Act.put,ajf,ajk,ajj];refine ajx (i:=14) (v:=?_) rfl (by kernel_rfl) (by kernel_rfl) (by kernel_rfl) (λ_ _ _ h=>h) (Or.inl ⟨by rfl,?_⟩) (by assumption) (show wpAnyH _ _ _ _ _ _ _ (Act.put _ (some 84) _) _ from ?_);rotate_left
      ·(intro w hSw;(try dsimp only at hSw);go_simp;try with_reducible rfl)
      simp only[Act.put,ajf,ajk,ajj];refine ajx (i:=15) (v:=?_) rfl (by kernel_rfl) (by kernel_rfl) (by kernel_rfl) (λ_ _ _ h=>h) (Or.inl ⟨by rfl,?_⟩) (by assumption) (show wpAnyH _ _ _ _ _ _ _ (Act.put _ (some 85) _) _ from ?_);rotate_left
      ·(intro w hSw;(try dsimp only at hSw);go_simp;try with_reducible rfl)
      simp only[Act.put,ajf,ajk,ajj];refine ajx (i:=16) (v:=?_) rfl (by kernel_rfl) (by kernel_rfl) (by kernel_rfl) (λ_ _ _ h=>h) (Or.inl ⟨by rfl,?_⟩) (by assumption) (show wpAnyH _ _ _ _ _ _ _ (Act.put _ (some 86) _) _ from ?_);rotate_left
      ·(intro w hSw;(try dsimp only at hSw);go_simp;try with_reducible rfl)
      simp only[Act.put,ajf,ajk,ajj];refine ajx (i:=17) (v:=?_) rfl (by kernel_rfl) (by kernel_rfl) (by kernel_rfl) (λ_ _ _ h=>h) (Or.inl ⟨by rfl,?_⟩) (by assumption) (show wpAnyH _ _ _ _ _ _ _ (Act.put _ (some 87) _) _ from ?_);rotate_left
      ·(intro w hSw;(try dsimp only at hSw);go_simp;try with_reducible rfl)
      simp only[Act.put,ajf,ajk,ajj];refine ank (rs:=[7]) (by kernel_rfl) (by simp) ?_;refine anh rfl (λK hK=>?_) anj;go_simp;go_wp2_with (first|(go_at_call 14;refine(ah P2).mono ?_;rintro e w3 ⟨q8,F8,rfl,h8,p8,b8⟩;have j3:Xr b y x ch s w3:=j2.below vb vyl vxl b8;have P3:=aj (ah HSS w3 q8 ch F8 Gd h8 ((ah HC).below b8) p8.bl.size);have B8:=aj b8;have l3:b<w3.heap.size/\y<w3.heap.size/\x<w3.heap.size:=⟨ajc vb b8.size,ajc vyl b8.size,ajc vxl b8.size⟩;clear h8 p8 b8 P2))
      refine hK.out _ _ j3 (λXc=>?_);clear hK K;refine ank (rs:=[18]) (by kernel_rfl) (by simp) ?_;refine anh rfl (λK hK=>?_) anj;go_simp;go_wp2_with (first|(go_at_call 13;refine(ah P3).mono ?_;rintro e w4 ⟨rfl,b9⟩;have j4:Xr b y x ch s w4:=j3.below l3.1 l3.2.1 l3.2.2 b9;have HP4:=aj (ah HN w2 w4 (ah Q2) (ak (ah B8) b9));clear b9 P3));refine hK.out _ _ j4 (λXc=>?_);clear hK K;refine ajx (i:=19) (v:=?_) rfl (by kernel_rfl) (by kernel_rfl) (by kernel_rfl) (λ_ _ _ h=>h) (Or.inl ⟨by rfl,?_⟩) (by assumption) (show wpAnyH _ _ _ _ _ _ _ (Act.put _ (some 89) _) _ from ?_)
      rotate_left
      ·(intro w hSw;(try dsimp only at hSw);go_simp;try with_reducible rfl)
      simp only[Act.put,ajf,ajk,ajj];refine ajx (i:=20) (v:=?_) rfl (by kernel_rfl) (by kernel_rfl) (by kernel_rfl) (λ_ _ _ h=>h) (Or.inl ⟨by rfl,?_⟩) (by assumption) (show wpAnyH _ _ _ _ _ _ _ (Act.put _ (some 90) _) _ from ?_);rotate_left
      ·(intro w hSw;(try dsimp only at hSw);go_simp;try with_reducible rfl)
      simp only[Act.put,ajf,ajk,ajj];refine wpAnyH_done (by kernel_rfl) ?_ _;clear k1 k2 j2 j3 j4 ahv;go_wp2_with fail;first
       | (refine⟨⟨k+1,st2,by go_num,by omega,F2,HP4⟩,?_⟩;simp[intOf];omega)
       | (go_round;(case rel=>exact⟨k+1,st2,by go_num,by omega,F2,HP4⟩);(case measure=>simp[intOf];omega))
     ·have bd:Below wr.heap.size wr wr.drew:=(ajb _ _).drew;have bw:Below W0.heap.size W0 wr.drew:=ak (ah HP).bl bd;have P1:=aj (((ah HP).next V bd).plan M (by omega));unfold Jh rU at P1;have pbw:=(ah HP0).next bw;have hbl:=pbw.lt;have k1:AtP bp P a c wr.drew:=⟨pbw.c0,pbw.c1,pbw.c2,pbw.c3,pbw.c4,pbw.c5,pbw.c6,pbw.c7,pbw.c8,pbw.c9⟩;have HPB:=aj pbw;have HS1:=aj ((ah HS0).next bw);have BE:=aj (ak (ah B0) bw);have hl2:P.f.length<=200000:=by omega
      clear bd bw pbw HP HF HM ahu HS0 B0 HP0;go_wp2_with fail;go_region_held3 (AtP bp P a c) (first|assumption|go_keep)
       (first
        | (go_at_call 16;refine(ah P1).mono ?_;rintro e w2 ⟨a2,c2,rfl,h2,_,b2⟩;have g2:=(ah HPB).next b2;have k2:AtP bp P a c w2:=⟨g2.c0,g2.c1,g2.c2,g2.c3,g2.c4,g2.c5,g2.c6,g2.c7,g2.c8,g2.c9⟩;have P2:=aj (aaf P.n a2 a P.f c2 c (nth P.v 0) (nth P.v 1) (nth P.v 2) (nth P.v 3) (nth P.v 4) (nth P.v 5) (nth P.v 6) (nth P.v 7) w2 h2 ((ah HS1).next b2) hl2);have B2:=aj (ak (ah BE) b2);have G2:=aj g2;clear h2 b2 g2 P1)
        | (go_at_call 15;refine(ah P2).mono ?_;rintro e w3 ⟨rfl,b3⟩;have g3:=(ah G2).next b3;have k3:AtP bp P a c w3:=⟨g3.c0,g3.c1,g3.c2,g3.c3,g3.c4,g3.c5,g3.c6,g3.c7,g3.c8,g3.c9⟩;have B3:=aj (ak (ah B2) b3);clear b3 g3 P2))
      clear k1 k2 k3;go_wp2_with fail;go_ret;exact⟨rfl,ah B3⟩
 ·have P1:=aj (V.agy (w.alloc (Xq P a c)) P a c m size hP hsl0 hc (hG _ b0) he);unfold Jh rU at P1;obtain⟨E,hE⟩:∃E,Pn.dG P=E:=⟨_,rfl⟩;rw[hE] at P1 PN he;have e5:(E==0)=false:=by simpa using he
  have e6:(E !=0)=true:=by simpa using he
  clear hP hsl hc hG hsp hst hf V M C H HT HY hsl0 b0 hE;go_enter func3,ntmps3;go_wp2_with fail;refine(ah P1).mono ?_;rintro e w1 ⟨rfl,b1⟩;have B1:=aj b1;have P2:=aj (ah PN w1 b1);obtain⟨hbl,d0,d1,d2,d3,d4,d5,d6,d7,d8,d9⟩:=(ah HP0).next b1;clear P1 PN b1 c0 c1 c2 c3 c4 c5 c6 c7 c8 c9;go_wp2_with fail;refine(ah P2).mono ?_;rintro e w2 ⟨rfl,b2⟩;have BE:=aj (ak (ak (ah B0) (ah B1)) b2);clear P2 b2 hbl d0 d1 d2 d3 d4 d5 d6 d7 d8 d9;go_wp2_with fail;go_ret;refine⟨?_,ah BE⟩;first|rfl|simp
theorem aa4 (hN:∀{w w':World},T w->Below w.heap.size w w'->T w')(V:gQ T RH SH)(M:sO RH)(C:uq RH)(H:lV SH)(HT:lX SH)(HY:Gg SH)(P:Pn.cu)(a:Option Addr)(c:Nat)(m size:Int)(al:Option Addr)(l:List uX)(cl:Nat)(f:ByteArray)(w:World)(hP:kM P)(hsl:nZ w a P.f)(hc:P.f.length<=c)(hsp:SlP w al l)(hst:∀k,k<l.length->wE (spt l k))(hf:f.size<=140737488355328)(hG:T w) :
 Calls prog 3 #[Jh P a c,.int .i64 m,.int .i64 size,.slice al l.length cl,.string f] w λe w'=>e=.returned (.bool true)/\Below w.heap.size w w' :=
 Qd V M C H HT HY P a c m size l al cl f w hP hsl hc (λ_ hW=>hN hG hW) hsp hst hf
end
