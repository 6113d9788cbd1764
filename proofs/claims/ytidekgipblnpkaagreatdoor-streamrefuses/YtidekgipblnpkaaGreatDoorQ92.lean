/- A part of the proof. -/
import Derived.Test.YtidekgipblnpkaaGreatDoorQ75
import Derived.Test.YtidekgipblnpkaaGreatDoorQ86
set_option maxRecDepth 100000
set_option maxHeartbeats 8000000
namespace Go.Proofs.YtidekgipblnpkaaGreatDoor.Dk
open Go.RowKit Go.Proofs.Tryz
theorem ahq {P:Pn.aU}(h:Pn.bG P=0):nth P.v 5=0\/nth P.v 5=1:=by
 obtain⟨_,_,_,_,_,h6⟩:=Pn.mJ h;have key:∀(v ms:List Int) (k:Nat),Pn.dO v ms=true->0<=(v[k]?).getD 0/\(v[k]?).getD 0<=(ms[k]?).getD 0:=by
  intro v;induction v with
  | nil =>
   intro ms k hh
   cases ms with
   | nil=>simp
   | cons w ms=>simp[Pn.dO] at hh
  | cons y v ih =>
   intro ms k hh
   cases ms with
   | nil=>simp[Pn.dO] at hh
   | cons w ms =>
    simp only[Pn.dO,Bool.and_eq_true,decide_eq_true_eq] at hh
    cases k with
    | zero=>simpa using hh.1
    | succ k=>simpa using ih ms k hh.2
 obtain⟨a,b⟩:=key P.v Pn.dK 5 h6;unfold nth;have e:((Pn.dK[5]?).getD 0:Int)=1:=rfl;rw[e] at b;omega
section
variable {G:World->Prop}{RH:World->Nat->Nat->(Nat->Prop)->Pn.aU->Int->Int->Str->Prop}{SH:World->Nat->Nat->(Nat->Prop)->aG->Prop}
theorem Vw (hN:∀{w w':World},G w->Below w.heap.size w w'->G w')(V:aK G RH SH)(E:jd SH)(P:Pn.aU)(ap:Option Addr)(cp:Nat)(a:Option Addr)(l:List Stp)(c:Nat)(x:Po)(w:World)(hP:iE P)(hsl:jW w ap P.f)(hcp:P.f.length<=cp)(hl:Ll w a l)(hlz:∀k,k<l.length->oO (Vz l k))(hx:dL x)(hG:G w) :
 Calls prog 7 #[qQ P ap cp,.slice a l.length c,yw x] w λe w'=>e=.returned (.bool true)/\Below w.heap.size w w':=by
 unfold qQ;have b1:Below w.heap.size w (w.alloc (.cells #[.string P.n,.slice ap P.f.length cp,.int .i64 (nth P.v 0),.int .i64 (nth P.v 1),.int .i64 (nth P.v 2),.int .i64 (nth P.v 3),.int .i64 (nth P.v 4),.int .i64 (nth P.v 5),.int .i64 (nth P.v 6),.int .i64 (nth P.v 7)] 24)):=(Below.refl _ _).alloc (Nat.le_refl _) _;have p1:=PB.new w P.n ap P.f.length cp (nth P.v 0) (nth P.v 1) (nth P.v 2) (nth P.v 3) (nth P.v 4) (nth P.v 5) (nth P.v 6) (nth P.v 7) 24;obtain⟨W1,hW1⟩:∃W1,W1=w.alloc (.cells #[.string P.n,.slice ap P.f.length cp,.int .i64 (nth P.v 0),.int .i64 (nth P.v 1),.int .i64 (nth P.v 2),.int .i64 (nth P.v 3),.int .i64 (nth P.v 4),.int .i64 (nth P.v 5),.int .i64 (nth P.v 6),.int .i64 (nth P.v 7)] 24):=⟨_,rfl⟩
 rw[<-hW1] at b1 p1;have b2:Below W1.heap.size W1 (W1.alloc (.cells #[.string x.s,.string x.i,.string x.h,.string x.d,.int .i64 x.x,.int .i64 x.ro] 48)):=(Below.refl _ _).alloc (Nat.le_refl _) _;have q2:=lX.new W1 x (hl.next b1);obtain⟨W2,hW2⟩:∃W2,W2=W1.alloc (.cells #[.string x.s,.string x.i,.string x.h,.string x.d,.int .i64 x.x,.int .i64 x.ro] 48):=⟨_,rfl⟩;rw[<-hW2] at b2 q2;obtain⟨bp,hbp⟩:∃bp,bp=w.heap.size:=⟨_,rfl⟩;have hs1:W1.heap.size=bp+1:=by rw[hW1,hbp];simp
 obtain⟨bx,hbx⟩:∃bx,bx=bp+1:=⟨_,rfl⟩;rw[<-hbp] at p1;rw[hs1,<-hbx] at q2;have b12:=ak b1 b2;have H2:Hid (PB W2 bp P.n ap P.f.length cp (nth P.v 0) (nth P.v 1) (nth P.v 2) (nth P.v 3) (nth P.v 4) (nth P.v 5) (nth P.v 6) (nth P.v 7)/\lX W2 bx x a l/\jW W2 ap P.f/\G W2/\Below w.heap.size w W2):=aj ⟨p1.next b2,q2,hsl.next b12,hN hG b12,b12⟩;have HP:=aj hP;have HX:=aj hx;have HL:=aj hlz;have PU:=aj (kY hN V E W2 (ah H2).2.2.2.1);clear hsl hl hlz hG b1 b2 p1 q2 b12 hP hx;go_enter func7,ntmps7
 go_wp2_with fail
 rw[<-hbp,<-hW1,<-hbx,<-hW2];clear hbp hW1 hbx hW2 hs1;refine(ah PU).mono ?_;rintro e w3 ⟨rfl,b3⟩;have H3:Hid (PB w3 bp P.n ap P.f.length cp (nth P.v 0) (nth P.v 1) (nth P.v 2) (nth P.v 3) (nth P.v 4) (nth P.v 5) (nth P.v 6) (nth P.v 7)/\lX w3 bx x a l/\jW w3 ap P.f/\G w3/\Below w.heap.size w w3):=aj ⟨(ah H2).1.next b3,(ah H2).2.1.next b3,(ah H2).2.2.1.next b3,hN (ah H2).2.2.2.1 b3,ak (ah H2).2.2.2.2 b3⟩;clear PU b3 H2;obtain⟨_,y0,y1,y2,y3,y4,y5,y6,y7,y8,y9⟩:=(ah H3).1;by_cases hE:Pn.bG P=0
 ·have PN:=aj (pV.new V (m:=65536) (size:=4096) w3 P ap cp (ah HP) (ah H3).2.2.1 hcp (ah H3).2.2.2.1 hE (by decide) (by decide));unfold qQ at PN;go_wp2_with fail
  refine(ah PN).mono ?_;rintro e w4 ⟨q,rfl,r4⟩;have HR4:=aj r4;have HB3:=aj (And.intro (ah H3).2.1 (And.intro (ah H3).2.2.2.2 (ah H3).1));clear PN r4 H3 y0 y1 y2 y3 y4 y5 y6 y7 y8 y9;by_cases h60:60<l.length
  ·have g60:decide ((60:Int)<(l.length:Int))=true:=decide_eq_true (by omega);go_wp2_with fail
   go_ret
   exact⟨rfl,ak (ah HB3).2.1 (ah HR4).bl⟩
  ·have g60:decide ((60:Int)<(l.length:Int))=false:=decide_eq_false (by omega);go_wp2_with fail
   have HLw:Hid (Low iK.es/\iK.s.last<=0):=aj ⟨Low.nil,Int.le_refl _⟩;go_loopw [28] (λiv wr=>∃(k:Nat) (st:Str),iv=.int .i64 k/\k<=l.length/\Hid (Low st.es/\st.s.last<=(k:Int))/\Hid (pV RH (λ_=>False) w3 wr q P 65536 4096 st)) (λiv _=>l.length-(intOf iv).toNat)
   case atStart=>exact⟨0,iK,rfl,Nat.zero_le _,HLw,HR4⟩
   case round =>
    clear HR4 HLw;obtain⟨k,st,rfl,hk,HLw,HR⟩:=hrel;have HH:=aj ((ah HB3).1.from (ah HR).bl (Nat.le_refl _));by_cases hlt:k<l.length
    ·obtain⟨ba,o,rfl,t10⟩:=(ah HH).row k hlt;obtain⟨_,z0,z1,z2,z3,z4,z5,z6,z7,z8,z9⟩:=t10;obtain⟨sp,hsp⟩:∃sp,Vz l k=sp:=⟨_,rfl⟩;have hz:=ah HL k hlt;rw[hsp] at z0 z1 z2 z3 z4 z5 z6 z7 z8 z9 hz;have k5:Below wr.heap.size wr (wr.alloc (.cells #[.int .i64 sp.k,.int .i64 sp.now,.int .i64 sp.n,.string sp.x.s,.string sp.x.i,.string sp.x.h,.string sp.x.d,.int .i64 sp.x.x,.int .i64 sp.x.ro,.string sp.f] 50)):=(Below.refl _ _).alloc (Nat.le_refl _) _;have PB5:=aj (((ah HR).below V k5).publish V sp.now sp.x hz.x);have akF:Hid (Low (aI P 65536 4096 sp.now sp.x st).2.es/\(aI P 65536 4096 sp.now sp.x st).2.s.last<=((k+1:Nat):Int)):=aj ⟨(ah HLw).1.pub,by
      have h1:=(ah HLw).2;have h2:=(adR (p:=P) (m:=65536) (size:=4096) (now:=sp.now) (x:=sp.x) (st:=st)).2;omega⟩
     clear hsp k5 hz HH HLw;go_wp2_with fail
     refine(ah PB5).mono ?_;rintro e w5 ⟨rfl,r5,_⟩;have Mc:=aj r5;clear r5 PB5 HR z0 z1 z2 z3 z4 z5 z6 z7 z8 z9;go_wp2_with fail
     refine⟨⟨k+1,_,by go_num,by omega,akF,Mc⟩,?_⟩;simp[intOf];omega
    ·obtain rfl:k=l.length:=by omega
     have PS:=aj ((ah HR).store V);have hok:=aj (ah HR).fit.mX.ok;clear HH;go_wp2_with fail
     refine(ah PS).mono ?_;rintro e w7 ⟨qs,F7,rfl,s7,b7⟩;have QT:=aj ((ah HR).below V b7);have PA:=aj (E.all s7 (ah hok) (ah QT).room);clear PS s7 b7 HR;go_wp2_with fail
     refine(ah PA).mono ?_;rintro e w8 ⟨v8,rfl,a8,b8⟩;obtain⟨aa,cc,rfl,_,_,sl8⟩:=a8.shape;have Q7:Hid (pV RH (λk=>∃z,aa=some z/\z.block=k) w3 w8 q P 65536 4096 st):=aj ((ah QT).mine V b8 (λk hk=>by
      obtain⟨z,hz,e⟩:=hk;subst hz;right;have:=World.ownsRow.lt a8 z.block rfl;rw[<-e];exact this))
     have HS8:=aj sl8;have HH8:=aj ((ah HB3).1.from (ah Q7).bl (Nat.le_refl _));obtain⟨_,x0',x1',x2',x3',x4',x5',_⟩:=ah HH8;have PF:=aj ((ah Q7).publish V 1073741824 x (ah HX));have hre:=aj (λ(h0:(aI P 65536 4096 1073741824 x st).1.2.2≠0) (h8:¬((aI P 65536 4096 1073741824 x st).1.2.2=8/\(pv P 5≠1\/x.ro≠0)))=>TM (nX hE) (ah Q7).fit.mX (ah HLw).1 (by have:=(ah HLw).2;omega) h0 h8);clear PA a8 b8 sl8 QT hok HLw;go_wp2_with fail
     refine(ah PF).mono ?_;rintro e w6 ⟨rfl,r6,Vu⟩;have HS6:=aj (Vu.recs (ah HS8) (λz hz=>⟨z,hz,rfl⟩));have zA:=aj r6;clear PF r6 Vu x0' x1' x2' x3' x4' x5' HH8 Q7 HS8;obtain⟨n,hn⟩:∃n,(aI P 65536 4096 1073741824 x st).1.1=n:=⟨_,rfl⟩;obtain⟨ag,hag⟩:∃ag,(aI P 65536 4096 1073741824 x st).1.2.1=ag:=⟨_,rfl⟩;obtain⟨ee,hee⟩:∃ee,(aI P 65536 4096 1073741824 x st).1.2.2=ee:=⟨_,rfl⟩;obtain⟨st6,Yw⟩:∃st6,(aI P 65536 4096 1073741824 x st).2=st6:=⟨_,rfl⟩;rw[hee,Yw] at hre;rw[Yw] at zA;rw[hn,hag,hee];clear hn hag hee Yw;have HH6:=aj ((ah HB3).1.from (ah zA).bl (Nat.le_refl _))
     have Vt:=aj (ak (ah HB3).2.1 (ah zA).bl);have acd:=(ah HH6).c5;have hdc:w6.cell? ⟨bp,7,none⟩=some (.int .i64 (nth P.v 5)):=by
      rw[(ah zA).bl.cell (p:=⟨bp,7,none⟩) (ah HB3).2.2.lt];exact(ah HB3).2.2.c7
     have hd1:=ahq hE;by_cases he:ee=0
     ·subst he;clear hre;go_wp2_with fail
      go_ret
      exact⟨rfl,ah Vt⟩
     ·have ge:(ee==0)=false:=by rw[beq_eq_false_iff_ne];exact he
      by_cases hfull:ee=8/\(nth P.v 5=0\/x.ro≠0)
      ·obtain⟨h8,hor⟩:=hfull;subst h8;clear hre;by_cases hd0:nth P.v 5=0
       ·rw[hd0] at hdc;go_wp2_with fail
        go_ret
        exact⟨rfl,ah Vt⟩
       ·have gd:(nth P.v 5==0)=false:=by rw[beq_eq_false_iff_ne];exact hd0
        have gr:(x.ro !=0)=true:=by
         rcases hor with y|y
         ·exact absurd y hd0
         ·simpa using y
        clear hor hd0;go_wp2_with fail
        go_ret
        exact⟨rfl,ah Vt⟩
      ·have hsame:=ah hre he (λz=>hfull ⟨z.1,z.2.imp (λy=>by unfold pv at y;omega) id⟩);have PS:=aj ((ah zA).store V);have aiW:=aj (ah zA).fit.mX.ok;have hfew:st.s.l.length<=200:=by rw[<-hsame];exact(ah aiW).few
       have HSame:=aj hsame;have hg8:ee=8->nth P.v 5≠0/\x.ro=0:=λz=>⟨λy=>hfull ⟨z,.inl y⟩,Classical.byContradiction (λy=>hfull ⟨z,.inr y⟩)⟩
       clear hre hsame hfull;by_cases h8:ee=8
       ·subst h8;obtain⟨hd0,hr0⟩:=hg8 rfl;have gd:(nth P.v 5==0)=false:=by rw[beq_eq_false_iff_ne];exact hd0
        rw[hr0] at acd;clear hg8 hd0;go_wp2_with fail
        refine(ah PS).mono ?_;rintro e w9 ⟨qt,F9,rfl,s9,b9⟩;have QU:=aj ((ah zA).below V b9);have PA:=aj (E.all s9 (ah aiW) (ah QU).room);have HS9:=aj ((ah HS6).below b9);clear PS s9 b9 zA HS6 HH6 acd hdc;go_wp2_with fail
        refine(ah PA).mono ?_;rintro e w10 ⟨v10,rfl,a10,b10⟩;obtain⟨ab,cb,rfl,_,_,sl10⟩:=a10.shape;rw[ah HSame] at sl10 ⊢;have PQ:=aj (qc ab aa cb cc st.s.l w10 sl10 ((ah HS9).below b10) (by omega));have B10:=aj (ak (ak (ah HB3).2.1 (ah QU).bl) b10);clear PA a10 b10 sl10 QU HS9;go_wp2_with fail
        refine(ah PQ).mono ?_;rintro e w11 ⟨rfl,nn,rfl⟩;go_wp2_with fail
        go_ret
        exact⟨rfl,below_drewN (ah B10) nn⟩
       ·have g8:(ee==8)=false:=by rw[beq_eq_false_iff_ne];exact h8
        clear hg8;go_wp2_with fail
        refine(ah PS).mono ?_;rintro e w9 ⟨qt,F9,rfl,s9,b9⟩;have QU:=aj ((ah zA).below V b9);have PA:=aj (E.all s9 (ah aiW) (ah QU).room);have HS9:=aj ((ah HS6).below b9);clear PS s9 b9 zA HS6 HH6 acd hdc;go_wp2_with fail
        refine(ah PA).mono ?_;rintro e w10 ⟨v10,rfl,a10,b10⟩;obtain⟨ab,cb,rfl,_,_,sl10⟩:=a10.shape;rw[ah HSame] at sl10 ⊢;have PQ:=aj (qc ab aa cb cc st.s.l w10 sl10 ((ah HS9).below b10) (by omega));have B10:=aj (ak (ak (ah HB3).2.1 (ah QU).bl) b10);clear PA a10 b10 sl10 QU HS9;go_wp2_with fail
        refine(ah PQ).mono ?_;rintro e w11 ⟨rfl,nn,rfl⟩;go_wp2_with fail
        go_ret
        exact⟨rfl,below_drewN (ah B10) nn⟩
 ·have PN:=aj (V.wrong w3 P ap cp 65536 4096 (ah HP) (ah H3).2.2.1 hcp (ah H3).2.2.2.1 hE);unfold qQ at PN;obtain⟨EE,hEE⟩:∃EE,Pn.bG P=EE:=⟨_,rfl⟩;rw[hEE] at PN hE;have gE:(EE !=0)=true:=by simpa using hE
  clear hEE;go_wp2_with fail
  refine(ah PN).mono ?_;rintro e w4 ⟨rfl,b4⟩;have B4:=aj (ak (ah H3).2.2.2.2 b4);clear b4 PN H3 y0 y1 y2 y3 y4 y5 y6 y7 y8 y9;go_wp2_with fail
  go_ret
  exact⟨rfl,ah B4⟩
end
end Go.Proofs.YtidekgipblnpkaaGreatDoor.Dk
