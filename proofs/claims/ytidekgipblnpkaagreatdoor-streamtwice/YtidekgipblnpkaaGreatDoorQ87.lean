/- A part of the proof. -/
import Derived.Test.YtidekgipblnpkaaGreatDoorQ75
import Derived.Test.YtidekgipblnpkaaGreatDoorQ86
set_option maxRecDepth 100000
set_option maxHeartbeats 8000000
namespace Go.Proofs.YtidekgipblnpkaaGreatDoor.Dk
open Go.RowKit Go.Proofs.Tryz
theorem ace {p:Pn.aU}{m size now:Int}{x:Po}{st:Str}(h:st.ids=[]):(aI p m size now x st).1.2.1=false:=by
 have ha:fH p now x st.ids=false:=by
  unfold fH;rw[h];unfold iJ;simp
 unfold aI;split
 ·rfl
 ·rw[if_neg (by rw[ha];simp)];split
  ·rfl
  ·split
   ·rfl
   ·unfold jU;split
    ·rfl
    ·split
     ·rfl
     ·split<;>rfl
theorem QW {i:ByteArray}(h:i.size≠0):¬i.toList=[]/\i.toList.isEmpty=false:=by
 have hl:i.toList.length=i.size:=by rw[ByteArray.toList_eq];simp
 have:¬i.toList=[]:=λz=>by rw[z] at hl;simp at hl;omega
 exact⟨this,by simpa using this⟩
theorem ZT {i:ByteArray}(h:i.size=0):i.toList=[]/\i.toList.isEmpty=true:=by
 have hl:i.toList.length=i.size:=by rw[ByteArray.toList_eq];simp
 have:i.toList=[]:=List.length_eq_zero_iff.1 (by omega);exact⟨this,by rw[this];rfl⟩
theorem aiV {P:Pn.aU}(h:Pn.bG P=0):0<=nth P.v 7/\nth P.v 7<=100000:=by
 obtain⟨_,_,_,_,_,h6⟩:=Pn.mJ h;have key:∀(v ms:List Int) (k:Nat),Pn.dO v ms=true->0<=(v[k]?).getD 0/\(v[k]?).getD 0<=(ms[k]?).getD 0:=by
  intro v;induction v with
  | nil =>
   intro ms k hh
   cases ms with
   | nil=>simp
   | cons w ms=>simp[Pn.dO] at hh
  | cons y v ih =>
   intro ms k hh
   cases ms with
   | nil=>simp[Pn.dO] at hh
   | cons w ms =>
    simp only[Pn.dO,Bool.and_eq_true,decide_eq_true_eq] at hh
    cases k with
    | zero=>simpa using hh.1
    | succ k=>simpa using ih ms k hh.2
 exact key P.v Pn.dK 7 h6
section
variable {G:World->Prop}{RH:World->Nat->Nat->(Nat->Prop)->Pn.aU->Int->Int->Str->Prop}{SH:World->Nat->Nat->(Nat->Prop)->aG->Prop}
theorem acf (hN:∀{w w':World},G w->Below w.heap.size w w'->G w')(V:aK G RH SH)(E:jd SH)(P:Pn.aU)(ap:Option Addr)(cp:Nat)(now later:Int)(x:Po)(w:World)(hP:iE P)(hsl:jW w ap P.f)(hcp:P.f.length<=cp)(hx:dL x)(hG:G w) :
 Calls prog 5 #[qQ P ap cp,.int .i64 now,.int .i64 later,yw x] w λe w'=>e=.returned (.bool true)/\Below w.heap.size w w':=by
 unfold qQ;have b1:Below w.heap.size w (w.alloc (.cells #[.string P.n,.slice ap P.f.length cp,.int .i64 (nth P.v 0),.int .i64 (nth P.v 1),.int .i64 (nth P.v 2),.int .i64 (nth P.v 3),.int .i64 (nth P.v 4),.int .i64 (nth P.v 5),.int .i64 (nth P.v 6),.int .i64 (nth P.v 7)] 24)):=(Below.refl _ _).alloc (Nat.le_refl _) _;have p1:=PB.new w P.n ap P.f.length cp (nth P.v 0) (nth P.v 1) (nth P.v 2) (nth P.v 3) (nth P.v 4) (nth P.v 5) (nth P.v 6) (nth P.v 7) 24;obtain⟨W1,hW1⟩:∃W1,W1=w.alloc (.cells #[.string P.n,.slice ap P.f.length cp,.int .i64 (nth P.v 0),.int .i64 (nth P.v 1),.int .i64 (nth P.v 2),.int .i64 (nth P.v 3),.int .i64 (nth P.v 4),.int .i64 (nth P.v 5),.int .i64 (nth P.v 6),.int .i64 (nth P.v 7)] 24):=⟨_,rfl⟩
 rw[<-hW1] at b1 p1;have b2:Below W1.heap.size W1 (W1.alloc (.cells #[.string x.s,.string x.i,.string x.h,.string x.d,.int .i64 x.x,.int .i64 x.ro] 48)):=(Below.refl _ _).alloc (Nat.le_refl _) _;have q2:=lX.new W1 x (a:=none) (l:=[]) (λk hk=>by simp at hk);obtain⟨W2,hW2⟩:∃W2,W2=W1.alloc (.cells #[.string x.s,.string x.i,.string x.h,.string x.d,.int .i64 x.x,.int .i64 x.ro] 48):=⟨_,rfl⟩;rw[<-hW2] at b2 q2;obtain⟨bp,hbp⟩:∃bp,bp=w.heap.size:=⟨_,rfl⟩;have hs1:W1.heap.size=bp+1:=by rw[hW1,hbp];simp
 obtain⟨bx,hbx⟩:∃bx,bx=bp+1:=⟨_,rfl⟩;rw[<-hbp] at p1;rw[hs1,<-hbx] at q2;have b12:=ak b1 b2;have H2:Hid (PB W2 bp P.n ap P.f.length cp (nth P.v 0) (nth P.v 1) (nth P.v 2) (nth P.v 3) (nth P.v 4) (nth P.v 5) (nth P.v 6) (nth P.v 7)/\lX W2 bx x none []/\jW W2 ap P.f/\G W2/\Below w.heap.size w W2):=aj ⟨p1.next b2,q2,hsl.next b12,hN hG b12,b12⟩;have HP:=aj hP;have HX:=aj hx;have PU:=aj (kY hN V E W2 (ah H2).2.2.2.1);clear hsl hG b1 b2 p1 q2 b12 hP hx;go_enter func5,ntmps5
 go_wp2_with fail
 rw[<-hbp,<-hW1,<-hbx,<-hW2];clear hbp hW1 hbx hW2 hs1;refine(ah PU).mono ?_;rintro e w3 ⟨rfl,b3⟩;have H3:Hid (PB w3 bp P.n ap P.f.length cp (nth P.v 0) (nth P.v 1) (nth P.v 2) (nth P.v 3) (nth P.v 4) (nth P.v 5) (nth P.v 6) (nth P.v 7)/\lX w3 bx x none []/\jW w3 ap P.f/\G w3/\Below w.heap.size w w3):=aj ⟨(ah H2).1.next b3,(ah H2).2.1.next b3,(ah H2).2.2.1.next b3,hN (ah H2).2.2.2.1 b3,ak (ah H2).2.2.2.2 b3⟩;clear PU b3 H2;obtain⟨_,y0,y1,y2,y3,y4,y5,y6,y7,y8,y9⟩:=(ah H3).1;by_cases hE:Pn.bG P=0
 ·have PN:=aj (pV.new V (m:=65536) (size:=4096) w3 P ap cp (ah HP) (ah H3).2.2.1 hcp (ah H3).2.2.2.1 hE (by decide) (by decide));unfold qQ at PN;go_wp2_with fail
  refine(ah PN).mono ?_;rintro e w4 ⟨q,rfl,r4⟩;have HR4:=aj r4;have HB3:=aj (And.intro (ah H3).2.1 (And.intro (ah H3).2.2.2.2 (ah H3).1));clear PN r4 H3 y0 y1 y2 y3 y4 y5 y6 y7 y8 y9;have HH4:=aj ((ah HB3).1.from (ah HR4).bl (Nat.le_refl _));obtain⟨_,x0',x1',x2',x3',x4',x5',_⟩:=ah HH4;have PF:=aj ((ah HR4).publish V now x (ah HX));clear HH4;go_wp2_with fail
  refine(ah PF).mono ?_;rintro e w5 ⟨rfl,r5,_⟩;have Mc:=aj r5;have hna:=ace (p:=P) (m:=65536) (size:=4096) (now:=now) (x:=x) (st:=iK) rfl;have hnum:=(PX (p:=P) (m:=65536) (size:=4096) (now:=now) (x:=x) (st:=iK));have HT:=aj (λ(h0:(aI P 65536 4096 now x iK).1.2.2=0)=>aaP (later:=later) (nX hE) (Int.le_refl _) rfl h0 hna);have hw7:=aiV hE;clear PF r5 x0' x1' x2' x3' x4' x5' HR4;obtain⟨e1,he1⟩:∃e1,(aI P 65536 4096 now x iK).1.2.2=e1:=⟨_,rfl⟩;obtain⟨n1,hn1⟩:∃n1,(aI P 65536 4096 now x iK).1.1=n1:=⟨_,rfl⟩;obtain⟨st1,hst1⟩:∃st1,(aI P 65536 4096 now x iK).2=st1:=⟨_,rfl⟩
  rw[hna,he1,hn1] at hnum;rw[he1,hn1,hst1] at HT;rw[hst1] at Mc;rw[hna,he1,hn1];clear hna he1 hn1 hst1;have HB5:=aj (ak (ah HB3).2.1 (ah Mc).bl);by_cases h1:e1=0
  ·subst h1;have hn1:n1=1:=hnum.2.1 rfl rfl;subst hn1;have HT2:=aj (ah HT rfl);have PS:=aj ((ah Mc).store V);have hok:=aj (ah Mc).fit.mX.ok;clear HT hnum;go_wp2_with fail
   refine(ah PS).mono ?_;rintro e w7 ⟨qs,F7,rfl,s7,b7⟩;have QT:=aj ((ah Mc).below V b7);have PA:=aj (E.all s7 (ah hok) (ah QT).room);clear PS s7 b7 Mc HB5;go_wp2_with fail
   refine(ah PA).mono ?_;rintro e w8 ⟨v8,rfl,a8,b8⟩;obtain⟨aa,cc,rfl,_,_,sl8⟩:=a8.shape;have Q7:Hid (pV RH (λk=>∃z,aa=some z/\z.block=k) w3 w8 q P 65536 4096 st1):=aj ((ah QT).mine V b8 (λk hk=>by
    obtain⟨z,hz,e⟩:=hk;subst hz;right;have:=World.ownsRow.lt a8 z.block rfl;rw[<-e];exact this))
   have HS8:=aj sl8;have HH8:=aj ((ah HB3).1.from (ah Q7).bl (Nat.le_refl _));obtain⟨_,x0',x1',x2',x3',x4',x5',_⟩:=ah HH8;have PF:=aj ((ah Q7).publish V later x (ah HX));have hfew:st1.s.l.length<=200:=(ah hok).few;clear PA a8 b8 sl8 QT HH8;go_wp2_with fail
   refine(ah PF).mono ?_;rintro e w6 ⟨rfl,r6,Vu⟩;have HS6:=aj (Vu.recs (ah HS8) (λz hz=>⟨z,hz,rfl⟩));have zA:=aj r6;have Vt:=aj (ak (ah HB3).2.1 (ah zA).bl);have HH6:=aj ((ah HB3).1.from (ah zA).bl (Nat.le_refl _));have akE:=(ah HH6).c1;have hwc:w6.cell? ⟨bp,9,none⟩=some (.int .i64 (nth P.v 7)):=by
    rw[(ah zA).bl.cell (p:=⟨bp,9,none⟩) (ah HB3).2.2.lt];exact(ah HB3).2.2.c9
   clear PF r6 Vu x0' x1' x2' x3' x4' x5' HS8 Q7 HH6;by_cases hin:aY later 0 1099511627776=true
   ·have hlr:0<=later/\later<=1099511627776:=by simpa[aY] using hin
    have gl:decide (later<0)=false:=decide_eq_false (by omega);have gh:decide ((1099511627776:Int)<later)=false:=decide_eq_false (by omega);by_cases hw:x.i.size≠0/\0<pv P 7/\later-pv P 7<=now
    ·have h2:=(ah HT2).2.1 hin hw.1 hw.2.1 hw.2.2;rw[h2];rw[h2] at zA;obtain⟨ha,hb,hc⟩:=hw;unfold pv at hb hc;obtain⟨gi1,gi2⟩:=QW ha;have hdw:IntKind.i64.wrap (later-nth P.v 7)=later-nth P.v 7:=by rw[IntKind.wrap_i64];omega
     have gw:decide (0<nth P.v 7)=true:=decide_eq_true hb;have gn:decide (later-nth P.v 7<=now)=true:=decide_eq_true hc;have P9:=aj ((ah zA).store V);clear h2 HT2 ha;go_wp2_with fail
     refine(ah P9).mono ?_;rintro e w9 ⟨q9,F9,rfl,s9,b9⟩;have QU:=aj ((ah zA).below V b9);have PA:=aj (E.all s9 (ah hok) (ah QU).room);have HS9:=aj ((ah HS6).below b9);clear P9 s9 b9 zA HS6 akE hwc;go_wp2_with fail
     refine(ah PA).mono ?_;rintro e w10 ⟨v10,rfl,a10,b10⟩;obtain⟨ab,cb,rfl,_,_,sl10⟩:=a10.shape;have PQ:=aj (qc ab aa cb cc st1.s.l w10 sl10 ((ah HS9).below b10) (by omega));have B10:=aj (ak (ak (ah HB3).2.1 (ah QU).bl) b10);clear PA a10 b10 sl10 QU HS9;go_wp2_with fail
     refine(ah PQ).mono ?_;rintro e w11 ⟨rfl,nn,rfl⟩;go_wp2_with fail
     go_ret
     exact⟨rfl,below_drewN (ah B10) nn⟩
    ·obtain⟨h2,h3⟩:=(ah HT2).2.2 hin hw;rw[h2];obtain⟨e2,he2⟩:∃e2,(aI P 65536 4096 later x st1).1.2.2=e2:=⟨_,rfl⟩;obtain⟨n2,hn2⟩:∃n2,(aI P 65536 4096 later x st1).1.1=n2:=⟨_,rfl⟩;rw[he2,hn2] at h3;rw[he2,hn2];have hdw:IntKind.i64.wrap (later-nth P.v 7)=later-nth P.v 7:=by rw[IntKind.wrap_i64];omega
     have HW:=aj hw;clear HT2 h2 he2 hn2 hw;by_cases h0:e2=0
     ·subst h0;have hn2:n2=2:=h3 rfl;subst hn2;clear h3;by_cases z1:x.i.size=0
      ·obtain⟨gi1,gi2⟩:=ZT z1;go_wp2_with fail
       go_ret
       exact⟨rfl,ah Vt⟩
      ·obtain⟨gi1,gi2⟩:=QW z1;by_cases z2:0<nth P.v 7
       ·have gw:decide (0<nth P.v 7)=true:=decide_eq_true z2;have gn:decide (later-nth P.v 7<=now)=false:=decide_eq_false (λz=>ah HW ⟨z1,z2,z⟩);go_wp2_with fail
        go_ret
        exact⟨rfl,ah Vt⟩
       ·have gw:decide (0<nth P.v 7)=false:=decide_eq_false z2;go_wp2_with fail
        go_ret
        exact⟨rfl,ah Vt⟩
     ·have ge:(e2 !=0)=true:=by simpa using h0
      clear h3;by_cases z1:x.i.size=0
      ·obtain⟨gi1,gi2⟩:=ZT z1;go_wp2_with fail
       go_ret
       exact⟨rfl,ah Vt⟩
      ·obtain⟨gi1,gi2⟩:=QW z1;by_cases z2:0<nth P.v 7
       ·have gw:decide (0<nth P.v 7)=true:=decide_eq_true z2;have gn:decide (later-nth P.v 7<=now)=false:=decide_eq_false (λz=>ah HW ⟨z1,z2,z⟩);go_wp2_with fail
        go_ret
        exact⟨rfl,ah Vt⟩
       ·have gw:decide (0<nth P.v 7)=false:=decide_eq_false z2;go_wp2_with fail
        go_ret
        exact⟨rfl,ah Vt⟩
   ·have hin':aY later 0 1099511627776=false:=by simpa using hin
    have h2:=(ah HT2).1 hin';rw[h2];have hlr:later<0\/1099511627776<later:=by
     unfold aY at hin';rw[Bool.and_eq_false_iff] at hin';simp only[decide_eq_false_iff_not] at hin';omega
    clear HT2 h2 hin hin';by_cases hneg:later<0
    ·have gl:decide (later<0)=true:=decide_eq_true hneg;go_wp2_with fail
     go_ret
     exact⟨rfl,ah Vt⟩
    ·have gl:decide (later<0)=false:=decide_eq_false hneg;have gh:decide ((1099511627776:Int)<later)=true:=decide_eq_true (by omega);go_wp2_with fail
     go_ret
     exact⟨rfl,ah Vt⟩
  ·have ge:(e1 !=0)=true:=by simpa using h1
   obtain⟨hn0,_⟩:=hnum.1 h1;subst hn0;clear HT hnum;go_wp2_with fail
   go_ret
   exact⟨rfl,ah HB5⟩
 ·have PN:=aj (V.wrong w3 P ap cp 65536 4096 (ah HP) (ah H3).2.2.1 hcp (ah H3).2.2.2.1 hE);unfold qQ at PN;obtain⟨EE,hEE⟩:∃EE,Pn.bG P=EE:=⟨_,rfl⟩;rw[hEE] at PN hE;have gE:(EE !=0)=true:=by simpa using hE
  clear hEE;go_wp2_with fail
  refine(ah PN).mono ?_;rintro e w4 ⟨rfl,b4⟩;have B4:=aj (ak (ah H3).2.2.2.2 b4);clear b4 PN H3 y0 y1 y2 y3 y4 y5 y6 y7 y8 y9;go_wp2_with fail
  go_ret
  exact⟨rfl,ah B4⟩
end
end Go.Proofs.YtidekgipblnpkaaGreatDoor.Dk
