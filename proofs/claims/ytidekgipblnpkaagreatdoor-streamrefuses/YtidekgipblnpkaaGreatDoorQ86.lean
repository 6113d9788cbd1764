/- A part of the proof. -/
import Derived.Test.YtidekgipblnpkaaGreatDoorQ20
import Derived.Test.YtidekgipblnpkaaGreatDoorQ54
set_option maxRecDepth 100000
set_option maxHeartbeats 8000000
namespace Go.Proofs.YtidekgipblnpkaaGreatDoor.Dk
open Go.RowKit Go.Proofs.Tryz
structure lX (w:World)(bx:Nat)(x:Po)(a:Option Addr)(l:List Stp):Prop where
 lt:bx<w.heap.size
 c0:w.cell? ⟨bx,0,none⟩=some (.string x.s)
 c1:w.cell? ⟨bx,1,none⟩=some (.string x.i)
 c2:w.cell? ⟨bx,2,none⟩=some (.string x.h)
 c3:w.cell? ⟨bx,3,none⟩=some (.string x.d)
 c4:w.cell? ⟨bx,4,none⟩=some (.int .i64 x.x)
 c5:w.cell? ⟨bx,5,none⟩=some (.int .i64 x.ro)
 row:Ll w a l
theorem lX.from {B:Nat}{w w':World}{bx:Nat}{x:Po}{a:Option Addr}{l:List Stp}(h:lX w bx x a l)(hb:Below B w w')(hB:w.heap.size<=B):lX w' bx x a l:=by
 have hlt:bx<B:=Nat.lt_of_lt_of_le h.lt hB;exact⟨Nat.lt_of_lt_of_le h.lt hb.size,by rw[hb.cell (p:=⟨bx,0,none⟩) hlt];exact h.c0,by rw[hb.cell (p:=⟨bx,1,none⟩) hlt];exact h.c1,by rw[hb.cell (p:=⟨bx,2,none⟩) hlt];exact h.c2,by rw[hb.cell (p:=⟨bx,3,none⟩) hlt];exact h.c3,by rw[hb.cell (p:=⟨bx,4,none⟩) hlt];exact h.c4,by rw[hb.cell (p:=⟨bx,5,none⟩) hlt];exact h.c5,h.row.from hb hB⟩
theorem lX.next {w w':World}{bx:Nat}{x:Po}{a:Option Addr}{l:List Stp}(h:lX w bx x a l)(hb:Below w.heap.size w w'):lX w' bx x a l:=h.from hb (Nat.le_refl _)
theorem lX.new (w:World)(x:Po){a:Option Addr}{l:List Stp}(h:Ll w a l):lX (w.alloc (.cells #[.string x.s,.string x.i,.string x.h,.string x.d,.int .i64 x.x,.int .i64 x.ro] 48)) w.heap.size x a l:=⟨by simp,by simp,by simp,by simp,by simp,by simp,by simp,h.next ((Below.refl _ _).alloc (Nat.le_refl _) _)⟩
theorem ahp {l:List Rc}{k:Nat}(h:k<l.length):rc l k∈l:=by
 unfold rc;rw[List.getElem?_eq_getElem h];exact List.getElem_mem h
section
variable {G:World->Prop}{RH:World->Nat->Nat->(Nat->Prop)->Pn.aU->Int->Int->Str->Prop}{SH:World->Nat->Nat->(Nat->Prop)->aG->Prop}
theorem ab9 (hN:∀{w w':World},G w->Below w.heap.size w w'->G w')(V:aK G RH SH)(E:jd SH)(P:Pn.aU)(ap:Option Addr)(cp:Nat)(a:Option Addr)(l:List Stp)(c:Nat)(x:Po)(w:World)(hP:iE P)(hsl:jW w ap P.f)(hcp:P.f.length<=cp)(hl:Ll w a l)(hlz:∀k,k<l.length->oO (Vz l k))(hx:dL x)(hG:G w) :
 Calls prog 6 #[qQ P ap cp,.slice a l.length c,yw x] w λe w'=>e=.returned (.bool true)/\Below w.heap.size w w':=by
 unfold qQ;have b1:Below w.heap.size w (w.alloc (.cells #[.string P.n,.slice ap P.f.length cp,.int .i64 (nth P.v 0),.int .i64 (nth P.v 1),.int .i64 (nth P.v 2),.int .i64 (nth P.v 3),.int .i64 (nth P.v 4),.int .i64 (nth P.v 5),.int .i64 (nth P.v 6),.int .i64 (nth P.v 7)] 24)):=(Below.refl _ _).alloc (Nat.le_refl _) _;have p1:=PB.new w P.n ap P.f.length cp (nth P.v 0) (nth P.v 1) (nth P.v 2) (nth P.v 3) (nth P.v 4) (nth P.v 5) (nth P.v 6) (nth P.v 7) 24;obtain⟨W1,hW1⟩:∃W1,W1=w.alloc (.cells #[.string P.n,.slice ap P.f.length cp,.int .i64 (nth P.v 0),.int .i64 (nth P.v 1),.int .i64 (nth P.v 2),.int .i64 (nth P.v 3),.int .i64 (nth P.v 4),.int .i64 (nth P.v 5),.int .i64 (nth P.v 6),.int .i64 (nth P.v 7)] 24):=⟨_,rfl⟩
 rw[<-hW1] at b1 p1;have b2:Below W1.heap.size W1 (W1.alloc (.cells #[.string x.s,.string x.i,.string x.h,.string x.d,.int .i64 x.x,.int .i64 x.ro] 48)):=(Below.refl _ _).alloc (Nat.le_refl _) _;have q2:=lX.new W1 x (hl.next b1);obtain⟨W2,hW2⟩:∃W2,W2=W1.alloc (.cells #[.string x.s,.string x.i,.string x.h,.string x.d,.int .i64 x.x,.int .i64 x.ro] 48):=⟨_,rfl⟩;rw[<-hW2] at b2 q2;obtain⟨bp,hbp⟩:∃bp,bp=w.heap.size:=⟨_,rfl⟩;have hs1:W1.heap.size=bp+1:=by rw[hW1,hbp];simp
 obtain⟨bx,hbx⟩:∃bx,bx=bp+1:=⟨_,rfl⟩;rw[<-hbp] at p1;rw[hs1,<-hbx] at q2;have b12:=ak b1 b2;have H2:Hid (PB W2 bp P.n ap P.f.length cp (nth P.v 0) (nth P.v 1) (nth P.v 2) (nth P.v 3) (nth P.v 4) (nth P.v 5) (nth P.v 6) (nth P.v 7)/\lX W2 bx x a l/\jW W2 ap P.f/\G W2/\Below w.heap.size w W2):=aj ⟨p1.next b2,q2,hsl.next b12,hN hG b12,b12⟩;have HP:=aj hP;have HX:=aj hx;have HL:=aj hlz;have PU:=aj (kY hN V E W2 (ah H2).2.2.2.1);clear hsl hl hlz hG b1 b2 p1 q2 b12 hP hx;go_enter func6,ntmps6
 go_wp2_with fail
 rw[<-hbp,<-hW1,<-hbx,<-hW2];clear hbp hW1 hbx hW2 hs1;refine(ah PU).mono ?_;rintro e w3 ⟨rfl,b3⟩;have H3:Hid (PB w3 bp P.n ap P.f.length cp (nth P.v 0) (nth P.v 1) (nth P.v 2) (nth P.v 3) (nth P.v 4) (nth P.v 5) (nth P.v 6) (nth P.v 7)/\lX w3 bx x a l/\jW w3 ap P.f/\G w3/\Below w.heap.size w w3):=aj ⟨(ah H2).1.next b3,(ah H2).2.1.next b3,(ah H2).2.2.1.next b3,hN (ah H2).2.2.2.1 b3,ak (ah H2).2.2.2.2 b3⟩;clear PU b3 H2;obtain⟨_,y0,y1,y2,y3,y4,y5,y6,y7,y8,y9⟩:=(ah H3).1;by_cases hE:Pn.bG P=0
 ·have PN:=aj (pV.new V (m:=65536) (size:=4096) w3 P ap cp (ah HP) (ah H3).2.2.1 hcp (ah H3).2.2.2.1 hE (by decide) (by decide));unfold qQ at PN;go_wp2_with fail
  refine(ah PN).mono ?_;rintro e w4 ⟨q,rfl,r4⟩;have HR4:=aj r4;have HB3:=aj (And.intro (ah H3).2.1 (ah H3).2.2.2.2);clear PN r4 H3 y0 y1 y2 y3 y4 y5 y6 y7 y8 y9;by_cases h60:60<l.length
  ·have g60:decide ((60:Int)<(l.length:Int))=true:=decide_eq_true (by omega);go_wp2_with fail
   go_ret
   exact⟨rfl,ak (ah HB3).2 (ah HR4).bl⟩
  ·have g60:decide ((60:Int)<(l.length:Int))=false:=decide_eq_false (by omega);go_wp2_with fail
   go_loopw [32] (λiv wr=>∃(k:Nat) (st:Str),iv=.int .i64 k/\k<=l.length/\Hid (pV RH (λ_=>False) w3 wr q P 65536 4096 st)) (λiv _=>l.length-(intOf iv).toNat)
   case atStart=>exact⟨0,iK,rfl,Nat.zero_le _,HR4⟩
   case round =>
    clear HR4;obtain⟨k,st,rfl,hk,HR⟩:=hrel;have HH:=aj ((ah HB3).1.from (ah HR).bl (Nat.le_refl _));by_cases hlt:k<l.length
    ·obtain⟨ba,o,rfl,t10⟩:=(ah HH).row k hlt;obtain⟨_,z0,z1,z2,z3,z4,z5,z6,z7,z8,z9⟩:=t10;obtain⟨sp,hsp⟩:∃sp,Vz l k=sp:=⟨_,rfl⟩;have hz:=ah HL k hlt;rw[hsp] at z0 z1 z2 z3 z4 z5 z6 z7 z8 z9 hz;have k5:Below wr.heap.size wr (wr.alloc (.cells #[.int .i64 sp.k,.int .i64 sp.now,.int .i64 sp.n,.string sp.x.s,.string sp.x.i,.string sp.x.h,.string sp.x.d,.int .i64 sp.x.x,.int .i64 sp.x.ro,.string sp.f] 50)):=(Below.refl _ _).alloc (Nat.le_refl _) _;have PB5:=aj (((ah HR).below V k5).publish V sp.now sp.x hz.x);clear hsp k5 hz HH;go_wp2_with fail
     refine(ah PB5).mono ?_;rintro e w5 ⟨rfl,r5,_⟩;have Mc:=aj r5;clear r5 PB5 HR z0 z1 z2 z3 z4 z5 z6 z7 z8 z9;go_wp2_with fail
     refine⟨⟨k+1,_,by go_num,by omega,Mc⟩,?_⟩;simp[intOf];omega
    ·obtain rfl:k=l.length:=by omega
     obtain⟨_,x0',x1',x2',x3',x4',x5',_⟩:=ah HH;have PF:=aj ((ah HR).publish V 1073741824 x (ah HX));have hro:=aj (λ(h0:(aI P 65536 4096 1073741824 x st).1.2.2=0) (ha:(aI P 65536 4096 1073741824 x st).1.2.1=false) (hr:x.ro≠0)=>aaO (ah HR).fit.mX.ok h0 ha hr);go_wp2_with fail
     refine(ah PF).mono ?_;rintro e w6 ⟨rfl,r6,_⟩;have zA:=aj r6;clear PF r6 x0' x1' x2' x3' x4' x5' HH HR;obtain⟨n,hn⟩:∃n,(aI P 65536 4096 1073741824 x st).1.1=n:=⟨_,rfl⟩;obtain⟨ag,hag⟩:∃ag,(aI P 65536 4096 1073741824 x st).1.2.1=ag:=⟨_,rfl⟩;obtain⟨ee,hee⟩:∃ee,(aI P 65536 4096 1073741824 x st).1.2.2=ee:=⟨_,rfl⟩;obtain⟨st6,Yw⟩:∃st6,(aI P 65536 4096 1073741824 x st).2=st6:=⟨_,rfl⟩;rw[hn,hag,hee,Yw] at hro;rw[Yw] at zA;rw[hn,hag,hee];clear hn hag hee Yw;have HH6:=aj ((ah HB3).1.from (ah zA).bl (Nat.le_refl _));have Vt:=aj (ak (ah HB3).2 (ah zA).bl)
     have acd:=(ah HH6).c5;by_cases he:ee=0
     ·subst he
      cases ag with
      | true =>
       go_wp2_with fail
       go_ret
       exact⟨rfl,ah Vt⟩
      | false =>
       by_cases hr0:x.ro=0
       ·rw[hr0] at acd;go_wp2_with fail
        go_ret
        exact⟨rfl,ah Vt⟩
       ·have gr0:(x.ro==0)=false:=by rw[beq_eq_false_iff_ne];exact hr0
        obtain⟨ho1,ho2⟩:=ah hro rfl rfl hr0;have HO1:=aj ho1;have PS:=aj ((ah zA).store V);obtain⟨N,hNN⟩:∃N,st6.s.l.length=N+1:=⟨st6.s.l.length-1,by
         have:st6.s.l≠[]:=λz=>by rw[z] at ho2;simp at ho2
         have:=List.length_pos_iff.2 this;omega⟩
        have HO2:Hid ((rc st6.s.l N).q=n):=aj (by
         rw[List.getLast?_eq_getElem?,hNN,Nat.add_sub_cancel,List.getElem?_eq_getElem (by omega)] at ho2;unfold rc;rw[List.getElem?_eq_getElem (by omega)];simpa using ho2)
        have hok:=aj (ah zA).fit.mX.ok;have hN2:N+1<=200:=by have:=(ah hok).few;omega
        clear ho1 ho2 hro;go_wp2_with fail
        refine(ah PS).mono ?_;rintro e w7 ⟨qs,F7,rfl,s7,b7⟩;have QT:=aj ((ah zA).below V b7);have PA:=aj (E.all s7 (ah hok) (ah QT).room);clear PS s7 b7 zA HH6 Vt acd;go_wp2_with fail
        refine(ah PA).mono ?_;rintro e w8 ⟨v8,rfl,a8,b8⟩;obtain⟨aa,cc,rfl,_,_,sl8⟩:=a8.shape;have H8:Hid (qM w8 aa st6.s.l/\lX w8 bx x a l/\Below w.heap.size w w8):=aj ⟨sl8,((ah HB3).1.from (ah QT).bl (Nat.le_refl _)).next b8,ak (ak (ah HB3).2 (ah QT).bl) b8⟩;clear PA a8 b8 sl8 QT HB3;obtain⟨L,hL⟩:∃L,st6.s.l=L:=⟨_,rfl⟩;rw[hL] at H8 HO1 HO2 hNN ⊢;clear hL hok;rw[hNN];go_wp2_with fail
        go_loopw [65] (λiv wr=>∃(k:Nat),iv=.int .i64 k/\k<=N+1/\Hid (qM wr aa L/\lX wr bx x a l/\Below w.heap.size w wr)) (λiv _=>N+1-(intOf iv).toNat)
        case atStart=>exact⟨0,rfl,Nat.zero_le _,H8⟩
        case round =>
         clear H8;obtain⟨k,rfl,hk,H8⟩:=hrel;by_cases hkl:k<N+1
         ·obtain⟨bl,ol,rfl,t6⟩:=(ah H8).1 k (by omega);obtain⟨_,z0,z1,z2,z3,z4,z5⟩:=t6;obtain⟨r,hr⟩:∃r,rc L k=r:=⟨_,rfl⟩;have hmem:=ahp (l:=L) (k:=k) (by omega);rw[hr] at z0 z1 z2 z3 z4 z5 hmem;have k9:Below wr.heap.size wr (wr.alloc (.cells #[.int .i64 r.k,.int .i64 r.q,.int .i64 r.t,.string r.s,.string r.h,.string r.d] 73)):=(Below.refl _ _).alloc (Nat.le_refl _) _;have H9:Hid (qM (wr.alloc (.cells #[.int .i64 r.k,.int .i64 r.q,.int .i64 r.t,.string r.s,.string r.h,.string r.d] 73)) (some ⟨bl,ol,none⟩) L/\lX (wr.alloc (.cells #[.int .i64 r.k,.int .i64 r.q,.int .i64 r.t,.string r.s,.string r.h,.string r.d] 73)) bx x a l/\Below w.heap.size w (wr.alloc (.cells #[.int .i64 r.k,.int .i64 r.q,.int .i64 r.t,.string r.s,.string r.h,.string r.d] 73))):=aj ⟨(ah H8).1.below k9,(ah H8).2.1.next k9,ak (ah H8).2.2 k9⟩
          have c0:=(ah H9).2.1.c0;have c5:=(ah H9).2.1.c5;clear hr k9 H8;by_cases hq:r.q=n
          ·have gq:(r.q !=n)=false:=by simpa using hq
           clear hq hmem;go_wp2_with fail
           refine⟨⟨k+1,by go_num,by omega,H9⟩,?_⟩;simp[intOf];omega
          ·have gq:(r.q !=n)=true:=by simpa using hq
           have hno:=ah HO1 r hmem hq;have g2:(x.ro==2)=false:=by rw[beq_eq_false_iff_ne];exact λz=>hno (.inl z)
           have gs:(r.s.toList==x.s.toList)=false:=by
            rw[beq_eq_false_iff_ne];exact λz=>hno (.inr (WideShapes.bytes_inj (by rw[<-ByteArray.toList_eq,<-ByteArray.toList_eq];exact z)))
           clear hno hmem hq;go_wp2_with fail
           refine⟨⟨k+1,by go_num,by omega,H9⟩,?_⟩;simp[intOf];omega
         ·obtain rfl:k=N+1:=by omega
          obtain⟨bl,ol,rfl,t6⟩:=(ah H8).1 N (by omega);have z1:=t6.c1;rw[ah HO2] at z1;have B8:=aj (ah H8).2.2;clear t6 H8;go_wp2_with fail
          go_ret
          exact⟨rfl,ah B8⟩
     ·have ge:(ee !=0)=true:=by simpa using he
      go_wp2_with fail
      go_ret
      exact⟨rfl,ah Vt⟩
 ·have PN:=aj (V.wrong w3 P ap cp 65536 4096 (ah HP) (ah H3).2.2.1 hcp (ah H3).2.2.2.1 hE);unfold qQ at PN;obtain⟨EE,hEE⟩:∃EE,Pn.bG P=EE:=⟨_,rfl⟩;rw[hEE] at PN hE;have gE:(EE !=0)=true:=by simpa using hE
  clear hEE;go_wp2_with fail
  refine(ah PN).mono ?_;rintro e w4 ⟨rfl,b4⟩;have B4:=aj (ak (ah H3).2.2.2.2 b4);clear b4 PN H3 y0 y1 y2 y3 y4 y5 y6 y7 y8 y9;go_wp2_with fail
  go_ret
  exact⟨rfl,ah B4⟩
end
end Go.Proofs.YtidekgipblnpkaaGreatDoor.Dk
