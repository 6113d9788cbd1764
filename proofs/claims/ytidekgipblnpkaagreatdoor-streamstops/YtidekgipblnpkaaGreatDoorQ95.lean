/- A part of the proof. -/
import Derived.Test.YtidekgipblnpkaaGreatDoorQ20
import Derived.Test.YtidekgipblnpkaaGreatDoorQ54
import Derived.Test.YtidekgipblnpkaaGreatDoorQ75
set_option maxRecDepth 100000
set_option maxHeartbeats 8000000
namespace Go.Proofs.YtidekgipblnpkaaGreatDoor.Dk
open Go.RowKit Go.Proofs.Tryz
theorem ah7 (x0 x1 x2 x3:Int)(W:World):(binOp .neq 60 (.agg #[.int .i64 x0,.int .i64 x1,.int .i64 x2,.int .i64 x3]) (.agg #[.int .i64 x0,.int .i64 x1,.int .i64 x2,.int .i64 x3])).run prog W=.ok (.bool false) W:=by
 have u3:=underlying3;have hS:prog.underlying 60=some (.struct (prog.fieldsOf 60)):=by kernel_rfl
 have hp:prog.stoodInHeld 60=false:=by kernel_rfl
 rw[run_neq_struct,show(10000:Nat)=9999+1 from rfl,run_equalIn_agg W 9999 60 _ _ hS hp];simp only[Program.fieldsOf,underlying60];go_simp
abbrev aiX (b:Nat)(x0 x1 x2 x3:Int)(w:World):Prop:=w.cell? ⟨b,0,none⟩=some (.int .i64 x0)/\w.cell? ⟨b,1,none⟩=some (.int .i64 x1)/\w.cell? ⟨b,2,none⟩=some (.int .i64 x2)/\w.cell? ⟨b,3,none⟩=some (.int .i64 x3)
theorem SB.Ik {w:World}{b:Nat}{x0 x1 x2 x3:Int}(h:SB w b x0 x1 x2 x3):aiX b x0 x1 x2 x3 w:=⟨h.c0,h.c1,h.c2,h.c3⟩
theorem ahr {w w':World}{k j:Nat}(h:w'.heap[k]?=w.heap[k]?):w'.frozen? ⟨k,j,none⟩=w.frozen? ⟨k,j,none⟩:=by
 unfold World.frozen?;simp only[h]
def Lr (RH:World->Nat->Nat->(Nat->Prop)->Pn.aU->Int->Int->Str->Prop)(w wr:World)(q:Nat)(P:Pn.aU)(m size:Int)(st:Str)(aa:Option Addr)(l:List Rc)(bs:Nat)(y0 y1 y2 y3:Int):Prop :=
 pV RH (λk=>(∃z,aa=some z/\z.block=k)\/k=bs) w wr q P m size st/\qM wr aa l/\SB wr bs y0 y1 y2 y3
section
variable {G:World->Prop}{RH:World->Nat->Nat->(Nat->Prop)->Pn.aU->Int->Int->Str->Prop}{SH:World->Nat->Nat->(Nat->Prop)->aG->Prop}{w wr w':World}{q bs:Nat}{P:Pn.aU}{m size:Int}{st st':Str}{aa:Option Addr}{l:List Rc}{y0 y1 y2 y3:Int}
theorem Lr.new (V:aK G RH SH)(h:pV RH (λk=>∃z,aa=some z/\z.block=k) w wr q P m size st)(hs:qM wr aa l)(y0 y1 y2 y3:Int):Lr RH w (wr.alloc (.cells #[.int .i64 y0,.int .i64 y1,.int .i64 y2,.int .i64 y3] 60)) q P m size st aa l wr.heap.size y0 y1 y2 y3:=by
 have hb:Below wr.heap.size wr (wr.alloc (.cells #[.int .i64 y0,.int .i64 y1,.int .i64 y2,.int .i64 y3] 60)):=(Below.refl _ _).alloc (Nat.le_refl _) _;refine⟨h.mine V hb (λk hk=>?_),hs.below hb,SB.new _ _ _ _ _ _⟩;rcases hk with y|rfl
 ·exact .inl y
 ·exact .inr ⟨Nat.le_refl _,by simp⟩
theorem Lr.below (V:aK G RH SH)(h:Lr RH w wr q P m size st aa l bs y0 y1 y2 y3)(hb:Below wr.heap.size wr w'):Lr RH w w' q P m size st aa l bs y0 y1 y2 y3:=⟨h.1.below V hb,h.2.1.below hb,h.2.2.next hb⟩
theorem Lr.stays (h:Lr RH w wr q P m size st aa l bs y0 y1 y2 y3)(h1:pV RH (λk=>(∃z,aa=some z/\z.block=k)\/k=bs) w w' q P m size st')(hs:aJ (λk=>(∃z,aa=some z/\z.block=k)\/k=bs) wr w'):Lr RH w w' q P m size st' aa l bs y0 y1 y2 y3:=by
 refine⟨h1,hs.recs h.2.1 (λz hz=>.inl ⟨z,hz,rfl⟩),?_⟩;have r:=h.2.2;have hb:(∃z,aa=some z/\z.block=bs)\/bs=bs:=.inr rfl;exact⟨Nat.lt_of_lt_of_le r.lt hs.1,by rw[hs.cell hb];exact r.c0,by rw[hs.cell hb];exact r.c1,by rw[hs.cell hb];exact r.c2,by rw[hs.cell hb];exact r.c3,λj=>by rw[ahr (hs.2 bs hb)];exact r.fr j⟩
theorem Lr.crash (V:aK G RH SH)(C:kT RH)(h:Lr RH w wr q P m size st aa l bs y0 y1 y2 y3)(keep:Int) :
 Calls prog 23 #[.pointer (some ⟨q,0,none⟩),.int .i64 keep] wr λe w'=>e=.returned (.tuple #[])/\Lr RH w w' q P m size ⟨st.es,st.s,[]⟩ aa l bs y0 y1 y2 y3 :=
 (h.1.crash V C keep).mono (λ_ _ z=>⟨z.1,h.stays z.2.1 z.2.2⟩)
theorem Lr.store (V:aK G RH SH)(h:Lr RH w wr q P m size st aa l bs y0 y1 y2 y3) :
 Calls prog 14 #[.pointer (some ⟨q,0,none⟩)] wr λe w'=>∃q' F0,e=.returned (.pointer (some ⟨q',0,none⟩))/\SH w' w.heap.size q' F0 st.s/\Lr RH w w' q P m size st aa l bs y0 y1 y2 y3 :=
 (h.1.store V).mono (λ_ _ ⟨q',F0,h1,h2,h3⟩=>⟨q',F0,h1,h2,h.below V h3⟩)
end
section
variable {G:World->Prop}{RH:World->Nat->Nat->(Nat->Prop)->Pn.aU->Int->Int->Str->Prop}{SH:World->Nat->Nat->(Nat->Prop)->aG->Prop}
theorem acg (hN:∀{w w':World},G w->Below w.heap.size w w'->G w')(V:aK G RH SH)(C:kT RH)(E:jd SH)(P:Pn.aU)(ap:Option Addr)(cp:Nat)(a:Option Addr)(l:List Stp)(c:Nat)(keep:Int)(w:World)(hP:iE P)(hsl:jW w ap P.f)(hcp:P.f.length<=cp)(hl:Ll w a l)(hlz:∀k,k<l.length->oO (Vz l k))(hG:G w) :
 Calls prog 8 #[qQ P ap cp,.slice a l.length c,.int .i64 keep] w λe w'=>e=.returned (.bool true)/\Below w.heap.size w w':=by
 unfold qQ;have b1:Below w.heap.size w (w.alloc (.cells #[.string P.n,.slice ap P.f.length cp,.int .i64 (nth P.v 0),.int .i64 (nth P.v 1),.int .i64 (nth P.v 2),.int .i64 (nth P.v 3),.int .i64 (nth P.v 4),.int .i64 (nth P.v 5),.int .i64 (nth P.v 6),.int .i64 (nth P.v 7)] 24)):=(Below.refl _ _).alloc (Nat.le_refl _) _;have p1:=PB.new w P.n ap P.f.length cp (nth P.v 0) (nth P.v 1) (nth P.v 2) (nth P.v 3) (nth P.v 4) (nth P.v 5) (nth P.v 6) (nth P.v 7) 24;obtain⟨W1,hW1⟩:∃W1,W1=w.alloc (.cells #[.string P.n,.slice ap P.f.length cp,.int .i64 (nth P.v 0),.int .i64 (nth P.v 1),.int .i64 (nth P.v 2),.int .i64 (nth P.v 3),.int .i64 (nth P.v 4),.int .i64 (nth P.v 5),.int .i64 (nth P.v 6),.int .i64 (nth P.v 7)] 24):=⟨_,rfl⟩
 rw[<-hW1] at b1 p1;obtain⟨bp,hbp⟩:∃bp,bp=w.heap.size:=⟨_,rfl⟩;rw[<-hbp] at p1;have H2:Hid (PB W1 bp P.n ap P.f.length cp (nth P.v 0) (nth P.v 1) (nth P.v 2) (nth P.v 3) (nth P.v 4) (nth P.v 5) (nth P.v 6) (nth P.v 7)/\Ll W1 a l/\jW W1 ap P.f/\G W1/\Below w.heap.size w W1):=aj ⟨p1,hl.next b1,hsl.next b1,hN hG b1,b1⟩;have HP:=aj hP;have HL:=aj hlz;have PU:=aj (kY hN V E W1 (ah H2).2.2.2.1);clear hsl hl hlz hG b1 p1 hP;go_enter func8,ntmps8
 go_wp2_with fail
 rw[<-hbp,<-hW1];clear hbp hW1;refine(ah PU).mono ?_;rintro e w3 ⟨rfl,b3⟩;have H3:Hid (PB w3 bp P.n ap P.f.length cp (nth P.v 0) (nth P.v 1) (nth P.v 2) (nth P.v 3) (nth P.v 4) (nth P.v 5) (nth P.v 6) (nth P.v 7)/\Ll w3 a l/\jW w3 ap P.f/\G w3/\Below w.heap.size w w3):=aj ⟨(ah H2).1.next b3,(ah H2).2.1.next b3,(ah H2).2.2.1.next b3,hN (ah H2).2.2.2.1 b3,ak (ah H2).2.2.2.2 b3⟩;clear PU b3 H2;obtain⟨_,y0,y1,y2,y3,y4,y5,y6,y7,y8,y9⟩:=(ah H3).1;by_cases hE:Pn.bG P=0
 ·have PN:=aj (pV.new V (m:=65536) (size:=4096) w3 P ap cp (ah HP) (ah H3).2.2.1 hcp (ah H3).2.2.2.1 hE (by decide) (by decide));unfold qQ at PN;go_wp2_with fail
  refine(ah PN).mono ?_;rintro e w4 ⟨q,rfl,r4⟩;have HR4:=aj r4;have HB3:=aj (And.intro (ah H3).2.1 (ah H3).2.2.2.2);clear PN r4 H3 y0 y1 y2 y3 y4 y5 y6 y7 y8 y9;by_cases h60:60<l.length
  ·have g60:decide ((60:Int)<(l.length:Int))=true:=decide_eq_true (by omega);go_wp2_with fail
   go_ret
   exact⟨rfl,ak (ah HB3).2 (ah HR4).bl⟩
  ·have g60:decide ((60:Int)<(l.length:Int))=false:=decide_eq_false (by omega);go_wp2_with fail
   go_loopw [29] (λiv wr=>∃(k:Nat) (st:Str),iv=.int .i64 k/\k<=l.length/\Hid (pV RH (λ_=>False) w3 wr q P 65536 4096 st)) (λiv _=>l.length-(intOf iv).toNat)
   case atStart=>exact⟨0,iK,rfl,Nat.zero_le _,HR4⟩
   case round =>
    clear HR4;obtain⟨k,st,rfl,hk,HR⟩:=hrel;by_cases hlt:k<l.length
    ·have HH:=aj ((ah HB3).1.from (ah HR).bl (Nat.le_refl _));obtain⟨ba,o,rfl,t10⟩:=(ah HH) k hlt;obtain⟨_,z0,z1,z2,z3,z4,z5,z6,z7,z8,z9⟩:=t10;obtain⟨sp,hsp⟩:∃sp,Vz l k=sp:=⟨_,rfl⟩;have hz:=ah HL k hlt;rw[hsp] at z0 z1 z2 z3 z4 z5 z6 z7 z8 z9 hz;have k5:Below wr.heap.size wr (wr.alloc (.cells #[.int .i64 sp.k,.int .i64 sp.now,.int .i64 sp.n,.string sp.x.s,.string sp.x.i,.string sp.x.h,.string sp.x.d,.int .i64 sp.x.x,.int .i64 sp.x.ro,.string sp.f] 50)):=(Below.refl _ _).alloc (Nat.le_refl _) _;have PB5:=aj (((ah HR).below V k5).publish V sp.now sp.x hz.x);clear hsp k5 hz HH
     go_wp2_with fail
     refine(ah PB5).mono ?_;rintro e w5 ⟨rfl,r5,_⟩;have Mc:=aj r5;obtain⟨zD,hst5⟩:∃zD,(aI P 65536 4096 sp.now sp.x st).2=zD:=⟨_,rfl⟩;rw[hst5] at Mc;have PS:=aj ((ah Mc).store V);have hok:=aj (ah Mc).fit.mX.ok;clear r5 PB5 HR z0 z1 z2 z3 z4 z5 z6 z7 z8 z9 hst5;go_wp2_with fail
     refine(ah PS).mono ?_;rintro e w7 ⟨qs,F7,rfl,s7,b7⟩;have QT:=aj ((ah Mc).below V b7);have PA:=aj (E.all s7 (ah hok) (ah QT).room);clear PS s7 b7 Mc;go_wp2_with fail
     refine(ah PA).mono ?_;rintro e w8 ⟨v8,rfl,a8,b8⟩;obtain⟨aa,cc,rfl,_,_,sl8⟩:=a8.shape;have Q7:Hid (pV RH (λk=>∃z,aa=some z/\z.block=k) w3 w8 q P 65536 4096 zD):=aj ((ah QT).mine V b8 (λk hk=>by
      obtain⟨z,hz,e⟩:=hk;subst hz;right;have:=World.ownsRow.lt a8 z.block rfl;rw[<-e];exact this))
     have HS8:=aj sl8;have P9:=aj ((ah Q7).store V);clear PA a8 b8 sl8 QT;go_wp2_with fail
     refine(ah P9).mono ?_;rintro e w9 ⟨q9,F9,rfl,s9,b9⟩;have QU:=aj ((ah Q7).below V b9);have HS9:=aj ((ah HS8).below b9);have PU:=aj (E.sums s9 (ah hok) (ah QU).room);clear P9 s9 b9 Q7 HS8;go_wp2_with fail
     refine(ah PU).mono ?_;rintro e w10 ⟨rfl,b10⟩;have L10:=aj (Lr.new V ((ah QU).below V b10) ((ah HS9).below b10) (zD.s.l.length:Int) (aP zD.s.l:Int) (cZ zD.s.l) zD.s.last);have hfew:zD.s.l.length<=200:=(ah hok).few;clear PU b10 QU HS9 hok;obtain⟨bs,hbs⟩:∃bs,bs=w10.heap.size:=⟨_,rfl⟩;obtain⟨W10,afA⟩:∃W10,W10=w10.alloc (.cells #[.int .i64 (zD.s.l.length:Int),.int .i64 (aP zD.s.l:Int),.int .i64 (cZ zD.s.l),.int .i64 zD.s.last] 60):=⟨_,rfl⟩;rw[<-hbs,<-afA] at L10;by_cases hm3:k % 3=0
     ·have g3:(((k:Int) % 3)==0)=true:=by rw[beq_iff_eq];omega
      have PK:=aj ((ah L10).crash V C keep);clear L10;go_wp2_with fail
      rw[<-afA];rw[<-hbs];clear afA hbs;refine(ah PK).mono ?_;rintro e w11 ⟨rfl,l11⟩;have L14:=aj (l11.below V (Below.refl _ _).drew);clear PK l11 g3 hm3;have P15:=aj ((ah L14).store V);have k0:=SB.Ik (ah L14).2.2;have hNq:=ah7 (zD.s.l.length:Int) (aP zD.s.l:Int) (cZ zD.s.l) zD.s.last;have hm:prog.eqGuardType prog.depth 60=false:=by kernel_rfl
      go_wp2_with fail
      go_region_held3 (aiX bs (zD.s.l.length:Int) (aP zD.s.l:Int) (cZ zD.s.l) zD.s.last) (first|assumption|go_keep)
       (first
        | (go_at_call 14;refine(ah P15).mono ?_;rintro e wA ⟨qA,FA,rfl,hA,lA⟩;have kA:=SB.Ik lA.2.2;have LA:=aj lA;have PA:=aj (E.all hA lA.1.fit.mX.ok lA.1.room);clear hA lA P15)
        | (go_at_call 21;refine(ah PA).mono ?_;rintro e wB ⟨vB,rfl,aB,bB⟩;obtain⟨ab,cb,rfl,cb1,cb2,sB⟩:=aB.shape;have LB:=aj ((ah LA).below V bB);have kB:=SB.Ik (ah LB).2.2;have PB:=aj (qc ab aa cb cc zD.s.l wB sB (ah LB).2.1 (by omega));clear aB bB sB PA LA)
        | (go_at_call 22;refine(ah PB).mono ?_;rintro e wC ⟨rfl,nq,rfl⟩;have LC:=aj ((ah LB).below V (below_drewN (Below.refl _ _) nq));have kC:=SB.Ik (ah LC).2.2;have PC:=aj ((ah LC).store V);clear PB LB)
        | (go_at_call 14;refine(ah PC).mono ?_;rintro e wD ⟨qD,FD,rfl,hD,lD⟩;have kD:=SB.Ik lD.2.2;have LD:=aj lD;have PD:=aj (E.sums hD lD.1.fit.mX.ok lD.1.room);clear hD lD PC)
        | (go_at_call 18;refine(ah PD).mono ?_;rintro e wE ⟨rfl,bE⟩;have LE:=aj ((ah LD).below V bE);have kE:=SB.Ik (ah LE).2.2;clear bE PD))
      have HRE:=aj ((ah LE).1.mine V (jw:=λ_=>False) (Below.refl _ _) (λ_ z=>z.elim));clear kA kB kC kD kE k0 LC LD LE L14 hNq hm;go_wp2_with fail
      refine⟨⟨k+1,_,by go_num,by omega,HRE⟩,?_⟩;simp[intOf];omega
     ·have g3:(((k:Int) % 3)==0)=false:=by rw[beq_eq_false_iff_ne];omega
      have L14:=aj ((ah L10).below V (Below.refl _ _).drew);rw[afA] at L14;rw[hbs] at L14;clear L10 afA hbs hm3;have P15:=aj ((ah L14).store V);have k0:=SB.Ik (ah L14).2.2;have hNq:=ah7 (zD.s.l.length:Int) (aP zD.s.l:Int) (cZ zD.s.l) zD.s.last;have hm:prog.eqGuardType prog.depth 60=false:=by kernel_rfl
      go_wp2_with fail
      go_region_held3 (aiX w10.heap.size (zD.s.l.length:Int) (aP zD.s.l:Int) (cZ zD.s.l) zD.s.last) (first|assumption|go_keep)
       (first
        | (go_at_call 14;refine(ah P15).mono ?_;rintro e wA ⟨qA,FA,rfl,hA,lA⟩;have kA:=SB.Ik lA.2.2;have LA:=aj lA;have PA:=aj (E.all hA lA.1.fit.mX.ok lA.1.room);clear hA lA P15)
        | (go_at_call 21;refine(ah PA).mono ?_;rintro e wB ⟨vB,rfl,aB,bB⟩;obtain⟨ab,cb,rfl,cb1,cb2,sB⟩:=aB.shape;have LB:=aj ((ah LA).below V bB);have kB:=SB.Ik (ah LB).2.2;have PB:=aj (qc ab aa cb cc zD.s.l wB sB (ah LB).2.1 (by omega));clear aB bB sB PA LA)
        | (go_at_call 22;refine(ah PB).mono ?_;rintro e wC ⟨rfl,nq,rfl⟩;have LC:=aj ((ah LB).below V (below_drewN (Below.refl _ _) nq));have kC:=SB.Ik (ah LC).2.2;have PC:=aj ((ah LC).store V);clear PB LB)
        | (go_at_call 14;refine(ah PC).mono ?_;rintro e wD ⟨qD,FD,rfl,hD,lD⟩;have kD:=SB.Ik lD.2.2;have LD:=aj lD;have PD:=aj (E.sums hD lD.1.fit.mX.ok lD.1.room);clear hD lD PC)
        | (go_at_call 18;refine(ah PD).mono ?_;rintro e wE ⟨rfl,bE⟩;have LE:=aj ((ah LD).below V bE);have kE:=SB.Ik (ah LE).2.2;clear bE PD))
      have HRE:=aj ((ah LE).1.mine V (jw:=λ_=>False) (Below.refl _ _) (λ_ z=>z.elim));clear kA kB kC kD kE k0 LC LD LE L14 hNq hm;go_wp2_with fail
      refine⟨⟨k+1,_,by go_num,by omega,HRE⟩,?_⟩;simp[intOf];omega
    ·obtain rfl:k=l.length:=by omega
     have B8:=aj (ak (ah HB3).2 (ah HR).bl);go_wp2_with fail
     go_ret
     exact⟨rfl,ah B8⟩
 ·have PN:=aj (V.wrong w3 P ap cp 65536 4096 (ah HP) (ah H3).2.2.1 hcp (ah H3).2.2.2.1 hE);unfold qQ at PN;obtain⟨EE,hEE⟩:∃EE,Pn.bG P=EE:=⟨_,rfl⟩;rw[hEE] at PN hE;have gE:(EE !=0)=true:=by simpa using hE
  clear hEE;go_wp2_with fail
  refine(ah PN).mono ?_;rintro e w4 ⟨rfl,b4⟩;have B4:=aj (ak (ah H3).2.2.2.2 b4);clear b4 PN H3 y0 y1 y2 y3 y4 y5 y6 y7 y8 y9;go_wp2_with fail
  go_ret
  exact⟨rfl,ah B4⟩
end
end Go.Proofs.YtidekgipblnpkaaGreatDoor.Dk
