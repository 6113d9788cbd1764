/- A part of the proof. -/
import Derived.Test.YtidekgipblnpkaaGreatDoorQ18
import Derived.Test.YtidekgipblnpkaaGreatDoorQ20
import Derived.Test.YtidekgipblnpkaaGreatDoorQ54
set_option maxRecDepth 100000
set_option maxHeartbeats 8000000
namespace Go.Proofs.YtidekgipblnpkaaGreatDoor.Dk
open Go.RowKit Go.Proofs.Tryz
theorem Lh (x0 x1 x2 x3:Int)(w:World):(Instr.field 60 (.agg #[.int .i64 x0,.int .i64 x1,.int .i64 x2,.int .i64 x3]) 3).run prog w=.ok (.int .i64 x3) w:=by
 simp[Instr.field,run_underlying underlying60,asAgg,go_sem]
abbrev At1 (b:Nat)(s:ByteArray)(w:World):Prop:=w.cell? ⟨b,3,none⟩=some (.string s)
theorem afy (l:List Rc)(s:ByteArray):dV l s=iR l s:=by
 unfold dV iR;rw[List.countP_eq_length_filter]
theorem found_low {P:Pn.aU}{l:List Rc}{es:List bD}(h:Cnt l es)(hb:QY P l)(f:ByteArray):∀e∈lF es f,pv P 3≠0->e.2<=pv P 3:=λe he hp=>by
 have hm:e∈es:=by
  unfold lF at he;split at he
  ·exact(List.mem_filter.1 he).1
  ·cases he
 rw[((h.mem e).1 hm).2,afy];exact hb.per hp e.1
section
variable {G:World->Prop}{RH:World->Nat->Nat->(Nat->Prop)->Pn.aU->Int->Int->Str->Prop}{SH:World->Nat->Nat->(Nat->Prop)->aG->Prop}
theorem Yq (hN:∀{w w':World},G w->Below w.heap.size w w'->G w')(V:aK G RH SH)(E:jd SH)(TE:jA SH)(P:Pn.aU)(ap:Option Addr)(cp:Nat)(a:Option Addr)(l:List Stp)(c:Nat)(rm sz:Int)(w:World)(hP:iE P)(hsl:jW w ap P.f)(hcp:P.f.length<=cp)(hl:Ll w a l)(hlz:∀k,k<l.length->oO (Vz l k))(hG:G w) :
 Calls prog 4 #[qQ P ap cp,.int .i64 rm,.int .i64 sz,.slice a l.length c] w λe w'=>e=.returned (.bool true)/\Below w.heap.size w w':=by
 unfold qQ;have b1:Below w.heap.size w (w.alloc (.cells #[.string P.n,.slice ap P.f.length cp,.int .i64 (nth P.v 0),.int .i64 (nth P.v 1),.int .i64 (nth P.v 2),.int .i64 (nth P.v 3),.int .i64 (nth P.v 4),.int .i64 (nth P.v 5),.int .i64 (nth P.v 6),.int .i64 (nth P.v 7)] 24)):=(Below.refl _ _).alloc (Nat.le_refl _) _;have p1:=PB.new w P.n ap P.f.length cp (nth P.v 0) (nth P.v 1) (nth P.v 2) (nth P.v 3) (nth P.v 4) (nth P.v 5) (nth P.v 6) (nth P.v 7) 24;obtain⟨W1,hW1⟩:∃W1,W1=w.alloc (.cells #[.string P.n,.slice ap P.f.length cp,.int .i64 (nth P.v 0),.int .i64 (nth P.v 1),.int .i64 (nth P.v 2),.int .i64 (nth P.v 3),.int .i64 (nth P.v 4),.int .i64 (nth P.v 5),.int .i64 (nth P.v 6),.int .i64 (nth P.v 7)] 24):=⟨_,rfl⟩
 rw[<-hW1] at b1 p1;obtain⟨bp,hbp⟩:∃bp,bp=w.heap.size:=⟨_,rfl⟩;rw[<-hbp] at p1;have H2:Hid (PB W1 bp P.n ap P.f.length cp (nth P.v 0) (nth P.v 1) (nth P.v 2) (nth P.v 3) (nth P.v 4) (nth P.v 5) (nth P.v 6) (nth P.v 7)/\Ll W1 a l/\jW W1 ap P.f/\G W1/\Below w.heap.size w W1):=aj ⟨p1,hl.next b1,hsl.next b1,hN hG b1,b1⟩;have HP:=aj hP;have HL:=aj hlz;have PU:=aj (kY hN V E W1 (ah H2).2.2.2.1);clear hsl hl hlz hG b1 p1 hP;go_enter func4,ntmps4
 go_wp2_with fail
 rw[<-hbp,<-hW1];clear hbp hW1;refine(ah PU).mono ?_;rintro e w3 ⟨rfl,b3⟩;have H3:Hid (PB w3 bp P.n ap P.f.length cp (nth P.v 0) (nth P.v 1) (nth P.v 2) (nth P.v 3) (nth P.v 4) (nth P.v 5) (nth P.v 6) (nth P.v 7)/\Ll w3 a l/\jW w3 ap P.f/\G w3/\Below w.heap.size w w3):=aj ⟨(ah H2).1.next b3,(ah H2).2.1.next b3,(ah H2).2.2.1.next b3,hN (ah H2).2.2.2.1 b3,ak (ah H2).2.2.2.2 b3⟩;clear PU b3 H2;obtain⟨_,y0,y1,y2,y3,y4,y5,y6,y7,y8,y9⟩:=(ah H3).1;by_cases hE:Pn.bG P=0
 ·by_cases hin:(aY rm 1 65536&&aY sz 1 4096)=true
  ·obtain⟨hrm,hsz⟩:=(Bool.and_eq_true _ _).mp hin;have PN:=aj (pV.new V (m:=rm) (size:=sz) w3 P ap cp (ah HP) (ah H3).2.2.1 hcp (ah H3).2.2.2.1 hE hrm hsz);unfold qQ at PN;go_wp2_with fail
   refine(ah PN).mono ?_;rintro e w4 ⟨q,rfl,r4⟩;have HR4:=aj r4;have HB3:=aj (And.intro (ah H3).2.1 (And.intro (ah H3).2.2.2.2 (ah H3).1));have HE:=aj (nX hE);clear PN r4 H3 y0 y1 y2 y3 y4 y5 y6 y7 y8 y9;by_cases h60:60<l.length
   ·have g60:decide ((60:Int)<(l.length:Int))=true:=decide_eq_true (by omega);go_wp2_with fail
    go_ret
    exact⟨rfl,ak (ah HB3).2.1 (ah HR4).bl⟩
   ·have g60:decide ((60:Int)<(l.length:Int))=false:=decide_eq_false (by omega);have HBn:Hid (QY P iK.s.l):=aj (QY.nil (ah HE));go_wp2_with fail
    go_loopw [44] (λiv wr=>∃(k:Nat) (st:Str),iv=.int .i64 k/\k<=l.length/\Hid (QY P st.s.l)/\Hid (pV RH (λ_=>False) w3 wr q P rm sz st)) (λiv _=>l.length-(intOf iv).toNat)
    case atStart=>exact⟨0,iK,rfl,Nat.zero_le _,HBn,HR4⟩
    case round =>
     clear HR4 HBn;obtain⟨k,st,rfl,hk,HBn,HR⟩:=hrel;by_cases hlt:k<l.length
     ·have HH:=aj ((ah HB3).1.from (ah HR).bl (Nat.le_refl _));obtain⟨ba,o,rfl,t10⟩:=(ah HH) k hlt;obtain⟨_,z0,z1,z2,z3,z4,z5,z6,z7,z8,z9⟩:=t10;obtain⟨sp,hsp⟩:∃sp,Vz l k=sp:=⟨_,rfl⟩;have hz:=ah HL k hlt;rw[hsp] at z0 z1 z2 z3 z4 z5 z6 z7 z8 z9 hz;have k5:Below wr.heap.size wr (wr.alloc (.cells #[.int .i64 sp.k,.int .i64 sp.now,.int .i64 sp.n,.string sp.x.s,.string sp.x.i,.string sp.x.h,.string sp.x.d,.int .i64 sp.x.x,.int .i64 sp.x.ro,.string sp.f] 50)):=(Below.refl _ _).alloc (Nat.le_refl _) _;have t5:Ten (wr.alloc (.cells #[.int .i64 sp.k,.int .i64 sp.now,.int .i64 sp.n,.string sp.x.s,.string sp.x.i,.string sp.x.h,.string sp.x.d,.int .i64 sp.x.x,.int .i64 sp.x.ro,.string sp.f] 50)) wr.heap.size 0 sp:=⟨by simp,by simp,by simp,by simp,by simp,by simp,by simp,by simp,by simp,by simp,by simp⟩
      have r5:pV RH (λk=>k=wr.heap.size) w3 (wr.alloc (.cells #[.int .i64 sp.k,.int .i64 sp.now,.int .i64 sp.n,.string sp.x.s,.string sp.x.i,.string sp.x.h,.string sp.x.d,.int .i64 sp.x.x,.int .i64 sp.x.ro,.string sp.f] 50)) q P rm sz st:=(ah HR).mine V k5 (λk hk=>.inr (by subst hk;exact⟨Nat.le_refl _,by simp⟩));obtain⟨W5,hW5⟩:∃W5,W5=wr.alloc (.cells #[.int .i64 sp.k,.int .i64 sp.now,.int .i64 sp.n,.string sp.x.s,.string sp.x.i,.string sp.x.h,.string sp.x.d,.int .i64 sp.x.x,.int .i64 sp.x.ro,.string sp.f] 50):=⟨_,rfl⟩;obtain⟨bc,hbc⟩:∃bc,bc=wr.heap.size:=⟨_,rfl⟩;rw[<-hW5,<-hbc] at t5 r5
      have Mc:=aj r5;have HT5:=aj t5;have hlast:=r5.fit.mX.ok.last;have P5:=aj ((ah Mc).store V);have hok:=aj (ah Mc).fit.mX.ok;clear hsp k5 HH t5 r5;go_wp2_with fail
      rw[<-hW5,<-hbc];clear hW5 hbc z0 z1 z2 z3 z4 z5 z6 z7 z8 z9 HR;refine(ah P5).mono ?_;rintro e w5 ⟨q5,F5,rfl,s5,b5⟩;have zA:=aj ((ah Mc).below V b5);have HT6:=aj ((ah HT5).keep b5.size (b5.block bc (ah HT5).lt));have P6:=aj (E.sums s5 (ah hok) (ah zA).room);clear P5 s5 b5 Mc HT5;go_wp2_with fail
      refine(ah P6).mono ?_;rintro e w6 ⟨rfl,b6⟩;have QT:=aj ((ah zA).below V b6);have HT7:=aj ((ah HT6).keep b6.size (b6.block bc (ah HT6).lt));have P7:=aj ((ah QT).publish V sp.now sp.x hz.x);obtain⟨_,c0,c1,c2,c3,c4,c5,c6,c7,c8,c9⟩:=ah HT7;simp only[Nat.zero_add] at c1 c2 c3 c4 c5 c6 c7 c8 c9;have hfl:=Lh (st.s.l.length:Int) (aP st.s.l:Int) (cZ st.s.l) st.s.last;clear P6 b6 zA HT6;go_wp2_with fail
      refine(ah P7).mono ?_;rintro e w7 ⟨rfl,r8,afz⟩;have Q7:=aj r8;have HT8:=aj ((ah HT7).keep afz.1 (afz.2 bc rfl));have hnum:=PX (p:=P) (m:=rm) (size:=sz) (now:=sp.now) (x:=sp.x) (st:=st);have Ij:Hid (QY P (aI P rm sz sp.now sp.x st).2.s.l):=aj (QY.pub (ah HE) (ah HBn));clear hfl P7 r8 afz QT HT7 c0 c1 c2 c3 c4 c5 c6 c7 c8 c9 HBn hok;obtain⟨e1,he1⟩:∃e1,(aI P rm sz sp.now sp.x st).1.2.2=e1:=⟨_,rfl⟩;obtain⟨ag,hag⟩:∃ag,(aI P rm sz sp.now sp.x st).1.2.1=ag:=⟨_,rfl⟩;obtain⟨n1,hn1⟩:∃n1,(aI P rm sz sp.now sp.x st).1.1=n1:=⟨_,rfl⟩;obtain⟨st1,hst1⟩:∃st1,(aI P rm sz sp.now sp.x st).2=st1:=⟨_,rfl⟩
      rw[he1,hag,hn1,hst1] at hnum;rw[hst1] at Q7 Ij;rw[he1,hag,hn1];clear he1 hag hn1 hst1;have P8:=aj ((ah Q7).store V);have hok:=aj (ah Q7).fit.mX.ok;go_wp2_with fail
      refine(ah P8).mono ?_;rintro e w8 ⟨q8,F8,rfl,s8,b8⟩;have QU:=aj ((ah Q7).below V b8);have HT9:=aj ((ah HT8).keep b8.size (b8.block bc (ah HT8).lt));have P9:=aj (E.sums s8 (ah hok) (ah QU).room);clear P8 s8 b8 Q7 HT8;go_wp2_with fail
      refine(ah P9).mono ?_;rintro e w9 ⟨rfl,b9⟩;have ajZ:=aj ((ah QU).below V b9);have aiU:=aj ((ah HT9).keep b9.size (b9.block bc (ah HT9).lt));clear P9 b9 QU HT9;have k11:Below w9.heap.size w9 (w9.alloc (.cells #[.int .i64 (st1.s.l.length:Int),.int .i64 (aP st1.s.l:Int),.int .i64 (cZ st1.s.l),.int .i64 st1.s.last] 60)):=(Below.refl _ _).alloc (Nat.le_refl _) _;have B11:=SB.new w9 (st1.s.l.length:Int) (aP st1.s.l:Int) (cZ st1.s.l) st1.s.last 60;have Yr:=aj ((ah ajZ).below V k11);have ab8:=aj ((ah aiU).keep k11.size (k11.block bc (ah aiU).lt))
      have aho:=aj ((ah Yr).mine V (jw:=λ_=>False) (Below.refl _ _) (λ_ z=>z.elim));obtain⟨W11,Yt⟩:∃W11,W11=w9.alloc (.cells #[.int .i64 (st1.s.l.length:Int),.int .i64 (aP st1.s.l:Int),.int .i64 (cZ st1.s.l),.int .i64 st1.s.last] 60):=⟨_,rfl⟩;obtain⟨bs,hbs⟩:∃bs,bs=w9.heap.size:=⟨_,rfl⟩;rw[<-Yt] at B11 Yr ab8 aho;rw[<-hbs] at B11;have HSB:=aj B11;clear ajZ aiU k11 B11;by_cases h0:e1=0
      ·subst h0;have Jm:(w9.alloc (.cells #[.int .i64 (st1.s.l.length:Int),.int .i64 (aP st1.s.l:Int),.int .i64 (cZ st1.s.l),.int .i64 st1.s.last] 60)).cell? ⟨w9.heap.size,3,none⟩=some (.int .i64 st1.s.last):=by rw[<-Yt,<-hbs];exact(ah HSB).c3
       have hwl:IntKind.i64.wrap (st.s.last+1)=st.s.last+1:=by rw[IntKind.wrap_i64];omega
       have Hgo:Hid ((ag=false/\n1=st.s.last+1)\/(ag=true/\st1=st)):=aj (by
        cases ag with
        | false=>exact .inl ⟨rfl,hnum.2.1 rfl rfl⟩
        | true=>exact .inr ⟨rfl,hnum.2.2 rfl⟩)
       clear hnum;rcases ah Hgo with ⟨rfl,rfl⟩|⟨rfl,hst⟩
       ·clear Hgo;go_wp2_with fail
        rw[<-Yt,<-hbs];clear Yt hbs Jm;have Yu:=aj ((ah Yr).below V (Below.refl _ _).drew);have QV:=aj ((ah ab8).keep (w':=W11.drew) (Nat.le_refl _) rfl);have Vs:=aj ((ah HSB).next (Below.refl _ _).drew);have k12:At1 bc sp.x.s W11.drew:=by
         have:=(ah QV).c3;rw[Nat.zero_add] at this;exact this
        have P12:=aj ((ah Yu).store V);obtain⟨en0,hcnt⟩:=(ah hok).cnt;have Vg:=aj hcnt;clear hcnt Yr ab8 HSB aho;go_region_held3 (At1 bc sp.x.s) (first|assumption|go_keep)
         (first
          | (go_at_call 14;refine(ah P12).mono ?_;rintro e wA ⟨qA,FA,rfl,sA,bA⟩;have HRA:=aj ((ah Yu).below V bA);have HTA:=aj ((ah QV).keep bA.size (bA.block bc (ah QV).lt));have HSA:=aj ((ah Vs).next bA);have kA:At1 bc sp.x.s wA:=(by have:=(ah HTA).c3;rw[Nat.zero_add] at this;exact this);have PT:=aj (TE.wO sp.x.s hz.x.s sA (ah hok) (ah HRA).room (ah Vg));clear sA bA P12)
          | (go_at_call 20;refine(ah PT).mono ?_;rintro e wB ⟨vB,rfl,aB,bB⟩;obtain⟨aS,cS,rfl,akC,akD,hown⟩:=aB.shape;have HRB:=aj ((ah HRA).below V bB);have HTB:=aj ((ah HTA).keep bB.size (bB.block bc (ah HTA).lt));have Yv:=aj ((ah HSA).next bB);have kB:At1 bc sp.x.s wB:=(by have:=(ah HTB).c3;rw[Nat.zero_add] at this;exact this);have HAB:=aj aB;clear aB bB PT))
        clear k12 kA kB Yu HRA QV HTA Vs HSA hown;have HFB:=aj ((ah HRB).mine V (jw:=λ_=>False) (Below.refl _ _) (λ_ z=>z.elim));have Lj:=found_low (ah Vg) (ah Ij) sp.x.s;obtain⟨FL,hFL⟩:∃FL,lF en0 sp.x.s=FL:=⟨_,rfl⟩;rw[hFL] at HAB Lj ⊢;clear hFL Vg;have d2:wB.cell? ⟨bp,2,none⟩=some (.int .i64 (nth P.v 0)):=by
         rw[(ah HRB).bl.cell (p:=⟨bp,2,none⟩) (ah HB3).2.2.lt];exact(ah HB3).2.2.c2
        have d3:wB.cell? ⟨bp,3,none⟩=some (.int .i64 (nth P.v 1)):=by
         rw[(ah HRB).bl.cell (p:=⟨bp,3,none⟩) (ah HB3).2.2.lt];exact(ah HB3).2.2.c3
        have d5:wB.cell? ⟨bp,5,none⟩=some (.int .i64 (nth P.v 3)):=by
         rw[(ah HRB).bl.cell (p:=⟨bp,5,none⟩) (ah HB3).2.2.lt];exact(ah HB3).2.2.c5
        have s0:=(ah Yv).c0;have s1:=(ah Yv).c1;have bm:=(ah Ij).msgs;have bb:=(ah Ij).bytes;unfold pv at bm bb Lj;clear HRB HTB Yv;have HFD:=aj (λ(j:Nat)=>(ah HFB).below V (below_drewN (Below.refl _ _) j));by_cases hD:0<FL.length
        ·obtain⟨gS,hgS⟩:∃g,aS=some ⟨g,0,none⟩:=by
          obtain⟨nF,hnF⟩:∃nF,FL.length=nF+1:=⟨FL.length-1,by omega⟩;have h:=ah HAB;unfold eU at h;rw[hnF] at h;obtain⟨g,cap,e⟩:=rW h;exact⟨g,(Value.slice.inj e).1⟩
         subst hgS;have eS:wB.cell? ⟨gS,1,none⟩=some (.int .i64 (en FL 0).2):=by
          rw[World.ownsRow.cellAt (ah HAB) 1 (by omega)];exact IJ FL 0 hD
         have hmF:en FL 0∈FL:=by
          unfold en;rw[List.getElem?_eq_getElem hD];exact List.getElem_mem hD
         have hlo:=Lj _ hmF;generalize (en FL 0).2=nE at eS hlo;have gD:decide ((0:Int)<(FL.length:Int))=true:=decide_eq_true (by omega);clear hmF Lj HFB HAB;by_cases hA:0<nth P.v 0<;>by_cases hB:0<nth P.v 1<;>by_cases hC:0<nth P.v 3
         all_goals
          first|have gA:decide (0<nth P.v 0)=true:=decide_eq_true hA|have gA:decide (0<nth P.v 0)=false:=decide_eq_false hA
          first|have gB:decide (0<nth P.v 1)=true:=decide_eq_true hB|have gB:decide (0<nth P.v 1)=false:=decide_eq_false hB
          first|have gC:decide (0<nth P.v 3)=true:=decide_eq_true hC|have gC:decide (0<nth P.v 3)=false:=decide_eq_false hC
          first|have gA2:decide (nth P.v 0<(st1.s.l.length:Int))=false:=decide_eq_false (by have:=bm (by omega);omega)|skip
          first|have gB2:decide (nth P.v 1<(aP st1.s.l:Int))=false:=decide_eq_false (by have:=bb (by omega);omega)|skip
          first|have gC2:decide (nth P.v 3<nE)=false:=decide_eq_false (by have:=hlo (by omega);omega)|skip
          clear hA hB hC bm bb hlo
          go_wp2_with fail
          go_quiet (fail)
          go_wp2_with fail
          refine⟨⟨k+1,st1,by go_num,by omega,Ij,aj (ah HFD _)⟩,?_⟩
          simp[intOf];omega
        ·have gD:decide ((0:Int)<(FL.length:Int))=false:=decide_eq_false (by omega);clear Lj HFB HAB;by_cases hA:0<nth P.v 0<;>by_cases hB:0<nth P.v 1<;>by_cases hC:0<nth P.v 3
         all_goals
          first|have gA:decide (0<nth P.v 0)=true:=decide_eq_true hA|have gA:decide (0<nth P.v 0)=false:=decide_eq_false hA
          first|have gB:decide (0<nth P.v 1)=true:=decide_eq_true hB|have gB:decide (0<nth P.v 1)=false:=decide_eq_false hB
          first|have gC:decide (0<nth P.v 3)=true:=decide_eq_true hC|have gC:decide (0<nth P.v 3)=false:=decide_eq_false hC
          first|have gA2:decide (nth P.v 0<(st1.s.l.length:Int))=false:=decide_eq_false (by have:=bm (by omega);omega)|skip
          first|have gB2:decide (nth P.v 1<(aP st1.s.l:Int))=false:=decide_eq_false (by have:=bb (by omega);omega)|skip
          clear hA hB hC bm bb
          go_wp2_with fail
          go_quiet (fail)
          go_wp2_with fail
          refine⟨⟨k+1,st1,by go_num,by omega,Ij,aj (ah HFD _)⟩,?_⟩
          simp[intOf];omega
       ·have akM:(st1.s.last !=st.s.last)=false:=by rw[hst];simp
        clear Hgo hst;go_wp2_with fail
        rw[<-Yt,<-hbs];clear Yt hbs Jm;have Yu:=aj ((ah Yr).below V (Below.refl _ _).drew);have QV:=aj ((ah ab8).keep (w':=W11.drew) (Nat.le_refl _) rfl);have Vs:=aj ((ah HSB).next (Below.refl _ _).drew);have k12:At1 bc sp.x.s W11.drew:=by
         have:=(ah QV).c3;rw[Nat.zero_add] at this;exact this
        have P12:=aj ((ah Yu).store V);obtain⟨en0,hcnt⟩:=(ah hok).cnt;have Vg:=aj hcnt;clear hcnt Yr ab8 HSB aho;go_region_held3 (At1 bc sp.x.s) (first|assumption|go_keep)
         (first
          | (go_at_call 14;refine(ah P12).mono ?_;rintro e wA ⟨qA,FA,rfl,sA,bA⟩;have HRA:=aj ((ah Yu).below V bA);have HTA:=aj ((ah QV).keep bA.size (bA.block bc (ah QV).lt));have HSA:=aj ((ah Vs).next bA);have kA:At1 bc sp.x.s wA:=(by have:=(ah HTA).c3;rw[Nat.zero_add] at this;exact this);have PT:=aj (TE.wO sp.x.s hz.x.s sA (ah hok) (ah HRA).room (ah Vg));clear sA bA P12)
          | (go_at_call 20;refine(ah PT).mono ?_;rintro e wB ⟨vB,rfl,aB,bB⟩;obtain⟨aS,cS,rfl,akC,akD,hown⟩:=aB.shape;have HRB:=aj ((ah HRA).below V bB);have HTB:=aj ((ah HTA).keep bB.size (bB.block bc (ah HTA).lt));have Yv:=aj ((ah HSA).next bB);have kB:At1 bc sp.x.s wB:=(by have:=(ah HTB).c3;rw[Nat.zero_add] at this;exact this);have HAB:=aj aB;clear aB bB PT))
        clear k12 kA kB Yu HRA QV HTA Vs HSA hown;have HFB:=aj ((ah HRB).mine V (jw:=λ_=>False) (Below.refl _ _) (λ_ z=>z.elim));have Lj:=found_low (ah Vg) (ah Ij) sp.x.s;obtain⟨FL,hFL⟩:∃FL,lF en0 sp.x.s=FL:=⟨_,rfl⟩;rw[hFL] at HAB Lj ⊢;clear hFL Vg;have d2:wB.cell? ⟨bp,2,none⟩=some (.int .i64 (nth P.v 0)):=by
         rw[(ah HRB).bl.cell (p:=⟨bp,2,none⟩) (ah HB3).2.2.lt];exact(ah HB3).2.2.c2
        have d3:wB.cell? ⟨bp,3,none⟩=some (.int .i64 (nth P.v 1)):=by
         rw[(ah HRB).bl.cell (p:=⟨bp,3,none⟩) (ah HB3).2.2.lt];exact(ah HB3).2.2.c3
        have d5:wB.cell? ⟨bp,5,none⟩=some (.int .i64 (nth P.v 3)):=by
         rw[(ah HRB).bl.cell (p:=⟨bp,5,none⟩) (ah HB3).2.2.lt];exact(ah HB3).2.2.c5
        have s0:=(ah Yv).c0;have s1:=(ah Yv).c1;have bm:=(ah Ij).msgs;have bb:=(ah Ij).bytes;unfold pv at bm bb Lj;clear HRB HTB Yv;have HFD:=aj (λ(j:Nat)=>(ah HFB).below V (below_drewN (Below.refl _ _) j));by_cases hD:0<FL.length
        ·obtain⟨gS,hgS⟩:∃g,aS=some ⟨g,0,none⟩:=by
          obtain⟨nF,hnF⟩:∃nF,FL.length=nF+1:=⟨FL.length-1,by omega⟩;have h:=ah HAB;unfold eU at h;rw[hnF] at h;obtain⟨g,cap,e⟩:=rW h;exact⟨g,(Value.slice.inj e).1⟩
         subst hgS;have eS:wB.cell? ⟨gS,1,none⟩=some (.int .i64 (en FL 0).2):=by
          rw[World.ownsRow.cellAt (ah HAB) 1 (by omega)];exact IJ FL 0 hD
         have hmF:en FL 0∈FL:=by
          unfold en;rw[List.getElem?_eq_getElem hD];exact List.getElem_mem hD
         have hlo:=Lj _ hmF;generalize (en FL 0).2=nE at eS hlo;have gD:decide ((0:Int)<(FL.length:Int))=true:=decide_eq_true (by omega);clear hmF Lj HFB HAB;by_cases hA:0<nth P.v 0<;>by_cases hB:0<nth P.v 1<;>by_cases hC:0<nth P.v 3
         all_goals
          first|have gA:decide (0<nth P.v 0)=true:=decide_eq_true hA|have gA:decide (0<nth P.v 0)=false:=decide_eq_false hA
          first|have gB:decide (0<nth P.v 1)=true:=decide_eq_true hB|have gB:decide (0<nth P.v 1)=false:=decide_eq_false hB
          first|have gC:decide (0<nth P.v 3)=true:=decide_eq_true hC|have gC:decide (0<nth P.v 3)=false:=decide_eq_false hC
          first|have gA2:decide (nth P.v 0<(st1.s.l.length:Int))=false:=decide_eq_false (by have:=bm (by omega);omega)|skip
          first|have gB2:decide (nth P.v 1<(aP st1.s.l:Int))=false:=decide_eq_false (by have:=bb (by omega);omega)|skip
          first|have gC2:decide (nth P.v 3<nE)=false:=decide_eq_false (by have:=hlo (by omega);omega)|skip
          clear hA hB hC bm bb hlo
          go_wp2_with fail
          go_quiet (fail)
          go_wp2_with fail
          refine⟨⟨k+1,st1,by go_num,by omega,Ij,aj (ah HFD _)⟩,?_⟩
          simp[intOf];omega
        ·have gD:decide ((0:Int)<(FL.length:Int))=false:=decide_eq_false (by omega);clear Lj HFB HAB;by_cases hA:0<nth P.v 0<;>by_cases hB:0<nth P.v 1<;>by_cases hC:0<nth P.v 3
         all_goals
          first|have gA:decide (0<nth P.v 0)=true:=decide_eq_true hA|have gA:decide (0<nth P.v 0)=false:=decide_eq_false hA
          first|have gB:decide (0<nth P.v 1)=true:=decide_eq_true hB|have gB:decide (0<nth P.v 1)=false:=decide_eq_false hB
          first|have gC:decide (0<nth P.v 3)=true:=decide_eq_true hC|have gC:decide (0<nth P.v 3)=false:=decide_eq_false hC
          first|have gA2:decide (nth P.v 0<(st1.s.l.length:Int))=false:=decide_eq_false (by have:=bm (by omega);omega)|skip
          first|have gB2:decide (nth P.v 1<(aP st1.s.l:Int))=false:=decide_eq_false (by have:=bb (by omega);omega)|skip
          clear hA hB hC bm bb
          go_wp2_with fail
          go_quiet (fail)
          go_wp2_with fail
          refine⟨⟨k+1,st1,by go_num,by omega,Ij,aj (ah HFD _)⟩,?_⟩
          simp[intOf];omega
      ·obtain⟨rfl,rfl⟩:=hnum.1 h0;have ge:(e1 !=0)=true:=by simpa using h0
       clear hnum HSB ab8 Yr;go_wp2_with fail
       rw[<-Yt];refine⟨⟨k+1,st1,by go_num,by omega,Ij,aho⟩,?_⟩;simp[intOf];omega
     ·obtain rfl:k=l.length:=by omega
      have B8:=aj (ak (ah HB3).2.1 (ah HR).bl);go_wp2_with fail
      go_ret
      exact⟨rfl,ah B8⟩
  ·have hin:(aY rm 1 65536&&aY sz 1 4096)=false:=by simpa using hin
   have PN:=aj (V.bad w3 P ap cp rm sz (ah HP) (ah H3).2.2.1 hcp (ah H3).2.2.2.1 hE hin);unfold qQ at PN;go_wp2_with fail
   refine(ah PN).mono ?_;rintro e w4 ⟨rfl,b4⟩;have B4:=aj (ak (ah H3).2.2.2.2 b4);clear b4 PN H3 y0 y1 y2 y3 y4 y5 y6 y7 y8 y9;go_wp2_with fail
   go_ret
   exact⟨rfl,ah B4⟩
 ·have PN:=aj (V.wrong w3 P ap cp rm sz (ah HP) (ah H3).2.2.1 hcp (ah H3).2.2.2.1 hE);unfold qQ at PN;obtain⟨EE,hEE⟩:∃EE,Pn.bG P=EE:=⟨_,rfl⟩;rw[hEE] at PN hE;have gE:(EE !=0)=true:=by simpa using hE
  have gE2:(EE==0)=false:=by rw[beq_eq_false_iff_ne];exact hE
  clear hEE;go_wp2_with fail
  refine(ah PN).mono ?_;rintro e w4 ⟨rfl,b4⟩;have B4:=aj (ak (ah H3).2.2.2.2 b4);clear b4 PN H3 y0 y1 y2 y3 y4 y5 y6 y7 y8 y9;go_wp2_with fail
  go_ret
  exact⟨rfl,ah B4⟩
end
end Go.Proofs.YtidekgipblnpkaaGreatDoor.Dk
