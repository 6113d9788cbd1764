/- A part. -/
import Derived.Test.YtebofkkfbkodiaaGreatDoorQ21
import Derived.Test.YtebofkkfbkodiaaGreatDoorQ23
set_option maxRecDepth 100000
set_option maxHeartbeats 8000000
namespace Go.Proofs.YtebofkkfbkodiaaGreatDoor
open Go.RowKit Go.Proofs.Tryz
namespace Dk
variable {now:Int}{l:List Dv}{k:Nat}
structure Nay (SH:I->Nat->Nat->af->aH->Prop)(w wx:I)(B b:Nat)(c:bM)(a:Option Addr)(ca:Nat)(v:Value)(B' q:Nat)(F:af)(s:aH)(bx:Nat):Prop where
 cm:Cm wx B b c a ca v
 st:SH wx B' q F s
 cb:CB wx bx (sH dP)
 bel:ai w wx
 new:w.heap.size<=bx
section
variable {SH:I->Nat->Nat->af->aH->Prop}
variable {w wx wy:I}{B b:Nat}{c:bM}{a:Option Addr}{ca:Nat}{v:Value}{B' q:Nat}{F:af}{s:aH}{bx:Nat}
theorem Nay.next (H:jF SH)(h:Nay SH w wx B b c a ca v B' q F s bx)(hb:ai wx wy):Nay SH w wy B b c a ca v B' q F s bx :=
 ⟨h.cm.next hb,H.aF (A:=λ_=>False) h.st (aA.of_below hb) (λ_ _ z=>z),h.cb.next hb,h.bel.trans (hb.mono h.bel.size),h.new⟩
theorem Nay.same (h:Nay SH w wx B b c a ca v B' q F s bx)(h0:Cm w B b c a ca v)(us:List Value)(hl:us.length=6):bF w (wx.setCells bx 0 us) B b a ca v c/\CB (wx.setCells bx 0 us) bx us:=by
 have:=(bF.out (W0:=wx) (w2:=wx) h0 h.bel h.new h.cb (bF.same h.cm (agP _ _))).2 us hl;exact this
theorem Cm.more (h:Cm w B b c a ca v)(hB:B<=w.heap.size)(hl:c.pe.length<=100000)(p:Dv) :
 ∃a' m' c' w8,(Builtin.append_ #[143,143] 143 #[v,.slice (some ⟨w.heap.size,0,none⟩) 1 1]).run prog (w.alloc (YC p))=.ok (.slice a' m' c') w8/\w8.cell? (aq b 11)=some v/\w8.frozen? (aq b 11)=false/\aA (λk=>v.ownBlock=some k) (w.alloc (YC p)) w8/\Hid (bF w (w8.setCell (aq b 11) (.slice a' m' c')) B b a ca v ⟨c.t,c.pl,c.pe++[p],c.cn⟩):=by
 have b4:ai w (w.alloc (YC p)):=ax _ _;have h4:=h.next b4;obtain⟨v8,w8,hr,A8,C8,L8⟩:=YD _ B 143 v c.pe p (jc.tri h4.row) ⟨w.heap.size,0,none⟩ 1 (VB w (Ih p) 148) (by omega) (by have:=b4.size;omega);have HS:=aj (bF.trans (aA.of_below b4) (λ_ q=>.inl q) (bF.put h4 C8 (j:=11) (.inr (.inr ⟨rfl,rfl,rfl,rfl⟩)) A8.aeX L8));obtain⟨a',c',rfl,_⟩:=A8.shape;refine⟨a',_,c',w8,hr,?_,?_,C8,HS⟩
 ·rw[C8.cell (p:=aq b 11) h4.tb.lt h4.ne1];exact h4.pe
 ·rw[C8.frozen (p:=aq b 11) h4.tb.lt h4.ne1];exact h4.fr 11
theorem Gg (H:jF SH)(h:Cm w B b c a ca v)(hs:SH w B' q F s)(hk:s.Ok)(hB:B'<=w.heap.size)(hBc:B<=w.heap.size)(hF:∀k,F k->¬ny b v k)(hF2:∀k,F k->k<w.heap.size)(hw:lX c.t)(Pv:c.t.bo.length<=140737488355328)(hf:aC true c.t.f=0)(hz:c.t.f.size<=140737488355328)(hcn:0<=c.cn/\c.cn<=1000000000000)(hl:c.pe.length<=100000)(now:Int)(ht:0<=now/\now<=1099511627776) :
 Calls prog 68 #[ae b,ae q,aa now] w λe w'=>e=.returned (.tuple #[NP (oW (newC c s.l now).1 s.l (newC c s.l now).2.1),aa (newC c s.l now).2.2])/\bF w w' B b a ca v (newC c s.l now).1:=by
 have b0:ai w (w.alloc zdO):=ax _ _;have N0:=aj (show Nay SH w (w.alloc zdO) B b c a ca v B' q F s w.heap.size from⟨h.next b0,H.aF (A:=λ_=>False) hs (aA.of_below b0) (λ_ _ z=>z),CB.new w (sH dP) 35,b0,agH _⟩);obtain⟨s0,cap,rfl,hcap,hcm,_⟩:=h.row.shape;have H0:=aj h;have y8:=(ah N0).cm.tb.c8;have y11:=(ah N0).cm.pe;have hbl:=(ah N0).cm.tb.lt;obtain⟨N,hN⟩:∃N,c.pe.length=N:=⟨_,rfl⟩;obtain⟨M,hM⟩:∃M,c.t.pe=M:=⟨_,rfl⟩;have HFB:Hid (LW c=((M !=0)&&decide (M<=(N:Int)))):=aj (by unfold LW;rw[hM,hN]);rw[hN] at y11;rw[hM] at y8
 have HB1:Hid (∀n,Below (w.alloc zdO).heap.size (w.alloc zdO) ((w.alloc zdO).drewN n)):=aj (λn=>below_drewN (agP _ _) n);go_enter func68,ntmps68;go_upto_region 1 with fail
 go_cut [28] (λu wx=>u=.bool (LW c)/\Hid (Nay SH w wx B b c a ca (.slice s0 c.pe.length cap) B' q F s w.heap.size))
 case first =>
  clear h hs hk hf hz hw H0 hF hF2 hcm;by_cases h0:M=0
  ·have g0:(M !=0)=false:=by rw[h0];rfl
   have HV:Hid (LW c=false):=aj (by rw[ah HFB,g0,akH]);clear hM hN h0;go_quiet (fail)
   go_wp2_with fail;go_meet
   exact⟨by rw[ah HV],aj ((ah N0).next H (ah HB1 _))⟩
  ·have g0:(M !=0)=true:=by simpa using h0
   have HV:Hid (LW c=decide (M<=(N:Int))):=aj (by rw[ah HFB,g0,akz]);clear hM hN h0;go_quiet (fail)
   go_wp2_with fail;go_meet
   exact⟨by rw[ah HV],aj ((ah N0).next H (ah HB1 _))⟩
 case rest =>
  obtain⟨rfl,NC⟩:=hcut;obtain⟨wa,hwa⟩:∃wa,wa=wc:=⟨_,rfl⟩;subst hwa;have z0:=(ah NC).cb.cell 0 _ rfl;have z1:=(ah NC).cb.cell 1 _ rfl;have z2:=(ah NC).cb.cell 2 _ rfl;have z3:=(ah NC).cb.cell 3 _ rfl;have z4:=(ah NC).cb.cell 4 _ rfl;have z5:=(ah NC).cb.cell 5 _ rfl;have g0:=(ah NC).cb.fr 0;have g1:=(ah NC).cb.fr 1;have g2:=(ah NC).cb.fr 2;have g3:=(ah NC).cb.fr 3;have g4:=(ah NC).cb.fr 4;have g5:=(ah NC).cb.fr 5
  cases hfb:LW c with
  | true =>
   have HE:Hid (newC c s.l now=(c,none,11)):=aj (by unfold newC;rw[if_pos hfb]);have HX:=aj ((ah NC).same (ah H0) (sH dP) rfl);clear h hs hk hf hz hw hF hF2 hcm hM hN hfb;go_wp2_with fail;refine ajY (eP (x:=dP) rfl rfl (ah HX).2) rfl ?_;rw[ah HE];exact⟨rfl,(ah HX).1⟩
  | false =>
   have HE0:Hid (newC c s.l now=match aV c.t.f s.l c.pl with
    | none=>(c,none,4)
    | some m=>(⟨c.t,m.q+1,if c.t.ack=0 then c.pe else c.pe++[⟨m.q,1,now+Tk.fH c.t 1⟩],c.cn+1⟩,some (m,1),0)):=aj (by unfold newC;rw[if_neg (by simp[hfb])];cases aV c.t.f s.l c.pl<;>rfl)
   have PX0:Hid (∀W,(W=wa.drew\/∃o,W=(wa.alloc o).drew)->Calls prog 113 #[ae q,.string c.t.f,aa c.pl] W λe w'=>e=.returned (.tuple #[.agg #[aa (oR (aV c.t.f s.l c.pl)).k,aa (oR (aV c.t.f s.l c.pl)).q,aa (oR (aV c.t.f s.l c.pl)).t,.string (oR (aV c.t.f s.l c.pl)).s,.string (oR (aV c.t.f s.l c.pl)).h,.string (oR (aV c.t.f s.l c.pl)).d],aa (oE (aV c.t.f s.l c.pl))])/\ai W w'):=aj (λW hW=>by
    have hb:ai wa W:=by
     rcases hW with e|⟨o,e⟩
     ·rw[e];exact(agP _ _).drew
     ·rw[e];exact(ax _ _).drew
    have:=H.next c.t.f c.pl hz (H.aF (A:=λ_=>False) (ah NC).st (aA.of_below hb) (λ_ _ z=>z)) hk (ajA hB (ajA (ah NC).bel.size hb.size));unfold jk at this;rw[if_pos hf,DU] at this;exact this)
   have k1:wa.cell? (aq b 1)=some (.string c.t.f):=(ah NC).cm.tb.c1;have k10:wa.cell? (aq b 10)=some (aa c.pl):=(ah NC).cm.pl;have ajl:=(ah NC).cm.tb.lt;have HMQ:Hid (∀m,aV c.t.f s.l c.pl=some m->1<=m.q/\m.q<=1099511627776):=aj (λm hm=>hk.seq (vP hm).1);obtain⟨o,ho⟩:∃o,aV c.t.f s.l c.pl=o:=⟨_,rfl⟩;rw[ho] at PX0 HE0 HMQ;obtain⟨f,YG⟩:∃f,c.t.f=f:=⟨_,rfl⟩;obtain⟨pl,hpl⟩:∃pl,c.pl=pl:=⟨_,rfl⟩;rw[YG,hpl] at PX0;rw[YG] at k1;rw[hpl] at k10;have HSt:=aj hs;have HFF:=aj YG;have HPL:=aj hpl;have HHF:=aj hF;have HHK:=aj hk;clear hfb hM hN ho YG hpl;go_upto_region 3 with fail
   go_cut [8,9] (λu v wx=>∃by',u=ae by'/\v=aa (oE o)/\Hid (Bo wa wx by' o))
   case first =>
    clear h hs hk hf hz hw hF hF2 hcm HSt z0 z1 z2 z3 z4 z5 g0 g1 g2 g3 g4 g5 NC HE0 y8 y11 HFB HB1 N0 H0;go_region_with (go_at_call 113;refine(ah PX0 _ (by first|(with_reducible exact .inl rfl)|(with_reducible exact .inr ⟨_,rfl⟩))).mono ?_;rintro e w1 ⟨rfl,b1⟩;first|(have hz1:CB w1 wa.heap.size (FU eU):=(by with_reducible exact abP b1);have z0:=hz1.cell 0 _ rfl;have z1:=hz1.cell 1 _ rfl;have z2:=hz1.cell 2 _ rfl;have z3:=hz1.cell 3 _ rfl;have z4:=hz1.cell 4 _ rfl;have z5:=hz1.cell 5 _ rfl;have f0:=hz1.fr 0;have f1:=hz1.fr 1;have f2:=hz1.fr 2;have f3:=hz1.fr 3;have f4:=hz1.fr 4;have f5:=hz1.fr 5)|skip)
    all_goals
     first
     | (
      have HL:=aj (Qn (o:=o) hz1 b1)
      clear z0 z1 z2 z3 z4 z5 f0 f1 f2 f3 f4 f5 hz1 b1
      go_wp2_with fail
      go_meet
      exact⟨_,rfl,rfl,HL⟩)
     | (
      have HL:=aj (Qm (o:=o) b1)
      clear b1
      go_wp2_with fail
      go_meet
      exact⟨_,rfl,rfl,HL⟩)
   case rest =>
    obtain⟨by',rfl,rfl,HA⟩:=hcut;obtain⟨wb,hwb⟩:∃wb,wb=wc:=⟨_,rfl⟩;subst hwb;clear z0 z1 z2 z3 z4 z5 g0 g1 g2 g3 g4 g5 k1 k10 y8 y11 PX0 N0 HB1 HFB;have NA:=aj ((ah NC).next H (ah HA).2.1)
    cases o with
    | none =>
     have HX:=aj ((ah NA).same (ah H0) (sH dP) rfl);have z0:=(ah NA).cb.cell 0 _ rfl;have z1:=(ah NA).cb.cell 1 _ rfl;have z2:=(ah NA).cb.cell 2 _ rfl;have z3:=(ah NA).cb.cell 3 _ rfl;have z4:=(ah NA).cb.cell 4 _ rfl;have z5:=(ah NA).cb.cell 5 _ rfl;have g0:=(ah NA).cb.fr 0;have g1:=(ah NA).cb.fr 1;have g2:=(ah NA).cb.fr 2;have g3:=(ah NA).cb.fr 3;have g4:=(ah NA).cb.fr 4;have g5:=(ah NA).cb.fr 5;rw[show oE none=4 from rfl];clear h hs hk hf hz hw hF hF2 hcm NC NA HA;go_wp2_with fail;refine ajY (eP (x:=dP) rfl rfl (ah HX).2) rfl ?_
     rw[ah HE0];exact⟨rfl,(ah HX).1⟩
    | some m =>
     rw[show oE (some m)=0 from rfl];obtain⟨hm1,hm2⟩:=ah HMQ m rfl;have RM:=aj (show CB wb by' (FU m) from(ah HA).1);have ahy:=(ah RM).lt;have ahz:by'≠b:=by have:=(ah HA).2.2;omega
     obtain⟨pe1,Ij⟩:∃pe1,(if c.t.ack=0 then c.pe else c.pe++[⟨m.q,1,now+Tk.fH c.t 1⟩])=pe1:=⟨_,rfl⟩;have HE1:Hid (newC c s.l now=(⟨c.t,m.q+1,pe1,c.cn+1⟩,some (m,1),0)):=aj (by rw[<-Ij];exact ah HE0);clear HE0;have d4:=(ah NA).cm.tb.c4;have ae5:=(ah NA).cm.tb.lt;go_upto_if 53 with fail
     clear d4;go_cut [] (λwx=>Hid (bF wb wx B b a ca (.slice s0 c.pe.length cap) ⟨c.t,c.pl,pe1,c.cn⟩/\CB wx by' (FU m)))
     case first =>
      have d11:=(ah NA).cm.pe;have f11:=(ah NA).cm.fr 11;by_cases h0:c.t.ack=0
      ·have hp0:pe1=c.pe:=by rw[<-Ij,if_pos h0]
       have HS:=aj (And.intro (bF.same (ah NA).cm (agP _ _)) (ah RM));have g4:(c.t.ack !=0)=false:=by rw[h0];rfl
       clear h hs hk hf hz hw hF hF2 hcm NC NA HA Ij h0;go_wp2_with fail;go_meet
       rw[hp0];exact HS
      ·have hp0:pe1=c.pe++[⟨m.q,1,now+Tk.fH c.t 1⟩]:=by rw[<-Ij,if_neg h0]
       have g4:(c.t.ack !=0)=true:=by simpa using h0
       have PD:=aj (Bj ((ah NA).cm.next (agP _ _).drew) hw Pv 1 now ht);obtain⟨D,hD⟩:∃D,now+Tk.fH c.t 1=D:=⟨_,rfl⟩;rw[hD] at PD hp0;have HMo:Hid (∀w3,Below wb.drew.heap.size wb.drew w3->_):=aj (λw3 b3=>((ah NA).cm.next (((agP wb.heap.size wb).drew).trans b3)).more (ajA hBc (ajA (ah NA).bel.size (((agP wb.heap.size wb).drew).trans b3).size)) hl ⟨m.q,1,D⟩);have d1:wb.drew.cell? (aq by' 1)=some (aa m.q):=(ah RM).cell 1 _ rfl;have e11:wb.drew.cell? (aq b 11)=some (.slice s0 c.pe.length cap):=d11;have HRB:Hid (∀(w3 w8:I) p,Below wb.drew.heap.size wb.drew w3->aA (λk=>(Value.slice s0 c.pe.length cap).ownBlock=some k) (w3.alloc (YC p)) w8->∀u,CB (w8.setCell (aq b 11) u) by' (FU m)):=aj (λw3 w8 p b3 c8 u=>by
        have hny:¬(Value.slice s0 c.pe.length cap).ownBlock=some by':=λq=>by
         have:=(h.row.lt _ q).2;have:=(ah HA).2.2;have:=(ah NC).bel.size;omega
        have r3:=((ah RM).next (((agP wb.heap.size wb).drew).trans b3)).next ((agP w3.heap.size w3).alloc (agH _) (YC p));exact(r3.aF c8 hny).aF (aA.setCell (A:=λk=>k=b) (p:=aq b 11) (aA.refl _ _) (.inl rfl) u) ahz)
       have HUT:Hid (∀(w3 w8:I) u,Below wb.drew.heap.size wb.drew w3->bF w3 (w8.setCell (aq b 11) u) B b a ca (.slice s0 c.pe.length cap) ⟨c.t,c.pl,c.pe++[⟨m.q,1,D⟩],c.cn⟩->bF wb (w8.setCell (aq b 11) u) B b a ca (.slice s0 c.pe.length cap) ⟨c.t,c.pl,c.pe++[⟨m.q,1,D⟩],c.cn⟩):=aj (λw3 w8 u b3 hu=>bF.trans (aA.of_below (((agP wb.heap.size wb).drew).trans b3)) (λ_ q=>.inl q) hu);clear h hs hk hf hz hF hF2 hcm NC NA HA Ij h0 hw hD;go_wp2_with fail;go_region_law (first
        | (refine nK rfl _ _ 143 143 rfl (.slice s0 c.pe.length cap) _ (by first|(simp[Act.eval];done)|(simp[Act.eval,Act.put];done)) (by first|(simp[Act.eval];done)|(simp[Act.eval,Act.put];done)) hrun ?_)
        | (go_simp;go_at_call 73;refine(ah PD).mono ?_;rintro e w3 ⟨rfl,b3⟩;have x11:=(b3.cell (p:=aq b 11) ae5).trans e11;have x1:=(b3.cell (p:=aq by' 1) ahy).trans d1;have hp3:=ajz ae5 b3.size;have hy3:=ajz ahy b3.size;obtain⟨a',m',c',w8,hrun,q0,q1,q2,HM8⟩:=ah HMo w3 b3;dsimp only))
       all_goals
        have HS:=aj (And.intro (ah HUT _ _ _ b3 (ah HM8)) (ah HRB _ _ _ b3 q2 (.slice a' m' c')))
        clear HM8 hrun q2 b3 PD HMo HUT HRB
        go_wp2_with fail
        go_meet
        rw[hp0]
        exact HS
     case rest =>
      obtain⟨v1,k1,c1,g1⟩:=(ah hcut).1;have rm:=(ah hcut).2;have x1:=rm.cell 1 _ rfl;have c10:=k1.pl;have f10:=k1.fr 10;have ajm:=k1.tb.lt;have ajn:=rm.lt;have hw1:IntKind.i64.wrap (m.q+1)=m.q+1:=by rw[akl];omega
      obtain⟨W1,hW1⟩:∃W1,W1=wc.setCell (aq b 10) (aa (m.q+1)):=⟨_,rfl⟩;have cW:aA (λk=>k=b) wc W1:=by rw[hW1];exact aA.setCell (A:=λk=>k=b) (p:=aq b 10) (aA.refl _ _) (.inl rfl) _
      have k2:Cm W1 B b ⟨c.t,m.q+1,pe1,c.cn⟩ a ca v1:=by rw[hW1];exact k1.put (aA.refl _ _) (.inl ⟨rfl,rfl,rfl,rfl⟩) k1.row (λ_ q=>.inl q)
      have cWb:aA (ny b (.slice s0 c.pe.length cap)) wb W1:=c1.trans (cW.mono (λ_ _ q=>.inl q));have hF1:∀k,F k->¬ny b v1 k:=λk hk z=>by
       rcases z with z|z
       ·exact hF k hk (.inl z)
       ·rcases g1 k z with y|y
        ·exact hF k hk (.inr y)
        ·have:=hF2 k hk;have:=(ah NA).bel.size;omega
      have hsW:SH W1 B' q F s:=H.aF (ah NA).st cWb (λk hk=>hF k hk);have PV:=aj (CJ H k2 hsW hk (ajA hB (ajA (ah NA).bel.size cWb.size)) hF1 hf hz hcn m 1);have Z8:=rm.aF cW ahz;have r0:=Z8.cell 0 _ rfl;have r1:=Z8.cell 1 _ rfl;have r2:=Z8.cell 2 _ rfl;have r3:=Z8.cell 3 _ rfl;have r4:=Z8.cell 4 _ rfl;have r5:=Z8.cell 5 _ rfl;have HO:Hid (∀w2,bF W1 w2 B b a ca v1 ⟨c.t,m.q+1,pe1,c.cn+1⟩->CB w2 w.heap.size (sH dP)/\∀us:List Value,us.length=6->bF w (w2.setCells w.heap.size 0 us) B b a ca (.slice s0 c.pe.length cap) ⟨c.t,m.q+1,pe1,c.cn+1⟩/\CB (w2.setCells w.heap.size 0 us) w.heap.size us):=aj (λw2 hu=>bF.out (ah H0) (ah NA).bel (agH _) (ah NA).cb (bF.trans cWb g1 hu))
      obtain⟨L,hL⟩:∃L:Int,(dN c.t.f s.l (m.q+1):Int)=L:=⟨_,rfl⟩;rw[show(dN (⟨c.t,m.q+1,pe1,c.cn⟩:bM).t.f s.l (⟨c.t,m.q+1,pe1,c.cn⟩:bM).pl:Int)=L from hL] at PV;have HL:=aj hL;clear h hs hk hf hz hw hF hF2 hcm NC NA HA Ij k1 c1 g1 rm Z8 cW cWb k2 hF1 hsW hL hcut;go_upto_region 9 with fail
      rw[<-hW1];clear hW1;go_wp2_with (go_at_call 112;refine(ah PV).mono ?_;rintro e w2 ⟨rfl,hu⟩;have hz2:=(ah HO _ hu).1;have z0:=hz2.cell 0 _ rfl;have z1:=hz2.cell 1 _ rfl;have z2:=hz2.cell 2 _ rfl;have z3:=hz2.cell 3 _ rfl;have z4:=hz2.cell 4 _ rfl;have z5:=hz2.cell 5 _ rfl;have q0:=hz2.fr 0;have q1:=hz2.fr 1;have q2:=hz2.fr 2;have q3:=hz2.fr 3;have q4:=hz2.fr 4;have q5:=hz2.fr 5);have HX:=aj ((ah HO _ hu).2 (sH ⟨m.q,m.s,m.d,c.cn+1,1,L⟩) rfl);refine ajY (eP (x:=⟨m.q,m.s,m.d,c.cn+1,1,L⟩) rfl rfl (ah HX).2) rfl ?_;rw[ah HE1];refine⟨?_,(ah HX).1⟩;unfold oW
      rw[ah HL];rfl
end
def uJ (c:bM)(l:List Rc)(now:Int):bM:=⟨c.t,c.pl,(kH c.t l now c.pe).1,match (kH c.t l now c.pe).2 with
 | some _=>c.cn+1
 | none=>c.cn⟩
theorem ae6 (l:List Dv):Qk now l l.length=l.filter (λx=>!decide (x.d<=now)):=by
 unfold Qk;rw[akT,amk,akQ]
theorem ahA (h:k<l.length)(p':Dv):Qk now (l.set k p') k=(l.take k).filter (λx=>!decide (x.d<=now))++p'::l.drop (k+1):=by
 unfold Qk;have e:l.set k p'=l.take k++p'::l.drop (k+1):=by rw[List.set_eq_take_append_cons_drop,if_pos h]
 have hl:(l.take k).length=k:=by rw[ajL];omega
 rw[e,ajQ (by omega),ajR (by omega),List.drop_append_of_le_length (by omega),aki (by omega),akD]
theorem YQ (h:k<l.length):l=l.take k++l[k]::l.drop (k+1):=by
 rw[<-ajW h,akm]
section
variable {SH:I->Nat->Nat->af->aH->Prop}
variable {w:I}{B b:Nat}{c:bM}{a:Option Addr}{ca:Nat}{v:Value}{B' q:Nat}{F:af}{s:aH}
theorem Cm.aside {wr:I}(h0:Cm wr B b c a ca v)(h:Cm w B b c a ca v){j:Nat}{u:Value}:Cm (w.setCell (aq wr.heap.size j) u) B b c a ca v :=
 h.aF (aA.setCell (A:=λk=>k=wr.heap.size) (p:=aq wr.heap.size j) (aA.refl _ _) (.inl rfl) u) (λq=>by have:=h0.tb.lt;omega) (λg hg q=>by have:=(h0.row.lt g hg).2;omega) (λz hz q=>by have:=(h0.al z hz).2;omega)
theorem Cm.aiu {w':I}{pe':List Dv}(h:Cm w B b c a ca v)(hC:aA (λk=>v.ownBlock=some k) w w')(hr:jc w' B v pe'):Cm w' B b ⟨c.t,c.pl,pe',c.cn⟩ a ca v:=by
 have ho:∀j,w'.cell? (aq b j)=w.cell? (aq b j):=λj=>hC.cell (p:=aq b j) h.tb.lt h.ne1
 exact⟨h.tb.same hC.size ho,by rw[ho];exact h.pl,by rw[ho];exact h.pe,by rw[ho];exact h.cn,hr,(λk hk=>by
  obtain⟨b',o,e1,e2,e3⟩:=h.bo k hk;exact⟨b',o,e1,ajz e2 hC.size,by rw[hC.cell (p:=aq b' (o+k)) e2 (h.ne2 _ e1).2];exact e3⟩),λi=>by rw[hC.frozen (p:=aq b i) h.tb.lt h.ne1];exact h.fr i,h.bB,h.ne1,h.ne2,λz hz=>⟨(h.al z hz).1,ajz (h.al z hz).2 hC.size⟩⟩
theorem Bq (H:jF SH)(T:V9 SH)(h:Cm w B b c a ca v)(hs:SH w B' q F s)(hk:s.Ok)(hB:B'<=w.heap.size)(hF:∀k,F k->¬ny b v k)(hw:lX c.t)(Pv:c.t.bo.length<=140737488355328)(hf:aC true c.t.f=0)(hz:c.t.f.size<=140737488355328)(hcn:0<=c.cn/\c.cn<=1000000000000)(hl:c.pe.length<=100000)(hnb:∀p∈c.pe,0<=p.n/\p.n<=1000000000000)(now:Int)(ht:0<=now/\now<=1099511627776) :
 Calls prog 67 #[ae b,ae q,aa now] w λe w'=>e=.returned (.tuple #[NP (oW (uJ c s.l now) s.l (kH c.t s.l now c.pe).2),.bool (kH c.t s.l now c.pe).2.isSome])/\bF w w' B b a ca v (uJ c s.l now):=by
 have b0:ai w (w.alloc zdO):=ax _ _;have N0:=aj (show Nay SH w (w.alloc zdO) B b c a ca v B' q F s w.heap.size from⟨h.next b0,H.aF (A:=λ_=>False) hs (aA.of_below b0) (λ_ _ z=>z),CB.new w (sH dP) 35,b0,agH _⟩);obtain⟨s0,cap,rfl,hcap,hcm,_⟩:=h.row.shape;have H0:=aj h;have HK:=aj hk;have HW:=aj hw;have HNB:=aj hnb;have HF:=aj hF;have y11:=(ah N0).cm.pe;have hbl:=(ah N0).cm.tb.lt;unfold maxLen at hcm;obtain⟨N,hN⟩:∃N,c.pe.length=N:=⟨_,rfl⟩;have HN:=aj hN;have hv:(Value.slice s0 c.pe.length cap)=.slice s0 N cap:=by rw[hN]
 rw[hv] at N0 H0 HF y11;rw[hv];rw[hN] at hcap hl;clear hv hN h hs hk hF hw hnb;go_enter func67,ntmps67;go_wp2_with fail;go_loopw [17] (λkv wr=>∃k:Nat,kv=aa k/\k<=N/\Hid (∀j (hj:j<c.pe.length),j<k->sQ c.t s.l now c.pe[j]=false)/\Hid (Nay SH w wr B b c a ca (.slice s0 N cap) B' q F s w.heap.size)) (λkv _=>N-(intOf kv).toNat)
 case atStart=>exact⟨0,rfl,ajO _,aj (λj _ hj=>absurd hj (akh j)),N0⟩
 case round =>
  clear N0 y11 hbl;obtain⟨k,rfl,hk,HL,NW⟩:=hrel;by_cases hlt:k<N
  ·have hkl:k<c.pe.length:=by rw[ah HN];exact hlt
   obtain⟨g,cap',e0,_,_,_,hgl⟩:=(jc.tri (ah NW).cm.row).there (by omega);obtain⟨rfl,hNN,rfl⟩:=akE e0;clear e0 hNN;obtain⟨_,c0,c1,c2⟩:=fC.at (jc.tri (ah NW).cm.row) hkl;obtain⟨x,hx⟩:∃x,c.pe[k]=x:=⟨_,rfl⟩;have HX:=aj hx;have HNX:Hid (∀z:sQ c.t s.l now x=false,∀j (hj:j<c.pe.length),j<k+1->sQ c.t s.l now c.pe[j]=false):=aj (λz j hj hjk=>by
    rcases akI.1 hjk with y|y
    ·exact ah HL j hj y
    ·subst y;rw[ah HX];exact z)
   have hxn:=ah HNB x (by rw[<-hx];exact ako _);rw[hx] at c0 c1 c2;clear hx;have bA:ai wr (wr.alloc (YC x)):=ax _ _;have N1:=aj ((ah NW).next H bA);obtain⟨n0,n1,n2⟩:=abO wr x 148;have hpb:wr.heap.size<(wr.alloc (YC x)).heap.size:=by simp
   have PB1:=aj (CB.new wr [aa x.q,aa x.n,aa x.d] 148);clear bA;by_cases hd:now<x.d
   ·have g1:decide (now<x.d)=true:=ajH hd;have HM:Hid (sQ c.t s.l now x=false):=aj (by unfold sQ;rw[ajE (by omega),akH]);go_wp2_with fail;refine⟨⟨k+1,by go_num,by omega,aj (ah HNX (ah HM)),N1⟩,?_⟩;simp[intOf];omega
   ·have g1:decide (now<x.d)=false:=ajE hd;have PS:=aj (Px (ah N1).cm x);have HMB:Hid (sQ c.t s.l now x=((AX s.l x.q).isSome&&!qm c.t x)):=aj (by unfold sQ;rw[ajH (by omega),akz])
    cases hsp:qm c.t x with
    | true =>
     have HM:Hid (sQ c.t s.l now x=false):=aj (by rw[ah HMB,hsp];simp);rw[hsp] at PS;clear hsp;go_wp2_with fail;refine(ah PS).mono ?_;rintro e w2 ⟨rfl,b2⟩;have N2:=aj ((ah N1).next H b2);clear b2 PS;go_wp2_with fail;refine⟨⟨k+1,by go_num,by omega,aj (ah HNX (ah HM)),N2⟩,?_⟩;simp[intOf];omega
    | false =>
     rw[hsp] at PS;rw[hsp,Bool.not_false,Bool.and_true] at HMB;clear hsp;go_wp2_with fail;refine(ah PS).mono ?_;rintro e w2 ⟨rfl,b2⟩;have N2:=aj ((ah N1).next H b2);have m0:=(b2.cell (p:=aq wr.heap.size 0) hpb).trans n0;have m1:=(b2.cell (p:=aq wr.heap.size 1) hpb).trans n1;have m2:=(b2.cell (p:=aq wr.heap.size 2) hpb).trans n2;have Uu:=ajz hpb b2.size;have PB2:Hid (CB w2 wr.heap.size [aa x.q,aa x.n,aa x.d]):=aj ((ah PB1).next b2);have PG:=aj (T.gets x.q (ah N2).st (ah HK) (ajA hB (ah N2).bel.size));rw[DU] at PG
     obtain⟨o,ho⟩:∃o,AX s.l x.q=o:=⟨_,rfl⟩;rw[ho] at PG HMB;have HO:=aj ho;have B2h:=aj b2;clear b2 PS ho n0 n1 n2 c0 c1 c2;go_wp2_with fail;refine(ah PG).mono ?_;rintro e w3 ⟨rfl,b3⟩;have b4:ai w3 (w3.alloc (ZY (oR o))):=ax _ _;have N4:=aj (((ah N2).next H b3).next H b4);have q0:=(b4.cell (p:=aq wr.heap.size 0) (ajz Uu b3.size)).trans ((b3.cell (p:=aq wr.heap.size 0) Uu).trans m0);have q1:=(b4.cell (p:=aq wr.heap.size 1) (ajz Uu b3.size)).trans ((b3.cell (p:=aq wr.heap.size 1) Uu).trans m1)
     have q2:=(b4.cell (p:=aq wr.heap.size 2) (ajz Uu b3.size)).trans ((b3.cell (p:=aq wr.heap.size 2) Uu).trans m2);have PB3:=aj ((ah PB2).next b3);have N3:=aj ((ah N2).next H b3);have ajo:wr.heap.size<w3.heap.size:=ajz Uu b3.size
     cases o with
     | none =>
      have HM:Hid (sQ c.t s.l now x=false):=aj (by rw[ah HMB];rfl);rw[show oE none=4 from rfl];clear b3 b4 PG m0 m1 m2;go_wp2_with fail;refine⟨⟨k+1,by go_num,by omega,aj (ah HNX (ah HM)),N4⟩,?_⟩;simp[intOf];omega
     | some m =>
      rw[show oE (some m)=0 from rfl,show oR (some m)=m from rfl];rw[show oR (some m)=m from rfl] at q0 q1 q2;have HMY:Hid (sQ c.t s.l now x=true):=aj (by rw[ah HMB];rfl);obtain⟨D,hD⟩:∃D,now+Tk.fH c.t (x.n+1)=D:=⟨_,rfl⟩;have HAG:Hid (kH c.t s.l now c.pe=(Qk now (c.pe.set k ⟨x.q,x.n+1,D⟩) k,some (m,x.n+1))):=aj (by
       have ha:∀p∈c.pe.take k,sQ c.t s.l now p=false:=λp hp=>by
        obtain⟨j,hj,rfl⟩:=akq.1 hp;rw[ajL] at hj;rw[alB];exact ah HL j (by omega) (by omega)
       obtain⟨m',hm',hsp⟩:=abn ha (p:=x) (ah HMY) (c.pe.drop (k+1));rw[ah HO] at hm'
       cases hm'
       have e:c.pe=c.pe.take k++x::c.pe.drop (k+1):=by rw[<-ah HX];exact YQ hkl
       rw[ahA hkl,<-hD];conv=>lhs;rw[e]
       exact hsp)
      have BW3:Hid (ai wr w3):=aj ((((agP wr.heap.size wr).alloc (agH _) (YC x)).trans ((ah B2h).mono (by simp))).trans (b3.mono (by have:=(ah B2h).size;simp at this;omega)));have fp1:=(ah PB3).fr 1;have hbw:=(ah NW).cm.tb.lt;have hwn:IntKind.i64.wrap (x.n+1)=x.n+1:=by rw[akl];omega
      -- the copy's count is one more
      obtain⟨W4,hW4⟩:∃W4,W4=w3.setCell (aq wr.heap.size 1) (aa (x.n+1)):=⟨_,rfl⟩;have hs4:W4.heap.size=w3.heap.size:=by rw[hW4];simp[World.setCell]
      obtain⟨W5,Dj⟩:∃W5,W5=W4.alloc (ZY m):=⟨_,rfl⟩;have b5:ai W4 W5:=by rw[Dj];exact ax _ _
      have K5:Hid (Cm W5 B b c a ca (.slice (some ⟨g,0,none⟩) N cap)):=aj (Cm.next (by rw[hW4];exact(ah NW).cm.aside (ah N3).cm) b5);have C5:Hid (aA (ny b (.slice (some ⟨g,0,none⟩) N cap)) wr W5):=aj (aA.trans (by rw[hW4];exact(aA.of_below (ah BW3)).setCell (.inr (agH _)) _) (aA.of_below b5));have P4:Hid (CB W4 wr.heap.size [aa x.q,aa (x.n+1),aa x.d]):=aj (by
       rw[hW4];refine⟨by have:=(ah PB3).lt;simpa[World.setCell] using this,λj u hj=>?_,λj=>by rw[World.frozen?_setCell];exact(ah PB3).fr j⟩;match j,hj with
       | 0,hj=>cases hj;rw[ajD _ _ _ _ (by simp)];exact(ah PB3).cell 0 _ rfl
       | 1,hj=>cases hj;exact akf _ _ _ ((ah PB3).cell 1 _ rfl)
       | 2,hj=>cases hj;rw[ajD _ _ _ _ (by simp)];exact(ah PB3).cell 2 _ rfl)
      have P5:=aj ((ah P4).next b5);have R5:Hid (CB W5 w3.heap.size (FU m)):=aj (by
       have:=CB.new W4 (FU m) 46;rw[hs4] at this;rw[Dj];exact this)
      have PD:=aj (Bj (ah K5) (ah HW) Pv (x.n+1) now ht);rw[hD] at PD;have v0:=(ah P5).cell 0 _ rfl;have v1:=(ah P5).cell 1 _ rfl;have v2:=(ah P5).cell 2 _ rfl;have vf:=(ah P5).fr 2;have hv5:=(ah P5).lt;clear m0 m1 m2 b3 b4 PG hD PB3 N4 N3 P4 b5 hs4;go_upto_region 8 with fail
      rw[<-hW4,<-Dj];clear hW4 Dj q0 q1 q2 fp1;go_upto_region 9 with (go_at_call 73;refine(ah PD).mono ?_;rintro e w6 ⟨rfl,b6⟩;have u0:=(b6.cell (p:=aq wr.heap.size 0) hv5).trans v0;have u1:=(b6.cell (p:=aq wr.heap.size 1) hv5).trans v1;have u2:=(b6.cell (p:=aq wr.heap.size 2) hv5).trans v2;have uf:=(b6.frozen (p:=aq wr.heap.size 2) hv5).trans vf)
      obtain⟨W7,hW7⟩:∃W7,W7=w6.setCell (aq wr.heap.size 2) (aa D):=⟨_,rfl⟩;have K7:Hid (Cm W7 B b c a ca (.slice (some ⟨g,0,none⟩) N cap)):=aj (by rw[hW7];exact(ah NW).cm.aside ((ah K5).next b6));have C7:Hid (aA (ny b (.slice (some ⟨g,0,none⟩) N cap)) wr W7):=aj (by rw[hW7];exact((ah C5).trans (aA.of_below b6)).setCell (.inr (agH _)) _);have P7:Hid (CB W7 wr.heap.size [aa x.q,aa (x.n+1),aa D]):=aj (by
       rw[hW7];have P6:=(ah P5).next b6;refine⟨by have:=P6.lt;simpa[World.setCell] using this,λj u hj=>?_,λj=>by rw[World.frozen?_setCell];exact P6.fr j⟩;match j,hj with
       | 0,hj=>cases hj;rw[ajD _ _ _ _ (by simp)];exact P6.cell 0 _ rfl
       | 1,hj=>cases hj;rw[ajD _ _ _ _ (by simp)];exact P6.cell 1 _ rfl
       | 2,hj=>cases hj;exact akf _ _ _ (P6.cell 2 _ rfl))
      have R7:Hid (CB W7 w3.heap.size (FU m)):=aj (by rw[hW7];exact((ah R5).next b6).aF (aA.setCell (A:=λk=>k=wr.heap.size) (p:=aq wr.heap.size 2) (aA.refl _ _) (.inl rfl) _) (by omega));rw[<-hW7];clear hW7 u0 u1 u2 uf v0 v1 v2 vf hv5 b6 PD K5 C5 P5 R5;have u0:=(ah P7).cell 0 _ rfl;have u1:=(ah P7).cell 1 _ rfl;have u2:=(ah P7).cell 2 _ rfl;have aiv:=(ah P7).lt;have d11:=(ah K7).pe;have aiw:=(ah K7).tb.lt;have et:=fC.at (jc.tri (ah K7).row) hkl;have ef:=(bQ.free (jc.tri (ah K7).row)).1;have t0:=et.c0;have t1:=et.c1;have t2:=et.c2;have e0:=ef (k*3)
      have e1:=ef (k*3+1);have e2:=ef (k*3+2);have aix:=et.lt;have hgp:g≠wr.heap.size:=by omega
      clear et ef;obtain⟨W8,hW8⟩:∃W8,W8=(W7.setCells g (k*3) [aa x.q,aa (x.n+1),aa D]).drew:=⟨_,rfl⟩;have c8:aA (λj=>j=g) W7 W8:=by rw[hW8];exact(jo _ _ _).trans (aA.of_below (agP _ _).drew)
      have K8:Hid (Cm W8 B b ⟨c.t,c.pl,c.pe.set k ⟨x.q,x.n+1,D⟩,c.cn⟩ a ca (.slice (some ⟨g,0,none⟩) N cap)):=aj (Cm.aiu (ah K7) (c8.mono (λj _ q=>by rw[q];rfl)) (by
       rw[hW8];have ha:=jc.tri (ah K7).row;rw[<-ah HN] at ha ⊢;exact((ha.set hkl ⟨x.q,x.n+1,D⟩).below (agP _ _).drew).aeX))
      have C8:Hid (aA (ny b (.slice (some ⟨g,0,none⟩) N cap)) wr W8):=aj ((ah C7).trans (c8.mono (λj _ q=>.inr (by rw[q];rfl))));have hgr:¬(w3.heap.size=g):=by omega
      have R8:Hid (CB W8 w3.heap.size (FU m)):=aj ((ah R7).aF c8 hgr);have P8:Hid (CB W8 wr.heap.size [aa x.q,aa (x.n+1),aa D]):=aj ((ah P7).aF c8 (λq=>hgp q.symm));have PF:=aj (wP (ah K8) (by rw[alb,ah HN];omega) k (by rw[alb];omega) now);have ahB:W8=(((W7.setCell (aq g (k*3)) (aa x.q)).setCell (aq g (k*3+1)) (aa (x.n+1))).setCell (aq g (k*3+2)) (aa D)).drew:=hW8;clear hW8 K7 C7 P7 R7 c8;go_region
      rw[<-ahB];clear ahB u0 u1 u2 t0 t1 t2 e0 e1 e2 aiv d11 aiw aix;go_upto_region 11 with (go_at_call 111;refine(ah PF).mono ?_;rintro e w9 ⟨rfl,hu⟩)
      obtain⟨v9,k9,ch9,g9⟩:=hu;have C9:Hid (aA (ny b (.slice (some ⟨g,0,none⟩) N cap)) wr w9):=aj ((ah C8).trans ch9);have G9:Hid (∀j,v9.ownBlock=some j->(Value.slice (some ⟨g,0,none⟩) N cap).ownBlock=some j\/wr.heap.size<=j):=aj (λj hj=>by
       rcases g9 j hj with y|y
       ·exact .inl y
       ·exact .inr (ajA (ah C8).size y))
      have hn9:∀i,wr.heap.size<=i->¬ny b (.slice (some ⟨g,0,none⟩) N cap) i:=λi hi q=>by
       rcases q with q|q
       ·omega
       ·have:=((ah NW).cm.row.lt i q).2;omega
      have r9:=(ah R8).aF ch9 (hn9 _ (by omega));have p9:=(ah P8).aF ch9 (hn9 _ (agH _));have r0:=r9.cell 0 _ rfl;have r1:=r9.cell 1 _ rfl;have r2:=r9.cell 2 _ rfl;have r3:=r9.cell 3 _ rfl;have r4:=r9.cell 4 _ rfl;have r5:=r9.cell 5 _ rfl;have p1:=p9.cell 1 _ rfl;have hs9:=H.aF (ah NW).st (ah C9) (λi hi=>ah HF i hi);have hF9:∀i,F i->¬ny b v9 i:=λi hi q=>by
       rcases q with q|q
       ·exact ah HF i hi (.inl q)
       ·rcases ah G9 i q with y|y
        ·exact ah HF i hi (.inr y)
        ·have:=(H.own (ah NW).st i hi).2;omega
      have PV:=aj (CJ H k9 hs9 (ah HK) (ajA hB (ajA (ah NW).bel.size (ah C9).size)) hF9 hf hz hcn m (x.n+1));have HOu:Hid (∀w2,bF w9 w2 B b a ca v9 ⟨c.t,c.pl,Qk now (c.pe.set k ⟨x.q,x.n+1,D⟩) k,c.cn+1⟩->CB w2 w.heap.size (sH dP)/\∀us:List Value,us.length=6->bF w (w2.setCells w.heap.size 0 us) B b a ca (.slice (some ⟨g,0,none⟩) N cap) ⟨c.t,c.pl,Qk now (c.pe.set k ⟨x.q,x.n+1,D⟩) k,c.cn+1⟩/\CB (w2.setCells w.heap.size 0 us) w.heap.size us):=aj (λw2 hu=>bF.out (ah H0) (ah NW).bel (agH _) (ah NW).cb (bF.trans (ah C9) (ah G9) hu))
      obtain⟨L,hL⟩:∃L:Int,(dN c.t.f s.l c.pl:Int)=L:=⟨_,rfl⟩;rw[show(dN (⟨c.t,c.pl,Qk now (c.pe.set k ⟨x.q,x.n+1,D⟩) k,c.cn⟩:bM).t.f s.l (⟨c.t,c.pl,Qk now (c.pe.set k ⟨x.q,x.n+1,D⟩) k,c.cn⟩:bM).pl:Int)=L from hL] at PV;have HLL:=aj hL;have ajp:=p9.lt;have ajq:=r9.lt;clear k9 ch9 g9 r9 p9 hs9 hF9 hL K8 C8 R8 P8 PF hn9;go_wp2_with (go_at_call 112;refine(ah PV).mono ?_;rintro e w2' ⟨rfl,hu⟩;have hz2:=(ah HOu _ hu).1;have z0:=hz2.cell 0 _ rfl;have z1:=hz2.cell 1 _ rfl;have z2:=hz2.cell 2 _ rfl;have z3:=hz2.cell 3 _ rfl;have z4:=hz2.cell 4 _ rfl;have z5:=hz2.cell 5 _ rfl;have q0:=hz2.fr 0;have q1:=hz2.fr 1;have q2:=hz2.fr 2;have q3:=hz2.fr 3;have q4:=hz2.fr 4;have q5:=hz2.fr 5)
      have HXX:=aj ((ah HOu _ hu).2 (sH ⟨m.q,m.s,m.d,c.cn+1,x.n+1,L⟩) rfl);refine ajY (eP (x:=⟨m.q,m.s,m.d,c.cn+1,x.n+1,L⟩) rfl rfl (ah HXX).2) rfl ?_;unfold uJ;rw[ah HAG];refine⟨?_,(ah HXX).1⟩;unfold oW;rw[ah HLL];rfl
  ·obtain rfl:k=N:=by omega
   have HAG:Hid (kH c.t s.l now c.pe=(Qk now c.pe k,none)):=aj (by
    have hkk:=ah HN;rw[<-hkk,ae6];exact aeC (λp hp=>by
     obtain⟨j,hj,rfl⟩:=akq.1 hp;exact ah HL j hj (by omega)))
   have PF:=aj (wP (ah NW).cm (by rw[ah HN];omega) k (by rw[ah HN];exact agH _) now);have d11:=(ah NW).cm.pe;have hbl:=(ah NW).cm.tb.lt;have HOu:Hid (∀w2,bF wr w2 B b a ca (.slice s0 k cap) ⟨c.t,c.pl,Qk now c.pe k,c.cn⟩->CB w2 w.heap.size (sH dP)/\∀us:List Value,us.length=6->bF w (w2.setCells w.heap.size 0 us) B b a ca (.slice s0 k cap) ⟨c.t,c.pl,Qk now c.pe k,c.cn⟩/\CB (w2.setCells w.heap.size 0 us) w.heap.size us):=aj (λw2 hu=>bF.out (ah H0) (ah NW).bel (agH _) (ah NW).cb hu);clear NW HL hlt;go_wp2_with (go_at_call 111;refine(ah PF).mono ?_;rintro e w2 ⟨rfl,hu⟩;have hz2:=(ah HOu _ hu).1;have z0:=hz2.cell 0 _ rfl;have z1:=hz2.cell 1 _ rfl;have z2:=hz2.cell 2 _ rfl;have z3:=hz2.cell 3 _ rfl;have z4:=hz2.cell 4 _ rfl;have z5:=hz2.cell 5 _ rfl;have q0:=hz2.fr 0;have q1:=hz2.fr 1;have q2:=hz2.fr 2;have q3:=hz2.fr 3;have q4:=hz2.fr 4;have q5:=hz2.fr 5)
   have HXX:=aj ((ah HOu _ hu).2 (sH dP) rfl);refine ajY (eP (x:=dP) rfl rfl (ah HXX).2) rfl ?_;unfold uJ;rw[ah HAG];exact⟨rfl,(ah HXX).1⟩
end
section
variable {SH:I->Nat->Nat->af->aH->Prop}
variable {w:I}{B b:Nat}{c:bM}{a:Option Addr}{ca:Nat}{v:Value}{B' q:Nat}{F:af}{s:aH}
theorem bF.next {w1 w2:I}{c':bM}(h:bF w w1 B b a ca v c')(hb:ai w1 w2):bF w w2 B b a ca v c':=by
 obtain⟨v1,k1,c1,g1⟩:=h;exact bF.trans c1 g1 (bF.same k1 hb)
abbrev dlO (x:mM):Obj:=.cells #[aa x.q,.string x.s,.string x.d,aa x.c,aa x.n,aa x.l] 35
theorem YR (H:jF SH)(T:V9 SH)(h:Cm w B b c a ca v)(hs:SH w B' q F s)(hk:s.Ok)(hB:B'<=w.heap.size)(hBc:B<=w.heap.size)(hF:∀k,F k->¬ny b v k)(hw:lX c.t)(Pv:c.t.bo.length<=140737488355328)(hf:aC true c.t.f=0)(hz:c.t.f.size<=140737488355328)(hcn:0<=c.cn/\c.cn<=1000000000000)(hl:c.pe.length<=100000)(hnb:∀p∈c.pe,0<=p.n/\p.n<=1000000000000)(now:Int) :
 Calls prog 33 #[ae b,ae q,aa now] w λe w'=>e=.returned (.tuple #[NP (oW (aK c s.l now).1 s.l (aK c s.l now).2.1),aa (aK c s.l now).2.2])/\bF w w' B b a ca v (aK c s.l now).1:=by
 have b0:ai w (w.alloc zdO):=ax _ _;have cb0:=CB.new w (sH dP) 35;obtain⟨W0,hW0⟩:∃W0,W0=w.alloc zdO:=⟨_,rfl⟩;rw[show w.alloc (.cells (sH dP).toArray 35)=W0 from hW0.symm] at cb0;rw[<-hW0] at b0;have z0:=cb0.cell 0 _ rfl;have z1:=cb0.cell 1 _ rfl;have z2:=cb0.cell 2 _ rfl;have z3:=cb0.cell 3 _ rfl;have z4:=cb0.cell 4 _ rfl;have z5:=cb0.cell 5 _ rfl;have g0:=cb0.fr 0;have g1:=cb0.fr 1;have g2:=cb0.fr 2;have g3:=cb0.fr 3;have g4:=cb0.fr 4;have g5:=cb0.fr 5;have HT:=aj (FH now W0);have h0:=h.next b0;have hs0:=H.aF (A:=λ_=>False) hs (aA.of_below b0) (λ_ _ z=>z)
 cases ht:pR now with
 | false =>
  have HE:Hid (aK c s.l now=(c,none,1)):=aj (by unfold aK;rw[if_pos ht]);have HX:=aj ((bF.out h b0 (agH _) cb0 (bF.same h0 (agP _ _))).2 (sH dP) rfl);rw[ah HE];rw[ht] at HT;clear h h0 hs hs0 hk hF hw hnb cb0 b0 ht;go_enter func33,ntmps33;go_upto_region 1 with fail
  rw[<-hW0];clear hW0;go_wp2_with fail;refine(ah HT).mono ?_;rintro e w1 ⟨rfl,hw⟩;rw[hw];clear hw;go_wp2_with fail;exact ajY (eP (x:=dP) rfl rfl (ah HX).2) rfl ⟨rfl,(ah HX).1⟩
 | true =>
  rw[ht] at HT;have htt:=Bh.1 ht;have PA:=aj (Bq H T h0 hs0 hk (ajA hB b0.size) hF hw Pv hf hz hcn hl hnb now htt);have HOu:Hid (∀w2 c2,bF W0 w2 B b a ca v c2->CB w2 w.heap.size (sH dP)/\∀us:List Value,us.length=6->bF w (w2.setCells w.heap.size 0 us) B b a ca v c2/\CB (w2.setCells w.heap.size 0 us) w.heap.size us):=aj (λw2 c2 hu=>bF.out h b0 (agH _) cb0 hu)
  cases hag:(kH c.t s.l now c.pe).2 with
  | some mn =>
   obtain⟨m,n⟩:=mn;have HE:=aj (TY ht hag);have hac:uJ c s.l now=⟨c.t,c.pl,(kH c.t s.l now c.pe).1,c.cn+1⟩:=by unfold uJ;rw[hag]
   rw[hag,hac] at PA;rw[ah HE];obtain⟨X,hX⟩:∃X,oW ⟨c.t,c.pl,(kH c.t s.l now c.pe).1,c.cn+1⟩ s.l (some (m,n))=X:=⟨_,rfl⟩;rw[hX] at PA;show Calls _ _ _ _ λe w'=>e=.returned (.tuple #[NP (oW ⟨c.t,c.pl,(kH c.t s.l now c.pe).1,c.cn+1⟩ s.l (some (m,n))),aa 0])/\_
   rw[hX];clear h h0 hs hs0 hk hF hw hnb cb0 b0 ht hag hac hX z0 z1 z2 z3 z4 z5 g0 g1 g2 g3 g4 g5;go_enter func33,ntmps33;go_upto_region 1 with fail
   rw[<-hW0];clear hW0;go_wp2_with fail;refine(ah HT).mono ?_;rintro e w1 ⟨rfl,hw⟩;rw[hw];clear hw;go_wp2_with fail;refine(ah PA).mono ?_;rintro e w2 ⟨rfl,hu⟩;obtain⟨cb3,hb3⟩:=ah HOu _ _ hu;have z0:=cb3.cell 0 _ rfl;have z1:=cb3.cell 1 _ rfl;have z2:=cb3.cell 2 _ rfl;have z3:=cb3.cell 3 _ rfl;have z4:=cb3.cell 4 _ rfl;have z5:=cb3.cell 5 _ rfl;have g0:=cb3.fr 0;have g1:=cb3.fr 1;have g2:=cb3.fr 2;have g3:=cb3.fr 3;have g4:=cb3.fr 4;have g5:=cb3.fr 5;have HX:=aj (hb3 (sH X) rfl);have hlw:w.heap.size<w2.heap.size:=cb3.lt;clear hu cb3 hb3 HOu PA HT;go_wp2_with fail;exact ajY (eP (x:=X) rfl rfl ((ah HX).2.next ((agP _ _).alloc (agH _) (dlO X)))) rfl ⟨rfl,(ah HX).1.next ((agP _ _).alloc (agH _) (dlO X))⟩
  | none =>
   have HE:=aj (Pq ht hag);have hac:uJ c s.l now=⟨c.t,c.pl,(kH c.t s.l now c.pe).1,c.cn⟩:=by unfold uJ;rw[hag]
   rw[hag,hac] at PA;rw[show oW ⟨c.t,c.pl,(kH c.t s.l now c.pe).1,c.cn⟩ s.l none=dP from rfl,show(none:Option (Rc×Int)).isSome=false from rfl] at PA;rw[ah HE];have hll:=Bc (t:=c.t) (l:=s.l) (now:=now) c.pe;obtain⟨pe1,Ij⟩:∃pe1,(kH c.t s.l now c.pe).1=pe1:=⟨_,rfl⟩;rw[Ij] at PA hll;rw[Ij];have HF2:∀k,F k->k<w.heap.size:=λk hq=>(H.own hs k hq).2
   have PN:Hid (∀w2,bF W0 w2 B b a ca v ⟨c.t,c.pl,pe1,c.cn⟩->Calls prog 68 #[ae b,ae q,aa now] (w2.alloc (dlO dP)) λe w'=>e=.returned (.tuple #[NP (oW (newC ⟨c.t,c.pl,pe1,c.cn⟩ s.l now).1 s.l (newC ⟨c.t,c.pl,pe1,c.cn⟩ s.l now).2.1),aa (newC ⟨c.t,c.pl,pe1,c.cn⟩ s.l now).2.2])/\bF W0 w' B b a ca v (newC ⟨c.t,c.pl,pe1,c.cn⟩ s.l now).1):=aj (λw2 hu=>by
    have bA:ai w2 (w2.alloc (dlO dP)):=ax _ _;obtain⟨v1,k1,c1,g1⟩:=bF.next hu bA;have hs1:SH (w2.alloc (dlO dP)) B' q F s:=H.aF hs0 c1 (λk hk=>hF k hk);refine(Gg H (k1) hs1 hk (ajA hB (ajA b0.size c1.size)) (ajA hBc (ajA b0.size c1.size)) (λk hq z=>?_) (λk hq=>by have:=HF2 k hq;have:=b0.size;have:=c1.size;omega) hw Pv hf hz hcn (ajA hll hl) now htt).mono ?_
    ·rcases z with z|z
     ·exact hF k hq (.inl z)
     ·rcases g1 k z with y|y
      ·exact hF k hq (.inr y)
      ·have:=HF2 k hq;have:=b0.size;omega
    ·rintro e w' ⟨e1,e2⟩;exact⟨e1,bF.trans c1 g1 e2⟩)
   obtain⟨R,hR⟩:∃R,newC ⟨c.t,c.pl,pe1,c.cn⟩ s.l now=R:=⟨_,rfl⟩;rw[hR] at PN;rw[hR];obtain⟨X,hX⟩:∃X,oW R.1 s.l R.2.1=X:=⟨_,rfl⟩;rw[hX] at PN;rw[hX];clear h h0 hs hs0 hk hF hw hnb cb0 b0 ht hag hac hX hR Ij hll HF2 HE z0 z1 z2 z3 z4 z5 g0 g1 g2 g3 g4 g5;go_enter func33,ntmps33;go_upto_region 1 with fail
   rw[<-hW0];clear hW0;go_wp2_with fail;refine(ah HT).mono ?_;rintro e w1 ⟨rfl,hw⟩;rw[hw];clear hw;go_wp2_with fail;refine(ah PA).mono ?_;rintro e w2 ⟨rfl,hu⟩;have PN2:=aj (ah PN _ hu);clear hu PN PA HT;go_wp2_with fail;refine(ah PN2).mono ?_;rintro e w3 ⟨rfl,hu⟩;obtain⟨cb3,hb3⟩:=ah HOu _ _ hu;have z0:=cb3.cell 0 _ rfl;have z1:=cb3.cell 1 _ rfl;have z2:=cb3.cell 2 _ rfl;have z3:=cb3.cell 3 _ rfl;have z4:=cb3.cell 4 _ rfl;have z5:=cb3.cell 5 _ rfl;have g0:=cb3.fr 0;have g1:=cb3.fr 1;have g2:=cb3.fr 2;have g3:=cb3.fr 3;have g4:=cb3.fr 4;have g5:=cb3.fr 5;have HX:=aj (hb3 (sH X) rfl)
   clear hu cb3 hb3 HOu PN2;go_wp2_with fail;exact ajY (eP (x:=X) rfl rfl (ah HX).2) rfl ⟨rfl,(ah HX).1⟩
end
