/- A part. -/
import Derived.Test.YtophdoapcdjnjaaGreatDoorQ12
import Derived.Test.YtophdoapcdjnjaaGreatDoorQ15
set_option maxRecDepth 100000
set_option maxHeartbeats 8000000
namespace Go.Proofs.YtophdoapcdjnjaaGreatDoor
open Go.RowKit Go.Proofs.Tryz
namespace Dk
structure Ux (SH:World->Nat->Nat->(Nat->Prop)->aX->Prop)(w wx:World)(B b:Nat)(c:dM)(a:Option Addr)(ca:Nat)(v:Value)(B' q:Nat)(F:Nat->Prop)(s:aX)(bx:Nat):Prop where
 cm:Cm wx B b c a ca v
 st:SH wx B' q F s
 cb:CB wx bx (vw fB)
 bel:Below w.heap.size w wx
 new:w.heap.size<=bx
section
variable {SH:World->Nat->Nat->(Nat->Prop)->aX->Prop}
variable {w wx wy:World}{B b:Nat}{c:dM}{a:Option Addr}{ca:Nat}{v:Value}{B' q:Nat}{F:Nat->Prop}{s:aX}{bx:Nat}
theorem Ux.next (H:dX SH)(h:Ux SH w wx B b c a ca v B' q F s bx)(hb:Below wx.heap.size wx wy):Ux SH w wy B b c a ca v B' q F s bx :=
 ⟨h.cm.next hb,H.bW (A:=λ_=>False) h.st (aF.of_below hb) (λ_ _ z=>z),h.cb.next hb,h.bel.trans (hb.mono h.bel.size),h.new⟩
theorem Ux.same (h:Ux SH w wx B b c a ca v B' q F s bx)(h0:Cm w B b c a ca v)(us:List Value)(hl:us.length=6):aQ w (wx.setCells bx 0 us) B b a ca v c/\CB (wx.setCells bx 0 us) bx us:=by
 have:=(aQ.out (W0:=wx) (w2:=wx) h0 h.bel h.new h.cb (aQ.same h.cm (Below.refl _ _))).2 us hl;exact this
theorem Cm.more (h:Cm w B b c a ca v)(hB:B<=w.heap.size)(hl:c.pe.length<=100000)(p:Dv) :
 ∃a' m' c' w8,(Builtin.append_ #[74,74] 74 #[v,.slice (some ⟨w.heap.size,0,none⟩) 1 1]).run prog (w.alloc (L6 p))=.ok (.slice a' m' c') w8/\w8.cell? ⟨b,11,none⟩=some v/\w8.frozen? ⟨b,11,none⟩=false/\aF (λk=>v.ownBlock=some k) (w.alloc (L6 p)) w8/\Hid (aQ w (w8.setCell ⟨b,11,none⟩ (.slice a' m' c')) B b a ca v ⟨c.t,c.pl,c.pe++[p],c.cn⟩):=by
 have b4:Below w.heap.size w (w.alloc (L6 p)):=(Below.refl _ _).alloc (Nat.le_refl _) _;have h4:=h.next b4;obtain⟨v8,w8,hr,A8,C8,L8⟩:=L9 _ B 74 v c.pe p (fK.tri h4.row) ⟨w.heap.size,0,none⟩ 1 (SN w (yh p) 78) (by omega) (by have:=b4.size;omega);have HS:=aj (aQ.trans (aF.of_below b4) (λ_ q=>.inl q) (aQ.put h4 C8 (j:=11) (.inr (.inr ⟨rfl,rfl,rfl,rfl⟩)) A8.Ue L8));obtain⟨a',c',rfl,_⟩:=A8.shape;refine⟨a',_,c',w8,hr,?_,?_,C8,HS⟩
 ·rw[C8.cell (p:=⟨b,11,none⟩) h4.tb.lt h4.ne1];exact h4.pe
 ·rw[C8.frozen (p:=⟨b,11,none⟩) h4.tb.lt h4.ne1];exact h4.fr 11
theorem yG (H:dX SH)(h:Cm w B b c a ca v)(hs:SH w B' q F s)(hk:s.Ok)(hB:B'<=w.heap.size)(hBc:B<=w.heap.size)(hF:∀k,F k->¬jC b v k)(hF2:∀k,F k->k<w.heap.size)(hw:iY c.t)(JG:c.t.bo.length<=140737488355328)(hf:aB true c.t.f=0)(hz:c.t.f.size<=140737488355328)(hcn:0<=c.cn/\c.cn<=1000000000000)(hl:c.pe.length<=100000)(now:Int)(ht:0<=now/\now<=1099511627776) :
 Calls prog 35 #[.pointer (some ⟨b,0,none⟩),.pointer (some ⟨q,0,none⟩),.int .i64 now] w λe w'=>e=.returned (.tuple #[Rj (xX (newC c s.l now).1 s.l (newC c s.l now).2.1),.int .i64 (newC c s.l now).2.2])/\aQ w w' B b a ca v (newC c s.l now).1:=by
 have b0:Below w.heap.size w (w.alloc Ru):=(Below.refl _ _).alloc (Nat.le_refl _) _;have N0:=aj (show Ux SH w (w.alloc Ru) B b c a ca v B' q F s w.heap.size from⟨h.next b0,H.bW (A:=λ_=>False) hs (aF.of_below b0) (λ_ _ z=>z),CB.new w (vw fB) 37,b0,Nat.le_refl _⟩);obtain⟨s0,cap,rfl,hcap,hcm,_⟩:=h.row.shape;have H0:=aj h;have y8:=(ah N0).cm.tb.c8;have Xo:=(ah N0).cm.pe;have hbl:=(ah N0).cm.tb.lt;obtain⟨N,hN⟩:∃N,c.pe.length=N:=⟨_,rfl⟩;obtain⟨M,hM⟩:∃M,c.t.pe=M:=⟨_,rfl⟩;have Y9:Hid (ET c=((M !=0)&&decide (M<=(N:Int)))):=aj (by unfold ET;rw[hM,hN]);rw[hN] at Xo;rw[hM] at y8
 have HB1:Hid (∀n,Below (w.alloc Ru).heap.size (w.alloc Ru) ((w.alloc Ru).drewN n)):=aj (λn=>below_drewN (Below.refl _ _) n);go_enter func35,ntmps35;go_upto_region 1 with fail
 go_cut [28] (λu wx=>u=.bool (ET c)/\Hid (Ux SH w wx B b c a ca (.slice s0 c.pe.length cap) B' q F s w.heap.size))
 case first =>
  clear h hs hk hf hz hw H0 hF hF2 hcm;by_cases h0:M=0
  ·have g0:(M !=0)=false:=by rw[h0];rfl
   have HV:Hid (ET c=false):=aj (by rw[ah Y9,g0,Bool.false_and]);clear hM hN h0;go_quiet (fail)
   go_wp2_with fail;go_meet
   exact⟨by rw[ah HV],aj ((ah N0).next H (ah HB1 _))⟩
  ·have g0:(M !=0)=true:=by simpa using h0
   have HV:Hid (ET c=decide (M<=(N:Int))):=aj (by rw[ah Y9,g0,Bool.true_and]);clear hM hN h0;go_quiet (fail)
   go_wp2_with fail;go_meet
   exact⟨by rw[ah HV],aj ((ah N0).next H (ah HB1 _))⟩
 case rest =>
  obtain⟨rfl,NC⟩:=hcut;obtain⟨wa,hwa⟩:∃wa,wa=wc:=⟨_,rfl⟩;subst hwa;have z0:=(ah NC).cb.cell 0 _ rfl;have z1:=(ah NC).cb.cell 1 _ rfl;have z2:=(ah NC).cb.cell 2 _ rfl;have z3:=(ah NC).cb.cell 3 _ rfl;have z4:=(ah NC).cb.cell 4 _ rfl;have z5:=(ah NC).cb.cell 5 _ rfl;have g0:=(ah NC).cb.fr 0;have g1:=(ah NC).cb.fr 1;have g2:=(ah NC).cb.fr 2;have g3:=(ah NC).cb.fr 3;have g4:=(ah NC).cb.fr 4;have g5:=(ah NC).cb.fr 5
  cases hfb:ET c with
  | true =>
   have HE:Hid (newC c s.l now=(c,none,11)):=aj (by unfold newC;rw[if_pos hfb]);have HX:=aj ((ah NC).same (ah H0) (vw fB) rfl);clear h hs hk hf hz hw hF hF2 hcm hM hN hfb;go_wp2_with fail;refine bodyPost_ret (eF (x:=fB) rfl rfl (ah HX).2) rfl ?_;rw[ah HE];exact⟨rfl,(ah HX).1⟩
  | false =>
   have Qa:Hid (newC c s.l now=match aT c.t.f s.l c.pl with
    | none=>(c,none,4)
    | some m=>(⟨c.t,m.q+1,if c.t.ack=0 then c.pe else c.pe++[⟨m.q,1,now+Tk.dV c.t 1⟩],c.cn+1⟩,some (m,1),0)):=aj (by unfold newC;rw[if_neg (by simp[hfb])];cases aT c.t.f s.l c.pl<;>rfl)
   have Vw:Hid (∀W,(W=wa.drew\/∃o,W=(wa.alloc o).drew)->Calls prog 64 #[.pointer (some ⟨q,0,none⟩),.string c.t.f,.int .i64 c.pl] W λe w'=>e=.returned (.tuple #[.agg #[.int .i64 (oR (aT c.t.f s.l c.pl)).k,.int .i64 (oR (aT c.t.f s.l c.pl)).q,.int .i64 (oR (aT c.t.f s.l c.pl)).t,.string (oR (aT c.t.f s.l c.pl)).s,.string (oR (aT c.t.f s.l c.pl)).h,.string (oR (aT c.t.f s.l c.pl)).d],.int .i64 (oE (aT c.t.f s.l c.pl))])/\Below W.heap.size W w'):=aj (λW hW=>by
    have hb:Below wa.heap.size wa W:=by
     rcases hW with e|⟨o,e⟩
     ·rw[e];exact(Below.refl _ _).drew
     ·rw[e];exact((Below.refl _ _).alloc (Nat.le_refl _) _).drew
    have:=H.next c.t.f c.pl hz (H.bW (A:=λ_=>False) (ah NC).st (aF.of_below hb) (λ_ _ z=>z)) hk (Nat.le_trans hB (Nat.le_trans (ah NC).bel.size hb.size));unfold gJ at this;rw[if_pos hf,vV] at this;exact this)
   have k1:wa.cell? ⟨b,1,none⟩=some (.string c.t.f):=(ah NC).cm.tb.c1;have k10:wa.cell? ⟨b,10,none⟩=some (.int .i64 c.pl):=(ah NC).cm.pl;have aar:=(ah NC).cm.tb.lt;have HMQ:Hid (∀m,aT c.t.f s.l c.pl=some m->1<=m.q/\m.q<=1099511627776):=aj (λm hm=>hk.seq (oN hm).1);obtain⟨o,ho⟩:∃o,aT c.t.f s.l c.pl=o:=⟨_,rfl⟩;rw[ho] at Vw Qa HMQ;obtain⟨f,Jq⟩:∃f,c.t.f=f:=⟨_,rfl⟩;obtain⟨pl,hpl⟩:∃pl,c.pl=pl:=⟨_,rfl⟩;rw[Jq,hpl] at Vw;rw[Jq] at k1;rw[hpl] at k10;have HSt:=aj hs;have HFF:=aj Jq;have HPL:=aj hpl;have HHF:=aj hF;have HHK:=aj hk;clear hfb hM hN ho Jq hpl;go_upto_region 3 with fail
   go_cut [8,9] (λu v wx=>∃by',u=.pointer (some ⟨by',0,none⟩)/\v=.int .i64 (oE o)/\Hid (ug wa wx by' o))
   case first =>
    clear h hs hk hf hz hw hF hF2 hcm HSt z0 z1 z2 z3 z4 z5 g0 g1 g2 g3 g4 g5 NC Qa y8 Xo Y9 HB1 N0 H0;go_region_with (go_at_call 64;refine(ah Vw _ (by first|(with_reducible exact .inl rfl)|(with_reducible exact .inr ⟨_,rfl⟩))).mono ?_;rintro e w1 ⟨rfl,b1⟩;first|(have hz1:CB w1 wa.heap.size (yB dH):=(by with_reducible exact Qr b1);have z0:=hz1.cell 0 _ rfl;have z1:=hz1.cell 1 _ rfl;have z2:=hz1.cell 2 _ rfl;have z3:=hz1.cell 3 _ rfl;have z4:=hz1.cell 4 _ rfl;have z5:=hz1.cell 5 _ rfl;have f0:=hz1.fr 0;have f1:=hz1.fr 1;have f2:=hz1.fr 2;have f3:=hz1.fr 3;have f4:=hz1.fr 4;have f5:=hz1.fr 5)|skip)
    all_goals
     first
     | (
      have HL:=aj (Fh (o:=o) hz1 b1)
      clear z0 z1 z2 z3 z4 z5 f0 f1 f2 f3 f4 f5 hz1 b1
      go_wp2_with fail
      go_meet
      exact⟨_,rfl,rfl,HL⟩)
     | (
      have HL:=aj (Fg (o:=o) b1)
      clear b1
      go_wp2_with fail
      go_meet
      exact⟨_,rfl,rfl,HL⟩)
   case rest =>
    obtain⟨by',rfl,rfl,HA⟩:=hcut;obtain⟨wb,hwb⟩:∃wb,wb=wc:=⟨_,rfl⟩;subst hwb;clear z0 z1 z2 z3 z4 z5 g0 g1 g2 g3 g4 g5 k1 k10 y8 Xo Vw N0 HB1 Y9;have NA:=aj ((ah NC).next H (ah HA).2.1)
    cases o with
    | none =>
     have HX:=aj ((ah NA).same (ah H0) (vw fB) rfl);have z0:=(ah NA).cb.cell 0 _ rfl;have z1:=(ah NA).cb.cell 1 _ rfl;have z2:=(ah NA).cb.cell 2 _ rfl;have z3:=(ah NA).cb.cell 3 _ rfl;have z4:=(ah NA).cb.cell 4 _ rfl;have z5:=(ah NA).cb.cell 5 _ rfl;have g0:=(ah NA).cb.fr 0;have g1:=(ah NA).cb.fr 1;have g2:=(ah NA).cb.fr 2;have g3:=(ah NA).cb.fr 3;have g4:=(ah NA).cb.fr 4;have g5:=(ah NA).cb.fr 5;rw[show oE none=4 from rfl];clear h hs hk hf hz hw hF hF2 hcm NC NA HA;go_wp2_with fail;refine bodyPost_ret (eF (x:=fB) rfl rfl (ah HX).2) rfl ?_
     rw[ah Qa];exact⟨rfl,(ah HX).1⟩
    | some m =>
     rw[show oE (some m)=0 from rfl];obtain⟨hm1,hm2⟩:=ah HMQ m rfl;have RM:=aj (show CB wb by' (yB m) from(ah HA).1);have Yk:=(ah RM).lt;have Yl:by'≠b:=by have:=(ah HA).2.2;omega
     obtain⟨pe1,yT⟩:∃pe1,(if c.t.ack=0 then c.pe else c.pe++[⟨m.q,1,now+Tk.dV c.t 1⟩])=pe1:=⟨_,rfl⟩;have Rq:Hid (newC c s.l now=(⟨c.t,m.q+1,pe1,c.cn+1⟩,some (m,1),0)):=aj (by rw[<-yT];exact ah Qa);clear Qa;have d4:=(ah NA).cm.tb.c4;have Ym:=(ah NA).cm.tb.lt;go_upto_if 53 with fail
     clear d4;go_cut [] (λwx=>Hid (aQ wb wx B b a ca (.slice s0 c.pe.length cap) ⟨c.t,c.pl,pe1,c.cn⟩/\CB wx by' (yB m)))
     case first =>
      have d11:=(ah NA).cm.pe;have f11:=(ah NA).cm.fr 11;by_cases h0:c.t.ack=0
      ·have hp0:pe1=c.pe:=by rw[<-yT,if_pos h0]
       have HS:=aj (And.intro (aQ.same (ah NA).cm (Below.refl _ _)) (ah RM));have g4:(c.t.ack !=0)=false:=by rw[h0];rfl
       clear h hs hk hf hz hw hF hF2 hcm NC NA HA yT h0;go_wp2_with fail;go_meet
       rw[hp0];exact HS
      ·have hp0:pe1=c.pe++[⟨m.q,1,now+Tk.dV c.t 1⟩]:=by rw[<-yT,if_neg h0]
       have g4:(c.t.ack !=0)=true:=by simpa using h0
       have PD:=aj (tZ ((ah NA).cm.next (Below.refl _ _).drew) hw JG 1 now ht);obtain⟨D,hD⟩:∃D,now+Tk.dV c.t 1=D:=⟨_,rfl⟩;rw[hD] at PD hp0;have HMo:Hid (∀w3,Below wb.drew.heap.size wb.drew w3->_):=aj (λw3 b3=>((ah NA).cm.next (((Below.refl wb.heap.size wb).drew).trans b3)).more (Nat.le_trans hBc (Nat.le_trans (ah NA).bel.size (((Below.refl wb.heap.size wb).drew).trans b3).size)) hl ⟨m.q,1,D⟩);have d1:wb.drew.cell? ⟨by',1,none⟩=some (.int .i64 m.q):=(ah RM).cell 1 _ rfl;have e11:wb.drew.cell? ⟨b,11,none⟩=some (.slice s0 c.pe.length cap):=d11;have HRB:Hid (∀(w3 w8:World) p,Below wb.drew.heap.size wb.drew w3->aF (λk=>(Value.slice s0 c.pe.length cap).ownBlock=some k) (w3.alloc (L6 p)) w8->∀u,CB (w8.setCell ⟨b,11,none⟩ u) by' (yB m)):=aj (λw3 w8 p b3 c8 u=>by
        have hny:¬(Value.slice s0 c.pe.length cap).ownBlock=some by':=λq=>by
         have:=(h.row.lt _ q).2;have:=(ah HA).2.2;have:=(ah NC).bel.size;omega
        have r3:=((ah RM).next (((Below.refl wb.heap.size wb).drew).trans b3)).next ((Below.refl w3.heap.size w3).alloc (Nat.le_refl _) (L6 p));exact(r3.bW c8 hny).bW (aF.setCell (A:=λk=>k=b) (p:=⟨b,11,none⟩) (aF.refl _ _) (.inl rfl) u) Yl)
       have HUT:Hid (∀(w3 w8:World) u,Below wb.drew.heap.size wb.drew w3->aQ w3 (w8.setCell ⟨b,11,none⟩ u) B b a ca (.slice s0 c.pe.length cap) ⟨c.t,c.pl,c.pe++[⟨m.q,1,D⟩],c.cn⟩->aQ wb (w8.setCell ⟨b,11,none⟩ u) B b a ca (.slice s0 c.pe.length cap) ⟨c.t,c.pl,c.pe++[⟨m.q,1,D⟩],c.cn⟩):=aj (λw3 w8 u b3 hu=>aQ.trans (aF.of_below (((Below.refl wb.heap.size wb).drew).trans b3)) (λ_ q=>.inl q) hu);clear h hs hk hf hz hF hF2 hcm NC NA HA yT h0 hw hD;go_wp2_with fail;go_region_law (first
        | (refine qY rfl _ _ 74 74 rfl (.slice s0 c.pe.length cap) _ (by first|(simp[Act.eval];done)|(simp[Act.eval,Act.put];done)) (by first|(simp[Act.eval];done)|(simp[Act.eval,Act.put];done)) hrun ?_)
        | (go_simp;go_at_call 39;refine(ah PD).mono ?_;rintro e w3 ⟨rfl,b3⟩;have x11:=(b3.cell (p:=⟨b,11,none⟩) Ym).trans e11;have x1:=(b3.cell (p:=⟨by',1,none⟩) Yk).trans d1;have hp3:=Nat.lt_of_lt_of_le Ym b3.size;have hy3:=Nat.lt_of_lt_of_le Yk b3.size;obtain⟨a',m',c',w8,hrun,q0,q1,q2,HM8⟩:=ah HMo w3 b3;dsimp only))
       all_goals
        have HS:=aj (And.intro (ah HUT _ _ _ b3 (ah HM8)) (ah HRB _ _ _ b3 q2 (.slice a' m' c')))
        clear HM8 hrun q2 b3 PD HMo HUT HRB
        go_wp2_with fail
        go_meet
        rw[hp0]
        exact HS
     case rest =>
      obtain⟨v1,k1,c1,g1⟩:=(ah hcut).1;have rm:=(ah hcut).2;have x1:=rm.cell 1 _ rfl;have c10:=k1.pl;have f10:=k1.fr 10;have aas:=k1.tb.lt;have aat:=rm.lt;have hw1:IntKind.i64.wrap (m.q+1)=m.q+1:=by rw[IntKind.wrap_i64];omega
      obtain⟨W1,hW1⟩:∃W1,W1=wc.setCell ⟨b,10,none⟩ (.int .i64 (m.q+1)):=⟨_,rfl⟩;have cW:aF (λk=>k=b) wc W1:=by rw[hW1];exact aF.setCell (A:=λk=>k=b) (p:=⟨b,10,none⟩) (aF.refl _ _) (.inl rfl) _
      have k2:Cm W1 B b ⟨c.t,m.q+1,pe1,c.cn⟩ a ca v1:=by rw[hW1];exact k1.put (aF.refl _ _) (.inl ⟨rfl,rfl,rfl,rfl⟩) k1.row (λ_ q=>.inl q)
      have Za:aF (jC b (.slice s0 c.pe.length cap)) wb W1:=c1.trans (cW.mono (λ_ _ q=>.inl q));have hF1:∀k,F k->¬jC b v1 k:=λk hk z=>by
       rcases z with z|z
       ·exact hF k hk (.inl z)
       ·rcases g1 k z with y|y
        ·exact hF k hk (.inr y)
        ·have:=hF2 k hk;have:=(ah NA).bel.size;omega
      have hsW:SH W1 B' q F s:=H.bW (ah NA).st Za (λk hk=>hF k hk);have PV:=aj (uX H k2 hsW hk (Nat.le_trans hB (Nat.le_trans (ah NA).bel.size Za.size)) hF1 hf hz hcn m 1);have NM:=rm.bW cW Yl;have r0:=NM.cell 0 _ rfl;have r1:=NM.cell 1 _ rfl;have r2:=NM.cell 2 _ rfl;have r3:=NM.cell 3 _ rfl;have r4:=NM.cell 4 _ rfl;have r5:=NM.cell 5 _ rfl;have HO:Hid (∀w2,aQ W1 w2 B b a ca v1 ⟨c.t,m.q+1,pe1,c.cn+1⟩->CB w2 w.heap.size (vw fB)/\∀us:List Value,us.length=6->aQ w (w2.setCells w.heap.size 0 us) B b a ca (.slice s0 c.pe.length cap) ⟨c.t,m.q+1,pe1,c.cn+1⟩/\CB (w2.setCells w.heap.size 0 us) w.heap.size us):=aj (λw2 hu=>aQ.out (ah H0) (ah NA).bel (Nat.le_refl _) (ah NA).cb (aQ.trans Za g1 hu))
      obtain⟨L,hL⟩:∃L:Int,(bP c.t.f s.l (m.q+1):Int)=L:=⟨_,rfl⟩;rw[show(bP (⟨c.t,m.q+1,pe1,c.cn⟩:dM).t.f s.l (⟨c.t,m.q+1,pe1,c.cn⟩:dM).pl:Int)=L from hL] at PV;have HL:=aj hL;clear h hs hk hf hz hw hF hF2 hcm NC NA HA yT k1 c1 g1 rm NM cW Za k2 hF1 hsW hL hcut;go_upto_region 9 with fail
      rw[<-hW1];clear hW1;go_wp2_with (go_at_call 63;refine(ah PV).mono ?_;rintro e w2 ⟨rfl,hu⟩;have hz2:=(ah HO _ hu).1;have z0:=hz2.cell 0 _ rfl;have z1:=hz2.cell 1 _ rfl;have z2:=hz2.cell 2 _ rfl;have z3:=hz2.cell 3 _ rfl;have z4:=hz2.cell 4 _ rfl;have z5:=hz2.cell 5 _ rfl;have q0:=hz2.fr 0;have q1:=hz2.fr 1;have q2:=hz2.fr 2;have q3:=hz2.fr 3;have q4:=hz2.fr 4;have q5:=hz2.fr 5);have HX:=aj ((ah HO _ hu).2 (vw ⟨m.q,m.s,m.d,c.cn+1,1,L⟩) rfl);refine bodyPost_ret (eF (x:=⟨m.q,m.s,m.d,c.cn+1,1,L⟩) rfl rfl (ah HX).2) rfl ?_;rw[ah Rq];refine⟨?_,(ah HX).1⟩;unfold xX
      rw[ah HL];rfl
end
def oz (c:dM)(l:List Rc)(now:Int):dM:=⟨c.t,c.pl,(iD c.t l now c.pe).1,match (iD c.t l now c.pe).2 with
 | some _=>c.cn+1
 | none=>c.cn⟩
theorem Uy {now:Int}(l:List Dv):E5 now l l.length=l.filter (λx=>!decide (x.d<=now)):=by
 unfold E5;rw[List.take_length,List.drop_length,List.append_nil]
theorem Yn {now:Int}{l:List Dv}{k:Nat}(h:k<l.length)(p':Dv):E5 now (l.set k p') k=(l.take k).filter (λx=>!decide (x.d<=now))++p'::l.drop (k+1):=by
 unfold E5;have e:l.set k p'=l.take k++p'::l.drop (k+1):=by rw[List.set_eq_take_append_cons_drop,if_pos h]
 have hl:(l.take k).length=k:=by rw[List.length_take];omega
 rw[e,List.take_append_of_le_length (by omega),List.take_of_length_le (by omega),List.drop_append_of_le_length (by omega),List.drop_of_length_le (by omega),List.nil_append]
theorem MN {l:List Dv}{k:Nat}(h:k<l.length):l=l.take k++l[k]::l.drop (k+1):=by
 rw[<-List.drop_eq_getElem_cons h,List.take_append_drop]
section
variable {SH:World->Nat->Nat->(Nat->Prop)->aX->Prop}
variable {w:World}{B b:Nat}{c:dM}{a:Option Addr}{ca:Nat}{v:Value}{B' q:Nat}{F:Nat->Prop}{s:aX}
theorem Cm.aside {wr:World}(h0:Cm wr B b c a ca v)(h:Cm w B b c a ca v){j:Nat}{u:Value}:Cm (w.setCell ⟨wr.heap.size,j,none⟩ u) B b c a ca v :=
 h.bW (aF.setCell (A:=λk=>k=wr.heap.size) (p:=⟨wr.heap.size,j,none⟩) (aF.refl _ _) (.inl rfl) u) (λq=>by have:=h0.tb.lt;omega) (λg hg q=>by have:=(h0.row.lt g hg).2;omega) (λz hz q=>by have:=(h0.al z hz).2;omega)
theorem Cm.ZQ {w':World}{Zz:List Dv}(h:Cm w B b c a ca v)(hC:aF (λk=>v.ownBlock=some k) w w')(hr:fK w' B v Zz):Cm w' B b ⟨c.t,c.pl,Zz,c.cn⟩ a ca v:=by
 have ho:∀j,w'.cell? ⟨b,j,none⟩=w.cell? ⟨b,j,none⟩:=λj=>hC.cell (p:=⟨b,j,none⟩) h.tb.lt h.ne1
 exact⟨h.tb.same hC.size ho,by rw[ho];exact h.pl,by rw[ho];exact h.pe,by rw[ho];exact h.cn,hr,(λk hk=>by
  obtain⟨b',o,e1,e2,e3⟩:=h.bo k hk;exact⟨b',o,e1,Nat.lt_of_lt_of_le e2 hC.size,by rw[hC.cell (p:=⟨b',o+k,none⟩) e2 (h.TS _ e1).2];exact e3⟩),λi=>by rw[hC.frozen (p:=⟨b,i,none⟩) h.tb.lt h.ne1];exact h.fr i,h.bB,h.ne1,h.TS,λz hz=>⟨(h.al z hz).1,Nat.lt_of_lt_of_le (h.al z hz).2 hC.size⟩⟩
theorem um (H:dX SH)(T:Jy SH)(h:Cm w B b c a ca v)(hs:SH w B' q F s)(hk:s.Ok)(hB:B'<=w.heap.size)(hF:∀k,F k->¬jC b v k)(hw:iY c.t)(JG:c.t.bo.length<=140737488355328)(hf:aB true c.t.f=0)(hz:c.t.f.size<=140737488355328)(hcn:0<=c.cn/\c.cn<=1000000000000)(hl:c.pe.length<=100000)(hnb:∀p∈c.pe,0<=p.n/\p.n<=1000000000000)(now:Int)(ht:0<=now/\now<=1099511627776) :
 Calls prog 34 #[.pointer (some ⟨b,0,none⟩),.pointer (some ⟨q,0,none⟩),.int .i64 now] w λe w'=>e=.returned (.tuple #[Rj (xX (oz c s.l now) s.l (iD c.t s.l now c.pe).2),.bool (iD c.t s.l now c.pe).2.isSome])/\aQ w w' B b a ca v (oz c s.l now):=by
 have b0:Below w.heap.size w (w.alloc Ru):=(Below.refl _ _).alloc (Nat.le_refl _) _;have N0:=aj (show Ux SH w (w.alloc Ru) B b c a ca v B' q F s w.heap.size from⟨h.next b0,H.bW (A:=λ_=>False) hs (aF.of_below b0) (λ_ _ z=>z),CB.new w (vw fB) 37,b0,Nat.le_refl _⟩);obtain⟨s0,cap,rfl,hcap,hcm,_⟩:=h.row.shape;have H0:=aj h;have HK:=aj hk;have HW:=aj hw;have HNB:=aj hnb;have HF:=aj hF;have Xo:=(ah N0).cm.pe;have hbl:=(ah N0).cm.tb.lt;unfold maxLen at hcm;obtain⟨N,hN⟩:∃N,c.pe.length=N:=⟨_,rfl⟩;have HN:=aj hN;have hv:(Value.slice s0 c.pe.length cap)=.slice s0 N cap:=by rw[hN]
 rw[hv] at N0 H0 HF Xo;rw[hv];rw[hN] at hcap hl;clear hv hN h hs hk hF hw hnb;go_enter func34,ntmps34;go_wp2_with fail;go_loopw [17] (λkv wr=>∃k:Nat,kv=.int .i64 k/\k<=N/\Hid (∀j (hj:j<c.pe.length),j<k->mY c.t s.l now c.pe[j]=false)/\Hid (Ux SH w wr B b c a ca (.slice s0 N cap) B' q F s w.heap.size)) (λkv _=>N-(intOf kv).toNat)
 case atStart=>exact⟨0,rfl,Nat.zero_le _,aj (λj _ hj=>absurd hj (Nat.not_lt_zero j)),N0⟩
 case round =>
  clear N0 Xo hbl;obtain⟨k,rfl,hk,HL,NW⟩:=hrel;by_cases hlt:k<N
  ·have hkl:k<c.pe.length:=by rw[ah HN];exact hlt
   obtain⟨g,cap',e0,_,_,_,hgl⟩:=(fK.tri (ah NW).cm.row).there (by omega);obtain⟨rfl,hNN,rfl⟩:=Value.slice.inj e0;clear e0 hNN;obtain⟨_,c0,c1,c2⟩:=bV.at (fK.tri (ah NW).cm.row) hkl;obtain⟨x,hx⟩:∃x,c.pe[k]=x:=⟨_,rfl⟩;have HX:=aj hx;have ZR:Hid (∀z:mY c.t s.l now x=false,∀j (hj:j<c.pe.length),j<k+1->mY c.t s.l now c.pe[j]=false):=aj (λz j hj hjk=>by
    rcases Nat.lt_succ_iff_lt_or_eq.1 hjk with y|y
    ·exact ah HL j hj y
    ·subst y;rw[ah HX];exact z)
   have hxn:=ah HNB x (by rw[<-hx];exact List.getElem_mem _);rw[hx] at c0 c1 c2;clear hx;have bA:Below wr.heap.size wr (wr.alloc (L6 x)):=(Below.refl _ _).alloc (Nat.le_refl _) _;have N1:=aj ((ah NW).next H bA);obtain⟨n0,n1,n2⟩:=Qi wr x 78;have hpb:wr.heap.size<(wr.alloc (L6 x)).heap.size:=by simp
   have PB1:=aj (CB.new wr [.int .i64 x.q,.int .i64 x.n,.int .i64 x.d] 78);clear bA;by_cases hd:now<x.d
   ·have g1:decide (now<x.d)=true:=decide_eq_true hd;have HM:Hid (mY c.t s.l now x=false):=aj (by unfold mY;rw[decide_eq_false (by omega),Bool.false_and]);go_wp2_with fail;refine⟨⟨k+1,by go_num,by omega,aj (ah ZR (ah HM)),N1⟩,?_⟩;simp[intOf];omega
   ·have g1:decide (now<x.d)=false:=decide_eq_false hd;have PS:=aj (EW (ah N1).cm x);have Yo:Hid (mY c.t s.l now x=((rY s.l x.q).isSome&&!kZ c.t x)):=aj (by unfold mY;rw[decide_eq_true (by omega),Bool.true_and])
    cases hsp:kZ c.t x with
    | true =>
     have HM:Hid (mY c.t s.l now x=false):=aj (by rw[ah Yo,hsp];simp);rw[hsp] at PS;clear hsp;go_wp2_with fail;refine(ah PS).mono ?_;rintro e w2 ⟨rfl,b2⟩;have N2:=aj ((ah N1).next H b2);clear b2 PS;go_wp2_with fail;refine⟨⟨k+1,by go_num,by omega,aj (ah ZR (ah HM)),N2⟩,?_⟩;simp[intOf];omega
    | false =>
     rw[hsp] at PS;rw[hsp,Bool.not_false,Bool.and_true] at Yo;clear hsp;go_wp2_with fail;refine(ah PS).mono ?_;rintro e w2 ⟨rfl,b2⟩;have N2:=aj ((ah N1).next H b2);have m0:=(b2.cell (p:=⟨wr.heap.size,0,none⟩) hpb).trans n0;have m1:=(b2.cell (p:=⟨wr.heap.size,1,none⟩) hpb).trans n1;have m2:=(b2.cell (p:=⟨wr.heap.size,2,none⟩) hpb).trans n2;have Ib:=Nat.lt_of_lt_of_le hpb b2.size;have PB2:Hid (CB w2 wr.heap.size [.int .i64 x.q,.int .i64 x.n,.int .i64 x.d]):=aj ((ah PB1).next b2);have PG:=aj (T.gets x.q (ah N2).st (ah HK) (Nat.le_trans hB (ah N2).bel.size));rw[vV] at PG
     obtain⟨o,ho⟩:∃o,rY s.l x.q=o:=⟨_,rfl⟩;rw[ho] at PG Yo;have HO:=aj ho;have B2h:=aj b2;clear b2 PS ho n0 n1 n2 c0 c1 c2;go_wp2_with fail;refine(ah PG).mono ?_;rintro e w3 ⟨rfl,b3⟩;have b4:Below w3.heap.size w3 (w3.alloc (NK (oR o))):=(Below.refl _ _).alloc (Nat.le_refl _) _;have N4:=aj (((ah N2).next H b3).next H b4);have q0:=(b4.cell (p:=⟨wr.heap.size,0,none⟩) (Nat.lt_of_lt_of_le Ib b3.size)).trans ((b3.cell (p:=⟨wr.heap.size,0,none⟩) Ib).trans m0);have q1:=(b4.cell (p:=⟨wr.heap.size,1,none⟩) (Nat.lt_of_lt_of_le Ib b3.size)).trans ((b3.cell (p:=⟨wr.heap.size,1,none⟩) Ib).trans m1)
     have q2:=(b4.cell (p:=⟨wr.heap.size,2,none⟩) (Nat.lt_of_lt_of_le Ib b3.size)).trans ((b3.cell (p:=⟨wr.heap.size,2,none⟩) Ib).trans m2);have WE:=aj ((ah PB2).next b3);have N3:=aj ((ah N2).next H b3);have aau:wr.heap.size<w3.heap.size:=Nat.lt_of_lt_of_le Ib b3.size
     cases o with
     | none =>
      have HM:Hid (mY c.t s.l now x=false):=aj (by rw[ah Yo];rfl);rw[show oE none=4 from rfl];clear b3 b4 PG m0 m1 m2;go_wp2_with fail;refine⟨⟨k+1,by go_num,by omega,aj (ah ZR (ah HM)),N4⟩,?_⟩;simp[intOf];omega
     | some m =>
      rw[show oE (some m)=0 from rfl,show oR (some m)=m from rfl];rw[show oR (some m)=m from rfl] at q0 q1 q2;have HMY:Hid (mY c.t s.l now x=true):=aj (by rw[ah Yo];rfl);obtain⟨D,hD⟩:∃D,now+Tk.dV c.t (x.n+1)=D:=⟨_,rfl⟩;have ZT:Hid (iD c.t s.l now c.pe=(E5 now (c.pe.set k ⟨x.q,x.n+1,D⟩) k,some (m,x.n+1))):=aj (by
       have ha:∀p∈c.pe.take k,mY c.t s.l now p=false:=λp hp=>by
        obtain⟨j,hj,rfl⟩:=List.mem_iff_getElem.1 hp;rw[List.length_take] at hj;rw[List.getElem_take];exact ah HL j (by omega) (by omega)
       obtain⟨m',hm',hsp⟩:=Pj ha (p:=x) (ah HMY) (c.pe.drop (k+1));rw[ah HO] at hm'
       cases hm'
       have e:c.pe=c.pe.take k++x::c.pe.drop (k+1):=by rw[<-ah HX];exact MN hkl
       rw[Yn hkl,<-hD];conv=>lhs;rw[e]
       exact hsp)
      have BW3:Hid (Below wr.heap.size wr w3):=aj ((((Below.refl wr.heap.size wr).alloc (Nat.le_refl _) (L6 x)).trans ((ah B2h).mono (by simp))).trans (b3.mono (by have:=(ah B2h).size;simp at this;omega)));have fp1:=(ah WE).fr 1;have hbw:=(ah NW).cm.tb.lt;have hwn:IntKind.i64.wrap (x.n+1)=x.n+1:=by rw[IntKind.wrap_i64];omega
      -- the copy's count is one more
      obtain⟨W4,Xp⟩:∃W4,W4=w3.setCell ⟨wr.heap.size,1,none⟩ (.int .i64 (x.n+1)):=⟨_,rfl⟩;have hs4:W4.heap.size=w3.heap.size:=by rw[Xp];simp[World.setCell]
      obtain⟨W5,Zc⟩:∃W5,W5=W4.alloc (NK m):=⟨_,rfl⟩;have b5:Below W4.heap.size W4 W5:=by rw[Zc];exact(Below.refl _ _).alloc (Nat.le_refl _) _
      have K5:Hid (Cm W5 B b c a ca (.slice (some ⟨g,0,none⟩) N cap)):=aj (Cm.next (by rw[Xp];exact(ah NW).cm.aside (ah N3).cm) b5);have C5:Hid (aF (jC b (.slice (some ⟨g,0,none⟩) N cap)) wr W5):=aj (aF.trans (by rw[Xp];exact(aF.of_below (ah BW3)).setCell (.inr (Nat.le_refl _)) _) (aF.of_below b5));have P4:Hid (CB W4 wr.heap.size [.int .i64 x.q,.int .i64 (x.n+1),.int .i64 x.d]):=aj (by
       rw[Xp];refine⟨by have:=(ah WE).lt;simpa[World.setCell] using this,λj u hj=>?_,λj=>by rw[World.frozen?_setCell];exact(ah WE).fr j⟩;match j,hj with
       | 0,hj=>cases hj;rw[World.cell?_setCell_other _ _ _ _ (by simp)];exact(ah WE).cell 0 _ rfl
       | 1,hj=>cases hj;exact World.cell?_setCell_same _ _ _ ((ah WE).cell 1 _ rfl)
       | 2,hj=>cases hj;rw[World.cell?_setCell_other _ _ _ _ (by simp)];exact(ah WE).cell 2 _ rfl)
      have P5:=aj ((ah P4).next b5);have R5:Hid (CB W5 w3.heap.size (yB m)):=aj (by
       have:=CB.new W4 (yB m) 45;rw[hs4] at this;rw[Zc];exact this)
      have PD:=aj (tZ (ah K5) (ah HW) JG (x.n+1) now ht);rw[hD] at PD;have v0:=(ah P5).cell 0 _ rfl;have v1:=(ah P5).cell 1 _ rfl;have v2:=(ah P5).cell 2 _ rfl;have vf:=(ah P5).fr 2;have hv5:=(ah P5).lt;clear m0 m1 m2 b3 b4 PG hD WE N4 N3 P4 b5 hs4;go_upto_region 8 with fail
      rw[<-Xp,<-Zc];clear Xp Zc q0 q1 q2 fp1;go_upto_region 9 with (go_at_call 39;refine(ah PD).mono ?_;rintro e w6 ⟨rfl,b6⟩;have u0:=(b6.cell (p:=⟨wr.heap.size,0,none⟩) hv5).trans v0;have u1:=(b6.cell (p:=⟨wr.heap.size,1,none⟩) hv5).trans v1;have u2:=(b6.cell (p:=⟨wr.heap.size,2,none⟩) hv5).trans v2;have uf:=(b6.frozen (p:=⟨wr.heap.size,2,none⟩) hv5).trans vf)
      obtain⟨W7,Xq⟩:∃W7,W7=w6.setCell ⟨wr.heap.size,2,none⟩ (.int .i64 D):=⟨_,rfl⟩;have K7:Hid (Cm W7 B b c a ca (.slice (some ⟨g,0,none⟩) N cap)):=aj (by rw[Xq];exact(ah NW).cm.aside ((ah K5).next b6));have C7:Hid (aF (jC b (.slice (some ⟨g,0,none⟩) N cap)) wr W7):=aj (by rw[Xq];exact((ah C5).trans (aF.of_below b6)).setCell (.inr (Nat.le_refl _)) _);have P7:Hid (CB W7 wr.heap.size [.int .i64 x.q,.int .i64 (x.n+1),.int .i64 D]):=aj (by
       rw[Xq];have P6:=(ah P5).next b6;refine⟨by have:=P6.lt;simpa[World.setCell] using this,λj u hj=>?_,λj=>by rw[World.frozen?_setCell];exact P6.fr j⟩;match j,hj with
       | 0,hj=>cases hj;rw[World.cell?_setCell_other _ _ _ _ (by simp)];exact P6.cell 0 _ rfl
       | 1,hj=>cases hj;rw[World.cell?_setCell_other _ _ _ _ (by simp)];exact P6.cell 1 _ rfl
       | 2,hj=>cases hj;exact World.cell?_setCell_same _ _ _ (P6.cell 2 _ rfl))
      have R7:Hid (CB W7 w3.heap.size (yB m)):=aj (by rw[Xq];exact((ah R5).next b6).bW (aF.setCell (A:=λk=>k=wr.heap.size) (p:=⟨wr.heap.size,2,none⟩) (aF.refl _ _) (.inl rfl) _) (by omega));rw[<-Xq];clear Xq u0 u1 u2 uf v0 v1 v2 vf hv5 b6 PD K5 C5 P5 R5;have u0:=(ah P7).cell 0 _ rfl;have u1:=(ah P7).cell 1 _ rfl;have u2:=(ah P7).cell 2 _ rfl;have ZU:=(ah P7).lt;have d11:=(ah K7).pe;have ZV:=(ah K7).tb.lt;have et:=bV.at (fK.tri (ah K7).row) hkl;have ef:=(bH.free (fK.tri (ah K7).row)).1;have t0:=et.c0;have t1:=et.c1;have t2:=et.c2;have e0:=ef (k*3)
      have e1:=ef (k*3+1);have e2:=ef (k*3+2);have ZW:=et.lt;have hgp:g≠wr.heap.size:=by omega
      clear et ef;obtain⟨W8,Zd⟩:∃W8,W8=(W7.setCells g (k*3) [.int .i64 x.q,.int .i64 (x.n+1),.int .i64 D]).drew:=⟨_,rfl⟩;have c8:aF (λj=>j=g) W7 W8:=by rw[Zd];exact(yC _ _ _).trans (aF.of_below (Below.refl _ _).drew)
      have K8:Hid (Cm W8 B b ⟨c.t,c.pl,c.pe.set k ⟨x.q,x.n+1,D⟩,c.cn⟩ a ca (.slice (some ⟨g,0,none⟩) N cap)):=aj (Cm.ZQ (ah K7) (c8.mono (λj _ q=>by rw[q];rfl)) (by
       rw[Zd];have ha:=fK.tri (ah K7).row;rw[<-ah HN] at ha ⊢;exact((ha.set hkl ⟨x.q,x.n+1,D⟩).below (Below.refl _ _).drew).Ue))
      have C8:Hid (aF (jC b (.slice (some ⟨g,0,none⟩) N cap)) wr W8):=aj ((ah C7).trans (c8.mono (λj _ q=>.inr (by rw[q];rfl))));have hgr:¬(w3.heap.size=g):=by omega
      have R8:Hid (CB W8 w3.heap.size (yB m)):=aj ((ah R7).bW c8 hgr);have P8:Hid (CB W8 wr.heap.size [.int .i64 x.q,.int .i64 (x.n+1),.int .i64 D]):=aj ((ah P7).bW c8 (λq=>hgp q.symm));have PF:=aj (pK (ah K8) (by rw[List.length_set,ah HN];omega) k (by rw[List.length_set];omega) now);have Yp:W8=(((W7.setCell ⟨g,k*3,none⟩ (.int .i64 x.q)).setCell ⟨g,k*3+1,none⟩ (.int .i64 (x.n+1))).setCell ⟨g,k*3+2,none⟩ (.int .i64 D)).drew:=Zd;clear Zd K7 C7 P7 R7 c8;go_region
      rw[<-Yp];clear Yp u0 u1 u2 t0 t1 t2 e0 e1 e2 ZU d11 ZV ZW;go_upto_region 11 with (go_at_call 62;refine(ah PF).mono ?_;rintro e w9 ⟨rfl,hu⟩)
      obtain⟨v9,k9,Ze,g9⟩:=hu;have C9:Hid (aF (jC b (.slice (some ⟨g,0,none⟩) N cap)) wr w9):=aj ((ah C8).trans Ze);have G9:Hid (∀j,v9.ownBlock=some j->(Value.slice (some ⟨g,0,none⟩) N cap).ownBlock=some j\/wr.heap.size<=j):=aj (λj hj=>by
       rcases g9 j hj with y|y
       ·exact .inl y
       ·exact .inr (Nat.le_trans (ah C8).size y))
      have ZX:∀i,wr.heap.size<=i->¬jC b (.slice (some ⟨g,0,none⟩) N cap) i:=λi hi q=>by
       rcases q with q|q
       ·omega
       ·have:=((ah NW).cm.row.lt i q).2;omega
      have r9:=(ah R8).bW Ze (ZX _ (by omega));have p9:=(ah P8).bW Ze (ZX _ (Nat.le_refl _));have r0:=r9.cell 0 _ rfl;have r1:=r9.cell 1 _ rfl;have r2:=r9.cell 2 _ rfl;have r3:=r9.cell 3 _ rfl;have r4:=r9.cell 4 _ rfl;have r5:=r9.cell 5 _ rfl;have p1:=p9.cell 1 _ rfl;have hs9:=H.bW (ah NW).st (ah C9) (λi hi=>ah HF i hi);have hF9:∀i,F i->¬jC b v9 i:=λi hi q=>by
       rcases q with q|q
       ·exact ah HF i hi (.inl q)
       ·rcases ah G9 i q with y|y
        ·exact ah HF i hi (.inr y)
        ·have:=(H.own (ah NW).st i hi).2;omega
      have PV:=aj (uX H k9 hs9 (ah HK) (Nat.le_trans hB (Nat.le_trans (ah NW).bel.size (ah C9).size)) hF9 hf hz hcn m (x.n+1));have Rw:Hid (∀w2,aQ w9 w2 B b a ca v9 ⟨c.t,c.pl,E5 now (c.pe.set k ⟨x.q,x.n+1,D⟩) k,c.cn+1⟩->CB w2 w.heap.size (vw fB)/\∀us:List Value,us.length=6->aQ w (w2.setCells w.heap.size 0 us) B b a ca (.slice (some ⟨g,0,none⟩) N cap) ⟨c.t,c.pl,E5 now (c.pe.set k ⟨x.q,x.n+1,D⟩) k,c.cn+1⟩/\CB (w2.setCells w.heap.size 0 us) w.heap.size us):=aj (λw2 hu=>aQ.out (ah H0) (ah NW).bel (Nat.le_refl _) (ah NW).cb (aQ.trans (ah C9) (ah G9) hu))
      obtain⟨L,hL⟩:∃L:Int,(bP c.t.f s.l c.pl:Int)=L:=⟨_,rfl⟩;rw[show(bP (⟨c.t,c.pl,E5 now (c.pe.set k ⟨x.q,x.n+1,D⟩) k,c.cn⟩:dM).t.f s.l (⟨c.t,c.pl,E5 now (c.pe.set k ⟨x.q,x.n+1,D⟩) k,c.cn⟩:dM).pl:Int)=L from hL] at PV;have HLL:=aj hL;have aav:=p9.lt;have aaw:=r9.lt;clear k9 Ze g9 r9 p9 hs9 hF9 hL K8 C8 R8 P8 PF ZX;go_wp2_with (go_at_call 63;refine(ah PV).mono ?_;rintro e w2' ⟨rfl,hu⟩;have hz2:=(ah Rw _ hu).1;have z0:=hz2.cell 0 _ rfl;have z1:=hz2.cell 1 _ rfl;have z2:=hz2.cell 2 _ rfl;have z3:=hz2.cell 3 _ rfl;have z4:=hz2.cell 4 _ rfl;have z5:=hz2.cell 5 _ rfl;have q0:=hz2.fr 0;have q1:=hz2.fr 1;have q2:=hz2.fr 2;have q3:=hz2.fr 3;have q4:=hz2.fr 4;have q5:=hz2.fr 5)
      have Yq:=aj ((ah Rw _ hu).2 (vw ⟨m.q,m.s,m.d,c.cn+1,x.n+1,L⟩) rfl);refine bodyPost_ret (eF (x:=⟨m.q,m.s,m.d,c.cn+1,x.n+1,L⟩) rfl rfl (ah Yq).2) rfl ?_;unfold oz;rw[ah ZT];refine⟨?_,(ah Yq).1⟩;unfold xX;rw[ah HLL];rfl
  ·obtain rfl:k=N:=by omega
   have ZT:Hid (iD c.t s.l now c.pe=(E5 now c.pe k,none)):=aj (by
    have hkk:=ah HN;rw[<-hkk,Uy];exact TL (λp hp=>by
     obtain⟨j,hj,rfl⟩:=List.mem_iff_getElem.1 hp;exact ah HL j hj (by omega)))
   have PF:=aj (pK (ah NW).cm (by rw[ah HN];omega) k (by rw[ah HN];exact Nat.le_refl _) now);have d11:=(ah NW).cm.pe;have hbl:=(ah NW).cm.tb.lt;have Rw:Hid (∀w2,aQ wr w2 B b a ca (.slice s0 k cap) ⟨c.t,c.pl,E5 now c.pe k,c.cn⟩->CB w2 w.heap.size (vw fB)/\∀us:List Value,us.length=6->aQ w (w2.setCells w.heap.size 0 us) B b a ca (.slice s0 k cap) ⟨c.t,c.pl,E5 now c.pe k,c.cn⟩/\CB (w2.setCells w.heap.size 0 us) w.heap.size us):=aj (λw2 hu=>aQ.out (ah H0) (ah NW).bel (Nat.le_refl _) (ah NW).cb hu);clear NW HL hlt;go_wp2_with (go_at_call 62;refine(ah PF).mono ?_;rintro e w2 ⟨rfl,hu⟩;have hz2:=(ah Rw _ hu).1;have z0:=hz2.cell 0 _ rfl;have z1:=hz2.cell 1 _ rfl;have z2:=hz2.cell 2 _ rfl;have z3:=hz2.cell 3 _ rfl;have z4:=hz2.cell 4 _ rfl;have z5:=hz2.cell 5 _ rfl;have q0:=hz2.fr 0;have q1:=hz2.fr 1;have q2:=hz2.fr 2;have q3:=hz2.fr 3;have q4:=hz2.fr 4;have q5:=hz2.fr 5)
   have Yq:=aj ((ah Rw _ hu).2 (vw fB) rfl);refine bodyPost_ret (eF (x:=fB) rfl rfl (ah Yq).2) rfl ?_;unfold oz;rw[ah ZT];exact⟨rfl,(ah Yq).1⟩
end
section
variable {SH:World->Nat->Nat->(Nat->Prop)->aX->Prop}
variable {w:World}{B b:Nat}{c:dM}{a:Option Addr}{ca:Nat}{v:Value}{B' q:Nat}{F:Nat->Prop}{s:aX}
theorem aQ.next {w1 w2:World}{c':dM}(h:aQ w w1 B b a ca v c')(hb:Below w1.heap.size w1 w2):aQ w w2 B b a ca v c':=by
 obtain⟨v1,k1,c1,g1⟩:=h;exact aQ.trans c1 g1 (aQ.same k1 hb)
abbrev Yr (x:U9):Obj:=.cells #[.int .i64 x.q,.string x.s,.string x.d,.int .i64 x.c,.int .i64 x.n,.int .i64 x.l] 37
theorem MO (H:dX SH)(T:Jy SH)(h:Cm w B b c a ca v)(hs:SH w B' q F s)(hk:s.Ok)(hB:B'<=w.heap.size)(hBc:B<=w.heap.size)(hF:∀k,F k->¬jC b v k)(hw:iY c.t)(JG:c.t.bo.length<=140737488355328)(hf:aB true c.t.f=0)(hz:c.t.f.size<=140737488355328)(hcn:0<=c.cn/\c.cn<=1000000000000)(hl:c.pe.length<=100000)(hnb:∀p∈c.pe,0<=p.n/\p.n<=1000000000000)(now:Int) :
 Calls prog 9 #[.pointer (some ⟨b,0,none⟩),.pointer (some ⟨q,0,none⟩),.int .i64 now] w λe w'=>e=.returned (.tuple #[Rj (xX (gq c s.l now).1 s.l (gq c s.l now).2.1),.int .i64 (gq c s.l now).2.2])/\aQ w w' B b a ca v (gq c s.l now).1:=by
 have b0:Below w.heap.size w (w.alloc Ru):=(Below.refl _ _).alloc (Nat.le_refl _) _;have cb0:=CB.new w (vw fB) 37;obtain⟨W0,hW0⟩:∃W0,W0=w.alloc Ru:=⟨_,rfl⟩;rw[show w.alloc (.cells (vw fB).toArray 37)=W0 from hW0.symm] at cb0;rw[<-hW0] at b0;have z0:=cb0.cell 0 _ rfl;have z1:=cb0.cell 1 _ rfl;have z2:=cb0.cell 2 _ rfl;have z3:=cb0.cell 3 _ rfl;have z4:=cb0.cell 4 _ rfl;have z5:=cb0.cell 5 _ rfl;have g0:=cb0.fr 0;have g1:=cb0.fr 1;have g2:=cb0.fr 2;have g3:=cb0.fr 3;have g4:=cb0.fr 4;have g5:=cb0.fr 5;have HT:=aj (xY now W0);have h0:=h.next b0;have hs0:=H.bW (A:=λ_=>False) hs (aF.of_below b0) (λ_ _ z=>z)
 cases ht:kN now with
 | false =>
  have HE:Hid (gq c s.l now=(c,none,1)):=aj (by unfold gq;rw[if_pos ht]);have HX:=aj ((aQ.out h b0 (Nat.le_refl _) cb0 (aQ.same h0 (Below.refl _ _))).2 (vw fB) rfl);rw[ah HE];rw[ht] at HT;clear h h0 hs hs0 hk hF hw hnb cb0 b0 ht;go_enter func9,ntmps9;go_upto_region 1 with fail
  rw[<-hW0];clear hW0;go_wp2_with fail;refine(ah HT).mono ?_;rintro e w1 ⟨rfl,hw⟩;rw[hw];clear hw;go_wp2_with fail;exact bodyPost_ret (eF (x:=fB) rfl rfl (ah HX).2) rfl ⟨rfl,(ah HX).1⟩
 | true =>
  rw[ht] at HT;have htt:=tY.1 ht;have PA:=aj (um H T h0 hs0 hk (Nat.le_trans hB b0.size) hF hw JG hf hz hcn hl hnb now htt);have Rw:Hid (∀w2 c2,aQ W0 w2 B b a ca v c2->CB w2 w.heap.size (vw fB)/\∀us:List Value,us.length=6->aQ w (w2.setCells w.heap.size 0 us) B b a ca v c2/\CB (w2.setCells w.heap.size 0 us) w.heap.size us):=aj (λw2 c2 hu=>aQ.out h b0 (Nat.le_refl _) cb0 hu)
  cases hag:(iD c.t s.l now c.pe).2 with
  | some mn =>
   obtain⟨m,n⟩:=mn;have HE:=aj (GZ ht hag);have hac:oz c s.l now=⟨c.t,c.pl,(iD c.t s.l now c.pe).1,c.cn+1⟩:=by unfold oz;rw[hag]
   rw[hag,hac] at PA;rw[ah HE];obtain⟨X,hX⟩:∃X,xX ⟨c.t,c.pl,(iD c.t s.l now c.pe).1,c.cn+1⟩ s.l (some (m,n))=X:=⟨_,rfl⟩;rw[hX] at PA;show Calls _ _ _ _ λe w'=>e=.returned (.tuple #[Rj (xX ⟨c.t,c.pl,(iD c.t s.l now c.pe).1,c.cn+1⟩ s.l (some (m,n))),.int .i64 0])/\_
   rw[hX];clear h h0 hs hs0 hk hF hw hnb cb0 b0 ht hag hac hX z0 z1 z2 z3 z4 z5 g0 g1 g2 g3 g4 g5;go_enter func9,ntmps9;go_upto_region 1 with fail
   rw[<-hW0];clear hW0;go_wp2_with fail;refine(ah HT).mono ?_;rintro e w1 ⟨rfl,hw⟩;rw[hw];clear hw;go_wp2_with fail;refine(ah PA).mono ?_;rintro e w2 ⟨rfl,hu⟩;obtain⟨cb3,hb3⟩:=ah Rw _ _ hu;have z0:=cb3.cell 0 _ rfl;have z1:=cb3.cell 1 _ rfl;have z2:=cb3.cell 2 _ rfl;have z3:=cb3.cell 3 _ rfl;have z4:=cb3.cell 4 _ rfl;have z5:=cb3.cell 5 _ rfl;have g0:=cb3.fr 0;have g1:=cb3.fr 1;have g2:=cb3.fr 2;have g3:=cb3.fr 3;have g4:=cb3.fr 4;have g5:=cb3.fr 5;have HX:=aj (hb3 (vw X) rfl);have hlw:w.heap.size<w2.heap.size:=cb3.lt;clear hu cb3 hb3 Rw PA HT;go_wp2_with fail;exact bodyPost_ret (eF (x:=X) rfl rfl ((ah HX).2.next ((Below.refl _ _).alloc (Nat.le_refl _) (Yr X)))) rfl ⟨rfl,(ah HX).1.next ((Below.refl _ _).alloc (Nat.le_refl _) (Yr X))⟩
  | none =>
   have HE:=aj (Pz ht hag);have hac:oz c s.l now=⟨c.t,c.pl,(iD c.t s.l now c.pe).1,c.cn⟩:=by unfold oz;rw[hag]
   rw[hag,hac] at PA;rw[show xX ⟨c.t,c.pl,(iD c.t s.l now c.pe).1,c.cn⟩ s.l none=fB from rfl,show(none:Option (Rc×Int)).isSome=false from rfl] at PA;rw[ah HE];have hll:=tX (t:=c.t) (l:=s.l) (now:=now) c.pe;obtain⟨pe1,yT⟩:∃pe1,(iD c.t s.l now c.pe).1=pe1:=⟨_,rfl⟩;rw[yT] at PA hll;rw[yT];have HF2:∀k,F k->k<w.heap.size:=λk hq=>(H.own hs k hq).2
   have PN:Hid (∀w2,aQ W0 w2 B b a ca v ⟨c.t,c.pl,pe1,c.cn⟩->Calls prog 35 #[.pointer (some ⟨b,0,none⟩),.pointer (some ⟨q,0,none⟩),.int .i64 now] (w2.alloc (Yr fB)) λe w'=>e=.returned (.tuple #[Rj (xX (newC ⟨c.t,c.pl,pe1,c.cn⟩ s.l now).1 s.l (newC ⟨c.t,c.pl,pe1,c.cn⟩ s.l now).2.1),.int .i64 (newC ⟨c.t,c.pl,pe1,c.cn⟩ s.l now).2.2])/\aQ W0 w' B b a ca v (newC ⟨c.t,c.pl,pe1,c.cn⟩ s.l now).1):=aj (λw2 hu=>by
    have bA:Below w2.heap.size w2 (w2.alloc (Yr fB)):=(Below.refl _ _).alloc (Nat.le_refl _) _;obtain⟨v1,k1,c1,g1⟩:=aQ.next hu bA;have hs1:SH (w2.alloc (Yr fB)) B' q F s:=H.bW hs0 c1 (λk hk=>hF k hk);refine(yG H (k1) hs1 hk (Nat.le_trans hB (Nat.le_trans b0.size c1.size)) (Nat.le_trans hBc (Nat.le_trans b0.size c1.size)) (λk hq z=>?_) (λk hq=>by have:=HF2 k hq;have:=b0.size;have:=c1.size;omega) hw JG hf hz hcn (Nat.le_trans hll hl) now htt).mono ?_
    ·rcases z with z|z
     ·exact hF k hq (.inl z)
     ·rcases g1 k z with y|y
      ·exact hF k hq (.inr y)
      ·have:=HF2 k hq;have:=b0.size;omega
    ·rintro e w' ⟨e1,e2⟩;exact⟨e1,aQ.trans c1 g1 e2⟩)
   obtain⟨R,hR⟩:∃R,newC ⟨c.t,c.pl,pe1,c.cn⟩ s.l now=R:=⟨_,rfl⟩;rw[hR] at PN;rw[hR];obtain⟨X,hX⟩:∃X,xX R.1 s.l R.2.1=X:=⟨_,rfl⟩;rw[hX] at PN;rw[hX];clear h h0 hs hs0 hk hF hw hnb cb0 b0 ht hag hac hX hR yT hll HF2 HE z0 z1 z2 z3 z4 z5 g0 g1 g2 g3 g4 g5;go_enter func9,ntmps9;go_upto_region 1 with fail
   rw[<-hW0];clear hW0;go_wp2_with fail;refine(ah HT).mono ?_;rintro e w1 ⟨rfl,hw⟩;rw[hw];clear hw;go_wp2_with fail;refine(ah PA).mono ?_;rintro e w2 ⟨rfl,hu⟩;have PN2:=aj (ah PN _ hu);clear hu PN PA HT;go_wp2_with fail;refine(ah PN2).mono ?_;rintro e w3 ⟨rfl,hu⟩;obtain⟨cb3,hb3⟩:=ah Rw _ _ hu;have z0:=cb3.cell 0 _ rfl;have z1:=cb3.cell 1 _ rfl;have z2:=cb3.cell 2 _ rfl;have z3:=cb3.cell 3 _ rfl;have z4:=cb3.cell 4 _ rfl;have z5:=cb3.cell 5 _ rfl;have g0:=cb3.fr 0;have g1:=cb3.fr 1;have g2:=cb3.fr 2;have g3:=cb3.fr 3;have g4:=cb3.fr 4;have g5:=cb3.fr 5;have HX:=aj (hb3 (vw X) rfl)
   clear hu cb3 hb3 Rw PN2;go_wp2_with fail;exact bodyPost_ret (eF (x:=X) rfl rfl (ah HX).2) rfl ⟨rfl,(ah HX).1⟩
end
