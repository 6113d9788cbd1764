/- A part. -/
import Derived.Test.YtmhbobnfmncdbaaGreatDoorQ9
import Derived.Test.YtmhbobnfmncdbaaGreatDoorQ14
set_option maxRecDepth 100000
set_option maxHeartbeats 8000000
namespace Go.Proofs.YtmhbobnfmncdbaaGreatDoor
open Go.RowKit Go.Proofs.Tryz
namespace Dk
structure QU (SH:World->Nat->Nat->(Nat->Prop)->bD->Prop)(w wx:World)(B b:Nat)(c:bJ)(a:Option Addr)(ca:Nat)(v:Value)(B' q:Nat)(F:Nat->Prop)(s:bD)(bx:Nat):Prop where
 cm:Cm wx B b c a ca v
 st:SH wx B' q F s
 cb:CB wx bx (oz dX)
 bel:Below w.heap.size w wx
 new:w.heap.size<=bx
section
variable {SH:World->Nat->Nat->(Nat->Prop)->bD->Prop}
variable {w wx wy:World}{B b:Nat}{c:bJ}{a:Option Addr}{ca:Nat}{v:Value}{B' q:Nat}{F:Nat->Prop}{s:bD}{bx:Nat}
theorem QU.next (H:aQ SH)(h:QU SH w wx B b c a ca v B' q F s bx)(hb:Below wx.heap.size wx wy):QU SH w wy B b c a ca v B' q F s bx :=
 ⟨h.cm.next hb,H.aT (A:=λ_=>False) h.st (aA.of_below hb) (λ_ _ z=>z),h.cb.next hb,h.bel.trans (hb.mono h.bel.size),h.new⟩
theorem QU.same (h:QU SH w wx B b c a ca v B' q F s bx)(h0:Cm w B b c a ca v)(us:List Value)(hl:us.length=6):aV w (wx.setCells bx 0 us) B b a ca v c/\CB (wx.setCells bx 0 us) bx us:=by
 have:=(aV.out (W0:=wx) (w2:=wx) h0 h.bel h.new h.cb (aV.same h.cm (Below.refl _ _))).2 us hl;exact this
theorem Cm.more (h:Cm w B b c a ca v)(hB:B<=w.heap.size)(hl:c.pe.length<=100000)(p:Dv) :
 ∃a' m' c' w8,(Builtin.append_ #[101,101] 101 #[v,.slice (some ⟨w.heap.size,0,none⟩) 1 1]).run prog (w.alloc (JA p))=.ok (.slice a' m' c') w8/\w8.cell? ⟨b,11,none⟩=some v/\w8.frozen? ⟨b,11,none⟩=false/\aA (λk=>v.ownBlock=some k) (w.alloc (JA p)) w8/\Hid (aV w (w8.setCell ⟨b,11,none⟩ (.slice a' m' c')) B b a ca v ⟨c.t,c.pl,c.pe++[p],c.cn⟩):=by
 have b4:Below w.heap.size w (w.alloc (JA p)):=(Below.refl _ _).alloc (Nat.le_refl _) _;have h4:=h.next b4;obtain⟨v8,w8,hr,A8,C8,L8⟩:=JB _ B 101 v c.pe p (eY.tri h4.row) ⟨w.heap.size,0,none⟩ 1 (PU w (vW p) 124) (by omega) (by have:=b4.size;omega);have HS:=aj (aV.trans (aA.of_below b4) (λ_ q=>.inl q) (aV.put h4 C8 (j:=11) (.inr (.inr ⟨rfl,rfl,rfl,rfl⟩)) A8.QL L8));obtain⟨a',c',rfl,_⟩:=A8.shape;refine⟨a',_,c',w8,hr,?_,?_,C8,HS⟩
 ·rw[C8.cell (p:=⟨b,11,none⟩) h4.tb.lt h4.ne1];exact h4.pe
 ·rw[C8.frozen (p:=⟨b,11,none⟩) h4.tb.lt h4.ne1];exact h4.fr 11
theorem wI (H:aQ SH)(h:Cm w B b c a ca v)(hs:SH w B' q F s)(hk:s.Ok)(hB:B'<=w.heap.size)(hBc:B<=w.heap.size)(hF:∀k,F k->¬iP b v k)(hF2:∀k,F k->k<w.heap.size)(hw:eU c.t)(oI:c.t.bo.length<=140737488355328)(hf:aB true c.t.f=0)(hz:c.t.f.size<=140737488355328)(hcn:0<=c.cn/\c.cn<=1000000000000)(hl:c.pe.length<=100000)(now:Int)(ht:0<=now/\now<=1099511627776) :
 Calls prog 58 #[.pointer (some ⟨b,0,none⟩),.pointer (some ⟨q,0,none⟩),.int .i64 now] w λe w'=>e=.returned (.tuple #[KC (ng (newC c s.l now).1 s.l (newC c s.l now).2.1),.int .i64 (newC c s.l now).2.2])/\aV w w' B b a ca v (newC c s.l now).1:=by
 have b0:Below w.heap.size w (w.alloc OM):=(Below.refl _ _).alloc (Nat.le_refl _) _;have N0:=aj (show QU SH w (w.alloc OM) B b c a ca v B' q F s w.heap.size from⟨h.next b0,H.aT (A:=λ_=>False) hs (aA.of_below b0) (λ_ _ z=>z),CB.new w (oz dX) 47,b0,Nat.le_refl _⟩);obtain⟨s0,cap,rfl,hcap,hcm,_⟩:=h.row.shape;have H0:=aj h;have y8:=(ah N0).cm.tb.c8;have VN:=(ah N0).cm.pe;have hbl:=(ah N0).cm.tb.lt;obtain⟨N,hN⟩:∃N,c.pe.length=N:=⟨_,rfl⟩;obtain⟨M,hM⟩:∃M,c.t.pe=M:=⟨_,rfl⟩;have Yh:Hid (sW c=((M !=0)&&decide (M<=(N:Int)))):=aj (by unfold sW;rw[hM,hN]);rw[hN] at VN
 rw[hM] at y8;have HB1:Hid (∀n,Below (w.alloc OM).heap.size (w.alloc OM) ((w.alloc OM).drewN n)):=aj (λn=>below_drewN (Below.refl _ _) n);go_enter func58,ntmps58;go_upto_region 1 with fail
 go_cut [28] (λu wx=>u=.bool (sW c)/\Hid (QU SH w wx B b c a ca (.slice s0 c.pe.length cap) B' q F s w.heap.size))
 case first =>
  clear h hs hk hf hz hw H0 hF hF2 hcm;by_cases h0:M=0
  ·have g0:(M !=0)=false:=by rw[h0];rfl
   have HV:Hid (sW c=false):=aj (by rw[ah Yh,g0,Bool.false_and]);clear hM hN h0;go_quiet (fail)
   go_wp2_with fail;go_meet
   exact⟨by rw[ah HV],aj ((ah N0).next H (ah HB1 _))⟩
  ·have g0:(M !=0)=true:=by simpa using h0
   have HV:Hid (sW c=decide (M<=(N:Int))):=aj (by rw[ah Yh,g0,Bool.true_and]);clear hM hN h0;go_quiet (fail)
   go_wp2_with fail;go_meet
   exact⟨by rw[ah HV],aj ((ah N0).next H (ah HB1 _))⟩
 case rest =>
  obtain⟨rfl,NC⟩:=hcut;obtain⟨wa,hwa⟩:∃wa,wa=wc:=⟨_,rfl⟩;subst hwa;have z0:=(ah NC).cb.cell 0 _ rfl;have z1:=(ah NC).cb.cell 1 _ rfl;have z2:=(ah NC).cb.cell 2 _ rfl;have z3:=(ah NC).cb.cell 3 _ rfl;have z4:=(ah NC).cb.cell 4 _ rfl;have z5:=(ah NC).cb.cell 5 _ rfl;have g0:=(ah NC).cb.fr 0;have g1:=(ah NC).cb.fr 1;have g2:=(ah NC).cb.fr 2;have g3:=(ah NC).cb.fr 3;have g4:=(ah NC).cb.fr 4;have g5:=(ah NC).cb.fr 5
  cases hfb:sW c with
  | true =>
   have HE:Hid (newC c s.l now=(c,none,11)):=aj (by unfold newC;rw[if_pos hfb]);have HX:=aj ((ah NC).same (ah H0) (oz dX) rfl);clear h hs hk hf hz hw hF hF2 hcm hM hN hfb;go_wp2_with fail;refine bodyPost_ret (dP (x:=dX) rfl rfl (ah HX).2) rfl ?_;rw[ah HE];exact⟨rfl,(ah HX).1⟩
  | false =>
   have Nj:Hid (newC c s.l now=match aX c.t.f s.l c.pl with
    | none=>(c,none,4)
    | some m=>(⟨c.t,m.q+1,if c.t.ack=0 then c.pe else c.pe++[⟨m.q,1,now+Tk.aZ c.t 1⟩],c.cn+1⟩,some (m,1),0)):=aj (by unfold newC;rw[if_neg (by simp[hfb])];cases aX c.t.f s.l c.pl<;>rfl)
   have SL:Hid (∀W,(W=wa.drew\/∃o,W=(wa.alloc o).drew)->Calls prog 103 #[.pointer (some ⟨q,0,none⟩),.string c.t.f,.int .i64 c.pl] W λe w'=>e=.returned (.tuple #[.agg #[.int .i64 (oR (aX c.t.f s.l c.pl)).k,.int .i64 (oR (aX c.t.f s.l c.pl)).q,.int .i64 (oR (aX c.t.f s.l c.pl)).t,.string (oR (aX c.t.f s.l c.pl)).s,.string (oR (aX c.t.f s.l c.pl)).h,.string (oR (aX c.t.f s.l c.pl)).d],.int .i64 (oE (aX c.t.f s.l c.pl))])/\Below W.heap.size W w'):=aj (λW hW=>by
    have hb:Below wa.heap.size wa W:=by
     rcases hW with e|⟨o,e⟩
     ·rw[e];exact(Below.refl _ _).drew
     ·rw[e];exact((Below.refl _ _).alloc (Nat.le_refl _) _).drew
    have:=H.next c.t.f c.pl hz (H.aT (A:=λ_=>False) (ah NC).st (aA.of_below hb) (λ_ _ z=>z)) hk (Nat.le_trans hB (Nat.le_trans (ah NC).bel.size hb.size));unfold fP at this;rw[if_pos hf,qQ] at this;exact this)
   have k1:wa.cell? ⟨b,1,none⟩=some (.string c.t.f):=(ah NC).cm.tb.c1;have k10:wa.cell? ⟨b,10,none⟩=some (.int .i64 c.pl):=(ah NC).cm.pl;have aar:=(ah NC).cm.tb.lt;have HMQ:Hid (∀m,aX c.t.f s.l c.pl=some m->1<=m.q/\m.q<=1099511627776):=aj (λm hm=>hk.seq (iw hm).1);obtain⟨o,ho⟩:∃o,aX c.t.f s.l c.pl=o:=⟨_,rfl⟩;rw[ho] at SL Nj HMQ;obtain⟨f,Ho⟩:∃f,c.t.f=f:=⟨_,rfl⟩;obtain⟨pl,hpl⟩:∃pl,c.pl=pl:=⟨_,rfl⟩;rw[Ho,hpl] at SL;rw[Ho] at k1;rw[hpl] at k10;have HSt:=aj hs;have HFF:=aj Ho;have HPL:=aj hpl;have HHF:=aj hF;have HHK:=aj hk;clear hfb hM hN ho Ho hpl;go_upto_region 3 with fail
   go_cut [8,9] (λu v wx=>∃by',u=.pointer (some ⟨by',0,none⟩)/\v=.int .i64 (oE o)/\Hid (rW wa wx by' o))
   case first =>
    clear h hs hk hf hz hw hF hF2 hcm HSt z0 z1 z2 z3 z4 z5 g0 g1 g2 g3 g4 g5 NC Nj y8 VN Yh HB1 N0 H0;go_region_with (go_at_call 103;refine(ah SL _ (by first|(with_reducible exact .inl rfl)|(with_reducible exact .inr ⟨_,rfl⟩))).mono ?_;rintro e w1 ⟨rfl,b1⟩;first|(have hz1:CB w1 wa.heap.size (tX dB):=(by with_reducible exact NP b1);have z0:=hz1.cell 0 _ rfl;have z1:=hz1.cell 1 _ rfl;have z2:=hz1.cell 2 _ rfl;have z3:=hz1.cell 3 _ rfl;have z4:=hz1.cell 4 _ rfl;have z5:=hz1.cell 5 _ rfl;have f0:=hz1.fr 0;have f1:=hz1.fr 1;have f2:=hz1.fr 2;have f3:=hz1.fr 3;have f4:=hz1.fr 4;have f5:=hz1.fr 5)|skip)
    all_goals
     first
     | (
      have HL:=aj (Dw (o:=o) hz1 b1)
      clear z0 z1 z2 z3 z4 z5 f0 f1 f2 f3 f4 f5 hz1 b1
      go_wp2_with fail
      go_meet
      exact⟨_,rfl,rfl,HL⟩)
     | (
      have HL:=aj (Du (o:=o) b1)
      clear b1
      go_wp2_with fail
      go_meet
      exact⟨_,rfl,rfl,HL⟩)
   case rest =>
    obtain⟨by',rfl,rfl,HA⟩:=hcut;obtain⟨wb,hwb⟩:∃wb,wb=wc:=⟨_,rfl⟩;subst hwb;clear z0 z1 z2 z3 z4 z5 g0 g1 g2 g3 g4 g5 k1 k10 y8 VN SL N0 HB1 Yh;have NA:=aj ((ah NC).next H (ah HA).2.1)
    cases o with
    | none =>
     have HX:=aj ((ah NA).same (ah H0) (oz dX) rfl);have z0:=(ah NA).cb.cell 0 _ rfl;have z1:=(ah NA).cb.cell 1 _ rfl;have z2:=(ah NA).cb.cell 2 _ rfl;have z3:=(ah NA).cb.cell 3 _ rfl;have z4:=(ah NA).cb.cell 4 _ rfl;have z5:=(ah NA).cb.cell 5 _ rfl;have g0:=(ah NA).cb.fr 0;have g1:=(ah NA).cb.fr 1;have g2:=(ah NA).cb.fr 2;have g3:=(ah NA).cb.fr 3;have g4:=(ah NA).cb.fr 4;have g5:=(ah NA).cb.fr 5;rw[show oE none=4 from rfl];clear h hs hk hf hz hw hF hF2 hcm NC NA HA;go_wp2_with fail;refine bodyPost_ret (dP (x:=dX) rfl rfl (ah HX).2) rfl ?_
     rw[ah Nj];exact⟨rfl,(ah HX).1⟩
    | some m =>
     rw[show oE (some m)=0 from rfl];obtain⟨hm1,hm2⟩:=ah HMQ m rfl;have RM:=aj (show CB wb by' (tX m) from(ah HA).1);have Xf:=(ah RM).lt;have Xg:by'≠b:=by have:=(ah HA).2.2;omega
     obtain⟨pe1,wW⟩:∃pe1,(if c.t.ack=0 then c.pe else c.pe++[⟨m.q,1,now+Tk.aZ c.t 1⟩])=pe1:=⟨_,rfl⟩;have OL:Hid (newC c s.l now=(⟨c.t,m.q+1,pe1,c.cn+1⟩,some (m,1),0)):=aj (by rw[<-wW];exact ah Nj);clear Nj;have d4:=(ah NA).cm.tb.c4;have Xh:=(ah NA).cm.tb.lt;go_upto_if 53 with fail
     clear d4;go_cut [] (λwx=>Hid (aV wb wx B b a ca (.slice s0 c.pe.length cap) ⟨c.t,c.pl,pe1,c.cn⟩/\CB wx by' (tX m)))
     case first =>
      have d11:=(ah NA).cm.pe;have f11:=(ah NA).cm.fr 11;by_cases h0:c.t.ack=0
      ·have hp0:pe1=c.pe:=by rw[<-wW,if_pos h0]
       have HS:=aj (And.intro (aV.same (ah NA).cm (Below.refl _ _)) (ah RM));have g4:(c.t.ack !=0)=false:=by rw[h0];rfl
       clear h hs hk hf hz hw hF hF2 hcm NC NA HA wW h0;go_wp2_with fail;go_meet
       rw[hp0];exact HS
      ·have hp0:pe1=c.pe++[⟨m.q,1,now+Tk.aZ c.t 1⟩]:=by rw[<-wW,if_neg h0]
       have g4:(c.t.ack !=0)=true:=by simpa using h0
       have PD:=aj (rQ ((ah NA).cm.next (Below.refl _ _).drew) hw oI 1 now ht);obtain⟨D,hD⟩:∃D,now+Tk.aZ c.t 1=D:=⟨_,rfl⟩;rw[hD] at PD hp0;have HMo:Hid (∀w3,Below wb.drew.heap.size wb.drew w3->_):=aj (λw3 b3=>((ah NA).cm.next (((Below.refl wb.heap.size wb).drew).trans b3)).more (Nat.le_trans hBc (Nat.le_trans (ah NA).bel.size (((Below.refl wb.heap.size wb).drew).trans b3).size)) hl ⟨m.q,1,D⟩);have d1:wb.drew.cell? ⟨by',1,none⟩=some (.int .i64 m.q):=(ah RM).cell 1 _ rfl;have e11:wb.drew.cell? ⟨b,11,none⟩=some (.slice s0 c.pe.length cap):=d11;have HRB:Hid (∀(w3 w8:World) p,Below wb.drew.heap.size wb.drew w3->aA (λk=>(Value.slice s0 c.pe.length cap).ownBlock=some k) (w3.alloc (JA p)) w8->∀u,CB (w8.setCell ⟨b,11,none⟩ u) by' (tX m)):=aj (λw3 w8 p b3 c8 u=>by
        have hny:¬(Value.slice s0 c.pe.length cap).ownBlock=some by':=λq=>by
         have:=(h.row.lt _ q).2;have:=(ah HA).2.2;have:=(ah NC).bel.size;omega
        have r3:=((ah RM).next (((Below.refl wb.heap.size wb).drew).trans b3)).next ((Below.refl w3.heap.size w3).alloc (Nat.le_refl _) (JA p));exact(r3.aT c8 hny).aT (aA.setCell (A:=λk=>k=b) (p:=⟨b,11,none⟩) (aA.refl _ _) (.inl rfl) u) Xg)
       have HUT:Hid (∀(w3 w8:World) u,Below wb.drew.heap.size wb.drew w3->aV w3 (w8.setCell ⟨b,11,none⟩ u) B b a ca (.slice s0 c.pe.length cap) ⟨c.t,c.pl,c.pe++[⟨m.q,1,D⟩],c.cn⟩->aV wb (w8.setCell ⟨b,11,none⟩ u) B b a ca (.slice s0 c.pe.length cap) ⟨c.t,c.pl,c.pe++[⟨m.q,1,D⟩],c.cn⟩):=aj (λw3 w8 u b3 hu=>aV.trans (aA.of_below (((Below.refl wb.heap.size wb).drew).trans b3)) (λ_ q=>.inl q) hu);clear h hs hk hf hz hF hF2 hcm NC NA HA wW h0 hw hD;go_wp2_with fail;go_region_law (first
        | (refine pY rfl _ _ 101 101 rfl (.slice s0 c.pe.length cap) _ (by first|(simp[Act.eval];done)|(simp[Act.eval,Act.put];done)) (by first|(simp[Act.eval];done)|(simp[Act.eval,Act.put];done)) hrun ?_)
        | (go_simp;go_at_call 66;refine(ah PD).mono ?_;rintro e w3 ⟨rfl,b3⟩;have x11:=(b3.cell (p:=⟨b,11,none⟩) Xh).trans e11;have x1:=(b3.cell (p:=⟨by',1,none⟩) Xf).trans d1;have hp3:=Nat.lt_of_lt_of_le Xh b3.size;have hy3:=Nat.lt_of_lt_of_le Xf b3.size;obtain⟨a',m',c',w8,hrun,q0,q1,q2,HM8⟩:=ah HMo w3 b3;dsimp only))
       all_goals
        have HS:=aj (And.intro (ah HUT _ _ _ b3 (ah HM8)) (ah HRB _ _ _ b3 q2 (.slice a' m' c')))
        clear HM8 hrun q2 b3 PD HMo HUT HRB
        go_wp2_with fail
        go_meet
        rw[hp0]
        exact HS
     case rest =>
      obtain⟨v1,k1,c1,g1⟩:=(ah hcut).1;have rm:=(ah hcut).2;have x1:=rm.cell 1 _ rfl;have c10:=k1.pl;have f10:=k1.fr 10;have aas:=k1.tb.lt;have aat:=rm.lt;have hw1:IntKind.i64.wrap (m.q+1)=m.q+1:=by rw[IntKind.wrap_i64];omega
      obtain⟨W1,hW1⟩:∃W1,W1=wc.setCell ⟨b,10,none⟩ (.int .i64 (m.q+1)):=⟨_,rfl⟩;have cW:aA (λk=>k=b) wc W1:=by rw[hW1];exact aA.setCell (A:=λk=>k=b) (p:=⟨b,10,none⟩) (aA.refl _ _) (.inl rfl) _
      have k2:Cm W1 B b ⟨c.t,m.q+1,pe1,c.cn⟩ a ca v1:=by rw[hW1];exact k1.put (aA.refl _ _) (.inl ⟨rfl,rfl,rfl,rfl⟩) k1.row (λ_ q=>.inl q)
      have Yi:aA (iP b (.slice s0 c.pe.length cap)) wb W1:=c1.trans (cW.mono (λ_ _ q=>.inl q));have hF1:∀k,F k->¬iP b v1 k:=λk hk z=>by
       rcases z with z|z
       ·exact hF k hk (.inl z)
       ·rcases g1 k z with y|y
        ·exact hF k hk (.inr y)
        ·have:=hF2 k hk;have:=(ah NA).bel.size;omega
      have hsW:SH W1 B' q F s:=H.aT (ah NA).st Yi (λk hk=>hF k hk);have PV:=aj (tu H k2 hsW hk (Nat.le_trans hB (Nat.le_trans (ah NA).bel.size Yi.size)) hF1 hf hz hcn m 1);have KG:=rm.aT cW Xg;have r0:=KG.cell 0 _ rfl;have r1:=KG.cell 1 _ rfl;have r2:=KG.cell 2 _ rfl;have r3:=KG.cell 3 _ rfl;have r4:=KG.cell 4 _ rfl;have r5:=KG.cell 5 _ rfl;have HO:Hid (∀w2,aV W1 w2 B b a ca v1 ⟨c.t,m.q+1,pe1,c.cn+1⟩->CB w2 w.heap.size (oz dX)/\∀us:List Value,us.length=6->aV w (w2.setCells w.heap.size 0 us) B b a ca (.slice s0 c.pe.length cap) ⟨c.t,m.q+1,pe1,c.cn+1⟩/\CB (w2.setCells w.heap.size 0 us) w.heap.size us):=aj (λw2 hu=>aV.out (ah H0) (ah NA).bel (Nat.le_refl _) (ah NA).cb (aV.trans Yi g1 hu))
      obtain⟨L,hL⟩:∃L:Int,(bK c.t.f s.l (m.q+1):Int)=L:=⟨_,rfl⟩;rw[show(bK (⟨c.t,m.q+1,pe1,c.cn⟩:bJ).t.f s.l (⟨c.t,m.q+1,pe1,c.cn⟩:bJ).pl:Int)=L from hL] at PV;have HL:=aj hL;clear h hs hk hf hz hw hF hF2 hcm NC NA HA wW k1 c1 g1 rm KG cW Yi k2 hF1 hsW hL hcut;go_upto_region 9 with fail
      rw[<-hW1];clear hW1;go_wp2_with (go_at_call 102;refine(ah PV).mono ?_;rintro e w2 ⟨rfl,hu⟩;have hz2:=(ah HO _ hu).1;have z0:=hz2.cell 0 _ rfl;have z1:=hz2.cell 1 _ rfl;have z2:=hz2.cell 2 _ rfl;have z3:=hz2.cell 3 _ rfl;have z4:=hz2.cell 4 _ rfl;have z5:=hz2.cell 5 _ rfl;have q0:=hz2.fr 0;have q1:=hz2.fr 1;have q2:=hz2.fr 2;have q3:=hz2.fr 3;have q4:=hz2.fr 4;have q5:=hz2.fr 5);have HX:=aj ((ah HO _ hu).2 (oz ⟨m.q,m.s,m.d,c.cn+1,1,L⟩) rfl);refine bodyPost_ret (dP (x:=⟨m.q,m.s,m.d,c.cn+1,1,L⟩) rfl rfl (ah HX).2) rfl ?_;rw[ah OL];refine⟨?_,(ah HX).1⟩;unfold ng
      rw[ah HL];rfl
end
def nG (c:bJ)(l:List Rc)(now:Int):bJ:=⟨c.t,c.pl,(dQ c.t l now c.pe).1,match (dQ c.t l now c.pe).2 with
 | some _=>c.cn+1
 | none=>c.cn⟩
theorem QV {now:Int}(l:List Dv):Di now l l.length=l.filter (λx=>!decide (x.d<=now)):=by
 unfold Di;rw[List.take_length,List.drop_length,List.append_nil]
theorem Xi {now:Int}{l:List Dv}{k:Nat}(h:k<l.length)(p':Dv):Di now (l.set k p') k=(l.take k).filter (λx=>!decide (x.d<=now))++p'::l.drop (k+1):=by
 unfold Di;have e:l.set k p'=l.take k++p'::l.drop (k+1):=by rw[List.set_eq_take_append_cons_drop,if_pos h]
 have hl:(l.take k).length=k:=by rw[List.length_take];omega
 rw[e,List.take_append_of_le_length (by omega),List.take_of_length_le (by omega),List.drop_append_of_le_length (by omega),List.drop_of_length_le (by omega),List.nil_append]
theorem JR {l:List Dv}{k:Nat}(h:k<l.length):l=l.take k++l[k]::l.drop (k+1):=by
 rw[<-List.drop_eq_getElem_cons h,List.take_append_drop]
section
variable {SH:World->Nat->Nat->(Nat->Prop)->bD->Prop}
variable {w:World}{B b:Nat}{c:bJ}{a:Option Addr}{ca:Nat}{v:Value}{B' q:Nat}{F:Nat->Prop}{s:bD}
theorem Cm.aside {wr:World}(h0:Cm wr B b c a ca v)(h:Cm w B b c a ca v){j:Nat}{u:Value}:Cm (w.setCell ⟨wr.heap.size,j,none⟩ u) B b c a ca v :=
 h.aT (aA.setCell (A:=λk=>k=wr.heap.size) (p:=⟨wr.heap.size,j,none⟩) (aA.refl _ _) (.inl rfl) u) (λq=>by have:=h0.tb.lt;omega) (λg hg q=>by have:=(h0.row.lt g hg).2;omega) (λz hz q=>by have:=(h0.al z hz).2;omega)
theorem Cm.YX {w':World}{YF:List Dv}(h:Cm w B b c a ca v)(hC:aA (λk=>v.ownBlock=some k) w w')(hr:eY w' B v YF):Cm w' B b ⟨c.t,c.pl,YF,c.cn⟩ a ca v:=by
 have ho:∀j,w'.cell? ⟨b,j,none⟩=w.cell? ⟨b,j,none⟩:=λj=>hC.cell (p:=⟨b,j,none⟩) h.tb.lt h.ne1
 exact⟨h.tb.same hC.size ho,by rw[ho];exact h.pl,by rw[ho];exact h.pe,by rw[ho];exact h.cn,hr,(λk hk=>by
  obtain⟨b',o,e1,e2,e3⟩:=h.bo k hk;exact⟨b',o,e1,Nat.lt_of_lt_of_le e2 hC.size,by rw[hC.cell (p:=⟨b',o+k,none⟩) e2 (h.QC _ e1).2];exact e3⟩),λi=>by rw[hC.frozen (p:=⟨b,i,none⟩) h.tb.lt h.ne1];exact h.fr i,h.bB,h.ne1,h.QC,λz hz=>⟨(h.al z hz).1,Nat.lt_of_lt_of_le (h.al z hz).2 hC.size⟩⟩
theorem rY (H:aQ SH)(T:mX SH)(h:Cm w B b c a ca v)(hs:SH w B' q F s)(hk:s.Ok)(hB:B'<=w.heap.size)(hF:∀k,F k->¬iP b v k)(hw:eU c.t)(oI:c.t.bo.length<=140737488355328)(hf:aB true c.t.f=0)(hz:c.t.f.size<=140737488355328)(hcn:0<=c.cn/\c.cn<=1000000000000)(hl:c.pe.length<=100000)(hnb:∀p∈c.pe,0<=p.n/\p.n<=1000000000000)(now:Int)(ht:0<=now/\now<=1099511627776) :
 Calls prog 57 #[.pointer (some ⟨b,0,none⟩),.pointer (some ⟨q,0,none⟩),.int .i64 now] w λe w'=>e=.returned (.tuple #[KC (ng (nG c s.l now) s.l (dQ c.t s.l now c.pe).2),.bool (dQ c.t s.l now c.pe).2.isSome])/\aV w w' B b a ca v (nG c s.l now):=by
 have b0:Below w.heap.size w (w.alloc OM):=(Below.refl _ _).alloc (Nat.le_refl _) _;have N0:=aj (show QU SH w (w.alloc OM) B b c a ca v B' q F s w.heap.size from⟨h.next b0,H.aT (A:=λ_=>False) hs (aA.of_below b0) (λ_ _ z=>z),CB.new w (oz dX) 47,b0,Nat.le_refl _⟩);obtain⟨s0,cap,rfl,hcap,hcm,_⟩:=h.row.shape;have H0:=aj h;have HK:=aj hk;have HW:=aj hw;have HNB:=aj hnb;have HF:=aj hF;have VN:=(ah N0).cm.pe;have hbl:=(ah N0).cm.tb.lt;unfold maxLen at hcm;obtain⟨N,hN⟩:∃N,c.pe.length=N:=⟨_,rfl⟩;have HN:=aj hN;have hv:(Value.slice s0 c.pe.length cap)=.slice s0 N cap:=by rw[hN]
 rw[hv] at N0 H0 HF VN;rw[hv];rw[hN] at hcap hl;clear hv hN h hs hk hF hw hnb;go_enter func57,ntmps57;go_wp2_with fail;go_loopw [17] (λkv wr=>∃k:Nat,kv=.int .i64 k/\k<=N/\Hid (∀j (hj:j<c.pe.length),j<k->lQ c.t s.l now c.pe[j]=false)/\Hid (QU SH w wr B b c a ca (.slice s0 N cap) B' q F s w.heap.size)) (λkv _=>N-(intOf kv).toNat)
 case atStart=>exact⟨0,rfl,Nat.zero_le _,aj (λj _ hj=>absurd hj (Nat.not_lt_zero j)),N0⟩
 case round =>
  clear N0 VN hbl;obtain⟨k,rfl,hk,HL,NW⟩:=hrel;by_cases hlt:k<N
  ·have hkl:k<c.pe.length:=by rw[ah HN];exact hlt
   obtain⟨g,cap',e0,_,_,_,hgl⟩:=(eY.tri (ah NW).cm.row).there (by omega);obtain⟨rfl,hNN,rfl⟩:=Value.slice.inj e0;clear e0 hNN;obtain⟨_,c0,c1,c2⟩:=bT.at (eY.tri (ah NW).cm.row) hkl;obtain⟨x,hx⟩:∃x,c.pe[k]=x:=⟨_,rfl⟩;have HX:=aj hx;have YZ:Hid (∀z:lQ c.t s.l now x=false,∀j (hj:j<c.pe.length),j<k+1->lQ c.t s.l now c.pe[j]=false):=aj (λz j hj hjk=>by
    rcases Nat.lt_succ_iff_lt_or_eq.1 hjk with y|y
    ·exact ah HL j hj y
    ·subst y;rw[ah HX];exact z)
   have hxn:=ah HNB x (by rw[<-hx];exact List.getElem_mem _);rw[hx] at c0 c1 c2;clear hx;have bA:Below wr.heap.size wr (wr.alloc (JA x)):=(Below.refl _ _).alloc (Nat.le_refl _) _;have N1:=aj ((ah NW).next H bA);obtain⟨n0,n1,n2⟩:=Nv wr x 124;have hpb:wr.heap.size<(wr.alloc (JA x)).heap.size:=by simp
   have PB1:=aj (CB.new wr [.int .i64 x.q,.int .i64 x.n,.int .i64 x.d] 124);clear bA;by_cases hd:now<x.d
   ·have g1:decide (now<x.d)=true:=decide_eq_true hd;have HM:Hid (lQ c.t s.l now x=false):=aj (by unfold lQ;rw[decide_eq_false (by omega),Bool.false_and]);go_wp2_with fail;refine⟨⟨k+1,by go_num,by omega,aj (ah YZ (ah HM)),N1⟩,?_⟩;simp[intOf];omega
   ·have g1:decide (now<x.d)=false:=decide_eq_false hd;have PS:=aj (Dc (ah N1).cm x);have Xj:Hid (lQ c.t s.l now x=((kU s.l x.q).isSome&&!iq c.t x)):=aj (by unfold lQ;rw[decide_eq_true (by omega),Bool.true_and])
    cases hsp:iq c.t x with
    | true =>
     have HM:Hid (lQ c.t s.l now x=false):=aj (by rw[ah Xj,hsp];simp);rw[hsp] at PS;clear hsp;go_wp2_with fail;refine(ah PS).mono ?_;rintro e w2 ⟨rfl,b2⟩;have N2:=aj ((ah N1).next H b2);clear b2 PS;go_wp2_with fail;refine⟨⟨k+1,by go_num,by omega,aj (ah YZ (ah HM)),N2⟩,?_⟩;simp[intOf];omega
    | false =>
     rw[hsp] at PS;rw[hsp,Bool.not_false,Bool.and_true] at Xj;clear hsp;go_wp2_with fail;refine(ah PS).mono ?_;rintro e w2 ⟨rfl,b2⟩;have N2:=aj ((ah N1).next H b2);have m0:=(b2.cell (p:=⟨wr.heap.size,0,none⟩) hpb).trans n0;have m1:=(b2.cell (p:=⟨wr.heap.size,1,none⟩) hpb).trans n1;have m2:=(b2.cell (p:=⟨wr.heap.size,2,none⟩) hpb).trans n2;have Fj:=Nat.lt_of_lt_of_le hpb b2.size;have PB2:Hid (CB w2 wr.heap.size [.int .i64 x.q,.int .i64 x.n,.int .i64 x.d]):=aj ((ah PB1).next b2);have PG:=aj (T.gets x.q (ah N2).st (ah HK) (Nat.le_trans hB (ah N2).bel.size));rw[qQ] at PG
     obtain⟨o,ho⟩:∃o,kU s.l x.q=o:=⟨_,rfl⟩;rw[ho] at PG Xj;have HO:=aj ho;have B2h:=aj b2;clear b2 PS ho n0 n1 n2 c0 c1 c2;go_wp2_with fail;refine(ah PG).mono ?_;rintro e w3 ⟨rfl,b3⟩;have b4:Below w3.heap.size w3 (w3.alloc (KF (oR o))):=(Below.refl _ _).alloc (Nat.le_refl _) _;have N4:=aj (((ah N2).next H b3).next H b4);have q0:=(b4.cell (p:=⟨wr.heap.size,0,none⟩) (Nat.lt_of_lt_of_le Fj b3.size)).trans ((b3.cell (p:=⟨wr.heap.size,0,none⟩) Fj).trans m0);have q1:=(b4.cell (p:=⟨wr.heap.size,1,none⟩) (Nat.lt_of_lt_of_le Fj b3.size)).trans ((b3.cell (p:=⟨wr.heap.size,1,none⟩) Fj).trans m1)
     have q2:=(b4.cell (p:=⟨wr.heap.size,2,none⟩) (Nat.lt_of_lt_of_le Fj b3.size)).trans ((b3.cell (p:=⟨wr.heap.size,2,none⟩) Fj).trans m2);have Ur:=aj ((ah PB2).next b3);have N3:=aj ((ah N2).next H b3);have aau:wr.heap.size<w3.heap.size:=Nat.lt_of_lt_of_le Fj b3.size
     cases o with
     | none =>
      have HM:Hid (lQ c.t s.l now x=false):=aj (by rw[ah Xj];rfl);rw[show oE none=4 from rfl];clear b3 b4 PG m0 m1 m2;go_wp2_with fail;refine⟨⟨k+1,by go_num,by omega,aj (ah YZ (ah HM)),N4⟩,?_⟩;simp[intOf];omega
     | some m =>
      rw[show oE (some m)=0 from rfl,show oR (some m)=m from rfl];rw[show oR (some m)=m from rfl] at q0 q1 q2;have HMY:Hid (lQ c.t s.l now x=true):=aj (by rw[ah Xj];rfl);obtain⟨D,hD⟩:∃D,now+Tk.aZ c.t (x.n+1)=D:=⟨_,rfl⟩;have Y4:Hid (dQ c.t s.l now c.pe=(Di now (c.pe.set k ⟨x.q,x.n+1,D⟩) k,some (m,x.n+1))):=aj (by
       have ha:∀p∈c.pe.take k,lQ c.t s.l now p=false:=λp hp=>by
        obtain⟨j,hj,rfl⟩:=List.mem_iff_getElem.1 hp;rw[List.length_take] at hj;rw[List.getElem_take];exact ah HL j (by omega) (by omega)
       obtain⟨m',hm',hsp⟩:=MI ha (p:=x) (ah HMY) (c.pe.drop (k+1));rw[ah HO] at hm'
       cases hm'
       have e:c.pe=c.pe.take k++x::c.pe.drop (k+1):=by rw[<-ah HX];exact JR hkl
       rw[Xi hkl,<-hD];conv=>lhs;rw[e]
       exact hsp)
      have BW3:Hid (Below wr.heap.size wr w3):=aj ((((Below.refl wr.heap.size wr).alloc (Nat.le_refl _) (JA x)).trans ((ah B2h).mono (by simp))).trans (b3.mono (by have:=(ah B2h).size;simp at this;omega)));have fp1:=(ah Ur).fr 1;have hbw:=(ah NW).cm.tb.lt;have hwn:IntKind.i64.wrap (x.n+1)=x.n+1:=by rw[IntKind.wrap_i64];omega
      -- the copy's count is one more
      obtain⟨W4,VO⟩:∃W4,W4=w3.setCell ⟨wr.heap.size,1,none⟩ (.int .i64 (x.n+1)):=⟨_,rfl⟩;have hs4:W4.heap.size=w3.heap.size:=by rw[VO];simp[World.setCell]
      obtain⟨W5,Yj⟩:∃W5,W5=W4.alloc (KF m):=⟨_,rfl⟩;have b5:Below W4.heap.size W4 W5:=by rw[Yj];exact(Below.refl _ _).alloc (Nat.le_refl _) _
      have K5:Hid (Cm W5 B b c a ca (.slice (some ⟨g,0,none⟩) N cap)):=aj (Cm.next (by rw[VO];exact(ah NW).cm.aside (ah N3).cm) b5);have C5:Hid (aA (iP b (.slice (some ⟨g,0,none⟩) N cap)) wr W5):=aj (aA.trans (by rw[VO];exact(aA.of_below (ah BW3)).setCell (.inr (Nat.le_refl _)) _) (aA.of_below b5));have P4:Hid (CB W4 wr.heap.size [.int .i64 x.q,.int .i64 (x.n+1),.int .i64 x.d]):=aj (by
       rw[VO];refine⟨by have:=(ah Ur).lt;simpa[World.setCell] using this,λj u hj=>?_,λj=>by rw[World.frozen?_setCell];exact(ah Ur).fr j⟩;match j,hj with
       | 0,hj=>cases hj;rw[World.cell?_setCell_other _ _ _ _ (by simp)];exact(ah Ur).cell 0 _ rfl
       | 1,hj=>cases hj;exact World.cell?_setCell_same _ _ _ ((ah Ur).cell 1 _ rfl)
       | 2,hj=>cases hj;rw[World.cell?_setCell_other _ _ _ _ (by simp)];exact(ah Ur).cell 2 _ rfl)
      have P5:=aj ((ah P4).next b5);have R5:Hid (CB W5 w3.heap.size (tX m)):=aj (by
       have:=CB.new W4 (tX m) 33;rw[hs4] at this;rw[Yj];exact this)
      have PD:=aj (rQ (ah K5) (ah HW) oI (x.n+1) now ht);rw[hD] at PD;have v0:=(ah P5).cell 0 _ rfl;have v1:=(ah P5).cell 1 _ rfl;have v2:=(ah P5).cell 2 _ rfl;have vf:=(ah P5).fr 2;have hv5:=(ah P5).lt;clear m0 m1 m2 b3 b4 PG hD Ur N4 N3 P4 b5 hs4;go_upto_region 8 with fail
      rw[<-VO,<-Yj];clear VO Yj q0 q1 q2 fp1;go_upto_region 9 with (go_at_call 66;refine(ah PD).mono ?_;rintro e w6 ⟨rfl,b6⟩;have u0:=(b6.cell (p:=⟨wr.heap.size,0,none⟩) hv5).trans v0;have u1:=(b6.cell (p:=⟨wr.heap.size,1,none⟩) hv5).trans v1;have u2:=(b6.cell (p:=⟨wr.heap.size,2,none⟩) hv5).trans v2;have uf:=(b6.frozen (p:=⟨wr.heap.size,2,none⟩) hv5).trans vf)
      obtain⟨W7,OO⟩:∃W7,W7=w6.setCell ⟨wr.heap.size,2,none⟩ (.int .i64 D):=⟨_,rfl⟩;have K7:Hid (Cm W7 B b c a ca (.slice (some ⟨g,0,none⟩) N cap)):=aj (by rw[OO];exact(ah NW).cm.aside ((ah K5).next b6));have C7:Hid (aA (iP b (.slice (some ⟨g,0,none⟩) N cap)) wr W7):=aj (by rw[OO];exact((ah C5).trans (aA.of_below b6)).setCell (.inr (Nat.le_refl _)) _);have P7:Hid (CB W7 wr.heap.size [.int .i64 x.q,.int .i64 (x.n+1),.int .i64 D]):=aj (by
       rw[OO];have P6:=(ah P5).next b6;refine⟨by have:=P6.lt;simpa[World.setCell] using this,λj u hj=>?_,λj=>by rw[World.frozen?_setCell];exact P6.fr j⟩;match j,hj with
       | 0,hj=>cases hj;rw[World.cell?_setCell_other _ _ _ _ (by simp)];exact P6.cell 0 _ rfl
       | 1,hj=>cases hj;rw[World.cell?_setCell_other _ _ _ _ (by simp)];exact P6.cell 1 _ rfl
       | 2,hj=>cases hj;exact World.cell?_setCell_same _ _ _ (P6.cell 2 _ rfl))
      have R7:Hid (CB W7 w3.heap.size (tX m)):=aj (by rw[OO];exact((ah R5).next b6).aT (aA.setCell (A:=λk=>k=wr.heap.size) (p:=⟨wr.heap.size,2,none⟩) (aA.refl _ _) (.inl rfl) _) (by omega));rw[<-OO];clear OO u0 u1 u2 uf v0 v1 v2 vf hv5 b6 PD K5 C5 P5 R5;have u0:=(ah P7).cell 0 _ rfl;have u1:=(ah P7).cell 1 _ rfl;have u2:=(ah P7).cell 2 _ rfl;have Y5:=(ah P7).lt;have d11:=(ah K7).pe;have Y6:=(ah K7).tb.lt;have et:=bT.at (eY.tri (ah K7).row) hkl;have ef:=(bI.free (eY.tri (ah K7).row)).1;have t0:=et.c0;have t1:=et.c1;have t2:=et.c2;have e0:=ef (k*3)
      have e1:=ef (k*3+1);have e2:=ef (k*3+2);have Y7:=et.lt;have hgp:g≠wr.heap.size:=by omega
      clear et ef;obtain⟨W8,SQ⟩:∃W8,W8=(W7.setCells g (k*3) [.int .i64 x.q,.int .i64 (x.n+1),.int .i64 D]).drew:=⟨_,rfl⟩;have c8:aA (λj=>j=g) W7 W8:=by rw[SQ];exact(wF _ _ _).trans (aA.of_below (Below.refl _ _).drew)
      have K8:Hid (Cm W8 B b ⟨c.t,c.pl,c.pe.set k ⟨x.q,x.n+1,D⟩,c.cn⟩ a ca (.slice (some ⟨g,0,none⟩) N cap)):=aj (Cm.YX (ah K7) (c8.mono (λj _ q=>by rw[q];rfl)) (by
       rw[SQ];have ha:=eY.tri (ah K7).row;rw[<-ah HN] at ha ⊢;exact((ha.set hkl ⟨x.q,x.n+1,D⟩).below (Below.refl _ _).drew).QL))
      have C8:Hid (aA (iP b (.slice (some ⟨g,0,none⟩) N cap)) wr W8):=aj ((ah C7).trans (c8.mono (λj _ q=>.inr (by rw[q];rfl))));have hgr:¬(w3.heap.size=g):=by omega
      have R8:Hid (CB W8 w3.heap.size (tX m)):=aj ((ah R7).aT c8 hgr);have P8:Hid (CB W8 wr.heap.size [.int .i64 x.q,.int .i64 (x.n+1),.int .i64 D]):=aj ((ah P7).aT c8 (λq=>hgp q.symm));have PF:=aj (oJ (ah K8) (by rw[List.length_set,ah HN];omega) k (by rw[List.length_set];omega) now);have Xk:W8=(((W7.setCell ⟨g,k*3,none⟩ (.int .i64 x.q)).setCell ⟨g,k*3+1,none⟩ (.int .i64 (x.n+1))).setCell ⟨g,k*3+2,none⟩ (.int .i64 D)).drew:=SQ;clear SQ K7 C7 P7 R7 c8;go_region
      rw[<-Xk];clear Xk u0 u1 u2 t0 t1 t2 e0 e1 e2 Y5 d11 Y6 Y7;go_upto_region 11 with (go_at_call 101;refine(ah PF).mono ?_;rintro e w9 ⟨rfl,hu⟩)
      obtain⟨v9,k9,DF,g9⟩:=hu;have C9:Hid (aA (iP b (.slice (some ⟨g,0,none⟩) N cap)) wr w9):=aj ((ah C8).trans DF);have G9:Hid (∀j,v9.ownBlock=some j->(Value.slice (some ⟨g,0,none⟩) N cap).ownBlock=some j\/wr.heap.size<=j):=aj (λj hj=>by
       rcases g9 j hj with y|y
       ·exact .inl y
       ·exact .inr (Nat.le_trans (ah C8).size y))
      have Y8:∀i,wr.heap.size<=i->¬iP b (.slice (some ⟨g,0,none⟩) N cap) i:=λi hi q=>by
       rcases q with q|q
       ·omega
       ·have:=((ah NW).cm.row.lt i q).2;omega
      have r9:=(ah R8).aT DF (Y8 _ (by omega));have p9:=(ah P8).aT DF (Y8 _ (Nat.le_refl _));have r0:=r9.cell 0 _ rfl;have r1:=r9.cell 1 _ rfl;have r2:=r9.cell 2 _ rfl;have r3:=r9.cell 3 _ rfl;have r4:=r9.cell 4 _ rfl;have r5:=r9.cell 5 _ rfl;have p1:=p9.cell 1 _ rfl;have hs9:=H.aT (ah NW).st (ah C9) (λi hi=>ah HF i hi);have hF9:∀i,F i->¬iP b v9 i:=λi hi q=>by
       rcases q with q|q
       ·exact ah HF i hi (.inl q)
       ·rcases ah G9 i q with y|y
        ·exact ah HF i hi (.inr y)
        ·have:=(H.own (ah NW).st i hi).2;omega
      have PV:=aj (tu H k9 hs9 (ah HK) (Nat.le_trans hB (Nat.le_trans (ah NW).bel.size (ah C9).size)) hF9 hf hz hcn m (x.n+1));have OQ:Hid (∀w2,aV w9 w2 B b a ca v9 ⟨c.t,c.pl,Di now (c.pe.set k ⟨x.q,x.n+1,D⟩) k,c.cn+1⟩->CB w2 w.heap.size (oz dX)/\∀us:List Value,us.length=6->aV w (w2.setCells w.heap.size 0 us) B b a ca (.slice (some ⟨g,0,none⟩) N cap) ⟨c.t,c.pl,Di now (c.pe.set k ⟨x.q,x.n+1,D⟩) k,c.cn+1⟩/\CB (w2.setCells w.heap.size 0 us) w.heap.size us):=aj (λw2 hu=>aV.out (ah H0) (ah NW).bel (Nat.le_refl _) (ah NW).cb (aV.trans (ah C9) (ah G9) hu))
      obtain⟨L,hL⟩:∃L:Int,(bK c.t.f s.l c.pl:Int)=L:=⟨_,rfl⟩;rw[show(bK (⟨c.t,c.pl,Di now (c.pe.set k ⟨x.q,x.n+1,D⟩) k,c.cn⟩:bJ).t.f s.l (⟨c.t,c.pl,Di now (c.pe.set k ⟨x.q,x.n+1,D⟩) k,c.cn⟩:bJ).pl:Int)=L from hL] at PV;have HLL:=aj hL;have aav:=p9.lt;have aaw:=r9.lt;clear k9 DF g9 r9 p9 hs9 hF9 hL K8 C8 R8 P8 PF Y8;go_wp2_with (go_at_call 102;refine(ah PV).mono ?_;rintro e w2' ⟨rfl,hu⟩;have hz2:=(ah OQ _ hu).1;have z0:=hz2.cell 0 _ rfl;have z1:=hz2.cell 1 _ rfl;have z2:=hz2.cell 2 _ rfl;have z3:=hz2.cell 3 _ rfl;have z4:=hz2.cell 4 _ rfl;have z5:=hz2.cell 5 _ rfl;have q0:=hz2.fr 0;have q1:=hz2.fr 1;have q2:=hz2.fr 2;have q3:=hz2.fr 3;have q4:=hz2.fr 4;have q5:=hz2.fr 5)
      have Xl:=aj ((ah OQ _ hu).2 (oz ⟨m.q,m.s,m.d,c.cn+1,x.n+1,L⟩) rfl);refine bodyPost_ret (dP (x:=⟨m.q,m.s,m.d,c.cn+1,x.n+1,L⟩) rfl rfl (ah Xl).2) rfl ?_;unfold nG;rw[ah Y4];refine⟨?_,(ah Xl).1⟩;unfold ng;rw[ah HLL];rfl
  ·obtain rfl:k=N:=by omega
   have Y4:Hid (dQ c.t s.l now c.pe=(Di now c.pe k,none)):=aj (by
    have hkk:=ah HN;rw[<-hkk,QV];exact Qu (λp hp=>by
     obtain⟨j,hj,rfl⟩:=List.mem_iff_getElem.1 hp;exact ah HL j hj (by omega)))
   have PF:=aj (oJ (ah NW).cm (by rw[ah HN];omega) k (by rw[ah HN];exact Nat.le_refl _) now);have d11:=(ah NW).cm.pe;have hbl:=(ah NW).cm.tb.lt;have OQ:Hid (∀w2,aV wr w2 B b a ca (.slice s0 k cap) ⟨c.t,c.pl,Di now c.pe k,c.cn⟩->CB w2 w.heap.size (oz dX)/\∀us:List Value,us.length=6->aV w (w2.setCells w.heap.size 0 us) B b a ca (.slice s0 k cap) ⟨c.t,c.pl,Di now c.pe k,c.cn⟩/\CB (w2.setCells w.heap.size 0 us) w.heap.size us):=aj (λw2 hu=>aV.out (ah H0) (ah NW).bel (Nat.le_refl _) (ah NW).cb hu);clear NW HL hlt;go_wp2_with (go_at_call 101;refine(ah PF).mono ?_;rintro e w2 ⟨rfl,hu⟩;have hz2:=(ah OQ _ hu).1;have z0:=hz2.cell 0 _ rfl;have z1:=hz2.cell 1 _ rfl;have z2:=hz2.cell 2 _ rfl;have z3:=hz2.cell 3 _ rfl;have z4:=hz2.cell 4 _ rfl;have z5:=hz2.cell 5 _ rfl;have q0:=hz2.fr 0;have q1:=hz2.fr 1;have q2:=hz2.fr 2;have q3:=hz2.fr 3;have q4:=hz2.fr 4;have q5:=hz2.fr 5)
   have Xl:=aj ((ah OQ _ hu).2 (oz dX) rfl);refine bodyPost_ret (dP (x:=dX) rfl rfl (ah Xl).2) rfl ?_;unfold nG;rw[ah Y4];exact⟨rfl,(ah Xl).1⟩
end
section
variable {SH:World->Nat->Nat->(Nat->Prop)->bD->Prop}
variable {w:World}{B b:Nat}{c:bJ}{a:Option Addr}{ca:Nat}{v:Value}{B' q:Nat}{F:Nat->Prop}{s:bD}
theorem aV.next {w1 w2:World}{c':bJ}(h:aV w w1 B b a ca v c')(hb:Below w1.heap.size w1 w2):aV w w2 B b a ca v c':=by
 obtain⟨v1,k1,c1,g1⟩:=h;exact aV.trans c1 g1 (aV.same k1 hb)
abbrev Xm (x:Gt):Obj:=.cells #[.int .i64 x.q,.string x.s,.string x.d,.int .i64 x.c,.int .i64 x.n,.int .i64 x.l] 47
theorem JU (H:aQ SH)(T:mX SH)(h:Cm w B b c a ca v)(hs:SH w B' q F s)(hk:s.Ok)(hB:B'<=w.heap.size)(hBc:B<=w.heap.size)(hF:∀k,F k->¬iP b v k)(hw:eU c.t)(oI:c.t.bo.length<=140737488355328)(hf:aB true c.t.f=0)(hz:c.t.f.size<=140737488355328)(hcn:0<=c.cn/\c.cn<=1000000000000)(hl:c.pe.length<=100000)(hnb:∀p∈c.pe,0<=p.n/\p.n<=1000000000000)(now:Int) :
 Calls prog 13 #[.pointer (some ⟨b,0,none⟩),.pointer (some ⟨q,0,none⟩),.int .i64 now] w λe w'=>e=.returned (.tuple #[KC (ng (aI c s.l now).1 s.l (aI c s.l now).2.1),.int .i64 (aI c s.l now).2.2])/\aV w w' B b a ca v (aI c s.l now).1:=by
 have b0:Below w.heap.size w (w.alloc OM):=(Below.refl _ _).alloc (Nat.le_refl _) _;have cb0:=CB.new w (oz dX) 47;obtain⟨W0,hW0⟩:∃W0,W0=w.alloc OM:=⟨_,rfl⟩;rw[show w.alloc (.cells (oz dX).toArray 47)=W0 from hW0.symm] at cb0;rw[<-hW0] at b0;have z0:=cb0.cell 0 _ rfl;have z1:=cb0.cell 1 _ rfl;have z2:=cb0.cell 2 _ rfl;have z3:=cb0.cell 3 _ rfl;have z4:=cb0.cell 4 _ rfl;have z5:=cb0.cell 5 _ rfl;have g0:=cb0.fr 0;have g1:=cb0.fr 1;have g2:=cb0.fr 2;have g3:=cb0.fr 3;have g4:=cb0.fr 4;have g5:=cb0.fr 5;have HT:=aj (vP now W0);have h0:=h.next b0;have hs0:=H.aT (A:=λ_=>False) hs (aA.of_below b0) (λ_ _ z=>z)
 cases ht:iI now with
 | false =>
  have HE:Hid (aI c s.l now=(c,none,1)):=aj (by unfold aI;rw[if_pos ht]);have HX:=aj ((aV.out h b0 (Nat.le_refl _) cb0 (aV.same h0 (Below.refl _ _))).2 (oz dX) rfl);rw[ah HE];rw[ht] at HT;clear h h0 hs hs0 hk hF hw hnb cb0 b0 ht;go_enter func13,ntmps13;go_upto_region 1 with fail
  rw[<-hW0];clear hW0;go_wp2_with fail;refine(ah HT).mono ?_;rintro e w1 ⟨rfl,hw⟩;rw[hw];clear hw;go_wp2_with fail;exact bodyPost_ret (dP (x:=dX) rfl rfl (ah HX).2) rfl ⟨rfl,(ah HX).1⟩
 | true =>
  rw[ht] at HT;have htt:=jZ.1 ht;have PA:=aj (rY H T h0 hs0 hk (Nat.le_trans hB b0.size) hF hw oI hf hz hcn hl hnb now htt);have OQ:Hid (∀w2 c2,aV W0 w2 B b a ca v c2->CB w2 w.heap.size (oz dX)/\∀us:List Value,us.length=6->aV w (w2.setCells w.heap.size 0 us) B b a ca v c2/\CB (w2.setCells w.heap.size 0 us) w.heap.size us):=aj (λw2 c2 hu=>aV.out h b0 (Nat.le_refl _) cb0 hu)
  cases hag:(dQ c.t s.l now c.pe).2 with
  | some mn =>
   obtain⟨m,n⟩:=mn;have HE:=aj (EP ht hag);have hac:nG c s.l now=⟨c.t,c.pl,(dQ c.t s.l now c.pe).1,c.cn+1⟩:=by unfold nG;rw[hag]
   rw[hag,hac] at PA;rw[ah HE];obtain⟨X,hX⟩:∃X,ng ⟨c.t,c.pl,(dQ c.t s.l now c.pe).1,c.cn+1⟩ s.l (some (m,n))=X:=⟨_,rfl⟩;rw[hX] at PA;show Calls _ _ _ _ λe w'=>e=.returned (.tuple #[KC (ng ⟨c.t,c.pl,(dQ c.t s.l now c.pe).1,c.cn+1⟩ s.l (some (m,n))),.int .i64 0])/\_
   rw[hX];clear h h0 hs hs0 hk hF hw hnb cb0 b0 ht hag hac hX z0 z1 z2 z3 z4 z5 g0 g1 g2 g3 g4 g5;go_enter func13,ntmps13;go_upto_region 1 with fail
   rw[<-hW0];clear hW0;go_wp2_with fail;refine(ah HT).mono ?_;rintro e w1 ⟨rfl,hw⟩;rw[hw];clear hw;go_wp2_with fail;refine(ah PA).mono ?_;rintro e w2 ⟨rfl,hu⟩;obtain⟨cb3,hb3⟩:=ah OQ _ _ hu;have z0:=cb3.cell 0 _ rfl;have z1:=cb3.cell 1 _ rfl;have z2:=cb3.cell 2 _ rfl;have z3:=cb3.cell 3 _ rfl;have z4:=cb3.cell 4 _ rfl;have z5:=cb3.cell 5 _ rfl;have g0:=cb3.fr 0;have g1:=cb3.fr 1;have g2:=cb3.fr 2;have g3:=cb3.fr 3;have g4:=cb3.fr 4;have g5:=cb3.fr 5;have HX:=aj (hb3 (oz X) rfl);have hlw:w.heap.size<w2.heap.size:=cb3.lt;clear hu cb3 hb3 OQ PA HT;go_wp2_with fail;exact bodyPost_ret (dP (x:=X) rfl rfl ((ah HX).2.next ((Below.refl _ _).alloc (Nat.le_refl _) (Xm X)))) rfl ⟨rfl,(ah HX).1.next ((Below.refl _ _).alloc (Nat.le_refl _) (Xm X))⟩
  | none =>
   have HE:=aj (MX ht hag);have hac:nG c s.l now=⟨c.t,c.pl,(dQ c.t s.l now c.pe).1,c.cn⟩:=by unfold nG;rw[hag]
   rw[hag,hac] at PA;rw[show ng ⟨c.t,c.pl,(dQ c.t s.l now c.pe).1,c.cn⟩ s.l none=dX from rfl,show(none:Option (Rc×Int)).isSome=false from rfl] at PA;rw[ah HE];have hll:=jd (t:=c.t) (l:=s.l) (now:=now) c.pe;obtain⟨pe1,wW⟩:∃pe1,(dQ c.t s.l now c.pe).1=pe1:=⟨_,rfl⟩;rw[wW] at PA hll;rw[wW];have HF2:∀k,F k->k<w.heap.size:=λk hq=>(H.own hs k hq).2
   have PN:Hid (∀w2,aV W0 w2 B b a ca v ⟨c.t,c.pl,pe1,c.cn⟩->Calls prog 58 #[.pointer (some ⟨b,0,none⟩),.pointer (some ⟨q,0,none⟩),.int .i64 now] (w2.alloc (Xm dX)) λe w'=>e=.returned (.tuple #[KC (ng (newC ⟨c.t,c.pl,pe1,c.cn⟩ s.l now).1 s.l (newC ⟨c.t,c.pl,pe1,c.cn⟩ s.l now).2.1),.int .i64 (newC ⟨c.t,c.pl,pe1,c.cn⟩ s.l now).2.2])/\aV W0 w' B b a ca v (newC ⟨c.t,c.pl,pe1,c.cn⟩ s.l now).1):=aj (λw2 hu=>by
    have bA:Below w2.heap.size w2 (w2.alloc (Xm dX)):=(Below.refl _ _).alloc (Nat.le_refl _) _;obtain⟨v1,k1,c1,g1⟩:=aV.next hu bA;have hs1:SH (w2.alloc (Xm dX)) B' q F s:=H.aT hs0 c1 (λk hk=>hF k hk);refine(wI H (k1) hs1 hk (Nat.le_trans hB (Nat.le_trans b0.size c1.size)) (Nat.le_trans hBc (Nat.le_trans b0.size c1.size)) (λk hq z=>?_) (λk hq=>by have:=HF2 k hq;have:=b0.size;have:=c1.size;omega) hw oI hf hz hcn (Nat.le_trans hll hl) now htt).mono ?_
    ·rcases z with z|z
     ·exact hF k hq (.inl z)
     ·rcases g1 k z with y|y
      ·exact hF k hq (.inr y)
      ·have:=HF2 k hq;have:=b0.size;omega
    ·rintro e w' ⟨e1,e2⟩;exact⟨e1,aV.trans c1 g1 e2⟩)
   obtain⟨R,hR⟩:∃R,newC ⟨c.t,c.pl,pe1,c.cn⟩ s.l now=R:=⟨_,rfl⟩;rw[hR] at PN;rw[hR];obtain⟨X,hX⟩:∃X,ng R.1 s.l R.2.1=X:=⟨_,rfl⟩;rw[hX] at PN;rw[hX];clear h h0 hs hs0 hk hF hw hnb cb0 b0 ht hag hac hX hR wW hll HF2 HE z0 z1 z2 z3 z4 z5 g0 g1 g2 g3 g4 g5;go_enter func13,ntmps13;go_upto_region 1 with fail
   rw[<-hW0];clear hW0;go_wp2_with fail;refine(ah HT).mono ?_;rintro e w1 ⟨rfl,hw⟩;rw[hw];clear hw;go_wp2_with fail;refine(ah PA).mono ?_;rintro e w2 ⟨rfl,hu⟩;have PN2:=aj (ah PN _ hu);clear hu PN PA HT;go_wp2_with fail;refine(ah PN2).mono ?_;rintro e w3 ⟨rfl,hu⟩;obtain⟨cb3,hb3⟩:=ah OQ _ _ hu;have z0:=cb3.cell 0 _ rfl;have z1:=cb3.cell 1 _ rfl;have z2:=cb3.cell 2 _ rfl;have z3:=cb3.cell 3 _ rfl;have z4:=cb3.cell 4 _ rfl;have z5:=cb3.cell 5 _ rfl;have g0:=cb3.fr 0;have g1:=cb3.fr 1;have g2:=cb3.fr 2;have g3:=cb3.fr 3;have g4:=cb3.fr 4;have g5:=cb3.fr 5;have HX:=aj (hb3 (oz X) rfl)
   clear hu cb3 hb3 OQ PN2;go_wp2_with fail;exact bodyPost_ret (dP (x:=X) rfl rfl (ah HX).2) rfl ⟨rfl,(ah HX).1⟩
end
