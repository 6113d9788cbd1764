/- A part. -/
import Derived.Test.YtidekgipblnpkaaGreatDoorQ26
import Derived.Test.YtidekgipblnpkaaGreatDoorQ27
namespace Go.Proofs.YtidekgipblnpkaaGreatDoor
open Go.RowKit Go.Proofs.Tryz
theorem JO {H:Type}{enc:TypeId×Value->H}{P:Program}{w:World}{base:Nat}{sp:Nat->Bool}{held:Bool}{fuel:Nat}{t e:TypeId}{f0 f1:Field}{n:Nat}{cs:List Value}{zs:List (List UInt8×Int)}{p:List MemPlace}
 (ht:P.underlying t=some (.array n e)) (he:P.underlying e=some (.struct #[f0,f1])) (hs:P.underlying f0.type=some .string) (hi:P.underlying f1.type=some (.int .i64)) (ho0:f0.offset=0) (ho1:f1.offset=1) (hc0:P.cellsOf f0.type=1) (hc1:P.cellsOf f1.type=1) (hce:P.cellsOf e=2) (hct:P.cellsOf t=n*2)
 (h:DataW.trod enc P w base sp held fuel t cs=some (.agg (zs.map λz=>.agg [.lit (.string z.1),.lit (.int .i64 z.2)]),p)):zs.length=n/\∀i z,zs[i]?=some z->cs[i*2]?=some (.string (Pn.bs z.1))/\cs[i*2+1]?=some (.int .i64 z.2):=by
 cases fuel with
 | zero=>simp[DataW.trod] at h
 | succ fuel =>
  simp only[DataW.trod,ht,hce,hct] at h;split at h
  ·rename_i hl;obtain⟨xs,hm,hx⟩:=Option.map_eq_some_iff.1 h;have hxs:xs.map (·.1)=zs.map λz=>(DataW.agg [.lit (.string z.1),.lit (.int .i64 z.2)]:DataW H):=by
    have:=congrArg Prod.fst hx;simpa using this
   have hxl:xs.length=n:=by simpa using Lib.mapM_length hm
   have hzl:zs.length=n:=by
    have:=congrArg List.length hxs;simp at this;omega
   refine⟨hzl,λi z hz=>?_⟩;have hin:i<n:=by
    rcases ald i n with q|q
    ·exact q
    ·rw[alM (by omega)] at hz;cases hz
   obtain⟨b,hb,hf⟩:=Lib.mapM_at hm i i (by simp[hin]);have h2:(xs.map (·.1))[i]?=some b.1:=by simp[hb]
   rw[hxs] at h2;simp only[akK,hz,Option.map_some,ajX] at h2;obtain⟨ys,m,_,rfl,hl2,hlen,hg⟩:=amO he hf;match ys,hlen with
   | [y0,y1],_ =>
    have g0:=hg 0 f0 rfl;have g1:=hg 1 f1 rfl;simp only[List.getElem?_cons_zero,akb] at g0 g1;obtain⟨u0,cc0,q0,_⟩:=alG hs g0;obtain⟨u1,cc1,q1,_⟩:=akC hi g1;rw[ho0,hc0] at cc0;rw[ho1,hc1] at cc1;have d0:cs[i*2]?=some (.string u0):=by
     have:=congrArg (·[0]?) cc0;simpa[List.getElem?_take,List.getElem?_drop] using this
    have d1:cs[i*2+1]?=some (.int .i64 u1):=by
     have:=congrArg (·[0]?) cc1;simpa[List.getElem?_take,List.getElem?_drop] using this
    simp only[akt,alS,DataW.agg.injEq,akY,ama] at h2;rw[q0,q1] at h2;simp only[amZ,Lit.string.injEq,ani] at h2;exact⟨by rw[d0,h2.1,Pn.afk],by rw[d1,h2.2.2]⟩
  ·cases h
theorem ahg {W : World} {l : List (String × DataW Unit)} (h : laidMet Tryz.prog l W) (hm : ("rillbook/plan.bounds", Rows.laid_rillbook_plan_bounds) ∈ l) : uT W := by
 obtain⟨ps,hl,_⟩:=h;obtain⟨g,t,cs,fuel,p,h1,h2,h3,h4⟩:=Qg hl _ hm
 have hg : Tryz.prog.globalNamed "rillbook/plan.bounds" = some 0 := by kernel_rfl
 obtain rfl:g=0:=ajC (h1.symm.trans hg);obtain rfl:t=127:=ajC (h2.symm.trans (show(prog.globals[0]?).map (·.type)=some 127 by kernel_rfl));have h5:DataW.trod (λ_=>()) prog W 0 (λ_=>true) false fuel 127 cs.toList=some (.agg ((Pn.BU.zip Pn.dN).map λz=>.agg [.lit (.string z.1),.lit (.int .i64 z.2)]),p):=h4;obtain⟨hlen,hcs⟩:=JO underlying127 underlying126 underlying9 underlying3 rfl rfl (by kernel_rfl) (by kernel_rfl) (by kernel_rfl) (by kernel_rfl) h5;have hz:∀i,i<8->(Pn.BU.zip Pn.dN)[i]?=some ((Pn.BU[i]?).getD [],Dk.nth Pn.dN i):=λi hi=>by
  have:i=0\/i=1\/i=2\/i=3\/i=4\/i=5\/i=6\/i=7:=by omega
  rcases this with rfl|rfl|rfl|rfl|rfl|rfl|rfl|rfl<;>rfl
 have hcell:∀i,i<8->W.cell? ⟨0,i*2,none⟩=some (.string (wd i))/\W.cell? ⟨0,i*2+1,none⟩=some (.int .i64 (Dk.nth Pn.dN i)):=λi hi=>by
  obtain⟨k1,k2⟩:=hcs i _ (hz i hi);have e1:=World.var?_cell hg h3 (i*2);have e2:=World.var?_cell hg h3 (i*2+1);rw[e1,e2,<-Array.getElem?_toList,<-Array.getElem?_toList,k1,k2];exact⟨rfl,rfl⟩
 exact⟨alH _ _ (hcell 0 (by omega)).1,hcell⟩
namespace Dk
abbrev PBr (w:World)(y:Nat)(P:Pn.cu)(a:Option Addr)(c:Nat):Prop:=PB w y P.n a P.f.length c (nth P.v 0) (nth P.v 1) (nth P.v 2) (nth P.v 3) (nth P.v 4) (nth P.v 5) (nth P.v 6) (nth P.v 7)
structure Uz (w:World)(B y x d:Nat)(v:Value)(G:Nat->Prop)(a:Option Addr)(c:Nat)(P:Pn.cu)(m size:Int)(st:dW):Prop where
 plan:PBr w y P a c
 row:nZ w a P.f
 old:∀z,a=some z->z.block<B
 safe:KH d w B x G m size st.es st.s
 Gu:w.cell? ⟨y,10,none⟩=some (.pointer (some ⟨x,0,none⟩))
 Ku:w.cell? ⟨y,11,none⟩=some v
 fz:w.frozen? ⟨y,11,none⟩=false
 base:B<=y
 ids:AO w B v st.ids
 ya:v.ownBlock≠some y
 yg:¬G y
 vg:∀k,v.ownBlock=some k->¬G k
def rvF (y:Nat)(v:Value)(G:Nat->Prop)(k:Nat):Prop:=k=y\/v.ownBlock=some k\/G k
section
variable {w w':World}{B y x d:Nat}{v v':Value}{G A:Nat->Prop}{a:Option Addr}{c:Nat}{P:Pn.cu}{m size:Int}{st:dW}{es':List ay}{s':aJ}{qo:List Kn}
theorem Uz.own (h:Uz w B y x d v G a c P m size st):∀k,rvF y v G k->B<=k/\k<w.heap.size:=by
 rintro k (rfl|z|z)
 ·exact⟨h.base,h.plan.lt⟩
 ·exact ajz h.ids k z
 ·exact h.safe.own k z
theorem JQ {b l:Nat}{n:ByteArray}{x0 x1 x2 x3 x4 x5 x6 x7:Int}(h:PB w b n a l c x0 x1 x2 x3 x4 x5 x6 x7)(hs:w.heap.size<=w'.heap.size)(hc:∀j,j<10->w'.cell? ⟨b,j,none⟩=w.cell? ⟨b,j,none⟩):PB w' b n a l c x0 x1 x2 x3 x4 x5 x6 x7 :=
 ⟨ajc h.lt hs,by rw[hc 0 (by omega)];exact h.c0,by rw[hc 1 (by omega)];exact h.c1,by rw[hc 2 (by omega)];exact h.c2,by rw[hc 3 (by omega)];exact h.c3,by rw[hc 4 (by omega)];exact h.c4,by rw[hc 5 (by omega)];exact h.c5,by rw[hc 6 (by omega)];exact h.c6,by rw[hc 7 (by omega)];exact h.c7,by rw[hc 8 (by omega)];exact h.c8,by rw[hc 9 (by omega)];exact h.c9⟩
theorem Pj {l:List ByteArray}(h:nZ w a l)(ho:∀z,a=some z->z.block<B)(hc:aH A w w')(hn:∀k,A k->B<=k):nZ w' a l:=λk hk=>by
 obtain⟨b,o,h1,h2,h3⟩:=h k hk;exact⟨b,o,h1,ajc h2 hc.size,by rw[hc.cell (p:=⟨b,o+k,none⟩) h2 (λz=>by have:=hn b z;have:=ho _ h1;simp only at this;omega)];exact h3⟩
theorem Uz.bZ (h:Uz w B y x d v G a c P m size st)(hc:aH A w w')(hn:∀k,rvF y v G k->¬A k)(hA:∀k,A k->B<=k):Uz w' B y x d v G a c P m size st:=by
 have hy:=hn y (.inl rfl);have e:∀j,w'.cell? ⟨y,j,none⟩=w.cell? ⟨y,j,none⟩:=λj=>hc.cell (p:=⟨y,j,none⟩) h.plan.lt hy
 exact⟨JQ h.plan hc.size (λj _=>e j),Pj h.row h.old hc hA,h.old,h.safe.bZ hc (λk hk=>hn k (.inr (.inr hk))),(e 10).trans h.Gu,(e 11).trans h.Ku,(hc.frozen (p:=⟨y,11,none⟩) h.plan.lt hy).trans h.fz,h.base,h.ids.bZ hc (λg hg=>hn g (.inr (.inl hg))),h.ya,h.yg,h.vg⟩
theorem Uz.below (h:Uz w B y x d v G a c P m size st)(hb:Below w.heap.size w w'):Uz w' B y x d v G a c P m size st:=h.bZ (A:=λ_=>False) (aH.aA hb) (λ_ _ z=>z) (λ_ z=>z.elim)
theorem Uz.did (h:Uz w B y x d v G a c P m size st)(hd:OB (KH d) w w' B x G m size es' s'):∃G',Uz w' B y x d v G' a c P m size ⟨es',s',st.ids⟩/\aH G w w'/\∀k,G' k->G k\/w.heap.size<=k:=by
 obtain⟨G',k1,hc,ho⟩:=hd;have e:∀j,w'.cell? ⟨y,j,none⟩=w.cell? ⟨y,j,none⟩:=λj=>hc.cell (p:=⟨y,j,none⟩) h.plan.lt h.yg
 refine⟨G',⟨JQ h.plan hc.size (λj _=>e j),Pj h.row h.old hc (λk hk=>(h.safe.own k hk).1),h.old,k1,(e 10).trans h.Gu,(e 11).trans h.Ku,(hc.frozen (p:=⟨y,11,none⟩) h.plan.lt h.yg).trans h.fz,h.base,h.ids.bZ hc (λg hg=>h.vg g hg),h.ya,λz=>?_,λk hk z=>?_⟩,hc,ho⟩
 ·rcases ho _ z with u|u
  ·exact h.yg u
  ·have:=h.plan.lt;omega
 ·rcases ho _ z with u|u
  ·exact h.vg k hk u
  ·have:=(ajz h.ids k hk).2;omega
theorem Uz.keeps (h:Uz w B y x d v G a c P m size st)(hr:AO w' B v' qo)(hc:aH (λk=>v.ownBlock=some k) w w')(hv:∀g,v'.ownBlock=some g->v.ownBlock=some g\/w.heap.size<=g):Uz (w'.setCell ⟨y,11,none⟩ v') B y x d v' G a c P m size ⟨st.es,st.s,qo⟩/\aH (λk=>k=y\/v.ownBlock=some k) w (w'.setCell ⟨y,11,none⟩ v'):=by
 have hya:¬v.ownBlock=some y:=h.ya;have hyl:=h.plan.lt;have cs:aH (λk=>k=y) w' (w'.setCell ⟨y,11,none⟩ v'):=(aH.refl _ _).setCell (A:=λk=>k=y) (p:=⟨y,11,none⟩) (.inl rfl) _;have hc2:aH (λk=>k=y\/v.ownBlock=some k) w (w'.setCell ⟨y,11,none⟩ v'):=(hc.mono (λk _ z=>.inr z)).trans (cs.mono (λk _ z=>.inl z));have e:∀j,w'.cell? ⟨y,j,none⟩=w.cell? ⟨y,j,none⟩:=λj=>hc.cell (p:=⟨y,j,none⟩) hyl hya
 have hvy:v'.ownBlock≠some y:=λz=>by
  rcases hv y z with u|u
  ·exact hya u
  ·omega
 refine⟨⟨JQ h.plan hc2.size (λj hj=>by rw[aji _ _ _ _ (by simp<;>omega)];exact e j),Pj h.row h.old hc2 (λk hk=>?_),h.old,h.safe.bZ hc2 (λk hk z=>?_),by rw[aji _ _ _ _ (by simp),e];exact h.Gu,ajL _ _ _ ((e 11).trans h.Ku),by rw[ajt,hc.frozen (p:=⟨y,11,none⟩) hyl hya];exact h.fz,h.base,hr.bZ cs (λg hg z=>by subst z;exact hvy hg),hvy,h.yg,λk hk z=>?_⟩,hc2⟩
 ·rcases hk with z|z
  ·rw[z];exact h.base
  ·exact(ajz h.ids k z).1
 ·rcases z with z|z
  ·subst z;exact h.yg hk
  ·exact h.vg k z hk
 ·rcases hv k hk with u|u
  ·exact h.vg k u z
  ·have:=(h.safe.own k z).2;omega
end
def Rr (F0 Cs:Nat->Prop)(w wr:World)(B y x d:Nat)(a:Option Addr)(c:Nat)(P:Pn.cu)(m size:Int)(st:dW):Prop :=
 ∃v G,Uz wr B y x d v G a c P m size st/\aH F0 w wr/\(∀k,rvF y v G k->F0 k\/w.heap.size<=k)/\∀k,Cs k->k<wr.heap.size/\¬rvF y v G k
def yN (x d:Nat)(a:Option Addr)(c:Nat)(w:World)(B y:Nat)(F:Nat->Prop)(P:Pn.cu)(m size:Int)(st:dW):Prop:=∃v G,Uz w B y x d v G a c P m size st/\∀k,F k↔rvF y v G k
section
variable {F F0 Cs jR:Nat->Prop}{w wr w':World}{B y x d:Nat}{a:Option Addr}{c:Nat}{P:Pn.cu}{m size:Int}{st:dW}{es':List ay}{s':aJ}{qo:List Kn}
theorem yN.begin (h:yN x d a c w B y F P m size st):Rr F (λ_=>False) w w B y x d a c P m size st/\∀Cs wr st',Rr F Cs w wr B y x d a c P m size st'->uV (yN x d a c) w wr B y F P m size st':=by
 obtain⟨v,G,h1,h2⟩:=h;refine⟨⟨v,G,h1,aH.refl _ _,λk z=>.inl ((h2 k).2 z),λ_ z=>z.elim⟩,λCs wr st' hr=>?_⟩;obtain⟨v',G',r1,r2,r3,_⟩:=hr;exact⟨_,⟨v',G',r1,λk=>amq⟩,r2,r3⟩
theorem Rr.room (h:Rr F0 Cs w wr B y x d a c P m size st):w.heap.size<=wr.heap.size:=by
 obtain⟨_,_,_,h2,_⟩:=h;exact h2.size
theorem Rr.plan (h:Rr F0 Cs w wr B y x d a c P m size st):PBr wr y P a c/\nZ wr a P.f:=by
 obtain⟨_,_,h1,_⟩:=h;exact⟨h1.plan,h1.row⟩
theorem Rr.lt (h:Rr F0 Cs w wr B y x d a c P m size st):y<wr.heap.size:=h.plan.1.lt
theorem Rr.lF (h:Rr F0 Cs w wr B y x d a c P m size st)(hb:Below wr.heap.size wr w')(hn:∀k,jR k->Cs k\/wr.heap.size<=k/\k<w'.heap.size):Rr F0 jR w w' B y x d a c P m size st:=by
 obtain⟨v,G,h1,h2,h3,h4⟩:=h;refine⟨v,G,h1.below hb,h2.trans (aH.aA hb),h3,λk hk=>?_⟩;rcases hn k hk with z|z
 ·exact⟨ajc (h4 k z).1 hb.size,(h4 k z).2⟩
 ·exact⟨z.2,λu=>by have:=(h1.own k u).2;omega⟩
theorem Rr.below (h:Rr F0 Cs w wr B y x d a c P m size st)(hb:Below wr.heap.size wr w'):Rr F0 Cs w w' B y x d a c P m size st:=h.lF hb (λ_ z=>.inl z)
theorem Rr.aZ (h:Rr F0 Cs w wr B y x d a c P m size st)(hC:∀k,jR k->Cs k):Rr F0 jR w wr B y x d a c P m size st:=h.lF (ajb _ _) (λk hk=>.inl (hC k hk))
theorem Rr.stay (h:Rr F0 Cs w wr B y x d a c P m size st)(hb:Below wr.heap.size wr w'):aO Cs wr w':=by
 obtain⟨v,G,_,_,_,h4⟩:=h;exact⟨hb.size,λk hk=>hb.block k (h4 k hk).1⟩
theorem Rr.did (h:Rr F0 Cs w wr B y x d a c P m size st){fn:FuncId}{args:Array Value}{Q:Ending->World->Prop}
 (hc:∀G,KH d wr B x G m size st.es st.s->Calls prog fn args wr λe w'=>Q e w'/\OB (KH d) wr w' B x G m size es' s') :
 Calls prog fn args wr λe w'=>Q e w'/\Rr F0 Cs w w' B y x d a c P m size ⟨es',s',st.ids⟩/\aO Cs wr w':=by
 have hr:=h.room;obtain⟨v,G,h1,h2,h3,h4⟩:=h;refine(hc G h1.safe).mono ?_;rintro e w' ⟨hq,hu⟩;obtain⟨G',a1,a2,a3⟩:=h1.did hu;refine⟨hq,⟨v,G',a1,oI h2 a2 (λi hi z=>?_),λk hk=>?_,λk hk=>⟨ajc (h4 k hk).1 a2.size,λz=>?_⟩⟩,a2.size,λk hk=>a2.block k (h4 k hk).1 (λz=>(h4 k hk).2 (.inr (.inr z)))⟩
 ·rcases h3 i (.inr (.inr z)) with u|u
  ·exact u
  ·omega
 ·rcases hk with z|z|z
  ·exact h3 k (.inl z)
  ·exact h3 k (.inr (.inl z))
  ·rcases a3 k z with u|u
   ·exact h3 k (.inr (.inr u))
   ·exact .inr (aje hr u)
 ·rcases z with z|z|z
  ·exact(h4 k hk).2 (.inl z)
  ·exact(h4 k hk).2 (.inr (.inl z))
  ·rcases a3 k z with u|u
   ·exact(h4 k hk).2 (.inr (.inr u))
   ·have:=(h4 k hk).1;omega
theorem Rr.lU (h:Rr F0 Cs w wr B y x d a c P m size st):∃ch G,wr.cell? ⟨y,10,none⟩=some (.pointer (some ⟨x,0,none⟩))/\wr.cell? ⟨x,1,none⟩=some (.pointer (some ⟨ch,0,none⟩))/\x<wr.heap.size/\qg wr B ch G st.s:=by
 obtain⟨v,G,h1,_⟩:=h;obtain⟨ch,v1,G1,_,k2,k3,_,k5⟩:=h1.safe.lU;exact⟨ch,G1,h1.Gu,k2,k3,k5⟩
end
