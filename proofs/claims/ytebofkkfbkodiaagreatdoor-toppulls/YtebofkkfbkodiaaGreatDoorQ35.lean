/- A part. -/
import Derived.Test.YtebofkkfbkodiaaGreatDoorQ23
import Derived.Test.YtebofkkfbkodiaaGreatDoorQ31
set_option maxRecDepth 100000
set_option maxHeartbeats 8000000
namespace Go.Proofs.YtebofkkfbkodiaaGreatDoor
open Go.RowKit Go.Proofs.Tryz
namespace Dk
theorem JK (x0 x1 x2 x3:Value)(W:I):(Instr.field 182 (.agg #[x0,x1,x2,x3]) 3).run prog W=.ok x3 W:=by kernel_rfl
section
variable {SH:I->Nat->Nat->af->aH->Prop}
variable {w:I}{B' q:Nat}{F:af}{s:aH}
theorem UD (H:jF SH)(t:Tk.bJ)(a:Option Addr)(c:Nat)(hs:SH w B' q F s)(hk:s.Ok)(hB:B'<=w.heap.size)(hf:aC true t.f=0)(hz:t.f.size<=140737488355328) :
 Calls prog 79 #[sJ t a c,ae q] w λe w'=>e=.returned (aa (eH t s))/\ai w w':=by
 obtain⟨W0,hW0⟩:∃W0,W0=w.alloc (rY t a c):=⟨_,rfl⟩;have b0:ai w W0:=by rw[hW0];exact ax _ _
 have x0:CB W0 w.heap.size (jZ t a c):=by rw[hW0];exact CB.new w (jZ t a c) 98
 have PL:Hid (∀W,ai w W->Calls prog 124 #[ae q,.string t.f] W λe w'=>e=.returned (.tuple #[.agg #[aa (oR (ni t.f s.l)).k,aa (oR (ni t.f s.l)).q,aa (oR (ni t.f s.l)).t,.string (oR (ni t.f s.l)).s,.string (oR (ni t.f s.l)).h,.string (oR (ni t.f s.l)).d],aa (oE (ni t.f s.l))])/\ai W w'):=aj (λW hb=>by
  have:=H.last t.f hz (H.aF (A:=λ_=>False) hs (aA.of_below hb) (λ_ _ z=>z)) hk (ajA hB hb.size);unfold jk at this;rw[if_pos hf,DU] at this;exact this)
 have PS:Hid (∀W,ai w W->Calls prog 100 #[ae q] W λe w'=>e=.returned (.agg #[aa (s.l.length:Int),aa (dG s.l:Int),aa (jE s.l),aa s.last])/\ai W w'):=aj (λW hb=>H.sums (H.aF (A:=λ_=>False) hs (aA.of_below hb) (λ_ _ z=>z)) hk (ajA hB hb.size));obtain⟨hl1,hl2⟩:=hk.last;have y1:=x0.cell 1 _ rfl;have y2:=x0.cell 2 _ rfl;have y3:=x0.cell 3 _ rfl;have hlt:=x0.lt;have HB:=aj b0;have X0:=aj x0;clear hs hk b0 x0 hf;by_cases h1:t.fr=1
 ·rw[h1] at y2
  cases ho:ni t.f s.l with
  | some m =>
   have HV:Hid (eH t s=m.q):=aj (by unfold eH;rw[if_pos h1,ho]);rw[ho] at PL;rw[ah HV];clear h1 ho HV;rw[show oE (some m)=0 from rfl,show oR (some m)=m from rfl] at PL;go_enter func79,ntmps79;go_upto_region 1 with fail
   rw[<-hW0];clear hW0;go_wp2_with fail;refine(ah PL _ (ah HB)).mono ?_;rintro e w1 ⟨rfl,b1⟩;have B1:=aj (((ah HB).trans (b1.mono (ah HB).size)).alloc ((ah HB).trans (b1.mono (ah HB).size)).size (ZY m));clear b1 PL PS;go_wp2_with fail;go_ret;exact⟨rfl,ah B1⟩
  | none =>
   have HV:Hid (eH t s=s.last+1):=aj (by unfold eH;rw[if_pos h1,ho]);rw[ho] at PL;rw[ah HV];clear h1 ho HV;rw[show oE none=4 from rfl,show oR none=eU from rfl] at PL;have hw1:IntKind.i64.wrap (s.last+1)=s.last+1:=by rw[akl];omega
   have aiz:=JK;go_enter func79,ntmps79;go_upto_region 1 with fail
   rw[<-hW0];clear hW0;go_wp2_with fail;refine(ah PL _ (ah HB)).mono ?_;rintro e w1 ⟨rfl,b1⟩;have B1:=aj (((ah HB).trans (b1.mono (ah HB).size)).alloc ((ah HB).trans (b1.mono (ah HB).size)).size (ZY eU));have PS1:=aj (ah PS _ (ah B1));clear b1 PL PS;go_wp2_with fail;refine(ah PS1).mono ?_;rintro e w2 ⟨rfl,b2⟩;have B2:=aj ((ah B1).trans (b2.mono (ah B1).size));clear b2 PS1;go_wp2_with fail;go_ret;exact⟨by go_num,ah B2⟩
 ·have g1:(t.fr==1)=false:=by rw[ajM];exact h1
  by_cases h2:t.fr=2
  ·have HV:Hid (eH t s=s.last+1):=aj (by unfold eH;rw[if_neg h1,if_pos h2]);have hw1:IntKind.i64.wrap (s.last+1)=s.last+1:=by rw[akl];omega
   have aiz:=JK;rw[h2] at y2;rw[ah HV];clear h1 g1 h2;go_enter func79,ntmps79;go_upto_region 1 with fail
   rw[<-hW0];clear hW0;go_wp2_with fail;refine(ah PS _ (ah HB)).mono ?_;rintro e w2 ⟨rfl,b2⟩;have B2:=aj ((ah HB).trans (b2.mono (ah HB).size));clear b2 PS;go_wp2_with fail;go_ret;exact⟨by go_num,ah B2⟩
  ·have g2:(t.fr==2)=false:=by rw[ajM];exact h2
   by_cases h3:t.fr=3
   ·have HV:Hid (eH t s=t.st):=aj (by unfold eH;rw[if_neg h1,if_neg h2,if_pos h3]);rw[h3] at y2;rw[ah HV];clear h1 g1 h2 g2 h3;go_enter func79,ntmps79;go_upto_region 1 with fail
    rw[<-hW0];clear hW0;go_wp2_with fail;go_ret;exact⟨rfl,ah HB⟩
   ·have HV:Hid (eH t s=1):=aj (by unfold eH;rw[if_neg h1,if_neg h2,if_neg h3]);have g3:(t.fr==3)=false:=by rw[ajM];exact h3
    rw[ah HV];clear h1 h2 h3;go_enter func79,ntmps79;go_upto_region 1 with fail
    rw[<-hW0];clear hW0;go_wp2_with fail;go_ret;exact⟨rfl,ah HB⟩
end
section
variable {SH:I->Nat->Nat->af->aH->Prop}
variable {w:I}{B' q:Nat}{F:af}{s:aH}
theorem acw (t:Tk.bJ)(a:Option Addr)(c:Nat)(hs:jU t)(hsl:kK w a t.bo)(he:Tk.iV t≠0) :
 Calls prog 40 #[sJ t a c,ae q] w λe w'=>e=.returned (.tuple #[.pointer none,aa (Tk.iV t)])/\ai w w':=by
 obtain⟨W0,hW0⟩:∃W0,W0=w.alloc (rY t a c):=⟨_,rfl⟩;have b0:ai w W0:=by rw[hW0];exact ax _ _
 have x0:CB W0 w.heap.size (jZ t a c):=by rw[hW0];exact CB.new w (jZ t a c) 98
 obtain⟨hlt,t0,t1,t2,t3,t4,t5,t6,t7,t8,t9⟩:=TB.of x0;have PC:=aj (xP t a c W0 hs (jO hsl b0));have HB:=aj b0;have g0:(Tk.iV t !=0)=true:=by simpa using he
 obtain⟨E,hE⟩:∃E,Tk.iV t=E:=⟨_,rfl⟩;rw[hE] at PC g0;rw[hE];clear x0 b0 hs hsl he hE;go_enter func40,ntmps40;go_upto_region 1 with fail
 rw[<-hW0];clear hW0;go_wp2_with fail;refine(ah PC).mono ?_;rintro e w1 ⟨rfl,b1⟩;have B1:=aj ((ah HB).trans (b1.mono (ah HB).size));clear b1 PC;go_wp2_with fail;go_ret2;exact⟨rfl,ah B1⟩
end
theorem Nums.low {w:I}{B B':Nat}{v:Value}{l:List Int}(h:Nums w B v l)(hB:B'<=B):Nums w B' v l:=by
 refine⟨h.1,?_⟩;rcases h.2 with y|⟨g,cap,cur,h1,h2,r⟩
 ·exact .inl y
 ·exact .inr ⟨g,cap,cur,h1,ajA hB h2,r⟩
abbrev cmO (t:Tk.bJ)(a:Option Addr)(c:Nat)(pl:Int):Obj:=.cells #[.string t.n,.string t.f,aa t.fr,aa t.st,aa t.ack,aa t.wait,.slice a t.bo.length c,aa t.mo,aa t.pe,.bool t.pu,aa pl,.slice none 0 0,aa 0] 145
theorem Cm.new {w:I}{B:Nat}(t:Tk.bJ)(pl:Int)(a:Option Addr)(c:Nat)(hN:Nums w B (.slice a t.bo.length c) t.bo)(hB:B<=w.heap.size) :
 Cm (w.alloc (cmO t a c pl)) B w.heap.size ⟨t,pl,[],0⟩ a c (.slice none 0 0):=by
 have hal:∀z,a=some z->B<=z.block/\z.block<w.heap.size:=λz hz=>by
  subst hz;exact aks hN z.block rfl
 obtain⟨a1,c1,e,hsl⟩:=hN.sl
 cases e
 have b0:ai w (w.alloc (cmO t a c pl)):=ax _ _;refine⟨⟨by simp,by simp,by simp,by simp,by simp,by simp,by simp,by simp,by simp,by simp,by simp⟩,by simp,by simp,by simp,jc.empty _ _,jO hsl b0,λi=>akp _ _ _ i,hB,by simp[Value.ownBlock],λz hz=>⟨by have:=(hal z hz).2;omega,by simp[Value.ownBlock]⟩,λz hz=>⟨(hal z hz).1,by have:=(hal z hz).2;simp;omega⟩⟩
abbrev Tq (g:Nat)(t:Tk.bJ)(a:Option Addr)(c:Nat)(W:I):Prop:=W.cell? (aq g 0)=some (.string t.n)/\W.cell? (aq g 1)=some (.string t.f)/\W.cell? (aq g 2)=some (aa t.fr)/\W.cell? (aq g 3)=some (aa t.st)/\W.cell? (aq g 4)=some (aa t.ack)/\W.cell? (aq g 5)=some (aa t.wait)/\W.cell? (aq g 6)=some (.slice a t.bo.length c)/\W.cell? (aq g 7)=some (aa t.mo)/\W.cell? (aq g 8)=some (aa t.pe)/\W.cell? (aq g 9)=some (.bool t.pu)
theorem acy {w:I}{b:Nat}{t:Tk.bJ}{a:Option Addr}{c:Nat}(h:TB w b t a c):Tq b t a c w:=⟨h.c0,h.c1,h.c2,h.c3,h.c4,h.c5,h.c6,h.c7,h.c8,h.c9⟩
section
variable {SH:I->Nat->Nat->af->aH->Prop}
variable {w:I}{B' q:Nat}{F:af}{s:aH}
theorem acz (H:jF SH)(t:Tk.bJ)(a:Option Addr)(c:Nat)(hs:jU t)(hsl:kK w a t.bo)(he:Tk.iV t=0)(h:SH w B' q F s)(hk:s.Ok)(hB:B'<=w.heap.size) :
 Calls prog 40 #[sJ t a c,ae q] w λe w'=>(∃b a' c',e=.returned (.tuple #[ae b,aa 0])/\Cm w' w.heap.size b ⟨t,eH t s,[],0⟩ a' c' (.slice none 0 0))/\ai w w':=by
 obtain⟨W0,hW0⟩:∃W0,W0=w.alloc (rY t a c):=⟨_,rfl⟩;have b0:ai w W0:=by rw[hW0];exact ax _ _
 have x0:CB W0 w.heap.size (jZ t a c):=by rw[hW0];exact CB.new w (jZ t a c) 98
 obtain⟨_,hfe,hbl,_,_⟩:=Tk.Bg he;have PC:=aj (xP t a c W0 hs (jO hsl b0));have PY:Hid (∀W,ai w W->Calls prog 78 #[sJ t a c] W λe w'=>∃a' c',e=.returned (sJ t a' c')/\Nums w' W.heap.size (.slice a' t.bo.length c') t.bo/\ai W w'):=aj (λW hb=>JG t a c W hs (by omega) (jO hsl hb));have PL:Hid (∀W,ai w W->Calls prog 79 #[sJ t a c,ae q] W λe w'=>e=.returned (aa (eH t s))/\ai W w'):=aj (λW hb=>UD H t a c (H.aF (A:=λ_=>False) h (aA.of_below hb) (λ_ _ z=>z)) hk (ajA hB hb.size) hfe hs.filt)
 obtain⟨pl,hpl⟩:∃pl,eH t s=pl:=⟨_,rfl⟩;rw[hpl] at PL;rw[hpl];rw[he] at PC;have HX:=aj x0;have HB:=aj b0;clear x0 b0 hs hsl he h hk hB hfe hbl hpl;go_enter func40,ntmps40;go_upto_region 1 with fail
 rw[<-hW0];clear hW0;obtain⟨t0,t1,t2,t3,t4,t5,t6,t7,t8,t9⟩:=acy (TB.of (ah HX));go_upto_region 2 with (go_at_call 76;refine(ah PC).mono ?_;rintro e w1 ⟨rfl,b1⟩)
 have X1:=aj ((ah HX).next b1);have B1:=aj ((ah HB).trans (b1.mono (ah HB).size));clear b1 PC HX HB t0 t1 t2 t3 t4 t5 t6 t7 t8 t9;go_upto_region 4 with fail
 have B2:Hid (ai w w1.drew):=aj (ah B1).drew;have y1:=acy (TB.of (ah X1));have HT:Hid (∀W,Below w1.drew.heap.size w1.drew W->Tq w.heap.size t a c W):=aj (λW hb=>acy (TB.of ((ah X1).next ((agP w1.heap.size w1).drew.trans hb))));have PY1:=aj (ah PY w1.drew (ah B2));have hz1:w1.drew.heap.size=w1.heap.size:=rfl;have hws:w.heap.size<=w1.drew.heap.size:=(ah B2).size;have k0:Tq w.heap.size t a c w1.drew:=y1;clear y1 X1 B1 PY hz1;go_region_held_law (Tq w.heap.size t a c) (first|with_reducible assumption|exact ah HT _ ((ah HB3).alloc (ah HB3).size _))
  (first
   | (
    go_at_call 78;with_reducible refine(ah PY1).mono ?_;rintro e w2 ⟨a2,c2,rfl,hN,b2⟩
    have k2:Tq w.heap.size t a c w2:=ah HT _ b2
    have PL2:=aj (ah PL w2 ((ah B2).trans (b2.mono hws)));have HN:=aj hN;have HB2:=aj b2;clear hN b2)
   | (
    go_at_call 79;with_reducible refine(ah PL2).mono ?_;rintro e w3 ⟨rfl,b3⟩
    have k3:Tq w.heap.size t a c w3:=ah HT _ ((ah HB2).trans (b3.mono (ah HB2).size));have HB3:=aj ((ah HB2).trans (b3.mono (ah HB2).size));have HN3:=aj ((ah HN).below b3);clear b3))
 all_goals
  have hw3:w.heap.size<=w3.heap.size:=ajA hws (ah HB3).size
  have HF:=aj (Cm.new t pl a2 c2 ((ah HN3).low hws) hw3)
  have HG:Hid (ai w (w3.alloc (cmO t a2 c2 pl))):=aj (((ah B2).trans ((ah HB3).mono hws)).alloc hw3 _)
  clear PY1 PL2 HN HB2 HB3 HN3 HT B2
  go_wp2_with fail
  go_ret2
  exact⟨⟨_,_,_,rfl,ah HF⟩,ah HG⟩
end
