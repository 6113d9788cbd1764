/- A part. -/
import Derived.Test.YtophdoapcdjnjaaGreatDoorQ15
import Derived.Test.YtophdoapcdjnjaaGreatDoorQ23
set_option maxRecDepth 100000
set_option maxHeartbeats 8000000
namespace Go.Proofs.YtophdoapcdjnjaaGreatDoor
open Go.RowKit Go.Proofs.Tryz
namespace Dk
theorem Ah (x0 x1 x2 x3:Value)(W:World):(Instr.field 120 (.agg #[x0,x1,x2,x3]) 3).run prog W=.ok x3 W:=by kernel_rfl
section
variable {SH:World->Nat->Nat->(Nat->Prop)->aX->Prop}
variable {w:World}{B' q:Nat}{F:Nat->Prop}{s:aX}
theorem Ij (H:dX SH)(t:Tk.bM)(a:Option Addr)(c:Nat)(hs:SH w B' q F s)(hk:s.Ok)(hB:B'<=w.heap.size)(hf:aB true t.f=0)(hz:t.f.size<=140737488355328) :
 Calls prog 32 #[qZ t a c,.pointer (some ⟨q,0,none⟩)] w λe w'=>e=.returned (.int .i64 (dY t s))/\Below w.heap.size w w':=by
 obtain⟨W0,hW0⟩:∃W0,W0=w.alloc (vC t a c):=⟨_,rfl⟩;have b0:Below w.heap.size w W0:=by rw[hW0];exact(Below.refl _ _).alloc (Nat.le_refl _) _
 have x0:CB W0 w.heap.size (gY t a c):=by rw[hW0];exact CB.new w (gY t a c) 24
 have PL:Hid (∀W,Below w.heap.size w W->Calls prog 58 #[.pointer (some ⟨q,0,none⟩),.string t.f] W λe w'=>e=.returned (.tuple #[.agg #[.int .i64 (oR (jB t.f s.l)).k,.int .i64 (oR (jB t.f s.l)).q,.int .i64 (oR (jB t.f s.l)).t,.string (oR (jB t.f s.l)).s,.string (oR (jB t.f s.l)).h,.string (oR (jB t.f s.l)).d],.int .i64 (oE (jB t.f s.l))])/\Below W.heap.size W w'):=aj (λW hb=>by
  have:=H.last t.f hz (H.bW (A:=λ_=>False) hs (aF.of_below hb) (λ_ _ z=>z)) hk (Nat.le_trans hB hb.size);unfold gJ at this;rw[if_pos hf,vV] at this;exact this)
 have PS:Hid (∀W,Below w.heap.size w W->Calls prog 59 #[.pointer (some ⟨q,0,none⟩)] W λe w'=>e=.returned (.agg #[.int .i64 (s.l.length:Int),.int .i64 (bU s.l:Int),.int .i64 (mG s.l),.int .i64 s.last])/\Below W.heap.size W w'):=aj (λW hb=>H.sums (H.bW (A:=λ_=>False) hs (aF.of_below hb) (λ_ _ z=>z)) hk (Nat.le_trans hB hb.size));obtain⟨hl1,hl2⟩:=hk.last;have y1:=x0.cell 1 _ rfl;have y2:=x0.cell 2 _ rfl;have y3:=x0.cell 3 _ rfl;have hlt:=x0.lt;have HB:=aj b0;have X0:=aj x0;clear hs hk b0 x0 hf;by_cases h1:t.fr=1
 ·rw[h1] at y2
  cases ho:jB t.f s.l with
  | some m =>
   have HV:Hid (dY t s=m.q):=aj (by unfold dY;rw[if_pos h1,ho]);rw[ho] at PL;rw[ah HV];clear h1 ho HV;rw[show oE (some m)=0 from rfl,show oR (some m)=m from rfl] at PL;go_enter func32,ntmps32;go_upto_region 1 with fail
   rw[<-hW0];clear hW0;go_wp2_with fail;refine(ah PL _ (ah HB)).mono ?_;rintro e w1 ⟨rfl,b1⟩;have B1:=aj (((ah HB).trans (b1.mono (ah HB).size)).alloc ((ah HB).trans (b1.mono (ah HB).size)).size (NK m));clear b1 PL PS;go_wp2_with fail;go_ret;exact⟨rfl,ah B1⟩
  | none =>
   have HV:Hid (dY t s=s.last+1):=aj (by unfold dY;rw[if_pos h1,ho]);rw[ho] at PL;rw[ah HV];clear h1 ho HV;rw[show oE none=4 from rfl,show oR none=dH from rfl] at PL;have hw1:IntKind.i64.wrap (s.last+1)=s.last+1:=by rw[IntKind.wrap_i64];omega
   have Z7:=Ah;go_enter func32,ntmps32;go_upto_region 1 with fail
   rw[<-hW0];clear hW0;go_wp2_with fail;refine(ah PL _ (ah HB)).mono ?_;rintro e w1 ⟨rfl,b1⟩;have B1:=aj (((ah HB).trans (b1.mono (ah HB).size)).alloc ((ah HB).trans (b1.mono (ah HB).size)).size (NK dH));have Wj:=aj (ah PS _ (ah B1));clear b1 PL PS;go_wp2_with fail;refine(ah Wj).mono ?_;rintro e w2 ⟨rfl,b2⟩;have B2:=aj ((ah B1).trans (b2.mono (ah B1).size));clear b2 Wj;go_wp2_with fail;go_ret;exact⟨by go_num,ah B2⟩
 ·have g1:(t.fr==1)=false:=by rw[beq_eq_false_iff_ne];exact h1
  by_cases h2:t.fr=2
  ·have HV:Hid (dY t s=s.last+1):=aj (by unfold dY;rw[if_neg h1,if_pos h2]);have hw1:IntKind.i64.wrap (s.last+1)=s.last+1:=by rw[IntKind.wrap_i64];omega
   have Z7:=Ah;rw[h2] at y2;rw[ah HV];clear h1 g1 h2;go_enter func32,ntmps32;go_upto_region 1 with fail
   rw[<-hW0];clear hW0;go_wp2_with fail;refine(ah PS _ (ah HB)).mono ?_;rintro e w2 ⟨rfl,b2⟩;have B2:=aj ((ah HB).trans (b2.mono (ah HB).size));clear b2 PS;go_wp2_with fail;go_ret;exact⟨by go_num,ah B2⟩
  ·have g2:(t.fr==2)=false:=by rw[beq_eq_false_iff_ne];exact h2
   by_cases h3:t.fr=3
   ·have HV:Hid (dY t s=t.st):=aj (by unfold dY;rw[if_neg h1,if_neg h2,if_pos h3]);rw[h3] at y2;rw[ah HV];clear h1 g1 h2 g2 h3;go_enter func32,ntmps32;go_upto_region 1 with fail
    rw[<-hW0];clear hW0;go_wp2_with fail;go_ret;exact⟨rfl,ah HB⟩
   ·have HV:Hid (dY t s=1):=aj (by unfold dY;rw[if_neg h1,if_neg h2,if_neg h3]);have g3:(t.fr==3)=false:=by rw[beq_eq_false_iff_ne];exact h3
    rw[ah HV];clear h1 h2 h3;go_enter func32,ntmps32;go_upto_region 1 with fail
    rw[<-hW0];clear hW0;go_wp2_with fail;go_ret;exact⟨rfl,ah HB⟩
end
section
variable {SH:World->Nat->Nat->(Nat->Prop)->aX->Prop}
variable {w:World}{B' q:Nat}{F:Nat->Prop}{s:aX}
theorem Qy (t:Tk.bM)(a:Option Addr)(c:Nat)(hs:jq t)(hsl:jm w a t.bo)(he:Tk.ji t≠0) :
 Calls prog 7 #[qZ t a c,.pointer (some ⟨q,0,none⟩)] w λe w'=>e=.returned (.tuple #[.pointer none,.int .i64 (Tk.ji t)])/\Below w.heap.size w w':=by
 obtain⟨W0,hW0⟩:∃W0,W0=w.alloc (vC t a c):=⟨_,rfl⟩;have b0:Below w.heap.size w W0:=by rw[hW0];exact(Below.refl _ _).alloc (Nat.le_refl _) _
 have x0:CB W0 w.heap.size (gY t a c):=by rw[hW0];exact CB.new w (gY t a c) 24
 obtain⟨hlt,t0,t1,t2,t3,t4,t5,t6,t7,t8,t9⟩:=TB.of x0;have PC:=aj (xZ t a c W0 hs (bY hsl b0));have HB:=aj b0;have g0:(Tk.ji t !=0)=true:=by simpa using he
 obtain⟨E,hE⟩:∃E,Tk.ji t=E:=⟨_,rfl⟩;rw[hE] at PC g0;rw[hE];clear x0 b0 hs hsl he hE;go_enter func7,ntmps7;go_upto_region 1 with fail
 rw[<-hW0];clear hW0;go_wp2_with fail;refine(ah PC).mono ?_;rintro e w1 ⟨rfl,b1⟩;have B1:=aj ((ah HB).trans (b1.mono (ah HB).size));clear b1 PC;go_wp2_with fail;go_ret2;exact⟨rfl,ah B1⟩
end
theorem Nums.low {w:World}{B B':Nat}{v:Value}{l:List Int}(h:Nums w B v l)(hB:B'<=B):Nums w B' v l:=by
 refine⟨h.1,?_⟩;rcases h.2 with y|⟨g,cap,cur,h1,h2,r⟩
 ·exact .inl y
 ·exact .inr ⟨g,cap,cur,h1,Nat.le_trans hB h2,r⟩
abbrev Z8 (t:Tk.bM)(a:Option Addr)(c:Nat)(pl:Int):Obj:=.cells #[.string t.n,.string t.f,.int .i64 t.fr,.int .i64 t.st,.int .i64 t.ack,.int .i64 t.wait,.slice a t.bo.length c,.int .i64 t.mo,.int .i64 t.pe,.bool t.pu,.int .i64 pl,.slice none 0 0,.int .i64 0] 76
theorem Cm.new {w:World}{B:Nat}(t:Tk.bM)(pl:Int)(a:Option Addr)(c:Nat)(hN:Nums w B (.slice a t.bo.length c) t.bo)(hB:B<=w.heap.size) :
 Cm (w.alloc (Z8 t a c pl)) B w.heap.size ⟨t,pl,[],0⟩ a c (.slice none 0 0):=by
 have hal:∀z,a=some z->B<=z.block/\z.block<w.heap.size:=λz hz=>by
  subst hz;exact World.ownsRow.lt hN z.block rfl
 obtain⟨a1,c1,e,hsl⟩:=hN.sl
 cases e
 have b0:Below w.heap.size w (w.alloc (Z8 t a c pl)):=(Below.refl _ _).alloc (Nat.le_refl _) _;refine⟨⟨by simp,by simp,by simp,by simp,by simp,by simp,by simp,by simp,by simp,by simp,by simp⟩,by simp,by simp,by simp,fK.empty _ _,bY hsl b0,λi=>World.frozen?_alloc_new _ _ _ i,hB,by simp[Value.ownBlock],λz hz=>⟨by have:=(hal z hz).2;omega,by simp[Value.ownBlock]⟩,λz hz=>⟨(hal z hz).1,by have:=(hal z hz).2;simp;omega⟩⟩
abbrev Tq (g:Nat)(t:Tk.bM)(a:Option Addr)(c:Nat)(W:World):Prop:=W.cell? ⟨g,0,none⟩=some (.string t.n)/\W.cell? ⟨g,1,none⟩=some (.string t.f)/\W.cell? ⟨g,2,none⟩=some (.int .i64 t.fr)/\W.cell? ⟨g,3,none⟩=some (.int .i64 t.st)/\W.cell? ⟨g,4,none⟩=some (.int .i64 t.ack)/\W.cell? ⟨g,5,none⟩=some (.int .i64 t.wait)/\W.cell? ⟨g,6,none⟩=some (.slice a t.bo.length c)/\W.cell? ⟨g,7,none⟩=some (.int .i64 t.mo)/\W.cell? ⟨g,8,none⟩=some (.int .i64 t.pe)/\W.cell? ⟨g,9,none⟩=some (.bool t.pu)
theorem FH {w:World}{b:Nat}{t:Tk.bM}{a:Option Addr}{c:Nat}(h:TB w b t a c):Tq b t a c w:=⟨h.c0,h.c1,h.c2,h.c3,h.c4,h.c5,h.c6,h.c7,h.c8,h.c9⟩
section
variable {SH:World->Nat->Nat->(Nat->Prop)->aX->Prop}
variable {w:World}{B' q:Nat}{F:Nat->Prop}{s:aX}
theorem Qz (H:dX SH)(t:Tk.bM)(a:Option Addr)(c:Nat)(hs:jq t)(hsl:jm w a t.bo)(he:Tk.ji t=0)(h:SH w B' q F s)(hk:s.Ok)(hB:B'<=w.heap.size) :
 Calls prog 7 #[qZ t a c,.pointer (some ⟨q,0,none⟩)] w λe w'=>(∃b a' c',e=.returned (.tuple #[.pointer (some ⟨b,0,none⟩),.int .i64 0])/\Cm w' w.heap.size b ⟨t,dY t s,[],0⟩ a' c' (.slice none 0 0))/\Below w.heap.size w w':=by
 obtain⟨W0,hW0⟩:∃W0,W0=w.alloc (vC t a c):=⟨_,rfl⟩;have b0:Below w.heap.size w W0:=by rw[hW0];exact(Below.refl _ _).alloc (Nat.le_refl _) _
 have x0:CB W0 w.heap.size (gY t a c):=by rw[hW0];exact CB.new w (gY t a c) 24
 obtain⟨_,hfe,hbl,_,_⟩:=Tk.jw he;have PC:=aj (xZ t a c W0 hs (bY hsl b0));have PY:Hid (∀W,Below w.heap.size w W->Calls prog 31 #[qZ t a c] W λe w'=>∃a' c',e=.returned (qZ t a' c')/\Nums w' W.heap.size (.slice a' t.bo.length c') t.bo/\Below W.heap.size W w'):=aj (λW hb=>Ag t a c W hs (by omega) (bY hsl hb));have PL:Hid (∀W,Below w.heap.size w W->Calls prog 32 #[qZ t a c,.pointer (some ⟨q,0,none⟩)] W λe w'=>e=.returned (.int .i64 (dY t s))/\Below W.heap.size W w'):=aj (λW hb=>Ij H t a c (H.bW (A:=λ_=>False) h (aF.of_below hb) (λ_ _ z=>z)) hk (Nat.le_trans hB hb.size) hfe hs.filt)
 obtain⟨pl,hpl⟩:∃pl,dY t s=pl:=⟨_,rfl⟩;rw[hpl] at PL;rw[hpl];rw[he] at PC;have HX:=aj x0;have HB:=aj b0;clear x0 b0 hs hsl he h hk hB hfe hbl hpl;go_enter func7,ntmps7;go_upto_region 1 with fail
 rw[<-hW0];clear hW0;obtain⟨t0,t1,t2,t3,t4,t5,t6,t7,t8,t9⟩:=FH (TB.of (ah HX));go_upto_region 2 with (go_at_call 30;refine(ah PC).mono ?_;rintro e w1 ⟨rfl,b1⟩)
 have X1:=aj ((ah HX).next b1);have B1:=aj ((ah HB).trans (b1.mono (ah HB).size));clear b1 PC HX HB t0 t1 t2 t3 t4 t5 t6 t7 t8 t9;go_upto_region 4 with fail
 have B2:Hid (Below w.heap.size w w1.drew):=aj (ah B1).drew;have y1:=FH (TB.of (ah X1));have HT:Hid (∀W,Below w1.drew.heap.size w1.drew W->Tq w.heap.size t a c W):=aj (λW hb=>FH (TB.of ((ah X1).next ((Below.refl w1.heap.size w1).drew.trans hb))));have PY1:=aj (ah PY w1.drew (ah B2));have hz1:w1.drew.heap.size=w1.heap.size:=rfl;have hws:w.heap.size<=w1.drew.heap.size:=(ah B2).size;have k0:Tq w.heap.size t a c w1.drew:=y1;clear y1 X1 B1 PY hz1;go_region_held_law (Tq w.heap.size t a c) (first|with_reducible assumption|exact ah HT _ ((ah HB3).alloc (ah HB3).size _))
  (first
   | (
    go_at_call 31;with_reducible refine(ah PY1).mono ?_;rintro e w2 ⟨a2,c2,rfl,hN,b2⟩
    have k2:Tq w.heap.size t a c w2:=ah HT _ b2
    have PL2:=aj (ah PL w2 ((ah B2).trans (b2.mono hws)));have HN:=aj hN;have HB2:=aj b2;clear hN b2)
   | (
    go_at_call 32;with_reducible refine(ah PL2).mono ?_;rintro e w3 ⟨rfl,b3⟩
    have k3:Tq w.heap.size t a c w3:=ah HT _ ((ah HB2).trans (b3.mono (ah HB2).size));have HB3:=aj ((ah HB2).trans (b3.mono (ah HB2).size));have HN3:=aj ((ah HN).below b3);clear b3))
 all_goals
  have hw3:w.heap.size<=w3.heap.size:=Nat.le_trans hws (ah HB3).size
  have HF:=aj (Cm.new t pl a2 c2 ((ah HN3).low hws) hw3)
  have HG:Hid (Below w.heap.size w (w3.alloc (Z8 t a2 c2 pl))):=aj (((ah B2).trans ((ah HB3).mono hws)).alloc hw3 _)
  clear PY1 PL2 HN HB2 HB3 HN3 HT B2
  go_wp2_with fail
  go_ret2
  exact⟨⟨_,_,_,rfl,ah HF⟩,ah HG⟩
end
