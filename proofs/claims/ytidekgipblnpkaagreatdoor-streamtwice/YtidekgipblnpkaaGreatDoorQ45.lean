/- A part of the proof. -/
import Derived.Test.YtidekgipblnpkaaGreatDoorQ11
import Derived.Test.YtidekgipblnpkaaGreatDoorQ44
set_option maxRecDepth 100000
set_option maxHeartbeats 8000000
namespace Go.Proofs.YtidekgipblnpkaaGreatDoor.Dk
open Go.RowKit Go.Proofs.Tryz
theorem agX {A:Nat->Prop}{w w':World}(h:aF A w w'):Go.Proofs.YtidekgipblnpkaaGreatDoor.aF A w w':=⟨h.os,h.tape,h.output,h.size,h.block⟩
theorem aeB {A:Nat->Prop}{w w':World}(h:Go.Proofs.YtidekgipblnpkaaGreatDoor.aF A w w'):aF A w w':=⟨h.os,h.tape,h.output,h.size,h.block⟩
structure qO (w:World)(B q:Nat)(v u:Value)(l:List Rc)(es:List bD)(last:Int):Prop where
 c0:w.cell? ⟨q,0,none⟩=some v
 c1:w.cell? ⟨q,1,none⟩=some u
 c2:w.cell? ⟨q,2,none⟩=some (.int .i64 last)
 free:∀j,w.frozen? ⟨q,j,none⟩=false
 base:B<=q
 lt:q<w.heap.size
 msgs:bK w B v l
 cnts:eU w B u es
 av:v.ownBlock≠some q
 au:u.ownBlock≠some q
 apart:∀g,v.ownBlock=some g->u.ownBlock≠some g
def qH (q:Nat)(v u:Value)(k:Nat):Prop:=k=q\/v.ownBlock=some k\/u.ownBlock=some k
section
variable {w w':World}{B q:Nat}{v u v' u':Value}{l l':List Rc}{es es':List bD}{last last':Int}
theorem qO.keeps (h:qO w B q v u l es last):fJ 1 w B q u es:=⟨h.c1,h.free 1,h.base,h.lt,h.cnts,h.au⟩
theorem qO.own (h:qO w B q v u l es last):∀k,qH q v u k->B<=k/\k<w.heap.size:=by
 rintro k (rfl|z|z)
 ·exact⟨h.base,h.lt⟩
 ·exact h.msgs.lt k z
 ·exact h.cnts.lt k z
theorem qO.dh {A:Nat->Prop}(h:qO w B q v u l es last)(hc:aF A w w')(hn:∀k,qH q v u k->¬A k):qO w' B q v u l es last:=by
 have hq:=hn q (.inl rfl);refine⟨by rw[hc.cell (p:=⟨q,0,none⟩) h.lt hq];exact h.c0,by rw[hc.cell (p:=⟨q,1,none⟩) h.lt hq];exact h.c1,by rw[hc.cell (p:=⟨q,2,none⟩) h.lt hq];exact h.c2,λj=>by rw[hc.frozen (p:=⟨q,j,none⟩) h.lt hq];exact h.free j,h.base,Nat.lt_of_lt_of_le h.lt hc.size,h.msgs.dh hc (λg hg=>hn g (.inr (.inl hg))),h.cnts.dh (agX hc) (λg hg=>hn g (.inr (.inr hg))),h.av,h.au,h.apart⟩
theorem qO.below (h:qO w B q v u l es last)(hb:Below w.heap.size w w'):qO w' B q v u l es last:=h.dh (A:=λ_=>False) (aF.of_below hb) (λ_ _ z=>z)
theorem qO.upd (h:qO w B q v u l es last)(hu:oG 1 w w' B q u es'):∃u',qO w' B q v u' l es' last/\aF (foot q u) w w'/\∀g,u'.ownBlock=some g->u.ownBlock=some g\/w.heap.size<=g:=by
 obtain⟨u',k,hc,hs,ho⟩:=hu;have hc:=aeB hc;have hf:∀g,v.ownBlock=some g->¬foot q u g:=λg hg z=>by
  rcases z with rfl|z
  ·exact h.av hg
  ·exact h.apart g hg z
 refine⟨u',⟨by rw[hs.cell 0 (by decide)];exact h.c0,k.cell,by rw[hs.cell 2 (by decide)];exact h.c2,λj=>by rw[hs.free j];exact h.free j,h.base,k.lt,h.msgs.dh hc hf,k.arr,h.av,k.apart,λg hg z=>?_⟩,hc,ho⟩;rcases ho g z with y|y
 ·exact h.apart g hg y
 ·have:=(h.msgs.lt g hg).2;omega
theorem qO.store (h:qO w B q v u l es last)(hc:aF (λk=>v.ownBlock=some k) w w')(ha:bK w' B v' l')(hv:∀g,v'.ownBlock=some g->v.ownBlock=some g\/w.heap.size<=g) :
 qO (w'.setCell ⟨q,0,none⟩ v') B q v' u l' es last/\aF (λk=>k=q\/v.ownBlock=some k) w (w'.setCell ⟨q,0,none⟩ v'):=by
 have hne:v'.ownBlock≠some q:=λe=>by
  rcases hv q e with z|z
  ·exact h.av z
  ·have:=h.lt;omega
 have c0:w'.cell? ⟨q,0,none⟩=some v:=by rw[hc.cell (p:=⟨q,0,none⟩) h.lt h.av];exact h.c0
 have c1:w'.cell? ⟨q,1,none⟩=some u:=by rw[hc.cell (p:=⟨q,1,none⟩) h.lt h.av];exact h.c1
 have c2:w'.cell? ⟨q,2,none⟩=some (.int .i64 last):=by rw[hc.cell (p:=⟨q,2,none⟩) h.lt h.av];exact h.c2
 have cs:aF (λk=>k=q) w' (w'.setCell ⟨q,0,none⟩ v'):=aF.setCell (A:=λk=>k=q) (p:=⟨q,0,none⟩) (aF.refl _ _) (.inl rfl) _;refine⟨⟨World.cell?_setCell_same _ _ _ c0,?_,?_,λj=>?_,h.base,?_,?_,?_,hne,h.au,λg hg z=>?_⟩,?_⟩
 ·rw[World.cell?_setCell_other _ _ _ _ (by simp)];exact c1
 ·rw[World.cell?_setCell_other _ _ _ _ (by simp)];exact c2
 ·rw[World.frozen?_setCell,hc.frozen (p:=⟨q,j,none⟩) h.lt h.av];exact h.free j
 ·have:=hc.size;have:=h.lt;simp[World.setCell];omega
 ·exact ha.dh cs (λg hg e=>hne (by rw[<-e];exact hg))
 ·exact(h.cnts.dh (agX hc) (λg hg z=>h.apart g z hg)).dh (agX cs) (λg hg e=>h.au (by rw[<-e];exact hg))
 ·rcases hv g hg with y|y
  ·exact h.apart g y z
  ·have:=(h.cnts.lt g z).2;omega
 ·exact(hc.mono (λk _ z=>.inr z)).setCell (.inl (.inl rfl)) _
theorem qO.number (h:qO w B q v u l es last)(n:Int):qO (w.setCell ⟨q,2,none⟩ (.int .i64 n)) B q v u l es n/\aF (λk=>k=q) w (w.setCell ⟨q,2,none⟩ (.int .i64 n)):=by
 have cs:aF (λk=>k=q) w (w.setCell ⟨q,2,none⟩ (.int .i64 n)):=aF.setCell (A:=λk=>k=q) (p:=⟨q,2,none⟩) (aF.refl _ _) (.inl rfl) _;refine⟨⟨?_,?_,World.cell?_setCell_same _ _ _ h.c2,λj=>?_,h.base,?_,?_,?_,h.av,h.au,h.apart⟩,cs⟩
 ·rw[World.cell?_setCell_other _ _ _ _ (by simp)];exact h.c0
 ·rw[World.cell?_setCell_other _ _ _ _ (by simp)];exact h.c1
 ·rw[World.frozen?_setCell];exact h.free j
 ·have:=h.lt;simpa[World.setCell] using this
 ·exact h.msgs.dh cs (λg hg e=>h.av (by rw[<-e];exact hg))
 ·exact h.cnts.dh (agX cs) (λg hg e=>h.au (by rw[<-e];exact hg))
end
def Moves (w w':World)(B q:Nat)(v u:Value)(l':List Rc)(es':List bD)(last':Int):Prop:=∃v' u',qO w' B q v' u' l' es' last'/\aF (qH q v u) w w'/\∀g,qH q v' u' g->qH q v u g\/w.heap.size<=g
section
variable {w w1 w':World}{B q:Nat}{v u v1 u1:Value}{l l1 l':List Rc}{es es1 es':List bD}{last akJ last':Int}
theorem Moves.same (h:qO w B q v u l es last)(hb:Below w.heap.size w w'):Moves w w' B q v u l es last:=⟨v,u,h.below hb,aF.of_below hb,λ_ hg=>.inl hg⟩
theorem Moves.seq (c1:aF (qH q v u) w w1)(o1:∀g,qH q v1 u1 g->qH q v u g\/w.heap.size<=g)(m:Moves w1 w' B q v1 u1 l' es' last'):Moves w w' B q v u l' es' last':=by
 obtain⟨v2,u2,s2,c2,o2⟩:=m;refine⟨v2,u2,s2,?_,λg hg=>?_⟩
 ·refine⟨c2.os.trans c1.os,c2.tape.trans c1.tape,c2.output.trans c1.output,Nat.le_trans c1.size c2.size,λk hk hn=>?_⟩;rw[c2.block k (by have:=c1.size;omega) (λz=>?_)]
  ·exact c1.block k hk hn
  ·rcases o1 k z with y|y
   ·exact hn y
   ·omega
 ·rcases o2 g hg with y|y
  ·exact o1 g y
  ·right;have:=c1.size;omega
theorem Moves.behind (hb:Below w.heap.size w w1)(a:Moves w1 w' B q v u l' es' last'):Moves w w' B q v u l' es' last':=by
 obtain⟨v',u',s,c,o⟩:=a;refine⟨v',u',s,(aF.of_below hb).trans c,λg hg=>?_⟩;rcases o g hg with y|y
 ·exact .inl y
 ·right;have:=hb.size;omega
theorem Moves.upd (h:qO w B q v u l es last)(hu:oG 1 w w' B q u es'):Moves w w' B q v u l es' last:=by
 obtain⟨u',s,c,o⟩:=h.upd hu;refine⟨v,u',s,c.mono (λk _ z=>?_),λg hg=>?_⟩
 ·rcases z with z|z
  ·exact .inl z
  ·exact .inr (.inr z)
 ·rcases hg with z|z|z
  ·exact .inl (.inl z)
  ·exact .inl (.inr (.inl z))
  ·rcases o g z with y|y
   ·exact .inl (.inr (.inr y))
   ·exact .inr y
theorem Moves.store {v':Value}(h:qO w B q v u l es last)(hc:aF (λk=>v.ownBlock=some k) w w')(ha:bK w' B v' l')(hv:∀g,v'.ownBlock=some g->v.ownBlock=some g\/w.heap.size<=g):Moves w (w'.setCell ⟨q,0,none⟩ v') B q v u l' es last:=by
 obtain⟨s,c⟩:=h.store hc ha hv;refine⟨v',u,s,c.mono (λk _ z=>?_),λg hg=>?_⟩
 ·rcases z with z|z
  ·exact .inl z
  ·exact .inr (.inl z)
 ·rcases hg with z|z|z
  ·exact .inl (.inl z)
  ·rcases hv g z with y|y
   ·exact .inl (.inr (.inl y))
   ·exact .inr y
  ·exact .inl (.inr (.inr z))
theorem Moves.number (h:qO w B q v u l es last)(n:Int):Moves w (w.setCell ⟨q,2,none⟩ (.int .i64 n)) B q v u l es n:=by
 obtain⟨s,c⟩:=h.number n;exact⟨v,u,s,c.mono (λk _ z=>.inl z),λg hg=>.inl hg⟩
end
def Counts (w w':World)(B q:Nat)(v u:Value)(l:List Rc)(es':List bD)(last:Int):Prop:=∃u',qO w' B q v u' l es' last/\aF (foot q u) w w'/\∀g,u'.ownBlock=some g->u.ownBlock=some g\/w.heap.size<=g
section
variable {w w1 w':World}{B q:Nat}{v u:Value}{l:List Rc}{es es':List bD}{last:Int}
theorem Counts.behind (hb:Below w.heap.size w w1)(a:Counts w1 w' B q v u l es' last):Counts w w' B q v u l es' last:=by
 obtain⟨u',s,c,o⟩:=a;refine⟨u',s,(aF.of_below hb).trans c,λg hg=>?_⟩;rcases o g hg with y|y
 ·exact .inl y
 ·right;have:=hb.size;omega
theorem Counts.qH {u':Value}(c:aF (foot q u) w w')(o:∀g,u'.ownBlock=some g->u.ownBlock=some g\/w.heap.size<=g):aF (qH q v u) w w'/\∀g,qH q v u' g->qH q v u g\/w.heap.size<=g:=by
 refine⟨c.mono (λk _ z=>?_),λg hg=>?_⟩
 ·rcases z with z|z
  ·exact .inl z
  ·exact .inr (.inr z)
 ·rcases hg with z|z|z
  ·exact .inl (.inl z)
  ·exact .inl (.inr (.inl z))
  ·rcases o g z with y|y
   ·exact .inl (.inr (.inr y))
   ·exact .inr y
theorem Counts.moves (a:Counts w w' B q v u l es' last):Moves w w' B q v u l es' last:=by
 obtain⟨u',s,c,o⟩:=a;obtain⟨h1,h2⟩:=Counts.qH (v:=v) c o;exact⟨v,u',s,h1,h2⟩
end
def qU (w:World)(B q:Nat)(F:Nat->Prop)(s:aG):Prop:=∃v u es,qO w B q v u s.l es s.last/\Cnt s.l es/\F=qH q v u
theorem qU.own {w:World}{B q:Nat}{F:Nat->Prop}{s:aG}(h:qU w B q F s):∀k,F k->B<=k/\k<w.heap.size:=by
 obtain⟨v,u,es,h1,_,rfl⟩:=h;exact h1.own
theorem qU.dh {w w':World}{B q:Nat}{F A:Nat->Prop}{s:aG}(h:qU w B q F s)(hc:aF A w w')(hn:∀k,F k->¬A k):qU w' B q F s:=by
 obtain⟨v,u,es,h1,h2,rfl⟩:=h;exact⟨v,u,es,h1.dh hc hn,h2,rfl⟩
theorem qU.did {w w':World}{B q:Nat}{v u:Value}{s:aG}{es:List bD}(h:Moves w w' B q v u s.l es s.last)(hc:Cnt s.l es):uI qU w w' B q (qH q v u) s:=by
 obtain⟨v',u',s',c,o⟩:=h;exact⟨_,⟨v',u',es,s',hc,rfl⟩,c,o⟩
theorem KO (x:Int)(w:World) :
 Calls prog 166 #[.int .i64 x] w λe w'=>e=.returned (.bool false)/\w'=w:=by
 go_enter func166,ntmps166
 go_wp2
 go_ret
 exact⟨iW (by simp),rfl⟩
def BF (x y:Int):Int:=if x<y then -1 else if y<x then 1 else 0
theorem aeC (x y:Int)(w:World) :
 Calls prog 125 #[.int .i64 x,.int .i64 y] w λe w'=>e=.returned (.int .i64 (BF x y))/\w'=w:=by
 by_cases h1:x<y
 ·have Hr:=aj (show BF x y=-1 from if_pos h1);go_enter func125,ntmps125
  go_wp2_with (first|(go_at_call 166;refine(KO _ _).mono ?_;rintro e w' ⟨rfl,rfl⟩))
  go_ret
  exact⟨aN (ah Hr),rfl⟩
 ·by_cases h2:y<x
  ·have Hr:=aj (show BF x y=1 by unfold BF;rw[if_neg h1,if_pos h2]);go_enter func125,ntmps125
   go_wp2_with (first|(go_at_call 166;refine(KO _ _).mono ?_;rintro e w' ⟨rfl,rfl⟩))
   go_ret
   exact⟨aN (ah Hr),rfl⟩
  ·have Hr:=aj (show BF x y=0 by unfold BF;rw[if_neg h1,if_neg h2]);go_enter func125,ntmps125
   go_wp2_with (first|(go_at_call 166;refine(KO _ _).mono ?_;rintro e w' ⟨rfl,rfl⟩))
   go_ret
   exact⟨aN (ah Hr),rfl⟩
theorem KP (r:Rc)(n:Int)(w:World) :
 Calls prog 124 #[.agg #[.int .i64 r.k,.int .i64 r.q,.int .i64 r.t,.string r.s,.string r.h,.string r.d],.int .i64 n] w λe w'=>e=.returned (.int .i64 (BF r.q n))/\Below w.heap.size w w':=by
 go_enter func124,ntmps124
 go_wp2_with fail
 refine(aeC _ n _).mono ?_;rintro e w1 ⟨rfl,rfl⟩;go_wp2_with fail
 go_ret
 exact⟨rfl,(Below.refl _ _).alloc (Nat.le_refl _) _⟩
theorem Zy (x y:Int):BF x y<0↔x<y:=by
 unfold BF;split
 ·omega
 ·split<;>omega
theorem Zz (x y:Int):BF x y=0↔x=y:=by
 unfold BF;split
 ·omega
 ·split<;>omega
theorem UN (a:Option Addr)(cap:Nat)(l:List Rc)(n:Int)(w:World)(hsl:qM w a l)(hord:kW l)(jG:l.length<=200) :
 Calls prog 123 #[.slice a l.length cap,.int .i64 n,.func (.func 124) #[] #[]] w λe w'=>e=.returned (.tuple #[.int .i64 (pq l n),.bool (seqB l n)])/\Below w.heap.size w w':=by
 have Ql:=aj hord;clear hord;go_enter func123,ntmps123
 go_wp2
 go_loopw [9,10] (λiv jv wr=>∃(i j:Nat),iv=.int .i64 i/\jv=.int .i64 j/\i<=j/\j<=l.length/\Hid (∀k,k<i->(rc l k).q<n)/\Hid (∀k,j<=k->k<l.length->n<=(rc l k).q)/\Hid (qM wr a l)/\Below w.heap.size w wr) (λiv jv _=>(intOf jv).toNat-(intOf iv).toNat)
 case atStart=>exact⟨0,l.length,rfl,rfl,Nat.zero_le _,Nat.le_refl _,aj (λk hk=>absurd hk (Nat.not_lt_zero k)),aj (λk h1 h2=>by omega),aj hsl,Below.refl _ _⟩
 case round =>
  obtain⟨i,j,rfl,rfl,hij,hj,hlo,hhi,hsl2,hb⟩:=hrel;by_cases hlt:i<j
  ·obtain⟨h,hh⟩:∃h:Nat,h=(i+j) / 2:=⟨_,rfl⟩;have hh1:i<=h/\h<j:=by omega
   obtain⟨g,o,rfl,s6⟩:=ah hsl2 h (by omega);have hmid:((i:Int)+(j:Int)) / 2=(h:Int):=by omega
   clear hh;have H:=aj (KP (rc l h) n wr);obtain⟨_,x0,x1,x2,x3,x4,x5⟩:=s6;by_cases he:(rc l h).q<n
   ·have hz:BF (rc l h).q n<0:=(Zy _ _).2 he;have He:=aj he;clear he;go_wp2_with fail
    refine(ah H).mono ?_;rintro e w1 ⟨rfl,hb1⟩;clear x0 x1 x2 x3 x4 x5;go_wp2_with fail
    refine⟨⟨h+1,j,by go_num,rfl,by omega,hj,aj (λk hk=>?_),hhi,aj ((ah hsl2).below hb1),ak hb hb1⟩,?_⟩
    ·rcases Nat.lt_succ_iff_lt_or_eq.1 hk with q|q
     ·have:=xX (ah Ql) q (by omega);have:=ah He;omega
     ·rw[q];exact ah He
    ·simp[intOf];omega
   ·have hz:¬BF (rc l h).q n<0:=λz=>he ((Zy _ _).1 z)
    have He:=aj he;clear he;go_wp2_with fail
    refine(ah H).mono ?_;rintro e w1 ⟨rfl,hb1⟩;clear x0 x1 x2 x3 x4 x5;go_wp2_with fail
    refine⟨⟨i,h,rfl,rfl,by omega,by omega,hlo,aj (λk hk hk2=>?_),aj ((ah hsl2).below hb1),ak hb hb1⟩,?_⟩
    ·have:=ah He;rcases Nat.eq_or_lt_of_le hk with q|q
     ·rw[<-q];omega
     ·have:=xX (ah Ql) q hk2;omega
    ·simp[intOf];omega
  ·obtain rfl:i=j:=by omega
   have hpl:=ahN (n:=n) hj (ah hlo) (ah hhi);by_cases hl:i<l.length
   ·obtain⟨g,o,rfl,s6⟩:=ah hsl2 i (by omega);have H:=aj (KP (rc l i) n wr);obtain⟨_,x0,x1,x2,x3,x4,x5⟩:=s6;have hha:=adr (ah Ql) (n:=n) (by rw[<-hpl];exact hl);rw[<-hpl] at hha;have Hha:=aj hha;have Hpl:=aj hpl;clear hpl hha;go_wp2_with fail
    refine(ah H).mono ?_;rintro e w1 ⟨rfl,hb1⟩;clear x0 x1 x2 x3 x4 x5;go_wp2_with fail
    go_ret2
    refine⟨IK ?_ ?_,ak hb hb1⟩
    ·rw[<-ah Hpl]
    ·rw[ah Hha];by_cases z:(rc l i).q=n
     ·rw[decide_eq_true z,(Zz _ _).2 z];rfl
     ·have:¬BF (rc l i).q n=0:=λy=>z ((Zz _ _).1 y)
      rw[decide_eq_false z];simp[this]
   ·have Hpl:=aj hpl;have Hs:=aj (agD (ah Ql) (n:=n) (by rw[<-hpl];exact hl));clear hpl;go_wp2_with fail
    go_ret2
    refine⟨IK ?_ ?_,hb⟩
    ·rw[<-ah Hpl]
    ·exact ah Hs
theorem qI {w:World}{B q:Nat}{v u:Value}{l:List Rc}{es:List bD}{last:Int}(n:Int)(h:qO w B q v u l es last)(hr:kW l)(jG:l.length<=200) :
 Calls prog 87 #[.pointer (some ⟨q,0,none⟩),.int .i64 n] w λe w'=>e=.returned (.tuple #[.int .i64 (pq l n),.bool (seqB l n)])/\Below w.heap.size w w':=by
 obtain⟨a,cap,rfl,_,_,hsl⟩:=h.msgs.shape;have hc:=h.c0;go_enter func87,ntmps87
 go_wp2_with fail
 refine(UN a cap l n _ hsl hr jG).mono ?_;rintro e w1 ⟨rfl,hb⟩;go_wp2_with fail
 go_ret2
 exact⟨rfl,hb⟩
end Go.Proofs.YtidekgipblnpkaaGreatDoor.Dk
namespace Go.Proofs.YtidekgipblnpkaaGreatDoor.Dk
open Go.RowKit Go.Deep Go.Proofs.Tryz
theorem Oo:∀(es:List Rc) (k:Nat),aQ (es.take k)=(aQ es).take (k*6)
 | [],k=>by simp[aQ]
 | e::r,0=>by simp[aQ]
 | e::r,k+1=>by rw[show(k+1)*6=k*6+1+1+1+1+1+1 by omega];simp[aQ,Oo r k]
theorem Dn:∀(es:List Rc) (k:Nat),aQ (es.drop k)=(aQ es).drop (k*6)
 | [],k=>by simp[aQ]
 | e::r,0=>by simp[aQ]
 | e::r,k+1=>by rw[show(k+1)*6=k*6+1+1+1+1+1+1 by omega];simp[aQ,Dn r k]
theorem bK.there {w:World}{B:Nat}{v:Value}{es:List Rc}(h:bK w B v es)(hn:0<es.length):∃g cap,v=.slice (some ⟨g,0,none⟩) es.length cap/\es.length<=cap/\cap<=maxLen/\B<=g/\g<w.heap.size:=by
 rcases h.2 with ⟨h1,h2⟩|⟨g,cap,cur,h1,h2,h3,h4,h5,h6,h7⟩
 ·omega
 ·exact⟨g,cap,h1,h4,h5,h.lt g (by rw[h1];rfl)⟩
theorem bK.cell {w:World}{B g cap:Nat}{es:List Rc}(h:bK w B (.slice (some ⟨g,0,none⟩) es.length cap) es)(j:Nat)(u:Value)(hj:(aQ es)[j]?=some u):w.cell? ⟨g,j,none⟩=some u:=by
 have hl:j<es.length*6:=by
  rw[<-fC];rcases Nat.lt_or_ge j (aQ es).length with q|q
  ·exact q
  ·rw[List.getElem?_eq_none q] at hj;cases hj
 rw[World.ownsRow.cellAt h _ hl];exact hj
def zsR:List Value:=[.int .i64 0,.int .i64 0,.int .i64 0,.string ByteArray.empty,.string ByteArray.empty,.string ByteArray.empty]
theorem LY (w:World)(ty:TypeId)(b o c:Nat)
 (hc:∀j,j<6->(w.cell? ⟨b,o+j,none⟩).isSome=true) (hf:∀j,j<6->w.frozen? ⟨b,o+j,none⟩=false) :
 (Builtin.clear_ #[39] ty #[.slice (some ⟨b,o,none⟩) 1 c]).run prog w=.ok (.tuple #[]) (w.setCells b o zsR):=by
 have hzc:(Builtin.zeroCells (Value.agg #[.int .i64 0,.int .i64 0,.int .i64 0,.string ⟨#[]⟩,.string ⟨#[]⟩,.string ⟨#[]⟩]).cells 1).toList=zsR:=by kernel_rfl
 have hst:=run_storeCells_cells (P:=prog) b o zsR 0 w (by simpa[zsR] using hc) (by simpa[zsR] using hf) (by intro v hv';simp only[zsR,List.mem_cons,List.not_mem_nil,or_false] at hv';rcases hv' with q|q|q|q|q|q<;>(subst q;rfl));simp only[Nat.add_zero] at hst;simp[Builtin.clear_,run_underlying underlying39,Tryz.zeroValue73,hzc,hst]
theorem XE (B g c i m:Nat)(es:List Rc)(w:World)(hn:es.length=i+1+m)(ha:bK w B (.slice (some ⟨g,0,none⟩) (i+1+m) c) es)(dQ:es.length<=200)(hc:i+1+m<=c) :
 Calls prog 189 #[.slice (some ⟨g,0,none⟩) (i+1+m) c,.int .i64 i,.int .i64 (i+1)] w λe w' =>
  e=.returned (.slice (some ⟨g,0,none⟩) (i+m) c)/\w'=(w.drew.setCells g (0+i*6) ((aQ es).drop ((i+1)*6))).setCells g ((i+m)*6) zsR:=by
 obtain⟨i0,hi0,hz0,hz1,hz2⟩:=info_parts RZ;obtain⟨news,hnews⟩:∃news,news=(aQ es).drop ((i+1)*6):=⟨_,rfl⟩;have hlen:news.length=m*6:=by rw[hnews,List.length_drop,fC,hn];omega
 obtain⟨cur,hg,hcs⟩:∃cur,w.heap[g]?=some (.cells cur 73 (0,0))/\cur.size=c*6:=by
  rcases ha.2 with ⟨q,_⟩|⟨g',cap',cur,q,h2,h3,h4,h5,h6,h7⟩
  ·cases q
  ·simp only[Value.slice.injEq,Option.some.injEq,Addr.mk.injEq,and_true] at q;obtain⟨rfl,_,rfl⟩:=q;exact⟨cur,h3,h6⟩
 have hsp:∀j,j<c*6->(w.cell? ⟨g,j,none⟩).isSome=true:=by
  intro j hj;rw[cell_of_row w g j _ _ _ hg,Array.getElem?_eq_getElem (by omega)];rfl
 have hfz:∀j,w.frozen? ⟨g,j,none⟩=false:=λj=>frozen_of_row w g j _ _ hg
 have hcell:∀j u,(aQ es)[j]?=some u->w.cell? ⟨g,j,none⟩=some u:=by
  intro j u hj;rw[<-hn] at ha;exact ha.cell j u hj
 obtain⟨A,hA,hsrc⟩:∃A:Addr,(if c=i+1 then some (⟨g,0,none⟩:Addr) else some ⟨g,(i+1)*6,none⟩)=some A/\Hid (∀t u,news[t]?=some u->w.drew.cell? (A.add t)=some u):=by
  by_cases h:c=i+1
  ·refine⟨⟨g,0,none⟩,by simp[h],λt u hu=>?_⟩;have h0:news.length=0:=by rw[hlen];omega
   rw[List.length_eq_zero_iff.1 h0] at hu;simp at hu
  ·refine⟨⟨g,(i+1)*6,none⟩,by simp[h],λt u hu=>?_⟩;rw[Addr.add_lit];refine hcell _ u ?_;rw[hnews,List.getElem?_drop] at hu;exact hu
 have s1:=aj hlen;have s2:Hid (∀u∈news,u.oneCell'=true):=by
  intro u hu;rw[hnews] at hu;exact sD es u (List.mem_of_mem_drop hu)
 have s3:Hid (∀t,t<news.length->(w.drew.cell? ⟨g,0+i*6+t,none⟩).isSome=true/\w.drew.frozen? ⟨g,0+i*6+t,none⟩=false):=by
  intro t ht;rw[hlen] at ht;exact⟨hsp _ (by omega),hfz _⟩
 obtain⟨W1,hW1⟩:∃W1,W1=w.drew.setCells g (0+i*6) news:=⟨_,rfl⟩;have hcl:∀ty c',(Builtin.clear_ #[39] ty #[.slice (some ⟨g,(i+m)*6,none⟩) 1 c']).run prog W1=.ok (.tuple #[]) (W1.setCells g ((i+m)*6) zsR):=λty c' =>
  LY W1 ty g ((i+m)*6) c' (λj hj=>by
   rw[hW1];exact isSome_setCells g news (0+i*6) w.drew (λt ht=>hsp _ (by rw[hlen] at ht;omega)) _ (hsp _ (by omega)))
   (λj hj=>by rw[hW1,World.frozen?_setCells];exact hfz _)
 have hW:Hid (W1=w.drew.setCells g (0+i*6) news):=hW1;rw[<-hnews];clear hW1 hsp hfz hcell hg ha hnews hlen hz0 hz2;have hic:i<=c:=by omega
 have hjc:i+1<=c:=by omega
 have b1:(0:Int)<=(i:Int)+1:=by omega
 have b2:(i:Int)+1<=(i:Int)+1+(m:Int):=by omega
 have q1:¬(c=i+m):=by omega
 have q2:i+1+m-(i+m)=1:=by omega
 go_enter func189,ntmps189
 go_wp2_with fail
 go_region_law (refine step_append_room rfl (.tmp 22) (.tmp 25) 39 rfl 73 i0 6 underlying39 hi0 hz1 g 0 i c (by simp[Act.eval,Act.put]) A m (c-(i+1)) news (by simp[Act.eval,Act.put]) s1.out hsrc.out s2.out (by omega) s3.out ?_;rw[<-hW.out])
 go_wp2
 go_ret
 exact⟨rfl,by rw[hW.out]⟩
theorem abB (es:List Rc)(i m:Nat)(hn:es.length=i+1+m) :
 ((((aQ es).take (i*6)++(aQ es).drop ((i+1)*6)++(aQ es).drop (i*6+((aQ es).drop ((i+1)*6)).length)).take ((i+m)*6)++zsR++((aQ es).take (i*6)++(aQ es).drop ((i+1)*6)++(aQ es).drop (i*6+((aQ es).drop ((i+1)*6)).length)).drop ((i+m)*6+zsR.length)).take ((i+m)*6))=aQ (LG es i):=by
 have hcl:(aQ es).length=(i+1+m)*6:=by rw[fC,hn]
 have h1:((aQ es).take (i*6)++(aQ es).drop ((i+1)*6)).length=(i+m)*6:=by rw[List.length_append,List.length_take,List.length_drop,hcl];omega
 have h2:((aQ es).take (i*6)++(aQ es).drop ((i+1)*6)++(aQ es).drop (i*6+((aQ es).drop ((i+1)*6)).length)).take ((i+m)*6)=(aQ es).take (i*6)++(aQ es).drop ((i+1)*6):=by
  rw[List.take_append_of_le_length (by omega),List.take_of_length_le (by omega)]
 rw[h2,List.append_assoc ((aQ es).take (i*6)++(aQ es).drop ((i+1)*6)),List.take_append_of_le_length (by omega),List.take_of_length_le (by omega)];unfold LG;rw[qW,Oo,Dn]
theorem UO (B:Nat)(v:Value)(es:List Rc)(i:Nat)(w:World)(ha:bK w B v es)(hi:i<es.length)(dQ:es.length<=200) :
 Calls prog 189 #[v,.int .i64 i,.int .i64 (i+1)] w λe w'=>∃v',e=.returned v'/\bK w' B v' (LG es i)/\aF (λk=>v.ownBlock=some k) w w'/\∀g,v'.ownBlock=some g->v.ownBlock=some g\/w.heap.size<=g:=by
 obtain⟨g,cap,rfl,c1,c2,c3,c4⟩:=ha.there (by omega);obtain⟨m,hn⟩:∃m,es.length=i+1+m:=⟨es.length-(i+1),by omega⟩;rw[hn] at ha c1 ⊢;refine(XE B g cap i m es w hn ha dQ c1).mono ?_;rintro e w' ⟨rfl,rfl⟩;refine⟨_,rfl,?_,?_,λg' hg'=>.inl hg'⟩
 ·have o0:w.drew.ownsRow B 73 6 (.slice (some ⟨g,0,none⟩) (i+1+m) cap) (i+1+m) (aQ es):=by
   unfold bK at ha;rw[hn] at ha;exact ha
  have hcl:(aQ es).length=(i+1+m)*6:=by rw[fC,hn]
  have hdl:((aQ es).drop ((i+1)*6)).length=m*6:=by rw[List.length_drop,hcl];omega
  have o1:=eu ((aQ es).drop ((i+1)*6)) (i*6) _ _ o0 (by rw[hcl,hdl];omega);have o2:=eu zsR ((i+m)*6) _ _ o1 (by
   simp only[List.length_append,List.length_take,List.length_drop,hcl,show zsR.length=6 from rfl];omega)
  have o3:=wX (k:=i+m) o2 (by omega);rw[abB es i m hn] at o3;unfold bK;rw[TS hi,hn,show i+1+m-1=i+m by omega,Nat.zero_add];exact o3
 ·have c:aF (λk=>k=g) w w.drew:=⟨rfl,rfl,rfl,Nat.le_refl _,λ_ _ _=>rfl⟩;exact((c.trans (aeB (eF _ _ _))).trans (aeB (eF _ _ _))).mono (λk _ hk=>by rw[hk];rfl)
end Go.Proofs.YtidekgipblnpkaaGreatDoor.Dk
namespace Go.Proofs.YtidekgipblnpkaaGreatDoor.Dk
open Go.RowKit Go.Proofs.Tryz
theorem bK.src {w:World}{B:Nat}{v:Value}{l:List Rc}(h:bK w B v l):Src prog 6 39 v l.length (aQ l) w:=by
 rcases h.2 with ⟨h1,h2⟩|⟨g,cap,cur,h1,h2,h3,h4,h5,h6,h7⟩
 ·have:l=[]:=List.length_eq_zero_iff.1 h2;subst this;rw[h1];exact Src.ofNil w underlying39 0
 ·rw[h1] at h ⊢;exact Src.ofSlice w underlying39 ⟨g,0,none⟩ l.length cap (aQ l) (fC l) (World.ownsRow.cells h (g:=g) rfl) (sD l)
theorem BH (w:World)(ty:TypeId)(b o dLen dCap:Nat)(x:Value)(m:Nat)(news:List Value)(hs:Src prog 6 39 x m news w)(hm:m<=dLen)
 (hc:∀j,j<news.length->(w.cell? ⟨b,o+j,none⟩).isSome=true) (hf:∀j,j<news.length->w.frozen? ⟨b,o+j,none⟩=false) :
 (Builtin.copy_ #[39,39] ty #[.slice (some ⟨b,o,none⟩) dLen dCap,x]).run prog w=.ok (goInt m) (w.setCells b o news):=by
 have hst:=run_storeCells_cells (P:=prog) b o news 0 w (by simpa using hc) (by simpa using hf) hs.one;simp only[Nat.add_zero] at hst;obtain⟨i0,hi,hz0,hz1,hz2⟩:=info_parts RZ;have hmin:Nat.min m dLen=m:=Nat.min_eq_left hm;simp[Builtin.copy_,run_underlying underlying39,sizeOf,typeInfo,hi,hz1,hs.len,hmin,hs.cells,hst]
def aeD:Array Value:=(Value.agg #[.int .i64 0,.int .i64 0,.int .i64 0,.string ⟨#[]⟩,.string ⟨#[]⟩,.string ⟨#[]⟩]).cells
theorem Oq:aeD=#[.int .i64 0,.int .i64 0,.int .i64 0,.string ⟨#[]⟩,.string ⟨#[]⟩,.string ⟨#[]⟩]:=by kernel_rfl
def kK (n:Nat):List Value:=(Builtin.zeroCells aeD n).toList
theorem jL (n:Nat):(kK n).length=n*6:=by
 unfold kK Builtin.zeroCells;rw[Oq];simp
theorem XF (n:Nat):∀v∈kK n,v.oneCell'=true:=by
 intro v h;unfold kK Builtin.zeroCells at h;rw[Oq] at h;simp only[Array.toList_map,List.mem_map] at h;obtain⟨i,_,rfl⟩:=h;have hi:i % 6<6:=Nat.mod_lt _ (by decide);have e:∀j,j<6->((#[.int .i64 0,.int .i64 0,.int .i64 0,.string ⟨#[]⟩,.string ⟨#[]⟩,.string ⟨#[]⟩]:Array Value)[j]!).oneCell'=true:=by decide +kernel
 exact e _ hi
theorem yI (w:World)(ty:TypeId)(b o n c:Nat)(hn:0<n)
 (hc:∀j,j<n*6->(w.cell? ⟨b,o+j,none⟩).isSome=true) (hf:∀j,j<n*6->w.frozen? ⟨b,o+j,none⟩=false) :
 (Builtin.clear_ #[39] ty #[.slice (some ⟨b,o,none⟩) n c]).run prog w=.ok (.tuple #[]) (w.setCells b o (kK n)):=by
 obtain⟨m,rfl⟩:∃m,n=m+1:=⟨n-1,by omega⟩;have hst:=run_storeCells_cells (P:=prog) b o (kK (m+1)) 0 w (by rw[jL];simpa using hc) (by rw[jL];simpa using hf) (XF _);simp only[Nat.add_zero] at hst;have hz:(Builtin.zeroCells (Value.agg #[.int .i64 0,.int .i64 0,.int .i64 0,.string ⟨#[]⟩,.string ⟨#[]⟩,.string ⟨#[]⟩]).cells (m+1)).toList=kK (m+1):=rfl;simp[Builtin.clear_,run_underlying underlying39,Tryz.zeroValue73,hz,hst]
theorem yJ (w:World)(ty:TypeId)(a:Option Addr)(c:Nat) :
 (Builtin.clear_ #[39] ty #[.slice a 0 c]).run prog w=.ok (.tuple #[]) w:=by
 cases a<;>simp[Builtin.clear_,run_underlying underlying39]
theorem abC (xs a d z:List Value) :
 let y1:=xs.take 0++a++xs.drop (0+a.length)
 let y2:=y1.take a.length++d++y1.drop (a.length+d.length)
 let y3:=y2.take (a.length+d.length)++z++y2.drop (a.length+d.length+z.length)
 y3.take (a.length+d.length)=a++d:=by
 intro y1 y2 y3;have e1:y1.take a.length=a:=by
  show(xs.take 0++a++xs.drop (0+a.length)).take a.length=a;rw[List.take_zero,List.nil_append,List.take_append_of_le_length (Nat.le_refl _),List.take_length]
 have e2:y2.take (a.length+d.length)=a++d:=by
  show(y1.take a.length++d++y1.drop (a.length+d.length)).take (a.length+d.length)=a++d;rw[e1,List.take_append_of_le_length (by rw[List.length_append];omega),List.take_of_length_le (by rw[List.length_append];omega)]
 show(y2.take (a.length+d.length)++z++y2.drop (a.length+d.length+z.length)).take (a.length+d.length)=a++d;rw[e2,List.append_assoc,List.take_append_of_le_length (by rw[List.length_append];omega),List.take_of_length_le (by rw[List.length_append];omega)]
theorem Qx {w:World}{B g cap p:Nat}{l A:List Rc}(ha:bK w B (.slice (some ⟨g,0,none⟩) l.length cap) l)(hA:A.length<=p)(hp:p<=l.length){w3:World}
 (h3:w3=((w.setCells g 0 (aQ A)).setCells g (A.length*6) ((aQ l).drop (p*6))).setCells g ((A.length+(l.length-p))*6) (kK (p-A.length))) :
 bK w3 B (.slice (some ⟨g,0,none⟩) (A++l.drop p).length cap) (A++l.drop p)/\aF (λk=>k=g) w w3:=by
 have hxs:=fC l;have hla:=fC A;have hld:((aQ l).drop (p*6)).length=(l.length-p)*6:=by rw[List.length_drop,hxs];omega
 have hlz:=jL (p-A.length);refine⟨?_,by rw[h3];exact aeB (((eF _ _ _).trans (eF _ _ _)).trans (eF _ _ _))⟩;have o1:=eu (aQ A) 0 _ _ ha (by rw[hla,hxs];omega);have o2:=eu ((aQ l).drop (p*6)) (aQ A).length _ _ o1 (by simp only[List.length_append,List.length_take,List.length_drop,hxs,hla];omega);have o3:=eu (kK (p-A.length)) ((aQ A).length+((aQ l).drop (p*6)).length) _ _ o2 (by simp only[List.length_append,List.length_take,List.length_drop,hxs,hla,hlz];omega);have o4:=wX (k:=A.length+(l.length-p)) o3 (by omega);have e:=abC (aQ l) (aQ A) ((aQ l).drop (p*6)) (kK (p-A.length))
 have ek:(A.length+(l.length-p))*6=(aQ A).length+((aQ l).drop (p*6)).length:=by rw[hla,hld];omega
 rw[<-ek] at o4 e;dsimp only at e;have hlen:(A++l.drop p).length=A.length+(l.length-p):=by rw[List.length_append,List.length_drop]
 unfold bK;rw[hlen,qW,Dn,h3];rw[hla] at o4 e;rw[e] at o4;exact o4
theorem UQ (a:Option Addr)(n cap:Nat)(a2:Option Addr)(c2:Nat)(w:World) :
 Calls prog 219 #[.slice a n cap,.int .i64 0,.slice a2 0 c2] w λe w'=>e=.returned (.slice a n cap)/\w'=w:=by
 go_enter func219,ntmps219
 go_wp2_with fail
 go_ret
 exact⟨rfl,rfl⟩
theorem Qy (a:Option Addr)(n cap:Nat)(a2:Option Addr)(c2:Nat)(w:World) :
 Calls prog 190 #[.slice a n cap,.int .i64 0,.int .i64 0,.slice a2 0 c2] w λe w'=>e=.returned (.slice a n cap)/\w'=w:=by
 go_enter func190,ntmps190
 go_wp2_with fail
 refine(UQ a n cap a2 c2 _).mono ?_;rintro e w1 ⟨rfl,rfl⟩;go_wp2_with fail
 go_ret
 exact⟨rfl,rfl⟩
theorem Qz (g n cap:Nat)(a2:Option Addr)(c2:Nat)(w W1:World)(hn:n<=200)(hc:n<=cap)(h0:0<n)
 (hr:∀ty,(Builtin.append_ #[39,39] ty #[.slice (some ⟨g,0,none⟩) 0 cap,.slice a2 n c2]).run prog w=.ok (.slice (some ⟨g,0,none⟩) n cap) W1) :
 Calls prog 190 #[.slice (some ⟨g,0,none⟩) n cap,.int .i64 0,.int .i64 n,.slice a2 n c2] w λe w'=>e=.returned (.slice (some ⟨g,0,none⟩) n cap)/\w'=W1:=by
 have e0:((0:Int)==(n:Int))=false:=by simp;omega
 go_enter func190,ntmps190
 go_wp2_with (at_builtin;refine Lib.wpList_append_run _ rfl _ _ _ _ rfl _ _ rfl rfl _ _ (hr _) ?_)
 go_ret
 exact⟨rfl,rfl⟩
theorem UR (g m d cap:Nat)(a2:Option Addr)(c2:Nat)(w W1 W2:World)(hn:m+d<=200)(hc:m+d<=cap)(h0:0<d)
 (hr:∀ty,(Builtin.append_ #[39,39] ty #[.slice (some ⟨g,0,none⟩) 0 cap,.slice a2 m c2]).run prog w=.ok (.slice (some ⟨g,0,none⟩) m cap) W1)
 (hcl:∀ty c,(Builtin.clear_ #[39] ty #[.slice (some ⟨g,m*6,none⟩) d c]).run prog W1=.ok (.tuple #[]) W2) :
 Calls prog 190 #[.slice (some ⟨g,0,none⟩) (m+d) cap,.int .i64 0,.int .i64 (m+d),.slice a2 m c2] w λe w'=>e=.returned (.slice (some ⟨g,0,none⟩) m cap)/\w'=W2:=by
 have e0:((0:Int)==(m:Int)+(d:Int))=false:=by simp;omega
 have e1:¬cap=m:=by omega
 have e2:m+d-m=d:=by omega
 have e3:(m:Int)<(m:Int)+(d:Int):=by omega
 have e4:(0:Int)<=(m:Int)+(d:Int):=by omega
 have e5:m<=cap:=by omega
 have e6:((m:Int)+(d:Int)).toNat=m+d:=by omega
 go_enter func190,ntmps190
 go_wp2_with (at_builtin;refine Lib.wpList_append_run _ rfl _ _ _ _ rfl _ _ rfl rfl _ _ (hr _) ?_)
 go_ret
 exact⟨rfl,rfl⟩
theorem QA (g m p d cap:Nat)(a2:Option Addr)(c2:Nat)(w:World)(W1 W2 W3:Nat->World)(hn:p+d<=200)(hc:p+d<=cap)(h0:0<d)(hm:m<=p)(hp:0<p)
 (hc1:∀k ty,(Builtin.copy_ #[39,39] ty #[.slice (some ⟨g,0,none⟩) (m+d) cap,.slice a2 m c2]).run prog (w.drewN k)=.ok (goInt m) (W1 k))
 (hc2:∀k ty c c',(Builtin.copy_ #[39,39] ty #[.slice (some ⟨g,m*6,none⟩) d c,.slice (some ⟨g,p*6,none⟩) d c']).run prog (W1 k).drew=.ok (goInt d) (W2 k))
 (aeE:p=m->∀k ty c A,(Builtin.clear_ #[39] ty #[.slice (some A) (p+d-(m+d)) c]).run prog (W2 k)=.ok (.tuple #[]) (W3 k))
 (aeF:∀k ty c,(Builtin.clear_ #[39] ty #[.slice (some ⟨g,(m+d)*6,none⟩) (p+d-(m+d)) c]).run prog (W2 k)=.ok (.tuple #[]) (W3 k)) :
 Calls prog 190 #[.slice (some ⟨g,0,none⟩) (p+d) cap,.int .i64 0,.int .i64 p,.slice a2 m c2] w λe w'=>e=.returned (.slice (some ⟨g,0,none⟩) (m+d) cap)/\∃k,w'=W3 k:=by
 have e0:((0:Int)==(p:Int))=false:=by simp;omega
 have e1:¬cap=m:=by omega
 have e2:¬cap=p:=by omega
 have e3:p+d-p=d:=by omega
 have e4:((p:Int)==(p:Int)+(d:Int))=false:=by simp;omega
 have e5:¬(cap:Int)<(m:Int)+(d:Int):=by omega
 have e6:(m:Int)<=(p:Int):=by omega
 have e7:((m:Int)+(d:Int)).toNat=m+d:=by omega
 have e8:m+d-m=d:=by omega
 have e9:¬cap=0:=by omega
 have hw:IntKind.i64.wrap (m:Int)=(m:Int):=by rw[IntKind.wrap_i64];omega
 have ea:(m:Int)<=(m:Int)+(d:Int):=by omega
 have eb:(p:Int)<=(p:Int)+(d:Int):=by omega
 by_cases q:p=m
 ·have hcl:=aeE q;clear aeE aeF q;go_enter func190,ntmps190
  go_wp2_with fail
  go_quiet (fail)
  go_wp2_with fail
  go_region_law (refine step_copy_runI rfl _ _ 39 39 rfl (.slice (some ⟨g,m*6,none⟩) d (cap-m)) (.slice (some ⟨g,p*6,none⟩) d (cap-p)) (by simp[Act.eval,Act.put]) (by simp[Act.eval,Act.put]) (hc2 nq _ _ _) ?_)
  all_goals go_wp2_with fail
  all_goals go_ret
  all_goals first|exact⟨rfl,_,rfl⟩|exact⟨by first|(rw[‹cap=m+d›];rfl)|simp[*],_,rfl⟩
 ·have hcl:=aeF;have ec:¬cap=m+d:=by omega
  clear aeE aeF q;go_enter func190,ntmps190
  go_wp2_with fail
  go_quiet (fail)
  go_wp2_with fail
  go_region_law (refine step_copy_runI rfl _ _ 39 39 rfl (.slice (some ⟨g,m*6,none⟩) d (cap-m)) (.slice (some ⟨g,p*6,none⟩) d (cap-p)) (by simp[Act.eval,Act.put]) (by simp[Act.eval,Act.put]) (hc2 nq _ _ _) ?_)
  all_goals go_wp2_with fail
  all_goals go_ret
  all_goals first|exact⟨rfl,_,rfl⟩|exact⟨by first|(rw[‹cap=m+d›];rfl)|simp[*],_,rfl⟩
theorem tH {g:Nat}:∀(vs:List Value) (o:Nat) (w:World),(w.setCells g o vs).drew=w.drew.setCells g o vs
 | [],_,_=>rfl
 | v::r,o,w=>by
  rw[World.setCells,World.setCells,tH r (o+1)];rfl
theorem Dp {w:World}{g N:Nat}(h:∀j,j<N->(w.cell? ⟨g,j,none⟩).isSome=true)(vs:List Value)(o:Nat)(hv:o+vs.length<=N):∀j,j<N->((w.setCells g o vs).cell? ⟨g,j,none⟩).isSome=true:=λj hj =>
 isSome_setCells g vs o w (λt ht=>h _ (by omega)) _ (h j hj)
theorem UU {w:World}{B B2 p:Nat}{v sv:Value}{l A:List Rc}(ha:bK w B v l)(hs:bK w B2 sv A)(hA:A.length<=p)(hp:p<=l.length)(jG:l.length<=200)(hne:∀g,v.ownBlock=some g->sv.ownBlock≠some g) :
 Calls prog 190 #[v,.int .i64 0,.int .i64 p,sv] w λe w'=>∃v',e=.returned v'/\bK w' B v' (A++l.drop p)/\aF (λk=>v.ownBlock=some k) w w'/\∀g,v'.ownBlock=some g->v.ownBlock=some g\/w.heap.size<=g:=by
 obtain⟨a2,c2,rfl,_⟩:=hs.shape;rcases Nat.eq_zero_or_pos p with h0|h0
 ·subst h0;have hA0:A=[]:=List.length_eq_zero_iff.1 (by omega);subst hA0;obtain⟨a,cap,rfl,_⟩:=ha.shape;refine(Qy a l.length cap a2 c2 w).mono ?_;rintro e w' ⟨rfl,rfl⟩;exact⟨_,rfl,ha,aF.refl _ _,λg hg=>.inl hg⟩
 ·obtain⟨g,cap,rfl,c1,c2',c3,c4⟩:=ha.there (by omega);obtain⟨cur,hg,hcs⟩:∃cur,w.heap[g]?=some (.cells cur 73 (0,0))/\cur.size=cap*6:=by
   rcases ha.2 with ⟨q,_⟩|⟨g',cap',cur,q,h2,h3,h4,h5,h6,h7⟩
   ·cases q
   ·simp only[Value.slice.injEq,Option.some.injEq,Addr.mk.injEq,and_true] at q;obtain⟨rfl,_,rfl⟩:=q;exact⟨cur,h3,h6⟩
  have hsp:∀j,j<cap*6->(w.cell? ⟨g,j,none⟩).isSome=true:=λj hj=>by
   rw[cell_of_row w g j _ _ _ hg,Array.getElem?_eq_getElem (by omega)];rfl
  have hfz:∀j,w.frozen? ⟨g,j,none⟩=false:=λj=>frozen_of_row w g j _ _ hg
  obtain⟨i0,hi0,hz0,hz1,hz2⟩:=info_parts RZ;have hla:=fC A;have hlz:=jL (p-A.length);have hld:((aQ l).drop (p*6)).length=(l.length-p)*6:=by rw[List.length_drop,fC];omega
  have hap:∀X:World,Src prog 6 39 (.slice a2 A.length c2) A.length (aQ A) X->(∀j,j<cap*6->(X.cell? ⟨g,j,none⟩).isSome=true)->(∀j,X.frozen? ⟨g,j,none⟩=false)->∀ty,(Builtin.append_ #[39,39] ty #[.slice (some ⟨g,0,none⟩) 0 cap,.slice a2 A.length c2]).run prog X=.ok (.slice (some ⟨g,0,none⟩) A.length cap) (X.setCells g 0 (aQ A)):=λX hX h1 h2 ty=>by
   have:=run_append_room_src (P:=prog) X 39 39 ty 73 i0 underlying39 hi0 g 0 0 cap (.slice a2 A.length c2) A.length (aQ A) (by rw[hz1];exact hX) (by omega) (λj hj=>by rw[hla] at hj;exact h1 _ (by omega)) (λj _=>h2 _);simpa using this
  rcases Nat.eq_or_lt_of_le hp with hpl|hpl
  ·have hd0:(aQ l).drop (p*6)=[]:=List.length_eq_zero_iff.1 (by rw[hld];omega);rcases Nat.eq_or_lt_of_le hA with hAl|hAl
   ·have hz:kK (p-A.length)=[]:=List.length_eq_zero_iff.1 (by rw[hlz];omega);have e3:=Qx (A:=A) (p:=p) ha hA hp (w3:=w.setCells g 0 (aQ A)) (by rw[hd0,hz];rfl);have hr:=hap w hs.src hsp hfz;rw[show A.length=l.length by omega] at hr ⊢;rw[show p=l.length by omega] at e3 ⊢;refine(Qz g l.length cap a2 c2 w _ jG c1 (by omega) hr).mono ?_;rintro e w' ⟨rfl,rfl⟩;refine⟨_,rfl,?_,e3.2.mono (λk _ z=>by rw[z];rfl),λg' hg'=>.inl hg'⟩;have:=e3.1;rw[show(A++l.drop l.length).length=l.length by simp;omega] at this;exact this
   ·obtain⟨d,hd⟩:∃d,l.length=A.length+d:=⟨l.length-A.length,by omega⟩;have hzd:p-A.length=d:=by omega
    have e3:=Qx (A:=A) (p:=p) ha hA hp (w3:=(w.setCells g 0 (aQ A)).setCells g (A.length*6) (kK d)) (by rw[hd0,hzd,show(A.length+(l.length-p))*6=A.length*6 by omega];rfl);have hr:=hap w hs.src hsp hfz;have hcl:∀ty c,(Builtin.clear_ #[39] ty #[.slice (some ⟨g,A.length*6,none⟩) d c]).run prog (w.setCells g 0 (aQ A))=.ok (.tuple #[]) ((w.setCells g 0 (aQ A)).setCells g (A.length*6) (kK d)):=λty c =>
     yI _ ty g (A.length*6) d c (by omega) (λj hj=>Dp hsp _ _ (by rw[hla];omega) _ (by omega)) (λj _=>by rw[World.frozen?_setCells];exact hfz _)
    have hpe:(p:Int)=(A.length:Int)+(d:Int):=by omega
    rw[hd,hpe];refine(UR g A.length d cap a2 c2 w _ _ (by omega) (by omega) (by omega) hr hcl).mono ?_;rintro e w' ⟨rfl,rfl⟩;refine⟨_,rfl,?_,e3.2.mono (λk _ z=>by rw[z];rfl),λg' hg'=>.inl hg'⟩;have:=e3.1;rw[show(A++l.drop p).length=A.length by simp;omega] at this;exact this
  ·obtain⟨d,hd⟩:∃d,l.length=p+d:=⟨l.length-p,by omega⟩;have hle:((aQ l).drop (p*6)).length=d*6:=by rw[hld];omega
   have hbk:∀k,Below w.heap.size w (w.drewN k):=λk=>below_drewN (Below.refl _ _) k
   have e3:∀k,bK _ B (.slice (some ⟨g,0,none⟩) (A++l.drop p).length cap) (A++l.drop p)/\aF (λk=>k=g) (w.drewN k).drew _:=λk=>Qx (A:=A) (p:=p) ((ha.below (hbk k)).below (Below.refl _ _).drew) hA hp rfl
   have hsp1:∀k,∀j,j<cap*6->((((w.drewN k).setCells g 0 (aQ A)).drew).cell? ⟨g,j,none⟩).isSome=true:=λk j hj=>by
    rw[tH];exact Dp (w:=(w.drewN k).drew) (λi hi=>hsp i hi) _ _ (by rw[hla];omega) j hj
   have hfz1:∀k j,(((w.drewN k).setCells g 0 (aQ A)).drew).frozen? ⟨g,j,none⟩=false:=λk j=>by
    rw[tH,World.frozen?_setCells];exact hfz j
   have ajy:∀k c,Src prog 6 39 (.slice (some ⟨g,p*6,none⟩) d c) d ((aQ l).drop (p*6)) (((w.drewN k).setCells g 0 (aQ A)).drew):=λk c=>by
    refine Src.ofSlice _ underlying39 ⟨g,p*6,none⟩ d c _ hle (λj u hu=>?_) (λu hu=>sD l u (List.mem_of_mem_drop hu));rw[tH,Addr.add_lit,World.cell?_setCells_out _ _ _ _ _ (λ_ _=>by right;rw[hla];simp only;omega)];rw[List.getElem?_drop] at hu;exact ha.cell (p*6+j) u hu
   have hc1:∀k ty,(Builtin.copy_ #[39,39] ty #[.slice (some ⟨g,0,none⟩) (A.length+d) cap,.slice a2 A.length c2]).run prog (w.drewN k)=.ok (goInt A.length) ((w.drewN k).setCells g 0 (aQ A)):=λk ty =>
    BH (w.drewN k) ty g 0 (A.length+d) cap _ A.length (aQ A) (hs.below (hbk k)).src (by omega) (λj hj=>by rw[hla] at hj;exact hsp _ (by omega)) (λj _=>hfz _)
   have hc2:∀k ty c c',(Builtin.copy_ #[39,39] ty #[.slice (some ⟨g,A.length*6,none⟩) d c,.slice (some ⟨g,p*6,none⟩) d c']).run prog (((w.drewN k).setCells g 0 (aQ A)).drew)=.ok (goInt d) ((((w.drewN k).setCells g 0 (aQ A)).drew).setCells g (A.length*6) ((aQ l).drop (p*6))):=λk ty c c' =>
    BH _ ty g (A.length*6) d c _ d _ (ajy k c') (Nat.le_refl _) (λj hj=>by rw[hle] at hj;exact hsp1 k _ (by omega)) (λj _=>hfz1 k _)
   have hcount:p+d-(A.length+d)=p-A.length:=by omega
   have aeF:∀k ty c,(Builtin.clear_ #[39] ty #[.slice (some ⟨g,(A.length+d)*6,none⟩) (p+d-(A.length+d)) c]).run prog ((((w.drewN k).setCells g 0 (aQ A)).drew).setCells g (A.length*6) ((aQ l).drop (p*6)))=.ok (.tuple #[]) (((((w.drewN k).setCells g 0 (aQ A)).drew).setCells g (A.length*6) ((aQ l).drop (p*6))).setCells g ((A.length+d)*6) (kK (p-A.length))):=λk ty c=>by
    rw[hcount];rcases Nat.eq_zero_or_pos (p-A.length) with q|q
    ·rw[q,yJ,show kK 0=[] from List.length_eq_zero_iff.1 (by rw[jL])];rfl
    ·exact yI _ ty g _ (p-A.length) c q (λj hj=>Dp (hsp1 k) _ _ (by rw[hle];omega) _ (by omega)) (λj _=>by rw[World.frozen?_setCells];exact hfz1 k _)
   have aeE:p=A.length->∀k ty c D,(Builtin.clear_ #[39] ty #[.slice (some D) (p+d-(A.length+d)) c]).run prog ((((w.drewN k).setCells g 0 (aQ A)).drew).setCells g (A.length*6) ((aQ l).drop (p*6)))=.ok (.tuple #[]) (((((w.drewN k).setCells g 0 (aQ A)).drew).setCells g (A.length*6) ((aQ l).drop (p*6))).setCells g ((A.length+d)*6) (kK (p-A.length))):=λq k ty c D=>by
    rw[show p+d-(A.length+d)=0 by omega,yJ,show p-A.length=0 by omega,show kK 0=[] from List.length_eq_zero_iff.1 (by rw[jL])];rfl
   rw[hd];refine(QA g A.length p d cap a2 c2 w _ _ _ (by omega) (by omega) (by omega) hA h0 hc1 hc2 aeE aeF).mono ?_;rintro e w' ⟨rfl,k,rfl⟩;have e4:=e3 k;rw[<-tH,show(A.length+(l.length-p))*6=(A.length+d)*6 by omega] at e4;refine⟨_,rfl,?_,?_,λg' hg'=>.inl hg'⟩
   ·have:=e4.1;rw[show(A++l.drop p).length=A.length+d by simp;omega] at this;exact this
   ·have c0:aF (λk=>k=g) w (w.drewN k).drew:=aF.of_below ((hbk k).trans (Below.refl _ _).drew);exact(c0.trans e4.2).mono (λk _ z=>by rw[z];rfl)
end Go.Proofs.YtidekgipblnpkaaGreatDoor.Dk
