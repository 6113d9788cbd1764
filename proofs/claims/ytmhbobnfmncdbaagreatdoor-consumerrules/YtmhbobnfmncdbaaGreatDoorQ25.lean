/- A part. -/
import Derived.Test.YtmhbobnfmncdbaaGreatDoorQ11
import Derived.Test.YtmhbobnfmncdbaaGreatDoorQ23
import Derived.Lib.SlKeysI
set_option maxRecDepth 100000
set_option maxHeartbeats 8000000
namespace Go.Proofs.YtmhbobnfmncdbaaGreatDoor
open Go.RowKit Go.Proofs.Tryz
namespace Dk
abbrev Yq (b d n tb ub:Nat)(t:Tk.bH)(ta:Option Addr)(tc:Nat)(u:wE)(k:Int)(X:World):Prop:=Tq tb t ta tc X/\X.cell? ⟨ub,1,none⟩=some (.int .i64 u.now)/\X.cell? ⟨ub,2,none⟩=some (.int .i64 u.q)/\X.cell? ⟨b,0,none⟩=some (.map (some d))/\X.cell? ⟨b,1,none⟩=some (.map (some n))/\(Instr.lookup 63 (.map (some n)) (.int .i64 u.q) false).run prog X=.ok (.int .i64 k) X
section
variable {w:World}{B b d n z K:Nat}{W:uo}{t:Tk.bH}{ta:Option Addr}{tc:Nat}
theorem og (h:gJ w B b d n z K W)(u:wE):∃W2 tb ub,W2=(w.alloc (oh t ta tc)).alloc (.cells (QO u).toArray 45)/\tb=w.heap.size/\ub=w.heap.size+1/\Below w.heap.size w W2/\TB W2 tb t ta tc/\CB W2 ub (QO u)/\gJ W2 B b d n z K W/\(∀j,aK b d n z j->j≠tb/\j≠ub):=by
 have b1:Below w.heap.size w (w.alloc (oh t ta tc)):=(Below.refl _ _).alloc (Nat.le_refl _) _;have b2:Below (w.alloc (oh t ta tc)).heap.size (w.alloc (oh t ta tc)) ((w.alloc (oh t ta tc)).alloc (.cells (QO u).toArray 45)):=(Below.refl _ _).alloc (Nat.le_refl _) _;have e:(w.alloc (oh t ta tc)).heap.size=w.heap.size+1:=by simp
 refine⟨_,_,_,rfl,rfl,rfl,ay b1 b2,(TB.new w t ta tc).next b2,by rw[<-e];exact CB.new _ (QO u) _,h.next (ay b1 b2),λj hj=>?_⟩;have:=(h.own j hj).2;omega
theorem Aw (h:gJ w B b d n z K W)(hK:K<900)(u:wE)(hs:u.so=2)(hq:1<=u.q/\u.q<=1099511627776)(J9:0<=u.now/\u.now<=1099511627776)(hn:0<=u.n/\u.n<=100000) :
 Calls prog 28 #[.pointer (some ⟨b,0,none⟩),lU t ta tc,.agg #[.int .i64 u.k,.int .i64 u.now,.int .i64 u.q,.int .i64 u.so,.int .i64 u.n,.int .i64 u.r.k,.int .i64 u.r.q,.int .i64 u.r.t,.string u.r.s,.string u.r.h,.string u.r.d]] w λe w'=>e=.returned (.tuple #[])/\gJ w' B b d n z (K+1) (jw t W u.now u.q u.so u.n)/\aA (aK b d n z) w w':=by
 obtain⟨W2,tb,ub,hW2,htb,hub,b2,T2,C2,H2,hnf⟩:=og (t:=t) (ta:=ta) (tc:=tc) h u;have hwn:IntKind.i64.wrap (u.now+u.n)=u.now+u.n:=by rw[IntKind.wrap_i64];omega
 obtain⟨w9,r1,r2,r3⟩:=(H2.next (show Below W2.heap.size W2 W2.drew from(Below.refl _ _).drew)).Ue (v:=u.now+u.n) (by omega) (jO (n:=u.q) (by omega)) (jO (by omega));have c1:W2.cell? ⟨ub,1,none⟩=some (.int .i64 u.now):=C2.cell 1 _ rfl;have c2:W2.cell? ⟨ub,2,none⟩=some (.int .i64 u.q):=C2.cell 2 _ rfl;have c3:W2.cell? ⟨ub,3,none⟩=some (.int .i64 2):=by rw[<-hs];exact C2.cell 3 _ rfl
 have c4:W2.cell? ⟨ub,4,none⟩=some (.int .i64 u.n):=C2.cell 4 _ rfl;have y0:=H2.c0;have hbl:=H2.lt;have HX:=aj ((aA.of_below (A:=aK b d n z) b2).trans ((aA.of_below (show Below W2.heap.size W2 W2.drew from(Below.refl _ _).drew)).trans r3));have HE:Hid (gJ w9 B b d n z (K+1) (jw t W u.now u.q u.so u.n)):=aj (by unfold jw;rw[if_pos hs];exact r2);have e0:((2:Int)==2)=true:=rfl;clear h b2 T2 C2 H2 hnf r2 r3 hs;go_enter func28,ntmps28;go_upto_region 1 with fail
 rw[show(w.alloc (oh t ta tc)).alloc (.cells #[.int .i64 u.k,.int .i64 u.now,.int .i64 u.q,.int .i64 u.so,.int .i64 u.n,.int .i64 u.r.k,.int .i64 u.r.q,.int .i64 u.r.t,.string u.r.s,.string u.r.h,.string u.r.d] 45)=W2 from hW2.symm,<-hub,<-htb];clear hW2 hub htb;go_wp2_with fail;go_region
 all_goals
  go_wp2_with fail
  go_end0
  exact⟨rfl,ah HE,ah HX⟩
theorem xk (h:gJ w B b d n z K W)(hK:K<900)(u:wE)(hs:u.so=4)(hq:1<=u.q/\u.q<=1099511627776) :
 Calls prog 28 #[.pointer (some ⟨b,0,none⟩),lU t ta tc,.agg #[.int .i64 u.k,.int .i64 u.now,.int .i64 u.q,.int .i64 u.so,.int .i64 u.n,.int .i64 u.r.k,.int .i64 u.r.q,.int .i64 u.r.t,.string u.r.s,.string u.r.h,.string u.r.d]] w λe w'=>e=.returned (.tuple #[])/\gJ w' B b d n z (K+1) (jw t W u.now u.q u.so u.n)/\aA (aK b d n z) w w':=by
 obtain⟨W2,tb,ub,hW2,htb,hub,b2,T2,C2,H2,hnf⟩:=og (t:=t) (ta:=ta) (tc:=tc) h u;obtain⟨w9,r1,r2,r3⟩:=(H2.next (show Below W2.heap.size W2 W2.drew from(Below.refl _ _).drew)).YL (by omega) (jO (n:=u.q) (by omega));have c1:W2.cell? ⟨ub,1,none⟩=some (.int .i64 u.now):=C2.cell 1 _ rfl;have c2:W2.cell? ⟨ub,2,none⟩=some (.int .i64 u.q):=C2.cell 2 _ rfl;have c3:W2.cell? ⟨ub,3,none⟩=some (.int .i64 4):=by rw[<-hs];exact C2.cell 3 _ rfl
 have y2:=H2.c2;have hbl:=H2.lt;have HX:=aj ((aA.of_below (A:=aK b d n z) b2).trans ((aA.of_below (show Below W2.heap.size W2 W2.drew from(Below.refl _ _).drew)).trans (r3.mono (λk _ e=>.inr (.inr (.inr e.symm))))));have HE:Hid (gJ w9 B b d n z (K+1) (jw t W u.now u.q u.so u.n)):=aj (by unfold jw;rw[if_neg (by omega),if_neg (by omega),if_pos hs];exact r2);clear h b2 T2 C2 H2 hnf r2 r3 hs;go_enter func28,ntmps28;go_upto_region 1 with fail
 rw[show(w.alloc (oh t ta tc)).alloc (.cells #[.int .i64 u.k,.int .i64 u.now,.int .i64 u.q,.int .i64 u.so,.int .i64 u.n,.int .i64 u.r.k,.int .i64 u.r.q,.int .i64 u.r.t,.string u.r.s,.string u.r.h,.string u.r.d] 45)=W2 from hW2.symm,<-hub,<-htb];clear hW2 hub htb;go_wp2_with fail;go_region
 all_goals
  go_wp2_with fail
  go_end0
  exact⟨rfl,ah HE,ah HX⟩
theorem xq (h:gJ w B b d n z K W)(hK:K<900)(u:wE)(hs:u.so=3)(hq:1<=u.q/\u.q<=1099511627776)(J9:0<=u.now/\u.now<=1099511627776)(oI:lF w ta t.bo)(hb5:t.bo.length<=5)(hwt:eU t)(hN:W.nth u.q<=100) :
 Calls prog 28 #[.pointer (some ⟨b,0,none⟩),lU t ta tc,.agg #[.int .i64 u.k,.int .i64 u.now,.int .i64 u.q,.int .i64 u.so,.int .i64 u.n,.int .i64 u.r.k,.int .i64 u.r.q,.int .i64 u.r.t,.string u.r.s,.string u.r.h,.string u.r.d]] w λe w'=>e=.returned (.tuple #[])/\gJ w' B b d n z (K+1) (jw t W u.now u.q u.so u.n)/\aA (aK b d n z) w w':=by
 obtain⟨W2,tb,ub,hW2,htb,hub,b2,T2,C2,H2,hnf⟩:=og (t:=t) (ta:=ta) (tc:=tc) h u;have hwq:uq u.q:=jO (by omega);obtain⟨V,hV⟩:∃V,Tk.aZ t (W.nth u.q)=V:=⟨_,rfl⟩;have hwv:=nV hwt.w hwt.b (W.nth u.q);have PT:=aj (xW t ta tc (W.nth u.q) W2.drew (dG (dG oI b2) (Below.refl _ _).drew) (by omega) hN);rw[hV] at hwv PT;have hwr:IntKind.i64.wrap (u.now+V)=u.now+V:=by rw[IntKind.wrap_i64];omega
 have HS:Hid (∀X,Below W2.heap.size W2 X->Yq b d n tb ub t ta tc u (W.nth u.q) X/\∃w9,(Instr.mapUpdate 63 (.map (some d)) (.int .i64 u.q) (.int .i64 (u.now+V))).run prog X=.ok () w9/\gJ w9 B b d n z (K+1) (jw t W u.now u.q u.so u.n)/\aA (aK b d n z) w w9/\Tq tb t ta tc w9/\w9.cell? ⟨ub,1,none⟩=some (.int .i64 u.now)/\w9.cell? ⟨ub,2,none⟩=some (.int .i64 u.q)/\w9.cell? ⟨b,0,none⟩=some (.map (some d))/\w9.cell? ⟨b,1,none⟩=some (.map (some n))/\(Instr.lookup 63 (.map (some n)) (.int .i64 u.q) false).run prog w9=.ok (.int .i64 (W.nth u.q)) w9):=aj (λX hX=>by
  have h8:=H2.next hX;obtain⟨w9,r1,r2,r3⟩:=h8.Ue (by omega) hwq (jO (n:=u.now+V) (by omega));have r4:=(aA.of_below (A:=aK b d n z) hX).trans r3;have Xt:=C2.aT r4 (λz=>(hnf _ z).2 rfl);refine⟨⟨wM (T2.next hX),(C2.next hX).cell 1 _ rfl,(C2.next hX).cell 2 _ rfl,h8.c0,h8.c1,h8.nth.im.look hwq⟩,w9,r1,?_,(aA.of_below b2).trans r4,wM (T2.same r4.size (λj=>r4.cell (p:=⟨tb,j,none⟩) T2.lt (λz=>(hnf _ z).1 rfl))),Xt.cell 1 _ rfl,Xt.cell 2 _ rfl,r2.c0,r2.c1,r2.nth.im.look hwq⟩;unfold jw;rw[if_neg (by omega),if_pos hs,hV];exact r2)
 have c3:W2.cell? ⟨ub,3,none⟩=some (.int .i64 3):=by rw[<-hs];exact C2.cell 3 _ rfl
 have hbl:=H2.lt;have S0:Yq b d n tb ub t ta tc u (W.nth u.q) W2.drew:=(ah HS _ (show Below W2.heap.size W2 W2.drew from(Below.refl _ _).drew)).1;have Bd:=aj (show Below W2.heap.size W2 W2.drew from(Below.refl _ _).drew);clear h b2 T2 C2 H2 hnf hs hV oI hN;go_enter func28,ntmps28;go_upto_region 1 with fail
 rw[show(w.alloc (oh t ta tc)).alloc (.cells #[.int .i64 u.k,.int .i64 u.now,.int .i64 u.q,.int .i64 u.so,.int .i64 u.n,.int .i64 u.r.k,.int .i64 u.r.q,.int .i64 u.r.t,.string u.r.s,.string u.r.h,.string u.r.d] 45)=W2 from hW2.symm,<-hub,<-htb];clear hW2 hub htb;go_upto_region 5 with fail
 go_region_held_law (Yq b d n tb ub t ta tc u (W.nth u.q)) (first|with_reducible assumption|go_keep)
  (first|(go_at_call 60;with_reducible refine(ah PT).mono ?_;rintro e w3 ⟨rfl,b3⟩;obtain⟨S3,w9,hrun,hfin,hst,hS9⟩:=ah HS w3 (ay (ah Bd) b3);have S9:Yq b d n tb ub t ta tc u (W.nth u.q) w9:=hS9))
 all_goals
  go_wp2_with fail
  go_end0
  exact⟨rfl,hfin,hst⟩
end
theorem FN {A:Nat->Prop}{P:Program}{k:TypeId}{R:Value->Option (DataW Unit×List MemPlace)}{w w':World}{b r n cnt:Nat}{D:DataW Unit}{left:Lit->Bool}(h:w.ranges P k R b r n D left cnt)(hc:aA A w w')(h1:¬A b)(h2:¬A r):w'.ranges P k R b r n D left cnt:=by
 have hl:=h.owns.lt;have hr:=h.lt;obtain⟨es,clock,since,seen,c0,g1,g2,g3,g4,g5,g6⟩:=h;exact⟨es,clock,since,seen,c0,(hc.block b hl h1).trans g1,g2,g3,g4,(hc.block r hr h2).trans g5,g6⟩
theorem jy.congr {w:World}{b K:Nat}{f g:Int->Bool}(h:jy w b K f)(hfg:∀x,uq x->f x=g x):jy w b K g:=by
 obtain⟨D,h1,h2⟩:=h;exact⟨D,h1,λn hn=>by rw[h2 n hn,hfg n hn]⟩
def nK (t:Tk.bH)(q x:Int):Bool:=decide (x=q)||(decide (t.ack=1)&&decide (x<q))
section
variable {w:World}{B b d n z K:Nat}{W:uo}{t:Tk.bH}{ta:Option Addr}{tc:Nat}
structure XB (W2 wr:World)(B b d n z K Kz:Nat)(W:uo)(tb ub:Nat)(t:Tk.bH)(ta:Option Addr)(tc:Nat)(u:wE)(D:DataW Unit)(left:Lit->Bool)(dn:Int->Bool):Prop where
 h:Nq wr B b d n z K Kz {W with done:=dn}
 cb:CB wr ub (QO u)
 tb:TB wr tb t ta tc
 ch:aA (aK b d n z) W2 wr
 is:∀x,uq x->dn x=(W.done x||(Maps.has D (.int .i64 x)&&(!left (.int .i64 x)&&nK t u.q x)))
theorem Az (h:gJ w B b d n z K W)(hK:K<900)(u:wE)(hs:u.so=1) :
 Calls prog 28 #[.pointer (some ⟨b,0,none⟩),lU t ta tc,.agg #[.int .i64 u.k,.int .i64 u.now,.int .i64 u.q,.int .i64 u.so,.int .i64 u.n,.int .i64 u.r.k,.int .i64 u.r.q,.int .i64 u.r.t,.string u.r.s,.string u.r.h,.string u.r.d]] w λe w'=>e=.returned (.tuple #[])/\gJ w' B b d n z (K+1) (jw t W u.now u.q u.so u.n)/\aA (aK b d n z) w w':=by
 obtain⟨W2,tb,ub,hW2,htb,hub,b2,T2,C2,H2,hnf⟩:=og (t:=t) (ta:=ta) (tc:=tc) h u;obtain⟨D,hown,hD⟩:=H2.nth;have c3:W2.cell? ⟨ub,3,none⟩=some (.int .i64 1):=by rw[<-hs];exact C2.cell 3 _ rfl
 have y1:=H2.c1;have hbl:=H2.lt;have HB2:=aj b2;have XC:=aj (And.intro H2 (And.intro C2 T2));have OU:=aj hnf;have HDn:=aj hD;have HS:=aj hs;clear h b2 T2 C2 H2 hnf hs hD;go_enter func28,ntmps28;go_upto_region 1 with fail
 rw[show(w.alloc (oh t ta tc)).alloc (.cells #[.int .i64 u.k,.int .i64 u.now,.int .i64 u.q,.int .i64 u.so,.int .i64 u.n,.int .i64 u.r.k,.int .i64 u.r.q,.int .i64 u.r.t,.string u.r.s,.string u.r.h,.string u.r.d] 45)=W2 from hW2.symm,<-hub,<-htb];clear hW2 hub htb;go_wp2_with (first
  | (at_range;refine wpList_range_own _ rfl _ 63 rfl 3 3 ET underlying63 _ n _ _ rfl hown ?_;intro w0 hrg0 hg0 hs0)
  | go_in)
 go_frame
 have hle:=hown.size_le;have hrl:=hrg0.lt;have hnr:=hrg0.ne;have hr0:∀j,aK b d n z j->j≠W2.heap.size:=λj hj=>by have:=((ah XC).1.own j hj).2;omega
 have HR0:=aj hr0;have G0:Hid (XB W2 w0 B b d n z K (K*1000) W tb ub t ta tc u D (Maps.has D) W.done/\W2.heap.size<w0.heap.size):=aj (by
  have hb0:Below W2.heap.size W2 w0:=(Below.refl _ _).grown hg0 (Nat.le_refl _) (λj hj=>by cases hj);obtain⟨q1,q2,q3⟩:=ah XC;refine⟨⟨(q1.next hb0).cz,q2.next hb0,q3.next hb0,aA.of_below hb0,λx _=>?_⟩,by omega⟩
  cases Maps.has D (.int .i64 x)<;>simp)
 clear y1 c3 hg0 hs0 hown hbl hr0 hrl;go_loopw [6] (λ_ wr=>∃(left:Lit->Bool) (cnt Kz:Nat) (dn:Int->Bool),wr.ranges prog 3 (plainElem prog 3) n W2.heap.size K D left cnt/\Hid (XB W2 wr B b d n z K Kz W tb ub t ta tc u D left dn/\W2.heap.size<wr.heap.size)/\Hid (Kz+cnt<=K*1000+Maps.size D)) (λ_ wr=>wr.rangeLeft n W2.heap.size)
 case atStart=>exact⟨_,_,_,_,hrg0,G0,aj (Nat.le_refl _)⟩
 case round =>
  clear G0 hrg0;obtain⟨left,cnt,Kz,dn,hrg,HG,HC⟩:=hrel;go_wp2_with (first
   | (at_next;refine wpList_next_ranges_ii _ rfl _ rfl 3 3 .i64 .i64 ET underlying3 underlying3 n W2.heap.size _ _ _ _ rfl hrg ?_ ?_)
   | go_in)
  ·intro _ hl0;have XD:Hid (gJ wr B b d n z (K+1) (jw t W u.now u.q u.so u.n)/\aA (aK b d n z) w wr):=aj (by
    obtain⟨⟨g1,_,_,g4,g5⟩,_⟩:=ah HG;have hc:=ah HC;have hso:=ah HS;have e:jw t W u.now u.q u.so u.n={W with done:=λx=>W.done x||(decide (W.nth x≠0)&&nK t u.q x)}:=by
     unfold jw nK;rw[if_neg (by omega),if_neg (by omega),if_neg (by omega)]
    rw[e];refine⟨(Nq.ch (W:={W with done:=λx=>W.done x||(decide (W.nth x≠0)&&nK t u.q x)}) ⟨g1.lt,g1.c0,g1.c1,g1.c2,g1.c3,g1.c4,g1.fr,g1.due,g1.nth,g1.done.congr (λx hx=>?_),g1.ne,g1.low⟩ (Nat.le_succ _) (by omega)),(aA.of_below (ah HB2)).trans g4⟩;show dn x=_;rw[g5 x hx,(ah HDn x hx).2,hl0];simp)
   clear HG HC hrg HDn XC HB2 OU HS HR0;go_wp2_with fail;go_end0
   exact⟨rfl,(ah XD).1,(ah XD).2⟩
  ·intro x c w2 cnt2 hwx hwc hlk hat hrg2 hlt hg2 hs2 hen;have HG2:Hid (XB W2 w2 B b d n z K Kz W tb ub t ta tc u D left dn/\W2.heap.size<w2.heap.size/\Maps.has D (.int .i64 x)=true):=aj (by
    obtain⟨⟨g1,g2,g3,g4,g5⟩,g6⟩:=ah HG;have hc:aA (λj=>j=W2.heap.size) wr w2:=(aA.bU hg2).mono (λk _ e=>by cases e;rfl);have hn0:∀j,aK b d n z j->¬j=W2.heap.size:=λj hj=>ah HR0 j hj
    obtain⟨q1,q2,q3⟩:=ah XC;have hu:ub<W2.heap.size:=q2.lt;have ht:tb<W2.heap.size:=q3.lt;have hcc:aA (aK b d n z) W2 w2:=⟨hc.os.trans g4.os,hc.tape.trans g4.tape,hc.output.trans g4.output,Nat.le_trans g4.size hc.size,λk hk hn=>(hc.block k (by omega) (by omega)).trans (g4.block k hk hn)⟩;exact⟨⟨g1.aT hc hn0,g2.aT hc (by omega),g3.same hc.size (λj=>hc.cell (p:=⟨tb,j,none⟩) g3.lt (by show ¬tb=_;omega)),hcc,g5⟩,by omega,Maps.has_true_of_atKey hat⟩)
   have u2:=(ah HG2).1.cb.cell 2 _ rfl;have t4:=(ah HG2).1.tb.c4;have hev:(x==u.q)=true\/((x==u.q)=false/\(t.ack==1)=true/\decide (x<u.q)=true)\/((x==u.q)=false/\(t.ack==1)=true/\decide (x<u.q)=false)\/((x==u.q)=false/\(t.ack==1)=false):=by
    by_cases z1:x=u.q
    ·exact .inl (by simpa using z1)
    ·have z1:(x==u.q)=false:=by simpa using z1
     by_cases z2:t.ack=1
     ·have z2:(t.ack==1)=true:=by simpa using z2
      by_cases z3:x<u.q
      ·exact .inr (.inl ⟨z1,z2,decide_eq_true z3⟩)
      ·exact .inr (.inr (.inl ⟨z1,z2,decide_eq_false z3⟩))
     ·exact .inr (.inr (.inr ⟨z1,by simpa using z2⟩))
   have HM:Hid (w2.rangeLeft n W2.heap.size<wr.rangeLeft n W2.heap.size):=aj (by rw[hrg2.left_eq,hrg.left_eq];exact hlt);have hcl:=ah HC;have hw:=ah HG2;obtain⟨w9,hrun,k9,DF⟩:=(ah HG2).1.h.put (by omega) hwx;have y2:=(ah HG2).1.h.c2;have hsk:∀y,(Lit.int .i64 y).sameKey (.int .i64 x)=decide (y=x):=λy=>by simp[Lit.sameKey]
   have Ku:Hid (nK t u.q x=true->∃XE,w9.ranges prog 3 (plainElem prog 3) n W2.heap.size K D (λz=>left z&&!z.sameKey (.int .i64 x)) cnt2/\(XB W2 w9 B b d n z K (Kz+1) W tb ub t ta tc u D (λz=>left z&&!z.sameKey (.int .i64 x)) XE/\W2.heap.size<w9.heap.size)):=aj (λhdc=>by
    obtain⟨⟨g1,g2,g3,g4,g5⟩,g6,g7⟩:=ah HG2;have hnf:=ah OU z (.inr (.inr (.inr rfl)));refine⟨fK dn x true,FN hrg2 DF (λe=>g1.ne.2.2.2.2.2 e.symm) (λe=>ah HR0 z (.inr (.inr (.inr rfl))) e),⟨k9,g2.aT DF (λe=>hnf.2 e),g3.same DF.size (λj=>DF.cell (p:=⟨tb,j,none⟩) g3.lt (λe=>hnf.1 e)),g4.trans (DF.mono (λk _ e=>.inr (.inr (.inr e.symm)))),λy hy=>?_⟩,Nat.lt_of_lt_of_le g6 DF.size⟩;by_cases e:y=x
    ·subst e;rw[upd_same,g7,hsk,decide_eq_true rfl,hdc];simp
    ·rw[dh e,g5 y hy,hsk,decide_eq_false e];simp)
   have VR:Hid (nK t u.q x=false->XB W2 w2 B b d n z K Kz W tb ub t ta tc u D (λz=>left z&&!z.sameKey (.int .i64 x)) dn/\W2.heap.size<w2.heap.size):=aj (λhdc=>by
    obtain⟨⟨g1,g2,g3,g4,g5⟩,g6,g7⟩:=ah HG2;refine⟨⟨g1,g2,g3,g4,λy hy=>?_⟩,g6⟩;rw[g5 y hy,hsk];by_cases e:y=x
    ·subst e;rw[hdc];simp
    ·rw[decide_eq_false e];simp)
   have Xr:Hid (Kz+1+cnt2<=K*1000+Maps.size D):=aj (by omega);have HC2:Hid (Kz+cnt2<=K*1000+Maps.size D):=aj (by omega);have HL9:Hid (w9.ranges prog 3 (plainElem prog 3) n W2.heap.size K D (λz=>left z&&!z.sameKey (.int .i64 x)) cnt2->w9.rangeLeft n W2.heap.size<wr.rangeLeft n W2.heap.size):=aj (λhr9=>by rw[hr9.left_eq,hrg.left_eq];exact hlt);have HRG:=aj hrg2;clear HG HC hrg HDn XC HB2 OU HS HR0 hwx hwc hlk hat hrg2 hlt hg2 hs2 HG2 hcl hw k9 DF hsk;have hdc:nK t u.q x=(decide (x=u.q)||(decide (t.ack=1)&&decide (x<u.q))):=rfl;rcases hev with e1|⟨e1,e2,e3⟩|⟨e1,e2,e3⟩|⟨e1,e2⟩
   ·have hd:nK t u.q x=true:=by rw[hdc,decide_eq_true (by simpa using e1)];rfl
    obtain⟨XE,r1,r2⟩:=ah Ku hd;have R1:=aj r1;have R2:=aj r2;clear Ku VR hd r1 r2 hdc;go_wp2_with fail;go_roundw
    case rel=>exact⟨_,cnt2,Kz+1,XE,ah R1,R2,Xr⟩
    case measure=>exact ah HL9 (ah R1)
   ·have hd:nK t u.q x=true:=by rw[hdc,e3,decide_eq_true (show t.ack=1 by simpa using e2)];simp
    obtain⟨XE,r1,r2⟩:=ah Ku hd;have R1:=aj r1;have R2:=aj r2;have e3:x<u.q:=by simpa using e3
    clear Ku VR hd r1 r2 hdc;go_wp2_with fail;go_roundw
    case rel=>exact⟨_,cnt2,Kz+1,XE,ah R1,R2,Xr⟩
    case measure=>exact ah HL9 (ah R1)
   ·have hd:nK t u.q x=false:=by rw[hdc,e3,decide_eq_false (by simpa using e1)];simp
    have R2:=aj (ah VR hd);clear Ku VR hd hdc hrun;go_wp2_with fail;go_roundw
    case rel=>exact⟨_,cnt2,Kz,dn,ah HRG,R2,HC2⟩
    case measure=>exact ah HM
   ·have hd:nK t u.q x=false:=by rw[hdc,decide_eq_false (show ¬t.ack=1 by simpa using e2),decide_eq_false (by simpa using e1)];simp
    have R2:=aj (ah VR hd);clear Ku VR hd hdc hrun;go_wp2_with fail;go_roundw
    case rel=>exact⟨_,cnt2,Kz,dn,ah HRG,R2,HC2⟩
    case measure=>exact ah HM
end
section
variable {c:bJ}{s:bD}{now q so n:Int}{N:Nat}{m:Rc}
theorem Kv (he:(dJ c now q so n).2=0):iI now=true/\jW so n=true/\kW c.pe q=true:=by
 revert he
 unfold dJ;split
 ·exact λhe=>absurd he (by simp)
 ·rename_i hb;split
  ·exact λhe=>absurd he (by simp)
  ·rename_i hd;intro _;rw[not_or] at hb;exact⟨by simpa using hb.1,by simpa using hb.2,by simpa using hd⟩
theorem Rw (he:(dJ c now q so n).2≠0):(dJ c now q so n).1=c:=by
 revert he
 unfold dJ;split
 ·exact λ_=>rfl
 ·split
  ·exact λ_=>rfl
  ·split
   ·exact λhe=>absurd rfl he
   ·split
    ·exact λhe=>absurd rfl he
    ·split
     ·exact λhe=>absurd rfl he
     ·exact λhe=>absurd rfl he
theorem FP (hg:c.Go N)(hr:(aI c s.l now).2.1=some (m,n)):(1<=n/\n<=(N:Int)+1)/\iI now=true:=by
 revert hr
 unfold aI;split
 ·exact λhr=>absurd hr (by simp)
 ·rename_i VP;have VP:iI now=true:=by simpa using VP
  split
  ·rename_i m' n' hag;intro hr;simp only[Option.some.injEq,Prod.mk.injEq] at hr;obtain⟨rfl,rfl⟩:=hr;obtain⟨p,hp,g1,g2,_⟩:=vV hg.ok.rise hag;have h1:=hg.ok.nth p hp;have h2:=hg.nth p hp;exact⟨by omega,VP⟩
  ·split
   ·exact λhr=>absurd hr (by simp)
   ·split
    ·exact λhr=>absurd hr (by simp)
    ·intro hr;simp only[Option.some.injEq,Prod.mk.injEq] at hr;exact⟨by omega,VP⟩
end
theorem kD.made (w:World):kD (w.alloc (.map #[] 0)) w.heap.size 0 (λ_=>0):=⟨_,World.ownsMap_made _ _ _ _,λn _=>by simp[DataW.atKey]⟩
theorem nC.made (w:World):nC (w.alloc (.map #[] 0)) w.heap.size 0 (λ_=>0):=⟨_,World.ownsMap_made _ _ _ _,λn _=>⟨by simp[DataW.atKey],by simp[Maps.has]⟩⟩
theorem jy.made (w:World):jy (w.alloc (.map #[] 0)) w.heap.size 0 (λ_=>false):=⟨_,World.ownsMap_made _ _ _ _,λn _=>by simp[DataW.atKey]⟩
def U6:uo:=⟨λ_=>0,λ_=>0,λ_=>false,0,0⟩
theorem gJ.new (w:World){B:Nat}(hB:B<=w.heap.size):gJ ((((w.alloc (.map #[] 0)).alloc (.map #[] 0)).alloc (.map #[] 0)).alloc (.cells #[.map (some w.heap.size),.map (some (w.heap.size+1)),.map (some (w.heap.size+2)),.int .i64 0,.int .i64 0] 66)) B (w.heap.size+3) w.heap.size (w.heap.size+1) (w.heap.size+2) 0 U6:=by
 obtain⟨w1,h1⟩:∃w1,w1=w.alloc (.map #[] 0):=⟨_,rfl⟩;obtain⟨w2,h2⟩:∃w2,w2=w1.alloc (.map #[] 0):=⟨_,rfl⟩;obtain⟨w3,h3⟩:∃w3,w3=w2.alloc (.map #[] 0):=⟨_,rfl⟩;obtain⟨w4,h4⟩:∃w4,w4=w3.alloc (.cells #[.map (some w.heap.size),.map (some (w.heap.size+1)),.map (some (w.heap.size+2)),.int .i64 0,.int .i64 0] 66):=⟨_,rfl⟩;rw[<-h1,<-h2,<-h3,<-h4];have s1:w1.heap.size=w.heap.size+1:=by rw[h1];simp
 have s2:w2.heap.size=w.heap.size+2:=by rw[h2];simp;omega
 have s3:w3.heap.size=w.heap.size+3:=by rw[h3];simp;omega
 have m1:kD w1 w.heap.size 0 (λ_=>0):=by rw[h1];exact kD.made w
 have m2:nC w2 (w.heap.size+1) 0 (λ_=>0):=by rw[h2,<-s1];exact nC.made w1
 have m3:jy w3 (w.heap.size+2) 0 (λ_=>false):=by rw[h3,<-s2];exact jy.made w2
 have cb:CB w4 (w.heap.size+3) [.map (some w.heap.size),.map (some (w.heap.size+1)),.map (some (w.heap.size+2)),.int .i64 0,.int .i64 0]:=by rw[h4,<-s3];exact CB.new w3 [.map (some w.heap.size),.map (some (w.heap.size+1)),.map (some (w.heap.size+2)),.int .i64 0,.int .i64 0] _
 have b12:Below w1.heap.size w1 w2:=by rw[h2];exact(Below.refl _ _).alloc (Nat.le_refl _) _
 have b23:Below w2.heap.size w2 w3:=by rw[h3];exact(Below.refl _ _).alloc (Nat.le_refl _) _
 have b34:Below w3.heap.size w3 w4:=by rw[h4];exact(Below.refl _ _).alloc (Nat.le_refl _) _
 have c24:=ay b23 b34;exact⟨cb.lt,cb.cell 0 _ rfl,cb.cell 1 _ rfl,cb.cell 2 _ rfl,cb.cell 3 _ rfl,cb.cell 4 _ rfl,λj=>cb.fr j,m1.aT (aA.of_below (A:=λ_=>False) (ay b12 c24)) (λz=>z),m2.aT (aA.of_below (A:=λ_=>False) c24) (λz=>z),m3.aT (aA.of_below (A:=λ_=>False) b34) (λz=>z),by omega,by omega⟩
section
variable {SH:World->Nat->Nat->(Nat->Prop)->bD->Prop}{CH:World->Nat->Nat->(Nat->Prop)->bJ->Prop}
structure Rn (SH:World->Nat->Nat->(Nat->Prop)->bD->Prop)(CH:World->Nat->Nat->(Nat->Prop)->bJ->Prop)(X:Nat->Prop)(w wr:World)(q b wb d n z:Nat)(t:Tk.bH)(s:bD)(c:bJ)(W:uo)(k:Nat):Prop where
 xu:lg SH CH (λj=>aK wb d n z j\/X j) w wr q b s c
 wO:gJ wr w.heap.size wb d n z (2*k) W
 inv:Inv c W
 invs:rX c s
 go:c.Go k
 ok:s.Ok
 pl:c.t=t
structure Md (SH:World->Nat->Nat->(Nat->Prop)->bD->Prop)(CH:World->Nat->Nat->(Nat->Prop)->bJ->Prop)(X:Nat->Prop)(w wr:World)(q b wb d n z:Nat)(t:Tk.bH)(s:bD)(c':bJ)(W:uo)(k:Nat)(m:Rc)(nn now cn:Int):Prop where
 xu:lg SH CH (λj=>aK wb d n z j\/X j) w wr q b s c'
 wO:gJ wr w.heap.size wb d n z (2*k) W
 inv:Inv c' (Nk t W m.q nn now)
 invs:rX c' s
 go:c'.Go (k+1)
 ok:s.Ok
 pl:c'.t=t
 right:Right t s W m nn now
 cn:cn=W.cnt+1
 cnt:0<=W.cnt/\W.cnt<=100000
 nn:1<=nn/\nn<=90
 tm:0<=now/\now<=1099511627776
structure Ma (SH:World->Nat->Nat->(Nat->Prop)->bD->Prop)(CH:World->Nat->Nat->(Nat->Prop)->bJ->Prop)(X:Nat->Prop)(w wr:World)(q b wb d n z:Nat)(t:Tk.bH)(s:bD)(c':bJ)(W:uo)(k:Nat)(u:wE):Prop where
 xu:lg SH CH (λj=>aK wb d n z j\/X j) w wr q b s c'
 wO:gJ wr w.heap.size wb d n z (2*k) W
 inv:Inv c' (jw t W u.now u.q u.so u.n)
 invs:rX c' s
 go:c'.Go k
 ok:s.Ok
 pl:c'.t=t
 tm:0<=u.now/\u.now<=1099511627776
 an:jW u.so u.n=true
 q:1<=u.q/\u.q<=1099511627776
 nth:W.nth u.q<=100
variable {X Y:Nat->Prop}{w wr w':World}{q b wb d n z k:Nat}{t:Tk.bH}{s:bD}{c c':bJ}{W:uo}{m:Rc}{nn now cn:Int}{u:wE}
theorem DY (h:∀j,Y j->X j\/wr.heap.size<=j/\j<w'.heap.size):∀j,aK wb d n z j\/Y j->(aK wb d n z j\/X j)\/wr.heap.size<=j/\j<w'.heap.size:=λj hj=>by
 rcases hj with y|y
 ·exact .inl (.inl y)
 ·rcases h j y with x|x
  ·exact .inl (.inr x)
  ·exact .inr x
theorem Rn.with (H:aQ SH)(C:bG SH CH)(h:Rn SH CH X w wr q b wb d n z t s c W k)(hb:Below wr.heap.size wr w')(hY:∀j,Y j->X j\/wr.heap.size<=j/\j<w'.heap.size):Rn SH CH Y w w' q b wb d n z t s c W k :=
 ⟨h.xu.with H C hb (DY hY),h.wO.next hb,h.inv,h.invs,h.go,h.ok,h.pl⟩
theorem Md.with (H:aQ SH)(C:bG SH CH)(h:Md SH CH X w wr q b wb d n z t s c' W k m nn now cn)(hb:Below wr.heap.size wr w')(hY:∀j,Y j->X j\/wr.heap.size<=j/\j<w'.heap.size):Md SH CH Y w w' q b wb d n z t s c' W k m nn now cn :=
 {h with xu:=h.xu.with H C hb (DY hY),wO:=h.wO.next hb}
theorem Ma.below (H:aQ SH)(C:bG SH CH)(h:Ma SH CH X w wr q b wb d n z t s c' W k u)(hb:Below wr.heap.size wr w'):Ma SH CH X w w' q b wb d n z t s c' W k u :=
 {h with xu:=h.xu.below H C hb,wO:=h.wO.next hb}
theorem Rn.more (h:Rn SH CH X w wr q b wb d n z t s c W k):Rn SH CH X w wr q b wb d n z t s c W (k+1) :=
 {h with wO:=h.wO.more (by omega),go:=h.go.more (Nat.le_succ _)}
theorem Rn.Rx (H:aQ SH)(C:bG SH CH)(h:Rn SH CH X w wr q b wb d n z t s c W k)(hk:k<=80)(now:Int){E:Int}(hE:(aI c s.l now).2.2=E)(h0:E≠0):∃y:Gt,Calls prog 13 #[.pointer (some ⟨b,0,none⟩),.pointer (some ⟨q,0,none⟩),.int .i64 now] wr λe w'=>e=.returned (.tuple #[.agg #[.int .i64 y.q,.string y.s,.string y.d,.int .i64 y.c,.int .i64 y.n,.int .i64 y.l],.int .i64 E])/\Rn SH CH X w w' q b wb d n z t s (aI c s.l now).1 W (k+1)/\aA (λj=>¬(aK wb d n z j\/X j)) wr w':=by
 subst hE;refine⟨ng (aI c s.l now).1 s.l (aI c s.l now).2.1,(h.xu.next H C h.go (by omega) h.ok now).mono ?_⟩;rintro e w' ⟨he,hc,hch⟩;exact⟨he,⟨hc,(h.wO.aT hch (λj hj y=>y (.inl hj))).more (by omega),h.inv.err h0,h.invs.next h.ok now,h.go.next h.ok now,h.ok,(ku c s.l now).trans h.pl⟩,hch⟩
theorem Rn.U8 (H:aQ SH)(C:bG SH CH)(h:Rn SH CH X w wr q b wb d n z t s c W k)(hk:k<=80)(now:Int)(hE:(aI c s.l now).2.2=0):∃(m:Rc) (cn nn lf:Int),Calls prog 13 #[.pointer (some ⟨b,0,none⟩),.pointer (some ⟨q,0,none⟩),.int .i64 now] wr λe w'=>e=.returned (.tuple #[.agg #[.int .i64 m.q,.string m.s,.string m.d,.int .i64 cn,.int .i64 nn,.int .i64 lf],.int .i64 0])/\Md SH CH X w w' q b wb d n z t s (aI c s.l now).1 W k m nn now cn/\aA (λj=>¬(aK wb d n z j\/X j)) wr w':=by
 obtain⟨m,nn,ho⟩:=JM hE;obtain⟨r1,r2,r3⟩:=h.inv.step h.invs h.go h.ok ho;obtain⟨t1,t2⟩:=FP h.go ho;have hcn:=h.go.cn;have hcc:=h.inv.cnt;rw[h.pl] at r1 r2;have:=h.xu.next H C h.go (by omega) h.ok now;rw[ho,hE] at this;refine⟨m,(aI c s.l now).1.cn,nn,(bK (aI c s.l now).1.t.f s.l (aI c s.l now).1.pl:Int),this.mono ?_⟩;rintro e w' ⟨he,hc,hch⟩;exact⟨he,⟨hc,h.wO.aT hch (λj hj y=>y (.inl hj)),r2,h.invs.next h.ok now,h.go.next h.ok now,h.ok,(ku c s.l now).trans h.pl,r1,r3,by omega,by omega,jZ.1 t2⟩,hch⟩
theorem Md.told (H:aQ SH)(C:bG SH CH)(V:mX SH)(h:Md SH CH X w wr q b wb d n z t s c' W k m nn now cn)(hk:k<=80)(ta:Option Addr)(tc:Nat)(oI:lF wr ta t.bo)(hta:∀x,ta=some x->t.bo≠[]->x.block<w.heap.size)(lf:Int):Calls prog 27 #[.pointer (some ⟨wb,0,none⟩),lU t ta tc,.pointer (some ⟨q,0,none⟩),.agg #[.int .i64 m.q,.string m.s,.string m.d,.int .i64 cn,.int .i64 nn,.int .i64 lf],.int .i64 now] wr λe w'=>e=.returned (.bool true)/\Rn SH CH X w w' q b wb d n z t s c' (Nk t W m.q nn now) (k+1)/\aA (aK wb d n z) wr w':=by
 obtain⟨B,F,B',G,h1,h2,h3,h4,h5,h6,h7⟩:=h.xu;have hl:=h.wO.low;have hlow:∀j,aK wb d n z j->w.heap.size<=j:=λj hj=>by rcases hj with e|e|e|e<;>omega
 have hpl:=h.pl;have hsm:=h.go.small;have hb5:=h.go.bo;have hf:=h.go.filt;have hw:=h.go.waits;rw[hpl] at hsm hb5 hf hw;refine(xg H V h.wO (by omega) h1 (λj hj y=>(h7 j (.inl y)).2.1 hj) h3.2 h.ok t ta tc hsm oI hb5 hf hw (λx hx hn y=>by have:=hta x hx hn;have:=hlow _ y;omega) m nn cn lf now h.right h.cn h.cnt h.nn h.tm).mono ?_;rintro e w' ⟨he,a1,a2⟩;exact⟨he,⟨h.xu.aT H C a2 (λj hj=>.inl hj) hlow (λj hj=>.inl hj),a1.more (by omega),h.inv,h.invs,h.go,h.ok,h.pl⟩,a2⟩
theorem Rn.U9 (H:aQ SH)(C:bG SH CH)(h:Rn SH CH X w wr q b wb d n z t s c W k)(hk:k<=80){E:Int}(hE:(dJ c u.now u.q u.so u.n).2=E)(h0:E≠0):Calls prog 15 #[.pointer (some ⟨b,0,none⟩),.int .i64 u.now,.int .i64 u.q,.agg #[.int .i64 u.so,.int .i64 u.n]] wr λe w'=>e=.returned (.int .i64 E)/\Rn SH CH X w w' q b wb d n z t s c W (k+1)/\aA (λj=>¬(aK wb d n z j\/X j)) wr w':=by
 subst hE;have:=h.xu.answer H C h.go (by omega) u.now u.q u.so u.n;rw[Rw h0] at this;refine this.mono ?_;rintro e w' ⟨he,hc,hch⟩;exact⟨he,(Rn.more (k:=k) ⟨hc,h.wO.aT hch (λj hj y=>y (.inl hj)),h.inv,h.invs,h.go,h.ok,h.pl⟩),hch⟩
theorem Rn.XF (H:aQ SH)(C:bG SH CH)(h:Rn SH CH X w wr q b wb d n z t s c W k)(hk:k<=80)(hE:(dJ c u.now u.q u.so u.n).2=0):Calls prog 15 #[.pointer (some ⟨b,0,none⟩),.int .i64 u.now,.int .i64 u.q,.agg #[.int .i64 u.so,.int .i64 u.n]] wr λe w'=>e=.returned (.int .i64 0)/\Ma SH CH X w w' q b wb d n z t s (dJ c u.now u.q u.so u.n).1 W k u/\aA (λj=>¬(aK wb d n z j\/X j)) wr w':=by
 obtain⟨f1,f2,f3⟩:=Kv hE;obtain⟨r1,p,hp,hq⟩:=h.inv.ans h.go u.q u.so hE;have hlow:=h.go.ok.low p hp;have hpl:=h.go.ok.pl;have hn:=h.go.nth p hp;have hpn:=(h.inv.pend p hp).1;rw[h.pl] at r1;have:=h.xu.answer H C h.go (by omega) u.now u.q u.so u.n;rw[hE] at this;refine this.mono ?_;rintro e w' ⟨he,hc,hch⟩;exact⟨he,⟨hc,h.wO.aT hch (λj hj y=>y (.inl hj)),r1,h.invs.ans _ _ _ _,h.go.ans _ _ _ _,h.ok,(qM c _ _ _ _).trans h.pl,jZ.1 f1,f2,by omega,by rw[<-hq];omega⟩,hch⟩
theorem Ma.told (H:aQ SH)(C:bG SH CH)(h:Ma SH CH X w wr q b wb d n z t s c' W k u)(hk:k<=80)(ta:Option Addr)(tc:Nat)(oI:lF wr ta t.bo):Calls prog 28 #[.pointer (some ⟨wb,0,none⟩),lU t ta tc,.agg #[.int .i64 u.k,.int .i64 u.now,.int .i64 u.q,.int .i64 u.so,.int .i64 u.n,.int .i64 u.r.k,.int .i64 u.r.q,.int .i64 u.r.t,.string u.r.s,.string u.r.h,.string u.r.d]] wr λe w'=>e=.returned (.tuple #[])/\Rn SH CH X w w' q b wb d n z t s c' (jw t W u.now u.q u.so u.n) (k+1)/\aA (aK wb d n z) wr w':=by
 have hl:=h.wO.low;have hlow:∀j,aK wb d n z j->w.heap.size<=j:=λj hj=>by rcases hj with e|e|e|e<;>omega
 have hb5:=h.go.bo;have hw:=h.go.waits;rw[h.pl] at hb5 hw;have key:Calls prog 28 #[.pointer (some ⟨wb,0,none⟩),lU t ta tc,.agg #[.int .i64 u.k,.int .i64 u.now,.int .i64 u.q,.int .i64 u.so,.int .i64 u.n,.int .i64 u.r.k,.int .i64 u.r.q,.int .i64 u.r.t,.string u.r.s,.string u.r.h,.string u.r.d]] wr λe w'=>e=.returned (.tuple #[])/\gJ w' w.heap.size wb d n z (2*k+1) (jw t W u.now u.q u.so u.n)/\aA (aK wb d n z) wr w':=by
  have ha:=h.an;unfold jW at ha;by_cases h2:u.so=2
  ·rw[if_pos h2] at ha;simp only[Bool.and_eq_true,decide_eq_true_eq] at ha;exact Aw h.wO (by omega) u h2 h.q h.tm ha
  ·rw[if_neg h2] at ha;simp only[Bool.and_eq_true,Bool.or_eq_true,decide_eq_true_eq] at ha;rcases ha.1 with h1|h3|h4
   ·exact Az h.wO (by omega) u h1
   ·exact xq h.wO (by omega) u h3 h.q h.tm oI hb5 hw h.nth
   ·exact xk h.wO (by omega) u h4 h.q
 refine key.mono ?_;rintro e w' ⟨he,a1,a2⟩;exact⟨he,⟨h.xu.aT H C a2 (λj hj=>.inl hj) hlow (λj hj=>.inl hj),a1.more (by omega),h.inv,h.invs,h.go.more (Nat.le_succ _),h.ok,h.pl⟩,a2⟩
theorem Rn.apply (H:aQ SH)(C:bG SH CH)(h:Rn SH CH X w wr q b wb d n z t s c W k)(r:Rc)(hr:Small r):Calls prog 8 #[.pointer (some ⟨q,0,none⟩),.agg #[.int .i64 r.k,.int .i64 r.q,.int .i64 r.t,.string r.s,.string r.h,.string r.d]] wr λe w'=>e=.returned (.int .i64 (dU s r))/\Rn SH CH X w w' q b wb d n z t (gV s r) c W (k+1)/\aA (λj=>¬(aK wb d n z j\/X j)) wr w':=by
 refine(h.xu.YM H C (λB F h1 hB=>H.apply r hr h1 h.ok hB)).mono ?_;rintro e w' ⟨he,hc,hch⟩;exact⟨he,Rn.more (k:=k) ⟨hc,h.wO.aT hch (λj hj y=>y (.inl hj)),h.inv,h.invs.apply r,h.go,h.ok.apply r,h.pl⟩,hch⟩
theorem Rn.info (C:bG SH CH)(h:Rn SH CH X w wr q b wb d n z t s c W k):Calls prog 21 #[.pointer (some ⟨b,0,none⟩)] wr λe w'=>e=.returned (Vl (aJ c) (c.pl-1) c.cn (c.pe.length:Int))/\Below wr.heap.size wr w':=h.xu.info C h.go
end
