/- A part. -/
import Derived.Test.YtmhbobnfmncdbaaGreatDoorQ19
import Derived.Test.YtmhbobnfmncdbaaGreatDoorQ23
import Derived.Test.YtmhbobnfmncdbaaGreatDoorQ26
import Derived.Test.YtmhbobnfmncdbaaGreatDoorQ28
set_option maxRecDepth 100000
set_option maxHeartbeats 8000000
namespace Go.Proofs.YtmhbobnfmncdbaaGreatDoor
open Go.RowKit Go.Proofs.Tryz
namespace Dk
def RQ (w:World)(B b:Nat)(G:Nat->Prop)(c:aV):Prop:=∃a ca v,Cm w B b c a ca v/\G=λk=>jB b v k\/∃z,a=some z/\z.block=k
theorem RQ.did {w w':World}{B b:Nat}{c':aV}{a:Option Addr}{ca:Nat}{v:Value}(hu:bn w w' B b a ca v c'):Vu RQ w w' B b (λk=>jB b v k\/∃z,a=some z/\z.block=k) c':=by
 obtain⟨v',k1,ch,hg⟩:=hu;refine⟨_,⟨a,ca,v',k1,rfl⟩,ch.mono (λ_ _ q=>.inl q),λk hk=>?_⟩;rcases hk with (hk|hk)|hk
 ·exact .inl (.inl (.inl hk))
 ·rcases hg k hk with q|q
  ·exact .inl (.inl (.inr q))
  ·exact .inr q
 ·exact .inl (.inr hk)
theorem Yw {SH:World->Nat->Nat->(Nat->Prop)->bD->Prop}(H:aS SH)(T:EK SH):eF SH RQ where
 own:=by
  rintro w B b G c ⟨a,ca,v,h,rfl⟩ k hk;rcases hk with (rfl|hk)|⟨z,hz,rfl⟩
  ·exact⟨h.bB,h.tb.lt⟩
  ·exact h.row.lt k hk
  ·exact h.al z hz
 aW:=by
  rintro w w' B b G c A ⟨a,ca,v,h,rfl⟩ hc hn;exact⟨a,ca,v,h.aW hc (hn b (.inl (.inl rfl))) (λg hg=>hn g (.inl (.inr hg))) (λz hz=>hn z.block (.inr ⟨z,hz,rfl⟩)),rfl⟩
 bad:=λt a ca q hs hsl he=>QW t a ca hs hsl he
 new:=by
  intro w B' q F s t a ca hs hsl he h hk hB;refine(QX H t a ca hs hsl he h hk hB).mono ?_;rintro e w' ⟨⟨b,a',c',rfl,k⟩,hb⟩;exact⟨⟨b,_,rfl,a',c',_,k,rfl⟩,hb⟩
 next:=by
  rintro w B b G c B' q F s N ⟨a,ca,v,h,rfl⟩ hg hN hs hk hB hB' hF now;have hcn:=hg.cn;have hb:=hg.bo;refine(Ny H T h hs hk hB' hB (λk z y=>hF k z (.inl y)) hg.waits (by omega) hg.filt hg.small.filt (by omega) (Nat.le_trans hg.len hN) (λp hp=>by have:=hg.nth p hp;omega) now).mono ?_;rintro e w' ⟨he,hu⟩;exact⟨he,RQ.did hu⟩
 answer:=by
  rintro w B b G c N ⟨a,ca,v,h,rfl⟩ hg hN now q so n;have hb:=hg.bo;refine(I4 h hg.ok hg.waits (by omega) (by have:=hg.len;omega) now q so n).mono ?_;rintro e w' ⟨he,hu⟩;exact⟨he,RQ.did hu⟩
 done:=by
  rintro w B b G c N ⟨a,ca,v,h,rfl⟩ hg hN n;exact Rn h hg.ok (by have:=hg.len;omega) n
 due:=by
  rintro w B b G c N ⟨a,ca,v,h,rfl⟩ hg hN;exact Vx h (by have:=hg.len;omega)
 info:=by
  rintro w B b G c N ⟨a,ca,v,h,rfl⟩ hg;exact QA h hg.ok
 taker:=by
  rintro w B b G c N ⟨a,ca,v,h,rfl⟩ hg;exact IQ h hg.small (by have:=hg.bo;omega)
def N7 (n lo hi:Int):Bool:=decide (lo<=n)&&decide (n<=hi)
theorem bP (n lo hi:Int)(w:World):Calls prog 54 #[.int .i64 n,.int .i64 lo,.int .i64 hi] w λe w'=>e=.returned (.bool (N7 n lo hi))/\w'=w:=by
 by_cases h0:lo<=n
 ·have g0:decide (lo<=n)=true:=decide_eq_true h0;have HV:Hid (N7 n lo hi=decide (n<=hi)):=aj (by unfold N7;rw[g0,Bool.true_and]);go_enter func54,ntmps54;go_wp2_with fail;go_ret;rw[ah HV];exact⟨rfl,rfl⟩
 ·have g0:decide (lo<=n)=false:=decide_eq_false h0;have HV:Hid (N7 n lo hi=false):=aj (by unfold N7;rw[g0,Bool.false_and]);go_enter func54,ntmps54;go_wp2_with fail;go_ret;rw[ah HV];exact⟨rfl,rfl⟩
theorem gZ (now:Int):N7 now 0 1099511627776=dU now:=rfl
theorem kL (so n:Int):jy so n=(N7 so 1 4&&N7 n 0 (if so=2 then 100000 else 0)):=by
 unfold jy N7;by_cases h2:so=2
 ·subst h2;rw[if_pos rfl,if_pos rfl];rfl
 ·rw[if_neg h2,if_neg h2];by_cases hn:n=0
  ·subst hn;simp only[decide_true,Bool.and_true,Int.le_refl];rw[Bool.eq_iff_iff];simp only[Bool.or_eq_true,Bool.and_eq_true,decide_eq_true_eq];omega
  ·rw[decide_eq_false hn,Bool.and_false];symm
   rw[Bool.and_eq_false_iff];right;rw[Bool.and_eq_false_iff,decide_eq_false_iff_not,decide_eq_false_iff_not];omega
section
variable {w:World}{B b:Nat}{c:aV}{a:Option Addr}{ca:Nat}{v:Value}
theorem RS (h:Hm w B b c a ca v)(now q so n:Int)(hb:dU now=false\/jy so n=false) :
 Calls prog 16 #[.pointer (some ⟨b,0,none⟩),.int .i64 now,.int .i64 q,.agg #[.int .i64 so,.int .i64 n]] w λe w'=>e=.returned (.int .i64 1)/\aF w w' B b a ca v c:=by
 obtain⟨w0,hw0⟩:∃w0,w0=w.alloc (vM so n):=⟨_,rfl⟩;have b0:Below w.heap.size w w0:=by rw[hw0];exact(Below.refl _ _).alloc (Nat.le_refl _) _
 have hl0:w.heap.size<w0.heap.size:=by rw[hw0];simp
 have x0:w0.cell? ⟨w.heap.size,0,none⟩=some (.int .i64 so):=by rw[hw0];simp
 have x1:w0.cell? ⟨w.heap.size,1,none⟩=some (.int .i64 n):=by rw[hw0];simp
 have P1:=aj (λW=>bP now 0 1099511627776 W);rw[gZ] at P1;have P2:=aj (λW=>bP so 1 4 W);have HR:=aj (aF.same h b0);have hm:(so==2)=true/\(if so=2 then (100000:Int) else 0)=100000\/(so==2)=false/\(if so=2 then (100000:Int) else 0)=0:=by
  by_cases h2:so=2
  ·exact .inl ⟨by rw[h2];rfl,if_pos h2⟩
  ·exact .inr ⟨by simpa using h2,if_neg h2⟩
 rw[kL] at hb;rcases hm with ⟨g2,e2⟩|⟨g2,e2⟩;all_goals
  rw[e2] at hb
  clear e2 b0 h
  cases ht:dU now with
  | false =>
   rw[ht] at P1;clear ht hb P2;go_enter func16,ntmps16;go_upto_region 1 with fail
   rw[<-hw0];clear hw0;go_wp2_with fail;refine(ah P1 w0).mono ?_;rintro e w1 ⟨rfl,hw⟩;rw[hw];clear hw w1;go_wp2_with fail;go_ret;exact⟨rfl,ah HR⟩
  | true =>
   rw[ht] at P1;have hb:=hb.resolve_left (by rw[ht];simp)
   cases hi:N7 so 1 4 with
   | false =>
    rw[hi] at P2;clear ht hb hi;go_enter func16,ntmps16;go_upto_region 1 with fail
    rw[<-hw0];clear hw0;go_wp2_with fail;refine(ah P1 w0).mono ?_;rintro e w1 ⟨rfl,hw⟩;rw[hw];clear hw w1;go_wp2_with fail;refine(ah P2 w0).mono ?_;rintro e w1 ⟨rfl,hw⟩;rw[hw];clear hw w1;go_wp2_with fail;go_ret;exact⟨rfl,ah HR⟩
   | true =>
    rw[hi,Bool.true_and] at hb;rw[hi] at P2;first
     | (
      have P3:=aj (λW=>bP n 0 100000 W);rw[hb] at P3;clear ht hb hi
      go_enter func16,ntmps16
      go_upto_region 1 with fail
      rw[<-hw0]
      clear hw0
      go_wp2_with fail
      refine(ah P1 w0).mono ?_
      rintro e w1 ⟨rfl,hw⟩
      rw[hw]
      clear hw w1
      go_wp2_with fail
      refine(ah P2 w0).mono ?_
      rintro e w1 ⟨rfl,hw⟩
      rw[hw]
      clear hw w1
      go_wp2_with fail
      refine(ah P3 w0).mono ?_
      rintro e w1 ⟨rfl,hw⟩
      rw[hw]
      clear hw w1
      go_wp2_with fail
      go_ret
      exact⟨rfl,ah HR⟩)
     | (
      have P3:=aj (λW=>bP n 0 0 W);rw[hb] at P3;clear ht hb hi
      go_enter func16,ntmps16
      go_upto_region 1 with fail
      rw[<-hw0]
      clear hw0
      go_wp2_with fail
      refine(ah P1 w0).mono ?_
      rintro e w1 ⟨rfl,hw⟩
      rw[hw]
      clear hw w1
      go_wp2_with fail
      refine(ah P2 w0).mono ?_
      rintro e w1 ⟨rfl,hw⟩
      rw[hw]
      clear hw w1
      go_wp2_with fail
      refine(ah P3 w0).mono ?_
      rintro e w1 ⟨rfl,hw⟩
      rw[hw]
      clear hw w1
      go_wp2_with fail
      go_ret
      exact⟨rfl,ah HR⟩)
end
theorem Hm.Yx {w:World}{B b g cap:Nat}{c:aV}{a:Option Addr}{ca:Nat}{x y:List Dv}{p p':Dv}{j:Nat}{d:Int}(hc:c.pe=x++p::y)(h:Hm w B b c a ca (.slice (some ⟨g,0,none⟩) c.pe.length cap))(hj:j=1/\p'=⟨p.q,d,p.d⟩\/j=2/\p'=⟨p.q,p.n,d⟩) :
 Hm (w.setCell ⟨g,x.length*3+j,none⟩ (.int .i64 d)) B b ⟨c.t,c.pl,x++p'::y,c.cn⟩ a ca (.slice (some ⟨g,0,none⟩) c.pe.length cap):=by
 have hgb:g≠b:=λe=>h.ne1 (by rw[e];rfl)
 have hrow:=h.row;unfold aO at hrow;rw[List.length_map] at hrow;have hst:=(World.ownsRow.stored hrow (x.length*3+j) (.int .i64 d)).1;have cg:aB (λk=>k=g) w (w.setCell ⟨g,x.length*3+j,none⟩ (.int .i64 d)):=aB.setCell (A:=λk=>k=g) (p:=⟨g,x.length*3+j,none⟩) (aB.refl _ _) (.inl rfl) _;have Yp:(aG (c.pe.map jC)).set (x.length*3+j) (.int .i64 d)=aG ((x++p'::y).map jC):=by
  have hl:=aZ (x.map jC);rw[List.length_map] at hl;rw[hc,List.map_append,List.map_append,bM,bM,List.set_append_right _ _ (by omega),hl,show x.length*3+j-x.length*3=j by omega];rcases hj with ⟨rfl,rfl⟩|⟨rfl,rfl⟩<;>rfl
 rw[Yp] at hst;have hlen:c.pe.length=((x++p'::y).map jC).length:=by rw[hc];simp
 have ho:∀i,(w.setCell ⟨g,x.length*3+j,none⟩ (.int .i64 d)).cell? ⟨b,i,none⟩=w.cell? ⟨b,i,none⟩:=λi=>cg.cell (p:=⟨b,i,none⟩) h.tb.lt (λq=>hgb q.symm)
 refine⟨h.tb.same cg.size ho,by rw[ho];exact h.pl,by rw[ho];exact h.cn,by rw[ho];exact h.pe,?_,(λk hk=>by
  obtain⟨b',o,e1,e2,e3⟩:=h.bo k hk;exact⟨b',o,e1,Nat.lt_of_lt_of_le e2 cg.size,by rw[cg.cell (p:=⟨b',o+k,none⟩) e2 (λq=>(h.EU (λz=>by rw[z] at hk;cases hk) _ e1).2 (by rw[<-q];rfl))];exact e3⟩),λi=>by rw[World.frozen?_setCell];exact h.fr i,h.bB,h.ne1,h.EU,λn z hz=>Nat.lt_of_lt_of_le (h.al n z hz) cg.size⟩
 unfold aO;rw[<-hlen];exact hst
theorem Hm.one {w:World}{B b g cap:Nat}{c:aV}{a:Option Addr}{ca:Nat}{x y:List Dv}{p p':Dv}{j:Nat}{d:Int}(hc:c.pe=x++p::y)(h:Hm w B b c a ca (.slice (some ⟨g,0,none⟩) c.pe.length cap))(hj:j=1/\p'=⟨p.q,d,p.d⟩\/j=2/\p'=⟨p.q,p.n,d⟩) :
 aF w (w.setCell ⟨g,x.length*3+j,none⟩ (.int .i64 d)) B b a ca (.slice (some ⟨g,0,none⟩) c.pe.length cap) ⟨c.t,c.pl,x++p'::y,c.cn⟩ :=
 ⟨_,Hm.Yx hc h hj,(aB.setCell (A:=λk=>k=g) (p:=⟨g,x.length*3+j,none⟩) (aB.refl _ _) (.inl rfl) _).mono (λk _ q=>.inr (by rw[q];rfl)),λ_ q=>.inl q⟩
theorem KP {x y:List Dv}{p:Dv}(hr:(x++p::y).Pairwise λa b=>a.q<b.q)(f:Dv->Int):kP (x++p::y) p.q f=x++⟨p.q,p.n,f p⟩::y:=Ci hr f
theorem sU {l:List Dv}{q:Int}(h:jk l q=true):∃x p y,l=x++p::y/\p.q=q/\pV (λp:Dv=>decide (p.q=q)) l=(x.length:Int):=by
 rcases uD (λp:Dv=>decide (p.q=q)) l with ⟨e,hn⟩|⟨i,hi,e,hp,_⟩
 ·have:=CU (l:=l) (q:=q);rw[h,e] at this
  cases this
 ·refine⟨l.take i,l[i],l.drop (i+1),?_,by simpa using hp,?_⟩
  ·rw[<-List.drop_eq_getElem_cons hi,List.take_append_drop]
  ·rw[e,List.length_take,Nat.min_eq_left (Nat.le_of_lt hi)]
abbrev Xe (b g o:Nat)(t:Tk.bY)(a:Option Addr)(ca N cap:Nat)(n:Int)(W:World):Prop:=Tq b t a ca W/\W.cell? ⟨b,12,none⟩=some (.slice (some ⟨g,0,none⟩) N cap)/\W.cell? ⟨g,o+1,none⟩=some (.int .i64 n)
theorem Xe.set {b g o:Nat}{t:Tk.bY}{a:Option Addr}{ca N cap:Nat}{n:Int}{W:World}(h:Xe b g o t a ca N cap n W)(hne:g≠b)(u:Value):Xe b g o t a ca N cap n (W.setCell ⟨g,o+2,none⟩ u):=by
 have e:∀j,(W.setCell ⟨g,o+2,none⟩ u).cell? ⟨b,j,none⟩=W.cell? ⟨b,j,none⟩:=λj=>World.cell?_setCell_other _ _ _ _ (by intro e;injection e;omega)
 obtain⟨⟨h0,h1,h2,h3,h4,h5,h6,h7,h8,h9⟩,hp,hn⟩:=h;exact⟨⟨(e 0).trans h0,(e 1).trans h1,(e 2).trans h2,(e 3).trans h3,(e 4).trans h4,(e 5).trans h5,(e 6).trans h6,(e 7).trans h7,(e 8).trans h8,(e 9).trans h9⟩,(e 12).trans hp,(World.cell?_setCell_other _ _ _ _ (by intro e;injection e;omega)).trans hn⟩
section
variable {w:World}{B b:Nat}{c:aV}{a:Option Addr}{ca:Nat}{v:Value}
theorem N9 (h:Hm w B b c a ca v)(hl:c.pe.length<=100000)(now q so n:Int)(ht:dU now=true)(ha:jy so n=true)(hn:jk c.pe q=false) :
 Calls prog 16 #[.pointer (some ⟨b,0,none⟩),.int .i64 now,.int .i64 q,.agg #[.int .i64 so,.int .i64 n]] w λe w'=>e=.returned (.int .i64 4)/\aF w w' B b a ca v c:=by
 obtain⟨w0,hw0⟩:∃w0,w0=w.alloc (vM so n):=⟨_,rfl⟩;have b0:Below w.heap.size w w0:=by rw[hw0];exact(Below.refl _ _).alloc (Nat.le_refl _) _
 have hl0:w.heap.size<w0.heap.size:=by rw[hw0];simp
 have x0:w0.cell? ⟨w.heap.size,0,none⟩=some (.int .i64 so):=by rw[hw0];simp
 have x1:w0.cell? ⟨w.heap.size,1,none⟩=some (.int .i64 n):=by rw[hw0];simp
 have P1:=aj (λW=>bP now 0 1099511627776 W);rw[gZ,ht] at P1;have P2:=aj (λW=>bP so 1 4 W);rw[kL,Bool.and_eq_true] at ha;rw[ha.1] at P2;have PW:=aj (iC (h.next b0) (by omega) q);have HR:Hid (∀w1,Below w0.heap.size w0 w1->aF w w1 B b a ca v c):=aj (λw1 b1=>aF.same h (ay b0 b1));have hf:=CU (l:=c.pe) (q:=q);rw[hn] at hf;obtain⟨X,hX⟩:∃X,pV (λp:Dv=>decide (p.q=q)) c.pe=X:=⟨_,rfl⟩;rw[hX] at PW hf;have g0:decide (X<0)=true:=hf;clear hf hX hn b0 h;have hm:(so==2)=true/\(if so=2 then (100000:Int) else 0)=100000\/(so==2)=false/\(if so=2 then (100000:Int) else 0)=0:=by
  by_cases h2:so=2
  ·exact .inl ⟨by rw[h2];rfl,if_pos h2⟩
  ·exact .inr ⟨by simpa using h2,if_neg h2⟩
 rcases hm with ⟨g2,e2⟩|⟨g2,e2⟩
 ·have P3:=aj (λW=>bP n 0 100000 W);rw[e2] at ha;rw[ha.2] at P3;clear e2 ha;go_enter func16,ntmps16;go_upto_region 1 with fail
  rw[<-hw0];clear hw0;go_wp2_with fail;refine(ah P1 w0).mono ?_;rintro e w1 ⟨rfl,hw⟩;rw[hw];clear hw w1;go_wp2_with fail;refine(ah P2 w0).mono ?_;rintro e w1 ⟨rfl,hw⟩;rw[hw];clear hw w1;go_wp2_with fail;refine(ah P3 w0).mono ?_;rintro e w1 ⟨rfl,hw⟩;rw[hw];clear hw w1;go_wp2_with fail;refine(ah PW).mono ?_;rintro e w1 ⟨rfl,b1⟩;go_wp2_with fail;go_ret;exact⟨rfl,ah HR _ b1⟩
 ·have P3:=aj (λW=>bP n 0 0 W);rw[e2] at ha;rw[ha.2] at P3;clear e2 ha;go_enter func16,ntmps16;go_upto_region 1 with fail
  rw[<-hw0];clear hw0;go_wp2_with fail;refine(ah P1 w0).mono ?_;rintro e w1 ⟨rfl,hw⟩;rw[hw];clear hw w1;go_wp2_with fail;refine(ah P2 w0).mono ?_;rintro e w1 ⟨rfl,hw⟩;rw[hw];clear hw w1;go_wp2_with fail;refine(ah P3 w0).mono ?_;rintro e w1 ⟨rfl,hw⟩;rw[hw];clear hw w1;go_wp2_with fail;refine(ah PW).mono ?_;rintro e w1 ⟨rfl,b1⟩;go_wp2_with fail;go_ret;exact⟨rfl,ah HR _ b1⟩
theorem RU (h:Hm w B b c a ca v)(ho:c.Ok)(hl:c.pe.length<=100000)(now q n:Int)(ht:dU now=true)(ha:jy 2 n=true)(hn:jk c.pe q=true) :
 Calls prog 16 #[.pointer (some ⟨b,0,none⟩),.int .i64 now,.int .i64 q,.agg #[.int .i64 2,.int .i64 n]] w λe w'=>e=.returned (.int .i64 0)/\aF w w' B b a ca v ⟨c.t,c.pl,kP c.pe q (λ_=>now+n),c.cn⟩:=by
 obtain⟨w0,hw0⟩:∃w0,w0=w.alloc (vM 2 n):=⟨_,rfl⟩;have b0:Below w.heap.size w w0:=by rw[hw0];exact(Below.refl _ _).alloc (Nat.le_refl _) _
 have hl0:w.heap.size<w0.heap.size:=by rw[hw0];simp
 have x0:w0.cell? ⟨w.heap.size,0,none⟩=some (.int .i64 2):=by rw[hw0];simp
 have x1:w0.cell? ⟨w.heap.size,1,none⟩=some (.int .i64 n):=by rw[hw0];simp
 have P1:=aj (λW=>bP now 0 1099511627776 W);rw[gZ,ht] at P1;have P2:=aj (λW=>bP 2 1 4 W);rw[kL,Bool.and_eq_true] at ha;rw[ha.1] at P2;have PW:=aj (iC (h.next b0) (by omega) q);have P3:=aj (λW=>bP n 0 100000 W);rw[if_pos rfl] at ha;rw[ha.2] at P3;obtain⟨xs,p,ys,hpe,hpq,hfs⟩:=sU hn;rw[hfs] at PW;have HV:Hid (kP c.pe q (λ_=>now+n)=xs++⟨p.q,p.n,now+n⟩::ys):=aj (by rw[hpe,<-hpq];exact KP (by rw[<-hpe];exact ho.rise) _);rw[ah HV];obtain⟨g,cap,hvv,hgc,hcm,hgB,hgl⟩:=aO.there h.row (by rw[hpe,List.length_map,List.length_append,List.length_cons];omega)
 rw[List.length_map] at hvv hgc;subst hvv;have hn2:=ha.2;have hti:=jc.1 ht;unfold N7 at hn2;rw[Bool.and_eq_true,decide_eq_true_eq,decide_eq_true_eq] at hn2;have hxl:xs.length<c.pe.length:=by rw[hpe];simp
 have hgb:g≠b:=λe=>h.ne1 (by rw[e];rfl)
 have Yy:=h.pe;have HH:Hid (∀w1,Below w0.heap.size w0 w1->Hm w1 B b c a ca (.slice (some ⟨g,0,none⟩) c.pe.length cap)):=aj (λw1 b1=>(h.next b0).next b1);have HB:=aj b0;have hcn:=hcm;unfold maxLen at hcn;obtain⟨N,hN⟩:∃N,c.pe.length=N:=⟨_,rfl⟩;rw[hN] at HH hxl hgc hl;rw[hN];have HN:=aj hN;have HP:=aj hpe;clear h b0 ha hn hfs Yy hN hpe;go_enter func16,ntmps16;go_upto_region 1 with fail
 rw[<-hw0];clear hw0;go_wp2_with fail;refine(ah P1 w0).mono ?_;rintro e w1 ⟨rfl,hw⟩;rw[hw];clear hw w1;go_wp2_with fail;refine(ah P2 w0).mono ?_;rintro e w1 ⟨rfl,hw⟩;rw[hw];clear hw w1;go_wp2_with fail;refine(ah P3 w0).mono ?_;rintro e w1 ⟨rfl,hw⟩;rw[hw];clear hw w1;go_wp2_with fail;refine(ah PW).mono ?_;rintro e w1 ⟨rfl,b1⟩;have h1:=ah HH w1 b1;have c12:=h1.pe;have hbl:=h1.tb.lt;have RV:g<w1.heap.size:=Nat.lt_of_lt_of_le (Nat.lt_of_lt_of_le hgl (ah HB).size) b1.size;have y0:=(b1.cell (p:=⟨w.heap.size,0,none⟩) hl0).trans x0;have y1:=(b1.cell (p:=⟨w.heap.size,1,none⟩) hl0).trans x1
 have hfr:=(aO.free h1.row).1 (xs.length*3+2);have hce:∃u,w1.cell? ⟨g,xs.length*3+2,none⟩=some u:=Option.isSome_iff_exists.1 ((aO.free h1.row).2 (xs.length*3+2) (by omega));obtain⟨u,hu⟩:=hce;have HR:=aj (Hm.one (j:=2) (p':=⟨p.q,p.n,now+n⟩) (d:=now+n) (ah HP) (by rw[ah HN];exact h1) (.inr ⟨rfl,rfl⟩));have B1:=aj (ay (ah HB) b1);clear h1 b1 HH;go_wp2_with fail;go_region
 rw[ah HN] at HR;have HF:=aj ((aF.trans (aB.of_below (ah B1)) (λ_ q=>.inl q) (ah HR)).next (Below.refl _ _).drew);clear hfr hu y0 y1 c12 B1 HR HN HP;go_wp2_with fail;go_ret;exact⟨rfl,ah HF⟩
end
section
variable {w:World}{B b:Nat}{c:aV}{a:Option Addr}{ca:Nat}{v:Value}
theorem Oa (h:Hm w B b c a ca v)(ho:c.Ok)(hw:dP c.t)(oK:c.t.bo.length<=140737488355328)(hnb:∀p∈c.pe,p.n<=100)(hl:c.pe.length<=100000)(now q n:Int)(ht:dU now=true)(ha:jy 3 n=true)(hn:jk c.pe q=true) :
 Calls prog 16 #[.pointer (some ⟨b,0,none⟩),.int .i64 now,.int .i64 q,.agg #[.int .i64 3,.int .i64 n]] w λe w'=>e=.returned (.int .i64 0)/\aF w w' B b a ca v ⟨c.t,c.pl,kP c.pe q (λp=>now+Tk.bU c.t p.n),c.cn⟩:=by
 obtain⟨w0,hw0⟩:∃w0,w0=w.alloc (vM 3 n):=⟨_,rfl⟩;have b0:Below w.heap.size w w0:=by rw[hw0];exact(Below.refl _ _).alloc (Nat.le_refl _) _
 have hl0:w.heap.size<w0.heap.size:=by rw[hw0];simp
 have x0:w0.cell? ⟨w.heap.size,0,none⟩=some (.int .i64 3):=by rw[hw0];simp
 have x1:w0.cell? ⟨w.heap.size,1,none⟩=some (.int .i64 n):=by rw[hw0];simp
 have P1:=aj (λW=>bP now 0 1099511627776 W);rw[gZ,ht] at P1;have P2:=aj (λW=>bP 3 1 4 W);rw[kL,Bool.and_eq_true] at ha;rw[ha.1] at P2;have PW:=aj (iC (h.next b0) (by omega) q);have P3:=aj (λW=>bP n 0 0 W);rw[if_neg (by decide)] at ha;rw[ha.2] at P3;obtain⟨xs,p,ys,hpe,hpq,hfs⟩:=sU hn;rw[hfs] at PW;have HV:Hid (kP c.pe q (λp=>now+Tk.bU c.t p.n)=xs++⟨p.q,p.n,now+Tk.bU c.t p.n⟩::ys):=aj (by rw[hpe,<-hpq];exact KP (by rw[<-hpe];exact ho.rise) _);rw[ah HV];have hwt:=mF hw.w hw.b p.n;obtain⟨V,hV⟩:∃V,Tk.bU c.t p.n=V:=⟨_,rfl⟩
 rw[hV] at hwt ⊢;have HVV:=aj hV;clear hV HV;obtain⟨g,cap,hvv,hgc,hcm,hgB,hgl⟩:=aO.there h.row (by rw[hpe,List.length_map,List.length_append,List.length_cons];omega);rw[List.length_map] at hvv hgc;subst hvv;have hn2:=ha.2;have hti:=jc.1 ht;unfold N7 at hn2;rw[Bool.and_eq_true,decide_eq_true_eq,decide_eq_true_eq] at hn2;have hxl:xs.length<c.pe.length:=by rw[hpe];simp
 have hgb:g≠b:=λe=>h.ne1 (by rw[e];rfl)
 have Yy:=h.pe;have HH:Hid (∀w1,Below w0.heap.size w0 w1->Hm w1 B b c a ca (.slice (some ⟨g,0,none⟩) c.pe.length cap)):=aj (λw1 b1=>(h.next b0).next b1);have HB:=aj b0;have HNb:=aj hnb;have hcn:=hcm;unfold maxLen at hcn;obtain⟨N,hN⟩:∃N,c.pe.length=N:=⟨_,rfl⟩;rw[hN] at HH hxl hgc hl;rw[hN];have HN:=aj hN;have HP:=aj hpe;clear h b0 ha hn hfs Yy hN hpe hnb;go_enter func16,ntmps16;go_upto_region 1 with fail
 rw[<-hw0];clear hw0;go_wp2_with fail;refine(ah P1 w0).mono ?_;rintro e w1 ⟨rfl,hw⟩;rw[hw];clear hw w1;go_wp2_with fail;refine(ah P2 w0).mono ?_;rintro e w1 ⟨rfl,hw⟩;rw[hw];clear hw w1;go_wp2_with fail;refine(ah P3 w0).mono ?_;rintro e w1 ⟨rfl,hw⟩;rw[hw];clear hw w1;go_wp2_with fail;refine(ah PW).mono ?_;rintro e w1 ⟨rfl,b1⟩;have h1:=ah HH w1 b1;have c12:=h1.pe;have hbl:=h1.tb.lt;have RV:g<w1.heap.size:=Nat.lt_of_lt_of_le (Nat.lt_of_lt_of_le hgl (ah HB).size) b1.size;have y0:=(b1.cell (p:=⟨w.heap.size,0,none⟩) hl0).trans x0;have y1:=(b1.cell (p:=⟨w.heap.size,1,none⟩) hl0).trans x1
 have hfr:=(aO.free h1.row).1 (xs.length*3+2);have hce:∃u,w1.cell? ⟨g,xs.length*3+2,none⟩=some u:=Option.isSome_iff_exists.1 ((aO.free h1.row).2 (xs.length*3+2) (by omega));obtain⟨u,hu⟩:=hce;have HR:=aj (Hm.one (j:=2) (p':=⟨p.q,p.n,now+V⟩) (d:=now+V) (ah HP) (by rw[ah HN];exact h1) (.inr ⟨rfl,rfl⟩));have B1:=aj (ay (ah HB) b1);have abP:=RV;obtain⟨d0,d1,d2⟩:_/\_/\_:=⟨h1.tb.lt,h1.pe,h1.tb⟩;have hp1:w1.cell? ⟨g,xs.length*3+1,none⟩=some (.int .i64 p.n):=by
  have:=aO.at h1.row (k:=xs.length) (by rw[List.length_map,ah HN];exact hxl);have e:tr (c.pe.map jC) xs.length=jC p:=by rw[ah HP,List.map_append,tK (by simp),List.getElem_append_right (by simp)];simp
  rw[e] at this;exact this.c1
 have k0:=sO d2;have k1:Xe b g (xs.length*3) c.t a ca N cap p.n w1.drew:=⟨k0,c12,hp1⟩;clear k0;have HT:Hid (∀w2,Below w1.drew.heap.size w1.drew w2->Xe b g (xs.length*3) c.t a ca N cap p.n w2/\w2.cell? ⟨g,xs.length*3+2,none⟩=some u/\w2.frozen? ⟨g,xs.length*3+2,none⟩=false/\Below w.heap.size w w2/\aF w (w2.setCell ⟨g,xs.length*3+2,none⟩ (.int .i64 (now+V))) B b a ca (.slice (some ⟨g,0,none⟩) N cap) ⟨c.t,c.pl,xs++⟨p.q,p.n,now+V⟩::ys,c.cn⟩):=aj (λw2 b2=>by
  have b2':Below w1.heap.size w1 w2:=((Below.refl w1.heap.size w1).drew).trans b2;have hb2:Below w.heap.size w w2:=ay (ah B1) b2';have h2:=h1.next b2';refine⟨⟨sO h2.tb,h2.pe,(b2'.cell (p:=⟨g,xs.length*3+1,none⟩) RV).trans hp1⟩,(b2'.cell (p:=⟨g,xs.length*3+2,none⟩) RV).trans hu,(b2'.frozen (p:=⟨g,xs.length*3+2,none⟩) RV).trans hfr,hb2,?_⟩;have:=aF.trans (aB.of_below hb2) (λ_ q=>.inl q) (Hm.one (j:=2) (p':=⟨p.q,p.n,now+V⟩) (d:=now+V) (ah HP) (by rw[ah HN];exact h2) (.inr ⟨rfl,rfl⟩));rw[ah HN] at this;exact this)
 have PT:=aj (tX c.t a ca p.n w1.drew h1.bo oK (ah HNb p (by rw[ah HP];simp)));rw[ah HVV] at PT;have hne:=hgb;clear h1 b1 HH HR d0 d1 d2 hp1 hu hfr hw oK B1 HP HN HVV;have sN:Hid (∀W u,Xe b g (xs.length*3) c.t a ca N cap p.n W->Xe b g (xs.length*3) c.t a ca N cap p.n (W.setCell ⟨g,xs.length*3+2,none⟩ u)):=aj (λW u k=>k.set hne u);go_wp2_with fail;go_region_held_law (Xe b g (xs.length*3) c.t a ca N cap p.n) (first|with_reducible assumption|(with_reducible refine ah sN _ _ ?_;with_reducible assumption))
  (first|(go_at_call 60;with_reducible refine(ah PT).mono ?_;rintro e w2 ⟨rfl,b2⟩;obtain⟨k2,u2,f2,B2,R2⟩:=ah HT w2 b2))
 all_goals
  have hwr:IntKind.i64.wrap (now+V)=now+V:=by rw[IntKind.wrap_i64];omega
  rw[hwr]
  have HF:=aj R2
  clear R2 k2 u2 f2 b2 B2 hwr HT sN
  go_wp2_with fail
  go_ret
  exact⟨rfl,ah HF⟩
end
theorem aF.front {w w1 w2:World}{B b:Nat}{a:Option Addr}{ca:Nat}{v:Value}{c':aV}(hb:Below w.heap.size w w1)(h:aF w1 w2 B b a ca v c'):aF w w2 B b a ca v c':=aF.trans (aB.of_below hb) (λ_ q=>.inl q) h
theorem F6 {l:List Dv}(hr:l.Pairwise λa b=>a.q<b.q){k:Nat}(hk:k<l.length):mP l[k].q (l.drop k)=l.drop (k+1):=by
 have e:l.drop k=[]++l[k]::l.drop (k+1):=by rw[List.nil_append];exact List.drop_eq_getElem_cons hk
 have hr2:(l.drop k).Pairwise λa b=>a.q<b.q:=hr.sublist (List.drop_sublist _ _)
 unfold mP;rw[e] at hr2 ⊢;exact vU hr2
section
variable {w:World}{B b:Nat}{c:aV}{a:Option Addr}{ca:Nat}{v:Value}
theorem Ob (h:Hm w B b c a ca v)(hl:c.pe.length<=100000)(now q n:Int)(ht:dU now=true)(ha:jy 4 n=true)(hn:jk c.pe q=true) :
 Calls prog 16 #[.pointer (some ⟨b,0,none⟩),.int .i64 now,.int .i64 q,.agg #[.int .i64 4,.int .i64 n]] w λe w'=>e=.returned (.int .i64 0)/\aF w w' B b a ca v ⟨c.t,c.pl,mP q c.pe,c.cn⟩:=by
 obtain⟨w0,hw0⟩:∃w0,w0=w.alloc (vM 4 n):=⟨_,rfl⟩;have b0:Below w.heap.size w w0:=by rw[hw0];exact(Below.refl _ _).alloc (Nat.le_refl _) _
 have hl0:w.heap.size<w0.heap.size:=by rw[hw0];simp
 have x0:w0.cell? ⟨w.heap.size,0,none⟩=some (.int .i64 4):=by rw[hw0];simp
 have x1:w0.cell? ⟨w.heap.size,1,none⟩=some (.int .i64 n):=by rw[hw0];simp
 have P1:=aj (λW=>bP now 0 1099511627776 W);rw[gZ,ht] at P1;have P2:=aj (λW=>bP 4 1 4 W);rw[kL,Bool.and_eq_true] at ha;rw[ha.1] at P2;have PW:=aj (iC (h.next b0) (by omega) q);have P3:=aj (λW=>bP n 0 0 W);rw[if_neg (by decide)] at ha;rw[ha.2] at P3;obtain⟨xs,p,ys,hpe,hpq,hfs⟩:=sU hn;rw[hfs] at PW;have hxl:xs.length<c.pe.length:=by rw[hpe];simp
 have HB:=aj b0;have PO:Hid (∀w1,Below w0.heap.size w0 w1->Calls prog 62 #[.pointer (some ⟨b,0,none⟩),.int .i64 q] w1 λe w'=>e=.returned (.tuple #[])/\aF w1 w' B b a ca v ⟨c.t,c.pl,mP q c.pe,c.cn⟩):=aj (λw1 b1=>lG ((h.next b0).next b1) hl q);clear h b0 ha hn hfs hpe;go_enter func16,ntmps16;go_upto_region 1 with fail
 rw[<-hw0];clear hw0;go_wp2_with fail;refine(ah P1 w0).mono ?_;rintro e w1 ⟨rfl,hw⟩;rw[hw];clear hw w1;go_wp2_with fail;refine(ah P2 w0).mono ?_;rintro e w1 ⟨rfl,hw⟩;rw[hw];clear hw w1;go_wp2_with fail;refine(ah P3 w0).mono ?_;rintro e w1 ⟨rfl,hw⟩;rw[hw];clear hw w1;go_wp2_with fail;refine(ah PW).mono ?_;rintro e w1 ⟨rfl,b1⟩;have y0:=(b1.cell (p:=⟨w.heap.size,0,none⟩) hl0).trans x0;have PO1:=aj (ah PO w1 b1);have B1:=aj (ay (ah HB) b1);clear b1 PO;go_wp2_with fail;refine(ah PO1).mono ?_;rintro e w2 ⟨rfl,u2⟩;have HF:=aj (aF.front (ah B1) u2);clear u2 PO1 B1
 go_wp2_with fail;go_ret;exact⟨rfl,ah HF⟩
theorem Oc (h:Hm w B b c a ca v)(hl:c.pe.length<=100000)(now q n:Int)(ht:dU now=true)(ha:jy 1 n=true)(hn:jk c.pe q=true)(hk:c.t.ack≠1) :
 Calls prog 16 #[.pointer (some ⟨b,0,none⟩),.int .i64 now,.int .i64 q,.agg #[.int .i64 1,.int .i64 n]] w λe w'=>e=.returned (.int .i64 0)/\aF w w' B b a ca v ⟨c.t,c.pl,mP q c.pe,c.cn⟩:=by
 obtain⟨w0,hw0⟩:∃w0,w0=w.alloc (vM 1 n):=⟨_,rfl⟩;have b0:Below w.heap.size w w0:=by rw[hw0];exact(Below.refl _ _).alloc (Nat.le_refl _) _
 have hl0:w.heap.size<w0.heap.size:=by rw[hw0];simp
 have x0:w0.cell? ⟨w.heap.size,0,none⟩=some (.int .i64 1):=by rw[hw0];simp
 have x1:w0.cell? ⟨w.heap.size,1,none⟩=some (.int .i64 n):=by rw[hw0];simp
 have P1:=aj (λW=>bP now 0 1099511627776 W);rw[gZ,ht] at P1;have P2:=aj (λW=>bP 1 1 4 W);rw[kL,Bool.and_eq_true] at ha;rw[ha.1] at P2;have PW:=aj (iC (h.next b0) (by omega) q);have P3:=aj (λW=>bP n 0 0 W);rw[if_neg (by decide)] at ha;rw[ha.2] at P3;obtain⟨xs,p,ys,hpe,hpq,hfs⟩:=sU hn;rw[hfs] at PW;have hxl:xs.length<c.pe.length:=by rw[hpe];simp
 have HB:=aj b0;have PO:Hid (∀w1,Below w0.heap.size w0 w1->Calls prog 62 #[.pointer (some ⟨b,0,none⟩),.int .i64 q] w1 λe w'=>e=.returned (.tuple #[])/\aF w1 w' B b a ca v ⟨c.t,c.pl,mP q c.pe,c.cn⟩):=aj (λw1 b1=>lG ((h.next b0).next b1) hl q);have HA:Hid (∀w1,Below w0.heap.size w0 w1->w1.cell? ⟨b,4,none⟩=some (.int .i64 c.t.ack)):=aj (λw1 b1=>((h.next b0).next b1).tb.c4);have g1:(c.t.ack==1)=false:=by simpa using hk
 clear h b0 ha hn hfs hpe hk;go_enter func16,ntmps16;go_upto_region 1 with fail
 rw[<-hw0];clear hw0;go_wp2_with fail;refine(ah P1 w0).mono ?_;rintro e w1 ⟨rfl,hw⟩;rw[hw];clear hw w1;go_wp2_with fail;refine(ah P2 w0).mono ?_;rintro e w1 ⟨rfl,hw⟩;rw[hw];clear hw w1;go_wp2_with fail;refine(ah P3 w0).mono ?_;rintro e w1 ⟨rfl,hw⟩;rw[hw];clear hw w1;go_wp2_with fail;refine(ah PW).mono ?_;rintro e w1 ⟨rfl,b1⟩;have y0:=(b1.cell (p:=⟨w.heap.size,0,none⟩) hl0).trans x0;have c4:=ah HA w1 b1;have PO1:=aj (ah PO w1 b1);have B1:=aj (ay (ah HB) b1);clear b1 PO HA;go_wp2_with fail;go_loopg [] 0 (λ_ W=>W=w1)
 case atStart=>exact rfl
 case round =>
  subst hrel;go_wp2_with fail;refine(ah PO1).mono ?_;rintro e w2 ⟨rfl,u2⟩;have HF:=aj (aF.front (ah B1) u2);clear u2 PO1 B1;go_wp2_with fail;go_ret;exact⟨rfl,ah HF⟩
theorem Oe (h:Hm w B b c a ca v)(ho:c.Ok)(hl:c.pe.length<=100000)(now q n:Int)(ht:dU now=true)(ha:jy 1 n=true)(hn:jk c.pe q=true)(hk:c.t.ack=1) :
 Calls prog 16 #[.pointer (some ⟨b,0,none⟩),.int .i64 now,.int .i64 q,.agg #[.int .i64 1,.int .i64 n]] w λe w'=>e=.returned (.int .i64 0)/\aF w w' B b a ca v ⟨c.t,c.pl,c.pe.filter (λp=>decide (q<p.q)),c.cn⟩:=by
 obtain⟨w0,hw0⟩:∃w0,w0=w.alloc (vM 1 n):=⟨_,rfl⟩;have b0:Below w.heap.size w w0:=by rw[hw0];exact(Below.refl _ _).alloc (Nat.le_refl _) _
 have hl0:w.heap.size<w0.heap.size:=by rw[hw0];simp
 have x0:w0.cell? ⟨w.heap.size,0,none⟩=some (.int .i64 1):=by rw[hw0];simp
 have x1:w0.cell? ⟨w.heap.size,1,none⟩=some (.int .i64 n):=by rw[hw0];simp
 have P1:=aj (λW=>bP now 0 1099511627776 W);rw[gZ,ht] at P1;have P2:=aj (λW=>bP 1 1 4 W);rw[kL,Bool.and_eq_true] at ha;rw[ha.1] at P2;have PW:=aj (iC (h.next b0) (by omega) q);have P3:=aj (λW=>bP n 0 0 W);rw[if_neg (by decide)] at ha;rw[ha.2] at P3;obtain⟨xs,p,ys,hpe,hpq,hfs⟩:=sU hn;rw[hfs] at PW;have hxl:xs.length<c.pe.length:=by rw[hpe];simp
 have HB:=aj b0;have hrise:=ho.rise;have hq:c.pe[xs.length].q=q:=by
  have:c.pe[xs.length]=p:=by simp[hpe]
  rw[this,hpq]
 have HV:Hid (mP q (c.pe.drop xs.length)=c.pe.filter (λp=>decide (q<p.q))):=aj (by
  have:=F6 hrise hxl;rw[hq] at this;rw[this,hpe,<-hpq,J8 (by rw[<-hpe];exact hrise)];simp)
 have HNe:Hid (∀k (hk:k<xs.length),(c.pe[k]'(by omega)).q≠q):=aj (λk hk e=>by
  have this:(c.pe[k]'(by omega)).q<c.pe[xs.length].q:=List.pairwise_iff_getElem.1 hrise k xs.length (by omega) hxl hk;rw[hq,e] at this;exact absurd this (Int.lt_irrefl _))
 have U0:Hid (∀w1,Below w0.heap.size w0 w1->aF w w1 B b a ca v ⟨c.t,c.pl,c.pe.drop 0,c.cn⟩):=aj (λw1 b1=>by rw[List.drop_zero];exact aF.same h (ay b0 b1));have HR:=aj hrise;have HQ:=aj hq;rw[<-ah HV];clear h b0 ha hn hfs hpe ho hrise hq;go_enter func16,ntmps16;go_upto_region 1 with fail
 rw[<-hw0];clear hw0;go_wp2_with fail;refine(ah P1 w0).mono ?_;rintro e w1 ⟨rfl,hw⟩;rw[hw];clear hw w1;go_wp2_with fail;refine(ah P2 w0).mono ?_;rintro e w1 ⟨rfl,hw⟩;rw[hw];clear hw w1;go_wp2_with fail;refine(ah P3 w0).mono ?_;rintro e w1 ⟨rfl,hw⟩;rw[hw];clear hw w1;go_wp2_with fail;refine(ah PW).mono ?_;rintro e w1 ⟨rfl,b1⟩;have y0:=(b1.cell (p:=⟨w.heap.size,0,none⟩) hl0).trans x0;have U1:=aj (ah U0 w1 b1);clear b1 U0;go_wp2_with fail;go_loopg [] xs.length (λm W=>∃k:Nat,Hid (m+k=xs.length)/\Hid (aF w W B b a ca v ⟨c.t,c.pl,c.pe.drop k,c.cn⟩))
 case atStart=>exact⟨0,aj (Nat.add_zero _),U1⟩
 case round =>
  clear U1;obtain⟨k,HK,HU⟩:=hrel;have hkx:k<=xs.length:=by have:=ah HK;omega
  obtain⟨v',h1,ch,hg⟩:=ah HU;have hdl:(c.pe.drop k).length=c.pe.length-k:=List.length_drop;obtain⟨g,cap,hvv,hgc,hcm,hgB,hgl⟩:=aO.there h1.row (by rw[List.length_map];show 0<(c.pe.drop k).length;omega);rw[List.length_map] at hvv hgc;have hgc:(c.pe.drop k).length<=cap:=hgc;have hvv:v'=.slice (some ⟨g,0,none⟩) (c.pe.drop k).length cap:=hvv;subst hvv;have c12:=h1.pe;have c4:=h1.tb.c4;have hbl:=h1.tb.lt;have hkl:k<c.pe.length:=by omega
  have x0':wr.cell? ⟨g,0,none⟩=some (.int .i64 c.pe[k].q):=by
   have:=(aO.at h1.row (k:=0) (by rw[List.length_map];show 0<(c.pe.drop k).length;omega)).c0;rw[CQ (show 0<(c.pe.drop k).length by omega),Nat.zero_mul] at this;have e:(c.pe.drop k)[0]'(by omega)=c.pe[k]:=by simp
   rw[show((⟨c.t,c.pl,c.pe.drop k,c.cn⟩:aV).pe[0]'(by show 0<(c.pe.drop k).length;omega))=c.pe[k] from e] at this;exact this
  have PO:=aj (lG h1 (by show(c.pe.drop k).length<=100000;omega) c.pe[k].q);have PQ:=aj (lG h1 (by show(c.pe.drop k).length<=100000;omega) q);rw[show(⟨c.t,c.pl,c.pe.drop k,c.cn⟩:aV).pe=c.pe.drop k from rfl] at PO;rw[F6 (ah HR) hkl] at PO;have HC:=aj (And.intro ch hg);rw[show(⟨c.t,c.pl,c.pe.drop k,c.cn⟩:aV).t.ack=c.t.ack from rfl,hk] at c4;obtain⟨L,hL⟩:∃L,(c.pe.drop k).length=L:=⟨_,rfl⟩;have hL0:0<L:=by omega
  rw[hL] at hgc PO PQ HC;rw[show(⟨c.t,c.pl,c.pe.drop k,c.cn⟩:aV).pe=c.pe.drop k from rfl] at PQ;have c12:wr.cell? ⟨b,12,none⟩=some (.slice (some ⟨g,0,none⟩) L cap):=by rw[<-hL];exact c12
  have aax:=c12;by_cases hkq:k=xs.length
  ·subst hkq;have ge:(c.pe[xs.length].q !=q)=false:=by rw[ah HQ];simp
   obtain⟨Q,hQ⟩:∃Q,c.pe[xs.length].q=Q:=⟨_,rfl⟩;rw[hQ] at x0' ge;clear h1 ch hg HU hdl hcm hgB hQ PO hL HK aax;go_wp2_with fail;refine(ah PQ).mono ?_;rintro e w2 ⟨rfl,u2⟩;have HF:=aj (aF.trans (ah HC).1 (ah HC).2 u2);clear u2 PQ HC;go_wp2_with fail;go_ret;exact⟨rfl,ah HF⟩
  ·have ge:(c.pe[k].q !=q)=true:=by simpa using ah HNe k (by omega)
   have VG:Hid (xs.length-(k+1)+(k+1)=xs.length):=aj (by omega);obtain⟨Q,hQ⟩:∃Q,c.pe[k].q=Q:=⟨_,rfl⟩;rw[hQ] at x0' ge PO;clear h1 ch hg HU hdl hcm hgB hQ PQ hL aax;go_wp2_with fail;refine(ah PO).mono ?_;rintro e w2 ⟨rfl,u2⟩;have HF:=aj (aF.trans (ah HC).1 (ah HC).2 u2);clear u2 PO HC;go_wp2_with fail;go_roundg (xs.length-(k+1))
   case measure=>have:=ah HK;omega
   case rel=>exact⟨k+1,VG,HF⟩
theorem F7 (h:Hm w B b c a ca v)(ho:c.Ok)(hw:dP c.t)(oK:c.t.bo.length<=140737488355328)(hnb:∀p∈c.pe,p.n<=100)(hl:c.pe.length<=100000)(now q so n:Int) :
 Calls prog 16 #[.pointer (some ⟨b,0,none⟩),.int .i64 now,.int .i64 q,.agg #[.int .i64 so,.int .i64 n]] w λe w'=>e=.returned (.int .i64 (fO c now q so n).2)/\aF w w' B b a ca v (fO c now q so n).1:=by
 unfold fO;by_cases hb:dU now=false\/jy so n=false
 ·rw[if_pos hb];exact RS h now q so n hb
 ·rw[if_neg hb];rw[not_or,Bool.not_eq_false,Bool.not_eq_false] at hb;obtain⟨ht,ha⟩:=hb
  cases hn:jk c.pe q with
  | false =>
   rw[if_pos rfl];exact N9 h hl now q so n ht ha hn
  | true =>
   rw[if_neg (by simp)];by_cases h1:so=1
   ·subst h1;rw[if_pos rfl];by_cases hk:c.t.ack=1
    ·simp only[hk,if_true];exact Oe h ho hl now q n ht ha hn hk
    ·simp only[hk,if_false];exact Oc h hl now q n ht ha hn hk
   ·rw[if_neg h1];by_cases h2:so=2
    ·subst h2;rw[if_pos rfl];exact RU h ho hl now q n ht ha hn
    ·rw[if_neg h2];by_cases h3:so=3
     ·subst h3;rw[if_pos rfl];exact Oa h ho hw oK hnb hl now q n ht ha hn
     ·rw[if_neg h3];obtain rfl:so=4:=by
       have:=kL so n;rw[ha] at this;have:=(Bool.and_eq_true _ _).mp this.symm;have:=this.1;unfold N7 at this;rw[Bool.and_eq_true,decide_eq_true_eq,decide_eq_true_eq] at this;omega
      exact Ob h hl now q n ht ha hn
end
def Lk (t:Tk.bY)(l:List Rc)(now:Int)(pe:List Dv)(x ps:List Dv):Prop:=gq t l now pe=(x++(gq t l now ps).1,(gq t l now ps).2)/\(x++ps).Sublist pe
section
variable {t:Tk.bY}{l:List Rc}{now:Int}{pe x ps:List Dv}{p:Dv}
theorem Lk.start:Lk t l now pe [] pe:=⟨rfl,List.Sublist.refl _⟩
theorem Lk.skip (h:Lk t l now pe x (p::ps))(hd:now<p.d):Lk t l now pe (x++[p]) ps:=by
 refine⟨?_,by rw[List.append_assoc];exact h.2⟩;rw[h.1,gq,if_pos hd,List.append_assoc];rfl
theorem Lk.away (h:Lk t l now pe x (p::ps))(hd:¬now<p.d)(hm:jE t l now p=false):Lk t l now pe x ps :=
 ⟨by rw[h.1,BR hm hd],(List.Sublist.append_left (List.sublist_cons_self _ _) _).trans h.2⟩
theorem Lk.hit (h:Lk t l now pe x (p::ps))(hm:jE t l now p=true):∃m,jw l p.q=some m/\gq t l now pe=(x++⟨p.q,p.n+1,now+Tk.bU t (p.n+1)⟩::ps,some (m,p.n+1)):=by
 obtain⟨m,e1,e2⟩:=JY hm;exact⟨m,e1,by rw[h.1,e2]⟩
theorem Lk.done (h:Lk t l now pe x []):gq t l now pe=(x,none):=by
 rw[h.1];simp[gq]
theorem Lk.out (h:Lk t l now pe x (p::ps))(hr:pe.Pairwise λa b=>a.q<b.q):mP p.q (x++p::ps)=x++ps:=vU (hr.sublist h.2)
theorem Jd (p:Dv)(hd:¬now<p.d):jE t l now p=((jw l p.q).isSome&&(decide (t.mo=0)||decide (p.n<t.mo))):=by
 unfold jE jQ;rw[decide_eq_true (show p.d<=now by omega),Bool.true_and];congr 1
 rw[Bool.eq_iff_iff];simp only[Bool.not_eq_true',Bool.and_eq_false_iff,decide_eq_false_iff_not,Bool.or_eq_true,decide_eq_true_eq];omega
end
section
variable {w:World}{B b:Nat}{c:aV}{a:Option Addr}{ca:Nat}{v:Value}
theorem Og (h:Hm w B b c a ca v)(q:Nat)(now:Int)(ht:dU now=false) :
 Calls prog 14 #[.pointer (some ⟨b,0,none⟩),.pointer (some ⟨q,0,none⟩),.int .i64 now] w λe w'=>e=.returned (.tuple #[Bv bI,.int .i64 1])/\aF w w' B b a ca v c:=by
 have b0:Below w.heap.size w (w.alloc Ip):=(Below.refl _ _).alloc (Nat.le_refl _) _;have cb0:=CB.new w (jh bI) 47;obtain⟨W0,hW0⟩:∃W0,W0=w.alloc Ip:=⟨_,rfl⟩;rw[show w.alloc (.cells (jh bI).toArray 47)=W0 from hW0.symm] at cb0;rw[<-hW0] at b0;have z0:=cb0.cell 0 _ rfl;have z1:=cb0.cell 1 _ rfl;have z2:=cb0.cell 2 _ rfl;have z3:=cb0.cell 3 _ rfl;have z4:=cb0.cell 4 _ rfl;have z5:=cb0.cell 5 _ rfl;have g0:=cb0.fr 0;have g1:=cb0.fr 1;have g2:=cb0.fr 2;have g3:=cb0.fr 3;have g4:=cb0.fr 4;have g5:=cb0.fr 5;have P1:=aj (λW=>bP now 0 1099511627776 W);rw[gZ,ht] at P1;have HX:=aj ((aF.out rfl h b0 (Nat.le_refl _) cb0 (aF.same (h.next b0) (Below.refl _ _))).2 (jh bI) rfl)
 clear h cb0 b0 ht;go_enter func14,ntmps14;go_upto_region 1 with fail
 rw[<-hW0];clear hW0;go_wp2_with fail;refine(ah P1 W0).mono ?_;rintro e w1 ⟨rfl,hw⟩;rw[hw];clear hw w1;go_wp2_with fail;exact bodyPost_ret (bJ (x:=bI) rfl rfl (ah HX).2) rfl ⟨rfl,(ah HX).1⟩
end
abbrev Xf (b bp:Nat)(t:Tk.bY)(a:Option Addr)(ca g N cap:Nat)(n:Int)(W:World):Prop:=Tq b t a ca W/\W.cell? ⟨b,12,none⟩=some (.slice (some ⟨g,0,none⟩) N cap)/\W.cell? ⟨bp,1,none⟩=some (.int .i64 n)
theorem Xf.set {b bp:Nat}{t:Tk.bY}{a:Option Addr}{ca g N cap:Nat}{n:Int}{W:World}(h:Xf b bp t a ca g N cap n W)(h1:g≠b)(h2:g≠bp){o:Nat}(u:Value):Xf b bp t a ca g N cap n (W.setCell ⟨g,o,none⟩ u):=by
 have e:∀j,(W.setCell ⟨g,o,none⟩ u).cell? ⟨b,j,none⟩=W.cell? ⟨b,j,none⟩:=λj=>World.cell?_setCell_other _ _ _ _ (by intro e;injection e;omega)
 obtain⟨⟨k0,k1,k2,k3,k4,k5,k6,k7,k8,k9⟩,hp,hn⟩:=h;exact⟨⟨(e 0).trans k0,(e 1).trans k1,(e 2).trans k2,(e 3).trans k3,(e 4).trans k4,(e 5).trans k5,(e 6).trans k6,(e 7).trans k7,(e 8).trans k8,(e 9).trans k9⟩,(e 12).trans hp,(World.cell?_setCell_other _ _ _ _ (by intro e;injection e;omega)).trans hn⟩
section
variable {w:World}{B b:Nat}{c:aV}{a:Option Addr}{ca:Nat}{v:Value}
variable {B' q:Nat}{F:Nat->Prop}{s:bD}
theorem aF.store {W0 wr:World}{c':aV}(hu:aF W0 wr B b a ca v c')(hs:jm W0 B' q F s)(hF:∀k,F k->¬gu b v k):∃v',Hm wr B b c' a ca v'/\aB (gu b v) W0 wr/\(∀g,v'.ownBlock=some g->v.ownBlock=some g\/W0.heap.size<=g)/\jm wr B' q F s/\∀k,F k->¬gu b v' k:=by
 obtain⟨v',h1,ch,hg⟩:=hu;refine⟨v',h1,ch,hg,hs.aW ch hF,λk hk z=>?_⟩;rcases z with z|z
 ·exact hF k hk (.inl z)
 ·rcases hg k z with y|y
  ·exact hF k hk (.inr y)
  ·have:=(hs.own k hk).2;omega
theorem F8 (h:Hm w B b c a ca v)(ho:c.Ok)(hs:jm w B' q F s)(hk:s.Ok)(hF:∀k,F k->¬gu b v k)(hw:dP c.t)(oK:c.t.bo.length<=140737488355328)(hf:aA true c.t.f=0)(hz:c.t.f.size<=140737488355328)(hcn:0<=c.cn/\c.cn<=1000000000000)(hl:c.pe.length<=99000)(hnb:∀p∈c.pe,0<=p.n/\p.n<=98)(now:Int)(ht:dU now=true)(hag:(gq c.t s.l now c.pe).2≠none) :
 Calls prog 14 #[.pointer (some ⟨b,0,none⟩),.pointer (some ⟨q,0,none⟩),.int .i64 now] w λe w'=>e=.returned (.tuple #[Bv (lC (aQ c s.l now).1 s.l (aQ c s.l now).2.1),.int .i64 (aQ c s.l now).2.2])/\aF w w' B b a ca v (aQ c s.l now).1:=by
 obtain⟨W0,hW0⟩:∃W0,W0=w.alloc Ip:=⟨_,rfl⟩;have b0:Below w.heap.size w W0:=by rw[hW0];exact(Below.refl _ _).alloc (Nat.le_refl _) _
 have cb0:CB W0 w.heap.size (jh bI):=by rw[hW0];exact CB.new w (jh bI) 47
 have h0:=h.next b0;have hs0:=hs.below b0;have htt:=jc.1 ht;have P1:=aj (λW=>bP now 0 1099511627776 W);rw[gZ,ht] at P1;-- the answer is stored in the block that was made first
 have ql:Hid (∀w2 c2,c2.t=c.t->aF W0 w2 B b a ca v c2->CB w2 w.heap.size (jh bI)/\∀us:List Value,us.length=6->aF w (w2.setCells w.heap.size 0 us) B b a ca v c2/\CB (w2.setCells w.heap.size 0 us) w.heap.size us):=aj (λw2 c2 e hu=>aF.out e h b0 (Nat.le_refl _) cb0 hu);have sN:Hid (∀wr c',aF W0 wr B b a ca v c'->∃v',Hm wr B b c' a ca v'/\aB (gu b v) W0 wr/\(∀g,v'.ownBlock=some g->v.ownBlock=some g\/W0.heap.size<=g)/\jm wr B' q F s/\∀k,F k->¬gu b v' k):=aj (λwr c' hu=>hu.store hs0 hF);have U0:Hid (aF W0 W0 B b a ca v ⟨c.t,c.pl,c.pe,c.cn⟩):=aj (aF.same h0 (Below.refl _ _));have L0:Hid (Lk c.t s.l now c.pe [] c.pe):=aj Lk.start
 have HK:=aj hk;have HO:=aj ho;have HNb:=aj hnb;clear h hs hF hk h0 hs0 cb0 ho hnb;go_enter func14,ntmps14;go_upto_region 1 with fail
 rw[<-hW0];clear hW0;go_wp2_with fail;refine(ah P1 W0).mono ?_;rintro e w1 ⟨rfl,hw1⟩;rw[hw1];clear hw1 w1 P1;go_wp2_with fail;go_loopg [8] c.pe.length (λk iv W=>∃x ps:List Dv,iv=.int .i64 (x.length:Int)/\Hid (aF W0 W B b a ca v ⟨c.t,c.pl,x++ps,c.cn⟩)/\Hid (Lk c.t s.l now c.pe x ps)/\Hid (k=ps.length))
 case atStart=>exact⟨[],c.pe,rfl,U0,L0,aj rfl⟩
 case round =>
  clear U0 L0;obtain⟨x,ps,rfl,HU,Dp,HN⟩:=hrel;have hlen:x.length+ps.length<=c.pe.length:=by have:=(ah Dp).2.length_le;rw[List.length_append] at this;exact this
  obtain⟨v1,h1,ch,hg,hs1,hF1⟩:=ah sN _ _ (ah HU)
  cases ps with
  | nil=>exact absurd (by rw[(ah Dp).done]) hag
  | cons p r =>
   have e0:(⟨c.t,c.pl,x++p::r,c.cn⟩:aV).pe.length=x.length+(r.length+1):=by show(x++p::r).length=_;rw[List.length_append,List.length_cons]
   obtain⟨g,cap,hvv,hgc,hcm,hgB,hgl⟩:=aO.there h1.row (by rw[List.length_map,e0];omega);rw[List.length_map] at hvv hgc;subst hvv;have tc:=aO.at h1.row (k:=x.length) (by rw[List.length_map,e0];omega);have VD:tr ((⟨c.t,c.pl,x++p::r,c.cn⟩:aV).pe.map jC) x.length=jC p:=by
    show tr ((x++p::r).map jC) x.length=_;rw[List.map_append,tK (by simp),List.getElem_append_right (by simp)];simp
   rw[VD] at tc;have k0:=tc.c0;have k1:=tc.c1;have k2:=tc.c2;rw[show(jC p).a=.int .i64 p.q from rfl] at k0;rw[show(jC p).b=.int .i64 p.n from rfl] at k1;rw[show(jC p).c=.int .i64 p.d from rfl] at k2;have c12:=h1.pe;have hbl:=h1.tb.lt;rw[e0] at c12 hgc;have hL:(p::r).length=r.length+1:=rfl;rw[hL] at hlen;unfold maxLen at hcm;have ba:Below wr.heap.size wr (wr.alloc (Kt p)):=(Below.refl _ _).alloc (Nat.le_refl _) _;have Zn:Hid (r.length<gk):=aj (by have:=ah HN;rw[hL] at this;omega);have hxn:x.length<=99000:=by omega
   have hrn:r.length<=99000:=by omega
   by_cases hd:now<p.d
   ·have g1:decide (now<p.d)=true:=decide_eq_true hd;have g2:decide (p.d > now)=true:=g1;have Y5:Hid (aF W0 (wr.alloc (Kt p)) B b a ca v ⟨c.t,c.pl,(x++[p])++r,c.cn⟩):=aj (by rw[List.append_assoc];exact(ah HU).next ba);have HL2:=aj ((ah Dp).skip hd);clear h1 ch hg hs1 hF1 tc ba hd HN hL e0 VD;go_wp2_with fail;go_roundg r.length
    case measure=>exact ah Zn
    case rel=>exact⟨x++[p],r,by simp,Y5,HL2,aj rfl⟩
   ·have g1:decide (now<p.d)=false:=decide_eq_false hd;have g2:decide (p.d > now)=false:=g1;obtain⟨wa,Nu⟩:∃wa,wa=wr.alloc (Kt p):=⟨_,rfl⟩;rw[<-Nu] at ba;have Yz:CB wa wr.heap.size [.int .i64 p.q,.int .i64 p.n,.int .i64 p.d]:=by rw[Nu];exact CB.new wr _ _
    have PG:=aj (FC p.q (hs1.below ba) (ah HK));rw[kK] at PG;have y0:=Yz.cell 0 _ rfl;have CP:=aj Yz;have H1:=aj h1;have HX:=aj (And.intro ch hg);have BA:=aj ba;have Aw:=aj (And.intro hs1 hF1);obtain⟨O,hO⟩:∃O,jw s.l p.q=O:=⟨_,rfl⟩;have Xg:=aj hO;rw[hO] at PG;have hD:=aj (show p.d<=now by omega);clear h1 ch hg hs1 hF1 tc ba hd HN hL e0 VD Yz hO;go_upto_region 7 with fail
    rw[show wr.alloc (.cells #[.int .i64 p.q,.int .i64 p.n,.int .i64 p.d] 115)=wa from Nu.symm];clear Nu;have y2:=(ah CP).cell 2 _ rfl;go_wp2_with fail;refine(ah PG).mono ?_;rintro e w2 ⟨rfl,b2⟩;clear PG y0 y2 g1 g2 k0 k1 k2 c12;obtain⟨w3,hw3⟩:∃w3,w3=w2.alloc (Aa (oR O)):=⟨_,rfl⟩;have bb:Below wr.heap.size wr w3:=by rw[hw3];exact ay (ah BA) ((b2.mono (Nat.le_refl _)).alloc b2.size _)
    have hne0:wr.heap.size<w3.heap.size:=by have:=(ah CP).lt;have:=b2.size;rw[hw3];simp;omega
    have c3:CB w3 wr.heap.size [.int .i64 p.q,.int .i64 p.n,.int .i64 p.d]:=by rw[hw3];exact(ah CP).next (b2.alloc b2.size _)
    have cr:CB w3 w2.heap.size (nH (oR O)):=by rw[hw3];exact CB.new w2 (nH (oR O)) 33
    have hw2:wr.heap.size<w2.heap.size:=by have:=(ah CP).lt;have:=b2.size;omega
    have hbr:wr.heap.size≠w2.heap.size:=by omega
    have C3:=aj (And.intro c3 cr);have BB:=aj bb;have H3:=(ah H1).next bb;have d7:=H3.tb.c7;have abm:=H3.tb.lt;have y0:=c3.cell 0 _ rfl;have y1:=c3.cell 1 _ rfl;obtain⟨E,hE⟩:∃E,oE O=E:=⟨_,rfl⟩;have HE:=aj hE;rw[hE];clear b2 bb c3 cr CP BA hE;go_upto_region 9 with fail
    rw[<-hw3];clear hw3
    cases hm:jE c.t s.l now p with
    | false =>
     have hev:(E==0)=false\/((E==0)=true/\(c.t.mo==0)=false/\decide (p.n<c.t.mo)=false):=by
      rw[Jd p (by have:=ah hD;omega),ah Xg] at hm
      cases O with
      | none=>left;rw[<-ah HE];rfl
      | some m =>
       right;rw[Option.isSome_some,Bool.true_and,Bool.or_eq_false_iff,decide_eq_false_iff_not] at hm;exact⟨by rw[<-ah HE];rfl,by simpa using hm.1,hm.2⟩
     have PO:Hid (∀n,Calls prog 62 #[.pointer (some ⟨b,0,none⟩),.int .i64 p.q] (w3.drewN n) λe w'=>e=.returned (.tuple #[])/\aF W0 w' B b a ca v ⟨c.t,c.pl,x++r,c.cn⟩):=aj (λn=>by
      refine(lG (H3.next (below_drewN (Below.refl _ _) n)) (by show(x++p::r).length<=100000;rw[List.length_append,List.length_cons];omega) p.q).mono ?_;rintro e w' ⟨rfl,hu⟩;refine⟨rfl,aF.trans (ah HX).1 (ah HX).2 (aF.front (below_drewN (ah BB) n) ?_)⟩;rw[show(⟨c.t,c.pl,x++p::r,c.cn⟩:aV).pe=x++p::r from rfl,(ah Dp).out (ah HO).rise] at hu;exact hu)
     have HL2:=aj ((ah Dp).away (by have:=ah hD;omega) hm);clear H3 hm H1 HX Aw Xg HE C3 BB HU Dp;rcases hev with g3|⟨g3,g4,g5⟩;all_goals
      go_wp2_with fail
      go_quiet (fail)
      go_wp2_with fail
      refine(ah PO _).mono ?_
      rintro e w4 ⟨rfl,u4⟩
      have HU4:=aj u4
      clear u4 PO
      go_wp2_with fail
      go_roundg r.length
      case measure=>exact ah Zn
      case rel=>exact⟨x,r,rfl,HU4,HL2,aj rfl⟩
    | true =>
     obtain⟨m,e1,e2⟩:=(ah Dp).hit hm;obtain rfl:O=some m:=by rw[<-ah Xg];exact e1
     have hev:(c.t.mo==0)=true\/((c.t.mo==0)=false/\decide (p.n<c.t.mo)=true):=by
      rw[Jd p (by have:=ah hD;omega),ah Xg,Option.isSome_some,Bool.true_and,Bool.or_eq_true,decide_eq_true_eq] at hm;by_cases z:c.t.mo=0
      ·exact .inl (by rw[z];rfl)
      ·exact .inr ⟨by simpa using z,hm.resolve_left z⟩
     have hE0:E=0:=by rw[<-ah HE];rfl
     subst hE0;have F9:Hid (aQ c s.l now=(⟨c.t,c.pl,x++⟨p.q,p.n+1,now+Tk.bU c.t (p.n+1)⟩::r,c.cn+1⟩,some (m,p.n+1),0)):=aj (by rw[xK ht (by rw[e2]),e2]);have hpn:=ah HNb p ((ah Dp).2.subset (by simp));clear hm e1 e2 Xg HE Zn hD;have hgw:g≠wr.heap.size:=by omega
     have hgr:g≠w2.heap.size:=by omega
     rcases hev with g4|⟨g4,g5⟩;all_goals
      go_wp2_with fail
      go_quiet (fail)
      go_wp2_with fail
      obtain⟨w4,hw4⟩:∃w4,w4=w3.drewN nq:=⟨_,rfl⟩
      have b4:Below w3.heap.size w3 w4:=by rw[hw4];exact below_drewN (Below.refl _ _) nq
      rw[<-hw4]
      clear hw4 d7 y0 y1
      have H4:=H3.next b4
      have c12:=H4.pe
      rw[show(⟨c.t,c.pl,x++p::r,c.cn⟩:aV).pe.length=x.length+(r.length+1) by show(x++p::r).length=_;rw[List.length_append,List.length_cons]] at c12
      have hb4:=H4.tb.lt
      have C4:Hid (CB w4 wr.heap.size [.int .i64 p.q,.int .i64 p.n,.int .i64 p.d]/\CB w4 w2.heap.size (nH m)):=aj ⟨(ah C3).1.next b4,(ah C3).2.next b4⟩
      have y1:=(ah C4).1.cell 1 _ rfl
      have hfr:=(aO.free H4.row).1 (x.length*3+1)
      obtain⟨u,hu⟩:=Option.isSome_iff_exists.1 ((aO.free H4.row).2 (x.length*3+1) (by omega))
      have BB4:=aj (ay (ah BB) b4)
      have H5:Hid (Hm (w4.setCell ⟨g,x.length*3+1,none⟩ (.int .i64 (p.n+1))).drew B b ⟨c.t,c.pl,x++⟨p.q,p.n+1,p.d⟩::r,c.cn⟩ a ca (.slice (some ⟨g,0,none⟩) (x.length+(r.length+1)) cap)):=aj (by
       have z:=(Hm.Yx (j:=1) (p':=⟨p.q,p.n+1,p.d⟩) (d:=p.n+1) rfl H4 (.inl ⟨rfl,rfl⟩)).next (Below.refl _ _).drew;rw[show(⟨c.t,c.pl,x++p::r,c.cn⟩:aV).pe.length=x.length+(r.length+1) by show(x++p::r).length=_;rw[List.length_append,List.length_cons]] at z;exact z)
      have HU5:Hid (aF W0 (w4.setCell ⟨g,x.length*3+1,none⟩ (.int .i64 (p.n+1))).drew B b a ca v ⟨c.t,c.pl,x++⟨p.q,p.n+1,p.d⟩::r,c.cn⟩):=aj ((aF.trans (ah HX).1 (ah HX).2 (aF.front (ah BB4) (Hm.one (j:=1) (p':=⟨p.q,p.n+1,p.d⟩) (d:=p.n+1) rfl H4 (.inl ⟨rfl,rfl⟩)))).next (Below.refl _ _).drew)
      have HG:Hid ((v.ownBlock=some g\/W0.heap.size<=g)/\∀k,F k->¬gu b (.slice (some ⟨g,0,none⟩) (x.length+(r.length+1)) cap) k):=aj ⟨(ah HX).2 g rfl,λk hk z=>(ah Aw).2 k hk z⟩
      clear H3 C3 BB b4 HU Dp H1 HX Aw H4
      go_region
      rw[show oR (some m)=m from rfl]
      obtain⟨w5,hw5⟩:∃w5,w5=(w4.setCell ⟨g,x.length*3+1,none⟩ (.int .i64 (p.n+1))).drew:=⟨_,rfl⟩
      rw[<-hw5] at HU5 H5
      rw[<-hw5]
      have cg5:aB (λk=>k=g) w4 w5:=by rw[hw5];exact(aB.setCell (A:=λk=>k=g) (p:=⟨g,x.length*3+1,none⟩) (aB.refl _ _) (.inl rfl) _).trans (aB.of_below (Below.refl _ _).drew)
      have C5:Hid (CB w5 wr.heap.size [.int .i64 p.q,.int .i64 p.n,.int .i64 p.d]/\CB w5 w2.heap.size (nH m)):=aj ⟨(ah C4).1.aW cg5 (λz=>hgw z.symm),(ah C4).2.aW cg5 (λz=>hgr z.symm)⟩
      have hsz5:w2.heap.size<w5.heap.size:=(ah C5).2.lt
      clear hw5 cg5 C4 hfr hu y1 c12 BB4
      -- the time is set
      obtain⟨_,_,ch5,_,hs5,_⟩:=ah sN _ _ (ah HU5)
      have h5:=ah H5
      have e5:(⟨c.t,c.pl,x++⟨p.q,p.n+1,p.d⟩::r,c.cn⟩:aV).pe.length=x.length+(r.length+1):=by show(x++⟨p.q,p.n+1,p.d⟩::r).length=_;rw[List.length_append,List.length_cons]
      have hgb:g≠b:=λe=>h5.ne1 (by rw[e];rfl)
      have hg5:g<w5.heap.size:=(h5.row.lt g rfl).2
      have abn:wr.heap.size<w5.heap.size:=by omega
      have d12:=h5.pe
      have y1:=(ah C5).1.cell 1 _ rfl
      have hfr:=(aO.free h5.row).1 (x.length*3+2)
      obtain⟨u,hu⟩:=Option.isSome_iff_exists.1 ((aO.free h5.row).2 (x.length*3+2) (by omega))
      have hwt:=mF hw.w hw.b (p.n+1)
      obtain⟨V,hV⟩:∃V,Tk.bU c.t (p.n+1)=V:=⟨_,rfl⟩
      have hwn:IntKind.i64.wrap (p.n+1)=p.n+1:=by rw[IntKind.wrap_i64];omega
      have PT:Hid (Calls prog 60 #[pF c.t a ca,.int .i64 (p.n+1)] w5.drew λe w'=>e=.returned (.int .i64 V)/\Below w5.drew.heap.size w5.drew w'):=aj (by rw[<-hV];exact tX c.t a ca (p.n+1) w5.drew h5.bo oK (by omega))
      rw[hV] at F9 hwt
      have k5:=sO h5.tb
      have K5:Xf b wr.heap.size c.t a ca g (x.length+(r.length+1)) cap p.n w5.drew:=⟨k5,d12,y1⟩
      have HK6:Hid (∀W u,Xf b wr.heap.size c.t a ca g (x.length+(r.length+1)) cap p.n W->Xf b wr.heap.size c.t a ca g (x.length+(r.length+1)) cap p.n (W.setCell ⟨g,x.length*3+2,none⟩ u)):=aj (λW u k=>k.set hgb hgw u)
      have HT:Hid (∀w6,Below w5.drew.heap.size w5.drew w6->Xf b wr.heap.size c.t a ca g (x.length+(r.length+1)) cap p.n w6/\w6.cell? ⟨g,x.length*3+2,none⟩=some u/\w6.frozen? ⟨g,x.length*3+2,none⟩=false/\Hid (∃d,d=w6.setCell ⟨g,x.length*3+2,none⟩ (.int .i64 (now+V))/\aF W0 d B b a ca v ⟨c.t,c.pl,x++⟨p.q,p.n+1,now+V⟩::r,c.cn⟩/\Hm d B b ⟨c.t,c.pl,x++⟨p.q,p.n+1,now+V⟩::r,c.cn⟩ a ca (.slice (some ⟨g,0,none⟩) (x.length+(r.length+1)) cap)/\CB d wr.heap.size [.int .i64 p.q,.int .i64 p.n,.int .i64 p.d]/\CB d w2.heap.size (nH m)/\jm d B' q F s)):=aj (λw6 b6=>by
       have Xh:Below w5.heap.size w5 w6:=((Below.refl w5.heap.size w5).drew).trans b6;have h6:=h5.next Xh;have cg:aB (λk=>k=g) w6 (w6.setCell ⟨g,x.length*3+2,none⟩ (.int .i64 (now+V))):=aB.setCell (A:=λk=>k=g) (p:=⟨g,x.length*3+2,none⟩) (aB.refl _ _) (.inl rfl) _;have o6:=Hm.Yx (x:=x) (y:=r) (p:=⟨p.q,p.n+1,p.d⟩) (j:=2) (p':=⟨p.q,p.n+1,now+V⟩) (d:=now+V) rfl (by rw[e5];exact h6) (.inr ⟨rfl,rfl⟩);rw[e5] at o6;have u6:aF W0 (w6.setCell ⟨g,x.length*3+2,none⟩ (.int .i64 (now+V))) B b a ca v ⟨c.t,c.pl,x++⟨p.q,p.n+1,now+V⟩::r,c.cn⟩:=by
        refine aF.trans (v1:=.slice (some ⟨g,0,none⟩) (x.length+(r.length+1)) cap) ch5 (λg' hg'=>?_) (aF.front Xh ⟨_,o6,cg.mono (λk _ z=>.inr (by rw[z];rfl)),λ_ z=>.inl z⟩);simp only[Value.ownBlock,Option.some.injEq] at hg';rw[<-hg'];exact(ah HG).1
       exact⟨⟨sO h6.tb,h6.pe,(Xh.cell (p:=⟨wr.heap.size,1,none⟩) abn).trans y1⟩,(Xh.cell (p:=⟨g,x.length*3+2,none⟩) hg5).trans hu,(Xh.frozen (p:=⟨g,x.length*3+2,none⟩) hg5).trans hfr,aj ⟨_,rfl,u6,o6,((ah C5).1.next Xh).aW cg (λz=>hgw z.symm),((ah C5).2.next Xh).aW cg (λz=>hgr z.symm),(hs5.below Xh).aW cg (λk hk z=>(ah HG).2 k hk (.inr (by rw[z];rfl)))⟩⟩)
      clear h5 H5 HU5 ch5 hs5 C5 hfr hu k5 hw oK hV e5 y1 d12
      go_wp2_with fail
      go_region_held_law (Xf b wr.heap.size c.t a ca g (x.length+(r.length+1)) cap p.n) (first|with_reducible assumption|(with_reducible refine ah HK6 _ _ ?_;with_reducible assumption))
       (first|(go_at_call 60;with_reducible refine(ah PT).mono ?_;rintro e w6 ⟨rfl,b6⟩;obtain⟨k6,u6,f6,R6⟩:=ah HT w6 b6))
      all_goals
       have hwv:IntKind.i64.wrap (now+V)=now+V:=by rw[IntKind.wrap_i64];omega
       rw[hwv]
       obtain⟨d,hd7,hu7,h7,cp7,YA,hs7⟩:=ah R6
       rw[<-hd7]
       clear hd7 hwv R6 k6 u6 f6 b6 HT HK6 K5
       have y1:=cp7.cell 1 _ rfl
       have r0:=YA.cell 0 _ rfl
       have r1:=YA.cell 1 _ rfl
       have r2:=YA.cell 2 _ rfl
       have r3:=YA.cell 3 _ rfl
       have r4:=YA.cell 4 _ rfl
       have r5:=YA.cell 5 _ rfl
       have Xi:=aj (uJ h7 hs7 (ah HK) (ah HG).2 hf hz hcn m (p.n+1))
       obtain⟨_,_,KG,_⟩:=hu7
       have HC7:=aj KG
       have HR:Hid (∀w8,aF d w8 B b a ca (.slice (some ⟨g,0,none⟩) (x.length+(r.length+1)) cap) ⟨c.t,c.pl,x++⟨p.q,p.n+1,now+V⟩::r,c.cn+1⟩->aF W0 w8 B b a ca v ⟨c.t,c.pl,x++⟨p.q,p.n+1,now+V⟩::r,c.cn+1⟩):=aj (λw8 u8=>aF.trans (v1:=.slice (some ⟨g,0,none⟩) (x.length+(r.length+1)) cap) (ah HC7) (λg' hg'=>by
        simp only[Value.ownBlock,Option.some.injEq] at hg';rw[<-hg'];exact(ah HG).1) u8)
       clear h7 hs7 cp7 YA KG HC7 HG PT
       go_wp2_with fail
       refine(ah Xi).mono ?_
       rintro e w8 ⟨rfl,u8⟩
       obtain⟨gI,Gf⟩:=ah ql w8 ⟨c.t,c.pl,x++⟨p.q,p.n+1,now+V⟩::r,c.cn+1⟩ rfl (ah HR w8 u8)
       have z0:=gI.cell 0 _ rfl
       have z1:=gI.cell 1 _ rfl
       have z2:=gI.cell 2 _ rfl
       have z3:=gI.cell 3 _ rfl
       have z4:=gI.cell 4 _ rfl
       have z5:=gI.cell 5 _ rfl
       have f0:=gI.fr 0
       have f1:=gI.fr 1
       have f2:=gI.fr 2
       have f3:=gI.fr 3
       have f4:=gI.fr 4
       have f5:=gI.fr 5
       have HF:=aj (Gf (jh ⟨m.q,m.s,m.d,c.cn+1,p.n+1,(aU c.t.f s.l c.pl:Int)⟩) rfl)
       clear gI Gf u8 Xi HR ql r0 r1 r2 r3 r4 r5 y1
       go_wp2_with fail
       refine bodyPost_ret (bJ (x:=⟨m.q,m.s,m.d,c.cn+1,p.n+1,(aU c.t.f s.l c.pl:Int)⟩) rfl rfl (ah HF).2) rfl ⟨by rw[ah F9];rfl,?_⟩
       rw[ah F9]
       exact(ah HF).1
end
def Xj:Nat->Code->Code
 | 0,c=>c
 | n+1,.seq _ b=>Xj n b
 | _+1,c=>c
def Gg (f:Func)(n:Nat):Code:=Xj n (f.body.getD .skip)
def Xk (w:World)(B b:Nat)(a:Option Addr)(ca:Nat)(v:Value)(c:aV)(s:bD)(now:Int):Ending->World->Prop:=λe w'=>e=.returned (.tuple #[Bv (lC (aQ c s.l now).1 s.l (aQ c s.l now).2.1),.int .i64 (aQ c s.l now).2.2])/\aF w w' B b a ca v (aQ c s.l now).1
def aay (w W0:World)(B b:Nat)(a:Option Addr)(ca:Nat)(v:Value)(t:Tk.bY):Prop:=∀w2 c2,c2.t=t->aF W0 w2 B b a ca v c2->CB w2 w.heap.size (jh bI)/\∀us:List Value,us.length=6->aF w (w2.setCells w.heap.size 0 us) B b a ca v c2/\CB (w2.setCells w.heap.size 0 us) w.heap.size us
section
variable {w:World}{B b:Nat}{c:aV}{a:Option Addr}{ca:Nat}{v:Value}
theorem Hm.more (h:Hm w B b c a ca v)(hB:B<=w.heap.size)(hl:c.pe.length<=100000)(p:Dv) :
 ∃a' m' c' w8,(Builtin.append_ #[107,107] 107 #[v,.slice (some ⟨w.heap.size,0,none⟩) 1 1]).run prog (w.alloc (Kt p))=.ok (.slice a' m' c') w8/\w8.cell? ⟨b,12,none⟩=some v/\w8.frozen? ⟨b,12,none⟩=false/\aB (λk=>v.ownBlock=some k) (w.alloc (Kt p)) w8/\Hid (aF w (w8.setCell ⟨b,12,none⟩ (.slice a' m' c')) B b a ca v ⟨c.t,c.pl,c.pe++[p],c.cn⟩):=by
 have b4:Below w.heap.size w (w.alloc (Kt p)):=(Below.refl _ _).alloc (Nat.le_refl _) _;have h4:=h.next b4;obtain⟨v8,w8,hr,A8,C8,L8⟩:=Aj _ B 107 v c.pe p h4.row ⟨w.heap.size,0,none⟩ 1 (BD w (jC p) 115) (by omega) (by have:=b4.size;omega);have HS:=aj (aF.trans (aB.of_below b4) (λ_ q=>.inl q) (aF.put h4 C8 (j:=12) (.inr (.inr ⟨rfl,rfl,rfl,rfl⟩)) A8 L8));obtain⟨a',c',rfl,_⟩:=aO.shape A8;refine⟨a',_,c',w8,hr,?_,?_,C8,HS⟩
 ·rw[C8.cell (p:=⟨b,12,none⟩) h4.tb.lt h4.ne1];exact h4.pe
 ·rw[C8.frozen (p:=⟨b,12,none⟩) h4.tb.lt h4.ne1];exact h4.fr 12
end
structure Nx (w W0 W1:World)(B b:Nat)(c:aV)(a:Option Addr)(ca:Nat)(v:Value)(B' q:Nat)(F:Nat->Prop)(s:bD)(m:Rc)(d:Nat)(x:List Dv)(v1:Value):Prop where
 out:aay w W0 B b a ca v c.t
 k1:Hm W1 B b ⟨c.t,m.q+1,x,c.cn⟩ a ca v1
 rm:CB W1 d (nH m)
 hs:jm W1 B' q F s
 hF:∀k,F k->¬gu b v1 k
 hR:∀w8 c8,aF W1 w8 B b a ca v1 c8->aF W0 w8 B b a ca v c8
 hk:s.Ok
 db:d≠b
 dv:v1.ownBlock≠some d
section
variable {w W0 W1:World}{B b:Nat}{c:aV}{a:Option Addr}{ca:Nat}{v:Value}
variable {B' q:Nat}{F:Nat->Prop}{s:bD}{m:Rc}{d:Nat}{x:List Dv}{v1:Value}{now:Int}
theorem RY (h:Nx w W0 W1 B b c a ca v B' q F s m d x v1)(hf:aA true c.t.f=0)(hz:c.t.f.size<=140737488355328)(hcn:0<=c.cn/\c.cn<=1000000000000)(h0:c.t.ack=0)(KQ:aQ c s.l now=(⟨c.t,m.q+1,x,c.cn+1⟩,some (m,1),0))(c3 c4 c5 c7 c8 c9 c10 c11 c13 c14 c15 c16 c17 c18 c19 c20 c21 c22 c23 c24 c25 c26 c27 c28 c29 c30 c31 c32 c33 c34 c35 c36 c37 c38 c39 c40 c41 c42 c43 c44 c45 c46 c47 c48 c49 c50 c51 c52 c53 c54 c55 c56 c57 c58 c59 c60 c61 c62 c63 c64 c65 c66 c67 c68 c69 c70 c71 c72 c73 c74 c75 c76 c77 c78 c79 c80 c81 c82 c83 c84 c85 c86 c87 c88 c89 c90 c91 c92 c93 c94 c95 c96 c97 c98 c99 RZ Si Sj Sr Sv c105 Sz c107 SA c109 SC SE SG SI SK SL c116 c117 SN c119 SQ SS SV SX c124 SY S9 c127 Tc Td c130 c131 Tf Ti Tj Tm Tn Tt c138 c139 Tv c141 Tz c143 TA c145 c146 TD c148 TF TG TI c152 TJ c154 TK c156 c157 TL c159 c160 TM c162 TN c164 TP TQ c167 c168 TR TS c171 TU c173 TV c175 TW TY:Value) :
 Code.wp prog (Gg Tryz.f14 7) (bodyPost prog Tryz.f14 (Xk w B b a ca v c s now)) ⟨List.toArray (.pointer (some ⟨b,0,none⟩)::.pointer (some ⟨q,0,none⟩)::.int .i64 now::c3::c4::c5::.pointer (some ⟨w.heap.size,0,none⟩)::c7::c8::c9::c10::c11::.pointer (some ⟨d,0,none⟩)::c13::c14::c15::c16::c17::c18::c19::c20::c21::c22::c23::c24::c25::c26::c27::c28::c29::c30::c31::c32::c33::c34::c35::c36::c37::c38::c39::c40::c41::c42::c43::c44::c45::c46::c47::c48::c49::c50::c51::c52::c53::c54::c55::c56::c57::c58::c59::c60::c61::c62::c63::c64::c65::c66::c67::c68::c69::c70::c71::c72::c73::c74::c75::c76::c77::c78::c79::c80::c81::c82::c83::c84::c85::c86::c87::c88::c89::c90::c91::c92::c93::c94::c95::c96::c97::c98::c99::RZ::Si::Sj::Sr::Sv::c105::Sz::c107::SA::c109::SC::SE::SG::SI::SK::SL::c116::c117::SN::c119::SQ::SS::SV::SX::c124::SY::S9::c127::Tc::Td::c130::c131::Tf::Ti::Tj::Tm::Tn::Tt::c138::c139::Tv::c141::Tz::c143::TA::c145::c146::TD::c148::TF::TG::TI::c152::TJ::c154::TK::c156::c157::TL::c159::c160::TM::c162::TN::c164::TP::TQ::c167::c168::TR::TS::c171::TU::c173::TV::c175::TW::TY::[]),[]⟩ W1:=by
 have F9:=aj KQ;have Xi:=aj (uJ h.k1 h.hs h.hk h.hF hf hz hcn m 1);have g4:(c.t.ack !=0)=false:=by rw[h0];rfl
 have HR:=aj h.hR;have ql:=aj h.out;have d4:=h.k1.tb.c4;have r0:=h.rm.cell 0 _ rfl;have r1:=h.rm.cell 1 _ rfl;have r2:=h.rm.cell 2 _ rfl;have r3:=h.rm.cell 3 _ rfl;have r4:=h.rm.cell 4 _ rfl;have r5:=h.rm.cell 5 _ rfl;have hbW:=h.k1.tb.lt;clear h h0 KQ;conv=>arg 2;whnf
 go_wp2_with fail;refine(ah Xi).mono ?_;rintro e w8 ⟨rfl,u8⟩;obtain⟨gI,Gf⟩:=ah ql w8 ⟨c.t,m.q+1,x,c.cn+1⟩ rfl (ah HR w8 _ u8);have z0:=gI.cell 0 _ rfl;have z1:=gI.cell 1 _ rfl;have z2:=gI.cell 2 _ rfl;have z3:=gI.cell 3 _ rfl;have z4:=gI.cell 4 _ rfl;have z5:=gI.cell 5 _ rfl;have f0:=gI.fr 0;have f1:=gI.fr 1;have f2:=gI.fr 2;have f3:=gI.fr 3;have f4:=gI.fr 4;have f5:=gI.fr 5;have HF:=aj (Gf (jh ⟨m.q,m.s,m.d,c.cn+1,1,(aU c.t.f s.l (m.q+1):Int)⟩) rfl);clear gI Gf u8 Xi HR ql;go_wp2_with fail;refine bodyPost_ret (bJ (x:=⟨m.q,m.s,m.d,c.cn+1,1,(aU c.t.f s.l (m.q+1):Int)⟩) rfl rfl (ah HF).2) rfl ⟨by rw[ah F9];rfl,?_⟩
 rw[ah F9];exact(ah HF).1
theorem Ua (h:Nx w W0 W1 B b c a ca v B' q F s m d x v1)(hw:dP c.t)(oK:c.t.bo.length<=140737488355328)(hf:aA true c.t.f=0)(hz:c.t.f.size<=140737488355328)(hcn:0<=c.cn/\c.cn<=1000000000000)(hxl:x.length<=99000)(htt:0<=now/\now<=1099511627776)(h0:¬c.t.ack=0)(KQ:aQ c s.l now=(⟨c.t,m.q+1,x++[⟨m.q,1,now+Tk.bU c.t 1⟩],c.cn+1⟩,some (m,1),0))(c3 c4 c5 c7 c8 c9 c10 c11 c13 c14 c15 c16 c17 c18 c19 c20 c21 c22 c23 c24 c25 c26 c27 c28 c29 c30 c31 c32 c33 c34 c35 c36 c37 c38 c39 c40 c41 c42 c43 c44 c45 c46 c47 c48 c49 c50 c51 c52 c53 c54 c55 c56 c57 c58 c59 c60 c61 c62 c63 c64 c65 c66 c67 c68 c69 c70 c71 c72 c73 c74 c75 c76 c77 c78 c79 c80 c81 c82 c83 c84 c85 c86 c87 c88 c89 c90 c91 c92 c93 c94 c95 c96 c97 c98 c99 RZ Si Sj Sr Sv c105 Sz c107 SA c109 SC SE SG SI SK SL c116 c117 SN c119 SQ SS SV SX c124 SY S9 c127 Tc Td c130 c131 Tf Ti Tj Tm Tn Tt c138 c139 Tv c141 Tz c143 TA c145 c146 TD c148 TF TG TI c152 TJ c154 TK c156 c157 TL c159 c160 TM c162 TN c164 TP TQ c167 c168 TR TS c171 TU c173 TV c175 TW TY:Value) :
 Code.wp prog (Gg Tryz.f14 7) (bodyPost prog Tryz.f14 (Xk w B b a ca v c s now)) ⟨List.toArray (.pointer (some ⟨b,0,none⟩)::.pointer (some ⟨q,0,none⟩)::.int .i64 now::c3::c4::c5::.pointer (some ⟨w.heap.size,0,none⟩)::c7::c8::c9::c10::c11::.pointer (some ⟨d,0,none⟩)::c13::c14::c15::c16::c17::c18::c19::c20::c21::c22::c23::c24::c25::c26::c27::c28::c29::c30::c31::c32::c33::c34::c35::c36::c37::c38::c39::c40::c41::c42::c43::c44::c45::c46::c47::c48::c49::c50::c51::c52::c53::c54::c55::c56::c57::c58::c59::c60::c61::c62::c63::c64::c65::c66::c67::c68::c69::c70::c71::c72::c73::c74::c75::c76::c77::c78::c79::c80::c81::c82::c83::c84::c85::c86::c87::c88::c89::c90::c91::c92::c93::c94::c95::c96::c97::c98::c99::RZ::Si::Sj::Sr::Sv::c105::Sz::c107::SA::c109::SC::SE::SG::SI::SK::SL::c116::c117::SN::c119::SQ::SS::SV::SX::c124::SY::S9::c127::Tc::Td::c130::c131::Tf::Ti::Tj::Tm::Tn::Tt::c138::c139::Tv::c141::Tz::c143::TA::c145::c146::TD::c148::TF::TG::TI::c152::TJ::c154::TK::c156::c157::TL::c159::c160::TM::c162::TN::c164::TP::TQ::c167::c168::TR::TS::c171::TU::c173::TV::c175::TW::TY::[]),[]⟩ W1:=by
 have k1:=h.k1;have yF:=h.rm;have hs7:=h.hs;have HF7:=aj h.hF;have HK:=aj h.hk;have HR:=aj h.hR;have ql:=aj h.out;have hdb:=h.db;have hdv:=h.dv;have hbW:=k1.tb.lt;obtain⟨sl,cap,rfl,hcap,hcm,_,_⟩:=k1.sl;have hcap:x.length<=cap:=hcap;unfold maxLen at hcm;have g4:(c.t.ack !=0)=true:=by simpa using h0
 have PD:=aj (tX c.t a ca 1 W1.drew k1.bo oK (by omega));have hwt:=mF hw.w hw.b 1;obtain⟨V0,hV0⟩:∃V0,Tk.bU c.t 1=V0:=⟨_,rfl⟩;rw[hV0] at PD hwt KQ;have F9:=aj KQ;have hwv:IntKind.i64.wrap (now+V0)=now+V0:=by rw[IntKind.wrap_i64];omega
 have hBW:B<=W1.heap.size:=Nat.le_of_lt (Nat.lt_of_le_of_lt k1.bB k1.tb.lt);have Zg:Hid (∀w3,Below W1.drew.heap.size W1.drew w3->_):=aj (λw3 b3=>(k1.next (((Below.refl W1.heap.size W1).drew).trans b3)).more (Nat.le_trans hBW (((Below.refl W1.heap.size W1).drew).trans b3).size) (by show x.length<=100000;omega) ⟨m.q,1,now+V0⟩);have d4:=k1.tb.c4;have d1:W1.drew.cell? ⟨d,1,none⟩=some (.int .i64 m.q):=yF.cell 1 _ rfl;have e12:W1.drew.cell? ⟨b,12,none⟩=some (.slice sl x.length cap):=k1.pe;have t0:Tq b c.t a ca W1.drew:=(sO k1.tb:Tq b c.t a ca W1);obtain⟨t0,t1,t2,t3,t4,t5,t6,t7,t8,t9⟩:=t0;have hyW:=yF.lt
 have Zh:Hid (∀(w3 w8:World) p,Below W1.drew.heap.size W1.drew w3->aB (λk=>(Value.slice sl x.length cap).ownBlock=some k) (w3.alloc (Kt p)) w8->∀u,CB (w8.setCell ⟨b,12,none⟩ u) d (nH m)/\jm (w8.setCell ⟨b,12,none⟩ u) B' q F s):=aj (λw3 w8 p b3 c8 u=>by
  have hb3:=((Below.refl W1.heap.size W1).drew).trans b3;have ba:Below w3.heap.size w3 (w3.alloc (Kt p)):=(Below.refl _ _).alloc (Nat.le_refl _) _;have cs:aB (λk=>k=b) w8 (w8.setCell ⟨b,12,none⟩ u):=aB.setCell (A:=λk=>k=b) (p:=⟨b,12,none⟩) (aB.refl _ _) (.inl rfl) u;exact⟨(((yF.next hb3).next ba).aW c8 hdv).aW cs (λz=>hdb z),(((hs7.below hb3).below ba).aW c8 (λk hk z=>ah HF7 k hk (.inr z))).aW cs (λk hk z=>ah HF7 k hk (.inl z))⟩)
 have Zi:Hid (∀(w3 w8:World) u,Below W1.drew.heap.size W1.drew w3->aF w3 (w8.setCell ⟨b,12,none⟩ u) B b a ca (.slice sl x.length cap) ⟨c.t,m.q+1,x++[⟨m.q,1,now+V0⟩],c.cn⟩->aF W1 (w8.setCell ⟨b,12,none⟩ u) B b a ca (.slice sl x.length cap) ⟨c.t,m.q+1,x++[⟨m.q,1,now+V0⟩],c.cn⟩):=aj (λw3 w8 u b3 hu=>aF.trans (aB.of_below (((Below.refl W1.heap.size W1).drew).trans b3)) (λ_ z=>.inl z) hu);have abo:Hid (∀k,F k->k<W1.heap.size):=aj (λk hk=>(hs7.own k hk).2);clear k1 yF hs7 h0 KQ h hdv;conv=>arg 2;whnf
 go_upto_region 22 with fail
 go_cut [] (λwx=>Hid (aF W1 wx B b a ca (.slice sl x.length cap) ⟨c.t,m.q+1,x++[⟨m.q,1,now+V0⟩],c.cn⟩/\CB wx d (nH m)/\jm wx B' q F s))
 case first =>
  clear d4 g4;go_region_law (first
   | (refine lU rfl _ _ 107 107 rfl (.slice sl x.length cap) _ (by first|(simp[Act.eval];done)|(simp[Act.eval,Act.put];done)) (by first|(simp[Act.eval];done)|(simp[Act.eval,Act.put];done)) hrun ?_)
   | (go_simp;go_at_call 60;refine(ah PD).mono ?_;rintro e w3 ⟨rfl,b3⟩;have x12:=(b3.cell (p:=⟨b,12,none⟩) hbW).trans e12;have x1:=(b3.cell (p:=⟨d,1,none⟩) hyW).trans d1;have hp3:=Nat.lt_of_lt_of_le hbW b3.size;have hy3:=Nat.lt_of_lt_of_le hyW b3.size;obtain⟨a',m',c',w8,hrun,q0,q1,q2,HM8⟩:=ah Zg w3 b3;dsimp only))
  all_goals
   have HS:=aj (And.intro (ah Zi _ _ _ b3 (ah HM8)) (ah Zh _ _ _ b3 q2 (.slice a' m' c')))
   clear HM8 hrun q2 b3 PD Zg Zi Zh
   go_wp2_with fail
   go_meet
   exact HS
 case rest =>
  obtain⟨u7,YB,hs7⟩:=ah hcut;obtain⟨v7,k7,c7,g7⟩:=u7;have r0:=YB.cell 0 _ rfl;have r1:=YB.cell 1 _ rfl;have r2:=YB.cell 2 _ rfl;have r3:=YB.cell 3 _ rfl;have r4:=YB.cell 4 _ rfl;have r5:=YB.cell 5 _ rfl;have Xi:=aj (uJ k7 hs7 (ah HK) (λk hk z=>by
   rcases z with z|z
   ·exact ah HF7 k hk (.inl z)
   ·rcases g7 k z with y|y
    ·exact ah HF7 k hk (.inr y)
    ·have:=ah abo k hk;omega) hf hz hcn m 1)
  have HR7:Hid (∀w8 c8,aF wc w8 B b a ca v7 c8->aF W0 w8 B b a ca v c8):=aj (λw8 c8 u8=>ah HR w8 c8 (aF.trans c7 g7 u8));clear hcut k7 c7 g7 YB hs7 HR PD Zg Zi Zh t0 t1 t2 t3 t4 t5 t6 t7 t8 t9 d1 e12 d4;go_wp2_with fail;refine(ah Xi).mono ?_;rintro e w8 ⟨rfl,u8⟩;obtain⟨gI,Gf⟩:=ah ql w8 ⟨c.t,m.q+1,x++[⟨m.q,1,now+V0⟩],c.cn+1⟩ rfl (ah HR7 w8 _ u8);have z0:=gI.cell 0 _ rfl;have z1:=gI.cell 1 _ rfl;have z2:=gI.cell 2 _ rfl;have z3:=gI.cell 3 _ rfl;have z4:=gI.cell 4 _ rfl;have z5:=gI.cell 5 _ rfl;have f0:=gI.fr 0;have f1:=gI.fr 1;have f2:=gI.fr 2;have f3:=gI.fr 3
  have f4:=gI.fr 4;have f5:=gI.fr 5;have HF:=aj (Gf (jh ⟨m.q,m.s,m.d,c.cn+1,1,(aU c.t.f s.l (m.q+1):Int)⟩) rfl);clear gI Gf u8 Xi HR7 ql;go_wp2_with fail;refine bodyPost_ret (bJ (x:=⟨m.q,m.s,m.d,c.cn+1,1,(aU c.t.f s.l (m.q+1):Int)⟩) rfl rfl (ah HF).2) rfl ⟨by rw[ah F9];rfl,?_⟩;rw[ah F9];exact(ah HF).1
end
section
variable {w W0 wr:World}{B b:Nat}{c:aV}{a:Option Addr}{ca:Nat}{v:Value}
variable {B' q:Nat}{F:Nat->Prop}{s:bD}{x:List Dv}{v1:Value}{now:Int}
theorem Ub (hou:aay w W0 B b a ca v c.t)(h1:Hm wr B b ⟨c.t,c.pl,x,c.cn⟩ a ca v1)(ch:aB (gu b v) W0 wr)(hg:∀g,v1.ownBlock=some g->v.ownBlock=some g\/W0.heap.size<=g)(hs1:jm wr B' q F s)(hF1:∀k,F k->¬gu b v1 k)(hk:s.Ok)(hw:dP c.t)(oK:c.t.bo.length<=140737488355328)(hf:aA true c.t.f=0)(hz:c.t.f.size<=140737488355328)(hcn:0<=c.cn/\c.cn<=1000000000000)(hxl:x.length<=99000)(htt:0<=now/\now<=1099511627776)(KQ:aQ c s.l now=match aX c.t.f s.l c.pl with
 | none=>(⟨c.t,c.pl,x,c.cn⟩,none,4)
 | some m=>(⟨c.t,m.q+1,if c.t.ack=0 then x else x++[⟨m.q,1,now+Tk.bU c.t 1⟩],c.cn+1⟩,some (m,1),0)) (c3 c4 c5 c7 c8 c9 c10 c11 c12 c13 c14 c15 c16 c17 c18 c19 c20 c21 c22 c23 c24 c25 c26 c27 c28 c29 c30 c31 c32 c33 c34 c35 c36 c37 c38 c39 c40 c41 c42 c43 c44 c45 c46 c47 c48 c49 c50 c51 c52 c53 c54 c55 c56 c57 c58 c59 c60 c61 c62 c63 c64 c65 c66 c67 c68 c69 c70 c71 c72 c73 c74 c75 c76 c77 c78 c79 c80 c81 c82 c83 c84 c85 c86 c87 c88 c89 c90 c91 c92 c93 c94 c95 c96 c97 c98 c99 RZ Si Sj Sr Sv c105 Sz c107 SA c109 SC SE SG SI SK SL c116 c117 SN c119 SQ SS SV SX c124 SY S9 c127 Tc Td c130 c131 Tf Ti Tj Tm Tn Tt c138 c139 Tv c141 Tz c143 TA c145 c146 TD c148 TF TG TI c152 TJ c154 TK c156 c157 TL c159 c160 TM c162 TN c164 TP TQ c167 c168 TR TS c171 TU c173 TV c175 TW TY:Value) :
 Code.wp prog (Gg Tryz.f14 4) (bodyPost prog Tryz.f14 (Xk w B b a ca v c s now)) ⟨List.toArray (.pointer (some ⟨b,0,none⟩)::.pointer (some ⟨q,0,none⟩)::.int .i64 now::c3::c4::c5::.pointer (some ⟨w.heap.size,0,none⟩)::c7::c8::c9::c10::c11::c12::c13::c14::c15::c16::c17::c18::c19::c20::c21::c22::c23::c24::c25::c26::c27::c28::c29::c30::c31::c32::c33::c34::c35::c36::c37::c38::c39::c40::c41::c42::c43::c44::c45::c46::c47::c48::c49::c50::c51::c52::c53::c54::c55::c56::c57::c58::c59::c60::c61::c62::c63::c64::c65::c66::c67::c68::c69::c70::c71::c72::c73::c74::c75::c76::c77::c78::c79::c80::c81::c82::c83::c84::c85::c86::c87::c88::c89::c90::c91::c92::c93::c94::c95::c96::c97::c98::c99::RZ::Si::Sj::Sr::Sv::c105::Sz::c107::SA::c109::SC::SE::SG::SI::SK::SL::c116::c117::SN::c119::SQ::SS::SV::SX::c124::SY::S9::c127::Tc::Td::c130::c131::Tf::Ti::Tj::Tm::Tn::Tt::c138::c139::Tv::c141::Tz::c143::TA::c145::c146::TD::c148::TF::TG::TI::c152::TJ::c154::TK::c156::c157::TL::c159::c160::TM::c162::TN::c164::TP::TQ::c167::c168::TR::TS::c171::TU::c173::TV::c175::TW::TY::[]),[]⟩ wr:=by
 obtain⟨o,hoo⟩:∃o,aX c.t.f s.l c.pl=o:=⟨_,rfl⟩;rw[hoo] at KQ;have F9:=aj KQ;have ql:=aj hou;have H1:=aj h1;have Dy:=aj (And.intro ch hg);have Aw:=aj (And.intro hs1 hF1);have HK:=aj hk;have PX:Hid (∀W,(W=wr.drew\/∃o,W=(wr.alloc o).drew)->Calls prog 55 #[.pointer (some ⟨q,0,none⟩),.string c.t.f,.int .i64 c.pl,.bool false] W λe w'=>e=.returned (.tuple #[.agg #[.int .i64 (oR o).k,.int .i64 (oR o).q,.int .i64 (oR o).t,.string (oR o).s,.string (oR o).h,.string (oR o).d],.int .i64 (oE o)])/\Below W.heap.size W w'):=aj (λW hW=>by
  have hb:Below wr.heap.size wr W:=by
   rcases hW with e|⟨o,e⟩
   ·rw[e];exact(Below.refl _ _).drew
   ·rw[e];exact((Below.refl _ _).alloc (Nat.le_refl _) _).drew
  have:=Af c.t.f c.pl false hz (hs1.below hb) hk;rw[Ae,hoo] at this;unfold dS at this;rw[if_pos hf,kK] at this;exact this)
 have Yi:Hid (∀m,o=some m->1<=m.q/\m.q<=1099511627776):=aj (λm hm=>hk.seq (kZ (hoo.trans hm)).1);have k1:=h1.tb.c1;have k10:=h1.pl;have hbl:=h1.tb.lt;rw[show(⟨c.t,c.pl,x,c.cn⟩:aV).t.f=c.t.f from rfl] at k1;rw[show(⟨c.t,c.pl,x,c.cn⟩:aV).pl=c.pl from rfl] at k10;clear hou h1 ch hg hs1 hF1 hk KQ hoo;conv=>arg 2;whnf
 go_upto_region 17 with fail
 go_cut [12,13] (λu v wx=>∃by',u=.pointer (some ⟨by',0,none⟩)/\v=.int .i64 (oE o)/\Hid (sH wr wx by' o))
 case first =>
  clear H1 Dy Aw F9 Yi ql HK hw;go_region_with (go_at_call 55;refine(ah PX _ (by first|(with_reducible exact .inl rfl)|(with_reducible exact .inr ⟨_,rfl⟩))).mono ?_;rintro e w1 ⟨rfl,b1⟩;first|(have hz1:CB w1 wr.heap.size (nH cu):=(by with_reducible exact Io b1);have z0:=hz1.cell 0 _ rfl;have z1:=hz1.cell 1 _ rfl;have z2:=hz1.cell 2 _ rfl;have z3:=hz1.cell 3 _ rfl;have z4:=hz1.cell 4 _ rfl;have z5:=hz1.cell 5 _ rfl;have f0:=hz1.fr 0;have f1:=hz1.fr 1;have f2:=hz1.fr 2;have f3:=hz1.fr 3;have f4:=hz1.fr 4;have f5:=hz1.fr 5)|skip)
  all_goals
   first
   | (
    have HL:=aj (yg (o:=o) hz1 b1)
    clear z0 z1 z2 z3 z4 z5 f0 f1 f2 f3 f4 f5 hz1 b1
    go_wp2_with fail
    go_meet
    exact⟨_,rfl,rfl,HL⟩)
   | (
    have HL:=aj (xZ (o:=o) b1)
    clear b1
    go_wp2_with fail
    go_meet
    exact⟨_,rfl,rfl,HL⟩)
 case rest =>
  obtain⟨by',rfl,rfl,HA⟩:=hcut;obtain⟨wb,hwb⟩:∃wb,wb=wc:=⟨_,rfl⟩;subst hwb;clear k1 k10 PX hbl;have hby:=(ah HA).1.lt;have Qz:Hid (Below wr.heap.size wr wb):=aj (ah HA).2.1;have HU:Hid (aF W0 wb B b a ca v ⟨c.t,c.pl,x,c.cn⟩):=aj (aF.trans (ah Dy).1 (ah Dy).2 (aF.same (ah H1) (ah Qz)))
  cases o with
  | none =>
   have HX:=aj ((ah ql wb ⟨c.t,c.pl,x,c.cn⟩ rfl (ah HU)).2 (jh bI) rfl);have gI:=(ah ql wb ⟨c.t,c.pl,x,c.cn⟩ rfl (ah HU)).1;have z0:=gI.cell 0 _ rfl;have z1:=gI.cell 1 _ rfl;have z2:=gI.cell 2 _ rfl;have z3:=gI.cell 3 _ rfl;have z4:=gI.cell 4 _ rfl;have z5:=gI.cell 5 _ rfl;have f0:=gI.fr 0;have f1:=gI.fr 1;have f2:=gI.fr 2;have f3:=gI.fr 3;have f4:=gI.fr 4;have f5:=gI.fr 5;rw[show oE none=4 from rfl];clear gI H1 Dy Aw Yi HU ql HA Qz HK;go_wp2_with fail;refine bodyPost_ret (bJ (x:=bI) rfl rfl (ah HX).2) rfl ?_;unfold Xk;rw[ah F9];exact⟨rfl,(ah HX).1⟩
  | some m =>
   have hm:=ah Yi m rfl;have hm1:=hm.1;have hm2:=hm.2;have hb5:=(ah H1).next (ah HA).2.1;have rm:=(ah HA).1;rw[show oR (some m)=m from rfl] at rm;rw[show oE (some m)=0 from rfl];have Nv:by'≠b:=by have h9:=(ah HA).2.2;have h8:=(ah H1).tb.lt;omega
   have aaz:v1.ownBlock≠some by':=λz=>by have h9:=(ah HA).2.2;have:=((ah H1).row.lt _ z).2;omega
   have x1:=rm.cell 1 _ rfl;have c10:=hb5.pl;have f10:=hb5.fr 10;have abQ:=hb5.tb.lt;have hw1:IntKind.i64.wrap (m.q+1)=m.q+1:=by rw[IntKind.wrap_i64];omega
   have HN:Hid (Nx w W0 (wb.setCell ⟨b,10,none⟩ (.int .i64 (m.q+1))) B b c a ca v B' q F s m by' x v1):=aj (by
    have cW:aB (λk=>k=b) wb (wb.setCell ⟨b,10,none⟩ (.int .i64 (m.q+1))):=aB.setCell (A:=λk=>k=b) (p:=⟨b,10,none⟩) (aB.refl _ _) (.inl rfl) _;exact⟨ah ql,hb5.put (aB.refl _ _) (.inl ⟨rfl,rfl,rfl,rfl⟩) hb5.row (λ_ z=>.inl z),rm.aW cW (λz=>Nv z),((ah Aw).1.below (ah Qz)).aW cW (λk hk z=>(ah Aw).2 k hk (.inl z)),(ah Aw).2,λw8 c8 u8=>aF.trans (((ah Dy).1.trans (aB.of_below (ah Qz))).trans (cW.mono (λ_ _ z=>.inl z))) (ah Dy).2 u8,ah HK,Nv,aaz⟩)
   clear hb5 rm H1 Dy Aw Yi HU ql HA Qz HK Nv aaz;have HM:=aj hm;clear hm;go_upto_region 20 with fail
   go_cut [] (λwx=>wx=wb.setCell ⟨b,10,none⟩ (.int .i64 (m.q+1)))
   case first =>
    clear HN F9 hw;go_wp2_with fail;go_meet
    rfl
   case rest =>
    rw[hcut];refine(show ∀(a':Act) (w':World),Code.wp prog (Gg Tryz.f14 7) (bodyPost prog Tryz.f14 (Xk w B b a ca v c s now)) a' w'->_ from by assumption) _ _ ?_;by_cases h0:c.t.ack=0
    ·exact RY (ah HN) hf hz hcn h0 (by rw[ah F9];simp only[h0,if_true]) _ _ _ _ _ _ _ _ _ _ _ _ _ _ _ _ _ _ _ _ _ _ _ _ _ _ _ _ _ _ _ _ _ _ _ _ _ _ _ _ _ _ _ _ _ _ _ _ _ _ _ _ _ _ _ _ _ _ _ _ _ _ _ _ _ _ _ _ _ _ _ _ _ _ _ _ _ _ _ _ _ _ _ _ _ _ _ _ _ _ _ _ _ _ _ _ _ _ _ _ _ _ _ _ _ _ _ _ _ _ _ _ _ _ _ _ _ _ _ _ _ _ _ _ _ _ _ _ _ _ _ _ _ _ _ _ _ _ _ _ _ _ _ _ _ _ _ _ _ _ _ _ _ _ _ _ _ _ _ _ _ _ _ _ _ _ _ _ _ _ _ _ _
    ·exact Ua (ah HN) hw oK hf hz hcn hxl htt h0 (by rw[ah F9];simp only[h0,if_false]) _ _ _ _ _ _ _ _ _ _ _ _ _ _ _ _ _ _ _ _ _ _ _ _ _ _ _ _ _ _ _ _ _ _ _ _ _ _ _ _ _ _ _ _ _ _ _ _ _ _ _ _ _ _ _ _ _ _ _ _ _ _ _ _ _ _ _ _ _ _ _ _ _ _ _ _ _ _ _ _ _ _ _ _ _ _ _ _ _ _ _ _ _ _ _ _ _ _ _ _ _ _ _ _ _ _ _ _ _ _ _ _ _ _ _ _ _ _ _ _ _ _ _ _ _ _ _ _ _ _ _ _ _ _ _ _ _ _ _ _ _ _ _ _ _ _ _ _ _ _ _ _ _ _ _ _ _ _ _ _ _ _ _ _ _ _ _ _ _ _ _ _ _
end
section
variable {w:World}{B b:Nat}{c:aV}{a:Option Addr}{ca:Nat}{v:Value}
variable {B' q:Nat}{F:Nat->Prop}{s:bD}
theorem Oh (h:Hm w B b c a ca v)(ho:c.Ok)(hs:jm w B' q F s)(hk:s.Ok)(hF:∀k,F k->¬gu b v k)(hw:dP c.t)(oK:c.t.bo.length<=140737488355328)(hf:aA true c.t.f=0)(hz:c.t.f.size<=140737488355328)(hcn:0<=c.cn/\c.cn<=1000000000000)(hl:c.pe.length<=99000)(hnb:∀p∈c.pe,0<=p.n/\p.n<=98)(now:Int)(ht:dU now=true)(hag:(gq c.t s.l now c.pe).2=none) :
 Calls prog 14 #[.pointer (some ⟨b,0,none⟩),.pointer (some ⟨q,0,none⟩),.int .i64 now] w (Xk w B b a ca v c s now):=by
 obtain⟨W0,hW0⟩:∃W0,W0=w.alloc Ip:=⟨_,rfl⟩;have b0:Below w.heap.size w W0:=by rw[hW0];exact(Below.refl _ _).alloc (Nat.le_refl _) _
 have cb0:CB W0 w.heap.size (jh bI):=by rw[hW0];exact CB.new w (jh bI) 47
 have h0:=h.next b0;have hs0:=hs.below b0;have htt:=jc.1 ht;have P1:=aj (λW=>bP now 0 1099511627776 W);rw[gZ,ht] at P1;-- the answer is stored in the block that was made first
 have ql:Hid (∀w2 c2,c2.t=c.t->aF W0 w2 B b a ca v c2->CB w2 w.heap.size (jh bI)/\∀us:List Value,us.length=6->aF w (w2.setCells w.heap.size 0 us) B b a ca v c2/\CB (w2.setCells w.heap.size 0 us) w.heap.size us):=aj (λw2 c2 e hu=>aF.out e h b0 (Nat.le_refl _) cb0 hu);have sN:Hid (∀wr c',aF W0 wr B b a ca v c'->∃v',Hm wr B b c' a ca v'/\aB (gu b v) W0 wr/\(∀g,v'.ownBlock=some g->v.ownBlock=some g\/W0.heap.size<=g)/\jm wr B' q F s/\∀k,F k->¬gu b v' k):=aj (λwr c' hu=>hu.store hs0 hF);have U0:Hid (aF W0 W0 B b a ca v ⟨c.t,c.pl,c.pe,c.cn⟩):=aj (aF.same h0 (Below.refl _ _));have L0:Hid (Lk c.t s.l now c.pe [] c.pe):=aj Lk.start
 have HK:=aj hk;have HO:=aj ho;have HNb:=aj hnb;clear h hs hF hk h0 hs0 cb0 ho hnb;go_enter func14,ntmps14;go_upto_region 1 with fail
 rw[<-hW0];clear hW0;go_wp2_with fail;refine(ah P1 W0).mono ?_;rintro e w1 ⟨rfl,hw1⟩;rw[hw1];clear hw1 w1 P1;go_wp2_with fail;go_loopg [8] c.pe.length (λk iv W=>∃x ps:List Dv,iv=.int .i64 (x.length:Int)/\Hid (aF W0 W B b a ca v ⟨c.t,c.pl,x++ps,c.cn⟩)/\Hid (Lk c.t s.l now c.pe x ps)/\Hid (k=ps.length))
 case atStart=>exact⟨[],c.pe,rfl,U0,L0,aj rfl⟩
 case round =>
  clear U0 L0;obtain⟨x,ps,rfl,HU,Dp,HN⟩:=hrel;have hlen:x.length+ps.length<=c.pe.length:=by have:=(ah Dp).2.length_le;rw[List.length_append] at this;exact this
  obtain⟨v1,h1,ch,hg,hs1,hF1⟩:=ah sN _ _ (ah HU)
  cases ps with
  | nil =>
   have hdn:=(ah Dp).done;have HEn:Hid (aQ c s.l now=newC ⟨c.t,c.pl,x,c.cn⟩ s.l now):=aj (by rw[ET ht hag,hdn]);have hxs:x.Sublist c.pe:=by have:=(ah Dp).2;rwa [List.append_nil] at this
   have hxl:x.length<=99000:=by have:=hxs.length_le;omega
   rw[List.append_nil] at HU h1;obtain⟨sl,cap,rfl,hcap,hcm,_,_⟩:=h1.sl;have c12:=h1.pe;have c8:=h1.tb.c8;have hbl:=h1.tb.lt;have hcap:x.length<=cap:=hcap;have c12:wr.cell? ⟨b,12,none⟩=some (.slice sl x.length cap):=c12;have c8:wr.cell? ⟨b,8,none⟩=some (.int .i64 c.t.pe):=c8;unfold maxLen at hcm;have gx:decide ((x.length:Int)<(x.length:Int))=false:=decide_eq_false (by omega)
   cases hfu:oH ⟨c.t,c.pl,x,c.cn⟩ with
   | true =>
    have F9:Hid (aQ c s.l now=(⟨c.t,c.pl,x,c.cn⟩,none,11)):=aj (by rw[ah HEn];unfold newC;rw[if_pos hfu]);unfold oH at hfu;rw[Bool.and_eq_true,decide_eq_true_eq] at hfu;obtain⟨q1,q2⟩:=hfu;have q1:(c.t.pe !=0)=true:=q1;have q2:c.t.pe<=(x.length:Int):=q2;have q3:decide (c.t.pe<=(x.length:Int))=true:=decide_eq_true q2;have q4:decide ((x.length:Int)>=c.t.pe)=true:=q3;have HF:=aj (λn=>ah ql (wr.drewN n) ⟨c.t,c.pl,x,c.cn⟩ rfl ((ah HU).next (below_drewN (Below.refl _ _) n)));have gI:=(ah ql wr ⟨c.t,c.pl,x,c.cn⟩ rfl (ah HU)).1;have z0:=gI.cell 0 _ rfl;have z1:=gI.cell 1 _ rfl
    have z2:=gI.cell 2 _ rfl;have z3:=gI.cell 3 _ rfl;have z4:=gI.cell 4 _ rfl;have z5:=gI.cell 5 _ rfl;have f0:=gI.fr 0;have f1:=gI.fr 1;have f2:=gI.fr 2;have f3:=gI.fr 3;have f4:=gI.fr 4;have f5:=gI.fr 5;clear h1 ch hg hs1 hF1 hdn hag HEn gI;go_wp2_with fail;go_quiet (fail)
    go_wp2_with fail;have HX:=aj ((ah HF nq).2 (jh bI) rfl);refine bodyPost_ret (bJ (x:=bI) rfl rfl (ah HX).2) rfl ?_;unfold Xk;rw[ah F9];exact⟨rfl,(ah HX).1⟩
   | false =>
    have hev:(c.t.pe !=0)=false\/((c.t.pe !=0)=true/\decide (c.t.pe<=(x.length:Int))=false):=by
     unfold oH at hfu;rw[Bool.and_eq_false_iff] at hfu
     cases z:(c.t.pe !=0) with
     | false=>exact .inl rfl
     | true=>exact .inr ⟨rfl,hfu.resolve_left (by show ¬(c.t.pe !=0)=false;rw[z];simp)⟩
    have KQ:Hid (aQ c s.l now=match aX c.t.f s.l c.pl with
     | none=>(⟨c.t,c.pl,x,c.cn⟩,none,4)
     | some m=>(⟨c.t,m.q+1,if c.t.ack=0 then x else x++[⟨m.q,1,now+Tk.bU c.t 1⟩],c.cn+1⟩,some (m,1),0)):=aj (by rw[ah HEn];unfold newC;rw[hfu];rfl)
    have HH1:=aj h1;have Dy:=aj (And.intro ch hg);have Aw:=aj (And.intro hs1 hF1);clear h1 ch hg hs1 hF1 hdn hag HEn hfu HU Dp HN sN HO HNb;go_upto_region 15 with fail
    go_cut [123] (λz wx=>z=.bool false/\Hid (Below wr.heap.size wr wx))
    case first =>
     clear HH1 Dy Aw KQ ql hw HK;rcases hev with q1|⟨q1,q2⟩;all_goals
      go_quiet (fail)
      go_wp2_with fail
      go_meet
      exact⟨rfl,aj (below_drewN (Below.refl _ _) nq)⟩
    case rest =>
     obtain⟨rfl,HBc⟩:=hcut;obtain⟨wa,Nu⟩:∃wa,wa=wc:=⟨_,rfl⟩;subst Nu;clear c12 c8 hev;go_upto_if 123 with fail
     go_cut [] (λwx=>wx=wa)
     case first =>
      clear HH1 Dy Aw KQ ql hw HK;go_wp2_with fail;go_meet
      rfl
     case rest =>
      rw[hcut];refine(show ∀(a':Act) (w':World),Code.wp prog (Gg Tryz.f14 4) (bodyPost prog Tryz.f14 (Xk w B b a ca v c s now)) a' w'->_ from by assumption) _ _ ?_;exact Ub (ah ql) ((ah HH1).next (ah HBc)) ((ah Dy).1.trans (aB.of_below (ah HBc))) (ah Dy).2 ((ah Aw).1.below (ah HBc)) (ah Aw).2 (ah HK) hw oK hf hz hcn hxl htt (ah KQ) _ _ _ _ _ _ _ _ _ _ _ _ _ _ _ _ _ _ _ _ _ _ _ _ _ _ _ _ _ _ _ _ _ _ _ _ _ _ _ _ _ _ _ _ _ _ _ _ _ _ _ _ _ _ _ _ _ _ _ _ _ _ _ _ _ _ _ _ _ _ _ _ _ _ _ _ _ _ _ _ _ _ _ _ _ _ _ _ _ _ _ _ _ _ _ _ _ _ _ _ _ _ _ _ _ _ _ _ _ _ _ _ _ _ _ _ _ _ _ _ _ _ _ _ _ _ _ _ _ _ _ _ _ _ _ _ _ _ _ _ _ _ _ _ _ _ _ _ _ _ _ _ _ _ _ _ _ _ _ _ _ _ _ _ _ _ _ _ _ _ _ _ _ _
  | cons p r =>
   have e0:(⟨c.t,c.pl,x++p::r,c.cn⟩:aV).pe.length=x.length+(r.length+1):=by show(x++p::r).length=_;rw[List.length_append,List.length_cons]
   obtain⟨g,cap,hvv,hgc,hcm,hgB,hgl⟩:=aO.there h1.row (by rw[List.length_map,e0];omega);rw[List.length_map] at hvv hgc;subst hvv;have tc:=aO.at h1.row (k:=x.length) (by rw[List.length_map,e0];omega);have VD:tr ((⟨c.t,c.pl,x++p::r,c.cn⟩:aV).pe.map jC) x.length=jC p:=by
    show tr ((x++p::r).map jC) x.length=_;rw[List.map_append,tK (by simp),List.getElem_append_right (by simp)];simp
   rw[VD] at tc;have k0:=tc.c0;have k1:=tc.c1;have k2:=tc.c2;rw[show(jC p).a=.int .i64 p.q from rfl] at k0;rw[show(jC p).b=.int .i64 p.n from rfl] at k1;rw[show(jC p).c=.int .i64 p.d from rfl] at k2;have c12:=h1.pe;have hbl:=h1.tb.lt;rw[e0] at c12 hgc;have hL:(p::r).length=r.length+1:=rfl;rw[hL] at hlen;unfold maxLen at hcm;have ba:Below wr.heap.size wr (wr.alloc (Kt p)):=(Below.refl _ _).alloc (Nat.le_refl _) _;have Zn:Hid (r.length<gk):=aj (by have:=ah HN;rw[hL] at this;omega);have hxn:x.length<=99000:=by omega
   have hrn:r.length<=99000:=by omega
   by_cases hd:now<p.d
   ·have g1:decide (now<p.d)=true:=decide_eq_true hd;have g2:decide (p.d > now)=true:=g1;have Y5:Hid (aF W0 (wr.alloc (Kt p)) B b a ca v ⟨c.t,c.pl,(x++[p])++r,c.cn⟩):=aj (by rw[List.append_assoc];exact(ah HU).next ba);have HL2:=aj ((ah Dp).skip hd);clear h1 ch hg hs1 hF1 tc ba hd HN hL e0 VD;go_wp2_with fail;go_roundg r.length
    case measure=>exact ah Zn
    case rel=>exact⟨x++[p],r,by simp,Y5,HL2,aj rfl⟩
   ·have g1:decide (now<p.d)=false:=decide_eq_false hd;have g2:decide (p.d > now)=false:=g1;obtain⟨wa,Nu⟩:∃wa,wa=wr.alloc (Kt p):=⟨_,rfl⟩;rw[<-Nu] at ba;have Yz:CB wa wr.heap.size [.int .i64 p.q,.int .i64 p.n,.int .i64 p.d]:=by rw[Nu];exact CB.new wr _ _
    have PG:=aj (FC p.q (hs1.below ba) (ah HK));rw[kK] at PG;have y0:=Yz.cell 0 _ rfl;have CP:=aj Yz;have H1:=aj h1;have HX:=aj (And.intro ch hg);have BA:=aj ba;have Aw:=aj (And.intro hs1 hF1);obtain⟨O,hO⟩:∃O,jw s.l p.q=O:=⟨_,rfl⟩;have Xg:=aj hO;rw[hO] at PG;have hD:=aj (show p.d<=now by omega);clear h1 ch hg hs1 hF1 tc ba hd HN hL e0 VD Yz hO;go_upto_region 7 with fail
    rw[show wr.alloc (.cells #[.int .i64 p.q,.int .i64 p.n,.int .i64 p.d] 115)=wa from Nu.symm];clear Nu;have y2:=(ah CP).cell 2 _ rfl;go_wp2_with fail;refine(ah PG).mono ?_;rintro e w2 ⟨rfl,b2⟩;clear PG y0 y2 g1 g2 k0 k1 k2 c12;obtain⟨w3,hw3⟩:∃w3,w3=w2.alloc (Aa (oR O)):=⟨_,rfl⟩;have bb:Below wr.heap.size wr w3:=by rw[hw3];exact ay (ah BA) ((b2.mono (Nat.le_refl _)).alloc b2.size _)
    have hne0:wr.heap.size<w3.heap.size:=by have:=(ah CP).lt;have:=b2.size;rw[hw3];simp;omega
    have c3:CB w3 wr.heap.size [.int .i64 p.q,.int .i64 p.n,.int .i64 p.d]:=by rw[hw3];exact(ah CP).next (b2.alloc b2.size _)
    have cr:CB w3 w2.heap.size (nH (oR O)):=by rw[hw3];exact CB.new w2 (nH (oR O)) 33
    have hw2:wr.heap.size<w2.heap.size:=by have:=(ah CP).lt;have:=b2.size;omega
    have hbr:wr.heap.size≠w2.heap.size:=by omega
    have C3:=aj (And.intro c3 cr);have BB:=aj bb;have H3:=(ah H1).next bb;have d7:=H3.tb.c7;have abm:=H3.tb.lt;have y0:=c3.cell 0 _ rfl;have y1:=c3.cell 1 _ rfl;obtain⟨E,hE⟩:∃E,oE O=E:=⟨_,rfl⟩;have HE:=aj hE;rw[hE];clear b2 bb c3 cr CP BA hE;go_upto_region 9 with fail
    rw[<-hw3];clear hw3
    cases hm:jE c.t s.l now p with
    | false =>
     have hev:(E==0)=false\/((E==0)=true/\(c.t.mo==0)=false/\decide (p.n<c.t.mo)=false):=by
      rw[Jd p (by have:=ah hD;omega),ah Xg] at hm
      cases O with
      | none=>left;rw[<-ah HE];rfl
      | some m =>
       right;rw[Option.isSome_some,Bool.true_and,Bool.or_eq_false_iff,decide_eq_false_iff_not] at hm;exact⟨by rw[<-ah HE];rfl,by simpa using hm.1,hm.2⟩
     have PO:Hid (∀n,Calls prog 62 #[.pointer (some ⟨b,0,none⟩),.int .i64 p.q] (w3.drewN n) λe w'=>e=.returned (.tuple #[])/\aF W0 w' B b a ca v ⟨c.t,c.pl,x++r,c.cn⟩):=aj (λn=>by
      refine(lG (H3.next (below_drewN (Below.refl _ _) n)) (by show(x++p::r).length<=100000;rw[List.length_append,List.length_cons];omega) p.q).mono ?_;rintro e w' ⟨rfl,hu⟩;refine⟨rfl,aF.trans (ah HX).1 (ah HX).2 (aF.front (below_drewN (ah BB) n) ?_)⟩;rw[show(⟨c.t,c.pl,x++p::r,c.cn⟩:aV).pe=x++p::r from rfl,(ah Dp).out (ah HO).rise] at hu;exact hu)
     have HL2:=aj ((ah Dp).away (by have:=ah hD;omega) hm);clear H3 hm H1 HX Aw Xg HE C3 BB HU Dp;rcases hev with g3|⟨g3,g4,g5⟩;all_goals
      go_wp2_with fail
      go_quiet (fail)
      go_wp2_with fail
      refine(ah PO _).mono ?_
      rintro e w4 ⟨rfl,u4⟩
      have HU4:=aj u4
      clear u4 PO
      go_wp2_with fail
      go_roundg r.length
      case measure=>exact ah Zn
      case rel=>exact⟨x,r,rfl,HU4,HL2,aj rfl⟩
    | true =>
     obtain⟨m,e1,e2⟩:=(ah Dp).hit hm;rw[e2] at hag
     cases hag
theorem Oi (h:Hm w B b c a ca v)(ho:c.Ok)(hs:jm w B' q F s)(hk:s.Ok)(hF:∀k,F k->¬gu b v k)(hw:dP c.t)(oK:c.t.bo.length<=140737488355328)(hf:aA true c.t.f=0)(hz:c.t.f.size<=140737488355328)(hcn:0<=c.cn/\c.cn<=1000000000000)(hl:c.pe.length<=99000)(hnb:∀p∈c.pe,0<=p.n/\p.n<=98)(now:Int) :
 Calls prog 14 #[.pointer (some ⟨b,0,none⟩),.pointer (some ⟨q,0,none⟩),.int .i64 now] w λe w'=>e=.returned (.tuple #[Bv (lC (aQ c s.l now).1 s.l (aQ c s.l now).2.1),.int .i64 (aQ c s.l now).2.2])/\aF w w' B b a ca v (aQ c s.l now).1:=by
 cases ht:dU now with
 | false =>
  have e:aQ c s.l now=(c,none,1):=by unfold aQ;rw[if_pos ht]
  rw[e];exact Og h q now ht
 | true =>
  by_cases hag:(gq c.t s.l now c.pe).2=none
  ·exact Oh h ho hs hk hF hw oK hf hz hcn hl hnb now ht hag
  ·exact F8 h ho hs hk hF hw oK hf hz hcn hl hnb now ht hag
end
