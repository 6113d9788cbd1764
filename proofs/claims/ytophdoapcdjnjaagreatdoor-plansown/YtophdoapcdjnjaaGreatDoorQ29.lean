/- A part. -/
import Derived.Test.YtophdoapcdjnjaaGreatDoorQ12
import Derived.Test.YtophdoapcdjnjaaGreatDoorQ27
set_option maxRecDepth 100000
set_option maxHeartbeats 8000000
namespace Go.Proofs.YtophdoapcdjnjaaGreatDoor
open Go.RowKit Go.Proofs.Tryz
namespace Dk
def pdq (l:List Dv)(n:Int):Nat:=l.findIdx (λp=>decide (n<=p.q))
theorem Dc {l:List Dv}(h:l.Pairwise λa b=>a.q<b.q){i j:Nat}(hij:i<j)(hj:j<l.length):(dv l i).q<(dv l j).q:=by
 rw[lQ hj,lQ (show i<l.length by omega)];exact List.pairwise_iff_getElem.1 h i j (by omega) hj hij
theorem QJ {l:List Dv}{n:Int}{i:Nat}(hi:i<=l.length)(hlo:∀k,k<i->(dv l k).q<n)(hhi:∀k,i<=k->k<l.length->n<=(dv l k).q):i=pdq l n:=by
 unfold pdq;rcases Nat.eq_or_lt_of_le hi with q|q
 ·rw[q];refine(List.findIdx_eq_length.2 (λx hx=>?_)).symm;obtain⟨k,hk,rfl⟩:=List.mem_iff_getElem.1 hx;have:=hlo k (by omega);rw[lQ hk] at this;simp only[decide_eq_false_iff_not];omega
 ·refine((List.findIdx_eq q).2 ⟨?_,λj hj=>?_⟩).symm
  ·have:=hhi i (Nat.le_refl _) q;rw[lQ q] at this;simpa using this
  ·have:=hlo j hj;rw[lQ (show j<l.length by omega)] at this;simp only[decide_eq_false_iff_not];omega
theorem QK {l:List Dv}(h:l.Pairwise λa b=>a.q<b.q){n:Int}{i:Nat}(hlo:∀k,k<i->(dv l k).q<n)(hhi:∀k,i<=k->k<l.length->n<=(dv l k).q)(hi:i<l.length):qE l n=decide ((dv l i).q=n):=by
 unfold qE;by_cases q:(dv l i).q=n
 ·rw[decide_eq_true q,List.any_eq_true];exact⟨dv l i,by rw[lQ hi];exact List.getElem_mem _,by simpa using q⟩
 ·rw[decide_eq_false q,List.any_eq_false];intro x hx;obtain⟨k,hk,rfl⟩:=List.mem_iff_getElem.1 hx;rw[<-lQ hk];simp only[decide_eq_true_eq];rcases Nat.lt_trichotomy k i with z|z|z
  ·have:=hlo k z;omega
  ·rw[z];exact q
  ·have:=Dc h z hk;have:=hhi i (Nat.le_refl _) hi;omega
theorem UG {l:List Dv}{n:Int}(hlo:∀k,k<l.length->(dv l k).q<n):qE l n=false:=by
 unfold qE;rw[List.any_eq_false];intro x hx;obtain⟨k,hk,rfl⟩:=List.mem_iff_getElem.1 hx;rw[<-lQ hk];have:=hlo k hk;simp only[decide_eq_true_eq];omega
theorem Ap (r:Dv)(n:Int)(w:World) :
 Calls prog 66 #[YX r,.int .i64 n] w λe w'=>e=.returned (.int .i64 (ng r.q n))/\Below w.heap.size w w':=by
 go_enter func66,ntmps66;go_wp2_with fail;refine(FM _ n _).mono ?_;rintro e w1 ⟨rfl,rfl⟩;go_wp2_with fail;go_ret;exact⟨rfl,(Below.refl _ _).alloc (Nat.le_refl _) _⟩
theorem Xh.below {w w':World}{a:Option Addr}{l:List Dv}(h:Xh w a l)(hb:Below w.heap.size w w'):Xh w' a l:=λk hk=>by
 obtain⟨b,e,t⟩:=h k hk;exact⟨b,e,Nat.lt_of_lt_of_le t.lt hb.size,by rw[hb.cell (p:=⟨b,k*3,none⟩) t.lt];exact t.c0,by rw[hb.cell (p:=⟨b,k*3+1,none⟩) t.lt];exact t.c1,by rw[hb.cell (p:=⟨b,k*3+2,none⟩) t.lt];exact t.c2⟩
theorem FU (a:Option Addr)(cap:Nat)(l:List Dv)(n:Int)(w:World)(hsl:Xh w a l)(hord:l.Pairwise λa b=>a.q<b.q)(fA:l.length<=1000000) :
 Calls prog 65 #[.slice a l.length cap,.int .i64 n,.func (.func 66) #[] #[]] w λe w'=>e=.returned (.tuple #[.int .i64 (pdq l n),.bool (qE l n)])/\Below w.heap.size w w':=by
 have yA:=aj hord;clear hord;go_enter func65,ntmps65;go_wp2;go_loopw [9,10] (λiv jv wr=>∃(i j:Nat),iv=.int .i64 i/\jv=.int .i64 j/\i<=j/\j<=l.length/\Hid (∀k,k<i->(dv l k).q<n)/\Hid (∀k,j<=k->k<l.length->n<=(dv l k).q)/\Hid (Xh wr a l)/\Below w.heap.size w wr) (λiv jv _=>(intOf jv).toNat-(intOf iv).toNat)
 case atStart=>exact⟨0,l.length,rfl,rfl,Nat.zero_le _,Nat.le_refl _,aj (λk hk=>absurd hk (Nat.not_lt_zero k)),aj (λk h1 h2=>by omega),aj hsl,Below.refl _ _⟩
 case round =>
  obtain⟨i,j,rfl,rfl,hij,hj,hlo,hhi,hsl2,hb⟩:=hrel;by_cases hlt:i<j
  ·obtain⟨h,hh⟩:∃h:Nat,h=(i+j) / 2:=⟨_,rfl⟩;have hh1:i<=h/\h<j:=by omega
   obtain⟨g,rfl,s6⟩:=ah hsl2 h (by omega);have hmid:((i:Int)+(j:Int)) / 2=(h:Int):=by omega
   clear hh;have H:=aj (Ap (dv l h) n wr);obtain⟨_,x0,x1,x2⟩:=s6;by_cases he:(dv l h).q<n
   ·have hz:ng (dv l h).q n<0:=(vX _ _).2 he;have He:=aj he;clear he;go_wp2_with fail;refine(ah H).mono ?_;rintro e w1 ⟨rfl,hb1⟩;clear x0 x1 x2;go_wp2_with fail;refine⟨⟨h+1,j,by go_num,rfl,by omega,hj,aj (λk hk=>?_),hhi,aj ((ah hsl2).below hb1),aA hb hb1⟩,?_⟩
    ·rcases Nat.lt_succ_iff_lt_or_eq.1 hk with q|q
     ·have:=Dc (ah yA) q (by omega);have:=ah He;omega
     ·rw[q];exact ah He
    ·simp[intOf];omega
   ·have hz:¬ng (dv l h).q n<0:=λz=>he ((vX _ _).1 z)
    have He:=aj he;clear he;go_wp2_with fail;refine(ah H).mono ?_;rintro e w1 ⟨rfl,hb1⟩;clear x0 x1 x2;go_wp2_with fail;refine⟨⟨i,h,rfl,rfl,by omega,by omega,hlo,aj (λk hk hk2=>?_),aj ((ah hsl2).below hb1),aA hb hb1⟩,?_⟩
    ·have:=ah He;rcases Nat.eq_or_lt_of_le hk with q|q
     ·rw[<-q];omega
     ·have:=Dc (ah yA) q hk2;omega
    ·simp[intOf];omega
  ·obtain rfl:i=j:=by omega
   have hpl:=QJ (n:=n) hj (ah hlo) (ah hhi);by_cases hl:i<l.length
   ·obtain⟨g,rfl,s6⟩:=ah hsl2 i (by omega);have H:=aj (Ap (dv l i) n wr);obtain⟨_,x0,x1,x2⟩:=s6;have Yg:=aj (QK (ah yA) (ah hlo) (ah hhi) hl);have Hpl:=aj hpl;clear hpl;go_wp2_with fail;refine(ah H).mono ?_;rintro e w1 ⟨rfl,hb1⟩;clear x0 x1 x2;go_wp2_with fail;go_ret2;refine⟨oO ?_ ?_,aA hb hb1⟩
    ·rw[<-ah Hpl]
    ·rw[ah Yg];by_cases z:(dv l i).q=n
     ·rw[decide_eq_true z,(vY _ _).2 z];rfl
     ·have:¬ng (dv l i).q n=0:=λy=>z ((vY _ _).1 y)
      rw[decide_eq_false z];simp[this]
   ·have Hpl:=aj hpl;have Hs:=aj (UG (l:=l) (n:=n) (λk hk=>ah hlo k (by omega)));clear hpl;go_wp2_with fail;go_ret2;refine⟨oO ?_ ?_,hb⟩
    ·rw[<-ah Hpl]
    ·exact ah Hs
section
variable {w:World}{B b:Nat}{c:dM}{a:Option Addr}{ca:Nat}{v:Value}
theorem Nh (h:Cm w B b c a ca v)(ho:c.Ok)(hl:c.pe.length<=1000000)(n:Int) :
 Calls prog 37 #[.pointer (some ⟨b,0,none⟩),.int .i64 n] w λe w'=>e=.returned (.tuple #[.int .i64 (pdq c.pe n),.bool (qE c.pe n)])/\Below w.heap.size w w':=by
 obtain⟨s,cap,rfl,_,_,hsl⟩:=h.row.shape;have hc:=h.pe;have P:=aj (FU s cap c.pe n w hsl ho.rise hl);clear hsl h;go_enter func37,ntmps37;go_wp2_with fail;refine(ah P).mono ?_;rintro e w1 ⟨rfl,hb⟩;go_wp2_with fail;go_ret2;exact⟨rfl,hb⟩
end
theorem WH {a b:List Dv}{p:Dv}(h:(a++p::b).Pairwise λx y=>x.q<y.q):pdq (a++p::b) p.q=a.length:=by
 have h':=h;rw[List.pairwise_append,List.pairwise_cons] at h;obtain⟨_,⟨h2,_⟩,h3⟩:=h;refine(QJ (by simp) (λk hk=>?_) (λk hk hl=>?_)).symm
 ·rw[lQ (by simp;omega),List.getElem_append_left hk];exact h3 _ (List.getElem_mem _) p (by simp)
 ·rw[lQ hl,List.getElem_append_right hk];rcases Nat.eq_or_lt_of_le hk with z|z
  ·subst z;simp
  ·have:((p::b)[k-a.length]'(by simp at hl ⊢;omega))∈b:=by
    obtain⟨i,hi⟩:∃i,k-a.length=i+1:=⟨k-a.length-1,by omega⟩;simp only[hi,List.getElem_cons_succ];exact List.getElem_mem _
   have:=h2 _ this;omega
theorem Cm.due {w:World}{B b g cap:Nat}{c:dM}{a:Option Addr}{ca:Nat}{x y:List Dv}{p:Dv}(hc:c.pe=x++p::y)(h:Cm w B b c a ca (.slice (some ⟨g,0,none⟩) c.pe.length cap))(d:Int) :
 aQ w (w.setCell ⟨g,x.length*3+2,none⟩ (.int .i64 d)) B b a ca (.slice (some ⟨g,0,none⟩) c.pe.length cap) ⟨c.t,c.pl,x++⟨p.q,p.n,d⟩::y,c.cn⟩:=by
 have hgb:g≠b:=λe=>h.ne1 (by rw[e];rfl)
 have hst:=(World.ownsRow.stored h.row (x.length*3+2) (.int .i64 d)).1;have cg:aF (λk=>k=g) w (w.setCell ⟨g,x.length*3+2,none⟩ (.int .i64 d)):=aF.setCell (A:=λk=>k=g) (p:=⟨g,x.length*3+2,none⟩) (aF.refl _ _) (.inl rfl) _;have aac:(mZ c.pe).set (x.length*3+2) (.int .i64 d)=mZ (x++⟨p.q,p.n,d⟩::y):=by
  rw[hc,oh,oh,List.set_append_right _ _ (by rw[og];omega),og,show x.length*3+2-x.length*3=2 by omega];rfl
 rw[aac] at hst;have hlen:c.pe.length=(x++⟨p.q,p.n,d⟩::y).length:=by rw[hc];simp
 refine⟨.slice (some ⟨g,0,none⟩) c.pe.length cap,?_,cg.mono (λk _ q=>.inr (by rw[q];rfl)),λ_ q=>.inl q⟩;have ho:∀j,(w.setCell ⟨g,x.length*3+2,none⟩ (.int .i64 d)).cell? ⟨b,j,none⟩=w.cell? ⟨b,j,none⟩:=λj=>cg.cell (p:=⟨b,j,none⟩) h.tb.lt (λq=>hgb q.symm)
 refine⟨h.tb.same cg.size ho,by rw[ho];exact h.pl,by rw[ho];exact h.pe,by rw[ho];exact h.cn,?_,(λk hk=>by
  obtain⟨b',o,e1,e2,e3⟩:=h.bo k hk;exact⟨b',o,e1,Nat.lt_of_lt_of_le e2 cg.size,by rw[cg.cell (p:=⟨b',o+k,none⟩) e2 (λq=>(h.TS _ e1).2 (by rw[<-q];rfl))];exact e3⟩),λi=>by rw[World.frozen?_setCell];exact h.fr i,h.bB,h.ne1,h.TS,λz hz=>⟨(h.al z hz).1,Nat.lt_of_lt_of_le (h.al z hz).2 cg.size⟩⟩
 unfold fK;show World.ownsRow _ B _ 3 _ (x++⟨p.q,p.n,d⟩::y).length _;rw[<-hlen];exact hst
section
variable {w:World}{B b:Nat}{c:dM}{a:Option Addr}{ca:Nat}{v:Value}
theorem Cm.gone (h:Cm w B b c a ca v){w':World}{v':Value}{l':List Dv}(hA:bV w' B v' l')(hC:aF (λk=>v.ownBlock=some k) w w')(hG:∀g,v'.ownBlock=some g->v.ownBlock=some g\/w.heap.size<=g):aQ w (w'.setCell ⟨b,11,none⟩ v') B b a ca v ⟨c.t,c.pl,l',c.cn⟩ :=
 aQ.put h hC (.inr (.inr ⟨rfl,rfl,rfl,rfl⟩)) hA.Ue hG
theorem Ip (h:Cm w B b c a ca v)(ho:c.Ok)(hw:iY c.t)(JG:c.t.bo.length<=140737488355328)(hl:c.pe.length<=1000000)(now q so n:Int) :
 Calls prog 10 #[.pointer (some ⟨b,0,none⟩),.int .i64 now,.int .i64 q,.agg #[.int .i64 so,.int .i64 n]] w λe w'=>e=.returned (.int .i64 (iV c now q so n).2)/\aQ w w' B b a ca v (iV c now q so n).1:=by
 have b0:Below w.heap.size w (w.alloc (PZ so n)):=(Below.refl _ _).alloc (Nat.le_refl _) _;have x0:(w.alloc (PZ so n)).cell? ⟨w.heap.size,0,none⟩=some (.int .i64 so):=by simp
 have x1:(w.alloc (PZ so n)).cell? ⟨w.heap.size,1,none⟩=some (.int .i64 n):=by simp
 obtain⟨w0,hw0⟩:∃w0,w0=w.alloc (PZ so n):=⟨_,rfl⟩;rw[<-hw0] at x0 x1 b0;have oD:w.heap.size<w0.heap.size:=by rw[hw0];simp
 have h0:=h.next b0;have HT:=aj (xY now w0);have HA:=aj (CG so n w0);have HS:=aj (λw' (hb:Below w.heap.size w w')=>aQ.same h hb);have HB:=aj b0
 cases ht:kN now with
 | false =>
  have HE:Hid (iV c now q so n=(c,1)):=aj (by unfold iV;rw[if_pos (.inl ht)]);rw[ah HE];rw[ht] at HT;clear h h0 ho hw b0 ht;go_enter func10,ntmps10;go_wp2_with fail;rw[<-hw0];clear hw0;refine(ah HT).mono ?_;rintro e w1 ⟨rfl,hw⟩;rw[hw];clear hw;go_wp2_with fail;go_ret;exact⟨rfl,ah HS _ (ah HB)⟩
 | true =>
  rw[ht] at HT;have HA2:Hid (∀w1,w1=w0->Calls prog 36 #[.agg #[.int .i64 so,.int .i64 n]] w1 λe w'=>e=.returned (.bool (qC so n))/\Below w0.heap.size w0 w'):=aj (λw1 e=>by rw[e];exact ah HA)
  cases hab:qC so n with
  | false =>
   have HE:Hid (iV c now q so n=(c,1)):=aj (by unfold iV;rw[if_pos (.inr hab)]);rw[ah HE];rw[hab] at HA2;clear h h0 ho hw b0 ht hab HA;go_enter func10,ntmps10;go_wp2_with fail;rw[<-hw0];clear hw0;refine(ah HT).mono ?_;rintro e w1 ⟨rfl,hw⟩;rw[hw];clear hw;go_wp2_with fail;refine(ah HA2 _ rfl).mono ?_;rintro e w1 ⟨rfl,b1⟩;have B1:=aj b1;clear b1;go_wp2_with fail;go_ret;exact⟨rfl,ah HS _ (aA (ah HB) (ah B1))⟩
  | true =>
   rw[hab] at HA2;have HN:Hid (iV c now q so n=if qE c.pe q=false then (c,4) else if so=1 then (⟨c.t,c.pl,c.pe.filter λp=>if c.t.ack=1 then decide (q<p.q) else decide (p.q≠q),c.cn⟩,0) else if so=2 then (⟨c.t,c.pl,oV c.pe q λ_=>now+n,c.cn⟩,0) else if so=3 then (⟨c.t,c.pl,oV c.pe q λp=>now+Tk.dV c.t p.n,c.cn⟩,0) else (⟨c.t,c.pl,c.pe.filter λp=>decide (p.q≠q),c.cn⟩,0)):=aj (by unfold iV;rw[if_neg (by simp[ht,hab])]);have PF:Hid (∀w1,Below w0.heap.size w0 w1->Calls prog 37 #[.pointer (some ⟨b,0,none⟩),.int .i64 q] w1 λe w'=>e=.returned (.tuple #[.int .i64 (pdq c.pe q),.bool (qE c.pe q)])/\Below w1.heap.size w1 w'):=aj (λw1 hb=>Nh (h0.next hb) ho hl q)
   cases hhd:qE c.pe q with
   | false =>
    rw[hhd,if_pos rfl] at HN;rw[ah HN];rw[hhd] at PF;clear h h0 ho hw b0 ht hab HA hhd HN;go_enter func10,ntmps10;go_wp2_with fail;rw[<-hw0];clear hw0;refine(ah HT).mono ?_;rintro e w1 ⟨rfl,hw⟩;rw[hw];clear hw;go_wp2_with fail;refine(ah HA2 _ rfl).mono ?_;rintro e w1 ⟨rfl,b1⟩;have zZ:=aj (ah PF _ b1);have B1:=aj (aA (ah HB) b1);clear b1 PF;go_wp2_with fail;refine(ah zZ).mono ?_;rintro e w2 ⟨rfl,b2⟩;have B2:=aj (aA (ah B1) b2);clear b2 zZ;go_wp2_with fail;go_ret;exact⟨rfl,ah HS _ (ah B2)⟩
   | true =>
    obtain⟨xs,p,ys,hc0,hpq⟩:=TN hhd;subst hpq;have hrise:=ho.rise;rw[hc0] at hrise;have hpd:pdq c.pe p.q=xs.length:=by rw[hc0];exact WH hrise
    have hpl0:0<c.pe.length:=by rw[hc0];simp;omega
    obtain⟨g,cap,rfl,z1,z2,z3,z4⟩:=(fK.tri h.row).there hpl0;have hhas:=hhd;rw[hhd,if_neg (by simp)] at HN;rw[hpd,hhd] at PF;have JW:=aj hc0;have Yw:=aj hrise;have HLN:=aj hl;have H0:=aj h0;have hxl:xs.length+1<=c.pe.length:=by rw[hc0];simp
    have htm:=tY.1 ht;have han:so=1/\n=0\/so=2/\0<=n/\n<=100000\/so=3/\n=0\/so=4/\n=0:=by
     unfold qC at hab;by_cases q2:so=2
     ·rw[if_pos q2,Bool.and_eq_true,decide_eq_true_eq,decide_eq_true_eq] at hab;exact .inr (.inl ⟨q2,hab⟩)
     ·rw[if_neg q2,Bool.and_eq_true,Bool.or_eq_true,Bool.or_eq_true,decide_eq_true_eq,decide_eq_true_eq,decide_eq_true_eq,decide_eq_true_eq] at hab;omega
    have hgb:g≠b:=λe=>h.ne1 (by rw[e];rfl)
    have HWT:=aj hw;have HBO:=aj JG;unfold maxLen at z2;clear hc0 hpd hhd hhas hrise hab HA hl h h0 ho b0 HS ht hw JG;rcases han with ⟨rfl,rfl⟩|⟨rfl,hn1,hn2⟩|⟨rfl,rfl⟩|⟨rfl,rfl⟩
    ·by_cases hak:c.t.ack=1
     ·have HE:Hid (iV c now p.q 1 0=(⟨c.t,c.pl,ys,c.cn⟩,0)):=aj (by
       rw[ah HN,if_pos rfl];simp only[hak,if_true];rw[ah JW,TP (ah Yw)])
      rw[ah HE];go_enter func10,ntmps10;go_wp2_with fail;rw[<-hw0];clear hw0;refine(ah HT).mono ?_;rintro e w1 ⟨rfl,hw⟩;rw[hw];clear hw;go_wp2_with fail;refine(ah HA2 _ rfl).mono ?_;rintro e w1 ⟨rfl,b1⟩;have zZ:=aj (ah PF _ b1);have B1:=aj b1;clear b1 PF;go_wp2_with fail;refine(ah zZ).mono ?_;rintro e w2 ⟨rfl,b2⟩;have B2:=aj (aA (ah B1) b2);have y0:=((ah B2).cell (p:=⟨w.heap.size,0,none⟩) oD).trans x0;have y1:=((ah B2).cell (p:=⟨w.heap.size,1,none⟩) oD).trans x1;have K2:=aj ((ah H0).next ((ah B2).drew));have BW:=aj (aA (ah HB) ((ah B2).drew))
      have d4:=(ah K2).tb.c4;have d11:=(ah K2).pe;have f11:=(ah K2).fr 11;have hbl:=(ah K2).tb.lt;have hlt2:w.heap.size<w2.heap.size:=Nat.lt_of_lt_of_le oD (ah B2).size;clear b2 zZ B1;go_wp2_with fail;go_region
      rw[hak] at d4;have HD:Hid (Calls prog 38 #[.slice (some ⟨g,0,none⟩) c.pe.length cap,.int .i64 0,.int .i64 ((xs.length:Int)+1)] w2.drew λe w'=>∃v',e=.returned v'/\bV w' B v' (ys)/\aF (λk=>(Value.slice (some ⟨g,0,none⟩) c.pe.length cap).ownBlock=some k) w2.drew w'/\∀g',v'.ownBlock=some g'->(Value.slice (some ⟨g,0,none⟩) c.pe.length cap).ownBlock=some g'\/w2.drew.heap.size<=g'):=aj (kR B _ [] (xs++[p]) ys _ (by have:=fK.tri (ah K2).row;rw[ah JW] at this ⊢;simpa using this) (by have:=ah HLN;rw[ah JW] at this;simpa using this) (by simp) (xs.length+1) (by simp))
      go_wp2_with (go_at_call 38;refine(ah HD).mono ?_;rintro e w3 ⟨v',rfl,hA,hC,hG⟩;have HU:=aj ((ah K2).gone hA hC hG);have z0:=(hC.cell (p:=⟨b,11,none⟩) hbl (ah K2).ne1).trans d11;have z1:=(hC.frozen (p:=⟨b,11,none⟩) hbl (ah K2).ne1).trans f11;obtain⟨a',cap',rfl,z9⟩:=bV.shape hA;clear z9 hA hC hG);go_ret;exact⟨rfl,aQ.trans (aF.of_below (ah BW)) (λ_ q=>.inl q) (ah HU)⟩
     ·have HE:Hid (iV c now p.q 1 0=(⟨c.t,c.pl,xs++ys,c.cn⟩,0)):=aj (by
       rw[ah HN,if_pos rfl];simp only[hak,if_false];rw[ah JW,JB (ah Yw)])
      rw[ah HE];have gk:(c.t.ack==1)=false:=by rw[beq_eq_false_iff_ne];exact hak
      go_enter func10,ntmps10;go_wp2_with fail;rw[<-hw0];clear hw0;refine(ah HT).mono ?_;rintro e w1 ⟨rfl,hw⟩;rw[hw];clear hw;go_wp2_with fail;refine(ah HA2 _ rfl).mono ?_;rintro e w1 ⟨rfl,b1⟩;have zZ:=aj (ah PF _ b1);have B1:=aj b1;clear b1 PF;go_wp2_with fail;refine(ah zZ).mono ?_;rintro e w2 ⟨rfl,b2⟩;have B2:=aj (aA (ah B1) b2);have y0:=((ah B2).cell (p:=⟨w.heap.size,0,none⟩) oD).trans x0;have y1:=((ah B2).cell (p:=⟨w.heap.size,1,none⟩) oD).trans x1;have K2:=aj ((ah H0).next ((ah B2).drew));have BW:=aj (aA (ah HB) ((ah B2).drew))
      have d4:=(ah K2).tb.c4;have d11:=(ah K2).pe;have f11:=(ah K2).fr 11;have hbl:=(ah K2).tb.lt;have hlt2:w.heap.size<w2.heap.size:=Nat.lt_of_lt_of_le oD (ah B2).size;clear b2 zZ B1;go_wp2_with fail;go_region
      have HD:Hid (Calls prog 38 #[.slice (some ⟨g,0,none⟩) c.pe.length cap,.int .i64 xs.length,.int .i64 ((xs.length:Int)+1)] w2.drew λe w'=>∃v',e=.returned v'/\bV w' B v' (xs++ys)/\aF (λk=>(Value.slice (some ⟨g,0,none⟩) c.pe.length cap).ownBlock=some k) w2.drew w'/\∀g',v'.ownBlock=some g'->(Value.slice (some ⟨g,0,none⟩) c.pe.length cap).ownBlock=some g'\/w2.drew.heap.size<=g'):=aj (kR B _ xs [p] ys _ (by have:=fK.tri (ah K2).row;rw[ah JW] at this ⊢;simpa using this) (by have:=ah HLN;rw[ah JW] at this;simpa using this) (by simp) (xs.length+1) (by simp));go_wp2_with (go_at_call 38;refine(ah HD).mono ?_;rintro e w3 ⟨v',rfl,hA,hC,hG⟩;have HU:=aj ((ah K2).gone hA hC hG);have z0:=(hC.cell (p:=⟨b,11,none⟩) hbl (ah K2).ne1).trans d11;have z1:=(hC.frozen (p:=⟨b,11,none⟩) hbl (ah K2).ne1).trans f11;obtain⟨a',cap',rfl,z9⟩:=bV.shape hA;rw[List.length_append] at HU;clear z9 hA hC hG)
      go_ret;exact⟨rfl,aQ.trans (aF.of_below (ah BW)) (λ_ q=>.inl q) (ah HU)⟩
    ·have HE:Hid (iV c now p.q 2 n=(⟨c.t,c.pl,xs++⟨p.q,p.n,now+n⟩::ys,c.cn⟩,0)):=aj (by
      rw[ah HN,if_neg (by decide),if_pos rfl];rw[ah JW,JD (ah Yw)])
     rw[ah HE];go_enter func10,ntmps10;go_wp2_with fail;rw[<-hw0];clear hw0;refine(ah HT).mono ?_;rintro e w1 ⟨rfl,hw⟩;rw[hw];clear hw;go_wp2_with fail;refine(ah HA2 _ rfl).mono ?_;rintro e w1 ⟨rfl,b1⟩;have zZ:=aj (ah PF _ b1);have B1:=aj b1;clear b1 PF;go_wp2_with fail;refine(ah zZ).mono ?_;rintro e w2 ⟨rfl,b2⟩;have B2:=aj (aA (ah B1) b2);have y0:=((ah B2).cell (p:=⟨w.heap.size,0,none⟩) oD).trans x0;have y1:=((ah B2).cell (p:=⟨w.heap.size,1,none⟩) oD).trans x1;have K2:=aj ((ah H0).next ((ah B2).drew));have BW:=aj (aA (ah HB) ((ah B2).drew))
     have d4:=(ah K2).tb.c4;have d11:=(ah K2).pe;have f11:=(ah K2).fr 11;have hbl:=(ah K2).tb.lt;have hlt2:w.heap.size<w2.heap.size:=Nat.lt_of_lt_of_le oD (ah B2).size;clear b2 zZ B1;go_wp2_with fail;go_region
     have hat:=(ah K2).row;have et:=(bV.at (fK.tri hat) (k:=xs.length) (by omega)).c2;have ef:=(bH.free (fK.tri hat)).1 (xs.length*3+2);have HU:=aj ((ah K2).due (ah JW) (now+n));clear hat;go_wp2_with fail;go_ret;exact⟨rfl,aQ.trans (aF.of_below (ah BW)) (λ_ q=>.inl q) (ah HU)⟩
    ·have HE:Hid (iV c now p.q 3 0=(⟨c.t,c.pl,xs++⟨p.q,p.n,now+Tk.dV c.t p.n⟩::ys,c.cn⟩,0)):=aj (by
      rw[ah HN,if_neg (by decide),if_neg (by decide),if_pos rfl];rw[ah JW,JD (ah Yw)])
     rw[ah HE];go_enter func10,ntmps10;go_wp2_with fail;rw[<-hw0];clear hw0;refine(ah HT).mono ?_;rintro e w1 ⟨rfl,hw⟩;rw[hw];clear hw;go_wp2_with fail;refine(ah HA2 _ rfl).mono ?_;rintro e w1 ⟨rfl,b1⟩;have zZ:=aj (ah PF _ b1);have B1:=aj b1;clear b1 PF;go_wp2_with fail;refine(ah zZ).mono ?_;rintro e w2 ⟨rfl,b2⟩;have B2:=aj (aA (ah B1) b2);have y0:=((ah B2).cell (p:=⟨w.heap.size,0,none⟩) oD).trans x0;have y1:=((ah B2).cell (p:=⟨w.heap.size,1,none⟩) oD).trans x1;have K2:=aj ((ah H0).next ((ah B2).drew));have BW:=aj (aA (ah HB) ((ah B2).drew))
     have d4:=(ah K2).tb.c4;have d11:=(ah K2).pe;have f11:=(ah K2).fr 11;have hbl:=(ah K2).tb.lt;have hlt2:w.heap.size<w2.heap.size:=Nat.lt_of_lt_of_le oD (ah B2).size;clear b2 zZ B1;go_wp2_with fail;go_region
     have hat:=(ah K2).row;have hlx:xs.length<c.pe.length:=by omega
     have hpx:c.pe[xs.length]=p:=by
      have:=ah JW;simp only[this];rw[List.getElem_append_right (Nat.le_refl _)];simp
     have et1:=(bV.at (fK.tri hat) (k:=xs.length) hlx).c1;rw[hpx] at et1;have PD:=aj (tZ (ah K2) (ah HWT) (ah HBO) p.n now htm);clear hat hpx;go_wp2_with fail;refine(ah PD).mono ?_;rintro e w3 ⟨rfl,b3⟩;have K3:=aj ((ah K2).next b3);have B3:=aj (aA (ah BW) b3);have WI:=(ah K3).row;have e11:=(ah K3).pe;have et:=(bV.at (fK.tri WI) (k:=xs.length) hlx).c2;have ef:=(bH.free (fK.tri WI)).1 (xs.length*3+2);have HU:=aj ((ah K3).due (ah JW) (now+Tk.dV c.t p.n));clear WI b3;go_wp2_with fail;go_ret;exact⟨rfl,aQ.trans (aF.of_below (ah B3)) (λ_ q=>.inl q) (ah HU)⟩
    ·have HE:Hid (iV c now p.q 4 0=(⟨c.t,c.pl,xs++ys,c.cn⟩,0)):=aj (by
      rw[ah HN,if_neg (by decide),if_neg (by decide),if_neg (by decide)];rw[ah JW,JB (ah Yw)])
     rw[ah HE];go_enter func10,ntmps10;go_wp2_with fail;rw[<-hw0];clear hw0;refine(ah HT).mono ?_;rintro e w1 ⟨rfl,hw⟩;rw[hw];clear hw;go_wp2_with fail;refine(ah HA2 _ rfl).mono ?_;rintro e w1 ⟨rfl,b1⟩;have zZ:=aj (ah PF _ b1);have B1:=aj b1;clear b1 PF;go_wp2_with fail;refine(ah zZ).mono ?_;rintro e w2 ⟨rfl,b2⟩;have B2:=aj (aA (ah B1) b2);have y0:=((ah B2).cell (p:=⟨w.heap.size,0,none⟩) oD).trans x0;have y1:=((ah B2).cell (p:=⟨w.heap.size,1,none⟩) oD).trans x1;have K2:=aj ((ah H0).next ((ah B2).drew));have BW:=aj (aA (ah HB) ((ah B2).drew))
     have d4:=(ah K2).tb.c4;have d11:=(ah K2).pe;have f11:=(ah K2).fr 11;have hbl:=(ah K2).tb.lt;have hlt2:w.heap.size<w2.heap.size:=Nat.lt_of_lt_of_le oD (ah B2).size;clear b2 zZ B1;go_wp2_with fail;go_region
     have HD:Hid (Calls prog 38 #[.slice (some ⟨g,0,none⟩) c.pe.length cap,.int .i64 xs.length,.int .i64 ((xs.length:Int)+1)] w2.drew λe w'=>∃v',e=.returned v'/\bV w' B v' (xs++ys)/\aF (λk=>(Value.slice (some ⟨g,0,none⟩) c.pe.length cap).ownBlock=some k) w2.drew w'/\∀g',v'.ownBlock=some g'->(Value.slice (some ⟨g,0,none⟩) c.pe.length cap).ownBlock=some g'\/w2.drew.heap.size<=g'):=aj (kR B _ xs [p] ys _ (by have:=fK.tri (ah K2).row;rw[ah JW] at this ⊢;simpa using this) (by have:=ah HLN;rw[ah JW] at this;simpa using this) (by simp) (xs.length+1) (by simp));go_wp2_with (go_at_call 38;refine(ah HD).mono ?_;rintro e w3 ⟨v',rfl,hA,hC,hG⟩;have HU:=aj ((ah K2).gone hA hC hG);have z0:=(hC.cell (p:=⟨b,11,none⟩) hbl (ah K2).ne1).trans d11;have z1:=(hC.frozen (p:=⟨b,11,none⟩) hbl (ah K2).ne1).trans f11;obtain⟨a',cap',rfl,z9⟩:=bV.shape hA;rw[List.length_append] at HU;clear z9 hA hC hG)
     go_ret;exact⟨rfl,aQ.trans (aF.of_below (ah BW)) (λ_ q=>.inl q) (ah HU)⟩
end
