/- A part. -/
import Derived.Test.YtebofkkfbkodiaaGreatDoorQ21
import Derived.Test.YtebofkkfbkodiaaGreatDoorQ34
set_option maxRecDepth 100000
set_option maxHeartbeats 8000000
namespace Go.Proofs.YtebofkkfbkodiaaGreatDoor
open Go.RowKit Go.Proofs.Tryz
namespace Dk
variable {l:List Dv}{i:Nat}{n:Int}{w':I}{p:Dv}
def pdq (l:List Dv)(n:Int):Nat:=l.findIdx (λp=>decide (n<=p.q))
theorem MJ (h:l.Pairwise λa b=>a.q<b.q){j:Nat}(hij:i<j)(hj:j<l.length):(dv l i).q<(dv l j).q:=by
 rw[wO hj,wO (show i<l.length by omega)];exact ale.1 h i j (by omega) hj hij
theorem acC (hi:i<=l.length)(hlo:∀k,k<i->(dv l k).q<n)(hhi:∀k,i<=k->k<l.length->n<=(dv l k).q):i=pdq l n:=by
 unfold pdq;rcases akX hi with q|q
 ·rw[q];refine(List.findIdx_eq_length.2 (λx hx=>?_)).symm;obtain⟨k,hk,rfl⟩:=akq.1 hx;have:=hlo k (by omega);rw[wO hk] at this;simp only[akr];omega
 ·refine((List.findIdx_eq q).2 ⟨?_,λj hj=>?_⟩).symm
  ·have:=hhi i (agH _) q;rw[wO q] at this;simpa using this
  ·have:=hlo j hj;rw[wO (show j<l.length by omega)] at this;simp only[akr];omega
theorem acD (h:l.Pairwise λa b=>a.q<b.q)(hlo:∀k,k<i->(dv l k).q<n)(hhi:∀k,i<=k->k<l.length->n<=(dv l k).q)(hi:i<l.length):zH l n=decide ((dv l i).q=n):=by
 unfold zH;by_cases q:(dv l i).q=n
 ·rw[ajH q,akN];exact⟨dv l i,by rw[wO hi];exact ako _,by simpa using q⟩
 ·rw[ajE q,List.any_eq_false];intro x hx;obtain⟨k,hk,rfl⟩:=akq.1 hx;rw[<-wO hk];simp only[ajG];rcases Nat.lt_trichotomy k i with z|z|z
  ·have:=hlo k z;omega
  ·rw[z];exact q
  ·have:=MJ h z hk;have:=hhi i (agH _) hi;omega
theorem aff (hlo:∀k,k<l.length->(dv l k).q<n):zH l n=false:=by
 unfold zH;rw[List.any_eq_false];intro x hx;obtain⟨k,hk,rfl⟩:=akq.1 hx;rw[<-wO hk];have:=hlo k hk;simp only[ajG];omega
theorem JL (r:Dv)(n:Int)(w:I) :
 Calls prog 116 #[dvV r,aa n] w λe w'=>e=.returned (aa (sU r.q n))/\ai w w':=by
 go_enter func116,ntmps116;go_wp2_with fail;refine(QG _ n _).mono ?_;rintro e w1 ⟨rfl,rfl⟩;go_wp2_with fail;go_ret;exact⟨rfl,ax _ _⟩
theorem SlD.below {w:I}{a:Option Addr}(h:SlD w a l)(hb:ai w w'):SlD w' a l:=λk hk=>by
 obtain⟨b,e,t⟩:=h k hk;exact⟨b,e,ajz t.lt hb.size,by rw[hb.cell (p:=aq b (k*3)) t.lt];exact t.c0,by rw[hb.cell (p:=aq b (k*3+1)) t.lt];exact t.c1,by rw[hb.cell (p:=aq b (k*3+2)) t.lt];exact t.c2⟩
theorem QN (a:Option Addr)(cap:Nat)(l:List Dv)(n:Int)(w:I)(hsl:SlD w a l)(hord:l.Pairwise λa b=>a.q<b.q)(iE:l.length<=1000000) :
 Calls prog 115 #[.slice a l.length cap,aa n,.func (.func 116) #[] #[]] w λe w'=>e=.returned (.tuple #[aa (pdq l n),.bool (zH l n)])/\ai w w':=by
 have Fv:=aj hord;clear hord;go_enter func115,ntmps115;go_wp2;go_loopw [9,10] (λiv jv wr=>∃(i j:Nat),iv=aa i/\jv=aa j/\i<=j/\j<=l.length/\Hid (∀k,k<i->(dv l k).q<n)/\Hid (∀k,j<=k->k<l.length->n<=(dv l k).q)/\Hid (SlD wr a l)/\ai w wr) (λiv jv _=>(intOf jv).toNat-(intOf iv).toNat)
 case atStart=>exact⟨0,l.length,rfl,rfl,ajO _,agH _,aj (λk hk=>absurd hk (akh k)),aj (λk h1 h2=>by omega),aj hsl,agP _ _⟩
 case round =>
  obtain⟨i,j,rfl,rfl,hij,hj,hlo,hhi,hsl2,hb⟩:=hrel;by_cases hlt:i<j
  ·obtain⟨h,hh⟩:∃h:Nat,h=(i+j) / 2:=⟨_,rfl⟩;have hh1:i<=h/\h<j:=by omega
   obtain⟨g,rfl,s6⟩:=ah hsl2 h (by omega);have hmid:((i:Int)+(j:Int)) / 2=(h:Int):=by omega
   clear hh;have H:=aj (JL (dv l h) n wr);obtain⟨_,x0,x1,x2⟩:=s6;by_cases he:(dv l h).q<n
   ·have hz:sU (dv l h).q n<0:=(DZ _ _).2 he;have He:=aj he;clear he;go_wp2_with fail;refine(ah H).mono ?_;rintro e w1 ⟨rfl,hb1⟩;clear x0 x1 x2;go_wp2_with fail;refine⟨⟨h+1,j,by go_num,rfl,by omega,hj,aj (λk hk=>?_),hhi,aj ((ah hsl2).below hb1),ak hb hb1⟩,?_⟩
    ·rcases akI.1 hk with q|q
     ·have:=MJ (ah Fv) q (by omega);have:=ah He;omega
     ·rw[q];exact ah He
    ·simp[intOf];omega
   ·have hz:¬sU (dv l h).q n<0:=λz=>he ((DZ _ _).1 z)
    have He:=aj he;clear he;go_wp2_with fail;refine(ah H).mono ?_;rintro e w1 ⟨rfl,hb1⟩;clear x0 x1 x2;go_wp2_with fail;refine⟨⟨i,h,rfl,rfl,by omega,by omega,hlo,aj (λk hk hk2=>?_),aj ((ah hsl2).below hb1),ak hb hb1⟩,?_⟩
    ·have:=ah He;rcases akX hk with q|q
     ·rw[<-q];omega
     ·have:=MJ (ah Fv) q hk2;omega
    ·simp[intOf];omega
  ·obtain rfl:i=j:=by omega
   have hpl:=acC (n:=n) hj (ah hlo) (ah hhi);by_cases hl:i<l.length
   ·obtain⟨g,rfl,s6⟩:=ah hsl2 i (by omega);have H:=aj (JL (dv l i) n wr);obtain⟨_,x0,x1,x2⟩:=s6;have Hha:=aj (acD (ah Fv) (ah hlo) (ah hhi) hl);have Hpl:=aj hpl;clear hpl;go_wp2_with fail;refine(ah H).mono ?_;rintro e w1 ⟨rfl,hb1⟩;clear x0 x1 x2;go_wp2_with fail;go_ret2;refine⟨vT ?_ ?_,ak hb hb1⟩
    ·rw[<-ah Hpl]
    ·rw[ah Hha];by_cases z:(dv l i).q=n
     ·rw[ajH z,(D5 _ _).2 z];rfl
     ·have:¬sU (dv l i).q n=0:=λy=>z ((D5 _ _).1 y)
      rw[ajE z];simp[this]
   ·have Hpl:=aj hpl;have Hs:=aj (aff (l:=l) (n:=n) (λk hk=>ah hlo k (by omega)));clear hpl;go_wp2_with fail;go_ret2;refine⟨vT ?_ ?_,hb⟩
    ·rw[<-ah Hpl]
    ·exact ah Hs
section
variable {w:I}{B b:Nat}{c:bM}{a:Option Addr}{ca:Nat}{v:Value}
theorem JM (h:Cm w B b c a ca v)(ho:c.Ok)(hl:c.pe.length<=1000000)(n:Int) :
 Calls prog 71 #[ae b,aa n] w λe w'=>e=.returned (.tuple #[aa (pdq c.pe n),.bool (zH c.pe n)])/\ai w w':=by
 obtain⟨s,cap,rfl,_,_,hsl⟩:=h.row.shape;have hc:=h.pe;have P:=aj (QN s cap c.pe n w hsl ho.rise hl);clear hsl h;go_enter func71,ntmps71;go_wp2_with fail;refine(ah P).mono ?_;rintro e w1 ⟨rfl,hb⟩;go_wp2_with fail;go_ret2;exact⟨rfl,hb⟩
theorem acE (h:Cm w B b c a ca v)(ho:c.Ok)(hl:c.pe.length<=1000000)(n:Int) :
 Calls prog 142 #[ae b,aa n] w λe w'=>e=.returned (.bool (um c n))/\ai w w':=by
 have P:=aj (JM h ho hl n);have H:=aj h;have hdb:um c n=(decide (n<c.pl)&&!zH c.pe n):=rfl;have HV:=aj hdb;clear h hdb;by_cases hq:n<c.pl
 ·have g0:decide (n<c.pl)=true:=ajH hq;go_enter func142,ntmps142;go_wp2_with fail;refine(ah P).mono ?_;rintro e w1 ⟨rfl,hb⟩;have h1:=(ah H).next hb;have c10:=h1.pl;have hbl:=h1.tb.lt;clear h1;go_wp2_with fail;go_ret;rw[ah HV,g0,akz];exact⟨rfl,hb⟩
 ·have g0:decide (n<c.pl)=false:=ajE hq;go_enter func142,ntmps142;go_wp2_with fail;refine(ah P).mono ?_;rintro e w1 ⟨rfl,hb⟩;have h1:=(ah H).next hb;have c10:=h1.pl;have hbl:=h1.tb.lt;clear h1;go_wp2_with fail;go_ret;rw[ah HV,g0,akH];exact⟨rfl,hb⟩
end
theorem agu {a b:List Dv}(h:(a++p::b).Pairwise λx y=>x.q<y.q):pdq (a++p::b) p.q=a.length:=by
 have h':=h;rw[akO,akL] at h;obtain⟨_,⟨h2,_⟩,h3⟩:=h;refine(acC (by simp) (λk hk=>?_) (λk hk hl=>?_)).symm
 ·rw[wO (by simp;omega),List.getElem_append_left hk];exact h3 _ (ako _) p (by simp)
 ·rw[wO hl,List.getElem_append_right hk];rcases akX hk with z|z
  ·subst z;simp
  ·have:((p::b)[k-a.length]'(by simp at hl ⊢;omega))∈b:=by
    obtain⟨i,hi⟩:∃i,k-a.length=i+1:=⟨k-a.length-1,by omega⟩;simp only[hi,List.getElem_cons_succ];exact ako _
   have:=h2 _ this;omega
theorem Cm.due {w:I}{B b g cap:Nat}{c:bM}{a:Option Addr}{ca:Nat}{x y:List Dv}(hc:c.pe=x++p::y)(h:Cm w B b c a ca (.slice (some ⟨g,0,none⟩) c.pe.length cap))(d:Int) :
 bF w (w.setCell (aq g (x.length*3+2)) (aa d)) B b a ca (.slice (some ⟨g,0,none⟩) c.pe.length cap) ⟨c.t,c.pl,x++⟨p.q,p.n,d⟩::y,c.cn⟩:=by
 have hgb:g≠b:=λe=>h.ne1 (by rw[e];rfl)
 have hst:=(alV h.row (x.length*3+2) (aa d)).1;have cg:aA (λk=>k=g) w (w.setCell (aq g (x.length*3+2)) (aa d)):=aA.setCell (A:=λk=>k=g) (p:=aq g (x.length*3+2)) (aA.refl _ _) (.inl rfl) _;have aiB:(xO c.pe).set (x.length*3+2) (aa d)=xO (x++⟨p.q,p.n,d⟩::y):=by
  rw[hc,uD,uD,List.set_append_right _ _ (by rw[uz];omega),uz,show x.length*3+2-x.length*3=2 by omega];rfl
 rw[aiB] at hst;have hlen:c.pe.length=(x++⟨p.q,p.n,d⟩::y).length:=by rw[hc];simp
 refine⟨.slice (some ⟨g,0,none⟩) c.pe.length cap,?_,cg.mono (λk _ q=>.inr (by rw[q];rfl)),λ_ q=>.inl q⟩;have ho:∀j,(w.setCell (aq g (x.length*3+2)) (aa d)).cell? (aq b j)=w.cell? (aq b j):=λj=>cg.cell (p:=aq b j) h.tb.lt (λq=>hgb q.symm)
 refine⟨h.tb.same cg.size ho,by rw[ho];exact h.pl,by rw[ho];exact h.pe,by rw[ho];exact h.cn,?_,(λk hk=>by
  obtain⟨b',o,e1,e2,e3⟩:=h.bo k hk;exact⟨b',o,e1,ajz e2 cg.size,by rw[cg.cell (p:=aq b' (o+k)) e2 (λq=>(h.ne2 _ e1).2 (by rw[<-q];rfl))];exact e3⟩),λi=>by rw[ajV];exact h.fr i,h.bB,h.ne1,h.ne2,λz hz=>⟨(h.al z hz).1,ajz (h.al z hz).2 cg.size⟩⟩
 unfold jc;show World.ownsRow _ B _ 3 _ (x++⟨p.q,p.n,d⟩::y).length _;rw[<-hlen];exact hst
section
variable {w:I}{B b:Nat}{c:bM}{a:Option Addr}{ca:Nat}{v:Value}
theorem Cm.gone (h:Cm w B b c a ca v){v':Value}{l':List Dv}(hA:fC w' B v' l')(hC:aA (λk=>v.ownBlock=some k) w w')(hG:∀g,v'.ownBlock=some g->v.ownBlock=some g\/w.heap.size<=g):bF w (w'.setCell (aq b 11) v') B b a ca v ⟨c.t,c.pl,l',c.cn⟩ :=
 bF.put h hC (.inr (.inr ⟨rfl,rfl,rfl,rfl⟩)) hA.aeX hG
theorem UG (h:Cm w B b c a ca v)(ho:c.Ok)(hw:lX c.t)(Pv:c.t.bo.length<=140737488355328)(hl:c.pe.length<=1000000)(now q so n:Int) :
 Calls prog 35 #[ae b,aa now,aa q,.agg #[aa so,aa n]] w λe w'=>e=.returned (aa (iT c now q so n).2)/\bF w w' B b a ca v (iT c now q so n).1:=by
 have b0:ai w (w.alloc (abE so n)):=ax _ _;have x0:(w.alloc (abE so n)).cell? (aq w.heap.size 0)=some (aa so):=by simp
 have x1:(w.alloc (abE so n)).cell? (aq w.heap.size 1)=some (aa n):=by simp
 obtain⟨w0,hw0⟩:∃w0,w0=w.alloc (abE so n):=⟨_,rfl⟩;rw[<-hw0] at x0 x1 b0;have oD:w.heap.size<w0.heap.size:=by rw[hw0];simp
 have h0:=h.next b0;have HT:=aj (FH now w0);have HA:=aj (LX so n w0);have HS:=aj (λw' (hb:ai w w')=>bF.same h hb);have HB:=aj b0
 cases ht:pR now with
 | false =>
  have HE:Hid (iT c now q so n=(c,1)):=aj (by unfold iT;rw[if_pos (.inl ht)]);rw[ah HE];rw[ht] at HT;clear h h0 ho hw b0 ht;go_enter func35,ntmps35;go_wp2_with fail;rw[<-hw0];clear hw0;refine(ah HT).mono ?_;rintro e w1 ⟨rfl,hw⟩;rw[hw];clear hw;go_wp2_with fail;go_ret;exact⟨rfl,ah HS _ (ah HB)⟩
 | true =>
  rw[ht] at HT;have HA2:Hid (∀w1,w1=w0->Calls prog 70 #[.agg #[aa so,aa n]] w1 λe w'=>e=.returned (.bool (xM so n))/\ai w0 w'):=aj (λw1 e=>by rw[e];exact ah HA)
  cases hab:xM so n with
  | false =>
   have HE:Hid (iT c now q so n=(c,1)):=aj (by unfold iT;rw[if_pos (.inr hab)]);rw[ah HE];rw[hab] at HA2;clear h h0 ho hw b0 ht hab HA;go_enter func35,ntmps35;go_wp2_with fail;rw[<-hw0];clear hw0;refine(ah HT).mono ?_;rintro e w1 ⟨rfl,hw⟩;rw[hw];clear hw;go_wp2_with fail;refine(ah HA2 _ rfl).mono ?_;rintro e w1 ⟨rfl,b1⟩;have B1:=aj b1;clear b1;go_wp2_with fail;go_ret;exact⟨rfl,ah HS _ (ak (ah HB) (ah B1))⟩
  | true =>
   rw[hab] at HA2;have HN:Hid (iT c now q so n=if zH c.pe q=false then (c,4) else if so=1 then (⟨c.t,c.pl,c.pe.filter λp=>if c.t.ack=1 then decide (q<p.q) else decide (p.q≠q),c.cn⟩,0) else if so=2 then (⟨c.t,c.pl,wB c.pe q λ_=>now+n,c.cn⟩,0) else if so=3 then (⟨c.t,c.pl,wB c.pe q λp=>now+Tk.fH c.t p.n,c.cn⟩,0) else (⟨c.t,c.pl,c.pe.filter λp=>decide (p.q≠q),c.cn⟩,0)):=aj (by unfold iT;rw[if_neg (by simp[ht,hab])]);have PF:Hid (∀w1,ai w0 w1->Calls prog 71 #[ae b,aa q] w1 λe w'=>e=.returned (.tuple #[aa (pdq c.pe q),.bool (zH c.pe q)])/\ai w1 w'):=aj (λw1 hb=>JM (h0.next hb) ho hl q)
   cases hhd:zH c.pe q with
   | false =>
    rw[hhd,if_pos rfl] at HN;rw[ah HN];rw[hhd] at PF;clear h h0 ho hw b0 ht hab HA hhd HN;go_enter func35,ntmps35;go_wp2_with fail;rw[<-hw0];clear hw0;refine(ah HT).mono ?_;rintro e w1 ⟨rfl,hw⟩;rw[hw];clear hw;go_wp2_with fail;refine(ah HA2 _ rfl).mono ?_;rintro e w1 ⟨rfl,b1⟩;have Jr:=aj (ah PF _ b1);have B1:=aj (ak (ah HB) b1);clear b1 PF;go_wp2_with fail;refine(ah Jr).mono ?_;rintro e w2 ⟨rfl,b2⟩;have B2:=aj (ak (ah B1) b2);clear b2 Jr;go_wp2_with fail;go_ret;exact⟨rfl,ah HS _ (ah B2)⟩
   | true =>
    obtain⟨xs,p,ys,hc0,hpq⟩:=aeH hhd;subst hpq;have hrise:=ho.rise;rw[hc0] at hrise;have hpd:pdq c.pe p.q=xs.length:=by rw[hc0];exact agu hrise
    have hpl0:0<c.pe.length:=by rw[hc0];simp;omega
    obtain⟨g,cap,rfl,z1,z2,z3,z4⟩:=(jc.tri h.row).there hpl0;have hhas:=hhd;rw[hhd,if_neg (by simp)] at HN;rw[hpd,hhd] at PF;have Ip:=aj hc0;have HRI:=aj hrise;have HLN:=aj hl;have H0:=aj h0;have hxl:xs.length+1<=c.pe.length:=by rw[hc0];simp
    have htm:=Bh.1 ht;have han:so=1/\n=0\/so=2/\0<=n/\n<=100000\/so=3/\n=0\/so=4/\n=0:=by
     unfold xM at hab;by_cases q2:so=2
     ·rw[if_pos q2,ajN,ajG,ajG] at hab;exact .inr (.inl ⟨q2,hab⟩)
     ·rw[if_neg q2,ajN,ali,ali,ajG,ajG,ajG,ajG] at hab;omega
    have hgb:g≠b:=λe=>h.ne1 (by rw[e];rfl)
    have HWT:=aj hw;have HBO:=aj Pv;unfold maxLen at z2;clear hc0 hpd hhd hhas hrise hab HA hl h h0 ho b0 HS ht hw Pv;rcases han with ⟨rfl,rfl⟩|⟨rfl,hn1,hn2⟩|⟨rfl,rfl⟩|⟨rfl,rfl⟩
    ·by_cases hak:c.t.ack=1
     ·have HE:Hid (iT c now p.q 1 0=(⟨c.t,c.pl,ys,c.cn⟩,0)):=aj (by
       rw[ah HN,if_pos rfl];simp only[hak,ami];rw[ah Ip,aeI (ah HRI)])
      rw[ah HE];go_enter func35,ntmps35;go_wp2_with fail;rw[<-hw0];clear hw0;refine(ah HT).mono ?_;rintro e w1 ⟨rfl,hw⟩;rw[hw];clear hw;go_wp2_with fail;refine(ah HA2 _ rfl).mono ?_;rintro e w1 ⟨rfl,b1⟩;have Jr:=aj (ah PF _ b1);have B1:=aj b1;clear b1 PF;go_wp2_with fail;refine(ah Jr).mono ?_;rintro e w2 ⟨rfl,b2⟩;have B2:=aj (ak (ah B1) b2);have y0:=((ah B2).cell (p:=aq w.heap.size 0) oD).trans x0;have y1:=((ah B2).cell (p:=aq w.heap.size 1) oD).trans x1;have K2:=aj ((ah H0).next ((ah B2).drew));have BW:=aj (ak (ah HB) ((ah B2).drew))
      have d4:=(ah K2).tb.c4;have d11:=(ah K2).pe;have f11:=(ah K2).fr 11;have hbl:=(ah K2).tb.lt;have hlt2:w.heap.size<w2.heap.size:=ajz oD (ah B2).size;clear b2 Jr B1;go_wp2_with fail;go_region
      rw[hak] at d4;have HD:Hid (Calls prog 72 #[.slice (some ⟨g,0,none⟩) c.pe.length cap,aa 0,aa ((xs.length:Int)+1)] w2.drew λe w'=>∃v',e=.returned v'/\fC w' B v' (ys)/\aA (λk=>(Value.slice (some ⟨g,0,none⟩) c.pe.length cap).ownBlock=some k) w2.drew w'/\∀g',v'.ownBlock=some g'->(Value.slice (some ⟨g,0,none⟩) c.pe.length cap).ownBlock=some g'\/w2.drew.heap.size<=g'):=aj (pV B _ [] (xs++[p]) ys _ (by have:=jc.tri (ah K2).row;rw[ah Ip] at this ⊢;simpa using this) (by have:=ah HLN;rw[ah Ip] at this;simpa using this) (by simp) (xs.length+1) (by simp))
      go_wp2_with (go_at_call 72;refine(ah HD).mono ?_;rintro e w3 ⟨v',rfl,hA,hC,hG⟩;have HU:=aj ((ah K2).gone hA hC hG);have z0:=(hC.cell (p:=aq b 11) hbl (ah K2).ne1).trans d11;have z1:=(hC.frozen (p:=aq b 11) hbl (ah K2).ne1).trans f11;obtain⟨a',cap',rfl,z9⟩:=fC.shape hA;clear z9 hA hC hG);go_ret;exact⟨rfl,bF.trans (aA.of_below (ah BW)) (λ_ q=>.inl q) (ah HU)⟩
     ·have HE:Hid (iT c now p.q 1 0=(⟨c.t,c.pl,xs++ys,c.cn⟩,0)):=aj (by
       rw[ah HN,if_pos rfl];simp only[hak,if_false];rw[ah Ip,Wj (ah HRI)])
      rw[ah HE];have gk:(c.t.ack==1)=false:=by rw[ajM];exact hak
      go_enter func35,ntmps35;go_wp2_with fail;rw[<-hw0];clear hw0;refine(ah HT).mono ?_;rintro e w1 ⟨rfl,hw⟩;rw[hw];clear hw;go_wp2_with fail;refine(ah HA2 _ rfl).mono ?_;rintro e w1 ⟨rfl,b1⟩;have Jr:=aj (ah PF _ b1);have B1:=aj b1;clear b1 PF;go_wp2_with fail;refine(ah Jr).mono ?_;rintro e w2 ⟨rfl,b2⟩;have B2:=aj (ak (ah B1) b2);have y0:=((ah B2).cell (p:=aq w.heap.size 0) oD).trans x0;have y1:=((ah B2).cell (p:=aq w.heap.size 1) oD).trans x1;have K2:=aj ((ah H0).next ((ah B2).drew));have BW:=aj (ak (ah HB) ((ah B2).drew))
      have d4:=(ah K2).tb.c4;have d11:=(ah K2).pe;have f11:=(ah K2).fr 11;have hbl:=(ah K2).tb.lt;have hlt2:w.heap.size<w2.heap.size:=ajz oD (ah B2).size;clear b2 Jr B1;go_wp2_with fail;go_region
      have HD:Hid (Calls prog 72 #[.slice (some ⟨g,0,none⟩) c.pe.length cap,aa xs.length,aa ((xs.length:Int)+1)] w2.drew λe w'=>∃v',e=.returned v'/\fC w' B v' (xs++ys)/\aA (λk=>(Value.slice (some ⟨g,0,none⟩) c.pe.length cap).ownBlock=some k) w2.drew w'/\∀g',v'.ownBlock=some g'->(Value.slice (some ⟨g,0,none⟩) c.pe.length cap).ownBlock=some g'\/w2.drew.heap.size<=g'):=aj (pV B _ xs [p] ys _ (by have:=jc.tri (ah K2).row;rw[ah Ip] at this ⊢;simpa using this) (by have:=ah HLN;rw[ah Ip] at this;simpa using this) (by simp) (xs.length+1) (by simp));go_wp2_with (go_at_call 72;refine(ah HD).mono ?_;rintro e w3 ⟨v',rfl,hA,hC,hG⟩;have HU:=aj ((ah K2).gone hA hC hG);have z0:=(hC.cell (p:=aq b 11) hbl (ah K2).ne1).trans d11;have z1:=(hC.frozen (p:=aq b 11) hbl (ah K2).ne1).trans f11;obtain⟨a',cap',rfl,z9⟩:=fC.shape hA;rw[ajB] at HU;clear z9 hA hC hG)
      go_ret;exact⟨rfl,bF.trans (aA.of_below (ah BW)) (λ_ q=>.inl q) (ah HU)⟩
    ·have HE:Hid (iT c now p.q 2 n=(⟨c.t,c.pl,xs++⟨p.q,p.n,now+n⟩::ys,c.cn⟩,0)):=aj (by
      rw[ah HN,if_neg (by decide),if_pos rfl];rw[ah Ip,WB (ah HRI)])
     rw[ah HE];go_enter func35,ntmps35;go_wp2_with fail;rw[<-hw0];clear hw0;refine(ah HT).mono ?_;rintro e w1 ⟨rfl,hw⟩;rw[hw];clear hw;go_wp2_with fail;refine(ah HA2 _ rfl).mono ?_;rintro e w1 ⟨rfl,b1⟩;have Jr:=aj (ah PF _ b1);have B1:=aj b1;clear b1 PF;go_wp2_with fail;refine(ah Jr).mono ?_;rintro e w2 ⟨rfl,b2⟩;have B2:=aj (ak (ah B1) b2);have y0:=((ah B2).cell (p:=aq w.heap.size 0) oD).trans x0;have y1:=((ah B2).cell (p:=aq w.heap.size 1) oD).trans x1;have K2:=aj ((ah H0).next ((ah B2).drew));have BW:=aj (ak (ah HB) ((ah B2).drew))
     have d4:=(ah K2).tb.c4;have d11:=(ah K2).pe;have f11:=(ah K2).fr 11;have hbl:=(ah K2).tb.lt;have hlt2:w.heap.size<w2.heap.size:=ajz oD (ah B2).size;clear b2 Jr B1;go_wp2_with fail;go_region
     have hat:=(ah K2).row;have et:=(fC.at (jc.tri hat) (k:=xs.length) (by omega)).c2;have ef:=(bQ.free (jc.tri hat)).1 (xs.length*3+2);have HU:=aj ((ah K2).due (ah Ip) (now+n));clear hat;go_wp2_with fail;go_ret;exact⟨rfl,bF.trans (aA.of_below (ah BW)) (λ_ q=>.inl q) (ah HU)⟩
    ·have HE:Hid (iT c now p.q 3 0=(⟨c.t,c.pl,xs++⟨p.q,p.n,now+Tk.fH c.t p.n⟩::ys,c.cn⟩,0)):=aj (by
      rw[ah HN,if_neg (by decide),if_neg (by decide),if_pos rfl];rw[ah Ip,WB (ah HRI)])
     rw[ah HE];go_enter func35,ntmps35;go_wp2_with fail;rw[<-hw0];clear hw0;refine(ah HT).mono ?_;rintro e w1 ⟨rfl,hw⟩;rw[hw];clear hw;go_wp2_with fail;refine(ah HA2 _ rfl).mono ?_;rintro e w1 ⟨rfl,b1⟩;have Jr:=aj (ah PF _ b1);have B1:=aj b1;clear b1 PF;go_wp2_with fail;refine(ah Jr).mono ?_;rintro e w2 ⟨rfl,b2⟩;have B2:=aj (ak (ah B1) b2);have y0:=((ah B2).cell (p:=aq w.heap.size 0) oD).trans x0;have y1:=((ah B2).cell (p:=aq w.heap.size 1) oD).trans x1;have K2:=aj ((ah H0).next ((ah B2).drew));have BW:=aj (ak (ah HB) ((ah B2).drew))
     have d4:=(ah K2).tb.c4;have d11:=(ah K2).pe;have f11:=(ah K2).fr 11;have hbl:=(ah K2).tb.lt;have hlt2:w.heap.size<w2.heap.size:=ajz oD (ah B2).size;clear b2 Jr B1;go_wp2_with fail;go_region
     have hat:=(ah K2).row;have hlx:xs.length<c.pe.length:=by omega
     have hpx:c.pe[xs.length]=p:=by
      have:=ah Ip;simp only[this];rw[List.getElem_append_right (agH _)];simp
     have et1:=(fC.at (jc.tri hat) (k:=xs.length) hlx).c1;rw[hpx] at et1;have PD:=aj (Bj (ah K2) (ah HWT) (ah HBO) p.n now htm);clear hat hpx;go_wp2_with fail;refine(ah PD).mono ?_;rintro e w3 ⟨rfl,b3⟩;have K3:=aj ((ah K2).next b3);have B3:=aj (ak (ah BW) b3);have agv:=(ah K3).row;have e11:=(ah K3).pe;have et:=(fC.at (jc.tri agv) (k:=xs.length) hlx).c2;have ef:=(bQ.free (jc.tri agv)).1 (xs.length*3+2);have HU:=aj ((ah K3).due (ah Ip) (now+Tk.fH c.t p.n));clear agv b3;go_wp2_with fail;go_ret;exact⟨rfl,bF.trans (aA.of_below (ah B3)) (λ_ q=>.inl q) (ah HU)⟩
    ·have HE:Hid (iT c now p.q 4 0=(⟨c.t,c.pl,xs++ys,c.cn⟩,0)):=aj (by
      rw[ah HN,if_neg (by decide),if_neg (by decide),if_neg (by decide)];rw[ah Ip,Wj (ah HRI)])
     rw[ah HE];go_enter func35,ntmps35;go_wp2_with fail;rw[<-hw0];clear hw0;refine(ah HT).mono ?_;rintro e w1 ⟨rfl,hw⟩;rw[hw];clear hw;go_wp2_with fail;refine(ah HA2 _ rfl).mono ?_;rintro e w1 ⟨rfl,b1⟩;have Jr:=aj (ah PF _ b1);have B1:=aj b1;clear b1 PF;go_wp2_with fail;refine(ah Jr).mono ?_;rintro e w2 ⟨rfl,b2⟩;have B2:=aj (ak (ah B1) b2);have y0:=((ah B2).cell (p:=aq w.heap.size 0) oD).trans x0;have y1:=((ah B2).cell (p:=aq w.heap.size 1) oD).trans x1;have K2:=aj ((ah H0).next ((ah B2).drew));have BW:=aj (ak (ah HB) ((ah B2).drew))
     have d4:=(ah K2).tb.c4;have d11:=(ah K2).pe;have f11:=(ah K2).fr 11;have hbl:=(ah K2).tb.lt;have hlt2:w.heap.size<w2.heap.size:=ajz oD (ah B2).size;clear b2 Jr B1;go_wp2_with fail;go_region
     have HD:Hid (Calls prog 72 #[.slice (some ⟨g,0,none⟩) c.pe.length cap,aa xs.length,aa ((xs.length:Int)+1)] w2.drew λe w'=>∃v',e=.returned v'/\fC w' B v' (xs++ys)/\aA (λk=>(Value.slice (some ⟨g,0,none⟩) c.pe.length cap).ownBlock=some k) w2.drew w'/\∀g',v'.ownBlock=some g'->(Value.slice (some ⟨g,0,none⟩) c.pe.length cap).ownBlock=some g'\/w2.drew.heap.size<=g'):=aj (pV B _ xs [p] ys _ (by have:=jc.tri (ah K2).row;rw[ah Ip] at this ⊢;simpa using this) (by have:=ah HLN;rw[ah Ip] at this;simpa using this) (by simp) (xs.length+1) (by simp));go_wp2_with (go_at_call 72;refine(ah HD).mono ?_;rintro e w3 ⟨v',rfl,hA,hC,hG⟩;have HU:=aj ((ah K2).gone hA hC hG);have z0:=(hC.cell (p:=aq b 11) hbl (ah K2).ne1).trans d11;have z1:=(hC.frozen (p:=aq b 11) hbl (ah K2).ne1).trans f11;obtain⟨a',cap',rfl,z9⟩:=fC.shape hA;rw[ajB] at HU;clear z9 hA hC hG)
     go_ret;exact⟨rfl,bF.trans (aA.of_below (ah BW)) (λ_ q=>.inl q) (ah HU)⟩
end
