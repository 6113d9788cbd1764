/- A part. -/
import Derived.Test.YtebofkkfbkodiaaGreatDoorQ0
set_option maxRecDepth 100000
set_option maxHeartbeats 8000000
namespace Go.Proofs.YtebofkkfbkodiaaGreatDoor
open Go.RowKit Go.Proofs.Tryz
namespace Dk
theorem qE (n:Int)(w:I):Calls prog 80 #[aa n] w λe w'=>e=.returned (.bool (EI n))/\w'=w:=by
 by_cases h0:0<=n
 ·have g0:decide ((0:Int)<=n)=true:=ajH h0;have HV:Hid (EI n=decide (n<=1099511627776)):=aj (by unfold EI;rw[g0,akz]);go_enter func80,ntmps80;go_wp2_with fail;go_ret;rw[ah HV];exact⟨rfl,rfl⟩
 ·have g0:decide ((0:Int)<=n)=false:=ajE h0;have HV:Hid (EI n=false):=aj (by unfold EI;rw[g0,akH]);go_enter func80,ntmps80;go_wp2_with fail;go_ret;rw[ah HV];exact⟨rfl,rfl⟩
theorem SI (p:dD)(w:I):Calls prog 81 #[NV p] w λe w'=>e=.returned (.bool (xw p))/\ai w w':=by
 have B0:=aj (show ai w (w.alloc (xB p)) from ax _ _);have HT:=aj (qE p.t);by_cases h0:1<=p.b
 ·have g0:decide ((1:Int)<=p.b)=true:=ajH h0;by_cases h1:p.b<=50
  ·have g1:decide (p.b<=(50:Int))=true:=ajH h1;have HV:Hid (xw p=EI p.t):=aj (by unfold xw;rw[g0,g1,akz,akz]);go_enter func81,ntmps81;go_wp2_with fail;refine(ah HT _).mono ?_;rintro e w1 ⟨rfl,hw⟩;rw[hw];clear hw;go_wp2_with fail;go_ret;rw[ah HV];exact⟨rfl,ah B0⟩
  ·have g1:decide (p.b<=(50:Int))=false:=ajE h1;have HV:Hid (xw p=false):=aj (by unfold xw;rw[g0,g1,akz,akH]);go_enter func81,ntmps81;go_wp2_with fail;go_ret;rw[ah HV];exact⟨rfl,ah B0⟩
 ·have g0:decide ((1:Int)<=p.b)=false:=ajE h0;have HV:Hid (xw p=false):=aj (by unfold xw;rw[g0,akH,akH]);go_enter func81,ntmps81;go_wp2_with fail;go_ret;rw[ah HV];exact⟨rfl,ah B0⟩
theorem XF (p:dD)(w:I):Calls prog 128 #[NV p] w λe w'=>e=.returned (.bool p.nw)/\ai w w':=by
 have B0:=aj (show ai w (w.alloc (xB p)) from ax _ _);go_enter func128,ntmps128;go_wp2_with fail;go_ret;exact⟨rfl,ah B0⟩
theorem NY (p:dD)(now:Int)(b:Nat)(w:I)(hb:w.cell? (aq b 0)=some (aa now))(hl:b<w.heap.size) :
 Calls prog 126 #[NV p,ae b] w λe w'=>e=.returned (.bool (KT now p))/\ai w w':=by
 have B0:=aj (show ai w (w.alloc (xB p)) from ax _ _);have h2:(w.alloc (xB p)).cell? (aq b 0)=some (aa now):=by rw[aln _ _ _ hl];exact hb
 cases g0:(p.t !=0) with
 | true =>
  have HV:Hid (KT now p=decide (p.t<=now)):=aj (by unfold KT;rw[g0,akz]);go_enter func126,ntmps126;go_wp2_with fail;go_ret;rw[ah HV];exact⟨rfl,ah B0⟩
 | false =>
  have HV:Hid (KT now p=false):=aj (by unfold KT;rw[g0,akH]);go_enter func126,ntmps126;go_wp2_with fail;go_ret;rw[ah HV];exact⟨rfl,ah B0⟩
section
variable {g:Nat}{lb:Array Value}{p:dD->Bool}
theorem SK (eg:∀args w,(callFunc g args).run prog w=.ok (.enter g args) w)(a:Option Addr)(cap:Nat)(l:List dD)(w:I)(hsl:SlU w a l)(hl:l.length<=1000000)
 (hp:∀W,ai w W->∀x∈l,Calls prog g (#[NV x]++lb) W λe w'=>e=.returned (.bool (p x))/\ai W w') :
 Calls prog 165 #[.slice a l.length cap,.func (.func g) #[] lb] w λe w'=>e=.returned (aa (EH p l))/\ai w w':=by
 have Hp:=aj hp;have Hs:=aj hsl;obtain⟨N,hN⟩:∃N,l.length=N:=⟨_,rfl⟩;have HN:=aj hN;rw[hN] at hl;rw[hN];clear hp hsl hN;go_enter func165,ntmps165;go_wp2;go_loopw [8] (λiv wr=>∃(i:Nat),iv=aa i/\i<=N/\Hid (∀k (hk:k<l.length),k<i->p l[k]=false)/\Hid (ai w wr)) (λiv _=>N-(intOf iv).toNat)
 case atStart=>exact⟨0,rfl,ajO _,aj (λk _ hk=>absurd hk (akh k)),aj (agP _ _)⟩
 case round =>
  obtain⟨i,rfl,hi,hlo,BW⟩:=hrel;by_cases hlt:i<N
  ·have hil:i<l.length:=by rw[ah HN];exact hlt
   obtain⟨b,o,rfl,t⟩:=(ah Hs).below (ah BW) i hil;obtain⟨_,c0,c1,c2⟩:=t;have H:=aj (ah Hp wr (ah BW) l[i] (ako _));obtain⟨x,hx⟩:∃x,l[i]=x:=⟨_,rfl⟩;have HX:=aj hx;rw[hx] at c0 c1 c2 H;clear hx
   cases he:p x with
   | true =>
    have HV:=aj (NT hil (by rw[ah HX];exact he) (ah hlo));rw[he] at H;clear he HX hil;go_wp2_with (go_at_fn g;refine(ah H).mono ?_;rintro e w' ⟨rfl,hb'⟩);go_ret;rw[ah HV];exact⟨rfl,ak (ah BW) hb'⟩
   | false =>
    have HL:Hid (∀k (hk:k<l.length),k<i+1->p l[k]=false):=aj (λk hk q=>by
     rcases akI.1 q with z|z
     ·exact ah hlo k hk z
     ·subst z;rw[ah HX];exact he)
    rw[he] at H;clear he HX hil;go_wp2_with (go_at_fn g;refine(ah H).mono ?_;rintro e w' ⟨rfl,hb'⟩);refine⟨⟨i+1,by go_num,by omega,HL,aj (ak (ah BW) hb')⟩,?_⟩;simp[intOf];omega
  ·obtain rfl:i=N:=by omega
   have HV:=aj (IU (p:=p) (l:=l) (λk hk=>ah hlo k hk (by rw[<-ah HN];exact hk)));go_wp2_with fail;go_ret;rw[ah HV];exact⟨rfl,ah BW⟩
end
theorem VF (w:I)(x:dD)(t:TypeId):let W:=w.alloc (.cells #[aa x.b,aa x.t,.bool x.nw] t)
 W.cell? (aq w.heap.size 0)=some (aa x.b)/\W.cell? (aq w.heap.size 1)=some (aa x.t)/\W.cell? (aq w.heap.size 2)=some (.bool x.nw):=by
 refine⟨?_,?_,?_⟩<;>(rw[aky _ w.heap.size _ _ _ _ (akv w _)];rfl)
section
variable {g:Nat}{lb:Array Value}{p:dD->Bool}
theorem BL (eg:∀args w,(callFunc g args).run prog w=.ok (.enter g args) w)(v:Value)(B:Nat)(l:List dD)(w:I)(ha:fQ w B v l)(hl:l.length<=1000000)
 (hp:∀W,aA (λk=>v.ownBlock=some k) w W->∀x∈l,Calls prog g (#[NV x]++lb) W λe w'=>e=.returned (.bool (p x))/\ai W w') :
 Calls prog 125 #[v,.func (.func g) #[] lb] w λe w'=>∃v',e=.returned v'/\fQ w' B v' (l.filter (λx=>!p x))/\aA (λk=>v.ownBlock=some k) w w'/\∀g,v'.ownBlock=some g->v.ownBlock=some g\/w.heap.size<=g:=by
 have Ha:=aj ha;have Hp:=aj hp;obtain⟨a,cap,rfl,hcap,hmax,hsl,hown⟩:=ha.shape;have HI:=aj (SK (p:=p) eg a cap l w hsl hl (λW hb=>hp W (aA.of_below hb)));rcases IV p l with ⟨e1,hall⟩|⟨i,hil,e1,hpi,hlo⟩
 ·have HF:=aj (yN hall);rw[e1] at HI;clear hp hsl ha hall e1 hown;go_enter func125,ntmps125;go_wp2_with (go_at_call 165;refine(ah HI).mono ?_;rintro e w' ⟨rfl,hb'⟩);go_ret;rw[ah HF];exact⟨_,rfl,(ah Ha).below hb',aA.of_below hb',λ_ q=>.inl q⟩
 ·obtain⟨b,_,e0,z9⟩:=hsl 0 (Nat.lt_of_le_of_lt (ajO _) hil);clear z9;have e9:=hown _ e0;obtain⟨k1,k2⟩:=EG hil hlo hpi;obtain⟨b',cap',e8,z8⟩:=ha.there (Nat.lt_of_le_of_lt (ajO _) hil);clear z8;obtain⟨rfl,_,rfl⟩:=akE e8;obtain rfl:b=b':=by cases e0;rfl
  rw[e1] at HI;have K1:=aj k1;have K2:=aj k2;obtain⟨N,hN⟩:∃N,l.length=N:=⟨_,rfl⟩;have HN:=aj hN;have hne1:((i:Int)==-1)=false:=ajM.2 (by omega);rw[hN] at HI Ha Hp hl hcap;rw[hN];have hiN:i<N:=by omega
  clear hp hsl ha e1 hown e0 e8 e9 k1 k2 hlo hpi hil hN;go_enter func125,ntmps125;go_wp2_with (go_at_call 165;refine(ah HI).mono ?_;rintro e w1 ⟨rfl,hb1⟩);go_loopw [5,6,7] (λiv jv _ wr=>∃j:Nat,iv=aa ((dH p l j).length:Int)/\jv=aa j/\j<=N/\(dH p l j).length<j/\Hid (fQ wr B (.slice (some ⟨b,0,none⟩) N cap) (jV p l j))/\Hid (aA (λk=>k=b) w wr)) (λ_ jv _ _=>N-(intOf jv).toNat)
  case atStart=>exact⟨i+1,by rw[ah K1],by go_num,by omega,by rw[ah K1];omega,aj (by rw[ah K2];exact(ah Ha).below hb1),aj (aA.of_below hb1)⟩
  case round =>
   obtain⟨j,rfl,rfl,hj,hij,AW,CW⟩:=hrel;by_cases hlt:j<N
   ·have hjl:j<l.length:=by rw[ah HN];exact hlt
    have hjm:j<(jV p l j).length:=by rw[jh];exact hjl
    obtain⟨hbl,c0,c1,c2⟩:=(ah AW).at hjm;rw[VD hjl hjm] at c0 c1 c2;have him:(dH p l j).length<(jV p l j).length:=by omega
    have hN2:(jV p l j).length=N:=by rw[jh];exact ah HN
    obtain⟨x,hx⟩:∃x,l[j]=x:=⟨_,rfl⟩;have HX:=aj hx;rw[hx] at c0 c1 c2;have bA:ai wr (wr.alloc (xB x)):=ax _ _;have cA:=aj ((ah CW).trans (aA.of_below bA));have H:=aj (ah Hp (wr.alloc (xB x)) ((ah cA).mono (λk _ q=>by rw[q];rfl)) x (by rw[<-hx];exact ako _));obtain⟨n0,n1,n2⟩:=VF wr x 53;have BA:=aj bA;have AA:=aj ((ah AW).below bA);clear hx bA;have hb0:b<(wr.alloc (xB x)).heap.size:=by simp;omega
    have hnb:wr.heap.size≠b:=by omega
    cases he:p x with
    | false =>
     have HM:=aj (IQ (p:=p) hjl (by rw[ah HX];exact he));have HK:=aj (congrArg List.length (xu (p:=p) hjl (by rw[ah HX];exact he)));rw[he] at H;rw[ah HX] at HM;obtain⟨i,hi⟩:∃i,(dH p l j).length=i:=⟨_,rfl⟩;rw[hi] at hij him HM;rw[ajB,hi,akR] at HK;have hti:=(ah AA).at him;obtain⟨y,hy⟩:∃y,(jV p l j)[i]=y:=⟨_,rfl⟩;rw[hy] at hti;have hfr:=aj ((ah AA).free).1;rw[hi];clear he hjm him hi hy HX;go_wp2_with (go_at_fn g;refine(ah H).mono ?_;rintro e w' ⟨rfl,hb'⟩;have m0:=(hb'.cell (p:=aq wr.heap.size 0) (by simp)).trans n0;have m1:=(hb'.cell (p:=aq wr.heap.size 1) (by simp)).trans n1;have m2:=(hb'.cell (p:=aq wr.heap.size 2) (by simp)).trans n2;have t0:=(hb'.cell (p:=aq b (i*3)) hb0).trans hti.c0;have t1:=(hb'.cell (p:=aq b (i*3+1)) hb0).trans hti.c1;have t2:=(hb'.cell (p:=aq b (i*3+2)) hb0).trans hti.c2;have f0:=(hb'.frozen (p:=aq b (i*3)) hb0).trans (ah hfr _);have f1:=(hb'.frozen (p:=aq b (i*3+1)) hb0).trans (ah hfr _);have f2:=(hb'.frozen (p:=aq b (i*3+2)) hb0).trans (ah hfr _))
     have A1:=(ah AA).below hb';rw[<-hN2] at A1;have A2:=A1.set (k:=i) (by rw[hN2];omega) x;rw[hN2,<-ah HM] at A2;refine⟨⟨j+1,by rw[ah HK];go_num,by go_num,by omega,by rw[ah HK];omega,aj A2,aj (((ah cA).trans (aA.of_below hb')).trans (jw [aa x.b,aa x.t,.bool x.nw] (i*3) w'))⟩,?_⟩;simp[intOf];omega
    | true =>
     have HM:=aj (IL (p:=p) hjl (by rw[ah HX];exact he));have HK:=aj (qY (p:=p) hjl (by rw[ah HX];exact he));rw[he] at H;clear HX hjl hjm him he;go_wp2_with (go_at_fn g;refine(ah H).mono ?_;rintro e w' ⟨rfl,hb'⟩);refine⟨⟨j+1,by rw[ah HK],by go_num,by omega,by rw[ah HK];omega,aj (by rw[ah HM];exact(ah AA).below hb'),aj ((ah cA).trans (aA.of_below hb'))⟩,?_⟩;simp[intOf];omega
   ·obtain rfl:j=N:=by omega
    obtain⟨i,hi⟩:∃i,(dH p l j).length=i:=⟨_,rfl⟩;rw[hi] at hij;rw[hi];have hfr:=aj ((ah AW).free).1;have hsp:=aj ((ah AW).free).2;have hcl:∀ty,(Builtin.clear_ #[160] ty #[.slice (some ⟨b,i*3,none⟩) (j-i) (cap-i)]).run prog wr=.ok (.tuple #[]) (wr.setCells b (i*3) (Hw (.agg #[aa 0,aa 0,.bool false]) (j-i))):=λty =>
     lU (P:=prog) 160 53 ty _ underlying160 Tryz.zeroValue53 rfl (λk hk=>by
      match k,hk with
      | 0,_=>rfl
      | 1,_=>rfl
      | 2,_=>rfl) wr b (i*3) (j-i) (cap-i) (by omega) (λk hk=>ah hsp _ (by omega)) (λk hk=>ah hfr _)
    have q1:¬(cap=i):=by omega
    have HI2:=aj hi;clear hi;go_wp2_with fail;go_ret;have hk2:dH p l j=l.filter (λx=>!p x):=by rw[<-ah HN];exact IK p l
    have hml:=jh p l j;rw[ah HN] at hml;have A1:fQ wr B (.slice (some ⟨b,0,none⟩) (jV p l j).length cap) (jV p l j):=by rw[hml];exact ah AW
    have A2:=fQ.cut (a:=dH p l j) (r:=l.drop (dH p l j).length) A1 (Hw (.agg #[aa 0,aa 0,.bool false]) (j-i)) (by rw[lH _ _ rfl,ajI,ah HN,ah HI2]);rw[ah HI2,hk2] at A2;exact⟨_,rfl,A2,((ah CW).trans (jw _ _ _)).mono (λk _ q=>by rw[q];rfl),λ_ q=>.inl q⟩
end
theorem aaC (w:I):Calls prog 41 #[] w λe w'=>e=.returned (.pointer (some ⟨w.heap.size,0,none⟩))/\fA w' w.heap.size w.heap.size (.slice none 0 0) []/\w'.heap.size=w.heap.size+1/\ai w w':=by
 go_enter func41,ntmps41;go_wp2_with fail;go_ret;exact⟨rfl,⟨by simp,by simp[World.frozen?_alloc_new],Nat.le_refl _,by simp,bQ.empty _ _ _,by simp[Value.ownBlock]⟩,by simp,ax _ _⟩
theorem XG:∀args w,(callFunc 126 args).run prog w=.ok (.enter 126 args) w:=enters_of func126 (by kernel_rfl) rfl
theorem XH:∀args w,(callFunc 128 args).run prog w=.ok (.enter 128 args) w:=enters_of func128 (by kernel_rfl) rfl
section
variable {w:I}{B p:Nat}{v:Value}{l:List dD}
theorem qZ (h:fA w B p v l)(hl:l.length<=10)(now:Int) :
 Calls prog 82 #[ae p,aa now] w λe w'=>e=.returned (.tuple #[])/\iR w w' B p v (bZ now l):=by
 have b0:ai w (w.alloc (.cells #[aa now] 3)):=ax _ _;have k1:=h.below b0;have hc:=k1.cell;have hf:=k1.free;have hn0:v.ownBlock≠some w.heap.size:=λq=>by have:=(h.arr.lt _ q).2;omega
 have HD:=aj (BL (p:=KT now) (lb:=#[.pointer (some ⟨w.heap.size,0,none⟩)]) XG v B l _ k1.arr (by omega) (λW hW x _=>NY x now w.heap.size W (by
  rw[hW.cell (p:=aq w.heap.size 0) (by simp) hn0];simp) (by have:=hW.size;simp at this;omega)))
 have HU:Hid (∀w' v',aA (λk=>v.ownBlock=some k) (w.alloc (.cells #[aa now] 3)) w'->fQ w' B v' (bZ now l)->(∀g,v'.ownBlock=some g->v.ownBlock=some g\/(w.alloc (.cells #[aa now] 3)).heap.size<=g)->iR w (w'.setCell (aq p 0) v') B p v (bZ now l)):=aj (λw' v' hC hA hg=>iR.trans (aA.of_below b0) (λ_ q=>.inl q) (iR.store k1 hC hA hg));have HC:Hid (∀w',aA (λk=>v.ownBlock=some k) (w.alloc (.cells #[aa now] 3)) w'->w'.cell? (aq p 0)=some v/\w'.frozen? (aq p 0)=false):=aj (λw' hC=>⟨by rw[hC.cell (p:=aq p 0) k1.lt h.apart];exact hc,by rw[hC.frozen (p:=aq p 0) k1.lt h.apart];exact hf⟩)
 clear k1 h b0 hn0 hf;go_enter func82,ntmps82;go_wp2_with (go_at_call 125;refine(ah HD).mono ?_;rintro e w' ⟨v',rfl,hA,hC,hG⟩;obtain⟨x0,x1⟩:=ah HC w' hC;have HU2:=aj (ah HU _ _ hC hA hG);obtain⟨a',cap',rfl,z1⟩:=fQ.shape hA;clear z1 hA hC hG);go_end0
 exact⟨rfl,ah HU2⟩
theorem XI (h:fA w B p v l)(hl:l.length<=10)(now:Int) :
 Calls prog 127 #[ae p,aa now] w λe w'=>e=.returned (.tuple #[aa (xA now l),aa (RG now)])/\iR w w' B p v (Hy now l):=by
 have HT:=aj (qE now w);have HF:=aj (qZ h hl now);have HS:=aj (iR.same h (agP _ _))
 cases ht:EI now with
 | true =>
  have HV:Hid (xA now l=((bZ now l).length:Int)/\RG now=0/\Hy now l=bZ now l):=aj ⟨by unfold xA;rw[if_pos ht],by unfold RG;rw[if_pos ht],by unfold Hy;rw[if_pos ht]⟩;rw[ht] at HT;obtain⟨e1,e2,e3⟩:=ah HV;rw[e1,e2,e3];clear h ht hl e1 e2 e3;go_enter func127,ntmps127;go_wp2_with fail;refine(ah HT).mono ?_;rintro e w1 ⟨rfl,hw⟩;rw[hw];clear hw;go_wp2_with fail;refine(ah HF).mono ?_;rintro e w1 ⟨rfl,hU⟩;have HU:=aj hU;obtain⟨v1,k1,_,_⟩:=hU;obtain⟨a,cap,rfl,_⟩:=k1.arr.shape;have hc:=k1.cell;clear k1;go_wp2_with fail;go_ret2;exact⟨rfl,ah HU⟩
 | false =>
  have HV:Hid (xA now l=0/\RG now=1/\Hy now l=l):=aj ⟨by unfold xA;rw[if_neg (by simp[ht])],by unfold RG;rw[if_neg (by simp[ht])],by unfold Hy;rw[if_neg (by simp[ht])]⟩;rw[ht] at HT;obtain⟨e1,e2,e3⟩:=ah HV;rw[e1,e2,e3];clear h ht hl e1 e2 e3;go_enter func127,ntmps127;go_wp2_with fail;refine(ah HT).mono ?_;rintro e w1 ⟨rfl,hw⟩;rw[hw];clear hw;go_wp2_with fail;go_ret2;exact⟨rfl,ah HS⟩
end
end Dk
namespace Dk
open Go.Deep
theorem XJ (es:List rZ)(z:List Value)(i m:Nat)(hn:es.length=i+1+m) :
 ((((aI es).take (i*3)++(aI es).drop ((i+1)*3)++(aI es).drop (i*3+((aI es).drop ((i+1)*3)).length)).take ((i+m)*3)++z++((aI es).take (i*3)++(aI es).drop ((i+1)*3)++(aI es).drop (i*3+((aI es).drop ((i+1)*3)).length)).drop ((i+m)*3+z.length)).take ((i+m)*3))=aI (es.eraseIdx i):=by
 have hcl:(aI es).length=(i+1+m)*3:=by rw[aP,hn]
 have h1:((aI es).take (i*3)++(aI es).drop ((i+1)*3)).length=(i+m)*3:=by rw[ajB,ajL,ajI,hcl];omega
 have h2:((aI es).take (i*3)++(aI es).drop ((i+1)*3)++(aI es).drop (i*3+((aI es).drop ((i+1)*3)).length)).take ((i+m)*3)=(aI es).take (i*3)++(aI es).drop ((i+1)*3):=by
  rw[ajQ (by omega),ajR (by omega)]
 rw[h2,aku ((aI es).take (i*3)++(aI es).drop ((i+1)*3)),ajQ (by omega),ajR (by omega)];rw[List.eraseIdx_eq_take_drop_succ,bY,vF,vG]
theorem SL (B g c i m:Nat)(es:List rZ)(w:I)(hn:es.length=i+1+m)(ha:bQ 53 w B (.slice (some ⟨g,0,none⟩) (i+1+m) c) es)(kQ:es.length<=200)(hc:i+1+m<=c)(ho:∀x∈es,Ia x) :
 Calls prog 129 #[.slice (some ⟨g,0,none⟩) (i+1+m) c,aa i,aa (i+1)] w λe w' =>
  e=.returned (.slice (some ⟨g,0,none⟩) (i+m) c)/\w'=(w.drew.setCells g (0+i*3) ((aI es).drop ((i+1)*3))).setCells g ((i+m)*3) (Hw (.agg #[aa 0,aa 0,.bool false]) 1):=by
 obtain⟨i0,hi0,hz0,hz1,hz2⟩:=alq afK;obtain⟨news,hnews⟩:∃news,news=(aI es).drop ((i+1)*3):=⟨_,rfl⟩;have hlen:news.length=m*3:=by rw[hnews,ajI,aP,hn];omega
 obtain⟨cur,hg,hcs⟩:∃cur,w.heap[g]?=some (.cells cur 53 (0,0))/\cur.size=c*3:=by
  rcases ha.2 with ⟨q,_⟩|⟨g',cap',cur,q,h2,h3,h4,h5,h6,h7⟩
  ·cases q
  ·simp only[alk,akB,alS,aml] at q;obtain⟨rfl,_,rfl⟩:=q;exact⟨cur,h3,h6⟩
 have hsp:∀j,j<c*3->(w.cell? (aq g j)).isSome=true:=by
  intro j hj;rw[aky w g j _ _ _ hg,alf (by omega)];rfl
 have hfz:∀j,w.frozen? (aq g j)=false:=λj=>alz w g j _ _ hg
 have hcell:∀j u,(aI es)[j]?=some u->w.cell? (aq g j)=some u:=by
  intro j u hj;exact ha.cell j u hj
 obtain⟨A,hA,hsrc⟩:∃A:Addr,(if c=i+1 then some (⟨g,0,none⟩:Addr) else some ⟨g,(i+1)*3,none⟩)=some A/\Hid (∀t u,news[t]?=some u->w.drew.cell? (A.add t)=some u):=by
  by_cases h:c=i+1
  ·refine⟨⟨g,0,none⟩,by simp[h],λt u hu=>?_⟩;have h0:news.length=0:=by rw[hlen];omega
   rw[ajZ.1 h0] at hu;simp at hu
  ·refine⟨⟨g,(i+1)*3,none⟩,by simp[h],λt u hu=>?_⟩;rw[alg];refine hcell _ u ?_;rw[hnews,akG] at hu;exact hu
 have s1:=aj hlen;have s2:Hid (∀u∈news,u.oneCell'=true):=by
  intro u hu;rw[hnews] at hu;exact tZ es ho u (akP hu)
 have s3:Hid (∀t,t<news.length->(w.drew.cell? (aq g (0+i*3+t))).isSome=true/\w.drew.frozen? (aq g (0+i*3+t))=false):=by
  intro t ht;rw[hlen] at ht;exact⟨hsp _ (by omega),hfz _⟩
 obtain⟨W1,hW1⟩:∃W1,W1=w.drew.setCells g (0+i*3) news:=⟨_,rfl⟩;have hcl:∀ty c',(Builtin.clear_ #[160] ty #[.slice (some ⟨g,(i+m)*3,none⟩) 1 c']).run prog W1=.ok (.tuple #[]) (W1.setCells g ((i+m)*3) (Hw (.agg #[aa 0,aa 0,.bool false]) 1)):=λty c' =>
  lU (P:=prog) 160 53 ty _ underlying160 Tryz.zeroValue53 rfl (λk hk=>by
   match k,hk with
   | 0,_=>rfl
   | 1,_=>rfl
   | 2,_=>rfl) W1 g ((i+m)*3) 1 c' (by omega) (λj hj=>by
   rw[hW1];exact isSome_setCells g news (0+i*3) w.drew (λt ht=>hsp _ (by rw[hlen] at ht;omega)) _ (hsp _ (by omega)))
   (λj hj=>by rw[hW1,ala];exact hfz _)
 have hW:Hid (W1=w.drew.setCells g (0+i*3) news):=hW1;rw[<-hnews];clear hW1 hsp hfz hcell hg ha hnews hlen hz0 hz2;have hic:i<=c:=by omega
 have hjc:i+1<=c:=by omega
 have b1:(0:Int)<=(i:Int)+1:=by omega
 have b2:(i:Int)+1<=(i:Int)+1+(m:Int):=by omega
 have q1:¬(c=i+m):=by omega
 have q2:i+1+m-(i+m)=1:=by omega
 go_enter func129,ntmps129;go_wp2_with fail;go_region_law (refine step_append_room rfl (.tmp 22) (.tmp 25) 160 rfl 53 i0 3 underlying160 hi0 hz1 g 0 i c (by simp[Act.eval,Act.put]) A m (c-(i+1)) news (by simp[Act.eval,Act.put]) s1.out hsrc.out s2.out (by omega) s3.out ?_;rw[<-hW.out])
 go_wp2;go_ret;exact⟨rfl,by rw[hW.out]⟩
theorem NZ (B:Nat)(v:Value)(l:List dD)(i:Nat)(w:I)(ha:fQ w B v l)(hi:i<l.length)(kQ:l.length<=200) :
 Calls prog 129 #[v,aa i,aa (i+1)] w λe w'=>∃v',e=.returned v'/\fQ w' B v' (l.eraseIdx i)/\aA (λk=>v.ownBlock=some k) w w'/\∀g,v'.ownBlock=some g->v.ownBlock=some g\/w.heap.size<=g:=by
 obtain⟨es,hes⟩:∃es,es=l.map wz:=⟨_,rfl⟩;have hel:es.length=l.length:=by rw[hes,akk]
 have ho:∀x∈es,Ia x:=by rw[hes];exact aaB l
 have hfin:(l.eraseIdx i).map wz=es.eraseIdx i:=by rw[hes,List.eraseIdx_eq_take_drop_succ,List.eraseIdx_eq_take_drop_succ,akt,List.map_take,List.map_drop]
 unfold fQ at ha ⊢;rw[hfin];rw[<-hes] at ha;rw[<-hel] at hi kQ;clear hes hfin hel;obtain⟨g,cap,rfl,c1,c2,c3,c4⟩:=ha.there (by omega);obtain⟨m,hn⟩:∃m,es.length=i+1+m:=⟨es.length-(i+1),by omega⟩;rw[hn] at ha c1 ⊢;refine(SL B g cap i m es w hn ha kQ c1 ho).mono ?_;rintro e w' ⟨rfl,rfl⟩;refine⟨_,rfl,?_,?_,λg' hg'=>.inl hg'⟩
 ·have o0:w.drew.ownsRow B 53 3 (.slice (some ⟨g,0,none⟩) (i+1+m) cap) (i+1+m) (aI es):=by
   unfold bQ at ha;rw[hn] at ha;exact ha
  have hcl:(aI es).length=(i+1+m)*3:=by rw[aP,hn]
  have hdl:((aI es).drop ((i+1)*3)).length=m*3:=by rw[ajI,hcl];omega
  have hzl:(Hw (.agg #[aa 0,aa 0,.bool false]) 1).length=3:=lH _ 1 rfl;have o1:=kE ((aI es).drop ((i+1)*3)) (i*3) _ _ o0 (by rw[hcl,hdl];omega);have o2:=kE (Hw (.agg #[aa 0,aa 0,.bool false]) 1) ((i+m)*3) _ _ o1 (by
   simp only[ajB,ajL,ajI,hcl,hzl];omega)
  have o3:=qX (k:=i+m) o2 (by omega);rw[XJ es _ i m hn] at o3;unfold bQ;rw[List.length_eraseIdx,if_pos hi,hn,show i+1+m-1=i+m by omega,ajT];exact o3
 ·have c:aA (λk=>k=g) w w.drew:=⟨rfl,rfl,rfl,agH _,λ_ _ _=>rfl⟩;exact((c.trans (jw _ _ _)).trans (jw _ _ _)).mono (λk _ hk=>by rw[hk];rfl)
section
variable {w:I}{B p:Nat}{v:Value}{l:List dD}
theorem aaD (h:fA w B p v l)(hl:l.length<=10)(now:Int) :
 Calls prog 84 #[ae p,aa now] w λe w'=>e=.returned (.tuple #[aa (aaA now l),aa (RG now)])/\iR w w' B p v (KU now l):=by
 have HT:=aj (qE now w);have HF:=aj (qZ h hl now);have HS:=aj (iR.same h (agP _ _))
 cases ht:EI now with
 | true =>
  have HV:Hid (aaA now l=((bZ now l).length:Int)-((BJ (bZ now l)).length:Int)/\RG now=0/\KU now l=BJ (bZ now l)):=aj ⟨by unfold aaA;rw[if_pos ht],by unfold RG;rw[if_pos ht],by unfold KU;rw[if_pos ht]⟩;have hk:(bZ now l).length<=10:=ajA (akF _ _) hl;rw[ht] at HT;obtain⟨e1,e2,e3⟩:=ah HV;rw[e1,e2,e3];obtain⟨m,hm⟩:∃m,bZ now l=m:=⟨_,rfl⟩;rw[hm] at HF hk;rw[hm];clear h ht hl e1 e2 e3 hm HV HS;go_enter func84,ntmps84;go_wp2_with fail;refine(ah HT).mono ?_;rintro e w1 ⟨rfl,hw⟩;rw[hw];clear hw;go_wp2_with fail;refine(ah HF).mono ?_
  rintro e w1 ⟨rfl,hU⟩;obtain⟨v1,k1,cc,hg⟩:=hU;have HD:=aj (BL (p:=λx=>x.nw) (lb:=#[]) XH v1 B m _ k1.arr (by omega) (λW _ x _=>XF x W));have HU:Hid (∀w' v',aA (λk=>v1.ownBlock=some k) w1 w'->fQ w' B v' (BJ m)->(∀g,v'.ownBlock=some g->v1.ownBlock=some g\/w1.heap.size<=g)->iR w (w'.setCell (aq p 0) v') B p v (BJ m)):=aj (λw' v' hC hA hG=>iR.trans cc hg (iR.store k1 hC hA hG));have hc:=k1.cell;have HC:Hid (∀w',aA (λk=>v1.ownBlock=some k) w1 w'->w'.cell? (aq p 0)=some v1/\w'.frozen? (aq p 0)=false):=aj (λw' hC=>⟨by rw[hC.cell (p:=aq p 0) k1.lt k1.apart];exact k1.cell,by rw[hC.frozen (p:=aq p 0) k1.lt k1.apart];exact k1.free⟩)
  obtain⟨a,cap,rfl,z1⟩:=k1.arr.shape;clear k1 cc hg z1;have hst:(BJ m).length<=m.length:=akF _ _;go_wp2_with (go_at_call 125;refine(ah HD).mono ?_;rintro e w' ⟨v',rfl,hA,hC,hG⟩;obtain⟨x0,x1⟩:=ah HC w' hC;have HU2:=aj (ah HU _ _ hC hA hG);obtain⟨a',cap',rfl,z1⟩:=fQ.shape hA;clear z1 hA hC hG;rw[show(List.filter (λx=>!x.nw) m).length=(BJ m).length from rfl] at HU2 ⊢);go_ret2;exact⟨by go_num,ah HU2⟩
 | false =>
  have HV:Hid (aaA now l=0/\RG now=1/\KU now l=l):=aj ⟨by unfold aaA;rw[if_neg (by simp[ht])],by unfold RG;rw[if_neg (by simp[ht])],by unfold KU;rw[if_neg (by simp[ht])]⟩;rw[ht] at HT;obtain⟨e1,e2,e3⟩:=ah HV;rw[e1,e2,e3];clear h ht hl e1 e2 e3;go_enter func84,ntmps84;go_wp2_with fail;refine(ah HT).mono ?_;rintro e w1 ⟨rfl,hw⟩;rw[hw];clear hw;go_wp2_with fail;go_ret2;exact⟨rfl,ah HS⟩
theorem fA.more (h:fA w B p v l)(hl:l.length<=10)(x:dD) :
 ∃a' m' c' w8,(Builtin.append_ #[160,160] 160 #[v,.slice (some ⟨w.heap.size,0,none⟩) 1 1]).run prog (w.alloc (xB x)).drew=.ok (.slice a' m' c') w8/\w8.cell? (aq p 0)=some v/\w8.frozen? (aq p 0)=false/\Hid (iR w (w8.setCell (aq p 0) (.slice a' m' c')) B p v (l++[x])):=by
 have b4:ai w (w.alloc (xB x)).drew:=(ax _ _).drew;have h4:=h.below b4;obtain⟨v8,w8,hr,A8,C8,L8⟩:=SG _ B 160 v l x h4.arr ⟨w.heap.size,0,none⟩ 1 (VB w (wz x) 53) (by omega) (by have:=h4.base;have:=h4.lt;omega);have HS:=aj (iR.trans (aA.of_below b4) (λ_ q=>.inl q) (iR.store h4 C8 A8 L8));obtain⟨a',c',rfl,_⟩:=A8.shape;refine⟨a',_,c',w8,hr,?_,?_,HS⟩
 ·rw[C8.cell (p:=aq p 0) h4.lt h4.apart];exact h4.cell
 ·rw[C8.frozen (p:=aq p 0) h4.lt h4.apart];exact h4.free
theorem ad7 (h:fA w B p v l)(hl:l.length<=10)(now:Int)(x:dD) :
 Calls prog 43 #[ae p,aa now,NV x] w λe w'=>e=.returned (aa (sK now x l))/\iR w w' B p v (oC now x l):=by
 have b0:ai w (w.alloc (xB x)):=ax _ _;obtain⟨n0,n1,n2⟩:=VF w x 53;obtain⟨w0,hw0⟩:∃w0,w0=w.alloc (xB x):=⟨_,rfl⟩;rw[<-hw0] at n0 n1 n2 b0;have oD:w.heap.size<w0.heap.size:=by rw[hw0];simp
 have h0:=h.below b0;have HT:=aj (qE now w0);have HP:=aj (SI x w0);have HS:=aj (iR.same h b0);have HB:=aj b0;have HOW:Hid (v.ownBlock≠some w.heap.size/\p≠w.heap.size):=aj ⟨λq=>by have:=(h.arr.lt _ q).2;omega,by have:=h.lt;omega⟩;by_cases ht:EI now=true/\xw x=true
 ·have HK:Hid (∀w1,ai w0 w1->fA w1 B p v l):=aj (λw1 hb=>h0.below hb);have HE:Hid (sK now x l=(if 10<=(bZ now l).length then 8 else 0)/\oC now x l=(if 10<=(bZ now l).length then bZ now l else bZ now l++[x])):=aj ⟨by unfold sK;rw[if_pos ht],by unfold oC;rw[if_pos ht]⟩;have hk:(bZ now l).length<=10:=ajA (akF _ _) hl;rw[ht.1] at HT;rw[ht.2] at HP;obtain⟨e1,e2⟩:=ah HE;rw[e1,e2];have HF:Hid (∀w1,ai w0 w1->Calls prog 82 #[ae p,aa now] w1 λe w'=>e=.returned (.tuple #[])/\iR w1 w' B p v (bZ now l)):=aj (λw1 hb=>qZ (h0.below hb) hl now)
  obtain⟨m,hm⟩:∃m,bZ now l=m:=⟨_,rfl⟩;rw[hm] at HF hk;rw[hm];clear e1 e2 hm HE ht h h0 HS HK b0;go_enter func43,ntmps43;go_wp2_with fail;rw[<-hw0];clear hw0;refine(ah HT).mono ?_;rintro e w1 ⟨rfl,hw⟩;rw[hw];clear hw;go_wp2_with fail;refine(ah HP).mono ?_;rintro e w1 ⟨rfl,b1⟩;have HF1:=aj (ah HF w1 b1);have m0:=(b1.cell (p:=aq w.heap.size 0) oD).trans n0;have m1:=(b1.cell (p:=aq w.heap.size 1) oD).trans n1;have m2:=(b1.cell (p:=aq w.heap.size 2) oD).trans n2;have hl1:w.heap.size<w1.heap.size:=ajz oD b1.size;have HB1:=aj ((ah HB).trans (b1.mono (amx oD)))
  clear n0 n1 n2 HT HP HF b1;go_wp2_with fail;refine(ah HF1).mono ?_;rintro e w2 ⟨rfl,hU⟩;have HU:=aj (iR.trans (aA.of_below (ah HB1)) (λ_ q=>.inl q) hU);obtain⟨v2,k2,c2,g2⟩:=hU;have hnA:¬qC p v w.heap.size:=λq=>by
   rcases q with q|q
   ·exact(ah HOW).2 q.symm
   ·exact(ah HOW).1 q
  have y0:=(c2.cell (p:=aq w.heap.size 0) hl1 hnA).trans m0;have y1:=(c2.cell (p:=aq w.heap.size 1) hl1 hnA).trans m1;have y2:=(c2.cell (p:=aq w.heap.size 2) hl1 hnA).trans m2;have hl2:w.heap.size<w2.heap.size:=ajz hl1 c2.size;have HM:=aj (k2.more hk x);have HG:=aj (And.intro c2 g2);obtain⟨a,cap,rfl,_⟩:=k2.arr.shape;have hc:=k2.cell;have hpl:=k2.lt;clear k2 c2 g2 hnA m0 m1 m2 HF1;by_cases h10:10<=m.length
  ·have g10:decide ((10:Int)<=(m.length:Int))=true:=ajH (by omega);go_wp2_with fail;go_ret;exact⟨rfl,ah HU⟩
  ·have g10:decide ((10:Int)<=(m.length:Int))=false:=ajE (by omega);obtain⟨a',m',c',w8,hrun,d0,f0,HM8⟩:=ah HM;have HU8:=aj (iR.trans (aA.of_below (ah HB1)) (λ_ q=>.inl q) (iR.trans (ah HG).1 (ah HG).2 (ah HM8)));clear HM HG HU HM8 hk;go_wp2_with fail;go_region_law (refine nK rfl _ _ 160 160 rfl (.slice a m.length cap) _ (by first|(simp[Act.eval];done)|(simp[Act.eval,Act.put];done)) (by first|(simp[Act.eval];done)|(simp[Act.eval,Act.put];done)) hrun ?_)
   all_goals
    go_wp2_with fail
    go_ret
    exact⟨rfl,ah HU8⟩
 ·have HE:Hid (sK now x l=1/\oC now x l=l):=aj ⟨by unfold sK;rw[if_neg ht],by unfold oC;rw[if_neg ht]⟩;obtain⟨e1,e2⟩:=ah HE;rw[e1,e2];clear e1 e2 HE;have HP2:Hid (xw x=false\/EI now=false):=aj (by
   cases q:EI now with
   | true=>exact .inl (by cases z:xw x with|true=>exact absurd ⟨q,z⟩ ht|false=>rfl)
   | false=>exact .inr rfl)
  clear ht h
  cases ht:EI now with
  | false =>
   rw[ht] at HT;clear HP2 ht h0;go_enter func43,ntmps43;go_wp2_with fail;rw[<-hw0];refine(ah HT).mono ?_;rintro e w1 ⟨rfl,hw⟩;rw[hw];clear hw hw0;go_wp2_with fail;go_ret;exact⟨rfl,ah HS⟩
  | true =>
   have hp:xw x=false:=by
    rcases ah HP2 with q|q
    ·exact q
    ·rw[ht] at q;cases q
   rw[ht] at HT;rw[hp] at HP;have HS2:=aj (λw1 (hb:ai w0 w1)=>iR.trans (v:=v) (aA.of_below (A:=qC p v) (ah HB)) (λ_ q=>.inl q) (iR.same (w':=w1) h0 hb));clear h0 HP2 ht hp b0;go_enter func43,ntmps43;go_wp2_with fail;rw[<-hw0];refine(ah HT).mono ?_;rintro e w1 ⟨rfl,hw⟩;rw[hw];clear hw hw0;go_wp2_with fail;refine(ah HP).mono ?_;rintro e w1 ⟨rfl,b1⟩;have HB1:=aj b1;clear b1;go_wp2_with fail;go_ret;exact⟨rfl,ah HS2 _ (ah HB1)⟩
theorem fA.less {g cap:Nat}{x:dD}{r:List dD}(h:fA w B p (.slice (some ⟨g,0,none⟩) (x::r).length cap) (x::r))(n:Int) :
 fA (w.setCell (aq g 0) (aa n)) B p (.slice (some ⟨g,0,none⟩) (x::r).length cap) (⟨n,x.t,x.nw⟩::r)/\aA (qC p (.slice (some ⟨g,0,none⟩) (x::r).length cap)) w (w.setCell (aq g 0) (aa n)):=by
 have hgp:g≠p:=λe=>h.apart (by rw[e];rfl)
 have hst:=(alV (show w.ownsRow B 53 3 (.slice (some ⟨g,0,none⟩) (x::r).length cap) (x::r).length (aI ((x::r).map wz)) from by
  have:=h.arr;unfold fQ bQ at this;rwa [akk] at this) 0 (aa n)).1
 refine⟨⟨?_,?_,h.base,?_,?_,h.apart⟩,?_⟩
 ·rw[ajD _ _ _ _ (by simp<;>omega)];exact h.cell
 ·rw[ajV];exact h.free
 ·have:=h.lt;simpa[World.setCell] using this
 ·unfold fQ bQ;rw[akk];exact hst
 ·exact(aA.refl _ _).setCell (.inl (.inr rfl)) _
theorem take_any (h:fA w B p v l)(ho:yO l)(now:Int) :
 Calls prog 85 #[ae p,aa now] w λe w'=>e=.returned (.tuple #[.bool (aaz now l),aa (RG now)])/\iR w w' B p v (ug now l):=by
 have hl:=ho.few;have HT:=aj (qE now w);have HF:=aj (qZ h hl now);have HS:=aj (iR.same h (agP _ _))
 cases ht:EI now with
 | true =>
  have HV:Hid (aaz now l=decide (0<(bZ now l).length)/\RG now=0/\ug now l=qB (bZ now l)):=aj ⟨by unfold aaz;rw[ht,akz],by unfold RG;rw[if_pos ht],by unfold ug;rw[if_pos ht]⟩;have hk:=ho.keep now;rw[ht] at HT;obtain⟨e1,e2,e3⟩:=ah HV;rw[e1,e2,e3];obtain⟨m,hm⟩:∃m,bZ now l=m:=⟨_,rfl⟩;rw[hm] at HF hk;rw[hm];clear h ht hl e1 e2 e3 hm HV HS ho
  cases m with
  | nil =>
   clear hk;go_enter func85,ntmps85;go_wp2_with fail;refine(ah HT).mono ?_;rintro e w1 ⟨rfl,hw⟩;rw[hw];clear hw;go_wp2_with fail;refine(ah HF).mono ?_;rintro e w1 ⟨rfl,hU⟩;have HU:=aj hU;obtain⟨v1,k1,cc,hg⟩:=hU;obtain⟨a,cap,rfl,z1⟩:=k1.arr.shape;have hc:=k1.cell;rw[show([]:List dD).length=0 from rfl] at hc;clear k1 cc hg z1 HF HT;go_wp2_with fail;go_ret2;exact⟨rfl,ah HU⟩
  | cons x r =>
   have hxb:=hk.one x (by simp);have hrl:=hk.few;clear hk;rw[ajX] at hrl;go_enter func85,ntmps85;go_wp2_with fail;refine(ah HT).mono ?_;rintro e w1 ⟨rfl,hw⟩;rw[hw];clear hw;go_wp2_with fail;refine(ah HF).mono ?_;rintro e w1 ⟨rfl,hU⟩;obtain⟨v1,k1,cc,hg⟩:=hU;obtain⟨g,cap,rfl,z1,z2,z3,z4⟩:=k1.arr.there (by simp);have hgp:g≠p:=λe=>k1.apart (by rw[e];rfl)
   have hc:=k1.cell;have hat:=(k1.arr.at (k:=0) (by simp)).c0;have hfr:=(bQ.free k1.arr).1 0;rw[Nat.zero_mul] at hat;rw[show(x::r)[0].b=x.b from rfl] at hat;obtain⟨k2,c2⟩:=k1.less (x.b-1);have hc2:=k2.cell;have ajb:(w1.setCell (aq g 0) (aa (x.b-1))).cell? (aq g 0)=some (aa (x.b-1)):=akf _ _ _ hat;have HG:=aj (And.intro cc hg);have hlen:(x::r).length=r.length+1:=rfl;have HC2:=aj c2;have yP:=aj k2;rw[hlen] at hc hc2;have g0:(((r.length:Int)+1)==0)=false:=by rw[ajM];omega
   have hpl:=k1.lt;by_cases h1:x.b-1=0
   ·have HV2:Hid (qB (x::r)=r):=aj (if_pos h1);have HD:Hid (Calls prog 129 #[.slice (some ⟨g,0,none⟩) (r.length+1) cap,aa 0,aa 1] (w1.setCell (aq g 0) (aa (x.b-1))) λe w'=>∃v',e=.returned v'/\fQ w' B v' r/\aA (λk=>(Value.slice (some ⟨g,0,none⟩) (r.length+1) cap).ownBlock=some k) (w1.setCell (aq g 0) (aa (x.b-1))) w'/\∀g',v'.ownBlock=some g'->(Value.slice (some ⟨g,0,none⟩) (r.length+1) cap).ownBlock=some g'\/(w1.setCell (aq g 0) (aa (x.b-1))).heap.size<=g'):=aj (NZ B _ (⟨x.b-1,x.t,x.nw⟩::r) 0 _ k2.arr (by simp) (by simp;omega));have g1:((x.b-1)==0)=true:=by rw[h1];rfl
    have HU:Hid (∀w' v',aA (λk=>(Value.slice (some ⟨g,0,none⟩) (r.length+1) cap).ownBlock=some k) (w1.setCell (aq g 0) (aa (x.b-1))) w'->fQ w' B v' r->(∀g',v'.ownBlock=some g'->(Value.slice (some ⟨g,0,none⟩) (r.length+1) cap).ownBlock=some g'\/(w1.setCell (aq g 0) (aa (x.b-1))).heap.size<=g')->iR w (w'.setCell (aq p 0) v') B p v (qB (x::r))):=aj (λw' v' hC hA hG=>by
     rw[ah HV2];exact iR.trans cc hg (iR.trans c2 (λ_ q=>.inl q) (iR.store k2 hC hA hG)))
    have HC:Hid (∀w',aA (λk=>(Value.slice (some ⟨g,0,none⟩) (r.length+1) cap).ownBlock=some k) (w1.setCell (aq g 0) (aa (x.b-1))) w'->w'.cell? (aq p 0)=some (.slice (some ⟨g,0,none⟩) (r.length+1) cap)/\w'.frozen? (aq p 0)=false):=aj (λw' hC=>⟨by rw[hC.cell (p:=aq p 0) k2.lt k2.apart];exact k2.cell,by rw[hC.frozen (p:=aq p 0) k2.lt k2.apart];exact k2.free⟩);clear k1 k2 c2 cc hg z1 HF HT z2 z3 h1 HV2 HG HC2 yP;go_wp2_with (go_at_call 129;refine(ah HD).mono ?_;rintro e w' ⟨v',rfl,hA,hC,hG⟩;obtain⟨x0,x1⟩:=ah HC w' hC;have HU2:=aj (ah HU _ _ hC hA hG);obtain⟨a',cap',rfl,z1⟩:=fQ.shape hA;clear z1 hA hC hG)
    go_ret2;exact⟨by simp,ah HU2⟩
   ·have HV2:Hid (qB (x::r)=⟨x.b-1,x.t,x.nw⟩::r):=aj (if_neg h1);have g1:((x.b-1)==0)=false:=by rw[ajM];exact h1
    clear k1 k2 c2 cc hg z1 HF HT z2 z3;go_wp2_with fail;go_ret2;refine⟨by simp,?_⟩;rw[ah HV2];exact iR.trans (ah HG).1 (ah HG).2 ⟨_,ah yP,ah HC2,λ_ q=>.inl q⟩
 | false =>
  have HV:Hid (aaz now l=false/\RG now=1/\ug now l=l):=aj ⟨by unfold aaz;rw[ht,akH],by unfold RG;rw[if_neg (by simp[ht])],by unfold ug;rw[if_neg (by simp[ht])]⟩;rw[ht] at HT;obtain⟨e1,e2,e3⟩:=ah HV;rw[e1,e2,e3];clear h ht hl e1 e2 e3 ho;go_enter func85,ntmps85;go_wp2_with fail;refine(ah HT).mono ?_;rintro e w1 ⟨rfl,hw⟩;rw[hw];clear hw;go_wp2_with fail;go_ret2;exact⟨rfl,ah HS⟩
end
