/- A part. -/
import Derived.Test.YtebofkkfbkodiaaGreatDoorQ17
set_option maxRecDepth 100000
set_option maxHeartbeats 8000000
namespace Go.Proofs.YtebofkkfbkodiaaGreatDoor
open Go.RowKit Go.Proofs.Tryz
namespace Dk
variable {w':I}{l:List Dv}{cap:Nat}
def Ih (p:Dv):rZ:=⟨aa p.q,aa p.n,aa p.d⟩
theorem WL (p:Dv):Ia (Ih p):=⟨rfl,rfl,rfl⟩
theorem aeW (l:List Dv):∀x∈l.map Ih,Ia x:=λx hx=>by
 obtain⟨p,_,rfl⟩:=alh.1 hx;exact WL p
abbrev dvV (p:Dv):Value:=.agg #[aa p.q,aa p.n,aa p.d]
abbrev YC (p:Dv):Obj:=.cells #[aa p.q,aa p.n,aa p.d] 148
structure DvC (w:I)(b o:Nat)(p:Dv):Prop where
 lt:b<w.heap.size
 c0:w.cell? (aq b o)=some (aa p.q)
 c1:w.cell? (aq b (o+1))=some (aa p.n)
 c2:w.cell? (aq b (o+2))=some (aa p.d)
theorem DvC.aF {A:af}{w:I}{b o:Nat}{x:Dv}(h:DvC w b o x)(hc:aA A w w')(hn:¬A b):DvC w' b o x :=
 ⟨ajz h.lt hc.size,by rw[hc.cell (p:=aq b o) h.lt hn];exact h.c0,by rw[hc.cell (p:=aq b (o+1)) h.lt hn];exact h.c1,by rw[hc.cell (p:=aq b (o+2)) h.lt hn];exact h.c2⟩
def fC (w:I)(B:Nat)(v:Value)(l:List Dv):Prop:=bQ 148 w B v (l.map Ih)
def SlV (w:I)(a:Option Addr)(l:List Dv):Prop:=∀k (hk:k<l.length),∃b o,a=some ⟨b,o,none⟩/\DvC w b (o+k*3) l[k]
theorem SlV.aF {A:af}{w w':I}{a:Option Addr}{l:List Dv}(h:SlV w a l)(hc:aA A w w')(hn:∀p,a=some p->¬A p.block):SlV w' a l:=λk hk=>by
 obtain⟨b,o,h1,h2⟩:=h k hk;exact⟨b,o,h1,h2.aF hc (hn _ h1)⟩
theorem SlV.below {w:I}{a:Option Addr}(h:SlV w a l)(hb:ai w w'):SlV w' a l:=h.aF (A:=λ_=>False) (aA.of_below hb) (λ_ _ z=>z)
theorem abN {k:Nat}(hk:k<l.length):tr (l.map Ih) k=Ih l[k]:=by rw[SE (by simpa using hk),List.getElem_map]
theorem fC.at {w:I}{B g cap n:Nat}{l:List Dv}(h:fC w B (.slice (some ⟨g,0,none⟩) n cap) l){k:Nat}(hk:k<l.length):DvC w g (k*3) l[k]:=by
 have:=bQ.at h (k:=k) (by simpa using hk);rw[abN hk] at this;exact⟨this.lt,this.c0,this.c1,this.c2⟩
theorem fC.shape {w:I}{B:Nat}{v:Value}{l:List Dv}(h:fC w B v l):∃a cap,v=.slice a l.length cap/\l.length<=cap/\cap<=maxLen/\SlV w a l/\∀p,a=some p->v.ownBlock=some p.block:=by
 obtain⟨a,cap,h1,h2,h3,h4,h5⟩:=bQ.shape h;rw[akk] at h1 h2;refine⟨a,cap,h1,h2,h3,λk hk=>?_,h5⟩;obtain⟨b,o,e,t⟩:=h4 k (by simpa using hk);rw[abN hk] at t;exact⟨b,o,e,t.lt,t.c0,t.c1,t.c2⟩
theorem fC.there {w:I}{B:Nat}{v:Value}{l:List Dv}(h:fC w B v l)(hn:0<l.length):∃g cap,v=.slice (some ⟨g,0,none⟩) l.length cap/\l.length<=cap/\cap<=maxLen/\B<=g/\g<w.heap.size:=by
 have:=bQ.there h (by simpa using hn);rwa [akk] at this
theorem fC.below {w w':I}{B:Nat}{v:Value}{l:List Dv}(h:fC w B v l)(hb:ai w w'):fC w' B v l:=bQ.below h hb
theorem fC.set {w:I}{B g cap:Nat}{l:List Dv}(h:fC w B (.slice (some ⟨g,0,none⟩) l.length cap) l){k:Nat}(hk:k<l.length)(x:Dv):fC (w.setCells g (k*3) [aa x.q,aa x.n,aa x.d]) B (.slice (some ⟨g,0,none⟩) l.length cap) (l.set k x):=by
 unfold fC at h ⊢;have e:l.length=(l.map Ih).length:=by rw[akk]
 rw[e] at h ⊢;have:=bQ.set h (k:=k) (by simpa using hk) (Ih x);rw[List.map_set];exact this
theorem afR:(prog.info? 148).map (λi=>(i.zero,i.size,i.bytes))=some (some (.agg #[aa 0,aa 0,aa 0]),3,24):=by kernel_rfl
theorem YD (w:I)(B:Nat)(ty:TypeId)(v:Value)(l:List Dv)(p:Dv)(ha:fC w B v l)(a:Addr)(c:Nat)(hnews:∀j u,(aI [Ih p])[j]?=some u->w.cell? (a.add j)=some u)(hl:l.length+1<=1000000)(hB:B<=w.heap.size) :
 ∃v' w',(Builtin.append_ #[143,143] ty #[v,.slice (some a) 1 c]).run prog w=.ok v' w'/\fC w' B v' (l++[p])/\aA (λk=>v.ownBlock=some k) w w'/\∀g,v'.ownBlock=some g->v.ownBlock=some g\/w.heap.size<=g:=by
 have:=EF (P:=prog) 143 148 _ 24 underlying143 afR rfl ⟨by omega,by omega⟩ w B ty v (l.map Ih) [Ih p] ha a c hnews (λx hx=>by rw[akd] at hx;subst hx;exact WL p) (by simpa using hl) hB;unfold fC;rw[akt];exact this
theorem FP:∀l:List Dv,aI (l.map Ih)=xO l
 | []=>rfl
 | p::l=>by simp[xO,aI,Ih,FP l]
theorem jc.tri {w:I}{B:Nat}{v:Value}(h:jc w B v l):fC w B v l:=by
 unfold fC bQ;rw[akk,FP];exact h
theorem fC.aeX {w:I}{B:Nat}{v:Value}(h:fC w B v l):jc w B v l:=by
 unfold fC bQ at h;rw[akk,FP] at h;exact h
theorem agn (x:rZ)(n:Nat):Hw (.agg #[x.a,x.b,x.c]) n=aI (List.replicate n x):=by
 apply List.ext_getElem
 ·rw[lH _ _ rfl,aP,List.length_replicate]
 ·intro i h1 h2;have hi:i<n*3:=by rw[lH _ _ rfl] at h1;exact h1
  have e1:(Hw (.agg #[x.a,x.b,x.c]) n)[i]=#[x.a,x.b,x.c][i % 3]!:=by simp[Hw,Builtin.zeroCells,Value.cells]
  have hat:=KR (List.replicate n x) (i / 3) (by rw[List.length_replicate];omega);have etr:tr (List.replicate n x) (i / 3)=x:=by rw[SE (by rw[List.length_replicate];omega),List.getElem_replicate]
  rw[etr] at hat;have e2:(aI (List.replicate n x))[i]?=some (aI (List.replicate n x))[i]:=ajC h2;rw[e1];have hr:i % 3=0\/i % 3=1\/i % 3=2:=by omega
  rcases hr with hr|hr|hr
  ·rw[show i / 3*3=i by omega,e2] at hat;rw[hr,ajU hat.1];rfl
  ·have h3:=hat.2.1;rw[show i / 3*3+1=i by omega,e2] at h3;rw[hr,ajU h3];rfl
  ·have h3:=hat.2.2;rw[show i / 3*3+2=i by omega,e2] at h3;rw[hr,ajU h3];rfl
theorem bQ.seg {t:TypeId}{w:I}{B g:Nat}{a m r m':List rZ}(h:bQ t w B (.slice (some ⟨g,0,none⟩) (a++m++r).length cap) (a++m++r))(hm:m'.length=m.length):bQ t (w.setCells g (a.length*3) (aI m')) B (.slice (some ⟨g,0,none⟩) (a++m++r).length cap) (a++m'++r):=by
 have ha:=aP a;have hm1:=aP m;have hm2:=aP m';have o:=kE (aI m') (a.length*3) w _ h (by rw[aP,aP,ajB,ajB];omega);have e:(aI (a++m++r)).take (a.length*3)++aI m'++(aI (a++m++r)).drop (a.length*3+(aI m').length)=aI (a++m'++r):=by
  have e1:(aI (a++m++r)).take (a.length*3)=aI a:=by
   rw[bY,bY,aku,ajQ (by omega),ajR (by omega)]
  have e2:(aI (a++m++r)).drop (a.length*3+(aI m').length)=aI r:=by
   rw[bY,List.drop_append_of_le_length (by rw[bY,ajB];omega),aki (by rw[bY,ajB];omega),akD]
  rw[e1,e2,bY,bY]
 rw[e] at o;unfold bQ;rw[show(a++m'++r).length=(a++m++r).length by simp[hm]];exact o
theorem fC.agp {w:I}{B g:Nat}{a m r:List Dv}(h:fC w B (.slice (some ⟨g,0,none⟩) (a++m++r).length cap) (a++m++r)):fC (w.setCells g (a.length*3) (Hw (.agg #[aa 0,aa 0,aa 0]) m.length)) B (.slice (some ⟨g,0,none⟩) (a++m++r).length cap) (a++List.replicate m.length ⟨0,0,0⟩++r):=by
 unfold fC at h ⊢;have e:(a++m++r).length=(a.map Ih++m.map Ih++r.map Ih).length:=by simp
 rw[akt,akt,e] at h;rw[akt,akt,List.map_replicate,e,show Hw (.agg #[aa 0,aa 0,aa 0]) m.length=aI (List.replicate m.length (Ih ⟨0,0,0⟩)) from agn (Ih ⟨0,0,0⟩) m.length];have:=bQ.seg (m':=List.replicate m.length (Ih ⟨0,0,0⟩)) h (by simp);rw[akk] at this;exact this
section
variable {g:Nat}{lb:Array Value}{p:Dv->Bool}
theorem FQ (eg:∀args w,(callFunc g args).run prog w=.ok (.enter g args) w)(a:Option Addr)(cap:Nat)(l:List Dv)(w:I)(hsl:SlV w a l)(hl:l.length<=1000000)
 (hp:∀W,ai w W->∀x∈l,Calls prog g (#[dvV x]++lb) W λe w'=>e=.returned (.bool (p x))/\ai W w') :
 Calls prog 199 #[.slice a l.length cap,.func (.func g) #[] lb] w λe w'=>e=.returned (aa (EH p l))/\ai w w':=by
 have Hp:=aj hp;have Hs:=aj hsl;obtain⟨N,hN⟩:∃N,l.length=N:=⟨_,rfl⟩;have HN:=aj hN;rw[hN] at hl;rw[hN];clear hp hsl hN;go_enter func199,ntmps199;go_wp2;go_loopw [8] (λiv wr=>∃(i:Nat),iv=aa i/\i<=N/\Hid (∀k (hk:k<l.length),k<i->p l[k]=false)/\Hid (ai w wr)) (λiv _=>N-(intOf iv).toNat)
 case atStart=>exact⟨0,rfl,ajO _,aj (λk _ hk=>absurd hk (akh k)),aj (agP _ _)⟩
 case round =>
  obtain⟨i,rfl,hi,hlo,BW⟩:=hrel;by_cases hlt:i<N
  ·have hil:i<l.length:=by rw[ah HN];exact hlt
   obtain⟨b,o,rfl,t⟩:=(ah Hs).below (ah BW) i hil;obtain⟨_,c0,c1,c2⟩:=t;have H:=aj (ah Hp wr (ah BW) l[i] (ako _));obtain⟨x,hx⟩:∃x,l[i]=x:=⟨_,rfl⟩;have HX:=aj hx;rw[hx] at c0 c1 c2 H;clear hx
   cases he:p x with
   | true =>
    have HV:=aj (NT hil (by rw[ah HX];exact he) (ah hlo));rw[he] at H;clear he HX hil;go_wp2_with (go_at_fn g;refine(ah H).mono ?_;rintro e w' ⟨rfl,hb'⟩);go_ret;rw[ah HV];exact⟨rfl,ak (ah BW) hb'⟩
   | false =>
    have HL:Hid (∀k (hk:k<l.length),k<i+1->p l[k]=false):=aj (λk hk q=>by
     rcases akI.1 q with z|z
     ·exact ah hlo k hk z
     ·subst z;rw[ah HX];exact he)
    rw[he] at H;clear he HX hil;go_wp2_with (go_at_fn g;refine(ah H).mono ?_;rintro e w' ⟨rfl,hb'⟩);refine⟨⟨i+1,by go_num,by omega,HL,aj (ak (ah BW) hb')⟩,?_⟩;simp[intOf];omega
  ·obtain rfl:i=N:=by omega
   have HV:=aj (IU (p:=p) (l:=l) (λk hk=>ah hlo k hk (by rw[<-ah HN];exact hk)));go_wp2_with fail;go_ret;rw[ah HV];exact⟨rfl,ah BW⟩
end
theorem abO (w:I)(x:Dv)(t:TypeId):let W:=w.alloc (.cells #[aa x.q,aa x.n,aa x.d] t)
 W.cell? (aq w.heap.size 0)=some (aa x.q)/\W.cell? (aq w.heap.size 1)=some (aa x.n)/\W.cell? (aq w.heap.size 2)=some (aa x.d):=by
 refine⟨?_,?_,?_⟩<;>(rw[aky _ w.heap.size _ _ _ _ (akv w _)];rfl)
section
variable {g:Nat}{lb:Array Value}{p:Dv->Bool}
theorem Qj (eg:∀args w,(callFunc g args).run prog w=.ok (.enter g args) w)(b cap B:Nat)(l rest:List Dv)(w:I)(ha:fC w B (.slice (some ⟨b,0,none⟩) (l++rest).length cap) (l++rest))(hl:l.length<=1000000)
 (hp:∀W,aA (λk=>k=b) w W->∀x∈l,Calls prog g (#[dvV x]++lb) W λe w'=>e=.returned (.bool (p x))/\ai W w') :
 Calls prog 151 #[.slice (some ⟨b,0,none⟩) l.length cap,.func (.func g) #[] lb] w λe w'=>e=.returned (.slice (some ⟨b,0,none⟩) (l.filter (λx=>!p x)).length cap)/\fC w' B (.slice (some ⟨b,0,none⟩) (l++rest).length cap) (l.filter (λx=>!p x)++List.replicate (l.length-(l.filter (λx=>!p x)).length) ⟨0,0,0⟩++rest)/\aA (λk=>k=b) w w':=by
 have Ha:=aj ha;have Hp:=aj hp;obtain⟨a1,cap1,e1,hcap,hmax,hsl,hown⟩:=ha.shape;obtain⟨rfl,_,rfl⟩:=akE e1;clear e1;have hsl2:SlV w (some ⟨b,0,none⟩) l:=λk hk=>by
  obtain⟨b2,o2,e2,t2⟩:=hsl k (by rw[ajB];omega);rw[List.getElem_append_left hk] at t2;exact⟨b2,o2,e2,t2⟩
 rw[ajB] at hcap;have HI:=aj (FQ (p:=p) eg (some ⟨b,0,none⟩) cap l w hsl2 hl (λW hb=>hp W (aA.of_below hb)));obtain⟨M,hM⟩:∃M,(l++rest).length=M:=⟨_,rfl⟩;rw[hM] at Ha;rw[hM];have HM0:=aj hM;rcases IV p l with ⟨e1,hall⟩|⟨i,hil,e1,hpi,hlo⟩
 ·have HF:=aj (yN hall);rw[e1] at HI;clear hp hsl hsl2 ha hall e1 hown hM;go_enter func151,ntmps151;go_wp2_with (go_at_call 199;refine(ah HI).mono ?_;rintro e w' ⟨rfl,hb'⟩);go_ret;rw[ah HF,anp];exact⟨rfl,by simpa using (ah Ha).below hb',aA.of_below hb'⟩
 ·obtain⟨k1,k2⟩:=EG hil hlo hpi;rw[e1] at HI;have K1:=aj k1;have K2:=aj k2;obtain⟨N,hN⟩:∃N,l.length=N:=⟨_,rfl⟩;have HN:=aj hN;have hne1:((i:Int)==-1)=false:=ajM.2 (by omega);rw[hN] at HI hl hcap;rw[hN];have hiN:i<N:=by omega
  clear hp hsl hsl2 ha e1 hown k1 k2 hlo hpi hil hN hM;go_enter func151,ntmps151;go_wp2_with (go_at_call 199;refine(ah HI).mono ?_;rintro e w1 ⟨rfl,hb1⟩);go_loopw [5,6,7] (λiv jv _ wr=>∃j:Nat,iv=aa ((dH p l j).length:Int)/\jv=aa j/\j<=N/\(dH p l j).length<j/\Hid (fC wr B (.slice (some ⟨b,0,none⟩) M cap) (jV p l j++rest))/\Hid (aA (λk=>k=b) w wr)) (λ_ jv _ _=>N-(intOf jv).toNat)
  case atStart=>exact⟨i+1,by rw[ah K1],by go_num,by omega,by rw[ah K1];omega,aj (by rw[ah K2];exact(ah Ha).below hb1),aj (aA.of_below hb1)⟩
  case round =>
   obtain⟨j,rfl,rfl,hj,hij,AW,CW⟩:=hrel;by_cases hlt:j<N
   ·have hjl:j<l.length:=by rw[ah HN];exact hlt
    have hjm:j<(jV p l j).length:=by rw[jh];exact hjl
    have hjr:j<(jV p l j++rest).length:=by rw[ajB];omega
    obtain⟨hbl,c0,c1,c2⟩:=(ah AW).at hjr;rw[List.getElem_append_left hjm,VD hjl hjm] at c0 c1 c2;have him:(dH p l j).length<(jV p l j).length:=by omega
    have hir:(dH p l j).length<(jV p l j++rest).length:=by omega
    have hN2:(jV p l j).length=N:=by rw[jh];exact ah HN
    have hM2:(jV p l j++rest).length=M:=by rw[ajB,jh,<-ajB];exact ah HM0
    obtain⟨x,hx⟩:∃x,l[j]=x:=⟨_,rfl⟩;have HX:=aj hx;rw[hx] at c0 c1 c2;have bA:ai wr (wr.alloc (YC x)):=ax _ _;have cA:=aj ((ah CW).trans (aA.of_below bA));have H:=aj (ah Hp (wr.alloc (YC x)) (ah cA) x (by rw[<-hx];exact ako _));obtain⟨n0,n1,n2⟩:=abO wr x 148;have BA:=aj bA;have AA:=aj ((ah AW).below bA);clear hx bA;have hb0:b<(wr.alloc (YC x)).heap.size:=by simp;omega
    have hnb:wr.heap.size≠b:=by omega
    cases he:p x with
    | false =>
     have HM:=aj (IQ (p:=p) hjl (by rw[ah HX];exact he));have HK:=aj (congrArg List.length (xu (p:=p) hjl (by rw[ah HX];exact he)));rw[he] at H;rw[ah HX] at HM;obtain⟨i,hi⟩:∃i,(dH p l j).length=i:=⟨_,rfl⟩;rw[hi] at hij him hir HM;rw[ajB,hi,akR] at HK;have hti:=(ah AA).at hir;obtain⟨y,hy⟩:∃y,(jV p l j++rest)[i]=y:=⟨_,rfl⟩;rw[hy] at hti;have hfr:=aj ((bQ.free (ah AA))).1;have HIM:=aj him;rw[hi];clear he hjm hjr him hir hi hy HX;go_wp2_with (go_at_fn g;refine(ah H).mono ?_;rintro e w' ⟨rfl,hb'⟩;have m0:=(hb'.cell (p:=aq wr.heap.size 0) (by simp)).trans n0;have m1:=(hb'.cell (p:=aq wr.heap.size 1) (by simp)).trans n1;have m2:=(hb'.cell (p:=aq wr.heap.size 2) (by simp)).trans n2;have t0:=(hb'.cell (p:=aq b (i*3)) hb0).trans hti.c0;have t1:=(hb'.cell (p:=aq b (i*3+1)) hb0).trans hti.c1;have t2:=(hb'.cell (p:=aq b (i*3+2)) hb0).trans hti.c2;have f0:=(hb'.frozen (p:=aq b (i*3)) hb0).trans (ah hfr _);have f1:=(hb'.frozen (p:=aq b (i*3+1)) hb0).trans (ah hfr _);have f2:=(hb'.frozen (p:=aq b (i*3+2)) hb0).trans (ah hfr _))
     have A1:=(ah AA).below hb';rw[<-hM2] at A1;have A2:=A1.set (k:=i) (by rw[ajB];have:=ah HIM;omega) x;rw[hM2,List.set_append_left _ _ (ah HIM),<-ah HM] at A2;refine⟨⟨j+1,by rw[ah HK];go_num,by go_num,by omega,by rw[ah HK];omega,aj A2,aj (((ah cA).trans (aA.of_below hb')).trans (jw [aa x.q,aa x.n,aa x.d] (i*3) w'))⟩,?_⟩;simp[intOf];omega
    | true =>
     have HM:=aj (IL (p:=p) hjl (by rw[ah HX];exact he));have HK:=aj (qY (p:=p) hjl (by rw[ah HX];exact he));rw[he] at H;clear HX hjl hjm hjr him hir he;go_wp2_with (go_at_fn g;refine(ah H).mono ?_;rintro e w' ⟨rfl,hb'⟩);refine⟨⟨j+1,by rw[ah HK],by go_num,by omega,by rw[ah HK];omega,aj (by rw[ah HM];exact(ah AA).below hb'),aj ((ah cA).trans (aA.of_below hb'))⟩,?_⟩;simp[intOf];omega
   ·obtain rfl:j=N:=by omega
    obtain⟨i,hi⟩:∃i,(dH p l j).length=i:=⟨_,rfl⟩;rw[hi] at hij;rw[hi];have hfr:=aj ((bQ.free (ah AW))).1;have hsp:=aj ((bQ.free (ah AW))).2;have hcl:∀ty,(Builtin.clear_ #[143] ty #[.slice (some ⟨b,i*3,none⟩) (j-i) (cap-i)]).run prog wr=.ok (.tuple #[]) (wr.setCells b (i*3) (Hw (.agg #[aa 0,aa 0,aa 0]) (j-i))):=λty =>
     lU (P:=prog) 143 148 ty _ underlying143 Tryz.zeroValue148 rfl (λk hk=>by
      match k,hk with
      | 0,_=>rfl
      | 1,_=>rfl
      | 2,_=>rfl) wr b (i*3) (j-i) (cap-i) (by omega) (λk hk=>ah hsp _ (by omega)) (λk hk=>ah hfr _)
    have q1:¬(cap=i):=by omega
    have HI2:=aj hi;clear hi;go_wp2_with fail;go_ret;have hk2:dH p l j=l.filter (λx=>!p x):=by rw[<-ah HN];exact IK p l
    have hi2:=ah HI2;rw[hk2] at hi2;have A1:=ah AW;have em:jV p l j=l.filter (λx=>!p x)++l.drop (l.filter (λx=>!p x)).length:=by unfold jV;rw[hk2]
    have hdl:(l.drop (l.filter (λx=>!p x)).length).length=j-i:=by rw[ajI,ah HN,hi2]
    have hM2:(l.filter (λx=>!p x)++l.drop (l.filter (λx=>!p x)).length++rest).length=M:=by rw[<-em,ajB,jh,<-ajB];exact ah HM0
    rw[em,<-hM2] at A1;have A2:=A1.agp;rw[hM2,hdl,hi2] at A2;refine⟨by rw[hi2];rfl,?_,(ah CW).trans (jw _ _ _)⟩;rw[hi2];exact A2
end
end Dk
namespace Dk
open Go.Deep
theorem YE (es:List rZ)(z:List Value)(i d m:Nat)(hn:es.length=i+d+m) :
 ((((aI es).take (i*3)++(aI es).drop ((i+d)*3)++(aI es).drop (i*3+((aI es).drop ((i+d)*3)).length)).take ((i+m)*3)++z++((aI es).take (i*3)++(aI es).drop ((i+d)*3)++(aI es).drop (i*3+((aI es).drop ((i+d)*3)).length)).drop ((i+m)*3+z.length)).take ((i+m)*3))=aI (es.take i++es.drop (i+d)):=by
 have hcl:(aI es).length=(i+d+m)*3:=by rw[aP,hn]
 have h1:((aI es).take (i*3)++(aI es).drop ((i+d)*3)).length=(i+m)*3:=by rw[ajB,ajL,ajI,hcl];omega
 have h2:((aI es).take (i*3)++(aI es).drop ((i+d)*3)++(aI es).drop (i*3+((aI es).drop ((i+d)*3)).length)).take ((i+m)*3)=(aI es).take (i*3)++(aI es).drop ((i+d)*3):=by
  rw[ajQ (by omega),ajR (by omega)]
 rw[h2,aku ((aI es).take (i*3)++(aI es).drop ((i+d)*3)),ajQ (by omega),ajR (by omega)];rw[bY,vF,vG]
theorem Ui (B g c i j d m:Nat)(es:List rZ)(w:I)(hn:es.length=j+m)(ha:bQ 148 w B (.slice (some ⟨g,0,none⟩) (j+m) c) es)(kQ:es.length<=1000000)(hc:j+m<=c)(ho:∀x∈es,Ia x)(hd:0<d)(hj:i+d=j) :
 Calls prog 72 #[.slice (some ⟨g,0,none⟩) (j+m) c,aa i,aa j] w λe w' =>
  e=.returned (.slice (some ⟨g,0,none⟩) (i+m) c)/\w'=(w.drew.setCells g (0+i*3) ((aI es).drop (j*3))).setCells g ((i+m)*3) (Hw (.agg #[aa 0,aa 0,aa 0]) d):=by
 obtain⟨i0,hi0,hz0,hz1,hz2⟩:=alq afR;obtain⟨news,hnews⟩:∃news,news=(aI es).drop (j*3):=⟨_,rfl⟩;have hlen:news.length=m*3:=by rw[hnews,ajI,aP,hn];omega
 obtain⟨cur,hg,hcs⟩:∃cur,w.heap[g]?=some (.cells cur 148 (0,0))/\cur.size=c*3:=by
  rcases ha.2 with ⟨q,_⟩|⟨g',cap',cur,q,h2,h3,h4,h5,h6,h7⟩
  ·cases q
  ·simp only[alk,akB,alS,aml] at q;obtain⟨rfl,_,rfl⟩:=q;exact⟨cur,h3,h6⟩
 have hsp:∀j,j<c*3->(w.cell? (aq g j)).isSome=true:=by
  intro j hj;rw[aky w g j _ _ _ hg,alf (by omega)];rfl
 have hfz:∀j,w.frozen? (aq g j)=false:=λj=>alz w g j _ _ hg
 have hcell:∀j u,(aI es)[j]?=some u->w.cell? (aq g j)=some u:=by
  intro j u hj;exact ha.cell j u hj
 obtain⟨A,hA,hsrc⟩:∃A:Addr,(if c=j then some (⟨g,0,none⟩:Addr) else some ⟨g,j*3,none⟩)=some A/\Hid (∀t u,news[t]?=some u->w.drew.cell? (A.add t)=some u):=by
  by_cases h:c=j
  ·refine⟨⟨g,0,none⟩,by simp[h],λt u hu=>?_⟩;have h0:news.length=0:=by rw[hlen];omega
   rw[ajZ.1 h0] at hu;simp at hu
  ·refine⟨⟨g,j*3,none⟩,by simp[h],λt u hu=>?_⟩;rw[alg];refine hcell _ u ?_;rw[hnews,akG] at hu;exact hu
 have s1:=aj hlen;have s2:Hid (∀u∈news,u.oneCell'=true):=by
  intro u hu;rw[hnews] at hu;exact tZ es ho u (akP hu)
 have s3:Hid (∀t,t<news.length->(w.drew.cell? (aq g (0+i*3+t))).isSome=true/\w.drew.frozen? (aq g (0+i*3+t))=false):=by
  intro t ht;rw[hlen] at ht;exact⟨hsp _ (by omega),hfz _⟩
 obtain⟨W1,hW1⟩:∃W1,W1=w.drew.setCells g (0+i*3) news:=⟨_,rfl⟩;have hcl:∀ty c',(Builtin.clear_ #[143] ty #[.slice (some ⟨g,(i+m)*3,none⟩) d c']).run prog W1=.ok (.tuple #[]) (W1.setCells g ((i+m)*3) (Hw (.agg #[aa 0,aa 0,aa 0]) d)):=λty c' =>
  lU (P:=prog) 143 148 ty _ underlying143 Tryz.zeroValue148 rfl (λk hk=>by
   match k,hk with
   | 0,_=>rfl
   | 1,_=>rfl
   | 2,_=>rfl) W1 g ((i+m)*3) d c' (by omega) (λj hj=>by
   rw[hW1];exact isSome_setCells g news (0+i*3) w.drew (λt ht=>hsp _ (by rw[hlen] at ht;omega)) _ (hsp _ (by omega)))
   (λj hj=>by rw[hW1,ala];exact hfz _)
 have hW:Hid (W1=w.drew.setCells g (0+i*3) news):=hW1;rw[<-hnews];clear hW1 hsp hfz hcell hg ha hnews hlen hz0 hz2;have hic:i<=c:=by omega
 have hjc:j<=c:=by omega
 have b1:(0:Int)<=(j:Int):=by omega
 have b2:(j:Int)<=(j:Int)+(m:Int):=by omega
 have q1:¬(c=i+m):=by omega
 have q2:j+m-(i+m)=d:=by omega
 have q3:((i:Int)==(j:Int))=false:=ajM.2 (by omega);go_enter func72,ntmps72;go_wp2_with fail;go_region_law (refine step_append_room rfl (.tmp 22) (.tmp 25) 143 rfl 148 i0 3 underlying143 hi0 hz1 g 0 i c (by simp[Act.eval,Act.put]) A m (c-j) news (by simp[Act.eval,Act.put]) s1.out hsrc.out s2.out (by omega) s3.out ?_;rw[<-hW.out])
 go_wp2;go_ret;exact⟨rfl,by rw[hW.out]⟩
theorem zQ (a:Option Addr)(n cap i:Nat)(w:I)(hi:i<=n)(hn:n<=cap) :
 Calls prog 72 #[.slice a n cap,aa i,aa i] w λe w'=>e=.returned (.slice a n cap)/\w'=w:=by
 have hic:i<=cap:=by omega
 cases a with
 | none =>
  go_enter func72,ntmps72;go_wp2_with fail;go_ret;exact⟨rfl,rfl⟩
 | some z =>
  go_enter func72,ntmps72;go_wp2_with fail;all_goals
   go_ret
   exact⟨rfl,rfl⟩
theorem pV (B:Nat)(v:Value)(x y z:List Dv)(w:I)(ha:fC w B v (x++y++z))(kQ:(x++y++z).length<=1000000)(hy:0<y.length)(j:Nat)(hjj:x.length+y.length=j) :
 Calls prog 72 #[v,aa x.length,aa j] w λe w'=>∃v',e=.returned v'/\fC w' B v' (x++z)/\aA (λk=>v.ownBlock=some k) w w'/\∀g,v'.ownBlock=some g->v.ownBlock=some g\/w.heap.size<=g:=by
 obtain⟨es,hes⟩:∃es,es=(x++y++z).map Ih:=⟨_,rfl⟩;obtain⟨i,hix⟩:∃i,x.length=i:=⟨_,rfl⟩;obtain⟨d,hdy⟩:∃d,y.length=d:=⟨_,rfl⟩;obtain⟨m,hmz⟩:∃m,z.length=m:=⟨_,rfl⟩;have hn:es.length=i+d+m:=by rw[hes,akk,ajB,ajB,hix,hdy,hmz]
 have ho:∀x∈es,Ia x:=by rw[hes];exact aeW _
 have hfin:(x++z).map Ih=es.take i++es.drop (i+d):=by
  rw[hes,<-hix,<-hdy];simp only[akt];rw[ajQ (by simp),ajQ (by simp),ajR (by simp),List.drop_append_of_le_length (by simp),aki (by simp),akD]
 unfold fC at ha ⊢;rw[hfin];rw[<-hes] at ha;have h10:es.length<=1000000:=by rw[hes,akk];exact kQ
 rw[hix,hdy] at hjj;rw[hix];rw[hdy] at hy;subst hjj;clear hes hfin kQ hix hdy hmz;obtain⟨g,cap,rfl,c1,c2,c3,c4⟩:=ha.there (by omega);rw[hn] at ha c1 ⊢;refine(Ui B g cap i (i+d) d m es w hn ha h10 c1 ho hy rfl).mono ?_;rintro e w' ⟨rfl,rfl⟩;refine⟨_,rfl,?_,?_,λg' hg'=>.inl hg'⟩
 ·have o0:w.drew.ownsRow B 148 3 (.slice (some ⟨g,0,none⟩) (i+d+m) cap) (i+d+m) (aI es):=by
   unfold bQ at ha;rw[hn] at ha;exact ha
  have hcl:(aI es).length=(i+d+m)*3:=by rw[aP,hn]
  have hdl:((aI es).drop ((i+d)*3)).length=m*3:=by rw[ajI,hcl];omega
  have hzl:(Hw (.agg #[aa 0,aa 0,aa 0]) d).length=d*3:=lH _ d rfl;have o1:=kE ((aI es).drop ((i+d)*3)) (i*3) _ _ o0 (by rw[hcl,hdl];omega);have o2:=kE (Hw (.agg #[aa 0,aa 0,aa 0]) d) ((i+m)*3) _ _ o1 (by
   simp only[ajB,ajL,ajI,hcl,hzl];omega)
  have o3:=qX (k:=i+m) o2 (by omega);rw[YE es _ i d m hn] at o3;unfold bQ;rw[ajB,ajL,ajI,hn,show min i (i+d+m)+(i+d+m-(i+d))=i+m by omega,ajT];exact o3
 ·have c:aA (λk=>k=g) w w.drew:=⟨rfl,rfl,rfl,agH _,λ_ _ _=>rfl⟩;exact((c.trans (jw _ _ _)).trans (jw _ _ _)).mono (λk _ hk=>by rw[hk];rfl)
end Dk
namespace Dk
theorem Jz:∀args w,(callFunc 152 args).run prog w=.ok (.enter 152 args) w:=enters_of func152 (by kernel_rfl) rfl
theorem FT (p:Dv)(now:Int)(b:Nat)(w:I)(hb:w.cell? (aq b 0)=some (aa now))(hl:b<w.heap.size) :
 Calls prog 152 #[dvV p,ae b] w λe w'=>e=.returned (.bool (decide (p.d<=now)))/\ai w w':=by
 have B0:=aj (show ai w (w.alloc (YC p)) from ax _ _);have h2:(w.alloc (YC p)).cell? (aq b 0)=some (aa now):=by rw[aln _ _ _ hl];exact hb
 go_enter func152,ntmps152;go_wp2_with fail;go_ret;exact⟨rfl,ah B0⟩
def Qk (now:Int)(l:List Dv)(k:Nat):List Dv:=(l.take k).filter (λx=>!decide (x.d<=now))++l.drop k
theorem Ql {g:Nat}{lb:Array Value}(eg:∀args w,(callFunc g args).run prog w=.ok (.enter g args) w)(a:Option Addr)(cap:Nat)(w:I) :
 Calls prog 151 #[.slice a 0 cap,.func (.func g) #[] lb] w λe w'=>e=.returned (.slice a 0 cap)/\ai w w':=by
 have HI:=aj (FQ (p:=λ_=>false) (lb:=lb) eg a cap [] w (λk hk=>absurd hk (akh k)) (by simp) (λW _ x hx=>by cases hx));rw[show EH (λ(_:Dv)=>false) []=-1 from rfl,show([]:List Dv).length=0 from rfl] at HI;go_enter func151,ntmps151;go_wp2_with (go_at_call 199;refine(ah HI).mono ?_;rintro e w' ⟨rfl,hb'⟩);go_ret;exact⟨rfl,hb'⟩
section
variable {w:I}{B b:Nat}{c:bM}{a:Option Addr}{ca:Nat}{v:Value}
theorem wP (h:Cm w B b c a ca v)(hl:c.pe.length<=1000000)(k:Nat)(hk:k<=c.pe.length)(now:Int) :
 Calls prog 111 #[ae b,aa k,aa now] w λe w'=>e=.returned (.tuple #[])/\bF w w' B b a ca v ⟨c.t,c.pl,Qk now c.pe k,c.cn⟩:=by
 have b0:ai w (w.alloc (.cells #[aa now] 3)):=ax _ _;have k1:=h.next b0;have hc:=k1.pe;have hf:=k1.fr 11;have hn0:v.ownBlock≠some w.heap.size:=λq=>by have:=(h.row.lt _ q).2;omega
 by_cases h0:c.pe.length=0
 ·have hk0:k=0:=by omega
  subst hk0;have hpe:=ajZ.1 h0;have HV:Hid (Qk now c.pe 0=c.pe):=aj (by rw[hpe];rfl);obtain⟨a0,cap0,rfl,z1,_⟩:=h.row.shape;rw[h0] at hc z1;have HD:Hid (∀w1,Calls prog 151 #[.slice a0 0 cap0,.func (.func 152) #[] #[.pointer (some ⟨w.heap.size,0,none⟩)]] w1 λe w'=>e=.returned (.slice a0 0 cap0)/\ai w1 w'):=aj (λw1=>Ql Jz a0 cap0 w1);have HN:Hid (∀w1,Calls prog 72 #[.slice a0 0 cap0,aa 0,aa 0] w1 λe w'=>e=.returned (.slice a0 0 cap0)/\w'=w1):=aj (λw1=>zQ a0 0 cap0 0 w1 (agH _) z1);have HK:=aj k1
  have HB:=aj b0;have hbl:=k1.tb.lt;rw[ah HV];have HE:=aj h0;clear h k1 b0 hn0 hpe h0 HV hl hk
  cases a0 with
  | none =>
   go_enter func111,ntmps111;go_wp2_with (first|(go_at_call 151;refine(ah HD _).mono ?_;rintro e w1 ⟨rfl,hB⟩;have x0:=(hB.cell (p:=aq b 11) hbl).trans hc;have x1:=(hB.frozen (p:=aq b 11) hbl).trans hf;have HBB:=aj hB;clear hB)|(go_at_call 72;refine(ah HN _).mono ?_;rintro e w2 ⟨rfl,rfl⟩));go_end0
   have U:=bF.trans (aA.of_below (ah HB)) (λ_ q=>.inl q) (bF.put (ah HK) (aA.of_below (ah HBB)) (j:=11) (.inr (.inr ⟨rfl,rfl,rfl,rfl⟩)) ((ah HK).row.below (ah HBB)) (λ_ q=>.inl q));rw[ah HE] at U ⊢;exact⟨rfl,U⟩
  | some z =>
   go_enter func111,ntmps111;go_wp2_with (first|(go_at_call 151;refine(ah HD _).mono ?_;rintro e w1 ⟨rfl,hB⟩;have x0:=(hB.cell (p:=aq b 11) hbl).trans hc;have x1:=(hB.frozen (p:=aq b 11) hbl).trans hf;have HBB:=aj hB;clear hB)|(go_at_call 72;refine(ah HN _).mono ?_;rintro e w2 ⟨rfl,rfl⟩));go_end0
   have U:=bF.trans (aA.of_below (ah HB)) (λ_ q=>.inl q) (bF.put (ah HK) (aA.of_below (ah HBB)) (j:=11) (.inr (.inr ⟨rfl,rfl,rfl,rfl⟩)) ((ah HK).row.below (ah HBB)) (λ_ q=>.inl q));rw[ah HE] at U ⊢;exact⟨rfl,U⟩
 ·obtain⟨g,cap,rfl,z1,z2,z3,z4⟩:=(jc.tri k1.row).there (by omega);have hsp:c.pe=c.pe.take k++c.pe.drop k:=(akm k c.pe).symm;have htl:(c.pe.take k).length=k:=by rw[ajL];omega
  have ha:=jc.tri k1.row;have HD0:=Qj (p:=λx=>decide (x.d<=now)) (lb:=#[.pointer (some ⟨w.heap.size,0,none⟩)]) Jz g cap B (c.pe.take k) (c.pe.drop k) _ (by rw[<-hsp];exact ha) (by omega) (λW hW x _=>FT x now w.heap.size W (by
   rw[hW.cell (p:=aq w.heap.size 0) (by simp) (λq=>hn0 (by rw[<-q];rfl))];simp) (by have:=hW.size;simp at this;omega))
  rw[htl,<-hsp] at HD0;obtain⟨f,hfl⟩:∃f,(c.pe.take k).filter (λx=>!decide (x.d<=now))=f:=⟨_,rfl⟩;have hfk:f.length<=k:=ajA (by rw[<-hfl];exact akF _ _) (Nat.le_of_eq htl);have HV:Hid (Qk now c.pe k=f++c.pe.drop k):=aj (by unfold Qk;rw[hfl]);rw[hfl] at HD0;have HD:=aj HD0;have hkc:k<=cap:=by omega
  have hgb:g≠b:=λe=>h.ne1 (by rw[e];rfl)
  have HGB:=aj h.ne1;have HC:Hid (∀w1,aA (λk=>k=g) (w.alloc (.cells #[aa now] 3)) w1->w1.cell? (aq b 11)=some (.slice (some ⟨g,0,none⟩) c.pe.length cap)/\w1.frozen? (aq b 11)=false):=aj (λw1 hC=>⟨by rw[hC.cell (p:=aq b 11) k1.tb.lt (λq=>hgb q.symm)];exact hc,by rw[hC.frozen (p:=aq b 11) k1.tb.lt (λq=>hgb q.symm)];exact hf⟩);obtain⟨y,hy⟩:∃y,List.replicate (k-f.length) (⟨0,0,0⟩:Dv)=y:=⟨_,rfl⟩;have hyl:f.length+y.length=k:=by rw[<-hy,List.length_replicate];omega
  rw[hy] at HD;obtain⟨r,hr⟩:∃r,c.pe.drop k=r:=⟨_,rfl⟩;rw[hr] at HD HV;have hlen:(f++y++r).length=c.pe.length:=by rw[ajB,ajB,<-hr,ajI];omega
  have HU:Hid (∀w1 w' v',aA (λk=>k=g) (w.alloc (.cells #[aa now] 3)) w1->aA (λk=>(Value.slice (some ⟨g,0,none⟩) c.pe.length cap).ownBlock=some k) w1 w'->fC w' B v' (f++r)->(∀g',v'.ownBlock=some g'->(Value.slice (some ⟨g,0,none⟩) c.pe.length cap).ownBlock=some g'\/w1.heap.size<=g')->bF w (w'.setCell (aq b 11) v') B b a ca (.slice (some ⟨g,0,none⟩) c.pe.length cap) ⟨c.t,c.pl,Qk now c.pe k,c.cn⟩):=aj (λw1 w' v' c1 c2 hA hg=>by
   rw[ah HV];refine bF.trans (aA.of_below b0) (λ_ q=>.inl q) (bF.put k1 (((c1.mono (λ_ _ q=>by rw[q];rfl)).trans c2)) (.inr (.inr ⟨rfl,rfl,rfl,rfl⟩)) hA.aeX (λg' e=>?_));rcases hg g' e with q|q
   ·exact .inl q
   ·exact .inr (ajA c1.size q))
  by_cases hfe:f.length=k
  ·have hy0:y=[]:=ajZ.1 (by omega);subst hy0;have HN:=aj (zQ (some ⟨g,0,none⟩) c.pe.length cap k · hk z1);rw[hfe] at HD;rw[akQ] at HD;clear h k1 HD0 ha hsp htl hfl hr hlen hyl z2 z3 b0 hn0 h0 hfk HV hgb hf;go_enter func111,ntmps111;go_wp2_with (first|(go_at_call 151;refine(ah HD).mono ?_;rintro e w1 ⟨rfl,hA,hC⟩;obtain⟨x0,x1⟩:=ah HC w1 hC;have HA:=aj hA;have HCC:=aj hC;clear hA hC)|(go_at_call 72;refine(ah HN _).mono ?_;rintro e w2 ⟨rfl,rfl⟩));go_end0
   exact⟨rfl,ah HU _ _ _ (ah HCC) (aA.refl _ _) (ah HA) (λ_ q=>.inl q)⟩
  ·have hyp:0<y.length:=by omega
   have HN:Hid (∀w1,fC w1 B (.slice (some ⟨g,0,none⟩) c.pe.length cap) (f++y++r)->_):=aj (λw1 hA=>pV B (.slice (some ⟨g,0,none⟩) c.pe.length cap) f y r w1 hA (by omega) hyp k hyl);clear h k1 HD0 ha hsp htl hfl hr hlen hyl z2 z3 b0 hn0 h0 HV hgb hf hy hyp;go_enter func111,ntmps111;go_wp2_with (first|(go_at_call 151;refine(ah HD).mono ?_;rintro e w1 ⟨rfl,hA,hC⟩;obtain⟨x0,x1⟩:=ah HC w1 hC;have HN1:=aj (ah HN w1 hA);have HCC:=aj hC;have HLT:=aj hC.size;clear hA hC)|(go_at_call 72;refine(ah HN1).mono ?_;rintro e w2 ⟨v',rfl,hA,hC,hG⟩;have HU2:=aj (ah HU _ _ _ (ah HCC) hC hA hG);have y0:=(hC.cell (p:=aq b 11) (alI _ _ x0) (ah HGB)).trans x0;have y1:=(hC.frozen (p:=aq b 11) (alI _ _ x0) (ah HGB)).trans x1;obtain⟨a',cap',rfl,z9⟩:=fC.shape hA;rw[ajB] at HU2;clear z9 hA hC hG))
   go_end0
   exact⟨rfl,ah HU2⟩
end
