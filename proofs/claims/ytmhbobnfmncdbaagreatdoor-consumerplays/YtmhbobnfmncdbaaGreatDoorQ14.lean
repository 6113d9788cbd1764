/- A part. -/
import Derived.Test.YtmhbobnfmncdbaaGreatDoorQ13
set_option maxRecDepth 100000
set_option maxHeartbeats 8000000
namespace Go.Proofs.YtmhbobnfmncdbaaGreatDoor
open Go.RowKit Go.Proofs.Tryz
namespace Dk
def jG (p:Dv):lV:=⟨.int .i64 p.q,.int .i64 p.n,.int .i64 p.d⟩
theorem DJ (p:Dv):MH (jG p):=⟨rfl,rfl,rfl⟩
theorem Wx (l:List Dv):∀x∈l.map jG,MH x:=λx hx=>by
 obtain⟨p,_,rfl⟩:=List.mem_map.1 hx;exact DJ p
abbrev ZR (p:Dv):Value:=.agg #[.int .i64 p.q,.int .i64 p.n,.int .i64 p.d]
abbrev NR (p:Dv):Obj:=.cells #[.int .i64 p.q,.int .i64 p.n,.int .i64 p.d] 124
structure DvC (w:World)(b o:Nat)(p:Dv):Prop where
 lt:b<w.heap.size
 c0:w.cell? ⟨b,o,none⟩=some (.int .i64 p.q)
 c1:w.cell? ⟨b,o+1,none⟩=some (.int .i64 p.n)
 c2:w.cell? ⟨b,o+2,none⟩=some (.int .i64 p.d)
theorem DvC.bn {A:Nat->Prop}{w w':World}{b o:Nat}{x:Dv}(h:DvC w b o x)(hc:aB A w w')(hn:¬A b):DvC w' b o x :=
 ⟨Nat.lt_of_lt_of_le h.lt hc.size,by rw[hc.cell (p:=⟨b,o,none⟩) h.lt hn];exact h.c0,by rw[hc.cell (p:=⟨b,o+1,none⟩) h.lt hn];exact h.c1,by rw[hc.cell (p:=⟨b,o+2,none⟩) h.lt hn];exact h.c2⟩
def dD (w:World)(B:Nat)(v:Value)(l:List Dv):Prop:=aT 124 w B v (l.map jG)
def Rj (w:World)(a:Option Addr)(l:List Dv):Prop:=∀k (hk:k<l.length),∃b o,a=some ⟨b,o,none⟩/\DvC w b (o+k*3) l[k]
theorem Rj.bn {A:Nat->Prop}{w w':World}{a:Option Addr}{l:List Dv}(h:Rj w a l)(hc:aB A w w')(hn:∀p,a=some p->¬A p.block):Rj w' a l:=λk hk=>by
 obtain⟨b,o,h1,h2⟩:=h k hk;exact⟨b,o,h1,h2.bn hc (hn _ h1)⟩
theorem Rj.below {w w':World}{a:Option Addr}{l:List Dv}(h:Rj w a l)(hb:Below w.heap.size w w'):Rj w' a l:=h.bn (A:=λ_=>False) (aB.of_below hb) (λ_ _ z=>z)
theorem DK {l:List Dv}{k:Nat}(hk:k<l.length):tr (l.map jG) k=jG l[k]:=by rw[uH (by simpa using hk),List.getElem_map]
theorem dD.at {w:World}{B g cap n:Nat}{l:List Dv}(h:dD w B (.slice (some ⟨g,0,none⟩) n cap) l){k:Nat}(hk:k<l.length):DvC w g (k*3) l[k]:=by
 have:=aT.at h (k:=k) (by simpa using hk);rw[DK hk] at this;exact⟨this.lt,this.c0,this.c1,this.c2⟩
theorem dD.shape {w:World}{B:Nat}{v:Value}{l:List Dv}(h:dD w B v l):∃a cap,v=.slice a l.length cap/\l.length<=cap/\cap<=maxLen/\Rj w a l/\∀p,a=some p->v.ownBlock=some p.block:=by
 obtain⟨a,cap,h1,h2,h3,h4,h5⟩:=aT.shape h;rw[List.length_map] at h1 h2;refine⟨a,cap,h1,h2,h3,λk hk=>?_,h5⟩;obtain⟨b,o,e,t⟩:=h4 k (by simpa using hk);rw[DK hk] at t;exact⟨b,o,e,t.lt,t.c0,t.c1,t.c2⟩
theorem dD.there {w:World}{B:Nat}{v:Value}{l:List Dv}(h:dD w B v l)(hn:0<l.length):∃g cap,v=.slice (some ⟨g,0,none⟩) l.length cap/\l.length<=cap/\cap<=maxLen/\B<=g/\g<w.heap.size:=by
 have:=aT.there h (by simpa using hn);rwa [List.length_map] at this
theorem dD.bn {A:Nat->Prop}{w w':World}{B:Nat}{v:Value}{l:List Dv}(h:dD w B v l)(hb:aB A w w')(hn:∀g,v.ownBlock=some g->¬A g):dD w' B v l:=aT.bn h hb hn
theorem dD.below {w w':World}{B:Nat}{v:Value}{l:List Dv}(h:dD w B v l)(hb:Below w.heap.size w w'):dD w' B v l:=aT.below h hb
theorem dD.set {w:World}{B g cap:Nat}{l:List Dv}(h:dD w B (.slice (some ⟨g,0,none⟩) l.length cap) l){k:Nat}(hk:k<l.length)(x:Dv):dD (w.setCells g (k*3) [.int .i64 x.q,.int .i64 x.n,.int .i64 x.d]) B (.slice (some ⟨g,0,none⟩) l.length cap) (l.set k x):=by
 unfold dD at h ⊢;have e:l.length=(l.map jG).length:=by rw[List.length_map]
 rw[e] at h ⊢;have:=aT.set h (k:=k) (by simpa using hk) (jG x);rw[List.map_set];exact this
theorem dD.cut {w:World}{B g cap:Nat}{a r:List Dv}(h:dD w B (.slice (some ⟨g,0,none⟩) (a++r).length cap) (a++r))(z:List Value)(hz:z.length=r.length*3):dD (w.setCells g (a.length*3) z) B (.slice (some ⟨g,0,none⟩) a.length cap) a:=by
 unfold dD at h ⊢;rw[List.map_append,show(a++r).length=(a.map jG++r.map jG).length by simp] at h;have:=aT.cut h z (by simpa using hz);rwa [List.length_map] at this
theorem XM:(prog.info? 124).map (λi=>(i.zero,i.size,i.bytes))=some (some (.agg #[.int .i64 0,.int .i64 0,.int .i64 0]),3,24):=by kernel_rfl
theorem NS (w:World)(B:Nat)(ty:TypeId)(v:Value)(l:List Dv)(p:Dv)(ha:dD w B v l)(a:Addr)(c:Nat)(hnews:∀j u,(aJ [jG p])[j]?=some u->w.cell? (a.add j)=some u)(hl:l.length+1<=1000000)(hB:B<=w.heap.size) :
 ∃v' w',(Builtin.append_ #[101,101] ty #[v,.slice (some a) 1 c]).run prog w=.ok v' w'/\dD w' B v' (l++[p])/\aB (λk=>v.ownBlock=some k) w w'/\∀g,v'.ownBlock=some g->v.ownBlock=some g\/w.heap.size<=g:=by
 have:=xH (P:=prog) 101 124 _ 24 underlying101 XM rfl ⟨by omega,by omega⟩ w B ty v (l.map jG) [jG p] ha a c hnews (λx hx=>by rw[List.mem_singleton] at hx;subst hx;exact DJ p) (by simpa using hl) hB;unfold dD;rw[List.map_append];exact this
theorem yI:∀l:List Dv,aJ (l.map jG)=nT l
 | []=>rfl
 | p::l=>by simp[nT,aJ,jG,yI l]
theorem fV.tri {w:World}{B:Nat}{v:Value}{l:List Dv}(h:fV w B v l):dD w B v l:=by
 unfold dD aT;rw[List.length_map,yI];exact h
theorem dD.Wy {w:World}{B:Nat}{v:Value}{l:List Dv}(h:dD w B v l):fV w B v l:=by
 unfold dD aT at h;rw[List.length_map,yI] at h;exact h
theorem YR (x:lV)(n:Nat):Ho (.agg #[x.a,x.b,x.c]) n=aJ (List.replicate n x):=by
 apply List.ext_getElem
 ·rw[mJ _ _ rfl,bF,List.length_replicate]
 ·intro i h1 h2;have hi:i<n*3:=by rw[mJ _ _ rfl] at h1;exact h1
  have e1:(Ho (.agg #[x.a,x.b,x.c]) n)[i]=#[x.a,x.b,x.c][i % 3]!:=by simp[Ho,Builtin.zeroCells,Value.cells]
  have hat:=CQ (List.replicate n x) (i / 3) (by rw[List.length_replicate];omega);have WA:tr (List.replicate n x) (i / 3)=x:=by rw[uH (by rw[List.length_replicate];omega),List.getElem_replicate]
  rw[WA] at hat;have e2:(aJ (List.replicate n x))[i]?=some (aJ (List.replicate n x))[i]:=List.getElem?_eq_getElem h2;rw[e1];have hr:i % 3=0\/i % 3=1\/i % 3=2:=by omega
  rcases hr with hr|hr|hr
  ·rw[show i / 3*3=i by omega,e2] at hat;rw[hr,Option.some.inj hat.1];rfl
  ·have h3:=hat.2.1;rw[show i / 3*3+1=i by omega,e2] at h3;rw[hr,Option.some.inj h3];rfl
  ·have h3:=hat.2.2;rw[show i / 3*3+2=i by omega,e2] at h3;rw[hr,Option.some.inj h3];rfl
theorem aT.seg {t:TypeId}{w:World}{B g cap:Nat}{a m r m':List lV}(h:aT t w B (.slice (some ⟨g,0,none⟩) (a++m++r).length cap) (a++m++r))(hm:m'.length=m.length):aT t (w.setCells g (a.length*3) (aJ m')) B (.slice (some ⟨g,0,none⟩) (a++m++r).length cap) (a++m'++r):=by
 have ha:=bF a;have hm1:=bF m;have hm2:=bF m';have o:=jM (aJ m') (a.length*3) w _ h (by rw[bF,bF,List.length_append,List.length_append];omega);have e:(aJ (a++m++r)).take (a.length*3)++aJ m'++(aJ (a++m++r)).drop (a.length*3+(aJ m').length)=aJ (a++m'++r):=by
  have e1:(aJ (a++m++r)).take (a.length*3)=aJ a:=by
   rw[bP,bP,List.append_assoc,List.take_append_of_le_length (by omega),List.take_of_length_le (by omega)]
  have e2:(aJ (a++m++r)).drop (a.length*3+(aJ m').length)=aJ r:=by
   rw[bP,List.drop_append_of_le_length (by rw[bP,List.length_append];omega),List.drop_of_length_le (by rw[bP,List.length_append];omega),List.nil_append]
  rw[e1,e2,bP,bP]
 rw[e] at o;unfold aT;rw[show(a++m'++r).length=(a++m++r).length by simp[hm]];exact o
theorem dD.YS {w:World}{B g cap:Nat}{a m r:List Dv}(h:dD w B (.slice (some ⟨g,0,none⟩) (a++m++r).length cap) (a++m++r)):dD (w.setCells g (a.length*3) (Ho (.agg #[.int .i64 0,.int .i64 0,.int .i64 0]) m.length)) B (.slice (some ⟨g,0,none⟩) (a++m++r).length cap) (a++List.replicate m.length ⟨0,0,0⟩++r):=by
 unfold dD at h ⊢;have e:(a++m++r).length=(a.map jG++m.map jG++r.map jG).length:=by simp
 rw[List.map_append,List.map_append,e] at h;rw[List.map_append,List.map_append,List.map_replicate,e,show Ho (.agg #[.int .i64 0,.int .i64 0,.int .i64 0]) m.length=aJ (List.replicate m.length (jG ⟨0,0,0⟩)) from YR (jG ⟨0,0,0⟩) m.length];have:=aT.seg (m':=List.replicate m.length (jG ⟨0,0,0⟩)) h (by simp);rw[List.length_map] at this;exact this
def qx {α:Type}(p:α->Bool)(l:List α):Int:=if l.findIdx p<l.length then (l.findIdx p:Int) else -1
theorem FX {α:Type}{p:α->Bool}{l:List α}{i:Nat}(h:i<l.length)(hi:p l[i]=true)(hlo:∀k (hk:k<l.length),k<i->p l[k]=false):qx p l=(i:Int):=by
 have e:l.findIdx p=i:=by
  rw[List.findIdx_eq h];exact⟨hi,λj hj=>by simpa using hlo j (by omega) hj⟩
 unfold qx;rw[e,if_pos h]
theorem AO {α:Type}{p:α->Bool}{l:List α}(h:∀k (hk:k<l.length),p l[k]=false):qx p l=-1:=by
 have e:l.findIdx p=l.length:=by
  rw[List.findIdx_eq_length];intro x hx;obtain⟨k,hk,rfl⟩:=List.mem_iff_getElem.1 hx;exact h k hk
 unfold qx;rw[e,if_neg (Nat.lt_irrefl _)]
theorem uY {α:Type}(p:α->Bool)(l:List α):(qx p l=-1/\∀k (hk:k<l.length),p l[k]=false)\/∃i,∃h:i<l.length,qx p l=(i:Int)/\p l[i]=true/\∀k (hk:k<l.length),k<i->p l[k]=false:=by
 by_cases h:l.findIdx p<l.length
 ·refine .inr ⟨l.findIdx p,h,by unfold qx;rw[if_pos h],List.findIdx_getElem,λk hk hlt=>by simpa using List.not_of_lt_findIdx hlt⟩
 ·refine .inl ⟨by unfold qx;rw[if_neg h],λk hk=>?_⟩;have:=List.findIdx_eq_length.1 (Nat.le_antisymm List.findIdx_le_length (Nat.le_of_not_lt h));exact this _ (List.getElem_mem _)
section
variable {g:Nat}{lb:Array Value}{p:Dv->Bool}
theorem yJ (eg:∀args w,(callFunc g args).run prog w=.ok (.enter g args) w)(a:Option Addr)(cap:Nat)(l:List Dv)(w:World)(hsl:Rj w a l)(hl:l.length<=1000000)
 (hp:∀W,Below w.heap.size w W->∀x∈l,Calls prog g (#[ZR x]++lb) W λe w'=>e=.returned (.bool (p x))/\Below W.heap.size W w') :
 Calls prog 159 #[.slice a l.length cap,.func (.func g) #[] lb] w λe w'=>e=.returned (.int .i64 (qx p l))/\Below w.heap.size w w':=by
 have Hp:=aj hp;have Hs:=aj hsl;obtain⟨N,hN⟩:∃N,l.length=N:=⟨_,rfl⟩;have HN:=aj hN;rw[hN] at hl;rw[hN];clear hp hsl hN;go_enter func159,ntmps159;go_wp2;go_loopw [8] (λiv wr=>∃(i:Nat),iv=.int .i64 i/\i<=N/\Hid (∀k (hk:k<l.length),k<i->p l[k]=false)/\Hid (Below w.heap.size w wr)) (λiv _=>N-(intOf iv).toNat)
 case atStart=>exact⟨0,rfl,Nat.zero_le _,aj (λk _ hk=>absurd hk (Nat.not_lt_zero k)),aj (Below.refl _ _)⟩
 case round =>
  obtain⟨i,rfl,hi,hlo,BW⟩:=hrel;by_cases hlt:i<N
  ·have hil:i<l.length:=by rw[ah HN];exact hlt
   obtain⟨b,o,rfl,t⟩:=(ah Hs).below (ah BW) i hil;obtain⟨_,c0,c1,c2⟩:=t;have H:=aj (ah Hp wr (ah BW) l[i] (List.getElem_mem _));obtain⟨x,hx⟩:∃x,l[i]=x:=⟨_,rfl⟩;have HX:=aj hx;rw[hx] at c0 c1 c2 H;clear hx
   cases he:p x with
   | true =>
    have HV:=aj (FX hil (by rw[ah HX];exact he) (ah hlo));rw[he] at H;clear he HX hil;go_wp2_with (go_at_fn g;refine(ah H).mono ?_;rintro e w' ⟨rfl,hb'⟩);go_ret;rw[ah HV];exact⟨rfl,ay (ah BW) hb'⟩
   | false =>
    have HL:Hid (∀k (hk:k<l.length),k<i+1->p l[k]=false):=aj (λk hk q=>by
     rcases Nat.lt_succ_iff_lt_or_eq.1 q with z|z
     ·exact ah hlo k hk z
     ·subst z;rw[ah HX];exact he)
    rw[he] at H;clear he HX hil;go_wp2_with (go_at_fn g;refine(ah H).mono ?_;rintro e w' ⟨rfl,hb'⟩);refine⟨⟨i+1,by go_num,by omega,HL,aj (ay (ah BW) hb')⟩,?_⟩;simp[intOf];omega
  ·obtain rfl:i=N:=by omega
   have HV:=aj (AO (p:=p) (l:=l) (λk hk=>ah hlo k hk (by rw[<-ah HN];exact hk)));go_wp2_with fail;go_ret;rw[ah HV];exact⟨rfl,ah BW⟩
end
theorem Rk (w:World)(x:Dv)(t:TypeId):let W:=w.alloc (.cells #[.int .i64 x.q,.int .i64 x.n,.int .i64 x.d] t)
 W.cell? ⟨w.heap.size,0,none⟩=some (.int .i64 x.q)/\W.cell? ⟨w.heap.size,1,none⟩=some (.int .i64 x.n)/\W.cell? ⟨w.heap.size,2,none⟩=some (.int .i64 x.d):=by
 refine⟨?_,?_,?_⟩<;>(rw[cell_of_row _ w.heap.size _ _ _ _ (heap_alloc_new w _)];rfl)
section
variable {g:Nat}{lb:Array Value}{p:Dv->Bool}
theorem FY (eg:∀args w,(callFunc g args).run prog w=.ok (.enter g args) w)(b cap B:Nat)(l rest:List Dv)(w:World)(ha:dD w B (.slice (some ⟨b,0,none⟩) (l++rest).length cap) (l++rest))(hl:l.length<=1000000)
 (hp:∀W,aB (λk=>k=b) w W->∀x∈l,Calls prog g (#[ZR x]++lb) W λe w'=>e=.returned (.bool (p x))/\Below W.heap.size W w') :
 Calls prog 139 #[.slice (some ⟨b,0,none⟩) l.length cap,.func (.func g) #[] lb] w λe w'=>e=.returned (.slice (some ⟨b,0,none⟩) (l.filter (λx=>!p x)).length cap)/\dD w' B (.slice (some ⟨b,0,none⟩) (l++rest).length cap) (l.filter (λx=>!p x)++List.replicate (l.length-(l.filter (λx=>!p x)).length) ⟨0,0,0⟩++rest)/\aB (λk=>k=b) w w':=by
 have Ha:=aj ha;have Hp:=aj hp;obtain⟨a1,cap1,e1,hcap,hmax,hsl,hown⟩:=ha.shape;obtain⟨rfl,_,rfl⟩:=Value.slice.inj e1;clear e1;have hsl2:Rj w (some ⟨b,0,none⟩) l:=λk hk=>by
  obtain⟨b2,o2,e2,t2⟩:=hsl k (by rw[List.length_append];omega);rw[List.getElem_append_left hk] at t2;exact⟨b2,o2,e2,t2⟩
 rw[List.length_append] at hcap;have HI:=aj (yJ (p:=p) eg (some ⟨b,0,none⟩) cap l w hsl2 hl (λW hb=>hp W (aB.of_below hb)));obtain⟨M,hM⟩:∃M,(l++rest).length=M:=⟨_,rfl⟩;rw[hM] at Ha;rw[hM];have HM0:=aj hM;rcases uY p l with ⟨e1,hall⟩|⟨i,hil,e1,hpi,hlo⟩
 ·have HF:=aj (CV hall);rw[e1] at HI;clear hp hsl hsl2 ha hall e1 hown hM;go_enter func139,ntmps139;go_wp2_with (go_at_call 159;refine(ah HI).mono ?_;rintro e w' ⟨rfl,hb'⟩);go_ret;rw[ah HF,Nat.sub_self];exact⟨rfl,by simpa using (ah Ha).below hb',aB.of_below hb'⟩
 ·obtain⟨k1,k2⟩:=Ii hil hlo hpi;rw[e1] at HI;have K1:=aj k1;have K2:=aj k2;obtain⟨N,hN⟩:∃N,l.length=N:=⟨_,rfl⟩;have HN:=aj hN;have hne1:((i:Int)==-1)=false:=beq_eq_false_iff_ne.2 (by omega);rw[hN] at HI hl hcap;rw[hN];have hiN:i<N:=by omega
  clear hp hsl hsl2 ha e1 hown k1 k2 hlo hpi hil hN hM;go_enter func139,ntmps139;go_wp2_with (go_at_call 159;refine(ah HI).mono ?_;rintro e w1 ⟨rfl,hb1⟩);go_loopw [5,6,7] (λiv jv _ wr=>∃j:Nat,iv=.int .i64 ((dS p l j).length:Int)/\jv=.int .i64 j/\j<=N/\(dS p l j).length<j/\Hid (dD wr B (.slice (some ⟨b,0,none⟩) M cap) (jH p l j++rest))/\Hid (aB (λk=>k=b) w wr)) (λ_ jv _ _=>N-(intOf jv).toNat)
  case atStart=>exact⟨i+1,by rw[ah K1],by go_num,by omega,by rw[ah K1];omega,aj (by rw[ah K2];exact(ah Ha).below hb1),aj (aB.of_below hb1)⟩
  case round =>
   obtain⟨j,rfl,rfl,hj,hij,AW,CW⟩:=hrel;by_cases hlt:j<N
   ·have hjl:j<l.length:=by rw[ah HN];exact hlt
    have hjm:j<(jH p l j).length:=by rw[kH];exact hjl
    have hjr:j<(jH p l j++rest).length:=by rw[List.length_append];omega
    obtain⟨hbl,c0,c1,c2⟩:=(ah AW).at hjr;rw[List.getElem_append_left hjm,VI hjl hjm] at c0 c1 c2;have him:(dS p l j).length<(jH p l j).length:=by omega
    have hir:(dS p l j).length<(jH p l j++rest).length:=by omega
    have YO:(jH p l j).length=N:=by rw[kH];exact ah HN
    have hM2:(jH p l j++rest).length=M:=by rw[List.length_append,kH,<-List.length_append];exact ah HM0
    obtain⟨x,hx⟩:∃x,l[j]=x:=⟨_,rfl⟩;have HX:=aj hx;rw[hx] at c0 c1 c2;have bA:Below wr.heap.size wr (wr.alloc (NR x)):=(Below.refl _ _).alloc (Nat.le_refl _) _;have cA:=aj ((ah CW).trans (aB.of_below bA));have H:=aj (ah Hp (wr.alloc (NR x)) (ah cA) x (by rw[<-hx];exact List.getElem_mem _));obtain⟨n0,n1,n2⟩:=Rk wr x 124;have BA:=aj bA;have AA:=aj ((ah AW).below bA);clear hx bA;have hb0:b<(wr.alloc (NR x)).heap.size:=by simp;omega
    have hnb:wr.heap.size≠b:=by omega
    cases he:p x with
    | false =>
     have HM:=aj (ML (p:=p) hjl (by rw[ah HX];exact he));have HK:=aj (congrArg List.length (xI (p:=p) hjl (by rw[ah HX];exact he)));rw[he] at H;rw[ah HX] at HM;obtain⟨i,hi⟩:∃i,(dS p l j).length=i:=⟨_,rfl⟩;rw[hi] at hij him hir HM;rw[List.length_append,hi,List.length_singleton] at HK;have hti:=(ah AA).at hir;obtain⟨y,hy⟩:∃y,(jH p l j++rest)[i]=y:=⟨_,rfl⟩;rw[hy] at hti;have hfr:=aj ((aT.free (ah AA))).1;have HIM:=aj him;rw[hi];clear he hjm hjr him hir hi hy HX;go_wp2_with (go_at_fn g;refine(ah H).mono ?_;rintro e w' ⟨rfl,hb'⟩;have m0:=(hb'.cell (p:=⟨wr.heap.size,0,none⟩) (by simp)).trans n0;have m1:=(hb'.cell (p:=⟨wr.heap.size,1,none⟩) (by simp)).trans n1;have m2:=(hb'.cell (p:=⟨wr.heap.size,2,none⟩) (by simp)).trans n2;have t0:=(hb'.cell (p:=⟨b,i*3,none⟩) hb0).trans hti.c0;have t1:=(hb'.cell (p:=⟨b,i*3+1,none⟩) hb0).trans hti.c1;have t2:=(hb'.cell (p:=⟨b,i*3+2,none⟩) hb0).trans hti.c2;have f0:=(hb'.frozen (p:=⟨b,i*3,none⟩) hb0).trans (ah hfr _);have f1:=(hb'.frozen (p:=⟨b,i*3+1,none⟩) hb0).trans (ah hfr _);have f2:=(hb'.frozen (p:=⟨b,i*3+2,none⟩) hb0).trans (ah hfr _))
     have A1:=(ah AA).below hb';rw[<-hM2] at A1;have A2:=A1.set (k:=i) (by rw[List.length_append];have:=ah HIM;omega) x;rw[hM2,List.set_append_left _ _ (ah HIM),<-ah HM] at A2;refine⟨⟨j+1,by rw[ah HK];go_num,by go_num,by omega,by rw[ah HK];omega,aj A2,aj (((ah cA).trans (aB.of_below hb')).trans (lu [.int .i64 x.q,.int .i64 x.n,.int .i64 x.d] (i*3) w'))⟩,?_⟩;simp[intOf];omega
    | true =>
     have HM:=aj (MK (p:=p) hjl (by rw[ah HX];exact he));have HK:=aj (qM (p:=p) hjl (by rw[ah HX];exact he));rw[he] at H;clear HX hjl hjm hjr him hir he;go_wp2_with (go_at_fn g;refine(ah H).mono ?_;rintro e w' ⟨rfl,hb'⟩);refine⟨⟨j+1,by rw[ah HK],by go_num,by omega,by rw[ah HK];omega,aj (by rw[ah HM];exact(ah AA).below hb'),aj ((ah cA).trans (aB.of_below hb'))⟩,?_⟩;simp[intOf];omega
   ·obtain rfl:j=N:=by omega
    obtain⟨i,hi⟩:∃i,(dS p l j).length=i:=⟨_,rfl⟩;rw[hi] at hij;rw[hi];have hfr:=aj ((aT.free (ah AW))).1;have hsp:=aj ((aT.free (ah AW))).2;have hcl:∀ty,(Builtin.clear_ #[101] ty #[.slice (some ⟨b,i*3,none⟩) (j-i) (cap-i)]).run prog wr=.ok (.tuple #[]) (wr.setCells b (i*3) (Ho (.agg #[.int .i64 0,.int .i64 0,.int .i64 0]) (j-i))):=λty =>
     qB (P:=prog) 101 124 ty _ underlying101 Tryz.zeroValue124 rfl (λk hk=>by
      match k,hk with
      | 0,_=>rfl
      | 1,_=>rfl
      | 2,_=>rfl) wr b (i*3) (j-i) (cap-i) (by omega) (λk hk=>ah hsp _ (by omega)) (λk hk=>ah hfr _)
    have q1:¬(cap=i):=by omega
    have HI2:=aj hi;clear hi;go_wp2_with fail;go_ret;have hk2:dS p l j=l.filter (λx=>!p x):=by rw[<-ah HN];exact MJ p l
    have hi2:=ah HI2;rw[hk2] at hi2;have A1:=ah AW;have em:jH p l j=l.filter (λx=>!p x)++l.drop (l.filter (λx=>!p x)).length:=by unfold jH;rw[hk2]
    have hdl:(l.drop (l.filter (λx=>!p x)).length).length=j-i:=by rw[List.length_drop,ah HN,hi2]
    have hM2:(l.filter (λx=>!p x)++l.drop (l.filter (λx=>!p x)).length++rest).length=M:=by rw[<-em,List.length_append,kH,<-List.length_append];exact ah HM0
    rw[em,<-hM2] at A1;have A2:=A1.YS;rw[hM2,hdl,hi2] at A2;refine⟨by rw[hi2];rfl,?_,(ah CW).trans (lu _ _ _)⟩;rw[hi2];exact A2
end
end Dk
namespace Dk
open Go.Deep
theorem NT (es:List lV)(z:List Value)(i d m:Nat)(hn:es.length=i+d+m) :
 ((((aJ es).take (i*3)++(aJ es).drop ((i+d)*3)++(aJ es).drop (i*3+((aJ es).drop ((i+d)*3)).length)).take ((i+m)*3)++z++((aJ es).take (i*3)++(aJ es).drop ((i+d)*3)++(aJ es).drop (i*3+((aJ es).drop ((i+d)*3)).length)).drop ((i+m)*3+z.length)).take ((i+m)*3))=aJ (es.take i++es.drop (i+d)):=by
 have hcl:(aJ es).length=(i+d+m)*3:=by rw[bF,hn]
 have h1:((aJ es).take (i*3)++(aJ es).drop ((i+d)*3)).length=(i+m)*3:=by rw[List.length_append,List.length_take,List.length_drop,hcl];omega
 have h2:((aJ es).take (i*3)++(aJ es).drop ((i+d)*3)++(aJ es).drop (i*3+((aJ es).drop ((i+d)*3)).length)).take ((i+m)*3)=(aJ es).take (i*3)++(aJ es).drop ((i+d)*3):=by
  rw[List.take_append_of_le_length (by omega),List.take_of_length_le (by omega)]
 rw[h2,List.append_assoc ((aJ es).take (i*3)++(aJ es).drop ((i+d)*3)),List.take_append_of_le_length (by omega),List.take_of_length_le (by omega)];rw[bP,uI,uJ]
theorem IX (B g c i j d m:Nat)(es:List lV)(w:World)(hn:es.length=j+m)(ha:aT 124 w B (.slice (some ⟨g,0,none⟩) (j+m) c) es)(jB:es.length<=1000000)(hc:j+m<=c)(ho:∀x∈es,MH x)(hd:0<d)(hj:i+d=j) :
 Calls prog 65 #[.slice (some ⟨g,0,none⟩) (j+m) c,.int .i64 i,.int .i64 j] w λe w' =>
  e=.returned (.slice (some ⟨g,0,none⟩) (i+m) c)/\w'=(w.drew.setCells g (0+i*3) ((aJ es).drop (j*3))).setCells g ((i+m)*3) (Ho (.agg #[.int .i64 0,.int .i64 0,.int .i64 0]) d):=by
 obtain⟨i0,hi0,hz0,hz1,hz2⟩:=info_parts XM;obtain⟨news,hnews⟩:∃news,news=(aJ es).drop (j*3):=⟨_,rfl⟩;have hlen:news.length=m*3:=by rw[hnews,List.length_drop,bF,hn];omega
 obtain⟨cur,hg,hcs⟩:∃cur,w.heap[g]?=some (.cells cur 124 (0,0))/\cur.size=c*3:=by
  rcases ha.2 with ⟨q,_⟩|⟨g',cap',cur,q,h2,h3,h4,h5,h6,h7⟩
  ·cases q
  ·simp only[Value.slice.injEq,Option.some.injEq,Addr.mk.injEq,and_true] at q;obtain⟨rfl,_,rfl⟩:=q;exact⟨cur,h3,h6⟩
 have hsp:∀j,j<c*3->(w.cell? ⟨g,j,none⟩).isSome=true:=by
  intro j hj;rw[cell_of_row w g j _ _ _ hg,Array.getElem?_eq_getElem (by omega)];rfl
 have hfz:∀j,w.frozen? ⟨g,j,none⟩=false:=λj=>frozen_of_row w g j _ _ hg
 have hcell:∀j u,(aJ es)[j]?=some u->w.cell? ⟨g,j,none⟩=some u:=by
  intro j u hj;exact ha.cell j u hj
 obtain⟨A,hA,hsrc⟩:∃A:Addr,(if c=j then some (⟨g,0,none⟩:Addr) else some ⟨g,j*3,none⟩)=some A/\Hid (∀t u,news[t]?=some u->w.drew.cell? (A.add t)=some u):=by
  by_cases h:c=j
  ·refine⟨⟨g,0,none⟩,by simp[h],λt u hu=>?_⟩;have h0:news.length=0:=by rw[hlen];omega
   rw[List.length_eq_zero_iff.1 h0] at hu;simp at hu
  ·refine⟨⟨g,j*3,none⟩,by simp[h],λt u hu=>?_⟩;rw[Addr.add_lit];refine hcell _ u ?_;rw[hnews,List.getElem?_drop] at hu;exact hu
 have s1:=aj hlen;have s2:Hid (∀u∈news,u.oneCell'=true):=by
  intro u hu;rw[hnews] at hu;exact rW es ho u (List.mem_of_mem_drop hu)
 have s3:Hid (∀t,t<news.length->(w.drew.cell? ⟨g,0+i*3+t,none⟩).isSome=true/\w.drew.frozen? ⟨g,0+i*3+t,none⟩=false):=by
  intro t ht;rw[hlen] at ht;exact⟨hsp _ (by omega),hfz _⟩
 obtain⟨W1,hW1⟩:∃W1,W1=w.drew.setCells g (0+i*3) news:=⟨_,rfl⟩;have hcl:∀ty c',(Builtin.clear_ #[101] ty #[.slice (some ⟨g,(i+m)*3,none⟩) d c']).run prog W1=.ok (.tuple #[]) (W1.setCells g ((i+m)*3) (Ho (.agg #[.int .i64 0,.int .i64 0,.int .i64 0]) d)):=λty c' =>
  qB (P:=prog) 101 124 ty _ underlying101 Tryz.zeroValue124 rfl (λk hk=>by
   match k,hk with
   | 0,_=>rfl
   | 1,_=>rfl
   | 2,_=>rfl) W1 g ((i+m)*3) d c' (by omega) (λj hj=>by
   rw[hW1];exact isSome_setCells g news (0+i*3) w.drew (λt ht=>hsp _ (by rw[hlen] at ht;omega)) _ (hsp _ (by omega)))
   (λj hj=>by rw[hW1,World.frozen?_setCells];exact hfz _)
 have hW:Hid (W1=w.drew.setCells g (0+i*3) news):=hW1;rw[<-hnews];clear hW1 hsp hfz hcell hg ha hnews hlen hz0 hz2;have hic:i<=c:=by omega
 have hjc:j<=c:=by omega
 have b1:(0:Int)<=(j:Int):=by omega
 have b2:(j:Int)<=(j:Int)+(m:Int):=by omega
 have q1:¬(c=i+m):=by omega
 have q2:j+m-(i+m)=d:=by omega
 have q3:((i:Int)==(j:Int))=false:=beq_eq_false_iff_ne.2 (by omega);go_enter func65,ntmps65;go_wp2_with fail;go_region_law (refine step_append_room rfl (.tmp 22) (.tmp 25) 101 rfl 124 i0 3 underlying101 hi0 hz1 g 0 i c (by simp[Act.eval,Act.put]) A m (c-j) news (by simp[Act.eval,Act.put]) s1.out hsrc.out s2.out (by omega) s3.out ?_;rw[<-hW.out])
 go_wp2;go_ret;exact⟨rfl,by rw[hW.out]⟩
theorem tK (a:Option Addr)(n cap i:Nat)(w:World)(hi:i<=n)(hn:n<=cap) :
 Calls prog 65 #[.slice a n cap,.int .i64 i,.int .i64 i] w λe w'=>e=.returned (.slice a n cap)/\w'=w:=by
 have hic:i<=cap:=by omega
 cases a with
 | none =>
  go_enter func65,ntmps65;go_wp2_with fail;go_ret;exact⟨rfl,rfl⟩
 | some z =>
  go_enter func65,ntmps65;go_wp2_with fail;all_goals
   go_ret
   exact⟨rfl,rfl⟩
theorem kQ (B:Nat)(v:Value)(x y z:List Dv)(w:World)(ha:dD w B v (x++y++z))(jB:(x++y++z).length<=1000000)(hy:0<y.length)(j:Nat)(hjj:x.length+y.length=j) :
 Calls prog 65 #[v,.int .i64 x.length,.int .i64 j] w λe w'=>∃v',e=.returned v'/\dD w' B v' (x++z)/\aB (λk=>v.ownBlock=some k) w w'/\∀g,v'.ownBlock=some g->v.ownBlock=some g\/w.heap.size<=g:=by
 obtain⟨es,hes⟩:∃es,es=(x++y++z).map jG:=⟨_,rfl⟩;obtain⟨i,hix⟩:∃i,x.length=i:=⟨_,rfl⟩;obtain⟨d,hdy⟩:∃d,y.length=d:=⟨_,rfl⟩;obtain⟨m,hmz⟩:∃m,z.length=m:=⟨_,rfl⟩;have hn:es.length=i+d+m:=by rw[hes,List.length_map,List.length_append,List.length_append,hix,hdy,hmz]
 have ho:∀x∈es,MH x:=by rw[hes];exact Wx _
 have hfin:(x++z).map jG=es.take i++es.drop (i+d):=by
  rw[hes,<-hix,<-hdy];simp only[List.map_append];rw[List.take_append_of_le_length (by simp),List.take_append_of_le_length (by simp),List.take_of_length_le (by simp),List.drop_append_of_le_length (by simp),List.drop_of_length_le (by simp),List.nil_append]
 unfold dD at ha ⊢;rw[hfin];rw[<-hes] at ha;have h10:es.length<=1000000:=by rw[hes,List.length_map];exact jB
 rw[hix,hdy] at hjj;rw[hix];rw[hdy] at hy;subst hjj;clear hes hfin jB hix hdy hmz;obtain⟨g,cap,rfl,c1,c2,c3,c4⟩:=ha.there (by omega);rw[hn] at ha c1 ⊢;refine(IX B g cap i (i+d) d m es w hn ha h10 c1 ho hy rfl).mono ?_;rintro e w' ⟨rfl,rfl⟩;refine⟨_,rfl,?_,?_,λg' hg'=>.inl hg'⟩
 ·have o0:w.drew.ownsRow B 124 3 (.slice (some ⟨g,0,none⟩) (i+d+m) cap) (i+d+m) (aJ es):=by
   unfold aT at ha;rw[hn] at ha;exact ha
  have hcl:(aJ es).length=(i+d+m)*3:=by rw[bF,hn]
  have hdl:((aJ es).drop ((i+d)*3)).length=m*3:=by rw[List.length_drop,hcl];omega
  have hzl:(Ho (.agg #[.int .i64 0,.int .i64 0,.int .i64 0]) d).length=d*3:=mJ _ d rfl;have o1:=jM ((aJ es).drop ((i+d)*3)) (i*3) _ _ o0 (by rw[hcl,hdl];omega);have o2:=jM (Ho (.agg #[.int .i64 0,.int .i64 0,.int .i64 0]) d) ((i+m)*3) _ _ o1 (by
   simp only[List.length_append,List.length_take,List.length_drop,hcl,hzl];omega)
  have o3:=rX (k:=i+m) o2 (by omega);rw[NT es _ i d m hn] at o3;unfold aT;rw[List.length_append,List.length_take,List.length_drop,hn,show min i (i+d+m)+(i+d+m-(i+d))=i+m by omega,Nat.zero_add];exact o3
 ·have c:aB (λk=>k=g) w w.drew:=⟨rfl,rfl,rfl,Nat.le_refl _,λ_ _ _=>rfl⟩;exact((c.trans (lu _ _ _)).trans (lu _ _ _)).mono (λk _ hk=>by rw[hk];rfl)
end Dk
namespace Dk
theorem AP:∀args w,(callFunc 140 args).run prog w=.ok (.enter 140 args) w:=enters_of func140 (by kernel_rfl) rfl
theorem yK (p:Dv)(now:Int)(b:Nat)(w:World)(hb:w.cell? ⟨b,0,none⟩=some (.int .i64 now))(hl:b<w.heap.size) :
 Calls prog 140 #[ZR p,.pointer (some ⟨b,0,none⟩)] w λe w'=>e=.returned (.bool (decide (p.d<=now)))/\Below w.heap.size w w':=by
 have B0:=aj (show Below w.heap.size w (w.alloc (NR p)) from(Below.refl _ _).alloc (Nat.le_refl _) _);have h2:(w.alloc (NR p)).cell? ⟨b,0,none⟩=some (.int .i64 now):=by rw[World.cell?_alloc_lt _ _ _ hl];exact hb
 go_enter func140,ntmps140;go_wp2_with fail;go_ret;exact⟨rfl,ah B0⟩
def FZ (now:Int)(l:List Dv)(k:Nat):List Dv:=(l.take k).filter (λx=>!decide (x.d<=now))++l.drop k
theorem F5 {g:Nat}{lb:Array Value}(eg:∀args w,(callFunc g args).run prog w=.ok (.enter g args) w)(a:Option Addr)(cap:Nat)(w:World) :
 Calls prog 139 #[.slice a 0 cap,.func (.func g) #[] lb] w λe w'=>e=.returned (.slice a 0 cap)/\Below w.heap.size w w':=by
 have HI:=aj (yJ (p:=λ_=>false) (lb:=lb) eg a cap [] w (λk hk=>absurd hk (Nat.not_lt_zero k)) (by simp) (λW _ x hx=>by cases hx));rw[show qx (λ(_:Dv)=>false) []=-1 from rfl,show([]:List Dv).length=0 from rfl] at HI;go_enter func139,ntmps139;go_wp2_with (go_at_call 159;refine(ah HI).mono ?_;rintro e w' ⟨rfl,hb'⟩);go_ret;exact⟨rfl,hb'⟩
section
variable {w:World}{B b:Nat}{c:aV}{a:Option Addr}{ca:Nat}{v:Value}
theorem qF (h:Cm w B b c a ca v)(hl:c.pe.length<=1000000)(k:Nat)(hk:k<=c.pe.length)(now:Int) :
 Calls prog 101 #[.pointer (some ⟨b,0,none⟩),.int .i64 k,.int .i64 now] w λe w'=>e=.returned (.tuple #[])/\bH w w' B b a ca v ⟨c.t,c.pl,FZ now c.pe k,c.cn⟩:=by
 have b0:Below w.heap.size w (w.alloc (.cells #[.int .i64 now] 3)):=(Below.refl _ _).alloc (Nat.le_refl _) _;have k1:=h.next b0;have hc:=k1.pe;have hf:=k1.fr 11;have hn0:v.ownBlock≠some w.heap.size:=λq=>by have:=(h.row.lt _ q).2;omega
 by_cases h0:c.pe.length=0
 ·have hk0:k=0:=by omega
  subst hk0;have hpe:=List.length_eq_zero_iff.1 h0;have HV:Hid (FZ now c.pe 0=c.pe):=aj (by rw[hpe];rfl);obtain⟨a0,cap0,rfl,z1,_⟩:=h.row.shape;rw[h0] at hc z1;have HD:Hid (∀w1,Calls prog 139 #[.slice a0 0 cap0,.func (.func 140) #[] #[.pointer (some ⟨w.heap.size,0,none⟩)]] w1 λe w'=>e=.returned (.slice a0 0 cap0)/\Below w1.heap.size w1 w'):=aj (λw1=>F5 AP a0 cap0 w1);have HN:Hid (∀w1,Calls prog 65 #[.slice a0 0 cap0,.int .i64 0,.int .i64 0] w1 λe w'=>e=.returned (.slice a0 0 cap0)/\w'=w1):=aj (λw1=>tK a0 0 cap0 0 w1 (Nat.le_refl _) z1);have HK:=aj k1
  have HB:=aj b0;have hbl:=k1.tb.lt;rw[ah HV];have HE:=aj h0;clear h k1 b0 hn0 hpe h0 HV hl hk
  cases a0 with
  | none =>
   go_enter func101,ntmps101;go_wp2_with (first|(go_at_call 139;refine(ah HD _).mono ?_;rintro e w1 ⟨rfl,hB⟩;have x0:=(hB.cell (p:=⟨b,11,none⟩) hbl).trans hc;have x1:=(hB.frozen (p:=⟨b,11,none⟩) hbl).trans hf;have Rl:=aj hB;clear hB)|(go_at_call 65;refine(ah HN _).mono ?_;rintro e w2 ⟨rfl,rfl⟩));go_end0
   have U:=bH.trans (aB.of_below (ah HB)) (λ_ q=>.inl q) (bH.put (ah HK) (aB.of_below (ah Rl)) (j:=11) (.inr (.inr ⟨rfl,rfl,rfl,rfl⟩)) ((ah HK).row.below (ah Rl)) (λ_ q=>.inl q));rw[ah HE] at U ⊢;exact⟨rfl,U⟩
  | some z =>
   go_enter func101,ntmps101;go_wp2_with (first|(go_at_call 139;refine(ah HD _).mono ?_;rintro e w1 ⟨rfl,hB⟩;have x0:=(hB.cell (p:=⟨b,11,none⟩) hbl).trans hc;have x1:=(hB.frozen (p:=⟨b,11,none⟩) hbl).trans hf;have Rl:=aj hB;clear hB)|(go_at_call 65;refine(ah HN _).mono ?_;rintro e w2 ⟨rfl,rfl⟩));go_end0
   have U:=bH.trans (aB.of_below (ah HB)) (λ_ q=>.inl q) (bH.put (ah HK) (aB.of_below (ah Rl)) (j:=11) (.inr (.inr ⟨rfl,rfl,rfl,rfl⟩)) ((ah HK).row.below (ah Rl)) (λ_ q=>.inl q));rw[ah HE] at U ⊢;exact⟨rfl,U⟩
 ·obtain⟨g,cap,rfl,z1,z2,z3,z4⟩:=(fV.tri k1.row).there (by omega);have hsp:c.pe=c.pe.take k++c.pe.drop k:=(List.take_append_drop k c.pe).symm;have htl:(c.pe.take k).length=k:=by rw[List.length_take];omega
  have ha:=fV.tri k1.row;have HD0:=FY (p:=λx=>decide (x.d<=now)) (lb:=#[.pointer (some ⟨w.heap.size,0,none⟩)]) AP g cap B (c.pe.take k) (c.pe.drop k) _ (by rw[<-hsp];exact ha) (by omega) (λW hW x _=>yK x now w.heap.size W (by
   rw[hW.cell (p:=⟨w.heap.size,0,none⟩) (by simp) (λq=>hn0 (by rw[<-q];rfl))];simp) (by have:=hW.size;simp at this;omega))
  rw[htl,<-hsp] at HD0;obtain⟨f,hfl⟩:∃f,(c.pe.take k).filter (λx=>!decide (x.d<=now))=f:=⟨_,rfl⟩;have hfk:f.length<=k:=Nat.le_trans (by rw[<-hfl];exact List.length_filter_le _ _) (Nat.le_of_eq htl);have HV:Hid (FZ now c.pe k=f++c.pe.drop k):=aj (by unfold FZ;rw[hfl]);rw[hfl] at HD0;have HD:=aj HD0;have hkc:k<=cap:=by omega
  have hgb:g≠b:=λe=>h.ne1 (by rw[e];rfl)
  have HGB:=aj h.ne1;have HC:Hid (∀w1,aB (λk=>k=g) (w.alloc (.cells #[.int .i64 now] 3)) w1->w1.cell? ⟨b,11,none⟩=some (.slice (some ⟨g,0,none⟩) c.pe.length cap)/\w1.frozen? ⟨b,11,none⟩=false):=aj (λw1 hC=>⟨by rw[hC.cell (p:=⟨b,11,none⟩) k1.tb.lt (λq=>hgb q.symm)];exact hc,by rw[hC.frozen (p:=⟨b,11,none⟩) k1.tb.lt (λq=>hgb q.symm)];exact hf⟩);obtain⟨y,hy⟩:∃y,List.replicate (k-f.length) (⟨0,0,0⟩:Dv)=y:=⟨_,rfl⟩;have hyl:f.length+y.length=k:=by rw[<-hy,List.length_replicate];omega
  rw[hy] at HD;obtain⟨r,hr⟩:∃r,c.pe.drop k=r:=⟨_,rfl⟩;rw[hr] at HD HV;have hlen:(f++y++r).length=c.pe.length:=by rw[List.length_append,List.length_append,<-hr,List.length_drop];omega
  have HU:Hid (∀w1 w' v',aB (λk=>k=g) (w.alloc (.cells #[.int .i64 now] 3)) w1->aB (λk=>(Value.slice (some ⟨g,0,none⟩) c.pe.length cap).ownBlock=some k) w1 w'->dD w' B v' (f++r)->(∀g',v'.ownBlock=some g'->(Value.slice (some ⟨g,0,none⟩) c.pe.length cap).ownBlock=some g'\/w1.heap.size<=g')->bH w (w'.setCell ⟨b,11,none⟩ v') B b a ca (.slice (some ⟨g,0,none⟩) c.pe.length cap) ⟨c.t,c.pl,FZ now c.pe k,c.cn⟩):=aj (λw1 w' v' c1 c2 hA hg=>by
   rw[ah HV];refine bH.trans (aB.of_below b0) (λ_ q=>.inl q) (bH.put k1 (((c1.mono (λ_ _ q=>by rw[q];rfl)).trans c2)) (.inr (.inr ⟨rfl,rfl,rfl,rfl⟩)) hA.Wy (λg' e=>?_));rcases hg g' e with q|q
   ·exact .inl q
   ·exact .inr (Nat.le_trans c1.size q))
  by_cases hfe:f.length=k
  ·have hy0:y=[]:=List.length_eq_zero_iff.1 (by omega);subst hy0;have HN:=aj (tK (some ⟨g,0,none⟩) c.pe.length cap k · hk z1);rw[hfe] at HD;rw[List.append_nil] at HD;clear h k1 HD0 ha hsp htl hfl hr hlen hyl z2 z3 b0 hn0 h0 hfk HV hgb hf;go_enter func101,ntmps101;go_wp2_with (first|(go_at_call 139;refine(ah HD).mono ?_;rintro e w1 ⟨rfl,hA,hC⟩;obtain⟨x0,x1⟩:=ah HC w1 hC;have HA:=aj hA;have HCC:=aj hC;clear hA hC)|(go_at_call 65;refine(ah HN _).mono ?_;rintro e w2 ⟨rfl,rfl⟩));go_end0
   exact⟨rfl,ah HU _ _ _ (ah HCC) (aB.refl _ _) (ah HA) (λ_ q=>.inl q)⟩
  ·have hyp:0<y.length:=by omega
   have HN:Hid (∀w1,dD w1 B (.slice (some ⟨g,0,none⟩) c.pe.length cap) (f++y++r)->_):=aj (λw1 hA=>kQ B (.slice (some ⟨g,0,none⟩) c.pe.length cap) f y r w1 hA (by omega) hyp k hyl);clear h k1 HD0 ha hsp htl hfl hr hlen hyl z2 z3 b0 hn0 h0 HV hgb hf hy hyp;go_enter func101,ntmps101;go_wp2_with (first|(go_at_call 139;refine(ah HD).mono ?_;rintro e w1 ⟨rfl,hA,hC⟩;obtain⟨x0,x1⟩:=ah HC w1 hC;have HN1:=aj (ah HN w1 hA);have HCC:=aj hC;have HLT:=aj hC.size;clear hA hC)|(go_at_call 65;refine(ah HN1).mono ?_;rintro e w2 ⟨v',rfl,hA,hC,hG⟩;have ZT:=aj (ah HU _ _ _ (ah HCC) hC hA hG);have y0:=(hC.cell (p:=⟨b,11,none⟩) (World.block_lt_of_cell? _ _ x0) (ah HGB)).trans x0;have y1:=(hC.frozen (p:=⟨b,11,none⟩) (World.block_lt_of_cell? _ _ x0) (ah HGB)).trans x1;obtain⟨a',cap',rfl,z9⟩:=dD.shape hA;rw[List.length_append] at ZT;clear z9 hA hC hG))
   go_end0
   exact⟨rfl,ah ZT⟩
end
abbrev NU:Obj:=.cells #[.int .i64 0,.int .i64 0,.int .i64 0,.int .i64 0] 55
section
variable {w:World}{B b:Nat}{c:aV}{a:Option Addr}{ca:Nat}{v:Value}
theorem Rn (h:Cm w B b c a ca v)(ho:c.Ok) :
 Calls prog 21 #[.pointer (some ⟨b,0,none⟩)] w λe w'=>e=.returned (Xw (fE c) (c.pl-1) c.cn (c.pe.length:Int))/\Below w.heap.size w w':=by
 have b0:Below w.heap.size w (w.alloc NU):=(Below.refl _ _).alloc (Nat.le_refl _) _;have h1:=h.next b0;obtain⟨s,cap,rfl,hcap,hcm,hsl⟩:=h1.row.shape;have c10:=h1.pl;have c11:=h1.pe;have c12:=h1.cn;have hbl:=h1.tb.lt;have hpl:=ho.pl
 cases hp:c.pe with
 | nil =>
  have hN:c.pe.length=0:=by rw[hp];rfl
  have HV:Hid (fE c=c.pl-1):=aj (by unfold fE;rw[hp]);rw[hN] at c11;rw[ah HV,show([]:List Dv).length=0 from rfl];clear h h1 b0 hsl hp hN ho;go_enter func21,ntmps21;go_wp2_with fail;go_region
  go_wp2_with fail;exact bodyPost_ret (qL rfl rfl ((CB.new w [.int .i64 (c.pl-1),.int .i64 (c.pl-1),.int .i64 c.cn,.int .i64 0] 55).next (Below.refl _ _).drew)) rfl ⟨rfl,((Below.refl _ _).alloc (Nat.le_refl _) _).drew⟩
 | cons p r =>
  have hN:c.pe.length=r.length+1:=by rw[hp];rfl
  have HV:Hid (fE c=p.q-1):=aj (by unfold fE;rw[hp]);obtain⟨g,e0,t0⟩:=hsl 0 (by rw[hN];omega);have x0:=t0.c0;have hq:(dv c.pe 0).q=p.q:=by rw[hp];rfl
  rw[hq,Nat.zero_mul] at x0;have hpq:=ho.low p (by rw[hp];simp);rw[hN] at c11;rw[ah HV,show(p::r).length=r.length+1 from rfl];subst e0;have hgl:=t0.lt;clear h h1 b0 hsl hp ho t0 hq;obtain⟨Nr,hNr⟩:∃Nr,r.length=Nr:=⟨_,rfl⟩;rw[hNr] at c11 hN;rw[hNr];have hN5:Nr+1<=cap:=by omega
  unfold maxLen at hcm;clear hNr hN hcap;go_enter func21,ntmps21;go_wp2_with fail;go_region
  go_wp2_with fail;exact bodyPost_ret (qL rfl rfl ((CB.new w [.int .i64 (p.q-1),.int .i64 (c.pl-1),.int .i64 c.cn,.int .i64 ((Nr:Int)+1)] 55).next (Below.refl _ _).drew)) rfl ⟨rfl,((Below.refl _ _).alloc (Nat.le_refl _) _).drew⟩
end
