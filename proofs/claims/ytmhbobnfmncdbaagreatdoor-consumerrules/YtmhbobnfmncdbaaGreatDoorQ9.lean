/- A part. -/
import Derived.Test.YtmhbobnfmncdbaaGreatDoorQ8
set_option maxRecDepth 100000
set_option maxHeartbeats 8000000
namespace Go.Proofs.YtmhbobnfmncdbaaGreatDoor
open Go.RowKit Go.Proofs.Tryz
namespace Dk
def vW (p:Dv):kF:=⟨.int .i64 p.q,.int .i64 p.n,.int .i64 p.d⟩
theorem H8 (p:Dv):IQ (vW p):=⟨rfl,rfl,rfl⟩
theorem QJ (l:List Dv):∀x∈l.map vW,IQ x:=λx hx=>by
 obtain⟨p,_,rfl⟩:=List.mem_map.1 hx;exact H8 p
abbrev X9 (p:Dv):Value:=.agg #[.int .i64 p.q,.int .i64 p.n,.int .i64 p.d]
abbrev JA (p:Dv):Obj:=.cells #[.int .i64 p.q,.int .i64 p.n,.int .i64 p.d] 124
structure WT (w:World)(b o:Nat)(p:Dv):Prop where
 lt:b<w.heap.size
 c0:w.cell? ⟨b,o,none⟩=some (.int .i64 p.q)
 c1:w.cell? ⟨b,o+1,none⟩=some (.int .i64 p.n)
 c2:w.cell? ⟨b,o+2,none⟩=some (.int .i64 p.d)
theorem WT.aT {A:Nat->Prop}{w w':World}{b o:Nat}{x:Dv}(h:WT w b o x)(hc:aA A w w')(hn:¬A b):WT w' b o x :=
 ⟨Nat.lt_of_lt_of_le h.lt hc.size,by rw[hc.cell (p:=⟨b,o,none⟩) h.lt hn];exact h.c0,by rw[hc.cell (p:=⟨b,o+1,none⟩) h.lt hn];exact h.c1,by rw[hc.cell (p:=⟨b,o+2,none⟩) h.lt hn];exact h.c2⟩
def bT (w:World)(B:Nat)(v:Value)(l:List Dv):Prop:=bI 124 w B v (l.map vW)
def QK (w:World)(a:Option Addr)(l:List Dv):Prop:=∀k (hk:k<l.length),∃b o,a=some ⟨b,o,none⟩/\WT w b (o+k*3) l[k]
theorem QK.aT {A:Nat->Prop}{w w':World}{a:Option Addr}{l:List Dv}(h:QK w a l)(hc:aA A w w')(hn:∀p,a=some p->¬A p.block):QK w' a l:=λk hk=>by
 obtain⟨b,o,h1,h2⟩:=h k hk;exact⟨b,o,h1,h2.aT hc (hn _ h1)⟩
theorem QK.below {w w':World}{a:Option Addr}{l:List Dv}(h:QK w a l)(hb:Below w.heap.size w w'):QK w' a l:=h.aT (A:=λ_=>False) (aA.of_below hb) (λ_ _ z=>z)
theorem Ns {l:List Dv}{k:Nat}(hk:k<l.length):tr (l.map vW) k=vW l[k]:=by rw[Eo (by simpa using hk),List.getElem_map]
theorem bT.at {w:World}{B g cap n:Nat}{l:List Dv}(h:bT w B (.slice (some ⟨g,0,none⟩) n cap) l){k:Nat}(hk:k<l.length):WT w g (k*3) l[k]:=by
 have:=bI.at h (k:=k) (by simpa using hk);rw[Ns hk] at this;exact⟨this.lt,this.c0,this.c1,this.c2⟩
theorem bT.shape {w:World}{B:Nat}{v:Value}{l:List Dv}(h:bT w B v l):∃a cap,v=.slice a l.length cap/\l.length<=cap/\cap<=maxLen/\QK w a l/\∀p,a=some p->v.ownBlock=some p.block:=by
 obtain⟨a,cap,h1,h2,h3,h4,h5⟩:=bI.shape h;rw[List.length_map] at h1 h2;refine⟨a,cap,h1,h2,h3,λk hk=>?_,h5⟩;obtain⟨b,o,e,t⟩:=h4 k (by simpa using hk);rw[Ns hk] at t;exact⟨b,o,e,t.lt,t.c0,t.c1,t.c2⟩
theorem bT.there {w:World}{B:Nat}{v:Value}{l:List Dv}(h:bT w B v l)(hn:0<l.length):∃g cap,v=.slice (some ⟨g,0,none⟩) l.length cap/\l.length<=cap/\cap<=maxLen/\B<=g/\g<w.heap.size:=by
 have:=bI.there h (by simpa using hn);rwa [List.length_map] at this
theorem bT.aT {A:Nat->Prop}{w w':World}{B:Nat}{v:Value}{l:List Dv}(h:bT w B v l)(hb:aA A w w')(hn:∀g,v.ownBlock=some g->¬A g):bT w' B v l:=bI.aT h hb hn
theorem bT.below {w w':World}{B:Nat}{v:Value}{l:List Dv}(h:bT w B v l)(hb:Below w.heap.size w w'):bT w' B v l:=bI.below h hb
theorem bT.set {w:World}{B g cap:Nat}{l:List Dv}(h:bT w B (.slice (some ⟨g,0,none⟩) l.length cap) l){k:Nat}(hk:k<l.length)(x:Dv):bT (w.setCells g (k*3) [.int .i64 x.q,.int .i64 x.n,.int .i64 x.d]) B (.slice (some ⟨g,0,none⟩) l.length cap) (l.set k x):=by
 unfold bT at h ⊢;have e:l.length=(l.map vW).length:=by rw[List.length_map]
 rw[e] at h ⊢;have:=bI.set h (k:=k) (by simpa using hk) (vW x);rw[List.map_set];exact this
theorem bT.cut {w:World}{B g cap:Nat}{a r:List Dv}(h:bT w B (.slice (some ⟨g,0,none⟩) (a++r).length cap) (a++r))(z:List Value)(hz:z.length=r.length*3):bT (w.setCells g (a.length*3) z) B (.slice (some ⟨g,0,none⟩) a.length cap) a:=by
 unfold bT at h ⊢;rw[List.map_append,show(a++r).length=(a.map vW++r.map vW).length by simp] at h;have:=bI.cut h z (by simpa using hz);rwa [List.length_map] at this
theorem SK:(prog.info? 124).map (λi=>(i.zero,i.size,i.bytes))=some (some (.agg #[.int .i64 0,.int .i64 0,.int .i64 0]),3,24):=by kernel_rfl
theorem JB (w:World)(B:Nat)(ty:TypeId)(v:Value)(l:List Dv)(p:Dv)(ha:bT w B v l)(a:Addr)(c:Nat)(hnews:∀j u,(aH [vW p])[j]?=some u->w.cell? (a.add j)=some u)(hl:l.length+1<=1000000)(hB:B<=w.heap.size) :
 ∃v' w',(Builtin.append_ #[101,101] ty #[v,.slice (some a) 1 c]).run prog w=.ok v' w'/\bT w' B v' (l++[p])/\aA (λk=>v.ownBlock=some k) w w'/\∀g,v'.ownBlock=some g->v.ownBlock=some g\/w.heap.size<=g:=by
 have:=Ep (P:=prog) 101 124 _ 24 underlying101 SK rfl ⟨by omega,by omega⟩ w B ty v (l.map vW) [vW p] ha a c hnews (λx hx=>by rw[List.mem_singleton] at hx;subst hx;exact H8 p) (by simpa using hl) hB;unfold bT;rw[List.map_append];exact this
theorem vX:∀l:List Dv,aH (l.map vW)=lS l
 | []=>rfl
 | p::l=>by simp[lS,aH,vW,vX l]
theorem eY.tri {w:World}{B:Nat}{v:Value}{l:List Dv}(h:eY w B v l):bT w B v l:=by
 unfold bT bI;rw[List.length_map,vX];exact h
theorem bT.QL {w:World}{B:Nat}{v:Value}{l:List Dv}(h:bT w B v l):eY w B v l:=by
 unfold bT bI at h;rw[List.length_map,vX] at h;exact h
theorem Uf (x:kF)(n:Nat):D9 (.agg #[x.a,x.b,x.c]) n=aH (List.replicate n x):=by
 apply List.ext_getElem
 ·rw[kM _ _ rfl,aW,List.length_replicate]
 ·intro i h1 h2;have hi:i<n*3:=by rw[kM _ _ rfl] at h1;exact h1
  have e1:(D9 (.agg #[x.a,x.b,x.c]) n)[i]=#[x.a,x.b,x.c][i % 3]!:=by simp[D9,Builtin.zeroCells,Value.cells]
  have hat:=zF (List.replicate n x) (i / 3) (by rw[List.length_replicate];omega);have etr:tr (List.replicate n x) (i / 3)=x:=by rw[Eo (by rw[List.length_replicate];omega),List.getElem_replicate]
  rw[etr] at hat;have e2:(aH (List.replicate n x))[i]?=some (aH (List.replicate n x))[i]:=List.getElem?_eq_getElem h2;rw[e1];have hr:i % 3=0\/i % 3=1\/i % 3=2:=by omega
  rcases hr with hr|hr|hr
  ·rw[show i / 3*3=i by omega,e2] at hat;rw[hr,Option.some.inj hat.1];rfl
  ·have h3:=hat.2.1;rw[show i / 3*3+1=i by omega,e2] at h3;rw[hr,Option.some.inj h3];rfl
  ·have h3:=hat.2.2;rw[show i / 3*3+2=i by omega,e2] at h3;rw[hr,Option.some.inj h3];rfl
theorem bI.seg {t:TypeId}{w:World}{B g cap:Nat}{a m r m':List kF}(h:bI t w B (.slice (some ⟨g,0,none⟩) (a++m++r).length cap) (a++m++r))(hm:m'.length=m.length):bI t (w.setCells g (a.length*3) (aH m')) B (.slice (some ⟨g,0,none⟩) (a++m++r).length cap) (a++m'++r):=by
 have ha:=aW a;have hm1:=aW m;have hm2:=aW m';have o:=iZ (aH m') (a.length*3) w _ h (by rw[aW,aW,List.length_append,List.length_append];omega);have e:(aH (a++m++r)).take (a.length*3)++aH m'++(aH (a++m++r)).drop (a.length*3+(aH m').length)=aH (a++m'++r):=by
  have e1:(aH (a++m++r)).take (a.length*3)=aH a:=by
   rw[bC,bC,List.append_assoc,List.take_append_of_le_length (by omega),List.take_of_length_le (by omega)]
  have e2:(aH (a++m++r)).drop (a.length*3+(aH m').length)=aH r:=by
   rw[bC,List.drop_append_of_le_length (by rw[bC,List.length_append];omega),List.drop_of_length_le (by rw[bC,List.length_append];omega),List.nil_append]
  rw[e1,e2,bC,bC]
 rw[e] at o;unfold bI;rw[show(a++m'++r).length=(a++m++r).length by simp[hm]];exact o
theorem bT.Ug {w:World}{B g cap:Nat}{a m r:List Dv}(h:bT w B (.slice (some ⟨g,0,none⟩) (a++m++r).length cap) (a++m++r)):bT (w.setCells g (a.length*3) (D9 (.agg #[.int .i64 0,.int .i64 0,.int .i64 0]) m.length)) B (.slice (some ⟨g,0,none⟩) (a++m++r).length cap) (a++List.replicate m.length ⟨0,0,0⟩++r):=by
 unfold bT at h ⊢;have e:(a++m++r).length=(a.map vW++m.map vW++r.map vW).length:=by simp
 rw[List.map_append,List.map_append,e] at h;rw[List.map_append,List.map_append,List.map_replicate,e,show D9 (.agg #[.int .i64 0,.int .i64 0,.int .i64 0]) m.length=aH (List.replicate m.length (vW ⟨0,0,0⟩)) from Uf (vW ⟨0,0,0⟩) m.length];have:=bI.seg (m':=List.replicate m.length (vW ⟨0,0,0⟩)) h (by simp);rw[List.length_map] at this;exact this
def wS {α:Type}(p:α->Bool)(l:List α):Int:=if l.findIdx p<l.length then (l.findIdx p:Int) else -1
theorem Nu {α:Type}{p:α->Bool}{l:List α}{i:Nat}(h:i<l.length)(hi:p l[i]=true)(hlo:∀k (hk:k<l.length),k<i->p l[k]=false):wS p l=(i:Int):=by
 have e:l.findIdx p=i:=by
  rw[List.findIdx_eq h];exact⟨hi,λj hj=>by simpa using hlo j (by omega) hj⟩
 unfold wS;rw[e,if_pos h]
theorem JC {α:Type}{p:α->Bool}{l:List α}(h:∀k (hk:k<l.length),p l[k]=false):wS p l=-1:=by
 have e:l.findIdx p=l.length:=by
  rw[List.findIdx_eq_length];intro x hx;obtain⟨k,hk,rfl⟩:=List.mem_iff_getElem.1 hx;exact h k hk
 unfold wS;rw[e,if_neg (Nat.lt_irrefl _)]
theorem JD {α:Type}(p:α->Bool)(l:List α):(wS p l=-1/\∀k (hk:k<l.length),p l[k]=false)\/∃i,∃h:i<l.length,wS p l=(i:Int)/\p l[i]=true/\∀k (hk:k<l.length),k<i->p l[k]=false:=by
 by_cases h:l.findIdx p<l.length
 ·refine .inr ⟨l.findIdx p,h,by unfold wS;rw[if_pos h],List.findIdx_getElem,λk hk hlt=>by simpa using List.not_of_lt_findIdx hlt⟩
 ·refine .inl ⟨by unfold wS;rw[if_neg h],λk hk=>?_⟩;have:=List.findIdx_eq_length.1 (Nat.le_antisymm List.findIdx_le_length (Nat.le_of_not_lt h));exact this _ (List.getElem_mem _)
section
variable {g:Nat}{lb:Array Value}{p:Dv->Bool}
theorem vY (eg:∀args w,(callFunc g args).run prog w=.ok (.enter g args) w)(a:Option Addr)(cap:Nat)(l:List Dv)(w:World)(hsl:QK w a l)(hl:l.length<=1000000)
 (hp:∀W,Below w.heap.size w W->∀x∈l,Calls prog g (#[X9 x]++lb) W λe w'=>e=.returned (.bool (p x))/\Below W.heap.size W w') :
 Calls prog 159 #[.slice a l.length cap,.func (.func g) #[] lb] w λe w'=>e=.returned (.int .i64 (wS p l))/\Below w.heap.size w w':=by
 have Hp:=aj hp;have Hs:=aj hsl;obtain⟨N,hN⟩:∃N,l.length=N:=⟨_,rfl⟩;have HN:=aj hN;rw[hN] at hl;rw[hN];clear hp hsl hN;go_enter func159,ntmps159;go_wp2;go_loopw [8] (λiv wr=>∃(i:Nat),iv=.int .i64 i/\i<=N/\Hid (∀k (hk:k<l.length),k<i->p l[k]=false)/\Hid (Below w.heap.size w wr)) (λiv _=>N-(intOf iv).toNat)
 case atStart=>exact⟨0,rfl,Nat.zero_le _,aj (λk _ hk=>absurd hk (Nat.not_lt_zero k)),aj (Below.refl _ _)⟩
 case round =>
  obtain⟨i,rfl,hi,hlo,BW⟩:=hrel;by_cases hlt:i<N
  ·have hil:i<l.length:=by rw[ah HN];exact hlt
   obtain⟨b,o,rfl,t⟩:=(ah Hs).below (ah BW) i hil;obtain⟨_,c0,c1,c2⟩:=t;have H:=aj (ah Hp wr (ah BW) l[i] (List.getElem_mem _));obtain⟨x,hx⟩:∃x,l[i]=x:=⟨_,rfl⟩;have HX:=aj hx;rw[hx] at c0 c1 c2 H;clear hx
   cases he:p x with
   | true =>
    have HV:=aj (Nu hil (by rw[ah HX];exact he) (ah hlo));rw[he] at H;clear he HX hil;go_wp2_with (go_at_fn g;refine(ah H).mono ?_;rintro e w' ⟨rfl,hb'⟩);go_ret;rw[ah HV];exact⟨rfl,ay (ah BW) hb'⟩
   | false =>
    have HL:Hid (∀k (hk:k<l.length),k<i+1->p l[k]=false):=aj (λk hk q=>by
     rcases Nat.lt_succ_iff_lt_or_eq.1 q with z|z
     ·exact ah hlo k hk z
     ·subst z;rw[ah HX];exact he)
    rw[he] at H;clear he HX hil;go_wp2_with (go_at_fn g;refine(ah H).mono ?_;rintro e w' ⟨rfl,hb'⟩);refine⟨⟨i+1,by go_num,by omega,HL,aj (ay (ah BW) hb')⟩,?_⟩;simp[intOf];omega
  ·obtain rfl:i=N:=by omega
   have HV:=aj (JC (p:=p) (l:=l) (λk hk=>ah hlo k hk (by rw[<-ah HN];exact hk)));go_wp2_with fail;go_ret;rw[ah HV];exact⟨rfl,ah BW⟩
end
theorem Nv (w:World)(x:Dv)(t:TypeId):let W:=w.alloc (.cells #[.int .i64 x.q,.int .i64 x.n,.int .i64 x.d] t)
 W.cell? ⟨w.heap.size,0,none⟩=some (.int .i64 x.q)/\W.cell? ⟨w.heap.size,1,none⟩=some (.int .i64 x.n)/\W.cell? ⟨w.heap.size,2,none⟩=some (.int .i64 x.d):=by
 refine⟨?_,?_,?_⟩<;>(rw[cell_of_row _ w.heap.size _ _ _ _ (heap_alloc_new w _)];rfl)
section
variable {g:Nat}{lb:Array Value}{p:Dv->Bool}
theorem Dh (eg:∀args w,(callFunc g args).run prog w=.ok (.enter g args) w)(b cap B:Nat)(l rest:List Dv)(w:World)(ha:bT w B (.slice (some ⟨b,0,none⟩) (l++rest).length cap) (l++rest))(hl:l.length<=1000000)
 (hp:∀W,aA (λk=>k=b) w W->∀x∈l,Calls prog g (#[X9 x]++lb) W λe w'=>e=.returned (.bool (p x))/\Below W.heap.size W w') :
 Calls prog 139 #[.slice (some ⟨b,0,none⟩) l.length cap,.func (.func g) #[] lb] w λe w'=>e=.returned (.slice (some ⟨b,0,none⟩) (l.filter (λx=>!p x)).length cap)/\bT w' B (.slice (some ⟨b,0,none⟩) (l++rest).length cap) (l.filter (λx=>!p x)++List.replicate (l.length-(l.filter (λx=>!p x)).length) ⟨0,0,0⟩++rest)/\aA (λk=>k=b) w w':=by
 have Ha:=aj ha;have Hp:=aj hp;obtain⟨a1,cap1,e1,hcap,hmax,hsl,hown⟩:=ha.shape;obtain⟨rfl,_,rfl⟩:=Value.slice.inj e1;clear e1;have hsl2:QK w (some ⟨b,0,none⟩) l:=λk hk=>by
  obtain⟨b2,o2,e2,t2⟩:=hsl k (by rw[List.length_append];omega);rw[List.getElem_append_left hk] at t2;exact⟨b2,o2,e2,t2⟩
 rw[List.length_append] at hcap;have HI:=aj (vY (p:=p) eg (some ⟨b,0,none⟩) cap l w hsl2 hl (λW hb=>hp W (aA.of_below hb)));obtain⟨M,hM⟩:∃M,(l++rest).length=M:=⟨_,rfl⟩;rw[hM] at Ha;rw[hM];have HM0:=aj hM;rcases JD p l with ⟨e1,hall⟩|⟨i,hil,e1,hpi,hlo⟩
 ·have HF:=aj (zG hall);rw[e1] at HI;clear hp hsl hsl2 ha hall e1 hown hM;go_enter func139,ntmps139;go_wp2_with (go_at_call 159;refine(ah HI).mono ?_;rintro e w' ⟨rfl,hb'⟩);go_ret;rw[ah HF,Nat.sub_self];exact⟨rfl,by simpa using (ah Ha).below hb',aA.of_below hb'⟩
 ·obtain⟨k1,k2⟩:=Es hil hlo hpi;rw[e1] at HI;have K1:=aj k1;have K2:=aj k2;obtain⟨N,hN⟩:∃N,l.length=N:=⟨_,rfl⟩;have HN:=aj hN;have hne1:((i:Int)==-1)=false:=beq_eq_false_iff_ne.2 (by omega);rw[hN] at HI hl hcap;rw[hN];have hiN:i<N:=by omega
  clear hp hsl hsl2 ha e1 hown k1 k2 hlo hpi hil hN hM;go_enter func139,ntmps139;go_wp2_with (go_at_call 159;refine(ah HI).mono ?_;rintro e w1 ⟨rfl,hb1⟩);go_loopw [5,6,7] (λiv jv _ wr=>∃j:Nat,iv=.int .i64 ((dH p l j).length:Int)/\jv=.int .i64 j/\j<=N/\(dH p l j).length<j/\Hid (bT wr B (.slice (some ⟨b,0,none⟩) M cap) (iR p l j++rest))/\Hid (aA (λk=>k=b) w wr)) (λ_ jv _ _=>N-(intOf jv).toNat)
  case atStart=>exact⟨i+1,by rw[ah K1],by go_num,by omega,by rw[ah K1];omega,aj (by rw[ah K2];exact(ah Ha).below hb1),aj (aA.of_below hb1)⟩
  case round =>
   obtain⟨j,rfl,rfl,hj,hij,AW,CW⟩:=hrel;by_cases hlt:j<N
   ·have hjl:j<l.length:=by rw[ah HN];exact hlt
    have hjm:j<(iR p l j).length:=by rw[jD];exact hjl
    have hjr:j<(iR p l j++rest).length:=by rw[List.length_append];omega
    obtain⟨hbl,c0,c1,c2⟩:=(ah AW).at hjr;rw[List.getElem_append_left hjm,PZ hjl hjm] at c0 c1 c2;have him:(dH p l j).length<(iR p l j).length:=by omega
    have hir:(dH p l j).length<(iR p l j++rest).length:=by omega
    have YH:(iR p l j).length=N:=by rw[jD];exact ah HN
    have hM2:(iR p l j++rest).length=M:=by rw[List.length_append,jD,<-List.length_append];exact ah HM0
    obtain⟨x,hx⟩:∃x,l[j]=x:=⟨_,rfl⟩;have HX:=aj hx;rw[hx] at c0 c1 c2;have bA:Below wr.heap.size wr (wr.alloc (JA x)):=(Below.refl _ _).alloc (Nat.le_refl _) _;have cA:=aj ((ah CW).trans (aA.of_below bA));have H:=aj (ah Hp (wr.alloc (JA x)) (ah cA) x (by rw[<-hx];exact List.getElem_mem _));obtain⟨n0,n1,n2⟩:=Nv wr x 124;have BA:=aj bA;have AA:=aj ((ah AW).below bA);clear hx bA;have hb0:b<(wr.alloc (JA x)).heap.size:=by simp;omega
    have hnb:wr.heap.size≠b:=by omega
    cases he:p x with
    | false =>
     have HM:=aj (IX (p:=p) hjl (by rw[ah HX];exact he));have HK:=aj (congrArg List.length (uX (p:=p) hjl (by rw[ah HX];exact he)));rw[he] at H;rw[ah HX] at HM;obtain⟨i,hi⟩:∃i,(dH p l j).length=i:=⟨_,rfl⟩;rw[hi] at hij him hir HM;rw[List.length_append,hi,List.length_singleton] at HK;have hti:=(ah AA).at hir;obtain⟨y,hy⟩:∃y,(iR p l j++rest)[i]=y:=⟨_,rfl⟩;rw[hy] at hti;have hfr:=aj ((bI.free (ah AA))).1;have HIM:=aj him;rw[hi];clear he hjm hjr him hir hi hy HX;go_wp2_with (go_at_fn g;refine(ah H).mono ?_;rintro e w' ⟨rfl,hb'⟩;have m0:=(hb'.cell (p:=⟨wr.heap.size,0,none⟩) (by simp)).trans n0;have m1:=(hb'.cell (p:=⟨wr.heap.size,1,none⟩) (by simp)).trans n1;have m2:=(hb'.cell (p:=⟨wr.heap.size,2,none⟩) (by simp)).trans n2;have t0:=(hb'.cell (p:=⟨b,i*3,none⟩) hb0).trans hti.c0;have t1:=(hb'.cell (p:=⟨b,i*3+1,none⟩) hb0).trans hti.c1;have t2:=(hb'.cell (p:=⟨b,i*3+2,none⟩) hb0).trans hti.c2;have f0:=(hb'.frozen (p:=⟨b,i*3,none⟩) hb0).trans (ah hfr _);have f1:=(hb'.frozen (p:=⟨b,i*3+1,none⟩) hb0).trans (ah hfr _);have f2:=(hb'.frozen (p:=⟨b,i*3+2,none⟩) hb0).trans (ah hfr _))
     have A1:=(ah AA).below hb';rw[<-hM2] at A1;have A2:=A1.set (k:=i) (by rw[List.length_append];have:=ah HIM;omega) x;rw[hM2,List.set_append_left _ _ (ah HIM),<-ah HM] at A2;refine⟨⟨j+1,by rw[ah HK];go_num,by go_num,by omega,by rw[ah HK];omega,aj A2,aj (((ah cA).trans (aA.of_below hb')).trans (jT [.int .i64 x.q,.int .i64 x.n,.int .i64 x.d] (i*3) w'))⟩,?_⟩;simp[intOf];omega
    | true =>
     have HM:=aj (IW (p:=p) hjl (by rw[ah HX];exact he));have HK:=aj (oQ (p:=p) hjl (by rw[ah HX];exact he));rw[he] at H;clear HX hjl hjm hjr him hir he;go_wp2_with (go_at_fn g;refine(ah H).mono ?_;rintro e w' ⟨rfl,hb'⟩);refine⟨⟨j+1,by rw[ah HK],by go_num,by omega,by rw[ah HK];omega,aj (by rw[ah HM];exact(ah AA).below hb'),aj ((ah cA).trans (aA.of_below hb'))⟩,?_⟩;simp[intOf];omega
   ·obtain rfl:j=N:=by omega
    obtain⟨i,hi⟩:∃i,(dH p l j).length=i:=⟨_,rfl⟩;rw[hi] at hij;rw[hi];have hfr:=aj ((bI.free (ah AW))).1;have hsp:=aj ((bI.free (ah AW))).2;have hcl:∀ty,(Builtin.clear_ #[101] ty #[.slice (some ⟨b,i*3,none⟩) (j-i) (cap-i)]).run prog wr=.ok (.tuple #[]) (wr.setCells b (i*3) (D9 (.agg #[.int .i64 0,.int .i64 0,.int .i64 0]) (j-i))):=λty =>
     oC (P:=prog) 101 124 ty _ underlying101 Tryz.zeroValue124 rfl (λk hk=>by
      match k,hk with
      | 0,_=>rfl
      | 1,_=>rfl
      | 2,_=>rfl) wr b (i*3) (j-i) (cap-i) (by omega) (λk hk=>ah hsp _ (by omega)) (λk hk=>ah hfr _)
    have q1:¬(cap=i):=by omega
    have HI2:=aj hi;clear hi;go_wp2_with fail;go_ret;have hk2:dH p l j=l.filter (λx=>!p x):=by rw[<-ah HN];exact IV p l
    have hi2:=ah HI2;rw[hk2] at hi2;have A1:=ah AW;have em:iR p l j=l.filter (λx=>!p x)++l.drop (l.filter (λx=>!p x)).length:=by unfold iR;rw[hk2]
    have hdl:(l.drop (l.filter (λx=>!p x)).length).length=j-i:=by rw[List.length_drop,ah HN,hi2]
    have hM2:(l.filter (λx=>!p x)++l.drop (l.filter (λx=>!p x)).length++rest).length=M:=by rw[<-em,List.length_append,jD,<-List.length_append];exact ah HM0
    rw[em,<-hM2] at A1;have A2:=A1.Ug;rw[hM2,hdl,hi2] at A2;refine⟨by rw[hi2];rfl,?_,(ah CW).trans (jT _ _ _)⟩;rw[hi2];exact A2
end
end Dk
namespace Dk
open Go.Deep
theorem JE (es:List kF)(z:List Value)(i d m:Nat)(hn:es.length=i+d+m) :
 ((((aH es).take (i*3)++(aH es).drop ((i+d)*3)++(aH es).drop (i*3+((aH es).drop ((i+d)*3)).length)).take ((i+m)*3)++z++((aH es).take (i*3)++(aH es).drop ((i+d)*3)++(aH es).drop (i*3+((aH es).drop ((i+d)*3)).length)).drop ((i+m)*3+z.length)).take ((i+m)*3))=aH (es.take i++es.drop (i+d)):=by
 have hcl:(aH es).length=(i+d+m)*3:=by rw[aW,hn]
 have h1:((aH es).take (i*3)++(aH es).drop ((i+d)*3)).length=(i+m)*3:=by rw[List.length_append,List.length_take,List.length_drop,hcl];omega
 have h2:((aH es).take (i*3)++(aH es).drop ((i+d)*3)++(aH es).drop (i*3+((aH es).drop ((i+d)*3)).length)).take ((i+m)*3)=(aH es).take (i*3)++(aH es).drop ((i+d)*3):=by
  rw[List.take_append_of_le_length (by omega),List.take_of_length_le (by omega)]
 rw[h2,List.append_assoc ((aH es).take (i*3)++(aH es).drop ((i+d)*3)),List.take_append_of_le_length (by omega),List.take_of_length_le (by omega)];rw[bC,rD,rE]
theorem EU (B g c i j d m:Nat)(es:List kF)(w:World)(hn:es.length=j+m)(ha:bI 124 w B (.slice (some ⟨g,0,none⟩) (j+m) c) es)(iT:es.length<=1000000)(hc:j+m<=c)(ho:∀x∈es,IQ x)(hd:0<d)(hj:i+d=j) :
 Calls prog 65 #[.slice (some ⟨g,0,none⟩) (j+m) c,.int .i64 i,.int .i64 j] w λe w' =>
  e=.returned (.slice (some ⟨g,0,none⟩) (i+m) c)/\w'=(w.drew.setCells g (0+i*3) ((aH es).drop (j*3))).setCells g ((i+m)*3) (D9 (.agg #[.int .i64 0,.int .i64 0,.int .i64 0]) d):=by
 obtain⟨i0,hi0,hz0,hz1,hz2⟩:=info_parts SK;obtain⟨news,hnews⟩:∃news,news=(aH es).drop (j*3):=⟨_,rfl⟩;have hlen:news.length=m*3:=by rw[hnews,List.length_drop,aW,hn];omega
 obtain⟨cur,hg,hcs⟩:∃cur,w.heap[g]?=some (.cells cur 124 (0,0))/\cur.size=c*3:=by
  rcases ha.2 with ⟨q,_⟩|⟨g',cap',cur,q,h2,h3,h4,h5,h6,h7⟩
  ·cases q
  ·simp only[Value.slice.injEq,Option.some.injEq,Addr.mk.injEq,and_true] at q;obtain⟨rfl,_,rfl⟩:=q;exact⟨cur,h3,h6⟩
 have hsp:∀j,j<c*3->(w.cell? ⟨g,j,none⟩).isSome=true:=by
  intro j hj;rw[cell_of_row w g j _ _ _ hg,Array.getElem?_eq_getElem (by omega)];rfl
 have hfz:∀j,w.frozen? ⟨g,j,none⟩=false:=λj=>frozen_of_row w g j _ _ hg
 have hcell:∀j u,(aH es)[j]?=some u->w.cell? ⟨g,j,none⟩=some u:=by
  intro j u hj;exact ha.cell j u hj
 obtain⟨A,hA,hsrc⟩:∃A:Addr,(if c=j then some (⟨g,0,none⟩:Addr) else some ⟨g,j*3,none⟩)=some A/\Hid (∀t u,news[t]?=some u->w.drew.cell? (A.add t)=some u):=by
  by_cases h:c=j
  ·refine⟨⟨g,0,none⟩,by simp[h],λt u hu=>?_⟩;have h0:news.length=0:=by rw[hlen];omega
   rw[List.length_eq_zero_iff.1 h0] at hu;simp at hu
  ·refine⟨⟨g,j*3,none⟩,by simp[h],λt u hu=>?_⟩;rw[Addr.add_lit];refine hcell _ u ?_;rw[hnews,List.getElem?_drop] at hu;exact hu
 have s1:=aj hlen;have s2:Hid (∀u∈news,u.oneCell'=true):=by
  intro u hu;rw[hnews] at hu;exact qm es ho u (List.mem_of_mem_drop hu)
 have s3:Hid (∀t,t<news.length->(w.drew.cell? ⟨g,0+i*3+t,none⟩).isSome=true/\w.drew.frozen? ⟨g,0+i*3+t,none⟩=false):=by
  intro t ht;rw[hlen] at ht;exact⟨hsp _ (by omega),hfz _⟩
 obtain⟨W1,hW1⟩:∃W1,W1=w.drew.setCells g (0+i*3) news:=⟨_,rfl⟩;have hcl:∀ty c',(Builtin.clear_ #[101] ty #[.slice (some ⟨g,(i+m)*3,none⟩) d c']).run prog W1=.ok (.tuple #[]) (W1.setCells g ((i+m)*3) (D9 (.agg #[.int .i64 0,.int .i64 0,.int .i64 0]) d)):=λty c' =>
  oC (P:=prog) 101 124 ty _ underlying101 Tryz.zeroValue124 rfl (λk hk=>by
   match k,hk with
   | 0,_=>rfl
   | 1,_=>rfl
   | 2,_=>rfl) W1 g ((i+m)*3) d c' (by omega) (λj hj=>by
   rw[hW1];exact isSome_setCells g news (0+i*3) w.drew (λt ht=>hsp _ (by rw[hlen] at ht;omega)) _ (hsp _ (by omega)))
   (λj hj=>by rw[hW1,World.frozen?_setCells];exact hfz _)
 have hW:Hid (W1=w.drew.setCells g (0+i*3) news):=hW1;rw[<-hnews];clear hW1 hsp hfz hcell hg ha hnews hlen hz0 hz2;have hic:i<=c:=by omega
 have hjc:j<=c:=by omega
 have b1:(0:Int)<=(j:Int):=by omega
 have b2:(j:Int)<=(j:Int)+(m:Int):=by omega
 have q1:¬(c=i+m):=by omega
 have q2:j+m-(i+m)=d:=by omega
 have q3:((i:Int)==(j:Int))=false:=beq_eq_false_iff_ne.2 (by omega);go_enter func65,ntmps65;go_wp2_with fail;go_region_law (refine step_append_room rfl (.tmp 22) (.tmp 25) 101 rfl 124 i0 3 underlying101 hi0 hz1 g 0 i c (by simp[Act.eval,Act.put]) A m (c-j) news (by simp[Act.eval,Act.put]) s1.out hsrc.out s2.out (by omega) s3.out ?_;rw[<-hW.out])
 go_wp2;go_ret;exact⟨rfl,by rw[hW.out]⟩
theorem qP (a:Option Addr)(n cap i:Nat)(w:World)(hi:i<=n)(hn:n<=cap) :
 Calls prog 65 #[.slice a n cap,.int .i64 i,.int .i64 i] w λe w'=>e=.returned (.slice a n cap)/\w'=w:=by
 have hic:i<=cap:=by omega
 cases a with
 | none =>
  go_enter func65,ntmps65;go_wp2_with fail;go_ret;exact⟨rfl,rfl⟩
 | some z =>
  go_enter func65,ntmps65;go_wp2_with fail;all_goals
   go_ret
   exact⟨rfl,rfl⟩
theorem jH (B:Nat)(v:Value)(x y z:List Dv)(w:World)(ha:bT w B v (x++y++z))(iT:(x++y++z).length<=1000000)(hy:0<y.length)(j:Nat)(hjj:x.length+y.length=j) :
 Calls prog 65 #[v,.int .i64 x.length,.int .i64 j] w λe w'=>∃v',e=.returned v'/\bT w' B v' (x++z)/\aA (λk=>v.ownBlock=some k) w w'/\∀g,v'.ownBlock=some g->v.ownBlock=some g\/w.heap.size<=g:=by
 obtain⟨es,hes⟩:∃es,es=(x++y++z).map vW:=⟨_,rfl⟩;obtain⟨i,hix⟩:∃i,x.length=i:=⟨_,rfl⟩;obtain⟨d,hdy⟩:∃d,y.length=d:=⟨_,rfl⟩;obtain⟨m,hmz⟩:∃m,z.length=m:=⟨_,rfl⟩;have hn:es.length=i+d+m:=by rw[hes,List.length_map,List.length_append,List.length_append,hix,hdy,hmz]
 have ho:∀x∈es,IQ x:=by rw[hes];exact QJ _
 have hfin:(x++z).map vW=es.take i++es.drop (i+d):=by
  rw[hes,<-hix,<-hdy];simp only[List.map_append];rw[List.take_append_of_le_length (by simp),List.take_append_of_le_length (by simp),List.take_of_length_le (by simp),List.drop_append_of_le_length (by simp),List.drop_of_length_le (by simp),List.nil_append]
 unfold bT at ha ⊢;rw[hfin];rw[<-hes] at ha;have h10:es.length<=1000000:=by rw[hes,List.length_map];exact iT
 rw[hix,hdy] at hjj;rw[hix];rw[hdy] at hy;subst hjj;clear hes hfin iT hix hdy hmz;obtain⟨g,cap,rfl,c1,c2,c3,c4⟩:=ha.there (by omega);rw[hn] at ha c1 ⊢;refine(EU B g cap i (i+d) d m es w hn ha h10 c1 ho hy rfl).mono ?_;rintro e w' ⟨rfl,rfl⟩;refine⟨_,rfl,?_,?_,λg' hg'=>.inl hg'⟩
 ·have o0:w.drew.ownsRow B 124 3 (.slice (some ⟨g,0,none⟩) (i+d+m) cap) (i+d+m) (aH es):=by
   unfold bI at ha;rw[hn] at ha;exact ha
  have hcl:(aH es).length=(i+d+m)*3:=by rw[aW,hn]
  have hdl:((aH es).drop ((i+d)*3)).length=m*3:=by rw[List.length_drop,hcl];omega
  have hzl:(D9 (.agg #[.int .i64 0,.int .i64 0,.int .i64 0]) d).length=d*3:=kM _ d rfl;have o1:=iZ ((aH es).drop ((i+d)*3)) (i*3) _ _ o0 (by rw[hcl,hdl];omega);have o2:=iZ (D9 (.agg #[.int .i64 0,.int .i64 0,.int .i64 0]) d) ((i+m)*3) _ _ o1 (by
   simp only[List.length_append,List.length_take,List.length_drop,hcl,hzl];omega)
  have o3:=qo (k:=i+m) o2 (by omega);rw[JE es _ i d m hn] at o3;unfold bI;rw[List.length_append,List.length_take,List.length_drop,hn,show min i (i+d+m)+(i+d+m-(i+d))=i+m by omega,Nat.zero_add];exact o3
 ·have c:aA (λk=>k=g) w w.drew:=⟨rfl,rfl,rfl,Nat.le_refl _,λ_ _ _=>rfl⟩;exact((c.trans (jT _ _ _)).trans (jT _ _ _)).mono (λk _ hk=>by rw[hk];rfl)
end Dk
namespace Dk
theorem yI:∀args w,(callFunc 140 args).run prog w=.ok (.enter 140 args) w:=enters_of func140 (by kernel_rfl) rfl
theorem vZ (p:Dv)(now:Int)(b:Nat)(w:World)(hb:w.cell? ⟨b,0,none⟩=some (.int .i64 now))(hl:b<w.heap.size) :
 Calls prog 140 #[X9 p,.pointer (some ⟨b,0,none⟩)] w λe w'=>e=.returned (.bool (decide (p.d<=now)))/\Below w.heap.size w w':=by
 have B0:=aj (show Below w.heap.size w (w.alloc (JA p)) from(Below.refl _ _).alloc (Nat.le_refl _) _);have h2:(w.alloc (JA p)).cell? ⟨b,0,none⟩=some (.int .i64 now):=by rw[World.cell?_alloc_lt _ _ _ hl];exact hb
 go_enter func140,ntmps140;go_wp2_with fail;go_ret;exact⟨rfl,ah B0⟩
def Di (now:Int)(l:List Dv)(k:Nat):List Dv:=(l.take k).filter (λx=>!decide (x.d<=now))++l.drop k
theorem Dj {g:Nat}{lb:Array Value}(eg:∀args w,(callFunc g args).run prog w=.ok (.enter g args) w)(a:Option Addr)(cap:Nat)(w:World) :
 Calls prog 139 #[.slice a 0 cap,.func (.func g) #[] lb] w λe w'=>e=.returned (.slice a 0 cap)/\Below w.heap.size w w':=by
 have HI:=aj (vY (p:=λ_=>false) (lb:=lb) eg a cap [] w (λk hk=>absurd hk (Nat.not_lt_zero k)) (by simp) (λW _ x hx=>by cases hx));rw[show wS (λ(_:Dv)=>false) []=-1 from rfl,show([]:List Dv).length=0 from rfl] at HI;go_enter func139,ntmps139;go_wp2_with (go_at_call 159;refine(ah HI).mono ?_;rintro e w' ⟨rfl,hb'⟩);go_ret;exact⟨rfl,hb'⟩
section
variable {w:World}{B b:Nat}{c:bJ}{a:Option Addr}{ca:Nat}{v:Value}
theorem oJ (h:Cm w B b c a ca v)(hl:c.pe.length<=1000000)(k:Nat)(hk:k<=c.pe.length)(now:Int) :
 Calls prog 101 #[.pointer (some ⟨b,0,none⟩),.int .i64 k,.int .i64 now] w λe w'=>e=.returned (.tuple #[])/\aV w w' B b a ca v ⟨c.t,c.pl,Di now c.pe k,c.cn⟩:=by
 have b0:Below w.heap.size w (w.alloc (.cells #[.int .i64 now] 3)):=(Below.refl _ _).alloc (Nat.le_refl _) _;have k1:=h.next b0;have hc:=k1.pe;have hf:=k1.fr 11;have hn0:v.ownBlock≠some w.heap.size:=λq=>by have:=(h.row.lt _ q).2;omega
 by_cases h0:c.pe.length=0
 ·have hk0:k=0:=by omega
  subst hk0;have hpe:=List.length_eq_zero_iff.1 h0;have HV:Hid (Di now c.pe 0=c.pe):=aj (by rw[hpe];rfl);obtain⟨a0,cap0,rfl,z1,_⟩:=h.row.shape;rw[h0] at hc z1;have HD:Hid (∀w1,Calls prog 139 #[.slice a0 0 cap0,.func (.func 140) #[] #[.pointer (some ⟨w.heap.size,0,none⟩)]] w1 λe w'=>e=.returned (.slice a0 0 cap0)/\Below w1.heap.size w1 w'):=aj (λw1=>Dj yI a0 cap0 w1);have HN:Hid (∀w1,Calls prog 65 #[.slice a0 0 cap0,.int .i64 0,.int .i64 0] w1 λe w'=>e=.returned (.slice a0 0 cap0)/\w'=w1):=aj (λw1=>qP a0 0 cap0 0 w1 (Nat.le_refl _) z1);have HK:=aj k1
  have HB:=aj b0;have hbl:=k1.tb.lt;rw[ah HV];have HE:=aj h0;clear h k1 b0 hn0 hpe h0 HV hl hk
  cases a0 with
  | none =>
   go_enter func101,ntmps101;go_wp2_with (first|(go_at_call 139;refine(ah HD _).mono ?_;rintro e w1 ⟨rfl,hB⟩;have x0:=(hB.cell (p:=⟨b,11,none⟩) hbl).trans hc;have x1:=(hB.frozen (p:=⟨b,11,none⟩) hbl).trans hf;have WU:=aj hB;clear hB)|(go_at_call 65;refine(ah HN _).mono ?_;rintro e w2 ⟨rfl,rfl⟩));go_end0
   have U:=aV.trans (aA.of_below (ah HB)) (λ_ q=>.inl q) (aV.put (ah HK) (aA.of_below (ah WU)) (j:=11) (.inr (.inr ⟨rfl,rfl,rfl,rfl⟩)) ((ah HK).row.below (ah WU)) (λ_ q=>.inl q));rw[ah HE] at U ⊢;exact⟨rfl,U⟩
  | some z =>
   go_enter func101,ntmps101;go_wp2_with (first|(go_at_call 139;refine(ah HD _).mono ?_;rintro e w1 ⟨rfl,hB⟩;have x0:=(hB.cell (p:=⟨b,11,none⟩) hbl).trans hc;have x1:=(hB.frozen (p:=⟨b,11,none⟩) hbl).trans hf;have WU:=aj hB;clear hB)|(go_at_call 65;refine(ah HN _).mono ?_;rintro e w2 ⟨rfl,rfl⟩));go_end0
   have U:=aV.trans (aA.of_below (ah HB)) (λ_ q=>.inl q) (aV.put (ah HK) (aA.of_below (ah WU)) (j:=11) (.inr (.inr ⟨rfl,rfl,rfl,rfl⟩)) ((ah HK).row.below (ah WU)) (λ_ q=>.inl q));rw[ah HE] at U ⊢;exact⟨rfl,U⟩
 ·obtain⟨g,cap,rfl,z1,z2,z3,z4⟩:=(eY.tri k1.row).there (by omega);have hsp:c.pe=c.pe.take k++c.pe.drop k:=(List.take_append_drop k c.pe).symm;have htl:(c.pe.take k).length=k:=by rw[List.length_take];omega
  have ha:=eY.tri k1.row;have HD0:=Dh (p:=λx=>decide (x.d<=now)) (lb:=#[.pointer (some ⟨w.heap.size,0,none⟩)]) yI g cap B (c.pe.take k) (c.pe.drop k) _ (by rw[<-hsp];exact ha) (by omega) (λW hW x _=>vZ x now w.heap.size W (by
   rw[hW.cell (p:=⟨w.heap.size,0,none⟩) (by simp) (λq=>hn0 (by rw[<-q];rfl))];simp) (by have:=hW.size;simp at this;omega))
  rw[htl,<-hsp] at HD0;obtain⟨f,hfl⟩:∃f,(c.pe.take k).filter (λx=>!decide (x.d<=now))=f:=⟨_,rfl⟩;have hfk:f.length<=k:=Nat.le_trans (by rw[<-hfl];exact List.length_filter_le _ _) (Nat.le_of_eq htl);have HV:Hid (Di now c.pe k=f++c.pe.drop k):=aj (by unfold Di;rw[hfl]);rw[hfl] at HD0;have HD:=aj HD0;have hkc:k<=cap:=by omega
  have hgb:g≠b:=λe=>h.ne1 (by rw[e];rfl)
  have HGB:=aj h.ne1;have HC:Hid (∀w1,aA (λk=>k=g) (w.alloc (.cells #[.int .i64 now] 3)) w1->w1.cell? ⟨b,11,none⟩=some (.slice (some ⟨g,0,none⟩) c.pe.length cap)/\w1.frozen? ⟨b,11,none⟩=false):=aj (λw1 hC=>⟨by rw[hC.cell (p:=⟨b,11,none⟩) k1.tb.lt (λq=>hgb q.symm)];exact hc,by rw[hC.frozen (p:=⟨b,11,none⟩) k1.tb.lt (λq=>hgb q.symm)];exact hf⟩);obtain⟨y,hy⟩:∃y,List.replicate (k-f.length) (⟨0,0,0⟩:Dv)=y:=⟨_,rfl⟩;have hyl:f.length+y.length=k:=by rw[<-hy,List.length_replicate];omega
  rw[hy] at HD;obtain⟨r,hr⟩:∃r,c.pe.drop k=r:=⟨_,rfl⟩;rw[hr] at HD HV;have hlen:(f++y++r).length=c.pe.length:=by rw[List.length_append,List.length_append,<-hr,List.length_drop];omega
  have HU:Hid (∀w1 w' v',aA (λk=>k=g) (w.alloc (.cells #[.int .i64 now] 3)) w1->aA (λk=>(Value.slice (some ⟨g,0,none⟩) c.pe.length cap).ownBlock=some k) w1 w'->bT w' B v' (f++r)->(∀g',v'.ownBlock=some g'->(Value.slice (some ⟨g,0,none⟩) c.pe.length cap).ownBlock=some g'\/w1.heap.size<=g')->aV w (w'.setCell ⟨b,11,none⟩ v') B b a ca (.slice (some ⟨g,0,none⟩) c.pe.length cap) ⟨c.t,c.pl,Di now c.pe k,c.cn⟩):=aj (λw1 w' v' c1 c2 hA hg=>by
   rw[ah HV];refine aV.trans (aA.of_below b0) (λ_ q=>.inl q) (aV.put k1 (((c1.mono (λ_ _ q=>by rw[q];rfl)).trans c2)) (.inr (.inr ⟨rfl,rfl,rfl,rfl⟩)) hA.QL (λg' e=>?_));rcases hg g' e with q|q
   ·exact .inl q
   ·exact .inr (Nat.le_trans c1.size q))
  by_cases hfe:f.length=k
  ·have hy0:y=[]:=List.length_eq_zero_iff.1 (by omega);subst hy0;have HN:=aj (qP (some ⟨g,0,none⟩) c.pe.length cap k · hk z1);rw[hfe] at HD;rw[List.append_nil] at HD;clear h k1 HD0 ha hsp htl hfl hr hlen hyl z2 z3 b0 hn0 h0 hfk HV hgb hf;go_enter func101,ntmps101;go_wp2_with (first|(go_at_call 139;refine(ah HD).mono ?_;rintro e w1 ⟨rfl,hA,hC⟩;obtain⟨x0,x1⟩:=ah HC w1 hC;have HA:=aj hA;have YN:=aj hC;clear hA hC)|(go_at_call 65;refine(ah HN _).mono ?_;rintro e w2 ⟨rfl,rfl⟩));go_end0
   exact⟨rfl,ah HU _ _ _ (ah YN) (aA.refl _ _) (ah HA) (λ_ q=>.inl q)⟩
  ·have hyp:0<y.length:=by omega
   have HN:Hid (∀w1,bT w1 B (.slice (some ⟨g,0,none⟩) c.pe.length cap) (f++y++r)->_):=aj (λw1 hA=>jH B (.slice (some ⟨g,0,none⟩) c.pe.length cap) f y r w1 hA (by omega) hyp k hyl);clear h k1 HD0 ha hsp htl hfl hr hlen hyl z2 z3 b0 hn0 h0 HV hgb hf hy hyp;go_enter func101,ntmps101;go_wp2_with (first|(go_at_call 139;refine(ah HD).mono ?_;rintro e w1 ⟨rfl,hA,hC⟩;obtain⟨x0,x1⟩:=ah HC w1 hC;have HN1:=aj (ah HN w1 hA);have YN:=aj hC;have HLT:=aj hC.size;clear hA hC)|(go_at_call 65;refine(ah HN1).mono ?_;rintro e w2 ⟨v',rfl,hA,hC,hG⟩;have HU2:=aj (ah HU _ _ _ (ah YN) hC hA hG);have y0:=(hC.cell (p:=⟨b,11,none⟩) (World.block_lt_of_cell? _ _ x0) (ah HGB)).trans x0;have y1:=(hC.frozen (p:=⟨b,11,none⟩) (World.block_lt_of_cell? _ _ x0) (ah HGB)).trans x1;obtain⟨a',cap',rfl,z9⟩:=bT.shape hA;rw[List.length_append] at HU2;clear z9 hA hC hG))
   go_end0
   exact⟨rfl,ah HU2⟩
end
abbrev YO:Obj:=.cells #[.int .i64 0,.int .i64 0,.int .i64 0,.int .i64 0] 55
section
variable {w:World}{B b:Nat}{c:bJ}{a:Option Addr}{ca:Nat}{v:Value}
theorem Nw (h:Cm w B b c a ca v)(ho:c.Ok) :
 Calls prog 21 #[.pointer (some ⟨b,0,none⟩)] w λe w'=>e=.returned (Vl (aJ c) (c.pl-1) c.cn (c.pe.length:Int))/\Below w.heap.size w w':=by
 have b0:Below w.heap.size w (w.alloc YO):=(Below.refl _ _).alloc (Nat.le_refl _) _;have h1:=h.next b0;obtain⟨s,cap,rfl,hcap,hcm,hsl⟩:=h1.row.shape;have c10:=h1.pl;have c11:=h1.pe;have c12:=h1.cn;have hbl:=h1.tb.lt;have hpl:=ho.pl
 cases hp:c.pe with
 | nil =>
  have hN:c.pe.length=0:=by rw[hp];rfl
  have HV:Hid (aJ c=c.pl-1):=aj (by unfold aJ;rw[hp]);rw[hN] at c11;rw[ah HV,show([]:List Dv).length=0 from rfl];clear h h1 b0 hsl hp hN ho;go_enter func21,ntmps21;go_wp2_with fail;go_region
  go_wp2_with fail;exact bodyPost_ret (uU rfl rfl ((CB.new w [.int .i64 (c.pl-1),.int .i64 (c.pl-1),.int .i64 c.cn,.int .i64 0] 55).next (Below.refl _ _).drew)) rfl ⟨rfl,((Below.refl _ _).alloc (Nat.le_refl _) _).drew⟩
 | cons p r =>
  have hN:c.pe.length=r.length+1:=by rw[hp];rfl
  have HV:Hid (aJ c=p.q-1):=aj (by unfold aJ;rw[hp]);obtain⟨g,e0,t0⟩:=hsl 0 (by rw[hN];omega);have x0:=t0.c0;have hq:(dv c.pe 0).q=p.q:=by rw[hp];rfl
  rw[hq,Nat.zero_mul] at x0;have hpq:=ho.low p (by rw[hp];simp);rw[hN] at c11;rw[ah HV,show(p::r).length=r.length+1 from rfl];subst e0;have hgl:=t0.lt;clear h h1 b0 hsl hp ho t0 hq;obtain⟨Nr,YP⟩:∃Nr,r.length=Nr:=⟨_,rfl⟩;rw[YP] at c11 hN;rw[YP];have hN5:Nr+1<=cap:=by omega
  unfold maxLen at hcm;clear YP hN hcap;go_enter func21,ntmps21;go_wp2_with fail;go_region
  go_wp2_with fail;exact bodyPost_ret (uU rfl rfl ((CB.new w [.int .i64 (p.q-1),.int .i64 (c.pl-1),.int .i64 c.cn,.int .i64 ((Nr:Int)+1)] 55).next (Below.refl _ _).drew)) rfl ⟨rfl,((Below.refl _ _).alloc (Nat.le_refl _) _).drew⟩
end
