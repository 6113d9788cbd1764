/- A part. -/
import Derived.Test.YtophdoapcdjnjaaGreatDoorQ11
set_option maxRecDepth 100000
set_option maxHeartbeats 8000000
namespace Go.Proofs.YtophdoapcdjnjaaGreatDoor.Dk
open Go.RowKit Go.Proofs.Tryz
def yh (p:Dv):lU:=⟨.int .i64 p.q,.int .i64 p.n,.int .i64 p.d⟩
theorem JJ (p:Dv):KE (yh p):=⟨rfl,rfl,rfl⟩
theorem Uc (l:List Dv):∀x∈l.map yh,KE x:=λx hx=>by
 obtain⟨p,_,rfl⟩:=List.mem_map.1 hx;exact JJ p
abbrev YX (p:Dv):Value:=.agg #[.int .i64 p.q,.int .i64 p.n,.int .i64 p.d]
abbrev L6 (p:Dv):Obj:=.cells #[.int .i64 p.q,.int .i64 p.n,.int .i64 p.d] 78
structure Yd (w:World)(b o:Nat)(p:Dv):Prop where
 lt:b<w.heap.size
 c0:w.cell? ⟨b,o,none⟩=some (.int .i64 p.q)
 c1:w.cell? ⟨b,o+1,none⟩=some (.int .i64 p.n)
 c2:w.cell? ⟨b,o+2,none⟩=some (.int .i64 p.d)
theorem Yd.bW {A:Nat->Prop}{w w':World}{b o:Nat}{x:Dv}(h:Yd w b o x)(hc:aF A w w')(hn:¬A b):Yd w' b o x :=
 ⟨Nat.lt_of_lt_of_le h.lt hc.size,by rw[hc.cell (p:=⟨b,o,none⟩) h.lt hn];exact h.c0,by rw[hc.cell (p:=⟨b,o+1,none⟩) h.lt hn];exact h.c1,by rw[hc.cell (p:=⟨b,o+2,none⟩) h.lt hn];exact h.c2⟩
def bV (w:World)(B:Nat)(v:Value)(l:List Dv):Prop:=bH 78 w B v (l.map yh)
def Ud (w:World)(a:Option Addr)(l:List Dv):Prop:=∀k (hk:k<l.length),∃b o,a=some ⟨b,o,none⟩/\Yd w b (o+k*3) l[k]
theorem Ud.bW {A:Nat->Prop}{w w':World}{a:Option Addr}{l:List Dv}(h:Ud w a l)(hc:aF A w w')(hn:∀p,a=some p->¬A p.block):Ud w' a l:=λk hk=>by
 obtain⟨b,o,h1,h2⟩:=h k hk;exact⟨b,o,h1,h2.bW hc (hn _ h1)⟩
theorem Ud.below {w w':World}{a:Option Addr}{l:List Dv}(h:Ud w a l)(hb:Below w.heap.size w w'):Ud w' a l:=h.bW (A:=λ_=>False) (aF.of_below hb) (λ_ _ z=>z)
theorem Qh {l:List Dv}{k:Nat}(hk:k<l.length):tr (l.map yh) k=yh l[k]:=by rw[Gl (by simpa using hk),List.getElem_map]
theorem bV.at {w:World}{B g cap n:Nat}{l:List Dv}(h:bV w B (.slice (some ⟨g,0,none⟩) n cap) l){k:Nat}(hk:k<l.length):Yd w g (k*3) l[k]:=by
 have:=bH.at h (k:=k) (by simpa using hk);rw[Qh hk] at this;exact⟨this.lt,this.c0,this.c1,this.c2⟩
theorem bV.shape {w:World}{B:Nat}{v:Value}{l:List Dv}(h:bV w B v l):∃a cap,v=.slice a l.length cap/\l.length<=cap/\cap<=maxLen/\Ud w a l/\∀p,a=some p->v.ownBlock=some p.block:=by
 obtain⟨a,cap,h1,h2,h3,h4,h5⟩:=bH.shape h;rw[List.length_map] at h1 h2;refine⟨a,cap,h1,h2,h3,λk hk=>?_,h5⟩;obtain⟨b,o,e,t⟩:=h4 k (by simpa using hk);rw[Qh hk] at t;exact⟨b,o,e,t.lt,t.c0,t.c1,t.c2⟩
theorem bV.there {w:World}{B:Nat}{v:Value}{l:List Dv}(h:bV w B v l)(hn:0<l.length):∃g cap,v=.slice (some ⟨g,0,none⟩) l.length cap/\l.length<=cap/\cap<=maxLen/\B<=g/\g<w.heap.size:=by
 have:=bH.there h (by simpa using hn);rwa [List.length_map] at this
theorem bV.bW {A:Nat->Prop}{w w':World}{B:Nat}{v:Value}{l:List Dv}(h:bV w B v l)(hb:aF A w w')(hn:∀g,v.ownBlock=some g->¬A g):bV w' B v l:=bH.bW h hb hn
theorem bV.below {w w':World}{B:Nat}{v:Value}{l:List Dv}(h:bV w B v l)(hb:Below w.heap.size w w'):bV w' B v l:=bH.below h hb
theorem bV.set {w:World}{B g cap:Nat}{l:List Dv}(h:bV w B (.slice (some ⟨g,0,none⟩) l.length cap) l){k:Nat}(hk:k<l.length)(x:Dv):bV (w.setCells g (k*3) [.int .i64 x.q,.int .i64 x.n,.int .i64 x.d]) B (.slice (some ⟨g,0,none⟩) l.length cap) (l.set k x):=by
 unfold bV at h ⊢;have e:l.length=(l.map yh).length:=by rw[List.length_map]
 rw[e] at h ⊢;have:=bH.set h (k:=k) (by simpa using hk) (yh x);rw[List.map_set];exact this
theorem bV.cut {w:World}{B g cap:Nat}{a r:List Dv}(h:bV w B (.slice (some ⟨g,0,none⟩) (a++r).length cap) (a++r))(z:List Value)(hz:z.length=r.length*3):bV (w.setCells g (a.length*3) z) B (.slice (some ⟨g,0,none⟩) a.length cap) a:=by
 unfold bV at h ⊢;rw[List.map_append,show(a++r).length=(a.map yh++r.map yh).length by simp] at h;have:=bH.cut h z (by simpa using hz);rwa [List.length_map] at this
theorem Vu:(prog.info? 78).map (λi=>(i.zero,i.size,i.bytes))=some (some (.agg #[.int .i64 0,.int .i64 0,.int .i64 0]),3,24):=by kernel_rfl
theorem L9 (w:World)(B:Nat)(ty:TypeId)(v:Value)(l:List Dv)(p:Dv)(ha:bV w B v l)(a:Addr)(c:Nat)(hnews:∀j u,(aH [yh p])[j]?=some u->w.cell? (a.add j)=some u)(hl:l.length+1<=1000000)(hB:B<=w.heap.size) :
 ∃v' w',(Builtin.append_ #[74,74] ty #[v,.slice (some a) 1 c]).run prog w=.ok v' w'/\bV w' B v' (l++[p])/\aF (λk=>v.ownBlock=some k) w w'/\∀g,v'.ownBlock=some g->v.ownBlock=some g\/w.heap.size<=g:=by
 have:=Gm (P:=prog) 74 78 _ 24 underlying74 Vu rfl ⟨by omega,by omega⟩ w B ty v (l.map yh) [yh p] ha a c hnews (λx hx=>by rw[List.mem_singleton] at hx;subst hx;exact JJ p) (by simpa using hl) hB;unfold bV;rw[List.map_append];exact this
theorem yj:∀l:List Dv,aH (l.map yh)=mZ l
 | []=>rfl
 | p::l=>by simp[mZ,aH,yh,yj l]
theorem fK.tri {w:World}{B:Nat}{v:Value}{l:List Dv}(h:fK w B v l):bV w B v l:=by
 unfold bV bH;rw[List.length_map,yj];exact h
theorem bV.Ue {w:World}{B:Nat}{v:Value}{l:List Dv}(h:bV w B v l):fK w B v l:=by
 unfold bV bH at h;rw[List.length_map,yj] at h;exact h
theorem Wn (x:lU)(n:Nat):FY (.agg #[x.a,x.b,x.c]) n=aH (List.replicate n x):=by
 apply List.ext_getElem
 ·rw[l7 _ _ rfl,aS,List.length_replicate]
 ·intro i h1 h2;have hi:i<n*3:=by rw[l7 _ _ rfl] at h1;exact h1
  have e1:(FY (.agg #[x.a,x.b,x.c]) n)[i]=#[x.a,x.b,x.c][i % 3]!:=by simp[FY,Builtin.zeroCells,Value.cells]
  have hat:=Bo (List.replicate n x) (i / 3) (by rw[List.length_replicate];omega);have etr:tr (List.replicate n x) (i / 3)=x:=by rw[Gl (by rw[List.length_replicate];omega),List.getElem_replicate]
  rw[etr] at hat;have e2:(aH (List.replicate n x))[i]?=some (aH (List.replicate n x))[i]:=List.getElem?_eq_getElem h2;rw[e1];have hr:i % 3=0\/i % 3=1\/i % 3=2:=by omega
  rcases hr with hr|hr|hr
  ·rw[show i / 3*3=i by omega,e2] at hat;rw[hr,Option.some.inj hat.1];rfl
  ·have h3:=hat.2.1;rw[show i / 3*3+1=i by omega,e2] at h3;rw[hr,Option.some.inj h3];rfl
  ·have h3:=hat.2.2;rw[show i / 3*3+2=i by omega,e2] at h3;rw[hr,Option.some.inj h3];rfl
theorem bH.seg {t:TypeId}{w:World}{B g cap:Nat}{a m r m':List lU}(h:bH t w B (.slice (some ⟨g,0,none⟩) (a++m++r).length cap) (a++m++r))(hm:m'.length=m.length):bH t (w.setCells g (a.length*3) (aH m')) B (.slice (some ⟨g,0,none⟩) (a++m++r).length cap) (a++m'++r):=by
 have ha:=aS a;have hm1:=aS m;have hm2:=aS m';have o:=jL (aH m') (a.length*3) w _ h (by rw[aS,aS,List.length_append,List.length_append];omega);have e:(aH (a++m++r)).take (a.length*3)++aH m'++(aH (a++m++r)).drop (a.length*3+(aH m').length)=aH (a++m'++r):=by
  have e1:(aH (a++m++r)).take (a.length*3)=aH a:=by
   rw[bF,bF,List.append_assoc,List.take_append_of_le_length (by omega),List.take_of_length_le (by omega)]
  have e2:(aH (a++m++r)).drop (a.length*3+(aH m').length)=aH r:=by
   rw[bF,List.drop_append_of_le_length (by rw[bF,List.length_append];omega),List.drop_of_length_le (by rw[bF,List.length_append];omega),List.nil_append]
  rw[e1,e2,bF,bF]
 rw[e] at o;unfold bH;rw[show(a++m'++r).length=(a++m++r).length by simp[hm]];exact o
theorem bV.Wp {w:World}{B g cap:Nat}{a m r:List Dv}(h:bV w B (.slice (some ⟨g,0,none⟩) (a++m++r).length cap) (a++m++r)):bV (w.setCells g (a.length*3) (FY (.agg #[.int .i64 0,.int .i64 0,.int .i64 0]) m.length)) B (.slice (some ⟨g,0,none⟩) (a++m++r).length cap) (a++List.replicate m.length ⟨0,0,0⟩++r):=by
 unfold bV at h ⊢;have e:(a++m++r).length=(a.map yh++m.map yh++r.map yh).length:=by simp
 rw[List.map_append,List.map_append,e] at h;rw[List.map_append,List.map_append,List.map_replicate,e,show FY (.agg #[.int .i64 0,.int .i64 0,.int .i64 0]) m.length=aH (List.replicate m.length (yh ⟨0,0,0⟩)) from Wn (yh ⟨0,0,0⟩) m.length];have:=bH.seg (m':=List.replicate m.length (yh ⟨0,0,0⟩)) h (by simp);rw[List.length_map] at this;exact this
section
variable {g:Nat}{lb:Array Value}{p:Dv->Bool}
theorem yt (eg:∀args w,(callFunc g args).run prog w=.ok (.enter g args) w)(a:Option Addr)(cap:Nat)(l:List Dv)(w:World)(hsl:Ud w a l)(hl:l.length<=1000000)
 (hp:∀W,Below w.heap.size w W->∀x∈l,Calls prog g (#[YX x]++lb) W λe w'=>e=.returned (.bool (p x))/\Below W.heap.size W w') :
 Calls prog 119 #[.slice a l.length cap,.func (.func g) #[] lb] w λe w'=>e=.returned (.int .i64 (yN p l))/\Below w.heap.size w w':=by
 have Hp:=aj hp;have Hs:=aj hsl;obtain⟨N,hN⟩:∃N,l.length=N:=⟨_,rfl⟩;have HN:=aj hN;rw[hN] at hl;rw[hN];clear hp hsl hN;go_enter func119,ntmps119;go_wp2;go_loopw [8] (λiv wr=>∃(i:Nat),iv=.int .i64 i/\i<=N/\Hid (∀k (hk:k<l.length),k<i->p l[k]=false)/\Hid (Below w.heap.size w wr)) (λiv _=>N-(intOf iv).toNat)
 case atStart=>exact⟨0,rfl,Nat.zero_le _,aj (λk _ hk=>absurd hk (Nat.not_lt_zero k)),aj (Below.refl _ _)⟩
 case round =>
  obtain⟨i,rfl,hi,hlo,BW⟩:=hrel;by_cases hlt:i<N
  ·have hil:i<l.length:=by rw[ah HN];exact hlt
   obtain⟨b,o,rfl,t⟩:=(ah Hs).below (ah BW) i hil;obtain⟨_,c0,c1,c2⟩:=t;have H:=aj (ah Hp wr (ah BW) l[i] (List.getElem_mem _));obtain⟨x,hx⟩:∃x,l[i]=x:=⟨_,rfl⟩;have HX:=aj hx;rw[hx] at c0 c1 c2 H;clear hx
   cases he:p x with
   | true =>
    have HV:=aj (Ox hil (by rw[ah HX];exact he) (ah hlo));rw[he] at H;clear he HX hil;go_wp2_with (go_at_fn g;refine(ah H).mono ?_;rintro e w' ⟨rfl,hb'⟩);go_ret;rw[ah HV];exact⟨rfl,aA (ah BW) hb'⟩
   | false =>
    have HL:Hid (∀k (hk:k<l.length),k<i+1->p l[k]=false):=aj (λk hk q=>by
     rcases Nat.lt_succ_iff_lt_or_eq.1 q with z|z
     ·exact ah hlo k hk z
     ·subst z;rw[ah HX];exact he)
    rw[he] at H;clear he HX hil;go_wp2_with (go_at_fn g;refine(ah H).mono ?_;rintro e w' ⟨rfl,hb'⟩);refine⟨⟨i+1,by go_num,by omega,HL,aj (aA (ah BW) hb')⟩,?_⟩;simp[intOf];omega
  ·obtain rfl:i=N:=by omega
   have HV:=aj (KJ (p:=p) (l:=l) (λk hk=>ah hlo k hk (by rw[<-ah HN];exact hk)));go_wp2_with fail;go_ret;rw[ah HV];exact⟨rfl,ah BW⟩
end
theorem Qi (w:World)(x:Dv)(t:TypeId):let W:=w.alloc (.cells #[.int .i64 x.q,.int .i64 x.n,.int .i64 x.d] t)
 W.cell? ⟨w.heap.size,0,none⟩=some (.int .i64 x.q)/\W.cell? ⟨w.heap.size,1,none⟩=some (.int .i64 x.n)/\W.cell? ⟨w.heap.size,2,none⟩=some (.int .i64 x.d):=by
 refine⟨?_,?_,?_⟩<;>(rw[cell_of_row _ w.heap.size _ _ _ _ (heap_alloc_new w _)];rfl)
section
variable {g:Nat}{lb:Array Value}{p:Dv->Bool}
theorem EZ (eg:∀args w,(callFunc g args).run prog w=.ok (.enter g args) w)(b cap B:Nat)(l rest:List Dv)(w:World)(ha:bV w B (.slice (some ⟨b,0,none⟩) (l++rest).length cap) (l++rest))(hl:l.length<=1000000)
 (hp:∀W,aF (λk=>k=b) w W->∀x∈l,Calls prog g (#[YX x]++lb) W λe w'=>e=.returned (.bool (p x))/\Below W.heap.size W w') :
 Calls prog 92 #[.slice (some ⟨b,0,none⟩) l.length cap,.func (.func g) #[] lb] w λe w'=>e=.returned (.slice (some ⟨b,0,none⟩) (l.filter (λx=>!p x)).length cap)/\bV w' B (.slice (some ⟨b,0,none⟩) (l++rest).length cap) (l.filter (λx=>!p x)++List.replicate (l.length-(l.filter (λx=>!p x)).length) ⟨0,0,0⟩++rest)/\aF (λk=>k=b) w w':=by
 have Ha:=aj ha;have Hp:=aj hp;obtain⟨a1,cap1,e1,hcap,hmax,hsl,hown⟩:=ha.shape;obtain⟨rfl,_,rfl⟩:=Value.slice.inj e1;clear e1;have hsl2:Ud w (some ⟨b,0,none⟩) l:=λk hk=>by
  obtain⟨b2,o2,e2,t2⟩:=hsl k (by rw[List.length_append];omega);rw[List.getElem_append_left hk] at t2;exact⟨b2,o2,e2,t2⟩
 rw[List.length_append] at hcap;have HI:=aj (yt (p:=p) eg (some ⟨b,0,none⟩) cap l w hsl2 hl (λW hb=>hp W (aF.of_below hb)));obtain⟨M,hM⟩:∃M,(l++rest).length=M:=⟨_,rfl⟩;rw[hM] at Ha;rw[hM];have HM0:=aj hM;rcases KL p l with ⟨e1,hall⟩|⟨i,hil,e1,hpi,hlo⟩
 ·have HF:=aj (Bq hall);rw[e1] at HI;clear hp hsl hsl2 ha hall e1 hown hM;go_enter func92,ntmps92;go_wp2_with (go_at_call 119;refine(ah HI).mono ?_;rintro e w' ⟨rfl,hb'⟩);go_ret;rw[ah HF,Nat.sub_self];exact⟨rfl,by simpa using (ah Ha).below hb',aF.of_below hb'⟩
 ·obtain⟨k1,k2⟩:=Gn hil hlo hpi;rw[e1] at HI;have K1:=aj k1;have K2:=aj k2;obtain⟨N,hN⟩:∃N,l.length=N:=⟨_,rfl⟩;have HN:=aj hN;have hne1:((i:Int)==-1)=false:=beq_eq_false_iff_ne.2 (by omega);rw[hN] at HI hl hcap;rw[hN];have hiN:i<N:=by omega
  clear hp hsl hsl2 ha e1 hown k1 k2 hlo hpi hil hN hM;go_enter func92,ntmps92;go_wp2_with (go_at_call 119;refine(ah HI).mono ?_;rintro e w1 ⟨rfl,hb1⟩);go_loopw [5,6,7] (λiv jv _ wr=>∃j:Nat,iv=.int .i64 ((dK p l j).length:Int)/\jv=.int .i64 j/\j<=N/\(dK p l j).length<j/\Hid (bV wr B (.slice (some ⟨b,0,none⟩) M cap) (jE p l j++rest))/\Hid (aF (λk=>k=b) w wr)) (λ_ jv _ _=>N-(intOf jv).toNat)
  case atStart=>exact⟨i+1,by rw[ah K1],by go_num,by omega,by rw[ah K1];omega,aj (by rw[ah K2];exact(ah Ha).below hb1),aj (aF.of_below hb1)⟩
  case round =>
   obtain⟨j,rfl,rfl,hj,hij,AW,CW⟩:=hrel;by_cases hlt:j<N
   ·have hjl:j<l.length:=by rw[ah HN];exact hlt
    have hjm:j<(jE p l j).length:=by rw[kH];exact hjl
    have hjr:j<(jE p l j++rest).length:=by rw[List.length_append];omega
    obtain⟨hbl,c0,c1,c2⟩:=(ah AW).at hjr;rw[List.getElem_append_left hjm,SQ hjl hjm] at c0 c1 c2;have him:(dK p l j).length<(jE p l j).length:=by omega
    have hir:(dK p l j).length<(jE p l j++rest).length:=by omega
    have ZB:(jE p l j).length=N:=by rw[kH];exact ah HN
    have hM2:(jE p l j++rest).length=M:=by rw[List.length_append,kH,<-List.length_append];exact ah HM0
    obtain⟨x,hx⟩:∃x,l[j]=x:=⟨_,rfl⟩;have HX:=aj hx;rw[hx] at c0 c1 c2;have bA:Below wr.heap.size wr (wr.alloc (L6 x)):=(Below.refl _ _).alloc (Nat.le_refl _) _;have cA:=aj ((ah CW).trans (aF.of_below bA));have H:=aj (ah Hp (wr.alloc (L6 x)) (ah cA) x (by rw[<-hx];exact List.getElem_mem _));obtain⟨n0,n1,n2⟩:=Qi wr x 78;have BA:=aj bA;have AA:=aj ((ah AW).below bA);clear hx bA;have hb0:b<(wr.alloc (L6 x)).heap.size:=by simp;omega
    have hnb:wr.heap.size≠b:=by omega
    cases he:p x with
    | false =>
     have HM:=aj (KI (p:=p) hjl (by rw[ah HX];exact he));have HK:=aj (congrArg List.length (wR (p:=p) hjl (by rw[ah HX];exact he)));rw[he] at H;rw[ah HX] at HM;obtain⟨i,hi⟩:∃i,(dK p l j).length=i:=⟨_,rfl⟩;rw[hi] at hij him hir HM;rw[List.length_append,hi,List.length_singleton] at HK;have hti:=(ah AA).at hir;obtain⟨y,hy⟩:∃y,(jE p l j++rest)[i]=y:=⟨_,rfl⟩;rw[hy] at hti;have hfr:=aj ((bH.free (ah AA))).1;have HIM:=aj him;rw[hi];clear he hjm hjr him hir hi hy HX;go_wp2_with (go_at_fn g;refine(ah H).mono ?_;rintro e w' ⟨rfl,hb'⟩;have m0:=(hb'.cell (p:=⟨wr.heap.size,0,none⟩) (by simp)).trans n0;have m1:=(hb'.cell (p:=⟨wr.heap.size,1,none⟩) (by simp)).trans n1;have m2:=(hb'.cell (p:=⟨wr.heap.size,2,none⟩) (by simp)).trans n2;have t0:=(hb'.cell (p:=⟨b,i*3,none⟩) hb0).trans hti.c0;have t1:=(hb'.cell (p:=⟨b,i*3+1,none⟩) hb0).trans hti.c1;have t2:=(hb'.cell (p:=⟨b,i*3+2,none⟩) hb0).trans hti.c2;have f0:=(hb'.frozen (p:=⟨b,i*3,none⟩) hb0).trans (ah hfr _);have f1:=(hb'.frozen (p:=⟨b,i*3+1,none⟩) hb0).trans (ah hfr _);have f2:=(hb'.frozen (p:=⟨b,i*3+2,none⟩) hb0).trans (ah hfr _))
     have A1:=(ah AA).below hb';rw[<-hM2] at A1;have A2:=A1.set (k:=i) (by rw[List.length_append];have:=ah HIM;omega) x;rw[hM2,List.set_append_left _ _ (ah HIM),<-ah HM] at A2;refine⟨⟨j+1,by rw[ah HK];go_num,by go_num,by omega,by rw[ah HK];omega,aj A2,aj (((ah cA).trans (aF.of_below hb')).trans (lI [.int .i64 x.q,.int .i64 x.n,.int .i64 x.d] (i*3) w'))⟩,?_⟩;simp[intOf];omega
    | true =>
     have HM:=aj (KH (p:=p) hjl (by rw[ah HX];exact he));have HK:=aj (ql (p:=p) hjl (by rw[ah HX];exact he));rw[he] at H;clear HX hjl hjm hjr him hir he;go_wp2_with (go_at_fn g;refine(ah H).mono ?_;rintro e w' ⟨rfl,hb'⟩);refine⟨⟨j+1,by rw[ah HK],by go_num,by omega,by rw[ah HK];omega,aj (by rw[ah HM];exact(ah AA).below hb'),aj ((ah cA).trans (aF.of_below hb'))⟩,?_⟩;simp[intOf];omega
   ·obtain rfl:j=N:=by omega
    obtain⟨i,hi⟩:∃i,(dK p l j).length=i:=⟨_,rfl⟩;rw[hi] at hij;rw[hi];have hfr:=aj ((bH.free (ah AW))).1;have hsp:=aj ((bH.free (ah AW))).2;have hcl:∀ty,(Builtin.clear_ #[74] ty #[.slice (some ⟨b,i*3,none⟩) (j-i) (cap-i)]).run prog wr=.ok (.tuple #[]) (wr.setCells b (i*3) (FY (.agg #[.int .i64 0,.int .i64 0,.int .i64 0]) (j-i))):=λty =>
     pz (P:=prog) 74 78 ty _ underlying74 Tryz.zeroValue78 rfl (λk hk=>by
      match k,hk with
      | 0,_=>rfl
      | 1,_=>rfl
      | 2,_=>rfl) wr b (i*3) (j-i) (cap-i) (by omega) (λk hk=>ah hsp _ (by omega)) (λk hk=>ah hfr _)
    have q1:¬(cap=i):=by omega
    have HI2:=aj hi;clear hi;go_wp2_with fail;go_ret;have hk2:dK p l j=l.filter (λx=>!p x):=by rw[<-ah HN];exact KG p l
    have hi2:=ah HI2;rw[hk2] at hi2;have A1:=ah AW;have em:jE p l j=l.filter (λx=>!p x)++l.drop (l.filter (λx=>!p x)).length:=by unfold jE;rw[hk2]
    have hdl:(l.drop (l.filter (λx=>!p x)).length).length=j-i:=by rw[List.length_drop,ah HN,hi2]
    have hM2:(l.filter (λx=>!p x)++l.drop (l.filter (λx=>!p x)).length++rest).length=M:=by rw[<-em,List.length_append,kH,<-List.length_append];exact ah HM0
    rw[em,<-hM2] at A1;have A2:=A1.Wp;rw[hM2,hdl,hi2] at A2;refine⟨by rw[hi2];rfl,?_,(ah CW).trans (lI _ _ _)⟩;rw[hi2];exact A2
end
end Go.Proofs.YtophdoapcdjnjaaGreatDoor.Dk
namespace Go.Proofs.YtophdoapcdjnjaaGreatDoor.Dk
open Go.RowKit Go.Deep Go.Proofs.Tryz
theorem Mc (es:List lU)(z:List Value)(i d m:Nat)(hn:es.length=i+d+m) :
 ((((aH es).take (i*3)++(aH es).drop ((i+d)*3)++(aH es).drop (i*3+((aH es).drop ((i+d)*3)).length)).take ((i+m)*3)++z++((aH es).take (i*3)++(aH es).drop ((i+d)*3)++(aH es).drop (i*3+((aH es).drop ((i+d)*3)).length)).drop ((i+m)*3+z.length)).take ((i+m)*3))=aH (es.take i++es.drop (i+d)):=by
 have hcl:(aH es).length=(i+d+m)*3:=by rw[aS,hn]
 have h1:((aH es).take (i*3)++(aH es).drop ((i+d)*3)).length=(i+m)*3:=by rw[List.length_append,List.length_take,List.length_drop,hcl];omega
 have h2:((aH es).take (i*3)++(aH es).drop ((i+d)*3)++(aH es).drop (i*3+((aH es).drop ((i+d)*3)).length)).take ((i+m)*3)=(aH es).take (i*3)++(aH es).drop ((i+d)*3):=by
  rw[List.take_append_of_le_length (by omega),List.take_of_length_le (by omega)]
 rw[h2,List.append_assoc ((aH es).take (i*3)++(aH es).drop ((i+d)*3)),List.take_append_of_le_length (by omega),List.take_of_length_le (by omega)];rw[bF,sW,sZ]
theorem G6 (B g c i j d m:Nat)(es:List lU)(w:World)(hn:es.length=j+m)(ha:bH 78 w B (.slice (some ⟨g,0,none⟩) (j+m) c) es)(je:es.length<=1000000)(hc:j+m<=c)(ho:∀x∈es,KE x)(hd:0<d)(hj:i+d=j) :
 Calls prog 38 #[.slice (some ⟨g,0,none⟩) (j+m) c,.int .i64 i,.int .i64 j] w λe w' =>
  e=.returned (.slice (some ⟨g,0,none⟩) (i+m) c)/\w'=(w.drew.setCells g (0+i*3) ((aH es).drop (j*3))).setCells g ((i+m)*3) (FY (.agg #[.int .i64 0,.int .i64 0,.int .i64 0]) d):=by
 obtain⟨i0,hi0,hz0,hz1,hz2⟩:=info_parts Vu;obtain⟨news,hnews⟩:∃news,news=(aH es).drop (j*3):=⟨_,rfl⟩;have hlen:news.length=m*3:=by rw[hnews,List.length_drop,aS,hn];omega
 obtain⟨cur,hg,hcs⟩:∃cur,w.heap[g]?=some (.cells cur 78 (0,0))/\cur.size=c*3:=by
  rcases ha.2 with ⟨q,_⟩|⟨g',cap',cur,q,h2,h3,h4,h5,h6,h7⟩
  ·cases q
  ·simp only[Value.slice.injEq,Option.some.injEq,Addr.mk.injEq,and_true] at q;obtain⟨rfl,_,rfl⟩:=q;exact⟨cur,h3,h6⟩
 have hsp:∀j,j<c*3->(w.cell? ⟨g,j,none⟩).isSome=true:=by
  intro j hj;rw[cell_of_row w g j _ _ _ hg,Array.getElem?_eq_getElem (by omega)];rfl
 have hfz:∀j,w.frozen? ⟨g,j,none⟩=false:=λj=>frozen_of_row w g j _ _ hg
 have hcell:∀j u,(aH es)[j]?=some u->w.cell? ⟨g,j,none⟩=some u:=by
  intro j u hj;exact ha.cell j u hj
 obtain⟨A,hA,hsrc⟩:∃A:Addr,(if c=j then some (⟨g,0,none⟩:Addr) else some ⟨g,j*3,none⟩)=some A/\Hid (∀t u,news[t]?=some u->w.drew.cell? (A.add t)=some u):=by
  by_cases h:c=j
  ·refine⟨⟨g,0,none⟩,by simp[h],λt u hu=>?_⟩;have h0:news.length=0:=by rw[hlen];omega
   rw[List.length_eq_zero_iff.1 h0] at hu;simp at hu
  ·refine⟨⟨g,j*3,none⟩,by simp[h],λt u hu=>?_⟩;rw[Addr.add_lit];refine hcell _ u ?_;rw[hnews,List.getElem?_drop] at hu;exact hu
 have s1:=aj hlen;have s2:Hid (∀u∈news,u.oneCell'=true):=by
  intro u hu;rw[hnews] at hu;exact ru es ho u (List.mem_of_mem_drop hu)
 have s3:Hid (∀t,t<news.length->(w.drew.cell? ⟨g,0+i*3+t,none⟩).isSome=true/\w.drew.frozen? ⟨g,0+i*3+t,none⟩=false):=by
  intro t ht;rw[hlen] at ht;exact⟨hsp _ (by omega),hfz _⟩
 obtain⟨W1,hW1⟩:∃W1,W1=w.drew.setCells g (0+i*3) news:=⟨_,rfl⟩;have hcl:∀ty c',(Builtin.clear_ #[74] ty #[.slice (some ⟨g,(i+m)*3,none⟩) d c']).run prog W1=.ok (.tuple #[]) (W1.setCells g ((i+m)*3) (FY (.agg #[.int .i64 0,.int .i64 0,.int .i64 0]) d)):=λty c' =>
  pz (P:=prog) 74 78 ty _ underlying74 Tryz.zeroValue78 rfl (λk hk=>by
   match k,hk with
   | 0,_=>rfl
   | 1,_=>rfl
   | 2,_=>rfl) W1 g ((i+m)*3) d c' (by omega) (λj hj=>by
   rw[hW1];exact isSome_setCells g news (0+i*3) w.drew (λt ht=>hsp _ (by rw[hlen] at ht;omega)) _ (hsp _ (by omega)))
   (λj hj=>by rw[hW1,World.frozen?_setCells];exact hfz _)
 have hW:Hid (W1=w.drew.setCells g (0+i*3) news):=hW1;rw[<-hnews];clear hW1 hsp hfz hcell hg ha hnews hlen hz0 hz2;have hic:i<=c:=by omega
 have hjc:j<=c:=by omega
 have b1:(0:Int)<=(j:Int):=by omega
 have b2:(j:Int)<=(j:Int)+(m:Int):=by omega
 have q1:¬(c=i+m):=by omega
 have q2:j+m-(i+m)=d:=by omega
 have q3:((i:Int)==(j:Int))=false:=beq_eq_false_iff_ne.2 (by omega);go_enter func38,ntmps38;go_wp2_with fail;go_region_law (refine step_append_room rfl (.tmp 22) (.tmp 25) 74 rfl 78 i0 3 underlying74 hi0 hz1 g 0 i c (by simp[Act.eval,Act.put]) A m (c-j) news (by simp[Act.eval,Act.put]) s1.out hsrc.out s2.out (by omega) s3.out ?_;rw[<-hW.out])
 go_wp2;go_ret;exact⟨rfl,by rw[hW.out]⟩
theorem sH (a:Option Addr)(n cap i:Nat)(w:World)(hi:i<=n)(hn:n<=cap) :
 Calls prog 38 #[.slice a n cap,.int .i64 i,.int .i64 i] w λe w'=>e=.returned (.slice a n cap)/\w'=w:=by
 have hic:i<=cap:=by omega
 cases a with
 | none =>
  go_enter func38,ntmps38;go_wp2_with fail;go_ret;exact⟨rfl,rfl⟩
 | some z =>
  go_enter func38,ntmps38;go_wp2_with fail;all_goals
   go_ret
   exact⟨rfl,rfl⟩
theorem kR (B:Nat)(v:Value)(x y z:List Dv)(w:World)(ha:bV w B v (x++y++z))(je:(x++y++z).length<=1000000)(hy:0<y.length)(j:Nat)(hjj:x.length+y.length=j) :
 Calls prog 38 #[v,.int .i64 x.length,.int .i64 j] w λe w'=>∃v',e=.returned v'/\bV w' B v' (x++z)/\aF (λk=>v.ownBlock=some k) w w'/\∀g,v'.ownBlock=some g->v.ownBlock=some g\/w.heap.size<=g:=by
 obtain⟨es,hes⟩:∃es,es=(x++y++z).map yh:=⟨_,rfl⟩;obtain⟨i,hix⟩:∃i,x.length=i:=⟨_,rfl⟩;obtain⟨d,hdy⟩:∃d,y.length=d:=⟨_,rfl⟩;obtain⟨m,hmz⟩:∃m,z.length=m:=⟨_,rfl⟩;have hn:es.length=i+d+m:=by rw[hes,List.length_map,List.length_append,List.length_append,hix,hdy,hmz]
 have ho:∀x∈es,KE x:=by rw[hes];exact Uc _
 have hfin:(x++z).map yh=es.take i++es.drop (i+d):=by
  rw[hes,<-hix,<-hdy];simp only[List.map_append];rw[List.take_append_of_le_length (by simp),List.take_append_of_le_length (by simp),List.take_of_length_le (by simp),List.drop_append_of_le_length (by simp),List.drop_of_length_le (by simp),List.nil_append]
 unfold bV at ha ⊢;rw[hfin];rw[<-hes] at ha;have h10:es.length<=1000000:=by rw[hes,List.length_map];exact je
 rw[hix,hdy] at hjj;rw[hix];rw[hdy] at hy;subst hjj;clear hes hfin je hix hdy hmz;obtain⟨g,cap,rfl,c1,c2,c3,c4⟩:=ha.there (by omega);rw[hn] at ha c1 ⊢;refine(G6 B g cap i (i+d) d m es w hn ha h10 c1 ho hy rfl).mono ?_;rintro e w' ⟨rfl,rfl⟩;refine⟨_,rfl,?_,?_,λg' hg'=>.inl hg'⟩
 ·have o0:w.drew.ownsRow B 78 3 (.slice (some ⟨g,0,none⟩) (i+d+m) cap) (i+d+m) (aH es):=by
   unfold bH at ha;rw[hn] at ha;exact ha
  have hcl:(aH es).length=(i+d+m)*3:=by rw[aS,hn]
  have hdl:((aH es).drop ((i+d)*3)).length=m*3:=by rw[List.length_drop,hcl];omega
  have hzl:(FY (.agg #[.int .i64 0,.int .i64 0,.int .i64 0]) d).length=d*3:=l7 _ d rfl;have o1:=jL ((aH es).drop ((i+d)*3)) (i*3) _ _ o0 (by rw[hcl,hdl];omega);have o2:=jL (FY (.agg #[.int .i64 0,.int .i64 0,.int .i64 0]) d) ((i+m)*3) _ _ o1 (by
   simp only[List.length_append,List.length_take,List.length_drop,hcl,hzl];omega)
  have o3:=rC (k:=i+m) o2 (by omega);rw[Mc es _ i d m hn] at o3;unfold bH;rw[List.length_append,List.length_take,List.length_drop,hn,show min i (i+d+m)+(i+d+m-(i+d))=i+m by omega,Nat.zero_add];exact o3
 ·have c:aF (λk=>k=g) w w.drew:=⟨rfl,rfl,rfl,Nat.le_refl _,λ_ _ _=>rfl⟩;exact((c.trans (lI _ _ _)).trans (lI _ _ _)).mono (λk _ hk=>by rw[hk];rfl)
end Go.Proofs.YtophdoapcdjnjaaGreatDoor.Dk
namespace Go.Proofs.YtophdoapcdjnjaaGreatDoor.Dk
open Go.RowKit Go.Proofs.Tryz
theorem Ad:∀args w,(callFunc 93 args).run prog w=.ok (.enter 93 args) w:=enters_of func93 (by kernel_rfl) rfl
theorem yu (p:Dv)(now:Int)(b:Nat)(w:World)(hb:w.cell? ⟨b,0,none⟩=some (.int .i64 now))(hl:b<w.heap.size) :
 Calls prog 93 #[YX p,.pointer (some ⟨b,0,none⟩)] w λe w'=>e=.returned (.bool (decide (p.d<=now)))/\Below w.heap.size w w':=by
 have B0:=aj (show Below w.heap.size w (w.alloc (L6 p)) from(Below.refl _ _).alloc (Nat.le_refl _) _);have h2:(w.alloc (L6 p)).cell? ⟨b,0,none⟩=some (.int .i64 now):=by rw[World.cell?_alloc_lt _ _ _ hl];exact hb
 go_enter func93,ntmps93;go_wp2_with fail;go_ret;exact⟨rfl,ah B0⟩
def E5 (now:Int)(l:List Dv)(k:Nat):List Dv:=(l.take k).filter (λx=>!decide (x.d<=now))++l.drop k
theorem E8 {g:Nat}{lb:Array Value}(eg:∀args w,(callFunc g args).run prog w=.ok (.enter g args) w)(a:Option Addr)(cap:Nat)(w:World) :
 Calls prog 92 #[.slice a 0 cap,.func (.func g) #[] lb] w λe w'=>e=.returned (.slice a 0 cap)/\Below w.heap.size w w':=by
 have HI:=aj (yt (p:=λ_=>false) (lb:=lb) eg a cap [] w (λk hk=>absurd hk (Nat.not_lt_zero k)) (by simp) (λW _ x hx=>by cases hx));rw[show yN (λ(_:Dv)=>false) []=-1 from rfl,show([]:List Dv).length=0 from rfl] at HI;go_enter func92,ntmps92;go_wp2_with (go_at_call 119;refine(ah HI).mono ?_;rintro e w' ⟨rfl,hb'⟩);go_ret;exact⟨rfl,hb'⟩
section
variable {w:World}{B b:Nat}{c:dM}{a:Option Addr}{ca:Nat}{v:Value}
theorem pK (h:Cm w B b c a ca v)(hl:c.pe.length<=1000000)(k:Nat)(hk:k<=c.pe.length)(now:Int) :
 Calls prog 62 #[.pointer (some ⟨b,0,none⟩),.int .i64 k,.int .i64 now] w λe w'=>e=.returned (.tuple #[])/\aQ w w' B b a ca v ⟨c.t,c.pl,E5 now c.pe k,c.cn⟩:=by
 have b0:Below w.heap.size w (w.alloc (.cells #[.int .i64 now] 3)):=(Below.refl _ _).alloc (Nat.le_refl _) _;have k1:=h.next b0;have hc:=k1.pe;have hf:=k1.fr 11;have hn0:v.ownBlock≠some w.heap.size:=λq=>by have:=(h.row.lt _ q).2;omega
 by_cases h0:c.pe.length=0
 ·have hk0:k=0:=by omega
  subst hk0;have hpe:=List.length_eq_zero_iff.1 h0;have HV:Hid (E5 now c.pe 0=c.pe):=aj (by rw[hpe];rfl);obtain⟨a0,cap0,rfl,z1,_⟩:=h.row.shape;rw[h0] at hc z1;have HD:Hid (∀w1,Calls prog 92 #[.slice a0 0 cap0,.func (.func 93) #[] #[.pointer (some ⟨w.heap.size,0,none⟩)]] w1 λe w'=>e=.returned (.slice a0 0 cap0)/\Below w1.heap.size w1 w'):=aj (λw1=>E8 Ad a0 cap0 w1);have HN:Hid (∀w1,Calls prog 38 #[.slice a0 0 cap0,.int .i64 0,.int .i64 0] w1 λe w'=>e=.returned (.slice a0 0 cap0)/\w'=w1):=aj (λw1=>sH a0 0 cap0 0 w1 (Nat.le_refl _) z1);have HK:=aj k1
  have HB:=aj b0;have hbl:=k1.tb.lt;rw[ah HV];have HE:=aj h0;clear h k1 b0 hn0 hpe h0 HV hl hk
  cases a0 with
  | none =>
   go_enter func62,ntmps62;go_wp2_with (first|(go_at_call 92;refine(ah HD _).mono ?_;rintro e w1 ⟨rfl,hB⟩;have x0:=(hB.cell (p:=⟨b,11,none⟩) hbl).trans hc;have x1:=(hB.frozen (p:=⟨b,11,none⟩) hbl).trans hf;have Ye:=aj hB;clear hB)|(go_at_call 38;refine(ah HN _).mono ?_;rintro e w2 ⟨rfl,rfl⟩));go_end0
   have U:=aQ.trans (aF.of_below (ah HB)) (λ_ q=>.inl q) (aQ.put (ah HK) (aF.of_below (ah Ye)) (j:=11) (.inr (.inr ⟨rfl,rfl,rfl,rfl⟩)) ((ah HK).row.below (ah Ye)) (λ_ q=>.inl q));rw[ah HE] at U ⊢;exact⟨rfl,U⟩
  | some z =>
   go_enter func62,ntmps62;go_wp2_with (first|(go_at_call 92;refine(ah HD _).mono ?_;rintro e w1 ⟨rfl,hB⟩;have x0:=(hB.cell (p:=⟨b,11,none⟩) hbl).trans hc;have x1:=(hB.frozen (p:=⟨b,11,none⟩) hbl).trans hf;have Ye:=aj hB;clear hB)|(go_at_call 38;refine(ah HN _).mono ?_;rintro e w2 ⟨rfl,rfl⟩));go_end0
   have U:=aQ.trans (aF.of_below (ah HB)) (λ_ q=>.inl q) (aQ.put (ah HK) (aF.of_below (ah Ye)) (j:=11) (.inr (.inr ⟨rfl,rfl,rfl,rfl⟩)) ((ah HK).row.below (ah Ye)) (λ_ q=>.inl q));rw[ah HE] at U ⊢;exact⟨rfl,U⟩
 ·obtain⟨g,cap,rfl,z1,z2,z3,z4⟩:=(fK.tri k1.row).there (by omega);have hsp:c.pe=c.pe.take k++c.pe.drop k:=(List.take_append_drop k c.pe).symm;have htl:(c.pe.take k).length=k:=by rw[List.length_take];omega
  have ha:=fK.tri k1.row;have HD0:=EZ (p:=λx=>decide (x.d<=now)) (lb:=#[.pointer (some ⟨w.heap.size,0,none⟩)]) Ad g cap B (c.pe.take k) (c.pe.drop k) _ (by rw[<-hsp];exact ha) (by omega) (λW hW x _=>yu x now w.heap.size W (by
   rw[hW.cell (p:=⟨w.heap.size,0,none⟩) (by simp) (λq=>hn0 (by rw[<-q];rfl))];simp) (by have:=hW.size;simp at this;omega))
  rw[htl,<-hsp] at HD0;obtain⟨f,hfl⟩:∃f,(c.pe.take k).filter (λx=>!decide (x.d<=now))=f:=⟨_,rfl⟩;have hfk:f.length<=k:=Nat.le_trans (by rw[<-hfl];exact List.length_filter_le _ _) (Nat.le_of_eq htl);have HV:Hid (E5 now c.pe k=f++c.pe.drop k):=aj (by unfold E5;rw[hfl]);rw[hfl] at HD0;have HD:=aj HD0;have hkc:k<=cap:=by omega
  have hgb:g≠b:=λe=>h.ne1 (by rw[e];rfl)
  have HGB:=aj h.ne1;have HC:Hid (∀w1,aF (λk=>k=g) (w.alloc (.cells #[.int .i64 now] 3)) w1->w1.cell? ⟨b,11,none⟩=some (.slice (some ⟨g,0,none⟩) c.pe.length cap)/\w1.frozen? ⟨b,11,none⟩=false):=aj (λw1 hC=>⟨by rw[hC.cell (p:=⟨b,11,none⟩) k1.tb.lt (λq=>hgb q.symm)];exact hc,by rw[hC.frozen (p:=⟨b,11,none⟩) k1.tb.lt (λq=>hgb q.symm)];exact hf⟩);obtain⟨y,hy⟩:∃y,List.replicate (k-f.length) (⟨0,0,0⟩:Dv)=y:=⟨_,rfl⟩;have hyl:f.length+y.length=k:=by rw[<-hy,List.length_replicate];omega
  rw[hy] at HD;obtain⟨r,hr⟩:∃r,c.pe.drop k=r:=⟨_,rfl⟩;rw[hr] at HD HV;have hlen:(f++y++r).length=c.pe.length:=by rw[List.length_append,List.length_append,<-hr,List.length_drop];omega
  have HU:Hid (∀w1 w' v',aF (λk=>k=g) (w.alloc (.cells #[.int .i64 now] 3)) w1->aF (λk=>(Value.slice (some ⟨g,0,none⟩) c.pe.length cap).ownBlock=some k) w1 w'->bV w' B v' (f++r)->(∀g',v'.ownBlock=some g'->(Value.slice (some ⟨g,0,none⟩) c.pe.length cap).ownBlock=some g'\/w1.heap.size<=g')->aQ w (w'.setCell ⟨b,11,none⟩ v') B b a ca (.slice (some ⟨g,0,none⟩) c.pe.length cap) ⟨c.t,c.pl,E5 now c.pe k,c.cn⟩):=aj (λw1 w' v' c1 c2 hA hg=>by
   rw[ah HV];refine aQ.trans (aF.of_below b0) (λ_ q=>.inl q) (aQ.put k1 (((c1.mono (λ_ _ q=>by rw[q];rfl)).trans c2)) (.inr (.inr ⟨rfl,rfl,rfl,rfl⟩)) hA.Ue (λg' e=>?_));rcases hg g' e with q|q
   ·exact .inl q
   ·exact .inr (Nat.le_trans c1.size q))
  by_cases hfe:f.length=k
  ·have hy0:y=[]:=List.length_eq_zero_iff.1 (by omega);subst hy0;have HN:=aj (sH (some ⟨g,0,none⟩) c.pe.length cap k · hk z1);rw[hfe] at HD;rw[List.append_nil] at HD;clear h k1 HD0 ha hsp htl hfl hr hlen hyl z2 z3 b0 hn0 h0 hfk HV hgb hf;go_enter func62,ntmps62;go_wp2_with (first|(go_at_call 92;refine(ah HD).mono ?_;rintro e w1 ⟨rfl,hA,hC⟩;obtain⟨x0,x1⟩:=ah HC w1 hC;have HA:=aj hA;have ZF:=aj hC;clear hA hC)|(go_at_call 38;refine(ah HN _).mono ?_;rintro e w2 ⟨rfl,rfl⟩));go_end0
   exact⟨rfl,ah HU _ _ _ (ah ZF) (aF.refl _ _) (ah HA) (λ_ q=>.inl q)⟩
  ·have hyp:0<y.length:=by omega
   have HN:Hid (∀w1,bV w1 B (.slice (some ⟨g,0,none⟩) c.pe.length cap) (f++y++r)->_):=aj (λw1 hA=>kR B (.slice (some ⟨g,0,none⟩) c.pe.length cap) f y r w1 hA (by omega) hyp k hyl);clear h k1 HD0 ha hsp htl hfl hr hlen hyl z2 z3 b0 hn0 h0 HV hgb hf hy hyp;go_enter func62,ntmps62;go_wp2_with (first|(go_at_call 92;refine(ah HD).mono ?_;rintro e w1 ⟨rfl,hA,hC⟩;obtain⟨x0,x1⟩:=ah HC w1 hC;have HN1:=aj (ah HN w1 hA);have ZF:=aj hC;have HLT:=aj hC.size;clear hA hC)|(go_at_call 38;refine(ah HN1).mono ?_;rintro e w2 ⟨v',rfl,hA,hC,hG⟩;have HU2:=aj (ah HU _ _ _ (ah ZF) hC hA hG);have y0:=(hC.cell (p:=⟨b,11,none⟩) (World.block_lt_of_cell? _ _ x0) (ah HGB)).trans x0;have y1:=(hC.frozen (p:=⟨b,11,none⟩) (World.block_lt_of_cell? _ _ x0) (ah HGB)).trans x1;obtain⟨a',cap',rfl,z9⟩:=bV.shape hA;rw[List.length_append] at HU2;clear z9 hA hC hG))
   go_end0
   exact⟨rfl,ah HU2⟩
end
abbrev ZG:Obj:=.cells #[.int .i64 0,.int .i64 0,.int .i64 0,.int .i64 0] 34
section
variable {w:World}{B b:Nat}{c:dM}{a:Option Addr}{ca:Nat}{v:Value}
theorem Qj (h:Cm w B b c a ca v)(ho:c.Ok) :
 Calls prog 8 #[.pointer (some ⟨b,0,none⟩)] w λe w'=>e=.returned (YU (tV c) (c.pl-1) c.cn (c.pe.length:Int))/\Below w.heap.size w w':=by
 have b0:Below w.heap.size w (w.alloc ZG):=(Below.refl _ _).alloc (Nat.le_refl _) _;have h1:=h.next b0;obtain⟨s,cap,rfl,hcap,hcm,hsl⟩:=h1.row.shape;have c10:=h1.pl;have c11:=h1.pe;have c12:=h1.cn;have hbl:=h1.tb.lt;have hpl:=ho.pl
 cases hp:c.pe with
 | nil =>
  have hN:c.pe.length=0:=by rw[hp];rfl
  have HV:Hid (tV c=c.pl-1):=aj (by unfold tV;rw[hp]);rw[hN] at c11;rw[ah HV,show([]:List Dv).length=0 from rfl];clear h h1 b0 hsl hp hN ho;go_enter func8,ntmps8;go_wp2_with fail;go_region
  go_wp2_with fail;exact bodyPost_ret (wQ rfl rfl ((CB.new w [.int .i64 (c.pl-1),.int .i64 (c.pl-1),.int .i64 c.cn,.int .i64 0] 34).next (Below.refl _ _).drew)) rfl ⟨rfl,((Below.refl _ _).alloc (Nat.le_refl _) _).drew⟩
 | cons p r =>
  have hN:c.pe.length=r.length+1:=by rw[hp];rfl
  have HV:Hid (tV c=p.q-1):=aj (by unfold tV;rw[hp]);obtain⟨g,e0,t0⟩:=hsl 0 (by rw[hN];omega);have x0:=t0.c0;have hq:(dv c.pe 0).q=p.q:=by rw[hp];rfl
  rw[hq,Nat.zero_mul] at x0;have hpq:=ho.low p (by rw[hp];simp);rw[hN] at c11;rw[ah HV,show(p::r).length=r.length+1 from rfl];subst e0;have hgl:=t0.lt;clear h h1 b0 hsl hp ho t0 hq;obtain⟨Nr,ZH⟩:∃Nr,r.length=Nr:=⟨_,rfl⟩;rw[ZH] at c11 hN;rw[ZH];have hN5:Nr+1<=cap:=by omega
  unfold maxLen at hcm;clear ZH hN hcap;go_enter func8,ntmps8;go_wp2_with fail;go_region
  go_wp2_with fail;exact bodyPost_ret (wQ rfl rfl ((CB.new w [.int .i64 (p.q-1),.int .i64 (c.pl-1),.int .i64 c.cn,.int .i64 ((Nr:Int)+1)] 34).next (Below.refl _ _).drew)) rfl ⟨rfl,((Below.refl _ _).alloc (Nat.le_refl _) _).drew⟩
end
end Go.Proofs.YtophdoapcdjnjaaGreatDoor.Dk
namespace Go.Proofs.YtophdoapcdjnjaaGreatDoor.Dk
open Go Go.Proofs.Tryz
structure Po where
 s:ByteArray
 i:ByteArray
 h:ByteArray
 d:ByteArray
 x:Int
 ro:Int
structure Kn where
 i:ByteArray
 a:Int
 q:Int
structure Str where
 es:List aC
 s:aX
 ids:List Kn
def pv (p:Pn.dN)(k:Nat):Int:=nth p.v k
def Qk (p:Pn.dN)(s:ByteArray):Bool:=p.f.any λf=>lM f s
def sJ (p:Pn.dN)(now:Int)(x:Po):Int :=
 if (lC now 0 1099511627776&&(decide (-1<=x.x)&&lC x.ro 0 2))=false then 1
 else if aB false x.s≠0 then aB false x.s
 else if Qk p x.s=false then 10
 else if (decide (256<x.h.size+x.d.size)||((decide (pv p 4≠0)&&decide (pv p 4<((x.h.size+x.d.size:Nat):Int)))||decide (16<x.i.size)))=true then 2
 else 0
def JK (ids:List Kn)(i:ByteArray)(from':Int):Int:=ids.foldl (λq k=>if k.i=i/\from'<=k.a then k.q else q) 0
def ou (l:List Rc)(s:ByteArray):Nat:=l.countP λr=>decide (r.s=s)
def G7 (l:List Rc)(s:ByteArray):Int:=((l.find? λr=>decide (r.s=s)).map (·.q)).getD 0
def Rt (x:Po):Nat:=x.s.size+x.h.size+x.d.size
def jy (p:Pn.dN)(l:List Rc)(x:Po):Bool:=decide (pv p 3≠0)&&decide (pv p 3<=(ou l x.s:Int))
def pO (p:Pn.dN)(l:List Rc)(x:Po):Bool:=(decide (pv p 0≠0)&&decide (pv p 0<=(l.length:Int)))||(decide (pv p 1≠0)&&decide (pv p 1<((bU l+Rt x:Nat):Int)))
def Wq:ByteArray:=⟨#[]⟩
def jk (q now:Int):Rc:=⟨2,q,now,Wq,Wq,Wq⟩
def aY (q now:Int)(x:Po):Rc:=⟨1,q,now,x.s,x.h,x.d⟩
def kC (q now:Int)(f:ByteArray):Rc:=⟨3,q,now,f,Wq,Wq⟩
def F5 (p:Pn.dN)(l:List Rc)(x:Po):Int:=if jy p l x=true then G7 l x.s else mG l
def iP (p:Pn.dN)(m size now:Int)(x:Po):Nat->List aC->aX->Int×List aC×aX
 | 0,es,s=>(0,es,s)
 | k+1,es,s=>if (jy p s.l x||pO p s.l x)=false then (0,es,s)
  else if pv p 5=1 then (8,es,s)
  else if qJ es s m size (jk (F5 p s.l x) now)≠0 then (qJ es s m size (jk (F5 p s.l x) now),es,s)
  else iP p m size now x k (yg es s m size (jk (F5 p s.l x) now)) (kQ es s m size (jk (F5 p s.l x) now))
def aV (p:Pn.dN)(m size now:Int)(x:Po)(es:List aC)(s:aX):Int×List aC×aX :=
 if pv p 1≠0/\pv p 1<(Rt x:Int) then (8,es,s) else iP p m size now x (s.l.length+1) es s
def iQ (x:Po):ByteArray:=if x.ro=1 then x.s else ⟨#[62]⟩
def Ql (ids:List Kn)(x:Po)(now q:Int):List Kn:=if x.i.size=0 then ids else ids++[⟨x.i,now,q⟩]
def yw (m size now:Int)(x:Po)(ids:List Kn)(es:List aC)(s:aX):(Int×Bool×Int)×Str :=
 if qJ es s m size (aY (s.last+1) now x)≠0 then ((0,false,qJ es s m size (aY (s.last+1) now x)),⟨es,s,ids⟩)
 else if x.ro=0 then ((s.last+1,false,0),⟨yg es s m size (aY (s.last+1) now x),kQ es s m size (aY (s.last+1) now x),Ql ids x now (s.last+1)⟩)
 else if qJ (yg es s m size (aY (s.last+1) now x)) (kQ es s m size (aY (s.last+1) now x)) m size (kC (s.last+1) now (iQ x))≠0 then
  ((0,false,qJ (yg es s m size (aY (s.last+1) now x)) (kQ es s m size (aY (s.last+1) now x)) m size (kC (s.last+1) now (iQ x))),⟨yg es s m size (aY (s.last+1) now x),kQ es s m size (aY (s.last+1) now x),Ql ids x now (s.last+1)⟩)
 else ((s.last+1,false,0),⟨yg (yg es s m size (aY (s.last+1) now x)) (kQ es s m size (aY (s.last+1) now x)) m size (kC (s.last+1) now (iQ x)),kQ (yg es s m size (aY (s.last+1) now x)) (kQ es s m size (aY (s.last+1) now x)) m size (kC (s.last+1) now (iQ x)),Ql ids x now (s.last+1)⟩)
def qG (p:Pn.dN)(now:Int)(x:Po)(ids:List Kn):Bool:=decide (x.i.size≠0)&&(decide (pv p 7≠0)&&decide (0<JK ids x.i (now-pv p 7)))
def bn (p:Pn.dN)(m size now:Int)(x:Po)(st:Str):(Int×Bool×Int)×Str :=
 if sJ p now x≠0 then ((0,false,sJ p now x),st)
 else if qG p now x st.ids=true then ((JK st.ids x.i (now-pv p 7),true,0),st)
 else if x.x≠-1/\x.x≠st.s.last then ((0,false,9),st)
 else if (aV p m size now x st.es st.s).1≠0 then ((0,false,(aV p m size now x st.es st.s).1),⟨(aV p m size now x st.es st.s).2.1,(aV p m size now x st.es st.s).2.2,st.ids⟩)
 else yw m size now x st.ids (aV p m size now x st.es st.s).2.1 (aV p m size now x st.es st.s).2.2
def ZI (m size:Int)(f:ByteArray)(below:Int)(st:Str):(Int×Int)×Str :=
 if qJ st.es st.s m size (kC below 0 f)≠0 then ((0,qJ st.es st.s m size (kC below 0 f)),st)
 else (((st.s.l.length:Int)-((kQ st.es st.s m size (kC below 0 f)).l.length:Int),0),⟨yg st.es st.s m size (kC below 0 f),kQ st.es st.s m size (kC below 0 f),st.ids⟩)
def ZJ (l:List Rc)(t:Int):Option Rc:=l.find? λr=>decide (r.t<t)
def yS (p:Pn.dN)(m size now:Int):Nat->Int->List aC->aX->(Int×Int)×List aC×aX
 | 0,n,es,s=>((n,0),es,s)
 | k+1,n,es,s=>match ZJ s.l (now-pv p 2) with
  | none=>((n,0),es,s)
  | some r=>if qJ es s m size (jk r.q now)≠0 then ((n,qJ es s m size (jk r.q now)),es,s)
   else yS p m size now k (n+1) (yg es s m size (jk r.q now)) (kQ es s m size (jk r.q now))
def Ws (p:Pn.dN)(m size now:Int)(st:Str):(Int×Int)×Str :=
 if lC now 0 1099511627776=false then ((0,1),st)
 else if pv p 2=0 then ((0,0),st)
 else ((yS p m size now (st.s.l.length+1) 0 st.es st.s).1,⟨(yS p m size now (st.s.l.length+1) 0 st.es st.s).2.1,(yS p m size now (st.s.l.length+1) 0 st.es st.s).2.2,st.ids⟩)
theorem lu.room {p:Pn.dN}{m size now:Int}{x:Po}:∀(k:Nat) {es:List aC} {s:aX},lu m es s->lu m (iP p m size now x k es s).2.1 (iP p m size now x k es s).2.2
 | 0,_,_,h=>h
 | k+1,es,s,h=>by
  unfold iP;split
  ·exact h
  ·split
   ·exact h
   ·split
    ·exact h
    ·exact lu.room k (h.did _)
theorem lu.aV {p:Pn.dN}{m size now:Int}{x:Po}{es:List aC}{s:aX}(h:lu m es s):lu m (aV p m size now x es s).2.1 (aV p m size now x es s).2.2:=by
 unfold Dk.aV;split
 ·exact h
 ·exact lu.room _ h
theorem lu.put {m size now:Int}{x:Po}{ids:List Kn}{es:List aC}{s:aX}(h:lu m es s):lu m (yw m size now x ids es s).2.es (yw m size now x ids es s).2.s:=by
 unfold yw;split
 ·exact h
 ·split
  ·exact h.did _
  ·split
   ·exact h.did _
   ·exact(h.did _).did _
theorem lu.pub {p:Pn.dN}{m size now:Int}{x:Po}{st:Str}(h:lu m st.es st.s):lu m (bn p m size now x st).2.es (bn p m size now x st).2.s:=by
 unfold bn;split
 ·exact h
 ·split
  ·exact h
  ·split
   ·exact h
   ·split
    ·exact h.aV
    ·exact lu.put h.aV
theorem lu.aal {m size:Int}{f:ByteArray}{below:Int}{st:Str}(h:lu m st.es st.s):lu m (ZI m size f below st).2.es (ZI m size f below st).2.s:=by
 unfold ZI;split
 ·exact h
 ·exact h.did _
theorem lu.yS {p:Pn.dN}{m size now:Int}:∀(k:Nat) {n:Int} {es:List aC} {s:aX},lu m es s->lu m (yS p m size now k n es s).2.1 (yS p m size now k n es s).2.2
 | 0,_,_,_,h=>h
 | k+1,n,es,s,h=>by
  unfold Dk.yS;split
  ·exact h
  ·split
   ·exact h
   ·exact lu.yS k (h.did _)
theorem lu.age {p:Pn.dN}{m size now:Int}{st:Str}(h:lu m st.es st.s):lu m (Ws p m size now st).2.es (Ws p m size now st).2.s:=by
 unfold Ws;split
 ·exact h
 ·split
  ·exact h
  ·exact lu.yS _ h
end Go.Proofs.YtophdoapcdjnjaaGreatDoor.Dk
