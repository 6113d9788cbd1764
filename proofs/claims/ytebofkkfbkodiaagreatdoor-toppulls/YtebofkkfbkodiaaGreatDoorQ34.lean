/- A part. -/
import Derived.Test.YtebofkkfbkodiaaGreatDoorQ13
import Derived.Test.YtebofkkfbkodiaaGreatDoorQ25
set_option maxRecDepth 100000
set_option maxHeartbeats 8000000
namespace Go.Proofs.YtebofkkfbkodiaaGreatDoor
open Go.RowKit Go.Proofs.Tryz
variable {b o p:Nat}{s:ad}{n:Int}
section
open Go.Deep
theorem uK {B g cap n k:Nat}{e:TypeId}{size:Nat}{w:I}{xs:List Value}(h:w.ownsRow B e size (.slice (some ⟨g,0,none⟩) n cap) n xs)(hk:k<=n):w.ownsRow B e size (.slice (some ⟨g,0,none⟩) k cap) k (xs.take (k*size)):=by
 have hks:k*size<=n*size:=Nat.mul_le_mul_right _ hk;refine⟨by rw[ajL,h.1];omega,?_⟩;rcases h.2 with ⟨q,_⟩|⟨g',cap',cur,q,h2,h3,h4,h5,h6,h7⟩
 ·cases q
 ·simp only[alk,akB,alS,aml] at q;obtain⟨rfl,_,rfl⟩:=q;exact .inr ⟨g,cap,cur,rfl,h2,h3,by omega,h5,h6,by rw[<-h7,alW,amC hks]⟩
def zs:List Value:=[.string ByteArray.empty,aa 0]
theorem Ik (w:I)(ty:TypeId)(b o c:Nat)
 (hc:∀j,j<2->(w.cell? (aq b (o+j))).isSome=true) (hf:∀j,j<2->w.frozen? (aq b (o+j))=false) :
 (Builtin.clear_ #[150] ty #[.slice (some ⟨b,o,none⟩) 1 c]).run prog w=.ok (.tuple #[]) (w.setCells b o zs):=by
 have hzc:(Builtin.zeroCells (Value.agg #[.string ⟨#[]⟩,aa 0]).cells 1).toList=zs:=by kernel_rfl
 have hst:=alX (P:=prog) b o zs 0 w (by simpa[zs] using hc) (by simpa[zs] using hf) (by intro v hv';simp only[zs,akb,List.not_mem_nil,or_false] at hv';rcases hv' with q|q<;>(subst q;rfl));simp only[alK] at hst;simp[Builtin.clear_,run_underlying underlying150,Tryz.zeroValue258,hzc,hst]
theorem YU (B g c i m:Nat)(es:List aS)(w:I)(hn:es.length=i+1+m)(ha:mg w B (.slice (some ⟨g,0,none⟩) (i+1+m) c) es)(kQ:es.length<=100)(hc:i+1+m<=c) :
 Calls prog 280 #[.slice (some ⟨g,0,none⟩) (i+1+m) c,aa i,aa (i+1)] w λe w' =>
  e=.returned (.slice (some ⟨g,0,none⟩) (i+m) c)/\w'=(w.drew.setCells g (0+i*2) ((aY es).drop ((i+1)*2))).setCells g ((i+m)*2) zs:=by
 obtain⟨i0,hi0,hz0,hz1,hz2⟩:=alq abl;obtain⟨news,hnews⟩:∃news,news=(aY es).drop ((i+1)*2):=⟨_,rfl⟩;have hlen:news.length=m*2:=by rw[hnews,ajI,dM,hn];omega
 obtain⟨cur,hg,hcs⟩:∃cur,w.heap[g]?=some (.cells cur 258 (0,0))/\cur.size=c*2:=by
  rcases ha.2 with ⟨q,_⟩|⟨g',cap',cur,q,h2,h3,h4,h5,h6,h7⟩
  ·cases q
  ·simp only[alk,akB,alS,aml] at q;obtain⟨rfl,_,rfl⟩:=q;exact⟨cur,h3,h6⟩
 have hsp:∀j,j<c*2->(w.cell? (aq g j)).isSome=true:=by
  intro j hj;rw[aky w g j _ _ _ hg,alf (by omega)];rfl
 have hfz:∀j,w.frozen? (aq g j)=false:=λj=>alz w g j _ _ hg
 have hcell:∀j u,(aY es)[j]?=some u->w.cell? (aq g j)=some u:=by
  intro j u hj;rw[<-hn] at ha;exact ha.cell j u hj
 obtain⟨A,hA,hsrc⟩:∃A:Addr,(if c=i+1 then some (⟨g,0,none⟩:Addr) else some ⟨g,(i+1)*2,none⟩)=some A/\Hid (∀t u,news[t]?=some u->w.drew.cell? (A.add t)=some u):=by
  by_cases h:c=i+1
  ·refine⟨⟨g,0,none⟩,by simp[h],λt u hu=>?_⟩;have h0:news.length=0:=by rw[hlen];omega
   rw[ajZ.1 h0] at hu;simp at hu
  ·refine⟨⟨g,(i+1)*2,none⟩,by simp[h],λt u hu=>?_⟩;rw[alg];refine hcell _ u ?_;rw[hnews,akG] at hu;exact hu
 have s1:=aj hlen;have s2:Hid (∀u∈news,u.oneCell'=true):=by
  intro u hu;rw[hnews] at hu;exact pJ es u (akP hu)
 have s3:Hid (∀t,t<news.length->(w.drew.cell? (aq g (0+i*2+t))).isSome=true/\w.drew.frozen? (aq g (0+i*2+t))=false):=by
  intro t ht;rw[hlen] at ht;exact⟨hsp _ (by omega),hfz _⟩
 obtain⟨W1,hW1⟩:∃W1,W1=w.drew.setCells g (0+i*2) news:=⟨_,rfl⟩;have hcl:∀ty c',(Builtin.clear_ #[150] ty #[.slice (some ⟨g,(i+m)*2,none⟩) 1 c']).run prog W1=.ok (.tuple #[]) (W1.setCells g ((i+m)*2) zs):=λty c' =>
  Ik W1 ty g ((i+m)*2) c' (λj hj=>by
   rw[hW1];exact isSome_setCells g news (0+i*2) w.drew (λt ht=>hsp _ (by rw[hlen] at ht;omega)) _ (hsp _ (by omega)))
   (λj hj=>by rw[hW1,ala];exact hfz _)
 have hW:Hid (W1=w.drew.setCells g (0+i*2) news):=hW1;rw[<-hnews];clear hW1 hsp hfz hcell hg ha hnews hlen hz0 hz2;have hic:i<=c:=by omega
 have hjc:i+1<=c:=by omega
 have b1:(0:Int)<=(i:Int)+1:=by omega
 have b2:(i:Int)+1<=(i:Int)+1+(m:Int):=by omega
 have q1:¬(c=i+m):=by omega
 have q2:i+1+m-(i+m)=1:=by omega
 go_enter func280,ntmps280;go_wp2_with fail;go_region_law (refine step_append_room rfl (.tmp 22) (.tmp 25) 150 rfl 258 i0 2 underlying150 hi0 hz1 g 0 i c (by simp[Act.eval,Act.put]) A m (c-(i+1)) news (by simp[Act.eval,Act.put]) s1.out hsrc.out s2.out (by omega) s3.out ?_;rw[<-hW.out])
 go_wp2;go_ret;exact⟨rfl,by rw[hW.out]⟩
theorem aci (es:List aS)(i m:Nat)(hn:es.length=i+1+m) :
 ((((aY es).take (i*2)++(aY es).drop ((i+1)*2)++(aY es).drop (i*2+((aY es).drop ((i+1)*2)).length)).take ((i+m)*2)++zs++((aY es).take (i*2)++(aY es).drop ((i+1)*2)++(aY es).drop (i*2+((aY es).drop ((i+1)*2)).length)).drop ((i+m)*2+zs.length)).take ((i+m)*2))=aY (zh es i):=by
 have hcl:(aY es).length=(i+1+m)*2:=by rw[dM,hn]
 have h1:((aY es).take (i*2)++(aY es).drop ((i+1)*2)).length=(i+m)*2:=by rw[ajB,ajL,ajI,hcl];omega
 have h2:((aY es).take (i*2)++(aY es).drop ((i+1)*2)++(aY es).drop (i*2+((aY es).drop ((i+1)*2)).length)).take ((i+m)*2)=(aY es).take (i*2)++(aY es).drop ((i+1)*2):=by
  rw[ajQ (by omega),ajR (by omega)]
 rw[h2,aku ((aY es).take (i*2)++(aY es).drop ((i+1)*2)),ajQ (by omega),ajR (by omega)];unfold zh;rw[jX,zD,zF]
theorem Uz (B:Nat)(v:Value)(es:List aS)(i:Nat)(w:I)(ha:mg w B v es)(hi:i<es.length)(kQ:es.length<=100) :
 Calls prog 280 #[v,aa i,aa (i+1)] w λe w'=>∃v',e=.returned v'/\mg w' B v' (zh es i)/\aQ (λk=>v.ownBlock=some k) w w'/\∀g,v'.ownBlock=some g->v.ownBlock=some g\/w.heap.size<=g:=by
 obtain⟨g,cap,rfl,c1,c2,c3,c4⟩:=ha.there (by omega);obtain⟨m,hn⟩:∃m,es.length=i+1+m:=⟨es.length-(i+1),by omega⟩;rw[hn] at ha c1 ⊢;refine(YU B g cap i m es w hn ha kQ c1).mono ?_;rintro e w' ⟨rfl,rfl⟩;refine⟨_,rfl,?_,?_,λg' hg'=>.inl hg'⟩
 ·have o0:w.drew.ownsRow B 258 2 (.slice (some ⟨g,0,none⟩) (i+1+m) cap) (i+1+m) (aY es):=by
   unfold mg at ha;rw[hn] at ha;exact ha
  have hcl:(aY es).length=(i+1+m)*2:=by rw[dM,hn]
  have hdl:((aY es).drop ((i+1)*2)).length=m*2:=by rw[ajI,hcl];omega
  have o1:=iI ((aY es).drop ((i+1)*2)) (i*2) _ _ o0 (by rw[hcl,hdl];omega);have o2:=iI zs ((i+m)*2) _ _ o1 (by
   simp only[ajB,ajL,ajI,hcl,show zs.length=2 from rfl];omega)
  have o3:=uK (k:=i+m) o2 (by omega);rw[aci es i m hn] at o3;unfold mg;rw[BP hi,hn,show i+1+m-1=i+m by omega,ajT];exact o3
 ·have c:aQ (λk=>k=g) w w.drew:=⟨rfl,rfl,rfl,agH _,λ_ _ _=>rfl⟩;exact((c.trans (iJ _ _ _)).trans (iJ _ _ _)).mono (λk _ hk=>by rw[hk];rfl)
def Upd (w w':I)(B p:Nat)(v:Value)(es':List aS):Prop:=∃v',Keeps w' B p v' es'/\aQ (foot p v) w w'/\∀g,v'.ownBlock=some g->v.ownBlock=some g\/w.heap.size<=g
def nS (o:Nat)(w w':I)(B p:Nat)(v:Value)(es':List aS):Prop:=∃v',dW o w' B p v' es'/\aQ (foot p v) w w'/\Side o p w w'/\∀g,v'.ownBlock=some g->v.ownBlock=some g\/w.heap.size<=g
theorem nS.aF {w w':I}{B:Nat}{v:Value}{es:List aS}(h:nS o w w' B p v es):aQ (foot p v) w w':=by
 obtain⟨_,_,h2,_⟩:=h;exact h2
theorem nS.same {w w':I}{B:Nat}{v:Value}{es:List aS}(h:dW o w B p v es)(hb:ai w w'):nS o w w' B p v es:=⟨v,h.below hb,aQ.of_below hb,Side.below hb h.lt,λ_ hg=>.inl hg⟩
theorem nS.behind {w w1 w':I}{B:Nat}{v:Value}{es:List aS}(hp:p<w.heap.size)(hb:ai w w1)(h:nS o w1 w' B p v es):nS o w w' B p v es:=by
 obtain⟨v',h1,h2,h4,h3⟩:=h;exact⟨v',h1,(aQ.of_below hb).trans h2,(Side.below hb hp).trans h4,λg hg=>by
  rcases h3 g hg with q|q
  ·exact .inl q
  ·have:=hb.size;exact .inr (by omega)⟩
theorem nS.store {o:Nat}{w w':I}{B p:Nat}{v v':Value}{es es':List aS}(h:dW o w B p v es)(hb:aQ (λk=>v.ownBlock=some k) w w')(ha:mg w' B v' es')(hv:∀g,v'.ownBlock=some g->v.ownBlock=some g\/w.heap.size<=g):nS o w (w'.setCell (aq p o) v') B p v es':=by
 obtain⟨h1,h2⟩:=h.store hb ha hv;exact⟨v',h1,h2,(Side.aF hb h.lt h.apart).trans (Side.set _),hv⟩
theorem YV {es:List aS}(h:aC false s≠0):Lc es s=aC false s/\rC es s n=es:=by
 unfold Lc rC;rw[if_neg h,if_neg h];exact⟨rfl,rfl⟩
theorem ae8 {es:List aS}(h:aC false s=0)(g:fB es s=true):Lc es s=0/\rC es s n=es.set (place es s) (s,n):=by
 unfold Lc rC;rw[if_pos h,if_pos h,if_pos g,if_pos g];exact⟨rfl,rfl⟩
theorem acj {es:List aS}(h:aC false s=0)(g:fB es s=false)(f:100<=es.length):Lc es s=8/\rC es s n=es:=by
 unfold Lc rC;simp[h,g,f]
theorem ae9 {es:List aS}(h:aC false s=0)(g:fB es s=false)(f:¬100<=es.length):Lc es s=0/\rC es s n=iD es (place es s) (s,n):=by
 unfold Lc rC;simp[h,g,f]
theorem acn {w:I}(c0:w.cell? (aq b 0)=some (.string s))(c1:w.cell? (aq b 1)=some (aa n)) :
 (loadVar 258 ⟨b,0,none⟩).run prog w=.ok (.agg #[.string s,aa n]) w:=by
 have hl:(loadCells ⟨b,0,none⟩ 2).run prog w=.ok #[.string s,aa n] w :=
  aly (P:=prog) w ⟨b,0,none⟩ [.string s,aa n] (λj v hv=>by
   rw[alg,ajT];match j,hv with
   | 0,hv=>rw[c0];simpa using hv
   | 1,hv=>rw[c1];simpa using hv)
 have hz:Tryz.t258.size=2:=by kernel_rfl
 simp[loadVar,isAgg,sizeOf];rw[hz,hl];rfl
theorem QE {fn:Func}{a:Tmp}{tmps:Array Value}{w:I}(hf:fn.results=#[.cell a 258])(ha:tmps.getD a undef=ae b)(c0:w.cell? (aq b 0)=some (.string s))(c1:w.cell? (aq b 1)=some (aa n)) :
 (results fn tmps).run prog w=.ok (.agg #[.string s,aa n]) w:=by
 have ha':tmps[a]?.getD undef=ae b:=by simpa using ha
 simp[results,hf,ha',asAddr,acn c0 c1]
theorem JH (s:ad)(n:Int)(w:I)(hs:s.size<=140737488355328) :
 Calls prog 251 #[.agg #[.string s,aa n]] w λe w'=>e=.returned (.agg #[.string s,aa n])/\ai w w':=by
 obtain⟨W,hW⟩:∃W,W=(w.alloc (.cells #[.string s,aa n] 258)).alloc (.cells #[.string ⟨#[]⟩,aa 0] 258):=⟨_,rfl⟩;have hsz:W.heap.size=w.heap.size+2:=by rw[hW];simp
 have hb:ai w W:=by rw[hW];exact(ax _ _).alloc (by simp) _
 have r0:=one_row (x:=(s,n)) (akv w (.cells #[.string s,aa n] 258));have hg:W.heap[w.heap.size+1]?=some (.cells #[.string ⟨#[]⟩,aa 0] 258 (0,0)):=by
  have:=akv (w.alloc (.cells #[.string s,aa n] 258)) (.cells #[.string ⟨#[]⟩,aa 0] 258);rw[alH] at this;rw[hW];exact this
 have r1:=one_row (x:=(⟨#[]⟩,0)) hg;have d0:W.cell? (aq w.heap.size 0)=some (.string s):=by rw[hW,aln _ _ _ (by simp)];exact r0.1 0 _ rfl
 have d1:W.cell? (aq w.heap.size 1)=some (aa n):=by rw[hW,aln _ _ _ (by simp)];exact r0.1 1 _ rfl
 have e0:W.cell? (aq (w.heap.size+1) 0)=some (.string ⟨#[]⟩):=r1.1 0 _ rfl;have e1:W.cell? (aq (w.heap.size+1) 1)=some (aa 0):=r1.1 1 _ rfl;have f0:W.frozen? (aq (w.heap.size+1) 0)=false:=r1.2.1 0;have f1:W.frozen? (aq (w.heap.size+1) 1)=false:=r1.2.1 1;have l0:w.heap.size<W.heap.size:=by omega
 have l1:w.heap.size+1<W.heap.size:=by omega
 have PC:Hid (∀X,Calls prog 108 #[.string s] X λe w'=>e=.returned (.string s)/\ai X w'):=aj (λX=>clone_any s X (by omega));clear r0 r1 hg;go_enter func251,ntmps251;go_wp2_with fail;rw[<-hW];have Hb:=aj hb;clear hW hb hsz;go_region_with (go_at_call 108;refine(ah PC _).mono ?_;rintro e w1 ⟨rfl,b1⟩;have g1:=(b1.cell (p:=aq w.heap.size 1) l0).trans d1;have h0:=(b1.cell (p:=aq (w.heap.size+1) 0) l1).trans e0;have h1:=(b1.cell (p:=aq (w.heap.size+1) 1) l1).trans e1;have k0:=(b1.frozen (p:=aq (w.heap.size+1) 0) l1).trans f0;have k1:=(b1.frozen (p:=aq (w.heap.size+1) 1) l1).trans f1)
 all_goals have HB:=aj (ak (ah Hb).drew b1)
 all_goals clear b1 Hb g1
 all_goals go_wp2_with fail
 all_goals refine ajY (QE (b:=w.heap.size+1) (s:=s) (n:=n) rfl rfl (by rw[ajD _ _ _ _ (by simp)];exact akf _ _ _ h0) (akf _ _ _ (by rw[ajD _ _ _ _ (by simp)];exact h1))) rfl ?_
 all_goals exact⟨rfl,((ah HB).setCell (p:=aq (w.heap.size+1) 0) (alE _) _).setCell (p:=aq (w.heap.size+1) 1) (alE _) _⟩
theorem QF (B p:Nat)(v:Value)(es:List aS)(s:ad)(n:Int)(w:I)(hk:dW o w B p v es)(hg:iC es)(hs:s.size<=140737488355328)(hB:B<=w.heap.size) :
 Calls prog 236 #[.pointer (some ⟨p,o,none⟩),.string s,aa n] w λe w'=>e=.returned (aa (Lc es s))/\nS o w w' B p v (rC es s n):=by
 have Hk:=aj hk;have Hg:=aj hg;clear hk hg;by_cases he:aC false s=0
 ·have hn:=few he
  cases hh:fB es s with
  | true =>
   have Hp:=aj (ae8 (n:=n) he hh);obtain⟨h1,h2⟩:=uh hh;have He:=aj he;have Hh:=aj hh;obtain⟨q,hq⟩:∃q,place es s=q:=⟨_,rfl⟩;rw[hq] at h1 h2 Hp;have Hq:=aj hq;have H2:=aj h2;clear he hh h2 hq;obtain⟨g,cap,rfl,c1,c2,c3,c4⟩:=(ah Hk).arr.there (by omega);unfold maxLen at c2;go_enter func236,ntmps236;go_wp2_with fail;refine(dQ s _ hs).mono ?_;rintro e w1 ⟨rfl,hb1⟩;rw[ah He];go_wp2_with fail;refine(vU B p _ es s _ ((ah Hk).below hb1) (ah Hg) hs hn).mono ?_;rintro e w2 ⟨rfl,hb2⟩;rw[ah Hh,ah Hq];have k2:=((ah Hk).below hb1).below hb2
   have d1:=k2.cell;have d2:=k2.arr.num h1;have d3:=ani k2.arr (q*2+1);have K2:=aj k2;clear k2;go_wp2_with fail;go_ret;refine⟨dJ (ah Hp).1,?_⟩;rw[(ah Hp).2];obtain⟨u1,u2⟩:=(ah K2).number h1 (ah H2) n;exact nS.behind (ah Hk).lt (ak hb1 hb2) ⟨_,u1,u2,Side.other _ (λe=>(ah Hk).apart (by rw[e];rfl)),λg' hg'=>.inl hg'⟩
  | false =>
   by_cases hf:100<=es.length
   ·have Hp:=aj (acj (n:=n) he hh hf);have He:=aj he;have Hh:=aj hh;clear he hh;obtain⟨a,cap,rfl,c1,c2,c3⟩:=(ah Hk).arr.shape;clear c3 c2;go_enter func236,ntmps236;go_wp2_with fail;refine(dQ s _ hs).mono ?_;rintro e w1 ⟨rfl,hb1⟩;rw[ah He];go_wp2_with fail;refine(vU B p _ es s _ ((ah Hk).below hb1) (ah Hg) hs hn).mono ?_;rintro e w2 ⟨rfl,hb2⟩;rw[ah Hh];have d1:=(((ah Hk).below hb1).below hb2).cell;go_wp2_with fail;go_ret;refine⟨dJ (ah Hp).1,?_⟩;rw[(ah Hp).2];exact nS.same (ah Hk) (ak hb1 hb2)
   ·have Hp:=aj (ae9 (n:=n) he hh hf);have He:=aj he;have Hh:=aj hh;obtain⟨q,hq⟩:∃q,place es s=q:=⟨_,rfl⟩;have Di:q<=es.length:=by rw[<-hq];exact zf _ _
    rw[hq] at Hp;have Hq:=aj hq;clear he hh hq;obtain⟨a,cap,rfl,c1,c2,c3⟩:=(ah Hk).arr.shape;clear c3 c2;go_enter func236,ntmps236;go_wp2_with fail;refine(dQ s _ hs).mono ?_;rintro e w1 ⟨rfl,hb1⟩;rw[ah He];go_wp2_with fail;refine(vU B p _ es s _ ((ah Hk).below hb1) (ah Hg) hs hn).mono ?_;rintro e w2 ⟨rfl,hb2⟩;rw[ah Hh,ah Hq];have k2:=((ah Hk).below hb1).below hb2;have d1:=k2.cell;have K2:=aj k2;clear k2;have hB2:B<=w2.heap.size:=by have:=hb1.size;have:=hb2.size;omega
    have PI:Hid (∀w3,ai w2 w3->Calls prog 257 #[.slice a es.length cap,aa q,.slice (some ⟨w3.heap.size,0,none⟩) 1 1] (w3.alloc (.cells #[.string s,aa n] 258)) λe w4=>∃a' m' c',e=.returned (.slice a' m' c')/\w4.cell? (aq p o)=some (.slice a es.length cap)/\w4.frozen? (aq p o)=false/\Hid (nS o w2 (w4.setCell (aq p o) (.slice a' m' c')) B p (.slice a es.length cap) (iD es q (s,n)))):=aj (λw3 b3=>by
     have k3:=(ah K2).below b3;have b4:ai w3 (w3.alloc (.cells #[.string s,aa n] 258)):=ax _ _;have k4:=k3.below b4;refine(Ul B _ es q (s,n) w3.heap.size _ k4.arr Di (by omega) (akv w3 _) (λe=>by have:=(k3.arr.lt _ e).2;omega) (by have:=b3.size;simp;omega)).mono ?_;rintro e w4 ⟨v',rfl,i1,i2,i3⟩;obtain⟨a',cap',rfl,_⟩:=i1.shape;refine⟨a',_,cap',rfl,?_,?_,aj (nS.behind (ah K2).lt (ak b3 b4) (nS.store k4 i2 i1 i3))⟩
     ·rw[i2.cell (p:=aq p o) k4.lt k4.apart];exact k4.cell
     ·rw[i2.frozen (p:=aq p o) k4.lt k4.apart];exact k4.free)
    have PC:Hid (∀X,Calls prog 251 #[.agg #[.string s,aa n]] X λe w'=>e=.returned (.agg #[.string s,aa n])/\ai X w'):=aj (λX=>JH s n X hs);have hpl:=(ah K2).lt;go_wp2_with fail;go_region_with (first
     | (go_at_call 251;refine(ah PC _).mono ?_;rintro e w3 ⟨rfl,b3⟩;have d2:=(b3.cell (p:=aq p o) hpl).trans d1;have hp3:=ajz hpl b3.size;have B3:=aj (((agP w2.heap.size w2).drew).trans b3))
     | (go_at_call 257;refine(ah PI w3 (ah B3)).mono ?_;rintro e w4 ⟨a',m',c',rfl,d4,d5,HU⟩))
    all_goals go_wp2_with fail
    all_goals go_ret
    all_goals refine⟨dJ (ah Hp).1,?_⟩
    all_goals rw[(ah Hp).2]
    all_goals exact nS.behind (ah Hk).lt (ak hb1 hb2) (ah HU)
 ·have Hp:=aj (YV (es:=es) (n:=n) he);go_enter func236,ntmps236;go_wp2_with fail;refine(dQ s _ hs).mono ?_;rintro e w1 ⟨rfl,hb1⟩;go_wp2_with fail;go_ret;refine⟨dJ (ah Hp).1,?_⟩;rw[(ah Hp).2];exact nS.same (ah Hk) hb1
theorem aco {es:List aS}(h:zi es s=0):aC false s=0/\fB es s=true:=by
 unfold zi at h;split at h
 ·rename_i he;refine⟨he,?_⟩;split at h
  ·assumption
  ·omega
 ·rename_i he;exact absurd h he
theorem YW {es:List aS}(h:¬zi es s=0):pF es s=es:=by
 unfold pF;unfold zi at h;split
 ·rename_i he;rw[if_pos he] at h;split
  ·rename_i hh;rw[if_pos hh] at h;exact absurd rfl h
  ·rfl
 ·rfl
theorem YX (B p:Nat)(v:Value)(es:List aS)(s:ad)(w:I)(hk:dW o w B p v es)(hg:iC es)(hs:s.size<=140737488355328) :
 Calls prog 258 #[.pointer (some ⟨p,o,none⟩),.string s] w λe w'=>e=.returned (aa (zi es s))/\nS o w w' B p v (pF es s):=by
 have Hk:=aj hk;have Hg:=aj hg;clear hk hg;by_cases h0:zi es s=0
 ·obtain⟨he,hh⟩:=aco h0;obtain⟨h1,h2⟩:=uh hh;have hl:Cb es s=(place es s:Int):=by unfold Cb;rw[if_pos he,if_pos hh]
  have hd:pF es s=zh es (place es s):=by unfold pF;rw[if_pos he,if_pos hh]
  have kQ:=(ah Hg).2.1;have Hl:=aj hl;have Hd:=aj hd;have H0:=aj h0;clear hd hl h0 hh h2 he;obtain⟨q,hq⟩:∃q,place es s=q:=⟨_,rfl⟩;rw[hq] at h1 Hl Hd;clear hq;obtain⟨g,cap,rfl,c1,c2,c3,c4⟩:=(ah Hk).arr.there (by omega);unfold maxLen at c2;go_enter func258,ntmps258;go_wp2_with fail;refine(rF B p _ es s _ (ah Hk) (ah Hg) hs).mono ?_;rintro e w1 ⟨rfl,hb1⟩;rw[ah Hl,ah H0];have k1:=(ah Hk).below hb1;have d1:=k1.cell;have K1:=aj k1;clear k1;go_wp2_with fail;refine(Uz B _ es q _ (ah K1).arr h1 kQ).mono ?_;rintro e w4 ⟨v',rfl,i1,i2,i3⟩
  obtain⟨a',cap',rfl,_⟩:=i1.shape;have d4:w4.cell? (aq p o)=some (.slice (some ⟨g,0,none⟩) es.length cap):=by rw[i2.cell (p:=aq p o) (ah K1).lt (ah K1).apart];exact(ah K1).cell
  have d5:w4.frozen? (aq p o)=false:=by rw[i2.frozen (p:=aq p o) (ah K1).lt (ah K1).apart];exact(ah K1).free
  have HU:=aj (nS.store (ah K1) i2 i1 i3);clear i1 i2 i3 d1;go_wp2_with fail;go_ret;refine⟨dJ (ah H0),?_⟩;rw[ah Hd];exact nS.behind (ah Hk).lt hb1 (ah HU)
 ·have Hd:=aj (YW h0);go_enter func258,ntmps258;go_wp2_with fail;refine(rF B p v es s _ (ah Hk) (ah Hg) hs).mono ?_;rintro e w1 ⟨rfl,hb1⟩;go_wp2_with fail;go_ret;refine⟨rfl,?_⟩;rw[ah Hd];exact nS.same (ah Hk) hb1
end
namespace Dk
variable {A:af}
theorem afa {w w':I}(h:aA A w w'):Go.Proofs.YtebofkkfbkodiaaGreatDoor.aQ A w w':=⟨h.os,h.tape,h.output,h.size,h.block⟩
theorem acp {w w':I}(h:Go.Proofs.YtebofkkfbkodiaaGreatDoor.aQ A w w'):aA A w w':=⟨h.os,h.tape,h.output,h.size,h.block⟩
structure oU (w:I)(B q:Nat)(v u:Value)(l:List Rc)(es:List aS)(last:Int):Prop where
 c0:w.cell? (aq q 0)=some v
 c1:w.cell? (aq q 1)=some u
 c2:w.cell? (aq q 2)=some (aa last)
 free:∀j,w.frozen? (aq q j)=false
 base:B<=q
 lt:q<w.heap.size
 msgs:bI w B v l
 cnts:mg w B u es
 av:v.ownBlock≠some q
 au:u.ownBlock≠some q
 apart:∀g,v.ownBlock=some g->u.ownBlock≠some g
def oZ (q:Nat)(v u:Value)(k:Nat):Prop:=k=q\/v.ownBlock=some k\/u.ownBlock=some k
section
variable {w w':I}{B q:Nat}{v u v' u':Value}{l l':List Rc}{es es':List aS}{last last':Int}
theorem oU.keeps (h:oU w B q v u l es last):dW 1 w B q u es:=⟨h.c1,h.free 1,h.base,h.lt,h.cnts,h.au⟩
theorem oU.own (h:oU w B q v u l es last):∀k,oZ q v u k->B<=k/\k<w.heap.size:=by
 rintro k (rfl|z|z)
 ·exact⟨h.base,h.lt⟩
 ·exact h.msgs.lt k z
 ·exact h.cnts.lt k z
theorem oU.aF {A:af}(h:oU w B q v u l es last)(hc:aA A w w')(hn:∀k,oZ q v u k->¬A k):oU w' B q v u l es last:=by
 have hq:=hn q (.inl rfl);refine⟨by rw[hc.cell (p:=aq q 0) h.lt hq];exact h.c0,by rw[hc.cell (p:=aq q 1) h.lt hq];exact h.c1,by rw[hc.cell (p:=aq q 2) h.lt hq];exact h.c2,λj=>by rw[hc.frozen (p:=aq q j) h.lt hq];exact h.free j,h.base,ajz h.lt hc.size,h.msgs.aF hc (λg hg=>hn g (.inr (.inl hg))),h.cnts.aF (afa hc) (λg hg=>hn g (.inr (.inr hg))),h.av,h.au,h.apart⟩
theorem oU.below (h:oU w B q v u l es last)(hb:ai w w'):oU w' B q v u l es last:=h.aF (A:=λ_=>False) (aA.of_below hb) (λ_ _ z=>z)
theorem oU.upd (h:oU w B q v u l es last)(hu:nS 1 w w' B q u es'):∃u',oU w' B q v u' l es' last/\aA (foot q u) w w'/\∀g,u'.ownBlock=some g->u.ownBlock=some g\/w.heap.size<=g:=by
 obtain⟨u',k,hc,hs,ho⟩:=hu;have hc:=acp hc;have hf:∀g,v.ownBlock=some g->¬foot q u g:=λg hg z=>by
  rcases z with rfl|z
  ·exact h.av hg
  ·exact h.apart g hg z
 refine⟨u',⟨by rw[hs.cell 0 (by decide)];exact h.c0,k.cell,by rw[hs.cell 2 (by decide)];exact h.c2,λj=>by rw[hs.free j];exact h.free j,h.base,k.lt,h.msgs.aF hc hf,k.arr,h.av,k.apart,λg hg z=>?_⟩,hc,ho⟩;rcases ho g z with y|y
 ·exact h.apart g hg y
 ·have:=(h.msgs.lt g hg).2;omega
theorem oU.store (h:oU w B q v u l es last)(hc:aA (λk=>v.ownBlock=some k) w w')(ha:bI w' B v' l')(hv:∀g,v'.ownBlock=some g->v.ownBlock=some g\/w.heap.size<=g) :
 oU (w'.setCell (aq q 0) v') B q v' u l' es last/\aA (λk=>k=q\/v.ownBlock=some k) w (w'.setCell (aq q 0) v'):=by
 have hne:v'.ownBlock≠some q:=λe=>by
  rcases hv q e with z|z
  ·exact h.av z
  ·have:=h.lt;omega
 have c0:w'.cell? (aq q 0)=some v:=by rw[hc.cell (p:=aq q 0) h.lt h.av];exact h.c0
 have c1:w'.cell? (aq q 1)=some u:=by rw[hc.cell (p:=aq q 1) h.lt h.av];exact h.c1
 have c2:w'.cell? (aq q 2)=some (aa last):=by rw[hc.cell (p:=aq q 2) h.lt h.av];exact h.c2
 have cs:aA (λk=>k=q) w' (w'.setCell (aq q 0) v'):=aA.setCell (A:=λk=>k=q) (p:=aq q 0) (aA.refl _ _) (.inl rfl) _;refine⟨⟨akf _ _ _ c0,?_,?_,λj=>?_,h.base,?_,?_,?_,hne,h.au,λg hg z=>?_⟩,?_⟩
 ·rw[ajD _ _ _ _ (by simp)];exact c1
 ·rw[ajD _ _ _ _ (by simp)];exact c2
 ·rw[ajV,hc.frozen (p:=aq q j) h.lt h.av];exact h.free j
 ·have:=hc.size;have:=h.lt;simp[World.setCell];omega
 ·exact ha.aF cs (λg hg e=>hne (by rw[<-e];exact hg))
 ·exact(h.cnts.aF (afa hc) (λg hg z=>h.apart g z hg)).aF (afa cs) (λg hg e=>h.au (by rw[<-e];exact hg))
 ·rcases hv g hg with y|y
  ·exact h.apart g y z
  ·have:=(h.cnts.lt g z).2;omega
 ·exact(hc.mono (λk _ z=>.inr z)).setCell (.inl (.inl rfl)) _
theorem oU.number (h:oU w B q v u l es last)(n:Int):oU (w.setCell (aq q 2) (aa n)) B q v u l es n/\aA (λk=>k=q) w (w.setCell (aq q 2) (aa n)):=by
 have cs:aA (λk=>k=q) w (w.setCell (aq q 2) (aa n)):=aA.setCell (A:=λk=>k=q) (p:=aq q 2) (aA.refl _ _) (.inl rfl) _;refine⟨⟨?_,?_,akf _ _ _ h.c2,λj=>?_,h.base,?_,?_,?_,h.av,h.au,h.apart⟩,cs⟩
 ·rw[ajD _ _ _ _ (by simp)];exact h.c0
 ·rw[ajD _ _ _ _ (by simp)];exact h.c1
 ·rw[ajV];exact h.free j
 ·have:=h.lt;simpa[World.setCell] using this
 ·exact h.msgs.aF cs (λg hg e=>h.av (by rw[<-e];exact hg))
 ·exact h.cnts.aF (afa cs) (λg hg e=>h.au (by rw[<-e];exact hg))
end
def Moves (w w':I)(B q:Nat)(v u:Value)(l':List Rc)(es':List aS)(last':Int):Prop:=∃v' u',oU w' B q v' u' l' es' last'/\aA (oZ q v u) w w'/\∀g,oZ q v' u' g->oZ q v u g\/w.heap.size<=g
section
variable {w w1 w':I}{B q:Nat}{v u v1 u1:Value}{l l1 l':List Rc}{es es1 es':List aS}{last ai5 last':Int}
theorem Moves.same (h:oU w B q v u l es last)(hb:ai w w'):Moves w w' B q v u l es last:=⟨v,u,h.below hb,aA.of_below hb,λ_ hg=>.inl hg⟩
theorem Moves.seq (c1:aA (oZ q v u) w w1)(o1:∀g,oZ q v1 u1 g->oZ q v u g\/w.heap.size<=g)(m:Moves w1 w' B q v1 u1 l' es' last'):Moves w w' B q v u l' es' last':=by
 obtain⟨v2,u2,s2,c2,o2⟩:=m;refine⟨v2,u2,s2,?_,λg hg=>?_⟩
 ·refine⟨c2.os.trans c1.os,c2.tape.trans c1.tape,c2.output.trans c1.output,ajA c1.size c2.size,λk hk hn=>?_⟩;rw[c2.block k (by have:=c1.size;omega) (λz=>?_)]
  ·exact c1.block k hk hn
  ·rcases o1 k z with y|y
   ·exact hn y
   ·omega
 ·rcases o2 g hg with y|y
  ·exact o1 g y
  ·right;have:=c1.size;omega
theorem Moves.behind (hb:ai w w1)(a:Moves w1 w' B q v u l' es' last'):Moves w w' B q v u l' es' last':=by
 obtain⟨v',u',s,c,o⟩:=a;refine⟨v',u',s,(aA.of_below hb).trans c,λg hg=>?_⟩;rcases o g hg with y|y
 ·exact .inl y
 ·right;have:=hb.size;omega
theorem Moves.upd (h:oU w B q v u l es last)(hu:nS 1 w w' B q u es'):Moves w w' B q v u l es' last:=by
 obtain⟨u',s,c,o⟩:=h.upd hu;refine⟨v,u',s,c.mono (λk _ z=>?_),λg hg=>?_⟩
 ·rcases z with z|z
  ·exact .inl z
  ·exact .inr (.inr z)
 ·rcases hg with z|z|z
  ·exact .inl (.inl z)
  ·exact .inl (.inr (.inl z))
  ·rcases o g z with y|y
   ·exact .inl (.inr (.inr y))
   ·exact .inr y
theorem Moves.store {v':Value}(h:oU w B q v u l es last)(hc:aA (λk=>v.ownBlock=some k) w w')(ha:bI w' B v' l')(hv:∀g,v'.ownBlock=some g->v.ownBlock=some g\/w.heap.size<=g):Moves w (w'.setCell (aq q 0) v') B q v u l' es last:=by
 obtain⟨s,c⟩:=h.store hc ha hv;refine⟨v',u,s,c.mono (λk _ z=>?_),λg hg=>?_⟩
 ·rcases z with z|z
  ·exact .inl z
  ·exact .inr (.inl z)
 ·rcases hg with z|z|z
  ·exact .inl (.inl z)
  ·rcases hv g z with y|y
   ·exact .inl (.inr (.inl y))
   ·exact .inr y
  ·exact .inl (.inr (.inr z))
theorem Moves.number (h:oU w B q v u l es last)(n:Int):Moves w (w.setCell (aq q 2) (aa n)) B q v u l es n:=by
 obtain⟨s,c⟩:=h.number n;exact⟨v,u,s,c.mono (λk _ z=>.inl z),λg hg=>.inl hg⟩
end
def Counts (w w':I)(B q:Nat)(v u:Value)(l:List Rc)(es':List aS)(last:Int):Prop:=∃u',oU w' B q v u' l es' last/\aA (foot q u) w w'/\∀g,u'.ownBlock=some g->u.ownBlock=some g\/w.heap.size<=g
section
variable {w w1 w':I}{B q:Nat}{v u:Value}{l:List Rc}{es es':List aS}{last:Int}
theorem Counts.behind (hb:ai w w1)(a:Counts w1 w' B q v u l es' last):Counts w w' B q v u l es' last:=by
 obtain⟨u',s,c,o⟩:=a;refine⟨u',s,(aA.of_below hb).trans c,λg hg=>?_⟩;rcases o g hg with y|y
 ·exact .inl y
 ·right;have:=hb.size;omega
theorem Counts.oZ {u':Value}(c:aA (foot q u) w w')(o:∀g,u'.ownBlock=some g->u.ownBlock=some g\/w.heap.size<=g):aA (oZ q v u) w w'/\∀g,oZ q v u' g->oZ q v u g\/w.heap.size<=g:=by
 refine⟨c.mono (λk _ z=>?_),λg hg=>?_⟩
 ·rcases z with z|z
  ·exact .inl z
  ·exact .inr (.inr z)
 ·rcases hg with z|z|z
  ·exact .inl (.inl z)
  ·exact .inl (.inr (.inl z))
  ·rcases o g z with y|y
   ·exact .inl (.inr (.inr y))
   ·exact .inr y
end
def rO (w:I)(B q:Nat)(F:af)(s:aH):Prop:=∃v u es,oU w B q v u s.l es s.last/\Cnt s.l es/\F=oZ q v u
theorem rO.own {w:I}{B q:Nat}{F:af}{s:aH}(h:rO w B q F s):∀k,F k->B<=k/\k<w.heap.size:=by
 obtain⟨v,u,es,h1,_,rfl⟩:=h;exact h1.own
theorem rO.aF {w w':I}{B q:Nat}{F A:af}{s:aH}(h:rO w B q F s)(hc:aA A w w')(hn:∀k,F k->¬A k):rO w' B q F s:=by
 obtain⟨v,u,es,h1,h2,rfl⟩:=h;exact⟨v,u,es,h1.aF hc hn,h2,rfl⟩
theorem rO.did {w w':I}{B q:Nat}{v u:Value}{s:aH}{es:List aS}(h:Moves w w' B q v u s.l es s.last)(hc:Cnt s.l es):abb rO w w' B q (oZ q v u) s:=by
 obtain⟨v',u',s',c,o⟩:=h;exact⟨_,⟨v',u',es,s',hc,rfl⟩,c,o⟩
theorem Gl (x:Int)(w:I) :
 Calls prog 156 #[aa x] w λe w'=>e=.returned (.bool false)/\w'=w:=by
 go_enter func156,ntmps156;go_wp2;go_ret;exact⟨lY (by simp),rfl⟩
def sU (x y:Int):Int:=if x<y then -1 else if y<x then 1 else 0
theorem QG (x y:Int)(w:I) :
 Calls prog 117 #[aa x,aa y] w λe w'=>e=.returned (aa (sU x y))/\w'=w:=by
 by_cases h1:x<y
 ·have Hr:=aj (show sU x y=-1 from if_pos h1);go_enter func117,ntmps117;go_wp2_with (first|(go_at_call 156;refine(Gl _ _).mono ?_;rintro e w' ⟨rfl,rfl⟩));go_ret;exact⟨je (ah Hr),rfl⟩
 ·by_cases h2:y<x
  ·have Hr:=aj (show sU x y=1 by unfold sU;rw[if_neg h1,if_pos h2]);go_enter func117,ntmps117;go_wp2_with (first|(go_at_call 156;refine(Gl _ _).mono ?_;rintro e w' ⟨rfl,rfl⟩));go_ret;exact⟨je (ah Hr),rfl⟩
  ·have Hr:=aj (show sU x y=0 by unfold sU;rw[if_neg h1,if_neg h2]);go_enter func117,ntmps117;go_wp2_with (first|(go_at_call 156;refine(Gl _ _).mono ?_;rintro e w' ⟨rfl,rfl⟩));go_ret;exact⟨je (ah Hr),rfl⟩
theorem Gm (r:Rc)(n:Int)(w:I) :
 Calls prog 198 #[.agg #[aa r.k,aa r.q,aa r.t,.string r.s,.string r.h,.string r.d],aa n] w λe w'=>e=.returned (aa (sU r.q n))/\ai w w':=by
 go_enter func198,ntmps198;go_wp2_with fail;refine(QG _ n _).mono ?_;rintro e w1 ⟨rfl,rfl⟩;go_wp2_with fail;go_ret;exact⟨rfl,ax _ _⟩
theorem DZ (x y:Int):sU x y<0↔x<y:=by
 unfold sU;split
 ·omega
 ·split<;>omega
theorem D5 (x y:Int):sU x y=0↔x=y:=by
 unfold sU;split
 ·omega
 ·split<;>omega
theorem QH (a:Option Addr)(cap:Nat)(l:List Rc)(n:Int)(w:I)(hsl:H6 w a l)(hord:jI l)(iE:l.length<=200) :
 Calls prog 197 #[.slice a l.length cap,aa n,.func (.func 198) #[] #[]] w λe w'=>e=.returned (.tuple #[aa (pq l n),.bool (seqB l n)])/\ai w w':=by
 have Fv:=aj hord;clear hord;go_enter func197,ntmps197;go_wp2;go_loopw [9,10] (λiv jv wr=>∃(i j:Nat),iv=aa i/\jv=aa j/\i<=j/\j<=l.length/\Hid (∀k,k<i->(rc l k).q<n)/\Hid (∀k,j<=k->k<l.length->n<=(rc l k).q)/\Hid (H6 wr a l)/\ai w wr) (λiv jv _=>(intOf jv).toNat-(intOf iv).toNat)
 case atStart=>exact⟨0,l.length,rfl,rfl,ajO _,agH _,aj (λk hk=>absurd hk (akh k)),aj (λk h1 h2=>by omega),aj hsl,agP _ _⟩
 case round =>
  obtain⟨i,j,rfl,rfl,hij,hj,hlo,hhi,hsl2,hb⟩:=hrel;by_cases hlt:i<j
  ·obtain⟨h,hh⟩:∃h:Nat,h=(i+j) / 2:=⟨_,rfl⟩;have hh1:i<=h/\h<j:=by omega
   obtain⟨g,o,rfl,s6⟩:=ah hsl2 h (by omega);have hmid:((i:Int)+(j:Int)) / 2=(h:Int):=by omega
   clear hh;have H:=aj (Gm (rc l h) n wr);obtain⟨_,x0,x1,x2,x3,x4,x5⟩:=s6;by_cases he:(rc l h).q<n
   ·have hz:sU (rc l h).q n<0:=(DZ _ _).2 he;have He:=aj he;clear he;go_wp2_with fail;refine(ah H).mono ?_;rintro e w1 ⟨rfl,hb1⟩;clear x0 x1 x2 x3 x4 x5;go_wp2_with fail;refine⟨⟨h+1,j,by go_num,rfl,by omega,hj,aj (λk hk=>?_),hhi,aj ((ah hsl2).below hb1),ak hb hb1⟩,?_⟩
    ·rcases akI.1 hk with q|q
     ·have:=vK (ah Fv) q (by omega);have:=ah He;omega
     ·rw[q];exact ah He
    ·simp[intOf];omega
   ·have hz:¬sU (rc l h).q n<0:=λz=>he ((DZ _ _).1 z)
    have He:=aj he;clear he;go_wp2_with fail;refine(ah H).mono ?_;rintro e w1 ⟨rfl,hb1⟩;clear x0 x1 x2 x3 x4 x5;go_wp2_with fail;refine⟨⟨i,h,rfl,rfl,by omega,by omega,hlo,aj (λk hk hk2=>?_),aj ((ah hsl2).below hb1),ak hb hb1⟩,?_⟩
    ·have:=ah He;rcases akX hk with q|q
     ·rw[<-q];omega
     ·have:=vK (ah Fv) q hk2;omega
    ·simp[intOf];omega
  ·obtain rfl:i=j:=by omega
   have hpl:=afO (n:=n) hj (ah hlo) (ah hhi);by_cases hl:i<l.length
   ·obtain⟨g,o,rfl,s6⟩:=ah hsl2 i (by omega);have H:=aj (Gm (rc l i) n wr);obtain⟨_,x0,x1,x2,x3,x4,x5⟩:=s6;have hha:=abh (ah Fv) (n:=n) (by rw[<-hpl];exact hl);rw[<-hpl] at hha;have Hha:=aj hha;have Hpl:=aj hpl;clear hpl hha;go_wp2_with fail;refine(ah H).mono ?_;rintro e w1 ⟨rfl,hb1⟩;clear x0 x1 x2 x3 x4 x5;go_wp2_with fail;go_ret2;refine⟨vT ?_ ?_,ak hb hb1⟩
    ·rw[<-ah Hpl]
    ·rw[ah Hha];by_cases z:(rc l i).q=n
     ·rw[ajH z,(D5 _ _).2 z];rfl
     ·have:¬sU (rc l i).q n=0:=λy=>z ((D5 _ _).1 y)
      rw[ajE z];simp[this]
   ·have Hpl:=aj hpl;have Hs:=aj (aes (ah Fv) (n:=n) (by rw[<-hpl];exact hl));clear hpl;go_wp2_with fail;go_ret2;refine⟨vT ?_ ?_,hb⟩
    ·rw[<-ah Hpl]
    ·exact ah Hs
theorem oJ {w:I}{B q:Nat}{v u:Value}{l:List Rc}{es:List aS}{last:Int}(n:Int)(h:oU w B q v u l es last)(hr:jI l)(iE:l.length<=200) :
 Calls prog 150 #[ae q,aa n] w λe w'=>e=.returned (.tuple #[aa (pq l n),.bool (seqB l n)])/\ai w w':=by
 obtain⟨a,cap,rfl,_,_,hsl⟩:=h.msgs.shape;have hc:=h.c0;go_enter func150,ntmps150;go_wp2_with fail;refine(QH a cap l n _ hsl hr iE).mono ?_;rintro e w1 ⟨rfl,hb⟩;go_wp2_with fail;go_ret2;exact⟨rfl,hb⟩
end Dk
namespace Dk
open Go.Deep
theorem JI:∀(es:List Rc) (k:Nat),aJ (es.take k)=(aJ es).take (k*6)
 | [],k=>by simp[aJ]
 | e::r,0=>by simp[aJ]
 | e::r,k+1=>by rw[show(k+1)*6=k*6+1+1+1+1+1+1 by omega];simp[aJ,JI r k]
theorem Bv:∀(es:List Rc) (k:Nat),aJ (es.drop k)=(aJ es).drop (k*6)
 | [],k=>by simp[aJ]
 | e::r,0=>by simp[aJ]
 | e::r,k+1=>by rw[show(k+1)*6=k*6+1+1+1+1+1+1 by omega];simp[aJ,Bv r k]
theorem bI.there {w:I}{B:Nat}{v:Value}{es:List Rc}(h:bI w B v es)(hn:0<es.length):∃g cap,v=.slice (some ⟨g,0,none⟩) es.length cap/\es.length<=cap/\cap<=maxLen/\B<=g/\g<w.heap.size:=by
 rcases h.2 with ⟨h1,h2⟩|⟨g,cap,cur,h1,h2,h3,h4,h5,h6,h7⟩
 ·omega
 ·exact⟨g,cap,h1,h4,h5,h.lt g (by rw[h1];rfl)⟩
theorem bI.cell {w:I}{B g cap:Nat}{es:List Rc}(h:bI w B (.slice (some ⟨g,0,none⟩) es.length cap) es)(j:Nat)(u:Value)(hj:(aJ es)[j]?=some u):w.cell? (aq g j)=some u:=by
 have hl:j<es.length*6:=by
  rw[<-dO];rcases alR j (aJ es).length with q|q
  ·exact q
  ·rw[ald q] at hj;cases hj
 rw[ake h _ hl];exact hj
def Z9:List Value:=[aa 0,aa 0,aa 0,.string ByteArray.empty,.string ByteArray.empty,.string ByteArray.empty]
theorem Il (w:I)(ty:TypeId)(b o c:Nat)
 (hc:∀j,j<6->(w.cell? (aq b (o+j))).isSome=true) (hf:∀j,j<6->w.frozen? (aq b (o+j))=false) :
 (Builtin.clear_ #[41] ty #[.slice (some ⟨b,o,none⟩) 1 c]).run prog w=.ok (.tuple #[]) (w.setCells b o Z9):=by
 have hzc:(Builtin.zeroCells (Value.agg #[aa 0,aa 0,aa 0,.string ⟨#[]⟩,.string ⟨#[]⟩,.string ⟨#[]⟩]).cells 1).toList=Z9:=by kernel_rfl
 have hst:=alX (P:=prog) b o Z9 0 w (by simpa[Z9] using hc) (by simpa[Z9] using hf) (by intro v hv';simp only[Z9,akb,List.not_mem_nil,or_false] at hv';rcases hv' with q|q|q|q|q|q<;>(subst q;rfl));simp only[alK] at hst;simp[Builtin.clear_,run_underlying underlying41,Tryz.zeroValue46,hzc,hst]
theorem UA (B g c i m:Nat)(es:List Rc)(w:I)(hn:es.length=i+1+m)(ha:bI w B (.slice (some ⟨g,0,none⟩) (i+1+m) c) es)(kQ:es.length<=200)(hc:i+1+m<=c) :
 Calls prog 238 #[.slice (some ⟨g,0,none⟩) (i+1+m) c,aa i,aa (i+1)] w λe w' =>
  e=.returned (.slice (some ⟨g,0,none⟩) (i+m) c)/\w'=(w.drew.setCells g (0+i*6) ((aJ es).drop ((i+1)*6))).setCells g ((i+m)*6) Z9:=by
 obtain⟨i0,hi0,hz0,hz1,hz2⟩:=alq NH;obtain⟨news,hnews⟩:∃news,news=(aJ es).drop ((i+1)*6):=⟨_,rfl⟩;have hlen:news.length=m*6:=by rw[hnews,ajI,dO,hn];omega
 obtain⟨cur,hg,hcs⟩:∃cur,w.heap[g]?=some (.cells cur 46 (0,0))/\cur.size=c*6:=by
  rcases ha.2 with ⟨q,_⟩|⟨g',cap',cur,q,h2,h3,h4,h5,h6,h7⟩
  ·cases q
  ·simp only[alk,akB,alS,aml] at q;obtain⟨rfl,_,rfl⟩:=q;exact⟨cur,h3,h6⟩
 have hsp:∀j,j<c*6->(w.cell? (aq g j)).isSome=true:=by
  intro j hj;rw[aky w g j _ _ _ hg,alf (by omega)];rfl
 have hfz:∀j,w.frozen? (aq g j)=false:=λj=>alz w g j _ _ hg
 have hcell:∀j u,(aJ es)[j]?=some u->w.cell? (aq g j)=some u:=by
  intro j u hj;rw[<-hn] at ha;exact ha.cell j u hj
 obtain⟨A,hA,hsrc⟩:∃A:Addr,(if c=i+1 then some (⟨g,0,none⟩:Addr) else some ⟨g,(i+1)*6,none⟩)=some A/\Hid (∀t u,news[t]?=some u->w.drew.cell? (A.add t)=some u):=by
  by_cases h:c=i+1
  ·refine⟨⟨g,0,none⟩,by simp[h],λt u hu=>?_⟩;have h0:news.length=0:=by rw[hlen];omega
   rw[ajZ.1 h0] at hu;simp at hu
  ·refine⟨⟨g,(i+1)*6,none⟩,by simp[h],λt u hu=>?_⟩;rw[alg];refine hcell _ u ?_;rw[hnews,akG] at hu;exact hu
 have s1:=aj hlen;have s2:Hid (∀u∈news,u.oneCell'=true):=by
  intro u hu;rw[hnews] at hu;exact qy es u (akP hu)
 have s3:Hid (∀t,t<news.length->(w.drew.cell? (aq g (0+i*6+t))).isSome=true/\w.drew.frozen? (aq g (0+i*6+t))=false):=by
  intro t ht;rw[hlen] at ht;exact⟨hsp _ (by omega),hfz _⟩
 obtain⟨W1,hW1⟩:∃W1,W1=w.drew.setCells g (0+i*6) news:=⟨_,rfl⟩;have hcl:∀ty c',(Builtin.clear_ #[41] ty #[.slice (some ⟨g,(i+m)*6,none⟩) 1 c']).run prog W1=.ok (.tuple #[]) (W1.setCells g ((i+m)*6) Z9):=λty c' =>
  Il W1 ty g ((i+m)*6) c' (λj hj=>by
   rw[hW1];exact isSome_setCells g news (0+i*6) w.drew (λt ht=>hsp _ (by rw[hlen] at ht;omega)) _ (hsp _ (by omega)))
   (λj hj=>by rw[hW1,ala];exact hfz _)
 have hW:Hid (W1=w.drew.setCells g (0+i*6) news):=hW1;rw[<-hnews];clear hW1 hsp hfz hcell hg ha hnews hlen hz0 hz2;have hic:i<=c:=by omega
 have hjc:i+1<=c:=by omega
 have b1:(0:Int)<=(i:Int)+1:=by omega
 have b2:(i:Int)+1<=(i:Int)+1+(m:Int):=by omega
 have q1:¬(c=i+m):=by omega
 have q2:i+1+m-(i+m)=1:=by omega
 go_enter func238,ntmps238;go_wp2_with fail;go_region_law (refine step_append_room rfl (.tmp 22) (.tmp 25) 41 rfl 46 i0 6 underlying41 hi0 hz1 g 0 i c (by simp[Act.eval,Act.put]) A m (c-(i+1)) news (by simp[Act.eval,Act.put]) s1.out hsrc.out s2.out (by omega) s3.out ?_;rw[<-hW.out])
 go_wp2;go_ret;exact⟨rfl,by rw[hW.out]⟩
theorem YZ (es:List Rc)(i m:Nat)(hn:es.length=i+1+m) :
 ((((aJ es).take (i*6)++(aJ es).drop ((i+1)*6)++(aJ es).drop (i*6+((aJ es).drop ((i+1)*6)).length)).take ((i+m)*6)++Z9++((aJ es).take (i*6)++(aJ es).drop ((i+1)*6)++(aJ es).drop (i*6+((aJ es).drop ((i+1)*6)).length)).drop ((i+m)*6+Z9.length)).take ((i+m)*6))=aJ (Ic es i):=by
 have hcl:(aJ es).length=(i+1+m)*6:=by rw[dO,hn]
 have h1:((aJ es).take (i*6)++(aJ es).drop ((i+1)*6)).length=(i+m)*6:=by rw[ajB,ajL,ajI,hcl];omega
 have h2:((aJ es).take (i*6)++(aJ es).drop ((i+1)*6)++(aJ es).drop (i*6+((aJ es).drop ((i+1)*6)).length)).take ((i+m)*6)=(aJ es).take (i*6)++(aJ es).drop ((i+1)*6):=by
  rw[ajQ (by omega),ajR (by omega)]
 rw[h2,aku ((aJ es).take (i*6)++(aJ es).drop ((i+1)*6)),ajQ (by omega),ajR (by omega)];unfold Ic;rw[o8,JI,Bv]
theorem QI (B:Nat)(v:Value)(es:List Rc)(i:Nat)(w:I)(ha:bI w B v es)(hi:i<es.length)(kQ:es.length<=200) :
 Calls prog 238 #[v,aa i,aa (i+1)] w λe w'=>∃v',e=.returned v'/\bI w' B v' (Ic es i)/\aA (λk=>v.ownBlock=some k) w w'/\∀g,v'.ownBlock=some g->v.ownBlock=some g\/w.heap.size<=g:=by
 obtain⟨g,cap,rfl,c1,c2,c3,c4⟩:=ha.there (by omega);obtain⟨m,hn⟩:∃m,es.length=i+1+m:=⟨es.length-(i+1),by omega⟩;rw[hn] at ha c1 ⊢;refine(UA B g cap i m es w hn ha kQ c1).mono ?_;rintro e w' ⟨rfl,rfl⟩;refine⟨_,rfl,?_,?_,λg' hg'=>.inl hg'⟩
 ·have o0:w.drew.ownsRow B 46 6 (.slice (some ⟨g,0,none⟩) (i+1+m) cap) (i+1+m) (aJ es):=by
   unfold bI at ha;rw[hn] at ha;exact ha
  have hcl:(aJ es).length=(i+1+m)*6:=by rw[dO,hn]
  have hdl:((aJ es).drop ((i+1)*6)).length=m*6:=by rw[ajI,hcl];omega
  have o1:=iI ((aJ es).drop ((i+1)*6)) (i*6) _ _ o0 (by rw[hcl,hdl];omega);have o2:=iI Z9 ((i+m)*6) _ _ o1 (by
   simp only[ajB,ajL,ajI,hcl,show Z9.length=6 from rfl];omega)
  have o3:=uK (k:=i+m) o2 (by omega);rw[YZ es i m hn] at o3;unfold bI;rw[OU hi,hn,show i+1+m-1=i+m by omega,ajT];exact o3
 ·have c:aA (λk=>k=g) w w.drew:=⟨rfl,rfl,rfl,agH _,λ_ _ _=>rfl⟩;exact((c.trans (acp (iJ _ _ _))).trans (acp (iJ _ _ _))).mono (λk _ hk=>by rw[hk];rfl)
end Dk
namespace Dk
variable {g p:Nat}{A:List Rc}
theorem bI.src {w:I}{B:Nat}{v:Value}{l:List Rc}(h:bI w B v l):Src prog 6 41 v l.length (aJ l) w:=by
 rcases h.2 with ⟨h1,h2⟩|⟨g,cap,cur,h1,h2,h3,h4,h5,h6,h7⟩
 ·have:l=[]:=ajZ.1 h2;subst this;rw[h1];exact Src.ofNil w underlying41 0
 ·rw[h1] at h ⊢;exact Src.ofSlice w underlying41 ⟨g,0,none⟩ l.length cap (aJ l) (dO l) (alA h (g:=g) rfl) (qy l)
theorem zS (w:I)(ty:TypeId)(b o dLen dCap:Nat)(x:Value)(m:Nat)(news:List Value)(hs:Src prog 6 41 x m news w)(hm:m<=dLen)
 (hc:∀j,j<news.length->(w.cell? (aq b (o+j))).isSome=true) (hf:∀j,j<news.length->w.frozen? (aq b (o+j))=false) :
 (Builtin.copy_ #[41,41] ty #[.slice (some ⟨b,o,none⟩) dLen dCap,x]).run prog w=.ok (goInt m) (w.setCells b o news):=by
 have hst:=alX (P:=prog) b o news 0 w (by simpa using hc) (by simpa using hf) hs.one;simp only[alK] at hst;obtain⟨i0,hi,hz0,hz1,hz2⟩:=alq NH;have hmin:Nat.min m dLen=m:=amC hm;simp[Builtin.copy_,run_underlying underlying41,sizeOf,typeInfo,hi,hz1,hs.len,hmin,hs.cells,hst]
def acr:Array Value:=(Value.agg #[aa 0,aa 0,aa 0,.string ⟨#[]⟩,.string ⟨#[]⟩,.string ⟨#[]⟩]).cells
theorem JJ:acr=#[aa 0,aa 0,aa 0,.string ⟨#[]⟩,.string ⟨#[]⟩,.string ⟨#[]⟩]:=by kernel_rfl
def jq (n:Nat):List Value:=(Builtin.zeroCells acr n).toList
theorem iQ (n:Nat):(jq n).length=n*6:=by
 unfold jq Builtin.zeroCells;rw[JJ];simp
theorem UC (n:Nat):∀v∈jq n,v.oneCell'=true:=by
 intro v h;unfold jq Builtin.zeroCells at h;rw[JJ] at h;simp only[Array.toList_map,alh] at h;obtain⟨i,_,rfl⟩:=h;have hi:i % 6<6:=anh _ (by decide);have e:∀j,j<6->((#[aa 0,aa 0,aa 0,.string ⟨#[]⟩,.string ⟨#[]⟩,.string ⟨#[]⟩]:Array Value)[j]!).oneCell'=true:=by decide +kernel
 exact e _ hi
theorem wR (w:I)(ty:TypeId)(b o n c:Nat)(hn:0<n)
 (hc:∀j,j<n*6->(w.cell? (aq b (o+j))).isSome=true) (hf:∀j,j<n*6->w.frozen? (aq b (o+j))=false) :
 (Builtin.clear_ #[41] ty #[.slice (some ⟨b,o,none⟩) n c]).run prog w=.ok (.tuple #[]) (w.setCells b o (jq n)):=by
 obtain⟨m,rfl⟩:∃m,n=m+1:=⟨n-1,by omega⟩;have hst:=alX (P:=prog) b o (jq (m+1)) 0 w (by rw[iQ];simpa using hc) (by rw[iQ];simpa using hf) (UC _);simp only[alK] at hst;have hz:(Builtin.zeroCells (Value.agg #[aa 0,aa 0,aa 0,.string ⟨#[]⟩,.string ⟨#[]⟩,.string ⟨#[]⟩]).cells (m+1)).toList=jq (m+1):=rfl;simp[Builtin.clear_,run_underlying underlying41,Tryz.zeroValue46,hz,hst]
theorem wS (w:I)(ty:TypeId)(a:Option Addr)(c:Nat) :
 (Builtin.clear_ #[41] ty #[.slice a 0 c]).run prog w=.ok (.tuple #[]) w:=by
 cases a<;>simp[Builtin.clear_,run_underlying underlying41]
theorem Y4 (xs a d z:List Value) :
 let y1:=xs.take 0++a++xs.drop (0+a.length)
 let y2:=y1.take a.length++d++y1.drop (a.length+d.length)
 let y3:=y2.take (a.length+d.length)++z++y2.drop (a.length+d.length+z.length)
 y3.take (a.length+d.length)=a++d:=by
 intro y1 y2 y3;have e1:y1.take a.length=a:=by
  show(xs.take 0++a++xs.drop (0+a.length)).take a.length=a;rw[List.take_zero,akD,ajQ (agH _),akT]
 have e2:y2.take (a.length+d.length)=a++d:=by
  show(y1.take a.length++d++y1.drop (a.length+d.length)).take (a.length+d.length)=a++d;rw[e1,ajQ (by rw[ajB];omega),ajR (by rw[ajB];omega)]
 show(y2.take (a.length+d.length)++z++y2.drop (a.length+d.length+z.length)).take (a.length+d.length)=a++d;rw[e2,aku,ajQ (by rw[ajB];omega),ajR (by rw[ajB];omega)]
theorem MC {w:I}{B cap:Nat}{l:List Rc}(ha:bI w B (.slice (some ⟨g,0,none⟩) l.length cap) l)(hA:A.length<=p)(hp:p<=l.length){w3:I}
 (h3:w3=((w.setCells g 0 (aJ A)).setCells g (A.length*6) ((aJ l).drop (p*6))).setCells g ((A.length+(l.length-p))*6) (jq (p-A.length))) :
 bI w3 B (.slice (some ⟨g,0,none⟩) (A++l.drop p).length cap) (A++l.drop p)/\aA (λk=>k=g) w w3:=by
 have hxs:=dO l;have hla:=dO A;have hld:((aJ l).drop (p*6)).length=(l.length-p)*6:=by rw[ajI,hxs];omega
 have hlz:=iQ (p-A.length);refine⟨?_,by rw[h3];exact acp (((iJ _ _ _).trans (iJ _ _ _)).trans (iJ _ _ _))⟩;have o1:=iI (aJ A) 0 _ _ ha (by rw[hla,hxs];omega);have o2:=iI ((aJ l).drop (p*6)) (aJ A).length _ _ o1 (by simp only[ajB,ajL,ajI,hxs,hla];omega);have o3:=iI (jq (p-A.length)) ((aJ A).length+((aJ l).drop (p*6)).length) _ _ o2 (by simp only[ajB,ajL,ajI,hxs,hla,hlz];omega);have o4:=uK (k:=A.length+(l.length-p)) o3 (by omega);have e:=Y4 (aJ l) (aJ A) ((aJ l).drop (p*6)) (jq (p-A.length))
 have ek:(A.length+(l.length-p))*6=(aJ A).length+((aJ l).drop (p*6)).length:=by rw[hla,hld];omega
 rw[<-ek] at o4 e;dsimp only at e;have hlen:(A++l.drop p).length=A.length+(l.length-p):=by rw[ajB,ajI]
 unfold bI;rw[hlen,o8,Bv,h3];rw[hla] at o4 e;rw[e] at o4;exact o4
theorem QJ (a:Option Addr)(n cap:Nat)(a2:Option Addr)(c2:Nat)(w:I) :
 Calls prog 259 #[.slice a n cap,aa 0,.slice a2 0 c2] w λe w'=>e=.returned (.slice a n cap)/\w'=w:=by
 go_enter func259,ntmps259;go_wp2_with fail;go_ret;exact⟨rfl,rfl⟩
theorem MF (a:Option Addr)(n cap:Nat)(a2:Option Addr)(c2:Nat)(w:I) :
 Calls prog 239 #[.slice a n cap,aa 0,aa 0,.slice a2 0 c2] w λe w'=>e=.returned (.slice a n cap)/\w'=w:=by
 go_enter func239,ntmps239;go_wp2_with fail;refine(QJ a n cap a2 c2 _).mono ?_;rintro e w1 ⟨rfl,rfl⟩;go_wp2_with fail;go_ret;exact⟨rfl,rfl⟩
theorem MG (g n cap:Nat)(a2:Option Addr)(c2:Nat)(w W1:I)(hn:n<=200)(hc:n<=cap)(h0:0<n)
 (hr:∀ty,(Builtin.append_ #[41,41] ty #[.slice (some ⟨g,0,none⟩) 0 cap,.slice a2 n c2]).run prog w=.ok (.slice (some ⟨g,0,none⟩) n cap) W1) :
 Calls prog 239 #[.slice (some ⟨g,0,none⟩) n cap,aa 0,aa n,.slice a2 n c2] w λe w'=>e=.returned (.slice (some ⟨g,0,none⟩) n cap)/\w'=W1:=by
 have e0:((0:Int)==(n:Int))=false:=by simp;omega
 go_enter func239,ntmps239;go_wp2_with (at_builtin;refine akA _ rfl _ _ _ _ rfl _ _ rfl rfl _ _ (hr _) ?_);go_ret;exact⟨rfl,rfl⟩
theorem QK (g m d cap:Nat)(a2:Option Addr)(c2:Nat)(w W1 W2:I)(hn:m+d<=200)(hc:m+d<=cap)(h0:0<d)
 (hr:∀ty,(Builtin.append_ #[41,41] ty #[.slice (some ⟨g,0,none⟩) 0 cap,.slice a2 m c2]).run prog w=.ok (.slice (some ⟨g,0,none⟩) m cap) W1)
 (hcl:∀ty c,(Builtin.clear_ #[41] ty #[.slice (some ⟨g,m*6,none⟩) d c]).run prog W1=.ok (.tuple #[]) W2) :
 Calls prog 239 #[.slice (some ⟨g,0,none⟩) (m+d) cap,aa 0,aa (m+d),.slice a2 m c2] w λe w'=>e=.returned (.slice (some ⟨g,0,none⟩) m cap)/\w'=W2:=by
 have e0:((0:Int)==(m:Int)+(d:Int))=false:=by simp;omega
 have e1:¬cap=m:=by omega
 have e2:m+d-m=d:=by omega
 have e3:(m:Int)<(m:Int)+(d:Int):=by omega
 have e4:(0:Int)<=(m:Int)+(d:Int):=by omega
 have e5:m<=cap:=by omega
 have e6:((m:Int)+(d:Int)).toNat=m+d:=by omega
 go_enter func239,ntmps239;go_wp2_with (at_builtin;refine akA _ rfl _ _ _ _ rfl _ _ rfl rfl _ _ (hr _) ?_);go_ret;exact⟨rfl,rfl⟩
theorem MH (g m p d cap:Nat)(a2:Option Addr)(c2:Nat)(w:I)(W1 W2 W3:Nat->I)(hn:p+d<=200)(hc:p+d<=cap)(h0:0<d)(hm:m<=p)(hp:0<p)
 (hc1:∀k ty,(Builtin.copy_ #[41,41] ty #[.slice (some ⟨g,0,none⟩) (m+d) cap,.slice a2 m c2]).run prog (w.drewN k)=.ok (goInt m) (W1 k))
 (hc2:∀k ty c c',(Builtin.copy_ #[41,41] ty #[.slice (some ⟨g,m*6,none⟩) d c,.slice (some ⟨g,p*6,none⟩) d c']).run prog (W1 k).drew=.ok (goInt d) (W2 k))
 (acs:p=m->∀k ty c A,(Builtin.clear_ #[41] ty #[.slice (some A) (p+d-(m+d)) c]).run prog (W2 k)=.ok (.tuple #[]) (W3 k))
 (acu:∀k ty c,(Builtin.clear_ #[41] ty #[.slice (some ⟨g,(m+d)*6,none⟩) (p+d-(m+d)) c]).run prog (W2 k)=.ok (.tuple #[]) (W3 k)) :
 Calls prog 239 #[.slice (some ⟨g,0,none⟩) (p+d) cap,aa 0,aa p,.slice a2 m c2] w λe w'=>e=.returned (.slice (some ⟨g,0,none⟩) (m+d) cap)/\∃k,w'=W3 k:=by
 have e0:((0:Int)==(p:Int))=false:=by simp;omega
 have e1:¬cap=m:=by omega
 have e2:¬cap=p:=by omega
 have e3:p+d-p=d:=by omega
 have e4:((p:Int)==(p:Int)+(d:Int))=false:=by simp;omega
 have e5:¬(cap:Int)<(m:Int)+(d:Int):=by omega
 have e6:(m:Int)<=(p:Int):=by omega
 have e7:((m:Int)+(d:Int)).toNat=m+d:=by omega
 have e8:m+d-m=d:=by omega
 have e9:¬cap=0:=by omega
 have hw:IntKind.i64.wrap (m:Int)=(m:Int):=by rw[akl];omega
 have ea:(m:Int)<=(m:Int)+(d:Int):=by omega
 have eb:(p:Int)<=(p:Int)+(d:Int):=by omega
 by_cases q:p=m
 ·have hcl:=acs q;clear acs acu q;go_enter func239,ntmps239;go_wp2_with fail;go_quiet (fail)
  go_wp2_with fail;go_region_law (refine step_copy_runI rfl _ _ 41 41 rfl (.slice (some ⟨g,m*6,none⟩) d (cap-m)) (.slice (some ⟨g,p*6,none⟩) d (cap-p)) (by simp[Act.eval,Act.put]) (by simp[Act.eval,Act.put]) (hc2 nq _ _ _) ?_)
  all_goals go_wp2_with fail
  all_goals go_ret
  all_goals first|exact⟨rfl,_,rfl⟩|exact⟨by first|(rw[‹cap=m+d›];rfl)|simp[*],_,rfl⟩
 ·have hcl:=acu;have ec:¬cap=m+d:=by omega
  clear acs acu q;go_enter func239,ntmps239;go_wp2_with fail;go_quiet (fail)
  go_wp2_with fail;go_region_law (refine step_copy_runI rfl _ _ 41 41 rfl (.slice (some ⟨g,m*6,none⟩) d (cap-m)) (.slice (some ⟨g,p*6,none⟩) d (cap-p)) (by simp[Act.eval,Act.put]) (by simp[Act.eval,Act.put]) (hc2 nq _ _ _) ?_)
  all_goals go_wp2_with fail
  all_goals go_ret
  all_goals first|exact⟨rfl,_,rfl⟩|exact⟨by first|(rw[‹cap=m+d›];rfl)|simp[*],_,rfl⟩
theorem qP {g:Nat}:∀(vs:List Value) (o:Nat) (w:I),(w.setCells g o vs).drew=w.drew.setCells g o vs
 | [],_,_=>rfl
 | v::r,o,w=>by
  rw[World.setCells,World.setCells,qP r (o+1)];rfl
theorem Bz {w:I}{N:Nat}(h:∀j,j<N->(w.cell? (aq g j)).isSome=true)(vs:List Value)(o:Nat)(hv:o+vs.length<=N):∀j,j<N->((w.setCells g o vs).cell? (aq g j)).isSome=true:=λj hj =>
 isSome_setCells g vs o w (λt ht=>h _ (by omega)) _ (h j hj)
theorem QL {w:I}{B B2:Nat}{v sv:Value}{l:List Rc}(ha:bI w B v l)(hs:bI w B2 sv A)(hA:A.length<=p)(hp:p<=l.length)(iE:l.length<=200)(hne:∀g,v.ownBlock=some g->sv.ownBlock≠some g) :
 Calls prog 239 #[v,aa 0,aa p,sv] w λe w'=>∃v',e=.returned v'/\bI w' B v' (A++l.drop p)/\aA (λk=>v.ownBlock=some k) w w'/\∀g,v'.ownBlock=some g->v.ownBlock=some g\/w.heap.size<=g:=by
 obtain⟨a2,c2,rfl,_⟩:=hs.shape;rcases amG p with h0|h0
 ·subst h0;have hA0:A=[]:=ajZ.1 (by omega);subst hA0;obtain⟨a,cap,rfl,_⟩:=ha.shape;refine(MF a l.length cap a2 c2 w).mono ?_;rintro e w' ⟨rfl,rfl⟩;exact⟨_,rfl,ha,aA.refl _ _,λg hg=>.inl hg⟩
 ·obtain⟨g,cap,rfl,c1,c2',c3,c4⟩:=ha.there (by omega);obtain⟨cur,hg,hcs⟩:∃cur,w.heap[g]?=some (.cells cur 46 (0,0))/\cur.size=cap*6:=by
   rcases ha.2 with ⟨q,_⟩|⟨g',cap',cur,q,h2,h3,h4,h5,h6,h7⟩
   ·cases q
   ·simp only[alk,akB,alS,aml] at q;obtain⟨rfl,_,rfl⟩:=q;exact⟨cur,h3,h6⟩
  have hsp:∀j,j<cap*6->(w.cell? (aq g j)).isSome=true:=λj hj=>by
   rw[aky w g j _ _ _ hg,alf (by omega)];rfl
  have hfz:∀j,w.frozen? (aq g j)=false:=λj=>alz w g j _ _ hg
  obtain⟨i0,hi0,hz0,hz1,hz2⟩:=alq NH;have hla:=dO A;have hlz:=iQ (p-A.length);have hld:((aJ l).drop (p*6)).length=(l.length-p)*6:=by rw[ajI,dO];omega
  have hap:∀X:I,Src prog 6 41 (.slice a2 A.length c2) A.length (aJ A) X->(∀j,j<cap*6->(X.cell? (aq g j)).isSome=true)->(∀j,X.frozen? (aq g j)=false)->∀ty,(Builtin.append_ #[41,41] ty #[.slice (some ⟨g,0,none⟩) 0 cap,.slice a2 A.length c2]).run prog X=.ok (.slice (some ⟨g,0,none⟩) A.length cap) (X.setCells g 0 (aJ A)):=λX hX h1 h2 ty=>by
   have:=run_append_room_src (P:=prog) X 41 41 ty 46 i0 underlying41 hi0 g 0 0 cap (.slice a2 A.length c2) A.length (aJ A) (by rw[hz1];exact hX) (by omega) (λj hj=>by rw[hla] at hj;exact h1 _ (by omega)) (λj _=>h2 _);simpa using this
  rcases akX hp with hpl|hpl
  ·have hd0:(aJ l).drop (p*6)=[]:=ajZ.1 (by rw[hld];omega);rcases akX hA with hAl|hAl
   ·have hz:jq (p-A.length)=[]:=ajZ.1 (by rw[hlz];omega);have e3:=MC (A:=A) (p:=p) ha hA hp (w3:=w.setCells g 0 (aJ A)) (by rw[hd0,hz];rfl);have hr:=hap w hs.src hsp hfz;rw[show A.length=l.length by omega] at hr ⊢;rw[show p=l.length by omega] at e3 ⊢;refine(MG g l.length cap a2 c2 w _ iE c1 (by omega) hr).mono ?_;rintro e w' ⟨rfl,rfl⟩;refine⟨_,rfl,?_,e3.2.mono (λk _ z=>by rw[z];rfl),λg' hg'=>.inl hg'⟩;have:=e3.1;rw[show(A++l.drop l.length).length=l.length by simp;omega] at this;exact this
   ·obtain⟨d,hd⟩:∃d,l.length=A.length+d:=⟨l.length-A.length,by omega⟩;have hzd:p-A.length=d:=by omega
    have e3:=MC (A:=A) (p:=p) ha hA hp (w3:=(w.setCells g 0 (aJ A)).setCells g (A.length*6) (jq d)) (by rw[hd0,hzd,show(A.length+(l.length-p))*6=A.length*6 by omega];rfl);have hr:=hap w hs.src hsp hfz;have hcl:∀ty c,(Builtin.clear_ #[41] ty #[.slice (some ⟨g,A.length*6,none⟩) d c]).run prog (w.setCells g 0 (aJ A))=.ok (.tuple #[]) ((w.setCells g 0 (aJ A)).setCells g (A.length*6) (jq d)):=λty c =>
     wR _ ty g (A.length*6) d c (by omega) (λj hj=>Bz hsp _ _ (by rw[hla];omega) _ (by omega)) (λj _=>by rw[ala];exact hfz _)
    have hpe:(p:Int)=(A.length:Int)+(d:Int):=by omega
    rw[hd,hpe];refine(QK g A.length d cap a2 c2 w _ _ (by omega) (by omega) (by omega) hr hcl).mono ?_;rintro e w' ⟨rfl,rfl⟩;refine⟨_,rfl,?_,e3.2.mono (λk _ z=>by rw[z];rfl),λg' hg'=>.inl hg'⟩;have:=e3.1;rw[show(A++l.drop p).length=A.length by simp;omega] at this;exact this
  ·obtain⟨d,hd⟩:∃d,l.length=p+d:=⟨l.length-p,by omega⟩;have hle:((aJ l).drop (p*6)).length=d*6:=by rw[hld];omega
   have hbk:∀k,ai w (w.drewN k):=λk=>below_drewN (agP _ _) k
   have e3:∀k,bI _ B (.slice (some ⟨g,0,none⟩) (A++l.drop p).length cap) (A++l.drop p)/\aA (λk=>k=g) (w.drewN k).drew _:=λk=>MC (A:=A) (p:=p) ((ha.below (hbk k)).below (agP _ _).drew) hA hp rfl
   have hsp1:∀k,∀j,j<cap*6->((((w.drewN k).setCells g 0 (aJ A)).drew).cell? (aq g j)).isSome=true:=λk j hj=>by
    rw[qP];exact Bz (w:=(w.drewN k).drew) (λi hi=>hsp i hi) _ _ (by rw[hla];omega) j hj
   have hfz1:∀k j,(((w.drewN k).setCells g 0 (aJ A)).drew).frozen? (aq g j)=false:=λk j=>by
    rw[qP,ala];exact hfz j
   have ahK:∀k c,Src prog 6 41 (.slice (some ⟨g,p*6,none⟩) d c) d ((aJ l).drop (p*6)) (((w.drewN k).setCells g 0 (aJ A)).drew):=λk c=>by
    refine Src.ofSlice _ underlying41 ⟨g,p*6,none⟩ d c _ hle (λj u hu=>?_) (λu hu=>qy l u (akP hu));rw[qP,alg,amB _ _ _ _ _ (λ_ _=>by right;rw[hla];simp only;omega)];rw[akG] at hu;exact ha.cell (p*6+j) u hu
   have hc1:∀k ty,(Builtin.copy_ #[41,41] ty #[.slice (some ⟨g,0,none⟩) (A.length+d) cap,.slice a2 A.length c2]).run prog (w.drewN k)=.ok (goInt A.length) ((w.drewN k).setCells g 0 (aJ A)):=λk ty =>
    zS (w.drewN k) ty g 0 (A.length+d) cap _ A.length (aJ A) (hs.below (hbk k)).src (by omega) (λj hj=>by rw[hla] at hj;exact hsp _ (by omega)) (λj _=>hfz _)
   have hc2:∀k ty c c',(Builtin.copy_ #[41,41] ty #[.slice (some ⟨g,A.length*6,none⟩) d c,.slice (some ⟨g,p*6,none⟩) d c']).run prog (((w.drewN k).setCells g 0 (aJ A)).drew)=.ok (goInt d) ((((w.drewN k).setCells g 0 (aJ A)).drew).setCells g (A.length*6) ((aJ l).drop (p*6))):=λk ty c c' =>
    zS _ ty g (A.length*6) d c _ d _ (ahK k c') (agH _) (λj hj=>by rw[hle] at hj;exact hsp1 k _ (by omega)) (λj _=>hfz1 k _)
   have hcount:p+d-(A.length+d)=p-A.length:=by omega
   have acu:∀k ty c,(Builtin.clear_ #[41] ty #[.slice (some ⟨g,(A.length+d)*6,none⟩) (p+d-(A.length+d)) c]).run prog ((((w.drewN k).setCells g 0 (aJ A)).drew).setCells g (A.length*6) ((aJ l).drop (p*6)))=.ok (.tuple #[]) (((((w.drewN k).setCells g 0 (aJ A)).drew).setCells g (A.length*6) ((aJ l).drop (p*6))).setCells g ((A.length+d)*6) (jq (p-A.length))):=λk ty c=>by
    rw[hcount];rcases amG (p-A.length) with q|q
    ·rw[q,wS,show jq 0=[] from ajZ.1 (by rw[iQ])];rfl
    ·exact wR _ ty g _ (p-A.length) c q (λj hj=>Bz (hsp1 k) _ _ (by rw[hle];omega) _ (by omega)) (λj _=>by rw[ala];exact hfz1 k _)
   have acs:p=A.length->∀k ty c D,(Builtin.clear_ #[41] ty #[.slice (some D) (p+d-(A.length+d)) c]).run prog ((((w.drewN k).setCells g 0 (aJ A)).drew).setCells g (A.length*6) ((aJ l).drop (p*6)))=.ok (.tuple #[]) (((((w.drewN k).setCells g 0 (aJ A)).drew).setCells g (A.length*6) ((aJ l).drop (p*6))).setCells g ((A.length+d)*6) (jq (p-A.length))):=λq k ty c D=>by
    rw[show p+d-(A.length+d)=0 by omega,wS,show p-A.length=0 by omega,show jq 0=[] from ajZ.1 (by rw[iQ])];rfl
   rw[hd];refine(MH g A.length p d cap a2 c2 w _ _ _ (by omega) (by omega) (by omega) hA h0 hc1 hc2 acs acu).mono ?_;rintro e w' ⟨rfl,k,rfl⟩;have e4:=e3 k;rw[<-qP,show(A.length+(l.length-p))*6=(A.length+d)*6 by omega] at e4;refine⟨_,rfl,?_,?_,λg' hg'=>.inl hg'⟩
   ·have:=e4.1;rw[show(A++l.drop p).length=A.length+d by simp;omega] at this;exact this
   ·have c0:aA (λk=>k=g) w (w.drewN k).drew:=aA.of_below ((hbk k).trans (agP _ _).drew);exact(c0.trans e4.2).mono (λk _ z=>by rw[z];rfl)
end Dk
theorem acv (B p:Nat)(v:Value)(es:List aS)(f:ad)(w:I)(hk:dW o w B p v es)(hg:iC es)(hs:f.size<=140737488355328) :
 Calls prog 223 #[.pointer (some ⟨p,o,none⟩),.string f] w λe w'=>∃v',e=.returned (.tuple #[v',aa (aC true f)])/\mg w' w.heap.size v' (if aC true f=0 then qJ es f else [])/\ai w w':=by
 have Hk:=aj hk;have Hg:=aj hg;clear hk hg;by_cases he:aC true f=0
 ·rw[if_pos he];have kQ:=(ah Hg).2.1;have He:=aj he;clear he;obtain⟨a,cap,rfl,c1,c2,c3⟩:=(ah Hk).arr.shape;clear c3 c2;go_enter func223,ntmps223;go_wp2_with fail;refine(filter_any f _ hs).mono ?_;rintro e w1 ⟨rfl,hb1⟩;rw[ah He];have k1:=(ah Hk).below hb1;have d0:=k1.cell;have K1:=aj k1;have Hb1:=aj hb1;clear hb1 k1;go_wp2_with fail;clear d0;go_loopw [7,22] (λov kv wr=>∃(k:Nat),kv=aa k/\k<=es.length/\Hid (mg wr w.heap.size ov (qJ (es.take k) f))/\Hid (dW o wr B p (.slice a es.length cap) es)/\Hid (ai w wr)) (λ_ kv _=>es.length-(intOf kv).toNat)
  case atStart=>exact⟨0,rfl,ajO _,aj (mg.empty _ _),K1,Hb1⟩
  case round =>
   obtain⟨k,rfl,hkl,A3,K3,Hb3⟩:=hrel;obtain⟨ao,co,rfl,_⟩:=(ah A3).shape;by_cases hlt:k<es.length
   ·obtain⟨g,cap',e0,f1,f2,f3,f4⟩:=(ah K3).arr.there (by omega);obtain⟨rfl,_,rfl⟩:=akE e0;clear e0;have d2:=(ah K3).arr.text hlt;have d3:=(ah K3).arr.num hlt;obtain⟨g1,g2⟩:=(ah Hg).2.2 (en es k) (La hlt);have Hs:=aj (YA es f k hlt);have Hl:=aj (abI es f k);have hb0:ai wr (wr.alloc (.cells #[.string (en es k).1,aa (en es k).2] 258)):=ax _ _;have Hb0:=aj hb0;clear hb0;go_wp2_with fail;refine(AQ f (en es k).1 _ hs g2).mono ?_;rintro e w5 ⟨rfl,b5⟩;have r0:=one_row (akv wr (.cells #[.string (en es k).1,aa (en es k).2] 258))
    have d4:w5.cell? (aq wr.heap.size 0)=some (.string (en es k).1):=by rw[b5.cell (p:=aq wr.heap.size 0) (by simp)];exact r0.1 0 _ rfl
    have d5:w5.cell? (aq wr.heap.size 1)=some (aa (en es k).2):=by rw[b5.cell (p:=aq wr.heap.size 1) (by simp)];exact r0.1 1 _ rfl
    have K5:=((ah K3).below (ah Hb0)).below b5;have A5:=((ah A3).below (ah Hb0)).below b5;have Hb5:=aj (ak (ak (ah Hb3) (ah Hb0)) b5);clear d2 d3 r0
    cases hm:aN f (en es k).1 with
    | true =>
     have Hm:=aj hm;have K5':=aj K5;have A5':=aj A5;clear hm K5 A5;go_wp2_with fail;refine(JH (en es k).1 (en es k).2 _ g2).mono ?_;rintro e w6 ⟨rfl,b6⟩;have K6:=(ah K5').below b6;have A6:=(ah A5').below b6;have Hb6:=aj (ak (ah Hb5) b6);clear K5' A5' Hb5 b5 d4 d5;have hb6:ai w6 (w6.alloc (.cells #[.string (en es k).1,aa (en es k).2] 258)):=ax _ _;obtain⟨v',w',hr,r1,r2,r3⟩:=FN _ w.heap.size 150 _ _ [en es k] (A6.below hb6) ⟨w6.heap.size,0,none⟩ 1 (aeQ w6 (en es k)) (by have:=ah Hl;simp;omega) (by have:=(ah Hb6).size;have:=hb6.size;omega)
     have hown:∀k2,(Value.slice ao (qJ (es.take k) f).length co).ownBlock=some k2->w.heap.size<=k2:=λk2 h2=>(A6.lt k2 h2).1
     have r2':=aQ.bC r2;have hb7:Below w.heap.size _ w':=r2'.below (by have:=(ah Hb6).size;have:=hb6.size;omega) (λk2 h2 h3=>by have:=hown k2 h3;omega);have K7:=aj ((K6.below hb6).aF r2' (λk2 h2 h3=>by
      have q1:=hown k2 h3;rcases h2 with h2|h2
      ·have:=(ah Hk).lt;omega
      ·have:=((ah Hk).arr.lt k2 h2).2;omega))
     have Hb7:=aj ((ak (ah Hb6) hb6).trans hb7);have A7:Hid (mg w' w.heap.size v' (qJ (es.take (k+1)) f)):=aj (by rw[ah Hs,ah Hm,if_pos rfl];exact r1);clear hb6 b6 K6 A6 r1 r2 r2' r3 hb7 hown;go_wp2_with (at_builtin;refine akA _ rfl _ _ _ _ rfl _ _ rfl rfl _ _ hr ?_);refine⟨⟨k+1,by go_num,by omega,A7,K7,Hb7⟩,?_⟩;simp[intOf];omega
    | false =>
     have A7:Hid (mg w5 w.heap.size (.slice ao (qJ (es.take k) f).length co) (qJ (es.take (k+1)) f)):=aj (by rw[ah Hs,hm,if_neg (by simp),akQ];exact A5);have K7:=aj K5;clear hm K5 A5;go_wp2_with fail;refine⟨⟨k+1,by go_num,by omega,A7,K7,Hb5⟩,?_⟩;simp[intOf];omega
   ·go_wp2_with fail;go_ret2;refine⟨_,agk (ah He),?_,ah Hb3⟩;have:=ah A3;rw[ajR (by omega)] at this;rw[ajR (by omega)];exact this
 ·rw[if_neg he];go_enter func223,ntmps223;go_wp2_with fail;refine(filter_any f _ hs).mono ?_;rintro e w1 ⟨rfl,hb1⟩;go_wp2_with fail;go_ret2;exact⟨_,rfl,mg.empty _ _,hb1⟩
