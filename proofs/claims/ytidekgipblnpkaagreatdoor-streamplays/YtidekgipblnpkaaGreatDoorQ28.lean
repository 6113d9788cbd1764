/- A part. -/
import Derived.Test.YtidekgipblnpkaaGreatDoorQ12
import Derived.Test.YtidekgipblnpkaaGreatDoorQ24
set_option maxRecDepth 100000
set_option maxHeartbeats 8000000
namespace Go.Proofs.YtidekgipblnpkaaGreatDoor
open Go.RowKit Go.Proofs.Tryz
section
open Go.Deep
theorem wI {B g cap n k:Nat}{e:TypeId}{size:Nat}{w:World}{xs:List Value}(h:w.ownsRow B e size (.slice (some ⟨g,0,none⟩) n cap) n xs)(hk:k<=n):w.ownsRow B e size (.slice (some ⟨g,0,none⟩) k cap) k (xs.take (k*size)):=by
 have hks:k*size<=n*size:=Nat.mul_le_mul_right _ hk;refine⟨by rw[ajn,h.1];omega,?_⟩;rcases h.2 with ⟨q,_⟩|⟨g',cap',cur,q,h2,h3,h4,h5,h6,h7⟩
 ·cases q
 ·simp only[akM,ajX,alK,ama] at q;obtain⟨rfl,_,rfl⟩:=q;exact .inr ⟨g,cap,cur,rfl,h2,h3,by omega,h5,h6,by rw[<-h7,akG,amE hks]⟩
def zs:List Value:=[.string ByteArray.empty,.int .i64 0]
theorem KO (w:World)(ty:TypeId)(b o c:Nat)
 (hc:∀j,j<2->(w.cell? ⟨b,o+j,none⟩).isSome=true) (hf:∀j,j<2->w.frozen? ⟨b,o+j,none⟩=false) :
 (Builtin.clear_ #[64] ty #[.slice (some ⟨b,o,none⟩) 1 c]).run prog w=.ok (.tuple #[]) (w.setCells b o zs):=by
 have hzc:(Builtin.zeroCells (Value.agg #[.string ⟨#[]⟩,.int .i64 0]).cells 1).toList=zs:=by kernel_rfl
 have hst:=alA (P:=prog) b o zs 0 w (by simpa[zs] using hc) (by simpa[zs] using hf) (by intro v hv';simp only[zs,ajT,List.not_mem_nil,or_false] at hv';rcases hv' with q|q<;>(subst q;rfl));simp only[ale] at hst;simp[Builtin.clear_,run_underlying underlying64,Tryz.zeroValue68,hzc,hst]
theorem aah (B g c i m:Nat)(es:List aW)(w:World)(hn:es.length=i+1+m)(ha:aS w B (.slice (some ⟨g,0,none⟩) (i+1+m) c) es)(dK:es.length<=100)(hc:i+1+m<=c) :
 Calls prog 241 #[.slice (some ⟨g,0,none⟩) (i+1+m) c,.int .i64 i,.int .i64 (i+1)] w λe w' =>
  e=.returned (.slice (some ⟨g,0,none⟩) (i+m) c)/\w'=(w.drew.setCells g (0+i*2) ((aC es).drop ((i+1)*2))).setCells g ((i+m)*2) zs:=by
 obtain⟨i0,hi0,hz0,hz1,hz2⟩:=akJ OE;obtain⟨news,hnews⟩:∃news,news=(aC es).drop ((i+1)*2):=⟨_,rfl⟩;have hlen:news.length=m*2:=by rw[hnews,ajp,dB,hn];omega
 obtain⟨cur,hg,hcs⟩:∃cur,w.heap[g]?=some (.cells cur 68 (0,0))/\cur.size=c*2:=by
  rcases ha.2 with ⟨q,_⟩|⟨g',cap',cur,q,h2,h3,h4,h5,h6,h7⟩
  ·cases q
  ·simp only[akM,ajX,alK,ama] at q;obtain⟨rfl,_,rfl⟩:=q;exact⟨cur,h3,h6⟩
 have hsp:∀j,j<c*2->(w.cell? ⟨g,j,none⟩).isSome=true:=by
  intro j hj;rw[ajY w g j _ _ _ hg,akE (by omega)];rfl
 have hfz:∀j,w.frozen? ⟨g,j,none⟩=false:=λj=>akR w g j _ _ hg
 have hcell:∀j u,(aC es)[j]?=some u->w.cell? ⟨g,j,none⟩=some u:=by
  intro j u hj;rw[<-hn] at ha;exact ha.cell j u hj
 obtain⟨A,hA,hsrc⟩:∃A:Addr,(if c=i+1 then some (⟨g,0,none⟩:Addr) else some ⟨g,(i+1)*2,none⟩)=some A/\Hid (∀t u,news[t]?=some u->w.drew.cell? (A.add t)=some u):=by
  by_cases h:c=i+1
  ·refine⟨⟨g,0,none⟩,by simp[h],λt u hu=>?_⟩;have h0:news.length=0:=by rw[hlen];omega
   rw[ajK.1 h0] at hu;simp at hu
  ·refine⟨⟨g,(i+1)*2,none⟩,by simp[h],λt u hu=>?_⟩;rw[akp];refine hcell _ u ?_;rw[hnews,ako] at hu;exact hu
 have s1:=aj hlen;have s2:Hid (∀u∈news,u.oneCell'=true):=by
  intro u hu;rw[hnews] at hu;exact kY es u (akm hu)
 have s3:Hid (∀t,t<news.length->(w.drew.cell? ⟨g,0+i*2+t,none⟩).isSome=true/\w.drew.frozen? ⟨g,0+i*2+t,none⟩=false):=by
  intro t ht;rw[hlen] at ht;exact⟨hsp _ (by omega),hfz _⟩
 obtain⟨W1,hW1⟩:∃W1,W1=w.drew.setCells g (0+i*2) news:=⟨_,rfl⟩;have hcl:∀ty c',(Builtin.clear_ #[64] ty #[.slice (some ⟨g,(i+m)*2,none⟩) 1 c']).run prog W1=.ok (.tuple #[]) (W1.setCells g ((i+m)*2) zs):=λty c' =>
  KO W1 ty g ((i+m)*2) c' (λj hj=>by
   rw[hW1];exact isSome_setCells g news (0+i*2) w.drew (λt ht=>hsp _ (by rw[hlen] at ht;omega)) _ (hsp _ (by omega)))
   (λj hj=>by rw[hW1,akx];exact hfz _)
 have hW:Hid (W1=w.drew.setCells g (0+i*2) news):=hW1;rw[<-hnews];clear hW1 hsp hfz hcell hg ha hnews hlen hz0 hz2;have hic:i<=c:=by omega
 have hjc:i+1<=c:=by omega
 have b1:(0:Int)<=(i:Int)+1:=by omega
 have b2:(i:Int)+1<=(i:Int)+1+(m:Int):=by omega
 have q1:¬(c=i+m):=by omega
 have q2:i+1+m-(i+m)=1:=by omega
 go_enter func241,ntmps241;go_wp2_with fail;go_region_law (refine step_append_room rfl (.tmp 22) (.tmp 25) 64 rfl 68 i0 2 underlying64 hi0 hz1 g 0 i c (by simp[Act.eval,Act.put]) A m (c-(i+1)) news (by simp[Act.eval,Act.put]) s1.out hsrc.out s2.out (by omega) s3.out ?_;rw[<-hW.out])
 go_wp2;go_ret;exact⟨rfl,by rw[hW.out]⟩
theorem ac6 (es:List aW)(i m:Nat)(hn:es.length=i+1+m) :
 ((((aC es).take (i*2)++(aC es).drop ((i+1)*2)++(aC es).drop (i*2+((aC es).drop ((i+1)*2)).length)).take ((i+m)*2)++zs++((aC es).take (i*2)++(aC es).drop ((i+1)*2)++(aC es).drop (i*2+((aC es).drop ((i+1)*2)).length)).drop ((i+m)*2+zs.length)).take ((i+m)*2))=aC (Aa es i):=by
 have hcl:(aC es).length=(i+1+m)*2:=by rw[dB,hn]
 have h1:((aC es).take (i*2)++(aC es).drop ((i+1)*2)).length=(i+m)*2:=by rw[ajh,ajn,ajp,hcl];omega
 have h2:((aC es).take (i*2)++(aC es).drop ((i+1)*2)++(aC es).drop (i*2+((aC es).drop ((i+1)*2)).length)).take ((i+m)*2)=(aC es).take (i*2)++(aC es).drop ((i+1)*2):=by
  rw[ajE (by omega),ajs (by omega)]
 rw[h2,ajW ((aC es).take (i*2)++(aC es).drop ((i+1)*2)),ajE (by omega),ajs (by omega)];unfold Aa;rw[iT,ug,uh]
theorem WB (B:Nat)(v:Value)(es:List aW)(i:Nat)(w:World)(ha:aS w B v es)(hi:i<es.length)(dK:es.length<=100) :
 Calls prog 241 #[v,.int .i64 i,.int .i64 (i+1)] w λe w'=>∃v',e=.returned v'/\aS w' B v' (Aa es i)/\aX (λk=>v.ownBlock=some k) w w'/\∀g,v'.ownBlock=some g->v.ownBlock=some g\/w.heap.size<=g:=by
 obtain⟨g,cap,rfl,c1,c2,c3,c4⟩:=ha.there (by omega);obtain⟨m,hn⟩:∃m,es.length=i+1+m:=⟨es.length-(i+1),by omega⟩;rw[hn] at ha c1 ⊢;refine(aah B g cap i m es w hn ha dK c1).mono ?_;rintro e w' ⟨rfl,rfl⟩;refine⟨_,rfl,?_,?_,λg' hg'=>.inl hg'⟩
 ·have o0:w.drew.ownsRow B 68 2 (.slice (some ⟨g,0,none⟩) (i+1+m) cap) (i+1+m) (aC es):=by
   unfold aS at ha;rw[hn] at ha;exact ha
  have hcl:(aC es).length=(i+1+m)*2:=by rw[dB,hn]
  have hdl:((aC es).drop ((i+1)*2)).length=m*2:=by rw[ajp,hcl];omega
  have o1:=fC ((aC es).drop ((i+1)*2)) (i*2) _ _ o0 (by rw[hcl,hdl];omega);have o2:=fC zs ((i+m)*2) _ _ o1 (by
   simp only[ajh,ajn,ajp,hcl,show zs.length=2 from rfl];omega)
  have o3:=wI (k:=i+m) o2 (by omega);rw[ac6 es i m hn] at o3;unfold aS;rw[F6 hi,hn,show i+1+m-1=i+m by omega,ajv];exact o3
 ·have c:aX (λk=>k=g) w w.drew:=⟨rfl,rfl,rfl,Xc _,λ_ _ _=>rfl⟩;exact((c.trans (fD _ _ _)).trans (fD _ _ _)).mono (λk _ hk=>by rw[hk];rfl)
def oq (w w':World)(B p:Nat)(v:Value)(es':List aW):Prop:=∃v',jy w' B p v' es'/\aX (pJ p v) w w'/\∀g,v'.ownBlock=some g->v.ownBlock=some g\/w.heap.size<=g
theorem oq.same {w w':World}{B p:Nat}{v:Value}{es:List aW}(h:jy w B p v es)(hb:Below w.heap.size w w'):oq w w' B p v es:=⟨v,h.below hb,aX.aA hb,λ_ hg=>.inl hg⟩
theorem oq.behind {w w1 w':World}{B p:Nat}{v:Value}{es:List aW}(hb:Below w.heap.size w w1)(h:oq w1 w' B p v es):oq w w' B p v es:=by
 obtain⟨v',h1,h2,h3⟩:=h;exact⟨v',h1,(aX.aA hb).trans h2,λg hg=>by
  rcases h3 g hg with q|q
  ·exact .inl q
  ·have:=hb.size;exact .inr (by omega)⟩
theorem oq.store {w w':World}{B p:Nat}{v v':Value}{es es':List aW}(h:jy w B p v es)(hb:aX (λk=>v.ownBlock=some k) w w')(ha:aS w' B v' es')(hv:∀g,v'.ownBlock=some g->v.ownBlock=some g\/w.heap.size<=g):oq w (w'.setCell ⟨p,0,none⟩ v') B p v es':=by
 obtain⟨h1,h2⟩:=h.store hb ha hv;exact⟨v',h1,h2,hv⟩
def oK (o:Nat)(w w':World)(B p:Nat)(v:Value)(es':List aW):Prop:=∃v',fB o w' B p v' es'/\aX (pJ p v) w w'/\uj o p w w'/\∀g,v'.ownBlock=some g->v.ownBlock=some g\/w.heap.size<=g
theorem oK.bZ {o:Nat}{w w':World}{B p:Nat}{v:Value}{es:List aW}(h:oK o w w' B p v es):aX (pJ p v) w w':=by
 obtain⟨_,_,h2,_⟩:=h;exact h2
theorem oK.same {o:Nat}{w w':World}{B p:Nat}{v:Value}{es:List aW}(h:fB o w B p v es)(hb:Below w.heap.size w w'):oK o w w' B p v es:=⟨v,h.below hb,aX.aA hb,uj.below hb h.lt,λ_ hg=>.inl hg⟩
theorem oK.behind {o:Nat}{w w1 w':World}{B p:Nat}{v:Value}{es:List aW}(hp:p<w.heap.size)(hb:Below w.heap.size w w1)(h:oK o w1 w' B p v es):oK o w w' B p v es:=by
 obtain⟨v',h1,h2,h4,h3⟩:=h;exact⟨v',h1,(aX.aA hb).trans h2,(uj.below hb hp).trans h4,λg hg=>by
  rcases h3 g hg with q|q
  ·exact .inl q
  ·have:=hb.size;exact .inr (by omega)⟩
theorem oK.store {o:Nat}{w w':World}{B p:Nat}{v v':Value}{es es':List aW}(h:fB o w B p v es)(hb:aX (λk=>v.ownBlock=some k) w w')(ha:aS w' B v' es')(hv:∀g,v'.ownBlock=some g->v.ownBlock=some g\/w.heap.size<=g):oK o w (w'.setCell ⟨p,o,none⟩ v') B p v es':=by
 obtain⟨h1,h2⟩:=h.store hb ha hv;exact⟨v',h1,h2,(uj.bZ hb h.lt h.apart).trans (uj.set _),hv⟩
theorem MZ {es:List aW}{s:ByteArray}{n:Int}(h:aG false s≠0):I7 es s=aG false s/\pz es s n=es:=by
 unfold I7 pz;rw[if_neg h,if_neg h];exact⟨rfl,rfl⟩
theorem Yv {es:List aW}{s:ByteArray}{n:Int}(h:aG false s=0)(g:eu es s=true):I7 es s=0/\pz es s n=es.set (place es s) (s,n):=by
 unfold I7 pz;rw[if_pos h,if_pos h,if_pos g,if_pos g];exact⟨rfl,rfl⟩
theorem TF {es:List aW}{s:ByteArray}{n:Int}(h:aG false s=0)(g:eu es s=false)(f:100<=es.length):I7 es s=8/\pz es s n=es:=by
 unfold I7 pz;simp[h,g,f]
theorem Yw {es:List aW}{s:ByteArray}{n:Int}(h:aG false s=0)(g:eu es s=false)(f:¬100<=es.length):I7 es s=0/\pz es s n=iR es (place es s) (s,n):=by
 unfold I7 pz;simp[h,g,f]
theorem ac7 {w:World}{b:Nat}{s:ByteArray}{n:Int}(c0:w.cell? ⟨b,0,none⟩=some (.string s))(c1:w.cell? ⟨b,1,none⟩=some (.int .i64 n)) :
 (loadVar 68 ⟨b,0,none⟩).run prog w=.ok (.agg #[.string s,.int .i64 n]) w:=by
 have hl:(loadCells ⟨b,0,none⟩ 2).run prog w=.ok #[.string s,.int .i64 n] w :=
  alr (P:=prog) w ⟨b,0,none⟩ [.string s,.int .i64 n] (λj v hv=>by
   rw[akp,ajv];match j,hv with
   | 0,hv=>rw[c0];simpa using hv
   | 1,hv=>rw[c1];simpa using hv)
 have hz:Tryz.t68.size=2:=by kernel_rfl
 simp[loadVar,isAgg,sizeOf];rw[hz,hl];rfl
theorem TG {fn:Func}{a:Tmp}{tmps:Array Value}{w:World}{b:Nat}{s:ByteArray}{n:Int}(hf:fn.results=#[.cell a 68])(ha:tmps.getD a undef=.pointer (some ⟨b,0,none⟩))(c0:w.cell? ⟨b,0,none⟩=some (.string s))(c1:w.cell? ⟨b,1,none⟩=some (.int .i64 n)) :
 (results fn tmps).run prog w=.ok (.agg #[.string s,.int .i64 n]) w:=by
 have ha':tmps[a]?.getD undef=.pointer (some ⟨b,0,none⟩):=by simpa using ha
 simp[results,hf,ha',asAddr,ac7 c0 c1]
theorem Na (s:ByteArray)(n:Int)(w:World)(hs:s.size<=140737488355328) :
 Calls prog 107 #[.agg #[.string s,.int .i64 n]] w λe w'=>e=.returned (.agg #[.string s,.int .i64 n])/\Below w.heap.size w w':=by
 obtain⟨W,hW⟩:∃W,W=(w.alloc (.cells #[.string s,.int .i64 n] 68)).alloc (.cells #[.string ⟨#[]⟩,.int .i64 0] 68):=⟨_,rfl⟩;have hsz:W.heap.size=w.heap.size+2:=by rw[hW];simp
 have hb:Below w.heap.size w W:=by rw[hW];exact((ajb _ _).alloc (Xc _) _).alloc (by simp) _
 have r0:=ni (x:=(s,n)) (ajF w (.cells #[.string s,.int .i64 n] 68));have hg:W.heap[w.heap.size+1]?=some (.cells #[.string ⟨#[]⟩,.int .i64 0] 68 (0,0)):=by
  have:=ajF (w.alloc (.cells #[.string s,.int .i64 n] 68)) (.cells #[.string ⟨#[]⟩,.int .i64 0] 68);rw[akS] at this;rw[hW];exact this
 have r1:=ni (x:=(⟨#[]⟩,0)) hg;have d0:W.cell? ⟨w.heap.size,0,none⟩=some (.string s):=by rw[hW,aku _ _ _ (by simp)];exact r0.1 0 _ rfl
 have d1:W.cell? ⟨w.heap.size,1,none⟩=some (.int .i64 n):=by rw[hW,aku _ _ _ (by simp)];exact r0.1 1 _ rfl
 have e0:W.cell? ⟨w.heap.size+1,0,none⟩=some (.string ⟨#[]⟩):=r1.1 0 _ rfl;have e1:W.cell? ⟨w.heap.size+1,1,none⟩=some (.int .i64 0):=r1.1 1 _ rfl;have f0:W.frozen? ⟨w.heap.size+1,0,none⟩=false:=r1.2.1 0;have f1:W.frozen? ⟨w.heap.size+1,1,none⟩=false:=r1.2.1 1;have l0:w.heap.size<W.heap.size:=by omega
 have l1:w.heap.size+1<W.heap.size:=by omega
 have PC:Hid (∀X,Calls prog 67 #[.string s] X λe w'=>e=.returned (.string s)/\Below X.heap.size X w'):=aj (λX=>mW s X (by omega));clear r0 r1 hg;go_enter func107,ntmps107;go_wp2_with fail;rw[<-hW];have Hb:=aj hb;clear hW hb hsz;go_region_with (go_at_call 67;refine(ah PC _).mono ?_;rintro e w1 ⟨rfl,b1⟩;have g1:=(b1.cell (p:=⟨w.heap.size,1,none⟩) l0).trans d1;have h0:=(b1.cell (p:=⟨w.heap.size+1,0,none⟩) l1).trans e0;have h1:=(b1.cell (p:=⟨w.heap.size+1,1,none⟩) l1).trans e1;have k0:=(b1.frozen (p:=⟨w.heap.size+1,0,none⟩) l1).trans f0;have k1:=(b1.frozen (p:=⟨w.heap.size+1,1,none⟩) l1).trans f1)
 all_goals have HB:=aj (ak (ah Hb).drew b1)
 all_goals clear b1 Hb g1
 all_goals go_wp2_with fail
 all_goals refine ajJ (TG (b:=w.heap.size+1) (s:=s) (n:=n) rfl rfl (by rw[aji _ _ _ _ (by simp)];exact ajL _ _ _ h0) (ajL _ _ _ (by rw[aji _ _ _ _ (by simp)];exact h1))) rfl ?_
 all_goals exact⟨rfl,((ah HB).setCell (p:=⟨w.heap.size+1,0,none⟩) (alV _) _).setCell (p:=⟨w.heap.size+1,1,none⟩) (alV _) _⟩
theorem TI {o:Nat}(B p:Nat)(v:Value)(es:List aW)(s:ByteArray)(n:Int)(w:World)(hk:fB o w B p v es)(hg:gI es)(hs:s.size<=140737488355328)(hB:B<=w.heap.size) :
 Calls prog 186 #[.pointer (some ⟨p,o,none⟩),.string s,.int .i64 n] w λe w'=>e=.returned (.int .i64 (I7 es s))/\oK o w w' B p v (pz es s n):=by
 have Hk:=aj hk;have Hg:=aj hg;clear hk hg;by_cases he:aG false s=0
 ·have hn:=iW he
  cases hh:eu es s with
  | true =>
   have Hp:=aj (Yv (n:=n) he hh);obtain⟨h1,h2⟩:=qJ hh;have He:=aj he;have Hh:=aj hh;obtain⟨q,hq⟩:∃q,place es s=q:=⟨_,rfl⟩;rw[hq] at h1 h2 Hp;have Hq:=aj hq;have H2:=aj h2;clear he hh h2 hq;obtain⟨g,cap,rfl,c1,c2,c3,c4⟩:=(ah Hk).arr.there (by omega);unfold maxLen at c2;go_enter func186,ntmps186;go_wp2_with fail;refine(fU s _ hs).mono ?_;rintro e w1 ⟨rfl,hb1⟩;rw[ah He];go_wp2_with fail;refine(xK B p _ es s _ ((ah Hk).below hb1) (ah Hg) hs hn).mono ?_;rintro e w2 ⟨rfl,hb2⟩;rw[ah Hh,ah Hq];have k2:=((ah Hk).below hb1).below hb2
   have d1:=k2.cell;have d2:=k2.arr.num h1;have d3:=akj k2.arr (q*2+1);have K2:=aj k2;clear k2;go_wp2_with fail;go_ret;refine⟨bV (ah Hp).1,?_⟩;rw[(ah Hp).2];obtain⟨u1,u2⟩:=(ah K2).number h1 (ah H2) n;exact oK.behind (ah Hk).lt (ak hb1 hb2) ⟨_,u1,u2,uj.other _ (λe=>(ah Hk).apart (by rw[e];rfl)),λg' hg'=>.inl hg'⟩
  | false =>
   by_cases hf:100<=es.length
   ·have Hp:=aj (TF (n:=n) he hh hf);have He:=aj he;have Hh:=aj hh;clear he hh;obtain⟨a,cap,rfl,c1,c2,c3⟩:=(ah Hk).arr.shape;clear c3 c2;go_enter func186,ntmps186;go_wp2_with fail;refine(fU s _ hs).mono ?_;rintro e w1 ⟨rfl,hb1⟩;rw[ah He];go_wp2_with fail;refine(xK B p _ es s _ ((ah Hk).below hb1) (ah Hg) hs hn).mono ?_;rintro e w2 ⟨rfl,hb2⟩;rw[ah Hh];have d1:=(((ah Hk).below hb1).below hb2).cell;go_wp2_with fail;go_ret;refine⟨bV (ah Hp).1,?_⟩;rw[(ah Hp).2];exact oK.same (ah Hk) (ak hb1 hb2)
   ·have Hp:=aj (Yw (n:=n) he hh hf);have He:=aj he;have Hh:=aj hh;obtain⟨q,hq⟩:∃q,place es s=q:=⟨_,rfl⟩;have vw:q<=es.length:=by rw[<-hq];exact vZ _ _
    rw[hq] at Hp;have Hq:=aj hq;clear he hh hq;obtain⟨a,cap,rfl,c1,c2,c3⟩:=(ah Hk).arr.shape;clear c3 c2;go_enter func186,ntmps186;go_wp2_with fail;refine(fU s _ hs).mono ?_;rintro e w1 ⟨rfl,hb1⟩;rw[ah He];go_wp2_with fail;refine(xK B p _ es s _ ((ah Hk).below hb1) (ah Hg) hs hn).mono ?_;rintro e w2 ⟨rfl,hb2⟩;rw[ah Hh,ah Hq];have k2:=((ah Hk).below hb1).below hb2;have d1:=k2.cell;have K2:=aj k2;clear k2;have hB2:B<=w2.heap.size:=by have:=hb1.size;have:=hb2.size;omega
    have PI:Hid (∀w3,Below w2.heap.size w2 w3->Calls prog 131 #[.slice a es.length cap,.int .i64 q,.slice (some ⟨w3.heap.size,0,none⟩) 1 1] (w3.alloc (.cells #[.string s,.int .i64 n] 68)) λe w4=>∃a' m' c',e=.returned (.slice a' m' c')/\w4.cell? ⟨p,o,none⟩=some (.slice a es.length cap)/\w4.frozen? ⟨p,o,none⟩=false/\Hid (oK o w2 (w4.setCell ⟨p,o,none⟩ (.slice a' m' c')) B p (.slice a es.length cap) (iR es q (s,n)))):=aj (λw3 b3=>by
     have k3:=(ah K2).below b3;have b4:Below w3.heap.size w3 (w3.alloc (.cells #[.string s,.int .i64 n] 68)):=(ajb _ _).alloc (Xc _) _;have k4:=k3.below b4;refine(uG B _ es q (s,n) w3.heap.size _ k4.arr vw (by omega) (ajF w3 _) (λe=>by have:=(k3.arr.lt _ e).2;omega) (by have:=b3.size;simp;omega)).mono ?_;rintro e w4 ⟨v',rfl,i1,i2,i3⟩;obtain⟨a',cap',rfl,_⟩:=i1.shape;refine⟨a',_,cap',rfl,?_,?_,aj (oK.behind (ah K2).lt (ak b3 b4) (oK.store k4 i2 i1 i3))⟩
     ·rw[i2.cell (p:=⟨p,o,none⟩) k4.lt k4.apart];exact k4.cell
     ·rw[i2.frozen (p:=⟨p,o,none⟩) k4.lt k4.apart];exact k4.free)
    have PC:Hid (∀X,Calls prog 107 #[.agg #[.string s,.int .i64 n]] X λe w'=>e=.returned (.agg #[.string s,.int .i64 n])/\Below X.heap.size X w'):=aj (λX=>Na s n X hs);have hpl:=(ah K2).lt;go_wp2_with fail;go_region_with (first
     | (go_at_call 107;refine(ah PC _).mono ?_;rintro e w3 ⟨rfl,b3⟩;have d2:=(b3.cell (p:=⟨p,o,none⟩) hpl).trans d1;have hp3:=ajc hpl b3.size;have B3:=aj (((ajb w2.heap.size w2).drew).trans b3))
     | (go_at_call 131;refine(ah PI w3 (ah B3)).mono ?_;rintro e w4 ⟨a',m',c',rfl,d4,d5,HU⟩))
    all_goals go_wp2_with fail
    all_goals go_ret
    all_goals refine⟨bV (ah Hp).1,?_⟩
    all_goals rw[(ah Hp).2]
    all_goals exact oK.behind (ah Hk).lt (ak hb1 hb2) (ah HU)
 ·have Hp:=aj (MZ (es:=es) (n:=n) he);go_enter func186,ntmps186;go_wp2_with fail;refine(fU s _ hs).mono ?_;rintro e w1 ⟨rfl,hb1⟩;go_wp2_with fail;go_ret;refine⟨bV (ah Hp).1,?_⟩;rw[(ah Hp).2];exact oK.same (ah Hk) hb1
theorem ac8 {es:List aW}{s:ByteArray}(h:qK es s=0):aG false s=0/\eu es s=true:=by
 unfold qK at h;split at h
 ·rename_i he;refine⟨he,?_⟩;split at h
  ·assumption
  ·omega
 ·rename_i he;exact absurd h he
theorem aai {es:List aW}{s:ByteArray}(h:¬qK es s=0):qE es s=es:=by
 unfold qE;unfold qK at h;split
 ·rename_i he;rw[if_pos he] at h;split
  ·rename_i hh;rw[if_pos hh] at h;exact absurd rfl h
  ·rfl
 ·rfl
theorem aaj {o:Nat}(B p:Nat)(v:Value)(es:List aW)(s:ByteArray)(w:World)(hk:fB o w B p v es)(hg:gI es)(hs:s.size<=140737488355328) :
 Calls prog 218 #[.pointer (some ⟨p,o,none⟩),.string s] w λe w'=>e=.returned (.int .i64 (qK es s))/\oK o w w' B p v (qE es s):=by
 have Hk:=aj hk;have Hg:=aj hg;clear hk hg;by_cases h0:qK es s=0
 ·obtain⟨he,hh⟩:=ac8 h0;obtain⟨h1,h2⟩:=qJ hh;have hl:Gj es s=(place es s:Int):=by unfold Gj;rw[if_pos he,if_pos hh]
  have hd:qE es s=Aa es (place es s):=by unfold qE;rw[if_pos he,if_pos hh]
  have dK:=(ah Hg).2.1;have Hl:=aj hl;have Hd:=aj hd;have H0:=aj h0;clear hd hl h0 hh h2 he;obtain⟨q,hq⟩:∃q,place es s=q:=⟨_,rfl⟩;rw[hq] at h1 Hl Hd;clear hq;obtain⟨g,cap,rfl,c1,c2,c3,c4⟩:=(ah Hk).arr.there (by omega);unfold maxLen at c2;go_enter func218,ntmps218;go_wp2_with fail;refine(uy B p _ es s _ (ah Hk) (ah Hg) hs).mono ?_;rintro e w1 ⟨rfl,hb1⟩;rw[ah Hl,ah H0];have k1:=(ah Hk).below hb1;have d1:=k1.cell;have K1:=aj k1;clear k1;go_wp2_with fail;refine(WB B _ es q _ (ah K1).arr h1 dK).mono ?_;rintro e w4 ⟨v',rfl,i1,i2,i3⟩
  obtain⟨a',cap',rfl,_⟩:=i1.shape;have d4:w4.cell? ⟨p,o,none⟩=some (.slice (some ⟨g,0,none⟩) es.length cap):=by rw[i2.cell (p:=⟨p,o,none⟩) (ah K1).lt (ah K1).apart];exact(ah K1).cell
  have d5:w4.frozen? ⟨p,o,none⟩=false:=by rw[i2.frozen (p:=⟨p,o,none⟩) (ah K1).lt (ah K1).apart];exact(ah K1).free
  have HU:=aj (oK.store (ah K1) i2 i1 i3);clear i1 i2 i3 d1;go_wp2_with fail;go_ret;refine⟨bV (ah H0),?_⟩;rw[ah Hd];exact oK.behind (ah Hk).lt hb1 (ah HU)
 ·have Hd:=aj (aai h0);go_enter func218,ntmps218;go_wp2_with fail;refine(uy B p v es s _ (ah Hk) (ah Hg) hs).mono ?_;rintro e w1 ⟨rfl,hb1⟩;go_wp2_with fail;go_ret;refine⟨rfl,?_⟩;rw[ah Hd];exact oK.same (ah Hk) hb1
end
namespace Dk
theorem afI {A:Nat->Prop}{w w':World}(h:aH A w w'):Go.Proofs.YtidekgipblnpkaaGreatDoor.aX A w w':=⟨h.os,h.tape,h.output,h.size,h.block⟩
theorem ac9 {A:Nat->Prop}{w w':World}(h:Go.Proofs.YtidekgipblnpkaaGreatDoor.aX A w w'):aH A w w':=⟨h.os,h.tape,h.output,h.size,h.block⟩
structure qh (w:World)(B q:Nat)(v u:Value)(l:List Rc)(es:List aW)(last:Int):Prop where
 c0:w.cell? ⟨q,0,none⟩=some v
 c1:w.cell? ⟨q,1,none⟩=some u
 c2:w.cell? ⟨q,2,none⟩=some (.int .i64 last)
 free:∀j,w.frozen? ⟨q,j,none⟩=false
 base:B<=q
 lt:q<w.heap.size
 msgs:aT w B v l
 TJ:aS w B u es
 av:v.ownBlock≠some q
 au:u.ownBlock≠some q
 apart:∀g,v.ownBlock=some g->u.ownBlock≠some g
def qp (q:Nat)(v u:Value)(k:Nat):Prop:=k=q\/v.ownBlock=some k\/u.ownBlock=some k
section
variable {w w':World}{B q:Nat}{v u v' u':Value}{l l':List Rc}{es es':List aW}{last last':Int}
theorem qh.keeps (h:qh w B q v u l es last):fB 1 w B q u es:=⟨h.c1,h.free 1,h.base,h.lt,h.TJ,h.au⟩
theorem qh.own (h:qh w B q v u l es last):∀k,qp q v u k->B<=k/\k<w.heap.size:=by
 rintro k (rfl|z|z)
 ·exact⟨h.base,h.lt⟩
 ·exact h.msgs.lt k z
 ·exact h.TJ.lt k z
theorem qh.bZ {A:Nat->Prop}(h:qh w B q v u l es last)(hc:aH A w w')(hn:∀k,qp q v u k->¬A k):qh w' B q v u l es last:=by
 have hq:=hn q (.inl rfl);refine⟨by rw[hc.cell (p:=⟨q,0,none⟩) h.lt hq];exact h.c0,by rw[hc.cell (p:=⟨q,1,none⟩) h.lt hq];exact h.c1,by rw[hc.cell (p:=⟨q,2,none⟩) h.lt hq];exact h.c2,λj=>by rw[hc.frozen (p:=⟨q,j,none⟩) h.lt hq];exact h.free j,h.base,ajc h.lt hc.size,h.msgs.bZ hc (λg hg=>hn g (.inr (.inl hg))),h.TJ.bZ (afI hc) (λg hg=>hn g (.inr (.inr hg))),h.av,h.au,h.apart⟩
theorem qh.below (h:qh w B q v u l es last)(hb:Below w.heap.size w w'):qh w' B q v u l es last:=h.bZ (A:=λ_=>False) (aH.aA hb) (λ_ _ z=>z)
theorem qh.Kr (h:qh w B q v u l es last)(hu:oK 1 w w' B q u es'):∃u',qh w' B q v u' l es' last/\aH (pJ q u) w w'/\∀g,u'.ownBlock=some g->u.ownBlock=some g\/w.heap.size<=g:=by
 obtain⟨u',k,hc,hs,ho⟩:=hu;have hc:=ac9 hc;have hf:∀g,v.ownBlock=some g->¬pJ q u g:=λg hg z=>by
  rcases z with rfl|z
  ·exact h.av hg
  ·exact h.apart g hg z
 refine⟨u',⟨by rw[hs.cell 0 (by decide)];exact h.c0,k.cell,by rw[hs.cell 2 (by decide)];exact h.c2,λj=>by rw[hs.free j];exact h.free j,h.base,k.lt,h.msgs.bZ hc hf,k.arr,h.av,k.apart,λg hg z=>?_⟩,hc,ho⟩;rcases ho g z with y|y
 ·exact h.apart g hg y
 ·have:=(h.msgs.lt g hg).2;omega
theorem qh.store (h:qh w B q v u l es last)(hc:aH (λk=>v.ownBlock=some k) w w')(ha:aT w' B v' l')(hv:∀g,v'.ownBlock=some g->v.ownBlock=some g\/w.heap.size<=g) :
 qh (w'.setCell ⟨q,0,none⟩ v') B q v' u l' es last/\aH (λk=>k=q\/v.ownBlock=some k) w (w'.setCell ⟨q,0,none⟩ v'):=by
 have hne:v'.ownBlock≠some q:=λe=>by
  rcases hv q e with z|z
  ·exact h.av z
  ·have:=h.lt;omega
 have c0:w'.cell? ⟨q,0,none⟩=some v:=by rw[hc.cell (p:=⟨q,0,none⟩) h.lt h.av];exact h.c0
 have c1:w'.cell? ⟨q,1,none⟩=some u:=by rw[hc.cell (p:=⟨q,1,none⟩) h.lt h.av];exact h.c1
 have c2:w'.cell? ⟨q,2,none⟩=some (.int .i64 last):=by rw[hc.cell (p:=⟨q,2,none⟩) h.lt h.av];exact h.c2
 have cs:aH (λk=>k=q) w' (w'.setCell ⟨q,0,none⟩ v'):=aH.setCell (A:=λk=>k=q) (p:=⟨q,0,none⟩) (aH.refl _ _) (.inl rfl) _;refine⟨⟨ajL _ _ _ c0,?_,?_,λj=>?_,h.base,?_,?_,?_,hne,h.au,λg hg z=>?_⟩,?_⟩
 ·rw[aji _ _ _ _ (by simp)];exact c1
 ·rw[aji _ _ _ _ (by simp)];exact c2
 ·rw[ajt,hc.frozen (p:=⟨q,j,none⟩) h.lt h.av];exact h.free j
 ·have:=hc.size;have:=h.lt;simp[World.setCell];omega
 ·exact ha.bZ cs (λg hg e=>hne (by rw[<-e];exact hg))
 ·exact(h.TJ.bZ (afI hc) (λg hg z=>h.apart g z hg)).bZ (afI cs) (λg hg e=>h.au (by rw[<-e];exact hg))
 ·rcases hv g hg with y|y
  ·exact h.apart g y z
  ·have:=(h.TJ.lt g z).2;omega
 ·exact(hc.mono (λk _ z=>.inr z)).setCell (.inl (.inl rfl)) _
theorem qh.number (h:qh w B q v u l es last)(n:Int):qh (w.setCell ⟨q,2,none⟩ (.int .i64 n)) B q v u l es n/\aH (λk=>k=q) w (w.setCell ⟨q,2,none⟩ (.int .i64 n)):=by
 have cs:aH (λk=>k=q) w (w.setCell ⟨q,2,none⟩ (.int .i64 n)):=aH.setCell (A:=λk=>k=q) (p:=⟨q,2,none⟩) (aH.refl _ _) (.inl rfl) _;refine⟨⟨?_,?_,ajL _ _ _ h.c2,λj=>?_,h.base,?_,?_,?_,h.av,h.au,h.apart⟩,cs⟩
 ·rw[aji _ _ _ _ (by simp)];exact h.c0
 ·rw[aji _ _ _ _ (by simp)];exact h.c1
 ·rw[ajt];exact h.free j
 ·have:=h.lt;simpa[World.setCell] using this
 ·exact h.msgs.bZ cs (λg hg e=>h.av (by rw[<-e];exact hg))
 ·exact h.TJ.bZ (afI cs) (λg hg e=>h.au (by rw[<-e];exact hg))
end
def dS (w w':World)(B q:Nat)(v u:Value)(l':List Rc)(es':List aW)(last':Int):Prop:=∃v' u',qh w' B q v' u' l' es' last'/\aH (qp q v u) w w'/\∀g,qp q v' u' g->qp q v u g\/w.heap.size<=g
section
variable {w w1 w':World}{B q:Nat}{v u v1 u1:Value}{l l1 l':List Rc}{es es1 es':List aW}{last ai1 last':Int}
theorem dS.same (h:qh w B q v u l es last)(hb:Below w.heap.size w w'):dS w w' B q v u l es last:=⟨v,u,h.below hb,aH.aA hb,λ_ hg=>.inl hg⟩
theorem dS.seq (c1:aH (qp q v u) w w1)(o1:∀g,qp q v1 u1 g->qp q v u g\/w.heap.size<=g)(m:dS w1 w' B q v1 u1 l' es' last'):dS w w' B q v u l' es' last':=by
 obtain⟨v2,u2,s2,c2,o2⟩:=m;refine⟨v2,u2,s2,?_,λg hg=>?_⟩
 ·refine⟨c2.os.trans c1.os,c2.tape.trans c1.tape,c2.output.trans c1.output,aje c1.size c2.size,λk hk hn=>?_⟩;rw[c2.block k (by have:=c1.size;omega) (λz=>?_)]
  ·exact c1.block k hk hn
  ·rcases o1 k z with y|y
   ·exact hn y
   ·omega
 ·rcases o2 g hg with y|y
  ·exact o1 g y
  ·right;have:=c1.size;omega
theorem dS.behind (hb:Below w.heap.size w w1)(a:dS w1 w' B q v u l' es' last'):dS w w' B q v u l' es' last':=by
 obtain⟨v',u',s,c,o⟩:=a;refine⟨v',u',s,(aH.aA hb).trans c,λg hg=>?_⟩;rcases o g hg with y|y
 ·exact .inl y
 ·right;have:=hb.size;omega
theorem dS.Kr (h:qh w B q v u l es last)(hu:oK 1 w w' B q u es'):dS w w' B q v u l es' last:=by
 obtain⟨u',s,c,o⟩:=h.Kr hu;refine⟨v,u',s,c.mono (λk _ z=>?_),λg hg=>?_⟩
 ·rcases z with z|z
  ·exact .inl z
  ·exact .inr (.inr z)
 ·rcases hg with z|z|z
  ·exact .inl (.inl z)
  ·exact .inl (.inr (.inl z))
  ·rcases o g z with y|y
   ·exact .inl (.inr (.inr y))
   ·exact .inr y
theorem dS.store {v':Value}(h:qh w B q v u l es last)(hc:aH (λk=>v.ownBlock=some k) w w')(ha:aT w' B v' l')(hv:∀g,v'.ownBlock=some g->v.ownBlock=some g\/w.heap.size<=g):dS w (w'.setCell ⟨q,0,none⟩ v') B q v u l' es last:=by
 obtain⟨s,c⟩:=h.store hc ha hv;refine⟨v',u,s,c.mono (λk _ z=>?_),λg hg=>?_⟩
 ·rcases z with z|z
  ·exact .inl z
  ·exact .inr (.inl z)
 ·rcases hg with z|z|z
  ·exact .inl (.inl z)
  ·rcases hv g z with y|y
   ·exact .inl (.inr (.inl y))
   ·exact .inr y
  ·exact .inl (.inr (.inr z))
theorem dS.number (h:qh w B q v u l es last)(n:Int):dS w (w.setCell ⟨q,2,none⟩ (.int .i64 n)) B q v u l es n:=by
 obtain⟨s,c⟩:=h.number n;exact⟨v,u,s,c.mono (λk _ z=>.inl z),λg hg=>.inl hg⟩
end
def qM (w w':World)(B q:Nat)(v u:Value)(l:List Rc)(es':List aW)(last:Int):Prop:=∃u',qh w' B q v u' l es' last/\aH (pJ q u) w w'/\∀g,u'.ownBlock=some g->u.ownBlock=some g\/w.heap.size<=g
section
variable {w w1 w':World}{B q:Nat}{v u:Value}{l:List Rc}{es es':List aW}{last:Int}
theorem qM.behind (hb:Below w.heap.size w w1)(a:qM w1 w' B q v u l es' last):qM w w' B q v u l es' last:=by
 obtain⟨u',s,c,o⟩:=a;refine⟨u',s,(aH.aA hb).trans c,λg hg=>?_⟩;rcases o g hg with y|y
 ·exact .inl y
 ·right;have:=hb.size;omega
theorem qM.qp {u':Value}(c:aH (pJ q u) w w')(o:∀g,u'.ownBlock=some g->u.ownBlock=some g\/w.heap.size<=g):aH (qp q v u) w w'/\∀g,qp q v u' g->qp q v u g\/w.heap.size<=g:=by
 refine⟨c.mono (λk _ z=>?_),λg hg=>?_⟩
 ·rcases z with z|z
  ·exact .inl z
  ·exact .inr (.inr z)
 ·rcases hg with z|z|z
  ·exact .inl (.inl z)
  ·exact .inl (.inr (.inl z))
  ·rcases o g z with y|y
   ·exact .inl (.inr (.inr y))
   ·exact .inr y
end
def wJ (w:World)(B q:Nat)(F:Nat->Prop)(s:aJ):Prop:=∃v u es,qh w B q v u s.l es s.last/\nP s.l es/\F=qp q v u
theorem wJ.own {w:World}{B q:Nat}{F:Nat->Prop}{s:aJ}(h:wJ w B q F s):∀k,F k->B<=k/\k<w.heap.size:=by
 obtain⟨v,u,es,h1,_,rfl⟩:=h;exact h1.own
theorem wJ.bZ {w w':World}{B q:Nat}{F A:Nat->Prop}{s:aJ}(h:wJ w B q F s)(hc:aH A w w')(hn:∀k,F k->¬A k):wJ w' B q F s:=by
 obtain⟨v,u,es,h1,h2,rfl⟩:=h;exact⟨v,u,es,h1.bZ hc hn,h2,rfl⟩
theorem wJ.did {w w':World}{B q:Nat}{v u:Value}{s:aJ}{es:List aW}(h:dS w w' B q v u s.l es s.last)(hc:nP s.l es):tZ wJ w w' B q (qp q v u) s:=by
 obtain⟨v',u',s',c,o⟩:=h;exact⟨_,⟨v',u',es,s',hc,rfl⟩,c,o⟩
theorem JG (x:Int)(w:World) :
 Calls prog 166 #[.int .i64 x] w λe w'=>e=.returned (.bool false)/\w'=w:=by
 go_enter func166,ntmps166;go_wp2;go_ret;exact⟨iC (by simp),rfl⟩
def AP (x y:Int):Int:=if x<y then -1 else if y<x then 1 else 0
theorem ada (x y:Int)(w:World) :
 Calls prog 125 #[.int .i64 x,.int .i64 y] w λe w'=>e=.returned (.int .i64 (AP x y))/\w'=w:=by
 by_cases h1:x<y
 ·have Hr:=aj (show AP x y=-1 from if_pos h1);go_enter func125,ntmps125;go_wp2_with (first|(go_at_call 166;refine(JG _ _).mono ?_;rintro e w' ⟨rfl,rfl⟩));go_ret;exact⟨dH (ah Hr),rfl⟩
 ·by_cases h2:y<x
  ·have Hr:=aj (show AP x y=1 by unfold AP;rw[if_neg h1,if_pos h2]);go_enter func125,ntmps125;go_wp2_with (first|(go_at_call 166;refine(JG _ _).mono ?_;rintro e w' ⟨rfl,rfl⟩));go_ret;exact⟨dH (ah Hr),rfl⟩
  ·have Hr:=aj (show AP x y=0 by unfold AP;rw[if_neg h1,if_neg h2]);go_enter func125,ntmps125;go_wp2_with (first|(go_at_call 166;refine(JG _ _).mono ?_;rintro e w' ⟨rfl,rfl⟩));go_ret;exact⟨dH (ah Hr),rfl⟩
theorem JH (r:Rc)(n:Int)(w:World) :
 Calls prog 124 #[.agg #[.int .i64 r.k,.int .i64 r.q,.int .i64 r.t,.string r.s,.string r.h,.string r.d],.int .i64 n] w λe w'=>e=.returned (.int .i64 (AP r.q n))/\Below w.heap.size w w':=by
 go_enter func124,ntmps124;go_wp2_with fail;refine(ada _ n _).mono ?_;rintro e w1 ⟨rfl,rfl⟩;go_wp2_with fail;go_ret;exact⟨rfl,(ajb _ _).alloc (Xc _) _⟩
theorem Yx (x y:Int):AP x y<0↔x<y:=by
 unfold AP;split
 ·omega
 ·split<;>omega
theorem Yy (x y:Int):AP x y=0↔x=y:=by
 unfold AP;split
 ·omega
 ·split<;>omega
theorem TK (a:Option Addr)(cap:Nat)(l:List Rc)(n:Int)(w:World)(hsl:vk w a l)(hord:kD l)(je:l.length<=200) :
 Calls prog 123 #[.slice a l.length cap,.int .i64 n,.func (.func 124) #[] #[]] w λe w'=>e=.returned (.tuple #[.int .i64 (pq l n),.bool (seqB l n)])/\Below w.heap.size w w':=by
 have OJ:=aj hord;clear hord;go_enter func123,ntmps123;go_wp2;go_loopw [9,10] (λiv jv wr=>∃(i j:Nat),iv=.int .i64 i/\jv=.int .i64 j/\i<=j/\j<=l.length/\Hid (∀k,k<i->(rc l k).q<n)/\Hid (∀k,j<=k->k<l.length->n<=(rc l k).q)/\Hid (vk wr a l)/\Below w.heap.size w wr) (λiv jv _=>(intOf jv).toNat-(intOf iv).toNat)
 case atStart=>exact⟨0,l.length,rfl,rfl,ajm _,Xc _,aj (λk hk=>absurd hk (ajG k)),aj (λk h1 h2=>by omega),aj hsl,ajb _ _⟩
 case round =>
  obtain⟨i,j,rfl,rfl,hij,hj,hlo,hhi,hsl2,hb⟩:=hrel;by_cases hlt:i<j
  ·obtain⟨h,hh⟩:∃h:Nat,h=(i+j) / 2:=⟨_,rfl⟩;have hh1:i<=h/\h<j:=by omega
   obtain⟨g,o,rfl,s6⟩:=ah hsl2 h (by omega);have hmid:((i:Int)+(j:Int)) / 2=(h:Int):=by omega
   clear hh;have H:=aj (JH (rc l h) n wr);obtain⟨_,x0,x1,x2,x3,x4,x5⟩:=s6;by_cases he:(rc l h).q<n
   ·have hz:AP (rc l h).q n<0:=(Yx _ _).2 he;have He:=aj he;clear he;go_wp2_with fail;refine(ah H).mono ?_;rintro e w1 ⟨rfl,hb1⟩;clear x0 x1 x2 x3 x4 x5;go_wp2_with fail;refine⟨⟨h+1,j,by go_num,rfl,by omega,hj,aj (λk hk=>?_),hhi,aj ((ah hsl2).below hb1),ak hb hb1⟩,?_⟩
    ·rcases ajR.1 hk with q|q
     ·have:=xH (ah OJ) q (by omega);have:=ah He;omega
     ·rw[q];exact ah He
    ·simp[intOf];omega
   ·have hz:¬AP (rc l h).q n<0:=λz=>he ((Yx _ _).1 z)
    have He:=aj he;clear he;go_wp2_with fail;refine(ah H).mono ?_;rintro e w1 ⟨rfl,hb1⟩;clear x0 x1 x2 x3 x4 x5;go_wp2_with fail;refine⟨⟨i,h,rfl,rfl,by omega,by omega,hlo,aj (λk hk hk2=>?_),aj ((ah hsl2).below hb1),ak hb hb1⟩,?_⟩
    ·have:=ah He;rcases akA hk with q|q
     ·rw[<-q];omega
     ·have:=xH (ah OJ) q hk2;omega
    ·simp[intOf];omega
  ·obtain rfl:i=j:=by omega
   have hpl:=agw (n:=n) hj (ah hlo) (ah hhi);by_cases hl:i<l.length
   ·obtain⟨g,o,rfl,s6⟩:=ah hsl2 i (by omega);have H:=aj (JH (rc l i) n wr);obtain⟨_,x0,x1,x2,x3,x4,x5⟩:=s6;have hha:=acB (ah OJ) (n:=n) (by rw[<-hpl];exact hl);rw[<-hpl] at hha;have Hha:=aj hha;have Hpl:=aj hpl;clear hpl hha;go_wp2_with fail;refine(ah H).mono ?_;rintro e w1 ⟨rfl,hb1⟩;clear x0 x1 x2 x3 x4 x5;go_wp2_with fail;go_ret2;refine⟨G7 ?_ ?_,ak hb hb1⟩
    ·rw[<-ah Hpl]
    ·rw[ah Hha];by_cases z:(rc l i).q=n
     ·rw[ajg z,(Yy _ _).2 z];rfl
     ·have:¬AP (rc l i).q n=0:=λy=>z ((Yy _ _).1 y)
      rw[ajd z];simp[this]
   ·have Hpl:=aj hpl;have Hs:=aj (afn (ah OJ) (n:=n) (by rw[<-hpl];exact hl));clear hpl;go_wp2_with fail;go_ret2;refine⟨G7 ?_ ?_,hb⟩
    ·rw[<-ah Hpl]
    ·exact ah Hs
theorem pW {w:World}{B q:Nat}{v u:Value}{l:List Rc}{es:List aW}{last:Int}(n:Int)(h:qh w B q v u l es last)(hr:kD l)(je:l.length<=200) :
 Calls prog 87 #[.pointer (some ⟨q,0,none⟩),.int .i64 n] w λe w'=>e=.returned (.tuple #[.int .i64 (pq l n),.bool (seqB l n)])/\Below w.heap.size w w':=by
 obtain⟨a,cap,rfl,_,_,hsl⟩:=h.msgs.shape;have hc:=h.c0;go_enter func87,ntmps87;go_wp2_with fail;refine(TK a cap l n _ hsl hr je).mono ?_;rintro e w1 ⟨rfl,hb⟩;go_wp2_with fail;go_ret2;exact⟨rfl,hb⟩
end Dk
namespace Dk
open Go.Deep
theorem Nc:∀(es:List Rc) (k:Nat),aN (es.take k)=(aN es).take (k*6)
 | [],k=>by simp[aN]
 | e::r,0=>by simp[aN]
 | e::r,k+1=>by rw[show(k+1)*6=k*6+1+1+1+1+1+1 by omega];simp[aN,Nc r k]
theorem Ce:∀(es:List Rc) (k:Nat),aN (es.drop k)=(aN es).drop (k*6)
 | [],k=>by simp[aN]
 | e::r,0=>by simp[aN]
 | e::r,k+1=>by rw[show(k+1)*6=k*6+1+1+1+1+1+1 by omega];simp[aN,Ce r k]
theorem aT.there {w:World}{B:Nat}{v:Value}{es:List Rc}(h:aT w B v es)(hn:0<es.length):∃g cap,v=.slice (some ⟨g,0,none⟩) es.length cap/\es.length<=cap/\cap<=maxLen/\B<=g/\g<w.heap.size:=by
 rcases h.2 with ⟨h1,h2⟩|⟨g,cap,cur,h1,h2,h3,h4,h5,h6,h7⟩
 ·omega
 ·exact⟨g,cap,h1,h4,h5,h.lt g (by rw[h1];rfl)⟩
theorem aT.cell {w:World}{B g cap:Nat}{es:List Rc}(h:aT w B (.slice (some ⟨g,0,none⟩) es.length cap) es)(j:Nat)(u:Value)(hj:(aN es)[j]?=some u):w.cell? ⟨g,j,none⟩=some u:=by
 have hl:j<es.length*6:=by
  rw[<-eG];rcases ald j (aN es).length with q|q
  ·exact q
  ·rw[alM q] at hj;cases hj
 rw[ajH h _ hl];exact hj
def zsR:List Value:=[.int .i64 0,.int .i64 0,.int .i64 0,.string ByteArray.empty,.string ByteArray.empty,.string ByteArray.empty]
theorem KP (w:World)(ty:TypeId)(b o c:Nat)
 (hc:∀j,j<6->(w.cell? ⟨b,o+j,none⟩).isSome=true) (hf:∀j,j<6->w.frozen? ⟨b,o+j,none⟩=false) :
 (Builtin.clear_ #[39] ty #[.slice (some ⟨b,o,none⟩) 1 c]).run prog w=.ok (.tuple #[]) (w.setCells b o zsR):=by
 have hzc:(Builtin.zeroCells (Value.agg #[.int .i64 0,.int .i64 0,.int .i64 0,.string ⟨#[]⟩,.string ⟨#[]⟩,.string ⟨#[]⟩]).cells 1).toList=zsR:=by kernel_rfl
 have hst:=alA (P:=prog) b o zsR 0 w (by simpa[zsR] using hc) (by simpa[zsR] using hf) (by intro v hv';simp only[zsR,ajT,List.not_mem_nil,or_false] at hv';rcases hv' with q|q|q|q|q|q<;>(subst q;rfl));simp only[ale] at hst;simp[Builtin.clear_,run_underlying underlying39,Tryz.zeroValue73,hzc,hst]
theorem WC (B g c i m:Nat)(es:List Rc)(w:World)(hn:es.length=i+1+m)(ha:aT w B (.slice (some ⟨g,0,none⟩) (i+1+m) c) es)(dK:es.length<=200)(hc:i+1+m<=c) :
 Calls prog 189 #[.slice (some ⟨g,0,none⟩) (i+1+m) c,.int .i64 i,.int .i64 (i+1)] w λe w' =>
  e=.returned (.slice (some ⟨g,0,none⟩) (i+m) c)/\w'=(w.drew.setCells g (0+i*6) ((aN es).drop ((i+1)*6))).setCells g ((i+m)*6) zsR:=by
 obtain⟨i0,hi0,hz0,hz1,hz2⟩:=akJ QC;obtain⟨news,hnews⟩:∃news,news=(aN es).drop ((i+1)*6):=⟨_,rfl⟩;have hlen:news.length=m*6:=by rw[hnews,ajp,eG,hn];omega
 obtain⟨cur,hg,hcs⟩:∃cur,w.heap[g]?=some (.cells cur 73 (0,0))/\cur.size=c*6:=by
  rcases ha.2 with ⟨q,_⟩|⟨g',cap',cur,q,h2,h3,h4,h5,h6,h7⟩
  ·cases q
  ·simp only[akM,ajX,alK,ama] at q;obtain⟨rfl,_,rfl⟩:=q;exact⟨cur,h3,h6⟩
 have hsp:∀j,j<c*6->(w.cell? ⟨g,j,none⟩).isSome=true:=by
  intro j hj;rw[ajY w g j _ _ _ hg,akE (by omega)];rfl
 have hfz:∀j,w.frozen? ⟨g,j,none⟩=false:=λj=>akR w g j _ _ hg
 have hcell:∀j u,(aN es)[j]?=some u->w.cell? ⟨g,j,none⟩=some u:=by
  intro j u hj;rw[<-hn] at ha;exact ha.cell j u hj
 obtain⟨A,hA,hsrc⟩:∃A:Addr,(if c=i+1 then some (⟨g,0,none⟩:Addr) else some ⟨g,(i+1)*6,none⟩)=some A/\Hid (∀t u,news[t]?=some u->w.drew.cell? (A.add t)=some u):=by
  by_cases h:c=i+1
  ·refine⟨⟨g,0,none⟩,by simp[h],λt u hu=>?_⟩;have h0:news.length=0:=by rw[hlen];omega
   rw[ajK.1 h0] at hu;simp at hu
  ·refine⟨⟨g,(i+1)*6,none⟩,by simp[h],λt u hu=>?_⟩;rw[akp];refine hcell _ u ?_;rw[hnews,ako] at hu;exact hu
 have s1:=aj hlen;have s2:Hid (∀u∈news,u.oneCell'=true):=by
  intro u hu;rw[hnews] at hu;exact qZ es u (akm hu)
 have s3:Hid (∀t,t<news.length->(w.drew.cell? ⟨g,0+i*6+t,none⟩).isSome=true/\w.drew.frozen? ⟨g,0+i*6+t,none⟩=false):=by
  intro t ht;rw[hlen] at ht;exact⟨hsp _ (by omega),hfz _⟩
 obtain⟨W1,hW1⟩:∃W1,W1=w.drew.setCells g (0+i*6) news:=⟨_,rfl⟩;have hcl:∀ty c',(Builtin.clear_ #[39] ty #[.slice (some ⟨g,(i+m)*6,none⟩) 1 c']).run prog W1=.ok (.tuple #[]) (W1.setCells g ((i+m)*6) zsR):=λty c' =>
  KP W1 ty g ((i+m)*6) c' (λj hj=>by
   rw[hW1];exact isSome_setCells g news (0+i*6) w.drew (λt ht=>hsp _ (by rw[hlen] at ht;omega)) _ (hsp _ (by omega)))
   (λj hj=>by rw[hW1,akx];exact hfz _)
 have hW:Hid (W1=w.drew.setCells g (0+i*6) news):=hW1;rw[<-hnews];clear hW1 hsp hfz hcell hg ha hnews hlen hz0 hz2;have hic:i<=c:=by omega
 have hjc:i+1<=c:=by omega
 have b1:(0:Int)<=(i:Int)+1:=by omega
 have b2:(i:Int)+1<=(i:Int)+1+(m:Int):=by omega
 have q1:¬(c=i+m):=by omega
 have q2:i+1+m-(i+m)=1:=by omega
 go_enter func189,ntmps189;go_wp2_with fail;go_region_law (refine step_append_room rfl (.tmp 22) (.tmp 25) 39 rfl 73 i0 6 underlying39 hi0 hz1 g 0 i c (by simp[Act.eval,Act.put]) A m (c-(i+1)) news (by simp[Act.eval,Act.put]) s1.out hsrc.out s2.out (by omega) s3.out ?_;rw[<-hW.out])
 go_wp2;go_ret;exact⟨rfl,by rw[hW.out]⟩
theorem aak (es:List Rc)(i m:Nat)(hn:es.length=i+1+m) :
 ((((aN es).take (i*6)++(aN es).drop ((i+1)*6)++(aN es).drop (i*6+((aN es).drop ((i+1)*6)).length)).take ((i+m)*6)++zsR++((aN es).take (i*6)++(aN es).drop ((i+1)*6)++(aN es).drop (i*6+((aN es).drop ((i+1)*6)).length)).drop ((i+m)*6+zsR.length)).take ((i+m)*6))=aN (KD es i):=by
 have hcl:(aN es).length=(i+1+m)*6:=by rw[eG,hn]
 have h1:((aN es).take (i*6)++(aN es).drop ((i+1)*6)).length=(i+m)*6:=by rw[ajh,ajn,ajp,hcl];omega
 have h2:((aN es).take (i*6)++(aN es).drop ((i+1)*6)++(aN es).drop (i*6+((aN es).drop ((i+1)*6)).length)).take ((i+m)*6)=(aN es).take (i*6)++(aN es).drop ((i+1)*6):=by
  rw[ajE (by omega),ajs (by omega)]
 rw[h2,ajW ((aN es).take (i*6)++(aN es).drop ((i+1)*6)),ajE (by omega),ajs (by omega)];unfold KD;rw[qA,Nc,Ce]
theorem TL (B:Nat)(v:Value)(es:List Rc)(i:Nat)(w:World)(ha:aT w B v es)(hi:i<es.length)(dK:es.length<=200) :
 Calls prog 189 #[v,.int .i64 i,.int .i64 (i+1)] w λe w'=>∃v',e=.returned v'/\aT w' B v' (KD es i)/\aH (λk=>v.ownBlock=some k) w w'/\∀g,v'.ownBlock=some g->v.ownBlock=some g\/w.heap.size<=g:=by
 obtain⟨g,cap,rfl,c1,c2,c3,c4⟩:=ha.there (by omega);obtain⟨m,hn⟩:∃m,es.length=i+1+m:=⟨es.length-(i+1),by omega⟩;rw[hn] at ha c1 ⊢;refine(WC B g cap i m es w hn ha dK c1).mono ?_;rintro e w' ⟨rfl,rfl⟩;refine⟨_,rfl,?_,?_,λg' hg'=>.inl hg'⟩
 ·have o0:w.drew.ownsRow B 73 6 (.slice (some ⟨g,0,none⟩) (i+1+m) cap) (i+1+m) (aN es):=by
   unfold aT at ha;rw[hn] at ha;exact ha
  have hcl:(aN es).length=(i+1+m)*6:=by rw[eG,hn]
  have hdl:((aN es).drop ((i+1)*6)).length=m*6:=by rw[ajp,hcl];omega
  have o1:=fC ((aN es).drop ((i+1)*6)) (i*6) _ _ o0 (by rw[hcl,hdl];omega);have o2:=fC zsR ((i+m)*6) _ _ o1 (by
   simp only[ajh,ajn,ajp,hcl,show zsR.length=6 from rfl];omega)
  have o3:=wI (k:=i+m) o2 (by omega);rw[aak es i m hn] at o3;unfold aT;rw[RV hi,hn,show i+1+m-1=i+m by omega,ajv];exact o3
 ·have c:aH (λk=>k=g) w w.drew:=⟨rfl,rfl,rfl,Xc _,λ_ _ _=>rfl⟩;exact((c.trans (ac9 (fD _ _ _))).trans (ac9 (fD _ _ _))).mono (λk _ hk=>by rw[hk];rfl)
end Dk
namespace Dk
theorem aT.src {w:World}{B:Nat}{v:Value}{l:List Rc}(h:aT w B v l):Src prog 6 39 v l.length (aN l) w:=by
 rcases h.2 with ⟨h1,h2⟩|⟨g,cap,cur,h1,h2,h3,h4,h5,h6,h7⟩
 ·have:l=[]:=ajK.1 h2;subst this;rw[h1];exact Src.ofNil w underlying39 0
 ·rw[h1] at h ⊢;exact Src.ofSlice w underlying39 ⟨g,0,none⟩ l.length cap (aN l) (eG l) (akU h (g:=g) rfl) (qZ l)
theorem AQ (w:World)(ty:TypeId)(b o dLen dCap:Nat)(x:Value)(m:Nat)(news:List Value)(hs:Src prog 6 39 x m news w)(hm:m<=dLen)
 (hc:∀j,j<news.length->(w.cell? ⟨b,o+j,none⟩).isSome=true) (hf:∀j,j<news.length->w.frozen? ⟨b,o+j,none⟩=false) :
 (Builtin.copy_ #[39,39] ty #[.slice (some ⟨b,o,none⟩) dLen dCap,x]).run prog w=.ok (goInt m) (w.setCells b o news):=by
 have hst:=alA (P:=prog) b o news 0 w (by simpa using hc) (by simpa using hf) hs.one;simp only[ale] at hst;obtain⟨i0,hi,hz0,hz1,hz2⟩:=akJ QC;have hmin:Nat.min m dLen=m:=amE hm;simp[Builtin.copy_,run_underlying underlying39,sizeOf,typeInfo,hi,hz1,hs.len,hmin,hs.cells,hst]
def adb:Array Value:=(Value.agg #[.int .i64 0,.int .i64 0,.int .i64 0,.string ⟨#[]⟩,.string ⟨#[]⟩,.string ⟨#[]⟩]).cells
theorem Nh:adb=#[.int .i64 0,.int .i64 0,.int .i64 0,.string ⟨#[]⟩,.string ⟨#[]⟩,.string ⟨#[]⟩]:=by kernel_rfl
def jO (n:Nat):List Value:=(Builtin.zeroCells adb n).toList
theorem ji (n:Nat):(jO n).length=n*6:=by
 unfold jO Builtin.zeroCells;rw[Nh];simp
theorem WE (n:Nat):∀v∈jO n,v.oneCell'=true:=by
 intro v h;unfold jO Builtin.zeroCells at h;rw[Nh] at h;simp only[Array.toList_map,alP] at h;obtain⟨i,_,rfl⟩:=h;have hi:i % 6<6:=anm _ (by decide);have e:∀j,j<6->((#[.int .i64 0,.int .i64 0,.int .i64 0,.string ⟨#[]⟩,.string ⟨#[]⟩,.string ⟨#[]⟩]:Array Value)[j]!).oneCell'=true:=by decide +kernel
 exact e _ hi
theorem yx (w:World)(ty:TypeId)(b o n c:Nat)(hn:0<n)
 (hc:∀j,j<n*6->(w.cell? ⟨b,o+j,none⟩).isSome=true) (hf:∀j,j<n*6->w.frozen? ⟨b,o+j,none⟩=false) :
 (Builtin.clear_ #[39] ty #[.slice (some ⟨b,o,none⟩) n c]).run prog w=.ok (.tuple #[]) (w.setCells b o (jO n)):=by
 obtain⟨m,rfl⟩:∃m,n=m+1:=⟨n-1,by omega⟩;have hst:=alA (P:=prog) b o (jO (m+1)) 0 w (by rw[ji];simpa using hc) (by rw[ji];simpa using hf) (WE _);simp only[ale] at hst;have hz:(Builtin.zeroCells (Value.agg #[.int .i64 0,.int .i64 0,.int .i64 0,.string ⟨#[]⟩,.string ⟨#[]⟩,.string ⟨#[]⟩]).cells (m+1)).toList=jO (m+1):=rfl;simp[Builtin.clear_,run_underlying underlying39,Tryz.zeroValue73,hz,hst]
theorem yA (w:World)(ty:TypeId)(a:Option Addr)(c:Nat) :
 (Builtin.clear_ #[39] ty #[.slice a 0 c]).run prog w=.ok (.tuple #[]) w:=by
 cases a<;>simp[Builtin.clear_,run_underlying underlying39]
theorem aal (xs a d z:List Value) :
 let y1:=xs.take 0++a++xs.drop (0+a.length)
 let y2:=y1.take a.length++d++y1.drop (a.length+d.length)
 let y3:=y2.take (a.length+d.length)++z++y2.drop (a.length+d.length+z.length)
 y3.take (a.length+d.length)=a++d:=by
 intro y1 y2 y3;have e1:y1.take a.length=a:=by
  show(xs.take 0++a++xs.drop (0+a.length)).take a.length=a;rw[List.take_zero,akh,ajE (Xc _),ajN]
 have e2:y2.take (a.length+d.length)=a++d:=by
  show(y1.take a.length++d++y1.drop (a.length+d.length)).take (a.length+d.length)=a++d;rw[e1,ajE (by rw[ajh];omega),ajs (by rw[ajh];omega)]
 show(y2.take (a.length+d.length)++z++y2.drop (a.length+d.length+z.length)).take (a.length+d.length)=a++d;rw[e2,ajW,ajE (by rw[ajh];omega),ajs (by rw[ajh];omega)]
theorem O6 {w:World}{B g cap p:Nat}{l A:List Rc}(ha:aT w B (.slice (some ⟨g,0,none⟩) l.length cap) l)(hA:A.length<=p)(hp:p<=l.length){w3:World}
 (h3:w3=((w.setCells g 0 (aN A)).setCells g (A.length*6) ((aN l).drop (p*6))).setCells g ((A.length+(l.length-p))*6) (jO (p-A.length))) :
 aT w3 B (.slice (some ⟨g,0,none⟩) (A++l.drop p).length cap) (A++l.drop p)/\aH (λk=>k=g) w w3:=by
 have hxs:=eG l;have hla:=eG A;have hld:((aN l).drop (p*6)).length=(l.length-p)*6:=by rw[ajp,hxs];omega
 have hlz:=ji (p-A.length);refine⟨?_,by rw[h3];exact ac9 (((fD _ _ _).trans (fD _ _ _)).trans (fD _ _ _))⟩;have o1:=fC (aN A) 0 _ _ ha (by rw[hla,hxs];omega);have o2:=fC ((aN l).drop (p*6)) (aN A).length _ _ o1 (by simp only[ajh,ajn,ajp,hxs,hla];omega);have o3:=fC (jO (p-A.length)) ((aN A).length+((aN l).drop (p*6)).length) _ _ o2 (by simp only[ajh,ajn,ajp,hxs,hla,hlz];omega);have o4:=wI (k:=A.length+(l.length-p)) o3 (by omega);have e:=aal (aN l) (aN A) ((aN l).drop (p*6)) (jO (p-A.length))
 have ek:(A.length+(l.length-p))*6=(aN A).length+((aN l).drop (p*6)).length:=by rw[hla,hld];omega
 rw[<-ek] at o4 e;dsimp only at e;have hlen:(A++l.drop p).length=A.length+(l.length-p):=by rw[ajh,ajp]
 unfold aT;rw[hlen,qA,Ce,h3];rw[hla] at o4 e;rw[e] at o4;exact o4
theorem TM (a:Option Addr)(n cap:Nat)(a2:Option Addr)(c2:Nat)(w:World) :
 Calls prog 219 #[.slice a n cap,.int .i64 0,.slice a2 0 c2] w λe w'=>e=.returned (.slice a n cap)/\w'=w:=by
 go_enter func219,ntmps219;go_wp2_with fail;go_ret;exact⟨rfl,rfl⟩
theorem O7 (a:Option Addr)(n cap:Nat)(a2:Option Addr)(c2:Nat)(w:World) :
 Calls prog 190 #[.slice a n cap,.int .i64 0,.int .i64 0,.slice a2 0 c2] w λe w'=>e=.returned (.slice a n cap)/\w'=w:=by
 go_enter func190,ntmps190;go_wp2_with fail;refine(TM a n cap a2 c2 _).mono ?_;rintro e w1 ⟨rfl,rfl⟩;go_wp2_with fail;go_ret;exact⟨rfl,rfl⟩
theorem O8 (g n cap:Nat)(a2:Option Addr)(c2:Nat)(w W1:World)(hn:n<=200)(hc:n<=cap)(h0:0<n)
 (hr:∀ty,(Builtin.append_ #[39,39] ty #[.slice (some ⟨g,0,none⟩) 0 cap,.slice a2 n c2]).run prog w=.ok (.slice (some ⟨g,0,none⟩) n cap) W1) :
 Calls prog 190 #[.slice (some ⟨g,0,none⟩) n cap,.int .i64 0,.int .i64 n,.slice a2 n c2] w λe w'=>e=.returned (.slice (some ⟨g,0,none⟩) n cap)/\w'=W1:=by
 have e0:((0:Int)==(n:Int))=false:=by simp;omega
 go_enter func190,ntmps190;go_wp2_with (at_builtin;refine ajy _ rfl _ _ _ _ rfl _ _ rfl rfl _ _ (hr _) ?_);go_ret;exact⟨rfl,rfl⟩
theorem TN (g m d cap:Nat)(a2:Option Addr)(c2:Nat)(w W1 W2:World)(hn:m+d<=200)(hc:m+d<=cap)(h0:0<d)
 (hr:∀ty,(Builtin.append_ #[39,39] ty #[.slice (some ⟨g,0,none⟩) 0 cap,.slice a2 m c2]).run prog w=.ok (.slice (some ⟨g,0,none⟩) m cap) W1)
 (hcl:∀ty c,(Builtin.clear_ #[39] ty #[.slice (some ⟨g,m*6,none⟩) d c]).run prog W1=.ok (.tuple #[]) W2) :
 Calls prog 190 #[.slice (some ⟨g,0,none⟩) (m+d) cap,.int .i64 0,.int .i64 (m+d),.slice a2 m c2] w λe w'=>e=.returned (.slice (some ⟨g,0,none⟩) m cap)/\w'=W2:=by
 have e0:((0:Int)==(m:Int)+(d:Int))=false:=by simp;omega
 have e1:¬cap=m:=by omega
 have e2:m+d-m=d:=by omega
 have e3:(m:Int)<(m:Int)+(d:Int):=by omega
 have e4:(0:Int)<=(m:Int)+(d:Int):=by omega
 have e5:m<=cap:=by omega
 have e6:((m:Int)+(d:Int)).toNat=m+d:=by omega
 go_enter func190,ntmps190;go_wp2_with (at_builtin;refine ajy _ rfl _ _ _ _ rfl _ _ rfl rfl _ _ (hr _) ?_);go_ret;exact⟨rfl,rfl⟩
theorem O9 (g m p d cap:Nat)(a2:Option Addr)(c2:Nat)(w:World)(W1 W2 W3:Nat->World)(hn:p+d<=200)(hc:p+d<=cap)(h0:0<d)(hm:m<=p)(hp:0<p)
 (hc1:∀k ty,(Builtin.copy_ #[39,39] ty #[.slice (some ⟨g,0,none⟩) (m+d) cap,.slice a2 m c2]).run prog (w.drewN k)=.ok (goInt m) (W1 k))
 (hc2:∀k ty c c',(Builtin.copy_ #[39,39] ty #[.slice (some ⟨g,m*6,none⟩) d c,.slice (some ⟨g,p*6,none⟩) d c']).run prog (W1 k).drew=.ok (goInt d) (W2 k))
 (ade:p=m->∀k ty c A,(Builtin.clear_ #[39] ty #[.slice (some A) (p+d-(m+d)) c]).run prog (W2 k)=.ok (.tuple #[]) (W3 k))
 (adf:∀k ty c,(Builtin.clear_ #[39] ty #[.slice (some ⟨g,(m+d)*6,none⟩) (p+d-(m+d)) c]).run prog (W2 k)=.ok (.tuple #[]) (W3 k)) :
 Calls prog 190 #[.slice (some ⟨g,0,none⟩) (p+d) cap,.int .i64 0,.int .i64 p,.slice a2 m c2] w λe w'=>e=.returned (.slice (some ⟨g,0,none⟩) (m+d) cap)/\∃k,w'=W3 k:=by
 have e0:((0:Int)==(p:Int))=false:=by simp;omega
 have e1:¬cap=m:=by omega
 have e2:¬cap=p:=by omega
 have e3:p+d-p=d:=by omega
 have e4:((p:Int)==(p:Int)+(d:Int))=false:=by simp;omega
 have e5:¬(cap:Int)<(m:Int)+(d:Int):=by omega
 have e6:(m:Int)<=(p:Int):=by omega
 have e7:((m:Int)+(d:Int)).toNat=m+d:=by omega
 have e8:m+d-m=d:=by omega
 have e9:¬cap=0:=by omega
 have hw:IntKind.i64.wrap (m:Int)=(m:Int):=by rw[ajq];omega
 have ea:(m:Int)<=(m:Int)+(d:Int):=by omega
 have eb:(p:Int)<=(p:Int)+(d:Int):=by omega
 by_cases q:p=m
 ·have hcl:=ade q;clear ade adf q;go_enter func190,ntmps190;go_wp2_with fail;go_quiet (fail)
  go_wp2_with fail;go_region_law (refine step_copy_runI rfl _ _ 39 39 rfl (.slice (some ⟨g,m*6,none⟩) d (cap-m)) (.slice (some ⟨g,p*6,none⟩) d (cap-p)) (by simp[Act.eval,Act.put]) (by simp[Act.eval,Act.put]) (hc2 nq _ _ _) ?_)
  all_goals go_wp2_with fail
  all_goals go_ret
  all_goals first|exact⟨rfl,_,rfl⟩|exact⟨by first|(rw[‹cap=m+d›];rfl)|simp[*],_,rfl⟩
 ·have hcl:=adf;have ec:¬cap=m+d:=by omega
  clear ade adf q;go_enter func190,ntmps190;go_wp2_with fail;go_quiet (fail)
  go_wp2_with fail;go_region_law (refine step_copy_runI rfl _ _ 39 39 rfl (.slice (some ⟨g,m*6,none⟩) d (cap-m)) (.slice (some ⟨g,p*6,none⟩) d (cap-p)) (by simp[Act.eval,Act.put]) (by simp[Act.eval,Act.put]) (hc2 nq _ _ _) ?_)
  all_goals go_wp2_with fail
  all_goals go_ret
  all_goals first|exact⟨rfl,_,rfl⟩|exact⟨by first|(rw[‹cap=m+d›];rfl)|simp[*],_,rfl⟩
theorem sJ {g:Nat}:∀(vs:List Value) (o:Nat) (w:World),(w.setCells g o vs).drew=w.drew.setCells g o vs
 | [],_,_=>rfl
 | v::r,o,w=>by
  rw[World.setCells,World.setCells,sJ r (o+1)];rfl
theorem Ci {w:World}{g N:Nat}(h:∀j,j<N->(w.cell? ⟨g,j,none⟩).isSome=true)(vs:List Value)(o:Nat)(hv:o+vs.length<=N):∀j,j<N->((w.setCells g o vs).cell? ⟨g,j,none⟩).isSome=true:=λj hj =>
 isSome_setCells g vs o w (λt ht=>h _ (by omega)) _ (h j hj)
theorem TP {w:World}{B B2 p:Nat}{v sv:Value}{l A:List Rc}(ha:aT w B v l)(hs:aT w B2 sv A)(hA:A.length<=p)(hp:p<=l.length)(je:l.length<=200)(hne:∀g,v.ownBlock=some g->sv.ownBlock≠some g) :
 Calls prog 190 #[v,.int .i64 0,.int .i64 p,sv] w λe w'=>∃v',e=.returned v'/\aT w' B v' (A++l.drop p)/\aH (λk=>v.ownBlock=some k) w w'/\∀g,v'.ownBlock=some g->v.ownBlock=some g\/w.heap.size<=g:=by
 obtain⟨a2,c2,rfl,_⟩:=hs.shape;rcases als p with h0|h0
 ·subst h0;have hA0:A=[]:=ajK.1 (by omega);subst hA0;obtain⟨a,cap,rfl,_⟩:=ha.shape;refine(O7 a l.length cap a2 c2 w).mono ?_;rintro e w' ⟨rfl,rfl⟩;exact⟨_,rfl,ha,aH.refl _ _,λg hg=>.inl hg⟩
 ·obtain⟨g,cap,rfl,c1,c2',c3,c4⟩:=ha.there (by omega);obtain⟨cur,hg,hcs⟩:∃cur,w.heap[g]?=some (.cells cur 73 (0,0))/\cur.size=cap*6:=by
   rcases ha.2 with ⟨q,_⟩|⟨g',cap',cur,q,h2,h3,h4,h5,h6,h7⟩
   ·cases q
   ·simp only[akM,ajX,alK,ama] at q;obtain⟨rfl,_,rfl⟩:=q;exact⟨cur,h3,h6⟩
  have hsp:∀j,j<cap*6->(w.cell? ⟨g,j,none⟩).isSome=true:=λj hj=>by
   rw[ajY w g j _ _ _ hg,akE (by omega)];rfl
  have hfz:∀j,w.frozen? ⟨g,j,none⟩=false:=λj=>akR w g j _ _ hg
  obtain⟨i0,hi0,hz0,hz1,hz2⟩:=akJ QC;have hla:=eG A;have hlz:=ji (p-A.length);have hld:((aN l).drop (p*6)).length=(l.length-p)*6:=by rw[ajp,eG];omega
  have hap:∀X:World,Src prog 6 39 (.slice a2 A.length c2) A.length (aN A) X->(∀j,j<cap*6->(X.cell? ⟨g,j,none⟩).isSome=true)->(∀j,X.frozen? ⟨g,j,none⟩=false)->∀ty,(Builtin.append_ #[39,39] ty #[.slice (some ⟨g,0,none⟩) 0 cap,.slice a2 A.length c2]).run prog X=.ok (.slice (some ⟨g,0,none⟩) A.length cap) (X.setCells g 0 (aN A)):=λX hX h1 h2 ty=>by
   have:=run_append_room_src (P:=prog) X 39 39 ty 73 i0 underlying39 hi0 g 0 0 cap (.slice a2 A.length c2) A.length (aN A) (by rw[hz1];exact hX) (by omega) (λj hj=>by rw[hla] at hj;exact h1 _ (by omega)) (λj _=>h2 _);simpa using this
  rcases akA hp with hpl|hpl
  ·have hd0:(aN l).drop (p*6)=[]:=ajK.1 (by rw[hld];omega);rcases akA hA with hAl|hAl
   ·have hz:jO (p-A.length)=[]:=ajK.1 (by rw[hlz];omega);have e3:=O6 (A:=A) (p:=p) ha hA hp (w3:=w.setCells g 0 (aN A)) (by rw[hd0,hz];rfl);have hr:=hap w hs.src hsp hfz;rw[show A.length=l.length by omega] at hr ⊢;rw[show p=l.length by omega] at e3 ⊢;refine(O8 g l.length cap a2 c2 w _ je c1 (by omega) hr).mono ?_;rintro e w' ⟨rfl,rfl⟩;refine⟨_,rfl,?_,e3.2.mono (λk _ z=>by rw[z];rfl),λg' hg'=>.inl hg'⟩;have:=e3.1;rw[show(A++l.drop l.length).length=l.length by simp;omega] at this;exact this
   ·obtain⟨d,hd⟩:∃d,l.length=A.length+d:=⟨l.length-A.length,by omega⟩;have hzd:p-A.length=d:=by omega
    have e3:=O6 (A:=A) (p:=p) ha hA hp (w3:=(w.setCells g 0 (aN A)).setCells g (A.length*6) (jO d)) (by rw[hd0,hzd,show(A.length+(l.length-p))*6=A.length*6 by omega];rfl);have hr:=hap w hs.src hsp hfz;have hcl:∀ty c,(Builtin.clear_ #[39] ty #[.slice (some ⟨g,A.length*6,none⟩) d c]).run prog (w.setCells g 0 (aN A))=.ok (.tuple #[]) ((w.setCells g 0 (aN A)).setCells g (A.length*6) (jO d)):=λty c =>
     yx _ ty g (A.length*6) d c (by omega) (λj hj=>Ci hsp _ _ (by rw[hla];omega) _ (by omega)) (λj _=>by rw[akx];exact hfz _)
    have hpe:(p:Int)=(A.length:Int)+(d:Int):=by omega
    rw[hd,hpe];refine(TN g A.length d cap a2 c2 w _ _ (by omega) (by omega) (by omega) hr hcl).mono ?_;rintro e w' ⟨rfl,rfl⟩;refine⟨_,rfl,?_,e3.2.mono (λk _ z=>by rw[z];rfl),λg' hg'=>.inl hg'⟩;have:=e3.1;rw[show(A++l.drop p).length=A.length by simp;omega] at this;exact this
  ·obtain⟨d,hd⟩:∃d,l.length=p+d:=⟨l.length-p,by omega⟩;have hle:((aN l).drop (p*6)).length=d*6:=by rw[hld];omega
   have hbk:∀k,Below w.heap.size w (w.drewN k):=λk=>below_drewN (ajb _ _) k
   have e3:∀k,aT _ B (.slice (some ⟨g,0,none⟩) (A++l.drop p).length cap) (A++l.drop p)/\aH (λk=>k=g) (w.drewN k).drew _:=λk=>O6 (A:=A) (p:=p) ((ha.below (hbk k)).below (ajb _ _).drew) hA hp rfl
   have hsp1:∀k,∀j,j<cap*6->((((w.drewN k).setCells g 0 (aN A)).drew).cell? ⟨g,j,none⟩).isSome=true:=λk j hj=>by
    rw[sJ];exact Ci (w:=(w.drewN k).drew) (λi hi=>hsp i hi) _ _ (by rw[hla];omega) j hj
   have hfz1:∀k j,(((w.drewN k).setCells g 0 (aN A)).drew).frozen? ⟨g,j,none⟩=false:=λk j=>by
    rw[sJ,akx];exact hfz j
   have ahX:∀k c,Src prog 6 39 (.slice (some ⟨g,p*6,none⟩) d c) d ((aN l).drop (p*6)) (((w.drewN k).setCells g 0 (aN A)).drew):=λk c=>by
    refine Src.ofSlice _ underlying39 ⟨g,p*6,none⟩ d c _ hle (λj u hu=>?_) (λu hu=>qZ l u (akm hu));rw[sJ,akp,alv _ _ _ _ _ (λ_ _=>by right;rw[hla];simp only;omega)];rw[ako] at hu;exact ha.cell (p*6+j) u hu
   have hc1:∀k ty,(Builtin.copy_ #[39,39] ty #[.slice (some ⟨g,0,none⟩) (A.length+d) cap,.slice a2 A.length c2]).run prog (w.drewN k)=.ok (goInt A.length) ((w.drewN k).setCells g 0 (aN A)):=λk ty =>
    AQ (w.drewN k) ty g 0 (A.length+d) cap _ A.length (aN A) (hs.below (hbk k)).src (by omega) (λj hj=>by rw[hla] at hj;exact hsp _ (by omega)) (λj _=>hfz _)
   have hc2:∀k ty c c',(Builtin.copy_ #[39,39] ty #[.slice (some ⟨g,A.length*6,none⟩) d c,.slice (some ⟨g,p*6,none⟩) d c']).run prog (((w.drewN k).setCells g 0 (aN A)).drew)=.ok (goInt d) ((((w.drewN k).setCells g 0 (aN A)).drew).setCells g (A.length*6) ((aN l).drop (p*6))):=λk ty c c' =>
    AQ _ ty g (A.length*6) d c _ d _ (ahX k c') (Xc _) (λj hj=>by rw[hle] at hj;exact hsp1 k _ (by omega)) (λj _=>hfz1 k _)
   have hcount:p+d-(A.length+d)=p-A.length:=by omega
   have adf:∀k ty c,(Builtin.clear_ #[39] ty #[.slice (some ⟨g,(A.length+d)*6,none⟩) (p+d-(A.length+d)) c]).run prog ((((w.drewN k).setCells g 0 (aN A)).drew).setCells g (A.length*6) ((aN l).drop (p*6)))=.ok (.tuple #[]) (((((w.drewN k).setCells g 0 (aN A)).drew).setCells g (A.length*6) ((aN l).drop (p*6))).setCells g ((A.length+d)*6) (jO (p-A.length))):=λk ty c=>by
    rw[hcount];rcases als (p-A.length) with q|q
    ·rw[q,yA,show jO 0=[] from ajK.1 (by rw[ji])];rfl
    ·exact yx _ ty g _ (p-A.length) c q (λj hj=>Ci (hsp1 k) _ _ (by rw[hle];omega) _ (by omega)) (λj _=>by rw[akx];exact hfz1 k _)
   have ade:p=A.length->∀k ty c D,(Builtin.clear_ #[39] ty #[.slice (some D) (p+d-(A.length+d)) c]).run prog ((((w.drewN k).setCells g 0 (aN A)).drew).setCells g (A.length*6) ((aN l).drop (p*6)))=.ok (.tuple #[]) (((((w.drewN k).setCells g 0 (aN A)).drew).setCells g (A.length*6) ((aN l).drop (p*6))).setCells g ((A.length+d)*6) (jO (p-A.length))):=λq k ty c D=>by
    rw[show p+d-(A.length+d)=0 by omega,yA,show p-A.length=0 by omega,show jO 0=[] from ajK.1 (by rw[ji])];rfl
   rw[hd];refine(O9 g A.length p d cap a2 c2 w _ _ _ (by omega) (by omega) (by omega) hA h0 hc1 hc2 ade adf).mono ?_;rintro e w' ⟨rfl,k,rfl⟩;have e4:=e3 k;rw[<-sJ,show(A.length+(l.length-p))*6=(A.length+d)*6 by omega] at e4;refine⟨_,rfl,?_,?_,λg' hg'=>.inl hg'⟩
   ·have:=e4.1;rw[show(A++l.drop p).length=A.length+d by simp;omega] at this;exact this
   ·have c0:aH (λk=>k=g) w (w.drewN k).drew:=aH.aA ((hbk k).trans (ajb _ _).drew);exact(c0.trans e4.2).mono (λk _ z=>by rw[z];rfl)
end Dk
theorem adg {o:Nat}(B p:Nat)(v:Value)(es:List aW)(f:ByteArray)(w:World)(hk:fB o w B p v es)(hg:gI es)(hs:f.size<=140737488355328) :
 Calls prog 59 #[.pointer (some ⟨p,o,none⟩),.string f] w λe w'=>∃v',e=.returned (.tuple #[v',.int .i64 (aG true f)])/\aS w' w.heap.size v' (if aG true f=0 then lK es f else [])/\Below w.heap.size w w':=by
 have Hk:=aj hk;have Hg:=aj hg;clear hk hg;by_cases he:aG true f=0
 ·rw[if_pos he];have dK:=(ah Hg).2.1;have He:=aj he;clear he;obtain⟨a,cap,rfl,c1,c2,c3⟩:=(ah Hk).arr.shape;clear c3 c2;go_enter func59,ntmps59;go_wp2_with fail;refine(gG f _ hs).mono ?_;rintro e w1 ⟨rfl,hb1⟩;rw[ah He];have k1:=(ah Hk).below hb1;have d0:=k1.cell;have K1:=aj k1;have Hb1:=aj hb1;clear hb1 k1;go_wp2_with fail;clear d0;go_loopw [7,22] (λov kv wr=>∃(k:Nat),kv=.int .i64 k/\k<=es.length/\Hid (aS wr w.heap.size ov (lK (es.take k) f))/\Hid (fB o wr B p (.slice a es.length cap) es)/\Hid (Below w.heap.size w wr)) (λ_ kv _=>es.length-(intOf kv).toNat)
  case atStart=>exact⟨0,rfl,ajm _,aj (aS.empty _ _),K1,Hb1⟩
  case round =>
   obtain⟨k,rfl,hkl,A3,K3,Hb3⟩:=hrel;obtain⟨ao,co,rfl,_⟩:=(ah A3).shape;by_cases hlt:k<es.length
   ·obtain⟨g,cap',e0,f1,f2,f3,f4⟩:=(ah K3).arr.there (by omega);obtain⟨rfl,_,rfl⟩:=ajO e0;clear e0;have d2:=(ah K3).arr.text hlt;have d3:=(ah K3).arr.num hlt;obtain⟨g1,g2⟩:=(ah Hg).2.2 (en es k) (BQ hlt);have Hs:=aj (MN es f k hlt);have Hl:=aj (SN es f k);have hb0:Below wr.heap.size wr (wr.alloc (.cells #[.string (en es k).1,.int .i64 (en es k).2] 68)):=(ajb _ _).alloc (Xc _) _;have Hb0:=aj hb0;clear hb0;go_wp2_with fail;refine(BP f (en es k).1 _ hs g2).mono ?_;rintro e w5 ⟨rfl,b5⟩;have r0:=ni (ajF wr (.cells #[.string (en es k).1,.int .i64 (en es k).2] 68))
    have d4:w5.cell? ⟨wr.heap.size,0,none⟩=some (.string (en es k).1):=by rw[b5.cell (p:=⟨wr.heap.size,0,none⟩) (by simp)];exact r0.1 0 _ rfl
    have d5:w5.cell? ⟨wr.heap.size,1,none⟩=some (.int .i64 (en es k).2):=by rw[b5.cell (p:=⟨wr.heap.size,1,none⟩) (by simp)];exact r0.1 1 _ rfl
    have K5:=((ah K3).below (ah Hb0)).below b5;have A5:=((ah A3).below (ah Hb0)).below b5;have Hb5:=aj (ak (ak (ah Hb3) (ah Hb0)) b5);clear d2 d3 r0
    cases hm:bF f (en es k).1 with
    | true =>
     have Hm:=aj hm;have K5':=aj K5;have A5':=aj A5;clear hm K5 A5;go_wp2_with fail;refine(Na (en es k).1 (en es k).2 _ g2).mono ?_;rintro e w6 ⟨rfl,b6⟩;have K6:=(ah K5').below b6;have A6:=(ah A5').below b6;have UY:=aj (ak (ah Hb5) b6);clear K5' A5' Hb5 b5 d4 d5;have hb6:Below w6.heap.size w6 (w6.alloc (.cells #[.string (en es k).1,.int .i64 (en es k).2] 68)):=(ajb _ _).alloc (Xc _) _;obtain⟨v',w',hr,r1,r2,r3⟩:=uF _ w.heap.size 64 _ _ [en es k] (A6.below hb6) ⟨w6.heap.size,0,none⟩ 1 (Yk w6 (en es k)) (by have:=ah Hl;simp;omega) (by have:=(ah UY).size;have:=hb6.size;omega)
     have hown:∀k2,(Value.slice ao (lK (es.take k) f).length co).ownBlock=some k2->w.heap.size<=k2:=λk2 h2=>(A6.lt k2 h2).1
     have r2':=aX.bH r2;have hb7:Below w.heap.size _ w':=r2'.below (by have:=(ah UY).size;have:=hb6.size;omega) (λk2 h2 h3=>by have:=hown k2 h3;omega);have K7:=aj ((K6.below hb6).bZ r2' (λk2 h2 h3=>by
      have q1:=hown k2 h3;rcases h2 with h2|h2
      ·have:=(ah Hk).lt;omega
      ·have:=((ah Hk).arr.lt k2 h2).2;omega))
     have Hb7:=aj ((ak (ah UY) hb6).trans hb7);have A7:Hid (aS w' w.heap.size v' (lK (es.take (k+1)) f)):=aj (by rw[ah Hs,ah Hm,if_pos rfl];exact r1);clear hb6 b6 K6 A6 r1 r2 r2' r3 hb7 hown;go_wp2_with (at_builtin;refine ajy _ rfl _ _ _ _ rfl _ _ rfl rfl _ _ hr ?_);refine⟨⟨k+1,by go_num,by omega,A7,K7,Hb7⟩,?_⟩;simp[intOf];omega
    | false =>
     have A7:Hid (aS w5 w.heap.size (.slice ao (lK (es.take k) f).length co) (lK (es.take (k+1)) f)):=aj (by rw[ah Hs,hm,if_neg (by simp),ake];exact A5);have K7:=aj K5;clear hm K5 A5;go_wp2_with fail;refine⟨⟨k+1,by go_num,by omega,A7,K7,Hb5⟩,?_⟩;simp[intOf];omega
   ·go_wp2_with fail;go_ret2;refine⟨_,acP (ah He),?_,ah Hb3⟩;have:=ah A3;rw[ajs (by omega)] at this;rw[ajs (by omega)];exact this
 ·rw[if_neg he];go_enter func59,ntmps59;go_wp2_with fail;refine(gG f _ hs).mono ?_;rintro e w1 ⟨rfl,hb1⟩;go_wp2_with fail;go_ret2;exact⟨_,rfl,aS.empty _ _,hb1⟩
theorem adh {f g:List ByteArray}{k:Nat}(hf:k<f.length)(hg:k<g.length):Bh (f.drop k) (g.drop k)=if ql (tk f k) (tk g k) then Bh (f.drop (k+1)) (g.drop (k+1)) else Vo (tk f k) (tk g k):=by
 rw[iw hf,iw hg,Bh]
theorem afJ {f g:List ByteArray}{k:Nat}(h1:k<=f.length)(h2:k<=g.length)(h:¬(k<f.length/\k<g.length)):Bh (f.drop k) (g.drop k)=decide (f.length<g.length):=by
 rcases ald k g.length with q|q
 ·have e:f.drop k=[]:=ajI (by omega);rw[e,iw q,Bh];simp;omega
 ·have e:g.drop k=[]:=ajI (by omega);rw[e,Bh];simp;omega
theorem WG (bf bg cf cg:Nat)(f g:List ByteArray)(w:World)(hf:Row w bf 0 f)(hg:Row w bg 0 g)(nf:f.length<=8) :
 Calls prog 130 #[.slice (some ⟨bf,0,none⟩) f.length cf,.slice (some ⟨bg,0,none⟩) g.length cg] w λe w'=>e=.returned (.bool (Bh f g))/\∃n,w'=w.drewN n:=by
 have Hf:=aj hf;have Hg:=aj hg;clear hf hg;go_enter func130,ntmps130;go_wp2;go_loopw [5] (λi wr=>∃k:Nat,k<=f.length/\k<=g.length/\i=.int .i64 k/\Hid (Bh f g=Bh (f.drop k) (g.drop k))/\∃n,wr=w.drewN n) (λi _=>f.length-(intOf i).toNat)
 case atStart=>exact⟨0,ajm _,ajm _,rfl,aj rfl,0,rfl⟩
 case round =>
  obtain⟨k,hk,hk2,rfl,hq,n,rfl⟩:=hrel;by_cases hlt:k<f.length/\k<g.length
  ·obtain⟨h1,h2⟩:=hlt;have hc1:w.cell? ⟨bf,k,none⟩=some (.string (tk f k)):=by have:=ah Hf k h1;rwa [ajv] at this
   have hc2:w.cell? ⟨bg,k,none⟩=some (.string (tk g k)):=by have:=ah Hg k h2;rwa [ajv] at this
   have R:=aj (adh h1 h2)
   cases hd:((tk f k).toList==(tk g k).toList)
   ·have R2:=aj (show Bh f g=Op.bytesLess (tk f k).toList (tk g k).toList by rw[ah hq,ah R,if_neg (by unfold ql;rw[hd];simp)];rfl);go_wp2;go_quiet (fail)
    go_wp2;go_quiet (fail)
    go_wp2;go_ret;exact⟨dX (ah R2),_,(congrArg (λx=>World.drewN x _) (amR _ _ _)).trans (amR _ _ _)⟩
   ·have R2:=aj (show Bh f g=Bh (f.drop (k+1)) (g.drop (k+1)) by rw[ah hq,ah R,if_pos (by unfold ql;exact hd)]);go_wp2;go_quiet (fail)
    go_wp2;exact⟨⟨k+1,by omega,by omega,by go_num,aj (ah R2),_,rfl⟩,by simp[intOf];omega⟩
  ·have R:=aj ((ah hq).trans (afJ hk hk2 hlt));by_cases h1:k<f.length
   ·have h2:¬k<g.length:=λh=>hlt ⟨h1,h⟩
    clear hlt;go_wp2;go_ret;refine⟨iC ?_,_,rfl⟩;rw[ah R]
   ·clear hlt;go_wp2;go_ret;refine⟨iC ?_,_,rfl⟩;rw[ah R]
theorem aam (e:aW)(s:ByteArray)(b:Nat)(w:World)(hb:w.cell? ⟨b,0,none⟩=some (.string s))(hl:b<w.heap.size) :
 Calls prog 168 #[.agg #[.string e.1,.int .i64 e.2],.pointer (some ⟨b,0,none⟩)] w λr w'=>r=.returned (.bool (ql e.1 s))/\Below w.heap.size w w':=by
 have h2:∀o,(w.alloc o).cell? ⟨b,0,none⟩=some (.string s):=λo=>by rw[aku _ _ _ hl];exact hb
 go_enter func168,ntmps168;go_wp2_with fail;go_ret;exact⟨rfl,(ajb _ _).alloc (Xc _) _⟩
def qH (es:List aW)(s:ByteArray):Int:=if eu es s then (place es s:Int) else -1
theorem Pe (a:Option Addr)(cap:Nat)(es:List aW)(s:ByteArray)(b:Nat)(w:World)(hsl:KF w a es)(hord:Ord es)(dK:es.length<=100)(hb:w.cell? ⟨b,0,none⟩=some (.string s))(hl:b<w.heap.size) :
 Calls prog 167 #[.slice a es.length cap,.func (.func 168) #[] #[.pointer (some ⟨b,0,none⟩)]] w λe w'=>e=.returned (.int .i64 (qH es s))/\Below w.heap.size w w':=by
 have OJ:=aj hord;have Hb:=aj hb;clear hord hb;go_enter func167,ntmps167;go_wp2;go_loopw [8] (λiv wr=>∃(i:Nat),iv=.int .i64 i/\i<=es.length/\Hid (∀k,k<i->ql (en es k).1 s=false)/\Hid (KF wr a es)/\Below w.heap.size w wr) (λiv _=>es.length-(intOf iv).toNat)
 case atStart=>exact⟨0,rfl,ajm _,aj (λk hk=>absurd hk (ajG k)),aj hsl,ajb _ _⟩
 case round =>
  obtain⟨i,rfl,hi,hlo,hsl2,hb⟩:=hrel;by_cases hlt:i<es.length
  ·obtain⟨g,rfl,hg,hc1,hc2⟩:=ah hsl2 i (by omega);have H:=aj (aam (en es i) s b wr (by rw[hb.cell (p:=⟨b,0,none⟩) hl];exact ah Hb) (by have:=hb.size;omega))
   cases he:ql (en es i).1 s with
   | true =>
    have hp:=Oq (ah OJ) hlt (iy.1 he);have Hp:=aj (show qH es s=(i:Int) by unfold qH;rw[if_pos hp.1,hp.2]);have He:=aj he;clear he hp;go_wp2_with fail;refine(ah H).mono ?_;rintro e w1 ⟨rfl,hb1⟩;rw[ah He];clear hc1 hc2;go_wp2_with fail;go_ret;exact⟨bV (ah Hp),ak hb hb1⟩
   | false =>
    have He:=aj he;clear he;go_wp2_with fail;refine(ah H).mono ?_;rintro e w1 ⟨rfl,hb1⟩;rw[ah He];clear hc1 hc2;go_wp2_with fail;refine⟨⟨i+1,by go_num,by omega,aj (λk hk=>?_),aj ((ah hsl2).below hb1),ak hb hb1⟩,?_⟩
    ·rcases ajR.1 hk with q|q
     ·exact ah hlo k q
     ·rw[q];exact ah He
    ·simp[intOf];omega
  ·have Hp:=aj (show qH es s=-1 by unfold qH;rw[ab5 (λj hj=>ah hlo j (by omega))];simp);go_wp2_with fail;go_ret;exact⟨bV (ah Hp),hb⟩
theorem wK (B p:Nat)(v:Value)(es:List aW)(s:ByteArray)(w:World)(hk:jy w B p v es)(hg:gI es) :
 Calls prog 129 #[.pointer (some ⟨p,0,none⟩),.string s] w λe w'=>e=.returned (.int .i64 (qH es s))/\Below w.heap.size w w':=by
 have hb0:Below w.heap.size w (w.alloc (.cells #[.string s] 9)):=(ajb _ _).alloc (Xc _) _;have k1:=hk.below hb0;obtain⟨a,cap,rfl,hsl⟩:=k1.arr.sl;have hc:=k1.cell;clear k1 hk;go_enter func129,ntmps129;go_wp2_with fail;refine(Pe a cap es s w.heap.size _ hsl hg.1 hg.2.1 (by simp) (by simp)).mono ?_;rintro e w1 ⟨rfl,hb⟩;go_wp2_with fail;go_ret;exact⟨rfl,ak hb0 hb⟩
theorem adi (B p:Nat)(v:Value)(es:List aW)(s:ByteArray)(w:World)(hk:jy w B p v es)(hg:gI es)(hs:s.size<=140737488355328) :
 Calls prog 91 #[.pointer (some ⟨p,0,none⟩),.string s] w λe w'=>e=.returned (.tuple #[.int .i64 (jA es s),.int .i64 (qK es s)])/\Below w.heap.size w w':=by
 have Hk:=aj hk;have Hg:=aj hg;clear hk hg;by_cases he:aG false s=0
 ·cases hh:eu es s with
  | true =>
   have Hn:=aj (show jA es s=(en es (place es s)).2 by unfold jA;rw[if_pos he,if_pos hh]);have Hs:=aj (show qK es s=0 by unfold qK;rw[if_pos he,if_pos hh]);have Ha:=aj (show qH es s=(place es s:Int) by unfold qH;rw[if_pos hh]);have h1:=(qJ hh).1;have He:=aj he;obtain⟨q,hq⟩:∃q,place es s=q:=⟨_,rfl⟩;rw[hq] at h1 Ha Hn;clear he hh hq;obtain⟨g,cap,rfl,c1,c2,c3,c4⟩:=(ah Hk).arr.there (by omega);unfold maxLen at c2;go_enter func91,ntmps91;go_wp2_with fail;refine(fO s _ hs).mono ?_;rintro e w1 ⟨rfl,hb1⟩;rw[ah He];go_wp2_with fail;refine(wK B p _ es s _ ((ah Hk).below hb1) (ah Hg)).mono ?_
   rintro e w2 ⟨rfl,hb2⟩;rw[ah Ha];have k2:=((ah Hk).below hb1).below hb2;have d1:=k2.cell;have d2:=k2.arr.num h1;clear k2;go_wp2_with fail;go_ret2;exact⟨uw (ah Hn) (ah Hs),ak hb1 hb2⟩
  | false =>
   have Hn:=aj (show jA es s=0 by unfold jA;rw[if_pos he,hh];simp);have Hs:=aj (show qK es s=4 by unfold qK;rw[if_pos he,hh];simp);have Ha:=aj (show qH es s=-1 by unfold qH;rw[hh];simp);have He:=aj he;clear he hh;go_enter func91,ntmps91;go_wp2_with fail;refine(fO s _ hs).mono ?_;rintro e w1 ⟨rfl,hb1⟩;rw[ah He];go_wp2_with fail;refine(wK B p _ es s _ ((ah Hk).below hb1) (ah Hg)).mono ?_;rintro e w2 ⟨rfl,hb2⟩;rw[ah Ha];go_wp2_with fail;go_ret2;exact⟨uw (ah Hn) (ah Hs),ak hb1 hb2⟩
 ·have Hn:=aj (show jA es s=0 by unfold jA;rw[if_neg he]);have Hs:=aj (show qK es s=aG false s by unfold qK;rw[if_neg he]);go_enter func91,ntmps91;go_wp2_with fail;refine(fO s _ hs).mono ?_;rintro e w1 ⟨rfl,hb1⟩;go_wp2_with fail;go_ret2;exact⟨uw (ah Hn) (ah Hs),hb1⟩
theorem Yz {W:World}{B g cap:Nat}{l:List ByteArray}(h:Own W B g cap l):Row W g 0 l:=λk hk=>by rw[ajv];exact rH h k hk
theorem Hw {s:ByteArray}(h:(Pl.aI s).length<=8):(Pl.ig s.data.toList).length<=1099511627776:=by rw[<-Pl.aU];omega
theorem adk (B p:Nat)(v:Value)(es:List aW)(s:ByteArray)(n:Int)(w:World)(hk:jy w B p v es)(hg:gI es)(hs:s.size<=140737488355328)(hB:B<=w.heap.size) :
 Calls prog 92 #[.pointer (some ⟨p,0,none⟩),.string s,.int .i64 n] w λe w'=>e=.returned (.int .i64 (I7 es s))/\oq w w' B p v (pz es s n):=by
 have Hk:=aj hk;have Hg:=aj hg;clear hk hg;by_cases he:aG false s=0
 ·have hn:=iW he
  cases hh:eu es s with
  | true =>
   have Hp:=aj (Yv (n:=n) he hh);have Ha:=aj (show qH es s=(place es s:Int) by unfold qH;rw[if_pos hh]);obtain⟨h1,h2⟩:=qJ hh;have He:=aj he;obtain⟨q,hq⟩:∃q,place es s=q:=⟨_,rfl⟩;rw[hq] at h1 h2 Hp Ha;have H2:=aj h2;clear he hh h2 hq;obtain⟨g,cap,rfl,c1,c2,c3,c4⟩:=(ah Hk).arr.there (by omega);unfold maxLen at c2;go_enter func92,ntmps92;go_wp2_with fail;refine(fO s _ hs).mono ?_;rintro e w1 ⟨rfl,hb1⟩;rw[ah He];go_wp2_with fail;refine(wK B p _ es s _ ((ah Hk).below hb1) (ah Hg)).mono ?_;rintro e w2 ⟨rfl,hb2⟩;rw[ah Ha];have k2:=((ah Hk).below hb1).below hb2
   have d1:=k2.cell;have d2:=k2.arr.num h1;have d3:=akj k2.arr (q*2+1);have K2:=aj k2;clear k2;go_wp2_with fail;go_ret;refine⟨bV (ah Hp).1,?_⟩;rw[(ah Hp).2];obtain⟨u1,u2⟩:=(ah K2).number h1 (ah H2) n;exact oq.behind (ak hb1 hb2) ⟨_,u1,u2,λg' hg'=>.inl hg'⟩
  | false =>
   have Ha:=aj (show qH es s=-1 by unfold qH;rw[hh];simp);have dK:=(ah Hg).2.1;by_cases hf:100<=es.length
   ·have Hp:=aj (TF (n:=n) he hh hf);have He:=aj he;clear he hh;obtain⟨a,cap,rfl,c1,c2,c3⟩:=(ah Hk).arr.shape;have hl:es.length=100:=by omega
    rw[hl] at Hk ⊢;clear c3 c2;go_enter func92,ntmps92;go_wp2_with fail;refine(fO s _ hs).mono ?_;rintro e w1 ⟨rfl,hb1⟩;rw[ah He];go_wp2_with fail;refine(wK B p _ es s _ ((ah Hk).below hb1) (ah Hg)).mono ?_;rintro e w2 ⟨rfl,hb2⟩;rw[ah Ha];have d1:=(((ah Hk).below hb1).below hb2).cell;go_wp2_with fail;go_ret;refine⟨bV (ah Hp).1,?_⟩;rw[(ah Hp).2];exact oq.same (ah Hk) (ak hb1 hb2)
   ·have Hp:=aj (Yw (n:=n) he hh hf);have He:=aj he;obtain⟨q,hq⟩:∃q,place es s=q:=⟨_,rfl⟩;have vw:q<=es.length:=by rw[<-hq];exact vZ _ _
    have Hlt:Hid (∀j,j<q->el (en es j).1 s=true):=aj (by rw[<-hq];exact zW es s);have Hat:Hid (q<es.length->el (en es q).1 s=false):=aj (by rw[<-hq];exact zZ es s);rw[hq] at Hp;clear he hh hq;obtain⟨a,cap,rfl,c1,c2,c3⟩:=(ah Hk).arr.shape;clear c3 c2;have hl:((es.length:Int)==100)=false:=by rw[ajr];omega
    go_enter func92,ntmps92;go_wp2_with fail;refine(fO s _ hs).mono ?_;rintro e w1 ⟨rfl,hb1⟩;rw[ah He];go_wp2_with fail;refine(wK B p _ es s _ ((ah Hk).below hb1) (ah Hg)).mono ?_;rintro e w2 ⟨rfl,hb2⟩;rw[ah Ha];have k2:=((ah Hk).below hb1).below hb2;have d1:=k2.cell;have K2:=aj k2;have Hb2:=aj (ak hb1 hb2);clear k2 hb1 hb2;go_wp2_with fail;clear d1;go_loopw [9] (λkv wr=>∃(k:Nat),kv=.int .i64 k/\k<=q/\Hid (jy wr B p (.slice a es.length cap) es)/\Hid (Below w.heap.size w wr)) (λkv _=>es.length-(intOf kv).toNat)
    case atStart=>exact⟨0,rfl,ajm _,K2,Hb2⟩
    case round =>
     obtain⟨k,rfl,hkq,K3,Hb3⟩:=hrel;have d1:=(ah K3).cell;have hb4:Below wr.heap.size wr (wr.alloc (.cells #[.string s,.int .i64 n] 68)):=(ajb _ _).alloc (Xc _) _;by_cases hlt:k<es.length
     ·obtain⟨g,cap',e0,f1,f2,f3,f4⟩:=(ah K3).arr.there (by omega);obtain⟨rfl,_,rfl⟩:=ajO e0;clear e0;have d2:=(ah K3).arr.text hlt;obtain⟨g1,g2⟩:=(ah Hg).2.2 (en es k) (BQ hlt);have g3:=iW g1;go_wp2_with fail;refine(kL (en es k).1 _ g2 (Hw g3)).mono ?_;rintro e w3 ⟨x1,y1,l1,rfl,o1,p1,b1⟩;have P1:=aj (mV p1);clear p1;go_wp2_with fail;refine(kL s _ hs (Hw hn)).mono ?_;rintro e w4 ⟨x2,y2,l2,rfl,o2,p2,b2⟩;have P2:=aj (mV p2);clear p2;go_wp2_with fail;refine(WG x1 x2 y1 y2 l1 l2 _ ((Yz o1).below b2 (rJ o1).2) (Yz o2) (by rw[ah P1];exact g3)).mono ?_
      rintro e w5 ⟨rfl,nn,rfl⟩;have hbe:Bh l1 l2=el (en es k).1 s:=by rw[ah P1,ah P2];rfl
      rw[hbe];have HB:=aj (below_drewN (ak b1 b2) nn);have K5:=aj ((ah K3).below (ah HB));have Hb5:=aj (ak (ah Hb3) (ah HB));clear o1 o2 b1 b2 hbe d1 d2 HB;generalize w4.drewN nn=w6 at K5 Hb5 ⊢;have hb6:Below w6.heap.size w6 (w6.alloc (.cells #[.string s,.int .i64 n] 68)):=(ajb _ _).alloc (Xc _) _
      cases hel:el (en es k).1 s with
      | true =>
       have hne:k≠q:=λe=>by
        subst e;rw[ah Hat hlt] at hel
        cases hel
       clear hel hb6;go_wp2_with fail;refine⟨⟨k+1,by go_num,by omega,K5,Hb5⟩,?_⟩;simp[intOf];omega
      | false =>
       have UW:k=q:=by
        rcases ald k q with x|x
        ·rw[ah Hlt k x] at hel;cases hel
        ·omega
       subst UW;have d1:=(ah K5).cell;have K6:=aj ((ah K5).below hb6);have UY:=aj (ak (ah Hb5) hb6);clear hel hb6;go_wp2_with fail;refine(uG B _ es k (s,n) w6.heap.size _ (ah K6).arr (by omega) (by omega) (ajF w6 _) (λe=>by have:=((ah K5).arr.lt _ e).2;omega) (by have:=(ah UY).size;omega)).mono ?_;rintro e w7 ⟨v',rfl,i1,i2,i3⟩;obtain⟨a',cap',rfl,_⟩:=i1.shape;have d4:w7.cell? ⟨p,0,none⟩=some (.slice (some ⟨g,0,none⟩) es.length cap):=by rw[i2.cell (p:=⟨p,0,none⟩) (ah K6).lt (ah K6).apart];exact(ah K6).cell
       have d5:w7.frozen? ⟨p,0,none⟩=false:=by rw[i2.frozen (p:=⟨p,0,none⟩) (ah K6).lt (ah K6).apart];exact(ah K6).free
       have HU:=aj (oq.store (ah K6) i2 i1 i3);clear i1 i2 i3 d1;go_wp2_with fail;go_ret;refine⟨bV (ah Hp).1,?_⟩;rw[(ah Hp).2];exact oq.behind (ah UY) (ah HU)
     ·have UW:k=q:=by omega
      subst UW;have K6:=aj ((ah K3).below hb4);have UY:=aj (ak (ah Hb3) hb4);clear hb4;go_wp2_with fail;refine(uG B _ es k (s,n) wr.heap.size _ (ah K6).arr (by omega) (by omega) (ajF wr _) (λe=>by have:=((ah K3).arr.lt _ e).2;omega) (by have:=(ah UY).size;omega)).mono ?_;rintro e w7 ⟨v',rfl,i1,i2,i3⟩;obtain⟨a',cap',rfl,_⟩:=i1.shape;have d4:w7.cell? ⟨p,0,none⟩=some (.slice a es.length cap):=by rw[i2.cell (p:=⟨p,0,none⟩) (ah K6).lt (ah K6).apart];exact(ah K6).cell
      have d5:w7.frozen? ⟨p,0,none⟩=false:=by rw[i2.frozen (p:=⟨p,0,none⟩) (ah K6).lt (ah K6).apart];exact(ah K6).free
      have HU:=aj (oq.store (ah K6) i2 i1 i3);clear i1 i2 i3 d1;go_wp2_with fail;go_ret;refine⟨bV (ah Hp).1,?_⟩;rw[(ah Hp).2];exact oq.behind (ah UY) (ah HU)
 ·have Hp:=aj (MZ (es:=es) (n:=n) he);go_enter func92,ntmps92;go_wp2_with fail;refine(fO s _ hs).mono ?_;rintro e w1 ⟨rfl,hb1⟩;go_wp2_with fail;go_ret;refine⟨bV (ah Hp).1,?_⟩;rw[(ah Hp).2];exact oq.same (ah Hk) hb1
theorem aan (B p:Nat)(v:Value)(es:List aW)(f:ByteArray)(w:World)(hk:jy w B p v es)(hg:gI es)(hs:f.size<=140737488355328) :
 Calls prog 93 #[.pointer (some ⟨p,0,none⟩),.string f] w λe w'=>∃v',e=.returned (.tuple #[v',.int .i64 (aG true f)])/\aS w' w.heap.size v' (if aG true f=0 then lK es f else [])/\Below w.heap.size w w':=by
 have Hk:=aj hk;have Hg:=aj hg;clear hk hg;by_cases he:aG true f=0
 ·rw[if_pos he];have hn:=iW he;have dK:=(ah Hg).2.1;have He:=aj he;clear he;obtain⟨a,cap,rfl,c1,c2,c3⟩:=(ah Hk).arr.shape;clear c3 c2;go_enter func93,ntmps93;go_wp2_with fail;refine(nN f _ hs).mono ?_;rintro e w1 ⟨rfl,hb1⟩;rw[ah He];have K1:=aj ((ah Hk).below hb1);have Hb1:=aj hb1;clear hb1;go_wp2_with fail;go_loopw [7,8] (λov kv wr=>∃(k:Nat),kv=.int .i64 k/\k<=es.length/\Hid (aS wr w.heap.size ov (lK (es.take k) f))/\Hid (jy wr B p (.slice a es.length cap) es)/\Hid (Below w.heap.size w wr)) (λ_ kv _=>es.length-(intOf kv).toNat)
  case atStart=>exact⟨0,rfl,ajm _,aj (aS.empty _ _),K1,Hb1⟩
  case round =>
   obtain⟨k,rfl,hkl,A3,K3,Hb3⟩:=hrel;have d1:=(ah K3).cell;obtain⟨ao,co,rfl,_⟩:=(ah A3).shape;by_cases hlt:k<es.length
   ·obtain⟨g,cap',e0,f1,f2,f3,f4⟩:=(ah K3).arr.there (by omega);obtain⟨rfl,_,rfl⟩:=ajO e0;clear e0;have d2:=(ah K3).arr.text hlt;obtain⟨g1,g2⟩:=(ah Hg).2.2 (en es k) (BQ hlt);have g3:=iW g1;have Ht:=aj (Q9 (ah He) g1);have Hs:=aj (MN es f k hlt);have Hl:=aj (SN es f k);go_wp2_with fail;refine(tN f (en es k).1 _ hs g2 (Hw hn) (Hw g3)).mono ?_;rintro e w5 ⟨rfl,b5⟩;rw[ah Ht];have K5:=(ah K3).below b5;have A5:=(ah A3).below b5;have Hb5:=aj (ak (ah Hb3) b5);clear d1 d2;have d1:=K5.cell;have d2:=K5.arr.text hlt
    have d3:=K5.arr.num hlt;have hb6:Below w5.heap.size w5 (w5.alloc (.cells #[.string (en es k).1,.int .i64 (en es k).2] 68)):=(ajb _ _).alloc (Xc _) _;obtain⟨v',w',hr,r1,r2,r3⟩:=uF _ w.heap.size 64 _ _ [en es k] (A5.below hb6) ⟨w5.heap.size,0,none⟩ 1 (Yk w5 (en es k)) (by have:=ah Hl;simp;omega) (by have:=(ah Hb5).size;have:=hb6.size;omega);have K6:=K5.below hb6;have A6:=aj r1;have hown:∀k2,(Value.slice ao (lK (es.take k) f).length co).ownBlock=some k2->w.heap.size<=k2:=λk2 h2=>(A5.lt k2 h2).1
    have r2':=aX.bH r2;have hb7:Below w.heap.size _ w':=r2'.below (by have:=(ah Hb5).size;have:=hb6.size;omega) (λk2 h2 h3=>by have:=hown k2 h3;omega);have K7:=K6.bZ r2' (λk2 h2 h3=>by
     have q1:=hown k2 h3;rcases h2 with h2|h2
     ·have:=(ah Hk).lt;omega
     ·have:=((ah Hk).arr.lt k2 h2).2;omega)
    have Hb7:=aj ((ak (ah Hb5) hb6).trans hb7)
    cases hm:bF f (en es k).1 with
    | true =>
     have A7:Hid (aS w' w.heap.size v' (lK (es.take (k+1)) f)):=by rw[ah Hs,hm,if_pos rfl];exact A6
     clear hm hb6;go_wp2_with (at_builtin;refine ajy _ rfl _ _ _ _ rfl _ _ rfl rfl _ _ hr ?_);refine⟨⟨k+1,by go_num,by omega,A7,aj K7,Hb7⟩,?_⟩;simp[intOf];omega
    | false =>
     have A7:Hid (aS w5 w.heap.size (.slice ao (lK (es.take k) f).length co) (lK (es.take (k+1)) f)):=by rw[ah Hs,hm,if_neg (by simp),ake];exact A5
     clear hm hb6;go_wp2_with fail;refine⟨⟨k+1,by go_num,by omega,A7,aj K5,Hb5⟩,?_⟩;simp[intOf];omega
   ·go_wp2_with fail;go_ret2;refine⟨_,acP (ah He),?_,ah Hb3⟩;have:=ah A3;rw[ajs (by omega)] at this;rw[ajs (by omega)];exact this
 ·rw[if_neg he];go_enter func93,ntmps93;go_wp2_with fail;refine(nN f _ hs).mono ?_;rintro e w1 ⟨rfl,hb1⟩;go_wp2_with fail;go_ret2;exact⟨_,rfl,aS.empty _ _,hb1⟩
