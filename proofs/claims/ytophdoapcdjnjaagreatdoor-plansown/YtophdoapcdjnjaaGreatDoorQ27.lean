/- A part. -/
import Derived.Test.YtophdoapcdjnjaaGreatDoorQ6
import Derived.Test.YtophdoapcdjnjaaGreatDoorQ22
set_option maxRecDepth 100000
set_option maxHeartbeats 8000000
namespace Go.Proofs.YtophdoapcdjnjaaGreatDoor
open Go.RowKit Go.Proofs.Tryz
section
open Go.Deep
theorem oC {B g cap n k:Nat}{e:TypeId}{size:Nat}{w:World}{xs:List Value}(h:w.ownsRow B e size (.slice (some ⟨g,0,none⟩) n cap) n xs)(hk:k<=n):w.ownsRow B e size (.slice (some ⟨g,0,none⟩) k cap) k (xs.take (k*size)):=by
 have hks:k*size<=n*size:=Nat.mul_le_mul_right _ hk;refine⟨by rw[List.length_take,h.1];omega,?_⟩;rcases h.2 with ⟨q,_⟩|⟨g',cap',cur,q,h2,h3,h4,h5,h6,h7⟩
 ·cases q
 ·simp only[Value.slice.injEq,Option.some.injEq,Addr.mk.injEq,and_true] at q;obtain⟨rfl,_,rfl⟩:=q;exact .inr ⟨g,cap,cur,rfl,h2,h3,by omega,h5,h6,by rw[<-h7,List.take_take,Nat.min_eq_left hks]⟩
def zs:List Value:=[.string ByteArray.empty,.int .i64 0]
theorem yU (w:World)(ty:TypeId)(b o c:Nat)
 (hc:∀j,j<2->(w.cell? ⟨b,o+j,none⟩).isSome=true) (hf:∀j,j<2->w.frozen? ⟨b,o+j,none⟩=false) :
 (Builtin.clear_ #[87] ty #[.slice (some ⟨b,o,none⟩) 1 c]).run prog w=.ok (.tuple #[]) (w.setCells b o zs):=by
 have hzc:(Builtin.zeroCells (Value.agg #[.string ⟨#[]⟩,.int .i64 0]).cells 1).toList=zs:=by kernel_rfl
 have hst:=run_storeCells_cells (P:=prog) b o zs 0 w (by simpa[zs] using hc) (by simpa[zs] using hf) (by intro v hv';simp only[zs,List.mem_cons,List.not_mem_nil,or_false] at hv';rcases hv' with q|q<;>(subst q;rfl));simp only[Nat.add_zero] at hst;simp[Builtin.clear_,run_underlying underlying87,Tryz.zeroValue169,hzc,hst]
theorem MW (B g c i m:Nat)(es:List aJ)(w:World)(hn:es.length=i+1+m)(ha:ku w B (.slice (some ⟨g,0,none⟩) (i+1+m) c) es)(je:es.length<=100)(hc:i+1+m<=c) :
 Calls prog 133 #[.slice (some ⟨g,0,none⟩) (i+1+m) c,.int .i64 i,.int .i64 (i+1)] w λe w' =>
  e=.returned (.slice (some ⟨g,0,none⟩) (i+m) c)/\w'=(w.drew.setCells g (0+i*2) ((aP es).drop ((i+1)*2))).setCells g ((i+m)*2) zs:=by
 obtain⟨i0,hi0,hz0,hz1,hz2⟩:=info_parts Ph;obtain⟨news,hnews⟩:∃news,news=(aP es).drop ((i+1)*2):=⟨_,rfl⟩;have hlen:news.length=m*2:=by rw[hnews,List.length_drop,bJ,hn];omega
 obtain⟨cur,hg,hcs⟩:∃cur,w.heap[g]?=some (.cells cur 169 (0,0))/\cur.size=c*2:=by
  rcases ha.2 with ⟨q,_⟩|⟨g',cap',cur,q,h2,h3,h4,h5,h6,h7⟩
  ·cases q
  ·simp only[Value.slice.injEq,Option.some.injEq,Addr.mk.injEq,and_true] at q;obtain⟨rfl,_,rfl⟩:=q;exact⟨cur,h3,h6⟩
 have hsp:∀j,j<c*2->(w.cell? ⟨g,j,none⟩).isSome=true:=by
  intro j hj;rw[cell_of_row w g j _ _ _ hg,Array.getElem?_eq_getElem (by omega)];rfl
 have hfz:∀j,w.frozen? ⟨g,j,none⟩=false:=λj=>frozen_of_row w g j _ _ hg
 have hcell:∀j u,(aP es)[j]?=some u->w.cell? ⟨g,j,none⟩=some u:=by
  intro j u hj;rw[<-hn] at ha;exact ha.cell j u hj
 obtain⟨A,hA,hsrc⟩:∃A:Addr,(if c=i+1 then some (⟨g,0,none⟩:Addr) else some ⟨g,(i+1)*2,none⟩)=some A/\Hid (∀t u,news[t]?=some u->w.drew.cell? (A.add t)=some u):=by
  by_cases h:c=i+1
  ·refine⟨⟨g,0,none⟩,by simp[h],λt u hu=>?_⟩;have h0:news.length=0:=by rw[hlen];omega
   rw[List.length_eq_zero_iff.1 h0] at hu;simp at hu
  ·refine⟨⟨g,(i+1)*2,none⟩,by simp[h],λt u hu=>?_⟩;rw[Addr.add_lit];refine hcell _ u ?_;rw[hnews,List.getElem?_drop] at hu;exact hu
 have s1:=aj hlen;have s2:Hid (∀u∈news,u.oneCell'=true):=by
  intro u hu;rw[hnews] at hu;exact kM es u (List.mem_of_mem_drop hu)
 have s3:Hid (∀t,t<news.length->(w.drew.cell? ⟨g,0+i*2+t,none⟩).isSome=true/\w.drew.frozen? ⟨g,0+i*2+t,none⟩=false):=by
  intro t ht;rw[hlen] at ht;exact⟨hsp _ (by omega),hfz _⟩
 obtain⟨W1,hW1⟩:∃W1,W1=w.drew.setCells g (0+i*2) news:=⟨_,rfl⟩;have hcl:∀ty c',(Builtin.clear_ #[87] ty #[.slice (some ⟨g,(i+m)*2,none⟩) 1 c']).run prog W1=.ok (.tuple #[]) (W1.setCells g ((i+m)*2) zs):=λty c' =>
  yU W1 ty g ((i+m)*2) c' (λj hj=>by
   rw[hW1];exact isSome_setCells g news (0+i*2) w.drew (λt ht=>hsp _ (by rw[hlen] at ht;omega)) _ (hsp _ (by omega)))
   (λj hj=>by rw[hW1,World.frozen?_setCells];exact hfz _)
 have hW:Hid (W1=w.drew.setCells g (0+i*2) news):=hW1;rw[<-hnews];clear hW1 hsp hfz hcell hg ha hnews hlen hz0 hz2;have hic:i<=c:=by omega
 have hjc:i+1<=c:=by omega
 have b1:(0:Int)<=(i:Int)+1:=by omega
 have b2:(i:Int)+1<=(i:Int)+1+(m:Int):=by omega
 have q1:¬(c=i+m):=by omega
 have q2:i+1+m-(i+m)=1:=by omega
 go_enter func133,ntmps133;go_wp2_with fail;go_region_law (refine step_append_room rfl (.tmp 22) (.tmp 25) 87 rfl 169 i0 2 underlying87 hi0 hz1 g 0 i c (by simp[Act.eval,Act.put]) A m (c-(i+1)) news (by simp[Act.eval,Act.put]) s1.out hsrc.out s2.out (by omega) s3.out ?_;rw[<-hW.out])
 go_wp2;go_ret;exact⟨rfl,by rw[hW.out]⟩
theorem QA (es:List aJ)(i m:Nat)(hn:es.length=i+1+m) :
 ((((aP es).take (i*2)++(aP es).drop ((i+1)*2)++(aP es).drop (i*2+((aP es).drop ((i+1)*2)).length)).take ((i+m)*2)++zs++((aP es).take (i*2)++(aP es).drop ((i+1)*2)++(aP es).drop (i*2+((aP es).drop ((i+1)*2)).length)).drop ((i+m)*2+zs.length)).take ((i+m)*2))=aP (rO es i):=by
 have hcl:(aP es).length=(i+1+m)*2:=by rw[bJ,hn]
 have h1:((aP es).take (i*2)++(aP es).drop ((i+1)*2)).length=(i+m)*2:=by rw[List.length_append,List.length_take,List.length_drop,hcl];omega
 have h2:((aP es).take (i*2)++(aP es).drop ((i+1)*2)++(aP es).drop (i*2+((aP es).drop ((i+1)*2)).length)).take ((i+m)*2)=(aP es).take (i*2)++(aP es).drop ((i+1)*2):=by
  rw[List.take_append_of_le_length (by omega),List.take_of_length_le (by omega)]
 rw[h2,List.append_assoc ((aP es).take (i*2)++(aP es).drop ((i+1)*2)),List.take_append_of_le_length (by omega),List.take_of_length_le (by omega)];unfold rO;rw[gX,su,sD]
theorem Ik (B:Nat)(v:Value)(es:List aJ)(i:Nat)(w:World)(ha:ku w B v es)(hi:i<es.length)(je:es.length<=100) :
 Calls prog 133 #[v,.int .i64 i,.int .i64 (i+1)] w λe w'=>∃v',e=.returned v'/\ku w' B v' (rO es i)/\aK (λk=>v.ownBlock=some k) w w'/\∀g,v'.ownBlock=some g->v.ownBlock=some g\/w.heap.size<=g:=by
 obtain⟨g,cap,rfl,c1,c2,c3,c4⟩:=ha.there (by omega);obtain⟨m,hn⟩:∃m,es.length=i+1+m:=⟨es.length-(i+1),by omega⟩;rw[hn] at ha c1 ⊢;refine(MW B g cap i m es w hn ha je c1).mono ?_;rintro e w' ⟨rfl,rfl⟩;refine⟨_,rfl,?_,?_,λg' hg'=>.inl hg'⟩
 ·have o0:w.drew.ownsRow B 169 2 (.slice (some ⟨g,0,none⟩) (i+1+m) cap) (i+1+m) (aP es):=by
   unfold ku at ha;rw[hn] at ha;exact ha
  have hcl:(aP es).length=(i+1+m)*2:=by rw[bJ,hn]
  have hdl:((aP es).drop ((i+1)*2)).length=m*2:=by rw[List.length_drop,hcl];omega
  have o1:=fC ((aP es).drop ((i+1)*2)) (i*2) _ _ o0 (by rw[hcl,hdl];omega);have o2:=fC zs ((i+m)*2) _ _ o1 (by
   simp only[List.length_append,List.length_take,List.length_drop,hcl,show zs.length=2 from rfl];omega)
  have o3:=oC (k:=i+m) o2 (by omega);rw[QA es i m hn] at o3;unfold ku;rw[uJ hi,hn,show i+1+m-1=i+m by omega,Nat.zero_add];exact o3
 ·have c:aK (λk=>k=g) w w.drew:=⟨rfl,rfl,rfl,Nat.le_refl _,λ_ _ _=>rfl⟩;exact((c.trans (fD _ _ _)).trans (fD _ _ _)).mono (λk _ hk=>by rw[hk];rfl)
def Rx (w w':World)(B p:Nat)(v:Value)(es':List aJ):Prop:=∃v',Keeps w' B p v' es'/\aK (foot p v) w w'/\∀g,v'.ownBlock=some g->v.ownBlock=some g\/w.heap.size<=g
theorem Rx.same {w w':World}{B p:Nat}{v:Value}{es:List aJ}(h:Keeps w B p v es)(hb:Below w.heap.size w w'):Rx w w' B p v es:=⟨v,h.below hb,aK.of_below hb,λ_ hg=>.inl hg⟩
theorem Rx.behind {w w1 w':World}{B p:Nat}{v:Value}{es:List aJ}(hb:Below w.heap.size w w1)(h:Rx w1 w' B p v es):Rx w w' B p v es:=by
 obtain⟨v',h1,h2,h3⟩:=h;exact⟨v',h1,(aK.of_below hb).trans h2,λg hg=>by
  rcases h3 g hg with q|q
  ·exact .inl q
  ·have:=hb.size;exact .inr (by omega)⟩
theorem Rx.store {w w':World}{B p:Nat}{v v':Value}{es es':List aJ}(h:Keeps w B p v es)(hb:aK (λk=>v.ownBlock=some k) w w')(ha:ku w' B v' es')(hv:∀g,v'.ownBlock=some g->v.ownBlock=some g\/w.heap.size<=g):Rx w (w'.setCell ⟨p,0,none⟩ v') B p v es':=by
 obtain⟨h1,h2⟩:=h.store hb ha hv;exact⟨v',h1,h2,hv⟩
def jl (o:Nat)(w w':World)(B p:Nat)(v:Value)(es':List aJ):Prop:=∃v',dF o w' B p v' es'/\aK (foot p v) w w'/\Side o p w w'/\∀g,v'.ownBlock=some g->v.ownBlock=some g\/w.heap.size<=g
theorem jl.upd {w w':World}{B p:Nat}{v:Value}{es:List aJ}(h:jl 0 w w' B p v es):Rx w w' B p v es:=by
 obtain⟨v',h1,h2,_,h3⟩:=h;exact⟨v',h1,h2,h3⟩
theorem jl.bW {o:Nat}{w w':World}{B p:Nat}{v:Value}{es:List aJ}(h:jl o w w' B p v es):aK (foot p v) w w':=by
 obtain⟨_,_,h2,_⟩:=h;exact h2
theorem jl.same {o:Nat}{w w':World}{B p:Nat}{v:Value}{es:List aJ}(h:dF o w B p v es)(hb:Below w.heap.size w w'):jl o w w' B p v es:=⟨v,h.below hb,aK.of_below hb,Side.below hb h.lt,λ_ hg=>.inl hg⟩
theorem jl.behind {o:Nat}{w w1 w':World}{B p:Nat}{v:Value}{es:List aJ}(hp:p<w.heap.size)(hb:Below w.heap.size w w1)(h:jl o w1 w' B p v es):jl o w w' B p v es:=by
 obtain⟨v',h1,h2,h4,h3⟩:=h;exact⟨v',h1,(aK.of_below hb).trans h2,(Side.below hb hp).trans h4,λg hg=>by
  rcases h3 g hg with q|q
  ·exact .inl q
  ·have:=hb.size;exact .inr (by omega)⟩
theorem jl.store {o:Nat}{w w':World}{B p:Nat}{v v':Value}{es es':List aJ}(h:dF o w B p v es)(hb:aK (λk=>v.ownBlock=some k) w w')(ha:ku w' B v' es')(hv:∀g,v'.ownBlock=some g->v.ownBlock=some g\/w.heap.size<=g):jl o w (w'.setCell ⟨p,o,none⟩ v') B p v es':=by
 obtain⟨h1,h2⟩:=h.store hb ha hv;exact⟨v',h1,h2,(Side.bW hb h.lt h.apart).trans (Side.set _),hv⟩
theorem UC {es:List aJ}{s:ByteArray}{n:Int}(h:aB false s≠0):yP es s=aB false s/\lK es s n=es:=by
 unfold yP lK;rw[if_neg h,if_neg h];exact⟨rfl,rfl⟩
theorem UD {es:List aJ}{s:ByteArray}{n:Int}(h:aB false s=0)(g:cO es s=true):yP es s=0/\lK es s n=es.set (place es s) (s,n):=by
 unfold yP lK;rw[if_pos h,if_pos h,if_pos g,if_pos g];exact⟨rfl,rfl⟩
theorem QB {es:List aJ}{s:ByteArray}{n:Int}(h:aB false s=0)(g:cO es s=false)(f:100<=es.length):yP es s=8/\lK es s n=es:=by
 unfold yP lK;simp[h,g,f]
theorem UE {es:List aJ}{s:ByteArray}{n:Int}(h:aB false s=0)(g:cO es s=false)(f:¬100<=es.length):yP es s=0/\lK es s n=eX es (place es s) (s,n):=by
 unfold yP lK;simp[h,g,f]
theorem QC {w:World}{b:Nat}{s:ByteArray}{n:Int}(c0:w.cell? ⟨b,0,none⟩=some (.string s))(c1:w.cell? ⟨b,1,none⟩=some (.int .i64 n)) :
 (loadVar 169 ⟨b,0,none⟩).run prog w=.ok (.agg #[.string s,.int .i64 n]) w:=by
 have hl:(loadCells ⟨b,0,none⟩ 2).run prog w=.ok #[.string s,.int .i64 n] w :=
  run_loadCells_list (P:=prog) w ⟨b,0,none⟩ [.string s,.int .i64 n] (λj v hv=>by
   rw[Addr.add_lit,Nat.zero_add];match j,hv with
   | 0,hv=>rw[c0];simpa using hv
   | 1,hv=>rw[c1];simpa using hv)
 have hz:Tryz.t169.size=2:=by kernel_rfl
 simp[loadVar,isAgg,sizeOf];rw[hz,hl];rfl
theorem FI {fn:Func}{a:Tmp}{tmps:Array Value}{w:World}{b:Nat}{s:ByteArray}{n:Int}(hf:fn.results=#[.cell a 169])(ha:tmps.getD a undef=.pointer (some ⟨b,0,none⟩))(c0:w.cell? ⟨b,0,none⟩=some (.string s))(c1:w.cell? ⟨b,1,none⟩=some (.int .i64 n)) :
 (results fn tmps).run prog w=.ok (.agg #[.string s,.int .i64 n]) w:=by
 have ha':tmps[a]?.getD undef=.pointer (some ⟨b,0,none⟩):=by simpa using ha
 simp[results,hf,ha',asAddr,QC c0 c1]
theorem MX (s:ByteArray)(n:Int)(w:World)(hs:s.size<=140737488355328) :
 Calls prog 108 #[.agg #[.string s,.int .i64 n]] w λe w'=>e=.returned (.agg #[.string s,.int .i64 n])/\Below w.heap.size w w':=by
 obtain⟨W,hW⟩:∃W,W=(w.alloc (.cells #[.string s,.int .i64 n] 169)).alloc (.cells #[.string ⟨#[]⟩,.int .i64 0] 169):=⟨_,rfl⟩;have hsz:W.heap.size=w.heap.size+2:=by rw[hW];simp
 have hb:Below w.heap.size w W:=by rw[hW];exact((Below.refl _ _).alloc (Nat.le_refl _) _).alloc (by simp) _
 have r0:=one_row (x:=(s,n)) (heap_alloc_new w (.cells #[.string s,.int .i64 n] 169));have hg:W.heap[w.heap.size+1]?=some (.cells #[.string ⟨#[]⟩,.int .i64 0] 169 (0,0)):=by
  have:=heap_alloc_new (w.alloc (.cells #[.string s,.int .i64 n] 169)) (.cells #[.string ⟨#[]⟩,.int .i64 0] 169);rw[World.size_alloc] at this;rw[hW];exact this
 have r1:=one_row (x:=(⟨#[]⟩,0)) hg;have d0:W.cell? ⟨w.heap.size,0,none⟩=some (.string s):=by rw[hW,World.cell?_alloc_lt _ _ _ (by simp)];exact r0.1 0 _ rfl
 have d1:W.cell? ⟨w.heap.size,1,none⟩=some (.int .i64 n):=by rw[hW,World.cell?_alloc_lt _ _ _ (by simp)];exact r0.1 1 _ rfl
 have e0:W.cell? ⟨w.heap.size+1,0,none⟩=some (.string ⟨#[]⟩):=r1.1 0 _ rfl;have e1:W.cell? ⟨w.heap.size+1,1,none⟩=some (.int .i64 0):=r1.1 1 _ rfl;have f0:W.frozen? ⟨w.heap.size+1,0,none⟩=false:=r1.2.1 0;have f1:W.frozen? ⟨w.heap.size+1,1,none⟩=false:=r1.2.1 1;have l0:w.heap.size<W.heap.size:=by omega
 have l1:w.heap.size+1<W.heap.size:=by omega
 have PC:Hid (∀X,Calls prog 57 #[.string s] X λe w'=>e=.returned (.string s)/\Below X.heap.size X w'):=aj (λX=>clone_any s X (by omega));clear r0 r1 hg;go_enter func108,ntmps108;go_wp2_with fail;rw[<-hW];have Hb:=aj hb;clear hW hb hsz;go_region_with (go_at_call 57;refine(ah PC _).mono ?_;rintro e w1 ⟨rfl,b1⟩;have g1:=(b1.cell (p:=⟨w.heap.size,1,none⟩) l0).trans d1;have h0:=(b1.cell (p:=⟨w.heap.size+1,0,none⟩) l1).trans e0;have h1:=(b1.cell (p:=⟨w.heap.size+1,1,none⟩) l1).trans e1;have k0:=(b1.frozen (p:=⟨w.heap.size+1,0,none⟩) l1).trans f0;have k1:=(b1.frozen (p:=⟨w.heap.size+1,1,none⟩) l1).trans f1)
 all_goals have HB:=aj (aA (ah Hb).drew b1)
 all_goals clear b1 Hb g1
 all_goals go_wp2_with fail
 all_goals refine bodyPost_ret (FI (b:=w.heap.size+1) (s:=s) (n:=n) rfl rfl (by rw[World.cell?_setCell_other _ _ _ _ (by simp)];exact World.cell?_setCell_same _ _ _ h0) (World.cell?_setCell_same _ _ _ (by rw[World.cell?_setCell_other _ _ _ _ (by simp)];exact h1))) rfl ?_
 all_goals exact⟨rfl,((ah HB).setCell (p:=⟨w.heap.size+1,0,none⟩) (Nat.le_succ _) _).setCell (p:=⟨w.heap.size+1,1,none⟩) (Nat.le_succ _) _⟩
theorem yI {o:Nat}(B p:Nat)(v:Value)(es:List aJ)(s:ByteArray)(n:Int)(w:World)(hk:dF o w B p v es)(hg:dW es)(hs:s.size<=140737488355328)(hB:B<=w.heap.size) :
 Calls prog 79 #[.pointer (some ⟨p,o,none⟩),.string s,.int .i64 n] w λe w'=>e=.returned (.int .i64 (yP es s))/\jl o w w' B p v (lK es s n):=by
 have Hk:=aj hk;have Hg:=aj hg;clear hk hg;by_cases he:aB false s=0
 ·have hn:=few he
  cases hh:cO es s with
  | true =>
   have Hp:=aj (UD (n:=n) he hh);obtain⟨h1,h2⟩:=nP hh;have He:=aj he;have Hh:=aj hh;obtain⟨q,hq⟩:∃q,place es s=q:=⟨_,rfl⟩;rw[hq] at h1 h2 Hp;have Hq:=aj hq;have H2:=aj h2;clear he hh h2 hq;obtain⟨g,cap,rfl,c1,c2,c3,c4⟩:=(ah Hk).arr.there (by omega);unfold maxLen at c2;go_enter func79,ntmps79;go_wp2_with fail;refine(dn s _ hs).mono ?_;rintro e w1 ⟨rfl,hb1⟩;rw[ah He];go_wp2_with fail;refine(oP B p _ es s _ ((ah Hk).below hb1) (ah Hg) hs hn).mono ?_;rintro e w2 ⟨rfl,hb2⟩;rw[ah Hh,ah Hq];have k2:=((ah Hk).below hb1).below hb2;have d1:=k2.cell
   have d2:=k2.arr.num h1;have d3:=World.ownsRow.frozenAt k2.arr (q*2+1);have K2:=aj k2;clear k2;go_wp2_with fail;go_ret;refine⟨bI (ah Hp).1,?_⟩;rw[(ah Hp).2];obtain⟨u1,u2⟩:=(ah K2).number h1 (ah H2) n;exact jl.behind (ah Hk).lt (aA hb1 hb2) ⟨_,u1,u2,Side.other _ (λe=>(ah Hk).apart (by rw[e];rfl)),λg' hg'=>.inl hg'⟩
  | false =>
   by_cases hf:100<=es.length
   ·have Hp:=aj (QB (n:=n) he hh hf);have He:=aj he;have Hh:=aj hh;clear he hh;obtain⟨a,cap,rfl,c1,c2,c3⟩:=(ah Hk).arr.shape;clear c3 c2;go_enter func79,ntmps79;go_wp2_with fail;refine(dn s _ hs).mono ?_;rintro e w1 ⟨rfl,hb1⟩;rw[ah He];go_wp2_with fail;refine(oP B p _ es s _ ((ah Hk).below hb1) (ah Hg) hs hn).mono ?_;rintro e w2 ⟨rfl,hb2⟩;rw[ah Hh];have d1:=(((ah Hk).below hb1).below hb2).cell;go_wp2_with fail;go_ret;refine⟨bI (ah Hp).1,?_⟩;rw[(ah Hp).2];exact jl.same (ah Hk) (aA hb1 hb2)
   ·have Hp:=aj (UE (n:=n) he hh hf);have He:=aj he;have Hh:=aj hh;obtain⟨q,hq⟩:∃q,place es s=q:=⟨_,rfl⟩;have QD:q<=es.length:=by rw[<-hq];exact rM _ _
    rw[hq] at Hp;have Hq:=aj hq;clear he hh hq;obtain⟨a,cap,rfl,c1,c2,c3⟩:=(ah Hk).arr.shape;clear c3 c2;go_enter func79,ntmps79;go_wp2_with fail;refine(dn s _ hs).mono ?_;rintro e w1 ⟨rfl,hb1⟩;rw[ah He];go_wp2_with fail;refine(oP B p _ es s _ ((ah Hk).below hb1) (ah Hg) hs hn).mono ?_;rintro e w2 ⟨rfl,hb2⟩;rw[ah Hh,ah Hq];have k2:=((ah Hk).below hb1).below hb2;have d1:=k2.cell;have K2:=aj k2;clear k2;have hB2:B<=w2.heap.size:=by have:=hb1.size;have:=hb2.size;omega
    have PI:Hid (∀w3,Below w2.heap.size w2 w3->Calls prog 107 #[.slice a es.length cap,.int .i64 q,.slice (some ⟨w3.heap.size,0,none⟩) 1 1] (w3.alloc (.cells #[.string s,.int .i64 n] 169)) λe w4=>∃a' m' c',e=.returned (.slice a' m' c')/\w4.cell? ⟨p,o,none⟩=some (.slice a es.length cap)/\w4.frozen? ⟨p,o,none⟩=false/\Hid (jl o w2 (w4.setCell ⟨p,o,none⟩ (.slice a' m' c')) B p (.slice a es.length cap) (eX es q (s,n)))):=aj (λw3 b3=>by
     have k3:=(ah K2).below b3;have b4:Below w3.heap.size w3 (w3.alloc (.cells #[.string s,.int .i64 n] 169)):=(Below.refl _ _).alloc (Nat.le_refl _) _;have k4:=k3.below b4;refine(Ie B _ es q (s,n) w3.heap.size _ k4.arr QD (by omega) (heap_alloc_new w3 _) (λe=>by have:=(k3.arr.lt _ e).2;omega) (by have:=b3.size;simp;omega)).mono ?_;rintro e w4 ⟨v',rfl,i1,i2,i3⟩;obtain⟨a',cap',rfl,_⟩:=i1.shape;refine⟨a',_,cap',rfl,?_,?_,aj (jl.behind (ah K2).lt (aA b3 b4) (jl.store k4 i2 i1 i3))⟩
     ·rw[i2.cell (p:=⟨p,o,none⟩) k4.lt k4.apart];exact k4.cell
     ·rw[i2.frozen (p:=⟨p,o,none⟩) k4.lt k4.apart];exact k4.free)
    have PC:Hid (∀X,Calls prog 108 #[.agg #[.string s,.int .i64 n]] X λe w'=>e=.returned (.agg #[.string s,.int .i64 n])/\Below X.heap.size X w'):=aj (λX=>MX s n X hs);have hpl:=(ah K2).lt;go_wp2_with fail;go_region_with (first
     | (go_at_call 108;refine(ah PC _).mono ?_;rintro e w3 ⟨rfl,b3⟩;have d2:=(b3.cell (p:=⟨p,o,none⟩) hpl).trans d1;have hp3:=Nat.lt_of_lt_of_le hpl b3.size;have B3:=aj (((Below.refl w2.heap.size w2).drew).trans b3))
     | (go_at_call 107;refine(ah PI w3 (ah B3)).mono ?_;rintro e w4 ⟨a',m',c',rfl,d4,d5,HU⟩))
    all_goals go_wp2_with fail
    all_goals go_ret
    all_goals refine⟨bI (ah Hp).1,?_⟩
    all_goals rw[(ah Hp).2]
    all_goals exact jl.behind (ah Hk).lt (aA hb1 hb2) (ah HU)
 ·have Hp:=aj (UC (es:=es) (n:=n) he);go_enter func79,ntmps79;go_wp2_with fail;refine(dn s _ hs).mono ?_;rintro e w1 ⟨rfl,hb1⟩;go_wp2_with fail;go_ret;refine⟨bI (ah Hp).1,?_⟩;rw[(ah Hp).2];exact jl.same (ah Hk) hb1
theorem QE {es:List aJ}{s:ByteArray}(h:qA es s=0):aB false s=0/\cO es s=true:=by
 unfold qA at h;split at h
 ·rename_i he;refine⟨he,?_⟩;split at h
  ·assumption
  ·omega
 ·rename_i he;exact absurd h he
theorem MZ {es:List aJ}{s:ByteArray}(h:¬qA es s=0):jU es s=es:=by
 unfold jU;unfold qA at h;split
 ·rename_i he;rw[if_pos he] at h;split
  ·rename_i hh;rw[if_pos hh] at h;exact absurd rfl h
  ·rfl
 ·rfl
theorem Ai {o:Nat}(B p:Nat)(v:Value)(es:List aJ)(s:ByteArray)(w:World)(hk:dF o w B p v es)(hg:dW es)(hs:s.size<=140737488355328) :
 Calls prog 112 #[.pointer (some ⟨p,o,none⟩),.string s] w λe w'=>e=.returned (.int .i64 (qA es s))/\jl o w w' B p v (jU es s):=by
 have Hk:=aj hk;have Hg:=aj hg;clear hk hg;by_cases h0:qA es s=0
 ·obtain⟨he,hh⟩:=QE h0;obtain⟨h1,h2⟩:=nP hh;have hl:uV es s=(place es s:Int):=by unfold uV;rw[if_pos he,if_pos hh]
  have hd:jU es s=rO es (place es s):=by unfold jU;rw[if_pos he,if_pos hh]
  have je:=(ah Hg).2.1;have Hl:=aj hl;have Hd:=aj hd;have H0:=aj h0;clear hd hl h0 hh h2 he;obtain⟨q,hq⟩:∃q,place es s=q:=⟨_,rfl⟩;rw[hq] at h1 Hl Hd;clear hq;obtain⟨g,cap,rfl,c1,c2,c3,c4⟩:=(ah Hk).arr.there (by omega);unfold maxLen at c2;go_enter func112,ntmps112;go_wp2_with fail;refine(mM B p _ es s _ (ah Hk) (ah Hg) hs).mono ?_;rintro e w1 ⟨rfl,hb1⟩;rw[ah Hl,ah H0];have k1:=(ah Hk).below hb1;have d1:=k1.cell;have K1:=aj k1;clear k1;go_wp2_with fail;refine(Ik B _ es q _ (ah K1).arr h1 je).mono ?_;rintro e w4 ⟨v',rfl,i1,i2,i3⟩
  obtain⟨a',cap',rfl,_⟩:=i1.shape;have d4:w4.cell? ⟨p,o,none⟩=some (.slice (some ⟨g,0,none⟩) es.length cap):=by rw[i2.cell (p:=⟨p,o,none⟩) (ah K1).lt (ah K1).apart];exact(ah K1).cell
  have d5:w4.frozen? ⟨p,o,none⟩=false:=by rw[i2.frozen (p:=⟨p,o,none⟩) (ah K1).lt (ah K1).apart];exact(ah K1).free
  have HU:=aj (jl.store (ah K1) i2 i1 i3);clear i1 i2 i3 d1;go_wp2_with fail;go_ret;refine⟨bI (ah H0),?_⟩;rw[ah Hd];exact jl.behind (ah Hk).lt hb1 (ah HU)
 ·have Hd:=aj (MZ h0);go_enter func112,ntmps112;go_wp2_with fail;refine(mM B p v es s _ (ah Hk) (ah Hg) hs).mono ?_;rintro e w1 ⟨rfl,hb1⟩;go_wp2_with fail;go_ret;refine⟨rfl,?_⟩;rw[ah Hd];exact jl.same (ah Hk) hb1
theorem put_any (B p:Nat)(v:Value)(es:List aJ)(s:ByteArray)(n:Int)(w:World)(hk:Keeps w B p v es)(hg:dW es)(hs:s.size<=140737488355328)(hB:B<=w.heap.size) :
 Calls prog 79 #[.pointer (some ⟨p,0,none⟩),.string s,.int .i64 n] w λe w'=>e=.returned (.int .i64 (yP es s))/\Rx w w' B p v (lK es s n) :=
 (yI B p v es s n w hk hg hs hB).mono (λ_ _ h=>⟨h.1,h.2.upd⟩)
theorem Yu (B p:Nat)(v:Value)(es:List aJ)(s:ByteArray)(w:World)(hk:Keeps w B p v es)(hg:dW es)(hs:s.size<=140737488355328) :
 Calls prog 112 #[.pointer (some ⟨p,0,none⟩),.string s] w λe w'=>e=.returned (.int .i64 (qA es s))/\Rx w w' B p v (jU es s) :=
 (Ai B p v es s w hk hg hs).mono (λ_ _ h=>⟨h.1,h.2.upd⟩)
end
namespace Dk
theorem UF {A:Nat->Prop}{w w':World}(h:aF A w w'):Go.Proofs.YtophdoapcdjnjaaGreatDoor.aK A w w':=⟨h.os,h.tape,h.output,h.size,h.block⟩
theorem QF {A:Nat->Prop}{w w':World}(h:Go.Proofs.YtophdoapcdjnjaaGreatDoor.aK A w w'):aF A w w':=⟨h.os,h.tape,h.output,h.size,h.block⟩
structure kD (w:World)(B q:Nat)(v u:Value)(l:List Rc)(es:List aJ)(last:Int):Prop where
 c0:w.cell? ⟨q,0,none⟩=some v
 c1:w.cell? ⟨q,1,none⟩=some u
 c2:w.cell? ⟨q,2,none⟩=some (.int .i64 last)
 free:∀j,w.frozen? ⟨q,j,none⟩=false
 base:B<=q
 lt:q<w.heap.size
 msgs:dA w B v l
 cnts:ku w B u es
 av:v.ownBlock≠some q
 au:u.ownBlock≠some q
 apart:∀g,v.ownBlock=some g->u.ownBlock≠some g
def jW (q:Nat)(v u:Value)(k:Nat):Prop:=k=q\/v.ownBlock=some k\/u.ownBlock=some k
section
variable {w w':World}{B q:Nat}{v u v' u':Value}{l l':List Rc}{es es':List aJ}{last last':Int}
theorem kD.keeps (h:kD w B q v u l es last):dF 1 w B q u es:=⟨h.c1,h.free 1,h.base,h.lt,h.cnts,h.au⟩
theorem kD.own (h:kD w B q v u l es last):∀k,jW q v u k->B<=k/\k<w.heap.size:=by
 rintro k (rfl|z|z)
 ·exact⟨h.base,h.lt⟩
 ·exact h.msgs.lt k z
 ·exact h.cnts.lt k z
theorem kD.bW {A:Nat->Prop}(h:kD w B q v u l es last)(hc:aF A w w')(hn:∀k,jW q v u k->¬A k):kD w' B q v u l es last:=by
 have hq:=hn q (.inl rfl);refine⟨by rw[hc.cell (p:=⟨q,0,none⟩) h.lt hq];exact h.c0,by rw[hc.cell (p:=⟨q,1,none⟩) h.lt hq];exact h.c1,by rw[hc.cell (p:=⟨q,2,none⟩) h.lt hq];exact h.c2,λj=>by rw[hc.frozen (p:=⟨q,j,none⟩) h.lt hq];exact h.free j,h.base,Nat.lt_of_lt_of_le h.lt hc.size,h.msgs.bW hc (λg hg=>hn g (.inr (.inl hg))),h.cnts.bW (UF hc) (λg hg=>hn g (.inr (.inr hg))),h.av,h.au,h.apart⟩
theorem kD.below (h:kD w B q v u l es last)(hb:Below w.heap.size w w'):kD w' B q v u l es last:=h.bW (A:=λ_=>False) (aF.of_below hb) (λ_ _ z=>z)
theorem kD.upd (h:kD w B q v u l es last)(hu:jl 1 w w' B q u es'):∃u',kD w' B q v u' l es' last/\aF (foot q u) w w'/\∀g,u'.ownBlock=some g->u.ownBlock=some g\/w.heap.size<=g:=by
 obtain⟨u',k,hc,hs,ho⟩:=hu;have hc:=QF hc;have hf:∀g,v.ownBlock=some g->¬foot q u g:=λg hg z=>by
  rcases z with rfl|z
  ·exact h.av hg
  ·exact h.apart g hg z
 refine⟨u',⟨by rw[hs.cell 0 (by decide)];exact h.c0,k.cell,by rw[hs.cell 2 (by decide)];exact h.c2,λj=>by rw[hs.free j];exact h.free j,h.base,k.lt,h.msgs.bW hc hf,k.arr,h.av,k.apart,λg hg z=>?_⟩,hc,ho⟩;rcases ho g z with y|y
 ·exact h.apart g hg y
 ·have:=(h.msgs.lt g hg).2;omega
theorem kD.store (h:kD w B q v u l es last)(hc:aF (λk=>v.ownBlock=some k) w w')(ha:dA w' B v' l')(hv:∀g,v'.ownBlock=some g->v.ownBlock=some g\/w.heap.size<=g) :
 kD (w'.setCell ⟨q,0,none⟩ v') B q v' u l' es last/\aF (λk=>k=q\/v.ownBlock=some k) w (w'.setCell ⟨q,0,none⟩ v'):=by
 have hne:v'.ownBlock≠some q:=λe=>by
  rcases hv q e with z|z
  ·exact h.av z
  ·have:=h.lt;omega
 have c0:w'.cell? ⟨q,0,none⟩=some v:=by rw[hc.cell (p:=⟨q,0,none⟩) h.lt h.av];exact h.c0
 have c1:w'.cell? ⟨q,1,none⟩=some u:=by rw[hc.cell (p:=⟨q,1,none⟩) h.lt h.av];exact h.c1
 have c2:w'.cell? ⟨q,2,none⟩=some (.int .i64 last):=by rw[hc.cell (p:=⟨q,2,none⟩) h.lt h.av];exact h.c2
 have cs:aF (λk=>k=q) w' (w'.setCell ⟨q,0,none⟩ v'):=aF.setCell (A:=λk=>k=q) (p:=⟨q,0,none⟩) (aF.refl _ _) (.inl rfl) _;refine⟨⟨World.cell?_setCell_same _ _ _ c0,?_,?_,λj=>?_,h.base,?_,?_,?_,hne,h.au,λg hg z=>?_⟩,?_⟩
 ·rw[World.cell?_setCell_other _ _ _ _ (by simp)];exact c1
 ·rw[World.cell?_setCell_other _ _ _ _ (by simp)];exact c2
 ·rw[World.frozen?_setCell,hc.frozen (p:=⟨q,j,none⟩) h.lt h.av];exact h.free j
 ·have:=hc.size;have:=h.lt;simp[World.setCell];omega
 ·exact ha.bW cs (λg hg e=>hne (by rw[<-e];exact hg))
 ·exact(h.cnts.bW (UF hc) (λg hg z=>h.apart g z hg)).bW (UF cs) (λg hg e=>h.au (by rw[<-e];exact hg))
 ·rcases hv g hg with y|y
  ·exact h.apart g y z
  ·have:=(h.cnts.lt g z).2;omega
 ·exact(hc.mono (λk _ z=>.inr z)).setCell (.inl (.inl rfl)) _
theorem kD.number (h:kD w B q v u l es last)(n:Int):kD (w.setCell ⟨q,2,none⟩ (.int .i64 n)) B q v u l es n/\aF (λk=>k=q) w (w.setCell ⟨q,2,none⟩ (.int .i64 n)):=by
 have cs:aF (λk=>k=q) w (w.setCell ⟨q,2,none⟩ (.int .i64 n)):=aF.setCell (A:=λk=>k=q) (p:=⟨q,2,none⟩) (aF.refl _ _) (.inl rfl) _;refine⟨⟨?_,?_,World.cell?_setCell_same _ _ _ h.c2,λj=>?_,h.base,?_,?_,?_,h.av,h.au,h.apart⟩,cs⟩
 ·rw[World.cell?_setCell_other _ _ _ _ (by simp)];exact h.c0
 ·rw[World.cell?_setCell_other _ _ _ _ (by simp)];exact h.c1
 ·rw[World.frozen?_setCell];exact h.free j
 ·have:=h.lt;simpa[World.setCell] using this
 ·exact h.msgs.bW cs (λg hg e=>h.av (by rw[<-e];exact hg))
 ·exact h.cnts.bW (UF cs) (λg hg e=>h.au (by rw[<-e];exact hg))
end
def Moves (w w':World)(B q:Nat)(v u:Value)(l':List Rc)(es':List aJ)(last':Int):Prop:=∃v' u',kD w' B q v' u' l' es' last'/\aF (jW q v u) w w'/\∀g,jW q v' u' g->jW q v u g\/w.heap.size<=g
section
variable {w w1 w':World}{B q:Nat}{v u v1 u1:Value}{l l1 l':List Rc}{es es1 es':List aJ}{last aam last':Int}
theorem Moves.same (h:kD w B q v u l es last)(hb:Below w.heap.size w w'):Moves w w' B q v u l es last:=⟨v,u,h.below hb,aF.of_below hb,λ_ hg=>.inl hg⟩
theorem Moves.seq (c1:aF (jW q v u) w w1)(o1:∀g,jW q v1 u1 g->jW q v u g\/w.heap.size<=g)(m:Moves w1 w' B q v1 u1 l' es' last'):Moves w w' B q v u l' es' last':=by
 obtain⟨v2,u2,s2,c2,o2⟩:=m;refine⟨v2,u2,s2,?_,λg hg=>?_⟩
 ·refine⟨c2.os.trans c1.os,c2.tape.trans c1.tape,c2.output.trans c1.output,Nat.le_trans c1.size c2.size,λk hk hn=>?_⟩;rw[c2.block k (by have:=c1.size;omega) (λz=>?_)]
  ·exact c1.block k hk hn
  ·rcases o1 k z with y|y
   ·exact hn y
   ·omega
 ·rcases o2 g hg with y|y
  ·exact o1 g y
  ·right;have:=c1.size;omega
theorem Moves.behind (hb:Below w.heap.size w w1)(a:Moves w1 w' B q v u l' es' last'):Moves w w' B q v u l' es' last':=by
 obtain⟨v',u',s,c,o⟩:=a;refine⟨v',u',s,(aF.of_below hb).trans c,λg hg=>?_⟩;rcases o g hg with y|y
 ·exact .inl y
 ·right;have:=hb.size;omega
theorem Moves.upd (h:kD w B q v u l es last)(hu:jl 1 w w' B q u es'):Moves w w' B q v u l es' last:=by
 obtain⟨u',s,c,o⟩:=h.upd hu;refine⟨v,u',s,c.mono (λk _ z=>?_),λg hg=>?_⟩
 ·rcases z with z|z
  ·exact .inl z
  ·exact .inr (.inr z)
 ·rcases hg with z|z|z
  ·exact .inl (.inl z)
  ·exact .inl (.inr (.inl z))
  ·rcases o g z with y|y
   ·exact .inl (.inr (.inr y))
   ·exact .inr y
theorem Moves.store {v':Value}(h:kD w B q v u l es last)(hc:aF (λk=>v.ownBlock=some k) w w')(ha:dA w' B v' l')(hv:∀g,v'.ownBlock=some g->v.ownBlock=some g\/w.heap.size<=g):Moves w (w'.setCell ⟨q,0,none⟩ v') B q v u l' es last:=by
 obtain⟨s,c⟩:=h.store hc ha hv;refine⟨v',u,s,c.mono (λk _ z=>?_),λg hg=>?_⟩
 ·rcases z with z|z
  ·exact .inl z
  ·exact .inr (.inl z)
 ·rcases hg with z|z|z
  ·exact .inl (.inl z)
  ·rcases hv g z with y|y
   ·exact .inl (.inr (.inl y))
   ·exact .inr y
  ·exact .inl (.inr (.inr z))
theorem Moves.number (h:kD w B q v u l es last)(n:Int):Moves w (w.setCell ⟨q,2,none⟩ (.int .i64 n)) B q v u l es n:=by
 obtain⟨s,c⟩:=h.number n;exact⟨v,u,s,c.mono (λk _ z=>.inl z),λg hg=>.inl hg⟩
end
def Counts (w w':World)(B q:Nat)(v u:Value)(l:List Rc)(es':List aJ)(last:Int):Prop:=∃u',kD w' B q v u' l es' last/\aF (foot q u) w w'/\∀g,u'.ownBlock=some g->u.ownBlock=some g\/w.heap.size<=g
section
variable {w w1 w':World}{B q:Nat}{v u:Value}{l:List Rc}{es es':List aJ}{last:Int}
theorem Counts.behind (hb:Below w.heap.size w w1)(a:Counts w1 w' B q v u l es' last):Counts w w' B q v u l es' last:=by
 obtain⟨u',s,c,o⟩:=a;refine⟨u',s,(aF.of_below hb).trans c,λg hg=>?_⟩;rcases o g hg with y|y
 ·exact .inl y
 ·right;have:=hb.size;omega
theorem Counts.jW {u':Value}(c:aF (foot q u) w w')(o:∀g,u'.ownBlock=some g->u.ownBlock=some g\/w.heap.size<=g):aF (jW q v u) w w'/\∀g,jW q v u' g->jW q v u g\/w.heap.size<=g:=by
 refine⟨c.mono (λk _ z=>?_),λg hg=>?_⟩
 ·rcases z with z|z
  ·exact .inl z
  ·exact .inr (.inr z)
 ·rcases hg with z|z|z
  ·exact .inl (.inl z)
  ·exact .inl (.inr (.inl z))
  ·rcases o g z with y|y
   ·exact .inl (.inr (.inr y))
   ·exact .inr y
theorem Counts.moves (a:Counts w w' B q v u l es' last):Moves w w' B q v u l es' last:=by
 obtain⟨u',s,c,o⟩:=a;obtain⟨h1,h2⟩:=Counts.jW (v:=v) c o;exact⟨v,u',s,h1,h2⟩
end
def yV (w:World)(B q:Nat)(F:Nat->Prop)(s:aX):Prop:=∃v u es,kD w B q v u s.l es s.last/\Cnt s.l es/\F=jW q v u
theorem yV.own {w:World}{B q:Nat}{F:Nat->Prop}{s:aX}(h:yV w B q F s):∀k,F k->B<=k/\k<w.heap.size:=by
 obtain⟨v,u,es,h1,_,rfl⟩:=h;exact h1.own
theorem yV.bW {w w':World}{B q:Nat}{F A:Nat->Prop}{s:aX}(h:yV w B q F s)(hc:aF A w w')(hn:∀k,F k->¬A k):yV w' B q F s:=by
 obtain⟨v,u,es,h1,h2,rfl⟩:=h;exact⟨v,u,es,h1.bW hc hn,h2,rfl⟩
theorem yV.did {w w':World}{B q:Nat}{v u:Value}{s:aX}{es:List aJ}(h:Moves w w' B q v u s.l es s.last)(hc:Cnt s.l es):XY yV w w' B q (jW q v u) s:=by
 obtain⟨v',u',s',c,o⟩:=h;exact⟨_,⟨v',u',es,s',hc,rfl⟩,c,o⟩
end Dk
namespace Dk
open Go.Deep
theorem Aj:∀(es:List Rc) (k:Nat),aG (es.take k)=(aG es).take (k*6)
 | [],k=>by simp[aG]
 | e::r,0=>by simp[aG]
 | e::r,k+1=>by rw[show(k+1)*6=k*6+1+1+1+1+1+1 by omega];simp[aG,Aj r k]
theorem uo:∀(es:List Rc) (k:Nat),aG (es.drop k)=(aG es).drop (k*6)
 | [],k=>by simp[aG]
 | e::r,0=>by simp[aG]
 | e::r,k+1=>by rw[show(k+1)*6=k*6+1+1+1+1+1+1 by omega];simp[aG,uo r k]
theorem dA.there {w:World}{B:Nat}{v:Value}{es:List Rc}(h:dA w B v es)(hn:0<es.length):∃g cap,v=.slice (some ⟨g,0,none⟩) es.length cap/\es.length<=cap/\cap<=maxLen/\B<=g/\g<w.heap.size:=by
 rcases h.2 with ⟨h1,h2⟩|⟨g,cap,cur,h1,h2,h3,h4,h5,h6,h7⟩
 ·omega
 ·exact⟨g,cap,h1,h4,h5,h.lt g (by rw[h1];rfl)⟩
theorem dA.cell {w:World}{B g cap:Nat}{es:List Rc}(h:dA w B (.slice (some ⟨g,0,none⟩) es.length cap) es)(j:Nat)(u:Value)(hj:(aG es)[j]?=some u):w.cell? ⟨g,j,none⟩=some u:=by
 have hl:j<es.length*6:=by
  rw[<-bQ];rcases Nat.lt_or_ge j (aG es).length with q|q
  ·exact q
  ·rw[List.getElem?_eq_none q] at hj;cases hj
 rw[World.ownsRow.cellAt h _ hl];exact hj
def NQ:List Value:=[.int .i64 0,.int .i64 0,.int .i64 0,.string ByteArray.empty,.string ByteArray.empty,.string ByteArray.empty]
theorem yX (w:World)(ty:TypeId)(b o c:Nat)
 (hc:∀j,j<6->(w.cell? ⟨b,o+j,none⟩).isSome=true) (hf:∀j,j<6->w.frozen? ⟨b,o+j,none⟩=false) :
 (Builtin.clear_ #[25] ty #[.slice (some ⟨b,o,none⟩) 1 c]).run prog w=.ok (.tuple #[]) (w.setCells b o NQ):=by
 have hzc:(Builtin.zeroCells (Value.agg #[.int .i64 0,.int .i64 0,.int .i64 0,.string ⟨#[]⟩,.string ⟨#[]⟩,.string ⟨#[]⟩]).cells 1).toList=NQ:=by kernel_rfl
 have hst:=run_storeCells_cells (P:=prog) b o NQ 0 w (by simpa[NQ] using hc) (by simpa[NQ] using hf) (by intro v hv';simp only[NQ,List.mem_cons,List.not_mem_nil,or_false] at hv';rcases hv' with q|q|q|q|q|q<;>(subst q;rfl));simp only[Nat.add_zero] at hst;simp[Builtin.clear_,run_underlying underlying25,Tryz.zeroValue45,hzc,hst]
theorem Il (B g c i m:Nat)(es:List Rc)(w:World)(hn:es.length=i+1+m)(ha:dA w B (.slice (some ⟨g,0,none⟩) (i+1+m) c) es)(je:es.length<=200)(hc:i+1+m<=c) :
 Calls prog 83 #[.slice (some ⟨g,0,none⟩) (i+1+m) c,.int .i64 i,.int .i64 (i+1)] w λe w' =>
  e=.returned (.slice (some ⟨g,0,none⟩) (i+m) c)/\w'=(w.drew.setCells g (0+i*6) ((aG es).drop ((i+1)*6))).setCells g ((i+m)*6) NQ:=by
 obtain⟨i0,hi0,hz0,hz1,hz2⟩:=info_parts Jf;obtain⟨news,hnews⟩:∃news,news=(aG es).drop ((i+1)*6):=⟨_,rfl⟩;have hlen:news.length=m*6:=by rw[hnews,List.length_drop,bQ,hn];omega
 obtain⟨cur,hg,hcs⟩:∃cur,w.heap[g]?=some (.cells cur 45 (0,0))/\cur.size=c*6:=by
  rcases ha.2 with ⟨q,_⟩|⟨g',cap',cur,q,h2,h3,h4,h5,h6,h7⟩
  ·cases q
  ·simp only[Value.slice.injEq,Option.some.injEq,Addr.mk.injEq,and_true] at q;obtain⟨rfl,_,rfl⟩:=q;exact⟨cur,h3,h6⟩
 have hsp:∀j,j<c*6->(w.cell? ⟨g,j,none⟩).isSome=true:=by
  intro j hj;rw[cell_of_row w g j _ _ _ hg,Array.getElem?_eq_getElem (by omega)];rfl
 have hfz:∀j,w.frozen? ⟨g,j,none⟩=false:=λj=>frozen_of_row w g j _ _ hg
 have hcell:∀j u,(aG es)[j]?=some u->w.cell? ⟨g,j,none⟩=some u:=by
  intro j u hj;rw[<-hn] at ha;exact ha.cell j u hj
 obtain⟨A,hA,hsrc⟩:∃A:Addr,(if c=i+1 then some (⟨g,0,none⟩:Addr) else some ⟨g,(i+1)*6,none⟩)=some A/\Hid (∀t u,news[t]?=some u->w.drew.cell? (A.add t)=some u):=by
  by_cases h:c=i+1
  ·refine⟨⟨g,0,none⟩,by simp[h],λt u hu=>?_⟩;have h0:news.length=0:=by rw[hlen];omega
   rw[List.length_eq_zero_iff.1 h0] at hu;simp at hu
  ·refine⟨⟨g,(i+1)*6,none⟩,by simp[h],λt u hu=>?_⟩;rw[Addr.add_lit];refine hcell _ u ?_;rw[hnews,List.getElem?_drop] at hu;exact hu
 have s1:=aj hlen;have s2:Hid (∀u∈news,u.oneCell'=true):=by
  intro u hu;rw[hnews] at hu;exact lH es u (List.mem_of_mem_drop hu)
 have s3:Hid (∀t,t<news.length->(w.drew.cell? ⟨g,0+i*6+t,none⟩).isSome=true/\w.drew.frozen? ⟨g,0+i*6+t,none⟩=false):=by
  intro t ht;rw[hlen] at ht;exact⟨hsp _ (by omega),hfz _⟩
 obtain⟨W1,hW1⟩:∃W1,W1=w.drew.setCells g (0+i*6) news:=⟨_,rfl⟩;have hcl:∀ty c',(Builtin.clear_ #[25] ty #[.slice (some ⟨g,(i+m)*6,none⟩) 1 c']).run prog W1=.ok (.tuple #[]) (W1.setCells g ((i+m)*6) NQ):=λty c' =>
  yX W1 ty g ((i+m)*6) c' (λj hj=>by
   rw[hW1];exact isSome_setCells g news (0+i*6) w.drew (λt ht=>hsp _ (by rw[hlen] at ht;omega)) _ (hsp _ (by omega)))
   (λj hj=>by rw[hW1,World.frozen?_setCells];exact hfz _)
 have hW:Hid (W1=w.drew.setCells g (0+i*6) news):=hW1;rw[<-hnews];clear hW1 hsp hfz hcell hg ha hnews hlen hz0 hz2;have hic:i<=c:=by omega
 have hjc:i+1<=c:=by omega
 have b1:(0:Int)<=(i:Int)+1:=by omega
 have b2:(i:Int)+1<=(i:Int)+1+(m:Int):=by omega
 have q1:¬(c=i+m):=by omega
 have q2:i+1+m-(i+m)=1:=by omega
 go_enter func83,ntmps83;go_wp2_with fail;go_region_law (refine step_append_room rfl (.tmp 22) (.tmp 25) 25 rfl 45 i0 6 underlying25 hi0 hz1 g 0 i c (by simp[Act.eval,Act.put]) A m (c-(i+1)) news (by simp[Act.eval,Act.put]) s1.out hsrc.out s2.out (by omega) s3.out ?_;rw[<-hW.out])
 go_wp2;go_ret;exact⟨rfl,by rw[hW.out]⟩
theorem Na (es:List Rc)(i m:Nat)(hn:es.length=i+1+m) :
 ((((aG es).take (i*6)++(aG es).drop ((i+1)*6)++(aG es).drop (i*6+((aG es).drop ((i+1)*6)).length)).take ((i+m)*6)++NQ++((aG es).take (i*6)++(aG es).drop ((i+1)*6)++(aG es).drop (i*6+((aG es).drop ((i+1)*6)).length)).drop ((i+m)*6+NQ.length)).take ((i+m)*6))=aG (yQ es i):=by
 have hcl:(aG es).length=(i+1+m)*6:=by rw[bQ,hn]
 have h1:((aG es).take (i*6)++(aG es).drop ((i+1)*6)).length=(i+m)*6:=by rw[List.length_append,List.length_take,List.length_drop,hcl];omega
 have h2:((aG es).take (i*6)++(aG es).drop ((i+1)*6)++(aG es).drop (i*6+((aG es).drop ((i+1)*6)).length)).take ((i+m)*6)=(aG es).take (i*6)++(aG es).drop ((i+1)*6):=by
  rw[List.take_append_of_le_length (by omega),List.take_of_length_le (by omega)]
 rw[h2,List.append_assoc ((aG es).take (i*6)++(aG es).drop ((i+1)*6)),List.take_append_of_le_length (by omega),List.take_of_length_le (by omega)];unfold yQ;rw[kG,Aj,uo]
theorem FK (B:Nat)(v:Value)(es:List Rc)(i:Nat)(w:World)(ha:dA w B v es)(hi:i<es.length)(je:es.length<=200) :
 Calls prog 83 #[v,.int .i64 i,.int .i64 (i+1)] w λe w'=>∃v',e=.returned v'/\dA w' B v' (yQ es i)/\aF (λk=>v.ownBlock=some k) w w'/\∀g,v'.ownBlock=some g->v.ownBlock=some g\/w.heap.size<=g:=by
 obtain⟨g,cap,rfl,c1,c2,c3,c4⟩:=ha.there (by omega);obtain⟨m,hn⟩:∃m,es.length=i+1+m:=⟨es.length-(i+1),by omega⟩;rw[hn] at ha c1 ⊢;refine(Il B g cap i m es w hn ha je c1).mono ?_;rintro e w' ⟨rfl,rfl⟩;refine⟨_,rfl,?_,?_,λg' hg'=>.inl hg'⟩
 ·have o0:w.drew.ownsRow B 45 6 (.slice (some ⟨g,0,none⟩) (i+1+m) cap) (i+1+m) (aG es):=by
   unfold dA at ha;rw[hn] at ha;exact ha
  have hcl:(aG es).length=(i+1+m)*6:=by rw[bQ,hn]
  have hdl:((aG es).drop ((i+1)*6)).length=m*6:=by rw[List.length_drop,hcl];omega
  have o1:=fC ((aG es).drop ((i+1)*6)) (i*6) _ _ o0 (by rw[hcl,hdl];omega);have o2:=fC NQ ((i+m)*6) _ _ o1 (by
   simp only[List.length_append,List.length_take,List.length_drop,hcl,show NQ.length=6 from rfl];omega)
  have o3:=oC (k:=i+m) o2 (by omega);rw[Na es i m hn] at o3;unfold dA;rw[EM hi,hn,show i+1+m-1=i+m by omega,Nat.zero_add];exact o3
 ·have c:aF (λk=>k=g) w w.drew:=⟨rfl,rfl,rfl,Nat.le_refl _,λ_ _ _=>rfl⟩;exact((c.trans (QF (fD _ _ _))).trans (QF (fD _ _ _))).mono (λk _ hk=>by rw[hk];rfl)
end Dk
namespace Dk
theorem yJ (x:Int)(w:World) :
 Calls prog 96 #[.int .i64 x] w λe w'=>e=.returned (.bool false)/\w'=w:=by
 go_enter func96,ntmps96;go_wp2;go_ret;exact⟨iZ (by simp),rfl⟩
def ng (x y:Int):Int:=if x<y then -1 else if y<x then 1 else 0
theorem FM (x y:Int)(w:World) :
 Calls prog 67 #[.int .i64 x,.int .i64 y] w λe w'=>e=.returned (.int .i64 (ng x y))/\w'=w:=by
 by_cases h1:x<y
 ·have Hr:=aj (show ng x y=-1 from if_pos h1);go_enter func67,ntmps67;go_wp2_with (first|(go_at_call 96;refine(yJ _ _).mono ?_;rintro e w' ⟨rfl,rfl⟩));go_ret;exact⟨fQ (ah Hr),rfl⟩
 ·by_cases h2:y<x
  ·have Hr:=aj (show ng x y=1 by unfold ng;rw[if_neg h1,if_pos h2]);go_enter func67,ntmps67;go_wp2_with (first|(go_at_call 96;refine(yJ _ _).mono ?_;rintro e w' ⟨rfl,rfl⟩));go_ret;exact⟨fQ (ah Hr),rfl⟩
  ·have Hr:=aj (show ng x y=0 by unfold ng;rw[if_neg h1,if_neg h2]);go_enter func67,ntmps67;go_wp2_with (first|(go_at_call 96;refine(yJ _ _).mono ?_;rintro e w' ⟨rfl,rfl⟩));go_ret;exact⟨fQ (ah Hr),rfl⟩
theorem yK (r:Rc)(n:Int)(w:World) :
 Calls prog 111 #[.agg #[.int .i64 r.k,.int .i64 r.q,.int .i64 r.t,.string r.s,.string r.h,.string r.d],.int .i64 n] w λe w'=>e=.returned (.int .i64 (ng r.q n))/\Below w.heap.size w w':=by
 go_enter func111,ntmps111;go_wp2_with fail;refine(FM _ n _).mono ?_;rintro e w1 ⟨rfl,rfl⟩;go_wp2_with fail;go_ret;exact⟨rfl,(Below.refl _ _).alloc (Nat.le_refl _) _⟩
theorem vX (x y:Int):ng x y<0↔x<y:=by
 unfold ng;split
 ·omega
 ·split<;>omega
theorem vY (x y:Int):ng x y=0↔x=y:=by
 unfold ng;split
 ·omega
 ·split<;>omega
theorem FN (a:Option Addr)(cap:Nat)(l:List Rc)(n:Int)(w:World)(hsl:Dl w a l)(hord:gK l)(fA:l.length<=200) :
 Calls prog 110 #[.slice a l.length cap,.int .i64 n,.func (.func 111) #[] #[]] w λe w'=>e=.returned (.tuple #[.int .i64 (pq l n),.bool (seqB l n)])/\Below w.heap.size w w':=by
 have yA:=aj hord;clear hord;go_enter func110,ntmps110;go_wp2;go_loopw [9,10] (λiv jv wr=>∃(i j:Nat),iv=.int .i64 i/\jv=.int .i64 j/\i<=j/\j<=l.length/\Hid (∀k,k<i->(rc l k).q<n)/\Hid (∀k,j<=k->k<l.length->n<=(rc l k).q)/\Hid (Dl wr a l)/\Below w.heap.size w wr) (λiv jv _=>(intOf jv).toNat-(intOf iv).toNat)
 case atStart=>exact⟨0,l.length,rfl,rfl,Nat.zero_le _,Nat.le_refl _,aj (λk hk=>absurd hk (Nat.not_lt_zero k)),aj (λk h1 h2=>by omega),aj hsl,Below.refl _ _⟩
 case round =>
  obtain⟨i,j,rfl,rfl,hij,hj,hlo,hhi,hsl2,hb⟩:=hrel;by_cases hlt:i<j
  ·obtain⟨h,hh⟩:∃h:Nat,h=(i+j) / 2:=⟨_,rfl⟩;have hh1:i<=h/\h<j:=by omega
   obtain⟨g,o,rfl,s6⟩:=ah hsl2 h (by omega);have hmid:((i:Int)+(j:Int)) / 2=(h:Int):=by omega
   clear hh;have H:=aj (yK (rc l h) n wr);obtain⟨_,x0,x1,x2,x3,x4,x5⟩:=s6;by_cases he:(rc l h).q<n
   ·have hz:ng (rc l h).q n<0:=(vX _ _).2 he;have He:=aj he;clear he;go_wp2_with fail;refine(ah H).mono ?_;rintro e w1 ⟨rfl,hb1⟩;clear x0 x1 x2 x3 x4 x5;go_wp2_with fail;refine⟨⟨h+1,j,by go_num,rfl,by omega,hj,aj (λk hk=>?_),hhi,aj ((ah hsl2).below hb1),aA hb hb1⟩,?_⟩
    ·rcases Nat.lt_succ_iff_lt_or_eq.1 hk with q|q
     ·have:=oM (ah yA) q (by omega);have:=ah He;omega
     ·rw[q];exact ah He
    ·simp[intOf];omega
   ·have hz:¬ng (rc l h).q n<0:=λz=>he ((vX _ _).1 z)
    have He:=aj he;clear he;go_wp2_with fail;refine(ah H).mono ?_;rintro e w1 ⟨rfl,hb1⟩;clear x0 x1 x2 x3 x4 x5;go_wp2_with fail;refine⟨⟨i,h,rfl,rfl,by omega,by omega,hlo,aj (λk hk hk2=>?_),aj ((ah hsl2).below hb1),aA hb hb1⟩,?_⟩
    ·have:=ah He;rcases Nat.eq_or_lt_of_le hk with q|q
     ·rw[<-q];omega
     ·have:=oM (ah yA) q hk2;omega
    ·simp[intOf];omega
  ·obtain rfl:i=j:=by omega
   have hpl:=Vo (n:=n) hj (ah hlo) (ah hhi);by_cases hl:i<l.length
   ·obtain⟨g,o,rfl,s6⟩:=ah hsl2 i (by omega);have H:=aj (yK (rc l i) n wr);obtain⟨_,x0,x1,x2,x3,x4,x5⟩:=s6;have hha:=O9 (ah yA) (n:=n) (by rw[<-hpl];exact hl);rw[<-hpl] at hha;have Yg:=aj hha;have Hpl:=aj hpl;clear hpl hha;go_wp2_with fail;refine(ah H).mono ?_;rintro e w1 ⟨rfl,hb1⟩;clear x0 x1 x2 x3 x4 x5;go_wp2_with fail;go_ret2;refine⟨oO ?_ ?_,aA hb hb1⟩
    ·rw[<-ah Hpl]
    ·rw[ah Yg];by_cases z:(rc l i).q=n
     ·rw[decide_eq_true z,(vY _ _).2 z];rfl
     ·have:¬ng (rc l i).q n=0:=λy=>z ((vY _ _).1 y)
      rw[decide_eq_false z];simp[this]
   ·have Hpl:=aj hpl;have Hs:=aj (TI (ah yA) (n:=n) (by rw[<-hpl];exact hl));clear hpl;go_wp2_with fail;go_ret2;refine⟨oO ?_ ?_,hb⟩
    ·rw[<-ah Hpl]
    ·exact ah Hs
theorem jX {w:World}{B q:Nat}{v u:Value}{l:List Rc}{es:List aJ}{last:Int}(n:Int)(h:kD w B q v u l es last)(hr:gK l)(fA:l.length<=200) :
 Calls prog 81 #[.pointer (some ⟨q,0,none⟩),.int .i64 n] w λe w'=>e=.returned (.tuple #[.int .i64 (pq l n),.bool (seqB l n)])/\Below w.heap.size w w':=by
 obtain⟨a,cap,rfl,_,_,hsl⟩:=h.msgs.shape;have hc:=h.c0;go_enter func81,ntmps81;go_wp2_with fail;refine(FN a cap l n _ hsl hr fA).mono ?_;rintro e w1 ⟨rfl,hb⟩;go_wp2_with fail;go_ret2;exact⟨rfl,hb⟩
theorem dA.src {w:World}{B:Nat}{v:Value}{l:List Rc}(h:dA w B v l):Src prog 6 25 v l.length (aG l) w:=by
 rcases h.2 with ⟨h1,h2⟩|⟨g,cap,cur,h1,h2,h3,h4,h5,h6,h7⟩
 ·have:l=[]:=List.length_eq_zero_iff.1 h2;subst this;rw[h1];exact Src.ofNil w underlying25 0
 ·rw[h1] at h ⊢;exact Src.ofSlice w underlying25 ⟨g,0,none⟩ l.length cap (aG l) (bQ l) (World.ownsRow.cells h (g:=g) rfl) (lH l)
theorem sK (w:World)(ty:TypeId)(b o dLen dCap:Nat)(x:Value)(m:Nat)(news:List Value)(hs:Src prog 6 25 x m news w)(hm:m<=dLen)
 (hc:∀j,j<news.length->(w.cell? ⟨b,o+j,none⟩).isSome=true) (hf:∀j,j<news.length->w.frozen? ⟨b,o+j,none⟩=false) :
 (Builtin.copy_ #[25,25] ty #[.slice (some ⟨b,o,none⟩) dLen dCap,x]).run prog w=.ok (goInt m) (w.setCells b o news):=by
 have hst:=run_storeCells_cells (P:=prog) b o news 0 w (by simpa using hc) (by simpa using hf) hs.one;simp only[Nat.add_zero] at hst;obtain⟨i0,hi,hz0,hz1,hz2⟩:=info_parts Jf;have hmin:Nat.min m dLen=m:=Nat.min_eq_left hm;simp[Builtin.copy_,run_underlying underlying25,sizeOf,typeInfo,hi,hz1,hs.len,hmin,hs.cells,hst]
def QG:Array Value:=(Value.agg #[.int .i64 0,.int .i64 0,.int .i64 0,.string ⟨#[]⟩,.string ⟨#[]⟩,.string ⟨#[]⟩]).cells
theorem Ak:QG=#[.int .i64 0,.int .i64 0,.int .i64 0,.string ⟨#[]⟩,.string ⟨#[]⟩,.string ⟨#[]⟩]:=by kernel_rfl
def fU (n:Nat):List Value:=(Builtin.zeroCells QG n).toList
theorem fG (n:Nat):(fU n).length=n*6:=by
 unfold fU Builtin.zeroCells;rw[Ak];simp
theorem Io (n:Nat):∀v∈fU n,v.oneCell'=true:=by
 intro v h;unfold fU Builtin.zeroCells at h;rw[Ak] at h;simp only[Array.toList_map,List.mem_map] at h;obtain⟨i,_,rfl⟩:=h;have hi:i % 6<6:=Nat.mod_lt _ (by decide);have e:∀j,j<6->((#[.int .i64 0,.int .i64 0,.int .i64 0,.string ⟨#[]⟩,.string ⟨#[]⟩,.string ⟨#[]⟩]:Array Value)[j]!).oneCell'=true:=by decide +kernel
 exact e _ hi
theorem pU (w:World)(ty:TypeId)(b o n c:Nat)(hn:0<n)
 (hc:∀j,j<n*6->(w.cell? ⟨b,o+j,none⟩).isSome=true) (hf:∀j,j<n*6->w.frozen? ⟨b,o+j,none⟩=false) :
 (Builtin.clear_ #[25] ty #[.slice (some ⟨b,o,none⟩) n c]).run prog w=.ok (.tuple #[]) (w.setCells b o (fU n)):=by
 obtain⟨m,rfl⟩:∃m,n=m+1:=⟨n-1,by omega⟩;have hst:=run_storeCells_cells (P:=prog) b o (fU (m+1)) 0 w (by rw[fG];simpa using hc) (by rw[fG];simpa using hf) (Io _);simp only[Nat.add_zero] at hst;have hz:(Builtin.zeroCells (Value.agg #[.int .i64 0,.int .i64 0,.int .i64 0,.string ⟨#[]⟩,.string ⟨#[]⟩,.string ⟨#[]⟩]).cells (m+1)).toList=fU (m+1):=rfl;simp[Builtin.clear_,run_underlying underlying25,Tryz.zeroValue45,hz,hst]
theorem pV (w:World)(ty:TypeId)(a:Option Addr)(c:Nat) :
 (Builtin.clear_ #[25] ty #[.slice a 0 c]).run prog w=.ok (.tuple #[]) w:=by
 cases a<;>simp[Builtin.clear_,run_underlying underlying25]
theorem Nc (xs a d z:List Value) :
 let y1:=xs.take 0++a++xs.drop (0+a.length)
 let y2:=y1.take a.length++d++y1.drop (a.length+d.length)
 let y3:=y2.take (a.length+d.length)++z++y2.drop (a.length+d.length+z.length)
 y3.take (a.length+d.length)=a++d:=by
 intro y1 y2 y3;have e1:y1.take a.length=a:=by
  show(xs.take 0++a++xs.drop (0+a.length)).take a.length=a;rw[List.take_zero,List.nil_append,List.take_append_of_le_length (Nat.le_refl _),List.take_length]
 have e2:y2.take (a.length+d.length)=a++d:=by
  show(y1.take a.length++d++y1.drop (a.length+d.length)).take (a.length+d.length)=a++d;rw[e1,List.take_append_of_le_length (by rw[List.length_append];omega),List.take_of_length_le (by rw[List.length_append];omega)]
 show(y2.take (a.length+d.length)++z++y2.drop (a.length+d.length+z.length)).take (a.length+d.length)=a++d;rw[e2,List.append_assoc,List.take_append_of_le_length (by rw[List.length_append];omega),List.take_of_length_le (by rw[List.length_append];omega)]
theorem CU {w:World}{B g cap p:Nat}{l A:List Rc}(ha:dA w B (.slice (some ⟨g,0,none⟩) l.length cap) l)(hA:A.length<=p)(hp:p<=l.length){w3:World}
 (h3:w3=((w.setCells g 0 (aG A)).setCells g (A.length*6) ((aG l).drop (p*6))).setCells g ((A.length+(l.length-p))*6) (fU (p-A.length))) :
 dA w3 B (.slice (some ⟨g,0,none⟩) (A++l.drop p).length cap) (A++l.drop p)/\aF (λk=>k=g) w w3:=by
 have hxs:=bQ l;have hla:=bQ A;have hld:((aG l).drop (p*6)).length=(l.length-p)*6:=by rw[List.length_drop,hxs];omega
 have hlz:=fG (p-A.length);refine⟨?_,by rw[h3];exact QF (((fD _ _ _).trans (fD _ _ _)).trans (fD _ _ _))⟩;have o1:=fC (aG A) 0 _ _ ha (by rw[hla,hxs];omega);have o2:=fC ((aG l).drop (p*6)) (aG A).length _ _ o1 (by simp only[List.length_append,List.length_take,List.length_drop,hxs,hla];omega);have o3:=fC (fU (p-A.length)) ((aG A).length+((aG l).drop (p*6)).length) _ _ o2 (by simp only[List.length_append,List.length_take,List.length_drop,hxs,hla,hlz];omega);have o4:=oC (k:=A.length+(l.length-p)) o3 (by omega);have e:=Nc (aG l) (aG A) ((aG l).drop (p*6)) (fU (p-A.length))
 have ek:(A.length+(l.length-p))*6=(aG A).length+((aG l).drop (p*6)).length:=by rw[hla,hld];omega
 rw[<-ek] at o4 e;dsimp only at e;have hlen:(A++l.drop p).length=A.length+(l.length-p):=by rw[List.length_append,List.length_drop]
 unfold dA;rw[hlen,kG,uo,h3];rw[hla] at o4 e;rw[e] at o4;exact o4
theorem FP (a:Option Addr)(n cap:Nat)(a2:Option Addr)(c2:Nat)(w:World) :
 Calls prog 113 #[.slice a n cap,.int .i64 0,.slice a2 0 c2] w λe w'=>e=.returned (.slice a n cap)/\w'=w:=by
 go_enter func113,ntmps113;go_wp2_with fail;go_ret;exact⟨rfl,rfl⟩
theorem CV (a:Option Addr)(n cap:Nat)(a2:Option Addr)(c2:Nat)(w:World) :
 Calls prog 85 #[.slice a n cap,.int .i64 0,.int .i64 0,.slice a2 0 c2] w λe w'=>e=.returned (.slice a n cap)/\w'=w:=by
 go_enter func85,ntmps85;go_wp2_with fail;refine(FP a n cap a2 c2 _).mono ?_;rintro e w1 ⟨rfl,rfl⟩;go_wp2_with fail;go_ret;exact⟨rfl,rfl⟩
theorem CX (g n cap:Nat)(a2:Option Addr)(c2:Nat)(w W1:World)(hn:n<=200)(hc:n<=cap)(h0:0<n)
 (hr:∀ty,(Builtin.append_ #[25,25] ty #[.slice (some ⟨g,0,none⟩) 0 cap,.slice a2 n c2]).run prog w=.ok (.slice (some ⟨g,0,none⟩) n cap) W1) :
 Calls prog 85 #[.slice (some ⟨g,0,none⟩) n cap,.int .i64 0,.int .i64 n,.slice a2 n c2] w λe w'=>e=.returned (.slice (some ⟨g,0,none⟩) n cap)/\w'=W1:=by
 have e0:((0:Int)==(n:Int))=false:=by simp;omega
 go_enter func85,ntmps85;go_wp2_with (at_builtin;refine Lib.wpList_append_run _ rfl _ _ _ _ rfl _ _ rfl rfl _ _ (hr _) ?_);go_ret;exact⟨rfl,rfl⟩
theorem FQ (g m d cap:Nat)(a2:Option Addr)(c2:Nat)(w W1 W2:World)(hn:m+d<=200)(hc:m+d<=cap)(h0:0<d)
 (hr:∀ty,(Builtin.append_ #[25,25] ty #[.slice (some ⟨g,0,none⟩) 0 cap,.slice a2 m c2]).run prog w=.ok (.slice (some ⟨g,0,none⟩) m cap) W1)
 (hcl:∀ty c,(Builtin.clear_ #[25] ty #[.slice (some ⟨g,m*6,none⟩) d c]).run prog W1=.ok (.tuple #[]) W2) :
 Calls prog 85 #[.slice (some ⟨g,0,none⟩) (m+d) cap,.int .i64 0,.int .i64 (m+d),.slice a2 m c2] w λe w'=>e=.returned (.slice (some ⟨g,0,none⟩) m cap)/\w'=W2:=by
 have e0:((0:Int)==(m:Int)+(d:Int))=false:=by simp;omega
 have e1:¬cap=m:=by omega
 have e2:m+d-m=d:=by omega
 have e3:(m:Int)<(m:Int)+(d:Int):=by omega
 have e4:(0:Int)<=(m:Int)+(d:Int):=by omega
 have e5:m<=cap:=by omega
 have e6:((m:Int)+(d:Int)).toNat=m+d:=by omega
 go_enter func85,ntmps85;go_wp2_with (at_builtin;refine Lib.wpList_append_run _ rfl _ _ _ _ rfl _ _ rfl rfl _ _ (hr _) ?_);go_ret;exact⟨rfl,rfl⟩
theorem CY (g m p d cap:Nat)(a2:Option Addr)(c2:Nat)(w:World)(W1 W2 W3:Nat->World)(hn:p+d<=200)(hc:p+d<=cap)(h0:0<d)(hm:m<=p)(hp:0<p)
 (hc1:∀k ty,(Builtin.copy_ #[25,25] ty #[.slice (some ⟨g,0,none⟩) (m+d) cap,.slice a2 m c2]).run prog (w.drewN k)=.ok (goInt m) (W1 k))
 (hc2:∀k ty c c',(Builtin.copy_ #[25,25] ty #[.slice (some ⟨g,m*6,none⟩) d c,.slice (some ⟨g,p*6,none⟩) d c']).run prog (W1 k).drew=.ok (goInt d) (W2 k))
 (QH:p=m->∀k ty c A,(Builtin.clear_ #[25] ty #[.slice (some A) (p+d-(m+d)) c]).run prog (W2 k)=.ok (.tuple #[]) (W3 k))
 (QI:∀k ty c,(Builtin.clear_ #[25] ty #[.slice (some ⟨g,(m+d)*6,none⟩) (p+d-(m+d)) c]).run prog (W2 k)=.ok (.tuple #[]) (W3 k)) :
 Calls prog 85 #[.slice (some ⟨g,0,none⟩) (p+d) cap,.int .i64 0,.int .i64 p,.slice a2 m c2] w λe w'=>e=.returned (.slice (some ⟨g,0,none⟩) (m+d) cap)/\∃k,w'=W3 k:=by
 have e0:((0:Int)==(p:Int))=false:=by simp;omega
 have e1:¬cap=m:=by omega
 have e2:¬cap=p:=by omega
 have e3:p+d-p=d:=by omega
 have e4:((p:Int)==(p:Int)+(d:Int))=false:=by simp;omega
 have e5:¬(cap:Int)<(m:Int)+(d:Int):=by omega
 have e6:(m:Int)<=(p:Int):=by omega
 have e7:((m:Int)+(d:Int)).toNat=m+d:=by omega
 have e8:m+d-m=d:=by omega
 have e9:¬cap=0:=by omega
 have hw:IntKind.i64.wrap (m:Int)=(m:Int):=by rw[IntKind.wrap_i64];omega
 have ea:(m:Int)<=(m:Int)+(d:Int):=by omega
 have eb:(p:Int)<=(p:Int)+(d:Int):=by omega
 by_cases q:p=m
 ·have hcl:=QH q;clear QH QI q;go_enter func85,ntmps85;go_wp2_with fail;go_quiet (fail)
  go_wp2_with fail;go_region_law (refine step_copy_runI rfl _ _ 25 25 rfl (.slice (some ⟨g,m*6,none⟩) d (cap-m)) (.slice (some ⟨g,p*6,none⟩) d (cap-p)) (by simp[Act.eval,Act.put]) (by simp[Act.eval,Act.put]) (hc2 nq _ _ _) ?_)
  all_goals go_wp2_with fail
  all_goals go_ret
  all_goals first|exact⟨rfl,_,rfl⟩|exact⟨by first|(rw[‹cap=m+d›];rfl)|simp[*],_,rfl⟩
 ·have hcl:=QI;have ec:¬cap=m+d:=by omega
  clear QH QI q;go_enter func85,ntmps85;go_wp2_with fail;go_quiet (fail)
  go_wp2_with fail;go_region_law (refine step_copy_runI rfl _ _ 25 25 rfl (.slice (some ⟨g,m*6,none⟩) d (cap-m)) (.slice (some ⟨g,p*6,none⟩) d (cap-p)) (by simp[Act.eval,Act.put]) (by simp[Act.eval,Act.put]) (hc2 nq _ _ _) ?_)
  all_goals go_wp2_with fail
  all_goals go_ret
  all_goals first|exact⟨rfl,_,rfl⟩|exact⟨by first|(rw[‹cap=m+d›];rfl)|simp[*],_,rfl⟩
theorem lS {g:Nat}:∀(vs:List Value) (o:Nat) (w:World),(w.setCells g o vs).drew=w.drew.setCells g o vs
 | [],_,_=>rfl
 | v::r,o,w=>by
  rw[World.setCells,World.setCells,lS r (o+1)];rfl
theorem uq {w:World}{g N:Nat}(h:∀j,j<N->(w.cell? ⟨g,j,none⟩).isSome=true)(vs:List Value)(o:Nat)(hv:o+vs.length<=N):∀j,j<N->((w.setCells g o vs).cell? ⟨g,j,none⟩).isSome=true:=λj hj =>
 isSome_setCells g vs o w (λt ht=>h _ (by omega)) _ (h j hj)
theorem FT {w:World}{B B2 p:Nat}{v sv:Value}{l A:List Rc}(ha:dA w B v l)(hs:dA w B2 sv A)(hA:A.length<=p)(hp:p<=l.length)(fA:l.length<=200)(hne:∀g,v.ownBlock=some g->sv.ownBlock≠some g) :
 Calls prog 85 #[v,.int .i64 0,.int .i64 p,sv] w λe w'=>∃v',e=.returned v'/\dA w' B v' (A++l.drop p)/\aF (λk=>v.ownBlock=some k) w w'/\∀g,v'.ownBlock=some g->v.ownBlock=some g\/w.heap.size<=g:=by
 obtain⟨a2,c2,rfl,_⟩:=hs.shape;rcases Nat.eq_zero_or_pos p with h0|h0
 ·subst h0;have hA0:A=[]:=List.length_eq_zero_iff.1 (by omega);subst hA0;obtain⟨a,cap,rfl,_⟩:=ha.shape;refine(CV a l.length cap a2 c2 w).mono ?_;rintro e w' ⟨rfl,rfl⟩;exact⟨_,rfl,ha,aF.refl _ _,λg hg=>.inl hg⟩
 ·obtain⟨g,cap,rfl,c1,c2',c3,c4⟩:=ha.there (by omega);obtain⟨cur,hg,hcs⟩:∃cur,w.heap[g]?=some (.cells cur 45 (0,0))/\cur.size=cap*6:=by
   rcases ha.2 with ⟨q,_⟩|⟨g',cap',cur,q,h2,h3,h4,h5,h6,h7⟩
   ·cases q
   ·simp only[Value.slice.injEq,Option.some.injEq,Addr.mk.injEq,and_true] at q;obtain⟨rfl,_,rfl⟩:=q;exact⟨cur,h3,h6⟩
  have hsp:∀j,j<cap*6->(w.cell? ⟨g,j,none⟩).isSome=true:=λj hj=>by
   rw[cell_of_row w g j _ _ _ hg,Array.getElem?_eq_getElem (by omega)];rfl
  have hfz:∀j,w.frozen? ⟨g,j,none⟩=false:=λj=>frozen_of_row w g j _ _ hg
  obtain⟨i0,hi0,hz0,hz1,hz2⟩:=info_parts Jf;have hla:=bQ A;have hlz:=fG (p-A.length);have hld:((aG l).drop (p*6)).length=(l.length-p)*6:=by rw[List.length_drop,bQ];omega
  have hap:∀X:World,Src prog 6 25 (.slice a2 A.length c2) A.length (aG A) X->(∀j,j<cap*6->(X.cell? ⟨g,j,none⟩).isSome=true)->(∀j,X.frozen? ⟨g,j,none⟩=false)->∀ty,(Builtin.append_ #[25,25] ty #[.slice (some ⟨g,0,none⟩) 0 cap,.slice a2 A.length c2]).run prog X=.ok (.slice (some ⟨g,0,none⟩) A.length cap) (X.setCells g 0 (aG A)):=λX hX h1 h2 ty=>by
   have:=run_append_room_src (P:=prog) X 25 25 ty 45 i0 underlying25 hi0 g 0 0 cap (.slice a2 A.length c2) A.length (aG A) (by rw[hz1];exact hX) (by omega) (λj hj=>by rw[hla] at hj;exact h1 _ (by omega)) (λj _=>h2 _);simpa using this
  rcases Nat.eq_or_lt_of_le hp with hpl|hpl
  ·have hd0:(aG l).drop (p*6)=[]:=List.length_eq_zero_iff.1 (by rw[hld];omega);rcases Nat.eq_or_lt_of_le hA with hAl|hAl
   ·have hz:fU (p-A.length)=[]:=List.length_eq_zero_iff.1 (by rw[hlz];omega);have e3:=CU (A:=A) (p:=p) ha hA hp (w3:=w.setCells g 0 (aG A)) (by rw[hd0,hz];rfl);have hr:=hap w hs.src hsp hfz;rw[show A.length=l.length by omega] at hr ⊢;rw[show p=l.length by omega] at e3 ⊢;refine(CX g l.length cap a2 c2 w _ fA c1 (by omega) hr).mono ?_;rintro e w' ⟨rfl,rfl⟩;refine⟨_,rfl,?_,e3.2.mono (λk _ z=>by rw[z];rfl),λg' hg'=>.inl hg'⟩;have:=e3.1;rw[show(A++l.drop l.length).length=l.length by simp;omega] at this;exact this
   ·obtain⟨d,hd⟩:∃d,l.length=A.length+d:=⟨l.length-A.length,by omega⟩;have hzd:p-A.length=d:=by omega
    have e3:=CU (A:=A) (p:=p) ha hA hp (w3:=(w.setCells g 0 (aG A)).setCells g (A.length*6) (fU d)) (by rw[hd0,hzd,show(A.length+(l.length-p))*6=A.length*6 by omega];rfl);have hr:=hap w hs.src hsp hfz;have hcl:∀ty c,(Builtin.clear_ #[25] ty #[.slice (some ⟨g,A.length*6,none⟩) d c]).run prog (w.setCells g 0 (aG A))=.ok (.tuple #[]) ((w.setCells g 0 (aG A)).setCells g (A.length*6) (fU d)):=λty c =>
     pU _ ty g (A.length*6) d c (by omega) (λj hj=>uq hsp _ _ (by rw[hla];omega) _ (by omega)) (λj _=>by rw[World.frozen?_setCells];exact hfz _)
    have hpe:(p:Int)=(A.length:Int)+(d:Int):=by omega
    rw[hd,hpe];refine(FQ g A.length d cap a2 c2 w _ _ (by omega) (by omega) (by omega) hr hcl).mono ?_;rintro e w' ⟨rfl,rfl⟩;refine⟨_,rfl,?_,e3.2.mono (λk _ z=>by rw[z];rfl),λg' hg'=>.inl hg'⟩;have:=e3.1;rw[show(A++l.drop p).length=A.length by simp;omega] at this;exact this
  ·obtain⟨d,hd⟩:∃d,l.length=p+d:=⟨l.length-p,by omega⟩;have hle:((aG l).drop (p*6)).length=d*6:=by rw[hld];omega
   have hbk:∀k,Below w.heap.size w (w.drewN k):=λk=>below_drewN (Below.refl _ _) k
   have e3:∀k,dA _ B (.slice (some ⟨g,0,none⟩) (A++l.drop p).length cap) (A++l.drop p)/\aF (λk=>k=g) (w.drewN k).drew _:=λk=>CU (A:=A) (p:=p) ((ha.below (hbk k)).below (Below.refl _ _).drew) hA hp rfl
   have hsp1:∀k,∀j,j<cap*6->((((w.drewN k).setCells g 0 (aG A)).drew).cell? ⟨g,j,none⟩).isSome=true:=λk j hj=>by
    rw[lS];exact uq (w:=(w.drewN k).drew) (λi hi=>hsp i hi) _ _ (by rw[hla];omega) j hj
   have hfz1:∀k j,(((w.drewN k).setCells g 0 (aG A)).drew).frozen? ⟨g,j,none⟩=false:=λk j=>by
    rw[lS,World.frozen?_setCells];exact hfz j
   have Yv:∀k c,Src prog 6 25 (.slice (some ⟨g,p*6,none⟩) d c) d ((aG l).drop (p*6)) (((w.drewN k).setCells g 0 (aG A)).drew):=λk c=>by
    refine Src.ofSlice _ underlying25 ⟨g,p*6,none⟩ d c _ hle (λj u hu=>?_) (λu hu=>lH l u (List.mem_of_mem_drop hu));rw[lS,Addr.add_lit,World.cell?_setCells_out _ _ _ _ _ (λ_ _=>by right;rw[hla];simp only;omega)];rw[List.getElem?_drop] at hu;exact ha.cell (p*6+j) u hu
   have hc1:∀k ty,(Builtin.copy_ #[25,25] ty #[.slice (some ⟨g,0,none⟩) (A.length+d) cap,.slice a2 A.length c2]).run prog (w.drewN k)=.ok (goInt A.length) ((w.drewN k).setCells g 0 (aG A)):=λk ty =>
    sK (w.drewN k) ty g 0 (A.length+d) cap _ A.length (aG A) (hs.below (hbk k)).src (by omega) (λj hj=>by rw[hla] at hj;exact hsp _ (by omega)) (λj _=>hfz _)
   have hc2:∀k ty c c',(Builtin.copy_ #[25,25] ty #[.slice (some ⟨g,A.length*6,none⟩) d c,.slice (some ⟨g,p*6,none⟩) d c']).run prog (((w.drewN k).setCells g 0 (aG A)).drew)=.ok (goInt d) ((((w.drewN k).setCells g 0 (aG A)).drew).setCells g (A.length*6) ((aG l).drop (p*6))):=λk ty c c' =>
    sK _ ty g (A.length*6) d c _ d _ (Yv k c') (Nat.le_refl _) (λj hj=>by rw[hle] at hj;exact hsp1 k _ (by omega)) (λj _=>hfz1 k _)
   have hcount:p+d-(A.length+d)=p-A.length:=by omega
   have QI:∀k ty c,(Builtin.clear_ #[25] ty #[.slice (some ⟨g,(A.length+d)*6,none⟩) (p+d-(A.length+d)) c]).run prog ((((w.drewN k).setCells g 0 (aG A)).drew).setCells g (A.length*6) ((aG l).drop (p*6)))=.ok (.tuple #[]) (((((w.drewN k).setCells g 0 (aG A)).drew).setCells g (A.length*6) ((aG l).drop (p*6))).setCells g ((A.length+d)*6) (fU (p-A.length))):=λk ty c=>by
    rw[hcount];rcases Nat.eq_zero_or_pos (p-A.length) with q|q
    ·rw[q,pV,show fU 0=[] from List.length_eq_zero_iff.1 (by rw[fG])];rfl
    ·exact pU _ ty g _ (p-A.length) c q (λj hj=>uq (hsp1 k) _ _ (by rw[hle];omega) _ (by omega)) (λj _=>by rw[World.frozen?_setCells];exact hfz1 k _)
   have QH:p=A.length->∀k ty c D,(Builtin.clear_ #[25] ty #[.slice (some D) (p+d-(A.length+d)) c]).run prog ((((w.drewN k).setCells g 0 (aG A)).drew).setCells g (A.length*6) ((aG l).drop (p*6)))=.ok (.tuple #[]) (((((w.drewN k).setCells g 0 (aG A)).drew).setCells g (A.length*6) ((aG l).drop (p*6))).setCells g ((A.length+d)*6) (fU (p-A.length))):=λq k ty c D=>by
    rw[show p+d-(A.length+d)=0 by omega,pV,show p-A.length=0 by omega,show fU 0=[] from List.length_eq_zero_iff.1 (by rw[fG])];rfl
   rw[hd];refine(CY g A.length p d cap a2 c2 w _ _ _ (by omega) (by omega) (by omega) hA h0 hc1 hc2 QH QI).mono ?_;rintro e w' ⟨rfl,k,rfl⟩;have e4:=e3 k;rw[<-lS,show(A.length+(l.length-p))*6=(A.length+d)*6 by omega] at e4;refine⟨_,rfl,?_,?_,λg' hg'=>.inl hg'⟩
   ·have:=e4.1;rw[show(A++l.drop p).length=A.length+d by simp;omega] at this;exact this
   ·have c0:aF (λk=>k=g) w (w.drewN k).drew:=aF.of_below ((hbk k).trans (Below.refl _ _).drew);exact(c0.trans e4.2).mono (λk _ z=>by rw[z];rfl)
