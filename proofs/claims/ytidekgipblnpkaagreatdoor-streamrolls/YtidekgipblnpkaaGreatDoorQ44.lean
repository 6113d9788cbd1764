/- A part of the proof. -/
import Derived.Test.YtidekgipblnpkaaGreatDoorQ30
import Derived.Test.YtidekgipblnpkaaGreatDoorQ43
set_option maxRecDepth 100000
set_option maxHeartbeats 8000000
namespace Go.Proofs.YtidekgipblnpkaaGreatDoor
open Go.RowKit Go.Deep Go.Proofs.Tryz
theorem wX {B g cap n k:Nat}{e:TypeId}{size:Nat}{w:World}{xs:List Value}(h:w.ownsRow B e size (.slice (some ⟨g,0,none⟩) n cap) n xs)(hk:k<=n):w.ownsRow B e size (.slice (some ⟨g,0,none⟩) k cap) k (xs.take (k*size)):=by
 have hks:k*size<=n*size:=Nat.mul_le_mul_right _ hk;refine⟨by rw[List.length_take,h.1];omega,?_⟩;rcases h.2 with ⟨q,_⟩|⟨g',cap',cur,q,h2,h3,h4,h5,h6,h7⟩
 ·cases q
 ·simp only[Value.slice.injEq,Option.some.injEq,Addr.mk.injEq,and_true] at q;obtain⟨rfl,_,rfl⟩:=q;exact .inr ⟨g,cap,cur,rfl,h2,h3,by omega,h5,h6,by rw[<-h7,List.take_take,Nat.min_eq_left hks]⟩
def zs:List Value:=[.string ByteArray.empty,.int .i64 0]
theorem LX (w:World)(ty:TypeId)(b o c:Nat)
 (hc:∀j,j<2->(w.cell? ⟨b,o+j,none⟩).isSome=true) (hf:∀j,j<2->w.frozen? ⟨b,o+j,none⟩=false) :
 (Builtin.clear_ #[64] ty #[.slice (some ⟨b,o,none⟩) 1 c]).run prog w=.ok (.tuple #[]) (w.setCells b o zs):=by
 have hzc:(Builtin.zeroCells (Value.agg #[.string ⟨#[]⟩,.int .i64 0]).cells 1).toList=zs:=by kernel_rfl
 have hst:=run_storeCells_cells (P:=prog) b o zs 0 w (by simpa[zs] using hc) (by simpa[zs] using hf) (by intro v hv';simp only[zs,List.mem_cons,List.not_mem_nil,or_false] at hv';rcases hv' with q|q<;>(subst q;rfl));simp only[Nat.add_zero] at hst;simp[Builtin.clear_,run_underlying underlying64,Tryz.zeroValue68,hzc,hst]
theorem abz (B g c i m:Nat)(es:List bD)(w:World)(hn:es.length=i+1+m)(ha:eU w B (.slice (some ⟨g,0,none⟩) (i+1+m) c) es)(dQ:es.length<=100)(hc:i+1+m<=c) :
 Calls prog 241 #[.slice (some ⟨g,0,none⟩) (i+1+m) c,.int .i64 i,.int .i64 (i+1)] w λe w' =>
  e=.returned (.slice (some ⟨g,0,none⟩) (i+m) c)/\w'=(w.drew.setCells g (0+i*2) ((aH es).drop ((i+1)*2))).setCells g ((i+m)*2) zs:=by
 obtain⟨i0,hi0,hz0,hz1,hz2⟩:=info_parts MO;obtain⟨news,hnews⟩:∃news,news=(aH es).drop ((i+1)*2):=⟨_,rfl⟩;have hlen:news.length=m*2:=by rw[hnews,List.length_drop,aW,hn];omega
 obtain⟨cur,hg,hcs⟩:∃cur,w.heap[g]?=some (.cells cur 68 (0,0))/\cur.size=c*2:=by
  rcases ha.2 with ⟨q,_⟩|⟨g',cap',cur,q,h2,h3,h4,h5,h6,h7⟩
  ·cases q
  ·simp only[Value.slice.injEq,Option.some.injEq,Addr.mk.injEq,and_true] at q;obtain⟨rfl,_,rfl⟩:=q;exact⟨cur,h3,h6⟩
 have hsp:∀j,j<c*2->(w.cell? ⟨g,j,none⟩).isSome=true:=by
  intro j hj;rw[cell_of_row w g j _ _ _ hg,Array.getElem?_eq_getElem (by omega)];rfl
 have hfz:∀j,w.frozen? ⟨g,j,none⟩=false:=λj=>frozen_of_row w g j _ _ hg
 have hcell:∀j u,(aH es)[j]?=some u->w.cell? ⟨g,j,none⟩=some u:=by
  intro j u hj;rw[<-hn] at ha;exact ha.cell j u hj
 obtain⟨A,hA,hsrc⟩:∃A:Addr,(if c=i+1 then some (⟨g,0,none⟩:Addr) else some ⟨g,(i+1)*2,none⟩)=some A/\Hid (∀t u,news[t]?=some u->w.drew.cell? (A.add t)=some u):=by
  by_cases h:c=i+1
  ·refine⟨⟨g,0,none⟩,by simp[h],λt u hu=>?_⟩;have h0:news.length=0:=by rw[hlen];omega
   rw[List.length_eq_zero_iff.1 h0] at hu;simp at hu
  ·refine⟨⟨g,(i+1)*2,none⟩,by simp[h],λt u hu=>?_⟩;rw[Addr.add_lit];refine hcell _ u ?_;rw[hnews,List.getElem?_drop] at hu;exact hu
 have s1:=aj hlen;have s2:Hid (∀u∈news,u.oneCell'=true):=by
  intro u hu;rw[hnews] at hu;exact iU es u (List.mem_of_mem_drop hu)
 have s3:Hid (∀t,t<news.length->(w.drew.cell? ⟨g,0+i*2+t,none⟩).isSome=true/\w.drew.frozen? ⟨g,0+i*2+t,none⟩=false):=by
  intro t ht;rw[hlen] at ht;exact⟨hsp _ (by omega),hfz _⟩
 obtain⟨W1,hW1⟩:∃W1,W1=w.drew.setCells g (0+i*2) news:=⟨_,rfl⟩;have hcl:∀ty c',(Builtin.clear_ #[64] ty #[.slice (some ⟨g,(i+m)*2,none⟩) 1 c']).run prog W1=.ok (.tuple #[]) (W1.setCells g ((i+m)*2) zs):=λty c' =>
  LX W1 ty g ((i+m)*2) c' (λj hj=>by
   rw[hW1];exact isSome_setCells g news (0+i*2) w.drew (λt ht=>hsp _ (by rw[hlen] at ht;omega)) _ (hsp _ (by omega)))
   (λj hj=>by rw[hW1,World.frozen?_setCells];exact hfz _)
 have hW:Hid (W1=w.drew.setCells g (0+i*2) news):=hW1;rw[<-hnews];clear hW1 hsp hfz hcell hg ha hnews hlen hz0 hz2;have hic:i<=c:=by omega
 have hjc:i+1<=c:=by omega
 have b1:(0:Int)<=(i:Int)+1:=by omega
 have b2:(i:Int)+1<=(i:Int)+1+(m:Int):=by omega
 have q1:¬(c=i+m):=by omega
 have q2:i+1+m-(i+m)=1:=by omega
 go_enter func241,ntmps241
 go_wp2_with fail
 go_region_law (refine step_append_room rfl (.tmp 22) (.tmp 25) 64 rfl 68 i0 2 underlying64 hi0 hz1 g 0 i c (by simp[Act.eval,Act.put]) A m (c-(i+1)) news (by simp[Act.eval,Act.put]) s1.out hsrc.out s2.out (by omega) s3.out ?_;rw[<-hW.out])
 go_wp2
 go_ret
 exact⟨rfl,by rw[hW.out]⟩
theorem aex (es:List bD)(i m:Nat)(hn:es.length=i+1+m) :
 ((((aH es).take (i*2)++(aH es).drop ((i+1)*2)++(aH es).drop (i*2+((aH es).drop ((i+1)*2)).length)).take ((i+m)*2)++zs++((aH es).take (i*2)++(aH es).drop ((i+1)*2)++(aH es).drop (i*2+((aH es).drop ((i+1)*2)).length)).drop ((i+m)*2+zs.length)).take ((i+m)*2))=aH (Aw es i):=by
 have hcl:(aH es).length=(i+1+m)*2:=by rw[aW,hn]
 have h1:((aH es).take (i*2)++(aH es).drop ((i+1)*2)).length=(i+m)*2:=by rw[List.length_append,List.length_take,List.length_drop,hcl];omega
 have h2:((aH es).take (i*2)++(aH es).drop ((i+1)*2)++(aH es).drop (i*2+((aH es).drop ((i+1)*2)).length)).take ((i+m)*2)=(aH es).take (i*2)++(aH es).drop ((i+1)*2):=by
  rw[List.take_append_of_le_length (by omega),List.take_of_length_le (by omega)]
 rw[h2,List.append_assoc ((aH es).take (i*2)++(aH es).drop ((i+1)*2)),List.take_append_of_le_length (by omega),List.take_of_length_le (by omega)];unfold Aw;rw[dW,mg,mD]
theorem XD (B:Nat)(v:Value)(es:List bD)(i:Nat)(w:World)(ha:eU w B v es)(hi:i<es.length)(dQ:es.length<=100) :
 Calls prog 241 #[v,.int .i64 i,.int .i64 (i+1)] w λe w'=>∃v',e=.returned v'/\eU w' B v' (Aw es i)/\aF (λk=>v.ownBlock=some k) w w'/\∀g,v'.ownBlock=some g->v.ownBlock=some g\/w.heap.size<=g:=by
 obtain⟨g,cap,rfl,c1,c2,c3,c4⟩:=ha.there (by omega);obtain⟨m,hn⟩:∃m,es.length=i+1+m:=⟨es.length-(i+1),by omega⟩;rw[hn] at ha c1 ⊢;refine(abz B g cap i m es w hn ha dQ c1).mono ?_;rintro e w' ⟨rfl,rfl⟩;refine⟨_,rfl,?_,?_,λg' hg'=>.inl hg'⟩
 ·have o0:w.drew.ownsRow B 68 2 (.slice (some ⟨g,0,none⟩) (i+1+m) cap) (i+1+m) (aH es):=by
   unfold eU at ha;rw[hn] at ha;exact ha
  have hcl:(aH es).length=(i+1+m)*2:=by rw[aW,hn]
  have hdl:((aH es).drop ((i+1)*2)).length=m*2:=by rw[List.length_drop,hcl];omega
  have o1:=eu ((aH es).drop ((i+1)*2)) (i*2) _ _ o0 (by rw[hcl,hdl];omega);have o2:=eu zs ((i+m)*2) _ _ o1 (by
   simp only[List.length_append,List.length_take,List.length_drop,hcl,show zs.length=2 from rfl];omega)
  have o3:=wX (k:=i+m) o2 (by omega);rw[aex es i m hn] at o3;unfold eU;rw[GN hi,hn,show i+1+m-1=i+m by omega,Nat.zero_add];exact o3
 ·have c:aF (λk=>k=g) w w.drew:=⟨rfl,rfl,rfl,Nat.le_refl _,λ_ _ _=>rfl⟩;exact((c.trans (eF _ _ _)).trans (eF _ _ _)).mono (λk _ hk=>by rw[hk];rfl)
def ig (w w':World)(B p:Nat)(v:Value)(es':List bD):Prop:=∃v',Keeps w' B p v' es'/\aF (foot p v) w w'/\∀g,v'.ownBlock=some g->v.ownBlock=some g\/w.heap.size<=g
theorem ig.same {w w':World}{B p:Nat}{v:Value}{es:List bD}(h:Keeps w B p v es)(hb:Below w.heap.size w w'):ig w w' B p v es:=⟨v,h.below hb,aF.of_below hb,λ_ hg=>.inl hg⟩
theorem ig.behind {w w1 w':World}{B p:Nat}{v:Value}{es:List bD}(hb:Below w.heap.size w w1)(h:ig w1 w' B p v es):ig w w' B p v es:=by
 obtain⟨v',h1,h2,h3⟩:=h;exact⟨v',h1,(aF.of_below hb).trans h2,λg hg=>by
  rcases h3 g hg with q|q
  ·exact .inl q
  ·have:=hb.size;exact .inr (by omega)⟩
theorem ig.store {w w':World}{B p:Nat}{v v':Value}{es es':List bD}(h:Keeps w B p v es)(hb:aF (λk=>v.ownBlock=some k) w w')(ha:eU w' B v' es')(hv:∀g,v'.ownBlock=some g->v.ownBlock=some g\/w.heap.size<=g):ig w (w'.setCell ⟨p,0,none⟩ v') B p v es':=by
 obtain⟨h1,h2⟩:=h.store hb ha hv;exact⟨v',h1,h2,hv⟩
def oG (o:Nat)(w w':World)(B p:Nat)(v:Value)(es':List bD):Prop:=∃v',fJ o w' B p v' es'/\aF (foot p v) w w'/\Side o p w w'/\∀g,v'.ownBlock=some g->v.ownBlock=some g\/w.heap.size<=g
theorem oG.upd {w w':World}{B p:Nat}{v:Value}{es:List bD}(h:oG 0 w w' B p v es):ig w w' B p v es:=by
 obtain⟨v',h1,h2,_,h3⟩:=h;exact⟨v',h1,h2,h3⟩
theorem oG.dh {o:Nat}{w w':World}{B p:Nat}{v:Value}{es:List bD}(h:oG o w w' B p v es):aF (foot p v) w w':=by
 obtain⟨_,_,h2,_⟩:=h;exact h2
theorem oG.same {o:Nat}{w w':World}{B p:Nat}{v:Value}{es:List bD}(h:fJ o w B p v es)(hb:Below w.heap.size w w'):oG o w w' B p v es:=⟨v,h.below hb,aF.of_below hb,Side.below hb h.lt,λ_ hg=>.inl hg⟩
theorem oG.behind {o:Nat}{w w1 w':World}{B p:Nat}{v:Value}{es:List bD}(hp:p<w.heap.size)(hb:Below w.heap.size w w1)(h:oG o w1 w' B p v es):oG o w w' B p v es:=by
 obtain⟨v',h1,h2,h4,h3⟩:=h;exact⟨v',h1,(aF.of_below hb).trans h2,(Side.below hb hp).trans h4,λg hg=>by
  rcases h3 g hg with q|q
  ·exact .inl q
  ·have:=hb.size;exact .inr (by omega)⟩
theorem oG.store {o:Nat}{w w':World}{B p:Nat}{v v':Value}{es es':List bD}(h:fJ o w B p v es)(hb:aF (λk=>v.ownBlock=some k) w w')(ha:eU w' B v' es')(hv:∀g,v'.ownBlock=some g->v.ownBlock=some g\/w.heap.size<=g):oG o w (w'.setCell ⟨p,o,none⟩ v') B p v es':=by
 obtain⟨h1,h2⟩:=h.store hb ha hv;exact⟨v',h1,h2,(Side.dh hb h.lt h.apart).trans (Side.set _),hv⟩
theorem Bo {es:List bD}{s:ByteArray}{n:Int}(h:aC false s≠0):Ii es s=aC false s/\pF es s n=es:=by
 unfold Ii pF;rw[if_neg h,if_neg h];exact⟨rfl,rfl⟩
theorem Zw {es:List bD}{s:ByteArray}{n:Int}(h:aC false s=0)(g:eX es s=true):Ii es s=0/\pF es s n=es.set (place es s) (s,n):=by
 unfold Ii pF;rw[if_pos h,if_pos h,if_pos g,if_pos g];exact⟨rfl,rfl⟩
theorem UL {es:List bD}{s:ByteArray}{n:Int}(h:aC false s=0)(g:eX es s=false)(f:100<=es.length):Ii es s=8/\pF es s n=es:=by
 unfold Ii pF;simp[h,g,f]
theorem Zx {es:List bD}{s:ByteArray}{n:Int}(h:aC false s=0)(g:eX es s=false)(f:¬100<=es.length):Ii es s=0/\pF es s n=insL es (place es s) (s,n):=by
 unfold Ii pF;simp[h,g,f]
theorem aey {w:World}{b:Nat}{s:ByteArray}{n:Int}(c0:w.cell? ⟨b,0,none⟩=some (.string s))(c1:w.cell? ⟨b,1,none⟩=some (.int .i64 n)) :
 (loadVar 68 ⟨b,0,none⟩).run prog w=.ok (.agg #[.string s,.int .i64 n]) w:=by
 have hl:(loadCells ⟨b,0,none⟩ 2).run prog w=.ok #[.string s,.int .i64 n] w :=
  run_loadCells_list (P:=prog) w ⟨b,0,none⟩ [.string s,.int .i64 n] (λj v hv=>by
   rw[Addr.add_lit,Nat.zero_add];match j,hv with
   | 0,hv=>rw[c0];simpa using hv
   | 1,hv=>rw[c1];simpa using hv)
 have hz:Tryz.t68.size=2:=by kernel_rfl
 simp[loadVar,isAgg,sizeOf];rw[hz,hl];rfl
theorem UM {fn:Func}{a:Tmp}{tmps:Array Value}{w:World}{b:Nat}{s:ByteArray}{n:Int}(hf:fn.results=#[.cell a 68])(ha:tmps.getD a undef=.pointer (some ⟨b,0,none⟩))(c0:w.cell? ⟨b,0,none⟩=some (.string s))(c1:w.cell? ⟨b,1,none⟩=some (.int .i64 n)) :
 (results fn tmps).run prog w=.ok (.agg #[.string s,.int .i64 n]) w:=by
 have ha':tmps[a]?.getD undef=.pointer (some ⟨b,0,none⟩):=by simpa using ha
 simp[results,hf,ha',asAddr,aey c0 c1]
theorem Ol (s:ByteArray)(n:Int)(w:World)(hs:s.size<=140737488355328) :
 Calls prog 107 #[.agg #[.string s,.int .i64 n]] w λe w'=>e=.returned (.agg #[.string s,.int .i64 n])/\Below w.heap.size w w':=by
 obtain⟨W,hW⟩:∃W,W=(w.alloc (.cells #[.string s,.int .i64 n] 68)).alloc (.cells #[.string ⟨#[]⟩,.int .i64 0] 68):=⟨_,rfl⟩;have hsz:W.heap.size=w.heap.size+2:=by rw[hW];simp
 have hb:Below w.heap.size w W:=by rw[hW];exact((Below.refl _ _).alloc (Nat.le_refl _) _).alloc (by simp) _
 have r0:=one_row (x:=(s,n)) (heap_alloc_new w (.cells #[.string s,.int .i64 n] 68));have hg:W.heap[w.heap.size+1]?=some (.cells #[.string ⟨#[]⟩,.int .i64 0] 68 (0,0)):=by
  have:=heap_alloc_new (w.alloc (.cells #[.string s,.int .i64 n] 68)) (.cells #[.string ⟨#[]⟩,.int .i64 0] 68);rw[World.size_alloc] at this;rw[hW];exact this
 have r1:=one_row (x:=(⟨#[]⟩,0)) hg;have d0:W.cell? ⟨w.heap.size,0,none⟩=some (.string s):=by rw[hW,World.cell?_alloc_lt _ _ _ (by simp)];exact r0.1 0 _ rfl
 have d1:W.cell? ⟨w.heap.size,1,none⟩=some (.int .i64 n):=by rw[hW,World.cell?_alloc_lt _ _ _ (by simp)];exact r0.1 1 _ rfl
 have e0:W.cell? ⟨w.heap.size+1,0,none⟩=some (.string ⟨#[]⟩):=r1.1 0 _ rfl;have e1:W.cell? ⟨w.heap.size+1,1,none⟩=some (.int .i64 0):=r1.1 1 _ rfl;have f0:W.frozen? ⟨w.heap.size+1,0,none⟩=false:=r1.2.1 0;have f1:W.frozen? ⟨w.heap.size+1,1,none⟩=false:=r1.2.1 1;have l0:w.heap.size<W.heap.size:=by omega
 have l1:w.heap.size+1<W.heap.size:=by omega
 have PC:Hid (∀X,Calls prog 67 #[.string s] X λe w'=>e=.returned (.string s)/\Below X.heap.size X w'):=aj (λX=>clone_any s X (by omega));clear r0 r1 hg;go_enter func107,ntmps107
 go_wp2_with fail
 rw[<-hW];have Hb:=aj hb;clear hW hb hsz;go_region_with (go_at_call 67;refine(ah PC _).mono ?_;rintro e w1 ⟨rfl,b1⟩;have g1:=(b1.cell (p:=⟨w.heap.size,1,none⟩) l0).trans d1;have h0:=(b1.cell (p:=⟨w.heap.size+1,0,none⟩) l1).trans e0;have h1:=(b1.cell (p:=⟨w.heap.size+1,1,none⟩) l1).trans e1;have k0:=(b1.frozen (p:=⟨w.heap.size+1,0,none⟩) l1).trans f0;have k1:=(b1.frozen (p:=⟨w.heap.size+1,1,none⟩) l1).trans f1)
 all_goals have HB:=aj (ak (ah Hb).drew b1)
 all_goals clear b1 Hb g1
 all_goals go_wp2_with fail
 all_goals refine bodyPost_ret (UM (b:=w.heap.size+1) (s:=s) (n:=n) rfl rfl (by rw[World.cell?_setCell_other _ _ _ _ (by simp)];exact World.cell?_setCell_same _ _ _ h0) (World.cell?_setCell_same _ _ _ (by rw[World.cell?_setCell_other _ _ _ _ (by simp)];exact h1))) rfl ?_
 all_goals exact⟨rfl,((ah HB).setCell (p:=⟨w.heap.size+1,0,none⟩) (Nat.le_succ _) _).setCell (p:=⟨w.heap.size+1,1,none⟩) (Nat.le_succ _) _⟩
theorem KN {o:Nat}(B p:Nat)(v:Value)(es:List bD)(s:ByteArray)(n:Int)(w:World)(hk:fJ o w B p v es)(hg:Good es)(hs:s.size<=140737488355328)(hB:B<=w.heap.size) :
 Calls prog 186 #[.pointer (some ⟨p,o,none⟩),.string s,.int .i64 n] w λe w'=>e=.returned (.int .i64 (Ii es s))/\oG o w w' B p v (pF es s n):=by
 have Hk:=aj hk;have Hg:=aj hg;clear hk hg;by_cases he:aC false s=0
 ·have hn:=few he
  cases hh:eX es s with
  | true =>
   have Hp:=aj (Zw (n:=n) he hh);obtain⟨h1,h2⟩:=rJ hh;have He:=aj he;have Hh:=aj hh;obtain⟨q,hq⟩:∃q,place es s=q:=⟨_,rfl⟩;rw[hq] at h1 h2 Hp;have Hq:=aj hq;have H2:=aj h2;clear he hh h2 hq;obtain⟨g,cap,rfl,c1,c2,c3,c4⟩:=(ah Hk).arr.there (by omega);unfold maxLen at c2;go_enter func186,ntmps186
   go_wp2_with fail
   refine(fE s _ hs).mono ?_;rintro e w1 ⟨rfl,hb1⟩;rw[ah He];go_wp2_with fail
   refine(xY B p _ es s _ ((ah Hk).below hb1) (ah Hg) hs hn).mono ?_;rintro e w2 ⟨rfl,hb2⟩;rw[ah Hh,ah Hq];have k2:=((ah Hk).below hb1).below hb2;have d1:=k2.cell;have d2:=k2.arr.num h1;have d3:=World.ownsRow.frozenAt k2.arr (q*2+1);have K2:=aj k2;clear k2;go_wp2_with fail
   go_ret
   refine⟨aN (ah Hp).1,?_⟩;rw[(ah Hp).2];obtain⟨u1,u2⟩:=(ah K2).number h1 (ah H2) n;exact oG.behind (ah Hk).lt (ak hb1 hb2) ⟨_,u1,u2,Side.other _ (λe=>(ah Hk).apart (by rw[e];rfl)),λg' hg'=>.inl hg'⟩
  | false =>
   by_cases hf:100<=es.length
   ·have Hp:=aj (UL (n:=n) he hh hf);have He:=aj he;have Hh:=aj hh;clear he hh;obtain⟨a,cap,rfl,c1,c2,c3⟩:=(ah Hk).arr.shape;clear c3 c2;go_enter func186,ntmps186
    go_wp2_with fail
    refine(fE s _ hs).mono ?_;rintro e w1 ⟨rfl,hb1⟩;rw[ah He];go_wp2_with fail
    refine(xY B p _ es s _ ((ah Hk).below hb1) (ah Hg) hs hn).mono ?_;rintro e w2 ⟨rfl,hb2⟩;rw[ah Hh];have d1:=(((ah Hk).below hb1).below hb2).cell;go_wp2_with fail
    go_ret
    refine⟨aN (ah Hp).1,?_⟩;rw[(ah Hp).2];exact oG.same (ah Hk) (ak hb1 hb2)
   ·have Hp:=aj (Zx (n:=n) he hh hf);have He:=aj he;have Hh:=aj hh;obtain⟨q,hq⟩:∃q,place es s=q:=⟨_,rfl⟩;have vJ:q<=es.length:=by rw[<-hq];exact wH _ _
    rw[hq] at Hp;have Hq:=aj hq;clear he hh hq;obtain⟨a,cap,rfl,c1,c2,c3⟩:=(ah Hk).arr.shape;clear c3 c2;go_enter func186,ntmps186
    go_wp2_with fail
    refine(fE s _ hs).mono ?_;rintro e w1 ⟨rfl,hb1⟩;rw[ah He];go_wp2_with fail
    refine(xY B p _ es s _ ((ah Hk).below hb1) (ah Hg) hs hn).mono ?_;rintro e w2 ⟨rfl,hb2⟩;rw[ah Hh,ah Hq];have k2:=((ah Hk).below hb1).below hb2;have d1:=k2.cell;have K2:=aj k2;clear k2;have hB2:B<=w2.heap.size:=by have:=hb1.size;have:=hb2.size;omega
    have PI:Hid (∀w3,Below w2.heap.size w2 w3->Calls prog 131 #[.slice a es.length cap,.int .i64 q,.slice (some ⟨w3.heap.size,0,none⟩) 1 1] (w3.alloc (.cells #[.string s,.int .i64 n] 68)) λe w4=>∃a' m' c',e=.returned (.slice a' m' c')/\w4.cell? ⟨p,o,none⟩=some (.slice a es.length cap)/\w4.frozen? ⟨p,o,none⟩=false/\Hid (oG o w2 (w4.setCell ⟨p,o,none⟩ (.slice a' m' c')) B p (.slice a es.length cap) (insL es q (s,n)))):=aj (λw3 b3=>by
     have k3:=(ah K2).below b3;have b4:Below w3.heap.size w3 (w3.alloc (.cells #[.string s,.int .i64 n] 68)):=(Below.refl _ _).alloc (Nat.le_refl _) _;have k4:=k3.below b4;refine(nG B _ es q (s,n) w3.heap.size _ k4.arr vJ (by omega) (heap_alloc_new w3 _) (λe=>by have:=(k3.arr.lt _ e).2;omega) (by have:=b3.size;simp;omega)).mono ?_;rintro e w4 ⟨v',rfl,i1,i2,i3⟩;obtain⟨a',cap',rfl,_⟩:=i1.shape;refine⟨a',_,cap',rfl,?_,?_,aj (oG.behind (ah K2).lt (ak b3 b4) (oG.store k4 i2 i1 i3))⟩
     ·rw[i2.cell (p:=⟨p,o,none⟩) k4.lt k4.apart];exact k4.cell
     ·rw[i2.frozen (p:=⟨p,o,none⟩) k4.lt k4.apart];exact k4.free)
    have PC:Hid (∀X,Calls prog 107 #[.agg #[.string s,.int .i64 n]] X λe w'=>e=.returned (.agg #[.string s,.int .i64 n])/\Below X.heap.size X w'):=aj (λX=>Ol s n X hs);have hpl:=(ah K2).lt;go_wp2_with fail
    go_region_with (first
     | (go_at_call 107;refine(ah PC _).mono ?_;rintro e w3 ⟨rfl,b3⟩;have d2:=(b3.cell (p:=⟨p,o,none⟩) hpl).trans d1;have hp3:=Nat.lt_of_lt_of_le hpl b3.size;have B3:=aj (((Below.refl w2.heap.size w2).drew).trans b3))
     | (go_at_call 131;refine(ah PI w3 (ah B3)).mono ?_;rintro e w4 ⟨a',m',c',rfl,d4,d5,HU⟩))
    all_goals go_wp2_with fail
    all_goals go_ret
    all_goals refine⟨aN (ah Hp).1,?_⟩
    all_goals rw[(ah Hp).2]
    all_goals exact oG.behind (ah Hk).lt (ak hb1 hb2) (ah HU)
 ·have Hp:=aj (Bo (es:=es) (n:=n) he);go_enter func186,ntmps186
  go_wp2_with fail
  refine(fE s _ hs).mono ?_;rintro e w1 ⟨rfl,hb1⟩;go_wp2_with fail
  go_ret
  refine⟨aN (ah Hp).1,?_⟩;rw[(ah Hp).2];exact oG.same (ah Hk) hb1
theorem aez {es:List bD}{s:ByteArray}(h:qP es s=0):aC false s=0/\eX es s=true:=by
 unfold qP at h;split at h
 ·rename_i he
  refine⟨he,?_⟩;split at h
  ·assumption
  ·omega
 ·rename_i he
  exact absurd h he
theorem abA {es:List bD}{s:ByteArray}(h:¬qP es s=0):qp es s=es:=by
 unfold qp;unfold qP at h;split
 ·rename_i he
  rw[if_pos he] at h;split
  ·rename_i hh
   rw[if_pos hh] at h;exact absurd rfl h
  ·rfl
 ·rfl
theorem Om {o:Nat}(B p:Nat)(v:Value)(es:List bD)(s:ByteArray)(w:World)(hk:fJ o w B p v es)(hg:Good es)(hs:s.size<=140737488355328) :
 Calls prog 218 #[.pointer (some ⟨p,o,none⟩),.string s] w λe w'=>e=.returned (.int .i64 (qP es s))/\oG o w w' B p v (qp es s):=by
 have Hk:=aj hk;have Hg:=aj hg;clear hk hg;by_cases h0:qP es s=0
 ·obtain⟨he,hh⟩:=aez h0;obtain⟨h1,h2⟩:=rJ hh;have hl:G5 es s=(place es s:Int):=by unfold G5;rw[if_pos he,if_pos hh]
  have hd:qp es s=Aw es (place es s):=by unfold qp;rw[if_pos he,if_pos hh]
  have dQ:=(ah Hg).2.1;have Hl:=aj hl;have Hd:=aj hd;have H0:=aj h0;clear hd hl h0 hh h2 he;obtain⟨q,hq⟩:∃q,place es s=q:=⟨_,rfl⟩;rw[hq] at h1 Hl Hd;clear hq;obtain⟨g,cap,rfl,c1,c2,c3,c4⟩:=(ah Hk).arr.there (by omega);unfold maxLen at c2;go_enter func218,ntmps218
  go_wp2_with fail
  refine(uP B p _ es s _ (ah Hk) (ah Hg) hs).mono ?_;rintro e w1 ⟨rfl,hb1⟩;rw[ah Hl,ah H0];have k1:=(ah Hk).below hb1;have d1:=k1.cell;have K1:=aj k1;clear k1;go_wp2_with fail
  refine(XD B _ es q _ (ah K1).arr h1 dQ).mono ?_;rintro e w4 ⟨v',rfl,i1,i2,i3⟩;obtain⟨a',cap',rfl,_⟩:=i1.shape;have d4:w4.cell? ⟨p,o,none⟩=some (.slice (some ⟨g,0,none⟩) es.length cap):=by rw[i2.cell (p:=⟨p,o,none⟩) (ah K1).lt (ah K1).apart];exact(ah K1).cell
  have d5:w4.frozen? ⟨p,o,none⟩=false:=by rw[i2.frozen (p:=⟨p,o,none⟩) (ah K1).lt (ah K1).apart];exact(ah K1).free
  have HU:=aj (oG.store (ah K1) i2 i1 i3);clear i1 i2 i3 d1;go_wp2_with fail
  go_ret
  refine⟨aN (ah H0),?_⟩;rw[ah Hd];exact oG.behind (ah Hk).lt hb1 (ah HU)
 ·have Hd:=aj (abA h0);go_enter func218,ntmps218
  go_wp2_with fail
  refine(uP B p v es s _ (ah Hk) (ah Hg) hs).mono ?_;rintro e w1 ⟨rfl,hb1⟩;go_wp2_with fail
  go_ret
  refine⟨rfl,?_⟩;rw[ah Hd];exact oG.same (ah Hk) hb1
theorem put_any (B p:Nat)(v:Value)(es:List bD)(s:ByteArray)(n:Int)(w:World)(hk:Keeps w B p v es)(hg:Good es)(hs:s.size<=140737488355328)(hB:B<=w.heap.size) :
 Calls prog 186 #[.pointer (some ⟨p,0,none⟩),.string s,.int .i64 n] w λe w'=>e=.returned (.int .i64 (Ii es s))/\ig w w' B p v (pF es s n) :=
 (KN B p v es s n w hk hg hs hB).mono (λ_ _ h=>⟨h.1,h.2.upd⟩)
theorem ajx (B p:Nat)(v:Value)(es:List bD)(s:ByteArray)(w:World)(hk:Keeps w B p v es)(hg:Good es)(hs:s.size<=140737488355328) :
 Calls prog 218 #[.pointer (some ⟨p,0,none⟩),.string s] w λe w'=>e=.returned (.int .i64 (qP es s))/\ig w w' B p v (qp es s) :=
 (Om B p v es s w hk hg hs).mono (λ_ _ h=>⟨h.1,h.2.upd⟩)
end Go.Proofs.YtidekgipblnpkaaGreatDoor
namespace Go.Proofs.YtidekgipblnpkaaGreatDoor
open Go.RowKit Go.Proofs.Tryz
theorem aeA {o:Nat}(B p:Nat)(v:Value)(es:List bD)(f:ByteArray)(w:World)(hk:fJ o w B p v es)(hg:Good es)(hs:f.size<=140737488355328) :
 Calls prog 59 #[.pointer (some ⟨p,o,none⟩),.string f] w λe w'=>∃v',e=.returned (.tuple #[v',.int .i64 (aC true f)])/\eU w' w.heap.size v' (if aC true f=0 then lN es f else [])/\Below w.heap.size w w':=by
 have Hk:=aj hk;have Hg:=aj hg;clear hk hg;by_cases he:aC true f=0
 ·rw[if_pos he];have dQ:=(ah Hg).2.1;have He:=aj he;clear he;obtain⟨a,cap,rfl,c1,c2,c3⟩:=(ah Hk).arr.shape;clear c3 c2;go_enter func59,ntmps59
  go_wp2_with fail
  refine(filter_any f _ hs).mono ?_;rintro e w1 ⟨rfl,hb1⟩;rw[ah He];have k1:=(ah Hk).below hb1;have d0:=k1.cell;have K1:=aj k1;have Hb1:=aj hb1;clear hb1 k1;go_wp2_with fail
  clear d0;go_loopw [7,22] (λov kv wr=>∃(k:Nat),kv=.int .i64 k/\k<=es.length/\Hid (eU wr w.heap.size ov (lN (es.take k) f))/\Hid (fJ o wr B p (.slice a es.length cap) es)/\Hid (Below w.heap.size w wr)) (λ_ kv _=>es.length-(intOf kv).toNat)
  case atStart=>exact⟨0,rfl,Nat.zero_le _,aj (eU.empty _ _),K1,Hb1⟩
  case round =>
   obtain⟨k,rfl,hkl,A3,K3,Hb3⟩:=hrel;obtain⟨ao,co,rfl,_⟩:=(ah A3).shape;by_cases hlt:k<es.length
   ·obtain⟨g,cap',e0,f1,f2,f3,f4⟩:=(ah K3).arr.there (by omega);obtain⟨rfl,_,rfl⟩:=Value.slice.inj e0;clear e0;have d2:=(ah K3).arr.text hlt;have d3:=(ah K3).arr.num hlt;obtain⟨g1,g2⟩:=(ah Hg).2.2 (en es k) (CQ hlt);have Hs:=aj (NZ es f k hlt);have Hl:=aj (Uj es f k);have hb0:Below wr.heap.size wr (wr.alloc (.cells #[.string (en es k).1,.int .i64 (en es k).2] 68)):=(Below.refl _ _).alloc (Nat.le_refl _) _;have Hb0:=aj hb0;clear hb0;go_wp2_with fail
    refine(CO f (en es k).1 _ hs g2).mono ?_;rintro e w5 ⟨rfl,b5⟩;have r0:=one_row (heap_alloc_new wr (.cells #[.string (en es k).1,.int .i64 (en es k).2] 68));have d4:w5.cell? ⟨wr.heap.size,0,none⟩=some (.string (en es k).1):=by rw[b5.cell (p:=⟨wr.heap.size,0,none⟩) (by simp)];exact r0.1 0 _ rfl
    have d5:w5.cell? ⟨wr.heap.size,1,none⟩=some (.int .i64 (en es k).2):=by rw[b5.cell (p:=⟨wr.heap.size,1,none⟩) (by simp)];exact r0.1 1 _ rfl
    have K5:=((ah K3).below (ah Hb0)).below b5;have A5:=((ah A3).below (ah Hb0)).below b5;have Hb5:=aj (ak (ak (ah Hb3) (ah Hb0)) b5);clear d2 d3 r0
    cases hm:bC f (en es k).1 with
    | true =>
     have Hm:=aj hm;have K5':=aj K5;have A5':=aj A5;clear hm K5 A5;go_wp2_with fail
     refine(Ol (en es k).1 (en es k).2 _ g2).mono ?_;rintro e w6 ⟨rfl,b6⟩;have K6:=(ah K5').below b6;have A6:=(ah A5').below b6;have VT:=aj (ak (ah Hb5) b6);clear K5' A5' Hb5 b5 d4 d5;have hb6:Below w6.heap.size w6 (w6.alloc (.cells #[.string (en es k).1,.int .i64 (en es k).2] 68)):=(Below.refl _ _).alloc (Nat.le_refl _) _;obtain⟨v',w',hr,r1,r2,r3⟩:=lq _ w.heap.size 64 _ _ [en es k] (A6.below hb6) ⟨w6.heap.size,0,none⟩ 1 (Zk w6 (en es k)) (by have:=ah Hl;simp;omega) (by have:=(ah VT).size;have:=hb6.size;omega);have hown:∀k2,(Value.slice ao (lN (es.take k) f).length co).ownBlock=some k2->w.heap.size<=k2:=λk2 h2=>(A6.lt k2 h2).1
     have r2':=aF.bU r2;have hb7:Below w.heap.size _ w':=r2'.below (by have:=(ah VT).size;have:=hb6.size;omega) (λk2 h2 h3=>by have:=hown k2 h3;omega);have K7:=aj ((K6.below hb6).dh r2' (λk2 h2 h3=>by
      have q1:=hown k2 h3;rcases h2 with h2|h2
      ·have:=(ah Hk).lt;omega
      ·have:=((ah Hk).arr.lt k2 h2).2;omega))
     have Hb7:=aj ((ak (ah VT) hb6).trans hb7);have A7:Hid (eU w' w.heap.size v' (lN (es.take (k+1)) f)):=aj (by rw[ah Hs,ah Hm,if_pos rfl];exact r1);clear hb6 b6 K6 A6 r1 r2 r2' r3 hb7 hown;go_wp2_with (at_builtin;refine Lib.wpList_append_run _ rfl _ _ _ _ rfl _ _ rfl rfl _ _ hr ?_)
     refine⟨⟨k+1,by go_num,by omega,A7,K7,Hb7⟩,?_⟩;simp[intOf];omega
    | false =>
     have A7:Hid (eU w5 w.heap.size (.slice ao (lN (es.take k) f).length co) (lN (es.take (k+1)) f)):=aj (by rw[ah Hs,hm,if_neg (by simp),List.append_nil];exact A5);have K7:=aj K5;clear hm K5 A5;go_wp2_with fail
     refine⟨⟨k+1,by go_num,by omega,A7,K7,Hb5⟩,?_⟩;simp[intOf];omega
   ·go_wp2_with fail
    go_ret2
    refine⟨_,adP (ah He),?_,ah Hb3⟩;have:=ah A3;rw[List.take_of_length_le (by omega)] at this;rw[List.take_of_length_le (by omega)];exact this
 ·rw[if_neg he];go_enter func59,ntmps59
  go_wp2_with fail
  refine(filter_any f _ hs).mono ?_;rintro e w1 ⟨rfl,hb1⟩;go_wp2_with fail
  go_ret2
  exact⟨_,rfl,eU.empty _ _,hb1⟩
end Go.Proofs.YtidekgipblnpkaaGreatDoor
