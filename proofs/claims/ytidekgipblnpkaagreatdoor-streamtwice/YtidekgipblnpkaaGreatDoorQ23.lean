/- A part of the proof. -/
import Derived.Test.YtidekgipblnpkaaGreatDoorQ22
set_option maxRecDepth 100000
set_option maxHeartbeats 8000000
namespace Go.Proofs.YtidekgipblnpkaaGreatDoor.Dk
open Go.RowKit Go.Proofs.Tryz
theorem YX:(prog.info? 5).map (λi=>(i.zero,i.size,i.bytes))=some (some (.int .u8 0),1,1):=by kernel_rfl
theorem Qp (t s:ByteArray):Lib.strCells (t++s)=Lib.strCells t++Lib.strCells s:=by
 unfold Lib.strCells;rw[ByteArray.data_append,Array.toList_append,List.map_append]
theorem Xg (w:World)(B:Nat)(ty:TypeId)(v:Value)(t s:ByteArray)(h:w.ownsRow B 5 1 v t.size (Lib.strCells t))(hB:B<=w.heap.size)(hl:t.size+s.size<=1000000) :
 ∃v' w',(Builtin.append_ #[189,9] ty #[v,.string s]).run prog w=.ok v' w'/\w'.ownsRow B 5 1 v' (t++s).size (Lib.strCells (t++s))/\aF (λk=>v.ownBlock=some k) w w'/\∀g,v'.ownBlock=some g->v.ownBlock=some g\/w.heap.size<=g:=by
 obtain⟨i0,hi,hz0,hz1,hz2⟩:=info_parts YX;obtain⟨v',w',hr,h2,h3,h4⟩:=Lib.run_append_own_string (P:=prog) w B 189 9 ty 5 i0 underlying189 underlying9 hi hz0 hz1 hz2 v t.size (Lib.strCells t) h s (by unfold maxLen;omega) (by omega) hB;refine⟨v',w',hr,?_,(aF.bU h3),?_⟩
 ·rw[Qp,ByteArray.size_append];exact h2
 ·intro g hg;rcases h.2 with ⟨rfl,hn⟩|⟨g0,cap,cur,rfl,hbg,hg0,hnc,hcm,hcs,htake⟩
  ·by_cases hm:s.size=0
   ·rw[h4.2 ⟨rfl,hm⟩] at hg;cases hg
   ·right;have hr2:=run_append_nil_string (P:=prog) w 189 9 ty 5 i0 (.int .u8 0) underlying189 underlying9 hi hz0 s (by omega) (by omega) (by rw[hz2];omega);rw[hr] at hr2
    cases hr2
    simp only[Value.ownBlock,Option.some.injEq] at hg;omega
  ·by_cases hroom:t.size+s.size<=cap
   ·left;have hr2:=Lib.run_append_room_string (P:=prog) w 189 9 ty 5 i0 underlying189 underlying9 hi hz1 g0 t.size cap cur hg0 s hroom (by rw[hcs];omega);rw[hr] at hr2
    cases hr2
    exact hg
   ·right;have hr2:=Lib.run_append_grow_string (P:=prog) w 189 9 ty 5 i0 (.int .u8 0) underlying189 underlying9 hi hz0 ⟨g0,0,none⟩ t.size cap (Lib.strCells t) (by rw[hz1,Nat.mul_one,Lib.strCells_length]) (World.ownsRow.cells h (g:=g0) rfl) s (by omega) (by omega) (by rw[hz2];exact growslice_fits (by omega) (by omega));rw[hr] at hr2
    cases hr2
    simp only[Value.ownBlock,Option.some.injEq] at hg;omega
def newL (es:List ay)(n:Int):List ay:=insL es (low es n) ⟨n,0,ByteArray.empty⟩
theorem Bc {es:List ay}{n:Int}(h:eY es n=none)(k:Int):eY (newL es n) k=if k=n then some ⟨n,0,ByteArray.empty⟩ else eY es k:=by
 unfold newL;rw[YC (x:=⟨n,0,ByteArray.empty⟩) _ (BU (rH h))]
theorem Kt (es:List ay)(n:Int):(newL es n).length=es.length+1:=iG (BR _ _)
theorem eqlSome (b:Nat)(w:World):(binOp .eql 170 (.map (some b)) (.map none)).run prog w=.ok (.bool false) w:=by kernel_rfl
theorem eqlNil (w:World):(binOp .eql 170 (.map none) (.map none)).run prog w=.ok (.bool true) w:=by kernel_rfl
def Made (w w':World)(B q:Nat)(rl:Nat->Option (Nat×Int))(m:Int)(es:List ay)(n:Int)(c:Nat):Prop:=∃rl' mb' D' cO' vO',kU w' B q rl' m (newL es n) mb' D' cO' vO'/\cO' n=c/\(vO' n)=.slice none 0 0/\aF (λk=>(rl k).isSome=true) w w'/\(∀k,(rl' k).isSome=true->(rl k).isSome=true\/w.heap.size<=k)
theorem Uk (w:World)(B:Nat)(n:Int):File (w.alloc (.cells #[.slice none 0 0,.int .i64 0] 191)) B w.heap.size (.slice none 0 0) ⟨n,0,ByteArray.empty⟩:=by
 refine⟨by simp,?_,?_,?_,?_,World.ownsRow_nil _ _ _ _⟩
 ·rw[cell_of_row _ w.heap.size 0 _ _ _ (heap_alloc_new w _)];rfl
 ·rw[cell_of_row _ w.heap.size 1 _ _ _ (heap_alloc_new w _)];rfl
 ·exact frozen_of_row _ w.heap.size 0 _ _ (heap_alloc_new w _)
 ·exact frozen_of_row _ w.heap.size 1 _ _ (heap_alloc_new w _)
theorem Xh {w:World}{B q b:Nat}{rl:Nat->Option (Nat×Int)}{m:Int}{es:List ay}{D:DataW Unit}{cO:Int->Nat}{vO:Int->Value}(n:Int)(hn:wf n)(h:kU w B q rl m es (some b) D cO vO)(hf:eY es n=none)(h20:es.length<=20)(hB:B<=w.heap.size) :
 Calls prog 196 #[.pointer (some ⟨q,0,none⟩),.int .i64 n] w λe w'=>∃c,e=.returned (.pointer (some ⟨c,0,none⟩))/\Made w w' B q rl m es n c:=by
 have hsz:=h.sz;have hown:w.ownsMap prog 3 dJ b (Maps.size D) D:=by
  rcases h.mp with ⟨z,_⟩|⟨b',z,ho⟩
  ·cases z
  ·cases z;exact ho
 have hbl:=hown.lt;have vJ:=(h.own q (by rw[h.r0];rfl)).2;have hb0:Below w.heap.size w (w.alloc (.cells #[.slice none 0 0,.int .i64 0] 191)):=(Below.refl _ _).alloc (Nat.le_refl _) _;have hown1:=hown.alloc (.cells #[.slice none 0 0,.int .i64 0] 191);have k1:=h.c1;have k2:(w.alloc (.cells #[.slice none 0 0,.int .i64 0] 191)).cell? ⟨q,1,none⟩=some (.map (some b)):=by rw[hb0.cell (p:=⟨q,1,none⟩) vJ];exact h.c1
 have hke:=acy hn;have HX:Hid (∀w',w'.ownsMap prog 3 dJ b (Maps.size D+1) (D.put (.int .i64 n) (.lit (.int .i64 (w.heap.size:Int))))->(w.alloc (.cells #[.slice none 0 0,.int .i64 0] 191)).grownBy w' (some b)->Made w w' B q rl m es n w.heap.size):=aj (by
  intro w' ho hg;have hqb:q≠b:=λz=>by have:=h.r0;rw[z,h.r1 b rfl] at this;cases this
  have hc0:aF (λk=>k=b) w w':=(aF.of_below hb0).trans ((aF.bU hg).mono (λk _ z=>(Option.some.inj z).symm));have hF:File w' B w.heap.size (.slice none 0 0) ⟨n,0,ByteArray.empty⟩:=(Uk w B n).dh (aF.bU hg) (λz=>by have:=Option.some.inj z;omega) (λg hg=>by cases hg);obtain⟨rl',h',hr⟩:=h.add (es':=newL es n) (mb':=some b) (c:=w.heap.size) hf (Kt es n) (Bc hf) (hc0.mono (λk _ z=>.inr (by rw[z]))) hB (Nat.le_refl _)
   (by rw[hc0.cell (p:=⟨q,0,none⟩) vJ hqb];exact h.c0) (by rw[hc0.cell (p:=⟨q,1,none⟩) vJ hqb];exact h.c1) (by rw[hc0.frozen (p:=⟨q,1,none⟩) vJ hqb];exact h.fz) (.inr ⟨b,rfl,Cc ho⟩) (λb' hb'=>.inl hb') (λz=>by have:=Option.some.inj z;omega) (λb' hb'=>by cases hb';exact ho.lt) hF
  exact⟨rl',_,_,_,_,h',by simp,by simp,hc0.mono (λk _ z=>by rw[z,h.r1 b rfl];rfl),hr⟩)
 have hq:=eqlSome b w;clear h hf hown hb0 hB;go_enter func196,ntmps196
 go_wp2_with (first
  | (at_mapUpdate;refine wpList_mapUpdate_own _ rfl _ _ _ 170 rfl 3 188 Ic underlying170 _ b _ _ rfl hown1 (by unfold maxLen;omega) _ _ _ rfl rfl hke _ [] (Gy _) ?_;intro w1 ho1 hg1)
  | go_in)
 go_ret
 exact⟨_,rfl,ah HX w1 ho1 hg1⟩
theorem Xi {w:World}{B q:Nat}{rl:Nat->Option (Nat×Int)}{m:Int}{es:List ay}{D:DataW Unit}{cO:Int->Nat}{vO:Int->Value}(n:Int)(hn:wf n)(h:kU w B q rl m es none D cO vO)(hf:eY es n=none)(hB:B<=w.heap.size) :
 Calls prog 196 #[.pointer (some ⟨q,0,none⟩),.int .i64 n] w λe w'=>∃c,e=.returned (.pointer (some ⟨c,0,none⟩))/\Made w w' B q rl m es n c:=by
 have hD:D=.map []:=by
  rcases h.mp with ⟨_,z⟩|⟨b',z,_⟩
  ·exact z
  ·cases z
 have vJ:=(h.own q (by rw[h.r0];rfl)).2;have k1:=h.c1;have k2:=h.fz;have hqn:w.heap.size≠q:=by omega
 have hmm:=@run_makeMap prog;have hke:=acy hn;obtain⟨W3,hW3⟩:∃W3,W3=((w.setCell ⟨q,1,none⟩ (.map (some w.heap.size))).alloc (.map #[] 0)).alloc (.cells #[.slice none 0 0,.int .i64 0] 191):=⟨_,rfl⟩;have hs2:((w.setCell ⟨q,1,none⟩ (.map (some w.heap.size))).alloc (.map #[] 0)).heap.size=w.heap.size+1:=by simp[World.setCell]
 have hc2:aF (λk=>k=q) w ((w.setCell ⟨q,1,none⟩ (.map (some w.heap.size))).alloc (.map #[] 0)):=(aF.setCell (A:=λk=>k=q) (p:=⟨q,1,none⟩) (aF.refl _ _) (.inl rfl) _).trans (aF.of_below ((Below.refl _ _).alloc (Nat.le_refl _) _));have hb3:Below ((w.setCell ⟨q,1,none⟩ (.map (some w.heap.size))).alloc (.map #[] 0)).heap.size ((w.setCell ⟨q,1,none⟩ (.map (some w.heap.size))).alloc (.map #[] 0)) W3:=by rw[hW3];exact(Below.refl _ _).alloc (Nat.le_refl _) _
 have hs1:(w.setCell ⟨q,1,none⟩ (.map (some w.heap.size))).heap.size=w.heap.size:=by simp[World.setCell]
 have hown3:W3.ownsMap prog 3 dJ w.heap.size 0 (.map []):=by
  have:=World.ownsMap_made (w.setCell ⟨q,1,none⟩ (.map (some w.heap.size))) prog 3 dJ;rw[hs1] at this;rw[hW3];exact this.alloc _
 have q0:W3.cell? ⟨q,0,none⟩=some (.int .i64 m):=by
  rw[hb3.cell (p:=⟨q,0,none⟩) (show q<_ by omega),World.cell?_alloc_lt _ _ _ (show q<_ by omega),World.cell?_setCell_other _ _ _ _ (by simp)];exact h.c0
 have q1:W3.cell? ⟨q,1,none⟩=some (.map (some w.heap.size)):=by
  rw[hb3.cell (p:=⟨q,1,none⟩) (show q<_ by omega),World.cell?_alloc_lt _ _ _ (show q<_ by omega)];exact World.cell?_setCell_same _ _ _ (by rw[h.c1])
 have q2:W3.frozen? ⟨q,1,none⟩=false:=by
  rw[hb3.frozen (p:=⟨q,1,none⟩) (show q<_ by omega),((Below.refl _ _).alloc (Nat.le_refl _) _).frozen (p:=⟨q,1,none⟩) (show q<_ by omega),World.frozen?_setCell];exact h.fz
 have HX:Hid (∀w',w'.ownsMap prog 3 dJ w.heap.size (0+1) (DataW.put (.map []) (.int .i64 n) (.lit (.int .i64 ((w.heap.size+1:Nat):Int))))->W3.grownBy w' (some w.heap.size)->Made w w' B q rl m es n (w.heap.size+1)):=aj (by
  intro w' ho hg;have hgc:aF (λk=>k=w.heap.size) W3 w':=(aF.bU hg).mono (λk _ z=>(Option.some.inj z).symm);have hs3:W3.heap.size=w.heap.size+2:=by rw[hW3];simp[World.setCell]
  have hc0:aF (λk=>k=q) w w':=(hc2.trans (aF.of_below hb3)).more hgc (λi hi z=>by omega);have hF0:=Uk ((w.setCell ⟨q,1,none⟩ (.map (some w.heap.size))).alloc (.map #[] 0)) B n;rw[<-hW3,hs2] at hF0;have hF:File w' B (w.heap.size+1) (.slice none 0 0) ⟨n,0,ByteArray.empty⟩:=hF0.dh hgc (λz=>by omega) (λg hg=>by cases hg);have hM:MapAt w' (some w.heap.size) (D.put (.int .i64 n) (.lit (.int .i64 ((w.heap.size+1:Nat):Int)))):=by rw[hD];exact .inr ⟨_,rfl,Cc ho⟩
  obtain⟨rl',h',hr⟩:=h.add (es':=newL es n) (mb':=some w.heap.size) (c:=w.heap.size+1) hf (Kt es n) (Bc hf) (hc0.mono (λk _ z=>.inl z)) hB (by omega)
   (by rw[hgc.cell (p:=⟨q,0,none⟩) (by simp only;omega) (by simp only;omega)];exact q0) (by rw[hgc.cell (p:=⟨q,1,none⟩) (by simp only;omega) (by simp only;omega)];exact q1) (by rw[hgc.frozen (p:=⟨q,1,none⟩) (by simp only;omega) (by simp only;omega)];exact q2) hM (λb' hb'=>.inr (by have:=Option.some.inj hb';omega)) (λz=>by have:=Option.some.inj z;omega) (λb' hb'=>by cases hb';exact ho.lt) hF
  exact⟨rl',_,_,_,_,h',by simp,by simp,hc0.mono (λk _ z=>by rw[z,h.r0];rfl),hr⟩)
 subst hW3;have hq:=eqlNil w;clear h hf hB hD hb3 hc2 hs2 hs1 q0 q2;go_enter func196,ntmps196
 go_wp2_with (first
  | (at_mapUpdate;refine wpList_mapUpdate_own _ rfl _ _ _ 170 rfl 3 188 Ic underlying170 _ w.heap.size _ _ rfl hown3 (by unfold maxLen;omega) _ _ _ rfl rfl hke _ [] (Gy _) ?_;intro w1 ho1 hg1)
  | go_in)
 go_ret
 exact⟨_,rfl,ah HX w1 (by simpa[World.setCell] using ho1) hg1⟩
theorem wpList_append_run {P:Program}(w:World){ops:Array Oper}{rest:List Oper}{o:Oper}{a:Act}{Q:Exit->Act->World->Prop}(hgd:o.guard=none)(sl x:Operand)(t u:TypeId)(ho:o.op=.call {callee:=.builtin .append,args:=#[sl,x],argTypes:=#[t,u]})
 (v y:Value) (hs:a.eval sl=v) (hx:a.eval x=y) (v':Value) (w':World) (hr:(Builtin.append_ #[t,u] o.type #[v,y]).run P w=.ok v' w') (h:wpList P ops Q rest (a.put o.dst v') w'):wpList P ops Q (o::rest) a w:=by
 refine wpList_plain hgd λK hK=>?_
 unfold Oper.wp execOp;simp only[ho,resolve,invoke,builtin,Sem.run_bind,Sem.run_pure,Result.andThen_ok,List.map_toArray,List.map_cons,List.map_nil,hs,hx,hr];exact hK _ _ h
theorem Zl {w w3:World}{B q:Nat}{F:Nat->Prop}{rl rl3:Nat->Option (Nat×Int)}{m:Int}{es3 es':List ay}{mb:Option Nat}{D:DataW Unit}{cO:Int->Nat}{vO:Int->Value}{n:Int}{e:ay}{s:ByteArray}(hF:∀k,F k↔(rl k).isSome=true)(h3:kU w3 B q rl3 m es3 mb D cO vO)
 (hn:eY es3 n=some e) (hlen:es'.length=es3.length) (hf:∀k,eY es' k=if k=n then some (yM e s) else eY es3 k) (hc:aF (λk=>(rl k).isSome=true) w w3) (hr:∀k,(rl3 k).isSome=true->(rl k).isSome=true\/w.heap.size<=k) (hB:B<=w3.heap.size) (hl:e.text.size+s.size<=1000000) :
 ∃a l c w4,(Builtin.append_ #[189,9] 189 #[vO n,.string s]).run prog w3=.ok (.slice a l c) w4/\w4.cell? ⟨cO n,0,none⟩=some (vO n)/\w4.frozen? ⟨cO n,0,none⟩=false/\Did Has w (w4.setCell ⟨cO n,0,none⟩ (.slice a l c)) B q F m es':=by
 have gJ:=h3.file n e hn;have haw:=h3.away hn;obtain⟨v',w4,h1,h2,hcr,hv⟩:=Xg w3 B 189 (vO n) e.text s gJ.row hB hl;have hlt:=gJ.lt;have hn':v'.ownBlock≠some (cO n):=λz=>by
  rcases hv _ z with y|y
  ·exact haw y
  ·omega
 obtain⟨p1,p2⟩:=gJ.ajc hcr haw h2 hn';obtain⟨rl',h',hr'⟩:=h3.one (e':=yM e s) hn hlen hf p2 p1 hv;obtain⟨a,c,hshape,_,_⟩:=p1.shape;subst hshape;refine⟨a,_,c,w4,h1,by rw[hcr.cell (p:=⟨cO n,0,none⟩) hlt haw];exact gJ.c0,by rw[hcr.frozen (p:=⟨cO n,0,none⟩) hlt haw];exact gJ.f0,h'.did hF (hc.more (h3.foot hn p2) (λi hi z=>?_)) (λk hk=>?_)⟩
 ·rcases hr i z with y|y
  ·exact y
  ·omega
 ·rcases hr' k hk with y|y
  ·exact hr k y
  ·exact .inr (Nat.le_trans hc.size y)
theorem Ul {m:Int}{es:List ay}(ht:Tidy m es){n:Int}{s:ByteArray}{e:ay}(h0:bY es m n s=0)(hn:eY es n=some e):(gK es m n s).length=es.length/\∀k,eY (gK es m n s) k=if k=n then some (yM e s) else eY es k:=by
 refine⟨?_,λk=>?_⟩
 ·obtain⟨a,b⟩:=l9.1 h0;rw[(xu a b (pz hn).1).2,List.length_set]
 ·rw[YE ht,h0,hn];simp[acs]
theorem Um {m:Int}{es:List ay}(ht:Tidy m es){n:Int}{s:ByteArray}(h0:bY es m n s=0)(hn:eY es n=none):(gK es m n s).length=(newL es n).length/\∀k,eY (gK es m n s) k=if k=n then some (yM ⟨n,0,ByteArray.empty⟩ s) else eY (newL es n) k:=by
 refine⟨?_,λk=>?_⟩
 ·obtain⟨a,b⟩:=l9.1 h0;rw[(ug a b (rH hn)).2,Kt,iG (BR _ _)]
 ·rw[YE ht,h0,hn,Bc hn];by_cases hk:k=n
  ·simp[hk,acs,yM]
  ·simp[hk]
theorem agL {w:World}{q:Nat}(n:Int)(s:ByteArray)(hI:aY n 0 1099511627776=false) :
 Calls prog 195 #[.pointer (some ⟨q,0,none⟩),.int .i64 n,.string s] w λe w'=>e=.returned (.int .i64 1)/\Below w.heap.size w w':=by
 have h':n<0\/1099511627776<n:=by
  unfold aY at hI;simp only[Bool.and_eq_false_iff,decide_eq_false_iff_not] at hI;omega
 clear hI;by_cases h1:n<0
 ·go_enter func195,ntmps195
  go_wp2_with fail
  go_ret
  exact⟨rfl,Below.refl _ _⟩
 ·have h2:1099511627776<n:=by omega
  go_enter func195,ntmps195
  go_wp2_with fail
  go_ret
  exact⟨rfl,Below.refl _ _⟩
theorem adW {w:World}{B q:Nat}{F:Nat->Prop}{m:Int}{es:List ay}(n:Int)(s:ByteArray)(hH:Has w B q F m es)(ht:Tidy m es)(hm:m<=65536)(hs:s.size<=140737488355328)(hI:0<=n/\n<=1099511627776)(hfull:m<(s.size:Int)+(used es:Int)) :
 Calls prog 195 #[.pointer (some ⟨q,0,none⟩),.int .i64 n,.string s] w λe w'=>e=.returned (.int .i64 8)/\Below w.heap.size w w':=by
 have hb0:Below w.heap.size w w.drew:=(Below.refl _ _).drew;have hH1:Has w.drew B q F m es:=hH.dh (A:=λ_=>False) (aF.of_below hb0) (λ_ _ z=>z);have PU:=aj (sZ hH1 ht hm);have hfit:=ht.fits;obtain⟨rl,mb,D,cO,vO,hF,h⟩:=hH;have vJ:=(h.own q (by rw[h.r0];rfl)).2;have k0:w.drew.cell? ⟨q,0,none⟩=some (.int .i64 m):=h.c0;have h1:¬n<0:=by omega
 have h2:¬1099511627776<n:=by omega
 have hw:IntKind.i64.wrap (m-(used es:Int))=m-(used es:Int):=by rw[IntKind.wrap_i64];omega
 have hd:decide (m-(used es:Int)<(s.size:Int))=true:=decide_eq_true (by omega);clear h hF hH1 ht;go_enter func195,ntmps195
 go_wp2_with fail
 go_region_held3 (λw'=>w'.cell? ⟨q,0,none⟩=some (.int .i64 m)) (first|assumption|go_keep)
  ((go_at_call 225;refine(ah PU).mono ?_;rintro e w3 ⟨rfl,b3⟩;have t0:w3.cell? ⟨q,0,none⟩=some (.int .i64 m):=(b3.cell (p:=⟨q,0,none⟩) vJ).trans k0))
 have hb3:Below w.heap.size w w3:=hb0.trans b3;clear b3 hb0;go_wp2_with fail
 go_ret
 exact⟨rfl,hb3⟩
theorem agM {w:World}{B q:Nat}{F:Nat->Prop}{m:Int}{es:List ay}(n:Int)(s:ByteArray)(hH:Has w B q F m es){e:ay}(ht:Tidy m es)(hm:m<=65536)(hI:0<=n/\n<=1099511627776)(hfull:¬m<(s.size:Int)+(used es:Int))(hn:eY es n=some e) :
 Calls prog 195 #[.pointer (some ⟨q,0,none⟩),.int .i64 n,.string s] w λe w'=>e=.returned (.int .i64 0)/\Below w.heap.size w w':=by
 have hb0:Below w.heap.size w w.drew:=(Below.refl _ _).drew;have hH1:Has w.drew B q F m es:=hH.dh (A:=λ_=>False) (aF.of_below hb0) (λ_ _ z=>z);have PU:=aj (sZ hH1 ht hm);have hfit:=ht.fits;obtain⟨rl,mb,D,cO,vO,hF,h⟩:=hH;have vJ:=(h.own q (by rw[h.r0];rfl)).2;have k0:w.drew.cell? ⟨q,0,none⟩=some (.int .i64 m):=h.c0;have h1:¬n<0:=by omega
 have h2:¬1099511627776<n:=by omega
 have hw:IntKind.i64.wrap (m-(used es:Int))=m-(used es:Int):=by rw[IntKind.wrap_i64];omega
 have hd:decide (m-(used es:Int)<(s.size:Int))=false:=decide_eq_false (by omega);have HX:Hid (∀w3,Below w.heap.size w w3->w3.cell? ⟨q,1,none⟩=some (.map mb)/\(Instr.lookup 170 (.map mb) (.int .i64 n) false).run prog w3=.ok (.pointer (some ⟨cO n,0,none⟩)) w3/\∀ty,(Builtin.len_ #[170] ty #[.map mb]).run prog w3=.ok (.int .i64 (es.length:Int)) w3):=aj (by
  intro w3 hb3;have h3:=h.keep (A:=λ_=>False) (aF.of_below hb3) (λ_ _ z=>z);refine⟨h3.c1,?_,λty=>?_⟩
  ·rcases h3.look (vT hI) with ⟨z,y⟩|⟨_,z,y⟩
   ·rw[hn] at z;cases z
   ·exact y
  ·rw[h3.mp.len ty,h3.sz])
 clear h hF hH1 ht hn;go_enter func195,ntmps195
 go_wp2_with fail
 go_region_held3 (λw'=>w'.cell? ⟨q,0,none⟩=some (.int .i64 m)) (first|assumption|go_keep)
  ((go_at_call 225;refine(ah PU).mono ?_;rintro e w3 ⟨rfl,b3⟩;have t0:w3.cell? ⟨q,0,none⟩=some (.int .i64 m):=(b3.cell (p:=⟨q,0,none⟩) vJ).trans k0))
 have hb3:Below w.heap.size w w3:=hb0.trans b3;obtain⟨x1,x2,x3⟩:=ah HX w3 hb3;clear b3 hb0 HX;go_wp2_with fail
 go_ret
 exact⟨rfl,hb3⟩
theorem adX {w:World}{B q:Nat}{F:Nat->Prop}{m:Int}{es:List ay}(n:Int)(s:ByteArray)(hH:Has w B q F m es)(ht:Tidy m es)(hm:m<=65536)(hI:0<=n/\n<=1099511627776)(hfull:¬m<(s.size:Int)+(used es:Int))(hn:eY es n=none)(h20:es.length<20) :
 Calls prog 195 #[.pointer (some ⟨q,0,none⟩),.int .i64 n,.string s] w λe w'=>e=.returned (.int .i64 0)/\Below w.heap.size w w':=by
 have hb0:Below w.heap.size w w.drew:=(Below.refl _ _).drew;have hH1:Has w.drew B q F m es:=hH.dh (A:=λ_=>False) (aF.of_below hb0) (λ_ _ z=>z);have PU:=aj (sZ hH1 ht hm);have hfit:=ht.fits;obtain⟨rl,mb,D,cO,vO,hF,h⟩:=hH;have vJ:=(h.own q (by rw[h.r0];rfl)).2;have k0:w.drew.cell? ⟨q,0,none⟩=some (.int .i64 m):=h.c0;have h1:¬n<0:=by omega
 have h2:¬1099511627776<n:=by omega
 have hw:IntKind.i64.wrap (m-(used es:Int))=m-(used es:Int):=by rw[IntKind.wrap_i64];omega
 have hd:decide (m-(used es:Int)<(s.size:Int))=false:=decide_eq_false (by omega);have hd2:decide ((20:Int)<=(es.length:Int))=false:=decide_eq_false (by omega);have HX:Hid (∀w3,Below w.heap.size w w3->w3.cell? ⟨q,1,none⟩=some (.map mb)/\(Instr.lookup 170 (.map mb) (.int .i64 n) false).run prog w3=.ok (.pointer none) w3/\∀ty,(Builtin.len_ #[170] ty #[.map mb]).run prog w3=.ok (.int .i64 (es.length:Int)) w3):=aj (by
  intro w3 hb3;have h3:=h.keep (A:=λ_=>False) (aF.of_below hb3) (λ_ _ z=>z);refine⟨h3.c1,?_,λty=>?_⟩
  ·rcases h3.look (vT hI) with ⟨z,y⟩|⟨_,z,y⟩
   ·exact y
   ·rw[hn] at z;cases z
  ·rw[h3.mp.len ty,h3.sz])
 clear h hF hH1 ht hn h20;go_enter func195,ntmps195
 go_wp2_with fail
 go_region_held3 (λw'=>w'.cell? ⟨q,0,none⟩=some (.int .i64 m)) (first|assumption|go_keep)
  ((go_at_call 225;refine(ah PU).mono ?_;rintro e w3 ⟨rfl,b3⟩;have t0:w3.cell? ⟨q,0,none⟩=some (.int .i64 m):=(b3.cell (p:=⟨q,0,none⟩) vJ).trans k0))
 have hb3:Below w.heap.size w w3:=hb0.trans b3;obtain⟨x1,x2,x3⟩:=ah HX w3 hb3;clear b3 hb0 HX;go_wp2_with fail
 go_ret
 exact⟨rfl,hb3⟩
theorem adY {w:World}{B q:Nat}{F:Nat->Prop}{m:Int}{es:List ay}(n:Int)(s:ByteArray)(hH:Has w B q F m es)(ht:Tidy m es)(hm:m<=65536)(hI:0<=n/\n<=1099511627776)(hfull:¬m<(s.size:Int)+(used es:Int))(hn:eY es n=none)(h20:es.length=20) :
 Calls prog 195 #[.pointer (some ⟨q,0,none⟩),.int .i64 n,.string s] w λe w'=>e=.returned (.int .i64 8)/\Below w.heap.size w w':=by
 have hb0:Below w.heap.size w w.drew:=(Below.refl _ _).drew;have hH1:Has w.drew B q F m es:=hH.dh (A:=λ_=>False) (aF.of_below hb0) (λ_ _ z=>z);have PU:=aj (sZ hH1 ht hm);have hfit:=ht.fits;obtain⟨rl,mb,D,cO,vO,hF,h⟩:=hH;have vJ:=(h.own q (by rw[h.r0];rfl)).2;have k0:w.drew.cell? ⟨q,0,none⟩=some (.int .i64 m):=h.c0;have h1:¬n<0:=by omega
 have h2:¬1099511627776<n:=by omega
 have hw:IntKind.i64.wrap (m-(used es:Int))=m-(used es:Int):=by rw[IntKind.wrap_i64];omega
 have hd:decide (m-(used es:Int)<(s.size:Int))=false:=decide_eq_false (by omega);have HX:Hid (∀w3,Below w.heap.size w w3->w3.cell? ⟨q,1,none⟩=some (.map mb)/\(Instr.lookup 170 (.map mb) (.int .i64 n) false).run prog w3=.ok (.pointer none) w3/\∀ty,(Builtin.len_ #[170] ty #[.map mb]).run prog w3=.ok (.int .i64 20) w3):=aj (by
  intro w3 hb3;have h3:=h.keep (A:=λ_=>False) (aF.of_below hb3) (λ_ _ z=>z);refine⟨h3.c1,?_,λty=>?_⟩
  ·rcases h3.look (vT hI) with ⟨z,y⟩|⟨_,z,y⟩
   ·exact y
   ·rw[hn] at z;cases z
  ·rw[h3.mp.len ty,h3.sz,h20];rfl)
 clear h hF hH1 ht hn h20;go_enter func195,ntmps195
 go_wp2_with fail
 go_region_held3 (λw'=>w'.cell? ⟨q,0,none⟩=some (.int .i64 m)) (first|assumption|go_keep)
  ((go_at_call 225;refine(ah PU).mono ?_;rintro e w3 ⟨rfl,b3⟩;have t0:w3.cell? ⟨q,0,none⟩=some (.int .i64 m):=(b3.cell (p:=⟨q,0,none⟩) vJ).trans k0))
 have hb3:Below w.heap.size w w3:=hb0.trans b3;obtain⟨x1,x2,x3⟩:=ah HX w3 hb3;clear b3 hb0 HX;go_wp2_with fail
 go_ret
 exact⟨rfl,hb3⟩
theorem Bd {w:World}{B q:Nat}{F:Nat->Prop}{m:Int}{es:List ay}(n:Int)(s:ByteArray)(hH:Has w B q F m es)(ht:Tidy m es)(hm:m<=65536)(hs:s.size<=140737488355328) :
 Calls prog 195 #[.pointer (some ⟨q,0,none⟩),.int .i64 n,.string s] w λe w'=>e=.returned (.int .i64 (bY es m n s))/\Below w.heap.size w w':=by
 cases hI:aY n 0 1099511627776 with
 | false =>
  rw[(Il hI).1];exact agL n s hI
 | true =>
  have hI':0<=n/\n<=1099511627776:=by simpa[aY] using hI
  by_cases hr:m<(s.size:Int)+(used es:Int)
  ·have hf:full es m n s=true:=by unfold full;rw[decide_eq_true hr];rfl
   rw[(rZ hI hf).1];exact adW n s hH ht hm hs hI' hr
  ·cases hn:eY es n with
   | some e =>
    have hf:full es m n s=false:=by unfold full;rw[decide_eq_false hr,decide_eq_true (pz hn).1];rfl
    rw[l9.2 ⟨hI,hf⟩];exact agM n s hH ht hm hI' hr hn
   | none =>
    by_cases h20:es.length=20
    ·have hf:full es m n s=true:=by unfold full;rw[decide_eq_false hr,decide_eq_false (rH hn),decide_eq_true h20];rfl
     rw[(rZ hI hf).1];exact adY n s hH ht hm hI' hr hn h20
    ·have hf:full es m n s=false:=by unfold full;rw[decide_eq_false hr,decide_eq_false (rH hn),decide_eq_false h20];rfl
     rw[l9.2 ⟨hI,hf⟩];exact adX n s hH ht hm hI' hr hn (by have:=ht.few;omega)
theorem Xj {w:World}{B q:Nat}{F:Nat->Prop}{m:Int}{es:List ay}(n:Int)(s:ByteArray)(hH:Has w B q F m es)(ht:Tidy m es)(hm:m<=65536)(hs:s.size<=140737488355328){E:Int}(hE:bY es m n s=E)(h0:E≠0) :
 Calls prog 158 #[.pointer (some ⟨q,0,none⟩),.int .i64 n,.string s] w λe w'=>e=.returned (.int .i64 E)/\Did Has w w' B q F m es:=by
 have PT:=aj (Bd n s hH ht hm hs);rw[hE] at PT;have HH:=aj hH;have h1:(E !=0)=true:=by simpa using h0
 clear hH ht hE;go_enter func158,ntmps158
 go_wp2_with fail
 refine(ah PT).mono ?_;rintro e w3 ⟨rfl,b3⟩;have B3:=aj b3;clear b3 PT;go_wp2_with fail
 go_ret
 exact⟨rfl,xK (ah HH) (ah B3)⟩
theorem Xk {w:World}{B q:Nat}{F:Nat->Prop}{m:Int}{es:List ay}(n:Int)(s:ByteArray)(hH:Has w B q F m es){e:ay}(ht:Tidy m es)(hm:m<=65536)(hs:s.size<=140737488355328)(hB:B<=w.heap.size)(hI:0<=n/\n<=1099511627776)(h0:bY es m n s=0)(hfull:¬m<(s.size:Int)+(used es:Int))(hn:eY es n=some e) :
 Calls prog 158 #[.pointer (some ⟨q,0,none⟩),.int .i64 n,.string s] w λe w'=>e=.returned (.int .i64 0)/\Did Has w w' B q F m (gK es m n s):=by
 have PT:=aj (Bd n s hH ht hm hs);rw[h0] at PT;have hfit:=ht.fits;obtain⟨rl,mb,D,cO,vO,hF,h⟩:=hH;have hmem:=qh (xA hn).1;have HX:Hid (∀w3,Below w.heap.size w w3->w3.cell? ⟨q,1,none⟩=some (.map mb)/\(Instr.lookup 170 (.map mb) (.int .i64 n) false).run prog w3=.ok (.pointer (some ⟨cO n,0,none⟩)) w3/\w3.cell? ⟨cO n,0,none⟩=some (vO n)/\∃a l k w4,(Builtin.append_ #[189,9] 189 #[vO n,.string s]).run prog w3=.ok (.slice a l k) w4/\w4.cell? ⟨cO n,0,none⟩=some (vO n)/\w4.frozen? ⟨cO n,0,none⟩=false/\Did Has w (w4.setCell ⟨cO n,0,none⟩ (.slice a l k)) B q F m (gK es m n s)):=aj (by
  intro w3 hb3;have h3:=h.keep (A:=λ_=>False) (aF.of_below hb3) (λ_ _ z=>z);refine⟨h3.c1,?_,(h3.file n e hn).c0,?_⟩
  ·rcases h3.look (vT hI) with ⟨z,_⟩|⟨_,_,z⟩
   ·rw[hn] at z;cases z
   ·exact z
  ·exact Zl hF h3 hn (Ul ht h0 hn).1 (Ul ht h0 hn).2 (aF.of_below hb3) (λk hk=>.inl hk) (Nat.le_trans hB hb3.size) (by omega))
 clear h hF ht hn h0;go_enter func158,ntmps158
 go_wp2_with fail
 refine(ah PT).mono ?_;rintro e w3 ⟨rfl,b3⟩;obtain⟨x1,x2,x3,a,l,k,w4,x4,x5,x6,x7⟩:=ah HX w3 b3;have X7:=aj x7;clear b3 x7 HX PT;go_wp2_with (at_builtin;refine wpList_append_run _ rfl _ _ 189 9 rfl _ _ rfl rfl _ _ x4 ?_)
 go_ret
 exact⟨rfl,ah X7⟩
theorem Un {w:World}{B q:Nat}{F:Nat->Prop}{m:Int}{es:List ay}(n:Int)(s:ByteArray)(hH:Has w B q F m es)(ht:Tidy m es)(hm:m<=65536)(hs:s.size<=140737488355328)(hB:B<=w.heap.size)(hI:0<=n/\n<=1099511627776)(h0:bY es m n s=0)(hfull:¬m<(s.size:Int)+(used es:Int))(hn:eY es n=none)(h20:es.length<20) :
 Calls prog 158 #[.pointer (some ⟨q,0,none⟩),.int .i64 n,.string s] w λe w'=>e=.returned (.int .i64 0)/\Did Has w w' B q F m (gK es m n s):=by
 have PT:=aj (Bd n s hH ht hm hs);rw[h0] at PT;have hfit:=ht.fits;obtain⟨rl,mb,D,cO,vO,hF,h⟩:=hH;have HX:Hid (∀w3,Below w.heap.size w w3->w3.cell? ⟨q,1,none⟩=some (.map mb)/\(Instr.lookup 170 (.map mb) (.int .i64 n) false).run prog w3=.ok (.pointer none) w3 /\
  Calls prog 196 #[.pointer (some ⟨q,0,none⟩),.int .i64 n] w3 λe w5=>∃c,e=.returned (.pointer (some ⟨c,0,none⟩))/\w5.cell? ⟨c,0,none⟩=some (.slice none 0 0)/\∃a l k w4,(Builtin.append_ #[189,9] 189 #[.slice none 0 0,.string s]).run prog w5=.ok (.slice a l k) w4/\w4.cell? ⟨c,0,none⟩=some (.slice none 0 0)/\w4.frozen? ⟨c,0,none⟩=false/\Did Has w (w4.setCell ⟨c,0,none⟩ (.slice a l k)) B q F m (gK es m n s)):=aj (by
  intro w3 hb3;have h3:=h.keep (A:=λ_=>False) (aF.of_below hb3) (λ_ _ z=>z);refine⟨h3.c1,?_,?_⟩
  ·rcases h3.look (vT hI) with ⟨_,z⟩|⟨_,z,_⟩
   ·exact z
   ·rw[hn] at z;cases z
  ·have hC:Calls prog 196 #[.pointer (some ⟨q,0,none⟩),.int .i64 n] w3 λe w'=>∃c,e=.returned (.pointer (some ⟨c,0,none⟩))/\Made w3 w' B q rl m es n c:=by
    cases mb with
    | none=>exact Xi n (vT hI) h3 hn (Nat.le_trans hB hb3.size)
    | some b=>exact Xh n (vT hI) h3 hn (by omega) (Nat.le_trans hB hb3.size)
   refine hC.mono ?_;rintro r w5 ⟨c,rfl,rl',mb',D',cO',vO',h5,hc5,hv5,hch,hrl⟩;have hf5:eY (newL es n) n=some ⟨n,0,ByteArray.empty⟩:=by rw[Bc hn,if_pos rfl]
   have hfin:=Zl (w:=w) hF h5 hf5 (Um ht h0 hn).1 (Um ht h0 hn).2 ((aF.of_below hb3).trans hch) (λk hk=>by
    rcases hrl k hk with y|y
    ·exact .inl y
    ·exact .inr (Nat.le_trans hb3.size y)) (Nat.le_trans hB (Nat.le_trans hb3.size hch.size)) (by show 0+s.size<=1000000;omega)
   rw[hc5,hv5] at hfin;have hcell:=(h5.file n _ hf5).c0;rw[hc5,hv5] at hcell;exact⟨c,rfl,hcell,hfin⟩)
 clear h hF ht hn h0 h20;go_enter func158,ntmps158
 go_wp2_with fail
 refine(ah PT).mono ?_;rintro e w3 ⟨rfl,b3⟩;obtain⟨x1,x2,x4⟩:=ah HX w3 b3;have PC:=aj x4;clear b3 HX x4 PT;go_wp2_with fail
 refine(ah PC).mono ?_;rintro r w5 ⟨c,rfl,y1,a,l,k,w4,y2,y3,y4,y5⟩;have Y5:=aj y5;clear y5 PC x1 x2;go_wp2_with (at_builtin;refine wpList_append_run _ rfl _ _ 189 9 rfl _ _ rfl rfl _ _ y2 ?_)
 go_ret
 exact⟨rfl,ah Y5⟩
theorem Uo {w:World}{B q:Nat}{F:Nat->Prop}{m:Int}{es:List ay}(n:Int)(s:ByteArray)(hH:Has w B q F m es)(ht:Tidy m es)(hm:m<=65536)(hs:s.size<=140737488355328)(hB:B<=w.heap.size) :
 Calls prog 158 #[.pointer (some ⟨q,0,none⟩),.int .i64 n,.string s] w λe w'=>e=.returned (.int .i64 (bY es m n s))/\Did Has w w' B q F m (gK es m n s):=by
 by_cases h0:bY es m n s=0
 ·obtain⟨hI,hf⟩:=l9.1 h0;have hI':0<=n/\n<=1099511627776:=by simpa[aY] using hI
  have hr:¬m<(s.size:Int)+(used es:Int):=λz=>by unfold full at hf;rw[decide_eq_true z] at hf;cases hf
  rw[h0]
  cases hn:eY es n with
  | some e=>exact Xk n s hH ht hm hs hB hI' h0 hr hn
  | none =>
   have h20:es.length≠20:=λz=>by unfold full at hf;rw[decide_eq_false hr,decide_eq_false (rH hn),decide_eq_true z] at hf;cases hf
   exact Un n s hH ht hm hs hB hI' h0 hr hn (by have:=ht.few;omega)
 ·rw[jQ h0];exact Xj n s hH ht hm hs rfl h0
end Go.Proofs.YtidekgipblnpkaaGreatDoor.Dk
