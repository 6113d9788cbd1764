/- A part. -/
import Derived.Test.YtebofkkfbkodiaaGreatDoorQ7
import Derived.Lib.SlKeysI
set_option maxRecDepth 100000
set_option maxHeartbeats 8000000
namespace Go.Proofs.YtebofkkfbkodiaaGreatDoor
open Go.RowKit Go.Proofs.Tryz
namespace Dk
variable {w:I}{B q:Nat}{rl:Nat->Option (Nat×Int)}{m n:Int}{es:List aB}{mb:Option Nat}{D:DataW Unit}{cO:Int->Nat}{vO:Int->Value}{left:Lit->Bool}{ss:List Int}{F:af}{e:aB}{s:ad}
theorem invK (key:Value)(kl:Lit)(hk:keyOf prog 3 key=some kl):∃x,key=Value.int .i64 x:=by
 obtain⟨x,h,_⟩:=Maps.keyOf_int_inv underlying3 hk;exact⟨x,h⟩
def mkP (c:Nat):Value:=ae c
theorem invV (v:Value)(y:DataW Unit×List MemPlace)(h:bD v=some y):∃c,v=mkP c:=by
 obtain⟨b,h,_⟩:=nJ h;exact⟨b,h⟩
theorem jT.came (h:jT w B q rl m es mb D cO vO){x:Int}{c:Nat}{kl:Lit}{y:DataW Unit}{z:List MemPlace}(hk:keyOf prog 3 (.int .i64 x)=some kl)(hv:bD (mkP c)=some (y,z))(hat:∀zd,D.atKey kl zd=y):kl=.int .i64 x/\c=cO x/\∃e,fD es x=some e:=by
 obtain⟨x',e1,rfl,_⟩:=Maps.keyOf_int_inv underlying3 hk
 cases e1
 have hh:=h.key x;rw[Maps.has_true_of_atKey hat] at hh
 cases hf:fD es x with
 | none=>rw[hf] at hh;cases hh
 | some e =>
  refine⟨rfl,?_,e,rfl⟩;have h1:=(hat .nil).symm.trans (h.ptr x e hf .nil);have h2:(DataW.lit (.int .i64 (c:Int)):DataW Unit)=y:=by
   have:some ((DataW.lit (.int .i64 (c:Int)):DataW Unit),([]:List MemPlace))=some (y,z):=hv;exact congrArg Prod.fst (ajU this)
  rw[<-h2] at h1;simp only[amf,amz,ane] at h1;omega
theorem jT.keys (h:jT w B q rl m es mb D cO vO)(ht:Tidy m es)(hC:CollectedI D left ss)(hl:∀kl,left kl=false):ss.Perm (aW es):=by
 refine(List.perm_ext_iff_of_nodup hC.1 ?_).2 (λx=>?_)
 ·exact((kM es).1 ht.rise).imp (λhab e=>by omega)
 ·rw[hC.2 x,Dw,h.key,hl];simp
def Jf (es:List aB)(ss:List Int):Nat:=(ss.map (mP es)).sum
theorem Tn (es:List aB)(ss:List Int)(x:Int):Jf es (ss++[x])=Jf es ss+mP es x:=by simp[Jf]
theorem Es (f:Int->Nat):∀(ss L:List Int),ss.Nodup->(∀x,x∈ss->x∈L)->(ss.map f).sum<=(L.map f).sum
 | [],L,_,_=>by simp
 | x::ss,L,hnd,hs=>by
  have hx:=hs x (by simp);have hnd':=amE.1 hnd;have ih:=Es f ss (L.erase x) hnd'.2 (λy hy=>by
   have hne:y≠x:=λe=>hnd'.1 (by rw[<-e];exact hy)
   exact(List.mem_erase_of_ne hne).2 (hs y (by simp[hy])))
  have hp:(L.map f).sum=((x::L.erase x).map f).sum:=((List.perm_cons_erase hx).map f).sum_nat;rw[hp,akw,akw,alF,alF];omega
theorem aem (ht:Tidy m es)(hk:∀n,Maps.has D (.int .i64 n)=(fD es n).isSome)(hC:CollectedI D left ss):Jf es ss<=used es:=by
 rw[Em ht.rise];exact Es _ ss _ hC.1 (λx hx=>by rw[Dw,<-hk];exact((hC.2 x).1 hx).1)
theorem qK (hH:Has w B q F m es)(ht:Tidy m es)(hm:m<=65536) :
 Calls prog 255 #[ae q] w λe w'=>e=.returned (.int .i64 (used es:Int))/\ai w w':=by
 obtain⟨rl,mb,D,cO,vO,hF,h⟩:=hH;have k1:=h.c1;have H:=aj h;have HT:=aj ht;have hfit:=ht.fits;rcases h.mp with ⟨rfl,rfl⟩|⟨b,rfl,hown⟩
 ·have h0:es=[]:=by
   have:=h.sz;exact akV this.symm
  subst h0;have hrg:=run_range_nilMap (P:=prog) w 230 3 291 underlying230;have hnx:∀ty,(Instr.next (.pointer (some ⟨w.heap.size,0,none⟩)) false ty).run prog (w.alloc (.mapIter none 0 #[] 0))=_:=λty=>run_next_nilMap w ty 0 0 #[]
  clear h hF ht hfit;go_enter func255,ntmps255;go_wp2_with fail;refine wp_loop_rounds 1 ?_;rw[rounds_succ];go_wp2_with fail;go_ret;exact⟨rfl,ax _ _⟩
 ·clear h hF ht;go_enter func255,ntmps255;go_wp2_with (first
   | (at_range;refine wpList_range_own _ rfl _ 230 rfl 3 291 H7 underlying230 _ b _ _ rfl hown ?_;intro w0 hrg0 hg0 hs0)
   | go_in)
  go_frame
  clear k1;go_loopw [3] (λu wr=>∃(left:Lit->Bool) (cnt:Nat) (ss:List Int),u=.int .i64 (Jf es ss:Int)/\wr.ranges prog 3 bD b w.heap.size (Maps.size D) D left cnt/\Hid (CollectedI D left ss)/\ai w wr) (λ_ wr=>wr.rangeLeft b w.heap.size)
  case atStart =>
   exact⟨_,_,[],rfl,hrg0,aj (CollectedI.start D),(agP _ _).grown hg0 (agH _) (λj hj=>by cases hj)⟩
  case round =>
   obtain⟨left,cnt,ss,rfl,hrg,hC,hb⟩:=hrel;clear hrg0 hg0 hs0;go_wp2_with (first
    | (at_next;refine wpList_next_ranges _ rfl _ rfl 3 H7 bD (Value.int .i64) mkP invK invV b w.heap.size _ _ _ _ rfl hrg ?_ ?_)
    | go_in)
   ·intro _ hl0;have hS:=(ah HT).used ((ah H).keys (ah HT) (ah hC) hl0);have HS:Hid (Jf es ss=used es):=aj hS;clear hS;go_wp2_with fail;go_ret;exact⟨kL (by rw[ah HS]),hb⟩
   ·intro x c kl yd yp w2 cnt2 hkey hlk hv hat hrg2 hlt hg2 hs2 hen;have hb2:=hb.grown hg2 hb.size (λj hj=>by cases hj;exact agH _);obtain⟨rfl,rfl,e,hf⟩:=(ah H).came hkey hv hat;have hC2:=aj ((ah hC).step hlk hat);have gX:=((ah H).keep (A:=λ_=>False) (aA.of_below hb2) (λ_ _ z=>z)).file x e hf;obtain⟨a,cap,hvv,_,_⟩:=gX.shape;have d0:=gX.c0;rw[hvv] at d0;have hz:mP es x=e.text.size:=by unfold mP;rw[hf]
    have hle:=aem (ah HT) (ah H).key (ah hC2);have HS:=aj (Tn es ss x);rw[ah HS,hz] at hle;rw[hz] at HS;clear hs2 gX hz hkey hlk hv hat hf hvv hb hg2;unfold mkP at hen ⊢;go_wp2_with fail;go_roundw
    case rel=>exact⟨_,cnt2,ss++[x],by rw[ah HS];go_num,hrg2,hC2,hb2⟩
    case measure=>rw[hrg2.left_eq,hrg.left_eq];exact hlt
theorem ahj:(prog.info? 5).map (λi=>(i.zero,i.size,i.bytes))=some (some (.int .u8 0),1,1):=by kernel_rfl
theorem Ld (t s:ad):Lib.strCells (t++s)=Lib.strCells t++Lib.strCells s:=by
 unfold Lib.strCells;rw[amd,amy,akt]
theorem Tt (w:I)(B:Nat)(ty:TypeId)(v:Value)(t s:ad)(h:w.ownsRow B 5 1 v t.size (Lib.strCells t))(hB:B<=w.heap.size)(hl:t.size+s.size<=1000000) :
 ∃v' w',(Builtin.append_ #[113,9] ty #[v,.string s]).run prog w=.ok v' w'/\w'.ownsRow B 5 1 v' (t++s).size (Lib.strCells (t++s))/\aA (λk=>v.ownBlock=some k) w w'/\∀g,v'.ownBlock=some g->v.ownBlock=some g\/w.heap.size<=g:=by
 obtain⟨i0,hi,hz0,hz1,hz2⟩:=alq ahj;obtain⟨v',w',hr,h2,h3,h4⟩:=Lib.run_append_own_string (P:=prog) w B 113 9 ty 5 i0 underlying113 underlying9 hi hz0 hz1 hz2 v t.size (Lib.strCells t) h s (by unfold maxLen;omega) (by omega) hB;refine⟨v',w',hr,?_,(aA.bC h3),?_⟩
 ·rw[Ld,anj];exact h2
 ·intro g hg;rcases h.2 with ⟨rfl,hn⟩|⟨g0,cap,cur,rfl,hbg,hg0,hnc,hcm,hcs,htake⟩
  ·by_cases hm:s.size=0
   ·rw[h4.2 ⟨rfl,hm⟩] at hg;cases hg
   ·right;have hr2:=run_append_nil_string (P:=prog) w 113 9 ty 5 i0 (.int .u8 0) underlying113 underlying9 hi hz0 s (by omega) (by omega) (by rw[hz2];omega);rw[hr] at hr2
    cases hr2
    simp only[Value.ownBlock,akB] at hg;omega
  ·by_cases hroom:t.size+s.size<=cap
   ·left;have hr2:=Lib.run_append_room_string (P:=prog) w 113 9 ty 5 i0 underlying113 underlying9 hi hz1 g0 t.size cap cur hg0 s hroom (by rw[hcs];omega);rw[hr] at hr2
    cases hr2
    exact hg
   ·right;have hr2:=Lib.run_append_grow_string (P:=prog) w 113 9 ty 5 i0 (.int .u8 0) underlying113 underlying9 hi hz0 ⟨g0,0,none⟩ t.size cap (Lib.strCells t) (by rw[hz1,Nat.mul_one,Lib.strCells_length]) (alA h (g:=g0) rfl) s (by omega) (by omega) (by rw[hz2];exact amu (by omega) (by omega));rw[hr] at hr2
    cases hr2
    simp only[Value.ownBlock,akB] at hg;omega
def newL (es:List aB)(n:Int):List aB:=insL es (low es n) ⟨n,0,ByteArray.empty⟩
theorem zk (h:fD es n=none)(k:Int):fD (newL es n) k=if k=n then some ⟨n,0,ByteArray.empty⟩ else fD es k:=by
 unfold newL;rw[Vj (x:=⟨n,0,ByteArray.empty⟩) _ (Ai (qj h))]
theorem EX (es:List aB)(n:Int):(newL es n).length=es.length+1:=sZ (Ef _ _)
theorem eqlSome (b:Nat)(w:I):(binOp .eql 230 (.map (some b)) (.map none)).run prog w=.ok (.bool false) w:=by kernel_rfl
theorem eqlNil (w:I):(binOp .eql 230 (.map none) (.map none)).run prog w=.ok (.bool true) w:=by kernel_rfl
def Made (w w':I)(B q:Nat)(rl:Nat->Option (Nat×Int))(m:Int)(es:List aB)(n:Int)(c:Nat):Prop:=∃rl' mb' D' cO' vO',jT w' B q rl' m (newL es n) mb' D' cO' vO'/\cO' n=c/\(vO' n)=.slice none 0 0/\aA (λk=>(rl k).isSome=true) w w'/\(∀k,(rl' k).isSome=true->(rl k).isSome=true\/w.heap.size<=k)
theorem OC (w:I)(B:Nat)(n:Int):File (w.alloc (.cells #[.slice none 0 0,aa 0] 294)) B w.heap.size (.slice none 0 0) ⟨n,0,ByteArray.empty⟩:=by
 refine⟨by simp,?_,?_,?_,?_,alu _ _ _ _⟩
 ·rw[aky _ w.heap.size 0 _ _ _ (akv w _)];rfl
 ·rw[aky _ w.heap.size 1 _ _ _ (akv w _)];rfl
 ·exact alz _ w.heap.size 0 _ _ (akv w _)
 ·exact alz _ w.heap.size 1 _ _ (akv w _)
theorem Tv {b:Nat}(n:Int)(hn:wf n)(h:jT w B q rl m es (some b) D cO vO)(hf:fD es n=none)(h20:es.length<=20)(hB:B<=w.heap.size) :
 Calls prog 235 #[ae q,.int .i64 n] w λe w'=>∃c,e=.returned (ae c)/\Made w w' B q rl m es n c:=by
 have hsz:=h.sz;have hown:w.ownsMap prog 3 bD b (Maps.size D) D:=by
  rcases h.mp with ⟨z,_⟩|⟨b',z,ho⟩
  ·cases z
  ·cases z;exact ho
 have hbl:=hown.lt;have Di:=(h.own q (by rw[h.r0];rfl)).2;have hb0:ai w (w.alloc (.cells #[.slice none 0 0,.int .i64 0] 294)):=ax _ _;have hown1:=hown.alloc (.cells #[.slice none 0 0,.int .i64 0] 294);have k1:=h.c1;have k2:(w.alloc (.cells #[.slice none 0 0,.int .i64 0] 294)).cell? (aq q 1)=some (.map (some b)):=by rw[hb0.cell (p:=aq q 1) Di];exact h.c1
 have hke:=aau hn;have HX:Hid (∀w',w'.ownsMap prog 3 bD b (Maps.size D+1) (D.put (.int .i64 n) (.lit (.int .i64 (w.heap.size:Int))))->(w.alloc (.cells #[.slice none 0 0,.int .i64 0] 294)).grownBy w' (some b)->Made w w' B q rl m es n w.heap.size):=aj (by
  intro w' ho hg;have hqb:q≠b:=λz=>by have:=h.r0;rw[z,h.r1 b rfl] at this;cases this
  have hc0:aA (λk=>k=b) w w':=(aA.of_below hb0).trans ((aA.bC hg).mono (λk _ z=>(ajU z).symm));have hF:File w' B w.heap.size (.slice none 0 0) ⟨n,0,ByteArray.empty⟩:=(OC w B n).aF (aA.bC hg) (λz=>by have:=ajU z;omega) (λg hg=>by cases hg);obtain⟨rl',h',hr⟩:=h.add (es':=newL es n) (mb':=some b) (c:=w.heap.size) hf (EX es n) (zk hf) (hc0.mono (λk _ z=>.inr (by rw[z]))) hB (agH _)
   (by rw[hc0.cell (p:=aq q 0) Di hqb];exact h.c0) (by rw[hc0.cell (p:=aq q 1) Di hqb];exact h.c1) (by rw[hc0.frozen (p:=aq q 1) Di hqb];exact h.fz) (.inr ⟨b,rfl,Aq ho⟩) (λb' hb'=>.inl hb') (λz=>by have:=ajU z;omega) (λb' hb'=>by cases hb';exact ho.lt) hF
  exact⟨rl',_,_,_,_,h',by simp,by simp,hc0.mono (λk _ z=>by rw[z,h.r1 b rfl];rfl),hr⟩)
 have hq:=eqlSome b w;clear h hf hown hb0 hB;go_enter func235,ntmps235;go_wp2_with (first
  | (at_mapUpdate;refine wpList_mapUpdate_own _ rfl _ _ _ 230 rfl 3 291 H7 underlying230 _ b _ _ rfl hown1 (by unfold maxLen;omega) _ _ _ rfl rfl hke _ [] (tV _) ?_;intro w1 ho1 hg1)
  | go_in)
 go_ret;exact⟨_,rfl,ah HX w1 ho1 hg1⟩
theorem Tz (n:Int)(hn:wf n)(h:jT w B q rl m es none D cO vO)(hf:fD es n=none)(hB:B<=w.heap.size) :
 Calls prog 235 #[ae q,.int .i64 n] w λe w'=>∃c,e=.returned (ae c)/\Made w w' B q rl m es n c:=by
 have hD:D=.map []:=by
  rcases h.mp with ⟨_,z⟩|⟨b',z,_⟩
  ·exact z
  ·cases z
 have Di:=(h.own q (by rw[h.r0];rfl)).2;have k1:=h.c1;have k2:=h.fz;have hqn:w.heap.size≠q:=by omega
 have hmm:=@run_makeMap prog;have hke:=aau hn;obtain⟨W3,hW3⟩:∃W3,W3=((w.setCell (aq q 1) (.map (some w.heap.size))).alloc (.map #[] 0)).alloc (.cells #[.slice none 0 0,.int .i64 0] 294):=⟨_,rfl⟩;have hs2:((w.setCell (aq q 1) (.map (some w.heap.size))).alloc (.map #[] 0)).heap.size=w.heap.size+1:=by simp[World.setCell]
 have hc2:aA (λk=>k=q) w ((w.setCell (aq q 1) (.map (some w.heap.size))).alloc (.map #[] 0)):=(aA.setCell (A:=λk=>k=q) (p:=aq q 1) (aA.refl _ _) (.inl rfl) _).trans (aA.of_below (ax _ _));have hb3:Below ((w.setCell (aq q 1) (.map (some w.heap.size))).alloc (.map #[] 0)).heap.size ((w.setCell (aq q 1) (.map (some w.heap.size))).alloc (.map #[] 0)) W3:=by rw[hW3];exact ax _ _
 have hs1:(w.setCell (aq q 1) (.map (some w.heap.size))).heap.size=w.heap.size:=by simp[World.setCell]
 have hown3:W3.ownsMap prog 3 bD w.heap.size 0 (.map []):=by
  have:=World.ownsMap_made (w.setCell (aq q 1) (.map (some w.heap.size))) prog 3 bD;rw[hs1] at this;rw[hW3];exact this.alloc _
 have q0:W3.cell? (aq q 0)=some (.int .i64 m):=by
  rw[hb3.cell (p:=aq q 0) (show q<_ by omega),aln _ _ _ (show q<_ by omega),ajD _ _ _ _ (by simp)];exact h.c0
 have q1:W3.cell? (aq q 1)=some (.map (some w.heap.size)):=by
  rw[hb3.cell (p:=aq q 1) (show q<_ by omega),aln _ _ _ (show q<_ by omega)];exact akf _ _ _ (by rw[h.c1])
 have q2:W3.frozen? (aq q 1)=false:=by
  rw[hb3.frozen (p:=aq q 1) (show q<_ by omega),(ax _ _).frozen (p:=aq q 1) (show q<_ by omega),ajV];exact h.fz
 have HX:Hid (∀w',w'.ownsMap prog 3 bD w.heap.size (0+1) (DataW.put (.map []) (.int .i64 n) (.lit (.int .i64 ((w.heap.size+1:Nat):Int))))->W3.grownBy w' (some w.heap.size)->Made w w' B q rl m es n (w.heap.size+1)):=aj (by
  intro w' ho hg;have hgc:aA (λk=>k=w.heap.size) W3 w':=(aA.bC hg).mono (λk _ z=>(ajU z).symm);have hs3:W3.heap.size=w.heap.size+2:=by rw[hW3];simp[World.setCell]
  have hc0:aA (λk=>k=q) w w':=(hc2.trans (aA.of_below hb3)).more hgc (λi hi z=>by omega);have Yf:=OC ((w.setCell (aq q 1) (.map (some w.heap.size))).alloc (.map #[] 0)) B n;rw[<-hW3,hs2] at Yf;have hF:File w' B (w.heap.size+1) (.slice none 0 0) ⟨n,0,ByteArray.empty⟩:=Yf.aF hgc (λz=>by omega) (λg hg=>by cases hg);have hM:MapAt w' (some w.heap.size) (D.put (.int .i64 n) (.lit (.int .i64 ((w.heap.size+1:Nat):Int)))):=by rw[hD];exact .inr ⟨_,rfl,Aq ho⟩
  obtain⟨rl',h',hr⟩:=h.add (es':=newL es n) (mb':=some w.heap.size) (c:=w.heap.size+1) hf (EX es n) (zk hf) (hc0.mono (λk _ z=>.inl z)) hB (by omega)
   (by rw[hgc.cell (p:=aq q 0) (by simp only;omega) (by simp only;omega)];exact q0) (by rw[hgc.cell (p:=aq q 1) (by simp only;omega) (by simp only;omega)];exact q1) (by rw[hgc.frozen (p:=aq q 1) (by simp only;omega) (by simp only;omega)];exact q2) hM (λb' hb'=>.inr (by have:=ajU hb';omega)) (λz=>by have:=ajU z;omega) (λb' hb'=>by cases hb';exact ho.lt) hF
  exact⟨rl',_,_,_,_,h',by simp,by simp,hc0.mono (λk _ z=>by rw[z,h.r0];rfl),hr⟩)
 subst hW3;have hq:=eqlNil w;clear h hf hB hD hb3 hc2 hs2 hs1 q0 q2;go_enter func235,ntmps235;go_wp2_with (first
  | (at_mapUpdate;refine wpList_mapUpdate_own _ rfl _ _ _ 230 rfl 3 291 H7 underlying230 _ w.heap.size _ _ rfl hown3 (by unfold maxLen;omega) _ _ _ rfl rfl hke _ [] (tV _) ?_;intro w1 ho1 hg1)
  | go_in)
 go_ret;exact⟨_,rfl,ah HX w1 (by simpa[World.setCell] using ho1) hg1⟩
theorem wpList_append_run {P:Program}(w:I){ops:Array Oper}{rest:List Oper}{o:Oper}{a:Act}{Q:Exit->Act->I->Prop}(hgd:o.guard=none)(sl x:Operand)(t u:TypeId)(ho:o.op=.call {callee:=.builtin .append,args:=#[sl,x],argTypes:=#[t,u]})
 (v y:Value) (hs:a.eval sl=v) (hx:a.eval x=y) (v':Value) (w':I) (hr:(Builtin.append_ #[t,u] o.type #[v,y]).run P w=.ok v' w') (h:wpList P ops Q rest (a.put o.dst v') w'):wpList P ops Q (o::rest) a w:=by
 refine wpList_plain hgd λK hK=>?_
 unfold Oper.wp execOp;simp only[ho,resolve,invoke,builtin,Sem.run_bind,Sem.run_pure,Result.andThen_ok,List.map_toArray,akw,alZ,hs,hx,hr];exact hK _ _ h
theorem VX {w3:I}{rl3:Nat->Option (Nat×Int)}{es3 es':List aB}(hF:∀k,F k↔(rl k).isSome=true)(h3:jT w3 B q rl3 m es3 mb D cO vO)
 (hn:fD es3 n=some e) (hlen:es'.length=es3.length) (hf:∀k,fD es' k=if k=n then some (wZ e s) else fD es3 k) (hc:aA (λk=>(rl k).isSome=true) w w3) (hr:∀k,(rl3 k).isSome=true->(rl k).isSome=true\/w.heap.size<=k) (hB:B<=w3.heap.size) (hl:e.text.size+s.size<=1000000) :
 ∃a l c w4,(Builtin.append_ #[113,9] 113 #[vO n,.string s]).run prog w3=.ok (.slice a l c) w4/\w4.cell? (aq (cO n) 0)=some (vO n)/\w4.frozen? (aq (cO n) 0)=false/\Did Has w (w4.setCell (aq (cO n) 0) (.slice a l c)) B q F m es':=by
 have gX:=h3.file n e hn;have haw:=h3.away hn;obtain⟨v',w4,h1,h2,hcr,hv⟩:=Tt w3 B 113 (vO n) e.text s gX.row hB hl;have hlt:=gX.lt;have hn':v'.ownBlock≠some (cO n):=λz=>by
  rcases hv _ z with y|y
  ·exact haw y
  ·omega
 obtain⟨p1,p2⟩:=gX.ahf hcr haw h2 hn';obtain⟨rl',h',hr'⟩:=h3.one (e':=wZ e s) hn hlen hf p2 p1 hv;obtain⟨a,c,hshape,_,_⟩:=p1.shape;subst hshape;refine⟨a,_,c,w4,h1,by rw[hcr.cell (p:=aq (cO n) 0) hlt haw];exact gX.c0,by rw[hcr.frozen (p:=aq (cO n) 0) hlt haw];exact gX.f0,h'.did hF (hc.more (h3.foot hn p2) (λi hi z=>?_)) (λk hk=>?_)⟩
 ·rcases hr i z with y|y
  ·exact y
  ·omega
 ·rcases hr' k hk with y|y
  ·exact hr k y
  ·exact .inr (ajA hc.size y)
theorem OD (ht:Tidy m es)(h0:dK es m n s=0)(hn:fD es n=some e):(iZ es m n s).length=es.length/\∀k,fD (iZ es m n s) k=if k=n then some (wZ e s) else fD es k:=by
 refine⟨?_,λk=>?_⟩
 ·obtain⟨a,b⟩:=nZ.1 h0;rw[(yA a b (nM hn).1).2,alb]
 ·rw[Vk ht,h0,hn];simp[aaj]
theorem OE (ht:Tidy m es)(h0:dK es m n s=0)(hn:fD es n=none):(iZ es m n s).length=(newL es n).length/\∀k,fD (iZ es m n s) k=if k=n then some (wZ ⟨n,0,ByteArray.empty⟩ s) else fD (newL es n) k:=by
 refine⟨?_,λk=>?_⟩
 ·obtain⟨a,b⟩:=nZ.1 h0;rw[(yB a b (qj hn)).2,EX,sZ (Ef _ _)]
 ·rw[Vk ht,h0,hn,zk hn];by_cases hk:k=n
  ·simp[hk,aaj,wZ]
  ·simp[hk]
theorem aen (n:Int)(s:ad)(hI:eX n 0 1099511627776=false) :
 Calls prog 234 #[ae q,aa n,.string s] w λe w'=>e=.returned (aa 1)/\ai w w':=by
 have h':n<0\/1099511627776<n:=by
  unfold eX at hI;simp only[Bool.and_eq_false_iff,akr] at hI;omega
 clear hI;by_cases h1:n<0
 ·go_enter func234,ntmps234;go_wp2_with fail;go_ret;exact⟨rfl,agP _ _⟩
 ·have h2:1099511627776<n:=by omega
  go_enter func234,ntmps234;go_wp2_with fail;go_ret;exact⟨rfl,agP _ _⟩
theorem aa4 (n:Int)(s:ad)(hH:Has w B q F m es)(ht:Tidy m es)(hm:m<=65536)(hs:s.size<=140737488355328)(hI:0<=n/\n<=1099511627776)(hfull:m<(s.size:Int)+(used es:Int)) :
 Calls prog 234 #[ae q,aa n,.string s] w λe w'=>e=.returned (aa 8)/\ai w w':=by
 have hb0:ai w w.drew:=(agP _ _).drew;have hH1:Has w.drew B q F m es:=hH.aF (A:=λ_=>False) (aA.of_below hb0) (λ_ _ z=>z);have PU:=aj (qK hH1 ht hm);have hfit:=ht.fits;obtain⟨rl,mb,D,cO,vO,hF,h⟩:=hH;have Di:=(h.own q (by rw[h.r0];rfl)).2;have k0:w.drew.cell? (aq q 0)=some (aa m):=h.c0;have h1:¬n<0:=by omega
 have h2:¬1099511627776<n:=by omega
 have hw:IntKind.i64.wrap (m-(used es:Int))=m-(used es:Int):=by rw[akl];omega
 have hd:decide (m-(used es:Int)<(s.size:Int))=true:=ajH (by omega);clear h hF hH1 ht;go_enter func234,ntmps234;go_wp2_with fail;go_region_held3 (λw'=>w'.cell? (aq q 0)=some (aa m)) (first|assumption|go_keep)
  ((go_at_call 255;refine(ah PU).mono ?_;rintro e w3 ⟨rfl,b3⟩;have t0:w3.cell? (aq q 0)=some (aa m):=(b3.cell (p:=aq q 0) Di).trans k0))
 have hb3:ai w w3:=hb0.trans b3;clear b3 hb0;go_wp2_with fail;go_ret;exact⟨rfl,hb3⟩
theorem aeo (n:Int)(s:ad)(hH:Has w B q F m es)(ht:Tidy m es)(hm:m<=65536)(hI:0<=n/\n<=1099511627776)(hfull:¬m<(s.size:Int)+(used es:Int))(hn:fD es n=some e) :
 Calls prog 234 #[ae q,aa n,.string s] w λe w'=>e=.returned (aa 0)/\ai w w':=by
 have hb0:ai w w.drew:=(agP _ _).drew;have hH1:Has w.drew B q F m es:=hH.aF (A:=λ_=>False) (aA.of_below hb0) (λ_ _ z=>z);have PU:=aj (qK hH1 ht hm);have hfit:=ht.fits;obtain⟨rl,mb,D,cO,vO,hF,h⟩:=hH;have Di:=(h.own q (by rw[h.r0];rfl)).2;have k0:w.drew.cell? (aq q 0)=some (aa m):=h.c0;have h1:¬n<0:=by omega
 have h2:¬1099511627776<n:=by omega
 have hw:IntKind.i64.wrap (m-(used es:Int))=m-(used es:Int):=by rw[akl];omega
 have hd:decide (m-(used es:Int)<(s.size:Int))=false:=ajE (by omega);have HX:Hid (∀w3,ai w w3->w3.cell? (aq q 1)=some (.map mb)/\(Instr.lookup 230 (.map mb) (aa n) false).run prog w3=.ok (.pointer (some ⟨cO n,0,none⟩)) w3/\∀ty,(Builtin.len_ #[230] ty #[.map mb]).run prog w3=.ok (aa (es.length:Int)) w3):=aj (by
  intro w3 hb3;have h3:=h.keep (A:=λ_=>False) (aA.of_below hb3) (λ_ _ z=>z);refine⟨h3.c1,?_,λty=>?_⟩
  ·rcases h3.look (tu hI) with ⟨z,y⟩|⟨_,z,y⟩
   ·rw[hn] at z;cases z
   ·exact y
  ·rw[h3.mp.len ty,h3.sz])
 clear h hF hH1 ht hn;go_enter func234,ntmps234;go_wp2_with fail;go_region_held3 (λw'=>w'.cell? (aq q 0)=some (aa m)) (first|assumption|go_keep)
  ((go_at_call 255;refine(ah PU).mono ?_;rintro e w3 ⟨rfl,b3⟩;have t0:w3.cell? (aq q 0)=some (aa m):=(b3.cell (p:=aq q 0) Di).trans k0))
 have hb3:ai w w3:=hb0.trans b3;obtain⟨x1,x2,x3⟩:=ah HX w3 hb3;clear b3 hb0 HX;go_wp2_with fail;go_ret;exact⟨rfl,hb3⟩
theorem aa5 (n:Int)(s:ad)(hH:Has w B q F m es)(ht:Tidy m es)(hm:m<=65536)(hI:0<=n/\n<=1099511627776)(hfull:¬m<(s.size:Int)+(used es:Int))(hn:fD es n=none)(h20:es.length<20) :
 Calls prog 234 #[ae q,aa n,.string s] w λe w'=>e=.returned (aa 0)/\ai w w':=by
 have hb0:ai w w.drew:=(agP _ _).drew;have hH1:Has w.drew B q F m es:=hH.aF (A:=λ_=>False) (aA.of_below hb0) (λ_ _ z=>z);have PU:=aj (qK hH1 ht hm);have hfit:=ht.fits;obtain⟨rl,mb,D,cO,vO,hF,h⟩:=hH;have Di:=(h.own q (by rw[h.r0];rfl)).2;have k0:w.drew.cell? (aq q 0)=some (aa m):=h.c0;have h1:¬n<0:=by omega
 have h2:¬1099511627776<n:=by omega
 have hw:IntKind.i64.wrap (m-(used es:Int))=m-(used es:Int):=by rw[akl];omega
 have hd:decide (m-(used es:Int)<(s.size:Int))=false:=ajE (by omega);have hd2:decide ((20:Int)<=(es.length:Int))=false:=ajE (by omega);have HX:Hid (∀w3,ai w w3->w3.cell? (aq q 1)=some (.map mb)/\(Instr.lookup 230 (.map mb) (aa n) false).run prog w3=.ok (.pointer none) w3/\∀ty,(Builtin.len_ #[230] ty #[.map mb]).run prog w3=.ok (aa (es.length:Int)) w3):=aj (by
  intro w3 hb3;have h3:=h.keep (A:=λ_=>False) (aA.of_below hb3) (λ_ _ z=>z);refine⟨h3.c1,?_,λty=>?_⟩
  ·rcases h3.look (tu hI) with ⟨z,y⟩|⟨_,z,y⟩
   ·exact y
   ·rw[hn] at z;cases z
  ·rw[h3.mp.len ty,h3.sz])
 clear h hF hH1 ht hn h20;go_enter func234,ntmps234;go_wp2_with fail;go_region_held3 (λw'=>w'.cell? (aq q 0)=some (aa m)) (first|assumption|go_keep)
  ((go_at_call 255;refine(ah PU).mono ?_;rintro e w3 ⟨rfl,b3⟩;have t0:w3.cell? (aq q 0)=some (aa m):=(b3.cell (p:=aq q 0) Di).trans k0))
 have hb3:ai w w3:=hb0.trans b3;obtain⟨x1,x2,x3⟩:=ah HX w3 hb3;clear b3 hb0 HX;go_wp2_with fail;go_ret;exact⟨rfl,hb3⟩
theorem aa6 (n:Int)(s:ad)(hH:Has w B q F m es)(ht:Tidy m es)(hm:m<=65536)(hI:0<=n/\n<=1099511627776)(hfull:¬m<(s.size:Int)+(used es:Int))(hn:fD es n=none)(h20:es.length=20) :
 Calls prog 234 #[ae q,aa n,.string s] w λe w'=>e=.returned (aa 8)/\ai w w':=by
 have hb0:ai w w.drew:=(agP _ _).drew;have hH1:Has w.drew B q F m es:=hH.aF (A:=λ_=>False) (aA.of_below hb0) (λ_ _ z=>z);have PU:=aj (qK hH1 ht hm);have hfit:=ht.fits;obtain⟨rl,mb,D,cO,vO,hF,h⟩:=hH;have Di:=(h.own q (by rw[h.r0];rfl)).2;have k0:w.drew.cell? (aq q 0)=some (aa m):=h.c0;have h1:¬n<0:=by omega
 have h2:¬1099511627776<n:=by omega
 have hw:IntKind.i64.wrap (m-(used es:Int))=m-(used es:Int):=by rw[akl];omega
 have hd:decide (m-(used es:Int)<(s.size:Int))=false:=ajE (by omega);have HX:Hid (∀w3,ai w w3->w3.cell? (aq q 1)=some (.map mb)/\(Instr.lookup 230 (.map mb) (aa n) false).run prog w3=.ok (.pointer none) w3/\∀ty,(Builtin.len_ #[230] ty #[.map mb]).run prog w3=.ok (aa 20) w3):=aj (by
  intro w3 hb3;have h3:=h.keep (A:=λ_=>False) (aA.of_below hb3) (λ_ _ z=>z);refine⟨h3.c1,?_,λty=>?_⟩
  ·rcases h3.look (tu hI) with ⟨z,y⟩|⟨_,z,y⟩
   ·exact y
   ·rw[hn] at z;cases z
  ·rw[h3.mp.len ty,h3.sz,h20];rfl)
 clear h hF hH1 ht hn h20;go_enter func234,ntmps234;go_wp2_with fail;go_region_held3 (λw'=>w'.cell? (aq q 0)=some (aa m)) (first|assumption|go_keep)
  ((go_at_call 255;refine(ah PU).mono ?_;rintro e w3 ⟨rfl,b3⟩;have t0:w3.cell? (aq q 0)=some (aa m):=(b3.cell (p:=aq q 0) Di).trans k0))
 have hb3:ai w w3:=hb0.trans b3;obtain⟨x1,x2,x3⟩:=ah HX w3 hb3;clear b3 hb0 HX;go_wp2_with fail;go_ret;exact⟨rfl,hb3⟩
theorem zn (n:Int)(s:ad)(hH:Has w B q F m es)(ht:Tidy m es)(hm:m<=65536)(hs:s.size<=140737488355328) :
 Calls prog 234 #[ae q,aa n,.string s] w λe w'=>e=.returned (aa (dK es m n s))/\ai w w':=by
 cases hI:eX n 0 1099511627776 with
 | false =>
  rw[(KC hI).1];exact aen n s hI
 | true =>
  have hI':0<=n/\n<=1099511627776:=by simpa[eX] using hI
  by_cases hr:m<(s.size:Int)+(used es:Int)
  ·have hf:full es m n s=true:=by unfold full;rw[ajH hr];rfl
   rw[(yx hI hf).1];exact aa4 n s hH ht hm hs hI' hr
  ·cases hn:fD es n with
   | some e =>
    have hf:full es m n s=false:=by unfold full;rw[ajE hr,ajH (nM hn).1];rfl
    rw[nZ.2 ⟨hI,hf⟩];exact aeo n s hH ht hm hI' hr hn
   | none =>
    by_cases h20:es.length=20
    ·have hf:full es m n s=true:=by unfold full;rw[ajE hr,ajE (qj hn),ajH h20];rfl
     rw[(yx hI hf).1];exact aa6 n s hH ht hm hI' hr hn h20
    ·have hf:full es m n s=false:=by unfold full;rw[ajE hr,ajE (qj hn),ajE h20];rfl
     rw[nZ.2 ⟨hI,hf⟩];exact aa5 n s hH ht hm hI' hr hn (by have:=ht.few;omega)
theorem TA (n:Int)(s:ad)(hH:Has w B q F m es)(ht:Tidy m es)(hm:m<=65536)(hs:s.size<=140737488355328){E:Int}(hE:dK es m n s=E)(h0:E≠0) :
 Calls prog 192 #[ae q,aa n,.string s] w λe w'=>e=.returned (aa E)/\Did Has w w' B q F m es:=by
 have PT:=aj (zn n s hH ht hm hs);rw[hE] at PT;have HH:=aj hH;have h1:(E !=0)=true:=by simpa using h0
 clear hH ht hE;go_enter func192,ntmps192;go_wp2_with fail;refine(ah PT).mono ?_;rintro e w3 ⟨rfl,b3⟩;have B3:=aj b3;clear b3 PT;go_wp2_with fail;go_ret;exact⟨rfl,yJ (ah HH) (ah B3)⟩
theorem TD (n:Int)(s:ad)(hH:Has w B q F m es)(ht:Tidy m es)(hm:m<=65536)(hs:s.size<=140737488355328)(hB:B<=w.heap.size)(hI:0<=n/\n<=1099511627776)(h0:dK es m n s=0)(hfull:¬m<(s.size:Int)+(used es:Int))(hn:fD es n=some e) :
 Calls prog 192 #[ae q,aa n,.string s] w λe w'=>e=.returned (aa 0)/\Did Has w w' B q F m (iZ es m n s):=by
 have PT:=aj (zn n s hH ht hm hs);rw[h0] at PT;have hfit:=ht.fits;obtain⟨rl,mb,D,cO,vO,hF,h⟩:=hH;have hmem:=Ei (adL hn).1;have HX:Hid (∀w3,ai w w3->w3.cell? (aq q 1)=some (.map mb)/\(Instr.lookup 230 (.map mb) (aa n) false).run prog w3=.ok (.pointer (some ⟨cO n,0,none⟩)) w3/\w3.cell? (aq (cO n) 0)=some (vO n)/\∃a l k w4,(Builtin.append_ #[113,9] 113 #[vO n,.string s]).run prog w3=.ok (.slice a l k) w4/\w4.cell? (aq (cO n) 0)=some (vO n)/\w4.frozen? (aq (cO n) 0)=false/\Did Has w (w4.setCell (aq (cO n) 0) (.slice a l k)) B q F m (iZ es m n s)):=aj (by
  intro w3 hb3;have h3:=h.keep (A:=λ_=>False) (aA.of_below hb3) (λ_ _ z=>z);refine⟨h3.c1,?_,(h3.file n e hn).c0,?_⟩
  ·rcases h3.look (tu hI) with ⟨z,_⟩|⟨_,_,z⟩
   ·rw[hn] at z;cases z
   ·exact z
  ·exact VX hF h3 hn (OD ht h0 hn).1 (OD ht h0 hn).2 (aA.of_below hb3) (λk hk=>.inl hk) (ajA hB hb3.size) (by omega))
 clear h hF ht hn h0;go_enter func192,ntmps192;go_wp2_with fail;refine(ah PT).mono ?_;rintro e w3 ⟨rfl,b3⟩;obtain⟨x1,x2,x3,a,l,k,w4,x4,x5,x6,x7⟩:=ah HX w3 b3;have X7:=aj x7;clear b3 x7 HX PT;go_wp2_with (at_builtin;refine wpList_append_run _ rfl _ _ 113 9 rfl _ _ rfl rfl _ _ x4 ?_);go_ret;exact⟨rfl,ah X7⟩
theorem OG (n:Int)(s:ad)(hH:Has w B q F m es)(ht:Tidy m es)(hm:m<=65536)(hs:s.size<=140737488355328)(hB:B<=w.heap.size)(hI:0<=n/\n<=1099511627776)(h0:dK es m n s=0)(hfull:¬m<(s.size:Int)+(used es:Int))(hn:fD es n=none)(h20:es.length<20) :
 Calls prog 192 #[ae q,aa n,.string s] w λe w'=>e=.returned (aa 0)/\Did Has w w' B q F m (iZ es m n s):=by
 have PT:=aj (zn n s hH ht hm hs);rw[h0] at PT;have hfit:=ht.fits;obtain⟨rl,mb,D,cO,vO,hF,h⟩:=hH;have HX:Hid (∀w3,ai w w3->w3.cell? (aq q 1)=some (.map mb)/\(Instr.lookup 230 (.map mb) (aa n) false).run prog w3=.ok (.pointer none) w3 /\
  Calls prog 235 #[ae q,aa n] w3 λe w5=>∃c,e=.returned (ae c)/\w5.cell? (aq c 0)=some (.slice none 0 0)/\∃a l k w4,(Builtin.append_ #[113,9] 113 #[.slice none 0 0,.string s]).run prog w5=.ok (.slice a l k) w4/\w4.cell? (aq c 0)=some (.slice none 0 0)/\w4.frozen? (aq c 0)=false/\Did Has w (w4.setCell (aq c 0) (.slice a l k)) B q F m (iZ es m n s)):=aj (by
  intro w3 hb3;have h3:=h.keep (A:=λ_=>False) (aA.of_below hb3) (λ_ _ z=>z);refine⟨h3.c1,?_,?_⟩
  ·rcases h3.look (tu hI) with ⟨_,z⟩|⟨_,z,_⟩
   ·exact z
   ·rw[hn] at z;cases z
  ·have hC:Calls prog 235 #[ae q,aa n] w3 λe w'=>∃c,e=.returned (ae c)/\Made w3 w' B q rl m es n c:=by
    cases mb with
    | none=>exact Tz n (tu hI) h3 hn (ajA hB hb3.size)
    | some b=>exact Tv n (tu hI) h3 hn (by omega) (ajA hB hb3.size)
   refine hC.mono ?_;rintro r w5 ⟨c,rfl,rl',mb',D',cO',vO',h5,hc5,hv5,hch,hrl⟩;have hf5:fD (newL es n) n=some ⟨n,0,ByteArray.empty⟩:=by rw[zk hn,if_pos rfl]
   have hfin:=VX (w:=w) hF h5 hf5 (OE ht h0 hn).1 (OE ht h0 hn).2 ((aA.of_below hb3).trans hch) (λk hk=>by
    rcases hrl k hk with y|y
    ·exact .inl y
    ·exact .inr (ajA hb3.size y)) (ajA hB (ajA hb3.size hch.size)) (by show 0+s.size<=1000000;omega)
   rw[hc5,hv5] at hfin;have hcell:=(h5.file n _ hf5).c0;rw[hc5,hv5] at hcell;exact⟨c,rfl,hcell,hfin⟩)
 clear h hF ht hn h0 h20;go_enter func192,ntmps192;go_wp2_with fail;refine(ah PT).mono ?_;rintro e w3 ⟨rfl,b3⟩;obtain⟨x1,x2,x4⟩:=ah HX w3 b3;have PC:=aj x4;clear b3 HX x4 PT;go_wp2_with fail;refine(ah PC).mono ?_;rintro r w5 ⟨c,rfl,y1,a,l,k,w4,y2,y3,y4,y5⟩;have Y5:=aj y5;clear y5 PC x1 x2;go_wp2_with (at_builtin;refine wpList_append_run _ rfl _ _ 113 9 rfl _ _ rfl rfl _ _ y2 ?_);go_ret;exact⟨rfl,ah Y5⟩
theorem OH (n:Int)(s:ad)(hH:Has w B q F m es)(ht:Tidy m es)(hm:m<=65536)(hs:s.size<=140737488355328)(hB:B<=w.heap.size) :
 Calls prog 192 #[ae q,aa n,.string s] w λe w'=>e=.returned (aa (dK es m n s))/\Did Has w w' B q F m (iZ es m n s):=by
 by_cases h0:dK es m n s=0
 ·obtain⟨hI,hf⟩:=nZ.1 h0;have hI':0<=n/\n<=1099511627776:=by simpa[eX] using hI
  have hr:¬m<(s.size:Int)+(used es:Int):=λz=>by unfold full at hf;rw[ajH z] at hf;cases hf
  rw[h0]
  cases hn:fD es n with
  | some e=>exact TD n s hH ht hm hs hB hI' h0 hr hn
  | none =>
   have h20:es.length≠20:=λz=>by unfold full at hf;rw[ajE hr,ajE (qj hn),ajH z] at hf;cases hf
   exact OG n s hH ht hm hs hB hI' h0 hr hn (by have:=ht.few;omega)
 ·rw[uZ h0];exact TA n s hH ht hm hs rfl h0
theorem works:Works Has:={
 own:=λh=>h.own
 aF:=λh hc hA=>h.aF hc hA
 append:=λn s h ht hm hs hB=>OH n s h ht hm hs hB
 sync:=λn hn h ht _ _=>XL n hn h ht
 remove:=λn hn h ht _ _=>N7 n hn h ht
 read:=λn hn h _ _ _=>(IY n hn h).mono (λe w' ⟨h1,h2⟩=>⟨h1,by subst h2;exact tY h⟩)
 used:=λh ht hm _=>(qK h ht hm).mono (λe w' ⟨h1,h2⟩=>⟨h1,yJ h h2⟩)}
