/- A part. -/
import Derived.Test.YtidekgipblnpkaaGreatDoorQ7
import Derived.Lib.SlKeysI
set_option maxRecDepth 100000
set_option maxHeartbeats 8000000
namespace Go.Proofs.YtidekgipblnpkaaGreatDoor
open Go.RowKit Go.Proofs.Tryz
namespace Dk
theorem ahI (key:Value)(kl:Lit)(hk:keyOf prog 3 key=some kl):∃x,key=Value.int .i64 x:=by
 obtain⟨x,h,_⟩:=Maps.keyOf_int_inv underlying3 hk;exact⟨x,h⟩
def mkP (c:Nat):Value:=.pointer (some ⟨c,0,none⟩)
theorem ahJ (v:Value)(y:DataW Unit×List MemPlace)(h:dF v=some y):∃c,v=mkP c:=by
 obtain⟨b,h,_⟩:=zx h;exact⟨b,h⟩
theorem kC.came {w:World}{B q:Nat}{rl:Nat->Option (Nat×Int)}{m:Int}{es:List ay}{mb:Option Nat}{D:DataW Unit}{cO:Int->Nat}{vO:Int->Value}(h:kC w B q rl m es mb D cO vO){x:Int}{c:Nat}{kl:Lit}{y:DataW Unit}{z:List MemPlace}(hk:keyOf prog 3 (.int .i64 x)=some kl)(hv:dF (mkP c)=some (y,z))(hat:∀zd,D.atKey kl zd=y):kl=.int .i64 x/\c=cO x/\∃e,fH es x=some e:=by
 obtain⟨x',e1,rfl,_⟩:=Maps.keyOf_int_inv underlying3 hk
 cases e1
 have hh:=h.key x;rw[Maps.has_true_of_atKey hat] at hh
 cases hf:fH es x with
 | none=>rw[hf] at hh;cases hh
 | some e =>
  refine⟨rfl,?_,e,rfl⟩;have h1:=(hat .nil).symm.trans (h.ptr x e hf .nil);have h2:(DataW.lit (.int .i64 (c:Int)):DataW Unit)=y:=by
   have:some ((DataW.lit (.int .i64 (c:Int)):DataW Unit),([]:List MemPlace))=some (y,z):=hv;exact congrArg Prod.fst (ajC this)
  rw[<-h2] at h1;simp only[amZ,ani,anp] at h1;omega
theorem kC.keys {w:World}{B q:Nat}{rl:Nat->Option (Nat×Int)}{m:Int}{es:List ay}{mb:Option Nat}{D:DataW Unit}{cO:Int->Nat}{vO:Int->Value}(h:kC w B q rl m es mb D cO vO)(ht:Tidy m es){left:Lit->Bool}{ss:List Int}(hC:CollectedI D left ss)(hl:∀kl,left kl=false):ss.Perm (aP es):=by
 refine(List.perm_ext_iff_of_nodup hC.1 ?_).2 (λx=>?_)
 ·exact((jD es).1 ht.jT).imp (λhab e=>by omega)
 ·rw[hC.2 x,yX,h.key,hl];simp
def LX (es:List ay)(ss:List Int):Nat:=(ss.map (nV es)).sum
theorem Vu (es:List ay)(ss:List Int)(x:Int):LX es (ss++[x])=LX es ss+nV es x:=by simp[LX]
theorem Il (f:Int->Nat):∀(ss L:List Int),ss.Nodup->(∀x,x∈ss->x∈L)->(ss.map f).sum<=(L.map f).sum
 | [],L,_,_=>by simp
 | x::ss,L,hnd,hs=>by
  have hx:=hs x (by simp);have hnd':=anb.1 hnd;have ih:=Il f ss (L.erase x) hnd'.2 (λy hy=>by
   have hne:y≠x:=λe=>hnd'.1 (by rw[<-e];exact hy)
   exact(List.mem_erase_of_ne hne).2 (hs y (by simp[hy])))
  have hp:(L.map f).sum=((x::L.erase x).map f).sum:=((List.perm_cons_erase hx).map f).sum_nat;rw[hp,akt,akt,ami,ami];omega
theorem afg {es:List ay}{D:DataW Unit}{m:Int}{left:Lit->Bool}{ss:List Int}(ht:Tidy m es)(hk:∀n,Maps.has D (.int .i64 n)=(fH es n).isSome)(hC:CollectedI D left ss):LX es ss<=used es:=by
 rw[Ih ht.jT];exact Il _ ss _ hC.1 (λx hx=>by rw[yX,<-hk];exact((hC.2 x).1 hx).1)
theorem rQ {w:World}{B q:Nat}{F:Nat->Prop}{m:Int}{es:List ay}(hH:Has w B q F m es)(ht:Tidy m es)(hm:m<=65536) :
 Calls prog 225 #[.pointer (some ⟨q,0,none⟩)] w λe w'=>e=.returned (.int .i64 (used es:Int))/\Below w.heap.size w w':=by
 obtain⟨rl,mb,D,cO,vO,hF,h⟩:=hH;have k1:=h.c1;have H:=aj h;have HT:=aj ht;have hfit:=ht.fits;rcases h.mp with ⟨rfl,rfl⟩|⟨b,rfl,hown⟩
 ·have h0:es=[]:=by
   have:=h.sz;exact ajZ this.symm
  subst h0;have hrg:=run_range_nilMap (P:=prog) w 170 3 188 underlying170;have hnx:∀ty,(Instr.next (.pointer (some ⟨w.heap.size,0,none⟩)) false ty).run prog (w.alloc (.mapIter none 0 #[] 0))=_:=λty=>run_next_nilMap w ty 0 0 #[]
  clear h hF ht hfit;go_enter func225,ntmps225;go_wp2_with fail;refine wp_loop_rounds 1 ?_;rw[rounds_succ];go_wp2_with fail;go_ret;exact⟨rfl,(ajb _ _).alloc (Xc _) _⟩
 ·clear h hF ht;go_enter func225,ntmps225;go_wp2_with (first
   | (at_range;refine wpList_range_own _ rfl _ 170 rfl 3 188 Gz underlying170 _ b _ _ rfl hown ?_;intro w0 hrg0 hg0 hs0)
   | go_in)
  go_frame
  clear k1;go_loopw [3] (λu wr=>∃(left:Lit->Bool) (cnt:Nat) (ss:List Int),u=.int .i64 (LX es ss:Int)/\wr.ranges prog 3 dF b w.heap.size (Maps.size D) D left cnt/\Hid (CollectedI D left ss)/\Below w.heap.size w wr) (λ_ wr=>wr.rangeLeft b w.heap.size)
  case atStart =>
   exact⟨_,_,[],rfl,hrg0,aj (CollectedI.start D),(ajb _ _).grown hg0 (Xc _) (λj hj=>by cases hj)⟩
  case round =>
   obtain⟨left,cnt,ss,rfl,hrg,hC,hb⟩:=hrel;clear hrg0 hg0 hs0;go_wp2_with (first
    | (at_next;refine wpList_next_ranges _ rfl _ rfl 3 Gz dF (Value.int .i64) mkP ahI ahJ b w.heap.size _ _ _ _ rfl hrg ?_ ?_)
    | go_in)
   ·intro _ hl0;have hS:=(ah HT).used ((ah H).keys (ah HT) (ah hC) hl0);have HS:Hid (LX es ss=used es):=aj hS;clear hS;go_wp2_with fail;go_ret;exact⟨fK (by rw[ah HS]),hb⟩
   ·intro x c kl yd yp w2 cnt2 hkey hlk hv hat hrg2 hlt hg2 hs2 hen;have hb2:=hb.grown hg2 hb.size (λj hj=>by cases hj;exact Xc _);obtain⟨rfl,rfl,e,hf⟩:=(ah H).came hkey hv hat;have hC2:=aj ((ah hC).step hlk hat);have fQ:=((ah H).keep (A:=λ_=>False) (aH.aA hb2) (λ_ _ z=>z)).file x e hf;obtain⟨a,cap,hvv,_,_⟩:=fQ.shape;have d0:=fQ.c0;rw[hvv] at d0;have hz:nV es x=e.text.size:=by unfold nV;rw[hf]
    have hle:=afg (ah HT) (ah H).key (ah hC2);have HS:=aj (Vu es ss x);rw[ah HS,hz] at hle;rw[hz] at HS;clear hs2 fQ hz hkey hlk hv hat hf hvv hb hg2;unfold mkP at hen ⊢;go_wp2_with fail;go_roundw
    case rel=>exact⟨_,cnt2,ss++[x],by rw[ah HS];go_num,hrg2,hC2,hb2⟩
    case measure=>rw[hrg2.left_eq,hrg.left_eq];exact hlt
theorem ahK:(prog.info? 5).map (λi=>(i.zero,i.size,i.bytes))=some (some (.int .u8 0),1,1):=by kernel_rfl
theorem Ox (t s:ByteArray):Lib.strCells (t++s)=Lib.strCells t++Lib.strCells s:=by
 unfold Lib.strCells;rw[alp,ali,aki]
theorem Vw (w:World)(B:Nat)(ty:TypeId)(v:Value)(t s:ByteArray)(h:w.ownsRow B 5 1 v t.size (Lib.strCells t))(hB:B<=w.heap.size)(hl:t.size+s.size<=1000000) :
 ∃v' w',(Builtin.append_ #[189,9] ty #[v,.string s]).run prog w=.ok v' w'/\w'.ownsRow B 5 1 v' (t++s).size (Lib.strCells (t++s))/\aH (λk=>v.ownBlock=some k) w w'/\∀g,v'.ownBlock=some g->v.ownBlock=some g\/w.heap.size<=g:=by
 obtain⟨i0,hi,hz0,hz1,hz2⟩:=akJ ahK;obtain⟨v',w',hr,h2,h3,h4⟩:=Lib.run_append_own_string (P:=prog) w B 189 9 ty 5 i0 underlying189 underlying9 hi hz0 hz1 hz2 v t.size (Lib.strCells t) h s (by unfold maxLen;omega) (by omega) hB;refine⟨v',w',hr,?_,(aH.bH h3),?_⟩
 ·rw[Ox,amo];exact h2
 ·intro g hg;rcases h.2 with ⟨rfl,hn⟩|⟨g0,cap,cur,rfl,hbg,hg0,hnc,hcm,hcs,htake⟩
  ·by_cases hm:s.size=0
   ·rw[h4.2 ⟨rfl,hm⟩] at hg;cases hg
   ·right;have hr2:=run_append_nil_string (P:=prog) w 189 9 ty 5 i0 (.int .u8 0) underlying189 underlying9 hi hz0 s (by omega) (by omega) (by rw[hz2];omega);rw[hr] at hr2
    cases hr2
    simp only[Value.ownBlock,ajX] at hg;omega
  ·by_cases hroom:t.size+s.size<=cap
   ·left;have hr2:=Lib.run_append_room_string (P:=prog) w 189 9 ty 5 i0 underlying189 underlying9 hi hz1 g0 t.size cap cur hg0 s hroom (by rw[hcs];omega);rw[hr] at hr2
    cases hr2
    exact hg
   ·right;have hr2:=Lib.run_append_grow_string (P:=prog) w 189 9 ty 5 i0 (.int .u8 0) underlying189 underlying9 hi hz0 ⟨g0,0,none⟩ t.size cap (Lib.strCells t) (by rw[hz1,Nat.mul_one,alW]) (akU h (g:=g0) rfl) s (by omega) (by omega) (by rw[hz2];exact alZ (by omega) (by omega));rw[hr] at hr2
    cases hr2
    simp only[Value.ownBlock,ajX] at hg;omega
def Oy (es:List ay)(n:Int):List ay:=ku es (low es n) ⟨n,0,ByteArray.empty⟩
theorem Ac {es:List ay}{n:Int}(h:fH es n=none)(k:Int):fH (Oy es n) k=if k=n then some ⟨n,0,ByteArray.empty⟩ else fH es k:=by
 unfold Oy;rw[Xy (x:=⟨n,0,ByteArray.empty⟩) _ (Bv (qI h))]
theorem I9 (es:List ay)(n:Int):(Oy es n).length=es.length+1:=kN (Bo _ _)
theorem afh (b:Nat)(w:World):(binOp .eql 170 (.map (some b)) (.map none)).run prog w=.ok (.bool false) w:=by kernel_rfl
theorem ag6 (w:World):(binOp .eql 170 (.map none) (.map none)).run prog w=.ok (.bool true) w:=by kernel_rfl
def Made (w w':World)(B q:Nat)(rl:Nat->Option (Nat×Int))(m:Int)(es:List ay)(n:Int)(c:Nat):Prop:=∃rl' mb' D' cO' vO',kC w' B q rl' m (Oy es n) mb' D' cO' vO'/\cO' n=c/\(vO' n)=.slice none 0 0/\aH (λk=>(rl k).isSome=true) w w'/\(∀k,(rl' k).isSome=true->(rl k).isSome=true\/w.heap.size<=k)
theorem Rt (w:World)(B:Nat)(n:Int):nX (w.alloc (.cells #[.slice none 0 0,.int .i64 0] 191)) B w.heap.size (.slice none 0 0) ⟨n,0,ByteArray.empty⟩:=by
 refine⟨by simp,?_,?_,?_,?_,akW _ _ _ _⟩
 ·rw[ajY _ w.heap.size 0 _ _ _ (ajF w _)];rfl
 ·rw[ajY _ w.heap.size 1 _ _ _ (ajF w _)];rfl
 ·exact akR _ w.heap.size 0 _ _ (ajF w _)
 ·exact akR _ w.heap.size 1 _ _ (ajF w _)
theorem Vx {w:World}{B q b:Nat}{rl:Nat->Option (Nat×Int)}{m:Int}{es:List ay}{D:DataW Unit}{cO:Int->Nat}{vO:Int->Value}(n:Int)(hn:wf n)(h:kC w B q rl m es (some b) D cO vO)(hf:fH es n=none)(h20:es.length<=20)(hB:B<=w.heap.size) :
 Calls prog 196 #[.pointer (some ⟨q,0,none⟩),.int .i64 n] w λe w'=>∃c,e=.returned (.pointer (some ⟨c,0,none⟩))/\Made w w' B q rl m es n c:=by
 have hsz:=h.sz;have hown:w.ownsMap prog 3 dF b (Maps.size D) D:=by
  rcases h.mp with ⟨z,_⟩|⟨b',z,ho⟩
  ·cases z
  ·cases z;exact ho
 have hbl:=hown.lt;have vw:=(h.own q (by rw[h.r0];rfl)).2;have hb0:Below w.heap.size w (w.alloc (.cells #[.slice none 0 0,.int .i64 0] 191)):=(ajb _ _).alloc (Xc _) _;have hown1:=hown.alloc (.cells #[.slice none 0 0,.int .i64 0] 191);have k1:=h.c1;have k2:(w.alloc (.cells #[.slice none 0 0,.int .i64 0] 191)).cell? ⟨q,1,none⟩=some (.map (some b)):=by rw[hb0.cell (p:=⟨q,1,none⟩) vw];exact h.c1
 have hke:=abt hn;have HX:Hid (∀w',w'.ownsMap prog 3 dF b (Maps.size D+1) (D.put (.int .i64 n) (.lit (.int .i64 (w.heap.size:Int))))->(w.alloc (.cells #[.slice none 0 0,.int .i64 0] 191)).grownBy w' (some b)->Made w w' B q rl m es n w.heap.size):=aj (by
  intro w' ho hg;have hqb:q≠b:=λz=>by have:=h.r0;rw[z,h.r1 b rfl] at this;cases this
  have hc0:aH (λk=>k=b) w w':=(aH.aA hb0).trans ((aH.bH hg).mono (λk _ z=>(ajC z).symm));have hF:nX w' B w.heap.size (.slice none 0 0) ⟨n,0,ByteArray.empty⟩:=(Rt w B n).bZ (aH.bH hg) (λz=>by have:=ajC z;omega) (λg hg=>by cases hg);obtain⟨rl',h',hr⟩:=h.add (es':=Oy es n) (mb':=some b) (c:=w.heap.size) hf (I9 es n) (Ac hf) (hc0.mono (λk _ z=>.inr (by rw[z]))) hB (Xc _)
   (by rw[hc0.cell (p:=⟨q,0,none⟩) vw hqb];exact h.c0) (by rw[hc0.cell (p:=⟨q,1,none⟩) vw hqb];exact h.c1) (by rw[hc0.frozen (p:=⟨q,1,none⟩) vw hqb];exact h.fz) (.inr ⟨b,rfl,BI ho⟩) (λb' hb'=>.inl hb') (λz=>by have:=ajC z;omega) (λb' hb'=>by cases hb';exact ho.lt) hF
  exact⟨rl',_,_,_,_,h',by simp,by simp,hc0.mono (λk _ z=>by rw[z,h.r1 b rfl];rfl),hr⟩)
 have hq:=afh b w;clear h hf hown hb0 hB;go_enter func196,ntmps196;go_wp2_with (first
  | (at_mapUpdate;refine alU _ rfl _ _ _ 170 rfl 3 188 Gz underlying170 _ b _ _ rfl hown1 (by unfold maxLen;omega) _ _ _ rfl rfl hke _ [] (FW _) ?_;intro w1 ho1 hg1)
  | go_in)
 go_ret;exact⟨_,rfl,ah HX w1 ho1 hg1⟩
theorem Vy {w:World}{B q:Nat}{rl:Nat->Option (Nat×Int)}{m:Int}{es:List ay}{D:DataW Unit}{cO:Int->Nat}{vO:Int->Value}(n:Int)(hn:wf n)(h:kC w B q rl m es none D cO vO)(hf:fH es n=none)(hB:B<=w.heap.size) :
 Calls prog 196 #[.pointer (some ⟨q,0,none⟩),.int .i64 n] w λe w'=>∃c,e=.returned (.pointer (some ⟨c,0,none⟩))/\Made w w' B q rl m es n c:=by
 have hD:D=.map []:=by
  rcases h.mp with ⟨_,z⟩|⟨b',z,_⟩
  ·exact z
  ·cases z
 have vw:=(h.own q (by rw[h.r0];rfl)).2;have k1:=h.c1;have k2:=h.fz;have hqn:w.heap.size≠q:=by omega
 have hmm:=@run_makeMap prog;have hke:=abt hn;obtain⟨W3,hW3⟩:∃W3,W3=((w.setCell ⟨q,1,none⟩ (.map (some w.heap.size))).alloc (.map #[] 0)).alloc (.cells #[.slice none 0 0,.int .i64 0] 191):=⟨_,rfl⟩;have hs2:((w.setCell ⟨q,1,none⟩ (.map (some w.heap.size))).alloc (.map #[] 0)).heap.size=w.heap.size+1:=by simp[World.setCell]
 have hc2:aH (λk=>k=q) w ((w.setCell ⟨q,1,none⟩ (.map (some w.heap.size))).alloc (.map #[] 0)):=(aH.setCell (A:=λk=>k=q) (p:=⟨q,1,none⟩) (aH.refl _ _) (.inl rfl) _).trans (aH.aA ((ajb _ _).alloc (Xc _) _));have hb3:Below ((w.setCell ⟨q,1,none⟩ (.map (some w.heap.size))).alloc (.map #[] 0)).heap.size ((w.setCell ⟨q,1,none⟩ (.map (some w.heap.size))).alloc (.map #[] 0)) W3:=by rw[hW3];exact(ajb _ _).alloc (Xc _) _
 have hs1:(w.setCell ⟨q,1,none⟩ (.map (some w.heap.size))).heap.size=w.heap.size:=by simp[World.setCell]
 have hown3:W3.ownsMap prog 3 dF w.heap.size 0 (.map []):=by
  have:=World.ownsMap_made (w.setCell ⟨q,1,none⟩ (.map (some w.heap.size))) prog 3 dF;rw[hs1] at this;rw[hW3];exact this.alloc _
 have q0:W3.cell? ⟨q,0,none⟩=some (.int .i64 m):=by
  rw[hb3.cell (p:=⟨q,0,none⟩) (show q<_ by omega),aku _ _ _ (show q<_ by omega),aji _ _ _ _ (by simp)];exact h.c0
 have q1:W3.cell? ⟨q,1,none⟩=some (.map (some w.heap.size)):=by
  rw[hb3.cell (p:=⟨q,1,none⟩) (show q<_ by omega),aku _ _ _ (show q<_ by omega)];exact ajL _ _ _ (by rw[h.c1])
 have q2:W3.frozen? ⟨q,1,none⟩=false:=by
  rw[hb3.frozen (p:=⟨q,1,none⟩) (show q<_ by omega),((ajb _ _).alloc (Xc _) _).frozen (p:=⟨q,1,none⟩) (show q<_ by omega),ajt];exact h.fz
 have HX:Hid (∀w',w'.ownsMap prog 3 dF w.heap.size (0+1) (DataW.put (.map []) (.int .i64 n) (.lit (.int .i64 ((w.heap.size+1:Nat):Int))))->W3.grownBy w' (some w.heap.size)->Made w w' B q rl m es n (w.heap.size+1)):=aj (by
  intro w' ho hg;have hgc:aH (λk=>k=w.heap.size) W3 w':=(aH.bH hg).mono (λk _ z=>(ajC z).symm);have hs3:W3.heap.size=w.heap.size+2:=by rw[hW3];simp[World.setCell]
  have hc0:aH (λk=>k=q) w w':=(hc2.trans (aH.aA hb3)).more hgc (λi hi z=>by omega);have hF0:=Rt ((w.setCell ⟨q,1,none⟩ (.map (some w.heap.size))).alloc (.map #[] 0)) B n;rw[<-hW3,hs2] at hF0;have hF:nX w' B (w.heap.size+1) (.slice none 0 0) ⟨n,0,ByteArray.empty⟩:=hF0.bZ hgc (λz=>by omega) (λg hg=>by cases hg);have hM:rD w' (some w.heap.size) (D.put (.int .i64 n) (.lit (.int .i64 ((w.heap.size+1:Nat):Int)))):=by rw[hD];exact .inr ⟨_,rfl,BI ho⟩
  obtain⟨rl',h',hr⟩:=h.add (es':=Oy es n) (mb':=some w.heap.size) (c:=w.heap.size+1) hf (I9 es n) (Ac hf) (hc0.mono (λk _ z=>.inl z)) hB (by omega)
   (by rw[hgc.cell (p:=⟨q,0,none⟩) (by simp only;omega) (by simp only;omega)];exact q0) (by rw[hgc.cell (p:=⟨q,1,none⟩) (by simp only;omega) (by simp only;omega)];exact q1) (by rw[hgc.frozen (p:=⟨q,1,none⟩) (by simp only;omega) (by simp only;omega)];exact q2) hM (λb' hb'=>.inr (by have:=ajC hb';omega)) (λz=>by have:=ajC z;omega) (λb' hb'=>by cases hb';exact ho.lt) hF
  exact⟨rl',_,_,_,_,h',by simp,by simp,hc0.mono (λk _ z=>by rw[z,h.r0];rfl),hr⟩)
 subst hW3;have hq:=ag6 w;clear h hf hB hD hb3 hc2 hs2 hs1 q0 q2;go_enter func196,ntmps196;go_wp2_with (first
  | (at_mapUpdate;refine alU _ rfl _ _ _ 170 rfl 3 188 Gz underlying170 _ w.heap.size _ _ rfl hown3 (by unfold maxLen;omega) _ _ _ rfl rfl hke _ [] (FW _) ?_;intro w1 ho1 hg1)
  | go_in)
 go_ret;exact⟨_,rfl,ah HX w1 (by simpa[World.setCell] using ho1) hg1⟩
theorem wpList_append_run {P:Program}(w:World){ops:Array Oper}{rest:List Oper}{o:Oper}{a:Act}{Q:Exit->Act->World->Prop}(hgd:o.guard=none)(sl x:Operand)(t u:TypeId)(ho:o.op=.call {callee:=.builtin .append,args:=#[sl,x],argTypes:=#[t,u]})
 (v y:Value) (hs:a.eval sl=v) (hx:a.eval x=y) (v':Value) (w':World) (hr:(Builtin.append_ #[t,u] o.type #[v,y]).run P w=.ok v' w') (h:wpList P ops Q rest (a.put o.dst v') w'):wpList P ops Q (o::rest) a w:=by
 refine wpList_plain hgd λK hK=>?_
 unfold Oper.wp execOp;simp only[ho,resolve,invoke,builtin,Sem.run_bind,Sem.run_pure,Result.andThen_ok,List.map_toArray,akt,alS,hs,hx,hr];exact hK _ _ h
theorem Ya {w w3:World}{B q:Nat}{F:Nat->Prop}{rl rl3:Nat->Option (Nat×Int)}{m:Int}{es3 es':List ay}{mb:Option Nat}{D:DataW Unit}{cO:Int->Nat}{vO:Int->Value}{n:Int}{e:ay}{s:ByteArray}(hF:∀k,F k↔(rl k).isSome=true)(h3:kC w3 B q rl3 m es3 mb D cO vO)
 (hn:fH es3 n=some e) (hlen:es'.length=es3.length) (hf:∀k,fH es' k=if k=n then some (yC e s) else fH es3 k) (hc:aH (λk=>(rl k).isSome=true) w w3) (hr:∀k,(rl3 k).isSome=true->(rl k).isSome=true\/w.heap.size<=k) (hB:B<=w3.heap.size) (hl:e.text.size+s.size<=1000000) :
 ∃a l c w4,(Builtin.append_ #[189,9] 189 #[vO n,.string s]).run prog w3=.ok (.slice a l c) w4/\w4.cell? ⟨cO n,0,none⟩=some (vO n)/\w4.frozen? ⟨cO n,0,none⟩=false/\oO Has w (w4.setCell ⟨cO n,0,none⟩ (.slice a l c)) B q F m es':=by
 have fQ:=h3.file n e hn;have haw:=h3.ae2 hn;obtain⟨v',w4,h1,h2,hcr,hv⟩:=Vw w3 B 189 (vO n) e.text s fQ.row hB hl;have hlt:=fQ.lt;have hn':v'.ownBlock≠some (cO n):=λz=>by
  rcases hv _ z with y|y
  ·exact haw y
  ·omega
 obtain⟨p1,p2⟩:=fQ.ahE hcr haw h2 hn';obtain⟨rl',h',hr'⟩:=h3.one (e':=yC e s) hn hlen hf p2 p1 hv;obtain⟨a,c,hshape,_,_⟩:=p1.shape;subst hshape;refine⟨a,_,c,w4,h1,by rw[hcr.cell (p:=⟨cO n,0,none⟩) hlt haw];exact fQ.c0,by rw[hcr.frozen (p:=⟨cO n,0,none⟩) hlt haw];exact fQ.f0,h'.did hF (hc.more (h3.jG hn p2) (λi hi z=>?_)) (λk hk=>?_)⟩
 ·rcases hr i z with y|y
  ·exact y
  ·omega
 ·rcases hr' k hk with y|y
  ·exact hr k y
  ·exact .inr (aje hc.size y)
theorem Ru {m:Int}{es:List ay}(ht:Tidy m es){n:Int}{s:ByteArray}{e:ay}(h0:bJ es m n s=0)(hn:fH es n=some e):(gU es m n s).length=es.length/\∀k,fH (gU es m n s) k=if k=n then some (yC e s) else fH es k:=by
 refine⟨?_,λk=>?_⟩
 ·obtain⟨a,b⟩:=lC.1 h0;rw[(wU a b (oD hn).1).2,akq]
 ·rw[Xz ht,h0,hn];simp[abg]
theorem Rw {m:Int}{es:List ay}(ht:Tidy m es){n:Int}{s:ByteArray}(h0:bJ es m n s=0)(hn:fH es n=none):(gU es m n s).length=(Oy es n).length/\∀k,fH (gU es m n s) k=if k=n then some (yC ⟨n,0,ByteArray.empty⟩ s) else fH (Oy es n) k:=by
 refine⟨?_,λk=>?_⟩
 ·obtain⟨a,b⟩:=lC.1 h0;rw[(sV a b (qI hn)).2,I9,kN (Bo _ _)]
 ·rw[Xz ht,h0,hn,Ac hn];by_cases hk:k=n
  ·simp[hk,abg,yC]
  ·simp[hk]
theorem afi {w:World}{q:Nat}(n:Int)(s:ByteArray)(hI:dn n 0 1099511627776=false) :
 Calls prog 195 #[.pointer (some ⟨q,0,none⟩),.int .i64 n,.string s] w λe w'=>e=.returned (.int .i64 1)/\Below w.heap.size w w':=by
 have h':n<0\/1099511627776<n:=by
  unfold dn at hI;simp only[Bool.and_eq_false_iff,ajP] at hI;omega
 clear hI;by_cases h1:n<0
 ·go_enter func195,ntmps195;go_wp2_with fail;go_ret;exact⟨rfl,ajb _ _⟩
 ·have h2:1099511627776<n:=by omega
  go_enter func195,ntmps195;go_wp2_with fail;go_ret;exact⟨rfl,ajb _ _⟩
theorem aci {w:World}{B q:Nat}{F:Nat->Prop}{m:Int}{es:List ay}(n:Int)(s:ByteArray)(hH:Has w B q F m es)(ht:Tidy m es)(hm:m<=65536)(hs:s.size<=140737488355328)(hI:0<=n/\n<=1099511627776)(hfull:m<(s.size:Int)+(used es:Int)) :
 Calls prog 195 #[.pointer (some ⟨q,0,none⟩),.int .i64 n,.string s] w λe w'=>e=.returned (.int .i64 8)/\Below w.heap.size w w':=by
 have hb0:Below w.heap.size w w.drew:=(ajb _ _).drew;have hH1:Has w.drew B q F m es:=hH.bZ (A:=λ_=>False) (aH.aA hb0) (λ_ _ z=>z);have PU:=aj (rQ hH1 ht hm);have hfit:=ht.fits;obtain⟨rl,mb,D,cO,vO,hF,h⟩:=hH;have vw:=(h.own q (by rw[h.r0];rfl)).2;have k0:w.drew.cell? ⟨q,0,none⟩=some (.int .i64 m):=h.c0;have h1:¬n<0:=by omega
 have h2:¬1099511627776<n:=by omega
 have hw:IntKind.i64.wrap (m-(used es:Int))=m-(used es:Int):=by rw[ajq];omega
 have hd:decide (m-(used es:Int)<(s.size:Int))=true:=ajg (by omega);clear h hF hH1 ht;go_enter func195,ntmps195;go_wp2_with fail;go_region_held3 (λw'=>w'.cell? ⟨q,0,none⟩=some (.int .i64 m)) (first|assumption|go_keep)
  ((go_at_call 225;refine(ah PU).mono ?_;rintro e w3 ⟨rfl,b3⟩;have t0:w3.cell? ⟨q,0,none⟩=some (.int .i64 m):=(b3.cell (p:=⟨q,0,none⟩) vw).trans k0))
 have hb3:Below w.heap.size w w3:=hb0.trans b3;clear b3 hb0;go_wp2_with fail;go_ret;exact⟨rfl,hb3⟩
theorem afj {w:World}{B q:Nat}{F:Nat->Prop}{m:Int}{es:List ay}(n:Int)(s:ByteArray)(hH:Has w B q F m es){e:ay}(ht:Tidy m es)(hm:m<=65536)(hI:0<=n/\n<=1099511627776)(hfull:¬m<(s.size:Int)+(used es:Int))(hn:fH es n=some e) :
 Calls prog 195 #[.pointer (some ⟨q,0,none⟩),.int .i64 n,.string s] w λe w'=>e=.returned (.int .i64 0)/\Below w.heap.size w w':=by
 have hb0:Below w.heap.size w w.drew:=(ajb _ _).drew;have hH1:Has w.drew B q F m es:=hH.bZ (A:=λ_=>False) (aH.aA hb0) (λ_ _ z=>z);have PU:=aj (rQ hH1 ht hm);have hfit:=ht.fits;obtain⟨rl,mb,D,cO,vO,hF,h⟩:=hH;have vw:=(h.own q (by rw[h.r0];rfl)).2;have k0:w.drew.cell? ⟨q,0,none⟩=some (.int .i64 m):=h.c0;have h1:¬n<0:=by omega
 have h2:¬1099511627776<n:=by omega
 have hw:IntKind.i64.wrap (m-(used es:Int))=m-(used es:Int):=by rw[ajq];omega
 have hd:decide (m-(used es:Int)<(s.size:Int))=false:=ajd (by omega);have HX:Hid (∀w3,Below w.heap.size w w3->w3.cell? ⟨q,1,none⟩=some (.map mb)/\(Instr.lookup 170 (.map mb) (.int .i64 n) false).run prog w3=.ok (.pointer (some ⟨cO n,0,none⟩)) w3/\∀ty,(Builtin.len_ #[170] ty #[.map mb]).run prog w3=.ok (.int .i64 (es.length:Int)) w3):=aj (by
  intro w3 hb3;have h3:=h.keep (A:=λ_=>False) (aH.aA hb3) (λ_ _ z=>z);refine⟨h3.c1,?_,λty=>?_⟩
  ·rcases h3.look (vK hI) with ⟨z,y⟩|⟨_,z,y⟩
   ·rw[hn] at z;cases z
   ·exact y
  ·rw[h3.mp.len ty,h3.sz])
 clear h hF hH1 ht hn;go_enter func195,ntmps195;go_wp2_with fail;go_region_held3 (λw'=>w'.cell? ⟨q,0,none⟩=some (.int .i64 m)) (first|assumption|go_keep)
  ((go_at_call 225;refine(ah PU).mono ?_;rintro e w3 ⟨rfl,b3⟩;have t0:w3.cell? ⟨q,0,none⟩=some (.int .i64 m):=(b3.cell (p:=⟨q,0,none⟩) vw).trans k0))
 have hb3:Below w.heap.size w w3:=hb0.trans b3;obtain⟨x1,x2,x3⟩:=ah HX w3 hb3;clear b3 hb0 HX;go_wp2_with fail;go_ret;exact⟨rfl,hb3⟩
theorem acj {w:World}{B q:Nat}{F:Nat->Prop}{m:Int}{es:List ay}(n:Int)(s:ByteArray)(hH:Has w B q F m es)(ht:Tidy m es)(hm:m<=65536)(hI:0<=n/\n<=1099511627776)(hfull:¬m<(s.size:Int)+(used es:Int))(hn:fH es n=none)(h20:es.length<20) :
 Calls prog 195 #[.pointer (some ⟨q,0,none⟩),.int .i64 n,.string s] w λe w'=>e=.returned (.int .i64 0)/\Below w.heap.size w w':=by
 have hb0:Below w.heap.size w w.drew:=(ajb _ _).drew;have hH1:Has w.drew B q F m es:=hH.bZ (A:=λ_=>False) (aH.aA hb0) (λ_ _ z=>z);have PU:=aj (rQ hH1 ht hm);have hfit:=ht.fits;obtain⟨rl,mb,D,cO,vO,hF,h⟩:=hH;have vw:=(h.own q (by rw[h.r0];rfl)).2;have k0:w.drew.cell? ⟨q,0,none⟩=some (.int .i64 m):=h.c0;have h1:¬n<0:=by omega
 have h2:¬1099511627776<n:=by omega
 have hw:IntKind.i64.wrap (m-(used es:Int))=m-(used es:Int):=by rw[ajq];omega
 have hd:decide (m-(used es:Int)<(s.size:Int))=false:=ajd (by omega);have hd2:decide ((20:Int)<=(es.length:Int))=false:=ajd (by omega);have HX:Hid (∀w3,Below w.heap.size w w3->w3.cell? ⟨q,1,none⟩=some (.map mb)/\(Instr.lookup 170 (.map mb) (.int .i64 n) false).run prog w3=.ok (.pointer none) w3/\∀ty,(Builtin.len_ #[170] ty #[.map mb]).run prog w3=.ok (.int .i64 (es.length:Int)) w3):=aj (by
  intro w3 hb3;have h3:=h.keep (A:=λ_=>False) (aH.aA hb3) (λ_ _ z=>z);refine⟨h3.c1,?_,λty=>?_⟩
  ·rcases h3.look (vK hI) with ⟨z,y⟩|⟨_,z,y⟩
   ·exact y
   ·rw[hn] at z;cases z
  ·rw[h3.mp.len ty,h3.sz])
 clear h hF hH1 ht hn h20;go_enter func195,ntmps195;go_wp2_with fail;go_region_held3 (λw'=>w'.cell? ⟨q,0,none⟩=some (.int .i64 m)) (first|assumption|go_keep)
  ((go_at_call 225;refine(ah PU).mono ?_;rintro e w3 ⟨rfl,b3⟩;have t0:w3.cell? ⟨q,0,none⟩=some (.int .i64 m):=(b3.cell (p:=⟨q,0,none⟩) vw).trans k0))
 have hb3:Below w.heap.size w w3:=hb0.trans b3;obtain⟨x1,x2,x3⟩:=ah HX w3 hb3;clear b3 hb0 HX;go_wp2_with fail;go_ret;exact⟨rfl,hb3⟩
theorem acn {w:World}{B q:Nat}{F:Nat->Prop}{m:Int}{es:List ay}(n:Int)(s:ByteArray)(hH:Has w B q F m es)(ht:Tidy m es)(hm:m<=65536)(hI:0<=n/\n<=1099511627776)(hfull:¬m<(s.size:Int)+(used es:Int))(hn:fH es n=none)(h20:es.length=20) :
 Calls prog 195 #[.pointer (some ⟨q,0,none⟩),.int .i64 n,.string s] w λe w'=>e=.returned (.int .i64 8)/\Below w.heap.size w w':=by
 have hb0:Below w.heap.size w w.drew:=(ajb _ _).drew;have hH1:Has w.drew B q F m es:=hH.bZ (A:=λ_=>False) (aH.aA hb0) (λ_ _ z=>z);have PU:=aj (rQ hH1 ht hm);have hfit:=ht.fits;obtain⟨rl,mb,D,cO,vO,hF,h⟩:=hH;have vw:=(h.own q (by rw[h.r0];rfl)).2;have k0:w.drew.cell? ⟨q,0,none⟩=some (.int .i64 m):=h.c0;have h1:¬n<0:=by omega
 have h2:¬1099511627776<n:=by omega
 have hw:IntKind.i64.wrap (m-(used es:Int))=m-(used es:Int):=by rw[ajq];omega
 have hd:decide (m-(used es:Int)<(s.size:Int))=false:=ajd (by omega);have HX:Hid (∀w3,Below w.heap.size w w3->w3.cell? ⟨q,1,none⟩=some (.map mb)/\(Instr.lookup 170 (.map mb) (.int .i64 n) false).run prog w3=.ok (.pointer none) w3/\∀ty,(Builtin.len_ #[170] ty #[.map mb]).run prog w3=.ok (.int .i64 20) w3):=aj (by
  intro w3 hb3;have h3:=h.keep (A:=λ_=>False) (aH.aA hb3) (λ_ _ z=>z);refine⟨h3.c1,?_,λty=>?_⟩
  ·rcases h3.look (vK hI) with ⟨z,y⟩|⟨_,z,y⟩
   ·exact y
   ·rw[hn] at z;cases z
  ·rw[h3.mp.len ty,h3.sz,h20];rfl)
 clear h hF hH1 ht hn h20;go_enter func195,ntmps195;go_wp2_with fail;go_region_held3 (λw'=>w'.cell? ⟨q,0,none⟩=some (.int .i64 m)) (first|assumption|go_keep)
  ((go_at_call 225;refine(ah PU).mono ?_;rintro e w3 ⟨rfl,b3⟩;have t0:w3.cell? ⟨q,0,none⟩=some (.int .i64 m):=(b3.cell (p:=⟨q,0,none⟩) vw).trans k0))
 have hb3:Below w.heap.size w w3:=hb0.trans b3;obtain⟨x1,x2,x3⟩:=ah HX w3 hb3;clear b3 hb0 HX;go_wp2_with fail;go_ret;exact⟨rfl,hb3⟩
theorem Ad {w:World}{B q:Nat}{F:Nat->Prop}{m:Int}{es:List ay}(n:Int)(s:ByteArray)(hH:Has w B q F m es)(ht:Tidy m es)(hm:m<=65536)(hs:s.size<=140737488355328) :
 Calls prog 195 #[.pointer (some ⟨q,0,none⟩),.int .i64 n,.string s] w λe w'=>e=.returned (.int .i64 (bJ es m n s))/\Below w.heap.size w w':=by
 cases hI:dn n 0 1099511627776 with
 | false =>
  rw[(GN hI).1];exact afi n s hI
 | true =>
  have hI':0<=n/\n<=1099511627776:=by simpa[dn] using hI
  by_cases hr:m<(s.size:Int)+(used es:Int)
  ·have hf:full es m n s=true:=by unfold full;rw[ajg hr];rfl
   rw[(qU hI hf).1];exact aci n s hH ht hm hs hI' hr
  ·cases hn:fH es n with
   | some e =>
    have hf:full es m n s=false:=by unfold full;rw[ajd hr,ajg (oD hn).1];rfl
    rw[lC.2 ⟨hI,hf⟩];exact afj n s hH ht hm hI' hr hn
   | none =>
    by_cases h20:es.length=20
    ·have hf:full es m n s=true:=by unfold full;rw[ajd hr,ajd (qI hn),ajg h20];rfl
     rw[(qU hI hf).1];exact acn n s hH ht hm hI' hr hn h20
    ·have hf:full es m n s=false:=by unfold full;rw[ajd hr,ajd (qI hn),ajd h20];rfl
     rw[lC.2 ⟨hI,hf⟩];exact acj n s hH ht hm hI' hr hn (by have:=ht.iW;omega)
theorem Vz {w:World}{B q:Nat}{F:Nat->Prop}{m:Int}{es:List ay}(n:Int)(s:ByteArray)(hH:Has w B q F m es)(ht:Tidy m es)(hm:m<=65536)(hs:s.size<=140737488355328){E:Int}(hE:bJ es m n s=E)(h0:E≠0) :
 Calls prog 158 #[.pointer (some ⟨q,0,none⟩),.int .i64 n,.string s] w λe w'=>e=.returned (.int .i64 E)/\oO Has w w' B q F m es:=by
 have PT:=aj (Ad n s hH ht hm hs);rw[hE] at PT;have HH:=aj hH;have h1:(E !=0)=true:=by simpa using h0
 clear hH ht hE;go_enter func158,ntmps158;go_wp2_with fail;refine(ah PT).mono ?_;rintro e w3 ⟨rfl,b3⟩;have B3:=aj b3;clear b3 PT;go_wp2_with fail;go_ret;exact⟨rfl,xA (ah HH) (ah B3)⟩
theorem VA {w:World}{B q:Nat}{F:Nat->Prop}{m:Int}{es:List ay}(n:Int)(s:ByteArray)(hH:Has w B q F m es){e:ay}(ht:Tidy m es)(hm:m<=65536)(hs:s.size<=140737488355328)(hB:B<=w.heap.size)(hI:0<=n/\n<=1099511627776)(h0:bJ es m n s=0)(hfull:¬m<(s.size:Int)+(used es:Int))(hn:fH es n=some e) :
 Calls prog 158 #[.pointer (some ⟨q,0,none⟩),.int .i64 n,.string s] w λe w'=>e=.returned (.int .i64 0)/\oO Has w w' B q F m (gU es m n s):=by
 have PT:=aj (Ad n s hH ht hm hs);rw[h0] at PT;have hfit:=ht.fits;obtain⟨rl,mb,D,cO,vO,hF,h⟩:=hH;have hmem:=oU (wV hn).1;have HX:Hid (∀w3,Below w.heap.size w w3->w3.cell? ⟨q,1,none⟩=some (.map mb)/\(Instr.lookup 170 (.map mb) (.int .i64 n) false).run prog w3=.ok (.pointer (some ⟨cO n,0,none⟩)) w3/\w3.cell? ⟨cO n,0,none⟩=some (vO n)/\∃a l k w4,(Builtin.append_ #[189,9] 189 #[vO n,.string s]).run prog w3=.ok (.slice a l k) w4/\w4.cell? ⟨cO n,0,none⟩=some (vO n)/\w4.frozen? ⟨cO n,0,none⟩=false/\oO Has w (w4.setCell ⟨cO n,0,none⟩ (.slice a l k)) B q F m (gU es m n s)):=aj (by
  intro w3 hb3;have h3:=h.keep (A:=λ_=>False) (aH.aA hb3) (λ_ _ z=>z);refine⟨h3.c1,?_,(h3.file n e hn).c0,?_⟩
  ·rcases h3.look (vK hI) with ⟨z,_⟩|⟨_,_,z⟩
   ·rw[hn] at z;cases z
   ·exact z
  ·exact Ya hF h3 hn (Ru ht h0 hn).1 (Ru ht h0 hn).2 (aH.aA hb3) (λk hk=>.inl hk) (aje hB hb3.size) (by omega))
 clear h hF ht hn h0;go_enter func158,ntmps158;go_wp2_with fail;refine(ah PT).mono ?_;rintro e w3 ⟨rfl,b3⟩;obtain⟨x1,x2,x3,a,l,k,w4,x4,x5,x6,x7⟩:=ah HX w3 b3;have X7:=aj x7;clear b3 x7 HX PT;go_wp2_with (at_builtin;refine wpList_append_run _ rfl _ _ 189 9 rfl _ _ rfl rfl _ _ x4 ?_);go_ret;exact⟨rfl,ah X7⟩
theorem Rx {w:World}{B q:Nat}{F:Nat->Prop}{m:Int}{es:List ay}(n:Int)(s:ByteArray)(hH:Has w B q F m es)(ht:Tidy m es)(hm:m<=65536)(hs:s.size<=140737488355328)(hB:B<=w.heap.size)(hI:0<=n/\n<=1099511627776)(h0:bJ es m n s=0)(hfull:¬m<(s.size:Int)+(used es:Int))(hn:fH es n=none)(h20:es.length<20) :
 Calls prog 158 #[.pointer (some ⟨q,0,none⟩),.int .i64 n,.string s] w λe w'=>e=.returned (.int .i64 0)/\oO Has w w' B q F m (gU es m n s):=by
 have PT:=aj (Ad n s hH ht hm hs);rw[h0] at PT;have hfit:=ht.fits;obtain⟨rl,mb,D,cO,vO,hF,h⟩:=hH;have HX:Hid (∀w3,Below w.heap.size w w3->w3.cell? ⟨q,1,none⟩=some (.map mb)/\(Instr.lookup 170 (.map mb) (.int .i64 n) false).run prog w3=.ok (.pointer none) w3 /\
  Calls prog 196 #[.pointer (some ⟨q,0,none⟩),.int .i64 n] w3 λe w5=>∃c,e=.returned (.pointer (some ⟨c,0,none⟩))/\w5.cell? ⟨c,0,none⟩=some (.slice none 0 0)/\∃a l k w4,(Builtin.append_ #[189,9] 189 #[.slice none 0 0,.string s]).run prog w5=.ok (.slice a l k) w4/\w4.cell? ⟨c,0,none⟩=some (.slice none 0 0)/\w4.frozen? ⟨c,0,none⟩=false/\oO Has w (w4.setCell ⟨c,0,none⟩ (.slice a l k)) B q F m (gU es m n s)):=aj (by
  intro w3 hb3;have h3:=h.keep (A:=λ_=>False) (aH.aA hb3) (λ_ _ z=>z);refine⟨h3.c1,?_,?_⟩
  ·rcases h3.look (vK hI) with ⟨_,z⟩|⟨_,z,_⟩
   ·exact z
   ·rw[hn] at z;cases z
  ·have hC:Calls prog 196 #[.pointer (some ⟨q,0,none⟩),.int .i64 n] w3 λe w'=>∃c,e=.returned (.pointer (some ⟨c,0,none⟩))/\Made w3 w' B q rl m es n c:=by
    cases mb with
    | none=>exact Vy n (vK hI) h3 hn (aje hB hb3.size)
    | some b=>exact Vx n (vK hI) h3 hn (by omega) (aje hB hb3.size)
   refine hC.mono ?_;rintro r w5 ⟨c,rfl,rl',mb',D',cO',vO',h5,hc5,hv5,hch,hrl⟩;have hf5:fH (Oy es n) n=some ⟨n,0,ByteArray.empty⟩:=by rw[Ac hn,if_pos rfl]
   have hfin:=Ya (w:=w) hF h5 hf5 (Rw ht h0 hn).1 (Rw ht h0 hn).2 ((aH.aA hb3).trans hch) (λk hk=>by
    rcases hrl k hk with y|y
    ·exact .inl y
    ·exact .inr (aje hb3.size y)) (aje hB (aje hb3.size hch.size)) (by show 0+s.size<=1000000;omega)
   rw[hc5,hv5] at hfin;have hcell:=(h5.file n _ hf5).c0;rw[hc5,hv5] at hcell;exact⟨c,rfl,hcell,hfin⟩)
 clear h hF ht hn h0 h20;go_enter func158,ntmps158;go_wp2_with fail;refine(ah PT).mono ?_;rintro e w3 ⟨rfl,b3⟩;obtain⟨x1,x2,x4⟩:=ah HX w3 b3;have PC:=aj x4;clear b3 HX x4 PT;go_wp2_with fail;refine(ah PC).mono ?_;rintro r w5 ⟨c,rfl,y1,a,l,k,w4,y2,y3,y4,y5⟩;have Y5:=aj y5;clear y5 PC x1 x2;go_wp2_with (at_builtin;refine wpList_append_run _ rfl _ _ 189 9 rfl _ _ rfl rfl _ _ y2 ?_);go_ret;exact⟨rfl,ah Y5⟩
theorem Ry {w:World}{B q:Nat}{F:Nat->Prop}{m:Int}{es:List ay}(n:Int)(s:ByteArray)(hH:Has w B q F m es)(ht:Tidy m es)(hm:m<=65536)(hs:s.size<=140737488355328)(hB:B<=w.heap.size) :
 Calls prog 158 #[.pointer (some ⟨q,0,none⟩),.int .i64 n,.string s] w λe w'=>e=.returned (.int .i64 (bJ es m n s))/\oO Has w w' B q F m (gU es m n s):=by
 by_cases h0:bJ es m n s=0
 ·obtain⟨hI,hf⟩:=lC.1 h0;have hI':0<=n/\n<=1099511627776:=by simpa[dn] using hI
  have hr:¬m<(s.size:Int)+(used es:Int):=λz=>by unfold full at hf;rw[ajg z] at hf;cases hf
  rw[h0]
  cases hn:fH es n with
  | some e=>exact VA n s hH ht hm hs hB hI' h0 hr hn
  | none =>
   have h20:es.length≠20:=λz=>by unfold full at hf;rw[ajd hr,ajd (qI hn),ajg z] at hf;cases hf
   exact Rx n s hH ht hm hs hB hI' h0 hr hn (by have:=ht.iW;omega)
 ·rw[jr h0];exact Vz n s hH ht hm hs rfl h0
