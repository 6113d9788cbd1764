/- A part. -/
import Derived.Test.YtebofkkfbkodiaaGreatDoorQ0
import Derived.LoopIn
import Derived.LoopNIn
import Derived.OwnWalkIn
import Derived.RangeFuncBound
import Derived.RangeFuncNested
import Derived.Shelf.RegionOpen
set_option maxRecDepth 100000
set_option maxHeartbeats 8000000
namespace Go.Proofs.YtebofkkfbkodiaaGreatDoor
open Go.RowKit Go.Proofs.Tryz
namespace Dk
open Go.Shelf
variable {w:I}
attribute [local go_sem] Oper.semAt_some
abbrev Num:={n:Int // wf n}
theorem Kept.refl (Cs:af)(w:I):Kept Cs w w:=⟨agH _,λ_ _=>rfl⟩
theorem Kept.trans {Cs:af}{a b c:I}(h:Kept Cs a b)(k:Kept Cs b c):Kept Cs a c:=⟨ajA h.1 k.1,λi hi=>(k.2 i hi).trans (h.2 i hi)⟩
theorem Kept.put {Cs:af}(hC:∀k,Cs k->k<w.heap.size)(W:I)(l:Nat)(o o':Obj)(hl:w.heap.size<=l)(h:W.heap[l]?=some o):Kept Cs W (W.putObj l o'):=by
 have hlt:=(akJ.1 h).1;have hg:=grownBy_putObj' W l o';exact⟨hg.size,λk hk=>by
  have:=hC k hk;exact hg.block k (by omega) (λe=>by have:=ajU e;omega)⟩
theorem aaQ (F:Fence)(n:Nat)(hf:F.fn 290)(hro:F.round=none)(hn:1<=n)(l Bs:Nat)(Cs:af)(a:Option Addr)(zs:List Int)(cap:Nat)(hz:∀k,k<zs.length->wf (nth zs k))(hlen:zs.length<=1000)(hCB:Cs Bs)(Oc:∀z,a=some z->Cs z.block)(J Jx:List (Int×Num)->I->Prop)
 (hY:∀pre x W,J pre W->pre.length<zs.length->YieldAt F (n-1) prog l #[aa x.1,aa x.2.1] W λe W' =>
  (e=.returned (.bool true)/\J (pre++[x]) W'/\Kept Cs W W')\/(e=.returned (.bool false)/\Jx (pre++[x]) W'))
 (W:I) (hBs:W.cell? (aq Bs 0)=some (.slice a zs.length cap)) (hc:kK W a zs) (h0:J [] W) :
 CallsIn F n prog 290 #[.func (.yield l) #[] #[],ae Bs] W λe W'=>(∃v,e=.returned v) /\
  ((∃ys:List (Int×Num),ys.map (λx=>x.2.1)=zs.reverse/\J ys W')\/(∃pre:List (Int×Num),True/\Jx pre W')):=by
 have HZ:=aj hz;have HY:=aj hY;have HCa:=aj Oc;have HW:=aj (And.intro hBs hc);clear hz hY Oc hc;refine amA func290 rfl hf ?_ hro;simp only[ntmps290,alm,ajX,alG,Nat.reduceAdd,Nat.reduceSub,alo,alp,alD,als,akD,akx];have hw0:IntKind.i64.wrap ((zs.length:Int)-1)=(zs.length:Int)-1:=by rw[akl];omega
 gi_wp2
 gi_loopw [3] (λiv wr=>∃(k:Nat) (j:Int) (pre:List (Int×Num)),iv=aa j/\Hid (j=(k:Int)-1)/\k<=zs.length/\Hid (pre.map (λx=>x.2.1)=(zs.drop k).reverse/\pre.length+k=zs.length)/\Hid (J pre wr)/\Hid (Kept Cs W wr)) (λiv _=>(intOf iv+1).toNat)
 case atStart=>exact⟨zs.length,_,[],rfl,aj (by first|rfl|exact hw0),agH _,aj ⟨by simp,by simp⟩,aj h0,aj (Kept.refl _ _)⟩
 case round =>
  obtain⟨k,j,pre,rfl,hj,hk,HP,HJ,HK⟩:=hrel;have hbs:=((ah HK).cell (C:=Bs) (j:=0) hCB).trans hBs;by_cases hk0:0<k
  ·obtain⟨i,rfl⟩:∃i,k=i+1:=⟨k-1,by omega⟩;obtain rfl:j=(i:Int):=by have:=ah hj;omega
   have hi:i<zs.length:=by omega
   have hi0:(0:Int)<=(i:Int):=by omega
   obtain⟨b,o,rfl,hb,c1⟩:=((ah HK).nums (ah HW).2 (ah HCa)) i hi;obtain⟨fn,tmps,assign,body,hy,hR⟩:=ah HY pre ((i:Int),⟨nth zs i,ah HZ i hi⟩) wr (ah HJ) (by have:=(ah HP).2;omega);dsimp only at hy;have HP2:Hid ((pre++[((i:Int),(⟨nth zs i,ah HZ i hi⟩:Num))]).map (λx=>x.2.1)=(zs.drop i).reverse/\(pre++[((i:Int),(⟨nth zs i,ah HZ i hi⟩:Num))]).length+i=zs.length):=aj ⟨by
    have aif:nth zs i=zs[i]:=by unfold nth;rw[ajC hi];rfl
    rw[akt,(ah HP).1,ajW hi,List.reverse_cons];show _++[nth zs i]=_;rw[aif],by have:=(ah HP).2;simp;omega⟩
   have hw1:IntKind.i64.wrap ((i:Int)-1)=(i:Int)-1:=by rw[akl];omega
   clear HP HJ hj hk0 hb;gi_wp2
   refine hR.mono ?_;rintro e W3 (⟨rfl,hJ3,hk3⟩|⟨rfl,hJx3⟩)
   ·have J3:=aj hJ3;have K3:=aj ((ah HK).trans hk3);clear hJ3 hk3 hR hy c1 hbs HK;gi_wp2
    go_roundw
    case rel=>exact⟨i,_,_,rfl,aj (by first|rfl|exact hw1),by omega,HP2,J3,K3⟩
    case measure=>first|(simp[intOf];done)|(simp[intOf];omega)
   ·have J3:=aj hJx3;clear hJx3 hR hy c1 hbs HK;gi_wp2
    refine ajY (amo rfl _ _ _) rfl ?_;exact⟨⟨_,rfl⟩,.inr ⟨_,trivial,ah J3⟩⟩
  ·obtain rfl:k=0:=by omega
   obtain rfl:j=-1:=by have:=ah hj;omega
   gi_wp2
   go_end0
   exact⟨⟨_,rfl⟩,.inl ⟨_,by rw[(ah HP).1];rfl,ah HJ⟩⟩
theorem aed (F:Fence)(n:Nat)(hf:F.fn 271)(hro:F.round=none)(a:Option Addr)(len cap:Nat)(w:I) :
 CallsIn F n prog 271 #[.slice a len cap] w λe w'=>e=.returned (.func (.func 290) #[] #[.pointer (some ⟨w.heap.size,0,none⟩)])/\w'=w.alloc (.cells #[.slice a len cap] 26):=by
 refine amA func271 rfl hf ?_ hro;simp only[ntmps271,alm,ajX,alG,Nat.reduceAdd,Nat.reduceSub,alo,alp,alD,als,akD,akx];gi_wp2
 go_ret;exact⟨rfl,rfl⟩
theorem SY (F:Fence)(n:Nat)(hf:F.fn 290)(hro:F.round=none)(hn:1<=n)(Bs:Nat)(Cs:af)(a:Option Addr)(zs:List Int)(cap:Nat)(hz:∀k,k<zs.length->wf (nth zs k))(hlen:zs.length<=1000)(hCB:Cs Bs)(Oc:∀z,a=some z->Cs z.block)(w:I)(hC:∀k,Cs k->k<w.heap.size)
 (hBs:w.cell? (aq Bs 0)=some (.slice a zs.length cap)) (hc:kK w a zs) :
 SeqStopsK F n prog 290 #[ae Bs] (λx:Int×Num=>#[Value.int .i64 x.1,Value.int .i64 x.2.1]) (Kept Cs) (λys=>ys.map (λx=>x.2.1)=zs.reverse) (λ_=>True) zs.length w:=λl J Jx W hW _ _ hY h0=>by
 have hk:Kept Cs w W:=⟨hW.size,λk hk=>hW.block k (hC k hk)⟩;exact aaQ F n hf hro hn l Bs Cs a zs cap hz hlen hCB Oc J Jx hY W ((hk.cell hCB).trans hBs) (hk.nums hc Oc) h0
def wJ (es:List aB)(pre:List (Int×Num)):List aB:=pre.foldl (λl x=>mO l x.2.1) es
theorem Tc (es:List aB)(pre:List (Int×Num))(x:Int×Num):wJ es (pre++[x])=mO (wJ es pre) x.2.1:=by unfold wJ;rw[ams];rfl
theorem I4 (es:List aB)(pre:List (Int×Num)):wJ es pre=(pre.map (λx=>x.2.1)).foldl mO es:=by unfold wJ;rw[List.foldl_map]
theorem Tidy.wJ {m:Int}{es:List aB}(h:Tidy m es)(pre:List (Int×Num)):Tidy m (Dk.wJ es pre):=by rw[I4];exact Tidy.af4 _ h
theorem kK.below' {w':I}{a:Option Addr}{l:List Int}{n:Nat}(h:kK w a l)(hb:Below n w w')(hn:∀z,a=some z->z.block<n):kK w' a l:=λk hk=>by
 obtain⟨b,o,h1,h2,h3⟩:=h k hk;exact⟨b,o,h1,ajz h2 hb.size,by rw[hb.cell (p:=aq b (o+k)) (hn ⟨b,o,none⟩ h1)];exact h3⟩
theorem Oe {Has:I->Nat->Nat->af->Int->List aB->Prop}{B q:Nat}{F:af}{m:Int}{es:List aB}(H:Works Has)(HS:Lists Has)(a:Option Addr)(zs:List Int)(cap:Nat)(hz:∀k,k<zs.length->wf (nth zs k))(hlen:zs.length<=1000)(hs:kK w a zs)(ha:∀z,a=some z->z.block<w.heap.size/\¬F z.block)(h:Has w B q F m es)(ht:Tidy m es)(hm:m<=65536)(hB:B<=w.heap.size) :
 Calls prog 245 #[ae q,.slice a zs.length cap] w λe w'=>e=.returned (.tuple #[])/\Has w' B q F m (zs.reverse.foldl mO es)/\aA F w w':=by
 refine(alM (n:=8)).1 ?_;have HZ:=aj hz;have HH:=aj h;have HT:=aj ht;have VO:=aj hs;have HA:=aj ha;clear hz h ht hs ha;refine callsIn_of_wp_marks func245 rfl trivial ?_ rfl;simp only[ntmps245,alm,ajX,alG,Nat.reduceAdd,Nat.reduceSub,alo,alp,alD,als,akD,akx];have cB:=aed Fence.wide 7 trivial rfl a zs.length cap (w.alloc (.cells #[ae q] 129));have hfB:Fence.wide.fn 271:=trivial;gi_wp2_with (gi_at_call 271;refine cB.mono ?_;rintro e w' ⟨rfl,rfl⟩)
 clear cB;obtain⟨W0,hW0⟩:∃W0,W0=(w.alloc (.cells #[ae q] 129)).alloc (.cells #[.slice a zs.length cap] 26):=⟨_,rfl⟩;have hs0:W0.heap.size=w.heap.size+2:=by rw[hW0];simp
 have hb0:ai w W0:=by rw[hW0];exact(ax _ _).alloc (by simp) _
 have hown:∀k,F k->k<w.heap.size:=λk hk=>(H.own (ah HH) k hk).2
 have c0:W0.cell? (aq w.heap.size 0)=some (ae q):=by
  rw[hW0,aln _ _ _ (by simp),aky _ w.heap.size 0 _ _ _ (akv w _)];rfl
 have c1:W0.cell? (aq (w.heap.size+1) 0)=some (.slice a zs.length cap):=by
  have:=aky ((w.alloc (.cells #[ae q] 129)).alloc (.cells #[.slice a zs.length cap] 26)) (w.alloc (.cells #[ae q] 129)).heap.size 0 _ _ _ (akv _ _);rw[alH] at this;rw[hW0,this];rfl
 have hst:SeqStopsK Fence.wide 7 prog 290 #[.pointer (some ⟨w.heap.size+1,0,none⟩)] (λx:Int×Num=>#[Value.int .i64 x.1,Value.int .i64 x.2.1]) (Kept (λk=>k=w.heap.size+1\/∃z,a=some z/\z.block=k)) (λys=>ys.map (λx=>x.2.1)=zs.reverse) (λ_=>True) zs.length W0 :=
  SY Fence.wide 7 trivial rfl (by omega) (w.heap.size+1) _ a zs cap (ah HZ) hlen (.inl rfl) (λz hz=>.inr ⟨z,hz,rfl⟩) W0 (λk hk=>by
   rcases hk with rfl|⟨z,hz,rfl⟩
   ·omega
   ·have:=(ah HA z hz).1;omega) c1 ((ah VO).below' hb0 (λz hz=>(ah HA z hz).1))
 have hI:OwnFrom W0.heap.size (λ(pre:List (Int×Num)) W=>Has W B q F m (wJ es pre)/\aA F W0 W):=λs X Y row hs hg hr=>by
  refine⟨H.aF (A:=λk=>row=some k) hs.1 (aA.bC hg) (λk hk z=>?_),kP hs.2 (aA.bC hg) (λi hi z=>?_)⟩
  ·have:=(hr k z).1;have:=hown k hk;omega
  ·have:=(hr i z).1;omega
 have hfR:Fence.wide.fn 272:=trivial;rw[<-hW0];refine wpIn_rangeFunc_ownG rfl (by omega) (gf:=290) (lb:=#[.pointer (some ⟨w.heap.size+1,0,none⟩)]) (by rfl) trivial (enters_of func290 (by kernel_rfl) rfl)
  hst (λh k=>h.trans k) (λW l o o' hl h _ _=>Kept.put (λk hk=>by
   rcases hk with rfl|⟨z,hz,rfl⟩
   ·omega
   ·have:=(ah HA z hz).1;omega) W l o o' hl h) (agP _ _) (λ_=>rfl)
  (λpre W=>Has W B q F m (wJ es pre)/\aA F W0 W)
  (λ_ _ _=>False)
  hI (λ_ _ _ _ _ hs _ _=>hs)
  ⟨H.aF (A:=λ_=>False) (ah HH) (aA.of_below hb0) (λ_ _ z=>z),aA.refl _ _⟩
  (λx=>{tmps:=#[ae q,.slice a zs.length cap,.pointer (some ⟨w.heap.size,0,none⟩),undef,undef,aa x.2.1,.slice a zs.length cap,.func (.func 290) #[] #[.pointer (some ⟨w.heap.size+1,0,none⟩)],aa x.1,aa x.2.1,undef,undef,undef],defers:=[]}) ?assign ?body ?done ?stop
 case assign =>
  intro l x W K hK;gi_wp2
  exact hK
 case body =>
  rintro l pre x W ⟨hh,hc⟩ _;have d0:W.cell? (aq w.heap.size 0)=some (ae q):=by
   rw[hc.cell (p:=aq w.heap.size 0) (by simp only;omega) (λz=>by have:=hown _ z;simp at this)];exact c0
  have PR:=aj (HS.drops x.2.1 x.2.2 hh ((ah HT).wJ pre) hm (ajA hB (ajA hb0.size hc.size)));have HCh:=aj hc;clear hh hc;gi_wp2_with (gi_at_call 272;refine(CallsIn.inRound l (alM.2 (ah PR))).mono ?_;rintro e w2 ⟨rfl,h2,ch2⟩)
  have hsz:=(ah HCh).size;refine⟨⟨ch2.size,λk o hk hko _=>(ch2.block k (akJ.1 hko).1 (λz=>by have:=hown k z;omega)).trans hko⟩,⟨ch2.size,λk hk=>?_⟩,by rw[Tc];exact h2,(ah HCh).trans ch2⟩;rcases hk with rfl|⟨z,hz,rfl⟩
  ·exact ch2.block _ (by omega) (λy=>by have:=hown _ y;omega)
  ·exact ch2.block _ (by have:=(ah HA z hz).1;omega) (ah HA z hz).2
 case done =>
  rintro D ys W hD hS ⟨hh,hc⟩ hK;have HF:Hid (Has (W.putObj D (.deferred none)) B q F m (zs.reverse.foldl mO es)/\aA F w (W.putObj D (.deferred none))):=aj (by
   obtain⟨x1,x2⟩:=hI ys W (W.putObj D (.deferred none)) (some D) ⟨hh,hc⟩ (grownBy_putObj' W D _) (λr e=>by cases e;exact⟨hD,_,hK,rfl⟩);rw[I4,hS] at x1;exact⟨x1,(aA.of_below hb0).trans x2⟩)
  clear hh hc hS;gi_wp2
  refine⟨by simp,.inl ⟨_,_,rfl,run_takeDeferred hK,?_⟩⟩;exact⟨_,amo rfl _ _ _,rfl,ah HF⟩
 case stop =>
  rintro D c pre W _ _ h _;exact h.elim
end Dk
namespace Dk
variable {l:List mM}{B:Nat}{w w':I}{v:Value}
def Ar (l:List mM)(k:Nat):mM:=l[k]?.getD dP
theorem Og {k:Nat}(h:k<l.length):Ar l k=l[k]:=by unfold Ar;rw[ajC h];rfl
def dV:List mM->List Value
 | []=>[]
 | r::l=>aa r.q::.string r.s::.string r.d::aa r.c::aa r.n::aa r.l::dV l
theorem yT:∀l:List mM,(dV l).length=l.length*6
 | []=>rfl
 | r::l=>by simp[dV,yT l];omega
theorem yU:∀a b:List mM,dV (a++b)=dV a++dV b
 | [],_=>rfl
 | r::a,b=>by simp[dV,yU a b]
theorem Au:∀(l:List mM),∀v∈dV l,v.oneCell'=true
 | [],v,h=>by simp[dV] at h
 | r::l,v,h=>by
  simp only[dV,akb] at h;rcases h with h|h|h|h|h|h|h
  ·subst h;rfl
  ·subst h;rfl
  ·subst h;rfl
  ·subst h;rfl
  ·subst h;rfl
  ·subst h;rfl
  ·exact Au l v h
structure VP (w:I)(b o:Nat)(r:mM):Prop where
 lt:b<w.heap.size
 c0:w.cell? (aq b o)=some (aa r.q)
 c1:w.cell? (aq b (o+1))=some (.string r.s)
 c2:w.cell? (aq b (o+2))=some (.string r.d)
 c3:w.cell? (aq b (o+3))=some (aa r.c)
 c4:w.cell? (aq b (o+4))=some (aa r.n)
 c5:w.cell? (aq b (o+5))=some (aa r.l)
theorem VP.below {b o:Nat}{r:mM}(h:VP w b o r)(hb:Below B w w')(hB:b<B):VP w' b o r :=
 ⟨ajz h.lt hb.size,by rw[hb.cell (p:=aq b o) hB];exact h.c0,by rw[hb.cell (p:=aq b (o+1)) hB];exact h.c1,by rw[hb.cell (p:=aq b (o+2)) hB];exact h.c2,by rw[hb.cell (p:=aq b (o+3)) hB];exact h.c3,by rw[hb.cell (p:=aq b (o+4)) hB];exact h.c4,by rw[hb.cell (p:=aq b (o+5)) hB];exact h.c5⟩
theorem Oh:∀(l:List mM) (k:Nat),k<l.length->(dV l)[k*6]?=some (aa (Ar l k).q)/\(dV l)[k*6+1]?=some (.string (Ar l k).s)/\(dV l)[k*6+2]?=some (.string (Ar l k).d)/\(dV l)[k*6+3]?=some (aa (Ar l k).c)/\(dV l)[k*6+4]?=some (aa (Ar l k).n)/\(dV l)[k*6+5]?=some (aa (Ar l k).l)
 | [],k,h=>absurd h (akh k)
 | r::l,0,_=>⟨rfl,rfl,rfl,rfl,rfl,rfl⟩
 | r::l,k+1,h=>by
  rw[show(k+1)*6=k*6+1+1+1+1+1+1 by omega];have:=Oh l k (by simpa using h);have e:Ar (r::l) (k+1)=Ar l k:=rfl;rw[e];refine⟨?_,?_,?_,?_,?_,?_⟩
  ·simp only[dV,akC];exact this.1
  ·rw[show k*6+1+1+1+1+1+1+1=(k*6+1)+1+1+1+1+1+1 by omega];simp only[dV,akC];exact this.2.1
  ·rw[show k*6+1+1+1+1+1+1+2=(k*6+2)+1+1+1+1+1+1 by omega];simp only[dV,akC];exact this.2.2.1
  ·rw[show k*6+1+1+1+1+1+1+3=(k*6+3)+1+1+1+1+1+1 by omega];simp only[dV,akC];exact this.2.2.2.1
  ·rw[show k*6+1+1+1+1+1+1+4=(k*6+4)+1+1+1+1+1+1 by omega];simp only[dV,akC];exact this.2.2.2.2.1
  ·rw[show k*6+1+1+1+1+1+1+5=(k*6+5)+1+1+1+1+1+1 by omega];simp only[dV,akC];exact this.2.2.2.2.2
theorem af8:(prog.info? 35).map (λi=>(i.zero,i.size,i.bytes))=some (some (.agg #[aa 0,.string ByteArray.empty,.string ByteArray.empty,aa 0,aa 0,aa 0]),6,64):=by kernel_rfl
def fJ (w:I)(B:Nat)(v:Value)(l:List mM):Prop:=w.ownsRow B 35 6 v l.length (dV l)
theorem fJ.empty (w:I)(B:Nat):fJ w B (.slice none 0 0) []:=alu w B _ 6
theorem fJ.aF {A:af}(h:fJ w B v l)(hb:aA A w w')(hn:∀g,v.ownBlock=some g->¬A g):fJ w' B v l:=by
 refine⟨h.1,?_⟩;rcases h.2 with q|⟨g,cap,cur,h1,h2,h3,r⟩
 ·exact .inl q
 ·refine .inr ⟨g,cap,cur,h1,h2,?_,r⟩;rw[hb.block g (h.lt g (by rw[h1];rfl)).2 (hn g (by rw[h1];rfl))];exact h3
theorem fJ.below (h:fJ w B v l)(hb:ai w w'):fJ w' B v l:=h.aF (A:=λ_=>False) (aA.of_below hb) (λ_ _ z=>z)
def XM (w:I)(a:Option Addr)(l:List mM):Prop:=∀k,k<l.length->∃b o,a=some ⟨b,o,none⟩/\VP w b (o+k*6) (Ar l k)
theorem XM.below {w w':I}{a:Option Addr}{l:List mM}(h:XM w a l)(hb:ai w w'):XM w' a l:=λk hk=>by
 obtain⟨b,o,h1,h2⟩:=h k hk;exact⟨b,o,h1,h2.below hb h2.lt⟩
theorem fJ.shape (h:fJ w B v l):∃a cap,v=.slice a l.length cap/\l.length<=cap/\cap<=maxLen/\XM w a l:=by
 rcases h.2 with ⟨h1,h2⟩|⟨g,cap,cur,h1,h2,h3,h4,h5,h6,h7⟩
 ·exact⟨none,0,by rw[h1,h2],by omega,by simp[maxLen],λk hk=>by omega⟩
 ·refine⟨_,cap,h1,h4,h5,λk hk=>⟨g,0,rfl,?_⟩⟩;have hl:=(h.lt g (by rw[h1];rfl)).2;have hat:=Oh l k hk;rw[h1] at h;refine⟨hl,?_,?_,?_,?_,?_,?_⟩
  ·rw[ake h (0+k*6) (by omega),ajT];exact hat.1
  ·rw[ake h (0+k*6+1) (by omega),ajT];exact hat.2.1
  ·rw[ake h (0+k*6+2) (by omega),ajT];exact hat.2.2.1
  ·rw[ake h (0+k*6+3) (by omega),ajT];exact hat.2.2.2.1
  ·rw[ake h (0+k*6+4) (by omega),ajT];exact hat.2.2.2.2.1
  ·rw[ake h (0+k*6+5) (by omega),ajT];exact hat.2.2.2.2.2
theorem aaR (w:I)(r:mM):∀j u,(dV [r])[j]?=some u->(w.alloc (.cells #[aa r.q,.string r.s,.string r.d,aa r.c,aa r.n,aa r.l] 35)).cell? ((⟨w.heap.size,0,none⟩:Addr).add j)=some u:=by
 intro j u hj;rw[alg,ajT,aky _ w.heap.size j _ _ _ (akv w _)];simpa[dV] using hj
theorem I5 (w:I)(B:Nat)(ty:TypeId)(v:Value)(l fs:List mM)(ha:fJ w B v l)(a:Addr)(c:Nat)(hnews:∀j u,(dV fs)[j]?=some u->w.cell? (a.add j)=some u)(hl:l.length+fs.length<=1000000)(hB:B<=w.heap.size) :
 ∃v' w',(Builtin.append_ #[54,54] ty #[v,.slice (some a) fs.length c]).run prog w=.ok v' w'/\fJ w' B v' (l++fs)/\aA (λk=>v.ownBlock=some k) w w'/\∀g,v'.ownBlock=some g->v.ownBlock=some g\/w.heap.size<=g:=by
 obtain⟨i0,hi,hz0,hz1,hz2⟩:=alq af8;have hlen:(dV fs).length=fs.length*6:=yT fs;obtain⟨v',w',hr,h2,h3,h4⟩:=amj (P:=prog) w B 54 ty 35 i0 _ 6 64 underlying54 hi hz0 hz1 hz2 rfl (by omega) v l.length (dV l) ha a fs.length c (dV fs) hlen hnews (Au fs) (by unfold maxLen;omega) (by omega) hB;refine⟨v',w',hr,?_,aA.bC h3,λk hk=>?_⟩
 ·unfold fJ;rw[ajB,yU];exact h2
 ·rcases ha.2 with ⟨rfl,hn⟩|⟨g,cap,cur,rfl,hbg,hg,hnc,hcm,hcs,htake⟩
  ·by_cases hm:fs.length=0
   ·rw[h4.2 ⟨rfl,hm⟩] at hk;cases hk
   ·right;have hr2:=amY (P:=prog) w 54 ty 35 i0 _ underlying54 hi hz0 a fs.length c (dV fs) (by rw[hz1];exact hlen) hnews (by omega) (by omega) (by rw[hz2];omega);rw[hr] at hr2
    cases hr2
    simp only[Value.ownBlock,akB] at hk;omega
  ·by_cases hroom:l.length+fs.length<=cap
   ·left;obtain⟨w2,hr2,_,_⟩:=amR (P:=prog) w B 54 ty 35 i0 6 underlying54 hi hz1 g l.length cap (dV l) ha a fs.length c (dV fs) hlen hnews (Au fs) hroom;rw[hr] at hr2
    cases hr2
    exact hk
   ·right;have hr2:=amS (P:=prog) w 54 ty 35 i0 _ underlying54 hi hz0 ⟨g,0,none⟩ l.length cap (dV l) (by rw[hz1];exact ha.1) (alA ha (g:=g) rfl) a fs.length c (dV fs) (by rw[hz1];exact hlen) hnews (by omega) (by omega) (by rw[hz2];exact amu (by omega) (by omega));rw[hr] at hr2
    cases hr2
    simp only[Value.ownBlock,akB] at hk;omega
