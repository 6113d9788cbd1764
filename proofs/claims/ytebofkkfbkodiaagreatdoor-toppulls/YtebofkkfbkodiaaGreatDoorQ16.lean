/- A part. -/
import Derived.Test.YtebofkkfbkodiaaGreatDoorQ14
import Derived.LoopIn
import Derived.LoopNIn
import Derived.OwnWalkIn
import Derived.RangeFuncBound
import Derived.RangeFuncNested
import Derived.Shelf.RegionOpen
set_option maxRecDepth 100000
set_option maxHeartbeats 8000000
namespace Go.Proofs.YtebofkkfbkodiaaGreatDoor
open Go.RowKit Go.Shelf Go.Proofs.Tryz
namespace Dk
variable {Cs:af}{w w':I}
attribute [local go_sem] Oper.semAt_some
abbrev Sm:={r:Rc // Small r}
def encR (x:Int×Sm):Array Value:=#[aa x.1,.agg #[aa x.2.1.k,aa x.2.1.q,aa x.2.1.t,.string x.2.1.s,.string x.2.1.h,.string x.2.1.d]]
def gZ (Cs:af)(w w':I):Prop:=w.heap.size<=w'.heap.size/\∀k,Cs k->w'.heap[k]?=w.heap[k]?
theorem gZ.refl (Cs:af)(w:I):gZ Cs w w:=⟨agH _,λ_ _=>rfl⟩
theorem gZ.trans {Cs:af}{a b c:I}(h:gZ Cs a b)(k:gZ Cs b c):gZ Cs a c:=⟨ajA h.1 k.1,λi hi=>(k.2 i hi).trans (h.2 i hi)⟩
theorem gZ.cell {Cs:af}{w w':I}(h:gZ Cs w w'){C j:Nat}(hC:Cs C):w'.cell? (aq C j)=w.cell? (aq C j):=alU (w:=w) (h.2 C hC)
theorem gZ.six (h:gZ Cs w w'){b o:Nat}{r:Rc}(hC:Cs b)(s:Six w b o r):Six w' b o r :=
 ⟨ajz s.lt h.1,(h.cell hC).trans s.c0,(h.cell hC).trans s.c1,(h.cell hC).trans s.c2,(h.cell hC).trans s.c3,(h.cell hC).trans s.c4,(h.cell hC).trans s.c5⟩
theorem gZ.recs (h:gZ Cs w w'){a:Option Addr}{l:List Rc}(s:H6 w a l)(hC:∀z,a=some z->Cs z.block):H6 w' a l:=λk hk=>by
 obtain⟨b,o,e,s6⟩:=s k hk;exact⟨b,o,e,h.six (hC _ e) s6⟩
theorem gZ.put (hC:∀k,Cs k->k<w.heap.size)(W:I)(l:Nat)(o o':Obj)(hl:w.heap.size<=l)(h:W.heap[l]?=some o):gZ Cs W (W.putObj l o'):=by
 have hlt:=(akJ.1 h).1;have hg:=grownBy_putObj' W l o';exact⟨hg.size,λk hk=>by
  have:=hC k hk;exact hg.block k (by omega) (λe=>by have:=ajU e;omega)⟩
def Jm (zs:List Rc)(pre:List (Int×Sm)):Prop:=∃t,zs=pre.map (λx=>x.2.1)++t
theorem abw (F:Fence)(n:Nat)(hf:F.fn 208)(hro:F.round=none)(hn:1<=n)(l Bs:Nat)(Cs:af)(a:Option Addr)(zs:List Rc)(cap:Nat)(hz:∀k,k<zs.length->Small (rc zs k))(hlen:zs.length<=1000)(hCB:Cs Bs)(Oc:∀z,a=some z->Cs z.block)(J Jx:List (Int×Sm)->I->Prop)
 (hY:∀pre x W,J pre W->pre.length<zs.length->YieldAt F (n-1) prog l (encR x) W λe W' =>
  (e=.returned (.bool true)/\J (pre++[x]) W'/\gZ Cs W W')\/(e=.returned (.bool false)/\Jx (pre++[x]) W'))
 (W:I) (hBs:W.cell? (aq Bs 0)=some (.slice a zs.length cap)) (hc:H6 W a zs) (h0:J [] W) :
 CallsIn F n prog 208 #[.func (.yield l) #[] #[],ae Bs] W λe W'=>(∃v,e=.returned v) /\
  ((∃ys:List (Int×Sm),ys.map (λx=>x.2.1)=zs.reverse/\J ys W')\/(∃pre:List (Int×Sm),Jm zs.reverse pre/\Jx pre W')):=by
 have HZ:=aj hz;have HY:=aj hY;have HCa:=aj Oc;have HW:=aj (And.intro hBs hc);clear hz hY Oc hc;refine amA func208 rfl hf ?_ hro;simp only[ntmps208,alm,ajX,alG,Nat.reduceAdd,Nat.reduceSub,alo,alp,alD,als,akD,akx];have hw0:IntKind.i64.wrap ((zs.length:Int)-1)=(zs.length:Int)-1:=by rw[akl];omega
 gi_wp2
 gi_loopw [3] (λiv wr=>∃(k:Nat) (j:Int) (pre:List (Int×Sm)),iv=aa j/\Hid (j=(k:Int)-1)/\k<=zs.length/\Hid (pre.map (λx=>x.2.1)=(zs.drop k).reverse/\pre.length+k=zs.length)/\Hid (J pre wr)/\Hid (gZ Cs W wr)) (λiv _=>(intOf iv+1).toNat)
 case atStart=>exact⟨zs.length,_,[],rfl,aj (by first|rfl|exact hw0),agH _,aj ⟨by simp,by simp⟩,aj h0,aj (gZ.refl _ _)⟩
 case round =>
  obtain⟨k,j,pre,rfl,hj,hk,HP,HJ,HK⟩:=hrel;have hbs:=((ah HK).cell (C:=Bs) (j:=0) hCB).trans hBs;by_cases hk0:0<k
  ·obtain⟨i,rfl⟩:∃i,k=i+1:=⟨k-1,by omega⟩;obtain rfl:j=(i:Int):=by have:=ah hj;omega
   have hi:i<zs.length:=by omega
   have hi0:(0:Int)<=(i:Int):=by omega
   obtain⟨b,o,rfl,s6⟩:=((ah HK).recs (ah HW).2 (ah HCa)) i hi;obtain⟨fn,tmps,assign,body,hy,hR⟩:=ah HY pre ((i:Int),⟨rc zs i,ah HZ i hi⟩) wr (ah HJ) (by have:=(ah HP).2;omega);unfold encR at hy;dsimp only at hy;have HP2:Hid ((pre++[((i:Int),(⟨rc zs i,ah HZ i hi⟩:Sm))]).map (λx=>x.2.1)=(zs.drop i).reverse/\(pre++[((i:Int),(⟨rc zs i,ah HZ i hi⟩:Sm))]).length+i=zs.length):=aj ⟨by
    rw[akt,(ah HP).1,ajW hi,List.reverse_cons];show _++[rc zs i]=_;rw[bU hi],by have:=(ah HP).2;simp;omega⟩
   have hw1:IntKind.i64.wrap ((i:Int)-1)=(i:Int)-1:=by rw[akl];omega
   obtain⟨_,x0,x1,x2,x3,x4,x5⟩:=s6;clear HP HJ hj hk0;gi_wp2
   refine hR.mono ?_;rintro e W3 (⟨rfl,hJ3,hk3⟩|⟨rfl,hJx3⟩)
   ·have J3:=aj hJ3;have K3:=aj ((ah HK).trans hk3);clear hJ3 hk3 hR hy x0 x1 x2 x3 x4 x5 hbs HK;gi_wp2
    go_roundw
    case rel=>exact⟨i,_,_,rfl,aj (by first|rfl|exact hw1),by omega,HP2,J3,K3⟩
    case measure=>first|(simp[intOf];done)|(simp[intOf];omega)
   ·have J3:=aj hJx3;clear hJx3 hR hy x0 x1 x2 x3 x4 x5 hbs HK;gi_wp2
    refine ajY (amo rfl _ _ _) rfl ?_;refine⟨⟨_,rfl⟩,.inr ⟨_,⟨(zs.take i).reverse,?_⟩,ah J3⟩⟩;rw[(ah HP2).1,<-List.reverse_append,akm]
  ·obtain rfl:k=0:=by omega
   obtain rfl:j=-1:=by have:=ah hj;omega
   gi_wp2
   go_end0
   exact⟨⟨_,rfl⟩,.inl ⟨_,by rw[(ah HP).1];rfl,ah HJ⟩⟩
theorem aeE (F:Fence)(n:Nat)(hf:F.fn 201)(hro:F.round=none)(hn:1<=n)(l Bs:Nat)(Cs:af)(a:Option Addr)(zs:List Rc)(cap:Nat)(hz:∀k,k<zs.length->Small (rc zs k))(hlen:zs.length<=1000)(Oc:∀z,a=some z->Cs z.block)(J Jx:List (Int×Sm)->I->Prop)(hJa:∀pre X o,J pre X->J pre (X.alloc o))
 (hY:∀pre x W,J pre W->pre.length<zs.length->YieldAt F (n-1) prog l (encR x) W λe W' =>
  (e=.returned (.bool true)/\J (pre++[x]) W'/\gZ Cs W W')\/(e=.returned (.bool false)/\Jx (pre++[x]) W'))
 (W:I) (hC:∀k,Cs k->k<W.heap.size) (hBs:W.cell? (aq Bs 0)=some (.slice a zs.length cap)) (hc:H6 W a zs) (h0:J [] W) :
 CallsIn F n prog 201 #[.func (.yield l) #[] #[],ae Bs] W λe W'=>(∃v,e=.returned v) /\
  ((∃ys:List (Int×Sm),ys.map (λx=>x.2.1)=zs/\J ys W')\/(∃pre:List (Int×Sm),Jm zs pre/\Jx pre W')):=by
 have HZ:=aj hz;have HY:=aj hY;have HCa:=aj Oc;have HW:=aj (And.intro hBs hc);clear hz hY Oc hc;refine amA func201 rfl hf ?_ hro;simp only[ntmps201,alm,ajX,alG,Nat.reduceAdd,Nat.reduceSub,alo,alp,alD,als,akD,akx];gi_wp2
 gi_loopw [7] (λiv wr=>∃(k:Nat) (pre:List (Int×Sm)),iv=aa k/\k<=zs.length/\Hid (pre.map (λx=>x.2.1)=zs.take k/\pre.length=k)/\Hid (J pre wr)/\Hid (gZ Cs W wr)) (λiv _=>zs.length-(intOf iv).toNat)
 case atStart=>exact⟨0,[],rfl,ajO _,aj ⟨by simp,by simp⟩,aj h0,aj (gZ.refl _ _)⟩
 case round =>
  obtain⟨k,pre,rfl,hk,HP,HJ,HK⟩:=hrel;by_cases hi:k<zs.length
  ·obtain⟨b,o,rfl,s6⟩:=((ah HK).recs (ah HW).2 (ah HCa)) k hi;have hba:gZ Cs wr (wr.alloc (.cells #[aa (rc zs k).k,aa (rc zs k).q,aa (rc zs k).t,.string (rc zs k).s,.string (rc zs k).h,.string (rc zs k).d] 46)):=⟨by simp,λi hi=>Below.heap_alloc _ _ _ (by have:=hC i hi;have:=(ah HK).1;omega)⟩;obtain⟨fn,tmps,assign,body,hy,hR⟩:=ah HY pre ((k:Int),⟨rc zs k,ah HZ k hi⟩) (wr.alloc (.cells #[aa (rc zs k).k,aa (rc zs k).q,aa (rc zs k).t,.string (rc zs k).s,.string (rc zs k).h,.string (rc zs k).d] 46)) (hJa pre wr (.cells #[aa (rc zs k).k,aa (rc zs k).q,aa (rc zs k).t,.string (rc zs k).s,.string (rc zs k).h,.string (rc zs k).d] 46) (ah HJ)) (by have:=(ah HP).2;omega)
   unfold encR at hy;dsimp only at hy;have HP2:Hid ((pre++[((k:Int),(⟨rc zs k,ah HZ k hi⟩:Sm))]).map (λx=>x.2.1)=zs.take (k+1)/\(pre++[((k:Int),(⟨rc zs k,ah HZ k hi⟩:Sm))]).length=k+1):=aj ⟨by
    rw[akt,(ah HP).1,akc hi];show _++[rc zs k]=_;rw[bU hi],by have:=(ah HP).2;simp;omega⟩
   obtain⟨_,x0,x1,x2,x3,x4,x5⟩:=s6;have yP:=aj ((ah HK).trans hba);clear HP HJ hba HK;gi_wp2
   refine hR.mono ?_;rintro e W3 (⟨rfl,hJ3,hk3⟩|⟨rfl,hJx3⟩)
   ·have J3:=aj hJ3;have K3:=aj ((ah yP).trans hk3);clear hJ3 hk3 hR hy x0 x1 x2 x3 x4 x5 yP;gi_wp2
    go_roundw
    case rel=>exact⟨k+1,_,by go_num,by omega,HP2,J3,K3⟩
    case measure=>first|(simp[intOf];done)|(simp[intOf];omega)
   ·have J3:=aj hJx3;clear hJx3 hR hy x0 x1 x2 x3 x4 x5 yP;gi_wp2
    refine ajY (amo rfl _ _ _) rfl ?_;refine⟨⟨_,rfl⟩,.inr ⟨_,⟨zs.drop (k+1),?_⟩,ah J3⟩⟩;rw[(ah HP2).1,akm]
  ·obtain rfl:k=zs.length:=by omega
   gi_wp2
   go_end0
   exact⟨⟨_,rfl⟩,.inl ⟨_,by rw[(ah HP).1,akT],ah HJ⟩⟩
theorem rG {W:I}(hW:ai w W)(hC:∀k,Cs k->k<w.heap.size):gZ Cs w W:=⟨hW.size,λk hk=>hW.block k (hC k hk)⟩
theorem O7 (F:Fence)(n:Nat)(hf:F.fn 208)(hro:F.round=none)(hn:1<=n)(Bs:Nat)(Cs:af)(a:Option Addr)(zs:List Rc)(cap:Nat)(hz:∀k,k<zs.length->Small (rc zs k))(hlen:zs.length<=1000)(hCB:Cs Bs)(Oc:∀z,a=some z->Cs z.block)(w:I)(hC:∀k,Cs k->k<w.heap.size)
 (hBs:w.cell? (aq Bs 0)=some (.slice a zs.length cap)) (hc:H6 w a zs) :
 SeqStopsK F n prog 208 #[ae Bs] encR (gZ Cs) (λys=>ys.map (λx=>x.2.1)=zs.reverse) (Jm zs.reverse) zs.length w:=λl J Jx W hW _ _ hY h0=>by
 have hk:=rG hW hC;exact abw F n hf hro hn l Bs Cs a zs cap hz hlen hCB Oc J Jx hY W ((hk.cell hCB).trans hBs) (hk.recs hc Oc) h0
theorem TU (F:Fence)(n:Nat)(hf:F.fn 201)(hro:F.round=none)(hn:1<=n)(Bs:Nat)(Cs:af)(a:Option Addr)(zs:List Rc)(cap:Nat)(hz:∀k,k<zs.length->Small (rc zs k))(hlen:zs.length<=1000)(hCB:Cs Bs)(Oc:∀z,a=some z->Cs z.block)(w:I)(hC:∀k,Cs k->k<w.heap.size)
 (hBs:w.cell? (aq Bs 0)=some (.slice a zs.length cap)) (hc:H6 w a zs) :
 SeqStopsK F n prog 201 #[ae Bs] encR (gZ Cs) (λys=>ys.map (λx=>x.2.1)=zs) (Jm zs) zs.length w:=λl J Jx W hW hJ _ hY h0=>by
 have hk:=rG hW hC;exact aeE F n hf hro hn l Bs Cs a zs cap hz hlen Oc J Jx (λpre X o hX=>hJ pre X _ none hX (World.grownBy_alloc X o none) (λr e=>by cases e)) hY W (λk hk'=>ajz (hC k hk') hW.size) ((hk.cell hCB).trans hBs) (hk.recs hc Oc) h0
