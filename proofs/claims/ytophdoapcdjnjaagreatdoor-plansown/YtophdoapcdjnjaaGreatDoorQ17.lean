/- A part. -/
import Derived.Test.YtophdoapcdjnjaaGreatDoorQ11
import Derived.LoopIn
import Derived.LoopNIn
import Derived.OwnWalkIn
import Derived.RangeFuncBound
import Derived.RangeFuncNested
import Derived.Shelf.RegionOpen
set_option maxRecDepth 100000
set_option maxHeartbeats 8000000
namespace Go.Proofs.YtophdoapcdjnjaaGreatDoor
open Go.RowKit Go.Shelf Go.Proofs.Tryz
namespace Dk
attribute [local go_sem] Oper.semAt_some
abbrev Sm:={r:Rc // Small r}
def encR (x:Int×Sm):Array Value:=#[.int .i64 x.1,.agg #[.int .i64 x.2.1.k,.int .i64 x.2.1.q,.int .i64 x.2.1.t,.string x.2.1.s,.string x.2.1.h,.string x.2.1.d]]
def eP (Cs:Nat->Prop)(w w':World):Prop:=w.heap.size<=w'.heap.size/\∀k,Cs k->w'.heap[k]?=w.heap[k]?
theorem eP.refl (Cs:Nat->Prop)(w:World):eP Cs w w:=⟨Nat.le_refl _,λ_ _=>rfl⟩
theorem eP.trans {Cs:Nat->Prop}{a b c:World}(h:eP Cs a b)(k:eP Cs b c):eP Cs a c:=⟨Nat.le_trans h.1 k.1,λi hi=>(k.2 i hi).trans (h.2 i hi)⟩
theorem eP.cell {Cs:Nat->Prop}{w w':World}(h:eP Cs w w'){C j:Nat}(hC:Cs C):w'.cell? ⟨C,j,none⟩=w.cell? ⟨C,j,none⟩:=World.cell?_of_block (w:=w) (h.2 C hC)
theorem eP.six {Cs:Nat->Prop}{w w':World}(h:eP Cs w w'){b o:Nat}{r:Rc}(hC:Cs b)(s:Six w b o r):Six w' b o r :=
 ⟨Nat.lt_of_lt_of_le s.lt h.1,(h.cell hC).trans s.c0,(h.cell hC).trans s.c1,(h.cell hC).trans s.c2,(h.cell hC).trans s.c3,(h.cell hC).trans s.c4,(h.cell hC).trans s.c5⟩
theorem eP.recs {Cs:Nat->Prop}{w w':World}(h:eP Cs w w'){a:Option Addr}{l:List Rc}(s:Dl w a l)(hC:∀z,a=some z->Cs z.block):Dl w' a l:=λk hk=>by
 obtain⟨b,o,e,s6⟩:=s k hk;exact⟨b,o,e,h.six (hC _ e) s6⟩
theorem eP.put {Cs:Nat->Prop}{w:World}(hC:∀k,Cs k->k<w.heap.size)(W:World)(l:Nat)(o o':Obj)(hl:w.heap.size<=l)(h:W.heap[l]?=some o):eP Cs W (W.putObj l o'):=by
 have hlt:=(Array.getElem?_eq_some_iff.1 h).1;have hg:=grownBy_putObj' W l o';exact⟨hg.size,λk hk=>by
  have:=hC k hk;exact hg.block k (by omega) (λe=>by have:=Option.some.inj e;omega)⟩
def Ae (zs:List Rc)(pre:List (Int×Sm)):Prop:=∃t,zs=pre.map (λx=>x.2.1)++t
theorem Qu (F:Fence)(n:Nat)(hf:F.fn 118)(hro:F.round=none)(hn:1<=n)(l Bs:Nat)(Cs:Nat->Prop)(a:Option Addr)(zs:List Rc)(cap:Nat)(hz:∀k,k<zs.length->Small (rc zs k))(hlen:zs.length<=1000)(Xl:Cs Bs)(Qv:∀z,a=some z->Cs z.block)(J Jx:List (Int×Sm)->World->Prop)
 (hY:∀pre x W,J pre W->pre.length<zs.length->YieldAt F (n-1) prog l (encR x) W λe W' =>
  (e=.returned (.bool true)/\J (pre++[x]) W'/\eP Cs W W')\/(e=.returned (.bool false)/\Jx (pre++[x]) W'))
 (W:World) (hBs:W.cell? ⟨Bs,0,none⟩=some (.slice a zs.length cap)) (hc:Dl W a zs) (h0:J [] W) :
 CallsIn F n prog 118 #[.func (.yield l) #[] #[],.pointer (some ⟨Bs,0,none⟩)] W λe W'=>(∃v,e=.returned v) /\
  ((∃ys:List (Int×Sm),ys.map (λx=>x.2.1)=zs.reverse/\J ys W')\/(∃pre:List (Int×Sm),Ae zs.reverse pre/\Jx pre W')):=by
 have HZ:=aj hz;have HY:=aj hY;have ZN:=aj Qv;have HW:=aj (And.intro hBs hc);clear hz hY Qv hc;refine callsIn_of_wp func118 rfl hf ?_ hro;simp only[ntmps118,List.size_toArray,List.length_cons,List.length_nil,Nat.reduceAdd,Nat.reduceSub,Array.replicate_succ,Array.replicate_zero,List.push_toArray,List.append_toArray,List.nil_append,List.cons_append];have hw0:IntKind.i64.wrap ((zs.length:Int)-1)=(zs.length:Int)-1:=by rw[IntKind.wrap_i64];omega
 gi_wp2
 gi_loopw [3] (λiv wr=>∃(k:Nat) (j:Int) (pre:List (Int×Sm)),iv=.int .i64 j/\Hid (j=(k:Int)-1)/\k<=zs.length/\Hid (pre.map (λx=>x.2.1)=(zs.drop k).reverse/\pre.length+k=zs.length)/\Hid (J pre wr)/\Hid (eP Cs W wr)) (λiv _=>(intOf iv+1).toNat)
 case atStart=>exact⟨zs.length,_,[],rfl,aj (by first|rfl|exact hw0),Nat.le_refl _,aj ⟨by simp,by simp⟩,aj h0,aj (eP.refl _ _)⟩
 case round =>
  obtain⟨k,j,pre,rfl,hj,hk,HP,HJ,HK⟩:=hrel;have hbs:=((ah HK).cell (C:=Bs) (j:=0) Xl).trans hBs;by_cases hk0:0<k
  ·obtain⟨i,rfl⟩:∃i,k=i+1:=⟨k-1,by omega⟩;obtain rfl:j=(i:Int):=by have:=ah hj;omega
   have hi:i<zs.length:=by omega
   have hi0:(0:Int)<=(i:Int):=by omega
   obtain⟨b,o,rfl,s6⟩:=((ah HK).recs (ah HW).2 (ah ZN)) i hi;obtain⟨fn,tmps,assign,body,hy,hR⟩:=ah HY pre ((i:Int),⟨rc zs i,ah HZ i hi⟩) wr (ah HJ) (by have:=(ah HP).2;omega);unfold encR at hy;dsimp only at hy;have HP2:Hid ((pre++[((i:Int),(⟨rc zs i,ah HZ i hi⟩:Sm))]).map (λx=>x.2.1)=(zs.drop i).reverse/\(pre++[((i:Int),(⟨rc zs i,ah HZ i hi⟩:Sm))]).length+i=zs.length):=aj ⟨by
    rw[List.map_append,(ah HP).1,List.drop_eq_getElem_cons hi,List.reverse_cons];show _++[rc zs i]=_;rw[dU hi],by have:=(ah HP).2;simp;omega⟩
   have hw1:IntKind.i64.wrap ((i:Int)-1)=(i:Int)-1:=by rw[IntKind.wrap_i64];omega
   obtain⟨_,x0,x1,x2,x3,x4,x5⟩:=s6;clear HP HJ hj hk0;gi_wp2
   refine hR.mono ?_;rintro e W3 (⟨rfl,hJ3,hk3⟩|⟨rfl,hJx3⟩)
   ·have J3:=aj hJ3;have K3:=aj ((ah HK).trans hk3);clear hJ3 hk3 hR hy x0 x1 x2 x3 x4 x5 hbs HK;gi_wp2
    go_roundw
    case rel=>exact⟨i,_,_,rfl,aj (by first|rfl|exact hw1),by omega,HP2,J3,K3⟩
    case measure=>first|(simp[intOf];done)|(simp[intOf];omega)
   ·have J3:=aj hJx3;clear hJx3 hR hy x0 x1 x2 x3 x4 x5 hbs HK;gi_wp2
    refine bodyPost_ret (results_none rfl _ _ _) rfl ?_;refine⟨⟨_,rfl⟩,.inr ⟨_,⟨(zs.take i).reverse,?_⟩,ah J3⟩⟩;rw[(ah HP2).1,<-List.reverse_append,List.take_append_drop]
  ·obtain rfl:k=0:=by omega
   obtain rfl:j=-1:=by have:=ah hj;omega
   gi_wp2
   go_end0
   exact⟨⟨_,rfl⟩,.inl ⟨_,by rw[(ah HP).1];rfl,ah HJ⟩⟩
theorem Ug (F:Fence)(n:Nat)(hf:F.fn 120)(hro:F.round=none)(hn:1<=n)(l Bs:Nat)(Cs:Nat->Prop)(a:Option Addr)(zs:List Rc)(cap:Nat)(hz:∀k,k<zs.length->Small (rc zs k))(hlen:zs.length<=1000)(Qv:∀z,a=some z->Cs z.block)(J Jx:List (Int×Sm)->World->Prop)(hJa:∀pre X o,J pre X->J pre (X.alloc o))
 (hY:∀pre x W,J pre W->pre.length<zs.length->YieldAt F (n-1) prog l (encR x) W λe W' =>
  (e=.returned (.bool true)/\J (pre++[x]) W'/\eP Cs W W')\/(e=.returned (.bool false)/\Jx (pre++[x]) W'))
 (W:World) (hC:∀k,Cs k->k<W.heap.size) (hBs:W.cell? ⟨Bs,0,none⟩=some (.slice a zs.length cap)) (hc:Dl W a zs) (h0:J [] W) :
 CallsIn F n prog 120 #[.func (.yield l) #[] #[],.pointer (some ⟨Bs,0,none⟩)] W λe W'=>(∃v,e=.returned v) /\
  ((∃ys:List (Int×Sm),ys.map (λx=>x.2.1)=zs/\J ys W')\/(∃pre:List (Int×Sm),Ae zs pre/\Jx pre W')):=by
 have HZ:=aj hz;have HY:=aj hY;have ZN:=aj Qv;have HW:=aj (And.intro hBs hc);clear hz hY Qv hc;refine callsIn_of_wp func120 rfl hf ?_ hro;simp only[ntmps120,List.size_toArray,List.length_cons,List.length_nil,Nat.reduceAdd,Nat.reduceSub,Array.replicate_succ,Array.replicate_zero,List.push_toArray,List.append_toArray,List.nil_append,List.cons_append];gi_wp2
 gi_loopw [7] (λiv wr=>∃(k:Nat) (pre:List (Int×Sm)),iv=.int .i64 k/\k<=zs.length/\Hid (pre.map (λx=>x.2.1)=zs.take k/\pre.length=k)/\Hid (J pre wr)/\Hid (eP Cs W wr)) (λiv _=>zs.length-(intOf iv).toNat)
 case atStart=>exact⟨0,[],rfl,Nat.zero_le _,aj ⟨by simp,by simp⟩,aj h0,aj (eP.refl _ _)⟩
 case round =>
  obtain⟨k,pre,rfl,hk,HP,HJ,HK⟩:=hrel;by_cases hi:k<zs.length
  ·obtain⟨b,o,rfl,s6⟩:=((ah HK).recs (ah HW).2 (ah ZN)) k hi;have hba:eP Cs wr (wr.alloc (.cells #[.int .i64 (rc zs k).k,.int .i64 (rc zs k).q,.int .i64 (rc zs k).t,.string (rc zs k).s,.string (rc zs k).h,.string (rc zs k).d] 45)):=⟨by simp,λi hi=>Below.heap_alloc _ _ _ (by have:=hC i hi;have:=(ah HK).1;omega)⟩;obtain⟨fn,tmps,assign,body,hy,hR⟩:=ah HY pre ((k:Int),⟨rc zs k,ah HZ k hi⟩) (wr.alloc (.cells #[.int .i64 (rc zs k).k,.int .i64 (rc zs k).q,.int .i64 (rc zs k).t,.string (rc zs k).s,.string (rc zs k).h,.string (rc zs k).d] 45)) (hJa pre wr (.cells #[.int .i64 (rc zs k).k,.int .i64 (rc zs k).q,.int .i64 (rc zs k).t,.string (rc zs k).s,.string (rc zs k).h,.string (rc zs k).d] 45) (ah HJ)) (by have:=(ah HP).2;omega)
   unfold encR at hy;dsimp only at hy;have HP2:Hid ((pre++[((k:Int),(⟨rc zs k,ah HZ k hi⟩:Sm))]).map (λx=>x.2.1)=zs.take (k+1)/\(pre++[((k:Int),(⟨rc zs k,ah HZ k hi⟩:Sm))]).length=k+1):=aj ⟨by
    rw[List.map_append,(ah HP).1,List.take_succ_eq_append_getElem hi];show _++[rc zs k]=_;rw[dU hi],by have:=(ah HP).2;simp;omega⟩
   obtain⟨_,x0,x1,x2,x3,x4,x5⟩:=s6;have TD:=aj ((ah HK).trans hba);clear HP HJ hba HK;gi_wp2
   refine hR.mono ?_;rintro e W3 (⟨rfl,hJ3,hk3⟩|⟨rfl,hJx3⟩)
   ·have J3:=aj hJ3;have K3:=aj ((ah TD).trans hk3);clear hJ3 hk3 hR hy x0 x1 x2 x3 x4 x5 TD;gi_wp2
    go_roundw
    case rel=>exact⟨k+1,_,by go_num,by omega,HP2,J3,K3⟩
    case measure=>first|(simp[intOf];done)|(simp[intOf];omega)
   ·have J3:=aj hJx3;clear hJx3 hR hy x0 x1 x2 x3 x4 x5 TD;gi_wp2
    refine bodyPost_ret (results_none rfl _ _ _) rfl ?_;refine⟨⟨_,rfl⟩,.inr ⟨_,⟨zs.drop (k+1),?_⟩,ah J3⟩⟩;rw[(ah HP2).1,List.take_append_drop]
  ·obtain rfl:k=zs.length:=by omega
   gi_wp2
   go_end0
   exact⟨⟨_,rfl⟩,.inl ⟨_,by rw[(ah HP).1,List.take_length],ah HJ⟩⟩
theorem mO {w W:World}{Cs:Nat->Prop}(hW:Below w.heap.size w W)(hC:∀k,Cs k->k<w.heap.size):eP Cs w W:=⟨hW.size,λk hk=>hW.block k (hC k hk)⟩
theorem Fj (F:Fence)(n:Nat)(hf:F.fn 118)(hro:F.round=none)(hn:1<=n)(Bs:Nat)(Cs:Nat->Prop)(a:Option Addr)(zs:List Rc)(cap:Nat)(hz:∀k,k<zs.length->Small (rc zs k))(hlen:zs.length<=1000)(Xl:Cs Bs)(Qv:∀z,a=some z->Cs z.block)(w:World)(hC:∀k,Cs k->k<w.heap.size)
 (hBs:w.cell? ⟨Bs,0,none⟩=some (.slice a zs.length cap)) (hc:Dl w a zs) :
 SeqStopsK F n prog 118 #[.pointer (some ⟨Bs,0,none⟩)] encR (eP Cs) (λys=>ys.map (λx=>x.2.1)=zs.reverse) (Ae zs.reverse) zs.length w:=λl J Jx W hW _ _ hY h0=>by
 have hk:=mO hW hC;exact Qu F n hf hro hn l Bs Cs a zs cap hz hlen Xl Qv J Jx hY W ((hk.cell Xl).trans hBs) (hk.recs hc Qv) h0
theorem Hw (F:Fence)(n:Nat)(hf:F.fn 120)(hro:F.round=none)(hn:1<=n)(Bs:Nat)(Cs:Nat->Prop)(a:Option Addr)(zs:List Rc)(cap:Nat)(hz:∀k,k<zs.length->Small (rc zs k))(hlen:zs.length<=1000)(Xl:Cs Bs)(Qv:∀z,a=some z->Cs z.block)(w:World)(hC:∀k,Cs k->k<w.heap.size)
 (hBs:w.cell? ⟨Bs,0,none⟩=some (.slice a zs.length cap)) (hc:Dl w a zs) :
 SeqStopsK F n prog 120 #[.pointer (some ⟨Bs,0,none⟩)] encR (eP Cs) (λys=>ys.map (λx=>x.2.1)=zs) (Ae zs) zs.length w:=λl J Jx W hW hJ _ hY h0=>by
 have hk:=mO hW hC;exact Ug F n hf hro hn l Bs Cs a zs cap hz hlen Qv J Jx (λpre X o hX=>hJ pre X _ none hX (World.grownBy_alloc X o none) (λr e=>by cases e)) hY W (λk hk'=>Nat.lt_of_lt_of_le (hC k hk') hW.size) ((hk.cell Xl).trans hBs) (hk.recs hc Qv) h0
