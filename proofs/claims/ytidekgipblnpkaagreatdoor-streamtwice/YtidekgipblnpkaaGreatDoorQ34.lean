/- A part of the proof. -/
import Derived.Test.YtidekgipblnpkaaGreatDoorQ2
import Derived.LoopIn
import Derived.LoopNIn
import Derived.OwnWalkIn
import Derived.RangeFuncBound
import Derived.RangeFuncNested
import Derived.Shelf.RegionOpen
set_option maxRecDepth 100000
set_option maxHeartbeats 8000000
namespace Go.Proofs.YtidekgipblnpkaaGreatDoor.Dk
open Go.RowKit Go.Shelf Go.Proofs.Tryz
attribute [local go_sem] Oper.semAt_some
abbrev Num:={n:Int // wf n}
theorem Kept.refl (Cs:Nat->Prop)(w:World):Kept Cs w w:=⟨Nat.le_refl _,λ_ _=>rfl⟩
theorem Kept.trans {Cs:Nat->Prop}{a b c:World}(h:Kept Cs a b)(k:Kept Cs b c):Kept Cs a c:=⟨Nat.le_trans h.1 k.1,λi hi=>(k.2 i hi).trans (h.2 i hi)⟩
theorem Kept.put {Cs:Nat->Prop}{w:World}(hC:∀k,Cs k->k<w.heap.size)(W:World)(l:Nat)(o o':Obj)(hl:w.heap.size<=l)(h:W.heap[l]?=some o):Kept Cs W (W.putObj l o'):=by
 have hlt:=(Array.getElem?_eq_some_iff.1 h).1;have hg:=grownBy_putObj' W l o';exact⟨hg.size,λk hk=>by
  have:=hC k hk;exact hg.block k (by omega) (λe=>by have:=Option.some.inj e;omega)⟩
theorem aed (F:Fence)(n:Nat)(hf:F.fn 226)(hro:F.round=none)(hn:1<=n)(l Bs:Nat)(Cs:Nat->Prop)(a:Option Addr)(zs:List Int)(cap:Nat)(hz:∀k,k<zs.length->wf (nth zs k))(hlen:zs.length<=1000)(hCB:Cs Bs)(UC:∀z,a=some z->Cs z.block)(J Jx:List (Int×Num)->World->Prop)
 (hY:∀pre x W,J pre W->pre.length<zs.length->YieldAt F (n-1) prog l #[.int .i64 x.1,.int .i64 x.2.1] W λe W' =>
  (e=.returned (.bool true)/\J (pre++[x]) W'/\Kept Cs W W')\/(e=.returned (.bool false)/\Jx (pre++[x]) W'))
 (W:World) (hBs:W.cell? ⟨Bs,0,none⟩=some (.slice a zs.length cap)) (hc:qL W a zs) (h0:J [] W) :
 CallsIn F n prog 226 #[.func (.yield l) #[] #[],.pointer (some ⟨Bs,0,none⟩)] W λe W'=>(∃v,e=.returned v) /\
  ((∃ys:List (Int×Num),ys.map (λx=>x.2.1)=zs.reverse/\J ys W')\/(∃pre:List (Int×Num),True/\Jx pre W')):=by
 have HZ:=aj hz;have HY:=aj hY;have HCa:=aj UC;have HW:=aj (And.intro hBs hc);clear hz hY UC hc;refine callsIn_of_wp func226 rfl hf ?_ hro;simp only[ntmps226,List.size_toArray,List.length_cons,List.length_nil,Nat.reduceAdd,Nat.reduceSub,Array.replicate_succ,Array.replicate_zero,List.push_toArray,List.append_toArray,List.nil_append,List.cons_append];have hw0:IntKind.i64.wrap ((zs.length:Int)-1)=(zs.length:Int)-1:=by rw[IntKind.wrap_i64];omega
 gi_wp2
 gi_loopw [3] (λiv wr=>∃(k:Nat) (j:Int) (pre:List (Int×Num)),iv=.int .i64 j/\Hid (j=(k:Int)-1)/\k<=zs.length/\Hid (pre.map (λx=>x.2.1)=(zs.drop k).reverse/\pre.length+k=zs.length)/\Hid (J pre wr)/\Hid (Kept Cs W wr)) (λiv _=>(intOf iv+1).toNat)
 case atStart=>exact⟨zs.length,_,[],rfl,aj (by first|rfl|exact hw0),Nat.le_refl _,aj ⟨by simp,by simp⟩,aj h0,aj (Kept.refl _ _)⟩
 case round =>
  obtain⟨k,j,pre,rfl,hj,hk,HP,HJ,HK⟩:=hrel;have hbs:=((ah HK).cell (C:=Bs) (j:=0) hCB).trans hBs;by_cases hk0:0<k
  ·obtain⟨i,rfl⟩:∃i,k=i+1:=⟨k-1,by omega⟩;obtain rfl:j=(i:Int):=by have:=ah hj;omega
   have hi:i<zs.length:=by omega
   have hi0:(0:Int)<=(i:Int):=by omega
   obtain⟨b,o,rfl,hb,c1⟩:=((ah HK).nums (ah HW).2 (ah HCa)) i hi;obtain⟨fn,tmps,assign,body,hy,hR⟩:=ah HY pre ((i:Int),⟨nth zs i,ah HZ i hi⟩) wr (ah HJ) (by have:=(ah HP).2;omega);dsimp only at hy;have HP2:Hid ((pre++[((i:Int),(⟨nth zs i,ah HZ i hi⟩:Num))]).map (λx=>x.2.1)=(zs.drop i).reverse/\(pre++[((i:Int),(⟨nth zs i,ah HZ i hi⟩:Num))]).length+i=zs.length):=aj ⟨by
    have aki:nth zs i=zs[i]:=by unfold nth;rw[List.getElem?_eq_getElem hi];rfl
    rw[List.map_append,(ah HP).1,List.drop_eq_getElem_cons hi,List.reverse_cons];show _++[nth zs i]=_;rw[aki],by have:=(ah HP).2;simp;omega⟩
   have hw1:IntKind.i64.wrap ((i:Int)-1)=(i:Int)-1:=by rw[IntKind.wrap_i64];omega
   clear HP HJ hj hk0 hb;gi_wp2
   refine hR.mono ?_;rintro e W3 (⟨rfl,hJ3,hk3⟩|⟨rfl,hJx3⟩)
   ·have J3:=aj hJ3;have K3:=aj ((ah HK).trans hk3);clear hJ3 hk3 hR hy c1 hbs HK;gi_wp2
    go_roundw
    case rel=>exact⟨i,_,_,rfl,aj (by first|rfl|exact hw1),by omega,HP2,J3,K3⟩
    case measure=>first|(simp[intOf];done)|(simp[intOf];omega)
   ·have J3:=aj hJx3;clear hJx3 hR hy c1 hbs HK;gi_wp2
    refine bodyPost_ret (results_none rfl _ _ _) rfl ?_;exact⟨⟨_,rfl⟩,.inr ⟨_,trivial,ah J3⟩⟩
  ·obtain rfl:k=0:=by omega
   obtain rfl:j=-1:=by have:=ah hj;omega
   gi_wp2
   go_end0
   exact⟨⟨_,rfl⟩,.inl ⟨_,by rw[(ah HP).1];rfl,ah HJ⟩⟩
theorem agP (F:Fence)(n:Nat)(hf:F.fn 197)(hro:F.round=none)(a:Option Addr)(len cap:Nat)(w:World) :
 CallsIn F n prog 197 #[.slice a len cap] w λe w'=>e=.returned (.func (.func 226) #[] #[.pointer (some ⟨w.heap.size,0,none⟩)])/\w'=w.alloc (.cells #[.slice a len cap] 92):=by
 refine callsIn_of_wp func197 rfl hf ?_ hro;simp only[ntmps197,List.size_toArray,List.length_cons,List.length_nil,Nat.reduceAdd,Nat.reduceSub,Array.replicate_succ,Array.replicate_zero,List.push_toArray,List.append_toArray,List.nil_append,List.cons_append];gi_wp2
 go_ret
 exact⟨rfl,rfl⟩
theorem Xp (F:Fence)(n:Nat)(hf:F.fn 226)(hro:F.round=none)(hn:1<=n)(Bs:Nat)(Cs:Nat->Prop)(a:Option Addr)(zs:List Int)(cap:Nat)(hz:∀k,k<zs.length->wf (nth zs k))(hlen:zs.length<=1000)(hCB:Cs Bs)(UC:∀z,a=some z->Cs z.block)(w:World)(hC:∀k,Cs k->k<w.heap.size)
 (hBs:w.cell? ⟨Bs,0,none⟩=some (.slice a zs.length cap)) (hc:qL w a zs) :
 SeqStopsK F n prog 226 #[.pointer (some ⟨Bs,0,none⟩)] (λx:Int×Num=>#[Value.int .i64 x.1,Value.int .i64 x.2.1]) (Kept Cs) (λys=>ys.map (λx=>x.2.1)=zs.reverse) (λ_=>True) zs.length w:=λl J Jx W hW _ _ hY h0=>by
 have hk:Kept Cs w W:=⟨hW.size,λk hk=>hW.block k (hC k hk)⟩;exact aed F n hf hro hn l Bs Cs a zs cap hz hlen hCB UC J Jx hY W ((hk.cell hCB).trans hBs) (hk.nums hc UC) h0
def yH (es:List ay)(pre:List (Int×Num)):List ay:=pre.foldl (λl x=>kN l x.2.1) es
theorem Xq (es:List ay)(pre:List (Int×Num))(x:Int×Num):yH es (pre++[x])=kN (yH es pre) x.2.1:=by unfold yH;rw[List.foldl_append];rfl
theorem Ob (es:List ay)(pre:List (Int×Num)):yH es pre=(pre.map (λx=>x.2.1)).foldl kN es:=by unfold yH;rw[List.foldl_map]
theorem Tidy.yH {m:Int}{es:List ay}(h:Tidy m es)(pre:List (Int×Num)):Tidy m (Dk.yH es pre):=by rw[Ob];exact Tidy.aik _ h
theorem qL.below' {w w':World}{a:Option Addr}{l:List Int}{n:Nat}(h:qL w a l)(hb:Below n w w')(hn:∀z,a=some z->z.block<n):qL w' a l:=λk hk=>by
 obtain⟨b,o,h1,h2,h3⟩:=h k hk;exact⟨b,o,h1,Nat.lt_of_lt_of_le h2 hb.size,by rw[hb.cell (p:=⟨b,o+k,none⟩) (hn ⟨b,o,none⟩ h1)];exact h3⟩
theorem G7 {Has:World->Nat->Nat->(Nat->Prop)->Int->List ay->Prop}{w:World}{B q:Nat}{F:Nat->Prop}{m:Int}{es:List ay}(H:Works Has)(HS:Lists Has)(a:Option Addr)(zs:List Int)(cap:Nat)(hz:∀k,k<zs.length->wf (nth zs k))(hlen:zs.length<=1000)(hs:qL w a zs)(ha:∀z,a=some z->z.block<w.heap.size/\¬F z.block)(h:Has w B q F m es)(ht:Tidy m es)(hm:m<=65536)(hB:B<=w.heap.size) :
 Calls prog 160 #[.pointer (some ⟨q,0,none⟩),.slice a zs.length cap] w λe w'=>e=.returned (.tuple #[])/\Has w' B q F m (zs.reverse.foldl kN es)/\aF F w w':=by
 refine(callsIn_wide (n:=8)).1 ?_;have HZ:=aj hz;have HH:=aj h;have HT:=aj ht;have BO:=aj hs;have HA:=aj ha;clear hz h ht hs ha;refine callsIn_of_wp_marks func160 rfl trivial ?_ rfl;simp only[ntmps160,List.size_toArray,List.length_cons,List.length_nil,Nat.reduceAdd,Nat.reduceSub,Array.replicate_succ,Array.replicate_zero,List.push_toArray,List.append_toArray,List.nil_append,List.cons_append];have cB:=agP Fence.wide 7 trivial rfl a zs.length cap (w.alloc (.cells #[.pointer (some ⟨q,0,none⟩)] 82));have hfB:Fence.wide.fn 197:=trivial;gi_wp2_with (gi_at_call 197;refine cB.mono ?_;rintro e w' ⟨rfl,rfl⟩)
 clear cB;obtain⟨W0,hW0⟩:∃W0,W0=(w.alloc (.cells #[.pointer (some ⟨q,0,none⟩)] 82)).alloc (.cells #[.slice a zs.length cap] 92):=⟨_,rfl⟩;have hs0:W0.heap.size=w.heap.size+2:=by rw[hW0];simp
 have hb0:Below w.heap.size w W0:=by rw[hW0];exact((Below.refl _ _).alloc (Nat.le_refl _) _).alloc (by simp) _
 have hown:∀k,F k->k<w.heap.size:=λk hk=>(H.own (ah HH) k hk).2
 have c0:W0.cell? ⟨w.heap.size,0,none⟩=some (.pointer (some ⟨q,0,none⟩)):=by
  rw[hW0,World.cell?_alloc_lt _ _ _ (by simp),cell_of_row _ w.heap.size 0 _ _ _ (heap_alloc_new w _)];rfl
 have c1:W0.cell? ⟨w.heap.size+1,0,none⟩=some (.slice a zs.length cap):=by
  have:=cell_of_row ((w.alloc (.cells #[.pointer (some ⟨q,0,none⟩)] 82)).alloc (.cells #[.slice a zs.length cap] 92)) (w.alloc (.cells #[.pointer (some ⟨q,0,none⟩)] 82)).heap.size 0 _ _ _ (heap_alloc_new _ _);rw[World.size_alloc] at this;rw[hW0,this];rfl
 have hst:SeqStopsK Fence.wide 7 prog 226 #[.pointer (some ⟨w.heap.size+1,0,none⟩)] (λx:Int×Num=>#[Value.int .i64 x.1,Value.int .i64 x.2.1]) (Kept (λk=>k=w.heap.size+1\/∃z,a=some z/\z.block=k)) (λys=>ys.map (λx=>x.2.1)=zs.reverse) (λ_=>True) zs.length W0 :=
  Xp Fence.wide 7 trivial rfl (by omega) (w.heap.size+1) _ a zs cap (ah HZ) hlen (.inl rfl) (λz hz=>.inr ⟨z,hz,rfl⟩) W0 (λk hk=>by
   rcases hk with rfl|⟨z,hz,rfl⟩
   ·omega
   ·have:=(ah HA z hz).1;omega) c1 ((ah BO).below' hb0 (λz hz=>(ah HA z hz).1))
 have hI:OwnFrom W0.heap.size (λ(pre:List (Int×Num)) W=>Has W B q F m (yH es pre)/\aF F W0 W):=λs X Y row hs hg hr=>by
  refine⟨H.dh (A:=λk=>row=some k) hs.1 (aF.bU hg) (λk hk z=>?_),jD hs.2 (aF.bU hg) (λi hi z=>?_)⟩
  ·have:=(hr k z).1;have:=hown k hk;omega
  ·have:=(hr i z).1;omega
 have hfR:Fence.wide.fn 198:=trivial;rw[<-hW0];refine wpIn_rangeFunc_ownG rfl (by omega) (gf:=226) (lb:=#[.pointer (some ⟨w.heap.size+1,0,none⟩)]) (by rfl) trivial (enters_of func226 (by kernel_rfl) rfl)
  hst (λh k=>h.trans k) (λW l o o' hl h _ _=>Kept.put (λk hk=>by
   rcases hk with rfl|⟨z,hz,rfl⟩
   ·omega
   ·have:=(ah HA z hz).1;omega) W l o o' hl h) (Below.refl _ _) (λ_=>rfl)
  (λpre W=>Has W B q F m (yH es pre)/\aF F W0 W)
  (λ_ _ _=>False)
  hI (λ_ _ _ _ _ hs _ _=>hs)
  ⟨H.dh (A:=λ_=>False) (ah HH) (aF.of_below hb0) (λ_ _ z=>z),aF.refl _ _⟩
  (λx=>{tmps:=#[.pointer (some ⟨q,0,none⟩),.slice a zs.length cap,.pointer (some ⟨w.heap.size,0,none⟩),undef,undef,.int .i64 x.2.1,.slice a zs.length cap,.func (.func 226) #[] #[.pointer (some ⟨w.heap.size+1,0,none⟩)],.int .i64 x.1,.int .i64 x.2.1,undef,undef,undef],defers:=[]}) ?assign ?body ?done ?stop
 case assign =>
  intro l x W K hK;gi_wp2
  exact hK
 case body =>
  rintro l pre x W ⟨hh,hc⟩ _;have d0:W.cell? ⟨w.heap.size,0,none⟩=some (.pointer (some ⟨q,0,none⟩)):=by
   rw[hc.cell (p:=⟨w.heap.size,0,none⟩) (by simp only;omega) (λz=>by have:=hown _ z;simp at this)];exact c0
  have PR:=aj (HS.drops x.2.1 x.2.2 hh ((ah HT).yH pre) hm (Nat.le_trans hB (Nat.le_trans hb0.size hc.size)));have HCh:=aj hc;clear hh hc;gi_wp2_with (gi_at_call 198;refine(CallsIn.inRound l (callsIn_wide.2 (ah PR))).mono ?_;rintro e w2 ⟨rfl,h2,ch2⟩)
  have hsz:=(ah HCh).size;refine⟨⟨ch2.size,λk o hk hko _=>(ch2.block k (Array.getElem?_eq_some_iff.1 hko).1 (λz=>by have:=hown k z;omega)).trans hko⟩,⟨ch2.size,λk hk=>?_⟩,by rw[Xq];exact h2,(ah HCh).trans ch2⟩;rcases hk with rfl|⟨z,hz,rfl⟩
  ·exact ch2.block _ (by omega) (λy=>by have:=hown _ y;omega)
  ·exact ch2.block _ (by have:=(ah HA z hz).1;omega) (ah HA z hz).2
 case done =>
  rintro D ys W hD hS ⟨hh,hc⟩ hK;have HF:Hid (Has (W.putObj D (.deferred none)) B q F m (zs.reverse.foldl kN es)/\aF F w (W.putObj D (.deferred none))):=aj (by
   obtain⟨x1,x2⟩:=hI ys W (W.putObj D (.deferred none)) (some D) ⟨hh,hc⟩ (grownBy_putObj' W D _) (λr e=>by cases e;exact⟨hD,_,hK,rfl⟩);rw[Ob,hS] at x1;exact⟨x1,(aF.of_below hb0).trans x2⟩)
  clear hh hc hS;gi_wp2
  refine⟨by simp,.inl ⟨_,_,rfl,run_takeDeferred hK,?_⟩⟩;exact⟨_,results_none rfl _ _ _,rfl,ah HF⟩
 case stop =>
  rintro D c pre W _ _ h _;exact h.elim
end Go.Proofs.YtidekgipblnpkaaGreatDoor.Dk
