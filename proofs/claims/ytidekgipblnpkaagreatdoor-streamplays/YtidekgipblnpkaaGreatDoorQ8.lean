/- A part. -/
import Derived.Test.YtidekgipblnpkaaGreatDoorQ0
import Derived.LoopIn
import Derived.LoopNIn
import Derived.OwnWalkIn
import Derived.RangeFuncBound
import Derived.RangeFuncNested
import Derived.Shelf.RegionOpen
set_option maxRecDepth 100000
set_option maxHeartbeats 8000000
namespace Go.Proofs.YtidekgipblnpkaaGreatDoor
open Go.RowKit Go.Shelf Go.Proofs.Tryz
namespace Dk
attribute [local go_sem] Oper.semAt_some
abbrev XW:={n:Int // wf n}
theorem Kept.refl (Cs:Nat->Prop)(w:World):Kept Cs w w:=⟨Xc _,λ_ _=>rfl⟩
theorem Kept.trans {Cs:Nat->Prop}{a b c:World}(h:Kept Cs a b)(k:Kept Cs b c):Kept Cs a c:=⟨aje h.1 k.1,λi hi=>(k.2 i hi).trans (h.2 i hi)⟩
theorem Kept.put {Cs:Nat->Prop}{w:World}(hC:∀k,Cs k->k<w.heap.size)(W:World)(l:Nat)(o o':Obj)(hl:w.heap.size<=l)(h:W.heap[l]?=some o):Kept Cs W (W.putObj l o'):=by
 have hlt:=(ajV.1 h).1;have hg:=grownBy_putObj' W l o';exact⟨hg.size,λk hk=>by
  have:=hC k hk;exact hg.block k (by omega) (λe=>by have:=ajC e;omega)⟩
theorem abS (F:Fence)(n:Nat)(hf:F.fn 226)(hro:F.round=none)(hn:1<=n)(l Bs:Nat)(Cs:Nat->Prop)(a:Option Addr)(zs:List Int)(cap:Nat)(hz:∀k,k<zs.length->wf (nth zs k))(hlen:zs.length<=1000)(hCB:Cs Bs)(QW:∀z,a=some z->Cs z.block)(J Jx:List (Int×XW)->World->Prop)
 (hY:∀pre x W,J pre W->pre.length<zs.length->YieldAt F (n-1) prog l #[.int .i64 x.1,.int .i64 x.2.1] W λe W' =>
  (e=.returned (.bool true)/\J (pre++[x]) W'/\Kept Cs W W')\/(e=.returned (.bool false)/\Jx (pre++[x]) W'))
 (W:World) (hBs:W.cell? ⟨Bs,0,none⟩=some (.slice a zs.length cap)) (hc:pY W a zs) (h0:J [] W) :
 CallsIn F n prog 226 #[.func (.yield l) #[] #[],.pointer (some ⟨Bs,0,none⟩)] W λe W'=>(∃v,e=.returned v) /\
  ((∃ys:List (Int×XW),ys.map (λx=>x.2.1)=zs.reverse/\J ys W')\/(∃pre:List (Int×XW),True/\Jx pre W')):=by
 have HZ:=aj hz;have HY:=aj hY;have HCa:=aj QW;have HW:=aj (And.intro hBs hc);clear hz hY QW hc;refine amC func226 rfl hf ?_ hro;simp only[ntmps226,aky,ajB,alk,Nat.reduceAdd,Nat.reduceSub,akN,akO,alg,akV,akh,ajM];have hw0:IntKind.i64.wrap ((zs.length:Int)-1)=(zs.length:Int)-1:=by rw[ajq];omega
 gi_wp2
 gi_loopw [3] (λiv wr=>∃(k:Nat) (j:Int) (pre:List (Int×XW)),iv=.int .i64 j/\Hid (j=(k:Int)-1)/\k<=zs.length/\Hid (pre.map (λx=>x.2.1)=(zs.drop k).reverse/\pre.length+k=zs.length)/\Hid (J pre wr)/\Hid (Kept Cs W wr)) (λiv _=>(intOf iv+1).toNat)
 case atStart=>exact⟨zs.length,_,[],rfl,aj (by first|rfl|exact hw0),Xc _,aj ⟨by simp,by simp⟩,aj h0,aj (Kept.refl _ _)⟩
 case round =>
  obtain⟨k,j,pre,rfl,hj,hk,HP,HJ,HK⟩:=hrel;have hbs:=((ah HK).cell (C:=Bs) (j:=0) hCB).trans hBs;by_cases hk0:0<k
  ·obtain⟨i,rfl⟩:∃i,k=i+1:=⟨k-1,by omega⟩;obtain rfl:j=(i:Int):=by have:=ah hj;omega
   have hi:i<zs.length:=by omega
   have hi0:(0:Int)<=(i:Int):=by omega
   obtain⟨b,o,rfl,hb,c1⟩:=((ah HK).nums (ah HW).2 (ah HCa)) i hi;obtain⟨fn,tmps,assign,body,hy,hR⟩:=ah HY pre ((i:Int),⟨nth zs i,ah HZ i hi⟩) wr (ah HJ) (by have:=(ah HP).2;omega);dsimp only at hy;have HP2:Hid ((pre++[((i:Int),(⟨nth zs i,ah HZ i hi⟩:XW))]).map (λx=>x.2.1)=(zs.drop i).reverse/\(pre++[((i:Int),(⟨nth zs i,ah HZ i hi⟩:XW))]).length+i=zs.length):=aj ⟨by
    have aiA:nth zs i=zs[i]:=by unfold nth;rw[ajl hi];rfl
    rw[aki,(ah HP).1,ajD hi,List.reverse_cons];show _++[nth zs i]=_;rw[aiA],by have:=(ah HP).2;simp;omega⟩
   have hw1:IntKind.i64.wrap ((i:Int)-1)=(i:Int)-1:=by rw[ajq];omega
   clear HP HJ hj hk0 hb;gi_wp2
   refine hR.mono ?_;rintro e W3 (⟨rfl,hJ3,hk3⟩|⟨rfl,hJx3⟩)
   ·have J3:=aj hJ3;have K3:=aj ((ah HK).trans hk3);clear hJ3 hk3 hR hy c1 hbs HK;gi_wp2
    go_roundw
    case rel=>exact⟨i,_,_,rfl,aj (by first|rfl|exact hw1),by omega,HP2,J3,K3⟩
    case measure=>first|(simp[intOf];done)|(simp[intOf];omega)
   ·have J3:=aj hJx3;clear hJx3 hR hy c1 hbs HK;gi_wp2
    refine ajJ (amQ rfl _ _ _) rfl ?_;exact⟨⟨_,rfl⟩,.inr ⟨_,trivial,ah J3⟩⟩
  ·obtain rfl:k=0:=by omega
   obtain rfl:j=-1:=by have:=ah hj;omega
   gi_wp2
   go_end0
   exact⟨⟨_,rfl⟩,.inl ⟨_,by rw[(ah HP).1];rfl,ah HJ⟩⟩
theorem ae5 (F:Fence)(n:Nat)(hf:F.fn 197)(hro:F.round=none)(a:Option Addr)(len cap:Nat)(w:World) :
 CallsIn F n prog 197 #[.slice a len cap] w λe w'=>e=.returned (.func (.func 226) #[] #[.pointer (some ⟨w.heap.size,0,none⟩)])/\w'=w.alloc (.cells #[.slice a len cap] 92):=by
 refine amC func197 rfl hf ?_ hro;simp only[ntmps197,aky,ajB,alk,Nat.reduceAdd,Nat.reduceSub,akN,akO,alg,akV,akh,ajM];gi_wp2
 go_ret;exact⟨rfl,rfl⟩
theorem Vd (F:Fence)(n:Nat)(hf:F.fn 226)(hro:F.round=none)(hn:1<=n)(Bs:Nat)(Cs:Nat->Prop)(a:Option Addr)(zs:List Int)(cap:Nat)(hz:∀k,k<zs.length->wf (nth zs k))(hlen:zs.length<=1000)(hCB:Cs Bs)(QW:∀z,a=some z->Cs z.block)(w:World)(hC:∀k,Cs k->k<w.heap.size)
 (hBs:w.cell? ⟨Bs,0,none⟩=some (.slice a zs.length cap)) (hc:pY w a zs) :
 SeqStopsK F n prog 226 #[.pointer (some ⟨Bs,0,none⟩)] (λx:Int×XW=>#[Value.int .i64 x.1,Value.int .i64 x.2.1]) (Kept Cs) (λys=>ys.map (λx=>x.2.1)=zs.reverse) (λ_=>True) zs.length w:=λl J Jx W hW _ _ hY h0=>by
 have hk:Kept Cs w W:=⟨hW.size,λk hk=>hW.block k (hC k hk)⟩;exact abS F n hf hro hn l Bs Cs a zs cap hz hlen hCB QW J Jx hY W ((hk.cell hCB).trans hBs) (hk.nums hc QW) h0
def yj (es:List ay)(pre:List (Int×XW)):List ay:=pre.foldl (λl x=>jS l x.2.1) es
theorem Ve (es:List ay)(pre:List (Int×XW))(x:Int×XW):yj es (pre++[x])=jS (yj es pre) x.2.1:=by unfold yj;rw[amr];rfl
theorem LC (es:List ay)(pre:List (Int×XW)):yj es pre=(pre.map (λx=>x.2.1)).foldl jS es:=by unfold yj;rw[List.foldl_map]
theorem Tidy.yj {m:Int}{es:List ay}(h:Tidy m es)(pre:List (Int×XW)):Tidy m (Dk.yj es pre):=by rw[LC];exact Tidy.agU _ h
theorem pY.Ol {w w':World}{a:Option Addr}{l:List Int}{n:Nat}(h:pY w a l)(hb:Below n w w')(hn:∀z,a=some z->z.block<n):pY w' a l:=λk hk=>by
 obtain⟨b,o,h1,h2,h3⟩:=h k hk;exact⟨b,o,h1,ajc h2 hb.size,by rw[hb.cell (p:=⟨b,o+k,none⟩) (hn ⟨b,o,none⟩ h1)];exact h3⟩
theorem FY {Has:World->Nat->Nat->(Nat->Prop)->Int->List ay->Prop}{w:World}{B q:Nat}{F:Nat->Prop}{m:Int}{es:List ay}(H:qy Has)(HS:oh Has)(a:Option Addr)(zs:List Int)(cap:Nat)(hz:∀k,k<zs.length->wf (nth zs k))(hlen:zs.length<=1000)(hs:pY w a zs)(ha:∀z,a=some z->z.block<w.heap.size/\¬F z.block)(h:Has w B q F m es)(ht:Tidy m es)(hm:m<=65536)(hB:B<=w.heap.size) :
 Calls prog 160 #[.pointer (some ⟨q,0,none⟩),.slice a zs.length cap] w λe w'=>e=.returned (.tuple #[])/\Has w' B q F m (zs.reverse.foldl jS es)/\aH F w w':=by
 refine(alh (n:=8)).1 ?_;have HZ:=aj hz;have HH:=aj h;have HT:=aj ht;have Bf:=aj hs;have HA:=aj ha;clear hz h ht hs ha;refine callsIn_of_wp_marks func160 rfl trivial ?_ rfl;simp only[ntmps160,aky,ajB,alk,Nat.reduceAdd,Nat.reduceSub,akN,akO,alg,akV,akh,ajM];have cB:=ae5 Fence.wide 7 trivial rfl a zs.length cap (w.alloc (.cells #[.pointer (some ⟨q,0,none⟩)] 82));have hfB:Fence.wide.fn 197:=trivial;gi_wp2_with (gi_at_call 197;refine cB.mono ?_;rintro e w' ⟨rfl,rfl⟩)
 clear cB;obtain⟨W0,hW0⟩:∃W0,W0=(w.alloc (.cells #[.pointer (some ⟨q,0,none⟩)] 82)).alloc (.cells #[.slice a zs.length cap] 92):=⟨_,rfl⟩;have hs0:W0.heap.size=w.heap.size+2:=by rw[hW0];simp
 have hb0:Below w.heap.size w W0:=by rw[hW0];exact((ajb _ _).alloc (Xc _) _).alloc (by simp) _
 have hown:∀k,F k->k<w.heap.size:=λk hk=>(H.own (ah HH) k hk).2
 have c0:W0.cell? ⟨w.heap.size,0,none⟩=some (.pointer (some ⟨q,0,none⟩)):=by
  rw[hW0,aku _ _ _ (by simp),ajY _ w.heap.size 0 _ _ _ (ajF w _)];rfl
 have c1:W0.cell? ⟨w.heap.size+1,0,none⟩=some (.slice a zs.length cap):=by
  have:=ajY ((w.alloc (.cells #[.pointer (some ⟨q,0,none⟩)] 82)).alloc (.cells #[.slice a zs.length cap] 92)) (w.alloc (.cells #[.pointer (some ⟨q,0,none⟩)] 82)).heap.size 0 _ _ _ (ajF _ _);rw[akS] at this;rw[hW0,this];rfl
 have hst:SeqStopsK Fence.wide 7 prog 226 #[.pointer (some ⟨w.heap.size+1,0,none⟩)] (λx:Int×XW=>#[Value.int .i64 x.1,Value.int .i64 x.2.1]) (Kept (λk=>k=w.heap.size+1\/∃z,a=some z/\z.block=k)) (λys=>ys.map (λx=>x.2.1)=zs.reverse) (λ_=>True) zs.length W0 :=
  Vd Fence.wide 7 trivial rfl (by omega) (w.heap.size+1) _ a zs cap (ah HZ) hlen (.inl rfl) (λz hz=>.inr ⟨z,hz,rfl⟩) W0 (λk hk=>by
   rcases hk with rfl|⟨z,hz,rfl⟩
   ·omega
   ·have:=(ah HA z hz).1;omega) c1 ((ah Bf).Ol hb0 (λz hz=>(ah HA z hz).1))
 have hI:OwnFrom W0.heap.size (λ(pre:List (Int×XW)) W=>Has W B q F m (yj es pre)/\aH F W0 W):=λs X Y row hs hg hr=>by
  refine⟨H.bZ (A:=λk=>row=some k) hs.1 (aH.bH hg) (λk hk z=>?_),iZ hs.2 (aH.bH hg) (λi hi z=>?_)⟩
  ·have:=(hr k z).1;have:=hown k hk;omega
  ·have:=(hr i z).1;omega
 have hfR:Fence.wide.fn 198:=trivial;rw[<-hW0];refine wpIn_rangeFunc_ownG rfl (by omega) (gf:=226) (lb:=#[.pointer (some ⟨w.heap.size+1,0,none⟩)]) (by rfl) trivial (enters_of func226 (by kernel_rfl) rfl)
  hst (λh k=>h.trans k) (λW l o o' hl h _ _=>Kept.put (λk hk=>by
   rcases hk with rfl|⟨z,hz,rfl⟩
   ·omega
   ·have:=(ah HA z hz).1;omega) W l o o' hl h) (ajb _ _) (λ_=>rfl)
  (λpre W=>Has W B q F m (yj es pre)/\aH F W0 W)
  (λ_ _ _=>False)
  hI (λ_ _ _ _ _ hs _ _=>hs)
  ⟨H.bZ (A:=λ_=>False) (ah HH) (aH.aA hb0) (λ_ _ z=>z),aH.refl _ _⟩
  (λx=>{tmps:=#[.pointer (some ⟨q,0,none⟩),.slice a zs.length cap,.pointer (some ⟨w.heap.size,0,none⟩),undef,undef,.int .i64 x.2.1,.slice a zs.length cap,.func (.func 226) #[] #[.pointer (some ⟨w.heap.size+1,0,none⟩)],.int .i64 x.1,.int .i64 x.2.1,undef,undef,undef],defers:=[]}) ?assign ?body ?done ?stop
 case assign =>
  intro l x W K hK;gi_wp2
  exact hK
 case body =>
  rintro l pre x W ⟨hh,hc⟩ _;have d0:W.cell? ⟨w.heap.size,0,none⟩=some (.pointer (some ⟨q,0,none⟩)):=by
   rw[hc.cell (p:=⟨w.heap.size,0,none⟩) (by simp only;omega) (λz=>by have:=hown _ z;simp at this)];exact c0
  have PR:=aj (HS.agq x.2.1 x.2.2 hh ((ah HT).yj pre) hm (aje hB (aje hb0.size hc.size)));have HCh:=aj hc;clear hh hc;gi_wp2_with (gi_at_call 198;refine(CallsIn.inRound l (alh.2 (ah PR))).mono ?_;rintro e w2 ⟨rfl,h2,ch2⟩)
  have hsz:=(ah HCh).size;refine⟨⟨ch2.size,λk o hk hko _=>(ch2.block k (ajV.1 hko).1 (λz=>by have:=hown k z;omega)).trans hko⟩,⟨ch2.size,λk hk=>?_⟩,by rw[Ve];exact h2,(ah HCh).trans ch2⟩;rcases hk with rfl|⟨z,hz,rfl⟩
  ·exact ch2.block _ (by omega) (λy=>by have:=hown _ y;omega)
  ·exact ch2.block _ (by have:=(ah HA z hz).1;omega) (ah HA z hz).2
 case done =>
  rintro D ys W hD hS ⟨hh,hc⟩ hK;have HF:Hid (Has (W.putObj D (.deferred none)) B q F m (zs.reverse.foldl jS es)/\aH F w (W.putObj D (.deferred none))):=aj (by
   obtain⟨x1,x2⟩:=hI ys W (W.putObj D (.deferred none)) (some D) ⟨hh,hc⟩ (grownBy_putObj' W D _) (λr e=>by cases e;exact⟨hD,_,hK,rfl⟩);rw[LC,hS] at x1;exact⟨x1,(aH.aA hb0).trans x2⟩)
  clear hh hc hS;gi_wp2
  refine⟨by simp,.inl ⟨_,_,rfl,run_takeDeferred hK,?_⟩⟩;exact⟨_,amQ rfl _ _ _,rfl,ah HF⟩
 case stop =>
  rintro D c pre W _ _ h _;exact h.elim
