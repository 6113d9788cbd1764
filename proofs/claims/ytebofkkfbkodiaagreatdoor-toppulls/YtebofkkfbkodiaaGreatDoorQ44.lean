/- A part. -/
import Derived.Test.YtebofkkfbkodiaaGreatDoorQ16
import Derived.Test.YtebofkkfbkodiaaGreatDoorQ40
set_option maxRecDepth 100000
set_option maxHeartbeats 8000000
namespace Go.Proofs.YtebofkkfbkodiaaGreatDoor
open Go.RowKit Go.Proofs.Tryz
namespace Dk
open Go.Shelf
variable {B c p q:Nat}{W W' w:I}{f:ad}{r:Rc}{e last:Int}{l zs:List Rc}{u v:Value}{es:List aS}
attribute [local go_sem] Oper.semAt_some
structure Bx (p:Nat)(W:I)(f:ad)(r:Rc)(e:Int):Prop where
 cf:W.cell? (aq p 0)=some (.string f)
 rr:RB W (p+1) r.k r.q r.t r.s r.h r.d
 ce:W.cell? (aq (p+1+1) 0)=some (aa e)
 fe:W.frozen? (aq (p+1+1) 0)=false
 lt:p+1+1<W.heap.size
theorem Bx.aF {A:af}(h:Bx p W f r e)(hc:aA A W W')(hn:∀k,k<=p+1+1->¬A k):Bx p W' f r e:=by
 have hl:=h.lt;have n0:¬A p:=hn p (by omega);have n1:¬A (p+1):=hn (p+1) (by omega);have n2:¬A (p+1+1):=hn (p+1+1) (by omega);have l0:p<W.heap.size:=by omega
 refine⟨?_,UJ h.rr hc n1,?_,?_,ajz h.lt hc.size⟩
 ·rw[hc.cell (p:=aq p 0) l0 n0];exact h.cf
 ·rw[hc.cell (p:=aq (p+1+1) 0) hl n2];exact h.ce
 ·rw[hc.frozen (p:=aq (p+1+1) 0) hl n2];exact h.fe
theorem Bx.below (h:Bx p W f r e)(hb:ai W W'):Bx p W' f r e:=h.aF (A:=λ_=>False) (aA.of_below hb) (λ_ _ z=>z)
def UM (p:Nat)(W:I)(y:Rc)(e:Int):I:=((((((W.setCell (aq (p+1) 0) (aa y.k)).setCell (aq (p+1) 1) (aa y.q)).setCell (aq (p+1) 2) (aa y.t)).setCell (aq (p+1) 3) (.string y.s)).setCell (aq (p+1) 4) (.string y.h)).setCell (aq (p+1) 5) (.string y.d)).setCell (aq (p+1+1) 0) (aa e)
theorem zV (p:Nat)(W:I)(y:Rc)(e:Int):aA (λk=>k=p+1\/k=p+1+1) W (UM p W y e):=by
 unfold UM;exact((((((((aA.refl _ W).setCell (p:=aq (p+1) 0) (.inl (.inl rfl)) _).setCell (p:=aq (p+1) 1) (.inl (.inl rfl)) _).setCell (p:=aq (p+1) 2) (.inl (.inl rfl)) _).setCell (p:=aq (p+1) 3) (.inl (.inl rfl)) _).setCell (p:=aq (p+1) 4) (.inl (.inl rfl)) _).setCell (p:=aq (p+1) 5) (.inl (.inl rfl)) _).setCell (p:=aq (p+1+1) 0) (.inl (.inr rfl)) _)
theorem xZ (h:ai w W)(y:Rc)(e:Int):ai w (UM w.heap.size W y e) :=
 h.trans ((zV w.heap.size W y e).below h.size (λk hk z=>by omega))
theorem Bx.put (h:Bx p W f r e)(y:Rc)(e':Int):Bx p (UM p W y e') f y e':=by
 have hl:=h.lt;have hc:=zV p W y e';refine⟨?_,?_,?_,?_,ajz h.lt hc.size⟩
 ·have l0:p<W.heap.size:=by omega
  have n0:¬(p=p+1\/p=p+1+1):=by omega
  rw[hc.cell (p:=aq p 0) l0 n0];exact h.cf
 ·exact(h.rr.gG y.k y.q y.t y.s y.h y.d).other (c:=p+1+1) (i:=0) (v:=aa e') (by omega)
 ·unfold UM;refine alQ _ _ _ ?_;iterate 6 rw[ajD _ _ _ _ (by simp)]
  rw[h.ce];rfl
 ·unfold UM;iterate 7 rw[ajV]
  exact h.fe
theorem Bx.new (w:I)(f:ad)(T:TypeId)(T2:TypeId):Bx w.heap.size (((w.alloc (.cells #[.string f] T)).alloc (.cells #[aa 0,aa 0,aa 0,.string ⟨#[]⟩,.string ⟨#[]⟩,.string ⟨#[]⟩] 46)).alloc (.cells #[aa 0] T2)) f eU 0:=by
 have r1:=RB.new (w.alloc (.cells #[.string f] T)) 0 0 0 ⟨#[]⟩ ⟨#[]⟩ ⟨#[]⟩ 46;rw[alH] at r1;have hs:((w.alloc (.cells #[.string f] T)).alloc (.cells #[aa 0,aa 0,aa 0,.string ⟨#[]⟩,.string ⟨#[]⟩,.string ⟨#[]⟩] 46)).heap.size=w.heap.size+1+1:=by simp
 have hn:=akv ((w.alloc (.cells #[.string f] T)).alloc (.cells #[aa 0,aa 0,aa 0,.string ⟨#[]⟩,.string ⟨#[]⟩,.string ⟨#[]⟩] 46)) (.cells #[aa 0] T2);rw[hs] at hn;refine⟨?_,r1.alloc _,?_,?_,by simp⟩
 ·rw[aln _ _ _ (by simp<;>omega),aln _ _ _ (by simp<;>omega),aky _ w.heap.size 0 _ _ _ (akv w _)];rfl
 ·rw[aky _ _ 0 _ _ _ hn];rfl
 ·exact alz _ _ 0 _ _ hn
theorem uO {fn:Func}{a u:Tmp}{tmps:Array Value}{b:Nat}{k q t:Int}{s h d:ad}(hf:fn.results=#[.cell a 46,.cell u 27])(ha:tmps.getD a undef=ae b)(hu:tmps.getD u undef=ae c)(r:RB w b k q t s h d)(hc:w.cell? (aq c 0)=some (aa e)) :
 (results fn tmps).run prog w=.ok (.tuple #[.agg #[aa k,aa q,aa t,.string s,.string h,.string d],aa e]) w:=by
 have ha':tmps[a]?.getD undef=ae b:=by simpa using ha
 have hu':tmps[u]?.getD undef=ae c:=by simpa using hu
 have hl:(loadVar 27 ⟨c,0,none⟩).run prog w=.ok (aa e) w:=by
  simp[loadVar,isAgg,hc]
 simp[results,hf,ha',hu',asAddr,yK r,hl]
theorem JX {ys:List (Int×Sm)}(h:ys.map (λx=>x.2.1)=zs)(hn:∀x∈ys,aN f x.2.1.s=false):zs.find? (λr=>aN f r.s)=none:=by
 rw[akW,<-h];intro r hr;obtain⟨x,hx,rfl⟩:=alh.1 hr;simp[hn x hx]
theorem Zo {pre:List (Int×Sm)}{x:Int×Sm}(h:Jm zs (pre++[x]))(hn:∀y∈pre,aN f y.2.1.s=false)(hx:aN f x.2.1.s=true):zs.find? (λr=>aN f r.s)=some x.2.1:=by
 obtain⟨t,rfl⟩:=h;rw[akt,aku,List.find?_append,JX (f:=f) (ys:=pre) rfl hn];simp[hx]
theorem JY (f:ad)(hf:f.size<=140737488355328)(zs:List Rc)(gf:Nat)(lb:Array Value)(Cs:af)(w:I)(hC:∀k,Cs k->k<w.heap.size)
 (eg:∀args w,(callFunc gf args).run prog w=.ok (.enter gf args) w)
 (hseq:∀W0,ai w W0->SeqStopsK Fence.wide 7 prog gf lb encR (gZ Cs) (λys=>ys.map (λx=>x.2.1)=zs) (Jm zs) zs.length W0) :
 Calls prog 154 #[.string f,.func (.func gf) #[] lb] w λe w'=>e=.returned (jk f (zs.find? λr=>aN f r.s))/\ai w w':=by
 refine(alM (n:=8)).1 ?_;obtain⟨W,hW⟩:∃W,W=((w.alloc (.cells #[.string f] 9)).alloc (.cells #[aa 0,aa 0,aa 0,.string ⟨#[]⟩,.string ⟨#[]⟩,.string ⟨#[]⟩] 46)).alloc (.cells #[aa 0] 27):=⟨_,rfl⟩;have hb0:ai w W:=by rw[hW];exact((ax _ _).alloc (by simp) _).alloc (by simp;omega) _
 have X0:Bx w.heap.size W f eU 0:=by rw[hW];exact Bx.new w f _ _
 have HF:=aj (filter_any f W hf);have HQ:=aj hseq;have Hb0:=aj hb0;have HX0:=aj X0;have HCs:=aj hC;have HEg:=aj eg;clear hseq hb0 X0 hC eg;refine callsIn_of_wp_marks func154 rfl trivial ?_ rfl;simp only[ntmps154,alm,ajX,alG,Nat.reduceAdd,Nat.reduceSub,alo,alp,alD,als,akD,akx];have hfF:Fence.wide.fn 64:=trivial;gi_wp2_with fail
 rw[<-hW];clear hW;by_cases he:aC true f=0
 ·refine(alM.2 (ah HF)).mono ?_;rintro e w1 ⟨rfl,b1⟩;rw[he];have HE:=aj he;have HB1:=aj (ak (ah Hb0) b1);have HX1:=aj ((ah HX0).below b1);clear he HF HX0 Hb0 b1;gi_wp2_with fail
  have hlt1:=(ah HX1).lt;have hI:OwnFrom w1.heap.size (λ(pre:List (Int×Sm)) X=>Bx w.heap.size X f eU 0/\ai w X/\w1.heap.size<=X.heap.size/\∀x∈pre,aN f x.2.1.s=false):=λs X Y row hs hg hr =>
   ⟨hs.1.aF (aA.bC hg) (λk hk z=>by have:=(hr k z).1;omega),hs.2.1.trans ((aA.bC hg).below hs.2.1.size (λk hk z=>by have:=(hr k z).1;omega)),ajA hs.2.2.1 hg.size,hs.2.2.2⟩
  have hIx:∀c:Code,OwnFrom w1.heap.size (λ(pre:List (Int×Sm)) X=>c=.ret/\∃ac0 x,pre=ac0++[x]/\(∀y∈ac0,aN f y.2.1.s=false)/\aN f x.2.1.s=true/\Bx w.heap.size X f x.2.1 0/\ai w X):=λc s X Y row hs hg hr=>by
   obtain⟨h1,ac0,x,h2,h3,h4,h5,h6⟩:=hs;exact⟨h1,ac0,x,h2,h3,h4,h5.aF (aA.bC hg) (λk hk z=>by have:=(hr k z).1;omega),h6.trans ((aA.bC hg).below h6.size (λk hk z=>by have:=(hr k z).1;omega))⟩
  have hAx:∀(x:Int×Sm) (a':Act),OwnFrom w1.heap.size (λ(_:Unit) X=>∃b,w1.heap.size<=b/\X.heap[b]?=some (.cells #[aa x.2.1.k,aa x.2.1.q,aa x.2.1.t,.string x.2.1.s,.string x.2.1.h,.string x.2.1.d] 46 (0,0))/\a'={tmps:=#[.string f,.func (.func gf) #[] lb,.pointer (some ⟨w.heap.size,0,none⟩),undef,.pointer (some ⟨w.heap.size+1,0,none⟩),.pointer (some ⟨w.heap.size+1+1,0,none⟩),aa 0,undef,ae b,.string f,aa 0,aa 0,.bool false,undef,undef,.func (.func gf) #[] lb,aa x.1,.agg #[aa x.2.1.k,aa x.2.1.q,aa x.2.1.t,.string x.2.1.s,.string x.2.1.h,.string x.2.1.d],undef,undef,undef,undef,undef,undef],defers:=[]}):=λx a' s X Y row hs hg hr=>by
   obtain⟨b,h1,h2,h3⟩:=hs;have hbl:=(akJ.1 h2).1;refine⟨b,h1,(hg.block b hbl (λe=>?_)).trans h2,h3⟩;obtain⟨_,o,ho,hc⟩:=hr b e.symm;rw[h2] at ho
   cases ho
   cases hc
  refine wpIn_rangeFunc_ownH rfl (by omega) (gf:=gf) (lb:=lb) (by rfl) trivial (ah HEg) (ah HQ w1 (ah HB1)) (λh k=>h.trans k)
   (λX l o o' hl h _ _=>gZ.put (w:=w1) (λk hk=>ajz (ah HCs k hk) (ah HB1).size) X l o o' hl h) (agP _ _) (λ_=>rfl)
   _ _ hI hIx ⟨ah HX1,ah HB1,agH _,λx hx=>by cases hx⟩ _ hAx ?assign ?body ?done ?stop
  case assign =>
   intro l pre x X K hi hK;unfold encR;gi_wp2
   have ha:ai X (X.alloc (.cells #[aa x.2.1.k,aa x.2.1.q,aa x.2.1.t,.string x.2.1.s,.string x.2.1.h,.string x.2.1.d] 46)):=ax _ _;have hCl:∀k,Cs k->k<X.heap.size:=λk hk=>by have:=ah HCs k hk;have:=hi.2.1.size;omega
   exact hK _ _ ⟨ha.size,λk o _ hk _=>(ha.block k (akJ.1 hk).1).trans hk⟩ ⟨ha.size,λk hk=>ha.block k (hCl k hk)⟩ ⟨hi.1.below ha,ak hi.2.1 ha,ajA hi.2.2.1 ha.size,hi.2.2.2⟩ ⟨X.heap.size,hi.2.2.1,akv X _,rfl⟩
  case body =>
   rintro l pre x a' X hl hr hi ⟨b,hb1,hb2,rfl⟩ hN;have hbl:=(akJ.1 hb2).1;have Y:RB X b x.2.1.k x.2.1.q x.2.1.t x.2.1.s x.2.1.h x.2.1.d:=⟨hbl,by rw[aky X b 0 _ _ _ hb2];rfl,by rw[aky X b 1 _ _ _ hb2];rfl,by rw[aky X b 2 _ _ _ hb2];rfl,by rw[aky X b 3 _ _ _ hb2];rfl,by rw[aky X b 4 _ _ _ hb2];rfl,by rw[aky X b 5 _ _ _ hb2];rfl,λj=>alz X b j _ _ hb2⟩;have HY:=aj Y;have HI:=aj hi;have hCl:∀k,Cs k->k<X.heap.size:=λk hk=>by have:=ah HCs k hk;have:=hi.2.1.size;omega
   have HCl:=aj hCl;have cf:=hi.1.cf;have PT:=aj (JR f x.2.1 hf x.2.2.s X);obtain⟨_,y0,y1,y2,y3,y4,y5,_⟩:=Y;have hft:Fence.wide.fn 200:=trivial;have hfc:Fence.wide.fn 74:=trivial;clear hi hCl hb2
   cases hm:aN f x.2.1.s with
   | false =>
    have Hm:=aj hm;rw[hm] at PT;clear hm;gi_wp2_with (gi_at_call 200;refine(CallsIn.inRound l (alM.2 (ah PT))).mono ?_;rintro e w2 ⟨rfl,b2⟩)
    refine⟨⟨b2.size,λk o _ hk _=>(b2.block k (akJ.1 hk).1).trans hk⟩,⟨b2.size,λk hk=>b2.block k (ah HCl k hk)⟩,(ah HI).1.below b2,ak (ah HI).2.1 b2,ajA (ah HI).2.2.1 b2.size,λz hz=>?_⟩;rcases akg.1 hz with q|q
    ·exact(ah HI).2.2.2 z q
    ·rw[akd.1 q];exact ah Hm
   | true =>
    have Hm:=aj hm;rw[hm] at PT;clear hm;have PC:Hid (∀X2,Calls prog 74 #[.agg #[aa x.2.1.k,aa x.2.1.q,aa x.2.1.t,.string x.2.1.s,.string x.2.1.h,.string x.2.1.d]] X2 λe w'=>e=.returned (.agg #[aa x.2.1.k,aa x.2.1.q,aa x.2.1.t,.string x.2.1.s,.string x.2.1.h,.string x.2.1.d])/\ai X2 w'):=aj (λX2=>vX x.2.1 x.2.2 X2);gi_wp2_with (first
     | (gi_at_call 200;refine(CallsIn.inRound l (alM.2 (ah PT))).mono ?_;rintro e w2 ⟨rfl,b2⟩;obtain⟨_,z0,z1,z2,z3,z4,z5,_⟩:=(ah HY).next b2;have HX2:=aj ((ah HI).1.below b2))
     | (gi_at_call 74;refine(CallsIn.inRound l (alM.2 (ah PC _))).mono ?_;rintro e w3 ⟨rfl,b3⟩;have HX3:=aj ((ah HX2).below b3);obtain⟨_,⟨_,v0,v1,v2,v3,v4,v5,gz⟩,xe,fe,_⟩:=ah HX3;have g0:=gz 0;have g1:=gz 1;have g2:=gz 2;have g3:=gz 3;have g4:=gz 4;have g5:=gz 5;clear gz))
    have h23:=ak b2 b3;have hcp:=zV w.heap.size w3 x.2.1 0;refine⟨⟨ajA h23.size hcp.size,λk o hkB hk _=>?_⟩,rfl,pre,x,rfl,(ah HI).2.2.2,ah Hm,(ah HX3).put x.2.1 0,xZ (ak (ah HI).2.1 h23) x.2.1 0⟩;have hkl:=(akJ.1 hk).1;exact(hcp.block k (ajz hkl h23.size) (by omega)).trans ((h23.block k hkl).trans hk)
  case done =>
   rintro D ys X hD hS ⟨hx,hb,hs,hn⟩ hK;have HR:Hid (jk f (zs.find? λr=>aN f r.s)=.tuple #[rcV eU,aa 4]):=aj (by unfold jk;rw[if_pos (ah HE),JX hS hn];rfl);have hDl:=(akJ.1 hK).1;have HX:=aj hx;obtain⟨_,⟨_,v0,v1,v2,v3,v4,v5,gz⟩,xe,fe,_⟩:=ah HX;have g0:=gz 0;have g1:=gz 1;have g2:=gz 2;have g3:=gz 3;have g4:=gz 4;have g5:=gz 5;have hcp:=zV w.heap.size X eU 4;have yP:=aj ((hcp.block D hDl (by omega)).trans hK);have HG:=aj (aA.bC (grownBy_putObj' (UM w.heap.size X eU 4) D (.deferred none)));have HX4:=aj ((hx.put eU 4).aF (ah HG) (λk hk z=>by have:=ajU z;omega))
   have HB4:=aj ((xZ hb eU 4).trans ((ah HG).below (ajA hb.size hcp.size) (λk hk z=>by have:=ajU z;omega)));clear gz hcp hS hn hx hb hK;gi_wp2
   refine⟨by simp,.inl ⟨_,_,rfl,run_takeDeferred (ah yP),?_⟩⟩;exact⟨_,uO rfl rfl rfl (ah HX4).rr (ah HX4).ce,by rw[ah HR];rfl,ah HB4⟩
  case stop =>
   rintro D c pre X hD hS ⟨rfl,ac0,x,rfl,h3,h4,h5,h6⟩ hK;have HR:Hid (jk f (zs.find? λr=>aN f r.s)=.tuple #[rcV x.2.1,aa 0]):=aj (by unfold jk;rw[if_pos (ah HE),Zo hS h3 h4];rfl);have HG:=aj (aA.bC (grownBy_putObj' X D (.deferred none)));have HX4:=aj (h5.aF (ah HG) (λk hk z=>by have:=ajU z;omega));have HB4:=aj (h6.trans ((ah HG).below h6.size (λk hk z=>by have:=ajU z;have:=(ah HB1).size;omega)));clear hS h3 h4 h5 h6;gi_wp2
   refine⟨by simp,.inl ⟨_,_,rfl,run_takeDeferred hK,?_⟩⟩;exact⟨_,uO rfl rfl rfl (ah HX4).rr (ah HX4).ce,by rw[ah HR];rfl,ah HB4⟩
 ·refine(alM.2 (ah HF)).mono ?_;rintro e w1 ⟨rfl,b1⟩;obtain⟨E,hE⟩:∃E,E=aC true f:=⟨_,rfl⟩;have HR:Hid (jk f (zs.find? λr=>aN f r.s)=.tuple #[rcV eU,aa E]):=aj (by unfold jk;rw[if_neg he,hE]);rw[<-hE] at he ⊢;have HB1:=aj (ak (ah Hb0) b1);have HX1:=aj ((ah HX0).below b1);obtain⟨_,⟨_,x0,x1,x2,x3,x4,x5,gz⟩,xe,fe,_⟩:=ah HX1;have g0:=gz 0;have g1:=gz 1;have g2:=gz 2;have g3:=gz 3;have g4:=gz 4;have g5:=gz 5;clear gz HF HX0 Hb0 b1 hE;gi_wp2_with fail
  have X2:=(ah HX1).put eU E;exact⟨_,uO rfl rfl rfl X2.rr X2.ce,by rw[ah HR];rfl,xZ (ah HB1) eU E⟩
theorem afs (hf:aC true f=0)(hz:∀x∈zs,aC false x.s=0):zs.find? (λr=>aN f r.s)=zs.find? (λr=>ng f r.s) :=
 AY (λx hx=>by unfold aN ng;rw[hf,hz x hx];simp)
theorem Zp (f:ad)(l:List Rc):ni f l=l.reverse.find? λr=>ng f r.s:=by
 unfold ni TI;rw[List.getLast?_eq_head?_reverse,<-List.filter_reverse,List.head?_filter]
theorem JZ {o:Option Rc}(hz:∀x∈zs,aC false x.s=0)(h:o=zs.find? λr=>ng f r.s):jk f (zs.find? λr=>aN f r.s)=jk f o:=by
 unfold jk;by_cases e:aC true f=0
 ·rw[if_pos e,if_pos e,afs e hz,h]
 ·rw[if_neg e,if_neg e]
theorem UN (a:Option Addr)(len cap:Nat)(w:I) :
 Calls prog 164 #[.slice a len cap] w λe w'=>e=.returned (.func (.func 208) #[] #[.pointer (some ⟨w.heap.size,0,none⟩)])/\w'=w.alloc (.cells #[.slice a len cap] 41):=by
 go_enter func164,ntmps164;go_wp2;go_ret;exact⟨rfl,rfl⟩
theorem J4 (a:Option Addr)(len cap:Nat)(w:I) :
 Calls prog 155 #[.slice a len cap] w λe w'=>e=.returned (.func (.func 201) #[] #[.pointer (some ⟨w.heap.size,0,none⟩)])/\w'=w.alloc (.cells #[.slice a len cap] 41):=by
 go_enter func155,ntmps155;go_wp2;go_ret;exact⟨rfl,rfl⟩
theorem UO (f:ad)(hf:f.size<=140737488355328)(a:Option Addr)(zs:List Rc)(cap:Nat)(w:I)(hc:H6 w a zs)(ha:∀z,a=some z->z.block<w.heap.size)(hz:∀x∈zs,Small x)(hlen:zs.length<=1000) :
 Calls prog 154 #[.string f,.func (.func 208) #[] #[.pointer (some ⟨w.heap.size,0,none⟩)]] (w.alloc (.cells #[.slice a zs.length cap] 41)) λe w'=>e=.returned (jk f (zs.reverse.find? λr=>aN f r.s))/\ai w w':=by
 have hb:ai w (w.alloc (.cells #[.slice a zs.length cap] 41)):=ax _ _;have hC:∀k,(k=w.heap.size\/∃z,a=some z/\z.block=k)->k<(w.alloc (.cells #[.slice a zs.length cap] 41)).heap.size:=λk hk=>by
  rw[alH];rcases hk with rfl|⟨z,e,rfl⟩
  ·omega
  ·have:=ha z e;omega
 have hcell:(w.alloc (.cells #[.slice a zs.length cap] 41)).cell? (aq w.heap.size 0)=some (.slice a zs.length cap):=by
  rw[aky _ w.heap.size 0 _ _ _ (akv w _)];rfl
 refine(JY f hf zs.reverse _ _ (λk=>k=w.heap.size\/∃z,a=some z/\z.block=k) _ hC (enters_of func208 (by kernel_rfl) rfl) (λW0 h0=>?_)).mono ?_
 ·have hs:=rG h0 hC;have:=O7 Fence.wide 7 trivial rfl (by omega) w.heap.size (λk=>k=w.heap.size\/∃z,a=some z/\z.block=k) a zs cap (λk hk=>hz _ (uj hk)) hlen (.inl rfl) (λz e=>.inr ⟨z,e,rfl⟩) W0 (λk hk=>ajz (hC k hk) h0.size) ((hs.cell (.inl rfl)).trans hcell) (hs.recs (hc.below hb) (λz e=>.inr ⟨z,e,rfl⟩));rw[List.length_reverse];exact this
 ·rintro e w' ⟨he,h2⟩;exact⟨he,ak hb h2⟩
theorem J5 (f:ad)(hf:f.size<=140737488355328)(a:Option Addr)(zs:List Rc)(cap:Nat)(w:I)(hc:H6 w a zs)(ha:∀z,a=some z->z.block<w.heap.size)(hz:∀x∈zs,Small x)(hlen:zs.length<=1000) :
 Calls prog 154 #[.string f,.func (.func 201) #[] #[.pointer (some ⟨w.heap.size,0,none⟩)]] (w.alloc (.cells #[.slice a zs.length cap] 41)) λe w'=>e=.returned (jk f (zs.find? λr=>aN f r.s))/\ai w w':=by
 have hb:ai w (w.alloc (.cells #[.slice a zs.length cap] 41)):=ax _ _;have hC:∀k,(k=w.heap.size\/∃z,a=some z/\z.block=k)->k<(w.alloc (.cells #[.slice a zs.length cap] 41)).heap.size:=λk hk=>by
  rw[alH];rcases hk with rfl|⟨z,e,rfl⟩
  ·omega
  ·have:=ha z e;omega
 have hcell:(w.alloc (.cells #[.slice a zs.length cap] 41)).cell? (aq w.heap.size 0)=some (.slice a zs.length cap):=by
  rw[aky _ w.heap.size 0 _ _ _ (akv w _)];rfl
 refine(JY f hf zs _ _ (λk=>k=w.heap.size\/∃z,a=some z/\z.block=k) _ hC (enters_of func201 (by kernel_rfl) rfl) (λW0 h0=>?_)).mono ?_
 ·have hs:=rG h0 hC;exact TU Fence.wide 7 trivial rfl (by omega) w.heap.size (λk=>k=w.heap.size\/∃z,a=some z/\z.block=k) a zs cap (λk hk=>hz _ (uj hk)) hlen (.inl rfl) (λz e=>.inr ⟨z,e,rfl⟩) W0 (λk hk=>ajz (hC k hk) h0.size) ((hs.cell (.inl rfl)).trans hcell) (hs.recs (hc.below hb) (λz e=>.inr ⟨z,e,rfl⟩))
 ·rintro e w' ⟨he,h2⟩;exact⟨he,ak hb h2⟩
theorem bI.blk {a:Option Addr}{n:Nat}(h:bI w B (.slice a n c) l):∀z,a=some z->z.block<w.heap.size:=λz e=>by
 rcases h.2 with ⟨h1,_⟩|⟨g,cap,cur,h1,h2,h3,_⟩
 ·obtain⟨rfl,_,_⟩:=akE h1
  cases e
 ·obtain⟨rfl,_,_⟩:=akE h1
  cases e
  exact(akJ.1 h3).1
theorem CU (f:ad)(o:Option Rc):∃(y:Rc) (E:Int),jk f o=.tuple #[.agg #[aa y.k,aa y.q,aa y.t,.string y.s,.string y.h,.string y.d],aa E]:=by
 unfold jk;by_cases e:aC true f=0
 ·rw[if_pos e]
  cases o with
  | none=>exact⟨eU,4,rfl⟩
  | some r=>exact⟨r,0,rfl⟩
 ·rw[if_neg e];exact⟨eU,_,rfl⟩
theorem Zq (f:ad)(hf:f.size<=140737488355328)(h:oU w B q v u l es last)(iE:l.length<=200)(hm:∀x∈l,Small x)(hr:∀x∈l,aC false x.s=0) :
 Calls prog 124 #[ae q,.string f] w λe w'=>e=.returned (jk f (ni f l))/\ai w w':=by
 obtain⟨w0,hw0⟩:∃w0,w0=w.alloc (.cells #[aa 0,aa 0,aa 0,.string ⟨#[]⟩,.string ⟨#[]⟩,.string ⟨#[]⟩] 46):=⟨_,rfl⟩;have hb0:ai w w0:=by rw[hw0];exact ax _ _
 have h0:=h.below hb0;have Z0:RF w0 w.heap.size eU:=by rw[hw0];exact RF.new w eU
 obtain⟨a,cap,rfl,c1,c2,hsl⟩:=h0.msgs.shape;have d0:=h.c0;have Di:=h.lt;have P:=aj (UO f hf a l cap w0 hsl h0.msgs.blk hm (by omega));have HR:=aj (JZ (f:=f) (zs:=l.reverse) (o:=ni f l) (λx hx=>hr x (List.mem_reverse.1 hx)) (Zp f l));rw[ah HR] at P;obtain⟨y,E,hy⟩:=CU f (ni f l);rw[hy] at P ⊢;have HZ:=aj Z0;have Hb0:=aj hb0;clear h h0 hsl hm hr HR hy hb0 Z0;go_enter func124,ntmps124;go_wp2_with fail;rw[<-hw0];refine(UN a l.length cap _).mono ?_;rintro e w1 ⟨rfl,rfl⟩;clear hw0 d0;go_wp2_with fail;refine(ah P).mono ?_;rintro e w2 ⟨rfl,b2⟩
 have Z2:=aj ((ah HZ).next b2);have B2:=aj (ak (ah Hb0) b2);obtain⟨_,y0,y1,y2,y3,y4,y5,gz⟩:=(ah Z2).rb;have g0:=gz 0;have g1:=gz 1;have g2:=gz 2;have g3:=gz 3;have g4:=gz 4;have g5:=gz 5;clear gz b2 P HZ Hb0;go_wp2_with fail;refine ajY (eu rfl rfl ((ah Z2).rb.gG y.k y.q y.t y.s y.h y.d)) rfl ?_;exact⟨rfl,eY (ah B2) (agH _)⟩
theorem aft (l:List Rc)(p k:Nat):rc (l.drop p) k=rc l (p+k):=by unfold rc;rw[akG]
theorem Zr (f:ad)(n:Int)(hf:f.size<=140737488355328)(h:oU w B q v u l es last)(hi:jI l)(iE:l.length<=200)(hm:∀x∈l,Small x)(hr:∀x∈l,aC false x.s=0) :
 Calls prog 113 #[ae q,.string f,aa n] w λe w'=>e=.returned (jk f (aV f l n))/\ai w w':=by
 obtain⟨w0,hw0⟩:∃w0,w0=w.alloc (.cells #[aa 0,aa 0,aa 0,.string ⟨#[]⟩,.string ⟨#[]⟩,.string ⟨#[]⟩] 46):=⟨_,rfl⟩;have hb0:ai w w0:=by rw[hw0];exact ax _ _
 have h0:=h.below hb0;have Z0:RF w0 w.heap.size eU:=by rw[hw0];exact RF.new w eU
 have PP:=aj (oJ n h0 hi iE);have HR:=aj (JZ (f:=f) (zs:=l.drop (pq l n)) (o:=aV f l n) (λx hx=>hr x (akP hx)) (TL hi f n));obtain⟨y,E,hy⟩:=CU f (aV f l n);have hpl:=V6 l n;obtain⟨p,hp⟩:∃p,p=pq l n:=⟨_,rfl⟩;rw[<-hp] at PP HR hpl;rw[hy] at HR ⊢;have HZ:=aj Z0;have Hb0:=aj hb0;have H0:=aj h0;have HM:=aj hm;clear h0 hr hy hb0 Z0 hi hp hm;by_cases hlt:p<l.length
 ·obtain⟨g,cap,rfl,c1,c2,c3,c4⟩:=h.msgs.there (by omega);unfold maxLen at c2;have e1:(p:Int)<=(l.length:Int):=by omega
  have e2:¬cap=p:=by omega
  have e3:(0:Int)<=(p:Int):=by omega
  clear h;go_enter func113,ntmps113;go_wp2_with fail;rw[<-hw0];refine(ah PP).mono ?_;rintro e w1 ⟨rfl,b1⟩;have h1:=(ah H0).below b1;have d0:=h1.c0;have hsl:H6 w1 (some ⟨g,p*6,none⟩) (l.drop p):=λk hk=>by
   rw[ajI] at hk;have s6:=h1.msgs.six (k:=p+k) (by omega);refine⟨g,p*6,rfl,?_⟩;rw[aft,show p*6+k*6=(p+k)*6 by omega];exact s6
  have P:=aj (J5 f hf (some ⟨g,p*6,none⟩) (l.drop p) (cap-p) w1 hsl (λz e=>by cases e;exact(h1.msgs.lt g rfl).2) (λx hx=>ah HM x (akP hx)) (by rw[ajI];omega));rw[ah HR,ajI] at P;have Z1:=aj ((ah HZ).next b1);have B1:=aj (ak (ah Hb0) b1);clear hw0 b1 PP H0 HZ Hb0 h1 hsl HR HM;go_wp2_with fail;refine(J4 _ _ _ _).mono ?_;rintro e w2 ⟨rfl,rfl⟩;go_wp2_with fail;refine(ah P).mono ?_;rintro e w2 ⟨rfl,b2⟩;have Z2:=aj ((ah Z1).next b2);have B2:=aj (ak (ah B1) b2);obtain⟨_,y0,y1,y2,y3,y4,y5,gz⟩:=(ah Z2).rb
  have g0:=gz 0;have g1:=gz 1;have g2:=gz 2;have g3:=gz 3;have g4:=gz 4;have g5:=gz 5;clear gz b2 P Z1 B1 d0;go_wp2_with fail;refine ajY (eu rfl rfl ((ah Z2).rb.gG y.k y.q y.t y.s y.h y.d)) rfl ?_;exact⟨rfl,eY (ah B2) (agH _)⟩
 ·have hpe:p=l.length:=by omega
  have hde:l.drop p=[]:=aki (by omega);subst hpe;obtain⟨a,cap,rfl,c1,c2,_⟩:=h.msgs.shape;unfold maxLen at c2;have hbk:=h.msgs.blk;have P:Hid (∀a' c' w1,(∀z,a'=some z->z.block<w1.heap.size)->Calls prog 154 #[.string f,.func (.func 201) #[] #[.pointer (some ⟨w1.heap.size,0,none⟩)]] (w1.alloc (.cells #[.slice a' 0 c'] 41)) λe w'=>e=.returned (.tuple #[.agg #[aa y.k,aa y.q,aa y.t,.string y.s,.string y.h,.string y.d],aa E])/\ai w1 w'):=aj (λa' c' w1 hz=>by
   have:=J5 f hf a' [] c' w1 (λk hk=>by cases hk) hz (λx hx=>by cases hx) (by simp);rw[<-hde,ah HR] at this;rw[hde] at this;exact this)
  clear h hlt;go_enter func113,ntmps113;go_wp2_with fail;rw[<-hw0];refine(ah PP).mono ?_;rintro e w1 ⟨rfl,b1⟩;have d0:=((ah H0).below b1).c0;have Z1:=aj ((ah HZ).next b1);have B1:=aj (ak (ah Hb0) b1);have HK:Hid (∀z,a=some z->z.block<w1.heap.size):=aj (λz e=>ajz (hbk z e) (ah B1).size);have yP:Hid (∀z,Option.map (λx:Addr=>x.add (l.length*6)) a=some z->z.block<w1.heap.size):=aj (λz e=>by
   cases a with
   | none=>cases e
   | some x =>
    have e:x.add (l.length*6)=z:=by simpa using e
    rw[<-e];have:(x.add (l.length*6)).block=x.block:=by unfold Addr.add;split<;>rfl
    rw[this];exact ah HK x rfl)
  clear hw0 b1 PP H0 HZ Hb0 HR HM hbk;go_wp2_with fail;all_goals
   refine(J4 _ _ _ _).mono ?_
   rintro e w2 ⟨rfl,rfl⟩
   go_wp2_with fail
   refine(ah P _ _ _ (by first|exact ah HK|exact ah yP)).mono ?_
   rintro e w2 ⟨rfl,b2⟩
   have Z2:=aj ((ah Z1).next b2)
   have B2:=aj (ak (ah B1) b2)
   obtain⟨_,y0,y1,y2,y3,y4,y5,gz⟩:=(ah Z2).rb
   have g0:=gz 0
   have g1:=gz 1
   have g2:=gz 2
   have g3:=gz 3
   have g4:=gz 4
   have g5:=gz 5
   clear gz b2 P Z1 B1 d0
   go_wp2_with fail
   refine ajY (eu rfl rfl ((ah Z2).rb.gG y.k y.q y.t y.s y.h y.d)) rfl ?_
   exact⟨rfl,eY (ah B2) (agH _)⟩
end Dk
namespace Dk
theorem aH.Ok.smalls {s:aH}(h:s.Ok):∀x∈s.l,Small x:=λx hx=>Small.of (h.msg x hx).2
theorem aH.Ok.rights {s:aH}(h:s.Ok):∀x∈s.l,aC false x.s=0:=λx hx=>lQ (h.msg x hx).2 (h.msg x hx).1
theorem UQ:jF rO where
 own:=λh=>h.own
 aF:=λh hc hn=>h.aF hc hn
 new:=λw=>(QO w).mono (by
  rintro e w' ⟨rfl,h,hb⟩;exact⟨_,_,rfl,⟨_,_,[],h,Cnt.nil,rfl⟩,hb⟩)
 apply:=λr hm h hk hB=>by
  obtain⟨v,u,es,h1,h2,rfl⟩:=h;refine(Gv r hm h1 h2 hk hB).mono ?_;rintro e w' ⟨he,es',m,c⟩;exact⟨he,rO.did m c⟩
 all:=λh hk hB=>by
  obtain⟨v,u,es,h1,h2,rfl⟩:=h;exact QS h1 hk.few hk.smalls
 sums:=λh hk hB=>by
  obtain⟨v,u,es,h1,h2,rfl⟩:=h;exact QU h1 hk.few (λx hx=>hk.small hx)
 last:=λf hf h hk hB=>by
  obtain⟨v,u,es,h1,h2,rfl⟩:=h;exact Zq f hf h1 hk.few hk.smalls hk.rights
 next:=λf n hf h hk hB=>by
  obtain⟨v,u,es,h1,h2,rfl⟩:=h;exact Zr f n hf h1 hk.rise hk.few hk.smalls hk.rights
theorem agF:xU rO where
 Qr:=by
  intro w B q F s f es hf h hk hB hc;obtain⟨v,u,es',h1,h2,rfl⟩:=h;rw[hc.same h2];exact acP f hf h1 h2.good
theorem ahM:V9 rO where
 tries:=λr hm h hk hB=>by
  obtain⟨v,u,es,h1,h2,rfl⟩:=h;exact Gu r hm h1 h2 hk
 gets:=λn h hk hB=>by
  obtain⟨v,u,es,h1,h2,rfl⟩:=h;exact acQ n h1 hk.rise hk.few hk.smalls
