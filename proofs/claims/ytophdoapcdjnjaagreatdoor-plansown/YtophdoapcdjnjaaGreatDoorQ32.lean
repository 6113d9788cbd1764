/- A part. -/
import Derived.Test.YtophdoapcdjnjaaGreatDoorQ17
import Derived.Test.YtophdoapcdjnjaaGreatDoorQ31
set_option maxRecDepth 100000
set_option maxHeartbeats 8000000
namespace Go.Proofs.YtophdoapcdjnjaaGreatDoor
open Go.RowKit Go.Proofs.Tryz
namespace Dk
open Go.Shelf
attribute [local go_sem] Oper.semAt_some
structure Bx (p:Nat)(W:World)(f:ByteArray)(r:Rc)(e:Int):Prop where
 cf:W.cell? ⟨p,0,none⟩=some (.string f)
 rr:RB W (p+1) r.k r.q r.t r.s r.h r.d
 ce:W.cell? ⟨p+1+1,0,none⟩=some (.int .i64 e)
 fe:W.frozen? ⟨p+1+1,0,none⟩=false
 lt:p+1+1<W.heap.size
theorem Bx.bW {A:Nat->Prop}{p:Nat}{W W':World}{f:ByteArray}{r:Rc}{e:Int}(h:Bx p W f r e)(hc:aF A W W')(hn:∀k,k<=p+1+1->¬A k):Bx p W' f r e:=by
 have hl:=h.lt;have n0:¬A p:=hn p (by omega);have n1:¬A (p+1):=hn (p+1) (by omega);have n2:¬A (p+1+1):=hn (p+1+1) (by omega);have l0:p<W.heap.size:=by omega
 refine⟨?_,Iu h.rr hc n1,?_,?_,Nat.lt_of_lt_of_le h.lt hc.size⟩
 ·rw[hc.cell (p:=⟨p,0,none⟩) l0 n0];exact h.cf
 ·rw[hc.cell (p:=⟨p+1+1,0,none⟩) hl n2];exact h.ce
 ·rw[hc.frozen (p:=⟨p+1+1,0,none⟩) hl n2];exact h.fe
theorem Bx.below {p:Nat}{W W':World}{f:ByteArray}{r:Rc}{e:Int}(h:Bx p W f r e)(hb:Below W.heap.size W W'):Bx p W' f r e:=h.bW (A:=λ_=>False) (aF.of_below hb) (λ_ _ z=>z)
def Iz (p:Nat)(W:World)(y:Rc)(e:Int):World:=((((((W.setCell ⟨p+1,0,none⟩ (.int .i64 y.k)).setCell ⟨p+1,1,none⟩ (.int .i64 y.q)).setCell ⟨p+1,2,none⟩ (.int .i64 y.t)).setCell ⟨p+1,3,none⟩ (.string y.s)).setCell ⟨p+1,4,none⟩ (.string y.h)).setCell ⟨p+1,5,none⟩ (.string y.d)).setCell ⟨p+1+1,0,none⟩ (.int .i64 e)
theorem sO (p:Nat)(W:World)(y:Rc)(e:Int):aF (λk=>k=p+1\/k=p+1+1) W (Iz p W y e):=by
 unfold Iz;exact((((((((aF.refl _ W).setCell (p:=⟨p+1,0,none⟩) (.inl (.inl rfl)) _).setCell (p:=⟨p+1,1,none⟩) (.inl (.inl rfl)) _).setCell (p:=⟨p+1,2,none⟩) (.inl (.inl rfl)) _).setCell (p:=⟨p+1,3,none⟩) (.inl (.inl rfl)) _).setCell (p:=⟨p+1,4,none⟩) (.inl (.inl rfl)) _).setCell (p:=⟨p+1,5,none⟩) (.inl (.inl rfl)) _).setCell (p:=⟨p+1+1,0,none⟩) (.inl (.inr rfl)) _)
theorem qH {w W:World}(h:Below w.heap.size w W)(y:Rc)(e:Int):Below w.heap.size w (Iz w.heap.size W y e) :=
 h.trans ((sO w.heap.size W y e).below h.size (λk hk z=>by omega))
theorem Bx.put {p:Nat}{W:World}{f:ByteArray}{r:Rc}{e:Int}(h:Bx p W f r e)(y:Rc)(e':Int):Bx p (Iz p W y e') f y e':=by
 have hl:=h.lt;have hc:=sO p W y e';refine⟨?_,?_,?_,?_,Nat.lt_of_lt_of_le h.lt hc.size⟩
 ·have l0:p<W.heap.size:=by omega
  have n0:¬(p=p+1\/p=p+1+1):=by omega
  rw[hc.cell (p:=⟨p,0,none⟩) l0 n0];exact h.cf
 ·exact(h.rr.jo y.k y.q y.t y.s y.h y.d).other (c:=p+1+1) (i:=0) (v:=.int .i64 e') (by omega)
 ·unfold Iz;refine World.cell?_setCell_same' _ _ _ ?_;iterate 6 rw[World.cell?_setCell_other _ _ _ _ (by simp)]
  rw[h.ce];rfl
 ·unfold Iz;iterate 7 rw[World.frozen?_setCell]
  exact h.fe
theorem Bx.new (w:World)(f:ByteArray)(T:TypeId)(T2:TypeId):Bx w.heap.size (((w.alloc (.cells #[.string f] T)).alloc (.cells #[.int .i64 0,.int .i64 0,.int .i64 0,.string ⟨#[]⟩,.string ⟨#[]⟩,.string ⟨#[]⟩] 45)).alloc (.cells #[.int .i64 0] T2)) f dH 0:=by
 have r1:=RB.new (w.alloc (.cells #[.string f] T)) 0 0 0 ⟨#[]⟩ ⟨#[]⟩ ⟨#[]⟩ 45;rw[World.size_alloc] at r1;have hs:((w.alloc (.cells #[.string f] T)).alloc (.cells #[.int .i64 0,.int .i64 0,.int .i64 0,.string ⟨#[]⟩,.string ⟨#[]⟩,.string ⟨#[]⟩] 45)).heap.size=w.heap.size+1+1:=by simp
 have hn:=heap_alloc_new ((w.alloc (.cells #[.string f] T)).alloc (.cells #[.int .i64 0,.int .i64 0,.int .i64 0,.string ⟨#[]⟩,.string ⟨#[]⟩,.string ⟨#[]⟩] 45)) (.cells #[.int .i64 0] T2);rw[hs] at hn;refine⟨?_,r1.alloc _,?_,?_,by simp⟩
 ·rw[World.cell?_alloc_lt _ _ _ (by simp<;>omega),World.cell?_alloc_lt _ _ _ (by simp<;>omega),cell_of_row _ w.heap.size 0 _ _ _ (heap_alloc_new w _)];rfl
 ·rw[cell_of_row _ _ 0 _ _ _ hn];rfl
 ·exact frozen_of_row _ _ 0 _ _ hn
theorem oG {fn:Func}{a u:Tmp}{tmps:Array Value}{w:World}{b c:Nat}{k q t e:Int}{s h d:ByteArray}(hf:fn.results=#[.cell a 45,.cell u 30])(ha:tmps.getD a undef=.pointer (some ⟨b,0,none⟩))(hu:tmps.getD u undef=.pointer (some ⟨c,0,none⟩))(r:RB w b k q t s h d)(hc:w.cell? ⟨c,0,none⟩=some (.int .i64 e)) :
 (results fn tmps).run prog w=.ok (.tuple #[.agg #[.int .i64 k,.int .i64 q,.int .i64 t,.string s,.string h,.string d],.int .i64 e]) w:=by
 have ha':tmps[a]?.getD undef=.pointer (some ⟨b,0,none⟩):=by simpa using ha
 have hu':tmps[u]?.getD undef=.pointer (some ⟨c,0,none⟩):=by simpa using hu
 have hl:(loadVar 30 ⟨c,0,none⟩).run prog w=.ok (.int .i64 e) w:=by
  simp[loadVar,isAgg,hc]
 simp[results,hf,ha',hu',asAddr,qX r,hl]
theorem Ar {f:ByteArray}{zs:List Rc}{ys:List (Int×Sm)}(h:ys.map (λx=>x.2.1)=zs)(hn:∀x∈ys,aI f x.2.1.s=false):zs.find? (λr=>aI f r.s)=none:=by
 rw[List.find?_eq_none,<-h];intro r hr;obtain⟨x,hx,rfl⟩:=List.mem_map.1 hr;simp[hn x hx]
theorem Ns {f:ByteArray}{zs:List Rc}{pre:List (Int×Sm)}{x:Int×Sm}(h:Ae zs (pre++[x]))(hn:∀y∈pre,aI f y.2.1.s=false)(hx:aI f x.2.1.s=true):zs.find? (λr=>aI f r.s)=some x.2.1:=by
 obtain⟨t,rfl⟩:=h;rw[List.map_append,List.append_assoc,List.find?_append,Ar (f:=f) (ys:=pre) rfl hn];simp[hx]
theorem Au (f:ByteArray)(hf:f.size<=140737488355328)(zs:List Rc)(gf:Nat)(lb:Array Value)(Cs:Nat->Prop)(w:World)(hC:∀k,Cs k->k<w.heap.size)
 (eg:∀args w,(callFunc gf args).run prog w=.ok (.enter gf args) w)
 (hseq:∀W0,Below w.heap.size w W0->SeqStopsK Fence.wide 7 prog gf lb encR (eP Cs) (λys=>ys.map (λx=>x.2.1)=zs) (Ae zs) zs.length W0) :
 Calls prog 90 #[.string f,.func (.func gf) #[] lb] w λe w'=>e=.returned (gJ f (zs.find? λr=>aI f r.s))/\Below w.heap.size w w':=by
 refine(callsIn_wide (n:=8)).1 ?_;obtain⟨W,hW⟩:∃W,W=((w.alloc (.cells #[.string f] 9)).alloc (.cells #[.int .i64 0,.int .i64 0,.int .i64 0,.string ⟨#[]⟩,.string ⟨#[]⟩,.string ⟨#[]⟩] 45)).alloc (.cells #[.int .i64 0] 30):=⟨_,rfl⟩;have hb0:Below w.heap.size w W:=by rw[hW];exact(((Below.refl _ _).alloc (Nat.le_refl _) _).alloc (by simp) _).alloc (by simp;omega) _
 have X0:Bx w.heap.size W f dH 0:=by rw[hW];exact Bx.new w f _ _
 have HF:=aj (filter_any f W hf);have HQ:=aj hseq;have Hb0:=aj hb0;have HX0:=aj X0;have HCs:=aj hC;have HEg:=aj eg;clear hseq hb0 X0 hC eg;refine callsIn_of_wp_marks func90 rfl trivial ?_ rfl;simp only[ntmps90,List.size_toArray,List.length_cons,List.length_nil,Nat.reduceAdd,Nat.reduceSub,Array.replicate_succ,Array.replicate_zero,List.push_toArray,List.append_toArray,List.nil_append,List.cons_append];have hfF:Fence.wide.fn 41:=trivial;gi_wp2_with fail
 rw[<-hW];clear hW;by_cases he:aB true f=0
 ·refine(callsIn_wide.2 (ah HF)).mono ?_;rintro e w1 ⟨rfl,b1⟩;rw[he];have HE:=aj he;have HB1:=aj (aA (ah Hb0) b1);have Yy:=aj ((ah HX0).below b1);clear he HF HX0 Hb0 b1;gi_wp2_with fail
  have hlt1:=(ah Yy).lt;have hI:OwnFrom w1.heap.size (λ(pre:List (Int×Sm)) X=>Bx w.heap.size X f dH 0/\Below w.heap.size w X/\w1.heap.size<=X.heap.size/\∀x∈pre,aI f x.2.1.s=false):=λs X Y row hs hg hr =>
   ⟨hs.1.bW (aF.cu hg) (λk hk z=>by have:=(hr k z).1;omega),hs.2.1.trans ((aF.cu hg).below hs.2.1.size (λk hk z=>by have:=(hr k z).1;omega)),Nat.le_trans hs.2.2.1 hg.size,hs.2.2.2⟩
  have hIx:∀c:Code,OwnFrom w1.heap.size (λ(pre:List (Int×Sm)) X=>c=.ret/\∃Q9 x,pre=Q9++[x]/\(∀y∈Q9,aI f y.2.1.s=false)/\aI f x.2.1.s=true/\Bx w.heap.size X f x.2.1 0/\Below w.heap.size w X):=λc s X Y row hs hg hr=>by
   obtain⟨h1,Q9,x,h2,h3,h4,h5,h6⟩:=hs;exact⟨h1,Q9,x,h2,h3,h4,h5.bW (aF.cu hg) (λk hk z=>by have:=(hr k z).1;omega),h6.trans ((aF.cu hg).below h6.size (λk hk z=>by have:=(hr k z).1;omega))⟩
  have hAx:∀(x:Int×Sm) (a':Act),OwnFrom w1.heap.size (λ(_:Unit) X=>∃b,w1.heap.size<=b/\X.heap[b]?=some (.cells #[.int .i64 x.2.1.k,.int .i64 x.2.1.q,.int .i64 x.2.1.t,.string x.2.1.s,.string x.2.1.h,.string x.2.1.d] 45 (0,0))/\a'={tmps:=#[.string f,.func (.func gf) #[] lb,.pointer (some ⟨w.heap.size,0,none⟩),undef,.pointer (some ⟨w.heap.size+1,0,none⟩),.pointer (some ⟨w.heap.size+1+1,0,none⟩),.int .i64 0,undef,.pointer (some ⟨b,0,none⟩),.string f,.int .i64 0,.int .i64 0,.bool false,undef,undef,.func (.func gf) #[] lb,.int .i64 x.1,.agg #[.int .i64 x.2.1.k,.int .i64 x.2.1.q,.int .i64 x.2.1.t,.string x.2.1.s,.string x.2.1.h,.string x.2.1.d],undef,undef,undef,undef,undef,undef],defers:=[]}):=λx a' s X Y row hs hg hr=>by
   obtain⟨b,h1,h2,h3⟩:=hs;have hbl:=(Array.getElem?_eq_some_iff.1 h2).1;refine⟨b,h1,(hg.block b hbl (λe=>?_)).trans h2,h3⟩;obtain⟨_,o,ho,hc⟩:=hr b e.symm;rw[h2] at ho
   cases ho
   cases hc
  refine wpIn_rangeFunc_ownH rfl (by omega) (gf:=gf) (lb:=lb) (by rfl) trivial (ah HEg) (ah HQ w1 (ah HB1)) (λh k=>h.trans k)
   (λX l o o' hl h _ _=>eP.put (w:=w1) (λk hk=>Nat.lt_of_lt_of_le (ah HCs k hk) (ah HB1).size) X l o o' hl h) (Below.refl _ _) (λ_=>rfl)
   _ _ hI hIx ⟨ah Yy,ah HB1,Nat.le_refl _,λx hx=>by cases hx⟩ _ hAx ?assign ?body ?done ?stop
  case assign =>
   intro l pre x X K hi hK;unfold encR;gi_wp2
   have ha:Below X.heap.size X (X.alloc (.cells #[.int .i64 x.2.1.k,.int .i64 x.2.1.q,.int .i64 x.2.1.t,.string x.2.1.s,.string x.2.1.h,.string x.2.1.d] 45)):=(Below.refl _ _).alloc (Nat.le_refl _) _;have Zh:∀k,Cs k->k<X.heap.size:=λk hk=>by have:=ah HCs k hk;have:=hi.2.1.size;omega
   exact hK _ _ ⟨ha.size,λk o _ hk _=>(ha.block k (Array.getElem?_eq_some_iff.1 hk).1).trans hk⟩ ⟨ha.size,λk hk=>ha.block k (Zh k hk)⟩ ⟨hi.1.below ha,aA hi.2.1 ha,Nat.le_trans hi.2.2.1 ha.size,hi.2.2.2⟩ ⟨X.heap.size,hi.2.2.1,heap_alloc_new X _,rfl⟩
  case body =>
   rintro l pre x a' X hl hr hi ⟨b,hb1,hb2,rfl⟩ hN;have hbl:=(Array.getElem?_eq_some_iff.1 hb2).1;have Y:RB X b x.2.1.k x.2.1.q x.2.1.t x.2.1.s x.2.1.h x.2.1.d:=⟨hbl,by rw[cell_of_row X b 0 _ _ _ hb2];rfl,by rw[cell_of_row X b 1 _ _ _ hb2];rfl,by rw[cell_of_row X b 2 _ _ _ hb2];rfl,by rw[cell_of_row X b 3 _ _ _ hb2];rfl,by rw[cell_of_row X b 4 _ _ _ hb2];rfl,by rw[cell_of_row X b 5 _ _ _ hb2];rfl,λj=>frozen_of_row X b j _ _ hb2⟩;have HY:=aj Y;have HI:=aj hi;have Zh:∀k,Cs k->k<X.heap.size:=λk hk=>by have:=ah HCs k hk;have:=hi.2.1.size;omega
   have HCl:=aj Zh;have cf:=hi.1.cf;have PT:=aj (Am f x.2.1 hf x.2.2.s X);obtain⟨_,y0,y1,y2,y3,y4,y5,_⟩:=Y;have hft:Fence.wide.fn 84:=trivial;have hfc:Fence.wide.fn 40:=trivial;clear hi Zh hb2
   cases hm:aI f x.2.1.s with
   | false =>
    have Hm:=aj hm;rw[hm] at PT;clear hm;gi_wp2_with (gi_at_call 84;refine(CallsIn.inRound l (callsIn_wide.2 (ah PT))).mono ?_;rintro e w2 ⟨rfl,b2⟩)
    refine⟨⟨b2.size,λk o _ hk _=>(b2.block k (Array.getElem?_eq_some_iff.1 hk).1).trans hk⟩,⟨b2.size,λk hk=>b2.block k (ah HCl k hk)⟩,(ah HI).1.below b2,aA (ah HI).2.1 b2,Nat.le_trans (ah HI).2.2.1 b2.size,λz hz=>?_⟩;rcases List.mem_append.1 hz with q|q
    ·exact(ah HI).2.2.2 z q
    ·rw[List.mem_singleton.1 q];exact ah Hm
   | true =>
    have Hm:=aj hm;rw[hm] at PT;clear hm;have PC:Hid (∀X2,Calls prog 40 #[.agg #[.int .i64 x.2.1.k,.int .i64 x.2.1.q,.int .i64 x.2.1.t,.string x.2.1.s,.string x.2.1.h,.string x.2.1.d]] X2 λe w'=>e=.returned (.agg #[.int .i64 x.2.1.k,.int .i64 x.2.1.q,.int .i64 x.2.1.t,.string x.2.1.s,.string x.2.1.h,.string x.2.1.d])/\Below X2.heap.size X2 w'):=aj (λX2=>oU x.2.1 x.2.2 X2);gi_wp2_with (first
     | (gi_at_call 84;refine(CallsIn.inRound l (callsIn_wide.2 (ah PT))).mono ?_;rintro e w2 ⟨rfl,b2⟩;obtain⟨_,z0,z1,z2,z3,z4,z5,_⟩:=(ah HY).next b2;have HX2:=aj ((ah HI).1.below b2))
     | (gi_at_call 40;refine(CallsIn.inRound l (callsIn_wide.2 (ah PC _))).mono ?_;rintro e w3 ⟨rfl,b3⟩;have HX3:=aj ((ah HX2).below b3);obtain⟨_,⟨_,v0,v1,v2,v3,v4,v5,gz⟩,xe,fe,_⟩:=ah HX3;have g0:=gz 0;have g1:=gz 1;have g2:=gz 2;have g3:=gz 3;have g4:=gz 4;have g5:=gz 5;clear gz))
    have h23:=aA b2 b3;have hcp:=sO w.heap.size w3 x.2.1 0;refine⟨⟨Nat.le_trans h23.size hcp.size,λk o hkB hk _=>?_⟩,rfl,pre,x,rfl,(ah HI).2.2.2,ah Hm,(ah HX3).put x.2.1 0,qH (aA (ah HI).2.1 h23) x.2.1 0⟩;have hkl:=(Array.getElem?_eq_some_iff.1 hk).1;exact(hcp.block k (Nat.lt_of_lt_of_le hkl h23.size) (by omega)).trans ((h23.block k hkl).trans hk)
  case done =>
   rintro D ys X hD hS ⟨hx,hb,hs,hn⟩ hK;have HR:Hid (gJ f (zs.find? λr=>aI f r.s)=.tuple #[WW dH,.int .i64 4]):=aj (by unfold gJ;rw[if_pos (ah HE),Ar hS hn];rfl);have hDl:=(Array.getElem?_eq_some_iff.1 hK).1;have HX:=aj hx;obtain⟨_,⟨_,v0,v1,v2,v3,v4,v5,gz⟩,xe,fe,_⟩:=ah HX;have g0:=gz 0;have g1:=gz 1;have g2:=gz 2;have g3:=gz 3;have g4:=gz 4;have g5:=gz 5;have hcp:=sO w.heap.size X dH 4;have TD:=aj ((hcp.block D hDl (by omega)).trans hK);have HG:=aj (aF.cu (grownBy_putObj' (Iz w.heap.size X dH 4) D (.deferred none)));have Yz:=aj ((hx.put dH 4).bW (ah HG) (λk hk z=>by have:=Option.some.inj z;omega))
   have HB4:=aj ((qH hb dH 4).trans ((ah HG).below (Nat.le_trans hb.size hcp.size) (λk hk z=>by have:=Option.some.inj z;omega)));clear gz hcp hS hn hx hb hK;gi_wp2
   refine⟨by simp,.inl ⟨_,_,rfl,run_takeDeferred (ah TD),?_⟩⟩;exact⟨_,oG rfl rfl rfl (ah Yz).rr (ah Yz).ce,by rw[ah HR];rfl,ah HB4⟩
  case stop =>
   rintro D c pre X hD hS ⟨rfl,Q9,x,rfl,h3,h4,h5,h6⟩ hK;have HR:Hid (gJ f (zs.find? λr=>aI f r.s)=.tuple #[WW x.2.1,.int .i64 0]):=aj (by unfold gJ;rw[if_pos (ah HE),Ns hS h3 h4];rfl);have HG:=aj (aF.cu (grownBy_putObj' X D (.deferred none)));have Yz:=aj (h5.bW (ah HG) (λk hk z=>by have:=Option.some.inj z;omega));have HB4:=aj (h6.trans ((ah HG).below h6.size (λk hk z=>by have:=Option.some.inj z;have:=(ah HB1).size;omega)));clear hS h3 h4 h5 h6;gi_wp2
   refine⟨by simp,.inl ⟨_,_,rfl,run_takeDeferred hK,?_⟩⟩;exact⟨_,oG rfl rfl rfl (ah Yz).rr (ah Yz).ce,by rw[ah HR];rfl,ah HB4⟩
 ·refine(callsIn_wide.2 (ah HF)).mono ?_;rintro e w1 ⟨rfl,b1⟩;obtain⟨E,hE⟩:∃E,E=aB true f:=⟨_,rfl⟩;have HR:Hid (gJ f (zs.find? λr=>aI f r.s)=.tuple #[WW dH,.int .i64 E]):=aj (by unfold gJ;rw[if_neg he,hE]);rw[<-hE] at he ⊢;have HB1:=aj (aA (ah Hb0) b1);have Yy:=aj ((ah HX0).below b1);obtain⟨_,⟨_,x0,x1,x2,x3,x4,x5,gz⟩,xe,fe,_⟩:=ah Yy;have g0:=gz 0;have g1:=gz 1;have g2:=gz 2;have g3:=gz 3;have g4:=gz 4;have g5:=gz 5;clear gz HF HX0 Hb0 b1 hE;gi_wp2_with fail
  have X2:=(ah Yy).put dH E;exact⟨_,oG rfl rfl rfl X2.rr X2.ce,by rw[ah HR];rfl,qH (ah HB1) dH E⟩
theorem UQ {f:ByteArray}(hf:aB true f=0){zs:List Rc}(hz:∀x∈zs,aB false x.s=0):zs.find? (λr=>aI f r.s)=zs.find? (λr=>lM f r.s) :=
 tK (λx hx=>by unfold aI lM;rw[hf,hz x hx];simp)
theorem Nu (f:ByteArray)(l:List Rc):jB f l=l.reverse.find? λr=>lM f r.s:=by
 unfold jB nV;rw[List.getLast?_eq_head?_reverse,<-List.filter_reverse,List.head?_filter]
theorem Aw {f:ByteArray}{zs:List Rc}{o:Option Rc}(hz:∀x∈zs,aB false x.s=0)(h:o=zs.find? λr=>lM f r.s):gJ f (zs.find? λr=>aI f r.s)=gJ f o:=by
 unfold gJ;by_cases e:aB true f=0
 ·rw[if_pos e,if_pos e,UQ e hz,h]
 ·rw[if_neg e,if_neg e]
theorem IB (a:Option Addr)(len cap:Nat)(w:World) :
 Calls prog 91 #[.slice a len cap] w λe w'=>e=.returned (.func (.func 118) #[] #[.pointer (some ⟨w.heap.size,0,none⟩)])/\w'=w.alloc (.cells #[.slice a len cap] 25):=by
 go_enter func91,ntmps91;go_wp2;go_ret;exact⟨rfl,rfl⟩
theorem Az (a:Option Addr)(len cap:Nat)(w:World) :
 Calls prog 95 #[.slice a len cap] w λe w'=>e=.returned (.func (.func 120) #[] #[.pointer (some ⟨w.heap.size,0,none⟩)])/\w'=w.alloc (.cells #[.slice a len cap] 25):=by
 go_enter func95,ntmps95;go_wp2;go_ret;exact⟨rfl,rfl⟩
theorem IC (f:ByteArray)(hf:f.size<=140737488355328)(a:Option Addr)(zs:List Rc)(cap:Nat)(w:World)(hc:Dl w a zs)(ha:∀z,a=some z->z.block<w.heap.size)(hz:∀x∈zs,Small x)(hlen:zs.length<=1000) :
 Calls prog 90 #[.string f,.func (.func 118) #[] #[.pointer (some ⟨w.heap.size,0,none⟩)]] (w.alloc (.cells #[.slice a zs.length cap] 25)) λe w'=>e=.returned (gJ f (zs.reverse.find? λr=>aI f r.s))/\Below w.heap.size w w':=by
 have hb:Below w.heap.size w (w.alloc (.cells #[.slice a zs.length cap] 25)):=(Below.refl _ _).alloc (Nat.le_refl _) _;have hC:∀k,(k=w.heap.size\/∃z,a=some z/\z.block=k)->k<(w.alloc (.cells #[.slice a zs.length cap] 25)).heap.size:=λk hk=>by
  rw[World.size_alloc];rcases hk with rfl|⟨z,e,rfl⟩
  ·omega
  ·have:=ha z e;omega
 have hcell:(w.alloc (.cells #[.slice a zs.length cap] 25)).cell? ⟨w.heap.size,0,none⟩=some (.slice a zs.length cap):=by
  rw[cell_of_row _ w.heap.size 0 _ _ _ (heap_alloc_new w _)];rfl
 refine(Au f hf zs.reverse _ _ (λk=>k=w.heap.size\/∃z,a=some z/\z.block=k) _ hC (enters_of func118 (by kernel_rfl) rfl) (λW0 h0=>?_)).mono ?_
 ·have hs:=mO h0 hC;have:=Fj Fence.wide 7 trivial rfl (by omega) w.heap.size (λk=>k=w.heap.size\/∃z,a=some z/\z.block=k) a zs cap (λk hk=>hz _ (nX hk)) hlen (.inl rfl) (λz e=>.inr ⟨z,e,rfl⟩) W0 (λk hk=>Nat.lt_of_lt_of_le (hC k hk) h0.size) ((hs.cell (.inl rfl)).trans hcell) (hs.recs (hc.below hb) (λz e=>.inr ⟨z,e,rfl⟩));rw[List.length_reverse];exact this
 ·rintro e w' ⟨he,h2⟩;exact⟨he,aA hb h2⟩
theorem AL (f:ByteArray)(hf:f.size<=140737488355328)(a:Option Addr)(zs:List Rc)(cap:Nat)(w:World)(hc:Dl w a zs)(ha:∀z,a=some z->z.block<w.heap.size)(hz:∀x∈zs,Small x)(hlen:zs.length<=1000) :
 Calls prog 90 #[.string f,.func (.func 120) #[] #[.pointer (some ⟨w.heap.size,0,none⟩)]] (w.alloc (.cells #[.slice a zs.length cap] 25)) λe w'=>e=.returned (gJ f (zs.find? λr=>aI f r.s))/\Below w.heap.size w w':=by
 have hb:Below w.heap.size w (w.alloc (.cells #[.slice a zs.length cap] 25)):=(Below.refl _ _).alloc (Nat.le_refl _) _;have hC:∀k,(k=w.heap.size\/∃z,a=some z/\z.block=k)->k<(w.alloc (.cells #[.slice a zs.length cap] 25)).heap.size:=λk hk=>by
  rw[World.size_alloc];rcases hk with rfl|⟨z,e,rfl⟩
  ·omega
  ·have:=ha z e;omega
 have hcell:(w.alloc (.cells #[.slice a zs.length cap] 25)).cell? ⟨w.heap.size,0,none⟩=some (.slice a zs.length cap):=by
  rw[cell_of_row _ w.heap.size 0 _ _ _ (heap_alloc_new w _)];rfl
 refine(Au f hf zs _ _ (λk=>k=w.heap.size\/∃z,a=some z/\z.block=k) _ hC (enters_of func120 (by kernel_rfl) rfl) (λW0 h0=>?_)).mono ?_
 ·have hs:=mO h0 hC;exact Hw Fence.wide 7 trivial rfl (by omega) w.heap.size (λk=>k=w.heap.size\/∃z,a=some z/\z.block=k) a zs cap (λk hk=>hz _ (nX hk)) hlen (.inl rfl) (λz e=>.inr ⟨z,e,rfl⟩) W0 (λk hk=>Nat.lt_of_lt_of_le (hC k hk) h0.size) ((hs.cell (.inl rfl)).trans hcell) (hs.recs (hc.below hb) (λz e=>.inr ⟨z,e,rfl⟩))
 ·rintro e w' ⟨he,h2⟩;exact⟨he,aA hb h2⟩
theorem dA.blk {w:World}{B:Nat}{a:Option Addr}{n c:Nat}{l:List Rc}(h:dA w B (.slice a n c) l):∀z,a=some z->z.block<w.heap.size:=λz e=>by
 rcases h.2 with ⟨h1,_⟩|⟨g,cap,cur,h1,h2,h3,_⟩
 ·obtain⟨rfl,_,_⟩:=Value.slice.inj h1
  cases e
 ·obtain⟨rfl,_,_⟩:=Value.slice.inj h1
  cases e
  exact(Array.getElem?_eq_some_iff.1 h3).1
theorem vk (f:ByteArray)(o:Option Rc):∃(y:Rc) (E:Int),gJ f o=.tuple #[.agg #[.int .i64 y.k,.int .i64 y.q,.int .i64 y.t,.string y.s,.string y.h,.string y.d],.int .i64 E]:=by
 unfold gJ;by_cases e:aB true f=0
 ·rw[if_pos e]
  cases o with
  | none=>exact⟨dH,4,rfl⟩
  | some r=>exact⟨r,0,rfl⟩
 ·rw[if_neg e];exact⟨dH,_,rfl⟩
theorem Nv {w:World}{B q:Nat}{v u:Value}{l:List Rc}{es:List aJ}{last:Int}(f:ByteArray)(hf:f.size<=140737488355328)(h:kD w B q v u l es last)(fA:l.length<=200)(hm:∀x∈l,Small x)(hr:∀x∈l,aB false x.s=0) :
 Calls prog 58 #[.pointer (some ⟨q,0,none⟩),.string f] w λe w'=>e=.returned (gJ f (jB f l))/\Below w.heap.size w w':=by
 obtain⟨w0,hw0⟩:∃w0,w0=w.alloc (.cells #[.int .i64 0,.int .i64 0,.int .i64 0,.string ⟨#[]⟩,.string ⟨#[]⟩,.string ⟨#[]⟩] 45):=⟨_,rfl⟩;have hb0:Below w.heap.size w w0:=by rw[hw0];exact(Below.refl _ _).alloc (Nat.le_refl _) _
 have h0:=h.below hb0;have Z0:RF w0 w.heap.size dH:=by rw[hw0];exact RF.new w dH
 obtain⟨a,cap,rfl,c1,c2,hsl⟩:=h0.msgs.shape;have d0:=h.c0;have QD:=h.lt;have P:=aj (IC f hf a l cap w0 hsl h0.msgs.blk hm (by omega));have HR:=aj (Aw (f:=f) (zs:=l.reverse) (o:=jB f l) (λx hx=>hr x (List.mem_reverse.1 hx)) (Nu f l));rw[ah HR] at P;obtain⟨y,E,hy⟩:=vk f (jB f l);rw[hy] at P ⊢;have HZ:=aj Z0;have Hb0:=aj hb0;clear h h0 hsl hm hr HR hy hb0 Z0;go_enter func58,ntmps58;go_wp2_with fail;rw[<-hw0];refine(IB a l.length cap _).mono ?_;rintro e w1 ⟨rfl,rfl⟩;clear hw0 d0;go_wp2_with fail;refine(ah P).mono ?_;rintro e w2 ⟨rfl,b2⟩
 have Z2:=aj ((ah HZ).next b2);have B2:=aj (aA (ah Hb0) b2);obtain⟨_,y0,y1,y2,y3,y4,y5,gz⟩:=(ah Z2).rb;have g0:=gz 0;have g1:=gz 1;have g2:=gz 2;have g3:=gz 3;have g4:=gz 4;have g5:=gz 5;clear gz b2 P HZ Hb0;go_wp2_with fail;refine bodyPost_ret (iI rfl rfl ((ah Z2).rb.jo y.k y.q y.t y.s y.h y.d)) rfl ?_;exact⟨rfl,jQ (ah B2) (Nat.le_refl _)⟩
theorem UR (l:List Rc)(p k:Nat):rc (l.drop p) k=rc l (p+k):=by unfold rc;rw[List.getElem?_drop]
theorem Nw {w:World}{B q:Nat}{v u:Value}{l:List Rc}{es:List aJ}{last:Int}(f:ByteArray)(n:Int)(hf:f.size<=140737488355328)(h:kD w B q v u l es last)(hi:gK l)(fA:l.length<=200)(hm:∀x∈l,Small x)(hr:∀x∈l,aB false x.s=0) :
 Calls prog 64 #[.pointer (some ⟨q,0,none⟩),.string f,.int .i64 n] w λe w'=>e=.returned (gJ f (aT f l n))/\Below w.heap.size w w':=by
 obtain⟨w0,hw0⟩:∃w0,w0=w.alloc (.cells #[.int .i64 0,.int .i64 0,.int .i64 0,.string ⟨#[]⟩,.string ⟨#[]⟩,.string ⟨#[]⟩] 45):=⟨_,rfl⟩;have hb0:Below w.heap.size w w0:=by rw[hw0];exact(Below.refl _ _).alloc (Nat.le_refl _) _
 have h0:=h.below hb0;have Z0:RF w0 w.heap.size dH:=by rw[hw0];exact RF.new w dH
 have PP:=aj (jX n h0 hi fA);have HR:=aj (Aw (f:=f) (zs:=l.drop (pq l n)) (o:=aT f l n) (λx hx=>hr x (List.mem_of_mem_drop hx)) (GX hi f n));obtain⟨y,E,hy⟩:=vk f (aT f l n);have hpl:=Ju l n;obtain⟨p,hp⟩:∃p,p=pq l n:=⟨_,rfl⟩;rw[<-hp] at PP HR hpl;rw[hy] at HR ⊢;have HZ:=aj Z0;have Hb0:=aj hb0;have H0:=aj h0;have HM:=aj hm;clear h0 hr hy hb0 Z0 hi hp hm;by_cases hlt:p<l.length
 ·obtain⟨g,cap,rfl,c1,c2,c3,c4⟩:=h.msgs.there (by omega);unfold maxLen at c2;have e1:(p:Int)<=(l.length:Int):=by omega
  have e2:¬cap=p:=by omega
  have e3:(0:Int)<=(p:Int):=by omega
  clear h;go_enter func64,ntmps64;go_wp2_with fail;rw[<-hw0];refine(ah PP).mono ?_;rintro e w1 ⟨rfl,b1⟩;have h1:=(ah H0).below b1;have d0:=h1.c0;have hsl:Dl w1 (some ⟨g,p*6,none⟩) (l.drop p):=λk hk=>by
   rw[List.length_drop] at hk;have s6:=h1.msgs.six (k:=p+k) (by omega);refine⟨g,p*6,rfl,?_⟩;rw[UR,show p*6+k*6=(p+k)*6 by omega];exact s6
  have P:=aj (AL f hf (some ⟨g,p*6,none⟩) (l.drop p) (cap-p) w1 hsl (λz e=>by cases e;exact(h1.msgs.lt g rfl).2) (λx hx=>ah HM x (List.mem_of_mem_drop hx)) (by rw[List.length_drop];omega));rw[ah HR,List.length_drop] at P;have Z1:=aj ((ah HZ).next b1);have B1:=aj (aA (ah Hb0) b1);clear hw0 b1 PP H0 HZ Hb0 h1 hsl HR HM;go_wp2_with fail;refine(Az _ _ _ _).mono ?_;rintro e w2 ⟨rfl,rfl⟩;go_wp2_with fail;refine(ah P).mono ?_;rintro e w2 ⟨rfl,b2⟩;have Z2:=aj ((ah Z1).next b2);have B2:=aj (aA (ah B1) b2);obtain⟨_,y0,y1,y2,y3,y4,y5,gz⟩:=(ah Z2).rb
  have g0:=gz 0;have g1:=gz 1;have g2:=gz 2;have g3:=gz 3;have g4:=gz 4;have g5:=gz 5;clear gz b2 P Z1 B1 d0;go_wp2_with fail;refine bodyPost_ret (iI rfl rfl ((ah Z2).rb.jo y.k y.q y.t y.s y.h y.d)) rfl ?_;exact⟨rfl,jQ (ah B2) (Nat.le_refl _)⟩
 ·have hpe:p=l.length:=by omega
  have hde:l.drop p=[]:=List.drop_of_length_le (by omega);subst hpe;obtain⟨a,cap,rfl,c1,c2,_⟩:=h.msgs.shape;unfold maxLen at c2;have hbk:=h.msgs.blk;have P:Hid (∀a' c' w1,(∀z,a'=some z->z.block<w1.heap.size)->Calls prog 90 #[.string f,.func (.func 120) #[] #[.pointer (some ⟨w1.heap.size,0,none⟩)]] (w1.alloc (.cells #[.slice a' 0 c'] 25)) λe w'=>e=.returned (.tuple #[.agg #[.int .i64 y.k,.int .i64 y.q,.int .i64 y.t,.string y.s,.string y.h,.string y.d],.int .i64 E])/\Below w1.heap.size w1 w'):=aj (λa' c' w1 hz=>by
   have:=AL f hf a' [] c' w1 (λk hk=>by cases hk) hz (λx hx=>by cases hx) (by simp);rw[<-hde,ah HR] at this;rw[hde] at this;exact this)
  clear h hlt;go_enter func64,ntmps64;go_wp2_with fail;rw[<-hw0];refine(ah PP).mono ?_;rintro e w1 ⟨rfl,b1⟩;have d0:=((ah H0).below b1).c0;have Z1:=aj ((ah HZ).next b1);have B1:=aj (aA (ah Hb0) b1);have HK:Hid (∀z,a=some z->z.block<w1.heap.size):=aj (λz e=>Nat.lt_of_lt_of_le (hbk z e) (ah B1).size);have TD:Hid (∀z,Option.map (λx:Addr=>x.add (l.length*6)) a=some z->z.block<w1.heap.size):=aj (λz e=>by
   cases a with
   | none=>cases e
   | some x =>
    have e:x.add (l.length*6)=z:=by simpa using e
    rw[<-e];have:(x.add (l.length*6)).block=x.block:=by unfold Addr.add;split<;>rfl
    rw[this];exact ah HK x rfl)
  clear hw0 b1 PP H0 HZ Hb0 HR HM hbk;go_wp2_with fail;all_goals
   refine(Az _ _ _ _).mono ?_
   rintro e w2 ⟨rfl,rfl⟩
   go_wp2_with fail
   refine(ah P _ _ _ (by first|exact ah HK|exact ah TD)).mono ?_
   rintro e w2 ⟨rfl,b2⟩
   have Z2:=aj ((ah Z1).next b2)
   have B2:=aj (aA (ah B1) b2)
   obtain⟨_,y0,y1,y2,y3,y4,y5,gz⟩:=(ah Z2).rb
   have g0:=gz 0
   have g1:=gz 1
   have g2:=gz 2
   have g3:=gz 3
   have g4:=gz 4
   have g5:=gz 5
   clear gz b2 P Z1 B1 d0
   go_wp2_with fail
   refine bodyPost_ret (iI rfl rfl ((ah Z2).rb.jo y.k y.q y.t y.s y.h y.d)) rfl ?_
   exact⟨rfl,jQ (ah B2) (Nat.le_refl _)⟩
end Dk
namespace Dk
theorem aX.Ok.smalls {s:aX}(h:s.Ok):∀x∈s.l,Small x:=λx hx=>Small.of (h.msg x hx).2
theorem aX.Ok.rights {s:aX}(h:s.Ok):∀x∈s.l,aB false x.s=0:=λx hx=>lT (h.msg x hx).2 (h.msg x hx).1
theorem Rf:dX yV where
 own:=λh=>h.own
 bW:=λh hc hn=>h.bW hc hn
 new:=λw=>(QX w).mono (by
  rintro e w' ⟨rfl,h,hb⟩;exact⟨_,_,rfl,⟨_,_,[],h,Cnt.nil,rfl⟩,hb⟩)
 apply:=λr hm h hk hB=>by
  obtain⟨v,u,es,h1,h2,rfl⟩:=h;refine(Iw r hm h1 h2 hk hB).mono ?_;rintro e w' ⟨he,es',m,c⟩;exact⟨he,yV.did m c⟩
 all:=λh hk hB=>by
  obtain⟨v,u,es,h1,h2,rfl⟩:=h;exact QZ h1 hk.few hk.smalls
 sums:=λh hk hB=>by
  obtain⟨v,u,es,h1,h2,rfl⟩:=h;exact Q7 h1 hk.few (λx hx=>hk.small hx)
 last:=λf hf h hk hB=>by
  obtain⟨v,u,es,h1,h2,rfl⟩:=h;exact Nv f hf h1 hk.few hk.smalls hk.rights
 next:=λf n hf h hk hB=>by
  obtain⟨v,u,es,h1,h2,rfl⟩:=h;exact Nw f n hf h1 hk.rise hk.few hk.smalls hk.rights
theorem YA:Jy yV where
 tries:=λr hm h hk hB=>by
  obtain⟨v,u,es,h1,h2,rfl⟩:=h;exact FV r hm h1 h2 hk
 gets:=λn h hk hB=>by
  obtain⟨v,u,es,h1,h2,rfl⟩:=h;exact Q8 n h1 hk.rise hk.few hk.smalls
