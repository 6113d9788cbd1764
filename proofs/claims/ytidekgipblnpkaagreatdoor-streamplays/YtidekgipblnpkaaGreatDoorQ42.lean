/- A part. -/
import Derived.Test.YtidekgipblnpkaaGreatDoorQ16
import Derived.Test.YtidekgipblnpkaaGreatDoorQ37
set_option maxRecDepth 100000
set_option maxHeartbeats 8000000
namespace Go.Proofs.YtidekgipblnpkaaGreatDoor
open Go.RowKit Go.Proofs.Tryz
namespace Dk
open Go.Shelf
attribute [local go_sem] Oper.semAt_some
structure Bx (p:Nat)(W:World)(f:ByteArray)(r:Rc)(e:Int):Prop where
 cf:W.cell? ⟨p,0,none⟩=some (.string f)
 rr:RB W (p+1) r.k r.q r.t r.s r.h r.d
 ce:W.cell? ⟨p+1+1,0,none⟩=some (.int .i64 e)
 fe:W.frozen? ⟨p+1+1,0,none⟩=false
 lt:p+1+1<W.heap.size
theorem Bx.bZ {A:Nat->Prop}{p:Nat}{W W':World}{f:ByteArray}{r:Rc}{e:Int}(h:Bx p W f r e)(hc:aH A W W')(hn:∀k,k<=p+1+1->¬A k):Bx p W' f r e:=by
 have hl:=h.lt;have n0:¬A p:=hn p (by omega);have n1:¬A (p+1):=hn (p+1) (by omega);have n2:¬A (p+1+1):=hn (p+1+1) (by omega);have l0:p<W.heap.size:=by omega
 refine⟨?_,WT h.rr hc n1,?_,?_,ajc h.lt hc.size⟩
 ·rw[hc.cell (p:=⟨p,0,none⟩) l0 n0];exact h.cf
 ·rw[hc.cell (p:=⟨p+1+1,0,none⟩) hl n2];exact h.ce
 ·rw[hc.frozen (p:=⟨p+1+1,0,none⟩) hl n2];exact h.fe
theorem Bx.below {p:Nat}{W W':World}{f:ByteArray}{r:Rc}{e:Int}(h:Bx p W f r e)(hb:Below W.heap.size W W'):Bx p W' f r e:=h.bZ (A:=λ_=>False) (aH.aA hb) (λ_ _ z=>z)
def Xd (p:Nat)(W:World)(y:Rc)(e:Int):World:=((((((W.setCell ⟨p+1,0,none⟩ (.int .i64 y.k)).setCell ⟨p+1,1,none⟩ (.int .i64 y.q)).setCell ⟨p+1,2,none⟩ (.int .i64 y.t)).setCell ⟨p+1,3,none⟩ (.string y.s)).setCell ⟨p+1,4,none⟩ (.string y.h)).setCell ⟨p+1,5,none⟩ (.string y.d)).setCell ⟨p+1+1,0,none⟩ (.int .i64 e)
theorem AZ (p:Nat)(W:World)(y:Rc)(e:Int):aH (λk=>k=p+1\/k=p+1+1) W (Xd p W y e):=by
 unfold Xd;exact((((((((aH.refl _ W).setCell (p:=⟨p+1,0,none⟩) (.inl (.inl rfl)) _).setCell (p:=⟨p+1,1,none⟩) (.inl (.inl rfl)) _).setCell (p:=⟨p+1,2,none⟩) (.inl (.inl rfl)) _).setCell (p:=⟨p+1,3,none⟩) (.inl (.inl rfl)) _).setCell (p:=⟨p+1,4,none⟩) (.inl (.inl rfl)) _).setCell (p:=⟨p+1,5,none⟩) (.inl (.inl rfl)) _).setCell (p:=⟨p+1+1,0,none⟩) (.inl (.inr rfl)) _)
theorem yQ {w W:World}(h:Below w.heap.size w W)(y:Rc)(e:Int):Below w.heap.size w (Xd w.heap.size W y e) :=
 h.trans ((AZ w.heap.size W y e).below h.size (λk hk z=>by omega))
theorem Bx.put {p:Nat}{W:World}{f:ByteArray}{r:Rc}{e:Int}(h:Bx p W f r e)(y:Rc)(e':Int):Bx p (Xd p W y e') f y e':=by
 have hl:=h.lt;have hc:=AZ p W y e';refine⟨?_,?_,?_,?_,ajc h.lt hc.size⟩
 ·have l0:p<W.heap.size:=by omega
  have n0:¬(p=p+1\/p=p+1+1):=by omega
  rw[hc.cell (p:=⟨p,0,none⟩) l0 n0];exact h.cf
 ·exact(h.rr.eH y.k y.q y.t y.s y.h y.d).other (c:=p+1+1) (i:=0) (v:=.int .i64 e') (by omega)
 ·unfold Xd;refine alm _ _ _ ?_;iterate 6 rw[aji _ _ _ _ (by simp)]
  rw[h.ce];rfl
 ·unfold Xd;iterate 7 rw[ajt]
  exact h.fe
theorem Bx.new (w:World)(f:ByteArray)(T:TypeId)(T2:TypeId):Bx w.heap.size (((w.alloc (.cells #[.string f] T)).alloc (.cells #[.int .i64 0,.int .i64 0,.int .i64 0,.string ⟨#[]⟩,.string ⟨#[]⟩,.string ⟨#[]⟩] 73)).alloc (.cells #[.int .i64 0] T2)) f iF 0:=by
 have r1:=RB.new (w.alloc (.cells #[.string f] T)) 0 0 0 ⟨#[]⟩ ⟨#[]⟩ ⟨#[]⟩ 73;rw[akS] at r1;have hs:((w.alloc (.cells #[.string f] T)).alloc (.cells #[.int .i64 0,.int .i64 0,.int .i64 0,.string ⟨#[]⟩,.string ⟨#[]⟩,.string ⟨#[]⟩] 73)).heap.size=w.heap.size+1+1:=by simp
 have hn:=ajF ((w.alloc (.cells #[.string f] T)).alloc (.cells #[.int .i64 0,.int .i64 0,.int .i64 0,.string ⟨#[]⟩,.string ⟨#[]⟩,.string ⟨#[]⟩] 73)) (.cells #[.int .i64 0] T2);rw[hs] at hn;refine⟨?_,r1.alloc _,?_,?_,by simp⟩
 ·rw[aku _ _ _ (by simp<;>omega),aku _ _ _ (by simp<;>omega),ajY _ w.heap.size 0 _ _ _ (ajF w _)];rfl
 ·rw[ajY _ _ 0 _ _ _ hn];rfl
 ·exact akR _ _ 0 _ _ hn
theorem wQ {fn:Func}{a u:Tmp}{tmps:Array Value}{w:World}{b c:Nat}{k q t e:Int}{s h d:ByteArray}(hf:fn.results=#[.cell a 73,.cell u 27])(ha:tmps.getD a undef=.pointer (some ⟨b,0,none⟩))(hu:tmps.getD u undef=.pointer (some ⟨c,0,none⟩))(r:RB w b k q t s h d)(hc:w.cell? ⟨c,0,none⟩=some (.int .i64 e)) :
 (results fn tmps).run prog w=.ok (.tuple #[.agg #[.int .i64 k,.int .i64 q,.int .i64 t,.string s,.string h,.string d],.int .i64 e]) w:=by
 have ha':tmps[a]?.getD undef=.pointer (some ⟨b,0,none⟩):=by simpa using ha
 have hu':tmps[u]?.getD undef=.pointer (some ⟨c,0,none⟩):=by simpa using hu
 have hl:(loadVar 27 ⟨c,0,none⟩).run prog w=.ok (.int .i64 e) w:=by
  simp[loadVar,isAgg,hc]
 simp[results,hf,ha',hu',asAddr,zy r,hl]
theorem Nu {f:ByteArray}{zs:List Rc}{ys:List (Int×Sm)}(h:ys.map (λx=>x.2.1)=zs)(hn:∀x∈ys,bF f x.2.1.s=false):zs.find? (λr=>bF f r.s)=none:=by
 rw[akZ,<-h];intro r hr;obtain⟨x,hx,rfl⟩:=alP.1 hr;simp[hn x hx]
theorem aaO {f:ByteArray}{zs:List Rc}{pre:List (Int×Sm)}{x:Int×Sm}(h:MG zs (pre++[x]))(hn:∀y∈pre,bF f y.2.1.s=false)(hx:bF f x.2.1.s=true):zs.find? (λr=>bF f r.s)=some x.2.1:=by
 obtain⟨t,rfl⟩:=h;rw[aki,ajW,List.find?_append,Nu (f:=f) (ys:=pre) rfl hn];simp[hx]
theorem Nv (f:ByteArray)(hf:f.size<=140737488355328)(zs:List Rc)(gf:Nat)(lb:Array Value)(Cs:Nat->Prop)(w:World)(hC:∀k,Cs k->k<w.heap.size)
 (eg:∀args w,(callFunc gf args).run prog w=.ok (.enter gf args) w)
 (hseq:∀W0,Below w.heap.size w W0->SeqStopsK Fence.wide 7 prog gf lb Sz (iL Cs) (λys=>ys.map (λx=>x.2.1)=zs) (MG zs) zs.length W0) :
 Calls prog 88 #[.string f,.func (.func gf) #[] lb] w λe w'=>e=.returned (iG f (zs.find? λr=>bF f r.s))/\Below w.heap.size w w':=by
 refine(alh (n:=8)).1 ?_;obtain⟨W,hW⟩:∃W,W=((w.alloc (.cells #[.string f] 9)).alloc (.cells #[.int .i64 0,.int .i64 0,.int .i64 0,.string ⟨#[]⟩,.string ⟨#[]⟩,.string ⟨#[]⟩] 73)).alloc (.cells #[.int .i64 0] 27):=⟨_,rfl⟩;have hb0:Below w.heap.size w W:=by rw[hW];exact(((ajb _ _).alloc (Xc _) _).alloc (by simp) _).alloc (by simp;omega) _
 have X0:Bx w.heap.size W f iF 0:=by rw[hW];exact Bx.new w f _ _
 have HF:=aj (gG f W hf);have HQ:=aj hseq;have Hb0:=aj hb0;have HX0:=aj X0;have HCs:=aj hC;have HEg:=aj eg;clear hseq hb0 X0 hC eg;refine callsIn_of_wp_marks func88 rfl trivial ?_ rfl;simp only[ntmps88,aky,ajB,alk,Nat.reduceAdd,Nat.reduceSub,akN,akO,alg,akV,akh,ajM];have hfF:Fence.wide.fn 105:=trivial;gi_wp2_with fail
 rw[<-hW];clear hW;by_cases he:aG true f=0
 ·refine(alh.2 (ah HF)).mono ?_;rintro e w1 ⟨rfl,b1⟩;rw[he];have HE:=aj he;have HB1:=aj (ak (ah Hb0) b1);have HX1:=aj ((ah HX0).below b1);clear he HF HX0 Hb0 b1;gi_wp2_with fail
  have hlt1:=(ah HX1).lt;have hI:OwnFrom w1.heap.size (λ(pre:List (Int×Sm)) X=>Bx w.heap.size X f iF 0/\Below w.heap.size w X/\w1.heap.size<=X.heap.size/\∀x∈pre,bF f x.2.1.s=false):=λs X Y row hs hg hr =>
   ⟨hs.1.bZ (aH.bH hg) (λk hk z=>by have:=(hr k z).1;omega),hs.2.1.trans ((aH.bH hg).below hs.2.1.size (λk hk z=>by have:=(hr k z).1;omega)),aje hs.2.2.1 hg.size,hs.2.2.2⟩
  have hIx:∀c:Code,OwnFrom w1.heap.size (λ(pre:List (Int×Sm)) X=>c=.ret/\∃ad6 x,pre=ad6++[x]/\(∀y∈ad6,bF f y.2.1.s=false)/\bF f x.2.1.s=true/\Bx w.heap.size X f x.2.1 0/\Below w.heap.size w X):=λc s X Y row hs hg hr=>by
   obtain⟨h1,ad6,x,h2,h3,h4,h5,h6⟩:=hs;exact⟨h1,ad6,x,h2,h3,h4,h5.bZ (aH.bH hg) (λk hk z=>by have:=(hr k z).1;omega),h6.trans ((aH.bH hg).below h6.size (λk hk z=>by have:=(hr k z).1;omega))⟩
  have hAx:∀(x:Int×Sm) (a':Act),OwnFrom w1.heap.size (λ(_:Unit) X=>∃b,w1.heap.size<=b/\X.heap[b]?=some (.cells #[.int .i64 x.2.1.k,.int .i64 x.2.1.q,.int .i64 x.2.1.t,.string x.2.1.s,.string x.2.1.h,.string x.2.1.d] 73 (0,0))/\a'={tmps:=#[.string f,.func (.func gf) #[] lb,.pointer (some ⟨w.heap.size,0,none⟩),undef,.pointer (some ⟨w.heap.size+1,0,none⟩),.pointer (some ⟨w.heap.size+1+1,0,none⟩),.int .i64 0,undef,.pointer (some ⟨b,0,none⟩),.string f,.int .i64 0,.int .i64 0,.bool false,undef,undef,.func (.func gf) #[] lb,.int .i64 x.1,.agg #[.int .i64 x.2.1.k,.int .i64 x.2.1.q,.int .i64 x.2.1.t,.string x.2.1.s,.string x.2.1.h,.string x.2.1.d],undef,undef,undef,undef,undef,undef],defers:=[]}):=λx a' s X Y row hs hg hr=>by
   obtain⟨b,h1,h2,h3⟩:=hs;have hbl:=(ajV.1 h2).1;refine⟨b,h1,(hg.block b hbl (λe=>?_)).trans h2,h3⟩;obtain⟨_,o,ho,hc⟩:=hr b e.symm;rw[h2] at ho
   cases ho
   cases hc
  refine wpIn_rangeFunc_ownH rfl (by omega) (gf:=gf) (lb:=lb) (by rfl) trivial (ah HEg) (ah HQ w1 (ah HB1)) (λh k=>h.trans k)
   (λX l o o' hl h _ _=>iL.put (w:=w1) (λk hk=>ajc (ah HCs k hk) (ah HB1).size) X l o o' hl h) (ajb _ _) (λ_=>rfl)
   _ _ hI hIx ⟨ah HX1,ah HB1,Xc _,λx hx=>by cases hx⟩ _ hAx ?assign ?body ?done ?stop
  case assign =>
   intro l pre x X K hi hK;unfold Sz;gi_wp2
   have ha:Below X.heap.size X (X.alloc (.cells #[.int .i64 x.2.1.k,.int .i64 x.2.1.q,.int .i64 x.2.1.t,.string x.2.1.s,.string x.2.1.h,.string x.2.1.d] 73)):=(ajb _ _).alloc (Xc _) _;have hCl:∀k,Cs k->k<X.heap.size:=λk hk=>by have:=ah HCs k hk;have:=hi.2.1.size;omega
   exact hK _ _ ⟨ha.size,λk o _ hk _=>(ha.block k (ajV.1 hk).1).trans hk⟩ ⟨ha.size,λk hk=>ha.block k (hCl k hk)⟩ ⟨hi.1.below ha,ak hi.2.1 ha,aje hi.2.2.1 ha.size,hi.2.2.2⟩ ⟨X.heap.size,hi.2.2.1,ajF X _,rfl⟩
  case body =>
   rintro l pre x a' X hl hr hi ⟨b,hb1,hb2,rfl⟩ hN;have hbl:=(ajV.1 hb2).1;have Y:RB X b x.2.1.k x.2.1.q x.2.1.t x.2.1.s x.2.1.h x.2.1.d:=⟨hbl,by rw[ajY X b 0 _ _ _ hb2];rfl,by rw[ajY X b 1 _ _ _ hb2];rfl,by rw[ajY X b 2 _ _ _ hb2];rfl,by rw[ajY X b 3 _ _ _ hb2];rfl,by rw[ajY X b 4 _ _ _ hb2];rfl,by rw[ajY X b 5 _ _ _ hb2];rfl,λj=>akR X b j _ _ hb2⟩;have HY:=aj Y;have HI:=aj hi;have hCl:∀k,Cs k->k<X.heap.size:=λk hk=>by have:=ah HCs k hk;have:=hi.2.1.size;omega
   have HCl:=aj hCl;have cf:=hi.1.cf;have PT:=aj (Nr f x.2.1 hf x.2.2.s X);obtain⟨_,y0,y1,y2,y3,y4,y5,_⟩:=Y;have hft:Fence.wide.fn 126:=trivial;have hfc:Fence.wide.fn 60:=trivial;clear hi hCl hb2
   cases hm:bF f x.2.1.s with
   | false =>
    have Hm:=aj hm;rw[hm] at PT;clear hm;gi_wp2_with (gi_at_call 126;refine(CallsIn.inRound l (alh.2 (ah PT))).mono ?_;rintro e w2 ⟨rfl,b2⟩)
    refine⟨⟨b2.size,λk o _ hk _=>(b2.block k (ajV.1 hk).1).trans hk⟩,⟨b2.size,λk hk=>b2.block k (ah HCl k hk)⟩,(ah HI).1.below b2,ak (ah HI).2.1 b2,aje (ah HI).2.2.1 b2.size,λz hz=>?_⟩;rcases ajS.1 hz with q|q
    ·exact(ah HI).2.2.2 z q
    ·rw[akr.1 q];exact ah Hm
   | true =>
    have Hm:=aj hm;rw[hm] at PT;clear hm;have PC:Hid (∀X2,Calls prog 60 #[.agg #[.int .i64 x.2.1.k,.int .i64 x.2.1.q,.int .i64 x.2.1.t,.string x.2.1.s,.string x.2.1.h,.string x.2.1.d]] X2 λe w'=>e=.returned (.agg #[.int .i64 x.2.1.k,.int .i64 x.2.1.q,.int .i64 x.2.1.t,.string x.2.1.s,.string x.2.1.h,.string x.2.1.d])/\Below X2.heap.size X2 w'):=aj (λX2=>xR x.2.1 x.2.2 X2);gi_wp2_with (first
     | (gi_at_call 126;refine(CallsIn.inRound l (alh.2 (ah PT))).mono ?_;rintro e w2 ⟨rfl,b2⟩;obtain⟨_,z0,z1,z2,z3,z4,z5,_⟩:=(ah HY).next b2;have HX2:=aj ((ah HI).1.below b2))
     | (gi_at_call 60;refine(CallsIn.inRound l (alh.2 (ah PC _))).mono ?_;rintro e w3 ⟨rfl,b3⟩;have HX3:=aj ((ah HX2).below b3);obtain⟨_,⟨_,v0,v1,v2,v3,v4,v5,gz⟩,xe,fe,_⟩:=ah HX3;have g0:=gz 0;have g1:=gz 1;have g2:=gz 2;have g3:=gz 3;have g4:=gz 4;have g5:=gz 5;clear gz))
    have h23:=ak b2 b3;have hcp:=AZ w.heap.size w3 x.2.1 0;refine⟨⟨aje h23.size hcp.size,λk o hkB hk _=>?_⟩,rfl,pre,x,rfl,(ah HI).2.2.2,ah Hm,(ah HX3).put x.2.1 0,yQ (ak (ah HI).2.1 h23) x.2.1 0⟩;have hkl:=(ajV.1 hk).1;exact(hcp.block k (ajc hkl h23.size) (by omega)).trans ((h23.block k hkl).trans hk)
  case done =>
   rintro D ys X hD hS ⟨hx,hb,hs,hn⟩ hK;have HR:Hid (iG f (zs.find? λr=>bF f r.s)=.tuple #[rcV iF,.int .i64 4]):=aj (by unfold iG;rw[if_pos (ah HE),Nu hS hn];rfl);have hDl:=(ajV.1 hK).1;have HX:=aj hx;obtain⟨_,⟨_,v0,v1,v2,v3,v4,v5,gz⟩,xe,fe,_⟩:=ah HX;have g0:=gz 0;have g1:=gz 1;have g2:=gz 2;have g3:=gz 3;have g4:=gz 4;have g5:=gz 5;have hcp:=AZ w.heap.size X iF 4;have HK2:=aj ((hcp.block D hDl (by omega)).trans hK);have HG:=aj (aH.bH (grownBy_putObj' (Xd w.heap.size X iF 4) D (.deferred none)));have HX4:=aj ((hx.put iF 4).bZ (ah HG) (λk hk z=>by have:=ajC z;omega))
   have HB4:=aj ((yQ hb iF 4).trans ((ah HG).below (aje hb.size hcp.size) (λk hk z=>by have:=ajC z;omega)));clear gz hcp hS hn hx hb hK;gi_wp2
   refine⟨by simp,.inl ⟨_,_,rfl,run_takeDeferred (ah HK2),?_⟩⟩;exact⟨_,wQ rfl rfl rfl (ah HX4).rr (ah HX4).ce,by rw[ah HR];rfl,ah HB4⟩
  case stop =>
   rintro D c pre X hD hS ⟨rfl,ad6,x,rfl,h3,h4,h5,h6⟩ hK;have HR:Hid (iG f (zs.find? λr=>bF f r.s)=.tuple #[rcV x.2.1,.int .i64 0]):=aj (by unfold iG;rw[if_pos (ah HE),aaO hS h3 h4];rfl);have HG:=aj (aH.bH (grownBy_putObj' X D (.deferred none)));have HX4:=aj (h5.bZ (ah HG) (λk hk z=>by have:=ajC z;omega));have HB4:=aj (h6.trans ((ah HG).below h6.size (λk hk z=>by have:=ajC z;have:=(ah HB1).size;omega)));clear hS h3 h4 h5 h6;gi_wp2
   refine⟨by simp,.inl ⟨_,_,rfl,run_takeDeferred hK,?_⟩⟩;exact⟨_,wQ rfl rfl rfl (ah HX4).rr (ah HX4).ce,by rw[ah HR];rfl,ah HB4⟩
 ·refine(alh.2 (ah HF)).mono ?_;rintro e w1 ⟨rfl,b1⟩;obtain⟨E,hE⟩:∃E,E=aG true f:=⟨_,rfl⟩;have HR:Hid (iG f (zs.find? λr=>bF f r.s)=.tuple #[rcV iF,.int .i64 E]):=aj (by unfold iG;rw[if_neg he,hE]);rw[<-hE] at he ⊢;have HB1:=aj (ak (ah Hb0) b1);have HX1:=aj ((ah HX0).below b1);obtain⟨_,⟨_,x0,x1,x2,x3,x4,x5,gz⟩,xe,fe,_⟩:=ah HX1;have g0:=gz 0;have g1:=gz 1;have g2:=gz 2;have g3:=gz 3;have g4:=gz 4;have g5:=gz 5;clear gz HF HX0 Hb0 b1 hE;gi_wp2_with fail
  have X2:=(ah HX1).put iF E;exact⟨_,wQ rfl rfl rfl X2.rr X2.ce,by rw[ah HR];rfl,yQ (ah HB1) iF E⟩
theorem af4 {f:ByteArray}(hf:aG true f=0){zs:List Rc}(hz:∀x∈zs,aG false x.s=0):zs.find? (λr=>bF f r.s)=zs.find? (λr=>mX f r.s) :=
 BZ (λx hx=>by unfold bF mX;rw[hf,hz x hx];simp)
theorem aaP (f:ByteArray)(l:List Rc):Ai f l=l.reverse.find? λr=>mX f r.s:=by
 unfold Ai Jd;rw[List.getLast?_eq_head?_reverse,<-List.filter_reverse,List.head?_filter]
theorem Nw {f:ByteArray}{zs:List Rc}{o:Option Rc}(hz:∀x∈zs,aG false x.s=0)(h:o=zs.find? λr=>mX f r.s):iG f (zs.find? λr=>bF f r.s)=iG f o:=by
 unfold iG;by_cases e:aG true f=0
 ·rw[if_pos e,if_pos e,af4 e hz,h]
 ·rw[if_neg e,if_neg e]
theorem Xe (a:Option Addr)(len cap:Nat)(w:World) :
 Calls prog 89 #[.slice a len cap] w λe w'=>e=.returned (.func (.func 127) #[] #[.pointer (some ⟨w.heap.size,0,none⟩)])/\w'=w.alloc (.cells #[.slice a len cap] 39):=by
 go_enter func89,ntmps89;go_wp2;go_ret;exact⟨rfl,rfl⟩
theorem Ny (a:Option Addr)(len cap:Nat)(w:World) :
 Calls prog 90 #[.slice a len cap] w λe w'=>e=.returned (.func (.func 128) #[] #[.pointer (some ⟨w.heap.size,0,none⟩)])/\w'=w.alloc (.cells #[.slice a len cap] 39):=by
 go_enter func90,ntmps90;go_wp2;go_ret;exact⟨rfl,rfl⟩
theorem Xf (f:ByteArray)(hf:f.size<=140737488355328)(a:Option Addr)(zs:List Rc)(cap:Nat)(w:World)(hc:vk w a zs)(ha:∀z,a=some z->z.block<w.heap.size)(hz:∀x∈zs,Small x)(hlen:zs.length<=1000) :
 Calls prog 88 #[.string f,.func (.func 127) #[] #[.pointer (some ⟨w.heap.size,0,none⟩)]] (w.alloc (.cells #[.slice a zs.length cap] 39)) λe w'=>e=.returned (iG f (zs.reverse.find? λr=>bF f r.s))/\Below w.heap.size w w':=by
 have hb:Below w.heap.size w (w.alloc (.cells #[.slice a zs.length cap] 39)):=(ajb _ _).alloc (Xc _) _;have hC:∀k,(k=w.heap.size\/∃z,a=some z/\z.block=k)->k<(w.alloc (.cells #[.slice a zs.length cap] 39)).heap.size:=λk hk=>by
  rw[akS];rcases hk with rfl|⟨z,e,rfl⟩
  ·omega
  ·have:=ha z e;omega
 have hcell:(w.alloc (.cells #[.slice a zs.length cap] 39)).cell? ⟨w.heap.size,0,none⟩=some (.slice a zs.length cap):=by
  rw[ajY _ w.heap.size 0 _ _ _ (ajF w _)];rfl
 refine(Nv f hf zs.reverse _ _ (λk=>k=w.heap.size\/∃z,a=some z/\z.block=k) _ hC (enters_of func127 (by kernel_rfl) rfl) (λW0 h0=>?_)).mono ?_
 ·have hs:=uz h0 hC;have:=SA Fence.wide 7 trivial rfl (by omega) w.heap.size (λk=>k=w.heap.size\/∃z,a=some z/\z.block=k) a zs cap (λk hk=>hz _ (wB hk)) hlen (.inl rfl) (λz e=>.inr ⟨z,e,rfl⟩) W0 (λk hk=>ajc (hC k hk) h0.size) ((hs.cell (.inl rfl)).trans hcell) (hs.lg (hc.below hb) (λz e=>.inr ⟨z,e,rfl⟩));rw[List.length_reverse];exact this
 ·rintro e w' ⟨he,h2⟩;exact⟨he,ak hb h2⟩
theorem Nz (f:ByteArray)(hf:f.size<=140737488355328)(a:Option Addr)(zs:List Rc)(cap:Nat)(w:World)(hc:vk w a zs)(ha:∀z,a=some z->z.block<w.heap.size)(hz:∀x∈zs,Small x)(hlen:zs.length<=1000) :
 Calls prog 88 #[.string f,.func (.func 128) #[] #[.pointer (some ⟨w.heap.size,0,none⟩)]] (w.alloc (.cells #[.slice a zs.length cap] 39)) λe w'=>e=.returned (iG f (zs.find? λr=>bF f r.s))/\Below w.heap.size w w':=by
 have hb:Below w.heap.size w (w.alloc (.cells #[.slice a zs.length cap] 39)):=(ajb _ _).alloc (Xc _) _;have hC:∀k,(k=w.heap.size\/∃z,a=some z/\z.block=k)->k<(w.alloc (.cells #[.slice a zs.length cap] 39)).heap.size:=λk hk=>by
  rw[akS];rcases hk with rfl|⟨z,e,rfl⟩
  ·omega
  ·have:=ha z e;omega
 have hcell:(w.alloc (.cells #[.slice a zs.length cap] 39)).cell? ⟨w.heap.size,0,none⟩=some (.slice a zs.length cap):=by
  rw[ajY _ w.heap.size 0 _ _ _ (ajF w _)];rfl
 refine(Nv f hf zs _ _ (λk=>k=w.heap.size\/∃z,a=some z/\z.block=k) _ hC (enters_of func128 (by kernel_rfl) rfl) (λW0 h0=>?_)).mono ?_
 ·have hs:=uz h0 hC;exact VU Fence.wide 7 trivial rfl (by omega) w.heap.size (λk=>k=w.heap.size\/∃z,a=some z/\z.block=k) a zs cap (λk hk=>hz _ (wB hk)) hlen (.inl rfl) (λz e=>.inr ⟨z,e,rfl⟩) W0 (λk hk=>ajc (hC k hk) h0.size) ((hs.cell (.inl rfl)).trans hcell) (hs.lg (hc.below hb) (λz e=>.inr ⟨z,e,rfl⟩))
 ·rintro e w' ⟨he,h2⟩;exact⟨he,ak hb h2⟩
theorem aT.blk {w:World}{B:Nat}{a:Option Addr}{n c:Nat}{l:List Rc}(h:aT w B (.slice a n c) l):∀z,a=some z->z.block<w.heap.size:=λz e=>by
 rcases h.2 with ⟨h1,_⟩|⟨g,cap,cur,h1,h2,h3,_⟩
 ·obtain⟨rfl,_,_⟩:=ajO h1
  cases e
 ·obtain⟨rfl,_,_⟩:=ajO h1
  cases e
  exact(ajV.1 h3).1
theorem Gw (f:ByteArray)(o:Option Rc):∃(y:Rc) (E:Int),iG f o=.tuple #[.agg #[.int .i64 y.k,.int .i64 y.q,.int .i64 y.t,.string y.s,.string y.h,.string y.d],.int .i64 E]:=by
 unfold iG;by_cases e:aG true f=0
 ·rw[if_pos e]
  cases o with
  | none=>exact⟨iF,4,rfl⟩
  | some r=>exact⟨r,0,rfl⟩
 ·rw[if_neg e];exact⟨iF,_,rfl⟩
theorem aaQ {w:World}{B q:Nat}{v u:Value}{l:List Rc}{es:List aW}{last:Int}(f:ByteArray)(hf:f.size<=140737488355328)(h:qh w B q v u l es last)(je:l.length<=200)(hm:∀x∈l,Small x)(hr:∀x∈l,aG false x.s=0) :
 Calls prog 44 #[.pointer (some ⟨q,0,none⟩),.string f] w λe w'=>e=.returned (iG f (Ai f l))/\Below w.heap.size w w':=by
 obtain⟨w0,hw0⟩:∃w0,w0=w.alloc (.cells #[.int .i64 0,.int .i64 0,.int .i64 0,.string ⟨#[]⟩,.string ⟨#[]⟩,.string ⟨#[]⟩] 73):=⟨_,rfl⟩;have hb0:Below w.heap.size w w0:=by rw[hw0];exact(ajb _ _).alloc (Xc _) _
 have h0:=h.below hb0;have Z0:RF w0 w.heap.size iF:=by rw[hw0];exact RF.new w iF
 obtain⟨a,cap,rfl,c1,c2,hsl⟩:=h0.msgs.shape;have d0:=h.c0;have vw:=h.lt;have P:=aj (Xf f hf a l cap w0 hsl h0.msgs.blk hm (by omega));have HR:=aj (Nw (f:=f) (zs:=l.reverse) (o:=Ai f l) (λx hx=>hr x (List.mem_reverse.1 hx)) (aaP f l));rw[ah HR] at P;obtain⟨y,E,hy⟩:=Gw f (Ai f l);rw[hy] at P ⊢;have HZ:=aj Z0;have Hb0:=aj hb0;clear h h0 hsl hm hr HR hy hb0 Z0;go_enter func44,ntmps44;go_wp2_with fail;rw[<-hw0];refine(Xe a l.length cap _).mono ?_;rintro e w1 ⟨rfl,rfl⟩;clear hw0 d0;go_wp2_with fail;refine(ah P).mono ?_;rintro e w2 ⟨rfl,b2⟩
 have Z2:=aj ((ah HZ).next b2);have B2:=aj (ak (ah Hb0) b2);obtain⟨_,y0,y1,y2,y3,y4,y5,gz⟩:=(ah Z2).rb;have g0:=gz 0;have g1:=gz 1;have g2:=gz 2;have g3:=gz 3;have g4:=gz 4;have g5:=gz 5;clear gz b2 P HZ Hb0;go_wp2_with fail;refine ajJ (dA rfl rfl ((ah Z2).rb.eH y.k y.q y.t y.s y.h y.d)) rfl ?_;exact⟨rfl,aQ (ah B2) (Xc _)⟩
theorem af5 (l:List Rc)(p k:Nat):rc (l.drop p) k=rc l (p+k):=by unfold rc;rw[ako]
theorem aaR {w:World}{B q:Nat}{v u:Value}{l:List Rc}{es:List aW}{last:Int}(f:ByteArray)(n:Int)(hf:f.size<=140737488355328)(h:qh w B q v u l es last)(hi:kD l)(je:l.length<=200)(hm:∀x∈l,Small x)(hr:∀x∈l,aG false x.s=0) :
 Calls prog 46 #[.pointer (some ⟨q,0,none⟩),.string f,.int .i64 n] w λe w'=>e=.returned (iG f (rW f l n))/\Below w.heap.size w w':=by
 obtain⟨w0,hw0⟩:∃w0,w0=w.alloc (.cells #[.int .i64 0,.int .i64 0,.int .i64 0,.string ⟨#[]⟩,.string ⟨#[]⟩,.string ⟨#[]⟩] 73):=⟨_,rfl⟩;have hb0:Below w.heap.size w w0:=by rw[hw0];exact(ajb _ _).alloc (Xc _) _
 have h0:=h.below hb0;have Z0:RF w0 w.heap.size iF:=by rw[hw0];exact RF.new w iF
 have PP:=aj (pW n h0 hi je);have HR:=aj (Nw (f:=f) (zs:=l.drop (pq l n)) (o:=rW f l n) (λx hx=>hr x (akm hx)) (VO hi f n));obtain⟨y,E,hy⟩:=Gw f (rW f l n);have hpl:=Yd l n;obtain⟨p,hp⟩:∃p,p=pq l n:=⟨_,rfl⟩;rw[<-hp] at PP HR hpl;rw[hy] at HR ⊢;have HZ:=aj Z0;have Hb0:=aj hb0;have H0:=aj h0;have HM:=aj hm;clear h0 hr hy hb0 Z0 hi hp hm;by_cases hlt:p<l.length
 ·obtain⟨g,cap,rfl,c1,c2,c3,c4⟩:=h.msgs.there (by omega);unfold maxLen at c2;have e1:(p:Int)<=(l.length:Int):=by omega
  have e2:¬cap=p:=by omega
  have e3:(0:Int)<=(p:Int):=by omega
  clear h;go_enter func46,ntmps46;go_wp2_with fail;rw[<-hw0];refine(ah PP).mono ?_;rintro e w1 ⟨rfl,b1⟩;have h1:=(ah H0).below b1;have d0:=h1.c0;have hsl:vk w1 (some ⟨g,p*6,none⟩) (l.drop p):=λk hk=>by
   rw[ajp] at hk;have s6:=h1.msgs.six (k:=p+k) (by omega);refine⟨g,p*6,rfl,?_⟩;rw[af5,show p*6+k*6=(p+k)*6 by omega];exact s6
  have P:=aj (Nz f hf (some ⟨g,p*6,none⟩) (l.drop p) (cap-p) w1 hsl (λz e=>by cases e;exact(h1.msgs.lt g rfl).2) (λx hx=>ah HM x (akm hx)) (by rw[ajp];omega));rw[ah HR,ajp] at P;have Z1:=aj ((ah HZ).next b1);have B1:=aj (ak (ah Hb0) b1);clear hw0 b1 PP H0 HZ Hb0 h1 hsl HR HM;go_wp2_with fail;refine(Ny _ _ _ _).mono ?_;rintro e w2 ⟨rfl,rfl⟩;go_wp2_with fail;refine(ah P).mono ?_;rintro e w2 ⟨rfl,b2⟩;have Z2:=aj ((ah Z1).next b2);have B2:=aj (ak (ah B1) b2);obtain⟨_,y0,y1,y2,y3,y4,y5,gz⟩:=(ah Z2).rb
  have g0:=gz 0;have g1:=gz 1;have g2:=gz 2;have g3:=gz 3;have g4:=gz 4;have g5:=gz 5;clear gz b2 P Z1 B1 d0;go_wp2_with fail;refine ajJ (dA rfl rfl ((ah Z2).rb.eH y.k y.q y.t y.s y.h y.d)) rfl ?_;exact⟨rfl,aQ (ah B2) (Xc _)⟩
 ·have hpe:p=l.length:=by omega
  have hde:l.drop p=[]:=ajI (by omega);subst hpe;obtain⟨a,cap,rfl,c1,c2,_⟩:=h.msgs.shape;unfold maxLen at c2;have hbk:=h.msgs.blk;have P:Hid (∀a' c' w1,(∀z,a'=some z->z.block<w1.heap.size)->Calls prog 88 #[.string f,.func (.func 128) #[] #[.pointer (some ⟨w1.heap.size,0,none⟩)]] (w1.alloc (.cells #[.slice a' 0 c'] 39)) λe w'=>e=.returned (.tuple #[.agg #[.int .i64 y.k,.int .i64 y.q,.int .i64 y.t,.string y.s,.string y.h,.string y.d],.int .i64 E])/\Below w1.heap.size w1 w'):=aj (λa' c' w1 hz=>by
   have:=Nz f hf a' [] c' w1 (λk hk=>by cases hk) hz (λx hx=>by cases hx) (by simp);rw[<-hde,ah HR] at this;rw[hde] at this;exact this)
  clear h hlt;go_enter func46,ntmps46;go_wp2_with fail;rw[<-hw0];refine(ah PP).mono ?_;rintro e w1 ⟨rfl,b1⟩;have d0:=((ah H0).below b1).c0;have Z1:=aj ((ah HZ).next b1);have B1:=aj (ak (ah Hb0) b1);have HK:Hid (∀z,a=some z->z.block<w1.heap.size):=aj (λz e=>ajc (hbk z e) (ah B1).size);have HK2:Hid (∀z,Option.map (λx:Addr=>x.add (l.length*6)) a=some z->z.block<w1.heap.size):=aj (λz e=>by
   cases a with
   | none=>cases e
   | some x =>
    have e:x.add (l.length*6)=z:=by simpa using e
    rw[<-e];have:(x.add (l.length*6)).block=x.block:=by unfold Addr.add;split<;>rfl
    rw[this];exact ah HK x rfl)
  clear hw0 b1 PP H0 HZ Hb0 HR HM hbk;go_wp2_with fail;all_goals
   refine(Ny _ _ _ _).mono ?_
   rintro e w2 ⟨rfl,rfl⟩
   go_wp2_with fail
   refine(ah P _ _ _ (by first|exact ah HK|exact ah HK2)).mono ?_
   rintro e w2 ⟨rfl,b2⟩
   have Z2:=aj ((ah Z1).next b2)
   have B2:=aj (ak (ah B1) b2)
   obtain⟨_,y0,y1,y2,y3,y4,y5,gz⟩:=(ah Z2).rb
   have g0:=gz 0
   have g1:=gz 1
   have g2:=gz 2
   have g3:=gz 3
   have g4:=gz 4
   have g5:=gz 5
   clear gz b2 P Z1 B1 d0
   go_wp2_with fail
   refine ajJ (dA rfl rfl ((ah Z2).rb.eH y.k y.q y.t y.s y.h y.d)) rfl ?_
   exact⟨rfl,aQ (ah B2) (Xc _)⟩
end Dk
namespace Dk
theorem aJ.Ok.smalls {s:aJ}(h:s.Ok):∀x∈s.l,Small x:=λx hx=>Small.of (h.msg x hx).2
theorem aJ.Ok.ad7 {s:aJ}(h:s.Ok):∀x∈s.l,aG false x.s=0:=λx hx=>ny (h.msg x hx).2 (h.msg x hx).1
theorem ad8:lV wJ where
 own:=λh=>h.own
 bZ:=λh hc hn=>h.bZ hc hn
 new:=λw=>(Ub w).mono (by
  rintro e w' ⟨rfl,h,hb⟩;exact⟨_,_,rfl,⟨_,_,[],h,nP.nil,rfl⟩,hb⟩)
 apply:=λr hm h hk hB=>by
  obtain⟨v,u,es,h1,h2,rfl⟩:=h;refine(JY r hm h1 h2 hk hB).mono ?_;rintro e w' ⟨he,es',m,c⟩;exact⟨he,wJ.did m c⟩
 all:=λh hk hB=>by
  obtain⟨v,u,es,h1,h2,rfl⟩:=h;exact Uc h1 hk.iW hk.smalls
 BX:=λh hk hB=>by
  obtain⟨v,u,es,h1,h2,rfl⟩:=h;exact Ue h1 hk.iW (λx hx=>hk.small hx)
 last:=λf hf h hk hB=>by
  obtain⟨v,u,es,h1,h2,rfl⟩:=h;exact aaQ f hf h1 hk.iW hk.smalls hk.ad7
 next:=λf n hf h hk hB=>by
  obtain⟨v,u,es,h1,h2,rfl⟩:=h;exact aaR f n hf h1 hk.jT hk.iW hk.smalls hk.ad7
theorem ad9:lX wJ where
 Jz:=by
  intro w B q F s f es hf h hk hB hc;obtain⟨v,u,es',h1,h2,rfl⟩:=h;rw[hc.same h2];exact adN f hf h1 h2.jY
theorem aib:Gg wJ where
 tries:=λr hm h hk hB=>by
  obtain⟨v,u,es,h1,h2,rfl⟩:=h;exact JX r hm h1 h2 hk
 ahQ:=λn h hk hB=>by
  obtain⟨v,u,es,h1,h2,rfl⟩:=h;exact adO n h1 hk.jT hk.iW hk.smalls
