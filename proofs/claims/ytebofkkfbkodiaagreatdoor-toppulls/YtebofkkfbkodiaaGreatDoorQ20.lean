/- A part. -/
import Derived.Test.YtebofkkfbkodiaaGreatDoorQ10
import Derived.Test.YtebofkkfbkodiaaGreatDoorQ13
set_option maxRecDepth 100000
set_option maxHeartbeats 8000000
namespace Go.Proofs.YtebofkkfbkodiaaGreatDoor
open Go.RowKit Go.Proofs.Tryz
variable {l:List UInt8}{k most q t:Int}{v:Value}{E K N b:Nat}{W w w' w0:I}{d h r s:ad}{wr:Bool}
def mG (l:List UInt8)(most:Int):Value:=.tuple #[.string (aG (Pk.rt l most).1),aa (Pk.rt l most).2.1,aa (Pk.rt l most).2.2]
theorem zN {r:List UInt8×Nat×Nat}(h:Pk.rt l most=r)(hv:v=.tuple #[.string (aG r.1),aa r.2.1,aa r.2.2]):Ending.returned v=.returned (mG l most):=by
 unfold mG;rw[h,hv]
theorem agl (h:Pk.rd l=(N,K,E))(hE:E≠0):Pk.rt l most=([],0,E):=by
 unfold Pk.rt;rw[h];simp only[];rw[if_pos hE]
theorem abJ (h:Pk.rd l=(N,K,0))(h1:most<N):Pk.rt l most=([],0,7):=by
 unfold Pk.rt;rw[h];simp only[];rw[if_neg (by simp),if_pos h1]
theorem aeR (h:Pk.rd l=(N,K,0))(h1:¬most<N)(h2:l.length<K+N):Pk.rt l most=([],0,6):=by
 unfold Pk.rt;rw[h];simp only[];rw[if_neg (by simp),if_neg h1,if_pos h2]
theorem aeS (h:Pk.rd l=(N,K,0))(h1:¬most<N)(h2:¬l.length<K+N):Pk.rt l most=((l.drop K).take N,K+N,0):=by
 unfold Pk.rt;rw[h];simp only[];rw[if_neg (by simp),if_neg h1,if_neg h2]
theorem Qd (s:ad)(a n:Nat):s.extract a (a+n)=aG ((s.data.toList.drop a).take n):=by
 apply ama;apply Array.toList_inj.1;simp[aG,List.extract_eq_take_drop]
theorem lM (s:ad)(most:Int)(w:I)(hs:s.size<=281474976710656) :
 Calls prog 288 #[.string s,aa most] w λe w'=>e=.returned (mG s.data.toList most)/\ai w w':=by
 obtain⟨N,K,E,hr⟩:∃N K E,Pk.rd s.data.toList=(N,K,E):=⟨_,_,_,rfl⟩;have hv:xC s.data.toList=.tuple #[aa N,aa K,aa E]:=by unfold xC;rw[hr]
 by_cases hE:E=0
 ·subst hE;have hg:=Pk.Dx (l:=s.data.toList) (by rw[hr]);rw[hr] at hg;obtain⟨-,hK,hN,-,hK9⟩:=hg;simp only[] at hK hN hK9;have hK':K<=s.size:=by simpa using hK
  clear hK;by_cases h1:most<N
  ·have R:=aj (abJ hr h1);clear hr;go_enter func288,ntmps288;go_wp2_with fail;refine(qF s _ (by omega)).mono ?_;rintro e w1 ⟨rfl,rfl⟩;rw[hv];go_wp2_with fail;go_ret3;exact⟨zN (ah R) rfl,agP _ _⟩
  ·by_cases h2:s.size<K+N
   ·have R:=aj (aeR hr h1 (by simpa using h2));clear hr;go_enter func288,ntmps288;go_wp2_with fail;refine(qF s _ (by omega)).mono ?_;rintro e w1 ⟨rfl,rfl⟩;rw[hv];go_wp2_with fail;go_ret3;exact⟨zN (ah R) rfl,agP _ _⟩
   ·have R:=aj (aeS hr h1 (by simpa using h2));have hx:=aj (Qd s K N);clear hr;go_enter func288,ntmps288;go_wp2_with fail;refine(qF s _ (by omega)).mono ?_;rintro e w1 ⟨rfl,rfl⟩;rw[hv];go_wp2_with fail;refine(clone_any _ _ (by rw[ah hx,aU];simp;omega)).mono ?_;rintro e w2 ⟨rfl,b2⟩;go_wp2_with fail;go_ret3;exact⟨zN (ah R) (by rw[<-ah hx];rfl),b2⟩
 ·have R:=aj (agl (most:=most) hr hE);have hE':((E:Int) !=0)=true:=by simp[hE]
  have hE2:¬((E:Int)=0):=by omega
  clear hr hE;go_enter func288,ntmps288;go_wp2_with fail;refine(qF s _ (by omega)).mono ?_;rintro e w1 ⟨rfl,rfl⟩;rw[hv];go_wp2_with fail;go_ret3;exact⟨zN (ah R) rfl,agP _ _⟩
structure PT (w:I)(b:Nat)(r:ad)(wr:Bool):Prop where
 lt:b<w.heap.size
 c0:w.cell? (aq b 0)=some (.string r)
 c1:w.cell? (aq b 1)=some (.bool wr)
 f0:w.frozen? (aq b 0)=false
 f1:w.frozen? (aq b 1)=false
theorem PT.next (h:PT w b r wr)(hb:ai w w'):PT w' b r wr :=
 ⟨ajz h.lt hb.size,by rw[hb.cell (p:=aq b 0) h.lt];exact h.c0,by rw[hb.cell (p:=aq b 1) h.lt];exact h.c1,by rw[hb.frozen (p:=aq b 0) h.lt];exact h.f0,by rw[hb.frozen (p:=aq b 1) h.lt];exact h.f1⟩
theorem PT.set (h:PT w b r wr)(r':ad)(wr':Bool):PT ((w.setCell (aq b 0) (.string r')).setCell (aq b 1) (.bool wr')) b r' wr':=by
 have e1:(w.setCell (aq b 0) (.string r')).cell? (aq b 1)=some (.bool wr):=by
  rw[ay _ _ _ _ (by intro q;injection q;omega)];exact h.c1
 refine⟨by simpa using h.lt,?_,?_,by simpa using h.f0,by simpa using h.f1⟩
 ·rw[ay _ _ _ _ (by intro q;injection q;omega)];exact alQ _ _ _ (by rw[h.c0];rfl)
 ·exact alQ _ _ _ (by rw[e1];rfl)
theorem Qe (B b:Nat)(r:ad)(wr:Bool)(K E:Nat)(w:I)(hB:B<=b)(h:PT w b r wr)(_hr:r.size<=1000000)(hK:K<=r.size) :
 Calls prog 314 #[ae b,aa K,aa E] w λe w'=>(∃v,e=.returned v)/\PT w' b (r.extract K r.size) (wr||((E:Int) !=0))/\Below B w w':=by
 have H:=aj h;obtain⟨hlt,c0,c1,f0,f1⟩:=h
 cases wr with
 | true =>
  go_enter func314,ntmps314;go_wp2_with fail;go_end0
  exact⟨⟨_,rfl⟩,(ah H).set _ _,((agP _ _).setCell hB _).setCell hB _⟩
 | false =>
  go_enter func314,ntmps314;go_wp2_with fail;go_end0
  exact⟨⟨_,rfl⟩,(ah H).set _ _,((agP _ _).setCell hB _).setCell hB _⟩
theorem zO (s:ad)(k:Nat):s.extract k s.size=aG (s.data.toList.drop k):=by
 apply ama;apply Array.toList_inj.1;simp only[aG,ByteArray.data_extract,Array.toList_extract,List.extract_eq_take_drop];rw[ajR (by simp)]
theorem aeT (l:List UInt8):(Pk.rd l).2.1<=l.length:=by
 by_cases h:(Pk.rd l).2.2=0
 ·exact(Pk.Dx h).2.1
 ·rw[(Pk.af0 h).2];exact ajO _
theorem abK {m:Int}(h:(Pk.rt l m).2.2≠0):(Pk.rt l m).1=[]/\(Pk.rt l m).2.1=0:=by
 unfold Pk.rt at h ⊢;split
 ·exact⟨rfl,rfl⟩
 rename_i h1;rw[if_neg h1] at h;split
 ·exact⟨rfl,rfl⟩
 rename_i h2;rw[if_neg h2] at h;split
 ·exact⟨rfl,rfl⟩
 rename_i h3;rw[if_neg h3] at h;exact absurd rfl h
theorem aeU (l:List UInt8):(Pk.rt l 1024).2.1<=l.length:=by
 by_cases h:(Pk.rt l 1024).2.2=0
 ·exact(Pk.Ep (l:=l) (most:=1024) (x:=(Pk.rt l 1024).1) (n:=(Pk.rt l 1024).2.1) (by rw[<-h])).2.1
 ·rw[(abK h).2];exact ajO _
theorem afQ :(wr||((E:Int) !=0))=(wr||decide (E≠0)):=by
 congr 1
 rw[akK];simp
theorem abL (B b:Nat)(r:ad)(wr:Bool)(w:I)(hB:B<=b)(h:PT w b r wr)(hr:r.size<=1000000) :
 Calls prog 300 #[ae b] w λe w'=>e=.returned (aa (Pk.rd r.data.toList).1)/\PT w' b (aG (Pk.bn r.data.toList)) (wr||decide ((Pk.rd r.data.toList).2.2≠0))/\Below B w w':=by
 have hK0:=aeT r.data.toList;have hx:=aj (zO r (Pk.rd r.data.toList).2.1);unfold Pk.bn;obtain⟨N,K,E,hrd⟩:∃N K E,Pk.rd r.data.toList=(N,K,E):=⟨_,_,_,rfl⟩;have hv:xC r.data.toList=.tuple #[aa N,aa K,aa E]:=by unfold xC;rw[hrd]
 rw[hrd] at hx hK0 ⊢;have hK:K<=r.size:=by simpa using hK0
 have H:=aj h;obtain⟨hlt,c0,c1,f0,f1⟩:=h;clear hrd hK0;go_enter func300,ntmps300;go_wp2_with fail;refine(qF r _ (by omega)).mono ?_;rintro e w1 ⟨rfl,rfl⟩;rw[hv];go_wp2_with fail;refine(Qe B b r wr K E _ hB (ah H) hr hK).mono ?_;rintro e w2 ⟨⟨v,rfl⟩,p2,b2⟩;go_wp2_with fail;go_ret;rw[ah hx,afQ] at p2;exact⟨rfl,p2,b2⟩
theorem YB (B b:Nat)(r:ad)(wr:Bool)(w:I)(hB:B<=b)(hB2:B<=w.heap.size)(h:PT w b r wr)(hr:r.size<=1000000) :
 Calls prog 301 #[ae b] w λe w'=>e=.returned (.string (aG (Pk.rt r.data.toList 1024).1))/\PT w' b (aG (Pk.fG r.data.toList)) (wr||decide ((Pk.rt r.data.toList 1024).2.2≠0))/\Below B w w':=by
 have hK0:=aeU r.data.toList;have hx:=aj (zO r (Pk.rt r.data.toList 1024).2.1);unfold Pk.fG;obtain⟨N,K,E,hrd⟩:∃N K E,Pk.rt r.data.toList 1024=(N,K,E):=⟨_,_,_,rfl⟩;have hv:mG r.data.toList 1024=.tuple #[.string (aG N),aa K,aa E]:=by unfold mG;rw[hrd]
 rw[hrd] at hx hK0 ⊢;have hK:K<=r.size:=by simpa using hK0
 have H:=aj h;obtain⟨hlt,c0,c1,f0,f1⟩:=h;clear hrd hK0;go_enter func301,ntmps301;go_wp2_with fail;refine(lM r _ _ (by omega)).mono ?_;rintro e w1 ⟨rfl,b1⟩;have H1:=aj ((ah H).next b1);clear c0 c1 f0 f1;rw[hv];go_wp2_with fail;refine(Qe B b r wr K E _ hB (ah H1) hr hK).mono ?_;rintro e w2 ⟨⟨v,rfl⟩,p2,b2⟩;go_wp2_with fail;go_ret;rw[ah hx,afQ] at p2;exact⟨rfl,p2,(b1.mono hB2).trans b2⟩
theorem PT.other {c i:Nat}(p:PT w b r wr)(hc:c≠b):PT (w.setCell (aq c i) v) b r wr :=
 ⟨by simpa using p.lt,by rw[ay _ _ _ _ (by intro e;injection e;omega)];exact p.c0,by rw[ay _ _ _ _ (by intro e;injection e;omega)];exact p.c1,by simpa using p.f0,by simpa using p.f1⟩
structure RS (w0 W:I)(k q t:Int)(s h d r:ad)(wr:Bool):Prop where
 res:RB W w0.heap.size 0 0 0 ⟨#[]⟩ ⟨#[]⟩ ⟨#[]⟩
 got:RB W (w0.heap.size+1) k q t s h d
 lft:PT W (w0.heap.size+1+1) r wr
 bel:ai w0 W
theorem PT.new' (w:I)(b:Nat)(hb:b=w.heap.size)(r:ad)(wr:Bool)(T:TypeId):PT (w.alloc (.cells #[.string r,.bool wr] T)) b r wr:=by
 subst hb;exact⟨by simp,by simp,by simp,akp _ _ _ 0,akp _ _ _ 1⟩
theorem size_alloc (w:I)(o:Obj):(w.alloc o).heap.size=w.heap.size+1:=by simp
theorem RS.new (w:I)(k:Int)(r:ad)(T T':TypeId) :
 RS w (((w.alloc (.cells #[aa 0,aa 0,aa 0,.string ⟨#[]⟩,.string ⟨#[]⟩,.string ⟨#[]⟩] T)).alloc (.cells #[aa k,aa 0,aa 0,.string ⟨#[]⟩,.string ⟨#[]⟩,.string ⟨#[]⟩] T)).alloc (.cells #[.string r,.bool false] T')) k 0 0 ⟨#[]⟩ ⟨#[]⟩ ⟨#[]⟩ r false:=by
 generalize e1:w.alloc (.cells #[aa 0,aa 0,aa 0,.string ⟨#[]⟩,.string ⟨#[]⟩,.string ⟨#[]⟩] T)=w1;have z1:w1.heap.size=w.heap.size+1:=by rw[<-e1,size_alloc]
 have a1:RB w1 w.heap.size 0 0 0 ⟨#[]⟩ ⟨#[]⟩ ⟨#[]⟩:=by rw[<-e1];exact RB.new w 0 0 0 _ _ _ T
 have b1:ai w w1:=by rw[<-e1];exact ax _ _
 generalize e2:w1.alloc (.cells #[aa k,aa 0,aa 0,.string ⟨#[]⟩,.string ⟨#[]⟩,.string ⟨#[]⟩] T)=w2;have z2:w2.heap.size=w1.heap.size+1:=by rw[<-e2,size_alloc]
 have a2:RB w2 (w.heap.size+1) k 0 0 ⟨#[]⟩ ⟨#[]⟩ ⟨#[]⟩:=by rw[<-e2];exact RB.new' w1 _ z1.symm k 0 0 _ _ _ T
 have b2:RB w2 w.heap.size 0 0 0 ⟨#[]⟩ ⟨#[]⟩ ⟨#[]⟩:=by rw[<-e2];exact a1.alloc _
 have b3:ai w w2:=by rw[<-e2];exact b1.alloc (by omega) _
 exact⟨b2.alloc _,a2.alloc _,PT.new' w2 _ (by omega) r false T',b3.alloc (by omega) _⟩
theorem RS.call {r':ad}{wr':Bool}(x:RS w0 W k q t s h d r wr)(p:PT w' (w0.heap.size+1+1) r' wr')(b:Below (w0.heap.size+1+1) W w'):RS w0 w' k q t s h d r' wr' :=
 ⟨x.res.below b (by omega),x.got.below b (by omega),p,x.bel.trans (b.mono (by omega))⟩
theorem RS.set1 {w0 W:I}{k q t:Int}{s h d r:ad}{wr:Bool}(x:RS w0 W k q t s h d r wr)(y:Int):RS w0 (W.setCell (aq (w0.heap.size+1) 1) (aa y)) k y t s h d r wr :=
 ⟨x.res.other (by omega),x.got.set1 y,x.lft.other (by omega),x.bel.setCell (by simp) _⟩
theorem RS.set2 {w0 W:I}{k q t:Int}{s h d r:ad}{wr:Bool}(x:RS w0 W k q t s h d r wr)(y:Int):RS w0 (W.setCell (aq (w0.heap.size+1) 2) (aa y)) k q y s h d r wr :=
 ⟨x.res.other (by omega),x.got.set2 y,x.lft.other (by omega),x.bel.setCell (by simp) _⟩
theorem RS.xq {w0 W:I}{k q t:Int}{s h d r:ad}{wr:Bool}(x:RS w0 W k q t s h d r wr)(y:ad):RS w0 (W.setCell (aq (w0.heap.size+1) 3) (.string y)) k q t y h d r wr :=
 ⟨x.res.other (by omega),x.got.xq y,x.lft.other (by omega),x.bel.setCell (by simp) _⟩
theorem RS.KP {w0 W:I}{k q t:Int}{s h d r:ad}{wr:Bool}(x:RS w0 W k q t s h d r wr)(y:ad):RS w0 (W.setCell (aq (w0.heap.size+1) 4) (.string y)) k q t s y d r wr :=
 ⟨x.res.other (by omega),x.got.KP y,x.lft.other (by omega),x.bel.setCell (by simp) _⟩
theorem RS.NJ {w0 W:I}{k q t:Int}{s h d r:ad}{wr:Bool}(x:RS w0 W k q t s h d r wr)(y:ad):RS w0 (W.setCell (aq (w0.heap.size+1) 5) (.string y)) k q t s h y r wr :=
 ⟨x.res.other (by omega),x.got.NJ y,x.lft.other (by omega),x.bel.setCell (by simp) _⟩
theorem RS.drew {w0 W:I}{k q t:Int}{s h d r:ad}{wr:Bool}(x:RS w0 W k q t s h d r wr):RS w0 W.drew k q t s h d r wr :=
 ⟨x.res.drew,x.got.drew,x.lft.next (agP _ _).drew,x.bel.drew⟩
theorem Uf {v0 v1 v2 v3 v4 v5:Value}(x:RS w0 W k q t s h d r wr) :
 ai w0 ((((((W.setCell (aq w0.heap.size 0) v0).setCell (aq w0.heap.size 1) v1).setCell (aq w0.heap.size 2) v2).setCell (aq w0.heap.size 3) v3).setCell (aq w0.heap.size 4) v4).setCell (aq w0.heap.size 5) v5) :=
 (((((x.bel.setCell (agH _) _).setCell (agH _) _).setCell (agH _) _).setCell (agH _) _).setCell (agH _) _).setCell (agH _) _
theorem Qg (s:ad):s.toList.isEmpty=decide (s.size=0):=by
 rw[akM,show s.size=s.data.toList.length from by simp,akK,List.isEmpty_iff,ajG,ajZ]
theorem abM (x:RS w0 W k q t s h d r wr)(hr:r.size<=1000000) :
 Calls prog 300 #[.pointer (some ⟨w0.heap.size+1+1,0,none⟩)] W λe w'=>e=.returned (aa (Pk.rd r.data.toList).1)/\RS w0 w' k q t s h d (aG (Pk.bn r.data.toList)) (wr||decide ((Pk.rd r.data.toList).2.2≠0)) :=
 (abL (w0.heap.size+1+1) (w0.heap.size+1+1) r wr W (agH _) x.lft hr).mono λ_ _ ⟨h1,h2,h3⟩=>⟨h1,x.call h2 h3⟩
theorem Mc (x:RS w0 W k q t s h d r wr)(hr:r.size<=1000000) :
 Calls prog 301 #[.pointer (some ⟨w0.heap.size+1+1,0,none⟩)] W λe w'=>e=.returned (.string (aG (Pk.rt r.data.toList 1024).1))/\RS w0 w' k q t s h d (aG (Pk.fG r.data.toList)) (wr||decide ((Pk.rt r.data.toList 1024).2.2≠0)) :=
 (YB (w0.heap.size+1+1) (w0.heap.size+1+1) r wr W (agH _) (amx x.lft.lt) x.lft hr).mono λ_ _ ⟨h1,h2,h3⟩=>⟨h1,x.call h2 h3⟩
theorem Qh (l:List UInt8):(Pk.bn l).length<=l.length:=by unfold Pk.bn;simp
theorem Qi (l:List UInt8):(Pk.fG l).length<=l.length:=by unfold Pk.fG;simp
theorem aeV (c:Nat)(K:Int)(hK:K=(c:Int))(r0:List UInt8):Sz (Pk.gW c r0)=.agg #[aa K,aa ((Pk.rd r0).1:Int),aa ((Pk.rd (Pk.bn r0)).1:Int),.string (aG (Pk.rt (Pk.bn (Pk.bn r0)) 1024).1),.string (aG (Pk.rt (Pk.fG (Pk.bn (Pk.bn r0))) 1024).1),.string (aG (Pk.rt (Pk.fG (Pk.fG (Pk.bn (Pk.bn r0)))) 1024).1)]:=by
 subst hK;unfold Sz Pk.gW Pk.p1 Pk.p2 Pk.p3 Pk.p4;simp only[]
theorem agm (r0:List UInt8):Pk.okB r0=(!(((((false||decide ((Pk.rd r0).2.2≠0))||decide ((Pk.rd (Pk.bn r0)).2.2≠0))||decide ((Pk.rt (Pk.bn (Pk.bn r0)) 1024).2.2≠0))||decide ((Pk.rt (Pk.fG (Pk.bn (Pk.bn r0))) 1024).2.2≠0))||decide ((Pk.rt (Pk.fG (Pk.fG (Pk.bn (Pk.bn r0)))) 1024).2.2≠0))&&decide ((aG (Pk.fG (Pk.fG (Pk.fG (Pk.bn (Pk.bn r0)))))).size=0)):=by
 rw[aU];unfold Pk.okB Pk.p1 Pk.p2 Pk.p3 Pk.p4 Pk.p5;rw[akK];simp only[ajN,alC,Bool.or_eq_false_iff,ajG,akr,ne_eq,Decidable.not_not,and_assoc,ane]
theorem Ug (w:I) :
 Calls prog 289 #[.string ⟨#[]⟩] w λe w'=>e=.returned (.tuple #[Sz Pk.none',.bool false])/\ai w w':=by
 go_enter func289,ntmps289;go_wp2_with fail;refine ajY (eu rfl rfl (RB.new w 0 0 0 _ _ _ _)) rfl ?_;exact⟨rfl,ax _ _⟩
theorem Uh (x:ad)(w:I)(h0:0<x.size)(hs:x.size<=1000000) :
 Calls prog 289 #[.string x] w λe w'=>e=.returned (.tuple #[Sz (Pk.gW (Pk.at' x.data.toList 0) (x.data.toList.drop 1)),.bool (Pk.okB (x.data.toList.drop 1))])/\ai w w':=by
 have hne:x.toList.isEmpty=false:=by
  rw[akM];have:x.data.toList.length≠0:=by rw[show x.data.toList.length=x.size from by simp];omega
  cases h:x.data.toList with
  | nil=>rw[h] at this;exact absurd rfl this
  | cons a b=>rfl
 have hk:=aj (byte_at x h0);obtain⟨r0,hr0⟩:∃r0,r0=x.data.toList.drop 1:=⟨_,rfl⟩;have hl0:r0.length<=1000000:=by rw[hr0];simp;omega
 have l1:=Qh r0;have l2:=Qh (Pk.bn r0);have l3:=Qi (Pk.bn (Pk.bn r0));have l4:=Qi (Pk.fG (Pk.bn (Pk.bn r0)));have S0:=aj (RS.new w (wrap64 ((x[0]'h0).toNat:Int)) (x.extract 1 x.size) 46 364);rw[zO,<-hr0] at S0;have HX:=aj (zO x 1);rw[<-hr0] at HX ⊢;clear hr0;go_enter func289,ntmps289;go_wp2_with fail;rw[ah HX];refine(abM (ah S0) (by rw[aU];omega)).mono ?_;rintro e w1 ⟨rfl,S1⟩;rw[dL] at S1 ⊢;have f:=S1.got.fr 1;have c:=S1.got.c1;have S1':=aj (S1.set1 (Pk.rd r0).1);clear S1 S0;go_wp2_with fail;refine(abM (ah S1') (by rw[aU];omega)).mono ?_
 rintro e w2 ⟨rfl,S2⟩;rw[dL] at S2 ⊢;clear S1' f c;have f:=S2.got.fr 2;have c:=S2.got.c2;have S2':=aj (S2.set2 (Pk.rd (Pk.bn r0)).1);clear S2;go_wp2_with fail;refine(Mc (ah S2') (by rw[aU];omega)).mono ?_;rintro e w3 ⟨rfl,S3⟩;rw[dL] at S3 ⊢;clear S2' f c;have f:=S3.got.fr 3;have c:=S3.got.c3;have S3':=aj (S3.xq (aG (Pk.rt (Pk.bn (Pk.bn r0)) 1024).1));clear S3;go_wp2_with fail;refine(Mc (ah S3') (by rw[aU];omega)).mono ?_;rintro e w4 ⟨rfl,S4⟩;rw[dL] at S4 ⊢;clear S3' f c;have f:=S4.got.fr 4;have c:=S4.got.c4;have S4':=aj (S4.KP (aG (Pk.rt (Pk.fG (Pk.bn (Pk.bn r0))) 1024).1))
 clear S4;go_wp2_with fail;refine(Mc (ah S4') (by rw[aU];omega)).mono ?_;rintro e w5 ⟨rfl,S5⟩;rw[dL] at S5 ⊢;clear S4' f c;have HG:=aj (agm r0);generalize (((((false||decide ((Pk.rd r0).2.2≠0))||decide ((Pk.rd (Pk.bn r0)).2.2≠0))||decide ((Pk.rt (Pk.bn (Pk.bn r0)) 1024).2.2≠0))||decide ((Pk.rt (Pk.fG (Pk.bn (Pk.bn r0))) 1024).2.2≠0))||decide ((Pk.rt (Pk.fG (Pk.fG (Pk.bn (Pk.bn r0)))) 1024).2.2≠0))=g at S5 HG;generalize aG (Pk.fG (Pk.fG (Pk.fG (Pk.bn (Pk.bn r0)))))=L at S5 HG;have HK:Hid (wrap64 ((x[0]'h0).toNat:Int)=((Pk.at' x.data.toList 0:Nat):Int)):=aj (by
  rw[ah hk];have:=Pk.BG x.data.toList 0;exact IntWalk.wrap64_in _ ⟨by omega,by omega⟩)
 have HV:=aj (aeV (Pk.at' x.data.toList 0) _ (ah HK) r0);generalize aG (Pk.rt (Pk.bn (Pk.bn r0)) 1024).1=A at S5 HV ⊢;generalize aG (Pk.rt (Pk.fG (Pk.bn (Pk.bn r0))) 1024).1=B at S5 HV ⊢;generalize aG (Pk.rt (Pk.fG (Pk.fG (Pk.bn (Pk.bn r0)))) 1024).1=D at HV ⊢;have f:=S5.got.fr 5;have c:=S5.got.c5;have S6:=aj (S5.NJ D);clear S5 l1 l2 l3 l4 HX hk HK hne;go_wp2_with fail;generalize w5.setCell (aq (w.heap.size+1) 5) (.string D)=W at S6 ⊢;clear f c;generalize wrap64 ((x[0]'h0).toNat:Int)=KK at S6 HV ⊢;generalize ((Pk.rd r0).1:Int)=QQ at S6 HV ⊢;generalize ((Pk.rd (Pk.bn r0)).1:Int)=TT at S6 HV ⊢
 have S7:=(ah S6).drew;generalize hW:W.drew=W' at S7;obtain⟨_,a0,a1,a2,a3,a4,a5,_⟩:=(ah S6).got;obtain⟨_,p0,p1,_,_⟩:=(ah S6).lft;obtain⟨_,b0,b1,b2,b3,b4,b5,_⟩:=S7.got;obtain⟨_,r0',r1',r2',r3',r4',r5',rf⟩:=S7.res;obtain⟨_,q0,q1,_,_⟩:=S7.lft;have g0:=rf 0;have g1:=rf 1;have g2:=rf 2;have g3:=rf 3;have g4:=rf 4;have g5:=rf 5;have HS:=aj S7;clear rf S7 S6;have n1:¬w.heap.size+1+1=w.heap.size:=by omega
 have n2:¬w.heap.size=w.heap.size+1+1:=by omega
 cases g with
 | true =>
  have hok:Pk.okB r0=false:=by rw[ah HG];rfl
  have HO:=aj hok;clear HG a0 a1 a2 a3 a4 a5 p0 p1 hok;go_region
  go_wp2_with fail;refine ajY (eu rfl rfl (((((((ah HS).res.set0 KK).set1 QQ).set2 TT).xq A).KP B).NJ D)) rfl ?_;exact⟨by rw[ah HV,ah HO];rfl,Uf (ah HS)⟩
 | false =>
  cases hL:L.toList.isEmpty with
  | true =>
   have hok:Pk.okB r0=true:=by rw[ah HG,show decide (L.size=0)=L.toList.isEmpty from(Qg L).symm,hL];rfl
   have HO:=aj hok;clear HG a0 a1 a2 a3 a4 a5 p0 p1 hok;go_region
   go_wp2_with fail;refine ajY (eu rfl rfl (((((((ah HS).res.set0 KK).set1 QQ).set2 TT).xq A).KP B).NJ D)) rfl ?_;exact⟨by rw[ah HV,ah HO];rfl,Uf (ah HS)⟩
  | false =>
   have hok:Pk.okB r0=false:=by rw[ah HG,show decide (L.size=0)=L.toList.isEmpty from(Qg L).symm,hL];rfl
   have HO:=aj hok;clear HG a0 a1 a2 a3 a4 a5 p0 p1 hok;go_region
   go_wp2_with fail;refine ajY (eu rfl rfl (((((((ah HS).res.set0 KK).set1 QQ).set2 TT).xq A).KP B).NJ D)) rfl ?_;exact⟨by rw[ah HV,ah HO];rfl,Uf (ah HS)⟩
