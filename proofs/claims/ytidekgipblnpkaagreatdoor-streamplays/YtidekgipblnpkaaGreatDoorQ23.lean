/- A part. -/
import Derived.Test.YtidekgipblnpkaaGreatDoorQ9
import Derived.Test.YtidekgipblnpkaaGreatDoorQ15
set_option maxRecDepth 100000
set_option maxHeartbeats 8000000
namespace Go.Proofs.YtidekgipblnpkaaGreatDoor
open Go.RowKit Go.Proofs.Tryz
structure PT (w:World)(b:Nat)(r:ByteArray)(wr:Bool):Prop where
 lt:b<w.heap.size
 c0:w.cell? ⟨b,0,none⟩=some (.string r)
 c1:w.cell? ⟨b,1,none⟩=some (.bool wr)
 f0:w.frozen? ⟨b,0,none⟩=false
 f1:w.frozen? ⟨b,1,none⟩=false
theorem PT.next {w w':World}{b:Nat}{r:ByteArray}{wr:Bool}(h:PT w b r wr)(hb:Below w.heap.size w w'):PT w' b r wr :=
 ⟨ajc h.lt hb.size,by rw[hb.cell (p:=⟨b,0,none⟩) h.lt];exact h.c0,by rw[hb.cell (p:=⟨b,1,none⟩) h.lt];exact h.c1,by rw[hb.frozen (p:=⟨b,0,none⟩) h.lt];exact h.f0,by rw[hb.frozen (p:=⟨b,1,none⟩) h.lt];exact h.f1⟩
theorem PT.set {w:World}{b:Nat}{r:ByteArray}{wr:Bool}(h:PT w b r wr)(r':ByteArray)(wr':Bool):PT ((w.setCell ⟨b,0,none⟩ (.string r')).setCell ⟨b,1,none⟩ (.bool wr')) b r' wr':=by
 have e1:(w.setCell ⟨b,0,none⟩ (.string r')).cell? ⟨b,1,none⟩=some (.bool wr):=by
  rw[aB _ _ _ _ (by intro q;injection q;omega)];exact h.c1
 refine⟨by simpa using h.lt,?_,?_,by simpa using h.f0,by simpa using h.f1⟩
 ·rw[aB _ _ _ _ (by intro q;injection q;omega)];exact alm _ _ _ (by rw[h.c0];rfl)
 ·exact alm _ _ _ (by rw[e1];rfl)
theorem Td (B b:Nat)(r:ByteArray)(wr:Bool)(K E:Nat)(w:World)(hB:B<=b)(h:PT w b r wr)(_hr:r.size<=1000000)(hK:K<=r.size) :
 Calls prog 272 #[.pointer (some ⟨b,0,none⟩),.int .i64 K,.int .i64 E] w λe w'=>(∃v,e=.returned v)/\PT w' b (r.extract K r.size) (wr||((E:Int) !=0))/\Below B w w':=by
 have H:=aj h;obtain⟨hlt,c0,c1,f0,f1⟩:=h
 cases wr with
 | true =>
  go_enter func272,ntmps272;go_wp2_with fail;go_end0
  exact⟨⟨_,rfl⟩,(ah H).set _ _,((ajb _ _).setCell hB _).setCell hB _⟩
 | false =>
  go_enter func272,ntmps272;go_wp2_with fail;go_end0
  exact⟨⟨_,rfl⟩,(ah H).set _ _,((ajb _ _).setCell hB _).setCell hB _⟩
theorem pR (s:ByteArray)(k:Nat):s.extract k s.size=aF (s.data.toList.drop k):=by
 apply akQ;apply amx.1;simp only[aF,ByteArray.data_extract,Array.toList_extract,List.extract_eq_take_drop];rw[ajs (by simp)]
theorem Ym (l:List UInt8):(Pk.rd l).2.1<=l.length:=by
 by_cases h:(Pk.rd l).2.2=0
 ·exact(Pk.yY h).2.1
 ·rw[(Pk.agS h).2];exact ajm _
theorem acV {l:List UInt8}{m:Int}(h:(Pk.rt l m).2.2≠0):(Pk.rt l m).1=[]/\(Pk.rt l m).2.1=0:=by
 unfold Pk.rt at h ⊢;split
 ·exact⟨rfl,rfl⟩
 rename_i h1;rw[if_neg h1] at h;split
 ·exact⟨rfl,rfl⟩
 rename_i h2;rw[if_neg h2] at h;split
 ·exact⟨rfl,rfl⟩
 rename_i h3;rw[if_neg h3] at h;exact absurd rfl h
theorem Yn (l:List UInt8):(Pk.rt l 1024).2.1<=l.length:=by
 by_cases h:(Pk.rt l 1024).2.2=0
 ·exact(Pk.Ik (l:=l) (most:=1024) (x:=(Pk.rt l 1024).1) (n:=(Pk.rt l 1024).2.1) (by rw[<-h])).2.1
 ·rw[(acV h).2];exact ajm _
theorem agA {wr:Bool}{E:Nat}:(wr||((E:Int) !=0))=(wr||decide (E≠0)):=by
 congr 1
 rw[akc];simp
theorem acW (B b:Nat)(r:ByteArray)(wr:Bool)(w:World)(hB:B<=b)(h:PT w b r wr)(hr:r.size<=1000000) :
 Calls prog 254 #[.pointer (some ⟨b,0,none⟩)] w λe w'=>e=.returned (.int .i64 (Pk.rd r.data.toList).1)/\PT w' b (aF (Pk.bU r.data.toList)) (wr||decide ((Pk.rd r.data.toList).2.2≠0))/\Below B w w':=by
 have hK0:=Ym r.data.toList;have hx:=aj (pR r (Pk.rd r.data.toList).2.1);unfold Pk.bU;obtain⟨N,K,E,hrd⟩:∃N K E,Pk.rd r.data.toList=(N,K,E):=⟨_,_,_,rfl⟩;have hv:IQ r.data.toList=.tuple #[.int .i64 N,.int .i64 K,.int .i64 E]:=by unfold IQ;rw[hrd]
 rw[hrd] at hx hK0 ⊢;have hK:K<=r.size:=by simpa using hK0
 have H:=aj h;obtain⟨hlt,c0,c1,f0,f1⟩:=h;clear hrd hK0;go_enter func254,ntmps254;go_wp2_with fail;refine(rF r _ (by omega)).mono ?_;rintro e w1 ⟨rfl,rfl⟩;rw[hv];go_wp2_with fail;refine(Td B b r wr K E _ hB (ah H) hr hK).mono ?_;rintro e w2 ⟨⟨v,rfl⟩,p2,b2⟩;go_wp2_with fail;go_ret;rw[ah hx,agA] at p2;exact⟨rfl,p2,b2⟩
theorem ZW (B b:Nat)(r:ByteArray)(wr:Bool)(w:World)(hB:B<=b)(hB2:B<=w.heap.size)(h:PT w b r wr)(hr:r.size<=1000000) :
 Calls prog 255 #[.pointer (some ⟨b,0,none⟩)] w λe w'=>e=.returned (.string (aF (Pk.rt r.data.toList 1024).1))/\PT w' b (aF (Pk.fV r.data.toList)) (wr||decide ((Pk.rt r.data.toList 1024).2.2≠0))/\Below B w w':=by
 have hK0:=Yn r.data.toList;have hx:=aj (pR r (Pk.rt r.data.toList 1024).2.1);unfold Pk.fV;obtain⟨N,K,E,hrd⟩:∃N K E,Pk.rt r.data.toList 1024=(N,K,E):=⟨_,_,_,rfl⟩;have hv:iH r.data.toList 1024=.tuple #[.string (aF N),.int .i64 K,.int .i64 E]:=by unfold iH;rw[hrd]
 rw[hrd] at hx hK0 ⊢;have hK:K<=r.size:=by simpa using hK0
 have H:=aj h;obtain⟨hlt,c0,c1,f0,f1⟩:=h;clear hrd hK0;go_enter func255,ntmps255;go_wp2_with fail;refine(ng r _ _ (by omega)).mono ?_;rintro e w1 ⟨rfl,b1⟩;have H1:=aj ((ah H).next b1);clear c0 c1 f0 f1;rw[hv];go_wp2_with fail;refine(Td B b r wr K E _ hB (ah H1) hr hK).mono ?_;rintro e w2 ⟨⟨v,rfl⟩,p2,b2⟩;go_wp2_with fail;go_ret;rw[ah hx,agA] at p2;exact⟨rfl,p2,(b1.mono hB2).trans b2⟩
theorem PT.other {w:World}{b c i:Nat}{r:ByteArray}{wr:Bool}{v:Value}(p:PT w b r wr)(hc:c≠b):PT (w.setCell ⟨c,i,none⟩ v) b r wr :=
 ⟨by simpa using p.lt,by rw[aB _ _ _ _ (by intro e;injection e;omega)];exact p.c0,by rw[aB _ _ _ _ (by intro e;injection e;omega)];exact p.c1,by simpa using p.f0,by simpa using p.f1⟩
structure RS (w0 W:World)(k q t:Int)(s h d r:ByteArray)(wr:Bool):Prop where
 res:RB W w0.heap.size 0 0 0 ⟨#[]⟩ ⟨#[]⟩ ⟨#[]⟩
 lZ:RB W (w0.heap.size+1) k q t s h d
 lft:PT W (w0.heap.size+1+1) r wr
 Kt:Below w0.heap.size w0 W
theorem PT.Za (w:World)(b:Nat)(hb:b=w.heap.size)(r:ByteArray)(wr:Bool)(T:TypeId):PT (w.alloc (.cells #[.string r,.bool wr] T)) b r wr:=by
 subst hb;exact⟨by simp,by simp,by simp,akf _ _ _ 0,akf _ _ _ 1⟩
theorem size_alloc (w:World)(o:Obj):(w.alloc o).heap.size=w.heap.size+1:=by simp
theorem RS.new (w:World)(k:Int)(r:ByteArray)(T T':TypeId) :
 RS w (((w.alloc (.cells #[.int .i64 0,.int .i64 0,.int .i64 0,.string ⟨#[]⟩,.string ⟨#[]⟩,.string ⟨#[]⟩] T)).alloc (.cells #[.int .i64 k,.int .i64 0,.int .i64 0,.string ⟨#[]⟩,.string ⟨#[]⟩,.string ⟨#[]⟩] T)).alloc (.cells #[.string r,.bool false] T')) k 0 0 ⟨#[]⟩ ⟨#[]⟩ ⟨#[]⟩ r false:=by
 generalize e1:w.alloc (.cells #[.int .i64 0,.int .i64 0,.int .i64 0,.string ⟨#[]⟩,.string ⟨#[]⟩,.string ⟨#[]⟩] T)=w1;have z1:w1.heap.size=w.heap.size+1:=by rw[<-e1,size_alloc]
 have a1:RB w1 w.heap.size 0 0 0 ⟨#[]⟩ ⟨#[]⟩ ⟨#[]⟩:=by rw[<-e1];exact RB.new w 0 0 0 _ _ _ T
 have b1:Below w.heap.size w w1:=by rw[<-e1];exact(ajb _ _).alloc (Xc _) _
 generalize e2:w1.alloc (.cells #[.int .i64 k,.int .i64 0,.int .i64 0,.string ⟨#[]⟩,.string ⟨#[]⟩,.string ⟨#[]⟩] T)=w2;have z2:w2.heap.size=w1.heap.size+1:=by rw[<-e2,size_alloc]
 have a2:RB w2 (w.heap.size+1) k 0 0 ⟨#[]⟩ ⟨#[]⟩ ⟨#[]⟩:=by rw[<-e2];exact RB.Za w1 _ z1.symm k 0 0 _ _ _ T
 have b2:RB w2 w.heap.size 0 0 0 ⟨#[]⟩ ⟨#[]⟩ ⟨#[]⟩:=by rw[<-e2];exact a1.alloc _
 have b3:Below w.heap.size w w2:=by rw[<-e2];exact b1.alloc (by omega) _
 exact⟨b2.alloc _,a2.alloc _,PT.Za w2 _ (by omega) r false T',b3.alloc (by omega) _⟩
theorem RS.call {w0 W w':World}{k q t:Int}{s h d r r':ByteArray}{wr wr':Bool}(x:RS w0 W k q t s h d r wr)(p:PT w' (w0.heap.size+1+1) r' wr')(b:Below (w0.heap.size+1+1) W w'):RS w0 w' k q t s h d r' wr' :=
 ⟨x.res.below b (by omega),x.lZ.below b (by omega),p,x.Kt.trans (b.mono (by omega))⟩
theorem RS.uU {w0 W:World}{k q t:Int}{s h d r:ByteArray}{wr:Bool}(x:RS w0 W k q t s h d r wr)(y:Int):RS w0 (W.setCell ⟨w0.heap.size+1,1,none⟩ (.int .i64 y)) k y t s h d r wr :=
 ⟨x.res.other (by omega),x.lZ.uU y,x.lft.other (by omega),x.Kt.setCell (by simp) _⟩
theorem RS.vT {w0 W:World}{k q t:Int}{s h d r:ByteArray}{wr:Bool}(x:RS w0 W k q t s h d r wr)(y:Int):RS w0 (W.setCell ⟨w0.heap.size+1,2,none⟩ (.int .i64 y)) k q y s h d r wr :=
 ⟨x.res.other (by omega),x.lZ.vT y,x.lft.other (by omega),x.Kt.setCell (by simp) _⟩
theorem RS.vU {w0 W:World}{k q t:Int}{s h d r:ByteArray}{wr:Bool}(x:RS w0 W k q t s h d r wr)(y:ByteArray):RS w0 (W.setCell ⟨w0.heap.size+1,3,none⟩ (.string y)) k q t y h d r wr :=
 ⟨x.res.other (by omega),x.lZ.vU y,x.lft.other (by omega),x.Kt.setCell (by simp) _⟩
theorem RS.BJ {w0 W:World}{k q t:Int}{s h d r:ByteArray}{wr:Bool}(x:RS w0 W k q t s h d r wr)(y:ByteArray):RS w0 (W.setCell ⟨w0.heap.size+1,4,none⟩ (.string y)) k q t s y d r wr :=
 ⟨x.res.other (by omega),x.lZ.BJ y,x.lft.other (by omega),x.Kt.setCell (by simp) _⟩
theorem RS.GH {w0 W:World}{k q t:Int}{s h d r:ByteArray}{wr:Bool}(x:RS w0 W k q t s h d r wr)(y:ByteArray):RS w0 (W.setCell ⟨w0.heap.size+1,5,none⟩ (.string y)) k q t s h y r wr :=
 ⟨x.res.other (by omega),x.lZ.GH y,x.lft.other (by omega),x.Kt.setCell (by simp) _⟩
theorem RS.drew {w0 W:World}{k q t:Int}{s h d r:ByteArray}{wr:Bool}(x:RS w0 W k q t s h d r wr):RS w0 W.drew k q t s h d r wr :=
 ⟨x.res.drew,x.lZ.drew,x.lft.next (ajb _ _).drew,x.Kt.drew⟩
theorem V6 {w0 W:World}{k q t:Int}{s h d r:ByteArray}{wr:Bool}{v0 v1 v2 v3 v4 v5:Value}(x:RS w0 W k q t s h d r wr) :
 Below w0.heap.size w0 ((((((W.setCell ⟨w0.heap.size,0,none⟩ v0).setCell ⟨w0.heap.size,1,none⟩ v1).setCell ⟨w0.heap.size,2,none⟩ v2).setCell ⟨w0.heap.size,3,none⟩ v3).setCell ⟨w0.heap.size,4,none⟩ v4).setCell ⟨w0.heap.size,5,none⟩ v5) :=
 (((((x.Kt.setCell (Xc _) _).setCell (Xc _) _).setCell (Xc _) _).setCell (Xc _) _).setCell (Xc _) _).setCell (Xc _) _
theorem Aw (s:ByteArray):s.toList.isEmpty=decide (s.size=0):=by
 rw[akd,show s.size=s.data.toList.length from by simp,akc,List.isEmpty_iff,ajw,ajK]
theorem acX {w0 W:World}{k q t:Int}{s h d r:ByteArray}{wr:Bool}(x:RS w0 W k q t s h d r wr)(hr:r.size<=1000000) :
 Calls prog 254 #[.pointer (some ⟨w0.heap.size+1+1,0,none⟩)] W λe w'=>e=.returned (.int .i64 (Pk.rd r.data.toList).1)/\RS w0 w' k q t s h d (aF (Pk.bU r.data.toList)) (wr||decide ((Pk.rd r.data.toList).2.2≠0)) :=
 (acW (w0.heap.size+1+1) (w0.heap.size+1+1) r wr W (Xc _) x.lft hr).mono λ_ _ ⟨h1,h2,h3⟩=>⟨h1,x.call h2 h3⟩
theorem OZ {w0 W:World}{k q t:Int}{s h d r:ByteArray}{wr:Bool}(x:RS w0 W k q t s h d r wr)(hr:r.size<=1000000) :
 Calls prog 255 #[.pointer (some ⟨w0.heap.size+1+1,0,none⟩)] W λe w'=>e=.returned (.string (aF (Pk.rt r.data.toList 1024).1))/\RS w0 w' k q t s h d (aF (Pk.fV r.data.toList)) (wr||decide ((Pk.rt r.data.toList 1024).2.2≠0)) :=
 (ZW (w0.heap.size+1+1) (w0.heap.size+1+1) r wr W (Xc _) (alJ x.lft.lt) x.lft hr).mono λ_ _ ⟨h1,h2,h3⟩=>⟨h1,x.call h2 h3⟩
theorem Az (l:List UInt8):(Pk.bU l).length<=l.length:=by unfold Pk.bU;simp
theorem AB (l:List UInt8):(Pk.fV l).length<=l.length:=by unfold Pk.fV;simp
theorem afC (c:Nat)(K:Int)(hK:K=(c:Int))(r0:List UInt8):QG (Pk.eF c r0)=.agg #[.int .i64 K,.int .i64 ((Pk.rd r0).1:Int),.int .i64 ((Pk.rd (Pk.bU r0)).1:Int),.string (aF (Pk.rt (Pk.bU (Pk.bU r0)) 1024).1),.string (aF (Pk.rt (Pk.fV (Pk.bU (Pk.bU r0))) 1024).1),.string (aF (Pk.rt (Pk.fV (Pk.fV (Pk.bU (Pk.bU r0)))) 1024).1)]:=by
 subst hK;unfold QG Pk.eF Pk.p1 Pk.p2 Pk.p3 Pk.p4;simp only[]
theorem aha (r0:List UInt8):Pk.okB r0=(!(((((false||decide ((Pk.rd r0).2.2≠0))||decide ((Pk.rd (Pk.bU r0)).2.2≠0))||decide ((Pk.rt (Pk.bU (Pk.bU r0)) 1024).2.2≠0))||decide ((Pk.rt (Pk.fV (Pk.bU (Pk.bU r0))) 1024).2.2≠0))||decide ((Pk.rt (Pk.fV (Pk.fV (Pk.bU (Pk.bU r0)))) 1024).2.2≠0))&&decide ((aF (Pk.fV (Pk.fV (Pk.fV (Pk.bU (Pk.bU r0)))))).size=0)):=by
 rw[aK];unfold Pk.okB Pk.p1 Pk.p2 Pk.p3 Pk.p4 Pk.p5;rw[akc];simp only[ajU,akL,Bool.or_eq_false_iff,ajw,ajP,ne_eq,Decidable.not_not,and_assoc,anp]
theorem V7 (w:World) :
 Calls prog 236 #[.string ⟨#[]⟩] w λe w'=>e=.returned (.tuple #[QG Pk.oV,.bool false])/\Below w.heap.size w w':=by
 go_enter func236,ntmps236;go_wp2_with fail;refine ajJ (dA rfl rfl (RB.new w 0 0 0 _ _ _ _)) rfl ?_;exact⟨rfl,(ajb _ _).alloc (Xc _) _⟩
theorem V8 (x:ByteArray)(w:World)(h0:0<x.size)(hs:x.size<=1000000) :
 Calls prog 236 #[.string x] w λe w'=>e=.returned (.tuple #[QG (Pk.eF (Pk.at' x.data.toList 0) (x.data.toList.drop 1)),.bool (Pk.okB (x.data.toList.drop 1))])/\Below w.heap.size w w':=by
 have hne:x.toList.isEmpty=false:=by
  rw[akd];have:x.data.toList.length≠0:=by rw[show x.data.toList.length=x.size from by simp];omega
  cases h:x.data.toList with
  | nil=>rw[h] at this;exact absurd rfl this
  | cons a b=>rfl
 have hk:=aj (byte_at x h0);obtain⟨r0,hr0⟩:∃r0,r0=x.data.toList.drop 1:=⟨_,rfl⟩;have hl0:r0.length<=1000000:=by rw[hr0];simp;omega
 have l1:=Az r0;have l2:=Az (Pk.bU r0);have l3:=AB (Pk.bU (Pk.bU r0));have l4:=AB (Pk.fV (Pk.bU (Pk.bU r0)));have S0:=aj (RS.new w (wrap64 ((x[0]'h0).toNat:Int)) (x.extract 1 x.size) 73 275);rw[pR,<-hr0] at S0;have HX:=aj (pR x 1);rw[<-hr0] at HX ⊢;clear hr0;go_enter func236,ntmps236;go_wp2_with fail;rw[ah HX];refine(acX (ah S0) (by rw[aK];omega)).mono ?_;rintro e w1 ⟨rfl,S1⟩;rw[aV] at S1 ⊢;have f:=S1.lZ.fr 1;have c:=S1.lZ.c1;have S1':=aj (S1.uU (Pk.rd r0).1);clear S1 S0;go_wp2_with fail;refine(acX (ah S1') (by rw[aK];omega)).mono ?_
 rintro e w2 ⟨rfl,S2⟩;rw[aV] at S2 ⊢;clear S1' f c;have f:=S2.lZ.fr 2;have c:=S2.lZ.c2;have S2':=aj (S2.vT (Pk.rd (Pk.bU r0)).1);clear S2;go_wp2_with fail;refine(OZ (ah S2') (by rw[aK];omega)).mono ?_;rintro e w3 ⟨rfl,S3⟩;rw[aV] at S3 ⊢;clear S2' f c;have f:=S3.lZ.fr 3;have c:=S3.lZ.c3;have S3':=aj (S3.vU (aF (Pk.rt (Pk.bU (Pk.bU r0)) 1024).1));clear S3;go_wp2_with fail;refine(OZ (ah S3') (by rw[aK];omega)).mono ?_;rintro e w4 ⟨rfl,S4⟩;rw[aV] at S4 ⊢;clear S3' f c;have f:=S4.lZ.fr 4;have c:=S4.lZ.c4;have S4':=aj (S4.BJ (aF (Pk.rt (Pk.fV (Pk.bU (Pk.bU r0))) 1024).1))
 clear S4;go_wp2_with fail;refine(OZ (ah S4') (by rw[aK];omega)).mono ?_;rintro e w5 ⟨rfl,S5⟩;rw[aV] at S5 ⊢;clear S4' f c;have HG:=aj (aha r0);generalize (((((false||decide ((Pk.rd r0).2.2≠0))||decide ((Pk.rd (Pk.bU r0)).2.2≠0))||decide ((Pk.rt (Pk.bU (Pk.bU r0)) 1024).2.2≠0))||decide ((Pk.rt (Pk.fV (Pk.bU (Pk.bU r0))) 1024).2.2≠0))||decide ((Pk.rt (Pk.fV (Pk.fV (Pk.bU (Pk.bU r0)))) 1024).2.2≠0))=g at S5 HG;generalize aF (Pk.fV (Pk.fV (Pk.fV (Pk.bU (Pk.bU r0)))))=L at S5 HG;have HK:Hid (wrap64 ((x[0]'h0).toNat:Int)=((Pk.at' x.data.toList 0:Nat):Int)):=aj (by
  rw[ah hk];have:=Pk.qW x.data.toList 0;exact alE _ ⟨by omega,by omega⟩)
 have HV:=aj (afC (Pk.at' x.data.toList 0) _ (ah HK) r0);generalize aF (Pk.rt (Pk.bU (Pk.bU r0)) 1024).1=A at S5 HV ⊢;generalize aF (Pk.rt (Pk.fV (Pk.bU (Pk.bU r0))) 1024).1=B at S5 HV ⊢;generalize aF (Pk.rt (Pk.fV (Pk.fV (Pk.bU (Pk.bU r0)))) 1024).1=D at HV ⊢;have f:=S5.lZ.fr 5;have c:=S5.lZ.c5;have S6:=aj (S5.GH D);clear S5 l1 l2 l3 l4 HX hk HK hne;go_wp2_with fail;generalize w5.setCell ⟨w.heap.size+1,5,none⟩ (.string D)=W at S6 ⊢;clear f c;generalize wrap64 ((x[0]'h0).toNat:Int)=KK at S6 HV ⊢;generalize ((Pk.rd r0).1:Int)=QQ at S6 HV ⊢;generalize ((Pk.rd (Pk.bU r0)).1:Int)=TT at S6 HV ⊢
 have S7:=(ah S6).drew;generalize hW:W.drew=W' at S7;obtain⟨_,a0,a1,a2,a3,a4,a5,_⟩:=(ah S6).lZ;obtain⟨_,p0,p1,_,_⟩:=(ah S6).lft;obtain⟨_,b0,b1,b2,b3,b4,b5,_⟩:=S7.lZ;obtain⟨_,r0',r1',r2',r3',r4',r5',rf⟩:=S7.res;obtain⟨_,q0,q1,_,_⟩:=S7.lft;have g0:=rf 0;have g1:=rf 1;have g2:=rf 2;have g3:=rf 3;have g4:=rf 4;have g5:=rf 5;have HS:=aj S7;clear rf S7 S6;have n1:¬w.heap.size+1+1=w.heap.size:=by omega
 have n2:¬w.heap.size=w.heap.size+1+1:=by omega
 cases g with
 | true =>
  have hok:Pk.okB r0=false:=by rw[ah HG];rfl
  have HO:=aj hok;clear HG a0 a1 a2 a3 a4 a5 p0 p1 hok;go_region
  go_wp2_with fail;refine ajJ (dA rfl rfl (((((((ah HS).res.Oa KK).uU QQ).vT TT).vU A).BJ B).GH D)) rfl ?_;exact⟨by rw[ah HV,ah HO];rfl,V6 (ah HS)⟩
 | false =>
  cases hL:L.toList.isEmpty with
  | true =>
   have hok:Pk.okB r0=true:=by rw[ah HG,show decide (L.size=0)=L.toList.isEmpty from(Aw L).symm,hL];rfl
   have HO:=aj hok;clear HG a0 a1 a2 a3 a4 a5 p0 p1 hok;go_region
   go_wp2_with fail;refine ajJ (dA rfl rfl (((((((ah HS).res.Oa KK).uU QQ).vT TT).vU A).BJ B).GH D)) rfl ?_;exact⟨by rw[ah HV,ah HO];rfl,V6 (ah HS)⟩
  | false =>
   have hok:Pk.okB r0=false:=by rw[ah HG,show decide (L.size=0)=L.toList.isEmpty from(Aw L).symm,hL];rfl
   have HO:=aj hok;clear HG a0 a1 a2 a3 a4 a5 p0 p1 hok;go_region
   go_wp2_with fail;refine ajJ (dA rfl rfl (((((((ah HS).res.Oa KK).uU QQ).vT TT).vU A).BJ B).GH D)) rfl ?_;exact⟨by rw[ah HV,ah HO];rfl,V6 (ah HS)⟩
