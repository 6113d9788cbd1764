/- A part of the proof. -/
import Derived.Test.YtidekgipblnpkaaGreatDoorQ5
import Derived.Test.YtidekgipblnpkaaGreatDoorQ31
set_option maxRecDepth 100000
set_option maxHeartbeats 8000000
namespace Go.Proofs.YtidekgipblnpkaaGreatDoor
open Go.RowKit Go.Proofs.Tryz
structure PT (w:World)(b:Nat)(r:ByteArray)(wr:Bool):Prop where
 lt:b<w.heap.size
 c0:w.cell? ⟨b,0,none⟩=some (.string r)
 c1:w.cell? ⟨b,1,none⟩=some (.bool wr)
 f0:w.frozen? ⟨b,0,none⟩=false
 f1:w.frozen? ⟨b,1,none⟩=false
theorem PT.next {w w':World}{b:Nat}{r:ByteArray}{wr:Bool}(h:PT w b r wr)(hb:Below w.heap.size w w'):PT w' b r wr :=
 ⟨Nat.lt_of_lt_of_le h.lt hb.size,by rw[hb.cell (p:=⟨b,0,none⟩) h.lt];exact h.c0,by rw[hb.cell (p:=⟨b,1,none⟩) h.lt];exact h.c1,by rw[hb.frozen (p:=⟨b,0,none⟩) h.lt];exact h.f0,by rw[hb.frozen (p:=⟨b,1,none⟩) h.lt];exact h.f1⟩
theorem PT.set {w:World}{b:Nat}{r:ByteArray}{wr:Bool}(h:PT w b r wr)(r':ByteArray)(wr':Bool):PT ((w.setCell ⟨b,0,none⟩ (.string r')).setCell ⟨b,1,none⟩ (.bool wr')) b r' wr':=by
 have e1:(w.setCell ⟨b,0,none⟩ (.string r')).cell? ⟨b,1,none⟩=some (.bool wr):=by
  rw[aA _ _ _ _ (by intro q;injection q;omega)];exact h.c1
 refine⟨by simpa using h.lt,?_,?_,by simpa using h.f0,by simpa using h.f1⟩
 ·rw[aA _ _ _ _ (by intro q;injection q;omega)];exact World.cell?_setCell_same' _ _ _ (by rw[h.c0];rfl)
 ·exact World.cell?_setCell_same' _ _ _ (by rw[e1];rfl)
theorem Ux (B b:Nat)(r:ByteArray)(wr:Bool)(K E:Nat)(w:World)(hB:B<=b)(h:PT w b r wr)(_hr:r.size<=1000000)(hK:K<=r.size) :
 Calls prog 272 #[.pointer (some ⟨b,0,none⟩),.int .i64 K,.int .i64 E] w λe w'=>(∃v,e=.returned v)/\PT w' b (r.extract K r.size) (wr||((E:Int) !=0))/\Below B w w':=by
 have H:=aj h;obtain⟨hlt,c0,c1,f0,f1⟩:=h
 cases wr with
 | true =>
  go_enter func272,ntmps272
  go_wp2_with fail
  go_end0
  exact⟨⟨_,rfl⟩,(ah H).set _ _,((Below.refl _ _).setCell hB _).setCell hB _⟩
 | false =>
  go_enter func272,ntmps272
  go_wp2_with fail
  go_end0
  exact⟨⟨_,rfl⟩,(ah H).set _ _,((Below.refl _ _).setCell hB _).setCell hB _⟩
theorem qF (s:ByteArray)(k:Nat):s.extract k s.size=bs (s.data.toList.drop k):=by
 apply ByteArray.ext;apply Array.toList_inj.1;simp only[bs,ByteArray.data_extract,Array.toList_extract,List.extract_eq_take_drop];rw[List.take_of_length_le (by simp)]
theorem Zp (l:List UInt8):(Pk.rd l).2.1<=l.length:=by
 by_cases h:(Pk.rd l).2.2=0
 ·exact(Pk.zM h).2.1
 ·rw[(Pk.ah9 h).2];exact Nat.zero_le _
theorem ad5 {l:List UInt8}{m:Int}(h:(Pk.rt l m).2.2≠0):(Pk.rt l m).1=[]/\(Pk.rt l m).2.1=0:=by
 unfold Pk.rt at h ⊢;split
 ·exact⟨rfl,rfl⟩
 rename_i h1
 rw[if_neg h1] at h;split
 ·exact⟨rfl,rfl⟩
 rename_i h2
 rw[if_neg h2] at h;split
 ·exact⟨rfl,rfl⟩
 rename_i h3
 rw[if_neg h3] at h;exact absurd rfl h
theorem Zq (l:List UInt8):(Pk.rt l 1024).2.1<=l.length:=by
 by_cases h:(Pk.rt l 1024).2.2=0
 ·exact(Pk.Jf (l:=l) (most:=1024) (x:=(Pk.rt l 1024).1) (n:=(Pk.rt l 1024).2.1) (by rw[<-h])).2.1
 ·rw[(ad5 h).2];exact Nat.zero_le _
theorem ahT {wr:Bool}{E:Nat}:(wr||((E:Int) !=0))=(wr||decide (E≠0)):=by
 congr 1
 rw[Bool.eq_iff_iff];simp
theorem ad6 (B b:Nat)(r:ByteArray)(wr:Bool)(w:World)(hB:B<=b)(h:PT w b r wr)(hr:r.size<=1000000) :
 Calls prog 254 #[.pointer (some ⟨b,0,none⟩)] w λe w'=>e=.returned (.int .i64 (Pk.rd r.data.toList).1)/\PT w' b (bs (Pk.dw r.data.toList)) (wr||decide ((Pk.rd r.data.toList).2.2≠0))/\Below B w w':=by
 have hK0:=Zp r.data.toList;have hx:=aj (qF r (Pk.rd r.data.toList).2.1);unfold Pk.dw;obtain⟨N,K,E,hrd⟩:∃N K E,Pk.rd r.data.toList=(N,K,E):=⟨_,_,_,rfl⟩;have hv:Jw r.data.toList=.tuple #[.int .i64 N,.int .i64 K,.int .i64 E]:=by unfold Jw;rw[hrd]
 rw[hrd] at hx hK0 ⊢;have hK:K<=r.size:=by simpa using hK0
 have H:=aj h;obtain⟨hlt,c0,c1,f0,f1⟩:=h;clear hrd hK0;go_enter func254,ntmps254
 go_wp2_with fail
 refine(sH r _ (by omega)).mono ?_;rintro e w1 ⟨rfl,rfl⟩;rw[hv];go_wp2_with fail
 refine(Ux B b r wr K E _ hB (ah H) hr hK).mono ?_;rintro e w2 ⟨⟨v,rfl⟩,p2,b2⟩;go_wp2_with fail
 go_ret
 rw[ah hx,ahT] at p2;exact⟨rfl,p2,b2⟩
theorem abh (B b:Nat)(r:ByteArray)(wr:Bool)(w:World)(hB:B<=b)(hB2:B<=w.heap.size)(h:PT w b r wr)(hr:r.size<=1000000) :
 Calls prog 255 #[.pointer (some ⟨b,0,none⟩)] w λe w'=>e=.returned (.string (bs (Pk.rt r.data.toList 1024).1))/\PT w' b (bs (Pk.gU r.data.toList)) (wr||decide ((Pk.rt r.data.toList 1024).2.2≠0))/\Below B w w':=by
 have hK0:=Zq r.data.toList;have hx:=aj (qF r (Pk.rt r.data.toList 1024).2.1);unfold Pk.gU;obtain⟨N,K,E,hrd⟩:∃N K E,Pk.rt r.data.toList 1024=(N,K,E):=⟨_,_,_,rfl⟩;have hv:jf r.data.toList 1024=.tuple #[.string (bs N),.int .i64 K,.int .i64 E]:=by unfold jf;rw[hrd]
 rw[hrd] at hx hK0 ⊢;have hK:K<=r.size:=by simpa using hK0
 have H:=aj h;obtain⟨hlt,c0,c1,f0,f1⟩:=h;clear hrd hK0;go_enter func255,ntmps255
 go_wp2_with fail
 refine(nT r _ _ (by omega)).mono ?_;rintro e w1 ⟨rfl,b1⟩;have H1:=aj ((ah H).next b1);clear c0 c1 f0 f1;rw[hv];go_wp2_with fail
 refine(Ux B b r wr K E _ hB (ah H1) hr hK).mono ?_;rintro e w2 ⟨⟨v,rfl⟩,p2,b2⟩;go_wp2_with fail
 go_ret
 rw[ah hx,ahT] at p2;exact⟨rfl,p2,(b1.mono hB2).trans b2⟩
theorem PT.other {w:World}{b c i:Nat}{r:ByteArray}{wr:Bool}{v:Value}(p:PT w b r wr)(hc:c≠b):PT (w.setCell ⟨c,i,none⟩ v) b r wr :=
 ⟨by simpa using p.lt,by rw[aA _ _ _ _ (by intro e;injection e;omega)];exact p.c0,by rw[aA _ _ _ _ (by intro e;injection e;omega)];exact p.c1,by simpa using p.f0,by simpa using p.f1⟩
structure RS (w0 W:World)(k q t:Int)(s h d r:ByteArray)(wr:Bool):Prop where
 res:RB W w0.heap.size 0 0 0 ⟨#[]⟩ ⟨#[]⟩ ⟨#[]⟩
 got:RB W (w0.heap.size+1) k q t s h d
 lft:PT W (w0.heap.size+1+1) r wr
 bel:Below w0.heap.size w0 W
theorem PT.new' (w:World)(b:Nat)(hb:b=w.heap.size)(r:ByteArray)(wr:Bool)(T:TypeId):PT (w.alloc (.cells #[.string r,.bool wr] T)) b r wr:=by
 subst hb;exact⟨by simp,by simp,by simp,World.frozen?_alloc_new _ _ _ 0,World.frozen?_alloc_new _ _ _ 1⟩
theorem size_alloc (w:World)(o:Obj):(w.alloc o).heap.size=w.heap.size+1:=by simp
theorem RS.new (w:World)(k:Int)(r:ByteArray)(T T':TypeId) :
 RS w (((w.alloc (.cells #[.int .i64 0,.int .i64 0,.int .i64 0,.string ⟨#[]⟩,.string ⟨#[]⟩,.string ⟨#[]⟩] T)).alloc (.cells #[.int .i64 k,.int .i64 0,.int .i64 0,.string ⟨#[]⟩,.string ⟨#[]⟩,.string ⟨#[]⟩] T)).alloc (.cells #[.string r,.bool false] T')) k 0 0 ⟨#[]⟩ ⟨#[]⟩ ⟨#[]⟩ r false:=by
 generalize e1:w.alloc (.cells #[.int .i64 0,.int .i64 0,.int .i64 0,.string ⟨#[]⟩,.string ⟨#[]⟩,.string ⟨#[]⟩] T)=w1;have z1:w1.heap.size=w.heap.size+1:=by rw[<-e1,size_alloc]
 have a1:RB w1 w.heap.size 0 0 0 ⟨#[]⟩ ⟨#[]⟩ ⟨#[]⟩:=by rw[<-e1];exact RB.new w 0 0 0 _ _ _ T
 have b1:Below w.heap.size w w1:=by rw[<-e1];exact(Below.refl _ _).alloc (Nat.le_refl _) _
 generalize e2:w1.alloc (.cells #[.int .i64 k,.int .i64 0,.int .i64 0,.string ⟨#[]⟩,.string ⟨#[]⟩,.string ⟨#[]⟩] T)=w2;have z2:w2.heap.size=w1.heap.size+1:=by rw[<-e2,size_alloc]
 have a2:RB w2 (w.heap.size+1) k 0 0 ⟨#[]⟩ ⟨#[]⟩ ⟨#[]⟩:=by rw[<-e2];exact RB.new' w1 _ z1.symm k 0 0 _ _ _ T
 have b2:RB w2 w.heap.size 0 0 0 ⟨#[]⟩ ⟨#[]⟩ ⟨#[]⟩:=by rw[<-e2];exact a1.alloc _
 have b3:Below w.heap.size w w2:=by rw[<-e2];exact b1.alloc (by omega) _
 exact⟨b2.alloc _,a2.alloc _,PT.new' w2 _ (by omega) r false T',b3.alloc (by omega) _⟩
theorem RS.call {w0 W w':World}{k q t:Int}{s h d r r':ByteArray}{wr wr':Bool}(x:RS w0 W k q t s h d r wr)(p:PT w' (w0.heap.size+1+1) r' wr')(b:Below (w0.heap.size+1+1) W w'):RS w0 w' k q t s h d r' wr' :=
 ⟨x.res.below b (by omega),x.got.below b (by omega),p,x.bel.trans (b.mono (by omega))⟩
theorem RS.set1 {w0 W:World}{k q t:Int}{s h d r:ByteArray}{wr:Bool}(x:RS w0 W k q t s h d r wr)(y:Int):RS w0 (W.setCell ⟨w0.heap.size+1,1,none⟩ (.int .i64 y)) k y t s h d r wr :=
 ⟨x.res.other (by omega),x.got.set1 y,x.lft.other (by omega),x.bel.setCell (by simp) _⟩
theorem RS.set2 {w0 W:World}{k q t:Int}{s h d r:ByteArray}{wr:Bool}(x:RS w0 W k q t s h d r wr)(y:Int):RS w0 (W.setCell ⟨w0.heap.size+1,2,none⟩ (.int .i64 y)) k q y s h d r wr :=
 ⟨x.res.other (by omega),x.got.set2 y,x.lft.other (by omega),x.bel.setCell (by simp) _⟩
theorem RS.vZ {w0 W:World}{k q t:Int}{s h d r:ByteArray}{wr:Bool}(x:RS w0 W k q t s h d r wr)(y:ByteArray):RS w0 (W.setCell ⟨w0.heap.size+1,3,none⟩ (.string y)) k q t y h d r wr :=
 ⟨x.res.other (by omega),x.got.vZ y,x.lft.other (by omega),x.bel.setCell (by simp) _⟩
theorem RS.Ce {w0 W:World}{k q t:Int}{s h d r:ByteArray}{wr:Bool}(x:RS w0 W k q t s h d r wr)(y:ByteArray):RS w0 (W.setCell ⟨w0.heap.size+1,4,none⟩ (.string y)) k q t s y d r wr :=
 ⟨x.res.other (by omega),x.got.Ce y,x.lft.other (by omega),x.bel.setCell (by simp) _⟩
theorem RS.Ie {w0 W:World}{k q t:Int}{s h d r:ByteArray}{wr:Bool}(x:RS w0 W k q t s h d r wr)(y:ByteArray):RS w0 (W.setCell ⟨w0.heap.size+1,5,none⟩ (.string y)) k q t s h y r wr :=
 ⟨x.res.other (by omega),x.got.Ie y,x.lft.other (by omega),x.bel.setCell (by simp) _⟩
theorem RS.drew {w0 W:World}{k q t:Int}{s h d r:ByteArray}{wr:Bool}(x:RS w0 W k q t s h d r wr):RS w0 W.drew k q t s h d r wr :=
 ⟨x.res.drew,x.got.drew,x.lft.next (Below.refl _ _).drew,x.bel.drew⟩
theorem Xm {w0 W:World}{k q t:Int}{s h d r:ByteArray}{wr:Bool}{v0 v1 v2 v3 v4 v5:Value}(x:RS w0 W k q t s h d r wr) :
 Below w0.heap.size w0 ((((((W.setCell ⟨w0.heap.size,0,none⟩ v0).setCell ⟨w0.heap.size,1,none⟩ v1).setCell ⟨w0.heap.size,2,none⟩ v2).setCell ⟨w0.heap.size,3,none⟩ v3).setCell ⟨w0.heap.size,4,none⟩ v4).setCell ⟨w0.heap.size,5,none⟩ v5) :=
 (((((x.bel.setCell (Nat.le_refl _) _).setCell (Nat.le_refl _) _).setCell (Nat.le_refl _) _).setCell (Nat.le_refl _) _).setCell (Nat.le_refl _) _).setCell (Nat.le_refl _) _
theorem Bf (s:ByteArray):s.toList.isEmpty=decide (s.size=0):=by
 rw[ByteArray.toList_eq,show s.size=s.data.toList.length from by simp,Bool.eq_iff_iff,List.isEmpty_iff,decide_eq_true_eq,List.length_eq_zero_iff]
theorem ad7 {w0 W:World}{k q t:Int}{s h d r:ByteArray}{wr:Bool}(x:RS w0 W k q t s h d r wr)(hr:r.size<=1000000) :
 Calls prog 254 #[.pointer (some ⟨w0.heap.size+1+1,0,none⟩)] W λe w'=>e=.returned (.int .i64 (Pk.rd r.data.toList).1)/\RS w0 w' k q t s h d (bs (Pk.dw r.data.toList)) (wr||decide ((Pk.rd r.data.toList).2.2≠0)) :=
 (ad6 (w0.heap.size+1+1) (w0.heap.size+1+1) r wr W (Nat.le_refl _) x.lft hr).mono λ_ _ ⟨h1,h2,h3⟩=>⟨h1,x.call h2 h3⟩
theorem Qq {w0 W:World}{k q t:Int}{s h d r:ByteArray}{wr:Bool}(x:RS w0 W k q t s h d r wr)(hr:r.size<=1000000) :
 Calls prog 255 #[.pointer (some ⟨w0.heap.size+1+1,0,none⟩)] W λe w'=>e=.returned (.string (bs (Pk.rt r.data.toList 1024).1))/\RS w0 w' k q t s h d (bs (Pk.gU r.data.toList)) (wr||decide ((Pk.rt r.data.toList 1024).2.2≠0)) :=
 (abh (w0.heap.size+1+1) (w0.heap.size+1+1) r wr W (Nat.le_refl _) (Nat.le_of_lt x.lft.lt) x.lft hr).mono λ_ _ ⟨h1,h2,h3⟩=>⟨h1,x.call h2 h3⟩
theorem Bh (l:List UInt8):(Pk.dw l).length<=l.length:=by unfold Pk.dw;simp
theorem Bj (l:List UInt8):(Pk.gU l).length<=l.length:=by unfold Pk.gU;simp
theorem agO (c:Nat)(K:Int)(hK:K=(c:Int))(r0:List UInt8):Si (Pk.fB c r0)=.agg #[.int .i64 K,.int .i64 ((Pk.rd r0).1:Int),.int .i64 ((Pk.rd (Pk.dw r0)).1:Int),.string (bs (Pk.rt (Pk.dw (Pk.dw r0)) 1024).1),.string (bs (Pk.rt (Pk.gU (Pk.dw (Pk.dw r0))) 1024).1),.string (bs (Pk.rt (Pk.gU (Pk.gU (Pk.dw (Pk.dw r0)))) 1024).1)]:=by
 subst hK;unfold Si Pk.fB Pk.p1 Pk.p2 Pk.p3 Pk.p4;simp only[]
theorem aiD (r0:List UInt8):Pk.okB r0=(!(((((false||decide ((Pk.rd r0).2.2≠0))||decide ((Pk.rd (Pk.dw r0)).2.2≠0))||decide ((Pk.rt (Pk.dw (Pk.dw r0)) 1024).2.2≠0))||decide ((Pk.rt (Pk.gU (Pk.dw (Pk.dw r0))) 1024).2.2≠0))||decide ((Pk.rt (Pk.gU (Pk.gU (Pk.dw (Pk.dw r0)))) 1024).2.2≠0))&&decide ((bs (Pk.gU (Pk.gU (Pk.gU (Pk.dw (Pk.dw r0)))))).size=0)):=by
 rw[aO];unfold Pk.okB Pk.p1 Pk.p2 Pk.p3 Pk.p4 Pk.p5;rw[Bool.eq_iff_iff];simp only[Bool.and_eq_true,Bool.not_eq_true',Bool.or_eq_false_iff,decide_eq_true_eq,decide_eq_false_iff_not,ne_eq,Decidable.not_not,and_assoc,true_and]
theorem Xn (w:World) :
 Calls prog 236 #[.string ⟨#[]⟩] w λe w'=>e=.returned (.tuple #[Si Pk.none',.bool false])/\Below w.heap.size w w':=by
 go_enter func236,ntmps236
 go_wp2_with fail
 refine bodyPost_ret (dH rfl rfl (RB.new w 0 0 0 _ _ _ _)) rfl ?_;exact⟨rfl,(Below.refl _ _).alloc (Nat.le_refl _) _⟩
theorem Xo (x:ByteArray)(w:World)(h0:0<x.size)(hs:x.size<=1000000) :
 Calls prog 236 #[.string x] w λe w'=>e=.returned (.tuple #[Si (Pk.fB (Pk.at' x.data.toList 0) (x.data.toList.drop 1)),.bool (Pk.okB (x.data.toList.drop 1))])/\Below w.heap.size w w':=by
 have hne:x.toList.isEmpty=false:=by
  rw[ByteArray.toList_eq];have:x.data.toList.length≠0:=by rw[show x.data.toList.length=x.size from by simp];omega
  cases h:x.data.toList with
  | nil=>rw[h] at this;exact absurd rfl this
  | cons a b=>rfl
 have hk:=aj (byte_at x h0);obtain⟨r0,hr0⟩:∃r0,r0=x.data.toList.drop 1:=⟨_,rfl⟩;have hl0:r0.length<=1000000:=by rw[hr0];simp;omega
 have l1:=Bh r0;have l2:=Bh (Pk.dw r0);have l3:=Bj (Pk.dw (Pk.dw r0));have l4:=Bj (Pk.gU (Pk.dw (Pk.dw r0)));have S0:=aj (RS.new w (wrap64 ((x[0]'h0).toNat:Int)) (x.extract 1 x.size) 73 275);rw[qF,<-hr0] at S0;have HX:=aj (qF x 1);rw[<-hr0] at HX ⊢;clear hr0;go_enter func236,ntmps236
 go_wp2_with fail
 rw[ah HX];refine(ad7 (ah S0) (by rw[aO];omega)).mono ?_;rintro e w1 ⟨rfl,S1⟩;rw[dB] at S1 ⊢;have f:=S1.got.fr 1;have c:=S1.got.c1;have S1':=aj (S1.set1 (Pk.rd r0).1);clear S1 S0;go_wp2_with fail
 refine(ad7 (ah S1') (by rw[aO];omega)).mono ?_;rintro e w2 ⟨rfl,S2⟩;rw[dB] at S2 ⊢;clear S1' f c;have f:=S2.got.fr 2;have c:=S2.got.c2;have S2':=aj (S2.set2 (Pk.rd (Pk.dw r0)).1);clear S2;go_wp2_with fail
 refine(Qq (ah S2') (by rw[aO];omega)).mono ?_;rintro e w3 ⟨rfl,S3⟩;rw[dB] at S3 ⊢;clear S2' f c;have f:=S3.got.fr 3;have c:=S3.got.c3;have S3':=aj (S3.vZ (bs (Pk.rt (Pk.dw (Pk.dw r0)) 1024).1));clear S3;go_wp2_with fail
 refine(Qq (ah S3') (by rw[aO];omega)).mono ?_;rintro e w4 ⟨rfl,S4⟩;rw[dB] at S4 ⊢;clear S3' f c;have f:=S4.got.fr 4;have c:=S4.got.c4;have S4':=aj (S4.Ce (bs (Pk.rt (Pk.gU (Pk.dw (Pk.dw r0))) 1024).1));clear S4;go_wp2_with fail
 refine(Qq (ah S4') (by rw[aO];omega)).mono ?_;rintro e w5 ⟨rfl,S5⟩;rw[dB] at S5 ⊢;clear S4' f c;have HG:=aj (aiD r0);generalize (((((false||decide ((Pk.rd r0).2.2≠0))||decide ((Pk.rd (Pk.dw r0)).2.2≠0))||decide ((Pk.rt (Pk.dw (Pk.dw r0)) 1024).2.2≠0))||decide ((Pk.rt (Pk.gU (Pk.dw (Pk.dw r0))) 1024).2.2≠0))||decide ((Pk.rt (Pk.gU (Pk.gU (Pk.dw (Pk.dw r0)))) 1024).2.2≠0))=g at S5 HG;generalize bs (Pk.gU (Pk.gU (Pk.gU (Pk.dw (Pk.dw r0)))))=L at S5 HG;have HK:Hid (wrap64 ((x[0]'h0).toNat:Int)=((Pk.at' x.data.toList 0:Nat):Int)):=aj (by
  rw[ah hk];have:=Pk.qV x.data.toList 0;exact IntWalk.wrap64_in _ ⟨by omega,by omega⟩)
 have HV:=aj (agO (Pk.at' x.data.toList 0) _ (ah HK) r0);generalize bs (Pk.rt (Pk.dw (Pk.dw r0)) 1024).1=A at S5 HV ⊢;generalize bs (Pk.rt (Pk.gU (Pk.dw (Pk.dw r0))) 1024).1=B at S5 HV ⊢;generalize bs (Pk.rt (Pk.gU (Pk.gU (Pk.dw (Pk.dw r0)))) 1024).1=D at HV ⊢;have f:=S5.got.fr 5;have c:=S5.got.c5;have S6:=aj (S5.Ie D);clear S5 l1 l2 l3 l4 HX hk HK hne;go_wp2_with fail
 generalize w5.setCell ⟨w.heap.size+1,5,none⟩ (.string D)=W at S6 ⊢;clear f c;generalize wrap64 ((x[0]'h0).toNat:Int)=KK at S6 HV ⊢;generalize ((Pk.rd r0).1:Int)=QQ at S6 HV ⊢;generalize ((Pk.rd (Pk.dw r0)).1:Int)=TT at S6 HV ⊢;have S7:=(ah S6).drew;generalize hW:W.drew=W' at S7;obtain⟨_,a0,a1,a2,a3,a4,a5,_⟩:=(ah S6).got;obtain⟨_,p0,p1,_,_⟩:=(ah S6).lft;obtain⟨_,b0,b1,b2,b3,b4,b5,_⟩:=S7.got;obtain⟨_,r0',r1',r2',r3',r4',r5',rf⟩:=S7.res;obtain⟨_,q0,q1,_,_⟩:=S7.lft;have g0:=rf 0;have g1:=rf 1;have g2:=rf 2;have g3:=rf 3;have g4:=rf 4;have g5:=rf 5;have HS:=aj S7;clear rf S7 S6;have n1:¬w.heap.size+1+1=w.heap.size:=by omega
 have n2:¬w.heap.size=w.heap.size+1+1:=by omega
 cases g with
 | true =>
  have hok:Pk.okB r0=false:=by rw[ah HG];rfl
  have HO:=aj hok;clear HG a0 a1 a2 a3 a4 a5 p0 p1 hok;go_region
  go_wp2_with fail
  refine bodyPost_ret (dH rfl rfl (((((((ah HS).res.set0 KK).set1 QQ).set2 TT).vZ A).Ce B).Ie D)) rfl ?_;exact⟨by rw[ah HV,ah HO];rfl,Xm (ah HS)⟩
 | false =>
  cases hL:L.toList.isEmpty with
  | true =>
   have hok:Pk.okB r0=true:=by rw[ah HG,show decide (L.size=0)=L.toList.isEmpty from(Bf L).symm,hL];rfl
   have HO:=aj hok;clear HG a0 a1 a2 a3 a4 a5 p0 p1 hok;go_region
   go_wp2_with fail
   refine bodyPost_ret (dH rfl rfl (((((((ah HS).res.set0 KK).set1 QQ).set2 TT).vZ A).Ce B).Ie D)) rfl ?_;exact⟨by rw[ah HV,ah HO];rfl,Xm (ah HS)⟩
  | false =>
   have hok:Pk.okB r0=false:=by rw[ah HG,show decide (L.size=0)=L.toList.isEmpty from(Bf L).symm,hL];rfl
   have HO:=aj hok;clear HG a0 a1 a2 a3 a4 a5 p0 p1 hok;go_region
   go_wp2_with fail
   refine bodyPost_ret (dH rfl rfl (((((((ah HS).res.set0 KK).set1 QQ).set2 TT).vZ A).Ce B).Ie D)) rfl ?_;exact⟨by rw[ah HV,ah HO];rfl,Xm (ah HS)⟩
end Go.Proofs.YtidekgipblnpkaaGreatDoor
