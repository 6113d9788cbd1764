/- A part. -/
import Derived.Test.YtidekgipblnpkaaGreatDoorQ20
import Derived.Test.YtidekgipblnpkaaGreatDoorQ29
set_option maxRecDepth 100000
set_option maxHeartbeats 8000000
namespace Go.Proofs.YtidekgipblnpkaaGreatDoor
open Go.RowKit Go.Proofs.Tryz
def nS (l:List UInt8)(K:Nat):Nat->Nat
 | 0=>0
 | m+1=>nS l K m*256+Pk.at' l (K+(3-m))
theorem agH (l:List UInt8)(K:Nat):∀m,nS l K m<256 ^ m
 | 0=>by simp[nS]
 | m+1=>by
  have:=agH l K m;have:=Pk.qW l (K+(3-m));rw[nS,amM];omega
theorem Cj (l:List UInt8)(K:Nat){m:Nat}(h:m<=4):nS l K m<4294967296 :=
 ajc (agH l K m) (aje (alQ (by decide) h) (by decide))
theorem Hy (l:List UInt8)(K j:Nat):Pk.at' (l.drop K) j=Pk.at' l (K+j):=by
 unfold Pk.at';rw[ako]
theorem YC (l:List UInt8)(K:Nat):nS l K 4=Pk.YV (l.drop K):=by
 unfold Pk.YV;rw[Hy,Hy,Hy,Hy];show(((0*256+Pk.at' l (K+3))*256+Pk.at' l (K+2))*256+Pk.at' l (K+1))*256+Pk.at' l (K+0)=_;omega
theorem afM {l:List UInt8}{K c:Nat}(h:K+4<=l.length)(hc:c<4294967296):nS l K 4=c↔(l.drop K).take 4=Pk.uZ c:=by
 rw[YC];have hl:4<=(l.drop K).length:=by rw[ajp];omega
 constructor
 ·intro e;rw[<-e];exact(Pk.Qz hl).symm
 ·intro e;have:=Pk.Qz hl;rw[e] at this;refine Pk.aeM ?_ hc this;rw[<-YC];exact Cj l K (Xc _)
theorem TV (s:ByteArray){K j:Nat}(h:K+j<s.size)(hj:j<=3):wrap64 (((nS s.data.toList K (3-j):Nat):Int)*256+wrap64 (s[K+j].toNat:Int))=((nS s.data.toList K (4-j):Nat):Int):=by
 have hb:=Pk.qW s.data.toList (K+j);have hv:=Cj s.data.toList K (m:=3-j) (by omega);rw[show 4-j=(3-j)+1 from by omega,nS,byte_at s h,alE (Pk.at' s.data.toList (K+j)) ⟨by omega,by omega⟩,alE _ ⟨by omega,by omega⟩,show 3-(3-j)=j from by omega];omega
theorem WI (s:ByteArray)(X:List UInt8)(K E:Nat)(w:World)(hs:s.size<=281474976710656)(hr:Pk.rt s.data.toList 1024=(X,K,E))(hE:E≠0) :
 Calls prog 163 #[.string s] w λe w'=>e=.returned (uY s.data.toList)/\Below w.heap.size w w':=by
 have hv:iH s.data.toList 1024=.tuple #[.string (aF X),.int .i64 K,.int .i64 E]:=by unfold iH;rw[hr]
 have R:=aj (iV (agD hr hE));have R0:=aj (RB.new w 0 0 0 ⟨#[]⟩ ⟨#[]⟩ ⟨#[]⟩ 73);have B0:Hid (Below w.heap.size w (w.alloc (.cells #[.int .i64 0,.int .i64 0,.int .i64 0,.string ⟨#[]⟩,.string ⟨#[]⟩,.string ⟨#[]⟩] 73))):=aj ((ajb _ _).alloc (Xc _) _);have hE':((E:Int) !=0)=true:=by simp[hE]
 have hE2:¬((E:Int)=0):=by omega
 clear hr hE;go_enter func163,ntmps163;go_wp2_with fail;refine(gZ s 1024 _ hs).mono ?_;rintro e w1 ⟨rfl,b1⟩;rw[hv];have R1:=(ah R0).next b1;have B1:=aj (ak (ah B0) b1);have H1:=aj R1;obtain⟨_,c0,c1,c2,c3,c4,c5,fr⟩:=R1;have f0:=fr 0;have f1:=fr 1;have f2:=fr 2;have f3:=fr 3;have f4:=fr 4;have f5:=fr 5;clear R0 B0 b1 fr;go_wp2_with fail;refine ajJ (cZ rfl rfl ((ah H1).eH _ _ _ _ _ _)) rfl ?_;exact⟨by rw[ah R];rfl,aQ (ah B1) (Xc _)⟩
theorem WJ (s:ByteArray)(X:List UInt8)(K:Nat)(w:World)(hs:s.size<=281474976710656)(hr:Pk.rt s.data.toList 1024=(X,K,0))(hK:K<=s.size)(h4:s.size<K+4) :
 Calls prog 163 #[.string s] w λe w'=>e=.returned (uY s.data.toList)/\Below w.heap.size w w':=by
 have hv:iH s.data.toList 1024=.tuple #[.string (aF X),.int .i64 K,.int .i64 0]:=by unfold iH;rw[hr];rfl
 have R:=aj (iV (agE hr (by simpa using h4)));have R0:=aj (RB.new w 0 0 0 ⟨#[]⟩ ⟨#[]⟩ ⟨#[]⟩ 73);have B0:Hid (Below w.heap.size w (w.alloc (.cells #[.int .i64 0,.int .i64 0,.int .i64 0,.string ⟨#[]⟩,.string ⟨#[]⟩,.string ⟨#[]⟩] 73))):=aj ((ajb _ _).alloc (Xc _) _);clear hr;go_enter func163,ntmps163;go_wp2_with fail;refine(gZ s 1024 _ hs).mono ?_;rintro e w1 ⟨rfl,b1⟩;rw[hv];have R1:=(ah R0).next b1;have B1:=aj (ak (ah B0) b1);have H1:=aj R1;obtain⟨_,c0,c1,c2,c3,c4,c5,fr⟩:=R1;have f0:=fr 0;have f1:=fr 1;have f2:=fr 2;have f3:=fr 3;have f4:=fr 4
 have f5:=fr 5;clear R0 B0 b1 fr;go_wp2_with fail;refine ajJ (cZ rfl rfl ((ah H1).eH _ _ _ _ _ _)) rfl ?_;exact⟨by rw[ah R];rfl,aQ (ah B1) (Xc _)⟩
theorem JM (s:ByteArray)(X:List UInt8)(K:Nat)(w:World)(hs:s.size<=281474976710656)(hr:Pk.rt s.data.toList 1024=(X,K,0))(h4:K+4<=s.size)(hX:X.length<=1024)(hne:nS s.data.toList K 4≠Pk.vM X\/X.length=0)(hd:Pk.dec s.data.toList=(Pk.oV,0,7)) :
 Calls prog 163 #[.string s] w λe w'=>e=.returned (uY s.data.toList)/\Below w.heap.size w w':=by
 have hv:iH s.data.toList 1024=.tuple #[.string (aF X),.int .i64 K,.int .i64 0]:=by unfold iH;rw[hr];rfl
 have R:=aj (iV hd);have R0:=aj (RB.new w 0 0 0 ⟨#[]⟩ ⟨#[]⟩ ⟨#[]⟩ 73);have B0:Hid (Below w.heap.size w (w.alloc (.cells #[.int .i64 0,.int .i64 0,.int .i64 0,.string ⟨#[]⟩,.string ⟨#[]⟩,.string ⟨#[]⟩] 73))):=aj ((ajb _ _).alloc (Xc _) _);have HX:=aj hX;have HN:=aj hne;clear hr hd hne;go_enter func163,ntmps163;go_wp2_with fail;refine(gZ s 1024 _ hs).mono ?_;rintro e w1 ⟨rfl,b1⟩;rw[hv];have R1:=(ah R0).next b1;have B1:=aj (ak (ah B0) b1);have H1:=aj R1;clear R0 B0 b1 R1;go_wp2_with fail;go_loop [8,9] (λa i=>(∃j:Nat,j<=3/\i=.int .i64 (j:Int)/\a=.int .i64 ((nS s.data.toList K (3-j):Nat):Int))\/(i=.int .i64 (-1)/\a=.int .i64 ((nS s.data.toList K 4:Nat):Int))) (λ_ i=>(intOf i+1).toNat)
 case atStart=>exact .inl ⟨3,by decide,rfl,rfl⟩
 case round =>
  rcases hrel with ⟨j,hj,rfl,rfl⟩|⟨rfl,rfl⟩
  ·have hl:=Cj s.data.toList K (m:=3-j) (by omega);have hjs:K+j<s.size:=by omega
   have e:=aj (TV s hjs hj);go_wp2_with fail;go_round
   case rel =>
    rcases als j with h0|h0
    ·subst h0;exact .inr ⟨by go_num,congrArg (Value.int .i64) (ah e)⟩
    ·exact .inl ⟨j-1,by omega,by go_num,by rw[show 3-(j-1)=4-j from by omega,ah e]⟩
   case measure=>simp[intOf]
  ·have hl4:=Cj s.data.toList K (m:=4) (by decide);have hc4:=Pk.Io X;have R1:=ah H1;obtain⟨_,c0,c1,c2,c3,c4,c5,fr⟩:=R1;have f0:=fr 0;have f1:=fr 1;have f2:=fr 2;have f3:=fr 3;have f4:=fr 4;have f5:=fr 5;clear fr;generalize hn:nS s.data.toList K 4=n4 at hl4 HN ⊢;generalize hcc:Pk.vM X=cc at hc4 HN;have HCC:=aj hcc;clear hn hcc;by_cases hq:n4=cc
   ·have hx0:X.length=0:=by
     rcases ah HN with h|h
     ·exact absurd hq h
     ·exact h
    have hq':((n4:Int) !=(cc:Int))=false:=by simp;omega
    have hx1:(aF X).size=0:=by rw[aK];exact hx0
    have hx2:(((aF X).size:Int)==0)=true:=by simp[hx1]
    clear hq hx0 hx1;go_wp2_with fail;refine(zN (aF X) _ (by rw[aK];omega)).mono ?_;rintro e w2 ⟨rfl,rfl⟩;rw[aV,ah HCC];go_wp2_with fail;refine ajJ (cZ rfl rfl ((ah H1).eH _ _ _ _ _ _)) rfl ?_;exact⟨by rw[ah R];rfl,aQ (ah B1) (Xc _)⟩
   ·have hq':((n4:Int) !=(cc:Int))=true:=by simp;omega
    clear hq;go_wp2_with fail;refine(zN (aF X) _ (by rw[aK];omega)).mono ?_;rintro e w2 ⟨rfl,rfl⟩;rw[aV,ah HCC];go_wp2_with fail;refine ajJ (cZ rfl rfl ((ah H1).eH _ _ _ _ _ _)) rfl ?_;exact⟨by rw[ah R];rfl,aQ (ah B1) (Xc _)⟩
structure DS (w0 W:World)(b:Nat)(k q t:Int)(s h d:ByteArray):Prop where
 res:RB W w0.heap.size 0 0 0 ⟨#[]⟩ ⟨#[]⟩ ⟨#[]⟩
 lZ:RB W b k q t s h d
 lt:w0.heap.size<b
 Kt:Below w0.heap.size w0 W
theorem DS.next {w0 W w':World}{b:Nat}{k q t:Int}{s h d:ByteArray}(x:DS w0 W b k q t s h d)(hb:Below W.heap.size W w'):DS w0 w' b k q t s h d :=
 ⟨x.res.next hb,x.lZ.next hb,x.lt,ak x.Kt hb⟩
theorem DS.uU {w0 W:World}{b:Nat}{k q t:Int}{s h d:ByteArray}(x:DS w0 W b k q t s h d)(y:Int):DS w0 (W.setCell ⟨b,1,none⟩ (.int .i64 y)) b k y t s h d :=
 ⟨x.res.other (by have:=x.lt;omega),x.lZ.uU y,x.lt,x.Kt.setCell (alJ x.lt) _⟩
theorem DS.vT {w0 W:World}{b:Nat}{k q t:Int}{s h d:ByteArray}(x:DS w0 W b k q t s h d)(y:Int):DS w0 (W.setCell ⟨b,2,none⟩ (.int .i64 y)) b k q y s h d :=
 ⟨x.res.other (by have:=x.lt;omega),x.lZ.vT y,x.lt,x.Kt.setCell (alJ x.lt) _⟩
theorem DS.vU {w0 W:World}{b:Nat}{k q t:Int}{s h d:ByteArray}(x:DS w0 W b k q t s h d)(y:ByteArray):DS w0 (W.setCell ⟨b,3,none⟩ (.string y)) b k q t y h d :=
 ⟨x.res.other (by have:=x.lt;omega),x.lZ.vU y,x.lt,x.Kt.setCell (alJ x.lt) _⟩
theorem DS.BJ {w0 W:World}{b:Nat}{k q t:Int}{s h d:ByteArray}(x:DS w0 W b k q t s h d)(y:ByteArray):DS w0 (W.setCell ⟨b,4,none⟩ (.string y)) b k q t s y d :=
 ⟨x.res.other (by have:=x.lt;omega),x.lZ.BJ y,x.lt,x.Kt.setCell (alJ x.lt) _⟩
theorem DS.GH {w0 W:World}{b:Nat}{k q t:Int}{s h d:ByteArray}(x:DS w0 W b k q t s h d)(y:ByteArray):DS w0 (W.setCell ⟨b,5,none⟩ (.string y)) b k q t s h y :=
 ⟨x.res.other (by have:=x.lt;omega),x.lZ.GH y,x.lt,x.Kt.setCell (alJ x.lt) _⟩
theorem adv {r0:List UInt8}(h:(Pk.rd r0).2.2≠0):Pk.okB r0=false:=by
 unfold Pk.okB;rw[ajd h];rfl
theorem adw {r0:List UInt8}(h:(Pk.rd (Pk.p1 r0)).2.2≠0):Pk.okB r0=false:=by
 unfold Pk.okB;rw[ajd (p:=(Pk.rd (Pk.p1 r0)).2.2=0) h];simp
theorem adx {r0:List UInt8}(h:(Pk.rt (Pk.p2 r0) 1024).2.2≠0):Pk.okB r0=false:=by
 unfold Pk.okB;rw[ajd (p:=(Pk.rt (Pk.p2 r0) 1024).2.2=0) h];simp
theorem ady {r0:List UInt8}(h:(Pk.rt (Pk.p3 r0) 1024).2.2≠0):Pk.okB r0=false:=by
 unfold Pk.okB;rw[ajd (p:=(Pk.rt (Pk.p3 r0) 1024).2.2=0) h];simp
theorem adz {r0:List UInt8}(h:(Pk.rt (Pk.p4 r0) 1024).2.2≠0):Pk.okB r0=false:=by
 unfold Pk.okB;rw[ajd (p:=(Pk.rt (Pk.p4 r0) 1024).2.2=0) h];simp
theorem adA {r0:List UInt8}(h:(Pk.p5 r0).length≠0):Pk.okB r0=false:=by
 unfold Pk.okB;rw[ajd (p:=(Pk.p5 r0).length=0) h];simp
theorem YD (r0:List UInt8):Pk.p1 r0=Pk.bU r0:=rfl
theorem YE (r0:List UInt8):Pk.p2 r0=Pk.bU (Pk.p1 r0):=rfl
theorem YF (r0:List UInt8):Pk.p3 r0=Pk.fV (Pk.p2 r0):=rfl
theorem YG (r0:List UInt8):Pk.p4 r0=Pk.fV (Pk.p3 r0):=rfl
theorem afN (r0:List UInt8):Pk.p5 r0=Pk.fV (Pk.p4 r0):=rfl
theorem Nj {l nx:List UInt8}(hn:nx=Pk.bU l)(hl:l.length<=1024):∃N K E:Nat,Hid (IQ (aF l).data.toList=.tuple #[.int .i64 N,.int .i64 K,.int .i64 E])/\Hid ((aF l).extract K (aF l).size=aF nx)/\Hid ((Pk.rd l).1=N)/\K<=(aF l).size/\Hid ((Pk.rd l).2.2=E)/\(aF l).size<=1024 :=
 ⟨_,_,_,aj (by rw[aV];rfl),aj (by rw[hn,pR,aV];rfl),aj rfl,by rw[aK];exact Ym l,aj rfl,by rw[aK];exact hl⟩
theorem yM {l nx:List UInt8}(hn:nx=Pk.fV l)(hl:l.length<=1024):∃(N:List UInt8) (K E:Nat),Hid (iH (aF l).data.toList 1024=.tuple #[.string (aF N),.int .i64 K,.int .i64 E])/\Hid ((aF l).extract K (aF l).size=aF nx)/\Hid ((Pk.rt l 1024).1=N)/\K<=(aF l).size/\Hid ((Pk.rt l 1024).2.2=E)/\(aF l).size<=1024 :=
 ⟨_,_,_,aj (by rw[aV];rfl),aj (by rw[hn,pR,aV];rfl),aj rfl,by rw[aK];exact Yn l,aj rfl,by rw[aK];exact hl⟩
def aiH (w0:World)(b:Nat)(r0:List UInt8)(c:Nat)(rest ok i:Value)(W:World):Prop :=
 (i=.int .i64 0/\ok=.bool true/\rest=.string (aF r0)/\Hid (DS w0 W b c 0 0 ⟨#[]⟩ ⟨#[]⟩ ⟨#[]⟩)) \/
 (i=.int .i64 1/\ok=.bool true/\rest=.string (aF (Pk.p1 r0))/\Hid (DS w0 W b c (Pk.rd r0).1 0 ⟨#[]⟩ ⟨#[]⟩ ⟨#[]⟩/\(Pk.rd r0).2.2=0)) \/
 (i=.int .i64 2/\ok=.bool true/\rest=.string (aF (Pk.p2 r0))/\Hid (DS w0 W b c (Pk.rd r0).1 (Pk.rd (Pk.p1 r0)).1 ⟨#[]⟩ ⟨#[]⟩ ⟨#[]⟩/\(Pk.rd r0).2.2=0/\(Pk.rd (Pk.p1 r0)).2.2=0)) \/
 (i=.int .i64 3/\ok=.bool true/\rest=.string (aF (Pk.p3 r0))/\Hid (DS w0 W b c (Pk.rd r0).1 (Pk.rd (Pk.p1 r0)).1 (aF (Pk.rt (Pk.p2 r0) 1024).1) ⟨#[]⟩ ⟨#[]⟩/\(Pk.rd r0).2.2=0/\(Pk.rd (Pk.p1 r0)).2.2=0/\(Pk.rt (Pk.p2 r0) 1024).2.2=0)) \/
 (i=.int .i64 4/\ok=.bool true/\rest=.string (aF (Pk.p4 r0))/\Hid (DS w0 W b c (Pk.rd r0).1 (Pk.rd (Pk.p1 r0)).1 (aF (Pk.rt (Pk.p2 r0) 1024).1) (aF (Pk.rt (Pk.p3 r0) 1024).1) ⟨#[]⟩/\(Pk.rd r0).2.2=0/\(Pk.rd (Pk.p1 r0)).2.2=0/\(Pk.rt (Pk.p2 r0) 1024).2.2=0/\(Pk.rt (Pk.p3 r0) 1024).2.2=0)) \/
 (i=.int .i64 5/\ok=.bool true/\rest=.string (aF (Pk.p5 r0))/\Hid (DS w0 W b c (Pk.rd r0).1 (Pk.rd (Pk.p1 r0)).1 (aF (Pk.rt (Pk.p2 r0) 1024).1) (aF (Pk.rt (Pk.p3 r0) 1024).1) (aF (Pk.rt (Pk.p4 r0) 1024).1)/\(Pk.rd r0).2.2=0/\(Pk.rd (Pk.p1 r0)).2.2=0/\(Pk.rt (Pk.p2 r0) 1024).2.2=0/\(Pk.rt (Pk.p3 r0) 1024).2.2=0/\(Pk.rt (Pk.p4 r0) 1024).2.2=0)) \/
 (∃(n:Nat) (L:ByteArray),n<=5/\i=.int .i64 (n:Int)/\ok=.bool false/\rest=.string L/\Hid ((∃q t s h d,DS w0 W b c q t s h d)/\Pk.okB r0=false))
theorem WL (s:ByteArray)(X:List UInt8)(K:Nat)(w:World)(hs:s.size<=281474976710656)(hr:Pk.rt s.data.toList 1024=(X,K,0))(h4:K+4<=s.size)(hX:X.length<=1024)(hne:nS s.data.toList K 4=Pk.vM X)(h0:0<X.length)(hbad:Pk.okB (X.drop 1)=false\/Pk.Kw (Pk.eF (Pk.at' X 0) (X.drop 1))≠0->Pk.dec s.data.toList=(Pk.oV,0,7))(hgood:Pk.okB (X.drop 1)=true->Pk.Kw (Pk.eF (Pk.at' X 0) (X.drop 1))=0->Pk.dec s.data.toList=(Pk.eF (Pk.at' X 0) (X.drop 1),K+4,0)) :
 Calls prog 163 #[.string s] w λe w'=>e=.returned (uY s.data.toList)/\Below w.heap.size w w':=by
 have hv:iH s.data.toList 1024=.tuple #[.string (aF X),.int .i64 K,.int .i64 0]:=by unfold iH;rw[hr];rfl
 have RB':=aj hbad;have RG:=aj hgood;have R0:=aj (RB.new w 0 0 0 ⟨#[]⟩ ⟨#[]⟩ ⟨#[]⟩ 73);have B0:Hid (Below w.heap.size w (w.alloc (.cells #[.int .i64 0,.int .i64 0,.int .i64 0,.string ⟨#[]⟩,.string ⟨#[]⟩,.string ⟨#[]⟩] 73))):=aj ((ajb _ _).alloc (Xc _) _);have HX:=aj hX;have HN:=aj hne;clear hr hbad hgood hne;go_enter func163,ntmps163;go_wp2_with fail;refine(gZ s 1024 _ hs).mono ?_;rintro e w1 ⟨rfl,b1⟩;rw[hv];have R1:=(ah R0).next b1;have B1:=aj (ak (ah B0) b1);have H1:=aj R1;clear R0 B0 b1 R1;go_wp2_with fail;go_loop [8,9] (λa i=>(∃j:Nat,j<=3/\i=.int .i64 (j:Int)/\a=.int .i64 ((nS s.data.toList K (3-j):Nat):Int))\/(i=.int .i64 (-1)/\a=.int .i64 ((nS s.data.toList K 4:Nat):Int))) (λ_ i=>(intOf i+1).toNat)
 case atStart=>exact .inl ⟨3,by decide,rfl,rfl⟩
 case round =>
  rcases hrel with ⟨j,hj,rfl,rfl⟩|⟨rfl,rfl⟩
  ·have hl:=Cj s.data.toList K (m:=3-j) (by omega);have hjs:K+j<s.size:=by omega
   have e:=aj (TV s hjs hj);go_wp2_with fail;go_round
   case rel =>
    rcases als j with h0|h0
    ·subst h0;exact .inr ⟨by go_num,congrArg (Value.int .i64) (ah e)⟩
    ·exact .inl ⟨j-1,by omega,by go_num,by rw[show 3-(j-1)=4-j from by omega,ah e]⟩
   case measure=>simp[intOf]
  ·have hl4:=Cj s.data.toList K (m:=4) (by decide);have hc4:=Pk.Io X;have R1:=ah H1;obtain⟨_,c0,c1,c2,c3,c4,c5,fr⟩:=R1;have f0:=fr 0;have f1:=fr 1;have f2:=fr 2;have f3:=fr 3;have f4:=fr 4;have f5:=fr 5;clear fr;generalize hn:nS s.data.toList K 4=n4 at hl4 HN ⊢;generalize hcc:Pk.vM X=cc at hc4 HN;have HCC:=aj hcc;clear hn hcc;have hq':((n4:Int) !=(cc:Int))=false:=by rw[ah HN];simp
   have hz1:0<(aF X).size:=by rw[aK];exact h0
   have hx2:(((aF X).size:Int)==0)=false:=by rw[ajr];omega
   go_wp2_with fail;refine(zN (aF X) _ (by rw[aK];omega)).mono ?_;rintro e w2 ⟨rfl,rfl⟩;rw[aV,ah HCC];clear c0 c1 c2 c3 c4 c5 f0 f1 f2 f3 f4 f5;go_wp2_with fail;have HK:Hid (wrap64 (((aF X)[0]'hz1).toNat:Int)=((Pk.at' X 0:Nat):Int)):=aj (by
    rw[byte_at (aF X) hz1,aV];have:=Pk.qW X 0;exact alE _ ⟨by omega,by omega⟩)
   have HT:=aj (pR (aF X) 1);rw[aV] at HT;rw[ah HT,ah HK];have S0:Hid (DS w (w2.alloc (.cells #[.int .i64 ((Pk.at' X 0:Nat):Int),.int .i64 0,.int .i64 0,.string ⟨#[]⟩,.string ⟨#[]⟩,.string ⟨#[]⟩] 73)) w2.heap.size ((Pk.at' X 0:Nat):Int) 0 0 ⟨#[]⟩ ⟨#[]⟩ ⟨#[]⟩):=aj ⟨(ah H1).alloc _,RB.new _ _ _ _ _ _ _ _,(ah H1).lt,(ah B1).alloc (alJ (ah H1).lt) _⟩;have hl0:(X.drop 1).length<=1024:=by rw[ajp];omega
   generalize w2.heap.size=b at S0 ⊢;generalize w2.alloc (.cells #[.int .i64 ((Pk.at' X 0:Nat):Int),.int .i64 0,.int .i64 0,.string ⟨#[]⟩,.string ⟨#[]⟩,.string ⟨#[]⟩] 73)=W2 at S0 ⊢;generalize Pk.at' X 0=c0 at S0 RB' RG ⊢;generalize X.drop 1=r0 at hl0 RB' RG ⊢;have hm0:r0.length<=1024:=hl0;have hm1:(Pk.p1 r0).length<=1024:=by rw[YD];exact aje (Az _) hm0
   have hm2:(Pk.p2 r0).length<=1024:=by rw[YE];exact aje (Az _) hm1
   have hm3:(Pk.p3 r0).length<=1024:=by rw[YF];exact aje (AB _) hm2
   have hm4:(Pk.p4 r0).length<=1024:=by rw[YG];exact aje (AB _) hm3
   clear hl0 hq' hx2 hl4 hc4 HN HCC HK HT HX hv hX h0 H1 B1;go_loopw [11,12,13] (λrest ok i wr=>aiH w b r0 c0 rest ok i wr) (λ_ _ i _=>(6-intOf i).toNat)
   case atStart=>exact .inl ⟨rfl,rfl,rfl,S0⟩
   case round =>
    clear S0;rcases hrel with ⟨rfl,rfl,rfl,S⟩|⟨rfl,rfl,rfl,S⟩|⟨rfl,rfl,rfl,S⟩|⟨rfl,rfl,rfl,S⟩|⟨rfl,rfl,rfl,S⟩|⟨rfl,rfl,rfl,S⟩|⟨n,L,hn5,rfl,rfl,rfl,S⟩
    ·obtain⟨N,K',E,hv,hx2,HN,hK',HE,hz⟩:=Nj (l:=r0) (nx:=(Pk.p1 r0)) (YD r0) hm0;have f:=(ah S).lZ.fr 1;have c:=(ah S).lZ.c1;by_cases hE:E=0
     ·subst hE;go_wp2_with fail;refine(jK (aF r0) _ (by omega)).mono ?_;rintro e w3 ⟨rfl,rfl⟩;rw[ah hv];have S3':=(ah S);have S3:=aj (S3'.uU N);have f2:=S3'.lZ.fr 1;have c2:=S3'.lZ.c1;clear S3' f c;go_wp2_with fail;exact⟨.inr (.inl ⟨rfl,rfl,by rw[ah hx2],aj ⟨by rw[ah HN];exact ah S3,ah HE⟩⟩),by simp[intOf]⟩
     ·have hE':((E:Int)==0)=false:=by rw[ajr];omega
      have HO:Hid (Pk.okB r0=false):=aj (adv (by rw[ah HE];exact hE));clear hE;go_wp2_with fail;refine(jK (aF r0) _ (by omega)).mono ?_;rintro e w3 ⟨rfl,rfl⟩;rw[ah hv];have S3':=(ah S);have S3:=aj (S3'.uU N);have f2:=S3'.lZ.fr 1;have c2:=S3'.lZ.c1;clear S3' f c;go_wp2_with fail;exact⟨.inr (.inr (.inr (.inr (.inr (.inr ⟨1,_,by decide,rfl,rfl,rfl,aj ⟨⟨_,_,_,_,_,ah S3⟩,ah HO⟩⟩))))),by simp[intOf]⟩
    ·obtain⟨N,K',E,hv,hx2,HN,hK',HE,hz⟩:=Nj (l:=(Pk.p1 r0)) (nx:=(Pk.p2 r0)) (YE r0) hm1;have f:=(ah S).1.lZ.fr 2;have c:=(ah S).1.lZ.c2;by_cases hE:E=0
     ·subst hE;go_wp2_with fail;refine(jK (aF (Pk.p1 r0)) _ (by omega)).mono ?_;rintro e w3 ⟨rfl,rfl⟩;rw[ah hv];have S3':=(ah S).1;have S3:=aj (S3'.vT N);have f2:=S3'.lZ.fr 2;have c2:=S3'.lZ.c2;clear S3' f c;go_wp2_with fail;exact⟨.inr (.inr (.inl ⟨rfl,rfl,by rw[ah hx2],aj ⟨by rw[ah HN];exact ah S3,(ah S).2,ah HE⟩⟩)),by simp[intOf]⟩
     ·have hE':((E:Int)==0)=false:=by rw[ajr];omega
      have HO:Hid (Pk.okB r0=false):=aj (adw (by rw[ah HE];exact hE));clear hE;go_wp2_with fail;refine(jK (aF (Pk.p1 r0)) _ (by omega)).mono ?_;rintro e w3 ⟨rfl,rfl⟩;rw[ah hv];have S3':=(ah S).1;have S3:=aj (S3'.vT N);have f2:=S3'.lZ.fr 2;have c2:=S3'.lZ.c2;clear S3' f c;go_wp2_with fail;exact⟨.inr (.inr (.inr (.inr (.inr (.inr ⟨2,_,by decide,rfl,rfl,rfl,aj ⟨⟨_,_,_,_,_,ah S3⟩,ah HO⟩⟩))))),by simp[intOf]⟩
    ·obtain⟨N,K',E,hv,hx2,HN,hK',HE,hz⟩:=yM (l:=(Pk.p2 r0)) (nx:=(Pk.p3 r0)) (YF r0) hm2;have f:=(ah S).1.lZ.fr 3;have c:=(ah S).1.lZ.c3;by_cases hE:E=0
     ·subst hE;go_wp2_with fail;refine(gZ (aF (Pk.p2 r0)) 1024 _ (by omega)).mono ?_;rintro e w3 ⟨rfl,b3⟩;rw[ah hv];have S3':=(ah S).1.next b3;have S3:=aj (S3'.vU (aF N));have f2:=S3'.lZ.fr 3;have c2:=S3'.lZ.c3;clear S3' f c;go_wp2_with fail;exact⟨.inr (.inr (.inr (.inl ⟨rfl,rfl,by rw[ah hx2],aj ⟨by rw[ah HN];exact ah S3,(ah S).2.1,(ah S).2.2,ah HE⟩⟩))),by simp[intOf]⟩
     ·have hE':((E:Int)==0)=false:=by rw[ajr];omega
      have HO:Hid (Pk.okB r0=false):=aj (adx (by rw[ah HE];exact hE));clear hE;go_wp2_with fail;refine(gZ (aF (Pk.p2 r0)) 1024 _ (by omega)).mono ?_;rintro e w3 ⟨rfl,b3⟩;rw[ah hv];have S3':=(ah S).1.next b3;have S3:=aj (S3'.vU (aF N));have f2:=S3'.lZ.fr 3;have c2:=S3'.lZ.c3;clear S3' f c;go_wp2_with fail;exact⟨.inr (.inr (.inr (.inr (.inr (.inr ⟨3,_,by decide,rfl,rfl,rfl,aj ⟨⟨_,_,_,_,_,ah S3⟩,ah HO⟩⟩))))),by simp[intOf]⟩
    ·obtain⟨N,K',E,hv,hx2,HN,hK',HE,hz⟩:=yM (l:=(Pk.p3 r0)) (nx:=(Pk.p4 r0)) (YG r0) hm3;have f:=(ah S).1.lZ.fr 4;have c:=(ah S).1.lZ.c4;by_cases hE:E=0
     ·subst hE;go_wp2_with fail;refine(gZ (aF (Pk.p3 r0)) 1024 _ (by omega)).mono ?_;rintro e w3 ⟨rfl,b3⟩;rw[ah hv];have S3':=(ah S).1.next b3;have S3:=aj (S3'.BJ (aF N));have f2:=S3'.lZ.fr 4;have c2:=S3'.lZ.c4;clear S3' f c;go_wp2_with fail;exact⟨.inr (.inr (.inr (.inr (.inl ⟨rfl,rfl,by rw[ah hx2],aj ⟨by rw[ah HN];exact ah S3,(ah S).2.1,(ah S).2.2.1,(ah S).2.2.2,ah HE⟩⟩)))),by simp[intOf]⟩
     ·have hE':((E:Int)==0)=false:=by rw[ajr];omega
      have HO:Hid (Pk.okB r0=false):=aj (ady (by rw[ah HE];exact hE));clear hE;go_wp2_with fail;refine(gZ (aF (Pk.p3 r0)) 1024 _ (by omega)).mono ?_;rintro e w3 ⟨rfl,b3⟩;rw[ah hv];have S3':=(ah S).1.next b3;have S3:=aj (S3'.BJ (aF N));have f2:=S3'.lZ.fr 4;have c2:=S3'.lZ.c4;clear S3' f c;go_wp2_with fail;exact⟨.inr (.inr (.inr (.inr (.inr (.inr ⟨4,_,by decide,rfl,rfl,rfl,aj ⟨⟨_,_,_,_,_,ah S3⟩,ah HO⟩⟩))))),by simp[intOf]⟩
    ·obtain⟨N,K',E,hv,hx2,HN,hK',HE,hz⟩:=yM (l:=(Pk.p4 r0)) (nx:=(Pk.p5 r0)) (afN r0) hm4;have f:=(ah S).1.lZ.fr 5;have c:=(ah S).1.lZ.c5;by_cases hE:E=0
     ·subst hE;go_wp2_with fail;refine(gZ (aF (Pk.p4 r0)) 1024 _ (by omega)).mono ?_;rintro e w3 ⟨rfl,b3⟩;rw[ah hv];have S3':=(ah S).1.next b3;have S3:=aj (S3'.GH (aF N));have f2:=S3'.lZ.fr 5;have c2:=S3'.lZ.c5;clear S3' f c;go_wp2_with fail;exact⟨.inr (.inr (.inr (.inr (.inr (.inl ⟨rfl,rfl,by rw[ah hx2],aj ⟨by rw[ah HN];exact ah S3,(ah S).2.1,(ah S).2.2.1,(ah S).2.2.2.1,(ah S).2.2.2.2,ah HE⟩⟩))))),by simp[intOf]⟩
     ·have hE':((E:Int)==0)=false:=by rw[ajr];omega
      have HO:Hid (Pk.okB r0=false):=aj (adz (by rw[ah HE];exact hE));clear hE;go_wp2_with fail;refine(gZ (aF (Pk.p4 r0)) 1024 _ (by omega)).mono ?_;rintro e w3 ⟨rfl,b3⟩;rw[ah hv];have S3':=(ah S).1.next b3;have S3:=aj (S3'.GH (aF N));have f2:=S3'.lZ.fr 5;have c2:=S3'.lZ.c5;clear S3' f c;go_wp2_with fail;exact⟨.inr (.inr (.inr (.inr (.inr (.inr ⟨5,_,by decide,rfl,rfl,rfl,aj ⟨⟨_,_,_,_,_,ah S3⟩,ah HO⟩⟩))))),by simp[intOf]⟩
    ·have S':=(ah S).1;have HS:=aj S';by_cases h5:(Pk.p5 r0).length=0
     ·have ho:Pk.okB r0=true:=by
       obtain⟨_,e1,e2,e3,e4,e5⟩:=ah S;unfold Pk.okB;rw[ajg e1,ajg e2,ajg e3,ajg e4,ajg e5,ajg h5];rfl
      have hem:(aF (Pk.p5 r0)).toList.isEmpty=true:=by rw[Aw,aK,ajg h5]
      have hrec:=TS (Pk.eF c0 r0);have hk:jB (c0:Int) ((Pk.rd r0).1:Int) ((Pk.rd (Pk.p1 r0)).1:Int) (aF (Pk.rt (Pk.p2 r0) 1024).1) (aF (Pk.rt (Pk.p3 r0) 1024).1) (aF (Pk.rt (Pk.p4 r0) 1024).1)=Pk.Kw (Pk.eF c0 r0):=by
       rw[<-hrec];simp only[Pk.eF]
      have z1:(aF (Pk.rt (Pk.p2 r0) 1024).1).size<=1024:=by rw[aK];exact xP _
      have z2:(aF (Pk.rt (Pk.p3 r0) 1024).1).size<=1024:=by rw[aK];exact xP _
      have z3:(aF (Pk.rt (Pk.p4 r0) 1024).1).size<=1024:=by rw[aK];exact xP _
      have hG:Pk.Kw (Pk.eF c0 r0)=0->uY s.data.toList=.tuple #[.agg #[.int .i64 (c0:Int),.int .i64 ((Pk.rd r0).1:Int),.int .i64 ((Pk.rd (Pk.p1 r0)).1:Int),.string (aF (Pk.rt (Pk.p2 r0) 1024).1),.string (aF (Pk.rt (Pk.p3 r0) 1024).1),.string (aF (Pk.rt (Pk.p4 r0) 1024).1)],.int .i64 ((K:Int)+4),.int .i64 0]:=λhc=>by
       rw[iV (ah RG ho hc)];unfold QG;simp only[Pk.eF];rfl
      have hB:=λhc=>iV (ah RB' (.inr hc))
      obtain⟨C,hC⟩:∃C,Pk.Kw (Pk.eF c0 r0)=C:=⟨_,rfl⟩;rw[hC] at hk hG hB;generalize ((Pk.rd r0).1:Int)=QQ at S' HS hk hG;generalize ((Pk.rd (Pk.p1 r0)).1:Int)=TT at S' HS hk hG;generalize aF (Pk.rt (Pk.p2 r0) 1024).1=A1 at S' HS hk hG z1;generalize aF (Pk.rt (Pk.p3 r0) 1024).1=A2 at S' HS hk hG z2;generalize aF (Pk.rt (Pk.p4 r0) 1024).1=A3 at S' HS hk hG z3;have CK:Hid (∀W:World,Calls prog 116 #[.agg #[.int .i64 (c0:Int),.int .i64 QQ,.int .i64 TT,.string A1,.string A2,.string A3]] W λe w'=>e=.returned (.int .i64 C)/\Below W.heap.size W w'):=aj (λW=>by rw[<-hk];exact qG _ _ _ _ _ _ W (by omega) (by omega) (by omega))
      have HG:=aj hG;have HB:=aj hB;obtain⟨_,y0,y1,y2,y3,y4,y5,_⟩:=S'.lZ;clear S S' hG hB hk hrec ho h5 hC;by_cases hc:C=0
      ·have R:=aj (ah HG hc);subst hc;clear HG HB;go_wp2_with fail;refine(ah CK _).mono ?_;rintro e w3 ⟨rfl,b3⟩;have S3:=(ah HS).next b3;have H3:=aj S3;clear y0 y1 y2 y3 y4 y5;obtain⟨_,y0,y1,y2,y3,y4,y5,_⟩:=S3.lZ;obtain⟨_,x0,x1,x2,x3,x4,x5,fr⟩:=S3.res;have f0:=fr 0;have f1:=fr 1;have f2:=fr 2;have f3:=fr 3;have f4:=fr 4;have f5:=fr 5;clear fr S3 b3;go_wp2_with fail;refine ajJ (cZ rfl rfl ((ah H3).res.eH _ _ _ _ _ _)) rfl ?_;exact⟨by rw[ah R];rfl,aQ (ah H3).Kt (Xc _)⟩
      ·have R:=aj (ah HB hc);have hc':(C !=0)=true:=by simpa using hc
       clear hc HG HB;go_wp2_with fail;refine(ah CK _).mono ?_;rintro e w3 ⟨rfl,b3⟩;have S3:=(ah HS).next b3;have H3:=aj S3;clear y0 y1 y2 y3 y4 y5;obtain⟨_,x0,x1,x2,x3,x4,x5,fr⟩:=S3.res;have f0:=fr 0;have f1:=fr 1;have f2:=fr 2;have f3:=fr 3;have f4:=fr 4;have f5:=fr 5;clear fr S3 b3;go_wp2_with fail;refine ajJ (cZ rfl rfl ((ah H3).res.eH _ _ _ _ _ _)) rfl ?_;exact⟨by rw[ah R];rfl,aQ (ah H3).Kt (Xc _)⟩
     ·have R:=aj (iV (ah RB' (.inl (adA h5))));have hem:(aF (Pk.p5 r0)).toList.isEmpty=false:=by rw[Aw,aK,ajd h5]
      obtain⟨_,x0,x1,x2,x3,x4,x5,fr⟩:=S'.res;have f0:=fr 0;have f1:=fr 1;have f2:=fr 2;have f3:=fr 3;have f4:=fr 4;have f5:=fr 5;clear fr S' h5 S;go_wp2_with fail;refine ajJ (cZ rfl rfl ((ah HS).res.eH _ _ _ _ _ _)) rfl ?_;exact⟨by rw[ah R];rfl,aQ (ah HS).Kt (Xc _)⟩
    ·obtain⟨⟨qq,tt,aa,ab,ac,S'⟩,ho⟩:=ah S;have R:=aj (iV (ah RB' (.inl ho)));have HS:=aj S';have aiI:(n:Int)<=5:=by omega
     obtain⟨_,x0,x1,x2,x3,x4,x5,fr⟩:=S'.res;have f0:=fr 0;have f1:=fr 1;have f2:=fr 2;have f3:=fr 3;have f4:=fr 4;have f5:=fr 5;clear fr S' S ho;have hn:n=0\/n=1\/n=2\/n=3\/n=4\/n=5:=by omega
     clear hn5 aiI;rcases hn with rfl|rfl|rfl|rfl|rfl|rfl;all_goals go_wp2_with fail
     all_goals refine ajJ (cZ rfl rfl ((ah HS).res.eH _ _ _ _ _ _)) rfl ?_
     all_goals exact⟨by rw[ah R];rfl,aQ (ah HS).Kt (Xc _)⟩
theorem AU (s:ByteArray)(w:World)(hs:s.size<=281474976710656) :
 Calls prog 163 #[.string s] w λe w'=>e=.returned (uY s.data.toList)/\Below w.heap.size w w':=by
 obtain⟨X,K,E,hr⟩:∃X K E,Pk.rt s.data.toList 1024=(X,K,E):=⟨_,_,_,rfl⟩;by_cases hE:E=0
 ·subst hE;obtain⟨hK,hX⟩:=YB hr;rw[jd] at hK;by_cases h4:s.size<K+4
  ·exact WJ s X K w hs hr hK h4
  have h4':¬s.data.toList.length<K+4:=by rw[jd];exact h4
  have hiff:=afM (l:=s.data.toList) (K:=K) (c:=Pk.vM X) (by rw[jd];omega) (Pk.Io X);by_cases hsum:nS s.data.toList K 4=Pk.vM X
  ·by_cases h0:X.length=0
   ·exact JM s X K w hs hr (by omega) hX (.inr h0) (TQ hr h4' (hiff.1 hsum) (.inl h0))
   ·exact WL s X K w hs hr (by omega) hX hsum (by omega) (λh=>TQ hr h4' (hiff.1 hsum) (.inr h)) (λho hc=>agG hr h4' (hiff.1 hsum) h0 ho hc)
  ·exact JM s X K w hs hr (by omega) hX (.inl hsum) (agF hr h4' (λh=>hsum (hiff.2 h)))
 ·exact WI s X K E w hs hr hE
