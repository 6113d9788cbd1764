/- A part. -/
import Derived.Test.YtidekgipblnpkaaGreatDoorQ18
import Derived.Test.YtidekgipblnpkaaGreatDoorQ23
set_option maxRecDepth 100000
set_option maxHeartbeats 8000000
namespace Go.Proofs.YtidekgipblnpkaaGreatDoor
open Go.RowKit Go.Proofs.Tryz
def uY (l:List UInt8):Value:=.tuple #[QG (Pk.dec l).1,.int .i64 (Pk.dec l).2.1,.int .i64 (Pk.dec l).2.2]
theorem iV {l:List UInt8}{r:Pk.Rec}{n:Nat}{e:Int}(h:Pk.dec l=(r,n,e)):uY l=.tuple #[QG r,.int .i64 n,.int .i64 e]:=by unfold uY;rw[h]
theorem agD {l X:List UInt8}{K E:Nat}(hr:Pk.rt l 1024=(X,K,E))(h:E≠0):Pk.dec l=(Pk.oV,0,(E:Int)):=by
 unfold Pk.dec;rw[hr];simp only[];rw[if_pos h]
theorem agE {l X:List UInt8}{K:Nat}(hr:Pk.rt l 1024=(X,K,0))(h:l.length<K+4):Pk.dec l=(Pk.oV,0,6):=by
 unfold Pk.dec;rw[hr];simp only[];rw[if_neg (by simp),if_pos h]
theorem agF {l X:List UInt8}{K:Nat}(hr:Pk.rt l 1024=(X,K,0))(h:¬l.length<K+4)(h2:(l.drop K).take 4≠Pk.uZ (Pk.vM X)):Pk.dec l=(Pk.oV,0,7):=by
 unfold Pk.dec;rw[hr];simp only[];rw[if_neg (by simp),if_neg h,if_pos h2]
theorem TQ {l X:List UInt8}{K:Nat}(hr:Pk.rt l 1024=(X,K,0))(h:¬l.length<K+4)(h2:(l.drop K).take 4=Pk.uZ (Pk.vM X))(h3:X.length=0\/Pk.okB (X.drop 1)=false\/Pk.Kw (Pk.eF (Pk.at' X 0) (X.drop 1))≠0):Pk.dec l=(Pk.oV,0,7):=by
 unfold Pk.dec;rw[hr];simp only[];rw[if_neg (by simp),if_neg h,if_neg (by rw[h2];simp)];split
 ·rfl
 split
 ·rfl
 split
 ·rfl
 ·rename_i g1 g2 g3;rcases h3 with h3|h3|h3
  ·exact absurd h3 g1
  ·exact absurd h3 g2
  ·exact absurd h3 g3
theorem agG {l X:List UInt8}{K:Nat}(hr:Pk.rt l 1024=(X,K,0))(h:¬l.length<K+4)(h2:(l.drop K).take 4=Pk.uZ (Pk.vM X))(h3:X.length≠0)(h4:Pk.okB (X.drop 1)=true)(h5:Pk.Kw (Pk.eF (Pk.at' X 0) (X.drop 1))=0) :
 Pk.dec l=(Pk.eF (Pk.at' X 0) (X.drop 1),K+4,0):=by
 unfold Pk.dec;rw[hr];simp only[];rw[if_neg (by simp),if_neg h,if_neg (by rw[h2];simp),if_neg h3,if_neg (by rw[h4];simp),if_neg (by rw[h5];simp)]
theorem YA {s:ByteArray}{K:Nat}(X:List UInt8):((s.extract K ((K:Int)+4).toNat).toList==(aF (Pk.uZ (Pk.vM X))).toList)=((s.data.toList.drop K).take 4==Pk.uZ (Pk.vM X)):=by
 rw[show((K:Int)+4).toNat=K+4 from by omega,Ji,akd,akd,aV,aV]
theorem aao {s:ByteArray}{K:Nat}{X:List UInt8}(_:K+4<=s.size)(h:(s.data.toList.drop K).take 4≠Pk.uZ (Pk.vM X)):((s.extract K ((K:Int)+4).toNat).toList==(aF (Pk.uZ (Pk.vM X))).toList)=false:=by
 rw[YA,ajr];exact h
theorem JI {s:ByteArray}{K:Nat}{X:List UInt8}(_:K+4<=s.size)(h:(s.data.toList.drop K).take 4=Pk.uZ (Pk.vM X)):((s.extract K ((K:Int)+4).toNat).toList==(aF (Pk.uZ (Pk.vM X))).toList)=true:=by
 rw[YA,akT];exact h
theorem adl (s:ByteArray)(X:List UInt8)(K E:Nat)(w:World)(hs:s.size<=281474976710656)(hr:Pk.rt s.data.toList 1024=(X,K,E))(hE:E≠0) :
 Calls prog 215 #[.string s] w λe w'=>e=.returned (uY s.data.toList)/\Below w.heap.size w w':=by
 have hv:iH s.data.toList 1024=.tuple #[.string (aF X),.int .i64 K,.int .i64 E]:=by unfold iH;rw[hr]
 have R:=aj (iV (agD hr hE));have R0:=aj (RB.new w 0 0 0 ⟨#[]⟩ ⟨#[]⟩ ⟨#[]⟩ 73);have B0:Hid (Below w.heap.size w (w.alloc (.cells #[.int .i64 0,.int .i64 0,.int .i64 0,.string ⟨#[]⟩,.string ⟨#[]⟩,.string ⟨#[]⟩] 73))):=aj ((ajb _ _).alloc (Xc _) _);have hE':((E:Int) !=0)=true:=by simp[hE]
 have hE2:¬((E:Int)=0):=by omega
 clear hr hE;go_enter func215,ntmps215;go_wp2_with fail;refine(ng s 1024 _ hs).mono ?_;rintro e w1 ⟨rfl,b1⟩;rw[hv];have R1:=(ah R0).next b1;have B1:=aj (ak (ah B0) b1);have H1:=aj R1;obtain⟨_,c0,c1,c2,c3,c4,c5,fr⟩:=R1;have f0:=fr 0;have f1:=fr 1;have f2:=fr 2;have f3:=fr 3;have f4:=fr 4;have f5:=fr 5;clear R0 B0 b1 fr;go_wp2_with fail;refine ajJ (cZ rfl rfl ((ah H1).eH _ _ _ _ _ _)) rfl ?_;exact⟨by rw[ah R];rfl,aQ (ah B1) (Xc _)⟩
theorem adn (s:ByteArray)(X:List UInt8)(K:Nat)(w:World)(hs:s.size<=281474976710656)(hr:Pk.rt s.data.toList 1024=(X,K,0))(hK:K<=s.size)(h4:s.size<K+4) :
 Calls prog 215 #[.string s] w λe w'=>e=.returned (uY s.data.toList)/\Below w.heap.size w w':=by
 have hv:iH s.data.toList 1024=.tuple #[.string (aF X),.int .i64 K,.int .i64 0]:=by unfold iH;rw[hr];rfl
 have R:=aj (iV (agE hr (by simpa using h4)));have R0:=aj (RB.new w 0 0 0 ⟨#[]⟩ ⟨#[]⟩ ⟨#[]⟩ 73);have B0:Hid (Below w.heap.size w (w.alloc (.cells #[.int .i64 0,.int .i64 0,.int .i64 0,.string ⟨#[]⟩,.string ⟨#[]⟩,.string ⟨#[]⟩] 73))):=aj ((ajb _ _).alloc (Xc _) _);clear hr;go_enter func215,ntmps215;go_wp2_with fail;refine(ng s 1024 _ hs).mono ?_;rintro e w1 ⟨rfl,b1⟩;rw[hv];have R1:=(ah R0).next b1;have B1:=aj (ak (ah B0) b1);have H1:=aj R1;obtain⟨_,c0,c1,c2,c3,c4,c5,fr⟩:=R1;have f0:=fr 0;have f1:=fr 1;have f2:=fr 2;have f3:=fr 3;have f4:=fr 4
 have f5:=fr 5;clear R0 B0 b1 fr;go_wp2_with fail;refine ajJ (cZ rfl rfl ((ah H1).eH _ _ _ _ _ _)) rfl ?_;exact⟨by rw[ah R];rfl,aQ (ah B1) (Xc _)⟩
theorem ado (s:ByteArray)(X:List UInt8)(K:Nat)(w:World)(hs:s.size<=281474976710656)(hr:Pk.rt s.data.toList 1024=(X,K,0))(h4:K+4<=s.size)(hX:X.length<=1024)(hne:(s.data.toList.drop K).take 4≠Pk.uZ (Pk.vM X)) :
 Calls prog 215 #[.string s] w λe w'=>e=.returned (uY s.data.toList)/\Below w.heap.size w w':=by
 have hv:iH s.data.toList 1024=.tuple #[.string (aF X),.int .i64 K,.int .i64 0]:=by unfold iH;rw[hr];rfl
 have R:=aj (iV (agF hr (by simpa using h4) hne));have R0:=aj (RB.new w 0 0 0 ⟨#[]⟩ ⟨#[]⟩ ⟨#[]⟩ 73);have B0:Hid (Below w.heap.size w (w.alloc (.cells #[.int .i64 0,.int .i64 0,.int .i64 0,.string ⟨#[]⟩,.string ⟨#[]⟩,.string ⟨#[]⟩] 73))):=aj ((ajb _ _).alloc (Xc _) _);have HX:=aj hX;have HB:=aj (aao h4 hne);have i1:(0:Int)<=(K:Int):=by omega
 have i2:(K:Int)<=(K:Int)+4:=by omega
 have i3:(K:Int)+4<=(s.size:Int):=by omega
 clear hr;go_enter func215,ntmps215;go_wp2_with fail;refine(ng s 1024 _ hs).mono ?_;rintro e w1 ⟨rfl,b1⟩;rw[hv];have R1:=(ah R0).next b1;have B1:=aj (ak (ah B0) b1);have H1:=aj R1;clear R0 B0 b1 R1;go_wp2_with fail;go_region_held3 (λ_=>True) (trivial)
  (first
   | (go_at_call 212;refine(rG (aF X) _ (by rw[aK];have:=ah HX;omega)).mono ?_;rintro e w2 ⟨rfl,b2⟩;rw[aV]))
 rw[ah HB];have R2:=((ah H1).drew).next b2;have B2:=aj (ak (ah B1).drew b2);have H2:=aj R2;obtain⟨_,c0,c1,c2,c3,c4,c5,fr⟩:=R2;have f0:=fr 0;have f1:=fr 1;have f2:=fr 2;have f3:=fr 3;have f4:=fr 4;have f5:=fr 5;clear H1 B1 b2 fr;go_wp2_with fail;refine ajJ (cZ rfl rfl ((ah H2).eH _ _ _ _ _ _)) rfl ?_;exact⟨by rw[ah R];rfl,aQ (ah B2) (Xc _)⟩
theorem TR (s:ByteArray)(X:List UInt8)(K:Nat)(w:World)(hs:s.size<=281474976710656)(hr:Pk.rt s.data.toList 1024=(X,K,0))(h4:K+4<=s.size)(hX:X.length<=1024)(he:(s.data.toList.drop K).take 4=Pk.uZ (Pk.vM X))(V:Value)
 (k q t:Int) (a b c:ByteArray) (hd:Pk.dec s.data.toList=(Pk.oV,0,7)) (hV:V=.tuple #[.agg #[.int .i64 k,.int .i64 q,.int .i64 t,.string a,.string b,.string c],.bool false])
 (hc:∀W:World,Calls prog 236 #[.string (aF X)] W λe w'=>e=.returned V/\Below W.heap.size W w') :
 Calls prog 215 #[.string s] w λe w'=>e=.returned (uY s.data.toList)/\Below w.heap.size w w':=by
 subst hV;have hv:iH s.data.toList 1024=.tuple #[.string (aF X),.int .i64 K,.int .i64 0]:=by unfold iH;rw[hr];rfl
 have R:=aj (iV hd);have HB:=aj (JI h4 he);have R0:=aj (RB.new w 0 0 0 ⟨#[]⟩ ⟨#[]⟩ ⟨#[]⟩ 73);have B0:Hid (Below w.heap.size w (w.alloc (.cells #[.int .i64 0,.int .i64 0,.int .i64 0,.string ⟨#[]⟩,.string ⟨#[]⟩,.string ⟨#[]⟩] 73))):=aj ((ajb _ _).alloc (Xc _) _);have HX:=aj hX;have HC:=aj hc;have i1:(0:Int)<=(K:Int):=by omega
 have i2:(K:Int)<=(K:Int)+4:=by omega
 have i3:(K:Int)+4<=(s.size:Int):=by omega
 clear hr he hd hc;go_enter func215,ntmps215;go_wp2_with fail;refine(ng s 1024 _ hs).mono ?_;rintro e w1 ⟨rfl,b1⟩;rw[hv];have R1:=(ah R0).next b1;have B1:=aj (ak (ah B0) b1);have H1:=aj R1;clear R0 B0 b1 R1;go_wp2_with fail;go_region_held3 (λ_=>True) (trivial)
  (first
   | (go_at_call 212;refine(rG (aF X) _ (by rw[aK];have:=ah HX;omega)).mono ?_;rintro e w2 ⟨rfl,b2⟩;rw[aV]))
 rw[ah HB];have R2:=((ah H1).drew).next b2;have B2:=aj (ak (ah B1).drew b2);have H2:=aj R2;clear H1 B1 b2 R2;go_wp2_with fail;refine(ah HC _).mono ?_;rintro e w3 ⟨rfl,b3⟩;have R3:=(ah H2).next b3;have B3:=aj (ak (ah B2) b3);have H3:=aj R3;obtain⟨hlt,c0,c1,c2,c3,c4,c5,fr⟩:=R3;have f0:=fr 0;have f1:=fr 1;have f2:=fr 2;have f3:=fr 3;have f4:=fr 4;have f5:=fr 5;clear H2 B2 b3 fr;go_wp2_with fail;refine ajJ (cZ rfl rfl (((ah H3).eH _ _ _ _ _ _).alloc _)) rfl ?_;exact⟨by rw[ah R];rfl,(aQ (ah B3) (Xc _)).alloc (by simp;omega) _⟩
theorem adp (s:ByteArray)(X:List UInt8)(K:Nat)(w:World)(hs:s.size<=281474976710656)(hr:Pk.rt s.data.toList 1024=(X,K,0))(h4:K+4<=s.size)(hX:X.length<=1024)(he:(s.data.toList.drop K).take 4=Pk.uZ (Pk.vM X))(V:Value)
 (k q t:Int) (a b c:ByteArray) (hd:Pk.dec s.data.toList=(Pk.oV,0,7)) (hV:V=.tuple #[.agg #[.int .i64 k,.int .i64 q,.int .i64 t,.string a,.string b,.string c],.bool true]) (hk:jB k q t a b c≠0) (ha:a.size<=1024) (hb:b.size<=1024) (hcz:c.size<=1024)
 (hc:∀W:World,Calls prog 236 #[.string (aF X)] W λe w'=>e=.returned V/\Below W.heap.size W w') :
 Calls prog 215 #[.string s] w λe w'=>e=.returned (uY s.data.toList)/\Below w.heap.size w w':=by
 subst hV;have hv:iH s.data.toList 1024=.tuple #[.string (aF X),.int .i64 K,.int .i64 0]:=by unfold iH;rw[hr];rfl
 have R:=aj (iV hd);have HB:=aj (JI h4 he);have R0:=aj (RB.new w 0 0 0 ⟨#[]⟩ ⟨#[]⟩ ⟨#[]⟩ 73);have B0:Hid (Below w.heap.size w (w.alloc (.cells #[.int .i64 0,.int .i64 0,.int .i64 0,.string ⟨#[]⟩,.string ⟨#[]⟩,.string ⟨#[]⟩] 73))):=aj ((ajb _ _).alloc (Xc _) _);have HX:=aj hX;have HC:=aj hc;obtain⟨C,hC⟩:∃C,jB k q t a b c=C:=⟨_,rfl⟩;rw[hC] at hk;have CK:Hid (∀W:World,Calls prog 174 #[.agg #[.int .i64 k,.int .i64 q,.int .i64 t,.string a,.string b,.string c]] W λe w'=>e=.returned (.int .i64 C)/\Below W.heap.size W w'):=aj (λW=>by rw[<-hC];exact sD k q t a b c W (by omega) (by omega) (by omega))
 have hk':(C !=0)=true:=by simpa using hk
 have i1:(0:Int)<=(K:Int):=by omega
 have i2:(K:Int)<=(K:Int)+4:=by omega
 have i3:(K:Int)+4<=(s.size:Int):=by omega
 clear hr he hd hc hC hk;go_enter func215,ntmps215;go_wp2_with fail;refine(ng s 1024 _ hs).mono ?_;rintro e w1 ⟨rfl,b1⟩;rw[hv];have R1:=(ah R0).next b1;have B1:=aj (ak (ah B0) b1);have H1:=aj R1;clear R0 B0 b1 R1;go_wp2_with fail;go_region_held3 (λ_=>True) (trivial)
  (first
   | (go_at_call 212;refine(rG (aF X) _ (by rw[aK];have:=ah HX;omega)).mono ?_;rintro e w2 ⟨rfl,b2⟩;rw[aV]))
 rw[ah HB];have R2:=((ah H1).drew).next b2;have B2:=aj (ak (ah B1).drew b2);have H2:=aj R2;clear H1 B1 b2 R2;go_wp2_with fail;refine(ah HC _).mono ?_;rintro e w3 ⟨rfl,b3⟩;have R3:=(ah H2).next b3;have B3:=aj (ak (ah B2) b3);have H3:=aj R3;clear H2 B2 b3 R3;go_wp2_with fail;refine(ah CK _).mono ?_;rintro e w4 ⟨rfl,b4⟩;have R4:=((ah H3).alloc _).next b4;have B4:=aj (ak ((ah B3).alloc (alJ (ah H3).lt) _) b4);have H4:=aj R4;obtain⟨hlt,c0,c1,c2,c3,c4,c5,fr⟩:=R4;have f0:=fr 0;have f1:=fr 1;have f2:=fr 2;have f3:=fr 3;have f4:=fr 4;have f5:=fr 5
 clear H3 B3 b4 fr;go_wp2_with fail;refine ajJ (cZ rfl rfl ((ah H4).eH _ _ _ _ _ _)) rfl ?_;exact⟨by rw[ah R];rfl,aQ (ah B4) (Xc _)⟩
theorem adq (s:ByteArray)(X:List UInt8)(K:Nat)(w:World)(hs:s.size<=281474976710656)(hr:Pk.rt s.data.toList 1024=(X,K,0))(h4:K+4<=s.size)(hX:X.length<=1024)(he:(s.data.toList.drop K).take 4=Pk.uZ (Pk.vM X))(V:Value)
 (k q t:Int) (a b c:ByteArray) (hd:uY s.data.toList=.tuple #[.agg #[.int .i64 k,.int .i64 q,.int .i64 t,.string a,.string b,.string c],.int .i64 ((K:Int)+4),.int .i64 0]) (hV:V=.tuple #[.agg #[.int .i64 k,.int .i64 q,.int .i64 t,.string a,.string b,.string c],.bool true]) (hk:jB k q t a b c=0) (ha:a.size<=1024) (hb:b.size<=1024) (hcz:c.size<=1024)
 (hc:∀W:World,Calls prog 236 #[.string (aF X)] W λe w'=>e=.returned V/\Below W.heap.size W w') :
 Calls prog 215 #[.string s] w λe w'=>e=.returned (uY s.data.toList)/\Below w.heap.size w w':=by
 subst hV;have hv:iH s.data.toList 1024=.tuple #[.string (aF X),.int .i64 K,.int .i64 0]:=by unfold iH;rw[hr];rfl
 have R:=aj hd;have HB:=aj (JI h4 he);have R0:=aj (RB.new w 0 0 0 ⟨#[]⟩ ⟨#[]⟩ ⟨#[]⟩ 73);have B0:Hid (Below w.heap.size w (w.alloc (.cells #[.int .i64 0,.int .i64 0,.int .i64 0,.string ⟨#[]⟩,.string ⟨#[]⟩,.string ⟨#[]⟩] 73))):=aj ((ajb _ _).alloc (Xc _) _);have HX:=aj hX;have HC:=aj hc;have CK:Hid (∀W:World,Calls prog 174 #[.agg #[.int .i64 k,.int .i64 q,.int .i64 t,.string a,.string b,.string c]] W λe w'=>e=.returned (.int .i64 0)/\Below W.heap.size W w'):=aj (λW=>by rw[<-hk];exact sD k q t a b c W (by omega) (by omega) (by omega));have i1:(0:Int)<=(K:Int):=by omega
 have i2:(K:Int)<=(K:Int)+4:=by omega
 have i3:(K:Int)+4<=(s.size:Int):=by omega
 clear hr he hd hc hk;go_enter func215,ntmps215;go_wp2_with fail;refine(ng s 1024 _ hs).mono ?_;rintro e w1 ⟨rfl,b1⟩;rw[hv];have R1:=(ah R0).next b1;have B1:=aj (ak (ah B0) b1);have H1:=aj R1;clear R0 B0 b1 R1;go_wp2_with fail;go_region_held3 (λ_=>True) (trivial)
  (first
   | (go_at_call 212;refine(rG (aF X) _ (by rw[aK];have:=ah HX;omega)).mono ?_;rintro e w2 ⟨rfl,b2⟩;rw[aV]))
 rw[ah HB];have R2:=((ah H1).drew).next b2;have B2:=aj (ak (ah B1).drew b2);have H2:=aj R2;clear H1 B1 b2 R2;go_wp2_with fail;refine(ah HC _).mono ?_;rintro e w3 ⟨rfl,b3⟩;have R3:=(ah H2).next b3;have B3:=aj (ak (ah B2) b3);have H3:=aj R3;clear H2 B2 b3 R3;go_wp2_with fail;refine(ah CK _).mono ?_;rintro e w4 ⟨rfl,b4⟩;have R4:=((ah H3).alloc _).next b4;have B4:=aj (ak ((ah B3).alloc (alJ (ah H3).lt) _) b4);have H4:=aj R4;have G4:=aj ((RB.new w3 k q t a b c 73).next b4);obtain⟨hlt,c0,c1,c2,c3,c4,c5,fr⟩:=R4;have f0:=fr 0;have f1:=fr 1
 have f2:=fr 2;have f3:=fr 3;have f4:=fr 4;have f5:=fr 5;obtain⟨_,d0,d1,d2,d3,d4,d5,_⟩:=ah G4;clear H3 B3 b4 fr G4;go_wp2_with fail;refine ajJ (cZ rfl rfl ((ah H4).eH _ _ _ _ _ _)) rfl ?_;exact⟨by rw[ah R];rfl,aQ (ah B4) (Xc _)⟩
theorem YB {l X:List UInt8}{K:Nat}(hr:Pk.rt l 1024=(X,K,0)):K<=l.length/\X.length<=1024:=by
 have:=Pk.Ik hr;exact⟨this.2.1,by omega⟩
theorem xP (r0:List UInt8):(Pk.rt r0 1024).1.length<=1024:=by
 by_cases h:(Pk.rt r0 1024).2.2=0
 ·have:=(Pk.Ik (l:=r0) (most:=1024) (x:=(Pk.rt r0 1024).1) (n:=(Pk.rt r0 1024).2.1) (by rw[<-h])).2.2;omega
 ·rw[(acV h).1];simp
theorem ahY (c:Nat)(r0:List UInt8):(Pk.eF c r0).s.length<=1024:=by
 have e:(Pk.eF c r0).s=(Pk.rt (Pk.p2 r0) 1024).1:=by simp only[Pk.eF]
 rw[e];exact xP _
theorem ahZ (c:Nat)(r0:List UInt8):(Pk.eF c r0).h.length<=1024:=by
 have e:(Pk.eF c r0).h=(Pk.rt (Pk.p3 r0) 1024).1:=by simp only[Pk.eF]
 rw[e];exact xP _
theorem ah0 (c:Nat)(r0:List UInt8):(Pk.eF c r0).d.length<=1024:=by
 have e:(Pk.eF c r0).d=(Pk.rt (Pk.p4 r0) 1024).1:=by simp only[Pk.eF]
 rw[e];exact xP _
theorem TS (r:Pk.Rec):jB r.k r.q r.t (aF r.s) (aF r.h) (aF r.d)=Pk.Kw r:=by
 unfold jB;simp only[aV]
theorem JJ (s:ByteArray)(w:World)(hs:s.size<=281474976710656) :
 Calls prog 215 #[.string s] w λe w'=>e=.returned (uY s.data.toList)/\Below w.heap.size w w':=by
 obtain⟨X,K,E,hr⟩:∃X K E,Pk.rt s.data.toList 1024=(X,K,E):=⟨_,_,_,rfl⟩;by_cases hE:E=0
 ·subst hE;obtain⟨hK,hX⟩:=YB hr;rw[jd] at hK;by_cases h4:s.size<K+4
  ·exact adn s X K w hs hr hK h4
  have h4':¬s.data.toList.length<K+4:=by rw[jd];exact h4
  by_cases hsum:(s.data.toList.drop K).take 4=Pk.uZ (Pk.vM X)
  ·by_cases h0:X.length=0
   ·have hX0:X=[]:=ajK.1 h0;exact TR s X K w hs hr (by omega) hX hsum _ 0 0 0 ⟨#[]⟩ ⟨#[]⟩ ⟨#[]⟩ (TQ hr h4' hsum (.inl h0)) rfl (λW=>by rw[hX0];exact V7 W)
   ·have hb:∀W:World,Calls prog 236 #[.string (aF X)] W λe w'=>e=.returned (.tuple #[QG (Pk.eF (Pk.at' X 0) (X.drop 1)),.bool (Pk.okB (X.drop 1))])/\Below W.heap.size W w':=λW=>by
     have:=V8 (aF X) W (by rw[aK];omega) (by rw[aK];omega);rw[aV] at this;exact this
    have ho1:(Pk.eF (Pk.at' X 0) (X.drop 1)).s.length<=1024:=ahY _ _;have ho2:(Pk.eF (Pk.at' X 0) (X.drop 1)).h.length<=1024:=ahZ _ _;have ho3:(Pk.eF (Pk.at' X 0) (X.drop 1)).d.length<=1024:=ah0 _ _;have hF:=λho hc=>iV (agG hr h4' hsum h0 ho hc)
    have hD:=λhc=>TQ hr h4' hsum (.inr (.inr hc))
    have hD2:=λhc=>TQ hr h4' hsum (.inr (.inl hc))
    generalize Pk.eF (Pk.at' X 0) (X.drop 1)=r at hb ho1 ho2 ho3 hF hD;have hck:=TS r
    cases ho:Pk.okB (X.drop 1) with
    | false =>
     rw[ho] at hb;exact TR s X K w hs hr (by omega) hX hsum _ r.k r.q r.t (aF r.s) (aF r.h) (aF r.d) (hD2 ho) rfl hb
    | true =>
     rw[ho] at hb;by_cases hc:Pk.Kw r=0
     ·exact adq s X K w hs hr (by omega) hX hsum _ r.k r.q r.t (aF r.s) (aF r.h) (aF r.d) (hF ho hc) rfl (hck.trans hc) (by rw[aK];exact ho1) (by rw[aK];exact ho2) (by rw[aK];exact ho3) hb
     ·exact adp s X K w hs hr (by omega) hX hsum _ r.k r.q r.t (aF r.s) (aF r.h) (aF r.d) (hD hc) rfl (λe=>hc (hck.symm.trans e)) (by rw[aK];exact ho1) (by rw[aK];exact ho2) (by rw[aK];exact ho3) hb
  ·exact ado s X K w hs hr (by omega) hX hsum
 ·exact adl s X K E w hs hr hE
