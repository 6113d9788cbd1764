/- A part of the proof. -/
import Derived.Test.YtidekgipblnpkaaGreatDoorQ17
import Derived.Test.YtidekgipblnpkaaGreatDoorQ32
set_option maxRecDepth 100000
set_option maxHeartbeats 8000000
namespace Go.Proofs.YtidekgipblnpkaaGreatDoor
open Go.RowKit Go.Proofs.Tryz
def vI (l:List UInt8):Value:=.tuple #[Si (Pk.dec l).1,.int .i64 (Pk.dec l).2.1,.int .i64 (Pk.dec l).2.2]
theorem jC {l:List UInt8}{r:Pk.Rec}{n:Nat}{e:Int}(h:Pk.dec l=(r,n,e)):vI l=.tuple #[Si r,.int .i64 n,.int .i64 e]:=by unfold vI;rw[h]
theorem ahU {l X:List UInt8}{K E:Nat}(hr:Pk.rt l 1024=(X,K,E))(h:E≠0):Pk.dec l=(Pk.none',0,(E:Int)):=by
 unfold Pk.dec;rw[hr];simp only[];rw[if_pos h]
theorem ahV {l X:List UInt8}{K:Nat}(hr:Pk.rt l 1024=(X,K,0))(h:l.length<K+4):Pk.dec l=(Pk.none',0,6):=by
 unfold Pk.dec;rw[hr];simp only[];rw[if_neg (by simp),if_pos h]
theorem ahW {l X:List UInt8}{K:Nat}(hr:Pk.rt l 1024=(X,K,0))(h:¬l.length<K+4)(h2:(l.drop K).take 4≠Pk.le4 (Pk.crc X)):Pk.dec l=(Pk.none',0,7):=by
 unfold Pk.dec;rw[hr];simp only[];rw[if_neg (by simp),if_neg h,if_pos h2]
theorem Uy {l X:List UInt8}{K:Nat}(hr:Pk.rt l 1024=(X,K,0))(h:¬l.length<K+4)(h2:(l.drop K).take 4=Pk.le4 (Pk.crc X))(h3:X.length=0\/Pk.okB (X.drop 1)=false\/Pk.chk (Pk.fB (Pk.at' X 0) (X.drop 1))≠0):Pk.dec l=(Pk.none',0,7):=by
 unfold Pk.dec;rw[hr];simp only[];rw[if_neg (by simp),if_neg h,if_neg (by rw[h2];simp)];split
 ·rfl
 split
 ·rfl
 split
 ·rfl
 ·rename_i g1 g2 g3
  rcases h3 with h3|h3|h3
  ·exact absurd h3 g1
  ·exact absurd h3 g2
  ·exact absurd h3 g3
theorem ahX {l X:List UInt8}{K:Nat}(hr:Pk.rt l 1024=(X,K,0))(h:¬l.length<K+4)(h2:(l.drop K).take 4=Pk.le4 (Pk.crc X))(h3:X.length≠0)(h4:Pk.okB (X.drop 1)=true)(h5:Pk.chk (Pk.fB (Pk.at' X 0) (X.drop 1))=0) :
 Pk.dec l=(Pk.fB (Pk.at' X 0) (X.drop 1),K+4,0):=by
 unfold Pk.dec;rw[hr];simp only[];rw[if_neg (by simp),if_neg h,if_neg (by rw[h2];simp),if_neg h3,if_neg (by rw[h4];simp),if_neg (by rw[h5];simp)]
theorem Zr {s:ByteArray}{K:Nat}(X:List UInt8):((s.extract K ((K:Int)+4).toNat).toList==(bs (Pk.le4 (Pk.crc X))).toList)=((s.data.toList.drop K).take 4==Pk.le4 (Pk.crc X)):=by
 rw[show((K:Int)+4).toNat=K+4 from by omega,Ky,ByteArray.toList_eq,ByteArray.toList_eq,dB,dB]
theorem abj {s:ByteArray}{K:Nat}{X:List UInt8}(_:K+4<=s.size)(h:(s.data.toList.drop K).take 4≠Pk.le4 (Pk.crc X)):((s.extract K ((K:Int)+4).toNat).toList==(bs (Pk.le4 (Pk.crc X))).toList)=false:=by
 rw[Zr,beq_eq_false_iff_ne];exact h
theorem Kz {s:ByteArray}{K:Nat}{X:List UInt8}(_:K+4<=s.size)(h:(s.data.toList.drop K).take 4=Pk.le4 (Pk.crc X)):((s.extract K ((K:Int)+4).toNat).toList==(bs (Pk.le4 (Pk.crc X))).toList)=true:=by
 rw[Zr,beq_iff_eq];exact h
theorem ad8 (s:ByteArray)(X:List UInt8)(K E:Nat)(w:World)(hs:s.size<=281474976710656)(hr:Pk.rt s.data.toList 1024=(X,K,E))(hE:E≠0) :
 Calls prog 215 #[.string s] w λe w'=>e=.returned (vI s.data.toList)/\Below w.heap.size w w':=by
 have hv:jf s.data.toList 1024=.tuple #[.string (bs X),.int .i64 K,.int .i64 E]:=by unfold jf;rw[hr]
 have R:=aj (jC (ahU hr hE));have R0:=aj (RB.new w 0 0 0 ⟨#[]⟩ ⟨#[]⟩ ⟨#[]⟩ 73);have B0:Hid (Below w.heap.size w (w.alloc (.cells #[.int .i64 0,.int .i64 0,.int .i64 0,.string ⟨#[]⟩,.string ⟨#[]⟩,.string ⟨#[]⟩] 73))):=aj ((Below.refl _ _).alloc (Nat.le_refl _) _);have hE':((E:Int) !=0)=true:=by simp[hE]
 have hE2:¬((E:Int)=0):=by omega
 clear hr hE;go_enter func215,ntmps215
 go_wp2_with fail
 refine(nT s 1024 _ hs).mono ?_;rintro e w1 ⟨rfl,b1⟩;rw[hv];have R1:=(ah R0).next b1;have B1:=aj (ak (ah B0) b1);have H1:=aj R1;obtain⟨_,c0,c1,c2,c3,c4,c5,fr⟩:=R1;have f0:=fr 0;have f1:=fr 1;have f2:=fr 2;have f3:=fr 3;have f4:=fr 4;have f5:=fr 5;clear R0 B0 b1 fr;go_wp2_with fail
 refine bodyPost_ret (dF rfl rfl ((ah H1).fD _ _ _ _ _ _)) rfl ?_;exact⟨by rw[ah R];rfl,aV (ah B1) (Nat.le_refl _)⟩
theorem ad9 (s:ByteArray)(X:List UInt8)(K:Nat)(w:World)(hs:s.size<=281474976710656)(hr:Pk.rt s.data.toList 1024=(X,K,0))(hK:K<=s.size)(h4:s.size<K+4) :
 Calls prog 215 #[.string s] w λe w'=>e=.returned (vI s.data.toList)/\Below w.heap.size w w':=by
 have hv:jf s.data.toList 1024=.tuple #[.string (bs X),.int .i64 K,.int .i64 0]:=by unfold jf;rw[hr];rfl
 have R:=aj (jC (ahV hr (by simpa using h4)));have R0:=aj (RB.new w 0 0 0 ⟨#[]⟩ ⟨#[]⟩ ⟨#[]⟩ 73);have B0:Hid (Below w.heap.size w (w.alloc (.cells #[.int .i64 0,.int .i64 0,.int .i64 0,.string ⟨#[]⟩,.string ⟨#[]⟩,.string ⟨#[]⟩] 73))):=aj ((Below.refl _ _).alloc (Nat.le_refl _) _);clear hr;go_enter func215,ntmps215
 go_wp2_with fail
 refine(nT s 1024 _ hs).mono ?_;rintro e w1 ⟨rfl,b1⟩;rw[hv];have R1:=(ah R0).next b1;have B1:=aj (ak (ah B0) b1);have H1:=aj R1;obtain⟨_,c0,c1,c2,c3,c4,c5,fr⟩:=R1;have f0:=fr 0;have f1:=fr 1;have f2:=fr 2;have f3:=fr 3;have f4:=fr 4;have f5:=fr 5;clear R0 B0 b1 fr;go_wp2_with fail
 refine bodyPost_ret (dF rfl rfl ((ah H1).fD _ _ _ _ _ _)) rfl ?_;exact⟨by rw[ah R];rfl,aV (ah B1) (Nat.le_refl _)⟩
theorem aea (s:ByteArray)(X:List UInt8)(K:Nat)(w:World)(hs:s.size<=281474976710656)(hr:Pk.rt s.data.toList 1024=(X,K,0))(h4:K+4<=s.size)(hX:X.length<=1024)(hne:(s.data.toList.drop K).take 4≠Pk.le4 (Pk.crc X)) :
 Calls prog 215 #[.string s] w λe w'=>e=.returned (vI s.data.toList)/\Below w.heap.size w w':=by
 have hv:jf s.data.toList 1024=.tuple #[.string (bs X),.int .i64 K,.int .i64 0]:=by unfold jf;rw[hr];rfl
 have R:=aj (jC (ahW hr (by simpa using h4) hne));have R0:=aj (RB.new w 0 0 0 ⟨#[]⟩ ⟨#[]⟩ ⟨#[]⟩ 73);have B0:Hid (Below w.heap.size w (w.alloc (.cells #[.int .i64 0,.int .i64 0,.int .i64 0,.string ⟨#[]⟩,.string ⟨#[]⟩,.string ⟨#[]⟩] 73))):=aj ((Below.refl _ _).alloc (Nat.le_refl _) _);have HX:=aj hX;have HB:=aj (abj h4 hne);have i1:(0:Int)<=(K:Int):=by omega
 have i2:(K:Int)<=(K:Int)+4:=by omega
 have i3:(K:Int)+4<=(s.size:Int):=by omega
 clear hr;go_enter func215,ntmps215
 go_wp2_with fail
 refine(nT s 1024 _ hs).mono ?_;rintro e w1 ⟨rfl,b1⟩;rw[hv];have R1:=(ah R0).next b1;have B1:=aj (ak (ah B0) b1);have H1:=aj R1;clear R0 B0 b1 R1;go_wp2_with fail
 go_region_held3 (λ_=>True) (trivial)
  (first
   | (go_at_call 212;refine(sJ (bs X) _ (by rw[aO];have:=ah HX;omega)).mono ?_;rintro e w2 ⟨rfl,b2⟩;rw[dB]))
 rw[ah HB];have R2:=((ah H1).drew).next b2;have B2:=aj (ak (ah B1).drew b2);have H2:=aj R2;obtain⟨_,c0,c1,c2,c3,c4,c5,fr⟩:=R2;have f0:=fr 0;have f1:=fr 1;have f2:=fr 2;have f3:=fr 3;have f4:=fr 4;have f5:=fr 5;clear H1 B1 b2 fr;go_wp2_with fail
 refine bodyPost_ret (dF rfl rfl ((ah H2).fD _ _ _ _ _ _)) rfl ?_;exact⟨by rw[ah R];rfl,aV (ah B2) (Nat.le_refl _)⟩
theorem Uz (s:ByteArray)(X:List UInt8)(K:Nat)(w:World)(hs:s.size<=281474976710656)(hr:Pk.rt s.data.toList 1024=(X,K,0))(h4:K+4<=s.size)(hX:X.length<=1024)(he:(s.data.toList.drop K).take 4=Pk.le4 (Pk.crc X))(V:Value)
 (k q t:Int) (a b c:ByteArray) (hd:Pk.dec s.data.toList=(Pk.none',0,7)) (hV:V=.tuple #[.agg #[.int .i64 k,.int .i64 q,.int .i64 t,.string a,.string b,.string c],.bool false])
 (hc:∀W:World,Calls prog 236 #[.string (bs X)] W λe w'=>e=.returned V/\Below W.heap.size W w') :
 Calls prog 215 #[.string s] w λe w'=>e=.returned (vI s.data.toList)/\Below w.heap.size w w':=by
 subst hV;have hv:jf s.data.toList 1024=.tuple #[.string (bs X),.int .i64 K,.int .i64 0]:=by unfold jf;rw[hr];rfl
 have R:=aj (jC hd);have HB:=aj (Kz h4 he);have R0:=aj (RB.new w 0 0 0 ⟨#[]⟩ ⟨#[]⟩ ⟨#[]⟩ 73);have B0:Hid (Below w.heap.size w (w.alloc (.cells #[.int .i64 0,.int .i64 0,.int .i64 0,.string ⟨#[]⟩,.string ⟨#[]⟩,.string ⟨#[]⟩] 73))):=aj ((Below.refl _ _).alloc (Nat.le_refl _) _);have HX:=aj hX;have HC:=aj hc;have i1:(0:Int)<=(K:Int):=by omega
 have i2:(K:Int)<=(K:Int)+4:=by omega
 have i3:(K:Int)+4<=(s.size:Int):=by omega
 clear hr he hd hc;go_enter func215,ntmps215
 go_wp2_with fail
 refine(nT s 1024 _ hs).mono ?_;rintro e w1 ⟨rfl,b1⟩;rw[hv];have R1:=(ah R0).next b1;have B1:=aj (ak (ah B0) b1);have H1:=aj R1;clear R0 B0 b1 R1;go_wp2_with fail
 go_region_held3 (λ_=>True) (trivial)
  (first
   | (go_at_call 212;refine(sJ (bs X) _ (by rw[aO];have:=ah HX;omega)).mono ?_;rintro e w2 ⟨rfl,b2⟩;rw[dB]))
 rw[ah HB];have R2:=((ah H1).drew).next b2;have B2:=aj (ak (ah B1).drew b2);have H2:=aj R2;clear H1 B1 b2 R2;go_wp2_with fail
 refine(ah HC _).mono ?_;rintro e w3 ⟨rfl,b3⟩;have R3:=(ah H2).next b3;have B3:=aj (ak (ah B2) b3);have H3:=aj R3;obtain⟨hlt,c0,c1,c2,c3,c4,c5,fr⟩:=R3;have f0:=fr 0;have f1:=fr 1;have f2:=fr 2;have f3:=fr 3;have f4:=fr 4;have f5:=fr 5;clear H2 B2 b3 fr;go_wp2_with fail
 refine bodyPost_ret (dF rfl rfl (((ah H3).fD _ _ _ _ _ _).alloc _)) rfl ?_;exact⟨by rw[ah R];rfl,(aV (ah B3) (Nat.le_refl _)).alloc (by simp;omega) _⟩
theorem aeb (s:ByteArray)(X:List UInt8)(K:Nat)(w:World)(hs:s.size<=281474976710656)(hr:Pk.rt s.data.toList 1024=(X,K,0))(h4:K+4<=s.size)(hX:X.length<=1024)(he:(s.data.toList.drop K).take 4=Pk.le4 (Pk.crc X))(V:Value)
 (k q t:Int) (a b c:ByteArray) (hd:Pk.dec s.data.toList=(Pk.none',0,7)) (hV:V=.tuple #[.agg #[.int .i64 k,.int .i64 q,.int .i64 t,.string a,.string b,.string c],.bool true]) (hk:jP k q t a b c≠0) (ha:a.size<=1024) (hb:b.size<=1024) (hcz:c.size<=1024)
 (hc:∀W:World,Calls prog 236 #[.string (bs X)] W λe w'=>e=.returned V/\Below W.heap.size W w') :
 Calls prog 215 #[.string s] w λe w'=>e=.returned (vI s.data.toList)/\Below w.heap.size w w':=by
 subst hV;have hv:jf s.data.toList 1024=.tuple #[.string (bs X),.int .i64 K,.int .i64 0]:=by unfold jf;rw[hr];rfl
 have R:=aj (jC hd);have HB:=aj (Kz h4 he);have R0:=aj (RB.new w 0 0 0 ⟨#[]⟩ ⟨#[]⟩ ⟨#[]⟩ 73);have B0:Hid (Below w.heap.size w (w.alloc (.cells #[.int .i64 0,.int .i64 0,.int .i64 0,.string ⟨#[]⟩,.string ⟨#[]⟩,.string ⟨#[]⟩] 73))):=aj ((Below.refl _ _).alloc (Nat.le_refl _) _);have HX:=aj hX;have HC:=aj hc;obtain⟨C,hC⟩:∃C,jP k q t a b c=C:=⟨_,rfl⟩;rw[hC] at hk;have CK:Hid (∀W:World,Calls prog 174 #[.agg #[.int .i64 k,.int .i64 q,.int .i64 t,.string a,.string b,.string c]] W λe w'=>e=.returned (.int .i64 C)/\Below W.heap.size W w'):=aj (λW=>by rw[<-hC];exact check_any k q t a b c W (by omega) (by omega) (by omega))
 have hk':(C !=0)=true:=by simpa using hk
 have i1:(0:Int)<=(K:Int):=by omega
 have i2:(K:Int)<=(K:Int)+4:=by omega
 have i3:(K:Int)+4<=(s.size:Int):=by omega
 clear hr he hd hc hC hk;go_enter func215,ntmps215
 go_wp2_with fail
 refine(nT s 1024 _ hs).mono ?_;rintro e w1 ⟨rfl,b1⟩;rw[hv];have R1:=(ah R0).next b1;have B1:=aj (ak (ah B0) b1);have H1:=aj R1;clear R0 B0 b1 R1;go_wp2_with fail
 go_region_held3 (λ_=>True) (trivial)
  (first
   | (go_at_call 212;refine(sJ (bs X) _ (by rw[aO];have:=ah HX;omega)).mono ?_;rintro e w2 ⟨rfl,b2⟩;rw[dB]))
 rw[ah HB];have R2:=((ah H1).drew).next b2;have B2:=aj (ak (ah B1).drew b2);have H2:=aj R2;clear H1 B1 b2 R2;go_wp2_with fail
 refine(ah HC _).mono ?_;rintro e w3 ⟨rfl,b3⟩;have R3:=(ah H2).next b3;have B3:=aj (ak (ah B2) b3);have H3:=aj R3;clear H2 B2 b3 R3;go_wp2_with fail
 refine(ah CK _).mono ?_;rintro e w4 ⟨rfl,b4⟩;have R4:=((ah H3).alloc _).next b4;have B4:=aj (ak ((ah B3).alloc (Nat.le_of_lt (ah H3).lt) _) b4);have H4:=aj R4;obtain⟨hlt,c0,c1,c2,c3,c4,c5,fr⟩:=R4;have f0:=fr 0;have f1:=fr 1;have f2:=fr 2;have f3:=fr 3;have f4:=fr 4;have f5:=fr 5;clear H3 B3 b4 fr;go_wp2_with fail
 refine bodyPost_ret (dF rfl rfl ((ah H4).fD _ _ _ _ _ _)) rfl ?_;exact⟨by rw[ah R];rfl,aV (ah B4) (Nat.le_refl _)⟩
theorem aec (s:ByteArray)(X:List UInt8)(K:Nat)(w:World)(hs:s.size<=281474976710656)(hr:Pk.rt s.data.toList 1024=(X,K,0))(h4:K+4<=s.size)(hX:X.length<=1024)(he:(s.data.toList.drop K).take 4=Pk.le4 (Pk.crc X))(V:Value)
 (k q t:Int) (a b c:ByteArray) (hd:vI s.data.toList=.tuple #[.agg #[.int .i64 k,.int .i64 q,.int .i64 t,.string a,.string b,.string c],.int .i64 ((K:Int)+4),.int .i64 0]) (hV:V=.tuple #[.agg #[.int .i64 k,.int .i64 q,.int .i64 t,.string a,.string b,.string c],.bool true]) (hk:jP k q t a b c=0) (ha:a.size<=1024) (hb:b.size<=1024) (hcz:c.size<=1024)
 (hc:∀W:World,Calls prog 236 #[.string (bs X)] W λe w'=>e=.returned V/\Below W.heap.size W w') :
 Calls prog 215 #[.string s] w λe w'=>e=.returned (vI s.data.toList)/\Below w.heap.size w w':=by
 subst hV;have hv:jf s.data.toList 1024=.tuple #[.string (bs X),.int .i64 K,.int .i64 0]:=by unfold jf;rw[hr];rfl
 have R:=aj hd;have HB:=aj (Kz h4 he);have R0:=aj (RB.new w 0 0 0 ⟨#[]⟩ ⟨#[]⟩ ⟨#[]⟩ 73);have B0:Hid (Below w.heap.size w (w.alloc (.cells #[.int .i64 0,.int .i64 0,.int .i64 0,.string ⟨#[]⟩,.string ⟨#[]⟩,.string ⟨#[]⟩] 73))):=aj ((Below.refl _ _).alloc (Nat.le_refl _) _);have HX:=aj hX;have HC:=aj hc;have CK:Hid (∀W:World,Calls prog 174 #[.agg #[.int .i64 k,.int .i64 q,.int .i64 t,.string a,.string b,.string c]] W λe w'=>e=.returned (.int .i64 0)/\Below W.heap.size W w'):=aj (λW=>by rw[<-hk];exact check_any k q t a b c W (by omega) (by omega) (by omega));have i1:(0:Int)<=(K:Int):=by omega
 have i2:(K:Int)<=(K:Int)+4:=by omega
 have i3:(K:Int)+4<=(s.size:Int):=by omega
 clear hr he hd hc hk;go_enter func215,ntmps215
 go_wp2_with fail
 refine(nT s 1024 _ hs).mono ?_;rintro e w1 ⟨rfl,b1⟩;rw[hv];have R1:=(ah R0).next b1;have B1:=aj (ak (ah B0) b1);have H1:=aj R1;clear R0 B0 b1 R1;go_wp2_with fail
 go_region_held3 (λ_=>True) (trivial)
  (first
   | (go_at_call 212;refine(sJ (bs X) _ (by rw[aO];have:=ah HX;omega)).mono ?_;rintro e w2 ⟨rfl,b2⟩;rw[dB]))
 rw[ah HB];have R2:=((ah H1).drew).next b2;have B2:=aj (ak (ah B1).drew b2);have H2:=aj R2;clear H1 B1 b2 R2;go_wp2_with fail
 refine(ah HC _).mono ?_;rintro e w3 ⟨rfl,b3⟩;have R3:=(ah H2).next b3;have B3:=aj (ak (ah B2) b3);have H3:=aj R3;clear H2 B2 b3 R3;go_wp2_with fail
 refine(ah CK _).mono ?_;rintro e w4 ⟨rfl,b4⟩;have R4:=((ah H3).alloc _).next b4;have B4:=aj (ak ((ah B3).alloc (Nat.le_of_lt (ah H3).lt) _) b4);have H4:=aj R4;have G4:=aj ((RB.new w3 k q t a b c 73).next b4);obtain⟨hlt,c0,c1,c2,c3,c4,c5,fr⟩:=R4;have f0:=fr 0;have f1:=fr 1;have f2:=fr 2;have f3:=fr 3;have f4:=fr 4;have f5:=fr 5;obtain⟨_,d0,d1,d2,d3,d4,d5,_⟩:=ah G4;clear H3 B3 b4 fr G4;go_wp2_with fail
 refine bodyPost_ret (dF rfl rfl ((ah H4).fD _ _ _ _ _ _)) rfl ?_;exact⟨by rw[ah R];rfl,aV (ah B4) (Nat.le_refl _)⟩
theorem Zt {l X:List UInt8}{K:Nat}(hr:Pk.rt l 1024=(X,K,0)):K<=l.length/\X.length<=1024:=by
 have:=Pk.Jf hr;exact⟨this.2.1,by omega⟩
theorem yh (r0:List UInt8):(Pk.rt r0 1024).1.length<=1024:=by
 by_cases h:(Pk.rt r0 1024).2.2=0
 ·have:=(Pk.Jf (l:=r0) (most:=1024) (x:=(Pk.rt r0 1024).1) (n:=(Pk.rt r0 1024).2.1) (by rw[<-h])).2.2;omega
 ·rw[(ad5 h).1];simp
theorem ajs (c:Nat)(r0:List UInt8):(Pk.fB c r0).s.length<=1024:=by
 have e:(Pk.fB c r0).s=(Pk.rt (Pk.p2 r0) 1024).1:=by simp only[Pk.fB]
 rw[e];exact yh _
theorem ajt (c:Nat)(r0:List UInt8):(Pk.fB c r0).h.length<=1024:=by
 have e:(Pk.fB c r0).h=(Pk.rt (Pk.p3 r0) 1024).1:=by simp only[Pk.fB]
 rw[e];exact yh _
theorem aju (c:Nat)(r0:List UInt8):(Pk.fB c r0).d.length<=1024:=by
 have e:(Pk.fB c r0).d=(Pk.rt (Pk.p4 r0) 1024).1:=by simp only[Pk.fB]
 rw[e];exact yh _
theorem UA (r:Pk.Rec):jP r.k r.q r.t (bs r.s) (bs r.h) (bs r.d)=Pk.chk r:=by
 unfold jP;simp only[dB]
theorem decode_any (s:ByteArray)(w:World)(hs:s.size<=281474976710656) :
 Calls prog 215 #[.string s] w λe w'=>e=.returned (vI s.data.toList)/\Below w.heap.size w w':=by
 obtain⟨X,K,E,hr⟩:∃X K E,Pk.rt s.data.toList 1024=(X,K,E):=⟨_,_,_,rfl⟩;by_cases hE:E=0
 ·subst hE;obtain⟨hK,hX⟩:=Zt hr;rw[jF] at hK;by_cases h4:s.size<K+4
  ·exact ad9 s X K w hs hr hK h4
  have h4':¬s.data.toList.length<K+4:=by rw[jF];exact h4
  by_cases hsum:(s.data.toList.drop K).take 4=Pk.le4 (Pk.crc X)
  ·by_cases h0:X.length=0
   ·have hX0:X=[]:=List.length_eq_zero_iff.1 h0;exact Uz s X K w hs hr (by omega) hX hsum _ 0 0 0 ⟨#[]⟩ ⟨#[]⟩ ⟨#[]⟩ (Uy hr h4' hsum (.inl h0)) rfl (λW=>by rw[hX0];exact Xn W)
   ·have hb:∀W:World,Calls prog 236 #[.string (bs X)] W λe w'=>e=.returned (.tuple #[Si (Pk.fB (Pk.at' X 0) (X.drop 1)),.bool (Pk.okB (X.drop 1))])/\Below W.heap.size W w':=λW=>by
     have:=Xo (bs X) W (by rw[aO];omega) (by rw[aO];omega);rw[dB] at this;exact this
    have ho1:(Pk.fB (Pk.at' X 0) (X.drop 1)).s.length<=1024:=ajs _ _;have ho2:(Pk.fB (Pk.at' X 0) (X.drop 1)).h.length<=1024:=ajt _ _;have ho3:(Pk.fB (Pk.at' X 0) (X.drop 1)).d.length<=1024:=aju _ _;have hF:=λho hc=>jC (ahX hr h4' hsum h0 ho hc)
    have hD:=λhc=>Uy hr h4' hsum (.inr (.inr hc))
    have hD2:=λhc=>Uy hr h4' hsum (.inr (.inl hc))
    generalize Pk.fB (Pk.at' X 0) (X.drop 1)=r at hb ho1 ho2 ho3 hF hD;have hck:=UA r
    cases ho:Pk.okB (X.drop 1) with
    | false =>
     rw[ho] at hb;exact Uz s X K w hs hr (by omega) hX hsum _ r.k r.q r.t (bs r.s) (bs r.h) (bs r.d) (hD2 ho) rfl hb
    | true =>
     rw[ho] at hb;by_cases hc:Pk.chk r=0
     ·exact aec s X K w hs hr (by omega) hX hsum _ r.k r.q r.t (bs r.s) (bs r.h) (bs r.d) (hF ho hc) rfl (hck.trans hc) (by rw[aO];exact ho1) (by rw[aO];exact ho2) (by rw[aO];exact ho3) hb
     ·exact aeb s X K w hs hr (by omega) hX hsum _ r.k r.q r.t (bs r.s) (bs r.h) (bs r.d) (hD hc) rfl (λe=>hc (hck.symm.trans e)) (by rw[aO];exact ho1) (by rw[aO];exact ho2) (by rw[aO];exact ho3) hb
  ·exact aea s X K w hs hr (by omega) hX hsum
 ·exact ad8 s X K E w hs hr hE
end Go.Proofs.YtidekgipblnpkaaGreatDoor
