/- A part. -/
import Derived.Test.YtebofkkfbkodiaaGreatDoorQ18
import Derived.Test.YtebofkkfbkodiaaGreatDoorQ20
set_option maxRecDepth 100000
set_option maxHeartbeats 8000000
namespace Go.Proofs.YtebofkkfbkodiaaGreatDoor
open Go.RowKit Go.Proofs.Tryz
variable {X l:List UInt8}{K:Nat}{s:ad}
def Gi (l:List UInt8):Value:=.tuple #[Sz (Pk.dec l).1,aa (Pk.dec l).2.1,aa (Pk.dec l).2.2]
theorem rM {r:Pk.Rec}{n:Nat}{e:Int}(h:Pk.dec l=(r,n,e)):Gi l=.tuple #[Sz r,aa n,aa e]:=by unfold Gi;rw[h]
theorem ahD {E:Nat}(hr:Pk.rt l 1024=(X,K,E))(h:E≠0):Pk.dec l=(Pk.none',0,(E:Int)):=by
 unfold Pk.dec;rw[hr];simp only[];rw[if_pos h]
theorem ahE (hr:Pk.rt l 1024=(X,K,0))(h:l.length<K+4):Pk.dec l=(Pk.none',0,6):=by
 unfold Pk.dec;rw[hr];simp only[];rw[if_neg (by simp),if_pos h]
theorem ahF (hr:Pk.rt l 1024=(X,K,0))(h:¬l.length<K+4)(h2:(l.drop K).take 4≠Pk.le4 (Pk.crc X)):Pk.dec l=(Pk.none',0,7):=by
 unfold Pk.dec;rw[hr];simp only[];rw[if_neg (by simp),if_neg h,if_pos h2]
theorem ab8 (hr:Pk.rt l 1024=(X,K,0))(h:¬l.length<K+4)(h2:(l.drop K).take 4=Pk.le4 (Pk.crc X))(h3:X.length=0\/Pk.okB (X.drop 1)=false\/Pk.chk (Pk.gW (Pk.at' X 0) (X.drop 1))≠0):Pk.dec l=(Pk.none',0,7):=by
 unfold Pk.dec;rw[hr];simp only[];rw[if_neg (by simp),if_neg h,if_neg (by rw[h2];simp)];split
 ·rfl
 split
 ·rfl
 split
 ·rfl
 ·rename_i g1 g2 g3;rcases h3 with h3|h3|h3
  ·exact absurd h3 g1
  ·exact absurd h3 g2
  ·exact absurd h3 g3
theorem ahG (hr:Pk.rt l 1024=(X,K,0))(h:¬l.length<K+4)(h2:(l.drop K).take 4=Pk.le4 (Pk.crc X))(h3:X.length≠0)(h4:Pk.okB (X.drop 1)=true)(h5:Pk.chk (Pk.gW (Pk.at' X 0) (X.drop 1))=0) :
 Pk.dec l=(Pk.gW (Pk.at' X 0) (X.drop 1),K+4,0):=by
 unfold Pk.dec;rw[hr];simp only[];rw[if_neg (by simp),if_neg h,if_neg (by rw[h2];simp),if_neg h3,if_neg (by rw[h4];simp),if_neg (by rw[h5];simp)]
theorem WS (X:List UInt8):((s.extract K ((K:Int)+4).toNat).toList==(aG (Pk.le4 (Pk.crc X))).toList)=((s.data.toList.drop K).take 4==Pk.le4 (Pk.crc X)):=by
 rw[show((K:Int)+4).toNat=K+4 from by omega,Qd,akM,akM,dL,dL]
theorem YT (_:K+4<=s.size)(h:(s.data.toList.drop K).take 4≠Pk.le4 (Pk.crc X)):((s.extract K ((K:Int)+4).toNat).toList==(aG (Pk.le4 (Pk.crc X))).toList)=false:=by
 rw[WS,ajM];exact h
theorem Gj (_:K+4<=s.size)(h:(s.data.toList.drop K).take 4=Pk.le4 (Pk.crc X)):((s.extract K ((K:Int)+4).toNat).toList==(aG (Pk.le4 (Pk.crc X))).toList)=true:=by
 rw[WS,alx];exact h
theorem ab9 (s:ad)(X:List UInt8)(K E:Nat)(w:I)(hs:s.size<=281474976710656)(hr:Pk.rt s.data.toList 1024=(X,K,E))(hE:E≠0) :
 Calls prog 270 #[.string s] w λe w'=>e=.returned (Gi s.data.toList)/\ai w w':=by
 have hv:mG s.data.toList 1024=.tuple #[.string (aG X),aa K,aa E]:=by unfold mG;rw[hr]
 have R:=aj (rM (ahD hr hE));have R0:=aj (RB.new w 0 0 0 ⟨#[]⟩ ⟨#[]⟩ ⟨#[]⟩ 46);have B0:Hid (ai w (w.alloc (.cells #[aa 0,aa 0,aa 0,.string ⟨#[]⟩,.string ⟨#[]⟩,.string ⟨#[]⟩] 46))):=aj (ax _ _);have hE':((E:Int) !=0)=true:=by simp[hE]
 have hE2:¬((E:Int)=0):=by omega
 clear hr hE;go_enter func270,ntmps270;go_wp2_with fail;refine(lM s 1024 _ hs).mono ?_;rintro e w1 ⟨rfl,b1⟩;rw[hv];have R1:=(ah R0).next b1;have B1:=aj (ak (ah B0) b1);have H1:=aj R1;obtain⟨_,c0,c1,c2,c3,c4,c5,fr⟩:=R1;have f0:=fr 0;have f1:=fr 1;have f2:=fr 2;have f3:=fr 3;have f4:=fr 4;have f5:=fr 5;clear R0 B0 b1 fr;go_wp2_with fail;refine ajY (jr rfl rfl ((ah H1).gG _ _ _ _ _ _)) rfl ?_;exact⟨by rw[ah R];rfl,eY (ah B1) (agH _)⟩
theorem acd (s:ad)(X:List UInt8)(K:Nat)(w:I)(hs:s.size<=281474976710656)(hr:Pk.rt s.data.toList 1024=(X,K,0))(hK:K<=s.size)(h4:s.size<K+4) :
 Calls prog 270 #[.string s] w λe w'=>e=.returned (Gi s.data.toList)/\ai w w':=by
 have hv:mG s.data.toList 1024=.tuple #[.string (aG X),aa K,aa 0]:=by unfold mG;rw[hr];rfl
 have R:=aj (rM (ahE hr (by simpa using h4)));have R0:=aj (RB.new w 0 0 0 ⟨#[]⟩ ⟨#[]⟩ ⟨#[]⟩ 46);have B0:Hid (ai w (w.alloc (.cells #[aa 0,aa 0,aa 0,.string ⟨#[]⟩,.string ⟨#[]⟩,.string ⟨#[]⟩] 46))):=aj (ax _ _);clear hr;go_enter func270,ntmps270;go_wp2_with fail;refine(lM s 1024 _ hs).mono ?_;rintro e w1 ⟨rfl,b1⟩;rw[hv];have R1:=(ah R0).next b1;have B1:=aj (ak (ah B0) b1);have H1:=aj R1;obtain⟨_,c0,c1,c2,c3,c4,c5,fr⟩:=R1;have f0:=fr 0;have f1:=fr 1;have f2:=fr 2;have f3:=fr 3;have f4:=fr 4
 have f5:=fr 5;clear R0 B0 b1 fr;go_wp2_with fail;refine ajY (jr rfl rfl ((ah H1).gG _ _ _ _ _ _)) rfl ?_;exact⟨by rw[ah R];rfl,eY (ah B1) (agH _)⟩
theorem ace (s:ad)(X:List UInt8)(K:Nat)(w:I)(hs:s.size<=281474976710656)(hr:Pk.rt s.data.toList 1024=(X,K,0))(h4:K+4<=s.size)(hX:X.length<=1024)(hne:(s.data.toList.drop K).take 4≠Pk.le4 (Pk.crc X)) :
 Calls prog 270 #[.string s] w λe w'=>e=.returned (Gi s.data.toList)/\ai w w':=by
 have hv:mG s.data.toList 1024=.tuple #[.string (aG X),aa K,aa 0]:=by unfold mG;rw[hr];rfl
 have R:=aj (rM (ahF hr (by simpa using h4) hne));have R0:=aj (RB.new w 0 0 0 ⟨#[]⟩ ⟨#[]⟩ ⟨#[]⟩ 46);have B0:Hid (ai w (w.alloc (.cells #[aa 0,aa 0,aa 0,.string ⟨#[]⟩,.string ⟨#[]⟩,.string ⟨#[]⟩] 46))):=aj (ax _ _);have HX:=aj hX;have HB:=aj (YT h4 hne);have i1:(0:Int)<=(K:Int):=by omega
 have i2:(K:Int)<=(K:Int)+4:=by omega
 have i3:(K:Int)+4<=(s.size:Int):=by omega
 clear hr;go_enter func270,ntmps270;go_wp2_with fail;refine(lM s 1024 _ hs).mono ?_;rintro e w1 ⟨rfl,b1⟩;rw[hv];have R1:=(ah R0).next b1;have B1:=aj (ak (ah B0) b1);have H1:=aj R1;clear R0 B0 b1 R1;go_wp2_with fail;go_region_held3 (λ_=>True) (trivial)
  (first
   | (go_at_call 231;refine(qG (aG X) _ (by rw[aU];have:=ah HX;omega)).mono ?_;rintro e w2 ⟨rfl,b2⟩;rw[dL]))
 rw[ah HB];have R2:=((ah H1).drew).next b2;have B2:=aj (ak (ah B1).drew b2);have H2:=aj R2;obtain⟨_,c0,c1,c2,c3,c4,c5,fr⟩:=R2;have f0:=fr 0;have f1:=fr 1;have f2:=fr 2;have f3:=fr 3;have f4:=fr 4;have f5:=fr 5;clear H1 B1 b2 fr;go_wp2_with fail;refine ajY (jr rfl rfl ((ah H2).gG _ _ _ _ _ _)) rfl ?_;exact⟨by rw[ah R];rfl,eY (ah B2) (agH _)⟩
theorem QD (s:ad)(X:List UInt8)(K:Nat)(w:I)(hs:s.size<=281474976710656)(hr:Pk.rt s.data.toList 1024=(X,K,0))(h4:K+4<=s.size)(hX:X.length<=1024)(he:(s.data.toList.drop K).take 4=Pk.le4 (Pk.crc X))(V:Value)
 (k q t:Int) (a b c:ad) (hd:Pk.dec s.data.toList=(Pk.none',0,7)) (hV:V=.tuple #[.agg #[aa k,aa q,aa t,.string a,.string b,.string c],.bool false])
 (hc:∀W:I,Calls prog 289 #[.string (aG X)] W λe w'=>e=.returned V/\ai W w') :
 Calls prog 270 #[.string s] w λe w'=>e=.returned (Gi s.data.toList)/\ai w w':=by
 subst hV;have hv:mG s.data.toList 1024=.tuple #[.string (aG X),aa K,aa 0]:=by unfold mG;rw[hr];rfl
 have R:=aj (rM hd);have HB:=aj (Gj h4 he);have R0:=aj (RB.new w 0 0 0 ⟨#[]⟩ ⟨#[]⟩ ⟨#[]⟩ 46);have B0:Hid (ai w (w.alloc (.cells #[aa 0,aa 0,aa 0,.string ⟨#[]⟩,.string ⟨#[]⟩,.string ⟨#[]⟩] 46))):=aj (ax _ _);have HX:=aj hX;have HC:=aj hc;have i1:(0:Int)<=(K:Int):=by omega
 have i2:(K:Int)<=(K:Int)+4:=by omega
 have i3:(K:Int)+4<=(s.size:Int):=by omega
 clear hr he hd hc;go_enter func270,ntmps270;go_wp2_with fail;refine(lM s 1024 _ hs).mono ?_;rintro e w1 ⟨rfl,b1⟩;rw[hv];have R1:=(ah R0).next b1;have B1:=aj (ak (ah B0) b1);have H1:=aj R1;clear R0 B0 b1 R1;go_wp2_with fail;go_region_held3 (λ_=>True) (trivial)
  (first
   | (go_at_call 231;refine(qG (aG X) _ (by rw[aU];have:=ah HX;omega)).mono ?_;rintro e w2 ⟨rfl,b2⟩;rw[dL]))
 rw[ah HB];have R2:=((ah H1).drew).next b2;have B2:=aj (ak (ah B1).drew b2);have H2:=aj R2;clear H1 B1 b2 R2;go_wp2_with fail;refine(ah HC _).mono ?_;rintro e w3 ⟨rfl,b3⟩;have R3:=(ah H2).next b3;have B3:=aj (ak (ah B2) b3);have H3:=aj R3;obtain⟨hlt,c0,c1,c2,c3,c4,c5,fr⟩:=R3;have f0:=fr 0;have f1:=fr 1;have f2:=fr 2;have f3:=fr 3;have f4:=fr 4;have f5:=fr 5;clear H2 B2 b3 fr;go_wp2_with fail;refine ajY (jr rfl rfl (((ah H3).gG _ _ _ _ _ _).alloc _)) rfl ?_;exact⟨by rw[ah R];rfl,(eY (ah B3) (agH _)).alloc (by simp;omega) _⟩
theorem acf (s:ad)(X:List UInt8)(K:Nat)(w:I)(hs:s.size<=281474976710656)(hr:Pk.rt s.data.toList 1024=(X,K,0))(h4:K+4<=s.size)(hX:X.length<=1024)(he:(s.data.toList.drop K).take 4=Pk.le4 (Pk.crc X))(V:Value)
 (k q t:Int) (a b c:ad) (hd:Pk.dec s.data.toList=(Pk.none',0,7)) (hV:V=.tuple #[.agg #[aa k,aa q,aa t,.string a,.string b,.string c],.bool true]) (hk:mX k q t a b c≠0) (ha:a.size<=1024) (hb:b.size<=1024) (hcz:c.size<=1024)
 (hc:∀W:I,Calls prog 289 #[.string (aG X)] W λe w'=>e=.returned V/\ai W w') :
 Calls prog 270 #[.string s] w λe w'=>e=.returned (Gi s.data.toList)/\ai w w':=by
 subst hV;have hv:mG s.data.toList 1024=.tuple #[.string (aG X),aa K,aa 0]:=by unfold mG;rw[hr];rfl
 have R:=aj (rM hd);have HB:=aj (Gj h4 he);have R0:=aj (RB.new w 0 0 0 ⟨#[]⟩ ⟨#[]⟩ ⟨#[]⟩ 46);have B0:Hid (ai w (w.alloc (.cells #[aa 0,aa 0,aa 0,.string ⟨#[]⟩,.string ⟨#[]⟩,.string ⟨#[]⟩] 46))):=aj (ax _ _);have HX:=aj hX;have HC:=aj hc;obtain⟨C,hC⟩:∃C,mX k q t a b c=C:=⟨_,rfl⟩;rw[hC] at hk;have CK:Hid (∀W:I,Calls prog 184 #[.agg #[aa k,aa q,aa t,.string a,.string b,.string c]] W λe w'=>e=.returned (aa C)/\ai W w'):=aj (λW=>by rw[<-hC];exact check_any k q t a b c W (by omega) (by omega) (by omega))
 have hk':(C !=0)=true:=by simpa using hk
 have i1:(0:Int)<=(K:Int):=by omega
 have i2:(K:Int)<=(K:Int)+4:=by omega
 have i3:(K:Int)+4<=(s.size:Int):=by omega
 clear hr he hd hc hC hk;go_enter func270,ntmps270;go_wp2_with fail;refine(lM s 1024 _ hs).mono ?_;rintro e w1 ⟨rfl,b1⟩;rw[hv];have R1:=(ah R0).next b1;have B1:=aj (ak (ah B0) b1);have H1:=aj R1;clear R0 B0 b1 R1;go_wp2_with fail;go_region_held3 (λ_=>True) (trivial)
  (first
   | (go_at_call 231;refine(qG (aG X) _ (by rw[aU];have:=ah HX;omega)).mono ?_;rintro e w2 ⟨rfl,b2⟩;rw[dL]))
 rw[ah HB];have R2:=((ah H1).drew).next b2;have B2:=aj (ak (ah B1).drew b2);have H2:=aj R2;clear H1 B1 b2 R2;go_wp2_with fail;refine(ah HC _).mono ?_;rintro e w3 ⟨rfl,b3⟩;have R3:=(ah H2).next b3;have B3:=aj (ak (ah B2) b3);have H3:=aj R3;clear H2 B2 b3 R3;go_wp2_with fail;refine(ah CK _).mono ?_;rintro e w4 ⟨rfl,b4⟩;have R4:=((ah H3).alloc _).next b4;have B4:=aj (ak ((ah B3).alloc (amx (ah H3).lt) _) b4);have H4:=aj R4;obtain⟨hlt,c0,c1,c2,c3,c4,c5,fr⟩:=R4;have f0:=fr 0;have f1:=fr 1;have f2:=fr 2;have f3:=fr 3;have f4:=fr 4;have f5:=fr 5
 clear H3 B3 b4 fr;go_wp2_with fail;refine ajY (jr rfl rfl ((ah H4).gG _ _ _ _ _ _)) rfl ?_;exact⟨by rw[ah R];rfl,eY (ah B4) (agH _)⟩
theorem acg (s:ad)(X:List UInt8)(K:Nat)(w:I)(hs:s.size<=281474976710656)(hr:Pk.rt s.data.toList 1024=(X,K,0))(h4:K+4<=s.size)(hX:X.length<=1024)(he:(s.data.toList.drop K).take 4=Pk.le4 (Pk.crc X))(V:Value)
 (k q t:Int) (a b c:ad) (hd:Gi s.data.toList=.tuple #[.agg #[aa k,aa q,aa t,.string a,.string b,.string c],aa ((K:Int)+4),aa 0]) (hV:V=.tuple #[.agg #[aa k,aa q,aa t,.string a,.string b,.string c],.bool true]) (hk:mX k q t a b c=0) (ha:a.size<=1024) (hb:b.size<=1024) (hcz:c.size<=1024)
 (hc:∀W:I,Calls prog 289 #[.string (aG X)] W λe w'=>e=.returned V/\ai W w') :
 Calls prog 270 #[.string s] w λe w'=>e=.returned (Gi s.data.toList)/\ai w w':=by
 subst hV;have hv:mG s.data.toList 1024=.tuple #[.string (aG X),aa K,aa 0]:=by unfold mG;rw[hr];rfl
 have R:=aj hd;have HB:=aj (Gj h4 he);have R0:=aj (RB.new w 0 0 0 ⟨#[]⟩ ⟨#[]⟩ ⟨#[]⟩ 46);have B0:Hid (ai w (w.alloc (.cells #[aa 0,aa 0,aa 0,.string ⟨#[]⟩,.string ⟨#[]⟩,.string ⟨#[]⟩] 46))):=aj (ax _ _);have HX:=aj hX;have HC:=aj hc;have CK:Hid (∀W:I,Calls prog 184 #[.agg #[aa k,aa q,aa t,.string a,.string b,.string c]] W λe w'=>e=.returned (aa 0)/\ai W w'):=aj (λW=>by rw[<-hk];exact check_any k q t a b c W (by omega) (by omega) (by omega));have i1:(0:Int)<=(K:Int):=by omega
 have i2:(K:Int)<=(K:Int)+4:=by omega
 have i3:(K:Int)+4<=(s.size:Int):=by omega
 clear hr he hd hc hk;go_enter func270,ntmps270;go_wp2_with fail;refine(lM s 1024 _ hs).mono ?_;rintro e w1 ⟨rfl,b1⟩;rw[hv];have R1:=(ah R0).next b1;have B1:=aj (ak (ah B0) b1);have H1:=aj R1;clear R0 B0 b1 R1;go_wp2_with fail;go_region_held3 (λ_=>True) (trivial)
  (first
   | (go_at_call 231;refine(qG (aG X) _ (by rw[aU];have:=ah HX;omega)).mono ?_;rintro e w2 ⟨rfl,b2⟩;rw[dL]))
 rw[ah HB];have R2:=((ah H1).drew).next b2;have B2:=aj (ak (ah B1).drew b2);have H2:=aj R2;clear H1 B1 b2 R2;go_wp2_with fail;refine(ah HC _).mono ?_;rintro e w3 ⟨rfl,b3⟩;have R3:=(ah H2).next b3;have B3:=aj (ak (ah B2) b3);have H3:=aj R3;clear H2 B2 b3 R3;go_wp2_with fail;refine(ah CK _).mono ?_;rintro e w4 ⟨rfl,b4⟩;have R4:=((ah H3).alloc _).next b4;have B4:=aj (ak ((ah B3).alloc (amx (ah H3).lt) _) b4);have H4:=aj R4;have G4:=aj ((RB.new w3 k q t a b c 46).next b4);obtain⟨hlt,c0,c1,c2,c3,c4,c5,fr⟩:=R4;have f0:=fr 0;have f1:=fr 1
 have f2:=fr 2;have f3:=fr 3;have f4:=fr 4;have f5:=fr 5;obtain⟨_,d0,d1,d2,d3,d4,d5,_⟩:=ah G4;clear H3 B3 b4 fr G4;go_wp2_with fail;refine ajY (jr rfl rfl ((ah H4).gG _ _ _ _ _ _)) rfl ?_;exact⟨by rw[ah R];rfl,eY (ah B4) (agH _)⟩
theorem ae7 (hr:Pk.rt l 1024=(X,K,0)):K<=l.length/\X.length<=1024:=by
 have:=Pk.Ep hr;exact⟨this.2.1,by omega⟩
theorem MB (r0:List UInt8):(Pk.rt r0 1024).1.length<=1024:=by
 by_cases h:(Pk.rt r0 1024).2.2=0
 ·have:=(Pk.Ep (l:=r0) (most:=1024) (x:=(Pk.rt r0 1024).1) (n:=(Pk.rt r0 1024).2.1) (by rw[<-h])).2.2;omega
 ·rw[(abK h).1];simp
theorem ahH (c:Nat)(r0:List UInt8):(Pk.gW c r0).s.length<=1024:=by
 have e:(Pk.gW c r0).s=(Pk.rt (Pk.p2 r0) 1024).1:=by simp only[Pk.gW]
 rw[e];exact MB _
theorem ahI (c:Nat)(r0:List UInt8):(Pk.gW c r0).h.length<=1024:=by
 have e:(Pk.gW c r0).h=(Pk.rt (Pk.p3 r0) 1024).1:=by simp only[Pk.gW]
 rw[e];exact MB _
theorem ahJ (c:Nat)(r0:List UInt8):(Pk.gW c r0).d.length<=1024:=by
 have e:(Pk.gW c r0).d=(Pk.rt (Pk.p4 r0) 1024).1:=by simp only[Pk.gW]
 rw[e];exact MB _
theorem ach (r:Pk.Rec):mX r.k r.q r.t (aG r.s) (aG r.h) (aG r.d)=Pk.chk r:=by
 unfold mX;simp only[dL]
theorem decode_any (s:ad)(w:I)(hs:s.size<=281474976710656) :
 Calls prog 270 #[.string s] w λe w'=>e=.returned (Gi s.data.toList)/\ai w w':=by
 obtain⟨X,K,E,hr⟩:∃X K E,Pk.rt s.data.toList 1024=(X,K,E):=⟨_,_,_,rfl⟩;by_cases hE:E=0
 ·subst hE;obtain⟨hK,hX⟩:=ae7 hr;rw[oI] at hK;by_cases h4:s.size<K+4
  ·exact acd s X K w hs hr hK h4
  have h4':¬s.data.toList.length<K+4:=by rw[oI];exact h4
  by_cases hsum:(s.data.toList.drop K).take 4=Pk.le4 (Pk.crc X)
  ·by_cases h0:X.length=0
   ·have hX0:X=[]:=ajZ.1 h0;exact QD s X K w hs hr (by omega) hX hsum _ 0 0 0 ⟨#[]⟩ ⟨#[]⟩ ⟨#[]⟩ (ab8 hr h4' hsum (.inl h0)) rfl (λW=>by rw[hX0];exact Ug W)
   ·have hb:∀W:I,Calls prog 289 #[.string (aG X)] W λe w'=>e=.returned (.tuple #[Sz (Pk.gW (Pk.at' X 0) (X.drop 1)),.bool (Pk.okB (X.drop 1))])/\ai W w':=λW=>by
     have:=Uh (aG X) W (by rw[aU];omega) (by rw[aU];omega);rw[dL] at this;exact this
    have ho1:(Pk.gW (Pk.at' X 0) (X.drop 1)).s.length<=1024:=ahH _ _;have ho2:(Pk.gW (Pk.at' X 0) (X.drop 1)).h.length<=1024:=ahI _ _;have ho3:(Pk.gW (Pk.at' X 0) (X.drop 1)).d.length<=1024:=ahJ _ _;have hF:=λho hc=>rM (ahG hr h4' hsum h0 ho hc)
    have hD:=λhc=>ab8 hr h4' hsum (.inr (.inr hc))
    have hD2:=λhc=>ab8 hr h4' hsum (.inr (.inl hc))
    generalize Pk.gW (Pk.at' X 0) (X.drop 1)=r at hb ho1 ho2 ho3 hF hD;have hck:=ach r
    cases ho:Pk.okB (X.drop 1) with
    | false =>
     rw[ho] at hb;exact QD s X K w hs hr (by omega) hX hsum _ r.k r.q r.t (aG r.s) (aG r.h) (aG r.d) (hD2 ho) rfl hb
    | true =>
     rw[ho] at hb;by_cases hc:Pk.chk r=0
     ·exact acg s X K w hs hr (by omega) hX hsum _ r.k r.q r.t (aG r.s) (aG r.h) (aG r.d) (hF ho hc) rfl (hck.trans hc) (by rw[aU];exact ho1) (by rw[aU];exact ho2) (by rw[aU];exact ho3) hb
     ·exact acf s X K w hs hr (by omega) hX hsum _ r.k r.q r.t (aG r.s) (aG r.h) (aG r.d) (hD hc) rfl (λe=>hc (hck.symm.trans e)) (by rw[aU];exact ho1) (by rw[aU];exact ho2) (by rw[aU];exact ho3) hb
  ·exact ace s X K w hs hr (by omega) hX hsum
 ·exact ab9 s X K E w hs hr hE
