/- A part. -/
import Derived.Test.YtidekgipblnpkaaGreatDoorQ6
import Derived.Test.YtidekgipblnpkaaGreatDoorQ12
set_option maxRecDepth 100000
set_option maxHeartbeats 8000000
namespace Go.Proofs.YtidekgipblnpkaaGreatDoor
open Go.RowKit Go.Proofs.Tryz
def iH (l:List UInt8)(most:Int):Value:=.tuple #[.string (aF (Pk.rt l most).1),.int .i64 (Pk.rt l most).2.1,.int .i64 (Pk.rt l most).2.2]
theorem nT {l:List UInt8}{most:Int}{r:List UInt8×Nat×Nat}{v:Value}(h:Pk.rt l most=r)(hv:v=.tuple #[.string (aF r.1),.int .i64 r.2.1,.int .i64 r.2.2]):Ending.returned v=.returned (iH l most):=by
 unfold iH;rw[h,hv]
theorem acL {l:List UInt8}{most:Int}{N K E:Nat}(h:Pk.rd l=(N,K,E))(hE:E≠0):Pk.rt l most=([],0,E):=by
 unfold Pk.rt;rw[h];simp only[];rw[if_pos hE]
theorem Sv {l:List UInt8}{most:Int}{N K:Nat}(h:Pk.rd l=(N,K,0))(h1:most<N):Pk.rt l most=([],0,7):=by
 unfold Pk.rt;rw[h];simp only[];rw[if_neg (by simp),if_pos h1]
theorem Yh {l:List UInt8}{most:Int}{N K:Nat}(h:Pk.rd l=(N,K,0))(h1:¬most<N)(h2:l.length<K+N):Pk.rt l most=([],0,6):=by
 unfold Pk.rt;rw[h];simp only[];rw[if_neg (by simp),if_neg h1,if_pos h2]
theorem Yi {l:List UInt8}{most:Int}{N K:Nat}(h:Pk.rd l=(N,K,0))(h1:¬most<N)(h2:¬l.length<K+N):Pk.rt l most=((l.drop K).take N,K+N,0):=by
 unfold Pk.rt;rw[h];simp only[];rw[if_neg (by simp),if_neg h1,if_neg h2]
theorem Ji (s:ByteArray)(a n:Nat):s.extract a (a+n)=aF ((s.data.toList.drop a).take n):=by
 apply akQ;apply amx.1;simp[aF,List.extract_eq_take_drop]
theorem ng (s:ByteArray)(most:Int)(w:World)(hs:s.size<=281474976710656) :
 Calls prog 235 #[.string s,.int .i64 most] w λe w'=>e=.returned (iH s.data.toList most)/\Below w.heap.size w w':=by
 obtain⟨N,K,E,hr⟩:∃N K E,Pk.rd s.data.toList=(N,K,E):=⟨_,_,_,rfl⟩;have hv:IQ s.data.toList=.tuple #[.int .i64 N,.int .i64 K,.int .i64 E]:=by unfold IQ;rw[hr]
 by_cases hE:E=0
 ·subst hE;have hg:=Pk.yY (l:=s.data.toList) (by rw[hr]);rw[hr] at hg;obtain⟨-,hK,hN,-,hK9⟩:=hg;simp only[] at hK hN hK9;have hK':K<=s.size:=by simpa using hK
  clear hK;by_cases h1:most<N
  ·have R:=aj (Sv hr h1);clear hr;go_enter func235,ntmps235;go_wp2_with fail;refine(rF s _ (by omega)).mono ?_;rintro e w1 ⟨rfl,rfl⟩;rw[hv];go_wp2_with fail;go_ret3;exact⟨nT (ah R) rfl,ajb _ _⟩
  ·by_cases h2:s.size<K+N
   ·have R:=aj (Yh hr h1 (by simpa using h2));clear hr;go_enter func235,ntmps235;go_wp2_with fail;refine(rF s _ (by omega)).mono ?_;rintro e w1 ⟨rfl,rfl⟩;rw[hv];go_wp2_with fail;go_ret3;exact⟨nT (ah R) rfl,ajb _ _⟩
   ·have R:=aj (Yi hr h1 (by simpa using h2));have hx:=aj (Ji s K N);clear hr;go_enter func235,ntmps235;go_wp2_with fail;refine(rF s _ (by omega)).mono ?_;rintro e w1 ⟨rfl,rfl⟩;rw[hv];go_wp2_with fail;refine(mW _ _ (by rw[ah hx,aK];simp;omega)).mono ?_;rintro e w2 ⟨rfl,b2⟩;go_wp2_with fail;go_ret3;exact⟨nT (ah R) (by rw[<-ah hx];rfl),b2⟩
 ·have R:=aj (acL (most:=most) hr hE);have hE':((E:Int) !=0)=true:=by simp[hE]
  have hE2:¬((E:Int)=0):=by omega
  clear hr hE;go_enter func235,ntmps235;go_wp2_with fail;refine(rF s _ (by omega)).mono ?_;rintro e w1 ⟨rfl,rfl⟩;rw[hv];go_wp2_with fail;go_ret3;exact⟨nT (ah R) rfl,ajb _ _⟩
