/- A part. -/
import Derived.Test.YtidekgipblnpkaaGreatDoorQ15
set_option maxRecDepth 100000
set_option maxHeartbeats 8000000
namespace Go.Proofs.YtidekgipblnpkaaGreatDoor
open Go.RowKit Go.Proofs.Tryz
theorem SQ (w:World)(n:Nat)(h:n<256) :
 (convert 189 9 (.slice (some ⟨w.heap.size,0,none⟩) 1 1)).run prog (w.alloc (.cells #[.int .u8 (n:Int)] 5))=.ok (.string (aF [UInt8.ofNat n])) (w.alloc (.cells #[.int .u8 (n:Int)] 5)):=by
 refine akF _ 189 9 5 ⟨w.heap.size,0,none⟩ 1 [UInt8.ofNat n] underlying189 underlying5 underlying9 λj hj=>?_
 have:=ou w (.int .u8 (n:Int)) 5 j (.int .u8 (n:Int)) (by
  have:j=0:=by simpa using hj
  subst this;rfl)
 rw[this];have hj0:j=0:=by simpa using hj
 subst hj0;simp only[amf];rw[Pk.lD h]
theorem afB (N:Nat)(W:World)(a:Addr)(h:W.cell? a=some (.int .u8 (IntKind.u8.wrap (IntKind.i64.wrap (128+(N:Int).tmod 128))))) :
 (convert 189 9 (.slice (some a) 1 1)).run prog W=.ok (.string (aF [UInt8.ofNat (gb N)])) W:=by
 refine akF _ 189 9 5 a 1 [UInt8.ofNat (gb N)] underlying189 underlying5 underlying9 λj hj=>?_
 have hj0:j=0:=by simpa using hj
 subst hj0;simp only[amf];rw[Pk.lD (abL N),show a.add 0=a from by simp[Addr.add],h,Int.tmod_eq_emod_of_nonneg (by omega),IntWalk.i64_in _ ⟨by omega,by omega⟩,IntWalk.u8_in _ ⟨by omega,by omega⟩];unfold gb;simp
theorem OX {N:Nat}(h:¬N<128):aF (Pk.enc N)=aF [UInt8.ofNat (gb N)]++aF (Pk.enc (N / 128)):=by
 rw[Pk.jU h,zL,aV];rfl
theorem SS (n:Int)(w:World)(hn:n<0) :
 Calls prog 147 #[.int .i64 n] w λe w'=>e=.returned (.string (aF (Pk.enc 0)))/\Below w.heap.size w w':=by
 have hcv:=aj (SQ w 0 (by decide));go_enter func147,ntmps147;go_wp2_with fail;rw[show max n 0=((0:Nat):Int) from by omega,ah hcv];go_wp2_with fail;go_ret;exact⟨by rw[Pk.gV (by decide)];rfl,(ajb _ _).alloc (Xc _) _⟩
theorem Gm (N:Nat):∀(w:World),N<9223372036854775808 ->
 Calls prog 147 #[.int .i64 N] w λe w'=>e=.returned (.string (aF (Pk.enc N)))/\Below w.heap.size w w':=by
 induction N using Nat.strongRecOn with
 | _ N ih =>
  intro w hN;by_cases h:N<128
  ·have hcv:=aj (SQ w N (by omega));clear ih;go_enter func147,ntmps147;go_wp2_with fail;rw[ah hcv];go_wp2_with fail;go_ret;exact⟨by rw[Pk.gV (by omega)];rfl,(ajb _ _).alloc (Xc _) _⟩
  ·have ih2:Hid (∀w:World,Calls prog 147 #[.int .i64 (IntKind.i64.wrap ((N:Int) / 128))] w λe w'=>e=.returned (.string (aF (Pk.enc (N / 128))))/\Below w.heap.size w w'):=aj (λw=>by
    rw[IntWalk.i64_in _ ⟨by omega,by omega⟩];exact ih (N / 128) (by omega) w (by omega))
   clear ih;have hcv:=afB N;have hsum:¬9223372036854775807<(aF [UInt8.ofNat (gb N)]).size+(aF (Pk.enc (N / 128))).size:=by
    rw[aK,aK];have:=Pk.jF (n:=N / 128) (by omega);simp;omega
   go_enter func147,ntmps147;go_wp2_with fail;go_region_with (go_at_call 147;refine(ah ih2 _).mono ?_;rintro e w1 ⟨rfl,b1⟩;have hc1:=λh=>b1.cell (p:=⟨w.heap.size,0,none⟩) h)
   all_goals go_wp2_with fail
   all_goals go_ret
   ·exact⟨by rw[OX (N:=N) (by omega)];rfl,((ajb _ _).alloc (Xc _) _).drew.trans (b1.mono (by simp))⟩
   ·exact⟨by rw[OX (N:=N) (by omega)];rfl,((ajb _ _).alloc (Xc _) _).drew.trans (b1.mono (by simp))⟩
   ·exact⟨by rw[OX (N:=N) (by omega)];rfl,(Below.trans (ajb _ _).drew b1).alloc b1.size _⟩
theorem Gn (n:Int)(w:World)(hn:n<9223372036854775808) :
 Calls prog 147 #[.int .i64 n] w λe w'=>e=.returned (.string (aF (Pk.enc n.toNat)))/\Below w.heap.size w w':=by
 by_cases h:n<0
 ·rw[show n.toNat=0 from by omega];exact SS n w h
 ·obtain⟨N,rfl⟩:=alD (show 0<=n by omega);exact Gm N w (by omega)
theorem xO (s:ByteArray)(w:World)(hs:s.size<=1000000000000000000) :
 Calls prog 148 #[.string s] w λe w'=>e=.returned (.string (aF (Pk.kJ s.data.toList)))/\Below w.heap.size w w':=by
 have hc:¬9223372036854775807<(aF (Pk.enc s.size)).size+s.size:=by
  rw[aK];have:=Pk.jF (n:=s.size) (by omega);omega
 have he:=aj (zL (Pk.enc s.size) s);go_enter func148,ntmps148;go_wp2_with fail;refine(Gm s.size _ (by omega)).mono ?_;rintro e w1 ⟨rfl,b1⟩;go_wp2_with fail;go_ret;refine⟨?_,b1⟩;rw[ah he];unfold Pk.kJ;simp
theorem gZ (s:ByteArray)(most:Int)(w:World)(hs:s.size<=281474976710656) :
 Calls prog 199 #[.string s,.int .i64 most] w λe w'=>e=.returned (iH s.data.toList most)/\Below w.heap.size w w':=by
 obtain⟨N,K,E,hr⟩:∃N K E,Pk.rd s.data.toList=(N,K,E):=⟨_,_,_,rfl⟩;have hv:IQ s.data.toList=.tuple #[.int .i64 N,.int .i64 K,.int .i64 E]:=by unfold IQ;rw[hr]
 by_cases hE:E=0
 ·subst hE;have hg:=Pk.yY (l:=s.data.toList) (by rw[hr]);rw[hr] at hg;obtain⟨-,hK,hN,-,hK9⟩:=hg;simp only[] at hK hN hK9;have hK':K<=s.size:=by simpa using hK
  clear hK;by_cases h1:most<N
  ·have R:=aj (Sv hr h1);clear hr;go_enter func199,ntmps199;go_wp2_with fail;refine(jK s _ (by omega)).mono ?_;rintro e w1 ⟨rfl,rfl⟩;rw[hv];go_wp2_with fail;go_ret3;exact⟨nT (ah R) rfl,ajb _ _⟩
  ·by_cases h2:s.size<K+N
   ·have R:=aj (Yh hr h1 (by simpa using h2));clear hr;go_enter func199,ntmps199;go_wp2_with fail;refine(jK s _ (by omega)).mono ?_;rintro e w1 ⟨rfl,rfl⟩;rw[hv];go_wp2_with fail;go_ret3;exact⟨nT (ah R) rfl,ajb _ _⟩
   ·have R:=aj (Yi hr h1 (by simpa using h2));have hx:=aj (Ji s K N);clear hr;go_enter func199,ntmps199;go_wp2_with fail;refine(jK s _ (by omega)).mono ?_;rintro e w1 ⟨rfl,rfl⟩;rw[hv];go_wp2_with fail;go_ret3;exact⟨nT (ah R) (by rw[<-ah hx];rfl),ajb _ _⟩
 ·have R:=aj (acL (most:=most) hr hE);have hE':((E:Int) !=0)=true:=by simp[hE]
  have hE2:¬((E:Int)=0):=by omega
  clear hr hE;go_enter func199,ntmps199;go_wp2_with fail;refine(jK s _ (by omega)).mono ?_;rintro e w1 ⟨rfl,rfl⟩;rw[hv];go_wp2_with fail;go_ret3;exact⟨nT (ah R) rfl,ajb _ _⟩
