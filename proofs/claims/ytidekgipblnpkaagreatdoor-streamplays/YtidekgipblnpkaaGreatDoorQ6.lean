/- A part. -/
import Derived.Test.YtidekgipblnpkaaGreatDoorQ0
set_option maxRecDepth 100000
set_option maxHeartbeats 8000000
namespace Go.Proofs.YtidekgipblnpkaaGreatDoor
open Go.RowKit Go.Proofs.Tryz
theorem byte_at (s:ByteArray){k:Nat}(h:k<s.size):s[k].toNat=Pk.at' s.data.toList k:=by
 rw[Pk.agR (by simpa using h)];rfl
def rg (l:List UInt8)(k m:Nat):Nat:=Pk.yZ (Pk.qX l) (8*k+m) ^^^ (Pk.at' l k / 2 ^ m)
theorem ahD (l:List UInt8)(k m:Nat):rg l k m<4294967296 :=
 amG (n:=32) (Pk.yF (Pk.zf l) _) (Nat.lt_of_le_of_lt (Nat.div_le_self _ _) (by have:=Pk.qW l k;omega))
theorem aeX (l:List UInt8)(k:Nat):rg l k 0=Pk.yZ (Pk.qX l) (8*k) ^^^ Pk.at' l k:=by unfold rg;simp
theorem abD (l:List UInt8)(k:Nat):rg l k 8=Pk.yZ (Pk.qX l) (8*(k+1)):=by
 unfold rg;rw[Nat.div_eq_of_lt (by have:=Pk.qW l k;omega),alR];rfl
theorem aeY (l:List UInt8){k m:Nat}(hm:m<8):rg l k (m+1)=Pk.Z (rg l k m):=by
 unfold rg;rw[<-amj,Pk.yZ,Pk.qX,show(8*k+m) / 8=k from by omega,show(8*k+m) % 8=m from by omega];have hz:∀x,Pk.Z x=Pk.Z (x % 2) ^^^ (x / 2):=by
  intro x;unfold Pk.Z;have:x % 2 / 2=0:=by omega
  rw[this,Nat.zero_xor,Nat.mod_mod,Nat.xor_comm]
 rw[Pk.Qx,Pk.Qx _ (Pk.at' l k / 2 ^ m),hz (Pk.at' l k / 2 ^ m),amM,<-Nat.div_div_eq_div_mul];ac_rfl
theorem agt {r:Nat}(h:r % 2=1):Pk.Z r=r / 2 ^^^ 3988292384:=by unfold Pk.Z;rw[if_pos h]
theorem abE {r:Nat}(h:r % 2=0):Pk.Z r=r / 2:=by unfold Pk.Z;rw[if_neg (by omega),alR]
theorem abG {r:Nat}(h:r<4294967296):r ^^^ 4294967295=4294967295-r:=by
 apply Nat.eq_of_testBit_eq;intro i;have h1:=Nat.testBit_two_pow_sub_succ (n:=32) h i;have e:2 ^ 32-(r+1)=4294967295-r:=by omega
 rw[e] at h1;rw[h1,Nat.testBit_xor,show(4294967295:Nat)=2 ^ 32-1 from rfl,Nat.testBit_two_pow_sub_one];by_cases hi:i<32
 ·simp[hi]
 ·have:r.testBit i=false:=Nat.testBit_lt_two_pow (ajc h (show 2 ^ 32<=2 ^ i from alQ (by decide) (by omega)));simp[hi,this]
theorem and_one (r:Nat)(h:r<4294967296):bits .and .u32 (r:Int) 1=((r % 2:Nat):Int):=by
 rw[show(1:Int)=((1:Nat):Int) from rfl,u32_and_nat _ _ h (by decide),nat_mask1]
theorem QN (r:Nat)(h:r<4294967296):bits .xor .u32 ((r:Int) / 2) 3988292384=((r / 2 ^^^ 3988292384:Nat):Int):=by
 rw[show(3988292384:Int)=((3988292384:Nat):Int) from rfl,show(r:Int) / 2=((r / 2:Nat):Int) from by omega,u32_xor_nat _ _ (by omega) (by decide)]
theorem abH (r:Nat)(h:r<4294967296):bits .xor .u32 (r:Int) 4294967295=((4294967295-r:Nat):Int):=by
 rw[show(4294967295:Int)=((4294967295:Nat):Int) from rfl,u32_xor_nat _ _ h (by decide),abG h]
theorem aeZ (s:ByteArray)(w:World)(hs:s.size<=1000000000000000000) :
 Calls prog 231 #[.string s] w λe w'=>e=.returned (.int .u32 (Pk.vM s.data.toList))/\w'=w:=by
 go_enter func231,ntmps231;go_wp2_with fail;go_loop [3,8] (λr i=>∃k:Nat,k<=s.size/\i=.int .i64 k/\r=.int .u32 ((Pk.yZ (Pk.qX s.data.toList) (8*k):Nat):Int)) (λ_ i=>s.size-(intOf i).toNat)
 case atStart=>exact⟨0,ajm _,rfl,rfl⟩
 case round =>
  obtain⟨k,hk,rfl,rfl⟩:=hrel;by_cases hlt:k<s.size
  ·have hx:bits .xor .u32 ((Pk.yZ (Pk.qX s.data.toList) (8*k):Nat):Int) ((s[k].toNat:Int) % 4294967296)=((rg s.data.toList k 0:Nat):Int):=by
    have:=Pk.qW s.data.toList k;rw[byte_at s hlt,show((Pk.at' s.data.toList k:Int)) % 4294967296=(Pk.at' s.data.toList k:Int) from by omega,u32_xor_nat _ _ (Pk.yF (Pk.zf _) _) (by omega),aeX]
   have Hx:=aj hx;clear hx;go_wp2_with fail;simp only[ah Hx];go_loop [3,17] (λr j=>∃m:Nat,m<=8/\j=.int .i64 m/\r=.int .u32 ((rg s.data.toList k m:Nat):Int)) (λ_ j=>8-(intOf j).toNat)
   case atStart=>exact⟨0,by omega,rfl,rfl⟩
   case round =>
    obtain⟨m,hm,rfl,rfl⟩:=hrel;have hl:=ahD s.data.toList k m;by_cases hm8:m<8
    ·have hn:=aeY s.data.toList (k:=k) hm8;have e1:=and_one _ hl;have e2:=QN _ hl;rcases Nat.mod_two_eq_zero_or_one (rg s.data.toList k m) with ho|ho
     ·rw[abE ho] at hn;rw[ho] at e1;have Hn:=aj hn;clear hn ho e2;go_wp2_with fail;go_round
      case rel=>exact⟨m+1,by omega,by go_num,by rw[ah Hn];simp⟩
      case measure=>simp[intOf];omega
     ·rw[agt ho] at hn;rw[ho] at e1;rw[<-hn] at e2;clear hn ho;go_wp2_with fail;go_round
      case rel=>exact⟨m+1,by omega,by go_num,rfl⟩
      case measure=>simp[intOf];omega
    ·obtain rfl:m=8:=by omega
     have h8:=aj (abD s.data.toList k);go_wp2_with fail;go_round
     case rel=>exact⟨k+1,by omega,by go_num,by rw[ah h8]⟩
     case measure=>simp[intOf];omega
  ·obtain rfl:k=s.size:=by omega
   have hx:=abH _ (Pk.yF (Pk.zf s.data.toList) (8*s.size));have Hx:=aj hx;clear hx;go_wp2_with fail;go_ret;refine⟨fK ?_,rfl⟩;rw[ah Hx,Pk.vM];simp
def IQ (l:List UInt8):Value:=.tuple #[.int .i64 (Pk.rd l).1,.int .i64 (Pk.rd l).2.1,.int .i64 (Pk.rd l).2.2]
def grp (l:List UInt8)(k:Nat):Nat:=Pk.at' l k % 128
theorem U6 (l:List UInt8)(k:Nat):grp l k<128:=anm _ (by decide)
theorem abI {l:List UInt8}{k:Nat}(_:Pk.at' l k<128)(hz:((grp l k:Int)==0)=false):Pk.at' l k≠0:=by
 have:=WalkArith.int_ne hz;unfold grp at this;omega
theorem abJ {l:List UInt8}{k:Nat}(h:Pk.at' l k<128)(hz:((grp l k:Int)==0)=true):Pk.at' l k=0:=by
 have:=WalkArith.int_eq hz;unfold grp at this;omega
theorem XQ (s:ByteArray){k:Nat}(h:k<s.size):bits .and .u8 (s[k].toNat:Int) 127=((grp s.data.toList k:Nat):Int):=by
 have hb:=Pk.qW s.data.toList k;rw[byte_at s h,show(127:Int)=((127:Nat):Int) from rfl,u8_and_nat _ _ hb (by decide),nat_mask7];rfl
theorem QO (s:ByteArray){k:Nat}(h:k<s.size):bits .and .u8 (s[k].toNat:Int) 128=((Pk.at' s.data.toList k / 128*128:Nat):Int):=by
 have hb:=Pk.qW s.data.toList k;rw[byte_at s h,show(128:Int)=((128:Nat):Int) from rfl,u8_and_nat _ _ hb (by decide),show(128:Nat)=2 ^ 7 from rfl,nat_bit];have:Pk.at' s.data.toList k / 2 ^ 7 % 2=Pk.at' s.data.toList k / 2 ^ 7:=by omega
 rw[this]
theorem Oh (n:Int)(h₀:0<=n)(h₁:n<2 ^ 63):IntKind.i64.wrap n=n:=by rw[ajq];omega
theorem XR (l:List UInt8){k:Nat}(hk:k<9):bits .or .i64 ((Pk.val l 0 k:Nat):Int) (wrap64 ((grp l k:Int)*2 ^ (k*7)))=((Pk.val l 0 (k+1):Nat):Int):=by
 have hv:=Pk.NS l k 0;have hg:=U6 l k;have e7:(128:Nat) ^ k=2 ^ (k*7):=by rw[show(128:Nat)=2 ^ 7 from rfl,<-Nat.pow_mul,Nat.mul_comm]
 have hp:(2:Nat) ^ (k*7)<=2 ^ 56:=alQ (by decide) (by omega);have hm:grp l k*2 ^ (k*7)<=127*2 ^ 56:=Nat.mul_le_mul (by omega) hp;have hc:((grp l k:Int)*2 ^ (k*7))=((grp l k*2 ^ (k*7):Nat):Int):=by simp
 rw[hc,alE _ ⟨by omega,by omega⟩];rw[e7] at hv;rw[(bits_nat .i64 63 (by decide) Oh _ _ (by omega) (by omega)).2,Pk.val_last,e7,ajv];congr 1
 rw[Nat.or_comm,Nat.mul_comm,<-Nat.two_pow_add_eq_or_of_lt hv,Nat.add_comm];rfl
theorem jw {l:List UInt8}{r:Nat×Nat×Nat}{v:Value}(h:Pk.rd l=r)(hv:v=.tuple #[.int .i64 r.1,.int .i64 r.2.1,.int .i64 r.2.2]):Ending.returned v=.returned (IQ l):=by
 unfold IQ;rw[h,hv]
theorem rd_val {s:ByteArray}{k:Nat}(h1:k<s.size)(h2:k<9)(h3:∀j,j<k->128<=Pk.at' s.data.toList j)(h4:Pk.at' s.data.toList k<128)(h5:k=0\/Pk.at' s.data.toList k≠0) :
 Pk.rd s.data.toList=(Pk.val s.data.toList 0 (k+1),k+1,0):=by
 have e:Pk.lead s.data.toList 9=k:=Pk.wY (by omega) (by simp;omega) h3 (.inr (.inr h4));unfold Pk.rd;rw[e,if_neg (by omega),if_neg (by simp;omega),if_neg (by omega)]
theorem Oi {s:ByteArray}{k:Nat}(h1:k<s.size)(h2:k<9)(h3:∀j,j<k->128<=Pk.at' s.data.toList j)(h4:Pk.at' s.data.toList k<128)(h5:0<k)(h6:Pk.at' s.data.toList k=0) :
 Pk.rd s.data.toList=(0,0,7):=by
 have e:Pk.lead s.data.toList 9=k:=Pk.wY (by omega) (by simp;omega) h3 (.inr (.inr h4));unfold Pk.rd;rw[e,if_neg (by omega),if_neg (by simp;omega),if_pos ⟨h5,h6⟩]
theorem Oj {l:List UInt8}(h1:9<=l.length)(h3:∀j,j<9->128<=Pk.at' l j):Pk.rd l=(0,0,7):=by
 have e:Pk.lead l 9=9:=Pk.wY (by omega) (by omega) h3 (.inl rfl);unfold Pk.rd;rw[e,if_pos rfl]
theorem XT {l:List UInt8}(h1:l.length<9)(h3:∀j,j<l.length->128<=Pk.at' l j):Pk.rd l=(0,0,6):=by
 have e:Pk.lead l 9=l.length:=Pk.wY (by omega) (by omega) h3 (.inr (.inl rfl));unfold Pk.rd;rw[e,if_neg (by omega),if_pos rfl]
theorem rF (s:ByteArray)(w:World)(hs:s.size<=1000000000000000000) :
 Calls prog 253 #[.string s] w λe w'=>e=.returned (IQ s.data.toList)/\w'=w:=by
 by_cases h9:9<s.size
 ·go_enter func253,ntmps253;go_wp2_with fail;go_loop [5,11] (λn i=>∃k:Nat,k<=9/\i=.int .i64 k/\n=.int .i64 ((Pk.val s.data.toList 0 k:Nat):Int)/\Hid (∀j,j<k->128<=Pk.at' s.data.toList j)) (λ_ i=>9-(intOf i).toNat)
  case atStart=>exact⟨0,ajm _,rfl,rfl,aj (λj h=>absurd h (ajG j))⟩
  case round =>
   obtain⟨k,hk,rfl,rfl,hq⟩:=hrel;by_cases hlt:k<9
   ·have hks:k<s.size:=by omega
    have hgl:=U6 s.data.toList k;have g1:=XQ s hks;have g2:=QO s hks;have g3:=XR s.data.toList (k:=k) (by omega);by_cases hc:Pk.at' s.data.toList k<128
    ·rw[show Pk.at' s.data.toList k / 128=0 from by omega] at g2;have Hc:=aj hc;clear hc
     cases hz:((grp s.data.toList k:Int)==0) with
     | false =>
      have R:=aj (rd_val hks (by omega) (ah hq) (ah Hc) (.inr (abI (ah Hc) hz)));go_wp2_with fail;go_ret3;exact⟨jw (ah R) rfl,rfl⟩
     | true =>
      by_cases hk0:0<k
      ·have R:=aj (Oi hks (by omega) (ah hq) (ah Hc) hk0 (abJ (ah Hc) hz));go_wp2_with fail;go_ret3;exact⟨jw (ah R) rfl,rfl⟩
      ·have R:=aj (rd_val hks (by omega) (ah hq) (ah Hc) (.inl (by omega)));go_wp2_with fail;go_ret3;exact⟨jw (ah R) rfl,rfl⟩
    ·rw[show Pk.at' s.data.toList k / 128=1 from by have:=Pk.qW s.data.toList k;omega] at g2;have Hc:=aj hc;clear hc;go_wp2_with fail;go_round
     case rel=>exact⟨k+1,by omega,by go_num,rfl,aj (λj h=>by
      rcases ajR.1 h with h|h
      ·exact ah hq j h
      ·subst h;have:=ah Hc;omega)⟩
     case measure=>simp[intOf];omega
   ·have R:=aj (Oj (l:=s.data.toList) (by simp;omega) (λj hj=>ah hq j (by omega)));go_wp2_with fail;go_ret3;exact⟨jw (ah R) rfl,rfl⟩
 ·go_enter func253,ntmps253;go_wp2_with fail;go_loop [5,11] (λn i=>∃k:Nat,k<=s.size/\i=.int .i64 k/\n=.int .i64 ((Pk.val s.data.toList 0 k:Nat):Int)/\Hid (∀j,j<k->128<=Pk.at' s.data.toList j)) (λ_ i=>s.size-(intOf i).toNat)
  case atStart=>exact⟨0,ajm _,rfl,rfl,aj (λj h=>absurd h (ajG j))⟩
  case round =>
   obtain⟨k,hk,rfl,rfl,hq⟩:=hrel;by_cases hlt:k<s.size
   ·have hks:k<s.size:=by omega
    have hgl:=U6 s.data.toList k;have g1:=XQ s hks;have g2:=QO s hks;have g3:=XR s.data.toList (k:=k) (by omega);by_cases hc:Pk.at' s.data.toList k<128
    ·rw[show Pk.at' s.data.toList k / 128=0 from by omega] at g2;have Hc:=aj hc;clear hc
     cases hz:((grp s.data.toList k:Int)==0) with
     | false =>
      have R:=aj (rd_val hks (by omega) (ah hq) (ah Hc) (.inr (abI (ah Hc) hz)));go_wp2_with fail;go_ret3;exact⟨jw (ah R) rfl,rfl⟩
     | true =>
      by_cases hk0:0<k
      ·have R:=aj (Oi hks (by omega) (ah hq) (ah Hc) hk0 (abJ (ah Hc) hz));go_wp2_with fail;go_ret3;exact⟨jw (ah R) rfl,rfl⟩
      ·have R:=aj (rd_val hks (by omega) (ah hq) (ah Hc) (.inl (by omega)));go_wp2_with fail;go_ret3;exact⟨jw (ah R) rfl,rfl⟩
    ·rw[show Pk.at' s.data.toList k / 128=1 from by have:=Pk.qW s.data.toList k;omega] at g2;have Hc:=aj hc;clear hc;go_wp2_with fail;go_round
     case rel=>exact⟨k+1,by omega,by go_num,rfl,aj (λj h=>by
      rcases ajR.1 h with h|h
      ·exact ah hq j h
      ·subst h;have:=ah Hc;omega)⟩
     case measure=>simp[intOf];omega
   ·by_cases h8:s.size=9
    ·have R:=aj (Oj (l:=s.data.toList) (by simp;omega) (λj hj=>ah hq j (by omega)));have h8':9<=s.size:=by omega
     clear h8;go_wp2_with fail;go_ret3;exact⟨jw (ah R) rfl,rfl⟩
    ·have R:=aj (XT (l:=s.data.toList) (by simp;omega) (λj hj=>ah hq j (by simp at hj;omega)));have h8':s.size<9:=by omega
     clear h8;go_wp2_with fail;go_ret3;exact⟨jw (ah R) rfl,rfl⟩
def Bts (w:World)(B:Nat)(v:Value)(l:List UInt8):Prop:=w.ownsRow B 5 1 v l.length (l.map λb=>Value.int .u8 b.toNat)
theorem XU:(prog.info? 5).map (λi=>(i.zero,i.size,i.bytes))=some (some (.int .u8 0),1,1):=by kernel_rfl
theorem one_byte (n:Int):∀u∈[Value.int .u8 n],u.oneCell'=true:=by
 intro u hu;simp at hu;subst hu;rfl
def abK (w0 w:World)(v:Value)(N m:Nat)(l:List UInt8):Prop:=Bts w w0.heap.size v l/\Below w0.heap.size w0 w/\l++Pk.enc m=Pk.enc N
theorem Lm {w0 w:World}{v:Value}{N m:Nat}{l:List UInt8}(h:abK w0 w v N m l)(hN:N<9223372036854775808):l.length<9:=by
 have:=Pk.jF hN;rw[<-h.2.2,ajh] at this;have:=Pk.oz m;omega
theorem zK {w0 wr w1:World}{v v':Value}{l:List UInt8}{b:UInt8}{n:Int}{o:Obj}(hn:n=b.toNat)(hown:Bts wr w0.heap.size v l)(hb:Below w0.heap.size w0 wr)
 (h1:w1.ownsRow w0.heap.size 5 1 v' (l.length+1) ((l.map λb=>Value.int .u8 b.toNat)++[.int .u8 n])) (hg:(wr.alloc o).grownBy w1 v.ownBlock) :
 Bts w1 w0.heap.size v' (l++[b])/\Below w0.heap.size w0 w1:=by
 refine⟨?_,?_⟩
 ·unfold Bts;rw[aki,akt,alS,ajh,<-hn];exact h1
 ·have hs:=hb.size;refine(hb.alloc (by omega) o).grown hg (by simp;omega) ?_;intro j hj;exact(ajz hown j hj).1
def gb (m:Nat):Nat:=128+m % 128
theorem abL (m:Nat):gb m<256:=by unfold gb;omega
theorem QS {m:Nat}(h:m<9223372036854775808):bits .or .i64 (bits .and .i64 (m:Int) 127) 128=((gb m:Nat):Int):=by
 have e1:bits .and .i64 (m:Int) 127=((m % 128:Nat):Int):=by
  rw[show(127:Int)=((127:Nat):Int) from rfl,(bits_nat .i64 63 (by decide) Oh m 127 (by omega) (by omega)).1,nat_mask7]
 rw[e1,show(128:Int)=((128:Nat):Int) from rfl,(bits_nat .i64 63 (by decide) Oh (m % 128) 128 (by omega) (by omega)).2];congr 1
 have:=Nat.two_pow_add_eq_or_of_lt (i:=7) (b:=m % 128) (by omega) 1;rw[show 2 ^ 7*1=128 from rfl] at this;rw[Nat.or_comm];exact this.symm
theorem QT {w:World}{B g cap:Nat}{l:List UInt8}(h:Bts w B (.slice (some ⟨g,0,none⟩) l.length cap) l) :
 (convert 189 9 (.slice (some ⟨g,0,none⟩) l.length cap)).run prog w=.ok (.string (aF l)) w:=by
 refine akF w 189 9 5 ⟨g,0,none⟩ cap l underlying189 underlying5 underlying9 λj hj=>?_
 have:=ajH h j (by omega);rw[UH,ajv,this];simp[List.getElem?_eq_getElem hj]
theorem IU (N:Nat)(w:World)(hN:N<9223372036854775808) :
 Calls prog 230 #[.int .i64 N] w λe w'=>e=.returned (.string (aF (Pk.enc N)))/\Below w.heap.size w w':=by
 obtain⟨i0,hi,hz0,hz1,hz2⟩:=akJ XU;go_enter func230,ntmps230;go_wp2_with fail;go_loopw [3,4] (λr p wr=>∃(m:Nat) (l:List UInt8),m<=N/\r=.int .i64 m/\abK w wr p N m l) (λr _ _=>(intOf r).toNat)
 case atStart=>exact⟨N,[],Xc _,by simp,akW _ _ _ _,ajb _ _,rfl⟩
 case round =>
  obtain⟨m,l,hm,rfl,hp⟩:=hrel;have hlen:=Lm hp hN;obtain⟨hown,hb,he⟩:=hp;have hown2:wr.ownsRow w.heap.size 5 1 u4 l.length (l.map λb=>Value.int .u8 b.toNat):=hown;have hsz:=hb.size;have HE:=aj he;clear he;by_cases hlt:127<m
  ·have hl:=QS (m:=m) (by omega);have hg:=abL m;go_wp2_with (at_builtin;refine alT _ rfl _ _ 189 rfl w.heap.size 5 i0 (.int .u8 0) 1 1 underlying189 hi hz0 hz1 hz2 rfl (by decide) _ _ _ rfl (hown2.alloc _) ⟨wr.heap.size,0,none⟩ 1 1 [.int .u8 ((gb m:Nat):Int)] rfl rfl (ou _ _ _) (one_byte _) (by unfold maxLen;omega) (by omega) (by simp;omega) ?_;intro v' w3 hown1 hgrow _);have R:=zK (b:=UInt8.ofNat (gb m)) (by rw[Pk.lD hg]) hown hb hown1 hgrow;clear hown hown2 hown1 hgrow hb;go_round
   case rel=>exact⟨m / 128,l++[UInt8.ofNat (gb m)],by omega,by simp,R.1,R.2,by rw[ajW,amn,<-ah HE,Pk.jU (n:=m) (by omega)];rfl⟩
   case measure=>simp[intOf];omega
  ·go_wp2_with (at_builtin;refine alT _ rfl _ _ 189 rfl w.heap.size 5 i0 (.int .u8 0) 1 1 underlying189 hi hz0 hz1 hz2 rfl (by decide) _ _ _ rfl (hown2.alloc _) ⟨wr.heap.size,0,none⟩ 1 1 [.int .u8 (m:Int)] rfl rfl (ou _ _ _) (one_byte _) (by unfold maxLen;omega) (by omega) (by simp;omega) ?_;intro v' w3 hown1 hgrow _);have R:=zK (b:=UInt8.ofNat m) (by rw[Pk.lD (by omega)]) hown hb hown1 hgrow;obtain⟨g,cap,rfl⟩:=yS hown1;have hcv:=QT (l:=l++[UInt8.ofNat m]) (by rw[ajh];exact R.1);rw[ajh,akX] at hcv;have R2:=R.2
   clear hown hown2 hown1 hgrow hb R;rw[hcv];go_wp2_with fail;go_ret;refine⟨?_,R2⟩;rw[<-ah HE,Pk.gV (n:=m) (by omega)];rfl
theorem U7 (n:Int)(N:Nat)(w:World)(hN0:N=0)(hn:n<0) :
 Calls prog 230 #[.int .i64 n] w λe w'=>e=.returned (.string (aF (Pk.enc N)))/\Below w.heap.size w w':=by
 obtain⟨i0,hi,hz0,hz1,hz2⟩:=akJ XU;have hN:N<9223372036854775808:=by omega
 have HN:=aj hN0;clear hN0;go_enter func230,ntmps230;go_wp2_with fail;go_loopw [3,4] (λr p wr=>∃(m:Nat) (l:List UInt8),m<=N/\r=.int .i64 m/\abK w wr p N m l) (λr _ _=>(intOf r).toNat)
 case atStart=>exact⟨N,[],Xc _,by rw[ah HN];rfl,akW _ _ _ _,ajb _ _,rfl⟩
 case round =>
  obtain⟨m,l,hm,rfl,hp⟩:=hrel;have hlen:=Lm hp hN;obtain⟨hown,hb,he⟩:=hp;have hown2:wr.ownsRow w.heap.size 5 1 u4 l.length (l.map λb=>Value.int .u8 b.toNat):=hown;have hsz:=hb.size;have HE:=aj he;clear he;by_cases hlt:127<m
  ·have hl:=QS (m:=m) (by omega);have hg:=abL m;go_wp2_with (at_builtin;refine alT _ rfl _ _ 189 rfl w.heap.size 5 i0 (.int .u8 0) 1 1 underlying189 hi hz0 hz1 hz2 rfl (by decide) _ _ _ rfl (hown2.alloc _) ⟨wr.heap.size,0,none⟩ 1 1 [.int .u8 ((gb m:Nat):Int)] rfl rfl (ou _ _ _) (one_byte _) (by unfold maxLen;omega) (by omega) (by simp;omega) ?_;intro v' w3 hown1 hgrow _);have R:=zK (b:=UInt8.ofNat (gb m)) (by rw[Pk.lD hg]) hown hb hown1 hgrow;clear hown hown2 hown1 hgrow hb;go_round
   case rel=>exact⟨m / 128,l++[UInt8.ofNat (gb m)],by omega,by simp,R.1,R.2,by rw[ajW,amn,<-ah HE,Pk.jU (n:=m) (by omega)];rfl⟩
   case measure=>simp[intOf];omega
  ·go_wp2_with (at_builtin;refine alT _ rfl _ _ 189 rfl w.heap.size 5 i0 (.int .u8 0) 1 1 underlying189 hi hz0 hz1 hz2 rfl (by decide) _ _ _ rfl (hown2.alloc _) ⟨wr.heap.size,0,none⟩ 1 1 [.int .u8 (m:Int)] rfl rfl (ou _ _ _) (one_byte _) (by unfold maxLen;omega) (by omega) (by simp;omega) ?_;intro v' w3 hown1 hgrow _);have R:=zK (b:=UInt8.ofNat m) (by rw[Pk.lD (by omega)]) hown hb hown1 hgrow;obtain⟨g,cap,rfl⟩:=yS hown1;have hcv:=QT (l:=l++[UInt8.ofNat m]) (by rw[ajh];exact R.1);rw[ajh,akX] at hcv;have R2:=R.2
   clear hown hown2 hown1 hgrow hb R;rw[hcv];go_wp2_with fail;go_ret;refine⟨?_,R2⟩;rw[<-ah HE,Pk.gV (n:=m) (by omega)];rfl
theorem IV (n:Int)(w:World)(hn:n<9223372036854775808) :
 Calls prog 230 #[.int .i64 n] w λe w'=>e=.returned (.string (aF (Pk.enc n.toNat)))/\Below w.heap.size w w':=by
 by_cases h:n<0
 ·exact U7 n n.toNat w (by omega) h
 ·obtain⟨N,rfl⟩:=alD (show 0<=n by omega);exact IU N w (by omega)
theorem zL (l:List UInt8)(s:ByteArray):aF l++s=aF (l++s.data.toList):=by
 apply akQ;simp[aF,ByteArray.data_append]
theorem zM (s:ByteArray)(w:World)(hs:s.size<=1000000000000000000) :
 Calls prog 211 #[.string s] w λe w'=>e=.returned (.string (aF (Pk.kJ s.data.toList)))/\Below w.heap.size w w':=by
 have hc:¬9223372036854775807<(aF (Pk.enc s.size)).size+s.size:=by
  rw[aK];have:=Pk.jF (n:=s.size) (by omega);omega
 have he:=aj (zL (Pk.enc s.size) s);go_enter func211,ntmps211;go_wp2_with fail;refine(IU s.size _ (by omega)).mono ?_;rintro e w1 ⟨rfl,b1⟩;go_wp2_with fail;go_ret;refine⟨?_,b1⟩;rw[ah he];unfold Pk.kJ;simp
def rr (l:List UInt8)(k m:Nat):Nat:=Pk.yZ (Pk.qX l) (8*k+m)
theorem agu (l:List UInt8)(k m:Nat):rr l k m<4294967296:=Pk.yF (Pk.zf l) _
theorem abM (l:List UInt8)(k:Nat):rr l k 8=rr l (k+1) 0:=rfl
def tb (l:List UInt8)(k m:Nat):Nat:=Pk.at' l k / 2 ^ m % 2
theorem ae0 {l:List UInt8}{k m:Nat}(hm:m<8)(h:rr l k m % 2=tb l k m):rr l k (m+1)=rr l k m / 2:=by
 unfold rr tb at *;rw[<-amj,Pk.yZ,Pk.qX,show(8*k+m) / 8=k from by omega,show(8*k+m) % 8=m from by omega,<-h];rw[abE,Pk.Ij]
 ·simp
 ·rw[Pk.NT];omega
theorem abN {l:List UInt8}{k m:Nat}(hm:m<8)(h:rr l k m % 2≠tb l k m):rr l k (m+1)=rr l k m / 2 ^^^ 3988292384:=by
 unfold rr tb at *;rw[<-amj,Pk.yZ,Pk.qX,show(8*k+m) / 8=k from by omega,show(8*k+m) % 8=m from by omega];rw[agt,Pk.Ij]
 ·have:Pk.at' l k / 2 ^ m % 2 / 2=0:=by omega
  rw[this,alR]
 ·rw[Pk.NT];omega
theorem ae1 (s:ByteArray){k:Nat}(h:k<s.size)(m:Nat):bits .and .u32 ((s[k].toNat:Int) % 4294967296 / 2 ^ m) 1=((tb s.data.toList k m:Nat):Int):=by
 have hb:=Pk.qW s.data.toList k;have e:((s[k].toNat:Int) % 4294967296 / 2 ^ m)=((Pk.at' s.data.toList k / 2 ^ m:Nat):Int):=by
  rw[byte_at s h,show((Pk.at' s.data.toList k:Int)) % 4294967296=(Pk.at' s.data.toList k:Int) from by omega];simp
 rw[e,and_one _ (Nat.lt_of_le_of_lt (Nat.div_le_self _ _) (by omega))];rfl
theorem zN (s:ByteArray)(w:World)(hs:s.size<=1000000000000000000) :
 Calls prog 149 #[.string s] w λe w'=>e=.returned (.int .u32 (Pk.vM s.data.toList))/\w'=w:=by
 go_enter func149,ntmps149;go_wp2_with fail;go_loop [3,4] (λr i=>∃k:Nat,k<=s.size/\i=.int .i64 k/\r=.int .u32 ((rr s.data.toList k 0:Nat):Int)) (λ_ i=>s.size-(intOf i).toNat)
 case atStart=>exact⟨0,ajm _,rfl,rfl⟩
 case round =>
  obtain⟨k,hk,rfl,rfl⟩:=hrel;by_cases hlt:k<s.size
  ·go_wp2_with fail;go_loop [3,5] (λr j=>∃m:Nat,m<=8/\j=.int .i64 m/\r=.int .u32 ((rr s.data.toList k m:Nat):Int)) (λ_ j=>8-(intOf j).toNat)
   case atStart=>exact⟨0,by omega,rfl,rfl⟩
   case round =>
    obtain⟨m,hm,rfl,rfl⟩:=hrel;have hl:=agu s.data.toList k m;by_cases hm8:m<8
    ·have e1:=and_one _ hl;have e2:=QN _ hl;have e3:=aj (ae1 s hlt m);go_wp2_with fail
     ·rename_i h;rw[ah e3] at h;have h2:=abN (l:=s.data.toList) (k:=k) hm8 (λe=>WalkArith.int_ne' h (by omega));go_round
      case rel=>exact⟨m+1,by omega,by go_num,by rw[h2]⟩
      case measure=>simp[intOf];omega
     ·rename_i h;rw[ah e3] at h;have h2:=ae0 (l:=s.data.toList) (k:=k) hm8 (by have:=WalkArith.int_eq' h;omega);go_round
      case rel=>exact⟨m+1,by omega,by go_num,by rw[h2];simp⟩
      case measure=>simp[intOf];omega
    ·obtain rfl:m=8:=by omega
     have h8:=aj (abM s.data.toList k);go_wp2_with fail;go_round
     case rel=>exact⟨k+1,by omega,by go_num,by rw[ah h8]⟩
     case measure=>simp[intOf];omega
  ·obtain rfl:k=s.size:=by omega
   have hx:=agu s.data.toList s.size 0;go_wp2_with fail;go_ret;refine⟨fK ?_,rfl⟩;rw[Pk.vM];unfold rr at *;simp at *;omega
theorem IW (l:List UInt8)(i:Nat){m:Nat}(h:m<=8):Pk.val l i m<72057594037927936 :=
 ajc (Pk.NS l m i) (aje (alQ (by decide) h) (by decide))
theorem Lp (s:ByteArray){j k:Nat}(h:j<s.size)(hj:j<=k)(hk:k<9):wrap64 (((Pk.val s.data.toList (j+1) (k-j):Nat):Int)*128+(wrap64 (s[j].toNat:Int)).tmod 128)=((Pk.val s.data.toList j (k+1-j):Nat):Int):=by
 have hb:=Pk.qW s.data.toList j;have hv:=IW s.data.toList (j+1) (m:=k-j) (by omega);rw[show k+1-j=(k-j)+1 from by omega,Pk.val_succ,byte_at s h,alE (Pk.at' s.data.toList j) ⟨by omega,by omega⟩,alf (by omega),alE _ ⟨by omega,by omega⟩];omega
theorem jK (s:ByteArray)(w:World)(hs:s.size<=1000000000000000000) :
 Calls prog 200 #[.string s] w λe w'=>e=.returned (IQ s.data.toList)/\w'=w:=by
 go_enter func200,ntmps200;go_wp2_with fail;go_loop [5] (λi=>∃k:Nat,k<=9/\k<=s.size/\i=.int .i64 k/\Hid (∀j,j<k->128<=Pk.at' s.data.toList j)) (λi=>9-(intOf i).toNat)
 case atStart=>exact⟨0,ajm _,ajm _,rfl,aj (λj h=>absurd h (ajG j))⟩
 case round =>
  obtain⟨k,hk9,hk,rfl,hq⟩:=hrel;by_cases h9:k=9
  ·have R:=aj (Oj (l:=s.data.toList) (by simp;omega) (λj hj=>ah hq j (by omega)));subst h9;go_wp2_with fail;all_goals go_ret3
   all_goals exact⟨jw (ah R) rfl,rfl⟩
  have h9':k<9:=by omega
  have h9e:((k:Int)==9)=false:=by simp;omega
  clear h9;by_cases hl:k=s.size
  ·subst hl;have R:=aj (XT (l:=s.data.toList) (by simp;omega) (λj hj=>ah hq j (by simp at hj;omega)));go_wp2_with fail;all_goals go_ret3
   all_goals exact⟨jw (ah R) rfl,rfl⟩
  have hks:k<s.size:=by omega
  have hle:((k:Int)==(s.size:Int))=false:=by simp;omega
  clear hl;have HB:=aj (byte_at s hks);by_cases hc:s[k].toNat<128
  ·have Hc:Hid (Pk.at' s.data.toList k<128):=aj (by rw[<-ah HB];exact hc);by_cases hk0:0<k
   ·by_cases hz:s[k].toNat=0
    ·have R:=aj (Oi hks (by omega) (ah hq) (ah Hc) hk0 (by rw[<-ah HB];exact hz));have hz':((s[k].toNat:Int)==0)=true:=by simp[hz]
     clear hz;go_wp2_with fail;go_ret3;exact⟨jw (ah R) rfl,rfl⟩
    ·have R:=aj (rd_val hks (by omega) (ah hq) (ah Hc) (.inr (by rw[<-ah HB];exact hz)));have hz':((s[k].toNat:Int)==0)=false:=by simp[hz]
     clear hz;go_wp2_with fail;go_loop [6,7] (λn i=>(∃j:Nat,j<=k/\i=.int .i64 j/\n=.int .i64 ((Pk.val s.data.toList (j+1) (k-j):Nat):Int))\/(i=.int .i64 (-1)/\n=.int .i64 ((Pk.val s.data.toList 0 (k+1):Nat):Int))) (λ_ i=>(intOf i+1).toNat)
     case atStart=>exact .inl ⟨k,Xc _,rfl,by rw[amc];rfl⟩
     case round =>
      rcases hrel with ⟨j,hj,rfl,rfl⟩|⟨rfl,rfl⟩
      ·have hjs:j<s.size:=by omega
       have hv:=IW s.data.toList (j+1) (m:=k-j) (by omega);have e:=aj (Lp s hjs (k:=k) hj (by omega));go_wp2_with fail;go_round
       case rel =>
        rcases als j with h0|h0
        ·subst h0;exact .inr ⟨by go_num,congrArg (Value.int .i64) (ah e)⟩
        ·exact .inl ⟨j-1,by omega,by go_num,by rw[show j-1+1=j from by omega,show k-(j-1)=k+1-j from by omega,ah e]⟩
       case measure=>simp[intOf]
      ·go_wp2_with fail;go_ret3;exact⟨jw (ah R) (by first|rfl|(simp;done)),rfl⟩
   ·have R:=aj (rd_val hks (by omega) (ah hq) (ah Hc) (.inl (by omega)));go_wp2_with fail;go_loop [6,7] (λn i=>(∃j:Nat,j<=k/\i=.int .i64 j/\n=.int .i64 ((Pk.val s.data.toList (j+1) (k-j):Nat):Int))\/(i=.int .i64 (-1)/\n=.int .i64 ((Pk.val s.data.toList 0 (k+1):Nat):Int))) (λ_ i=>(intOf i+1).toNat)
    case atStart=>exact .inl ⟨k,Xc _,rfl,by rw[amc];rfl⟩
    case round =>
     rcases hrel with ⟨j,hj,rfl,rfl⟩|⟨rfl,rfl⟩
     ·have hjs:j<s.size:=by omega
      have hv:=IW s.data.toList (j+1) (m:=k-j) (by omega);have e:=aj (Lp s hjs (k:=k) hj (by omega));go_wp2_with fail;go_round
      case rel =>
       rcases als j with h0|h0
       ·subst h0;exact .inr ⟨by go_num,congrArg (Value.int .i64) (ah e)⟩
       ·exact .inl ⟨j-1,by omega,by go_num,by rw[show j-1+1=j from by omega,show k-(j-1)=k+1-j from by omega,ah e]⟩
      case measure=>simp[intOf]
     ·go_wp2_with fail;go_ret3;exact⟨jw (ah R) (by first|rfl|(simp;done)),rfl⟩
  ·go_wp2_with fail;go_round
   case rel=>exact⟨k+1,by omega,by omega,by go_num,aj (λj h=>by
    rcases ajR.1 h with h|h
    ·exact ah hq j h
    ·subst h;have:=ah HB;omega)⟩
   case measure=>simp[intOf];omega
