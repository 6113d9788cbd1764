/- A part. -/
import Derived.Test.YtebofkkfbkodiaaGreatDoorQ0
set_option maxRecDepth 100000
set_option maxHeartbeats 8000000
namespace Go.Proofs.YtebofkkfbkodiaaGreatDoor
open Go.RowKit Go.Proofs.Tryz
variable {k m r:Nat}{l:List UInt8}{v:Value}{s:ad}{w w0:I}
theorem byte_at (s:ad)(h:k<s.size):s[k].toNat=Pk.at' s.data.toList k:=by
 rw[Pk.afZ (by simpa using h)];rfl
def rg (l:List UInt8)(k m:Nat):Nat:=Pk.reg (Pk.wH l) (8*k+m) ^^^ (Pk.at' l k / 2 ^ m)
theorem ahh (l:List UInt8)(k m:Nat):rg l k m<4294967296 :=
 amX (n:=32) (Pk.KG (Pk.Eo l) _) (Nat.lt_of_le_of_lt (Nat.div_le_self _ _) (by have:=Pk.BG l k;omega))
theorem aea (l:List UInt8)(k:Nat):rg l k 0=Pk.reg (Pk.wH l) (8*k) ^^^ Pk.at' l k:=by unfold rg;simp
theorem aaK (l:List UInt8)(k:Nat):rg l k 8=Pk.reg (Pk.wH l) (8*(k+1)):=by
 unfold rg;rw[Nat.div_eq_of_lt (by have:=Pk.BG l k;omega),amW];rfl
theorem aeb (l:List UInt8)(hm:m<8):rg l k (m+1)=Pk.Z (rg l k m):=by
 unfold rg;rw[<-ano,Pk.reg,Pk.wH,show(8*k+m) / 8=k from by omega,show(8*k+m) % 8=m from by omega];have hz:∀x,Pk.Z x=Pk.Z (x % 2) ^^^ (x / 2):=by
  intro x;unfold Pk.Z;have:x % 2 / 2=0:=by omega
  rw[this,Nat.zero_xor,Nat.mod_mod,Nat.xor_comm]
 rw[Pk.afH,Pk.afH _ (Pk.at' l k / 2 ^ m),hz (Pk.at' l k / 2 ^ m),amV,<-Nat.div_div_eq_div_mul];ac_rfl
theorem ahi (h:r % 2=1):Pk.Z r=r / 2 ^^^ 3988292384:=by unfold Pk.Z;rw[if_pos h]
theorem af7 (h:r % 2=0):Pk.Z r=r / 2:=by unfold Pk.Z;rw[if_neg (by omega),amW]
theorem aaL (h:r<4294967296):r ^^^ 4294967295=4294967295-r:=by
 apply Nat.eq_of_testBit_eq;intro i;have h1:=Nat.testBit_two_pow_sub_succ (n:=32) h i;have e:2 ^ 32-(r+1)=4294967295-r:=by omega
 rw[e] at h1;rw[h1,Nat.testBit_xor,show(4294967295:Nat)=2 ^ 32-1 from rfl,Nat.testBit_two_pow_sub_one];by_cases hi:i<32
 ·simp[hi]
 ·have:r.testBit i=false:=Nat.testBit_lt_two_pow (ajz h (show 2 ^ 32<=2 ^ i from amO (by decide) (by omega)));simp[hi,this]
theorem and_one (r:Nat)(h:r<4294967296):bits .and .u32 (r:Int) 1=((r % 2:Nat):Int):=by
 rw[show(1:Int)=((1:Nat):Int) from rfl,u32_and_nat _ _ h (by decide),nat_mask1]
theorem aaM (r:Nat)(h:r<4294967296):bits .xor .u32 ((r:Int) / 2) 3988292384=((r / 2 ^^^ 3988292384:Nat):Int):=by
 rw[show(3988292384:Int)=((3988292384:Nat):Int) from rfl,show(r:Int) / 2=((r / 2:Nat):Int) from by omega,u32_xor_nat _ _ (by omega) (by decide)]
theorem aaN (r:Nat)(h:r<4294967296):bits .xor .u32 (r:Int) 4294967295=((4294967295-r:Nat):Int):=by
 rw[show(4294967295:Int)=((4294967295:Nat):Int) from rfl,u32_xor_nat _ _ h (by decide),aaL h]
theorem sum_any (s:ad)(w:I)(hs:s.size<=1000000000000000000) :
 Calls prog 254 #[.string s] w λe w'=>e=.returned (.int .u32 (Pk.crc s.data.toList))/\w'=w:=by
 go_enter func254,ntmps254;go_wp2_with fail;go_loop [3,8] (λr i=>∃k:Nat,k<=s.size/\i=aa k/\r=.int .u32 ((Pk.reg (Pk.wH s.data.toList) (8*k):Nat):Int)) (λ_ i=>s.size-(intOf i).toNat)
 case atStart=>exact⟨0,ajO _,rfl,rfl⟩
 case round =>
  obtain⟨k,hk,rfl,rfl⟩:=hrel;by_cases hlt:k<s.size
  ·have hx:bits .xor .u32 ((Pk.reg (Pk.wH s.data.toList) (8*k):Nat):Int) ((s[k].toNat:Int) % 4294967296)=((rg s.data.toList k 0:Nat):Int):=by
    have:=Pk.BG s.data.toList k;rw[byte_at s hlt,show((Pk.at' s.data.toList k:Int)) % 4294967296=(Pk.at' s.data.toList k:Int) from by omega,u32_xor_nat _ _ (Pk.KG (Pk.Eo _) _) (by omega),aea]
   have Hx:=aj hx;clear hx;go_wp2_with fail;simp only[ah Hx];go_loop [3,17] (λr j=>∃m:Nat,m<=8/\j=aa m/\r=.int .u32 ((rg s.data.toList k m:Nat):Int)) (λ_ j=>8-(intOf j).toNat)
   case atStart=>exact⟨0,by omega,rfl,rfl⟩
   case round =>
    obtain⟨m,hm,rfl,rfl⟩:=hrel;have hl:=ahh s.data.toList k m;by_cases hm8:m<8
    ·have hn:=aeb s.data.toList (k:=k) hm8;have e1:=and_one _ hl;have e2:=aaM _ hl;rcases Nat.mod_two_eq_zero_or_one (rg s.data.toList k m) with ho|ho
     ·rw[af7 ho] at hn;rw[ho] at e1;have Hn:=aj hn;clear hn ho e2;go_wp2_with fail;go_round
      case rel=>exact⟨m+1,by omega,by go_num,by rw[ah Hn];simp⟩
      case measure=>simp[intOf];omega
     ·rw[ahi ho] at hn;rw[ho] at e1;rw[<-hn] at e2;clear hn ho;go_wp2_with fail;go_round
      case rel=>exact⟨m+1,by omega,by go_num,rfl⟩
      case measure=>simp[intOf];omega
    ·obtain rfl:m=8:=by omega
     have h8:=aj (aaK s.data.toList k);go_wp2_with fail;go_round
     case rel=>exact⟨k+1,by omega,by go_num,by rw[ah h8]⟩
     case measure=>simp[intOf];omega
  ·obtain rfl:k=s.size:=by omega
   have hx:=aaN _ (Pk.KG (Pk.Eo s.data.toList) (8*s.size));have Hx:=aj hx;clear hx;go_wp2_with fail;go_ret;refine⟨kL ?_,rfl⟩;rw[ah Hx,Pk.crc];simp
def xC (l:List UInt8):Value:=.tuple #[aa (Pk.rd l).1,aa (Pk.rd l).2.1,aa (Pk.rd l).2.2]
def grp (l:List UInt8)(k:Nat):Nat:=Pk.at' l k % 128
theorem SV (l:List UInt8)(k:Nat):grp l k<128:=anh _ (by decide)
theorem aaO (_:Pk.at' l k<128)(hz:((grp l k:Int)==0)=false):Pk.at' l k≠0:=by
 have:=WalkArith.int_ne hz;unfold grp at this;omega
theorem aaP (h:Pk.at' l k<128)(hz:((grp l k:Int)==0)=true):Pk.at' l k=0:=by
 have:=WalkArith.int_eq hz;unfold grp at this;omega
theorem VI (s:ad)(h:k<s.size):bits .and .u8 (s[k].toNat:Int) 127=((grp s.data.toList k:Nat):Int):=by
 have hb:=Pk.BG s.data.toList k;rw[byte_at s h,show(127:Int)=((127:Nat):Int) from rfl,u8_and_nat _ _ hb (by decide),nat_mask7];rfl
theorem N8 (s:ad)(h:k<s.size):bits .and .u8 (s[k].toNat:Int) 128=((Pk.at' s.data.toList k / 128*128:Nat):Int):=by
 have hb:=Pk.BG s.data.toList k;rw[byte_at s h,show(128:Int)=((128:Nat):Int) from rfl,u8_and_nat _ _ hb (by decide),show(128:Nat)=2 ^ 7 from rfl,nat_bit];have:Pk.at' s.data.toList k / 2 ^ 7 % 2=Pk.at' s.data.toList k / 2 ^ 7:=by omega
 rw[this]
theorem KW (n:Int)(h₀:0<=n)(h₁:n<2 ^ 63):IntKind.i64.wrap n=n:=by rw[akl];omega
theorem VJ (l:List UInt8)(hk:k<9):bits .or .i64 ((Pk.val l 0 k:Nat):Int) (wrap64 ((grp l k:Int)*2 ^ (k*7)))=((Pk.val l 0 (k+1):Nat):Int):=by
 have hv:=Pk.RQ l k 0;have hg:=SV l k;have e7:(128:Nat) ^ k=2 ^ (k*7):=by rw[show(128:Nat)=2 ^ 7 from rfl,<-Nat.pow_mul,Nat.mul_comm]
 have hp:(2:Nat) ^ (k*7)<=2 ^ 56:=amO (by decide) (by omega);have hm:grp l k*2 ^ (k*7)<=127*2 ^ 56:=Nat.mul_le_mul (by omega) hp;have hc:((grp l k:Int)*2 ^ (k*7))=((grp l k*2 ^ (k*7):Nat):Int):=by simp
 rw[hc,IntWalk.wrap64_in _ ⟨by omega,by omega⟩];rw[e7] at hv;rw[(bits_nat .i64 63 (by decide) KW _ _ (by omega) (by omega)).2,Pk.val_last,e7,ajT];congr 1
 rw[Nat.or_comm,Nat.mul_comm,<-Nat.two_pow_add_eq_or_of_lt hv,Nat.add_comm];rfl
theorem nN {r:Nat×Nat×Nat}(h:Pk.rd l=r)(hv:v=.tuple #[aa r.1,aa r.2.1,aa r.2.2]):Ending.returned v=.returned (xC l):=by
 unfold xC;rw[h,hv]
theorem rd_val (h1:k<s.size)(h2:k<9)(h3:∀j,j<k->128<=Pk.at' s.data.toList j)(h4:Pk.at' s.data.toList k<128)(h5:k=0\/Pk.at' s.data.toList k≠0) :
 Pk.rd s.data.toList=(Pk.val s.data.toList 0 (k+1),k+1,0):=by
 have e:Pk.lead s.data.toList 9=k:=Pk.vg (by omega) (by simp;omega) h3 (.inr (.inr h4));unfold Pk.rd;rw[e,if_neg (by omega),if_neg (by simp;omega),if_neg (by omega)]
theorem VK (h1:k<s.size)(h2:k<9)(h3:∀j,j<k->128<=Pk.at' s.data.toList j)(h4:Pk.at' s.data.toList k<128)(h5:0<k)(h6:Pk.at' s.data.toList k=0) :
 Pk.rd s.data.toList=(0,0,7):=by
 have e:Pk.lead s.data.toList 9=k:=Pk.vg (by omega) (by simp;omega) h3 (.inr (.inr h4));unfold Pk.rd;rw[e,if_neg (by omega),if_neg (by simp;omega),if_pos ⟨h5,h6⟩]
theorem VL (h1:9<=l.length)(h3:∀j,j<9->128<=Pk.at' l j):Pk.rd l=(0,0,7):=by
 have e:Pk.lead l 9=9:=Pk.vg (by omega) (by omega) h3 (.inl rfl);unfold Pk.rd;rw[e,if_pos rfl]
theorem aec (h1:l.length<9)(h3:∀j,j<l.length->128<=Pk.at' l j):Pk.rd l=(0,0,6):=by
 have e:Pk.lead l 9=l.length:=Pk.vg (by omega) (by omega) h3 (.inr (.inl rfl));unfold Pk.rd;rw[e,if_neg (by omega),if_pos rfl]
theorem qF (s:ad)(w:I)(hs:s.size<=1000000000000000000) :
 Calls prog 299 #[.string s] w λe w'=>e=.returned (xC s.data.toList)/\w'=w:=by
 by_cases h9:9<s.size
 ·go_enter func299,ntmps299;go_wp2_with fail;go_loop [5,11] (λn i=>∃k:Nat,k<=9/\i=aa k/\n=aa ((Pk.val s.data.toList 0 k:Nat):Int)/\Hid (∀j,j<k->128<=Pk.at' s.data.toList j)) (λ_ i=>9-(intOf i).toNat)
  case atStart=>exact⟨0,ajO _,rfl,rfl,aj (λj h=>absurd h (akh j))⟩
  case round =>
   obtain⟨k,hk,rfl,rfl,hq⟩:=hrel;by_cases hlt:k<9
   ·have hks:k<s.size:=by omega
    have hgl:=SV s.data.toList k;have g1:=VI s hks;have g2:=N8 s hks;have g3:=VJ s.data.toList (k:=k) (by omega);by_cases hc:Pk.at' s.data.toList k<128
    ·rw[show Pk.at' s.data.toList k / 128=0 from by omega] at g2;have Hc:=aj hc;clear hc
     cases hz:((grp s.data.toList k:Int)==0) with
     | false =>
      have R:=aj (rd_val hks (by omega) (ah hq) (ah Hc) (.inr (aaO (ah Hc) hz)));go_wp2_with fail;go_ret3;exact⟨nN (ah R) rfl,rfl⟩
     | true =>
      by_cases hk0:0<k
      ·have R:=aj (VK hks (by omega) (ah hq) (ah Hc) hk0 (aaP (ah Hc) hz));go_wp2_with fail;go_ret3;exact⟨nN (ah R) rfl,rfl⟩
      ·have R:=aj (rd_val hks (by omega) (ah hq) (ah Hc) (.inl (by omega)));go_wp2_with fail;go_ret3;exact⟨nN (ah R) rfl,rfl⟩
    ·rw[show Pk.at' s.data.toList k / 128=1 from by have:=Pk.BG s.data.toList k;omega] at g2;have Hc:=aj hc;clear hc;go_wp2_with fail;go_round
     case rel=>exact⟨k+1,by omega,by go_num,rfl,aj (λj h=>by
      rcases akI.1 h with h|h
      ·exact ah hq j h
      ·subst h;have:=ah Hc;omega)⟩
     case measure=>simp[intOf];omega
   ·have R:=aj (VL (l:=s.data.toList) (by simp;omega) (λj hj=>ah hq j (by omega)));go_wp2_with fail;go_ret3;exact⟨nN (ah R) rfl,rfl⟩
 ·go_enter func299,ntmps299;go_wp2_with fail;go_loop [5,11] (λn i=>∃k:Nat,k<=s.size/\i=aa k/\n=aa ((Pk.val s.data.toList 0 k:Nat):Int)/\Hid (∀j,j<k->128<=Pk.at' s.data.toList j)) (λ_ i=>s.size-(intOf i).toNat)
  case atStart=>exact⟨0,ajO _,rfl,rfl,aj (λj h=>absurd h (akh j))⟩
  case round =>
   obtain⟨k,hk,rfl,rfl,hq⟩:=hrel;by_cases hlt:k<s.size
   ·have hks:k<s.size:=by omega
    have hgl:=SV s.data.toList k;have g1:=VI s hks;have g2:=N8 s hks;have g3:=VJ s.data.toList (k:=k) (by omega);by_cases hc:Pk.at' s.data.toList k<128
    ·rw[show Pk.at' s.data.toList k / 128=0 from by omega] at g2;have Hc:=aj hc;clear hc
     cases hz:((grp s.data.toList k:Int)==0) with
     | false =>
      have R:=aj (rd_val hks (by omega) (ah hq) (ah Hc) (.inr (aaO (ah Hc) hz)));go_wp2_with fail;go_ret3;exact⟨nN (ah R) rfl,rfl⟩
     | true =>
      by_cases hk0:0<k
      ·have R:=aj (VK hks (by omega) (ah hq) (ah Hc) hk0 (aaP (ah Hc) hz));go_wp2_with fail;go_ret3;exact⟨nN (ah R) rfl,rfl⟩
      ·have R:=aj (rd_val hks (by omega) (ah hq) (ah Hc) (.inl (by omega)));go_wp2_with fail;go_ret3;exact⟨nN (ah R) rfl,rfl⟩
    ·rw[show Pk.at' s.data.toList k / 128=1 from by have:=Pk.BG s.data.toList k;omega] at g2;have Hc:=aj hc;clear hc;go_wp2_with fail;go_round
     case rel=>exact⟨k+1,by omega,by go_num,rfl,aj (λj h=>by
      rcases akI.1 h with h|h
      ·exact ah hq j h
      ·subst h;have:=ah Hc;omega)⟩
     case measure=>simp[intOf];omega
   ·by_cases h8:s.size=9
    ·have R:=aj (VL (l:=s.data.toList) (by simp;omega) (λj hj=>ah hq j (by omega)));have h8':9<=s.size:=by omega
     clear h8;go_wp2_with fail;go_ret3;exact⟨nN (ah R) rfl,rfl⟩
    ·have R:=aj (aec (l:=s.data.toList) (by simp;omega) (λj hj=>ah hq j (by simp at hj;omega)));have h8':s.size<9:=by omega
     clear h8;go_wp2_with fail;go_ret3;exact⟨nN (ah R) rfl,rfl⟩
def Bts (w:I)(B:Nat)(v:Value)(l:List UInt8):Prop:=w.ownsRow B 5 1 v l.length (l.map λb=>Value.int .u8 b.toNat)
theorem VN:(prog.info? 5).map (λi=>(i.zero,i.size,i.bytes))=some (some (.int .u8 0),1,1):=by kernel_rfl
theorem one_byte (n:Int):∀u∈[Value.int .u8 n],u.oneCell'=true:=by
 intro u hu;simp at hu;subst hu;rfl
def Packs (w0 w:I)(v:Value)(N m:Nat)(l:List UInt8):Prop:=Bts w w0.heap.size v l/\ai w0 w/\l++Pk.enc m=Pk.enc N
theorem IZ {N:Nat}(h:Packs w0 w v N m l)(hN:N<9223372036854775808):l.length<9:=by
 have:=Pk.l7 hN;rw[<-h.2.2,ajB] at this;have:=Pk.nI m;omega
theorem yR {wr w1:I}{v':Value}{b:UInt8}{n:Int}{o:Obj}(hn:n=b.toNat)(hown:Bts wr w0.heap.size v l)(hb:ai w0 wr)
 (h1:w1.ownsRow w0.heap.size 5 1 v' (l.length+1) ((l.map λb=>Value.int .u8 b.toNat)++[.int .u8 n])) (hg:(wr.alloc o).grownBy w1 v.ownBlock) :
 Bts w1 w0.heap.size v' (l++[b])/\ai w0 w1:=by
 refine⟨?_,?_⟩
 ·unfold Bts;rw[akt,akw,alZ,ajB,<-hn];exact h1
 ·have hs:=hb.size;refine(hb.alloc (by omega) o).grown hg (by simp;omega) ?_;intro j hj;exact(aks hown j hj).1
def gb (m:Nat):Nat:=128+m % 128
theorem afL (m:Nat):gb m<256:=by unfold gb;omega
theorem N9 (h:m<9223372036854775808):bits .or .i64 (bits .and .i64 (m:Int) 127) 128=((gb m:Nat):Int):=by
 have e1:bits .and .i64 (m:Int) 127=((m % 128:Nat):Int):=by
  rw[show(127:Int)=((127:Nat):Int) from rfl,(bits_nat .i64 63 (by decide) KW m 127 (by omega) (by omega)).1,nat_mask7]
 rw[e1,show(128:Int)=((128:Nat):Int) from rfl,(bits_nat .i64 63 (by decide) KW (m % 128) 128 (by omega) (by omega)).2];congr 1
 have:=Nat.two_pow_add_eq_or_of_lt (i:=7) (b:=m % 128) (by omega) 1;rw[show 2 ^ 7*1=128 from rfl] at this;rw[Nat.or_comm];exact this.symm
theorem Oa {B g cap:Nat}(h:Bts w B (.slice (some ⟨g,0,none⟩) l.length cap) l) :
 (convert 113 9 (.slice (some ⟨g,0,none⟩) l.length cap)).run prog w=.ok (.string (aG l)) w:=by
 refine amn w 113 9 5 ⟨g,0,none⟩ cap l underlying113 underlying5 underlying9 λj hj=>?_
 have:=ake h j (by omega);rw[RP,ajT,this];simp[List.getElem?_eq_getElem hj]
theorem EK (N:Nat)(w:I)(hN:N<9223372036854775808) :
 Calls prog 253 #[aa N] w λe w'=>e=.returned (.string (aG (Pk.enc N)))/\ai w w':=by
 obtain⟨i0,hi,hz0,hz1,hz2⟩:=alq VN;go_enter func253,ntmps253;go_wp2_with fail;go_loopw [3,4] (λr p wr=>∃(m:Nat) (l:List UInt8),m<=N/\r=aa m/\Packs w wr p N m l) (λr _ _=>(intOf r).toNat)
 case atStart=>exact⟨N,[],agH _,by simp,alu _ _ _ _,agP _ _,rfl⟩
 case round =>
  obtain⟨m,l,hm,rfl,hp⟩:=hrel;have hlen:=IZ hp hN;obtain⟨hown,hb,he⟩:=hp;have hown2:wr.ownsRow w.heap.size 5 1 u4 l.length (l.map λb=>Value.int .u8 b.toNat):=hown;have hsz:=hb.size;have HE:=aj he;clear he;by_cases hlt:127<m
  ·have hl:=N9 (m:=m) (by omega);have hg:=afL m;go_wp2_with (at_builtin;refine amK _ rfl _ _ 113 rfl w.heap.size 5 i0 (.int .u8 0) 1 1 underlying113 hi hz0 hz1 hz2 rfl (by decide) _ _ _ rfl (hown2.alloc _) ⟨wr.heap.size,0,none⟩ 1 1 [.int .u8 ((gb m:Nat):Int)] rfl rfl (uU _ _ _) (one_byte _) (by unfold maxLen;omega) (by omega) (by simp;omega) ?_;intro v' w3 hown1 hgrow _);have R:=yR (b:=UInt8.ofNat (gb m)) (by rw[Pk.rX hg]) hown hb hown1 hgrow;clear hown hown2 hown1 hgrow hb;go_round
   case rel=>exact⟨m / 128,l++[UInt8.ofNat (gb m)],by omega,by simp,R.1,R.2,by rw[aku,amr,<-ah HE,Pk.kC (n:=m) (by omega)];rfl⟩
   case measure=>simp[intOf];omega
  ·go_wp2_with (at_builtin;refine amK _ rfl _ _ 113 rfl w.heap.size 5 i0 (.int .u8 0) 1 1 underlying113 hi hz0 hz1 hz2 rfl (by decide) _ _ _ rfl (hown2.alloc _) ⟨wr.heap.size,0,none⟩ 1 1 [.int .u8 (m:Int)] rfl rfl (uU _ _ _) (one_byte _) (by unfold maxLen;omega) (by omega) (by simp;omega) ?_;intro v' w3 hown1 hgrow _);have R:=yR (b:=UInt8.ofNat m) (by rw[Pk.rX (by omega)]) hown hb hown1 hgrow;obtain⟨g,cap,rfl⟩:=D9 hown1;have hcv:=Oa (l:=l++[UInt8.ofNat m]) (by rw[ajB];exact R.1);rw[ajB,akR] at hcv;have R2:=R.2
   clear hown hown2 hown1 hgrow hb R;rw[hcv];go_wp2_with fail;go_ret;refine⟨?_,R2⟩;rw[<-ah HE,Pk.iL (n:=m) (by omega)];rfl
theorem SX (n:Int)(N:Nat)(w:I)(hN0:N=0)(hn:n<0) :
 Calls prog 253 #[aa n] w λe w'=>e=.returned (.string (aG (Pk.enc N)))/\ai w w':=by
 obtain⟨i0,hi,hz0,hz1,hz2⟩:=alq VN;have hN:N<9223372036854775808:=by omega
 have HN:=aj hN0;clear hN0;go_enter func253,ntmps253;go_wp2_with fail;go_loopw [3,4] (λr p wr=>∃(m:Nat) (l:List UInt8),m<=N/\r=aa m/\Packs w wr p N m l) (λr _ _=>(intOf r).toNat)
 case atStart=>exact⟨N,[],agH _,by rw[ah HN];first|rfl|exact congrArg (Value.int .i64) (by omega),alu _ _ _ _,agP _ _,rfl⟩
 case round =>
  obtain⟨m,l,hm,rfl,hp⟩:=hrel;have hlen:=IZ hp hN;obtain⟨hown,hb,he⟩:=hp;have hown2:wr.ownsRow w.heap.size 5 1 u4 l.length (l.map λb=>Value.int .u8 b.toNat):=hown;have hsz:=hb.size;have HE:=aj he;clear he;by_cases hlt:127<m
  ·have hl:=N9 (m:=m) (by omega);have hg:=afL m;go_wp2_with (at_builtin;refine amK _ rfl _ _ 113 rfl w.heap.size 5 i0 (.int .u8 0) 1 1 underlying113 hi hz0 hz1 hz2 rfl (by decide) _ _ _ rfl (hown2.alloc _) ⟨wr.heap.size,0,none⟩ 1 1 [.int .u8 ((gb m:Nat):Int)] rfl rfl (uU _ _ _) (one_byte _) (by unfold maxLen;omega) (by omega) (by simp;omega) ?_;intro v' w3 hown1 hgrow _);have R:=yR (b:=UInt8.ofNat (gb m)) (by rw[Pk.rX hg]) hown hb hown1 hgrow;clear hown hown2 hown1 hgrow hb;go_round
   case rel=>exact⟨m / 128,l++[UInt8.ofNat (gb m)],by omega,by simp,R.1,R.2,by rw[aku,amr,<-ah HE,Pk.kC (n:=m) (by omega)];rfl⟩
   case measure=>simp[intOf];omega
  ·go_wp2_with (at_builtin;refine amK _ rfl _ _ 113 rfl w.heap.size 5 i0 (.int .u8 0) 1 1 underlying113 hi hz0 hz1 hz2 rfl (by decide) _ _ _ rfl (hown2.alloc _) ⟨wr.heap.size,0,none⟩ 1 1 [.int .u8 (m:Int)] rfl rfl (uU _ _ _) (one_byte _) (by unfold maxLen;omega) (by omega) (by simp;omega) ?_;intro v' w3 hown1 hgrow _);have R:=yR (b:=UInt8.ofNat m) (by rw[Pk.rX (by omega)]) hown hb hown1 hgrow;obtain⟨g,cap,rfl⟩:=D9 hown1;have hcv:=Oa (l:=l++[UInt8.ofNat m]) (by rw[ajB];exact R.1);rw[ajB,akR] at hcv;have R2:=R.2
   clear hown hown2 hown1 hgrow hb R;rw[hcv];go_wp2_with fail;go_ret;refine⟨?_,R2⟩;rw[<-ah HE,Pk.iL (n:=m) (by omega)];rfl
theorem EL (n:Int)(w:I)(hn:n<9223372036854775808) :
 Calls prog 253 #[aa n] w λe w'=>e=.returned (.string (aG (Pk.enc n.toNat)))/\ai w w':=by
 by_cases h:n<0
 ·exact SX n n.toNat w (by omega) h
 ·obtain⟨N,rfl⟩:=anf (show 0<=n by omega);exact EK N w (by omega)
theorem Ob (l:List UInt8)(s:ad):aG l++s=aG (l++s.data.toList):=by
 apply ama;simp[aG,ByteArray.data_append]
theorem yS (s:ad)(w:I)(hs:s.size<=1000000000000000000) :
 Calls prog 230 #[.string s] w λe w'=>e=.returned (.string (aG (Pk.txt s.data.toList)))/\ai w w':=by
 have hc:¬9223372036854775807<(aG (Pk.enc s.size)).size+s.size:=by
  rw[aU];have:=Pk.l7 (n:=s.size) (by omega);omega
 have he:=aj (Ob (Pk.enc s.size) s);go_enter func230,ntmps230;go_wp2_with fail;refine(EK s.size _ (by omega)).mono ?_;rintro e w1 ⟨rfl,b1⟩;go_wp2_with fail;go_ret;refine⟨?_,b1⟩;rw[ah he];unfold Pk.txt;simp
