/- A part. -/
import Derived.Test.YtophdoapcdjnjaaGreatDoorQ0
set_option maxRecDepth 100000
set_option maxHeartbeats 8000000
namespace Go.Proofs.YtophdoapcdjnjaaGreatDoor
open Go.RowKit Go.Proofs.Tryz
theorem OB (t:Tk.bM)(a:Option Addr)(c:Nat)(n:Int)(w:World)(hsl:Dk.jm w a t.bo)(hl:t.bo.length<=140737488355328) :
 Calls prog 68 #[qZ t a c,.int .i64 n] w λe w'=>e=.returned (.int .i64 (Tk.dV t n))/\Below w.heap.size w w':=by
 have b0:Below w.heap.size w (w.alloc (vC t a c)):=(Below.refl _ _).alloc (Nat.le_refl _) _;have hsl0:=bY hsl b0;have hcs:=TB.new w t a c;by_cases h0:t.bo=[]
 ·rw[Tk.KD h0];have hz:t.bo.length=0:=by rw[h0];rfl
  have c6:=hcs.c6;have c5:=hcs.c5;unfold qZ;unfold vC at b0 c5 c6;rw[hz] at b0 c5 c6 ⊢;have B0:=aj b0;clear b0 hsl h0 hz hcs hsl0;go_enter func68,ntmps68;go_wp2;go_ret;exact⟨rfl,ah B0⟩
 ·have hp:0<t.bo.length:=by
   cases hb:t.bo with
   | nil=>exact absurd hb h0
   | cons x y=>simp
  have c6:=hcs.c6;have B0:=aj b0;have hg0:((t.bo.length:Int)==0)=false:=by rw[beq_eq_false_iff_ne];omega
  by_cases h1:n<=1
  ·rw[Tk.Bl hp (k:=0) (by omega)];obtain⟨g,o,rfl,_,e1⟩:=hsl0 0 hp;obtain⟨x,hx⟩:∃x,Dk.nth t.bo 0=x:=⟨_,rfl⟩;rw[hx] at e1 ⊢;rw[Nat.add_zero] at e1;have hmx:max n 1=1:=by omega
   have hmn:min (1:Int) (t.bo.length:Int)=1:=by omega
   clear b0 hsl h0 hcs hsl0 hx;go_enter func68,ntmps68;go_wp2;all_goals go_ret
   all_goals exact⟨rfl,ah B0⟩
  ·by_cases h2:n<=(t.bo.length:Int)
   ·obtain⟨k,rfl⟩:∃k:Nat,n=(k:Int)+1:=⟨(n-1).toNat,by omega⟩;have hkl:k<t.bo.length:=by omega
    rw[Tk.Bl hkl (by omega)];obtain⟨g,o,rfl,_,e1⟩:=hsl0 k hkl;obtain⟨x,hx⟩:∃x,Dk.nth t.bo k=x:=⟨_,rfl⟩;rw[hx] at e1 ⊢;have hk1:(k:Int)<(t.bo.length:Int):=by omega
    have hmx:max ((k:Int)+1) 1=(k:Int)+1:=by omega
    have hmn:min ((k:Int)+1) (t.bo.length:Int)=(k:Int)+1:=by omega
    clear b0 hsl h0 hcs hsl0 hx;go_enter func68,ntmps68;go_wp2;all_goals go_ret
    all_goals exact⟨rfl,ah B0⟩
   ·obtain⟨k,hk⟩:∃k:Nat,t.bo.length=k+1:=⟨t.bo.length-1,by omega⟩;rw[Tk.Bl (k:=k) (by omega) (by omega)];obtain⟨g,o,rfl,_,e1⟩:=hsl0 k (by omega);obtain⟨x,hx⟩:∃x,Dk.nth t.bo k=x:=⟨_,rfl⟩;rw[hx] at e1 ⊢;clear b0 hsl h0 hcs hsl0 hx;unfold qZ;unfold vC at *;rw[hk] at hg0 hl h2 c6 e1 B0 ⊢;have hmx:max n 1=n:=by omega
    have hmn:min n ((k:Int)+1)=(k:Int)+1:=by omega
    clear hk hp;go_enter func68,ntmps68;go_wp2;all_goals go_ret
    all_goals exact⟨rfl,ah B0⟩
namespace Dk
theorem Gs (w:World)(l:List Int)(a:Option Addr)(c:Nat)(x:Int)(h:jm w a l)(hl:l.length<=17592186043904) :
 Calls prog 18 #[.slice a l.length c,.int .i64 x] w λe w'=>∃g cap,e=.returned (.slice (some ⟨g,0,none⟩) l.length cap)/\l.length+2<=cap/\Nums w' w.heap.size (.slice (some ⟨g,0,none⟩) (l.length+2) cap) (l++[x,x])/\Below w.heap.size w w':=by
 obtain⟨w1,hmk,n1,b1⟩:=KO w l.length (by omega);obtain⟨v2,w2,r2,n2,c2⟩:=Ee w1 w.heap.size w.heap.size (l.length+3) l n1 a c (bY h b1) (by omega) b1.size;obtain⟨w3,hw3⟩:∃w3,w3=w2.alloc (.cells #[.int .i64 x,.int .i64 x] 3):=⟨_,rfl⟩;have b3:Below w2.heap.size w2 w3:=by rw[hw3];exact(Below.refl _ _).alloc (Nat.le_refl _) _
 have hs2:=c2.size;have hs1:=b1.size;have VK:CB w3 w2.heap.size [.int .i64 x,.int .i64 x]:=by rw[hw3];exact CB.new w2 [.int .i64 x,.int .i64 x] _
 obtain⟨g,cap,w4,r4,hc,hm,n4,c4⟩:=Gq w3 w.heap.size v2 l x x (n2.below b3) w2.heap.size (VK.cell 0 _ rfl) (VK.cell 1 _ rfl) (by omega) (by have:=b3.size;omega);have HB:Hid (Below w.heap.size w w4):=aj (by
  have hg2:∀k,v2.ownBlock=some k->w.heap.size<=k:=λk hk=>(World.ownsRow.lt n2 k hk).1
  exact((b1.trans (c2.below hs1 (λk _ e=>by omega))).trans (b3.mono (by omega))).trans (c4.below (by have:=b3.size;omega) (λk _ e=>by have:=hg2 k e;omega)))
 have HN:=aj n4;rw[hw3] at r4;have hR2:=aj r2;have Zq:=aj r4;unfold maxLen at hm;clear n1 b1 n2 c2 b3 hs2 hs1 VK n4 c4 hw3 h r2 r4;go_enter func18,ntmps18;go_wp2_with (first
  | (at_builtin;refine Lib.wpList_append_run _ rfl _ _ _ _ rfl _ _ rfl rfl _ _ (ah hR2) ?_;clear hmk)
  | (at_builtin;refine Lib.wpList_append_run _ rfl _ _ _ _ rfl _ _ rfl rfl _ _ (ah Zq) ?_))
 go_ret;exact⟨g,cap,rfl,hc,ah HN,ah HB⟩
theorem KP (w:World)(B g cap:Nat)(l:List Int)(x:Int)(h:Nums w B (.slice (some ⟨g,0,none⟩) (l.length+2) cap) (l++[x,x]))(hl:l.length<=17592186043904) :
 Calls prog 24 #[.slice (some ⟨g,0,none⟩) l.length cap,.int .i64 x] w λe w'=>e=.returned (.bool true)/\Below w.heap.size w w':=by
 have hn:(l++[x,x]).length=l.length+2:=by simp
 unfold Nums at h;rw[hn] at h;obtain⟨⟨hg,_,_⟩,hc,hm,_⟩:=nM h;have c0:w.cell? ⟨g,l.length,none⟩=some (.int .i64 x):=by
  rw[World.ownsRow.cellAt h _ (by omega)];simp
 have c1:w.cell? ⟨g,l.length+1,none⟩=some (.int .i64 x):=by
  rw[World.ownsRow.cellAt h _ (by omega)];simp
 have HB:=aj (Below.refl w.heap.size w);have he:(x==x)=true:=by simp
 clear h hn;go_enter func24,ntmps24;go_wp2_with fail;go_ret;exact⟨rfl,ah HB⟩
theorem wY (w:World)(g n cap:Nat)(x:Int)(h:Dn w g cap)(hn:n<=cap)(hm:cap<=9223372036854775807) :
 Calls prog 26 #[.slice (some ⟨g,0,none⟩) n cap,.int .i64 x] w λe w'=>e=.returned (.tuple #[])/\aF (λj=>j=g) w w':=by
 have S0:Hid (Dn w g cap/\aF (λj=>j=g) w w):=aj ⟨h,aF.refl _ _⟩;clear h;go_enter func26,ntmps26;go_wp2_with fail;go_loopw [11] (λiv wr=>∃k:Nat,iv=.int .i64 k/\k<=cap/\Hid (Dn wr g cap/\aF (λj=>j=g) w wr)) (λiv _=>cap-(intOf iv).toNat)
 case atStart=>exact⟨0,rfl,Nat.zero_le _,S0⟩
 case round =>
  clear S0;obtain⟨k,rfl,hk,HS⟩:=hrel;by_cases hlt:k<cap
  ·obtain⟨⟨s1,s2,s3⟩,hch⟩:=ah HS;obtain⟨u,hu⟩:=s3 k hlt;have hf:=s2 k;have HX:Hid (Dn (wr.setCell ⟨g,k,none⟩ (.int .i64 x)) g cap/\aF (λj=>j=g) w (wr.setCell ⟨g,k,none⟩ (.int .i64 x))):=aj ⟨(ah HS).1.set hlt,hch.setCell (p:=⟨g,k,none⟩) (.inl rfl) _⟩;clear HS s2 s3 hch;go_wp2_with fail;refine⟨⟨k+1,by go_num,by omega,HX⟩,?_⟩;simp[intOf];omega
  ·obtain rfl:k=cap:=by omega
   go_wp2_with fail;go_end0
   exact⟨rfl,(ah HS).2⟩
theorem Gt (w:World)(x:Int) :
 Calls prog 26 #[.slice none 0 0,.int .i64 x] w λe w'=>e=.returned (.tuple #[])/\w'=w:=by
 go_enter func26,ntmps26;go_wp2_with fail;go_loopw [11] (λiv wr=>iv=.int .i64 0/\wr=w) (λ_ _=>0)
 case atStart=>exact⟨rfl,rfl⟩
 case round =>
  obtain⟨rfl,rfl⟩:=hrel;go_wp2_with fail;go_end0
  exact⟨rfl,rfl⟩
theorem wZ (a b:Option Addr)(ca cb:Nat)(l:List Int)(w:World)(ha:jm w a l)(hb:jm w b l)(je:l.length<=17592186043904) :
 Calls prog 14 #[.slice a l.length ca,.slice b l.length cb] w λe w'=>e=.returned (.bool true)/\∃q,w'=w.drewN q:=by
 have Ha:=aj ha;have Hb:=aj hb;clear ha hb;go_enter func14,ntmps14;go_wp2;go_loopw [13] (λkv wr=>∃(k:Nat),kv=.int .i64 k/\k<=l.length/\∃n,wr=w.drewN n) (λkv _=>l.length-(intOf kv).toNat)
 case atStart=>exact⟨0,rfl,Nat.zero_le _,0,rfl⟩
 case round =>
  obtain⟨k,rfl,hk,n,rfl⟩:=hrel;by_cases hlt:k<l.length
  ·obtain⟨g,o,rfl,_,c1⟩:=ah Ha k hlt;obtain⟨h,o2,rfl,_,c2⟩:=ah Hb k hlt;go_wp2;go_quiet (fail)
   go_wp2;exact⟨⟨k+1,by go_num,by omega,_,rfl⟩,by simp[intOf];omega⟩
  ·go_wp2;go_ret;exact⟨rfl,n,rfl⟩
