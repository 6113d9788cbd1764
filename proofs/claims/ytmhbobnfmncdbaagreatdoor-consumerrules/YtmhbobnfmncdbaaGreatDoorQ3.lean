/- A part. -/
import Derived.Test.YtmhbobnfmncdbaaGreatDoorQ0
set_option maxRecDepth 100000
set_option maxHeartbeats 8000000
namespace Go.Proofs.YtmhbobnfmncdbaaGreatDoor
open Go.RowKit Go.Proofs.Tryz
theorem Ls (t:Tk.bH)(a:Option Addr)(c:Nat)(n:Int)(w:World)(hsl:Dk.lF w a t.bo)(hl:t.bo.length<=140737488355328) :
 Calls prog 107 #[lU t a c,.int .i64 n] w λe w'=>e=.returned (.int .i64 (Tk.aZ t n))/\Below w.heap.size w w':=by
 have b0:Below w.heap.size w (w.alloc (oh t a c)):=(Below.refl _ _).alloc (Nat.le_refl _) _;have hsl0:=dG hsl b0;have hcs:=TB.new w t a c;by_cases h0:t.bo=[]
 ·rw[Tk.xP h0];have hz:t.bo.length=0:=by rw[h0];rfl
  have c6:=hcs.c6;have c5:=hcs.c5;unfold lU;unfold oh at b0 c5 c6;rw[hz] at b0 c5 c6 ⊢;have B0:=aj b0;clear b0 hsl h0 hz hcs hsl0;go_enter func107,ntmps107;go_wp2;go_ret;exact⟨rfl,ah B0⟩
 ·have hp:0<t.bo.length:=by
   cases hb:t.bo with
   | nil=>exact absurd hb h0
   | cons x y=>simp
  have c6:=hcs.c6;have B0:=aj b0;have hg0:((t.bo.length:Int)==0)=false:=by rw[beq_eq_false_iff_ne];omega
  by_cases h1:n<=1
  ·rw[Tk.qc hp (k:=0) (by omega)];obtain⟨g,o,rfl,_,e1⟩:=hsl0 0 hp;obtain⟨x,hx⟩:∃x,Dk.nth t.bo 0=x:=⟨_,rfl⟩;rw[hx] at e1 ⊢;rw[Nat.add_zero] at e1;have hmx:max n 1=1:=by omega
   have hmn:min (1:Int) (t.bo.length:Int)=1:=by omega
   clear b0 hsl h0 hcs hsl0 hx;go_enter func107,ntmps107;go_wp2;all_goals go_ret
   all_goals exact⟨rfl,ah B0⟩
  ·by_cases h2:n<=(t.bo.length:Int)
   ·obtain⟨k,rfl⟩:∃k:Nat,n=(k:Int)+1:=⟨(n-1).toNat,by omega⟩;have hkl:k<t.bo.length:=by omega
    rw[Tk.qc hkl (by omega)];obtain⟨g,o,rfl,_,e1⟩:=hsl0 k hkl;obtain⟨x,hx⟩:∃x,Dk.nth t.bo k=x:=⟨_,rfl⟩;rw[hx] at e1 ⊢;have hk1:(k:Int)<(t.bo.length:Int):=by omega
    have hmx:max ((k:Int)+1) 1=(k:Int)+1:=by omega
    have hmn:min ((k:Int)+1) (t.bo.length:Int)=(k:Int)+1:=by omega
    clear b0 hsl h0 hcs hsl0 hx;go_enter func107,ntmps107;go_wp2;all_goals go_ret
    all_goals exact⟨rfl,ah B0⟩
   ·obtain⟨k,hk⟩:∃k:Nat,t.bo.length=k+1:=⟨t.bo.length-1,by omega⟩;rw[Tk.qc (k:=k) (by omega) (by omega)];obtain⟨g,o,rfl,_,e1⟩:=hsl0 k (by omega);obtain⟨x,hx⟩:∃x,Dk.nth t.bo k=x:=⟨_,rfl⟩;rw[hx] at e1 ⊢;clear b0 hsl h0 hcs hsl0 hx;unfold lU;unfold oh at *;rw[hk] at hg0 hl h2 c6 e1 B0 ⊢;have hmx:max n 1=n:=by omega
    have hmn:min n ((k:Int)+1)=(k:Int)+1:=by omega
    clear hk hp;go_enter func107,ntmps107;go_wp2;all_goals go_ret
    all_goals exact⟨rfl,ah B0⟩
theorem xW (t:Tk.bH)(a:Option Addr)(c:Nat)(n:Int)(w:World)(hsl:Dk.lF w a t.bo)(hl:t.bo.length<=140737488355328)(hn:n<=100) :
 Calls prog 60 #[lU t a c,.int .i64 n] w λe w'=>e=.returned (.int .i64 (Tk.aZ t n))/\Below w.heap.size w w':=by
 have b0:Below w.heap.size w (w.alloc (oh t a c)):=(Below.refl _ _).alloc (Nat.le_refl _) _;have hsl0:=dG hsl b0;have hcs:=TB.new w t a c;by_cases h0:t.bo=[]
 ·rw[Tk.xP h0];have hz:t.bo.length=0:=by rw[h0];rfl
  have c6:=hcs.c6;have c5:=hcs.c5;unfold lU;unfold oh at b0 c5 c6;rw[hz] at b0 c5 c6 ⊢;have B0:=aj b0;clear b0 hsl h0 hz hcs hsl0;go_enter func60,ntmps60;go_wp2;go_ret;exact⟨rfl,ah B0⟩
 ·have hp:0<t.bo.length:=by
   cases hb:t.bo with
   | nil=>exact absurd hb h0
   | cons x y=>simp
  have HS:=aj hsl0;have B0:=aj b0;have hg0:((t.bo.length:Int)==0)=false:=by rw[beq_eq_false_iff_ne];omega
  have c6:=hcs.c6;have HC:=aj hcs;obtain⟨b,hb⟩:∃b,b=w.heap.size:=⟨_,rfl⟩;obtain⟨W,hW⟩:∃W,W=w.alloc (oh t a c):=⟨_,rfl⟩;clear b0 hsl h0 hcs hsl0;go_enter func60,ntmps60;go_wp2_with fail;rw[<-hW,<-hb] at HC c6;rw[<-hW] at HS B0;rw[<-hb,<-hW];clear hW hb;have hbl:=(ah HC).lt;go_loop [5,6] (λiv kv=>∃i:Nat,iv=.int .i64 i/\kv=.int .i64 ((i:Int)+2)/\i<t.bo.length/\(i=0\/(i:Int)+1<=n)) (λiv _=>t.bo.length-(intOf iv).toNat)
  case atStart=>exact⟨0,rfl,rfl,hp,.inl rfl⟩
  case round =>
   obtain⟨i,rfl,rfl,hi,hin⟩:=hrel;by_cases h1:(i:Int)+2<=n
   ·have q1:decide ((i:Int)+2<=n)=true:=decide_eq_true h1;by_cases h2:(i:Int)<(t.bo.length:Int)-1
    ·have q2:decide ((i:Int)<(t.bo.length:Int)-1)=true:=decide_eq_true h2;go_wp2_with fail;go_round
     case rel=>exact⟨i+1,by go_num,by go_num,by omega,.inr (by omega)⟩
     case measure=>simp[intOf];omega
    ·have q2:decide ((i:Int)<(t.bo.length:Int)-1)=false:=decide_eq_false h2;have hv:=Tk.qc (n:=n) hi (by omega);obtain⟨g,o,rfl,_,e1⟩:=ah HS i hi;obtain⟨x,hx⟩:∃x,Dk.nth t.bo i=x:=⟨_,rfl⟩;rw[hx] at e1 hv;have HV:=aj hv;clear hx hv;go_wp2_with fail;go_ret;exact⟨by rw[ah HV];rfl,ah B0⟩
   ·have q1:decide ((i:Int)+2<=n)=false:=decide_eq_false h1;have hv:=Tk.qc (n:=n) hi (by omega);obtain⟨g,o,rfl,_,e1⟩:=ah HS i hi;obtain⟨x,hx⟩:∃x,Dk.nth t.bo i=x:=⟨_,rfl⟩;rw[hx] at e1 hv;have HV:=aj hv;clear hx hv;go_wp2_with fail;go_ret;exact⟨by rw[ah HV];rfl,ah B0⟩
