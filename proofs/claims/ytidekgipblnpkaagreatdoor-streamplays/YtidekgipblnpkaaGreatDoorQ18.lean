/- A part. -/
import Derived.Test.YtidekgipblnpkaaGreatDoorQ9
import Derived.Test.YtidekgipblnpkaaGreatDoorQ10
set_option maxRecDepth 100000
set_option maxHeartbeats 8000000
namespace Go.Proofs.YtidekgipblnpkaaGreatDoor
open Go.RowKit Go.Proofs.Tryz
def KI (s h d:ByteArray):Int:=if aG false s≠0 then aG false s else if 256<h.size+d.size then 2 else 0
def KJ (s h d:ByteArray):Int:=if aG true s≠0 then aG true s else if h.size+d.size=0 then 0 else 1
def VY (s h d:ByteArray):Int:=if s.size+(h.size+d.size)=0 then 0 else 1
def jB (k q t:Int)(s h d:ByteArray):Int:=Pk.Kw ⟨k,q,t,s.data.toList,h.data.toList,d.data.toList⟩
theorem jd (s:ByteArray):s.data.toList.length=s.size:=by simp
theorem Jl (s:ByteArray):(s.toList=[])=(s.size=0):=by
 rw[akd,<-jd,ajK]
theorem uD (s:ByteArray):s.toList.isEmpty=decide (s.size=0):=by
 rw[akd,<-jd,akc,List.isEmpty_iff,ajw,ajK]
theorem xM (k q t:Int)(s h d:ByteArray):jB k q t s h d=if Pk.QB k q t=false then 1 else if k=1 then KI s h d else if k=3 then KJ s h d else VY s h d:=by
 unfold jB Pk.Kw KI KJ VY aG;simp only[jd]
theorem ZQ (k q t:Int)(s h d:ByteArray)(w:World)(hs:s.size<=140737488355328)(hh:h.size<=140737488355328)(hd:d.size<=140737488355328) :
 Calls prog 206 #[.agg #[.int .i64 k,.int .i64 q,.int .i64 t,.string s,.string h,.string d]] w λe w'=>e=.returned (.int .i64 (KI s h d))/\Below w.heap.size w w':=by
 obtain⟨E,hE⟩:∃E,E=aG false s:=⟨_,rfl⟩;have C:Hid (∀W:World,Calls prog 95 #[.string s] W λe w'=>e=.returned (.int .i64 E)/\Below W.heap.size W w'):=aj (λW=>by rw[hE];exact fU s W hs);have R0:=aj (RB.new w k q t s h d 73);have B0:Hid (Below w.heap.size w (w.alloc (.cells #[.int .i64 k,.int .i64 q,.int .i64 t,.string s,.string h,.string d] 73))):=aj ((ajb _ _).alloc (Xc _) _);have M:Hid (KI s h d=if E≠0 then E else if 256<h.size+d.size then 2 else 0):=aj (by unfold KI;rw[<-hE]);clear hE;go_enter func206,ntmps206;go_wp2_with fail;refine(ah C _).mono ?_
 rintro e w1 ⟨rfl,b1⟩;have R1:=(ah R0).next b1;have c4:=R1.c4;have c5:=R1.c5;have B1:=aj (ak (ah B0) b1);clear R1 R0 B0 b1;go_wp2_with fail;all_goals go_ret
 all_goals refine⟨fK ?_,ah B1⟩
 all_goals rw[ah M]
 all_goals clear M C c4 c5 B1
 all_goals simp only[ano,ne_eq,amB] at *
 all_goals split
 all_goals first|rfl|omega|(split<;>omega)
theorem ZR (k q t:Int)(s h d:ByteArray)(w:World)(hs:s.size<=140737488355328) :
 Calls prog 207 #[.agg #[.int .i64 k,.int .i64 q,.int .i64 t,.string s,.string h,.string d]] w λe w'=>e=.returned (.int .i64 (KJ s h d))/\Below w.heap.size w w':=by
 obtain⟨E,hE⟩:∃E,E=aG true s:=⟨_,rfl⟩;have C:Hid (∀W:World,Calls prog 105 #[.string s] W λe w'=>e=.returned (.int .i64 E)/\Below W.heap.size W w'):=aj (λW=>by rw[hE];exact gG s W hs);have R0:=aj (RB.new w k q t s h d 73);have B0:Hid (Below w.heap.size w (w.alloc (.cells #[.int .i64 k,.int .i64 q,.int .i64 t,.string s,.string h,.string d] 73))):=aj ((ajb _ _).alloc (Xc _) _);have M:Hid (KJ s h d=if E≠0 then E else if h.size+d.size=0 then 0 else 1):=aj (by unfold KJ;rw[<-hE]);clear hE;go_enter func207,ntmps207;go_wp2_with fail;refine(ah C _).mono ?_
 rintro e w1 ⟨rfl,b1⟩;have R1:=(ah R0).next b1;have c4:=R1.c4;have c5:=R1.c5;have B1:=aj (ak (ah B0) b1);clear R1 R0 B0 b1;go_wp2_with fail;all_goals go_ret
 all_goals refine⟨fK ?_,ah B1⟩
 all_goals rw[ah M]
 all_goals clear M C c4 c5 B1
 all_goals simp only[uD,Jl,akL,amJ,ajw,ajP,ano,ne_eq,amB] at *
 all_goals split
 all_goals first|rfl|omega|(split<;>omega)
theorem MI (k q t:Int)(s h d:ByteArray)(w:World) :
 Calls prog 208 #[.agg #[.int .i64 k,.int .i64 q,.int .i64 t,.string s,.string h,.string d]] w λe w'=>e=.returned (.int .i64 (VY s h d))/\Below w.heap.size w w':=by
 have B0:Hid (Below w.heap.size w (w.alloc (.cells #[.int .i64 k,.int .i64 q,.int .i64 t,.string s,.string h,.string d] 73))):=aj ((ajb _ _).alloc (Xc _) _);go_enter func208,ntmps208;go_wp2_with fail;all_goals go_ret
 all_goals refine⟨fK ?_,ah B0⟩
 all_goals unfold VY
 all_goals simp only[uD,Jl,akL,amJ,ajw,ajP] at *
 all_goals first|(rw[if_pos (by omega)];done)|(rw[if_neg (by omega)];done)
theorem OV {k q t:Int}{s h d:ByteArray}(b:Pk.QB k q t=false):jB k q t s h d=1:=by rw[xM,if_pos b]
theorem Jm {k q t:Int}{s h d:ByteArray}(b:Pk.QB k q t=true):jB k q t s h d=if k=1 then KI s h d else if k=3 then KJ s h d else VY s h d:=by rw[xM,if_neg (by rw[b];decide)]
theorem MJ {k q t:Int}:Pk.QB k q t=false↔¬(1<=k/\k<=4/\1<=q/\q<=1099511627776/\0<=t/\t<=1099511627776):=by
 rw[<-Pk.sZ];simp
theorem sD (k q t:Int)(s h d:ByteArray)(w:World)(hs:s.size<=140737488355328)(hh:h.size<=140737488355328)(hd:d.size<=140737488355328) :
 Calls prog 174 #[.agg #[.int .i64 k,.int .i64 q,.int .i64 t,.string s,.string h,.string d]] w λe w'=>e=.returned (.int .i64 (jB k q t s h d))/\Below w.heap.size w w':=by
 have B0:Hid (Below w.heap.size w (w.alloc (.cells #[.int .i64 k,.int .i64 q,.int .i64 t,.string s,.string h,.string d] 73))):=aj ((ajb _ _).alloc (Xc _) _);by_cases hq:1<=q/\q<=1099511627776/\0<=t/\t<=1099511627776
 ·obtain⟨q1,q2,q3,q4⟩:=hq;by_cases k1:k=1
  ·have M:Hid (jB k q t s h d=KI s h d):=aj (by rw[Jm (Pk.sZ.2 (by omega)),if_pos k1]);subst k1;go_enter func174,ntmps174;go_wp2_with fail;refine(ZQ _ _ _ _ _ _ _ hs hh hd).mono ?_;rintro e w1 ⟨rfl,b1⟩;go_wp2_with fail;go_ret;exact⟨fK (ah M).symm,ak (ah B0) b1⟩
  by_cases k3:k=3
  ·have M:Hid (jB k q t s h d=KJ s h d):=aj (by rw[Jm (Pk.sZ.2 (by omega)),if_neg k1,if_pos k3]);clear k1;subst k3;go_enter func174,ntmps174;go_wp2_with fail;refine(ZR _ _ _ _ _ _ _ hs).mono ?_;rintro e w1 ⟨rfl,b1⟩;go_wp2_with fail;go_ret;exact⟨fK (ah M).symm,ak (ah B0) b1⟩
  by_cases k2:k=2
  ·have M:Hid (jB k q t s h d=VY s h d):=aj (by rw[Jm (Pk.sZ.2 (by omega)),if_neg k1,if_neg k3]);clear k1 k3;subst k2;go_enter func174,ntmps174;go_wp2_with fail;refine(MI _ _ _ _ _ _ _).mono ?_;rintro e w1 ⟨rfl,b1⟩;go_wp2_with fail;go_ret;exact⟨fK (ah M).symm,ak (ah B0) b1⟩
  by_cases k4:k=4
  ·have M:Hid (jB k q t s h d=VY s h d):=aj (by rw[Jm (Pk.sZ.2 (by omega)),if_neg k1,if_neg k3]);clear k1 k3 k2;subst k4;go_enter func174,ntmps174;go_wp2_with fail;refine(MI _ _ _ _ _ _ _).mono ?_;rintro e w1 ⟨rfl,b1⟩;go_wp2_with fail;go_ret;exact⟨fK (ah M).symm,ak (ah B0) b1⟩
  have M:Hid (jB k q t s h d=1):=aj (OV (MJ.2 (by omega)));have n1:(k==1)=false:=by simp;omega
  have n2:(k==2)=false:=by simp;omega
  have n3:(k==3)=false:=by simp;omega
  have n4:(k==4)=false:=by simp;omega
  clear k1 k2 k3 k4;go_enter func174,ntmps174;go_wp2_with fail;go_ret;exact⟨fK (ah M).symm,ah B0⟩
 ·have M:Hid (jB k q t s h d=1):=aj (OV (MJ.2 (by omega)));have HQ:=aj hq;clear hq;go_enter func174,ntmps174;go_wp2_with fail;all_goals first
   | (go_ret;exact⟨fK (ah M).symm,ah B0⟩)
   | (exfalso;have:=ah HQ;omega)
def KL (k q t:Int)(s h d:ByteArray):Value :=
 .tuple #[.string (if jB k q t s h d=0 then aF (Pk.wZ ⟨k,q,t,s.data.toList,h.data.toList,d.data.toList⟩) else ⟨#[]⟩),.int .i64 (jB k q t s h d)]
theorem SI {k q t:Int}{s h d:ByteArray}{E:Int}(hE:jB k q t s h d=E)(h0:E≠0):KL k q t s h d=.tuple #[.string ⟨#[]⟩,.int .i64 E]:=by
 unfold KL;rw[hE,if_neg h0]
theorem MK {k q t:Int}{s h d:ByteArray}(hE:jB k q t s h d=0):KL k q t s h d=.tuple #[.string (aF (Pk.wZ ⟨k,q,t,s.data.toList,h.data.toList,d.data.toList⟩)),.int .i64 0]:=by
 unfold KL;rw[hE,if_pos rfl]
theorem Jo (k q t:Int)(s h d:ByteArray)(w:World)(hs:s.size<=140737488355328)(hh:h.size<=140737488355328)(hd:d.size<=140737488355328) :
 Calls prog 177 #[.agg #[.int .i64 k,.int .i64 q,.int .i64 t,.string s,.string h,.string d]] w λe w'=>e=.returned (KL k q t s h d)/\Below w.heap.size w w':=by
 obtain⟨E,hE⟩:∃E,jB k q t s h d=E:=⟨_,rfl⟩;have R0:=aj (RB.new w k q t s h d 73);have B0:Hid (Below w.heap.size w (w.alloc (.cells #[.int .i64 k,.int .i64 q,.int .i64 t,.string s,.string h,.string d] 73))):=aj ((ajb _ _).alloc (Xc _) _);by_cases h0:E=0
 ·subst h0;obtain⟨k1,k2,q1,q2,t1,t2,s1,s2⟩:=Pk.oC (r:=⟨k,q,t,s.data.toList,h.data.toList,d.data.toList⟩) hE;simp only[jd] at s1 s2;obtain⟨B,hB⟩:∃B,B=aF (Pk.zl ⟨k,q,t,s.data.toList,h.data.toList,d.data.toList⟩):=⟨_,rfl⟩;have zB:B.size<=1024:=by rw[hB,aK];exact(Pk.zn hE).2
  obtain⟨X,hX⟩:∃X,X=aF (Pk.kJ B.data.toList):=⟨_,rfl⟩;obtain⟨Y,hY⟩:∃Y,Y=aF (Pk.uZ (Pk.vM B.data.toList)):=⟨_,rfl⟩;have zX:X.size<=1033:=by
   rw[hX,aK,Pk.kJ,ajh,jd];have:=Pk.jF (n:=B.size) (by omega);omega
  have zY:Y.size=4:=by rw[hY,aK];rfl
  have zC:¬9223372036854775807<X.size+Y.size:=by omega
  have HE:=aj hE;have R:Hid (KL k q t s h d=.tuple #[.string (X++Y),.int .i64 0]):=aj (by
   rw[MK hE,hX,hY,nY,hB,aV];rfl)
  have CB:Hid (∀W:World,Calls prog 210 #[.agg #[.int .i64 k,.int .i64 q,.int .i64 t,.string s,.string h,.string d]] W λe w'=>e=.returned (.string B)/\Below W.heap.size W w') :=
   aj (λW=>by rw[hB];exact Vf k q t s h d W k1 k2 q2 t2 (by omega) (by omega) (by omega))
  have CX:Hid (∀W:World,Calls prog 211 #[.string B] W λe w'=>e=.returned (.string X)/\Below W.heap.size W w'):=aj (λW=>by rw[hX];exact zM B W (by omega));have CY:Hid (∀W:World,Calls prog 212 #[.string B] W λe w'=>e=.returned (.string Y)/\Below W.heap.size W w'):=aj (λW=>by rw[hY];exact rG B W (by omega));clear hE hB hX hY;go_enter func177,ntmps177;go_wp2_with fail;refine(sD _ _ _ _ _ _ _ hs hh hd).mono ?_;rintro e w1 ⟨rfl,b1⟩;rw[ah HE];have R1:=(ah R0).next b1;have B1:=aj (ak (ah B0) b1);obtain⟨_,c0,c1,c2,c3,c4,c5,_⟩:=R1;clear R0 B0 b1
  go_wp2_with fail;refine(ah CB _).mono ?_;rintro e w2 ⟨rfl,b2⟩;clear c0 c1 c2 c3 c4 c5;go_wp2_with fail;refine(ah CX _).mono ?_;rintro e w3 ⟨rfl,b3⟩;go_wp2_with fail;refine(ah CY _).mono ?_;rintro e w4 ⟨rfl,b4⟩;go_wp2_with fail;go_ret2;exact⟨by rw[ah R];rfl,ak (ak (ak (ah B1) b2) b3) b4⟩
 ·have R:=aj (SI hE h0);have HE:=aj hE;have h1:(E !=0)=true:=by simpa using h0
  clear hE h0;go_enter func177,ntmps177;go_wp2_with fail;refine(sD _ _ _ _ _ _ _ hs hh hd).mono ?_;rintro e w1 ⟨rfl,b1⟩;rw[ah HE];go_wp2_with fail;go_ret2;exact⟨by rw[ah R];rfl,ak (ah B0) b1⟩
theorem ML (k q t:Int):Pk.QB k q t=(kR k 1 4&&(kR q 1 1099511627776&&kR t 0 1099511627776)):=by
 unfold Pk.QB kR
 cases decide (1<=k)<;>cases decide (k<=4)<;>cases decide (1<=q)<;>cases decide (q<=1099511627776)<;>rfl
theorem SK (k q t:Int)(s h d:ByteArray)(w:World)(hI:Pk.QB k q t=false) :
 Calls prog 116 #[.agg #[.int .i64 k,.int .i64 q,.int .i64 t,.string s,.string h,.string d]] w λe w'=>e=.returned (.int .i64 (jB k q t s h d))/\Below w.heap.size w w':=by
 have R0:=aj (RB.new w k q t s h d 73);have B0:Hid (Below w.heap.size w (w.alloc (.cells #[.int .i64 k,.int .i64 q,.int .i64 t,.string s,.string h,.string d] 73))):=aj ((ajb _ _).alloc (Xc _) _);have M:Hid (jB k q t s h d=1):=aj (OV hI);rw[ML] at hI
 cases i1:kR k 1 4 with
 | false =>
  have I1:=aj i1;have I2:=aj i1;have I3:=aj i1;clear hI i1;go_enter func116,ntmps116;go_wp2_with (go_at_call 11;refine(lM _ _ _ _).mono ?_;rintro e w' ⟨rfl,rfl⟩;first|rw[ah I1]|rw[ah I2]|rw[ah I3]);go_ret;exact⟨fK (ah M).symm,ah B0⟩
 | true =>
  cases i2:kR q 1 1099511627776 with
  | false =>
   have I1:=aj i1;have I2:=aj i2;have I3:=aj i1;clear hI i1 i2;go_enter func116,ntmps116;go_wp2_with (go_at_call 11;refine(lM _ _ _ _).mono ?_;rintro e w' ⟨rfl,rfl⟩;first|rw[ah I1]|rw[ah I2]|rw[ah I3]);go_ret;exact⟨fK (ah M).symm,ah B0⟩
  | true =>
   cases i3:kR t 0 1099511627776 with
   | false =>
    have I1:=aj i1;have I2:=aj i2;have I3:=aj i3;clear hI i1 i2 i3;go_enter func116,ntmps116;go_wp2_with (go_at_call 11;refine(lM _ _ _ _).mono ?_;rintro e w' ⟨rfl,rfl⟩;first|rw[ah I1]|rw[ah I2]|rw[ah I3]);go_ret;exact⟨fK (ah M).symm,ah B0⟩
   | true=>rw[i1,i2,i3] at hI;cases hI
theorem VZ (k q t:Int)(s h d:ByteArray)(w:World)(hs:s.size<=140737488355328)(hh:h.size<=140737488355328)(hd:d.size<=140737488355328)(hI:Pk.QB k q t=true) :
 Calls prog 116 #[.agg #[.int .i64 k,.int .i64 q,.int .i64 t,.string s,.string h,.string d]] w λe w'=>e=.returned (.int .i64 (jB k q t s h d))/\Below w.heap.size w w':=by
 have R0:=aj (RB.new w k q t s h d 73);have B0:Hid (Below w.heap.size w (w.alloc (.cells #[.int .i64 k,.int .i64 q,.int .i64 t,.string s,.string h,.string d] 73))):=aj ((ajb _ _).alloc (Xc _) _);have c1:¬9223372036854775807<h.size+d.size:=by omega
 have c2:¬9223372036854775807<s.size+h.size:=by omega
 have c3:¬9223372036854775807<s.size+h.size+d.size:=by omega
 have M:=aj (Jm (s:=s) (h:=h) (d:=d) hI);obtain⟨j1,j2,-,-,-,-⟩:=Pk.sZ.1 hI;rw[ML] at hI;obtain⟨i1,i2,i3⟩:kR k 1 4=true/\kR q 1 1099511627776=true/\kR t 0 1099511627776=true:=by simpa[Bool.and_eq_true] using hI
 have I1:=aj i1;have I2:=aj i2;have I3:=aj i3;clear hI i1 i2 i3;by_cases k1:k=1
 ·subst k1;obtain⟨E,hE⟩:∃E,E=aG false s:=⟨_,rfl⟩;have CS:Hid (∀W:World,Calls prog 71 #[.string s] W λe w'=>e=.returned (.int .i64 E)/\Below W.heap.size W w'):=aj (λW=>by rw[hE];exact fO s W hs);have N:Hid (jB 1 q t s h d=if E≠0 then E else if 256<h.size+d.size then 2 else 0):=aj (by rw[ah M,if_pos rfl];unfold KI;rw[<-hE]);clear hE M;go_enter func116,ntmps116;go_wp2_with (go_at_call 11;refine(lM _ _ _ _).mono ?_;rintro e w' ⟨rfl,rfl⟩;first|rw[ah I1]|rw[ah I2]|rw[ah I3]);refine(ah CS _).mono ?_;rintro e w1 ⟨rfl,b1⟩;have R1:=(ah R0).next b1
  have d4:=R1.c4;have d5:=R1.c5;have B1:=aj (ak (ah B0) b1);clear R1 R0 B0 b1;go_wp2_with fail;all_goals go_ret
  all_goals refine⟨fK ?_,ah B1⟩
  all_goals rw[ah N]
  all_goals clear N CS d4 d5 B1 I1 I2 I3
  all_goals simp only[ano,ne_eq,amB] at *
  all_goals split
  all_goals first|rfl|omega|(split<;>omega)
 by_cases k3:k=3
 ·subst k3;obtain⟨E,hE⟩:∃E,E=aG true s:=⟨_,rfl⟩;have CS:Hid (∀W:World,Calls prog 28 #[.string s] W λe w'=>e=.returned (.int .i64 E)/\Below W.heap.size W w'):=aj (λW=>by rw[hE];exact nN s W hs);have N:Hid (jB 3 q t s h d=if E≠0 then E else if h.size+d.size=0 then 0 else 1):=aj (by rw[ah M,if_neg (by decide),if_pos rfl];unfold KJ;rw[<-hE]);clear hE M k1;go_enter func116,ntmps116;go_wp2_with (go_at_call 11;refine(lM _ _ _ _).mono ?_;rintro e w' ⟨rfl,rfl⟩;first|rw[ah I1]|rw[ah I2]|rw[ah I3]);refine(ah CS _).mono ?_;rintro e w1 ⟨rfl,b1⟩
  have R1:=(ah R0).next b1;have d4:=R1.c4;have d5:=R1.c5;have B1:=aj (ak (ah B0) b1);clear R1 R0 B0 b1;go_wp2_with fail;all_goals go_ret
  all_goals refine⟨fK ?_,ah B1⟩
  all_goals rw[ah N]
  all_goals clear N CS d4 d5 B1 I1 I2 I3
  all_goals simp only[uD,amo,akL,amJ,ajw,ajP,ano,ne_eq,amB] at *
  all_goals split
  all_goals first|rfl|omega|(split<;>omega)
 ·have N:Hid (jB k q t s h d=if s.size+(h.size+d.size)=0 then 0 else 1):=aj (by rw[ah M,if_neg k1,if_neg k3];rfl);have n1:(k==1)=false:=by simp;omega
  have n3:(k==3)=false:=by simp;omega
  clear M k1 k3;go_enter func116,ntmps116;go_wp2_with (go_at_call 11;refine(lM _ _ _ _).mono ?_;rintro e w' ⟨rfl,rfl⟩;first|rw[ah I1]|rw[ah I2]|rw[ah I3]);all_goals go_ret
  all_goals refine⟨fK ?_,ah B0⟩
  all_goals rw[ah N]
  all_goals clear N R0 B0 I1 I2 I3
  all_goals simp only[uD,amo,akL,amJ,ajw,ajP] at *
  all_goals first|(rw[if_pos (by omega)];done)|(rw[if_neg (by omega)];done)
theorem qG (k q t:Int)(s h d:ByteArray)(w:World)(hs:s.size<=140737488355328)(hh:h.size<=140737488355328)(hd:d.size<=140737488355328) :
 Calls prog 116 #[.agg #[.int .i64 k,.int .i64 q,.int .i64 t,.string s,.string h,.string d]] w λe w'=>e=.returned (.int .i64 (jB k q t s h d))/\Below w.heap.size w w':=by
 cases hI:Pk.QB k q t with
 | false=>exact SK k q t s h d w hI
 | true=>exact VZ k q t s h d w hs hh hd hI
