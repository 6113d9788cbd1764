/- A part of the proof. -/
import Derived.Test.YtidekgipblnpkaaGreatDoorQ5
import Derived.Test.YtidekgipblnpkaaGreatDoorQ9
set_option maxRecDepth 100000
set_option maxHeartbeats 8000000
namespace Go.Proofs.YtidekgipblnpkaaGreatDoor
open Go.RowKit Go.Proofs.Tryz
def LQ (s h d:ByteArray):Int:=if aC false s≠0 then aC false s else if 256<h.size+d.size then 2 else 0
def LU (s h d:ByteArray):Int:=if aC true s≠0 then aC true s else if h.size+d.size=0 then 0 else 1
def W9 (s h d:ByteArray):Int:=if s.size+(h.size+d.size)=0 then 0 else 1
def jP (k q t:Int)(s h d:ByteArray):Int:=Pk.chk ⟨k,q,t,s.data.toList,h.data.toList,d.data.toList⟩
theorem jF (s:ByteArray):s.data.toList.length=s.size:=by simp
theorem Df (s:ByteArray):(s.toList=[])=(s.size=0):=by
 rw[ByteArray.toList_eq,<-jF,List.length_eq_zero_iff]
theorem uQ (s:ByteArray):s.toList.isEmpty=decide (s.size=0):=by
 rw[ByteArray.toList_eq,<-jF,Bool.eq_iff_iff,List.isEmpty_iff,decide_eq_true_eq,List.length_eq_zero_iff]
theorem xZ (k q t:Int)(s h d:ByteArray):jP k q t s h d=if Pk.inB k q t=false then 1 else if k=1 then LQ s h d else if k=3 then LU s h d else W9 s h d:=by
 unfold jP Pk.chk LQ LU W9 aC;simp only[jF]
theorem aa5 (k q t:Int)(s h d:ByteArray)(w:World)(hs:s.size<=140737488355328)(hh:h.size<=140737488355328)(hd:d.size<=140737488355328) :
 Calls prog 206 #[.agg #[.int .i64 k,.int .i64 q,.int .i64 t,.string s,.string h,.string d]] w λe w'=>e=.returned (.int .i64 (LQ s h d))/\Below w.heap.size w w':=by
 obtain⟨E,hE⟩:∃E,E=aC false s:=⟨_,rfl⟩;have C:Hid (∀W:World,Calls prog 95 #[.string s] W λe w'=>e=.returned (.int .i64 E)/\Below W.heap.size W w'):=aj (λW=>by rw[hE];exact fE s W hs);have R0:=aj (RB.new w k q t s h d 73);have B0:Hid (Below w.heap.size w (w.alloc (.cells #[.int .i64 k,.int .i64 q,.int .i64 t,.string s,.string h,.string d] 73))):=aj ((Below.refl _ _).alloc (Nat.le_refl _) _);have M:Hid (LQ s h d=if E≠0 then E else if 256<h.size+d.size then 2 else 0):=aj (by unfold LQ;rw[<-hE]);clear hE;go_enter func206,ntmps206
 go_wp2_with fail
 refine(ah C _).mono ?_;rintro e w1 ⟨rfl,b1⟩;have R1:=(ah R0).next b1;have c4:=R1.c4;have c5:=R1.c5;have B1:=aj (ak (ah B0) b1);clear R1 R0 B0 b1;go_wp2_with fail
 all_goals go_ret
 all_goals refine⟨fV ?_,ah B1⟩
 all_goals rw[ah M]
 all_goals clear M C c4 c5 B1
 all_goals simp only[bne_iff_ne,ne_eq,bne_eq_false_iff_eq] at *
 all_goals split
 all_goals first|rfl|omega|(split<;>omega)
theorem aa6 (k q t:Int)(s h d:ByteArray)(w:World)(hs:s.size<=140737488355328) :
 Calls prog 207 #[.agg #[.int .i64 k,.int .i64 q,.int .i64 t,.string s,.string h,.string d]] w λe w'=>e=.returned (.int .i64 (LU s h d))/\Below w.heap.size w w':=by
 obtain⟨E,hE⟩:∃E,E=aC true s:=⟨_,rfl⟩;have C:Hid (∀W:World,Calls prog 105 #[.string s] W λe w'=>e=.returned (.int .i64 E)/\Below W.heap.size W w'):=aj (λW=>by rw[hE];exact filter_any s W hs);have R0:=aj (RB.new w k q t s h d 73);have B0:Hid (Below w.heap.size w (w.alloc (.cells #[.int .i64 k,.int .i64 q,.int .i64 t,.string s,.string h,.string d] 73))):=aj ((Below.refl _ _).alloc (Nat.le_refl _) _);have M:Hid (LU s h d=if E≠0 then E else if h.size+d.size=0 then 0 else 1):=aj (by unfold LU;rw[<-hE]);clear hE;go_enter func207,ntmps207
 go_wp2_with fail
 refine(ah C _).mono ?_;rintro e w1 ⟨rfl,b1⟩;have R1:=(ah R0).next b1;have c4:=R1.c4;have c5:=R1.c5;have B1:=aj (ak (ah B0) b1);clear R1 R0 B0 b1;go_wp2_with fail
 all_goals go_ret
 all_goals refine⟨fV ?_,ah B1⟩
 all_goals rw[ah M]
 all_goals clear M C c4 c5 B1
 all_goals simp only[uQ,Df,Bool.not_eq_true',Bool.not_eq_false',decide_eq_true_eq,decide_eq_false_iff_not,bne_iff_ne,ne_eq,bne_eq_false_iff_eq] at *
 all_goals split
 all_goals first|rfl|omega|(split<;>omega)
theorem NR (k q t:Int)(s h d:ByteArray)(w:World) :
 Calls prog 208 #[.agg #[.int .i64 k,.int .i64 q,.int .i64 t,.string s,.string h,.string d]] w λe w'=>e=.returned (.int .i64 (W9 s h d))/\Below w.heap.size w w':=by
 have B0:Hid (Below w.heap.size w (w.alloc (.cells #[.int .i64 k,.int .i64 q,.int .i64 t,.string s,.string h,.string d] 73))):=aj ((Below.refl _ _).alloc (Nat.le_refl _) _);go_enter func208,ntmps208
 go_wp2_with fail
 all_goals go_ret
 all_goals refine⟨fV ?_,ah B0⟩
 all_goals unfold W9
 all_goals simp only[uQ,Df,Bool.not_eq_true',Bool.not_eq_false',decide_eq_true_eq,decide_eq_false_iff_not] at *
 all_goals first|(rw[if_pos (by omega)];done)|(rw[if_neg (by omega)];done)
theorem Qn {k q t:Int}{s h d:ByteArray}(b:Pk.inB k q t=false):jP k q t s h d=1:=by rw[xZ,if_pos b]
theorem J5 {k q t:Int}{s h d:ByteArray}(b:Pk.inB k q t=true):jP k q t s h d=if k=1 then LQ s h d else if k=3 then LU s h d else W9 s h d:=by rw[xZ,if_neg (by rw[b];decide)]
theorem NS {k q t:Int}:Pk.inB k q t=false↔¬(1<=k/\k<=4/\1<=q/\q<=1099511627776/\0<=t/\t<=1099511627776):=by
 rw[<-Pk.oW];simp
theorem check_any (k q t:Int)(s h d:ByteArray)(w:World)(hs:s.size<=140737488355328)(hh:h.size<=140737488355328)(hd:d.size<=140737488355328) :
 Calls prog 174 #[.agg #[.int .i64 k,.int .i64 q,.int .i64 t,.string s,.string h,.string d]] w λe w'=>e=.returned (.int .i64 (jP k q t s h d))/\Below w.heap.size w w':=by
 have B0:Hid (Below w.heap.size w (w.alloc (.cells #[.int .i64 k,.int .i64 q,.int .i64 t,.string s,.string h,.string d] 73))):=aj ((Below.refl _ _).alloc (Nat.le_refl _) _);by_cases hq:1<=q/\q<=1099511627776/\0<=t/\t<=1099511627776
 ·obtain⟨q1,q2,q3,q4⟩:=hq;by_cases k1:k=1
  ·have M:Hid (jP k q t s h d=LQ s h d):=aj (by rw[J5 (Pk.oW.2 (by omega)),if_pos k1]);subst k1;go_enter func174,ntmps174
   go_wp2_with fail
   refine(aa5 _ _ _ _ _ _ _ hs hh hd).mono ?_;rintro e w1 ⟨rfl,b1⟩;go_wp2_with fail
   go_ret
   exact⟨fV (ah M).symm,ak (ah B0) b1⟩
  by_cases k3:k=3
  ·have M:Hid (jP k q t s h d=LU s h d):=aj (by rw[J5 (Pk.oW.2 (by omega)),if_neg k1,if_pos k3]);clear k1;subst k3;go_enter func174,ntmps174
   go_wp2_with fail
   refine(aa6 _ _ _ _ _ _ _ hs).mono ?_;rintro e w1 ⟨rfl,b1⟩;go_wp2_with fail
   go_ret
   exact⟨fV (ah M).symm,ak (ah B0) b1⟩
  by_cases k2:k=2
  ·have M:Hid (jP k q t s h d=W9 s h d):=aj (by rw[J5 (Pk.oW.2 (by omega)),if_neg k1,if_neg k3]);clear k1 k3;subst k2;go_enter func174,ntmps174
   go_wp2_with fail
   refine(NR _ _ _ _ _ _ _).mono ?_;rintro e w1 ⟨rfl,b1⟩;go_wp2_with fail
   go_ret
   exact⟨fV (ah M).symm,ak (ah B0) b1⟩
  by_cases k4:k=4
  ·have M:Hid (jP k q t s h d=W9 s h d):=aj (by rw[J5 (Pk.oW.2 (by omega)),if_neg k1,if_neg k3]);clear k1 k3 k2;subst k4;go_enter func174,ntmps174
   go_wp2_with fail
   refine(NR _ _ _ _ _ _ _).mono ?_;rintro e w1 ⟨rfl,b1⟩;go_wp2_with fail
   go_ret
   exact⟨fV (ah M).symm,ak (ah B0) b1⟩
  have M:Hid (jP k q t s h d=1):=aj (Qn (NS.2 (by omega)));have n1:(k==1)=false:=by simp;omega
  have n2:(k==2)=false:=by simp;omega
  have n3:(k==3)=false:=by simp;omega
  have n4:(k==4)=false:=by simp;omega
  clear k1 k2 k3 k4;go_enter func174,ntmps174
  go_wp2_with fail
  go_ret
  exact⟨fV (ah M).symm,ah B0⟩
 ·have M:Hid (jP k q t s h d=1):=aj (Qn (NS.2 (by omega)));have HQ:=aj hq;clear hq;go_enter func174,ntmps174
  go_wp2_with fail
  all_goals first
   | (go_ret;exact⟨fV (ah M).symm,ah B0⟩)
   | (exfalso;have:=ah HQ;omega)
def LV (k q t:Int)(s h d:ByteArray):Value :=
 .tuple #[.string (if jP k q t s h d=0 then bs (Pk.tV ⟨k,q,t,s.data.toList,h.data.toList,d.data.toList⟩) else ⟨#[]⟩),.int .i64 (jP k q t s h d)]
theorem Ud {k q t:Int}{s h d:ByteArray}{E:Int}(hE:jP k q t s h d=E)(h0:E≠0):LV k q t s h d=.tuple #[.string ⟨#[]⟩,.int .i64 E]:=by
 unfold LV;rw[hE,if_neg h0]
theorem NT {k q t:Int}{s h d:ByteArray}(hE:jP k q t s h d=0):LV k q t s h d=.tuple #[.string (bs (Pk.tV ⟨k,q,t,s.data.toList,h.data.toList,d.data.toList⟩)),.int .i64 0]:=by
 unfold LV;rw[hE,if_pos rfl]
theorem J6 (k q t:Int)(s h d:ByteArray)(w:World)(hs:s.size<=140737488355328)(hh:h.size<=140737488355328)(hd:d.size<=140737488355328) :
 Calls prog 177 #[.agg #[.int .i64 k,.int .i64 q,.int .i64 t,.string s,.string h,.string d]] w λe w'=>e=.returned (LV k q t s h d)/\Below w.heap.size w w':=by
 obtain⟨E,hE⟩:∃E,jP k q t s h d=E:=⟨_,rfl⟩;have R0:=aj (RB.new w k q t s h d 73);have B0:Hid (Below w.heap.size w (w.alloc (.cells #[.int .i64 k,.int .i64 q,.int .i64 t,.string s,.string h,.string d] 73))):=aj ((Below.refl _ _).alloc (Nat.le_refl _) _);by_cases h0:E=0
 ·subst h0;obtain⟨k1,k2,q1,q2,t1,t2,s1,s2⟩:=Pk.oZ (r:=⟨k,q,t,s.data.toList,h.data.toList,d.data.toList⟩) hE;simp only[jF] at s1 s2;obtain⟨B,hB⟩:∃B,B=bs (Pk.oH ⟨k,q,t,s.data.toList,h.data.toList,d.data.toList⟩):=⟨_,rfl⟩;have zB:B.size<=1024:=by rw[hB,aO];exact(Pk.uj hE).2
  obtain⟨X,hX⟩:∃X,X=bs (Pk.txt B.data.toList):=⟨_,rfl⟩;obtain⟨Y,hY⟩:∃Y,Y=bs (Pk.le4 (Pk.crc B.data.toList)):=⟨_,rfl⟩;have zX:X.size<=1033:=by
   rw[hX,aO,Pk.txt,List.length_append,jF];have:=Pk.jY (n:=B.size) (by omega);omega
  have zY:Y.size=4:=by rw[hY,aO];rfl
  have zC:¬9223372036854775807<X.size+Y.size:=by omega
  have HE:=aj hE;have R:Hid (LV k q t s h d=.tuple #[.string (X++Y),.int .i64 0]):=aj (by
   rw[NT hE,hX,hY,oK,hB,dB];rfl)
  have CB:Hid (∀W:World,Calls prog 210 #[.agg #[.int .i64 k,.int .i64 q,.int .i64 t,.string s,.string h,.string d]] W λe w'=>e=.returned (.string B)/\Below W.heap.size W w') :=
   aj (λW=>by rw[hB];exact V9 k q t s h d W k1 k2 q2 t2 (by omega) (by omega) (by omega))
  have CX:Hid (∀W:World,Calls prog 211 #[.string B] W λe w'=>e=.returned (.string X)/\Below W.heap.size W w'):=aj (λW=>by rw[hX];exact Ai B W (by omega));have CY:Hid (∀W:World,Calls prog 212 #[.string B] W λe w'=>e=.returned (.string Y)/\Below W.heap.size W w'):=aj (λW=>by rw[hY];exact sJ B W (by omega));clear hE hB hX hY;go_enter func177,ntmps177
  go_wp2_with fail
  refine(check_any _ _ _ _ _ _ _ hs hh hd).mono ?_;rintro e w1 ⟨rfl,b1⟩;rw[ah HE];have R1:=(ah R0).next b1;have B1:=aj (ak (ah B0) b1);obtain⟨_,c0,c1,c2,c3,c4,c5,_⟩:=R1;clear R0 B0 b1;go_wp2_with fail
  refine(ah CB _).mono ?_;rintro e w2 ⟨rfl,b2⟩;clear c0 c1 c2 c3 c4 c5;go_wp2_with fail
  refine(ah CX _).mono ?_;rintro e w3 ⟨rfl,b3⟩;go_wp2_with fail
  refine(ah CY _).mono ?_;rintro e w4 ⟨rfl,b4⟩;go_wp2_with fail
  go_ret2
  exact⟨by rw[ah R];rfl,ak (ak (ak (ah B1) b2) b3) b4⟩
 ·have R:=aj (Ud hE h0);have HE:=aj hE;have h1:(E !=0)=true:=by simpa using h0
  clear hE h0;go_enter func177,ntmps177
  go_wp2_with fail
  refine(check_any _ _ _ _ _ _ _ hs hh hd).mono ?_;rintro e w1 ⟨rfl,b1⟩;rw[ah HE];go_wp2_with fail
  go_ret2
  exact⟨by rw[ah R];rfl,ak (ah B0) b1⟩
end Go.Proofs.YtidekgipblnpkaaGreatDoor
