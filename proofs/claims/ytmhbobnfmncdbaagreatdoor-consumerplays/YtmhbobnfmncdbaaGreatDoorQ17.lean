/- A part. -/
import Derived.Test.YtmhbobnfmncdbaaGreatDoorQ10
import Derived.Test.YtmhbobnfmncdbaaGreatDoorQ11
set_option maxRecDepth 100000
set_option maxHeartbeats 8000000
namespace Go.Proofs.YtmhbobnfmncdbaaGreatDoor
open Go.RowKit Go.Proofs.Tryz
theorem aaN (a b:ByteArray):((a++b).toList=[])=(a.size+b.size=0):=by rw[IG,ByteArray.size_append]
theorem AV (k q t:Int):Pk.inB k q t=(dX k 1 4&&(dX q 1 1099511627776&&dX t 0 1099511627776)):=by
 unfold Pk.inB dX
 cases decide (1<=k)<;>cases decide (k<=4)<;>cases decide (1<=q)<;>cases decide (q<=1099511627776)<;>rfl
theorem F9 (k q t:Int)(s h d:ByteArray)(w:World)(hI:Pk.inB k q t=false) :
 Calls prog 90 #[.agg #[.int .i64 k,.int .i64 q,.int .i64 t,.string s,.string h,.string d]] w λe w'=>e=.returned (.int .i64 (iW k q t s h d))/\Below w.heap.size w w':=by
 have R0:=aj (RB.new w k q t s h d 33);have B0:Hid (Below w.heap.size w (w.alloc (.cells #[.int .i64 k,.int .i64 q,.int .i64 t,.string s,.string h,.string d] 33))):=aj ((Below.refl _ _).alloc (Nat.le_refl _) _);have M:Hid (iW k q t s h d=1):=aj (Dh hI);rw[AV] at hI
 cases i1:dX k 1 4 with
 | false =>
  have I1:=aj i1;have I2:=aj i1;have I3:=aj i1;clear hI i1;go_enter func90,ntmps90;go_wp2_with (go_at_call 54;refine(iE _ _ _ _).mono ?_;rintro e w' ⟨rfl,rfl⟩;first|rw[ah I1]|rw[ah I2]|rw[ah I3]);go_ret;exact⟨fB (ah M).symm,ah B0⟩
 | true =>
  cases i2:dX q 1 1099511627776 with
  | false =>
   have I1:=aj i1;have I2:=aj i2;have I3:=aj i1;clear hI i1 i2;go_enter func90,ntmps90;go_wp2_with (go_at_call 54;refine(iE _ _ _ _).mono ?_;rintro e w' ⟨rfl,rfl⟩;first|rw[ah I1]|rw[ah I2]|rw[ah I3]);go_ret;exact⟨fB (ah M).symm,ah B0⟩
  | true =>
   cases i3:dX t 0 1099511627776 with
   | false =>
    have I1:=aj i1;have I2:=aj i2;have I3:=aj i3;clear hI i1 i2 i3;go_enter func90,ntmps90;go_wp2_with (go_at_call 54;refine(iE _ _ _ _).mono ?_;rintro e w' ⟨rfl,rfl⟩;first|rw[ah I1]|rw[ah I2]|rw[ah I3]);go_ret;exact⟨fB (ah M).symm,ah B0⟩
   | true=>rw[i1,i2,i3] at hI;cases hI
theorem I4 (k q t:Int)(s h d:ByteArray)(w:World)(hs:s.size<=140737488355328)(hh:h.size<=140737488355328)(hd:d.size<=140737488355328)(hI:Pk.inB k q t=true) :
 Calls prog 90 #[.agg #[.int .i64 k,.int .i64 q,.int .i64 t,.string s,.string h,.string d]] w λe w'=>e=.returned (.int .i64 (iW k q t s h d))/\Below w.heap.size w w':=by
 have R0:=aj (RB.new w k q t s h d 33);have B0:Hid (Below w.heap.size w (w.alloc (.cells #[.int .i64 k,.int .i64 q,.int .i64 t,.string s,.string h,.string d] 33))):=aj ((Below.refl _ _).alloc (Nat.le_refl _) _);have c1:¬9223372036854775807<h.size+d.size:=by omega
 have c2:¬9223372036854775807<s.size+h.size:=by omega
 have c3:¬9223372036854775807<s.size+h.size+d.size:=by omega
 have M:=aj (yj (s:=s) (h:=h) (d:=d) hI);obtain⟨j1,j2,-,-,-,-⟩:=Pk.l9.1 hI;rw[AV] at hI;obtain⟨i1,i2,i3⟩:dX k 1 4=true/\dX q 1 1099511627776=true/\dX t 0 1099511627776=true:=by simpa[Bool.and_eq_true] using hI
 have I1:=aj i1;have I2:=aj i2;have I3:=aj i3;clear hI i1 i2 i3;by_cases k1:k=1
 ·subst k1;obtain⟨E,hE⟩:∃E,E=aA false s:=⟨_,rfl⟩;have CS:Hid (∀W:World,Calls prog 132 #[.string s] W λe w'=>e=.returned (.int .i64 E)/\Below W.heap.size W w'):=aj (λW=>by rw[hE];exact Dc s W hs);have N:Hid (iW 1 q t s h d=if E≠0 then E else if 256<h.size+d.size then 2 else 0):=aj (by rw[ah M,if_pos rfl];unfold xZ;rw[<-hE]);clear hE M;go_enter func90,ntmps90;go_wp2_with (go_at_call 54;refine(iE _ _ _ _).mono ?_;rintro e w' ⟨rfl,rfl⟩;first|rw[ah I1]|rw[ah I2]|rw[ah I3]);refine(ah CS _).mono ?_;rintro e w1 ⟨rfl,b1⟩;have R1:=(ah R0).next b1
  have d4:=R1.c4;have d5:=R1.c5;have B1:=aj (ay (ah B0) b1);clear R1 R0 B0 b1;go_wp2_with fail;all_goals go_ret
  all_goals refine⟨fB ?_,ah B1⟩
  all_goals rw[ah N]
  all_goals clear N CS d4 d5 B1 I1 I2 I3
  all_goals simp only[bne_iff_ne,ne_eq,bne_eq_false_iff_eq] at *
  all_goals split
  all_goals first|rfl|omega|(split<;>omega)
 by_cases k3:k=3
 ·subst k3;obtain⟨E,hE⟩:∃E,E=aA true s:=⟨_,rfl⟩;have CS:Hid (∀W:World,Calls prog 53 #[.string s] W λe w'=>e=.returned (.int .i64 E)/\Below W.heap.size W w'):=aj (λW=>by rw[hE];exact oP s W hs);have N:Hid (iW 3 q t s h d=if E≠0 then E else if h.size+d.size=0 then 0 else 1):=aj (by rw[ah M,if_neg (by decide),if_pos rfl];unfold yg;rw[<-hE]);clear hE M k1;go_enter func90,ntmps90;go_wp2_with (go_at_call 54;refine(iE _ _ _ _).mono ?_;rintro e w' ⟨rfl,rfl⟩;first|rw[ah I1]|rw[ah I2]|rw[ah I3]);refine(ah CS _).mono ?_;rintro e w1 ⟨rfl,b1⟩;have R1:=(ah R0).next b1
  have d4:=R1.c4;have d5:=R1.c5;have B1:=aj (ay (ah B0) b1);clear R1 R0 B0 b1;go_wp2_with fail;all_goals go_ret
  all_goals refine⟨fB ?_,ah B1⟩
  all_goals rw[ah N]
  all_goals clear N CS d4 d5 B1 I1 I2 I3
  all_goals simp only[Df,ByteArray.size_append,Bool.not_eq_true',Bool.not_eq_false',decide_eq_true_eq,decide_eq_false_iff_not,bne_iff_ne,ne_eq,bne_eq_false_iff_eq] at *
  all_goals split
  all_goals first|rfl|omega|(split<;>omega)
 ·have N:Hid (iW k q t s h d=if s.size+(h.size+d.size)=0 then 0 else 1):=aj (by rw[ah M,if_neg k1,if_neg k3];rfl);have n1:(k==1)=false:=by simp;omega
  have n3:(k==3)=false:=by simp;omega
  clear M k1 k3;go_enter func90,ntmps90;go_wp2_with (go_at_call 54;refine(iE _ _ _ _).mono ?_;rintro e w' ⟨rfl,rfl⟩;first|rw[ah I1]|rw[ah I2]|rw[ah I3]);all_goals go_ret
  all_goals refine⟨fB ?_,ah B0⟩
  all_goals rw[ah N]
  all_goals clear N R0 B0 I1 I2 I3
  all_goals simp only[Df,ByteArray.size_append,Bool.not_eq_true',Bool.not_eq_false',decide_eq_true_eq,decide_eq_false_iff_not] at *
  all_goals first|(rw[if_pos (by omega)];done)|(rw[if_neg (by omega)];done)
theorem Gf (k q t:Int)(s h d:ByteArray)(w:World)(hs:s.size<=140737488355328)(hh:h.size<=140737488355328)(hd:d.size<=140737488355328) :
 Calls prog 90 #[.agg #[.int .i64 k,.int .i64 q,.int .i64 t,.string s,.string h,.string d]] w λe w'=>e=.returned (.int .i64 (iW k q t s h d))/\Below w.heap.size w w':=by
 cases hI:Pk.inB k q t with
 | false=>exact F9 k q t s h d w hI
 | true=>exact I4 k q t s h d w hs hh hd hI
