/- A part. -/
import Derived.Test.YtophdoapcdjnjaaGreatDoorQ9
set_option maxRecDepth 100000
set_option maxHeartbeats 8000000
namespace Go.Proofs.YtophdoapcdjnjaaGreatDoor
open Go.RowKit Go.Proofs.Tryz
def Et (s h d:ByteArray):Int:=if aB false s≠0 then aB false s else if 256<h.size+d.size then 2 else 0
def Eu (s h d:ByteArray):Int:=if aB true s≠0 then aB true s else if h.size+d.size=0 then 0 else 1
def GH (s h d:ByteArray):Int:=if s.size+(h.size+d.size)=0 then 0 else 1
def qB (k q t:Int)(s h d:ByteArray):Int:=Pk.chk ⟨k,q,t,s.data.toList,h.data.toList,d.data.toList⟩
theorem xE (s:ByteArray):s.data.toList.length=s.size:=by simp
theorem OU (s:ByteArray):(s.toList=[])=(s.size=0):=by
 rw[ByteArray.toList_eq,<-xE,List.length_eq_zero_iff]
theorem OV (s:ByteArray):s.toList.isEmpty=decide (s.size=0):=by
 rw[ByteArray.toList_eq,<-xE,Bool.eq_iff_iff,List.isEmpty_iff,decide_eq_true_eq,List.length_eq_zero_iff]
theorem vN (k q t:Int)(s h d:ByteArray):qB k q t s h d=if Pk.inB k q t=false then 1 else if k=1 then Et s h d else if k=3 then Eu s h d else GH s h d:=by
 unfold qB Pk.chk Et Eu GH aB;simp only[xE]
theorem Ll (k q t:Int)(s h d:ByteArray)(w:World)(hs:s.size<=140737488355328)(hh:h.size<=140737488355328)(hd:d.size<=140737488355328) :
 Calls prog 102 #[.agg #[.int .i64 k,.int .i64 q,.int .i64 t,.string s,.string h,.string d]] w λe w'=>e=.returned (.int .i64 (Et s h d))/\Below w.heap.size w w':=by
 obtain⟨E,hE⟩:∃E,E=aB false s:=⟨_,rfl⟩;have C:Hid (∀W:World,Calls prog 42 #[.string s] W λe w'=>e=.returned (.int .i64 E)/\Below W.heap.size W w'):=aj (λW=>by rw[hE];exact dn s W hs);have R0:=aj (RB.new w k q t s h d 45);have B0:Hid (Below w.heap.size w (w.alloc (.cells #[.int .i64 k,.int .i64 q,.int .i64 t,.string s,.string h,.string d] 45))):=aj ((Below.refl _ _).alloc (Nat.le_refl _) _);have M:Hid (Et s h d=if E≠0 then E else if 256<h.size+d.size then 2 else 0):=aj (by unfold Et;rw[<-hE]);clear hE;go_enter func102,ntmps102;go_wp2_with fail;refine(ah C _).mono ?_
 rintro e w1 ⟨rfl,b1⟩;have R1:=(ah R0).next b1;have c4:=R1.c4;have c5:=R1.c5;have B1:=aj (aA (ah B0) b1);clear R1 R0 B0 b1;go_wp2_with fail;all_goals go_ret
 all_goals refine⟨jD ?_,ah B1⟩
 all_goals rw[ah M]
 all_goals clear M C c4 c5 B1
 all_goals simp only[bne_iff_ne,ne_eq,bne_eq_false_iff_eq] at *
 all_goals split
 all_goals first|rfl|omega|(split<;>omega)
theorem Lm (k q t:Int)(s h d:ByteArray)(w:World)(hs:s.size<=140737488355328) :
 Calls prog 103 #[.agg #[.int .i64 k,.int .i64 q,.int .i64 t,.string s,.string h,.string d]] w λe w'=>e=.returned (.int .i64 (Eu s h d))/\Below w.heap.size w w':=by
 obtain⟨E,hE⟩:∃E,E=aB true s:=⟨_,rfl⟩;have C:Hid (∀W:World,Calls prog 41 #[.string s] W λe w'=>e=.returned (.int .i64 E)/\Below W.heap.size W w'):=aj (λW=>by rw[hE];exact filter_any s W hs);have R0:=aj (RB.new w k q t s h d 45);have B0:Hid (Below w.heap.size w (w.alloc (.cells #[.int .i64 k,.int .i64 q,.int .i64 t,.string s,.string h,.string d] 45))):=aj ((Below.refl _ _).alloc (Nat.le_refl _) _);have M:Hid (Eu s h d=if E≠0 then E else if h.size+d.size=0 then 0 else 1):=aj (by unfold Eu;rw[<-hE]);clear hE;go_enter func103,ntmps103;go_wp2_with fail;refine(ah C _).mono ?_
 rintro e w1 ⟨rfl,b1⟩;have R1:=(ah R0).next b1;have c4:=R1.c4;have c5:=R1.c5;have B1:=aj (aA (ah B0) b1);clear R1 R0 B0 b1;go_wp2_with fail;all_goals go_ret
 all_goals refine⟨jD ?_,ah B1⟩
 all_goals rw[ah M]
 all_goals clear M C c4 c5 B1
 all_goals simp only[OV,OU,Bool.not_eq_true',Bool.not_eq_false',decide_eq_true_eq,decide_eq_false_iff_not,bne_iff_ne,ne_eq,bne_eq_false_iff_eq] at *
 all_goals split
 all_goals first|rfl|omega|(split<;>omega)
theorem zN (k q t:Int)(s h d:ByteArray)(w:World) :
 Calls prog 104 #[.agg #[.int .i64 k,.int .i64 q,.int .i64 t,.string s,.string h,.string d]] w λe w'=>e=.returned (.int .i64 (GH s h d))/\Below w.heap.size w w':=by
 have B0:Hid (Below w.heap.size w (w.alloc (.cells #[.int .i64 k,.int .i64 q,.int .i64 t,.string s,.string h,.string d] 45))):=aj ((Below.refl _ _).alloc (Nat.le_refl _) _);go_enter func104,ntmps104;go_wp2_with fail;all_goals go_ret
 all_goals refine⟨jD ?_,ah B0⟩
 all_goals unfold GH
 all_goals simp only[OV,OU,Bool.not_eq_true',Bool.not_eq_false',decide_eq_true_eq,decide_eq_false_iff_not] at *
 all_goals first|(rw[if_pos (by omega)];done)|(rw[if_neg (by omega)];done)
theorem Jo {k q t:Int}{s h d:ByteArray}(b:Pk.inB k q t=false):qB k q t s h d=1:=by rw[vN,if_pos b]
theorem BK {k q t:Int}{s h d:ByteArray}(b:Pk.inB k q t=true):qB k q t s h d=if k=1 then Et s h d else if k=3 then Eu s h d else GH s h d:=by rw[vN,if_neg (by rw[b];decide)]
theorem zO {k q t:Int}:Pk.inB k q t=false↔¬(1<=k/\k<=4/\1<=q/\q<=1099511627776/\0<=t/\t<=1099511627776):=by
 rw[<-Pk.kF];simp
theorem check_any (k q t:Int)(s h d:ByteArray)(w:World)(hs:s.size<=140737488355328)(hh:h.size<=140737488355328)(hd:d.size<=140737488355328) :
 Calls prog 76 #[.agg #[.int .i64 k,.int .i64 q,.int .i64 t,.string s,.string h,.string d]] w λe w'=>e=.returned (.int .i64 (qB k q t s h d))/\Below w.heap.size w w':=by
 have B0:Hid (Below w.heap.size w (w.alloc (.cells #[.int .i64 k,.int .i64 q,.int .i64 t,.string s,.string h,.string d] 45))):=aj ((Below.refl _ _).alloc (Nat.le_refl _) _);by_cases hq:1<=q/\q<=1099511627776/\0<=t/\t<=1099511627776
 ·obtain⟨q1,q2,q3,q4⟩:=hq;by_cases k1:k=1
  ·have M:Hid (qB k q t s h d=Et s h d):=aj (by rw[BK (Pk.kF.2 (by omega)),if_pos k1]);subst k1;go_enter func76,ntmps76;go_wp2_with fail;refine(Ll _ _ _ _ _ _ _ hs hh hd).mono ?_;rintro e w1 ⟨rfl,b1⟩;go_wp2_with fail;go_ret;exact⟨jD (ah M).symm,aA (ah B0) b1⟩
  by_cases k3:k=3
  ·have M:Hid (qB k q t s h d=Eu s h d):=aj (by rw[BK (Pk.kF.2 (by omega)),if_neg k1,if_pos k3]);clear k1;subst k3;go_enter func76,ntmps76;go_wp2_with fail;refine(Lm _ _ _ _ _ _ _ hs).mono ?_;rintro e w1 ⟨rfl,b1⟩;go_wp2_with fail;go_ret;exact⟨jD (ah M).symm,aA (ah B0) b1⟩
  by_cases k2:k=2
  ·have M:Hid (qB k q t s h d=GH s h d):=aj (by rw[BK (Pk.kF.2 (by omega)),if_neg k1,if_neg k3]);clear k1 k3;subst k2;go_enter func76,ntmps76;go_wp2_with fail;refine(zN _ _ _ _ _ _ _).mono ?_;rintro e w1 ⟨rfl,b1⟩;go_wp2_with fail;go_ret;exact⟨jD (ah M).symm,aA (ah B0) b1⟩
  by_cases k4:k=4
  ·have M:Hid (qB k q t s h d=GH s h d):=aj (by rw[BK (Pk.kF.2 (by omega)),if_neg k1,if_neg k3]);clear k1 k3 k2;subst k4;go_enter func76,ntmps76;go_wp2_with fail;refine(zN _ _ _ _ _ _ _).mono ?_;rintro e w1 ⟨rfl,b1⟩;go_wp2_with fail;go_ret;exact⟨jD (ah M).symm,aA (ah B0) b1⟩
  have M:Hid (qB k q t s h d=1):=aj (Jo (zO.2 (by omega)));have n1:(k==1)=false:=by simp;omega
  have n2:(k==2)=false:=by simp;omega
  have n3:(k==3)=false:=by simp;omega
  have n4:(k==4)=false:=by simp;omega
  clear k1 k2 k3 k4;go_enter func76,ntmps76;go_wp2_with fail;go_ret;exact⟨jD (ah M).symm,ah B0⟩
 ·have M:Hid (qB k q t s h d=1):=aj (Jo (zO.2 (by omega)));have HQ:=aj hq;clear hq;go_enter func76,ntmps76;go_wp2_with fail;all_goals first
   | (go_ret;exact⟨jD (ah M).symm,ah B0⟩)
   | (exfalso;have:=ah HQ;omega)
