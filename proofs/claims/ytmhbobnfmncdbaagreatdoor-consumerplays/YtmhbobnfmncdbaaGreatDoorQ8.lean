/- A part. -/
import Derived.Test.YtmhbobnfmncdbaaGreatDoorQ7
set_option maxRecDepth 100000
set_option maxHeartbeats 8000000
namespace Go.Proofs.YtmhbobnfmncdbaaGreatDoor
open Go.RowKit Go.Proofs.Tryz
def xu (s h d:ByteArray):Int:=if aA false s≠0 then aA false s else if 256<h.size+d.size then 2 else 0
def xw (s h d:ByteArray):Int:=if aA true s≠0 then aA true s else if h.size+d.size=0 then 0 else 1
def Hu (s h d:ByteArray):Int:=if s.size+(h.size+d.size)=0 then 0 else 1
def iP (k q t:Int)(s h d:ByteArray):Int:=Pk.chk ⟨k,q,t,s.data.toList,h.data.toList,d.data.toList⟩
theorem xA (s:ByteArray):s.data.toList.length=s.size:=by simp
theorem Hw (s:ByteArray):(s.toList=[])=(s.size=0):=by
 rw[ByteArray.toList_eq,<-xA,List.length_eq_zero_iff]
theorem BK (s:ByteArray):s.toList.isEmpty=decide (s.size=0):=by
 rw[ByteArray.toList_eq,<-xA,Bool.eq_iff_iff,List.isEmpty_iff,decide_eq_true_eq,List.length_eq_zero_iff]
theorem kD (k q t:Int)(s h d:ByteArray):iP k q t s h d=if Pk.inB k q t=false then 1 else if k=1 then xu s h d else if k=3 then xw s h d else Hu s h d:=by
 unfold iP Pk.chk xu xw Hu aA;simp only[xA]
theorem L9 (k q t:Int)(s h d:ByteArray)(w:World)(hs:s.size<=140737488355328)(hh:h.size<=140737488355328)(hd:d.size<=140737488355328) :
 Calls prog 117 #[.agg #[.int .i64 k,.int .i64 q,.int .i64 t,.string s,.string h,.string d]] w λe w'=>e=.returned (.int .i64 (xu s h d))/\Below w.heap.size w w':=by
 obtain⟨E,hE⟩:∃E,E=aA false s:=⟨_,rfl⟩;have C:Hid (∀W:World,Calls prog 72 #[.string s] W λe w'=>e=.returned (.int .i64 E)/\Below W.heap.size W w'):=aj (λW=>by rw[hE];exact dH s W hs);have R0:=aj (RB.new w k q t s h d 33);have B0:Hid (Below w.heap.size w (w.alloc (.cells #[.int .i64 k,.int .i64 q,.int .i64 t,.string s,.string h,.string d] 33))):=aj ((Below.refl _ _).alloc (Nat.le_refl _) _);have M:Hid (xu s h d=if E≠0 then E else if 256<h.size+d.size then 2 else 0):=aj (by unfold xu;rw[<-hE]);clear hE;go_enter func117,ntmps117;go_wp2_with fail;refine(ah C _).mono ?_
 rintro e w1 ⟨rfl,b1⟩;have R1:=(ah R0).next b1;have c4:=R1.c4;have c5:=R1.c5;have B1:=aj (ay (ah B0) b1);clear R1 R0 B0 b1;go_wp2_with fail;all_goals go_ret
 all_goals refine⟨eY ?_,ah B1⟩
 all_goals rw[ah M]
 all_goals clear M C c4 c5 B1
 all_goals simp only[bne_iff_ne,ne_eq,bne_eq_false_iff_eq] at *
 all_goals split
 all_goals first|rfl|omega|(split<;>omega)
theorem Mc (k q t:Int)(s h d:ByteArray)(w:World)(hs:s.size<=140737488355328) :
 Calls prog 118 #[.agg #[.int .i64 k,.int .i64 q,.int .i64 t,.string s,.string h,.string d]] w λe w'=>e=.returned (.int .i64 (xw s h d))/\Below w.heap.size w w':=by
 obtain⟨E,hE⟩:∃E,E=aA true s:=⟨_,rfl⟩;have C:Hid (∀W:World,Calls prog 71 #[.string s] W λe w'=>e=.returned (.int .i64 E)/\Below W.heap.size W w'):=aj (λW=>by rw[hE];exact filter_any s W hs);have R0:=aj (RB.new w k q t s h d 33);have B0:Hid (Below w.heap.size w (w.alloc (.cells #[.int .i64 k,.int .i64 q,.int .i64 t,.string s,.string h,.string d] 33))):=aj ((Below.refl _ _).alloc (Nat.le_refl _) _);have M:Hid (xw s h d=if E≠0 then E else if h.size+d.size=0 then 0 else 1):=aj (by unfold xw;rw[<-hE]);clear hE;go_enter func118,ntmps118;go_wp2_with fail;refine(ah C _).mono ?_
 rintro e w1 ⟨rfl,b1⟩;have R1:=(ah R0).next b1;have c4:=R1.c4;have c5:=R1.c5;have B1:=aj (ay (ah B0) b1);clear R1 R0 B0 b1;go_wp2_with fail;all_goals go_ret
 all_goals refine⟨eY ?_,ah B1⟩
 all_goals rw[ah M]
 all_goals clear M C c4 c5 B1
 all_goals simp only[BK,Hw,Bool.not_eq_true',Bool.not_eq_false',decide_eq_true_eq,decide_eq_false_iff_not,bne_iff_ne,ne_eq,bne_eq_false_iff_eq] at *
 all_goals split
 all_goals first|rfl|omega|(split<;>omega)
theorem zL (k q t:Int)(s h d:ByteArray)(w:World) :
 Calls prog 119 #[.agg #[.int .i64 k,.int .i64 q,.int .i64 t,.string s,.string h,.string d]] w λe w'=>e=.returned (.int .i64 (Hu s h d))/\Below w.heap.size w w':=by
 have B0:Hid (Below w.heap.size w (w.alloc (.cells #[.int .i64 k,.int .i64 q,.int .i64 t,.string s,.string h,.string d] 33))):=aj ((Below.refl _ _).alloc (Nat.le_refl _) _);go_enter func119,ntmps119;go_wp2_with fail;all_goals go_ret
 all_goals refine⟨eY ?_,ah B0⟩
 all_goals unfold Hu
 all_goals simp only[BK,Hw,Bool.not_eq_true',Bool.not_eq_false',decide_eq_true_eq,decide_eq_false_iff_not] at *
 all_goals first|(rw[if_pos (by omega)];done)|(rw[if_neg (by omega)];done)
theorem BM {k q t:Int}{s h d:ByteArray}(b:Pk.inB k q t=false):iP k q t s h d=1:=by rw[kD,if_pos b]
theorem xB {k q t:Int}{s h d:ByteArray}(b:Pk.inB k q t=true):iP k q t s h d=if k=1 then xu s h d else if k=3 then xw s h d else Hu s h d:=by rw[kD,if_neg (by rw[b];decide)]
theorem zM {k q t:Int}:Pk.inB k q t=false↔¬(1<=k/\k<=4/\1<=q/\q<=1099511627776/\0<=t/\t<=1099511627776):=by
 rw[<-Pk.lS];simp
theorem check_any (k q t:Int)(s h d:ByteArray)(w:World)(hs:s.size<=140737488355328)(hh:h.size<=140737488355328)(hd:d.size<=140737488355328) :
 Calls prog 80 #[.agg #[.int .i64 k,.int .i64 q,.int .i64 t,.string s,.string h,.string d]] w λe w'=>e=.returned (.int .i64 (iP k q t s h d))/\Below w.heap.size w w':=by
 have B0:Hid (Below w.heap.size w (w.alloc (.cells #[.int .i64 k,.int .i64 q,.int .i64 t,.string s,.string h,.string d] 33))):=aj ((Below.refl _ _).alloc (Nat.le_refl _) _);by_cases hq:1<=q/\q<=1099511627776/\0<=t/\t<=1099511627776
 ·obtain⟨q1,q2,q3,q4⟩:=hq;by_cases k1:k=1
  ·have M:Hid (iP k q t s h d=xu s h d):=aj (by rw[xB (Pk.lS.2 (by omega)),if_pos k1]);subst k1;go_enter func80,ntmps80;go_wp2_with fail;refine(L9 _ _ _ _ _ _ _ hs hh hd).mono ?_;rintro e w1 ⟨rfl,b1⟩;go_wp2_with fail;go_ret;exact⟨eY (ah M).symm,ay (ah B0) b1⟩
  by_cases k3:k=3
  ·have M:Hid (iP k q t s h d=xw s h d):=aj (by rw[xB (Pk.lS.2 (by omega)),if_neg k1,if_pos k3]);clear k1;subst k3;go_enter func80,ntmps80;go_wp2_with fail;refine(Mc _ _ _ _ _ _ _ hs).mono ?_;rintro e w1 ⟨rfl,b1⟩;go_wp2_with fail;go_ret;exact⟨eY (ah M).symm,ay (ah B0) b1⟩
  by_cases k2:k=2
  ·have M:Hid (iP k q t s h d=Hu s h d):=aj (by rw[xB (Pk.lS.2 (by omega)),if_neg k1,if_neg k3]);clear k1 k3;subst k2;go_enter func80,ntmps80;go_wp2_with fail;refine(zL _ _ _ _ _ _ _).mono ?_;rintro e w1 ⟨rfl,b1⟩;go_wp2_with fail;go_ret;exact⟨eY (ah M).symm,ay (ah B0) b1⟩
  by_cases k4:k=4
  ·have M:Hid (iP k q t s h d=Hu s h d):=aj (by rw[xB (Pk.lS.2 (by omega)),if_neg k1,if_neg k3]);clear k1 k3 k2;subst k4;go_enter func80,ntmps80;go_wp2_with fail;refine(zL _ _ _ _ _ _ _).mono ?_;rintro e w1 ⟨rfl,b1⟩;go_wp2_with fail;go_ret;exact⟨eY (ah M).symm,ay (ah B0) b1⟩
  have M:Hid (iP k q t s h d=1):=aj (BM (zM.2 (by omega)));have n1:(k==1)=false:=by simp;omega
  have n2:(k==2)=false:=by simp;omega
  have n3:(k==3)=false:=by simp;omega
  have n4:(k==4)=false:=by simp;omega
  clear k1 k2 k3 k4;go_enter func80,ntmps80;go_wp2_with fail;go_ret;exact⟨eY (ah M).symm,ah B0⟩
 ·have M:Hid (iP k q t s h d=1):=aj (BM (zM.2 (by omega)));have HQ:=aj hq;clear hq;go_enter func80,ntmps80;go_wp2_with fail;all_goals first
   | (go_ret;exact⟨eY (ah M).symm,ah B0⟩)
   | (exfalso;have:=ah HQ;omega)
theorem BN {fn:Func}{a:Tmp}{tmps:Array Value}{w:World}{b:Nat}{k q t:Int}{s h d:ByteArray}(hf:fn.results=#[.cell a 33])(ha:tmps.getD a undef=.pointer (some ⟨b,0,none⟩))(r:RB w b k q t s h d) :
 (results fn tmps).run prog w=.ok (.agg #[.int .i64 k,.int .i64 q,.int .i64 t,.string s,.string h,.string d]) w:=by
 have ha':tmps[a]?.getD undef=.pointer (some ⟨b,0,none⟩):=by simpa using ha
 simp[results,hf,ha',asAddr,nT r]
theorem note_any (n:Int)(w:World) :
 Calls prog 68 #[.int .i64 n] w λe w'=>e=.returned (.agg #[.int .i64 1,.int .i64 n,.int .i64 0,.string ⟨#[97,46,98]⟩,.string ⟨#[]⟩,.string ⟨#[120]⟩])/\Below w.heap.size w w':=by
 go_enter func68,ntmps68;go_wp2_with fail;refine bodyPost_ret (BN rfl rfl (RB.new w 1 n 0 _ _ _ _)) rfl ?_;exact⟨rfl,(Below.refl _ _).alloc (Nat.le_refl _) _⟩
theorem YP:iP 1 1 0 ⟨#[97,46,98]⟩ ⟨#[]⟩ ⟨#[120]⟩=0:=by decide +kernel
theorem YQ:iP 1 2 0 ⟨#[97,46,98]⟩ ⟨#[]⟩ ⟨#[120]⟩=0:=by decide +kernel
theorem ZQ (a b:ByteArray):((a++b).toList=[])=(a.size+b.size=0):=by rw[Hw,ByteArray.size_append]
theorem zN (k q t:Int):Pk.inB k q t=(dR k 1 4&&(dR q 1 1099511627776&&dR t 0 1099511627776)):=by
 unfold Pk.inB dR
 cases decide (1<=k)<;>cases decide (k<=4)<;>cases decide (1<=q)<;>cases decide (q<=1099511627776)<;>rfl
theorem Et (k q t:Int)(s h d:ByteArray)(w:World)(hI:Pk.inB k q t=false) :
 Calls prog 90 #[.agg #[.int .i64 k,.int .i64 q,.int .i64 t,.string s,.string h,.string d]] w λe w'=>e=.returned (.int .i64 (iP k q t s h d))/\Below w.heap.size w w':=by
 have R0:=aj (RB.new w k q t s h d 33);have B0:Hid (Below w.heap.size w (w.alloc (.cells #[.int .i64 k,.int .i64 q,.int .i64 t,.string s,.string h,.string d] 33))):=aj ((Below.refl _ _).alloc (Nat.le_refl _) _);have M:Hid (iP k q t s h d=1):=aj (BM hI);rw[zN] at hI
 cases i1:dR k 1 4 with
 | false =>
  have I1:=aj i1;have I2:=aj i1;have I3:=aj i1;clear hI i1;go_enter func90,ntmps90;go_wp2_with (go_at_call 54;refine(iw _ _ _ _).mono ?_;rintro e w' ⟨rfl,rfl⟩;first|rw[ah I1]|rw[ah I2]|rw[ah I3]);go_ret;exact⟨eY (ah M).symm,ah B0⟩
 | true =>
  cases i2:dR q 1 1099511627776 with
  | false =>
   have I1:=aj i1;have I2:=aj i2;have I3:=aj i1;clear hI i1 i2;go_enter func90,ntmps90;go_wp2_with (go_at_call 54;refine(iw _ _ _ _).mono ?_;rintro e w' ⟨rfl,rfl⟩;first|rw[ah I1]|rw[ah I2]|rw[ah I3]);go_ret;exact⟨eY (ah M).symm,ah B0⟩
  | true =>
   cases i3:dR t 0 1099511627776 with
   | false =>
    have I1:=aj i1;have I2:=aj i2;have I3:=aj i3;clear hI i1 i2 i3;go_enter func90,ntmps90;go_wp2_with (go_at_call 54;refine(iw _ _ _ _).mono ?_;rintro e w' ⟨rfl,rfl⟩;first|rw[ah I1]|rw[ah I2]|rw[ah I3]);go_ret;exact⟨eY (ah M).symm,ah B0⟩
   | true=>rw[i1,i2,i3] at hI;cases hI
theorem Hy (k q t:Int)(s h d:ByteArray)(w:World)(hs:s.size<=140737488355328)(hh:h.size<=140737488355328)(hd:d.size<=140737488355328)(hI:Pk.inB k q t=true) :
 Calls prog 90 #[.agg #[.int .i64 k,.int .i64 q,.int .i64 t,.string s,.string h,.string d]] w λe w'=>e=.returned (.int .i64 (iP k q t s h d))/\Below w.heap.size w w':=by
 have R0:=aj (RB.new w k q t s h d 33);have B0:Hid (Below w.heap.size w (w.alloc (.cells #[.int .i64 k,.int .i64 q,.int .i64 t,.string s,.string h,.string d] 33))):=aj ((Below.refl _ _).alloc (Nat.le_refl _) _);have c1:¬9223372036854775807<h.size+d.size:=by omega
 have c2:¬9223372036854775807<s.size+h.size:=by omega
 have c3:¬9223372036854775807<s.size+h.size+d.size:=by omega
 have M:=aj (xB (s:=s) (h:=h) (d:=d) hI);obtain⟨j1,j2,-,-,-,-⟩:=Pk.lS.1 hI;rw[zN] at hI;obtain⟨i1,i2,i3⟩:dR k 1 4=true/\dR q 1 1099511627776=true/\dR t 0 1099511627776=true:=by simpa[Bool.and_eq_true] using hI
 have I1:=aj i1;have I2:=aj i2;have I3:=aj i3;clear hI i1 i2 i3;by_cases k1:k=1
 ·subst k1;obtain⟨E,hE⟩:∃E,E=aA false s:=⟨_,rfl⟩;have CS:Hid (∀W:World,Calls prog 132 #[.string s] W λe w'=>e=.returned (.int .i64 E)/\Below W.heap.size W w'):=aj (λW=>by rw[hE];exact BJ s W hs);have N:Hid (iP 1 q t s h d=if E≠0 then E else if 256<h.size+d.size then 2 else 0):=aj (by rw[ah M,if_pos rfl];unfold xu;rw[<-hE]);clear hE M;go_enter func90,ntmps90;go_wp2_with (go_at_call 54;refine(iw _ _ _ _).mono ?_;rintro e w' ⟨rfl,rfl⟩;first|rw[ah I1]|rw[ah I2]|rw[ah I3]);refine(ah CS _).mono ?_;rintro e w1 ⟨rfl,b1⟩;have R1:=(ah R0).next b1
  have d4:=R1.c4;have d5:=R1.c5;have B1:=aj (ay (ah B0) b1);clear R1 R0 B0 b1;go_wp2_with fail;all_goals go_ret
  all_goals refine⟨eY ?_,ah B1⟩
  all_goals rw[ah N]
  all_goals clear N CS d4 d5 B1 I1 I2 I3
  all_goals simp only[bne_iff_ne,ne_eq,bne_eq_false_iff_eq] at *
  all_goals split
  all_goals first|rfl|omega|(split<;>omega)
 by_cases k3:k=3
 ·subst k3;obtain⟨E,hE⟩:∃E,E=aA true s:=⟨_,rfl⟩;have CS:Hid (∀W:World,Calls prog 53 #[.string s] W λe w'=>e=.returned (.int .i64 E)/\Below W.heap.size W w'):=aj (λW=>by rw[hE];exact oq s W hs);have N:Hid (iP 3 q t s h d=if E≠0 then E else if h.size+d.size=0 then 0 else 1):=aj (by rw[ah M,if_neg (by decide),if_pos rfl];unfold xw;rw[<-hE]);clear hE M k1;go_enter func90,ntmps90;go_wp2_with (go_at_call 54;refine(iw _ _ _ _).mono ?_;rintro e w' ⟨rfl,rfl⟩;first|rw[ah I1]|rw[ah I2]|rw[ah I3]);refine(ah CS _).mono ?_;rintro e w1 ⟨rfl,b1⟩;have R1:=(ah R0).next b1
  have d4:=R1.c4;have d5:=R1.c5;have B1:=aj (ay (ah B0) b1);clear R1 R0 B0 b1;go_wp2_with fail;all_goals go_ret
  all_goals refine⟨eY ?_,ah B1⟩
  all_goals rw[ah N]
  all_goals clear N CS d4 d5 B1 I1 I2 I3
  all_goals simp only[BK,ByteArray.size_append,Bool.not_eq_true',Bool.not_eq_false',decide_eq_true_eq,decide_eq_false_iff_not,bne_iff_ne,ne_eq,bne_eq_false_iff_eq] at *
  all_goals split
  all_goals first|rfl|omega|(split<;>omega)
 ·have N:Hid (iP k q t s h d=if s.size+(h.size+d.size)=0 then 0 else 1):=aj (by rw[ah M,if_neg k1,if_neg k3];rfl);have n1:(k==1)=false:=by simp;omega
  have n3:(k==3)=false:=by simp;omega
  clear M k1 k3;go_enter func90,ntmps90;go_wp2_with (go_at_call 54;refine(iw _ _ _ _).mono ?_;rintro e w' ⟨rfl,rfl⟩;first|rw[ah I1]|rw[ah I2]|rw[ah I3]);all_goals go_ret
  all_goals refine⟨eY ?_,ah B0⟩
  all_goals rw[ah N]
  all_goals clear N R0 B0 I1 I2 I3
  all_goals simp only[BK,ByteArray.size_append,Bool.not_eq_true',Bool.not_eq_false',decide_eq_true_eq,decide_eq_false_iff_not] at *
  all_goals first|(rw[if_pos (by omega)];done)|(rw[if_neg (by omega)];done)
theorem Eu (k q t:Int)(s h d:ByteArray)(w:World)(hs:s.size<=140737488355328)(hh:h.size<=140737488355328)(hd:d.size<=140737488355328) :
 Calls prog 90 #[.agg #[.int .i64 k,.int .i64 q,.int .i64 t,.string s,.string h,.string d]] w λe w'=>e=.returned (.int .i64 (iP k q t s h d))/\Below w.heap.size w w':=by
 cases hI:Pk.inB k q t with
 | false=>exact Et k q t s h d w hI
 | true=>exact Hy k q t s h d w hs hh hd hI
