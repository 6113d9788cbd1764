/- A part. -/
import Derived.Test.YtmhbobnfmncdbaaGreatDoorQ9
set_option maxRecDepth 100000
set_option maxHeartbeats 8000000
namespace Go.Proofs.YtmhbobnfmncdbaaGreatDoor
open Go.RowKit Go.Proofs.Tryz
def xZ (s h d:ByteArray):Int:=if aA false s≠0 then aA false s else if 256<h.size+d.size then 2 else 0
def yg (s h d:ByteArray):Int:=if aA true s≠0 then aA true s else if h.size+d.size=0 then 0 else 1
def IE (s h d:ByteArray):Int:=if s.size+(h.size+d.size)=0 then 0 else 1
def iW (k q t:Int)(s h d:ByteArray):Int:=Pk.chk ⟨k,q,t,s.data.toList,h.data.toList,d.data.toList⟩
theorem yh (s:ByteArray):s.data.toList.length=s.size:=by simp
theorem IG (s:ByteArray):(s.toList=[])=(s.size=0):=by
 rw[ByteArray.toList_eq,<-yh,List.length_eq_zero_iff]
theorem Df (s:ByteArray):s.toList.isEmpty=decide (s.size=0):=by
 rw[ByteArray.toList_eq,<-yh,Bool.eq_iff_iff,List.isEmpty_iff,decide_eq_true_eq,List.length_eq_zero_iff]
theorem kJ (k q t:Int)(s h d:ByteArray):iW k q t s h d=if Pk.inB k q t=false then 1 else if k=1 then xZ s h d else if k=3 then yg s h d else IE s h d:=by
 unfold iW Pk.chk xZ yg IE aA;simp only[yh]
theorem Nl (k q t:Int)(s h d:ByteArray)(w:World)(hs:s.size<=140737488355328)(hh:h.size<=140737488355328)(hd:d.size<=140737488355328) :
 Calls prog 117 #[.agg #[.int .i64 k,.int .i64 q,.int .i64 t,.string s,.string h,.string d]] w λe w'=>e=.returned (.int .i64 (xZ s h d))/\Below w.heap.size w w':=by
 obtain⟨E,hE⟩:∃E,E=aA false s:=⟨_,rfl⟩;have C:Hid (∀W:World,Calls prog 72 #[.string s] W λe w'=>e=.returned (.int .i64 E)/\Below W.heap.size W w'):=aj (λW=>by rw[hE];exact dL s W hs);have R0:=aj (RB.new w k q t s h d 33);have B0:Hid (Below w.heap.size w (w.alloc (.cells #[.int .i64 k,.int .i64 q,.int .i64 t,.string s,.string h,.string d] 33))):=aj ((Below.refl _ _).alloc (Nat.le_refl _) _);have M:Hid (xZ s h d=if E≠0 then E else if 256<h.size+d.size then 2 else 0):=aj (by unfold xZ;rw[<-hE]);clear hE;go_enter func117,ntmps117;go_wp2_with fail;refine(ah C _).mono ?_
 rintro e w1 ⟨rfl,b1⟩;have R1:=(ah R0).next b1;have c4:=R1.c4;have c5:=R1.c5;have B1:=aj (ay (ah B0) b1);clear R1 R0 B0 b1;go_wp2_with fail;all_goals go_ret
 all_goals refine⟨fB ?_,ah B1⟩
 all_goals rw[ah M]
 all_goals clear M C c4 c5 B1
 all_goals simp only[bne_iff_ne,ne_eq,bne_eq_false_iff_eq] at *
 all_goals split
 all_goals first|rfl|omega|(split<;>omega)
theorem Np (k q t:Int)(s h d:ByteArray)(w:World)(hs:s.size<=140737488355328) :
 Calls prog 118 #[.agg #[.int .i64 k,.int .i64 q,.int .i64 t,.string s,.string h,.string d]] w λe w'=>e=.returned (.int .i64 (yg s h d))/\Below w.heap.size w w':=by
 obtain⟨E,hE⟩:∃E,E=aA true s:=⟨_,rfl⟩;have C:Hid (∀W:World,Calls prog 71 #[.string s] W λe w'=>e=.returned (.int .i64 E)/\Below W.heap.size W w'):=aj (λW=>by rw[hE];exact filter_any s W hs);have R0:=aj (RB.new w k q t s h d 33);have B0:Hid (Below w.heap.size w (w.alloc (.cells #[.int .i64 k,.int .i64 q,.int .i64 t,.string s,.string h,.string d] 33))):=aj ((Below.refl _ _).alloc (Nat.le_refl _) _);have M:Hid (yg s h d=if E≠0 then E else if h.size+d.size=0 then 0 else 1):=aj (by unfold yg;rw[<-hE]);clear hE;go_enter func118,ntmps118;go_wp2_with fail;refine(ah C _).mono ?_
 rintro e w1 ⟨rfl,b1⟩;have R1:=(ah R0).next b1;have c4:=R1.c4;have c5:=R1.c5;have B1:=aj (ay (ah B0) b1);clear R1 R0 B0 b1;go_wp2_with fail;all_goals go_ret
 all_goals refine⟨fB ?_,ah B1⟩
 all_goals rw[ah M]
 all_goals clear M C c4 c5 B1
 all_goals simp only[Df,IG,Bool.not_eq_true',Bool.not_eq_false',decide_eq_true_eq,decide_eq_false_iff_not,bne_iff_ne,ne_eq,bne_eq_false_iff_eq] at *
 all_goals split
 all_goals first|rfl|omega|(split<;>omega)
theorem Am (k q t:Int)(s h d:ByteArray)(w:World) :
 Calls prog 119 #[.agg #[.int .i64 k,.int .i64 q,.int .i64 t,.string s,.string h,.string d]] w λe w'=>e=.returned (.int .i64 (IE s h d))/\Below w.heap.size w w':=by
 have B0:Hid (Below w.heap.size w (w.alloc (.cells #[.int .i64 k,.int .i64 q,.int .i64 t,.string s,.string h,.string d] 33))):=aj ((Below.refl _ _).alloc (Nat.le_refl _) _);go_enter func119,ntmps119;go_wp2_with fail;all_goals go_ret
 all_goals refine⟨fB ?_,ah B0⟩
 all_goals unfold IE
 all_goals simp only[Df,IG,Bool.not_eq_true',Bool.not_eq_false',decide_eq_true_eq,decide_eq_false_iff_not] at *
 all_goals first|(rw[if_pos (by omega)];done)|(rw[if_neg (by omega)];done)
theorem Dh {k q t:Int}{s h d:ByteArray}(b:Pk.inB k q t=false):iW k q t s h d=1:=by rw[kJ,if_pos b]
theorem yj {k q t:Int}{s h d:ByteArray}(b:Pk.inB k q t=true):iW k q t s h d=if k=1 then xZ s h d else if k=3 then yg s h d else IE s h d:=by rw[kJ,if_neg (by rw[b];decide)]
theorem Ap {k q t:Int}:Pk.inB k q t=false↔¬(1<=k/\k<=4/\1<=q/\q<=1099511627776/\0<=t/\t<=1099511627776):=by
 rw[<-Pk.l9];simp
theorem check_any (k q t:Int)(s h d:ByteArray)(w:World)(hs:s.size<=140737488355328)(hh:h.size<=140737488355328)(hd:d.size<=140737488355328) :
 Calls prog 80 #[.agg #[.int .i64 k,.int .i64 q,.int .i64 t,.string s,.string h,.string d]] w λe w'=>e=.returned (.int .i64 (iW k q t s h d))/\Below w.heap.size w w':=by
 have B0:Hid (Below w.heap.size w (w.alloc (.cells #[.int .i64 k,.int .i64 q,.int .i64 t,.string s,.string h,.string d] 33))):=aj ((Below.refl _ _).alloc (Nat.le_refl _) _);by_cases hq:1<=q/\q<=1099511627776/\0<=t/\t<=1099511627776
 ·obtain⟨q1,q2,q3,q4⟩:=hq;by_cases k1:k=1
  ·have M:Hid (iW k q t s h d=xZ s h d):=aj (by rw[yj (Pk.l9.2 (by omega)),if_pos k1]);subst k1;go_enter func80,ntmps80;go_wp2_with fail;refine(Nl _ _ _ _ _ _ _ hs hh hd).mono ?_;rintro e w1 ⟨rfl,b1⟩;go_wp2_with fail;go_ret;exact⟨fB (ah M).symm,ay (ah B0) b1⟩
  by_cases k3:k=3
  ·have M:Hid (iW k q t s h d=yg s h d):=aj (by rw[yj (Pk.l9.2 (by omega)),if_neg k1,if_pos k3]);clear k1;subst k3;go_enter func80,ntmps80;go_wp2_with fail;refine(Np _ _ _ _ _ _ _ hs).mono ?_;rintro e w1 ⟨rfl,b1⟩;go_wp2_with fail;go_ret;exact⟨fB (ah M).symm,ay (ah B0) b1⟩
  by_cases k2:k=2
  ·have M:Hid (iW k q t s h d=IE s h d):=aj (by rw[yj (Pk.l9.2 (by omega)),if_neg k1,if_neg k3]);clear k1 k3;subst k2;go_enter func80,ntmps80;go_wp2_with fail;refine(Am _ _ _ _ _ _ _).mono ?_;rintro e w1 ⟨rfl,b1⟩;go_wp2_with fail;go_ret;exact⟨fB (ah M).symm,ay (ah B0) b1⟩
  by_cases k4:k=4
  ·have M:Hid (iW k q t s h d=IE s h d):=aj (by rw[yj (Pk.l9.2 (by omega)),if_neg k1,if_neg k3]);clear k1 k3 k2;subst k4;go_enter func80,ntmps80;go_wp2_with fail;refine(Am _ _ _ _ _ _ _).mono ?_;rintro e w1 ⟨rfl,b1⟩;go_wp2_with fail;go_ret;exact⟨fB (ah M).symm,ay (ah B0) b1⟩
  have M:Hid (iW k q t s h d=1):=aj (Dh (Ap.2 (by omega)));have n1:(k==1)=false:=by simp;omega
  have n2:(k==2)=false:=by simp;omega
  have n3:(k==3)=false:=by simp;omega
  have n4:(k==4)=false:=by simp;omega
  clear k1 k2 k3 k4;go_enter func80,ntmps80;go_wp2_with fail;go_ret;exact⟨fB (ah M).symm,ah B0⟩
 ·have M:Hid (iW k q t s h d=1):=aj (Dh (Ap.2 (by omega)));have HQ:=aj hq;clear hq;go_enter func80,ntmps80;go_wp2_with fail;all_goals first
   | (go_ret;exact⟨fB (ah M).symm,ah B0⟩)
   | (exfalso;have:=ah HQ;omega)
theorem Di {fn:Func}{a:Tmp}{tmps:Array Value}{w:World}{b:Nat}{k q t:Int}{s h d:ByteArray}(hf:fn.results=#[.cell a 33])(ha:tmps.getD a undef=.pointer (some ⟨b,0,none⟩))(r:RB w b k q t s h d) :
 (results fn tmps).run prog w=.ok (.agg #[.int .i64 k,.int .i64 q,.int .i64 t,.string s,.string h,.string d]) w:=by
 have ha':tmps[a]?.getD undef=.pointer (some ⟨b,0,none⟩):=by simpa using ha
 simp[results,hf,ha',asAddr,oG r]
theorem note_any (n:Int)(w:World) :
 Calls prog 68 #[.int .i64 n] w λe w'=>e=.returned (.agg #[.int .i64 1,.int .i64 n,.int .i64 0,.string ⟨#[97,46,98]⟩,.string ⟨#[]⟩,.string ⟨#[120]⟩])/\Below w.heap.size w w':=by
 go_enter func68,ntmps68;go_wp2_with fail;refine bodyPost_ret (Di rfl rfl (RB.new w 1 n 0 _ _ _ _)) rfl ?_;exact⟨rfl,(Below.refl _ _).alloc (Nat.le_refl _) _⟩
theorem ZI:iW 1 1 0 ⟨#[97,46,98]⟩ ⟨#[]⟩ ⟨#[120]⟩=0:=by decide +kernel
theorem ZJ:iW 1 2 0 ⟨#[97,46,98]⟩ ⟨#[]⟩ ⟨#[120]⟩=0:=by decide +kernel
