/- A part. -/
import Derived.Test.YtmhbobnfmncdbaaGreatDoorQ6
set_option maxRecDepth 100000
set_option maxHeartbeats 8000000
namespace Go.Proofs.YtmhbobnfmncdbaaGreatDoor
open Go.RowKit Go.Proofs.Tryz
def zL (s h d:ByteArray):Int:=if aB false s≠0 then aB false s else if 256<h.size+d.size then 2 else 0
def zM (s h d:ByteArray):Int:=if aB true s≠0 then aB true s else if h.size+d.size=0 then 0 else 1
def EH (s h d:ByteArray):Int:=if s.size+(h.size+d.size)=0 then 0 else 1
def kT (k q t:Int)(s h d:ByteArray):Int:=Pk.chk ⟨k,q,t,s.data.toList,h.data.toList,d.data.toList⟩
theorem vH (s:ByteArray):s.data.toList.length=s.size:=by simp
theorem LU (s:ByteArray):(s.toList=[])=(s.size=0):=by
 rw[ByteArray.toList_eq,<-vH,List.length_eq_zero_iff]
theorem LV (s:ByteArray):s.toList.isEmpty=decide (s.size=0):=by
 rw[ByteArray.toList_eq,<-vH,Bool.eq_iff_iff,List.isEmpty_iff,decide_eq_true_eq,List.length_eq_zero_iff]
theorem nS (k q t:Int)(s h d:ByteArray):kT k q t s h d=if Pk.inB k q t=false then 1 else if k=1 then zL s h d else if k=3 then zM s h d else EH s h d:=by
 unfold kT Pk.chk zL zM EH aB;simp only[vH]
theorem Jg (k q t:Int)(s h d:ByteArray)(w:World)(hs:s.size<=140737488355328)(hh:h.size<=140737488355328)(hd:d.size<=140737488355328) :
 Calls prog 117 #[.agg #[.int .i64 k,.int .i64 q,.int .i64 t,.string s,.string h,.string d]] w λe w'=>e=.returned (.int .i64 (zL s h d))/\Below w.heap.size w w':=by
 obtain⟨E,hE⟩:∃E,E=aB false s:=⟨_,rfl⟩;have C:Hid (∀W:World,Calls prog 72 #[.string s] W λe w'=>e=.returned (.int .i64 E)/\Below W.heap.size W w'):=aj (λW=>by rw[hE];exact cO s W hs);have R0:=aj (RB.new w k q t s h d 33);have B0:Hid (Below w.heap.size w (w.alloc (.cells #[.int .i64 k,.int .i64 q,.int .i64 t,.string s,.string h,.string d] 33))):=aj ((Below.refl _ _).alloc (Nat.le_refl _) _);have M:Hid (zL s h d=if E≠0 then E else if 256<h.size+d.size then 2 else 0):=aj (by unfold zL;rw[<-hE]);clear hE;go_enter func117,ntmps117;go_wp2_with fail;refine(ah C _).mono ?_
 rintro e w1 ⟨rfl,b1⟩;have R1:=(ah R0).next b1;have c4:=R1.c4;have c5:=R1.c5;have B1:=aj (ay (ah B0) b1);clear R1 R0 B0 b1;go_wp2_with fail;all_goals go_ret
 all_goals refine⟨iQ ?_,ah B1⟩
 all_goals rw[ah M]
 all_goals clear M C c4 c5 B1
 all_goals simp only[bne_iff_ne,ne_eq,bne_eq_false_iff_eq] at *
 all_goals split
 all_goals first|rfl|omega|(split<;>omega)
theorem Jh (k q t:Int)(s h d:ByteArray)(w:World)(hs:s.size<=140737488355328) :
 Calls prog 118 #[.agg #[.int .i64 k,.int .i64 q,.int .i64 t,.string s,.string h,.string d]] w λe w'=>e=.returned (.int .i64 (zM s h d))/\Below w.heap.size w w':=by
 obtain⟨E,hE⟩:∃E,E=aB true s:=⟨_,rfl⟩;have C:Hid (∀W:World,Calls prog 71 #[.string s] W λe w'=>e=.returned (.int .i64 E)/\Below W.heap.size W w'):=aj (λW=>by rw[hE];exact filter_any s W hs);have R0:=aj (RB.new w k q t s h d 33);have B0:Hid (Below w.heap.size w (w.alloc (.cells #[.int .i64 k,.int .i64 q,.int .i64 t,.string s,.string h,.string d] 33))):=aj ((Below.refl _ _).alloc (Nat.le_refl _) _);have M:Hid (zM s h d=if E≠0 then E else if h.size+d.size=0 then 0 else 1):=aj (by unfold zM;rw[<-hE]);clear hE;go_enter func118,ntmps118;go_wp2_with fail;refine(ah C _).mono ?_
 rintro e w1 ⟨rfl,b1⟩;have R1:=(ah R0).next b1;have c4:=R1.c4;have c5:=R1.c5;have B1:=aj (ay (ah B0) b1);clear R1 R0 B0 b1;go_wp2_with fail;all_goals go_ret
 all_goals refine⟨iQ ?_,ah B1⟩
 all_goals rw[ah M]
 all_goals clear M C c4 c5 B1
 all_goals simp only[LV,LU,Bool.not_eq_true',Bool.not_eq_false',decide_eq_true_eq,decide_eq_false_iff_not,bne_iff_ne,ne_eq,bne_eq_false_iff_eq] at *
 all_goals split
 all_goals first|rfl|omega|(split<;>omega)
theorem yx (k q t:Int)(s h d:ByteArray)(w:World) :
 Calls prog 119 #[.agg #[.int .i64 k,.int .i64 q,.int .i64 t,.string s,.string h,.string d]] w λe w'=>e=.returned (.int .i64 (EH s h d))/\Below w.heap.size w w':=by
 have B0:Hid (Below w.heap.size w (w.alloc (.cells #[.int .i64 k,.int .i64 q,.int .i64 t,.string s,.string h,.string d] 33))):=aj ((Below.refl _ _).alloc (Nat.le_refl _) _);go_enter func119,ntmps119;go_wp2_with fail;all_goals go_ret
 all_goals refine⟨iQ ?_,ah B0⟩
 all_goals unfold EH
 all_goals simp only[LV,LU,Bool.not_eq_true',Bool.not_eq_false',decide_eq_true_eq,decide_eq_false_iff_not] at *
 all_goals first|(rw[if_pos (by omega)];done)|(rw[if_neg (by omega)];done)
theorem GK {k q t:Int}{s h d:ByteArray}(b:Pk.inB k q t=false):kT k q t s h d=1:=by rw[nS,if_pos b]
theorem zN {k q t:Int}{s h d:ByteArray}(b:Pk.inB k q t=true):kT k q t s h d=if k=1 then zL s h d else if k=3 then zM s h d else EH s h d:=by rw[nS,if_neg (by rw[b];decide)]
theorem yA {k q t:Int}:Pk.inB k q t=false↔¬(1<=k/\k<=4/\1<=q/\q<=1099511627776/\0<=t/\t<=1099511627776):=by
 rw[<-Pk.nM];simp
theorem check_any (k q t:Int)(s h d:ByteArray)(w:World)(hs:s.size<=140737488355328)(hh:h.size<=140737488355328)(hd:d.size<=140737488355328) :
 Calls prog 80 #[.agg #[.int .i64 k,.int .i64 q,.int .i64 t,.string s,.string h,.string d]] w λe w'=>e=.returned (.int .i64 (kT k q t s h d))/\Below w.heap.size w w':=by
 have B0:Hid (Below w.heap.size w (w.alloc (.cells #[.int .i64 k,.int .i64 q,.int .i64 t,.string s,.string h,.string d] 33))):=aj ((Below.refl _ _).alloc (Nat.le_refl _) _);by_cases hq:1<=q/\q<=1099511627776/\0<=t/\t<=1099511627776
 ·obtain⟨q1,q2,q3,q4⟩:=hq;by_cases k1:k=1
  ·have M:Hid (kT k q t s h d=zL s h d):=aj (by rw[zN (Pk.nM.2 (by omega)),if_pos k1]);subst k1;go_enter func80,ntmps80;go_wp2_with fail;refine(Jg _ _ _ _ _ _ _ hs hh hd).mono ?_;rintro e w1 ⟨rfl,b1⟩;go_wp2_with fail;go_ret;exact⟨iQ (ah M).symm,ay (ah B0) b1⟩
  by_cases k3:k=3
  ·have M:Hid (kT k q t s h d=zM s h d):=aj (by rw[zN (Pk.nM.2 (by omega)),if_neg k1,if_pos k3]);clear k1;subst k3;go_enter func80,ntmps80;go_wp2_with fail;refine(Jh _ _ _ _ _ _ _ hs).mono ?_;rintro e w1 ⟨rfl,b1⟩;go_wp2_with fail;go_ret;exact⟨iQ (ah M).symm,ay (ah B0) b1⟩
  by_cases k2:k=2
  ·have M:Hid (kT k q t s h d=EH s h d):=aj (by rw[zN (Pk.nM.2 (by omega)),if_neg k1,if_neg k3]);clear k1 k3;subst k2;go_enter func80,ntmps80;go_wp2_with fail;refine(yx _ _ _ _ _ _ _).mono ?_;rintro e w1 ⟨rfl,b1⟩;go_wp2_with fail;go_ret;exact⟨iQ (ah M).symm,ay (ah B0) b1⟩
  by_cases k4:k=4
  ·have M:Hid (kT k q t s h d=EH s h d):=aj (by rw[zN (Pk.nM.2 (by omega)),if_neg k1,if_neg k3]);clear k1 k3 k2;subst k4;go_enter func80,ntmps80;go_wp2_with fail;refine(yx _ _ _ _ _ _ _).mono ?_;rintro e w1 ⟨rfl,b1⟩;go_wp2_with fail;go_ret;exact⟨iQ (ah M).symm,ay (ah B0) b1⟩
  have M:Hid (kT k q t s h d=1):=aj (GK (yA.2 (by omega)));have n1:(k==1)=false:=by simp;omega
  have n2:(k==2)=false:=by simp;omega
  have n3:(k==3)=false:=by simp;omega
  have n4:(k==4)=false:=by simp;omega
  clear k1 k2 k3 k4;go_enter func80,ntmps80;go_wp2_with fail;go_ret;exact⟨iQ (ah M).symm,ah B0⟩
 ·have M:Hid (kT k q t s h d=1):=aj (GK (yA.2 (by omega)));have HQ:=aj hq;clear hq;go_enter func80,ntmps80;go_wp2_with fail;all_goals first
   | (go_ret;exact⟨iQ (ah M).symm,ah B0⟩)
   | (exfalso;have:=ah HQ;omega)
theorem zO {fn:Func}{a:Tmp}{tmps:Array Value}{w:World}{b:Nat}{k q t:Int}{s h d:ByteArray}(hf:fn.results=#[.cell a 33])(ha:tmps.getD a undef=.pointer (some ⟨b,0,none⟩))(r:RB w b k q t s h d) :
 (results fn tmps).run prog w=.ok (.agg #[.int .i64 k,.int .i64 q,.int .i64 t,.string s,.string h,.string d]) w:=by
 have ha':tmps[a]?.getD undef=.pointer (some ⟨b,0,none⟩):=by simpa using ha
 simp[results,hf,ha',asAddr,mg r]
theorem note_any (n:Int)(w:World) :
 Calls prog 68 #[.int .i64 n] w λe w'=>e=.returned (.agg #[.int .i64 1,.int .i64 n,.int .i64 0,.string ⟨#[97,46,98]⟩,.string ⟨#[]⟩,.string ⟨#[120]⟩])/\Below w.heap.size w w':=by
 go_enter func68,ntmps68;go_wp2_with fail;refine bodyPost_ret (zO rfl rfl (RB.new w 1 n 0 _ _ _ _)) rfl ?_;exact⟨rfl,(Below.refl _ _).alloc (Nat.le_refl _) _⟩
theorem Vr:kT 1 1 0 ⟨#[97,46,98]⟩ ⟨#[]⟩ ⟨#[120]⟩=0:=by decide +kernel
theorem Vs:kT 1 2 0 ⟨#[97,46,98]⟩ ⟨#[]⟩ ⟨#[120]⟩=0:=by decide +kernel
