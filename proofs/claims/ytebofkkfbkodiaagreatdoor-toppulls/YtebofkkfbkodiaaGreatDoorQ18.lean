/- A part. -/
import Derived.Test.YtebofkkfbkodiaaGreatDoorQ10
import Derived.Test.YtebofkkfbkodiaaGreatDoorQ11
set_option maxRecDepth 100000
set_option maxHeartbeats 8000000
namespace Go.Proofs.YtebofkkfbkodiaaGreatDoor
open Go.RowKit Go.Proofs.Tryz
variable {k q t:Int}{d h s:ad}
def Qa (s h d:ad):Int:=if aC false s≠0 then aC false s else if 256<h.size+d.size then 2 else 0
def Qb (s h d:ad):Int:=if aC true s≠0 then aC true s else if h.size+d.size=0 then 0 else 1
def Uc (s h d:ad):Int:=if s.size+(h.size+d.size)=0 then 0 else 1
def mX (k q t:Int)(s h d:ad):Int:=Pk.chk ⟨k,q,t,s.data.toList,h.data.toList,d.data.toList⟩
theorem oI (s:ad):s.data.toList.length=s.size:=by simp
theorem FK (s:ad):(s.toList=[])=(s.size=0):=by
 rw[akM,<-oI,ajZ]
theorem xQ (s:ad):s.toList.isEmpty=decide (s.size=0):=by
 rw[akM,<-oI,akK,List.isEmpty_iff,ajG,ajZ]
theorem DT (k q t:Int)(s h d:ad):mX k q t s h d=if Pk.inB k q t=false then 1 else if k=1 then Qa s h d else if k=3 then Qb s h d else Uc s h d:=by
 unfold mX Pk.chk Qa Qb Uc aC;simp only[oI]
theorem Yy (k q t:Int)(s h d:ad)(w:I)(hs:s.size<=140737488355328)(hh:h.size<=140737488355328)(hd:d.size<=140737488355328) :
 Calls prog 224 #[.agg #[aa k,aa q,aa t,.string s,.string h,.string d]] w λe w'=>e=.returned (aa (Qa s h d))/\ai w w':=by
 obtain⟨E,hE⟩:∃E,E=aC false s:=⟨_,rfl⟩;have C:Hid (∀W:I,Calls prog 26 #[.string s] W λe w'=>e=.returned (aa E)/\ai W w'):=aj (λW=>by rw[hE];exact dQ s W hs);have R0:=aj (RB.new w k q t s h d 46);have B0:Hid (ai w (w.alloc (.cells #[aa k,aa q,aa t,.string s,.string h,.string d] 46))):=aj (ax _ _);have M:Hid (Qa s h d=if E≠0 then E else if 256<h.size+d.size then 2 else 0):=aj (by unfold Qa;rw[<-hE]);clear hE;go_enter func224,ntmps224;go_wp2_with fail;refine(ah C _).mono ?_
 rintro e w1 ⟨rfl,b1⟩;have R1:=(ah R0).next b1;have c4:=R1.c4;have c5:=R1.c5;have B1:=aj (ak (ah B0) b1);clear R1 R0 B0 b1;go_wp2_with fail;all_goals go_ret
 all_goals refine⟨kL ?_,ah B1⟩
 all_goals rw[ah M]
 all_goals clear M C c4 c5 B1
 all_goals simp only[bne_iff_ne,ne_eq,anm] at *
 all_goals split
 all_goals first|rfl|omega|(split<;>omega)
theorem Yz (k q t:Int)(s h d:ad)(w:I)(hs:s.size<=140737488355328) :
 Calls prog 225 #[.agg #[aa k,aa q,aa t,.string s,.string h,.string d]] w λe w'=>e=.returned (aa (Qb s h d))/\ai w w':=by
 obtain⟨E,hE⟩:∃E,E=aC true s:=⟨_,rfl⟩;have C:Hid (∀W:I,Calls prog 64 #[.string s] W λe w'=>e=.returned (aa E)/\ai W w'):=aj (λW=>by rw[hE];exact filter_any s W hs);have R0:=aj (RB.new w k q t s h d 46);have B0:Hid (ai w (w.alloc (.cells #[aa k,aa q,aa t,.string s,.string h,.string d] 46))):=aj (ax _ _);have M:Hid (Qb s h d=if E≠0 then E else if h.size+d.size=0 then 0 else 1):=aj (by unfold Qb;rw[<-hE]);clear hE;go_enter func225,ntmps225;go_wp2_with fail;refine(ah C _).mono ?_
 rintro e w1 ⟨rfl,b1⟩;have R1:=(ah R0).next b1;have c4:=R1.c4;have c5:=R1.c5;have B1:=aj (ak (ah B0) b1);clear R1 R0 B0 b1;go_wp2_with fail;all_goals go_ret
 all_goals refine⟨kL ?_,ah B1⟩
 all_goals rw[ah M]
 all_goals clear M C c4 c5 B1
 all_goals simp only[xQ,FK,alC,ana,ajG,akr,bne_iff_ne,ne_eq,anm] at *
 all_goals split
 all_goals first|rfl|omega|(split<;>omega)
theorem Jv (k q t:Int)(s h d:ad)(w:I) :
 Calls prog 226 #[.agg #[aa k,aa q,aa t,.string s,.string h,.string d]] w λe w'=>e=.returned (aa (Uc s h d))/\ai w w':=by
 have B0:Hid (ai w (w.alloc (.cells #[aa k,aa q,aa t,.string s,.string h,.string d] 46))):=aj (ax _ _);go_enter func226,ntmps226;go_wp2_with fail;all_goals go_ret
 all_goals refine⟨kL ?_,ah B0⟩
 all_goals unfold Uc
 all_goals simp only[xQ,FK,alC,ana,ajG,akr] at *
 all_goals first|(rw[if_pos (by omega)];done)|(rw[if_neg (by omega)];done)
theorem WI (b:Pk.inB k q t=false):mX k q t s h d=1:=by rw[DT,if_pos b]
theorem LZ (b:Pk.inB k q t=true):mX k q t s h d=if k=1 then Qa s h d else if k=3 then Qb s h d else Uc s h d:=by rw[DT,if_neg (by rw[b];decide)]
theorem Jw :Pk.inB k q t=false↔¬(1<=k/\k<=4/\1<=q/\q<=1099511627776/\0<=t/\t<=1099511627776):=by
 rw[<-Pk.vk];simp
theorem check_any (k q t:Int)(s h d:ad)(w:I)(hs:s.size<=140737488355328)(hh:h.size<=140737488355328)(hd:d.size<=140737488355328) :
 Calls prog 184 #[.agg #[aa k,aa q,aa t,.string s,.string h,.string d]] w λe w'=>e=.returned (aa (mX k q t s h d))/\ai w w':=by
 have B0:Hid (ai w (w.alloc (.cells #[aa k,aa q,aa t,.string s,.string h,.string d] 46))):=aj (ax _ _);by_cases hq:1<=q/\q<=1099511627776/\0<=t/\t<=1099511627776
 ·obtain⟨q1,q2,q3,q4⟩:=hq;by_cases k1:k=1
  ·have M:Hid (mX k q t s h d=Qa s h d):=aj (by rw[LZ (Pk.vk.2 (by omega)),if_pos k1]);subst k1;go_enter func184,ntmps184;go_wp2_with fail;refine(Yy _ _ _ _ _ _ _ hs hh hd).mono ?_;rintro e w1 ⟨rfl,b1⟩;go_wp2_with fail;go_ret;exact⟨kL (ah M).symm,ak (ah B0) b1⟩
  by_cases k3:k=3
  ·have M:Hid (mX k q t s h d=Qb s h d):=aj (by rw[LZ (Pk.vk.2 (by omega)),if_neg k1,if_pos k3]);clear k1;subst k3;go_enter func184,ntmps184;go_wp2_with fail;refine(Yz _ _ _ _ _ _ _ hs).mono ?_;rintro e w1 ⟨rfl,b1⟩;go_wp2_with fail;go_ret;exact⟨kL (ah M).symm,ak (ah B0) b1⟩
  by_cases k2:k=2
  ·have M:Hid (mX k q t s h d=Uc s h d):=aj (by rw[LZ (Pk.vk.2 (by omega)),if_neg k1,if_neg k3]);clear k1 k3;subst k2;go_enter func184,ntmps184;go_wp2_with fail;refine(Jv _ _ _ _ _ _ _).mono ?_;rintro e w1 ⟨rfl,b1⟩;go_wp2_with fail;go_ret;exact⟨kL (ah M).symm,ak (ah B0) b1⟩
  by_cases k4:k=4
  ·have M:Hid (mX k q t s h d=Uc s h d):=aj (by rw[LZ (Pk.vk.2 (by omega)),if_neg k1,if_neg k3]);clear k1 k3 k2;subst k4;go_enter func184,ntmps184;go_wp2_with fail;refine(Jv _ _ _ _ _ _ _).mono ?_;rintro e w1 ⟨rfl,b1⟩;go_wp2_with fail;go_ret;exact⟨kL (ah M).symm,ak (ah B0) b1⟩
  have M:Hid (mX k q t s h d=1):=aj (WI (Jw.2 (by omega)));have n1:(k==1)=false:=by simp;omega
  have n2:(k==2)=false:=by simp;omega
  have n3:(k==3)=false:=by simp;omega
  have n4:(k==4)=false:=by simp;omega
  clear k1 k2 k3 k4;go_enter func184,ntmps184;go_wp2_with fail;go_ret;exact⟨kL (ah M).symm,ah B0⟩
 ·have M:Hid (mX k q t s h d=1):=aj (WI (Jw.2 (by omega)));have HQ:=aj hq;clear hq;go_enter func184,ntmps184;go_wp2_with fail;all_goals first
   | (go_ret;exact⟨kL (ah M).symm,ah B0⟩)
   | (exfalso;have:=ah HQ;omega)
def L6 (k q t:Int)(s h d:ad):Value :=
 .tuple #[.string (if mX k q t s h d=0 then aG (Pk.wI ⟨k,q,t,s.data.toList,h.data.toList,d.data.toList⟩) else ⟨#[]⟩),aa (mX k q t s h d)]
theorem Qc {E:Int}(hE:mX k q t s h d=E)(h0:E≠0):L6 k q t s h d=.tuple #[.string ⟨#[]⟩,aa E]:=by
 unfold L6;rw[hE,if_neg h0]
theorem Jy (hE:mX k q t s h d=0):L6 k q t s h d=.tuple #[.string (aG (Pk.wI ⟨k,q,t,s.data.toList,h.data.toList,d.data.toList⟩)),aa 0]:=by
 unfold L6;rw[hE,if_pos rfl]
theorem Ud (k q t:Int)(s h d:ad)(w:I)(hs:s.size<=140737488355328)(hh:h.size<=140737488355328)(hd:d.size<=140737488355328) :
 Calls prog 187 #[.agg #[aa k,aa q,aa t,.string s,.string h,.string d]] w λe w'=>e=.returned (L6 k q t s h d)/\ai w w':=by
 obtain⟨E,hE⟩:∃E,mX k q t s h d=E:=⟨_,rfl⟩;have R0:=aj (RB.new w k q t s h d 46);have B0:Hid (ai w (w.alloc (.cells #[aa k,aa q,aa t,.string s,.string h,.string d] 46))):=aj (ax _ _);by_cases h0:E=0
 ·subst h0;obtain⟨k1,k2,q1,q2,t1,t2,s1,s2⟩:=Pk.qV (r:=⟨k,q,t,s.data.toList,h.data.toList,d.data.toList⟩) hE;simp only[oI] at s1 s2;obtain⟨B,hB⟩:∃B,B=aG (Pk.Ak ⟨k,q,t,s.data.toList,h.data.toList,d.data.toList⟩):=⟨_,rfl⟩;have zB:B.size<=1024:=by rw[hB,aU];exact(Pk.Dy hE).2
  obtain⟨X,hX⟩:∃X,X=aG (Pk.txt B.data.toList):=⟨_,rfl⟩;obtain⟨Y,hY⟩:∃Y,Y=aG (Pk.le4 (Pk.crc B.data.toList)):=⟨_,rfl⟩;have zX:X.size<=1033:=by
   rw[hX,aU,Pk.txt,ajB,oI];have:=Pk.l7 (n:=B.size) (by omega);omega
  have zY:Y.size=4:=by rw[hY,aU];rfl
  have zC:¬9223372036854775807<X.size+Y.size:=by omega
  have HE:=aj hE;have R:Hid (L6 k q t s h d=.tuple #[.string (X++Y),aa 0]):=aj (by
   rw[Jy hE,hX,hY,Aw,hB,dL];rfl)
  have CB:Hid (∀W:I,Calls prog 229 #[.agg #[aa k,aa q,aa t,.string s,.string h,.string d]] W λe w'=>e=.returned (.string B)/\ai W w') :=
   aj (λW=>by rw[hB];exact Td k q t s h d W k1 k2 q2 t2 (by omega) (by omega) (by omega))
  have CX:Hid (∀W:I,Calls prog 230 #[.string B] W λe w'=>e=.returned (.string X)/\ai W w'):=aj (λW=>by rw[hX];exact yS B W (by omega));have CY:Hid (∀W:I,Calls prog 231 #[.string B] W λe w'=>e=.returned (.string Y)/\ai W w'):=aj (λW=>by rw[hY];exact qG B W (by omega));clear hE hB hX hY;go_enter func187,ntmps187;go_wp2_with fail;refine(check_any _ _ _ _ _ _ _ hs hh hd).mono ?_;rintro e w1 ⟨rfl,b1⟩;rw[ah HE];have R1:=(ah R0).next b1;have B1:=aj (ak (ah B0) b1);obtain⟨_,c0,c1,c2,c3,c4,c5,_⟩:=R1;clear R0 B0 b1
  go_wp2_with fail;refine(ah CB _).mono ?_;rintro e w2 ⟨rfl,b2⟩;clear c0 c1 c2 c3 c4 c5;go_wp2_with fail;refine(ah CX _).mono ?_;rintro e w3 ⟨rfl,b3⟩;go_wp2_with fail;refine(ah CY _).mono ?_;rintro e w4 ⟨rfl,b4⟩;go_wp2_with fail;go_ret2;exact⟨by rw[ah R];rfl,ak (ak (ak (ah B1) b2) b3) b4⟩
 ·have R:=aj (Qc hE h0);have HE:=aj hE;have h1:(E !=0)=true:=by simpa using h0
  clear hE h0;go_enter func187,ntmps187;go_wp2_with fail;refine(check_any _ _ _ _ _ _ _ hs hh hd).mono ?_;rintro e w1 ⟨rfl,b1⟩;rw[ah HE];go_wp2_with fail;go_ret2;exact⟨by rw[ah R];rfl,ak (ah B0) b1⟩
