/- A part of the proof. -/
import Derived.Test.YtidekgipblnpkaaGreatDoorQ10
import Derived.Lib.Atoi
import Derived.Lib.IndexAny
import Derived.Lib.Join
set_option maxRecDepth 100000
set_option maxHeartbeats 8000000
namespace Go.Proofs.YtidekgipblnpkaaGreatDoor.Pn
open Go Go.Proofs.Tryz
theorem Qh (f:ByteArray)(r:List ByteArray):tk (f::r) 0=f:=rfl
theorem Qi (f:ByteArray)(r:List ByteArray)(k:Nat):tk (f::r) (k+1)=tk r k:=rfl
theorem ahP {l:List ByteArray}{k:Nat}(h:k<l.length):tk l k=l[k]:=by
 unfold tk;rw[List.getElem?_eq_getElem h];rfl
theorem ajp {l:List ByteArray}{k:Nat}(h:k<l.length):tk l k∈l:=by
 rw[ahP h];exact List.getElem_mem h
theorem JY:∀l:List ByteArray,laps l=true↔∃i j,j<i/\i<l.length/\bI (Pl.toks (tk l i)) (Pl.toks (tk l j))=true
 | []=>by
  constructor
  ·intro h;cases h
  ·rintro ⟨i,j,_,h,_⟩;simp at h
 | f::r=>by
  have ih:=JY r;rw[laps,Bool.or_eq_true,ih,List.any_eq_true];constructor
  ·rintro (⟨g,hg,hm⟩|⟨i,j,h1,h2,h3⟩)
   ·obtain⟨k,hk,rfl⟩:=List.mem_iff_getElem.1 hg;refine⟨k+1,0,by omega,by simpa using hk,?_⟩;rw[Qi,Qh,ahP hk,zf];exact hm
   ·exact⟨i+1,j+1,by omega,by simpa using h2,h3⟩
  ·rintro ⟨i,j,h1,h2,h3⟩;obtain⟨i,rfl⟩:∃k,i=k+1:=⟨i-1,by omega⟩;have hi:i<r.length:=by simpa using h2
   cases j with
   | zero =>
    left;refine⟨tk r i,ajp hi,?_⟩;rw[zf];exact h3
   | succ j=>exact Or.inr ⟨i,j,by omega,hi,h3⟩
def iw (l:List ByteArray):Int:=if 4<l.length then 2 else if l.length=0 then 1 else if fQ l≠0 then fQ l else if laps l=true then 10 else 0
theorem Qj {p:aU}(h:dZ p.n=true):bG p=if iw p.f≠0 then iw p.f else if dO p.v dK=true then 0 else 1:=by
 unfold bG iw;rw[if_neg (by rw[h];simp)];by_cases h2:4<p.f.length
 ·rw[if_pos h2,if_pos h2];rfl
 ·rw[if_neg h2,if_neg h2];by_cases h3:p.f.length=0
  ·rw[if_pos h3,if_pos h3];rfl
  ·rw[if_neg h3,if_neg h3];by_cases h4:fQ p.f≠0
   ·rw[if_pos h4,if_pos h4,if_pos h4]
   ·rw[if_neg h4,if_neg h4];by_cases h5:laps p.f=true
    ·rw[if_pos h5,if_pos h5];rfl
    ·rw[if_neg h5,if_neg h5,if_neg (show ¬(0:Int)≠0 by decide)]
theorem aiA {l:List ByteArray}(h:iw l=0):l.length<=4/\l.length≠0/\fQ l=0/\laps l=false:=by
 unfold iw at h;by_cases h2:4<l.length
 ·rw[if_pos h2] at h;cases h
 ·rw[if_neg h2] at h;by_cases h3:l.length=0
  ·rw[if_pos h3] at h;cases h
  ·rw[if_neg h3] at h;by_cases h4:fQ l≠0
   ·rw[if_pos h4] at h;exact absurd h h4
   ·rw[if_neg h4] at h;by_cases h5:laps l=true
    ·rw[if_pos h5] at h;cases h
    ·exact⟨by omega,h3,Classical.not_not.1 h4,by simpa using h5⟩
def adC (l:List UInt8):Bool:=l.all kR&&(decide (1<=l.length)&&(decide (l.length<=9)&&decide (l.head?≠some 48)))
theorem adD {l:List UInt8}(h:adC l=true):1<=vP l/\vP l=(l7 l:Int)/\l.length<=9/\l≠[]/\∀c∈l,kR c=true:=by
 unfold adC at h;simp only[Bool.and_eq_true,decide_eq_true_eq,List.all_eq_true] at h;obtain⟨h1,h2,h3,h4⟩:=h;have hne:l≠[]:=by intro e;rw[e] at h2;simp at h2
 have e:vP l=(l7 l:Int):=by
  unfold vP;rw[if_pos ⟨by rw[List.take_of_length_le (by omega),List.all_eq_true];exact h1,h2,h3,λq=>h4 q.1⟩]
 refine⟨?_,e,h3,hne,h1⟩;rw[e];have:=Yz h1 hne h4;omega
theorem aj2 {l:List UInt8}(h:adC l=false):vP l<1:=by
 unfold vP;by_cases q:(l.take 10).all kR=true/\1<=l.length/\l.length<=9/\¬(l.head?=some 48/\l≠[48])
 ·obtain⟨q1,q2,q3,q4⟩:=q;rw[if_pos ⟨q1,q2,q3,q4⟩];rw[List.take_of_length_le (by omega)] at q1;unfold adC at h;rw[q1,decide_eq_true q2,decide_eq_true q3] at h;have hh:l.head?=some 48:=by simpa using h
  have hl:l=[48]:=Classical.byContradiction (λx=>q4 ⟨hh,x⟩);rw[hl];decide
 ·rw[if_neg q];decide
theorem GY:∀(l:List UInt8) (a:Nat),(∀c∈l,kR c=true)->Lib.decFrom a l=some (l.foldl (λn c=>n*10+(c.toNat-48)) a)
 | [],a,_=>rfl
 | c::r,a,h=>by
  have hc:=h c (by simp);unfold kR at hc;simp only[Bool.and_eq_true,decide_eq_true_eq] at hc;rw[Lib.decFrom,Lib.digitVal,if_pos ⟨hc.1,hc.2⟩];exact GY r _ (λx hx=>h x (by simp[hx]))
theorem adE {l:List UInt8}(hne:l≠[])(h:∀c∈l,kR c=true):Lib.atoi l=some (l7 l:Int):=by
 cases l with
 | nil=>exact absurd rfl hne
 | cons c r =>
  have hc:=h c (by simp);unfold kR at hc;simp only[Bool.and_eq_true,decide_eq_true_eq] at hc;have n45:¬(c==45)=true:=by
   intro e;rw[beq_iff_eq] at e;subst e;simp at hc
  have n43:¬(c==43)=true:=by
   intro e;rw[beq_iff_eq] at e;subst e;simp at hc
  rw[Lib.atoi,if_neg n45,if_neg n43,Lib.decNat,if_neg (by simp),GY _ _ h];rfl
theorem ai4 {l:List UInt8}(h:adC l=true):Lib.atoi l=some (vP l):=by
 obtain⟨_,e,_,hne,hd⟩:=adD h;rw[e,adE hne hd]
theorem aaY (b:UInt8):∀ts:List (List UInt8),Lib.join ts [b]=glue b ts
 | []=>rfl
 | [t]=>by simp[Lib.join,List.intercalate,glue]
 | t::u::r=>by
  have ih:=aaY b (u::r);rw[jH b t (by simp),<-ih];simp[Lib.join,List.intercalate]
theorem ahQ (f:ByteArray):decide (0<=Lib.indexByte f.data.toList 44)=f.data.toList.contains 44:=(Lib.contains_iff_indexByte _ _).symm
end Go.Proofs.YtidekgipblnpkaaGreatDoor.Pn
namespace Go.Proofs.YtidekgipblnpkaaGreatDoor
open Go.RowKit Go.Proofs.Tryz
def WU (c:Int):Bool:=decide (48<=c)&&decide (c<=57)
def TW (c:Int):Bool:=(decide (97<=c)&&decide (c<=122))||(WU c||decide (c=45))
theorem ai5 (c:UInt8):WU (c.toNat:Int)=Pn.kR c:=by
 unfold WU Pn.kR;rw[Bool.eq_iff_iff];simp;omega
theorem JZ (c:UInt8):TW (c.toNat:Int)=Pn.nameB c:=by
 unfold TW Pn.nameB WU;rw[Bool.eq_iff_iff];simp;omega
theorem aaZ (c:Int)(w:World) :
 Calls prog 141 #[.int .u8 c] w λe w'=>e=.returned (.bool (WU c))/\w'=w:=by
 go_enter func141,ntmps141
 go_wp2
 all_goals go_ret
 all_goals refine⟨iW ?_,rfl⟩
 all_goals simp[WU]
 all_goals omega
theorem Ba (c:Int)(w:World) :
 Calls prog 109 #[.int .u8 c] w λe w'=>e=.returned (.bool (TW c))/\w'=w:=by
 have HD:=aj (aaZ c);go_enter func109,ntmps109
 go_wp2_with (go_at_call 141;refine(ah HD _).mono ?_;rintro e w' ⟨rfl,rfl⟩)
 all_goals go_ret
 all_goals refine⟨iW ?_,rfl⟩
 all_goals simp_all [TW,WU]
 all_goals omega
theorem vW {s:ByteArray}(h:s.size<1\/16<s.size):Pn.dZ s=false:=by
 unfold Pn.dZ;rcases h with h|h
 ·rw[decide_eq_false (p:=1<=s.size) (by omega)];simp
 ·rw[decide_eq_false (p:=s.size<=16) (by omega)];simp
theorem adF {s:ByteArray}(h1:1<=s.size)(h2:s.size<=16)(h:mM s s.size=true):Pn.dZ s=true:=by
 rw[named_ok h];simp;omega
theorem WV (s:ByteArray)(w:World)(hs:s.size<=140737488355328) :
 Calls prog 62 #[.string s] w λe w'=>e=.returned (.bool (Pn.dZ s))/\w'=w:=by
 by_cases h1:s.size<1
 ·go_enter func62,ntmps62
  go_wp2
  go_ret
  exact⟨eG (vW (Or.inl h1)),rfl⟩
 by_cases h2:16<s.size
 ·go_enter func62,ntmps62
  go_wp2
  go_ret
  exact⟨eG (vW (Or.inr h2)),rfl⟩
 go_enter func62,ntmps62
 go_wp2
 go_loop [14] (λi=>∃k:Nat,k<=s.size/\i=.int .i64 k/\Hid (mM s k=true)) (λi=>s.size-(intOf i).toNat)
 case atStart=>exact⟨0,Nat.zero_le _,rfl,aj rfl⟩
 case round =>
  obtain⟨k,hk,rfl,hq⟩:=hrel;by_cases hlt:k<s.size
  ·cases ht:TW (s[k].toNat:Int) with
   | false =>
    have Ht:=aj ht;clear ht;go_wp2_with (go_at_call 109;refine(Ba _ _).mono ?_;rintro e w' ⟨rfl,rfl⟩;rw[ah Ht])
    go_ret
    exact⟨eG (Nv hlt (by rw[<-JZ];exact ah Ht)),rfl⟩
   | true =>
    have Ht:=aj ht;clear ht;go_wp2_with (go_at_call 109;refine(Ba _ _).mono ?_;rintro e w' ⟨rfl,rfl⟩;rw[ah Ht])
    go_round
    case rel=>exact⟨k+1,by omega,by go_num,aj (by rw[AB hlt,ah hq,<-JZ,ah Ht];rfl)⟩
    case measure=>simp[intOf];omega
  ·obtain rfl:k=s.size:=by omega
   go_wp2
   go_ret
   exact⟨eG (adF (by omega) (by omega) (ah hq)),rfl⟩
def Fst (w wr:World)(a:Option Addr)(l:List ByteArray):Prop:=jW wr a l/\Below w.heap.size w wr
theorem Fst.next {w wr w':World}{a:Option Addr}{l:List ByteArray}(h:Fst w wr a l)(hb:Below wr.heap.size wr w'):Fst w w' a l:=⟨h.1.next hb,ak h.2 hb⟩
def Apart (l:List ByteArray)(i:Nat):Prop:=∀i',i'<i->∀j,j<i'->bI (Pl.toks (tk l i')) (Pl.toks (tk l j))=false
theorem aa0 {l:List ByteArray}(h:Apart l l.length):Pn.laps l=false:=by
 rw[Bool.eq_false_iff];intro q;obtain⟨i,j,h1,h2,h3⟩:=(Pn.JY l).1 q;rw[h i h2 j h1] at h3
 cases h3
theorem Qk {f g:ByteArray}(hf:aC true f=0)(hg:aC true g=0):dR f g=bI (Pl.toks f) (Pl.toks g):=by
 unfold dR;rw[hf,hg];rfl
theorem adG (a:Option Addr)(l:List ByteArray)(c:Nat)(w:World)(hsl:jW w a l)(hz:∀k,k<l.length->(tk l k).size<=140737488355328)(hok:∀k,k<l.length->aC true (tk l k)=0)(hl:l.length<=4)(hc:l.length<=c) :
 Calls prog 110 #[.slice a l.length c] w λe w'=>e=.returned (.bool (Pn.laps l))/\Below w.heap.size w w':=by
 have HZ:=aj hz;have HOk:=aj hok;have HS:Hid (Fst w w a l):=aj ⟨hsl,Below.refl _ _⟩;clear hz hok hsl;go_enter func110,ntmps110
 go_wp2_with fail
 go_loopw [11] (λiv wr=>∃(i:Nat),iv=.int .i64 i/\i<=l.length/\Hid (Apart l i)/\Hid (Fst w wr a l)) (λiv _=>l.length-(intOf iv).toNat)
 case atStart=>exact⟨0,rfl,Nat.zero_le _,aj (λi' h=>by omega),HS⟩
 case round =>
  clear HS;obtain⟨i,rfl,hi,HA,HS⟩:=hrel;by_cases hlt:i<l.length
  ·obtain⟨ba,o,rfl,_,e1⟩:=(ah HS).1 i hlt;go_wp2_with fail
   clear e1;go_loopw [20] (λkv wr=>∃(k:Nat),kv=.int .i64 k/\k<=i/\Hid (∀j,j<k->bI (Pl.toks (tk l i)) (Pl.toks (tk l j))=false)/\Hid (Fst w wr (some ⟨ba,o,none⟩) l)) (λkv _=>i-(intOf kv).toNat)
   case atStart=>exact⟨0,rfl,Nat.zero_le _,aj (λj h=>by omega),HS⟩
   case round =>
    clear HS;obtain⟨k,rfl,hk,HK,HS⟩:=hrel;by_cases hki:k<i
    ·obtain⟨ba',o',eq,_,e1⟩:=(ah HS).1 k (by omega)
     cases eq
     have hf:=ah HOk i hlt;have hg:=ah HOk k (by omega);obtain⟨M,hM⟩:∃M,bI (Pl.toks (tk l i)) (Pl.toks (tk l k))=M:=⟨_,rfl⟩;have PO:=aj (Wj (f:=tk l i) (s:=tk l k) (a:=M) (x:=0) (by rw[Qk hf hg];exact hM) (by rw[hf,hg];rfl) (ah HZ i hlt) (ah HZ k (by omega)) wr);have HM:=aj hM;have HN:=aj (λ(w':World) (h:Below wr.heap.size wr w')=>(ah HS).next h);clear hf hg hM
     cases M with
     | true =>
      have HR:Hid (Pn.laps l=true):=aj ((Pn.JY l).2 ⟨i,k,hki,hlt,ah HM⟩);go_wp2_with (go_at_call 142;refine(ah PO).mono ?_;rintro e w4 ⟨rfl,b4⟩;have Q4:=ah HN w4 b4)
      go_ret
      rw[ah HR];exact⟨rfl,Q4.2⟩
     | false =>
      have HK2:Hid (∀j,j<k+1->bI (Pl.toks (tk l i)) (Pl.toks (tk l j))=false):=aj (λj hj=>by
       by_cases e:j=k
       ·rw[e];exact ah HM
       ·exact ah HK j (by omega))
      clear HM HK;go_wp2_with (go_at_call 142;refine(ah PO).mono ?_;rintro e w4 ⟨rfl,b4⟩;have Q4:=aj (ah HN w4 b4);clear b4)
      refine⟨⟨k+1,by go_num,by omega,HK2,Q4⟩,?_⟩;simp[intOf];omega
    ·obtain rfl:k=i:=by omega
     have HA2:Hid (Apart l (k+1)):=aj (λi' hi' j hj=>by
      by_cases e:i'=k
      ·subst e;exact ah HK j hj
      ·exact ah HA i' (by omega) j hj)
     clear HA HK;go_wp2_with fail
     refine⟨⟨k+1,by go_num,by omega,HA2,HS⟩,?_⟩;simp[intOf];omega
  ·obtain rfl:i=l.length:=by omega
   have HR:=aj (aa0 (ah HA));go_wp2_with fail
   go_ret
   rw[ah HR];exact⟨rfl,(ah HS).2⟩
theorem TY (a:Option Addr)(l:List ByteArray)(c:Nat)(w:World)(hsl:jW w a l)(hz:∀k,k<l.length->(tk l k).size<=140737488355328)(hl:l.length<=140737488355328)(hc:l.length<=c) :
 Calls prog 63 #[.slice a l.length c] w λe w'=>e=.returned (.int .i64 (Pn.iw l))/\Below w.heap.size w w':=by
 have HZ:=aj hz;have HS:Hid (Fst w w a l):=aj ⟨hsl,Below.refl _ _⟩;clear hz hsl;by_cases h4:4<l.length
 ·have HR:Hid (Pn.iw l=2):=aj (by unfold Pn.iw;rw[if_pos h4]);have g4:decide ((4:Int)<(l.length:Int))=true:=decide_eq_true (by omega);go_enter func63,ntmps63
  go_wp2_with fail
  go_ret
  rw[ah HR];exact⟨rfl,(ah HS).2⟩
 have g4:decide ((4:Int)<(l.length:Int))=false:=decide_eq_false (by omega);by_cases h0:l.length=0
 ·have HR:Hid (Pn.iw l=1):=aj (by unfold Pn.iw;rw[if_neg h4,if_pos h0]);have g0:((l.length:Int)==0)=true:=by rw[beq_iff_eq];omega
  go_enter func63,ntmps63
  go_wp2_with fail
  go_ret
  rw[ah HR];exact⟨rfl,(ah HS).2⟩
 have g0:((l.length:Int)==0)=false:=by rw[beq_eq_false_iff_ne];omega
 have HE:Hid (Pn.iw l=if Pn.fQ l≠0 then Pn.fQ l else if Pn.laps l=true then 10 else 0):=aj (by unfold Pn.iw;rw[if_neg h4,if_neg h0]);go_enter func63,ntmps63
 go_wp2_with fail
 go_loopw [14] (λiv wr=>∃(i:Nat),iv=.int .i64 i/\i<=l.length/\Hid (Pn.fQ l=Pn.fQ (l.drop i)/\∀k,k<i->aC true (tk l k)=0)/\Hid (Fst w wr a l)) (λiv _=>l.length-(intOf iv).toNat)
 case atStart=>exact⟨0,rfl,Nat.zero_le _,aj ⟨rfl,λk hk=>by omega⟩,HS⟩
 case round =>
  clear HS;obtain⟨i,rfl,hi,HF,HS⟩:=hrel;by_cases hlt:i<l.length
  ·obtain⟨ba,o,rfl,_,e1⟩:=(ah HS).1 i hlt;obtain⟨E,hE⟩:∃E,aC true (tk l i)=E:=⟨_,rfl⟩;have PF:=aj (aaB hE wr (ah HZ i hlt));have HEE:=aj hE;have HN:=aj (λ(w':World) (h:Below wr.heap.size wr w')=>(ah HS).next h);clear hE;by_cases hE0:E=0
   ·have HF2:Hid (Pn.fQ l=Pn.fQ (l.drop (i+1))/\∀k,k<i+1->aC true (tk l k)=0):=aj ⟨by rw[(ah HF).1,Pn.uG hlt,if_pos (by rw[ah HEE];exact hE0)],λk hk=>by
     by_cases e:k=i
     ·rw[e,ah HEE];exact hE0
     ·exact(ah HF).2 k (by omega)⟩
    subst hE0;clear HF HEE;go_wp2_with (go_at_call 105;refine(ah PF).mono ?_;rintro e w4 ⟨rfl,b4⟩;have Q4:=aj (ah HN w4 b4);clear b4)
    refine⟨⟨i+1,by go_num,by omega,HF2,Q4⟩,?_⟩;simp[intOf];omega
   ·have HR:Hid (Pn.iw l=E):=aj (by
     have e1:Pn.fQ l=E:=by rw[(ah HF).1,Pn.uG hlt,if_neg (by rw[ah HEE];exact hE0),ah HEE]
     rw[ah HE,e1,if_pos hE0])
    have hE':(E !=0)=true:=by simpa using hE0
    clear HF HEE;go_wp2_with (go_at_call 105;refine(ah PF).mono ?_;rintro e w4 ⟨rfl,b4⟩;have Q4:=ah HN w4 b4)
    go_ret
    rw[ah HR];exact⟨rfl,Q4.2⟩
  ·obtain rfl:i=l.length:=by omega
   have PL:=aj (adG a l c wr (ah HS).1 (ah HZ) (ah HF).2 (by omega) hc);have HE2:Hid (Pn.iw l=if Pn.laps l=true then 10 else 0):=aj (by
    have e1:Pn.fQ l=0:=by rw[(ah HF).1,List.drop_length];rfl
    rw[ah HE,e1,if_neg (show ¬(0:Int)≠0 by decide)])
   have HN:=aj (λ(w':World) (h:Below wr.heap.size wr w')=>(ah HS).next h);clear HF HE hlt
   cases hP:Pn.laps l with
   | true =>
    rw[hP] at PL HE2;clear hP;go_wp2_with (go_at_call 110;refine(ah PL).mono ?_;rintro e w4 ⟨rfl,b4⟩;have Q4:=ah HN w4 b4)
    go_ret
    rw[ah HE2];exact⟨rfl,Q4.2⟩
   | false =>
    rw[hP] at PL HE2;clear hP;go_wp2_with (go_at_call 110;refine(ah PL).mono ?_;rintro e w4 ⟨rfl,b4⟩;have Q4:=ah HN w4 b4)
    go_ret
    rw[ah HE2];exact⟨rfl,Q4.2⟩
end Go.Proofs.YtidekgipblnpkaaGreatDoor
