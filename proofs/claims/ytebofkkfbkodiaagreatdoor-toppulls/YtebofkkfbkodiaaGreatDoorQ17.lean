/- A part. -/
import Derived.Test.YtebofkkfbkodiaaGreatDoorQ7
import Derived.Test.YtebofkkfbkodiaaGreatDoorQ14
import Derived.Lib.Atoi
import Derived.Lib.IndexAny
import Derived.Lib.Join
set_option maxRecDepth 100000
set_option maxHeartbeats 8000000
namespace Go.Proofs.YtebofkkfbkodiaaGreatDoor.Pn
open Go Go.Proofs.Tryz
variable {l:List UInt8}{k:Nat}
theorem LK (f:ad)(r:List ad):tk (f::r) 0=f:=rfl
theorem LM (f:ad)(r:List ad)(k:Nat):tk (f::r) (k+1)=tk r k:=rfl
theorem Wv {l:List ad}(h:k<l.length):tk l k=l[k]:=by
 unfold tk;rw[ajC h];rfl
theorem ahs {l:List ad}(h:k<l.length):tk l k∈l:=by
 rw[Wv h];exact ako h
theorem Fz:∀l:List ad,laps l=true↔∃i j,j<i/\i<l.length/\dY (Pl.toks (tk l i)) (Pl.toks (tk l j))=true
 | []=>by
  constructor
  ·intro h;cases h
  ·rintro ⟨i,j,_,h,_⟩;simp at h
 | f::r=>by
  have ih:=Fz r;rw[laps,ali,ih,akN];constructor
  ·rintro (⟨g,hg,hm⟩|⟨i,j,h1,h2,h3⟩)
   ·obtain⟨k,hk,rfl⟩:=akq.1 hg;refine⟨k+1,0,by omega,by simpa using hk,?_⟩;rw[LM,LK,Wv hk,xG];exact hm
   ·exact⟨i+1,j+1,by omega,by simpa using h2,h3⟩
  ·rintro ⟨i,j,h1,h2,h3⟩;obtain⟨i,rfl⟩:∃k,i=k+1:=⟨i-1,by omega⟩;have hi:i<r.length:=by simpa using h2
   cases j with
   | zero =>
    left;refine⟨tk r i,ahs hi,?_⟩;rw[xG];exact h3
   | succ j=>exact Or.inr ⟨i,j,by omega,hi,h3⟩
def gJ (l:List ad):Int:=if 4<l.length then 2 else if l.length=0 then 1 else if kF l≠0 then kF l else if laps l=true then 10 else 0
theorem LP {p:aX}(h:eF p.n=true):aZ p=if gJ p.f≠0 then gJ p.f else if gY p.v fV=true then 0 else 1:=by
 unfold aZ gJ;rw[if_neg (by rw[h];simp)];by_cases h2:4<p.f.length
 ·rw[if_pos h2,if_pos h2];rfl
 ·rw[if_neg h2,if_neg h2];by_cases h3:p.f.length=0
  ·rw[if_pos h3,if_pos h3];rfl
  ·rw[if_neg h3,if_neg h3];by_cases h4:kF p.f≠0
   ·rw[if_pos h4,if_pos h4,if_pos h4]
   ·rw[if_neg h4,if_neg h4];by_cases h5:laps p.f=true
    ·rw[if_pos h5,if_pos h5];rfl
    ·rw[if_neg h5,if_neg h5,if_neg (show ¬(0:Int)≠0 by decide)]
def iU (l:List UInt8):Bool:=l.all jB&&(decide (1<=l.length)&&(decide (l.length<=9)&&decide (l.head?≠some 48)))
theorem qN (h:iU l=true):1<=dU l/\dU l=(lZ l:Int)/\l.length<=9/\l≠[]/\∀c∈l,jB c=true:=by
 unfold iU at h;simp only[ajN,ajG,akS] at h;obtain⟨h1,h2,h3,h4⟩:=h;have hne:l≠[]:=by intro e;rw[e] at h2;simp at h2
 have e:dU l=(lZ l:Int):=by
  unfold dU;rw[if_pos ⟨by rw[ajR (by omega),akS];exact h1,h2,h3,λq=>h4 q.1⟩]
 refine⟨?_,e,h3,hne,h1⟩;rw[e];have:=Vh h1 hne h4;omega
theorem LQ (h:iU l=false):dU l<1:=by
 unfold dU;by_cases q:(l.take 10).all jB=true/\1<=l.length/\l.length<=9/\¬(l.head?=some 48/\l≠[48])
 ·obtain⟨q1,q2,q3,q4⟩:=q;rw[if_pos ⟨q1,q2,q3,q4⟩];rw[ajR (by omega)] at q1;unfold iU at h;rw[q1,ajH q2,ajH q3] at h;have hh:l.head?=some 48:=by simpa using h
  have hl:l=[48]:=akn (λx=>q4 ⟨hh,x⟩);rw[hl];decide
 ·rw[if_neg q];decide
theorem Ce:∀(l:List UInt8) (a:Nat),(∀c∈l,jB c=true)->Lib.decFrom a l=some (l.foldl (λn c=>n*10+(c.toNat-48)) a)
 | [],a,_=>rfl
 | c::r,a,h=>by
  have hc:=h c (by simp);unfold jB at hc;simp only[ajN,ajG] at hc;rw[Lib.decFrom,Lib.digitVal,if_pos ⟨hc.1,hc.2⟩];exact Ce r _ (λx hx=>h x (by simp[hx]))
theorem abx (hne:l≠[])(h:∀c∈l,jB c=true):Lib.atoi l=some (lZ l:Int):=by
 cases l with
 | nil=>exact absurd rfl hne
 | cons c r =>
  have hc:=h c (by simp);unfold jB at hc;simp only[ajN,ajG] at hc;have n45:¬(c==45)=true:=by
   intro e;rw[alx] at e;subst e;simp at hc
  have n43:¬(c==43)=true:=by
   intro e;rw[alx] at e;subst e;simp at hc
  rw[Lib.atoi,if_neg n45,if_neg n43,Lib.decNat,if_neg (by simp),Ce _ _ h];rfl
theorem Yp (h:iU l=true):Lib.atoi l=some (dU l):=by
 obtain⟨_,e,_,hne,hd⟩:=qN h;rw[e,abx hne hd]
end Go.Proofs.YtebofkkfbkodiaaGreatDoor.Pn
namespace Go.Proofs.YtebofkkfbkodiaaGreatDoor
open Go.RowKit Go.Proofs.Tryz
variable {s:ad}{k:Nat}
def O8 (c:Int):Bool:=decide (48<=c)&&decide (c<=57)
def O9 (c:Int):Bool:=(decide (97<=c)&&decide (c<=122))||(O8 c||decide (c=45))
theorem Jo (c:UInt8):O8 (c.toNat:Int)=Pn.jB c:=by
 unfold O8 Pn.jB;rw[akK];simp;omega
theorem FB (c:UInt8):O9 (c.toNat:Int)=Pn.nameB c:=by
 unfold O9 Pn.nameB O8;rw[akK];simp;omega
theorem Bf (c:Int)(w:I) :
 Calls prog 207 #[.int .u8 c] w λe w'=>e=.returned (.bool (O8 c))/\w'=w:=by
 go_enter func207,ntmps207;go_wp2;all_goals go_ret
 all_goals refine⟨lY ?_,rfl⟩
 all_goals simp[O8]
 all_goals omega
theorem zI (c:Int)(w:I) :
 Calls prog 159 #[.int .u8 c] w λe w'=>e=.returned (.bool (O9 c))/\w'=w:=by
 have HD:=aj (Bf c);go_enter func159,ntmps159;go_wp2_with (go_at_call 207;refine(ah HD _).mono ?_;rintro e w' ⟨rfl,rfl⟩);all_goals go_ret
 all_goals refine⟨lY ?_,rfl⟩
 all_goals simp_all [O9,O8]
 all_goals omega
theorem FC (h:s.size<1\/16<s.size):Pn.eF s=false:=by
 unfold Pn.eF;rcases h with h|h
 ·rw[ajE (p:=1<=s.size) (by omega)];simp
 ·rw[ajE (p:=s.size<=16) (by omega)];simp
theorem aby (h1:1<=s.size)(h2:s.size<=16)(h:rD s s.size=true):Pn.eF s=true:=by
 rw[named_ok h];simp;omega
theorem FD (s:ad)(w:I)(hs:s.size<=140737488355328) :
 Calls prog 120 #[.string s] w λe w'=>e=.returned (.bool (Pn.eF s))/\w'=w:=by
 by_cases h1:s.size<1
 ·go_enter func120,ntmps120;go_wp2;go_ret;exact⟨iq (FC (Or.inl h1)),rfl⟩
 by_cases h2:16<s.size
 ·go_enter func120,ntmps120;go_wp2;go_ret;exact⟨iq (FC (Or.inr h2)),rfl⟩
 go_enter func120,ntmps120;go_wp2;go_loop [14] (λi=>∃k:Nat,k<=s.size/\i=aa k/\Hid (rD s k=true)) (λi=>s.size-(intOf i).toNat)
 case atStart=>exact⟨0,ajO _,rfl,aj rfl⟩
 case round =>
  obtain⟨k,hk,rfl,hq⟩:=hrel;by_cases hlt:k<s.size
  ·cases ht:O9 (s[k].toNat:Int) with
   | false =>
    have Ht:=aj ht;clear ht;go_wp2_with (go_at_call 159;refine(zI _ _).mono ?_;rintro e w' ⟨rfl,rfl⟩;rw[ah Ht]);go_ret;exact⟨iq (Yg hlt (by rw[<-FB];exact ah Ht)),rfl⟩
   | true =>
    have Ht:=aj ht;clear ht;go_wp2_with (go_at_call 159;refine(zI _ _).mono ?_;rintro e w' ⟨rfl,rfl⟩;rw[ah Ht]);go_round
    case rel=>exact⟨k+1,by omega,by go_num,aj (by rw[Le hlt,ah hq,<-FB,ah Ht];rfl)⟩
    case measure=>simp[intOf];omega
  ·obtain rfl:k=s.size:=by omega
   go_wp2;go_ret;exact⟨iq (aby (by omega) (by omega) (ah hq)),rfl⟩
def Jp (s:ad)(k:Nat):Bool:=(s.data.toList.take k).all Pn.jB
theorem TV (h:k<s.size):Jp s (k+1)=(Jp s k&&Pn.jB s[k]):=by
 unfold Jp;rw[Jg s k h,List.all_append];simp
theorem aeF (h:k<s.size)(hb:Pn.jB s[k]=false):Pn.iU s.data.toList=false:=by
 unfold Pn.iU;have:s.data.toList.all Pn.jB=false:=by
  rw[List.all_eq_false];exact⟨s[k],by
   have:s.data.toList[k]'(by simpa using h)∈s.data.toList:=ako _;exact this,by simp[hb]⟩
 rw[this];rfl
theorem Wx (h:s.size<1\/9<s.size):Pn.iU s.data.toList=false:=by
 unfold Pn.iU;have e:s.data.toList.length=s.size:=by simp
 rw[e];rcases h with h|h
 ·rw[ajE (p:=1<=s.size) (by omega)];simp
 ·rw[ajE (p:=s.size<=9) (by omega)];simp
theorem Wy (h:0<s.size):s.data.toList.head?=some s[0]:=by
 have hl:0<s.data.toList.length:=by simpa using h
 rw[List.head?_eq_getElem?,ajC hl];rfl
theorem TW (h:0<s.size)(h0:s[0].toNat=48):Pn.iU s.data.toList=false:=by
 unfold Pn.iU;have e:s[0]=48:=amQ.1 h0;rw[Wy h,e];simp
theorem aeG (h1:0<s.size)(h2:s.size<=9)(h0:s[0].toNat≠48)(h:Jp s s.size=true):Pn.iU s.data.toList=true:=by
 unfold Jp at h;rw[ajR (by simp)] at h;unfold Pn.iU;have e:s.data.toList.length=s.size:=by simp
 have hn:s[0]≠48:=λq=>h0 (by rw[q];rfl)
 rw[h,e,Wy h1,ajH (p:=1<=s.size) (by omega),ajH h2,ajH (by intro q;injection q with q;exact hn q)];rfl
theorem zJ (s:ad)(w:I)(hs:s.size<=140737488355328) :
 Calls prog 209 #[.string s] w λe w'=>e=.returned (.bool (Pn.iU s.data.toList))/\w'=w:=by
 by_cases h1:s.size<1
 ·go_enter func209,ntmps209;go_wp2;go_ret;exact⟨iq (Wx (Or.inl h1)),rfl⟩
 by_cases h2:9<s.size
 ·go_enter func209,ntmps209;go_wp2;go_ret;exact⟨iq (Wx (Or.inr h2)),rfl⟩
 have hp:0<s.size:=by omega
 obtain⟨z,hz⟩:∃z,s[0].toNat=z:=⟨_,rfl⟩;by_cases h0:z=48
 ·have HR:=aj (TW hp (hz.trans h0));have g0:((z:Int)==48)=true:=by rw[alx];omega
  go_enter func209,ntmps209;go_wp2;go_ret;exact⟨iq (ah HR),rfl⟩
 have HA:=aj (aeG hp (by omega) (by rw[hz];exact h0));have g0:((z:Int)==48)=false:=by rw[ajM];omega
 go_enter func209,ntmps209;go_wp2;go_loop [19] (λi=>∃k:Nat,k<=s.size/\i=aa k/\Hid (Jp s k=true)) (λi=>s.size-(intOf i).toNat)
 case atStart=>exact⟨0,ajO _,rfl,aj rfl⟩
 case round =>
  obtain⟨k,hk,rfl,hq⟩:=hrel;by_cases hlt:k<s.size
  ·cases ht:O8 (s[k].toNat:Int) with
   | false =>
    have Ht:=aj ht;clear ht;go_wp2_with (go_at_call 207;refine(Bf _ _).mono ?_;rintro e w' ⟨rfl,rfl⟩;rw[ah Ht]);go_ret;exact⟨iq (aeF hlt (by rw[<-Jo];exact ah Ht)),rfl⟩
   | true =>
    have Ht:=aj ht;clear ht;go_wp2_with (go_at_call 207;refine(Bf _ _).mono ?_;rintro e w' ⟨rfl,rfl⟩;rw[ah Ht]);go_round
    case rel=>exact⟨k+1,by omega,by go_num,aj (by rw[TV hlt,ah hq,<-Jo,ah Ht];rfl)⟩
    case measure=>simp[intOf];omega
  ·obtain rfl:k=s.size:=by omega
   go_wp2;go_ret;exact⟨iq (ah HA (ah hq)),rfl⟩
def Fst (w wr:I)(a:Option Addr)(l:List ad):Prop:=gU wr a l/\ai w wr
theorem Fst.next {w wr w':I}{a:Option Addr}{l:List ad}(h:Fst w wr a l)(hb:ai wr w'):Fst w w' a l:=⟨h.1.next hb,ak h.2 hb⟩
def Apart (l:List ad)(i:Nat):Prop:=∀i',i'<i->∀j,j<i'->dY (Pl.toks (tk l i')) (Pl.toks (tk l j))=false
theorem Yq {l:List ad}(h:Apart l l.length):Pn.laps l=false:=by
 rw[amL];intro q;obtain⟨i,j,h1,h2,h3⟩:=(Pn.Fz l).1 q;rw[h i h2 j h1] at h3
 cases h3
theorem LU {f g:ad}(hf:aC true f=0)(hg:aC true g=0):aT f g=dY (Pl.toks f) (Pl.toks g):=by
 unfold aT;rw[hf,hg];rfl
theorem abz (a:Option Addr)(l:List ad)(c:Nat)(w:I)(hsl:gU w a l)(hz:∀k,k<l.length->(tk l k).size<=140737488355328)(hok:∀k,k<l.length->aC true (tk l k)=0)(hl:l.length<=4)(hc:l.length<=c) :
 Calls prog 167 #[.slice a l.length c] w λe w'=>e=.returned (.bool (Pn.laps l))/\ai w w':=by
 have HZ:=aj hz;have HOk:=aj hok;have HS:Hid (Fst w w a l):=aj ⟨hsl,agP _ _⟩;clear hz hok hsl;go_enter func167,ntmps167;go_wp2_with fail;go_loopw [11] (λiv wr=>∃(i:Nat),iv=aa i/\i<=l.length/\Hid (Apart l i)/\Hid (Fst w wr a l)) (λiv _=>l.length-(intOf iv).toNat)
 case atStart=>exact⟨0,rfl,ajO _,aj (λi' h=>by omega),HS⟩
 case round =>
  clear HS;obtain⟨i,rfl,hi,HA,HS⟩:=hrel;by_cases hlt:i<l.length
  ·obtain⟨ba,o,rfl,_,e1⟩:=(ah HS).1 i hlt;go_wp2_with fail;clear e1;go_loopw [20] (λkv wr=>∃(k:Nat),kv=aa k/\k<=i/\Hid (∀j,j<k->dY (Pl.toks (tk l i)) (Pl.toks (tk l j))=false)/\Hid (Fst w wr (some ⟨ba,o,none⟩) l)) (λkv _=>i-(intOf kv).toNat)
   case atStart=>exact⟨0,rfl,ajO _,aj (λj h=>by omega),HS⟩
   case round =>
    clear HS;obtain⟨k,rfl,hk,HK,HS⟩:=hrel;by_cases hki:k<i
    ·obtain⟨ba',o',eq,_,e1⟩:=(ah HS).1 k (by omega)
     cases eq
     have hf:=ah HOk i hlt;have hg:=ah HOk k (by omega);obtain⟨M,hM⟩:∃M,dY (Pl.toks (tk l i)) (Pl.toks (tk l k))=M:=⟨_,rfl⟩;have PO:=aj (xH (f:=tk l i) (s:=tk l k) (a:=M) (x:=0) (by rw[LU hf hg];exact hM) (by rw[hf,hg];rfl) (ah HZ i hlt) (ah HZ k (by omega)) wr);have HM:=aj hM;have HN:=aj (λ(w':I) (h:ai wr w')=>(ah HS).next h);clear hf hg hM
     cases M with
     | true =>
      have HR:Hid (Pn.laps l=true):=aj ((Pn.Fz l).2 ⟨i,k,hki,hlt,ah HM⟩);go_wp2_with (go_at_call 123;refine(ah PO).mono ?_;rintro e w4 ⟨rfl,b4⟩;have Q4:=ah HN w4 b4);go_ret;rw[ah HR];exact⟨rfl,Q4.2⟩
     | false =>
      have yP:Hid (∀j,j<k+1->dY (Pl.toks (tk l i)) (Pl.toks (tk l j))=false):=aj (λj hj=>by
       by_cases e:j=k
       ·rw[e];exact ah HM
       ·exact ah HK j (by omega))
      clear HM HK;go_wp2_with (go_at_call 123;refine(ah PO).mono ?_;rintro e w4 ⟨rfl,b4⟩;have Q4:=aj (ah HN w4 b4);clear b4);refine⟨⟨k+1,by go_num,by omega,yP,Q4⟩,?_⟩;simp[intOf];omega
    ·obtain rfl:k=i:=by omega
     have HA2:Hid (Apart l (k+1)):=aj (λi' hi' j hj=>by
      by_cases e:i'=k
      ·subst e;exact ah HK j hj
      ·exact ah HA i' (by omega) j hj)
     clear HA HK;go_wp2_with fail;refine⟨⟨k+1,by go_num,by omega,HA2,HS⟩,?_⟩;simp[intOf];omega
  ·obtain rfl:i=l.length:=by omega
   have HR:=aj (Yq (ah HA));go_wp2_with fail;go_ret;rw[ah HR];exact⟨rfl,(ah HS).2⟩
theorem Pe (a:Option Addr)(l:List ad)(c:Nat)(w:I)(hsl:gU w a l)(hz:∀k,k<l.length->(tk l k).size<=140737488355328)(hl:l.length<=140737488355328)(hc:l.length<=c) :
 Calls prog 131 #[.slice a l.length c] w λe w'=>e=.returned (aa (Pn.gJ l))/\ai w w':=by
 have HZ:=aj hz;have HS:Hid (Fst w w a l):=aj ⟨hsl,agP _ _⟩;clear hz hsl;by_cases h4:4<l.length
 ·have HR:Hid (Pn.gJ l=2):=aj (by unfold Pn.gJ;rw[if_pos h4]);have g4:decide ((4:Int)<(l.length:Int))=true:=ajH (by omega);go_enter func131,ntmps131;go_wp2_with fail;go_ret;rw[ah HR];exact⟨rfl,(ah HS).2⟩
 have g4:decide ((4:Int)<(l.length:Int))=false:=ajE (by omega);by_cases h0:l.length=0
 ·have HR:Hid (Pn.gJ l=1):=aj (by unfold Pn.gJ;rw[if_neg h4,if_pos h0]);have g0:((l.length:Int)==0)=true:=by rw[alx];omega
  go_enter func131,ntmps131;go_wp2_with fail;go_ret;rw[ah HR];exact⟨rfl,(ah HS).2⟩
 have g0:((l.length:Int)==0)=false:=by rw[ajM];omega
 have HE:Hid (Pn.gJ l=if Pn.kF l≠0 then Pn.kF l else if Pn.laps l=true then 10 else 0):=aj (by unfold Pn.gJ;rw[if_neg h4,if_neg h0]);go_enter func131,ntmps131;go_wp2_with fail;go_loopw [14] (λiv wr=>∃(i:Nat),iv=aa i/\i<=l.length/\Hid (Pn.kF l=Pn.kF (l.drop i)/\∀k,k<i->aC true (tk l k)=0)/\Hid (Fst w wr a l)) (λiv _=>l.length-(intOf iv).toNat)
 case atStart=>exact⟨0,rfl,ajO _,aj ⟨rfl,λk hk=>by omega⟩,HS⟩
 case round =>
  clear HS;obtain⟨i,rfl,hi,HF,HS⟩:=hrel;by_cases hlt:i<l.length
  ·obtain⟨ba,o,rfl,_,e1⟩:=(ah HS).1 i hlt;obtain⟨E,hE⟩:∃E,aC true (tk l i)=E:=⟨_,rfl⟩;have PF:=aj (Ya hE wr (ah HZ i hlt));have HEE:=aj hE;have HN:=aj (λ(w':I) (h:ai wr w')=>(ah HS).next h);clear hE;by_cases hE0:E=0
   ·have HF2:Hid (Pn.kF l=Pn.kF (l.drop (i+1))/\∀k,k<i+1->aC true (tk l k)=0):=aj ⟨by rw[(ah HF).1,Pn.EZ hlt,if_pos (by rw[ah HEE];exact hE0)],λk hk=>by
     by_cases e:k=i
     ·rw[e,ah HEE];exact hE0
     ·exact(ah HF).2 k (by omega)⟩
    subst hE0;clear HF HEE;go_wp2_with (go_at_call 64;refine(ah PF).mono ?_;rintro e w4 ⟨rfl,b4⟩;have Q4:=aj (ah HN w4 b4);clear b4);refine⟨⟨i+1,by go_num,by omega,HF2,Q4⟩,?_⟩;simp[intOf];omega
   ·have HR:Hid (Pn.gJ l=E):=aj (by
     have e1:Pn.kF l=E:=by rw[(ah HF).1,Pn.EZ hlt,if_neg (by rw[ah HEE];exact hE0),ah HEE]
     rw[ah HE,e1,if_pos hE0])
    have hE':(E !=0)=true:=by simpa using hE0
    clear HF HEE;go_wp2_with (go_at_call 64;refine(ah PF).mono ?_;rintro e w4 ⟨rfl,b4⟩;have Q4:=ah HN w4 b4);go_ret;rw[ah HR];exact⟨rfl,Q4.2⟩
  ·obtain rfl:i=l.length:=by omega
   have PL:=aj (abz a l c wr (ah HS).1 (ah HZ) (ah HF).2 (by omega) hc);have HE2:Hid (Pn.gJ l=if Pn.laps l=true then 10 else 0):=aj (by
    have e1:Pn.kF l=0:=by rw[(ah HF).1,amk];rfl
    rw[ah HE,e1,if_neg (show ¬(0:Int)≠0 by decide)])
   have HN:=aj (λ(w':I) (h:ai wr w')=>(ah HS).next h);clear HF HE hlt
   cases hP:Pn.laps l with
   | true =>
    rw[hP] at PL HE2;clear hP;go_wp2_with (go_at_call 167;refine(ah PL).mono ?_;rintro e w4 ⟨rfl,b4⟩;have Q4:=ah HN w4 b4);go_ret;rw[ah HE2];exact⟨rfl,Q4.2⟩
   | false =>
    rw[hP] at PL HE2;clear hP;go_wp2_with (go_at_call 167;refine(ah PL).mono ?_;rintro e w4 ⟨rfl,b4⟩;have Q4:=ah HN w4 b4);go_ret;rw[ah HE2];exact⟨rfl,Q4.2⟩
end Go.Proofs.YtebofkkfbkodiaaGreatDoor
namespace Go.Proofs.YtebofkkfbkodiaaGreatDoor.Tk
open Go Pn Go.Proofs.Tryz
def inB (n lo hi:Int):Bool:=decide (lo<=n)&&decide (n<=hi)
def uq (t:bJ):Bool:=if t.fr=3 then inB t.st 1 999999999 else (inB t.fr 0 2&&decide (t.st=0))
def uw (t:bJ):Bool:=t.bo.all (λn=>inB n 1 100000)&&inB t.wait 1 100000
def Pg (t:bJ):Bool:=if t.ack=0 then (decide (t.wait=0)&&(decide (t.mo=0)&&(decide (t.pe=0)&&decide (t.bo.length=0)))) else if t.ack=1\/t.ack=2 then (uw t&&(inB t.mo 0 20&&inB t.pe 0 50)) else false
def iV (t:bJ):Int:=if eF t.n=false then 3 else if aC true t.f≠0 then aC true t.f else if 5<t.bo.length then 2 else if (uq t&&Pg t)=true then 0 else 1
theorem Bg {t:bJ}(h:iV t=0):eF t.n=true/\aC true t.f=0/\t.bo.length<=5/\uq t=true/\Pg t=true:=by
 unfold iV at h;by_cases h1:eF t.n=false
 ·rw[if_pos h1] at h;cases h
 ·rw[if_neg h1] at h;by_cases h2:aC true t.f≠0
  ·rw[if_pos h2] at h;exact absurd h h2
  ·rw[if_neg h2] at h;by_cases h3:5<t.bo.length
   ·rw[if_pos h3] at h;cases h
   ·rw[if_neg h3] at h;by_cases h4:(uq t&&Pg t)=true
    ·rw[ajN] at h4;exact⟨by simpa using h1,Classical.not_not.1 h2,by omega,h4.1,h4.2⟩
    ·rw[if_neg h4] at h;cases h
def hd:Nat->List UInt8
 | 0=>[102,114,111,109,61]
 | 1=>[97,99,107,61]
 | 2=>[119,97,105,116,61]
 | 3=>[98,97,99,107,111,102,102,61]
 | 4=>[109,111,115,116,61]
 | 5=>[112,101,110,100,105,110,103,61]
 | _=>[112,117,115,104]
def lastT:List UInt8:=[108,97,115,116]
def newT:List UInt8:=[110,101,119]
def Ph:List UInt8:=[110,111,110,101]
def allT:List UInt8:=[97,108,108]
def LV (n:Int):Option (List UInt8):=if n=0 then none else some (Lib.itoa n)
def fromV (t:bJ):Option (List UInt8):=if t.fr=1 then some lastT else if t.fr=2 then some newT else if t.fr=3 then some (Lib.itoa t.st) else none
def aht (n:Int):Option (List UInt8):=if n=0 then some Ph else if n=1 then some allT else none
def boV (l:List Int):Option (List UInt8):=if l=[] then none else some (glue 44 (l.map Lib.itoa))
def mW (t:bJ):Nat->Option (List UInt8)
 | 0=>fromV t
 | 1=>aht t.ack
 | 2=>LV t.wait
 | 3=>boV t.bo
 | 4=>LV t.mo
 | 5=>LV t.pe
 | _=>if t.pu=true then some [] else none
def Pj (t:bJ)(i:Nat):Option (List UInt8):=(mW t i).map (λv=>hd i++v)
def seven:List Nat:=[0,1,2,3,4,5,6]
def EY (t:bJ):List (List UInt8):=t.n.data.toList::t.f.data.toList::seven.filterMap (Pj t)
def ahu (t:bJ):ad:=⟨(glue 32 (EY t)).toArray⟩
def Yr:List (List UInt8)->Option (List Int)
 | []=>some []
 | v::vs=>if dU v<1 then none else (Yr vs).map (λl=>dU v::l)
def jY (t:bJ)(i:Nat)(v:List UInt8):Option bJ:=match i with
 | 0=>if v=lastT then some {t with fr:=1} else if v=newT then some {t with fr:=2} else if dU v<1 then none else some {t with fr:=3,st:=dU v}
 | 1=>if v=Ph then some {t with ack:=0} else if v=allT then some {t with ack:=1} else none
 | 2=>if dU v<1 then none else some {t with wait:=dU v}
 | 3=>(Yr (cut 44 v)).map (λl=>{t with bo:=t.bo++l})
 | 4=>if dU v<1 then none else some {t with mo:=dU v}
 | 5=>if dU v<1 then none else some {t with pe:=dU v}
 | _=>if v=[] then some {t with pu:=true} else none
def zK:List Nat->List (List UInt8)->bJ->Option bJ
 | [],[],t=>some t
 | [],_::_,_=>none
 | _::_,[],t=>some t
 | i::is,u::us,t=>if (hd i).isPrefixOf u=true then (match jY t i (u.drop (hd i).length) with
  | some t'=>zK is us t'
  | none=>none) else zK is (u::us) t
def base (n f:ad):bJ:=⟨n,f,0,0,2,0,[],0,0,false⟩
def dB:bJ:=⟨⟨#[]⟩,⟨#[]⟩,0,0,0,0,[],0,0,false⟩
def dw (s:ad):bJ×Int:=if 1024<s.size then (dB,2) else match cut 32 s.data.toList with
 | n::f::ts=>match zK seven ts (base (bs n) (bs f)) with
  | some t=>if iV t=0 then (t,0) else (dB,iV t)
  | none=>(dB,3)
 | _=>(dB,3)
def put (t c:bJ):Nat->bJ
 | 0=>{c with fr:=t.fr,st:=t.st}
 | 1=>{c with ack:=t.ack}
 | 2=>{c with wait:=t.wait}
 | 3=>{c with bo:=t.bo}
 | 4=>{c with mo:=t.mo}
 | 5=>{c with pe:=t.pe}
 | _=>{c with pu:=t.pu}
def bare (c:bJ):Nat->Prop
 | 0=>c.fr=0/\c.st=0
 | 1=>c.ack=2
 | 2=>c.wait=0
 | 3=>c.bo=[]
 | 4=>c.mo=0
 | 5=>c.pe=0
 | _=>c.pu=false
def like (a b:bJ):Nat->Prop
 | 0=>a.fr=b.fr/\a.st=b.st
 | 1=>a.ack=b.ack
 | 2=>a.wait=b.wait
 | 3=>a.bo=b.bo
 | 4=>a.mo=b.mo
 | 5=>a.pe=b.pe
 | _=>a.pu=b.pu
theorem Pm {a b:bJ}:∀{i:Nat},like a b i->mW a i=mW b i
 | 0,h=>by simp only[like] at h;simp only[mW,fromV];rw[h.1,h.2]
 | 1,h=>by simp only[like] at h;simp only[mW];rw[h]
 | 2,h=>by simp only[like] at h;simp only[mW];rw[h]
 | 3,h=>by simp only[like] at h;simp only[mW];rw[h]
 | 4,h=>by simp only[like] at h;simp only[mW];rw[h]
 | 5,h=>by simp only[like] at h;simp only[mW];rw[h]
 | _+6,h=>by simp only[like] at h;simp only[mW];rw[h]
theorem WA:∀(vs:List (List UInt8)) {l:List Int},Yr vs=some l->l.map Lib.itoa=vs/\l.length=vs.length
 | [],l,h=>by simp[Yr] at h;subst h;exact⟨rfl,rfl⟩
 | v::vs,l,h=>by
  rw[Yr] at h;by_cases hd:dU v<1
  ·rw[if_pos hd] at h;cases h
  ·rw[if_neg hd] at h
   cases hr:Yr vs with
   | none=>rw[hr] at h;simp at h
   | some u =>
    rw[hr] at h;simp at h;subst h;obtain⟨h1,h2⟩:=WA vs hr;have:=(nU (l:=v) (by omega)).1;exact⟨by rw[akw,this,h1],by simp[h2]⟩
end Go.Proofs.YtebofkkfbkodiaaGreatDoor.Tk
namespace Go.Proofs.YtebofkkfbkodiaaGreatDoor.Dk
open Go.RowKit Go.Proofs.Tryz
variable {n now q:Int}{l:List Dv}{p:Dv}{s:aH}{f:ad}{N:Nat}{w':I}
theorem Bh :pR now=true↔0<=now/\now<=1099511627776:=by
 unfold pR;rw[ajN,ajG,ajG]
theorem afP {c:bM}(h:c.Ok)(p:Dv->Bool):(⟨c.t,c.pl,c.pe.filter p,c.cn⟩:bM).Ok where
 rise:=h.rise.sublist List.filter_sublist
 low:=λx hx=>h.low x (alc.1 hx).1
 nth:=λx hx=>h.nth x (alc.1 hx).1
 due:=λx hx=>h.due x (alc.1 hx).1
 none0:=λh0=>by
  show c.pe.filter p=[];rw[h.none0 h0];rfl
 pl:=h.pl
theorem zL {f:Dv->Int}(h:p∈wB l q f):∃x∈l,x.q=p.q/\x.n=p.n/\(p=x\/p.d=f x):=by
 obtain⟨x,hx,rfl⟩:=alh.1 h;refine⟨x,hx,?_⟩;split
 ·exact⟨rfl,rfl,.inr rfl⟩
 ·exact⟨rfl,rfl,.inl rfl⟩
theorem abA {c:bM}(h:c.Ok)(q:Int)(f:Dv->Int)(hf:∀x∈c.pe,0<=f x/\f x<=1099511727776):(⟨c.t,c.pl,wB c.pe q f,c.cn⟩:bM).Ok where
 rise:=by
  show(wB c.pe q f).Pairwise _;unfold wB;rw[List.pairwise_map];refine h.rise.imp (λ{a b} hab=>?_);split<;>split<;>exact hab
 low:=λp hp=>by
  obtain⟨x,hx,e,_⟩:=zL hp;rw[<-e];exact h.low x hx
 nth:=λp hp=>by
  obtain⟨x,hx,_,e,_⟩:=zL hp;rw[<-e];exact h.nth x hx
 due:=λp hp=>by
  obtain⟨x,hx,_,_,r⟩:=zL hp;rcases r with rfl|r
  ·exact h.due p hx
  ·rw[r];exact hf x hx
 none0:=λh0=>by
  show wB c.pe q f=[];rw[h.none0 h0];rfl
 pl:=h.pl
theorem bM.Ok.ans {c:bM}(h:c.Ok)(hw:lX c.t)(now q so n:Int):(iT c now q so n).1.Ok:=by
 unfold iT;split
 ·exact h
 ·rename_i h1;rw[not_or] at h1;have ht:=Bh.1 (by simpa using h1.1);have ha:xM so n=true:=by simpa using h1.2
  split
  ·exact h
  ·split
   ·exact afP h _
   ·split
    ·rename_i h2;refine abA h _ _ (λ_ _=>?_);unfold xM at ha;rw[if_pos h2,ajN,ajG,ajG] at ha;omega
    ·split
     ·exact abA h _ _ (λx _=>by have:=DN hw.w hw.b x.n;omega)
     ·exact afP h _
theorem abB {t:Tk.bJ}(h:Tk.iV t=0):lX t:=by
 have hk:=(Tk.Bg h).2.2.2.2;unfold Tk.Pg at hk;split at hk
 ·simp only[ajN,ajG] at hk;refine⟨by omega,λx hx=>?_⟩;have:t.bo=[]:=ajZ.1 hk.2.2.2;rw[this] at hx
  cases hx
 ·split at hk
  ·rw[ajN] at hk;obtain⟨h1,_⟩:=hk;unfold Tk.uw at h1;rw[ajN,akS] at h1;obtain⟨h2,h3⟩:=h1;unfold Tk.inB at h3;rw[ajN,ajG,ajG] at h3;refine⟨by omega,λx hx=>?_⟩;have h4:=h2 x hx;unfold Tk.inB at h4;rw[ajN,ajG,ajG] at h4;omega
  ·cases hk
theorem agd {t:Tk.bJ}(h:Tk.iV t=0)(hs:s.Ok):(⟨t,eH t s,[],0⟩:bM).Ok where
 rise:=List.Pairwise.nil
 low:=λp hp=>by cases hp
 nth:=λp hp=>by cases hp
 due:=λp hp=>by cases hp
 none0:=λ_=>rfl
 pl:=by
  show 1<=eH t s/\eH t s<=1099511627777;have hl:=hs.last;unfold eH;split
  ·cases hm:ni t.f s.l with
   | none=>show 1<=s.last+1/\s.last+1<=_;omega
   | some m =>
    have h1:m∈s.l:=(alc.1 (List.mem_of_getLast? hm)).1;have:=hs.seq h1;show 1<=m.q/\m.q<=_;omega
  ·split
   ·omega
   ·split
    ·rename_i h3;have hst:=(Tk.Bg h).2.2.2.1;unfold Tk.uq at hst;rw[if_pos h3] at hst;unfold Tk.inB at hst;rw[ajN,ajG,ajG] at hst;omega
    ·omega
theorem aeH (h:zH l q=true):∃a p b,l=a++p::b/\p.q=q:=by
 unfold zH at h;rw[akN] at h;obtain⟨p,hp,e⟩:=h;obtain⟨a,b,rfl⟩:=List.append_of_mem hp;exact⟨a,p,b,rfl,by simpa using e⟩
theorem aeI {a b:List Dv}(h:(a++p::b).Pairwise λx y=>x.q<y.q):(a++p::b).filter (λx=>decide (p.q<x.q))=b:=by
 rw[akO,akL] at h;obtain⟨_,⟨h2,_⟩,h3⟩:=h;rw[alr,List.filter_cons_of_neg (by simp)];rw[List.filter_eq_nil_iff.2 (λx hx=>?_),akZ.2 (λx hx=>?_),akD]
 ·have:=h2 x hx;simpa using this
 ·have:=h3 x hx p (ajP ..);simp only[ajG];omega
theorem WB {a b:List Dv}(h:(a++p::b).Pairwise λx y=>x.q<y.q)(f:Dv->Int):wB (a++p::b) p.q f=a++⟨p.q,p.n,f p⟩::b:=by
 rw[akO,akL] at h;obtain⟨_,⟨h2,_⟩,h3⟩:=h;unfold wB;rw[akt,akw,if_pos rfl];congr 1
 ·conv=>rhs;rw[<-List.map_id a]
  apply alP;intro x hx;have:=h3 x hx p (ajP ..);rw[if_neg (by omega)];rfl
 ·congr 1
  conv=>rhs;rw[<-List.map_id b]
  apply alP;intro x hx;have:=h2 x hx;rw[if_neg (by omega)];rfl
theorem Yt :∀{l:List Rc} {n:Int},aV f l n=none->dN f l n=0:=by
 intro l n h;unfold aV at h;unfold dN;rw[akW] at h;rw[ajZ,List.filter_eq_nil_iff];exact h
theorem left_step {f:ad}:∀{l:List Rc} {n:Int} {m:Rc},(l.Pairwise λa b=>a.q<b.q)->aV f l n=some m->dN f l n=dN f l (m.q+1)+1
 | [],n,m,_,h=>by simp[aV] at h
 | x::l,n,m,hp,h=>by
  obtain⟨h1,h2⟩:=akL.1 hp;by_cases hx:(ng f x.s&&decide (n<=x.q))=true
  ·have e:aV f (x::l) n=some x:=by unfold aV;rw[List.find?_cons_of_pos (p:=λr:Rc=>ng f r.s&&decide (n<=r.q)) hx]
   rw[e] at h
   cases h
   have e1:dN f (x::l) n=dN f l n+1:=by unfold dN;rw[List.filter_cons_of_pos (p:=λr:Rc=>ng f r.s&&decide (n<=r.q)) hx];rfl
   have e2:dN f (x::l) (x.q+1)=dN f l (x.q+1):=by
    unfold dN;rw[List.filter_cons_of_neg (by simp only[ajN,ajG,not_and];intro _;omega)]
   have e3:dN f l n=dN f l (x.q+1):=by
    unfold dN;congr 1
    apply List.filter_congr;intro r hr;have:=h1 r hr;simp only[ajN,ajG] at hx;rw[ajH (show n<=r.q by omega),ajH (show x.q+1<=r.q by omega)]
   rw[e1,e2,e3]
  ·have e:aV f (x::l) n=aV f l n:=by unfold aV;rw[List.find?_cons_of_neg (p:=λr:Rc=>ng f r.s&&decide (n<=r.q)) hx]
   rw[e] at h;have hm:=(vP h).1;have:=h1 m hm;have e1:dN f (x::l) n=dN f l n:=by unfold dN;rw[List.filter_cons_of_neg (p:=λr:Rc=>ng f r.s&&decide (n<=r.q)) hx]
   have e2:dN f (x::l) (m.q+1)=dN f l (m.q+1):=by
    unfold dN;rw[List.filter_cons_of_neg (by simp only[ajN,ajG,not_and];intro _;omega)]
   rw[e1,e2];exact left_step h2 h
theorem abC {l:List Rc}:dN f l n<=l.length:=akF _ _
def Ci (f:ad)(l:List Rc):Option Rc->Nat
 | none=>0
 | some m=>dN f l (m.q+1)+1
theorem WC {l:List Rc}(hp:l.Pairwise λa b=>a.q<b.q):Ci f l (aV f l n)=dN f l n:=by
 cases h:aV f l n with
 | none=>rw[Yt h];rfl
 | some m=>rw[left_step hp h];rfl
def LW (c:bM):Bool:=(c.t.pe !=0)&&decide (c.t.pe<=(c.pe.length:Int))
def newC (c:bM)(l:List Rc)(now:Int):bM×Option (Rc×Int)×Int :=
 if LW c=true then (c,none,11) else match aV c.t.f l c.pl with
  | none=>(c,none,4)
  | some m=>(⟨c.t,m.q+1,if c.t.ack=0 then c.pe else c.pe++[⟨m.q,1,now+Tk.fH c.t 1⟩],c.cn+1⟩,some (m,1),0)
theorem Pq {c:bM}{l:List Rc}(ht:pR now=true)(h:(kH c.t l now c.pe).2=none):aK c l now=newC ⟨c.t,c.pl,(kH c.t l now c.pe).1,c.cn⟩ l now:=by
 unfold aK newC LW;rw[ht,if_neg (by simp)];rw[h];by_cases q:c.t.pe≠0/\c.t.pe<=((kH c.t l now c.pe).1.length:Int)
 ·have e:((c.t.pe !=0)&&decide (c.t.pe<=((kH c.t l now c.pe).1.length:Int)))=true:=by
   rw[ajH q.2,Bool.and_true];simpa using q.1
  simp only[e,if_pos q,ami]
 ·have e:((c.t.pe !=0)&&decide (c.t.pe<=((kH c.t l now c.pe).1.length:Int)))=false:=by
   by_cases z:c.t.pe=0
   ·rw[z];rfl
   ·rw[ajE (λy=>q ⟨z,y⟩),Bool.and_false]
  simp only[e,if_neg q,amZ,if_false];all_goals (cases aV c.t.f l c.pl<;>rfl)
theorem TY {c:bM}{l:List Rc}{m:Rc}(ht:pR now=true)(h:(kH c.t l now c.pe).2=some (m,n)):aK c l now=(⟨c.t,c.pl,(kH c.t l now c.pe).1,c.cn+1⟩,some (m,n),0):=by
 unfold aK;rw[ht,if_neg (by simp),h]
def oW (c:bM)(l:List Rc):Option (Rc×Int)->mM
 | none=>dP
 | some (m,n)=>⟨m.q,m.s,m.d,c.cn,n,(dN c.t.f l c.pl:Int)⟩
structure bM.Go (c:bM)(N:Nat):Prop where
 ok:c.Ok
 right:Tk.iV c.t=0
 small:jU c.t
 cn:0<=c.cn/\c.cn<=(N:Int)
 nth:∀p∈c.pe,0<=p.n/\p.n<=(N:Int)
 len:c.pe.length<=N
theorem bM.Go.waits {c:bM}(h:c.Go N):lX c.t:=abB h.right
theorem bM.Go.bo {c:bM}{N:Nat}(h:c.Go N):c.t.bo.length<=5:=(Tk.Bg h.right).2.2.1
theorem bM.Go.filt {c:bM}(h:c.Go N):aC true c.t.f=0:=(Tk.Bg h.right).2.1
theorem bM.Go.more {c:bM}{M:Nat}(h:c.Go N)(hm:N<=M):c.Go M :=
 ⟨h.ok,h.right,h.small,by have:=h.cn;omega,λp hp=>by have:=h.nth p hp;omega,by have:=h.len;omega⟩
theorem bM.Go.new {t:Tk.bJ}(h:Tk.iV t=0)(hs:jU t)(hk:s.Ok):(⟨t,eH t s,[],0⟩:bM).Go 0 :=
 ⟨agd h hk,h,hs,⟨amb _,amb _⟩,λp hp=>(by cases hp),agH _⟩
theorem agf {t:Tk.bJ}{l:List Rc}{ps:List Dv}(h:∀p∈ps,0<=p.n/\p.n<=(N:Int)):∀p∈(kH t l now ps).1,0<=p.n/\p.n<=((N+1:Nat):Int):=λp hp=>by
 obtain⟨x,hx,_,r⟩:=uo hp;have:=h x hx;rcases r with rfl|⟨r,_⟩<;>omega
theorem jy (c:bM)(l:List Rc)(now:Int):(aK c l now).1.t=c.t:=by
 unfold aK;split
 ·rfl
 ·split
  ·rfl
  ·split
   ·rfl
   ·split<;>rfl
theorem bM.Go.next {c:bM}{N:Nat}(h:c.Go N){s:aH}(hs:s.Ok)(now:Int):(aK c s.l now).1.Go (N+1):=by
 have hcn:=h.cn;have hl:=h.len;have ha:=Bc (t:=c.t) (l:=s.l) (now:=now) c.pe;have hn:=agf (t:=c.t) (l:=s.l) (now:=now) h.nth;refine⟨h.ok.next h.waits hs now,by rw[jy];exact h.right,by rw[jy];exact h.small,?_,?_,?_⟩
 ·unfold aK;split
  ·show 0<=c.cn/\c.cn<=_;omega
  ·split
   ·show 0<=c.cn+1/\c.cn+1<=_;omega
   ·split
    ·show 0<=c.cn/\c.cn<=_;omega
    ·split
     ·show 0<=c.cn/\c.cn<=_;omega
     ·show 0<=c.cn+1/\c.cn+1<=_;omega
 ·unfold aK;split
  ·exact λp hp=>by have:=h.nth p hp;omega
  ·split
   ·exact hn
   ·split
    ·exact hn
    ·split
     ·exact hn
     ·intro p hp;simp only at hp;split at hp
      ·exact hn p hp
      ·rcases akg.1 hp with q|q
       ·exact hn p q
       ·rw[akd] at q;subst q;show(0:Int)<=1/\(1:Int)<=_;omega
 ·unfold aK;split
  ·show c.pe.length<=_;omega
  ·split
   ·show(kH c.t s.l now c.pe).1.length<=_;omega
   ·split
    ·show(kH c.t s.l now c.pe).1.length<=_;omega
    ·split
     ·show(kH c.t s.l now c.pe).1.length<=_;omega
     ·simp only;split
      ·omega
      ·rw[ajB];simp only[akR];omega
theorem uy (c:bM)(now q so n:Int):(iT c now q so n).1.t=c.t:=by
 unfold iT;split
 ·rfl
 ·split
  ·rfl
  ·split
   ·rfl
   ·split
    ·rfl
    ·split<;>rfl
theorem agh (c:bM)(now q so n:Int):(iT c now q so n).1.cn=c.cn/\(iT c now q so n).1.pl=c.pl:=by
 unfold iT;split
 ·exact⟨rfl,rfl⟩
 ·split
  ·exact⟨rfl,rfl⟩
  ·split
   ·exact⟨rfl,rfl⟩
   ·split
    ·exact⟨rfl,rfl⟩
    ·split<;>exact⟨rfl,rfl⟩
theorem aeJ {c:bM}{so:Int}(hp:p∈(iT c now q so n).1.pe):∃x∈c.pe,x.q=p.q/\x.n=p.n:=by
 have hd:∀f:Dv->Int,p∈wB c.pe q f->∃x∈c.pe,x.q=p.q/\x.n=p.n:=λf h=>by
  obtain⟨x,hx,e1,e2,_⟩:=zL h;exact⟨x,hx,e1,e2⟩
 unfold iT at hp;split at hp
 ·exact⟨p,hp,rfl,rfl⟩
 ·split at hp
  ·exact⟨p,hp,rfl,rfl⟩
  ·split at hp
   ·exact⟨p,(alc.1 hp).1,rfl,rfl⟩
   ·split at hp
    ·exact hd _ hp
    ·split at hp
     ·exact hd _ hp
     ·exact⟨p,(alc.1 hp).1,rfl,rfl⟩
theorem aeK (c:bM)(now q so n:Int):(iT c now q so n).1.pe.length<=c.pe.length:=by
 unfold iT;split
 ·exact agH _
 ·split
  ·exact agH _
  ·split
   ·exact akF _ _
   ·split
    ·show(wB _ _ _).length<=_;unfold wB;rw[akk];exact agH _
    ·split
     ·show(wB _ _ _).length<=_;unfold wB;rw[akk];exact agH _
     ·exact akF _ _
theorem bM.Go.ans {c:bM}{N:Nat}(h:c.Go N)(now q so n:Int):(iT c now q so n).1.Go N :=
 ⟨h.ok.ans h.waits now q so n,by rw[uy];exact h.right,by rw[uy];exact h.small,by rw[(agh c now q so n).1];exact h.cn,λp hp=>by
  obtain⟨x,hx,_,e⟩:=aeJ hp;rw[<-e];exact h.nth x hx,ajA (aeK c now q so n) h.len⟩
def aeL (CH:I->Nat->Nat->af->bM->Prop)(w w':I)(B b:Nat)(G:af)(c:bM):Prop:=∃G',CH w' B b G' c/\aA G w w'/\∀k,G' k->G k\/w.heap.size<=k
structure abD (SH:I->Nat->Nat->af->aH->Prop)(CH:I->Nat->Nat->af->bM->Prop):Prop where
 own:∀{w B b G c},CH w B b G c->∀k,G k->B<=k/\k<w.heap.size
 aF:∀{w w' B b G c} {A:af},CH w B b G c->aA A w w'->(∀k,G k->¬A k)->CH w' B b G c
 bad:∀{w:I} (t:Tk.bJ) (a:Option Addr) (ca q:Nat),jU t->kK w a t.bo->Tk.iV t≠0 ->
  Calls prog 40 #[sJ t a ca,ae q] w λe w'=>e=.returned (.tuple #[.pointer none,aa (Tk.iV t)])/\ai w w'
 new:∀{w B' q F s} (t:Tk.bJ) (a:Option Addr) (ca:Nat),jU t->kK w a t.bo->Tk.iV t=0->SH w B' q F s->s.Ok->B'<=w.heap.size ->
  Calls prog 40 #[sJ t a ca,ae q] w λe w'=>(∃b G,e=.returned (.tuple #[ae b,aa 0])/\CH w' w.heap.size b G ⟨t,eH t s,[],0⟩)/\ai w w'
 next:∀{w B b G c B' q F s N},CH w B b G c->c.Go N->N<=100000->SH w B' q F s->s.Ok->B<=w.heap.size->B'<=w.heap.size->(∀k,F k->¬G k)->∀now:Int,
  Calls prog 33 #[ae b,ae q,aa now] w λe w'=>e=.returned (.tuple #[NP (oW (aK c s.l now).1 s.l (aK c s.l now).2.1),aa (aK c s.l now).2.2])/\aeL CH w w' B b G (aK c s.l now).1
 answer:∀{w B b G c N},CH w B b G c->c.Go N->N<=100000->∀now q so n:Int,
  Calls prog 35 #[ae b,aa now,aa q,.agg #[aa so,aa n]] w λe w'=>e=.returned (aa (iT c now q so n).2)/\aeL CH w w' B b G (iT c now q so n).1
 done:∀{w B b G c N},CH w B b G c->c.Go N->N<=100000->∀n:Int,
  Calls prog 142 #[ae b,aa n] w λe w'=>e=.returned (.bool (um c n))/\ai w w'
 taker:∀{w B b G c N},CH w B b G c->c.Go N ->
  Calls prog 42 #[ae b] w λe w'=>∃a' c',e=.returned (sJ c.t a' c')/\Nums w' w.heap.size (.slice a' c.t.bo.length c') c.t.bo/\ai w w'
def xO:List Dv->List Value
 | []=>[]
 | p::l=>aa p.q::aa p.n::aa p.d::xO l
theorem uz:∀l:List Dv,(xO l).length=l.length*3
 | []=>rfl
 | p::l=>by simp[xO,uz l];omega
theorem uD:∀a b:List Dv,xO (a++b)=xO a++xO b
 | [],_=>rfl
 | p::a,b=>by simp[xO,uD a b]
def dv (l:List Dv)(k:Nat):Dv:=l[k]?.getD ⟨0,0,0⟩
theorem WE:∀(l:List Dv) (k:Nat),k<l.length->(xO l)[k*3]?=some (aa (dv l k).q)/\(xO l)[k*3+1]?=some (aa (dv l k).n)/\(xO l)[k*3+2]?=some (aa (dv l k).d)
 | [],k,h=>absurd h (akh k)
 | p::l,0,_=>⟨rfl,rfl,rfl⟩
 | p::l,k+1,h=>by
  rw[show(k+1)*3=k*3+1+1+1 by omega];have:=WE l k (by simpa using h);have e:dv (p::l) (k+1)=dv l k:=rfl;rw[e];exact this
def jc (w:I)(B:Nat)(v:Value)(l:List Dv):Prop:=w.ownsRow B 148 3 v l.length (xO l)
theorem jc.empty (w:I)(B:Nat):jc w B (.slice none 0 0) []:=alu w B _ 3
theorem jc.aF {A:af}{w:I}{B:Nat}{v:Value}(h:jc w B v l)(hb:aA A w w')(hn:∀g,v.ownBlock=some g->¬A g):jc w' B v l:=by
 refine⟨h.1,?_⟩;rcases h.2 with q|⟨g,cap,cur,h1,h2,h3,r⟩
 ·exact .inl q
 ·refine .inr ⟨g,cap,cur,h1,h2,?_,r⟩;rw[hb.block g (h.lt g (by rw[h1];rfl)).2 (hn g (by rw[h1];rfl))];exact h3
theorem jc.below {w:I}{B:Nat}{v:Value}(h:jc w B v l)(hb:ai w w'):jc w' B v l:=h.aF (A:=λ_=>False) (aA.of_below hb) (λ_ _ z=>z)
structure Thr (w:I)(b o:Nat)(p:Dv):Prop where
 lt:b<w.heap.size
 c0:w.cell? (aq b o)=some (aa p.q)
 c1:w.cell? (aq b (o+1))=some (aa p.n)
 c2:w.cell? (aq b (o+2))=some (aa p.d)
def SlD (w:I)(a:Option Addr)(l:List Dv):Prop:=∀k,k<l.length->∃b,a=some ⟨b,0,none⟩/\Thr w b (k*3) (dv l k)
theorem jc.shape {w:I}{B:Nat}{v:Value}(h:jc w B v l):∃a cap,v=.slice a l.length cap/\l.length<=cap/\cap<=maxLen/\SlD w a l:=by
 rcases h.2 with ⟨h1,h2⟩|⟨g,cap,cur,h1,h2,h3,h4,h5,h6,h7⟩
 ·exact⟨none,0,by rw[h1,h2],by omega,by simp[maxLen],λk hk=>by omega⟩
 ·refine⟨_,cap,h1,h4,h5,λk hk=>⟨g,rfl,?_⟩⟩;have hl:=(h.lt g (by rw[h1];rfl)).2;have hat:=WE l k hk;rw[h1] at h;refine⟨hl,?_,?_,?_⟩
  ·rw[ake h (k*3) (by omega)];exact hat.1
  ·rw[ake h (k*3+1) (by omega)];exact hat.2.1
  ·rw[ake h (k*3+2) (by omega)];exact hat.2.2
structure Cm (w:I)(B b:Nat)(c:bM)(a:Option Addr)(ca:Nat)(v:Value):Prop where
 tb:TB w b c.t a ca
 pl:w.cell? (aq b 10)=some (aa c.pl)
 pe:w.cell? (aq b 11)=some v
 cn:w.cell? (aq b 12)=some (aa c.cn)
 row:jc w B v c.pe
 bo:kK w a c.t.bo
 fr:∀i,w.frozen? (aq b i)=false
 bB:B<=b
 ne1:v.ownBlock≠some b
 ne2:∀z,a=some z->z.block≠b/\v.ownBlock≠some z.block
 al:∀z,a=some z->B<=z.block/\z.block<w.heap.size
theorem Cm.next {w w':I}{B b:Nat}{c:bM}{a:Option Addr}{ca:Nat}{v:Value}(h:Cm w B b c a ca v)(hb:ai w w'):Cm w' B b c a ca v :=
 ⟨h.tb.next hb,by rw[hb.cell (p:=aq b 10) h.tb.lt];exact h.pl,by rw[hb.cell (p:=aq b 11) h.tb.lt];exact h.pe,by rw[hb.cell (p:=aq b 12) h.tb.lt];exact h.cn,h.row.below hb,jO h.bo hb,λi=>by rw[hb.frozen (p:=aq b i) h.tb.lt];exact h.fr i,h.bB,h.ne1,h.ne2,λz hz=>⟨(h.al z hz).1,ajz (h.al z hz).2 hb.size⟩⟩
theorem Cm.aF {A:af}{w w':I}{B b:Nat}{c:bM}{a:Option Addr}{ca:Nat}{v:Value}(h:Cm w B b c a ca v)(hb:aA A w w')(h1:¬A b)(h2:∀g,v.ownBlock=some g->¬A g)(h3:∀z,a=some z->¬A z.block):Cm w' B b c a ca v :=
 ⟨h.tb.same hb.size (λj=>hb.cell (p:=aq b j) h.tb.lt h1),by rw[hb.cell (p:=aq b 10) h.tb.lt h1];exact h.pl,by rw[hb.cell (p:=aq b 11) h.tb.lt h1];exact h.pe,by rw[hb.cell (p:=aq b 12) h.tb.lt h1];exact h.cn,h.row.aF hb h2,(λk hk=>by
  obtain⟨b',o,e1,e2,e3⟩:=h.bo k hk;exact⟨b',o,e1,ajz e2 hb.size,by rw[hb.cell (p:=aq b' (o+k)) e2 (h3 ⟨b',o,none⟩ e1)];exact e3⟩),λi=>by rw[hb.frozen (p:=aq b i) h.tb.lt h1];exact h.fr i,h.bB,h.ne1,h.ne2,λz hz=>⟨(h.al z hz).1,ajz (h.al z hz).2 hb.size⟩⟩
theorem Cm.put {w w1:I}{B b:Nat}{c:bM}{a:Option Addr}{ca:Nat}{v:Value}(h:Cm w B b c a ca v)(h1:aA (λk=>v.ownBlock=some k) w w1){j:Nat}{u v':Value}{pl cn:Int}{pe:List Dv}(hj:j=10/\u=aa pl/\cn=c.cn/\v'=v\/j=12/\u=aa cn/\pl=c.pl/\v'=v\/j=11/\u=v'/\pl=c.pl/\cn=c.cn)(hr:jc w1 B v' pe)(hv:∀g,v'.ownBlock=some g->v.ownBlock=some g\/w.heap.size<=g) :
 Cm (w1.setCell (aq b j) u) B b ⟨c.t,pl,pe,cn⟩ a ca v':=by
 have hnb:¬(v.ownBlock=some b):=h.ne1;have hc:aA (λk=>k=b) w1 (w1.setCell (aq b j) u):=(aA.refl (λk=>k=b) w1).setCell (p:=aq b j) (.inl rfl) _;have hlt:=h.tb.lt;have ho:∀i,i≠j->(w1.setCell (aq b j) u).cell? (aq b i)=w.cell? (aq b i):=λi hi=>by
  rw[ajD _ _ _ _ (by intro e;injection e;omega),h1.cell (p:=aq b i) hlt hnb]
 have hs:∀x,w.cell? (aq b j)=some x->(w1.setCell (aq b j) u).cell? (aq b j)=some u:=λx hx=>akf _ _ _ (by rw[h1.cell (p:=aq b j) hlt hnb];exact hx)
 have hj9:10<=j:=by omega
 have hne':v'.ownBlock≠some b:=λe=>by
  rcases hv b e with q|q
  ·exact hnb q
  ·omega
 refine⟨⟨by have:=h1.size;simp[World.setCell];omega,by rw[ho 0 (by omega)];exact h.tb.c0,by rw[ho 1 (by omega)];exact h.tb.c1,by rw[ho 2 (by omega)];exact h.tb.c2,by rw[ho 3 (by omega)];exact h.tb.c3,by rw[ho 4 (by omega)];exact h.tb.c4,by rw[ho 5 (by omega)];exact h.tb.c5,by rw[ho 6 (by omega)];exact h.tb.c6,by rw[ho 7 (by omega)];exact h.tb.c7,by rw[ho 8 (by omega)];exact h.tb.c8,by rw[ho 9 (by omega)];exact h.tb.c9⟩,?_,?_,?_,hr.aF hc (λg hg z=>hne' (by rw[hg];exact congrArg some z)),?_,λi=>by rw[ajV,h1.frozen (p:=aq b i) hlt hnb];exact h.fr i,h.bB,hne',λz hz=>⟨(h.ne2 z hz).1,λq=>?_⟩,λz hz=>⟨(h.al z hz).1,by have:=(h.al z hz).2;have:=h1.size;simp[World.setCell];omega⟩⟩
 ·rcases hj with ⟨rfl,rfl,_,_⟩|⟨rfl,_,rfl,_⟩|⟨rfl,_,rfl,_⟩
  ·exact hs _ h.pl
  ·rw[ho 10 (by omega)];exact h.pl
  ·rw[ho 10 (by omega)];exact h.pl
 ·rcases hj with ⟨rfl,_,_,rfl⟩|⟨rfl,_,_,rfl⟩|⟨rfl,rfl,_,_⟩
  ·rw[ho 11 (by omega)];exact h.pe
  ·rw[ho 11 (by omega)];exact h.pe
  ·exact hs _ h.pe
 ·rcases hj with ⟨rfl,_,rfl,_⟩|⟨rfl,rfl,_,_⟩|⟨rfl,_,_,rfl⟩
  ·rw[ho 12 (by omega)];exact h.cn
  ·exact hs _ h.cn
  ·rw[ho 12 (by omega)];exact h.cn
 ·intro k hk;obtain⟨b',o,e1,e2,e3⟩:=h.bo k hk;have hne:=h.ne2 _ e1;have hne1:b'≠b:=hne.1;exact⟨b',o,e1,by have:=h1.size;simp[World.setCell];omega,by rw[ajD _ _ _ _ (by intro e;injection e;omega),h1.cell (p:=aq b' (o+k)) e2 hne.2];exact e3⟩
 ·rcases hv _ q with y|y
  ·exact(h.ne2 z hz).2 y
  ·have:=(h.al z hz).2;omega
def ny (b:Nat)(v:Value)(k:Nat):Prop:=k=b\/v.ownBlock=some k
def bF (w w':I)(B b:Nat)(a:Option Addr)(ca:Nat)(v:Value)(c':bM):Prop:=∃v',Cm w' B b c' a ca v'/\aA (ny b v) w w'/\∀g,v'.ownBlock=some g->v.ownBlock=some g\/w.heap.size<=g
theorem bF.same {w:I}{B b:Nat}{c:bM}{a:Option Addr}{ca:Nat}{v:Value}(h:Cm w B b c a ca v)(hb:ai w w'):bF w w' B b a ca v c:=⟨v,h.next hb,aA.of_below hb,λ_ hg=>.inl hg⟩
theorem bF.trans {w w1 w':I}{B b:Nat}{a:Option Addr}{ca:Nat}{v v1:Value}{c':bM}(c1:aA (ny b v) w w1)(h1:∀g,v1.ownBlock=some g->v.ownBlock=some g\/w.heap.size<=g)(h:bF w1 w' B b a ca v1 c'):bF w w' B b a ca v c':=by
 obtain⟨v',k,c,hg⟩:=h;have s:=c1.size;refine⟨v',k,⟨c.os.trans c1.os,c.tape.trans c1.tape,c.output.trans c1.output,ajA c1.size c.size,λi hi hn=>?_⟩,λg e=>?_⟩
 ·rw[c.block i (by omega) (λq=>?_)]
  ·exact c1.block i hi hn
  ·rcases q with q|q
   ·exact hn (.inl q)
   ·rcases h1 i q with z|z
    ·exact hn (.inr z)
    ·omega
 ·rcases hg g e with z|z
  ·exact h1 g z
  ·exact .inr (by omega)
theorem bF.put {w w1:I}{B b:Nat}{c:bM}{a:Option Addr}{ca:Nat}{v:Value}(h:Cm w B b c a ca v)(h1:aA (λk=>v.ownBlock=some k) w w1){j:Nat}{u v':Value}{pl cn:Int}{pe:List Dv}(hj:j=10/\u=aa pl/\cn=c.cn/\v'=v\/j=12/\u=aa cn/\pl=c.pl/\v'=v\/j=11/\u=v'/\pl=c.pl/\cn=c.cn)(hr:jc w1 B v' pe)(hv:∀g,v'.ownBlock=some g->v.ownBlock=some g\/w.heap.size<=g) :
 bF w (w1.setCell (aq b j) u) B b a ca v ⟨c.t,pl,pe,cn⟩ :=
 ⟨v',h.put h1 hj hr hv,(h1.mono (λ_ _ q=>.inr q)).setCell (.inl (.inl rfl)) _,hv⟩
end Go.Proofs.YtebofkkfbkodiaaGreatDoor.Dk
namespace Go.Proofs.YtebofkkfbkodiaaGreatDoor
open Go.RowKit Go.Proofs.Tryz
variable {w0:I}{l:List Int}
def tkC (t:Tk.bJ)(a:Option Addr)(c:Nat):Nat->Value
 | 0=>.string t.n
 | 1=>.string t.f
 | 2=>aa t.fr
 | 3=>aa t.st
 | 4=>aa t.ack
 | 5=>aa t.wait
 | 6=>.slice a t.bo.length c
 | 7=>aa t.mo
 | 8=>aa t.pe
 | _=>.bool t.pu
theorem TB.of {w:I}{b:Nat}{t:Tk.bJ}{a:Option Addr}{c:Nat}(hb:b<w.heap.size)(h:∀j,j<10->w.cell? (aq b j)=some (tkC t a c j)):TB w b t a c :=
 ⟨hb,h 0 (by omega),h 1 (by omega),h 2 (by omega),h 3 (by omega),h 4 (by omega),h 5 (by omega),h 6 (by omega),h 7 (by omega),h 8 (by omega),h 9 (by omega)⟩
theorem TB.cells {w:I}{b:Nat}{t:Tk.bJ}{a:Option Addr}{c:Nat}(h:TB w b t a c):∀j,j<10->w.cell? (aq b j)=some (tkC t a c j)
 | 0,_=>h.c0
 | 1,_=>h.c1
 | 2,_=>h.c2
 | 3,_=>h.c3
 | 4,_=>h.c4
 | 5,_=>h.c5
 | 6,_=>h.c6
 | 7,_=>h.c7
 | 8,_=>h.c8
 | 9,_=>h.c9
 | j+10,hj=>absurd hj (by omega)
theorem TB.put {w:I}{b:Nat}{t t':Tk.bJ}{a a':Option Addr}{c c':Nat}(h:TB w b t a c)(i:Nat)(hi:i<10)(hn:∀j,j<10->j≠i->tkC t' a' c' j=tkC t a c j):TB (w.setCell (aq b i) (tkC t' a' c' i)) b t' a' c':=by
 refine TB.of (by simpa[World.setCell] using h.lt) (λj hj=>?_);by_cases e:j=i
 ·subst e;exact akf _ _ _ (h.cells j hj)
 ·rw[ajD _ _ _ _ (by intro z;injection z;omega),hn j hj e];exact h.cells j hj
structure nP (w0 w:I)(b:Nat)(t:Tk.bJ)(a:Option Addr)(c:Nat):Prop where
 tb:TB w b t a c
 nums:Dk.Nums w (b+1) (.slice a t.bo.length c) t.bo
 fr:∀i,w.frozen? (aq b i)=false
 low:Below b w0 w
theorem nP.next {w0 w w':I}{b:Nat}{t:Tk.bJ}{a:Option Addr}{c:Nat}(h:nP w0 w b t a c)(hb:ai w w'):nP w0 w' b t a c :=
 ⟨h.tb.next hb,h.nums.below hb,λi=>by rw[hb.frozen (p:=aq b i) h.tb.lt];exact h.fr i,h.low.trans (hb.mono (amx h.tb.lt))⟩
theorem low_set {w:I}{b i:Nat}{x:Value}(h:Below b w0 w):Below b w0 (w.setCell (aq b i) x):=by
 refine h.trans ?_;have:=(Dk.aA.refl (λk=>k=b) w).setCell (p:=aq b i) (.inl rfl) x;exact⟨this.os,this.tape,this.output,this.size,λk hk=>by
  by_cases hs:k<w.heap.size
  ·exact this.block k hs (by show ¬k=b;omega)
  ·have e:(w.setCell (aq b i) x).heap.size=w.heap.size:=by simp[World.setCell]
   rw[Array.getElem?_eq_none (by omega),Array.getElem?_eq_none (by omega)]⟩
theorem nP.put {w0 w:I}{b:Nat}{t:Tk.bJ}{a:Option Addr}{c:Nat}(h:nP w0 w b t a c)(t':Tk.bJ)(i:Nat)(hi:i<10)(hn:∀j,j<10->j≠i->tkC t' a c j=tkC t a c j)(Pv:t'.bo=t.bo):nP w0 (w.setCell (aq b i) (tkC t' a c i)) b t' a c:=by
 refine⟨h.tb.put i hi hn,?_,λj=>by rw[ajV];exact h.fr j,low_set h.low⟩;rw[Pv];exact h.nums.aF ((Dk.aA.refl (λk=>k=b) w).setCell (p:=aq b i) (.inl rfl) _) (λg hg z=>by have:g=b:=z;omega)
theorem nP.fr' {w:I}{b:Nat}{t:Tk.bJ}{a:Option Addr}{c:Nat}(h:nP w0 w b t a c)(x:Int):nP w0 (w.setCell (aq b 2) (aa x)) b {t with fr:=x} a c:=h.put {t with fr:=x} 2 (by omega) (λj _ hj=>by rcases j with _|_|_|_|_|_|_|_|_|_|j<;>first|rfl|exact absurd rfl hj) rfl
theorem nP.st' {w:I}{b:Nat}{t:Tk.bJ}{a:Option Addr}{c:Nat}(h:nP w0 w b t a c)(x:Int):nP w0 (w.setCell (aq b 3) (aa x)) b {t with st:=x} a c:=h.put {t with st:=x} 3 (by omega) (λj _ hj=>by rcases j with _|_|_|_|_|_|_|_|_|_|j<;>first|rfl|exact absurd rfl hj) rfl
theorem nP.ahv {w:I}{b:Nat}{t:Tk.bJ}{a:Option Addr}{c:Nat}(h:nP w0 w b t a c)(x:Int):nP w0 (w.setCell (aq b 4) (aa x)) b {t with ack:=x} a c:=h.put {t with ack:=x} 4 (by omega) (λj _ hj=>by rcases j with _|_|_|_|_|_|_|_|_|_|j<;>first|rfl|exact absurd rfl hj) rfl
theorem nP.ahw {w:I}{b:Nat}{t:Tk.bJ}{a:Option Addr}{c:Nat}(h:nP w0 w b t a c)(x:Int):nP w0 (w.setCell (aq b 5) (aa x)) b {t with wait:=x} a c:=h.put {t with wait:=x} 5 (by omega) (λj _ hj=>by rcases j with _|_|_|_|_|_|_|_|_|_|j<;>first|rfl|exact absurd rfl hj) rfl
theorem nP.mo' {w:I}{b:Nat}{t:Tk.bJ}{a:Option Addr}{c:Nat}(h:nP w0 w b t a c)(x:Int):nP w0 (w.setCell (aq b 7) (aa x)) b {t with mo:=x} a c:=h.put {t with mo:=x} 7 (by omega) (λj _ hj=>by rcases j with _|_|_|_|_|_|_|_|_|_|j<;>first|rfl|exact absurd rfl hj) rfl
theorem nP.pe' {w:I}{b:Nat}{t:Tk.bJ}{a:Option Addr}{c:Nat}(h:nP w0 w b t a c)(x:Int):nP w0 (w.setCell (aq b 8) (aa x)) b {t with pe:=x} a c:=h.put {t with pe:=x} 8 (by omega) (λj _ hj=>by rcases j with _|_|_|_|_|_|_|_|_|_|j<;>first|rfl|exact absurd rfl hj) rfl
theorem nP.pu' {w:I}{b:Nat}{t:Tk.bJ}{a:Option Addr}{c:Nat}(h:nP w0 w b t a c)(x:Bool):nP w0 (w.setCell (aq b 9) (.bool x)) b {t with pu:=x} a c:=h.put {t with pu:=x} 9 (by omega) (λj hj9 hj=>by rcases j with _|_|_|_|_|_|_|_|_|_|j<;>first|rfl|exact absurd rfl hj|omega) rfl
theorem Yu {w:I}{B B':Nat}{v:Value}(h:Dk.Nums w B' v l)(hB:B<=B'):Dk.Nums w B v l:=by
 refine⟨h.1,?_⟩;rcases h.2 with h1|⟨g,cap,cur,h1,h2,h3⟩
 ·exact .inl h1
 ·exact .inr ⟨g,cap,cur,h1,ajA hB h2,h3⟩
theorem nP.more {w:I}{b B:Nat}{t:Tk.bJ}{a:Option Addr}{c:Nat}(h:nP w0 w b t a c)(hn:Dk.Nums w B (.slice a t.bo.length c) t.bo)(hbB:b<B)(hB:B<=w.heap.size)(hl:t.bo.length<=200000)(n:Int) :
 ∃a' c' w',(Builtin.append_ #[26,26] 26 #[.slice a t.bo.length c,.slice (some ⟨w.heap.size,0,none⟩) 1 1]).run prog (w.alloc (.cells #[aa n] 3))=.ok (.slice a' (t.bo.length+1) c') w'/\w'.frozen? (aq b 6)=false/\w'.cell? (aq b 6)=some (.slice a t.bo.length c)/\b<w'.heap.size/\nP w0 (w'.setCell (aq b 6) (.slice a' (t.bo.length+1) c')) b {t with bo:=t.bo++[n]} a' c'/\Dk.Nums (w'.setCell (aq b 6) (.slice a' (t.bo.length+1) c')) B (.slice a' (t.bo++[n]).length c') (t.bo++[n])/\Dk.aA (λk=>k=b\/B<=k) w (w'.setCell (aq b 6) (.slice a' (t.bo.length+1) c')):=by
 have b1:ai w (w.alloc (.cells #[aa n] 3)):=ax _ _;have h1:=h.next b1;have hlt:=h1.tb.lt;have n1:=hn.below b1;have hB1:B<=(w.alloc (.cells #[aa n] 3)).heap.size:=ajA hB b1.size;obtain⟨v',w',hr,hN,hC⟩:=Dk.SC (w.alloc (.cells #[aa n] 3)) B 26 _ t.bo n n1 ⟨w.heap.size,0,none⟩ 1 (amw _ _ _ _ rfl) hl hB1;obtain⟨a',c',rfl,hc',_⟩:=hN.shape;have hlen:(t.bo++[n]).length=t.bo.length+1:=by simp
 rw[hlen] at hr hc';have hob:∀k,(Value.slice a t.bo.length c).ownBlock=some k->B<=k:=λk z=>(aks n1 k z).1
 have hnb:¬(Value.slice a t.bo.length c).ownBlock=some b:=λz=>by
  have:=hob b z;omega
 have tb':TB w' b t a c:=h1.tb.same hC.size (λj=>hC.cell (p:=aq b j) hlt hnb);have fr':∀i,w'.frozen? (aq b i)=false:=λi=>by rw[hC.frozen (p:=aq b i) hlt hnb];exact h1.fr i
 have aiq:Below b w0 w':=h1.low.trans (hC.below (amx hlt) (λk hk z=>by
  have:=hob k z;omega))
 have hN2:Dk.Nums (w'.setCell (aq b 6) (.slice a' (t.bo.length+1) c')) B (.slice a' (t.bo++[n]).length c') (t.bo++[n]):=hN.aF ((Dk.aA.refl (λk=>k=b) w').setCell (p:=aq b 6) (.inl rfl) _) (λg hg z=>by have:g=b:=z;omega);refine⟨a',c',w',hr,fr' 6,tb'.c6,tb'.lt,⟨?_,Yu hN2 hbB,λj=>by rw[ajV];exact fr' j,low_set aiq⟩,hN2,?_⟩
 ·have:=tb'.put (t':={t with bo:=t.bo++[n]}) (a':=a') (c':=c') 6 (by omega) (λj _ hj=>by rcases j with _|_|_|_|_|_|_|_|_|_|j<;>first|rfl|exact absurd rfl hj);rw[show tkC {t with bo:=t.bo++[n]} a' c' 6=.slice a' (t.bo.length+1) c' by show Value.slice a' (t.bo++[n]).length c'=_;rw[hlen]] at this;exact this
 ·refine Dk.aA.trans (Dk.aA.of_below b1) (Dk.aA.trans ?_ ((Dk.aA.refl (λk=>k=b\/B<=k) w').setCell (p:=aq b 6) (.inl (.inl rfl)) _));exact⟨hC.os,hC.tape,hC.output,hC.size,λk hk hn'=>hC.block k hk (λz=>hn' (.inr (hob k z)))⟩
theorem WG {w:I}{b:Nat}{t:Tk.bJ}{a:Option Addr}{c:Nat}(r:TB w b t a c) :
 (loadVar 98 ⟨b,0,none⟩).run prog w=.ok (sJ t a c) w:=by
 have hl:(loadCells ⟨b,0,none⟩ 10).run prog w=.ok #[.string t.n,.string t.f,aa t.fr,aa t.st,aa t.ack,aa t.wait,.slice a t.bo.length c,aa t.mo,aa t.pe,.bool t.pu] w :=
  aly (P:=prog) w ⟨b,0,none⟩ [.string t.n,.string t.f,aa t.fr,aa t.st,aa t.ack,aa t.wait,.slice a t.bo.length c,aa t.mo,aa t.pe,.bool t.pu] (λj v hv=>by
   rw[RP,ajT];match j,hv with
   | 0,hv=>rw[r.c0];simpa using hv
   | 1,hv=>rw[r.c1];simpa using hv
   | 2,hv=>rw[r.c2];simpa using hv
   | 3,hv=>rw[r.c3];simpa using hv
   | 4,hv=>rw[r.c4];simpa using hv
   | 5,hv=>rw[r.c5];simpa using hv
   | 6,hv=>rw[r.c6];simpa using hv
   | 7,hv=>rw[r.c7];simpa using hv
   | 8,hv=>rw[r.c8];simpa using hv
   | 9,hv=>rw[r.c9];simpa using hv)
 have hz:Tryz.t98.size=10:=by kernel_rfl
 simp[loadVar,isAgg,sizeOf];rw[hz,hl];rfl
theorem kJ {fn:Func}{p u:Tmp}{tmps:Array Value}{w:I}{b:Nat}{t:Tk.bJ}{a:Option Addr}{c:Nat}(hf:fn.results=#[.cell p 98,.tmp u])(ha:tmps.getD p undef=ae b)(r:TB w b t a c) :
 (results fn tmps).run prog w=.ok (.tuple #[sJ t a c,tmps.getD u undef]) w:=by
 have ha':tmps[p]?.getD undef=ae b:=by simpa using ha
 simp[results,hf,ha',asAddr,WG r]
theorem TB.puts {W:I}{b:Nat}{t':Tk.bJ}{a':Option Addr}{c':Nat}(h:TB W b t' a' c')(t:Tk.bJ)(a:Option Addr)(c:Nat):TB (Go.Proofs.YtebofkkfbkodiaaGreatDoor.puts W b 0 [.string t.n,.string t.f,aa t.fr,aa t.st,aa t.ack,aa t.wait,.slice a t.bo.length c,aa t.mo,aa t.pe,.bool t.pu]) b t a c:=by
 have key:=(Ah b [.string t.n,.string t.f,aa t.fr,aa t.st,aa t.ack,aa t.wait,.slice a t.bo.length c,aa t.mo,aa t.pe,.bool t.pu] W 0 (λj hj=>by
  have:j<10:=hj;rw[ajT,h.cells j this];rfl)).1
 have hsz:=uV b [.string t.n,.string t.f,aa t.fr,aa t.st,aa t.ack,aa t.wait,.slice a t.bo.length c,aa t.mo,aa t.pe,.bool t.pu] W 0;exact⟨Nat.lt_of_lt_of_eq h.lt hsz.symm,key 0 (by simp),key 1 (by simp),key 2 (by simp),key 3 (by simp),key 4 (by simp),key 5 (by simp),key 6 (by simp),key 7 (by simp),key 8 (by simp),key 9 (by simp)⟩
theorem zM (b:Nat):∀(vs:List Value) (W:I) (o:Nat) (p:Addr),(Go.Proofs.YtebofkkfbkodiaaGreatDoor.puts W b o vs).frozen? p=W.frozen? p
 | [],_,_,_=>rfl
 | _::vs,_,o,p=>by
  show(Go.Proofs.YtebofkkfbkodiaaGreatDoor.puts _ b (o+1) vs).frozen? p=_;rw[zM b vs,ajV]
theorem Jq {b:Nat}{a:Option Addr}(hn:∀z,a=some z->z.block≠b)(vs:List Value)(W:I)(o:Nat)(h:Dk.kK W a l):Dk.kK (Go.Proofs.YtebofkkfbkodiaaGreatDoor.puts W b o vs) a l:=λk hk=>by
 obtain⟨b',o',h1,h2,h3⟩:=h k hk;exact⟨b',o',h1,by rw[uV];exact h2,by rw[qR (hn _ h1)];exact h3⟩
def Zb (w:I)(b:Nat):Prop:=TB w b Tk.dB none 0/\∀j,w.frozen? (aq b j)=false
abbrev Yv:Obj:=.cells #[.string ⟨#[]⟩,.string ⟨#[]⟩,aa 0,aa 0,aa 0,aa 0,.slice none 0 0,aa 0,aa 0,.bool false] 98
theorem Zb.new (w:I):Zb (w.alloc Yv) w.heap.size:=⟨TB.new w Tk.dB none 0,λj=>akp _ _ _ j⟩
theorem Zb.next {w w':I}{b:Nat}(h:Zb w b)(hb:ai w w'):Zb w' b:=⟨h.1.next hb,λj=>by rw[hb.frozen (p:=aq b j) h.1.lt];exact h.2 j⟩
theorem Zb.after {w w':I}{b:Nat}{B:Nat}(h:Zb w b)(hb:Below B w w')(hB:b<B):Zb w' b:=⟨h.1.same hb.size (λj=>hb.cell (p:=aq b j) hB),λj=>by rw[hb.frozen (p:=aq b j) hB];exact h.2 j⟩
end Go.Proofs.YtebofkkfbkodiaaGreatDoor
namespace Go.Proofs.YtebofkkfbkodiaaGreatDoor.Dk
open Go.RowKit Go.Proofs.Tryz
theorem FH (n:Int)(w:I):Calls prog 66 #[aa n] w λe w'=>e=.returned (.bool (pR n))/\w'=w:=by
 by_cases h0:0<=n
 ·have g0:decide ((0:Int)<=n)=true:=ajH h0;have HV:Hid (pR n=decide (n<=1099511627776)):=aj (by unfold pR;rw[g0,akz]);go_enter func66,ntmps66;go_wp2_with fail;go_ret;rw[ah HV];exact⟨rfl,rfl⟩
 ·have g0:decide ((0:Int)<=n)=false:=ajE h0;have HV:Hid (pR n=false):=aj (by unfold pR;rw[g0,akH]);go_enter func66,ntmps66;go_wp2_with fail;go_ret;rw[ah HV];exact⟨rfl,rfl⟩
abbrev abE (so n:Int):Obj:=.cells #[aa so,aa n] 40
theorem LX (so n:Int)(w:I):Calls prog 70 #[.agg #[aa so,aa n]] w λe w'=>e=.returned (.bool (xM so n))/\ai w w':=by
 have B0:=aj (show ai w (w.alloc (abE so n)) from ax _ _);by_cases h2:so=2
 ·subst h2;by_cases h0:0<=n
  ·have g0:decide ((0:Int)<=n)=true:=ajH h0;have HV:Hid (xM 2 n=decide (n<=100000)):=aj (by unfold xM;rw[if_pos rfl,g0,akz]);go_enter func70,ntmps70;go_wp2_with fail;go_ret;rw[ah HV];exact⟨rfl,ah B0⟩
  ·have g0:decide ((0:Int)<=n)=false:=ajE h0;have HV:Hid (xM 2 n=false):=aj (by unfold xM;rw[if_pos rfl,g0,akH]);go_enter func70,ntmps70;go_wp2_with fail;go_ret;rw[ah HV];exact⟨rfl,ah B0⟩
 ·have e2:(so==2)=false:=by rw[ajM];exact h2
  by_cases h3:so=1\/so=3\/so=4
  ·have HV:Hid (xM so n=(n==0)):=aj (by
    have hd:decide (n=0)=(n==0):=by rw[akK];simp
    unfold xM;rw[if_neg h2,hd];rcases h3 with rfl|rfl|rfl<;>rfl)
   rcases h3 with rfl|rfl|rfl;all_goals
    go_enter func70,ntmps70
    go_wp2_with fail
    go_ret
    rw[ah HV]
    exact⟨rfl,ah B0⟩
  ·have HV:Hid (xM so n=false):=aj (by
    unfold xM;rw[if_neg h2,ajE (by omega),ajE (by omega),ajE (by omega)];rfl)
   have e1:(so==1)=false:=by rw[ajM];omega
   have e3:(so==3)=false:=by rw[ajM];omega
   have e4:(so==4)=false:=by rw[ajM];omega
   clear h3 h2;go_enter func70,ntmps70;go_wp2_with fail;go_ret;rw[ah HV];exact⟨rfl,ah B0⟩
section
variable {w:I}{B b:Nat}{c:bM}{a:Option Addr}{ca:Nat}{v:Value}
theorem Bj (h:Cm w B b c a ca v)(hw:lX c.t)(hf:c.t.bo.length<=140737488355328)(n now:Int)(ht:0<=now/\now<=1099511627776) :
 Calls prog 73 #[ae b,aa n,aa now] w λe w'=>e=.returned (aa (now+Tk.fH c.t n))/\ai w w':=by
 have PW:=aj (aaJ c.t a ca n w h.bo hf);have hb:=DN hw.w hw.b n;obtain⟨_,y0,y1,y2,y3,y4,y5,y6,y7,y8,y9⟩:=h.tb;obtain⟨X,hX⟩:∃X,Tk.fH c.t n=X:=⟨_,rfl⟩;rw[hX] at PW hb;rw[hX];clear hX h hw hf;go_enter func73,ntmps73;go_wp2_with fail;refine(ah PW).mono ?_;rintro e w1 ⟨rfl,b1⟩;have B1:=aj b1;clear PW b1;go_wp2_with fail;go_ret;exact⟨by go_num,ah B1⟩
theorem Px (h:Cm w B b c a ca v)(p:Dv) :
 Calls prog 109 #[ae b,.agg #[aa p.q,aa p.n,aa p.d]] w λe w'=>e=.returned (.bool (qm c.t p))/\ai w w':=by
 have b0:ai w (w.alloc (.cells #[aa p.q,aa p.n,aa p.d] 148)):=ax _ _;have y7:=(h.next b0).tb.c7;have hbl:=h.tb.lt;have HB:=aj (λn=>below_drewN b0 n);obtain⟨M,hM⟩:∃M,c.t.mo=M:=⟨_,rfl⟩;rw[hM] at y7;by_cases h0:M=0
 ·have g0:(M !=0)=false:=by rw[h0];rfl
  have HV:Hid (qm c.t p=false):=aj (by unfold qm;rw[hM,h0];rfl);clear h b0 hM h0;go_enter func109,ntmps109;go_wp2_with fail;go_quiet (fail)
  go_wp2_with fail;go_ret;rw[ah HV];exact⟨rfl,ah HB _⟩
 ·have g0:(M !=0)=true:=by simpa using h0
  have HV:Hid (qm c.t p=decide (M<=p.n)):=aj (by unfold qm;rw[hM,ajH h0,akz]);clear h b0 hM h0;go_enter func109,ntmps109;go_wp2_with fail;go_quiet (fail)
  go_wp2_with fail;go_ret;rw[ah HV];exact⟨rfl,ah HB _⟩
end
def aji (l:List Dv)(k:Nat):Int:=(l.take k).foldl (λm x=>min m x.d) (dv l 0).d
theorem wO {l:List Dv}{k:Nat}(h:k<l.length):dv l k=l[k]:=by unfold dv;rw[ajC h];rfl
section
variable {w:I}{B b:Nat}{c:bM}{a:Option Addr}{ca:Nat}{v:Value}
end
end Go.Proofs.YtebofkkfbkodiaaGreatDoor.Dk
namespace Go.Proofs.YtebofkkfbkodiaaGreatDoor
open Go.RowKit Go.Proofs.Tryz
theorem fU (n lo hi:Int)(w:I) :
 Calls prog 160 #[aa n,aa lo,aa hi] w λe w'=>e=.returned (.bool (Tk.inB n lo hi))/\w'=w:=by
 unfold Tk.inB;by_cases h1:lo<=n
 ·have e1:decide (lo<=n)=true:=ajH h1;rw[e1,akz];clear h1;go_enter func160,ntmps160;go_wp2;go_ret;exact⟨rfl,rfl⟩
 ·have e1:decide (lo<=n)=false:=ajE h1;rw[e1,akH];clear h1;go_enter func160,ntmps160;go_wp2;go_ret;exact⟨rfl,rfl⟩
section
variable {t:Tk.bJ}{a:Option Addr}{c:Nat}{w:I}
theorem aeM:ai w (w.alloc (rY t a c)):=ax _ _
theorem Yw (t:Tk.bJ)(a:Option Addr)(c:Nat)(w:I) :
 Calls prog 121 #[sJ t a c] w λe w'=>e=.returned (.bool (Tk.uq t))/\ai w w':=by
 have B0:=aj (aeM (t:=t) (a:=a) (c:=c) (w:=w));obtain⟨_,c0,c1,c2,c3,c4,c5,c6,c7,c8,c9⟩:=TB.new w t a c;unfold Tk.uq;by_cases h3:t.fr=3
 ·rw[if_pos h3];have e3:(t.fr==3)=true:=by simpa using h3
  obtain⟨R,hR⟩:∃R,Tk.inB t.st 1 999999999=R:=⟨_,rfl⟩;have HR:=aj hR;rw[hR];clear h3 hR;go_enter func121,ntmps121;go_wp2_with (go_at_call 160;refine(fU _ _ _ _).mono ?_;rintro e w2 ⟨rfl,rfl⟩;rw[ah HR]);go_ret;exact⟨rfl,ah B0⟩
 ·rw[if_neg h3];have e3:(t.fr==3)=false:=by simpa using h3
  cases hR:Tk.inB t.fr 0 2 with
  | false =>
   have HR:=aj hR;rw[akH];clear h3 hR;go_enter func121,ntmps121;go_wp2_with (go_at_call 160;refine(fU _ _ _ _).mono ?_;rintro e w2 ⟨rfl,rfl⟩;rw[ah HR]);go_ret;exact⟨rfl,ah B0⟩
  | true =>
   have HR:=aj hR;rw[akz];clear h3 hR;go_enter func121,ntmps121;go_wp2_with (go_at_call 160;refine(fU _ _ _ _).mono ?_;rintro e w2 ⟨rfl,rfl⟩;rw[ah HR]);go_ret;refine⟨?_,ah B0⟩;first|rfl|simp[beq_eq_decide]
theorem Py (t:Tk.bJ)(a:Option Addr)(c:Nat)(w:I)(hsl:Dk.kK w a t.bo)(hl:t.bo.length<=140737488355328) :
 Calls prog 161 #[sJ t a c] w λe w'=>e=.returned (.bool (Tk.uw t))/\ai w w':=by
 have B0:=aj (aeM (t:=t) (a:=a) (c:=c) (w:=w));have HS:=aj (jO hsl (ah B0));have HT:=aj (TB.new w t a c);obtain⟨_,c0,c1,c2,c3,c4,c5,c6,c7,c8,c9⟩:=TB.new w t a c;clear hsl;obtain⟨b,hb⟩:∃b,b=w.heap.size:=⟨_,rfl⟩;obtain⟨W,hW⟩:∃W,W=w.alloc (rY t a c):=⟨_,rfl⟩;go_enter func161,ntmps161;go_wp2_with fail;rw[<-hb,<-hW] at HT;rw[<-hW] at HS B0;rw[<-hb,<-hW];clear hb hW c0 c1 c2 c3 c4 c5 c6 c7 c8 c9;go_loop [8] (λiv=>∃i:Nat,iv=aa i/\i<=t.bo.length/\Hid (∀k,k<i->Tk.inB (Dk.nth t.bo k) 1 100000=true)) (λiv=>t.bo.length-(intOf iv).toNat)
 case atStart=>exact⟨0,rfl,ajO _,aj (λk hk=>absurd hk (akh k))⟩
 case round =>
  obtain⟨i,rfl,hi,hq⟩:=hrel;by_cases hlt:i<t.bo.length
  ·obtain⟨g,o,rfl,_,e1⟩:=ah HS i hlt;have hm:Dk.nth t.bo i∈t.bo:=by unfold Dk.nth;rw[ajC hlt];exact ako hlt
   have HM:=aj hm;obtain⟨x,hx⟩:∃x,x=Dk.nth t.bo i:=⟨_,rfl⟩;rw[<-hx] at e1 HM;have HX:=aj hx;clear hx hm
   cases hR:Tk.inB x 1 100000 with
   | false =>
    have HR:=aj hR;have HE:Hid (Tk.uw t=false):=aj (by
     unfold Tk.uw;have:t.bo.all (λn=>Tk.inB n 1 100000)=false:=by
      rw[List.all_eq_false];exact⟨x,ah HM,by rw[hR];decide⟩
     rw[this];rfl)
    clear hR;go_wp2_with (go_at_call 160;refine(fU _ _ _ _).mono ?_;rintro e w2 ⟨rfl,rfl⟩;rw[ah HR]);go_ret;exact⟨by rw[ah HE];rfl,ah B0⟩
   | true =>
    have HR:=aj hR;clear hR;go_wp2_with (go_at_call 160;refine(fU _ _ _ _).mono ?_;rintro e w2 ⟨rfl,rfl⟩;rw[ah HR]);go_round
    case rel=>exact⟨i+1,by go_num,by omega,aj (λk hk=>by
     rcases akI.1 hk with q|q
     ·exact ah hq k q
     ·rw[q,<-ah HX];exact ah HR)⟩
    case measure=>simp[intOf];omega
  ·obtain rfl:i=t.bo.length:=by omega
   have HE:Hid (Tk.uw t=Tk.inB t.wait 1 100000):=aj (by
    unfold Tk.uw;have:t.bo.all (λn=>Tk.inB n 1 100000)=true:=by
     rw[akS];intro x hx;obtain⟨k,hk,rfl⟩:=akq.1 hx;have:=ah hq k hk;unfold Dk.nth at this;rw[ajC hk] at this;exact this
    rw[this];rfl)
   obtain⟨R,hR⟩:∃R,Tk.inB t.wait 1 100000=R:=⟨_,rfl⟩;have HR:=aj hR;rw[hR] at HE;have c5:=(ah HT).c5;have hbl:=(ah HT).lt;clear hR hq HS HT;go_wp2_with (go_at_call 160;refine(fU _ _ _ _).mono ?_;rintro e w2 ⟨rfl,rfl⟩;rw[ah HR]);go_ret;exact⟨by rw[ah HE];rfl,ah B0⟩
end
theorem aeN (t:Tk.bJ)(a:Option Addr)(c:Nat)(w:I)(hsl:Dk.kK w a t.bo)(hl:t.bo.length<=140737488355328) :
 Calls prog 122 #[sJ t a c] w λe w'=>e=.returned (.bool (Tk.Pg t))/\ai w w':=by
 have B0:=aj (aeM (t:=t) (a:=a) (c:=c) (w:=w));have HT:=aj (TB.new w t a c);obtain⟨_,c0,c1,c2,c3,c4,c5,c6,c7,c8,c9⟩:=TB.new w t a c;unfold Tk.Pg;by_cases h0:t.ack=0
 ·rw[if_pos h0];have e0:(t.ack==0)=true:=by simpa using h0
  clear h0 hsl;by_cases w0:t.wait=0
  ·rw[ajH w0];have e5:(t.wait==0)=true:=by simpa using w0
   clear w0;by_cases m0:t.mo=0
   ·rw[ajH m0];have e7:(t.mo==0)=true:=by simpa using m0
    clear m0;by_cases p0:t.pe=0
    ·rw[ajH p0];have e8:(t.pe==0)=true:=by simpa using p0
     clear p0;by_cases l0:t.bo.length=0
     ·rw[ajH l0];have e6:((t.bo.length:Int)==0)=true:=by rw[alx];omega
      clear l0;go_enter func122,ntmps122;go_wp2_with fail;go_ret;refine⟨?_,ah B0⟩;first|rfl|simp
     ·rw[ajE l0];have e6:((t.bo.length:Int)==0)=false:=by rw[ajM];omega
      clear l0;go_enter func122,ntmps122;go_wp2_with fail;go_ret;refine⟨?_,ah B0⟩;first|rfl|simp
    ·rw[ajE p0];have e8:(t.pe==0)=false:=by simpa using p0
     clear p0;go_enter func122,ntmps122;go_wp2_with fail;go_ret;refine⟨?_,ah B0⟩;first|rfl|simp
   ·rw[ajE m0];have e7:(t.mo==0)=false:=by simpa using m0
    clear m0;go_enter func122,ntmps122;go_wp2_with fail;go_ret;refine⟨?_,ah B0⟩;first|rfl|simp
  ·rw[ajE w0];have e5:(t.wait==0)=false:=by simpa using w0
   clear w0;go_enter func122,ntmps122;go_wp2_with fail;go_ret;refine⟨?_,ah B0⟩;first|rfl|simp
 ·rw[if_neg h0];have e0:(t.ack==0)=false:=by simpa using h0
  by_cases h1:t.ack=1\/t.ack=2
  ·rw[if_pos h1];have PW:=aj (Py t a c (w.alloc (rY t a c)) (jO hsl (ah B0)) hl);obtain⟨A,hA⟩:∃A,Tk.uw t=A:=⟨_,rfl⟩;rw[hA] at PW ⊢;obtain⟨M,hM⟩:∃M,Tk.inB t.mo 0 20=M:=⟨_,rfl⟩;obtain⟨Q,hQ⟩:∃Q,Tk.inB t.pe 0 50=Q:=⟨_,rfl⟩;have HM:=aj hM;have HQ:=aj hQ;rw[hM,hQ];have HC:=aj (λ(W:I) (hW:Below (w.alloc (rY t a c)).heap.size (w.alloc (rY t a c)) W)=>show W.cell? (aq w.heap.size 7)=some (aa t.mo)/\W.cell? (aq w.heap.size 8)=some (aa t.pe)/\w.heap.size<W.heap.size/\ai w W from⟨((ah HT).next hW).c7,((ah HT).next hW).c8,((ah HT).next hW).lt,ak (ah B0) hW⟩)
   have e1:(t.ack==1)=true\/((t.ack==1)=false/\(t.ack==2)=true):=by
    rcases h1 with h|h
    ·exact .inl (by simpa using h)
    ·exact .inr ⟨by rw[h];decide,by simpa using h⟩
   clear h0 h1 hA hM hQ hsl;go_enter func122,ntmps122;rcases e1 with e1|⟨e1,e2⟩
   ·go_wp2_with fail;refine(ah PW).mono ?_;rintro e w1 ⟨rfl,b1⟩;obtain⟨d7,d8,hbl,be⟩:=ah HC w1 b1;have BE:=aj be;clear PW b1 be HC
    cases A with
    | false =>
     go_wp2_with fail;go_ret;refine⟨?_,ah BE⟩;first|rfl|simp
    | true =>
     cases M with
     | false =>
      go_wp2_with (go_at_call 160;refine(fU _ _ _ _).mono ?_;rintro e w2 ⟨rfl,rfl⟩;first|rw[ah HM]|rw[ah HQ]);go_ret;refine⟨?_,ah BE⟩;first|rfl|simp
     | true =>
      go_wp2_with (go_at_call 160;refine(fU _ _ _ _).mono ?_;rintro e w2 ⟨rfl,rfl⟩;first|rw[ah HM]|rw[ah HQ]);go_ret;refine⟨?_,ah BE⟩;first|rfl|simp
   ·go_wp2_with fail;refine(ah PW).mono ?_;rintro e w1 ⟨rfl,b1⟩;obtain⟨d7,d8,hbl,be⟩:=ah HC w1 b1;have BE:=aj be;clear PW b1 be HC
    cases A with
    | false =>
     go_wp2_with fail;go_ret;refine⟨?_,ah BE⟩;first|rfl|simp
    | true =>
     cases M with
     | false =>
      go_wp2_with (go_at_call 160;refine(fU _ _ _ _).mono ?_;rintro e w2 ⟨rfl,rfl⟩;first|rw[ah HM]|rw[ah HQ]);go_ret;refine⟨?_,ah BE⟩;first|rfl|simp
     | true =>
      go_wp2_with (go_at_call 160;refine(fU _ _ _ _).mono ?_;rintro e w2 ⟨rfl,rfl⟩;first|rw[ah HM]|rw[ah HQ]);go_ret;refine⟨?_,ah BE⟩;first|rfl|simp
  ·rw[if_neg h1];have e1:(t.ack==1)=false:=by rw[ajM];exact λz=>h1 (.inl z)
   have e2:(t.ack==2)=false:=by rw[ajM];exact λz=>h1 (.inr z)
   clear h0 h1 hsl;go_enter func122,ntmps122;go_wp2_with fail;go_ret;exact⟨rfl,ah B0⟩
theorem xP (t:Tk.bJ)(a:Option Addr)(c:Nat)(w:I)(hs:jU t)(hsl:Dk.kK w a t.bo) :
 Calls prog 76 #[sJ t a c] w λe w'=>e=.returned (aa (Tk.iV t))/\ai w w':=by
 have b0:=aeM (t:=t) (a:=a) (c:=c) (w:=w);have PN:=aj (FD t.n (w.alloc (rY t a c)) hs.name);have PF:=aj (λW=>filter_any t.f W hs.filt);have HW:=aj (λ(W:I) (hW:Below (w.alloc (rY t a c)).heap.size (w.alloc (rY t a c)) W)=>show TB W w.heap.size t a c/\Dk.kK W a t.bo/\ai w W from⟨(TB.new w t a c).next hW,jO (jO hsl b0) hW,ak b0 hW⟩);have hl:=hs.many;obtain⟨_,c0,c1,c2,c3,c4,c5,c6,c7,c8,c9⟩:=TB.new w t a c;have HE0:Hid (Pn.eF t.n=false->Tk.iV t=3):=aj (λh=>by unfold Tk.iV;rw[if_pos h]);have HE1:Hid (Pn.eF t.n=true->Tk.iV t=if aC true t.f≠0 then aC true t.f else if 5<t.bo.length then 2 else if (Tk.uq t&&Tk.Pg t)=true then 0 else 1):=aj (λh=>by unfold Tk.iV;rw[if_neg (by rw[h];simp)])
 obtain⟨N,hN⟩:∃N,Pn.eF t.n=N:=⟨_,rfl⟩;rw[hN] at PN HE0 HE1;obtain⟨E,hE⟩:∃E,aC true t.f=E:=⟨_,rfl⟩;rw[hE] at PF HE1;obtain⟨R,hR⟩:∃R,Tk.iV t=R:=⟨_,rfl⟩;rw[hR] at HE0 HE1 ⊢;have PS:=aj (λ(W:I)=>Yw t a c W);have PA:=aj (λ(W:I) (h:Dk.kK W a t.bo)=>aeN t a c W h hl);obtain⟨SB,hSB⟩:∃SB,Tk.uq t=SB:=⟨_,rfl⟩;obtain⟨AB,hAB⟩:∃AB,Tk.Pg t=AB:=⟨_,rfl⟩;rw[hSB] at PS HE1;rw[hAB] at PA HE1;clear hN hE hR hSB hAB hs hsl b0;go_enter func76,ntmps76;go_wp2_with fail;refine(ah PN).mono ?_;rintro e w0 ⟨rfl,hw0⟩;rw[hw0];clear hw0 PN
 cases N with
 | false =>
  obtain rfl:R=3:=ah HE0 rfl;have BE:=aj (ah HW _ (agP _ _)).2.2;clear HE0 HE1 HW;go_wp2_with fail;go_ret;exact⟨rfl,ah BE⟩
 | true =>
  have HR:=aj (ah HE1 rfl);clear HE0 HE1;have Jr:=aj (ah PF (w.alloc (rY t a c)));clear PF;go_wp2_with fail;refine(ah Jr).mono ?_;rintro e w1 ⟨rfl,b1⟩;obtain⟨tb,hs1,be⟩:=ah HW w1 b1;have BE:=aj be;have B1:=aj b1;have PS1:=aj (ah PS w1);clear Jr b1 be PS c0 c1 c2 c3 c4 c5 c6 c7 c8 c9;obtain⟨hbl,c0,c1,c2,c3,c4,c5,c6,c7,c8,c9⟩:=tb;by_cases hE0:E=0
  ·subst hE0;by_cases h5:5<t.bo.length
   ·have hd:(5:Int)<(t.bo.length:Int):=by omega
    obtain rfl:R=2:=by rw[ah HR,if_neg (by simp),if_pos h5]
    clear HR h5 PS1 PA HW;go_wp2_with fail;go_ret;exact⟨rfl,ah BE⟩
   ·have hd:decide ((5:Int)<(t.bo.length:Int))=false:=ajE (by omega);have HR2:=aj (show R=if (SB&&AB)=true then 0 else 1 from by rw[ah HR,if_neg (by simp),if_neg h5]);clear HR h5;go_wp2_with fail;refine(ah PS1).mono ?_;rintro e w2 ⟨rfl,b2⟩;have B2:=aj (ak (ah B1) b2);obtain⟨tb,hs2,be⟩:=ah HW w2 (ah B2);have BE2:=aj be;have PA2:=aj (ah PA w2 hs2);clear PS1 b2 be PA c0 c1 c2 c3 c4 c5 c6 c7 c8 c9 hbl hs2;obtain⟨hbl,c0,c1,c2,c3,c4,c5,c6,c7,c8,c9⟩:=tb
    cases SB with
    | false =>
     obtain rfl:R=1:=by rw[ah HR2];rfl
     clear HR2 PA2 HW;go_wp2_with fail;go_ret;exact⟨rfl,ah BE2⟩
    | true =>
     go_wp2_with fail;refine(ah PA2).mono ?_;rintro e w3 ⟨rfl,b3⟩;obtain⟨_,_,be⟩:=ah HW w3 (ak (ah B2) b3);have BE3:=aj be;clear PA2 b3 be c0 c1 c2 c3 c4 c5 c6 c7 c8 c9 hbl HW
     cases AB with
     | false =>
      obtain rfl:R=1:=by rw[ah HR2];rfl
      clear HR2;go_wp2_with fail;go_ret;exact⟨rfl,ah BE3⟩
     | true =>
      obtain rfl:R=0:=by rw[ah HR2];rfl
      clear HR2;go_wp2_with fail;go_ret;exact⟨rfl,ah BE3⟩
  ·have e5:(E !=0)=true:=by simpa using hE0
   obtain rfl:R=E:=by rw[ah HR,if_pos hE0]
   clear HR hE0 PS1 PA HW;go_wp2_with fail;go_ret;exact⟨rfl,ah BE⟩
end Go.Proofs.YtebofkkfbkodiaaGreatDoor
namespace Go.Proofs.YtebofkkfbkodiaaGreatDoor.Tk
open Go Pn Go.Proofs.Tryz
variable {c':bJ}
theorem abG {t c:bJ}:∀{i j:Nat},i<7->j<7->i≠j->bare c j->bare (put t c i) j
 | 0,0,_,_,h,_=>absurd rfl h
 | 1,1,_,_,h,_=>absurd rfl h
 | 2,2,_,_,h,_=>absurd rfl h
 | 3,3,_,_,h,_=>absurd rfl h
 | 4,4,_,_,h,_=>absurd rfl h
 | 5,5,_,_,h,_=>absurd rfl h
 | 6,6,_,_,h,_=>absurd rfl h
 | 0,1,_,_,_,h|0,2,_,_,_,h|0,3,_,_,_,h|0,4,_,_,_,h|0,5,_,_,_,h|0,6,_,_,_,h=>h
 | 1,0,_,_,_,h|1,2,_,_,_,h|1,3,_,_,_,h|1,4,_,_,_,h|1,5,_,_,_,h|1,6,_,_,_,h=>h
 | 2,0,_,_,_,h|2,1,_,_,_,h|2,3,_,_,_,h|2,4,_,_,_,h|2,5,_,_,_,h|2,6,_,_,_,h=>h
 | 3,0,_,_,_,h|3,1,_,_,_,h|3,2,_,_,_,h|3,4,_,_,_,h|3,5,_,_,_,h|3,6,_,_,_,h=>h
 | 4,0,_,_,_,h|4,1,_,_,_,h|4,2,_,_,_,h|4,3,_,_,_,h|4,5,_,_,_,h|4,6,_,_,_,h=>h
 | 5,0,_,_,_,h|5,1,_,_,_,h|5,2,_,_,_,h|5,3,_,_,_,h|5,4,_,_,_,h|5,6,_,_,_,h=>h
 | 6,0,_,_,_,h|6,1,_,_,_,h|6,2,_,_,_,h|6,3,_,_,_,h|6,4,_,_,_,h|6,5,_,_,_,h=>h
theorem WH {c:bJ}:∀{i:Nat} {v:List UInt8},jY c i v=some c'->c'=put c' c i
 | 0,v,h=>by
  simp only[jY] at h;split at h
  ·cases h;rfl
  ·split at h
   ·cases h;rfl
   ·split at h
    ·cases h
    ·cases h;rfl
 | 1,v,h=>by
  simp only[jY] at h;split at h
  ·cases h;rfl
  ·split at h
   ·cases h;rfl
   ·cases h
 | 2,v,h=>by
  simp only[jY] at h;split at h
  ·cases h
  ·cases h;rfl
 | 3,v,h=>by
  simp only[jY] at h
  cases hr:Yr (cut 44 v) with
  | none=>rw[hr] at h;simp at h
  | some l=>rw[hr] at h;simp at h;rw[<-h];rfl
 | 4,v,h=>by
  simp only[jY] at h;split at h
  ·cases h
  ·cases h;rfl
 | 5,v,h=>by
  simp only[jY] at h;split at h
  ·cases h
  ·cases h;rfl
 | i+6,v,h=>by
  simp only[jY] at h;split at h
  ·cases h;rfl
  ·cases h
theorem abH {t c:bJ}:∀{i j:Nat},i<7->j<7->i≠j->like (put t c i) c j
 | 0,0,_,_,h=>absurd rfl h
 | 1,1,_,_,h=>absurd rfl h
 | 2,2,_,_,h=>absurd rfl h
 | 3,3,_,_,h=>absurd rfl h
 | 4,4,_,_,h=>absurd rfl h
 | 5,5,_,_,h=>absurd rfl h
 | 6,6,_,_,h=>absurd rfl h
 | 1,0,_,_,_|2,0,_,_,_|3,0,_,_,_|4,0,_,_,_|5,0,_,_,_|6,0,_,_,_=>⟨rfl,rfl⟩
 | 0,1,_,_,_|0,2,_,_,_|0,3,_,_,_|0,4,_,_,_|0,5,_,_,_|0,6,_,_,_=>rfl
 | 1,2,_,_,_|1,3,_,_,_|1,4,_,_,_|1,5,_,_,_|1,6,_,_,_=>rfl
 | 2,1,_,_,_|2,3,_,_,_|2,4,_,_,_|2,5,_,_,_|2,6,_,_,_=>rfl
 | 3,1,_,_,_|3,2,_,_,_|3,4,_,_,_|3,5,_,_,_|3,6,_,_,_=>rfl
 | 4,1,_,_,_|4,2,_,_,_|4,3,_,_,_|4,5,_,_,_|4,6,_,_,_=>rfl
 | 5,1,_,_,_|5,2,_,_,_|5,3,_,_,_|5,4,_,_,_|5,6,_,_,_=>rfl
 | 6,1,_,_,_|6,2,_,_,_|6,3,_,_,_|6,4,_,_,_|6,5,_,_,_=>rfl
theorem FI (t c:bJ):∀i,(put t c i).n=c.n/\(put t c i).f=c.f
 | 0=>⟨rfl,rfl⟩
 | 1=>⟨rfl,rfl⟩
 | 2=>⟨rfl,rfl⟩
 | 3=>⟨rfl,rfl⟩
 | 4=>⟨rfl,rfl⟩
 | 5=>⟨rfl,rfl⟩
 | _+6=>⟨rfl,rfl⟩
theorem Ua {a b c:bJ}:∀{i:Nat},like a b i->like b c i->like a c i
 | 0,h,g=>⟨h.1.trans g.1,h.2.trans g.2⟩
 | 1,h,g=>Eq.trans (show a.ack=b.ack from h) g
 | 2,h,g=>Eq.trans (show a.wait=b.wait from h) g
 | 3,h,g=>Eq.trans (show a.bo=b.bo from h) g
 | 4,h,g=>Eq.trans (show a.mo=b.mo from h) g
 | 5,h,g=>Eq.trans (show a.pe=b.pe from h) g
 | _+6,h,g=>Eq.trans (show a.pu=b.pu from h) g
theorem Js (a:bJ):∀(i:Nat),like a a i
 | 0=>⟨rfl,rfl⟩
 | 1=>rfl
 | 2=>rfl
 | 3=>rfl
 | 4=>rfl
 | 5=>rfl
 | _+6=>rfl
theorem aeO {c:bJ}:∀{i:Nat} {v:List UInt8},bare c i->jY c i v=some c'->mW c' i=some v
 | 0,v,hb,h=>by
  simp only[jY] at h;by_cases h1:v=lastT
  ·rw[if_pos h1] at h;cases h;rw[h1];rfl
  ·rw[if_neg h1] at h;by_cases h2:v=newT
   ·rw[if_pos h2] at h;cases h;rw[h2];rfl
   ·rw[if_neg h2] at h;by_cases h3:dU v<1
    ·rw[if_pos h3] at h;cases h
    ·rw[if_neg h3] at h
     cases h
     simp only[mW,fromV];rw[if_neg (by decide),if_neg (by decide),if_pos trivial,(nU (l:=v) (by omega)).1]
 | 1,v,hb,h=>by
  simp only[jY] at h;by_cases h1:v=Ph
  ·rw[if_pos h1] at h;cases h;rw[h1];rfl
  ·rw[if_neg h1] at h;by_cases h2:v=allT
   ·rw[if_pos h2] at h;cases h;rw[h2];rfl
   ·rw[if_neg h2] at h;cases h
 | 2,v,hb,h=>by
  simp only[jY] at h;by_cases h3:dU v<1
  ·rw[if_pos h3] at h;cases h
  ·rw[if_neg h3] at h
   cases h
   simp only[mW,LV];rw[if_neg (by omega),(nU (l:=v) (by omega)).1]
 | 3,v,hb,h=>by
  simp only[bare] at hb;simp only[jY] at h
  cases hr:Yr (cut 44 v) with
  | none=>rw[hr] at h;simp at h
  | some l =>
   rw[hr] at h;simp at h;obtain⟨h1,h2⟩:=WA _ hr;rw[<-h];simp only[mW,boV,hb,akD];have hne:¬l=[]:=λz=>by
    rw[z] at h2;exact wX 44 v (akV h2.symm)
   rw[if_neg hne,h1,qx]
 | 4,v,hb,h=>by
  simp only[jY] at h;by_cases h3:dU v<1
  ·rw[if_pos h3] at h;cases h
  ·rw[if_neg h3] at h
   cases h
   simp only[mW,LV];rw[if_neg (by omega),(nU (l:=v) (by omega)).1]
 | 5,v,hb,h=>by
  simp only[jY] at h;by_cases h3:dU v<1
  ·rw[if_pos h3] at h;cases h
  ·rw[if_neg h3] at h
   cases h
   simp only[mW,LV];rw[if_neg (by omega),(nU (l:=v) (by omega)).1]
 | i+6,v,hb,h=>by
  simp only[jY] at h;by_cases h1:v=[]
  ·rw[if_pos h1] at h;cases h;rw[h1];rfl
  ·rw[if_neg h1] at h;cases h
theorem Pz {c:bJ}:∀{i:Nat},bare c i->mW c i=none
 | 0,h=>by simp only[bare] at h;simp only[mW,fromV];rw[if_neg (by omega),if_neg (by omega),if_neg (by omega)]
 | 1,h=>by simp only[bare] at h;simp only[mW,aht];rw[if_neg (by omega),if_neg (by omega)]
 | 2,h=>by simp only[bare] at h;simp only[mW,LV];rw[if_pos h]
 | 3,h=>by simp only[bare] at h;simp only[mW,boV];rw[if_pos h]
 | 4,h=>by simp only[bare] at h;simp only[mW,LV];rw[if_pos h]
 | 5,h=>by simp only[bare] at h;simp only[mW,LV];rw[if_pos h]
 | _+6,h=>by simp only[bare] at h;simp only[mW];rw[if_neg (by rw[h];decide)]
theorem aeP (i:Nat)(v:List UInt8):(hd i).isPrefixOf (hd i++v)=true/\(hd i++v).drop (hd i).length=v:=by
 constructor
 ·rw[List.isPrefixOf_iff_prefix];exact⟨v,rfl⟩
 ·simp
theorem LY:∀(is:List Nat) (ts:List (List UInt8)) (c t:bJ),(∀j∈is,j<7)->is.Nodup->(∀j∈is,bare c j)->zK is ts c=some t->is.filterMap (Pj t)=ts/\t.n=c.n/\t.f=c.f/\∀j,j<7->j∉is->like t c j
 | [],[],c,t,_,_,_,h=>by
  rw[zK] at h;cases h;exact⟨rfl,rfl,rfl,λj _ _=>Js _ j⟩
 | [],_::_,c,t,_,_,_,h=>by rw[zK] at h;cases h
 | i::is,[],c,t,h7,hnd,hb,h=>by
  rw[zK] at h
  cases h
  refine⟨?_,rfl,rfl,λj _ _=>Js _ j⟩;rw[List.filterMap_eq_nil_iff];intro j hj;unfold Pj;rw[Pz (hb j hj)];rfl
 | i::is,u::us,c,t,h7,hnd,hb,h=>by
  have hn:=amE.1 hnd;have hi7:=h7 i (ajP ..);have h7':∀j∈is,j<7:=λj hj=>h7 j (ajS _ hj)
  have hbi:=hb i (ajP ..);rw[zK] at h;by_cases hp:(hd i).isPrefixOf u=true
  ·rw[if_pos hp] at h
   cases hs:jY c i (u.drop (hd i).length) with
   | none=>rw[hs] at h;cases h
   | some c' =>
    rw[hs] at h;simp only at h;have hc:=WH hs;have hb':∀j∈is,bare c' j:=λj hj=>by
     rw[hc];exact abG hi7 (h7' j hj) (λz=>hn.1 (by rw[z];exact hj)) (hb j (ajS _ hj))
    obtain⟨i1,i2,i3,i4⟩:=LY is us c' t h7' hn.2 hb' h;obtain⟨v,hv⟩:=List.isPrefixOf_iff_prefix.1 hp;have hd':u.drop (hd i).length=v:=by rw[<-hv];exact(aeP i v).2
    have hval:mW t i=some v:=by
     rw[Pm (i4 i hi7 hn.1),<-hd'];exact aeO hbi hs
    refine⟨?_,?_,?_,λj hj hjn=>?_⟩
    ·rw[List.filterMap_cons_some (b:=hd i++v) (by unfold Pj;rw[hval];rfl),i1,hv]
    ·rw[i2,hc];exact(FI c' c i).1
    ·rw[i3,hc];exact(FI c' c i).2
    ·have hji:i≠j:=λz=>hjn (by rw[z];exact ajP ..)
     refine Ua (i4 j hj (λz=>hjn (ajS _ z))) ?_;rw[hc];exact abH hi7 hj hji
  ·rw[if_neg hp] at h;obtain⟨i1,i2,i3,i4⟩:=LY is (u::us) c t h7' hn.2 (λj hj=>hb j (ajS _ hj)) h;refine⟨?_,i2,i3,λj hj hjn=>i4 j hj (λz=>hjn (ajS _ z))⟩;rw[List.filterMap_cons_none,i1];unfold Pj;rw[Pm (i4 i hi7 hn.1),Pz hbi];rfl
theorem Jt:∀j∈seven,j<7:=by decide
theorem P9:seven.Nodup:=by decide
theorem Yx (n f:ad):∀j∈seven,bare (base n f) j:=by
 intro j hj;have:j=0\/j=1\/j=2\/j=3\/j=4\/j=5\/j=6:=by have:=Jt j hj;omega
 rcases this with rfl|rfl|rfl|rfl|rfl|rfl|rfl
 ·exact⟨rfl,rfl⟩
 all_goals rfl
theorem xJ {s:ad}{x:bJ}(h:dw s=(x,0)):iV x=0/\ahu x=s:=by
 unfold dw at h;split at h
 ·cases h
 ·cases hc:cut 32 s.data.toList with
  | nil=>exact absurd hc (wX 32 _)
  | cons n r =>
   rw[hc] at h
   cases r with
   | nil=>cases h
   | cons f ts =>
    simp only at h
    cases hr:zK seven ts (base (bs n) (bs f)) with
    | none=>rw[hr] at h;cases h
    | some v =>
     rw[hr] at h;simp only at h;by_cases he:iV v=0
     ·rw[if_pos he] at h;have hx:=(Prod.mk.inj h).1;subst hx;obtain⟨i1,i2,i3,_⟩:=LY seven ts _ v Jt P9 (Yx _ _) hr;refine⟨he,?_⟩;have e2:EY v=cut 32 s.data.toList:=by
       unfold EY;rw[i1,i2,i3,hc];simp only[base,lW]
      unfold ahu;rw[e2,qx]
     ·rw[if_neg he] at h;exact absurd (Prod.mk.inj h).2 he
def ajj:bJ:=⟨⟨#[99]⟩,⟨#[97]⟩,0,0,2,5,[],0,0,false⟩
end Go.Proofs.YtebofkkfbkodiaaGreatDoor.Tk
namespace Go.Proofs.YtebofkkfbkodiaaGreatDoor.Dk
open Go.RowKit Go.Proofs.Tryz
variable {f:ad}{p:Int}
def kY (f:ad)(p:Int)(l:List Rc):List Rc:=l.filter λr=>ng f r.s&&decide (p<=r.q)
def Bl (p:Int)(U:List Rc):Nat->Int
 | 0=>p
 | k+1=>(rc U k).q+1
theorem Ju {l:List Rc}{x:Rc}(h:x∈kY f p l):x∈l/\ng f x.s=true/\p<=x.q:=by
 have:=alc.1 h;rw[ajN,ajG] at this;exact this
theorem Ub {s:aH}(h:s.Ok){k:Nat}(hk:k<=(kY f p s.l).length):aV f s.l (Bl p (kY f p s.l) k)=(kY f p s.l)[k]?:=by
 have hr:(kY f p s.l).Pairwise λa b=>a.q<b.q:=h.rise.sublist List.filter_sublist
 have hn:p<=Bl p (kY f p s.l) k:=by
  match k,hk with
  | 0,_=>exact amb _
  | k+1,hk =>
   have:=(Ju (ako (show k<(kY f p s.l).length from hk))).2.2;show p<=(rc _ k).q+1;rw[bU hk];omega
 have e:aV f s.l (Bl p (kY f p s.l) k)=(kY f p s.l).find? λ(r:Rc)=>decide (Bl p (kY f p s.l) k<=r.q):=by
  generalize Bl p (kY f p s.l) k=n at hn;unfold aV kY;rw[List.find?_filter];congr
  funext r
  by_cases z:n<=r.q
  ·rw[ajH z,ajH (show p<=r.q by omega)];cases ng f r.s<;>rfl
  ·rw[ajE z];simp
 rw[e];match k,hk with
 | 0,_=>exact Jj (λj _ z=>absurd z (akh j)) (λhk=>(Ju (ako hk)).2.2)
 | k+1,hk =>
  have hlt:k<(kY f p s.l).length:=hk;show List.find? (λ(r:Rc)=>decide ((rc _ k).q+1<=r.q)) _=_;rw[bU hlt];refine Jj (λi hi z=>?_) (λhk2=>?_)
  ·rcases alR i k with y|y
   ·have:=ale.1 hr i k hi hlt y;omega
   ·obtain rfl:i=k:=by omega
    omega
  ·have:=ale.1 hr k (k+1) hlt hk2 (by omega);omega
end Go.Proofs.YtebofkkfbkodiaaGreatDoor.Dk
