/- A part. -/
import Derived.Test.YtidekgipblnpkaaGreatDoorQ17
set_option maxRecDepth 100000
set_option maxHeartbeats 8000000
namespace Go.Proofs.YtidekgipblnpkaaGreatDoor
open Go.RowKit Go.Proofs.Tryz
def acQ (c:Int):Bool:=decide (48<=c)&&decide (c<=57)
def SV (c:Int):Bool:=(decide (97<=c)&&decide (c<=122))||(acQ c||decide (c=45))
theorem Jq (c:UInt8):SV (c.toNat:Int)=Pn.Ae c:=by
 unfold SV Pn.Ae acQ;rw[akc];simp;omega
theorem ZT (c:Int)(w:World) :
 Calls prog 141 #[.int .u8 c] w λe w'=>e=.returned (.bool (acQ c))/\w'=w:=by
 go_enter func141,ntmps141;go_wp2;all_goals go_ret
 all_goals refine⟨iC ?_,rfl⟩
 all_goals simp[acQ]
 all_goals omega
theorem Au (c:Int)(w:World) :
 Calls prog 109 #[.int .u8 c] w λe w'=>e=.returned (.bool (SV c))/\w'=w:=by
 have HD:=aj (ZT c);go_enter func109,ntmps109;go_wp2_with (go_at_call 141;refine(ah HD _).mono ?_;rintro e w' ⟨rfl,rfl⟩);all_goals go_ret
 all_goals refine⟨iC ?_,rfl⟩
 all_goals simp_all [SV,acQ]
 all_goals omega
theorem Jr {s:ByteArray}(h:s.size<1\/16<s.size):Pn.eP s=false:=by
 unfold Pn.eP;rcases h with h|h
 ·rw[ajd (p:=1<=s.size) (by omega)];simp
 ·rw[ajd (p:=s.size<=16) (by omega)];simp
theorem acR {s:ByteArray}(h1:1<=s.size)(h2:s.size<=16)(h:lQ s s.size=true):Pn.eP s=true:=by
 rw[aco h];simp;omega
theorem V5 (s:ByteArray)(w:World)(hs:s.size<=140737488355328) :
 Calls prog 62 #[.string s] w λe w'=>e=.returned (.bool (Pn.eP s))/\w'=w:=by
 by_cases h1:s.size<1
 ·go_enter func62,ntmps62;go_wp2;go_ret;exact⟨dX (Jr (Or.inl h1)),rfl⟩
 by_cases h2:16<s.size
 ·go_enter func62,ntmps62;go_wp2;go_ret;exact⟨dX (Jr (Or.inr h2)),rfl⟩
 go_enter func62,ntmps62;go_wp2;go_loop [14] (λi=>∃k:Nat,k<=s.size/\i=.int .i64 k/\Hid (lQ s k=true)) (λi=>s.size-(intOf i).toNat)
 case atStart=>exact⟨0,ajm _,rfl,aj rfl⟩
 case round =>
  obtain⟨k,hk,rfl,hq⟩:=hrel;by_cases hlt:k<s.size
  ·cases ht:SV (s[k].toNat:Int) with
   | false =>
    have Ht:=aj ht;clear ht;go_wp2_with (go_at_call 109;refine(Au _ _).mono ?_;rintro e w' ⟨rfl,rfl⟩;rw[ah Ht]);go_ret;exact⟨dX (LZ hlt (by rw[<-Jq];exact ah Ht)),rfl⟩
   | true =>
    have Ht:=aj ht;clear ht;go_wp2_with (go_at_call 109;refine(Au _ _).mono ?_;rintro e w' ⟨rfl,rfl⟩;rw[ah Ht]);go_round
    case rel=>exact⟨k+1,by omega,by go_num,aj (by rw[Af hlt,ah hq,<-Jq,ah Ht];rfl)⟩
    case measure=>simp[intOf];omega
  ·obtain rfl:k=s.size:=by omega
   go_wp2;go_ret;exact⟨dX (acR (by omega) (by omega) (ah hq)),rfl⟩
def Fst (w wr:World)(a:Option Addr)(l:List ByteArray):Prop:=nZ wr a l/\Below w.heap.size w wr
theorem Fst.next {w wr w':World}{a:Option Addr}{l:List ByteArray}(h:Fst w wr a l)(hb:Below wr.heap.size wr w'):Fst w w' a l:=⟨h.1.next hb,ak h.2 hb⟩
def acS (l:List ByteArray)(i:Nat):Prop:=∀i',i'<i->∀j,j<i'->bD (Pl.aI (tk l i')) (Pl.aI (tk l j))=false
theorem ZU {l:List ByteArray}(h:acS l l.length):Pn.oG l=false:=by
 rw[amS];intro q;obtain⟨i,j,h1,h2,h3⟩:=(Pn.Jj l).1 q;rw[h i h2 j h1] at h3
 cases h3
theorem OY {f g:ByteArray}(hf:aG true f=0)(hg:aG true g=0):nM f g=bD (Pl.aI f) (Pl.aI g):=by
 unfold nM;rw[hf,hg];rfl
theorem acT (a:Option Addr)(l:List ByteArray)(c:Nat)(w:World)(hsl:nZ w a l)(hz:∀k,k<l.length->(tk l k).size<=140737488355328)(hok:∀k,k<l.length->aG true (tk l k)=0)(hl:l.length<=4)(hc:l.length<=c) :
 Calls prog 110 #[.slice a l.length c] w λe w'=>e=.returned (.bool (Pn.oG l))/\Below w.heap.size w w':=by
 have HZ:=aj hz;have HOk:=aj hok;have HS:Hid (Fst w w a l):=aj ⟨hsl,ajb _ _⟩;clear hz hok hsl;go_enter func110,ntmps110;go_wp2_with fail;go_loopw [11] (λiv wr=>∃(i:Nat),iv=.int .i64 i/\i<=l.length/\Hid (acS l i)/\Hid (Fst w wr a l)) (λiv _=>l.length-(intOf iv).toNat)
 case atStart=>exact⟨0,rfl,ajm _,aj (λi' h=>by omega),HS⟩
 case round =>
  clear HS;obtain⟨i,rfl,hi,HA,HS⟩:=hrel;by_cases hlt:i<l.length
  ·obtain⟨ba,o,rfl,_,e1⟩:=(ah HS).1 i hlt;go_wp2_with fail;clear e1;go_loopw [20] (λkv wr=>∃(k:Nat),kv=.int .i64 k/\k<=i/\Hid (∀j,j<k->bD (Pl.aI (tk l i)) (Pl.aI (tk l j))=false)/\Hid (Fst w wr (some ⟨ba,o,none⟩) l)) (λkv _=>i-(intOf kv).toNat)
   case atStart=>exact⟨0,rfl,ajm _,aj (λj h=>by omega),HS⟩
   case round =>
    clear HS;obtain⟨k,rfl,hk,HK,HS⟩:=hrel;by_cases hki:k<i
    ·obtain⟨ba',o',eq,_,e1⟩:=(ah HS).1 k (by omega)
     cases eq
     have hf:=ah HOk i hlt;have hg:=ah HOk k (by omega);obtain⟨M,hM⟩:∃M,bD (Pl.aI (tk l i)) (Pl.aI (tk l k))=M:=⟨_,rfl⟩;have PO:=aj (Vm (f:=tk l i) (s:=tk l k) (a:=M) (x:=0) (by rw[OY hf hg];exact hM) (by rw[hf,hg];rfl) (ah HZ i hlt) (ah HZ k (by omega)) wr);have HM:=aj hM;have HN:=aj (λ(w':World) (h:Below wr.heap.size wr w')=>(ah HS).next h);clear hf hg hM
     cases M with
     | true =>
      have HR:Hid (Pn.oG l=true):=aj ((Pn.Jj l).2 ⟨i,k,hki,hlt,ah HM⟩);go_wp2_with (go_at_call 142;refine(ah PO).mono ?_;rintro e w4 ⟨rfl,b4⟩;have Q4:=ah HN w4 b4);go_ret;rw[ah HR];exact⟨rfl,Q4.2⟩
     | false =>
      have HK2:Hid (∀j,j<k+1->bD (Pl.aI (tk l i)) (Pl.aI (tk l j))=false):=aj (λj hj=>by
       by_cases e:j=k
       ·rw[e];exact ah HM
       ·exact ah HK j (by omega))
      clear HM HK;go_wp2_with (go_at_call 142;refine(ah PO).mono ?_;rintro e w4 ⟨rfl,b4⟩;have Q4:=aj (ah HN w4 b4);clear b4);refine⟨⟨k+1,by go_num,by omega,HK2,Q4⟩,?_⟩;simp[intOf];omega
    ·obtain rfl:k=i:=by omega
     have HA2:Hid (acS l (k+1)):=aj (λi' hi' j hj=>by
      by_cases e:i'=k
      ·subst e;exact ah HK j hj
      ·exact ah HA i' (by omega) j hj)
     clear HA HK;go_wp2_with fail;refine⟨⟨k+1,by go_num,by omega,HA2,HS⟩,?_⟩;simp[intOf];omega
  ·obtain rfl:i=l.length:=by omega
   have HR:=aj (ZU (ah HA));go_wp2_with fail;go_ret;rw[ah HR];exact⟨rfl,(ah HS).2⟩
theorem SX (a:Option Addr)(l:List ByteArray)(c:Nat)(w:World)(hsl:nZ w a l)(hz:∀k,k<l.length->(tk l k).size<=140737488355328)(hl:l.length<=140737488355328)(hc:l.length<=c) :
 Calls prog 63 #[.slice a l.length c] w λe w'=>e=.returned (.int .i64 (Pn.iI l))/\Below w.heap.size w w':=by
 have HZ:=aj hz;have HS:Hid (Fst w w a l):=aj ⟨hsl,ajb _ _⟩;clear hz hsl;by_cases h4:4<l.length
 ·have HR:Hid (Pn.iI l=2):=aj (by unfold Pn.iI;rw[if_pos h4]);have g4:decide ((4:Int)<(l.length:Int))=true:=ajg (by omega);go_enter func63,ntmps63;go_wp2_with fail;go_ret;rw[ah HR];exact⟨rfl,(ah HS).2⟩
 have g4:decide ((4:Int)<(l.length:Int))=false:=ajd (by omega);by_cases h0:l.length=0
 ·have HR:Hid (Pn.iI l=1):=aj (by unfold Pn.iI;rw[if_neg h4,if_pos h0]);have g0:((l.length:Int)==0)=true:=by rw[akT];omega
  go_enter func63,ntmps63;go_wp2_with fail;go_ret;rw[ah HR];exact⟨rfl,(ah HS).2⟩
 have g0:((l.length:Int)==0)=false:=by rw[ajr];omega
 have HE:Hid (Pn.iI l=if Pn.gJ l≠0 then Pn.gJ l else if Pn.oG l=true then 10 else 0):=aj (by unfold Pn.iI;rw[if_neg h4,if_neg h0]);go_enter func63,ntmps63;go_wp2_with fail;go_loopw [14] (λiv wr=>∃(i:Nat),iv=.int .i64 i/\i<=l.length/\Hid (Pn.gJ l=Pn.gJ (l.drop i)/\∀k,k<i->aG true (tk l k)=0)/\Hid (Fst w wr a l)) (λiv _=>l.length-(intOf iv).toNat)
 case atStart=>exact⟨0,rfl,ajm _,aj ⟨rfl,λk hk=>by omega⟩,HS⟩
 case round =>
  clear HS;obtain⟨i,rfl,hi,HF,HS⟩:=hrel;by_cases hlt:i<l.length
  ·obtain⟨ba,o,rfl,_,e1⟩:=(ah HS).1 i hlt;obtain⟨E,hE⟩:∃E,aG true (tk l i)=E:=⟨_,rfl⟩;have PF:=aj (Zu hE wr (ah HZ i hlt));have HEE:=aj hE;have HN:=aj (λ(w':World) (h:Below wr.heap.size wr w')=>(ah HS).next h);clear hE;by_cases hE0:E=0
   ·have HF2:Hid (Pn.gJ l=Pn.gJ (l.drop (i+1))/\∀k,k<i+1->aG true (tk l k)=0):=aj ⟨by rw[(ah HF).1,Pn.tX hlt,if_pos (by rw[ah HEE];exact hE0)],λk hk=>by
     by_cases e:k=i
     ·rw[e,ah HEE];exact hE0
     ·exact(ah HF).2 k (by omega)⟩
    subst hE0;clear HF HEE;go_wp2_with (go_at_call 105;refine(ah PF).mono ?_;rintro e w4 ⟨rfl,b4⟩;have Q4:=aj (ah HN w4 b4);clear b4);refine⟨⟨i+1,by go_num,by omega,HF2,Q4⟩,?_⟩;simp[intOf];omega
   ·have HR:Hid (Pn.iI l=E):=aj (by
     have e1:Pn.gJ l=E:=by rw[(ah HF).1,Pn.tX hlt,if_neg (by rw[ah HEE];exact hE0),ah HEE]
     rw[ah HE,e1,if_pos hE0])
    have hE':(E !=0)=true:=by simpa using hE0
    clear HF HEE;go_wp2_with (go_at_call 105;refine(ah PF).mono ?_;rintro e w4 ⟨rfl,b4⟩;have Q4:=ah HN w4 b4);go_ret;rw[ah HR];exact⟨rfl,Q4.2⟩
  ·obtain rfl:i=l.length:=by omega
   have PL:=aj (acT a l c wr (ah HS).1 (ah HZ) (ah HF).2 (by omega) hc);have HE2:Hid (Pn.iI l=if Pn.oG l=true then 10 else 0):=aj (by
    have e1:Pn.gJ l=0:=by rw[(ah HF).1,alb];rfl
    rw[ah HE,e1,if_neg (show ¬(0:Int)≠0 by decide)])
   have HN:=aj (λ(w':World) (h:Below wr.heap.size wr w')=>(ah HS).next h);clear HF HE hlt
   cases hP:Pn.oG l with
   | true =>
    rw[hP] at PL HE2;clear hP;go_wp2_with (go_at_call 110;refine(ah PL).mono ?_;rintro e w4 ⟨rfl,b4⟩;have Q4:=ah HN w4 b4);go_ret;rw[ah HE2];exact⟨rfl,Q4.2⟩
   | false =>
    rw[hP] at PL HE2;clear hP;go_wp2_with (go_at_call 110;refine(ah PL).mono ?_;rintro e w4 ⟨rfl,b4⟩;have Q4:=ah HN w4 b4);go_ret;rw[ah HE2];exact⟨rfl,Q4.2⟩
