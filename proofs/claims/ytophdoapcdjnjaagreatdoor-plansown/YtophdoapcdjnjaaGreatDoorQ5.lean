/- A part. -/
import Derived.Test.YtophdoapcdjnjaaGreatDoorQ0
set_option maxRecDepth 100000
set_option maxHeartbeats 8000000
namespace Go.Proofs.YtophdoapcdjnjaaGreatDoor
open Go.RowKit Go.Proofs.Tryz
def Ef (c:Int):Bool:=decide (33<=c)&&(decide (c<=126)&&(decide (c≠46)&&(decide (c≠42)&&decide (c≠62))))
theorem Jh (c:Int)(w:World) :
 Calls prog 98 #[.int .u8 c] w λe w'=>e=.returned (.bool (Ef c))/\w'=w:=by
 go_enter func98,ntmps98;go_wp2;all_goals go_ret
 all_goals refine⟨iZ ?_,rfl⟩
 all_goals simp[Ef]
 all_goals omega
theorem zB (c:UInt8):Ef (c.toNat:Int)=Pl.NS c:=by
 unfold Ef Pl.NS;rw[Bool.eq_iff_iff];simp;omega
def aW (s:ByteArray):Bool:=Pl.pW s.data.toList
theorem zC {s:ByteArray}(h:s.size<1\/16<s.size):aW s=false:=by
 unfold aW Pl.pW;have:s.data.toList.length=s.size:=by simp
 rcases h with h|h
 ·rw[decide_eq_false (by omega)];rfl
 ·rw[decide_eq_false (p:=s.data.toList.length<=16) (by omega)];simp
theorem KQ {s:ByteArray}{k:Nat}(hk:k<s.size)(h:Ef (s[k].toNat:Int)=false):aW s=false:=by
 unfold aW Pl.pW;rw[zB] at h;have:s.data.toList.all Pl.NS=false:=by
  rw[List.all_eq_false];exact⟨s[k],by simp[ByteArray.getElem_eq_getElem_data],by simp[h]⟩
 simp[this]
theorem Gu {s:ByteArray}(h1:1<=s.size)(h2:s.size<=16)(h:∀k (hk:k<s.size),Ef (s[k].toNat:Int)=true):aW s=true:=by
 unfold aW Pl.pW;have e:s.data.toList.length=s.size:=by simp
 rw[decide_eq_true (by omega),decide_eq_true (by omega)];simp only[Bool.true_and,List.all_eq_true];intro c hc;obtain⟨k,hk,rfl⟩:=List.mem_iff_getElem.1 hc;have:=h k (by omega);rw[zB] at this;simpa[ByteArray.getElem_eq_getElem_data] using this
theorem tq (s:ByteArray)(w:World)(hs:s.size<=maxLen) :
 Calls prog 70 #[.string s] w λe w'=>e=.returned (.bool (aW s))/\w'=w:=by
 unfold maxLen at hs;by_cases h1:s.size<1
 ·go_enter func70,ntmps70;go_wp2;go_ret;exact⟨iE (zC (Or.inl h1)),rfl⟩
 by_cases h2:16<s.size
 ·go_enter func70,ntmps70;go_wp2;go_ret;exact⟨iE (zC (Or.inr h2)),rfl⟩
 go_enter func70,ntmps70;go_wp2;go_loop [14] (λi=>∃k:Nat,k<=s.size/\i=.int .i64 k/\Hid (∀j (hj:j<s.size),j<k->Ef (s[j].toNat:Int)=true)) (λi=>s.size-(intOf i).toNat)
 case atStart=>exact⟨0,Nat.zero_le _,rfl,aj (λj _ h=>absurd h (Nat.not_lt_zero j))⟩
 case round =>
  obtain⟨k,hk,rfl,hq⟩:=hrel;by_cases hlt:k<s.size
  ·cases ht:Ef (s[k].toNat:Int) with
   | false =>
    have Ht:=aj ht;clear ht;go_wp2_with (go_at_call 98;refine(Jh _ _).mono ?_;rintro e w' ⟨rfl,rfl⟩;rw[ah Ht]);go_ret;exact⟨iE (KQ hlt (ah Ht)),rfl⟩
   | true =>
    have Ht:=aj ht;clear ht;go_wp2_with (go_at_call 98;refine(Jh _ _).mono ?_;rintro e w' ⟨rfl,rfl⟩;rw[ah Ht]);go_round
    case rel=>exact⟨k+1,by omega,by go_num,aj (λj hj h=>by
     rcases Nat.lt_succ_iff_lt_or_eq.1 h with h|h
     ·exact ah hq j hj h
     ·subst h;exact ah Ht)⟩
    case measure=>simp[intOf];omega
  ·go_wp2;go_ret;exact⟨iE (Gu (by omega) (by omega) (λj hj=>ah hq j hj (by omega))),rfl⟩
