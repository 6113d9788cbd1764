/- A part of the proof. -/
import Derived.Test.YtidekgipblnpkaaGreatDoorQ3
import Derived.Lib.SlKeysI
set_option maxRecDepth 100000
set_option maxHeartbeats 8000000
namespace Go.Proofs.YtidekgipblnpkaaGreatDoor.Dk
open Go.RowKit Go.Proofs.Tryz
theorem invK (key:Value)(kl:Lit)(hk:keyOf prog 3 key=some kl):∃x,key=Value.int .i64 x:=by
 obtain⟨x,h,_⟩:=Maps.keyOf_int_inv underlying3 hk;exact⟨x,h⟩
def mkP (c:Nat):Value:=.pointer (some ⟨c,0,none⟩)
theorem invV (v:Value)(y:DataW Unit×List MemPlace)(h:dJ v=some y):∃c,v=mkP c:=by
 obtain⟨b,h,_⟩:=zS h;exact⟨b,h⟩
theorem kU.came {w:World}{B q:Nat}{rl:Nat->Option (Nat×Int)}{m:Int}{es:List ay}{mb:Option Nat}{D:DataW Unit}{cO:Int->Nat}{vO:Int->Value}(h:kU w B q rl m es mb D cO vO){x:Int}{c:Nat}{kl:Lit}{y:DataW Unit}{z:List MemPlace}(hk:keyOf prog 3 (.int .i64 x)=some kl)(hv:dJ (mkP c)=some (y,z))(hat:∀zd,D.atKey kl zd=y):kl=.int .i64 x/\c=cO x/\∃e,eY es x=some e:=by
 obtain⟨x',e1,rfl,_⟩:=Maps.keyOf_int_inv underlying3 hk
 cases e1
 have hh:=h.key x;rw[Maps.has_true_of_atKey hat] at hh
 cases hf:eY es x with
 | none=>rw[hf] at hh;cases hh
 | some e =>
  refine⟨rfl,?_,e,rfl⟩;have h1:=(hat .nil).symm.trans (h.ptr x e hf .nil);have h2:(DataW.lit (.int .i64 (c:Int)):DataW Unit)=y:=by
   have:some ((DataW.lit (.int .i64 (c:Int)):DataW Unit),([]:List MemPlace))=some (y,z):=hv;exact congrArg Prod.fst (Option.some.inj this)
  rw[<-h2] at h1;simp only[DataW.lit.injEq,Lit.int.injEq,true_and] at h1;omega
theorem kU.keys {w:World}{B q:Nat}{rl:Nat->Option (Nat×Int)}{m:Int}{es:List ay}{mb:Option Nat}{D:DataW Unit}{cO:Int->Nat}{vO:Int->Value}(h:kU w B q rl m es mb D cO vO)(ht:Tidy m es){left:Lit->Bool}{ss:List Int}(hC:CollectedI D left ss)(hl:∀kl,left kl=false):ss.Perm (aT es):=by
 refine(List.perm_ext_iff_of_nodup hC.1 ?_).2 (λx=>?_)
 ·exact((iH es).1 ht.rise).imp (λhab e=>by omega)
 ·rw[hC.2 x,xE,h.key,hl];simp
def N7 (es:List ay)(ss:List Int):Nat:=(ss.map (oJ es)).sum
theorem Xf (es:List ay)(ss:List Int)(x:Int):N7 es (ss++[x])=N7 es ss+oJ es x:=by simp[N7]
theorem Jg (f:Int->Nat):∀(ss L:List Int),ss.Nodup->(∀x,x∈ss->x∈L)->(ss.map f).sum<=(L.map f).sum
 | [],L,_,_=>by simp
 | x::ss,L,hnd,hs=>by
  have hx:=hs x (by simp);have hnd':=List.nodup_cons.1 hnd;have ih:=Jg f ss (L.erase x) hnd'.2 (λy hy=>by
   have hne:y≠x:=λe=>hnd'.1 (by rw[<-e];exact hy)
   exact(List.mem_erase_of_ne hne).2 (hs y (by simp[hy])))
  have hp:(L.map f).sum=((x::L.erase x).map f).sum:=((List.perm_cons_erase hx).map f).sum_nat;rw[hp,List.map_cons,List.map_cons,List.sum_cons,List.sum_cons];omega
theorem agK {es:List ay}{D:DataW Unit}{m:Int}{left:Lit->Bool}{ss:List Int}(ht:Tidy m es)(hk:∀n,Maps.has D (.int .i64 n)=(eY es n).isSome)(hC:CollectedI D left ss):N7 es ss<=used es:=by
 rw[Jb ht.rise];exact Jg _ ss _ hC.1 (λx hx=>by rw[xE,<-hk];exact((hC.2 x).1 hx).1)
theorem sZ {w:World}{B q:Nat}{F:Nat->Prop}{m:Int}{es:List ay}(hH:Has w B q F m es)(ht:Tidy m es)(hm:m<=65536) :
 Calls prog 225 #[.pointer (some ⟨q,0,none⟩)] w λe w'=>e=.returned (.int .i64 (used es:Int))/\Below w.heap.size w w':=by
 obtain⟨rl,mb,D,cO,vO,hF,h⟩:=hH;have k1:=h.c1;have H:=aj h;have HT:=aj ht;have hfit:=ht.fits;rcases h.mp with ⟨rfl,rfl⟩|⟨b,rfl,hown⟩
 ·have h0:es=[]:=by
   have:=h.sz;exact List.eq_nil_of_length_eq_zero this.symm
  subst h0;have hrg:=run_range_nilMap (P:=prog) w 170 3 188 underlying170;have hnx:∀ty,(Instr.next (.pointer (some ⟨w.heap.size,0,none⟩)) false ty).run prog (w.alloc (.mapIter none 0 #[] 0))=_:=λty=>run_next_nilMap w ty 0 0 #[]
  clear h hF ht hfit;go_enter func225,ntmps225
  go_wp2_with fail
  refine wp_loop_rounds 1 ?_;rw[rounds_succ];go_wp2_with fail
  go_ret
  exact⟨rfl,(Below.refl _ _).alloc (Nat.le_refl _) _⟩
 ·clear h hF ht;go_enter func225,ntmps225
  go_wp2_with (first
   | (at_range;refine wpList_range_own _ rfl _ 170 rfl 3 188 Ic underlying170 _ b _ _ rfl hown ?_;intro w0 hrg0 hg0 hs0)
   | go_in)
  go_frame
  clear k1;go_loopw [3] (λu wr=>∃(left:Lit->Bool) (cnt:Nat) (ss:List Int),u=.int .i64 (N7 es ss:Int)/\wr.ranges prog 3 dJ b w.heap.size (Maps.size D) D left cnt/\Hid (CollectedI D left ss)/\Below w.heap.size w wr) (λ_ wr=>wr.rangeLeft b w.heap.size)
  case atStart =>
   exact⟨_,_,[],rfl,hrg0,aj (CollectedI.start D),(Below.refl _ _).grown hg0 (Nat.le_refl _) (λj hj=>by cases hj)⟩
  case round =>
   obtain⟨left,cnt,ss,rfl,hrg,hC,hb⟩:=hrel;clear hrg0 hg0 hs0;go_wp2_with (first
    | (at_next;refine wpList_next_ranges _ rfl _ rfl 3 Ic dJ (Value.int .i64) mkP invK invV b w.heap.size _ _ _ _ rfl hrg ?_ ?_)
    | go_in)
   ·intro _ hl0;have hS:=(ah HT).used ((ah H).keys (ah HT) (ah hC) hl0);have HS:Hid (N7 es ss=used es):=aj hS;clear hS;go_wp2_with fail
    go_ret
    exact⟨fV (by rw[ah HS]),hb⟩
   ·intro x c kl yd yp w2 cnt2 hkey hlk hv hat hrg2 hlt hg2 hs2 hen;have hb2:=hb.grown hg2 hb.size (λj hj=>by cases hj;exact Nat.le_refl _);obtain⟨rfl,rfl,e,hf⟩:=(ah H).came hkey hv hat;have hC2:=aj ((ah hC).step hlk hat);have gJ:=((ah H).keep (A:=λ_=>False) (aF.of_below hb2) (λ_ _ z=>z)).file x e hf;obtain⟨a,cap,hvv,_,_⟩:=gJ.shape;have d0:=gJ.c0;rw[hvv] at d0;have hz:oJ es x=e.text.size:=by unfold oJ;rw[hf]
    have hle:=agK (ah HT) (ah H).key (ah hC2);have HS:=aj (Xf es ss x);rw[ah HS,hz] at hle;rw[hz] at HS;clear hs2 gJ hz hkey hlk hv hat hf hvv hb hg2;unfold mkP at hen ⊢;go_wp2_with fail
    go_roundw
    case rel=>exact⟨_,cnt2,ss++[x],by rw[ah HS];go_num,hrg2,hC2,hb2⟩
    case measure=>rw[hrg2.left_eq,hrg.left_eq];exact hlt
end Go.Proofs.YtidekgipblnpkaaGreatDoor.Dk
