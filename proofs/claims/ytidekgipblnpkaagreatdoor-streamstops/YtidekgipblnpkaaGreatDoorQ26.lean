/- A part of the proof. -/
import Derived.Test.YtidekgipblnpkaaGreatDoorQ22
import Derived.Test.YtidekgipblnpkaaGreatDoorQ25
set_option maxRecDepth 100000
set_option maxHeartbeats 8000000
namespace Go.Proofs.YtidekgipblnpkaaGreatDoor.Dk
open Go.RowKit Go.Sort Go.Shelf Go.Proofs.Tryz
theorem sortsA (m:Nat):AnyZI.SortsIn prog Tryz.sortedA_ren Fence.wide m :=
 ⟨λblk off cap ss W hH hblk hsz=>callsIn_wide.2 (AnyM.slices_Sort_int Tryz.sortA blk off cap ss W hH hblk hsz),
  λp cap W=>callsIn_wide.2 (AnyM.slices_Sort_int_none Tryz.sortA p cap W)⟩
theorem Kv {m:Int}{es:List ay}(ht:Tidy m es){ss:List Int}(hp:ss.Perm (aT es)):ss.mergeSort (λx y=>decide (x<=y))=aT es:=by
 rw[show ss.mergeSort (λx y=>decide (x<=y))=(aT es).mergeSort (λx y=>decide (x<=y)) from mergeSort_of_perm_i hp];refine List.mergeSort_of_pairwise (((iH es).1 ht.rise).imp (λh=>?_));rw[decide_eq_true_eq];omega
theorem ad2 {w:World}{B:Nat}{v:Value}{l:List Int}(h:w.ownsRow B 3 1 v l.length (l.map encZ)):∃a c,v=.slice a l.length c/\qL w a l:=by
 rcases h.2 with ⟨h1,h2⟩|⟨g,cap,cur,h1,h2,h3,_⟩
 ·exact⟨none,0,by rw[h1,h2],λk hk=>by omega⟩
 ·refine⟨some ⟨g,0,none⟩,cap,h1,λk hk=>⟨g,0,rfl,(Array.getElem?_eq_some_iff.1 h3).1,?_⟩⟩;subst h1;rw[World.ownsRow.cellAt h (0+k) (by omega),Nat.zero_add];unfold nth;rw[List.getElem?_map,List.getElem?_eq_getElem hk];rfl
theorem N9 {w:World}{q b:Nat}{D:DataW Unit}(k1:w.cell? ⟨q,1,none⟩=some (.map (some b)))(hown:w.ownsMap prog 3 dJ b (Maps.size D) D)(hmax:Maps.size D<=20) :
 Calls prog 182 #[.pointer (some ⟨q,0,none⟩)] w λe w'=>∃(v:Value) (ss:List Int),e=.returned v/\ss.Perm (intKeys D)/\w'.ownsRow w.heap.size 3 1 v ss.length ((ss.mergeSort (λx y=>decide (x<=y))).map encZ)/\Below w.heap.size w w':=by
 refine(callsIn_wide (n:=6)).1 ?_;have hbl:=hown.lt;have hseq:SeqGives Fence.wide 2 prog 234 #[.pointer (some ⟨w.heap.size,0,none⟩)] encZ (λss=>ss.Perm (intKeys D)) (Maps.size D) (w.alloc (.cells #[.map (some b)] 170)) :=
  AnyZI.keys_gives (ρ:=Tryz.keysA_ren) {Tryz.keysA with} Fence.wide _ trivial rfl (by omega) w.heap.size b (Maps.size D) D _ (by simp) (by simp) (by
   obtain⟨es,clock,hb,Ft,hs,hD⟩:=hown;exact⟨es,clock,(Below.heap_alloc _ _ b hbl).trans hb,Ft,hs,hD⟩)
 have cK:∀mb W,CallsIn Fence.wide 5 prog 214 #[.map mb] W λe w'=>e=.returned (.func (.func 234) #[] #[.pointer (some ⟨W.heap.size,0,none⟩)])/\w'=W.alloc (.cells #[.map mb] 170):=λmb W=>AnyZI.keys_in Tryz.keysA Fence.wide 5 trivial rfl mb W
 have cS:=AnyZI.sorted_in Tryz.sortedA Fence.wide 5 trivial trivial trivial trivial rfl (by omega) (sortsA _) (enters_of func233 (by kernel_rfl) rfl) 234 #[.pointer (some ⟨w.heap.size,0,none⟩)] trivial (enters_of func234 (by kernel_rfl) rfl) _ (Maps.size D) (by unfold maxLen;omega) (by omega) _ hseq;change CallsIn _ _ prog 213 _ _ _ at cS;have hfK:Fence.wide.fn 214:=trivial;have hfS:Fence.wide.fn 213:=trivial;refine callsIn_of_wp func182 rfl trivial ?_ rfl;simp only[ntmps182,List.size_toArray,List.length_cons,List.length_nil,Nat.reduceAdd,Nat.reduceSub,Array.replicate_succ,Array.replicate_zero,List.push_toArray,List.append_toArray,List.nil_append,List.cons_append]
 gi_wp2_with (first
  | (gi_at_call 214;refine(cK _ _).mono ?_;rintro e w' ⟨rfl,rfl⟩)
  | (gi_at_call 213;refine cS.mono ?_;rintro e w' ⟨v,ss,rfl,hS,hrow,hnil,hb⟩))
 go_ret
 exact⟨v,ss,rfl,hS,ownsRow_base_a hrow (by simp),((Below.refl _ w).alloc (Nat.le_refl _) _).trans (hb.mono (by simp))⟩
theorem keys_nil {w:World}{q:Nat}(k1:w.cell? ⟨q,1,none⟩=some (.map none)) :
 Calls prog 182 #[.pointer (some ⟨q,0,none⟩)] w λe w'=>e=.returned (.slice none 0 0)/\Below w.heap.size w w':=by
 refine(callsIn_wide (n:=6)).1 ?_;have hseq:SeqGives Fence.wide 2 prog 234 #[.pointer (some ⟨w.heap.size,0,none⟩)] encZ (λss:List Int=>ss=[]) 0 (w.alloc (.cells #[.map none] 170)) :=
  AnyZI.keys_gives_nil (ρ:=Tryz.keysA_ren) {Tryz.keysA with} Fence.wide _ trivial rfl w.heap.size _ (by simp) (by simp)
 have cK:∀mb W,CallsIn Fence.wide 5 prog 214 #[.map mb] W λe w'=>e=.returned (.func (.func 234) #[] #[.pointer (some ⟨W.heap.size,0,none⟩)])/\w'=W.alloc (.cells #[.map mb] 170):=λmb W=>AnyZI.keys_in Tryz.keysA Fence.wide 5 trivial rfl mb W
 have cS:=AnyZI.sorted_in Tryz.sortedA Fence.wide 5 trivial trivial trivial trivial rfl (by omega) (sortsA _) (enters_of func233 (by kernel_rfl) rfl) 234 #[.pointer (some ⟨w.heap.size,0,none⟩)] trivial (enters_of func234 (by kernel_rfl) rfl) _ 0 (Nat.zero_le _) (by omega) _ hseq;change CallsIn _ _ prog 213 _ _ _ at cS;have hfK:Fence.wide.fn 214:=trivial;have hfS:Fence.wide.fn 213:=trivial;refine callsIn_of_wp func182 rfl trivial ?_ rfl;simp only[ntmps182,List.size_toArray,List.length_cons,List.length_nil,Nat.reduceAdd,Nat.reduceSub,Array.replicate_succ,Array.replicate_zero,List.push_toArray,List.append_toArray,List.nil_append,List.cons_append]
 gi_wp2_with (first
  | (gi_at_call 214;refine(cK _ _).mono ?_;rintro e w' ⟨rfl,rfl⟩)
  | (gi_at_call 213;refine cS.mono ?_;rintro e w' ⟨v,ss,rfl,rfl,hrow,hnil,hb⟩;obtain rfl:v=.slice none 0 0:=hnil.2 rfl))
 go_ret
 exact⟨rfl,((Below.refl _ w).alloc (Nat.le_refl _) _).trans (hb.mono (by simp))⟩
theorem abe {w:World}{B q:Nat}{F:Nat->Prop}{m:Int}{es:List ay}(hH:Has w B q F m es)(ht:Tidy m es) :
 Calls prog 182 #[.pointer (some ⟨q,0,none⟩)] w λe w'=>∃a c,e=.returned (.slice a es.length c)/\qL w' a (aT es)/\Did Has w w' B q F m es:=by
 have HH:=hH;obtain⟨rl,mb,D,cO,vO,hF,h⟩:=hH;have hlen:(aT es).length=es.length:=by unfold aT;rw[List.length_map]
 have hsz:=h.sz;have hfew:=ht.few;rcases h.mp with ⟨rfl,rfl⟩|⟨b,rfl,hown⟩
 ·obtain rfl:es=[]:=List.eq_nil_of_length_eq_zero hsz.symm;refine(keys_nil h.c1).mono ?_;rintro e w' ⟨rfl,hb⟩;exact⟨none,0,rfl,λk hk=>absurd hk (Nat.not_lt_zero k),xK HH hb⟩
 ·refine(N9 h.c1 hown (by omega)).mono ?_;rintro e w' ⟨v,ss,rfl,hp,hrow,hb⟩;have hC:CollectedI D (λ_=>false) (aT es):=⟨((iH es).1 ht.rise).imp (λhab e=>by omega),λx=>by rw[xE,h.key];simp⟩;have hp2:ss.Perm (aT es):=hp.trans (hC.perm hown Ic underlying3 (λ_=>rfl)).symm;rw[Kv ht hp2] at hrow;have hl2:ss.length=(aT es).length:=hp2.length_eq;rw[hl2] at hrow;obtain⟨a,c,rfl,hs⟩:=ad2 hrow;rw[hlen];exact⟨a,c,rfl,hs,xK HH hb⟩
theorem abf {w:World}{B q:Nat}{F:Nat->Prop}{m:Int}{es:List ay}(hH:Has w B q F m es)(ht:Tidy m es) :
 Calls prog 182 #[.pointer (some ⟨q,0,none⟩)] w λe w'=>∃a c,e=.returned (.slice a es.length c)/\(es.length<=c/\c<=maxLen)/\qL w' a (aT es)/\(∀z,a=some z->w.heap.size<=z.block/\z.block<w'.heap.size)/\Below w.heap.size w w':=by
 obtain⟨rl,mb,D,cO,vO,hF,h⟩:=hH;have hlen:(aT es).length=es.length:=by unfold aT;rw[List.length_map]
 have hsz:=h.sz;have hfew:=ht.few;rcases h.mp with ⟨rfl,rfl⟩|⟨b,rfl,hown⟩
 ·obtain rfl:es=[]:=List.eq_nil_of_length_eq_zero hsz.symm;refine(keys_nil h.c1).mono ?_;rintro e w' ⟨rfl,hb⟩;exact⟨none,0,rfl,⟨Nat.le_refl _,Nat.zero_le _⟩,λk hk=>absurd hk (Nat.not_lt_zero k),λz hz=>(by cases hz),hb⟩
 ·refine(N9 h.c1 hown (by omega)).mono ?_;rintro e w' ⟨v,ss,rfl,hp,hrow,hb⟩;have hC:CollectedI D (λ_=>false) (aT es):=⟨((iH es).1 ht.rise).imp (λhab e=>by omega),λx=>by rw[xE,h.key];simp⟩;have hp2:ss.Perm (aT es):=hp.trans (hC.perm hown Ic underlying3 (λ_=>rfl)).symm;rw[Kv ht hp2] at hrow;have hl2:ss.length=(aT es).length:=hp2.length_eq;rw[hl2] at hrow;have hrow2:=hrow;have hcap:∀a c,v=.slice a (aT es).length c->(aT es).length<=c/\c<=maxLen:=λa c hv=>by
   rcases hrow2.2 with ⟨h1,h2⟩|⟨g,cap,cur,h1,h2,h3,h4,h5,_⟩
   ·rw[hv] at h1;obtain⟨_,e2,e3⟩:=Value.slice.inj h1;rw[e2,e3];exact⟨Nat.le_refl _,Nat.zero_le _⟩
   ·rw[hv] at h1;obtain⟨_,_,rfl⟩:=Value.slice.inj h1;exact⟨h4,h5⟩
  have hblk:∀a c z,v=.slice a (aT es).length c->a=some z->w.heap.size<=z.block/\z.block<w'.heap.size:=λa c z hv hz=>by
   refine World.ownsRow.lt hrow2 z.block ?_;rw[hv,hz];rcases hrow2.2 with ⟨h1,_⟩|⟨g,cap,cur,h1,_⟩
   ·rw[hv,hz] at h1;cases (Value.slice.inj h1).1
   ·rw[hv,hz] at h1;obtain rfl:=Option.some.inj (Value.slice.inj h1).1;rfl
  obtain⟨a,c,rfl,hs⟩:=ad2 hrow;have h1:=hcap a c rfl;have h2:=hblk a c;rw[hlen] at h1 h2 ⊢;exact⟨a,c,rfl,h1,hs,λz hz=>h2 z rfl hz,hb⟩
end Go.Proofs.YtidekgipblnpkaaGreatDoor.Dk
