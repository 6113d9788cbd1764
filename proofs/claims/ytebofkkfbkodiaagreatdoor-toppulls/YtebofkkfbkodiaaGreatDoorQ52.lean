/- The law TopPulls: the card, out of the contracts of the landed packages below the server. -/
import Derived.Test.YtebofkkfbkodiaaGreatDoorQ2
import Derived.Test.YtebofkkfbkodiaaGreatDoorQ12
import Derived.Test.YtebofkkfbkodiaaGreatDoorQ30
import Derived.Test.YtebofkkfbkodiaaGreatDoorQ35
import Derived.Test.YtebofkkfbkodiaaGreatDoorQ38
import Derived.Test.YtebofkkfbkodiaaGreatDoorQ41
import Derived.Test.YtebofkkfbkodiaaGreatDoorQ42
import Derived.Test.YtebofkkfbkodiaaGreatDoorQ44
import Derived.Test.YtebofkkfbkodiaaGreatDoorQ51
set_option maxRecDepth 100000
set_option maxHeartbeats 8000000
namespace Go.Proofs.YtebofkkfbkodiaaGreatDoor.Dk
open Go.RowKit Go.Sort Go.Shelf Go.Proofs.Tryz
variable {m:Int}{es:List aB}{w:I}{B q:Nat}{F:af}
theorem sortsA (m:Nat):AnyZI.SortsIn prog Tryz.sortedA_ren Fence.wide m :=
 ⟨λblk off cap ss W hH hblk hsz=>alM.2 (AnyM.slices_Sort_int Tryz.sortA blk off cap ss W hH hblk hsz),
  λp cap W=>alM.2 (AnyM.slices_Sort_int_none Tryz.sortA p cap W)⟩
theorem Hu (ht:Tidy m es){ss:List Int}(hp:ss.Perm (aW es)):ss.mergeSort (λx y=>decide (x<=y))=aW es:=by
 rw[show ss.mergeSort (λx y=>decide (x<=y))=(aW es).mergeSort (λx y=>decide (x<=y)) from mergeSort_of_perm_i hp];refine List.mergeSort_of_pairwise (((kM es).1 ht.rise).imp (λh=>?_));rw[ajG];omega
theorem adH {v:Value}{l:List Int}(h:w.ownsRow B 3 1 v l.length (l.map encZ)):∃a c,v=.slice a l.length c/\kK w a l:=by
 rcases h.2 with ⟨h1,h2⟩|⟨g,cap,cur,h1,h2,h3,_⟩
 ·exact⟨none,0,by rw[h1,h2],λk hk=>by omega⟩
 ·refine⟨some ⟨g,0,none⟩,cap,h1,λk hk=>⟨g,0,rfl,(akJ.1 h3).1,?_⟩⟩;subst h1;rw[ake h (0+k) (by omega),ajT];unfold nth;rw[alj,ajC hk];rfl
theorem Ky {b:Nat}{D:DataW Unit}(k1:w.cell? (aq q 1)=some (.map (some b)))(hown:w.ownsMap prog 3 bD b (Maps.size D) D)(hmax:Maps.size D<=20) :
 Calls prog 243 #[ae q] w λe w'=>∃(v:Value) (ss:List Int),e=.returned v/\ss.Perm (intKeys D)/\w'.ownsRow w.heap.size 3 1 v ss.length ((ss.mergeSort (λx y=>decide (x<=y))).map encZ)/\ai w w':=by
 refine(alM (n:=6)).1 ?_;have hbl:=hown.lt;have hseq:SeqGives Fence.wide 2 prog 287 #[.pointer (some ⟨w.heap.size,0,none⟩)] encZ (λss=>ss.Perm (intKeys D)) (Maps.size D) (w.alloc (.cells #[.map (some b)] 230)) :=
  AnyZI.keys_gives (ρ:=Tryz.keysA_ren) {Tryz.keysA with} Fence.wide _ trivial rfl (by omega) w.heap.size b (Maps.size D) D _ (by simp) (by simp) (by
   obtain⟨es,clock,hb,Ft,hs,hD⟩:=hown;exact⟨es,clock,(Below.heap_alloc _ _ b hbl).trans hb,Ft,hs,hD⟩)
 have cK:∀mb W,CallsIn Fence.wide 5 prog 269 #[.map mb] W λe w'=>e=.returned (.func (.func 287) #[] #[.pointer (some ⟨W.heap.size,0,none⟩)])/\w'=W.alloc (.cells #[.map mb] 230):=λmb W=>AnyZI.keys_in Tryz.keysA Fence.wide 5 trivial rfl mb W
 have cS:=AnyZI.sorted_in Tryz.sortedA Fence.wide 5 trivial trivial trivial trivial rfl (by omega) (sortsA _) (enters_of func286 (by kernel_rfl) rfl) 287 #[.pointer (some ⟨w.heap.size,0,none⟩)] trivial (enters_of func287 (by kernel_rfl) rfl) _ (Maps.size D) (by unfold maxLen;omega) (by omega) _ hseq;change CallsIn _ _ prog 268 _ _ _ at cS;have hfK:Fence.wide.fn 269:=trivial;have hfS:Fence.wide.fn 268:=trivial;refine amA func243 rfl trivial ?_ rfl;simp only[ntmps243,alm,ajX,alG,Nat.reduceAdd,Nat.reduceSub,alo,alp,alD,als,akD,akx]
 gi_wp2_with (first
  | (gi_at_call 269;refine(cK _ _).mono ?_;rintro e w' ⟨rfl,rfl⟩)
  | (gi_at_call 268;refine cS.mono ?_;rintro e w' ⟨v,ss,rfl,hS,hrow,hnil,hb⟩))
 go_ret;exact⟨v,ss,rfl,hS,ownsRow_base_a hrow (by simp),((agP _ w).alloc (agH _) _).trans (hb.mono (by simp))⟩
theorem keys_nil (k1:w.cell? (aq q 1)=some (.map none)) :
 Calls prog 243 #[ae q] w λe w'=>e=.returned (.slice none 0 0)/\ai w w':=by
 refine(alM (n:=6)).1 ?_;have hseq:SeqGives Fence.wide 2 prog 287 #[.pointer (some ⟨w.heap.size,0,none⟩)] encZ (λss:List Int=>ss=[]) 0 (w.alloc (.cells #[.map none] 230)) :=
  AnyZI.keys_gives_nil (ρ:=Tryz.keysA_ren) {Tryz.keysA with} Fence.wide _ trivial rfl w.heap.size _ (by simp) (by simp)
 have cK:∀mb W,CallsIn Fence.wide 5 prog 269 #[.map mb] W λe w'=>e=.returned (.func (.func 287) #[] #[.pointer (some ⟨W.heap.size,0,none⟩)])/\w'=W.alloc (.cells #[.map mb] 230):=λmb W=>AnyZI.keys_in Tryz.keysA Fence.wide 5 trivial rfl mb W
 have cS:=AnyZI.sorted_in Tryz.sortedA Fence.wide 5 trivial trivial trivial trivial rfl (by omega) (sortsA _) (enters_of func286 (by kernel_rfl) rfl) 287 #[.pointer (some ⟨w.heap.size,0,none⟩)] trivial (enters_of func287 (by kernel_rfl) rfl) _ 0 (ajO _) (by omega) _ hseq;change CallsIn _ _ prog 268 _ _ _ at cS;have hfK:Fence.wide.fn 269:=trivial;have hfS:Fence.wide.fn 268:=trivial;refine amA func243 rfl trivial ?_ rfl;simp only[ntmps243,alm,ajX,alG,Nat.reduceAdd,Nat.reduceSub,alo,alp,alD,als,akD,akx]
 gi_wp2_with (first
  | (gi_at_call 269;refine(cK _ _).mono ?_;rintro e w' ⟨rfl,rfl⟩)
  | (gi_at_call 268;refine cS.mono ?_;rintro e w' ⟨v,ss,rfl,rfl,hrow,hnil,hb⟩;obtain rfl:v=.slice none 0 0:=hnil.2 rfl))
 go_ret;exact⟨rfl,((agP _ w).alloc (agH _) _).trans (hb.mono (by simp))⟩
theorem ZV (hH:Has w B q F m es)(ht:Tidy m es) :
 Calls prog 243 #[ae q] w λe w'=>∃a c,e=.returned (.slice a es.length c)/\kK w' a (aW es)/\Did Has w w' B q F m es:=by
 have HH:=hH;obtain⟨rl,mb,D,cO,vO,hF,h⟩:=hH;have hlen:(aW es).length=es.length:=by unfold aW;rw[akk]
 have hsz:=h.sz;have hfew:=ht.few;rcases h.mp with ⟨rfl,rfl⟩|⟨b,rfl,hown⟩
 ·obtain rfl:es=[]:=akV hsz.symm;refine(keys_nil h.c1).mono ?_;rintro e w' ⟨rfl,hb⟩;exact⟨none,0,rfl,λk hk=>absurd hk (akh k),yJ HH hb⟩
 ·refine(Ky h.c1 hown (by omega)).mono ?_;rintro e w' ⟨v,ss,rfl,hp,hrow,hb⟩;have hC:CollectedI D (λ_=>false) (aW es):=⟨((kM es).1 ht.rise).imp (λhab e=>by omega),λx=>by rw[Dw,h.key];simp⟩;have hp2:ss.Perm (aW es):=hp.trans (hC.perm hown H7 underlying3 (λ_=>rfl)).symm;rw[Hu ht hp2] at hrow;have hl2:ss.length=(aW es).length:=hp2.length_eq;rw[hl2] at hrow;obtain⟨a,c,rfl,hs⟩:=adH hrow;rw[hlen];exact⟨a,c,rfl,hs,yJ HH hb⟩
theorem ZW (hH:Has w B q F m es)(ht:Tidy m es) :
 Calls prog 243 #[ae q] w λe w'=>∃a c,e=.returned (.slice a es.length c)/\(es.length<=c/\c<=maxLen)/\kK w' a (aW es)/\(∀z,a=some z->w.heap.size<=z.block/\z.block<w'.heap.size)/\ai w w':=by
 obtain⟨rl,mb,D,cO,vO,hF,h⟩:=hH;have hlen:(aW es).length=es.length:=by unfold aW;rw[akk]
 have hsz:=h.sz;have hfew:=ht.few;rcases h.mp with ⟨rfl,rfl⟩|⟨b,rfl,hown⟩
 ·obtain rfl:es=[]:=akV hsz.symm;refine(keys_nil h.c1).mono ?_;rintro e w' ⟨rfl,hb⟩;exact⟨none,0,rfl,⟨agH _,ajO _⟩,λk hk=>absurd hk (akh k),λz hz=>(by cases hz),hb⟩
 ·refine(Ky h.c1 hown (by omega)).mono ?_;rintro e w' ⟨v,ss,rfl,hp,hrow,hb⟩;have hC:CollectedI D (λ_=>false) (aW es):=⟨((kM es).1 ht.rise).imp (λhab e=>by omega),λx=>by rw[Dw,h.key];simp⟩;have hp2:ss.Perm (aW es):=hp.trans (hC.perm hown H7 underlying3 (λ_=>rfl)).symm;rw[Hu ht hp2] at hrow;have hl2:ss.length=(aW es).length:=hp2.length_eq;rw[hl2] at hrow;have hrow2:=hrow;have hcap:∀a c,v=.slice a (aW es).length c->(aW es).length<=c/\c<=maxLen:=λa c hv=>by
   rcases hrow2.2 with ⟨h1,h2⟩|⟨g,cap,cur,h1,h2,h3,h4,h5,_⟩
   ·rw[hv] at h1;obtain⟨_,e2,e3⟩:=akE h1;rw[e2,e3];exact⟨agH _,ajO _⟩
   ·rw[hv] at h1;obtain⟨_,_,rfl⟩:=akE h1;exact⟨h4,h5⟩
  have hblk:∀a c z,v=.slice a (aW es).length c->a=some z->w.heap.size<=z.block/\z.block<w'.heap.size:=λa c z hv hz=>by
   refine aks hrow2 z.block ?_;rw[hv,hz];rcases hrow2.2 with ⟨h1,_⟩|⟨g,cap,cur,h1,_⟩
   ·rw[hv,hz] at h1;cases (akE h1).1
   ·rw[hv,hz] at h1;obtain rfl:=ajU (akE h1).1;rfl
  obtain⟨a,c,rfl,hs⟩:=adH hrow;have h1:=hcap a c rfl;have h2:=hblk a c;rw[hlen] at h1 h2 ⊢;exact⟨a,c,rfl,h1,hs,λz hz=>h2 z rfl hz,hb⟩
end Go.Proofs.YtebofkkfbkodiaaGreatDoor.Dk
namespace Go.Proofs.YtebofkkfbkodiaaGreatDoor.Dk
open Go.RowKit Go.Proofs.Tryz
def ZX (w:I)(B b:Nat)(G:af)(c:bM):Prop:=∃a ca v,Cm w B b c a ca v/\G=λk=>ny b v k\/∃z,a=some z/\z.block=k
theorem ZX.did {w w':I}{B b:Nat}{c':bM}{a:Option Addr}{ca:Nat}{v:Value}(hu:bF w w' B b a ca v c'):aeL ZX w w' B b (λk=>ny b v k\/∃z,a=some z/\z.block=k) c':=by
 obtain⟨v',k1,ch,hg⟩:=hu;refine⟨_,⟨a,ca,v',k1,rfl⟩,ch.mono (λ_ _ q=>.inl q),λk hk=>?_⟩;rcases hk with (hk|hk)|hk
 ·exact .inl (.inl (.inl hk))
 ·rcases hg k hk with q|q
  ·exact .inl (.inl (.inr q))
  ·exact .inr q
 ·exact .inl (.inr hk)
theorem ahb {SH:I->Nat->Nat->af->aH->Prop}(H:jF SH)(T:V9 SH):abD SH ZX where
 own:=by
  rintro w B b G c ⟨a,ca,v,h,rfl⟩ k hk;rcases hk with (rfl|hk)|⟨z,hz,rfl⟩
  ·exact⟨h.bB,h.tb.lt⟩
  ·exact h.row.lt k hk
  ·exact h.al z hz
 aF:=by
  rintro w w' B b G c A ⟨a,ca,v,h,rfl⟩ hc hn;exact⟨a,ca,v,h.aF hc (hn b (.inl (.inl rfl))) (λg hg=>hn g (.inl (.inr hg))) (λz hz=>hn z.block (.inr ⟨z,hz,rfl⟩)),rfl⟩
 bad:=λt a ca q hs hsl he=>acw t a ca hs hsl he
 new:=by
  intro w B' q F s t a ca hs hsl he h hk hB;refine(acz H t a ca hs hsl he h hk hB).mono ?_;rintro e w' ⟨⟨b,a',c',rfl,k⟩,hb⟩;exact⟨⟨b,_,rfl,a',c',_,k,rfl⟩,hb⟩
 next:=by
  rintro w B b G c B' q F s N ⟨a,ca,v,h,rfl⟩ hg hN hs hk hB hB' hF now;have hcn:=hg.cn;have hb:=hg.bo;refine(YR H T h hs hk hB' hB (λk z y=>hF k z (.inl y)) hg.waits (by omega) hg.filt hg.small.filt (by omega) (ajA hg.len hN) (λp hp=>by have:=hg.nth p hp;omega) now).mono ?_;rintro e w' ⟨he,hu⟩;exact⟨he,ZX.did hu⟩
 answer:=by
  rintro w B b G c N ⟨a,ca,v,h,rfl⟩ hg hN now q so n;have hb:=hg.bo;refine(UG h hg.ok hg.waits (by omega) (by have:=hg.len;omega) now q so n).mono ?_;rintro e w' ⟨he,hu⟩;exact⟨he,ZX.did hu⟩
 done:=by
  rintro w B b G c N ⟨a,ca,v,h,rfl⟩ hg hN n;exact acE h hg.ok (by have:=hg.len;omega) n
 taker:=by
  rintro w B b G c N ⟨a,ca,v,h,rfl⟩ hg;exact Uw h hg.small (by have:=hg.bo;omega)
theorem more:More Has:={
 works:=works
 cut:=λn size hn h ht _ _=>aaI n size hn h ht
 list:=λh ht _ _=>ZV h ht}
theorem lists:Lists Has:={
 list:=λh ht _ _=>ZW h ht
 reads:=λn hn h _ _ _=>(IY n hn h).mono (λe w' ⟨h1,h2⟩=>⟨h1,by subst h2;exact agP _ _⟩)
 tries:=λn s h ht hm hs _=>zn n s h ht hm hs
 drops:=λn hn h ht _ _=>yQ n hn h ht}
theorem und:Af Has rO:=⟨more,Y8 more lists,agB⟩
theorem aiX:dS fK rO (RHx Has rO) ZX:=⟨UQ,ZG und news agF UQ,adt und,ahb UQ ahM⟩
theorem treads:oQ uG where
 parse:=λs w hs hg=>(UL s w hs hg).mono λ_ _ ⟨a,c,h1,h2,h3,_⟩=>⟨a,c,h1,h2,h3⟩
theorem afG:oH fK:=agC λh=>h
theorem ahc {W : World} {l : List (String × DataW Unit)} (h : laidMet Tryz.prog l W) (h1 : ("rillbook/plan.bounds", Rows.laid_rillbook_plan_bounds) ∈ l) (h2 : ("rillbook/taker.order", Rows.laid_rillbook_taker_order) ∈ l) : U4 fK uG W := fun _ hb => ⟨(agq h h1).next hb, (agr h h2).next hb⟩
end Go.Proofs.YtebofkkfbkodiaaGreatDoor.Dk
namespace Go.Proofs.YtebofkkfbkodiaaGreatDoor.Dk.topPulls
open Go.Proofs.Tryz
theorem tables {W:I}(h:laidMetH prog Rows.topPullsRow.laid W):U4 fK uG W:=by
 have h':laidMet prog Rows.topPullsRow.laid W:=h;exact ahc h' (by simp[Rows.topPullsRow]) (by simp[Rows.topPullsRow])
theorem card:Rows.TopPullsCardSaid:=afF aiX afG treads tables
end Go.Proofs.YtebofkkfbkodiaaGreatDoor.Dk.topPulls
