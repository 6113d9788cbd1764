/- A part. -/
import Derived.Test.YtebofkkfbkodiaaGreatDoorQ14
import Derived.Test.YtebofkkfbkodiaaGreatDoorQ24
import Derived.Test.YtebofkkfbkodiaaGreatDoorQ36
set_option maxRecDepth 100000
set_option maxHeartbeats 8000000
namespace Go.Proofs.YtebofkkfbkodiaaGreatDoor
open Go.RowKit Go.Proofs.Tryz
namespace Dk
variable {l:List Rc}{b k:Nat}{u2 u3:Value}{r:Rc}
theorem bI.own0 {w:I}{B:Nat}{v:Value}(h:bI w B v l){a:Option Addr}{c:Nat}(hv:v=.slice a l.length c){z:Addr}(hz:a=some z):v.ownBlock=some z.block:=by
 rcases h.2 with ⟨h1,_⟩|⟨g,cap,cur,h1,_⟩
 ·rw[hv] at h1;rw[(akE h1).1] at hz;cases hz
 ·rw[hv] at h1;have e:=(akE h1).1;rw[hz] at e;obtain rfl:=ajU e;rw[hv,hz];rfl
theorem Opn.opened {Has:I->Nat->Nat->af->Int->List aB->Prop}(H:Works Has){w w1 w':I}{B q:Nat}{F:af}{m size:Int}{es0 es:List aB}{ov:Value}{a0:Option Addr}{out:List Rc}{ns:List Int}(h0:Has w B q F m es0)(hb:ai w w1)(hg1:w.heap.size<w1.heap.size)(hB:B<=w.heap.size)
 (c0:w1.cell? (aq w.heap.size 0)=some (ae q)) (c1:w1.cell? (aq w.heap.size 1)=some (aa size)) (h:Opn Has w1 w' B q F m ov a0 es out ns) :
 ∃a c F',ov=.slice a out.length c/\H6 w' a out/\(∀z,a=some z->w.heap.size<=z.block/\z.block<w'.heap.size/\¬F' z.block)/\jH Has w.heap.size size w' B q F' m es/\aA F w w'/\∀k,F' k->F k\/w.heap.size<=k:=by
 obtain⟨⟨F',r1,r2,r3,r4⟩,hA,_,_⟩:=h;have hF:¬F w.heap.size:=λz=>by have:=(H.own h0 _ z).2;omega
 have hF':¬F' w.heap.size:=λz=>by
  rcases r3 _ z with y|y
  ·exact hF y
  ·omega
 obtain⟨a,c,hv,_,_,hs⟩:=hA.shape;refine⟨a,c,λk=>F' k\/k=w.heap.size,hv,hs,λz hz=>?_,⟨F',r1,⟨hB,ajz hg1 r2.size⟩,hF',?_,?_,λk=>alJ⟩,(aA.of_below hb).trans r2,λk hk=>?_⟩
 ·have ho:=hA.own0 hv hz;have hl:=aks hA _ ho;refine⟨by omega,hl.2,λy=>?_⟩;rcases y with y|y
  ·exact(r4 _ (.inl ho)).2 y
  ·omega
 ·rw[r2.cell (p:=aq w.heap.size 0) hg1 hF];exact c0
 ·rw[r2.cell (p:=aq w.heap.size 1) hg1 hF];exact c1
 ·rcases hk with y|y
  ·rcases r3 k y with z|z
   ·exact .inl z
   ·exact .inr (by omega)
  ·exact .inr (by omega)
theorem JO {w:I}{q B:Nat}(size:Int)(hz:eX size 1 4096=false)(hB:B<=w.heap.size) :
 Calls prog 168 #[ae q,aa size] w λe w'=>(∃a c,e=.returned (.tuple #[.pointer none,.slice a 0 c,aa 1]))/\Below B w w':=by
 by_cases h1:size<1
 ·have hd:decide (size<1)=true:=ajH h1;go_enter func168,ntmps168;go_wp2_with fail;go_ret3;exact⟨⟨_,_,rfl⟩,(agP _ _).mono hB⟩
 ·have hd:decide (size<1)=false:=ajE h1;have h2:4096<size:=by
   simp[eX] at hz;omega
  have hd2:decide (4096<size)=true:=ajH h2;clear hz;go_enter func168,ntmps168;go_wp2_with fail;go_ret3;exact⟨⟨_,_,rfl⟩,(agP _ _).mono hB⟩
theorem Y7 {Has:I->Nat->Nat->af->Int->List aB->Prop}(H:More Has)(HS:Lists Has){w:I}{B q:Nat}{F:af}{m:Int}{es:List aB}(size:Int)(hz:eX size 1 4096=true)(h:Has w B q F m es)(ht:Tidy m es)(hm:m<=65536)(hB:B<=w.heap.size) :
 Calls prog 168 #[ae q,aa size] w λe w'=>∃g a c F',e=.returned (.tuple #[ae g,.slice a (dh es).1.length c,aa 0])/\H6 w' a (dh es).1/\(∀z,a=some z->w.heap.size<=z.block/\z.block<w'.heap.size/\¬F' z.block)/\jH Has g size w' B q F' m (dh es).2/\aA F w w'/\∀k,F' k->F k\/w.heap.size<=k:=by
 have hz2:1<=size/\size<=4096:=by simpa[eX] using hz
 have hd:decide (size<1)=false:=ajE (by omega);have hd2:decide (4096<size)=false:=ajE (by omega);have HH:=aj h;have HT:=aj ht;clear h ht hz hz2;have hb0:ai w (w.alloc (.cells #[ae q,aa size] 278)):=ax _ _;have hS:=akv w (.cells #[ae q,aa size] 278);have c0:=(aky _ w.heap.size 0 _ _ _ hS).trans (show _=some (Value.pointer (some ⟨q,0,none⟩)) from rfl);have c1:=(aky _ w.heap.size 1 _ _ _ hS).trans (show _=some (Value.int .i64 size) from rfl)
 have PR:=aj (Y6 H HS (H.works.aF (A:=λ_=>False) (ah HH) (aA.of_below hb0) (λ_ _ z=>z)) (ah HT) hm (ajA hB hb0.size));have HO:=aj (λw' ov a=>Opn.opened (w':=w') (ov:=ov) (a0:=a) (es:=(dh es).2) (out:=(dh es).1) (ns:=aW es) H.works (ah HH) hb0 (by simp) hB c0 c1);clear hb0 hS c0 c1;go_enter func168,ntmps168;go_wp2_with fail;refine(ah PR).mono ?_;rintro e w2 ⟨ov,a0,rfl,o2⟩;obtain⟨a,c,F',rfl,o3⟩:=ah HO _ _ _ o2;have O3:=aj o3;clear o2 o3 HO PR;go_wp2_with fail;go_ret3;exact⟨w.heap.size,a,c,F',rfl,ah O3⟩
theorem Y8 {Has:I->Nat->Nat->af->Int->List aB->Prop}(H:More Has)(HS:Lists Has):Eu Has (jH Has):={
 looks:=jH.looks H
 down:=λh=>h.down
 bad:=λsize hz _ _ _ hB=>JO size hz hB
 good:=λsize hz h ht hm hB=>Y7 H HS size hz h ht hm hB
 append:=λr hs _ h ht hm hB=>by
  obtain⟨F0,hr,c0,c1,_,hfin⟩:=h.begin;refine(hr.Si (λF' hF hC=>Qo H HS r hs hF ht hm hB c0 c1 (hC _ rfl))).mono ?_;rintro e w' ⟨h1,h2,_⟩;exact⟨h1,hfin _ _ h2⟩
 sync:=λ_ h ht hm hB=>by
  obtain⟨F0,hr,c0,_,_,hfin⟩:=h.begin;refine(hr.Si (λF' hF hC=>JB H HS hF ht hm hB c0 (hC _ rfl))).mono ?_;rintro e w' ⟨h1,h2,_⟩;exact⟨h1,hfin _ _ h2⟩
 blocks:=λ_ h ht hm hB=>by
  obtain⟨F0,hr,c0,_,_,hfin⟩:=h.begin;obtain⟨F',h1,_⟩:=id hr;refine(CO HS h1 ht hm hB c0).mono ?_;rintro e w' ⟨a,c,he,_,hs,_,hb⟩;exact⟨a,c,he,hs,hfin _ _ (hr.below H.works hb).1⟩}
theorem Gp:∀(f:Nat) (l:List UInt8),∀x∈(scan f l).1,Small x
 | 0,_,x,h=>by cases h
 | f+1,l,x,h=>by
  by_cases h0:l.length=0
  ·rw[scan,if_pos h0] at h;cases h
  ·by_cases hd:(Pk.dec l).2.2=0
   ·rw[scan_ok h0 hd] at h;rcases akb.1 h with y|y
    ·rw[y];exact Small.dec hd
    ·exact Gp f _ x y
   ·rw[scan_bad h0 hd] at h;cases h
theorem CS:∀es:List aB,∀x∈(dh es).1,Small x
 | [],x,h=>by cases h
 | e::r,x,h=>by
  cases hs:kD e.text with
  | mk rs o =>
   have h1:∀x∈rs,Small x:=λx hx=>Gp _ _ x (by unfold kD at hs;rw[hs];exact hx)
   cases o with
   | none =>
    rw[tJ hs] at h;rcases akg.1 h with y|y
    ·exact h1 x y
    ·exact CS r x y
   | some k=>rw[Am hs] at h;exact h1 x h
theorem acF (h:∀x∈l,Small x)(hk:k<l.length):Small (rc l k):=by rw[bU hk];exact h _ (ako hk)
theorem UH (h:k<l.length):pI (l.take (k+1))=kV (pI (l.take k)) (rc l k):=by
 rw[akc h,Fa,bU h]
def RI (SH:I->Nat->Nat->af->aH->Prop)(w wr:I)(c:Nat)(s:aH):Prop:=∃G,SH wr w.heap.size c G s/\ai w wr
section
variable {SH:I->Nat->Nat->af->aH->Prop}{w wr w':I}{c:Nat}{s s':aH}
theorem RI.bl (h:RI SH w wr c s):ai w wr:=by obtain⟨G,_,h2⟩:=h;exact h2
theorem RI.room (h:RI SH w wr c s):w.heap.size<=wr.heap.size:=h.bl.size
theorem RI.below (S:eG SH)(h:RI SH w wr c s)(hb:ai wr w'):RI SH w w' c s:=by
 have hr:=h.room;obtain⟨G,h1,h2⟩:=h;exact⟨G,S.aF (A:=λ_=>False) h1 (aA.of_below hb) (λ_ _ z=>z),h2.trans (hb.mono hr)⟩
theorem RI.apply (S:eG SH)(h:RI SH w wr c s)(hk:s.Ok)(r:Rc)(hr:Small r) :
 Calls prog 147 #[ae c,.agg #[aa r.k,aa r.q,aa r.t,.string r.s,.string r.h,.string r.d]] wr λe w'=>e=.returned (aa (fF s r))/\RI SH w w' c (kV s r):=by
 have hro:=h.room;obtain⟨G,h1,h2⟩:=h;refine(S.apply r hr h1 hk hro).mono ?_;rintro e w' ⟨he,G',a1,a2,_⟩;exact⟨he,G',a1,h2.trans (a2.below hro (λk hk z=>by have:=(S.own h1 k z).1;omega))⟩
end
section
variable {Has:I->Nat->Nat->af->Int->List aB->Prop}{SH:I->Nat->Nat->af->aH->Prop}{w w1 wr:I}{B x o q g c:Nat}{F F':af}{m size:Int}{es:List aB}{s:aH}
def Opd (Has:I->Nat->Nat->af->Int->List aB->Prop)(SH:I->Nat->Nat->af->aH->Prop)(w w':I)(B x o q:Nat)(F:af)(m size:Int)(es:List aB)(s:aH):Prop :=
 ∃g c FL G,Va Has SH w' B x o q g c FL G m size es s/\aA (λk=>F k\/k=x) w w'/\(∀k,FL k\/G k->F k\/w.heap.size<=k)/\Na o x w w'
theorem RI.opd (H:More Has)(S:eG SH)(hx:B<=x/\x<w.heap.size)(hB:B<=w.heap.size)(hF:¬F x)(hc:aA F w w1)(hF':∀k,F' k->F k\/w.heap.size<=k)(hl:jH Has g size w1 B q F' m es)(hs:RI SH w1 wr c s)
 (c0:w.cell? (aq x o)=some (ae q)) (c1:w.cell? (aq x (o+1))=some (aa size)) (c2:w.cell? (aq x (o+2))=some u2) (c3:w.cell? (aq x (o+3))=some u3) (fr:∀j,w.frozen? (aq x j)=false) :
 Opd Has SH w ((wr.setCell (aq x (o+2)) (ae g)).setCell (aq x (o+3)) (ae c)) B x o q F m size es s:=by
 obtain⟨G,h1,h2⟩:=hs;have hx1:x<w1.heap.size:=ajz hx.2 hc.size;have hxr:x<wr.heap.size:=ajz hx1 h2.size;have hfl:¬F' x:=λz=>by
  rcases hF' x z with y|y
  ·exact hF y
  ·omega
 have hgx:¬G x:=λz=>by have:=(S.own h1 x z).1;omega
 have e:∀j,wr.cell? (aq x j)=w.cell? (aq x j):=λj=>(h2.cell (p:=aq x j) hx1).trans (hc.cell (p:=aq x j) hx.2 hF)
 have ef:∀j,wr.frozen? (aq x j)=false:=λj=>by
  rw[h2.frozen (p:=aq x j) hx1,hc.frozen (p:=aq x j) hx.2 hF];exact fr j
 have cs:aA (λk=>k=x) wr ((wr.setCell (aq x (o+2)) (ae g)).setCell (aq x (o+3)) (ae c)):=((aA.refl _ _).setCell (A:=λk=>k=x) (p:=aq x (o+2)) (.inl rfl) _).setCell (A:=λk=>k=x) (p:=aq x (o+3)) (.inl rfl) _;have hlr:=(jH.looks H g size).aF (A:=λ_=>False) hl (aA.of_below h2) (λ_ _ z=>z);refine⟨g,c,F',G,⟨(jH.looks H g size).aF hlr cs (λk hk z=>by subst z;exact hfl hk),S.low (S.aF h1 cs (λk hk z=>by subst z;exact hgx hk)) (ajA hB hc.size),hx.1,ajz hxr cs.size,?_,?_,?_,?_,λj=>?_,λk hk z=>?_,hfl,hgx⟩,?_,λk hk=>?_,λj hj=>?_⟩
 ·rw[ajD _ _ _ _ (by simp),ajD _ _ _ _ (by simp),e];exact c0
 ·rw[ajD _ _ _ _ (by simp),ajD _ _ _ _ (by simp),e];exact c1
 ·rw[ajD _ _ _ _ (by simp)];exact akf _ _ _ ((e (o+2)).trans c2)
 ·refine akf _ _ _ (u:=u3) ?_;rw[ajD _ _ _ _ (by simp),e];exact c3
 ·rw[ajV,ajV];exact ef j
 ·have:=((jH.looks H g size).own hl k hk).2;have:=(S.own h1 k z).1;omega
 ·refine kP (A:=λk=>F k\/k=x) ((hc.mono (λk _ z=>.inl z)).trans (aA.of_below (A:=λk=>F k\/k=x) h2)) cs (λi _ z=>.inr z)
 ·rcases hk with z|z
  ·exact hF' k z
  ·right;have:=(S.own h1 k z).1;have:=hc.size;omega
 ·rw[ajD _ _ _ _ (by simp<;>omega),ajD _ _ _ _ (by simp<;>omega),e]
theorem Gq {w:I}{x o:Nat}{u:Addr}(c0:w.cell? (aq x o)=some (.pointer (some u))) :
 Calls prog 114 #[.pointer (some ⟨x,o,none⟩)] w λe w'=>e=.returned (.tuple #[])/\w'=w:=by
 go_enter func114,ntmps114;go_wp2_with fail;go_end0
 exact⟨rfl,rfl⟩
abbrev At2 (x o q:Nat)(size:Int)(w:I):Prop:=w.cell? (aq x o)=some (ae q)/\w.cell? (aq x (o+1))=some (aa size)
theorem At2.below {w w':I}(h:At2 x o q size w)(hx:x<w.heap.size)(hb:ai w w'):At2 x o q size w':=⟨(hb.cell (p:=aq x o) hx).trans h.1,(hb.cell (p:=aq x (o+1)) hx).trans h.2⟩
theorem At2.aF {w w':I}(h:At2 x o q size w)(hx:x<w.heap.size)(hc:aA F w w')(hn:¬F x):At2 x o q size w':=⟨(hc.cell (p:=aq x o) hx hn).trans h.1,(hc.cell (p:=aq x (o+1)) hx hn).trans h.2⟩
theorem Y9 {w:I}(hz:eX size 1 4096=false)(hx:x<w.heap.size)(c0:w.cell? (aq x o)=some (ae q))(c1:w.cell? (aq x (o+1))=some (aa size)) :
 Calls prog 134 #[.pointer (some ⟨x,o,none⟩)] w λe w'=>e=.returned (aa 1)/\ai w w':=by
 have bd:ai w w.drew:=(agP _ _).drew;have k0:At2 x o q size w.drew:=At2.below ⟨c0,c1⟩ hx bd;have P:=aj (JO (w:=w.drew) (q:=q) (B:=w.drew.heap.size) size hz (agH _));have HX:=aj (λw1 (b:Below w.drew.heap.size w.drew w1)=>k0.below (ajz hx bd.size) b);have HB:=aj (λw1 (b:Below w.drew.heap.size w.drew w1)=>bd.trans (b.mono bd.size));clear hz bd;go_enter func134,ntmps134;go_wp2_with fail;go_region_held3 (At2 x o q size) (first|assumption|go_keep)
  (first
   | (go_at_call 168;refine(ah P).mono ?_;rintro e w1 ⟨⟨a,k,rfl⟩,b1⟩;have k1:=ah HX w1 b1))
 have B1:=aj (ah HB w1 b1);clear P HX HB b1 k0 k1;go_wp2_with fail;go_ret;exact⟨rfl,ah B1⟩
theorem Za (H:More Has)(L:Eu Has (jH Has))(S:eG SH)(hz:eX size 1 4096=true)(h:Has w B q F m es)(ht:Tidy m es)(hm:m<=65536)(hB:B<=w.heap.size)(hx:B<=x/\x<w.heap.size)(hF:¬F x)(c0:w.cell? (aq x o)=some (ae q))(c1:w.cell? (aq x (o+1))=some (aa size))(c2:w.cell? (aq x (o+2))=some u2)(c3:w.cell? (aq x (o+3))=some u3)(fr:∀j,w.frozen? (aq x j)=false) :
 Calls prog 134 #[.pointer (some ⟨x,o,none⟩)] w λe w'=>e=.returned (aa 0)/\Opd Has SH w w' B x o q F m size (dh es).2 (pI (dh es).1):=by
 have bd:ai w w.drew:=(agP _ _).drew;have cd:aA F w w.drew:=aA.of_below bd;have k0:At2 x o q size w.drew:=At2.below ⟨c0,c1⟩ hx.2 bd;have P:=aj (L.good size hz (H.works.aF (A:=λ_=>False) h (aA.of_below bd) (λ_ _ z=>z)) ht hm (ajA hB bd.size));have hlen:(dh es).1.length<=200000:=by
  have:=Ap es;have:=ht.fits;omega
 have hsm:=CS es;have HO:Hid (∀(w1 wr:I) (g c:Nat) (F':af),aA F w w1->(∀k,F' k->F k\/w.drew.heap.size<=k)->jH Has g size w1 B q F' m (dh es).2->RI SH w1 wr c (pI (dh es).1)->Opd Has SH w ((wr.setCell (aq x (o+2)) (ae g)).setCell (aq x (o+3)) (ae c)) B x o q F m size (dh es).2 (pI (dh es).1)):=aj (λw1 wr g c F' hc hF' hl hs=>hs.opd H S hx hB hF hc hF' hl c0 c1 c2 c3 fr);obtain⟨es2,he2⟩:∃z,z=(dh es).2:=⟨_,rfl⟩;obtain⟨l,he1⟩:∃z,z=(dh es).1:=⟨_,rfl⟩;rw[<-he2,<-he1] at P HO ⊢;rw[<-he1] at hlen hsm;clear he1 he2;have HX:=aj (λw1 (hc:aA F w w1)=>And.intro (hc.cell (p:=aq x (o+2)) hx.2 hF) (And.intro (hc.cell (p:=aq x (o+3)) hx.2 hF) (And.intro (hc.frozen (p:=aq x (o+2)) hx.2 hF) (hc.frozen (p:=aq x (o+3)) hx.2 hF))))
 have HY:=aj (λw1 (hc:aA F w.drew w1)=>And.intro (cd.trans hc) (k0.aF (ajz hx.2 bd.size) hc hF));have f2:=fr (o+2);have f3:=fr (o+3);have hx2:=hx.2;have HM:=aj hsm;clear h ht hz hF hx hsm fr bd cd;go_enter func134,ntmps134;go_wp2_with fail;go_region_held3 (At2 x o q size) (first|assumption|go_keep)
  (first
   | (go_at_call 168;refine(ah P).mono ?_;rintro e w1 ⟨g,a,k,F',rfl,hsl,ha,hl,hc0,hF'⟩;obtain⟨hc,k1⟩:=ah HY w1 hc0))
 obtain⟨d2,d3,e2,e3⟩:=ah HX w1 hc;rw[c2] at d2;rw[c3] at d3;rw[f2] at e2;rw[f3] at e3;have hx1:x<w1.heap.size:=ajz hx2 hc.size;have VO:=aj hsl;have HO1:=aj (λwr c=>ah HO w1 wr g c F' hc hF' hl);clear P HO HX HY hsl ha hl hc hc0 k0 k1 hF' c0 c1 c2 c3 f2 f3 hx2;go_wp2_with fail;refine(S.new w1).mono ?_;rintro e w2 ⟨c,G,rfl,h2,b2⟩;have M2:Hid (RI SH w1 w2 c (pI (l.take 0))):=aj ⟨G,h2,b2⟩;clear h2 b2;go_wp2_with fail;go_loopw [28] (λiv wr=>∃(k:Nat),iv=aa k/\k<=l.length/\Hid (RI SH w1 wr c (pI (l.take k)))) (λiv _=>l.length-(intOf iv).toNat)
 case atStart=>exact⟨0,rfl,ajO _,M2⟩
 case round =>
  clear M2;obtain⟨k,rfl,hkl,M2⟩:=hrel;by_cases hlt:k<l.length
  ·obtain⟨ga,o,rfl,s6⟩:=ah VO k hlt;have s7:Six wr ga (o+k*6) (rc l k):=s6.below (ah M2).bl s6.lt;have hsm:=acF (ah HM) hlt;have hft:=UH hlt;obtain⟨r,hr⟩:∃r,r=rc l k:=⟨_,rfl⟩;rw[<-hr] at s7 hsm hft;obtain⟨_,x0,x1,x2,x3,x4,x5⟩:=s7;have M3:=aj ((ah M2).below S ((agP _ _).alloc (agH _) (.cells #[aa r.k,aa r.q,aa r.t,.string r.s,.string r.h,.string r.d] 46)));have PA:=aj ((ah M3).apply S (OQ _) r hsm);rw[<-hft] at PA;clear hr hft s6 M2 M3;go_wp2_with fail;refine(ah PA).mono ?_;rintro e w4 ⟨rfl,m4⟩;have M4:=aj m4;clear m4 PA x0 x1 x2 x3 x4 x5
   go_wp2_with fail;refine⟨⟨k+1,by go_num,by omega,M4⟩,?_⟩;simp[intOf];omega
  ·obtain rfl:k=l.length:=by omega
   have M3:Hid (RI SH w1 wr c (pI l)):=by
    have:=M2;rw[akT] at this;exact this
   have hb:=(ah M3).bl;have g2:=(hb.cell (p:=aq x (o+2)) hx1).trans d2;have g3:=(hb.cell (p:=aq x (o+3)) hx1).trans d3;have k2:=(hb.frozen (p:=aq x (o+2)) hx1).trans e2;have k3:=(hb.frozen (p:=aq x (o+3)) hx1).trans e3;have hxr:=ajz hx1 hb.size;have HE:=aj (ah HO1 wr c (ah M3));clear M2 M3 hlt hb d2 d3 e2 e3 HO1;go_wp2_with fail;go_ret;exact⟨rfl,ah HE⟩
end
abbrev At7 (x j c b:Nat)(r:Rc)(w:I):Prop:=w.cell? (aq x j)=some (ae c)/\w.cell? (aq b 0)=some (aa r.k)/\w.cell? (aq b 1)=some (aa r.q)/\w.cell? (aq b 2)=some (aa r.t)/\w.cell? (aq b 3)=some (.string r.s)/\w.cell? (aq b 4)=some (.string r.h)/\w.cell? (aq b 5)=some (.string r.d)
theorem at7 {w:I}{x j c:Nat}(h:RB w b r.k r.q r.t r.s r.h r.d)(h0:w.cell? (aq x j)=some (ae c)):At7 x j c b r w:=⟨h0,h.c0,h.c1,h.c2,h.c3,h.c4,h.c5⟩
theorem Gs {Cs:af}{w w':I}{k q t:Int}{s h d:ad}(r:RB w b k q t s h d)(hs:gu Cs w w')(hb:Cs b):RB w' b k q t s h d :=
 ⟨ajz r.lt hs.1,by rw[hs.cell hb];exact r.c0,by rw[hs.cell hb];exact r.c1,by rw[hs.cell hb];exact r.c2,by rw[hs.cell hb];exact r.c3,by rw[hs.cell hb];exact r.c4,by rw[hs.cell hb];exact r.c5,λj=>by rw[World.frozen?_of_block (w:=w) (hs.2 b hb)];exact r.fr j⟩
theorem Zc {es:List aB}{m size:Int}(h:(jS es m size r).1≠0):(jS es m size r).2=es:=by
 by_cases z:(lu es m size r).1=0
 ·rw[vC z] at h;exact absurd z h
 ·rw[og z]
theorem agw {es:List aB}{s:aH}{m size:Int}(h:fF s r≠0):ji es s m size r=fF s r/\wM es s m size r=es/\oV es s m size r=s:=by
 have e:ji es s m size r=fF s r:=by unfold ji;rw[if_pos h]
 refine⟨e,?_,?_⟩
 ·unfold wM;rw[e,if_neg h]
 ·unfold oV;rw[e,if_neg h]
theorem agx {es:List aB}{s:aH}{m size:Int}(h:fF s r=0)(h1:(jS es m size r).1≠0):ji es s m size r=(jS es m size r).1/\wM es s m size r=es/\oV es s m size r=s:=by
 have e:ji es s m size r=(jS es m size r).1:=by unfold ji;rw[if_neg (by rw[h];simp)]
 refine⟨e,?_,?_⟩
 ·unfold wM;rw[e,if_neg h1]
 ·unfold oV;rw[e,if_neg h1]
theorem agy {es:List aB}{s:aH}{m size:Int}(h:fF s r=0)(h1:(jS es m size r).1=0):ji es s m size r=0/\wM es s m size r=fE (jS es m size r).2/\oV es s m size r=kV s r:=by
 have e:ji es s m size r=0:=by unfold ji;rw[if_neg (by rw[h];simp)];exact h1
 refine⟨e,?_,?_⟩
 ·unfold wM;rw[e,if_pos rfl]
 ·unfold oV;rw[e,if_pos rfl]
section
variable {Has:I->Nat->Nat->af->Int->List aB->Prop}{SH:I->Nat->Nat->af->aH->Prop}{w:I}{B x o:Nat}{F:af}{m size:Int}{es:List aB}{s:aH}
theorem afg (H:More Has)(L:Eu Has (jH Has))(S:eG SH)(r:Rc)(hr:Small r)(h:ql Has SH o w B x F m size es s)(hv:zu m es s)(hm:m<=65536)(hz:eX size 1 4096=true)(hB:B<=w.heap.size) :
 Calls prog 105 #[.pointer (some ⟨x,o,none⟩),.agg #[aa r.k,aa r.q,aa r.t,.string r.s,.string r.h,.string r.d]] w λe w'=>e=.returned (aa (ji es s m size r))/\aer Has SH o w w' B x F m size (wM es s m size r) (oV es s m size r):=by
 obtain⟨q,g,c,r0,hfin⟩:=h.begin;have HF:=aj hfin;have HV:=aj hv;have HZ:=aj hz;have hal:ai w (w.alloc (.cells #[aa r.k,aa r.q,aa r.t,.string r.s,.string r.h,.string r.d] 46)):=ax _ _;have R1:=aj (r0.mine H S (yI:=λk=>k=w.heap.size) hal (λk hk=>.inr ⟨by omega,by subst hk;simp⟩));have C1:=aj (RB.new w r.k r.q r.t r.s r.h r.d 46);have PB:=aj (Gq (ah R1).cells.1);clear h r0 hfin hv hal hz;go_enter func105,ntmps105;go_wp2_with fail;refine(ah PB).mono ?_;rintro e w1 ⟨rfl,rfl⟩;generalize w.alloc (.cells #[aa r.k,aa r.q,aa r.t,.string r.s,.string r.h,.string r.d] 46)=w1 at *
 have R2:=aj ((ah R1).below H S (agP _ _).drew);have C2:=aj ((ah C1).next (agP _ _).drew);have k2:=at7 (ah C2) (ah R2).cells.2.2.2.1;have PT:=aj (show Calls prog 144 #[ae c,.agg #[aa r.k,aa r.q,aa r.t,.string r.s,.string r.h,.string r.d]] _ λe w'=>e=.returned (aa (fF s r))/\Below _ _ w' from by
  obtain⟨FL,G,h1,_⟩:=ah R2;exact S.tries r hr h1.zx (ah HV).ok (ajA hB (ah R2).room))
 obtain⟨E,hE⟩:∃E,fF s r=E:=⟨_,rfl⟩;rw[hE] at PT;have HE:=aj hE;clear PB R1 C1 hE;go_wp2_with fail;go_region_held3 (At7 x (o+3) c w.heap.size r) (first|assumption|go_keep)
  (first
   | (go_at_call 144;refine(ah PT).mono ?_;rintro e w3 ⟨rfl,b3⟩;have R3:=aj ((ah R2).below H S b3);have C3:=aj ((ah C2).next b3);have k3:=at7 (ah C3) (ah R3).cells.2.2.2.1;clear b3))
 clear k2 k3 PT R2 C2;by_cases h0:E=0
 ·have HT:=aj ((ah HE).trans h0);subst h0;have R4:=aj ((ah R3).below H S (agP _ _).drew);have C4:=aj ((ah C3).next (agP _ _).drew);have k4:=at7 (ah C4) (ah R4).cells.2.2.1;have PA:=aj ((ah R4).upd S (λFL hFL _=>L.append r hr (ah HZ) hFL (ah HV).tidy hm (ajA hB (ah R4).room)));obtain⟨E2,hE2⟩:∃E,(jS es m size r).1=E:=⟨_,rfl⟩;rw[hE2] at PA;have HE2:=aj hE2;clear HE R3 C3 hE2;go_wp2_with fail;go_region_held3 (At7 x (o+2) g w.heap.size r) (first|assumption|go_keep)
   (first
    | (go_at_call 145;refine(ah PA).mono ?_;rintro e w5 ⟨rfl,r5,s5⟩;have R5:=aj r5;have C5:=aj (Gs (ah C4) s5 rfl);have k5:=at7 (ah C5) (ah R5).cells.2.2.1;clear r5 s5))
  clear k4 k5 PA R4 C4;by_cases h1:E2=0
  ·obtain⟨e1,e2,e3⟩:=agy (ah HT) ((ah HE2).trans h1);subst h1;have HR:=aj (And.intro e1 (And.intro e2 e3));have x2:=(ah R5).cells.2.2.1;have PS:=aj ((ah R5).upd S (λFL hFL _=>L.sync (ah HZ) hFL ((ah HV).tidy.logp size r) hm (ajA hB (ah R5).room)));clear e1 e2 e3 HE2 HT;go_wp2_with fail;refine(ah PS).mono ?_;rintro e w6 ⟨rfl,r6,s6⟩;have R6:=aj (r6.below H S (agP _ _).drew);have C6:=aj ((Gs (ah C5) s6 rfl).next (agP _ _).drew);have k6:=at7 (ah C6) (ah R6).cells.2.2.2.1;have PD:=aj ((ah R6).did H (λG hG=>S.apply r hr hG (ah HV).ok (ajA hB (ah R6).room)))
   clear PS R5 C5 x2 r6 s6;go_wp2_with fail;go_region_held3 (At7 x (o+3) c w.heap.size r) (first|assumption|go_keep)
    (first
     | (go_at_call 147;refine(ah PD).mono ?_;rintro e w7 ⟨rfl,r7,s7⟩;have R7:=aj r7;have C7:=aj (Gs (ah C6) s7 rfl);have k7:=at7 (ah C7) (ah R7).cells.2.2.2.1;clear r7 s7))
   clear k6 k7 PD R6 C6;go_wp2_with fail;go_ret;obtain⟨e1,e2,e3⟩:=ah HR;rw[e1,e2,e3];exact⟨rfl,ah HF _ _ _ _ _ _ (ah R7)⟩
  ·obtain⟨e1,e2,e3⟩:=agx (ah HT) (by rw[ah HE2];exact h1);have e4:=Zc (es:=es) (m:=m) (size:=size) (r:=r) (by rw[ah HE2];exact h1);have R6:Hid (Rv Has SH F (λk=>k=w.heap.size) w w5 B x o q g c m size es s):=by
    have:=R5;rw[e4] at this;exact this
   rw[ah HE2] at e1;have HR:=aj (And.intro e1 (And.intro e2 e3));have e5:(E2 !=0)=true:=by simpa using h1
   clear e1 e2 e3 e4 HE2 HT R5;go_wp2_with fail;go_ret;obtain⟨e1,e2,e3⟩:=ah HR;rw[e1,e2,e3];exact⟨rfl,ah HF _ _ _ _ _ _ (ah R6)⟩
 ·obtain⟨e1,e2,e3⟩:=agw (es:=es) (m:=m) (size:=size) (s:=s) (r:=r) (by rw[ah HE];exact h0);rw[ah HE] at e1;have HR:=aj (And.intro e1 (And.intro e2 e3));have e5:(E !=0)=true:=by simpa using h0
  clear e1 e2 e3 HE;go_wp2_with fail;go_ret;obtain⟨e1,e2,e3⟩:=ah HR;rw[e1,e2,e3];exact⟨rfl,ah HF _ _ _ _ _ _ (ah R3)⟩
end
section
variable {Has:I->Nat->Nat->af->Int->List aB->Prop}{SH:I->Nat->Nat->af->aH->Prop}{w:I}{B x o:Nat}{F:af}{m size:Int}{es:List aB}{s:aH}
theorem Gt (h:ql Has SH o w B x F m size es s) :
 Calls prog 69 #[.pointer (some ⟨x,o,none⟩)] w λe w'=>∃q F0,e=.returned (ae q)/\SH w' B q F0 s/\(∀k,F0 k->F k)/\ai w w':=by
 obtain⟨q,g,c,FL,G,h1,h2⟩:=h;have PB:=aj (Gq h1.c0);have x3:=h1.c3;have HE:=aj (show SH w B c G s/\(∀k,G k->F k)/\ai w w from⟨h1.zx,λk hk=>(h2 k).2 (.inr (.inr hk)),agP _ _⟩);clear h1 h2;go_enter func69,ntmps69;go_wp2_with fail;refine(ah PB).mono ?_;rintro e w1 ⟨rfl,rfl⟩;go_wp2_with fail;go_ret;exact⟨c,G,rfl,ah HE⟩
end
section
variable {Has:I->Nat->Nat->af->Int->List aB->Prop}{SH:I->Nat->Nat->af->aH->Prop}
theorem JQ (w:I)(q:Nat)(size:Int):∃W,W=w.alloc (.cells #[ae q,aa size,.pointer none,.pointer none] 132)/\ai w W/\w.heap.size<W.heap.size/\W.cell? (aq w.heap.size 0)=some (ae q)/\W.cell? (aq w.heap.size 1)=some (aa size)/\W.cell? (aq w.heap.size 2)=some (.pointer none)/\W.cell? (aq w.heap.size 3)=some (.pointer none)/\∀j,W.frozen? (aq w.heap.size j)=false:=by
 have hS:=akv w (.cells #[ae q,aa size,.pointer none,.pointer none] 132);refine⟨_,rfl,ax _ _,by simp,(aky _ w.heap.size 0 _ _ _ hS).trans rfl,(aky _ w.heap.size 1 _ _ _ hS).trans rfl,(aky _ w.heap.size 2 _ _ _ hS).trans rfl,(aky _ w.heap.size 3 _ _ _ hS).trans rfl,λj=>akp _ _ _ j⟩
theorem acG (N:Xt Has)(w:I)(m size:Int)(h:(eX m 1 65536&&eX size 1 4096)=false) :
 Calls prog 89 #[aa m,aa size] w λe w'=>e=.returned (.tuple #[.pointer none,aa 1])/\ai w w':=by
 by_cases hm:eX m 1 65536=false
 ·have P:=aj (N.bad w m hm);clear h hm;go_enter func89,ntmps89;go_wp2_with fail;refine(ah P).mono ?_;rintro e w1 ⟨rfl,b1⟩;have B1:=aj b1;clear b1 P;go_wp2_with fail;go_ret2;exact⟨rfl,ah B1⟩
 ·have hm1:eX m 1 65536=true:=by simpa using hm
  have hz:eX size 1 4096=false:=by rw[hm1] at h;simpa using h
  have P:=aj (N.good w m hm1);have HZ:=aj hz;clear h hm hm1 hz;go_enter func89,ntmps89;go_wp2_with fail;refine(ah P).mono ?_;rintro e w1 ⟨q,F,rfl,h1,b1⟩;obtain⟨W,hW,bW,hl,d0,d1,dd⟩:=JQ w1 q size;have PO:=aj (Y9 (ah HZ) hl d0 d1);rw[hW] at PO bW;have B2:=aj (b1.trans (bW.mono b1.size));have hs2:=ajA b1.size bW.size;clear P h1 b1 bW hW hl d0 d1 dd W;go_wp2_with fail;refine(ah PO).mono ?_;rintro e w2 ⟨rfl,b2⟩;have B3:=aj ((ah B2).trans (b2.mono hs2));clear PO b2;go_wp2_with fail;go_ret2;exact⟨rfl,ah B3⟩
theorem Zd (H:More Has)(N:Xt Has)(L:Eu Has (jH Has))(S:eG SH)(w:I)(m size:Int)(hm:eX m 1 65536=true)(hz:eX size 1 4096=true) :
 Calls prog 89 #[aa m,aa size] w λe w'=>∃p F,e=.returned (.tuple #[ae p,aa 0])/\ql Has SH 0 w' w.heap.size p F m size [] ⟨[],0⟩/\ai w w':=by
 have hm2:1<=m/\m<=65536:=by simpa[eX] using hm
 have P:=aj (N.good w m hm);have HZ:=aj hz;have HM:=aj hm2;clear hm hz hm2;go_enter func89,ntmps89;go_wp2_with fail;refine(ah P).mono ?_;rintro e w1 ⟨q,F,rfl,h1,b1⟩;obtain⟨W,hW,bW,hl,d0,d1,d2,d3,fr⟩:=JQ w1 q size;have hF:¬F w1.heap.size:=λz=>by have:=(H.works.own h1 _ z).2;omega
 have PO:=aj (Za (B:=w.heap.size) H L S (ah HZ) (H.works.aF (A:=λ_=>False) h1 (aA.of_below bW) (λ_ _ z=>z)) (Tidy.nil (by have:=(ah HM).1;omega)) (ah HM).2 (ajA b1.size bW.size) ⟨b1.size,hl⟩ hF d0 d1 d2 d3 fr);have HO:=aj (λw' (h:Opd Has SH W w' w.heap.size w1.heap.size 0 q F m size (dh []).2 (pI (dh []).1))=>show ∃F,ql Has SH 0 w' w.heap.size w1.heap.size F m size [] ⟨[],0⟩/\ai w w' from by
  obtain⟨g,c,FL,G,v1,v2,_⟩:=h;refine⟨_,⟨q,g,c,FL,G,v1,λk=>alJ⟩,(b1.trans (bW.mono b1.size)).trans (v2.below (ajA b1.size bW.size) (λk hk z=>?_))⟩;have:=b1.size;rcases z with z|z
  ·have:=(H.works.own h1 k z).1;omega
  ·omega)
 rw[hW] at PO HO;clear P h1 b1 bW hW hl hF d0 d1 d2 d3 fr W;go_wp2_with fail;refine(ah PO).mono ?_;rintro e w2 ⟨rfl,o2⟩;obtain⟨F2,v2,b2⟩:=ah HO _ o2;have B2:=aj (And.intro v2 b2);clear PO HO o2 v2 b2;go_wp2_with fail;go_ret2;exact⟨_,F2,rfl,ah B2⟩
end
