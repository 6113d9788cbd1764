/- A part. -/
import Derived.Test.YtidekgipblnpkaaGreatDoorQ13
import Derived.Test.YtidekgipblnpkaaGreatDoorQ31
import Derived.StillTailTactics
set_option maxRecDepth 100000
set_option maxHeartbeats 8000000
namespace Go.Proofs.YtidekgipblnpkaaGreatDoor
open Go.RowKit Go.Proofs.Tryz
namespace Dk
theorem aT.own0 {w:World}{B:Nat}{v:Value}{l:List Rc}(h:aT w B v l){a:Option Addr}{c:Nat}(hv:v=.slice a l.length c){z:Addr}(hz:a=some z):v.ownBlock=some z.block:=by
 rcases h.2 with ⟨h1,_⟩|⟨g,cap,cur,h1,_⟩
 ·rw[hv] at h1;rw[(ajO h1).1] at hz;cases hz
 ·rw[hv] at h1;have e:=(ajO h1).1;rw[hz] at e;obtain rfl:=ajC e;rw[hv,hz];rfl
theorem Gs.opened {Has:World->Nat->Nat->(Nat->Prop)->Int->List ay->Prop}(H:qy Has){w w1 w':World}{B q:Nat}{F:Nat->Prop}{m size:Int}{es0 es:List ay}{ov:Value}{a0:Option Addr}{out:List Rc}{ns:List Int}(h0:Has w B q F m es0)(hb:Below w.heap.size w w1)(hg1:w.heap.size<w1.heap.size)(hB:B<=w.heap.size)
 (c0:w1.cell? ⟨w.heap.size,0,none⟩=some (.pointer (some ⟨q,0,none⟩))) (c1:w1.cell? ⟨w.heap.size,1,none⟩=some (.int .i64 size)) (h:Gs Has w1 w' B q F m ov a0 es out ns) :
 ∃a c F',ov=.slice a out.length c/\vk w' a out/\(∀z,a=some z->w.heap.size<=z.block/\z.block<w'.heap.size/\¬F' z.block)/\jV Has w.heap.size size w' B q F' m es/\aH F w w'/\∀k,F' k->F k\/w.heap.size<=k:=by
 obtain⟨⟨F',r1,r2,r3,r4⟩,hA,_,_⟩:=h;have hF:¬F w.heap.size:=λz=>by have:=(H.own h0 _ z).2;omega
 have hF':¬F' w.heap.size:=λz=>by
  rcases r3 _ z with y|y
  ·exact hF y
  ·omega
 obtain⟨a,c,hv,_,_,hs⟩:=hA.shape;refine⟨a,c,λk=>F' k\/k=w.heap.size,hv,hs,λz hz=>?_,⟨F',r1,⟨hB,ajc hg1 r2.size⟩,hF',?_,?_,λk=>amq⟩,(aH.aA hb).trans r2,λk hk=>?_⟩
 ·have ho:=hA.own0 hv hz;have hl:=ajz hA _ ho;refine⟨by omega,hl.2,λy=>?_⟩;rcases y with y|y
  ·exact(r4 _ (.inl ho)).2 y
  ·omega
 ·rw[r2.cell (p:=⟨w.heap.size,0,none⟩) hg1 hF];exact c0
 ·rw[r2.cell (p:=⟨w.heap.size,1,none⟩) hg1 hF];exact c1
 ·rcases hk with y|y
  ·rcases r3 k y with z|z
   ·exact .inl z
   ·exact .inr (by omega)
  ·exact .inr (by omega)
theorem Nk {w:World}{q B:Nat}(size:Int)(hz:dn size 1 4096=false)(hB:B<=w.heap.size) :
 Calls prog 111 #[.pointer (some ⟨q,0,none⟩),.int .i64 size] w λe w'=>(∃a c,e=.returned (.tuple #[.pointer none,.slice a 0 c,.int .i64 1]))/\Below B w w':=by
 by_cases h1:size<1
 ·have hd:decide (size<1)=true:=ajg h1;go_enter func111,ntmps111;go_wp2_with fail;go_ret3;exact⟨⟨_,_,rfl⟩,(ajb _ _).mono hB⟩
 ·have hd:decide (size<1)=false:=ajd h1;have h2:4096<size:=by
   simp[dn] at hz;omega
  have hd2:decide (4096<size)=true:=ajg h2;clear hz;go_enter func111,ntmps111;go_wp2_with fail;go_ret3;exact⟨⟨_,_,rfl⟩,(ajb _ _).mono hB⟩
theorem aaq {Has:World->Nat->Nat->(Nat->Prop)->Int->List ay->Prop}(H:jZ Has)(HS:oh Has){w:World}{B q:Nat}{F:Nat->Prop}{m:Int}{es:List ay}(size:Int)(hz:dn size 1 4096=true)(h:Has w B q F m es)(ht:Tidy m es)(hm:m<=65536)(hB:B<=w.heap.size) :
 Calls prog 111 #[.pointer (some ⟨q,0,none⟩),.int .i64 size] w λe w'=>∃g a c F',e=.returned (.tuple #[.pointer (some ⟨g,0,none⟩),.slice a (bQ es).1.length c,.int .i64 0])/\vk w' a (bQ es).1/\(∀z,a=some z->w.heap.size<=z.block/\z.block<w'.heap.size/\¬F' z.block)/\jV Has g size w' B q F' m (bQ es).2/\aH F w w'/\∀k,F' k->F k\/w.heap.size<=k:=by
 have hz2:1<=size/\size<=4096:=by simpa[dn] using hz
 have hd:decide (size<1)=false:=ajd (by omega);have hd2:decide (4096<size)=false:=ajd (by omega);have HH:=aj h;have HT:=aj ht;clear h ht hz hz2;have hb0:Below w.heap.size w (w.alloc (.cells #[.pointer (some ⟨q,0,none⟩),.int .i64 size] 193)):=(ajb _ _).alloc (Xc _) _;have hS:=ajF w (.cells #[.pointer (some ⟨q,0,none⟩),.int .i64 size] 193);have c0:=(ajY _ w.heap.size 0 _ _ _ hS).trans (show _=some (Value.pointer (some ⟨q,0,none⟩)) from rfl);have c1:=(ajY _ w.heap.size 1 _ _ _ hS).trans (show _=some (Value.int .i64 size) from rfl)
 have PR:=aj (aap H HS (H.dV.bZ (A:=λ_=>False) (ah HH) (aH.aA hb0) (λ_ _ z=>z)) (ah HT) hm (aje hB hb0.size));have HO:=aj (λw' ov a=>Gs.opened (w':=w') (ov:=ov) (a0:=a) (es:=(bQ es).2) (out:=(bQ es).1) (ns:=aP es) H.dV (ah HH) hb0 (by simp) hB c0 c1);clear hb0 hS c0 c1;go_enter func111,ntmps111;go_wp2_with fail;refine(ah PR).mono ?_;rintro e w2 ⟨ov,a0,rfl,o2⟩;obtain⟨a,c,F',rfl,o3⟩:=ah HO _ _ _ o2;have O3:=aj o3;clear o2 o3 HO PR;go_wp2_with fail;go_ret3;exact⟨w.heap.size,a,c,F',rfl,ah O3⟩
theorem JR:∀(f:Nat) (l:List UInt8),∀x∈(scan f l).1,Small x
 | 0,_,x,h=>by cases h
 | f+1,l,x,h=>by
  by_cases h0:l.length=0
  ·rw[scan,if_pos h0] at h;cases h
  ·by_cases hd:(Pk.dec l).2.2=0
   ·rw[xq h0 hd] at h;rcases ajT.1 h with y|y
    ·rw[y];exact Small.dec hd
    ·exact JR f _ x y
   ·rw[qY h0 hd] at h;cases h
theorem wM:∀es:List ay,∀x∈(bQ es).1,Small x
 | [],x,h=>by cases h
 | e::r,x,h=>by
  cases hs:kP e.text with
  | mk rs o =>
   have h1:∀x∈rs,Small x:=λx hx=>JR _ _ x (by unfold kP at hs;rw[hs];exact hx)
   cases o with
   | none =>
    rw[nH hs] at h;rcases ajS.1 h with y|y
    ·exact h1 x y
    ·exact wM r x y
   | some k=>rw[BH hs] at h;exact h1 x h
theorem TW {l:List Rc}(h:∀x∈l,Small x){k:Nat}(hk:k<l.length):Small (rc l k):=by rw[bP hk];exact h _ (akk hk)
theorem JU {l:List Rc}{k:Nat}(h:k<l.length):kW (l.take (k+1))=jW (kW (l.take k)) (rc l k):=by
 rw[ajo h,tY,bP h]
def UA (SH:World->Nat->Nat->(Nat->Prop)->aJ->Prop)(w wr:World)(c:Nat)(s:aJ):Prop:=∃G,SH wr w.heap.size c G s/\Below w.heap.size w wr
section
variable {SH:World->Nat->Nat->(Nat->Prop)->aJ->Prop}{w wr w':World}{c:Nat}{s s':aJ}
theorem UA.bl (h:UA SH w wr c s):Below w.heap.size w wr:=by obtain⟨G,_,h2⟩:=h;exact h2
theorem UA.room (h:UA SH w wr c s):w.heap.size<=wr.heap.size:=h.bl.size
theorem UA.below (S:dY SH)(h:UA SH w wr c s)(hb:Below wr.heap.size wr w'):UA SH w w' c s:=by
 have hr:=h.room;obtain⟨G,h1,h2⟩:=h;exact⟨G,S.bZ (A:=λ_=>False) h1 (aH.aA hb) (λ_ _ z=>z),h2.trans (hb.mono hr)⟩
theorem UA.apply (S:dY SH)(h:UA SH w wr c s)(hk:s.Ok)(r:Rc)(hr:Small r) :
 Calls prog 113 #[.pointer (some ⟨c,0,none⟩),.agg #[.int .i64 r.k,.int .i64 r.q,.int .i64 r.t,.string r.s,.string r.h,.string r.d]] wr λe w'=>e=.returned (.int .i64 (bY s r))/\UA SH w w' c (jW s r):=by
 have hro:=h.room;obtain⟨G,h1,h2⟩:=h;refine(S.apply r hr h1 hk hro).mono ?_;rintro e w' ⟨he,G',a1,a2,_⟩;exact⟨he,G',a1,h2.trans (a2.below hro (λk hk z=>by have:=(S.own h1 k z).1;omega))⟩
end
section
variable {Has:World->Nat->Nat->(Nat->Prop)->Int->List ay->Prop}{SH:World->Nat->Nat->(Nat->Prop)->aJ->Prop}{w w1 wr:World}{B x o q g c:Nat}{F F':Nat->Prop}{m size:Int}{es:List ay}{s:aJ}
def Opd (Has:World->Nat->Nat->(Nat->Prop)->Int->List ay->Prop)(SH:World->Nat->Nat->(Nat->Prop)->aJ->Prop)(w w':World)(B x o q:Nat)(F:Nat->Prop)(m size:Int)(es:List ay)(s:aJ):Prop :=
 ∃g c FL G,Va Has SH w' B x o q g c FL G m size es s/\aH (λk=>F k\/k=x) w w'/\(∀k,FL k\/G k->F k\/w.heap.size<=k)/\Me o x w w'
theorem UA.opd (H:jZ Has)(S:dY SH)(hx:B<=x/\x<w.heap.size)(hB:B<=w.heap.size)(hF:¬F x)(hc:aH F w w1)(hF':∀k,F' k->F k\/w.heap.size<=k)(hl:jV Has g size w1 B q F' m es)(hs:UA SH w1 wr c s){u2 u3:Value}
 (c0:w.cell? ⟨x,o,none⟩=some (.pointer (some ⟨q,0,none⟩))) (c1:w.cell? ⟨x,o+1,none⟩=some (.int .i64 size)) (c2:w.cell? ⟨x,o+2,none⟩=some u2) (c3:w.cell? ⟨x,o+3,none⟩=some u3) (fr:∀j,w.frozen? ⟨x,j,none⟩=false) :
 Opd Has SH w ((wr.setCell ⟨x,o+2,none⟩ (.pointer (some ⟨g,0,none⟩))).setCell ⟨x,o+3,none⟩ (.pointer (some ⟨c,0,none⟩))) B x o q F m size es s:=by
 obtain⟨G,h1,h2⟩:=hs;have hx1:x<w1.heap.size:=ajc hx.2 hc.size;have hxr:x<wr.heap.size:=ajc hx1 h2.size;have hfl:¬F' x:=λz=>by
  rcases hF' x z with y|y
  ·exact hF y
  ·omega
 have hgx:¬G x:=λz=>by have:=(S.own h1 x z).1;omega
 have e:∀j,wr.cell? ⟨x,j,none⟩=w.cell? ⟨x,j,none⟩:=λj=>(h2.cell (p:=⟨x,j,none⟩) hx1).trans (hc.cell (p:=⟨x,j,none⟩) hx.2 hF)
 have ef:∀j,wr.frozen? ⟨x,j,none⟩=false:=λj=>by
  rw[h2.frozen (p:=⟨x,j,none⟩) hx1,hc.frozen (p:=⟨x,j,none⟩) hx.2 hF];exact fr j
 have cs:aH (λk=>k=x) wr ((wr.setCell ⟨x,o+2,none⟩ (.pointer (some ⟨g,0,none⟩))).setCell ⟨x,o+3,none⟩ (.pointer (some ⟨c,0,none⟩))):=((aH.refl _ _).setCell (A:=λk=>k=x) (p:=⟨x,o+2,none⟩) (.inl rfl) _).setCell (A:=λk=>k=x) (p:=⟨x,o+3,none⟩) (.inl rfl) _;have hlr:=(jV.looks H g size).bZ (A:=λ_=>False) hl (aH.aA h2) (λ_ _ z=>z);refine⟨g,c,F',G,⟨(jV.looks H g size).bZ hlr cs (λk hk z=>by subst z;exact hfl hk),S.low (S.bZ h1 cs (λk hk z=>by subst z;exact hgx hk)) (aje hB hc.size),hx.1,ajc hxr cs.size,?_,?_,?_,?_,λj=>?_,λk hk z=>?_,hfl,hgx⟩,?_,λk hk=>?_,λj hj=>?_⟩
 ·rw[aji _ _ _ _ (by simp),aji _ _ _ _ (by simp),e];exact c0
 ·rw[aji _ _ _ _ (by simp),aji _ _ _ _ (by simp),e];exact c1
 ·rw[aji _ _ _ _ (by simp)];exact ajL _ _ _ ((e (o+2)).trans c2)
 ·refine ajL _ _ _ (u:=u3) ?_;rw[aji _ _ _ _ (by simp),e];exact c3
 ·rw[ajt,ajt];exact ef j
 ·have:=((jV.looks H g size).own hl k hk).2;have:=(S.own h1 k z).1;omega
 ·refine iZ (A:=λk=>F k\/k=x) ((hc.mono (λk _ z=>.inl z)).trans (aH.aA (A:=λk=>F k\/k=x) h2)) cs (λi _ z=>.inr z)
 ·rcases hk with z|z
  ·exact hF' k z
  ·right;have:=(S.own h1 k z).1;have:=hc.size;omega
 ·rw[aji _ _ _ _ (by simp<;>omega),aji _ _ _ _ (by simp<;>omega),e]
theorem uJ {w:World}{x o:Nat}{u:Addr}(c0:w.cell? ⟨x,o,none⟩=some (.pointer (some u))) :
 Calls prog 94 #[.pointer (some ⟨x,o,none⟩)] w λe w'=>e=.returned (.tuple #[])/\w'=w:=by
 go_enter func94,ntmps94;go_wp2_with fail;go_end0
 exact⟨rfl,rfl⟩
abbrev At2 (x o q:Nat)(size:Int)(w:World):Prop:=w.cell? ⟨x,o,none⟩=some (.pointer (some ⟨q,0,none⟩))/\w.cell? ⟨x,o+1,none⟩=some (.int .i64 size)
theorem At2.below {w w':World}(h:At2 x o q size w)(hx:x<w.heap.size)(hb:Below w.heap.size w w'):At2 x o q size w':=⟨(hb.cell (p:=⟨x,o,none⟩) hx).trans h.1,(hb.cell (p:=⟨x,o+1,none⟩) hx).trans h.2⟩
theorem At2.bZ {w w':World}(h:At2 x o q size w)(hx:x<w.heap.size)(hc:aH F w w')(hn:¬F x):At2 x o q size w':=⟨(hc.cell (p:=⟨x,o,none⟩) hx hn).trans h.1,(hc.cell (p:=⟨x,o+1,none⟩) hx hn).trans h.2⟩
theorem aar {w:World}(hz:dn size 1 4096=false)(hx:x<w.heap.size)(c0:w.cell? ⟨x,o,none⟩=some (.pointer (some ⟨q,0,none⟩)))(c1:w.cell? ⟨x,o+1,none⟩=some (.int .i64 size)) :
 Calls prog 66 #[.pointer (some ⟨x,o,none⟩)] w λe w'=>e=.returned (.int .i64 1)/\Below w.heap.size w w':=by
 have bd:Below w.heap.size w w.drew:=(ajb _ _).drew;have k0:At2 x o q size w.drew:=At2.below ⟨c0,c1⟩ hx bd;have P:=aj (Nk (w:=w.drew) (q:=q) (B:=w.drew.heap.size) size hz (Xc _));have HX:=aj (λw1 (b:Below w.drew.heap.size w.drew w1)=>k0.below (ajc hx bd.size) b);have HB:=aj (λw1 (b:Below w.drew.heap.size w.drew w1)=>bd.trans (b.mono bd.size));clear hz bd;go_enter func66,ntmps66;go_wp2_with fail;go_region_held3 (At2 x o q size) (first|assumption|go_keep)
  (first
   | (go_at_call 111;refine(ah P).mono ?_;rintro e w1 ⟨⟨a,k,rfl⟩,b1⟩;have k1:=ah HX w1 b1))
 have B1:=aj (ah HB w1 b1);clear P HX HB b1 k0 k1;go_wp2_with fail;go_ret;exact⟨rfl,ah B1⟩
theorem Nl (H:jZ Has)(L:yG Has (jV Has))(S:dY SH){u2 u3:Value}(hz:dn size 1 4096=true)(h:Has w B q F m es)(ht:Tidy m es)(hm:m<=65536)(hB:B<=w.heap.size)(hx:B<=x/\x<w.heap.size)(hF:¬F x)(c0:w.cell? ⟨x,o,none⟩=some (.pointer (some ⟨q,0,none⟩)))(c1:w.cell? ⟨x,o+1,none⟩=some (.int .i64 size))(c2:w.cell? ⟨x,o+2,none⟩=some u2)(c3:w.cell? ⟨x,o+3,none⟩=some u3)(fr:∀j,w.frozen? ⟨x,j,none⟩=false) :
 Calls prog 66 #[.pointer (some ⟨x,o,none⟩)] w λe w'=>e=.returned (.int .i64 0)/\Opd Has SH w w' B x o q F m size (bQ es).2 (kW (bQ es).1):=by
 have bd:Below w.heap.size w w.drew:=(ajb _ _).drew;have cd:aH F w w.drew:=aH.aA bd;have k0:At2 x o q size w.drew:=At2.below ⟨c0,c1⟩ hx.2 bd;have P:=aj (L.jY size hz (H.dV.bZ (A:=λ_=>False) h (aH.aA bd) (λ_ _ z=>z)) ht hm (aje hB bd.size));have hlen:(bQ es).1.length<=200000:=by
  have:=xu es;have:=ht.fits;omega
 have hsm:=wM es;have HO:Hid (∀(w1 wr:World) (g c:Nat) (F':Nat->Prop),aH F w w1->(∀k,F' k->F k\/w.drew.heap.size<=k)->jV Has g size w1 B q F' m (bQ es).2->UA SH w1 wr c (kW (bQ es).1)->Opd Has SH w ((wr.setCell ⟨x,o+2,none⟩ (.pointer (some ⟨g,0,none⟩))).setCell ⟨x,o+3,none⟩ (.pointer (some ⟨c,0,none⟩))) B x o q F m size (bQ es).2 (kW (bQ es).1)):=aj (λw1 wr g c F' hc hF' hl hs=>hs.opd H S hx hB hF hc hF' hl c0 c1 c2 c3 fr);obtain⟨es2,he2⟩:∃z,z=(bQ es).2:=⟨_,rfl⟩;obtain⟨l,he1⟩:∃z,z=(bQ es).1:=⟨_,rfl⟩;rw[<-he2,<-he1] at P HO ⊢;rw[<-he1] at hlen hsm;clear he1 he2;have HX:=aj (λw1 (hc:aH F w w1)=>And.intro (hc.cell (p:=⟨x,o+2,none⟩) hx.2 hF) (And.intro (hc.cell (p:=⟨x,o+3,none⟩) hx.2 hF) (And.intro (hc.frozen (p:=⟨x,o+2,none⟩) hx.2 hF) (hc.frozen (p:=⟨x,o+3,none⟩) hx.2 hF))))
 have HY:=aj (λw1 (hc:aH F w.drew w1)=>And.intro (cd.trans hc) (k0.bZ (ajc hx.2 bd.size) hc hF));have f2:=fr (o+2);have f3:=fr (o+3);have hx2:=hx.2;have HM:=aj hsm;clear h ht hz hF hx hsm fr bd cd;go_enter func66,ntmps66;go_wp2_with fail;go_region_held3 (At2 x o q size) (first|assumption|go_keep)
  (first
   | (go_at_call 111;refine(ah P).mono ?_;rintro e w1 ⟨g,a,k,F',rfl,hsl,ha,hl,hc0,hF'⟩;obtain⟨hc,k1⟩:=ah HY w1 hc0))
 obtain⟨d2,d3,e2,e3⟩:=ah HX w1 hc;rw[c2] at d2;rw[c3] at d3;rw[f2] at e2;rw[f3] at e3;have hx1:x<w1.heap.size:=ajc hx2 hc.size;have Bf:=aj hsl;have HO1:=aj (λwr c=>ah HO w1 wr g c F' hc hF' hl);clear P HO HX HY hsl ha hl hc hc0 k0 k1 hF' c0 c1 c2 c3 f2 f3 hx2;go_wp2_with fail;refine(S.new w1).mono ?_;rintro e w2 ⟨c,G,rfl,h2,b2⟩;have M2:Hid (UA SH w1 w2 c (kW (l.take 0))):=aj ⟨G,h2,b2⟩;clear h2 b2;go_wp2_with fail;go_loopw [28] (λiv wr=>∃(k:Nat),iv=.int .i64 k/\k<=l.length/\Hid (UA SH w1 wr c (kW (l.take k)))) (λiv _=>l.length-(intOf iv).toNat)
 case atStart=>exact⟨0,rfl,ajm _,M2⟩
 case round =>
  clear M2;obtain⟨k,rfl,hkl,M2⟩:=hrel;by_cases hlt:k<l.length
  ·obtain⟨ga,o,rfl,s6⟩:=ah Bf k hlt;have s7:Six wr ga (o+k*6) (rc l k):=s6.below (ah M2).bl s6.lt;have hsm:=TW (ah HM) hlt;have hft:=JU hlt;obtain⟨r,hr⟩:∃r,r=rc l k:=⟨_,rfl⟩;rw[<-hr] at s7 hsm hft;obtain⟨_,x0,x1,x2,x3,x4,x5⟩:=s7;have M3:=aj ((ah M2).below S ((ajb _ _).alloc (Xc _) (.cells #[.int .i64 r.k,.int .i64 r.q,.int .i64 r.t,.string r.s,.string r.h,.string r.d] 73)));have PA:=aj ((ah M3).apply S (Je _) r hsm);rw[<-hft] at PA;clear hr hft s6 M2 M3;go_wp2_with fail;refine(ah PA).mono ?_;rintro e w4 ⟨rfl,m4⟩;have M4:=aj m4;clear m4 PA x0 x1 x2 x3 x4 x5
   go_wp2_with fail;refine⟨⟨k+1,by go_num,by omega,M4⟩,?_⟩;simp[intOf];omega
  ·obtain rfl:k=l.length:=by omega
   have M3:Hid (UA SH w1 wr c (kW l)):=by
    have:=M2;rw[ajN] at this;exact this
   have hb:=(ah M3).bl;have g2:=(hb.cell (p:=⟨x,o+2,none⟩) hx1).trans d2;have g3:=(hb.cell (p:=⟨x,o+3,none⟩) hx1).trans d3;have k2:=(hb.frozen (p:=⟨x,o+2,none⟩) hx1).trans e2;have k3:=(hb.frozen (p:=⟨x,o+3,none⟩) hx1).trans e3;have hxr:=ajc hx1 hb.size;have HE:=aj (ah HO1 wr c (ah M3));clear M2 M3 hlt hb d2 d3 e2 e3 HO1;go_wp2_with fail;go_ret;exact⟨rfl,ah HE⟩
end
abbrev At7 (x j c b:Nat)(r:Rc)(w:World):Prop:=w.cell? ⟨x,j,none⟩=some (.pointer (some ⟨c,0,none⟩))/\w.cell? ⟨b,0,none⟩=some (.int .i64 r.k)/\w.cell? ⟨b,1,none⟩=some (.int .i64 r.q)/\w.cell? ⟨b,2,none⟩=some (.int .i64 r.t)/\w.cell? ⟨b,3,none⟩=some (.string r.s)/\w.cell? ⟨b,4,none⟩=some (.string r.h)/\w.cell? ⟨b,5,none⟩=some (.string r.d)
theorem WO {w:World}{x j c b:Nat}{r:Rc}(h:RB w b r.k r.q r.t r.s r.h r.d)(h0:w.cell? ⟨x,j,none⟩=some (.pointer (some ⟨c,0,none⟩))):At7 x j c b r w:=⟨h0,h.c0,h.c1,h.c2,h.c3,h.c4,h.c5⟩
theorem sK {Cs:Nat->Prop}{w w':World}{b:Nat}{k q t:Int}{s h d:ByteArray}(r:RB w b k q t s h d)(hs:aO Cs w w')(hb:Cs b):RB w' b k q t s h d :=
 ⟨ajc r.lt hs.1,by rw[hs.cell hb];exact r.c0,by rw[hs.cell hb];exact r.c1,by rw[hs.cell hb];exact r.c2,by rw[hs.cell hb];exact r.c3,by rw[hs.cell hb];exact r.c4,by rw[hs.cell hb];exact r.c5,λj=>by rw[World.frozen?_of_block (w:=w) (hs.2 b hb)];exact r.fr j⟩
theorem Np {es:List ay}{m size:Int}{r:Rc}(h:(jl es m size r).1≠0):(jl es m size r).2=es:=by
 by_cases z:(iq es m size r).1=0
 ·rw[tq z] at h;exact absurd z h
 ·rw[nI z]
theorem adB {es:List ay}{s:aJ}{m size:Int}{r:Rc}(h:bY s r≠0):iJ es s m size r=bY s r/\qL es s m size r=es/\lq es s m size r=s:=by
 have e:iJ es s m size r=bY s r:=by unfold iJ;rw[if_pos h]
 refine⟨e,?_,?_⟩
 ·unfold qL;rw[e,if_neg h]
 ·unfold lq;rw[e,if_neg h]
theorem adC {es:List ay}{s:aJ}{m size:Int}{r:Rc}(h:bY s r=0)(h1:(jl es m size r).1≠0):iJ es s m size r=(jl es m size r).1/\qL es s m size r=es/\lq es s m size r=s:=by
 have e:iJ es s m size r=(jl es m size r).1:=by unfold iJ;rw[if_neg (by rw[h];simp)]
 refine⟨e,?_,?_⟩
 ·unfold qL;rw[e,if_neg h1]
 ·unfold lq;rw[e,if_neg h1]
theorem adD {es:List ay}{s:aJ}{m size:Int}{r:Rc}(h:bY s r=0)(h1:(jl es m size r).1=0):iJ es s m size r=0/\qL es s m size r=fM (jl es m size r).2/\lq es s m size r=jW s r:=by
 have e:iJ es s m size r=0:=by unfold iJ;rw[if_neg (by rw[h];simp)];exact h1
 refine⟨e,?_,?_⟩
 ·unfold qL;rw[e,if_pos rfl]
 ·unfold lq;rw[e,if_pos rfl]
section
variable {Has:World->Nat->Nat->(Nat->Prop)->Int->List ay->Prop}{SH:World->Nat->Nat->(Nat->Prop)->aJ->Prop}{w:World}{B x o:Nat}{F:Nat->Prop}{m size:Int}{es:List ay}{s:aJ}
theorem afO (H:jZ Has)(L:yG Has (jV Has))(S:dY SH)(r:Rc)(hr:Small r)(h:pG Has SH o w B x F m size es s)(hv:lS m es s)(hm:m<=65536)(hz:dn size 1 4096=true)(hB:B<=w.heap.size) :
 Calls prog 102 #[.pointer (some ⟨x,o,none⟩),.agg #[.int .i64 r.k,.int .i64 r.q,.int .i64 r.t,.string r.s,.string r.h,.string r.d]] w λe w'=>e=.returned (.int .i64 (iJ es s m size r))/\VL Has SH o w w' B x F m size (qL es s m size r) (lq es s m size r):=by
 obtain⟨q,g,c,r0,hfin⟩:=h.begin;have HF:=aj hfin;have HV:=aj hv;have HZ:=aj hz;have hal:Below w.heap.size w (w.alloc (.cells #[.int .i64 r.k,.int .i64 r.q,.int .i64 r.t,.string r.s,.string r.h,.string r.d] 73)):=(ajb _ _).alloc (Xc _) _;have R1:=aj (r0.lF H S (jR:=λk=>k=w.heap.size) hal (λk hk=>.inr ⟨by omega,by subst hk;simp⟩));have C1:=aj (RB.new w r.k r.q r.t r.s r.h r.d 73);have PB:=aj (uJ (ah R1).cells.1);clear h r0 hfin hv hal hz;go_enter func102,ntmps102;go_wp2_with fail;refine(ah PB).mono ?_;rintro e w1 ⟨rfl,rfl⟩;generalize w.alloc (.cells #[.int .i64 r.k,.int .i64 r.q,.int .i64 r.t,.string r.s,.string r.h,.string r.d] 73)=w1 at *
 have R2:=aj ((ah R1).below H S (ajb _ _).drew);have C2:=aj ((ah C1).next (ajb _ _).drew);have k2:=WO (ah C2) (ah R2).cells.2.2.2.1;have PT:=aj (show Calls prog 136 #[.pointer (some ⟨c,0,none⟩),.agg #[.int .i64 r.k,.int .i64 r.q,.int .i64 r.t,.string r.s,.string r.h,.string r.d]] _ λe w'=>e=.returned (.int .i64 (bY s r))/\Below _ _ w' from by
  obtain⟨FL,G,h1,_⟩:=ah R2;exact S.tries r hr h1.jL (ah HV).ok (aje hB (ah R2).room))
 obtain⟨E,hE⟩:∃E,bY s r=E:=⟨_,rfl⟩;rw[hE] at PT;have HE:=aj hE;clear PB R1 C1 hE;go_wp2_with fail;go_region_held3 (At7 x (o+3) c w.heap.size r) (first|assumption|go_keep)
  (first
   | (go_at_call 136;refine(ah PT).mono ?_;rintro e w3 ⟨rfl,b3⟩;have R3:=aj ((ah R2).below H S b3);have C3:=aj ((ah C2).next b3);have k3:=WO (ah C3) (ah R3).cells.2.2.2.1;clear b3))
 clear k2 k3 PT R2 C2;by_cases h0:E=0
 ·have HT:=aj ((ah HE).trans h0);subst h0;have R4:=aj ((ah R3).below H S (ajb _ _).drew);have C4:=aj ((ah C3).next (ajb _ _).drew);have k4:=WO (ah C4) (ah R4).cells.2.2.1;have PA:=aj ((ah R4).Kr S (λFL hFL _=>L.append r hr (ah HZ) hFL (ah HV).tidy hm (aje hB (ah R4).room)));obtain⟨E2,hE2⟩:∃E,(jl es m size r).1=E:=⟨_,rfl⟩;rw[hE2] at PA;have HE2:=aj hE2;clear HE R3 C3 hE2;go_wp2_with fail;go_region_held3 (At7 x (o+2) g w.heap.size r) (first|assumption|go_keep)
   (first
    | (go_at_call 137;refine(ah PA).mono ?_;rintro e w5 ⟨rfl,r5,s5⟩;have R5:=aj r5;have C5:=aj (sK (ah C4) s5 rfl);have k5:=WO (ah C5) (ah R5).cells.2.2.1;clear r5 s5))
  clear k4 k5 PA R4 C4;by_cases h1:E2=0
  ·obtain⟨e1,e2,e3⟩:=adD (ah HT) ((ah HE2).trans h1);subst h1;have HR:=aj (And.intro e1 (And.intro e2 e3));have x2:=(ah R5).cells.2.2.1;have PS:=aj ((ah R5).Kr S (λFL hFL _=>L.sync (ah HZ) hFL ((ah HV).tidy.abn size r) hm (aje hB (ah R5).room)));clear e1 e2 e3 HE2 HT;go_wp2_with fail;refine(ah PS).mono ?_;rintro e w6 ⟨rfl,r6,s6⟩;have R6:=aj (r6.below H S (ajb _ _).drew);have C6:=aj ((sK (ah C5) s6 rfl).next (ajb _ _).drew);have k6:=WO (ah C6) (ah R6).cells.2.2.2.1;have PD:=aj ((ah R6).did H (λG hG=>S.apply r hr hG (ah HV).ok (aje hB (ah R6).room)))
   clear PS R5 C5 x2 r6 s6;go_wp2_with fail;go_region_held3 (At7 x (o+3) c w.heap.size r) (first|assumption|go_keep)
    (first
     | (go_at_call 113;refine(ah PD).mono ?_;rintro e w7 ⟨rfl,r7,s7⟩;have R7:=aj r7;have C7:=aj (sK (ah C6) s7 rfl);have k7:=WO (ah C7) (ah R7).cells.2.2.2.1;clear r7 s7))
   clear k6 k7 PD R6 C6;go_wp2_with fail;go_ret;obtain⟨e1,e2,e3⟩:=ah HR;rw[e1,e2,e3];exact⟨rfl,ah HF _ _ _ _ _ _ (ah R7)⟩
  ·obtain⟨e1,e2,e3⟩:=adC (ah HT) (by rw[ah HE2];exact h1);have e4:=Np (es:=es) (m:=m) (size:=size) (r:=r) (by rw[ah HE2];exact h1);have R6:Hid (Rv Has SH F (λk=>k=w.heap.size) w w5 B x o q g c m size es s):=by
    have:=R5;rw[e4] at this;exact this
   rw[ah HE2] at e1;have HR:=aj (And.intro e1 (And.intro e2 e3));have e5:(E2 !=0)=true:=by simpa using h1
   clear e1 e2 e3 e4 HE2 HT R5;go_wp2_with fail;go_ret;obtain⟨e1,e2,e3⟩:=ah HR;rw[e1,e2,e3];exact⟨rfl,ah HF _ _ _ _ _ _ (ah R6)⟩
 ·obtain⟨e1,e2,e3⟩:=adB (es:=es) (m:=m) (size:=size) (s:=s) (r:=r) (by rw[ah HE];exact h0);rw[ah HE] at e1;have HR:=aj (And.intro e1 (And.intro e2 e3));have e5:(E !=0)=true:=by simpa using h0
  clear e1 e2 e3 HE;go_wp2_with fail;go_ret;obtain⟨e1,e2,e3⟩:=ah HR;rw[e1,e2,e3];exact⟨rfl,ah HF _ _ _ _ _ _ (ah R3)⟩
end
section
variable {Has:World->Nat->Nat->(Nat->Prop)->Int->List ay->Prop}{SH:World->Nat->Nat->(Nat->Prop)->aJ->Prop}{w:World}{B x o:Nat}{F:Nat->Prop}{m size:Int}{es:List ay}{s:aJ}
theorem JV (h:pG Has SH o w B x F m size es s) :
 Calls prog 49 #[.pointer (some ⟨x,o,none⟩)] w λe w'=>∃q F0,e=.returned (.pointer (some ⟨q,0,none⟩))/\SH w' B q F0 s/\(∀k,F0 k->F k)/\Below w.heap.size w w':=by
 obtain⟨q,g,c,FL,G,h1,h2⟩:=h;have PB:=aj (uJ h1.c0);have x3:=h1.c3;have HE:=aj (show SH w B c G s/\(∀k,G k->F k)/\Below w.heap.size w w from⟨h1.jL,λk hk=>(h2 k).2 (.inr (.inr hk)),ajb _ _⟩);clear h1 h2;go_enter func49,ntmps49;go_wp2_with fail;refine(ah PB).mono ?_;rintro e w1 ⟨rfl,rfl⟩;go_wp2_with fail;go_ret;exact⟨c,G,rfl,ah HE⟩
end
section
variable {Has:World->Nat->Nat->(Nat->Prop)->Int->List ay->Prop}{SH:World->Nat->Nat->(Nat->Prop)->aJ->Prop}
theorem Nq (w:World)(q:Nat)(size:Int):∃W,W=w.alloc (.cells #[.pointer (some ⟨q,0,none⟩),.int .i64 size,.pointer none,.pointer none] 85)/\Below w.heap.size w W/\w.heap.size<W.heap.size/\W.cell? ⟨w.heap.size,0,none⟩=some (.pointer (some ⟨q,0,none⟩))/\W.cell? ⟨w.heap.size,1,none⟩=some (.int .i64 size)/\W.cell? ⟨w.heap.size,2,none⟩=some (.pointer none)/\W.cell? ⟨w.heap.size,3,none⟩=some (.pointer none)/\∀j,W.frozen? ⟨w.heap.size,j,none⟩=false:=by
 have hS:=ajF w (.cells #[.pointer (some ⟨q,0,none⟩),.int .i64 size,.pointer none,.pointer none] 85);refine⟨_,rfl,(ajb _ _).alloc (Xc _) _,by simp,(ajY _ w.heap.size 0 _ _ _ hS).trans rfl,(ajY _ w.heap.size 1 _ _ _ hS).trans rfl,(ajY _ w.heap.size 2 _ _ _ hS).trans rfl,(ajY _ w.heap.size 3 _ _ _ hS).trans rfl,λj=>akf _ _ _ j⟩
theorem adE (N:YU Has)(w:World)(m size:Int)(h:(dn m 1 65536&&dn size 1 4096)=false) :
 Calls prog 25 #[.int .i64 m,.int .i64 size] w λe w'=>e=.returned (.tuple #[.pointer none,.int .i64 1])/\Below w.heap.size w w':=by
 by_cases hm:dn m 1 65536=false
 ·have P:=aj (N.bad w m hm);clear h hm;go_enter func25,ntmps25;go_wp2_with fail;refine(ah P).mono ?_;rintro e w1 ⟨rfl,b1⟩;have B1:=aj b1;clear b1 P;go_wp2_with fail;go_ret2;exact⟨rfl,ah B1⟩
 ·have hm1:dn m 1 65536=true:=by simpa using hm
  have hz:dn size 1 4096=false:=by rw[hm1] at h;simpa using h
  have P:=aj (N.jY w m hm1);have HZ:=aj hz;clear h hm hm1 hz;go_enter func25,ntmps25;go_wp2_with fail;refine(ah P).mono ?_;rintro e w1 ⟨q,F,rfl,h1,b1⟩;obtain⟨W,hW,bW,hl,d0,d1,dd⟩:=Nq w1 q size;have PO:=aj (aar (ah HZ) hl d0 d1);rw[hW] at PO bW;have B2:=aj (b1.trans (bW.mono b1.size));have hs2:=aje b1.size bW.size;clear P h1 b1 bW hW hl d0 d1 dd W;go_wp2_with fail;refine(ah PO).mono ?_;rintro e w2 ⟨rfl,b2⟩;have B3:=aj ((ah B2).trans (b2.mono hs2));clear PO b2;go_wp2_with fail;go_ret2;exact⟨rfl,ah B3⟩
theorem aas (H:jZ Has)(N:YU Has)(L:yG Has (jV Has))(S:dY SH)(w:World)(m size:Int)(hm:dn m 1 65536=true)(hz:dn size 1 4096=true) :
 Calls prog 25 #[.int .i64 m,.int .i64 size] w λe w'=>∃p F,e=.returned (.tuple #[.pointer (some ⟨p,0,none⟩),.int .i64 0])/\pG Has SH 0 w' w.heap.size p F m size [] ⟨[],0⟩/\Below w.heap.size w w':=by
 have hm2:1<=m/\m<=65536:=by simpa[dn] using hm
 have P:=aj (N.jY w m hm);have HZ:=aj hz;have HM:=aj hm2;clear hm hz hm2;go_enter func25,ntmps25;go_wp2_with fail;refine(ah P).mono ?_;rintro e w1 ⟨q,F,rfl,h1,b1⟩;obtain⟨W,hW,bW,hl,d0,d1,d2,d3,fr⟩:=Nq w1 q size;have hF:¬F w1.heap.size:=λz=>by have:=(H.dV.own h1 _ z).2;omega
 have PO:=aj (Nl (B:=w.heap.size) H L S (ah HZ) (H.dV.bZ (A:=λ_=>False) h1 (aH.aA bW) (λ_ _ z=>z)) (Tidy.nil (by have:=(ah HM).1;omega)) (ah HM).2 (aje b1.size bW.size) ⟨b1.size,hl⟩ hF d0 d1 d2 d3 fr);have HO:=aj (λw' (h:Opd Has SH W w' w.heap.size w1.heap.size 0 q F m size (bQ []).2 (kW (bQ []).1))=>show ∃F,pG Has SH 0 w' w.heap.size w1.heap.size F m size [] ⟨[],0⟩/\Below w.heap.size w w' from by
  obtain⟨g,c,FL,G,v1,v2,_⟩:=h;refine⟨_,⟨q,g,c,FL,G,v1,λk=>amq⟩,(b1.trans (bW.mono b1.size)).trans (v2.below (aje b1.size bW.size) (λk hk z=>?_))⟩;have:=b1.size;rcases z with z|z
  ·have:=(H.dV.own h1 k z).1;omega
  ·omega)
 rw[hW] at PO HO;clear P h1 b1 bW hW hl hF d0 d1 d2 d3 fr W;go_wp2_with fail;refine(ah PO).mono ?_;rintro e w2 ⟨rfl,o2⟩;obtain⟨F2,v2,b2⟩:=ah HO _ o2;have B2:=aj (And.intro v2 b2);clear PO HO o2 v2 b2;go_wp2_with fail;go_ret2;exact⟨_,F2,rfl,ah B2⟩
end
section
variable {Has:World->Nat->Nat->(Nat->Prop)->Int->List ay->Prop}{SH:World->Nat->Nat->(Nat->Prop)->aJ->Prop}{w:World}{B x o:Nat}{F:Nat->Prop}{m size:Int}{es:List ay}{s:aJ}
theorem Rv.opened {F0:Nat->Prop}{w wr w':World}{q:Nat}{es':List ay}{s':aJ}{FL G F1:Nat->Prop}(hc:aH F0 w wr)(hs:Me o x w wr)(h3:∀k,vaF x FL G k->F0 k\/w.heap.size<=k)(hF1:∀k,F1 k->FL k)(h:Opd Has SH wr w' B x o q F1 m size es' s'):∃g' c',Rv Has SH F0 (λ_=>False) w w' B x o q g' c' m size es' s':=by
 obtain⟨g',c',FL',G',v1,v2,v3,v4⟩:=h;refine⟨g',c',FL',G',v1,iZ hc v2 (λi hi z=>?_),λk hk=>?_,λ_ z=>z.elim,hs.trans v4⟩
 ·have hv:vaF x FL G i:=by
   rcases z with z|z
   ·exact .inr (.inl (hF1 i z))
   ·exact .inl z
  rcases h3 i hv with y|y
  ·exact y
  ·omega
 ·rcases hk with z|z
  ·exact h3 k (.inl z)
  ·rcases v3 k z with y|y
   ·exact h3 k (.inr (.inl (hF1 k y)))
   ·exact .inr (aje hc.size y)
theorem WQ (H:jZ Has)(L:yG Has (jV Has))(S:dY SH)(keep:Int)(h:pG Has SH o w B x F m size es s)(hv:lS m es s)(hm:m<=65536)(hz:dn size 1 4096=true)(hB:B<=w.heap.size) :
 Calls prog 61 #[.pointer (some ⟨x,o,none⟩),.int .i64 keep] w λe w'=>e=.returned (.tuple #[])/\VL Has SH o w w' B x F m size es s:=by
 obtain⟨q,g,c,r0,hfin⟩:=h.begin;have HF:=aj hfin;have HV:=aj hv;have HZ:=aj hz;have PB:=aj (uJ r0.cells.1);have x0:=r0.cells.1;have PC:Hid (Calls prog 108 #[.pointer (some ⟨q,0,none⟩),.int .i64 keep] w λe w'=>e=.returned (.tuple #[])/\Rv Has SH F (λ_=>False) w w' B x o q g c m size es s/\aO (λ_=>False) w w'):=aj (r0.Kr S (es':=es) (Q:=λe _=>e=.returned (.tuple #[])) (λFL hFL _=>by
  have hq:=(hv.uQ keep).1;refine hFL.did (Q:=λe _=>e=.returned (.tuple #[])) (es':=es) (λF' hF'=>?_);have:=H.dV.uQ keep hF' hv.tidy hm hB;rw[hq] at this;exact this))
 clear h r0 hfin hv hz;go_enter func61,ntmps61;go_wp2_with fail;refine(ah PB).mono ?_;rintro e w1 ⟨rfl,rfl⟩;go_wp2_with fail;refine(ah PC).mono ?_;rintro e w2 ⟨rfl,r2,_⟩;have hr2:=r2.room;obtain⟨FL,G,v2,c2,o2,_,sd2⟩:=r2;obtain⟨F1,k1,l1⟩:=v2.log.down;have PO:=aj (Nl H L S (ah HZ) k1 (ah HV).tidy hm (aje hB hr2) ⟨v2.base,v2.lt⟩ (λz=>v2.xd (l1 x z)) v2.c0 v2.c1 v2.c2 v2.c3 v2.free);have hcr:=(ah HV).uQ keep;rw[hcr.2.1,hcr.2.2] at PO;have HO:=aj (λw' (h:Opd Has SH w2 w' B x o q F1 m size es s)=>show VL Has SH o _ w' B x F m size es s from by
  obtain⟨g',c',r3⟩:=Rv.opened c2 sd2 o2 l1 h;exact ah HF _ _ _ _ _ _ r3)
 clear PC hr2 v2 c2 o2 k1 l1 hcr sd2;go_wp2_with fail;refine(ah PO).mono ?_;rintro e w3 ⟨rfl,o3⟩;have D3:=aj (ah HO _ o3);clear PO HO o3;go_wp2_with fail;go_end0
 exact⟨rfl,ah D3⟩
end
section
variable {Has:World->Nat->Nat->(Nat->Prop)->Int->List ay->Prop}{SH:World->Nat->Nat->(Nat->Prop)->aJ->Prop}{w wr w':World}{B x o q g c:Nat}{F F0 Cs jR:Nat->Prop}{m size:Int}{es:List ay}{s:aJ}
theorem Rv.own (H:jZ Has)(S:dY SH){A:Nat->Prop}(h:Rv Has SH F0 Cs w wr B x o q g c m size es s)(hc:aH A wr w')(hA:∀k,A k->Cs k/\w.heap.size<=k)(hn:∀k,jR k->Cs k\/wr.heap.size<=k/\k<w'.heap.size):Rv Has SH F0 jR w w' B x o q g c m size es s:=by
 obtain⟨FL,G,h1,h2,h3,h4,h5⟩:=h;refine⟨FL,G,h1.bZ H S hc (λk hk z=>(h4 k (hA k z).1).2 hk),iZ h2 hc (λi hi z=>by have:=(hA i z).2;omega),h3,λk hk=>?_,h5.trans (Me.bZ hc h1.lt (λz=>(h4 x (hA x z).1).2 (.inl rfl)))⟩;rcases hn k hk with y|y
 ·exact⟨ajc (h4 k y).1 hc.size,(h4 k y).2⟩
 ·exact⟨y.2,λz=>by have:=(h1.own H S k z).2;omega⟩
theorem aat (x0 x1 x2 x3:Value)(W:World):(Instr.field 60 (.agg #[x0,x1,x2,x3]) 3).run prog W=.ok x3 W:=by kernel_rfl
theorem uK {s:aJ}(h:s.last=0):kX s=s.l:=by unfold kX;rw[h,if_neg (by omega),ake]
theorem uM {s:aJ}(h:0<s.last):kX s=s.l++[qF s.last]:=by unfold kX;rw[if_pos h]
theorem JW {s:aJ}(h:s.Ok):∀k,k<(kX s).length->Small (rc (kX s) k):=λk hk=>by
 rw[bP hk];exact Small.of ((acs h).2 _ (akk hk))
theorem TY {s:aJ}(h:s.Ok):(kX s).length<=201:=by
 have:=h.iW;unfold kX;split<;>simp<;>omega
theorem Ua {w0 W:World}{v:Value}{l:List Rc}{n:Int}(h:aT W w0.heap.size v l)(hl:l.length<=200)(hB:w0.heap.size<=W.heap.size) :
 ∃v8 w8,(Builtin.append_ #[39,39] 39 #[v,.slice (some ⟨W.heap.size,0,none⟩) 1 1]).run prog (W.alloc (.cells #[.int .i64 4,.int .i64 n,.int .i64 0,.string ⟨#[]⟩,.string ⟨#[]⟩,.string ⟨#[]⟩] 73))=.ok v8 w8/\aT w8 w0.heap.size v8 (l++[qF n])/\aH (λk=>v.ownBlock=some k) W w8/\∀k,v8.ownBlock=some k->v.ownBlock=some k\/W.heap.size<=k/\k<w8.heap.size:=by
 have hb7:Below W.heap.size W (W.alloc (.cells #[.int .i64 4,.int .i64 n,.int .i64 0,.string ⟨#[]⟩,.string ⟨#[]⟩,.string ⟨#[]⟩] 73)):=(ajb _ _).alloc (Xc _) _;have h7:=h.below hb7;have hs7:=hb7.size;obtain⟨v8,w8,hrun,A8,C8,L8⟩:=iQ _ w0.heap.size 39 v l [qF n] h7 ⟨W.heap.size,0,none⟩ 1 (qB W (qF n)) (by simp;omega) (aje hB hs7);refine⟨v8,w8,hrun,A8,(aH.aA hb7).trans C8,λk hk=>?_⟩;have:=(ajz A8 k hk).2;rcases L8 k hk with y|y
 ·exact .inl y
 ·exact .inr ⟨by omega,this⟩
theorem Pm (H:jZ Has)(L:yG Has (jV Has))(S:dY SH)(h:pG Has SH o w B x F m size es s)(hv:lS m es s)(hm:m<=65536)(hz:dn size 1 4096=true)(hB:B<=w.heap.size) :
 Calls prog 83 #[.pointer (some ⟨x,o,none⟩)] w λe w'=>e=.returned (.int .i64 (rX es s m size))/\VL Has SH o w w' B x F m size (lT es s m size) s:=by
 obtain⟨q,g,c,r0,hfin⟩:=h.begin;have HF:=aj hfin;have HV:=aj hv;have HZ:=aj hz;have PB:=aj (uJ r0.cells.1);have x3:=r0.cells.2.2.2.1;have PA:=aj (show Calls prog 21 #[.pointer (some ⟨c,0,none⟩)] w λe w'=>∃v,e=.returned v/\aT w' w.heap.size v s.l/\Below w.heap.size w w' from by
  obtain⟨FL,G,h1,_⟩:=r0;exact S.lU.all h1.jL hv.ok hB)
 have R0:=aj r0;have hlast:=hv.ok.last;have hfew:=hv.ok.iW;have PW:=aj (λ(Cs:Nat->Prop) (wr:World) (hr:Rv Has SH F Cs w wr B x o q g c m size es s) (a:Option Addr) (k:Nat) (hsl:vk wr a (kX s)) (hC:∀z,a=some z->Cs z.block)=>hr.Kr S (es':=lT es s m size) (Q:=λe _=>e=.returned (.int .i64 (rX es s m size))) (λFL hFL hn=>L.rewrite (kX s) a k hsl (JW hv.ok) (by have:=TY hv.ok;omega) (λz hz=>hn _ (hC z hz)) hz hFL hv.tidy hm (aje hB hr.room)));clear h r0 hfin hv hz;go_enter func83,ntmps83;go_wp2_with fail;refine(ah PB).mono ?_;rintro e w ⟨rfl,rfl⟩
 go_wp2_with fail;refine(ah PA).mono ?_;rintro e w1 ⟨v,rfl,a1,b1⟩;have R1:=aj ((ah R0).lF H S (jR:=λk=>v.ownBlock=some k) b1 (λk hk=>.inr (ajz a1 k hk)));have A1:=aj a1;have y3:=(ah R1).cells.2.2.2.1;have P2:=aj (show Calls prog 18 #[.pointer (some ⟨c,0,none⟩)] w1 λe w'=>e=.returned (.agg #[.int .i64 (s.l.length:Int),.int .i64 (bI s.l:Int),.int .i64 (dU s.l),.int .i64 s.last])/\Below w1.heap.size w1 w' from by
  obtain⟨FL,G,h1,_⟩:=ah R1;exact S.lU.BX h1.jL (ah HV).ok (aje hB (ah R1).room))
 obtain⟨n,hn⟩:∃n,s.last=n:=⟨_,rfl⟩;rw[hn] at P2 hlast;have HN:=aj hn;obtain⟨a,cap,hv1,cc1,cc2,_⟩:=a1.shape;clear PB PA a1 b1 R0 x3 hn;subst hv1;go_wp2_with fail;refine(ah P2).mono ?_;rintro e w2 ⟨rfl,b2⟩;have R2:=aj ((ah R1).below H S b2);have A2:=aj ((ah A1).below b2);have z2:=(ah R2).cells.2.2.1;clear P2 b2 R1 A1 y3;have hSL:=aat (.int .i64 (s.l.length:Int)) (.int .i64 (bI s.l:Int)) (.int .i64 (dU s.l)) (.int .i64 n);by_cases h0:n=0
 ·subst h0;have h0:=ah HN;obtain⟨a',cap',e1,_,_,hsl⟩:=(ah A2).shape;have PR:=aj (ah PW _ _ (ah R2) a cap (by
   rw[uK h0];have:=(ajO e1).1;rw[this];exact hsl) (λz hz=>by rw[hz];rfl))
  rw[uK h0] at PR;clear PW R2 A2 hsl e1 h0;go_wp2_with fail;refine(ah PR).mono ?_;rintro e w3 ⟨rfl,r3,_⟩;have D3:=aj (ah HF _ _ _ _ _ _ r3);clear PR r3;go_wp2_with fail;go_ret;exact⟨rfl,ah D3⟩
 ·have hp:0<s.last:=by rw[ah HN];omega
  have hne:(n !=0)=true:=by simpa using h0
  obtain⟨v8,w8,hrun,A8,C8,L8⟩:=Ua (w0:=w) (n:=n) (ah A2) hfew (ah R2).room;have R8:=(ah R2).own H S (jR:=λk=>v8.ownBlock=some k) C8 (λk hk=>⟨hk,(ajz (ah A2) k hk).1⟩) L8;obtain⟨a8,ahh,rfl,_,_,WR⟩:=A8.shape;rw[<-ah HN,<-uM hp] at WR;have PR:=aj (ah PW _ _ R8 a8 ahh WR (λz hz=>by rw[hz];rfl));rw[uM hp,ah HN,show(s.l++[qF n]).length=s.l.length+1 by simp] at PR;have z8:=R8.cells.2.2.1;have nU:=aj hrun;clear PW R2 A2 WR R8 A8 C8 L8 hrun z2;clear hp;go_wp2_with (at_builtin;refine ajy _ rfl _ _ _ _ rfl _ _ rfl rfl _ _ (ah nU) ?_)
  refine(ah PR).mono ?_;rintro e w3 ⟨rfl,r3,_⟩;have D3:=aj (ah HF _ _ _ _ _ _ r3);clear PR r3;go_wp2_with fail;go_ret;exact⟨rfl,ah D3⟩
end
