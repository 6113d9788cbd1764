/- A part. -/
import Derived.Test.YtidekgipblnpkaaGreatDoorQ4
import Derived.Test.YtidekgipblnpkaaGreatDoorQ22
import Derived.Test.YtidekgipblnpkaaGreatDoorQ35
set_option maxRecDepth 100000
set_option maxHeartbeats 8000000
namespace Go.Proofs.YtidekgipblnpkaaGreatDoor
open Go.RowKit Go.Proofs.Tryz
namespace Dk
theorem ah2:(prog.info? 5).map (λi=>(i.zero,i.size,i.bytes))=some (some (.int .u8 0),1,1):=by kernel_rfl
theorem afY (t s:ByteArray):Lib.strCells (t++s)=Lib.strCells t++Lib.strCells s:=by
 unfold Lib.strCells;rw[alp,ali,aki]
theorem bsize:(prog.info? 232).map (λi=>i.size)=some 2:=by kernel_rfl
theorem WY (b:Nat)(w:World)(h0:w.cell? ⟨b,0,none⟩=some (.pointer (some ⟨b,0,none⟩))) :
 Calls prog 224 #[.pointer (some ⟨b,0,none⟩)] w λe w'=>e=.returned (.tuple #[])/\w=w':=by
 obtain⟨j,hj,_⟩:=Option.map_eq_some_iff.1 bsize;go_enter func224,ntmps224;go_wp2_with fail;rw[Lib.run_neq_ptr_same w _ underlying230 hj];go_wp2_with fail;go_end0
 exact⟨rfl,rfl⟩
theorem aaC (b:Nat)(w:World)(h0:w.cell? ⟨b,0,none⟩=some (.pointer none))(hsh:w.shape? b=some (232,2))(hfz:w.frozen? ⟨b,0,none⟩=false) :
 Calls prog 224 #[.pointer (some ⟨b,0,none⟩)] w λe w'=>e=.returned (.tuple #[])/\w'=w.setCell ⟨b,0,none⟩ (.pointer (some ⟨b,0,none⟩)):=by
 obtain⟨j,hj,hjs⟩:=Option.map_eq_some_iff.1 bsize;go_enter func224,ntmps224;go_wp2_with fail;rw[Lib.run_to_unsafe w ⟨b,0,none⟩ underlying230 underlying267 hj (by rw[hjs];decide) hsh (Nat.zero_lt_succ 1)];simp only[Result.andThen];rw[Oper.upon_value];go_wp2_with fail;rw[run_callFunc_extern func244 (by kernel_rfl) (by kernel_rfl) (by kernel_rfl) (e:=Extern.AbiNoEscape.same) (by kernel_rfl),Lib.run_noEscape];simp only[Result.andThen];rw[Oper.upon_value];go_wp2_with fail;rw[Lib.run_from_unsafe w ⟨b,0,none⟩ underlying267 underlying230 hj hsh (by kernel_rfl)];simp only[Result.andThen]
 rw[Oper.upon_value];go_wp2_with fail;go_end0
 exact⟨rfl,rfl⟩
def WZ (w:World)(B b:Nat)(t:ByteArray):Prop:=Lib.IsBuilder 232 5 B b (Lib.strCells t) w
theorem WZ.Ol {w w':World}{B b:Nat}{t:ByteArray}(h:WZ w B b t)(hb:Below w.heap.size w w'):WZ w' B b t:=by
 have hat:∀p,Lib.BuilderAt 232 5 B b p (Lib.strCells t) w->Lib.BuilderAt 232 5 B b p (Lib.strCells t) w':=λp h=>by
  obtain⟨h1,v,h2,h3,h4⟩:=h;refine⟨h1,v,by rw[hb.block b (ajV.1 h2).1];exact h2,⟨h3.1,?_⟩,h4⟩;rcases h3.2 with y|⟨g,cap,cur,y1,y2,y3,y⟩
  ·exact .inl y
  ·exact .inr ⟨g,cap,cur,y1,y2,by rw[hb.block g (ajV.1 y3).1];exact y3,y⟩
 rcases h with h|h
 ·exact .inl (hat _ h)
 ·exact .inr (hat _ h)
theorem WZ.ahl {w:World}{B b:Nat}{t:ByteArray}(h:WZ w B b t)(o:Obj):WZ (w.alloc o) B b t:=h.Ol ((ajb _ _).alloc (Xc _) _)
theorem W9 (B b:Nat)(aF:List Value)(w:World)(h:Lib.IsBuilder 232 5 B b aF w) :
 Calls prog 224 #[.pointer (some ⟨b,0,none⟩)] w λe w'=>e=.returned (.tuple #[])/\Lib.BuilderAt 232 5 B b (.pointer (some ⟨b,0,none⟩)) aF w'/\Below B w w':=by
 rcases h with h|h
 ·refine(aaC b w h.cell0 h.shape h.frozen0).mono ?_;rintro e w' ⟨rfl,rfl⟩;exact⟨rfl,h.used _,(ajb B w).setCell (p:=⟨b,0,none⟩) h.1 _⟩
 ·refine(WY b w h.cell0).mono ?_;rintro e w' ⟨rfl,rfl⟩;exact⟨rfl,h,ajb B _⟩
theorem Xa (B b:Nat)(t s:ByteArray)(w:World)(h:WZ w B b t)(hlen:t.size+s.size<=140737488355328)(hB:B<=w.heap.size) :
 Calls prog 193 #[.pointer (some ⟨b,0,none⟩),.string s] w λe w'=>e=.returned (.tuple #[.int .i64 s.size,.nilIface])/\WZ w' B b (t++s)/\Below B w w':=by
 obtain⟨i0,hi,hz0,hz1,hz2⟩:=akJ ah2;go_enter func193,ntmps193;go_wp2_with fail;refine(W9 B b _ w h).mono ?_;rintro e w1 ⟨rfl,h1,b1⟩;obtain⟨hBb,v,hbk,hown,hne⟩:=h1;rw[alW] at hown;have hB1:=aje hB b1.size;have hlt:b<w1.heap.size:=(ajV.1 hbk).1;obtain⟨v',w2,hrun,hown2,hg2,_⟩:=Lib.run_append_own_string (P:=prog) w1 B 189 9 189 5 i0 underlying189 underlying9 hi hz0 hz1 hz2 v t.size (Lib.strCells t) hown s (by unfold maxLen;omega) (by omega) hB1;have hbk2:w2.heap[b]?=some (.cells #[.pointer (some ⟨b,0,none⟩),v] 232 (0,0)):=by rw[hg2.block b hlt (λz=>hne z.symm)];exact hbk
 have c1:w1.cell? ⟨b,1,none⟩=some v:=by rw[Lib.cell_of_heap hbk];rfl
 have d1:w2.cell? ⟨b,1,none⟩=some v:=by rw[Lib.cell_of_heap hbk2];rfl
 have f1:w2.frozen? ⟨b,1,none⟩=false:=Lib.frozen_of_heap hbk2 1;obtain⟨ao,n',cap,rfl⟩:∃ao n' cap,v'=.slice ao n' cap:=by
  rcases hown2.2 with ⟨hv,_⟩|⟨g,cap,cur,hv,_⟩
  ·exact⟨_,_,_,hv⟩
  ·exact⟨_,_,_,hv⟩
 have HX:Hid (WZ (w2.setCell ⟨b,1,none⟩ (.slice ao n' cap)) B b (t++s)/\Below B w (w2.setCell ⟨b,1,none⟩ (.slice ao n' cap))):=aj ⟨.inr (by
  rw[afY];exact Lib.BuilderAt.put (T:=232) (e:=5) hBb hbk2 (bs':=Lib.strCells t++Lib.strCells s) (by rw[ajh,alW,alW];exact hown2) (by decide)),
  b1.trans (((ajb B w1).grown hg2 hB1 (λk hk=>(ajz hown k hk).1)).setCell (p:=⟨b,1,none⟩) hBb _)⟩
 clear h b1 hown hown2 hg2 hbk hbk2 hne;go_wp2_with (at_builtin;refine ajy _ rfl _ _ 189 9 rfl _ _ rfl rfl _ _ hrun ?_);go_ret2;exact⟨rfl,ah HX⟩
theorem Uh (B b:Nat)(t:ByteArray)(w:World)(h:WZ w B b t)(hB:B<=w.heap.size) :
 Calls prog 194 #[.pointer (some ⟨b,0,none⟩)] w λe w'=>e=.returned (.string t)/\Below B w w':=by
 have h1:=Tryz.Builder_String_any B b t.data.toList w (by rw[<-Lib.strCells_eq];exact h) hB;have e:(⟨t.data.toList.toArray⟩:ByteArray)=t:=by simp
 rw[e] at h1;exact h1
def PV (l:List Rc):Value:=if gu l=0 then .tuple #[.string (dM l),.int .i64 0] else .tuple #[.string ⟨#[]⟩,.int .i64 (gu l)]
theorem Ui (l:List Rc)(a:Option Addr)(c:Nat)(w:World)(hsl:vk w a l)(hsm:∀k,k<l.length->Small (rc l k))(hl:l.length<=200000) :
 Calls prog 154 #[.slice a l.length c] w λe w'=>e=.returned (PV l)/\Below w.heap.size w w':=by
 have Bf:=aj hsl;have HM:=aj hsm;have B0:Hid (WZ (w.alloc (.cells #[.pointer none,.slice none 0 0] 232)) w.heap.size w.heap.size ByteArray.empty/\Below w.heap.size w (w.alloc (.cells #[.pointer none,.slice none 0 0] 232))):=aj ⟨Lib.fresh_isBuilder 232 5 w,(ajb _ w).alloc (Xc _) _⟩;clear hsl hsm;go_enter func154,ntmps154;go_wp2_with fail;go_loopw [11] (λiv wr=>∃(k:Nat),iv=.int .i64 k/\k<=l.length/\Hid (gu (l.take k)=0)/\Hid (WZ wr w.heap.size w.heap.size (dM (l.take k))/\Below w.heap.size w wr)) (λiv _=>l.length-(intOf iv).toNat)
 case atStart=>exact⟨0,rfl,ajm _,aj rfl,B0⟩
 case round =>
  clear B0;obtain⟨k,rfl,hkl,HB,Hb⟩:=hrel;by_cases hlt:k<l.length
  ·obtain⟨ga,o,rfl,s6⟩:=ah Bf k hlt;have s7:=s6.below (ah Hb).2 s6.lt;obtain⟨r,hr⟩:∃r,r=rc l k:=⟨_,rfl⟩;have hsm:=ah HM k hlt;have hbt:=yH hlt (ah HB);have hct:=Le hlt;have hbf:=λh=>FU hlt (ah HB) h
   have hts:=xw (l.take k) (ah HB);rw[ajn,amE hkl] at hts;rw[<-hr] at s7 hsm hbt hct hbf;obtain⟨_,x0,x1,x2,x3,x4,x5⟩:=s7;have C1:Hid (∀W,Calls prog 177 #[.agg #[.int .i64 r.k,.int .i64 r.q,.int .i64 r.t,.string r.s,.string r.h,.string r.d]] W λe w'=>e=.returned (KL r.k r.q r.t r.s r.h r.d)/\Below W.heap.size W w'):=aj (λW=>Jo r.k r.q r.t r.s r.h r.d W hsm.s hsm.h hsm.d);obtain⟨E,hE⟩:∃E,dL r=E:=⟨_,rfl⟩;have B0:Hid (WZ (wr.alloc (mG r)) w.heap.size w.heap.size (dM (l.take k))/\Below w.heap.size w (wr.alloc (mG r))):=aj ⟨(ah Hb).1.ahl _,ak (ah Hb).2 ((ajb _ _).alloc (Xc _) _)⟩
   unfold mG at B0;by_cases h0:E=0
   ·have hc:dL r=0:=by rw[hE];exact h0
    rw[SY hc] at C1;have HB2:Hid (gu (l.take (k+1))=0):=aj (by rw[hbt];exact hc);have hcs:=ru hc;have PW:Hid (∀W,WZ W w.heap.size w.heap.size (dM (l.take k))->Below w.heap.size w W->Calls prog 193 #[.pointer (some ⟨w.heap.size,0,none⟩),.string (bK r)] W λe w'=>e=.returned (.tuple #[.int .i64 (bK r).size,.nilIface])/\WZ w' w.heap.size w.heap.size (dM (l.take (k+1)))/\Below w.heap.size W w'):=aj (λW hW hb=>by
     rw[hct];exact Xa _ _ _ _ W hW (by omega) hb.size)
    clear hE h0 hc hbt hct hbf hr HB s6 Hb hts;go_wp2_with fail;refine(ah C1 _).mono ?_;rintro e w2 ⟨rfl,b2⟩;have B2:=aj (And.intro ((ah B0).1.Ol b2) (ak (ah B0).2 b2));have PW2:=aj (ah PW w2 (ah B2).1 (ah B2).2);clear b2 B0 x0 x1 x2 x3 x4 x5 PW;go_wp2_with fail;refine(ah PW2).mono ?_;rintro e w3 ⟨rfl,h3,b3⟩;have B3:=aj (And.intro h3 ((ah B2).2.trans b3));clear h3 b3 B2 PW2;go_wp2_with fail;refine⟨⟨k+1,by go_num,by omega,HB2,B3⟩,?_⟩;simp[intOf];omega
   ·have fE:Hid (PV l=.tuple #[.string ⟨#[]⟩,.int .i64 E]):=aj (by
     have h1:=(hbf (by rw[hE];exact h0)).trans hE;unfold PV;rw[h1,if_neg h0])
    rw[Yl hE h0] at C1;have h1:(E !=0)=true:=by simpa using h0
    clear hE hbt hct hbf hr HB s6 Hb;go_wp2_with fail;refine(ah C1 _).mono ?_;rintro e w1 ⟨rfl,b1⟩;have E1:=aj (ak (ah B0).2 b1);clear b1 x0 x1 x2 x3 x4 x5 B0;go_wp2_with fail;go_ret2;rw[ah fE];exact⟨rfl,ah E1⟩
  ·obtain rfl:k=l.length:=by omega
   have HV:Hid (PV l=.tuple #[.string (dM l),.int .i64 0]):=aj (by
    have:=ah HB;rw[ajN] at this;unfold PV;rw[if_pos this])
   have h3:=ah Hb;rw[ajN] at h3;have PS:=aj (Uh _ _ _ _ h3.1 h3.2.size);have B3:=aj h3.2;clear h3 Hb HB;go_wp2_with fail;refine(ah PS).mono ?_;rintro e w4 ⟨rfl,b4⟩;have B4:=aj ((ah B3).trans b4);clear b4 PS B3;go_wp2_with fail;go_ret2;rw[ah HV];exact⟨rfl,ah B4⟩
theorem afZ {m:Int}{es:List ay}{t:ByteArray}(ht:Tidy m es)(h0:bJ es m (dJ es) t=0):gU es m (dJ es) t=es++[⟨dJ es,0,t⟩]:=by
 by_cases hz:es.length=0
 ·obtain rfl:es=[]:=ajZ hz;obtain⟨hI,hf⟩:=lC.1 h0;rw[(sV hI hf (by simp)).2];simp[ku]
 ·obtain⟨pre,e,rfl⟩:∃pre e,es=pre++[e]:=⟨es.dropLast,es.getLast (by intro h;rw[h] at hz;simp at hz),(List.dropLast_concat_getLast _).symm⟩;have hn:dJ (pre++[e])=e.n+1:=by
   unfold dJ;rw[if_neg hz,(xB ht.jT).2.2]
  rw[hn] at h0 ⊢;exact QI ht.jT h0
theorem adV {m:Int}{es:List ay}{n:Int}{t:ByteArray}(ht:Tidy m (es++[⟨n,0,t⟩])):dO (es++[⟨n,0,t⟩]) n=es++[⟨n,(t.size:Int),t⟩]:=by
 have:=BK (pre:=es) (e:=⟨n,0,t⟩) ht.jT;simpa[jE] using this
theorem adW {m:Int}{es:List ay}{x:ay}(ht:Tidy m (es++[x])):(aP es).reverse.foldl jS (es++[x])=[x]:=by
 have h:=NZ [x] es.length [] es rfl (by rw[akh];exact ht.jT);rw[akh,akh] at h;exact h
theorem adX {l:List Rc}{E:Int}(h:gu l=E)(h0:E≠0):PV l=.tuple #[.string ⟨#[]⟩,.int .i64 E]:=by unfold PV;rw[h,if_neg h0]
theorem aaD {l:List Rc}(h:gu l=0):PV l=.tuple #[.string (dM l),.int .i64 0]:=by unfold PV;rw[if_pos h]
section
variable {Has:World->Nat->Nat->(Nat->Prop)->Int->List ay->Prop}{w wr:World}{B q g:Nat}{size:Int}{F:Nat->Prop}{m:Int}{es:List ay}{Cs:Nat->Prop}
theorem qc.blocks (H:qy Has)(HS:oh Has)(h:qc Has Cs w wr B q F m es)(ht:Tidy m es)(hm:m<=65536)(hB:B<=w.heap.size)(c0:wr.cell? ⟨g,0,none⟩=some (.pointer (some ⟨q,0,none⟩))) :
 Calls prog 155 #[.pointer (some ⟨g,0,none⟩)] wr λe w'=>∃a c,e=.returned (.slice a es.length c)/\(es.length<=c/\c<=maxLen)/\pY w' a (aP es)/\qc Has (λk=>Cs k\/∃z,a=some z/\z.block=k) w w' B q F m es/\Kept Cs wr w':=by
 have hr:=h.room;obtain⟨F',h1,_⟩:=id h;refine(wF HS h1 ht hm (aje hB hr) c0).mono ?_;rintro e w' ⟨a,c,he,hc,hs,ha,hb⟩;refine⟨a,c,he,hc,hs,h.lF H hb (λk hk=>?_),(h.below H hb).2⟩;rcases hk with y|⟨z,hz,rfl⟩
 ·exact .inl y
 ·exact .inr (ha z hz)
theorem qc.Pg (H:qy Has)(HS:oh Has)(h:qc Has Cs w wr B q F m es)(a:Option Addr)(zs:List Int)(cap:Nat)(hz:∀k,k<zs.length->wf (nth zs k))(hlen:zs.length<=1000)(hs:pY wr a zs)(ha:∀z,a=some z->Cs z.block)(ht:Tidy m es)(hm:m<=65536)(hB:B<=w.heap.size) :
 Calls prog 160 #[.pointer (some ⟨q,0,none⟩),.slice a zs.length cap] wr λe w'=>e=.returned (.tuple #[])/\qc Has Cs w w' B q F m (zs.reverse.foldl jS es)/\Kept Cs wr w':=by
 have hr:=h.room;refine h.N7 (Q:=λe _=>e=.returned (.tuple #[])) (es':=zs.reverse.foldl jS es) (λF' hF hC=>?_);refine(FY H HS a zs cap hz hlen hs (λz hz=>hC _ (ha z hz)) hF ht hm (aje hB hr)).mono ?_;rintro e w' ⟨h1,h2,h3⟩;exact⟨h1,F',h2,h3,λ_ hk=>.inl hk⟩
theorem PX (H:jZ Has)(HS:oh Has)(l:List Rc)(a:Option Addr)(c:Nat)(hsl:vk w a l)(hsm:∀k,k<l.length->Small (rc l k))(hl:l.length<=200000)(h:Has w B q F m es)(ht:Tidy m es)(hm:m<=65536)(hB:B<=w.heap.size)(c0:w.cell? ⟨g,0,none⟩=some (.pointer (some ⟨q,0,none⟩)))(c1:w.cell? ⟨g,1,none⟩=some (.int .i64 size))(hg:g<w.heap.size/\¬F g) :
 Calls prog 120 #[.pointer (some ⟨g,0,none⟩),.slice a l.length c] w λe w'=>e=.returned (.int .i64 (iP es m size l).1)/\oO Has w w' B q F m (iP es m size l).2:=by
 have hfew:=ht.iW;have R0:=qc.start (Cs:=λk=>k=g) h (λk hk=>by subst hk;exact hg);have U0:=aj R0;have HT:=aj ht;have PE:=aj (Ui l a c w hsl hsm hl);clear h ht R0 hsl hsm;obtain⟨E,hE⟩:∃E,gu l=E:=⟨_,rfl⟩;by_cases h0:E=0
 ·rw[h0] at hE;have hts:=xw l hE;rw[aaD hE] at PE;have HB0:=aj hE;obtain⟨t,ht0⟩:∃t,t=dM l:=⟨_,rfl⟩;rw[<-ht0] at PE hts;have xX:=aj ht0;clear h0 hE ht0;go_enter func120,ntmps120;go_wp2_with fail;refine(ah PE).mono ?_;rintro e w1 ⟨rfl,b1⟩;obtain⟨r1,k1⟩:=(ah U0).below H.dV b1;have d0:=(k1.cell (C:=g) (j:=0) rfl).trans c0;have d1:=(k1.cell (C:=g) (j:=1) rfl).trans c1;have E0:=aj r1.done;have PL:=aj (r1.blocks (g:=g) H.dV HS (ah HT) hm hB d0);clear b1 r1 k1 c0 c1 U0 PE;by_cases og:1<l.length/\size<(t.size:Int)
  ·have fE:Hid (iP es m size l=(8,es)):=aj (Iu (ah HB0) (by rw[<-ah xX];exact og));have hg1:(1:Int)<(l.length:Int):=by omega
   have hg2:=og.2;clear og PL;go_wp2_with fail;go_ret;rw[ah fE];exact⟨rfl,ah E0⟩
  ·have HL:Hid (¬(1<l.length/\size<(t.size:Int))):=aj og;have HN:=aj (Iw es);have hlast:-1<=qC es/\qC es<=1099511627776:=by
    by_cases hz:es.length=0
    ·rw[oZ hz];omega
    ·obtain⟨k,hk1⟩:∃k,k+1=es.length:=⟨es.length-1,by omega⟩;rw[mM hk1];have hnl:=(ah HT).each _ (iD (show k<es.length by omega));have hn1:0<=(pa es k).n/\(pa es k).n<=1099511627776:=by simpa[dn] using hnl.1
     omega
   have hw:IntKind.i64.wrap (qC es+1)=dJ es:=by rw[ah HN,ajq];omega
   have HWz:Hid (∀k,k<(aP es).length->wf (nth (aP es) k)):=aj (λk hk=>by
    rw[oW] at hk;rw[NV hk];exact KZ ((ah HT).each _ (iD hk)).1)
   have hcase:((1:Int)<(l.length:Int)/\decide (size<(t.size:Int))=false)\/decide ((1:Int)<(l.length:Int))=false:=by
    by_cases hg':1<l.length
    ·exact .inl ⟨by omega,ajd (by omega)⟩
    ·exact .inr (ajd (by omega))
   have hAE:∃E8,bJ es m (dJ es) t=E8:=⟨_,rfl⟩;obtain⟨E8,hE8⟩:=hAE;have HOK:Hid (E8=0->gU es m (dJ es) t=es++[⟨dJ es,0,t⟩]/\Tidy m (es++[⟨dJ es,0,t⟩])/\wf (dJ es)/\iP es m size l=(0,[⟨dJ es,(t.size:Int),t⟩])):=aj (λz=>by
    rw[z] at hE8;have e1:=afZ (t:=t) (ah HT) hE8;refine⟨e1,by rw[<-e1];exact(ah HT).app (dJ es) t,KZ (lC.1 hE8).1,?_⟩;have:=zu (es:=es) (m:=m) (size:=size) (ah HB0) (by rw[<-ah xX];exact ah HL) (by rw[<-ah xX];exact hE8);rw[<-ah xX] at this;exact this)
   have HNO:Hid (E8≠0->gU es m (dJ es) t=es/\iP es m size l=(E8,es)):=aj (λz=>by
    rw[<-hE8] at z;refine⟨jr z,?_⟩;have:=rC (es:=es) (m:=m) (size:=size) (ah HB0) (by rw[<-ah xX];exact ah HL) (by rw[<-ah xX];exact z);rw[<-ah xX,hE8] at this;exact this)
   have HE8:=aj hE8;clear og E0 hlast hE8;rcases hcase with ⟨hg1,hg2⟩|hg1;all_goals go_wp2_with fail
   all_goals refine(ah PL).mono ?_
   all_goals rintro e w2 ⟨a2,c2,rfl,_,s2,r2,k2⟩
   all_goals have f0:=(k2.cell (C:=g) (j:=0) rfl).trans d0
   all_goals have S2:=aj s2
   all_goals have PN:=aj (r2.looks H.dV (λF' hF=>Cc (g:=g) HS hF (ah HT) hm (aje hB r2.room) f0))
   all_goals clear PL k2 d0 d1 s2 r2
   all_goals go_wp2_with fail
   all_goals refine(ah PN).mono ?_
   all_goals rintro e w3 ⟨rfl,r3,k3⟩
   all_goals have g0:=(k3.cell (C:=g) (j:=0) (.inl rfl)).trans f0
   all_goals have S3:=aj (k3.nums (ah S2) (λz hz=>.inr ⟨z,hz,rfl⟩))
   all_goals have PF:=aj (iU g0)
   all_goals have PA:=aj (r3.did (λF' hF=>H.dV.append (dJ es) t hF (ah HT) hm (by omega) (aje hB r3.room)))
   all_goals rw[ah HE8] at PA
   all_goals clear PN k3 f0 S2 r3
   all_goals go_wp2_with fail
   all_goals refine(ah PF).mono ?_
   all_goals rintro e w4 ⟨rfl,rfl⟩
   all_goals go_wp2_with fail
   all_goals refine(ah PA).mono ?_
   all_goals rintro e w5 ⟨rfl,r5,k5⟩
   all_goals have l0:=(k5.cell (C:=g) (j:=0) (.inl rfl)).trans g0
   all_goals have S5:=aj (k5.nums (ah S3) (λz hz=>.inr ⟨z,hz,rfl⟩))
   all_goals clear PA PF k5 g0 S3
   all_goals by_cases h8:E8=0
   all_goals first
    | (
     obtain⟨e1,ht3,hwf,fE⟩:=ah HOK h8
     rw[e1] at r5
     have HT3:=aj ht3
     have HT4:=aj (ht3.sync (dJ es))
     have ahm:=aj fE
     have PS:=aj (r5.did (λF' hF=>H.dV.sync (dJ es) hwf hF (ah HT3) hm (aje hB r5.room)))
     rw[adV ht3] at PS HT4
     have PF:=aj (iU l0)
     subst h8
     clear r5 e1 ht3 hwf fE HOK HNO HE8
     go_wp2_with fail
     refine(ah PF).mono ?_
     rintro e w6 ⟨rfl,rfl⟩
     go_wp2_with fail
     refine(ah PS).mono ?_
     rintro e w7 ⟨rfl,r7,k7⟩
     have q0:=(k7.cell (C:=g) (j:=0) (.inl rfl)).trans l0
     have S7:=k7.nums (ah S5) (λz hz=>.inr ⟨z,hz,rfl⟩)
     have PR:=aj (r7.Pg H.dV HS a2 (aP es) c2 (ah HWz) (by rw[oW];omega) S7 (λz hz=>.inr ⟨z,hz,rfl⟩) (ah HT4) hm hB)
     rw[adW (ah HT4),oW] at PR
     have PF2:=aj (iU q0)
     clear PS PF k7 r7 S7 S5 l0
     go_wp2_with fail
     refine(ah PF2).mono ?_
     rintro e w8 ⟨rfl,rfl⟩
     go_wp2_with fail
     refine(ah PR).mono ?_
     rintro e w9 ⟨rfl,r9,_⟩
     have E9:=aj r9.done
     clear PR PF2 r9
     go_wp2_with fail
     go_ret
     rw[ah ahm]
     exact⟨rfl,ah E9⟩)
    | (
     obtain⟨e1,fE⟩:=ah HNO h8
     rw[e1] at r5
     have E5:=aj r5.done
     have ahm:=aj fE
     have hE':(E8 !=0)=true:=by simpa using h8
     clear r5 e1 fE HOK HNO HE8
     go_wp2_with fail
     go_ret
     rw[ah ahm]
     exact⟨rfl,ah E5⟩)
 ·have fE:Hid (iP es m size l=(E,es)):=aj (QF hE h0);rw[adX hE h0] at PE;have h1:(E !=0)=true:=by simpa using h0
  clear hE;go_enter func120,ntmps120;go_wp2_with fail;refine(ah PE).mono ?_;rintro e w1 ⟨rfl,b1⟩;have E1:=aj ((ah U0).below H.dV b1).1.done;clear b1 U0 PE;go_wp2_with fail;go_ret;rw[ah fE];exact⟨rfl,ah E1⟩
end
theorem aaE {Has:World->Nat->Nat->(Nat->Prop)->Int->List ay->Prop}(H:jZ Has)(HS:oh Has):yG Has (jV Has):={
 looks:=jV.looks H
 down:=λh=>h.down
 bad:=λsize hz _ _ _ hB=>Nk size hz hB
 jY:=λsize hz h ht hm hB=>aaq H HS size hz h ht hm hB
 append:=λr hs _ h ht hm hB=>by
  obtain⟨F0,hr,c0,c1,_,hfin⟩:=h.begin;refine(hr.N7 (λF' hF hC=>Tc H HS r hs hF ht hm hB c0 c1 (hC _ rfl))).mono ?_;rintro e w' ⟨h1,h2,_⟩;exact⟨h1,hfin _ _ h2⟩
 sync:=λ_ h ht hm hB=>by
  obtain⟨F0,hr,c0,_,_,hfin⟩:=h.begin;refine(hr.N7 (λF' hF hC=>MO H HS hF ht hm hB c0 (hC _ rfl))).mono ?_;rintro e w' ⟨h1,h2,_⟩;exact⟨h1,hfin _ _ h2⟩
 rewrite:=λl a c hsl hsm hl _ _ h ht hm hB=>by
  obtain⟨F0,hr,c0,c1,_,hfin⟩:=h.begin;refine(hr.N7 (λF' hF hC=>PX H HS l a c hsl hsm hl hF ht hm hB c0 c1 (hC _ rfl))).mono ?_;rintro e w' ⟨h1,h2,_⟩;exact⟨h1,hfin _ _ h2⟩
 blocks:=λ_ h ht hm hB=>by
  obtain⟨F0,hr,c0,_,_,hfin⟩:=h.begin;obtain⟨F',h1,_⟩:=id hr;refine(wF HS h1 ht hm hB c0).mono ?_;rintro e w' ⟨a,c,he,_,hs,_,hb⟩;exact⟨a,c,he,hs,hfin _ _ (hr.below H.dV hb).1⟩}
