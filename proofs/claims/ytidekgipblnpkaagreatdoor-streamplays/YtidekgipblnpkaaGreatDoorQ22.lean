/- A part. -/
import Derived.Test.YtidekgipblnpkaaGreatDoorQ18
import Derived.StillTailTactics
set_option maxRecDepth 100000
set_option maxHeartbeats 8000000
namespace Go.Proofs.YtidekgipblnpkaaGreatDoor
open Go.RowKit Go.Proofs.Tryz
namespace Dk
section
variable {Has:World->Nat->Nat->(Nat->Prop)->Int->List ay->Prop}{w:World}{B q g:Nat}{size:Int}{F:Nat->Prop}{m:Int}{es:List ay}
theorem iU (c0:w.cell? ⟨g,0,none⟩=some (.pointer (some ⟨q,0,none⟩))) :
 Calls prog 157 #[.pointer (some ⟨g,0,none⟩)] w λe w'=>e=.returned (.pointer (some ⟨q,0,none⟩))/\w=w':=by
 go_enter func157,ntmps157;go_wp2_with fail;go_ret;exact⟨rfl,rfl⟩
theorem wF (HS:oh Has)(h:Has w B q F m es)(ht:Tidy m es)(hm:m<=65536)(hB:B<=w.heap.size)(c0:w.cell? ⟨g,0,none⟩=some (.pointer (some ⟨q,0,none⟩))) :
 Calls prog 155 #[.pointer (some ⟨g,0,none⟩)] w λe w'=>∃a c,e=.returned (.slice a es.length c)/\(es.length<=c/\c<=maxLen)/\pY w' a (aP es)/\(∀z,a=some z->w.heap.size<=z.block/\z.block<w'.heap.size)/\Below w.heap.size w w':=by
 have PL:=aj (HS.list h ht hm hB);have PF:=aj (iU c0);clear h ht;go_enter func155,ntmps155;go_wp2_with fail;refine(ah PF).mono ?_;rintro e w1 ⟨rfl,rfl⟩;go_wp2_with fail;refine(ah PL).mono ?_;rintro e w2 ⟨a,c,rfl,p2⟩;have P2:=aj p2;clear p2 PL PF;go_wp2_with fail;go_ret;exact⟨a,c,rfl,ah P2⟩
theorem Cc (HS:oh Has)(h:Has w B q F m es)(ht:Tidy m es)(hm:m<=65536)(hB:B<=w.heap.size)(c0:w.cell? ⟨g,0,none⟩=some (.pointer (some ⟨q,0,none⟩))) :
 Calls prog 156 #[.pointer (some ⟨g,0,none⟩)] w λe w'=>e=.returned (.int .i64 (qC es))/\Below w.heap.size w w':=by
 have hfew:=ht.iW;have PL:=aj (wF (g:=g) HS h ht hm hB c0);clear h ht;go_enter func156,ntmps156;go_wp2_with fail;refine(ah PL).mono ?_;rintro e w1 ⟨a,c,rfl,_,s1,_,b1⟩;have B1:=aj b1;clear PL b1;by_cases hz:es.length=0
 ·have HN:=aj (oZ hz);obtain rfl:es=[]:=ajZ hz;clear s1 hz;go_wp2_with fail;go_ret;exact⟨rfl,ah B1⟩
 ·obtain⟨k,hk1⟩:∃k,k+1=es.length:=⟨es.length-1,by omega⟩;have hk2:k<es.length:=by omega
  have HN:=aj (mM hk1);have hw:IntKind.i64.wrap ((es.length:Int)-1)=(k:Int):=by rw[ajq];omega
  have hz':((es.length:Int)==0)=false:=by rw[ajr];omega
  obtain⟨ba,oa,rfl,hba,n1⟩:=s1.num hk2;clear hk1 hz s1;go_wp2_with fail;go_ret;rw[ah HN];exact⟨rfl,ah B1⟩
theorem MO (H:jZ Has)(HS:oh Has)(h:Has w B q F m es)(ht:Tidy m es)(hm:m<=65536)(hB:B<=w.heap.size)(c0:w.cell? ⟨g,0,none⟩=some (.pointer (some ⟨q,0,none⟩)))(hg:g<w.heap.size/\¬F g) :
 Calls prog 138 #[.pointer (some ⟨g,0,none⟩)] w λe w'=>e=.returned (.int .i64 0)/\oO Has w w' B q F m (fM es):=by
 have R0:=qc.start (Cs:=λk=>k=g) h (λk hk=>by subst hk;exact hg);have PL:=aj (Cc (g:=g) HS h ht hm hB c0);have U0:=aj R0;have HT:=aj ht;clear h ht R0;go_enter func138,ntmps138;go_wp2_with fail;refine(ah PL).mono ?_;rintro e w1 ⟨rfl,b1⟩;obtain⟨r1,k1⟩:=(ah U0).below H.dV b1;have d0:=(k1.cell (C:=g) (j:=0) rfl).trans c0;clear PL b1 k1 c0 U0;by_cases hz:es.length=0
 ·have E1:Hid (oO Has w w1 B q F m (fM es)):=aj (by rw[Ll hz];exact r1.done);have hN:=oZ hz;clear r1 hz;rw[hN];go_wp2_with fail;go_ret;exact⟨rfl,ah E1⟩
 ·obtain⟨k,hk1⟩:∃k,k+1=es.length:=⟨es.length-1,by omega⟩;have hk2:k<es.length:=by omega
  have hN:=mM hk1;have hnl:=(ah HT).each _ (iD hk2);have hn1:0<=(pa es k).n/\(pa es k).n<=1099511627776:=by simpa[dn] using hnl.1
  have hwn:=KZ hnl.1;have hneg:¬(pa es k).n<0:=by omega
  have PF:=aj (iU d0);have PS:=aj (r1.did (λF' hF=>H.dV.sync (pa es k).n hwn hF (ah HT) hm (aje hB r1.room)));rw[abr (ah HT) hk2,<-IB hk1] at PS;rw[hN];clear hk1 hz r1 hnl hN hwn;go_wp2_with fail;refine(ah PF).mono ?_;rintro e w2 ⟨rfl,rfl⟩;go_wp2_with fail;refine(ah PS).mono ?_;rintro e w3 ⟨rfl,r3,_⟩;have E3:=aj r3.done;clear r3 PS PF;go_wp2_with fail;go_ret;exact⟨rfl,ah E3⟩
theorem acU {k:Nat}(h:k+1=es.length)(s:ByteArray):yh es size s=(decide (0<(pa es k).text.size)&&decide (size<((pa es k).text.size:Int)+(s.size:Int))):=by unfold yh;rw[tu h]
theorem ZV (HS:oh Has)(s:ByteArray)(hs:s.size<=140737488355328){k:Nat}(hk1:k+1=es.length)(h:Has w B q F m es)(ht:Tidy m es)(hm:m<=65536)(hB:B<=w.heap.size)(c0:w.cell? ⟨g,0,none⟩=some (.pointer (some ⟨q,0,none⟩)))(c1:w.cell? ⟨g,1,none⟩=some (.int .i64 size))(hg:g<w.heap.size) :
 Calls prog 178 #[.pointer (some ⟨g,0,none⟩),.int .i64 (pa es k).n,.string s] w λe w'=>e=.returned (.bool (!yh es size s))/\Below w.heap.size w w':=by
 have hk2:k<es.length:=by omega
 have hfit:=ht.fits;have hu:=oU (iD hk2);have hnl:=ht.each _ (iD hk2);have PF:=aj (iU c0);have PR:=aj (HS.reads (pa es k).n (KZ hnl.1) h ht hm hB);rw[Ir ht hk2] at PR;have HFl:=aj (acU (size:=size) hk1 s);obtain⟨n,hn⟩:∃n,n=(pa es k).n:=⟨_,rfl⟩;obtain⟨tx,htx⟩:∃tx,tx=(pa es k).text:=⟨_,rfl⟩;rw[<-htx] at PR hu HFl;rw[<-hn] at PR ⊢;have hw3:IntKind.i64.wrap ((tx.size:Int)+(s.size:Int))=(tx.size:Int)+(s.size:Int):=by rw[ajq];omega
 clear h ht hnl hn htx hk1 hk2;go_enter func178,ntmps178;go_wp2_with fail;refine(ah PF).mono ?_;rintro e w1 ⟨rfl,rfl⟩;go_wp2_with fail;refine(ah PR).mono ?_;rintro e w2 ⟨rfl,b2⟩;have d1:=(b2.cell (p:=⟨g,1,none⟩) hg).trans c1;have B2:=aj b2;clear b2 PR PF c0 c1;by_cases hz:0<tx.size
 ·have hf0:¬tx.toList=[]:=by rw[Jl];omega
  have hf1:(!tx.toList.isEmpty)=true:=by rw[uD,ajd (by omega)];rfl
  have hf2:tx.toList.isEmpty=false:=by rw[uD,ajd (by omega)]
  by_cases hl:size<(tx.size:Int)+(s.size:Int)
  ·have hd:decide ((tx.size:Int)+(s.size:Int)<=size)=false:=ajd (by omega);go_wp2_with fail;go_ret;rw[ah HFl,ajg (p:=0<tx.size) (by omega),ajg (p:=size<(tx.size:Int)+(s.size:Int)) (by omega)];exact⟨rfl,ah B2⟩
  ·have hd:decide ((tx.size:Int)+(s.size:Int)<=size)=true:=ajg (by omega);go_wp2_with fail;go_ret;rw[ah HFl,ajg (p:=0<tx.size) (by omega),ajd (p:=size<(tx.size:Int)+(s.size:Int)) (by omega)];exact⟨rfl,ah B2⟩
 ·have hf0:tx.toList=[]:=by rw[Jl];omega
  have hf2:tx.toList.isEmpty=true:=by rw[uD,ajg (by omega)]
  go_wp2_with fail;go_ret;rw[ah HFl,ajd (p:=0<tx.size) (by omega)];exact⟨rfl,ah B2⟩
theorem Js (H:jZ Has)(HS:oh Has)(s:ByteArray)(hs:s.size<=140737488355328)(h:Has w B q F m es)(ht:Tidy m es)(hm:m<=65536)(hB:B<=w.heap.size)(c0:w.cell? ⟨g,0,none⟩=some (.pointer (some ⟨q,0,none⟩)))(hg:g<w.heap.size/\¬F g) :
 Calls prog 179 #[.pointer (some ⟨g,0,none⟩),.int .i64 (qC es),.string s] w λe w'=>e=.returned (.int .i64 (bJ es m (dJ es) s))/\oO Has w w' B q F m (NW es m s):=by
 have R0:=qc.start (Cs:=λk=>k=g) h (λk hk=>by subst hk;exact hg);have hlast:-1<=qC es/\qC es<=1099511627776:=by
  by_cases hz:es.length=0
  ·rw[oZ hz];omega
  ·obtain⟨k,hk1⟩:∃k,k+1=es.length:=⟨es.length-1,by omega⟩;rw[mM hk1];have hnl:=ht.each _ (iD (show k<es.length by omega));have hn1:0<=(pa es k).n/\(pa es k).n<=1099511627776:=by simpa[dn] using hnl.1
   omega
 have HN:=aj (Iw es);obtain⟨n,hn⟩:∃n,n=qC es:=⟨_,rfl⟩;rw[<-hn] at hlast HN ⊢;have hw:IntKind.i64.wrap (n+1)=n+1:=by rw[ajq];omega
 have PF:=aj (iU c0);have PT:=aj (HS.tries (n+1) s h ht hm hs hB);have U0:=aj R0;have HT:=aj ht;obtain⟨E,hE⟩:∃E,bJ es m (n+1) s=E:=⟨_,rfl⟩;rw[hE] at PT;have HB1:Hid (E=0->NW es m s=gU (fM es) m (n+1) s/\bJ (fM es) m (n+1) s=0):=aj (λz=>by
  rw[z] at hE;refine⟨?_,by rw[UK];exact hE⟩;rw[NY (by rw[ah HN];exact hE),ah HN])
 have HB2:Hid (E≠0->NW es m s=es):=aj (λz=>Iy (by rw[ah HN,hE];exact z));have HE:Hid (bJ es m (dJ es) s=E):=aj (by rw[ah HN];exact hE);clear h ht R0 hn hE;go_enter func179,ntmps179;go_wp2_with fail;refine(ah PF).mono ?_;rintro e w1 ⟨rfl,rfl⟩;go_wp2_with fail;refine(ah PT).mono ?_;rintro e w2 ⟨rfl,b2⟩;obtain⟨r2,k2⟩:=(ah U0).below H.dV b2;have d0:=(k2.cell (C:=g) (j:=0) rfl).trans c0;clear PT PF b2 k2 c0 U0;by_cases h0:E=0
 ·obtain⟨e1,e2⟩:=ah HB1 h0;subst h0;have PS:=aj (r2.N7 (λF' hF hC=>MO (g:=g) H HS hF (ah HT) hm (aje hB r2.room) d0 (hC g rfl)));have HT3:=aj (ah HT).agn;have hb2:=r2.room;clear r2 HB1 HB2;go_wp2_with fail;refine(ah PS).mono ?_;rintro e w3 ⟨rfl,r3,k3⟩;have f0:=(k3.cell (C:=g) (j:=0) rfl).trans d0;have PF:=aj (iU f0);have PA:=aj (r3.did (λF' hF=>H.dV.append (n+1) s hF (ah HT3) hm hs (aje hB r3.room)));rw[e2,<-e1] at PA;clear r3 k3 PS d0;go_wp2_with fail;refine(ah PF).mono ?_;rintro e w4 ⟨rfl,rfl⟩;go_wp2_with fail;refine(ah PA).mono ?_
  rintro e w5 ⟨rfl,r5,_⟩;have E5:=aj r5.done;clear r5 PA PF;go_wp2_with fail;go_ret;rw[ah HE];exact⟨rfl,ah E5⟩
 ·have hE':(E !=0)=true:=by simpa using h0
  have E2:Hid (oO Has w w2 B q F m (NW es m s)):=aj (by rw[ah HB2 h0];exact r2.done);clear r2 HB1 HB2;go_wp2_with fail;go_ret;rw[ah HE];exact⟨rfl,ah E2⟩
theorem Yl {r:Rc}{E:Int}(h:dL r=E)(h0:E≠0):KL r.k r.q r.t r.s r.h r.d=.tuple #[.string ⟨#[]⟩,.int .i64 E]:=SI h h0
theorem SY {r:Rc}(h:dL r=0):KL r.k r.q r.t r.s r.h r.d=.tuple #[.string (bK r),.int .i64 0]:=MK h
theorem Tc (H:jZ Has)(HS:oh Has)(r:Rc)(hs:Small r)(h:Has w B q F m es)(ht:Tidy m es)(hm:m<=65536)(hB:B<=w.heap.size)(c0:w.cell? ⟨g,0,none⟩=some (.pointer (some ⟨q,0,none⟩)))(c1:w.cell? ⟨g,1,none⟩=some (.int .i64 size))(hg:g<w.heap.size/\¬F g) :
 Calls prog 137 #[.pointer (some ⟨g,0,none⟩),.agg #[.int .i64 r.k,.int .i64 r.q,.int .i64 r.t,.string r.s,.string r.h,.string r.d]] w λe w'=>e=.returned (.int .i64 (jl es m size r).1)/\oO Has w w' B q F m (jl es m size r).2:=by
 have HT:=aj ht;have R0:=aj (RB.new w r.k r.q r.t r.s r.h r.d 73);have hb0:Below w.heap.size w (w.alloc (.cells #[.int .i64 r.k,.int .i64 r.q,.int .i64 r.t,.string r.s,.string r.h,.string r.d] 73)):=(ajb _ _).alloc (Xc _) _;obtain⟨r0,k0⟩:=(qc.start (Cs:=λk=>k=g) h (λk hk=>by subst hk;exact hg)).below H.dV hb0;have U0:=aj r0;have a0:=(k0.cell (C:=g) (j:=0) rfl).trans c0;have a1:=(k0.cell (C:=g) (j:=1) rfl).trans c1;have C1:Hid (∀W,Calls prog 177 #[.agg #[.int .i64 r.k,.int .i64 r.q,.int .i64 r.t,.string r.s,.string r.h,.string r.d]] W λe w'=>e=.returned (KL r.k r.q r.t r.s r.h r.d)/\Below W.heap.size W w'):=aj (λW=>Jo r.k r.q r.t r.s r.h r.d W hs.s hs.h hs.d)
 obtain⟨E,hE⟩:∃E,dL r=E:=⟨_,rfl⟩;clear h ht hb0 r0 k0 c0 c1;by_cases h0:E=0
 ·have hc:dL r=0:=by rw[hE];exact h0
  have hsz:=ru hc;rw[SY hc] at C1;have HC:=aj hc;clear hE h0 hc;obtain⟨_,x0,x1,x2,x3,x4,x5,_⟩:=ah R0;go_enter func137,ntmps137;go_wp2_with fail;refine(ah C1 _).mono ?_;rintro e w1 ⟨rfl,b1⟩;obtain⟨r1,k1⟩:=(ah U0).below H.dV b1;have d0:=(k1.cell (C:=g) (j:=0) rfl).trans a0;have d1:=(k1.cell (C:=g) (j:=1) rfl).trans a1;have PL:=aj (r1.looks H.dV (λF' hF=>Cc (g:=g) HS hF (ah HT) hm (aje hB r1.room) d0));clear b1 r1 k1 a0 a1 U0 R0 x0 x1 x2 x3 x4 x5 C1;go_wp2_with fail;refine(ah PL).mono ?_;rintro e w2 ⟨rfl,r2,k2⟩;have f0:=(k2.cell (C:=g) (j:=0) rfl).trans d0
  have f1:=(k2.cell (C:=g) (j:=1) rfl).trans d1;have PB:=aj (r2.N7 (λF' hF hC=>Js (g:=g) H HS (bK r) (by omega) hF (ah HT) hm (aje hB r2.room) f0 (hC g rfl)));clear d0 d1 PL k2;by_cases hz:es.length=0
  ·have HR:=aj (Iz (m:=m) (size:=size) (ah HC) (.inl hz));have hN:=oZ hz;rw[hN] at PB ⊢;clear r2 hz hN;go_wp2_with fail;refine(ah PB).mono ?_;rintro e w3 ⟨rfl,r3,_⟩;have E3:=aj r3.done;clear r3 PB;go_wp2_with fail;go_ret;rw[ah HR];exact⟨rfl,ah E3⟩
  ·obtain⟨k,hk1⟩:∃k,k+1=es.length:=⟨es.length-1,by omega⟩;have hk2:k<es.length:=by omega
   have hN:=mM hk1;have hnl:=(ah HT).each _ (iD hk2);have hn1:0<=(pa es k).n/\(pa es k).n<=1099511627776:=by simpa[dn] using hnl.1
   have hneg:¬(pa es k).n<0:=by omega
   have PI:=aj (r2.looks H.dV (λF' hF=>ZV (g:=g) (size:=size) HS (bK r) (by omega) hk1 hF (ah HT) hm (aje hB r2.room) f0 f1 (by
    obtain⟨_,_,_,_,x⟩:=id r2;exact(x g rfl).1)))
   have HP:=aj (tu hk1);rw[hN] at PB ⊢;clear hN hnl r2
   cases hfl:yh es size (bK r) with
   | true =>
    have HR:=aj (Iz (m:=m) (ah HC) (.inr hfl));rw[hfl] at PI;have HL1:=aj (mM hk1);clear hfl hz hk1 PB;go_wp2_with fail;refine(ah PI).mono ?_;rintro e w3 ⟨rfl,r3,k3⟩;have g0:=(k3.cell (C:=g) (j:=0) rfl).trans f0;have PB:=aj (r3.N7 (λF' hF hC=>Js (g:=g) H HS (bK r) (by omega) hF (ah HT) hm (aje hB r3.room) g0 (hC g rfl)));rw[ah HL1] at PB;clear r3 k3 PI f0 f1;go_wp2_with fail;refine(ah PB).mono ?_;rintro e w4 ⟨rfl,r4,_⟩;have E4:=aj r4.done;clear r4 PB;go_wp2_with fail;go_ret;rw[ah HR];exact⟨rfl,ah E4⟩
   | false =>
    have HR:=aj (Y8 (m:=m) (ah HC) hz hfl);rw[ah HP] at HR;rw[hfl] at PI;clear hfl hz hk1 PB;go_wp2_with fail;refine(ah PI).mono ?_;rintro e w3 ⟨rfl,r3,k3⟩;have g0:=(k3.cell (C:=g) (j:=0) rfl).trans f0;have PF:=aj (iU g0);have PA:=aj (r3.did (λF' hF=>H.dV.append (pa es k).n (bK r) hF (ah HT) hm (by omega) (aje hB r3.room)));clear r3 k3 PI f0 f1;go_wp2_with fail;refine(ah PF).mono ?_;rintro e w4 ⟨rfl,rfl⟩;go_wp2_with fail;refine(ah PA).mono ?_;rintro e w5 ⟨rfl,r5,_⟩;have E5:=aj r5.done;clear r5 PA PF;go_wp2_with fail;go_ret;rw[ah HR]
    exact⟨rfl,ah E5⟩
 ·have HR:=aj (abq (es:=es) (m:=m) (size:=size) (r:=r) (by rw[hE];exact h0));rw[hE] at HR;rw[Yl hE h0] at C1;have h1:(E !=0)=true:=by simpa using h0
  clear hE;obtain⟨_,x0,x1,x2,x3,x4,x5,_⟩:=ah R0;go_enter func137,ntmps137;go_wp2_with fail;refine(ah C1 _).mono ?_;rintro e w1 ⟨rfl,b1⟩;have E1:=aj ((ah U0).below H.dV b1).1.done;clear b1 U0 R0 C1;go_wp2_with fail;go_ret;rw[ah HR];exact⟨rfl,ah E1⟩
end
