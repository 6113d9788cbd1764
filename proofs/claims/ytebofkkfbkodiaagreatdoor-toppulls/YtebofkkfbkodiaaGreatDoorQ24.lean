/- A part. -/
import Derived.Test.YtebofkkfbkodiaaGreatDoorQ18
import Derived.StillTailTactics
set_option maxRecDepth 100000
set_option maxHeartbeats 8000000
namespace Go.Proofs.YtebofkkfbkodiaaGreatDoor
open Go.RowKit Go.Proofs.Tryz
namespace Dk
variable {k:Nat}{r:Rc}
section
variable {Has:I->Nat->Nat->af->Int->List aB->Prop}{w:I}{B q g:Nat}{size:Int}{F:af}{m:Int}{es:List aB}
theorem lN (c0:w.cell? (aq g 0)=some (ae q)) :
 Calls prog 191 #[ae g] w λe w'=>e=.returned (ae q)/\w=w':=by
 go_enter func191,ntmps191;go_wp2_with fail;go_ret;exact⟨rfl,rfl⟩
theorem CO (HS:Lists Has)(h:Has w B q F m es)(ht:Tidy m es)(hm:m<=65536)(hB:B<=w.heap.size)(c0:w.cell? (aq g 0)=some (ae q)) :
 Calls prog 232 #[ae g] w λe w'=>∃a c,e=.returned (.slice a es.length c)/\(es.length<=c/\c<=maxLen)/\kK w' a (aW es)/\(∀z,a=some z->w.heap.size<=z.block/\z.block<w'.heap.size)/\ai w w':=by
 have PL:=aj (HS.list h ht hm hB);have PF:=aj (lN c0);clear h ht;go_enter func232,ntmps232;go_wp2_with fail;refine(ah PF).mono ?_;rintro e w1 ⟨rfl,rfl⟩;go_wp2_with fail;refine(ah PL).mono ?_;rintro e w2 ⟨a,c,rfl,p2⟩;have P2:=aj p2;clear p2 PL PF;go_wp2_with fail;go_ret;exact⟨a,c,rfl,ah P2⟩
theorem JA (HS:Lists Has)(h:Has w B q F m es)(ht:Tidy m es)(hm:m<=65536)(hB:B<=w.heap.size)(c0:w.cell? (aq g 0)=some (ae q)) :
 Calls prog 188 #[ae g] w λe w'=>e=.returned (aa (tK es))/\ai w w':=by
 have hfew:=ht.few;have PL:=aj (CO (g:=g) HS h ht hm hB c0);clear h ht;go_enter func188,ntmps188;go_wp2_with fail;refine(ah PL).mono ?_;rintro e w1 ⟨a,c,rfl,_,s1,_,b1⟩;have B1:=aj b1;clear PL b1;by_cases hz:es.length=0
 ·have HN:=aj (qW hz);obtain rfl:es=[]:=akV hz;clear s1 hz;go_wp2_with fail;go_ret;exact⟨rfl,ah B1⟩
 ·obtain⟨k,hk1⟩:∃k,k+1=es.length:=⟨es.length-1,by omega⟩;have hk2:k<es.length:=by omega
  have HN:=aj (ou hk1);have hw:IntKind.i64.wrap ((es.length:Int)-1)=(k:Int):=by rw[akl];omega
  have hz':((es.length:Int)==0)=false:=by rw[ajM];omega
  obtain⟨ba,oa,rfl,hba,n1⟩:=s1.num hk2;clear hk1 hz s1;go_wp2_with fail;go_ret;rw[ah HN];exact⟨rfl,ah B1⟩
theorem JB (H:More Has)(HS:Lists Has)(h:Has w B q F m es)(ht:Tidy m es)(hm:m<=65536)(hB:B<=w.heap.size)(c0:w.cell? (aq g 0)=some (ae q))(hg:g<w.heap.size/\¬F g) :
 Calls prog 146 #[ae g] w λe w'=>e=.returned (aa 0)/\Did Has w w' B q F m (fE es):=by
 have R0:=Run.start (Cs:=λk=>k=g) h (λk hk=>by subst hk;exact hg);have PL:=aj (JA (g:=g) HS h ht hm hB c0);have U0:=aj R0;have HT:=aj ht;clear h ht R0;go_enter func146,ntmps146;go_wp2_with fail;refine(ah PL).mono ?_;rintro e w1 ⟨rfl,b1⟩;obtain⟨r1,k1⟩:=(ah U0).below H.works b1;have d0:=(k1.cell (C:=g) (j:=0) rfl).trans c0;clear PL b1 k1 c0 U0;by_cases hz:es.length=0
 ·have E1:Hid (Did Has w w1 B q F m (fE es)):=aj (by rw[II hz];exact r1.done);have hN:=qW hz;clear r1 hz;rw[hN];go_wp2_with fail;go_ret;exact⟨rfl,ah E1⟩
 ·obtain⟨k,hk1⟩:∃k,k+1=es.length:=⟨es.length-1,by omega⟩;have hk2:k<es.length:=by omega
  have hN:=ou hk1;have hnl:=(ah HT).each _ (nX hk2);have hn1:0<=(pa es k).n/\(pa es k).n<=1099511627776:=by simpa[eX] using hnl.1
  have hwn:=Vl hnl.1;have hneg:¬(pa es k).n<0:=by omega
  have PF:=aj (lN d0);have PS:=aj (r1.did (λF' hF=>H.works.sync (pa es k).n hwn hF (ah HT) hm (ajA hB r1.room)));rw[af5 (ah HT) hk2,<-Sj hk1] at PS;rw[hN];clear hk1 hz r1 hnl hN hwn;go_wp2_with fail;refine(ah PF).mono ?_;rintro e w2 ⟨rfl,rfl⟩;go_wp2_with fail;refine(ah PS).mono ?_;rintro e w3 ⟨rfl,r3,_⟩;have E3:=aj r3.done;clear r3 PS PF;go_wp2_with fail;go_ret;exact⟨rfl,ah E3⟩
theorem abR (h:k+1=es.length)(s:ad):fills es size s=(decide (0<(pa es k).text.size)&&decide (size<((pa es k).text.size:Int)+(s.size:Int))):=by unfold fills;rw[DF h]
theorem YI (HS:Lists Has)(s:ad)(hs:s.size<=140737488355328)(hk1:k+1=es.length)(h:Has w B q F m es)(ht:Tidy m es)(hm:m<=65536)(hB:B<=w.heap.size)(c0:w.cell? (aq g 0)=some (ae q))(c1:w.cell? (aq g 1)=some (aa size))(hg:g<w.heap.size) :
 Calls prog 189 #[ae g,aa (pa es k).n,.string s] w λe w'=>e=.returned (.bool (!fills es size s))/\ai w w':=by
 have hk2:k<es.length:=by omega
 have hfit:=ht.fits;have hu:=Ei (nX hk2);have hnl:=ht.each _ (nX hk2);have PF:=aj (lN c0);have PR:=aj (HS.reads (pa es k).n (Vl hnl.1) h ht hm hB);rw[NI ht hk2] at PR;have HFl:=aj (abR (size:=size) hk1 s);obtain⟨n,hn⟩:∃n,n=(pa es k).n:=⟨_,rfl⟩;obtain⟨tx,htx⟩:∃tx,tx=(pa es k).text:=⟨_,rfl⟩;rw[<-htx] at PR hu HFl;rw[<-hn] at PR ⊢;have hw3:IntKind.i64.wrap ((tx.size:Int)+(s.size:Int))=(tx.size:Int)+(s.size:Int):=by rw[akl];omega
 clear h ht hnl hn htx hk1 hk2;go_enter func189,ntmps189;go_wp2_with fail;refine(ah PF).mono ?_;rintro e w1 ⟨rfl,rfl⟩;go_wp2_with fail;refine(ah PR).mono ?_;rintro e w2 ⟨rfl,b2⟩;have d1:=(b2.cell (p:=aq g 1) hg).trans c1;have B2:=aj b2;clear b2 PR PF c0 c1;by_cases hz:0<tx.size
 ·have hf0:¬tx.toList=[]:=by rw[FK];omega
  have hf1:(!tx.toList.isEmpty)=true:=by rw[xQ,ajE (by omega)];rfl
  have hf2:tx.toList.isEmpty=false:=by rw[xQ,ajE (by omega)]
  by_cases hl:size<(tx.size:Int)+(s.size:Int)
  ·have hd:decide ((tx.size:Int)+(s.size:Int)<=size)=false:=ajE (by omega);go_wp2_with fail;go_ret;rw[ah HFl,ajH (p:=0<tx.size) (by omega),ajH (p:=size<(tx.size:Int)+(s.size:Int)) (by omega)];exact⟨rfl,ah B2⟩
  ·have hd:decide ((tx.size:Int)+(s.size:Int)<=size)=true:=ajH (by omega);go_wp2_with fail;go_ret;rw[ah HFl,ajH (p:=0<tx.size) (by omega),ajE (p:=size<(tx.size:Int)+(s.size:Int)) (by omega)];exact⟨rfl,ah B2⟩
 ·have hf0:tx.toList=[]:=by rw[FK];omega
  have hf2:tx.toList.isEmpty=true:=by rw[xQ,ajH (by omega)]
  go_wp2_with fail;go_ret;rw[ah HFl,ajE (p:=0<tx.size) (by omega)];exact⟨rfl,ah B2⟩
theorem FW (H:More Has)(HS:Lists Has)(s:ad)(hs:s.size<=140737488355328)(h:Has w B q F m es)(ht:Tidy m es)(hm:m<=65536)(hB:B<=w.heap.size)(c0:w.cell? (aq g 0)=some (ae q))(hg:g<w.heap.size/\¬F g) :
 Calls prog 190 #[ae g,aa (tK es),.string s] w λe w'=>e=.returned (aa (dK es m (kN es) s))/\Did Has w w' B q F m (KJ es m s):=by
 have R0:=Run.start (Cs:=λk=>k=g) h (λk hk=>by subst hk;exact hg);have hlast:-1<=tK es/\tK es<=1099511627776:=by
  by_cases hz:es.length=0
  ·rw[qW hz];omega
  ·obtain⟨k,hk1⟩:∃k,k+1=es.length:=⟨es.length-1,by omega⟩;rw[ou hk1];have hnl:=ht.each _ (nX (show k<es.length by omega));have hn1:0<=(pa es k).n/\(pa es k).n<=1099511627776:=by simpa[eX] using hnl.1
   omega
 have HN:=aj (RZ es);obtain⟨n,hn⟩:∃n,n=tK es:=⟨_,rfl⟩;rw[<-hn] at hlast HN ⊢;have hw:IntKind.i64.wrap (n+1)=n+1:=by rw[akl];omega
 have PF:=aj (lN c0);have PT:=aj (HS.tries (n+1) s h ht hm hs hB);have U0:=aj R0;have HT:=aj ht;obtain⟨E,hE⟩:∃E,dK es m (n+1) s=E:=⟨_,rfl⟩;rw[hE] at PT;have HB1:Hid (E=0->KJ es m s=iZ (fE es) m (n+1) s/\dK (fE es) m (n+1) s=0):=aj (λz=>by
  rw[z] at hE;refine⟨?_,by rw[RY];exact hE⟩;rw[KL (by rw[ah HN];exact hE),ah HN])
 have HB2:Hid (E≠0->KJ es m s=es):=aj (λz=>Ey (by rw[ah HN,hE];exact z));have HE:Hid (dK es m (kN es) s=E):=aj (by rw[ah HN];exact hE);clear h ht R0 hn hE;go_enter func190,ntmps190;go_wp2_with fail;refine(ah PF).mono ?_;rintro e w1 ⟨rfl,rfl⟩;go_wp2_with fail;refine(ah PT).mono ?_;rintro e w2 ⟨rfl,b2⟩;obtain⟨r2,k2⟩:=(ah U0).below H.works b2;have d0:=(k2.cell (C:=g) (j:=0) rfl).trans c0;clear PT PF b2 k2 c0 U0;by_cases h0:E=0
 ·obtain⟨e1,e2⟩:=ah HB1 h0;subst h0;have PS:=aj (r2.Si (λF' hF hC=>JB (g:=g) H HS hF (ah HT) hm (ajA hB r2.room) d0 (hC g rfl)));have HT3:=aj (ah HT).afI;have hb2:=r2.room;clear r2 HB1 HB2;go_wp2_with fail;refine(ah PS).mono ?_;rintro e w3 ⟨rfl,r3,k3⟩;have f0:=(k3.cell (C:=g) (j:=0) rfl).trans d0;have PF:=aj (lN f0);have PA:=aj (r3.did (λF' hF=>H.works.append (n+1) s hF (ah HT3) hm hs (ajA hB r3.room)));rw[e2,<-e1] at PA;clear r3 k3 PS d0;go_wp2_with fail;refine(ah PF).mono ?_;rintro e w4 ⟨rfl,rfl⟩;go_wp2_with fail;refine(ah PA).mono ?_
  rintro e w5 ⟨rfl,r5,_⟩;have E5:=aj r5.done;clear r5 PA PF;go_wp2_with fail;go_ret;rw[ah HE];exact⟨rfl,ah E5⟩
 ·have hE':(E !=0)=true:=by simpa using h0
  have E2:Hid (Did Has w w2 B q F m (KJ es m s)):=aj (by rw[ah HB2 h0];exact r2.done);clear r2 HB1 HB2;go_wp2_with fail;go_ret;rw[ah HE];exact⟨rfl,ah E2⟩
theorem aeY {E:Int}(h:iw r=E)(h0:E≠0):L6 r.k r.q r.t r.s r.h r.d=.tuple #[.string ⟨#[]⟩,aa E]:=Qc h h0
theorem abS (h:iw r=0):L6 r.k r.q r.t r.s r.h r.d=.tuple #[.string (dZ r),aa 0]:=Jy h
theorem Qo (H:More Has)(HS:Lists Has)(r:Rc)(hs:Small r)(h:Has w B q F m es)(ht:Tidy m es)(hm:m<=65536)(hB:B<=w.heap.size)(c0:w.cell? (aq g 0)=some (ae q))(c1:w.cell? (aq g 1)=some (aa size))(hg:g<w.heap.size/\¬F g) :
 Calls prog 145 #[ae g,.agg #[aa r.k,aa r.q,aa r.t,.string r.s,.string r.h,.string r.d]] w λe w'=>e=.returned (aa (jS es m size r).1)/\Did Has w w' B q F m (jS es m size r).2:=by
 have HT:=aj ht;have R0:=aj (RB.new w r.k r.q r.t r.s r.h r.d 46);have hb0:ai w (w.alloc (.cells #[aa r.k,aa r.q,aa r.t,.string r.s,.string r.h,.string r.d] 46)):=ax _ _;obtain⟨r0,k0⟩:=(Run.start (Cs:=λk=>k=g) h (λk hk=>by subst hk;exact hg)).below H.works hb0;have U0:=aj r0;have a0:=(k0.cell (C:=g) (j:=0) rfl).trans c0;have a1:=(k0.cell (C:=g) (j:=1) rfl).trans c1;have C1:Hid (∀W,Calls prog 187 #[.agg #[aa r.k,aa r.q,aa r.t,.string r.s,.string r.h,.string r.d]] W λe w'=>e=.returned (L6 r.k r.q r.t r.s r.h r.d)/\ai W w'):=aj (λW=>Ud r.k r.q r.t r.s r.h r.d W hs.s hs.h hs.d)
 obtain⟨E,hE⟩:∃E,iw r=E:=⟨_,rfl⟩;clear h ht hb0 r0 k0 c0 c1;by_cases h0:E=0
 ·have hc:iw r=0:=by rw[hE];exact h0
  have hsz:=Xy hc;rw[abS hc] at C1;have HC:=aj hc;clear hE h0 hc;obtain⟨_,x0,x1,x2,x3,x4,x5,_⟩:=ah R0;go_enter func145,ntmps145;go_wp2_with fail;refine(ah C1 _).mono ?_;rintro e w1 ⟨rfl,b1⟩;obtain⟨r1,k1⟩:=(ah U0).below H.works b1;have d0:=(k1.cell (C:=g) (j:=0) rfl).trans a0;have d1:=(k1.cell (C:=g) (j:=1) rfl).trans a1;have PL:=aj (r1.looks H.works (λF' hF=>JA (g:=g) HS hF (ah HT) hm (ajA hB r1.room) d0));clear b1 r1 k1 a0 a1 U0 R0 x0 x1 x2 x3 x4 x5 C1;go_wp2_with fail;refine(ah PL).mono ?_;rintro e w2 ⟨rfl,r2,k2⟩;have f0:=(k2.cell (C:=g) (j:=0) rfl).trans d0
  have f1:=(k2.cell (C:=g) (j:=1) rfl).trans d1;have PB:=aj (r2.Si (λF' hF hC=>FW (g:=g) H HS (dZ r) (by omega) hF (ah HT) hm (ajA hB r2.room) f0 (hC g rfl)));clear d0 d1 PL k2;by_cases hz:es.length=0
  ·have HR:=aj (Ez (m:=m) (size:=size) (ah HC) (.inl hz));have hN:=qW hz;rw[hN] at PB ⊢;clear r2 hz hN;go_wp2_with fail;refine(ah PB).mono ?_;rintro e w3 ⟨rfl,r3,_⟩;have E3:=aj r3.done;clear r3 PB;go_wp2_with fail;go_ret;rw[ah HR];exact⟨rfl,ah E3⟩
  ·obtain⟨k,hk1⟩:∃k,k+1=es.length:=⟨es.length-1,by omega⟩;have hk2:k<es.length:=by omega
   have hN:=ou hk1;have hnl:=(ah HT).each _ (nX hk2);have hn1:0<=(pa es k).n/\(pa es k).n<=1099511627776:=by simpa[eX] using hnl.1
   have hneg:¬(pa es k).n<0:=by omega
   have PI:=aj (r2.looks H.works (λF' hF=>YI (g:=g) (size:=size) HS (dZ r) (by omega) hk1 hF (ah HT) hm (ajA hB r2.room) f0 f1 (by
    obtain⟨_,_,_,_,x⟩:=id r2;exact(x g rfl).1)))
   have HP:=aj (DF hk1);rw[hN] at PB ⊢;clear hN hnl r2
   cases hfl:fills es size (dZ r) with
   | true =>
    have HR:=aj (Ez (m:=m) (ah HC) (.inr hfl));rw[hfl] at PI;have HL1:=aj (ou hk1);clear hfl hz hk1 PB;go_wp2_with fail;refine(ah PI).mono ?_;rintro e w3 ⟨rfl,r3,k3⟩;have g0:=(k3.cell (C:=g) (j:=0) rfl).trans f0;have PB:=aj (r3.Si (λF' hF hC=>FW (g:=g) H HS (dZ r) (by omega) hF (ah HT) hm (ajA hB r3.room) g0 (hC g rfl)));rw[ah HL1] at PB;clear r3 k3 PI f0 f1;go_wp2_with fail;refine(ah PB).mono ?_;rintro e w4 ⟨rfl,r4,_⟩;have E4:=aj r4.done;clear r4 PB;go_wp2_with fail;go_ret;rw[ah HR];exact⟨rfl,ah E4⟩
   | false =>
    have HR:=aj (XA (m:=m) (ah HC) hz hfl);rw[ah HP] at HR;rw[hfl] at PI;clear hfl hz hk1 PB;go_wp2_with fail;refine(ah PI).mono ?_;rintro e w3 ⟨rfl,r3,k3⟩;have g0:=(k3.cell (C:=g) (j:=0) rfl).trans f0;have PF:=aj (lN g0);have PA:=aj (r3.did (λF' hF=>H.works.append (pa es k).n (dZ r) hF (ah HT) hm (by omega) (ajA hB r3.room)));clear r3 k3 PI f0 f1;go_wp2_with fail;refine(ah PF).mono ?_;rintro e w4 ⟨rfl,rfl⟩;go_wp2_with fail;refine(ah PA).mono ?_;rintro e w5 ⟨rfl,r5,_⟩;have E5:=aj r5.done;clear r5 PA PF;go_wp2_with fail;go_ret;rw[ah HR]
    exact⟨rfl,ah E5⟩
 ·have HR:=aj (aat (es:=es) (m:=m) (size:=size) (r:=r) (by rw[hE];exact h0));rw[hE] at HR;rw[aeY hE h0] at C1;have h1:(E !=0)=true:=by simpa using h0
  clear hE;obtain⟨_,x0,x1,x2,x3,x4,x5,_⟩:=ah R0;go_enter func145,ntmps145;go_wp2_with fail;refine(ah C1 _).mono ?_;rintro e w1 ⟨rfl,b1⟩;have E1:=aj ((ah U0).below H.works b1).1.done;clear b1 U0 R0 C1;go_wp2_with fail;go_ret;rw[ah HR];exact⟨rfl,ah E1⟩
end
