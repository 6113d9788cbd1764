/- A part. -/
import Derived.Test.YtidekgipblnpkaaGreatDoorQ25
import Derived.Test.YtidekgipblnpkaaGreatDoorQ27
import Derived.Test.YtidekgipblnpkaaGreatDoorQ28
set_option maxRecDepth 100000
set_option maxHeartbeats 8000000
namespace Go.Proofs.YtidekgipblnpkaaGreatDoor
open Go.RowKit Go.Proofs.Tryz
namespace Dk
structure RF (w:World)(b:Nat)(r:Rc):Prop where
 rb:RB w b r.k r.q r.t r.s r.h r.d
 fz:∀j,w.frozen? ⟨b,j,none⟩=false
theorem RF.next {w w':World}{b:Nat}{r:Rc}(h:RF w b r)(hb:Below w.heap.size w w'):RF w' b r:=⟨h.rb.next hb,λj=>(hb.frozen (p:=⟨b,j,none⟩) h.rb.lt).trans (h.fz j)⟩
theorem RF.new (w:World)(r:Rc):RF (w.alloc (.cells #[.int .i64 r.k,.int .i64 r.q,.int .i64 r.t,.string r.s,.string r.h,.string r.d] 73)) w.heap.size r:=⟨RB.new w _ _ _ _ _ _ _,λj=>by simp⟩
theorem RF.set {w:World}{b:Nat}{r r':Rc}(h:RF w b r)(p:Addr)(v:Value)(e:RB (w.setCell p v) b r'.k r'.q r'.t r'.s r'.h r'.d):RF (w.setCell p v) b r':=⟨e,λj=>by rw[ajt];exact h.fz j⟩
theorem RF.other {w:World}{b c i:Nat}{r:Rc}{v:Value}(h:RF w b r)(hc:c≠b):RF (w.setCell ⟨c,i,none⟩ v) b r:=⟨h.rb.other hc,λj=>by rw[ajt];exact h.fz j⟩
theorem Pq {fn:Func}{a:Tmp}{tmps:Array Value}{w:World}{b:Nat}{k q t:Int}{s h d:ByteArray}(hf:fn.results=#[.cell a 73])(ha:tmps.getD a undef=.pointer (some ⟨b,0,none⟩))(r:RB w b k q t s h d) :
 (results fn tmps).run prog w=.ok (.agg #[.int .i64 k,.int .i64 q,.int .i64 t,.string s,.string h,.string d]) w:=by
 have ha':tmps[a]?.getD undef=.pointer (some ⟨b,0,none⟩):=by simpa using ha
 simp[results,hf,ha',asAddr,zy r]
theorem xR (r:Rc)(hr:Small r)(w:World) :
 Calls prog 60 #[.agg #[.int .i64 r.k,.int .i64 r.q,.int .i64 r.t,.string r.s,.string r.h,.string r.d]] w λe w'=>e=.returned (.agg #[.int .i64 r.k,.int .i64 r.q,.int .i64 r.t,.string r.s,.string r.h,.string r.d])/\Below w.heap.size w w':=by
 obtain⟨W,hW⟩:∃W,W=(w.alloc (.cells #[.int .i64 r.k,.int .i64 r.q,.int .i64 r.t,.string r.s,.string r.h,.string r.d] 73)).alloc (.cells #[.int .i64 0,.int .i64 0,.int .i64 0,.string ⟨#[]⟩,.string ⟨#[]⟩,.string ⟨#[]⟩] 73):=⟨_,rfl⟩;have hb:Below w.heap.size w W:=by rw[hW];exact((ajb _ _).alloc (Xc _) _).alloc (by simp) _
 have P0:RF W w.heap.size r:=by rw[hW];exact(RF.new w r).next ((ajb _ _).alloc (Xc _) _)
 have Z0:RF W (w.heap.size+1) iF:=by
  have:=RF.new (w.alloc (.cells #[.int .i64 r.k,.int .i64 r.q,.int .i64 r.t,.string r.s,.string r.h,.string r.d] 73)) iF;rw[akS] at this;rw[hW];exact this
 have C1:=aj (mW r.s W (by have:=hr.s;omega));have C2:Hid (∀X,Calls prog 67 #[.string r.h] X λe w'=>e=.returned (.string r.h)/\Below X.heap.size X w'):=aj (λX=>mW r.h X (by have:=hr.h;omega));have C3:Hid (∀X,Calls prog 67 #[.string r.d] X λe w'=>e=.returned (.string r.d)/\Below X.heap.size X w'):=aj (λX=>mW r.d X (by have:=hr.d;omega));go_enter func60,ntmps60;go_wp2_with fail;rw[<-hW];have HB0:=aj hb;have HZ0:=aj Z0;have HP0:=aj P0;clear hW hb Z0 P0;refine(ah C1).mono ?_;rintro e w1 ⟨rfl,b1⟩;have HB1:=aj (ak (ah HB0) b1)
 have P1:=(ah HP0).next b1;have Z1:=aj ((ah HZ0).next b1);have x3:=P1.rb.c3;have x4:=P1.rb.c4;have f3:=P1.fz 3;have HP1:=aj P1;clear b1 P1 HP0 HZ0 HB0 C1;go_wp2_with fail;have HB2:=aj ((ah HB1).setCell (p:=⟨w.heap.size,3,none⟩) (Xc _) (.string r.s));have HP2:=aj ((ah HP1).set ⟨w.heap.size,3,none⟩ (.string r.s) (r':=r) ((ah HP1).rb.vU r.s));have Z2:=aj ((ah Z1).other (c:=w.heap.size) (i:=3) (v:=.string r.s) (by omega));clear HP1 HB1 Z1 x3 x4 f3;generalize w1.setCell ⟨w.heap.size,3,none⟩ (.string r.s)=w2 at *;refine(ah C2 _).mono ?_;rintro e w3 ⟨rfl,b3⟩
 have HB3:=aj (ak (ah HB2) b3);have P3:=(ah HP2).next b3;have Z3:=aj ((ah Z2).next b3);have x4:=P3.rb.c4;have x5:=P3.rb.c5;have f4:=P3.fz 4;have HP3:=aj P3;clear b3 P3 HP2 Z2 HB2 C2;go_wp2_with fail;have HB4:=aj ((ah HB3).setCell (p:=⟨w.heap.size,4,none⟩) (Xc _) (.string r.h));have HP4:=aj ((ah HP3).set ⟨w.heap.size,4,none⟩ (.string r.h) (r':=r) ((ah HP3).rb.BJ r.h));have Z4:=aj ((ah Z3).other (c:=w.heap.size) (i:=4) (v:=.string r.h) (by omega));clear HP3 HB3 Z3 x4 x5 f4;generalize w3.setCell ⟨w.heap.size,4,none⟩ (.string r.h)=w4 at *;refine(ah C3 _).mono ?_
 rintro e w5 ⟨rfl,b5⟩;have HB5:=aj (ak (ah HB4) b5);have P5:=(ah HP4).next b5;have Z5:=(ah Z4).next b5;obtain⟨_,x0,x1,x2,x3,x4,x5⟩:=P5.rb;obtain⟨_,y0,y1,y2,y3,y4,y5⟩:=Z5.rb;have f5:=P5.fz 5;have g0:=Z5.fz 0;have g1:=Z5.fz 1;have g2:=Z5.fz 2;have g3:=Z5.fz 3;have g4:=Z5.fz 4;have g5:=Z5.fz 5;have HZ5:=aj Z5;clear b5 P5 Z5 HP4 Z4 HB4 C3;go_wp2_with fail;refine ajJ (Pq (b:=w.heap.size+1) rfl rfl (((((((((ah HZ5).other (c:=w.heap.size) (i:=5) (by omega)).rb.Oa r.k).uU r.q).vT r.t).vU r.s).BJ r.h).GH r.d))) rfl ?_;exact⟨rfl,(((((((ah HB5).setCell (p:=⟨w.heap.size,5,none⟩) (Xc _) _).setCell (p:=⟨w.heap.size+1,0,none⟩) (alV _) _).setCell (p:=⟨w.heap.size+1,1,none⟩) (alV _) _).setCell (p:=⟨w.heap.size+1,2,none⟩) (alV _) _).setCell (p:=⟨w.heap.size+1,3,none⟩) (alV _) _).setCell (p:=⟨w.heap.size+1,4,none⟩) (alV _) _).setCell (p:=⟨w.heap.size+1,5,none⟩) (alV _) _⟩
theorem uN {w:World}{B q:Nat}{v u:Value}{l:List Rc}{es:List aW}{last:Int}(s:ByteArray)(h:qh w B q v u l es last)(hg:Go.Proofs.YtidekgipblnpkaaGreatDoor.gI es)(hs:s.size<=140737488355328) :
 Calls prog 187 #[.pointer (some ⟨q,0,none⟩),.string s] w λe w'=>e=.returned (.int .i64 (jA es s))/\Below w.heap.size w w':=by
 go_enter func187,ntmps187;go_wp2_with fail;refine(afy B q u es s _ h.keeps hg hs).mono ?_;rintro e w1 ⟨rfl,hb⟩;go_wp2_with fail;go_ret;exact⟨rfl,hb⟩
theorem YH {w:World}{B q:Nat}{v u:Value}{l:List Rc}{es:List aW}{last:Int}(s:ByteArray)(h:qh w B q v u l es last)(hg:Go.Proofs.YtidekgipblnpkaaGreatDoor.gI es)(hs:s.size<=140737488355328)(hB:B<=w.heap.size)(hn:jA es s<=200) :
 Calls prog 188 #[.pointer (some ⟨q,0,none⟩),.string s] w λe w'=>e=.returned (.tuple #[])/\qM w w' B q v u l (VP es (jA es s) s) last:=by
 have HH:=aj h;have HG:=aj hg;clear h hg;obtain⟨n,en⟩:∃n,n=jA es s:=⟨_,rfl⟩;rw[<-en] at hn ⊢;have EN:=aj en;clear en;by_cases h1:1<n
 ·have hw:IntKind.i64.wrap (n-1)=n-1:=by rw[ajq];omega
  have HO:=aj (show VP es n s=pz es s (n-1) from if_pos h1);go_enter func188,ntmps188;go_wp2_with fail;refine(uN s (ah HH) (ah HG) hs).mono ?_;rintro e w1 ⟨rfl,hb⟩;rw[<-ah EN];have H1:=aj ((ah HH).below hb);have Hb:=aj hb;have P:=aj (TI B q u es s (n-1) w1 (ah H1).keeps (ah HG) hs (by have:=hb.size;omega));clear hb;go_wp2_with fail;refine(ah P).mono ?_;rintro e w2 ⟨rfl,h2⟩;have H2:=aj h2;clear h2;go_wp2_with fail;go_end0
  refine⟨rfl,?_⟩;rw[ah HO];exact qM.behind (ah Hb) ((ah H1).Kr (ah H2))
 ·have HO:=aj (show VP es n s=qE es s from if_neg h1);go_enter func188,ntmps188;go_wp2_with fail;refine(uN s (ah HH) (ah HG) hs).mono ?_;rintro e w1 ⟨rfl,hb⟩;rw[<-ah EN];have H1:=aj ((ah HH).below hb);have Hb:=aj hb;have P:=aj (aaj B q u es s w1 (ah H1).keeps (ah HG) hs);clear hb;go_wp2_with fail;refine(ah P).mono ?_;rintro e w2 ⟨rfl,h2⟩;have H2:=aj h2;clear h2;go_wp2_with fail;go_end0
  refine⟨rfl,?_⟩;rw[ah HO];exact qM.behind (ah Hb) ((ah H1).Kr (ah H2))
theorem Nr (f:ByteArray)(r:Rc)(hf:f.size<=140737488355328)(hr:r.s.size<=140737488355328)(w:World) :
 Calls prog 126 #[.string f,.agg #[.int .i64 r.k,.int .i64 r.q,.int .i64 r.t,.string r.s,.string r.h,.string r.d]] w λe w'=>e=.returned (.bool (bF f r.s))/\Below w.heap.size w w':=by
 have hb0:Below w.heap.size w (w.alloc (.cells #[.int .i64 r.k,.int .i64 r.q,.int .i64 r.t,.string r.s,.string r.h,.string r.d] 73)):=(ajb _ _).alloc (Xc _) _;have Hb0:=aj hb0;clear hb0;go_enter func126,ntmps126;go_wp2_with fail;refine(BP f r.s _ hf hr).mono ?_;rintro e w1 ⟨rfl,hb⟩;go_wp2_with fail;go_ret;exact⟨rfl,ak (ah Hb0) hb⟩
theorem aau {r:Rc}(h:dL r=0)(h1:r.k=3):aG true r.s=0:=by
 have e:=xM r.k r.q r.t r.s r.h r.d;have e2:jB r.k r.q r.t r.s r.h r.d=0:=h;rw[e2] at e;by_cases hb:Pk.QB r.k r.q r.t=false
 ·rw[if_pos hb] at e;cases e
 ·rw[if_neg hb,if_neg (by omega),if_pos h1] at e;unfold KJ at e;by_cases z:aG true r.s≠0
  ·rw[if_pos z] at e;exact e.symm
  ·exact aju z
def tmE (l:List Rc)(last:Int)(r:Rc):Int:=if r.q<=last then 9 else if 200<=l.length\/(fJ l r.s=false/\100<=dP l) then 8 else 0
theorem ahi {l:List Rc}{last:Int}{r:Rc}(h:r.q<=last):tmE l last r=9:=if_pos h
theorem afP {l:List Rc}{last:Int}{r:Rc}(h:¬r.q<=last)(h2:200<=l.length):tmE l last r=8:=by unfold tmE;rw[if_neg h,if_pos (.inl h2)]
theorem afQ {l:List Rc}{last:Int}{r:Rc}(h:¬r.q<=last)(h2:fJ l r.s=false)(h3:100<=dP l):tmE l last r=8:=by unfold tmE;rw[if_neg h,if_pos (.inr ⟨h2,h3⟩)]
theorem ahj {l:List Rc}{last:Int}{r:Rc}(h:¬r.q<=last)(h1:¬200<=l.length)(h2:fJ l r.s=true):tmE l last r=0:=by
 unfold tmE;rw[if_neg h,if_neg (λz=>by rcases z with z|z;exact h1 z;rw[h2] at z;cases z.1)]
theorem afR {l:List Rc}{last:Int}{r:Rc}(h:¬r.q<=last)(h1:¬200<=l.length)(h2:¬100<=dP l):tmE l last r=0:=by
 unfold tmE;rw[if_neg h,if_neg (λz=>by rcases z with z|z;exact h1 z;exact h2 z.2)]
theorem aav {w:World}{B q:Nat}{v u:Value}{l:List Rc}{es:List aW}{last:Int}(r:Rc)(h:qh w B q v u l es last)(hc:nP l es)(hr:aG false r.s=0)(hs:r.s.size<=140737488355328)(je:l.length<=200) :
 Calls prog 175 #[.pointer (some ⟨q,0,none⟩),.agg #[.int .i64 r.k,.int .i64 r.q,.int .i64 r.t,.string r.s,.string r.h,.string r.d]] w λe w'=>e=.returned (.int .i64 (tmE l last r))/\Below w.heap.size w w':=by
 have hb0:Below w.heap.size w (w.alloc (.cells #[.int .i64 r.k,.int .i64 r.q,.int .i64 r.t,.string r.s,.string r.h,.string r.d] 73)):=(ajb _ _).alloc (Xc _) _;have Hb0:=aj hb0;obtain⟨a,cap,rfl,_⟩:=h.msgs.shape;have c0:=h.c0;have c2:=h.c2;have vw:=h.lt;have g1:(jA es r.s:Int)=(dQ l r.s:Int):=hc.get hr;have g2:(es.length:Int)=(dP l:Int):=by rw[hc.len]
 have g3:=nO l r.s;have HS:=aj h;have HC:=aj hc.jY;have P:Hid (∀m,Calls prog 187 #[.pointer (some ⟨q,0,none⟩),.string r.s] ((w.alloc (.cells #[.int .i64 r.k,.int .i64 r.q,.int .i64 r.t,.string r.s,.string r.h,.string r.d] 73)).drewN m) λe w'=>e=.returned (.int .i64 (jA es r.s))/\Below w.heap.size w w'):=aj (λm=>by
  have b:=below_drewN hb0 m;refine(uN r.s (h.below b) hc.jY hs).mono ?_;rintro e w' ⟨he,hb⟩;exact⟨he,ak b hb⟩)
 clear h hb0 hc;by_cases h1:r.q<=last
 ·have R:=aj (ahi (l:=l) h1);clear g1 g2 g3;go_enter func175,ntmps175;go_wp2_with fail;go_quiet (fail)
  go_wp2_with fail;go_ret;exact⟨dH (ah R),below_drewN (ah Hb0) _⟩
 ·by_cases h2:200<=l.length
  ·have R:=aj (afP h1 h2);clear g1 g2 g3;go_enter func175,ntmps175;go_wp2_with fail;go_quiet (fail)
   go_wp2_with fail;go_ret;exact⟨dH (ah R),below_drewN (ah Hb0) _⟩
  ·obtain⟨n,en⟩:∃n,n=jA es r.s:=⟨_,rfl⟩;rw[<-en] at g1;have EN:=aj en;clear en;by_cases h3:n=0
   ·subst h3;have hz:fJ l r.s=false:=by rw[g3];exact ajd (by omega)
    by_cases h4:100<=es.length
    ·have R:=aj (afQ (r:=r) h1 hz (by omega));clear g1 g2 g3 hz;go_enter func175,ntmps175;go_wp2_with fail;go_quiet (fail)
     go_wp2_with fail;refine(ah P _).mono ?_;rintro e w1 ⟨rfl,b1⟩;rw[<-ah EN];have P2:=aj (Gl B q u es w1 ((ah HS).below b1).keeps);have B1:=aj b1;clear b1 P c0 c2;go_wp2_with fail;refine(ah P2).mono ?_;rintro e w2 ⟨rfl,rfl⟩;go_wp2_with fail;go_ret;exact⟨dH (ah R),ah B1⟩
    ·have R:=aj (afR (r:=r) h1 h2 (by omega));clear g1 g2 g3 hz;go_enter func175,ntmps175;go_wp2_with fail;go_quiet (fail)
     go_wp2_with fail;refine(ah P _).mono ?_;rintro e w1 ⟨rfl,b1⟩;rw[<-ah EN];have P2:=aj (Gl B q u es w1 ((ah HS).below b1).keeps);have B1:=aj b1;clear b1 P c0 c2;go_wp2_with fail;refine(ah P2).mono ?_;rintro e w2 ⟨rfl,rfl⟩;go_wp2_with fail;go_ret;exact⟨dH (ah R),ah B1⟩
   ·have R:=aj (ahj (r:=r) h1 h2 (by rw[g3];exact ajg (by omega)));clear g1 g2 g3;go_enter func175,ntmps175;go_wp2_with fail;go_quiet (fail)
    go_wp2_with fail;refine(ah P _).mono ?_;rintro e w1 ⟨rfl,b1⟩;rw[<-ah EN];have B1:=aj b1;clear b1 P c0 c2;go_wp2_with fail;go_ret;exact⟨dH (ah R),ah B1⟩
def erE (l:List Rc)(n:Int):Int:=if seqB l n=false then 4 else 0
theorem aaw {w:World}{B q:Nat}{v u:Value}{l:List Rc}{es:List aW}{last:Int}(n:Int)(h:qh w B q v u l es last)(hr:kD l)(je:l.length<=200) :
 Calls prog 176 #[.pointer (some ⟨q,0,none⟩),.int .i64 n] w λe w'=>e=.returned (.int .i64 (erE l n))/\Below w.heap.size w w':=by
 cases hs:seqB l n
 all_goals
  have hE:erE l n=(if seqB l n=false then 4 else 0):=rfl
  rw[hs] at hE
  have HE:=aj hE
  clear hE
  go_enter func176,ntmps176
  go_wp2_with fail
  refine(pW n h hr je).mono ?_
  rintro e w1 ⟨rfl,hb⟩
  rw[hs]
  go_wp2_with fail
  go_ret
  exact⟨dH (by rw[ah HE];rfl),hb⟩
theorem YI {s:aJ}{r:Rc}(h:¬dL r=0):bY s r=dL r:=by unfold bY;rw[if_pos h]
theorem YJ {s:aJ}{r:Rc}(h:dL r=0)(h1:r.k=1):bY s r=tmE s.l s.last r:=by
 unfold bY tmE;rw[if_neg (by rw[h];simp),if_neg (by omega),if_neg (by omega)]
theorem YK {s:aJ}{r:Rc}(h:dL r=0)(h1:r.k=2):bY s r=erE s.l r.q:=by
 unfold bY erE;rw[if_neg (by rw[h];simp)];by_cases z:seqB s.l r.q=false
 ·rw[if_pos ⟨h1,z⟩,if_pos z]
 ·rw[if_neg (λy=>z y.2),if_pos (by omega),if_neg z]
theorem adF {s:aJ}{r:Rc}(h:dL r=0)(h1:¬r.k=1)(h2:¬r.k=2):bY s r=0:=by
 unfold bY;rw[if_neg (by rw[h];simp),if_neg (λz=>h2 z.1),if_pos h1]
theorem JX {w:World}{B q:Nat}{v u:Value}{s:aJ}{es:List aW}(r:Rc)(hm:Small r)(h:qh w B q v u s.l es s.last)(hc:nP s.l es)(hk:s.Ok) :
 Calls prog 136 #[.pointer (some ⟨q,0,none⟩),.agg #[.int .i64 r.k,.int .i64 r.q,.int .i64 r.t,.string r.s,.string r.h,.string r.d]] w λe w'=>e=.returned (.int .i64 (bY s r))/\Below w.heap.size w w':=by
 have hr:kD s.l:=hk.jT;have je:=hk.iW;have hb0:Below w.heap.size w (w.alloc (.cells #[.int .i64 r.k,.int .i64 r.q,.int .i64 r.t,.string r.s,.string r.h,.string r.d] 73)):=(ajb _ _).alloc (Xc _) _;have H0:=aj (h.below hb0);have HR:=aj (RB.new w r.k r.q r.t r.s r.h r.d 73);have Hb0:=aj hb0;have PC:=aj (sD r.k r.q r.t r.s r.h r.d (w.alloc (.cells #[.int .i64 r.k,.int .i64 r.q,.int .i64 r.t,.string r.s,.string r.h,.string r.d] 73)) hm.s hm.h hm.d);have hz:=hm.s;have HC:=aj hc;have Hr:=aj hr;clear h hb0 hm hk hc hr;by_cases hg:dL r=0
 ·have HZ:Hid (jB r.k r.q r.t r.s r.h r.d=0):=aj hg;have F1:=ny hg;have T1:=YJ (s:=s) hg;have T2:=YK (s:=s) hg;have T3:=adF (s:=s) hg;clear hg;rcases r with ⟨k,n,t,s',h',d'⟩;by_cases hk1:k=1
  ·subst hk1;have HRt:=aj (F1 rfl);have TT:=aj (T1 rfl);clear T1 T2 T3 F1;dsimp only at H0 HR Hb0 PC hz HZ ⊢;go_enter func136,ntmps136;go_wp2_with fail;refine(ah PC).mono ?_;rintro e w1 ⟨rfl,b1⟩;rw[ah HZ];obtain⟨_,x0,x1,x2,x3,x4,x5⟩:=(ah HR).next b1;have P:=aj (aav ⟨1,n,t,s',h',d'⟩ ((ah H0).below b1) (ah HC) (ah HRt) hz je);have B1:=aj (ak (ah Hb0) b1);clear b1;go_wp2_with fail;refine(ah P).mono ?_;rintro e w2 ⟨rfl,b2⟩;go_wp2_with fail;go_ret;exact⟨dH (ah TT),ak (ah B1) b2⟩
  ·by_cases hk2:k=2
   ·subst hk2;have TT:=aj (T2 rfl);clear T1 T2 T3 F1;dsimp only at H0 HR Hb0 PC hz HZ ⊢;go_enter func136,ntmps136;go_wp2_with fail;refine(ah PC).mono ?_;rintro e w1 ⟨rfl,b1⟩;rw[ah HZ];obtain⟨_,x0,x1,x2,x3,x4,x5⟩:=(ah HR).next b1;have P:=aj (aaw n ((ah H0).below b1) (ah Hr) je);have B1:=aj (ak (ah Hb0) b1);clear b1;go_wp2_with fail;refine(ah P).mono ?_;rintro e w2 ⟨rfl,b2⟩;go_wp2_with fail;go_ret;exact⟨dH (ah TT),ak (ah B1) b2⟩
   ·have T4:=aj (T3 hk1 hk2);clear T1 T2 T3 F1;dsimp only at H0 HR Hb0 PC hz HZ ⊢;go_enter func136,ntmps136;go_wp2_with fail;refine(ah PC).mono ?_;rintro e w1 ⟨rfl,b1⟩;rw[ah HZ];obtain⟨_,x0,x1,x2,x3,x4,x5⟩:=(ah HR).next b1;have B1:=aj (ak (ah Hb0) b1);clear b1;go_wp2_with fail;go_ret;exact⟨dH (ah T4),ah B1⟩
 ·have R:=aj (YI (s:=s) hg);obtain⟨E,hE⟩:∃E,E=dL r:=⟨_,rfl⟩;have HE:Hid (jB r.k r.q r.t r.s r.h r.d=E):=aj hE.symm;rw[<-hE] at hg R;clear hE;go_enter func136,ntmps136;go_wp2_with fail;refine(ah PC).mono ?_;rintro e w1 ⟨rfl,b1⟩;rw[ah HE];go_wp2_with fail;go_ret;exact⟨dH (ah R),ak (ah Hb0) b1⟩
theorem aT.six {w:World}{B g cap:Nat}{l:List Rc}(h:aT w B (.slice (some ⟨g,0,none⟩) l.length cap) l){k:Nat}(hk:k<l.length):Six w g (k*6) (rc l k):=by
 obtain⟨a,c,e,_,_,hs⟩:=h.shape;obtain⟨rfl,_,_⟩:=ajO e;obtain⟨b,o,e2,s6⟩:=hs k hk
 cases e2
 rw[ajv] at s6;exact s6
theorem WT {w w':World}{b:Nat}{k q t:Int}{s h d:ByteArray}{A:Nat->Prop}(r:RB w b k q t s h d)(hc:aH A w w')(hn:¬A b):RB w' b k q t s h d :=
 ⟨ajc r.lt hc.size,by rw[hc.cell (p:=⟨b,0,none⟩) r.lt hn];exact r.c0,by rw[hc.cell (p:=⟨b,1,none⟩) r.lt hn];exact r.c1,by rw[hc.cell (p:=⟨b,2,none⟩) r.lt hn];exact r.c2,by rw[hc.cell (p:=⟨b,3,none⟩) r.lt hn];exact r.c3,by rw[hc.cell (p:=⟨b,4,none⟩) r.lt hn];exact r.c4,by rw[hc.cell (p:=⟨b,5,none⟩) r.lt hn];exact r.c5,λj=>by rw[hc.frozen (p:=⟨b,j,none⟩) r.lt hn];exact r.fr j⟩
theorem qh.more {w:World}{B q:Nat}{a:Option Addr}{n cap:Nat}{u:Value}{l:List Rc}{es:List aW}{last:Int}(r:Rc)(h:qh w B q (.slice a n cap) u l es last)(je:l.length<=200)(hB:B<=w.heap.size)(w3:World)(b3:Below w.heap.size w w3) :
 ∃a' m' c' w8,(Builtin.append_ #[39,39] 39 #[.slice a n cap,.slice (some ⟨w3.heap.size,0,none⟩) 1 1]).run prog (w3.alloc (.cells #[.int .i64 r.k,.int .i64 r.q,.int .i64 r.t,.string r.s,.string r.h,.string r.d] 73))=.ok (.slice a' m' c') w8/\w8.cell? ⟨q,0,none⟩=some (.slice a n cap)/\w8.frozen? ⟨q,0,none⟩=false/\Hid (dS w (w8.setCell ⟨q,0,none⟩ (.slice a' m' c')) B q (.slice a n cap) u (l++[r]) es last):=by
 have b4:Below w3.heap.size w3 (w3.alloc (.cells #[.int .i64 r.k,.int .i64 r.q,.int .i64 r.t,.string r.s,.string r.h,.string r.d] 73)):=(ajb _ _).alloc (Xc _) _;have h4:=(h.below b3).below b4;obtain⟨v8,w8,hr,A8,C8,L8⟩:=iQ _ B 39 _ l [r] h4.msgs ⟨w3.heap.size,0,none⟩ 1 (qB w3 r) (by simp;omega) (by have:=b3.size;have:=b4.size;omega);obtain⟨a',c',rfl,_⟩:=A8.shape;refine⟨a',_,c',w8,hr,?_,?_,aj (dS.behind (ak b3 b4) (dS.store h4 C8 A8 L8))⟩
 ·rw[C8.cell (p:=⟨q,0,none⟩) h4.lt h4.av];exact h4.c0
 ·rw[C8.frozen (p:=⟨q,0,none⟩) h4.lt h4.av];exact h4.free 0
theorem adG {w:World}{B q:Nat}{v u:Value}{l:List Rc}{es:List aW}{last:Int}(r:Rc)(hm:Small r)(h:qh w B q v u l es last)(hg:Go.Proofs.YtidekgipblnpkaaGreatDoor.gI es)(je:l.length<=200)(hB:B<=w.heap.size)(hn:jA es r.s<=200)(hn0:0<=jA es r.s) :
 Calls prog 144 #[.pointer (some ⟨q,0,none⟩),.agg #[.int .i64 r.k,.int .i64 r.q,.int .i64 r.t,.string r.s,.string r.h,.string r.d]] w λe w'=>e=.returned (.tuple #[])/\dS w w' B q v u (l++[r]) (pz es r.s (jA es r.s+1)) r.q:=by
 obtain⟨w0,hw0⟩:∃w0,w0=w.alloc (.cells #[.int .i64 r.k,.int .i64 r.q,.int .i64 r.t,.string r.s,.string r.h,.string r.d] 73):=⟨_,rfl⟩;have hb0:Below w.heap.size w w0:=by rw[hw0];exact(ajb _ _).alloc (Xc _) _
 have R0:RB w0 w.heap.size r.k r.q r.t r.s r.h r.d:=by rw[hw0];exact RB.new w r.k r.q r.t r.s r.h r.d 73
 have h0:=h.below hb0;obtain⟨a,cap,rfl,_⟩:=h.msgs.shape;have c0:=h0.c0;have vw:=h0.lt;have hbl:=R0.lt;have aiJ:w.heap.size<w0.heap.size:=R0.lt;have hnf:¬qp q (.slice a l.length cap) u w.heap.size:=λz=>by have:=(h.own _ z).2;omega
 have HR0:=aj R0;obtain⟨_,x0,x1,x2,x3,x4,x5,_⟩:=R0;have PC:Hid (∀X,Calls prog 60 #[.agg #[.int .i64 r.k,.int .i64 r.q,.int .i64 r.t,.string r.s,.string r.h,.string r.d]] X λe w'=>e=.returned (.agg #[.int .i64 r.k,.int .i64 r.q,.int .i64 r.t,.string r.s,.string r.h,.string r.d])/\Below X.heap.size X w'):=aj (λX=>xR r hm X);have PA:=aj (h0.more r je (by have:=hb0.size;omega));have Hb0:=aj hb0;have HN:=aj hnf;have HG:=aj hg;have hz:=hm.s;have hB0:B<=w0.heap.size:=by have:=hb0.size;omega
 clear h h0 hb0 hg hnf hm;go_enter func144,ntmps144;go_wp2_with fail;rw[<-hw0];clear hw0;go_region_law (first
  | (refine Ob rfl _ _ 39 39 rfl (.slice a l.length cap) _ (by first|(simp[Act.eval];done)|(simp[Act.eval,Act.put];done)) (by first|(simp[Act.eval];done)|(simp[Act.eval,Act.put];done)) hrun ?_)
  | (go_simp;go_at_call 60;refine(ah PC _).mono ?_;rintro e w3 ⟨rfl,b3⟩;have d2:=(b3.cell (p:=⟨q,0,none⟩) vw).trans c0;have hp3:=ajc vw b3.size;obtain⟨a',m',c',w8,hrun,e0,f0,HM⟩:=ah PA w3 (((ajb w0.heap.size w0).drew).trans b3);dsimp only))
 all_goals
  obtain⟨v1,u1,s1,ch1,o1⟩:=ah HM
  have R1:=WT (ah HR0) ch1 (ah HN)
  generalize w8.setCell ⟨q,0,none⟩ (.slice a' m' c')=W1 at *
  clear PC PA HR0 x0 x1 x2 x3 x4 x5 e0 f0 d2 hp3 b3 hrun HM c0 hbl
  have HS1:=aj s1
  have HR1:=aj R1
  have hq1:=s1.lt
  have hl1:=R1.lt
  obtain⟨_,x0,x1,x2,x3,x4,x5,_⟩:=R1
  have HC1:=aj (And.intro ch1 o1)
  have HNf:Hid (¬pJ q u1 w.heap.size):=aj (λz=>by
   have hf:qp q v1 u1 w.heap.size:=by
    rcases z with z|z
    ·exact .inl z
    ·exact .inr (.inr z)
   rcases o1 _ hf with y|y
   ·exact ah HN y
   ·have:=aiJ;omega)
  have hB1:B<=W1.heap.size:=by have:=ch1.size;omega
  have hsd:=s1.below (ajb _ W1).drew
  have PN:=aj (uN r.s hsd (ah HG) hz)
  obtain⟨n,en⟩:∃n,n=jA es r.s:=⟨_,rfl⟩
  rw[<-en] at PN hn hn0
  have HE:=aj en
  have hw1:IntKind.i64.wrap (n+1)=n+1:=by rw[ajq];omega
  clear s1 ch1 o1 en hsd
  go_wp2_with fail
  go_region_held3 (λw'=>w'.cell? ⟨w.heap.size,3,none⟩=some (.string r.s)) (first|assumption|go_keep)
   (first
    | (go_at_call 187;refine(ah PN).mono ?_;rintro e w5 ⟨rfl,b5⟩;have B5:=aj (((ajb W1.heap.size W1).drew).trans b5);have y3:=((ah HR1).next (ah B5)).c3)
    | (go_at_call 186;refine(TI B q u1 es r.s (n+1) w5 ((ah HS1).below (ah B5)).keeps (ah HG) hz (aje hB1 (ah B5).size)).mono ?_;rintro e w6 ⟨rfl,hu⟩;have R6:=WT ((ah HR1).next (ah B5)) (ac9 (oK.bZ hu)) (ah HNf);have z3:=R6.c3))
  have s5:=(ah HS1).below (ah B5)
  have M6:=dS.behind (ah B5) (dS.Kr s5 hu)
  have HM6:=aj M6
  obtain⟨v6,u6,s6,c6,o6⟩:=M6
  have k2:=s6.c2
  have kf:=s6.free 2
  have kl:=s6.lt
  have x1:=R6.c1
  have HF:=aj (dS.seq c6 o6 (dS.number s6 r.q))
  have HC:=aj (dS.behind (ah Hb0) (dS.seq (ah HC1).1 (ah HC1).2 (ah HF)))
  clear HF s6 c6 o6 s5 hu HM6 y3 z3 R6
  go_wp2_with fail
  go_end0
  refine⟨rfl,?_⟩
  rw[<-ah HE]
  exact ah HC
theorem adH {w:World}{B q:Nat}{v u:Value}{l:List Rc}{es:List aW}{last:Int}(n:Int)(h:qh w B q v u l es last)(hr:kD l)(hs:seqB l n=true)(hg:Go.Proofs.YtidekgipblnpkaaGreatDoor.gI es)(je:l.length<=200)(hB:B<=w.heap.size)(hz:(rc l (pq l n)).s.size<=140737488355328)(hn:jA es (rc l (pq l n)).s<=200) :
 Calls prog 145 #[.pointer (some ⟨q,0,none⟩),.int .i64 n] w λe w'=>e=.returned (.tuple #[])/\dS w w' B q v u (KD l (pq l n)) (VP es (jA es (rc l (pq l n)).s) (rc l (pq l n)).s) last:=by
 obtain⟨p1,p2⟩:=Ap hr hs;have PP:=aj (pW n h hr je);obtain⟨p,hp⟩:∃p,p=pq l n:=⟨_,rfl⟩;rw[<-hp] at p1 p2 PP hz hn ⊢;clear hp p2;obtain⟨g,cap,rfl,c1,c2,c3,c4⟩:=h.msgs.there (by omega);unfold maxLen at c2;have HH:=aj h;have HG:=aj hg;clear h hg hr hs;go_enter func145,ntmps145;go_wp2_with fail;refine(ah PP).mono ?_;rintro e w1 ⟨rfl,b1⟩;have h1:=(ah HH).below b1;have d0:=h1.c0;obtain⟨_,x0,x1,x2,x3,x4,x5⟩:=h1.msgs.six p1;have P:=aj (YH (rc l p).s h1 (ah HG) hz (by have:=b1.size;omega) hn);have B1:=aj b1;clear b1 h1 x0 x1 x2 x4 x5;go_wp2_with fail;refine(ah P).mono ?_
 rintro e w2 ⟨rfl,k2⟩;obtain⟨u2,h2,ch2,o2⟩:=qM.behind (ah B1) k2;have F2:=aj (qM.qp (v:=.slice (some ⟨g,0,none⟩) l.length cap) ch2 o2);have e0:=h2.c0;have PD:=aj (TL B _ l p w2 h2.msgs p1 je);have H2:=aj h2;clear h2 ch2 o2 P x3 d0 k2;go_wp2_with fail;refine(ah PD).mono ?_;rintro e w3 ⟨v3,rfl,i1,i2,i3⟩;obtain⟨a3,cp3,rfl,_⟩:=i1.shape;have d4:w3.cell? ⟨q,0,none⟩=some (.slice (some ⟨g,0,none⟩) l.length cap):=by rw[i2.cell (p:=⟨q,0,none⟩) (ah H2).lt (ah H2).av];exact e0
 have d5:w3.frozen? ⟨q,0,none⟩=false:=by rw[i2.frozen (p:=⟨q,0,none⟩) (ah H2).lt (ah H2).av];exact(ah H2).free 0
 have HM:=aj (dS.store (ah H2) i2 i1 i3);clear i1 i2 i3 e0 PD;go_wp2_with fail;go_end0
 exact⟨rfl,dS.seq (ah F2).1 (ah F2).2 (ah HM)⟩
theorem adI {f s:ByteArray}(hf:aG true f=0)(hs:aG false s=0):bF f s=mX f s:=by
 unfold bF mX;rw[hf,hs];simp
structure uO (w wr:World)(B q:Nat)(v u:Value)(l:List Rc)(last:Int)(f:ByteArray)(k:Nat)(sv:Value):Prop where
 ex:∃u' es',qh wr B q v u' l es' last/\nP (kE f (l.take k)++l.drop k) es'/\aH (qp q v u) w wr/\(∀g,qp q v u' g->qp q v u g\/w.heap.size<=g)/\aT wr w.heap.size sv (kE f (l.take k))/\∀g,sv.ownBlock=some g->u'.ownBlock≠some g
 hq:q<w.heap.size
 hv:∀g,v.ownBlock=some g->g<w.heap.size
theorem Pv (l:List Rc)(s:ByteArray):dQ l s<=l.length:=akB _ _
section
variable {w wr w':World}{B q:Nat}{v u sv:Value}{l:List Rc}{last:Int}{f:ByteArray}{k:Nat}
theorem uO.below (h:uO w wr B q v u l last f k sv)(hb:Below wr.heap.size wr w'):uO w w' B q v u l last f k sv:=by
 obtain⟨u',es',s,cn,ch,o,ar,ap⟩:=h.ex;exact⟨⟨u',es',s.below hb,cn,ch.trans (aH.aA hb),o,ar.below hb,ap⟩,h.hq,h.hv⟩
theorem uO.show (h:uO w wr B q v u l last f k sv)(hk:k<l.length){a:Option Addr}{n c:Nat}(hv:v=.slice a n c):∃b o,a=some ⟨b,o,none⟩/\Six wr b (o+k*6) (rc l k):=by
 obtain⟨u',es',s,cn,ch,o,ar,ap⟩:=h.ex;obtain⟨a',c',e,_,_,hs⟩:=s.msgs.shape;rw[hv] at e;obtain⟨rfl,_,_⟩:=ajO e;exact hs k hk
theorem uO.shape (h:uO w wr B q v u l last f k sv):∃a n c,sv=.slice a n c:=by
 obtain⟨u',es',s,cn,ch,o,ar,ap⟩:=h.ex;obtain⟨a',c',e,_⟩:=ar.shape;exact⟨_,_,_,e⟩
theorem uO.count (h:uO w wr B q v u l last f k sv)(hk:k<l.length)(ht:mX f (rc l k).s=true)(hB:B<=w.heap.size)(je:l.length<=200)(hm:∀x∈l,aG false x.s=0/\x.s.size<=135) :
 Calls prog 188 #[.pointer (some ⟨q,0,none⟩),.string (rc l k).s] wr λe w'=>e=.returned (.tuple #[])/\uO w w' B q v u l last f (k+1) sv:=by
 obtain⟨u',es',s,cn,ch,o,ar,ap⟩:=h.ex;obtain⟨m1,m2⟩:=hm _ (wB hk);have hsp:kE f (l.take k)++l.drop k=kE f (l.take k)++rc l k::l.drop (k+1):=by rw[bP hk,<-ajD hk]
 have hnl:(kE f (l.take k)++l.drop k).length<=200:=by
  have:=Jf f (l.take k);rw[ajn] at this;rw[ajh,ajp];omega
 have hgn:jA es' (rc l k).s<=200:=by
  rw[cn.get m1];have:=Pv (kE f (l.take k)++l.drop k) (rc l k).s;omega
 refine(YH (rc l k).s s cn.jY (by omega) (aje hB ch.size) hgn).mono ?_;rintro e w' ⟨he,u2,s2,c2,o2⟩;obtain⟨F1,F2⟩:=qM.qp (v:=v) c2 o2;refine⟨he,⟨⟨u2,_,s2,?_,?_,?_,?_,?_⟩,h.hq,h.hv⟩⟩
 ·rw[hsp] at cn;have:=nP.off cn m1 (by omega);rw[Cb hk,ht,if_pos rfl,ake];exact this
 ·refine⟨F1.os.trans ch.os,F1.tape.trans ch.tape,F1.output.trans ch.output,aje ch.size F1.size,λi hi hn=>?_⟩;rw[F1.block i (by have:=ch.size;omega) (λz=>?_)]
  ·exact ch.block i hi hn
  ·rcases o i z with y|y
   ·exact hn y
   ·omega
 ·intro g hg;rcases F2 g hg with y|y
  ·exact o g y
  ·right;have:=ch.size;omega
 ·rw[Cb hk,ht,if_pos rfl,ake];refine ar.bZ c2 (λg hg z=>?_);rcases z with z|z
  ·have:=(ar.lt g hg).1;have:=h.hq;omega
  ·exact ap g hg z
 ·intro g hg z;rcases o2 g z with y|y
  ·exact ap g hg y
  ·have:=(ar.lt g hg).2;omega
theorem uO.more (h:uO w wr B q v u l last f k sv)(hk:k<l.length)(ht:mX f (rc l k).s=false)(je:l.length<=200) :
 ∃a' n' c' w',(Builtin.append_ #[39,39] 39 #[sv,.slice (some ⟨wr.heap.size,0,none⟩) 1 1]).run prog (wr.alloc (.cells #[.int .i64 (rc l k).k,.int .i64 (rc l k).q,.int .i64 (rc l k).t,.string (rc l k).s,.string (rc l k).h,.string (rc l k).d] 73))=.ok (.slice a' n' c') w'/\uO w w' B q v u l last f (k+1) (.slice a' n' c'):=by
 have b4:Below wr.heap.size wr (wr.alloc (.cells #[.int .i64 (rc l k).k,.int .i64 (rc l k).q,.int .i64 (rc l k).t,.string (rc l k).s,.string (rc l k).h,.string (rc l k).d] 73)):=(ajb _ _).alloc (Xc _) _;obtain⟨u',es',s,cn,ch,o,ar,ap⟩:=(h.below b4).ex;have hnl:(kE f (l.take k)).length<=200:=by
  have:=Jf f (l.take k);rw[ajn] at this;omega
 obtain⟨v8,w8,hr,A8,C8,L8⟩:=iQ _ w.heap.size 39 sv _ [rc l k] ar ⟨wr.heap.size,0,none⟩ 1 (qB wr (rc l k)) (by simp;omega) ch.size;obtain⟨a',c',rfl,_⟩:=A8.shape;have hsp:l.drop k=rc l k::l.drop (k+1):=by rw[bP hk,<-ajD hk]
 have hlt:kE f (l.take (k+1))=kE f (l.take k)++[rc l k]:=by rw[Cb hk,ht];rfl
 have hown:∀g,sv.ownBlock=some g->¬qp q v u' g:=λg hg z=>by
  have h1:=(ar.lt g hg).1;rcases z with z|z|z
  ·have:=h.hq;omega
  ·have:=h.hv g z;omega
  ·exact ap g hg z
 refine⟨a',_,c',w8,hr,⟨⟨u',es',s.bZ C8 (λg hg z=>hown g z hg),?_,?_,o,by rw[hlt];exact A8,?_⟩,h.hq,h.hv⟩⟩
 ·rw[hlt,ajW,amn,<-hsp];exact cn
 ·refine⟨C8.os.trans ch.os,C8.tape.trans ch.tape,C8.output.trans ch.output,aje ch.size C8.size,λi hi hn=>?_⟩;rw[C8.block i (by have:=ch.size;omega) (λz=>by have:=(ar.lt i z).1;omega)];exact ch.block i hi hn
 ·intro g hg z;rcases L8 g hg with y|y
  ·exact ap g y z
  ·have:=(s.TJ.lt g z).2;omega
theorem uO.fin {a:Option Addr}{n c:Nat}(h:uO w wr B q (.slice a n c) u l last f k sv)(hk:k<=l.length)(je:l.length<=200) :
 Calls prog 190 #[.slice a n c,.int .i64 0,.int .i64 k,sv] wr λe w'=>∃a' n' c',e=.returned (.slice a' n' c')/\w'.cell? ⟨q,0,none⟩=some (.slice a n c)/\w'.frozen? ⟨q,0,none⟩=false/\Hid (∃es',dS w (w'.setCell ⟨q,0,none⟩ (.slice a' n' c')) B q (.slice a n c) u (kE f (l.take k)++l.drop k) es' last/\nP (kE f (l.take k)++l.drop k) es'):=by
 obtain⟨u',es',s,cn,ch,o,ar,ap⟩:=h.ex;refine(TP s.msgs ar (by have:=Jf f (l.take k);rw[ajn] at this;omega) hk je (λg hg z=>by have:=h.hv g hg;have:=(ar.lt g z).1;omega)).mono ?_;rintro e w' ⟨v',rfl,A8,C8,L8⟩;obtain⟨a',c',rfl,_⟩:=A8.shape;refine⟨a',_,c',rfl,?_,?_,aj ⟨es',dS.seq ch o (dS.store s C8 A8 L8),cn⟩⟩
 ·rw[C8.cell (p:=⟨q,0,none⟩) s.lt s.av];exact s.c0
 ·rw[C8.frozen (p:=⟨q,0,none⟩) s.lt s.av];exact s.free 0
end
theorem adJ {w:World}{B q:Nat}{v u:Value}{l:List Rc}{es:List aW}{last:Int}(f:ByteArray)(n:Int)(hf:aG true f=0)(hfz:f.size<=140737488355328)(h:qh w B q v u l es last)(hr:kD l)(hc:nP l es)(je:l.length<=200)(hm:∀x∈l,aG false x.s=0/\x.s.size<=135)(hB:B<=w.heap.size) :
 Calls prog 146 #[.pointer (some ⟨q,0,none⟩),.string f,.int .i64 n] w λe w'=>e=.returned (.tuple #[])/\∃es',dS w w' B q v u (kE f (l.take (pq l n))++l.drop (pq l n)) es' last/\nP (kE f (l.take (pq l n))++l.drop (pq l n)) es':=by
 have PP:=aj (pW n h hr je);have hpl:=Yd l n;obtain⟨p,hp⟩:∃p,p=pq l n:=⟨_,rfl⟩;rw[<-hp] at PP hpl ⊢;clear hp;obtain⟨a,cap,rfl,c1,c2,hsl⟩:=h.msgs.shape;unfold maxLen at c2;have HH:=aj h;have HC:=aj hc;have HM:=aj hm;clear h hc hr hm;go_enter func146,ntmps146;go_wp2_with fail;refine(ah PP).mono ?_;rintro e w1 ⟨rfl,b1⟩;have h1:=(ah HH).below b1;have d0:=h1.c0;have e0:(0:Int)<=(p:Int):=by omega
 have e1:(p:Int)<=(l.length:Int):=by omega
 have e2:p<=cap:=by omega
 clear PP;have HP:Hid (uO w w1 B q (.slice a l.length cap) u l last f 0 (.slice none 0 0)):=aj ⟨⟨u,es,h1,by simpa[kE] using ah HC,aH.aA b1,λg hg=>.inl hg,aT.empty _ _,λg hg=>by simp[Value.ownBlock] at hg⟩,(ah HH).lt,λg hg=>((ah HH).msgs.lt g hg).2⟩;have PT:Hid (∀k,k<l.length->∀X,Calls prog 126 #[.string f,.agg #[.int .i64 (rc l k).k,.int .i64 (rc l k).q,.int .i64 (rc l k).t,.string (rc l k).s,.string (rc l k).h,.string (rc l k).d]] X λe w'=>e=.returned (.bool (mX f (rc l k).s))/\Below X.heap.size X w'):=aj (λk hk X=>by
  obtain⟨m1,m2⟩:=ah HM _ (wB hk);have:=Nr f (rc l k) hfz (by omega) X;rw[adI hf m1] at this;exact this)
 clear h1 b1 hsl hf;go_wp2_with fail;clear d0;go_loopw [8,24] (λsv kv wr=>∃(k:Nat),kv=.int .i64 k/\k<=p/\Hid (uO w wr B q (.slice a l.length cap) u l last f k sv)) (λ_ kv _=>p-(intOf kv).toNat)
 case atStart=>exact⟨0,rfl,ajm _,HP⟩
 case round =>
  clear HP;obtain⟨k,rfl,hk,HP⟩:=hrel;obtain⟨sa,sn,sc,rfl⟩:=(ah HP).shape;by_cases hlt:k<p
  ·obtain⟨b,o,rfl,s6⟩:=(ah HP).show (by omega) rfl;have hkl:k<l.length:=by omega
   have T:=aj (ah PT k hkl);have K1:Hid (∀w5,Below wr.heap.size wr w5->mX f (rc l k).s=true->Calls prog 188 #[.pointer (some ⟨q,0,none⟩),.string (rc l k).s] w5 λe w'=>e=.returned (.tuple #[])/\uO w w' B q (.slice (some ⟨b,o,none⟩) l.length cap) u l last f (k+1) (.slice sa sn sc)):=aj (λw5 b5 ht=>((ah HP).below b5).count hkl ht hB je (ah HM));have K2:Hid (∀w5,Below wr.heap.size wr w5->mX f (rc l k).s=false->∃a' n' c' w',(Builtin.append_ #[39,39] 39 #[.slice sa sn sc,.slice (some ⟨w5.heap.size,0,none⟩) 1 1]).run prog (w5.alloc (.cells #[.int .i64 (rc l k).k,.int .i64 (rc l k).q,.int .i64 (rc l k).t,.string (rc l k).s,.string (rc l k).h,.string (rc l k).d] 73))=.ok (.slice a' n' c') w'/\uO w w' B q (.slice (some ⟨b,o,none⟩) l.length cap) u l last f (k+1) (.slice a' n' c')):=aj (λw5 b5 ht=>((ah HP).below b5).more hkl ht je)
   generalize rc l k=y at *;obtain⟨_,x0,x1,x2,x3,x4,x5⟩:=s6;have hb0:Below wr.heap.size wr (wr.alloc (.cells #[.int .i64 y.k,.int .i64 y.q,.int .i64 y.t,.string y.s,.string y.h,.string y.d] 73)):=(ajb _ _).alloc (Xc _) _;have R0:=aj (RB.new wr y.k y.q y.t y.s y.h y.d 73);have Hb0:=aj hb0;clear hb0 PT;go_wp2_with fail;refine(ah T _).mono ?_;rintro e w5 ⟨rfl,b5⟩;have B5:=aj (ak (ah Hb0) b5);obtain⟨_,y0,y1,y2,y3,y4,y5,_⟩:=(ah R0).next b5;clear x0 x1 x2 x3 x4 x5 b5 T R0 Hb0
   cases ht:mX f y.s with
   | true =>
    have C:=aj (ah K1 w5 (ah B5) ht);clear K1 K2 ht;go_wp2_with fail;refine(ah C).mono ?_;rintro e w6 ⟨rfl,p6⟩;have P6:=aj p6;clear p6 C;go_wp2_with fail;refine⟨⟨k+1,by go_num,by omega,P6⟩,?_⟩;simp[intOf];omega
   | false =>
    obtain⟨a',n',c',w6,hrun,p6⟩:=ah K2 w5 (ah B5) ht;have P6:=aj p6;clear K1 K2 ht p6;go_wp2_with (at_builtin;refine ajy _ rfl _ _ _ _ rfl _ _ rfl rfl _ _ hrun ?_);refine⟨⟨k+1,by go_num,by omega,P6⟩,?_⟩;simp[intOf];omega
  ·obtain rfl:k=p:=by omega
   have PF:=aj ((ah HP).fin hpl je);have d0:wr.cell? ⟨q,0,none⟩=some (.slice a l.length cap):=by
    obtain⟨u',es',s,_⟩:=(ah HP).ex;exact s.c0
   clear HP;go_wp2_with fail;refine(ah PF).mono ?_;rintro e w6 ⟨a',n',c',rfl,f0,f1,HF⟩;clear PF d0;go_wp2_with fail;go_end0
   exact⟨rfl,ah HF⟩
theorem Px {s:aJ}{r:Rc}(h:bY s r=0):dL r=0:=by
 apply aju;intro z;rw[YI z] at h;exact z h
theorem afS {s:aJ}{r:Rc}(h:¬bY s r=0):jW s r=s:=by unfold jW;rw[if_pos h]
theorem afT {s:aJ}{r:Rc}(h:bY s r=0)(h1:r.k=1):jW s r=⟨s.l++[r],r.q⟩:=by
 unfold jW;rw[if_neg (by rw[h];simp),if_pos h1]
theorem adK {s:aJ}{r:Rc}(h:bY s r=0)(h1:r.k=4):jW s r=⟨s.l,max s.last r.q⟩:=by
 unfold jW;rw[if_neg (by rw[h];simp),if_neg (by omega),if_pos h1]
theorem afU {s:aJ}{r:Rc}(h:bY s r=0)(h1:r.k=2)(hr:kD s.l)(hs:seqB s.l r.q=true):jW s r=⟨KD s.l (pq s.l r.q),s.last⟩:=by
 unfold jW;rw[if_neg (by rw[h];simp),if_neg (by omega),if_neg (by omega),<-acC hr hs];unfold pF;rw[h1];simp
theorem afV {s:aJ}{r:Rc}(h:bY s r=0)(h1:r.k=3)(hr:kD s.l):jW s r=⟨kE r.s (s.l.take (pq s.l r.q))++s.l.drop (pq s.l r.q),s.last⟩:=by
 rw[VK h h1,acD hr]
theorem YL {s:aJ}{r:Rc}(h:bY s r=0)(h1:r.k=2):seqB s.l r.q=true:=by
 rw[YK (Px h) h1] at h;unfold erE at h
 cases z:seqB s.l r.q
 ·rw[z] at h;cases h
 ·rfl
theorem adL {s:aJ}{r:Rc}{es:List aW}(hc:nP s.l es)(h:bY s r=0)(h1:r.k=1):0<dQ s.l r.s\/es.length<100:=by
 rw[YJ (Px h) h1] at h;unfold tmE at h;split at h
 ·cases h
 ·split at h
  ·cases h
  ·rename_i z y;rw[hc.len];by_cases q:dP s.l<100
   ·exact .inr q
   ·left;have hh:fJ s.l r.s=true:=by
     cases x:fJ s.l r.s
     ·exact absurd (.inr ⟨x,by omega⟩) y
     ·rfl
    rw[nO] at hh;exact alF hh
theorem dS.drew {w w':World}{B q:Nat}{v u:Value}{l:List Rc}{es:List aW}{last:Int}(h:dS w w' B q v u l es last):dS w w'.drew B q v u l es last:=by
 obtain⟨v',u',s,c,o⟩:=h;exact⟨v',u',s.below (ajb _ _).drew,c.trans (aH.aA (ajb _ _).drew),o⟩
def Py (w w':World)(B q:Nat)(v u:Value)(s':aJ):Prop:=∃es',dS w w' B q v u s'.l es' s'.last/\nP s'.l es'
theorem Py.behind {w w1 w':World}{B q:Nat}{v u:Value}{s':aJ}(hb:Below w.heap.size w w1)(h:Py w1 w' B q v u s'):Py w w' B q v u s':=by
 obtain⟨es',m,c⟩:=h;exact⟨es',m.behind hb,c⟩
theorem JY {w:World}{B q:Nat}{v u:Value}{s:aJ}{es:List aW}(r:Rc)(hm:Small r)(h:qh w B q v u s.l es s.last)(hc:nP s.l es)(hk:s.Ok)(hB:B<=w.heap.size) :
 Calls prog 113 #[.pointer (some ⟨q,0,none⟩),.agg #[.int .i64 r.k,.int .i64 r.q,.int .i64 r.t,.string r.s,.string r.h,.string r.d]] w λe w'=>e=.returned (.int .i64 (bY s r))/\Py w w' B q v u (jW s r):=by
 have hb0:Below w.heap.size w (w.alloc (.cells #[.int .i64 r.k,.int .i64 r.q,.int .i64 r.t,.string r.s,.string r.h,.string r.d] 73)):=(ajb _ _).alloc (Xc _) _;have h0:=h.below hb0;have PT:=aj (JX r hm h0 hc hk);have HR:=aj (RB.new w r.k r.q r.t r.s r.h r.d 73);have Hb0:=aj hb0;have H0:=aj h0;have hr:kD s.l:=hk.jT;have je:=hk.iW;have HMs:Hid (∀x∈s.l,aG false x.s=0/\x.s.size<=135):=aj (λx hx=>⟨ny (hk.msg x hx).2 (hk.msg x hx).1,(hk.small hx).1⟩);have hl:=hk.last;have HC:=aj hc;have Hr:=aj hr;clear hk;by_cases ht:bY s r=0
 ·have hg:=Px ht;have hq:=OA hg;have HT:=aj ht;have A1:=afT ht;have A2:=λh1=>afU ht h1 hr (YL ht h1)
  have A3:=λh1=>afV ht h1 hr
  have A4:=adK ht;have S2:=YL ht;have Rm:=ny hg;have Rp:=aau hg;have Ro:=adL hc ht;have K4:r.k=1\/r.k=2\/r.k=3\/r.k=4:=by
   obtain⟨z1,z2,_⟩:=Pk.oC (r:=r.pk) hg;have z1:1<=r.k:=z1;have z2:r.k<=4:=z2;omega
  clear h hb0 h0 hc hr ht hg;rcases r with ⟨k,n,t,s',h',d'⟩;dsimp only at HR Hb0 H0 PT HT hq K4 ⊢;have hz:s'.size<=140737488355328:=hm.s;rcases K4 with rfl|rfl|rfl|rfl
  ·have AA:=aj (A1 rfl);have G0:jA es s'=(dQ s.l s':Int):=(ah HC).get (Rm rfl);have G1:=Pv s.l s';have hn1:jA es s'<=200:=by omega
   have hn0:0<=jA es s':=by omega
   have CC:Hid (nP (s.l++[⟨1,n,t,s',h',d'⟩]) (pz es s' (jA es s'+1))):=aj (by rw[G0];exact(ah HC).put ⟨1,n,t,s',h',d'⟩ (Rm rfl) hz (Ro rfl));clear A1 A2 A3 A4 S2 Rm Rp Ro G0 G1;go_enter func113,ntmps113;go_wp2_with fail;refine(ah PT).mono ?_;rintro e w1 ⟨rfl,b1⟩;rw[ah HT];obtain⟨_,x0,x1,x2,x3,x4,x5,_⟩:=(ah HR).next b1;have B1:=aj (ak (ah Hb0) b1);have H1:=aj ((ah H0).below b1);have hB1:B<=w1.heap.size:=aje hB (ah B1).size;clear b1;have P:=aj (adG ⟨1,n,t,s',h',d'⟩ hm (ah H1) (ah HC).jY je hB1 hn1 hn0);go_wp2_with fail
   refine(ah P).mono ?_;rintro e w2 ⟨rfl,m2⟩;have M2:=aj m2;clear P m2 x0 x1 x2 x3 x4 x5;go_wp2_with fail;go_ret;refine⟨dH (ah HT),?_⟩;rw[ah AA];exact Py.behind (ah B1) ⟨_,ah M2,ah CC⟩
  ·have AA:=aj (A2 rfl);have hs0:seqB s.l n=true:=S2 rfl;obtain⟨p1,p2⟩:=Ap (ah Hr) hs0;have hs:=aj hs0;obtain⟨m1,m2⟩:=ah HMs _ (wB p1);have G0:jA es (rc s.l (pq s.l n)).s=(dQ s.l (rc s.l (pq s.l n)).s:Int):=(ah HC).get m1;have G1:=Pv s.l (rc s.l (pq s.l n)).s;have hn1:Hid (jA es (rc s.l (pq s.l n)).s<=200):=aj (by omega);have CC:Hid (nP (KD s.l (pq s.l n)) (VP es (jA es (rc s.l (pq s.l n)).s) (rc s.l (pq s.l n)).s)):=aj (by
    have c:=ah HC;rw[RU p1] at c;exact nP.off c m1 (by omega))
   have hm2:Hid ((rc s.l (pq s.l n)).s.size<=140737488355328):=aj (by omega);clear A1 A2 A3 A4 S2 Rm Rp Ro G0 G1 p1 p2 m1 m2 hs0;go_enter func113,ntmps113;go_wp2_with fail;refine(ah PT).mono ?_;rintro e w1 ⟨rfl,b1⟩;rw[ah HT];obtain⟨_,x0,x1,x2,x3,x4,x5,_⟩:=(ah HR).next b1;have B1:=aj (ak (ah Hb0) b1);have H1:=aj ((ah H0).below b1);have hB1:B<=w1.heap.size:=aje hB (ah B1).size;clear b1;have P:=aj (adH n (ah H1) (ah Hr) (ah hs) (ah HC).jY je hB1 (ah hm2) (ah hn1));go_wp2_with fail;refine(ah P).mono ?_;rintro e w2 ⟨rfl,m2⟩
   have M2:=aj m2;clear P m2 x0 x1 x2 x3 x4 x5;go_wp2_with fail;go_ret;refine⟨dH (ah HT),?_⟩;rw[ah AA];exact Py.behind (ah B1) ⟨_,ah M2,ah CC⟩
  ·have AA:=aj (A3 rfl);have hf:=aj (Rp rfl);clear A1 A2 A3 A4 S2 Rm Rp Ro;go_enter func113,ntmps113;go_wp2_with fail;refine(ah PT).mono ?_;rintro e w1 ⟨rfl,b1⟩;rw[ah HT];obtain⟨_,x0,x1,x2,x3,x4,x5,_⟩:=(ah HR).next b1;have B1:=aj (ak (ah Hb0) b1);have H1:=aj ((ah H0).below b1);have hB1:B<=w1.heap.size:=aje hB (ah B1).size;clear b1;have P:=aj (adJ s' n (ah hf) hz (ah H1) (ah Hr) (ah HC) je (ah HMs) hB1);go_wp2_with fail;refine(ah P).mono ?_;rintro e w2 ⟨rfl,m2⟩;have M2:=aj m2;clear P m2 x0 x1 x2 x3 x4 x5;go_wp2_with fail
   go_ret;refine⟨dH (ah HT),?_⟩;rw[ah AA];exact Py.behind (ah B1) (ah M2)
  ·have AA:=aj (A4 rfl);clear A1 A2 A3 A4 S2 Rm Rp Ro;go_enter func113,ntmps113;go_wp2_with fail;refine(ah PT).mono ?_;rintro e w1 ⟨rfl,b1⟩;rw[ah HT];obtain⟨_,x0,x1,x2,x3,x4,x5,_⟩:=(ah HR).next b1;have B1:=aj (ak (ah Hb0) b1);have H1:=aj ((ah H0).below b1);have hB1:B<=w1.heap.size:=aje hB (ah B1).size;clear b1;have k2:=(ah H1).c2;have kf:=(ah H1).free 2;have kl:=(ah H1).lt;have M2:=aj (dS.number (ah H1) (max s.last n));go_wp2_with fail;go_region
   all_goals go_wp2_with fail
   all_goals go_ret
   all_goals refine⟨dH (ah HT),?_⟩
   all_goals rw[ah AA]
   all_goals exact Py.behind (ah B1) ⟨es,(ah M2).drew,ah HC⟩
 ·have R:=aj (afS ht);obtain⟨E,hE⟩:∃E,E=bY s r:=⟨_,rfl⟩;rw[<-hE] at ht PT ⊢;clear hE h hb0 h0 hc hr;go_enter func113,ntmps113;go_wp2_with fail;refine(ah PT).mono ?_;rintro e w1 ⟨rfl,b1⟩;go_wp2_with fail;go_ret;refine⟨rfl,?_⟩;rw[ah R];exact Py.behind (ah Hb0) ⟨es,dS.same (ah H0) b1,ah HC⟩
theorem Ub (w:World) :
 Calls prog 112 #[] w λe w'=>e=.returned (.pointer (some ⟨w.heap.size,0,none⟩))/\qh w' w.heap.size w.heap.size (.slice none 0 0) (.slice none 0 0) [] [] 0/\Below w.heap.size w w':=by
 go_enter func112,ntmps112;go_wp2_with fail;go_ret;refine⟨rfl,⟨by simp,by simp,by simp,λj=>by simp,Xc _,by simp,aT.empty _ _,aS.empty _ _,by simp[Value.ownBlock],by simp[Value.ownBlock],λg hg=>by simp[Value.ownBlock] at hg⟩,(ajb _ _).alloc (Xc _) _⟩
theorem adM {w wr:World}{sv:Value}{l:List Rc}{k:Nat}(h:aT wr w.heap.size sv (l.take k))(hb:Below w.heap.size w wr)(hk:k<l.length)(je:l.length<=200)(w5:World)(b5:Below wr.heap.size wr w5) :
 ∃a' n' c' w',(Builtin.append_ #[39,39] 39 #[sv,.slice (some ⟨w5.heap.size,0,none⟩) 1 1]).run prog (w5.alloc (.cells #[.int .i64 (rc l k).k,.int .i64 (rc l k).q,.int .i64 (rc l k).t,.string (rc l k).s,.string (rc l k).h,.string (rc l k).d] 73))=.ok (.slice a' n' c') w'/\Hid (aT w' w.heap.size (.slice a' n' c') (l.take (k+1))/\Below w.heap.size w w'):=by
 have b4:Below w5.heap.size w5 (w5.alloc (.cells #[.int .i64 (rc l k).k,.int .i64 (rc l k).q,.int .i64 (rc l k).t,.string (rc l k).s,.string (rc l k).h,.string (rc l k).d] 73)):=(ajb _ _).alloc (Xc _) _;have h4:=(h.below b5).below b4;have hb4:=ak (ak hb b5) b4;obtain⟨v8,w8,hr,A8,C8,_⟩:=iQ _ w.heap.size 39 sv _ [rc l k] h4 ⟨w5.heap.size,0,none⟩ 1 (qB w5 (rc l k)) (by rw[ajn];simp;omega) hb4.size;obtain⟨a',c',rfl,_⟩:=A8.shape;refine⟨a',_,c',w8,hr,aj ⟨?_,hb4.trans (C8.below hb4.size (λg hg z=>by have:=(h4.lt g z).1;omega))⟩⟩;rw[ajo hk,<-bP hk]
 exact A8
theorem Uc {w:World}{B q:Nat}{v u:Value}{l:List Rc}{es:List aW}{last:Int}(h:qh w B q v u l es last)(je:l.length<=200)(hm:∀x∈l,Small x) :
 Calls prog 21 #[.pointer (some ⟨q,0,none⟩)] w λe w'=>∃v',e=.returned v'/\aT w' w.heap.size v' l/\Below w.heap.size w w':=by
 obtain⟨a,cap,rfl,c1,c2,hsl⟩:=h.msgs.shape;have d0:=h.c0;have Bf:=aj hsl;have HM:=aj hm;clear hsl hm h;go_enter func21,ntmps21;go_wp2_with fail;go_loopw [3,11] (λsv kv wr=>∃(k:Nat),kv=.int .i64 k/\k<=l.length/\Hid (aT wr w.heap.size sv (l.take k)/\Below w.heap.size w wr)) (λ_ kv _=>l.length-(intOf kv).toNat)
 case atStart=>exact⟨0,rfl,ajm _,aj ⟨aT.empty _ _,ajb _ _⟩⟩
 case round =>
  clear d0;obtain⟨k,rfl,hk,HP⟩:=hrel;obtain⟨sa,sc,rfl,_⟩:=(ah HP).1.shape;by_cases hlt:k<l.length
  ·obtain⟨b,o,rfl,s6⟩:=ah Bf k hlt;have s7:=s6.below (ah HP).2 s6.lt;have K2:=aj (adM (ah HP).1 (ah HP).2 hlt je);have T:=aj (λX=>xR (rc l k) (ah HM _ (wB hlt)) X);obtain⟨sn,hsn⟩:∃sn,sn=(l.take k).length:=⟨_,rfl⟩;rw[<-hsn] at K2 ⊢;clear hsn;generalize rc l k=y at *;obtain⟨_,x0,x1,x2,x3,x4,x5⟩:=s7;have hb0:Below wr.heap.size wr (wr.alloc (.cells #[.int .i64 y.k,.int .i64 y.q,.int .i64 y.t,.string y.s,.string y.h,.string y.d] 73)):=(ajb _ _).alloc (Xc _) _;have Hb0:=aj hb0;clear hb0 s6;go_wp2_with fail;refine(ah T _).mono ?_;rintro e w5 ⟨rfl,b5⟩
   obtain⟨a',n',c',w6,hrun,P6⟩:=ah K2 w5 (ak (ah Hb0) b5);clear x0 x1 x2 x3 x4 x5 b5 T Hb0 K2;go_wp2_with (at_builtin;refine ajy _ rfl _ _ _ _ rfl _ _ rfl rfl _ _ hrun ?_);refine⟨⟨k+1,by go_num,by omega,P6⟩,?_⟩;simp[intOf];omega
  ·obtain rfl:k=l.length:=by omega
   rw[ajN] at HP ⊢;go_wp2_with fail;go_ret;exact⟨_,rfl,(ah HP).1,(ah HP).2⟩
theorem WU {l:List Rc}{k:Nat}(h:k<l.length):bI (l.take (k+1))=bI (l.take k)+((rc l k).s.size+(rc l k).h.size+(rc l k).d.size):=by
 rw[ajo h,<-bP h,oH];rfl
theorem aax {l:List Rc}(h:0<l.length):dU l=(rc l 0).q:=by
 cases l with
 | nil=>cases h
 | cons x l=>rfl
theorem Ud (l:List Rc)(k:Nat):bI (l.take k)<=bI l:=by
 have:=oH (l.take k) (l.drop k);rw[ajA] at this;omega
theorem Ue {w:World}{B q:Nat}{v u:Value}{l:List Rc}{es:List aW}{last:Int}(h:qh w B q v u l es last)(je:l.length<=200)(hm:∀x∈l,x.s.size<=135/\x.h.size+x.d.size<=256) :
 Calls prog 18 #[.pointer (some ⟨q,0,none⟩)] w λe w'=>e=.returned (.agg #[.int .i64 (l.length:Int),.int .i64 (bI l:Int),.int .i64 (dU l),.int .i64 last])/\Below w.heap.size w w':=by
 obtain⟨a,cap,rfl,c1,c2,hsl⟩:=h.msgs.shape;have vw:=h.lt;have S0:=aj (SB.new w 0 0 0 0 60);have B0:=aj ((ajb w.heap.size w).alloc (Xc _) (.cells #[.int .i64 0,.int .i64 0,.int .i64 0,.int .i64 0] 60));have HC:=aj (And.intro h.c0 h.c2);have d0:(w.alloc (.cells #[.int .i64 0,.int .i64 0,.int .i64 0,.int .i64 0] 60)).cell? ⟨q,0,none⟩=some (.slice a l.length cap):=by rw[(ah B0).cell (p:=⟨q,0,none⟩) vw];exact h.c0
 have d1:(w.alloc (.cells #[.int .i64 0,.int .i64 0,.int .i64 0,.int .i64 0] 60)).cell? ⟨q,2,none⟩=some (.int .i64 last):=by rw[(ah B0).cell (p:=⟨q,2,none⟩) vw];exact h.c2
 have Bf:=aj hsl;have HM:=aj hm;clear h hsl hm;go_enter func18,ntmps18;go_wp2_with fail;go_region
 have L0:Hid (SB ((w.alloc (.cells #[.int .i64 0,.int .i64 0,.int .i64 0,.int .i64 0] 60)).alloc (.cells #[.int .i64 (l.length:Int),.int .i64 0,.int .i64 0,.int .i64 last] 60)).drew w.heap.size 0 0 0 0/\SB ((w.alloc (.cells #[.int .i64 0,.int .i64 0,.int .i64 0,.int .i64 0] 60)).alloc (.cells #[.int .i64 (l.length:Int),.int .i64 0,.int .i64 0,.int .i64 last] 60)).drew (w.heap.size+1) (l.length:Int) 0 0 last/\Below w.heap.size w ((w.alloc (.cells #[.int .i64 0,.int .i64 0,.int .i64 0,.int .i64 0] 60)).alloc (.cells #[.int .i64 (l.length:Int),.int .i64 0,.int .i64 0,.int .i64 last] 60)).drew):=aj (by
  have x1:=SB.new (w.alloc (.cells #[.int .i64 0,.int .i64 0,.int .i64 0,.int .i64 0] 60)) (l.length:Int) 0 0 last 60;rw[akS] at x1;exact⟨((ah S0).alloc _).next (ajb _ _).drew,x1.next (ajb _ _).drew,(ak (ah B0) ((ajb _ _).alloc (Xc _) _)).drew⟩)
 have e0:((w.alloc (.cells #[.int .i64 0,.int .i64 0,.int .i64 0,.int .i64 0] 60)).alloc (.cells #[.int .i64 (l.length:Int),.int .i64 0,.int .i64 0,.int .i64 last] 60)).drew.cell? ⟨q,0,none⟩=some (.slice a l.length cap):=by rw[(ah L0).2.2.cell (p:=⟨q,0,none⟩) vw];exact(ah HC).1
 clear S0 B0 d0 d1;generalize ((w.alloc (.cells #[.int .i64 0,.int .i64 0,.int .i64 0,.int .i64 0] 60)).alloc (.cells #[.int .i64 (l.length:Int),.int .i64 0,.int .i64 0,.int .i64 last] 60)).drew=W0 at *;have hby:bI l<=78200:=by
  have:=RI (λr hr=>ah HM r hr);omega
 go_wp2_with fail;go_loopw [21] (λkv wr=>∃(k:Nat),kv=.int .i64 k/\k<=l.length/\Hid (SB wr w.heap.size 0 0 0 0/\SB wr (w.heap.size+1) (l.length:Int) (bI (l.take k):Int) 0 last/\Below w.heap.size w wr)) (λkv _=>l.length-(intOf kv).toNat)
 case atStart=>exact⟨0,rfl,ajm _,L0⟩
 case round =>
  clear L0 e0;obtain⟨k,rfl,hk,HP⟩:=hrel;have hob:=(ah HP).2.1.lt;by_cases hlt:k<l.length
  ·obtain⟨b,o,rfl,s6⟩:=ah Bf k hlt;have s7:=s6.below (ah HP).2.2 s6.lt;have hb1:=WU hlt;have hb2:=Ud l (k+1);generalize rc l k=y at *;obtain⟨_,x0,x1,x2,x3,x4,x5⟩:=s7;obtain⟨nb,hnb⟩:∃nb,nb=bI (l.take k):=⟨_,rfl⟩;obtain⟨q0,q1,q2,q3,qf⟩:=And.intro (ah HP).2.1.c0 (And.intro (ah HP).2.1.c1 (And.intro (ah HP).2.1.c2 (And.intro (ah HP).2.1.c3 ((ah HP).2.1.fr 1))));rw[<-hnb] at hb1 q1;have hne:¬w.heap.size+1=wr.heap.size:=by omega
   have hw1:IntKind.i64.wrap ((y.s.size:Int)+(y.h.size:Int))=(y.s.size:Int)+(y.h.size:Int):=by rw[ajq];omega
   have hw2:IntKind.i64.wrap ((y.s.size:Int)+(y.h.size:Int)+(y.d.size:Int))=(y.s.size:Int)+(y.h.size:Int)+(y.d.size:Int):=by rw[ajq];omega
   have hw3:IntKind.i64.wrap ((nb:Int)+((y.s.size:Int)+(y.h.size:Int)+(y.d.size:Int)))=(nb:Int)+((y.s.size:Int)+(y.h.size:Int)+(y.d.size:Int)):=by rw[ajq];omega
   have HY:Hid (SB ((wr.setCell ⟨w.heap.size+1,1,none⟩ (.int .i64 ((nb:Int)+((y.s.size:Int)+(y.h.size:Int)+(y.d.size:Int))))).alloc (.cells #[.int .i64 y.k,.int .i64 y.q,.int .i64 y.t,.string y.s,.string y.h,.string y.d] 73)) w.heap.size 0 0 0 0/\SB ((wr.setCell ⟨w.heap.size+1,1,none⟩ (.int .i64 ((nb:Int)+((y.s.size:Int)+(y.h.size:Int)+(y.d.size:Int))))).alloc (.cells #[.int .i64 y.k,.int .i64 y.q,.int .i64 y.t,.string y.s,.string y.h,.string y.d] 73)) (w.heap.size+1) (l.length:Int) (bI (l.take (k+1)):Int) 0 last/\Below w.heap.size w ((wr.setCell ⟨w.heap.size+1,1,none⟩ (.int .i64 ((nb:Int)+((y.s.size:Int)+(y.h.size:Int)+(y.d.size:Int))))).alloc (.cells #[.int .i64 y.k,.int .i64 y.q,.int .i64 y.t,.string y.s,.string y.h,.string y.d] 73))):=aj (by
    have hbs:=(ah HP).2.2.setCell (p:=⟨w.heap.size+1,1,none⟩) (alV _) (.int .i64 ((nb:Int)+((y.s.size:Int)+(y.h.size:Int)+(y.d.size:Int))));refine⟨((ah HP).1.other (by omega)).alloc _,?_,hbs.alloc hbs.size _⟩;have:=((ah HP).2.1.uU ((nb:Int)+((y.s.size:Int)+(y.h.size:Int)+(y.d.size:Int)))).alloc (.cells #[.int .i64 y.k,.int .i64 y.q,.int .i64 y.t,.string y.s,.string y.h,.string y.d] 73);rw[hb1,show((nb+(y.s.size+y.h.size+y.d.size):Nat):Int)=(nb:Int)+((y.s.size:Int)+(y.h.size:Int)+(y.d.size:Int)) by omega];exact this)
   clear hb1 hb2 hnb s6 q0 q2 q3;go_wp2_with fail;refine⟨⟨k+1,by go_num,by omega,HY⟩,?_⟩;simp[intOf];omega
  ·obtain rfl:k=l.length:=by omega
   rw[ajN] at HP;have d0:=((ah HP).2.2.cell (p:=⟨q,0,none⟩) vw).trans (ah HC).1;obtain⟨_,q0,q1,q2,q3,qf⟩:=(ah HP).2.1;obtain⟨_,x0,x1,x2,x3,fz⟩:=(ah HP).1;have f0:=fz 0;have f1:=fz 1;have f2:=fz 2;have f3:=fz 3;clear fz hlt hk;obtain⟨N,hN⟩:∃N,N=l.length:=⟨_,rfl⟩;by_cases h0:0<l.length
   ·obtain⟨b,o,rfl,s6⟩:=ah Bf 0 h0;have s7:=s6.below (ah HP).2.2 s6.lt;have z1:wr.cell? ⟨b,o+1,none⟩=some (.int .i64 (dU l)):=by rw[aax h0];simpa using s7.c1
    have g2:=qf 2;clear qf s6 s7;go_wp2_with fail;refine ajJ (vV rfl rfl ((((((ah HP).1.other (c:=w.heap.size+1) (i:=2) (v:=.int .i64 (dU l)) (by omega)).Oa _).uU _).vT _).vU _)) rfl ?_;exact⟨rfl,(((((ah HP).2.2.setCell (p:=⟨w.heap.size+1,2,none⟩) (alV _) _).setCell (p:=⟨w.heap.size,0,none⟩) (Xc _) _).setCell (p:=⟨w.heap.size,1,none⟩) (Xc _) _).setCell (p:=⟨w.heap.size,2,none⟩) (Xc _) _).setCell (p:=⟨w.heap.size,3,none⟩) (Xc _) _⟩
   ·have e0:l=[]:=ajK.1 (by omega);subst e0;clear qf;go_wp2_with fail;refine ajJ (vV rfl rfl (((((ah HP).1.Oa _).uU _).vT _).vU _)) rfl ?_;exact⟨rfl,((((ah HP).2.2.setCell (p:=⟨w.heap.size,0,none⟩) (Xc _) _).setCell (p:=⟨w.heap.size,1,none⟩) (Xc _) _).setCell (p:=⟨w.heap.size,2,none⟩) (Xc _) _).setCell (p:=⟨w.heap.size,3,none⟩) (Xc _) _⟩
theorem afW {w:World}{B B':Nat}{v:Value}{l:List aW}(h:Go.Proofs.YtidekgipblnpkaaGreatDoor.aS w B v l)(hB:B'<=B):Go.Proofs.YtidekgipblnpkaaGreatDoor.aS w B' v l:=by
 refine⟨h.1,?_⟩;rcases h.2 with q|⟨g,cap,cur,h1,h2,r⟩
 ·exact .inl q
 ·exact .inr ⟨g,cap,cur,h1,aje hB h2,r⟩
theorem wJ.low {w:World}{B B' q:Nat}{F:Nat->Prop}{s:aJ}(h:wJ w B q F s)(hB:B'<=B):wJ w B' q F s:=by
 obtain⟨v,u,es,h1,h2,h3⟩:=h;exact⟨v,u,es,⟨h1.c0,h1.c1,h1.c2,h1.free,aje hB h1.base,h1.lt,h1.msgs.low hB,afW h1.TJ hB,h1.av,h1.au,h1.apart⟩,h2,h3⟩
theorem ahk:dY wJ where
 own:=λh=>h.own
 bZ:=λh hc hn=>h.bZ hc hn
 low:=λh hB=>h.low hB
 new:=λw=>(Ub w).mono (by
  rintro e w' ⟨rfl,h,hb⟩;exact⟨_,_,rfl,⟨_,_,[],h,nP.nil,rfl⟩,hb⟩)
 tries:=λr hm h hk hB=>by
  obtain⟨v,u,es,h1,h2,rfl⟩:=h;exact JX r hm h1 h2 hk
 apply:=λr hm h hk hB=>by
  obtain⟨v,u,es,h1,h2,rfl⟩:=h;refine(JY r hm h1 h2 hk hB).mono ?_;rintro e w' ⟨he,es',m,c⟩;exact⟨he,wJ.did m c⟩
 lU:={
  all:=λh hk hB=>by
   obtain⟨v,u,es,h1,h2,rfl⟩:=h;exact Uc h1 hk.iW (λx hx=>Small.of (hk.msg x hx).2)
  BX:=λh hk hB=>by
   obtain⟨v,u,es,h1,h2,rfl⟩:=h;exact Ue h1 hk.iW (λx hx=>hk.small hx)}
theorem adN {w:World}{B q:Nat}{v u:Value}{l:List Rc}{es:List aW}{last:Int}(f:ByteArray)(hf:f.size<=140737488355328)(h:qh w B q v u l es last)(hg:Go.Proofs.YtidekgipblnpkaaGreatDoor.gI es) :
 Calls prog 20 #[.pointer (some ⟨q,0,none⟩),.string f] w λe w'=>∃v',e=.returned (.tuple #[v',.int .i64 (aG true f)])/\aS w' w.heap.size v' (uf es f)/\Below w.heap.size w w':=by
 go_enter func20,ntmps20;go_wp2_with fail;refine(adg B q u es f _ h.keeps hg hf).mono ?_;rintro e w1 ⟨v',rfl,a1,b1⟩;go_wp2_with fail;go_ret2;exact⟨v',rfl,a1,b1⟩
theorem adO {w:World}{B q:Nat}{v u:Value}{l:List Rc}{es:List aW}{last:Int}(n:Int)(h:qh w B q v u l es last)(hr:kD l)(je:l.length<=200)(hm:∀x∈l,Small x) :
 Calls prog 42 #[.pointer (some ⟨q,0,none⟩),.int .i64 n] w λe w'=>e=.returned (ZI (Ah l n))/\Below w.heap.size w w':=by
 have hb0:Below w.heap.size w (w.alloc (.cells #[.int .i64 0,.int .i64 0,.int .i64 0,.string ⟨#[]⟩,.string ⟨#[]⟩,.string ⟨#[]⟩] 73)):=(ajb _ _).alloc (Xc _) _;have h0:=h.below hb0;have PP:=aj (pW n h0 hr je);have Z0:=aj (RF.new w iF);have Hb0:=aj hb0
 cases hs:seqB l n with
 | false =>
  have R:=aj (get_none hs);rw[hs] at PP;clear hs h h0 hb0;go_enter func42,ntmps42;go_wp2_with fail;refine(ah PP).mono ?_;rintro e w1 ⟨rfl,b1⟩;have Z1:=aj ((ah Z0).next b1);obtain⟨_,y0,y1,y2,y3,y4,y5,g⟩:=(ah Z1).rb;have g0:=g 0;have g1:=g 1;have g2:=g 2;have g3:=g 3;have g4:=g 4;have g5:=g 5;have B1:=aj (ak (ah Hb0) b1);clear g b1 PP Z0 Hb0;go_wp2_with fail;refine ajJ (dA rfl rfl ((ah Z1).rb.eH 0 0 0 ⟨#[]⟩ ⟨#[]⟩ ⟨#[]⟩)) rfl ?_;exact⟨by rw[ah R];rfl,aQ (ah B1) (Xc _)⟩
 | true =>
  have R:=aj (afo hr hs);obtain⟨p1,p2⟩:=Ap hr hs;rw[hs] at PP;obtain⟨p,hp⟩:∃p,p=pq l n:=⟨_,rfl⟩;rw[<-hp] at p1 PP R;have T:=aj (λX=>xR (rc l p) (hm _ (wB p1)) X);obtain⟨g,cap,rfl,c1,c2,c3,c4⟩:=h.msgs.there (by omega);unfold maxLen at c2;have H0:=aj h0;clear hs h h0 hb0 hp p2 hm hr;go_enter func42,ntmps42;go_wp2_with fail;refine(ah PP).mono ?_;rintro e w1 ⟨rfl,b1⟩;have h1:=(ah H0).below b1;have d0:=h1.c0;have hq1:=h1.lt;obtain⟨hg1,x0,x1,x2,x3,x4,x5⟩:=h1.msgs.six p1;have Z1:=aj ((ah Z0).next b1);have B1:=aj (ak (ah Hb0) b1);clear b1 PP Z0 Hb0 h1 H0
  generalize rc l p=y at *;go_wp2_with fail;refine(ah T _).mono ?_;rintro e w2 ⟨rfl,b2⟩;have Z2:=aj ((ah Z1).next b2);obtain⟨_,y0,y1,y2,y3,y4,y5,gz⟩:=(ah Z2).rb;have g0:=gz 0;have g1:=gz 1;have g2:=gz 2;have g3:=gz 3;have g4:=gz 4;have g5:=gz 5;have B2:=aj (ak (ah B1) b2);clear gz b2 T Z1 B1 x0 x1 x2 x3 x4 x5 d0;go_wp2_with fail;refine ajJ (dA rfl rfl ((ah Z2).rb.eH y.k y.q y.t y.s y.h y.d)) rfl ?_;exact⟨by rw[ah R];rfl,aQ (ah B2) (Xc _)⟩
end Dk
theorem aay {l:List Dk.Rc}{k:Nat}{s:ByteArray}(h:Dk.fJ (l.take k) s=true):Dk.fJ l s=true:=by
 unfold Dk.fJ at h ⊢;rw[amb] at h ⊢;obtain⟨x,hx,hs⟩:=h;exact⟨x,aly hx,hs⟩
theorem WV (l:List Dk.Rc)(k:Nat):Dk.dP (l.take k)<=Dk.dP l:=by
 rw[Dk.kU,Dk.kU];exact Dk.rV _ _ (Dk.kV _) (λs hs=>(Dk.jh l s).2 (aay ((Dk.jh _ s).1 hs)))
theorem adP {l:List Dk.Rc}{es:List aW}{k:Nat}(hk:k<l.length)(hn:Dk.dP l<=100)(h:nP (l.take k) es):0<dQ (l.take k) (Dk.rc l k).s\/es.length<100:=by
 by_cases z:0<dQ (l.take k) (Dk.rc l k).s
 ·exact .inl z
 ·right;have h1:=WV l (k+1);rw[ajo hk,<-Dk.bP hk,Dk.mY,nO,ajd z] at h1;simp at h1;rw[h.len];omega
theorem aaz {w:World}{B B':Nat}{v:Value}{es:List aW}(h:aS w B v es)(hB:B'<=B):aS w B' v es:=by
 refine⟨h.1,?_⟩;rcases h.2 with q|⟨g,cap,cur,x1,x2,x3⟩
 ·exact .inl q
 ·exact .inr ⟨g,cap,cur,x1,aje hB x2,x3⟩
theorem aaA (w:World)(T:TypeId):jy (w.alloc (.cells #[.slice none 0 0] T)) w.heap.size w.heap.size (.slice none 0 0) []:=by
 refine⟨?_,?_,Xc _,by simp,akW _ _ _ _,λz=>by cases z⟩
 ·rw[ajY _ w.heap.size 0 _ _ _ (ajF w _)];rfl
 ·exact akR _ w.heap.size 0 _ _ (ajF w _)
theorem KR {w:World}{B c:Nat}{F:Nat->Prop}{s:Dk.aJ}(f:ByteArray)(hf:f.size<=140737488355328)(h:Dk.qg w B c F s)(hk:s.Ok){es0:List aW}(h0:nP s.l es0) :
 Calls prog 47 #[.pointer (some ⟨c,0,none⟩),.string f] w λe w'=>∃v',e=.returned (.tuple #[v',.int .i64 (aG true f)])/\aS w' w.heap.size v' (uf es0 f)/\Below w.heap.size w w':=by
 have hfew:=hk.iW;obtain⟨a,cap,c0,_,hcap,hcm,hsl,hcl⟩:=h.read;unfold maxLen at hcm;have Bf:=aj hsl;have HC:=aj c0;have HM:Hid (∀x∈s.l,aG false x.s=0/\x.s.size<=140737488355328):=aj (λx hx=>⟨Dk.O1 (hk.msg x hx).2 (hk.msg x hx).1,by have:=(hk.small hx).1;omega⟩);have HN:=aj hk.names;have H0:=aj h0;have K0:Hid (jy (w.alloc (.cells #[.slice none 0 0] 153)) w.heap.size w.heap.size (.slice none 0 0) []/\Below w.heap.size w (w.alloc (.cells #[.slice none 0 0] 153))):=aj ⟨aaA w _,(ajb _ w).alloc (Xc _) _⟩;clear h hk hsl c0 h0;go_enter func47,ntmps47
 go_wp2_with fail;go_loopw [7] (λiv wr=>∃(k:Nat) (v:Value) (es:List aW),iv=.int .i64 k/\k<=s.l.length/\Hid (nP (s.l.take k) es)/\Hid (jy wr w.heap.size w.heap.size v es/\Below w.heap.size w wr)) (λiv _=>s.l.length-(intOf iv).toNat)
 case atStart=>exact⟨0,_,[],rfl,ajm _,aj nP.nil,K0⟩
 case round =>
  clear K0;obtain⟨k,v,es,rfl,hk,HCn,HT⟩:=hrel;have c0:=((ah HT).2.cell (p:=⟨c,0,none⟩) hcl).trans (ah HC);by_cases hlt:k<s.l.length
  ·obtain⟨ga,o,rfl,s6⟩:=ah Bf k hlt;have hroom:=adP hlt (ah HN) (ah HCn);obtain⟨y,hy⟩:∃y,y=Dk.rc s.l k:=⟨_,rfl⟩;have htk:s.l.take (k+1)=s.l.take k++[y]:=by rw[hy,Dk.bP hlt];exact ajo hlt
   have s7:=s6.below (ah HT).2 s6.lt;have hm:=ah HM (Dk.rc s.l k) (by rw[Dk.bP hlt];exact akk hlt);rw[<-hy] at s7 hm hroom;have y3:=s7.c3;have hgl:=s6.lt;have hcnt:dQ (s.l.take k) y.s<=k:=by
    unfold dQ;refine aje (akB _ _) ?_;rw[ajn];omega
   have PG:=aj (adi _ _ _ _ y.s wr (ah HT).1 (ah HCn).jY hm.2);rw[(ah HCn).get hm.1] at PG;obtain⟨n,hn⟩:∃n:Int,n=(dQ (s.l.take k) y.s:Int):=⟨_,rfl⟩;rw[<-hn] at PG;have hw:IntKind.i64.wrap (n+1)=n+1:=by rw[ajq];omega
   have HC2:Hid (nP (s.l.take (k+1)) (pz es y.s (n+1))):=aj (by rw[htk,hn];exact(ah HCn).put y hm.1 hm.2 hroom);have HP:Hid (∀w3,jy w3 w.heap.size w.heap.size v es->w.heap.size<=w3.heap.size->Calls prog 92 #[.pointer (some ⟨w.heap.size,0,none⟩),.string y.s,.int .i64 (n+1)] w3 λe w'=>e=.returned (.int .i64 (I7 es y.s))/\oq w3 w' w.heap.size w.heap.size v (pz es y.s (n+1))):=aj (λw3 h3 hs3=>adk _ _ _ _ y.s (n+1) w3 h3 (ah HCn).jY hm.2 hs3);have hsz:=(ah HT).2.size;have ahc:ga<wr.heap.size:=by omega
   clear hy htk s6 s7 hroom hcnt hn HCn;go_wp2_with fail;refine(ah PG).mono ?_;rintro e w3 ⟨rfl,b3⟩;have d0:=(b3.cell (p:=⟨c,0,none⟩) (show c<wr.heap.size by omega)).trans c0;have d3:=(b3.cell (p:=⟨ga,o+k*6+3,none⟩) ahc).trans y3;have K3:=aj ((ah HT).1.below b3);have B3:=aj (ak (ah HT).2 b3);have PP:=aj (ah HP w3 (ah K3) (ah B3).size);clear b3 PG HP c0 y3 HT;go_wp2_with fail;refine(ah PP).mono ?_;rintro e w4 ⟨rfl,v',k4,ch4,_⟩;have T4:Hid (jy w4 w.heap.size w.heap.size v' (pz es y.s (n+1))/\Below w.heap.size w w4):=aj ⟨k4,(ah B3).trans (ch4.below (ah B3).size (λj hj z=>by
    rcases z with z|z
    ·omega
    ·have:=(ajz (ah K3).arr j z).1;omega))⟩
   clear k4 ch4 PP B3 K3 d0 d3;go_wp2_with fail;refine⟨⟨k+1,v',_,by go_num,by omega,HC2,T4⟩,?_⟩;simp[intOf];omega
  ·obtain rfl:k=s.l.length:=by omega
   obtain rfl:es=es0:=by
    have h1:=ah HCn;rw[ajN] at h1;exact h1.same (ah H0)
   have PF:=aj (aan _ _ _ _ f wr (ah HT).1 (ah HCn).jY hf);clear HCn;go_wp2_with fail;refine(ah PF).mono ?_;rintro e w3 ⟨v',rfl,a3,b3⟩;have A3:Hid (aS w3 w.heap.size v' (uf es f)):=aj (aaz a3 (ah HT).2.size);have B3:=aj (ak (ah HT).2 b3);clear a3 b3 PF HT;go_wp2_with fail;go_ret2;exact⟨_,rfl,ah A3,ah B3⟩
theorem aiK (x:aW)(w:World):(binOp .neq 68 (.agg #[.string x.1,.int .i64 x.2]) (.agg #[.string x.1,.int .i64 x.2])).run prog w=.ok (.bool false) w:=by
 have u3:=underlying3;have u9:=underlying9;have hS:prog.underlying 68=some (.struct (prog.fieldsOf 68)):=by kernel_rfl
 have hp:prog.stoodInHeld 68=false:=by kernel_rfl
 rw[run_neq_struct,show(10000:Nat)=9999+1 from rfl,anc w 9999 68 _ _ hS hp];simp only[Program.fieldsOf,underlying68];go_simp
theorem Pz (a b:Option Addr)(ca cb:Nat)(es:List aW)(w:World)(ha:KF w a es)(hb:KF w b es)(dK:es.length<=100) :
 Calls prog 48 #[.slice a es.length ca,.slice b es.length cb] w λe w'=>e=.returned (.bool true)/\∃q,w'=w.drewN q:=by
 have Ha:=aj ha;have Hb:=aj hb;clear ha hb;have hm:prog.eqGuardType prog.depth 68=false:=by kernel_rfl
 go_enter func48,ntmps48;go_wp2;go_loopw [13] (λkv wr=>∃(k:Nat),kv=.int .i64 k/\k<=es.length/\∃n,wr=w.drewN n) (λkv _=>es.length-(intOf kv).toNat)
 case atStart=>exact⟨0,rfl,ajm _,0,rfl⟩
 case round =>
  obtain⟨k,rfl,hk,n,rfl⟩:=hrel;by_cases hlt:k<es.length
  ·obtain⟨g,rfl,_,c1,c2⟩:=ah Ha k hlt;obtain⟨h,rfl,_,c3,c4⟩:=ah Hb k hlt;have hne:=aiK (en es k);go_wp2;go_quiet (fail)
   go_wp2;exact⟨⟨k+1,by go_num,by omega,_,rfl⟩,by simp[intOf];omega⟩
  ·go_wp2;go_ret;exact⟨rfl,n,rfl⟩
