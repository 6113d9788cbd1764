/- A part. -/
import Derived.Test.YtebofkkfbkodiaaGreatDoorQ28
import Derived.Test.YtebofkkfbkodiaaGreatDoorQ34
set_option maxRecDepth 100000
set_option maxHeartbeats 8000000
namespace Go.Proofs.YtebofkkfbkodiaaGreatDoor
open Go.RowKit Go.Proofs.Tryz
namespace Dk
variable {b c cap n:Nat}{r:Rc}{t:Int}{s:aH}{d h:ad}{es:List aS}{a:Option Addr}
structure RF (w:I)(b:Nat)(r:Rc):Prop where
 rb:RB w b r.k r.q r.t r.s r.h r.d
 fz:∀j,w.frozen? (aq b j)=false
theorem RF.next {w w':I}{b:Nat}{r:Rc}(h:RF w b r)(hb:ai w w'):RF w' b r:=⟨h.rb.next hb,λj=>(hb.frozen (p:=aq b j) h.rb.lt).trans (h.fz j)⟩
theorem RF.new (w:I)(r:Rc):RF (w.alloc (.cells #[aa r.k,aa r.q,aa r.t,.string r.s,.string r.h,.string r.d] 46)) w.heap.size r:=⟨RB.new w _ _ _ _ _ _ _,λj=>by simp⟩
theorem RF.set {w:I}{r':Rc}(h:RF w b r)(p:Addr)(v:Value)(e:RB (w.setCell p v) b r'.k r'.q r'.t r'.s r'.h r'.d):RF (w.setCell p v) b r':=⟨e,λj=>by rw[ajV];exact h.fz j⟩
theorem RF.other {w:I}{b c i:Nat}{r:Rc}{v:Value}(h:RF w b r)(hc:c≠b):RF (w.setCell (aq c i) v) b r:=⟨h.rb.other hc,λj=>by rw[ajV];exact h.fz j⟩
theorem MK {fn:Func}{a:Tmp}{tmps:Array Value}{w:I}{k q:Int}{s:ad}(hf:fn.results=#[.cell a 46])(ha:tmps.getD a undef=ae b)(r:RB w b k q t s h d) :
 (results fn tmps).run prog w=.ok (.agg #[aa k,aa q,aa t,.string s,.string h,.string d]) w:=by
 have ha':tmps[a]?.getD undef=ae b:=by simpa using ha
 simp[results,hf,ha',asAddr,yK r]
theorem vX (r:Rc)(hr:Small r)(w:I) :
 Calls prog 74 #[.agg #[aa r.k,aa r.q,aa r.t,.string r.s,.string r.h,.string r.d]] w λe w'=>e=.returned (.agg #[aa r.k,aa r.q,aa r.t,.string r.s,.string r.h,.string r.d])/\ai w w':=by
 obtain⟨W,hW⟩:∃W,W=(w.alloc (.cells #[aa r.k,aa r.q,aa r.t,.string r.s,.string r.h,.string r.d] 46)).alloc (.cells #[aa 0,aa 0,aa 0,.string ⟨#[]⟩,.string ⟨#[]⟩,.string ⟨#[]⟩] 46):=⟨_,rfl⟩;have hb:ai w W:=by rw[hW];exact(ax _ _).alloc (by simp) _
 have P0:RF W w.heap.size r:=by rw[hW];exact(RF.new w r).next (ax _ _)
 have Z0:RF W (w.heap.size+1) eU:=by
  have:=RF.new (w.alloc (.cells #[aa r.k,aa r.q,aa r.t,.string r.s,.string r.h,.string r.d] 46)) eU;rw[alH] at this;rw[hW];exact this
 have C1:=aj (clone_any r.s W (by have:=hr.s;omega));have C2:Hid (∀X,Calls prog 108 #[.string r.h] X λe w'=>e=.returned (.string r.h)/\ai X w'):=aj (λX=>clone_any r.h X (by have:=hr.h;omega));have C3:Hid (∀X,Calls prog 108 #[.string r.d] X λe w'=>e=.returned (.string r.d)/\ai X w'):=aj (λX=>clone_any r.d X (by have:=hr.d;omega));go_enter func74,ntmps74;go_wp2_with fail;rw[<-hW];have HB0:=aj hb;have HZ0:=aj Z0;have HP0:=aj P0;clear hW hb Z0 P0;refine(ah C1).mono ?_;rintro e w1 ⟨rfl,b1⟩;have HB1:=aj (ak (ah HB0) b1)
 have P1:=(ah HP0).next b1;have Z1:=aj ((ah HZ0).next b1);have x3:=P1.rb.c3;have x4:=P1.rb.c4;have f3:=P1.fz 3;have HP1:=aj P1;clear b1 P1 HP0 HZ0 HB0 C1;go_wp2_with fail;have HB2:=aj ((ah HB1).setCell (p:=aq w.heap.size 3) (agH _) (.string r.s));have HP2:=aj ((ah HP1).set ⟨w.heap.size,3,none⟩ (.string r.s) (r':=r) ((ah HP1).rb.xq r.s));have Z2:=aj ((ah Z1).other (c:=w.heap.size) (i:=3) (v:=.string r.s) (by omega));clear HP1 HB1 Z1 x3 x4 f3;generalize w1.setCell (aq w.heap.size 3) (.string r.s)=w2 at *;refine(ah C2 _).mono ?_;rintro e w3 ⟨rfl,b3⟩
 have HB3:=aj (ak (ah HB2) b3);have P3:=(ah HP2).next b3;have Z3:=aj ((ah Z2).next b3);have x4:=P3.rb.c4;have x5:=P3.rb.c5;have f4:=P3.fz 4;have HP3:=aj P3;clear b3 P3 HP2 Z2 HB2 C2;go_wp2_with fail;have HB4:=aj ((ah HB3).setCell (p:=aq w.heap.size 4) (agH _) (.string r.h));have HP4:=aj ((ah HP3).set ⟨w.heap.size,4,none⟩ (.string r.h) (r':=r) ((ah HP3).rb.KP r.h));have Z4:=aj ((ah Z3).other (c:=w.heap.size) (i:=4) (v:=.string r.h) (by omega));clear HP3 HB3 Z3 x4 x5 f4;generalize w3.setCell (aq w.heap.size 4) (.string r.h)=w4 at *;refine(ah C3 _).mono ?_
 rintro e w5 ⟨rfl,b5⟩;have HB5:=aj (ak (ah HB4) b5);have P5:=(ah HP4).next b5;have Z5:=(ah Z4).next b5;obtain⟨_,x0,x1,x2,x3,x4,x5⟩:=P5.rb;obtain⟨_,y0,y1,y2,y3,y4,y5⟩:=Z5.rb;have f5:=P5.fz 5;have g0:=Z5.fz 0;have g1:=Z5.fz 1;have g2:=Z5.fz 2;have g3:=Z5.fz 3;have g4:=Z5.fz 4;have g5:=Z5.fz 5;have HZ5:=aj Z5;clear b5 P5 Z5 HP4 Z4 HB4 C3;go_wp2_with fail;refine ajY (MK (b:=w.heap.size+1) rfl rfl (((((((((ah HZ5).other (c:=w.heap.size) (i:=5) (by omega)).rb.set0 r.k).set1 r.q).set2 r.t).xq r.s).KP r.h).NJ r.d))) rfl ?_;exact⟨rfl,(((((((ah HB5).setCell (p:=aq w.heap.size 5) (agH _) _).setCell (p:=aq (w.heap.size+1) 0) (alE _) _).setCell (p:=aq (w.heap.size+1) 1) (alE _) _).setCell (p:=aq (w.heap.size+1) 2) (alE _) _).setCell (p:=aq (w.heap.size+1) 3) (alE _) _).setCell (p:=aq (w.heap.size+1) 4) (alE _) _).setCell (p:=aq (w.heap.size+1) 5) (alE _) _⟩
theorem rP {w:I}{B q:Nat}{v u:Value}{l:List Rc}{last:Int}(s:ad)(h:oU w B q v u l es last)(hg:Go.Proofs.YtebofkkfbkodiaaGreatDoor.iC es)(hs:s.size<=140737488355328) :
 Calls prog 227 #[ae q,.string s] w λe w'=>e=.returned (aa (kT es s))/\ai w w':=by
 go_enter func227,ntmps227;go_wp2_with fail;refine(get_any B q u es s _ h.keeps hg hs).mono ?_;rintro e w1 ⟨rfl,hb⟩;go_wp2_with fail;go_ret;exact⟨rfl,hb⟩
theorem WW {w:I}{B q:Nat}{v u:Value}{l:List Rc}{last:Int}(s:ad)(h:oU w B q v u l es last)(hg:Go.Proofs.YtebofkkfbkodiaaGreatDoor.iC es)(hs:s.size<=140737488355328)(hB:B<=w.heap.size)(hn:kT es s<=200) :
 Calls prog 237 #[ae q,.string s] w λe w'=>e=.returned (.tuple #[])/\Counts w w' B q v u l (TM es (kT es s) s) last:=by
 have HH:=aj h;have HG:=aj hg;clear h hg;obtain⟨n,en⟩:∃n,n=kT es s:=⟨_,rfl⟩;rw[<-en] at hn ⊢;have EN:=aj en;clear en;by_cases h1:1<n
 ·have hw:IntKind.i64.wrap (n-1)=n-1:=by rw[akl];omega
  have HO:=aj (show TM es n s=rC es s (n-1) from if_pos h1);go_enter func237,ntmps237;go_wp2_with fail;refine(rP s (ah HH) (ah HG) hs).mono ?_;rintro e w1 ⟨rfl,hb⟩;rw[<-ah EN];have H1:=aj ((ah HH).below hb);have Hb:=aj hb;have P:=aj (QF B q u es s (n-1) w1 (ah H1).keeps (ah HG) hs (by have:=hb.size;omega));clear hb;go_wp2_with fail;refine(ah P).mono ?_;rintro e w2 ⟨rfl,h2⟩;have H2:=aj h2;clear h2;go_wp2_with fail;go_end0
  refine⟨rfl,?_⟩;rw[ah HO];exact Counts.behind (ah Hb) ((ah H1).upd (ah H2))
 ·have HO:=aj (show TM es n s=pF es s from if_neg h1);go_enter func237,ntmps237;go_wp2_with fail;refine(rP s (ah HH) (ah HG) hs).mono ?_;rintro e w1 ⟨rfl,hb⟩;rw[<-ah EN];have H1:=aj ((ah HH).below hb);have Hb:=aj hb;have P:=aj (YX B q u es s w1 (ah H1).keeps (ah HG) hs);clear hb;go_wp2_with fail;refine(ah P).mono ?_;rintro e w2 ⟨rfl,h2⟩;have H2:=aj h2;clear h2;go_wp2_with fail;go_end0
  refine⟨rfl,?_⟩;rw[ah HO];exact Counts.behind (ah Hb) ((ah H1).upd (ah H2))
theorem JR (f:ad)(r:Rc)(hf:f.size<=140737488355328)(hr:r.s.size<=140737488355328)(w:I) :
 Calls prog 200 #[.string f,.agg #[aa r.k,aa r.q,aa r.t,.string r.s,.string r.h,.string r.d]] w λe w'=>e=.returned (.bool (aN f r.s))/\ai w w':=by
 have hb0:ai w (w.alloc (.cells #[aa r.k,aa r.q,aa r.t,.string r.s,.string r.h,.string r.d] 46)):=ax _ _;have Hb0:=aj hb0;clear hb0;go_enter func200,ntmps200;go_wp2_with fail;refine(AQ f r.s _ hf hr).mono ?_;rintro e w1 ⟨rfl,hb⟩;go_wp2_with fail;go_ret;exact⟨rfl,ak (ah Hb0) hb⟩
theorem Ze (h:iw r=0)(h1:r.k=3):aC true r.s=0:=by
 have e:=DT r.k r.q r.t r.s r.h r.d;have e2:mX r.k r.q r.t r.s r.h r.d=0:=h;rw[e2] at e;by_cases hb:Pk.inB r.k r.q r.t=false
 ·rw[if_pos hb] at e;cases e
 ·rw[if_neg hb,if_neg (by omega),if_pos h1] at e;unfold Qb at e;by_cases z:aC true r.s≠0
  ·rw[if_pos z] at e;exact e.symm
  ·exact akn z
def Zf (l:List Rc)(last:Int)(r:Rc):Int:=if r.q<=last then 9 else if 200<=l.length\/(gV l r.s=false/\100<=iY l) then 8 else 0
theorem agz {l:List Rc}{last:Int}(h:r.q<=last):Zf l last r=9:=if_pos h
theorem afh {l:List Rc}{last:Int}(h:¬r.q<=last)(h2:200<=l.length):Zf l last r=8:=by unfold Zf;rw[if_neg h,if_pos (.inl h2)]
theorem afi {l:List Rc}{last:Int}(h:¬r.q<=last)(h2:gV l r.s=false)(h3:100<=iY l):Zf l last r=8:=by unfold Zf;rw[if_neg h,if_pos (.inr ⟨h2,h3⟩)]
theorem agA {l:List Rc}{last:Int}(h:¬r.q<=last)(h1:¬200<=l.length)(h2:gV l r.s=true):Zf l last r=0:=by
 unfold Zf;rw[if_neg h,if_neg (λz=>by rcases z with z|z;exact h1 z;rw[h2] at z;cases z.1)]
theorem afj {l:List Rc}{last:Int}(h:¬r.q<=last)(h1:¬200<=l.length)(h2:¬100<=iY l):Zf l last r=0:=by
 unfold Zf;rw[if_neg h,if_neg (λz=>by rcases z with z|z;exact h1 z;exact h2 z.2)]
theorem Zg {w:I}{B q:Nat}{v u:Value}{l:List Rc}{last:Int}(r:Rc)(h:oU w B q v u l es last)(hc:Cnt l es)(hr:aC false r.s=0)(hs:r.s.size<=140737488355328)(iE:l.length<=200) :
 Calls prog 185 #[ae q,.agg #[aa r.k,aa r.q,aa r.t,.string r.s,.string r.h,.string r.d]] w λe w'=>e=.returned (aa (Zf l last r))/\ai w w':=by
 have hb0:ai w (w.alloc (.cells #[aa r.k,aa r.q,aa r.t,.string r.s,.string r.h,.string r.d] 46)):=ax _ _;have Hb0:=aj hb0;obtain⟨a,cap,rfl,_⟩:=h.msgs.shape;have c0:=h.c0;have c2:=h.c2;have Di:=h.lt;have g1:(kT es r.s:Int)=(gB l r.s:Int):=hc.get hr;have g2:(es.length:Int)=(iY l:Int):=by rw[hc.len]
 have g3:=zy l r.s;have HS:=aj h;have HC:=aj hc.good;have P:Hid (∀m,Calls prog 227 #[ae q,.string r.s] ((w.alloc (.cells #[aa r.k,aa r.q,aa r.t,.string r.s,.string r.h,.string r.d] 46)).drewN m) λe w'=>e=.returned (aa (kT es r.s))/\ai w w'):=aj (λm=>by
  have b:=below_drewN hb0 m;refine(rP r.s (h.below b) hc.good hs).mono ?_;rintro e w' ⟨he,hb⟩;exact⟨he,ak b hb⟩)
 clear h hb0 hc;by_cases h1:r.q<=last
 ·have R:=aj (agz (l:=l) h1);clear g1 g2 g3;go_enter func185,ntmps185;go_wp2_with fail;go_quiet (fail)
  go_wp2_with fail;go_ret;exact⟨je (ah R),below_drewN (ah Hb0) _⟩
 ·by_cases h2:200<=l.length
  ·have R:=aj (afh h1 h2);clear g1 g2 g3;go_enter func185,ntmps185;go_wp2_with fail;go_quiet (fail)
   go_wp2_with fail;go_ret;exact⟨je (ah R),below_drewN (ah Hb0) _⟩
  ·obtain⟨n,en⟩:∃n,n=kT es r.s:=⟨_,rfl⟩;rw[<-en] at g1;have EN:=aj en;clear en;by_cases h3:n=0
   ·subst h3;have hz:gV l r.s=false:=by rw[g3];exact ajE (by omega)
    by_cases h4:100<=es.length
    ·have R:=aj (afi (r:=r) h1 hz (by omega));clear g1 g2 g3 hz;go_enter func185,ntmps185;go_wp2_with fail;go_quiet (fail)
     go_wp2_with fail;refine(ah P _).mono ?_;rintro e w1 ⟨rfl,b1⟩;rw[<-ah EN];have P2:=aj (Cc B q u es w1 ((ah HS).below b1).keeps);have B1:=aj b1;clear b1 P c0 c2;go_wp2_with fail;refine(ah P2).mono ?_;rintro e w2 ⟨rfl,rfl⟩;go_wp2_with fail;go_ret;exact⟨je (ah R),ah B1⟩
    ·have R:=aj (afj (r:=r) h1 h2 (by omega));clear g1 g2 g3 hz;go_enter func185,ntmps185;go_wp2_with fail;go_quiet (fail)
     go_wp2_with fail;refine(ah P _).mono ?_;rintro e w1 ⟨rfl,b1⟩;rw[<-ah EN];have P2:=aj (Cc B q u es w1 ((ah HS).below b1).keeps);have B1:=aj b1;clear b1 P c0 c2;go_wp2_with fail;refine(ah P2).mono ?_;rintro e w2 ⟨rfl,rfl⟩;go_wp2_with fail;go_ret;exact⟨je (ah R),ah B1⟩
   ·have R:=aj (agA (r:=r) h1 h2 (by rw[g3];exact ajH (by omega)));clear g1 g2 g3;go_enter func185,ntmps185;go_wp2_with fail;go_quiet (fail)
    go_wp2_with fail;refine(ah P _).mono ?_;rintro e w1 ⟨rfl,b1⟩;rw[<-ah EN];have B1:=aj b1;clear b1 P c0 c2;go_wp2_with fail;go_ret;exact⟨je (ah R),ah B1⟩
def erE (l:List Rc)(n:Int):Int:=if seqB l n=false then 4 else 0
theorem Zh {w:I}{B q:Nat}{v u:Value}{l:List Rc}{last:Int}(n:Int)(h:oU w B q v u l es last)(hr:jI l)(iE:l.length<=200) :
 Calls prog 186 #[ae q,aa n] w λe w'=>e=.returned (aa (erE l n))/\ai w w':=by
 cases hs:seqB l n
 all_goals
  have hE:erE l n=(if seqB l n=false then 4 else 0):=rfl
  rw[hs] at hE
  have HE:=aj hE
  clear hE
  go_enter func186,ntmps186
  go_wp2_with fail
  refine(oJ n h hr iE).mono ?_
  rintro e w1 ⟨rfl,hb⟩
  rw[hs]
  go_wp2_with fail
  go_ret
  exact⟨je (by rw[ah HE];rfl),hb⟩
theorem WX (h:¬iw r=0):fF s r=iw r:=by unfold fF;rw[if_pos h]
theorem WY (h:iw r=0)(h1:r.k=1):fF s r=Zf s.l s.last r:=by
 unfold fF Zf;rw[if_neg (by rw[h];simp),if_neg (by omega),if_neg (by omega)]
theorem WZ (h:iw r=0)(h1:r.k=2):fF s r=erE s.l r.q:=by
 unfold fF erE;rw[if_neg (by rw[h];simp)];by_cases z:seqB s.l r.q=false
 ·rw[if_pos ⟨h1,z⟩,if_pos z]
 ·rw[if_neg (λy=>z y.2),if_pos (by omega),if_neg z]
theorem acH (h:iw r=0)(h1:¬r.k=1)(h2:¬r.k=2):fF s r=0:=by
 unfold fF;rw[if_neg (by rw[h];simp),if_neg (λz=>h2 z.1),if_pos h1]
theorem Gu {w:I}{B q:Nat}{v u:Value}(r:Rc)(hm:Small r)(h:oU w B q v u s.l es s.last)(hc:Cnt s.l es)(hk:s.Ok) :
 Calls prog 144 #[ae q,.agg #[aa r.k,aa r.q,aa r.t,.string r.s,.string r.h,.string r.d]] w λe w'=>e=.returned (aa (fF s r))/\ai w w':=by
 have hr:jI s.l:=hk.rise;have iE:=hk.few;have hb0:ai w (w.alloc (.cells #[aa r.k,aa r.q,aa r.t,.string r.s,.string r.h,.string r.d] 46)):=ax _ _;have H0:=aj (h.below hb0);have HR:=aj (RB.new w r.k r.q r.t r.s r.h r.d 46);have Hb0:=aj hb0;have PC:=aj (check_any r.k r.q r.t r.s r.h r.d (w.alloc (.cells #[aa r.k,aa r.q,aa r.t,.string r.s,.string r.h,.string r.d] 46)) hm.s hm.h hm.d);have hz:=hm.s;have HC:=aj hc;have Hr:=aj hr;clear h hb0 hm hk hc hr;by_cases hg:iw r=0
 ·have HZ:Hid (mX r.k r.q r.t r.s r.h r.d=0):=aj hg;have F1:=lQ hg;have T1:=WY (s:=s) hg;have T2:=WZ (s:=s) hg;have T3:=acH (s:=s) hg;clear hg;rcases r with ⟨k,n,t,s',h',d'⟩;by_cases hk1:k=1
  ·subst hk1;have HRt:=aj (F1 rfl);have TT:=aj (T1 rfl);clear T1 T2 T3 F1;dsimp only at H0 HR Hb0 PC hz HZ ⊢;go_enter func144,ntmps144;go_wp2_with fail;refine(ah PC).mono ?_;rintro e w1 ⟨rfl,b1⟩;rw[ah HZ];obtain⟨_,x0,x1,x2,x3,x4,x5⟩:=(ah HR).next b1;have P:=aj (Zg ⟨1,n,t,s',h',d'⟩ ((ah H0).below b1) (ah HC) (ah HRt) hz iE);have B1:=aj (ak (ah Hb0) b1);clear b1;go_wp2_with fail;refine(ah P).mono ?_;rintro e w2 ⟨rfl,b2⟩;go_wp2_with fail;go_ret;exact⟨je (ah TT),ak (ah B1) b2⟩
  ·by_cases hk2:k=2
   ·subst hk2;have TT:=aj (T2 rfl);clear T1 T2 T3 F1;dsimp only at H0 HR Hb0 PC hz HZ ⊢;go_enter func144,ntmps144;go_wp2_with fail;refine(ah PC).mono ?_;rintro e w1 ⟨rfl,b1⟩;rw[ah HZ];obtain⟨_,x0,x1,x2,x3,x4,x5⟩:=(ah HR).next b1;have P:=aj (Zh n ((ah H0).below b1) (ah Hr) iE);have B1:=aj (ak (ah Hb0) b1);clear b1;go_wp2_with fail;refine(ah P).mono ?_;rintro e w2 ⟨rfl,b2⟩;go_wp2_with fail;go_ret;exact⟨je (ah TT),ak (ah B1) b2⟩
   ·have T4:=aj (T3 hk1 hk2);clear T1 T2 T3 F1;dsimp only at H0 HR Hb0 PC hz HZ ⊢;go_enter func144,ntmps144;go_wp2_with fail;refine(ah PC).mono ?_;rintro e w1 ⟨rfl,b1⟩;rw[ah HZ];obtain⟨_,x0,x1,x2,x3,x4,x5⟩:=(ah HR).next b1;have B1:=aj (ak (ah Hb0) b1);clear b1;go_wp2_with fail;go_ret;exact⟨je (ah T4),ah B1⟩
 ·have R:=aj (WX (s:=s) hg);obtain⟨E,hE⟩:∃E,E=iw r:=⟨_,rfl⟩;have HE:Hid (mX r.k r.q r.t r.s r.h r.d=E):=aj hE.symm;rw[<-hE] at hg R;clear hE;go_enter func144,ntmps144;go_wp2_with fail;refine(ah PC).mono ?_;rintro e w1 ⟨rfl,b1⟩;rw[ah HE];go_wp2_with fail;go_ret;exact⟨je (ah R),ak (ah Hb0) b1⟩
theorem bI.six {w:I}{B g:Nat}{l:List Rc}(h:bI w B (.slice (some ⟨g,0,none⟩) l.length cap) l){k:Nat}(hk:k<l.length):Six w g (k*6) (rc l k):=by
 obtain⟨a,c,e,_,_,hs⟩:=h.shape;obtain⟨rfl,_,_⟩:=akE e;obtain⟨b,o,e2,s6⟩:=hs k hk
 cases e2
 rw[ajT] at s6;exact s6
theorem UJ {w w':I}{k q:Int}{s:ad}{A:af}(r:RB w b k q t s h d)(hc:aA A w w')(hn:¬A b):RB w' b k q t s h d :=
 ⟨ajz r.lt hc.size,by rw[hc.cell (p:=aq b 0) r.lt hn];exact r.c0,by rw[hc.cell (p:=aq b 1) r.lt hn];exact r.c1,by rw[hc.cell (p:=aq b 2) r.lt hn];exact r.c2,by rw[hc.cell (p:=aq b 3) r.lt hn];exact r.c3,by rw[hc.cell (p:=aq b 4) r.lt hn];exact r.c4,by rw[hc.cell (p:=aq b 5) r.lt hn];exact r.c5,λj=>by rw[hc.frozen (p:=aq b j) r.lt hn];exact r.fr j⟩
theorem oU.more {w:I}{B q:Nat}{u:Value}{l:List Rc}{last:Int}(r:Rc)(h:oU w B q (.slice a n cap) u l es last)(iE:l.length<=200)(hB:B<=w.heap.size)(w3:I)(b3:ai w w3) :
 ∃a' m' c' w8,(Builtin.append_ #[41,41] 41 #[.slice a n cap,.slice (some ⟨w3.heap.size,0,none⟩) 1 1]).run prog (w3.alloc (.cells #[aa r.k,aa r.q,aa r.t,.string r.s,.string r.h,.string r.d] 46))=.ok (.slice a' m' c') w8/\w8.cell? (aq q 0)=some (.slice a n cap)/\w8.frozen? (aq q 0)=false/\Hid (Moves w (w8.setCell (aq q 0) (.slice a' m' c')) B q (.slice a n cap) u (l++[r]) es last):=by
 have b4:ai w3 (w3.alloc (.cells #[aa r.k,aa r.q,aa r.t,.string r.s,.string r.h,.string r.d] 46)):=ax _ _;have h4:=(h.below b3).below b4;obtain⟨v8,w8,hr,A8,C8,L8⟩:=oq _ B 41 _ l [r] h4.msgs ⟨w3.heap.size,0,none⟩ 1 (DC w3 r) (by simp;omega) (by have:=b3.size;have:=b4.size;omega);obtain⟨a',c',rfl,_⟩:=A8.shape;refine⟨a',_,c',w8,hr,?_,?_,aj (Moves.behind (ak b3 b4) (Moves.store h4 C8 A8 L8))⟩
 ·rw[C8.cell (p:=aq q 0) h4.lt h4.av];exact h4.c0
 ·rw[C8.frozen (p:=aq q 0) h4.lt h4.av];exact h4.free 0
theorem acI {w:I}{B q:Nat}{v u:Value}{l:List Rc}{last:Int}(r:Rc)(hm:Small r)(h:oU w B q v u l es last)(hg:Go.Proofs.YtebofkkfbkodiaaGreatDoor.iC es)(iE:l.length<=200)(hB:B<=w.heap.size)(hn:kT es r.s<=200)(hn0:0<=kT es r.s) :
 Calls prog 194 #[ae q,.agg #[aa r.k,aa r.q,aa r.t,.string r.s,.string r.h,.string r.d]] w λe w'=>e=.returned (.tuple #[])/\Moves w w' B q v u (l++[r]) (rC es r.s (kT es r.s+1)) r.q:=by
 obtain⟨w0,hw0⟩:∃w0,w0=w.alloc (.cells #[aa r.k,aa r.q,aa r.t,.string r.s,.string r.h,.string r.d] 46):=⟨_,rfl⟩;have hb0:ai w w0:=by rw[hw0];exact ax _ _
 have R0:RB w0 w.heap.size r.k r.q r.t r.s r.h r.d:=by rw[hw0];exact RB.new w r.k r.q r.t r.s r.h r.d 46
 have h0:=h.below hb0;obtain⟨a,cap,rfl,_⟩:=h.msgs.shape;have c0:=h0.c0;have Di:=h0.lt;have hbl:=R0.lt;have oD:w.heap.size<w0.heap.size:=R0.lt;have hnf:¬oZ q (.slice a l.length cap) u w.heap.size:=λz=>by have:=(h.own _ z).2;omega
 have HR0:=aj R0;obtain⟨_,x0,x1,x2,x3,x4,x5,_⟩:=R0;have PC:Hid (∀X,Calls prog 74 #[.agg #[aa r.k,aa r.q,aa r.t,.string r.s,.string r.h,.string r.d]] X λe w'=>e=.returned (.agg #[aa r.k,aa r.q,aa r.t,.string r.s,.string r.h,.string r.d])/\ai X w'):=aj (λX=>vX r hm X);have PA:=aj (h0.more r iE (by have:=hb0.size;omega));have Hb0:=aj hb0;have HN:=aj hnf;have HG:=aj hg;have hz:=hm.s;have hB0:B<=w0.heap.size:=by have:=hb0.size;omega
 clear h h0 hb0 hg hnf hm;go_enter func194,ntmps194;go_wp2_with fail;rw[<-hw0];clear hw0;go_region_law (first
  | (refine nK rfl _ _ 41 41 rfl (.slice a l.length cap) _ (by first|(simp[Act.eval];done)|(simp[Act.eval,Act.put];done)) (by first|(simp[Act.eval];done)|(simp[Act.eval,Act.put];done)) hrun ?_)
  | (go_simp;go_at_call 74;refine(ah PC _).mono ?_;rintro e w3 ⟨rfl,b3⟩;have d2:=(b3.cell (p:=aq q 0) Di).trans c0;have hp3:=ajz Di b3.size;obtain⟨a',m',c',w8,hrun,e0,f0,HM⟩:=ah PA w3 (((agP w0.heap.size w0).drew).trans b3);dsimp only))
 all_goals
  obtain⟨v1,u1,s1,ch1,o1⟩:=ah HM
  have R1:=UJ (ah HR0) ch1 (ah HN)
  generalize w8.setCell (aq q 0) (.slice a' m' c')=W1 at *
  clear PC PA HR0 x0 x1 x2 x3 x4 x5 e0 f0 d2 hp3 b3 hrun HM c0 hbl
  have HS1:=aj s1
  have HR1:=aj R1
  have hq1:=s1.lt
  have hl1:=R1.lt
  obtain⟨_,x0,x1,x2,x3,x4,x5,_⟩:=R1
  have HC1:=aj (And.intro ch1 o1)
  have HNf:Hid (¬foot q u1 w.heap.size):=aj (λz=>by
   have hf:oZ q v1 u1 w.heap.size:=by
    rcases z with z|z
    ·exact .inl z
    ·exact .inr (.inr z)
   rcases o1 _ hf with y|y
   ·exact ah HN y
   ·have:=oD;omega)
  have hB1:B<=W1.heap.size:=by have:=ch1.size;omega
  have hsd:=s1.below (agP _ W1).drew
  have PN:=aj (rP r.s hsd (ah HG) hz)
  obtain⟨n,en⟩:∃n,n=kT es r.s:=⟨_,rfl⟩
  rw[<-en] at PN hn hn0
  have HE:=aj en
  have hw1:IntKind.i64.wrap (n+1)=n+1:=by rw[akl];omega
  clear s1 ch1 o1 en hsd
  go_wp2_with fail
  go_region_held3 (λw'=>w'.cell? (aq w.heap.size 3)=some (.string r.s)) (first|assumption|go_keep)
   (first
    | (go_at_call 227;refine(ah PN).mono ?_;rintro e w5 ⟨rfl,b5⟩;have B5:=aj (((agP W1.heap.size W1).drew).trans b5);have y3:=((ah HR1).next (ah B5)).c3)
    | (go_at_call 236;refine(QF B q u1 es r.s (n+1) w5 ((ah HS1).below (ah B5)).keeps (ah HG) hz (ajA hB1 (ah B5).size)).mono ?_;rintro e w6 ⟨rfl,hu⟩;have R6:=UJ ((ah HR1).next (ah B5)) (acp (nS.aF hu)) (ah HNf);have z3:=R6.c3))
  have s5:=(ah HS1).below (ah B5)
  have M6:=Moves.behind (ah B5) (Moves.upd s5 hu)
  have HM6:=aj M6
  obtain⟨v6,u6,s6,c6,o6⟩:=M6
  have k2:=s6.c2
  have kf:=s6.free 2
  have kl:=s6.lt
  have x1:=R6.c1
  have HF:=aj (Moves.seq c6 o6 (Moves.number s6 r.q))
  have HC:=aj (Moves.behind (ah Hb0) (Moves.seq (ah HC1).1 (ah HC1).2 (ah HF)))
  clear HF s6 c6 o6 s5 hu HM6 y3 z3 R6
  go_wp2_with fail
  go_end0
  refine⟨rfl,?_⟩
  rw[<-ah HE]
  exact ah HC
theorem acJ {w:I}{B q:Nat}{v u:Value}{l:List Rc}{last:Int}(n:Int)(h:oU w B q v u l es last)(hr:jI l)(hs:seqB l n=true)(hg:Go.Proofs.YtebofkkfbkodiaaGreatDoor.iC es)(iE:l.length<=200)(hB:B<=w.heap.size)(hz:(rc l (pq l n)).s.size<=140737488355328)(hn:kT es (rc l (pq l n)).s<=200) :
 Calls prog 195 #[ae q,aa n] w λe w'=>e=.returned (.tuple #[])/\Moves w w' B q v u (Ic l (pq l n)) (TM es (kT es (rc l (pq l n)).s) (rc l (pq l n)).s) last:=by
 obtain⟨p1,p2⟩:=zA hr hs;have PP:=aj (oJ n h hr iE);obtain⟨p,hp⟩:∃p,p=pq l n:=⟨_,rfl⟩;rw[<-hp] at p1 p2 PP hz hn ⊢;clear hp p2;obtain⟨g,cap,rfl,c1,c2,c3,c4⟩:=h.msgs.there (by omega);unfold maxLen at c2;have HH:=aj h;have HG:=aj hg;clear h hg hr hs;go_enter func195,ntmps195;go_wp2_with fail;refine(ah PP).mono ?_;rintro e w1 ⟨rfl,b1⟩;have h1:=(ah HH).below b1;have d0:=h1.c0;obtain⟨_,x0,x1,x2,x3,x4,x5⟩:=h1.msgs.six p1;have P:=aj (WW (rc l p).s h1 (ah HG) hz (by have:=b1.size;omega) hn);have B1:=aj b1;clear b1 h1 x0 x1 x2 x4 x5;go_wp2_with fail;refine(ah P).mono ?_
 rintro e w2 ⟨rfl,k2⟩;obtain⟨u2,h2,ch2,o2⟩:=Counts.behind (ah B1) k2;have F2:=aj (Counts.oZ (v:=.slice (some ⟨g,0,none⟩) l.length cap) ch2 o2);have e0:=h2.c0;have PD:=aj (QI B _ l p w2 h2.msgs p1 iE);have H2:=aj h2;clear h2 ch2 o2 P x3 d0 k2;go_wp2_with fail;refine(ah PD).mono ?_;rintro e w3 ⟨v3,rfl,i1,i2,i3⟩;obtain⟨a3,cp3,rfl,_⟩:=i1.shape;have d4:w3.cell? (aq q 0)=some (.slice (some ⟨g,0,none⟩) l.length cap):=by rw[i2.cell (p:=aq q 0) (ah H2).lt (ah H2).av];exact e0
 have d5:w3.frozen? (aq q 0)=false:=by rw[i2.frozen (p:=aq q 0) (ah H2).lt (ah H2).av];exact(ah H2).free 0
 have HM:=aj (Moves.store (ah H2) i2 i1 i3);clear i1 i2 i3 e0 PD;go_wp2_with fail;go_end0
 exact⟨rfl,Moves.seq (ah F2).1 (ah F2).2 (ah HM)⟩
theorem acK {f s:ad}(hf:aC true f=0)(hs:aC false s=0):aN f s=ng f s:=by
 unfold aN ng;rw[hf,hs];simp
structure rQ (w wr:I)(B q:Nat)(v u:Value)(l:List Rc)(last:Int)(f:ad)(k:Nat)(sv:Value):Prop where
 ex:∃u' es',oU wr B q v u' l es' last/\Cnt (jJ f (l.take k)++l.drop k) es'/\aA (oZ q v u) w wr/\(∀g,oZ q v u' g->oZ q v u g\/w.heap.size<=g)/\bI wr w.heap.size sv (jJ f (l.take k))/\∀g,sv.ownBlock=some g->u'.ownBlock≠some g
 hq:q<w.heap.size
 hv:∀g,v.ownBlock=some g->g<w.heap.size
theorem ML (l:List Rc)(s:ad):gB l s<=l.length:=akF _ _
section
variable {w wr w':I}{B q:Nat}{v u sv:Value}{l:List Rc}{last:Int}{f:ad}{k:Nat}
theorem rQ.below (h:rQ w wr B q v u l last f k sv)(hb:ai wr w'):rQ w w' B q v u l last f k sv:=by
 obtain⟨u',es',s,cn,ch,o,ar,ap⟩:=h.ex;exact⟨⟨u',es',s.below hb,cn,ch.trans (aA.of_below hb),o,ar.below hb,ap⟩,h.hq,h.hv⟩
theorem rQ.show (h:rQ w wr B q v u l last f k sv)(hk:k<l.length)(hv:v=.slice a n c):∃b o,a=some ⟨b,o,none⟩/\Six wr b (o+k*6) (rc l k):=by
 obtain⟨u',es',s,cn,ch,o,ar,ap⟩:=h.ex;obtain⟨a',c',e,_,_,hs⟩:=s.msgs.shape;rw[hv] at e;obtain⟨rfl,_,_⟩:=akE e;exact hs k hk
theorem rQ.shape (h:rQ w wr B q v u l last f k sv):∃a n c,sv=.slice a n c:=by
 obtain⟨u',es',s,cn,ch,o,ar,ap⟩:=h.ex;obtain⟨a',c',e,_⟩:=ar.shape;exact⟨_,_,_,e⟩
theorem rQ.count (h:rQ w wr B q v u l last f k sv)(hk:k<l.length)(ht:ng f (rc l k).s=true)(hB:B<=w.heap.size)(iE:l.length<=200)(hm:∀x∈l,aC false x.s=0/\x.s.size<=135) :
 Calls prog 237 #[ae q,.string (rc l k).s] wr λe w'=>e=.returned (.tuple #[])/\rQ w w' B q v u l last f (k+1) sv:=by
 obtain⟨u',es',s,cn,ch,o,ar,ap⟩:=h.ex;obtain⟨m1,m2⟩:=hm _ (uj hk);have hsp:jJ f (l.take k)++l.drop k=jJ f (l.take k)++rc l k::l.drop (k+1):=by rw[bU hk,<-ajW hk]
 have hnl:(jJ f (l.take k)++l.drop k).length<=200:=by
  have:=Fg f (l.take k);rw[ajL] at this;rw[ajB,ajI];omega
 have hgn:kT es' (rc l k).s<=200:=by
  rw[cn.get m1];have:=ML (jJ f (l.take k)++l.drop k) (rc l k).s;omega
 refine(WW (rc l k).s s cn.good (by omega) (ajA hB ch.size) hgn).mono ?_;rintro e w' ⟨he,u2,s2,c2,o2⟩;obtain⟨F1,F2⟩:=Counts.oZ (v:=v) c2 o2;refine⟨he,⟨⟨u2,_,s2,?_,?_,?_,?_,?_⟩,h.hq,h.hv⟩⟩
 ·rw[hsp] at cn;have:=Cnt.off cn m1 (by omega);rw[AZ hk,ht,if_pos rfl,akQ];exact this
 ·refine⟨F1.os.trans ch.os,F1.tape.trans ch.tape,F1.output.trans ch.output,ajA ch.size F1.size,λi hi hn=>?_⟩;rw[F1.block i (by have:=ch.size;omega) (λz=>?_)]
  ·exact ch.block i hi hn
  ·rcases o i z with y|y
   ·exact hn y
   ·omega
 ·intro g hg;rcases F2 g hg with y|y
  ·exact o g y
  ·right;have:=ch.size;omega
 ·rw[AZ hk,ht,if_pos rfl,akQ];refine ar.aF c2 (λg hg z=>?_);rcases z with z|z
  ·have:=(ar.lt g hg).1;have:=h.hq;omega
  ·exact ap g hg z
 ·intro g hg z;rcases o2 g z with y|y
  ·exact ap g hg y
  ·have:=(ar.lt g hg).2;omega
theorem rQ.more (h:rQ w wr B q v u l last f k sv)(hk:k<l.length)(ht:ng f (rc l k).s=false)(iE:l.length<=200) :
 ∃a' n' c' w',(Builtin.append_ #[41,41] 41 #[sv,.slice (some ⟨wr.heap.size,0,none⟩) 1 1]).run prog (wr.alloc (.cells #[aa (rc l k).k,aa (rc l k).q,aa (rc l k).t,.string (rc l k).s,.string (rc l k).h,.string (rc l k).d] 46))=.ok (.slice a' n' c') w'/\rQ w w' B q v u l last f (k+1) (.slice a' n' c'):=by
 have b4:ai wr (wr.alloc (.cells #[aa (rc l k).k,aa (rc l k).q,aa (rc l k).t,.string (rc l k).s,.string (rc l k).h,.string (rc l k).d] 46)):=ax _ _;obtain⟨u',es',s,cn,ch,o,ar,ap⟩:=(h.below b4).ex;have hnl:(jJ f (l.take k)).length<=200:=by
  have:=Fg f (l.take k);rw[ajL] at this;omega
 obtain⟨v8,w8,hr,A8,C8,L8⟩:=oq _ w.heap.size 41 sv _ [rc l k] ar ⟨wr.heap.size,0,none⟩ 1 (DC wr (rc l k)) (by simp;omega) ch.size;obtain⟨a',c',rfl,_⟩:=A8.shape;have hsp:l.drop k=rc l k::l.drop (k+1):=by rw[bU hk,<-ajW hk]
 have hlt:jJ f (l.take (k+1))=jJ f (l.take k)++[rc l k]:=by rw[AZ hk,ht];rfl
 have hown:∀g,sv.ownBlock=some g->¬oZ q v u' g:=λg hg z=>by
  have h1:=(ar.lt g hg).1;rcases z with z|z|z
  ·have:=h.hq;omega
  ·have:=h.hv g z;omega
  ·exact ap g hg z
 refine⟨a',_,c',w8,hr,⟨⟨u',es',s.aF C8 (λg hg z=>hown g z hg),?_,?_,o,by rw[hlt];exact A8,?_⟩,h.hq,h.hv⟩⟩
 ·rw[hlt,aku,amr,<-hsp];exact cn
 ·refine⟨C8.os.trans ch.os,C8.tape.trans ch.tape,C8.output.trans ch.output,ajA ch.size C8.size,λi hi hn=>?_⟩;rw[C8.block i (by have:=ch.size;omega) (λz=>by have:=(ar.lt i z).1;omega)];exact ch.block i hi hn
 ·intro g hg z;rcases L8 g hg with y|y
  ·exact ap g y z
  ·have:=(s.cnts.lt g z).2;omega
theorem rQ.fin (h:rQ w wr B q (.slice a n c) u l last f k sv)(hk:k<=l.length)(iE:l.length<=200) :
 Calls prog 239 #[.slice a n c,aa 0,aa k,sv] wr λe w'=>∃a' n' c',e=.returned (.slice a' n' c')/\w'.cell? (aq q 0)=some (.slice a n c)/\w'.frozen? (aq q 0)=false/\Hid (∃es',Moves w (w'.setCell (aq q 0) (.slice a' n' c')) B q (.slice a n c) u (jJ f (l.take k)++l.drop k) es' last/\Cnt (jJ f (l.take k)++l.drop k) es'):=by
 obtain⟨u',es',s,cn,ch,o,ar,ap⟩:=h.ex;refine(QL s.msgs ar (by have:=Fg f (l.take k);rw[ajL] at this;omega) hk iE (λg hg z=>by have:=h.hv g hg;have:=(ar.lt g z).1;omega)).mono ?_;rintro e w' ⟨v',rfl,A8,C8,L8⟩;obtain⟨a',c',rfl,_⟩:=A8.shape;refine⟨a',_,c',rfl,?_,?_,aj ⟨es',Moves.seq ch o (Moves.store s C8 A8 L8),cn⟩⟩
 ·rw[C8.cell (p:=aq q 0) s.lt s.av];exact s.c0
 ·rw[C8.frozen (p:=aq q 0) s.lt s.av];exact s.free 0
end
theorem acL {w:I}{B q:Nat}{v u:Value}{l:List Rc}{last:Int}(f:ad)(n:Int)(hf:aC true f=0)(hfz:f.size<=140737488355328)(h:oU w B q v u l es last)(hr:jI l)(hc:Cnt l es)(iE:l.length<=200)(hm:∀x∈l,aC false x.s=0/\x.s.size<=135)(hB:B<=w.heap.size) :
 Calls prog 196 #[ae q,.string f,aa n] w λe w'=>e=.returned (.tuple #[])/\∃es',Moves w w' B q v u (jJ f (l.take (pq l n))++l.drop (pq l n)) es' last/\Cnt (jJ f (l.take (pq l n))++l.drop (pq l n)) es':=by
 have PP:=aj (oJ n h hr iE);have hpl:=V6 l n;obtain⟨p,hp⟩:∃p,p=pq l n:=⟨_,rfl⟩;rw[<-hp] at PP hpl ⊢;clear hp;obtain⟨a,cap,rfl,c1,c2,hsl⟩:=h.msgs.shape;unfold maxLen at c2;have HH:=aj h;have HC:=aj hc;have HM:=aj hm;clear h hc hr hm;go_enter func196,ntmps196;go_wp2_with fail;refine(ah PP).mono ?_;rintro e w1 ⟨rfl,b1⟩;have h1:=(ah HH).below b1;have d0:=h1.c0;have e0:(0:Int)<=(p:Int):=by omega
 have e1:(p:Int)<=(l.length:Int):=by omega
 have e2:p<=cap:=by omega
 clear PP;have HP:Hid (rQ w w1 B q (.slice a l.length cap) u l last f 0 (.slice none 0 0)):=aj ⟨⟨u,es,h1,by simpa[jJ] using ah HC,aA.of_below b1,λg hg=>.inl hg,bI.empty _ _,λg hg=>by simp[Value.ownBlock] at hg⟩,(ah HH).lt,λg hg=>((ah HH).msgs.lt g hg).2⟩;have PT:Hid (∀k,k<l.length->∀X,Calls prog 200 #[.string f,.agg #[aa (rc l k).k,aa (rc l k).q,aa (rc l k).t,.string (rc l k).s,.string (rc l k).h,.string (rc l k).d]] X λe w'=>e=.returned (.bool (ng f (rc l k).s))/\ai X w'):=aj (λk hk X=>by
  obtain⟨m1,m2⟩:=ah HM _ (uj hk);have:=JR f (rc l k) hfz (by omega) X;rw[acK hf m1] at this;exact this)
 clear h1 b1 hsl hf;go_wp2_with fail;clear d0;go_loopw [8,24] (λsv kv wr=>∃(k:Nat),kv=aa k/\k<=p/\Hid (rQ w wr B q (.slice a l.length cap) u l last f k sv)) (λ_ kv _=>p-(intOf kv).toNat)
 case atStart=>exact⟨0,rfl,ajO _,HP⟩
 case round =>
  clear HP;obtain⟨k,rfl,hk,HP⟩:=hrel;obtain⟨sa,sn,sc,rfl⟩:=(ah HP).shape;by_cases hlt:k<p
  ·obtain⟨b,o,rfl,s6⟩:=(ah HP).show (by omega) rfl;have hkl:k<l.length:=by omega
   have T:=aj (ah PT k hkl);have K1:Hid (∀w5,ai wr w5->ng f (rc l k).s=true->Calls prog 237 #[ae q,.string (rc l k).s] w5 λe w'=>e=.returned (.tuple #[])/\rQ w w' B q (.slice (some ⟨b,o,none⟩) l.length cap) u l last f (k+1) (.slice sa sn sc)):=aj (λw5 b5 ht=>((ah HP).below b5).count hkl ht hB iE (ah HM));have K2:Hid (∀w5,ai wr w5->ng f (rc l k).s=false->∃a' n' c' w',(Builtin.append_ #[41,41] 41 #[.slice sa sn sc,.slice (some ⟨w5.heap.size,0,none⟩) 1 1]).run prog (w5.alloc (.cells #[aa (rc l k).k,aa (rc l k).q,aa (rc l k).t,.string (rc l k).s,.string (rc l k).h,.string (rc l k).d] 46))=.ok (.slice a' n' c') w'/\rQ w w' B q (.slice (some ⟨b,o,none⟩) l.length cap) u l last f (k+1) (.slice a' n' c')):=aj (λw5 b5 ht=>((ah HP).below b5).more hkl ht iE)
   generalize rc l k=y at *;obtain⟨_,x0,x1,x2,x3,x4,x5⟩:=s6;have hb0:ai wr (wr.alloc (.cells #[aa y.k,aa y.q,aa y.t,.string y.s,.string y.h,.string y.d] 46)):=ax _ _;have R0:=aj (RB.new wr y.k y.q y.t y.s y.h y.d 46);have Hb0:=aj hb0;clear hb0 PT;go_wp2_with fail;refine(ah T _).mono ?_;rintro e w5 ⟨rfl,b5⟩;have B5:=aj (ak (ah Hb0) b5);obtain⟨_,y0,y1,y2,y3,y4,y5,_⟩:=(ah R0).next b5;clear x0 x1 x2 x3 x4 x5 b5 T R0 Hb0
   cases ht:ng f y.s with
   | true =>
    have C:=aj (ah K1 w5 (ah B5) ht);clear K1 K2 ht;go_wp2_with fail;refine(ah C).mono ?_;rintro e w6 ⟨rfl,p6⟩;have P6:=aj p6;clear p6 C;go_wp2_with fail;refine⟨⟨k+1,by go_num,by omega,P6⟩,?_⟩;simp[intOf];omega
   | false =>
    obtain⟨a',n',c',w6,hrun,p6⟩:=ah K2 w5 (ah B5) ht;have P6:=aj p6;clear K1 K2 ht p6;go_wp2_with (at_builtin;refine akA _ rfl _ _ _ _ rfl _ _ rfl rfl _ _ hrun ?_);refine⟨⟨k+1,by go_num,by omega,P6⟩,?_⟩;simp[intOf];omega
  ·obtain rfl:k=p:=by omega
   have PF:=aj ((ah HP).fin hpl iE);have d0:wr.cell? (aq q 0)=some (.slice a l.length cap):=by
    obtain⟨u',es',s,_⟩:=(ah HP).ex;exact s.c0
   clear HP;go_wp2_with fail;refine(ah PF).mono ?_;rintro e w6 ⟨a',n',c',rfl,f0,f1,HF⟩;clear PF d0;go_wp2_with fail;go_end0
   exact⟨rfl,ah HF⟩
theorem MN (h:fF s r=0):iw r=0:=by
 apply akn;intro z;rw[WX z] at h;exact z h
theorem afk (h:¬fF s r=0):kV s r=s:=by unfold kV;rw[if_pos h]
theorem afl (h:fF s r=0)(h1:r.k=1):kV s r=⟨s.l++[r],r.q⟩:=by
 unfold kV;rw[if_neg (by rw[h];simp),if_pos h1]
theorem acM (h:fF s r=0)(h1:r.k=4):kV s r=⟨s.l,max s.last r.q⟩:=by
 unfold kV;rw[if_neg (by rw[h];simp),if_neg (by omega),if_pos h1]
theorem afm (h:fF s r=0)(h1:r.k=2)(hr:jI s.l)(hs:seqB s.l r.q=true):kV s r=⟨Ic s.l (pq s.l r.q),s.last⟩:=by
 unfold kV;rw[if_neg (by rw[h];simp),if_neg (by omega),if_neg (by omega),<-abj hr hs];unfold VY;rw[h1];simp
theorem afn (h:fF s r=0)(h1:r.k=3)(hr:jI s.l):kV s r=⟨jJ r.s (s.l.take (pq s.l r.q))++s.l.drop (pq s.l r.q),s.last⟩:=by
 rw[TJ h h1,abk hr]
theorem W9 (h:fF s r=0)(h1:r.k=2):seqB s.l r.q=true:=by
 rw[WZ (MN h) h1] at h;unfold erE at h
 cases z:seqB s.l r.q
 ·rw[z] at h;cases h
 ·rfl
theorem acN (hc:Cnt s.l es)(h:fF s r=0)(h1:r.k=1):0<gB s.l r.s\/es.length<100:=by
 rw[WY (MN h) h1] at h;unfold Zf at h;split at h
 ·cases h
 ·split at h
  ·cases h
  ·rename_i z y;rw[hc.len];by_cases q:iY s.l<100
   ·exact .inr q
   ·left;have hh:gV s.l r.s=true:=by
     cases x:gV s.l r.s
     ·exact absurd (.inr ⟨x,by omega⟩) y
     ·rfl
    rw[zy] at hh;exact alN hh
theorem Moves.drew {w w':I}{B q:Nat}{v u:Value}{l:List Rc}{es:List aS}{last:Int}(h:Moves w w' B q v u l es last):Moves w w'.drew B q v u l es last:=by
 obtain⟨v',u',s,c,o⟩:=h;exact⟨v',u',s.below (agP _ _).drew,c.trans (aA.of_below (agP _ _).drew),o⟩
def Done (w w':I)(B q:Nat)(v u:Value)(s':aH):Prop:=∃es',Moves w w' B q v u s'.l es' s'.last/\Cnt s'.l es'
theorem Done.behind {w w1 w':I}{B q:Nat}{v u:Value}{s':aH}(hb:ai w w1)(h:Done w1 w' B q v u s'):Done w w' B q v u s':=by
 obtain⟨es',m,c⟩:=h;exact⟨es',m.behind hb,c⟩
theorem Gv {w:I}{B q:Nat}{v u:Value}(r:Rc)(hm:Small r)(h:oU w B q v u s.l es s.last)(hc:Cnt s.l es)(hk:s.Ok)(hB:B<=w.heap.size) :
 Calls prog 147 #[ae q,.agg #[aa r.k,aa r.q,aa r.t,.string r.s,.string r.h,.string r.d]] w λe w'=>e=.returned (aa (fF s r))/\Done w w' B q v u (kV s r):=by
 have hb0:ai w (w.alloc (.cells #[aa r.k,aa r.q,aa r.t,.string r.s,.string r.h,.string r.d] 46)):=ax _ _;have h0:=h.below hb0;have PT:=aj (Gu r hm h0 hc hk);have HR:=aj (RB.new w r.k r.q r.t r.s r.h r.d 46);have Hb0:=aj hb0;have H0:=aj h0;have hr:jI s.l:=hk.rise;have iE:=hk.few;have HMs:Hid (∀x∈s.l,aC false x.s=0/\x.s.size<=135):=aj (λx hx=>⟨lQ (hk.msg x hx).2 (hk.msg x hx).1,(hk.small hx).1⟩);have hl:=hk.last;have HC:=aj hc;have Hr:=aj hr;clear hk;by_cases ht:fF s r=0
 ·have hg:=MN ht;have hq:=Lj hg;have HT:=aj ht;have A1:=afl ht;have A2:=λh1=>afm ht h1 hr (W9 ht h1)
  have A3:=λh1=>afn ht h1 hr
  have A4:=acM ht;have S2:=W9 ht;have Rm:=lQ hg;have Rp:=Ze hg;have Ro:=acN hc ht;have K4:r.k=1\/r.k=2\/r.k=3\/r.k=4:=by
   obtain⟨z1,z2,_⟩:=Pk.qV (r:=r.pk) hg;have z1:1<=r.k:=z1;have z2:r.k<=4:=z2;omega
  clear h hb0 h0 hc hr ht hg;rcases r with ⟨k,n,t,s',h',d'⟩;dsimp only at HR Hb0 H0 PT HT hq K4 ⊢;have hz:s'.size<=140737488355328:=hm.s;rcases K4 with rfl|rfl|rfl|rfl
  ·have AA:=aj (A1 rfl);have G0:kT es s'=(gB s.l s':Int):=(ah HC).get (Rm rfl);have G1:=ML s.l s';have hn1:kT es s'<=200:=by omega
   have hn0:0<=kT es s':=by omega
   have CC:Hid (Cnt (s.l++[⟨1,n,t,s',h',d'⟩]) (rC es s' (kT es s'+1))):=aj (by rw[G0];exact(ah HC).put ⟨1,n,t,s',h',d'⟩ (Rm rfl) hz (Ro rfl));clear A1 A2 A3 A4 S2 Rm Rp Ro G0 G1;go_enter func147,ntmps147;go_wp2_with fail;refine(ah PT).mono ?_;rintro e w1 ⟨rfl,b1⟩;rw[ah HT];obtain⟨_,x0,x1,x2,x3,x4,x5,_⟩:=(ah HR).next b1;have B1:=aj (ak (ah Hb0) b1);have H1:=aj ((ah H0).below b1);have hB1:B<=w1.heap.size:=ajA hB (ah B1).size;clear b1;have P:=aj (acI ⟨1,n,t,s',h',d'⟩ hm (ah H1) (ah HC).good iE hB1 hn1 hn0);go_wp2_with fail
   refine(ah P).mono ?_;rintro e w2 ⟨rfl,m2⟩;have M2:=aj m2;clear P m2 x0 x1 x2 x3 x4 x5;go_wp2_with fail;go_ret;refine⟨je (ah HT),?_⟩;rw[ah AA];exact Done.behind (ah B1) ⟨_,ah M2,ah CC⟩
  ·have AA:=aj (A2 rfl);have hs0:seqB s.l n=true:=S2 rfl;obtain⟨p1,p2⟩:=zA (ah Hr) hs0;have hs:=aj hs0;obtain⟨m1,m2⟩:=ah HMs _ (uj p1);have G0:kT es (rc s.l (pq s.l n)).s=(gB s.l (rc s.l (pq s.l n)).s:Int):=(ah HC).get m1;have G1:=ML s.l (rc s.l (pq s.l n)).s;have hn1:Hid (kT es (rc s.l (pq s.l n)).s<=200):=aj (by omega);have CC:Hid (Cnt (Ic s.l (pq s.l n)) (TM es (kT es (rc s.l (pq s.l n)).s) (rc s.l (pq s.l n)).s)):=aj (by
    have c:=ah HC;rw[OT p1] at c;exact Cnt.off c m1 (by omega))
   have hm2:Hid ((rc s.l (pq s.l n)).s.size<=140737488355328):=aj (by omega);clear A1 A2 A3 A4 S2 Rm Rp Ro G0 G1 p1 p2 m1 m2 hs0;go_enter func147,ntmps147;go_wp2_with fail;refine(ah PT).mono ?_;rintro e w1 ⟨rfl,b1⟩;rw[ah HT];obtain⟨_,x0,x1,x2,x3,x4,x5,_⟩:=(ah HR).next b1;have B1:=aj (ak (ah Hb0) b1);have H1:=aj ((ah H0).below b1);have hB1:B<=w1.heap.size:=ajA hB (ah B1).size;clear b1;have P:=aj (acJ n (ah H1) (ah Hr) (ah hs) (ah HC).good iE hB1 (ah hm2) (ah hn1));go_wp2_with fail;refine(ah P).mono ?_;rintro e w2 ⟨rfl,m2⟩
   have M2:=aj m2;clear P m2 x0 x1 x2 x3 x4 x5;go_wp2_with fail;go_ret;refine⟨je (ah HT),?_⟩;rw[ah AA];exact Done.behind (ah B1) ⟨_,ah M2,ah CC⟩
  ·have AA:=aj (A3 rfl);have hf:=aj (Rp rfl);clear A1 A2 A3 A4 S2 Rm Rp Ro;go_enter func147,ntmps147;go_wp2_with fail;refine(ah PT).mono ?_;rintro e w1 ⟨rfl,b1⟩;rw[ah HT];obtain⟨_,x0,x1,x2,x3,x4,x5,_⟩:=(ah HR).next b1;have B1:=aj (ak (ah Hb0) b1);have H1:=aj ((ah H0).below b1);have hB1:B<=w1.heap.size:=ajA hB (ah B1).size;clear b1;have P:=aj (acL s' n (ah hf) hz (ah H1) (ah Hr) (ah HC) iE (ah HMs) hB1);go_wp2_with fail;refine(ah P).mono ?_;rintro e w2 ⟨rfl,m2⟩;have M2:=aj m2;clear P m2 x0 x1 x2 x3 x4 x5;go_wp2_with fail
   go_ret;refine⟨je (ah HT),?_⟩;rw[ah AA];exact Done.behind (ah B1) (ah M2)
  ·have AA:=aj (A4 rfl);clear A1 A2 A3 A4 S2 Rm Rp Ro;go_enter func147,ntmps147;go_wp2_with fail;refine(ah PT).mono ?_;rintro e w1 ⟨rfl,b1⟩;rw[ah HT];obtain⟨_,x0,x1,x2,x3,x4,x5,_⟩:=(ah HR).next b1;have B1:=aj (ak (ah Hb0) b1);have H1:=aj ((ah H0).below b1);have hB1:B<=w1.heap.size:=ajA hB (ah B1).size;clear b1;have k2:=(ah H1).c2;have kf:=(ah H1).free 2;have kl:=(ah H1).lt;have M2:=aj (Moves.number (ah H1) (max s.last n));go_wp2_with fail;go_region
   all_goals go_wp2_with fail
   all_goals go_ret
   all_goals refine⟨je (ah HT),?_⟩
   all_goals rw[ah AA]
   all_goals exact Done.behind (ah B1) ⟨es,(ah M2).drew,ah HC⟩
 ·have R:=aj (afk ht);obtain⟨E,hE⟩:∃E,E=fF s r:=⟨_,rfl⟩;rw[<-hE] at ht PT ⊢;clear hE h hb0 h0 hc hr;go_enter func147,ntmps147;go_wp2_with fail;refine(ah PT).mono ?_;rintro e w1 ⟨rfl,b1⟩;go_wp2_with fail;go_ret;refine⟨rfl,?_⟩;rw[ah R];exact Done.behind (ah Hb0) ⟨es,Moves.same (ah H0) b1,ah HC⟩
theorem QO (w:I) :
 Calls prog 169 #[] w λe w'=>e=.returned (.pointer (some ⟨w.heap.size,0,none⟩))/\oU w' w.heap.size w.heap.size (.slice none 0 0) (.slice none 0 0) [] [] 0/\ai w w':=by
 go_enter func169,ntmps169;go_wp2_with fail;go_ret;refine⟨rfl,⟨by simp,by simp,by simp,λj=>by simp,agH _,by simp,bI.empty _ _,mg.empty _ _,by simp[Value.ownBlock],by simp[Value.ownBlock],λg hg=>by simp[Value.ownBlock] at hg⟩,ax _ _⟩
theorem acO {w wr:I}{sv:Value}{l:List Rc}{k:Nat}(h:bI wr w.heap.size sv (l.take k))(hb:ai w wr)(hk:k<l.length)(iE:l.length<=200)(w5:I)(b5:ai wr w5) :
 ∃a' n' c' w',(Builtin.append_ #[41,41] 41 #[sv,.slice (some ⟨w5.heap.size,0,none⟩) 1 1]).run prog (w5.alloc (.cells #[aa (rc l k).k,aa (rc l k).q,aa (rc l k).t,.string (rc l k).s,.string (rc l k).h,.string (rc l k).d] 46))=.ok (.slice a' n' c') w'/\Hid (bI w' w.heap.size (.slice a' n' c') (l.take (k+1))/\ai w w'):=by
 have b4:ai w5 (w5.alloc (.cells #[aa (rc l k).k,aa (rc l k).q,aa (rc l k).t,.string (rc l k).s,.string (rc l k).h,.string (rc l k).d] 46)):=ax _ _;have h4:=(h.below b5).below b4;have hb4:=ak (ak hb b5) b4;obtain⟨v8,w8,hr,A8,C8,_⟩:=oq _ w.heap.size 41 sv _ [rc l k] h4 ⟨w5.heap.size,0,none⟩ 1 (DC w5 (rc l k)) (by rw[ajL];simp;omega) hb4.size;obtain⟨a',c',rfl,_⟩:=A8.shape;refine⟨a',_,c',w8,hr,aj ⟨?_,hb4.trans (C8.below hb4.size (λg hg z=>by have:=(h4.lt g z).1;omega))⟩⟩;rw[akc hk,<-bU hk]
 exact A8
theorem QS {w:I}{B q:Nat}{v u:Value}{l:List Rc}{last:Int}(h:oU w B q v u l es last)(iE:l.length<=200)(hm:∀x∈l,Small x) :
 Calls prog 36 #[ae q] w λe w'=>∃v',e=.returned v'/\bI w' w.heap.size v' l/\ai w w':=by
 obtain⟨a,cap,rfl,c1,c2,hsl⟩:=h.msgs.shape;have d0:=h.c0;have VO:=aj hsl;have HM:=aj hm;clear hsl hm h;go_enter func36,ntmps36;go_wp2_with fail;go_loopw [3,11] (λsv kv wr=>∃(k:Nat),kv=aa k/\k<=l.length/\Hid (bI wr w.heap.size sv (l.take k)/\ai w wr)) (λ_ kv _=>l.length-(intOf kv).toNat)
 case atStart=>exact⟨0,rfl,ajO _,aj ⟨bI.empty _ _,agP _ _⟩⟩
 case round =>
  clear d0;obtain⟨k,rfl,hk,HP⟩:=hrel;obtain⟨sa,sc,rfl,_⟩:=(ah HP).1.shape;by_cases hlt:k<l.length
  ·obtain⟨b,o,rfl,s6⟩:=ah VO k hlt;have s7:=s6.below (ah HP).2 s6.lt;have K2:=aj (acO (ah HP).1 (ah HP).2 hlt iE);have T:=aj (λX=>vX (rc l k) (ah HM _ (uj hlt)) X);obtain⟨sn,hsn⟩:∃sn,sn=(l.take k).length:=⟨_,rfl⟩;rw[<-hsn] at K2 ⊢;clear hsn;generalize rc l k=y at *;obtain⟨_,x0,x1,x2,x3,x4,x5⟩:=s7;have hb0:ai wr (wr.alloc (.cells #[aa y.k,aa y.q,aa y.t,.string y.s,.string y.h,.string y.d] 46)):=ax _ _;have Hb0:=aj hb0;clear hb0 s6;go_wp2_with fail;refine(ah T _).mono ?_;rintro e w5 ⟨rfl,b5⟩
   obtain⟨a',n',c',w6,hrun,P6⟩:=ah K2 w5 (ak (ah Hb0) b5);clear x0 x1 x2 x3 x4 x5 b5 T Hb0 K2;go_wp2_with (at_builtin;refine akA _ rfl _ _ _ _ rfl _ _ rfl rfl _ _ hrun ?_);refine⟨⟨k+1,by go_num,by omega,P6⟩,?_⟩;simp[intOf];omega
  ·obtain rfl:k=l.length:=by omega
   rw[akT] at HP ⊢;go_wp2_with fail;go_ret;exact⟨_,rfl,(ah HP).1,(ah HP).2⟩
theorem UK {l:List Rc}{k:Nat}(h:k<l.length):dG (l.take (k+1))=dG (l.take k)+((rc l k).s.size+(rc l k).h.size+(rc l k).d.size):=by
 rw[akc h,<-bU h,rE];rfl
theorem Zi {l:List Rc}(h:0<l.length):jE l=(rc l 0).q:=by
 cases l with
 | nil=>cases h
 | cons x l=>rfl
theorem QT (l:List Rc)(k:Nat):dG (l.take k)<=dG l:=by
 have:=rE (l.take k) (l.drop k);rw[akm] at this;omega
theorem QU {w:I}{B q:Nat}{v u:Value}{l:List Rc}{last:Int}(h:oU w B q v u l es last)(iE:l.length<=200)(hm:∀x∈l,x.s.size<=135/\x.h.size+x.d.size<=256) :
 Calls prog 100 #[ae q] w λe w'=>e=.returned (.agg #[aa (l.length:Int),aa (dG l:Int),aa (jE l),aa last])/\ai w w':=by
 obtain⟨a,cap,rfl,c1,c2,hsl⟩:=h.msgs.shape;have Di:=h.lt;have S0:=aj (SB.new w 0 0 0 0 182);have B0:=aj ((agP w.heap.size w).alloc (agH _) (.cells #[aa 0,aa 0,aa 0,aa 0] 182));have HC:=aj (And.intro h.c0 h.c2);have d0:(w.alloc (.cells #[aa 0,aa 0,aa 0,aa 0] 182)).cell? (aq q 0)=some (.slice a l.length cap):=by rw[(ah B0).cell (p:=aq q 0) Di];exact h.c0
 have d1:(w.alloc (.cells #[aa 0,aa 0,aa 0,aa 0] 182)).cell? (aq q 2)=some (aa last):=by rw[(ah B0).cell (p:=aq q 2) Di];exact h.c2
 have VO:=aj hsl;have HM:=aj hm;clear h hsl hm;go_enter func100,ntmps100;go_wp2_with fail;go_region
 have L0:Hid (SB ((w.alloc (.cells #[aa 0,aa 0,aa 0,aa 0] 182)).alloc (.cells #[aa (l.length:Int),aa 0,aa 0,aa last] 182)).drew w.heap.size 0 0 0 0/\SB ((w.alloc (.cells #[aa 0,aa 0,aa 0,aa 0] 182)).alloc (.cells #[aa (l.length:Int),aa 0,aa 0,aa last] 182)).drew (w.heap.size+1) (l.length:Int) 0 0 last/\ai w ((w.alloc (.cells #[aa 0,aa 0,aa 0,aa 0] 182)).alloc (.cells #[aa (l.length:Int),aa 0,aa 0,aa last] 182)).drew):=aj (by
  have x1:=SB.new (w.alloc (.cells #[aa 0,aa 0,aa 0,aa 0] 182)) (l.length:Int) 0 0 last 182;rw[alH] at x1;exact⟨((ah S0).alloc _).next (agP _ _).drew,x1.next (agP _ _).drew,(ak (ah B0) (ax _ _)).drew⟩)
 have e0:((w.alloc (.cells #[aa 0,aa 0,aa 0,aa 0] 182)).alloc (.cells #[aa (l.length:Int),aa 0,aa 0,aa last] 182)).drew.cell? (aq q 0)=some (.slice a l.length cap):=by rw[(ah L0).2.2.cell (p:=aq q 0) Di];exact(ah HC).1
 clear S0 B0 d0 d1;generalize ((w.alloc (.cells #[aa 0,aa 0,aa 0,aa 0] 182)).alloc (.cells #[aa (l.length:Int),aa 0,aa 0,aa last] 182)).drew=W0 at *;have hby:dG l<=78200:=by
  have:=OO (λr hr=>ah HM r hr);omega
 go_wp2_with fail;go_loopw [21] (λkv wr=>∃(k:Nat),kv=aa k/\k<=l.length/\Hid (SB wr w.heap.size 0 0 0 0/\SB wr (w.heap.size+1) (l.length:Int) (dG (l.take k):Int) 0 last/\ai w wr)) (λkv _=>l.length-(intOf kv).toNat)
 case atStart=>exact⟨0,rfl,ajO _,L0⟩
 case round =>
  clear L0 e0;obtain⟨k,rfl,hk,HP⟩:=hrel;have hob:=(ah HP).2.1.lt;by_cases hlt:k<l.length
  ·obtain⟨b,o,rfl,s6⟩:=ah VO k hlt;have s7:=s6.below (ah HP).2.2 s6.lt;have hb1:=UK hlt;have hb2:=QT l (k+1);generalize rc l k=y at *;obtain⟨_,x0,x1,x2,x3,x4,x5⟩:=s7;obtain⟨nb,hnb⟩:∃nb,nb=dG (l.take k):=⟨_,rfl⟩;obtain⟨q0,q1,q2,q3,qf⟩:=And.intro (ah HP).2.1.c0 (And.intro (ah HP).2.1.c1 (And.intro (ah HP).2.1.c2 (And.intro (ah HP).2.1.c3 ((ah HP).2.1.fr 1))));rw[<-hnb] at hb1 q1;have hne:¬w.heap.size+1=wr.heap.size:=by omega
   have hw1:IntKind.i64.wrap ((y.s.size:Int)+(y.h.size:Int))=(y.s.size:Int)+(y.h.size:Int):=by rw[akl];omega
   have hw2:IntKind.i64.wrap ((y.s.size:Int)+(y.h.size:Int)+(y.d.size:Int))=(y.s.size:Int)+(y.h.size:Int)+(y.d.size:Int):=by rw[akl];omega
   have hw3:IntKind.i64.wrap ((nb:Int)+((y.s.size:Int)+(y.h.size:Int)+(y.d.size:Int)))=(nb:Int)+((y.s.size:Int)+(y.h.size:Int)+(y.d.size:Int)):=by rw[akl];omega
   have HY:Hid (SB ((wr.setCell (aq (w.heap.size+1) 1) (aa ((nb:Int)+((y.s.size:Int)+(y.h.size:Int)+(y.d.size:Int))))).alloc (.cells #[aa y.k,aa y.q,aa y.t,.string y.s,.string y.h,.string y.d] 46)) w.heap.size 0 0 0 0/\SB ((wr.setCell (aq (w.heap.size+1) 1) (aa ((nb:Int)+((y.s.size:Int)+(y.h.size:Int)+(y.d.size:Int))))).alloc (.cells #[aa y.k,aa y.q,aa y.t,.string y.s,.string y.h,.string y.d] 46)) (w.heap.size+1) (l.length:Int) (dG (l.take (k+1)):Int) 0 last/\ai w ((wr.setCell (aq (w.heap.size+1) 1) (aa ((nb:Int)+((y.s.size:Int)+(y.h.size:Int)+(y.d.size:Int))))).alloc (.cells #[aa y.k,aa y.q,aa y.t,.string y.s,.string y.h,.string y.d] 46))):=aj (by
    have hbs:=(ah HP).2.2.setCell (p:=aq (w.heap.size+1) 1) (alE _) (aa ((nb:Int)+((y.s.size:Int)+(y.h.size:Int)+(y.d.size:Int))));refine⟨((ah HP).1.other (by omega)).alloc _,?_,hbs.alloc hbs.size _⟩;have:=((ah HP).2.1.set1 ((nb:Int)+((y.s.size:Int)+(y.h.size:Int)+(y.d.size:Int)))).alloc (.cells #[aa y.k,aa y.q,aa y.t,.string y.s,.string y.h,.string y.d] 46);rw[hb1,show((nb+(y.s.size+y.h.size+y.d.size):Nat):Int)=(nb:Int)+((y.s.size:Int)+(y.h.size:Int)+(y.d.size:Int)) by omega];exact this)
   clear hb1 hb2 hnb s6 q0 q2 q3;go_wp2_with fail;refine⟨⟨k+1,by go_num,by omega,HY⟩,?_⟩;simp[intOf];omega
  ·obtain rfl:k=l.length:=by omega
   rw[akT] at HP;have d0:=((ah HP).2.2.cell (p:=aq q 0) Di).trans (ah HC).1;obtain⟨_,q0,q1,q2,q3,qf⟩:=(ah HP).2.1;obtain⟨_,x0,x1,x2,x3,fz⟩:=(ah HP).1;have f0:=fz 0;have f1:=fz 1;have f2:=fz 2;have f3:=fz 3;clear fz hlt hk;obtain⟨N,hN⟩:∃N,N=l.length:=⟨_,rfl⟩;by_cases h0:0<l.length
   ·obtain⟨b,o,rfl,s6⟩:=ah VO 0 h0;have s7:=s6.below (ah HP).2.2 s6.lt;have z1:wr.cell? (aq b (o+1))=some (aa (jE l)):=by rw[Zi h0];simpa using s7.c1
    have g2:=qf 2;clear qf s6 s7;go_wp2_with fail;refine ajY (BI rfl rfl ((((((ah HP).1.other (c:=w.heap.size+1) (i:=2) (v:=aa (jE l)) (by omega)).set0 _).set1 _).set2 _).xq _)) rfl ?_;exact⟨rfl,(((((ah HP).2.2.setCell (p:=aq (w.heap.size+1) 2) (alE _) _).setCell (p:=aq w.heap.size 0) (agH _) _).setCell (p:=aq w.heap.size 1) (agH _) _).setCell (p:=aq w.heap.size 2) (agH _) _).setCell (p:=aq w.heap.size 3) (agH _) _⟩
   ·have e0:l=[]:=ajZ.1 (by omega);subst e0;clear qf;go_wp2_with fail;refine ajY (BI rfl rfl (((((ah HP).1.set0 _).set1 _).set2 _).xq _)) rfl ?_;exact⟨rfl,((((ah HP).2.2.setCell (p:=aq w.heap.size 0) (agH _) _).setCell (p:=aq w.heap.size 1) (agH _) _).setCell (p:=aq w.heap.size 2) (agH _) _).setCell (p:=aq w.heap.size 3) (agH _) _⟩
theorem afo {w:I}{B B':Nat}{v:Value}{l:List aS}(h:Go.Proofs.YtebofkkfbkodiaaGreatDoor.mg w B v l)(hB:B'<=B):Go.Proofs.YtebofkkfbkodiaaGreatDoor.mg w B' v l:=by
 refine⟨h.1,?_⟩;rcases h.2 with q|⟨g,cap,cur,h1,h2,r⟩
 ·exact .inl q
 ·exact .inr ⟨g,cap,cur,h1,ajA hB h2,r⟩
theorem rO.low {w:I}{B B' q:Nat}{F:af}{s:aH}(h:rO w B q F s)(hB:B'<=B):rO w B' q F s:=by
 obtain⟨v,u,es,h1,h2,h3⟩:=h;exact⟨v,u,es,⟨h1.c0,h1.c1,h1.c2,h1.free,ajA hB h1.base,h1.lt,h1.msgs.low hB,afo h1.cnts hB,h1.av,h1.au,h1.apart⟩,h2,h3⟩
theorem agB:eG rO where
 own:=λh=>h.own
 aF:=λh hc hn=>h.aF hc hn
 low:=λh hB=>h.low hB
 new:=λw=>(QO w).mono (by
  rintro e w' ⟨rfl,h,hb⟩;exact⟨_,_,rfl,⟨_,_,[],h,Cnt.nil,rfl⟩,hb⟩)
 tries:=λr hm h hk hB=>by
  obtain⟨v,u,es,h1,h2,rfl⟩:=h;exact Gu r hm h1 h2 hk
 apply:=λr hm h hk hB=>by
  obtain⟨v,u,es,h1,h2,rfl⟩:=h;refine(Gv r hm h1 h2 hk hB).mono ?_;rintro e w' ⟨he,es',m,c⟩;exact⟨he,rO.did m c⟩
 sees:={
  all:=λh hk hB=>by
   obtain⟨v,u,es,h1,h2,rfl⟩:=h;exact QS h1 hk.few (λx hx=>Small.of (hk.msg x hx).2)
  sums:=λh hk hB=>by
   obtain⟨v,u,es,h1,h2,rfl⟩:=h;exact QU h1 hk.few (λx hx=>hk.small hx)}
theorem acP {w:I}{B q:Nat}{v u:Value}{l:List Rc}{last:Int}(f:ad)(hf:f.size<=140737488355328)(h:oU w B q v u l es last)(hg:Go.Proofs.YtebofkkfbkodiaaGreatDoor.iC es) :
 Calls prog 183 #[ae q,.string f] w λe w'=>∃v',e=.returned (.tuple #[v',aa (aC true f)])/\mg w' w.heap.size v' (Lp es f)/\ai w w':=by
 go_enter func183,ntmps183;go_wp2_with fail;refine(acv B q u es f _ h.keeps hg hf).mono ?_;rintro e w1 ⟨v',rfl,a1,b1⟩;go_wp2_with fail;go_ret2;exact⟨v',rfl,a1,b1⟩
theorem acQ {w:I}{B q:Nat}{v u:Value}{l:List Rc}{last:Int}(n:Int)(h:oU w B q v u l es last)(hr:jI l)(iE:l.length<=200)(hm:∀x∈l,Small x) :
 Calls prog 110 #[ae q,aa n] w λe w'=>e=.returned (aep (AX l n))/\ai w w':=by
 have hb0:ai w (w.alloc (.cells #[aa 0,aa 0,aa 0,.string ⟨#[]⟩,.string ⟨#[]⟩,.string ⟨#[]⟩] 46)):=ax _ _;have h0:=h.below hb0;have PP:=aj (oJ n h0 hr iE);have Z0:=aj (RF.new w eU);have Hb0:=aj hb0
 cases hs:seqB l n with
 | false =>
  have R:=aj (get_none hs);rw[hs] at PP;clear hs h h0 hb0;go_enter func110,ntmps110;go_wp2_with fail;refine(ah PP).mono ?_;rintro e w1 ⟨rfl,b1⟩;have Z1:=aj ((ah Z0).next b1);obtain⟨_,y0,y1,y2,y3,y4,y5,g⟩:=(ah Z1).rb;have g0:=g 0;have g1:=g 1;have g2:=g 2;have g3:=g 3;have g4:=g 4;have g5:=g 5;have B1:=aj (ak (ah Hb0) b1);clear g b1 PP Z0 Hb0;go_wp2_with fail;refine ajY (eu rfl rfl ((ah Z1).rb.gG 0 0 0 ⟨#[]⟩ ⟨#[]⟩ ⟨#[]⟩)) rfl ?_;exact⟨by rw[ah R];rfl,eY (ah B1) (agH _)⟩
 | true =>
  have R:=aj (get_hit hr hs);obtain⟨p1,p2⟩:=zA hr hs;rw[hs] at PP;obtain⟨p,hp⟩:∃p,p=pq l n:=⟨_,rfl⟩;rw[<-hp] at p1 PP R;have T:=aj (λX=>vX (rc l p) (hm _ (uj p1)) X);obtain⟨g,cap,rfl,c1,c2,c3,c4⟩:=h.msgs.there (by omega);unfold maxLen at c2;have H0:=aj h0;clear hs h h0 hb0 hp p2 hm hr;go_enter func110,ntmps110;go_wp2_with fail;refine(ah PP).mono ?_;rintro e w1 ⟨rfl,b1⟩;have h1:=(ah H0).below b1;have d0:=h1.c0;have hq1:=h1.lt;obtain⟨hg1,x0,x1,x2,x3,x4,x5⟩:=h1.msgs.six p1;have Z1:=aj ((ah Z0).next b1);have B1:=aj (ak (ah Hb0) b1);clear b1 PP Z0 Hb0 h1 H0
  generalize rc l p=y at *;go_wp2_with fail;refine(ah T _).mono ?_;rintro e w2 ⟨rfl,b2⟩;have Z2:=aj ((ah Z1).next b2);obtain⟨_,y0,y1,y2,y3,y4,y5,gz⟩:=(ah Z2).rb;have g0:=gz 0;have g1:=gz 1;have g2:=gz 2;have g3:=gz 3;have g4:=gz 4;have g5:=gz 5;have B2:=aj (ak (ah B1) b2);clear gz b2 T Z1 B1 x0 x1 x2 x3 x4 x5 d0;go_wp2_with fail;refine ajY (eu rfl rfl ((ah Z2).rb.gG y.k y.q y.t y.s y.h y.d)) rfl ?_;exact⟨by rw[ah R];rfl,eY (ah B2) (agH _)⟩
