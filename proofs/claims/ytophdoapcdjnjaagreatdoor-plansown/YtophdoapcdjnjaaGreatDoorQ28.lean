/- A part. -/
import Derived.Test.YtophdoapcdjnjaaGreatDoorQ27
set_option maxRecDepth 100000
set_option maxHeartbeats 8000000
namespace Go.Proofs.YtophdoapcdjnjaaGreatDoor
open Go.RowKit Go.Proofs.Tryz
namespace Dk
structure RF (w:World)(b:Nat)(r:Rc):Prop where
 rb:RB w b r.k r.q r.t r.s r.h r.d
 fz:∀j,w.frozen? ⟨b,j,none⟩=false
theorem RF.next {w w':World}{b:Nat}{r:Rc}(h:RF w b r)(hb:Below w.heap.size w w'):RF w' b r:=⟨h.rb.next hb,λj=>(hb.frozen (p:=⟨b,j,none⟩) h.rb.lt).trans (h.fz j)⟩
theorem RF.new (w:World)(r:Rc):RF (w.alloc (.cells #[.int .i64 r.k,.int .i64 r.q,.int .i64 r.t,.string r.s,.string r.h,.string r.d] 45)) w.heap.size r:=⟨RB.new w _ _ _ _ _ _ _,λj=>by simp⟩
theorem RF.set {w:World}{b:Nat}{r r':Rc}(h:RF w b r)(p:Addr)(v:Value)(e:RB (w.setCell p v) b r'.k r'.q r'.t r'.s r'.h r'.d):RF (w.setCell p v) b r':=⟨e,λj=>by rw[World.frozen?_setCell];exact h.fz j⟩
theorem RF.other {w:World}{b c i:Nat}{r:Rc}{v:Value}(h:RF w b r)(hc:c≠b):RF (w.setCell ⟨c,i,none⟩ v) b r:=⟨h.rb.other hc,λj=>by rw[World.frozen?_setCell];exact h.fz j⟩
theorem CZ {fn:Func}{a:Tmp}{tmps:Array Value}{w:World}{b:Nat}{k q t:Int}{s h d:ByteArray}(hf:fn.results=#[.cell a 45])(ha:tmps.getD a undef=.pointer (some ⟨b,0,none⟩))(r:RB w b k q t s h d) :
 (results fn tmps).run prog w=.ok (.agg #[.int .i64 k,.int .i64 q,.int .i64 t,.string s,.string h,.string d]) w:=by
 have ha':tmps[a]?.getD undef=.pointer (some ⟨b,0,none⟩):=by simpa using ha
 simp[results,hf,ha',asAddr,qX r]
theorem oU (r:Rc)(hr:Small r)(w:World) :
 Calls prog 40 #[.agg #[.int .i64 r.k,.int .i64 r.q,.int .i64 r.t,.string r.s,.string r.h,.string r.d]] w λe w'=>e=.returned (.agg #[.int .i64 r.k,.int .i64 r.q,.int .i64 r.t,.string r.s,.string r.h,.string r.d])/\Below w.heap.size w w':=by
 obtain⟨W,hW⟩:∃W,W=(w.alloc (.cells #[.int .i64 r.k,.int .i64 r.q,.int .i64 r.t,.string r.s,.string r.h,.string r.d] 45)).alloc (.cells #[.int .i64 0,.int .i64 0,.int .i64 0,.string ⟨#[]⟩,.string ⟨#[]⟩,.string ⟨#[]⟩] 45):=⟨_,rfl⟩;have hb:Below w.heap.size w W:=by rw[hW];exact((Below.refl _ _).alloc (Nat.le_refl _) _).alloc (by simp) _
 have P0:RF W w.heap.size r:=by rw[hW];exact(RF.new w r).next ((Below.refl _ _).alloc (Nat.le_refl _) _)
 have Z0:RF W (w.heap.size+1) dH:=by
  have:=RF.new (w.alloc (.cells #[.int .i64 r.k,.int .i64 r.q,.int .i64 r.t,.string r.s,.string r.h,.string r.d] 45)) dH;rw[World.size_alloc] at this;rw[hW];exact this
 have C1:=aj (clone_any r.s W (by have:=hr.s;omega));have C2:Hid (∀X,Calls prog 57 #[.string r.h] X λe w'=>e=.returned (.string r.h)/\Below X.heap.size X w'):=aj (λX=>clone_any r.h X (by have:=hr.h;omega));have C3:Hid (∀X,Calls prog 57 #[.string r.d] X λe w'=>e=.returned (.string r.d)/\Below X.heap.size X w'):=aj (λX=>clone_any r.d X (by have:=hr.d;omega));go_enter func40,ntmps40;go_wp2_with fail;rw[<-hW];have HB0:=aj hb;have HZ0:=aj Z0;have HP0:=aj P0;clear hW hb Z0 P0;refine(ah C1).mono ?_;rintro e w1 ⟨rfl,b1⟩;have HB1:=aj (aA (ah HB0) b1)
 have P1:=(ah HP0).next b1;have Z1:=aj ((ah HZ0).next b1);have x3:=P1.rb.c3;have x4:=P1.rb.c4;have f3:=P1.fz 3;have Z9:=aj P1;clear b1 P1 HP0 HZ0 HB0 C1;go_wp2_with fail;have HB2:=aj ((ah HB1).setCell (p:=⟨w.heap.size,3,none⟩) (Nat.le_refl _) (.string r.s));have HP2:=aj ((ah Z9).set ⟨w.heap.size,3,none⟩ (.string r.s) (r':=r) ((ah Z9).rb.KC r.s));have Z2:=aj ((ah Z1).other (c:=w.heap.size) (i:=3) (v:=.string r.s) (by omega));clear Z9 HB1 Z1 x3 x4 f3;generalize w1.setCell ⟨w.heap.size,3,none⟩ (.string r.s)=w2 at *;refine(ah C2 _).mono ?_;rintro e w3 ⟨rfl,b3⟩
 have HB3:=aj (aA (ah HB2) b3);have P3:=(ah HP2).next b3;have Z3:=aj ((ah Z2).next b3);have x4:=P3.rb.c4;have x5:=P3.rb.c5;have f4:=P3.fz 4;have WG:=aj P3;clear b3 P3 HP2 Z2 HB2 C2;go_wp2_with fail;have HB4:=aj ((ah HB3).setCell (p:=⟨w.heap.size,4,none⟩) (Nat.le_refl _) (.string r.h));have HP4:=aj ((ah WG).set ⟨w.heap.size,4,none⟩ (.string r.h) (r':=r) ((ah WG).rb.VG r.h));have Z4:=aj ((ah Z3).other (c:=w.heap.size) (i:=4) (v:=.string r.h) (by omega));clear WG HB3 Z3 x4 x5 f4;generalize w3.setCell ⟨w.heap.size,4,none⟩ (.string r.h)=w4 at *;refine(ah C3 _).mono ?_
 rintro e w5 ⟨rfl,b5⟩;have HB5:=aj (aA (ah HB4) b5);have P5:=(ah HP4).next b5;have Z5:=(ah Z4).next b5;obtain⟨_,x0,x1,x2,x3,x4,x5⟩:=P5.rb;obtain⟨_,y0,y1,y2,y3,y4,y5⟩:=Z5.rb;have f5:=P5.fz 5;have g0:=Z5.fz 0;have g1:=Z5.fz 1;have g2:=Z5.fz 2;have g3:=Z5.fz 3;have g4:=Z5.fz 4;have g5:=Z5.fz 5;have HZ5:=aj Z5;clear b5 P5 Z5 HP4 Z4 HB4 C3;go_wp2_with fail;refine bodyPost_ret (CZ (b:=w.heap.size+1) rfl rfl (((((((((ah HZ5).other (c:=w.heap.size) (i:=5) (by omega)).rb.set0 r.k).set1 r.q).set2 r.t).KC r.s).VG r.h).XG r.d))) rfl ?_;exact⟨rfl,(((((((ah HB5).setCell (p:=⟨w.heap.size,5,none⟩) (Nat.le_refl _) _).setCell (p:=⟨w.heap.size+1,0,none⟩) (Nat.le_succ _) _).setCell (p:=⟨w.heap.size+1,1,none⟩) (Nat.le_succ _) _).setCell (p:=⟨w.heap.size+1,2,none⟩) (Nat.le_succ _) _).setCell (p:=⟨w.heap.size+1,3,none⟩) (Nat.le_succ _) _).setCell (p:=⟨w.heap.size+1,4,none⟩) (Nat.le_succ _) _).setCell (p:=⟨w.heap.size+1,5,none⟩) (Nat.le_succ _) _⟩
theorem mP {w:World}{B q:Nat}{v u:Value}{l:List Rc}{es:List aJ}{last:Int}(s:ByteArray)(h:kD w B q v u l es last)(hg:Go.Proofs.YtophdoapcdjnjaaGreatDoor.dW es)(hs:s.size<=140737488355328) :
 Calls prog 80 #[.pointer (some ⟨q,0,none⟩),.string s] w λe w'=>e=.returned (.int .i64 (iJ es s))/\Below w.heap.size w w':=by
 go_enter func80,ntmps80;go_wp2_with fail;refine(get_any B q u es s _ h.keeps hg hs).mono ?_;rintro e w1 ⟨rfl,hb⟩;go_wp2_with fail;go_ret;exact⟨rfl,hb⟩
theorem JV {w:World}{B q:Nat}{v u:Value}{l:List Rc}{es:List aJ}{last:Int}(s:ByteArray)(h:kD w B q v u l es last)(hg:Go.Proofs.YtophdoapcdjnjaaGreatDoor.dW es)(hs:s.size<=140737488355328)(hB:B<=w.heap.size)(hn:iJ es s<=200) :
 Calls prog 82 #[.pointer (some ⟨q,0,none⟩),.string s] w λe w'=>e=.returned (.tuple #[])/\Counts w w' B q v u l (GY es (iJ es s) s) last:=by
 have HH:=aj h;have HG:=aj hg;clear h hg;obtain⟨n,en⟩:∃n,n=iJ es s:=⟨_,rfl⟩;rw[<-en] at hn ⊢;have EN:=aj en;clear en;by_cases h1:1<n
 ·have hw:IntKind.i64.wrap (n-1)=n-1:=by rw[IntKind.wrap_i64];omega
  have HO:=aj (show GY es n s=lK es s (n-1) from if_pos h1);go_enter func82,ntmps82;go_wp2_with fail;refine(mP s (ah HH) (ah HG) hs).mono ?_;rintro e w1 ⟨rfl,hb⟩;rw[<-ah EN];have H1:=aj ((ah HH).below hb);have Hb:=aj hb;have P:=aj (yI B q u es s (n-1) w1 (ah H1).keeps (ah HG) hs (by have:=hb.size;omega));clear hb;go_wp2_with fail;refine(ah P).mono ?_;rintro e w2 ⟨rfl,h2⟩;have H2:=aj h2;clear h2;go_wp2_with fail;go_end0
  refine⟨rfl,?_⟩;rw[ah HO];exact Counts.behind (ah Hb) ((ah H1).upd (ah H2))
 ·have HO:=aj (show GY es n s=jU es s from if_neg h1);go_enter func82,ntmps82;go_wp2_with fail;refine(mP s (ah HH) (ah HG) hs).mono ?_;rintro e w1 ⟨rfl,hb⟩;rw[<-ah EN];have H1:=aj ((ah HH).below hb);have Hb:=aj hb;have P:=aj (Ai B q u es s w1 (ah H1).keeps (ah HG) hs);clear hb;go_wp2_with fail;refine(ah P).mono ?_;rintro e w2 ⟨rfl,h2⟩;have H2:=aj h2;clear h2;go_wp2_with fail;go_end0
  refine⟨rfl,?_⟩;rw[ah HO];exact Counts.behind (ah Hb) ((ah H1).upd (ah H2))
theorem Am (f:ByteArray)(r:Rc)(hf:f.size<=140737488355328)(hr:r.s.size<=140737488355328)(w:World) :
 Calls prog 84 #[.string f,.agg #[.int .i64 r.k,.int .i64 r.q,.int .i64 r.t,.string r.s,.string r.h,.string r.d]] w λe w'=>e=.returned (.bool (aI f r.s))/\Below w.heap.size w w':=by
 have hb0:Below w.heap.size w (w.alloc (.cells #[.int .i64 r.k,.int .i64 r.q,.int .i64 r.t,.string r.s,.string r.h,.string r.d] 45)):=(Below.refl _ _).alloc (Nat.le_refl _) _;have Hb0:=aj hb0;clear hb0;go_enter func84,ntmps84;go_wp2_with fail;refine(zI f r.s _ hf hr).mono ?_;rintro e w1 ⟨rfl,hb⟩;go_wp2_with fail;go_ret;exact⟨rfl,aA (ah Hb0) hb⟩
