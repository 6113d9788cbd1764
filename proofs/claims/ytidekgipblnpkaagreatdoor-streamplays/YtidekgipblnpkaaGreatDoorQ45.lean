/- A part. -/
import Derived.Test.YtidekgipblnpkaaGreatDoorQ26
import Derived.Test.YtidekgipblnpkaaGreatDoorQ38
set_option maxRecDepth 100000
set_option maxHeartbeats 8000000
namespace Go.Proofs.YtidekgipblnpkaaGreatDoor
open Go.RowKit Go.Proofs.Tryz
theorem yB {fn:Func}{t:Tmp}{tmps:Array Value}{w:World}{b:Nat}{n:ByteArray}{a:Option Addr}{l c:Nat}{x0 x1 x2 x3 x4 x5 x6 x7:Int}(hf:fn.results=#[.cell t 24])(ha:tmps.getD t undef=.pointer (some ⟨b,0,none⟩))(r:PB w b n a l c x0 x1 x2 x3 x4 x5 x6 x7) :
 (results fn tmps).run prog w=.ok (.agg #[.string n,.slice a l c,.int .i64 x0,.int .i64 x1,.int .i64 x2,.int .i64 x3,.int .i64 x4,.int .i64 x5,.int .i64 x6,.int .i64 x7]) w:=by
 have ha':tmps[t]?.getD undef=.pointer (some ⟨b,0,none⟩):=by simpa using ha
 simp[results,hf,ha',asAddr,ZG r]
theorem J9 {A:Nat->Prop}{b:Nat}(hA:A b){w:World}:∀(vs:List Value) (W:World) (o:Nat),Dk.aH A w W->Dk.aH A w (Gy W b o vs)
 | [],_,_,h=>h
 | v::vs,_,o,h=>J9 hA vs _ (o+1) (h.setCell (p:=⟨b,o,none⟩) (.inl hA) v)
theorem Ul {w:World}{B B':Nat}{v:Value}{l:List ByteArray}(h:kF w B v l)(hB:B'<=B):kF w B' v l:=by
 refine⟨h.1,?_⟩;rcases h.2 with q|⟨g,cap,cur,h1,h2,r⟩
 ·exact .inl q
 ·exact .inr ⟨g,cap,cur,h1,aje hB h2,r⟩
theorem aga {l:List ByteArray}{k:Nat}(h:k<l.length):l.take (k+1)=l.take k++[tk l k]:=by
 rw[ajo h];unfold tk;rw[ajl h];rfl
theorem PB.side {w:World}{b k j:Nat}{n:ByteArray}{a:Option Addr}{l c:Nat}{x0 x1 x2 x3 x4 x5 x6 x7:Int}(h:PB w b n a l c x0 x1 x2 x3 x4 x5 x6 x7)(hk:k≠b)(v:Value):PB (w.setCell ⟨k,j,none⟩ v) b n a l c x0 x1 x2 x3 x4 x5 x6 x7:=by
 have e:∀i,(w.setCell ⟨k,j,none⟩ v).cell? ⟨b,i,none⟩=w.cell? ⟨b,i,none⟩:=λi=>aji _ _ _ _ (by intro z;injection z;omega)
 exact⟨by have:=h.lt;simpa[World.setCell] using this,(e 0).trans h.c0,(e 1).trans h.c1,(e 2).trans h.c2,(e 3).trans h.c3,(e 4).trans h.c4,(e 5).trans h.c5,(e 6).trans h.c6,(e 7).trans h.c7,(e 8).trans h.c8,(e 9).trans h.c9⟩
theorem aaT (n:ByteArray)(a:Option Addr)(l:List ByteArray)(c:Nat)(x0 x1 x2 x3 x4 x5 x6 x7:Int)(w:World)(hn:n.size<=140737488355328)(hsl:nZ w a l)(hz:∀k,k<l.length->(tk l k).size<=140737488355328)(hl:l.length<=100) :
 Calls prog 26 #[rU n a l.length c x0 x1 x2 x3 x4 x5 x6 x7] w λe w'=>∃a' c',e=.returned (rU n a' l.length c' x0 x1 x2 x3 x4 x5 x6 x7)/\kF w' w.heap.size (.slice a' l.length c') l/\Below w.heap.size w w':=by
 obtain⟨W,hW⟩:∃W,W=(w.alloc (.cells #[.string n,.slice a l.length c,.int .i64 x0,.int .i64 x1,.int .i64 x2,.int .i64 x3,.int .i64 x4,.int .i64 x5,.int .i64 x6,.int .i64 x7] 24)).alloc (.cells #[.string ⟨#[]⟩,.slice none 0 0,.int .i64 0,.int .i64 0,.int .i64 0,.int .i64 0,.int .i64 0,.int .i64 0,.int .i64 0,.int .i64 0] 24):=⟨_,rfl⟩;have hs1:(w.alloc (.cells #[.string n,.slice a l.length c,.int .i64 x0,.int .i64 x1,.int .i64 x2,.int .i64 x3,.int .i64 x4,.int .i64 x5,.int .i64 x6,.int .i64 x7] 24)).heap.size=w.heap.size+1:=by simp
 have hsz:W.heap.size=w.heap.size+2:=by rw[hW];simp
 have hb:Below w.heap.size w W:=by rw[hW];exact((ajb _ _).alloc (Xc _) _).alloc (by simp) _
 have hb1:Below (w.alloc (.cells #[.string n,.slice a l.length c,.int .i64 x0,.int .i64 x1,.int .i64 x2,.int .i64 x3,.int .i64 x4,.int .i64 x5,.int .i64 x6,.int .i64 x7] 24)).heap.size (w.alloc (.cells #[.string n,.slice a l.length c,.int .i64 x0,.int .i64 x1,.int .i64 x2,.int .i64 x3,.int .i64 x4,.int .i64 x5,.int .i64 x6,.int .i64 x7] 24)) W:=by rw[hW];exact(ajb _ _).alloc (Xc _) _
 have p0:=(PB.new w n a l.length c x0 x1 x2 x3 x4 x5 x6 x7 24).next hb1;have p1:PB W (w.heap.size+1) ⟨#[]⟩ none 0 0 0 0 0 0 0 0 0 0:=by
  have:=PB.new (w.alloc (.cells #[.string n,.slice a l.length c,.int .i64 x0,.int .i64 x1,.int .i64 x2,.int .i64 x3,.int .i64 x4,.int .i64 x5,.int .i64 x6,.int .i64 x7] 24)) ⟨#[]⟩ none 0 0 0 0 0 0 0 0 0 0 24;rw[<-hW,hs1] at this;exact this
 have f0:∀j,W.frozen? ⟨w.heap.size,j,none⟩=false:=λj=>by
  rw[hb1.frozen (p:=⟨w.heap.size,j,none⟩) (by simp)];exact akf _ _ _ j
 have f1:∀j,W.frozen? ⟨w.heap.size+1,j,none⟩=false:=λj=>by
  rw[hW,<-hs1];exact akf _ _ _ j
 have HP:Hid (∀W2,Below W.heap.size W W2->PB W2 w.heap.size n a l.length c x0 x1 x2 x3 x4 x5 x6 x7/\PB W2 (w.heap.size+1) ⟨#[]⟩ none 0 0 0 0 0 0 0 0 0 0/\(∀j,W2.frozen? ⟨w.heap.size,j,none⟩=false)/\(∀j,W2.frozen? ⟨w.heap.size+1,j,none⟩=false)/\nZ W2 a l/\Below w.heap.size w W2):=aj (λW2 h2=>⟨p0.next h2,p1.next h2,λj=>(h2.frozen (p:=⟨w.heap.size,j,none⟩) p0.lt).trans (f0 j),λj=>(h2.frozen (p:=⟨w.heap.size+1,j,none⟩) p1.lt).trans (f1 j),(hsl.next hb).next h2,ak hb h2⟩);have d1:=p0.c1;have HZ:=aj hz;have ai8:W.heap.size<=W.heap.size:=Xc _;have X0:Hid (kF W W.heap.size (.slice none 0 0) (l.take 0)/\Below W.heap.size W W):=aj ⟨kF.nil W _,ajb _ _⟩
 have PCl:Hid (∀(t:ByteArray) (X:World),t.size<=140737488355328->Calls prog 67 #[.string t] X λe w'=>e=.returned (.string t)/\Below X.heap.size X w'):=aj (λt X ht=>mW t X (by omega));clear hsl hz p0 p1 f0 f1 hb hb1 hs1;go_enter func26,ntmps26;go_wp2_with fail;rw[<-hW];clear hW;go_loopw [3,9] (λsv iv wr=>∃(k:Nat),iv=.int .i64 k/\k<=l.length/\Hid (kF wr W.heap.size sv (l.take k)/\Below W.heap.size W wr)) (λ_ iv _=>l.length-(intOf iv).toNat)
 case atStart=>exact⟨0,rfl,ajm _,X0⟩
 case round =>
  clear X0;obtain⟨k,rfl,hk,X⟩:=hrel;by_cases hlt:k<l.length
  ·obtain⟨_,_,_,_,q4,_⟩:=ah HP wr (ah X).2;obtain⟨ba,o,rfl,hba,hcell⟩:=q4 k hlt;obtain⟨av,cv,hv,hcv,_⟩:=(ah X).1.shape;rw[ajn,amE hk] at hv hcv;have ht:=aga hlt;have PC:=aj (ah PCl (tk l k) wr (ah HZ k hlt));generalize tk l k=t at *;have HT:=aj ht;subst hv;clear q4 ht;go_wp2_with fail;refine(ah PC).mono ?_;rintro e w1 ⟨rfl,b1⟩;have X1:Hid (kF w1 W.heap.size (.slice av k cv) (l.take k)/\Below W.heap.size W w1):=aj ⟨(ah X).1.below b1,(ah X).2.trans (b1.mono (ah X).2.size)⟩;obtain⟨v8,w8,hrun,T8,B8⟩:=acF (ah X1).1 (ah X1).2 t (by rw[ajn];omega) (ah X1).2.size
   have nU:=aj hrun;have X8:Hid (kF w8 W.heap.size v8 (l.take (k+1))/\Below W.heap.size W w8):=aj ⟨by rw[ah HT];exact T8,B8⟩;clear PC b1 X X1 hrun T8 B8 HT hcell;go_wp2_with (at_builtin;refine ajy _ rfl _ _ _ _ rfl _ _ rfl rfl _ _ (ah nU) ?_);refine⟨⟨k+1,by go_num,by omega,X8⟩,?_⟩;simp[intOf];omega
  ·obtain rfl:k=l.length:=by omega
   have X2:Hid (kF wr W.heap.size u3 l/\Below W.heap.size W wr):=aj (by have:=ah X;rwa [ajN] at this);obtain⟨av,cv,hv,hcv,_⟩:=(ah X2).1.shape;have n0:=(ah HP wr (ah X2).2).1.c0;have PC:=aj (ah PCl n wr hn);subst hv;clear X hlt;go_wp2_with fail;refine(ah PC).mono ?_;rintro e w1 ⟨rfl,b1⟩;have X3:Hid (kF w1 W.heap.size (.slice av l.length cv) l/\Below W.heap.size W w1):=aj ⟨(ah X2).1.below b1,(ah X2).2.trans (b1.mono (ah X2).2.size)⟩;obtain⟨pa,pb,g0,g1,_,bw⟩:=ah HP w1 (ah X3).2;have PA:=aj pa;have PB':=aj pb;have BW:=aj bw;have G0:=aj g0
   have G1:=aj g1;obtain⟨la,a0,a1,a2,a3,a4,a5,a6,a7,a8,a9⟩:=pa;obtain⟨lb,c0,c1,c2,c3,c4,c5,c6,c7,c8,c9⟩:=pb;have s0:=g0 0;have s1:=g0 1;have t0:=g1 0;have t1:=g1 1;have t2:=g1 2;have t3:=g1 3;have t4:=g1 4;have t5:=g1 5;have t6:=g1 6;have t7:=g1 7;have t8:=g1 8;have t9:=g1 9;have hne:w.heap.size≠w.heap.size+1:=by omega
   clear PC b1 X2 n0 g0 g1 bw;go_wp2_with fail;have hfin:=(((ah PB').side (k:=w.heap.size) (j:=0) (by omega) (.string n)).side (k:=w.heap.size) (j:=1) (by omega) (.slice av l.length cv)).Gy n av l.length cv x0 x1 x2 x3 x4 x5 x6 x7;(try simp only[Exit.inBlock,Exit.then])
   refine ajJ (yB (b:=w.heap.size+1) rfl rfl hfin) rfl ?_;refine⟨av,cv,rfl,?_,?_⟩
   ·refine Ul (kF.bZ (A:=λk=>k=w.heap.size\/k=w.heap.size+1) (ah X3).1 (J9 (b:=w.heap.size+1) (.inr rfl) [.string n,.slice av l.length cv,.int .i64 x0,.int .i64 x1,.int .i64 x2,.int .i64 x3,.int .i64 x4,.int .i64 x5,.int .i64 x6,.int .i64 x7] _ 0 (((Dk.aH.refl _ _).setCell (p:=⟨w.heap.size,0,none⟩) (.inl (.inl rfl)) _).setCell (p:=⟨w.heap.size,1,none⟩) (.inl (.inl rfl)) _)) (λg hg z=>by omega)) (by omega)
   ·exact yD (b:=w.heap.size+1) (by omega) [.string n,.slice av l.length cv,.int .i64 x0,.int .i64 x1,.int .i64 x2,.int .i64 x3,.int .i64 x4,.int .i64 x5,.int .i64 x6,.int .i64 x7] _ 0 (((ah BW).setCell (p:=⟨w.heap.size,0,none⟩) (Xc _) _).setCell (p:=⟨w.heap.size,1,none⟩) (Xc _) _)
namespace Dk
theorem aaU {v:List Int}(h:v.length=8):v=[nth v 0,nth v 1,nth v 2,nth v 3,nth v 4,nth v 5,nth v 6,nth v 7]:=by
 match v,h with
 | [_,_,_,_,_,_,_,_],_=>rfl
abbrev plO (P:Pn.cu)(a:Option Addr)(c:Nat):Obj:=.cells #[.string P.n,.slice a P.f.length c,.int .i64 (nth P.v 0),.int .i64 (nth P.v 1),.int .i64 (nth P.v 2),.int .i64 (nth P.v 3),.int .i64 (nth P.v 4),.int .i64 (nth P.v 5),.int .i64 (nth P.v 6),.int .i64 (nth P.v 7)] 24
theorem yR (P:Pn.cu)(a:Option Addr)(c:Nat)(w:World)(hs:kM P)(hsl:nZ w a P.f)(hc:P.f.length<=c)(hG:uT w) :
 Calls prog 24 #[Jh P a c] w λe w'=>e=.returned (.int .i64 (Pn.dG P))/\Below w.heap.size w w':=by
 have h:=Tq P.n a P.f c (nth P.v 0) (nth P.v 1) (nth P.v 2) (nth P.v 3) (nth P.v 4) (nth P.v 5) (nth P.v 6) (nth P.v 7) w hs.name hsl hs.each hs.many hc hG;rw[<-aaU hs.nums] at h;exact h
theorem NG (P:Pn.cu)(a:Option Addr)(c:Nat)(w:World)(hs:kM P)(hsl:nZ w a P.f)(hl:P.f.length<=100) :
 Calls prog 26 #[Jh P a c] w λe w'=>∃a' c',e=.returned (Jh P a' c')/\kF w' w.heap.size (.slice a' P.f.length c') P.f/\Below w.heap.size w w' :=
 aaT P.n a P.f c (nth P.v 0) (nth P.v 1) (nth P.v 2) (nth P.v 3) (nth P.v 4) (nth P.v 5) (nth P.v 6) (nth P.v 7) w hs.name hsl hs.each hl
abbrev P9 (b:Nat)(P:Pn.cu)(a:Option Addr)(c:Nat)(v q g k:Nat)(size:Int)(w:World):Prop :=
 (w.cell? ⟨b,0,none⟩=some (.string P.n)/\w.cell? ⟨b,1,none⟩=some (.slice a P.f.length c)/\w.cell? ⟨b,2,none⟩=some (.int .i64 (nth P.v 0))/\w.cell? ⟨b,3,none⟩=some (.int .i64 (nth P.v 1))/\w.cell? ⟨b,4,none⟩=some (.int .i64 (nth P.v 2))/\w.cell? ⟨b,5,none⟩=some (.int .i64 (nth P.v 3))/\w.cell? ⟨b,6,none⟩=some (.int .i64 (nth P.v 4))/\w.cell? ⟨b,7,none⟩=some (.int .i64 (nth P.v 5))/\w.cell? ⟨b,8,none⟩=some (.int .i64 (nth P.v 6))/\w.cell? ⟨b,9,none⟩=some (.int .i64 (nth P.v 7))) /\
 w.cell? ⟨v,0,none⟩=some (.pointer (some ⟨q,0,none⟩))/\w.cell? ⟨v,1,none⟩=some (.int .i64 size)/\w.cell? ⟨v,2,none⟩=some (.pointer (some ⟨g,0,none⟩))/\w.cell? ⟨v,3,none⟩=some (.pointer (some ⟨k,0,none⟩))
theorem aie {b:Nat}{P:Pn.cu}{a:Option Addr}{c v q g k:Nat}{size:Int}{w:World}(h:PBx w b P a c)(h0:w.cell? ⟨v,0,none⟩=some (.pointer (some ⟨q,0,none⟩)))(h1:w.cell? ⟨v,1,none⟩=some (.int .i64 size))(h2:w.cell? ⟨v,2,none⟩=some (.pointer (some ⟨g,0,none⟩)))(h3:w.cell? ⟨v,3,none⟩=some (.pointer (some ⟨k,0,none⟩))):P9 b P a c v q g k size w:=⟨⟨h.c0,h.c1,h.c2,h.c3,h.c4,h.c5,h.c6,h.c7,h.c8,h.c9⟩,h0,h1,h2,h3⟩
theorem P9.alloc {b:Nat}{P:Pn.cu}{a:Option Addr}{c v q g k:Nat}{size:Int}{w:World}{o:Obj}(h:P9 b P a c v q g k size w)(hb:b<w.heap.size)(hv:v<w.heap.size):P9 b P a c v q g k size (w.alloc o):=by
 have e:∀i,(w.alloc o).cell? ⟨b,i,none⟩=w.cell? ⟨b,i,none⟩:=λi=>akz _ _ _ hb
 have f:∀i,(w.alloc o).cell? ⟨v,i,none⟩=w.cell? ⟨v,i,none⟩:=λi=>akz _ _ _ hv
 unfold P9;rw[e,e,e,e,e,e,e,e,e,e,f,f,f,f];exact h
section
variable {Has:World->Nat->Nat->(Nat->Prop)->Int->List ay->Prop}{SH:World->Nat->Nat->(Nat->Prop)->aJ->Prop}{w W:World}{B x v q g k:Nat}{FL G:Nat->Prop}{a:Option Addr}{c:Nat}{P:Pn.cu}{m size:Int}
theorem ahr (U:vC Has SH)(hs:kM P)(hB:B<=W.heap.size)(hv:Va Has SH W B v 0 q g k FL G m size [] ⟨[],0⟩)(ht:kF W B (.slice a P.f.length c) P.f)(hn:∀z,a=some z->¬vaF v FL G z.block/\z.block<W.heap.size) :
 TA Has SH (W.alloc (.cells #[.string P.n,.slice a P.f.length c,.int .i64 (nth P.v 0),.int .i64 (nth P.v 1),.int .i64 (nth P.v 2),.int .i64 (nth P.v 3),.int .i64 (nth P.v 4),.int .i64 (nth P.v 5),.int .i64 (nth P.v 6),.int .i64 (nth P.v 7),.pointer (some ⟨q,0,none⟩),.int .i64 size,.pointer (some ⟨g,0,none⟩),.pointer (some ⟨k,0,none⟩),.map none] 88)) B W.heap.size (vaF W.heap.size FL G) a c none P m size su:=by
 obtain⟨o,ho⟩:∃o,o=Obj.cells #[.string P.n,.slice a P.f.length c,.int .i64 (nth P.v 0),.int .i64 (nth P.v 1),.int .i64 (nth P.v 2),.int .i64 (nth P.v 3),.int .i64 (nth P.v 4),.int .i64 (nth P.v 5),.int .i64 (nth P.v 6),.int .i64 (nth P.v 7),.pointer (some ⟨q,0,none⟩),.int .i64 size,.pointer (some ⟨g,0,none⟩),.pointer (some ⟨k,0,none⟩),.map none] 88:=⟨_,rfl⟩;have bb:Below W.heap.size W (W.alloc o):=(ajb _ _).alloc (Xc _) _;have hsz:(W.alloc o).heap.size=W.heap.size+1:=by simp
 have hnew:∀j u,#[Value.string P.n,.slice a P.f.length c,.int .i64 (nth P.v 0),.int .i64 (nth P.v 1),.int .i64 (nth P.v 2),.int .i64 (nth P.v 3),.int .i64 (nth P.v 4),.int .i64 (nth P.v 5),.int .i64 (nth P.v 6),.int .i64 (nth P.v 7),.pointer (some ⟨q,0,none⟩),.int .i64 size,.pointer (some ⟨g,0,none⟩),.pointer (some ⟨k,0,none⟩),.map none][j]?=some u->(W.alloc o).cell? ⟨W.heap.size,j,none⟩=some u:=λj u hu=>by
  rw[ho];exact(ajY _ W.heap.size j _ _ _ (ajF W _)).trans hu
 have hfr:∀j,(W.alloc o).frozen? ⟨W.heap.size,j,none⟩=false:=λj=>by
  rw[ho];exact akf _ _ _ j
 have hv':=hv.below U.H U.S bb;have hlo:∀i,vaF v FL G i->i<W.heap.size:=λi hi=>(hv.own U.H U.S i hi).2
 rw[<-ho];obtain⟨a',c',hac,hcap,hsl⟩:=(ht.below bb).shape;have aif:=ajO hac;have ea:a'=a:=aif.1.symm;have ec:c'=c:=aif.2.2.symm;subst ea ec;have e:jC P su.ids=[]:=by unfold jC su;split<;>rfl
 have hvh:pG Has SH 10 (W.alloc o) B W.heap.size (vaF W.heap.size FL G) m size su.es su.s:=⟨q,g,k,FL,G,⟨hv'.log,hv'.jL,hB,by omega,hnew 10 _ rfl,hnew 11 _ rfl,hnew 12 _ rfl,hnew 13 _ rfl,hfr,hv'.ap,(λz=>by have:=hlo _ (.inr (.inl z));omega),(λz=>by have:=hlo _ (.inr (.inr z));omega)⟩,λ_=>amq⟩;refine⟨hvh,⟨by omega,hnew 0 _ rfl,hnew 1 _ rfl,hnew 2 _ rfl,hnew 3 _ rfl,hnew 4 _ rfl,hnew 5 _ rfl,hnew 6 _ rfl,hnew 7 _ rfl,hnew 8 _ rfl,hnew 9 _ rfl⟩,hnew 14 _ rfl,hsl,λz hz=>⟨?_,?_,λy=>?_⟩,hcap,by rw[e];exact uH.none _,λb hb=>(by cases hb),by rw[e];exact sH.nil,?_,hs⟩
 ·exact(ajz ht z.block (by rw[hz];rfl)).1
 ·have:=(hn z hz).2;omega
 ·rcases y with y|y
  ·have:=(hn z hz).2;omega
  ·exact(hn z hz).1 (.inr y)
 ·show((0:Nat):Int)<=0;simp
end
section
variable {Has:World->Nat->Nat->(Nat->Prop)->Int->List ay->Prop}{SH:World->Nat->Nat->(Nat->Prop)->aJ->Prop}
theorem Xh (w:World)(P:Pn.cu)(a:Option Addr)(c:Nat)(m size:Int)(hs:kM P)(hsl:nZ w a P.f)(hc:P.f.length<=c)(hG:uT w)(hp:Pn.dG P≠0) :
 Calls prog 9 #[Jh P a c,.int .i64 m,.int .i64 size] w λe w'=>e=.returned (.tuple #[.pointer none,.int .i64 (Pn.dG P)])/\Below w.heap.size w w':=by
 have b0:Below w.heap.size w (w.alloc (plO P a c)):=(ajb _ _).alloc (Xc _) _;have P1:=aj (yR P a c (w.alloc (plO P a c)) hs (hsl.next b0) hc (hG.next b0));obtain⟨_,c0,c1,c2,c3,c4,c5,c6,c7,c8,c9⟩:=PB.new w P.n a P.f.length c (nth P.v 0) (nth P.v 1) (nth P.v 2) (nth P.v 3) (nth P.v 4) (nth P.v 5) (nth P.v 6) (nth P.v 7) 24;have B0:=aj b0;unfold Jh at P1 ⊢;generalize Pn.dG P=E at *;have e5:(E !=0)=true:=by simpa using hp
 clear hs hsl hc hG hp b0;go_enter func9,ntmps9;go_wp2_with fail;refine(ah P1).mono ?_;rintro e w1 ⟨rfl,b1⟩;have B1:=aj (ak (ah B0) b1);clear P1 b1 c0 c1 c2 c3 c4 c5 c6 c7 c8 c9;go_wp2_with fail;go_ret2;exact⟨rfl,ah B1⟩
theorem aee (N:YU Has)(w:World)(P:Pn.cu)(a:Option Addr)(c:Nat)(m size:Int)(hs:kM P)(hsl:nZ w a P.f)(hc:P.f.length<=c)(hG:uT w)(hp:Pn.dG P=0)(hb:(dn m 1 65536&&dn size 1 4096)=false) :
 Calls prog 9 #[Jh P a c,.int .i64 m,.int .i64 size] w λe w'=>e=.returned (.tuple #[.pointer none,.int .i64 1])/\Below w.heap.size w w':=by
 have b0:Below w.heap.size w (w.alloc (plO P a c)):=(ajb _ _).alloc (Xc _) _;have P1:=aj (yR P a c (w.alloc (plO P a c)) hs (hsl.next b0) hc (hG.next b0));have P2:=aj (λW=>adE N W m size hb);obtain⟨_,c0,c1,c2,c3,c4,c5,c6,c7,c8,c9⟩:=PB.new w P.n a P.f.length c (nth P.v 0) (nth P.v 1) (nth P.v 2) (nth P.v 3) (nth P.v 4) (nth P.v 5) (nth P.v 6) (nth P.v 7) 24;have B0:=aj b0;unfold Jh at P1 ⊢;rw[hp] at P1;clear hs hsl hc hG hp hb b0;go_enter func9,ntmps9;go_wp2_with fail;refine(ah P1).mono ?_;rintro e w1 ⟨rfl,b1⟩;have B1:=aj (ak (ah B0) b1)
 clear P1 b1 c0 c1 c2 c3 c4 c5 c6 c7 c8 c9;go_wp2_with fail;refine(ah P2 _).mono ?_;rintro e w2 ⟨rfl,b2⟩;have B2:=aj (ak (ah B1) b2);clear P2 b2;go_wp2_with fail;go_ret2;exact⟨rfl,ah B2⟩
theorem aaV (U:vC Has SH)(N:YU Has)(w:World)(P:Pn.cu)(a:Option Addr)(c:Nat)(m size:Int)(hs:kM P)(hsl:nZ w a P.f)(hc:P.f.length<=c)(hG:uT w)(hp:Pn.dG P=0)(hm:dn m 1 65536=true)(hz:dn size 1 4096=true) :
 Calls prog 9 #[Jh P a c,.int .i64 m,.int .i64 size] w λe w'=>∃p F B0,e=.returned (.tuple #[.pointer (some ⟨p,0,none⟩),.int .i64 0])/\(w.heap.size<=B0/\B0<=w'.heap.size/\TD Has SH w' B0 p F P m size su)/\Below w.heap.size w w':=by
 have b0:Below w.heap.size w (w.alloc (plO P a c)):=(ajb _ _).alloc (Xc _) _;have P1:=aj (yR P a c (w.alloc (plO P a c)) hs (hsl.next b0) hc (hG.next b0));have P2:=aj (λW=>aas U.H N U.L U.S W m size hm hz);have hl:P.f.length<=100:=by
  have:=(Pn.tV hp).2.1;omega
 have pb:=PB.new w P.n a P.f.length c (nth P.v 0) (nth P.v 1) (nth P.v 2) (nth P.v 3) (nth P.v 4) (nth P.v 5) (nth P.v 6) (nth P.v 7) 24;have HP:Hid (∀W,Below (w.alloc (plO P a c)).heap.size (w.alloc (plO P a c)) W->PBx W w.heap.size P a c/\nZ W a P.f/\Below w.heap.size w W):=aj (λW hW=>⟨pb.next hW,(hsl.next b0).next hW,ak b0 hW⟩);have PC:=aj (λ(W:World) (h:nZ W a P.f)=>NG P a c W hs h hl);obtain⟨_,c0,c1,c2,c3,c4,c5,c6,c7,c8,c9⟩:=pb;have HS:=aj hs;rw[hp] at P1;unfold Jh at P1 PC ⊢;clear hs hsl hc hG hp hm hz b0;go_enter func9,ntmps9;go_wp2_with fail;refine(ah P1).mono ?_
 rintro e w1 ⟨rfl,b1⟩;have B1:=aj b1;clear P1 b1 c0 c1 c2 c3 c4 c5 c6 c7 c8 c9;go_wp2_with fail;refine(ah P2 w1).mono ?_;rintro e w2 ⟨v,F,rfl,⟨q,g,k,FL,G,hv,hF⟩,b2⟩;have B2:=aj (ak (ah B1) b2);have hd:Below w2.heap.size w2 w2.drew:=(ajb _ _).drew;have B3:=aj (ak (ah B2) hd);obtain⟨p3,s3,_⟩:=ah HP _ (ah B3);have V3:=aj (hv.below U.H U.S hd);have k3:P9 w.heap.size P a c v q g k size w2.drew:=aie p3 (ah V3).c0 (ah V3).c1 (ah V3).c2 (ah V3).c3;have P3:=aj (ah PC _ s3);have aiS:=b2.size;have hvl:=hv.lt;clear P2 b2 hd p3 s3 hv hF PC;go_wp2_with fail
 go_region_held3 (P9 w.heap.size P a c v q g k size) (first|with_reducible assumption|exact P9.alloc k4 h4a h4b)
  (first
   | (go_at_call 26;refine(ah P3).mono ?_;rintro e w4 ⟨a4,c4,rfl,t4,b4⟩;have B4:=aj (ak (ah B3) b4);have V4:=aj ((ah V3).below U.H U.S b4);have k4:P9 w.heap.size P a c v q g k size w4:=aie (ah HP _ (ah B4)).1 (ah V4).c0 (ah V4).c1 (ah V4).c2 (ah V4).c3;have T4:=aj t4;have BB4:=aj b4;have h4a:w.heap.size<w4.heap.size:=(ah HP _ (ah B4)).1.lt;have h4b:v<w4.heap.size:=(ah V4).lt;clear t4 b4))
 have hle:w1.heap.size<=w2.drew.heap.size:=aiS;have hl4:=(ah BB4).size;have ht:=ah T4;have sm:=ahr U (ah HS) (B:=w1.heap.size) (aje hle hl4) (ah V4) (Ul ht hle) (λz hz=>by
  have h1:=ajz ht z.block (by rw[hz];rfl);refine⟨λy=>?_,h1.2⟩;have h2:=((ah V3).own U.H U.S _ y).2;omega)
 have HE:=aj (show ∃F,TD Has SH _ w1.heap.size w4.heap.size F P m size su from⟨_,_,a4,c4,none,sm,λk=>amq⟩);have HB:=aj (ak (ah HP _ (ah B4)).2.2 ((ajb w4.heap.size w4).alloc (Xc _) (.cells #[.string P.n,.slice a4 P.f.length c4,.int .i64 (nth P.v 0),.int .i64 (nth P.v 1),.int .i64 (nth P.v 2),.int .i64 (nth P.v 3),.int .i64 (nth P.v 4),.int .i64 (nth P.v 5),.int .i64 (nth P.v 6),.int .i64 (nth P.v 7),.pointer (some ⟨q,0,none⟩),.int .i64 size,.pointer (some ⟨g,0,none⟩),.pointer (some ⟨k,0,none⟩),.map none] 88)));have HL:=aj (show w.heap.size<=w1.heap.size/\w1.heap.size<=w4.heap.size+1 from⟨(ah HP _ (ah B1)).2.2.size,by omega⟩)
 clear k3 k4 P3 V3 V4 T4 BB4 hle hl4 ht sm h4a h4b;go_wp2_with fail;go_ret2;obtain⟨F5,h5⟩:=ah HE;exact⟨w4.heap.size,F5,w1.heap.size,rfl,⟨(ah HL).1,by simpa using (ah HL).2,h5⟩,ah HB⟩
end
