/- A part. -/
import Derived.Test.YtebofkkfbkodiaaGreatDoorQ13
import Derived.Test.YtebofkkfbkodiaaGreatDoorQ14
set_option maxRecDepth 100000
set_option maxHeartbeats 8000000
namespace Go.Proofs.YtebofkkfbkodiaaGreatDoor
open Go.RowKit Go.Proofs.Tryz
variable {w:I}{b c k l:Nat}{n:ad}{a:Option Addr}{x0 x1 x2 x3 x4 x5 x6 x7:Int}
theorem wQ {fn:Func}{t:Tmp}{tmps:Array Value}(hf:fn.results=#[.cell t 80])(ha:tmps.getD t undef=ae b)(r:PB w b n a l c x0 x1 x2 x3 x4 x5 x6 x7) :
 (results fn tmps).run prog w=.ok (.agg #[.string n,.slice a l c,aa x0,aa x1,aa x2,aa x3,aa x4,aa x5,aa x6,aa x7]) w:=by
 have ha':tmps[t]?.getD undef=ae b:=by simpa using ha
 simp[results,hf,ha',asAddr,Ji r]
theorem FX {A:af}{b:Nat}(hA:A b){w:I}:∀(vs:List Value) (W:I) (o:Nat),Dk.aA A w W->Dk.aA A w (puts W b o vs)
 | [],_,_,h=>h
 | v::vs,_,o,h=>FX hA vs _ (o+1) (h.setCell (p:=aq b o) (.inl hA) v)
theorem Qq {B B':Nat}{v:Value}{l:List ad}(h:jK w B v l)(hB:B'<=B):jK w B' v l:=by
 refine⟨h.1,?_⟩;rcases h.2 with q|⟨g,cap,cur,h1,h2,r⟩
 ·exact .inl q
 ·exact .inr ⟨g,cap,cur,h1,ajA hB h2,r⟩
theorem aeZ {l:List ad}(h:k<l.length):l.take (k+1)=l.take k++[tk l k]:=by
 rw[akc h];unfold tk;rw[ajC h];rfl
theorem PB.side {j:Nat}(h:PB w b n a l c x0 x1 x2 x3 x4 x5 x6 x7)(hk:k≠b)(v:Value):PB (w.setCell (aq k j) v) b n a l c x0 x1 x2 x3 x4 x5 x6 x7:=by
 have e:∀i,(w.setCell (aq k j) v).cell? (aq b i)=w.cell? (aq b i):=λi=>ajD _ _ _ _ (by intro z;injection z;omega)
 exact⟨by have:=h.lt;simpa[World.setCell] using this,(e 0).trans h.c0,(e 1).trans h.c1,(e 2).trans h.c2,(e 3).trans h.c3,(e 4).trans h.c4,(e 5).trans h.c5,(e 6).trans h.c6,(e 7).trans h.c7,(e 8).trans h.c8,(e 9).trans h.c9⟩
theorem YK (n:ad)(a:Option Addr)(l:List ad)(c:Nat)(x0 x1 x2 x3 x4 x5 x6 x7:Int)(w:I)(hn:n.size<=140737488355328)(hsl:gU w a l)(hz:∀k,k<l.length->(tk l k).size<=140737488355328)(hl:l.length<=100) :
 Calls prog 63 #[BQ n a l.length c x0 x1 x2 x3 x4 x5 x6 x7] w λe w'=>∃a' c',e=.returned (BQ n a' l.length c' x0 x1 x2 x3 x4 x5 x6 x7)/\jK w' w.heap.size (.slice a' l.length c') l/\ai w w':=by
 obtain⟨W,hW⟩:∃W,W=(w.alloc (.cells #[.string n,.slice a l.length c,aa x0,aa x1,aa x2,aa x3,aa x4,aa x5,aa x6,aa x7] 80)).alloc (.cells #[.string ⟨#[]⟩,.slice none 0 0,aa 0,aa 0,aa 0,aa 0,aa 0,aa 0,aa 0,aa 0] 80):=⟨_,rfl⟩;have hs1:(w.alloc (.cells #[.string n,.slice a l.length c,aa x0,aa x1,aa x2,aa x3,aa x4,aa x5,aa x6,aa x7] 80)).heap.size=w.heap.size+1:=by simp
 have hsz:W.heap.size=w.heap.size+2:=by rw[hW];simp
 have hb:ai w W:=by rw[hW];exact(ax _ _).alloc (by simp) _
 have hb1:Below (w.alloc (.cells #[.string n,.slice a l.length c,aa x0,aa x1,aa x2,aa x3,aa x4,aa x5,aa x6,aa x7] 80)).heap.size (w.alloc (.cells #[.string n,.slice a l.length c,aa x0,aa x1,aa x2,aa x3,aa x4,aa x5,aa x6,aa x7] 80)) W:=by rw[hW];exact ax _ _
 have p0:=(PB.new w n a l.length c x0 x1 x2 x3 x4 x5 x6 x7 80).next hb1;have p1:PB W (w.heap.size+1) ⟨#[]⟩ none 0 0 0 0 0 0 0 0 0 0:=by
  have:=PB.new (w.alloc (.cells #[.string n,.slice a l.length c,aa x0,aa x1,aa x2,aa x3,aa x4,aa x5,aa x6,aa x7] 80)) ⟨#[]⟩ none 0 0 0 0 0 0 0 0 0 0 80;rw[<-hW,hs1] at this;exact this
 have f0:∀j,W.frozen? (aq w.heap.size j)=false:=λj=>by
  rw[hb1.frozen (p:=aq w.heap.size j) (by simp)];exact akp _ _ _ j
 have f1:∀j,W.frozen? (aq (w.heap.size+1) j)=false:=λj=>by
  rw[hW,<-hs1];exact akp _ _ _ j
 have HP:Hid (∀W2,ai W W2->PB W2 w.heap.size n a l.length c x0 x1 x2 x3 x4 x5 x6 x7/\PB W2 (w.heap.size+1) ⟨#[]⟩ none 0 0 0 0 0 0 0 0 0 0/\(∀j,W2.frozen? (aq w.heap.size j)=false)/\(∀j,W2.frozen? (aq (w.heap.size+1) j)=false)/\gU W2 a l/\ai w W2):=aj (λW2 h2=>⟨p0.next h2,p1.next h2,λj=>(h2.frozen (p:=aq w.heap.size j) p0.lt).trans (f0 j),λj=>(h2.frozen (p:=aq (w.heap.size+1) j) p1.lt).trans (f1 j),(hsl.next hb).next h2,ak hb h2⟩);have d1:=p0.c1;have HZ:=aj hz;have ajk:W.heap.size<=W.heap.size:=agH _;have X0:Hid (jK W W.heap.size (.slice none 0 0) (l.take 0)/\ai W W):=aj ⟨jK.nil W _,agP _ _⟩
 have PCl:Hid (∀(t:ad) (X:I),t.size<=140737488355328->Calls prog 108 #[.string t] X λe w'=>e=.returned (.string t)/\ai X w'):=aj (λt X ht=>clone_any t X (by omega));clear hsl hz p0 p1 f0 f1 hb hb1 hs1;go_enter func63,ntmps63;go_wp2_with fail;rw[<-hW];clear hW;go_loopw [3,9] (λsv iv wr=>∃(k:Nat),iv=aa k/\k<=l.length/\Hid (jK wr W.heap.size sv (l.take k)/\ai W wr)) (λ_ iv _=>l.length-(intOf iv).toNat)
 case atStart=>exact⟨0,rfl,ajO _,X0⟩
 case round =>
  clear X0;obtain⟨k,rfl,hk,X⟩:=hrel;by_cases hlt:k<l.length
  ·obtain⟨_,_,_,_,q4,_⟩:=ah HP wr (ah X).2;obtain⟨ba,o,rfl,hba,hcell⟩:=q4 k hlt;obtain⟨av,cv,hv,hcv,_⟩:=(ah X).1.shape;rw[ajL,amC hk] at hv hcv;have ht:=aeZ hlt;have PC:=aj (ah PCl (tk l k) wr (ah HZ k hlt));generalize tk l k=t at *;have HT:=aj ht;subst hv;clear q4 ht;go_wp2_with fail;refine(ah PC).mono ?_;rintro e w1 ⟨rfl,b1⟩;have X1:Hid (jK w1 W.heap.size (.slice av k cv) (l.take k)/\ai W w1):=aj ⟨(ah X).1.below b1,(ah X).2.trans (b1.mono (ah X).2.size)⟩;obtain⟨v8,w8,hrun,T8,B8⟩:=OZ (ah X1).1 (ah X1).2 t (by rw[ajL];omega) (ah X1).2.size
   have qO:=aj hrun;have X8:Hid (jK w8 W.heap.size v8 (l.take (k+1))/\ai W w8):=aj ⟨by rw[ah HT];exact T8,B8⟩;clear PC b1 X X1 hrun T8 B8 HT hcell;go_wp2_with (at_builtin;refine akA _ rfl _ _ _ _ rfl _ _ rfl rfl _ _ (ah qO) ?_);refine⟨⟨k+1,by go_num,by omega,X8⟩,?_⟩;simp[intOf];omega
  ·obtain rfl:k=l.length:=by omega
   have X2:Hid (jK wr W.heap.size u3 l/\ai W wr):=aj (by have:=ah X;rwa [akT] at this);obtain⟨av,cv,hv,hcv,_⟩:=(ah X2).1.shape;have n0:=(ah HP wr (ah X2).2).1.c0;have PC:=aj (ah PCl n wr hn);subst hv;clear X hlt;go_wp2_with fail;refine(ah PC).mono ?_;rintro e w1 ⟨rfl,b1⟩;have X3:Hid (jK w1 W.heap.size (.slice av l.length cv) l/\ai W w1):=aj ⟨(ah X2).1.below b1,(ah X2).2.trans (b1.mono (ah X2).2.size)⟩;obtain⟨pa,pb,g0,g1,_,bw⟩:=ah HP w1 (ah X3).2;have PA:=aj pa;have PB':=aj pb;have BW:=aj bw;have G0:=aj g0
   have G1:=aj g1;obtain⟨la,a0,a1,a2,a3,a4,a5,a6,a7,a8,a9⟩:=pa;obtain⟨lb,c0,c1,c2,c3,c4,c5,c6,c7,c8,c9⟩:=pb;have s0:=g0 0;have s1:=g0 1;have t0:=g1 0;have t1:=g1 1;have t2:=g1 2;have t3:=g1 3;have t4:=g1 4;have t5:=g1 5;have t6:=g1 6;have t7:=g1 7;have t8:=g1 8;have t9:=g1 9;have hne:w.heap.size≠w.heap.size+1:=by omega
   clear PC b1 X2 n0 g0 g1 bw;go_wp2_with fail;have hfin:=(((ah PB').side (k:=w.heap.size) (j:=0) (by omega) (.string n)).side (k:=w.heap.size) (j:=1) (by omega) (.slice av l.length cv)).puts n av l.length cv x0 x1 x2 x3 x4 x5 x6 x7;(try simp only[Exit.inBlock,Exit.then])
   refine ajY (wQ (b:=w.heap.size+1) rfl rfl hfin) rfl ?_;refine⟨av,cv,rfl,?_,?_⟩
   ·refine Qq (jK.aF (A:=λk=>k=w.heap.size\/k=w.heap.size+1) (ah X3).1 (FX (b:=w.heap.size+1) (.inr rfl) [.string n,.slice av l.length cv,aa x0,aa x1,aa x2,aa x3,aa x4,aa x5,aa x6,aa x7] _ 0 (((Dk.aA.refl _ _).setCell (p:=aq w.heap.size 0) (.inl (.inl rfl)) _).setCell (p:=aq w.heap.size 1) (.inl (.inl rfl)) _)) (λg hg z=>by omega)) (by omega)
   ·exact dA (b:=w.heap.size+1) (by omega) [.string n,.slice av l.length cv,aa x0,aa x1,aa x2,aa x3,aa x4,aa x5,aa x6,aa x7] _ 0 (((ah BW).setCell (p:=aq w.heap.size 0) (agH _) _).setCell (p:=aq w.heap.size 1) (agH _) _)
