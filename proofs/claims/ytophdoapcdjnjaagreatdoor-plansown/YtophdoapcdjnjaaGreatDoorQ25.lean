/- A part. -/
import Derived.Test.YtophdoapcdjnjaaGreatDoorQ6
import Derived.Test.YtophdoapcdjnjaaGreatDoorQ11
set_option maxRecDepth 100000
set_option maxHeartbeats 8000000
namespace Go.Proofs.YtophdoapcdjnjaaGreatDoor
open Go.RowKit Go.Proofs.Tryz
theorem pR {fn:Func}{t:Tmp}{tmps:Array Value}{w:World}{b:Nat}{n:ByteArray}{a:Option Addr}{l c:Nat}{x0 x1 x2 x3 x4 x5 x6 x7:Int}(hf:fn.results=#[.cell t 52])(ha:tmps.getD t undef=.pointer (some ⟨b,0,none⟩))(r:PB w b n a l c x0 x1 x2 x3 x4 x5 x6 x7) :
 (results fn tmps).run prog w=.ok (.agg #[.string n,.slice a l c,.int .i64 x0,.int .i64 x1,.int .i64 x2,.int .i64 x3,.int .i64 x4,.int .i64 x5,.int .i64 x6,.int .i64 x7]) w:=by
 have ha':tmps[t]?.getD undef=.pointer (some ⟨b,0,none⟩):=by simpa using ha
 simp[results,hf,ha',asAddr,zT r]
theorem yH {A:Nat->Prop}{b:Nat}(hA:A b){w:World}:∀(vs:List Value) (W:World) (o:Nat),Dk.aF A w W->Dk.aF A w (puts W b o vs)
 | [],_,_,h=>h
 | v::vs,_,o,h=>yH hA vs _ (o+1) (h.setCell (p:=⟨b,o,none⟩) (.inl hA) v)
theorem Qx {w:World}{B B':Nat}{v:Value}{l:List ByteArray}(h:bK w B v l)(hB:B'<=B):bK w B' v l:=by
 refine⟨h.1,?_⟩;rcases h.2 with q|⟨g,cap,cur,h1,h2,r⟩
 ·exact .inl q
 ·exact .inr ⟨g,cap,cur,h1,Nat.le_trans hB h2,r⟩
theorem UA {l:List ByteArray}{k:Nat}(h:k<l.length):l.take (k+1)=l.take k++[tk l k]:=by
 rw[List.take_succ_eq_append_getElem h];unfold tk;rw[List.getElem?_eq_getElem h];rfl
theorem PB.side {w:World}{b k j:Nat}{n:ByteArray}{a:Option Addr}{l c:Nat}{x0 x1 x2 x3 x4 x5 x6 x7:Int}(h:PB w b n a l c x0 x1 x2 x3 x4 x5 x6 x7)(hk:k≠b)(v:Value):PB (w.setCell ⟨k,j,none⟩ v) b n a l c x0 x1 x2 x3 x4 x5 x6 x7:=by
 have e:∀i,(w.setCell ⟨k,j,none⟩ v).cell? ⟨b,i,none⟩=w.cell? ⟨b,i,none⟩:=λi=>World.cell?_setCell_other _ _ _ _ (by intro z;injection z;omega)
 exact⟨by have:=h.lt;simpa[World.setCell] using this,(e 0).trans h.c0,(e 1).trans h.c1,(e 2).trans h.c2,(e 3).trans h.c3,(e 4).trans h.c4,(e 5).trans h.c5,(e 6).trans h.c6,(e 7).trans h.c7,(e 8).trans h.c8,(e 9).trans h.c9⟩
theorem MV (n:ByteArray)(a:Option Addr)(l:List ByteArray)(c:Nat)(x0 x1 x2 x3 x4 x5 x6 x7:Int)(w:World)(hn:n.size<=140737488355328)(hsl:jg w a l)(hz:∀k,k<l.length->(tk l k).size<=140737488355328)(hl:l.length<=100) :
 Calls prog 45 #[uN n a l.length c x0 x1 x2 x3 x4 x5 x6 x7] w λe w'=>∃a' c',e=.returned (uN n a' l.length c' x0 x1 x2 x3 x4 x5 x6 x7)/\bK w' w.heap.size (.slice a' l.length c') l/\Below w.heap.size w w':=by
 obtain⟨W,hW⟩:∃W,W=(w.alloc (.cells #[.string n,.slice a l.length c,.int .i64 x0,.int .i64 x1,.int .i64 x2,.int .i64 x3,.int .i64 x4,.int .i64 x5,.int .i64 x6,.int .i64 x7] 52)).alloc (.cells #[.string ⟨#[]⟩,.slice none 0 0,.int .i64 0,.int .i64 0,.int .i64 0,.int .i64 0,.int .i64 0,.int .i64 0,.int .i64 0,.int .i64 0] 52):=⟨_,rfl⟩;have hs1:(w.alloc (.cells #[.string n,.slice a l.length c,.int .i64 x0,.int .i64 x1,.int .i64 x2,.int .i64 x3,.int .i64 x4,.int .i64 x5,.int .i64 x6,.int .i64 x7] 52)).heap.size=w.heap.size+1:=by simp
 have hsz:W.heap.size=w.heap.size+2:=by rw[hW];simp
 have hb:Below w.heap.size w W:=by rw[hW];exact((Below.refl _ _).alloc (Nat.le_refl _) _).alloc (by simp) _
 have hb1:Below (w.alloc (.cells #[.string n,.slice a l.length c,.int .i64 x0,.int .i64 x1,.int .i64 x2,.int .i64 x3,.int .i64 x4,.int .i64 x5,.int .i64 x6,.int .i64 x7] 52)).heap.size (w.alloc (.cells #[.string n,.slice a l.length c,.int .i64 x0,.int .i64 x1,.int .i64 x2,.int .i64 x3,.int .i64 x4,.int .i64 x5,.int .i64 x6,.int .i64 x7] 52)) W:=by rw[hW];exact(Below.refl _ _).alloc (Nat.le_refl _) _
 have p0:=(PB.new w n a l.length c x0 x1 x2 x3 x4 x5 x6 x7 52).next hb1;have p1:PB W (w.heap.size+1) ⟨#[]⟩ none 0 0 0 0 0 0 0 0 0 0:=by
  have:=PB.new (w.alloc (.cells #[.string n,.slice a l.length c,.int .i64 x0,.int .i64 x1,.int .i64 x2,.int .i64 x3,.int .i64 x4,.int .i64 x5,.int .i64 x6,.int .i64 x7] 52)) ⟨#[]⟩ none 0 0 0 0 0 0 0 0 0 0 52;rw[<-hW,hs1] at this;exact this
 have f0:∀j,W.frozen? ⟨w.heap.size,j,none⟩=false:=λj=>by
  rw[hb1.frozen (p:=⟨w.heap.size,j,none⟩) (by simp)];exact World.frozen?_alloc_new _ _ _ j
 have f1:∀j,W.frozen? ⟨w.heap.size+1,j,none⟩=false:=λj=>by
  rw[hW,<-hs1];exact World.frozen?_alloc_new _ _ _ j
 have HP:Hid (∀W2,Below W.heap.size W W2->PB W2 w.heap.size n a l.length c x0 x1 x2 x3 x4 x5 x6 x7/\PB W2 (w.heap.size+1) ⟨#[]⟩ none 0 0 0 0 0 0 0 0 0 0/\(∀j,W2.frozen? ⟨w.heap.size,j,none⟩=false)/\(∀j,W2.frozen? ⟨w.heap.size+1,j,none⟩=false)/\jg W2 a l/\Below w.heap.size w W2):=aj (λW2 h2=>⟨p0.next h2,p1.next h2,λj=>(h2.frozen (p:=⟨w.heap.size,j,none⟩) p0.lt).trans (f0 j),λj=>(h2.frozen (p:=⟨w.heap.size+1,j,none⟩) p1.lt).trans (f1 j),(hsl.next hb).next h2,aA hb h2⟩);have d1:=p0.c1;have HZ:=aj hz;have aax:W.heap.size<=W.heap.size:=Nat.le_refl _;have X0:Hid (bK W W.heap.size (.slice none 0 0) (l.take 0)/\Below W.heap.size W W):=aj ⟨bK.nil W _,Below.refl _ _⟩
 have Yt:Hid (∀(t:ByteArray) (X:World),t.size<=140737488355328->Calls prog 57 #[.string t] X λe w'=>e=.returned (.string t)/\Below X.heap.size X w'):=aj (λt X ht=>clone_any t X (by omega));clear hsl hz p0 p1 f0 f1 hb hb1 hs1;go_enter func45,ntmps45;go_wp2_with fail;rw[<-hW];clear hW;go_loopw [3,9] (λsv iv wr=>∃(k:Nat),iv=.int .i64 k/\k<=l.length/\Hid (bK wr W.heap.size sv (l.take k)/\Below W.heap.size W wr)) (λ_ iv _=>l.length-(intOf iv).toNat)
 case atStart=>exact⟨0,rfl,Nat.zero_le _,X0⟩
 case round =>
  clear X0;obtain⟨k,rfl,hk,X⟩:=hrel;by_cases hlt:k<l.length
  ·obtain⟨_,_,_,_,q4,_⟩:=ah HP wr (ah X).2;obtain⟨ba,o,rfl,hba,hcell⟩:=q4 k hlt;obtain⟨av,cv,hv,hcv,_⟩:=(ah X).1.shape;rw[List.length_take,Nat.min_eq_left hk] at hv hcv;have ht:=UA hlt;have PC:=aj (ah Yt (tk l k) wr (ah HZ k hlt));generalize tk l k=t at *;have HT:=aj ht;subst hv;clear q4 ht;go_wp2_with fail;refine(ah PC).mono ?_;rintro e w1 ⟨rfl,b1⟩;have X1:Hid (bK w1 W.heap.size (.slice av k cv) (l.take k)/\Below W.heap.size W w1):=aj ⟨(ah X).1.below b1,(ah X).2.trans (b1.mono (ah X).2.size)⟩;obtain⟨v8,w8,hrun,T8,B8⟩:=Qb (ah X1).1 (ah X1).2 t (by rw[List.length_take];omega) (ah X1).2.size
   have Uz:=aj hrun;have X8:Hid (bK w8 W.heap.size v8 (l.take (k+1))/\Below W.heap.size W w8):=aj ⟨by rw[ah HT];exact T8,B8⟩;clear PC b1 X X1 hrun T8 B8 HT hcell;go_wp2_with (at_builtin;refine Lib.wpList_append_run _ rfl _ _ _ _ rfl _ _ rfl rfl _ _ (ah Uz) ?_);refine⟨⟨k+1,by go_num,by omega,X8⟩,?_⟩;simp[intOf];omega
  ·obtain rfl:k=l.length:=by omega
   have X2:Hid (bK wr W.heap.size u3 l/\Below W.heap.size W wr):=aj (by have:=ah X;rwa [List.take_length] at this);obtain⟨av,cv,hv,hcv,_⟩:=(ah X2).1.shape;have n0:=(ah HP wr (ah X2).2).1.c0;have PC:=aj (ah Yt n wr hn);subst hv;clear X hlt;go_wp2_with fail;refine(ah PC).mono ?_;rintro e w1 ⟨rfl,b1⟩;have X3:Hid (bK w1 W.heap.size (.slice av l.length cv) l/\Below W.heap.size W w1):=aj ⟨(ah X2).1.below b1,(ah X2).2.trans (b1.mono (ah X2).2.size)⟩;obtain⟨pa,pb,g0,g1,_,bw⟩:=ah HP w1 (ah X3).2;have PA:=aj pa;have PB':=aj pb;have BW:=aj bw;have G0:=aj g0
   have G1:=aj g1;obtain⟨la,a0,a1,a2,a3,a4,a5,a6,a7,a8,a9⟩:=pa;obtain⟨lb,c0,c1,c2,c3,c4,c5,c6,c7,c8,c9⟩:=pb;have s0:=g0 0;have s1:=g0 1;have t0:=g1 0;have t1:=g1 1;have t2:=g1 2;have t3:=g1 3;have t4:=g1 4;have t5:=g1 5;have t6:=g1 6;have t7:=g1 7;have t8:=g1 8;have t9:=g1 9;have hne:w.heap.size≠w.heap.size+1:=by omega
   clear PC b1 X2 n0 g0 g1 bw;go_wp2_with fail;have hfin:=(((ah PB').side (k:=w.heap.size) (j:=0) (by omega) (.string n)).side (k:=w.heap.size) (j:=1) (by omega) (.slice av l.length cv)).puts n av l.length cv x0 x1 x2 x3 x4 x5 x6 x7;(try simp only[Exit.inBlock,Exit.then])
   refine bodyPost_ret (pR (b:=w.heap.size+1) rfl rfl hfin) rfl ?_;refine⟨av,cv,rfl,?_,?_⟩
   ·refine Qx (bK.bW (A:=λk=>k=w.heap.size\/k=w.heap.size+1) (ah X3).1 (yH (b:=w.heap.size+1) (.inr rfl) [.string n,.slice av l.length cv,.int .i64 x0,.int .i64 x1,.int .i64 x2,.int .i64 x3,.int .i64 x4,.int .i64 x5,.int .i64 x6,.int .i64 x7] _ 0 (((Dk.aF.refl _ _).setCell (p:=⟨w.heap.size,0,none⟩) (.inl (.inl rfl)) _).setCell (p:=⟨w.heap.size,1,none⟩) (.inl (.inl rfl)) _)) (λg hg z=>by omega)) (by omega)
   ·exact qc (b:=w.heap.size+1) (by omega) [.string n,.slice av l.length cv,.int .i64 x0,.int .i64 x1,.int .i64 x2,.int .i64 x3,.int .i64 x4,.int .i64 x5,.int .i64 x6,.int .i64 x7] _ 0 (((ah BW).setCell (p:=⟨w.heap.size,0,none⟩) (Nat.le_refl _) _).setCell (p:=⟨w.heap.size,1,none⟩) (Nat.le_refl _) _)
