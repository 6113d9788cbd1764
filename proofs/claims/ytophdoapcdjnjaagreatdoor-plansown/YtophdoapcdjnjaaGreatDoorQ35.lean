/- A part. -/
import Derived.Test.YtophdoapcdjnjaaGreatDoorQ8
import Derived.Test.YtophdoapcdjnjaaGreatDoorQ16
import Derived.Test.YtophdoapcdjnjaaGreatDoorQ26
import Derived.Test.YtophdoapcdjnjaaGreatDoorQ33
set_option maxRecDepth 100000
set_option maxHeartbeats 8000000
namespace Go.Proofs.YtophdoapcdjnjaaGreatDoor
open Go.RowKit Go.Proofs.Tryz
namespace Dk
structure vZ (wc:World)(P:Pn.dN)(t:Tk.bM)(b5 b6:Nat)(S I:Option (Nat×Nat))(s5 s6:Bool)(W:World):Prop where
 ch:aF (λk=>k=b5\/k=b6) wc W
 i5:∃v,W.cell? ⟨b5,1,none⟩=some v
 i6:∃v,W.cell? ⟨b6,6,none⟩=some v
 f5:W.frozen? ⟨b5,1,none⟩=false
 f6:W.frozen? ⟨b6,6,none⟩=false
 o5:∀i,i≠1->W.cell? ⟨b5,i,none⟩=wc.cell? ⟨b5,i,none⟩
 o6:∀i,i≠6->W.cell? ⟨b6,i,none⟩=wc.cell? ⟨b6,i,none⟩
 S:∀g cap,S=some (g,cap)->bK W wc.heap.size (.slice (some ⟨g,0,none⟩) (P.f.length+2) cap) (P.f++[⟨#[113]⟩,⟨#[113]⟩])/\P.f.length+2<=cap/\(s5=true->W.cell? ⟨b5,1,none⟩=some (.slice (some ⟨g,0,none⟩) P.f.length cap))
 I:∀g cap,I=some (g,cap)->Nums W wc.heap.size (.slice (some ⟨g,0,none⟩) (t.bo.length+2) cap) (t.bo++[77,77])/\t.bo.length+2<=cap/\(s6=true->W.cell? ⟨b6,6,none⟩=some (.slice (some ⟨g,0,none⟩) t.bo.length cap))
section
variable {wc W W':World}{P:Pn.dN}{t:Tk.bM}{b5 b6:Nat}{S I:Option (Nat×Nat)}{s5 s6:Bool}{g cap:Nat}
theorem bK.low {w:World}{B B':Nat}{v:Value}{l:List ByteArray}(h:bK w B v l)(hB:B'<=B):bK w B' v l:=by
 refine⟨h.1,?_⟩;rcases h.2 with q|⟨g,cap,cur,h1,h2,h3⟩
 ·exact .inl q
 ·exact .inr ⟨g,cap,cur,h1,Nat.le_trans hB h2,h3⟩
theorem vZ.below (h:vZ wc P t b5 b6 S I s5 s6 W)(hb:Below W.heap.size W W')(h5:b5<wc.heap.size)(h6:b6<wc.heap.size):vZ wc P t b5 b6 S I s5 s6 W':=by
 have e5:∀i,W'.cell? ⟨b5,i,none⟩=W.cell? ⟨b5,i,none⟩:=λi=>hb.cell (p:=⟨b5,i,none⟩) (Nat.lt_of_lt_of_le h5 h.ch.size)
 have e6:∀i,W'.cell? ⟨b6,i,none⟩=W.cell? ⟨b6,i,none⟩:=λi=>hb.cell (p:=⟨b6,i,none⟩) (Nat.lt_of_lt_of_le h6 h.ch.size)
 refine⟨h.ch.trans (aF.of_below hb),by rw[e5];exact h.i5,by rw[e6];exact h.i6,(hb.frozen (p:=⟨b5,1,none⟩) (Nat.lt_of_lt_of_le h5 h.ch.size)).trans h.f5,(hb.frozen (p:=⟨b6,6,none⟩) (Nat.lt_of_lt_of_le h6 h.ch.size)).trans h.f6,λi hi=>(e5 i).trans (h.o5 i hi),λi hi=>(e6 i).trans (h.o6 i hi),λg cap e=>?_,λg cap e=>?_⟩
 ·obtain⟨x,y,z⟩:=h.S g cap e;exact⟨x.below hb,y,λq=>(e5 1).trans (z q)⟩
 ·obtain⟨x,y,z⟩:=h.I g cap e;exact⟨x.below hb,y,λq=>(e6 6).trans (z q)⟩
theorem vZ.YB (h:vZ wc P t b5 b6 none I s5 s6 W)(hb:Below W.heap.size W W')(h5:b5<wc.heap.size)(h6:b6<wc.heap.size)(hc:P.f.length+2<=cap)(hT:bK W' W.heap.size (.slice (some ⟨g,0,none⟩) (P.f.length+2) cap) (P.f++[⟨#[113]⟩,⟨#[113]⟩])):vZ wc P t b5 b6 (some (g,cap)) I false s6 W':=by
 obtain⟨a1,a2,a3,a4,a5,u5,u6,a6,a7⟩:=h.below hb h5 h6;exact⟨a1,a2,a3,a4,a5,u5,u6,λg cap e=>by cases e;exact⟨bK.low hT h.ch.size,hc,λz=>by cases z⟩,a7⟩
theorem vZ.YC (h:vZ wc P t b5 b6 S none s5 s6 W)(hb:Below W.heap.size W W')(h5:b5<wc.heap.size)(h6:b6<wc.heap.size)(hc:t.bo.length+2<=cap)(hT:Nums W' W.heap.size (.slice (some ⟨g,0,none⟩) (t.bo.length+2) cap) (t.bo++[77,77])):vZ wc P t b5 b6 S (some (g,cap)) s5 false W':=by
 obtain⟨a1,a2,a3,a4,a5,u5,u6,a6,a7⟩:=h.below hb h5 h6;exact⟨a1,a2,a3,a4,a5,u5,u6,a6,λg cap e=>by cases e;exact⟨Nums.low hT h.ch.size,hc,λz=>by cases z⟩⟩
theorem vZ.st5 (h:vZ wc P t b5 b6 (some (g,cap)) I s5 s6 W)(h5:b5<wc.heap.size)(h6:b6<wc.heap.size)(hne:b5≠b6):vZ wc P t b5 b6 (some (g,cap)) I true s6 (W.setCell ⟨b5,1,none⟩ (.slice (some ⟨g,0,none⟩) P.f.length cap)):=by
 have hc:aF (λk=>k=b5) W (W.setCell ⟨b5,1,none⟩ (.slice (some ⟨g,0,none⟩) P.f.length cap)):=(aF.refl _ _).setCell (A:=λk=>k=b5) (p:=⟨b5,1,none⟩) (.inl rfl) _;obtain⟨v,hv⟩:=h.i5;have e6:∀i,(W.setCell ⟨b5,1,none⟩ (.slice (some ⟨g,0,none⟩) P.f.length cap)).cell? ⟨b6,i,none⟩=W.cell? ⟨b6,i,none⟩:=λi=>hc.cell (p:=⟨b6,i,none⟩) (Nat.lt_of_lt_of_le h6 h.ch.size) (λz=>hne z.symm)
 refine⟨h.ch.trans (hc.mono (λk _ z=>.inl z)),⟨_,World.cell?_setCell_same _ _ _ hv⟩,by rw[e6];exact h.i6,by rw[World.frozen?_setCell];exact h.f5,by rw[World.frozen?_setCell];exact h.f6,λi hi=>(World.cell?_setCell_other _ _ _ _ (by intro z;injection z;omega)).trans (h.o5 i hi),λi hi=>(e6 i).trans (h.o6 i hi),λg' cap' e=>?_,λg' cap' e=>?_⟩
 ·cases e
  obtain⟨x,y,z⟩:=h.S g cap rfl;exact⟨x.bW hc (λk hk (z:k=_)=>by omega),y,λ_=>World.cell?_setCell_same _ _ _ hv⟩
 ·obtain⟨x,y,z⟩:=h.I g' cap' e;exact⟨x.bW hc (λk hk (z:k=_)=>by omega),y,λq=>(e6 6).trans (z q)⟩
theorem vZ.st6 (h:vZ wc P t b5 b6 S (some (g,cap)) s5 s6 W)(h5:b5<wc.heap.size)(h6:b6<wc.heap.size)(hne:b5≠b6):vZ wc P t b5 b6 S (some (g,cap)) s5 true (W.setCell ⟨b6,6,none⟩ (.slice (some ⟨g,0,none⟩) t.bo.length cap)):=by
 have hc:aF (λk=>k=b6) W (W.setCell ⟨b6,6,none⟩ (.slice (some ⟨g,0,none⟩) t.bo.length cap)):=(aF.refl _ _).setCell (A:=λk=>k=b6) (p:=⟨b6,6,none⟩) (.inl rfl) _;obtain⟨v,hv⟩:=h.i6;have e5:∀i,(W.setCell ⟨b6,6,none⟩ (.slice (some ⟨g,0,none⟩) t.bo.length cap)).cell? ⟨b5,i,none⟩=W.cell? ⟨b5,i,none⟩:=λi=>hc.cell (p:=⟨b5,i,none⟩) (Nat.lt_of_lt_of_le h5 h.ch.size) hne
 refine⟨h.ch.trans (hc.mono (λk _ z=>.inr z)),by rw[e5];exact h.i5,⟨_,World.cell?_setCell_same _ _ _ hv⟩,by rw[World.frozen?_setCell];exact h.f5,by rw[World.frozen?_setCell];exact h.f6,λi hi=>(e5 i).trans (h.o5 i hi),λi hi=>(World.cell?_setCell_other _ _ _ _ (by intro z;injection z;omega)).trans (h.o6 i hi),λg' cap' e=>?_,λg' cap' e=>?_⟩
 ·obtain⟨x,y,z⟩:=h.S g' cap' e;exact⟨x.bW hc (λk hk (z:k=_)=>by omega),y,λq=>(e5 1).trans (z q)⟩
 ·cases e
  obtain⟨x,y,z⟩:=h.I g cap rfl;exact⟨x.bW hc (λk hk (z:k=_)=>by omega),y,λ_=>World.cell?_setCell_same _ _ _ hv⟩
end
structure Ry (w0 w:World)(P:Pn.dN)(t:Tk.bM)(a a':Option Addr)(c c' b2 b3 b5 b6 g5 g6 k5 k6:Nat):Prop where
 s:WM w0 w P t a a' c c' b2 b3 b5 b6 (some ⟨g5,0,none⟩) (some ⟨g6,0,none⟩) k5 k6
 r5:bK w w0.heap.size (.slice (some ⟨g5,0,none⟩) (P.f.length+2) k5) (P.f++[⟨#[113]⟩,⟨#[113]⟩])
 r6:Nums w w0.heap.size (.slice (some ⟨g6,0,none⟩) (t.bo.length+2) k6) (t.bo++[77,77])
 l5:P.f.length+2<=k5
 l6:t.bo.length+2<=k6
 g:dZ w
 a5:g5≠b2/\g5≠b3/\g5≠b5/\g5≠b6
 a6:g6≠b2/\g6≠b3/\g6≠b5/\g6≠b6
 ne:g5≠g6
theorem Di {w wc X:World}{A:Nat->Prop}{a:Option Addr}{l:List ByteArray}(h0:jg w a l)(h:jg wc a l)(hc:aF A wc X)(hA:∀k,A k->w.heap.size<=k):jg X a l:=λk hk=>by
 obtain⟨b,o,e,l0,_⟩:=h0 k hk;obtain⟨b',o',e',l',c'⟩:=h k hk;rw[e] at e'
 cases e'
 have hn:¬A b:=λz=>by have:=hA b z;omega
 exact⟨b,o,e,Nat.lt_of_lt_of_le l' hc.size,(hc.cell (p:=⟨b,o+k,none⟩) l' hn).trans c'⟩
theorem Dj {w wc X:World}{A:Nat->Prop}{a:Option Addr}{l:List Int}(h0:jm w a l)(h:jm wc a l)(hc:aF A wc X)(hA:∀k,A k->w.heap.size<=k):jm X a l:=λk hk=>by
 obtain⟨b,o,e,l0,_⟩:=h0 k hk;obtain⟨b',o',e',l',c'⟩:=h k hk;rw[e] at e'
 cases e'
 have hn:¬A b:=λz=>by have:=hA b z;omega
 exact⟨b,o,e,Nat.lt_of_lt_of_le l' hc.size,(hc.cell (p:=⟨b,o+k,none⟩) l' hn).trans c'⟩
theorem Dq.same {w w':World}{b:Nat}{P:Pn.dN}{a:Option Addr}{c:Nat}(h:Dq w b P a c)(hs:w.heap.size<=w'.heap.size)(e:∀j,w'.cell? ⟨b,j,none⟩=w.cell? ⟨b,j,none⟩):Dq w' b P a c :=
 ⟨Nat.lt_of_lt_of_le h.lt hs,(e 0).trans h.c0,(e 1).trans h.c1,(e 2).trans h.c2,(e 3).trans h.c3,(e 4).trans h.c4,(e 5).trans h.c5,(e 6).trans h.c6,(e 7).trans h.c7,(e 8).trans h.c8,(e 9).trans h.c9⟩
theorem UU {A:Nat->Prop}{w w':World}(h:dZ w)(hc:aF A w w')(hn:¬A 0):dZ w' :=
 ⟨Nat.lt_of_lt_of_le h.1 hc.size,λi hi=>⟨by rw[hc.cell (p:=⟨0,i*2,none⟩) h.1 hn];exact(h.2 i hi).1,by rw[hc.cell (p:=⟨0,i*2+1,none⟩) h.1 hn];exact(h.2 i hi).2⟩⟩
theorem UW {w:World}{B B' g g' n n' k k':Nat}{l:List ByteArray}{l':List Int}(h:bK w B (.slice (some ⟨g,0,none⟩) n k) l)(h':Nums w B' (.slice (some ⟨g',0,none⟩) n' k') l')(hn:l.length=n)(hn':l'.length=n')(h0:0<n)(h1:0<n'):g≠g':=λe=>by
 unfold bK at h;unfold Nums at h';rw[hn] at h;rw[hn'] at h';subst e;have a:=World.ownsRow.cellAt h 0 (by omega);have b:=World.ownsRow.cellAt h' 0 (by omega);rw[a] at b
 cases l with
 | nil=>simp at hn;omega
 | cons x r =>
  cases l' with
  | nil=>simp at hn';omega
  | cons y r'=>simp at b
theorem Dn.keep {A:Nat->Prop}{w w':World}{g cap:Nat}(h:Dn w g cap)(hc:aF A w w')(hn:¬A g):Dn w' g cap :=
 ⟨Nat.lt_of_lt_of_le h.1 hc.size,λj=>(hc.frozen (p:=⟨g,j,none⟩) h.1 hn).trans (h.2.1 j),λj hj=>by
  obtain⟨u,hu⟩:=h.2.2 j hj;exact⟨u,(hc.cell (p:=⟨g,j,none⟩) h.1 hn).trans hu⟩⟩
abbrev Tp (g:Nat)(P:Pn.dN)(a:Option Addr)(c:Nat)(W:World):Prop:=W.cell? ⟨g,0,none⟩=some (.string P.n)/\W.cell? ⟨g,1,none⟩=some (.slice a P.f.length c)/\W.cell? ⟨g,2,none⟩=some (.int .i64 (nth P.v 0))/\W.cell? ⟨g,3,none⟩=some (.int .i64 (nth P.v 1))/\W.cell? ⟨g,4,none⟩=some (.int .i64 (nth P.v 2))/\W.cell? ⟨g,5,none⟩=some (.int .i64 (nth P.v 3))/\W.cell? ⟨g,6,none⟩=some (.int .i64 (nth P.v 4))/\W.cell? ⟨g,7,none⟩=some (.int .i64 (nth P.v 5))/\W.cell? ⟨g,8,none⟩=some (.int .i64 (nth P.v 6))/\W.cell? ⟨g,9,none⟩=some (.int .i64 (nth P.v 7))
theorem YD {w:World}{b:Nat}{P:Pn.dN}{a:Option Addr}{c:Nat}(h:Dq w b P a c):Tp b P a c w:=⟨h.c0,h.c1,h.c2,h.c3,h.c4,h.c5,h.c6,h.c7,h.c8,h.c9⟩
theorem Nz {w:World}{B n c:Nat}{a:Option Addr}{l:List Int}(x:Int)(h:Nums w B (.slice a n c) l)(hn:l.length=n) :
 Calls prog 26 #[.slice a n c,.int .i64 x] w λe w'=>e=.returned (.tuple #[])/\aF (λk=>B<=k) w w':=by
 subst hn;rcases h.2 with ⟨e,e2⟩|⟨g,cap,cur,e,_⟩
 ·obtain⟨rfl,e3,rfl⟩:=Value.slice.inj e;rw[e3];refine(Gt w x).mono ?_;rintro e w' ⟨he,rfl⟩;exact⟨he,aF.refl _ _⟩
 ·obtain⟨rfl,_,rfl⟩:=Value.slice.inj e;obtain⟨s1,s2,s3,s4⟩:=nM h;refine(wY w g l.length c x s1 s2 s3).mono ?_;rintro e w' ⟨he,hc⟩;exact⟨he,hc.mono (λk _ z=>by subst z;exact s4)⟩
theorem vZ.done {w wc W:World}{P:Pn.dN}{t:Tk.bM}{a a':Option Addr}{c c' b2 b3 b5 b6 g5 g6 k5 k6:Nat}(h:WM w wc P t a a' c c' b2 b3 b5 b6 a a' c c'/\dZ wc)(h0:jg w a P.f)(h1:jm w a' t.bo)(hG:dZ w)(m:vZ wc P t b5 b6 (some (g5,k5)) (some (g6,k6)) true true W):Ry w W P t a a' c c' b2 b3 b5 b6 g5 g6 k5 k6:=by
 obtain⟨h,hB⟩:=h;obtain⟨x5,y5,z5⟩:=m.S g5 k5 rfl;obtain⟨x6,y6,z6⟩:=m.I g6 k6 rfl;obtain⟨n1,n2,n3,n4,n5⟩:=h.ne;obtain⟨o2,o3,o5,o6⟩:=h.lo;have hA:∀k,(k=b5\/k=b6)->w.heap.size<=k:=λk hk=>by rcases hk with rfl|rfl<;>assumption
 have q5:=(World.ownsRow.lt x5 g5 rfl).1;have q6:=(World.ownsRow.lt x6 g6 rfl).1;have e2:=h.pp.lt;have e3:=h.tt.lt;have e5:=h.p5.lt;have e6:=h.t6.lt;have hb:=h.bl.size;refine⟨⟨Dq.same h.pp m.ch.size (λj=>m.ch.cell (p:=⟨b2,j,none⟩) e2 (λz=>by rcases z with z|z;exact n1 z;exact n2 z)),h.tt.same m.ch.size (λj=>m.ch.cell (p:=⟨b3,j,none⟩) e3 (λz=>by rcases z with z|z;exact n3 z;exact n4 z)),?_,?_,Di h0 h.sp m.ch hA,Dj h1 h.st m.ch hA,h.ne,h.lo,m.f5,m.f6,h.bl.trans (m.ch.below hb (λk hk z=>by have:=hA k z;omega))⟩,bK.low x5 hb,Nums.low x6 hb,y5,y6,UU hB m.ch (λz=>by have:=hA _ z;have:=hG.1;omega),⟨by omega,by omega,by omega,by omega⟩,⟨by omega,by omega,by omega,by omega⟩,UW x5 x6 (by simp) (by simp) (by omega) (by omega)⟩
 ·have p:=h.p5;exact⟨Nat.lt_of_lt_of_le e5 m.ch.size,(m.o5 0 (by decide)).trans p.c0,z5 rfl,(m.o5 2 (by decide)).trans p.c2,(m.o5 3 (by decide)).trans p.c3,(m.o5 4 (by decide)).trans p.c4,(m.o5 5 (by decide)).trans p.c5,(m.o5 6 (by decide)).trans p.c6,(m.o5 7 (by decide)).trans p.c7,(m.o5 8 (by decide)).trans p.c8,(m.o5 9 (by decide)).trans p.c9⟩
 ·have p:=h.t6;exact⟨Nat.lt_of_lt_of_le e6 m.ch.size,(m.o6 0 (by decide)).trans p.c0,(m.o6 1 (by decide)).trans p.c1,(m.o6 2 (by decide)).trans p.c2,(m.o6 3 (by decide)).trans p.c3,(m.o6 4 (by decide)).trans p.c4,(m.o6 5 (by decide)).trans p.c5,z6 rfl,(m.o6 7 (by decide)).trans p.c7,(m.o6 8 (by decide)).trans p.c8,(m.o6 9 (by decide)).trans p.c9⟩
theorem WM.two {w w3 W:World}{P:Pn.dN}{t:Tk.bM}{a a':Option Addr}{c c' b2 b3 b5 b6:Nat}(h:Dq w3 b2 P a c/\TB w3 b3 t a' c'/\jg w3 a P.f/\jm w3 a' t.bo/\dZ w3/\Below w.heap.size w w3)(h2:w.heap.size<=b2)(h3:w.heap.size<=b3)(hb:Below w3.heap.size w3 W)(p5:Dq W b5 P a c)(t6:TB W b6 t a' c')(f5:W.frozen? ⟨b5,1,none⟩=false)(f6:W.frozen? ⟨b6,6,none⟩=false)(l5:w3.heap.size<=b5)(l6:w3.heap.size<=b6)(hn:b5≠b6):WM w W P t a a' c c' b2 b3 b5 b6 a a' c c'/\dZ W:=by
 obtain⟨h1,h4,h5,h6,h7,h8⟩:=h;have:=h1.lt;have:=h4.lt;have:=h8.size;exact⟨⟨h1.next hb,h4.next hb,p5,t6,h5.next hb,bY h6 hb,⟨by omega,by omega,by omega,by omega,hn⟩,⟨h2,h3,by omega,by omega⟩,f5,f6,aA h8 hb⟩,h7.next hb⟩
theorem YE (a:Option Addr)(c:Nat)(W:World):(Instr.field 52 (FZ P0 a c) 2).run prog W=.ok (.int .i64 2) W:=by kernel_rfl
def Ri (w0:World)(P:Pn.dN)(E:Int)(v:Value)(W:World):Prop:=E=Pn.bT P/\(E=0->∃p a c,v=.pointer (some ⟨p,0,none⟩)/\QM W p P a c/\w0.heap.size<=p/\P.f.length<=100/\0<P.f.length/\∀x,a=some x->w0.heap.size<=x.block)
def yL (CH:World->Nat->Nat->(Nat->Prop)->dM->Prop)(w0:World)(t:Tk.bM)(E:Int)(v:Value)(W:World):Prop:=E=Tk.ji t/\(E=0->∃b B G cn,v=.pointer (some ⟨b,0,none⟩)/\CH W B b G cn/\cn.t=t/\cn.Go 0/\w0.heap.size<=B/\B<=W.heap.size)
theorem Ri.keep {A:Nat->Prop}{w0 W W':World}{P:Pn.dN}{E:Int}{v:Value}(h:Ri w0 P E v W)(hc:aF A W W')(hA:∀k,A k->k<w0.heap.size\/W.heap.size<=k):Ri w0 P E v W':=by
 refine⟨h.1,λe=>?_⟩;obtain⟨p,a,c,e1,e2,e3,e4,e5,e6⟩:=h.2 e;refine⟨p,a,c,e1,⟨Dq.same e2.plan hc.size (λj=>hc.cell (p:=⟨p,j,none⟩) e2.plan.lt (λz=>by have:=hA p z;have:=e2.plan.lt;omega)),λk hk=>?_,e2.small⟩,e3,e4,e5,e6⟩;obtain⟨b,o,e,l,cc⟩:=e2.row k hk;exact⟨b,o,e,Nat.lt_of_lt_of_le l hc.size,(hc.cell (p:=⟨b,o+k,none⟩) l (λz=>by have:=hA b z;have:=e6 _ e;simp only at this;omega)).trans cc⟩
theorem Ry.sl5 {w0 w:World}{P:Pn.dN}{t:Tk.bM}{a a':Option Addr}{c c' b2 b3 b5 b6 g5 g6 k5 k6:Nat}(h:Ry w0 w P t a a' c c' b2 b3 b5 b6 g5 g6 k5 k6):jg w (some ⟨g5,0,none⟩) P.f:=λk hk=>by
 obtain⟨a2,c2,e2,h2,h3⟩:=h.r5.shape;obtain⟨e3,_,_⟩:=Value.slice.inj e2;rw[<-e3] at h3;obtain⟨b,o,e,l,cc⟩:=h3 k (by simp;omega);refine⟨b,o,e,l,?_⟩;rw[cc];unfold tk;rw[List.getElem?_append_left hk]
theorem Ry.sp5 {w0 w:World}{P:Pn.dN}{t:Tk.bM}{a a':Option Addr}{c c' b2 b3 b5 b6 g5 g6 k5 k6:Nat}(h:Ry w0 w P t a a' c c' b2 b3 b5 b6 g5 g6 k5 k6):(Dn w g5 k5/\k5<=9223372036854775807)/\Dn w g6 k6/\k6<=9223372036854775807:=by
 have h5:=h.r5;have h6:=h.r6;unfold bK at h5;unfold Nums at h6;rw[show(P.f++[⟨#[113]⟩,⟨#[113]⟩]:List ByteArray).length=P.f.length+2 by simp] at h5;rw[show(t.bo++[(77:Int),77]).length=t.bo.length+2 by simp] at h6;exact⟨⟨(nM h5).1,(nM h5).2.2.1⟩,(nM h6).1,(nM h6).2.2.1⟩
theorem Ry.sl6 {w0 w:World}{P:Pn.dN}{t:Tk.bM}{a a':Option Addr}{c c' b2 b3 b5 b6 g5 g6 k5 k6:Nat}(h:Ry w0 w P t a a' c c' b2 b3 b5 b6 g5 g6 k5 k6):jm w (some ⟨g6,0,none⟩) t.bo:=λk hk=>by
 obtain⟨a2,c2,e2,h3⟩:=h.r6.sl;obtain⟨e3,_,_⟩:=Value.slice.inj e2;rw[<-e3] at h3;obtain⟨b,o,e,l,cc⟩:=h3 k (by simp;omega);refine⟨b,o,e,l,?_⟩;rw[cc];unfold nth;rw[List.getElem?_append_left hk]
theorem Ry.keep {w0 w w':World}{P:Pn.dN}{t:Tk.bM}{a a':Option Addr}{c c' b2 b3 b5 b6 g5 g6 k5 k6:Nat}(h:Ry w0 w P t a a' c c' b2 b3 b5 b6 g5 g6 k5 k6)(hc:Below w.heap.size w w'):Ry w0 w' P t a a' c c' b2 b3 b5 b6 g5 g6 k5 k6 :=
 ⟨⟨h.s.pp.next hc,h.s.tt.next hc,h.s.p5.next hc,h.s.t6.next hc,h.s.sp.next hc,bY h.s.st hc,h.s.ne,h.s.lo,(hc.frozen (p:=⟨b5,1,none⟩) h.s.p5.lt).trans h.s.f5,(hc.frozen (p:=⟨b6,6,none⟩) h.s.t6.lt).trans h.s.f6,aA h.s.bl hc⟩,h.r5.below hc,h.r6.below hc,h.l5,h.l6,h.g.next hc,h.a5,h.a6,h.ne⟩
structure UY (w0 w:World)(P:Pn.dN)(t:Tk.bM)(a a':Option Addr)(c c' b2 b3:Nat):Prop where
 pp:Dq w b2 P a c
 tt:TB w b3 t a' c'
 sp:jg w a P.f
 st:jm w a' t.bo
 bl:Below w0.heap.size w0 w
theorem UY.keep {w0 w w':World}{P:Pn.dN}{t:Tk.bM}{a a':Option Addr}{c c' b2 b3:Nat}(h:UY w0 w P t a a' c c' b2 b3)(hc:Below w.heap.size w w'):UY w0 w' P t a a' c c' b2 b3:=⟨h.pp.next hc,h.tt.next hc,h.sp.next hc,bY h.st hc,aA h.bl hc⟩
theorem UY.bW {A:Nat->Prop}{w0 w w':World}{P:Pn.dN}{t:Tk.bM}{a a':Option Addr}{c c' b2 b3:Nat}(h:UY w0 w P t a a' c c' b2 b3)(h0:jg w0 a P.f)(h1:jm w0 a' t.bo)(hc:aF A w w')(hA:∀k,A k->w0.heap.size<=k/\k≠b2/\k≠b3):UY w0 w' P t a a' c c' b2 b3 :=
 ⟨Dq.same h.pp hc.size (λj=>hc.cell (p:=⟨b2,j,none⟩) h.pp.lt (λz=>(hA b2 z).2.1 rfl)),h.tt.same hc.size (λj=>hc.cell (p:=⟨b3,j,none⟩) h.tt.lt (λz=>(hA b3 z).2.2 rfl)),Di h0 h.sp hc (λk z=>(hA k z).1),Dj h1 h.st hc (λk z=>(hA k z).1),h.bl.trans (hc.below h.bl.size (λk hk z=>by have:=(hA k z).1;omega))⟩
section
variable {SH:World->Nat->Nat->(Nat->Prop)->aX->Prop}{CH:World->Nat->Nat->(Nat->Prop)->dM->Prop}
theorem yL.keep (C:nZ SH CH){A:Nat->Prop}{w0 W W':World}{t:Tk.bM}{E:Int}{v:Value}(h:yL CH w0 t E v W)(hc:aF A W W')(hA:∀k,A k->k<w0.heap.size\/W.heap.size<=k):yL CH w0 t E v W':=by
 refine⟨h.1,λe=>?_⟩;obtain⟨b,B,G,cn,e1,e2,e3,e4,e5,e6⟩:=h.2 e;exact⟨b,B,G,cn,e1,C.bW e2 hc (λk hk z=>by have:=C.own e2 k hk;have:=hA k z;omega),e3,e4,e5,Nat.le_trans e6 hc.size⟩
theorem yL.low {w0 w1 W:World}{t:Tk.bM}{E:Int}{v:Value}(h:yL CH w1 t E v W)(hl:w0.heap.size<=w1.heap.size):yL CH w0 t E v W:=by
 refine⟨h.1,λe=>?_⟩;obtain⟨b,B,G,cn,e1,e2,e3,e4,e5,e6⟩:=h.2 e;exact⟨b,B,G,cn,e1,e2,e3,e4,Nat.le_trans hl e5,e6⟩
theorem ND (H:dX SH)(w:World)(P:Pn.dN)(a:Option Addr)(c:Nat)(hs:oq P)(hsl:jg w a P.f)(hc:P.f.length<=c)(hG:dZ w) :
 Calls prog 19 #[FZ P a c,.int .i64 1000,.int .i64 100] w λe w'=>∃v E,e=.returned (.tuple #[v,.int .i64 E])/\Ri w P E v w'/\Below w.heap.size w w':=by
 by_cases hp:Pn.bT P=0
 ·refine(Aq H w P a c 1000 100 hs hsl hc hG hp (by decide) (by decide)).mono ?_;rintro e w' ⟨p,a',c',he,⟨h1,h2,h3⟩,hb⟩;obtain⟨_,h4,h5,_⟩:=Pn.rP hp;exact⟨_,0,he,⟨hp.symm,λ_=>⟨p,a',c',rfl,h2,h1,by omega,by omega,λx hx=>(h3 x hx).1⟩⟩,hb⟩
 ·refine(Ir w P a c 1000 100 hs hsl hc hG hp).mono ?_;rintro e w' ⟨he,hb⟩;exact⟨_,_,he,⟨rfl,λz=>absurd z hp⟩,hb⟩
theorem NG (C:nZ SH CH){w:World}{B q:Nat}{F:Nat->Prop}(t:Tk.bM)(a:Option Addr)(c:Nat)(hs:jq t)(hsl:jm w a t.bo)(h:SH w B q F ⟨[],0⟩)(hB:B<=w.heap.size) :
 Calls prog 7 #[qZ t a c,.pointer (some ⟨q,0,none⟩)] w λe w'=>∃v E,e=.returned (.tuple #[v,.int .i64 E])/\yL CH w t E v w'/\Below w.heap.size w w':=by
 by_cases hp:Tk.ji t=0
 ·refine(C.new t a c hs hsl hp h aX.Ok.nil hB).mono ?_;rintro e w' ⟨⟨b,G,he,h1⟩,hb⟩;exact⟨_,0,he,⟨hp.symm,λ_=>⟨b,_,G,_,rfl,h1,rfl,dM.Go.new hp hs aX.Ok.nil,Nat.le_refl _,hb.size⟩⟩,hb⟩
 ·refine(C.bad t a c q hs hsl hp).mono ?_;rintro e w' ⟨he,hb⟩;exact⟨_,_,he,⟨rfl,λz=>absurd z hp⟩,hb⟩
theorem WQ (H:dX SH)(C:nZ SH CH)(P:Pn.dN)(a:Option Addr)(c:Nat)(t:Tk.bM)(a':Option Addr)(c':Nat)(w:World)(hs:oq P)(hsl:jg w a P.f)(hc:P.f.length<=c)(hl:P.f.length<=8796093021952)(ht:jq t)(htl:jm w a' t.bo)(hn:t.bo.length<=17592186043904)(hG:dZ w) :
 Calls prog 4 #[FZ P a c,qZ t a' c'] w λe w'=>e=.returned (.bool true)/\Below w.heap.size w w':=by
 obtain⟨W2,hW2⟩:∃W,W=(w.alloc (vG P a c)).alloc (vC t a' c'):=⟨_,rfl⟩;have k1:Below w.heap.size w (w.alloc (vG P a c)):=(Below.refl _ _).alloc (Nat.le_refl _) _;have k2:Below w.heap.size w W2:=by rw[hW2];exact k1.alloc (by simp) _
 have p2:Dq W2 w.heap.size P a c:=by rw[hW2];exact(PB.new w P.n a P.f.length c (nth P.v 0) (nth P.v 1) (nth P.v 2) (nth P.v 3) (nth P.v 4) (nth P.v 5) (nth P.v 6) (nth P.v 7) 52).next ((Below.refl _ _).alloc (Nat.le_refl _) _)
 have t2:TB W2 (w.heap.size+1) t a' c':=by
  have:=TB.new (w.alloc (vG P a c)) t a' c';rw[hW2];simpa using this
 have HP2:=aj (And.intro p2 (And.intro t2 (And.intro (hsl.next k2) (And.intro (bY htl k2) (And.intro (hG.next k2) k2)))));have P1:=aj (λW (hW:dZ W)=>IE H W hW);have HSm:=aj (And.intro hs (And.intro ht hc));have Q5:=aj (And.intro hsl htl);have HG:=aj hG;clear hs hsl hc ht htl hG k1 k2 p2 t2;unfold FZ;go_enter func4,ntmps4;go_upto_region 1 with fail
 rw[show(w.alloc (.cells #[.string P.n,.slice a P.f.length c,.int .i64 (nth P.v 0),.int .i64 (nth P.v 1),.int .i64 (nth P.v 2),.int .i64 (nth P.v 3),.int .i64 (nth P.v 4),.int .i64 (nth P.v 5),.int .i64 (nth P.v 6),.int .i64 (nth P.v 7)] 52)).alloc (vC t a' c')=W2 from hW2.symm];clear hW2;go_wp2_with fail;refine(ah P1 W2 (ah HP2).2.2.2.2.1).mono ?_;rintro e w1 ⟨p1,a1,c1,rfl,q1,b1⟩;have B1:=aj b1;clear q1 b1;go_wp2_with fail;refine(ah P1 w1 ((ah HP2).2.2.2.2.1.next (ah B1))).mono ?_;rintro e w2 ⟨p2,a2,c2,rfl,q2,b2⟩;have PP:=aj (uw q2 (by decide));have B2:=aj (aA (ah B1) b2)
 clear q2 b2 P1 B1;go_wp2_with fail;refine(ah PP).mono ?_;rintro e w3 ⟨a3,c3,B3',rfl,_,b3⟩;have B3:=aj (aA (ah B2) b3);have hin:=YE;clear b3 B2 PP;go_upto_region 3 with fail
 obtain⟨p4,t4,sl4,sn4,g4,bl4⟩:=ah HP2;have p5:=p4.next (ah B3);have t5:=t4.next (ah B3);obtain⟨_,y0,y1,y2,y3,y4,y5,y6,y7,y8,y9⟩:=p5;obtain⟨_,z0,z1,z2,z3,z4,z5,z6,z7,z8,z9⟩:=t5;have WG:=aj (show Dq w3 w.heap.size P a c/\TB w3 (w.heap.size+1) t a' c'/\jg w3 a P.f/\jm w3 a' t.bo/\dZ w3/\Below w.heap.size w w3 from⟨p4.next (ah B3),t4.next (ah B3),sl4.next (ah B3),bY sn4 (ah B3),g4.next (ah B3),aA bl4 (ah B3)⟩);clear p4 t4 sl4 sn4 g4 bl4 hin HP2 B3;go_cut [5,6] (λs5 s6 wx=>∃b5 b6,s5=.pointer (some ⟨b5,0,none⟩)/\s6=.pointer (some ⟨b6,0,none⟩)/\Hid (WM w wx P t a a' c c' w.heap.size (w.heap.size+1) b5 b6 a a' c c'/\dZ wx))
 case first =>
  go_region
  all_goals go_wp2_with fail
  all_goals go_meet
  ·exact⟨_,_,rfl,rfl,aj (WM.two (ah WG) (Nat.le_refl _) (Nat.le_succ _) (((Below.refl _ _).alloc (Nat.le_refl _) _).alloc (by simp) _).drew (PB.next (w:=w3.alloc (vG P a c)) (PB.new w3 P.n a P.f.length c (nth P.v 0) (nth P.v 1) (nth P.v 2) (nth P.v 3) (nth P.v 4) (nth P.v 5) (nth P.v 6) (nth P.v 7) 52) ((Below.refl _ _).alloc (Nat.le_refl _) _).drew) (by simpa using (TB.new (w3.alloc (vG P a c)) t a' c').next (Below.refl _ _).drew) (by simp) (by simp) (Nat.le_refl _) (Nat.le_succ _) (by omega))⟩
  ·exact⟨_,_,rfl,rfl,aj (WM.two (ah WG) (Nat.le_refl _) (Nat.le_succ _) (((Below.refl _ _).alloc (Nat.le_refl _) _).alloc (by simp) _).drew (by simpa using (PB.new (w3.alloc (vC t a' c')) P.n a P.f.length c (nth P.v 0) (nth P.v 1) (nth P.v 2) (nth P.v 3) (nth P.v 4) (nth P.v 5) (nth P.v 6) (nth P.v 7) 52).next (Below.refl _ _).drew) (TB.next (w:=w3.alloc (vC t a' c')) (TB.new w3 t a' c') ((Below.refl _ _).alloc (Nat.le_refl _) _).drew) (by simp) (by simp) (Nat.le_succ _) (Nat.le_refl _) (by omega))⟩
 case rest =>
  obtain⟨b5,b6,rfl,rfl,HS⟩:=hcut;clear y0 y1 y2 y3 y4 y5 y6 y7 y8 y9 z0 z1 z2 z3 z4 z5 z6 z7 z8 z9 WG;have hS:=(ah HS).1;have l5:b5<wc.heap.size:=hS.p5.lt;have l6:b6<wc.heap.size:=hS.t6.lt;obtain⟨n1,n2,n3,n4,n5⟩:=hS.ne;have HC:Hid (∀S I s5 s6 X,vZ wc P t b5 b6 S I s5 s6 X->(X.cell? ⟨w.heap.size,1,none⟩=some (.slice a P.f.length c)/\X.cell? ⟨w.heap.size+1,6,none⟩=some (.slice a' t.bo.length c')/\jg X a P.f/\jm X a' t.bo)):=aj (λS I s5 s6 X hX=>by
   obtain⟨x2,x3,x5,x6⟩:=hS.lo;have hA:∀k,(k=b5\/k=b6)->w.heap.size<=k:=λk hk=>by rcases hk with rfl|rfl<;>assumption
   exact⟨(hX.ch.cell (p:=⟨w.heap.size,1,none⟩) hS.pp.lt (λz=>by rcases z with z|z;exact n1 z;exact n2 z)).trans hS.pp.c1,(hX.ch.cell (p:=⟨w.heap.size+1,6,none⟩) hS.tt.lt (λz=>by rcases z with z|z;exact n3 z;exact n4 z)).trans hS.tt.c6,Di (ah Q5).1 hS.sp hX.ch hA,Dj (ah Q5).2 hS.st hX.ch hA⟩)
  have PS:Hid (∀I s6 X,vZ wc P t b5 b6 none I false s6 X->Calls prog 17 #[.slice a P.f.length c,.string ⟨#[113]⟩] X λe w'=>∃g cap,e=.returned (.slice (some ⟨g,0,none⟩) P.f.length cap)/\vZ wc P t b5 b6 (some (g,cap)) I false s6 w'):=aj (λI s6 X hX=>by
   refine(H8 X P.f a c ⟨#[113]⟩ (ah HC _ _ _ _ _ hX).2.2.1 hl).mono ?_;rintro e w' ⟨g,cap,he,h1,h2,h3⟩;exact⟨g,cap,he,hX.YB h3 l5 l6 h1 h2⟩)
  have PI:Hid (∀S s5 X,vZ wc P t b5 b6 S none s5 false X->Calls prog 18 #[.slice a' t.bo.length c',.int .i64 77] X λe w'=>∃g cap,e=.returned (.slice (some ⟨g,0,none⟩) t.bo.length cap)/\vZ wc P t b5 b6 S (some (g,cap)) s5 false w'):=aj (λS s5 X hX=>by
   refine(Gs X t.bo a' c' 77 (ah HC _ _ _ _ _ hX).2.2.2 hn).mono ?_;rintro e w' ⟨g,cap,he,h1,h2,h3⟩;exact⟨g,cap,he,hX.YC h3 l5 l6 h1 h2⟩)
  have M0:Hid (vZ wc P t b5 b6 none none false false wc.drew):=aj ⟨aF.of_below (Below.refl _ _).drew,⟨_,hS.p5.c1⟩,⟨_,hS.t6.c6⟩,hS.f5,hS.f6,(λ_ _=>rfl),(λ_ _=>rfl),(λ_ _ e=>by cases e),(λ_ _ e=>by cases e)⟩;have c21:=hS.pp.c1;have c36:=hS.tt.c6;have HN:Hid (b5<wc.heap.size/\b6<wc.heap.size):=aj ⟨l5,l6⟩;clear hS l5 l6;go_upto_region 4 with fail
  go_cut [] (λwx=>∃g1 k1 g2 k2,Hid (vZ wc P t b5 b6 (some (g1,k1)) (some (g2,k2)) true true wx))
  case first =>
   go_region_with (first
    | (go_at_call 17;refine(ah PS _ _ _ (by first|with_reducible exact ah M0|with_reducible exact ah MI|with_reducible exact(ah MI).st6 (ah HN).1 (ah HN).2 n5)).mono ?_;rintro e wS ⟨gS,kS,rfl,mS⟩;have MS:=aj mS;obtain⟨⟨v5,q5⟩,⟨v6,q6⟩,f5,f6⟩:=And.intro mS.i5 (And.intro mS.i6 (And.intro mS.f5 mS.f6));obtain⟨q1,q2,_⟩:=ah HC _ _ _ _ _ mS;clear mS)
    | (go_at_call 18;refine(ah PI _ _ _ (by first|with_reducible exact ah M0|with_reducible exact ah MS|with_reducible exact(ah MS).st5 (ah HN).1 (ah HN).2 n5)).mono ?_;rintro e wI ⟨gI,kI,rfl,mI⟩;have MI:=aj mI;obtain⟨⟨v5,q5⟩,⟨v6,q6⟩,f5,f6⟩:=And.intro mI.i5 (And.intro mI.i6 (And.intro mI.f5 mI.f6));obtain⟨q1,q2,_⟩:=ah HC _ _ _ _ _ mI;clear mI))
   all_goals go_wp2_with fail
   all_goals go_meet
   all_goals first
    | exact⟨_,_,_,_,aj (((ah MI).st5 (ah HN).1 (ah HN).2 n5).st6 (ah HN).1 (ah HN).2 n5)⟩
    | exact⟨_,_,_,_,aj (((ah MS).st5 (ah HN).1 (ah HN).2 n5).st6 (ah HN).1 (ah HN).2 n5)⟩
  case rest =>
   obtain⟨g5,k5,g6,k6,M⟩:=hcut;obtain⟨wk,hwk⟩:∃W,W=wc:=⟨_,rfl⟩;subst hwk;have T4:=aj ((ah M).done (ah HS) (ah Q5).1 (ah Q5).2 (ah HG));have HL:=aj (And.intro (World.ownsRow.lt (ah T4).r5 g5 rfl).2 (World.ownsRow.lt (ah T4).r6 g6 rfl).2);clear M HS PS PI M0 c21 c36 HN n1 n2 n3 n4 n5 HC HG;have PN:=aj (ND H wk P (some ⟨g5,0,none⟩) k5 (ah HSm).1 (ah T4).sl5 (by have:=(ah T4).l5;omega) (ah T4).g);obtain⟨_,y0,y1,y2,y3,y4,y5,y6,y7,y8,y9⟩:=(ah T4).s.p5;unfold FZ at PN;go_upto_region 6 with (go_at_call 19;refine(ah PN).mono ?_;rintro e w5 ⟨sv,E,rfl,hE,b5'⟩)
   have T5:=aj ((ah T4).keep b5');have HE:=aj (And.intro hE b5');clear hE b5' PN T4 y0 y1 y2 y3 y4 y5 y6 y7 y8 y9;have PQ:=aj (H.new w5.drew);have hd:Below w5.heap.size w5 w5.drew:=(Below.refl _ _).drew;have kT:Hid (∀W,Below w5.drew.heap.size w5.drew W->Tq b6 t (some ⟨g6,0,none⟩) k6 W/\jm W (some ⟨g6,0,none⟩) t.bo):=aj (λW hW=>by
    have h:=(ah T5).keep (aA hd hW);exact⟨FH h.s.t6,h.sl6⟩)
   have k0:Tq b6 t (some ⟨g6,0,none⟩) k6 w5.drew:=(ah kT _ (Below.refl _ _)).1;go_cut [9,10] (λv9 v10 wx=>∃F:Int,v10=.int .i64 F/\Hid (yL CH w5 t F v9 wx/\Below w5.heap.size w5 wx))
   case first =>
    go_region_held_law (Tq b6 t (some ⟨g6,0,none⟩) k6) (first|with_reducible assumption)
     (first
      | (
       go_at_call 20;with_reducible refine(ah PQ).mono ?_;rintro e wq ⟨q,F,rfl,hq,bq⟩
       have kq:Tq b6 t (some ⟨g6,0,none⟩) k6 wq:=(ah kT _ bq).1
       have PC:=aj (NG C t (some ⟨g6,0,none⟩) k6 (ah HSm).2.1 (ah kT _ bq).2 hq bq.size);have BQ:=aj bq;clear hq bq)
      | (
       go_at_call 7;with_reducible refine(ah PC).mono ?_;rintro e w6 ⟨cv,F',rfl,hF,b6'⟩
       have k6':Tq b6 t (some ⟨g6,0,none⟩) k6 w6:=(ah kT _ (aA (ah BQ) b6')).1
       have HF:=aj (show yL CH w5 t F' cv w6/\Below w5.heap.size w5 w6 from⟨hF.low (ah BQ).size,aA (aA hd (ah BQ)) b6'⟩);clear hF b6'))
    all_goals go_wp2_with fail
    all_goals go_meet
    exact⟨F',rfl,HF⟩
   case rest =>
    obtain⟨F,rfl,HF⟩:=hcut;clear kT k0 PQ hd;have T6:=aj ((ah T5).keep (ah HF).2);have HO:=aj (And.intro ((ah HE).1.keep (aF.of_below (A:=λ_=>False) (ah HF).2) (λ_ z=>z.elim)) (ah HF).1);have HZ:=aj (And.intro (ah HE).2 (ah HF).2);clear HE HF T5;obtain⟨_,y0,y1,y2,y3,y4,y5,y6,y7,y8,y9⟩:=(ah T6).s.p5;obtain⟨_,e0,e1,e2,e3,e4,e5,e6,e7,e8,e9⟩:=(ah T6).s.pp;have P7:=aj (uh P.n (some ⟨g5,0,none⟩) a P.f k5 c (nth P.v 0) (nth P.v 1) (nth P.v 2) (nth P.v 3) (nth P.v 4) (nth P.v 5) (nth P.v 6) (nth P.v 7) wc (ah T6).sl5 (ah T6).s.sp hl);go_wp2_with fail
    refine(ah P7).mono ?_;rintro e w7 ⟨rfl,b7⟩;have T7:=aj ((ah T6).keep b7);have B7:=aj b7;clear b7 P7 y0 y1 y2 y3 y4 y5 y6 y7 y8 y9 e0 e1 e2 e3 e4 e5 e6 e7 e8 e9;obtain⟨_,y0,y1,y2,y3,y4,y5,y6,y7,y8,y9⟩:=(ah T7).s.t6;obtain⟨_,e0,e1,e2,e3,e4,e5,e6,e7,e8,e9⟩:=(ah T7).s.tt;have P8:=aj (qp t (some ⟨g6,0,none⟩) a' k6 c' w7 (ah T7).sl6 (ah T7).s.st hn);go_wp2_with fail;refine(ah P8).mono ?_;rintro e w8 ⟨rfl,b8⟩;have T8:=aj ((ah T7).keep b8);have B8:=aj (aA (ah B7) b8);clear b8 P8 T7 B7 y0 y1 y2 y3 y4 y5 y6 y7 y8 y9 e0 e1 e2 e3 e4 e5 e6 e7 e8 e9
    have y1:=(ah T8).s.p5.c1;have P9:=aj (MK w8 _ g5 k5 P.f ⟨#[113]⟩ (ah T8).r5 hl);go_wp2_with fail;refine(ah P9).mono ?_;rintro e w9 ⟨rfl,b9⟩;have T9:=aj ((ah T8).keep b9);have B9:=aj (aA (ah B8) b9);clear b9 P9 T8 B8 y1;have y6:=(ah T9).s.t6.c6;have PA:=aj (KP w9 _ g6 k6 t.bo 77 (ah T9).r6 hn);go_wp2_with fail;refine(ah PA).mono ?_;rintro e wa ⟨rfl,ba⟩;have TA:=aj ((ah T9).keep ba);have BA:=aj (aA (ah B9) ba);clear ba PA T9 B9 y6;have y1:=(ah TA).s.p5.c1;obtain⟨⟨s5,x5⟩,s6,x6⟩:=(ah TA).sp5;have m5:=(ah TA).l5;have m6:=(ah TA).l6
    have S6:=aj s6;have PB:=aj (yE wa g5 P.f.length k5 ⟨#[62]⟩ s5 (by omega) x5);clear s5 s6;go_wp2_with fail;refine(ah PB).mono ?_;rintro e wb ⟨rfl,cb⟩;have CBb:=aj cb;have y6:wb.cell? ⟨b6,6,none⟩=some (.slice (some ⟨g6,0,none⟩) t.bo.length k6):=(cb.cell (p:=⟨b6,6,none⟩) (ah TA).s.t6.lt (λz=>(ah TA).a5.2.2.2 z.symm)).trans (ah TA).s.t6.c6;have PC:=aj (wY wb g6 t.bo.length k6 1 ((ah S6).keep cb (λz=>(ah TA).ne z.symm)) (by omega) x6);clear PB cb S6 y1 m5 m6 x5 x6;go_wp2_with fail;refine(ah PC).mono ?_;rintro e wd ⟨rfl,cd⟩;have CD:Hid (aF (λk=>k=g5\/k=g6) wa wd):=aj (((ah CBb).mono (λk _ z=>.inl z)).trans (cd.mono (λk _ z=>.inr z)))
    have HU:Hid (UY w wd P t a a' c c' w.heap.size (w.heap.size+1)/\Ri wk P E sv wd/\yL CH w5 t F u9 wd):=aj (by
     have T:=ah TA;have r5:=World.ownsRow.lt T.r5 g5 rfl;have r6:=World.ownsRow.lt T.r6 g6 rfl;have hA:∀k,(k=g5\/k=g6)->w.heap.size<=k/\k≠w.heap.size/\k≠w.heap.size+1:=λk hk=>by
      rcases hk with rfl|rfl
      ·exact⟨r5.1,T.a5.1,T.a5.2.1⟩
      ·exact⟨r6.1,T.a6.1,T.a6.2.1⟩
     have l5:=(ah HL).1;have l6:=(ah HL).2;have z1:=(ah HZ).1.size;refine⟨UY.bW ⟨T.s.pp,T.s.tt,T.s.sp,T.s.st,T.s.bl⟩ (ah Q5).1 (ah Q5).2 (ah CD) hA,((ah HO).1.keep (A:=λ_=>False) (aF.of_below (ah BA)) (λ_ z=>z.elim)).keep (ah CD) (λk hk=>by rcases hk with rfl|rfl<;>omega),((ah HO).2.keep C (A:=λ_=>False) (aF.of_below (ah BA)) (λ_ z=>z.elim)).keep C (ah CD) (λk hk=>by rcases hk with rfl|rfl<;>omega)⟩)
    clear PC cd y6 CBb CD TA BA HO HZ HL;go_upto_if 71 with fail
    go_cut [] (λwx=>Hid (Below wd.heap.size wd wx))
    case first =>
     by_cases hE:E=0
     ·subst hE;obtain⟨p,ap,cp,rfl,q1,q2,q3,q4,q5⟩:=(ah HU).2.1.2 rfl;have HQ:=aj q1;have PD:=aj (uw q1 q3);have pu:=(ah HU).1;clear q1 q2 q5;unfold FZ at PD;go_upto_region 13 with (go_at_call 16;refine(ah PD).mono ?_;rintro e we ⟨ax,cx,Bx,rfl,⟨hBx,tx⟩,be⟩)
      obtain⟨gx,kx,e2,hkx,YF⟩:=tx.sl q4;obtain⟨e3,_,e4⟩:=Value.slice.inj e2;subst e3 e4;have TX:=aj (And.intro hBx tx);obtain⟨wf,hwf⟩:∃wf,wf=we.alloc (vG P (some ⟨gx,0,none⟩) cx):=⟨_,rfl⟩;have bf:Below we.heap.size we wf:=by rw[hwf];exact(Below.refl _ _).alloc (Nat.le_refl _) _
      have pf:Dq wf we.heap.size P (some ⟨gx,0,none⟩) cx:=by rw[hwf];exact PB.new we P.n (some ⟨gx,0,none⟩) P.f.length cx (nth P.v 0) (nth P.v 1) (nth P.v 2) (nth P.v 3) (nth P.v 4) (nth P.v 5) (nth P.v 6) (nth P.v 7) 52
      have BF:=aj (aA be bf);have PF:=aj pf;rw[show we.alloc (.cells #[.string P.n,.slice (some ⟨gx,0,none⟩) P.f.length cx,.int .i64 (nth P.v 0),.int .i64 (nth P.v 1),.int .i64 (nth P.v 2),.int .i64 (nth P.v 3),.int .i64 (nth P.v 4),.int .i64 (nth P.v 5),.int .i64 (nth P.v 6),.int .i64 (nth P.v 7)] 52)=wf from hwf.symm];have PE:=aj (uh P.n (some ⟨gx,0,none⟩) a P.f cx c (nth P.v 0) (nth P.v 1) (nth P.v 2) (nth P.v 3) (nth P.v 4) (nth P.v 5) (nth P.v 6) (nth P.v 7) wf (YF.next bf) (pu.keep (ah BF)).sp hl);have Xr:=tx.below bf;obtain⟨_,y0,y1,y2,y3,y4,y5,y6,y7,y8,y9⟩:=pf;obtain⟨_,z0,z1,z2,z3,z4,z5,z6,z7,z8,z9⟩:=(pu.keep (ah BF)).pp
      have YG:=aj Xr;clear hBx tx e2 hkx YF hwf bf be PD Xr;go_wp2_with fail;refine(ah PE).mono ?_;rintro e wg ⟨rfl,bg⟩;have BG:=aj (aA (ah BF) bg);have y1':=((ah PF).next bg).c1;obtain⟨sx,mx,xx,lx⟩:Dn wg gx cx/\P.f.length<=cx/\cx<=9223372036854775807/\Bx<=gx:=by
       have h:=(ah YG).below bg;unfold bK at h;exact nM h
      have PG:=aj (yE wg gx P.f.length cx ⟨#[122]⟩ sx mx xx);have LG:Hid (wd.heap.size<=gx):=aj (Nat.le_trans (ah TX).1 lx);clear sx mx xx lx bg PE y0 y1 y2 y3 y4 y5 y6 y7 y8 y9 z0 z1 z2 z3 z4 z5 z6 z7 z8 z9 YG PF BF TX;go_wp2_with fail;refine(ah PG).mono ?_;rintro e wh ⟨rfl,ch⟩;have BH:=aj (show Below wd.heap.size wd wh from(ah BG).trans (ch.below (ah BG).size (λk hk z=>by have:=ah LG;omega)));clear ch PG y1' BG LG;go_upto_region 16 with fail
      have hd2:Below wh.heap.size wh wh.drew:=(Below.refl _ _).drew;have kP:Hid (∀W,Below wh.drew.heap.size wh.drew W->Tp w.heap.size P a c W/\jg W a P.f):=aj (λW hW=>by
       have h:=pu.keep (aA (ah BH) (aA hd2 hW));exact⟨YD h.pp,h.sp⟩)
      have PD:=aj (uw ((ah HQ).next (aA (ah BH) hd2)) q3);have k0:Tp w.heap.size P a c wh.drew:=(ah kP _ (Below.refl _ _)).1;unfold FZ at PD;go_cut [85] (λv85 wx=>v85=.bool false/\Hid (Below wd.heap.size wd wx))
      case first =>
       go_region_held_law (Tp w.heap.size P a c) (first|with_reducible assumption)
        (first
         | (
          go_at_call 16;with_reducible refine(ah PD).mono ?_;rintro e wi ⟨ay,cy,By,rfl,⟨hBy,ty⟩,bi⟩
          have ki:Tp w.heap.size P a c wi:=(ah kP _ bi).1
          obtain⟨gy,ky,ey,_,sly⟩:=ty.sl q4
          obtain⟨ez,_,ez2⟩:=Value.slice.inj ey
          subst ez ez2
          have PS:=aj (uh P.n (some ⟨gy,0,none⟩) a P.f cy c (nth P.v 0) (nth P.v 1) (nth P.v 2) (nth P.v 3) (nth P.v 4) (nth P.v 5) (nth P.v 6) (nth P.v 7) wi sly (ah kP _ bi).2 hl);have BI:=aj bi;clear hBy ty bi sly)
         | (
          go_at_call 21;with_reducible refine(ah PS).mono ?_;rintro e wj ⟨rfl,bj⟩
          have kj:Tp w.heap.size P a c wj:=(ah kP _ (aA (ah BI) bj)).1
          have BJ:=aj (aA (ah BI) bj);clear bj))
       all_goals go_wp2_with fail
       all_goals go_meet
       exact⟨rfl,aj (aA (ah BH) (aA hd2 (ah BJ)))⟩
      case rest =>
       obtain⟨rfl,BX⟩:=hcut;clear kP PD k0 hd2 BH;go_wp2_with fail;go_meet
       exact BX
     ·have g1:(E==0)=false:=by simpa using hE
      go_wp2_with fail;go_meet
      exact aj (Below.refl _ _)
    case rest =>
     have BX:=hcut;obtain⟨wm,hwm⟩:∃W,W=wc:=⟨_,rfl⟩;subst hwm;have HV:Hid (UY w wm P t a a' c c' w.heap.size (w.heap.size+1)/\yL CH w5 t F u9 wm):=aj ⟨(ah HU).1.keep (ah BX),(ah HU).2.2.keep C (A:=λ_=>False) (aF.of_below (ah BX)) (λ_ z=>z.elim)⟩;have hub:Hid (Below w.heap.size w wm):=aj (ah HV).1.bl;clear HU BX hcut;by_cases hF:F=0
     ·subst hF;obtain⟨b,B,G,cn,rfl,q1,q2,q3,q4,q5⟩:=(ah HV).2.2 rfl;have pu:=(ah HV).1;have HK:Hid (∀W,Below wm.heap.size wm W->Calls prog 27 #[.pointer (some ⟨b,0,none⟩)] W λe w'=>∃a' c',e=.returned (qZ t a' c')/\Nums w' W.heap.size (.slice a' t.bo.length c') t.bo/\Below W.heap.size W w'):=aj (λW hW=>by
       have:=C.taker (C.bW (A:=λ_=>False) q1 (aF.of_below hW) (λ_ _ z=>z)) q3;rwa [q2] at this)
      have PD:=aj (ah HK _ (Below.refl _ _));clear q1 q2 q3 q4 q5 HV;go_upto_region 20 with (go_at_call 27;refine(ah PD).mono ?_;rintro e we ⟨ax,cx,rfl,tx,be⟩)
      obtain⟨wf,hwf⟩:∃wf,wf=we.alloc (vC t ax cx):=⟨_,rfl⟩;have bf:Below we.heap.size we wf:=by rw[hwf];exact(Below.refl _ _).alloc (Nat.le_refl _) _
      have pf:TB wf we.heap.size t ax cx:=by rw[hwf];exact TB.new we t ax cx
      have BF:=aj (aA be bf);have PF:=aj pf;have Xr:=tx.below bf;have YF:jm wf ax t.bo:=by
       obtain⟨a2,c2,e2,h3⟩:=Xr.sl;obtain⟨e3,_,_⟩:=Value.slice.inj e2;rw[<-e3] at h3;exact h3
      rw[show we.alloc (.cells #[.string t.n,.string t.f,.int .i64 t.fr,.int .i64 t.st,.int .i64 t.ack,.int .i64 t.wait,.slice ax t.bo.length cx,.int .i64 t.mo,.int .i64 t.pe,.bool t.pu] 24)=wf from hwf.symm];have PE:=aj (qp t ax a' cx c' wf YF (pu.keep (ah BF)).st hn);obtain⟨_,y0,y1,y2,y3,y4,y5,y6,y7,y8,y9⟩:=pf;obtain⟨_,z0,z1,z2,z3,z4,z5,z6,z7,z8,z9⟩:=(pu.keep (ah BF)).tt;have YG:=aj Xr;clear tx hwf bf be PD Xr YF;go_wp2_with fail;refine(ah PE).mono ?_;rintro e wg ⟨rfl,bg⟩;have BG:=aj (aA (ah BF) bg);have y6':=((ah PF).next bg).c6;have PG:=aj (Nz 3 ((ah YG).below bg) rfl)
      clear bg PE y0 y1 y2 y3 y4 y5 y6 y7 y8 y9 z0 z1 z2 z3 z4 z5 z6 z7 z8 z9 YG PF BF;go_wp2_with fail;refine(ah PG).mono ?_;rintro e wh ⟨rfl,ch⟩;have BH:=aj (show Below wm.heap.size wm wh from(ah BG).trans (ch.below (ah BG).size (λk hk z=>by omega)));clear ch PG y6' BG;go_upto_region 23 with fail
      have hd2:Below wh.heap.size wh wh.drew:=(Below.refl _ _).drew;have kP:Hid (∀W,Below wh.drew.heap.size wh.drew W->Tq (w.heap.size+1) t a' c' W/\jm W a' t.bo):=aj (λW hW=>by
       have h:=pu.keep (aA (ah BH) (aA hd2 hW));exact⟨FH h.tt,h.st⟩)
      have PD:=aj (ah HK _ (aA (ah BH) hd2));have k0:Tq (w.heap.size+1) t a' c' wh.drew:=(ah kP _ (Below.refl _ _)).1;go_cut [4] (λv4 wx=>v4=.bool true/\Hid (Below wm.heap.size wm wx))
      case first =>
       go_region_held_law (Tq (w.heap.size+1) t a' c') (first|with_reducible assumption)
        (first
         | (
          go_at_call 27;with_reducible refine(ah PD).mono ?_;rintro e wi ⟨ay,cy,rfl,ty,bi⟩
          have ki:Tq (w.heap.size+1) t a' c' wi:=(ah kP _ bi).1
          have sly:jm wi ay t.bo:=by
           obtain⟨a2,c2,e2,h3⟩:=ty.sl;obtain⟨e3,_,_⟩:=Value.slice.inj e2;rw[<-e3] at h3;exact h3
          have PS:=aj (qp t ay a' cy c' wi sly (ah kP _ bi).2 hn);have BI:=aj bi;clear ty bi sly)
         | (
          go_at_call 22;with_reducible refine(ah PS).mono ?_;rintro e wj ⟨rfl,bj⟩
          have kj:Tq (w.heap.size+1) t a' c' wj:=(ah kP _ (aA (ah BI) bj)).1
          have BJ:=aj (aA (ah BI) bj);clear bj))
       all_goals go_wp2_with fail
       all_goals go_meet
       exact⟨rfl,aj (aA (ah BH) (aA hd2 (ah BJ)))⟩
      case rest =>
       obtain⟨rfl,BX⟩:=hcut;clear kP PD k0 hd2 BH;go_wp2_with fail;go_ret;exact⟨rfl,aA (ah hub) (ah BX)⟩
     ·have g1:(F==0)=false:=by simpa using hF
      clear HV;go_wp2_with fail;go_ret;exact⟨rfl,ah hub⟩
end
