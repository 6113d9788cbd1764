/- A part. -/
import Derived.Test.YtidekgipblnpkaaGreatDoorQ5
import Derived.Test.YtidekgipblnpkaaGreatDoorQ13
import Derived.Lib.Atoi
import Derived.Lib.IndexAny
import Derived.Lib.Join
set_option maxRecDepth 100000
set_option maxHeartbeats 8000000
namespace Go.Proofs.YtidekgipblnpkaaGreatDoor.Pn
open Go Go.Proofs.Tryz
theorem OL (f:ByteArray)(r:List ByteArray):tk (f::r) 0=f:=rfl
theorem OM (f:ByteArray)(r:List ByteArray)(k:Nat):tk (f::r) (k+1)=tk r k:=rfl
theorem agz {l:List ByteArray}{k:Nat}(h:k<l.length):tk l k=l[k]:=by
 unfold tk;rw[ajl h];rfl
theorem ahT {l:List ByteArray}{k:Nat}(h:k<l.length):tk l k∈l:=by
 rw[agz h];exact akk h
theorem Jj:∀l:List ByteArray,oG l=true↔∃i j,j<i/\i<l.length/\bD (Pl.aI (tk l i)) (Pl.aI (tk l j))=true
 | []=>by
  constructor
  ·intro h;cases h
  ·rintro ⟨i,j,_,h,_⟩;simp at h
 | f::r=>by
  have ih:=Jj r;rw[oG,akP,ih,amb];constructor
  ·rintro (⟨g,hg,hm⟩|⟨i,j,h1,h2,h3⟩)
   ·obtain⟨k,hk,rfl⟩:=aks.1 hg;refine⟨k+1,0,by omega,by simpa using hk,?_⟩;rw[OM,OL,agz hk,IZ];exact hm
   ·exact⟨i+1,j+1,by omega,by simpa using h2,h3⟩
  ·rintro ⟨i,j,h1,h2,h3⟩;obtain⟨i,rfl⟩:∃k,i=k+1:=⟨i-1,by omega⟩;have hi:i<r.length:=by simpa using h2
   cases j with
   | zero =>
    left;refine⟨tk r i,ahT hi,?_⟩;rw[IZ];exact h3
   | succ j=>exact Or.inr ⟨i,j,by omega,hi,h3⟩
def iI (l:List ByteArray):Int:=if 4<l.length then 2 else if l.length=0 then 1 else if gJ l≠0 then gJ l else if oG l=true then 10 else 0
theorem OO {p:cu}(h:eP p.n=true):dG p=if iI p.f≠0 then iI p.f else if gK p.v dN=true then 0 else 1:=by
 unfold dG iI;rw[if_neg (by rw[h];simp)];by_cases h2:4<p.f.length
 ·rw[if_pos h2,if_pos h2];rfl
 ·rw[if_neg h2,if_neg h2];by_cases h3:p.f.length=0
  ·rw[if_pos h3,if_pos h3];rfl
  ·rw[if_neg h3,if_neg h3];by_cases h4:gJ p.f≠0
   ·rw[if_pos h4,if_pos h4,if_pos h4]
   ·rw[if_neg h4,if_neg h4];by_cases h5:oG p.f=true
    ·rw[if_pos h5,if_pos h5];rfl
    ·rw[if_neg h5,if_neg h5,if_neg (show ¬(0:Int)≠0 by decide)]
def ai5 (l:List UInt8):Bool:=l.all agk&&(decide (1<=l.length)&&(decide (l.length<=9)&&decide (l.head?≠some 48)))
end Go.Proofs.YtidekgipblnpkaaGreatDoor.Pn
namespace Go.Proofs.YtidekgipblnpkaaGreatDoor
open Go.Joins Go.Deep Go.WideShapes Go.ChangeShapes Go.ChangeAt Go.RowKit Go.Proofs.Tryz
section
variable {H:Type}{enc:TypeId×Value->H}{P:Program}{w:World}{base:Nat}{spare:Nat->Bool}{held:Bool}
theorem afA {α:Type}{cs:Array α}(h:cs.size=10):∃c0 c1 c2 c3 c4 c5 c6 c7 c8 c9,cs=#[c0,c1,c2,c3,c4,c5,c6,c7,c8,c9]:=by
 obtain⟨l⟩:=cs;match l,h with
 | [c0,c1,c2,c3,c4,c5,c6,c7,c8,c9],_=>exact⟨c0,c1,c2,c3,c4,c5,c6,c7,c8,c9,rfl⟩
theorem KG {t:TypeId}{f0 f1 f2 f3 f4 f5 f6 f7 f8 f9:Field}{fuel:Nat}{cs:List Value}{x:DataW H×List MemPlace}(ht:P.underlying t=some (.struct #[f0,f1,f2,f3,f4,f5,f6,f7,f8,f9]))(h:DataW.trod enc P w base spare held fuel t cs=some x) :
 ∃y0 y1 y2 y3 y4 y5 y6 y7 y8 y9 n,x=(.agg [y0.1,y1.1,y2.1,y3.1,y4.1,y5.1,y6.1,y7.1,y8.1,y9.1],y0.2++(y1.2++(y2.2++(y3.2++(y4.2++(y5.2++(y6.2++(y7.2++(y8.2++(y9.2))))))))))/\DataW.trod enc P w base spare held n f0.type ((cs.drop f0.offset).take (P.cellsOf f0.type))=some y0/\DataW.trod enc P w base spare held n f1.type ((cs.drop f1.offset).take (P.cellsOf f1.type))=some y1/\DataW.trod enc P w base spare held n f2.type ((cs.drop f2.offset).take (P.cellsOf f2.type))=some y2/\DataW.trod enc P w base spare held n f3.type ((cs.drop f3.offset).take (P.cellsOf f3.type))=some y3/\DataW.trod enc P w base spare held n f4.type ((cs.drop f4.offset).take (P.cellsOf f4.type))=some y4/\DataW.trod enc P w base spare held n f5.type ((cs.drop f5.offset).take (P.cellsOf f5.type))=some y5/\DataW.trod enc P w base spare held n f6.type ((cs.drop f6.offset).take (P.cellsOf f6.type))=some y6/\DataW.trod enc P w base spare held n f7.type ((cs.drop f7.offset).take (P.cellsOf f7.type))=some y7/\DataW.trod enc P w base spare held n f8.type ((cs.drop f8.offset).take (P.cellsOf f8.type))=some y8/\DataW.trod enc P w base spare held n f9.type ((cs.drop f9.offset).take (P.cellsOf f9.type))=some y9:=by
 obtain⟨xs,n,_,rfl,hl,hlen,hf⟩:=amO ht h;match xs,hlen with
 | [y0,y1,y2,y3,y4,y5,y6,y7,y8,y9],_=>exact⟨y0,y1,y2,y3,y4,y5,y6,y7,y8,y9,n,by simp,by simpa using hf 0 f0 rfl,by simpa using hf 1 f1 rfl,by simpa using hf 2 f2 rfl,by simpa using hf 3 f3 rfl,by simpa using hf 4 f4 rfl,by simpa using hf 5 f5 rfl,by simpa using hf 6 f6 rfl,by simpa using hf 7 f7 rfl,by simpa using hf 8 f8 rfl,by simpa using hf 9 f9 rfl⟩
theorem VW {r:Reach}{b0:Nat}{t:TypeId}{f0 f1 f2 f3 f4 f5 f6 f7 f8 f9:Field}{v:Value}{d:DataW H}{p:List MemPlace}(hs:P.underlying t=some (.struct #[f0,f1,f2,f3,f4,f5,f6,f7,f8,f9]))(hone:oneCellFields P #[f0,f1,f2,f3,f4,f5,f6,f7,f8,f9]=true)(hC:P.cellsOf t=10)
 (hv:Value.okWide P w r b0 t v) (h:DataW.Trod enc P w base spare held t v d p) :
 ∃(v0 v1 v2 v3 v4 v5 v6 v7 v8 v9:Value) (y0 y1 y2 y3 y4 y5 y6 y7 y8 y9:DataW H×List MemPlace) (n:Nat),v=.agg #[v0,v1,v2,v3,v4,v5,v6,v7,v8,v9]/\d=.agg [y0.1,y1.1,y2.1,y3.1,y4.1,y5.1,y6.1,y7.1,y8.1,y9.1]/\DataW.trod enc P w base spare held n f0.type [v0]=some y0/\DataW.trod enc P w base spare held n f1.type [v1]=some y1/\DataW.trod enc P w base spare held n f2.type [v2]=some y2/\DataW.trod enc P w base spare held n f3.type [v3]=some y3/\DataW.trod enc P w base spare held n f4.type [v4]=some y4/\DataW.trod enc P w base spare held n f5.type [v5]=some y5/\DataW.trod enc P w base spare held n f6.type [v6]=some y6/\DataW.trod enc P w base spare held n f7.type [v7]=some y7/\DataW.trod enc P w base spare held n f8.type [v8]=some y8/\DataW.trod enc P w base spare held n f9.type [v9]=some y9:=by
 obtain⟨cs,rfl,hsz⟩:=okWide_struct hs hv;obtain⟨c0,c1,c2,c3,c4,c5,c6,c7,c8,c9,rfl⟩:=afA (hsz.trans hC);obtain⟨fuel,hf⟩:=h;obtain⟨y0,y1,y2,y3,y4,y5,y6,y7,y8,y9,n,hx,h0,h1,h2,h3,h4,h5,h6,h7,h8,h9⟩:=KG hs hf;obtain⟨o0,k0⟩:=hone_of hone 0 f0 rfl;obtain⟨o1,k1⟩:=hone_of hone 1 f1 rfl;obtain⟨o2,k2⟩:=hone_of hone 2 f2 rfl;obtain⟨o3,k3⟩:=hone_of hone 3 f3 rfl;obtain⟨o4,k4⟩:=hone_of hone 4 f4 rfl;obtain⟨o5,k5⟩:=hone_of hone 5 f5 rfl;obtain⟨o6,k6⟩:=hone_of hone 6 f6 rfl;obtain⟨o7,k7⟩:=hone_of hone 7 f7 rfl;obtain⟨o8,k8⟩:=hone_of hone 8 f8 rfl;obtain⟨o9,k9⟩:=hone_of hone 9 f9 rfl;simp only[Prod.mk.injEq] at hx
 exact⟨c0,c1,c2,c3,c4,c5,c6,c7,c8,c9,y0,y1,y2,y3,y4,y5,y6,y7,y8,y9,n,rfl,hx.1,by simpa[Value.cells,o0,k0] using h0,by simpa[Value.cells,o1,k1] using h1,by simpa[Value.cells,o2,k2] using h2,by simpa[Value.cells,o3,k3] using h3,by simpa[Value.cells,o4,k4] using h4,by simpa[Value.cells,o5,k5] using h5,by simpa[Value.cells,o6,k6] using h6,by simpa[Value.cells,o7,k7] using h7,by simpa[Value.cells,o8,k8] using h8,by simpa[Value.cells,o9,k9] using h9⟩
theorem yL {P:Program}{e:TypeId}{d:DataW H}{x:Nat}(hx:x∈d.weights P e):∀{l:List (DataW H)},d∈l->x∈DataW.weightsAll P e l
 | a::r,h=>by
  simp only[DataW.weightsAll,ajS];rcases ajT.1 h with q|q
  ·subst q;exact .inl hx
  ·exact .inr (yL hx q)
end
theorem OQ:prog.cellsOf 9=1:=by kernel_rfl
theorem ag7:prog.bytesOf 9=16:=by kernel_rfl
theorem ag8:prog.cellsOf 24=10:=by kernel_rfl
theorem SE (f:Nat->ByteArray){n k:Nat}(h:k<n):tk ((List.range n).map f) k=f k:=by unfold tk;simp[h]
theorem ZP {H:Type}{enc:TypeId×Value->H}{W:World}{base:Nat}{v:Value}{d:DataW H}{p:List MemPlace}(hv:Value.okWide prog W .any base 24 v)(h:DataW.Trod enc prog W 0 (λ_=>true) true 24 v d p)(hw:∀x∈DataW.weights prog 24 d,x<=reachBytes) :
 ∃(n:ByteArray) (a:Option Addr) (l:List ByteArray) (c:Nat) (x0 x1 x2 x3 x4 x5 x6 x7:Int),v=rU n a l.length c x0 x1 x2 x3 x4 x5 x6 x7/\n.size<=140737488355328/\nZ W a l/\(∀k,k<l.length->(tk l k).size<=140737488355328)/\l.length<=140737488355328/\l.length<=c:=by
 obtain⟨u0,u1,u2,u3,u4,u5,u6,u7,u8,u9,y0,y1,y2,y3,y4,y5,y6,y7,y8,y9,m,rfl,hd,g0,g1,g2,g3,g4,g5,g6,g7,g8,g9⟩:=VW underlying24 (by kernel_rfl) ag8 hv h;obtain⟨n,e0,q0,_⟩:=alG underlying9 g0;obtain⟨x0,e2,q2,_⟩:=akC underlying3 g2;obtain⟨x1,e3,q3,_⟩:=akC underlying3 g3;obtain⟨x2,e4,q4,_⟩:=akC underlying3 g4;obtain⟨x3,e5,q5,_⟩:=akC underlying3 g5;obtain⟨x4,e6,q6,_⟩:=akC underlying3 g6;obtain⟨x5,e7,q7,_⟩:=akC underlying3 g7;obtain⟨x6,e8,q8,_⟩:=akC underlying3 g8
 obtain⟨x7,e9,q9,_⟩:=akC underlying3 g9;simp only[akY,ama] at e0 e2 e3 e4 e5 e6 e7 e8 e9;subst e0 e2 e3 e4 e5 e6 e7 e8 e9;rcases open_strs underlying22 underlying9 OQ g1 with ⟨hcs,hx⟩|⟨a,len,cap,mm,Sx,hcs,hb,hl,hm,hmm,hx,hel⟩
 ·simp only[akY,ama] at hcs;subst hcs;have hz:n.size<=140737488355328:=by
   have h:=hw n.data.toList.length (by rw[hd,q0];simp[DataW.weights,DataW.weightsEach,underlying24]);have e:n.data.toList.length=n.size:=by simp
   unfold reachBytes at h;omega
  exact⟨n,none,[],0,x0,x1,x2,x3,x4,x5,x6,x7,rfl,hz,λk hk=>by simp at hk,λk hk=>by simp at hk,by simp,by simp⟩
 ·simp only[akY,ama] at hcs;subst hcs;have hx1:y1.1=DataW.slice ((List.range len).map λi=>.lit (.string (Sx i).data.toList)) ((List.range (mm-len)).map λj=>.lit (.string (Sx (len+j)).data.toList)):=by rw[hx]
  have hz:n.size<=140737488355328:=by
   have h:=hw n.data.toList.length (by rw[hd,q0];simp[DataW.weights,DataW.weightsEach,underlying24]);have e:n.data.toList.length=n.size:=by simp
   unfold reachBytes at h;omega
  have hlm:len<=mm:=by rw[hmm];split<;>omega
  have hsub:∀y∈DataW.weights (H:=H) prog 22 y1.1,y<=reachBytes:=λy hy=>hw y (by
   rw[hd];simp only[DataW.weights,underlying24];simp only[akt,alS];exact DataW.weights_mem_each (j:=1) rfl rfl _ hy)
  obtain⟨bm,om,spot⟩:=a;have hspot:len=0\/spot=none:=by
   by_cases h0:len=0
   ·exact .inl h0
   ·right;simpa[Addr.add] using World.cell?_spot (hel 0 (by omega)).1
  rcases hspot with h0|rfl
  ·subst h0;exact⟨n,some ⟨bm,om,spot⟩,[],cap,x0,x1,x2,x3,x4,x5,x6,x7,rfl,hz,λk hk=>by simp at hk,λk hk=>by simp at hk,by simp,by simp⟩
  ·refine⟨n,some ⟨bm,om,none⟩,(List.range len).map Sx,cap,x0,x1,x2,x3,x4,x5,x6,x7,by simp,hz,λk hk=>?_,λk hk=>?_,?_,by simpa using hl⟩
   ·have hk':k<len:=by simpa using hk
    have f0:=(hel k (by omega)).1;simp only[add_plain] at f0;exact⟨bm,om,rfl,alH _ _ f0,by rw[SE Sx hk'];exact f0⟩
   ·have hk':k<len:=by simpa using hk
    rw[SE Sx hk'];have hle:=hsub (Sx k).data.toList.length (by
     rw[hx1];simp only[DataW.weights,underlying22,ajT,ajS];refine .inr (.inl (yL (d:=.lit (.string (Sx k).data.toList)) ?_ (alP.2 ⟨k,alc.2 hk',rfl⟩)));simp[DataW.weights])
    have e:(Sx k).data.toList.length=(Sx k).size:=by simp
    unfold reachBytes at hle;omega
   ·simp only[akw,List.length_range];have hh:=hsub ((len+(mm-len))*prog.bytesOf 9) (by rw[hx1];simp[DataW.weights,underlying22]);rw[ag7] at hh;unfold reachBytes at hh;omega
end Go.Proofs.YtidekgipblnpkaaGreatDoor
namespace Go.Proofs.YtidekgipblnpkaaGreatDoor.Dk
open Go.Joins Go.Deep Go.WideShapes Go.ChangeShapes Go.ChangeAt Go.RowKit Go.Proofs.Tryz
structure uX where
 k:Int
 now:Int
 n:Int
 x:Po
 f:ByteArray
def acN:uX:=⟨0,0,0,⟨ByteArray.empty,ByteArray.empty,ByteArray.empty,ByteArray.empty,0,0⟩,ByteArray.empty⟩
def spt (l:List uX)(k:Nat):uX:=l[k]?.getD acN
structure Ten (w:World)(b o:Nat)(c:uX):Prop where
 lt:b<w.heap.size
 c0:w.cell? ⟨b,o,none⟩=some (.int .i64 c.k)
 c1:w.cell? ⟨b,o+1,none⟩=some (.int .i64 c.now)
 c2:w.cell? ⟨b,o+2,none⟩=some (.int .i64 c.n)
 c3:w.cell? ⟨b,o+3,none⟩=some (.string c.x.s)
 c4:w.cell? ⟨b,o+4,none⟩=some (.string c.x.i)
 c5:w.cell? ⟨b,o+5,none⟩=some (.string c.x.h)
 c6:w.cell? ⟨b,o+6,none⟩=some (.string c.x.d)
 c7:w.cell? ⟨b,o+7,none⟩=some (.int .i64 c.x.x)
 c8:w.cell? ⟨b,o+8,none⟩=some (.int .i64 c.x.ro)
 c9:w.cell? ⟨b,o+9,none⟩=some (.string c.f)
theorem Ten.keep {w w':World}{b o:Nat}{c:uX}(h:Ten w b o c)(hs:w.heap.size<=w'.heap.size)(hb:w'.heap[b]?=w.heap[b]?):Ten w' b o c:=by
 have e:∀j,w'.cell? ⟨b,j,none⟩=w.cell? ⟨b,j,none⟩:=λj=>akD (w:=w) (a:=⟨b,j,none⟩) hb
 exact⟨ajc h.lt hs,by rw[e];exact h.c0,by rw[e];exact h.c1,by rw[e];exact h.c2,by rw[e];exact h.c3,by rw[e];exact h.c4,by rw[e];exact h.c5,by rw[e];exact h.c6,by rw[e];exact h.c7,by rw[e];exact h.c8,by rw[e];exact h.c9⟩
def SlP (w:World)(a:Option Addr)(l:List uX):Prop:=∀k,k<l.length->∃b o,a=some ⟨b,o,none⟩/\Ten w b (o+k*10) (spt l k)
theorem SlP.next {w w':World}{a:Option Addr}{l:List uX}(h:SlP w a l)(hb:Below w.heap.size w w'):SlP w' a l:=λk hk=>by
 obtain⟨b,o,e,h2⟩:=h k hk;exact⟨b,o,e,h2.keep hb.size (hb.block b h2.lt)⟩
structure wE (c:uX):Prop where
 x:dZ c.x
 f:c.f.size<=140737488355328
section
variable {H:Type}{enc:TypeId×Value->H}{P:Program}{w:World}{base:Nat}{spare:Nat->Bool}{held:Bool}
theorem OT {t:TypeId}{f0 f1 f2 f3 f4:Field}{fuel:Nat}{cs:List Value}{x:DataW H×List MemPlace}(ht:P.underlying t=some (.struct #[f0,f1,f2,f3,f4]))(h:DataW.trod enc P w base spare held fuel t cs=some x) :
 ∃y0 y1 y2 y3 y4 n,x=(.agg [y0.1,y1.1,y2.1,y3.1,y4.1],y0.2++(y1.2++(y2.2++(y3.2++y4.2))))/\DataW.trod enc P w base spare held n f0.type ((cs.drop f0.offset).take (P.cellsOf f0.type))=some y0 /\
  DataW.trod enc P w base spare held n f1.type ((cs.drop f1.offset).take (P.cellsOf f1.type))=some y1/\DataW.trod enc P w base spare held n f2.type ((cs.drop f2.offset).take (P.cellsOf f2.type))=some y2 /\
  DataW.trod enc P w base spare held n f3.type ((cs.drop f3.offset).take (P.cellsOf f3.type))=some y3/\DataW.trod enc P w base spare held n f4.type ((cs.drop f4.offset).take (P.cellsOf f4.type))=some y4:=by
 obtain⟨xs,n,_,rfl,hl,hlen,hf⟩:=amO ht h;match xs,hlen with
 | [y0,y1,y2,y3,y4],_=>exact⟨y0,y1,y2,y3,y4,n,by simp,by simpa using hf 0 f0 rfl,by simpa using hf 1 f1 rfl,by simpa using hf 2 f2 rfl,by simpa using hf 3 f3 rfl,by simpa using hf 4 f4 rfl⟩
end
theorem acO:prog.cellsOf 50=10:=by kernel_rfl
theorem ag9:prog.cellsOf 48=6:=by kernel_rfl
theorem Yj:prog.cellsOf 3=1:=by kernel_rfl
theorem MH (C:Nat->uX){n k:Nat}(h:k<n):spt ((List.range n).map C) k=C k:=by unfold spt;simp[h]
theorem VX {H:Type}{enc:TypeId×Value->H}{W:World}{base:Nat}{v:Value}{d:DataW H}{pl:List MemPlace}(hv:Value.okWide prog W .any base 25 v)(h:DataW.Trod enc prog W 0 (λ_=>true) true 25 v d pl)(hw:∀x∈DataW.weights prog 25 d,x<=reachBytes) :
 ∃(a:Option Addr) (l:List uX) (c:Nat),v=.slice a l.length c/\SlP W a l/\∀k,k<l.length->wE (spt l k):=by
 obtain⟨aR,SG,aiD,rfl⟩:=okWide_slice underlying25 hv;obtain⟨ai0,hfR⟩:=h;obtain⟨C,hC⟩:∃C:Nat->uX,∀i,i<SG->∃b o,aR=some ⟨b,o,none⟩/\Ten W b (o+i*10) (C i)/\wE (C i):=by
  rcases open_slice underlying25 hfR with ⟨hcs,hx⟩|⟨a,len',cap',m,n,D,Pl,hcs,hb,hl,hm,hmm,hx,hel⟩
  ·simp[Value.cells] at hcs;obtain⟨rfl,rfl,rfl⟩:=hcs;exact⟨λ_=>acN,λi hi=>absurd hi (ajG i)⟩
  ·simp[Value.cells] at hcs;obtain⟨rfl,rfl,rfl⟩:=hcs;simp only[Prod.mk.injEq] at hx;obtain⟨rfl,rfl⟩:=hx;have hlm:SG<=m:=by rw[hmm];split<;>omega
   have hI:Inhabited uX:=⟨acN⟩;refine choose_lt (p:=λi (c:uX)=>∃b o,some a=some ⟨b,o,none⟩/\Ten W b (o+i*10) c/\wE c) (λi hi=>?_);obtain⟨cs',h1,h2⟩:=hel i (by omega);rw[acO] at h1;obtain⟨_,hlen,hcell⟩:=World.cells?_some h1;obtain⟨x0,x1,x2,x3,x4,n'',hxy,t0,t1,t2,t3,t4⟩:=OT underlying50 h2;match cs',hlen with
   | [q0,q1,q2,q3,q4,q5,q6,q7,q8,q9],_ =>
    simp only[Yj,OQ,ag9,alY,List.drop_succ_cons,alj,List.take_zero] at t0 t1 t2 t3 t4;obtain⟨z0,z1,z2,z3,z4,z5,n3,hxz,s0,s1,s2,s3,s4,s5⟩:=Oc underlying48 t3;simp only[Yj,OQ,alY,List.drop_succ_cons,alj,List.take_zero] at s0 s1 s2 s3 s4 s5;obtain⟨k0,e0,g0,_⟩:=akC underlying3 t0;obtain⟨k1,e1,g1,_⟩:=akC underlying3 t1;obtain⟨k2,e2,g2,_⟩:=akC underlying3 t2;obtain⟨k3,e3,g3,_⟩:=alG underlying9 s0;obtain⟨k4,e4,g4,_⟩:=alG underlying9 s1
    obtain⟨k5,e5,g5,_⟩:=alG underlying9 s2;obtain⟨k6,e6,g6,_⟩:=alG underlying9 s3;obtain⟨k7,e7,g7,_⟩:=akC underlying3 s4;obtain⟨k8,e8,g8,_⟩:=akC underlying3 s5;obtain⟨k9,e9,g9,_⟩:=alG underlying9 t4;simp only[akY,ama] at e0 e1 e2 e3 e4 e5 e6 e7 e8 e9;subst e0 e1 e2 e3 e4 e5 e6 e7 e8 e9;obtain⟨bm,om,spot⟩:=a;have f0:=hcell 0 (by omega);have f1:=hcell 1 (by omega);have f2:=hcell 2 (by omega);have f3:=hcell 3 (by omega);have f4:=hcell 4 (by omega);have f5:=hcell 5 (by omega);have f6:=hcell 6 (by omega)
    have f7:=hcell 7 (by omega);have f8:=hcell 8 (by omega);have f9:=hcell 9 (by omega);rw[add_add] at f0 f1 f2 f3 f4 f5 f6 f7 f8 f9;obtain⟨cs0,y1,_⟩:=hel 0 (by omega);rw[acO] at y1;obtain⟨_,yl,yc⟩:=World.cells?_some y1;have y:=yc 0 (by omega);rw[ajl (by omega)] at y;have hspot:spot=none:=by simpa[Addr.add] using World.cell?_spot y
    subst hspot;simp only[add_plain] at f0 f1 f2 f3 f4 f5 f6 f7 f8 f9;have hD:D i=.agg [.lit (.int .i64 k0),.lit (.int .i64 k1),.lit (.int .i64 k2),.agg [.lit (.string k3.data.toList),.lit (.string k4.data.toList),.lit (.string k5.data.toList),.lit (.string k6.data.toList),.lit (.int .i64 k7),.lit (.int .i64 k8)],.lit (.string k9.data.toList)]:=by
     simp only[Prod.mk.injEq] at hxy hxz;rw[hxy.1,hxz,g0,g1,g2,g3,g4,g5,g6,g7,g8,g9]
    have hmem:∀x,x∈[k3.data.toList.length,k4.data.toList.length,k5.data.toList.length,k6.data.toList.length,k9.data.toList.length]->x∈DataW.weights prog 25 (DataW.slice ((List.range SG).map D) ((List.range (m-SG)).map λj=>D (SG+j))):=by
     intro x hx;simp only[DataW.weights,underlying25,ajT,ajS];refine .inr (.inl (yL (d:=D i) ?_ (alP.2 ⟨i,alc.2 hi,rfl⟩)));rw[hD];simp[DataW.weights,DataW.weightsEach,underlying50,underlying48];simp at hx;omega
    have hall:∀x,x∈[k3.data.toList.length,k4.data.toList.length,k5.data.toList.length,k6.data.toList.length,k9.data.toList.length]->x<=140737488355328:=λx hx=>by
     have hle:=hw x (hmem x hx);unfold reachBytes at hle;omega
    have el:∀y:ByteArray,y.data.toList.length=y.size:=λy=>by simp
    simp only[el] at hall;refine⟨⟨k0,k1,k2,⟨k3,k4,k5,k6,k7,k8⟩,k9⟩,bm,om,rfl,⟨alH _ _ f0,by simpa using f0,f1,f2,f3,f4,f5,f6,f7,f8,f9⟩,⟨hall _ (by simp),hall _ (by simp),hall _ (by simp),hall _ (by simp)⟩,hall _ (by simp)⟩
 refine⟨aR,(List.range SG).map C,aiD,by simp,λk hk=>?_,λk hk=>?_⟩
 ·have hk':k<SG:=by simpa using hk
  obtain⟨b,o,e,h2,_⟩:=hC k hk';exact⟨b,o,e,by rw[MH C hk'];exact h2⟩
 ·have hk':k<SG:=by simpa using hk
  obtain⟨b,o,e,_,h3⟩:=hC k hk';rw[MH C hk'];exact h3
end Go.Proofs.YtidekgipblnpkaaGreatDoor.Dk
namespace Go.Proofs.YtidekgipblnpkaaGreatDoor.Dk
open Go.RowKit Go.Proofs.Tryz
structure Sa (w:World)(B x p c:Nat)(v:Value)(G:Nat->Prop)(m size:Int)(es:List ay)(s:aJ):Prop where
 Jk:aY w B p m v es
 jL:qg w B c G s
 base:B<=x
 lt:x<w.heap.size
 c0:w.cell? ⟨x,0,none⟩=some (.pointer (some ⟨p,0,none⟩))
 c1:w.cell? ⟨x,1,none⟩=some (.pointer (some ⟨c,0,none⟩))
 c2:w.cell? ⟨x,2,none⟩=some (.int .i64 size)
 free:w.frozen? ⟨x,1,none⟩=false
 ap:∀k,jG p v k->¬G k
 xd:¬jG p v x
 xg:¬G x
def saF (x p:Nat)(v:Value)(G:Nat->Prop)(k:Nat):Prop:=k=x\/jG p v k\/G k
theorem aY.OU {w:World}{B p:Nat}{m:Int}{v:Value}{es:List ay}(h:aY w B p m v es){k:Nat}(hk:jG p v k):B<=k/\k<w.heap.size:=by
 rcases hk with rfl|z
 ·exact⟨h.base,h.lt⟩
 ·obtain⟨_,_,_,_,_,ho⟩:=h.arr.shape;exact(ho k z).2
section
variable {w w1 w':World}{B x p c:Nat}{v:Value}{G A:Nat->Prop}{m size:Int}{es es':List ay}{s s':aJ}
theorem Sa.own (h:Sa w B x p c v G m size es s):∀k,saF x p v G k->B<=k/\k<w.heap.size:=by
 rintro k (rfl|z|z)
 ·exact⟨h.base,h.lt⟩
 ·exact h.Jk.OU z
 ·exact h.jL.own k z
theorem Sa.bZ (h:Sa w B x p c v G m size es s)(hc:aH A w w')(hn:∀k,saF x p v G k->¬A k):Sa w' B x p c v G m size es s:=by
 have hx:=hn x (.inl rfl);exact⟨h.Jk.bZ hc (λk hk=>hn k (.inr (.inl hk))),h.jL.bZ hc (λk hk=>hn k (.inr (.inr hk))),h.base,ajc h.lt hc.size,by rw[hc.cell (p:=⟨x,0,none⟩) h.lt hx];exact h.c0,by rw[hc.cell (p:=⟨x,1,none⟩) h.lt hx];exact h.c1,by rw[hc.cell (p:=⟨x,2,none⟩) h.lt hx];exact h.c2,by rw[hc.frozen (p:=⟨x,1,none⟩) h.lt hx];exact h.free,h.ap,h.xd,h.xg⟩
theorem Sa.below (h:Sa w B x p c v G m size es s)(hb:Below w.heap.size w w'):Sa w' B x p c v G m size es s:=h.bZ (A:=λ_=>False) (aH.aA hb) (λ_ _ z=>z)
theorem Sa.Kr (h:Sa w B x p c v G m size es s)(hu:jm w w' B p m v es'):∃v',Sa w' B x p c v' G m size es' s/\aH (jG p v) w w'/\∀k,jG p v' k->jG p v k\/w.heap.size<=k:=by
 obtain⟨v',k1,hc,ho⟩:=hu;have hg:∀k,jG p v' k->jG p v k\/w.heap.size<=k:=λk hk=>by
  rcases hk with z|z
  ·exact .inl (.inl z)
  ·rcases ho k z with y|y
   ·exact .inl (.inr y)
   ·exact .inr y
 have hx:=h.xd;refine⟨v',⟨k1,h.jL.bZ hc (λk hk z=>h.ap k z hk),h.base,ajc h.lt hc.size,by rw[hc.cell (p:=⟨x,0,none⟩) h.lt hx];exact h.c0,by rw[hc.cell (p:=⟨x,1,none⟩) h.lt hx];exact h.c1,by rw[hc.cell (p:=⟨x,2,none⟩) h.lt hx];exact h.c2,by rw[hc.frozen (p:=⟨x,1,none⟩) h.lt hx];exact h.free,λk hk z=>?_,λz=>?_,h.xg⟩,hc,hg⟩
 ·rcases hg k hk with y|y
  ·exact h.ap k y z
  ·have:=(h.jL.own k z).2;omega
 ·rcases hg x z with y|y
  ·exact h.xd y
  ·have:=h.lt;omega
theorem Sa.did (h:Sa w B x p c v G m size es s)(hu:tZ qg w w' B c G s'):∃G',Sa w' B x p c v G' m size es s'/\aH G w w'/\∀k,G' k->G k\/w.heap.size<=k:=by
 obtain⟨G',k1,hc,ho⟩:=hu;have hx:=h.xg;refine⟨G',⟨h.Jk.bZ hc (λk hk z=>h.ap k hk z),k1,h.base,ajc h.lt hc.size,by rw[hc.cell (p:=⟨x,0,none⟩) h.lt hx];exact h.c0,by rw[hc.cell (p:=⟨x,1,none⟩) h.lt hx];exact h.c1,by rw[hc.cell (p:=⟨x,2,none⟩) h.lt hx];exact h.c2,by rw[hc.frozen (p:=⟨x,1,none⟩) h.lt hx];exact h.free,λk hk z=>?_,h.xd,λz=>?_⟩,hc,ho⟩
 ·rcases ho k z with y|y
  ·exact h.ap k hk y
  ·have:=(h.Jk.OU hk).2;omega
 ·rcases ho x z with y|y
  ·exact h.xg y
  ·have:=h.lt;omega
end
def Rn (F0 Cs:Nat->Prop)(w wr:World)(B x p c:Nat)(m size:Int)(es:List ay)(s:aJ):Prop :=
 ∃v G,Sa wr B x p c v G m size es s/\aH F0 w wr/\(∀k,saF x p v G k->F0 k\/w.heap.size<=k)/\∀k,Cs k->k<wr.heap.size/\¬saF x p v G k
section
variable {F0 Cs jR:Nat->Prop}{w wr w':World}{B x p c:Nat}{m size:Int}{es es':List ay}{s s':aJ}
theorem Rn.room (h:Rn F0 Cs w wr B x p c m size es s):w.heap.size<=wr.heap.size:=by
 obtain⟨_,_,_,h2,_⟩:=h;exact h2.size
theorem Rn.cells (h:Rn F0 Cs w wr B x p c m size es s):wr.cell? ⟨x,0,none⟩=some (.pointer (some ⟨p,0,none⟩))/\wr.cell? ⟨x,1,none⟩=some (.pointer (some ⟨c,0,none⟩))/\wr.cell? ⟨x,2,none⟩=some (.int .i64 size)/\x<wr.heap.size:=by
 obtain⟨_,_,h1,_⟩:=h;exact⟨h1.c0,h1.c1,h1.c2,h1.lt⟩
theorem Rn.lF (h:Rn F0 Cs w wr B x p c m size es s)(hb:Below wr.heap.size wr w')(hn:∀k,jR k->Cs k\/wr.heap.size<=k/\k<w'.heap.size):Rn F0 jR w w' B x p c m size es s:=by
 obtain⟨v,G,h1,h2,h3,h4⟩:=h;refine⟨v,G,h1.below hb,h2.trans (aH.aA hb),h3,λk hk=>?_⟩;rcases hn k hk with y|y
 ·exact⟨ajc (h4 k y).1 hb.size,(h4 k y).2⟩
 ·exact⟨y.2,λz=>by have:=(h1.own k z).2;omega⟩
theorem Rn.below (h:Rn F0 Cs w wr B x p c m size es s)(hb:Below wr.heap.size wr w'):Rn F0 Cs w w' B x p c m size es s:=h.lF hb (λ_ z=>.inl z)
theorem oI {A A':Nat->Prop}{a b d:World}(h:aH A a b)(k:aH A' b d)(hA:∀i,i<a.heap.size->A' i->A i):aH A a d :=
 ⟨k.os.trans h.os,k.tape.trans h.tape,k.output.trans h.output,aje h.size k.size,λi hi hn=>(k.block i (ajc hi h.size) (λz=>hn (hA i hi z))).trans (h.block i hi hn)⟩
theorem Rn.Kr (h:Rn F0 Cs w wr B x p c m size es s){fn:FuncId}{args:Array Value}{Q:Ending->World->Prop}
 (hc:∀v,aY wr B p m v es->Calls prog fn args wr λe w'=>Q e w'/\jm wr w' B p m v es') :
 Calls prog fn args wr λe w'=>Q e w'/\Rn F0 Cs w w' B x p c m size es' s/\aO Cs wr w':=by
 have hr:=h.room;obtain⟨v,G,h1,h2,h3,h4⟩:=h;refine(hc v h1.Jk).mono ?_;rintro e w' ⟨hq,hu⟩;obtain⟨v',a1,a2,a3⟩:=h1.Kr hu;refine⟨hq,⟨v',G,a1,oI h2 a2 (λi hi z=>?_),λk hk=>?_,λk hk=>⟨ajc (h4 k hk).1 a2.size,λz=>?_⟩⟩,a2.size,λk hk=>a2.block k (h4 k hk).1 (λz=>(h4 k hk).2 (.inr (.inl z)))⟩
 ·rcases h3 i (.inr (.inl z)) with y|y
  ·exact y
  ·omega
 ·rcases hk with z|z|z
  ·exact h3 k (.inl z)
  ·rcases a3 k z with y|y
   ·exact h3 k (.inr (.inl y))
   ·exact .inr (aje hr y)
  ·exact h3 k (.inr (.inr z))
 ·rcases z with z|z|z
  ·exact(h4 k hk).2 (.inl z)
  ·rcases a3 k z with y|y
   ·exact(h4 k hk).2 (.inr (.inl y))
   ·have:=(h4 k hk).1;omega
  ·exact(h4 k hk).2 (.inr (.inr z))
theorem Rn.did (h:Rn F0 Cs w wr B x p c m size es s){fn:FuncId}{args:Array Value}{Q:Ending->World->Prop}
 (hc:∀G,qg wr B c G s->Calls prog fn args wr λe w'=>Q e w'/\tZ qg wr w' B c G s') :
 Calls prog fn args wr λe w'=>Q e w'/\Rn F0 Cs w w' B x p c m size es s'/\aO Cs wr w':=by
 have hr:=h.room;obtain⟨v,G,h1,h2,h3,h4⟩:=h;refine(hc G h1.jL).mono ?_;rintro e w' ⟨hq,hu⟩;obtain⟨G',a1,a2,a3⟩:=h1.did hu;refine⟨hq,⟨v,G',a1,oI h2 a2 (λi hi z=>?_),λk hk=>?_,λk hk=>⟨ajc (h4 k hk).1 a2.size,λz=>?_⟩⟩,a2.size,λk hk=>a2.block k (h4 k hk).1 (λz=>(h4 k hk).2 (.inr (.inr z)))⟩
 ·rcases h3 i (.inr (.inr z)) with y|y
  ·exact y
  ·omega
 ·rcases hk with z|z|z
  ·exact h3 k (.inl z)
  ·exact h3 k (.inr (.inl z))
  ·rcases a3 k z with y|y
   ·exact h3 k (.inr (.inr y))
   ·exact .inr (aje hr y)
 ·rcases z with z|z|z
  ·exact(h4 k hk).2 (.inl z)
  ·exact(h4 k hk).2 (.inr (.inl z))
  ·rcases a3 k z with y|y
   ·exact(h4 k hk).2 (.inr (.inr y))
   ·have:=(h4 k hk).1;omega
end
def KH (p:Nat)(w:World)(B x:Nat)(F:Nat->Prop)(m size:Int)(es:List ay)(s:aJ):Prop:=∃c v G,Sa w B x p c v G m size es s/\∀k,F k↔saF x p v G k
section
variable {w w':World}{B x p:Nat}{F A:Nat->Prop}{m size:Int}{es:List ay}{s:aJ}
theorem KH.begin (h:KH p w B x F m size es s):∃c,Rn F (λ_=>False) w w B x p c m size es s/\∀Cs wr c' es' s',Rn F Cs w wr B x p c' m size es' s'->OB (KH p) w wr B x F m size es' s':=by
 obtain⟨c,v,G,h1,h2⟩:=h;refine⟨c,⟨v,G,h1,aH.refl _ _,λk z=>.inl ((h2 k).2 z),λ_ z=>z.elim⟩,λCs wr c' es' s' hr=>?_⟩;obtain⟨v',G',r1,r2,r3,_⟩:=hr;exact⟨_,⟨c',v',G',r1,λk=>amq⟩,r2,r3⟩
theorem KH.own (h:KH p w B x F m size es s):∀k,F k->B<=k/\k<w.heap.size:=by
 obtain⟨c,v,G,h1,h2⟩:=h;exact λk hk=>h1.own k ((h2 k).1 hk)
theorem KH.bZ (h:KH p w B x F m size es s)(hc:aH A w w')(hn:∀k,F k->¬A k):KH p w' B x F m size es s:=by
 obtain⟨c,v,G,h1,h2⟩:=h;exact⟨c,v,G,h1.bZ hc (λk hk=>hn k ((h2 k).2 hk)),h2⟩
theorem KH.lU (h:KH p w B x F m size es s):∃c v G,w.cell? ⟨x,0,none⟩=some (.pointer (some ⟨p,0,none⟩))/\w.cell? ⟨x,1,none⟩=some (.pointer (some ⟨c,0,none⟩))/\x<w.heap.size/\aY w B p m v es/\qg w B c G s:=by
 obtain⟨c,v,G,h1,_⟩:=h;exact⟨c,v,G,h1.c0,h1.c1,h1.lt,h1.Jk,h1.jL⟩
end
end Go.Proofs.YtidekgipblnpkaaGreatDoor.Dk
