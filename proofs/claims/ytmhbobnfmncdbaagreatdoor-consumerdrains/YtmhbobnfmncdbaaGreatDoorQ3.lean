/- A part. -/
import Derived.Test.YtmhbobnfmncdbaaGreatDoorQ0
import Derived.Lib.SmallJoins
set_option maxRecDepth 100000
set_option maxHeartbeats 8000000
namespace Go.Proofs.YtmhbobnfmncdbaaGreatDoor
open Go.Joins Go.Deep Go.WideShapes Go.ChangeShapes Go.ChangeAt Go.RowKit Go.Proofs.Tryz
section
variable {H:Type}{enc:TypeId×Value->H}{P:Program}{w:World}{base:Nat}{spare:Nat->Bool}{held:Bool}
theorem VJ {α:Type}{cs:Array α}(h:cs.size=10):∃c0 c1 c2 c3 c4 c5 c6 c7 c8 c9,cs=#[c0,c1,c2,c3,c4,c5,c6,c7,c8,c9]:=by
 obtain⟨l⟩:=cs;match l,h with
 | [c0,c1,c2,c3,c4,c5,c6,c7,c8,c9],_=>exact⟨c0,c1,c2,c3,c4,c5,c6,c7,c8,c9,rfl⟩
theorem zq {t:TypeId}{f0 f1 f2 f3 f4 f5 f6 f7 f8 f9:Field}{fuel:Nat}{cs:List Value}{x:DataW H×List MemPlace}(ht:P.underlying t=some (.struct #[f0,f1,f2,f3,f4,f5,f6,f7,f8,f9]))(h:DataW.trod enc P w base spare held fuel t cs=some x) :
 ∃y0 y1 y2 y3 y4 y5 y6 y7 y8 y9 n,x=(.agg [y0.1,y1.1,y2.1,y3.1,y4.1,y5.1,y6.1,y7.1,y8.1,y9.1],y0.2++(y1.2++(y2.2++(y3.2++(y4.2++(y5.2++(y6.2++(y7.2++(y8.2++(y9.2))))))))))/\DataW.trod enc P w base spare held n f0.type ((cs.drop f0.offset).take (P.cellsOf f0.type))=some y0/\DataW.trod enc P w base spare held n f1.type ((cs.drop f1.offset).take (P.cellsOf f1.type))=some y1/\DataW.trod enc P w base spare held n f2.type ((cs.drop f2.offset).take (P.cellsOf f2.type))=some y2/\DataW.trod enc P w base spare held n f3.type ((cs.drop f3.offset).take (P.cellsOf f3.type))=some y3/\DataW.trod enc P w base spare held n f4.type ((cs.drop f4.offset).take (P.cellsOf f4.type))=some y4/\DataW.trod enc P w base spare held n f5.type ((cs.drop f5.offset).take (P.cellsOf f5.type))=some y5/\DataW.trod enc P w base spare held n f6.type ((cs.drop f6.offset).take (P.cellsOf f6.type))=some y6/\DataW.trod enc P w base spare held n f7.type ((cs.drop f7.offset).take (P.cellsOf f7.type))=some y7/\DataW.trod enc P w base spare held n f8.type ((cs.drop f8.offset).take (P.cellsOf f8.type))=some y8/\DataW.trod enc P w base spare held n f9.type ((cs.drop f9.offset).take (P.cellsOf f9.type))=some y9:=by
 obtain⟨xs,n,_,rfl,hl,hlen,hf⟩:=DataW.trod_struct ht h;match xs,hlen with
 | [y0,y1,y2,y3,y4,y5,y6,y7,y8,y9],_=>exact⟨y0,y1,y2,y3,y4,y5,y6,y7,y8,y9,n,by simp,by simpa using hf 0 f0 rfl,by simpa using hf 1 f1 rfl,by simpa using hf 2 f2 rfl,by simpa using hf 3 f3 rfl,by simpa using hf 4 f4 rfl,by simpa using hf 5 f5 rfl,by simpa using hf 6 f6 rfl,by simpa using hf 7 f7 rfl,by simpa using hf 8 f8 rfl,by simpa using hf 9 f9 rfl⟩
theorem Ij {r:Reach}{b0:Nat}{t:TypeId}{f0 f1 f2 f3 f4 f5 f6 f7 f8 f9:Field}{v:Value}{d:DataW H}{p:List MemPlace}(hs:P.underlying t=some (.struct #[f0,f1,f2,f3,f4,f5,f6,f7,f8,f9]))(hone:oneCellFields P #[f0,f1,f2,f3,f4,f5,f6,f7,f8,f9]=true)(hC:P.cellsOf t=10)
 (hv:Value.okWide P w r b0 t v) (h:DataW.Trod enc P w base spare held t v d p) :
 ∃(v0 v1 v2 v3 v4 v5 v6 v7 v8 v9:Value) (y0 y1 y2 y3 y4 y5 y6 y7 y8 y9:DataW H×List MemPlace) (n:Nat),v=.agg #[v0,v1,v2,v3,v4,v5,v6,v7,v8,v9]/\d=.agg [y0.1,y1.1,y2.1,y3.1,y4.1,y5.1,y6.1,y7.1,y8.1,y9.1]/\DataW.trod enc P w base spare held n f0.type [v0]=some y0/\DataW.trod enc P w base spare held n f1.type [v1]=some y1/\DataW.trod enc P w base spare held n f2.type [v2]=some y2/\DataW.trod enc P w base spare held n f3.type [v3]=some y3/\DataW.trod enc P w base spare held n f4.type [v4]=some y4/\DataW.trod enc P w base spare held n f5.type [v5]=some y5/\DataW.trod enc P w base spare held n f6.type [v6]=some y6/\DataW.trod enc P w base spare held n f7.type [v7]=some y7/\DataW.trod enc P w base spare held n f8.type [v8]=some y8/\DataW.trod enc P w base spare held n f9.type [v9]=some y9:=by
 obtain⟨cs,rfl,hsz⟩:=okWide_struct hs hv;obtain⟨c0,c1,c2,c3,c4,c5,c6,c7,c8,c9,rfl⟩:=VJ (hsz.trans hC);obtain⟨fuel,hf⟩:=h;obtain⟨y0,y1,y2,y3,y4,y5,y6,y7,y8,y9,n,hx,h0,h1,h2,h3,h4,h5,h6,h7,h8,h9⟩:=zq hs hf;obtain⟨o0,k0⟩:=hone_of hone 0 f0 rfl;obtain⟨o1,k1⟩:=hone_of hone 1 f1 rfl;obtain⟨o2,k2⟩:=hone_of hone 2 f2 rfl;obtain⟨o3,k3⟩:=hone_of hone 3 f3 rfl;obtain⟨o4,k4⟩:=hone_of hone 4 f4 rfl;obtain⟨o5,k5⟩:=hone_of hone 5 f5 rfl;obtain⟨o6,k6⟩:=hone_of hone 6 f6 rfl;obtain⟨o7,k7⟩:=hone_of hone 7 f7 rfl;obtain⟨o8,k8⟩:=hone_of hone 8 f8 rfl;obtain⟨o9,k9⟩:=hone_of hone 9 f9 rfl;simp only[Prod.mk.injEq] at hx
 exact⟨c0,c1,c2,c3,c4,c5,c6,c7,c8,c9,y0,y1,y2,y3,y4,y5,y6,y7,y8,y9,n,rfl,hx.1,by simpa[Value.cells,o0,k0] using h0,by simpa[Value.cells,o1,k1] using h1,by simpa[Value.cells,o2,k2] using h2,by simpa[Value.cells,o3,k3] using h3,by simpa[Value.cells,o4,k4] using h4,by simpa[Value.cells,o5,k5] using h5,by simpa[Value.cells,o6,k6] using h6,by simpa[Value.cells,o7,k7] using h7,by simpa[Value.cells,o8,k8] using h8,by simpa[Value.cells,o9,k9] using h9⟩
theorem Ik {P:Program}{e:TypeId}{d:DataW H}{x:Nat}(hx:x∈d.weights P e):∀{l:List (DataW H)},d∈l->x∈DataW.weightsAll P e l
 | a::r,h=>by
  simp only[DataW.weightsAll,List.mem_append];rcases List.mem_cons.1 h with q|q
  ·subst q;exact .inl hx
  ·exact .inr (Ik hx q)
end
theorem VK:prog.cellsOf 3=1:=by kernel_rfl
theorem Yk:prog.bytesOf 3=8:=by kernel_rfl
theorem Yl:prog.cellsOf 24=10:=by kernel_rfl
theorem xJ {H:Type}{enc:TypeId×Value->H}{W:World}{base:Nat}{v:Value}{d:DataW H}{p:List MemPlace}(hv:Value.okWide prog W .any base 24 v)(h:DataW.Trod enc prog W 0 (λ_=>true) true 24 v d p)(hw:∀x∈DataW.weights prog 24 d,x<=reachBytes) :
 ∃(t:Tk.bV) (a:Option Addr) (c:Nat),v=oH t a c/\iQ t/\Dk.jQ W a t.bo/\t.bo.length<=c:=by
 obtain⟨u0,u1,u2,u3,u4,u5,u6,u7,u8,u9,y0,y1,y2,y3,y4,y5,y6,y7,y8,y9,m,rfl,hd,g0,g1,g2,g3,g4,g5,g6,g7,g8,g9⟩:=Ij underlying24 (by kernel_rfl) Yl hv h;obtain⟨n,e0,q0,_⟩:=DataW.trod_string underlying9 g0;obtain⟨f,e1,q1,_⟩:=DataW.trod_string underlying9 g1;obtain⟨x0,e2,q2,_⟩:=DataW.trod_int underlying3 g2;obtain⟨x1,e3,q3,_⟩:=DataW.trod_int underlying3 g3;obtain⟨x2,e4,q4,_⟩:=DataW.trod_int underlying3 g4;obtain⟨x3,e5,q5,_⟩:=DataW.trod_int underlying3 g5;obtain⟨x5,e7,q7,_⟩:=DataW.trod_int underlying3 g7;obtain⟨x6,e8,q8,_⟩:=DataW.trod_int underlying3 g8
 obtain⟨x7,e9,q9⟩:=DataW.trod_bool underlying4 g9;simp only[List.cons.injEq,and_true] at e0 e1 e2 e3 e4 e5 e7 e8 e9;subst e0 e1 e2 e3 e4 e5 e7 e8 e9;have hz:n.size<=140737488355328:=by
  have h:=hw n.data.toList.length (by rw[hd,q0];simp[DataW.weights,DataW.weightsEach,underlying24]);have e:n.data.toList.length=n.size:=by simp
  unfold reachBytes at h;omega
 have hz1:f.size<=140737488355328:=by
  have h:=hw f.data.toList.length (by rw[hd,q1];simp[DataW.weights,DataW.weightsEach,underlying24]);have e:f.data.toList.length=f.size:=by simp
  unfold reachBytes at h;omega
 rcases Go.ChangeShapes.open_ints underlying22 underlying3 VK g6 with ⟨hcs,hx⟩|⟨a,len,cap,zs,hcs,hb,hl,hm,hlen,hx,hel,_⟩
 ·simp only[List.cons.injEq,and_true] at hcs;subst hcs;exact⟨⟨n,f,x0,x1,x2,x3,[],x5,x6,x7⟩,none,0,rfl,⟨hz,hz1,by simp⟩,λk hk=>by simp at hk,by simp⟩
 ·simp only[List.cons.injEq,and_true] at hcs;subst hcs;simp only[if_true] at hlen;have hsub:∀y∈DataW.weights (H:=H) prog 22 y6.1,y<=reachBytes:=λy hy=>hw y (by
   rw[hd];simp only[DataW.weights,underlying24];simp only[List.map_cons,List.map_nil];exact DataW.weights_mem_each (j:=6) rfl rfl _ hy)
  obtain⟨bm,om,spot⟩:=a;have hspot:len=0\/spot=none:=by
   by_cases h0:len=0
   ·exact .inl h0
   ·right;simpa[Addr.add] using World.cell?_spot (hel 0 (by omega))
  have htl:(zs.take len).length=len:=by rw[List.length_take];omega
  rcases hspot with h0|rfl
  ·subst h0;exact⟨⟨n,f,x0,x1,x2,x3,[],x5,x6,x7⟩,some ⟨bm,om,spot⟩,cap,rfl,⟨hz,hz1,by simp⟩,λk hk=>by simp at hk,by simp⟩
  ·refine⟨⟨n,f,x0,x1,x2,x3,zs.take len,x5,x6,x7⟩,some ⟨bm,om,none⟩,cap,by simp[oH,htl];try omega,⟨hz,hz1,?_⟩,λk hk=>?_,by simp only[htl];exact hl⟩
   ·simp only[htl];have hh:=hsub (((lits (H:=H) .i64 (zs.take len)).length+(lits (H:=H) .i64 (zs.drop len)).length)*prog.bytesOf 3) (by
     have e:y6.1=DataW.slice (lits .i64 (zs.take len)) (lits .i64 (zs.drop len)):=by rw[hx]
     rw[e];simp[DataW.weights,underlying22])
    have hl1:(lits (H:=H) .i64 (zs.take len)).length=len:=by unfold lits;rw[List.length_map];exact htl
    rw[hl1] at hh;rw[Yk] at hh;unfold reachBytes at hh;omega
   ·have hk':k<len:=by simpa[htl] using hk
    have f0:=hel k (by omega);simp only[add_plain] at f0;refine⟨bm,om,rfl,World.block_lt_of_cell? _ _ f0,?_⟩;rw[f0];simp only[Dk.nth];rw[List.getElem?_take_of_lt hk',List.getD_eq_getElem?_getD]
end Go.Proofs.YtmhbobnfmncdbaaGreatDoor
namespace Go.Proofs.YtmhbobnfmncdbaaGreatDoor
open Go.Joins Go.Deep Go.WideShapes Go.Proofs.Tryz
section
variable {H:Type}{enc:TypeId×Value->H}{P:Program}{w:World}{base:Nat}{spare:Nat->Bool}{held:Bool}
theorem Ym {α:Type}{cs:Array α}(h:cs.size=6):∃c0 c1 c2 c3 c4 c5,cs=#[c0,c1,c2,c3,c4,c5]:=by
 obtain⟨l⟩:=cs;match l,h with
 | [c0,c1,c2,c3,c4,c5],_=>exact⟨c0,c1,c2,c3,c4,c5,rfl⟩
theorem mM {t:TypeId}{f0 f1 f2 f3 f4 f5:Field}{fuel:Nat}{cs:List Value}{x:DataW H×List MemPlace}(ht:P.underlying t=some (.struct #[f0,f1,f2,f3,f4,f5]))(h:DataW.trod enc P w base spare held fuel t cs=some x) :
 ∃y0 y1 y2 y3 y4 y5 n,x=(.agg [y0.1,y1.1,y2.1,y3.1,y4.1,y5.1],y0.2++(y1.2++(y2.2++(y3.2++(y4.2++y5.2)))))/\DataW.trod enc P w base spare held n f0.type ((cs.drop f0.offset).take (P.cellsOf f0.type))=some y0 /\
  DataW.trod enc P w base spare held n f1.type ((cs.drop f1.offset).take (P.cellsOf f1.type))=some y1/\DataW.trod enc P w base spare held n f2.type ((cs.drop f2.offset).take (P.cellsOf f2.type))=some y2 /\
  DataW.trod enc P w base spare held n f3.type ((cs.drop f3.offset).take (P.cellsOf f3.type))=some y3/\DataW.trod enc P w base spare held n f4.type ((cs.drop f4.offset).take (P.cellsOf f4.type))=some y4 /\
  DataW.trod enc P w base spare held n f5.type ((cs.drop f5.offset).take (P.cellsOf f5.type))=some y5:=by
 obtain⟨xs,n,_,rfl,hl,hlen,hf⟩:=DataW.trod_struct ht h;match xs,hlen with
 | [y0,y1,y2,y3,y4,y5],_=>exact⟨y0,y1,y2,y3,y4,y5,n,by simp,by simpa using hf 0 f0 rfl,by simpa using hf 1 f1 rfl,by simpa using hf 2 f2 rfl,by simpa using hf 3 f3 rfl,by simpa using hf 4 f4 rfl,by simpa using hf 5 f5 rfl⟩
theorem ZF {r:Reach}{b0:Nat}{t:TypeId}{f0 f1 f2 f3 f4 f5:Field}{v:Value}{d:DataW H}{p:List MemPlace}(hs:P.underlying t=some (.struct #[f0,f1,f2,f3,f4,f5]))(hone:oneCellFields P #[f0,f1,f2,f3,f4,f5]=true)(hC:P.cellsOf t=6)
 (hv:Value.okWide P w r b0 t v) (h:DataW.Trod enc P w base spare held t v d p) :
 ∃(v0 v1 v2 v3 v4 v5:Value) (y0 y1 y2 y3 y4 y5:DataW H×List MemPlace) (n:Nat),v=.agg #[v0,v1,v2,v3,v4,v5]/\d=.agg [y0.1,y1.1,y2.1,y3.1,y4.1,y5.1]/\p=y0.2++(y1.2++(y2.2++(y3.2++(y4.2++y5.2)))) /\
  DataW.trod enc P w base spare held n f0.type [v0]=some y0/\DataW.trod enc P w base spare held n f1.type [v1]=some y1/\DataW.trod enc P w base spare held n f2.type [v2]=some y2 /\
  DataW.trod enc P w base spare held n f3.type [v3]=some y3/\DataW.trod enc P w base spare held n f4.type [v4]=some y4/\DataW.trod enc P w base spare held n f5.type [v5]=some y5:=by
 obtain⟨cs,rfl,hsz⟩:=okWide_struct hs hv;obtain⟨c0,c1,c2,c3,c4,c5,rfl⟩:=Ym (hsz.trans hC);obtain⟨fuel,hf⟩:=h;obtain⟨y0,y1,y2,y3,y4,y5,n,hx,h0,h1,h2,h3,h4,h5⟩:=mM hs hf;obtain⟨o0,k0⟩:=hone_of hone 0 f0 rfl;obtain⟨o1,k1⟩:=hone_of hone 1 f1 rfl;obtain⟨o2,k2⟩:=hone_of hone 2 f2 rfl;obtain⟨o3,k3⟩:=hone_of hone 3 f3 rfl;obtain⟨o4,k4⟩:=hone_of hone 4 f4 rfl;obtain⟨o5,k5⟩:=hone_of hone 5 f5 rfl;simp only[Prod.mk.injEq] at hx;exact⟨c0,c1,c2,c3,c4,c5,y0,y1,y2,y3,y4,y5,n,rfl,hx.1,hx.2,by simpa[Value.cells,o0,k0] using h0,by simpa[Value.cells,o1,k1] using h1,by simpa[Value.cells,o2,k2] using h2,by simpa[Value.cells,o3,k3] using h3,by simpa[Value.cells,o4,k4] using h4,by simpa[Value.cells,o5,k5] using h5⟩
end
end Go.Proofs.YtmhbobnfmncdbaaGreatDoor
