/- A part. -/
import Derived.Test.YtmhbobnfmncdbaaGreatDoorQ8
set_option maxRecDepth 100000
set_option maxHeartbeats 8000000
namespace Go.Proofs.YtmhbobnfmncdbaaGreatDoor
open Go.Joins Go.Deep Go.WideShapes Go.ChangeShapes Go.ChangeAt Go.RowKit Go.Proofs.Tryz
namespace Dk
theorem wB:prog.cellsOf 33=6:=by kernel_rfl
theorem wC:prog.cellsOf 3=1:=by kernel_rfl
theorem Dp:prog.cellsOf 9=1:=by kernel_rfl
theorem pG {H:Type}{P:Program}{e:TypeId}{d:DataW H}{x:Nat}(hx:x∈d.weights P e):∀{l:List (DataW H)},d∈l->x∈DataW.weightsAll P e l
 | a::r,h=>by
  simp only[DataW.weightsAll,List.mem_append];rcases List.mem_cons.1 h with q|q
  ·subst q;exact .inl hx
  ·exact .inr (pG hx q)
theorem JI {H:Type}{enc:TypeId×Value->H}{W:World}{base:Nat}{v:Value}{d:DataW H}{pl:List MemPlace}(hv:Value.okWide prog W .any base 25 v)(h:DataW.Trod enc prog W 0 (λ_=>true) true 25 v d pl)(hw:∀x∈DataW.weights prog 25 d,x<=reachBytes) :
 ∃(a:Option Addr) (l:List Rc) (c:Nat),v=.slice a l.length c/\ug W a l/\∀k,k<l.length->Small (rc l k):=by
 obtain⟨aR,lu,Uh,rfl⟩:=okWide_slice underlying25 hv;obtain⟨WX,YQ⟩:=h;obtain⟨C,hC⟩:∃C:Nat->Rc,∀i,i<lu->∃b o,aR=some ⟨b,o,none⟩/\Six W b (o+i*6) (C i)/\Small (C i):=by
  rcases open_slice underlying25 YQ with ⟨hcs,hx⟩|⟨a,len',cap',m,n,D,Pl,hcs,hb,hl,hm,hmm,hx,hel⟩
  ·simp[Value.cells] at hcs;obtain⟨rfl,rfl,rfl⟩:=hcs;exact⟨λ_=>⟨0,0,0,ByteArray.empty,ByteArray.empty,ByteArray.empty⟩,λi hi=>absurd hi (Nat.not_lt_zero i)⟩
  ·simp[Value.cells] at hcs;obtain⟨rfl,rfl,rfl⟩:=hcs;simp only[Prod.mk.injEq] at hx;obtain⟨rfl,rfl⟩:=hx;have hlm:lu<=m:=by rw[hmm];split<;>omega
   have hRc:Inhabited Rc:=⟨⟨0,0,0,ByteArray.empty,ByteArray.empty,ByteArray.empty⟩⟩;refine choose_lt (p:=λi (c:Rc)=>∃b o,some a=some ⟨b,o,none⟩/\Six W b (o+i*6) c/\Small c) (λi hi=>?_);obtain⟨cs',h1,h2⟩:=hel i (by omega);rw[wB] at h1;obtain⟨_,hlen,hcell⟩:=World.cells?_some h1;obtain⟨x0,x1,x2,x3,x4,x5,n'',hxy,t0,t1,t2,t3,t4,t5⟩:=kN underlying33 h2;match cs',hlen with
   | [c2,c3,c4,c5,c6,c7],_ =>
    simp only[wC,Dp,List.drop_zero,List.drop_succ_cons,List.take_succ_cons,List.take_zero] at t0 t1 t2 t3 t4 t5;obtain⟨k2,e2,e2',_⟩:=DataW.trod_int underlying3 t0;obtain⟨k3,e3,e3',_⟩:=DataW.trod_int underlying3 t1;obtain⟨k4,e4,e4',_⟩:=DataW.trod_int underlying3 t2;obtain⟨s5,e5,e5',_⟩:=DataW.trod_string underlying9 t3;obtain⟨s6,e6,e6',_⟩:=DataW.trod_string underlying9 t4;obtain⟨s7,e7,e7',_⟩:=DataW.trod_string underlying9 t5;simp only[List.cons.injEq,and_true] at e2 e3 e4 e5 e6 e7;subst e2 e3 e4 e5 e6 e7 e2' e3' e4' e5' e6' e7';obtain⟨bm,om,spot⟩:=a;have f2:=hcell 0 (by omega)
    have f3:=hcell 1 (by omega);have f4:=hcell 2 (by omega);have f5:=hcell 3 (by omega);have f6:=hcell 4 (by omega);have f7:=hcell 5 (by omega);rw[add_add] at f2 f3 f4 f5 f6 f7;obtain⟨cs0,z1,_⟩:=hel 0 (by omega);rw[wB] at z1;obtain⟨_,zl,zc⟩:=World.cells?_some z1;have z:=zc 0 (by omega);rw[List.getElem?_eq_getElem (by omega)] at z;have hspot:spot=none:=by simpa[Addr.add] using World.cell?_spot z
    subst hspot;simp only[add_plain] at f2 f3 f4 f5 f6 f7;have hD:D i=.agg [.lit (.int .i64 k2),.lit (.int .i64 k3),.lit (.int .i64 k4),.lit (.string s5.data.toList),.lit (.string s6.data.toList),.lit (.string s7.data.toList)]:=by simp only[Prod.mk.injEq] at hxy;exact hxy.1
    have hmem:∀x,x∈[s5.data.toList.length,s6.data.toList.length,s7.data.toList.length]->x∈DataW.weights prog 25 (DataW.slice ((List.range lu).map D) ((List.range (m-lu)).map λj=>D (lu+j))):=by
     intro x hx;simp only[DataW.weights,underlying25,List.mem_cons,List.mem_append];refine .inr (.inl (pG (d:=D i) ?_ (List.mem_map.2 ⟨i,List.mem_range.2 hi,rfl⟩)));rw[hD];simp[DataW.weights,DataW.weightsEach,underlying33];simpa using hx
    have hall:∀x,x∈[s5.data.toList.length,s6.data.toList.length,s7.data.toList.length]->x<=140737488355328:=λx hx=>by
     have hle:=hw x (hmem x hx);unfold reachBytes at hle;omega
    have hsm:Small ⟨k2,k3,k4,s5,s6,s7⟩:=⟨by have:=hall s5.data.toList.length (by simp);simpa using this,by have:=hall s6.data.toList.length (by simp);simpa using this,by have:=hall s7.data.toList.length (by simp);simpa using this⟩;exact⟨⟨k2,k3,k4,s5,s6,s7⟩,bm,om,rfl,⟨World.block_lt_of_cell? _ _ f2,by simpa using f2,by rw[Nat.add_assoc];simpa using f3,by rw[Nat.add_assoc];simpa using f4,by rw[Nat.add_assoc];simpa using f5,by rw[Nat.add_assoc];simpa using f6,by rw[Nat.add_assoc];simpa using f7⟩,hsm⟩
 have hrc:∀k,k<lu->rc ((List.range lu).map C) k=C k:=λk hk=>by unfold rc;rw[List.getElem?_map,List.getElem?_range hk];rfl
 refine⟨aR,(List.range lu).map C,Uh,by simp,λk hk=>?_,λk hk=>?_⟩
 ·have hk':k<lu:=by simpa using hk
  obtain⟨b,o,h1,h2,_⟩:=hC k hk';rw[hrc k hk'];exact⟨b,o,h1,h2⟩
 ·have hk':k<lu:=by simpa using hk
  obtain⟨_,_,_,_,h3⟩:=hC k hk';rw[hrc k hk'];exact h3
structure wE where
 k:Int
 now:Int
 q:Int
 so:Int
 n:Int
 r:Rc
def NI:wE:=⟨0,0,0,0,0,⟨0,0,0,ByteArray.empty,ByteArray.empty,ByteArray.empty⟩⟩
def VG (l:List wE)(k:Nat):wE:=l[k]?.getD NI
def QO (c:wE):List Value:=[.int .i64 c.k,.int .i64 c.now,.int .i64 c.q,.int .i64 c.so,.int .i64 c.n,.int .i64 c.r.k,.int .i64 c.r.q,.int .i64 c.r.t,.string c.r.s,.string c.r.h,.string c.r.d]
def JJ (w:World)(b o:Nat)(c:wE):Prop:=b<w.heap.size/\∀j u,(QO c)[j]?=some u->w.cell? ⟨b,o+j,none⟩=some u
theorem JJ.keep {w w':World}{b o:Nat}{c:wE}(h:JJ w b o c)(hs:w.heap.size<=w'.heap.size)(hb:w'.heap[b]?=w.heap[b]?):JJ w' b o c :=
 ⟨Nat.lt_of_lt_of_le h.1 hs,λj u hu=>by rw[World.cell?_of_block (w:=w) (a:=⟨b,o+j,none⟩) hb];exact h.2 j u hu⟩
def Dq (w:World)(a:Option Addr)(l:List wE):Prop:=∀k,k<l.length->∃b o,a=some ⟨b,o,none⟩/\JJ w b (o+k*11) (VG l k)
theorem Dq.from {B:Nat}{w w':World}{a:Option Addr}{l:List wE}(h:Dq w a l)(hb:Below B w w')(hB:w.heap.size<=B):Dq w' a l:=λk hk=>by
 obtain⟨b,o,e,h2⟩:=h k hk;exact⟨b,o,e,h2.keep hb.size (hb.block b (Nat.lt_of_lt_of_le h2.1 hB))⟩
section
variable {H:Type}{enc:TypeId×Value->H}{P:Program}{w:World}{base:Nat}{spare:Nat->Bool}{held:Bool}
theorem wU {t:TypeId}{f0 f1 f2 f3 f4:Field}{fuel:Nat}{cs:List Value}{x:DataW H×List MemPlace}(ht:P.underlying t=some (.struct #[f0,f1,f2,f3,f4]))(h:DataW.trod enc P w base spare held fuel t cs=some x) :
 ∃y0 y1 y2 y3 y4 n,x=(.agg [y0.1,y1.1,y2.1,y3.1,y4.1],y0.2++(y1.2++(y2.2++(y3.2++y4.2))))/\DataW.trod enc P w base spare held n f0.type ((cs.drop f0.offset).take (P.cellsOf f0.type))=some y0 /\
  DataW.trod enc P w base spare held n f1.type ((cs.drop f1.offset).take (P.cellsOf f1.type))=some y1/\DataW.trod enc P w base spare held n f2.type ((cs.drop f2.offset).take (P.cellsOf f2.type))=some y2 /\
  DataW.trod enc P w base spare held n f3.type ((cs.drop f3.offset).take (P.cellsOf f3.type))=some y3/\DataW.trod enc P w base spare held n f4.type ((cs.drop f4.offset).take (P.cellsOf f4.type))=some y4:=by
 obtain⟨xs,n,_,rfl,hl,hlen,hf⟩:=DataW.trod_struct ht h;match xs,hlen with
 | [y0,y1,y2,y3,y4],_=>exact⟨y0,y1,y2,y3,y4,n,by simp,by simpa using hf 0 f0 rfl,by simpa using hf 1 f1 rfl,by simpa using hf 2 f2 rfl,by simpa using hf 3 f3 rfl,by simpa using hf 4 f4 rfl⟩
theorem wV {t:TypeId}{f0 f1:Field}{fuel:Nat}{cs:List Value}{x:DataW H×List MemPlace}(ht:P.underlying t=some (.struct #[f0,f1]))(h:DataW.trod enc P w base spare held fuel t cs=some x) :
 ∃y0 y1 n,x=(.agg [y0.1,y1.1],y0.2++y1.2)/\DataW.trod enc P w base spare held n f0.type ((cs.drop f0.offset).take (P.cellsOf f0.type))=some y0 /\
  DataW.trod enc P w base spare held n f1.type ((cs.drop f1.offset).take (P.cellsOf f1.type))=some y1:=by
 obtain⟨xs,n,_,rfl,hl,hlen,hf⟩:=DataW.trod_struct ht h;match xs,hlen with
 | [y0,y1],_=>exact⟨y0,y1,n,by simp,by simpa using hf 0 f0 rfl,by simpa using hf 1 f1 rfl⟩
end
theorem Ia:prog.cellsOf 45=11:=by kernel_rfl
theorem NJ:prog.cellsOf 43=2:=by kernel_rfl
theorem yJ (C:Nat->wE){n k:Nat}(h:k<n):VG ((List.range n).map C) k=C k:=by unfold VG;simp[h]
theorem EX {H:Type}{enc:TypeId×Value->H}{W:World}{base:Nat}{v:Value}{d:DataW H}{pl:List MemPlace}(hv:Value.okWide prog W .any base 26 v)(h:DataW.Trod enc prog W 0 (λ_=>true) true 26 v d pl)(hw:∀x∈DataW.weights prog 26 d,x<=reachBytes) :
 ∃(a:Option Addr) (l:List wE) (c:Nat),v=.slice a l.length c/\Dq W a l/\∀k,k<l.length->Small (VG l k).r:=by
 obtain⟨aR,lu,Uh,rfl⟩:=okWide_slice underlying26 hv;obtain⟨WX,YQ⟩:=h;obtain⟨C,hC⟩:∃C:Nat->wE,∀i,i<lu->∃b o,aR=some ⟨b,o,none⟩/\JJ W b (o+i*11) (C i)/\Small (C i).r:=by
  rcases open_slice underlying26 YQ with ⟨hcs,hx⟩|⟨a,len',cap',m,n,D,Pl,hcs,hb,hl,hm,hmm,hx,hel⟩
  ·simp[Value.cells] at hcs;obtain⟨rfl,rfl,rfl⟩:=hcs;exact⟨λ_=>NI,λi hi=>absurd hi (Nat.not_lt_zero i)⟩
  ·simp[Value.cells] at hcs;obtain⟨rfl,rfl,rfl⟩:=hcs;simp only[Prod.mk.injEq] at hx;obtain⟨rfl,rfl⟩:=hx;have hlm:lu<=m:=by rw[hmm];split<;>omega
   have hI:Inhabited wE:=⟨NI⟩;refine choose_lt (p:=λi (c:wE)=>∃b o,some a=some ⟨b,o,none⟩/\JJ W b (o+i*11) c/\Small c.r) (λi hi=>?_);obtain⟨cs',h1,h2⟩:=hel i (by omega);rw[Ia] at h1;obtain⟨_,hlen,hcell⟩:=World.cells?_some h1;obtain⟨x0,x1,x2,x3,x4,n'',hxy,t0,t1,t2,t3,t4⟩:=wU underlying45 h2;match cs',hlen with
   | [q0,q1,q2,q3,q4,q5,q6,q7,q8,q9,q10],_ =>
    simp only[wC,wB,NJ,List.drop_zero,List.drop_succ_cons,List.take_succ_cons,List.take_zero] at t0 t1 t2 t3 t4;obtain⟨u0,u1,n2,hxu,r0,r1⟩:=wV underlying43 t3;obtain⟨z0,z1,z2,z3,z4,z5,n3,hxz,s0,s1,s2,s3,s4,s5⟩:=kN underlying33 t4;simp only[wC,Dp,List.drop_zero,List.drop_succ_cons,List.take_succ_cons,List.take_zero] at r0 r1 s0 s1 s2 s3 s4 s5;obtain⟨k0,e0,g0,_⟩:=DataW.trod_int underlying3 t0;obtain⟨k1,e1,g1,_⟩:=DataW.trod_int underlying3 t1;obtain⟨k2,e2,g2,_⟩:=DataW.trod_int underlying3 t2;obtain⟨k3,e3,g3,_⟩:=DataW.trod_int underlying3 r0
    obtain⟨k4,e4,g4,_⟩:=DataW.trod_int underlying3 r1;obtain⟨k5,e5,g5,_⟩:=DataW.trod_int underlying3 s0;obtain⟨k6,e6,g6,_⟩:=DataW.trod_int underlying3 s1;obtain⟨k7,e7,g7,_⟩:=DataW.trod_int underlying3 s2;obtain⟨k8,e8,g8,_⟩:=DataW.trod_string underlying9 s3;obtain⟨k9,e9,g9,_⟩:=DataW.trod_string underlying9 s4;obtain⟨k10,e10,g10,_⟩:=DataW.trod_string underlying9 s5;simp only[List.cons.injEq,and_true] at e0 e1 e2 e3 e4 e5 e6 e7 e8 e9 e10;subst e0 e1 e2 e3 e4 e5 e6 e7 e8 e9 e10;obtain⟨bm,om,spot⟩:=a;have fz:=λj (hj:j<11)=>hcell j (by omega)
    simp only[add_add] at fz;obtain⟨cs0,y1,_⟩:=hel 0 (by omega);rw[Ia] at y1;obtain⟨_,yl,yc⟩:=World.cells?_some y1;have y:=yc 0 (by omega);rw[List.getElem?_eq_getElem (by omega)] at y;have hspot:spot=none:=by simpa[Addr.add] using World.cell?_spot y
    subst hspot;simp only[add_plain] at fz;have hD:D i=.agg [.lit (.int .i64 k0),.lit (.int .i64 k1),.lit (.int .i64 k2),.agg [.lit (.int .i64 k3),.lit (.int .i64 k4)],.agg [.lit (.int .i64 k5),.lit (.int .i64 k6),.lit (.int .i64 k7),.lit (.string k8.data.toList),.lit (.string k9.data.toList),.lit (.string k10.data.toList)]]:=by
     simp only[Prod.mk.injEq] at hxy hxz hxu;rw[hxy.1,hxz,hxu,g0,g1,g2,g3,g4,g5,g6,g7,g8,g9,g10]
    have hmem:∀x,x∈[k8.data.toList.length,k9.data.toList.length,k10.data.toList.length]->x∈DataW.weights prog 26 (DataW.slice ((List.range lu).map D) ((List.range (m-lu)).map λj=>D (lu+j))):=by
     intro x hx;simp only[DataW.weights,underlying26,List.mem_cons,List.mem_append];refine .inr (.inl (pG (d:=D i) ?_ (List.mem_map.2 ⟨i,List.mem_range.2 hi,rfl⟩)));rw[hD];simp[DataW.weights,DataW.weightsEach,underlying45,underlying43,underlying33];simp at hx;omega
    have hall:∀x,x∈[k8.data.toList.length,k9.data.toList.length,k10.data.toList.length]->x<=140737488355328:=λx hx=>by
     have hle:=hw x (hmem x hx);unfold reachBytes at hle;omega
    have el:∀y:ByteArray,y.data.toList.length=y.size:=λy=>by simp
    simp only[el] at hall;refine⟨⟨k0,k1,k2,k3,k4,⟨k5,k6,k7,k8,k9,k10⟩⟩,bm,om,rfl,⟨World.block_lt_of_cell? _ _ (fz 0 (by omega)),λj u hu=>?_⟩,⟨hall _ (by simp),hall _ (by simp),hall _ (by simp)⟩⟩;have hj:j<11:=(List.getElem?_eq_some_iff.1 hu).1;have z:=fz j hj;simp only[<-Nat.add_assoc] at z;exact z.trans hu
 refine⟨aR,(List.range lu).map C,Uh,by simp,λk hk=>?_,λk hk=>?_⟩
 ·have hk':k<lu:=by simpa using hk
  obtain⟨b,o,e,h2,_⟩:=hC k hk';exact⟨b,o,e,by rw[yJ C hk'];exact h2⟩
 ·have hk':k<lu:=by simpa using hk
  obtain⟨b,o,e,_,h3⟩:=hC k hk';rw[yJ C hk'];exact h3
