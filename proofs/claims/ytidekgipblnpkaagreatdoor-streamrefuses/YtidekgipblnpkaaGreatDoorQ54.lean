/- A part of the proof. -/
import Derived.Test.YtidekgipblnpkaaGreatDoorQ11
set_option maxRecDepth 100000
set_option maxHeartbeats 8000000
namespace Go.Proofs.YtidekgipblnpkaaGreatDoor.Dk
open Go.Joins Go.Deep Go.WideShapes Go.ChangeShapes Go.ChangeAt Go.RowKit Go.Proofs.Tryz
structure Stp where
 k:Int
 now:Int
 n:Int
 x:Po
 f:ByteArray
def aeT:Stp:=⟨0,0,0,⟨ByteArray.empty,ByteArray.empty,ByteArray.empty,ByteArray.empty,0,0⟩,ByteArray.empty⟩
def Vz (l:List Stp)(k:Nat):Stp:=l[k]?.getD aeT
structure Ten (w:World)(b o:Nat)(c:Stp):Prop where
 lt:b<w.heap.size
 c0:w.cell? ⟨b,o,none⟩=some (.int .i64 c.k)
 c1:w.cell? ⟨b,o+1,none⟩=some (.int .i64 c.now)
 c2:w.cell? ⟨b,o+2,none⟩=some (.int .i64 c.n)
 c3:w.cell? ⟨b,o+3,none⟩=some (.string c.x.s)
 c4:w.cell? ⟨b,o+4,none⟩=some (.string c.x.i)
 c5:w.cell? ⟨b,o+5,none⟩=some (.string c.x.h)
 c6:w.cell? ⟨b,o+6,none⟩=some (.string c.x.d)
 c7:w.cell? ⟨b,o+7,none⟩=some (.int .i64 c.x.x)
 c8:w.cell? ⟨b,o+8,none⟩=some (.int .i64 c.x.ro)
 c9:w.cell? ⟨b,o+9,none⟩=some (.string c.f)
theorem Ten.keep {w w':World}{b o:Nat}{c:Stp}(h:Ten w b o c)(hs:w.heap.size<=w'.heap.size)(hb:w'.heap[b]?=w.heap[b]?):Ten w' b o c:=by
 have e:∀j,w'.cell? ⟨b,j,none⟩=w.cell? ⟨b,j,none⟩:=λj=>World.cell?_of_block (w:=w) (a:=⟨b,j,none⟩) hb
 exact⟨Nat.lt_of_lt_of_le h.lt hs,by rw[e];exact h.c0,by rw[e];exact h.c1,by rw[e];exact h.c2,by rw[e];exact h.c3,by rw[e];exact h.c4,by rw[e];exact h.c5,by rw[e];exact h.c6,by rw[e];exact h.c7,by rw[e];exact h.c8,by rw[e];exact h.c9⟩
def Ll (w:World)(a:Option Addr)(l:List Stp):Prop:=∀k,k<l.length->∃b o,a=some ⟨b,o,none⟩/\Ten w b (o+k*10) (Vz l k)
theorem Ll.next {w w':World}{a:Option Addr}{l:List Stp}(h:Ll w a l)(hb:Below w.heap.size w w'):Ll w' a l:=λk hk=>by
 obtain⟨b,o,e,h2⟩:=h k hk;exact⟨b,o,e,h2.keep hb.size (hb.block b h2.lt)⟩
theorem Ll.from {B:Nat}{w w':World}{a:Option Addr}{l:List Stp}(h:Ll w a l)(hb:Below B w w')(hB:w.heap.size<=B):Ll w' a l:=λk hk=>by
 obtain⟨b,o,e,h2⟩:=h k hk;exact⟨b,o,e,h2.keep hb.size (hb.block b (Nat.lt_of_lt_of_le h2.lt hB))⟩
theorem Ll.stay {Cs:Nat->Prop}{w w':World}{a:Option Addr}{l:List Stp}(h:Ll w a l)(hs:aJ Cs w w')(hn:∀z,a=some z->Cs z.block):Ll w' a l:=λk hk=>by
 obtain⟨b,o,e,h2⟩:=h k hk;exact⟨b,o,e,h2.keep hs.1 (hs.2 b (hn _ e))⟩
structure oO (c:Stp):Prop where
 x:dL c.x
 f:c.f.size<=140737488355328
section
variable {H:Type}{enc:TypeId×Value->H}{P:Program}{w:World}{base:Nat}{spare:Nat->Bool}{held:Bool}
theorem QF {t:TypeId}{f0 f1 f2 f3 f4:Field}{fuel:Nat}{cs:List Value}{x:DataW H×List MemPlace}(ht:P.underlying t=some (.struct #[f0,f1,f2,f3,f4]))(h:DataW.trod enc P w base spare held fuel t cs=some x) :
 ∃y0 y1 y2 y3 y4 n,x=(.agg [y0.1,y1.1,y2.1,y3.1,y4.1],y0.2++(y1.2++(y2.2++(y3.2++y4.2))))/\DataW.trod enc P w base spare held n f0.type ((cs.drop f0.offset).take (P.cellsOf f0.type))=some y0 /\
  DataW.trod enc P w base spare held n f1.type ((cs.drop f1.offset).take (P.cellsOf f1.type))=some y1/\DataW.trod enc P w base spare held n f2.type ((cs.drop f2.offset).take (P.cellsOf f2.type))=some y2 /\
  DataW.trod enc P w base spare held n f3.type ((cs.drop f3.offset).take (P.cellsOf f3.type))=some y3/\DataW.trod enc P w base spare held n f4.type ((cs.drop f4.offset).take (P.cellsOf f4.type))=some y4:=by
 obtain⟨xs,n,_,rfl,hl,hlen,hf⟩:=DataW.trod_struct ht h;match xs,hlen with
 | [y0,y1,y2,y3,y4],_=>exact⟨y0,y1,y2,y3,y4,n,by simp,by simpa using hf 0 f0 rfl,by simpa using hf 1 f1 rfl,by simpa using hf 2 f2 rfl,by simpa using hf 3 f3 rfl,by simpa using hf 4 f4 rfl⟩
end
theorem aeU:prog.cellsOf 50=10:=by kernel_rfl
theorem aeV:prog.cellsOf 48=6:=by kernel_rfl
theorem ZG:prog.cellsOf 3=1:=by kernel_rfl
theorem OD (C:Nat->Stp){n k:Nat}(h:k<n):Vz ((List.range n).map C) k=C k:=by unfold Vz;simp[h]
theorem qK {H:Type}{enc:TypeId×Value->H}{W:World}{base:Nat}{v:Value}{d:DataW H}{pl:List MemPlace}(hv:Value.okWide prog W .any base 25 v)(h:DataW.Trod enc prog W 0 (λ_=>true) true 25 v d pl)(hw:∀x∈DataW.weights prog 25 d,x<=reachBytes) :
 ∃(a:Option Addr) (l:List Stp) (c:Nat),v=.slice a l.length c/\Ll W a l/\∀k,k<l.length->oO (Vz l k):=by
 obtain⟨aR,U6,akp,rfl⟩:=okWide_slice underlying25 hv;obtain⟨akK,hfR⟩:=h;obtain⟨C,hC⟩:∃C:Nat->Stp,∀i,i<U6->∃b o,aR=some ⟨b,o,none⟩/\Ten W b (o+i*10) (C i)/\oO (C i):=by
  rcases open_slice underlying25 hfR with ⟨hcs,hx⟩|⟨a,len',cap',m,n,D,Pl,hcs,hb,hl,hm,hmm,hx,hel⟩
  ·simp[Value.cells] at hcs;obtain⟨rfl,rfl,rfl⟩:=hcs;exact⟨λ_=>aeT,λi hi=>absurd hi (Nat.not_lt_zero i)⟩
  ·simp[Value.cells] at hcs;obtain⟨rfl,rfl,rfl⟩:=hcs;simp only[Prod.mk.injEq] at hx;obtain⟨rfl,rfl⟩:=hx;have hlm:U6<=m:=by rw[hmm];split<;>omega
   have hI:Inhabited Stp:=⟨aeT⟩;refine choose_lt (p:=λi (c:Stp)=>∃b o,some a=some ⟨b,o,none⟩/\Ten W b (o+i*10) c/\oO c) (λi hi=>?_);obtain⟨cs',h1,h2⟩:=hel i (by omega);rw[aeU] at h1;obtain⟨_,hlen,hcell⟩:=World.cells?_some h1;obtain⟨x0,x1,x2,x3,x4,n'',hxy,t0,t1,t2,t3,t4⟩:=QF underlying50 h2;match cs',hlen with
   | [q0,q1,q2,q3,q4,q5,q6,q7,q8,q9],_ =>
    simp only[ZG,Qc,aeV,List.drop_zero,List.drop_succ_cons,List.take_succ_cons,List.take_zero] at t0 t1 t2 t3 t4;obtain⟨z0,z1,z2,z3,z4,z5,n3,hxz,s0,s1,s2,s3,s4,s5⟩:=Ad underlying48 t3;simp only[ZG,Qc,List.drop_zero,List.drop_succ_cons,List.take_succ_cons,List.take_zero] at s0 s1 s2 s3 s4 s5;obtain⟨k0,e0,g0,_⟩:=DataW.trod_int underlying3 t0;obtain⟨k1,e1,g1,_⟩:=DataW.trod_int underlying3 t1;obtain⟨k2,e2,g2,_⟩:=DataW.trod_int underlying3 t2;obtain⟨k3,e3,g3,_⟩:=DataW.trod_string underlying9 s0;obtain⟨k4,e4,g4,_⟩:=DataW.trod_string underlying9 s1
    obtain⟨k5,e5,g5,_⟩:=DataW.trod_string underlying9 s2;obtain⟨k6,e6,g6,_⟩:=DataW.trod_string underlying9 s3;obtain⟨k7,e7,g7,_⟩:=DataW.trod_int underlying3 s4;obtain⟨k8,e8,g8,_⟩:=DataW.trod_int underlying3 s5;obtain⟨k9,e9,g9,_⟩:=DataW.trod_string underlying9 t4;simp only[List.cons.injEq,and_true] at e0 e1 e2 e3 e4 e5 e6 e7 e8 e9;subst e0 e1 e2 e3 e4 e5 e6 e7 e8 e9;obtain⟨bm,om,spot⟩:=a;have f0:=hcell 0 (by omega);have f1:=hcell 1 (by omega);have f2:=hcell 2 (by omega);have f3:=hcell 3 (by omega);have f4:=hcell 4 (by omega);have f5:=hcell 5 (by omega);have f6:=hcell 6 (by omega)
    have f7:=hcell 7 (by omega);have f8:=hcell 8 (by omega);have f9:=hcell 9 (by omega);rw[add_add] at f0 f1 f2 f3 f4 f5 f6 f7 f8 f9;obtain⟨cs0,y1,_⟩:=hel 0 (by omega);rw[aeU] at y1;obtain⟨_,yl,yc⟩:=World.cells?_some y1;have y:=yc 0 (by omega);rw[List.getElem?_eq_getElem (by omega)] at y;have hspot:spot=none:=by simpa[Addr.add] using World.cell?_spot y
    subst hspot;simp only[add_plain] at f0 f1 f2 f3 f4 f5 f6 f7 f8 f9;have hD:D i=.agg [.lit (.int .i64 k0),.lit (.int .i64 k1),.lit (.int .i64 k2),.agg [.lit (.string k3.data.toList),.lit (.string k4.data.toList),.lit (.string k5.data.toList),.lit (.string k6.data.toList),.lit (.int .i64 k7),.lit (.int .i64 k8)],.lit (.string k9.data.toList)]:=by
     simp only[Prod.mk.injEq] at hxy hxz;rw[hxy.1,hxz,g0,g1,g2,g3,g4,g5,g6,g7,g8,g9]
    have hmem:∀x,x∈[k3.data.toList.length,k4.data.toList.length,k5.data.toList.length,k6.data.toList.length,k9.data.toList.length]->x∈DataW.weights prog 25 (DataW.slice ((List.range U6).map D) ((List.range (m-U6)).map λj=>D (U6+j))):=by
     intro x hx;simp only[DataW.weights,underlying25,List.mem_cons,List.mem_append];refine .inr (.inl (zk (d:=D i) ?_ (List.mem_map.2 ⟨i,List.mem_range.2 hi,rfl⟩)));rw[hD];simp[DataW.weights,DataW.weightsEach,underlying50,underlying48];simp at hx;omega
    have hall:∀x,x∈[k3.data.toList.length,k4.data.toList.length,k5.data.toList.length,k6.data.toList.length,k9.data.toList.length]->x<=140737488355328:=λx hx=>by
     have hle:=hw x (hmem x hx);unfold reachBytes at hle;omega
    have el:∀y:ByteArray,y.data.toList.length=y.size:=λy=>by simp
    simp only[el] at hall;refine⟨⟨k0,k1,k2,⟨k3,k4,k5,k6,k7,k8⟩,k9⟩,bm,om,rfl,⟨World.block_lt_of_cell? _ _ f0,by simpa using f0,f1,f2,f3,f4,f5,f6,f7,f8,f9⟩,⟨hall _ (by simp),hall _ (by simp),hall _ (by simp),hall _ (by simp)⟩,hall _ (by simp)⟩
 refine⟨aR,(List.range U6).map C,akp,by simp,λk hk=>?_,λk hk=>?_⟩
 ·have hk':k<U6:=by simpa using hk
  obtain⟨b,o,e,h2,_⟩:=hC k hk';exact⟨b,o,e,by rw[OD C hk'];exact h2⟩
 ·have hk':k<U6:=by simpa using hk
  obtain⟨b,o,e,_,h3⟩:=hC k hk';rw[OD C hk'];exact h3
end Go.Proofs.YtidekgipblnpkaaGreatDoor.Dk
