/- A part. -/
import Derived.Test.YtmhbobnfmncdbaaGreatDoorQ3
import Derived.Test.YtmhbobnfmncdbaaGreatDoorQ13
set_option maxRecDepth 100000
set_option maxHeartbeats 8000000
namespace Go.Proofs.YtmhbobnfmncdbaaGreatDoor
open Go.Joins Go.Deep Go.WideShapes Go.ChangeShapes Go.ChangeAt Go.RowKit Go.Proofs.Tryz
namespace Dk
theorem yN:prog.cellsOf 33=6:=by kernel_rfl
theorem yO:prog.cellsOf 3=1:=by kernel_rfl
theorem Gg:prog.cellsOf 9=1:=by kernel_rfl
theorem qW {H:Type}{P:Program}{e:TypeId}{d:DataW H}{x:Nat}(hx:x∈d.weights P e):∀{l:List (DataW H)},d∈l->x∈DataW.weightsAll P e l
 | a::r,h=>by
  simp only[DataW.weightsAll,List.mem_append];rcases List.mem_cons.1 h with q|q
  ·subst q;exact .inl hx
  ·exact .inr (qW hx q)
theorem AX {H:Type}{enc:TypeId×Value->H}{W:World}{base:Nat}{v:Value}{d:DataW H}{pl:List MemPlace}(hv:Value.okWide prog W .any base 25 v)(h:DataW.Trod enc prog W 0 (λ_=>true) true 25 v d pl)(hw:∀x∈DataW.weights prog 25 d,x<=reachBytes) :
 ∃(a:Option Addr) (l:List Rc) (c:Nat),v=.slice a l.length c/\um W a l/\∀k,k<l.length->Small (rc l k):=by
 obtain⟨aR,nC,YV,rfl⟩:=okWide_slice underlying25 hv;obtain⟨aaO,hfR⟩:=h;obtain⟨C,hC⟩:∃C:Nat->Rc,∀i,i<nC->∃b o,aR=some ⟨b,o,none⟩/\Six W b (o+i*6) (C i)/\Small (C i):=by
  rcases open_slice underlying25 hfR with ⟨hcs,hx⟩|⟨a,len',cap',m,n,D,Pl,hcs,hb,hl,hm,hmm,hx,hel⟩
  ·simp[Value.cells] at hcs;obtain⟨rfl,rfl,rfl⟩:=hcs;exact⟨λ_=>⟨0,0,0,ByteArray.empty,ByteArray.empty,ByteArray.empty⟩,λi hi=>absurd hi (Nat.not_lt_zero i)⟩
  ·simp[Value.cells] at hcs;obtain⟨rfl,rfl,rfl⟩:=hcs;simp only[Prod.mk.injEq] at hx;obtain⟨rfl,rfl⟩:=hx;have hlm:nC<=m:=by rw[hmm];split<;>omega
   have hRc:Inhabited Rc:=⟨⟨0,0,0,ByteArray.empty,ByteArray.empty,ByteArray.empty⟩⟩;refine choose_lt (p:=λi (c:Rc)=>∃b o,some a=some ⟨b,o,none⟩/\Six W b (o+i*6) c/\Small c) (λi hi=>?_);obtain⟨cs',h1,h2⟩:=hel i (by omega);rw[yN] at h1;obtain⟨_,hlen,hcell⟩:=World.cells?_some h1;obtain⟨x0,x1,x2,x3,x4,x5,n'',hxy,t0,t1,t2,t3,t4,t5⟩:=mM underlying33 h2;match cs',hlen with
   | [c2,c3,c4,c5,c6,c7],_ =>
    simp only[yO,Gg,List.drop_zero,List.drop_succ_cons,List.take_succ_cons,List.take_zero] at t0 t1 t2 t3 t4 t5;obtain⟨k2,e2,e2',_⟩:=DataW.trod_int underlying3 t0;obtain⟨k3,e3,e3',_⟩:=DataW.trod_int underlying3 t1;obtain⟨k4,e4,e4',_⟩:=DataW.trod_int underlying3 t2;obtain⟨s5,e5,e5',_⟩:=DataW.trod_string underlying9 t3;obtain⟨s6,e6,e6',_⟩:=DataW.trod_string underlying9 t4;obtain⟨s7,e7,e7',_⟩:=DataW.trod_string underlying9 t5;simp only[List.cons.injEq,and_true] at e2 e3 e4 e5 e6 e7;subst e2 e3 e4 e5 e6 e7 e2' e3' e4' e5' e6' e7';obtain⟨bm,om,spot⟩:=a;have f2:=hcell 0 (by omega)
    have f3:=hcell 1 (by omega);have f4:=hcell 2 (by omega);have f5:=hcell 3 (by omega);have f6:=hcell 4 (by omega);have f7:=hcell 5 (by omega);rw[add_add] at f2 f3 f4 f5 f6 f7;obtain⟨cs0,z1,_⟩:=hel 0 (by omega);rw[yN] at z1;obtain⟨_,zl,zc⟩:=World.cells?_some z1;have z:=zc 0 (by omega);rw[List.getElem?_eq_getElem (by omega)] at z;have hspot:spot=none:=by simpa[Addr.add] using World.cell?_spot z
    subst hspot;simp only[add_plain] at f2 f3 f4 f5 f6 f7;have hD:D i=.agg [.lit (.int .i64 k2),.lit (.int .i64 k3),.lit (.int .i64 k4),.lit (.string s5.data.toList),.lit (.string s6.data.toList),.lit (.string s7.data.toList)]:=by simp only[Prod.mk.injEq] at hxy;exact hxy.1
    have hmem:∀x,x∈[s5.data.toList.length,s6.data.toList.length,s7.data.toList.length]->x∈DataW.weights prog 25 (DataW.slice ((List.range nC).map D) ((List.range (m-nC)).map λj=>D (nC+j))):=by
     intro x hx;simp only[DataW.weights,underlying25,List.mem_cons,List.mem_append];refine .inr (.inl (qW (d:=D i) ?_ (List.mem_map.2 ⟨i,List.mem_range.2 hi,rfl⟩)));rw[hD];simp[DataW.weights,DataW.weightsEach,underlying33];simpa using hx
    have hall:∀x,x∈[s5.data.toList.length,s6.data.toList.length,s7.data.toList.length]->x<=140737488355328:=λx hx=>by
     have hle:=hw x (hmem x hx);unfold reachBytes at hle;omega
    have hsm:Small ⟨k2,k3,k4,s5,s6,s7⟩:=⟨by have:=hall s5.data.toList.length (by simp);simpa using this,by have:=hall s6.data.toList.length (by simp);simpa using this,by have:=hall s7.data.toList.length (by simp);simpa using this⟩;exact⟨⟨k2,k3,k4,s5,s6,s7⟩,bm,om,rfl,⟨World.block_lt_of_cell? _ _ f2,by simpa using f2,by rw[Nat.add_assoc];simpa using f3,by rw[Nat.add_assoc];simpa using f4,by rw[Nat.add_assoc];simpa using f5,by rw[Nat.add_assoc];simpa using f6,by rw[Nat.add_assoc];simpa using f7⟩,hsm⟩
 have hrc:∀k,k<nC->rc ((List.range nC).map C) k=C k:=λk hk=>by unfold rc;rw[List.getElem?_map,List.getElem?_range hk];rfl
 refine⟨aR,(List.range nC).map C,YV,by simp,λk hk=>?_,λk hk=>?_⟩
 ·have hk':k<nC:=by simpa using hk
  obtain⟨b,o,h1,h2,_⟩:=hC k hk';rw[hrc k hk'];exact⟨b,o,h1,h2⟩
 ·have hk':k<nC:=by simpa using hk
  obtain⟨_,_,_,_,h3⟩:=hC k hk';rw[hrc k hk'];exact h3
