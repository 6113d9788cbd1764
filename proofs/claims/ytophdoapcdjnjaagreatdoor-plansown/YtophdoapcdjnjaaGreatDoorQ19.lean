/- A part. -/
import Derived.Test.YtophdoapcdjnjaaGreatDoorQ13
set_option maxRecDepth 100000
set_option maxHeartbeats 8000000
namespace Go.Proofs.YtophdoapcdjnjaaGreatDoor
open Go.RowKit Go.Proofs.Tryz
theorem yF {H:Type}{enc:TypeId×Value->H}{P:Program}{w:World}{base:Nat}{sp:Nat->Bool}{held:Bool}{fuel:Nat}{t e:TypeId}{f0 f1:Field}{n:Nat}{cs:List Value}{zs:List (List UInt8×Int)}{p:List MemPlace}
 (ht:P.underlying t=some (.array n e)) (he:P.underlying e=some (.struct #[f0,f1])) (hs:P.underlying f0.type=some .string) (hi:P.underlying f1.type=some (.int .i64)) (ho0:f0.offset=0) (ho1:f1.offset=1) (hc0:P.cellsOf f0.type=1) (hc1:P.cellsOf f1.type=1) (hce:P.cellsOf e=2) (hct:P.cellsOf t=n*2)
 (h:DataW.trod enc P w base sp held fuel t cs=some (.agg (zs.map λz=>.agg [.lit (.string z.1),.lit (.int .i64 z.2)]),p)):zs.length=n/\∀i z,zs[i]?=some z->cs[i*2]?=some (.string (Pn.bs z.1))/\cs[i*2+1]?=some (.int .i64 z.2):=by
 cases fuel with
 | zero=>simp[DataW.trod] at h
 | succ fuel =>
  simp only[DataW.trod,ht,hce,hct] at h;split at h
  ·rename_i hl;obtain⟨xs,hm,hx⟩:=Option.map_eq_some_iff.1 h;have hxs:xs.map (·.1)=zs.map λz=>(DataW.agg [.lit (.string z.1),.lit (.int .i64 z.2)]:DataW H):=by
    have:=congrArg Prod.fst hx;simpa using this
   have hxl:xs.length=n:=by simpa using Lib.mapM_length hm
   have hzl:zs.length=n:=by
    have:=congrArg List.length hxs;simp at this;omega
   refine⟨hzl,λi z hz=>?_⟩;have hin:i<n:=by
    rcases Nat.lt_or_ge i n with q|q
    ·exact q
    ·rw[List.getElem?_eq_none (by omega)] at hz;cases hz
   obtain⟨b,hb,hf⟩:=Lib.mapM_at hm i i (by simp[hin]);have h2:(xs.map (·.1))[i]?=some b.1:=by simp[hb]
   rw[hxs] at h2;simp only[List.getElem?_map,hz,Option.map_some,Option.some.injEq] at h2;obtain⟨ys,m,_,rfl,hl2,hlen,hg⟩:=DataW.trod_struct he hf;match ys,hlen with
   | [y0,y1],_ =>
    have g0:=hg 0 f0 rfl;have g1:=hg 1 f1 rfl;simp only[List.getElem?_cons_zero,List.getElem?_cons_succ] at g0 g1;obtain⟨u0,cc0,q0,_⟩:=DataW.trod_string hs g0;obtain⟨u1,cc1,q1,_⟩:=DataW.trod_int hi g1;rw[ho0,hc0] at cc0;rw[ho1,hc1] at cc1;have d0:cs[i*2]?=some (.string u0):=by
     have:=congrArg (·[0]?) cc0;simpa[List.getElem?_take,List.getElem?_drop] using this
    have d1:cs[i*2+1]?=some (.int .i64 u1):=by
     have:=congrArg (·[0]?) cc1;simpa[List.getElem?_take,List.getElem?_drop] using this
    simp only[List.map_cons,List.map_nil,DataW.agg.injEq,List.cons.injEq,and_true] at h2;rw[q0,q1] at h2;simp only[DataW.lit.injEq,Lit.string.injEq,Lit.int.injEq] at h2;exact⟨by rw[d0,h2.1,Pn.BM],by rw[d1,h2.2.2]⟩
  ·cases h
theorem VA:(Rows.laid_rillbook_plan_bounds:DataW Unit)=.agg ((Pn.dO.zip Pn.dB).map λz=>.agg [.lit (.string z.1),.lit (.int .i64 z.2)]):=rfl
theorem Wx {W : World} {l : List (String × DataW Unit)} (h : laidMet Tryz.prog l W) (hm : ("rillbook/plan.bounds", Rows.laid_rillbook_plan_bounds) ∈ l) : dZ W := by
 obtain⟨ps,hl,_⟩:=h;obtain⟨g,t,cs,fuel,p,h1,h2,h3,h4⟩:=Dt hl _ hm
 have hg : Tryz.prog.globalNamed "rillbook/plan.bounds" = some 0 := by kernel_rfl
 obtain rfl:g=0:=Option.some.inj (h1.symm.trans hg);obtain rfl:t=137:=Option.some.inj (h2.symm.trans (show(prog.globals[0]?).map (·.type)=some 137 by kernel_rfl));have h5:DataW.trod (λ_=>()) prog W 0 (λ_=>true) false fuel 137 cs.toList=some (.agg ((Pn.dO.zip Pn.dB).map λz=>.agg [.lit (.string z.1),.lit (.int .i64 z.2)]),p):=h4;obtain⟨hlen,hcs⟩:=yF underlying137 underlying136 underlying9 underlying3 rfl rfl (by kernel_rfl) (by kernel_rfl) (by kernel_rfl) (by kernel_rfl) h5;have hz:∀i,i<8->(Pn.dO.zip Pn.dB)[i]?=some ((Pn.dO[i]?).getD [],Dk.nth Pn.dB i):=λi hi=>by
  have:i=0\/i=1\/i=2\/i=3\/i=4\/i=5\/i=6\/i=7:=by omega
  rcases this with rfl|rfl|rfl|rfl|rfl|rfl|rfl|rfl<;>rfl
 have hcell:∀i,i<8->W.cell? ⟨0,i*2,none⟩=some (.string (wd i))/\W.cell? ⟨0,i*2+1,none⟩=some (.int .i64 (Dk.nth Pn.dB i)):=λi hi=>by
  obtain⟨k1,k2⟩:=hcs i _ (hz i hi);have e1:=World.var?_cell hg h3 (i*2);have e2:=World.var?_cell hg h3 (i*2+1);rw[e1,e2,<-Array.getElem?_toList,<-Array.getElem?_toList,k1,k2];exact⟨rfl,rfl⟩
 exact⟨World.block_lt_of_cell? _ _ (hcell 0 (by omega)).1,hcell⟩
section
open Go.Joins Go.Deep Go.WideShapes Go.ChangeShapes Go.ChangeAt
theorem Uw:prog.cellsOf 9=1:=by kernel_rfl
theorem Wy:prog.bytesOf 9=16:=by kernel_rfl
theorem WA:prog.cellsOf 52=10:=by kernel_rfl
theorem Fz (f:Nat->ByteArray){n k:Nat}(h:k<n):tk ((List.range n).map f) k=f k:=by unfold tk;simp[h]
theorem ML {H:Type}{enc:TypeId×Value->H}{W:World}{base:Nat}{v:Value}{d:DataW H}{p:List MemPlace}(hv:Value.okWide prog W .any base 52 v)(h:DataW.Trod enc prog W 0 (λ_=>true) true 52 v d p)(hw:∀x∈DataW.weights prog 52 d,x<=reachBytes) :
 ∃(n:ByteArray) (a:Option Addr) (l:List ByteArray) (c:Nat) (x0 x1 x2 x3 x4 x5 x6 x7:Int),v=uN n a l.length c x0 x1 x2 x3 x4 x5 x6 x7/\n.size<=140737488355328/\jg W a l/\(∀k,k<l.length->(tk l k).size<=140737488355328)/\l.length<=8796093021952/\l.length<=c:=by
 obtain⟨u0,u1,u2,u3,u4,u5,u6,u7,u8,u9,y0,y1,y2,y3,y4,y5,y6,y7,y8,y9,m,rfl,hd,g0,g1,g2,g3,g4,g5,g6,g7,g8,g9⟩:=wU underlying52 (by kernel_rfl) WA hv h;obtain⟨n,e0,q0,_⟩:=DataW.trod_string underlying9 g0;obtain⟨x0,e2,q2,_⟩:=DataW.trod_int underlying3 g2;obtain⟨x1,e3,q3,_⟩:=DataW.trod_int underlying3 g3;obtain⟨x2,e4,q4,_⟩:=DataW.trod_int underlying3 g4;obtain⟨x3,e5,q5,_⟩:=DataW.trod_int underlying3 g5;obtain⟨x4,e6,q6,_⟩:=DataW.trod_int underlying3 g6;obtain⟨x5,e7,q7,_⟩:=DataW.trod_int underlying3 g7;obtain⟨x6,e8,q8,_⟩:=DataW.trod_int underlying3 g8
 obtain⟨x7,e9,q9,_⟩:=DataW.trod_int underlying3 g9;simp only[List.cons.injEq,and_true] at e0 e2 e3 e4 e5 e6 e7 e8 e9;subst e0 e2 e3 e4 e5 e6 e7 e8 e9;rcases open_strs underlying50 underlying9 Uw g1 with ⟨hcs,hx⟩|⟨a,len,cap,mm,Sx,hcs,hb,hl,hm,hmm,hx,hel⟩
 ·simp only[List.cons.injEq,and_true] at hcs;subst hcs;have hz:n.size<=140737488355328:=by
   have h:=hw n.data.toList.length (by rw[hd,q0];simp[DataW.weights,DataW.weightsEach,underlying52]);have e:n.data.toList.length=n.size:=by simp
   unfold reachBytes at h;omega
  exact⟨n,none,[],0,x0,x1,x2,x3,x4,x5,x6,x7,rfl,hz,λk hk=>by simp at hk,λk hk=>by simp at hk,by simp,by simp⟩
 ·simp only[List.cons.injEq,and_true] at hcs;subst hcs;have hx1:y1.1=DataW.slice ((List.range len).map λi=>.lit (.string (Sx i).data.toList)) ((List.range (mm-len)).map λj=>.lit (.string (Sx (len+j)).data.toList)):=by rw[hx]
  have hz:n.size<=140737488355328:=by
   have h:=hw n.data.toList.length (by rw[hd,q0];simp[DataW.weights,DataW.weightsEach,underlying52]);have e:n.data.toList.length=n.size:=by simp
   unfold reachBytes at h;omega
  have hlm:len<=mm:=by rw[hmm];split<;>omega
  have hsub:∀y∈DataW.weights (H:=H) prog 50 y1.1,y<=reachBytes:=λy hy=>hw y (by
   rw[hd];simp only[DataW.weights,underlying52];simp only[List.map_cons,List.map_nil];exact DataW.weights_mem_each (j:=1) rfl rfl _ hy)
  obtain⟨bm,om,spot⟩:=a;have hspot:len=0\/spot=none:=by
   by_cases h0:len=0
   ·exact .inl h0
   ·right;simpa[Addr.add] using World.cell?_spot (hel 0 (by omega)).1
  rcases hspot with h0|rfl
  ·subst h0;exact⟨n,some ⟨bm,om,spot⟩,[],cap,x0,x1,x2,x3,x4,x5,x6,x7,rfl,hz,λk hk=>by simp at hk,λk hk=>by simp at hk,by simp,by simp⟩
  ·refine⟨n,some ⟨bm,om,none⟩,(List.range len).map Sx,cap,x0,x1,x2,x3,x4,x5,x6,x7,by simp,hz,λk hk=>?_,λk hk=>?_,?_,by simpa using hl⟩
   ·have hk':k<len:=by simpa using hk
    have f0:=(hel k (by omega)).1;simp only[add_plain] at f0;exact⟨bm,om,rfl,World.block_lt_of_cell? _ _ f0,by rw[Fz Sx hk'];exact f0⟩
   ·have hk':k<len:=by simpa using hk
    rw[Fz Sx hk'];have hle:=hsub (Sx k).data.toList.length (by
     rw[hx1];simp only[DataW.weights,underlying50,List.mem_cons,List.mem_append];refine .inr (.inl (wV (d:=.lit (.string (Sx k).data.toList)) ?_ (List.mem_map.2 ⟨k,List.mem_range.2 hk',rfl⟩)));simp[DataW.weights])
    have e:(Sx k).data.toList.length=(Sx k).size:=by simp
    unfold reachBytes at hle;omega
   ·simp only[List.length_map,List.length_range];have hh:=hsub ((len+(mm-len))*prog.bytesOf 9) (by rw[hx1];simp[DataW.weights,underlying50]);rw[Wy] at hh;unfold reachBytes at hh;omega
end
