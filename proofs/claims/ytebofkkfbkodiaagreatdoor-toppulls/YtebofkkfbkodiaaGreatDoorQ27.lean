/- A part. -/
import Derived.Test.YtebofkkfbkodiaaGreatDoorQ22
set_option maxRecDepth 100000
set_option maxHeartbeats 8000000
namespace Go.Proofs.YtebofkkfbkodiaaGreatDoor
open Go.RowKit Go.Proofs.Tryz
variable {H:Type}{P:Program}{W w:I}{base fuel n:Nat}{sp:Nat->Bool}{held:Bool}{e t:TypeId}{cs:List Value}{p:List MemPlace}{l:List (String × DataW Unit)}
theorem FY {enc:TypeId×Value->H}{f0 f1:Field}{zs:List (List UInt8×Int)}
 (ht:P.underlying t=some (.array n e)) (he:P.underlying e=some (.struct #[f0,f1])) (hs:P.underlying f0.type=some .string) (hi:P.underlying f1.type=some (.int .i64)) (ho0:f0.offset=0) (ho1:f1.offset=1) (hc0:P.cellsOf f0.type=1) (hc1:P.cellsOf f1.type=1) (hce:P.cellsOf e=2) (hct:P.cellsOf t=n*2)
 (h:DataW.trod enc P w base sp held fuel t cs=some (.agg (zs.map λz=>.agg [.lit (.string z.1),.lit (.int .i64 z.2)]),p)):zs.length=n/\∀i z,zs[i]?=some z->cs[i*2]?=some (.string (Pn.bs z.1))/\cs[i*2+1]?=some (.int .i64 z.2):=by
 cases fuel with
 | zero=>simp[DataW.trod] at h
 | succ fuel =>
  simp only[DataW.trod,ht,hce,hct] at h;split at h
  ·rename_i hl;obtain⟨xs,hm,hx⟩:=Option.map_eq_some_iff.1 h;have hxs:xs.map (·.1)=zs.map λz=>(DataW.agg [.lit (.string z.1),.lit (.int .i64 z.2)]:DataW H):=by
    have:=congrArg Prod.fst hx;simpa using this
   have hxl:xs.length=n:=by simpa using Lib.mapM_length hm
   have hzl:zs.length=n:=by
    have:=congrArg List.length hxs;simp at this;omega
   refine⟨hzl,λi z hz=>?_⟩;have hin:i<n:=by
    rcases alR i n with q|q
    ·exact q
    ·rw[ald (by omega)] at hz;cases hz
   obtain⟨b,hb,hf⟩:=Lib.mapM_at hm i i (by simp[hin]);have h2:(xs.map (·.1))[i]?=some b.1:=by simp[hb]
   rw[hxs] at h2;simp only[alj,hz,Option.map_some,akB] at h2;obtain⟨ys,m,_,rfl,hl2,hlen,hg⟩:=DataW.trod_struct he hf;match ys,hlen with
   | [y0,y1],_ =>
    have g0:=hg 0 f0 rfl;have g1:=hg 1 f1 rfl;simp only[List.getElem?_cons_zero,akC] at g0 g1;obtain⟨u0,cc0,q0,_⟩:=anb hs g0;obtain⟨u1,cc1,q1,_⟩:=DataW.trod_int hi g1;rw[ho0,hc0] at cc0;rw[ho1,hc1] at cc1;have d0:cs[i*2]?=some (.string u0):=by
     have:=congrArg (·[0]?) cc0;simpa[List.getElem?_take,List.getElem?_drop] using this
    have d1:cs[i*2+1]?=some (.int .i64 u1):=by
     have:=congrArg (·[0]?) cc1;simpa[List.getElem?_take,List.getElem?_drop] using this
    simp only[akw,alZ,DataW.agg.injEq,amD,aml] at h2;rw[q0,q1] at h2;simp only[amf,Lit.string.injEq,amz] at h2;exact⟨by rw[d0,h2.1,Pn.zo],by rw[d1,h2.2.2]⟩
  ·cases h
theorem agq (h : laidMet Tryz.prog l W) (hm : ("rillbook/plan.bounds", Rows.laid_rillbook_plan_bounds) ∈ l) : fK W := by
 obtain⟨ps,hl,_⟩:=h;obtain⟨g,t,cs,fuel,p,h1,h2,h3,h4⟩:=Ea hl _ hm
 have hg : Tryz.prog.globalNamed "rillbook/plan.bounds" = some 0 := by kernel_rfl
 obtain rfl:g=0:=ajU (h1.symm.trans hg);obtain rfl:t=212:=ajU (h2.symm.trans (show(prog.globals[0]?).map (·.type)=some 212 by kernel_rfl));have h5:DataW.trod (λ_=>()) prog W 0 (λ_=>true) false fuel 212 cs.toList=some (.agg ((Pn.dR.zip Pn.fV).map λz=>.agg [.lit (.string z.1),.lit (.int .i64 z.2)]),p):=h4;obtain⟨hlen,hcs⟩:=FY underlying212 underlying211 underlying9 underlying3 rfl rfl (by kernel_rfl) (by kernel_rfl) (by kernel_rfl) (by kernel_rfl) h5;have hz:∀i,i<8->(Pn.dR.zip Pn.fV)[i]?=some ((Pn.dR[i]?).getD [],Dk.nth Pn.fV i):=λi hi=>by
  have:i=0\/i=1\/i=2\/i=3\/i=4\/i=5\/i=6\/i=7:=by omega
  rcases this with rfl|rfl|rfl|rfl|rfl|rfl|rfl|rfl<;>rfl
 have hcell:∀i,i<8->W.cell? (aq 0 (i*2))=some (.string (wd i))/\W.cell? (aq 0 (i*2+1))=some (.int .i64 (Dk.nth Pn.fV i)):=λi hi=>by
  obtain⟨k1,k2⟩:=hcs i _ (hz i hi);have e1:=World.var?_cell hg h3 (i*2);have e2:=World.var?_cell hg h3 (i*2+1);rw[e1,e2,<-Array.getElem?_toList,<-Array.getElem?_toList,k1,k2];exact⟨rfl,rfl⟩
 exact⟨alI _ _ (hcell 0 (by omega)).1,hcell⟩
theorem FZ {enc:TypeId×Value->H}{zs:List (List UInt8)}
 (ht:P.underlying t=some (.array n e)) (he:P.underlying e=some .string) (hce:P.cellsOf e=1) (hct:P.cellsOf t=n)
 (h:DataW.trod enc P w base sp held fuel t cs=some (.agg (zs.map λz=>.lit (.string z)),p)):cs=zs.map λz=>Value.string (Pn.bs z):=by
 cases fuel with
 | zero=>simp[DataW.trod] at h
 | succ fuel =>
  simp only[DataW.trod,ht,hce,hct,Nat.mul_one] at h;split at h
  ·rename_i hl;obtain⟨xs,hm,hx⟩:=Option.map_eq_some_iff.1 h;have hxs:xs.map (·.1)=zs.map λz=>(DataW.lit (.string z):DataW H):=by
    have:=congrArg Prod.fst hx;simpa using this
   have hxl:xs.length=n:=by simpa using Lib.mapM_length hm
   have hzl:zs.length=n:=by
    have:=congrArg List.length hxs;simp at this;omega
   apply List.ext_getElem?;intro i;by_cases hi:i<n
   ·obtain⟨b,hb,hf⟩:=Lib.mapM_at hm i i (by simp[hi]);obtain⟨z,hc,rfl,_⟩:=anb he hf;have h1:cs[i]?=some (.string z):=by
     have:=congrArg (·[0]?) hc;simpa[List.getElem?_take,List.getElem?_drop] using this
    have h2:(xs.map (·.1))[i]?=some (DataW.lit (.string z.data.toList):DataW H):=by simp[hb]
    rw[hxs] at h2;simp only[alj,Option.map_eq_some_iff,amf,Lit.string.injEq] at h2;obtain⟨z',hz',rfl⟩:=h2;simp[h1,hz',Pn.zo]
   ·rw[ald (by omega),ald (by simp;omega)]
  ·cases h
theorem agr (h : laidMet Tryz.prog l W) (hm : ("rillbook/taker.order", Rows.laid_rillbook_taker_order) ∈ l) : uG W := by
 obtain⟨ps,hl,_⟩:=h;obtain⟨g,t,cs,fuel,p,h1,h2,h3,h4⟩:=Ea hl _ hm
 have hg : Tryz.prog.globalNamed "rillbook/taker.order" = some 1 := by kernel_rfl
 obtain rfl:g=1:=ajU (h1.symm.trans hg);obtain rfl:t=233:=ajU (h2.symm.trans (show(prog.globals[1]?).map (·.type)=some 233 by kernel_rfl));have h5:DataW.trod (λ_=>()) prog W 0 (λ_=>true) false fuel 233 cs.toList=some (.agg ((Tk.seven.map Tk.hd).map λz=>.lit (.string z)),p):=h4;have hcs:=FZ underlying233 underlying9 (by kernel_rfl) (by kernel_rfl) h5;have hcell:∀i,i<7->W.cell? (aq 1 i)=some (.string (Pn.bs (Tk.hd i))):=λi hi=>by
  have:=World.var?_cell hg h3 i;rw[this,<-Array.getElem?_toList,hcs,alj];have:i=0\/i=1\/i=2\/i=3\/i=4\/i=5\/i=6:=by omega
  rcases this with rfl|rfl|rfl|rfl|rfl|rfl|rfl<;>rfl
 exact⟨alI _ _ (hcell 0 (by omega)),hcell⟩
section
open Go.Joins Go.Deep Go.WideShapes Go.ChangeShapes Go.ChangeAt
end
namespace Dk
open Go.Joins Go.Deep Go.WideShapes Go.ChangeShapes Go.ChangeAt
variable {base k n:Nat}{H:Type}{W:I}{v:Value}{pl:List MemPlace}
theorem WM:prog.cellsOf 9=1:=by kernel_rfl
theorem abT (C:Nat->ad)(h:k<n):tk ((List.range n).map C) k=C k:=by unfold tk;simp[h]
theorem Um {enc:TypeId×Value->H}{d:DataW H}(hv:Value.okWide prog W .any base 22 v)(h:DataW.Trod enc prog W 0 (λ_=>true) true 22 v d pl)(hw:∀x∈DataW.weights prog 22 d,x<=reachBytes) :
 ∃(a:Option Addr) (l:List ad) (c:Nat),v=.slice a l.length c/\gU W a l/\l.length<=c/\∀k,k<l.length->(tk l k).size<=140737488355328:=by
 obtain⟨aR,xR,abU,rfl⟩:=okWide_slice underlying22 hv;obtain⟨ahx,hfR⟩:=h;obtain⟨hcap,C,hC⟩:xR<=abU/\∃C:Nat->ad,∀i,i<xR->∃b o,aR=some ⟨b,o,none⟩/\b<W.heap.size/\W.cell? (aq b (o+i))=some (.string (C i))/\(C i).size<=140737488355328:=by
  rcases open_slice underlying22 hfR with ⟨hcs,hx⟩|⟨a,len',cap',m,n,D,Pl,hcs,hb,hl,hm,hmm,hx,hel⟩
  ·simp[Value.cells] at hcs;obtain⟨rfl,rfl,rfl⟩:=hcs;exact⟨agH _,λ_=>ByteArray.empty,λi hi=>absurd hi (akh i)⟩
  ·simp[Value.cells] at hcs;obtain⟨rfl,rfl,rfl⟩:=hcs;simp only[Prod.mk.injEq] at hx;obtain⟨rfl,rfl⟩:=hx;have hlm:xR<=m:=by rw[hmm];split<;>omega
   refine⟨hl,?_⟩;have hI:Inhabited ad:=⟨ByteArray.empty⟩;refine choose_lt (p:=λi (c:ad)=>∃b o,some a=some ⟨b,o,none⟩/\b<W.heap.size/\W.cell? (aq b (o+i))=some (.string c)/\c.size<=140737488355328) (λi hi=>?_);obtain⟨cs',h1,h2⟩:=hel i (by omega);rw[WM] at h1;obtain⟨_,hlen,hcell⟩:=World.cells?_some h1;match cs',hlen with
   | [q0],_ =>
    obtain⟨k0,e0,g0,_⟩:=anb underlying9 h2;simp only[amD,aml] at e0;subst e0;obtain⟨bm,om,spot⟩:=a;have f0:=hcell 0 (by omega);rw[add_add] at f0;obtain⟨cs0,z1,_⟩:=hel 0 (by omega);rw[WM] at z1;obtain⟨_,zl,zc⟩:=World.cells?_some z1;have z:=zc 0 (by omega);rw[ajC (by omega)] at z;have hspot:spot=none:=by simpa[Addr.add] using World.cell?_spot z
    subst hspot;simp only[add_plain] at f0;have hD:D i=.lit (.string k0.data.toList):=by
     simp only[Prod.mk.injEq] at g0;exact g0.1
    have hmem:k0.data.toList.length∈DataW.weights prog 22 (DataW.slice ((List.range xR).map D) ((List.range (m-xR)).map λj=>D (xR+j))):=by
     simp only[DataW.weights,underlying22,akb,akg];refine .inr (.inl (EJ (d:=D i) ?_ (alh.2 ⟨i,amc.2 hi,rfl⟩)));rw[hD];simp[DataW.weights]
    have hle:=hw _ hmem;unfold reachBytes at hle;have el:k0.data.toList.length=k0.size:=by simp
    exact⟨k0,bm,om,rfl,alI _ _ f0,by simpa using f0,by omega⟩
 refine⟨aR,(List.range xR).map C,abU,by simp,λk hk=>?_,by simpa using hcap,λk hk=>?_⟩
 ·have hk':k<xR:=by simpa using hk
  obtain⟨b,o,e,h2,h3,_⟩:=hC k hk';exact⟨b,o,e,h2,by rw[abT C hk'];exact h3⟩
 ·have hk':k<xR:=by simpa using hk
  obtain⟨b,o,e,_,_,h4⟩:=hC k hk';rw[abT C hk'];exact h4
theorem WO:prog.cellsOf 3=1:=by kernel_rfl
theorem ae0 (C:Nat->Int)(h:k<n):nth ((List.range n).map C) k=C k:=by unfold nth;simp[h]
theorem YL {enc:TypeId×Value->H}{d:DataW H}(hv:Value.okWide prog W .any base 26 v)(h:DataW.Trod enc prog W 0 (λ_=>true) true 26 v d pl)(_hw:∀x∈DataW.weights prog 26 d,x<=reachBytes) :
 ∃(a:Option Addr) (l:List Int) (c:Nat),v=.slice a l.length c/\kK W a l/\l.length<=c:=by
 obtain⟨aR,xR,abU,rfl⟩:=okWide_slice underlying26 hv;obtain⟨ahx,hfR⟩:=h;obtain⟨hcap,C,hC⟩:xR<=abU/\∃C:Nat->Int,∀i,i<xR->∃b o,aR=some ⟨b,o,none⟩/\b<W.heap.size/\W.cell? (aq b (o+i))=some (.int .i64 (C i)):=by
  rcases open_slice underlying26 hfR with ⟨hcs,hx⟩|⟨a,len',cap',m,n,D,Pl,hcs,hb,hl,hm,hmm,hx,hel⟩
  ·simp[Value.cells] at hcs;obtain⟨rfl,rfl,rfl⟩:=hcs;exact⟨agH _,λ_=>0,λi hi=>absurd hi (akh i)⟩
  ·simp[Value.cells] at hcs;obtain⟨rfl,rfl,rfl⟩:=hcs;simp only[Prod.mk.injEq] at hx;obtain⟨rfl,rfl⟩:=hx;have hlm:xR<=m:=by rw[hmm];split<;>omega
   refine⟨hl,?_⟩;have hI:Inhabited Int:=⟨0⟩;refine choose_lt (p:=λi (c:Int)=>∃b o,some a=some ⟨b,o,none⟩/\b<W.heap.size/\W.cell? (aq b (o+i))=some (.int .i64 c)) (λi hi=>?_);obtain⟨cs',h1,h2⟩:=hel i (by omega);rw[WO] at h1;obtain⟨_,hlen,hcell⟩:=World.cells?_some h1;match cs',hlen with
   | [q0],_ =>
    obtain⟨k0,e0,g0,_⟩:=DataW.trod_int underlying3 h2;simp only[amD,aml] at e0;subst e0;obtain⟨bm,om,spot⟩:=a;have f0:=hcell 0 (by omega);rw[add_add] at f0;obtain⟨cs0,z1,_⟩:=hel 0 (by omega);rw[WO] at z1;obtain⟨_,zl,zc⟩:=World.cells?_some z1;have z:=zc 0 (by omega);rw[ajC (by omega)] at z;have hspot:spot=none:=by simpa[Addr.add] using World.cell?_spot z
    subst hspot;simp only[add_plain] at f0;exact⟨k0,bm,om,rfl,alI _ _ f0,by simpa using f0⟩
 refine⟨aR,(List.range xR).map C,abU,by simp,λk hk=>?_,by simpa using hcap⟩;have hk':k<xR:=by simpa using hk
 obtain⟨b,o,e,h2,h3⟩:=hC k hk';exact⟨b,o,e,h2,by rw[ae0 C hk'];exact h3⟩
