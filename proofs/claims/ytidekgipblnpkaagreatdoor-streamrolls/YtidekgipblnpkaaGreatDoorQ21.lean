/- A part of the proof. -/
import Derived.Test.YtidekgipblnpkaaGreatDoorQ16
namespace Go.Proofs.YtidekgipblnpkaaGreatDoor
open Go.RowKit Go.Proofs.Tryz
theorem Kr {H:Type}{enc:TypeId×Value->H}{P:Program}{w:World}{base:Nat}{sp:Nat->Bool}{held:Bool}{fuel:Nat}{t e:TypeId}{f0 f1:Field}{n:Nat}{cs:List Value}{zs:List (List UInt8×Int)}{p:List MemPlace}
 (ht:P.underlying t=some (.array n e)) (he:P.underlying e=some (.struct #[f0,f1])) (hs:P.underlying f0.type=some .string) (hi:P.underlying f1.type=some (.int .i64)) (ho0:f0.offset=0) (ho1:f1.offset=1) (hc0:P.cellsOf f0.type=1) (hc1:P.cellsOf f1.type=1) (hce:P.cellsOf e=2) (hct:P.cellsOf t=n*2)
 (h:DataW.trod enc P w base sp held fuel t cs=some (.agg (zs.map λz=>.agg [.lit (.string z.1),.lit (.int .i64 z.2)]),p)):zs.length=n/\∀i z,zs[i]?=some z->cs[i*2]?=some (.string (Pn.bs z.1))/\cs[i*2+1]?=some (.int .i64 z.2):=by
 cases fuel with
 | zero=>simp[DataW.trod] at h
 | succ fuel =>
  simp only[DataW.trod,ht,hce,hct] at h;split at h
  ·rename_i hl
   obtain⟨xs,hm,hx⟩:=Option.map_eq_some_iff.1 h;have hxs:xs.map (·.1)=zs.map λz=>(DataW.agg [.lit (.string z.1),.lit (.int .i64 z.2)]:DataW H):=by
    have:=congrArg Prod.fst hx;simpa using this
   have hxl:xs.length=n:=by simpa using Lib.mapM_length hm
   have hzl:zs.length=n:=by
    have:=congrArg List.length hxs;simp at this;omega
   refine⟨hzl,λi z hz=>?_⟩;have hin:i<n:=by
    rcases Nat.lt_or_ge i n with q|q
    ·exact q
    ·rw[List.getElem?_eq_none (by omega)] at hz;cases hz
   obtain⟨b,hb,hf⟩:=Lib.mapM_at hm i i (by simp[hin]);have h2:(xs.map (·.1))[i]?=some b.1:=by simp[hb]
   rw[hxs] at h2;simp only[List.getElem?_map,hz,Option.map_some,Option.some.injEq] at h2;obtain⟨ys,m,_,rfl,hl2,hlen,hg⟩:=DataW.trod_struct he hf;match ys,hlen with
   | [y0,y1],_ =>
    have g0:=hg 0 f0 rfl;have g1:=hg 1 f1 rfl;simp only[List.getElem?_cons_zero,List.getElem?_cons_succ] at g0 g1;obtain⟨u0,cc0,q0,_⟩:=DataW.trod_string hs g0;obtain⟨u1,cc1,q1,_⟩:=DataW.trod_int hi g1;rw[ho0,hc0] at cc0;rw[ho1,hc1] at cc1;have d0:cs[i*2]?=some (.string u0):=by
     have:=congrArg (·[0]?) cc0;simpa[List.getElem?_take,List.getElem?_drop] using this
    have d1:cs[i*2+1]?=some (.int .i64 u1):=by
     have:=congrArg (·[0]?) cc1;simpa[List.getElem?_take,List.getElem?_drop] using this
    simp only[List.map_cons,List.map_nil,DataW.agg.injEq,List.cons.injEq,and_true] at h2;rw[q0,q1] at h2;simp only[DataW.lit.injEq,Lit.string.injEq,Lit.int.injEq] at h2;exact⟨by rw[d0,h2.1,Pn.dB],by rw[d1,h2.2.2]⟩
  ·cases h
theorem ahS:(Rows.laid_rillbook_plan_bounds:DataW Unit)=.agg ((Pn.iP.zip Pn.dK).map λz=>.agg [.lit (.string z.1),.lit (.int .i64 z.2)]):=rfl
theorem Dh {W : World} {l : List (String × DataW Unit)} (h : laidMet Tryz.prog l W) (hm : ("rillbook/plan.bounds", Rows.laid_rillbook_plan_bounds) ∈ l) : oz W := by
 obtain⟨ps,hl,_⟩:=h;obtain⟨g,t,cs,fuel,p,h1,h2,h3,h4⟩:=SA hl _ hm
 have hg : Tryz.prog.globalNamed "rillbook/plan.bounds" = some 0 := by kernel_rfl
 obtain rfl:g=0:=Option.some.inj (h1.symm.trans hg);obtain rfl:t=127:=Option.some.inj (h2.symm.trans (show(prog.globals[0]?).map (·.type)=some 127 by kernel_rfl));have h5:DataW.trod (λ_=>()) prog W 0 (λ_=>true) false fuel 127 cs.toList=some (.agg ((Pn.iP.zip Pn.dK).map λz=>.agg [.lit (.string z.1),.lit (.int .i64 z.2)]),p):=h4;obtain⟨hlen,hcs⟩:=Kr underlying127 underlying126 underlying9 underlying3 rfl rfl (by kernel_rfl) (by kernel_rfl) (by kernel_rfl) (by kernel_rfl) h5;have hz:∀i,i<8->(Pn.iP.zip Pn.dK)[i]?=some ((Pn.iP[i]?).getD [],Dk.nth Pn.dK i):=λi hi=>by
  have:i=0\/i=1\/i=2\/i=3\/i=4\/i=5\/i=6\/i=7:=by omega
  rcases this with rfl|rfl|rfl|rfl|rfl|rfl|rfl|rfl<;>rfl
 have hcell:∀i,i<8->W.cell? ⟨0,i*2,none⟩=some (.string (wd i))/\W.cell? ⟨0,i*2+1,none⟩=some (.int .i64 (Dk.nth Pn.dK i)):=λi hi=>by
  obtain⟨k1,k2⟩:=hcs i _ (hz i hi);have e1:=World.var?_cell hg h3 (i*2);have e2:=World.var?_cell hg h3 (i*2+1);rw[e1,e2,<-Array.getElem?_toList,<-Array.getElem?_toList,k1,k2];exact⟨rfl,rfl⟩
 exact⟨World.block_lt_of_cell? _ _ (hcell 0 (by omega)).1,hcell⟩
end Go.Proofs.YtidekgipblnpkaaGreatDoor
