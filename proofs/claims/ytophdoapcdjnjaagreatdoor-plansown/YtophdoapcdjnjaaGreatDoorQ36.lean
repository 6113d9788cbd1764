/- A part. -/
import Derived.Test.YtophdoapcdjnjaaGreatDoorQ19
import Derived.Test.YtophdoapcdjnjaaGreatDoorQ35
import Derived.Deep.DeepHandedRow
import Derived.Test.YtophdoapcdjnjaaGreatDoorCards
import Derived.Test.YtophdoapcdjnjaaGreatDoorTie
set_option maxRecDepth 100000
set_option maxHeartbeats 8000000
namespace Go.Proofs.YtophdoapcdjnjaaGreatDoor
open Go.ChangeShapes Go.WideShapes Go.ChangeAt Go.RowKit Go.Deep Go.Proofs.Tryz
namespace Dk.plansOwn
theorem own:ownKnob prog.godebug=none:=by kernel_rfl
theorem laidOut:laidOutB prog=true:=by kernel_rfl
theorem contract {SH:World->Nat->Nat->(Nat->Prop)->aX->Prop}{CH:World->Nat->Nat->(Nat->Prop)->dM->Prop}(HS:dX SH)(HC:nZ SH CH)(hT:∀{W:World},laidMetH prog Rows.plansOwnRow.laid W->dZ W)(H:Type)(enc:TypeId×Value->H)(W:World)(base:Nat)(args:Array Value)(ds gs:List (DataW H))(before:List MemPlace)
 (hval:∀(j:Nat) t v,Tryz.f4.params[j]?=some t->args[j]?=some v->Value.okWide prog W .any base t v)
 (hW:DataW.Whole enc prog Tryz.f4.params.toList Rows.plansOwnSpec.vars false W args.toList ds gs before)
 (hsz:(DataW.weightsEach prog (Tryz.f4.params.toList++(OpenSpec.ofChange Rows.plansOwnSpec).bare.plain.varTypes prog) (ds++gs)).all (·<=reachBytes)=true) (hlm:laidMetH prog Rows.plansOwnRow.laid W) :
 Calls prog 4 args W λe W'=>∃v,e=.returned v/\Rows.plansOwnSpec.post enc prog Tryz.f4 false true false false W args v W':=by
 have hG:=hT hlm;have hW':=hW;obtain⟨p,q,hA0,hV,rfl,hfz,hnd⟩:=hW;have hA:DataW.TrodAll enc prog W 0 (λ_=>true) true Tryz.f4.params.toList args.toList ds p:=hA0;rw[Tryz.params4] at hA hval hsz;obtain⟨v0,vs0,d0,ds0,p0,q0,hargs,rfl,rfl,h0,r0⟩:=trodAll_cons hA;obtain⟨v1,vs1,d1,ds1,p1,q1,rfl,rfl,rfl,h1,r1⟩:=trodAll_cons r0;obtain⟨rfl,rfl,rfl⟩:=trodAll_nil r1;obtain rfl:args=#[v0,v1]:=by cases args;simp_all
 obtain⟨rfl,rfl⟩:=trodVars_none hV;have h0k:=h0;have h1k:=h1;clear hA0;simp only[List.append_nil] at hW';have hlt0:∀x∈p0,x.block<W.heap.size:=λx hx=>by simpa using hW'.lt x (by simp[hx])
 have hw0:∀x∈DataW.weights prog 52 d0,x<=reachBytes:=λx hx=>by
  have:=List.all_eq_true.1 hsz _ (DataW.weights_mem_each (j:=0) rfl rfl _ hx);simpa using this
 have hlt1:∀x∈p1,x.block<W.heap.size:=λx hx=>by simpa using hW'.lt x (by simp[hx])
 have hw1:∀x∈DataW.weights prog 24 d1,x<=reachBytes:=λx hx=>by
  have:=List.all_eq_true.1 hsz _ (DataW.weights_mem_each (j:=1) rfl rfl _ hx);simpa using this
 obtain⟨n,a0,l0,c0,i0,i1,i2,i3,i4,i5,i6,i7,rfl,z1,z2,z3,z4,z5⟩:=ML (hval 0 52 v0 rfl rfl) h0 hw0;obtain⟨t1,a1,c1,rfl,x1,y1,_,u1⟩:=Gp (hval 1 24 v1 rfl rfl) h1 hw1;refine(WQ HS HC ⟨n,l0,[i0,i1,i2,i3,i4,i5,i6,i7]⟩ a0 c0 t1 a1 c1 W ⟨z1,z3,Nat.le_trans z4 (by decide),rfl⟩ z2 z5 z4 x1 y1 u1 hG).mono λe W' ⟨he,hb⟩=>?_
 subst he;exact⟨_,rfl,_,_,_,[],_,[],hW',trodAll_cons_mk (shut_bool underlying4 _) trodAll_mk0,(trodAll_cons_mk (Below.trod laidOut (by kernel_rfl) (of_decide_eq_true (by kernel_rfl)) h0k hb hlt0) (trodAll_cons_mk (Below.trod laidOut (by kernel_rfl) (of_decide_eq_true (by kernel_rfl)) h1k hb hlt1) trodAll_mk0)),rfl,hb.frame _,λh=>by cases h⟩
def FX:Nat->DataW Unit->List Value
 | 0,_=>[]
 | _+1,.lit (.int k z)=>[.int k z]
 | _+1,.lit (.string s)=>[.string ⟨s.toArray⟩]
 | n+1,.agg l=>l.flatMap (FX n)
 | _+1,_=>[]
def NH (c:Array Value):Obj->Obj
 | .cells _ t frozen=>.cells c t frozen
 | o=>o
def IG (g:Nat)(d:DataW Unit)(h:Array Obj):Array Obj:=h.modify g (NH (FX 4 d).toArray)
def laid (w:World):World:={w with heap:=IG 0 Rows.laid_rillbook_plan_bounds (IG 3 Rows.laid_unicode_utf8_acceptRanges (IG 2 Rows.laid_unicode_utf8_first (w.heap)))}
theorem laid_met (os:Os):laidMet prog Rows.plansOwnRow.laid ((laid (World.holding prog os ⟨#[],#[],[]⟩)).forCall (λ_ _=>0) ⟨#[],#[.agg #[.string ⟨#[]⟩,.slice none 0 0,.int .i64 0,.int .i64 0,.int .i64 0,.int .i64 0,.int .i64 0,.int .i64 0,.int .i64 0,.int .i64 0],.agg #[.string ⟨#[]⟩,.string ⟨#[]⟩,.int .i64 0,.int .i64 0,.int .i64 0,.int .i64 0,.slice none 0 0,.int .i64 0,.int .i64 0,.bool false]],[]⟩).memory :=
 laidMet_of_run' 8 (by kernel_rfl) (by kernel_rfl)
theorem reads (os:Os){H:Type}(enc:TypeId×Value->H):∃places,DataW.whole enc prog ((laid (World.holding prog os ⟨#[],#[],[]⟩)).forCall (λ_ _=>0) ⟨#[],#[.agg #[.string ⟨#[]⟩,.slice none 0 0,.int .i64 0,.int .i64 0,.int .i64 0,.int .i64 0,.int .i64 0,.int .i64 0,.int .i64 0,.int .i64 0],.agg #[.string ⟨#[]⟩,.string ⟨#[]⟩,.int .i64 0,.int .i64 0,.int .i64 0,.int .i64 0,.slice none 0 0,.int .i64 0,.int .i64 0,.bool false]],[]⟩).memory Tryz.f4.params.toList Rows.plansOwnSpec.vars false (#[.agg #[.string ⟨#[]⟩,.slice none 0 0,.int .i64 0,.int .i64 0,.int .i64 0,.int .i64 0,.int .i64 0,.int .i64 0,.int .i64 0,.int .i64 0],.agg #[.string ⟨#[]⟩,.string ⟨#[]⟩,.int .i64 0,.int .i64 0,.int .i64 0,.int .i64 0,.slice none 0 0,.int .i64 0,.int .i64 0,.bool false]]:Array Value).toList 8=some ([.agg [.lit (.string []),.nil,.lit (.int .i64 0),.lit (.int .i64 0),.lit (.int .i64 0),.lit (.int .i64 0),.lit (.int .i64 0),.lit (.int .i64 0),.lit (.int .i64 0),.lit (.int .i64 0)],.agg [.lit (.string []),.lit (.string []),.lit (.int .i64 0),.lit (.int .i64 0),.lit (.int .i64 0),.lit (.int .i64 0),.nil,.lit (.int .i64 0),.lit (.int .i64 0),.lit (.bool false)]],[],places) :=
 ⟨[],by kernel_rfl⟩
theorem lifted {SH:World->Nat->Nat->(Nat->Prop)->aX->Prop}{CH:World->Nat->Nat->(Nat->Prop)->dM->Prop}(HS:dX SH)(HC:nZ SH CH)(hT:∀{W:World},laidMetH prog Rows.plansOwnRow.laid W->dZ W)(os:Os)(started:os.Started)(H:Type)(enc:TypeId×Value->H)(F:Stop.Interp) :
 ReturnsInHanded {} Tryz.checked os 4 .any ((OpenSpec.ofChange Rows.plansOwnSpec).preRow enc prog Tryz.f4 Rows.plansOwnRow.domain false Rows.plansOwnRow.laid) (((OpenSpec.ofChange Rows.plansOwnSpec).at F).post enc prog Tryz.f4 false true false false):=by
 obtain⟨places,hx⟩:=reads os enc;refine returnsInHanded_of_row (C:=Tryz.checked) (s:=OpenSpec.ofChange Rows.plansOwnSpec) own started (by kernel_rfl) func4
  (witness_row_at (enc:=enc) (C:=Tryz.checked) false (laid (World.holding prog os ⟨#[],#[],[]⟩)) #[.agg #[.string ⟨#[]⟩,.slice none 0 0,.int .i64 0,.int .i64 0,.int .i64 0,.int .i64 0,.int .i64 0,.int .i64 0,.int .i64 0,.int .i64 0],.agg #[.string ⟨#[]⟩,.string ⟨#[]⟩,.int .i64 0,.int .i64 0,.int .i64 0,.int .i64 0,.slice none 0 0,.int .i64 0,.int .i64 0,.bool false]] rfl (by kernel_rfl) (by kernel_rfl) (by kernel_rfl)
   (OpenSpec.preRow_of_cond 8 hx (by kernel_rfl) (λk hk=>by cases hk) (by kernel_rfl) (laid_met os))) ?_
 intro W base args ds gs before hval hW _ _ hsz hlm _ _;exact contract HS HC hT H enc W base args ds gs before hval hW hsz hlm
theorem said_of {SH:World->Nat->Nat->(Nat->Prop)->aX->Prop}{CH:World->Nat->Nat->(Nat->Prop)->dM->Prop}(HS:dX SH)(HC:nZ SH CH)(hT:∀{W:World},laidMetH prog Rows.plansOwnRow.laid W->dZ W):Rows.PlansOwnSaid :=
 OpenClaim.holds_of_cond 4 Tryz.f4 rfl rfl rfl rfl rfl rfl rfl ⟨rfl,rfl,rfl,rfl,rfl⟩ rfl rfl rfl rfl rfl (by kernel_rfl) func4 (by kernel_rfl)
  (of_decide_eq_true (by kernel_rfl)) (by unfold Func.isWrapper;first|(rw[if_pos (by decide +kernel)];kernel_rfl)|(rw[if_neg (by decide +kernel)];exact⟨rfl,rfl⟩))
  (λos started H enc _ F=>by rw[OpenClaim.pre_eq_preRow];exact lifted HS HC hT os started H enc F)
theorem plain (f:FuncId)(fn:Func)(hf:Tryz.pinned.checked.prog.funcNamed Rows.plansOwnRow.func=some f)(hfn:Tryz.pinned.checked.prog.funcs[f]?=some fn) :
 Rows.plansOwnCard.stood.looks=Tryz.pinned.checked.prog.looks []/\∀(j:Nat) t,fn.params[j]?=some t->Tryz.pinned.checked.prog.wantsStandIn t=false:=by
 obtain rfl:f=4:=Option.some.inj ((show prog.funcNamed Rows.plansOwnRow.func=some 4 by kernel_rfl).symm.trans hf) |>.symm;obtain rfl:fn=Tryz.f4:=(Option.some.inj (func4.symm.trans hfn)).symm;refine⟨by kernel_rfl,λj t ht=>?_⟩;rw[Tryz.params4] at ht;have hm:t=52\/t=24:=by
  have:=Array.mem_of_getElem? ht;simp at this;omega
 rcases hm with rfl|rfl
 ·exact(show prog.wantsStandIn 52=false by kernel_rfl)
 ·exact(show prog.wantsStandIn 24=false by kernel_rfl)
theorem UZ {SH:World->Nat->Nat->(Nat->Prop)->aX->Prop}{CH:World->Nat->Nat->(Nat->Prop)->dM->Prop}(HS:dX SH)(HC:nZ SH CH)(hT:∀{W:World},laidMetH prog Rows.plansOwnRow.laid W->dZ W):Rows.PlansOwnCardSaid :=
 Claim7.holds_tied_plain_at .later [] _ _ _ _ (said_of HS HC hT) (λ_ h=>by cases h) (by kernel_rfl) (λ_ h=>by cases h) plansOwn_row_tie rfl ⟨rfl,rfl⟩ (by kernel_rfl) rfl plain (by kernel_rfl)
