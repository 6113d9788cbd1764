/- A part of the proof. -/
import Derived.Test.YtidekgipblnpkaaGreatDoorQ82
import Derived.Test.YtidekgipblnpkaaGreatDoorQ92
import Derived.Deep.DeepHandedRow
import Derived.Test.YtidekgipblnpkaaGreatDoorCards
import Derived.Test.YtidekgipblnpkaaGreatDoorTie
set_option maxRecDepth 100000
set_option maxHeartbeats 8000000
namespace Go.Proofs.YtidekgipblnpkaaGreatDoor.Dk.streamRefuses
open Go.ChangeShapes Go.WideShapes Go.ChangeAt Go.RowKit Go.Deep Go.Proofs.Tryz
theorem own:ownKnob prog.godebug=none:=by kernel_rfl
theorem laidOut:laidOutB prog=true:=by kernel_rfl
theorem contract {G:World->Prop}{RH:World->Nat->Nat->(Nat->Prop)->Pn.aU->Int->Int->Str->Prop}{SH:World->Nat->Nat->(Nat->Prop)->aG->Prop}(hN:∀{w w':World},G w->Below w.heap.size w w'->G w')(hT:∀{W:World},laidMetH prog Rows.streamRefusesRow.laid W->G W)(V:aK G RH SH)(E:jd SH)(H:Type)(enc:TypeId×Value->H)(W:World)(base:Nat)(args:Array Value)(ds gs:List (DataW H))(before:List MemPlace)
 (hval:∀(j:Nat) t v,Tryz.f7.params[j]?=some t->args[j]?=some v->Value.okWide prog W .any base t v)
 (hW:DataW.Whole enc prog Tryz.f7.params.toList Rows.streamRefusesSpec.vars false W args.toList ds gs before)
 (hsz:(DataW.weightsEach prog (Tryz.f7.params.toList++(OpenSpec.ofChange Rows.streamRefusesSpec).bare.plain.varTypes prog) (ds++gs)).all (·<=reachBytes)=true) (hlm:laidMetH prog Rows.streamRefusesRow.laid W) :
 Calls prog 7 args W λe W'=>∃v,e=.returned v/\Rows.streamRefusesSpec.post enc prog Tryz.f7 false true false false W args v W':=by
 have hG:=hT hlm;have hW':=hW;obtain⟨p,q,hA0,hV,rfl,hfz,hnd⟩:=hW;have hA:DataW.TrodAll enc prog W 0 (λ_=>true) true Tryz.f7.params.toList args.toList ds p:=hA0;rw[Tryz.params7] at hA hval hsz;obtain⟨v0,vs0,d0,ds0,p0,q0,hargs,rfl,rfl,h0,r0⟩:=trodAll_cons hA;obtain⟨v1,vs1,d1,ds1,p1,q1,rfl,rfl,rfl,h1,r1⟩:=trodAll_cons r0;obtain⟨v2,vs2,d2,ds2,p2,q2,rfl,rfl,rfl,h2,r2⟩:=trodAll_cons r1;obtain⟨rfl,rfl,rfl⟩:=trodAll_nil r2;obtain rfl:args=#[v0,v1,v2]:=by cases args;simp_all
 obtain⟨rfl,rfl⟩:=trodVars_none hV;have h0k:=h0;have h1k:=h1;have h2k:=h2;clear hA0;simp only[List.append_nil] at hW';have hlt0:∀x∈p0,x.block<W.heap.size:=λx hx=>by simpa using hW'.lt x (by simp[hx])
 have hw0:∀x∈DataW.weights prog 24 d0,x<=reachBytes:=λx hx=>by
  have:=List.all_eq_true.1 hsz _ (DataW.weights_mem_each (j:=0) rfl rfl _ hx);simpa using this
 have hlt1:∀x∈p1,x.block<W.heap.size:=λx hx=>by simpa using hW'.lt x (by simp[hx])
 have hw1:∀x∈DataW.weights prog 25 d1,x<=reachBytes:=λx hx=>by
  have:=List.all_eq_true.1 hsz _ (DataW.weights_mem_each (j:=1) rfl rfl _ hx);simpa using this
 have hlt2:∀x∈p2,x.block<W.heap.size:=λx hx=>by simpa using hW'.lt x (by simp[hx])
 have hw2:∀x∈DataW.weights prog 48 d2,x<=reachBytes:=λx hx=>by
  have:=List.all_eq_true.1 hsz _ (DataW.weights_mem_each (j:=2) rfl rfl _ hx);simpa using this
 obtain⟨n,a,l,c,x0,x1,x2,x3,x4,x5,x6,x7,rfl,z1,z2,z3,z4,z5⟩:=pW (hval 0 24 v0 rfl rfl) h0 hw0;obtain⟨at',lt',ct',rfl,t1,t2⟩:=qK (hval 1 25 v1 rfl rfl) h1 hw1;obtain⟨x,rfl,o1⟩:=Gs (hval 2 48 v2 rfl rfl) h2 hw2;refine(Vw hN V E ⟨n,l,[x0,x1,x2,x3,x4,x5,x6,x7]⟩ a c at' lt' ct' x W ⟨z1,z3,z4,rfl⟩ z2 z5 t1 t2 o1 hG).mono λe W' ⟨he,hb⟩=>?_
 subst he;exact⟨_,rfl,_,_,_,[],_,[],hW',trodAll_cons_mk (shut_bool underlying4 _) trodAll_mk0,(trodAll_cons_mk (Below.trod laidOut (by kernel_rfl) (of_decide_eq_true (by kernel_rfl)) h0k hb hlt0) (trodAll_cons_mk (Below.trod laidOut (by kernel_rfl) (of_decide_eq_true (by kernel_rfl)) h1k hb hlt1) (trodAll_cons_mk (Below.trod laidOut (by kernel_rfl) (of_decide_eq_true (by kernel_rfl)) h2k hb hlt2) trodAll_mk0))),rfl,hb.frame _,λh=>by cases h⟩
def fG:Nat->DataW Unit->List Value
 | 0,_=>[]
 | _+1,.lit (.int k z)=>[.int k z]
 | _+1,.lit (.string s)=>[.string ⟨s.toArray⟩]
 | n+1,.agg l=>l.flatMap (fG n)
 | _+1,_=>[]
def jg (c:Array Value):Obj->Obj
 | .cells _ t frozen=>.cells c t frozen
 | o=>o
def iy (g:Nat)(d:DataW Unit)(h:Array Obj):Array Obj:=h.modify g (jg (fG 4 d).toArray)
def laid (w:World):World:={w with heap:=iy 2 Rows.laid_unicode_utf8_first (iy 0 Rows.laid_rillbook_plan_bounds (iy 3 Rows.laid_unicode_utf8_acceptRanges w.heap))}
theorem laid_met (os:Os):laidMet prog Rows.streamRefusesRow.laid ((laid (World.holding prog os ⟨#[],#[],[]⟩)).forCall (λ_ _=>0) ⟨#[],#[.agg #[.string ⟨#[]⟩,.slice none 0 0,.int .i64 0,.int .i64 0,.int .i64 0,.int .i64 0,.int .i64 0,.int .i64 0,.int .i64 0,.int .i64 0],.slice none 0 0,.agg #[.string ⟨#[]⟩,.string ⟨#[]⟩,.string ⟨#[]⟩,.string ⟨#[]⟩,.int .i64 0,.int .i64 0]],[]⟩).memory :=
 laidMet_of_run' 8 (by kernel_rfl) (by kernel_rfl)
theorem reads (os:Os){H:Type}(enc:TypeId×Value->H):∃places,DataW.whole enc prog ((laid (World.holding prog os ⟨#[],#[],[]⟩)).forCall (λ_ _=>0) ⟨#[],#[.agg #[.string ⟨#[]⟩,.slice none 0 0,.int .i64 0,.int .i64 0,.int .i64 0,.int .i64 0,.int .i64 0,.int .i64 0,.int .i64 0,.int .i64 0],.slice none 0 0,.agg #[.string ⟨#[]⟩,.string ⟨#[]⟩,.string ⟨#[]⟩,.string ⟨#[]⟩,.int .i64 0,.int .i64 0]],[]⟩).memory Tryz.f7.params.toList Rows.streamRefusesSpec.vars false (#[.agg #[.string ⟨#[]⟩,.slice none 0 0,.int .i64 0,.int .i64 0,.int .i64 0,.int .i64 0,.int .i64 0,.int .i64 0,.int .i64 0,.int .i64 0],.slice none 0 0,.agg #[.string ⟨#[]⟩,.string ⟨#[]⟩,.string ⟨#[]⟩,.string ⟨#[]⟩,.int .i64 0,.int .i64 0]]:Array Value).toList 8=some ([.agg [.lit (.string []),.nil,.lit (.int .i64 0),.lit (.int .i64 0),.lit (.int .i64 0),.lit (.int .i64 0),.lit (.int .i64 0),.lit (.int .i64 0),.lit (.int .i64 0),.lit (.int .i64 0)],.nil,.agg [.lit (.string []),.lit (.string []),.lit (.string []),.lit (.string []),.lit (.int .i64 0),.lit (.int .i64 0)]],[],places) :=
 ⟨[],by kernel_rfl⟩
theorem lifted {G:World->Prop}{RH:World->Nat->Nat->(Nat->Prop)->Pn.aU->Int->Int->Str->Prop}{SH:World->Nat->Nat->(Nat->Prop)->aG->Prop}(hN:∀{w w':World},G w->Below w.heap.size w w'->G w')(hT:∀{W:World},laidMetH prog Rows.streamRefusesRow.laid W->G W)(V:aK G RH SH)(E:jd SH)(os:Os)(started:os.Started)(H:Type)(enc:TypeId×Value->H)(F:Stop.Interp) :
 ReturnsInHanded {} Tryz.checked os 7 .any ((OpenSpec.ofChange Rows.streamRefusesSpec).preRow enc prog Tryz.f7 Rows.streamRefusesRow.domain false Rows.streamRefusesRow.laid) (((OpenSpec.ofChange Rows.streamRefusesSpec).at F).post enc prog Tryz.f7 false true false false):=by
 obtain⟨places,hx⟩:=reads os enc;refine returnsInHanded_of_row (C:=Tryz.checked) (s:=OpenSpec.ofChange Rows.streamRefusesSpec) own started (by kernel_rfl) func7
  (witness_row_at (enc:=enc) (C:=Tryz.checked) false (laid (World.holding prog os ⟨#[],#[],[]⟩)) #[.agg #[.string ⟨#[]⟩,.slice none 0 0,.int .i64 0,.int .i64 0,.int .i64 0,.int .i64 0,.int .i64 0,.int .i64 0,.int .i64 0,.int .i64 0],.slice none 0 0,.agg #[.string ⟨#[]⟩,.string ⟨#[]⟩,.string ⟨#[]⟩,.string ⟨#[]⟩,.int .i64 0,.int .i64 0]] rfl (by kernel_rfl) (by kernel_rfl) (by kernel_rfl)
   (OpenSpec.preRow_of_cond 8 hx (by kernel_rfl) (λk hk=>by cases hk) (by kernel_rfl) (laid_met os))) ?_
 intro W base args ds gs before hval hW _ _ hsz hlm _ _;exact contract hN hT V E H enc W base args ds gs before hval hW hsz hlm
theorem said_of {G:World->Prop}{RH:World->Nat->Nat->(Nat->Prop)->Pn.aU->Int->Int->Str->Prop}{SH:World->Nat->Nat->(Nat->Prop)->aG->Prop}(hN:∀{w w':World},G w->Below w.heap.size w w'->G w')(hT:∀{W:World},laidMetH prog Rows.streamRefusesRow.laid W->G W)(V:aK G RH SH)(E:jd SH):Rows.StreamRefusesSaid :=
 OpenClaim.holds_of_cond 7 Tryz.f7 rfl rfl rfl rfl rfl rfl rfl ⟨rfl,rfl,rfl,rfl,rfl⟩ rfl rfl rfl rfl rfl (by kernel_rfl) func7 (by kernel_rfl)
  (of_decide_eq_true (by kernel_rfl)) (by unfold Func.isWrapper;first|(rw[if_pos (by decide +kernel)];kernel_rfl)|(rw[if_neg (by decide +kernel)];exact⟨rfl,rfl⟩))
  (λos started H enc _ F=>by rw[OpenClaim.pre_eq_preRow];exact lifted hN hT V E os started H enc F)
theorem plain (f:FuncId)(fn:Func)(hf:Tryz.pinned.checked.prog.funcNamed Rows.streamRefusesRow.func=some f)(hfn:Tryz.pinned.checked.prog.funcs[f]?=some fn) :
 Rows.streamRefusesCard.stood.looks=Tryz.pinned.checked.prog.looks []/\∀(j:Nat) t,fn.params[j]?=some t->Tryz.pinned.checked.prog.wantsStandIn t=false:=by
 obtain rfl:f=7:=Option.some.inj ((show prog.funcNamed Rows.streamRefusesRow.func=some 7 by kernel_rfl).symm.trans hf) |>.symm;obtain rfl:fn=Tryz.f7:=(Option.some.inj (func7.symm.trans hfn)).symm;refine⟨by kernel_rfl,λj t ht=>?_⟩;rw[Tryz.params7] at ht;have hm:t=24\/t=25\/t=48:=by
  have:=Array.mem_of_getElem? ht;simp at this;omega
 rcases hm with rfl|rfl|rfl
 ·exact(show prog.wantsStandIn 24=false by kernel_rfl)
 ·exact(show prog.wantsStandIn 25=false by kernel_rfl)
 ·exact(show prog.wantsStandIn 48=false by kernel_rfl)
theorem mW {G:World->Prop}{RH:World->Nat->Nat->(Nat->Prop)->Pn.aU->Int->Int->Str->Prop}{SH:World->Nat->Nat->(Nat->Prop)->aG->Prop}(hN:∀{w w':World},G w->Below w.heap.size w w'->G w')(hT:∀{W:World},laidMetH prog Rows.streamRefusesRow.laid W->G W)(V:aK G RH SH)(E:jd SH):Rows.StreamRefusesCardSaid :=
 Claim7.holds_tied_plain_at .later [] _ _ _ _ (said_of hN hT V E) (λ_ h=>by cases h) (by kernel_rfl) (λ_ h=>by cases h) streamRefuses_row_tie rfl ⟨rfl,rfl⟩ (by kernel_rfl) rfl plain (by kernel_rfl)
end Go.Proofs.YtidekgipblnpkaaGreatDoor.Dk.streamRefuses
