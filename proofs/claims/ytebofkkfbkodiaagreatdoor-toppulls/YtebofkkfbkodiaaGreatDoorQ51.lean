/- A part. -/
import Derived.Test.YtebofkkfbkodiaaGreatDoorQ27
import Derived.Test.YtebofkkfbkodiaaGreatDoorQ50
import Derived.Test.YtebofkkfbkodiaaGreatDoorCards
import Derived.Test.YtebofkkfbkodiaaGreatDoorTie
set_option maxRecDepth 100000
set_option maxHeartbeats 8000000
namespace Go.Proofs.YtebofkkfbkodiaaGreatDoor
open Go.ChangeShapes Go.WideShapes Go.ChangeAt Go.RowKit Go.Deep Go.Proofs.Tryz
namespace Dk.topPulls
variable {G G2:I->Prop}{SH:I->Nat->Nat->af->aH->Prop}{RH:I->Nat->Nat->af->Pn.aX->Int->Int->Str->Prop}{CH:I->Nat->Nat->af->bM->Prop}
theorem contract (W0:dS G SH RH CH)(PR:oH G)(TR:oQ G2)(hT:∀{W:I},laidMetH prog Rows.topPullsRow.laid W->U4 G G2 W)(H:Type)(enc:TypeId×Value->H)(W:I)(base:Nat)(args:Array Value)(ds gs:List (DataW H))(before:List MemPlace)
 (hval:∀(j:Nat) t v,Tryz.f4.params[j]?=some t->args[j]?=some v->Value.okWide prog W .any base t v)
 (hW:DataW.Whole enc prog Tryz.f4.params.toList Rows.topPullsSpec.vars false W args.toList ds gs before)
 (hsz:(DataW.weightsEach prog (Tryz.f4.params.toList++(OpenSpec.ofChange Rows.topPullsSpec).bare.plain.varTypes prog) (ds++gs)).all (·<=reachBytes)=true) (hlm:laidMetH prog Rows.topPullsRow.laid W) :
 Calls prog 4 args W λe W'=>∃v,e=.returned v/\Rows.topPullsSpec.post enc prog Tryz.f4 false true false false W args v W':=by
 have hG:=hT hlm;have hW':=hW;obtain⟨p,q,hA0,hV,rfl,hfz,hnd⟩:=hW;have hA:DataW.TrodAll enc prog W 0 (λ_=>true) true Tryz.f4.params.toList args.toList ds p:=hA0;rw[Tryz.params4] at hA hval hsz;obtain⟨v0,vs0,d0,ds0,p0,q0,hargs,rfl,rfl,h0,r0⟩:=trodAll_cons hA;obtain⟨v1,vs1,d1,ds1,p1,q1,rfl,rfl,rfl,h1,r1⟩:=trodAll_cons r0;obtain⟨v2,vs2,d2,ds2,p2,q2,rfl,rfl,rfl,h2,r2⟩:=trodAll_cons r1;obtain⟨rfl,rfl,rfl⟩:=trodAll_nil r2;obtain rfl:args=#[v0,v1,v2]:=by cases args;simp_all
 obtain⟨rfl,rfl⟩:=trodVars_none hV;have h0k:=h0;have h1k:=h1;obtain⟨m2,rfl,rfl,rfl⟩:=open_bool underlying4 (hval 2 4 v2 rfl rfl) h2;clear hA0;simp only[akQ] at hW';have hlt0:∀x∈p0,x.block<W.heap.size:=λx hx=>by simpa using hW'.lt x (by simp[hx])
 have hw0:∀x∈DataW.weights prog 22 d0,x<=reachBytes:=λx hx=>by
  have:=akS.1 hsz _ (DataW.weights_mem_each (j:=0) rfl rfl _ hx);simpa using this
 have hlt1:∀x∈p1,x.block<W.heap.size:=λx hx=>by simpa using hW'.lt x (by simp[hx])
 have hw1:∀x∈DataW.weights prog 26 d1,x<=reachBytes:=λx hx=>by
  have:=akS.1 hsz _ (DataW.weights_mem_each (j:=1) rfl rfl _ hx);simpa using this
 obtain⟨a0,l0,c0,rfl,x0,y0⟩:=Um (hval 0 22 v0 rfl rfl) h0 hw0;obtain⟨a1,l1,c1,rfl,x1,y1⟩:=YL (hval 1 26 v1 rfl rfl) h1 hw1;refine(Vf W0 PR TR l0 a0 c0 l1 a1 c1 m2 W x0 y0 x1 y1 hG).mono λe W' ⟨he,hb⟩=>?_
 subst he;exact⟨_,rfl,_,_,_,[],_,[],hW',amT (shut_bool underlying4 _) trodAll_mk0,(amT (Below.trod laidOut (by kernel_rfl) (alN (by kernel_rfl)) h0k hb hlt0) (amT (Below.trod laidOut (by kernel_rfl) (alN (by kernel_rfl)) h1k hb hlt1) (amT (shut_bool underlying4 _) trodAll_mk0))),rfl,hb.frame _,λh=>by cases h⟩
def Ho:Nat->DataW Unit->List Value
 | 0,_=>[]
 | _+1,.lit (.int k z)=>[.int k z]
 | _+1,.lit (.string s)=>[.string ⟨s.toArray⟩]
 | n+1,.agg l=>l.flatMap (Ho n)
 | _+1,_=>[]
def Kv (c:Array Value):Obj->Obj
 | .cells _ t frozen=>.cells c t frozen
 | o=>o
def yj (g:Nat)(d:DataW Unit)(h:Array Obj):Array Obj:=h.modify g (Kv (Ho 4 d).toArray)
def Kw:DataW Unit->List Value
 | .iface _ (.ptr d)=>Ho 4 d
 | _=>[]
def adG (g k:Nat)(h:Array Obj):Array Obj:=h.modify g (Kv #[.iface 356 (ae k)])
def laid (w:I):I:={w with heap:=((adG 6 w.heap.size (adG 5 (w.heap.size+1) (yj 3 Rows.laid_unicode_utf8_first (yj 1 Rows.laid_rillbook_taker_order (yj 0 Rows.laid_rillbook_plan_bounds (yj 4 Rows.laid_unicode_utf8_acceptRanges (yj 7 Rows.laid_internal_strconv_uint64pow10 (yj 9 Rows.laid_math_bits_deBruijn64tab (yj 8 Rows.laid_math_bits_deBruijn32tab (w.heap)))))))))).push (.cells (Kw Rows.laid_strconv_ErrRange).toArray 358)).push (.cells (Kw Rows.laid_strconv_ErrSyntax).toArray 358)}
theorem laid_met (os:Os):laidMet prog Rows.topPullsRow.laid ((laid (World.holding prog os ⟨#[],#[],[]⟩)).forCall (λ_ _=>0) ⟨#[],#[.slice none 0 0,.slice none 0 0,.bool false],[]⟩).memory :=
 laidMet_of_run' 8 (by kernel_rfl) (by kernel_rfl)
theorem reads (os:Os){H:Type}(enc:TypeId×Value->H):∃places,DataW.whole enc prog ((laid (World.holding prog os ⟨#[],#[],[]⟩)).forCall (λ_ _=>0) ⟨#[],#[.slice none 0 0,.slice none 0 0,.bool false],[]⟩).memory Tryz.f4.params.toList Rows.topPullsSpec.vars false (#[.slice none 0 0,.slice none 0 0,.bool false]:Array Value).toList 8=some ([.nil,.nil,.lit (.bool false)],[],places) :=
 ⟨[],by kernel_rfl⟩
theorem lifted (W0:dS G SH RH CH)(PR:oH G)(TR:oQ G2)(hT:∀{W:I},laidMetH prog Rows.topPullsRow.laid W->U4 G G2 W)(os:Os)(started:os.Started)(H:Type)(enc:TypeId×Value->H)(F:Stop.Interp) :
 ReturnsInHanded {} Tryz.checked os 4 .any ((OpenSpec.ofChange Rows.topPullsSpec).preRow enc prog Tryz.f4 Rows.topPullsRow.domain false Rows.topPullsRow.laid) (((OpenSpec.ofChange Rows.topPullsSpec).at F).post enc prog Tryz.f4 false true false false):=by
 obtain⟨places,hx⟩:=reads os enc;refine returnsInHanded_of_row (C:=Tryz.checked) (s:=OpenSpec.ofChange Rows.topPullsSpec) own started (by kernel_rfl) func4
  (witness_row_at (enc:=enc) (C:=Tryz.checked) false (laid (World.holding prog os ⟨#[],#[],[]⟩)) #[.slice none 0 0,.slice none 0 0,.bool false] rfl (by kernel_rfl) (by kernel_rfl) (by kernel_rfl)
   (OpenSpec.preRow_of_cond 8 hx (by kernel_rfl) (λk hk=>by cases hk) (by kernel_rfl) (laid_met os))) ?_
 intro W base args ds gs before hval hW _ _ hsz hlm _ _;exact contract W0 PR TR hT H enc W base args ds gs before hval hW hsz hlm
theorem said_of (W0:dS G SH RH CH)(PR:oH G)(TR:oQ G2)(hT:∀{W:I},laidMetH prog Rows.topPullsRow.laid W->U4 G G2 W):Rows.TopPullsSaid :=
 OpenClaim.holds_of_cond 4 Tryz.f4 rfl rfl rfl rfl rfl rfl rfl ⟨rfl,rfl,rfl,rfl,rfl⟩ rfl rfl rfl rfl rfl (by kernel_rfl) func4 closed
  (alN (by kernel_rfl)) (by unfold Func.isWrapper;first|(rw[if_pos (by decide +kernel)];kernel_rfl)|(rw[if_neg (by decide +kernel)];exact⟨rfl,rfl⟩))
  (λos started H enc _ F=>by rw[OpenClaim.pre_eq_preRow];exact lifted W0 PR TR hT os started H enc F)
theorem plain (f:FuncId)(fn:Func)(hf:Tryz.pinned.checked.prog.funcNamed Rows.topPullsRow.func=some f)(hfn:Tryz.pinned.checked.prog.funcs[f]?=some fn) :
 Rows.topPullsCard.stood.looks=Tryz.pinned.checked.prog.looks []/\∀(j:Nat) t,fn.params[j]?=some t->Tryz.pinned.checked.prog.wantsStandIn t=false:=by
 obtain rfl:f=4:=ajU ((show prog.funcNamed Rows.topPullsRow.func=some 4 by kernel_rfl).symm.trans hf) |>.symm;obtain rfl:fn=Tryz.f4:=(ajU (func4.symm.trans hfn)).symm;refine⟨by kernel_rfl,λj t ht=>?_⟩;rw[Tryz.params4] at ht;have hm:t=22\/t=26\/t=4:=by
  have:=Array.mem_of_getElem? ht;simp at this;omega
 rcases hm with rfl|rfl|rfl
 ·exact(show prog.wantsStandIn 22=false by kernel_rfl)
 ·exact(show prog.wantsStandIn 26=false by kernel_rfl)
 ·exact(show prog.wantsStandIn 4=false by kernel_rfl)
theorem afF (W0:dS G SH RH CH)(PR:oH G)(TR:oQ G2)(hT:∀{W:I},laidMetH prog Rows.topPullsRow.laid W->U4 G G2 W):Rows.TopPullsCardSaid :=
 Claim7.holds_tied_plain_at .later [] _ _ _ _ (said_of W0 PR TR hT) (λ_ h=>by cases h) (by kernel_rfl) (λ_ h=>by cases h) topPulls_row_tie rfl ⟨rfl,rfl⟩ (by kernel_rfl) rfl plain (by kernel_rfl)
