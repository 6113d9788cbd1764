/- The law StreamPlays: the card, out of the stream's contracts and the store's. -/
import Derived.Test.YtidekgipblnpkaaGreatDoorQ2
import Derived.Test.YtidekgipblnpkaaGreatDoorQ11
import Derived.Test.YtidekgipblnpkaaGreatDoorQ39
import Derived.Test.YtidekgipblnpkaaGreatDoorQ42
import Derived.Test.YtidekgipblnpkaaGreatDoorQ51
import Derived.Deep.DeepHandedRow
import Derived.Test.YtidekgipblnpkaaGreatDoorCards
import Derived.Test.YtidekgipblnpkaaGreatDoorTie
set_option maxRecDepth 100000
set_option maxHeartbeats 8000000
namespace Go.Proofs.YtidekgipblnpkaaGreatDoor
open Go.RowKit Go.Proofs.Tryz
namespace Dk.streamPlays
open Go.ChangeShapes Go.WideShapes Go.ChangeAt Go.Deep
open Go.ChangeMaps (open_string shut_string)
theorem own:ownKnob prog.godebug=none:=by kernel_rfl
theorem laidOut:laidOutB prog=true:=by kernel_rfl
theorem aeu {G:World->Prop}{RH:World->Nat->Nat->(Nat->Prop)->Pn.cu->Int->Int->dW->Prop}{SH:World->Nat->Nat->(Nat->Prop)->aJ->Prop}(hN:∀{w w':World},G w->Below w.heap.size w w'->G w')(hT:∀{W:World},laidMetH prog Rows.streamPlaysRow.laid W->G W)(V:gQ G RH SH)(M:sO RH)(SC:uq RH)(HS:lV SH)(HT:lX SH)(HY:Gg SH)(H:Type)(enc:TypeId×Value->H)(W:World)(base:Nat)(args:Array Value)(ds gs:List (DataW H))(before:List MemPlace)
 (hval:∀(j:Nat) t v,Tryz.f3.params[j]?=some t->args[j]?=some v->Value.okWide prog W .any base t v)
 (hW:DataW.Whole enc prog Tryz.f3.params.toList Rows.streamPlaysSpec.vars false W args.toList ds gs before)
 (hsz:(DataW.weightsEach prog (Tryz.f3.params.toList++(OpenSpec.ofChange Rows.streamPlaysSpec).bare.plain.varTypes prog) (ds++gs)).all (·<=reachBytes)=true) (hlm:laidMetH prog Rows.streamPlaysRow.laid W) :
 Calls prog 3 args W λe W'=>∃v,e=.returned v/\Rows.streamPlaysSpec.post enc prog Tryz.f3 false true false false W args v W':=by
 have hG:=hT hlm;have hW':=hW;obtain⟨p,q,hA0,hV,rfl,hfz,hnd⟩:=hW;have hA:DataW.TrodAll enc prog W 0 (λ_=>true) true Tryz.f3.params.toList args.toList ds p:=hA0;rw[Tryz.params3] at hA hval hsz;obtain⟨v0,vs0,d0,ds0,p0,q0,hargs,rfl,rfl,h0,r0⟩:=trodAll_cons hA;obtain⟨v1,vs1,d1,ds1,p1,q1,rfl,rfl,rfl,h1,r1⟩:=trodAll_cons r0;obtain⟨v2,vs2,d2,ds2,p2,q2,rfl,rfl,rfl,h2,r2⟩:=trodAll_cons r1;obtain⟨v3,vs3,d3,ds3,p3,q3,rfl,rfl,rfl,h3,r3⟩:=trodAll_cons r2;obtain⟨v4,vs4,d4,ds4,p4,q4,rfl,rfl,rfl,h4,r4⟩:=trodAll_cons r3;obtain⟨rfl,rfl,rfl⟩:=trodAll_nil r4;obtain rfl:args=#[v0,v1,v2,v3,v4]:=by cases args;simp_all
 obtain⟨rfl,rfl⟩:=trodVars_none hV;have h0k:=h0;obtain⟨m1,rfl,rfl,rfl,ws1⟩:=open_int underlying3 (hval 1 3 v1 rfl rfl) h1;obtain⟨m2,rfl,rfl,rfl,ws2⟩:=open_int underlying3 (hval 2 3 v2 rfl rfl) h2;have h3k:=h3;obtain⟨m4,rfl,rfl,rfl,ws4⟩:=open_string underlying9 (hval 4 9 v4 rfl rfl) h4;clear hA0;simp only[ake,akh] at hW';have hlt0:∀x∈p0,x.block<W.heap.size:=λx hx=>by simpa using hW'.lt x (by simp[hx])
 have hw0:∀x∈DataW.weights prog 24 d0,x<=reachBytes:=λx hx=>by
  have:=akv.1 hsz _ (DataW.weights_mem_each (j:=0) rfl rfl _ hx);simpa using this
 have hlt3:∀x∈p3,x.block<W.heap.size:=λx hx=>by simpa using hW'.lt x (by simp[hx])
 have hw3:∀x∈DataW.weights prog 25 d3,x<=reachBytes:=λx hx=>by
  have:=akv.1 hsz _ (DataW.weights_mem_each (j:=3) rfl rfl _ hx);simpa using this
 obtain⟨n,a,l,c,x0,x1,x2,x3,x4,x5,x6,x7,rfl,z1,z2,z3,z4,z5⟩:=ZP (hval 0 24 v0 rfl rfl) h0 hw0;obtain⟨at',lt',ct',rfl,t1,t2⟩:=VX (hval 3 25 v3 rfl rfl) h3 hw3;have zs4:m4.size<=140737488355328:=by
  have h:=sized_string hsz (j:=4) (t:=9) rfl rfl;have e:m4.data.toList.length=m4.size:=by simp
  unfold reachBytes at h;omega
 refine(aa4 hN V M SC HS HT HY ⟨n,l,[x0,x1,x2,x3,x4,x5,x6,x7]⟩ a c m1 m2 at' lt' ct' m4 W ⟨z1,z3,z4,rfl⟩ z2 z5 t1 t2 zs4 hG).mono λe W' ⟨he,hb⟩=>?_
 subst he;exact⟨_,rfl,_,_,_,[],_,[],hW',amh (shut_bool underlying4 _) trodAll_mk0,(amh (Below.trod laidOut (by kernel_rfl) (alF (by kernel_rfl)) h0k hb hlt0) (amh (shut_int underlying3 ws1) (amh (shut_int underlying3 ws2) (amh (Below.trod laidOut (by kernel_rfl) (alF (by kernel_rfl)) h3k hb hlt3) (amh (shut_string underlying9 ws4) trodAll_mk0))))),rfl,hb.frame _,λh=>by cases h⟩
def Uu:Nat->DataW Unit->List Value
 | 0,_=>[]
 | _+1,.lit (.int k z)=>[.int k z]
 | _+1,.lit (.string s)=>[.string ⟨s.toArray⟩]
 | n+1,.agg l=>l.flatMap (Uu n)
 | _+1,_=>[]
def aa5 (c:Array Value):Obj->Obj
 | .cells _ t frozen=>.cells c t frozen
 | o=>o
def Xt (g:Nat)(d:DataW Unit)(h:Array Obj):Array Obj:=h.modify g (aa5 (Uu 4 d).toArray)
def laid (w:World):World:={w with heap:=Xt 2 Rows.laid_unicode_utf8_first (Xt 0 Rows.laid_rillbook_plan_bounds (Xt 3 Rows.laid_unicode_utf8_acceptRanges w.heap))}
theorem aev (os:Os):laidMet prog Rows.streamPlaysRow.laid ((laid (World.holding prog os ⟨#[],#[],[]⟩)).forCall (λ_ _=>0) ⟨#[],#[.agg #[.string ⟨#[]⟩,.slice none 0 0,.int .i64 0,.int .i64 0,.int .i64 0,.int .i64 0,.int .i64 0,.int .i64 0,.int .i64 0,.int .i64 0],.int .i64 0,.int .i64 0,.slice none 0 0,.string ⟨#[]⟩],[]⟩).memory :=
 laidMet_of_run' 8 (by kernel_rfl) (by kernel_rfl)
theorem reads (os:Os){H:Type}(enc:TypeId×Value->H):∃places,DataW.whole enc prog ((laid (World.holding prog os ⟨#[],#[],[]⟩)).forCall (λ_ _=>0) ⟨#[],#[.agg #[.string ⟨#[]⟩,.slice none 0 0,.int .i64 0,.int .i64 0,.int .i64 0,.int .i64 0,.int .i64 0,.int .i64 0,.int .i64 0,.int .i64 0],.int .i64 0,.int .i64 0,.slice none 0 0,.string ⟨#[]⟩],[]⟩).memory Tryz.f3.params.toList Rows.streamPlaysSpec.vars false (#[.agg #[.string ⟨#[]⟩,.slice none 0 0,.int .i64 0,.int .i64 0,.int .i64 0,.int .i64 0,.int .i64 0,.int .i64 0,.int .i64 0,.int .i64 0],.int .i64 0,.int .i64 0,.slice none 0 0,.string ⟨#[]⟩]:Array Value).toList 8=some ([.agg [.lit (.string []),.nil,.lit (.int .i64 0),.lit (.int .i64 0),.lit (.int .i64 0),.lit (.int .i64 0),.lit (.int .i64 0),.lit (.int .i64 0),.lit (.int .i64 0),.lit (.int .i64 0)],.lit (.int .i64 0),.lit (.int .i64 0),.nil,.lit (.string [])],[],places) :=
 ⟨[],by kernel_rfl⟩
theorem lifted {G:World->Prop}{RH:World->Nat->Nat->(Nat->Prop)->Pn.cu->Int->Int->dW->Prop}{SH:World->Nat->Nat->(Nat->Prop)->aJ->Prop}(hN:∀{w w':World},G w->Below w.heap.size w w'->G w')(hT:∀{W:World},laidMetH prog Rows.streamPlaysRow.laid W->G W)(V:gQ G RH SH)(M:sO RH)(SC:uq RH)(HS:lV SH)(HT:lX SH)(HY:Gg SH)(os:Os)(started:os.Started)(H:Type)(enc:TypeId×Value->H)(F:Stop.Interp) :
 ReturnsInHanded {} Tryz.checked os 3 .any ((OpenSpec.ofChange Rows.streamPlaysSpec).preRow enc prog Tryz.f3 Rows.streamPlaysRow.domain false Rows.streamPlaysRow.laid) (((OpenSpec.ofChange Rows.streamPlaysSpec).at F).post enc prog Tryz.f3 false true false false):=by
 obtain⟨places,hx⟩:=reads os enc;refine returnsInHanded_of_row (C:=Tryz.checked) (s:=OpenSpec.ofChange Rows.streamPlaysSpec) own started (by kernel_rfl) func3
  (witness_row_at (enc:=enc) (C:=Tryz.checked) false (laid (World.holding prog os ⟨#[],#[],[]⟩)) #[.agg #[.string ⟨#[]⟩,.slice none 0 0,.int .i64 0,.int .i64 0,.int .i64 0,.int .i64 0,.int .i64 0,.int .i64 0,.int .i64 0,.int .i64 0],.int .i64 0,.int .i64 0,.slice none 0 0,.string ⟨#[]⟩] rfl (by kernel_rfl) (by kernel_rfl) (by kernel_rfl)
   (OpenSpec.preRow_of_cond 8 hx (by kernel_rfl) (λk hk=>by cases hk) (by kernel_rfl) (aev os))) ?_
 intro W base args ds gs before hval hW _ _ hsz hlm _ _;exact aeu hN hT V M SC HS HT HY H enc W base args ds gs before hval hW hsz hlm
theorem agh {G:World->Prop}{RH:World->Nat->Nat->(Nat->Prop)->Pn.cu->Int->Int->dW->Prop}{SH:World->Nat->Nat->(Nat->Prop)->aJ->Prop}(hN:∀{w w':World},G w->Below w.heap.size w w'->G w')(hT:∀{W:World},laidMetH prog Rows.streamPlaysRow.laid W->G W)(V:gQ G RH SH)(M:sO RH)(SC:uq RH)(HS:lV SH)(HT:lX SH)(HY:Gg SH):Rows.StreamPlaysSaid :=
 OpenClaim.holds_of_cond 3 Tryz.f3 rfl rfl rfl rfl rfl rfl rfl ⟨rfl,rfl,rfl,rfl,rfl⟩ rfl rfl rfl rfl rfl (by kernel_rfl) func3 (by kernel_rfl)
  (alF (by kernel_rfl)) (by unfold Func.isWrapper;first|(rw[if_pos (by decide +kernel)];kernel_rfl)|(rw[if_neg (by decide +kernel)];exact⟨rfl,rfl⟩))
  (λos started H enc _ F=>by rw[OpenClaim.pre_eq_preRow];exact lifted hN hT V M SC HS HT HY os started H enc F)
theorem plain (f:FuncId)(fn:Func)(hf:Tryz.pinned.checked.prog.funcNamed Rows.streamPlaysRow.func=some f)(hfn:Tryz.pinned.checked.prog.funcs[f]?=some fn) :
 Rows.streamPlaysCard.stood.looks=Tryz.pinned.checked.prog.looks []/\∀(j:Nat) t,fn.params[j]?=some t->Tryz.pinned.checked.prog.wantsStandIn t=false:=by
 obtain rfl:f=3:=ajC ((show prog.funcNamed Rows.streamPlaysRow.func=some 3 by kernel_rfl).symm.trans hf) |>.symm;obtain rfl:fn=Tryz.f3:=(ajC (func3.symm.trans hfn)).symm;refine⟨by kernel_rfl,λj t ht=>?_⟩;rw[Tryz.params3] at ht;have hm:t=24\/t=3\/t=25\/t=9:=by
  have:=Array.mem_of_getElem? ht;simp at this;omega
 rcases hm with rfl|rfl|rfl|rfl
 ·exact(show prog.wantsStandIn 24=false by kernel_rfl)
 ·exact(show prog.wantsStandIn 3=false by kernel_rfl)
 ·exact(show prog.wantsStandIn 25=false by kernel_rfl)
 ·exact(show prog.wantsStandIn 9=false by kernel_rfl)
theorem agi {G:World->Prop}{RH:World->Nat->Nat->(Nat->Prop)->Pn.cu->Int->Int->dW->Prop}{SH:World->Nat->Nat->(Nat->Prop)->aJ->Prop}(hN:∀{w w':World},G w->Below w.heap.size w w'->G w')(hT:∀{W:World},laidMetH prog Rows.streamPlaysRow.laid W->G W)(V:gQ G RH SH)(M:sO RH)(SC:uq RH)(HS:lV SH)(HT:lX SH)(HY:Gg SH):Rows.StreamPlaysCardSaid :=
 Claim7.holds_tied_plain_at .later [] _ _ _ _ (agh hN hT V M SC HS HT HY) (λ_ h=>by cases h) (by kernel_rfl) (λ_ h=>by cases h) streamPlays_row_tie rfl ⟨rfl,rfl⟩ (by kernel_rfl) rfl plain (by kernel_rfl)
end Dk.streamPlays
namespace Dk
def half (keep:Int)(left:Lit->Bool)(es:List ay):List ay:=es.map (λe=>if left (.int .i64 e.n) then e else lu keep e)
theorem Ko (keep:Int)(left:Lit->Bool)(es:List ay)(k:Int):fH (half keep left es) k=(fH es k).map (λe=>if left (.int .i64 e.n) then e else lu keep e) :=
 aeF es _ (λe=>by split<;>rfl) k
theorem half_start {keep:Int}{left:Lit->Bool}{es:List ay}(h:∀e∈es,left (.int .i64 e.n)=true):half keep left es=es:=by
 unfold half;conv=>rhs;rw[<-List.map_id es]
 exact amy (λe he=>by rw[h e he];rfl)
theorem aew {keep:Int}{left:Lit->Bool}{es:List ay}(h:∀kl,left kl=false):half keep left es=es.map (lu keep):=by
 unfold half;exact amy (λe _=>by rw[h];rfl)
theorem aa6 {keep:Int}{left:Lit->Bool}{es:List ay}{x:Int}{e:ay}(hf:fH es x=some e)(k:Int):fH (half keep (λz=>left z&&!z.sameKey (.int .i64 x)) es) k=if k=x then some (lu keep e) else fH (half keep left es) k:=by
 rw[Ko,Ko];by_cases hk:k=x
 ·rw[if_pos hk,hk,hf];have:=(wV hf).2;simp[this,Lit.sameKey]
 ·rw[if_neg hk]
  cases hfk:fH es k with
  | none=>rfl
  | some e1 =>
   have h1:=(wV hfk).2;have:Lit.sameKey (.int .i64 e1.n) (.int .i64 x)=false:=Maps.sameKey_ne (IE (by rw[h1];exact hk));simp[this]
theorem agj {keep:Int}{left:Lit->Bool}{es:List ay}{x:Int}{e:ay}(hf:fH es x=some e)(hl:left (.int .i64 x)=true):fH (half keep left es) x=some e:=by
 rw[Ko,hf];have:=(wV hf).2;simp[this,hl]
theorem Uw (keep:Int)(left:Lit->Bool)(es:List ay):(half keep left es).length=es.length:=by simp[half]
theorem Ux {e:ay}(keep:Int)(h0:0<=e.sure)(h1:e.sure<=(e.text.size:Int)):e.sure+min (max keep 0) ((e.text.size:Int)-e.sure)=(fA e keep:Int):=by
 unfold fA;omega
def agQ (w wr:World)(B q:Nat)(rl:Nat->Option (Nat×Int))(m:Int)(es:List ay)(b:Nat)(D:DataW Unit)(cO:Int->Nat)(keep:Int)(left:Lit->Bool):Prop:=∃rl' vO,kC wr B q rl' m (half keep left es) (some b) D cO vO/\aH (λk=>(rl k).isSome=true) w wr/\(∀k,(rl' k).isSome=true->(rl k).isSome=true\/w.heap.size<k)
theorem Xu {w:World}{B q:Nat}{F:Nat->Prop}{m:Int}{es:List ay}(keep:Int)(hH:Has w B q F m es)(ht:Tidy m es)(hm:m<=65536) :
 Calls prog 108 #[.pointer (some ⟨q,0,none⟩),.int .i64 keep] w λe w'=>e=.returned (.tuple #[])/\oO Has w w' B q F m (es.map (lu keep)):=by
 have HH:=aj hH;obtain⟨rl,mb,D,cO,vO,hF,h⟩:=hH;have k1:=h.c1;have HT:=aj ht;have hfit:=ht.fits;rcases h.mp with ⟨rfl,rfl⟩|⟨b,rfl,hown⟩
 ·have h0:es=[]:=ajZ h.sz.symm;subst h0;have hrg:=run_range_nilMap (P:=prog) w 170 3 188 underlying170;have hnx:∀ty,(Instr.next (.pointer (some ⟨w.heap.size,0,none⟩)) false ty).run prog (w.alloc (.mapIter none 0 #[] 0))=_:=λty=>run_next_nilMap w ty 0 0 #[]
  clear h hF ht hfit;go_enter func108,ntmps108;go_wp2_with fail;refine wp_loop_rounds 1 ?_;rw[rounds_succ];go_wp2_with fail;go_end0
  exact⟨rfl,xA (ah HH) ((ajb _ _).alloc (Xc _) _)⟩
 ·have H:=aj h;have HF:=aj hF;have hbl:=hown.lt;clear h hF ht;go_enter func108,ntmps108;go_wp2_with (first
   | (at_range;refine wpList_range_own _ rfl _ 170 rfl 3 188 Gz underlying170 _ b _ _ rfl hown ?_;intro w0 hrg0 hg0 hs0)
   | go_in)
  go_frame
  clear k1;go_loopw [11] (λ_ wr=>∃(left:Lit->Bool) (cnt:Nat),wr.ranges prog 3 dF b w.heap.size (Maps.size D) D left cnt/\Hid (agQ w wr B q rl m es b D cO keep left)) (λ_ wr=>wr.rangeLeft b w.heap.size)
  case atStart =>
   refine⟨_,_,hrg0,aj ⟨rl,vO,?_,(aH.bH hg0).mono (λk _ z=>by cases z),λk hk=>.inl hk⟩⟩;rw[half_start (λe he=>by rw[(ah H).key,<-yX];exact alP.2 ⟨e,he,rfl⟩)];exact(ah H).keep (A:=λ_=>False) ((aH.bH hg0).mono (λk _ z=>by cases z)) (λ_ _ z=>z)
  case round =>
   obtain⟨left,cnt,hrg,hS⟩:=hrel;clear hrg0 hg0 hs0;go_wp2_with (first
    | (at_next;refine wpList_next_ranges _ rfl _ rfl 3 Gz dF (Value.int .i64) mkP ahI ahJ b w.heap.size _ _ _ _ rfl hrg ?_ ?_)
    | go_in)
   ·intro _ hl0;go_wp2_with fail;go_end0
    obtain⟨rl',vO',h',hc,hr⟩:=ah hS;rw[aew hl0] at h';exact⟨rfl,h'.did (ah HF) hc (λk hk=>(hr k hk).imp id alJ)⟩
   ·intro x c kl yd yp w2 cnt2 hkey hlk hv hat hrg2 hlt hg2 hs2 hen;obtain⟨rfl,rfl,e,hf⟩:=(ah H).came hkey hv hat;obtain⟨rl',vO',h',hc,hr⟩:=ah hS;have hit:¬(rl' w.heap.size).isSome=true:=λz=>by
     rcases hr _ z with y|y
     ·have:=((ah H).own _ y).2;omega
     ·omega
    have ahw:aH (λk=>k=w.heap.size) wr w2:=(aH.bH hg2).mono (λk _ z=>(ajC z).symm);have h2:=h'.keep ahw (λk hk z=>hit (by rw[<-z];exact hk));have hf2:=agj (keep:=keep) hf hlk;have fQ:=h2.file x e hf2;have haw:=h2.ae2 hf2;obtain⟨a,cap,hvv,_,_⟩:=fQ.shape;have d0:w2.drew.cell? ⟨cO x,0,none⟩=some (.slice a e.text.size cap):=by rw[<-hvv];exact fQ.c0
    have d1:w2.drew.cell? ⟨cO x,1,none⟩=some (.int .i64 e.sure):=fQ.c1;have hmem:=oU (wV hf).1;have aex:=(ah HT).each e (wV hf).1;have hK:=Ux keep aex.2.1 aex.2.2;have hst:=NM e keep;have hs0:=aex.2.1;have hs1:=aex.2.2;obtain⟨K,hKK⟩:∃K,K=max keep 0:=⟨_,rfl⟩;have hmx:∀ts t W,(Builtin.max_ ts t #[.int .i64 keep,.int .i64 0]).run prog W=.ok (.int .i64 K) W:=λts t W=>by rw[run_max_int2,hKK];congr 2;omega
    obtain⟨M,hMM⟩:∃M,M=min K ((e.text.size:Int)-e.sure):=⟨_,rfl⟩;have hmn:∀ts t W,(Builtin.min_ ts t #[.int .i64 K,.int .i64 ((e.text.size:Int)-e.sure)]).run prog W=.ok (.int .i64 M) W:=λts t W=>by rw[run_min_int2,hMM];congr 2;omega
    have hw1:IntKind.i64.wrap ((e.text.size:Int)-e.sure)=(e.text.size:Int)-e.sure:=by rw[ajq];omega
    have hw2:IntKind.i64.wrap (e.sure+M)=(fA e keep:Int):=by rw[ajq];omega
    have hfd:nX w2.drew B (cO x) (vO' x) e:=fQ.bZ (A:=λ_=>False) (aH.aA (ajb _ _).drew) (λz=>z) (λ_ _ z=>z);have PC:=aj (QU (fA e keep) hfd haw hst);have HX:Hid (∀w3,(∃v',nX w3 B (cO x) v' (l7 e (fA e keep))/\v'.ownBlock=(vO' x).ownBlock/\aH (λk=>k=cO x\/(vO' x).ownBlock=some k) w2.drew w3)->w3.ranges prog 3 dF b w.heap.size (Maps.size D) D (λz=>left z&&!z.sameKey (.int .i64 x)) cnt2/\Hid (agQ w w3 B q rl m es b D cO keep (λz=>left z&&!z.sameKey (.int .i64 x)))):=aj (by
     rintro w3 ⟨v',p1,p2,p3⟩;have p3':aH (λk=>k=cO x\/(vO' x).ownBlock=some k) w2 w3:=(aH.aA (ajb _ _).drew).trans p3;obtain⟨rl3,h3,hr3⟩:=h2.one (e':=lu keep e) (es':=half keep (λz=>left z&&!z.sameKey (.int .i64 x)) es) hf2 (by rw[Uw,Uw]) (aa6 hf) p3' p1 (λg hg=>.inl (by rw[<-p2];exact hg));refine⟨?_,aj ⟨rl3,_,h3,?_,λk hk=>?_⟩⟩
     ·have n1:¬(b=cO x\/(vO' x).ownBlock=some b):=λz=>by
       have rb:=h2.r1 b rfl;rcases z with z|z
       ·rw[z,h2.r2 x e hf2] at rb;cases rb
       ·rw[h2.r3 x e hf2 b z] at rb;cases rb
      have n2:¬(w.heap.size=cO x\/(vO' x).ownBlock=some w.heap.size):=λz=>hit (by
       rcases z with z|z
       ·rw[z,h2.r2 x e hf2];rfl
       ·rw[h2.r3 x e hf2 _ z];rfl)
      have l1:=hrg2.owns.lt;have l2:=hrg2.lt;obtain⟨xs,clock,since,seen,c0,z1,F1,z2,z3,z4,rest⟩:=hrg2;exact⟨xs,clock,since,seen,c0,(p3'.block b l1 n1).trans z1,F1,z2,z3,(p3'.block _ l2 n2).trans z4,rest⟩
     ·refine(hc.more ahw (λi hi z=>by omega)).more (h2.jG hf2 p3') (λi hi z=>?_);rcases hr i z with y|y
      ·exact y
      ·omega
     ·rcases hr3 k hk with y|y
      ·exact hr k y
      ·right;have:=hrg2.lt;omega)
    have vw:=hrg.left_eq;clear h2 h' hc hr hit ahw fQ haw hvv hfd hMM hKK hK aex hmem hst hkey hlk hv hat hf hf2 hs2 hg2 hs0 hs1;unfold mkP at hen ⊢;go_wp2_with fail;have mixed:prog.follows .mixedOrders=true:=by kernel_rfl
    go_still_tail 19,mixed
    go_wp2_with fail;refine(ah PC).mono ?_;rintro r w3 ⟨rfl,hx3⟩;obtain⟨hrg3,hS3⟩:=ah HX w3 hx3;clear hx3 d0 d1 hen;go_wp2_with fail;go_roundw
    case rel=>exact⟨_,cnt2,hrg3,hS3⟩
    case measure=>rw[hrg3.left_eq,vw];exact hlt
theorem dV:qy Has:={
 own:=λh=>h.own
 bZ:=λh hc hA=>h.bZ hc hA
 append:=λn s h ht hm hs hB=>Ry n s h ht hm hs hB
 sync:=λn hn h ht _ _=>Zh n hn h ht
 remove:=λn hn h ht _ _=>QV n hn h ht
 uQ:=λkeep h ht hm _=>Xu keep h ht hm
 read:=λn hn h _ _ _=>(Lu n hn h).mono (λe w' ⟨h1,h2⟩=>⟨h1,by subst h2;exact vS h⟩)
 used:=λh ht hm _=>(rQ h ht hm).mono (λe w' ⟨h1,h2⟩=>⟨h1,xA h h2⟩)}
end Dk
namespace Dk
open Go.Sort Go.Shelf
theorem aey (m:Nat):AnyZI.SortsIn prog Tryz.sortedA_ren Fence.wide m :=
 ⟨λblk off cap ss W hH hblk hsz=>alh.2 (AnyM.slices_Sort_int Tryz.sortA blk off cap ss W hH hblk hsz),
  λp cap W=>alh.2 (AnyM.slices_Sort_int_none Tryz.sortA p cap W)⟩
theorem Kq {m:Int}{es:List ay}(ht:Tidy m es){ss:List Int}(hp:ss.Perm (aP es)):ss.mergeSort (λx y=>decide (x<=y))=aP es:=by
 rw[show ss.mergeSort (λx y=>decide (x<=y))=(aP es).mergeSort (λx y=>decide (x<=y)) from mergeSort_of_perm_i hp];refine List.mergeSort_of_pairwise (((jD es).1 ht.jT).imp (λh=>?_));rw[ajw];omega
theorem aez {w:World}{B:Nat}{v:Value}{l:List Int}(h:w.ownsRow B 3 1 v l.length (l.map encZ)):∃a c,v=.slice a l.length c/\pY w a l:=by
 rcases h.2 with ⟨h1,h2⟩|⟨g,cap,cur,h1,h2,h3,_⟩
 ·exact⟨none,0,by rw[h1,h2],λk hk=>by omega⟩
 ·refine⟨some ⟨g,0,none⟩,cap,h1,λk hk=>⟨g,0,rfl,(ajV.1 h3).1,?_⟩⟩;subst h1;rw[ajH h (0+k) (by omega),ajv];unfold nth;rw[akK,ajl hk];rfl
theorem NH {w:World}{q b:Nat}{D:DataW Unit}(k1:w.cell? ⟨q,1,none⟩=some (.map (some b)))(hown:w.ownsMap prog 3 dF b (Maps.size D) D)(hmax:Maps.size D<=20) :
 Calls prog 182 #[.pointer (some ⟨q,0,none⟩)] w λe w'=>∃(v:Value) (ss:List Int),e=.returned v/\ss.Perm (intKeys D)/\w'.ownsRow w.heap.size 3 1 v ss.length ((ss.mergeSort (λx y=>decide (x<=y))).map encZ)/\Below w.heap.size w w':=by
 refine(alh (n:=6)).1 ?_;have hbl:=hown.lt;have hseq:SeqGives Fence.wide 2 prog 234 #[.pointer (some ⟨w.heap.size,0,none⟩)] encZ (λss=>ss.Perm (intKeys D)) (Maps.size D) (w.alloc (.cells #[.map (some b)] 170)) :=
  AnyZI.keys_gives (ρ:=Tryz.keysA_ren) {Tryz.keysA with} Fence.wide _ trivial rfl (by omega) w.heap.size b (Maps.size D) D _ (by simp) (by simp) (by
   obtain⟨es,clock,hb,Ft,hs,hD⟩:=hown;exact⟨es,clock,(Below.heap_alloc _ _ b hbl).trans hb,Ft,hs,hD⟩)
 have cK:∀mb W,CallsIn Fence.wide 5 prog 214 #[.map mb] W λe w'=>e=.returned (.func (.func 234) #[] #[.pointer (some ⟨W.heap.size,0,none⟩)])/\w'=W.alloc (.cells #[.map mb] 170):=λmb W=>AnyZI.keys_in Tryz.keysA Fence.wide 5 trivial rfl mb W
 have cS:=AnyZI.sorted_in Tryz.sortedA Fence.wide 5 trivial trivial trivial trivial rfl (by omega) (aey _) (enters_of func233 (by kernel_rfl) rfl) 234 #[.pointer (some ⟨w.heap.size,0,none⟩)] trivial (enters_of func234 (by kernel_rfl) rfl) _ (Maps.size D) (by unfold maxLen;omega) (by omega) _ hseq;change CallsIn _ _ prog 213 _ _ _ at cS;have hfK:Fence.wide.fn 214:=trivial;have hfS:Fence.wide.fn 213:=trivial;refine amC func182 rfl trivial ?_ rfl;simp only[ntmps182,aky,ajB,alk,Nat.reduceAdd,Nat.reduceSub,akN,akO,alg,akV,akh,ajM]
 gi_wp2_with (first
  | (gi_at_call 214;refine(cK _ _).mono ?_;rintro e w' ⟨rfl,rfl⟩)
  | (gi_at_call 213;refine cS.mono ?_;rintro e w' ⟨v,ss,rfl,hS,hrow,hnil,hb⟩))
 go_ret;exact⟨v,ss,rfl,hS,ownsRow_base_a hrow (by simp),((ajb _ w).alloc (Xc _) _).trans (hb.mono (by simp))⟩
theorem keys_nil {w:World}{q:Nat}(k1:w.cell? ⟨q,1,none⟩=some (.map none)) :
 Calls prog 182 #[.pointer (some ⟨q,0,none⟩)] w λe w'=>e=.returned (.slice none 0 0)/\Below w.heap.size w w':=by
 refine(alh (n:=6)).1 ?_;have hseq:SeqGives Fence.wide 2 prog 234 #[.pointer (some ⟨w.heap.size,0,none⟩)] encZ (λss:List Int=>ss=[]) 0 (w.alloc (.cells #[.map none] 170)) :=
  AnyZI.keys_gives_nil (ρ:=Tryz.keysA_ren) {Tryz.keysA with} Fence.wide _ trivial rfl w.heap.size _ (by simp) (by simp)
 have cK:∀mb W,CallsIn Fence.wide 5 prog 214 #[.map mb] W λe w'=>e=.returned (.func (.func 234) #[] #[.pointer (some ⟨W.heap.size,0,none⟩)])/\w'=W.alloc (.cells #[.map mb] 170):=λmb W=>AnyZI.keys_in Tryz.keysA Fence.wide 5 trivial rfl mb W
 have cS:=AnyZI.sorted_in Tryz.sortedA Fence.wide 5 trivial trivial trivial trivial rfl (by omega) (aey _) (enters_of func233 (by kernel_rfl) rfl) 234 #[.pointer (some ⟨w.heap.size,0,none⟩)] trivial (enters_of func234 (by kernel_rfl) rfl) _ 0 (ajm _) (by omega) _ hseq;change CallsIn _ _ prog 213 _ _ _ at cS;have hfK:Fence.wide.fn 214:=trivial;have hfS:Fence.wide.fn 213:=trivial;refine amC func182 rfl trivial ?_ rfl;simp only[ntmps182,aky,ajB,alk,Nat.reduceAdd,Nat.reduceSub,akN,akO,alg,akV,akh,ajM]
 gi_wp2_with (first
  | (gi_at_call 214;refine(cK _ _).mono ?_;rintro e w' ⟨rfl,rfl⟩)
  | (gi_at_call 213;refine cS.mono ?_;rintro e w' ⟨v,ss,rfl,rfl,hrow,hnil,hb⟩;obtain rfl:v=.slice none 0 0:=hnil.2 rfl))
 go_ret;exact⟨rfl,((ajb _ w).alloc (Xc _) _).trans (hb.mono (by simp))⟩
theorem aa7 {w:World}{B q:Nat}{F:Nat->Prop}{m:Int}{es:List ay}(hH:Has w B q F m es)(ht:Tidy m es) :
 Calls prog 182 #[.pointer (some ⟨q,0,none⟩)] w λe w'=>∃a c,e=.returned (.slice a es.length c)/\pY w' a (aP es)/\oO Has w w' B q F m es:=by
 have HH:=hH;obtain⟨rl,mb,D,cO,vO,hF,h⟩:=hH;have hlen:(aP es).length=es.length:=by unfold aP;rw[akw]
 have hsz:=h.sz;have hfew:=ht.iW;rcases h.mp with ⟨rfl,rfl⟩|⟨b,rfl,hown⟩
 ·obtain rfl:es=[]:=ajZ hsz.symm;refine(keys_nil h.c1).mono ?_;rintro e w' ⟨rfl,hb⟩;exact⟨none,0,rfl,λk hk=>absurd hk (ajG k),xA HH hb⟩
 ·refine(NH h.c1 hown (by omega)).mono ?_;rintro e w' ⟨v,ss,rfl,hp,hrow,hb⟩;have hC:CollectedI D (λ_=>false) (aP es):=⟨((jD es).1 ht.jT).imp (λhab e=>by omega),λx=>by rw[yX,h.key];simp⟩;have hp2:ss.Perm (aP es):=hp.trans (hC.perm hown Gz underlying3 (λ_=>rfl)).symm;rw[Kq ht hp2] at hrow;have hl2:ss.length=(aP es).length:=hp2.length_eq;rw[hl2] at hrow;obtain⟨a,c,rfl,hs⟩:=aez hrow;rw[hlen];exact⟨a,c,rfl,hs,xA HH hb⟩
theorem aa8 {w:World}{B q:Nat}{F:Nat->Prop}{m:Int}{es:List ay}(hH:Has w B q F m es)(ht:Tidy m es) :
 Calls prog 182 #[.pointer (some ⟨q,0,none⟩)] w λe w'=>∃a c,e=.returned (.slice a es.length c)/\(es.length<=c/\c<=maxLen)/\pY w' a (aP es)/\(∀z,a=some z->w.heap.size<=z.block/\z.block<w'.heap.size)/\Below w.heap.size w w':=by
 obtain⟨rl,mb,D,cO,vO,hF,h⟩:=hH;have hlen:(aP es).length=es.length:=by unfold aP;rw[akw]
 have hsz:=h.sz;have hfew:=ht.iW;rcases h.mp with ⟨rfl,rfl⟩|⟨b,rfl,hown⟩
 ·obtain rfl:es=[]:=ajZ hsz.symm;refine(keys_nil h.c1).mono ?_;rintro e w' ⟨rfl,hb⟩;exact⟨none,0,rfl,⟨Xc _,ajm _⟩,λk hk=>absurd hk (ajG k),λz hz=>(by cases hz),hb⟩
 ·refine(NH h.c1 hown (by omega)).mono ?_;rintro e w' ⟨v,ss,rfl,hp,hrow,hb⟩;have hC:CollectedI D (λ_=>false) (aP es):=⟨((jD es).1 ht.jT).imp (λhab e=>by omega),λx=>by rw[yX,h.key];simp⟩;have hp2:ss.Perm (aP es):=hp.trans (hC.perm hown Gz underlying3 (λ_=>rfl)).symm;rw[Kq ht hp2] at hrow;have hl2:ss.length=(aP es).length:=hp2.length_eq;rw[hl2] at hrow;have hrow2:=hrow;have hcap:∀a c,v=.slice a (aP es).length c->(aP es).length<=c/\c<=maxLen:=λa c hv=>by
   rcases hrow2.2 with ⟨h1,h2⟩|⟨g,cap,cur,h1,h2,h3,h4,h5,_⟩
   ·rw[hv] at h1;obtain⟨_,e2,e3⟩:=ajO h1;rw[e2,e3];exact⟨Xc _,ajm _⟩
   ·rw[hv] at h1;obtain⟨_,_,rfl⟩:=ajO h1;exact⟨h4,h5⟩
  have hblk:∀a c z,v=.slice a (aP es).length c->a=some z->w.heap.size<=z.block/\z.block<w'.heap.size:=λa c z hv hz=>by
   refine ajz hrow2 z.block ?_;rw[hv,hz];rcases hrow2.2 with ⟨h1,_⟩|⟨g,cap,cur,h1,_⟩
   ·rw[hv,hz] at h1;cases (ajO h1).1
   ·rw[hv,hz] at h1;obtain rfl:=ajC (ajO h1).1;rfl
  obtain⟨a,c,rfl,hs⟩:=aez hrow;have h1:=hcap a c rfl;have h2:=hblk a c;rw[hlen] at h1 h2 ⊢;exact⟨a,c,rfl,h1,hs,λz hz=>h2 z rfl hz,hb⟩
end Dk
namespace Dk
theorem more:jZ Has:={
 dV:=dV
 cut:=λn size hn h ht _ _=>abR n size hn h ht
 list:=λh ht _ _=>aa7 h ht}
theorem lists:oh Has:={
 list:=λh ht _ _=>aa8 h ht
 reads:=λn hn h _ _ _=>(Lu n hn h).mono (λe w' ⟨h1,h2⟩=>⟨h1,by subst h2;exact ajb _ _⟩)
 tries:=λn s h ht hm hs _=>Ad n s h ht hm hs
 agq:=λn hn h ht _ _=>zO n hn h ht}
end Dk
namespace Dk.streamPlays
open Go.ChangeShapes Go.WideShapes Go.ChangeAt Go.Deep
theorem tables {W:World}(h:laidMetH prog Rows.streamPlaysRow.laid W):uT W:=by
 have h':laidMet prog Rows.streamPlaysRow.laid W:=h;exact ahg h' (by simp[Rows.streamPlaysRow])
theorem und:vC Has wJ:=⟨more,aaE more lists,ahk⟩
theorem card:Rows.StreamPlaysCardSaid:=agi (λh hb=>h.next hb) tables (aaW und news ad9 ad8) (aem und) (aaX und) ad8 ad9 aib
