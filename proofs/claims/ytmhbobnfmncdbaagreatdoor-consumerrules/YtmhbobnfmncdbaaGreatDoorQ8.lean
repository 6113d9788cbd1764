/- A part. -/
import Derived.Test.YtmhbobnfmncdbaaGreatDoorQ3
import Derived.Test.YtmhbobnfmncdbaaGreatDoorQ6
import Derived.Lib.Atoi
import Derived.Lib.IndexAny
import Derived.Lib.Join
set_option maxRecDepth 100000
set_option maxHeartbeats 8000000
namespace Go.Proofs.YtmhbobnfmncdbaaGreatDoor.Dk
open Go.RowKit Go.Proofs.Tryz
structure bD where
 l:List Rc
 last:Int
def lJ (f s:ByteArray):Bool:=aP (Pl.toks f) (Pl.toks s)
def dL (l:List Rc)(s:ByteArray):Bool:=l.any λr=>decide (r.s=s)
def fE:List Rc->Nat
 | []=>0
 | r::l=>fE l+(if dL l r.s then 0 else 1)
def seqB (l:List Rc)(n:Int):Bool:=l.any λr=>decide (r.q=n)
def dU (s:bD)(r:Rc):Int :=
 if iG r≠0 then iG r
 else if r.k=2/\seqB s.l r.q=false then 4
 else if r.k≠1 then 0
 else if r.q<=s.last then 9
 else if 200<=s.l.length\/(dL s.l r.s=false/\100<=fE s.l) then 8
 else 0
def LW (r x:Rc):Bool:=(decide (r.k=2)&&decide (x.q=r.q))||(decide (r.k=3)&&(decide (x.q<r.q)&&lJ r.s x.s))
def gV (s:bD)(r:Rc):bD :=
 if dU s r≠0 then s
 else if r.k=1 then ⟨s.l++[r],r.q⟩
 else if r.k=4 then ⟨s.l,max s.last r.q⟩
 else ⟨s.l.filter (λx=>!LW r x),s.last⟩
structure bD.Ok (s:bD):Prop where
 rise:s.l.Pairwise λa b=>a.q<b.q
 msg:∀x∈s.l,x.k=1/\iG x=0
 low:∀x∈s.l,x.q<=s.last
 last:0<=s.last/\s.last<=1099511627776
 few:s.l.length<=200
 names:fE s.l<=100
theorem Cb (a b:List Rc)(s:ByteArray):dL (a++b) s=(dL a s||dL b s):=by unfold dL;rw[List.any_append]
theorem pz:∀(l:List Rc) (r:Rc),fE (l++[r])=fE l+(if dL l r.s then 0 else 1)
 | [],r=>by simp[fE,dL]
 | x::l,r=>by
  rw[List.cons_append,fE,fE,pz l r,Cb];have e:dL [r] x.s=decide (r.s=x.s):=by simp[dL]
  have e2:dL (x::l) r.s=(decide (x.s=r.s)||dL l r.s):=by simp[dL]
  rw[e,e2];by_cases h:x.s=r.s
  ·have h':r.s=x.s:=h.symm;rw[h]
   cases dL l r.s<;>simp
  ·have h':¬r.s=x.s:=λz=>h z.symm
   rw[decide_eq_false h,decide_eq_false h']
   cases dL l x.s<;>cases dL l r.s<;>simp
theorem Cc {p:Rc->Bool}{l:List Rc}{s:ByteArray}(h:dL (l.filter p) s=true):dL l s=true:=by
 unfold dL at h ⊢;rw[List.any_eq_true] at h ⊢;obtain⟨x,hx,hs⟩:=h;exact⟨x,(List.mem_filter.1 hx).1,hs⟩
def oH:List Rc->List ByteArray
 | []=>[]
 | r::l=>if dL l r.s then oH l else r.s::oH l
theorem nT:∀l:List Rc,fE l=(oH l).length
 | []=>rfl
 | r::l=>by
  rw[fE,oH,nT l];by_cases h:dL l r.s=true
  ·rw[if_pos h,if_pos h];omega
  ·rw[if_neg h,if_neg h];rfl
theorem jc:∀(l:List Rc) (s:ByteArray),s∈oH l↔dL l s=true
 | [],s=>by simp[oH,dL]
 | r::l,s=>by
  have e:dL (r::l) s=(decide (r.s=s)||dL l s):=by simp[dL]
  rw[oH,e];by_cases h:dL l r.s=true
  ·rw[if_pos h,jc l s];constructor
   ·intro z;rw[z];simp
   ·intro z;rcases Bool.or_eq_true _ _▸z with y|y
    ·rw[<-of_decide_eq_true y];exact h
    ·exact y
  ·rw[if_neg h,List.mem_cons,jc l s,Bool.or_eq_true,decide_eq_true_eq];constructor
   ·rintro (y|y)
    ·exact .inl y.symm
    ·exact .inr y
   ·rintro (y|y)
    ·exact .inl y.symm
    ·exact .inr y
theorem jE:∀l:List Rc,(oH l).Nodup
 | []=>List.nodup_nil
 | r::l=>by
  rw[oH];by_cases h:dL l r.s=true
  ·rw[if_pos h];exact jE l
  ·rw[if_neg h,List.nodup_cons];exact⟨λz=>h ((jc l r.s).1 z),jE l⟩
theorem qC {α:Type}[DecidableEq α]:∀(a b:List α),a.Nodup->(∀x∈a,x∈b)->a.length<=b.length
 | [],b,_,_=>Nat.zero_le _
 | x::a,b,hn,hs=>by
  rw[List.nodup_cons] at hn;have hx:x∈b:=hs x (List.mem_cons_self ..);have:=qC a (b.erase x) hn.2 (λy hy=>(List.mem_erase_of_ne (λe=>hn.1 (by rw[<-e];exact hy))).2 (hs y (List.mem_cons_of_mem _ hy)));rw[List.length_erase_of_mem hx] at this;have:0<b.length:=List.length_pos_of_mem hx;simp only[List.length_cons];omega
theorem zQ (p:Rc->Bool)(l:List Rc):fE (l.filter p)<=fE l:=by
 rw[nT,nT];exact qC _ _ (jE _) (λs hs=>(jc l s).2 (Cc ((jc _ s).1 hs)))
theorem bD.Ok.nil:bD.Ok ⟨[],0⟩:=⟨List.Pairwise.nil,λ_ h=>(by cases h),λ_ h=>(by cases h),⟨Int.le_refl _,by decide⟩,Nat.zero_le _,Nat.zero_le _⟩
theorem zS {r:Rc}(h:iG r=0):1<=r.q/\r.q<=1099511627776:=by
 obtain⟨_,_,h1,h2,_⟩:=Pk.nN (r:=r.pk) h;exact⟨h1,h2⟩
theorem bD.Ok.apply {s:bD}(h:s.Ok)(r:Rc):(gV s r).Ok:=by
 unfold gV;by_cases h0:dU s r≠0
 ·rw[if_pos h0];exact h
 ·rw[if_neg h0];have h0:dU s r=0:=Classical.byContradiction h0;have hc:iG r=0:=by
   apply Classical.byContradiction;intro z;unfold dU at h0;rw[if_pos z] at h0;exact z h0
  have hq:=zS hc;by_cases h1:r.k=1
  ·rw[if_pos h1];have h2:¬r.q<=s.last/\¬(200<=s.l.length\/(dL s.l r.s=false/\100<=fE s.l)):=by
    unfold dU at h0;rw[if_neg (by rw[hc];simp),if_neg (by omega),if_neg (by omega)] at h0;by_cases z:r.q<=s.last
    ·rw[if_pos z] at h0;omega
    ·rw[if_neg z] at h0;by_cases y:200<=s.l.length\/(dL s.l r.s=false/\100<=fE s.l)
     ·rw[if_pos y] at h0;omega
     ·exact⟨z,y⟩
   obtain⟨h2,h3⟩:=h2;refine⟨?_,?_,?_,⟨by show 0<=r.q;omega,hq.2⟩,?_,?_⟩
   ·rw[List.pairwise_append];refine⟨h.rise,List.pairwise_singleton _ _,λa ha b hb=>?_⟩;rw[List.mem_singleton.1 hb];have:=h.low a ha;omega
   ·intro x hx;rcases List.mem_append.1 hx with y|y
    ·exact h.msg x y
    ·rw[List.mem_singleton.1 y];exact⟨h1,hc⟩
   ·intro x hx;rcases List.mem_append.1 hx with y|y
    ·have:=h.low x y;show x.q<=r.q;omega
    ·rw[List.mem_singleton.1 y];exact Int.le_refl _
   ·show(s.l++[r]).length<=200;rw[List.length_append,List.length_singleton];omega
   ·show fE (s.l++[r])<=100;rw[pz];have:=h.names
    cases hh:dL s.l r.s
    ·rw[if_neg (by simp)];have:¬100<=fE s.l:=λz=>h3 (.inr ⟨hh,z⟩)
     omega
    ·rw[if_pos rfl];omega
  ·rw[if_neg h1];by_cases h4:r.k=4
   ·rw[if_pos h4];have hl:=h.last;refine⟨h.rise,h.msg,λx hx=>?_,⟨?_,?_⟩,h.few,h.names⟩
    ·have:=h.low x hx;show x.q<=max s.last r.q;omega
    ·show 0<=max s.last r.q;omega
    ·show max s.last r.q<=1099511627776;omega
   ·rw[if_neg h4];exact⟨h.rise.sublist List.filter_sublist,λx hx=>h.msg x (List.mem_filter.1 hx).1,λx hx=>h.low x (List.mem_filter.1 hx).1,h.last,Nat.le_trans (List.length_filter_le _ _) h.few,Nat.le_trans (zQ _ _) h.names⟩
end Go.Proofs.YtmhbobnfmncdbaaGreatDoor.Dk
namespace Go.Proofs.YtmhbobnfmncdbaaGreatDoor
open Go.RowKit Go.Proofs.Tryz
theorem WA {es:List aN}{y:aN}(h:y∈es):∃j,j<es.length/\en es j=y:=by
 obtain⟨j,hj,e⟩:=List.getElem_of_mem h;exact⟨j,hj,by rw[iM hj];exact e⟩
theorem zT {es:List aN}(h:Ord es){s:ByteArray}{y:aN}(hy:y∈es)(e:y.1=s):bW es s=true/\y=en es (place es s):=by
 obtain⟨j,hj,rfl⟩:=WA hy;obtain⟨h1,h2⟩:=GH h hj e;exact⟨h1,by rw[h2]⟩
theorem GL:∀{a b:List aN},Ord a->Ord b->(∀e,e∈a↔e∈b)->a=b
 | [],[],_,_,_=>rfl
 | [],y::b,_,_,h=>absurd ((h y).2 (List.mem_cons_self ..)) (by simp)
 | x::a,[],_,_,h=>absurd ((h x).1 (List.mem_cons_self ..)) (by simp)
 | x::a,y::b,ha,hb,h=>by
  have ha1:=List.pairwise_cons.1 ha;have hb1:=List.pairwise_cons.1 hb;have hxy:x=y:=by
   rcases List.mem_cons.1 ((h x).1 (List.mem_cons_self ..)) with z|z
   ·exact z
   ·rcases List.mem_cons.1 ((h y).2 (List.mem_cons_self ..)) with u|u
    ·exact u.symm
    ·have:=jU (hb1.1 x z) (ha1.1 y u);rw[gI] at this;cases this
  subst hxy;have hx:∀{c:List aN},(∀e∈c,el x.1 e.1=true)->x∉c:=λhc z=>by have:=hc x z;rw[gI] at this;cases this
  rw[GL ha1.2 hb1.2 (λe=>?_)];constructor
  ·intro z;rcases List.mem_cons.1 ((h e).1 (List.mem_cons_of_mem _ z)) with u|u
   ·subst u;exact absurd z (hx ha1.1)
   ·exact u
  ·intro z;rcases List.mem_cons.1 ((h e).2 (List.mem_cons_of_mem _ z)) with u|u
   ·subst u;exact absurd z (hx hb1.1)
   ·exact u
theorem GN {es:List aN}(h:Good es){s:ByteArray}(n:Int)(hs:aB false s=0)(hr:bW es s=true\/es.length<100)(x:aN):x∈jV es s n↔x=(s,n)\/(x∈es/\x.1≠s):=by
 unfold jV;rw[if_pos hs]
 cases hh:bW es s
 ·rw[if_neg (by simp),if_neg (by rcases hr with z|z;rw[hh] at z;cases z;omega)];have hne:∀y∈es,y.1≠s:=λy hy e=>by have:=(zT h.1 hy e).1;rw[hh] at this;cases this
  have e:x∈dS es (place es s) (s,n)↔x=(s,n)\/x∈es:=by
   unfold dS;rw[List.mem_append,List.mem_cons];have:=List.take_append_drop (place es s) es;constructor
   ·rintro (z|z|z)
    ·exact .inr (List.mem_of_mem_take z)
    ·exact .inl z
    ·exact .inr (List.mem_of_mem_drop z)
   ·rintro (z|z)
    ·exact .inr (.inl z)
    ·rw[<-this] at z;rcases List.mem_append.1 z with y|y
     ·exact .inl y
     ·exact .inr (.inr y)
  rw[e];constructor
  ·rintro (z|z)
   ·exact .inl z
   ·exact .inr ⟨z,hne x z⟩
  ·rintro (z|z)
   ·exact .inl z
   ·exact .inr z.1
 ·rw[if_pos rfl];obtain⟨p1,p2⟩:=mM hh;constructor
  ·intro z;obtain⟨j,hj,e⟩:=List.getElem_of_mem z;rw[List.length_set] at hj;rw[List.getElem_set] at e;by_cases hp:place es s=j
   ·rw[if_pos hp] at e;exact .inl e.symm
   ·rw[if_neg hp] at e;refine .inr ⟨by rw[<-e];exact List.getElem_mem hj,λq=>hp ?_⟩;exact(yw h.1 hj (by rw[iM hj,e];exact q)).symm
  ·rintro (z|⟨z,q⟩)
   ·rw[z];exact List.mem_set p1 _
   ·obtain⟨j,hj,e⟩:=List.getElem_of_mem z;have hp:¬place es s=j:=λhp=>q (by rw[<-e,<-iM hj,<-hp];exact p2)
    have:(es.set (place es s) (s,n))[j]'(by rw[List.length_set];exact hj)=x:=by rw[List.getElem_set,if_neg hp];exact e
    rw[<-this];exact List.getElem_mem _
theorem LX {es:List aN}(h:Good es){s:ByteArray}(hs:aB false s=0)(x:aN):x∈jk es s↔x∈es/\x.1≠s:=by
 unfold jk;rw[if_pos hs]
 cases hh:bW es s
 ·rw[if_neg (by simp)];exact⟨λz=>⟨z,λe=>by have:=(zT h.1 z e).1;rw[hh] at this;cases this⟩,λz=>z.1⟩
 ·rw[if_pos rfl];obtain⟨p1,p2⟩:=mM hh;have hsp:es=es.take (place es s)++en es (place es s)::es.drop (place es s+1):=by
   rw[iM p1,<-List.drop_eq_getElem_cons p1,List.take_append_drop]
  constructor
  ·intro z;refine⟨GI z,λe=>?_⟩;have ho:=h.1;unfold Ord at ho;rw[hsp,List.pairwise_append,List.pairwise_cons] at ho;obtain⟨_,⟨o2,_⟩,o3⟩:=ho;unfold qB at z;rcases List.mem_append.1 z with y|y
   ·have:=o3 x y (en es (place es s)) (List.mem_cons_self ..);rw[e,p2,gI] at this;cases this
   ·have:=o2 x y;rw[e,p2,gI] at this;cases this
  ·rintro ⟨z,q⟩;rw[hsp] at z;unfold qB;rcases List.mem_append.1 z with y|y
   ·exact List.mem_append.2 (.inl y)
   ·rcases List.mem_cons.1 y with u|u
    ·exact absurd (by rw[u];exact p2) q
    ·exact List.mem_append.2 (.inr u)
def dV (l:List Dk.Rc)(s:ByteArray):Nat:=(l.filter λr=>decide (r.s=s)).length
theorem dI (a b:List Dk.Rc)(s:ByteArray):dV (a++b) s=dV a s+dV b s:=by unfold dV;rw[List.filter_append,List.length_append]
theorem mO (r:Dk.Rc)(s:ByteArray):dV [r] s=if r.s=s then 1 else 0:=by
 unfold dV;by_cases h:r.s=s
 ·rw[if_pos h];simp[h]
 ·rw[if_neg h];simp[h]
theorem mP (l:List Dk.Rc)(s:ByteArray):Dk.dL l s=decide (0<dV l s):=by
 unfold Dk.dL dV;rw[Bool.eq_iff_iff,List.any_eq_true,decide_eq_true_eq,List.length_pos_iff_exists_mem];constructor
 ·rintro ⟨x,h1,h2⟩;exact⟨x,List.mem_filter.2 ⟨h1,h2⟩⟩
 ·rintro ⟨x,h1⟩;obtain⟨h1,h2⟩:=List.mem_filter.1 h1;exact⟨x,h1,h2⟩
structure Cnt (l:List Dk.Rc)(es:List aN):Prop where
 good:Good es
 mem:∀e:aN,e∈es↔0<dV l e.1/\e.2=(dV l e.1:Int)
theorem Cnt.nil:Cnt [] []:=⟨LQ,λe=>by simp[dV]⟩
theorem Cnt.same {l:List Dk.Rc}{a b:List aN}(h:Cnt l a)(g:Cnt l b):a=b:=GL h.good.1 g.good.1 (λe=>by rw[h.mem,g.mem])
theorem Cnt.has {l:List Dk.Rc}{es:List aN}(h:Cnt l es)(s:ByteArray):bW es s=decide (0<dV l s):=by
 rw[Bool.eq_iff_iff,decide_eq_true_eq];constructor
 ·intro z;obtain⟨p1,p2⟩:=mM z;have:=((h.mem _).1 (EF p1)).1;rw[p2] at this;exact this
 ·intro z;exact(zT h.good.1 ((h.mem (s,(dV l s:Int))).2 ⟨z,rfl⟩) rfl).1
theorem Cnt.get {l:List Dk.Rc}{es:List aN}(h:Cnt l es){s:ByteArray}(hs:aB false s=0):gU es s=(dV l s:Int):=by
 unfold gU;rw[if_pos hs,h.has];by_cases z:0<dV l s
 ·rw[decide_eq_true z,if_pos rfl];have:=(zT h.good.1 ((h.mem (s,(dV l s:Int))).2 ⟨z,rfl⟩) rfl).2;rw[<-this]
 ·rw[decide_eq_false z,if_neg (by simp)];omega
theorem Cnt.put {l:List Dk.Rc}{es:List aN}(h:Cnt l es)(r:Dk.Rc)(hs:aB false r.s=0)(hz:r.s.size<=140737488355328)(hr:0<dV l r.s\/es.length<100):Cnt (l++[r]) (jV es r.s ((dV l r.s:Int)+1)):=by
 refine⟨BX h.good _ hz,λe=>?_⟩;rw[GN h.good _ hs (by rw[h.has];simpa using hr),h.mem,dI,mO];by_cases q:e.1=r.s
 ·rw[if_pos q.symm,q];constructor
  ·rintro (z|z)
   ·rw[z];exact⟨by omega,by simp⟩
   ·exact absurd rfl z.2
  ·rintro ⟨_,z⟩;exact .inl (Prod.ext q (by rw[z];simp))
 ·rw[if_neg (λz=>q z.symm),Nat.add_zero];constructor
  ·rintro (z|z)
   ·exact absurd (by rw[z]) q
   ·exact z.1
  ·intro z;exact .inr ⟨z,q⟩
theorem Cnt.less {A B:List Dk.Rc}{x:Dk.Rc}{es:List aN}(h:Cnt (A++x::B) es)(hs:aB false x.s=0)(hz:x.s.size<=140737488355328):(dV (A++B) x.s=0->Cnt (A++B) (jk es x.s))/\Cnt (A++B) (if dV (A++B) x.s=0 then jk es x.s else jV es x.s (dV (A++B) x.s:Int)):=by
 have hc:∀s,dV (A++x::B) s=dV (A++B) s+(if x.s=s then 1 else 0):=λs=>by
  rw[show A++x::B=A++([x]++B) from rfl,dI,dI,dI,mO];omega
 have hd:dV (A++B) x.s=0->Cnt (A++B) (jk es x.s):=λh0=>by
  refine⟨Jd h.good _,λe=>?_⟩;rw[LX h.good hs,h.mem,hc];by_cases q:e.1=x.s
  ·rw[q,h0];simp
  ·rw[if_neg (λz=>q z.symm),Nat.add_zero];exact⟨λz=>z.1,λz=>⟨z,q⟩⟩
 refine⟨hd,?_⟩;by_cases h0:dV (A++B) x.s=0
 ·rw[if_pos h0];exact hd h0
 ·rw[if_neg h0];refine⟨BX h.good _ hz,λe=>?_⟩;rw[GN h.good _ hs (.inl (by rw[h.has,hc,if_pos rfl];simp)),h.mem,hc];by_cases q:e.1=x.s
  ·rw[q];constructor
   ·rintro (z|z)
    ·rw[z];exact⟨by omega,rfl⟩
    ·exact absurd rfl z.2
   ·rintro ⟨_,z⟩;exact .inl (Prod.ext q z)
  ·rw[if_neg (λz=>q z.symm),Nat.add_zero];constructor
   ·rintro (z|z)
    ·exact absurd (by rw[z]) q
    ·exact z.1
   ·intro z;exact .inr ⟨z,q⟩
theorem Cnt.len {l:List Dk.Rc}{es:List aN}(h:Cnt l es):es.length=Dk.fE l:=by
 have hn:(es.map (·.1)).Nodup:=by
  have:=h.good.1;unfold Ord at this;rw[List.Nodup,List.pairwise_map];exact this.imp (λ{a b} hab e=>by rw[e,gI] at hab;cases hab)
 have hm:∀s,s∈es.map (·.1)↔s∈Dk.oH l:=λs=>by
  rw[Dk.jc,mP,decide_eq_true_eq,List.mem_map];constructor
  ·rintro ⟨e,he,rfl⟩;exact((h.mem e).1 he).1
  ·intro z;exact⟨(s,(dV l s:Int)),(h.mem _).2 ⟨z,rfl⟩,rfl⟩
 rw[Dk.nT,<-List.length_map (f:=λe:aN=>e.1)];exact Nat.le_antisymm (Dk.qC _ _ hn (λs hs=>(hm s).1 hs)) (Dk.qC _ _ (Dk.jE l) (λs hs=>(hm s).2 hs))
def LY (es:List aN)(f:ByteArray):List aN:=if aB true f=0 then Sj es f else []
def lN:List aN->Int
 | []=>0
 | e::es=>e.2+lN es
theorem mQ:∀a b:List aN,lN (a++b)=lN a+lN b
 | [],b=>by simp[lN]
 | e::a,b=>by rw[List.cons_append,lN,lN,mQ a b,Int.add_assoc]
theorem Vt {es:List aN}{k:Nat}(h:k<es.length):lN (es.take (k+1))=lN (es.take k)+(en es k).2:=by
 rw[List.take_succ_eq_append_getElem h,mQ];have:en es k=es[k]:=by unfold en;rw[List.getElem?_eq_getElem h];rfl
 rw[this];simp[lN]
theorem vI:∀{es:List aN},(∀e∈es,0<=e.2)->0<=lN es
 | [],_=>Int.le_refl _
 | e::es,h=>by
  have h1:=h e (List.mem_cons_self ..);have h2:=vI (es:=es) (λx hx=>h x (List.mem_cons_of_mem _ hx));rw[lN];omega
theorem TI {es:List aN}(h:∀e∈es,0<=e.2)(k:Nat):0<=lN (es.take k)/\lN (es.take k)<=lN es:=by
 have h1:=vI (es:=es.take k) (λx hx=>h x (List.mem_of_mem_take hx));have h2:=vI (es:=es.drop k) (λx hx=>h x (List.mem_of_mem_drop hx));have h3:=mQ (es.take k) (es.drop k);rw[List.take_append_drop] at h3;omega
def qE (l:List Dk.Rc):List ByteArray->Nat
 | []=>0
 | s::N=>dV l s+qE l N
theorem yB {r:Dk.Rc}{l:List Dk.Rc}:∀{N:List ByteArray},r.s∉N->qE (r::l) N=qE l N
 | [],_=>rfl
 | s::N,h=>by
  have h1:¬r.s=s:=λe=>h (by rw[e];exact List.mem_cons_self ..)
  rw[qE,qE,yB (N:=N) (λz=>h (List.mem_cons_of_mem _ z)),show r::l=[r]++l from rfl,dI,mO,if_neg h1,Nat.zero_add]
theorem Ce {r:Dk.Rc}{l:List Dk.Rc}:∀{N:List ByteArray},N.Nodup->r.s∈N->qE (r::l) N=qE l N+1
 | [],_,h=>by cases h
 | s::N,hn,h=>by
  obtain⟨h1,h2⟩:=List.nodup_cons.1 hn;rw[qE,qE,show r::l=[r]++l from rfl,dI,mO];by_cases e:r.s=s
  ·rw[if_pos e,show[r]++l=r::l from rfl,yB (by rw[e];exact h1)];omega
  ·rw[if_neg e,show[r]++l=r::l from rfl,Ce h2 (by
    rcases List.mem_cons.1 h with z|z
    ·exact absurd z e
    ·exact z)]
   omega
theorem Ci:∀N:List ByteArray,qE [] N=0
 | []=>rfl
 | s::N=>by rw[qE,Ci N];rfl
theorem Cj {N:List ByteArray}(hn:N.Nodup):∀{l:List Dk.Rc},(∀r∈l,r.s∈N)->qE l N=l.length
 | [],_=>Ci N
 | r::l,h=>by
  rw[Ce hn (h r (List.mem_cons_self ..)),Cj hn (λx hx=>h x (List.mem_cons_of_mem _ hx))];rfl
theorem LZ {l:List Dk.Rc}:∀{es:List aN},(∀e∈es,e.2=(dV l e.1:Int))->lN es=(qE l (es.map (·.1)):Int)
 | [],_=>rfl
 | e::es,h=>by
  rw[lN,List.map_cons,qE,LZ (λx hx=>h x (List.mem_cons_of_mem _ hx)),h e (List.mem_cons_self ..)];omega
theorem Cnt.sum {l:List Dk.Rc}{es:List aN}(h:Cnt l es):lN es=(l.length:Int):=by
 have hn:(es.map (·.1)).Nodup:=by
  have:=h.good.1;unfold Ord at this;rw[List.Nodup,List.pairwise_map];exact this.imp (λ{a b} hab e=>by rw[e,gI] at hab;cases hab)
 rw[LZ (λe he=>((h.mem e).1 he).2),Cj hn (λr hr=>?_)];refine List.mem_map.2 ⟨(r.s,(dV l r.s:Int)),(h.mem _).2 ⟨?_,rfl⟩,rfl⟩;have:=mP l r.s;have h2:Dk.dL l r.s=true:=by
  unfold Dk.dL;exact List.any_eq_true.2 ⟨r,hr,by simp⟩
 rw[h2] at this;simpa using this.symm
theorem Cnt.pos {l:List Dk.Rc}{es:List aN}(h:Cnt l es):∀e∈es,0<=e.2:=λe he=>by
 rw[((h.mem e).1 he).2];omega
theorem L9:∀(n:Nat) (l:List Dk.Rc),l.length=n->(∀x∈l,aB false x.s=0/\x.s.size<=140737488355328)->Dk.fE l<=100->∃es,Cnt l es
 | 0,l,hn,_,_=>by
  obtain rfl:=List.length_eq_zero_iff.1 hn;exact⟨[],Cnt.nil⟩
 | n+1,l,hn,h,iT=>by
  rcases List.eq_nil_or_concat l with rfl|⟨L,b,rfl⟩
  ·cases hn
  ·rw[List.concat_eq_append] at hn h iT ⊢;rw[Dk.pz] at iT;rw[List.length_append] at hn;have hn:L.length=n:=by simpa using hn
   obtain⟨es,hc⟩:=L9 n L hn (λx hx=>h x (List.mem_append.2 (.inl hx))) (by omega);have hb:=h b (List.mem_append.2 (.inr (List.mem_singleton.2 rfl)));refine⟨_,hc.put b hb.1 hb.2 ?_⟩;by_cases z:Dk.dL L b.s=true
   ·left;rw[mP] at z;simpa using z
   ·right;rw[if_neg z] at iT;rw[hc.len];omega
theorem CG:aB true ⟨#[62]⟩=0:=by decide +kernel
theorem Qo:Pl.toks ⟨#[62]⟩=[⟨#[62]⟩]:=by decide +kernel
theorem Ji (s:ByteArray):∃t ts,Pl.toks s=t::ts:=by
 have h:=Pl.iV s
 cases hs:Pl.toks s with
 | cons t ts=>exact⟨t,ts,rfl⟩
 | nil =>
  rw[hs] at h;exact absurd h.symm (Pl.oO _)
theorem Cnt.Vu {l:List Dk.Rc}{es:List aN}(h:Cnt l es):LY es ⟨#[62]⟩=es:=by
 unfold LY Sj;rw[if_pos CG];refine List.filter_eq_self.2 (λe he=>?_);have hs:=(h.good.2.2 e he).1;obtain⟨t,ts,ht⟩:=Ji e.1;unfold aF;rw[CG,hs,Qo,ht];simp[aP,oD]
end Go.Proofs.YtmhbobnfmncdbaaGreatDoor
namespace Go.Proofs.YtmhbobnfmncdbaaGreatDoor.Dk
open Go.RowKit Go.Proofs.Tryz
def mV (f:ByteArray)(l:List Rc):List Rc:=l.filter λr=>lJ f r.s
def kU (l:List Rc)(n:Int):Option Rc:=l.find? λr=>decide (r.q=n)
def aX (f:ByteArray)(l:List Rc)(from':Int):Option Rc:=l.find? λr=>lJ f r.s&&decide (from'<=r.q)
def iO (f:ByteArray)(l:List Rc):Option Rc:=(mV f l).getLast?
def fF:List Rc->Nat
 | []=>0
 | r::l=>r.s.size+r.h.size+r.d.size+fF l
def pF (l:List Rc):Int:=match l with
 | []=>0
 | r::_=>r.q
theorem kV:∀a b:List Rc,fF (a++b)=fF a+fF b
 | [],b=>by simp[fF]
 | r::a,b=>by rw[List.cons_append,fF,fF,kV a b];omega
theorem CJ {l:List Rc}(h:∀r∈l,r.s.size<=135/\r.h.size+r.d.size<=256):fF l<=391*l.length:=by
 induction l with
 | nil=>simp[fF]
 | cons r l ih =>
  have h1:=h r (List.mem_cons_self ..);have h2:=ih (λx hx=>h x (List.mem_cons_of_mem _ hx));rw[fF,List.length_cons];omega
theorem bD.Ok.small {s:bD}(h:s.Ok){x:Rc}(hx:x∈s.l):x.s.size<=135/\x.h.size+x.d.size<=256:=by
 obtain⟨_,_,_,_,_,_,h1,h2⟩:=Pk.nN (r:=x.pk) (h.msg x hx).2;have e:∀x:ByteArray,x.data.toList.length=x.size:=λx=>by simp
 simp only[Rc.pk,e] at h1 h2;exact⟨h1,h2⟩
theorem bD.Ok.bytes {s:bD}(h:s.Ok):fF s.l<=78200:=by
 have h1:=CJ (λr hr=>h.small hr);have:=h.few;omega
theorem bD.Ok.seq {s:bD}(h:s.Ok){x:Rc}(hx:x∈s.l):1<=x.q/\x.q<=1099511627776:=zS (h.msg x hx).2
theorem EI {f:ByteArray}{l:List Rc}(h:l.Pairwise λa b=>a.q<b.q):(mV f l).Pairwise λa b=>a.q<b.q:=h.sublist List.filter_sublist
theorem EJ (f:ByteArray)(l:List Rc)(n:Int):aX f l n=(mV f l).find? λr=>decide (n<=r.q):=by
 unfold aX mV;rw[List.find?_filter];congr
 funext r
 cases lJ f r.s<;>simp
theorem yC {T:List Rc}{k:Nat}{n:Int}(h1:∀j,(hj:j<T.length)->j<k->T[j].q<n)(h2:∀hk:k<T.length,n<=T[k].q):T.find? (λr=>decide (n<=r.q))=T[k]?:=by
 by_cases hk:k<T.length
 ·rw[List.getElem?_eq_getElem hk,List.find?_eq_some_iff_getElem];refine⟨by simpa using h2 hk,k,hk,rfl,λj hj=>?_⟩;have:=h1 j (by omega) hj;simp only[Bool.not_eq_true',decide_eq_false_iff_not];omega
 ·rw[List.getElem?_eq_none (by omega),List.find?_eq_none];intro x hx;obtain⟨j,hj,rfl⟩:=List.getElem_of_mem hx;have:=h1 j hj (by omega);simp only[decide_eq_true_eq];omega
def Gone (T:List Rc)(k:Nat)(n:Int):Prop:=k<=T.length/\((k=0/\n=0)\/∃j,∃hj:j<T.length,k=j+1/\n=T[j].q+1)
theorem Gone.next {f:ByteArray}{s:bD}(h:s.Ok){k:Nat}{n:Int}(g:Gone (mV f s.l) k n):aX f s.l n=(mV f s.l)[k]?:=by
 have hr:=EI (f:=f) h.rise;have hp:∀x∈mV f s.l,1<=x.q:=λx hx=>(h.seq (List.mem_filter.1 hx).1).1
 rw[EJ];obtain⟨_,⟨rfl,rfl⟩|⟨j,hj,rfl,rfl⟩⟩:=g
 ·exact yC (λj _ z=>absurd z (Nat.not_lt_zero j)) (λhk=>by have:=hp _ (List.getElem_mem hk);omega)
 ·refine yC (λi hi z=>?_) (λhk=>?_)
  ·rcases Nat.lt_or_ge i j with y|y
   ·have:=List.pairwise_iff_getElem.1 hr i j hi hj y;omega
   ·obtain rfl:i=j:=by omega
    omega
  ·have:=List.pairwise_iff_getElem.1 hr j (j+1) hj hk (by omega);omega
theorem Gone.step {T:List Rc}{k:Nat}(hk:k<T.length):Gone T (k+1) (T[k].q+1):=⟨hk,.inr ⟨k,hk,rfl,rfl⟩⟩
theorem Gone.start (T:List Rc):Gone T 0 0:=⟨Nat.zero_le _,.inl ⟨rfl,rfl⟩⟩
theorem vJ {s:bD}{r:Rc}(h0:dU s r=0)(h3:r.k=3):gV s r=⟨s.l.filter (λx=>!(decide (x.q<r.q)&&lJ r.s x.s)),s.last⟩:=by
 unfold gV;rw[if_neg (by rw[h0];simp),if_neg (by omega),if_neg (by omega)];unfold LW;rw[h3];simp
theorem Jj {s:bD}{r:Rc}(h3:r.k=3):dU s r=iG r:=by
 unfold dU;by_cases hc:iG r≠0
 ·rw[if_pos hc]
 ·rw[if_neg hc,if_neg (by omega),if_pos (by omega)];exact(Classical.byContradiction hc:iG r=0).symm
def dB:Rc:=⟨0,0,0,⟨#[]⟩,⟨#[]⟩,⟨#[]⟩⟩
def Qp (o:Option Rc):Value:=match o with
 | some r=>.tuple #[Vh r,.int .i64 0]
 | none=>.tuple #[Vh dB,.int .i64 4]
def fP (f:ByteArray)(o:Option Rc):Value:=if aB true f=0 then Qp o else .tuple #[Vh dB,.int .i64 (aB true f)]
def Mc (SH:World->Nat->Nat->(Nat->Prop)->bD->Prop)(w w':World)(B q:Nat)(F:Nat->Prop)(s:bD):Prop:=∃F',SH w' B q F' s/\aA F w w'/\∀k,F' k->F k\/w.heap.size<=k
def pq:List Rc->Int->Nat
 | [],_=>0
 | r::l,n=>if r.q<n then pq l n+1 else 0
def fQ (l:List Rc):Prop:=l.Pairwise λa b=>a.q<b.q
theorem GR:∀(l:List Rc) (n:Int),pq l n<=l.length
 | [],_=>Nat.le_refl _
 | r::l,n=>by
  have:=GR l n;rw[pq,List.length_cons];split<;>omega
theorem mW {l:List Rc}{k:Nat}(h:k<l.length):rc l k∈l:=by rw[dF h];exact List.getElem_mem h
theorem yD:∀(l:List Rc) (n:Int) (k:Nat),k<pq l n->(rc l k).q<n
 | [],n,k,h=>by simp[pq] at h
 | r::l,n,k,h=>by
  rw[pq] at h;by_cases hr:r.q<n
  ·rw[if_pos hr] at h;match k,h with
   | 0,_=>exact hr
   | k+1,h=>exact yD l n k (by omega)
  ·rw[if_neg hr] at h;omega
theorem Me:∀(l:List Rc) (n:Int),pq l n<l.length->n<=(rc l (pq l n)).q
 | [],n,h=>by simp[pq] at h
 | r::l,n,h=>by
  rw[pq] at h ⊢;by_cases hr:r.q<n
  ·rw[if_pos hr] at h ⊢;have:=Me l n (by rw[List.length_cons] at h;omega);exact this
  ·rw[if_neg hr];have e:rc (r::l) 0=r:=rfl;rw[e];omega
theorem nU {l:List Rc}(h:fQ l){i j:Nat}(hij:i<j)(hj:j<l.length):(rc l i).q<(rc l j).q:=by
 rw[dF (by omega),dF hj];exact List.pairwise_iff_getElem.1 h i j (by omega) hj hij
theorem Sr {l:List Rc}(h:fQ l)(n:Int)(k:Nat)(h1:pq l n<=k)(h2:k<l.length):n<=(rc l k).q:=by
 have ha:=Me l n (by omega);rcases Nat.eq_or_lt_of_le h1 with e|e
 ·rw[<-e];exact ha
 ·have:=nU h e h2;omega
theorem Sv {l:List Rc}{n:Int}{i:Nat}(hi:i<=l.length)(h1:∀j,j<i->(rc l j).q<n)(h2:∀j,i<=j->j<l.length->n<=(rc l j).q):i=pq l n:=by
 rcases Nat.lt_trichotomy i (pq l n) with h|h|h
 ·have a:=yD l n i h;have:=GR l n;have:=h2 i (Nat.le_refl _) (by omega);omega
 ·exact h
 ·have a:=Me l n (by omega);have:=h1 (pq l n) h;omega
theorem EK {l:List Rc}(h:fQ l)(n:Int):seqB l n=(decide (pq l n<l.length)&&decide ((rc l (pq l n)).q=n)):=by
 unfold seqB;rw[Bool.eq_iff_iff,List.any_eq_true,Bool.and_eq_true,decide_eq_true_eq,decide_eq_true_eq];constructor
 ·rintro ⟨x,hx,e⟩;have e:x.q=n:=of_decide_eq_true e;obtain⟨j,hj,rfl⟩:=List.getElem_of_mem hx;rw[<-dF hj] at e;have hp:pq l n=j:=by
   refine(Sv (by omega) (λi hi=>?_) (λi hi hl=>?_)).symm
   ·have:=nU h hi hj;omega
   ·rcases Nat.eq_or_lt_of_le hi with z|z
    ·rw[<-z];omega
    ·have:=nU h z hl;omega
  rw[hp];exact⟨hj,e⟩
 ·rintro ⟨h1,h2⟩;exact⟨_,mW h1,by rw[h2];simp⟩
theorem MB {l:List Rc}(h:fQ l){n:Int}(hp:pq l n<l.length):seqB l n=decide ((rc l (pq l n)).q=n):=by
 rw[EK h,decide_eq_true hp,Bool.true_and]
theorem Qq {l:List Rc}(h:fQ l){n:Int}(hp:¬pq l n<l.length):seqB l n=false:=by
 rw[EK h,decide_eq_false hp,Bool.false_and]
theorem qF {l:List Rc}(h:fQ l){n:Int}(hs:seqB l n=true):pq l n<l.length/\(rc l (pq l n)).q=n:=by
 rw[EK h,Bool.and_eq_true,decide_eq_true_eq,decide_eq_true_eq] at hs;exact hs
theorem CO {l:List Rc}{k:Nat}(h:k<l.length):l=l.take k++rc l k::l.drop (k+1):=by
 rw[dF h,<-List.drop_eq_getElem_cons h,List.take_append_drop]
theorem get_hit {l:List Rc}(h:fQ l){n:Int}(hs:seqB l n=true):kU l n=some (rc l (pq l n)):=by
 obtain⟨h1,h2⟩:=qF h hs;unfold kU;rw[List.find?_eq_some_iff_getElem];refine⟨by rw[h2];simp,pq l n,h1,(dF h1).symm,λj hj=>?_⟩;have:=yD l n j hj;rw[dF (by omega)] at this;simp only[Bool.not_eq_true',decide_eq_false_iff_not];omega
theorem get_none {l:List Rc}{n:Int}(hs:seqB l n=false):kU l n=none:=by
 unfold kU;rw[List.find?_eq_none];intro x hx;unfold seqB at hs;rw[List.any_eq_false] at hs;exact hs x hx
theorem rO {p q:Rc->Bool}:∀{l:List Rc},(∀x∈l,p x=q x)->l.find? p=l.find? q
 | [],_=>rfl
 | x::l,h=>by
  rw[List.find?_cons,List.find?_cons,h x (List.mem_cons_self ..),rO (l:=l) (λy hy=>h y (List.mem_cons_of_mem _ hy))]
theorem EL {l:List Rc}(h:fQ l)(f:ByteArray)(n:Int):aX f l n=(l.drop (pq l n)).find? λr=>lJ f r.s:=by
 unfold aX;have e:l.find? (λr=>lJ f r.s&&decide (n<=r.q))=((l.take (pq l n))++(l.drop (pq l n))).find? (λr=>lJ f r.s&&decide (n<=r.q)):=by rw[List.take_append_drop]
 rw[e,List.find?_append];have e1:(l.take (pq l n)).find? (λr=>lJ f r.s&&decide (n<=r.q))=none:=by
  rw[List.find?_eq_none];intro x hx;obtain⟨j,hj,rfl⟩:=List.getElem_of_mem hx;rw[List.length_take] at hj;have:=yD l n j (by omega);rw[dF (by omega)] at this;rw[List.getElem_take];simp only[Bool.and_eq_true,decide_eq_true_eq,not_and];intro _;omega
 rw[e1,Option.none_or];refine rO (λx hx=>?_);obtain⟨j,hj,rfl⟩:=List.getElem_of_mem hx;rw[List.length_drop] at hj;rw[List.getElem_drop];have:=Sr h n (pq l n+j) (by omega) (by omega);rw[dF (by omega)] at this;rw[decide_eq_true this,Bool.and_true]
def wR (l:List Rc)(i:Nat):List Rc:=l.take i++l.drop (i+1)
theorem CP {l:List Rc}{i:Nat}(h:i<l.length):(wR l i).length=l.length-1:=by
 unfold wR;rw[List.length_append,List.length_take,List.length_drop];omega
theorem MC {l:List Rc}(h:fQ l){n:Int}(hs:seqB l n=true):l.filter (λx=>!decide (x.q=n))=wR l (pq l n):=by
 obtain⟨h1,h2⟩:=qF h hs;unfold wR;have e:=congrArg (List.filter λx:Rc=>!decide (x.q=n)) (CO h1);rw[e,List.filter_append,List.filter_cons,h2];simp only[decide_true,Bool.not_true,Bool.false_eq_true,if_false];congr 1
 ·refine List.filter_eq_self.2 (λx hx=>?_);obtain⟨j,hj,rfl⟩:=List.getElem_of_mem hx;rw[List.length_take] at hj;have:=yD l n j (by omega);rw[dF (by omega)] at this;rw[List.getElem_take];simp only[Bool.not_eq_true',decide_eq_false_iff_not];omega
 ·refine List.filter_eq_self.2 (λx hx=>?_);obtain⟨j,hj,rfl⟩:=List.getElem_of_mem hx;rw[List.length_drop] at hj;have:=nU h (i:=pq l n) (j:=pq l n+1+j) (by omega) (by omega);rw[dF (l:=l) (k:=pq l n+1+j) (by omega)] at this;rw[List.getElem_drop];simp only[Bool.not_eq_true',decide_eq_false_iff_not];omega
def fU (f:ByteArray)(l:List Rc):List Rc:=l.filter λx=>!lJ f x.s
theorem rP {f:ByteArray}{l:List Rc}{k:Nat}(h:k<l.length):fU f (l.take (k+1))=fU f (l.take k)++(if lJ f (rc l k).s then [] else [rc l k]):=by
 unfold fU;rw[List.take_succ_eq_append_getElem h,<-dF h,List.filter_append]
 cases e:lJ f (rc l k).s<;>simp[e]
theorem vK (f:ByteArray)(l:List Rc):(fU f l).length<=l.length:=List.length_filter_le _ _
theorem MF {l:List Rc}(h:fQ l)(f:ByteArray)(n:Int):l.filter (λx=>!(decide (x.q<n)&&lJ f x.s))=fU f (l.take (pq l n))++l.drop (pq l n):=by
 have e:=congrArg (List.filter λx:Rc=>!(decide (x.q<n)&&lJ f x.s)) (List.take_append_drop (pq l n) l).symm;rw[e,List.filter_append];congr 1
 ·unfold fU;refine List.filter_congr (λx hx=>?_);obtain⟨j,hj,rfl⟩:=List.getElem_of_mem hx;rw[List.length_take] at hj;have:=yD l n j (by omega);rw[dF (by omega)] at this;rw[List.getElem_take,decide_eq_true this,Bool.true_and]
 ·refine List.filter_eq_self.2 (λx hx=>?_);obtain⟨j,hj,rfl⟩:=List.getElem_of_mem hx;rw[List.length_drop] at hj;have:=Sr h n (pq l n+j) (by omega) (by omega);rw[dF (by omega)] at this;rw[List.getElem_drop,decide_eq_false (by omega),Bool.false_and];rfl
def EM (es:List aN)(n:Int)(s:ByteArray):List aN:=if 1<n then jV es s (n-1) else jk es s
theorem Cnt.off {A B:List Rc}{x:Rc}{es:List aN}(h:Cnt (A++x::B) es)(hs:aB false x.s=0)(hz:x.s.size<=140737488355328):Cnt (A++B) (EM es (gU es x.s) x.s):=by
 have hc:dV (A++x::B) x.s=dV (A++B) x.s+1:=by
  rw[show A++x::B=A++([x]++B) from rfl,dI,dI,dI,mO,if_pos rfl];omega
 have h2:=(h.less hs hz).2;unfold EM;rw[h.get hs,hc];by_cases h0:dV (A++B) x.s=0
 ·rw[if_pos h0] at h2;rw[if_neg (by omega)];exact h2
 ·rw[if_neg h0] at h2;rw[if_pos (by omega),show((dV (A++B) x.s+1:Nat):Int)-1=(dV (A++B) x.s:Int) by omega];exact h2
end Go.Proofs.YtmhbobnfmncdbaaGreatDoor.Dk
namespace Go.Proofs.YtmhbobnfmncdbaaGreatDoor
open Go.RowKit Go.Proofs.Tryz
def aS:List aN->List Value
 | []=>[]
 | e::r=>.string e.1::.int .i64 e.2::aS r
theorem bM:∀es:List aN,(aS es).length=es.length*2
 | []=>rfl
 | e::r=>by simp[aS,bM r];omega
theorem gu:∀a b:List aN,aS (a++b)=aS a++aS b
 | [],_=>rfl
 | e::a,b=>by simp[aS,gu a b]
theorem qG:∀(es:List aN) (k:Nat),aS (es.take k)=(aS es).take (k*2)
 | [],k=>by simp[aS]
 | e::r,0=>by simp[aS]
 | e::r,k+1=>by rw[show(k+1)*2=k*2+1+1 by omega];simp[aS,qG r k]
theorem qH:∀(es:List aN) (k:Nat),aS (es.drop k)=(aS es).drop (k*2)
 | [],k=>by simp[aS]
 | e::r,0=>by simp[aS]
 | e::r,k+1=>by rw[show(k+1)*2=k*2+1+1 by omega];simp[aS,qH r k]
theorem CQ:∀(es:List aN) (k:Nat),k<es.length->(aS es)[k*2]?=some (.string (en es k).1)
 | [],k,h=>absurd h (Nat.not_lt_zero k)
 | e::r,0,_=>rfl
 | e::r,k+1,h=>by
  rw[show(k+1)*2=k*2+1+1 by omega];simp only[aS,List.getElem?_cons_succ];exact CQ r k (by simpa using h)
theorem GU:∀(es:List aN) (k:Nat),k<es.length->(aS es)[k*2+1]?=some (.int .i64 (en es k).2)
 | [],k,h=>absurd h (Nat.not_lt_zero k)
 | e::r,0,_=>rfl
 | e::r,k+1,h=>by
  rw[show(k+1)*2+1=k*2+1+1+1 by omega];simp only[aS,List.getElem?_cons_succ];exact GU r k (by simpa using h)
theorem jF:∀(es:List aN),∀v∈aS es,v.oneCell'=true
 | [],v,h=>by simp[aS] at h
 | e::r,v,h=>by
  simp only[aS,List.mem_cons] at h;rcases h with h|h|h
  ·subst h;rfl
  ·subst h;rfl
  ·exact jF r v h
theorem GV:∀(es:List aN) (k:Nat) (s:ByteArray) (n:Int),k<es.length->(en es k).1=s->aS (es.set k (s,n))=(aS es).set (k*2+1) (.int .i64 n)
 | [],k,_,_,h,_=>absurd h (Nat.not_lt_zero k)
 | e::r,0,s,n,_,q=>by
  have:e.1=s:=q;simp[aS,this]
 | e::r,k+1,s,n,h,q=>by
  rw[show(k+1)*2+1=k*2+1+1+1 by omega];simp only[List.set_cons_succ,aS];rw[GV r k s n (by simpa using h) q]
theorem Qr:∀a b:List aN,aS a=aS b->a=b
 | [],[],_=>rfl
 | [],_::_,h=>by simp[aS] at h
 | _::_,[],h=>by simp[aS] at h
 | (s,n)::a,(t,m)::b,h=>by
  simp only[aS,List.cons.injEq,Value.string.injEq,Value.int.injEq,true_and] at h;obtain⟨h1,h2,h3⟩:=h;rw[h1,h2,Qr a b h3]
theorem MG:(prog.info? 185).map (λi=>(i.zero,i.size,i.bytes))=some (some (.agg #[.string ByteArray.empty,.int .i64 0]),2,24):=by kernel_rfl
def jr (w:World)(B:Nat)(v:Value)(es:List aN):Prop:=w.ownsRow B 185 2 v es.length (aS es)
theorem jr.empty (w:World)(B:Nat):jr w B (.slice none 0 0) []:=World.ownsRow_nil w B _ 2
theorem jr.shape {w:World}{B:Nat}{v:Value}{es:List aN}(h:jr w B v es):∃a cap,v=.slice a es.length cap/\es.length<=cap/\cap<=maxLen/\∀g,v.ownBlock=some g->a=some ⟨g,0,none⟩/\B<=g/\g<w.heap.size:=by
 rcases h.2 with ⟨h1,h2⟩|⟨g,cap,cur,h1,h2,h3,h4,h5,h6,h7⟩
 ·exact⟨none,0,by rw[h1,h2],by omega,by simp[maxLen],λg hg=>by rw[h1] at hg;simp[Value.ownBlock] at hg⟩
 ·exact⟨_,cap,h1,h4,h5,λk hk=>by
   have:=h.lt k hk;rw[h1] at hk;simp only[Value.ownBlock,Option.some.injEq] at hk;subst hk;exact⟨rfl,this⟩⟩
theorem jr.there {w:World}{B:Nat}{v:Value}{es:List aN}(h:jr w B v es)(hn:0<es.length):∃g cap,v=.slice (some ⟨g,0,none⟩) es.length cap/\es.length<=cap/\cap<=maxLen/\B<=g/\g<w.heap.size:=by
 rcases h.2 with ⟨h1,h2⟩|⟨g,cap,cur,h1,h2,h3,h4,h5,h6,h7⟩
 ·omega
 ·exact⟨g,cap,h1,h4,h5,h.lt g (by rw[h1];rfl)⟩
theorem jr.text {w:World}{B g cap:Nat}{es:List aN}(h:jr w B (.slice (some ⟨g,0,none⟩) es.length cap) es){k:Nat}(hk:k<es.length):w.cell? ⟨g,k*2,none⟩=some (.string (en es k).1):=by
 rw[World.ownsRow.cellAt h _ (by omega)];exact CQ es k hk
theorem jr.num {w:World}{B g cap:Nat}{es:List aN}(h:jr w B (.slice (some ⟨g,0,none⟩) es.length cap) es){k:Nat}(hk:k<es.length):w.cell? ⟨g,k*2+1,none⟩=some (.int .i64 (en es k).2):=by
 rw[World.ownsRow.cellAt h _ (by omega)];exact GU es k hk
theorem jr.cell {w:World}{B g cap:Nat}{es:List aN}(h:jr w B (.slice (some ⟨g,0,none⟩) es.length cap) es)(j:Nat)(u:Value)(hj:(aS es)[j]?=some u):w.cell? ⟨g,j,none⟩=some u:=by
 have hl:j<es.length*2:=by
  rw[<-bM];rcases Nat.lt_or_ge j (aS es).length with q|q
  ·exact q
  ·rw[List.getElem?_eq_none q] at hj;cases hj
 rw[World.ownsRow.cellAt h _ hl];exact hj
theorem jr.below {w w':World}{B:Nat}{v:Value}{es:List aN}(h:jr w B v es)(hb:Below w.heap.size w w'):jr w' B v es:=by
 refine⟨h.1,?_⟩;rcases h.2 with q|⟨g,cap,cur,h1,h2,h3,r⟩
 ·exact .inl q
 ·refine .inr ⟨g,cap,cur,h1,h2,?_,r⟩;rw[hb.block g (h.lt g (by rw[h1];rfl)).2];exact h3
structure aO (A:Nat->Prop)(w w':World):Prop where
 os:w'.os=w.os
 tape:w'.tape=w.tape
 output:w'.output=w.output
 size:w.heap.size<=w'.heap.size
 block:∀k,k<w.heap.size->¬A k->w'.heap[k]?=w.heap[k]?
theorem aO.refl (A:Nat->Prop)(w:World):aO A w w:=⟨rfl,rfl,rfl,Nat.le_refl _,λ_ _ _=>rfl⟩
theorem aO.trans {A:Nat->Prop}{a b c:World}(h:aO A a b)(k:aO A b c):aO A a c :=
 ⟨k.os.trans h.os,k.tape.trans h.tape,k.output.trans h.output,Nat.le_trans h.size k.size,λi hi hn=>(k.block i (by have:=h.size;omega) hn).trans (h.block i hi hn)⟩
theorem aO.mono {A A':Nat->Prop}{a b:World}(h:aO A a b)(hA:∀k,k<a.heap.size->A k->A' k):aO A' a b :=
 ⟨h.os,h.tape,h.output,h.size,λk hk hn=>h.block k hk (λq=>hn (hA k hk q))⟩
theorem aO.of_below {A:Nat->Prop}{w w':World}(h:Below w.heap.size w w'):aO A w w':=⟨h.os,h.tape,h.output,h.size,λk hk _=>h.block k hk⟩
theorem aO.bU {w w':World}{row:Option Nat}(h:w.grownBy w' row):aO (λk=>row=some k) w w':=⟨h.os,h.tape,h.output,h.size,λk hk hn=>h.block k hk (λe=>hn e.symm)⟩
theorem aO.setCell {A:Nat->Prop}{a w:World}(h:aO A a w){p:Addr}(hp:A p.block\/a.heap.size<=p.block)(u:Value):aO A a (w.setCell p u):=by
 refine⟨h.os,h.tape,h.output,by simpa[World.setCell] using h.size,λk hk hn=>?_⟩;rw[Below.heap_setCell _ _ _ _ (λe=>by subst e;rcases hp with q|q;exact hn q;omega)];exact h.block k hk hn
theorem aO.below {A:Nat->Prop}{B:Nat}{w w':World}(h:aO A w w')(hB:B<=w.heap.size)(hA:∀k,k<B->¬A k):Below B w w':=⟨h.os,h.tape,h.output,h.size,λk hk=>h.block k (by omega) (hA k hk)⟩
theorem aO.cell {A:Nat->Prop}{w w':World}(h:aO A w w'){p:Addr}(hp:p.block<w.heap.size)(hn:¬A p.block):w'.cell? p=w.cell? p:=World.cell?_of_block (w:=w) (h.block p.block hp hn)
theorem aO.frozen {A:Nat->Prop}{w w':World}(h:aO A w w'){p:Addr}(hp:p.block<w.heap.size)(hn:¬A p.block):w'.frozen? p=w.frozen? p:=World.frozen?_of_block (w:=w) (h.block p.block hp hn)
theorem jr.aT {A:Nat->Prop}{w w':World}{B:Nat}{v:Value}{es:List aN}(h:jr w B v es)(hb:aO A w w')(hn:∀g,v.ownBlock=some g->¬A g):jr w' B v es:=by
 refine⟨h.1,?_⟩;rcases h.2 with q|⟨g,cap,cur,h1,h2,h3,r⟩
 ·exact .inl q
 ·refine .inr ⟨g,cap,cur,h1,h2,?_,r⟩;rw[hb.block g (h.lt g (by rw[h1];rfl)).2 (hn g (by rw[h1];rfl))];exact h3
structure dA (o:Nat)(w:World)(B p:Nat)(v:Value)(es:List aN):Prop where
 cell:w.cell? ⟨p,o,none⟩=some v
 free:w.frozen? ⟨p,o,none⟩=false
 base:B<=p
 lt:p<w.heap.size
 arr:jr w B v es
 apart:v.ownBlock≠some p
abbrev Keeps (w:World)(B p:Nat)(v:Value)(es:List aN):Prop:=dA 0 w B p v es
def foot (p:Nat)(v:Value)(k:Nat):Prop:=k=p\/v.ownBlock=some k
theorem dA.below {o:Nat}{w w':World}{B p:Nat}{v:Value}{es:List aN}(h:dA o w B p v es)(hb:Below w.heap.size w w'):dA o w' B p v es :=
 ⟨by rw[hb.cell (p:=⟨p,o,none⟩) h.lt];exact h.cell,by rw[hb.frozen (p:=⟨p,o,none⟩) h.lt];exact h.free,h.base,by have:=hb.size;have:=h.lt;omega,h.arr.below hb,h.apart⟩
theorem dA.aT {o:Nat}{A:Nat->Prop}{w w':World}{B p:Nat}{v:Value}{es:List aN}(h:dA o w B p v es)(hb:aO A w w')(hn:∀k,foot p v k->¬A k):dA o w' B p v es :=
 ⟨by rw[hb.cell (p:=⟨p,o,none⟩) h.lt (hn p (.inl rfl))];exact h.cell,by rw[hb.frozen (p:=⟨p,o,none⟩) h.lt (hn p (.inl rfl))];exact h.free,h.base,by have:=hb.size;have:=h.lt;omega,h.arr.aT hb (λg hg=>hn g (.inr hg)),h.apart⟩
structure Side (o p:Nat)(w w':World):Prop where
 cell:∀j,j≠o->w'.cell? ⟨p,j,none⟩=w.cell? ⟨p,j,none⟩
 free:∀j,w'.frozen? ⟨p,j,none⟩=w.frozen? ⟨p,j,none⟩
theorem Side.trans {o p:Nat}{a b c:World}(h:Side o p a b)(k:Side o p b c):Side o p a c:=⟨λj hj=>(k.cell j hj).trans (h.cell j hj),λj=>(k.free j).trans (h.free j)⟩
theorem Side.aT {o p:Nat}{A:Nat->Prop}{w w':World}(h:aO A w w')(hp:p<w.heap.size)(hn:¬A p):Side o p w w':=⟨λj _=>h.cell (p:=⟨p,j,none⟩) hp hn,λj=>h.frozen (p:=⟨p,j,none⟩) hp hn⟩
theorem Side.below {o p:Nat}{w w':World}(h:Below w.heap.size w w')(hp:p<w.heap.size):Side o p w w':=Side.aT (A:=λ_=>False) (aO.of_below h) hp (λz=>z)
theorem Side.set {o p:Nat}{w:World}(v:Value):Side o p w (w.setCell ⟨p,o,none⟩ v):=⟨λj hj=>by rw[World.cell?_setCell_other _ _ _ _ (by simp<;>omega)],λj=>World.frozen?_setCell _ _ _ _⟩
theorem Side.other {o p g j:Nat}{w:World}(v:Value)(h:g≠p):Side o p w (w.setCell ⟨g,j,none⟩ v):=⟨λi hi=>by rw[World.cell?_setCell_other _ _ _ _ (by simp<;>omega)],λi=>World.frozen?_setCell _ _ _ _⟩
theorem dA.store {o:Nat}{w w':World}{B p:Nat}{v v':Value}{es es':List aN}(h:dA o w B p v es)(hb:aO (λk=>v.ownBlock=some k) w w')(ha:jr w' B v' es')(hv:∀g,v'.ownBlock=some g->v.ownBlock=some g\/w.heap.size<=g) :
 dA o (w'.setCell ⟨p,o,none⟩ v') B p v' es'/\aO (foot p v) w (w'.setCell ⟨p,o,none⟩ v'):=by
 have hne:v'.ownBlock≠some p:=λe=>by
  rcases hv p e with q|q
  ·exact h.apart q
  ·have:=h.lt;omega
 have hc:w'.cell? ⟨p,o,none⟩=some v:=by rw[hb.cell (p:=⟨p,o,none⟩) h.lt h.apart];exact h.cell
 refine⟨⟨World.cell?_setCell_same _ _ _ hc,?_,h.base,?_,?_,hne⟩,?_⟩
 ·rw[World.frozen?_setCell,hb.frozen (p:=⟨p,o,none⟩) h.lt h.apart];exact h.free
 ·have:=hb.size;have:=h.lt;simp[World.setCell];omega
 ·refine ha.aT (A:=λk=>k=p) (aO.setCell (A:=λk=>k=p) (p:=⟨p,o,none⟩) (aO.refl _ _) (.inl rfl) _) (λg hg e=>?_);subst e;exact hne hg
 ·exact(hb.mono (λk _ q=>.inr q)).setCell (.inl (.inl rfl)) _
theorem dA.number {o:Nat}{w:World}{B p g cap:Nat}{es:List aN}(h:dA o w B p (.slice (some ⟨g,0,none⟩) es.length cap) es){k:Nat}(hk:k<es.length){s:ByteArray}(hs:(en es k).1=s)(n:Int) :
 dA o (w.setCell ⟨g,k*2+1,none⟩ (.int .i64 n)) B p (.slice (some ⟨g,0,none⟩) es.length cap) (es.set k (s,n))/\aO (foot p (.slice (some ⟨g,0,none⟩) es.length cap)) w (w.setCell ⟨g,k*2+1,none⟩ (.int .i64 n)):=by
 have hgp:g≠p:=λe=>h.apart (by rw[e];rfl)
 have hst:=(World.ownsRow.stored h.arr (k*2+1) (.int .i64 n)).1;refine⟨⟨?_,?_,h.base,?_,?_,h.apart⟩,?_⟩
 ·rw[World.cell?_setCell_other _ _ _ _ (by simp<;>omega)];exact h.cell
 ·rw[World.frozen?_setCell];exact h.free
 ·have:=h.lt;simpa[World.setCell] using this
 ·unfold jr;rw[List.length_set,GV es k s n hk hs];exact hst
 ·exact(aO.refl _ _).setCell (.inl (.inr rfl)) _
end Go.Proofs.YtmhbobnfmncdbaaGreatDoor
namespace Go.Proofs.YtmhbobnfmncdbaaGreatDoor.Dk
open Go.RowKit Go.Proofs.Tryz
structure aQ (SH:World->Nat->Nat->(Nat->Prop)->bD->Prop):Prop where
 own:∀{w B q F s},SH w B q F s->∀k,F k->B<=k/\k<w.heap.size
 aT:∀{w w' B q F s} {A:Nat->Prop},SH w B q F s->aA A w w'->(∀k,F k->¬A k)->SH w' B q F s
 new:∀w:World,Calls prog 7 #[] w λe w'=>∃q F,e=.returned (.pointer (some ⟨q,0,none⟩))/\SH w' w.heap.size q F ⟨[],0⟩/\Below w.heap.size w w'
 apply:∀{w B q F s} (r:Rc),Small r->SH w B q F s->s.Ok->B<=w.heap.size ->
  Calls prog 8 #[.pointer (some ⟨q,0,none⟩),.agg #[.int .i64 r.k,.int .i64 r.q,.int .i64 r.t,.string r.s,.string r.h,.string r.d]] w λe w'=>e=.returned (.int .i64 (dU s r))/\Mc SH w w' B q F (gV s r)
 all:∀{w B q F s},SH w B q F s->s.Ok->B<=w.heap.size ->
  Calls prog 29 #[.pointer (some ⟨q,0,none⟩)] w λe w'=>∃v,e=.returned v/\bY w' w.heap.size v s.l/\Below w.heap.size w w'
 sums:∀{w B q F s},SH w B q F s->s.Ok->B<=w.heap.size ->
  Calls prog 98 #[.pointer (some ⟨q,0,none⟩)] w λe w'=>e=.returned (.agg #[.int .i64 (s.l.length:Int),.int .i64 (fF s.l:Int),.int .i64 (pF s.l),.int .i64 s.last])/\Below w.heap.size w w'
 last:∀{w B q F s} (f:ByteArray),f.size<=140737488355328->SH w B q F s->s.Ok->B<=w.heap.size ->
  Calls prog 97 #[.pointer (some ⟨q,0,none⟩),.string f] w λe w'=>e=.returned (fP f (iO f s.l))/\Below w.heap.size w w'
 next:∀{w B q F s} (f:ByteArray) (n:Int),f.size<=140737488355328->SH w B q F s->s.Ok->B<=w.heap.size ->
  Calls prog 103 #[.pointer (some ⟨q,0,none⟩),.string f,.int .i64 n] w λe w'=>e=.returned (fP f (aX f s.l n))/\Below w.heap.size w w'
structure mX (SH:World->Nat->Nat->(Nat->Prop)->bD->Prop):Prop where
 tries:∀{w B q F s} (r:Rc),Small r->SH w B q F s->s.Ok->B<=w.heap.size ->
  Calls prog 43 #[.pointer (some ⟨q,0,none⟩),.agg #[.int .i64 r.k,.int .i64 r.q,.int .i64 r.t,.string r.s,.string r.h,.string r.d]] w λe w'=>e=.returned (.int .i64 (dU s r))/\Below w.heap.size w w'
 gets:∀{w B q F s} (n:Int),SH w B q F s->s.Ok->B<=w.heap.size ->
  Calls prog 69 #[.pointer (some ⟨q,0,none⟩),.int .i64 n] w λe w'=>e=.returned (Qp (kU s.l n))/\Below w.heap.size w w'
structure Dv where
 q:Int
 n:Int
 d:Int
structure bJ where
 t:Tk.bH
 pl:Int
 pe:List Dv
 cn:Int
def iI (now:Int):Bool:=decide (0<=now)&&decide (now<=1099511627776)
def iq (t:Tk.bH)(p:Dv):Bool:=decide (t.mo≠0)&&decide (t.mo<=p.n)
def lQ (t:Tk.bH)(l:List Rc)(now:Int)(p:Dv):Bool:=decide (p.d<=now)&&((kU l p.q).isSome&&!iq t p)
def dQ (t:Tk.bH)(l:List Rc)(now:Int):List Dv->List Dv×Option (Rc×Int)
 | []=>([],none)
 | p::ps=>if now<p.d then (p::(dQ t l now ps).1,(dQ t l now ps).2) else match kU l p.q with
  | none=>dQ t l now ps
  | some m=>if iq t p=true then dQ t l now ps else (⟨p.q,p.n+1,now+Tk.aZ t (p.n+1)⟩::ps,some (m,p.n+1))
def bK (f:ByteArray)(l:List Rc)(pl:Int):Nat:=(l.filter λr=>lJ f r.s&&decide (pl<=r.q)).length
def aI (c:bJ)(l:List Rc)(now:Int):bJ×Option (Rc×Int)×Int :=
 if iI now=false then (c,none,1) else match (dQ c.t l now c.pe).2 with
 | some (m,n)=>(⟨c.t,c.pl,(dQ c.t l now c.pe).1,c.cn+1⟩,some (m,n),0)
 | none=>if c.t.pe≠0/\c.t.pe<=((dQ c.t l now c.pe).1.length:Int) then (⟨c.t,c.pl,(dQ c.t l now c.pe).1,c.cn⟩,none,11) else match aX c.t.f l c.pl with
  | none=>(⟨c.t,c.pl,(dQ c.t l now c.pe).1,c.cn⟩,none,4)
  | some m=>(⟨c.t,m.q+1,if c.t.ack=0 then (dQ c.t l now c.pe).1 else (dQ c.t l now c.pe).1++[⟨m.q,1,now+Tk.aZ c.t 1⟩],c.cn+1⟩,some (m,1),0)
def jW (so n:Int):Bool:=if so=2 then decide (0<=n)&&decide (n<=100000) else (decide (so=1)||(decide (so=3)||decide (so=4)))&&decide (n=0)
def kW (l:List Dv)(q:Int):Bool:=l.any λp=>decide (p.q=q)
def kX (l:List Dv)(q:Int)(f:Dv->Int):List Dv:=l.map λp=>if p.q=q then ⟨p.q,p.n,f p⟩ else p
def dJ (c:bJ)(now q so n:Int):bJ×Int :=
 if iI now=false\/jW so n=false then (c,1) else if kW c.pe q=false then (c,4)
 else if so=1 then (⟨c.t,c.pl,c.pe.filter λp=>if c.t.ack=1 then decide (q<p.q) else decide (p.q≠q),c.cn⟩,0)
 else if so=2 then (⟨c.t,c.pl,kX c.pe q λ_=>now+n,c.cn⟩,0)
 else if so=3 then (⟨c.t,c.pl,kX c.pe q λp=>now+Tk.aZ c.t p.n,c.cn⟩,0)
 else (⟨c.t,c.pl,c.pe.filter λp=>decide (p.q≠q),c.cn⟩,0)
def MH (c:bJ)(q:Int):Bool:=decide (q<c.pl)&&!kW c.pe q
def Jk:List Dv->Int
 | []=>-1
 | p::ps=>ps.foldl (λm x=>min m x.d) p.d
def aJ (c:bJ):Int:=match c.pe with
 | []=>c.pl-1
 | p::_=>p.q-1
def cu (t:Tk.bH)(s:bD):Int:=if t.fr=1 then (match iO t.f s.l with
 | some m=>m.q
 | none=>s.last+1) else if t.fr=2 then s.last+1 else if t.fr=3 then t.st else 1
structure bJ.Ok (c:bJ):Prop where
 rise:c.pe.Pairwise λa b=>a.q<b.q
 low:∀p∈c.pe,1<=p.q/\p.q<c.pl
 nth:∀p∈c.pe,1<=p.n
 due:∀p∈c.pe,0<=p.d/\p.d<=1099511727776
 none0:c.t.ack=0->c.pe=[]
 pl:1<=c.pl/\c.pl<=1099511627777
theorem jL {t:Tk.bH}{l:List Rc}{now:Int}:∀{ps:List Dv} {p:Dv},p∈(dQ t l now ps).1->∃p0∈ps,p0.q=p.q/\(p=p0\/(p.n=p0.n+1/\p.d=now+Tk.aZ t p.n))
 | [],p,h=>by simp[dQ] at h
 | p0::ps,p,h=>by
  rw[dQ] at h;split at h
  ·rcases List.mem_cons.1 h with rfl|h
   ·exact⟨p,List.mem_cons_self ..,rfl,.inl rfl⟩
   ·obtain⟨x,hx,r⟩:=jL h;exact⟨x,List.mem_cons_of_mem _ hx,r⟩
  ·split at h
   ·obtain⟨x,hx,r⟩:=jL h;exact⟨x,List.mem_cons_of_mem _ hx,r⟩
   ·split at h
    ·obtain⟨x,hx,r⟩:=jL h;exact⟨x,List.mem_cons_of_mem _ hx,r⟩
    ·rcases List.mem_cons.1 h with rfl|h
     ·exact⟨p0,List.mem_cons_self ..,rfl,.inr ⟨rfl,rfl⟩⟩
     ·exact⟨p,List.mem_cons_of_mem _ h,rfl,.inl rfl⟩
theorem GX {t:Tk.bH}{l:List Rc}{now:Int}:∀{ps:List Dv},(ps.Pairwise λa b=>a.q<b.q)->((dQ t l now ps).1.Pairwise λa b=>a.q<b.q)
 | [],_=>by simp[dQ]
 | p0::ps,h=>by
  obtain⟨h1,h2⟩:=List.pairwise_cons.1 h;have ih:=GX (t:=t) (l:=l) (now:=now) h2;rw[dQ];split
  ·exact List.pairwise_cons.2 ⟨λx hx=>by
    obtain⟨y,hy,e,_⟩:=jL hx;rw[<-e];exact h1 y hy,ih⟩
  ·split
   ·exact ih
   ·split
    ·exact ih
    ·exact List.pairwise_cons.2 ⟨λx hx=>h1 x hx,h2⟩
theorem jd {t:Tk.bH}{l:List Rc}{now:Int}:∀(ps:List Dv),(dQ t l now ps).1.length<=ps.length
 | []=>by simp[dQ]
 | p0::ps=>by
  have ih:=jd (t:=t) (l:=l) (now:=now) ps;rw[dQ];split
  ·simp only[List.length_cons];omega
  ·split
   ·simp only[List.length_cons];omega
   ·split
    ·simp only[List.length_cons];omega
    ·simp only[List.length_cons];omega
section
variable {t:Tk.bH}{l:List Rc}{now:Int}
theorem GY {p:Dv}(h:lQ t l now p=false)(hd:¬now<p.d)(ps:List Dv):dQ t l now (p::ps)=dQ t l now ps:=by
 rw[dQ,if_neg hd];unfold lQ at h;rw[decide_eq_true (by omega),Bool.true_and] at h
 cases hg:kU l p.q with
 | none=>rfl
 | some m =>
  rw[hg] at h;simp only[Option.isSome_some,Bool.true_and,Bool.not_eq_false'] at h;simp only[h,if_true]
theorem Qs {p:Dv}(h:lQ t l now p=true):∃m,kU l p.q=some m/\∀ps,dQ t l now (p::ps)=(⟨p.q,p.n+1,now+Tk.aZ t (p.n+1)⟩::ps,some (m,p.n+1)):=by
 unfold lQ at h;rw[Bool.and_eq_true,Bool.and_eq_true] at h;obtain⟨h1,h2,h3⟩:=h;have h1:=of_decide_eq_true h1;obtain⟨m,hm⟩:=Option.isSome_iff_exists.1 h2;refine⟨m,hm,λps=>?_⟩;rw[dQ,if_neg (by omega),hm];have h4:¬iq t p=true:=by simpa using h3
 simp only[if_neg h4]
theorem MI {a:List Dv}(ha:∀p∈a,lQ t l now p=false){p:Dv}(hp:lQ t l now p=true)(b:List Dv):∃m,kU l p.q=some m/\dQ t l now (a++p::b)=((a.filter λx=>!decide (x.d<=now))++⟨p.q,p.n+1,now+Tk.aZ t (p.n+1)⟩::b,some (m,p.n+1)):=by
 obtain⟨m,hm,hy⟩:=Qs hp;refine⟨m,hm,?_⟩;induction a with
 | nil=>exact hy b
 | cons x a ih =>
  have ih:=ih (λq hq=>ha q (List.mem_cons_of_mem _ hq));have hx:=ha x (List.mem_cons_self ..);rw[List.cons_append];by_cases hd:now<x.d
  ·rw[dQ,if_pos hd,ih,List.filter_cons_of_pos (by simp;omega),List.cons_append]
  ·rw[GY hx hd,ih,List.filter_cons_of_neg (by simp;omega)]
theorem Qu {a:List Dv}(ha:∀p∈a,lQ t l now p=false):dQ t l now a=(a.filter λx=>!decide (x.d<=now),none):=by
 induction a with
 | nil=>rfl
 | cons x a ih =>
  have ih:=ih (λq hq=>ha q (List.mem_cons_of_mem _ hq));have hx:=ha x (List.mem_cons_self ..);by_cases hd:now<x.d
  ·rw[dQ,if_pos hd,ih,List.filter_cons_of_pos (by simp;omega)]
  ·rw[GY hx hd,ih,List.filter_cons_of_neg (by simp;omega)]
theorem WB {a:List Dv}(ha:∀p∈a,now<p.d)(b:List Dv):dQ t l now (a++b)=(a++(dQ t l now b).1,(dQ t l now b).2):=by
 induction a with
 | nil=>rfl
 | cons x a ih =>
  have ih:=ih (λq hq=>ha q (List.mem_cons_of_mem _ hq));rw[List.cons_append,dQ,if_pos (ha x (List.mem_cons_self ..)),ih,List.cons_append]
theorem GZ {a b:List Dv}{p:Dv}(h:(a++p::b).Pairwise λx y=>x.q<y.q):(a++p::b).filter (λx=>decide (x.q≠p.q))=a++b:=by
 rw[List.pairwise_append,List.pairwise_cons] at h;obtain⟨_,⟨h2,_⟩,h3⟩:=h;rw[List.filter_append,List.filter_cons_of_neg (by simp)];rw[List.filter_eq_self.2 (λx hx=>?_),List.filter_eq_self.2 (λx hx=>?_)]
 ·have:=h2 x hx;simp only[decide_eq_true_eq];omega
 ·have:=h3 x hx p (List.mem_cons_self ..);simp only[decide_eq_true_eq];omega
theorem nV (hw:0<=t.wait/\t.wait<=100000)(hb:∀x∈t.bo,0<=x/\x<=100000)(n:Int):0<=Tk.aZ t n/\Tk.aZ t n<=100000:=by
 unfold Tk.aZ;split
 ·exact hw
 ·cases h:t.bo[(min (max n 1) (t.bo.length:Int)-1).toNat]? with
  | none=>exact⟨by decide,by decide⟩
  | some x=>exact hb x (List.mem_of_getElem? h)
end
theorem mY {l:List Rc}{n:Int}{m:Rc}(h:kU l n=some m):m∈l/\m.q=n:=⟨List.mem_of_find?_eq_some h,by have:=List.find?_some h;simpa using this⟩
theorem iw {f:ByteArray}{l:List Rc}{n:Int}{m:Rc}(h:aX f l n=some m):m∈l/\n<=m.q/\lJ f m.s=true:=by
 have h1:=List.find?_some h;simp only[Bool.and_eq_true,decide_eq_true_eq] at h1;exact⟨List.mem_of_find?_eq_some h,h1.2,h1.1⟩
structure eU (t:Tk.bH):Prop where
 w:0<=t.wait/\t.wait<=100000
 b:∀x∈t.bo,0<=x/\x<=100000
theorem G5 {c:bJ}(h:c.Ok)(hw:eU c.t)(l:List Rc){now:Int}(ht:0<=now/\now<=1099511627776)(cn:Int):(⟨c.t,c.pl,(dQ c.t l now c.pe).1,cn⟩:bJ).Ok where
 rise:=GX h.rise
 low:=λp hp=>by
  obtain⟨x,hx,e,_⟩:=jL hp;rw[<-e];exact h.low x hx
 nth:=λp hp=>by
  obtain⟨x,hx,_,r⟩:=jL hp;have:=h.nth x hx;rcases r with rfl|⟨r,_⟩
  ·exact this
  ·omega
 due:=λp hp=>by
  obtain⟨x,hx,_,r⟩:=jL hp;rcases r with rfl|⟨_,r⟩
  ·exact h.due p hx
  ·have:=nV hw.w hw.b p.n;rw[r];omega
 none0:=λh0=>by
  show(dQ c.t l now c.pe).1=[];rw[h.none0 h0];rfl
 pl:=h.pl
theorem bJ.Ok.next {c:bJ}(h:c.Ok)(hw:eU c.t){s:bD}(hs:s.Ok)(now:Int):(aI c s.l now).1.Ok:=by
 unfold aI;split
 ·exact h
 ·rename_i ht;have ht:0<=now/\now<=1099511627776:=by
   unfold iI at ht;simp only[Bool.not_eq_false,Bool.and_eq_true,decide_eq_true_eq] at ht;exact ht
  split
  ·exact G5 h hw _ ht _
  ·split
   ·exact G5 h hw _ ht _
   ·split
    ·exact G5 h hw _ ht _
    ·rename_i m hm;obtain⟨m1,m2,_⟩:=iw hm;obtain⟨q1,q2⟩:=hs.seq m1;have k:=G5 h hw s.l ht c.cn;have hwt:=nV hw.w hw.b 1;have hlow:∀p∈(dQ c.t s.l now c.pe).1,1<=p.q/\p.q<m.q:=λp hp=>by
      have h1:1<=p.q/\p.q<c.pl:=k.low p hp;omega
     by_cases h0:c.t.ack=0
     ·simp only[h0,if_true];exact⟨k.rise,λp hp=>by
       have h1:1<=p.q/\p.q<m.q:=hlow p hp;exact⟨h1.1,by show p.q<m.q+1;omega⟩,k.nth,k.due,λz=>k.none0 z,by show 1<=m.q+1/\m.q+1<=1099511627777;omega⟩
     ·simp only[if_neg h0];refine⟨?_,λp hp=>?_,λp hp=>?_,λp hp=>?_,λz=>absurd z h0,by show 1<=m.q+1/\m.q+1<=1099511627777;omega⟩
      ·show List.Pairwise _ ((dQ c.t s.l now c.pe).1++[_]);rw[List.pairwise_append];exact⟨k.rise,by simp,λx hx y hy=>by
        rw[List.mem_singleton] at hy;subst hy;exact(hlow x hx).2⟩
      ·rcases List.mem_append.1 hp with hp|hp
       ·have h1:=hlow p hp;exact⟨h1.1,by show p.q<m.q+1;omega⟩
       ·rw[List.mem_singleton] at hp;subst hp;exact⟨q1,by show m.q<m.q+1;omega⟩
      ·rcases List.mem_append.1 hp with hp|hp
       ·exact k.nth p hp
       ·rw[List.mem_singleton] at hp;subst hp;exact Int.le_refl _
      ·rcases List.mem_append.1 hp with hp|hp
       ·exact k.due p hp
       ·rw[List.mem_singleton] at hp;subst hp;show 0<=now+Tk.aZ c.t 1/\now+Tk.aZ c.t 1<=1099511727776;omega
end Go.Proofs.YtmhbobnfmncdbaaGreatDoor.Dk
namespace Go.Proofs.YtmhbobnfmncdbaaGreatDoor.Pn
open Go Go.Proofs.Tryz
def iy:List (List UInt8):=[[109,115,103,115],[98,121,116,101,115],[97,103,101],[112,101,114],[115,105,122,101],[100,105,115,99,97,114,100],[107,101,101,112],[119,105,110,100,111,119]]
def lK:List Int:=[200,65536,100000,200,256,1,2,100000]
structure Jl where
 n:ByteArray
 f:List ByteArray
 v:List Int
def nameB (c:UInt8):Bool:=(decide (97<=c.toNat)&&decide (c.toNat<=122))||((decide (48<=c.toNat)&&decide (c.toNat<=57))||decide (c.toNat=45))
def bQ (s:ByteArray):Bool:=s.data.toList.all nameB&&(decide (1<=s.size)&&decide (s.size<=16))
def gY:List ByteArray->Int
 | []=>0
 | f::r=>if aB true f=0 then gY r else aB true f
def laps:List ByteArray->Bool
 | []=>false
 | f::r=>r.any (λg=>dw (Pl.toks f) (Pl.toks g))||laps r
def jX:List Int->List Int->Bool
 | [],[]=>true
 | x::v,m::ms=>(decide (0<=x)&&decide (x<=m))&&jX v ms
 | _,_=>false
def eX (p:Jl):Int:=if bQ p.n=false then 3 else if 4<p.f.length then 2 else if p.f.length=0 then 1 else if gY p.f≠0 then gY p.f else if laps p.f=true then 10 else if jX p.v lK=true then 0 else 1
theorem G6 {p:Jl}(h:eX p=0):bQ p.n=true/\p.f.length<=4/\p.f.length≠0/\gY p.f=0/\laps p.f=false/\jX p.v lK=true:=by
 unfold eX at h;by_cases h1:bQ p.n=false
 ·rw[if_pos h1] at h;cases h
 ·rw[if_neg h1] at h;by_cases h2:4<p.f.length
  ·rw[if_pos h2] at h;cases h
  ·rw[if_neg h2] at h;by_cases h3:p.f.length=0
   ·rw[if_pos h3] at h;cases h
   ·rw[if_neg h3] at h;by_cases h4:gY p.f≠0
    ·rw[if_pos h4] at h;exact absurd h h4
    ·rw[if_neg h4] at h;by_cases h5:laps p.f=true
     ·rw[if_pos h5] at h;cases h
     ·rw[if_neg h5] at h;by_cases h6:jX p.v lK=true
      ·exact⟨by simpa using h1,by omega,h3,Classical.not_not.1 h4,by simpa using h5,h6⟩
      ·rw[if_neg h6] at h;cases h
theorem yE:∀{l:List ByteArray},gY l=0->∀f∈l,aB true f=0
 | [],_,f,hf=>by cases hf
 | g::r,h,f,hf=>by
  unfold gY at h;by_cases e:aB true g=0
  ·rw[if_pos e] at h;rcases List.mem_cons.1 hf with y|y
   ·rw[y];exact e
   ·exact yE h f y
  ·rw[if_neg e] at h;exact absurd h e
def bF:List (List UInt8)->List Int->List (List UInt8)
 | w::ws,x::v=>if x=0 then bF ws v else (w++61::Lib.itoa x)::bF ws v
 | _,_=>[]
def jG (p:Jl):List (List UInt8):=p.n.data.toList::glue 44 (p.f.map (·.data.toList))::bF iy p.v
def qI (p:Jl):ByteArray:=⟨(glue 32 (jG p)).toArray⟩
def commas (p:Jl):Bool:=p.f.any (λf=>f.data.toList.contains 44)
def AL:List (List UInt8)->List (List UInt8)->Option (List Int)
 | [],[]=>some []
 | [],_::_=>none
 | _::ws,[]=>(AL ws []).map (λv=>0::v)
 | w::ws,t::ts=>if (w++[61]).isPrefixOf t=true then (if fZ (t.drop (w.length+1))<1 then none else (AL ws ts).map (λv=>fZ (t.drop (w.length+1))::v)) else (AL ws (t::ts)).map (λv=>0::v)
def CS:Jl:=⟨⟨#[]⟩,[],[0,0,0,0,0,0,0,0]⟩
def bs (l:List UInt8):ByteArray:=⟨l.toArray⟩
def vM (s:ByteArray):Jl×Int:=if 1024<s.size then (CS,2) else match cut 32 s.data.toList with
 | n::f::ts=>match AL iy ts with
  | some v=>if eX ⟨bs n,(cut 44 f).map bs,v⟩=0 then (⟨bs n,(cut 44 f).map bs,v⟩,0) else (CS,eX ⟨bs n,(cut 44 f).map bs,v⟩)
  | none=>(CS,3)
 | _=>(CS,3)
theorem CU {a b d:List UInt8}(ha:(61:UInt8)∉a)(hb:(61:UInt8)∉b)(h:(a++[61]).isPrefixOf (b++61::d)=true):a=b:=by
 induction a generalizing b with
 | nil =>
  cases b with
  | nil=>rfl
  | cons x b =>
   simp[List.isPrefixOf] at h;exact absurd (by rw[<-h];exact List.mem_cons_self ..) hb
 | cons y a ih =>
  cases b with
  | nil =>
   simp[List.isPrefixOf] at h;exact absurd (by rw[h.1];exact List.mem_cons_self ..) ha
  | cons x b =>
   simp only[List.cons_append,List.isPrefixOf,Bool.and_eq_true,beq_iff_eq] at h;rw[h.1,ih (λz=>ha (List.mem_cons_of_mem _ z)) (λz=>hb (List.mem_cons_of_mem _ z)) h.2]
theorem sO (w d:List UInt8):(w++[61]).isPrefixOf (w++61::d)=true/\(w++61::d).drop (w.length+1)=d:=by
 constructor
 ·rw[List.isPrefixOf_iff_prefix];exact⟨d,by simp⟩
 ·rw[List.drop_append,List.drop_of_length_le (by omega),show w.length+1-w.length=1 by omega];rfl
theorem sQ:∀(ws:List (List UInt8)) (v:List Int) {t:List UInt8} {ts:List (List UInt8)},bF ws v=t::ts->∃u∈ws,∃d,t=u++61::d
 | [],_,t,ts,h=>by simp[bF] at h
 | w::ws,[],t,ts,h=>by simp[bF] at h
 | w::ws,x::v,t,ts,h=>by
  by_cases e:x=0
  ·rw[bF,if_pos e] at h;obtain⟨u,hu,d,hd⟩:=sQ ws v h;exact⟨u,List.mem_cons_of_mem _ hu,d,hd⟩
  ·rw[bF,if_neg e] at h;exact⟨w,List.mem_cons_self ..,Lib.itoa x,(List.cons.inj h).1.symm⟩
theorem CV:∀(ws:List (List UInt8)) (v:List Int),ws.Nodup->(∀w∈ws,(61:UInt8)∉w)->v.length=ws.length->(∀x∈v,0<=x/\x<1000000000)->AL ws (bF ws v)=some v
 | [],[],_,_,_,_=>rfl
 | [],_::_,_,_,h,_=>by simp at h
 | w::ws,[],_,_,h,_=>by simp at h
 | w::ws,x::v,hn,hw,hl,hx=>by
  have hn':=List.nodup_cons.1 hn;have ih:=CV ws v hn'.2 (λu hu=>hw u (List.mem_cons_of_mem _ hu)) (by simpa using hl) (λy hy=>hx y (List.mem_cons_of_mem _ hy));by_cases e:x=0
  ·have e1:bF (w::ws) (x::v)=bF ws v:=by rw[bF,if_pos e]
   rw[e1]
   cases ht:bF ws v with
   | nil=>rw[ht] at ih;rw[AL,ih,e];rfl
   | cons t ts =>
    have hm:∃u∈ws,∃d,t=u++61::d:=sQ ws v ht;obtain⟨u,hu,d,rfl⟩:=hm;rw[ht] at ih;have hp:¬(w++[61]).isPrefixOf (u++61::d)=true:=λz=>by
     have:=CU (hw w (List.mem_cons_self ..)) (hw u (List.mem_cons_of_mem _ hu)) z;rw[this] at hn';exact hn'.1 hu
    rw[AL,if_neg hp,ih,e];rfl
  ·have e1:bF (w::ws) (x::v)=(w++61::Lib.itoa x)::bF ws v:=by rw[bF,if_neg e]
   have hx0:=hx x (List.mem_cons_self ..);obtain⟨u,rfl⟩:∃u:Nat,x=(u:Int):=⟨x.toNat,by omega⟩;have hi:Lib.itoa (u:Int)=Lib.decDigits u:=by unfold Lib.itoa;rw[if_neg (by omega)];simp
   obtain⟨p1,p2⟩:=sO w (Lib.itoa (u:Int));have hd:fZ (Lib.itoa (u:Int))=(u:Int):=by rw[hi];exact BH (by omega) (by omega)
   rw[e1,AL,if_pos p1,p2,hd,if_neg (by omega),ih];rfl
theorem uj:∀(ws ts:List (List UInt8)) {v:List Int},AL ws ts=some v->bF ws v=ts/\v.length=ws.length/\∀x∈v,0<=x/\x<1000000000
 | [],[],v,h=>by
  simp[AL] at h;subst h;exact⟨rfl,rfl,λx hx=>by cases hx⟩
 | [],_::_,v,h=>by simp[AL] at h
 | w::ws,[],v,h=>by
  rw[AL] at h
  cases hr:AL ws [] with
  | none=>rw[hr] at h;simp at h
  | some u =>
   rw[hr] at h;simp at h;subst h;obtain⟨h1,h2,h3⟩:=uj ws [] hr;refine⟨by rw[bF,if_pos rfl];exact h1,by simp[h2],λx hx=>?_⟩;rcases List.mem_cons.1 hx with y|y
   ·omega
   ·exact h3 x y
 | w::ws,t::ts,v,h=>by
  rw[AL] at h;by_cases hp:(w++[61]).isPrefixOf t=true
  ·rw[if_pos hp] at h;by_cases hd:fZ (t.drop (w.length+1))<1
   ·rw[if_pos hd] at h;cases h
   ·rw[if_neg hd] at h
    cases hr:AL ws ts with
    | none=>rw[hr] at h;simp at h
    | some u =>
     rw[hr] at h;simp at h;subst h;obtain⟨h1,h2,h3⟩:=uj ws ts hr;obtain⟨b1,b2⟩:=xR (l:=t.drop (w.length+1)) (by omega);obtain⟨d,hd2⟩:=List.isPrefixOf_iff_prefix.1 hp;have e:t.drop (w.length+1)=d:=by rw[<-hd2,List.append_assoc];exact(sO w d).2
     refine⟨?_,by simp[h2],λx hx=>?_⟩
     ·rw[bF,if_neg (by omega),b1,h1,e,<-hd2];simp
     ·rcases List.mem_cons.1 hx with y|y
      ·omega
      ·exact h3 x y
  ·rw[if_neg hp] at h
   cases hr:AL ws (t::ts) with
   | none=>rw[hr] at h;simp at h
   | some u =>
    rw[hr] at h;simp at h;subst h;obtain⟨h1,h2,h3⟩:=uj ws (t::ts) hr;refine⟨by rw[bF,if_pos rfl];exact h1,by simp[h2],λx hx=>?_⟩;rcases List.mem_cons.1 hx with y|y
    ·omega
    ·exact h3 x y
theorem G7 (s:ByteArray):bs s.data.toList=s:=by unfold bs;apply ByteArray.ext;simp
theorem zU (l:List UInt8):(bs l).data.toList=l:=by unfold bs;simp
theorem qJ:∀{v ms:List Int},jX v ms=true->v.length=ms.length/\∀x∈v,0<=x/\∃m∈ms,x<=m
 | [],[],_=>⟨rfl,λx hx=>by cases hx⟩
 | [],_::_,h=>by simp[jX] at h
 | _::_,[],h=>by simp[jX] at h
 | x::v,m::ms,h=>by
  unfold jX at h;simp only[Bool.and_eq_true,decide_eq_true_eq] at h;obtain⟨h1,h2⟩:=qJ h.2;refine⟨by simp[h1],λy hy=>?_⟩;rcases List.mem_cons.1 hy with z|z
  ·rw[z];exact⟨h.1.1,m,List.mem_cons_self ..,h.1.2⟩
  ·obtain⟨q,k,hk,hl⟩:=h2 y z;exact⟨q,k,List.mem_cons_of_mem _ hk,hl⟩
theorem G8:∀m∈lK,m<=100000:=by decide
theorem MJ {t:List UInt8}{last:Bool}(h:Pl.iE true last t=true):t.length<=16/\∀c∈t,33<=c.toNat:=by
 unfold Pl.iE at h;rcases Bool.or_eq_true_iff.1 h with y|y
 ·unfold Pl.oM at y;simp only[Bool.and_eq_true,decide_eq_true_eq,List.all_eq_true] at y;refine⟨y.2.1,λc hc=>?_⟩;have:=y.2.2 c hc;unfold Pl.KI at this;simp only[Bool.and_eq_true,decide_eq_true_eq] at this;exact this.1
 ·simp only[Bool.true_and,Bool.or_eq_true,beq_iff_eq,Bool.and_eq_true] at y;rcases y with y|y
  ·rw[y];exact⟨by decide,by decide⟩
  ·rw[y.1];exact⟨by decide,by decide⟩
theorem vN {f:ByteArray}(h:aB true f=0):f.size<=136/\∀c∈f.data.toList,33<=c.toNat:=by
 obtain⟨h1,h2⟩:=zK h;have hp:∀t∈Pl.fM f.data.toList,t.length<=16/\∀c∈t,33<=c.toNat:=λt ht=>by
  obtain⟨k,hk,rfl⟩:=List.mem_iff_getElem.1 ht;unfold Pl.eP at h2;rw[List.all_eq_true] at h2;have:=h2 k (List.mem_range.2 hk);rw[List.getElem?_eq_getElem hk] at this;exact MJ this
 have hg:=qh 46 f.data.toList;rw[Gq] at hg;constructor
 ·have:=ql 46 16 _ (λt ht=>(hp t ht).1);rw[hg] at this;have e:f.data.toList.length=f.size:=by simp
  omega
 ·intro c hc;rw[<-hg] at hc;rcases uT 46 _ c hc with y|⟨t,ht,hct⟩
  ·rw[y];decide
  ·exact(hp t ht).2 c hct
theorem EO {s:ByteArray}(h:bQ s=true):s.size<=16/\∀c∈s.data.toList,33<=c.toNat:=by
 unfold bQ at h;simp only[Bool.and_eq_true,decide_eq_true_eq,List.all_eq_true] at h;refine⟨h.2.2,λc hc=>?_⟩;have:=h.1 c hc;unfold nameB at this;simp only[Bool.or_eq_true,Bool.and_eq_true,decide_eq_true_eq] at this;omega
theorem Jm {u:Nat}:∀c∈Lib.decDigits u,33<=c.toNat:=λc hc=>by
 have:=zC u c hc;unfold fD at this;simp at this;omega
theorem MK {x:Int}(h:0<=x/\x<=100000):(Lib.itoa x).length<=6/\∀c∈Lib.itoa x,33<=c.toNat:=by
 have e:Lib.itoa x=Lib.decDigits x.toNat:=by unfold Lib.itoa;rw[if_neg (by omega)]
 rw[e];exact⟨zD 5 _ (by simp;omega),Jm⟩
theorem qK:∀(ws:List (List UInt8)) (v:List Int),(∀w∈ws,w.length<=7/\∀c∈w,33<=c.toNat)->(∀x∈v,0<=x/\x<=100000)->(bF ws v).length<=ws.length/\∀t∈bF ws v,t.length<=14/\∀c∈t,33<=c.toNat
 | [],v,_,_=>by simp[bF]
 | w::ws,[],_,_=>by simp[bF]
 | w::ws,x::v,hw,hx=>by
  obtain⟨h1,h2⟩:=qK ws v (λu hu=>hw u (List.mem_cons_of_mem _ hu)) (λy hy=>hx y (List.mem_cons_of_mem _ hy));by_cases e:x=0
  ·rw[bF,if_pos e];exact⟨by simp;omega,h2⟩
  ·rw[bF,if_neg e];refine⟨by simp;omega,λt ht=>?_⟩;rcases List.mem_cons.1 ht with y|y
   ·obtain⟨i1,i2⟩:=MK (hx x (List.mem_cons_self ..));obtain⟨w1,w2⟩:=hw w (List.mem_cons_self ..);rw[y];refine⟨by rw[List.length_append,List.length_cons];omega,λc hc=>?_⟩;rcases List.mem_append.1 hc with z|z
    ·exact w2 c z
    ·rcases List.mem_cons.1 z with q|q
     ·rw[q];decide
     ·exact i2 c q
   ·exact h2 t y
theorem Jo:∀w∈iy,w.length<=7/\∀c∈w,33<=c.toNat:=by decide
theorem Jp:∀w∈iy,(61:UInt8)∉w:=by decide
theorem zV:iy.Nodup:=by decide
theorem Qv {p:Jl}(h:eX p=0):(∀t∈jG p,(32:UInt8)∉t)/\(qI p).size<=1024:=by
 obtain⟨h1,h2,h3,h4,h5,h6⟩:=G6 h;obtain⟨n1,n2⟩:=EO h1;have hf:=yE h4;have hv:∀x∈p.v,0<=x/\x<=100000:=λx hx=>by
  obtain⟨q,m,hm,hl⟩:=(qJ h6).2 x hx;have:=G8 m hm;omega
 obtain⟨w1,w2⟩:=qK iy p.v Jo hv;have hj:∀c∈glue 44 (p.f.map (·.data.toList)),33<=c.toNat:=λc hc=>by
  rcases uT 44 _ c hc with y|⟨t,ht,hct⟩
  ·rw[y];decide
  ·obtain⟨f,Ho,rfl⟩:=List.mem_map.1 ht;exact(vN (hf f Ho)).2 c hct
 have no:∀{t:List UInt8},(∀c∈t,33<=c.toNat)->(32:UInt8)∉t:=λht z=>by
  have:=ht _ z;simp at this
 constructor
 ·intro t ht;unfold jG at ht;rcases List.mem_cons.1 ht with y|y
  ·rw[y];exact no n2
  ·rcases List.mem_cons.1 y with z|z
   ·rw[z];exact no hj
   ·exact no (w2 t z).2
 ·have hjl:(glue 44 (p.f.map (·.data.toList))).length<=548:=by
   have:=ql 44 136 (p.f.map (·.data.toList)) (λt ht=>by
    obtain⟨f,Ho,rfl⟩:=List.mem_map.1 ht;have:=(vN (hf f Ho)).1;simpa using this)
   rw[List.length_map] at this;omega
  have hw:=ql 32 14 _ (λt ht=>(w2 t ht).1);have hl8:iy.length=8:=rfl;have hstep:∀(t:List UInt8) (ts:List (List UInt8)),(glue 32 (t::ts)).length<=t.length+1+(glue 32 ts).length:=λt ts=>by
   cases ts with
   | nil=>simp[glue]
   | cons u us=>rw[eG 32 t (by simp),List.length_append,List.length_cons];omega
  have s1:=hstep p.n.data.toList (glue 44 (p.f.map (·.data.toList))::bF iy p.v);have s2:=hstep (glue 44 (p.f.map (·.data.toList))) (bF iy p.v);have e:(qI p).size=(glue 32 (jG p)).length:=by
   show(glue 32 (jG p)).toArray.size=_;simp
  have en:p.n.data.toList.length=p.n.size:=by simp
  rw[e];unfold jG;omega
theorem TJ {p:Jl}(h:eX p=0)(hc:commas p=false):vM (qI p)=(p,0):=by
 obtain⟨h1,h2,h3,h4,h5,h6⟩:=G6 h;obtain⟨t1,t2⟩:=Qv h;have hcut:cut 32 (qI p).data.toList=jG p:=by
  have e:(qI p).data.toList=glue 32 (jG p):=by simp[qI]
  rw[e];exact qj 32 _ (by unfold jG;simp) t1
 have hfc:cut 44 (glue 44 (p.f.map (·.data.toList)))=p.f.map (·.data.toList):=by
  refine qj 44 _ (λz=>h3 (by simpa using congrArg List.length z)) (λt ht=>?_);obtain⟨f,hf,rfl⟩:=List.mem_map.1 ht;unfold commas at hc;rw[List.any_eq_false] at hc;have:=hc f hf;simpa using this
 have hfm:(cut 44 (glue 44 (p.f.map (·.data.toList)))).map bs=p.f:=by
  rw[hfc,List.map_map];conv=>rhs;rw[<-List.map_id p.f]
  exact List.map_congr_left (λf _=>G7 f)
 have hv:∀x∈p.v,0<=x/\x<1000000000:=λx hx=>by
  obtain⟨q,m,hm,hl⟩:=(qJ h6).2 x hx;have:=G8 m hm;omega
 have hr:=CV iy p.v zV Jp ((qJ h6).1) hv;unfold vM;rw[if_neg (by omega),hcut];unfold jG;simp only[hr,hfm,G7];rw[if_pos h]
theorem TK {s:ByteArray}{x:Jl}(h:vM s=(x,0)):eX x=0/\commas x=false/\qI x=s:=by
 unfold vM at h;split at h
 ·cases h
 ·cases hc:cut 32 s.data.toList with
  | nil=>exact absurd hc (uS 32 _)
  | cons n r =>
   rw[hc] at h
   cases r with
   | nil=>cases h
   | cons f ts =>
    simp only at h
    cases hr:AL iy ts with
    | none=>rw[hr] at h;cases h
    | some v =>
     rw[hr] at h;simp only at h;by_cases he:eX ⟨bs n,(cut 44 f).map bs,v⟩=0
     ·rw[if_pos he] at h;have hx:=(Prod.mk.inj h).1;subst hx;refine⟨he,?_,?_⟩
      ·unfold commas;rw[List.any_eq_false];intro g hg;obtain⟨t,ht,rfl⟩:=List.mem_map.1 hg;rw[zU];simpa using qg 44 f t ht
      ·have e1:((cut 44 f).map bs).map (·.data.toList)=cut 44 f:=by
        rw[List.map_map];conv=>rhs;rw[<-List.map_id (cut 44 f)]
        exact List.map_congr_left (λt _=>zU t)
       have e2:jG ⟨bs n,(cut 44 f).map bs,v⟩=cut 32 s.data.toList:=by
        unfold jG;simp only[e1,qh,zU,(uj iy ts hr).1,hc]
       unfold qI;rw[e2,qh]
     ·rw[if_neg he] at h;exact absurd (Prod.mk.inj h).2 he
theorem WC {s:ByteArray}(h:(vM s).2≠0):(vM s).1=CS:=by
 unfold vM at h ⊢;split
 ·rfl
 ·rename_i hs;rw[if_neg hs] at h
  cases hc:cut 32 s.data.toList with
  | nil=>rfl
  | cons n r =>
   rw[hc] at h
   cases r with
   | nil=>rfl
   | cons f ts =>
    simp only at h ⊢
    cases hr:AL iy ts with
    | none=>rfl
    | some v =>
     rw[hr] at h;simp only at h ⊢;by_cases he:eX ⟨bs n,(cut 44 f).map bs,v⟩=0
     ·rw[if_pos he] at h;exact absurd rfl h
     ·rw[if_neg he]
def zW:Jl:=⟨⟨#[115]⟩,[⟨#[97,46,62]⟩,⟨#[98]⟩],[0,0,0,3,0,0,0,0]⟩
theorem YA:eX zW=0/\commas zW=false:=by decide +kernel
theorem WE:qI zW=⟨#[115,32,97,46,62,44,98,32,112,101,114,61,51]⟩:=by decide +kernel
end Go.Proofs.YtmhbobnfmncdbaaGreatDoor.Pn
namespace Go.Proofs.YtmhbobnfmncdbaaGreatDoor
open Go.RowKit Go.Proofs.Tryz
abbrev aaj (n:ByteArray)(a:Option Addr)(l c:Nat)(x0 x1 x2 x3 x4 x5 x6 x7:Int):Value:=.agg #[.string n,.slice a l c,.int .i64 x0,.int .i64 x1,.int .i64 x2,.int .i64 x3,.int .i64 x4,.int .i64 x5,.int .i64 x6,.int .i64 x7]
structure PB (w:World)(b:Nat)(n:ByteArray)(a:Option Addr)(l c:Nat)(x0 x1 x2 x3 x4 x5 x6 x7:Int):Prop where
 lt:b<w.heap.size
 c0:w.cell? ⟨b,0,none⟩=some (.string n)
 c1:w.cell? ⟨b,1,none⟩=some (.slice a l c)
 c2:w.cell? ⟨b,2,none⟩=some (.int .i64 x0)
 c3:w.cell? ⟨b,3,none⟩=some (.int .i64 x1)
 c4:w.cell? ⟨b,4,none⟩=some (.int .i64 x2)
 c5:w.cell? ⟨b,5,none⟩=some (.int .i64 x3)
 c6:w.cell? ⟨b,6,none⟩=some (.int .i64 x4)
 c7:w.cell? ⟨b,7,none⟩=some (.int .i64 x5)
 c8:w.cell? ⟨b,8,none⟩=some (.int .i64 x6)
 c9:w.cell? ⟨b,9,none⟩=some (.int .i64 x7)
section
variable {w w':World}{b:Nat}{n:ByteArray}{a:Option Addr}{l c:Nat}{x0 x1 x2 x3 x4 x5 x6 x7:Int}
theorem PB.next (h:PB w b n a l c x0 x1 x2 x3 x4 x5 x6 x7)(hb:Below w.heap.size w w'):PB w' b n a l c x0 x1 x2 x3 x4 x5 x6 x7 :=
 ⟨Nat.lt_of_lt_of_le h.lt hb.size,by rw[hb.cell (p:=⟨b,0,none⟩) h.lt];exact h.c0,by rw[hb.cell (p:=⟨b,1,none⟩) h.lt];exact h.c1,by rw[hb.cell (p:=⟨b,2,none⟩) h.lt];exact h.c2,by rw[hb.cell (p:=⟨b,3,none⟩) h.lt];exact h.c3,by rw[hb.cell (p:=⟨b,4,none⟩) h.lt];exact h.c4,by rw[hb.cell (p:=⟨b,5,none⟩) h.lt];exact h.c5,by rw[hb.cell (p:=⟨b,6,none⟩) h.lt];exact h.c6,by rw[hb.cell (p:=⟨b,7,none⟩) h.lt];exact h.c7,by rw[hb.cell (p:=⟨b,8,none⟩) h.lt];exact h.c8,by rw[hb.cell (p:=⟨b,9,none⟩) h.lt];exact h.c9⟩
theorem PB.new (w:World)(n:ByteArray)(a:Option Addr)(l c:Nat)(x0 x1 x2 x3 x4 x5 x6 x7:Int)(T:TypeId):PB (w.alloc (.cells #[.string n,.slice a l c,.int .i64 x0,.int .i64 x1,.int .i64 x2,.int .i64 x3,.int .i64 x4,.int .i64 x5,.int .i64 x6,.int .i64 x7] T)) w.heap.size n a l c x0 x1 x2 x3 x4 x5 x6 x7 :=
 ⟨by simp,by simp,by simp,by simp,by simp,by simp,by simp,by simp,by simp,by simp,by simp⟩
end
theorem Vw (w:World)(x0 x1 x2 x3 x4 x5 x6 x7:Int)(T:TypeId):Dk.lF (w.alloc (.cells #[.int .i64 x0,.int .i64 x1,.int .i64 x2,.int .i64 x3,.int .i64 x4,.int .i64 x5,.int .i64 x6,.int .i64 x7] T)) (some ⟨w.heap.size,0,none⟩) [x0,x1,x2,x3,x4,x5,x6,x7]:=λk hk=>by
 refine⟨w.heap.size,0,rfl,by simp,?_⟩;rw[cell_of_row _ w.heap.size (0+k) _ _ _ (heap_alloc_new w _),Nat.zero_add];have:k<8:=by simpa using hk
 rcases k with _|_|_|_|_|_|_|_|k;all_goals first
  | rfl
  | omega
theorem sS {w w':World}{a:Option Addr}{l:List Int}(h:Dk.lF w a l)(hb:Below w.heap.size w w'):Dk.lF w' a l:=λk hk=>by
 obtain⟨b,o,h1,h2,h3⟩:=h k hk;exact⟨b,o,h1,Nat.lt_of_lt_of_le h2 hb.size,by rw[hb.cell (p:=⟨b,o+k,none⟩) h2];exact h3⟩
def TL (w:World)(a:Option Addr)(l:List ByteArray):Prop:=∀k,k<l.length->∃b o,a=some ⟨b,o,none⟩/\b<w.heap.size/\w.cell? ⟨b,o+k,none⟩=some (.string (tk l k))
theorem TL.next {w w':World}{a:Option Addr}{l:List ByteArray}(h:TL w a l)(hb:Below w.heap.size w w'):TL w' a l:=λk hk=>by
 obtain⟨b,o,h1,h2,h3⟩:=h k hk;exact⟨b,o,h1,Nat.lt_of_lt_of_le h2 hb.size,by rw[hb.cell (p:=⟨b,o+k,none⟩) h2];exact h3⟩
theorem TL.from {B:Nat}{w w':World}{a:Option Addr}{l:List ByteArray}(h:TL w a l)(hb:Below B w w')(hB:w.heap.size<=B):TL w' a l:=λk hk=>by
 obtain⟨b,o,h1,h2,h3⟩:=h k hk;exact⟨b,o,h1,Nat.lt_of_lt_of_le h2 hb.size,by rw[hb.cell (p:=⟨b,o+k,none⟩) (Nat.lt_of_lt_of_le h2 hB)];exact h3⟩
namespace Pn
open Go.Proofs.Tryz
theorem TM {l:List ByteArray}{i:Nat}(h:i<l.length):gY (l.drop i)=if aB true (tk l i)=0 then gY (l.drop (i+1)) else aB true (tk l i):=by rw[fJ h];rfl
theorem Vx {l:List ByteArray}{i:Nat}(h:i<l.length):laps (l.drop i)=((l.drop (i+1)).any (λg=>dw (Pl.toks (tk l i)) (Pl.toks g))||laps (l.drop (i+1))):=by rw[fJ h];rfl
theorem WG {l:List ByteArray}{i:Nat}(h:i<l.length)(f:ByteArray->Bool):(l.drop i).any f=(f (tk l i)||(l.drop (i+1)).any f):=by rw[fJ h];rfl
theorem TN {v:List Int}{i:Nat}(h:i<v.length)(h8:v.length=8):jX (v.drop i) (lK.drop i)=((decide (0<=Dk.nth v i)&&decide (Dk.nth v i<=Dk.nth lK i))&&jX (v.drop (i+1)) (lK.drop (i+1))):=by
 have h2:i<lK.length:=by rw[h8] at h;exact h
 rw[List.drop_eq_getElem_cons h,List.drop_eq_getElem_cons h2,jX,Dk.nth,Dk.nth,List.getElem?_eq_getElem h,List.getElem?_eq_getElem h2];rfl
section
variable {p:Jl}
theorem TP (h:bQ p.n=false):eX p=3:=by unfold eX;rw[if_pos h]
theorem TQ (h:bQ p.n=true)(h2:4<p.f.length):eX p=2:=by unfold eX;rw[if_neg (by rw[h];simp),if_pos h2]
theorem TR (h:bQ p.n=true)(h2:p.f.length=0):eX p=1:=by unfold eX;rw[if_neg (by rw[h];simp),if_neg (by omega),if_pos h2]
theorem TS (h:bQ p.n=true)(h2:¬4<p.f.length)(h3:p.f.length≠0)(h4:gY p.f≠0):eX p=gY p.f:=by unfold eX;rw[if_neg (by rw[h];simp),if_neg h2,if_neg h3,if_pos h4]
theorem TU (h:bQ p.n=true)(h2:¬4<p.f.length)(h3:p.f.length≠0)(h4:gY p.f=0)(h5:laps p.f=true):eX p=10:=by unfold eX;rw[if_neg (by rw[h];simp),if_neg h2,if_neg h3,if_neg (by rw[h4];simp),if_pos h5]
theorem TV (h:bQ p.n=true)(h2:¬4<p.f.length)(h3:p.f.length≠0)(h4:gY p.f=0)(h5:laps p.f=false):eX p=if jX p.v lK=true then 0 else 1:=by unfold eX;rw[if_neg (by rw[h];simp),if_neg h2,if_neg h3,if_neg (by rw[h4];simp),if_neg (by rw[h5];simp)]
end
end Pn
def WH (w wr:World)(b:Nat)(n:ByteArray)(a:Option Addr)(l:List ByteArray)(c:Nat)(x0 x1 x2 x3 x4 x5 x6 x7:Int):Prop:=PB wr b n a l.length c x0 x1 x2 x3 x4 x5 x6 x7/\TL wr a l/\Below w.heap.size w wr
theorem WH.next {w wr w':World}{b:Nat}{n:ByteArray}{a:Option Addr}{l:List ByteArray}{c:Nat}{x0 x1 x2 x3 x4 x5 x6 x7:Int}(h:WH w wr b n a l c x0 x1 x2 x3 x4 x5 x6 x7)(hb:Below wr.heap.size wr w'):WH w w' b n a l c x0 x1 x2 x3 x4 x5 x6 x7:=⟨h.1.next hb,h.2.1.next hb,ay h.2.2 hb⟩
def WI (w wr:World)(g1 g2:Nat)(v:List Int):Prop:=Dk.lF wr (some ⟨g1,0,none⟩) v/\Dk.lF wr (some ⟨g2,0,none⟩) Pn.lK/\Below w.heap.size w wr
theorem WI.next {w wr w':World}{g1 g2:Nat}{v:List Int}(h:WI w wr g1 g2 v)(hb:Below wr.heap.size wr w'):WI w w' g1 g2 v:=⟨sS h.1 hb,sS h.2.1 hb,ay h.2.2 hb⟩
abbrev YB (g1 g2 i:Nat)(x y:Int)(w:World):Prop:=w.cell? ⟨g1,i,none⟩=some (.int .i64 x)/\w.cell? ⟨g2,i,none⟩=some (.int .i64 y)
theorem WI.two {w wr:World}{g1 g2:Nat}{v:List Int}(h:WI w wr g1 g2 v)(h8:v.length=8){i:Nat}(hi:i<8):YB g1 g2 i (Dk.nth v i) (Dk.nth Pn.lK i) wr:=by
 obtain⟨b1,o1,e1,_,h1⟩:=h.1 i (by omega);obtain⟨b2,o2,e2,_,h2⟩:=h.2.1 i hi
 cases e1
 cases e2
 rw[Nat.zero_add] at h1 h2;exact⟨h1,h2⟩
abbrev YC (b:Nat)(a:Option Addr)(l c ba o i k:Nat)(f g:ByteArray)(w:World):Prop:=w.cell? ⟨b,1,none⟩=some (.slice a l c)/\w.cell? ⟨ba,o+i,none⟩=some (.string f)/\w.cell? ⟨ba,o+k,none⟩=some (.string g)
theorem WH.two {w wr:World}{b ba o:Nat}{n:ByteArray}{l:List ByteArray}{c:Nat}{x0 x1 x2 x3 x4 x5 x6 x7:Int}(h:WH w wr b n (some ⟨ba,o,none⟩) l c x0 x1 x2 x3 x4 x5 x6 x7){i k:Nat}(hi:i<l.length)(hk:k<l.length):YC b (some ⟨ba,o,none⟩) l.length c ba o i k (tk l i) (tk l k) wr:=by
 obtain⟨b1,o1,e1,_,h1⟩:=h.2.1 i hi;obtain⟨b2,o2,e2,_,h2⟩:=h.2.1 k hk
 cases e1
 cases e2
 exact⟨h.1.c1,h1,h2⟩
end Go.Proofs.YtmhbobnfmncdbaaGreatDoor
namespace Go.Proofs.YtmhbobnfmncdbaaGreatDoor.Pn
open Go Go.Proofs.Tryz
theorem zX (f:ByteArray)(r:List ByteArray):tk (f::r) 0=f:=rfl
theorem zY (f:ByteArray)(r:List ByteArray)(k:Nat):tk (f::r) (k+1)=tk r k:=rfl
theorem Sz {l:List ByteArray}{k:Nat}(h:k<l.length):tk l k=l[k]:=by
 unfold tk;rw[List.getElem?_eq_getElem h];rfl
theorem WJ {l:List ByteArray}{k:Nat}(h:k<l.length):tk l k∈l:=by
 rw[Sz h];exact List.getElem_mem h
theorem ML:∀l:List ByteArray,laps l=true↔∃i j,j<i/\i<l.length/\dw (Pl.toks (tk l i)) (Pl.toks (tk l j))=true
 | []=>by
  constructor
  ·intro h;cases h
  ·rintro ⟨i,j,_,h,_⟩;simp at h
 | f::r=>by
  have ih:=ML r;rw[laps,Bool.or_eq_true,ih,List.any_eq_true];constructor
  ·rintro (⟨g,hg,hm⟩|⟨i,j,h1,h2,h3⟩)
   ·obtain⟨k,hk,rfl⟩:=List.mem_iff_getElem.1 hg;refine⟨k+1,0,by omega,by simpa using hk,?_⟩;rw[zY,zX,Sz hk,oW];exact hm
   ·exact⟨i+1,j+1,by omega,by simpa using h2,h3⟩
  ·rintro ⟨i,j,h1,h2,h3⟩;obtain⟨i,rfl⟩:∃k,i=k+1:=⟨i-1,by omega⟩;have hi:i<r.length:=by simpa using h2
   cases j with
   | zero =>
    left;refine⟨tk r i,WJ hi,?_⟩;rw[oW];exact h3
   | succ j=>exact Or.inr ⟨i,j,by omega,hi,h3⟩
def mZ (l:List ByteArray):Int:=if 4<l.length then 2 else if l.length=0 then 1 else if gY l≠0 then gY l else if laps l=true then 10 else 0
theorem Qw {p:Jl}(h:bQ p.n=true):eX p=if mZ p.f≠0 then mZ p.f else if jX p.v lK=true then 0 else 1:=by
 unfold eX mZ;rw[if_neg (by rw[h];simp)];by_cases h2:4<p.f.length
 ·rw[if_pos h2,if_pos h2];rfl
 ·rw[if_neg h2,if_neg h2];by_cases h3:p.f.length=0
  ·rw[if_pos h3,if_pos h3];rfl
  ·rw[if_neg h3,if_neg h3];by_cases h4:gY p.f≠0
   ·rw[if_pos h4,if_pos h4,if_pos h4]
   ·rw[if_neg h4,if_neg h4];by_cases h5:laps p.f=true
    ·rw[if_pos h5,if_pos h5];rfl
    ·rw[if_neg h5,if_neg h5,if_neg (show ¬(0:Int)≠0 by decide)]
theorem TW {l:List ByteArray}(h:mZ l=0):l.length<=4/\l.length≠0/\gY l=0/\laps l=false:=by
 unfold mZ at h;by_cases h2:4<l.length
 ·rw[if_pos h2] at h;cases h
 ·rw[if_neg h2] at h;by_cases h3:l.length=0
  ·rw[if_pos h3] at h;cases h
  ·rw[if_neg h3] at h;by_cases h4:gY l≠0
   ·rw[if_pos h4] at h;exact absurd h h4
   ·rw[if_neg h4] at h;by_cases h5:laps l=true
    ·rw[if_pos h5] at h;cases h
    ·exact⟨by omega,h3,Classical.not_not.1 h4,by simpa using h5⟩
def MN (l:List UInt8):Bool:=l.all fD&&(decide (1<=l.length)&&(decide (l.length<=9)&&decide (l.head?≠some 48)))
theorem MO {l:List UInt8}(h:MN l=true):1<=fZ l/\fZ l=(gQ l:Int)/\l.length<=9/\l≠[]/\∀c∈l,fD c=true:=by
 unfold MN at h;simp only[Bool.and_eq_true,decide_eq_true_eq,List.all_eq_true] at h;obtain⟨h1,h2,h3,h4⟩:=h;have hne:l≠[]:=by intro e;rw[e] at h2;simp at h2
 have e:fZ l=(gQ l:Int):=by
  unfold fZ;rw[if_pos ⟨by rw[List.take_of_length_le (by omega),List.all_eq_true];exact h1,h2,h3,λq=>h4 q.1⟩]
 refine⟨?_,e,h3,hne,h1⟩;rw[e];have:=Gs h1 hne h4;omega
theorem X7 {l:List UInt8}(h:MN l=false):fZ l<1:=by
 unfold fZ;by_cases q:(l.take 10).all fD=true/\1<=l.length/\l.length<=9/\¬(l.head?=some 48/\l≠[48])
 ·obtain⟨q1,q2,q3,q4⟩:=q;rw[if_pos ⟨q1,q2,q3,q4⟩];rw[List.take_of_length_le (by omega)] at q1;unfold MN at h;rw[q1,decide_eq_true q2,decide_eq_true q3] at h;have hh:l.head?=some 48:=by simpa using h
  have hl:l=[48]:=Classical.byContradiction (λx=>q4 ⟨hh,x⟩);rw[hl];decide
 ·rw[if_neg q];decide
theorem sU:∀(l:List UInt8) (a:Nat),(∀c∈l,fD c=true)->Lib.decFrom a l=some (l.foldl (λn c=>n*10+(c.toNat-48)) a)
 | [],a,_=>rfl
 | c::r,a,h=>by
  have hc:=h c (by simp);unfold fD at hc;simp only[Bool.and_eq_true,decide_eq_true_eq] at hc;rw[Lib.decFrom,Lib.digitVal,if_pos ⟨hc.1,hc.2⟩];exact sU r _ (λx hx=>h x (by simp[hx]))
theorem MP {l:List UInt8}(hne:l≠[])(h:∀c∈l,fD c=true):Lib.atoi l=some (gQ l:Int):=by
 cases l with
 | nil=>exact absurd rfl hne
 | cons c r =>
  have hc:=h c (by simp);unfold fD at hc;simp only[Bool.and_eq_true,decide_eq_true_eq] at hc;have n45:¬(c==45)=true:=by
   intro e;rw[beq_iff_eq] at e;subst e;simp at hc
  have n43:¬(c==43)=true:=by
   intro e;rw[beq_iff_eq] at e;subst e;simp at hc
  rw[Lib.atoi,if_neg n45,if_neg n43,Lib.decNat,if_neg (by simp),sU _ _ h];rfl
theorem Vy {l:List UInt8}(h:MN l=true):Lib.atoi l=some (fZ l):=by
 obtain⟨_,e,_,hne,hd⟩:=MO h;rw[e,MP hne hd]
theorem Jq (b:UInt8):∀ts:List (List UInt8),Lib.join ts [b]=glue b ts
 | []=>rfl
 | [t]=>by simp[Lib.join,List.intercalate,glue]
 | t::u::r=>by
  have ih:=Jq b (u::r);rw[eG b t (by simp),<-ih];simp[Lib.join,List.intercalate]
theorem SA (f:ByteArray):decide (0<=Lib.indexByte f.data.toList 44)=f.data.toList.contains 44:=(Lib.contains_iff_indexByte _ _).symm
end Go.Proofs.YtmhbobnfmncdbaaGreatDoor.Pn
namespace Go.Proofs.YtmhbobnfmncdbaaGreatDoor.Tk
open Go Pn Go.Proofs.Tryz
def inB (n lo hi:Int):Bool:=decide (lo<=n)&&decide (n<=hi)
def jM (t:bH):Bool:=if t.fr=3 then inB t.st 1 999999999 else (inB t.fr 0 2&&decide (t.st=0))
def kY (t:bH):Bool:=t.bo.all (λn=>inB n 1 100000)&&inB t.wait 1 100000
def tN (t:bH):Bool:=if t.ack=0 then (decide (t.wait=0)&&(decide (t.mo=0)&&(decide (t.pe=0)&&decide (t.bo.length=0)))) else if t.ack=1\/t.ack=2 then (kY t&&(inB t.mo 0 20&&inB t.pe 0 50)) else false
def gX (t:bH):Int:=if bQ t.n=false then 3 else if aB true t.f≠0 then aB true t.f else if 5<t.bo.length then 2 else if (jM t&&tN t)=true then 0 else 1
theorem iC {t:bH}(h:gX t=0):bQ t.n=true/\aB true t.f=0/\t.bo.length<=5/\jM t=true/\tN t=true:=by
 unfold gX at h;by_cases h1:bQ t.n=false
 ·rw[if_pos h1] at h;cases h
 ·rw[if_neg h1] at h;by_cases h2:aB true t.f≠0
  ·rw[if_pos h2] at h;exact absurd h h2
  ·rw[if_neg h2] at h;by_cases h3:5<t.bo.length
   ·rw[if_pos h3] at h;cases h
   ·rw[if_neg h3] at h;by_cases h4:(jM t&&tN t)=true
    ·rw[Bool.and_eq_true] at h4;exact⟨by simpa using h1,Classical.not_not.1 h2,by omega,h4.1,h4.2⟩
    ·rw[if_neg h4] at h;cases h
def hd:Nat->List UInt8
 | 0=>[102,114,111,109,61]
 | 1=>[97,99,107,61]
 | 2=>[119,97,105,116,61]
 | 3=>[98,97,99,107,111,102,102,61]
 | 4=>[109,111,115,116,61]
 | 5=>[112,101,110,100,105,110,103,61]
 | _=>[112,117,115,104]
def lastT:List UInt8:=[108,97,115,116]
def newT:List UInt8:=[110,101,119]
def SC:List UInt8:=[110,111,110,101]
def allT:List UInt8:=[97,108,108]
def CX (n:Int):Option (List UInt8):=if n=0 then none else some (Lib.itoa n)
def fromV (t:bH):Option (List UInt8):=if t.fr=1 then some lastT else if t.fr=2 then some newT else if t.fr=3 then some (Lib.itoa t.st) else none
def TY (n:Int):Option (List UInt8):=if n=0 then some SC else if n=1 then some allT else none
def YD (l:List Int):Option (List UInt8):=if l=[] then none else some (glue 44 (l.map Lib.itoa))
def jl (t:bH):Nat->Option (List UInt8)
 | 0=>fromV t
 | 1=>TY t.ack
 | 2=>CX t.wait
 | 3=>YD t.bo
 | 4=>CX t.mo
 | 5=>CX t.pe
 | _=>if t.pu=true then some [] else none
def WL (t:bH)(i:Nat):Option (List UInt8):=(jl t i).map (λv=>hd i++v)
def seven:List Nat:=[0,1,2,3,4,5,6]
def jG (t:bH):List (List UInt8):=t.n.data.toList::t.f.data.toList::seven.filterMap (WL t)
def aap (t:bH):ByteArray:=⟨(glue 32 (jG t)).toArray⟩
def SE:List (List UInt8)->Option (List Int)
 | []=>some []
 | v::vs=>if fZ v<1 then none else (SE vs).map (λl=>fZ v::l)
def tV (t:bH)(i:Nat)(v:List UInt8):Option bH:=match i with
 | 0=>if v=lastT then some {t with fr:=1} else if v=newT then some {t with fr:=2} else if fZ v<1 then none else some {t with fr:=3,st:=fZ v}
 | 1=>if v=SC then some {t with ack:=0} else if v=allT then some {t with ack:=1} else none
 | 2=>if fZ v<1 then none else some {t with wait:=fZ v}
 | 3=>(SE (cut 44 v)).map (λl=>{t with bo:=t.bo++l})
 | 4=>if fZ v<1 then none else some {t with mo:=fZ v}
 | 5=>if fZ v<1 then none else some {t with pe:=fZ v}
 | _=>if v=[] then some {t with pu:=true} else none
def YE:List Nat->List (List UInt8)->bH->Option bH
 | [],[],t=>some t
 | [],_::_,_=>none
 | _::_,[],t=>some t
 | i::is,u::us,t=>if (hd i).isPrefixOf u=true then (match tV t i (u.drop (hd i).length) with
  | some t'=>YE is us t'
  | none=>none) else YE is (u::us) t
def base (n f:ByteArray):bH:=⟨n,f,0,0,2,0,[],0,0,false⟩
def jY:bH:=⟨⟨#[]⟩,⟨#[]⟩,0,0,0,0,[],0,0,false⟩
def aak (s:ByteArray):bH×Int:=if 1024<s.size then (jY,2) else match cut 32 s.data.toList with
 | n::f::ts=>match YE seven ts (base (bs n) (bs f)) with
  | some t=>if gX t=0 then (t,0) else (jY,gX t)
  | none=>(jY,3)
 | _=>(jY,3)
def put (t c:bH):Nat->bH
 | 0=>{c with fr:=t.fr,st:=t.st}
 | 1=>{c with ack:=t.ack}
 | 2=>{c with wait:=t.wait}
 | 3=>{c with bo:=t.bo}
 | 4=>{c with mo:=t.mo}
 | 5=>{c with pe:=t.pe}
 | _=>{c with pu:=t.pu}
def bare (c:bH):Nat->Prop
 | 0=>c.fr=0/\c.st=0
 | 1=>c.ack=2
 | 2=>c.wait=0
 | 3=>c.bo=[]
 | 4=>c.mo=0
 | 5=>c.pe=0
 | _=>c.pu=false
def like (a b:bH):Nat->Prop
 | 0=>a.fr=b.fr/\a.st=b.st
 | 1=>a.ack=b.ack
 | 2=>a.wait=b.wait
 | 3=>a.bo=b.bo
 | 4=>a.mo=b.mo
 | 5=>a.pe=b.pe
 | _=>a.pu=b.pu
theorem WM {a b:bH}:∀{i:Nat},like a b i->jl a i=jl b i
 | 0,h=>by simp only[like] at h;simp only[jl,fromV];rw[h.1,h.2]
 | 1,h=>by simp only[like] at h;simp only[jl];rw[h]
 | 2,h=>by simp only[like] at h;simp only[jl];rw[h]
 | 3,h=>by simp only[like] at h;simp only[jl];rw[h]
 | 4,h=>by simp only[like] at h;simp only[jl];rw[h]
 | 5,h=>by simp only[like] at h;simp only[jl];rw[h]
 | _+6,h=>by simp only[like] at h;simp only[jl];rw[h]
theorem vO {x:Int}(h:1<=x)(h9:x<=999999999):fZ (Lib.itoa x)=x:=by
 obtain⟨u,rfl⟩:∃u:Nat,x=(u:Int):=⟨x.toNat,by omega⟩;have hi:Lib.itoa (u:Int)=Lib.decDigits u:=by unfold Lib.itoa;rw[if_neg (by omega)];simp
 rw[hi];exact BH (by omega) (by omega)
theorem CY:∀(l:List Int),(∀x∈l,1<=x/\x<=999999999)->SE (l.map Lib.itoa)=some l
 | [],_=>rfl
 | x::l,h=>by
  have hx:=h x (List.mem_cons_self ..);rw[List.map_cons,SE,vO hx.1 hx.2,if_neg (by omega),CY l (λy hy=>h y (List.mem_cons_of_mem _ hy))];rfl
theorem Qx:∀(vs:List (List UInt8)) {l:List Int},SE vs=some l->l.map Lib.itoa=vs/\l.length=vs.length
 | [],l,h=>by simp[SE] at h;subst h;exact⟨rfl,rfl⟩
 | v::vs,l,h=>by
  rw[SE] at h;by_cases hd:fZ v<1
  ·rw[if_pos hd] at h;cases h
  ·rw[if_neg hd] at h
   cases hr:SE vs with
   | none=>rw[hr] at h;simp at h
   | some u =>
    rw[hr] at h;simp at h;subst h;obtain⟨h1,h2⟩:=Qx vs hr;have:=(xR (l:=v) (by omega)).1;exact⟨by rw[List.map_cons,this,h1],by simp[h2]⟩
theorem MQ {v:List UInt8}(h:v=lastT\/v=newT):fZ v<1:=by
 rcases h with h|h<;>(rw[h];decide)
theorem Jr {x:Int}(h:1<=x/\x<=999999999)(b:UInt8)(hb:b.toNat<48):b∉Lib.itoa x:=by
 intro hm;have e:Lib.itoa x=Lib.decDigits x.toNat:=by unfold Lib.itoa;rw[if_neg (by omega)]
 rw[e] at hm;have:=zC _ b hm;unfold fD at this;simp at this;omega
theorem yF {n lo hi:Int}(h:inB n lo hi=true):lo<=n/\n<=hi:=by unfold inB at h;simpa using h
theorem MR {t:bH}(h:tN t=true):(t.ack=0/\t.wait=0/\t.mo=0/\t.pe=0/\t.bo=[])\/((t.ack=1\/t.ack=2)/\(∀x∈t.bo,1<=x/\x<=100000)/\(1<=t.wait/\t.wait<=100000)/\(0<=t.mo/\t.mo<=20)/\(0<=t.pe/\t.pe<=50)):=by
 unfold tN at h;by_cases h0:t.ack=0
 ·rw[if_pos h0] at h;simp only[Bool.and_eq_true,decide_eq_true_eq] at h;exact .inl ⟨h0,h.1,h.2.1,h.2.2.1,List.eq_nil_of_length_eq_zero h.2.2.2⟩
 ·rw[if_neg h0] at h;by_cases h1:t.ack=1\/t.ack=2
  ·rw[if_pos h1] at h;simp only[Bool.and_eq_true,kY,List.all_eq_true] at h;exact .inr ⟨h1,λx hx=>yF (h.1.1 x hx),yF h.1.2,yF h.2.1,yF h.2.2⟩
  ·rw[if_neg h1] at h;cases h
theorem CZ {t:bH}(h:jM t=true):(t.fr=3/\1<=t.st/\t.st<=999999999)\/((t.fr=0\/t.fr=1\/t.fr=2)/\t.st=0):=by
 unfold jM at h;by_cases h3:t.fr=3
 ·rw[if_pos h3] at h;exact .inl ⟨h3,yF h⟩
 ·rw[if_neg h3] at h;simp only[Bool.and_eq_true,decide_eq_true_eq] at h;have:=yF h.1;exact .inr ⟨by omega,h.2⟩
theorem um {t:bH}(h:tN t=true):(t.wait=0\/1<=t.wait/\t.wait<=100000)/\(t.mo=0\/1<=t.mo/\t.mo<=100000)/\(t.pe=0\/1<=t.pe/\t.pe<=100000)/\∀x∈t.bo,1<=x/\x<=100000:=by
 rcases MR h with ⟨_,h1,h2,h3,h4⟩|⟨_,h1,h2,h3,h4⟩
 ·exact⟨.inl h1,.inl h2,.inl h3,λx hx=>by rw[h4] at hx;cases hx⟩
 ·exact⟨.inr h2,by omega,by omega,h1⟩
theorem zZ {n:Int}(h:n=0\/1<=n/\n<=100000){v:List UInt8}(hv:CX n=some v):fZ v=n/\1<=n:=by
 unfold CX at hv;by_cases e:n=0
 ·rw[if_pos e] at hv;cases hv
 ·rw[if_neg e] at hv
  cases hv
  exact⟨vO (by omega) (by omega),by omega⟩
theorem X8 {t c:bH}(h:gX t=0):∀{i:Nat},bare c i->∀{v},jl t i=some v->tV c i v=some (put t c i)
 | 0,hb,v,hv=>by
  obtain⟨_,_,_,hs,_⟩:=iC h;simp only[bare] at hb;simp only[jl,fromV] at hv;rcases CZ hs with ⟨h3,h4⟩|⟨h3,h4⟩
  ·rw[if_neg (by omega),if_neg (by omega),if_pos h3] at hv
   cases hv
   have hd:=vO h4.1 h4.2;have n1:¬Lib.itoa t.st=lastT:=λz=>by have:=MQ (.inl z);omega
   have n2:¬Lib.itoa t.st=newT:=λz=>by have:=MQ (.inr z);omega
   simp only[tV];rw[if_neg n1,if_neg n2,hd,if_neg (by omega)];simp only[put,h3]
  ·rcases h3 with h3|h3|h3
   ·rw[if_neg (by omega),if_neg (by omega),if_neg (by omega)] at hv;cases hv
   ·rw[if_pos h3] at hv
    cases hv
    simp only[tV];rw[if_pos trivial];simp only[put,h3,h4];rw[<-hb.2]
   ·rw[if_neg (by omega),if_pos h3] at hv
    cases hv
    simp only[tV];rw[if_neg (by decide),if_pos trivial];simp only[put,h3,h4];rw[<-hb.2]
 | 1,hb,v,hv=>by
  simp only[jl,TY] at hv;by_cases h0:t.ack=0
  ·rw[if_pos h0] at hv
   cases hv
   simp only[tV];rw[if_pos trivial];simp only[put,h0]
  ·rw[if_neg h0] at hv;by_cases h1:t.ack=1
   ·rw[if_pos h1] at hv
    cases hv
    simp only[tV];rw[if_neg (by decide),if_pos trivial];simp only[put,h1]
   ·rw[if_neg h1] at hv;cases hv
 | 2,hb,v,hv=>by
  obtain⟨_,_,_,_,ha⟩:=iC h;obtain⟨e1,e2⟩:=zZ (um ha).1 hv;simp only[tV];rw[e1,if_neg (by omega)];rfl
 | 3,hb,v,hv=>by
  obtain⟨_,_,_,_,ha⟩:=iC h;have hn:=(um ha).2.2.2;simp only[bare] at hb;simp only[jl,YD] at hv;by_cases e:t.bo=[]
  ·rw[if_pos e] at hv;cases hv
  ·rw[if_neg e] at hv
   cases hv
   have hc:cut 44 (glue 44 (t.bo.map Lib.itoa))=t.bo.map Lib.itoa:=qj 44 _ (λz=>e (List.map_eq_nil_iff.1 z)) (λu hu=>by
    obtain⟨x,hx,rfl⟩:=List.mem_map.1 hu;have:=hn x hx;exact Jr (by omega) 44 (by decide))
   simp only[tV];rw[hc,CY t.bo (λx hx=>by have:=hn x hx;omega)];simp only[Option.map_some,put,hb,List.nil_append]
 | 4,hb,v,hv=>by
  obtain⟨_,_,_,_,ha⟩:=iC h;obtain⟨e1,e2⟩:=zZ (um ha).2.1 hv;simp only[tV];rw[e1,if_neg (by omega)];rfl
 | 5,hb,v,hv=>by
  obtain⟨_,_,_,_,ha⟩:=iC h;obtain⟨e1,e2⟩:=zZ (um ha).2.2.1 hv;simp only[tV];rw[e1,if_neg (by omega)];rfl
 | i+6,hb,v,hv=>by
  simp only[jl] at hv;by_cases e:t.pu=true
  ·rw[if_pos e] at hv
   cases hv
   simp only[tV];rw[if_pos trivial];simp only[put,e]
  ·rw[if_neg e] at hv;cases hv
theorem WO {t c:bH}(h:gX t=0):∀{i:Nat},bare c i->jl t i=none->put t c i=c
 | 0,hb,hv=>by
  obtain⟨_,_,_,hs,_⟩:=iC h;simp only[bare] at hb;simp only[jl,fromV] at hv;rcases CZ hs with ⟨h3,h4⟩|⟨h3,h4⟩
  ·rw[if_neg (by omega),if_neg (by omega),if_pos h3] at hv;cases hv
  ·rcases h3 with h3|h3|h3
   ·simp only[put,h3,h4]
    cases c
    simp only at hb;simp[hb.1,hb.2]
   ·rw[if_pos h3] at hv;cases hv
   ·rw[if_neg (by omega),if_pos h3] at hv;cases hv
 | 1,hb,hv=>by
  obtain⟨_,_,_,_,ha⟩:=iC h;simp only[bare] at hb;simp only[jl,TY] at hv;have:t.ack=2:=by
   rcases MR ha with ⟨h0,_⟩|⟨h0,_⟩
   ·rw[if_pos h0] at hv;cases hv
   ·rcases h0 with h0|h0
    ·rw[if_neg (by omega),if_pos h0] at hv;cases hv
    ·exact h0
  simp only[put,this];rw[<-hb]
 | 2,hb,hv=>by
  simp only[bare] at hb;simp only[jl,CX] at hv;by_cases e:t.wait=0
  ·simp only[put,e];rw[<-hb]
  ·rw[if_neg e] at hv;cases hv
 | 3,hb,hv=>by
  simp only[bare] at hb;simp only[jl,YD] at hv;by_cases e:t.bo=[]
  ·simp only[put,e];rw[<-hb]
  ·rw[if_neg e] at hv;cases hv
 | 4,hb,hv=>by
  simp only[bare] at hb;simp only[jl,CX] at hv;by_cases e:t.mo=0
  ·simp only[put,e];rw[<-hb]
  ·rw[if_neg e] at hv;cases hv
 | 5,hb,hv=>by
  simp only[bare] at hb;simp only[jl,CX] at hv;by_cases e:t.pe=0
  ·simp only[put,e];rw[<-hb]
  ·rw[if_neg e] at hv;cases hv
 | i+6,hb,hv=>by
  simp only[bare] at hb;simp only[jl] at hv;by_cases e:t.pu=true
  ·rw[if_pos e] at hv;cases hv
  ·have e':t.pu=false:=by simpa using e
   simp only[put,e'];rw[<-hb]
end Go.Proofs.YtmhbobnfmncdbaaGreatDoor.Tk
namespace Go.Proofs.YtmhbobnfmncdbaaGreatDoor.Dk
open Go.RowKit Go.Proofs.Tryz
theorem jZ {now:Int}:iI now=true↔0<=now/\now<=1099511627776:=by
 unfold iI;rw[Bool.and_eq_true,decide_eq_true_eq,decide_eq_true_eq]
theorem SG {c:bJ}(h:c.Ok)(p:Dv->Bool):(⟨c.t,c.pl,c.pe.filter p,c.cn⟩:bJ).Ok where
 rise:=h.rise.sublist List.filter_sublist
 low:=λx hx=>h.low x (List.mem_filter.1 hx).1
 nth:=λx hx=>h.nth x (List.mem_filter.1 hx).1
 due:=λx hx=>h.due x (List.mem_filter.1 hx).1
 none0:=λh0=>by
  show c.pe.filter p=[];rw[h.none0 h0];rfl
 pl:=h.pl
theorem qL {l:List Dv}{q:Int}{f:Dv->Int}{p:Dv}(h:p∈kX l q f):∃x∈l,x.q=p.q/\x.n=p.n/\(p=x\/p.d=f x):=by
 obtain⟨x,hx,rfl⟩:=List.mem_map.1 h;refine⟨x,hx,?_⟩;split
 ·exact⟨rfl,rfl,.inr rfl⟩
 ·exact⟨rfl,rfl,.inl rfl⟩
theorem MS {c:bJ}(h:c.Ok)(q:Int)(f:Dv->Int)(hf:∀x∈c.pe,0<=f x/\f x<=1099511727776):(⟨c.t,c.pl,kX c.pe q f,c.cn⟩:bJ).Ok where
 rise:=by
  show(kX c.pe q f).Pairwise _;unfold kX;rw[List.pairwise_map];refine h.rise.imp (λ{a b} hab=>?_);split<;>split<;>exact hab
 low:=λp hp=>by
  obtain⟨x,hx,e,_⟩:=qL hp;rw[<-e];exact h.low x hx
 nth:=λp hp=>by
  obtain⟨x,hx,_,e,_⟩:=qL hp;rw[<-e];exact h.nth x hx
 due:=λp hp=>by
  obtain⟨x,hx,_,_,r⟩:=qL hp;rcases r with rfl|r
  ·exact h.due p hx
  ·rw[r];exact hf x hx
 none0:=λh0=>by
  show kX c.pe q f=[];rw[h.none0 h0];rfl
 pl:=h.pl
theorem bJ.Ok.ans {c:bJ}(h:c.Ok)(hw:eU c.t)(now q so n:Int):(dJ c now q so n).1.Ok:=by
 unfold dJ;split
 ·exact h
 ·rename_i h1;rw[not_or] at h1;have ht:=jZ.1 (by simpa using h1.1);have ha:jW so n=true:=by simpa using h1.2
  split
  ·exact h
  ·split
   ·exact SG h _
   ·split
    ·rename_i h2;refine MS h _ _ (λ_ _=>?_);unfold jW at ha;rw[if_pos h2,Bool.and_eq_true,decide_eq_true_eq,decide_eq_true_eq] at ha;omega
    ·split
     ·exact MS h _ _ (λx _=>by have:=nV hw.w hw.b x.n;omega)
     ·exact SG h _
theorem MV {t:Tk.bH}(h:Tk.gX t=0):eU t:=by
 have hk:=(Tk.iC h).2.2.2.2;unfold Tk.tN at hk;split at hk
 ·simp only[Bool.and_eq_true,decide_eq_true_eq] at hk;refine⟨by omega,λx hx=>?_⟩;have:t.bo=[]:=List.length_eq_zero_iff.1 hk.2.2.2;rw[this] at hx
  cases hx
 ·split at hk
  ·rw[Bool.and_eq_true] at hk;obtain⟨h1,_⟩:=hk;unfold Tk.kY at h1;rw[Bool.and_eq_true,List.all_eq_true] at h1;obtain⟨h2,h3⟩:=h1;unfold Tk.inB at h3;rw[Bool.and_eq_true,decide_eq_true_eq,decide_eq_true_eq] at h3;refine⟨by omega,λx hx=>?_⟩;have h4:=h2 x hx;unfold Tk.inB at h4;rw[Bool.and_eq_true,decide_eq_true_eq,decide_eq_true_eq] at h4;omega
  ·cases hk
theorem Ua {t:Tk.bH}(h:Tk.gX t=0){s:bD}(hs:s.Ok):(⟨t,cu t s,[],0⟩:bJ).Ok where
 rise:=List.Pairwise.nil
 low:=λp hp=>by cases hp
 nth:=λp hp=>by cases hp
 due:=λp hp=>by cases hp
 none0:=λ_=>rfl
 pl:=by
  show 1<=cu t s/\cu t s<=1099511627777;have hl:=hs.last;unfold cu;split
  ·cases hm:iO t.f s.l with
   | none=>show 1<=s.last+1/\s.last+1<=_;omega
   | some m =>
    have h1:m∈s.l:=(List.mem_filter.1 (List.mem_of_getLast? hm)).1;have:=hs.seq h1;show 1<=m.q/\m.q<=_;omega
  ·split
   ·omega
   ·split
    ·rename_i h3;have hst:=(Tk.iC h).2.2.2.1;unfold Tk.jM at hst;rw[if_pos h3] at hst;unfold Tk.inB at hst;rw[Bool.and_eq_true,decide_eq_true_eq,decide_eq_true_eq] at hst;omega
    ·omega
theorem Qy {l:List Dv}{q:Int}(h:kW l q=true):∃a p b,l=a++p::b/\p.q=q:=by
 unfold kW at h;rw[List.any_eq_true] at h;obtain⟨p,hp,e⟩:=h;obtain⟨a,b,rfl⟩:=List.append_of_mem hp;exact⟨a,p,b,rfl,by simpa using e⟩
theorem WQ {l:List Dv}{q:Int}(h:kW l q=false):∀p∈l,p.q≠q:=by
 unfold kW at h;rw[List.any_eq_false] at h;intro p hp e;exact h p hp (by simpa using e)
theorem Qz {a b:List Dv}{p:Dv}(h:(a++p::b).Pairwise λx y=>x.q<y.q):(a++p::b).filter (λx=>decide (p.q<x.q))=b:=by
 rw[List.pairwise_append,List.pairwise_cons] at h;obtain⟨_,⟨h2,_⟩,h3⟩:=h;rw[List.filter_append,List.filter_cons_of_neg (by simp)];rw[List.filter_eq_nil_iff.2 (λx hx=>?_),List.filter_eq_self.2 (λx hx=>?_),List.nil_append]
 ·have:=h2 x hx;simpa using this
 ·have:=h3 x hx p (List.mem_cons_self ..);simp only[decide_eq_true_eq];omega
theorem Hu {a b:List Dv}{p:Dv}(h:(a++p::b).Pairwise λx y=>x.q<y.q)(f:Dv->Int):kX (a++p::b) p.q f=a++⟨p.q,p.n,f p⟩::b:=by
 rw[List.pairwise_append,List.pairwise_cons] at h;obtain⟨_,⟨h2,_⟩,h3⟩:=h;unfold kX;rw[List.map_append,List.map_cons,if_pos rfl];congr 1
 ·conv=>rhs;rw[<-List.map_id a]
  apply List.map_congr_left;intro x hx;have:=h3 x hx p (List.mem_cons_self ..);rw[if_neg (by omega)];rfl
 ·congr 1
  conv=>rhs;rw[<-List.map_id b]
  apply List.map_congr_left;intro x hx;have:=h2 x hx;rw[if_neg (by omega)];rfl
theorem Js {f:ByteArray}:∀{l:List Rc} {n:Int},aX f l n=none->bK f l n=0:=by
 intro l n h;unfold aX at h;unfold bK;rw[List.find?_eq_none] at h;rw[List.length_eq_zero_iff,List.filter_eq_nil_iff];exact h
theorem left_step {f:ByteArray}:∀{l:List Rc} {n:Int} {m:Rc},(l.Pairwise λa b=>a.q<b.q)->aX f l n=some m->bK f l n=bK f l (m.q+1)+1
 | [],n,m,_,h=>by simp[aX] at h
 | x::l,n,m,hp,h=>by
  obtain⟨h1,h2⟩:=List.pairwise_cons.1 hp;by_cases hx:(lJ f x.s&&decide (n<=x.q))=true
  ·have e:aX f (x::l) n=some x:=by unfold aX;rw[List.find?_cons_of_pos (p:=λr:Rc=>lJ f r.s&&decide (n<=r.q)) hx]
   rw[e] at h
   cases h
   have e1:bK f (x::l) n=bK f l n+1:=by unfold bK;rw[List.filter_cons_of_pos (p:=λr:Rc=>lJ f r.s&&decide (n<=r.q)) hx];rfl
   have e2:bK f (x::l) (x.q+1)=bK f l (x.q+1):=by
    unfold bK;rw[List.filter_cons_of_neg (by simp only[Bool.and_eq_true,decide_eq_true_eq,not_and];intro _;omega)]
   have e3:bK f l n=bK f l (x.q+1):=by
    unfold bK;congr 1
    apply List.filter_congr;intro r hr;have:=h1 r hr;simp only[Bool.and_eq_true,decide_eq_true_eq] at hx;rw[decide_eq_true (show n<=r.q by omega),decide_eq_true (show x.q+1<=r.q by omega)]
   rw[e1,e2,e3]
  ·have e:aX f (x::l) n=aX f l n:=by unfold aX;rw[List.find?_cons_of_neg (p:=λr:Rc=>lJ f r.s&&decide (n<=r.q)) hx]
   rw[e] at h;have hm:=(iw h).1;have:=h1 m hm;have e1:bK f (x::l) n=bK f l n:=by unfold bK;rw[List.filter_cons_of_neg (p:=λr:Rc=>lJ f r.s&&decide (n<=r.q)) hx]
   have e2:bK f (x::l) (m.q+1)=bK f l (m.q+1):=by
    unfold bK;rw[List.filter_cons_of_neg (by simp only[Bool.and_eq_true,decide_eq_true_eq,not_and];intro _;omega)]
   rw[e1,e2];exact left_step h2 h
theorem MW {f:ByteArray}{l:List Rc}{n:Int}:bK f l n<=l.length:=List.length_filter_le _ _
def sV (f:ByteArray)(l:List Rc):Option Rc->Nat
 | none=>0
 | some m=>bK f l (m.q+1)+1
theorem Hw {f:ByteArray}{l:List Rc}{n:Int}(hp:l.Pairwise λa b=>a.q<b.q):sV f l (aX f l n)=bK f l n:=by
 cases h:aX f l n with
 | none=>rw[Js h];rfl
 | some m=>rw[left_step hp h];rfl
def sW (c:bJ):Bool:=(c.t.pe !=0)&&decide (c.t.pe<=(c.pe.length:Int))
def newC (c:bJ)(l:List Rc)(now:Int):bJ×Option (Rc×Int)×Int :=
 if sW c=true then (c,none,11) else match aX c.t.f l c.pl with
  | none=>(c,none,4)
  | some m=>(⟨c.t,m.q+1,if c.t.ack=0 then c.pe else c.pe++[⟨m.q,1,now+Tk.aZ c.t 1⟩],c.cn+1⟩,some (m,1),0)
theorem MX {c:bJ}{l:List Rc}{now:Int}(ht:iI now=true)(h:(dQ c.t l now c.pe).2=none):aI c l now=newC ⟨c.t,c.pl,(dQ c.t l now c.pe).1,c.cn⟩ l now:=by
 unfold aI newC sW;rw[ht,if_neg (by simp)];rw[h];by_cases q:c.t.pe≠0/\c.t.pe<=((dQ c.t l now c.pe).1.length:Int)
 ·have e:((c.t.pe !=0)&&decide (c.t.pe<=((dQ c.t l now c.pe).1.length:Int)))=true:=by
   rw[decide_eq_true q.2,Bool.and_true];simpa using q.1
  simp only[e,if_pos q,if_true]
 ·have e:((c.t.pe !=0)&&decide (c.t.pe<=((dQ c.t l now c.pe).1.length:Int)))=false:=by
   by_cases z:c.t.pe=0
   ·rw[z];rfl
   ·rw[decide_eq_false (λy=>q ⟨z,y⟩),Bool.and_false]
  simp only[e,if_neg q,Bool.false_eq_true,if_false];all_goals (cases aX c.t.f l c.pl<;>rfl)
theorem EP {c:bJ}{l:List Rc}{now:Int}{m:Rc}{n:Int}(ht:iI now=true)(h:(dQ c.t l now c.pe).2=some (m,n)):aI c l now=(⟨c.t,c.pl,(dQ c.t l now c.pe).1,c.cn+1⟩,some (m,n),0):=by
 unfold aI;rw[ht,if_neg (by simp),h]
def ng (c:bJ)(l:List Rc):Option (Rc×Int)->Gt
 | none=>dX
 | some (m,n)=>⟨m.q,m.s,m.d,c.cn,n,(bK c.t.f l c.pl:Int)⟩
structure bJ.Go (c:bJ)(N:Nat):Prop where
 ok:c.Ok
 right:Tk.gX c.t=0
 small:gZ c.t
 cn:0<=c.cn/\c.cn<=(N:Int)
 nth:∀p∈c.pe,0<=p.n/\p.n<=(N:Int)
 len:c.pe.length<=N
theorem bJ.Go.waits {c:bJ}{N:Nat}(h:c.Go N):eU c.t:=MV h.right
theorem bJ.Go.bo {c:bJ}{N:Nat}(h:c.Go N):c.t.bo.length<=5:=(Tk.iC h.right).2.2.1
theorem bJ.Go.filt {c:bJ}{N:Nat}(h:c.Go N):aB true c.t.f=0:=(Tk.iC h.right).2.1
theorem bJ.Go.more {c:bJ}{N M:Nat}(h:c.Go N)(hm:N<=M):c.Go M :=
 ⟨h.ok,h.right,h.small,by have:=h.cn;omega,λp hp=>by have:=h.nth p hp;omega,by have:=h.len;omega⟩
theorem bJ.Go.new {t:Tk.bH}(h:Tk.gX t=0)(hs:gZ t){s:bD}(hk:s.Ok):(⟨t,cu t s,[],0⟩:bJ).Go 0 :=
 ⟨Ua h hk,h,hs,⟨Int.le_refl _,Int.le_refl _⟩,λp hp=>(by cases hp),Nat.le_refl _⟩
theorem Ub {t:Tk.bH}{l:List Rc}{now:Int}{ps:List Dv}{N:Nat}(h:∀p∈ps,0<=p.n/\p.n<=(N:Int)):∀p∈(dQ t l now ps).1,0<=p.n/\p.n<=((N+1:Nat):Int):=λp hp=>by
 obtain⟨x,hx,_,r⟩:=jL hp;have:=h x hx;rcases r with rfl|⟨r,_⟩<;>omega
theorem ku (c:bJ)(l:List Rc)(now:Int):(aI c l now).1.t=c.t:=by
 unfold aI;split
 ·rfl
 ·split
  ·rfl
  ·split
   ·rfl
   ·split<;>rfl
theorem bJ.Go.next {c:bJ}{N:Nat}(h:c.Go N){s:bD}(hs:s.Ok)(now:Int):(aI c s.l now).1.Go (N+1):=by
 have hcn:=h.cn;have hl:=h.len;have ha:=jd (t:=c.t) (l:=s.l) (now:=now) c.pe;have hn:=Ub (t:=c.t) (l:=s.l) (now:=now) h.nth;refine⟨h.ok.next h.waits hs now,by rw[ku];exact h.right,by rw[ku];exact h.small,?_,?_,?_⟩
 ·unfold aI;split
  ·show 0<=c.cn/\c.cn<=_;omega
  ·split
   ·show 0<=c.cn+1/\c.cn+1<=_;omega
   ·split
    ·show 0<=c.cn/\c.cn<=_;omega
    ·split
     ·show 0<=c.cn/\c.cn<=_;omega
     ·show 0<=c.cn+1/\c.cn+1<=_;omega
 ·unfold aI;split
  ·exact λp hp=>by have:=h.nth p hp;omega
  ·split
   ·exact hn
   ·split
    ·exact hn
    ·split
     ·exact hn
     ·intro p hp;simp only at hp;split at hp
      ·exact hn p hp
      ·rcases List.mem_append.1 hp with q|q
       ·exact hn p q
       ·rw[List.mem_singleton] at q;subst q;show(0:Int)<=1/\(1:Int)<=_;omega
 ·unfold aI;split
  ·show c.pe.length<=_;omega
  ·split
   ·show(dQ c.t s.l now c.pe).1.length<=_;omega
   ·split
    ·show(dQ c.t s.l now c.pe).1.length<=_;omega
    ·split
     ·show(dQ c.t s.l now c.pe).1.length<=_;omega
     ·simp only;split
      ·omega
      ·rw[List.length_append];simp only[List.length_singleton];omega
theorem qM (c:bJ)(now q so n:Int):(dJ c now q so n).1.t=c.t:=by
 unfold dJ;split
 ·rfl
 ·split
  ·rfl
  ·split
   ·rfl
   ·split
    ·rfl
    ·split<;>rfl
theorem MZ (c:bJ)(now q so n:Int):(dJ c now q so n).1.cn=c.cn/\(dJ c now q so n).1.pl=c.pl:=by
 unfold dJ;split
 ·exact⟨rfl,rfl⟩
 ·split
  ·exact⟨rfl,rfl⟩
  ·split
   ·exact⟨rfl,rfl⟩
   ·split
    ·exact⟨rfl,rfl⟩
    ·split<;>exact⟨rfl,rfl⟩
theorem Aa {c:bJ}{now q so n:Int}{p:Dv}(hp:p∈(dJ c now q so n).1.pe):∃x∈c.pe,x.q=p.q/\x.n=p.n:=by
 have hd:∀f:Dv->Int,p∈kX c.pe q f->∃x∈c.pe,x.q=p.q/\x.n=p.n:=λf h=>by
  obtain⟨x,hx,e1,e2,_⟩:=qL h;exact⟨x,hx,e1,e2⟩
 unfold dJ at hp;split at hp
 ·exact⟨p,hp,rfl,rfl⟩
 ·split at hp
  ·exact⟨p,hp,rfl,rfl⟩
  ·split at hp
   ·exact⟨p,(List.mem_filter.1 hp).1,rfl,rfl⟩
   ·split at hp
    ·exact hd _ hp
    ·split at hp
     ·exact hd _ hp
     ·exact⟨p,(List.mem_filter.1 hp).1,rfl,rfl⟩
theorem QA (c:bJ)(now q so n:Int):(dJ c now q so n).1.pe.length<=c.pe.length:=by
 unfold dJ;split
 ·exact Nat.le_refl _
 ·split
  ·exact Nat.le_refl _
  ·split
   ·exact List.length_filter_le _ _
   ·split
    ·show(kX _ _ _).length<=_;unfold kX;rw[List.length_map];exact Nat.le_refl _
    ·split
     ·show(kX _ _ _).length<=_;unfold kX;rw[List.length_map];exact Nat.le_refl _
     ·exact List.length_filter_le _ _
theorem bJ.Go.ans {c:bJ}{N:Nat}(h:c.Go N)(now q so n:Int):(dJ c now q so n).1.Go N :=
 ⟨h.ok.ans h.waits now q so n,by rw[qM];exact h.right,by rw[qM];exact h.small,by rw[(MZ c now q so n).1];exact h.cn,λp hp=>by
  obtain⟨x,hx,_,e⟩:=Aa hp;rw[<-e];exact h.nth x hx,Nat.le_trans (QA c now q so n) h.len⟩
def QB (CH:World->Nat->Nat->(Nat->Prop)->bJ->Prop)(w w':World)(B b:Nat)(G:Nat->Prop)(c:bJ):Prop:=∃G',CH w' B b G' c/\aA G w w'/\∀k,G' k->G k\/w.heap.size<=k
structure bG (SH:World->Nat->Nat->(Nat->Prop)->bD->Prop)(CH:World->Nat->Nat->(Nat->Prop)->bJ->Prop):Prop where
 own:∀{w B b G c},CH w B b G c->∀k,G k->B<=k/\k<w.heap.size
 aT:∀{w w' B b G c} {A:Nat->Prop},CH w B b G c->aA A w w'->(∀k,G k->¬A k)->CH w' B b G c
 bad:∀{w:World} (t:Tk.bH) (a:Option Addr) (ca q:Nat),gZ t->lF w a t.bo->Tk.gX t≠0 ->
  Calls prog 10 #[lU t a ca,.pointer (some ⟨q,0,none⟩)] w λe w'=>e=.returned (.tuple #[.pointer none,.int .i64 (Tk.gX t)])/\Below w.heap.size w w'
 new:∀{w B' q F s} (t:Tk.bH) (a:Option Addr) (ca:Nat),gZ t->lF w a t.bo->Tk.gX t=0->SH w B' q F s->s.Ok->B'<=w.heap.size ->
  Calls prog 10 #[lU t a ca,.pointer (some ⟨q,0,none⟩)] w λe w'=>(∃b G,e=.returned (.tuple #[.pointer (some ⟨b,0,none⟩),.int .i64 0])/\CH w' w.heap.size b G ⟨t,cu t s,[],0⟩)/\Below w.heap.size w w'
 next:∀{w B b G c B' q F s N},CH w B b G c->c.Go N->N<=100000->SH w B' q F s->s.Ok->B<=w.heap.size->B'<=w.heap.size->(∀k,F k->¬G k)->∀now:Int,
  Calls prog 13 #[.pointer (some ⟨b,0,none⟩),.pointer (some ⟨q,0,none⟩),.int .i64 now] w λe w'=>e=.returned (.tuple #[KC (ng (aI c s.l now).1 s.l (aI c s.l now).2.1),.int .i64 (aI c s.l now).2.2])/\QB CH w w' B b G (aI c s.l now).1
 answer:∀{w B b G c N},CH w B b G c->c.Go N->N<=100000->∀now q so n:Int,
  Calls prog 15 #[.pointer (some ⟨b,0,none⟩),.int .i64 now,.int .i64 q,.agg #[.int .i64 so,.int .i64 n]] w λe w'=>e=.returned (.int .i64 (dJ c now q so n).2)/\QB CH w w' B b G (dJ c now q so n).1
 done:∀{w B b G c N},CH w B b G c->c.Go N->N<=100000->∀n:Int,
  Calls prog 17 #[.pointer (some ⟨b,0,none⟩),.int .i64 n] w λe w'=>e=.returned (.bool (MH c n))/\Below w.heap.size w w'
 due:∀{w B b G c N},CH w B b G c->c.Go N->N<=100000 ->
  Calls prog 19 #[.pointer (some ⟨b,0,none⟩)] w λe w'=>e=.returned (.int .i64 (Jk c.pe))/\Below w.heap.size w w'
 info:∀{w B b G c N},CH w B b G c->c.Go N ->
  Calls prog 21 #[.pointer (some ⟨b,0,none⟩)] w λe w'=>e=.returned (Vl (aJ c) (c.pl-1) c.cn (c.pe.length:Int))/\Below w.heap.size w w'
 taker:∀{w B b G c N},CH w B b G c->c.Go N ->
  Calls prog 24 #[.pointer (some ⟨b,0,none⟩)] w λe w'=>∃a' c',e=.returned (lU c.t a' c')/\Nums w' w.heap.size (.slice a' c.t.bo.length c') c.t.bo/\Below w.heap.size w w'
def lS:List Dv->List Value
 | []=>[]
 | p::l=>.int .i64 p.q::.int .i64 p.n::.int .i64 p.d::lS l
theorem ni:∀l:List Dv,(lS l).length=l.length*3
 | []=>rfl
 | p::l=>by simp[lS,ni l];omega
theorem ny:∀a b:List Dv,lS (a++b)=lS a++lS b
 | [],_=>rfl
 | p::a,b=>by simp[lS,ny a b]
theorem Na:∀(l:List Dv),∀v∈lS l,v.oneCell'=true
 | [],v,h=>by simp[lS] at h
 | p::l,v,h=>by
  simp only[lS,List.mem_cons] at h;rcases h with h|h|h|h
  ·subst h;rfl
  ·subst h;rfl
  ·subst h;rfl
  ·exact Na l v h
def dv (l:List Dv)(k:Nat):Dv:=l[k]?.getD ⟨0,0,0⟩
theorem Hy:∀(l:List Dv) (k:Nat),k<l.length->(lS l)[k*3]?=some (.int .i64 (dv l k).q)/\(lS l)[k*3+1]?=some (.int .i64 (dv l k).n)/\(lS l)[k*3+2]?=some (.int .i64 (dv l k).d)
 | [],k,h=>absurd h (Nat.not_lt_zero k)
 | p::l,0,_=>⟨rfl,rfl,rfl⟩
 | p::l,k+1,h=>by
  rw[show(k+1)*3=k*3+1+1+1 by omega];have:=Hy l k (by simpa using h);have e:dv (p::l) (k+1)=dv l k:=rfl;rw[e];exact this
def eY (w:World)(B:Nat)(v:Value)(l:List Dv):Prop:=w.ownsRow B 124 3 v l.length (lS l)
theorem eY.empty (w:World)(B:Nat):eY w B (.slice none 0 0) []:=World.ownsRow_nil w B _ 3
theorem eY.aT {A:Nat->Prop}{w w':World}{B:Nat}{v:Value}{l:List Dv}(h:eY w B v l)(hb:aA A w w')(hn:∀g,v.ownBlock=some g->¬A g):eY w' B v l:=by
 refine⟨h.1,?_⟩;rcases h.2 with q|⟨g,cap,cur,h1,h2,h3,r⟩
 ·exact .inl q
 ·refine .inr ⟨g,cap,cur,h1,h2,?_,r⟩;rw[hb.block g (h.lt g (by rw[h1];rfl)).2 (hn g (by rw[h1];rfl))];exact h3
theorem eY.below {w w':World}{B:Nat}{v:Value}{l:List Dv}(h:eY w B v l)(hb:Below w.heap.size w w'):eY w' B v l:=h.aT (A:=λ_=>False) (aA.of_below hb) (λ_ _ z=>z)
structure Thr (w:World)(b o:Nat)(p:Dv):Prop where
 lt:b<w.heap.size
 c0:w.cell? ⟨b,o,none⟩=some (.int .i64 p.q)
 c1:w.cell? ⟨b,o+1,none⟩=some (.int .i64 p.n)
 c2:w.cell? ⟨b,o+2,none⟩=some (.int .i64 p.d)
def Vz (w:World)(a:Option Addr)(l:List Dv):Prop:=∀k,k<l.length->∃b,a=some ⟨b,0,none⟩/\Thr w b (k*3) (dv l k)
theorem eY.shape {w:World}{B:Nat}{v:Value}{l:List Dv}(h:eY w B v l):∃a cap,v=.slice a l.length cap/\l.length<=cap/\cap<=maxLen/\Vz w a l:=by
 rcases h.2 with ⟨h1,h2⟩|⟨g,cap,cur,h1,h2,h3,h4,h5,h6,h7⟩
 ·exact⟨none,0,by rw[h1,h2],by omega,by simp[maxLen],λk hk=>by omega⟩
 ·refine⟨_,cap,h1,h4,h5,λk hk=>⟨g,rfl,?_⟩⟩;have hl:=(h.lt g (by rw[h1];rfl)).2;have hat:=Hy l k hk;rw[h1] at h;refine⟨hl,?_,?_,?_⟩
  ·rw[World.ownsRow.cellAt h (k*3) (by omega)];exact hat.1
  ·rw[World.ownsRow.cellAt h (k*3+1) (by omega)];exact hat.2.1
  ·rw[World.ownsRow.cellAt h (k*3+2) (by omega)];exact hat.2.2
structure Cm (w:World)(B b:Nat)(c:bJ)(a:Option Addr)(ca:Nat)(v:Value):Prop where
 tb:TB w b c.t a ca
 pl:w.cell? ⟨b,10,none⟩=some (.int .i64 c.pl)
 pe:w.cell? ⟨b,11,none⟩=some v
 cn:w.cell? ⟨b,12,none⟩=some (.int .i64 c.cn)
 row:eY w B v c.pe
 bo:lF w a c.t.bo
 fr:∀i,w.frozen? ⟨b,i,none⟩=false
 bB:B<=b
 ne1:v.ownBlock≠some b
 QC:∀z,a=some z->z.block≠b/\v.ownBlock≠some z.block
 al:∀z,a=some z->B<=z.block/\z.block<w.heap.size
theorem Cm.next {w w':World}{B b:Nat}{c:bJ}{a:Option Addr}{ca:Nat}{v:Value}(h:Cm w B b c a ca v)(hb:Below w.heap.size w w'):Cm w' B b c a ca v :=
 ⟨h.tb.next hb,by rw[hb.cell (p:=⟨b,10,none⟩) h.tb.lt];exact h.pl,by rw[hb.cell (p:=⟨b,11,none⟩) h.tb.lt];exact h.pe,by rw[hb.cell (p:=⟨b,12,none⟩) h.tb.lt];exact h.cn,h.row.below hb,dG h.bo hb,λi=>by rw[hb.frozen (p:=⟨b,i,none⟩) h.tb.lt];exact h.fr i,h.bB,h.ne1,h.QC,λz hz=>⟨(h.al z hz).1,Nat.lt_of_lt_of_le (h.al z hz).2 hb.size⟩⟩
theorem Cm.aT {A:Nat->Prop}{w w':World}{B b:Nat}{c:bJ}{a:Option Addr}{ca:Nat}{v:Value}(h:Cm w B b c a ca v)(hb:aA A w w')(h1:¬A b)(h2:∀g,v.ownBlock=some g->¬A g)(h3:∀z,a=some z->¬A z.block):Cm w' B b c a ca v :=
 ⟨h.tb.same hb.size (λj=>hb.cell (p:=⟨b,j,none⟩) h.tb.lt h1),by rw[hb.cell (p:=⟨b,10,none⟩) h.tb.lt h1];exact h.pl,by rw[hb.cell (p:=⟨b,11,none⟩) h.tb.lt h1];exact h.pe,by rw[hb.cell (p:=⟨b,12,none⟩) h.tb.lt h1];exact h.cn,h.row.aT hb h2,(λk hk=>by
  obtain⟨b',o,e1,e2,e3⟩:=h.bo k hk;exact⟨b',o,e1,Nat.lt_of_lt_of_le e2 hb.size,by rw[hb.cell (p:=⟨b',o+k,none⟩) e2 (h3 ⟨b',o,none⟩ e1)];exact e3⟩),λi=>by rw[hb.frozen (p:=⟨b,i,none⟩) h.tb.lt h1];exact h.fr i,h.bB,h.ne1,h.QC,λz hz=>⟨(h.al z hz).1,Nat.lt_of_lt_of_le (h.al z hz).2 hb.size⟩⟩
theorem Cm.put {w w1:World}{B b:Nat}{c:bJ}{a:Option Addr}{ca:Nat}{v:Value}(h:Cm w B b c a ca v)(h1:aA (λk=>v.ownBlock=some k) w w1){j:Nat}{u v':Value}{pl cn:Int}{pe:List Dv}(hj:j=10/\u=.int .i64 pl/\cn=c.cn/\v'=v\/j=12/\u=.int .i64 cn/\pl=c.pl/\v'=v\/j=11/\u=v'/\pl=c.pl/\cn=c.cn)(hr:eY w1 B v' pe)(hv:∀g,v'.ownBlock=some g->v.ownBlock=some g\/w.heap.size<=g) :
 Cm (w1.setCell ⟨b,j,none⟩ u) B b ⟨c.t,pl,pe,cn⟩ a ca v':=by
 have hnb:¬(v.ownBlock=some b):=h.ne1;have hc:aA (λk=>k=b) w1 (w1.setCell ⟨b,j,none⟩ u):=(aA.refl (λk=>k=b) w1).setCell (p:=⟨b,j,none⟩) (.inl rfl) _;have hlt:=h.tb.lt;have ho:∀i,i≠j->(w1.setCell ⟨b,j,none⟩ u).cell? ⟨b,i,none⟩=w.cell? ⟨b,i,none⟩:=λi hi=>by
  rw[World.cell?_setCell_other _ _ _ _ (by intro e;injection e;omega),h1.cell (p:=⟨b,i,none⟩) hlt hnb]
 have hs:∀x,w.cell? ⟨b,j,none⟩=some x->(w1.setCell ⟨b,j,none⟩ u).cell? ⟨b,j,none⟩=some u:=λx hx=>World.cell?_setCell_same _ _ _ (by rw[h1.cell (p:=⟨b,j,none⟩) hlt hnb];exact hx)
 have hj9:10<=j:=by omega
 have hne':v'.ownBlock≠some b:=λe=>by
  rcases hv b e with q|q
  ·exact hnb q
  ·omega
 refine⟨⟨by have:=h1.size;simp[World.setCell];omega,by rw[ho 0 (by omega)];exact h.tb.c0,by rw[ho 1 (by omega)];exact h.tb.c1,by rw[ho 2 (by omega)];exact h.tb.c2,by rw[ho 3 (by omega)];exact h.tb.c3,by rw[ho 4 (by omega)];exact h.tb.c4,by rw[ho 5 (by omega)];exact h.tb.c5,by rw[ho 6 (by omega)];exact h.tb.c6,by rw[ho 7 (by omega)];exact h.tb.c7,by rw[ho 8 (by omega)];exact h.tb.c8,by rw[ho 9 (by omega)];exact h.tb.c9⟩,?_,?_,?_,hr.aT hc (λg hg z=>hne' (by rw[hg];exact congrArg some z)),?_,λi=>by rw[World.frozen?_setCell,h1.frozen (p:=⟨b,i,none⟩) hlt hnb];exact h.fr i,h.bB,hne',λz hz=>⟨(h.QC z hz).1,λq=>?_⟩,λz hz=>⟨(h.al z hz).1,by have:=(h.al z hz).2;have:=h1.size;simp[World.setCell];omega⟩⟩
 ·rcases hj with ⟨rfl,rfl,_,_⟩|⟨rfl,_,rfl,_⟩|⟨rfl,_,rfl,_⟩
  ·exact hs _ h.pl
  ·rw[ho 10 (by omega)];exact h.pl
  ·rw[ho 10 (by omega)];exact h.pl
 ·rcases hj with ⟨rfl,_,_,rfl⟩|⟨rfl,_,_,rfl⟩|⟨rfl,rfl,_,_⟩
  ·rw[ho 11 (by omega)];exact h.pe
  ·rw[ho 11 (by omega)];exact h.pe
  ·exact hs _ h.pe
 ·rcases hj with ⟨rfl,_,rfl,_⟩|⟨rfl,rfl,_,_⟩|⟨rfl,_,_,rfl⟩
  ·rw[ho 12 (by omega)];exact h.cn
  ·exact hs _ h.cn
  ·rw[ho 12 (by omega)];exact h.cn
 ·intro k hk;obtain⟨b',o,e1,e2,e3⟩:=h.bo k hk;have hne:=h.QC _ e1;have hne1:b'≠b:=hne.1;exact⟨b',o,e1,by have:=h1.size;simp[World.setCell];omega,by rw[World.cell?_setCell_other _ _ _ _ (by intro e;injection e;omega),h1.cell (p:=⟨b',o+k,none⟩) e2 hne.2];exact e3⟩
 ·rcases hv _ q with y|y
  ·exact(h.QC z hz).2 y
  ·have:=(h.al z hz).2;omega
def iP (b:Nat)(v:Value)(k:Nat):Prop:=k=b\/v.ownBlock=some k
def aV (w w':World)(B b:Nat)(a:Option Addr)(ca:Nat)(v:Value)(c':bJ):Prop:=∃v',Cm w' B b c' a ca v'/\aA (iP b v) w w'/\∀g,v'.ownBlock=some g->v.ownBlock=some g\/w.heap.size<=g
theorem aV.same {w w':World}{B b:Nat}{c:bJ}{a:Option Addr}{ca:Nat}{v:Value}(h:Cm w B b c a ca v)(hb:Below w.heap.size w w'):aV w w' B b a ca v c:=⟨v,h.next hb,aA.of_below hb,λ_ hg=>.inl hg⟩
theorem aV.trans {w w1 w':World}{B b:Nat}{a:Option Addr}{ca:Nat}{v v1:Value}{c':bJ}(c1:aA (iP b v) w w1)(h1:∀g,v1.ownBlock=some g->v.ownBlock=some g\/w.heap.size<=g)(h:aV w1 w' B b a ca v1 c'):aV w w' B b a ca v c':=by
 obtain⟨v',k,c,hg⟩:=h;have s:=c1.size;refine⟨v',k,⟨c.os.trans c1.os,c.tape.trans c1.tape,c.output.trans c1.output,Nat.le_trans c1.size c.size,λi hi hn=>?_⟩,λg e=>?_⟩
 ·rw[c.block i (by omega) (λq=>?_)]
  ·exact c1.block i hi hn
  ·rcases q with q|q
   ·exact hn (.inl q)
   ·rcases h1 i q with z|z
    ·exact hn (.inr z)
    ·omega
 ·rcases hg g e with z|z
  ·exact h1 g z
  ·exact .inr (by omega)
theorem aV.put {w w1:World}{B b:Nat}{c:bJ}{a:Option Addr}{ca:Nat}{v:Value}(h:Cm w B b c a ca v)(h1:aA (λk=>v.ownBlock=some k) w w1){j:Nat}{u v':Value}{pl cn:Int}{pe:List Dv}(hj:j=10/\u=.int .i64 pl/\cn=c.cn/\v'=v\/j=12/\u=.int .i64 cn/\pl=c.pl/\v'=v\/j=11/\u=v'/\pl=c.pl/\cn=c.cn)(hr:eY w1 B v' pe)(hv:∀g,v'.ownBlock=some g->v.ownBlock=some g\/w.heap.size<=g) :
 aV w (w1.setCell ⟨b,j,none⟩ u) B b a ca v ⟨c.t,pl,pe,cn⟩ :=
 ⟨v',h.put h1 hj hr hv,(h1.mono (λ_ _ q=>.inr q)).setCell (.inl (.inl rfl)) _,hv⟩
end Go.Proofs.YtmhbobnfmncdbaaGreatDoor.Dk
namespace Go.Proofs.YtmhbobnfmncdbaaGreatDoor
open Go.RowKit Go.Proofs.Tryz
def QD (t:Tk.bH)(a:Option Addr)(c:Nat):Nat->Value
 | 0=>.string t.n
 | 1=>.string t.f
 | 2=>.int .i64 t.fr
 | 3=>.int .i64 t.st
 | 4=>.int .i64 t.ack
 | 5=>.int .i64 t.wait
 | 6=>.slice a t.bo.length c
 | 7=>.int .i64 t.mo
 | 8=>.int .i64 t.pe
 | _=>.bool t.pu
theorem TB.of {w:World}{b:Nat}{t:Tk.bH}{a:Option Addr}{c:Nat}(hb:b<w.heap.size)(h:∀j,j<10->w.cell? ⟨b,j,none⟩=some (QD t a c j)):TB w b t a c :=
 ⟨hb,h 0 (by omega),h 1 (by omega),h 2 (by omega),h 3 (by omega),h 4 (by omega),h 5 (by omega),h 6 (by omega),h 7 (by omega),h 8 (by omega),h 9 (by omega)⟩
theorem TB.cells {w:World}{b:Nat}{t:Tk.bH}{a:Option Addr}{c:Nat}(h:TB w b t a c):∀j,j<10->w.cell? ⟨b,j,none⟩=some (QD t a c j)
 | 0,_=>h.c0
 | 1,_=>h.c1
 | 2,_=>h.c2
 | 3,_=>h.c3
 | 4,_=>h.c4
 | 5,_=>h.c5
 | 6,_=>h.c6
 | 7,_=>h.c7
 | 8,_=>h.c8
 | 9,_=>h.c9
 | j+10,hj=>absurd hj (by omega)
theorem TB.put {w:World}{b:Nat}{t t':Tk.bH}{a a':Option Addr}{c c':Nat}(h:TB w b t a c)(i:Nat)(hi:i<10)(hn:∀j,j<10->j≠i->QD t' a' c' j=QD t a c j):TB (w.setCell ⟨b,i,none⟩ (QD t' a' c' i)) b t' a' c':=by
 refine TB.of (by simpa[World.setCell] using h.lt) (λj hj=>?_);by_cases e:j=i
 ·subst e;exact World.cell?_setCell_same _ _ _ (h.cells j hj)
 ·rw[World.cell?_setCell_other _ _ _ _ (by intro z;injection z;omega),hn j hj e];exact h.cells j hj
structure pJ (w0 w:World)(b:Nat)(t:Tk.bH)(a:Option Addr)(c:Nat):Prop where
 tb:TB w b t a c
 nums:Dk.Nums w (b+1) (.slice a t.bo.length c) t.bo
 fr:∀i,w.frozen? ⟨b,i,none⟩=false
 low:Below b w0 w
theorem pJ.next {w0 w w':World}{b:Nat}{t:Tk.bH}{a:Option Addr}{c:Nat}(h:pJ w0 w b t a c)(hb:Below w.heap.size w w'):pJ w0 w' b t a c :=
 ⟨h.tb.next hb,h.nums.below hb,λi=>by rw[hb.frozen (p:=⟨b,i,none⟩) h.tb.lt];exact h.fr i,h.low.trans (hb.mono (Nat.le_of_lt h.tb.lt))⟩
theorem low_set {w0 w:World}{b i:Nat}{x:Value}(h:Below b w0 w):Below b w0 (w.setCell ⟨b,i,none⟩ x):=by
 refine h.trans ?_;have:=(Dk.aA.refl (λk=>k=b) w).setCell (p:=⟨b,i,none⟩) (.inl rfl) x;exact⟨this.os,this.tape,this.output,this.size,λk hk=>by
  by_cases hs:k<w.heap.size
  ·exact this.block k hs (by show ¬k=b;omega)
  ·have e:(w.setCell ⟨b,i,none⟩ x).heap.size=w.heap.size:=by simp[World.setCell]
   rw[Array.getElem?_eq_none (by omega),Array.getElem?_eq_none (by omega)]⟩
theorem pJ.put {w0 w:World}{b:Nat}{t:Tk.bH}{a:Option Addr}{c:Nat}(h:pJ w0 w b t a c)(t':Tk.bH)(i:Nat)(hi:i<10)(hn:∀j,j<10->j≠i->QD t' a c j=QD t a c j)(oI:t'.bo=t.bo):pJ w0 (w.setCell ⟨b,i,none⟩ (QD t' a c i)) b t' a c:=by
 refine⟨h.tb.put i hi hn,?_,λj=>by rw[World.frozen?_setCell];exact h.fr j,low_set h.low⟩;rw[oI];exact h.nums.aT ((Dk.aA.refl (λk=>k=b) w).setCell (p:=⟨b,i,none⟩) (.inl rfl) _) (λg hg z=>by have:g=b:=z;omega)
theorem pJ.fr' {w0 w:World}{b:Nat}{t:Tk.bH}{a:Option Addr}{c:Nat}(h:pJ w0 w b t a c)(x:Int):pJ w0 (w.setCell ⟨b,2,none⟩ (.int .i64 x)) b {t with fr:=x} a c:=h.put {t with fr:=x} 2 (by omega) (λj _ hj=>by rcases j with _|_|_|_|_|_|_|_|_|_|j<;>first|rfl|exact absurd rfl hj) rfl
theorem pJ.st' {w0 w:World}{b:Nat}{t:Tk.bH}{a:Option Addr}{c:Nat}(h:pJ w0 w b t a c)(x:Int):pJ w0 (w.setCell ⟨b,3,none⟩ (.int .i64 x)) b {t with st:=x} a c:=h.put {t with st:=x} 3 (by omega) (λj _ hj=>by rcases j with _|_|_|_|_|_|_|_|_|_|j<;>first|rfl|exact absurd rfl hj) rfl
theorem pJ.aaq {w0 w:World}{b:Nat}{t:Tk.bH}{a:Option Addr}{c:Nat}(h:pJ w0 w b t a c)(x:Int):pJ w0 (w.setCell ⟨b,4,none⟩ (.int .i64 x)) b {t with ack:=x} a c:=h.put {t with ack:=x} 4 (by omega) (λj _ hj=>by rcases j with _|_|_|_|_|_|_|_|_|_|j<;>first|rfl|exact absurd rfl hj) rfl
theorem pJ.aal {w0 w:World}{b:Nat}{t:Tk.bH}{a:Option Addr}{c:Nat}(h:pJ w0 w b t a c)(x:Int):pJ w0 (w.setCell ⟨b,5,none⟩ (.int .i64 x)) b {t with wait:=x} a c:=h.put {t with wait:=x} 5 (by omega) (λj _ hj=>by rcases j with _|_|_|_|_|_|_|_|_|_|j<;>first|rfl|exact absurd rfl hj) rfl
theorem pJ.mo' {w0 w:World}{b:Nat}{t:Tk.bH}{a:Option Addr}{c:Nat}(h:pJ w0 w b t a c)(x:Int):pJ w0 (w.setCell ⟨b,7,none⟩ (.int .i64 x)) b {t with mo:=x} a c:=h.put {t with mo:=x} 7 (by omega) (λj _ hj=>by rcases j with _|_|_|_|_|_|_|_|_|_|j<;>first|rfl|exact absurd rfl hj) rfl
theorem pJ.YF {w0 w:World}{b:Nat}{t:Tk.bH}{a:Option Addr}{c:Nat}(h:pJ w0 w b t a c)(x:Int):pJ w0 (w.setCell ⟨b,8,none⟩ (.int .i64 x)) b {t with pe:=x} a c:=h.put {t with pe:=x} 8 (by omega) (λj _ hj=>by rcases j with _|_|_|_|_|_|_|_|_|_|j<;>first|rfl|exact absurd rfl hj) rfl
theorem pJ.pu' {w0 w:World}{b:Nat}{t:Tk.bH}{a:Option Addr}{c:Nat}(h:pJ w0 w b t a c)(x:Bool):pJ w0 (w.setCell ⟨b,9,none⟩ (.bool x)) b {t with pu:=x} a c:=h.put {t with pu:=x} 9 (by omega) (λj hj9 hj=>by rcases j with _|_|_|_|_|_|_|_|_|_|j<;>first|rfl|exact absurd rfl hj|omega) rfl
theorem Jt {w:World}{B B':Nat}{v:Value}{l:List Int}(h:Dk.Nums w B' v l)(hB:B<=B'):Dk.Nums w B v l:=by
 refine⟨h.1,?_⟩;rcases h.2 with h1|⟨g,cap,cur,h1,h2,h3⟩
 ·exact .inl h1
 ·exact .inr ⟨g,cap,cur,h1,Nat.le_trans hB h2,h3⟩
theorem pJ.more {w0 w:World}{b B:Nat}{t:Tk.bH}{a:Option Addr}{c:Nat}(h:pJ w0 w b t a c)(hn:Dk.Nums w B (.slice a t.bo.length c) t.bo)(hbB:b<B)(hB:B<=w.heap.size)(hl:t.bo.length<=200000)(n:Int) :
 ∃a' c' w',(Builtin.append_ #[22,22] 22 #[.slice a t.bo.length c,.slice (some ⟨w.heap.size,0,none⟩) 1 1]).run prog (w.alloc (.cells #[.int .i64 n] 3))=.ok (.slice a' (t.bo.length+1) c') w'/\w'.frozen? ⟨b,6,none⟩=false/\w'.cell? ⟨b,6,none⟩=some (.slice a t.bo.length c)/\b<w'.heap.size/\pJ w0 (w'.setCell ⟨b,6,none⟩ (.slice a' (t.bo.length+1) c')) b {t with bo:=t.bo++[n]} a' c'/\Dk.Nums (w'.setCell ⟨b,6,none⟩ (.slice a' (t.bo.length+1) c')) B (.slice a' (t.bo++[n]).length c') (t.bo++[n])/\Dk.aA (λk=>k=b\/B<=k) w (w'.setCell ⟨b,6,none⟩ (.slice a' (t.bo.length+1) c')):=by
 have b1:Below w.heap.size w (w.alloc (.cells #[.int .i64 n] 3)):=(Below.refl _ _).alloc (Nat.le_refl _) _;have h1:=h.next b1;have hlt:=h1.tb.lt;have n1:=hn.below b1;have hB1:B<=(w.alloc (.cells #[.int .i64 n] 3)).heap.size:=Nat.le_trans hB b1.size;obtain⟨v',w',hr,hN,hC⟩:=Dk.Em (w.alloc (.cells #[.int .i64 n] 3)) B 22 _ t.bo n n1 ⟨w.heap.size,0,none⟩ 1 (World.cell?_alloc_at _ _ _ _ rfl) hl hB1;obtain⟨a',c',rfl,hc',_⟩:=hN.shape;have hlen:(t.bo++[n]).length=t.bo.length+1:=by simp
 rw[hlen] at hr hc';have hob:∀k,(Value.slice a t.bo.length c).ownBlock=some k->B<=k:=λk z=>(World.ownsRow.lt n1 k z).1
 have hnb:¬(Value.slice a t.bo.length c).ownBlock=some b:=λz=>by
  have:=hob b z;omega
 have tb':TB w' b t a c:=h1.tb.same hC.size (λj=>hC.cell (p:=⟨b,j,none⟩) hlt hnb);have fr':∀i,w'.frozen? ⟨b,i,none⟩=false:=λi=>by rw[hC.frozen (p:=⟨b,i,none⟩) hlt hnb];exact h1.fr i
 have YG:Below b w0 w':=h1.low.trans (hC.below (Nat.le_of_lt hlt) (λk hk z=>by
  have:=hob k z;omega))
 have YH:Dk.Nums (w'.setCell ⟨b,6,none⟩ (.slice a' (t.bo.length+1) c')) B (.slice a' (t.bo++[n]).length c') (t.bo++[n]):=hN.aT ((Dk.aA.refl (λk=>k=b) w').setCell (p:=⟨b,6,none⟩) (.inl rfl) _) (λg hg z=>by have:g=b:=z;omega);refine⟨a',c',w',hr,fr' 6,tb'.c6,tb'.lt,⟨?_,Jt YH hbB,λj=>by rw[World.frozen?_setCell];exact fr' j,low_set YG⟩,YH,?_⟩
 ·have:=tb'.put (t':={t with bo:=t.bo++[n]}) (a':=a') (c':=c') 6 (by omega) (λj _ hj=>by rcases j with _|_|_|_|_|_|_|_|_|_|j<;>first|rfl|exact absurd rfl hj);rw[show QD {t with bo:=t.bo++[n]} a' c' 6=.slice a' (t.bo.length+1) c' by show Value.slice a' (t.bo++[n]).length c'=_;rw[hlen]] at this;exact this
 ·refine Dk.aA.trans (Dk.aA.of_below b1) (Dk.aA.trans ?_ ((Dk.aA.refl (λk=>k=b\/B<=k) w').setCell (p:=⟨b,6,none⟩) (.inl (.inl rfl)) _));exact⟨hC.os,hC.tape,hC.output,hC.size,λk hk hn'=>hC.block k hk (λz=>hn' (.inr (hob k z)))⟩
theorem H6 {w:World}{b:Nat}{t:Tk.bH}{a:Option Addr}{c:Nat}(r:TB w b t a c) :
 (loadVar 24 ⟨b,0,none⟩).run prog w=.ok (lU t a c) w:=by
 have hl:(loadCells ⟨b,0,none⟩ 10).run prog w=.ok #[.string t.n,.string t.f,.int .i64 t.fr,.int .i64 t.st,.int .i64 t.ack,.int .i64 t.wait,.slice a t.bo.length c,.int .i64 t.mo,.int .i64 t.pe,.bool t.pu] w :=
  run_loadCells_list (P:=prog) w ⟨b,0,none⟩ [.string t.n,.string t.f,.int .i64 t.fr,.int .i64 t.st,.int .i64 t.ack,.int .i64 t.wait,.slice a t.bo.length c,.int .i64 t.mo,.int .i64 t.pe,.bool t.pu] (λj v hv=>by
   rw[Tj,Nat.zero_add];match j,hv with
   | 0,hv=>rw[r.c0];simpa using hv
   | 1,hv=>rw[r.c1];simpa using hv
   | 2,hv=>rw[r.c2];simpa using hv
   | 3,hv=>rw[r.c3];simpa using hv
   | 4,hv=>rw[r.c4];simpa using hv
   | 5,hv=>rw[r.c5];simpa using hv
   | 6,hv=>rw[r.c6];simpa using hv
   | 7,hv=>rw[r.c7];simpa using hv
   | 8,hv=>rw[r.c8];simpa using hv
   | 9,hv=>rw[r.c9];simpa using hv)
 have hz:Tryz.t24.size=10:=by kernel_rfl
 simp[loadVar,isAgg,sizeOf];rw[hz,hl];rfl
theorem SI {fn:Func}{p u:Tmp}{tmps:Array Value}{w:World}{b:Nat}{t:Tk.bH}{a:Option Addr}{c:Nat}(hf:fn.results=#[.cell p 24,.tmp u])(ha:tmps.getD p undef=.pointer (some ⟨b,0,none⟩))(r:TB w b t a c) :
 (results fn tmps).run prog w=.ok (.tuple #[lU t a c,tmps.getD u undef]) w:=by
 have ha':tmps[p]?.getD undef=.pointer (some ⟨b,0,none⟩):=by simpa using ha
 simp[results,hf,ha',asAddr,H6 r]
theorem TB.puts {W:World}{b:Nat}{t':Tk.bH}{a':Option Addr}{c':Nat}(h:TB W b t' a' c')(t:Tk.bH)(a:Option Addr)(c:Nat):TB (Go.Proofs.YtmhbobnfmncdbaaGreatDoor.puts W b 0 [.string t.n,.string t.f,.int .i64 t.fr,.int .i64 t.st,.int .i64 t.ack,.int .i64 t.wait,.slice a t.bo.length c,.int .i64 t.mo,.int .i64 t.pe,.bool t.pu]) b t a c:=by
 have key:=(xU b [.string t.n,.string t.f,.int .i64 t.fr,.int .i64 t.st,.int .i64 t.ack,.int .i64 t.wait,.slice a t.bo.length c,.int .i64 t.mo,.int .i64 t.pe,.bool t.pu] W 0 (λj hj=>by
  have:j<10:=hj;rw[Nat.zero_add,h.cells j this];rfl)).1
 have hsz:=rC b [.string t.n,.string t.f,.int .i64 t.fr,.int .i64 t.st,.int .i64 t.ack,.int .i64 t.wait,.slice a t.bo.length c,.int .i64 t.mo,.int .i64 t.pe,.bool t.pu] W 0;exact⟨Nat.lt_of_lt_of_eq h.lt hsz.symm,key 0 (by simp),key 1 (by simp),key 2 (by simp),key 3 (by simp),key 4 (by simp),key 5 (by simp),key 6 (by simp),key 7 (by simp),key 8 (by simp),key 9 (by simp)⟩
theorem Ac (b:Nat):∀(vs:List Value) (W:World) (o:Nat) (p:Addr),(Go.Proofs.YtmhbobnfmncdbaaGreatDoor.puts W b o vs).frozen? p=W.frozen? p
 | [],_,_,_=>rfl
 | _::vs,_,o,p=>by
  show(Go.Proofs.YtmhbobnfmncdbaaGreatDoor.puts _ b (o+1) vs).frozen? p=_;rw[Ac b vs,World.frozen?_setCell]
theorem VA {b:Nat}{a:Option Addr}{l:List Int}(hn:∀z,a=some z->z.block≠b)(vs:List Value)(W:World)(o:Nat)(h:Dk.lF W a l):Dk.lF (Go.Proofs.YtmhbobnfmncdbaaGreatDoor.puts W b o vs) a l:=λk hk=>by
 obtain⟨b',o',h1,h2,h3⟩:=h k hk;exact⟨b',o',h1,by rw[rC];exact h2,by rw[uV (hn _ h1)];exact h3⟩
def Zb (w:World)(b:Nat):Prop:=TB w b Tk.jY none 0/\∀j,w.frozen? ⟨b,j,none⟩=false
abbrev YI:Obj:=.cells #[.string ⟨#[]⟩,.string ⟨#[]⟩,.int .i64 0,.int .i64 0,.int .i64 0,.int .i64 0,.slice none 0 0,.int .i64 0,.int .i64 0,.bool false] 24
theorem Zb.new (w:World):Zb (w.alloc YI) w.heap.size:=⟨TB.new w Tk.jY none 0,λj=>World.frozen?_alloc_new _ _ _ j⟩
theorem Zb.next {w w':World}{b:Nat}(h:Zb w b)(hb:Below w.heap.size w w'):Zb w' b:=⟨h.1.next hb,λj=>by rw[hb.frozen (p:=⟨b,j,none⟩) h.1.lt];exact h.2 j⟩
theorem Zb.after {w w':World}{b:Nat}{B:Nat}(h:Zb w b)(hb:Below B w w')(hB:b<B):Zb w' b:=⟨h.1.same hb.size (λj=>hb.cell (p:=⟨b,j,none⟩) hB),λj=>by rw[hb.frozen (p:=⟨b,j,none⟩) hB];exact h.2 j⟩
end Go.Proofs.YtmhbobnfmncdbaaGreatDoor
namespace Go.Proofs.YtmhbobnfmncdbaaGreatDoor.Dk
open Go.RowKit Go.Proofs.Tryz
theorem vP (n:Int)(w:World):Calls prog 56 #[.int .i64 n] w λe w'=>e=.returned (.bool (iI n))/\w'=w:=by
 by_cases h0:0<=n
 ·have g0:decide ((0:Int)<=n)=true:=decide_eq_true h0;have HV:Hid (iI n=decide (n<=1099511627776)):=aj (by unfold iI;rw[g0,Bool.true_and]);go_enter func56,ntmps56;go_wp2_with fail;go_ret;rw[ah HV];exact⟨rfl,rfl⟩
 ·have g0:decide ((0:Int)<=n)=false:=decide_eq_false h0;have HV:Hid (iI n=false):=aj (by unfold iI;rw[g0,Bool.false_and]);go_enter func56,ntmps56;go_wp2_with fail;go_ret;rw[ah HV];exact⟨rfl,rfl⟩
abbrev Nb (so n:Int):Obj:=.cells #[.int .i64 so,.int .i64 n] 43
theorem Ad (so n:Int)(w:World):Calls prog 63 #[.agg #[.int .i64 so,.int .i64 n]] w λe w'=>e=.returned (.bool (jW so n))/\Below w.heap.size w w':=by
 have B0:=aj (show Below w.heap.size w (w.alloc (Nb so n)) from(Below.refl _ _).alloc (Nat.le_refl _) _);by_cases h2:so=2
 ·subst h2;by_cases h0:0<=n
  ·have g0:decide ((0:Int)<=n)=true:=decide_eq_true h0;have HV:Hid (jW 2 n=decide (n<=100000)):=aj (by unfold jW;rw[if_pos rfl,g0,Bool.true_and]);go_enter func63,ntmps63;go_wp2_with fail;go_ret;rw[ah HV];exact⟨rfl,ah B0⟩
  ·have g0:decide ((0:Int)<=n)=false:=decide_eq_false h0;have HV:Hid (jW 2 n=false):=aj (by unfold jW;rw[if_pos rfl,g0,Bool.false_and]);go_enter func63,ntmps63;go_wp2_with fail;go_ret;rw[ah HV];exact⟨rfl,ah B0⟩
 ·have e2:(so==2)=false:=by rw[beq_eq_false_iff_ne];exact h2
  by_cases h3:so=1\/so=3\/so=4
  ·have HV:Hid (jW so n=(n==0)):=aj (by
    have hd:decide (n=0)=(n==0):=by rw[Bool.eq_iff_iff];simp
    unfold jW;rw[if_neg h2,hd];rcases h3 with rfl|rfl|rfl<;>rfl)
   rcases h3 with rfl|rfl|rfl;all_goals
    go_enter func63,ntmps63
    go_wp2_with fail
    go_ret
    rw[ah HV]
    exact⟨rfl,ah B0⟩
  ·have HV:Hid (jW so n=false):=aj (by
    unfold jW;rw[if_neg h2,decide_eq_false (by omega),decide_eq_false (by omega),decide_eq_false (by omega)];rfl)
   have e1:(so==1)=false:=by rw[beq_eq_false_iff_ne];omega
   have e3:(so==3)=false:=by rw[beq_eq_false_iff_ne];omega
   have e4:(so==4)=false:=by rw[beq_eq_false_iff_ne];omega
   clear h3 h2;go_enter func63,ntmps63;go_wp2_with fail;go_ret;rw[ah HV];exact⟨rfl,ah B0⟩
section
variable {w:World}{B b:Nat}{c:bJ}{a:Option Addr}{ca:Nat}{v:Value}
theorem rQ (h:Cm w B b c a ca v)(hw:eU c.t)(hf:c.t.bo.length<=140737488355328)(n now:Int)(ht:0<=now/\now<=1099511627776) :
 Calls prog 66 #[.pointer (some ⟨b,0,none⟩),.int .i64 n,.int .i64 now] w λe w'=>e=.returned (.int .i64 (now+Tk.aZ c.t n))/\Below w.heap.size w w':=by
 have PW:=aj (Ls c.t a ca n w h.bo hf);have hb:=nV hw.w hw.b n;obtain⟨_,y0,y1,y2,y3,y4,y5,y6,y7,y8,y9⟩:=h.tb;obtain⟨X,hX⟩:∃X,Tk.aZ c.t n=X:=⟨_,rfl⟩;rw[hX] at PW hb;rw[hX];clear hX h hw hf;go_enter func66,ntmps66;go_wp2_with fail;refine(ah PW).mono ?_;rintro e w1 ⟨rfl,b1⟩;have B1:=aj b1;clear PW b1;go_wp2_with fail;go_ret;exact⟨by go_num,ah B1⟩
theorem Dc (h:Cm w B b c a ca v)(p:Dv) :
 Calls prog 100 #[.pointer (some ⟨b,0,none⟩),.agg #[.int .i64 p.q,.int .i64 p.n,.int .i64 p.d]] w λe w'=>e=.returned (.bool (iq c.t p))/\Below w.heap.size w w':=by
 have b0:Below w.heap.size w (w.alloc (.cells #[.int .i64 p.q,.int .i64 p.n,.int .i64 p.d] 124)):=(Below.refl _ _).alloc (Nat.le_refl _) _;have y7:=(h.next b0).tb.c7;have hbl:=h.tb.lt;have HB:=aj (λn=>below_drewN b0 n);obtain⟨M,hM⟩:∃M,c.t.mo=M:=⟨_,rfl⟩;rw[hM] at y7;by_cases h0:M=0
 ·have g0:(M !=0)=false:=by rw[h0];rfl
  have HV:Hid (iq c.t p=false):=aj (by unfold iq;rw[hM,h0];rfl);clear h b0 hM h0;go_enter func100,ntmps100;go_wp2_with fail;go_quiet (fail)
  go_wp2_with fail;go_ret;rw[ah HV];exact⟨rfl,ah HB _⟩
 ·have g0:(M !=0)=true:=by simpa using h0
  have HV:Hid (iq c.t p=decide (M<=p.n)):=aj (by unfold iq;rw[hM,decide_eq_true h0,Bool.true_and]);clear h b0 hM h0;go_enter func100,ntmps100;go_wp2_with fail;go_quiet (fail)
  go_wp2_with fail;go_ret;rw[ah HV];exact⟨rfl,ah HB _⟩
end
def rU (l:List Dv)(k:Nat):Int:=(l.take k).foldl (λm x=>min m x.d) (dv l 0).d
theorem kC {l:List Dv}{k:Nat}(h:k<l.length):dv l k=l[k]:=by unfold dv;rw[List.getElem?_eq_getElem h];rfl
theorem yG {l:List Dv}{k:Nat}(h:k<l.length):rU l (k+1)=min (rU l k) (dv l k).d:=by
 unfold rU;rw[List.take_succ_eq_append_getElem h,List.foldl_append,kC h];rfl
theorem Nc {l:List Dv}(h:l≠[]):rU l l.length=Jk l:=by
 cases l with
 | nil=>exact absurd rfl h
 | cons p ps =>
  unfold rU Jk;rw[List.take_length,List.foldl_cons];show ps.foldl _ (min p.d p.d)=_;rw[Int.min_self]
theorem QE {l:List Dv}(hd:∀p∈l,0<=p.d/\p.d<=1099511727776)(h0:0<l.length):∀{k:Nat},k<=l.length->0<=rU l k/\rU l k<=1099511727776
 | 0,_=>by
  have:=hd (dv l 0) (by rw[kC h0];exact List.getElem_mem _);exact this
 | k+1,hk=>by
  have h1:=QE hd h0 (k:=k) (by omega);have h2:=hd (dv l k) (by rw[kC (show k<l.length by omega)];exact List.getElem_mem _);rw[yG (by omega)];omega
section
variable {w:World}{B b:Nat}{c:bJ}{a:Option Addr}{ca:Nat}{v:Value}
theorem QF (h:Cm w B b c a ca v)(hl:c.pe.length<=1000000) :
 Calls prog 19 #[.pointer (some ⟨b,0,none⟩)] w λe w'=>e=.returned (.int .i64 (Jk c.pe))/\Below w.heap.size w w':=by
 obtain⟨s,cap,rfl,hcap,hcm,hsl⟩:=h.row.shape;have c11:=h.pe;have H:=aj h;have HS:=aj hsl;have hbl:=h.tb.lt;clear hsl;by_cases h0:c.pe.length=0
 ·have g0:((c.pe.length:Int)==0)=true:=by rw[h0];rfl
  have HV:Hid (Jk c.pe=-1):=aj (by rw[List.length_eq_zero_iff.1 h0];rfl);obtain⟨N,hN⟩:∃N,N=c.pe.length:=⟨_,rfl⟩;rw[<-hN] at c11 g0;clear h h0 hN H HS;go_enter func19,ntmps19;go_wp2_with fail;go_ret;rw[ah HV];exact⟨rfl,Below.refl _ _⟩
 ·have hpos:0<c.pe.length:=by omega
  obtain⟨g,rfl,t0⟩:=ah HS 0 hpos;have HK:Hid (∀(wr:World),Below w.heap.size w wr->∀k,k<c.pe.length->Thr wr g (k*3) (dv c.pe k)):=aj (λwr hb k hk=>by
   obtain⟨_,e0,t⟩:=ah HS k hk
   cases e0
   exact⟨Nat.lt_of_lt_of_le t.lt hb.size,by rw[hb.cell (p:=⟨g,k*3,none⟩) t.lt];exact t.c0,by rw[hb.cell (p:=⟨g,k*3+1,none⟩) t.lt];exact t.c1,by rw[hb.cell (p:=⟨g,k*3+2,none⟩) t.lt];exact t.c2⟩)
  have HV:Hid (rU c.pe c.pe.length=Jk c.pe):=aj (Nc (λz=>h0 (by rw[z];rfl)));have e2:w.cell? ⟨g,2,none⟩=some (.int .i64 (dv c.pe 0).d):=by have:=t0.c2;rwa [show 0*3+2=2 by omega] at this
  have HM:Hid (∀k,k<c.pe.length->rU c.pe (k+1)=min (rU c.pe k) (dv c.pe k).d):=aj (λk hk=>yG hk);have hM0:(dv c.pe 0).d=rU c.pe 0:=rfl;rw[hM0] at e2;obtain⟨N,hN⟩:∃N,c.pe.length=N:=⟨_,rfl⟩;obtain⟨l,hll⟩:∃l,c.pe=l:=⟨_,rfl⟩;rw[hN] at c11 hpos HK HM HV;rw[hll] at HK HM HV e2;rw[hll];have g0:((N:Int)==0)=false:=by rw[beq_eq_false_iff_ne];omega
  have hN1:N<=1000000:=by omega
  clear h0 HS t0 hM0 hN hll h H hl hcap;go_enter func19,ntmps19;go_wp2_with fail;go_loopw [3,24] (λmv kv wr=>∃k:Nat,mv=.int .i64 (rU l k)/\kv=.int .i64 k/\k<=N/\Hid (Below w.heap.size w wr)) (λ_ kv _=>N-(intOf kv).toNat)
  case atStart=>exact⟨0,rfl,rfl,Nat.zero_le _,aj (Below.refl _ _)⟩
  case round =>
   obtain⟨k,rfl,rfl,hk,BW⟩:=hrel;by_cases hlt:k<N
   ·obtain⟨gl,k0,k1,k2⟩:=ah HK wr (ah BW) k hlt;have BW2:=aj (ay (ah BW) ((Below.refl wr.heap.size wr).alloc (Nat.le_refl _) (.cells #[.int .i64 (dv l k).q,.int .i64 (dv l k).n,.int .i64 (dv l k).d] 124)));have WR:=aj (ah HM k hlt);obtain⟨X,hX⟩:∃X,rU l k=X:=⟨_,rfl⟩;obtain⟨Y,hY⟩:∃Y,(dv l k).d=Y:=⟨_,rfl⟩;obtain⟨Q,hQ⟩:∃Q,(dv l k).q=Q:=⟨_,rfl⟩;obtain⟨M,hM⟩:∃M,(dv l k).n=M:=⟨_,rfl⟩;rw[hX,hY] at WR;rw[hQ,hM,hY] at BW2;rw[hQ] at k0;rw[hM] at k1;rw[hY] at k2;rw[hX];clear hX hY hQ hM;go_wp2_with fail;refine⟨⟨k+1,by rw[ah WR],by go_num,by omega,BW2⟩,?_⟩;simp[intOf];omega
   ·obtain rfl:k=N:=by omega
    go_wp2_with fail;go_ret;rw[<-ah HV];exact⟨rfl,ah BW⟩
end
end Go.Proofs.YtmhbobnfmncdbaaGreatDoor.Dk
namespace Go.Proofs.YtmhbobnfmncdbaaGreatDoor
open Go.RowKit Go.Proofs.Tryz
theorem Ju (s:ByteArray)(k:Nat)(h:k<s.size):s.data.toList.take (k+1)=s.data.toList.take k++[s[k]]:=by
 rw[List.take_succ_eq_append_getElem (by simpa using h)];rfl
def kZ (s:ByteArray)(k:Nat):Bool:=(s.data.toList.take k).all Pn.nameB
theorem Ae {s:ByteArray}{k:Nat}(h:k<s.size):kZ s (k+1)=(kZ s k&&Pn.nameB s[k]):=by
 unfold kZ;rw[Ju s k h,List.all_append];simp
theorem Jv {s:ByteArray}{k:Nat}(h:k<s.size)(hb:Pn.nameB s[k]=false):Pn.bQ s=false:=by
 unfold Pn.bQ;have:s.data.toList.all Pn.nameB=false:=by
  rw[List.all_eq_false];exact⟨s[k],by
   have:s.data.toList[k]'(by simpa using h)∈s.data.toList:=List.getElem_mem _;exact this,by simp[hb]⟩
 rw[this];rfl
theorem named_ok {s:ByteArray}(h:kZ s s.size=true):Pn.bQ s=(decide (1<=s.size)&&decide (s.size<=16)):=by
 unfold kZ at h;rw[List.take_of_length_le (by simp)] at h;unfold Pn.bQ;rw[h,Bool.true_and]
def ER (c:Int):Bool:=decide (48<=c)&&decide (c<=57)
def Df (c:Int):Bool:=(decide (97<=c)&&decide (c<=122))||(ER c||decide (c=45))
theorem VB (c:UInt8):ER (c.toNat:Int)=Pn.fD c:=by
 unfold ER Pn.fD;rw[Bool.eq_iff_iff];simp;omega
theorem vS (c:UInt8):Df (c.toNat:Int)=Pn.nameB c:=by
 unfold Df Pn.nameB ER;rw[Bool.eq_iff_iff];simp;omega
theorem Jw (c:Int)(w:World) :
 Calls prog 157 #[.int .u8 c] w λe w'=>e=.returned (.bool (ER c))/\w'=w:=by
 go_enter func157,ntmps157;go_wp2;all_goals go_ret
 all_goals refine⟨jf ?_,rfl⟩
 all_goals simp[ER]
 all_goals omega
theorem qN (c:Int)(w:World) :
 Calls prog 133 #[.int .u8 c] w λe w'=>e=.returned (.bool (Df c))/\w'=w:=by
 have HD:=aj (Jw c);go_enter func133,ntmps133;go_wp2_with (go_at_call 157;refine(ah HD _).mono ?_;rintro e w' ⟨rfl,rfl⟩);all_goals go_ret
 all_goals refine⟨jf ?_,rfl⟩
 all_goals simp_all [Df,ER]
 all_goals omega
theorem vT {s:ByteArray}(h:s.size<1\/16<s.size):Pn.bQ s=false:=by
 unfold Pn.bQ;rcases h with h|h
 ·rw[decide_eq_false (p:=1<=s.size) (by omega)];simp
 ·rw[decide_eq_false (p:=s.size<=16) (by omega)];simp
theorem Nh {s:ByteArray}(h1:1<=s.size)(h2:s.size<=16)(h:kZ s s.size=true):Pn.bQ s=true:=by
 rw[named_ok h];simp;omega
theorem ES (s:ByteArray)(w:World)(hs:s.size<=140737488355328) :
 Calls prog 93 #[.string s] w λe w'=>e=.returned (.bool (Pn.bQ s))/\w'=w:=by
 by_cases h1:s.size<1
 ·go_enter func93,ntmps93;go_wp2;go_ret;exact⟨iK (vT (Or.inl h1)),rfl⟩
 by_cases h2:16<s.size
 ·go_enter func93,ntmps93;go_wp2;go_ret;exact⟨iK (vT (Or.inr h2)),rfl⟩
 go_enter func93,ntmps93;go_wp2;go_loop [14] (λi=>∃k:Nat,k<=s.size/\i=.int .i64 k/\Hid (kZ s k=true)) (λi=>s.size-(intOf i).toNat)
 case atStart=>exact⟨0,Nat.zero_le _,rfl,aj rfl⟩
 case round =>
  obtain⟨k,hk,rfl,hq⟩:=hrel;by_cases hlt:k<s.size
  ·cases ht:Df (s[k].toNat:Int) with
   | false =>
    have Ht:=aj ht;clear ht;go_wp2_with (go_at_call 133;refine(qN _ _).mono ?_;rintro e w' ⟨rfl,rfl⟩;rw[ah Ht]);go_ret;exact⟨iK (Jv hlt (by rw[<-vS];exact ah Ht)),rfl⟩
   | true =>
    have Ht:=aj ht;clear ht;go_wp2_with (go_at_call 133;refine(qN _ _).mono ?_;rintro e w' ⟨rfl,rfl⟩;rw[ah Ht]);go_round
    case rel=>exact⟨k+1,by omega,by go_num,aj (by rw[Ae hlt,ah hq,<-vS,ah Ht];rfl)⟩
    case measure=>simp[intOf];omega
  ·obtain rfl:k=s.size:=by omega
   go_wp2;go_ret;exact⟨iK (Nh (by omega) (by omega) (ah hq)),rfl⟩
theorem dK (n lo hi:Int)(w:World) :
 Calls prog 134 #[.int .i64 n,.int .i64 lo,.int .i64 hi] w λe w'=>e=.returned (.bool (Tk.inB n lo hi))/\w'=w:=by
 unfold Tk.inB;by_cases h1:lo<=n
 ·have e1:decide (lo<=n)=true:=decide_eq_true h1;rw[e1,Bool.true_and];clear h1;go_enter func134,ntmps134;go_wp2;go_ret;exact⟨rfl,rfl⟩
 ·have e1:decide (lo<=n)=false:=decide_eq_false h1;rw[e1,Bool.false_and];clear h1;go_enter func134,ntmps134;go_wp2;go_ret;exact⟨rfl,rfl⟩
section
variable {t:Tk.bH}{a:Option Addr}{c:Nat}{w:World}
theorem QG:Below w.heap.size w (w.alloc (oh t a c)):=(Below.refl _ _).alloc (Nat.le_refl _) _
theorem Jy (t:Tk.bH)(a:Option Addr)(c:Nat)(w:World) :
 Calls prog 94 #[lU t a c] w λe w'=>e=.returned (.bool (Tk.jM t))/\Below w.heap.size w w':=by
 have B0:=aj (QG (t:=t) (a:=a) (c:=c) (w:=w));obtain⟨_,c0,c1,c2,c3,c4,c5,c6,c7,c8,c9⟩:=TB.new w t a c;unfold Tk.jM;by_cases h3:t.fr=3
 ·rw[if_pos h3];have e3:(t.fr==3)=true:=by simpa using h3
  obtain⟨R,hR⟩:∃R,Tk.inB t.st 1 999999999=R:=⟨_,rfl⟩;have HR:=aj hR;rw[hR];clear h3 hR;go_enter func94,ntmps94;go_wp2_with (go_at_call 134;refine(dK _ _ _ _).mono ?_;rintro e w2 ⟨rfl,rfl⟩;rw[ah HR]);go_ret;exact⟨rfl,ah B0⟩
 ·rw[if_neg h3];have e3:(t.fr==3)=false:=by simpa using h3
  cases hR:Tk.inB t.fr 0 2 with
  | false =>
   have HR:=aj hR;rw[Bool.false_and];clear h3 hR;go_enter func94,ntmps94;go_wp2_with (go_at_call 134;refine(dK _ _ _ _).mono ?_;rintro e w2 ⟨rfl,rfl⟩;rw[ah HR]);go_ret;exact⟨rfl,ah B0⟩
  | true =>
   have HR:=aj hR;rw[Bool.true_and];clear h3 hR;go_enter func94,ntmps94;go_wp2_with (go_at_call 134;refine(dK _ _ _ _).mono ?_;rintro e w2 ⟨rfl,rfl⟩;rw[ah HR]);go_ret;refine⟨?_,ah B0⟩;first|rfl|simp[beq_eq_decide]
theorem Jz (t:Tk.bH)(a:Option Addr)(c:Nat)(w:World)(hsl:Dk.lF w a t.bo)(hl:t.bo.length<=140737488355328) :
 Calls prog 135 #[lU t a c] w λe w'=>e=.returned (.bool (Tk.kY t))/\Below w.heap.size w w':=by
 have B0:=aj (QG (t:=t) (a:=a) (c:=c) (w:=w));have HS:=aj (dG hsl (ah B0));have HT:=aj (TB.new w t a c);obtain⟨_,c0,c1,c2,c3,c4,c5,c6,c7,c8,c9⟩:=TB.new w t a c;clear hsl;obtain⟨b,hb⟩:∃b,b=w.heap.size:=⟨_,rfl⟩;obtain⟨W,hW⟩:∃W,W=w.alloc (oh t a c):=⟨_,rfl⟩;go_enter func135,ntmps135;go_wp2_with fail;rw[<-hb,<-hW] at HT;rw[<-hW] at HS B0;rw[<-hb,<-hW];clear hb hW c0 c1 c2 c3 c4 c5 c6 c7 c8 c9;go_loop [8] (λiv=>∃i:Nat,iv=.int .i64 i/\i<=t.bo.length/\Hid (∀k,k<i->Tk.inB (Dk.nth t.bo k) 1 100000=true)) (λiv=>t.bo.length-(intOf iv).toNat)
 case atStart=>exact⟨0,rfl,Nat.zero_le _,aj (λk hk=>absurd hk (Nat.not_lt_zero k))⟩
 case round =>
  obtain⟨i,rfl,hi,hq⟩:=hrel;by_cases hlt:i<t.bo.length
  ·obtain⟨g,o,rfl,_,e1⟩:=ah HS i hlt;have hm:Dk.nth t.bo i∈t.bo:=by unfold Dk.nth;rw[List.getElem?_eq_getElem hlt];exact List.getElem_mem hlt
   have HM:=aj hm;obtain⟨x,hx⟩:∃x,x=Dk.nth t.bo i:=⟨_,rfl⟩;rw[<-hx] at e1 HM;have HX:=aj hx;clear hx hm
   cases hR:Tk.inB x 1 100000 with
   | false =>
    have HR:=aj hR;have HE:Hid (Tk.kY t=false):=aj (by
     unfold Tk.kY;have:t.bo.all (λn=>Tk.inB n 1 100000)=false:=by
      rw[List.all_eq_false];exact⟨x,ah HM,by rw[hR];decide⟩
     rw[this];rfl)
    clear hR;go_wp2_with (go_at_call 134;refine(dK _ _ _ _).mono ?_;rintro e w2 ⟨rfl,rfl⟩;rw[ah HR]);go_ret;exact⟨by rw[ah HE];rfl,ah B0⟩
   | true =>
    have HR:=aj hR;clear hR;go_wp2_with (go_at_call 134;refine(dK _ _ _ _).mono ?_;rintro e w2 ⟨rfl,rfl⟩;rw[ah HR]);go_round
    case rel=>exact⟨i+1,by go_num,by omega,aj (λk hk=>by
     rcases Nat.lt_succ_iff_lt_or_eq.1 hk with q|q
     ·exact ah hq k q
     ·rw[q,<-ah HX];exact ah HR)⟩
    case measure=>simp[intOf];omega
  ·obtain rfl:i=t.bo.length:=by omega
   have HE:Hid (Tk.kY t=Tk.inB t.wait 1 100000):=aj (by
    unfold Tk.kY;have:t.bo.all (λn=>Tk.inB n 1 100000)=true:=by
     rw[List.all_eq_true];intro x hx;obtain⟨k,hk,rfl⟩:=List.mem_iff_getElem.1 hx;have:=ah hq k hk;unfold Dk.nth at this;rw[List.getElem?_eq_getElem hk] at this;exact this
    rw[this];rfl)
   obtain⟨R,hR⟩:∃R,Tk.inB t.wait 1 100000=R:=⟨_,rfl⟩;have HR:=aj hR;rw[hR] at HE;have c5:=(ah HT).c5;have hbl:=(ah HT).lt;clear hR hq HS HT;go_wp2_with (go_at_call 134;refine(dK _ _ _ _).mono ?_;rintro e w2 ⟨rfl,rfl⟩;rw[ah HR]);go_ret;exact⟨by rw[ah HE];rfl,ah B0⟩
end
theorem QH (t:Tk.bH)(a:Option Addr)(c:Nat)(w:World)(hsl:Dk.lF w a t.bo)(hl:t.bo.length<=140737488355328) :
 Calls prog 95 #[lU t a c] w λe w'=>e=.returned (.bool (Tk.tN t))/\Below w.heap.size w w':=by
 have B0:=aj (QG (t:=t) (a:=a) (c:=c) (w:=w));have HT:=aj (TB.new w t a c);obtain⟨_,c0,c1,c2,c3,c4,c5,c6,c7,c8,c9⟩:=TB.new w t a c;unfold Tk.tN;by_cases h0:t.ack=0
 ·rw[if_pos h0];have e0:(t.ack==0)=true:=by simpa using h0
  clear h0 hsl;by_cases w0:t.wait=0
  ·rw[decide_eq_true w0];have e5:(t.wait==0)=true:=by simpa using w0
   clear w0;by_cases m0:t.mo=0
   ·rw[decide_eq_true m0];have e7:(t.mo==0)=true:=by simpa using m0
    clear m0;by_cases p0:t.pe=0
    ·rw[decide_eq_true p0];have e8:(t.pe==0)=true:=by simpa using p0
     clear p0;by_cases l0:t.bo.length=0
     ·rw[decide_eq_true l0];have e6:((t.bo.length:Int)==0)=true:=by rw[beq_iff_eq];omega
      clear l0;go_enter func95,ntmps95;go_wp2_with fail;go_ret;refine⟨?_,ah B0⟩;first|rfl|simp
     ·rw[decide_eq_false l0];have e6:((t.bo.length:Int)==0)=false:=by rw[beq_eq_false_iff_ne];omega
      clear l0;go_enter func95,ntmps95;go_wp2_with fail;go_ret;refine⟨?_,ah B0⟩;first|rfl|simp
    ·rw[decide_eq_false p0];have e8:(t.pe==0)=false:=by simpa using p0
     clear p0;go_enter func95,ntmps95;go_wp2_with fail;go_ret;refine⟨?_,ah B0⟩;first|rfl|simp
   ·rw[decide_eq_false m0];have e7:(t.mo==0)=false:=by simpa using m0
    clear m0;go_enter func95,ntmps95;go_wp2_with fail;go_ret;refine⟨?_,ah B0⟩;first|rfl|simp
  ·rw[decide_eq_false w0];have e5:(t.wait==0)=false:=by simpa using w0
   clear w0;go_enter func95,ntmps95;go_wp2_with fail;go_ret;refine⟨?_,ah B0⟩;first|rfl|simp
 ·rw[if_neg h0];have e0:(t.ack==0)=false:=by simpa using h0
  by_cases h1:t.ack=1\/t.ack=2
  ·rw[if_pos h1];have PW:=aj (Jz t a c (w.alloc (oh t a c)) (dG hsl (ah B0)) hl);obtain⟨A,hA⟩:∃A,Tk.kY t=A:=⟨_,rfl⟩;rw[hA] at PW ⊢;obtain⟨M,hM⟩:∃M,Tk.inB t.mo 0 20=M:=⟨_,rfl⟩;obtain⟨Q,hQ⟩:∃Q,Tk.inB t.pe 0 50=Q:=⟨_,rfl⟩;have HM:=aj hM;have HQ:=aj hQ;rw[hM,hQ];have HC:=aj (λ(W:World) (hW:Below (w.alloc (oh t a c)).heap.size (w.alloc (oh t a c)) W)=>show W.cell? ⟨w.heap.size,7,none⟩=some (.int .i64 t.mo)/\W.cell? ⟨w.heap.size,8,none⟩=some (.int .i64 t.pe)/\w.heap.size<W.heap.size/\Below w.heap.size w W from⟨((ah HT).next hW).c7,((ah HT).next hW).c8,((ah HT).next hW).lt,ay (ah B0) hW⟩)
   have e1:(t.ack==1)=true\/((t.ack==1)=false/\(t.ack==2)=true):=by
    rcases h1 with h|h
    ·exact .inl (by simpa using h)
    ·exact .inr ⟨by rw[h];decide,by simpa using h⟩
   clear h0 h1 hA hM hQ hsl;go_enter func95,ntmps95;rcases e1 with e1|⟨e1,e2⟩
   ·go_wp2_with fail;refine(ah PW).mono ?_;rintro e w1 ⟨rfl,b1⟩;obtain⟨d7,d8,hbl,be⟩:=ah HC w1 b1;have BE:=aj be;clear PW b1 be HC
    cases A with
    | false =>
     go_wp2_with fail;go_ret;refine⟨?_,ah BE⟩;first|rfl|simp
    | true =>
     cases M with
     | false =>
      go_wp2_with (go_at_call 134;refine(dK _ _ _ _).mono ?_;rintro e w2 ⟨rfl,rfl⟩;first|rw[ah HM]|rw[ah HQ]);go_ret;refine⟨?_,ah BE⟩;first|rfl|simp
     | true =>
      go_wp2_with (go_at_call 134;refine(dK _ _ _ _).mono ?_;rintro e w2 ⟨rfl,rfl⟩;first|rw[ah HM]|rw[ah HQ]);go_ret;refine⟨?_,ah BE⟩;first|rfl|simp
   ·go_wp2_with fail;refine(ah PW).mono ?_;rintro e w1 ⟨rfl,b1⟩;obtain⟨d7,d8,hbl,be⟩:=ah HC w1 b1;have BE:=aj be;clear PW b1 be HC
    cases A with
    | false =>
     go_wp2_with fail;go_ret;refine⟨?_,ah BE⟩;first|rfl|simp
    | true =>
     cases M with
     | false =>
      go_wp2_with (go_at_call 134;refine(dK _ _ _ _).mono ?_;rintro e w2 ⟨rfl,rfl⟩;first|rw[ah HM]|rw[ah HQ]);go_ret;refine⟨?_,ah BE⟩;first|rfl|simp
     | true =>
      go_wp2_with (go_at_call 134;refine(dK _ _ _ _).mono ?_;rintro e w2 ⟨rfl,rfl⟩;first|rw[ah HM]|rw[ah HQ]);go_ret;refine⟨?_,ah BE⟩;first|rfl|simp
  ·rw[if_neg h1];have e1:(t.ack==1)=false:=by rw[beq_eq_false_iff_ne];exact λz=>h1 (.inl z)
   have e2:(t.ack==2)=false:=by rw[beq_eq_false_iff_ne];exact λz=>h1 (.inr z)
   clear h0 h1 hsl;go_enter func95,ntmps95;go_wp2_with fail;go_ret;exact⟨rfl,ah B0⟩
theorem vU (t:Tk.bH)(a:Option Addr)(c:Nat)(w:World)(hs:gZ t)(hsl:Dk.lF w a t.bo) :
 Calls prog 49 #[lU t a c] w λe w'=>e=.returned (.int .i64 (Tk.gX t))/\Below w.heap.size w w':=by
 have b0:=QG (t:=t) (a:=a) (c:=c) (w:=w);have PN:=aj (ES t.n (w.alloc (oh t a c)) hs.name);have PF:=aj (λW=>filter_any t.f W hs.filt);have HW:=aj (λ(W:World) (hW:Below (w.alloc (oh t a c)).heap.size (w.alloc (oh t a c)) W)=>show TB W w.heap.size t a c/\Dk.lF W a t.bo/\Below w.heap.size w W from⟨(TB.new w t a c).next hW,dG (dG hsl b0) hW,ay b0 hW⟩);have hl:=hs.many;obtain⟨_,c0,c1,c2,c3,c4,c5,c6,c7,c8,c9⟩:=TB.new w t a c;have Nj:Hid (Pn.bQ t.n=false->Tk.gX t=3):=aj (λh=>by unfold Tk.gX;rw[if_pos h]);have OL:Hid (Pn.bQ t.n=true->Tk.gX t=if aB true t.f≠0 then aB true t.f else if 5<t.bo.length then 2 else if (Tk.jM t&&Tk.tN t)=true then 0 else 1):=aj (λh=>by unfold Tk.gX;rw[if_neg (by rw[h];simp)])
 obtain⟨N,hN⟩:∃N,Pn.bQ t.n=N:=⟨_,rfl⟩;rw[hN] at PN Nj OL;obtain⟨E,hE⟩:∃E,aB true t.f=E:=⟨_,rfl⟩;rw[hE] at PF OL;obtain⟨R,hR⟩:∃R,Tk.gX t=R:=⟨_,rfl⟩;rw[hR] at Nj OL ⊢;have PS:=aj (λ(W:World)=>Jy t a c W);have PA:=aj (λ(W:World) (h:Dk.lF W a t.bo)=>QH t a c W h hl);obtain⟨SB,hSB⟩:∃SB,Tk.jM t=SB:=⟨_,rfl⟩;obtain⟨AB,hAB⟩:∃AB,Tk.tN t=AB:=⟨_,rfl⟩;rw[hSB] at PS OL;rw[hAB] at PA OL;clear hN hE hR hSB hAB hs hsl b0;go_enter func49,ntmps49;go_wp2_with fail;refine(ah PN).mono ?_;rintro e w0 ⟨rfl,hw0⟩;rw[hw0];clear hw0 PN
 cases N with
 | false =>
  obtain rfl:R=3:=ah Nj rfl;have BE:=aj (ah HW _ (Below.refl _ _)).2.2;clear Nj OL HW;go_wp2_with fail;go_ret;exact⟨rfl,ah BE⟩
 | true =>
  have HR:=aj (ah OL rfl);clear Nj OL;have yH:=aj (ah PF (w.alloc (oh t a c)));clear PF;go_wp2_with fail;refine(ah yH).mono ?_;rintro e w1 ⟨rfl,b1⟩;obtain⟨tb,hs1,be⟩:=ah HW w1 b1;have BE:=aj be;have B1:=aj b1;have Uc:=aj (ah PS w1);clear yH b1 be PS c0 c1 c2 c3 c4 c5 c6 c7 c8 c9;obtain⟨hbl,c0,c1,c2,c3,c4,c5,c6,c7,c8,c9⟩:=tb;by_cases hE0:E=0
  ·subst hE0;by_cases h5:5<t.bo.length
   ·have hd:(5:Int)<(t.bo.length:Int):=by omega
    obtain rfl:R=2:=by rw[ah HR,if_neg (by simp),if_pos h5]
    clear HR h5 Uc PA HW;go_wp2_with fail;go_ret;exact⟨rfl,ah BE⟩
   ·have hd:decide ((5:Int)<(t.bo.length:Int))=false:=decide_eq_false (by omega);have HR2:=aj (show R=if (SB&&AB)=true then 0 else 1 from by rw[ah HR,if_neg (by simp),if_neg h5]);clear HR h5;go_wp2_with fail;refine(ah Uc).mono ?_;rintro e w2 ⟨rfl,b2⟩;have B2:=aj (ay (ah B1) b2);obtain⟨tb,hs2,be⟩:=ah HW w2 (ah B2);have BE2:=aj be;have YJ:=aj (ah PA w2 hs2);clear Uc b2 be PA c0 c1 c2 c3 c4 c5 c6 c7 c8 c9 hbl hs2;obtain⟨hbl,c0,c1,c2,c3,c4,c5,c6,c7,c8,c9⟩:=tb
    cases SB with
    | false =>
     obtain rfl:R=1:=by rw[ah HR2];rfl
     clear HR2 YJ HW;go_wp2_with fail;go_ret;exact⟨rfl,ah BE2⟩
    | true =>
     go_wp2_with fail;refine(ah YJ).mono ?_;rintro e w3 ⟨rfl,b3⟩;obtain⟨_,_,be⟩:=ah HW w3 (ay (ah B2) b3);have BE3:=aj be;clear YJ b3 be c0 c1 c2 c3 c4 c5 c6 c7 c8 c9 hbl HW
     cases AB with
     | false =>
      obtain rfl:R=1:=by rw[ah HR2];rfl
      clear HR2;go_wp2_with fail;go_ret;exact⟨rfl,ah BE3⟩
     | true =>
      obtain rfl:R=0:=by rw[ah HR2];rfl
      clear HR2;go_wp2_with fail;go_ret;exact⟨rfl,ah BE3⟩
  ·have e5:(E !=0)=true:=by simpa using hE0
   obtain rfl:R=E:=by rw[ah HR,if_pos hE0]
   clear HR hE0 Uc PA HW;go_wp2_with fail;go_ret;exact⟨rfl,ah BE⟩
end Go.Proofs.YtmhbobnfmncdbaaGreatDoor
namespace Go.Proofs.YtmhbobnfmncdbaaGreatDoor.Dk
open Go.RowKit Go.Proofs.Tryz
structure uo where
 nth:Int->Int
 due:Int->Int
 done:Int->Bool
 last:Int
 cnt:Int
def fK {α:Type}(f:Int->α)(k:Int)(v:α):Int->α:=λx=>if x=k then v else f x
theorem upd_same {α:Type}(f:Int->α)(k:Int)(v:α):fK f k v k=v:=if_pos rfl
theorem dh {α:Type}{f:Int->α}{k x:Int}{v:α}(h:x≠k):fK f k v x=f x:=if_neg h
def Nk (t:Tk.bH)(W:uo)(q n now:Int):uo:=⟨fK W.nth q n,fK W.due q (now+Tk.aZ t n),W.done,if n=1 then q else W.last,W.cnt+1⟩
def jw (t:Tk.bH)(W:uo)(now q so n:Int):uo :=
 if so=2 then ⟨W.nth,fK W.due q (now+n),W.done,W.last,W.cnt⟩
 else if so=3 then ⟨W.nth,fK W.due q (now+Tk.aZ t (W.nth q)),W.done,W.last,W.cnt⟩
 else if so=4 then ⟨W.nth,W.due,fK W.done q true,W.last,W.cnt⟩
 else ⟨W.nth,W.due,λx=>W.done x||(decide (W.nth x≠0)&&(decide (x=q)||(decide (t.ack=1)&&decide (x<q)))),W.last,W.cnt⟩
structure Inv (c:bJ)(W:uo):Prop where
 cnt:W.cnt=c.cn
 pend:∀p∈c.pe,W.nth p.q=p.n/\W.due p.q=p.d/\W.done p.q=false
 seen:∀q,W.nth q≠0->q<c.pl
 dn:∀q,W.done q=true->q<c.pl
 last:W.last<c.pl
 full:0<c.t.pe->(c.pe.length:Int)<=c.t.pe
theorem qO {t:Tk.bH}{l:List Rc}{now:Int}:∀{ps:List Dv},(dQ t l now ps).2=none->∀x∈(dQ t l now ps).1,x∈ps
 | [],_,x,hx=>by simp[dQ] at hx
 | p::ps,h,x,hx=>by
  rw[dQ] at h hx;split at h
  ·rename_i hd;rw[if_pos hd] at hx;rcases List.mem_cons.1 hx with rfl|hx
   ·exact List.mem_cons_self ..
   ·exact List.mem_cons_of_mem _ (qO h x hx)
  ·rename_i hd;rw[if_neg hd] at hx;split at h
   ·rename_i hg;rw[hg] at hx;exact List.mem_cons_of_mem _ (qO h x hx)
   ·rename_i m hg;rw[hg] at hx;simp only at hx;split at h
    ·rename_i hs;rw[if_pos hs] at hx;exact List.mem_cons_of_mem _ (qO h x hx)
    ·cases h
theorem vV {t:Tk.bH}{l:List Rc}{now:Int}{m:Rc}{n:Int}:∀{ps:List Dv},(ps.Pairwise λa b=>a.q<b.q)->(dQ t l now ps).2=some (m,n)->∃p∈ps,kU l p.q=some m/\n=p.n+1/\p.d<=now/\iq t p=false/\∀x∈(dQ t l now ps).1,x=⟨p.q,n,now+Tk.aZ t n⟩\/(x∈ps/\x.q≠p.q)
 | [],_,h=>by simp[dQ] at h
 | p::ps,hr,h=>by
  obtain⟨h1,h2⟩:=List.pairwise_cons.1 hr;rw[dQ] at h ⊢;by_cases hd:now<p.d
  ·rw[if_pos hd] at h ⊢;obtain⟨y,hy,g1,g2,g3,g4,g5⟩:=vV h2 h;refine⟨y,List.mem_cons_of_mem _ hy,g1,g2,g3,g4,λx hx=>?_⟩;rcases List.mem_cons.1 hx with rfl|hx
   ·exact .inr ⟨List.mem_cons_self ..,by have:=h1 y hy;omega⟩
   ·rcases g5 x hx with e|⟨e1,e2⟩
    ·exact .inl e
    ·exact .inr ⟨List.mem_cons_of_mem _ e1,e2⟩
  ·rw[if_neg hd] at h ⊢
   cases hg:kU l p.q with
   | none =>
    simp only[hg] at h ⊢;obtain⟨y,hy,g1,g2,g3,g4,g5⟩:=vV h2 h;refine⟨y,List.mem_cons_of_mem _ hy,g1,g2,g3,g4,λx hx=>?_⟩;rcases g5 x hx with e|⟨e1,e2⟩
    ·exact .inl e
    ·exact .inr ⟨List.mem_cons_of_mem _ e1,e2⟩
   | some m0 =>
    simp only[hg] at h ⊢;by_cases hs:iq t p=true
    ·rw[if_pos hs] at h ⊢;obtain⟨y,hy,g1,g2,g3,g4,g5⟩:=vV h2 h;refine⟨y,List.mem_cons_of_mem _ hy,g1,g2,g3,g4,λx hx=>?_⟩;rcases g5 x hx with e|⟨e1,e2⟩
     ·exact .inl e
     ·exact .inr ⟨List.mem_cons_of_mem _ e1,e2⟩
    ·rw[if_neg hs] at h ⊢;simp only[Option.some.injEq,Prod.mk.injEq] at h;obtain⟨rfl,rfl⟩:=h;refine⟨p,List.mem_cons_self ..,hg,rfl,by omega,by simpa using hs,λx hx=>?_⟩;rcases List.mem_cons.1 hx with rfl|hx
     ·exact .inl rfl
     ·exact .inr ⟨List.mem_cons_of_mem _ hx,by have:=h1 x hx;omega⟩
theorem Af {s:bD}(h:s.Ok){m:Rc}(hm:m∈s.l):kU s.l m.q=some m:=by
 unfold kU;have hr:=h.rise;generalize s.l=l at hm hr;induction l with
 | nil=>cases hm
 | cons a l ih =>
  obtain⟨h1,h2⟩:=List.pairwise_cons.1 hr;rw[List.find?_cons];rcases List.mem_cons.1 hm with rfl|hm
  ·simp
  ·rw[decide_eq_false (by have:=h1 m hm;omega)];exact ih hm h2
structure Right (t:Tk.bH)(s:bD)(W:uo)(m:Rc)(n now:Int):Prop where
 get:kU s.l m.q=some m
 takes:lJ t.f m.s=true
 done:W.done m.q=false
 nth:n=W.nth m.q+1
 most:t.mo=0\/n<=t.mo
 new:n=1->W.last<m.q
 again:n≠1->W.due m.q<=now/\t.ack≠0
theorem ET:Maps.Keyed prog 3:=Maps.int_keyed underlying3
def uq (n:Int):Prop:=(Lit.int .i64 n).wf=true
theorem jO {n:Int}(h:-9223372036854775808<=n/\n<=9223372036854775807):uq n:=WalkArith.wf_i64 (by omega)
theorem Nl {n:Int}(h:uq n):keyOf prog 3 (.int .i64 n)=some (.int .i64 n):=Maps.keyOf_int_mk underlying3 h
theorem WS (w:World):(zeroValue 3).run prog w=.ok (.int .i64 0) w:=by kernel_rfl
theorem Ud (w:World):(zeroValue 4).run prog w=.ok (.bool false) w:=by kernel_rfl
theorem QI {a b:Int}(h:a≠b):(Lit.int .i64 a)≠(Lit.int .i64 b):=λe=>h (by cases e;rfl)
theorem Np {P:Program}{e:TypeId}(he:P.underlying e=some .bool){v:Value}{x:Bool}{ps:List MemPlace}(h:plainElem (H:=Unit) P e v=some (.lit (.bool x),ps)):v=.bool x:=by
 unfold plainElem at h;rw[he] at h
 cases v<;>simp at h
 rw[h.1]
def kD (w:World)(b K:Nat)(f:Int->Int):Prop:=∃D:DataW Unit,w.ownsMap prog 3 (plainElem prog 3) b K D/\∀n,uq n->D.atKey (.int .i64 n) (.lit (.int .i64 0))=.lit (.int .i64 (f n))
def nC (w:World)(b K:Nat)(f:Int->Int):Prop:=∃D:DataW Unit,w.ownsMap prog 3 (plainElem prog 3) b K D/\∀n,uq n->D.atKey (.int .i64 n) (.lit (.int .i64 0))=.lit (.int .i64 (f n))/\Maps.has D (.int .i64 n)=decide (f n≠0)
def jy (w:World)(b K:Nat)(f:Int->Bool):Prop:=∃D:DataW Unit,w.ownsMap prog 3 (plainElem prog 4) b K D/\∀n,uq n->D.atKey (.int .i64 n) (.lit (.bool false))=.lit (.bool (f n))
theorem rV {A:Nat->Prop}{w w':World}{b n:Nat}{D:DataW Unit}{R:Value->Option (DataW Unit×List MemPlace)}(h:w.ownsMap prog 3 R b n D)(hc:aA A w w')(hn:¬A b):w'.ownsMap prog 3 R b n D:=by
 have hl:=h.lt;obtain⟨es,clock,hb,r⟩:=h;exact⟨es,clock,(hc.block b hl hn).trans hb,r⟩
section
variable {w w':World}{b K:Nat}{f:Int->Int}{g:Int->Bool}{n v:Int}{A:Nat->Prop}
theorem kD.aT (h:kD w b K f)(hc:aA A w w')(hn:¬A b):kD w' b K f:=by obtain⟨D,h1,h2⟩:=h;exact⟨D,rV h1 hc hn,h2⟩
theorem nC.aT (h:nC w b K f)(hc:aA A w w')(hn:¬A b):nC w' b K f:=by obtain⟨D,h1,h2⟩:=h;exact⟨D,rV h1 hc hn,h2⟩
theorem jy.aT (h:jy w b K g)(hc:aA A w w')(hn:¬A b):jy w' b K g:=by obtain⟨D,h1,h2⟩:=h;exact⟨D,rV h1 hc hn,h2⟩
theorem nC.im (h:nC w b K f):kD w b K f:=by obtain⟨D,h1,h2⟩:=h;exact⟨D,h1,λn hn=>(h2 n hn).1⟩
theorem kD.lt (h:kD w b K f):b<w.heap.size:=by obtain⟨D,h1,h2⟩:=h;exact h1.lt
theorem jy.lt (h:jy w b K g):b<w.heap.size:=by obtain⟨D,h1,h2⟩:=h;exact h1.lt
theorem kD.look (h:kD w b K f)(hn:uq n):(Instr.lookup 63 (.map (some b)) (.int .i64 n) false).run prog w=.ok (.int .i64 (f n)) w:=by
 obtain⟨D,h1,h2⟩:=h;obtain⟨c,hrun,hat,_⟩:=h1.lookup_int ET underlying63 underlying3 (WS w) (Nl hn);rw[h2 n hn] at hat;have e:=Lit.int.inj (DataW.lit.inj hat);rw[hrun,e.2]
theorem jy.look (h:jy w b K g)(hn:uq n):(Instr.lookup 64 (.map (some b)) (.int .i64 n) false).run prog w=.ok (.bool (g n)) w:=by
 obtain⟨D,h1,h2⟩:=h;obtain⟨x,ps,hrun,hv⟩:=h1.lookup ET underlying64 (Ud w) (plainElem_bool underlying4 false) (Nl hn);rw[h2 n hn] at hv;rw[hrun,Np underlying4 hv]
theorem H7 (n:Int):WideAt.IsKeyLit (.int .i64 n):=trivial
theorem kD.put (h:kD w b K f)(hK:K<1000000)(hn:uq n)(hv:uq v):∃w',(Instr.mapUpdate 63 (.map (some b)) (.int .i64 n) (.int .i64 v)).run prog w=.ok () w'/\kD w' b (K+1) (fK f n v)/\aA (λk=>b=k) w w':=by
 obtain⟨D,h1,h2⟩:=h;obtain⟨w',hr,h3,h4⟩:=h1.update ET underlying63 (by unfold maxLen;omega) (Nl hn) (plainElem_int underlying3 hv);refine⟨w',hr,⟨_,h3,λx hx=>?_⟩,(aA.bU h4).mono (λk _ z=>by cases z;rfl)⟩;by_cases e:x=n
 ·subst e;rw[Maps.atKey_put_same h1.isMap (H7 x),upd_same]
 ·rw[Maps.atKey_put_other (QI e),dh e];exact h2 x hx
theorem nC.put (h:nC w b K f)(hK:K<1000000)(hn:uq n)(hv:uq v)(h0:v≠0):∃w',(Instr.mapUpdate 63 (.map (some b)) (.int .i64 n) (.int .i64 v)).run prog w=.ok () w'/\nC w' b (K+1) (fK f n v)/\aA (λk=>b=k) w w':=by
 obtain⟨D,h1,h2⟩:=h;obtain⟨w',hr,h3,h4⟩:=h1.update ET underlying63 (by unfold maxLen;omega) (Nl hn) (plainElem_int underlying3 hv);refine⟨w',hr,⟨_,h3,λx hx=>?_⟩,(aA.bU h4).mono (λk _ z=>by cases z;rfl)⟩;by_cases e:x=n
 ·subst e;rw[Maps.atKey_put_same h1.isMap (H7 x),Maps.has_put_same h1.isMap (H7 x),upd_same];exact⟨rfl,(decide_eq_true h0).symm⟩
 ·rw[Maps.atKey_put_other (QI e),Maps.has_put_other (QI e),dh e];exact h2 x hx
theorem jy.put (h:jy w b K g)(hK:K<1000000)(hn:uq n):∃w',(Instr.mapUpdate 64 (.map (some b)) (.int .i64 n) (.bool true)).run prog w=.ok () w'/\jy w' b (K+1) (fK g n true)/\aA (λk=>b=k) w w':=by
 obtain⟨D,h1,h2⟩:=h;obtain⟨w',hr,h3,h4⟩:=h1.update ET underlying64 (by unfold maxLen;omega) (Nl hn) (plainElem_bool underlying4 true);refine⟨w',hr,⟨_,h3,λx hx=>?_⟩,(aA.bU h4).mono (λk _ z=>by cases z;rfl)⟩;by_cases e:x=n
 ·subst e;rw[Maps.atKey_put_same h1.isMap (H7 x),upd_same]
 ·rw[Maps.atKey_put_other (QI e),dh e];exact h2 x hx
end
structure gJ (w:World)(B b d n z K:Nat)(W:uo):Prop where
 lt:b<w.heap.size
 c0:w.cell? ⟨b,0,none⟩=some (.map (some d))
 c1:w.cell? ⟨b,1,none⟩=some (.map (some n))
 c2:w.cell? ⟨b,2,none⟩=some (.map (some z))
 c3:w.cell? ⟨b,3,none⟩=some (.int .i64 W.last)
 c4:w.cell? ⟨b,4,none⟩=some (.int .i64 W.cnt)
 fr:∀j,w.frozen? ⟨b,j,none⟩=false
 due:kD w d K W.due
 nth:nC w n K W.nth
 done:jy w z (K*1000) W.done
 ne:d≠b/\n≠b/\z≠b/\d≠n/\d≠z/\n≠z
 low:B<=b/\B<=d/\B<=n/\B<=z
def aK (b d n z:Nat)(k:Nat):Prop:=k=b\/k=d\/k=n\/k=z
section
variable {w w':World}{B b d n z K K':Nat}{W:uo}{A:Nat->Prop}
theorem gJ.own (h:gJ w B b d n z K W):∀k,aK b d n z k->B<=k/\k<w.heap.size:=by
 rintro k (rfl|rfl|rfl|rfl)
 ·exact⟨h.low.1,h.lt⟩
 ·exact⟨h.low.2.1,h.due.lt⟩
 ·exact⟨h.low.2.2.1,h.nth.im.lt⟩
 ·exact⟨h.low.2.2.2,h.done.lt⟩
theorem gJ.aT (h:gJ w B b d n z K W)(hc:aA A w w')(hA:∀k,aK b d n z k->¬A k):gJ w' B b d n z K W:=by
 have hb:=hA b (.inl rfl);exact⟨Nat.lt_of_lt_of_le h.lt hc.size,by rw[hc.cell (p:=⟨b,0,none⟩) h.lt hb];exact h.c0,by rw[hc.cell (p:=⟨b,1,none⟩) h.lt hb];exact h.c1,by rw[hc.cell (p:=⟨b,2,none⟩) h.lt hb];exact h.c2,by rw[hc.cell (p:=⟨b,3,none⟩) h.lt hb];exact h.c3,by rw[hc.cell (p:=⟨b,4,none⟩) h.lt hb];exact h.c4,λj=>by rw[hc.frozen (p:=⟨b,j,none⟩) h.lt hb];exact h.fr j,h.due.aT hc (hA d (.inr (.inl rfl))),h.nth.aT hc (hA n (.inr (.inr (.inl rfl)))),h.done.aT hc (hA z (.inr (.inr (.inr rfl)))),h.ne,h.low⟩
theorem gJ.next (h:gJ w B b d n z K W)(hb:Below w.heap.size w w'):gJ w' B b d n z K W:=h.aT (A:=λ_=>False) (aA.of_below hb) (λ_ _ z=>z)
theorem kD.more {f:Int->Int}(h:kD w b K f)(hK:K<=K'):kD w b K' f:=by obtain⟨D,h1,h2⟩:=h;exact⟨D,h1.mono hK,h2⟩
theorem nC.more {f:Int->Int}(h:nC w b K f)(hK:K<=K'):nC w b K' f:=by obtain⟨D,h1,h2⟩:=h;exact⟨D,h1.mono hK,h2⟩
theorem jy.more {f:Int->Bool}(h:jy w b K f)(hK:K<=K'):jy w b K' f:=by obtain⟨D,h1,h2⟩:=h;exact⟨D,h1.mono hK,h2⟩
theorem gJ.more (h:gJ w B b d n z K W)(hK:K<=K'):gJ w B b d n z K' W:={h with due:=h.due.more hK,nth:=h.nth.more hK,done:=h.done.more (Nat.mul_le_mul_right 1000 hK)}
theorem gJ.YK (h:gJ w B b d n z K W)(hK:K<990){q v:Int}(hq:uq q)(hv:uq v)(h0:v≠0):∃w',(Instr.mapUpdate 63 (.map (some n)) (.int .i64 q) (.int .i64 v)).run prog w=.ok () w'/\gJ w' B b d n z (K+1) {W with nth:=fK W.nth q v}/\aA (aK b d n z) w w':=by
 obtain⟨w',hr,h1,h2⟩:=h.nth.put (by omega) hq hv h0;obtain⟨n1,n2,n3,n4,n5,n6⟩:=h.ne;have hb:¬n=b:=n2;exact⟨w',hr,⟨Nat.lt_of_lt_of_le h.lt h2.size,by rw[h2.cell (p:=⟨b,0,none⟩) h.lt hb];exact h.c0,by rw[h2.cell (p:=⟨b,1,none⟩) h.lt hb];exact h.c1,by rw[h2.cell (p:=⟨b,2,none⟩) h.lt hb];exact h.c2,by rw[h2.cell (p:=⟨b,3,none⟩) h.lt hb];exact h.c3,by rw[h2.cell (p:=⟨b,4,none⟩) h.lt hb];exact h.c4,λj=>by rw[h2.frozen (p:=⟨b,j,none⟩) h.lt hb];exact h.fr j,(h.due.aT h2 (λe=>n4 e.symm)).more (Nat.le_succ _),h1,(h.done.aT h2 n6).more (by omega),h.ne,h.low⟩,h2.mono (λk _ e=>.inr (.inr (.inl e.symm)))⟩
theorem gJ.Ue (h:gJ w B b d n z K W)(hK:K<990){q v:Int}(hq:uq q)(hv:uq v):∃w',(Instr.mapUpdate 63 (.map (some d)) (.int .i64 q) (.int .i64 v)).run prog w=.ok () w'/\gJ w' B b d n z (K+1) {W with due:=fK W.due q v}/\aA (aK b d n z) w w':=by
 obtain⟨w',hr,h1,h2⟩:=h.due.put (by omega) hq hv;obtain⟨n1,n2,n3,n4,n5,n6⟩:=h.ne;have hb:¬d=b:=n1;exact⟨w',hr,⟨Nat.lt_of_lt_of_le h.lt h2.size,by rw[h2.cell (p:=⟨b,0,none⟩) h.lt hb];exact h.c0,by rw[h2.cell (p:=⟨b,1,none⟩) h.lt hb];exact h.c1,by rw[h2.cell (p:=⟨b,2,none⟩) h.lt hb];exact h.c2,by rw[h2.cell (p:=⟨b,3,none⟩) h.lt hb];exact h.c3,by rw[h2.cell (p:=⟨b,4,none⟩) h.lt hb];exact h.c4,λj=>by rw[h2.frozen (p:=⟨b,j,none⟩) h.lt hb];exact h.fr j,h1,(h.nth.aT h2 n4).more (Nat.le_succ _),(h.done.aT h2 n5).more (by omega),h.ne,h.low⟩,h2.mono (λk _ e=>.inr (.inl e.symm))⟩
structure Nq (w:World)(B b d n z K Kz:Nat)(W:uo):Prop where
 lt:b<w.heap.size
 c0:w.cell? ⟨b,0,none⟩=some (.map (some d))
 c1:w.cell? ⟨b,1,none⟩=some (.map (some n))
 c2:w.cell? ⟨b,2,none⟩=some (.map (some z))
 c3:w.cell? ⟨b,3,none⟩=some (.int .i64 W.last)
 c4:w.cell? ⟨b,4,none⟩=some (.int .i64 W.cnt)
 fr:∀j,w.frozen? ⟨b,j,none⟩=false
 due:kD w d K W.due
 nth:nC w n K W.nth
 done:jy w z Kz W.done
 ne:d≠b/\n≠b/\z≠b/\d≠n/\d≠z/\n≠z
 low:B<=b/\B<=d/\B<=n/\B<=z
theorem gJ.cz (h:gJ w B b d n z K W):Nq w B b d n z K (K*1000) W:=⟨h.lt,h.c0,h.c1,h.c2,h.c3,h.c4,h.fr,h.due,h.nth,h.done,h.ne,h.low⟩
theorem Nq.ch {Kz:Nat}(h:Nq w B b d n z K Kz W)(hK:K<=K')(hz:Kz<=K'*1000):gJ w B b d n z K' W:=⟨h.lt,h.c0,h.c1,h.c2,h.c3,h.c4,h.fr,h.due.more hK,h.nth.more hK,h.done.more hz,h.ne,h.low⟩
theorem Nq.aT {Kz:Nat}(h:Nq w B b d n z K Kz W)(hc:aA A w w')(hA:∀k,aK b d n z k->¬A k):Nq w' B b d n z K Kz W:=by
 have hb:=hA b (.inl rfl);exact⟨Nat.lt_of_lt_of_le h.lt hc.size,by rw[hc.cell (p:=⟨b,0,none⟩) h.lt hb];exact h.c0,by rw[hc.cell (p:=⟨b,1,none⟩) h.lt hb];exact h.c1,by rw[hc.cell (p:=⟨b,2,none⟩) h.lt hb];exact h.c2,by rw[hc.cell (p:=⟨b,3,none⟩) h.lt hb];exact h.c3,by rw[hc.cell (p:=⟨b,4,none⟩) h.lt hb];exact h.c4,λj=>by rw[hc.frozen (p:=⟨b,j,none⟩) h.lt hb];exact h.fr j,h.due.aT hc (hA d (.inr (.inl rfl))),h.nth.aT hc (hA n (.inr (.inr (.inl rfl)))),h.done.aT hc (hA z (.inr (.inr (.inr rfl)))),h.ne,h.low⟩
theorem Nq.put {Kz:Nat}(h:Nq w B b d n z K Kz W)(hK:Kz<1000000){q:Int}(hq:uq q):∃w',(Instr.mapUpdate 64 (.map (some z)) (.int .i64 q) (.bool true)).run prog w=.ok () w'/\Nq w' B b d n z K (Kz+1) {W with done:=fK W.done q true}/\aA (λk=>z=k) w w':=by
 obtain⟨w',hr,h1,h2⟩:=h.done.put hK hq;obtain⟨n1,n2,n3,n4,n5,n6⟩:=h.ne;have hb:¬z=b:=n3;exact⟨w',hr,⟨Nat.lt_of_lt_of_le h.lt h2.size,by rw[h2.cell (p:=⟨b,0,none⟩) h.lt hb];exact h.c0,by rw[h2.cell (p:=⟨b,1,none⟩) h.lt hb];exact h.c1,by rw[h2.cell (p:=⟨b,2,none⟩) h.lt hb];exact h.c2,by rw[h2.cell (p:=⟨b,3,none⟩) h.lt hb];exact h.c3,by rw[h2.cell (p:=⟨b,4,none⟩) h.lt hb];exact h.c4,λj=>by rw[h2.frozen (p:=⟨b,j,none⟩) h.lt hb];exact h.fr j,h.due.aT h2 (λe=>n5 e.symm),h.nth.aT h2 (λe=>n6 e.symm),h1,h.ne,h.low⟩,h2⟩
theorem gJ.YL (h:gJ w B b d n z K W)(hK:K<990){q:Int}(hq:uq q):∃w',(Instr.mapUpdate 64 (.map (some z)) (.int .i64 q) (.bool true)).run prog w=.ok () w'/\gJ w' B b d n z (K+1) {W with done:=fK W.done q true}/\aA (λk=>z=k) w w':=by
 obtain⟨w',hr,h1,h2⟩:=h.cz.put (by omega) hq;exact⟨w',hr,h1.ch (Nat.le_succ _) (by omega),h2⟩
theorem gJ.num (h:gJ w B b d n z K W){j:Nat}{v:Int}{W':uo}(hj:j=3/\W'={W with last:=v}\/j=4/\W'={W with cnt:=v}):gJ (w.setCell ⟨b,j,none⟩ (.int .i64 v)) B b d n z K W'/\aA (aK b d n z) w (w.setCell ⟨b,j,none⟩ (.int .i64 v)):=by
 have hc:aA (λk=>k=b) w (w.setCell ⟨b,j,none⟩ (.int .i64 v)):=(aA.refl (λk=>k=b) w).setCell (p:=⟨b,j,none⟩) (.inl rfl) _;obtain⟨n1,n2,n3,n4,n5,n6⟩:=h.ne;have ho:∀i,i≠j->(w.setCell ⟨b,j,none⟩ (.int .i64 v)).cell? ⟨b,i,none⟩=w.cell? ⟨b,i,none⟩:=λi hi=>World.cell?_setCell_other _ _ _ _ (by intro e;injection e;omega)
 have hf:∀i,(w.setCell ⟨b,j,none⟩ (.int .i64 v)).frozen? ⟨b,i,none⟩=false:=λi=>by rw[World.frozen?_setCell];exact h.fr i
 refine⟨?_,hc.mono (λk _ e=>.inl e)⟩;rcases hj with ⟨rfl,rfl⟩|⟨rfl,rfl⟩
 ·exact⟨by simpa[World.setCell] using h.lt,by rw[ho 0 (by omega)];exact h.c0,by rw[ho 1 (by omega)];exact h.c1,by rw[ho 2 (by omega)];exact h.c2,World.cell?_setCell_same _ _ _ h.c3,by rw[ho 4 (by omega)];exact h.c4,hf,h.due.aT hc n1,h.nth.aT hc n2,h.done.aT hc n3,h.ne,h.low⟩
 ·exact⟨by simpa[World.setCell] using h.lt,by rw[ho 0 (by omega)];exact h.c0,by rw[ho 1 (by omega)];exact h.c1,by rw[ho 2 (by omega)];exact h.c2,by rw[ho 3 (by omega)];exact h.c3,World.cell?_setCell_same _ _ _ h.c4,hf,h.due.aT hc n1,h.nth.aT hc n2,h.done.aT hc n3,h.ne,h.low⟩
end
theorem Nums.keep {A:Nat->Prop}{w w':World}{B:Nat}{v:Value}{l:List Int}(h:Nums w B v l)(hb:aA A w w')(hn:∀g,v.ownBlock=some g->¬A g):Nums w' B v l:=by
 refine⟨h.1,?_⟩;rcases h.2 with q|⟨g,cap,cur,h1,h2,h3,r⟩
 ·exact .inl q
 ·refine .inr ⟨g,cap,cur,h1,h2,?_,r⟩;rw[hb.block g (World.ownsRow.lt h g (by rw[h1];rfl)).2 (hn g (by rw[h1];rfl))];exact h3
def lg (SH:World->Nat->Nat->(Nat->Prop)->bD->Prop)(CH:World->Nat->Nat->(Nat->Prop)->bJ->Prop)(Cs:Nat->Prop)(w wr:World)(q b:Nat)(s:bD)(c:bJ):Prop:=∃B F B' G,SH wr B q F s/\CH wr B' b G c/\(w.heap.size<=B/\B<=wr.heap.size)/\(w.heap.size<=B'/\B'<=wr.heap.size)/\(∀k,F k->¬G k)/\Below w.heap.size w wr/\∀k,Cs k->k<wr.heap.size/\¬F k/\¬G k
section
variable {SH:World->Nat->Nat->(Nat->Prop)->bD->Prop}{CH:World->Nat->Nat->(Nat->Prop)->bJ->Prop}{Cs D:Nat->Prop}{w wr w':World}{q b N:Nat}{s:bD}{c:bJ}
theorem lg.base (h:lg SH CH Cs w wr q b s c):Below w.heap.size w wr:=by obtain⟨_,_,_,_,_,_,_,_,_,h6,_⟩:=h;exact h6
theorem lg.fewer (h:lg SH CH Cs w wr q b s c)(hd:∀k,D k->Cs k):lg SH CH D w wr q b s c:=by
 obtain⟨B,F,B',G,h1,h2,h3,h4,h5,h6,h7⟩:=h;exact⟨B,F,B',G,h1,h2,h3,h4,h5,h6,λk hk=>h7 k (hd k hk)⟩
theorem lg.with (H:aQ SH)(C:bG SH CH)(h:lg SH CH Cs w wr q b s c)(hb:Below wr.heap.size wr w')(hd:∀k,D k->Cs k\/wr.heap.size<=k/\k<w'.heap.size):lg SH CH D w w' q b s c:=by
 obtain⟨B,F,B',G,h1,h2,h3,h4,h5,h6,h7⟩:=h;have hs:=hb.size;refine⟨B,F,B',G,H.aT (A:=λ_=>False) h1 (aA.of_below hb) (λ_ _ z=>z),C.aT (A:=λ_=>False) h2 (aA.of_below hb) (λ_ _ z=>z),⟨h3.1,by omega⟩,⟨h4.1,by omega⟩,h5,ay h6 hb,λk hk=>?_⟩;rcases hd k hk with z|z
 ·have:=h7 k z;exact⟨by omega,this.2⟩
 ·exact⟨z.2,λy=>by have:=(H.own h1 k y).2;omega,λy=>by have:=(C.own h2 k y).2;omega⟩
theorem lg.below (H:aQ SH)(C:bG SH CH)(h:lg SH CH Cs w wr q b s c)(hb:Below wr.heap.size wr w'):lg SH CH Cs w w' q b s c:=h.with H C hb (λ_ hk=>.inl hk)
theorem lg.aT (H:aQ SH)(C:bG SH CH){A:Nat->Prop}(h:lg SH CH Cs w wr q b s c)(hb:aA A wr w')(hA:∀k,A k->Cs k)(hw:∀k,A k->w.heap.size<=k)(hd:∀k,D k->Cs k\/wr.heap.size<=k/\k<w'.heap.size):lg SH CH D w w' q b s c:=by
 obtain⟨B,F,B',G,h1,h2,h3,h4,h5,h6,h7⟩:=h;have hs:=hb.size;refine⟨B,F,B',G,H.aT h1 hb (λk hk z=>(h7 k (hA k z)).2.1 hk),C.aT h2 hb (λk hk z=>(h7 k (hA k z)).2.2 hk),⟨h3.1,by omega⟩,⟨h4.1,by omega⟩,h5,h6.trans (hb.below h6.size (λk hk z=>by have:=hw k z;omega)),λk hk=>?_⟩;rcases hd k hk with z|z
 ·have:=h7 k z;exact⟨by omega,this.2⟩
 ·exact⟨z.2,λy=>by have:=(H.own h1 k y).2;omega,λy=>by have:=(C.own h2 k y).2;omega⟩
theorem lg.did (H:aQ SH)(C:bG SH CH){c':bJ}(h:lg SH CH Cs w wr q b s c){fn:FuncId}{args:Array Value}{Q:Ending->World->Prop}
 (hc:∀B F B' G,SH wr B q F s->CH wr B' b G c->B<=wr.heap.size->B'<=wr.heap.size->(∀k,F k->¬G k)->Calls prog fn args wr λe w'=>Q e w'/\QB CH wr w' B' b G c') :
 Calls prog fn args wr λe w'=>Q e w'/\lg SH CH Cs w w' q b s c'/\aA (λk=>¬Cs k) wr w':=by
 obtain⟨B,F,B',G,h1,h2,h3,h4,h5,h6,h7⟩:=h;refine(hc B F B' G h1 h2 h3.2 h4.2 h5).mono ?_;rintro e w' ⟨hq,G',a1,a2,a3⟩;have hs:=a2.size;refine⟨hq,⟨B,F,B',G',H.aT h1 a2 (λk hk z=>h5 k hk z),a1,⟨h3.1,by omega⟩,⟨h4.1,by omega⟩,λk hk z=>?_,h6.trans (a2.below h6.size (λk hk z=>by have:=(C.own h2 k z).1;omega)),λk hk=>⟨by have:=(h7 k hk).1;omega,(h7 k hk).2.1,λz=>?_⟩⟩,a2.mono (λk _ z y=>(h7 k y).2.2 z)⟩
 ·rcases a3 k z with y|y
  ·exact h5 k hk y
  ·have:=(H.own h1 k hk).2;omega
 ·rcases a3 k z with y|y
  ·exact(h7 k hk).2.2 y
  ·have:=(h7 k hk).1;omega
theorem lg.YM (H:aQ SH)(C:bG SH CH){s':bD}(h:lg SH CH Cs w wr q b s c){fn:FuncId}{args:Array Value}{Q:Ending->World->Prop}
 (hc:∀B F,SH wr B q F s->B<=wr.heap.size->Calls prog fn args wr λe w'=>Q e w'/\Mc SH wr w' B q F s') :
 Calls prog fn args wr λe w'=>Q e w'/\lg SH CH Cs w w' q b s' c/\aA (λk=>¬Cs k) wr w':=by
 obtain⟨B,F,B',G,h1,h2,h3,h4,h5,h6,h7⟩:=h;refine(hc B F h1 h3.2).mono ?_;rintro e w' ⟨hq,F',a1,a2,a3⟩;have hs:=a2.size;refine⟨hq,⟨B,F',B',G,a1,C.aT h2 a2 (λk hk z=>h5 k z hk),⟨h3.1,by omega⟩,⟨h4.1,by omega⟩,λk hk z=>?_,h6.trans (a2.below h6.size (λk hk z=>by have:=(H.own h1 k z).1;omega)),λk hk=>⟨by have:=(h7 k hk).1;omega,λz=>?_,(h7 k hk).2.2⟩⟩,a2.mono (λk _ z y=>(h7 k y).2.1 z)⟩
 ·rcases a3 k hk with y|y
  ·exact h5 k y z
  ·have:=(C.own h2 k z).2;omega
 ·rcases a3 k z with y|y
  ·exact(h7 k hk).2.1 y
  ·have:=(h7 k hk).1;omega
theorem lg.next (H:aQ SH)(C:bG SH CH)(h:lg SH CH Cs w wr q b s c)(hg:c.Go N)(hN:N<=100000)(hs:s.Ok)(now:Int) :
 Calls prog 13 #[.pointer (some ⟨b,0,none⟩),.pointer (some ⟨q,0,none⟩),.int .i64 now] wr λe w'=>e=.returned (.tuple #[KC (ng (aI c s.l now).1 s.l (aI c s.l now).2.1),.int .i64 (aI c s.l now).2.2])/\lg SH CH Cs w w' q b s (aI c s.l now).1/\aA (λk=>¬Cs k) wr w' :=
 h.did H C (λ_ _ _ _ h1 h2 hB hB' h5=>C.next h2 hg hN h1 hs hB' hB h5 now)
theorem lg.answer (H:aQ SH)(C:bG SH CH)(h:lg SH CH Cs w wr q b s c)(hg:c.Go N)(hN:N<=100000)(now n so k:Int) :
 Calls prog 15 #[.pointer (some ⟨b,0,none⟩),.int .i64 now,.int .i64 n,.agg #[.int .i64 so,.int .i64 k]] wr λe w'=>e=.returned (.int .i64 (dJ c now n so k).2)/\lg SH CH Cs w w' q b s (dJ c now n so k).1/\aA (λk=>¬Cs k) wr w' :=
 h.did H C (λ_ _ _ _ _ h2 _ _ _=>C.answer h2 hg hN now n so k)
theorem lg.info (C:bG SH CH)(h:lg SH CH Cs w wr q b s c)(hg:c.Go N) :
 Calls prog 21 #[.pointer (some ⟨b,0,none⟩)] wr λe w'=>e=.returned (Vl (aJ c) (c.pl-1) c.cn (c.pe.length:Int))/\Below wr.heap.size wr w':=by
 obtain⟨B,F,B',G,h1,h2,_⟩:=h;exact C.info h2 hg
theorem lg.new (H:aQ SH)(C:bG SH CH){B:Nat}{F:Nat->Prop}(t:Tk.bH)(a:Option Addr)(ca:Nat)(hs:gZ t)(hsl:lF wr a t.bo)(ht:Tk.gX t=0)(h1:SH wr B q F s)(hk:s.Ok)(h3:w.heap.size<=B/\B<=wr.heap.size)(h6:Below w.heap.size w wr)(hC:∀k,Cs k->k<wr.heap.size/\¬F k) :
 Calls prog 10 #[lU t a ca,.pointer (some ⟨q,0,none⟩)] wr λe w'=>(∃b,e=.returned (.tuple #[.pointer (some ⟨b,0,none⟩),.int .i64 0])/\lg SH CH Cs w w' q b s ⟨t,cu t s,[],0⟩)/\Below wr.heap.size wr w':=by
 refine(C.new t a ca hs hsl ht h1 hk h3.2).mono ?_;rintro e w' ⟨⟨b,G,he,a1⟩,hb⟩;have hsz:=hb.size;refine⟨⟨b,he,B,F,_,G,H.aT (A:=λ_=>False) h1 (aA.of_below hb) (λ_ _ z=>z),a1,⟨h3.1,by omega⟩,⟨h6.size,hsz⟩,λk hk z=>?_,ay h6 hb,λk hk=>⟨by have:=(hC k hk).1;omega,(hC k hk).2,λz=>?_⟩⟩,hb⟩
 ·have:=(H.own h1 k hk).2;have:=(C.own a1 k z).1;omega
 ·have:=(hC k hk).1;have:=(C.own a1 k z).1;omega
end
end Go.Proofs.YtmhbobnfmncdbaaGreatDoor.Dk
