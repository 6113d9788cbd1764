/- A part of the proof. -/
import Derived.Test.YtidekgipblnpkaaGreatDoorQ10
set_option maxRecDepth 100000
set_option maxHeartbeats 8000000
namespace Go.Proofs.YtidekgipblnpkaaGreatDoor
open Go.RowKit Go.Proofs.Tryz
theorem NK {w:World}{b:Nat}{n:ByteArray}{a:Option Addr}{l c:Nat}{x0 x1 x2 x3 x4 x5 x6 x7:Int}(r:PB w b n a l c x0 x1 x2 x3 x4 x5 x6 x7) :
 (loadVar 24 ⟨b,0,none⟩).run prog w=.ok (.agg #[.string n,.slice a l c,.int .i64 x0,.int .i64 x1,.int .i64 x2,.int .i64 x3,.int .i64 x4,.int .i64 x5,.int .i64 x6,.int .i64 x7]) w:=by
 have hl:(loadCells ⟨b,0,none⟩ 10).run prog w=.ok #[.string n,.slice a l c,.int .i64 x0,.int .i64 x1,.int .i64 x2,.int .i64 x3,.int .i64 x4,.int .i64 x5,.int .i64 x6,.int .i64 x7] w :=
  run_loadCells_list (P:=prog) w ⟨b,0,none⟩ [.string n,.slice a l c,.int .i64 x0,.int .i64 x1,.int .i64 x2,.int .i64 x3,.int .i64 x4,.int .i64 x5,.int .i64 x6,.int .i64 x7] (λj v hv=>by
   rw[Rq,Nat.zero_add];match j,hv with
   | 0,hv=>rw[r.c0];simpa using hv
   | 1,hv=>rw[r.c1];simpa using hv
   | 2,hv=>rw[r.c2];simpa using hv
   | 3,hv=>rw[r.c3];simpa using hv
   | 4,hv=>rw[r.c4];simpa using hv
   | 5,hv=>rw[r.c5];simpa using hv
   | 6,hv=>rw[r.c6];simpa using hv
   | 7,hv=>rw[r.c7];simpa using hv
   | 8,hv=>rw[r.c8];simpa using hv
   | 9,hv=>rw[r.c9];simpa using hv)
 have hz:Tryz.t24.size=10:=by kernel_rfl
 simp[loadVar,isAgg,sizeOf];rw[hz,hl];rfl
theorem afD {fn:Func}{t u:Tmp}{tmps:Array Value}{w:World}{b:Nat}{n:ByteArray}{a:Option Addr}{l c:Nat}{x0 x1 x2 x3 x4 x5 x6 x7:Int}(hf:fn.results=#[.cell t 24,.tmp u])(ha:tmps.getD t undef=.pointer (some ⟨b,0,none⟩))(r:PB w b n a l c x0 x1 x2 x3 x4 x5 x6 x7) :
 (results fn tmps).run prog w=.ok (.tuple #[.agg #[.string n,.slice a l c,.int .i64 x0,.int .i64 x1,.int .i64 x2,.int .i64 x3,.int .i64 x4,.int .i64 x5,.int .i64 x6,.int .i64 x7],tmps.getD u undef]) w:=by
 have ha':tmps[t]?.getD undef=.pointer (some ⟨b,0,none⟩):=by simpa using ha
 simp[results,hf,ha',asAddr,NK r]
theorem PB.puts {W:World}{b:Nat}{n':ByteArray}{a':Option Addr}{l' c':Nat}{z0 z1 z2 z3 z4 z5 z6 z7:Int}(h:PB W b n' a' l' c' z0 z1 z2 z3 z4 z5 z6 z7)(n:ByteArray)(a:Option Addr)(l c:Nat)(x0 x1 x2 x3 x4 x5 x6 x7:Int):PB ((((((((((W.setCell ⟨b,0,none⟩ (.string n)).setCell ⟨b,1,none⟩ (.slice a l c)).setCell ⟨b,2,none⟩ (.int .i64 x0)).setCell ⟨b,3,none⟩ (.int .i64 x1)).setCell ⟨b,4,none⟩ (.int .i64 x2)).setCell ⟨b,5,none⟩ (.int .i64 x3)).setCell ⟨b,6,none⟩ (.int .i64 x4)).setCell ⟨b,7,none⟩ (.int .i64 x5)).setCell ⟨b,8,none⟩ (.int .i64 x6)).setCell ⟨b,9,none⟩ (.int .i64 x7)) b n a l c x0 x1 x2 x3 x4 x5 x6 x7:=by
 have key:=(MB b [.string n,.slice a l c,.int .i64 x0,.int .i64 x1,.int .i64 x2,.int .i64 x3,.int .i64 x4,.int .i64 x5,.int .i64 x6,.int .i64 x7] W 0 (λj hj=>by
  have:j<10:=hj;rw[Nat.zero_add];rcases j with _|_|_|_|_|_|_|_|_|_|j
  ·rw[h.c0];rfl
  ·rw[h.c1];rfl
  ·rw[h.c2];rfl
  ·rw[h.c3];rfl
  ·rw[h.c4];rfl
  ·rw[h.c5];rfl
  ·rw[h.c6];rfl
  ·rw[h.c7];rfl
  ·rw[h.c8];rfl
  ·rw[h.c9];rfl
  ·omega)).1
 have hsz:=MC b [.string n,.slice a l c,.int .i64 x0,.int .i64 x1,.int .i64 x2,.int .i64 x3,.int .i64 x4,.int .i64 x5,.int .i64 x6,.int .i64 x7] W 0;refine⟨Nat.lt_of_lt_of_eq h.lt hsz.symm,key 0 (by simp),key 1 (by simp),key 2 (by simp),key 3 (by simp),key 4 (by simp),key 5 (by simp),key 6 (by simp),key 7 (by simp),key 8 (by simp),key 9 (by simp)⟩
theorem ajn {es:List bD}{y:bD}(h:y∈es):∃j,j<es.length/\en es j=y:=by
 obtain⟨j,hj,e⟩:=List.getElem_of_mem h;exact⟨j,hj,by rw[nK hj];exact e⟩
theorem PY {es:List bD}(h:Ord es){s:ByteArray}{y:bD}(hy:y∈es)(e:y.1=s):eX es s=true/\y=en es (place es s):=by
 obtain⟨j,hj,rfl⟩:=ajn hy;obtain⟨h1,h2⟩:=Pv h hj e;exact⟨h1,by rw[h2]⟩
theorem Qa:∀{a b:List bD},Ord a->Ord b->(∀e,e∈a↔e∈b)->a=b
 | [],[],_,_,_=>rfl
 | [],y::b,_,_,h=>absurd ((h y).2 (List.mem_cons_self ..)) (by simp)
 | x::a,[],_,_,h=>absurd ((h x).1 (List.mem_cons_self ..)) (by simp)
 | x::a,y::b,ha,hb,h=>by
  have ha1:=List.pairwise_cons.1 ha;have hb1:=List.pairwise_cons.1 hb;have hxy:x=y:=by
   rcases List.mem_cons.1 ((h x).1 (List.mem_cons_self ..)) with z|z
   ·exact z
   ·rcases List.mem_cons.1 ((h y).2 (List.mem_cons_self ..)) with u|u
    ·exact u.symm
    ·have:=sO (hb1.1 x z) (ha1.1 y u);rw[lM] at this;cases this
  subst hxy;have hx:∀{c:List bD},(∀e∈c,el x.1 e.1=true)->x∉c:=λhc z=>by have:=hc x z;rw[lM] at this;cases this
  rw[Qa ha1.2 hb1.2 (λe=>?_)];constructor
  ·intro z;rcases List.mem_cons.1 ((h e).1 (List.mem_cons_of_mem _ z)) with u|u
   ·subst u;exact absurd z (hx ha1.1)
   ·exact u
  ·intro z;rcases List.mem_cons.1 ((h e).2 (List.mem_cons_of_mem _ z)) with u|u
   ·subst u;exact absurd z (hx hb1.1)
   ·exact u
theorem Zd {es:List bD}(h:Good es){s:ByteArray}(n:Int)(hs:aC false s=0)(hr:eX es s=true\/es.length<100)(x:bD):x∈pF es s n↔x=(s,n)\/(x∈es/\x.1≠s):=by
 unfold pF;rw[if_pos hs]
 cases hh:eX es s
 ·rw[if_neg (by simp),if_neg (by rcases hr with z|z;rw[hh] at z;cases z;omega)];have hne:∀y∈es,y.1≠s:=λy hy e=>by have:=(PY h.1 hy e).1;rw[hh] at this;cases this
  have e:x∈insL es (place es s) (s,n)↔x=(s,n)\/x∈es:=by
   unfold insL;rw[List.mem_append,List.mem_cons];have:=List.take_append_drop (place es s) es;constructor
   ·rintro (z|z|z)
    ·exact .inr (List.mem_of_mem_take z)
    ·exact .inl z
    ·exact .inr (List.mem_of_mem_drop z)
   ·rintro (z|z)
    ·exact .inr (.inl z)
    ·rw[<-this] at z;rcases List.mem_append.1 z with y|y
     ·exact .inl y
     ·exact .inr (.inr y)
  rw[e];constructor
  ·rintro (z|z)
   ·exact .inl z
   ·exact .inr ⟨z,hne x z⟩
  ·rintro (z|z)
   ·exact .inl z
   ·exact .inr z.1
 ·rw[if_pos rfl];obtain⟨p1,p2⟩:=rJ hh;constructor
  ·intro z;obtain⟨j,hj,e⟩:=List.getElem_of_mem z;rw[List.length_set] at hj;rw[List.getElem_set] at e;by_cases hp:place es s=j
   ·rw[if_pos hp] at e;exact .inl e.symm
   ·rw[if_neg hp] at e;refine .inr ⟨by rw[<-e];exact List.getElem_mem hj,λq=>hp ?_⟩;exact(Nu h.1 hj (by rw[nK hj,e];exact q)).symm
  ·rintro (z|⟨z,q⟩)
   ·rw[z];exact List.mem_set p1 _
   ·obtain⟨j,hj,e⟩:=List.getElem_of_mem z;have hp:¬place es s=j:=λhp=>q (by rw[<-e,<-nK hj,<-hp];exact p2)
    have:(es.set (place es s) (s,n))[j]'(by rw[List.length_set];exact hj)=x:=by rw[List.getElem_set,if_neg hp];exact e
    rw[<-this];exact List.getElem_mem _
theorem adn {es:List bD}(h:Good es){s:ByteArray}(hs:aC false s=0)(x:bD):x∈qp es s↔x∈es/\x.1≠s:=by
 unfold qp;rw[if_pos hs]
 cases hh:eX es s
 ·rw[if_neg (by simp)];exact⟨λz=>⟨z,λe=>by have:=(PY h.1 z e).1;rw[hh] at this;cases this⟩,λz=>z.1⟩
 ·rw[if_pos rfl];obtain⟨p1,p2⟩:=rJ hh;have hsp:es=es.take (place es s)++en es (place es s)::es.drop (place es s+1):=by
   rw[nK p1,<-List.drop_eq_getElem_cons p1,List.take_append_drop]
  constructor
  ·intro z;refine⟨Y1 z,λe=>?_⟩;have ho:=h.1;unfold Ord at ho;rw[hsp,List.pairwise_append,List.pairwise_cons] at ho;obtain⟨_,⟨o2,_⟩,o3⟩:=ho;unfold Aw at z;rcases List.mem_append.1 z with y|y
   ·have:=o3 x y (en es (place es s)) (List.mem_cons_self ..);rw[e,p2,lM] at this;cases this
   ·have:=o2 x y;rw[e,p2,lM] at this;cases this
  ·rintro ⟨z,q⟩;rw[hsp] at z;unfold Aw;rcases List.mem_append.1 z with y|y
   ·exact List.mem_append.2 (.inl y)
   ·rcases List.mem_cons.1 y with u|u
    ·exact absurd (by rw[u];exact p2) q
    ·exact List.mem_append.2 (.inr u)
def dV (l:List Dk.Rc)(s:ByteArray):Nat:=(l.filter λr=>decide (r.s=s)).length
theorem fF (a b:List Dk.Rc)(s:ByteArray):dV (a++b) s=dV a s+dV b s:=by unfold dV;rw[List.filter_append,List.length_append]
theorem qB (r:Dk.Rc)(s:ByteArray):dV [r] s=if r.s=s then 1 else 0:=by
 unfold dV;by_cases h:r.s=s
 ·rw[if_pos h];simp[h]
 ·rw[if_neg h];simp[h]
theorem oq (l:List Dk.Rc)(s:ByteArray):Dk.fU l s=decide (0<dV l s):=by
 unfold Dk.fU dV;rw[Bool.eq_iff_iff,List.any_eq_true,decide_eq_true_eq,List.length_pos_iff_exists_mem];constructor
 ·rintro ⟨x,h1,h2⟩;exact⟨x,List.mem_filter.2 ⟨h1,h2⟩⟩
 ·rintro ⟨x,h1⟩;obtain⟨h1,h2⟩:=List.mem_filter.1 h1;exact⟨x,h1,h2⟩
structure Cnt (l:List Dk.Rc)(es:List bD):Prop where
 good:Good es
 mem:∀e:bD,e∈es↔0<dV l e.1/\e.2=(dV l e.1:Int)
theorem Cnt.nil:Cnt [] []:=⟨adb,λe=>by simp[dV]⟩
theorem Cnt.same {l:List Dk.Rc}{a b:List bD}(h:Cnt l a)(g:Cnt l b):a=b:=Qa h.good.1 g.good.1 (λe=>by rw[h.mem,g.mem])
theorem Cnt.has {l:List Dk.Rc}{es:List bD}(h:Cnt l es)(s:ByteArray):eX es s=decide (0<dV l s):=by
 rw[Bool.eq_iff_iff,decide_eq_true_eq];constructor
 ·intro z;obtain⟨p1,p2⟩:=rJ z;have:=((h.mem _).1 (CQ p1)).1;rw[p2] at this;exact this
 ·intro z;exact(PY h.good.1 ((h.mem (s,(dV l s:Int))).2 ⟨z,rfl⟩) rfl).1
theorem Cnt.get {l:List Dk.Rc}{es:List bD}(h:Cnt l es){s:ByteArray}(hs:aC false s=0):jT es s=(dV l s:Int):=by
 unfold jT;rw[if_pos hs,h.has];by_cases z:0<dV l s
 ·rw[decide_eq_true z,if_pos rfl];have:=(PY h.good.1 ((h.mem (s,(dV l s:Int))).2 ⟨z,rfl⟩) rfl).2;rw[<-this]
 ·rw[decide_eq_false z,if_neg (by simp)];omega
theorem Cnt.put {l:List Dk.Rc}{es:List bD}(h:Cnt l es)(r:Dk.Rc)(hs:aC false r.s=0)(hz:r.s.size<=140737488355328)(hr:0<dV l r.s\/es.length<100):Cnt (l++[r]) (pF es r.s ((dV l r.s:Int)+1)):=by
 refine⟨Tz h.good _ hz,λe=>?_⟩;rw[Zd h.good _ hs (by rw[h.has];simpa using hr),h.mem,fF,qB];by_cases q:e.1=r.s
 ·rw[if_pos q.symm,q];constructor
  ·rintro (z|z)
   ·rw[z];exact⟨by omega,by simp⟩
   ·exact absurd rfl z.2
  ·rintro ⟨_,z⟩;exact .inl (Prod.ext q (by rw[z];simp))
 ·rw[if_neg (λz=>q z.symm),Nat.add_zero];constructor
  ·rintro (z|z)
   ·exact absurd (by rw[z]) q
   ·exact z.1
  ·intro z;exact .inr ⟨z,q⟩
theorem Cnt.less {A B:List Dk.Rc}{x:Dk.Rc}{es:List bD}(h:Cnt (A++x::B) es)(hs:aC false x.s=0)(hz:x.s.size<=140737488355328):(dV (A++B) x.s=0->Cnt (A++B) (qp es x.s))/\Cnt (A++B) (if dV (A++B) x.s=0 then qp es x.s else pF es x.s (dV (A++B) x.s:Int)):=by
 have hc:∀s,dV (A++x::B) s=dV (A++B) s+(if x.s=s then 1 else 0):=λs=>by
  rw[show A++x::B=A++([x]++B) from rfl,fF,fF,fF,qB];omega
 have hd:dV (A++B) x.s=0->Cnt (A++B) (qp es x.s):=λh0=>by
  refine⟨aaE h.good _,λe=>?_⟩;rw[adn h.good hs,h.mem,hc];by_cases q:e.1=x.s
  ·rw[q,h0];simp
  ·rw[if_neg (λz=>q z.symm),Nat.add_zero];exact⟨λz=>z.1,λz=>⟨z,q⟩⟩
 refine⟨hd,?_⟩;by_cases h0:dV (A++B) x.s=0
 ·rw[if_pos h0];exact hd h0
 ·rw[if_neg h0];refine⟨Tz h.good _ hz,λe=>?_⟩;rw[Zd h.good _ hs (.inl (by rw[h.has,hc,if_pos rfl];simp)),h.mem,hc];by_cases q:e.1=x.s
  ·rw[q];constructor
   ·rintro (z|z)
    ·rw[z];exact⟨by omega,rfl⟩
    ·exact absurd rfl z.2
   ·rintro ⟨_,z⟩;exact .inl (Prod.ext q z)
  ·rw[if_neg (λz=>q z.symm),Nat.add_zero];constructor
   ·rintro (z|z)
    ·exact absurd (by rw[z]) q
    ·exact z.1
   ·intro z;exact .inr ⟨z,q⟩
theorem Cnt.len {l:List Dk.Rc}{es:List bD}(h:Cnt l es):es.length=Dk.dX l:=by
 have hn:(es.map (·.1)).Nodup:=by
  have:=h.good.1;unfold Ord at this;rw[List.Nodup,List.pairwise_map];exact this.imp (λ{a b} hab e=>by rw[e,lM] at hab;cases hab)
 have hm:∀s,s∈es.map (·.1)↔s∈Dk.yF l:=λs=>by
  rw[Dk.jK,oq,decide_eq_true_eq,List.mem_map];constructor
  ·rintro ⟨e,he,rfl⟩;exact((h.mem e).1 he).1
  ·intro z;exact⟨(s,(dV l s:Int)),(h.mem _).2 ⟨z,rfl⟩,rfl⟩
 rw[Dk.lQ,<-List.length_map (f:=λe:bD=>e.1)];exact Nat.le_antisymm (Dk.sS _ _ hn (λs hs=>(hm s).1 hs)) (Dk.sS _ _ (Dk.lS l) (λs hs=>(hm s).2 hs))
def lF (es:List bD)(f:ByteArray):List bD:=if aC true f=0 then lN es f else []
def vH:List bD->Int
 | []=>0
 | e::es=>e.2+vH es
theorem wJ:∀a b:List bD,vH (a++b)=vH a+vH b
 | [],b=>by simp[vH]
 | e::a,b=>by rw[List.cons_append,vH,vH,wJ a b,Int.add_assoc]
theorem ai2 {es:List bD}{k:Nat}(h:k<es.length):vH (es.take (k+1))=vH (es.take k)+(en es k).2:=by
 rw[List.take_succ_eq_append_getElem h,wJ];have:en es k=es[k]:=by unfold en;rw[List.getElem?_eq_getElem h];rfl
 rw[this];simp[vH]
theorem JU:∀{es:List bD},(∀e∈es,0<=e.2)->0<=vH es
 | [],_=>Int.le_refl _
 | e::es,h=>by
  have h1:=h e (List.mem_cons_self ..);have h2:=JU (es:=es) (λx hx=>h x (List.mem_cons_of_mem _ hx));rw[vH];omega
theorem aiu {es:List bD}(h:∀e∈es,0<=e.2)(k:Nat):0<=vH (es.take k)/\vH (es.take k)<=vH es:=by
 have h1:=JU (es:=es.take k) (λx hx=>h x (List.mem_of_mem_take hx));have h2:=JU (es:=es.drop k) (λx hx=>h x (List.mem_of_mem_drop hx));have h3:=wJ (es.take k) (es.drop k);rw[List.take_append_drop] at h3;omega
def AY (l:List Dk.Rc):List ByteArray->Nat
 | []=>0
 | s::N=>dV l s+AY l N
theorem NM {r:Dk.Rc}{l:List Dk.Rc}:∀{N:List ByteArray},r.s∉N->AY (r::l) N=AY l N
 | [],_=>rfl
 | s::N,h=>by
  have h1:¬r.s=s:=λe=>h (by rw[e];exact List.mem_cons_self ..)
  rw[AY,AY,NM (N:=N) (λz=>h (List.mem_cons_of_mem _ z)),show r::l=[r]++l from rfl,fF,qB,if_neg h1,Nat.zero_add]
theorem TN {r:Dk.Rc}{l:List Dk.Rc}:∀{N:List ByteArray},N.Nodup->r.s∈N->AY (r::l) N=AY l N+1
 | [],_,h=>by cases h
 | s::N,hn,h=>by
  obtain⟨h1,h2⟩:=List.nodup_cons.1 hn;rw[AY,AY,show r::l=[r]++l from rfl,fF,qB];by_cases e:r.s=s
  ·rw[if_pos e,show[r]++l=r::l from rfl,NM (by rw[e];exact h1)];omega
  ·rw[if_neg e,show[r]++l=r::l from rfl,TN h2 (by
    rcases List.mem_cons.1 h with z|z
    ·exact absurd z e
    ·exact z)]
   omega
theorem TP:∀N:List ByteArray,AY [] N=0
 | []=>rfl
 | s::N=>by rw[AY,TP N];rfl
theorem TQ {N:List ByteArray}(hn:N.Nodup):∀{l:List Dk.Rc},(∀r∈l,r.s∈N)->AY l N=l.length
 | [],_=>TP N
 | r::l,h=>by
  rw[TN hn (h r (List.mem_cons_self ..)),TQ hn (λx hx=>h x (List.mem_cons_of_mem _ hx))];rfl
theorem ado {l:List Dk.Rc}:∀{es:List bD},(∀e∈es,e.2=(dV l e.1:Int))->vH es=(AY l (es.map (·.1)):Int)
 | [],_=>rfl
 | e::es,h=>by
  rw[vH,List.map_cons,AY,ado (λx hx=>h x (List.mem_cons_of_mem _ hx)),h e (List.mem_cons_self ..)];omega
theorem Cnt.sum {l:List Dk.Rc}{es:List bD}(h:Cnt l es):vH es=(l.length:Int):=by
 have hn:(es.map (·.1)).Nodup:=by
  have:=h.good.1;unfold Ord at this;rw[List.Nodup,List.pairwise_map];exact this.imp (λ{a b} hab e=>by rw[e,lM] at hab;cases hab)
 rw[ado (λe he=>((h.mem e).1 he).2),TQ hn (λr hr=>?_)];refine List.mem_map.2 ⟨(r.s,(dV l r.s:Int)),(h.mem _).2 ⟨?_,rfl⟩,rfl⟩;have:=oq l r.s;have h2:Dk.fU l r.s=true:=by
  unfold Dk.fU;exact List.any_eq_true.2 ⟨r,hr,by simp⟩
 rw[h2] at this;simpa using this.symm
theorem Cnt.pos {l:List Dk.Rc}{es:List bD}(h:Cnt l es):∀e∈es,0<=e.2:=λe he=>by
 rw[((h.mem e).1 he).2];omega
theorem adp:∀(n:Nat) (l:List Dk.Rc),l.length=n->(∀x∈l,aC false x.s=0/\x.s.size<=140737488355328)->Dk.dX l<=100->∃es,Cnt l es
 | 0,l,hn,_,_=>by
  obtain rfl:=List.length_eq_zero_iff.1 hn;exact⟨[],Cnt.nil⟩
 | n+1,l,hn,h,dQ=>by
  rcases List.eq_nil_or_concat l with rfl|⟨L,b,rfl⟩
  ·cases hn
  ·rw[List.concat_eq_append] at hn h dQ ⊢;rw[Dk.nM] at dQ;rw[List.length_append] at hn;have hn:L.length=n:=by simpa using hn
   obtain⟨es,hc⟩:=adp n L hn (λx hx=>h x (List.mem_append.2 (.inl hx))) (by omega);have hb:=h b (List.mem_append.2 (.inr (List.mem_singleton.2 rfl)));refine⟨_,hc.put b hb.1 hb.2 ?_⟩;by_cases z:Dk.fU L b.s=true
   ·left;rw[oq] at z;simpa using z
   ·right;rw[if_neg z] at dQ;rw[hc.len];omega
theorem JV:aC true ⟨#[62]⟩=0:=by decide +kernel
theorem agC:Pl.toks ⟨#[62]⟩=[⟨#[62]⟩]:=by decide +kernel
theorem aaR (s:ByteArray):∃t ts,Pl.toks s=t::ts:=by
 have h:=Pl.ny s
 cases hs:Pl.toks s with
 | cons t ts=>exact⟨t,ts,rfl⟩
 | nil =>
  rw[hs] at h;exact absurd h.symm (Pl.tY _)
theorem Cnt.ai3 {l:List Dk.Rc}{es:List bD}(h:Cnt l es):lF es ⟨#[62]⟩=es:=by
 unfold lF lN;rw[if_pos JV];refine List.filter_eq_self.2 (λe he=>?_);have hs:=(h.good.2.2 e he).1;obtain⟨t,ts,ht⟩:=aaR e.1;unfold bC;rw[JV,hs,agC,ht];simp[bT,rU]
end Go.Proofs.YtidekgipblnpkaaGreatDoor
namespace Go.Proofs.YtidekgipblnpkaaGreatDoor.Dk
open Go.RowKit Go.Proofs.Tryz
def pq:List Rc->Int->Nat
 | [],_=>0
 | r::l,n=>if r.q<n then pq l n+1 else 0
def kW (l:List Rc):Prop:=l.Pairwise λa b=>a.q<b.q
theorem Ze:∀(l:List Rc) (n:Int),pq l n<=l.length
 | [],_=>Nat.le_refl _
 | r::l,n=>by
  have:=Ze l n;rw[pq,List.length_cons];split<;>omega
theorem wK {l:List Rc}{k:Nat}(h:k<l.length):rc l k∈l:=by rw[cu h];exact List.getElem_mem h
theorem NP:∀(l:List Rc) (n:Int) (k:Nat),k<pq l n->(rc l k).q<n
 | [],n,k,h=>by simp[pq] at h
 | r::l,n,k,h=>by
  rw[pq] at h;by_cases hr:r.q<n
  ·rw[if_pos hr] at h;match k,h with
   | 0,_=>exact hr
   | k+1,h=>exact NP l n k (by omega)
  ·rw[if_neg hr] at h;omega
theorem adq:∀(l:List Rc) (n:Int),pq l n<l.length->n<=(rc l (pq l n)).q
 | [],n,h=>by simp[pq] at h
 | r::l,n,h=>by
  rw[pq] at h ⊢;by_cases hr:r.q<n
  ·rw[if_pos hr] at h ⊢;have:=adq l n (by rw[List.length_cons] at h;omega);exact this
  ·rw[if_neg hr];have e:rc (r::l) 0=r:=rfl;rw[e];omega
theorem xX {l:List Rc}(h:kW l){i j:Nat}(hij:i<j)(hj:j<l.length):(rc l i).q<(rc l j).q:=by
 rw[cu (by omega),cu hj];exact List.pairwise_iff_getElem.1 h i j (by omega) hj hij
theorem ahM {l:List Rc}(h:kW l)(n:Int)(k:Nat)(h1:pq l n<=k)(h2:k<l.length):n<=(rc l k).q:=by
 have ha:=adq l n (by omega);rcases Nat.eq_or_lt_of_le h1 with e|e
 ·rw[<-e];exact ha
 ·have:=xX h e h2;omega
theorem ahN {l:List Rc}{n:Int}{i:Nat}(hi:i<=l.length)(h1:∀j,j<i->(rc l j).q<n)(h2:∀j,i<=j->j<l.length->n<=(rc l j).q):i=pq l n:=by
 rcases Nat.lt_trichotomy i (pq l n) with h|h|h
 ·have a:=NP l n i h;have:=Ze l n;have:=h2 i (Nat.le_refl _) (by omega);omega
 ·exact h
 ·have a:=adq l n (by omega);have:=h1 (pq l n) h;omega
theorem WI {l:List Rc}(h:kW l)(n:Int):seqB l n=(decide (pq l n<l.length)&&decide ((rc l (pq l n)).q=n)):=by
 unfold seqB;rw[Bool.eq_iff_iff,List.any_eq_true,Bool.and_eq_true,decide_eq_true_eq,decide_eq_true_eq];constructor
 ·rintro ⟨x,hx,e⟩;have e:x.q=n:=of_decide_eq_true e;obtain⟨j,hj,rfl⟩:=List.getElem_of_mem hx;rw[<-cu hj] at e;have hp:pq l n=j:=by
   refine(ahN (by omega) (λi hi=>?_) (λi hi hl=>?_)).symm
   ·have:=xX h hi hj;omega
   ·rcases Nat.eq_or_lt_of_le hi with z|z
    ·rw[<-z];omega
    ·have:=xX h z hl;omega
  rw[hp];exact⟨hj,e⟩
 ·rintro ⟨h1,h2⟩;exact⟨_,wK h1,by rw[h2];simp⟩
theorem adr {l:List Rc}(h:kW l){n:Int}(hp:pq l n<l.length):seqB l n=decide ((rc l (pq l n)).q=n):=by
 rw[WI h,decide_eq_true hp,Bool.true_and]
theorem agD {l:List Rc}(h:kW l){n:Int}(hp:¬pq l n<l.length):seqB l n=false:=by
 rw[WI h,decide_eq_false hp,Bool.false_and]
theorem AZ {l:List Rc}(h:kW l){n:Int}(hs:seqB l n=true):pq l n<l.length/\(rc l (pq l n)).q=n:=by
 rw[WI h,Bool.and_eq_true,decide_eq_true_eq,decide_eq_true_eq] at hs;exact hs
theorem TR {l:List Rc}{k:Nat}(h:k<l.length):l=l.take k++rc l k::l.drop (k+1):=by
 rw[cu h,<-List.drop_eq_getElem_cons h,List.take_append_drop]
theorem get_hit {l:List Rc}(h:kW l){n:Int}(hs:seqB l n=true):AP l n=some (rc l (pq l n)):=by
 obtain⟨h1,h2⟩:=AZ h hs;unfold AP;rw[List.find?_eq_some_iff_getElem];refine⟨by rw[h2];simp,pq l n,h1,(cu h1).symm,λj hj=>?_⟩;have:=NP l n j hj;rw[cu (by omega)] at this;simp only[Bool.not_eq_true',decide_eq_false_iff_not];omega
theorem get_none {l:List Rc}{n:Int}(hs:seqB l n=false):AP l n=none:=by
 unfold AP;rw[List.find?_eq_none];intro x hx;unfold seqB at hs;rw[List.any_eq_false] at hs;exact hs x hx
theorem CZ {p q:Rc->Bool}:∀{l:List Rc},(∀x∈l,p x=q x)->l.find? p=l.find? q
 | [],_=>rfl
 | x::l,h=>by
  rw[List.find?_cons,List.find?_cons,h x (List.mem_cons_self ..),CZ (l:=l) (λy hy=>h y (List.mem_cons_of_mem _ hy))]
theorem WJ {l:List Rc}(h:kW l)(f:ByteArray)(n:Int):oP f l n=(l.drop (pq l n)).find? λr=>lY f r.s:=by
 unfold oP;have e:l.find? (λr=>lY f r.s&&decide (n<=r.q))=((l.take (pq l n))++(l.drop (pq l n))).find? (λr=>lY f r.s&&decide (n<=r.q)):=by rw[List.take_append_drop]
 rw[e,List.find?_append];have e1:(l.take (pq l n)).find? (λr=>lY f r.s&&decide (n<=r.q))=none:=by
  rw[List.find?_eq_none];intro x hx;obtain⟨j,hj,rfl⟩:=List.getElem_of_mem hx;rw[List.length_take] at hj;have:=NP l n j (by omega);rw[cu (by omega)] at this;rw[List.getElem_take];simp only[Bool.and_eq_true,decide_eq_true_eq,not_and];intro _;omega
 rw[e1,Option.none_or];refine CZ (λx hx=>?_);obtain⟨j,hj,rfl⟩:=List.getElem_of_mem hx;rw[List.length_drop] at hj;rw[List.getElem_drop];have:=ahM h n (pq l n+j) (by omega) (by omega);rw[cu (by omega)] at this;rw[decide_eq_true this,Bool.and_true]
def LG (l:List Rc)(i:Nat):List Rc:=l.take i++l.drop (i+1)
theorem TS {l:List Rc}{i:Nat}(h:i<l.length):(LG l i).length=l.length-1:=by
 unfold LG;rw[List.length_append,List.length_take,List.length_drop];omega
theorem ads {l:List Rc}(h:kW l){n:Int}(hs:seqB l n=true):l.filter (λx=>!decide (x.q=n))=LG l (pq l n):=by
 obtain⟨h1,h2⟩:=AZ h hs;unfold LG;have e:=congrArg (List.filter λx:Rc=>!decide (x.q=n)) (TR h1);rw[e,List.filter_append,List.filter_cons,h2];simp only[decide_true,Bool.not_true,Bool.false_eq_true,if_false];congr 1
 ·refine List.filter_eq_self.2 (λx hx=>?_);obtain⟨j,hj,rfl⟩:=List.getElem_of_mem hx;rw[List.length_take] at hj;have:=NP l n j (by omega);rw[cu (by omega)] at this;rw[List.getElem_take];simp only[Bool.not_eq_true',decide_eq_false_iff_not];omega
 ·refine List.filter_eq_self.2 (λx hx=>?_);obtain⟨j,hj,rfl⟩:=List.getElem_of_mem hx;rw[List.length_drop] at hj;have:=xX h (i:=pq l n) (j:=pq l n+1+j) (by omega) (by omega);rw[cu (l:=l) (k:=pq l n+1+j) (by omega)] at this;rw[List.getElem_drop];simp only[Bool.not_eq_true',decide_eq_false_iff_not];omega
def kX (f:ByteArray)(l:List Rc):List Rc:=l.filter λx=>!lY f x.s
theorem Dc {f:ByteArray}{l:List Rc}{k:Nat}(h:k<l.length):kX f (l.take (k+1))=kX f (l.take k)++(if lY f (rc l k).s then [] else [rc l k]):=by
 unfold kX;rw[List.take_succ_eq_append_getElem h,<-cu h,List.filter_append]
 cases e:lY f (rc l k).s<;>simp[e]
theorem JW (f:ByteArray)(l:List Rc):(kX f l).length<=l.length:=List.length_filter_le _ _
theorem adt {l:List Rc}(h:kW l)(f:ByteArray)(n:Int):l.filter (λx=>!(decide (x.q<n)&&lY f x.s))=kX f (l.take (pq l n))++l.drop (pq l n):=by
 have e:=congrArg (List.filter λx:Rc=>!(decide (x.q<n)&&lY f x.s)) (List.take_append_drop (pq l n) l).symm;rw[e,List.filter_append];congr 1
 ·unfold kX;refine List.filter_congr (λx hx=>?_);obtain⟨j,hj,rfl⟩:=List.getElem_of_mem hx;rw[List.length_take] at hj;have:=NP l n j (by omega);rw[cu (by omega)] at this;rw[List.getElem_take,decide_eq_true this,Bool.true_and]
 ·refine List.filter_eq_self.2 (λx hx=>?_);obtain⟨j,hj,rfl⟩:=List.getElem_of_mem hx;rw[List.length_drop] at hj;have:=ahM h n (pq l n+j) (by omega) (by omega);rw[cu (by omega)] at this;rw[List.getElem_drop,decide_eq_false (by omega),Bool.false_and];rfl
def WL (es:List bD)(n:Int)(s:ByteArray):List bD:=if 1<n then pF es s (n-1) else qp es s
theorem Cnt.off {A B:List Rc}{x:Rc}{es:List bD}(h:Cnt (A++x::B) es)(hs:aC false x.s=0)(hz:x.s.size<=140737488355328):Cnt (A++B) (WL es (jT es x.s) x.s):=by
 have hc:dV (A++x::B) x.s=dV (A++B) x.s+1:=by
  rw[show A++x::B=A++([x]++B) from rfl,fF,fF,fF,qB,if_pos rfl];omega
 have h2:=(h.less hs hz).2;unfold WL;rw[h.get hs,hc];by_cases h0:dV (A++B) x.s=0
 ·rw[if_pos h0] at h2;rw[if_neg (by omega)];exact h2
 ·rw[if_neg h0] at h2;rw[if_pos (by omega),show((dV (A++B) x.s+1:Nat):Int)-1=(dV (A++B) x.s:Int) by omega];exact h2
theorem LJ:Maps.Keyed prog 9:=Maps.string_keyed underlying9
def kS (s:ByteArray):Lit:=.string s.data.toList
theorem keyS {s:ByteArray}(h:s.size<=maxLen):keyOf prog 9 (.string s)=some (kS s):=WideMaps.keyOf_string_mk underlying9 h
theorem TU {a b:ByteArray}(h:a≠b):kS a≠kS b:=λe=>h (by
 unfold kS at e;have:=Lit.string.inj e;apply ByteArray.ext;exact Array.ext' this)
theorem ahO (w:World):(zeroValue 3).run prog w=.ok (.int .i64 0) w:=by kernel_rfl
structure QZ (w:World)(b:Nat)(l:List Rc)(D:DataW Unit):Prop where
 own:w.ownsMap prog 9 (plainElem prog 3) b l.length D
 at':∀s:ByteArray,s.size<=maxLen->D.atKey (kS s) (.lit (.int .i64 0))=.lit (.int .i64 (dV l s:Int))
 has:∀s:ByteArray,s.size<=maxLen->Maps.has D (kS s)=decide (0<dV l s)
 size:Maps.size D=dX l
theorem QZ.made (w:World):QZ (w.alloc (.map #[] 0)) w.heap.size [] (.map []):=by
 refine⟨World.ownsMap_made _ _ _ _,λs _=>?_,λs _=>?_,rfl⟩
 ·simp[DataW.atKey,dV]
 ·simp[Maps.has,dV]
theorem Qb (s:ByteArray):WideAt.IsKeyLit (kS s):=by unfold kS;trivial
theorem QZ.put {w w':World}{b:Nat}{l:List Rc}{D:DataW Unit}(h:QZ w b l D)(r:Rc)(hs:r.s.size<=maxLen)(h':w'.ownsMap prog 9 (plainElem prog 3) b (l.length+1) (D.put (kS r.s) (.lit (.int .i64 ((dV l r.s:Int)+1))))):QZ w' b (l++[r]) (D.put (kS r.s) (.lit (.int .i64 ((dV l r.s:Int)+1)))):=by
 have hD:=h.own.tidy LJ;refine⟨by rw[List.length_append,List.length_singleton];exact h',λs hz=>?_,λs hz=>?_,?_⟩
 ·rw[fF,qB];by_cases e:r.s=s
  ·rw[if_pos e,<-e,Maps.atKey_put_same hD.isMap (Qb _)];simp
  ·rw[if_neg e,Maps.atKey_put_other (TU (λz=>e z.symm)),h.at' s hz];simp
 ·rw[fF,qB];by_cases e:r.s=s
  ·rw[if_pos e,<-e,Maps.has_put_same hD.isMap (Qb _)];simp
  ·rw[if_neg e,Maps.has_put_other (TU (λz=>e z.symm)),h.has s hz];simp
 ·rw[Maps.size_put hD,h.has _ hs,h.size,nM,oq]
  cases decide (0<dV l r.s)<;>simp
theorem QZ.drew {w:World}{b:Nat}{l:List Rc}{D:DataW Unit}(h:QZ w b l D):QZ w.drew b l D:=⟨h.own.drew,h.at',h.has,h.size⟩
theorem QZ.drewN {w:World}{b:Nat}{l:List Rc}{D:DataW Unit}(h:QZ w b l D)(n:Nat):QZ (w.drewN n) b l D:=⟨h.own,h.at',h.has,h.size⟩
def qN (w:World)(B c:Nat)(F:Nat->Prop)(s:aG):Prop :=
 ∃v,(B<=c/\c<w.heap.size)/\w.cell? ⟨c,0,none⟩=some v/\w.cell? ⟨c,1,none⟩=some (.int .i64 s.last)/\w.frozen? ⟨c,0,none⟩=false/\w.frozen? ⟨c,1,none⟩=false/\bK w B v s.l/\v.ownBlock≠some c/\∀k,F k↔k=c\/v.ownBlock=some k
theorem qN.own {w:World}{B c:Nat}{F:Nat->Prop}{s:aG}(h:qN w B c F s):∀k,F k->B<=k/\k<w.heap.size:=λk hk=>by
 obtain⟨v,h1,_,_,_,_,h6,_,h8⟩:=h;rcases(h8 k).1 hk with y|y
 ·subst y;exact h1
 ·exact World.ownsRow.lt h6 k y
theorem qN.dh {w w':World}{B c:Nat}{F:Nat->Prop}{s:aG}{A:Nat->Prop}(h:qN w B c F s)(hc:aF A w w')(hn:∀k,F k->¬A k):qN w' B c F s:=by
 obtain⟨v,h1,h2,h3,h4,h5,h6,h7,h8⟩:=h;have hcA:¬A c:=hn c ((h8 c).2 (.inl rfl));exact⟨v,⟨h1.1,Nat.lt_of_lt_of_le h1.2 hc.size⟩,by rw[hc.cell (p:=⟨c,0,none⟩) h1.2 hcA];exact h2,by rw[hc.cell (p:=⟨c,1,none⟩) h1.2 hcA];exact h3,by rw[hc.frozen (p:=⟨c,0,none⟩) h1.2 hcA];exact h4,by rw[hc.frozen (p:=⟨c,1,none⟩) h1.2 hcA];exact h5,h6.dh hc (λg hg=>hn g ((h8 g).2 (.inr hg))),h7,h8⟩
theorem qN.below {w w':World}{B c:Nat}{F:Nat->Prop}{s:aG}(h:qN w B c F s)(hb:Below w.heap.size w w'):qN w' B c F s:=h.dh (A:=λ_=>False) (aF.of_below hb) (λ_ _ z=>z)
theorem qN.read {w:World}{B c:Nat}{F:Nat->Prop}{s:aG}(h:qN w B c F s):∃a cap,w.cell? ⟨c,0,none⟩=some (.slice a s.l.length cap)/\w.cell? ⟨c,1,none⟩=some (.int .i64 s.last)/\s.l.length<=cap/\cap<=maxLen/\qM w a s.l/\c<w.heap.size:=by
 obtain⟨v,h1,h2,h3,_,_,h6,_⟩:=h;obtain⟨a,cap,rfl,x1,x2,x3⟩:=h6.shape;exact⟨a,cap,h2,h3,x1,x2,x3,h1.2⟩
theorem aaS {l:List Rc}{k:Nat}(h:k<l.length)(n:Int):seqB (l.take (k+1)) n=(seqB (l.take k) n||decide ((rc l k).q=n)):=by
 rw[List.take_succ_eq_append_getElem h,cu h];unfold seqB;rw[List.any_append];simp
end Go.Proofs.YtidekgipblnpkaaGreatDoor.Dk
namespace Go.Proofs.YtidekgipblnpkaaGreatDoor
open Go.Joins Go.Deep Go.WideShapes Go.ChangeShapes Go.ChangeAt Go.RowKit Go.Proofs.Tryz
section
variable {H:Type}{enc:TypeId×Value->H}{P:Program}{w:World}{base:Nat}{spare:Nat->Bool}{held:Bool}
theorem agE {α:Type}{cs:Array α}(h:cs.size=10):∃c0 c1 c2 c3 c4 c5 c6 c7 c8 c9,cs=#[c0,c1,c2,c3,c4,c5,c6,c7,c8,c9]:=by
 obtain⟨l⟩:=cs;match l,h with
 | [c0,c1,c2,c3,c4,c5,c6,c7,c8,c9],_=>exact⟨c0,c1,c2,c3,c4,c5,c6,c7,c8,c9,rfl⟩
theorem LK {t:TypeId}{f0 f1 f2 f3 f4 f5 f6 f7 f8 f9:Field}{fuel:Nat}{cs:List Value}{x:DataW H×List MemPlace}(ht:P.underlying t=some (.struct #[f0,f1,f2,f3,f4,f5,f6,f7,f8,f9]))(h:DataW.trod enc P w base spare held fuel t cs=some x) :
 ∃y0 y1 y2 y3 y4 y5 y6 y7 y8 y9 n,x=(.agg [y0.1,y1.1,y2.1,y3.1,y4.1,y5.1,y6.1,y7.1,y8.1,y9.1],y0.2++(y1.2++(y2.2++(y3.2++(y4.2++(y5.2++(y6.2++(y7.2++(y8.2++(y9.2))))))))))/\DataW.trod enc P w base spare held n f0.type ((cs.drop f0.offset).take (P.cellsOf f0.type))=some y0/\DataW.trod enc P w base spare held n f1.type ((cs.drop f1.offset).take (P.cellsOf f1.type))=some y1/\DataW.trod enc P w base spare held n f2.type ((cs.drop f2.offset).take (P.cellsOf f2.type))=some y2/\DataW.trod enc P w base spare held n f3.type ((cs.drop f3.offset).take (P.cellsOf f3.type))=some y3/\DataW.trod enc P w base spare held n f4.type ((cs.drop f4.offset).take (P.cellsOf f4.type))=some y4/\DataW.trod enc P w base spare held n f5.type ((cs.drop f5.offset).take (P.cellsOf f5.type))=some y5/\DataW.trod enc P w base spare held n f6.type ((cs.drop f6.offset).take (P.cellsOf f6.type))=some y6/\DataW.trod enc P w base spare held n f7.type ((cs.drop f7.offset).take (P.cellsOf f7.type))=some y7/\DataW.trod enc P w base spare held n f8.type ((cs.drop f8.offset).take (P.cellsOf f8.type))=some y8/\DataW.trod enc P w base spare held n f9.type ((cs.drop f9.offset).take (P.cellsOf f9.type))=some y9:=by
 obtain⟨xs,n,_,rfl,hl,hlen,hf⟩:=DataW.trod_struct ht h;match xs,hlen with
 | [y0,y1,y2,y3,y4,y5,y6,y7,y8,y9],_=>exact⟨y0,y1,y2,y3,y4,y5,y6,y7,y8,y9,n,by simp,by simpa using hf 0 f0 rfl,by simpa using hf 1 f1 rfl,by simpa using hf 2 f2 rfl,by simpa using hf 3 f3 rfl,by simpa using hf 4 f4 rfl,by simpa using hf 5 f5 rfl,by simpa using hf 6 f6 rfl,by simpa using hf 7 f7 rfl,by simpa using hf 8 f8 rfl,by simpa using hf 9 f9 rfl⟩
theorem WM {r:Reach}{b0:Nat}{t:TypeId}{f0 f1 f2 f3 f4 f5 f6 f7 f8 f9:Field}{v:Value}{d:DataW H}{p:List MemPlace}(hs:P.underlying t=some (.struct #[f0,f1,f2,f3,f4,f5,f6,f7,f8,f9]))(hone:oneCellFields P #[f0,f1,f2,f3,f4,f5,f6,f7,f8,f9]=true)(hC:P.cellsOf t=10)
 (hv:Value.okWide P w r b0 t v) (h:DataW.Trod enc P w base spare held t v d p) :
 ∃(v0 v1 v2 v3 v4 v5 v6 v7 v8 v9:Value) (y0 y1 y2 y3 y4 y5 y6 y7 y8 y9:DataW H×List MemPlace) (n:Nat),v=.agg #[v0,v1,v2,v3,v4,v5,v6,v7,v8,v9]/\d=.agg [y0.1,y1.1,y2.1,y3.1,y4.1,y5.1,y6.1,y7.1,y8.1,y9.1]/\DataW.trod enc P w base spare held n f0.type [v0]=some y0/\DataW.trod enc P w base spare held n f1.type [v1]=some y1/\DataW.trod enc P w base spare held n f2.type [v2]=some y2/\DataW.trod enc P w base spare held n f3.type [v3]=some y3/\DataW.trod enc P w base spare held n f4.type [v4]=some y4/\DataW.trod enc P w base spare held n f5.type [v5]=some y5/\DataW.trod enc P w base spare held n f6.type [v6]=some y6/\DataW.trod enc P w base spare held n f7.type [v7]=some y7/\DataW.trod enc P w base spare held n f8.type [v8]=some y8/\DataW.trod enc P w base spare held n f9.type [v9]=some y9:=by
 obtain⟨cs,rfl,hsz⟩:=okWide_struct hs hv;obtain⟨c0,c1,c2,c3,c4,c5,c6,c7,c8,c9,rfl⟩:=agE (hsz.trans hC);obtain⟨fuel,hf⟩:=h;obtain⟨y0,y1,y2,y3,y4,y5,y6,y7,y8,y9,n,hx,h0,h1,h2,h3,h4,h5,h6,h7,h8,h9⟩:=LK hs hf;obtain⟨o0,k0⟩:=hone_of hone 0 f0 rfl;obtain⟨o1,k1⟩:=hone_of hone 1 f1 rfl;obtain⟨o2,k2⟩:=hone_of hone 2 f2 rfl;obtain⟨o3,k3⟩:=hone_of hone 3 f3 rfl;obtain⟨o4,k4⟩:=hone_of hone 4 f4 rfl;obtain⟨o5,k5⟩:=hone_of hone 5 f5 rfl;obtain⟨o6,k6⟩:=hone_of hone 6 f6 rfl;obtain⟨o7,k7⟩:=hone_of hone 7 f7 rfl;obtain⟨o8,k8⟩:=hone_of hone 8 f8 rfl;obtain⟨o9,k9⟩:=hone_of hone 9 f9 rfl;simp only[Prod.mk.injEq] at hx
 exact⟨c0,c1,c2,c3,c4,c5,c6,c7,c8,c9,y0,y1,y2,y3,y4,y5,y6,y7,y8,y9,n,rfl,hx.1,by simpa[Value.cells,o0,k0] using h0,by simpa[Value.cells,o1,k1] using h1,by simpa[Value.cells,o2,k2] using h2,by simpa[Value.cells,o3,k3] using h3,by simpa[Value.cells,o4,k4] using h4,by simpa[Value.cells,o5,k5] using h5,by simpa[Value.cells,o6,k6] using h6,by simpa[Value.cells,o7,k7] using h7,by simpa[Value.cells,o8,k8] using h8,by simpa[Value.cells,o9,k9] using h9⟩
theorem zk {P:Program}{e:TypeId}{d:DataW H}{x:Nat}(hx:x∈d.weights P e):∀{l:List (DataW H)},d∈l->x∈DataW.weightsAll P e l
 | a::r,h=>by
  simp only[DataW.weightsAll,List.mem_append];rcases List.mem_cons.1 h with q|q
  ·subst q;exact .inl hx
  ·exact .inr (zk hx q)
end
theorem Qc:prog.cellsOf 9=1:=by kernel_rfl
theorem aiv:prog.bytesOf 9=16:=by kernel_rfl
theorem aiw:prog.cellsOf 24=10:=by kernel_rfl
theorem TV (f:Nat->ByteArray){n k:Nat}(h:k<n):tk ((List.range n).map f) k=f k:=by unfold tk;simp[h]
theorem pW {H:Type}{enc:TypeId×Value->H}{W:World}{base:Nat}{v:Value}{d:DataW H}{p:List MemPlace}(hv:Value.okWide prog W .any base 24 v)(h:DataW.Trod enc prog W 0 (λ_=>true) true 24 v d p)(hw:∀x∈DataW.weights prog 24 d,x<=reachBytes) :
 ∃(n:ByteArray) (a:Option Addr) (l:List ByteArray) (c:Nat) (x0 x1 x2 x3 x4 x5 x6 x7:Int),v=sQ n a l.length c x0 x1 x2 x3 x4 x5 x6 x7/\n.size<=140737488355328/\jW W a l/\(∀k,k<l.length->(tk l k).size<=140737488355328)/\l.length<=140737488355328/\l.length<=c:=by
 obtain⟨u0,u1,u2,u3,u4,u5,u6,u7,u8,u9,y0,y1,y2,y3,y4,y5,y6,y7,y8,y9,m,rfl,hd,g0,g1,g2,g3,g4,g5,g6,g7,g8,g9⟩:=WM underlying24 (by kernel_rfl) aiw hv h;obtain⟨n,e0,q0,_⟩:=DataW.trod_string underlying9 g0;obtain⟨x0,e2,q2,_⟩:=DataW.trod_int underlying3 g2;obtain⟨x1,e3,q3,_⟩:=DataW.trod_int underlying3 g3;obtain⟨x2,e4,q4,_⟩:=DataW.trod_int underlying3 g4;obtain⟨x3,e5,q5,_⟩:=DataW.trod_int underlying3 g5;obtain⟨x4,e6,q6,_⟩:=DataW.trod_int underlying3 g6;obtain⟨x5,e7,q7,_⟩:=DataW.trod_int underlying3 g7;obtain⟨x6,e8,q8,_⟩:=DataW.trod_int underlying3 g8
 obtain⟨x7,e9,q9,_⟩:=DataW.trod_int underlying3 g9;simp only[List.cons.injEq,and_true] at e0 e2 e3 e4 e5 e6 e7 e8 e9;subst e0 e2 e3 e4 e5 e6 e7 e8 e9;rcases open_strs underlying22 underlying9 Qc g1 with ⟨hcs,hx⟩|⟨a,len,cap,mm,Sx,hcs,hb,hl,hm,hmm,hx,hel⟩
 ·simp only[List.cons.injEq,and_true] at hcs;subst hcs;have hz:n.size<=140737488355328:=by
   have h:=hw n.data.toList.length (by rw[hd,q0];simp[DataW.weights,DataW.weightsEach,underlying24]);have e:n.data.toList.length=n.size:=by simp
   unfold reachBytes at h;omega
  exact⟨n,none,[],0,x0,x1,x2,x3,x4,x5,x6,x7,rfl,hz,λk hk=>by simp at hk,λk hk=>by simp at hk,by simp,by simp⟩
 ·simp only[List.cons.injEq,and_true] at hcs;subst hcs;have hx1:y1.1=DataW.slice ((List.range len).map λi=>.lit (.string (Sx i).data.toList)) ((List.range (mm-len)).map λj=>.lit (.string (Sx (len+j)).data.toList)):=by rw[hx]
  have hz:n.size<=140737488355328:=by
   have h:=hw n.data.toList.length (by rw[hd,q0];simp[DataW.weights,DataW.weightsEach,underlying24]);have e:n.data.toList.length=n.size:=by simp
   unfold reachBytes at h;omega
  have hlm:len<=mm:=by rw[hmm];split<;>omega
  have hsub:∀y∈DataW.weights (H:=H) prog 22 y1.1,y<=reachBytes:=λy hy=>hw y (by
   rw[hd];simp only[DataW.weights,underlying24];simp only[List.map_cons,List.map_nil];exact DataW.weights_mem_each (j:=1) rfl rfl _ hy)
  obtain⟨bm,om,spot⟩:=a;have hspot:len=0\/spot=none:=by
   by_cases h0:len=0
   ·exact .inl h0
   ·right;simpa[Addr.add] using World.cell?_spot (hel 0 (by omega)).1
  rcases hspot with h0|rfl
  ·subst h0;exact⟨n,some ⟨bm,om,spot⟩,[],cap,x0,x1,x2,x3,x4,x5,x6,x7,rfl,hz,λk hk=>by simp at hk,λk hk=>by simp at hk,by simp,by simp⟩
  ·refine⟨n,some ⟨bm,om,none⟩,(List.range len).map Sx,cap,x0,x1,x2,x3,x4,x5,x6,x7,by simp,hz,λk hk=>?_,λk hk=>?_,?_,by simpa using hl⟩
   ·have hk':k<len:=by simpa using hk
    have f0:=(hel k (by omega)).1;simp only[add_plain] at f0;exact⟨bm,om,rfl,World.block_lt_of_cell? _ _ f0,by rw[TV Sx hk'];exact f0⟩
   ·have hk':k<len:=by simpa using hk
    rw[TV Sx hk'];have hle:=hsub (Sx k).data.toList.length (by
     rw[hx1];simp only[DataW.weights,underlying22,List.mem_cons,List.mem_append];refine .inr (.inl (zk (d:=.lit (.string (Sx k).data.toList)) ?_ (List.mem_map.2 ⟨k,List.mem_range.2 hk',rfl⟩)));simp[DataW.weights])
    have e:(Sx k).data.toList.length=(Sx k).size:=by simp
    unfold reachBytes at hle;omega
   ·simp only[List.length_map,List.length_range];have hh:=hsub ((len+(mm-len))*prog.bytesOf 9) (by rw[hx1];simp[DataW.weights,underlying22]);rw[aiv] at hh;unfold reachBytes at hh;omega
end Go.Proofs.YtidekgipblnpkaaGreatDoor
