/- A part of the proof. -/
import Derived.Test.YtidekgipblnpkaaGreatDoorQ11
import Derived.Test.YtidekgipblnpkaaGreatDoorQ14
import Derived.Test.YtidekgipblnpkaaGreatDoorQ17
namespace Go.Proofs.YtidekgipblnpkaaGreatDoor.Dk
open Go.RowKit Go.Proofs.Tryz
theorem nR {r:Rc}(h:dA r=0)(h1:r.k=1):aC false r.s=0:=by
 have e:=xZ r.k r.q r.t r.s r.h r.d;have e2:jP r.k r.q r.t r.s r.h r.d=0:=h;rw[e2] at e;by_cases hb:Pk.inB r.k r.q r.t=false
 ·rw[if_pos hb] at e;cases e
 ·rw[if_neg hb,if_pos h1] at e;unfold LQ at e;by_cases z:aC false r.s≠0
  ·rw[if_pos z] at e;exact e.symm
  ·exact Classical.byContradiction z
theorem aG.Ok.cnt {s:aG}(h:s.Ok):∃es,Cnt s.l es:=adp _ s.l rfl (λx hx=>⟨nR (h.msg x hx).2 (h.msg x hx).1,by have:=(h.small hx).1;omega⟩) h.names
structure jA (SH:World->Nat->Nat->(Nat->Prop)->aG->Prop):Prop where
 wO:∀{w B q F s} (f:ByteArray) {es:List bD},f.size<=140737488355328->SH w B q F s->s.Ok->B<=w.heap.size->Cnt s.l es ->
  Calls prog 20 #[.pointer (some ⟨q,0,none⟩),.string f] w λe w'=>∃v',e=.returned (.tuple #[v',.int .i64 (aC true f)])/\eU w' w.heap.size v' (lF es f)/\Below w.heap.size w w'
end Go.Proofs.YtidekgipblnpkaaGreatDoor.Dk
namespace Go.Proofs.YtidekgipblnpkaaGreatDoor.Dk
open Go Go.Proofs.Tryz
def iL (p:Pn.aU)(m size now:Int)(x:Po)(es:List ay)(s:aG):Int×List ay×aG:=ji p m size now x (s.l.length+1) es s
theorem qC {es:List ay}{s:aG}{m size q now:Int}(h0:gV es s m size (bM q now)=0)(hm:∃r∈s.l,r.q=q):(iM es s m size (bM q now)).l.length<s.l.length:=by
 rw[xU h0];obtain⟨r,hr,e⟩:=hm;exact rE ⟨r,hr,by simp[e]⟩
section
variable {p:Pn.aU}{m size now q:Int}{x:Po}{es:List ay}{s:aG}
theorem J7 (hp:JQ p)(hz:¬(pv p 1≠0/\pv p 1<(oM x:Int))):∀(k k':Nat) (es:List ay) (s:aG),s.l.length<k->s.l.length<k'->ji p m size now x k es s=ji p m size now x k' es s
 | 0,_,_,_,h,_=>absurd h (Nat.not_lt_zero _)
 | _+1,0,_,_,_,h=>absurd h (Nat.not_lt_zero _)
 | k+1,k'+1,es,s,h,h'=>by
  unfold ji;by_cases c:(bH p s.l x||bP p s.l x)=false
  ·rw[if_pos c,if_pos c]
  ·rw[if_neg c,if_neg c];by_cases d:pv p 5=1
   ·rw[if_pos d,if_pos d]
   ·rw[if_neg d,if_neg d];by_cases e:gV es s m size (bM (uJ p s.l x) now)=0
    ·rw[if_neg (by rw[e];simp),if_neg (by rw[e];simp)];have:=qC e (go_in hp hz c);exact J7 hp hz k k' _ _ (by omega) (by omega)
    ·rw[if_pos e,if_pos e]
theorem Zh (c:(bH p s.l x||bP p s.l x)=false):iL p m size now x es s=(0,es,s):=by
 unfold iL ji;rw[if_pos c]
theorem J8 (c:¬(bH p s.l x||bP p s.l x)=false)(d:pv p 5=1):iL p m size now x es s=(8,es,s):=by
 unfold iL ji;rw[if_neg c,if_pos d]
theorem Ue (c:¬(bH p s.l x||bP p s.l x)=false)(d:pv p 5≠1)(e:gV es s m size (bM (uJ p s.l x) now)≠0):iL p m size now x es s=(gV es s m size (bM (uJ p s.l x) now),es,s):=by
 unfold iL ji;rw[if_neg c,if_neg d,if_pos e]
theorem Zi (hp:JQ p)(hz:¬(pv p 1≠0/\pv p 1<(oM x:Int)))(c:¬(bH p s.l x||bP p s.l x)=false)(d:pv p 5≠1)(e:gV es s m size (bM (uJ p s.l x) now)=0) :
 iL p m size now x es s=iL p m size now x (nN es s m size (bM (uJ p s.l x) now)) (iM es s m size (bM (uJ p s.l x) now)):=by
 have:=qC e (go_in hp hz c);unfold iL;rw[ji,if_neg c,if_neg d,if_neg (by rw[e];simp)];exact J7 hp hz _ _ _ _ (by omega) (by omega)
theorem Xa {a b:List Rc}(h:a.Sublist b)(c:bH p b x=false):bH p a x=false:=by
 have:=NI h x.s;unfold bH at c ⊢
 cases hp:decide (pv p 3≠0) with
 | false=>rfl
 | true =>
  rw[hp] at c;simp only[Bool.true_and,decide_eq_false_iff_not] at c ⊢;omega
theorem agJ (h0:gV es s m size (bM q now)=0):(iM es s m size (bM q now)).l.Sublist s.l:=by
 rw[xU h0];exact List.filter_sublist
end
theorem Xb {f s:ByteArray}(hf:aC false f=0)(hs:aC false s=0):lY f s=decide (s=f):=by
 unfold lY;have h:=uD (Pl.toks f) (Pl.toks s) (jJ hf) (λt ht=>(jJ hs t ht).1);by_cases e:s=f
 ·subst e;rw[decide_eq_true rfl];exact h.2 rfl
 ·rw[decide_eq_false e]
  cases hc:bT (Pl.toks f) (Pl.toks s) with
  | false=>rfl
  | true=>exact absurd (sN (h.1 hc)).symm e
def nxQ (f:ByteArray)(l:List Rc):Int:=((oP f l 0).map (·.q)).getD 0
theorem NU {α:Type}{p q:α->Bool}:∀{l:List α},(∀x∈l,p x=q x)->l.find? p=l.find? q
 | [],_=>rfl
 | x::l,h=>by
  have h0:=h x (List.mem_cons_self ..);have hr:=NU (l:=l) (λy hy=>h y (List.mem_cons_of_mem _ hy));rw[List.find?_cons,List.find?_cons,h0,hr]
theorem Xc {s:aG}(h:s.Ok){f:ByteArray}(hf:aC false f=0):nxQ f s.l=nO s.l f:=by
 unfold nxQ nO oP;congr 2
 refine NU (λr hr=>?_);have h1:=h.seq hr;rw[Xb hf (nR (h.msg r hr).2 (h.msg r hr).1),decide_eq_true (p:=(0:Int)<=r.q) (by omega),Bool.and_true]
theorem aiB {s:aG}(h:s.Ok):nxQ ⟨#[62]⟩ s.l=cZ s.l:=by
 unfold nxQ oP
 cases hl:s.l with
 | nil=>rfl
 | cons r l =>
  have h1:=h.seq (x:=r) (by rw[hl];exact List.mem_cons_self ..);rw[List.find?_cons,Za,decide_eq_true (p:=(0:Int)<=r.q) (by omega)];rfl
theorem aa7 (l:List Rc)(s:ByteArray):iR l s=dV l s:=by
 unfold iR dV;rw[List.countP_eq_length_filter]
theorem aa8 {l:List Rc}{es:List bD}(h:Cnt l es){f:ByteArray}(hf:aC false f=0)(hl:∀r∈l,aC false r.s=0):lF es f=if iR l f=0 then [] else [(f,(iR l f:Int))]:=by
 unfold lF lN;rw[if_pos (kG hf),aa7];refine Qa (h.good.1.sublist List.filter_sublist) ?_ (λe=>?_)
 ·split
  ·exact List.Pairwise.nil
  ·exact List.pairwise_singleton _ _
 ·rw[List.mem_filter,h.mem];constructor
  ·rintro ⟨⟨a,b⟩,c⟩;have hs:aC false e.1=0:=by
    have hc:0<(l.filter λr=>decide (r.s=e.1)).length:=a;obtain⟨r,hr⟩:=List.exists_mem_of_length_pos hc;obtain⟨h1,h2⟩:=List.mem_filter.1 hr;rw[<-of_decide_eq_true h2];exact hl r h1
   rw[Ih hf hs] at c;have e1:f=e.1:=iC.1 c;rw[e1,if_neg (by omega),List.mem_singleton];exact Prod.ext rfl b
  ·intro hm;split at hm
   ·cases hm
   ·rename_i hn
    rw[List.mem_singleton] at hm;subst hm;exact⟨⟨by show 0<dV l f;omega,rfl⟩,Ti hf⟩
def mV (ids:List Kn)(i:ByteArray):Option Kn:=ids.foldl (λo k=>if k.i=i then some k else o) none
def knQ (o:Option Kn)(f:Int):Int:=match o with
 | none=>0
 | some k=>if f<=k.a then k.q else 0
structure sW (ids:List Kn):Prop where
 seen:∀i f,iJ ids i f=knQ (mV ids i) f
 some':∀k∈ids,k.i.size≠0
theorem sW.nil:sW []:=⟨λ_ _=>rfl,λk hk=>by cases hk⟩
theorem Xd (ids:List Kn)(k:Kn)(i:ByteArray)(f:Int):iJ (ids++[k]) i f=if k.i=i/\f<=k.a then k.q else iJ ids i f:=by
 unfold iJ;rw[List.foldl_append];rfl
theorem J9 (ids:List Kn)(k:Kn)(i:ByteArray):mV (ids++[k]) i=if k.i=i then some k else mV ids i:=by
 unfold mV;rw[List.foldl_append];rfl
theorem Uf {i:ByteArray}{k:Kn}:∀(ids:List Kn) (o:Option Kn),ids.foldl (λo k=>if k.i=i then some k else o) o=some k->(k∈ids/\k.i=i)\/o=some k
 | [],_,h=>.inr h
 | j::ids,o,h=>by
  rcases Uf ids _ h with y|y
  ·exact .inl ⟨List.mem_cons_of_mem _ y.1,y.2⟩
  ·have z:(if j.i=i then some j else o)=some k:=y;split at z
   ·rename_i e
    cases z
    exact .inl ⟨List.mem_cons_self ..,e⟩
   ·exact .inr z
theorem NV {i:ByteArray}{k:Kn}{ids:List Kn}(h:mV ids i=some k):k∈ids/\k.i=i:=by
 rcases Uf ids none h with y|y
 ·exact y
 ·cases y
theorem sW.more {ids:List Kn}(h:sW ids)(hq:∀k∈ids,1<=k.q){i:ByteArray}{now W q:Int}(hi:i.size≠0)(hW:0<=W)(hn:¬0<iJ ids i (now-W)):sW (ids++[⟨i,now,q⟩]):=by
 refine⟨λj f=>?_,λk hk=>?_⟩
 ·rw[Xd,J9];by_cases e:i=j
  ·subst e;rw[if_pos (show(⟨i,now,q⟩:Kn).i=i from rfl)];show(if i=i/\f<=now then q else iJ ids i f)=if f<=now then q else 0
   by_cases c:f<=now
   ·rw[if_pos ⟨rfl,c⟩,if_pos c]
   ·rw[if_neg (λz=>c z.2),if_neg c,h.seen];rw[h.seen] at hn
    cases hl:mV ids i with
    | none=>rfl
    | some k =>
     rw[hl] at hn;have h1:=hq k (NV hl).1;unfold knQ at hn ⊢;simp only at hn ⊢;by_cases d:now-W<=k.a
     ·rw[if_pos d] at hn;omega
     ·rw[if_neg (by omega)]
  ·rw[if_neg (λz=>e z.1),if_neg e];exact h.seen j f
 ·rcases List.mem_append.1 hk with y|y
  ·exact h.some' k y
  ·rw[List.mem_singleton.1 y];exact hi
def jV (P:Pn.aU)(ids:List Kn):List Kn:=if pv P 7=0 then [] else ids
theorem NW {p:Pn.aU}{m size now:Int}:∀(k k':Nat) (n:Int) (es:List ay) (s:aG),s.l.length<k->s.l.length<k'->sU p m size now k n es s=sU p m size now k' n es s
 | 0,_,_,_,_,h,_=>absurd h (Nat.not_lt_zero _)
 | _+1,0,_,_,_,_,h=>absurd h (Nat.not_lt_zero _)
 | k+1,k'+1,n,es,s,h,h'=>by
  unfold sU
  cases ho:rM s.l (now-pv p 2) with
  | none=>rfl
  | some r =>
   simp only;by_cases e:gV es s m size (bM r.q now)=0
   ·rw[if_neg (by rw[e];simp),if_neg (by rw[e];simp)];have:=qC e ⟨r,List.mem_of_find?_eq_some ho,rfl⟩;exact NW k k' _ _ _ (by omega) (by omega)
   ·rw[if_pos e,if_pos e]
def Ko (p:Pn.aU)(m size now n:Int)(es:List ay)(s:aG):(Int×Int)×List ay×aG:=sU p m size now (s.l.length+1) n es s
section
variable {p:Pn.aU}{m size now n:Int}{es:List ay}{s:aG}
theorem adM (h:rM s.l (now-pv p 2)=none):Ko p m size now n es s=((n,0),es,s):=by
 unfold Ko sU;rw[h]
theorem Zj {r:Rc}(h:rM s.l (now-pv p 2)=some r)(e:gV es s m size (bM r.q now)≠0):Ko p m size now n es s=((n,gV es s m size (bM r.q now)),es,s):=by
 unfold Ko sU;rw[h];simp only;rw[if_pos e]
theorem adN {r:Rc}(h:rM s.l (now-pv p 2)=some r)(e:gV es s m size (bM r.q now)=0):Ko p m size now n es s=Ko p m size now (n+1) (nN es s m size (bM r.q now)) (iM es s m size (bM r.q now)):=by
 have:=qC e ⟨r,List.mem_of_find?_eq_some h,rfl⟩;unfold Ko;rw[sU,h];simp only;rw[if_neg (by rw[e];simp)];exact NW _ _ _ _ _ (by omega) (by omega)
def Vx (t:Int)(l:List Rc)(i:Nat)(s:aG):Prop:=∃A,(∀r∈A,¬r.t<t)/\s.l=A++l.drop i
theorem Vx.start (t:Int)(s:aG):Vx t s.l 0 s:=⟨[],(λr hr=>by cases hr),by simp⟩
theorem NY {f:Rc->Bool}:∀{A B:List Rc},(∀r∈A,f r=false)->(A++B).find? f=B.find? f
 | [],_,_=>rfl
 | a::A,B,h=>by
  rw[List.cons_append,List.find?_cons,h a (List.mem_cons_self ..)];exact NY (λr hr=>h r (List.mem_cons_of_mem _ hr))
theorem Vx.past {t:Int}{l:List Rc}{i:Nat}(h:Vx t l i s):rM s.l t=rM (l.drop i) t:=by
 obtain⟨A,h1,h2⟩:=h;unfold rM;rw[h2,NY (λr hr=>decide_eq_false (h1 r hr))]
theorem Vx.end' {t:Int}{l:List Rc}(h:Vx t l l.length s):rM s.l t=none:=by
 rw[h.past,List.drop_length];rfl
theorem Vx.adO {t:Int}{l:List Rc}{i:Nat}(h:Vx t l i s)(hi:i<l.length)(ht:¬(rc l i).t<t):Vx t l (i+1) s:=by
 obtain⟨A,h1,h2⟩:=h;refine⟨A++[rc l i],λr hr=>?_,by rw[h2,xW hi];simp⟩;rcases List.mem_append.1 hr with y|y
 ·exact h1 r y
 ·rw[List.mem_singleton.1 y];exact ht
theorem Vx.old {t:Int}{l:List Rc}{i:Nat}(h:Vx t l i s)(hi:i<l.length)(ht:(rc l i).t<t):rM s.l t=some (rc l i):=by
 rw[h.past,xW hi];unfold rM;rw[List.find?_cons_of_pos (by simpa using ht)]
theorem Vx.gone {t:Int}{l:List Rc}{i:Nat}(h:Vx t l i s)(hk:s.Ok)(hi:i<l.length)(e:gV es s m size (bM (rc l i).q now)=0):Vx t l (i+1) (iM es s m size (bM (rc l i).q now)):=by
 obtain⟨A,h1,h2⟩:=h;refine⟨A,h1,?_⟩;have hr:=hk.rise;rw[xU e];show s.l.filter _=_;rw[h2,xW hi] at hr ⊢;obtain⟨p1,p2,p3⟩:=List.pairwise_append.1 hr;obtain⟨p4,p5⟩:=List.pairwise_cons.1 p2;rw[List.filter_append,List.filter_cons,if_neg (by simp)];congr 1
 ·exact List.filter_eq_self.2 (λr hm=>by
   have:=p3 r hm (rc l i) (List.mem_cons_self ..);simp;omega)
 ·exact List.filter_eq_self.2 (λr hm=>by
   have:=p4 r hm;simp;omega)
end
end Go.Proofs.YtidekgipblnpkaaGreatDoor.Dk
namespace Go.Proofs.YtidekgipblnpkaaGreatDoor.Dk
open Go.RowKit Go.Proofs.Tryz
def IL (v:Value):Option (DataW Unit×List MemPlace):=match v with
 | .agg xs=>match xs.toList with
  | [.int .i64 q,.int .i64 a]=>some (.agg [.lit (.int .i64 q),.lit (.int .i64 a)],[])
  | _=>none
 | _=>none
theorem Kq (q a:Int):IL (.agg #[.int .i64 q,.int .i64 a])=some (.agg [.lit (.int .i64 q),.lit (.int .i64 a)],[]):=rfl
theorem Ug {v:Value}{z:DataW Unit×List MemPlace}(h:IL v=some z):∃q a:Int,v=.agg #[.int .i64 q,.int .i64 a]/\z=(.agg [.lit (.int .i64 q),.lit (.int .i64 a)],[]):=by
 unfold IL at h;split at h
 ·rename_i xs
  split at h
  ·rename_i q a e
   cases h
   refine⟨q,a,?_,rfl⟩;rw[<-Array.toArray_toList (xs:=xs),e]
  ·cases h
 ·cases h
theorem ahR (w:World):(zeroValue 158).run prog w=.ok (.agg #[.int .i64 0,.int .i64 0]) w:=by kernel_rfl
def rO (w:World)(mb:Option Nat)(ids:List Kn):Prop:=(mb=none/\ids=[])\/∃b D,mb=some b/\w.ownsMap prog 9 IL b ids.length D /\
 ∀i:ByteArray,i.size<=maxLen->(mV ids i=none->Maps.has D (kS i)=false)/\∀k,mV ids i=some k->Maps.has D (kS i)=true/\∀zd,D.atKey (kS i) zd=.agg [.lit (.int .i64 k.q),.lit (.int .i64 k.a)]
theorem rO.none (w:World):rO w .none []:=.inl ⟨rfl,rfl⟩
theorem rO.made (w:World):rO (w.alloc (.map #[] 0)) (some w.heap.size) []:=.inr ⟨_,.map [],rfl,World.ownsMap_made _ _ _ _,λi _=>⟨λ_=>by simp[Maps.has],λk hk=>by cases hk⟩⟩
theorem rO.dh {A:Nat->Prop}{w w':World}{mb:Option Nat}{ids:List Kn}(h:rO w mb ids)(hc:aF A w w')(hn:∀b,mb=some b->¬A b):rO w' mb ids:=by
 rcases h with h|⟨b,D,rfl,h,h2⟩
 ·exact .inl h
 ·refine .inr ⟨b,D,rfl,?_,h2⟩;have hl:=h.lt;obtain⟨es,clock,hb,r⟩:=h;exact⟨es,clock,(hc.block b hl (hn b rfl)).trans hb,r⟩
theorem rO.lt {w:World}{b:Nat}{ids:List Kn}(h:rO w (some b) ids):b<w.heap.size:=by
 rcases h with ⟨h,_⟩|⟨b',D,e,h,_⟩
 ·cases h
 ·cases e;exact h.lt
theorem rO.look {w:World}{mb:Option Nat}{ids:List Kn}(h:rO w mb ids)(i:ByteArray)(hi:i.size<=maxLen) :
 ∃q a b,(Instr.lookup 86 (.map mb) (.string i) true).run prog w=.ok (.tuple #[.agg #[.int .i64 q,.int .i64 a],.bool b]) w/\(b=false->mV ids i=Option.none)/\(b=true->∃k,mV ids i=some k/\k.q=q/\k.a=a):=by
 rcases h with ⟨rfl,rfl⟩|⟨b,D,rfl,h,h2⟩
 ·exact⟨0,0,false,Maps.look_nil true LJ underlying86 (ahR w) (keyS hi),λ_=>rfl,λz=>by cases z⟩
 ·obtain⟨v,ps,hr,hv⟩:=h.look_ok LJ underlying86 (ahR w) (Kq 0 0) (keyS hi);obtain⟨q,a,rfl,hz⟩:=Ug hv;obtain⟨g1,g2⟩:=h2 i hi;refine⟨q,a,_,hr,λhb=>?_,λhb=>?_⟩
  ·cases hl:mV ids i with
   | none=>rfl
   | some k=>rw[(g2 k hl).1] at hb;cases hb
  ·cases hl:mV ids i with
   | none=>rw[g1 hl] at hb;cases hb
   | some k =>
    refine⟨k,rfl,?_⟩;have e:=congrArg Prod.fst hz;simp only[(g2 k hl).2,DataW.agg.injEq,List.cons.injEq,DataW.lit.injEq,Lit.int.injEq,true_and,and_true] at e;exact e
theorem rO.store {w:World}{b:Nat}{ids:List Kn}(h:rO w (some b) ids)(hn:ids.length<maxLen)(i:ByteArray)(hi:i.size<=maxLen)(q a:Int) :
 ∃w',(Instr.mapUpdate 86 (.map (some b)) (.string i) (.agg #[.int .i64 q,.int .i64 a])).run prog w=.ok () w'/\rO w' (some b) (ids++[⟨i,a,q⟩])/\aF (λk=>k=b) w w':=by
 rcases h with ⟨h,_⟩|⟨b',D,e,h,h2⟩
 ·cases h
 ·cases e
  obtain⟨w',hr,h3,h4⟩:=h.store LJ underlying86 hn (keyS hi) (Kq q a);have hD:=h.tidy LJ;refine⟨w',hr,.inr ⟨b,_,rfl,by rw[List.length_append,List.length_singleton];exact h3,λj hj=>?_⟩,?_⟩
  ·rw[J9];by_cases e:i=j
   ·subst e;rw[if_pos (show(⟨i,a,q⟩:Kn).i=i from rfl)];refine⟨(λz=>by cases z),λk hk=>?_⟩
    cases hk
    exact⟨Maps.has_put_same hD.isMap (Qb _) _,λzd=>Maps.atKey_put_same hD.isMap (Qb _) _ _⟩
   ·rw[if_neg (show ¬(⟨i,a,q⟩:Kn).i=j from e)];obtain⟨g1,g2⟩:=h2 j hj;refine⟨λz=>?_,λk hk=>⟨?_,λzd=>?_⟩⟩
    ·rw[Maps.has_put_other (TU (λz=>e z.symm))];exact g1 z
    ·rw[Maps.has_put_other (TU (λz=>e z.symm))];exact(g2 k hk).1
    ·rw[Maps.atKey_put_other (TU (λz=>e z.symm))];exact(g2 k hk).2 zd
  ·exact(aF.bU h4.grown).mono (λk _ z=>(Option.some.inj z).symm)
abbrev PBx (w:World)(x:Nat)(P:Pn.aU)(a:Option Addr)(c:Nat):Prop:=PB w x P.n a P.f.length c (nth P.v 0) (nth P.v 1) (nth P.v 2) (nth P.v 3) (nth P.v 4) (nth P.v 5) (nth P.v 6) (nth P.v 7)
def smF (FV:Nat->Prop)(a:Option Addr)(mb:Option Nat)(k:Nat):Prop:=FV k\/(∃z,a=some z/\k=z.block)\/mb=some k
structure Uh (Has:World->Nat->Nat->(Nat->Prop)->Int->List ay->Prop)(SH:World->Nat->Nat->(Nat->Prop)->aG->Prop)(w:World)(B x:Nat)(FV:Nat->Prop)(a:Option Addr)(c:Nat)(mb:Option Nat)(P:Pn.aU)(m size:Int)(st:Str):Prop where
 qE:qy Has SH 10 w B x FV m size st.es st.s
 plan:PBx w x P a c
 ids:w.cell? ⟨x,14,none⟩=some (.map mb)
 row:jW w a P.f
 rowB:∀z,a=some z->B<=z.block/\z.block<w.heap.size/\¬FV z.block
 cap:P.f.length<=c
 map:rO w mb (jV P st.ids)
 yA:∀b,mb=some b->B<=b/\b<w.heap.size/\¬FV b/\∀z,a=some z->z.block≠b
 lasts:sW (jV P st.ids)
 few:(st.ids.length:Int)<=st.s.last
 small:iE P
section
variable {Has:World->Nat->Nat->(Nat->Prop)->Int->List ay->Prop}{SH:World->Nat->Nat->(Nat->Prop)->aG->Prop}{w w':World}{B x:Nat}{FV A:Nat->Prop}{a:Option Addr}{c:Nat}{mb:Option Nat}{P:Pn.aU}{m size:Int}{st:Str}{es':List ay}{s':aG}
theorem qy.blk {o:Nat}{F:Nat->Prop}{es:List ay}{s:aG}(h:qy Has SH o w B x F m size es s):F x/\B<=x/\x<w.heap.size/\∀j,w.frozen? ⟨x,j,none⟩=false:=by
 obtain⟨q,g,c,FL,G,h1,h2⟩:=h;exact⟨(h2 x).2 (.inl rfl),h1.base,h1.lt,h1.free⟩
theorem qy.own {o:Nat}{F:Nat->Prop}{es:List ay}{s:aG}(H:More Has)(S:eP SH)(h:qy Has SH o w B x F m size es s):∀k,F k->B<=k/\k<w.heap.size:=λk hk=>by
 obtain⟨q,g,c,FL,G,h1,h2⟩:=h;exact h1.own H S k ((h2 k).1 hk)
theorem qy.dh {o:Nat}{F:Nat->Prop}{es:List ay}{s:aG}(H:More Has)(S:eP SH)(h:qy Has SH o w B x F m size es s)(hc:aF A w w')(hn:∀k,F k->¬A k):qy Has SH o w' B x F m size es s:=by
 obtain⟨q,g,c,FL,G,h1,h2⟩:=h;exact⟨q,g,c,FL,G,h1.dh H S hc (λk hk=>hn k ((h2 k).2 hk)),h2⟩
theorem qy.beside {o j:Nat}{F:Nat->Prop}{es:List ay}{s:aG}(H:More Has)(S:eP SH)(h:qy Has SH o w B x F m size es s)(hj:j<o\/o+4<=j)(v:Value):qy Has SH o (w.setCell ⟨x,j,none⟩ v) B x F m size es s:=by
 obtain⟨q,g,c,FL,G,h1,h2⟩:=h;have cs:aF (λk=>k=x) w (w.setCell ⟨x,j,none⟩ v):=(aF.refl _ _).setCell (A:=λk=>k=x) (p:=⟨x,j,none⟩) (.inl rfl) _;refine⟨q,g,c,FL,G,⟨(ku.looks H g size).dh h1.log cs (λk hk z=>by subst z;exact h1.xd hk),S.dh h1.kH cs (λk hk z=>by subst z;exact h1.xg hk),h1.base,Nat.lt_of_lt_of_le h1.lt cs.size,?_,?_,?_,?_,λi=>?_,h1.ap,h1.xd,h1.xg⟩,h2⟩
 ·rw[World.cell?_setCell_other _ _ _ _ (by simp<;>omega)];exact h1.c0
 ·rw[World.cell?_setCell_other _ _ _ _ (by simp<;>omega)];exact h1.c1
 ·rw[World.cell?_setCell_other _ _ _ _ (by simp<;>omega)];exact h1.c2
 ·rw[World.cell?_setCell_other _ _ _ _ (by simp<;>omega)];exact h1.c3
 ·rw[World.frozen?_setCell];exact h1.free i
theorem IQ {b:Nat}{n:ByteArray}{l:Nat}{x0 x1 x2 x3 x4 x5 x6 x7:Int}(h:PB w b n a l c x0 x1 x2 x3 x4 x5 x6 x7)(hs:w.heap.size<=w'.heap.size)(hc:∀j,j<10->w'.cell? ⟨b,j,none⟩=w.cell? ⟨b,j,none⟩):PB w' b n a l c x0 x1 x2 x3 x4 x5 x6 x7 :=
 ⟨Nat.lt_of_lt_of_le h.lt hs,by rw[hc 0 (by omega)];exact h.c0,by rw[hc 1 (by omega)];exact h.c1,by rw[hc 2 (by omega)];exact h.c2,by rw[hc 3 (by omega)];exact h.c3,by rw[hc 4 (by omega)];exact h.c4,by rw[hc 5 (by omega)];exact h.c5,by rw[hc 6 (by omega)];exact h.c6,by rw[hc 7 (by omega)];exact h.c7,by rw[hc 8 (by omega)];exact h.c8,by rw[hc 9 (by omega)];exact h.c9⟩
theorem IU {l:List ByteArray}(h:jW w a l)(hc:aF A w w')(hn:∀z,a=some z->¬A z.block):jW w' a l:=λk hk=>by
 obtain⟨b,o,h1,h2,h3⟩:=h k hk;exact⟨b,o,h1,Nat.lt_of_lt_of_le h2 hc.size,by rw[hc.cell (p:=⟨b,o+k,none⟩) h2 (hn ⟨b,o,none⟩ h1)];exact h3⟩
theorem Uh.own (H:More Has)(S:eP SH)(h:Uh Has SH w B x FV a c mb P m size st):∀k,smF FV a mb k->B<=k/\k<w.heap.size:=by
 rintro k (z|⟨z,e,rfl⟩|z)
 ·exact h.qE.own H S k z
 ·exact⟨(h.rowB z e).1,(h.rowB z e).2.1⟩
 ·exact⟨(h.yA k z).1,(h.yA k z).2.1⟩
theorem Uh.dh (H:More Has)(S:eP SH)(h:Uh Has SH w B x FV a c mb P m size st)(hc:aF A w w')(hn:∀k,smF FV a mb k->¬A k):Uh Has SH w' B x FV a c mb P m size st:=by
 obtain⟨hx,_,hl,_⟩:=h.qE.blk;have hx':=hn x (.inl hx);have e:∀j,w'.cell? ⟨x,j,none⟩=w.cell? ⟨x,j,none⟩:=λj=>hc.cell (p:=⟨x,j,none⟩) hl hx'
 exact⟨h.qE.dh H S hc (λk hk=>hn k (.inl hk)),IQ h.plan hc.size (λj _=>e j),(e 14).trans h.ids,IU h.row hc (λz hz=>hn _ (.inr (.inl ⟨z,hz,rfl⟩))),λz hz=>⟨(h.rowB z hz).1,Nat.lt_of_lt_of_le (h.rowB z hz).2.1 hc.size,(h.rowB z hz).2.2⟩,h.cap,h.map.dh hc (λb hb=>hn b (.inr (.inr hb))),λb hb=>⟨(h.yA b hb).1,Nat.lt_of_lt_of_le (h.yA b hb).2.1 hc.size,(h.yA b hb).2.2⟩,h.lasts,h.few,h.small⟩
theorem Uh.below (H:More Has)(S:eP SH)(h:Uh Has SH w B x FV a c mb P m size st)(hb:Below w.heap.size w w'):Uh Has SH w' B x FV a c mb P m size st:=h.dh H S (A:=λ_=>False) (aF.of_below hb) (λ_ _ z=>z)
theorem Uh.did (h:Uh Has SH w B x FV a c mb P m size st)(hl:st.s.last<=s'.last)(hd:WB Has SH 10 w w' B x FV m size es' s'):∃FV',Uh Has SH w' B x FV' a c mb P m size ⟨es',s',st.ids⟩/\aF FV w w'/\∀k,FV' k->FV k\/w.heap.size<=k:=by
 obtain⟨⟨FV',k1,hc,ho⟩,hs⟩:=hd;refine⟨FV',⟨k1,IQ h.plan hc.size (λj hj=>hs j (.inl hj)),(hs 14 (.inr (by omega))).trans h.ids,IU h.row hc (λz hz=>(h.rowB z hz).2.2),λz hz=>⟨(h.rowB z hz).1,Nat.lt_of_lt_of_le (h.rowB z hz).2.1 hc.size,λy=>?_⟩,h.cap,h.map.dh hc (λb hb=>(h.yA b hb).2.2.1),λb hb=>⟨(h.yA b hb).1,Nat.lt_of_lt_of_le (h.yA b hb).2.1 hc.size,λy=>?_,(h.yA b hb).2.2.2⟩,h.lasts,Int.le_trans h.few hl,h.small⟩,hc,ho⟩
 ·rcases ho _ y with u|u
  ·exact(h.rowB z hz).2.2 u
  ·have:=(h.rowB z hz).2.1;omega
 ·rcases ho _ y with u|u
  ·exact(h.yA b hb).2.2.1 u
  ·have:=(h.yA b hb).2.1;omega
theorem Uh.put (H:More Has)(S:eP SH)(h:Uh Has SH w B x FV a c mb P m size st){mb':Option Nat}{qR:List Kn}(hm:rO w mb' (jV P qR))(hb:∀b,mb'=some b->B<=b/\b<w.heap.size/\¬FV b/\∀z,a=some z->z.block≠b)(hL:sW (jV P qR))(hf:(qR.length:Int)<=st.s.last):Uh Has SH (w.setCell ⟨x,14,none⟩ (.map mb')) B x FV a c mb' P m size ⟨st.es,st.s,qR⟩:=by
 obtain⟨hx,_,hl,_⟩:=h.qE.blk;have cs:aF (λk=>k=x) w (w.setCell ⟨x,14,none⟩ (.map mb')):=(aF.refl _ _).setCell (A:=λk=>k=x) (p:=⟨x,14,none⟩) (.inl rfl) _;exact⟨h.qE.beside H S (.inr (by omega)) _,IQ h.plan cs.size (λj hj=>World.cell?_setCell_other _ _ _ _ (by simp<;>omega)),World.cell?_setCell_same _ _ _ h.ids,IU h.row cs (λz hz y=>(h.rowB z hz).2.2 (y▸hx)),λz hz=>⟨(h.rowB z hz).1,Nat.lt_of_lt_of_le (h.rowB z hz).2.1 cs.size,(h.rowB z hz).2.2⟩,h.cap,hm.dh cs (λb hb' y=>(hb b hb').2.2.1 (y▸hx)),λb hb'=>⟨(hb b hb').1,Nat.lt_of_lt_of_le (hb b hb').2.1 cs.size,(hb b hb').2.2⟩,hL,hf,h.small⟩
end
def Ui (Has:World->Nat->Nat->(Nat->Prop)->Int->List ay->Prop)(SH:World->Nat->Nat->(Nat->Prop)->aG->Prop)(w:World)(B x:Nat)(F:Nat->Prop)(P:Pn.aU)(m size:Int)(st:Str):Prop:=∃FV a c mb,Uh Has SH w B x FV a c mb P m size st/\∀k,F k↔smF FV a mb k
def fK (Has:World->Nat->Nat->(Nat->Prop)->Int->List ay->Prop)(SH:World->Nat->Nat->(Nat->Prop)->aG->Prop)(F0 Cs:Nat->Prop)(w wr:World)(B x:Nat)(a:Option Addr)(c:Nat)(mb:Option Nat)(P:Pn.aU)(m size:Int)(st:Str):Prop :=
 ∃FV,Uh Has SH wr B x FV a c mb P m size st/\aF F0 w wr/\(∀k,smF FV a mb k->F0 k\/w.heap.size<=k)/\∀k,Cs k->k<wr.heap.size/\¬smF FV a mb k
section
variable {Has:World->Nat->Nat->(Nat->Prop)->Int->List ay->Prop}{SH:World->Nat->Nat->(Nat->Prop)->aG->Prop}{F F0 Cs jw:Nat->Prop}{w wr w':World}{B x:Nat}{a:Option Addr}{c:Nat}{mb:Option Nat}{P:Pn.aU}{m size:Int}{st:Str}{es':List ay}{s':aG}
theorem Ui.begin (h:Ui Has SH w B x F P m size st):∃a c mb,fK Has SH F (λ_=>False) w w B x a c mb P m size st/\∀Cs wr mb' st',fK Has SH F Cs w wr B x a c mb' P m size st'->uM (Ui Has SH) w wr B x F P m size st':=by
 obtain⟨FV,a,c,mb,h1,h2⟩:=h;refine⟨a,c,mb,⟨FV,h1,aF.refl _ _,λk z=>.inl ((h2 k).2 z),λ_ z=>z.elim⟩,λCs wr mb' st' hr=>?_⟩;obtain⟨FV',r1,r2,r3,_⟩:=hr;exact⟨_,⟨FV',a,c,mb',r1,λk=>Iff.rfl⟩,r2,r3⟩
theorem fK.room (h:fK Has SH F0 Cs w wr B x a c mb P m size st):w.heap.size<=wr.heap.size:=by
 obtain⟨_,_,h2,_⟩:=h;exact h2.size
theorem fK.plan (h:fK Has SH F0 Cs w wr B x a c mb P m size st):PBx wr x P a c:=by
 obtain⟨_,h1,_⟩:=h;exact h1.plan
theorem fK.lt (h:fK Has SH F0 Cs w wr B x a c mb P m size st):x<wr.heap.size:=h.plan.lt
theorem fK.ids (h:fK Has SH F0 Cs w wr B x a c mb P m size st):wr.cell? ⟨x,14,none⟩=some (.map mb)/\wr.frozen? ⟨x,14,none⟩=false:=by
 obtain⟨_,h1,_⟩:=h;exact⟨h1.ids,h1.qE.blk.2.2.2 14⟩
theorem fK.mine (H:More Has)(S:eP SH)(h:fK Has SH F0 Cs w wr B x a c mb P m size st)(hb:Below wr.heap.size wr w')(hn:∀k,jw k->Cs k\/wr.heap.size<=k/\k<w'.heap.size):fK Has SH F0 jw w w' B x a c mb P m size st:=by
 obtain⟨FV,h1,h2,h3,h4⟩:=h;refine⟨FV,h1.below H S hb,h2.trans (aF.of_below hb),h3,λk hk=>?_⟩;rcases hn k hk with y|y
 ·exact⟨Nat.lt_of_lt_of_le (h4 k y).1 hb.size,(h4 k y).2⟩
 ·exact⟨y.2,λz=>by have:=(h1.own H S k z).2;omega⟩
theorem fK.below (H:More Has)(S:eP SH)(h:fK Has SH F0 Cs w wr B x a c mb P m size st)(hb:Below wr.heap.size wr w'):fK Has SH F0 Cs w w' B x a c mb P m size st:=h.mine H S hb (λ_ z=>.inl z)
theorem fK.stay (h:fK Has SH F0 Cs w wr B x a c mb P m size st)(hb:Below wr.heap.size wr w'):aJ Cs wr w':=by
 obtain⟨FV,_,_,_,h4⟩:=h;exact⟨hb.size,λk hk=>hb.block k (h4 k hk).1⟩
theorem fK.did (h:fK Has SH F0 Cs w wr B x a c mb P m size st)(hl:st.s.last<=s'.last){fn:FuncId}{args:Array Value}{Q:Ending->World->Prop}
 (hc:∀FV,qy Has SH 10 wr B x FV m size st.es st.s->Calls prog fn args wr λe w'=>Q e w'/\WB Has SH 10 wr w' B x FV m size es' s') :
 Calls prog fn args wr λe w'=>Q e w'/\fK Has SH F0 Cs w w' B x a c mb P m size ⟨es',s',st.ids⟩/\aJ Cs wr w':=by
 have hr:=h.room;obtain⟨FV,h1,h2,h3,h4⟩:=h;refine(hc FV h1.qE).mono ?_;rintro e w' ⟨hq,hu⟩;obtain⟨FV',a1,a2,a3⟩:=h1.did hl hu;refine⟨hq,⟨FV',a1,jD h2 a2 (λi hi z=>?_),λk hk=>?_,λk hk=>⟨Nat.lt_of_lt_of_le (h4 k hk).1 a2.size,λz=>?_⟩⟩,a2.size,λk hk=>a2.block k (h4 k hk).1 (λz=>(h4 k hk).2 (.inl z))⟩
 ·rcases h3 i (.inl z) with y|y
  ·exact y
  ·omega
 ·rcases hk with z|z
  ·rcases a3 k z with y|y
   ·exact h3 k (.inl y)
   ·exact .inr (Nat.le_trans hr y)
  ·exact h3 k (.inr z)
 ·rcases z with z|z
  ·rcases a3 k z with y|y
   ·exact(h4 k hk).2 (.inl y)
   ·have:=(h4 k hk).1;omega
  ·exact(h4 k hk).2 (.inr z)
theorem fK.look (h:fK Has SH F0 Cs w wr B x a c mb P m size st):∃FV,qy Has SH 10 wr B x FV m size st.es st.s:=by
 obtain⟨FV,h1,_⟩:=h;exact⟨FV,h1.qE⟩
end
end Go.Proofs.YtidekgipblnpkaaGreatDoor.Dk
