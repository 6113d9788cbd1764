/- A part. -/
import Derived.Test.YtebofkkfbkodiaaGreatDoorQ14
import Derived.Test.YtebofkkfbkodiaaGreatDoorQ18
namespace Go.Proofs.YtebofkkfbkodiaaGreatDoor.Dk
open Go.RowKit Go.Proofs.Tryz
theorem lQ {r:Rc}(h:iw r=0)(h1:r.k=1):aC false r.s=0:=by
 have e:=DT r.k r.q r.t r.s r.h r.d;have e2:mX r.k r.q r.t r.s r.h r.d=0:=h;rw[e2] at e;by_cases hb:Pk.inB r.k r.q r.t=false
 ·rw[if_pos hb] at e;cases e
 ·rw[if_neg hb,if_pos h1] at e;unfold Qa at e;by_cases z:aC false r.s≠0
  ·rw[if_pos z] at e;exact e.symm
  ·exact akn z
theorem aH.Ok.cnt {s:aH}(h:s.Ok):∃es,Cnt s.l es:=abe _ s.l rfl (λx hx=>⟨lQ (h.msg x hx).2 (h.msg x hx).1,by have:=(h.small hx).1;omega⟩) h.names
structure xU (SH:I->Nat->Nat->af->aH->Prop):Prop where
 Qr:∀{w B q F s} (f:ad) {es:List aS},f.size<=140737488355328->SH w B q F s->s.Ok->B<=w.heap.size->Cnt s.l es ->
  Calls prog 183 #[ae q,.string f] w λe w'=>∃v',e=.returned (.tuple #[v',aa (aC true f)])/\mg w' w.heap.size v' (Lp es f)/\ai w w'
end Go.Proofs.YtebofkkfbkodiaaGreatDoor.Dk
namespace Go.Proofs.YtebofkkfbkodiaaGreatDoor.Dk
open Go Go.Proofs.Tryz
variable {f:ad}{l:List Rc}{i:Nat}{r:Rc}{t:Int}
def gK (p:Pn.aX)(m size now:Int)(x:Po)(es:List aB)(s:aH):Int×List aB×aH:=pO p m size now x (s.l.length+1) es s
theorem uH {es:List aB}{s:aH}{m size q now:Int}(h0:ji es s m size (dF q now)=0)(hm:∃r∈s.l,r.q=q):(oV es s m size (dF q now)).l.length<s.l.length:=by
 rw[Lu h0];obtain⟨r,hr,e⟩:=hm;exact BR ⟨r,hr,by simp[e]⟩
section
variable {p:Pn.aX}{m size now q:Int}{x:Po}{es:List aB}{s:aH}
theorem F6 (hp:aev p)(hz:¬(pv p 1≠0/\pv p 1<(sO x:Int))):∀(k k':Nat) (es:List aB) (s:aH),s.l.length<k->s.l.length<k'->pO p m size now x k es s=pO p m size now x k' es s
 | 0,_,_,_,h,_=>absurd h (akh _)
 | _+1,0,_,_,_,h=>absurd h (akh _)
 | k+1,k'+1,es,s,h,h'=>by
  unfold pO;by_cases c:(bT p s.l x||bK p s.l x)=false
  ·rw[if_pos c,if_pos c]
  ·rw[if_neg c,if_neg c];by_cases d:pv p 5=1
   ·rw[if_pos d,if_pos d]
   ·rw[if_neg d,if_neg d];by_cases e:ji es s m size (dF (Ls p s.l x) now)=0
    ·rw[if_neg (by rw[e];simp),if_neg (by rw[e];simp)];have:=uH e (go_in hp hz c);exact F6 hp hz k k' _ _ (by omega) (by omega)
    ·rw[if_pos e,if_pos e]
theorem ae1 (c:(bT p s.l x||bK p s.l x)=false):gK p m size now x es s=(0,es,s):=by
 unfold gK pO;rw[if_pos c]
theorem abV (c:¬(bT p s.l x||bK p s.l x)=false)(d:pv p 5=1):gK p m size now x es s=(8,es,s):=by
 unfold gK pO;rw[if_neg c,if_pos d]
theorem abW (c:¬(bT p s.l x||bK p s.l x)=false)(d:pv p 5≠1)(e:ji es s m size (dF (Ls p s.l x) now)≠0):gK p m size now x es s=(ji es s m size (dF (Ls p s.l x) now),es,s):=by
 unfold gK pO;rw[if_neg c,if_neg d,if_pos e]
theorem ae2 (hp:aev p)(hz:¬(pv p 1≠0/\pv p 1<(sO x:Int)))(c:¬(bT p s.l x||bK p s.l x)=false)(d:pv p 5≠1)(e:ji es s m size (dF (Ls p s.l x) now)=0) :
 gK p m size now x es s=gK p m size now x (wM es s m size (dF (Ls p s.l x) now)) (oV es s m size (dF (Ls p s.l x) now)):=by
 have:=uH e (go_in hp hz c);unfold gK;rw[pO,if_neg c,if_neg d,if_neg (by rw[e];simp)];exact F6 hp hz _ _ _ _ (by omega) (by omega)
theorem Un {a b:List Rc}(h:a.Sublist b)(c:bT p b x=false):bT p a x=false:=by
 have:=Yi h x.s;unfold bT at c ⊢
 cases hp:decide (pv p 3≠0) with
 | false=>rfl
 | true =>
  rw[hp] at c;simp only[akz,akr] at c ⊢;omega
theorem ae3 (h0:ji es s m size (dF q now)=0):(oV es s m size (dF q now)).l.Sublist s.l:=by
 rw[Lu h0];exact List.filter_sublist
end
theorem Uo {s:ad}(hf:aC false f=0)(hs:aC false s=0):ng f s=decide (s=f):=by
 unfold ng;have h:=ru (Pl.toks f) (Pl.toks s) (lV hf) (λt ht=>(lV hs t ht).1);by_cases e:s=f
 ·subst e;rw[ajH rfl];exact h.2 rfl
 ·rw[ajE e]
  cases hc:bP (Pl.toks f) (Pl.toks s) with
  | false=>rfl
  | true=>exact absurd (yY (h.1 hc)).symm e
def nxQ (f:ad)(l:List Rc):Int:=((aV f l 0).map (·.q)).getD 0
theorem JC {α:Type}{p q:α->Bool}:∀{l:List α},(∀x∈l,p x=q x)->l.find? p=l.find? q
 | [],_=>rfl
 | x::l,h=>by
  have h0:=h x (ajP ..);have hr:=JC (l:=l) (λy hy=>h y (ajS _ hy));rw[ame,ame,h0,hr]
theorem Ur {s:aH}(h:s.Ok)(hf:aC false f=0):nxQ f s.l=Fj s.l f:=by
 unfold nxQ Fj aV;congr 2
 refine JC (λr hr=>?_);have h1:=h.seq hr;rw[Uo hf (lQ (h.msg r hr).2 (h.msg r hr).1),ajH (p:=(0:Int)<=r.q) (by omega),Bool.and_true]
theorem ags {s:aH}(h:s.Ok):nxQ ⟨#[62]⟩ s.l=jE s.l:=by
 unfold nxQ aV
 cases hl:s.l with
 | nil=>rfl
 | cons r l =>
  have h1:=h.seq (x:=r) (by rw[hl];exact ajP ..);rw[ame,aez,ajH (p:=(0:Int)<=r.q) (by omega)];rfl
theorem YM (l:List Rc)(s:ad):qL l s=gB l s:=by
 unfold qL gB;rw[List.countP_eq_length_filter]
theorem YN {es:List aS}(h:Cnt l es)(hf:aC false f=0)(hl:∀r∈l,aC false r.s=0):Lp es f=if qL l f=0 then [] else [(f,(qL l f:Int))]:=by
 unfold Lp qJ;rw[if_pos (kR hf),YM];refine Lm (h.good.1.sublist List.filter_sublist) ?_ (λe=>?_)
 ·split
  ·exact List.Pairwise.nil
  ·exact List.pairwise_singleton _ _
 ·rw[alc,h.mem];constructor
  ·rintro ⟨⟨a,b⟩,c⟩;have hs:aC false e.1=0:=by
    have hc:0<(l.filter λr=>decide (r.s=e.1)).length:=a;obtain⟨r,hr⟩:=List.exists_mem_of_length_pos hc;obtain⟨h1,h2⟩:=alc.1 hr;rw[<-alN h2];exact hl r h1
   rw[Dh hf hs] at c;have e1:f=e.1:=iy.1 c;rw[e1,if_neg (by omega),akd];exact Prod.ext rfl b
  ·intro hm;split at hm
   ·cases hm
   ·rename_i hn;rw[akd] at hm;subst hm;exact⟨⟨by show 0<gB l f;omega,rfl⟩,Oq hf⟩
def kZ (ids:List Kn)(i:ad):Option Kn:=ids.foldl (λo k=>if k.i=i then some k else o) none
def knQ (o:Option Kn)(f:Int):Int:=match o with
 | none=>0
 | some k=>if f<=k.a then k.q else 0
structure sD (ids:List Kn):Prop where
 seen:∀i f,pK ids i f=knQ (kZ ids i) f
 some':∀k∈ids,k.i.size≠0
theorem sD.nil:sD []:=⟨λ_ _=>rfl,λk hk=>by cases hk⟩
theorem Us (ids:List Kn)(k:Kn)(i:ad)(f:Int):pK (ids++[k]) i f=if k.i=i/\f<=k.a then k.q else pK ids i f:=by
 unfold pK;rw[ams];rfl
theorem F7 (ids:List Kn)(k:Kn)(i:ad):kZ (ids++[k]) i=if k.i=i then some k else kZ ids i:=by
 unfold kZ;rw[ams];rfl
theorem Qs {i:ad}{k:Kn}:∀(ids:List Kn) (o:Option Kn),ids.foldl (λo k=>if k.i=i then some k else o) o=some k->(k∈ids/\k.i=i)\/o=some k
 | [],_,h=>.inr h
 | j::ids,o,h=>by
  rcases Qs ids _ h with y|y
  ·exact .inl ⟨ajS _ y.1,y.2⟩
  ·have z:(if j.i=i then some j else o)=some k:=y;split at z
   ·rename_i e
    cases z
    exact .inl ⟨ajP ..,e⟩
   ·exact .inr z
theorem JD {i:ad}{k:Kn}{ids:List Kn}(h:kZ ids i=some k):k∈ids/\k.i=i:=by
 rcases Qs ids none h with y|y
 ·exact y
 ·cases y
theorem sD.more {ids:List Kn}(h:sD ids)(hq:∀k∈ids,1<=k.q){i:ad}{now W q:Int}(hi:i.size≠0)(hW:0<=W)(hn:¬0<pK ids i (now-W)):sD (ids++[⟨i,now,q⟩]):=by
 refine⟨λj f=>?_,λk hk=>?_⟩
 ·rw[Us,F7];by_cases e:i=j
  ·subst e;rw[if_pos (show(⟨i,now,q⟩:Kn).i=i from rfl)];show(if i=i/\f<=now then q else pK ids i f)=if f<=now then q else 0
   by_cases c:f<=now
   ·rw[if_pos ⟨rfl,c⟩,if_pos c]
   ·rw[if_neg (λz=>c z.2),if_neg c,h.seen];rw[h.seen] at hn
    cases hl:kZ ids i with
    | none=>rfl
    | some k =>
     rw[hl] at hn;have h1:=hq k (JD hl).1;unfold knQ at hn ⊢;simp only at hn ⊢;by_cases d:now-W<=k.a
     ·rw[if_pos d] at hn;omega
     ·rw[if_neg (by omega)]
  ·rw[if_neg (λz=>e z.1),if_neg e];exact h.seen j f
 ·rcases akg.1 hk with y|y
  ·exact h.some' k y
  ·rw[akd.1 y];exact hi
def jA (P:Pn.aX)(ids:List Kn):List Kn:=if pv P 7=0 then [] else ids
theorem JE {p:Pn.aX}{m size now:Int}:∀(k k':Nat) (n:Int) (es:List aB) (s:aH),s.l.length<k->s.l.length<k'->Fq p m size now k n es s=Fq p m size now k' n es s
 | 0,_,_,_,_,h,_=>absurd h (akh _)
 | _+1,0,_,_,_,_,h=>absurd h (akh _)
 | k+1,k'+1,n,es,s,h,h'=>by
  unfold Fq
  cases ho:Fp s.l (now-pv p 2) with
  | none=>rfl
  | some r =>
   simp only;by_cases e:ji es s m size (dF r.q now)=0
   ·rw[if_neg (by rw[e];simp),if_neg (by rw[e];simp)];have:=uH e ⟨r,akY ho,rfl⟩;exact JE k k' _ _ _ (by omega) (by omega)
   ·rw[if_pos e,if_pos e]
def Ut (p:Pn.aX)(m size now n:Int)(es:List aB)(s:aH):(Int×Int)×List aB×aH:=Fq p m size now (s.l.length+1) n es s
section
variable {p:Pn.aX}{m size now n:Int}{es:List aB}{s:aH}
theorem ais (h:Fp s.l (now-pv p 2)=none):Ut p m size now n es s=((n,0),es,s):=by
 unfold Ut Fq;rw[h]
theorem ah5 (h:Fp s.l (now-pv p 2)=some r)(e:ji es s m size (dF r.q now)≠0):Ut p m size now n es s=((n,ji es s m size (dF r.q now)),es,s):=by
 unfold Ut Fq;rw[h];simp only;rw[if_pos e]
theorem ait (h:Fp s.l (now-pv p 2)=some r)(e:ji es s m size (dF r.q now)=0):Ut p m size now n es s=Ut p m size now (n+1) (wM es s m size (dF r.q now)) (oV es s m size (dF r.q now)):=by
 have:=uH e ⟨r,akY h,rfl⟩;unfold Ut;rw[Fq,h];simp only;rw[if_neg (by rw[e];simp)];exact JE _ _ _ _ _ (by omega) (by omega)
def WQ (t:Int)(l:List Rc)(i:Nat)(s:aH):Prop:=∃A,(∀r∈A,¬r.t<t)/\s.l=A++l.drop i
theorem WQ.start (t:Int)(s:aH):WQ t s.l 0 s:=⟨[],(λr hr=>by cases hr),by simp⟩
theorem JF {f:Rc->Bool}:∀{A B:List Rc},(∀r∈A,f r=false)->(A++B).find? f=B.find? f
 | [],_,_=>rfl
 | a::A,B,h=>by
  rw[akx,ame,h a (ajP ..)];exact JF (λr hr=>h r (ajS _ hr))
theorem WQ.past (h:WQ t l i s):Fp s.l t=Fp (l.drop i) t:=by
 obtain⟨A,h1,h2⟩:=h;unfold Fp;rw[h2,JF (λr hr=>ajE (h1 r hr))]
theorem WQ.end' (h:WQ t l l.length s):Fp s.l t=none:=by
 rw[h.past,amk];rfl
theorem WQ.ai4 (h:WQ t l i s)(hi:i<l.length)(ht:¬(rc l i).t<t):WQ t l (i+1) s:=by
 obtain⟨A,h1,h2⟩:=h;refine⟨A++[rc l i],λr hr=>?_,by rw[h2,LD hi];simp⟩;rcases akg.1 hr with y|y
 ·exact h1 r y
 ·rw[akd.1 y];exact ht
theorem WQ.old (h:WQ t l i s)(hi:i<l.length)(ht:(rc l i).t<t):Fp s.l t=some (rc l i):=by
 rw[h.past,LD hi];unfold Fp;rw[List.find?_cons_of_pos (by simpa using ht)]
theorem WQ.gone (h:WQ t l i s)(hk:s.Ok)(hi:i<l.length)(e:ji es s m size (dF (rc l i).q now)=0):WQ t l (i+1) (oV es s m size (dF (rc l i).q now)):=by
 obtain⟨A,h1,h2⟩:=h;refine⟨A,h1,?_⟩;have hr:=hk.rise;rw[Lu e];show s.l.filter _=_;rw[h2,LD hi] at hr ⊢;obtain⟨p1,p2,p3⟩:=akO.1 hr;obtain⟨p4,p5⟩:=akL.1 p2;rw[alr,ang,if_neg (by simp)];congr 1
 ·exact akZ.2 (λr hm=>by
   have:=p3 r hm (rc l i) (ajP ..);simp;omega)
 ·exact akZ.2 (λr hm=>by
   have:=p4 r hm;simp;omega)
end
end Go.Proofs.YtebofkkfbkodiaaGreatDoor.Dk
namespace Go.Proofs.YtebofkkfbkodiaaGreatDoor.Dk
open Go.RowKit Go.Proofs.Tryz
variable {o:Nat}
def DV (v:Value):Option (DataW Unit×List MemPlace):=match v with
 | .agg xs=>match xs.toList with
  | [.int .i64 q,.int .i64 a]=>some (.agg [.lit (.int .i64 q),.lit (.int .i64 a)],[])
  | _=>none
 | _=>none
theorem Gf (q a:Int):DV (.agg #[.int .i64 q,.int .i64 a])=some (.agg [.lit (.int .i64 q),.lit (.int .i64 a)],[]):=rfl
theorem Qu {v:Value}{z:DataW Unit×List MemPlace}(h:DV v=some z):∃q a:Int,v=.agg #[.int .i64 q,.int .i64 a]/\z=(.agg [.lit (.int .i64 q),.lit (.int .i64 a)],[]):=by
 unfold DV at h;split at h
 ·rename_i xs;split at h
  ·rename_i q a e
   cases h
   refine⟨q,a,?_,rfl⟩;rw[<-Array.toArray_toList (xs:=xs),e]
  ·cases h
 ·cases h
theorem afS (w:I):(zeroValue 179).run prog w=.ok (.agg #[aa 0,aa 0]) w:=by kernel_rfl
def sS (w:I)(mb:Option Nat)(ids:List Kn):Prop:=(mb=none/\ids=[])\/∃b D,mb=some b/\w.ownsMap prog 9 DV b ids.length D /\
 ∀i:ad,i.size<=maxLen->(kZ ids i=none->Maps.has D (kS i)=false)/\∀k,kZ ids i=some k->Maps.has D (kS i)=true/\∀zd,D.atKey (kS i) zd=.agg [.lit (.int .i64 k.q),.lit (.int .i64 k.a)]
theorem sS.none (w:I):sS w .none []:=.inl ⟨rfl,rfl⟩
theorem sS.made (w:I):sS (w.alloc (.map #[] 0)) (some w.heap.size) []:=.inr ⟨_,.map [],rfl,World.ownsMap_made _ _ _ _,λi _=>⟨λ_=>by simp[Maps.has],λk hk=>by cases hk⟩⟩
theorem sS.aF {A:af}{w w':I}{mb:Option Nat}{ids:List Kn}(h:sS w mb ids)(hc:aA A w w')(hn:∀b,mb=some b->¬A b):sS w' mb ids:=by
 rcases h with h|⟨b,D,rfl,h,h2⟩
 ·exact .inl h
 ·refine .inr ⟨b,D,rfl,?_,h2⟩;have hl:=h.lt;obtain⟨es,clock,hb,r⟩:=h;exact⟨es,clock,(hc.block b hl (hn b rfl)).trans hb,r⟩
theorem sS.look {w:I}{mb:Option Nat}{ids:List Kn}(h:sS w mb ids)(i:ad)(hi:i.size<=maxLen) :
 ∃q a b,(Instr.lookup 133 (.map mb) (.string i) true).run prog w=.ok (.tuple #[.agg #[.int .i64 q,.int .i64 a],.bool b]) w/\(b=false->kZ ids i=Option.none)/\(b=true->∃k,kZ ids i=some k/\k.q=q/\k.a=a):=by
 rcases h with ⟨rfl,rfl⟩|⟨b,D,rfl,h,h2⟩
 ·exact⟨0,0,false,Maps.look_nil true Ie underlying133 (afS w) (keyS hi),λ_=>rfl,λz=>by cases z⟩
 ·obtain⟨v,ps,hr,hv⟩:=h.look_ok Ie underlying133 (afS w) (Gf 0 0) (keyS hi);obtain⟨q,a,rfl,hz⟩:=Qu hv;obtain⟨g1,g2⟩:=h2 i hi;refine⟨q,a,_,hr,λhb=>?_,λhb=>?_⟩
  ·cases hl:kZ ids i with
   | none=>rfl
   | some k=>rw[(g2 k hl).1] at hb;cases hb
  ·cases hl:kZ ids i with
   | none=>rw[g1 hl] at hb;cases hb
   | some k =>
    refine⟨k,rfl,?_⟩;have e:=congrArg Prod.fst hz;simp only[(g2 k hl).2,DataW.agg.injEq,amD,amf,amz,ane,aml] at e;exact e
theorem sS.store {w:I}{b:Nat}{ids:List Kn}(h:sS w (some b) ids)(hn:ids.length<maxLen)(i:ad)(hi:i.size<=maxLen)(q a:Int) :
 ∃w',(Instr.mapUpdate 133 (.map (some b)) (.string i) (.agg #[.int .i64 q,.int .i64 a])).run prog w=.ok () w'/\sS w' (some b) (ids++[⟨i,a,q⟩])/\aA (λk=>k=b) w w':=by
 rcases h with ⟨h,_⟩|⟨b',D,e,h,h2⟩
 ·cases h
 ·cases e
  obtain⟨w',hr,h3,h4⟩:=h.store Ie underlying133 hn (keyS hi) (Gf q a);have hD:=h.tidy Ie;refine⟨w',hr,.inr ⟨b,_,rfl,by rw[ajB,akR];exact h3,λj hj=>?_⟩,?_⟩
  ·rw[F7];by_cases e:i=j
   ·subst e;rw[if_pos (show(⟨i,a,q⟩:Kn).i=i from rfl)];refine⟨(λz=>by cases z),λk hk=>?_⟩
    cases hk
    exact⟨Maps.has_put_same hD.isMap (Lr _) _,λzd=>Maps.atKey_put_same hD.isMap (Lr _) _ _⟩
   ·rw[if_neg (show ¬(⟨i,a,q⟩:Kn).i=j from e)];obtain⟨g1,g2⟩:=h2 j hj;refine⟨λz=>?_,λk hk=>⟨?_,λzd=>?_⟩⟩
    ·rw[amm (Fh (λz=>e z.symm))];exact g1 z
    ·rw[amm (Fh (λz=>e z.symm))];exact(g2 k hk).1
    ·rw[Maps.atKey_put_other (Fh (λz=>e z.symm))];exact(g2 k hk).2 zd
  ·exact(aA.bC h4.grown).mono (λk _ z=>(ajU z).symm)
abbrev YO (w:I)(x:Nat)(P:Pn.aX)(a:Option Addr)(c:Nat):Prop:=PB w x P.n a P.f.length c (nth P.v 0) (nth P.v 1) (nth P.v 2) (nth P.v 3) (nth P.v 4) (nth P.v 5) (nth P.v 6) (nth P.v 7)
def smF (FV:af)(a:Option Addr)(mb:Option Nat)(k:Nat):Prop:=FV k\/(∃z,a=some z/\k=z.block)\/mb=some k
structure Qv (Has:I->Nat->Nat->af->Int->List aB->Prop)(SH:I->Nat->Nat->af->aH->Prop)(w:I)(B x:Nat)(FV:af)(a:Option Addr)(c:Nat)(mb:Option Nat)(P:Pn.aX)(m size:Int)(st:Str):Prop where
 pW:ql Has SH 10 w B x FV m size st.es st.s
 plan:YO w x P a c
 ids:w.cell? (aq x 14)=some (.map mb)
 row:gU w a P.f
 rowB:∀z,a=some z->B<=z.block/\z.block<w.heap.size/\¬FV z.block
 cap:P.f.length<=c
 map:sS w mb (jA P st.ids)
 wC:∀b,mb=some b->B<=b/\b<w.heap.size/\¬FV b/\∀z,a=some z->z.block≠b
 lasts:sD (jA P st.ids)
 few:(st.ids.length:Int)<=st.s.last
 small:gI P
section
variable {Has:I->Nat->Nat->af->Int->List aB->Prop}{SH:I->Nat->Nat->af->aH->Prop}{w w':I}{B x:Nat}{FV A:af}{a:Option Addr}{c:Nat}{mb:Option Nat}{P:Pn.aX}{m size:Int}{st:Str}{es':List aB}{s':aH}
theorem ql.blk {F:af}{es:List aB}{s:aH}(h:ql Has SH o w B x F m size es s):F x/\B<=x/\x<w.heap.size/\∀j,w.frozen? (aq x j)=false:=by
 obtain⟨q,g,c,FL,G,h1,h2⟩:=h;exact⟨(h2 x).2 (.inl rfl),h1.base,h1.lt,h1.free⟩
theorem ql.own {o:Nat}{F:af}{es:List aB}{s:aH}(H:More Has)(S:eG SH)(h:ql Has SH o w B x F m size es s):∀k,F k->B<=k/\k<w.heap.size:=λk hk=>by
 obtain⟨q,g,c,FL,G,h1,h2⟩:=h;exact h1.own H S k ((h2 k).1 hk)
theorem ql.aF {o:Nat}{F:af}{es:List aB}{s:aH}(H:More Has)(S:eG SH)(h:ql Has SH o w B x F m size es s)(hc:aA A w w')(hn:∀k,F k->¬A k):ql Has SH o w' B x F m size es s:=by
 obtain⟨q,g,c,FL,G,h1,h2⟩:=h;exact⟨q,g,c,FL,G,h1.aF H S hc (λk hk=>hn k ((h2 k).2 hk)),h2⟩
theorem ql.beside {j:Nat}{F:af}{es:List aB}{s:aH}(H:More Has)(S:eG SH)(h:ql Has SH o w B x F m size es s)(hj:j<o\/o+4<=j)(v:Value):ql Has SH o (w.setCell (aq x j) v) B x F m size es s:=by
 obtain⟨q,g,c,FL,G,h1,h2⟩:=h;have cs:aA (λk=>k=x) w (w.setCell (aq x j) v):=(aA.refl _ _).setCell (A:=λk=>k=x) (p:=aq x j) (.inl rfl) _;refine⟨q,g,c,FL,G,⟨(jH.looks H g size).aF h1.log cs (λk hk z=>by subst z;exact h1.xd hk),S.aF h1.zx cs (λk hk z=>by subst z;exact h1.xg hk),h1.base,ajz h1.lt cs.size,?_,?_,?_,?_,λi=>?_,h1.ap,h1.xd,h1.xg⟩,h2⟩
 ·rw[ajD _ _ _ _ (by simp<;>omega)];exact h1.c0
 ·rw[ajD _ _ _ _ (by simp<;>omega)];exact h1.c1
 ·rw[ajD _ _ _ _ (by simp<;>omega)];exact h1.c2
 ·rw[ajD _ _ _ _ (by simp<;>omega)];exact h1.c3
 ·rw[ajV];exact h1.free i
theorem DW {b:Nat}{n:ad}{l:Nat}{x0 x1 x2 x3 x4 x5 x6 x7:Int}(h:PB w b n a l c x0 x1 x2 x3 x4 x5 x6 x7)(hs:w.heap.size<=w'.heap.size)(hc:∀j,j<10->w'.cell? (aq b j)=w.cell? (aq b j)):PB w' b n a l c x0 x1 x2 x3 x4 x5 x6 x7 :=
 ⟨ajz h.lt hs,by rw[hc 0 (by omega)];exact h.c0,by rw[hc 1 (by omega)];exact h.c1,by rw[hc 2 (by omega)];exact h.c2,by rw[hc 3 (by omega)];exact h.c3,by rw[hc 4 (by omega)];exact h.c4,by rw[hc 5 (by omega)];exact h.c5,by rw[hc 6 (by omega)];exact h.c6,by rw[hc 7 (by omega)];exact h.c7,by rw[hc 8 (by omega)];exact h.c8,by rw[hc 9 (by omega)];exact h.c9⟩
theorem DX {l:List ad}(h:gU w a l)(hc:aA A w w')(hn:∀z,a=some z->¬A z.block):gU w' a l:=λk hk=>by
 obtain⟨b,o,h1,h2,h3⟩:=h k hk;exact⟨b,o,h1,ajz h2 hc.size,by rw[hc.cell (p:=aq b (o+k)) h2 (hn ⟨b,o,none⟩ h1)];exact h3⟩
theorem Qv.own (H:More Has)(S:eG SH)(h:Qv Has SH w B x FV a c mb P m size st):∀k,smF FV a mb k->B<=k/\k<w.heap.size:=by
 rintro k (z|⟨z,e,rfl⟩|z)
 ·exact h.pW.own H S k z
 ·exact⟨(h.rowB z e).1,(h.rowB z e).2.1⟩
 ·exact⟨(h.wC k z).1,(h.wC k z).2.1⟩
theorem Qv.aF (H:More Has)(S:eG SH)(h:Qv Has SH w B x FV a c mb P m size st)(hc:aA A w w')(hn:∀k,smF FV a mb k->¬A k):Qv Has SH w' B x FV a c mb P m size st:=by
 obtain⟨hx,_,hl,_⟩:=h.pW.blk;have hx':=hn x (.inl hx);have e:∀j,w'.cell? (aq x j)=w.cell? (aq x j):=λj=>hc.cell (p:=aq x j) hl hx'
 exact⟨h.pW.aF H S hc (λk hk=>hn k (.inl hk)),DW h.plan hc.size (λj _=>e j),(e 14).trans h.ids,DX h.row hc (λz hz=>hn _ (.inr (.inl ⟨z,hz,rfl⟩))),λz hz=>⟨(h.rowB z hz).1,ajz (h.rowB z hz).2.1 hc.size,(h.rowB z hz).2.2⟩,h.cap,h.map.aF hc (λb hb=>hn b (.inr (.inr hb))),λb hb=>⟨(h.wC b hb).1,ajz (h.wC b hb).2.1 hc.size,(h.wC b hb).2.2⟩,h.lasts,h.few,h.small⟩
theorem Qv.below (H:More Has)(S:eG SH)(h:Qv Has SH w B x FV a c mb P m size st)(hb:ai w w'):Qv Has SH w' B x FV a c mb P m size st:=h.aF H S (A:=λ_=>False) (aA.of_below hb) (λ_ _ z=>z)
theorem Qv.did (h:Qv Has SH w B x FV a c mb P m size st)(hl:st.s.last<=s'.last)(hd:aer Has SH 10 w w' B x FV m size es' s'):∃FV',Qv Has SH w' B x FV' a c mb P m size ⟨es',s',st.ids⟩/\aA FV w w'/\∀k,FV' k->FV k\/w.heap.size<=k:=by
 obtain⟨⟨FV',k1,hc,ho⟩,hs⟩:=hd;refine⟨FV',⟨k1,DW h.plan hc.size (λj hj=>hs j (.inl hj)),(hs 14 (.inr (by omega))).trans h.ids,DX h.row hc (λz hz=>(h.rowB z hz).2.2),λz hz=>⟨(h.rowB z hz).1,ajz (h.rowB z hz).2.1 hc.size,λy=>?_⟩,h.cap,h.map.aF hc (λb hb=>(h.wC b hb).2.2.1),λb hb=>⟨(h.wC b hb).1,ajz (h.wC b hb).2.1 hc.size,λy=>?_,(h.wC b hb).2.2.2⟩,h.lasts,Int.le_trans h.few hl,h.small⟩,hc,ho⟩
 ·rcases ho _ y with u|u
  ·exact(h.rowB z hz).2.2 u
  ·have:=(h.rowB z hz).2.1;omega
 ·rcases ho _ y with u|u
  ·exact(h.wC b hb).2.2.1 u
  ·have:=(h.wC b hb).2.1;omega
theorem Qv.put (H:More Has)(S:eG SH)(h:Qv Has SH w B x FV a c mb P m size st){mb':Option Nat}{wE:List Kn}(hm:sS w mb' (jA P wE))(hb:∀b,mb'=some b->B<=b/\b<w.heap.size/\¬FV b/\∀z,a=some z->z.block≠b)(hL:sD (jA P wE))(hf:(wE.length:Int)<=st.s.last):Qv Has SH (w.setCell (aq x 14) (.map mb')) B x FV a c mb' P m size ⟨st.es,st.s,wE⟩:=by
 obtain⟨hx,_,hl,_⟩:=h.pW.blk;have cs:aA (λk=>k=x) w (w.setCell (aq x 14) (.map mb')):=(aA.refl _ _).setCell (A:=λk=>k=x) (p:=aq x 14) (.inl rfl) _;exact⟨h.pW.beside H S (.inr (by omega)) _,DW h.plan cs.size (λj hj=>ajD _ _ _ _ (by simp<;>omega)),akf _ _ _ h.ids,DX h.row cs (λz hz y=>(h.rowB z hz).2.2 (y▸hx)),λz hz=>⟨(h.rowB z hz).1,ajz (h.rowB z hz).2.1 cs.size,(h.rowB z hz).2.2⟩,h.cap,hm.aF cs (λb hb' y=>(hb b hb').2.2.1 (y▸hx)),λb hb'=>⟨(hb b hb').1,ajz (hb b hb').2.1 cs.size,(hb b hb').2.2⟩,hL,hf,h.small⟩
end
def Qw (Has:I->Nat->Nat->af->Int->List aB->Prop)(SH:I->Nat->Nat->af->aH->Prop)(w:I)(B x:Nat)(F:af)(P:Pn.aX)(m size:Int)(st:Str):Prop:=∃FV a c mb,Qv Has SH w B x FV a c mb P m size st/\∀k,F k↔smF FV a mb k
def fM (Has:I->Nat->Nat->af->Int->List aB->Prop)(SH:I->Nat->Nat->af->aH->Prop)(F0 Cs:af)(w wr:I)(B x:Nat)(a:Option Addr)(c:Nat)(mb:Option Nat)(P:Pn.aX)(m size:Int)(st:Str):Prop :=
 ∃FV,Qv Has SH wr B x FV a c mb P m size st/\aA F0 w wr/\(∀k,smF FV a mb k->F0 k\/w.heap.size<=k)/\∀k,Cs k->k<wr.heap.size/\¬smF FV a mb k
section
variable {Has:I->Nat->Nat->af->Int->List aB->Prop}{SH:I->Nat->Nat->af->aH->Prop}{F F0 Cs yI:af}{w wr w':I}{B x:Nat}{a:Option Addr}{c:Nat}{mb:Option Nat}{P:Pn.aX}{m size:Int}{st:Str}{es':List aB}{s':aH}
theorem Qw.begin (h:Qw Has SH w B x F P m size st):∃a c mb,fM Has SH F (λ_=>False) w w B x a c mb P m size st/\∀Cs wr mb' st',fM Has SH F Cs w wr B x a c mb' P m size st'->TP (Qw Has SH) w wr B x F P m size st':=by
 obtain⟨FV,a,c,mb,h1,h2⟩:=h;refine⟨a,c,mb,⟨FV,h1,aA.refl _ _,λk z=>.inl ((h2 k).2 z),λ_ z=>z.elim⟩,λCs wr mb' st' hr=>?_⟩;obtain⟨FV',r1,r2,r3,_⟩:=hr;exact⟨_,⟨FV',a,c,mb',r1,λk=>alJ⟩,r2,r3⟩
theorem fM.room (h:fM Has SH F0 Cs w wr B x a c mb P m size st):w.heap.size<=wr.heap.size:=by
 obtain⟨_,_,h2,_⟩:=h;exact h2.size
theorem fM.plan (h:fM Has SH F0 Cs w wr B x a c mb P m size st):YO wr x P a c:=by
 obtain⟨_,h1,_⟩:=h;exact h1.plan
theorem fM.lt (h:fM Has SH F0 Cs w wr B x a c mb P m size st):x<wr.heap.size:=h.plan.lt
theorem fM.ids (h:fM Has SH F0 Cs w wr B x a c mb P m size st):wr.cell? (aq x 14)=some (.map mb)/\wr.frozen? (aq x 14)=false:=by
 obtain⟨_,h1,_⟩:=h;exact⟨h1.ids,h1.pW.blk.2.2.2 14⟩
theorem fM.mine (H:More Has)(S:eG SH)(h:fM Has SH F0 Cs w wr B x a c mb P m size st)(hb:ai wr w')(hn:∀k,yI k->Cs k\/wr.heap.size<=k/\k<w'.heap.size):fM Has SH F0 yI w w' B x a c mb P m size st:=by
 obtain⟨FV,h1,h2,h3,h4⟩:=h;refine⟨FV,h1.below H S hb,h2.trans (aA.of_below hb),h3,λk hk=>?_⟩;rcases hn k hk with y|y
 ·exact⟨ajz (h4 k y).1 hb.size,(h4 k y).2⟩
 ·exact⟨y.2,λz=>by have:=(h1.own H S k z).2;omega⟩
theorem fM.below (H:More Has)(S:eG SH)(h:fM Has SH F0 Cs w wr B x a c mb P m size st)(hb:ai wr w'):fM Has SH F0 Cs w w' B x a c mb P m size st:=h.mine H S hb (λ_ z=>.inl z)
theorem fM.stay (h:fM Has SH F0 Cs w wr B x a c mb P m size st)(hb:ai wr w'):gu Cs wr w':=by
 obtain⟨FV,_,_,_,h4⟩:=h;exact⟨hb.size,λk hk=>hb.block k (h4 k hk).1⟩
theorem fM.did (h:fM Has SH F0 Cs w wr B x a c mb P m size st)(hl:st.s.last<=s'.last){fn:FuncId}{args:Array Value}{Q:Ending->I->Prop}
 (hc:∀FV,ql Has SH 10 wr B x FV m size st.es st.s->Calls prog fn args wr λe w'=>Q e w'/\aer Has SH 10 wr w' B x FV m size es' s') :
 Calls prog fn args wr λe w'=>Q e w'/\fM Has SH F0 Cs w w' B x a c mb P m size ⟨es',s',st.ids⟩/\gu Cs wr w':=by
 have hr:=h.room;obtain⟨FV,h1,h2,h3,h4⟩:=h;refine(hc FV h1.pW).mono ?_;rintro e w' ⟨hq,hu⟩;obtain⟨FV',a1,a2,a3⟩:=h1.did hl hu;refine⟨hq,⟨FV',a1,kP h2 a2 (λi hi z=>?_),λk hk=>?_,λk hk=>⟨ajz (h4 k hk).1 a2.size,λz=>?_⟩⟩,a2.size,λk hk=>a2.block k (h4 k hk).1 (λz=>(h4 k hk).2 (.inl z))⟩
 ·rcases h3 i (.inl z) with y|y
  ·exact y
  ·omega
 ·rcases hk with z|z
  ·rcases a3 k z with y|y
   ·exact h3 k (.inl y)
   ·exact .inr (ajA hr y)
  ·exact h3 k (.inr z)
 ·rcases z with z|z
  ·rcases a3 k z with y|y
   ·exact(h4 k hk).2 (.inl y)
   ·have:=(h4 k hk).1;omega
  ·exact(h4 k hk).2 (.inr z)
theorem fM.look (h:fM Has SH F0 Cs w wr B x a c mb P m size st):∃FV,ql Has SH 10 wr B x FV m size st.es st.s:=by
 obtain⟨FV,h1,_⟩:=h;exact⟨FV,h1.pW⟩
end
end Go.Proofs.YtebofkkfbkodiaaGreatDoor.Dk
