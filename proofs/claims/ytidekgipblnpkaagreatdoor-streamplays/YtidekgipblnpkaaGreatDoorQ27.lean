/- A part. -/
import Derived.Test.YtidekgipblnpkaaGreatDoorQ7
import Derived.Test.YtidekgipblnpkaaGreatDoorQ13
import Derived.Test.YtidekgipblnpkaaGreatDoorQ18
set_option maxRecDepth 100000
set_option maxHeartbeats 8000000
namespace Go.Proofs.YtidekgipblnpkaaGreatDoor.Dk
open Go.RowKit Go.Proofs.Tryz
theorem ny {r:Rc}(h:dL r=0)(h1:r.k=1):aG false r.s=0:=by
 have e:=xM r.k r.q r.t r.s r.h r.d;have e2:jB r.k r.q r.t r.s r.h r.d=0:=h;rw[e2] at e;by_cases hb:Pk.QB r.k r.q r.t=false
 ·rw[if_pos hb] at e;cases e
 ·rw[if_neg hb,if_pos h1] at e;unfold KI at e;by_cases z:aG false r.s≠0
  ·rw[if_pos z] at e;exact e.symm
  ·exact aju z
theorem aJ.Ok.cnt {s:aJ}(h:s.Ok):∃es,nP s.l es:=acy _ s.l rfl (λx hx=>⟨ny (h.msg x hx).2 (h.msg x hx).1,by have:=(h.small hx).1;omega⟩) h.names
structure lX (SH:World->Nat->Nat->(Nat->Prop)->aJ->Prop):Prop where
 Jz:∀{w B q F s} (f:ByteArray) {es:List aW},f.size<=140737488355328->SH w B q F s->s.Ok->B<=w.heap.size->nP s.l es ->
  Calls prog 20 #[.pointer (some ⟨q,0,none⟩),.string f] w λe w'=>∃v',e=.returned (.tuple #[v',.int .i64 (aG true f)])/\aS w' w.heap.size v' (uf es f)/\Below w.heap.size w w'
end Go.Proofs.YtidekgipblnpkaaGreatDoor.Dk
namespace Go.Proofs.YtidekgipblnpkaaGreatDoor.Dk
open Go Go.Proofs.Tryz
def gW (p:Pn.cu)(m size now:Int)(x:Po)(es:List ay)(s:aJ):Int×List ay×aJ:=rZ p m size now x (s.l.length+1) es s
theorem pU {es:List ay}{s:aJ}{m size q now:Int}(h0:iJ es s m size (bT q now)=0)(hm:∃r∈s.l,r.q=q):(lq es s m size (bT q now)).l.length<s.l.length:=by
 rw[OI h0];obtain⟨r,hr,e⟩:=hm;exact Gh ⟨r,hr,by simp[e]⟩
section
variable {p:Pn.cu}{m size now q:Int}{x:Po}{es:List ay}{s:aJ}
theorem JA (hp:afq p)(hz:¬(pv p 1≠0/\pv p 1<(qm x:Int))):∀(k k':Nat) (es:List ay) (s:aJ),s.l.length<k->s.l.length<k'->rZ p m size now x k es s=rZ p m size now x k' es s
 | 0,_,_,_,h,_=>absurd h (ajG _)
 | _+1,0,_,_,_,h=>absurd h (ajG _)
 | k+1,k'+1,es,s,h,h'=>by
  unfold rZ;by_cases c:(bG p s.l x||bM p s.l x)=false
  ·rw[if_pos c,if_pos c]
  ·rw[if_neg c,if_neg c];by_cases d:pv p 5=1
   ·rw[if_pos d,if_pos d]
   ·rw[if_neg d,if_neg d];by_cases e:iJ es s m size (bT (Aq p s.l x) now)=0
    ·rw[if_neg (by rw[e];simp),if_neg (by rw[e];simp)];have:=pU e (go_in hp hz c);exact JA hp hz k k' _ _ (by omega) (by omega)
    ·rw[if_pos e,if_pos e]
theorem Yq (c:(bG p s.l x||bM p s.l x)=false):gW p m size now x es s=(0,es,s):=by
 unfold gW rZ;rw[if_pos c]
theorem JB (c:¬(bG p s.l x||bM p s.l x)=false)(d:pv p 5=1):gW p m size now x es s=(8,es,s):=by
 unfold gW rZ;rw[if_neg c,if_pos d]
theorem Tt (c:¬(bG p s.l x||bM p s.l x)=false)(d:pv p 5≠1)(e:iJ es s m size (bT (Aq p s.l x) now)≠0):gW p m size now x es s=(iJ es s m size (bT (Aq p s.l x) now),es,s):=by
 unfold gW rZ;rw[if_neg c,if_neg d,if_pos e]
theorem Yr (hp:afq p)(hz:¬(pv p 1≠0/\pv p 1<(qm x:Int)))(c:¬(bG p s.l x||bM p s.l x)=false)(d:pv p 5≠1)(e:iJ es s m size (bT (Aq p s.l x) now)=0) :
 gW p m size now x es s=gW p m size now x (qL es s m size (bT (Aq p s.l x) now)) (lq es s m size (bT (Aq p s.l x) now)):=by
 have:=pU e (go_in hp hz c);unfold gW;rw[rZ,if_neg c,if_neg d,if_neg (by rw[e];simp)];exact JA hp hz _ _ _ _ (by omega) (by omega)
theorem Wq {a b:List Rc}(h:a.Sublist b)(c:bG p b x=false):bG p a x=false:=by
 have:=ZK h x.s;unfold bG at c ⊢
 cases hp:decide (pv p 3≠0) with
 | false=>rfl
 | true =>
  rw[hp] at c;simp only[akn,ajP] at c ⊢;omega
theorem afH (h0:iJ es s m size (bT q now)=0):(lq es s m size (bT q now)).l.Sublist s.l:=by
 rw[OI h0];exact List.filter_sublist
end
theorem Ws {f s:ByteArray}(hf:aG false f=0)(hs:aG false s=0):mX f s=decide (s=f):=by
 unfold mX;have h:=tJ (Pl.aI f) (Pl.aI s) (jg hf) (λt ht=>(jg hs t ht).1);by_cases e:s=f
 ·subst e;rw[ajg rfl];exact h.2 rfl
 ·rw[ajd e]
  cases hc:dI (Pl.aI f) (Pl.aI s) with
  | false=>rfl
  | true=>exact absurd (zV (h.1 hc)).symm e
def nxQ (f:ByteArray)(l:List Rc):Int:=((rW f l 0).map (·.q)).getD 0
theorem MS {α:Type}{p q:α->Bool}:∀{l:List α},(∀x∈l,p x=q x)->l.find? p=l.find? q
 | [],_=>rfl
 | x::l,h=>by
  have h0:=h x (ajQ ..);have hr:=MS (l:=l) (λy hy=>h y (akg _ hy));rw[alI,alI,h0,hr]
theorem Wu {s:aJ}(h:s.Ok){f:ByteArray}(hf:aG false f=0):nxQ f s.l=pO s.l f:=by
 unfold nxQ pO rW;congr 2
 refine MS (λr hr=>?_);have h1:=h.seq hr;rw[Ws hf (ny (h.msg r hr).2 (h.msg r hr).1),ajg (p:=(0:Int)<=r.q) (by omega),Bool.and_true]
theorem ahd {s:aJ}(h:s.Ok):nxQ ⟨#[62]⟩ s.l=dU s.l:=by
 unfold nxQ rW
 cases hl:s.l with
 | nil=>rfl
 | cons r l =>
  have h1:=h.seq (x:=r) (by rw[hl];exact ajQ ..);rw[alI,afv,ajg (p:=(0:Int)<=r.q) (by omega)];rfl
theorem Z9 (l:List Rc)(s:ByteArray):lW l s=dQ l s:=by
 unfold lW dQ;rw[List.countP_eq_length_filter]
theorem aac {l:List Rc}{es:List aW}(h:nP l es){f:ByteArray}(hf:aG false f=0)(hl:∀r∈l,aG false r.s=0):uf es f=if lW l f=0 then [] else [(f,(lW l f:Int))]:=by
 unfold uf lK;rw[if_pos (lJ hf),Z9];refine OD (h.jY.1.sublist List.filter_sublist) ?_ (λe=>?_)
 ·split
  ·exact List.Pairwise.nil
  ·exact List.pairwise_singleton _ _
 ·rw[alN,h.mem];constructor
  ·rintro ⟨⟨a,b⟩,c⟩;have hs:aG false e.1=0:=by
    have hc:0<(l.filter λr=>decide (r.s=e.1)).length:=a;obtain⟨r,hr⟩:=List.exists_mem_of_length_pos hc;obtain⟨h1,h2⟩:=alN.1 hr;rw[<-alF h2];exact hl r h1
   rw[GK hf hs] at c;have e1:f=e.1:=iy.1 c;rw[e1,if_neg (by omega),akr];exact anr rfl b
  ·intro hm;split at hm
   ·cases hm
   ·rename_i hn;rw[akr] at hm;subst hm;exact⟨⟨by show 0<dQ l f;omega,rfl⟩,Q8 hf⟩
def lY (ids:List Kn)(i:ByteArray):Option Kn:=ids.foldl (λo k=>if k.i=i then some k else o) none
def knQ (o:Option Kn)(f:Int):Int:=match o with
 | none=>0
 | some k=>if f<=k.a then k.q else 0
structure sH (ids:List Kn):Prop where
 seen:∀i f,jX ids i f=knQ (lY ids i) f
 agB:∀k∈ids,k.i.size≠0
theorem sH.nil:sH []:=⟨λ_ _=>rfl,λk hk=>by cases hk⟩
theorem Wv (ids:List Kn)(k:Kn)(i:ByteArray)(f:Int):jX (ids++[k]) i f=if k.i=i/\f<=k.a then k.q else jX ids i f:=by
 unfold jX;rw[amr];rfl
theorem JC (ids:List Kn)(k:Kn)(i:ByteArray):lY (ids++[k]) i=if k.i=i then some k else lY ids i:=by
 unfold lY;rw[amr];rfl
theorem Tv {i:ByteArray}{k:Kn}:∀(ids:List Kn) (o:Option Kn),ids.foldl (λo k=>if k.i=i then some k else o) o=some k->(k∈ids/\k.i=i)\/o=some k
 | [],_,h=>.inr h
 | j::ids,o,h=>by
  rcases Tv ids _ h with y|y
  ·exact .inl ⟨akg _ y.1,y.2⟩
  ·have z:(if j.i=i then some j else o)=some k:=y;split at z
   ·rename_i e
    cases z
    exact .inl ⟨ajQ ..,e⟩
   ·exact .inr z
theorem MV {i:ByteArray}{k:Kn}{ids:List Kn}(h:lY ids i=some k):k∈ids/\k.i=i:=by
 rcases Tv ids none h with y|y
 ·exact y
 ·cases y
theorem sH.more {ids:List Kn}(h:sH ids)(hq:∀k∈ids,1<=k.q){i:ByteArray}{now W q:Int}(hi:i.size≠0)(hW:0<=W)(hn:¬0<jX ids i (now-W)):sH (ids++[⟨i,now,q⟩]):=by
 refine⟨λj f=>?_,λk hk=>?_⟩
 ·rw[Wv,JC];by_cases e:i=j
  ·subst e;rw[if_pos (show(⟨i,now,q⟩:Kn).i=i from rfl)];show(if i=i/\f<=now then q else jX ids i f)=if f<=now then q else 0
   by_cases c:f<=now
   ·rw[if_pos ⟨rfl,c⟩,if_pos c]
   ·rw[if_neg (λz=>c z.2),if_neg c,h.seen];rw[h.seen] at hn
    cases hl:lY ids i with
    | none=>rfl
    | some k =>
     rw[hl] at hn;have h1:=hq k (MV hl).1;unfold knQ at hn ⊢;simp only at hn ⊢;by_cases d:now-W<=k.a
     ·rw[if_pos d] at hn;omega
     ·rw[if_neg (by omega)]
  ·rw[if_neg (λz=>e z.1),if_neg e];exact h.seen j f
 ·rcases ajS.1 hk with y|y
  ·exact h.agB k y
  ·rw[akr.1 y];exact hi
def jC (P:Pn.cu)(ids:List Kn):List Kn:=if pv P 7=0 then [] else ids
theorem MW {p:Pn.cu}{m size now:Int}:∀(k k':Nat) (n:Int) (es:List ay) (s:aJ),s.l.length<k->s.l.length<k'->wC p m size now k n es s=wC p m size now k' n es s
 | 0,_,_,_,_,h,_=>absurd h (ajG _)
 | _+1,0,_,_,_,_,h=>absurd h (ajG _)
 | k+1,k'+1,n,es,s,h,h'=>by
  unfold wC
  cases ho:um s.l (now-pv p 2) with
  | none=>rfl
  | some r =>
   simp only;by_cases e:iJ es s m size (bT r.q now)=0
   ·rw[if_neg (by rw[e];simp),if_neg (by rw[e];simp)];have:=pU e ⟨r,aln ho,rfl⟩;exact MW k k' _ _ _ (by omega) (by omega)
   ·rw[if_pos e,if_pos e]
def JD (p:Pn.cu)(m size now n:Int)(es:List ay)(s:aJ):(Int×Int)×List ay×aJ:=wC p m size now (s.l.length+1) n es s
section
variable {p:Pn.cu}{m size now n:Int}{es:List ay}{s:aJ}
theorem ac3 (h:um s.l (now-pv p 2)=none):JD p m size now n es s=((n,0),es,s):=by
 unfold JD wC;rw[h]
theorem Yt {r:Rc}(h:um s.l (now-pv p 2)=some r)(e:iJ es s m size (bT r.q now)≠0):JD p m size now n es s=((n,iJ es s m size (bT r.q now)),es,s):=by
 unfold JD wC;rw[h];simp only;rw[if_pos e]
theorem ac4 {r:Rc}(h:um s.l (now-pv p 2)=some r)(e:iJ es s m size (bT r.q now)=0):JD p m size now n es s=JD p m size now (n+1) (qL es s m size (bT r.q now)) (lq es s m size (bT r.q now)):=by
 have:=pU e ⟨r,aln h,rfl⟩;unfold JD;rw[wC,h];simp only;rw[if_neg (by rw[e];simp)];exact MW _ _ _ _ _ (by omega) (by omega)
def Uy (t:Int)(l:List Rc)(i:Nat)(s:aJ):Prop:=∃A,(∀r∈A,¬r.t<t)/\s.l=A++l.drop i
theorem Uy.start (t:Int)(s:aJ):Uy t s.l 0 s:=⟨[],(λr hr=>by cases hr),by simp⟩
theorem MX {f:Rc->Bool}:∀{A B:List Rc},(∀r∈A,f r=false)->(A++B).find? f=B.find? f
 | [],_,_=>rfl
 | a::A,B,h=>by
  rw[ajM,alI,h a (ajQ ..)];exact MX (λr hr=>h r (akg _ hr))
theorem Uy.past {t:Int}{l:List Rc}{i:Nat}(h:Uy t l i s):um s.l t=um (l.drop i) t:=by
 obtain⟨A,h1,h2⟩:=h;unfold um;rw[h2,MX (λr hr=>ajd (h1 r hr))]
theorem Uy.aiF {t:Int}{l:List Rc}(h:Uy t l l.length s):um s.l t=none:=by
 rw[h.past,alb];rfl
theorem Uy.ac5 {t:Int}{l:List Rc}{i:Nat}(h:Uy t l i s)(hi:i<l.length)(ht:¬(rc l i).t<t):Uy t l (i+1) s:=by
 obtain⟨A,h1,h2⟩:=h;refine⟨A++[rc l i],λr hr=>?_,by rw[h2,xJ hi];simp⟩;rcases ajS.1 hr with y|y
 ·exact h1 r y
 ·rw[akr.1 y];exact ht
theorem Uy.old {t:Int}{l:List Rc}{i:Nat}(h:Uy t l i s)(hi:i<l.length)(ht:(rc l i).t<t):um s.l t=some (rc l i):=by
 rw[h.past,xJ hi];unfold um;rw[List.find?_cons_of_pos (by simpa using ht)]
theorem Uy.gone {t:Int}{l:List Rc}{i:Nat}(h:Uy t l i s)(hk:s.Ok)(hi:i<l.length)(e:iJ es s m size (bT (rc l i).q now)=0):Uy t l (i+1) (lq es s m size (bT (rc l i).q now)):=by
 obtain⟨A,h1,h2⟩:=h;refine⟨A,h1,?_⟩;have hr:=hk.jT;rw[OI e];show s.l.filter _=_;rw[h2,xJ hi] at hr ⊢;obtain⟨p1,p2,p3⟩:=ala.1 hr;obtain⟨p4,p5⟩:=alq.1 p2;rw[alu,amW,if_neg (by simp)];congr 1
 ·exact alX.2 (λr hm=>by
   have:=p3 r hm (rc l i) (ajQ ..);simp;omega)
 ·exact alX.2 (λr hm=>by
   have:=p4 r hm;simp;omega)
end
end Go.Proofs.YtidekgipblnpkaaGreatDoor.Dk
namespace Go.Proofs.YtidekgipblnpkaaGreatDoor.Dk
open Go.RowKit Go.Proofs.Tryz
def G9 (v:Value):Option (DataW Unit×List MemPlace):=match v with
 | .agg xs=>match xs.toList with
  | [.int .i64 q,.int .i64 a]=>some (.agg [.lit (.int .i64 q),.lit (.int .i64 a)],[])
  | _=>none
 | _=>none
theorem JE (q a:Int):G9 (.agg #[.int .i64 q,.int .i64 a])=some (.agg [.lit (.int .i64 q),.lit (.int .i64 a)],[]):=rfl
theorem Tz {v:Value}{z:DataW Unit×List MemPlace}(h:G9 v=some z):∃q a:Int,v=.agg #[.int .i64 q,.int .i64 a]/\z=(.agg [.lit (.int .i64 q),.lit (.int .i64 a)],[]):=by
 unfold G9 at h;split at h
 ·rename_i xs;split at h
  ·rename_i q a e
   cases h
   refine⟨q,a,?_,rfl⟩;rw[<-Array.toArray_toList (xs:=xs),e]
  ·cases h
 ·cases h
theorem agC (w:World):(zeroValue 158).run prog w=.ok (.agg #[.int .i64 0,.int .i64 0]) w:=by kernel_rfl
def uH (w:World)(mb:Option Nat)(ids:List Kn):Prop:=(mb=none/\ids=[])\/∃b D,mb=some b/\w.ownsMap prog 9 G9 b ids.length D /\
 ∀i:ByteArray,i.size<=maxLen->(lY ids i=none->Maps.has D (kS i)=false)/\∀k,lY ids i=some k->Maps.has D (kS i)=true/\∀zd,D.atKey (kS i) zd=.agg [.lit (.int .i64 k.q),.lit (.int .i64 k.a)]
theorem uH.none (w:World):uH w .none []:=.inl ⟨rfl,rfl⟩
theorem uH.made (w:World):uH (w.alloc (.map #[] 0)) (some w.heap.size) []:=.inr ⟨_,.map [],rfl,World.ownsMap_made _ _ _ _,λi _=>⟨λ_=>by simp[Maps.has],λk hk=>by cases hk⟩⟩
theorem uH.bZ {A:Nat->Prop}{w w':World}{mb:Option Nat}{ids:List Kn}(h:uH w mb ids)(hc:aH A w w')(hn:∀b,mb=some b->¬A b):uH w' mb ids:=by
 rcases h with h|⟨b,D,rfl,h,h2⟩
 ·exact .inl h
 ·refine .inr ⟨b,D,rfl,?_,h2⟩;have hl:=h.lt;obtain⟨es,clock,hb,r⟩:=h;exact⟨es,clock,(hc.block b hl (hn b rfl)).trans hb,r⟩
theorem uH.look {w:World}{mb:Option Nat}{ids:List Kn}(h:uH w mb ids)(i:ByteArray)(hi:i.size<=maxLen) :
 ∃q a b,(Instr.lookup 86 (.map mb) (.string i) true).run prog w=.ok (.tuple #[.agg #[.int .i64 q,.int .i64 a],.bool b]) w/\(b=false->lY ids i=Option.none)/\(b=true->∃k,lY ids i=some k/\k.q=q/\k.a=a):=by
 rcases h with ⟨rfl,rfl⟩|⟨b,D,rfl,h,h2⟩
 ·exact⟨0,0,false,Maps.look_nil true KE underlying86 (agC w) (acE hi),λ_=>rfl,λz=>by cases z⟩
 ·obtain⟨v,ps,hr,hv⟩:=h.look_ok KE underlying86 (agC w) (JE 0 0) (acE hi);obtain⟨q,a,rfl,hz⟩:=Tz hv;obtain⟨g1,g2⟩:=h2 i hi;refine⟨q,a,_,hr,λhb=>?_,λhb=>?_⟩
  ·cases hl:lY ids i with
   | none=>rfl
   | some k=>rw[(g2 k hl).1] at hb;cases hb
  ·cases hl:lY ids i with
   | none=>rw[g1 hl] at hb;cases hb
   | some k =>
    refine⟨k,rfl,?_⟩;have e:=congrArg Prod.fst hz;simp only[(g2 k hl).2,DataW.agg.injEq,akY,amZ,ani,anp,ama] at e;exact e
theorem uH.store {w:World}{b:Nat}{ids:List Kn}(h:uH w (some b) ids)(hn:ids.length<maxLen)(i:ByteArray)(hi:i.size<=maxLen)(q a:Int) :
 ∃w',(Instr.mapUpdate 86 (.map (some b)) (.string i) (.agg #[.int .i64 q,.int .i64 a])).run prog w=.ok () w'/\uH w' (some b) (ids++[⟨i,a,q⟩])/\aH (λk=>k=b) w w':=by
 rcases h with ⟨h,_⟩|⟨b',D,e,h,h2⟩
 ·cases h
 ·cases e
  obtain⟨w',hr,h3,h4⟩:=h.store KE underlying86 hn (acE hi) (JE q a);have hD:=h.tidy KE;refine⟨w',hr,.inr ⟨b,_,rfl,by rw[ajh,akX];exact h3,λj hj=>?_⟩,?_⟩
  ·rw[JC];by_cases e:i=j
   ·subst e;rw[if_pos (show(⟨i,a,q⟩:Kn).i=i from rfl)];refine⟨(λz=>by cases z),λk hk=>?_⟩
    cases hk
    exact⟨Maps.has_put_same hD.isMap (OG _) _,λzd=>Maps.atKey_put_same hD.isMap (OG _) _ _⟩
   ·rw[if_neg (show ¬(⟨i,a,q⟩:Kn).i=j from e)];obtain⟨g1,g2⟩:=h2 j hj;refine⟨λz=>?_,λk hk=>⟨?_,λzd=>?_⟩⟩
    ·rw[amH (RY (λz=>e z.symm))];exact g1 z
    ·rw[amH (RY (λz=>e z.symm))];exact(g2 k hk).1
    ·rw[Maps.atKey_put_other (RY (λz=>e z.symm))];exact(g2 k hk).2 zd
  ·exact(aH.bH h4.grown).mono (λk _ z=>(ajC z).symm)
abbrev PBx (w:World)(x:Nat)(P:Pn.cu)(a:Option Addr)(c:Nat):Prop:=PB w x P.n a P.f.length c (nth P.v 0) (nth P.v 1) (nth P.v 2) (nth P.v 3) (nth P.v 4) (nth P.v 5) (nth P.v 6) (nth P.v 7)
def smF (FV:Nat->Prop)(a:Option Addr)(mb:Option Nat)(k:Nat):Prop:=FV k\/(∃z,a=some z/\k=z.block)\/mb=some k
structure TA (Has:World->Nat->Nat->(Nat->Prop)->Int->List ay->Prop)(SH:World->Nat->Nat->(Nat->Prop)->aJ->Prop)(w:World)(B x:Nat)(FV:Nat->Prop)(a:Option Addr)(c:Nat)(mb:Option Nat)(P:Pn.cu)(m size:Int)(st:dW):Prop where
 pV:pG Has SH 10 w B x FV m size st.es st.s
 plan:PBx w x P a c
 ids:w.cell? ⟨x,14,none⟩=some (.map mb)
 row:nZ w a P.f
 uI:∀z,a=some z->B<=z.block/\z.block<w.heap.size/\¬FV z.block
 cap:P.f.length<=c
 map:uH w mb (jC P st.ids)
 xW:∀b,mb=some b->B<=b/\b<w.heap.size/\¬FV b/\∀z,a=some z->z.block≠b
 TB:sH (jC P st.ids)
 iW:(st.ids.length:Int)<=st.s.last
 small:kM P
section
variable {Has:World->Nat->Nat->(Nat->Prop)->Int->List ay->Prop}{SH:World->Nat->Nat->(Nat->Prop)->aJ->Prop}{w w':World}{B x:Nat}{FV A:Nat->Prop}{a:Option Addr}{c:Nat}{mb:Option Nat}{P:Pn.cu}{m size:Int}{st:dW}{es':List ay}{s':aJ}
theorem pG.blk {o:Nat}{F:Nat->Prop}{es:List ay}{s:aJ}(h:pG Has SH o w B x F m size es s):F x/\B<=x/\x<w.heap.size/\∀j,w.frozen? ⟨x,j,none⟩=false:=by
 obtain⟨q,g,c,FL,G,h1,h2⟩:=h;exact⟨(h2 x).2 (.inl rfl),h1.base,h1.lt,h1.free⟩
theorem pG.own {o:Nat}{F:Nat->Prop}{es:List ay}{s:aJ}(H:jZ Has)(S:dY SH)(h:pG Has SH o w B x F m size es s):∀k,F k->B<=k/\k<w.heap.size:=λk hk=>by
 obtain⟨q,g,c,FL,G,h1,h2⟩:=h;exact h1.own H S k ((h2 k).1 hk)
theorem pG.bZ {o:Nat}{F:Nat->Prop}{es:List ay}{s:aJ}(H:jZ Has)(S:dY SH)(h:pG Has SH o w B x F m size es s)(hc:aH A w w')(hn:∀k,F k->¬A k):pG Has SH o w' B x F m size es s:=by
 obtain⟨q,g,c,FL,G,h1,h2⟩:=h;exact⟨q,g,c,FL,G,h1.bZ H S hc (λk hk=>hn k ((h2 k).2 hk)),h2⟩
theorem pG.beside {o j:Nat}{F:Nat->Prop}{es:List ay}{s:aJ}(H:jZ Has)(S:dY SH)(h:pG Has SH o w B x F m size es s)(hj:j<o\/o+4<=j)(v:Value):pG Has SH o (w.setCell ⟨x,j,none⟩ v) B x F m size es s:=by
 obtain⟨q,g,c,FL,G,h1,h2⟩:=h;have cs:aH (λk=>k=x) w (w.setCell ⟨x,j,none⟩ v):=(aH.refl _ _).setCell (A:=λk=>k=x) (p:=⟨x,j,none⟩) (.inl rfl) _;refine⟨q,g,c,FL,G,⟨(jV.looks H g size).bZ h1.log cs (λk hk z=>by subst z;exact h1.xd hk),S.bZ h1.jL cs (λk hk z=>by subst z;exact h1.xg hk),h1.base,ajc h1.lt cs.size,?_,?_,?_,?_,λi=>?_,h1.ap,h1.xd,h1.xg⟩,h2⟩
 ·rw[aji _ _ _ _ (by simp<;>omega)];exact h1.c0
 ·rw[aji _ _ _ _ (by simp<;>omega)];exact h1.c1
 ·rw[aji _ _ _ _ (by simp<;>omega)];exact h1.c2
 ·rw[aji _ _ _ _ (by simp<;>omega)];exact h1.c3
 ·rw[ajt];exact h1.free i
theorem Ho {b:Nat}{n:ByteArray}{l:Nat}{x0 x1 x2 x3 x4 x5 x6 x7:Int}(h:PB w b n a l c x0 x1 x2 x3 x4 x5 x6 x7)(hs:w.heap.size<=w'.heap.size)(hc:∀j,j<10->w'.cell? ⟨b,j,none⟩=w.cell? ⟨b,j,none⟩):PB w' b n a l c x0 x1 x2 x3 x4 x5 x6 x7 :=
 ⟨ajc h.lt hs,by rw[hc 0 (by omega)];exact h.c0,by rw[hc 1 (by omega)];exact h.c1,by rw[hc 2 (by omega)];exact h.c2,by rw[hc 3 (by omega)];exact h.c3,by rw[hc 4 (by omega)];exact h.c4,by rw[hc 5 (by omega)];exact h.c5,by rw[hc 6 (by omega)];exact h.c6,by rw[hc 7 (by omega)];exact h.c7,by rw[hc 8 (by omega)];exact h.c8,by rw[hc 9 (by omega)];exact h.c9⟩
theorem Hu {l:List ByteArray}(h:nZ w a l)(hc:aH A w w')(hn:∀z,a=some z->¬A z.block):nZ w' a l:=λk hk=>by
 obtain⟨b,o,h1,h2,h3⟩:=h k hk;exact⟨b,o,h1,ajc h2 hc.size,by rw[hc.cell (p:=⟨b,o+k,none⟩) h2 (hn ⟨b,o,none⟩ h1)];exact h3⟩
theorem TA.own (H:jZ Has)(S:dY SH)(h:TA Has SH w B x FV a c mb P m size st):∀k,smF FV a mb k->B<=k/\k<w.heap.size:=by
 rintro k (z|⟨z,e,rfl⟩|z)
 ·exact h.pV.own H S k z
 ·exact⟨(h.uI z e).1,(h.uI z e).2.1⟩
 ·exact⟨(h.xW k z).1,(h.xW k z).2.1⟩
theorem TA.bZ (H:jZ Has)(S:dY SH)(h:TA Has SH w B x FV a c mb P m size st)(hc:aH A w w')(hn:∀k,smF FV a mb k->¬A k):TA Has SH w' B x FV a c mb P m size st:=by
 obtain⟨hx,_,hl,_⟩:=h.pV.blk;have hx':=hn x (.inl hx);have e:∀j,w'.cell? ⟨x,j,none⟩=w.cell? ⟨x,j,none⟩:=λj=>hc.cell (p:=⟨x,j,none⟩) hl hx'
 exact⟨h.pV.bZ H S hc (λk hk=>hn k (.inl hk)),Ho h.plan hc.size (λj _=>e j),(e 14).trans h.ids,Hu h.row hc (λz hz=>hn _ (.inr (.inl ⟨z,hz,rfl⟩))),λz hz=>⟨(h.uI z hz).1,ajc (h.uI z hz).2.1 hc.size,(h.uI z hz).2.2⟩,h.cap,h.map.bZ hc (λb hb=>hn b (.inr (.inr hb))),λb hb=>⟨(h.xW b hb).1,ajc (h.xW b hb).2.1 hc.size,(h.xW b hb).2.2⟩,h.TB,h.iW,h.small⟩
theorem TA.below (H:jZ Has)(S:dY SH)(h:TA Has SH w B x FV a c mb P m size st)(hb:Below w.heap.size w w'):TA Has SH w' B x FV a c mb P m size st:=h.bZ H S (A:=λ_=>False) (aH.aA hb) (λ_ _ z=>z)
theorem TA.did (h:TA Has SH w B x FV a c mb P m size st)(hl:st.s.last<=s'.last)(hd:VL Has SH 10 w w' B x FV m size es' s'):∃FV',TA Has SH w' B x FV' a c mb P m size ⟨es',s',st.ids⟩/\aH FV w w'/\∀k,FV' k->FV k\/w.heap.size<=k:=by
 obtain⟨⟨FV',k1,hc,ho⟩,hs⟩:=hd;refine⟨FV',⟨k1,Ho h.plan hc.size (λj hj=>hs j (.inl hj)),(hs 14 (.inr (by omega))).trans h.ids,Hu h.row hc (λz hz=>(h.uI z hz).2.2),λz hz=>⟨(h.uI z hz).1,ajc (h.uI z hz).2.1 hc.size,λy=>?_⟩,h.cap,h.map.bZ hc (λb hb=>(h.xW b hb).2.2.1),λb hb=>⟨(h.xW b hb).1,ajc (h.xW b hb).2.1 hc.size,λy=>?_,(h.xW b hb).2.2.2⟩,h.TB,Int.le_trans h.iW hl,h.small⟩,hc,ho⟩
 ·rcases ho _ y with u|u
  ·exact(h.uI z hz).2.2 u
  ·have:=(h.uI z hz).2.1;omega
 ·rcases ho _ y with u|u
  ·exact(h.xW b hb).2.2.1 u
  ·have:=(h.xW b hb).2.1;omega
theorem TA.put (H:jZ Has)(S:dY SH)(h:TA Has SH w B x FV a c mb P m size st){mb':Option Nat}{qo:List Kn}(hm:uH w mb' (jC P qo))(hb:∀b,mb'=some b->B<=b/\b<w.heap.size/\¬FV b/\∀z,a=some z->z.block≠b)(hL:sH (jC P qo))(hf:(qo.length:Int)<=st.s.last):TA Has SH (w.setCell ⟨x,14,none⟩ (.map mb')) B x FV a c mb' P m size ⟨st.es,st.s,qo⟩:=by
 obtain⟨hx,_,hl,_⟩:=h.pV.blk;have cs:aH (λk=>k=x) w (w.setCell ⟨x,14,none⟩ (.map mb')):=(aH.refl _ _).setCell (A:=λk=>k=x) (p:=⟨x,14,none⟩) (.inl rfl) _;exact⟨h.pV.beside H S (.inr (by omega)) _,Ho h.plan cs.size (λj hj=>aji _ _ _ _ (by simp<;>omega)),ajL _ _ _ h.ids,Hu h.row cs (λz hz y=>(h.uI z hz).2.2 (y▸hx)),λz hz=>⟨(h.uI z hz).1,ajc (h.uI z hz).2.1 cs.size,(h.uI z hz).2.2⟩,h.cap,hm.bZ cs (λb hb' y=>(hb b hb').2.2.1 (y▸hx)),λb hb'=>⟨(hb b hb').1,ajc (hb b hb').2.1 cs.size,(hb b hb').2.2⟩,hL,hf,h.small⟩
end
def TD (Has:World->Nat->Nat->(Nat->Prop)->Int->List ay->Prop)(SH:World->Nat->Nat->(Nat->Prop)->aJ->Prop)(w:World)(B x:Nat)(F:Nat->Prop)(P:Pn.cu)(m size:Int)(st:dW):Prop:=∃FV a c mb,TA Has SH w B x FV a c mb P m size st/\∀k,F k↔smF FV a mb k
def fF (Has:World->Nat->Nat->(Nat->Prop)->Int->List ay->Prop)(SH:World->Nat->Nat->(Nat->Prop)->aJ->Prop)(F0 Cs:Nat->Prop)(w wr:World)(B x:Nat)(a:Option Addr)(c:Nat)(mb:Option Nat)(P:Pn.cu)(m size:Int)(st:dW):Prop :=
 ∃FV,TA Has SH wr B x FV a c mb P m size st/\aH F0 w wr/\(∀k,smF FV a mb k->F0 k\/w.heap.size<=k)/\∀k,Cs k->k<wr.heap.size/\¬smF FV a mb k
section
variable {Has:World->Nat->Nat->(Nat->Prop)->Int->List ay->Prop}{SH:World->Nat->Nat->(Nat->Prop)->aJ->Prop}{F F0 Cs jR:Nat->Prop}{w wr w':World}{B x:Nat}{a:Option Addr}{c:Nat}{mb:Option Nat}{P:Pn.cu}{m size:Int}{st:dW}{es':List ay}{s':aJ}
theorem TD.begin (h:TD Has SH w B x F P m size st):∃a c mb,fF Has SH F (λ_=>False) w w B x a c mb P m size st/\∀Cs wr mb' st',fF Has SH F Cs w wr B x a c mb' P m size st'->uV (TD Has SH) w wr B x F P m size st':=by
 obtain⟨FV,a,c,mb,h1,h2⟩:=h;refine⟨a,c,mb,⟨FV,h1,aH.refl _ _,λk z=>.inl ((h2 k).2 z),λ_ z=>z.elim⟩,λCs wr mb' st' hr=>?_⟩;obtain⟨FV',r1,r2,r3,_⟩:=hr;exact⟨_,⟨FV',a,c,mb',r1,λk=>amq⟩,r2,r3⟩
theorem fF.room (h:fF Has SH F0 Cs w wr B x a c mb P m size st):w.heap.size<=wr.heap.size:=by
 obtain⟨_,_,h2,_⟩:=h;exact h2.size
theorem fF.plan (h:fF Has SH F0 Cs w wr B x a c mb P m size st):PBx wr x P a c:=by
 obtain⟨_,h1,_⟩:=h;exact h1.plan
theorem fF.lt (h:fF Has SH F0 Cs w wr B x a c mb P m size st):x<wr.heap.size:=h.plan.lt
theorem fF.ids (h:fF Has SH F0 Cs w wr B x a c mb P m size st):wr.cell? ⟨x,14,none⟩=some (.map mb)/\wr.frozen? ⟨x,14,none⟩=false:=by
 obtain⟨_,h1,_⟩:=h;exact⟨h1.ids,h1.pV.blk.2.2.2 14⟩
theorem fF.lF (H:jZ Has)(S:dY SH)(h:fF Has SH F0 Cs w wr B x a c mb P m size st)(hb:Below wr.heap.size wr w')(hn:∀k,jR k->Cs k\/wr.heap.size<=k/\k<w'.heap.size):fF Has SH F0 jR w w' B x a c mb P m size st:=by
 obtain⟨FV,h1,h2,h3,h4⟩:=h;refine⟨FV,h1.below H S hb,h2.trans (aH.aA hb),h3,λk hk=>?_⟩;rcases hn k hk with y|y
 ·exact⟨ajc (h4 k y).1 hb.size,(h4 k y).2⟩
 ·exact⟨y.2,λz=>by have:=(h1.own H S k z).2;omega⟩
theorem fF.below (H:jZ Has)(S:dY SH)(h:fF Has SH F0 Cs w wr B x a c mb P m size st)(hb:Below wr.heap.size wr w'):fF Has SH F0 Cs w w' B x a c mb P m size st:=h.lF H S hb (λ_ z=>.inl z)
theorem fF.stay (h:fF Has SH F0 Cs w wr B x a c mb P m size st)(hb:Below wr.heap.size wr w'):aO Cs wr w':=by
 obtain⟨FV,_,_,_,h4⟩:=h;exact⟨hb.size,λk hk=>hb.block k (h4 k hk).1⟩
theorem fF.did (h:fF Has SH F0 Cs w wr B x a c mb P m size st)(hl:st.s.last<=s'.last){fn:FuncId}{args:Array Value}{Q:Ending->World->Prop}
 (hc:∀FV,pG Has SH 10 wr B x FV m size st.es st.s->Calls prog fn args wr λe w'=>Q e w'/\VL Has SH 10 wr w' B x FV m size es' s') :
 Calls prog fn args wr λe w'=>Q e w'/\fF Has SH F0 Cs w w' B x a c mb P m size ⟨es',s',st.ids⟩/\aO Cs wr w':=by
 have hr:=h.room;obtain⟨FV,h1,h2,h3,h4⟩:=h;refine(hc FV h1.pV).mono ?_;rintro e w' ⟨hq,hu⟩;obtain⟨FV',a1,a2,a3⟩:=h1.did hl hu;refine⟨hq,⟨FV',a1,iZ h2 a2 (λi hi z=>?_),λk hk=>?_,λk hk=>⟨ajc (h4 k hk).1 a2.size,λz=>?_⟩⟩,a2.size,λk hk=>a2.block k (h4 k hk).1 (λz=>(h4 k hk).2 (.inl z))⟩
 ·rcases h3 i (.inl z) with y|y
  ·exact y
  ·omega
 ·rcases hk with z|z
  ·rcases a3 k z with y|y
   ·exact h3 k (.inl y)
   ·exact .inr (aje hr y)
  ·exact h3 k (.inr z)
 ·rcases z with z|z
  ·rcases a3 k z with y|y
   ·exact(h4 k hk).2 (.inl y)
   ·have:=(h4 k hk).1;omega
  ·exact(h4 k hk).2 (.inr z)
theorem fF.look (h:fF Has SH F0 Cs w wr B x a c mb P m size st):∃FV,pG Has SH 10 wr B x FV m size st.es st.s:=by
 obtain⟨FV,h1,_⟩:=h;exact⟨FV,h1.pV⟩
end
def kn (l:List Kn)(k:Nat):Kn:=l[k]?.getD ⟨ByteArray.empty,0,0⟩
theorem ahe {l:List Kn}{k:Nat}(h:k<l.length):kn l k=l[k]:=by unfold kn;rw[ajl h];rfl
def mg:List Kn->List Value
 | []=>[]
 | r::l=>.string r.i::.int .i64 r.a::.int .i64 r.q::mg l
theorem Gp:∀l:List Kn,(mg l).length=l.length*3
 | []=>rfl
 | r::l=>by simp[mg,Gp l];omega
theorem Gq:∀a b:List Kn,mg (a++b)=mg a++mg b
 | [],_=>rfl
 | r::a,b=>by simp[mg,Gq a b]
theorem JF:∀(l:List Kn),∀v∈mg l,v.oneCell'=true
 | [],v,h=>by simp[mg] at h
 | r::l,v,h=>by
  simp only[mg,ajT] at h;rcases h with h|h|h|h
  ·subst h;rfl
  ·subst h;rfl
  ·subst h;rfl
  ·exact JF l v h
theorem Yu:∀(l:List Kn) (k:Nat),k<l.length->(mg l)[k*3]?=some (.string (kn l k).i)/\(mg l)[k*3+1]?=some (.int .i64 (kn l k).a)/\(mg l)[k*3+2]?=some (.int .i64 (kn l k).q)
 | [],k,h=>absurd h (ajG k)
 | r::l,0,_=>⟨rfl,rfl,rfl⟩
 | r::l,k+1,h=>by
  rw[show(k+1)*3=k*3+1+1+1 by omega];have:=Yu l k (by simpa using h);have e:kn (r::l) (k+1)=kn l k:=rfl;rw[e];refine⟨?_,?_,?_⟩
  ·simp only[mg,akb];exact this.1
  ·rw[show k*3+1+1+1+1=(k*3+1)+1+1+1 by omega];simp only[mg,akb];exact this.2.1
  ·rw[show k*3+1+1+1+2=(k*3+2)+1+1+1 by omega];simp only[mg,akb];exact this.2.2
theorem ahV:(prog.info? 135).map (λi=>(i.zero,i.size,i.bytes))=some (some (.agg #[.string ByteArray.empty,.int .i64 0,.int .i64 0]),3,32):=by kernel_rfl
def AO (w:World)(B:Nat)(v:Value)(l:List Kn):Prop:=w.ownsRow B 135 3 v l.length (mg l)
theorem AO.empty (w:World)(B:Nat):AO w B (.slice none 0 0) []:=akW w B _ 3
theorem AO.bZ {A:Nat->Prop}{w w':World}{B:Nat}{v:Value}{l:List Kn}(h:AO w B v l)(hb:aH A w w')(hn:∀g,v.ownBlock=some g->¬A g):AO w' B v l:=by
 refine⟨h.1,?_⟩;rcases h.2 with q|⟨g,cap,cur,h1,h2,h3,r⟩
 ·exact .inl q
 ·refine .inr ⟨g,cap,cur,h1,h2,?_,r⟩;rw[hb.block g (h.lt g (by rw[h1];rfl)).2 (hn g (by rw[h1];rfl))];exact h3
def SlK (w:World)(a:Option Addr)(l:List Kn):Prop:=∀k,k<l.length->∃b,a=some ⟨b,0,none⟩/\b<w.heap.size/\w.cell? ⟨b,k*3,none⟩=some (.string (kn l k).i)/\w.cell? ⟨b,k*3+1,none⟩=some (.int .i64 (kn l k).a)/\w.cell? ⟨b,k*3+2,none⟩=some (.int .i64 (kn l k).q)
theorem AO.shape {w:World}{B:Nat}{v:Value}{l:List Kn}(h:AO w B v l):∃a cap,v=.slice a l.length cap/\l.length<=cap/\cap<=maxLen/\SlK w a l:=by
 rcases h.2 with ⟨h1,h2⟩|⟨g,cap,cur,h1,h2,h3,h4,h5,h6,h7⟩
 ·exact⟨none,0,by rw[h1,h2],by omega,by simp[maxLen],λk hk=>by omega⟩
 ·refine⟨_,cap,h1,h4,h5,λk hk=>⟨g,rfl,(h.lt g (by rw[h1];rfl)).2,?_⟩⟩;have hat:=Yu l k hk;rw[h1] at h;refine⟨?_,?_,?_⟩
  ·rw[ajH h (k*3) (by omega)];exact hat.1
  ·rw[ajH h (k*3+1) (by omega)];exact hat.2.1
  ·rw[ajH h (k*3+2) (by omega)];exact hat.2.2
theorem ahf (w:World)(r:Kn):∀j u,(mg [r])[j]?=some u->(w.alloc (.cells #[.string r.i,.int .i64 r.a,.int .i64 r.q] 135)).cell? ((⟨w.heap.size,0,none⟩:Addr).add j)=some u:=by
 intro j u hj;rw[akp,ajv,ajY _ w.heap.size j _ _ _ (ajF w _)];simpa[mg] using hj
theorem aad (w:World)(B:Nat)(ty:TypeId)(v:Value)(l fs:List Kn)(ha:AO w B v l)(a:Addr)(c:Nat)(hnews:∀j u,(mg fs)[j]?=some u->w.cell? (a.add j)=some u)(hl:l.length+fs.length<=1000000)(hB:B<=w.heap.size) :
 ∃v' w',(Builtin.append_ #[44,44] ty #[v,.slice (some a) fs.length c]).run prog w=.ok v' w'/\AO w' B v' (l++fs)/\aH (λk=>v.ownBlock=some k) w w'/\∀g,v'.ownBlock=some g->v.ownBlock=some g\/w.heap.size<=g:=by
 obtain⟨i0,hi,hz0,hz1,hz2⟩:=akJ ahV;have hlen:(mg fs).length=fs.length*3:=Gp fs;obtain⟨v',w',hr,h2,h3,h4⟩:=amN (P:=prog) w B 44 ty 135 i0 _ 3 32 underlying44 hi hz0 hz1 hz2 rfl (by omega) v l.length (mg l) ha a fs.length c (mg fs) hlen hnews (JF fs) (by unfold maxLen;omega) (by omega) hB;refine⟨v',w',hr,?_,aH.bH h3,λk hk=>?_⟩
 ·unfold AO;rw[ajh,Gq];exact h2
 ·rcases ha.2 with ⟨rfl,hn⟩|⟨g,cap,cur,rfl,hbg,hg,hnc,hcm,hcs,htake⟩
  ·by_cases hm:fs.length=0
   ·rw[h4.2 ⟨rfl,hm⟩] at hk;cases hk
   ·right;have hr2:=ane (P:=prog) w 44 ty 135 i0 _ underlying44 hi hz0 a fs.length c (mg fs) (by rw[hz1];exact hlen) hnews (by omega) (by omega) (by rw[hz2];omega);rw[hr] at hr2
    cases hr2
    simp only[Value.ownBlock,ajX] at hk;omega
  ·by_cases hroom:l.length+fs.length<=cap
   ·left;obtain⟨w2,hr2,_,_⟩:=amX (P:=prog) w B 44 ty 135 i0 3 underlying44 hi hz1 g l.length cap (mg l) ha a fs.length c (mg fs) hlen hnews (JF fs) hroom;rw[hr] at hr2
    cases hr2
    exact hk
   ·right;have hr2:=amY (P:=prog) w 44 ty 135 i0 _ underlying44 hi hz0 ⟨g,0,none⟩ l.length cap (mg l) (by rw[hz1];exact ha.1) (akU ha (g:=g) rfl) a fs.length c (mg fs) (by rw[hz1];exact hlen) hnews (by omega) (by omega) (by rw[hz2];exact alZ (by omega) (by omega));rw[hr] at hr2
    cases hr2
    simp only[Value.ownBlock,ajX] at hk;omega
end Go.Proofs.YtidekgipblnpkaaGreatDoor.Dk
namespace Go.Proofs.YtidekgipblnpkaaGreatDoor
open Go.RowKit Go.Proofs.Tryz
theorem Wx {s:ByteArray}(h:lQ s s.size=true):Pn.eP s=kR (s.size:Int) 1 16:=by
 unfold lQ at h;rw[ajs (by simp)] at h;unfold Pn.eP kR;rw[h,akn];congr 1
 ·simp;omega
 ·simp;omega
theorem Wy (s:ByteArray)(w:World)(hs:s.size<=140737488355328) :
 Calls prog 27 #[.string s] w λe w'=>e=.returned (.bool (Pn.eP s))/\Below w.heap.size w w':=by
 go_enter func27,ntmps27;go_wp2_with fail;go_loopw [3] (λiv wr=>∃(k:Nat),iv=.int .i64 k/\k<=s.size/\Hid (lQ s k=true)/\Hid (Below w.heap.size w wr)) (λiv _=>s.size-(intOf iv).toNat)
 case atStart=>exact⟨0,rfl,ajm _,aj rfl,aj (ajb _ _)⟩
 case round =>
  obtain⟨k,rfl,hk,HN,HB⟩:=hrel;by_cases hlt:k<s.size
  ·obtain⟨n,hn⟩:∃n,s[k].toNat=n:=⟨_,rfl⟩;have hnb:Hid (Pn.Ae s[k]=((decide (97<=n)&&decide (n<=122))||((decide (48<=n)&&decide (n<=57))||decide (n=45)))):=aj (by unfold Pn.Ae;rw[hn]);by_cases h1:97<=n<;>by_cases h2:n<=122<;>by_cases h3:48<=n<;>by_cases h4:n<=57<;>by_cases h5:n=45
   all_goals first
    | (exfalso;omega)
    | (
     first|have g1:decide ((97:Int)<=(n:Int))=true:=ajg (by omega)|have g1:decide ((97:Int)<=(n:Int))=false:=ajd (by omega)
     first|have g2:decide ((n:Int)<=122)=true:=ajg (by omega)|have g2:decide ((n:Int)<=122)=false:=ajd (by omega)
     first|have g3:decide ((48:Int)<=(n:Int))=true:=ajg (by omega)|have g3:decide ((48:Int)<=(n:Int))=false:=ajd (by omega)
     first|have g4:decide ((n:Int)<=57)=true:=ajg (by omega)|have g4:decide ((n:Int)<=57)=false:=ajd (by omega)
     first|have g5:((n:Int)==45)=true:=by(rw[akT];omega)|have g5:((n:Int)==45)=false:=by(rw[ajr];omega)
     first
      | (
       have HS:Hid (lQ s (k+1)=true):=aj (by rw[Af hlt,ah HN,ah hnb];simp;omega)
       clear h1 h2 h3 h4 h5 hnb HN
       go_wp2_with fail
       refine⟨⟨k+1,by go_num,by omega,HS,HB⟩,?_⟩
       simp[intOf];omega)
      | (
       have HF:Hid (Pn.eP s=false):=aj (LZ hlt (by rw[ah hnb];simp;omega))
       clear h1 h2 h3 h4 h5 hnb HN
       go_wp2_with fail
       go_ret
       rw[ah HF]
       exact⟨rfl,ah HB⟩))
  ·obtain rfl:k=s.size:=by omega
   have HI:=aj (Wx (ah HN));go_wp2_with fail;refine(lM _ _ _ _).mono ?_;rintro e w1 ⟨rfl,rfl⟩;go_wp2_with fail;go_ret;rw[ah HI];exact⟨rfl,ah HB⟩
theorem wH (n:ByteArray)(a:Option Addr)(l c:Nat)(x0 x1 x2 x3 x4 x5 x6 x7:Int)(w:World) :
 Calls prog 30 #[rU n a l c x0 x1 x2 x3 x4 x5 x6 x7] w λe w'=>∃g1 g2,e=.returned (.tuple #[.slice (some ⟨g1,0,none⟩) 8 8,.slice (some ⟨g2,0,none⟩) 8 8])/\Dk.pY w' (some ⟨g1,0,none⟩) [x0,x1,x2,x3,x4,x5,x6,x7]/\Dk.pY w' (some ⟨g2,0,none⟩) Pn.dN/\Below w.heap.size w w':=by
 obtain⟨W1,hW1⟩:∃W,W=w.alloc (.cells #[.string n,.slice a l c,.int .i64 x0,.int .i64 x1,.int .i64 x2,.int .i64 x3,.int .i64 x4,.int .i64 x5,.int .i64 x6,.int .i64 x7] 24):=⟨_,rfl⟩;have s1:W1.heap.size=w.heap.size+1:=by rw[hW1];simp
 have r1:=L6 W1 x0 x1 x2 x3 x4 x5 x6 x7 3;obtain⟨W2,hW2⟩:∃W,W=W1.alloc (.cells #[.int .i64 x0,.int .i64 x1,.int .i64 x2,.int .i64 x3,.int .i64 x4,.int .i64 x5,.int .i64 x6,.int .i64 x7] 3):=⟨_,rfl⟩;rw[<-hW2,s1] at r1;have s2:W2.heap.size=w.heap.size+1+1:=by rw[hW2];simp[s1]
 have r2:=L6 W2 200 65536 100000 200 256 1 2 100000 3;have b2:Below W2.heap.size W2 (W2.alloc (.cells #[.int .i64 200,.int .i64 65536,.int .i64 100000,.int .i64 200,.int .i64 256,.int .i64 1,.int .i64 2,.int .i64 100000] 3)):=(ajb _ _).alloc (Xc _) _;have r3:=kT r1 b2;have b1:Below w.heap.size w W2:=by
  rw[hW2,hW1];exact((ajb _ _).alloc (Xc _) _).alloc (by simp) _
 have HE:=aj (And.intro r3 (And.intro r2 (b1.trans (b2.mono (by omega)))));rw[s2,hW2,hW1] at HE;clear hW1 hW2 s1 s2 r1 r2 r3 b1 b2 W1 W2;go_enter func30,ntmps30;go_wp2_with fail;go_ret2;exact⟨w.heap.size+1,w.heap.size+1+1,rfl,ah HE⟩
theorem WA (a b:Option Addr)(ca cb:Nat)(l:List ByteArray)(w:World)(ha:nZ w a l)(hb:nZ w b l)(dK:l.length<=200000) :
 Calls prog 50 #[.slice a l.length ca,.slice b l.length cb] w λe w'=>e=.returned (.bool true)/\∃q,w'=w.drewN q:=by
 have Ha:=aj ha;have Hb:=aj hb;clear ha hb;go_enter func50,ntmps50;go_wp2;go_loopw [13] (λkv wr=>∃(k:Nat),kv=.int .i64 k/\k<=l.length/\∃n,wr=w.drewN n) (λkv _=>l.length-(intOf kv).toNat)
 case atStart=>exact⟨0,rfl,ajm _,0,rfl⟩
 case round =>
  obtain⟨k,rfl,hk,n,rfl⟩:=hrel;by_cases hlt:k<l.length
  ·obtain⟨g,o,rfl,_,c1⟩:=ah Ha k hlt;obtain⟨h,o2,rfl,_,c2⟩:=ah Hb k hlt;go_wp2;go_quiet (fail)
   go_wp2;exact⟨⟨k+1,by go_num,by omega,_,rfl⟩,by simp[intOf];omega⟩
  ·go_wp2;go_ret;exact⟨rfl,n,rfl⟩
def aae (w wr:World)(b1 b2:Nat)(n:ByteArray)(a1 a2:Option Addr)(l:List ByteArray)(c1 c2:Nat)(x0 x1 x2 x3 x4 x5 x6 x7:Int):Prop:=PB wr b1 n a1 l.length c1 x0 x1 x2 x3 x4 x5 x6 x7/\PB wr b2 n a2 l.length c2 x0 x1 x2 x3 x4 x5 x6 x7/\nZ wr a1 l/\nZ wr a2 l/\Below w.heap.size w wr
theorem aae.next {w wr w':World}{b1 b2:Nat}{n:ByteArray}{a1 a2:Option Addr}{l:List ByteArray}{c1 c2:Nat}{x0 x1 x2 x3 x4 x5 x6 x7:Int}(h:aae w wr b1 b2 n a1 a2 l c1 c2 x0 x1 x2 x3 x4 x5 x6 x7)(hb:Below wr.heap.size wr w'):aae w w' b1 b2 n a1 a2 l c1 c2 x0 x1 x2 x3 x4 x5 x6 x7:=⟨h.1.next hb,h.2.1.next hb,h.2.2.1.next hb,h.2.2.2.1.next hb,ak h.2.2.2.2 hb⟩
abbrev ahW (b1 b2:Nat)(n:ByteArray)(a1 a2:Option Addr)(l c1 c2:Nat)(w:World):Prop:=w.cell? ⟨b1,0,none⟩=some (.string n)/\w.cell? ⟨b1,1,none⟩=some (.slice a1 l c1)/\w.cell? ⟨b2,0,none⟩=some (.string n)/\w.cell? ⟨b2,1,none⟩=some (.slice a2 l c2)
theorem aae.four {w wr:World}{b1 b2:Nat}{n:ByteArray}{a1 a2:Option Addr}{l:List ByteArray}{c1 c2:Nat}{x0 x1 x2 x3 x4 x5 x6 x7:Int}(h:aae w wr b1 b2 n a1 a2 l c1 c2 x0 x1 x2 x3 x4 x5 x6 x7):ahW b1 b2 n a1 a2 l.length c1 c2 wr:=⟨h.1.c0,h.1.c1,h.2.1.c0,h.2.1.c1⟩
theorem aaf (n:ByteArray)(a1 a2:Option Addr)(l:List ByteArray)(c1 c2:Nat)(x0 x1 x2 x3 x4 x5 x6 x7:Int)(w:World)(h1:nZ w a1 l)(h2:nZ w a2 l)(hl:l.length<=200000) :
 Calls prog 15 #[rU n a1 l.length c1 x0 x1 x2 x3 x4 x5 x6 x7,rU n a2 l.length c2 x0 x1 x2 x3 x4 x5 x6 x7] w λe w'=>e=.returned (.bool true)/\Below w.heap.size w w':=by
 obtain⟨W1,hW1⟩:∃W,W=w.alloc (.cells #[.string n,.slice a1 l.length c1,.int .i64 x0,.int .i64 x1,.int .i64 x2,.int .i64 x3,.int .i64 x4,.int .i64 x5,.int .i64 x6,.int .i64 x7] 24):=⟨_,rfl⟩;have k1:Below w.heap.size w W1:=by rw[hW1];exact(ajb _ _).alloc (Xc _) _
 have s1:W1.heap.size=w.heap.size+1:=by rw[hW1];simp
 have p1:PB W1 w.heap.size n a1 l.length c1 x0 x1 x2 x3 x4 x5 x6 x7:=by rw[hW1];exact PB.new w n a1 l.length c1 x0 x1 x2 x3 x4 x5 x6 x7 _
 obtain⟨W2,hW2⟩:∃W,W=W1.alloc (.cells #[.string n,.slice a2 l.length c2,.int .i64 x0,.int .i64 x1,.int .i64 x2,.int .i64 x3,.int .i64 x4,.int .i64 x5,.int .i64 x6,.int .i64 x7] 24):=⟨_,rfl⟩;have k2:Below W1.heap.size W1 W2:=by rw[hW2];exact(ajb _ _).alloc (Xc _) _
 have p2:PB W2 W1.heap.size n a2 l.length c2 x0 x1 x2 x3 x4 x5 x6 x7:=by rw[hW2];exact PB.new W1 n a2 l.length c2 x0 x1 x2 x3 x4 x5 x6 x7 _
 have Q0:Hid (aae w W2 w.heap.size (w.heap.size+1) n a1 a2 l c1 c2 x0 x1 x2 x3 x4 x5 x6 x7):=aj (by
  rw[s1] at p2;exact⟨p1.next k2,p2,(h1.next k1).next k2,(h2.next k1).next k2,ak k1 k2⟩)
 obtain⟨b1,hb1⟩:∃b,b=w.heap.size:=⟨_,rfl⟩;obtain⟨b2,hb2⟩:∃b,b=w.heap.size+1:=⟨_,rfl⟩;rw[<-hb2,<-hb1] at Q0;rw[hW1] at hW2;clear hW1 k1 k2 s1 p1 p2 h1 h2;have PV1:=aj (wH n a1 l.length c1 x0 x1 x2 x3 x4 x5 x6 x7 W2);go_enter func15,ntmps15;go_wp2_with fail;rw[<-hW2,<-hb2,<-hb1];clear hW2 hb1 hb2 W1;refine(ah PV1).mono ?_;rintro e w1 ⟨g1,g2,rfl,v1,_,k1⟩;have Q1:=aj ((ah Q0).next k1);have V1:=aj v1;have PV2:=aj (wH n a2 l.length c2 x0 x1 x2 x3 x4 x5 x6 x7 w1);obtain⟨_,y0,y1,y2,y3,y4,y5,y6,y7,y8,y9⟩:=(ah Q1).2.1;clear PV1 Q0 v1 k1;go_wp2_with fail;refine(ah PV2).mono ?_
 rintro e w2 ⟨g3,g4,rfl,v3,_,k2⟩;have Q2:=aj ((ah Q1).next k2);have V3:=aj (And.intro (kT (ah V1) k2) v3);have B2:=aj (ah Q2).2.2.2.2;obtain⟨f0,f1,f2,f3⟩:=(ah Q2).four;have PE:=aj (WA a1 a2 c1 c2 l w2 (ah Q2).2.2.1 (ah Q2).2.2.2.1 hl);clear PV2 Q1 V1 v3 k2 y0 y1 y2 y3 y4 y5 y6 y7 y8 y9;go_wp2_with fail;refine(ah PE).mono ?_;rintro e w4 ⟨rfl,q4,rfl⟩;have PN:=aj (Dk.Vb (some ⟨g1,0,none⟩) (some ⟨g3,0,none⟩) 8 8 [x0,x1,x2,x3,x4,x5,x6,x7] (w2.drewN q4) (kT (ah V3).1 (below_drewN (ajb _ _) q4)) (kT (ah V3).2 (below_drewN (ajb _ _) q4)) (by simp))
 clear PE V3 Q2 f0 f1 f2 f3;go_wp2_with fail;refine(ah PN).mono ?_;rintro e w5 ⟨rfl,q5,rfl⟩;clear PN;go_wp2_with fail;go_ret;exact⟨rfl,below_drewN (ah B2) _⟩
theorem aag (n:ByteArray)(a:Option Addr)(l:List ByteArray)(c:Nat)(x0 x1 x2 x3 x4 x5 x6 x7:Int)(w:World)(hn:n.size<=140737488355328)(hsl:nZ w a l)(hz:∀k,k<l.length->(tk l k).size<=140737488355328)(hl:l.length<=140737488355328) :
 Calls prog 10 #[rU n a l.length c x0 x1 x2 x3 x4 x5 x6 x7] w λe w'=>e=.returned (.int .i64 (Pn.dG ⟨n,l,[x0,x1,x2,x3,x4,x5,x6,x7]⟩))/\Below w.heap.size w w':=by
 have b0:Below w.heap.size w (w.alloc (.cells #[.string n,.slice a l.length c,.int .i64 x0,.int .i64 x1,.int .i64 x2,.int .i64 x3,.int .i64 x4,.int .i64 x5,.int .i64 x6,.int .i64 x7] 24)):=(ajb _ _).alloc (Xc _) _;have HP:=aj (PB.new w n a l.length c x0 x1 x2 x3 x4 x5 x6 x7 24);have HB:=aj b0;have HS:=aj hsl;have HZ:=aj hz;clear b0 hsl hz;go_enter func10,ntmps10;go_wp2_with fail;refine(Wy n _ hn).mono ?_;rintro e w1 ⟨rfl,b1⟩;have P1:=aj ((ah HP).next b1);have B1:=aj (ak (ah HB) b1);clear HP HB b1
 cases hN:Pn.eP n with
 | false =>
  have HR:=aj (Pn.Jc (p:=⟨n,l,[x0,x1,x2,x3,x4,x5,x6,x7]⟩) hN);clear hN;go_wp2_with fail;go_ret;rw[ah HR];exact⟨rfl,ah B1⟩
 | true =>
  have HN:=aj hN;have d1:=(ah P1).c1;clear hN;by_cases h4:4<l.length
  ·have HR:=aj (Pn.VD (p:=⟨n,l,[x0,x1,x2,x3,x4,x5,x6,x7]⟩) (ah HN) h4);have g4:decide ((4:Int)<(l.length:Int))=true:=ajg (by omega);go_wp2_with fail;go_ret;rw[ah HR];exact⟨rfl,ah B1⟩
  ·have g4:decide ((4:Int)<(l.length:Int))=false:=ajd (by omega);by_cases h0:l.length=0
   ·have HR:=aj (Pn.VE (p:=⟨n,l,[x0,x1,x2,x3,x4,x5,x6,x7]⟩) (ah HN) h0);have g0:((l.length:Int)==0)=true:=by rw[akT];omega
    go_wp2_with fail;go_ret;rw[ah HR];exact⟨rfl,ah B1⟩
   ·have g0:((l.length:Int)==0)=false:=by rw[ajr];omega
    have Q1:Hid (Pst w w1 w.heap.size n a l c x0 x1 x2 x3 x4 x5 x6 x7):=aj ⟨ah P1,(ah HS).from (ah B1) (Xc _),ah B1⟩;obtain⟨b,hb⟩:∃b,b=w.heap.size:=⟨_,rfl⟩;rw[<-hb] at Q1;clear P1 B1 HS;go_wp2_with fail;rw[<-hb];clear d1 hb;go_loopw [4] (λiv wr=>∃(i:Nat),iv=.int .i64 i/\i<=l.length/\Hid (Pn.gJ l=Pn.gJ (l.drop i)/\∀k,k<i->aG true (tk l k)=0)/\Hid (Pst w wr b n a l c x0 x1 x2 x3 x4 x5 x6 x7)) (λiv _=>l.length-(intOf iv).toNat)
    case atStart=>exact⟨0,rfl,ajm _,aj ⟨rfl,λk hk=>by omega⟩,Q1⟩
    case round =>
     clear Q1;obtain⟨i,rfl,hi,HF,Q2⟩:=hrel;by_cases hlt:i<l.length
     ·obtain⟨ba,o,rfl,_,e1⟩:=(ah Q2).2.1 i hlt;have d1:=(ah Q2).1.c1;have hzi:=ah HZ i hlt;obtain⟨E,hE⟩:∃E,aG true (tk l i)=E:=⟨_,rfl⟩;have PF:=aj (nN (tk l i) wr hzi);rw[hE] at PF;have HE:=aj hE;clear hE;go_wp2_with fail;refine(ah PF).mono ?_;rintro e w2 ⟨rfl,b2⟩;have Q3:=aj ((ah Q2).next b2);clear PF b2 Q2 d1 e1;by_cases hE0:E=0
      ·have HF2:Hid (Pn.gJ l=Pn.gJ (l.drop (i+1))/\∀k,k<i+1->aG true (tk l k)=0):=aj ⟨by rw[(ah HF).1,Pn.tX hlt,if_pos (by rw[ah HE];exact hE0)],λk hk=>by
        by_cases e:k=i
        ·rw[e,ah HE];exact hE0
        ·exact(ah HF).2 k (by omega)⟩
       subst hE0;clear HF HE;go_wp2_with fail;refine⟨⟨i+1,by go_num,by omega,HF2,Q3⟩,?_⟩;simp[intOf];omega
      ·have HR:Hid (Pn.dG ⟨n,l,[x0,x1,x2,x3,x4,x5,x6,x7]⟩=E):=aj (by
        have e1:Pn.gJ l=E:=by rw[(ah HF).1,Pn.tX hlt,if_neg (by rw[ah HE];exact hE0),ah HE]
        rw[Pn.VF (ah HN) h4 h0 (by rw[show Pn.gJ _=E from e1];exact hE0)];exact e1)
       have hE':(E !=0)=true:=by simpa using hE0
       clear HF HE;go_wp2_with fail;go_ret;rw[ah HR];exact⟨rfl,(ah Q3).2.2⟩
     ·obtain rfl:i=l.length:=by omega
      have HF0:Hid (Pn.gJ l=0/\∀k,k<l.length->aG true (tk l k)=0):=aj ⟨by rw[(ah HF).1,alb];rfl,(ah HF).2⟩;clear HF hlt;go_wp2_with fail;go_loopw [6] (λiv wr=>∃(i:Nat),iv=.int .i64 i/\i<=l.length/\Hid (Pn.oG l=Pn.oG (l.drop i))/\Hid (Pst w wr b n a l c x0 x1 x2 x3 x4 x5 x6 x7)) (λiv _=>l.length-(intOf iv).toNat)
      case atStart=>exact⟨0,rfl,ajm _,aj rfl,Q2⟩
      case round =>
       clear Q2;obtain⟨i,rfl,hi,HL,Q2⟩:=hrel;by_cases hlt:i<l.length
       ·have hw1:IntKind.i64.wrap ((i:Int)+1)=((i+1:Nat):Int):=by rw[ajq];omega
        go_wp2_with fail;go_loopw [7] (λkv wr=>∃(k:Nat),kv=.int .i64 k/\i<k/\k<=l.length/\Hid ((l.drop (i+1)).any (λg=>bD (Pl.aI (tk l i)) (Pl.aI g))=(l.drop k).any (λg=>bD (Pl.aI (tk l i)) (Pl.aI g)))/\Hid (Pst w wr b n a l c x0 x1 x2 x3 x4 x5 x6 x7)) (λkv _=>l.length-(intOf kv).toNat)
        case atStart=>exact⟨i+1,by first|rfl|go_num,by omega,by omega,aj rfl,Q2⟩
        case round =>
         clear Q2;obtain⟨k,rfl,hik,hk,HA,Q2⟩:=hrel;by_cases hkl:k<l.length
         ·obtain⟨ba,o,rfl,_,_⟩:=(ah Q2).2.1 i hlt;have Q3:=aj ((ah Q2).next (ajb _ _).drew);have k3:=(ah Q3).two hlt hkl;have hf:=(ah HF0).2 i hlt;have hg:=(ah HF0).2 k hkl;obtain⟨M,hM⟩:∃M,bD (Pl.aI (tk l i)) (Pl.aI (tk l k))=M:=⟨_,rfl⟩;have PO:=aj (Ov (tk l i) (tk l k) wr.drew (ah HZ i hlt) (ah HZ k hkl) (by have:=iW hf;rw[Pl.aU] at this;omega) (by have:=iW hg;rw[Pl.aU] at this;omega));rw[hM] at PO;have HMM:=aj hM;have HT:=aj (λ(w':World) (h:Below wr.drew.heap.size wr.drew w')=>((ah Q3).next h).two hlt hkl);clear Q2 hf hg hM
          go_wp2_with fail;go_region_held3 (ahN b (some ⟨ba,o,none⟩) l.length c ba o i k (tk l i) (tk l k)) (first|assumption|go_keep)
           (first
            | (go_at_call 29;refine(ah PO).mono ?_;rintro e w4 ⟨rfl,b4⟩;have k4:=ah HT w4 b4))
          have Q4:=aj ((ah Q3).next b4);clear k3 k4 b4 PO HT Q3
          cases M with
          | true =>
           have HR:Hid (Pn.dG ⟨n,l,[x0,x1,x2,x3,x4,x5,x6,x7]⟩=10):=aj (Pn.VG (ah HN) h4 h0 (ah HF0).1 (by
            show Pn.oG l=true;rw[ah HL,Pn.L9 hlt,ah HA,Pn.Ja hkl,ah HMM];rfl))
           clear HA HMM HL;go_wp2_with fail;go_ret;rw[ah HR];exact⟨rfl,(ah Q4).2.2⟩
          | false =>
           have HA2:Hid ((l.drop (i+1)).any (λg=>bD (Pl.aI (tk l i)) (Pl.aI g))=(l.drop (k+1)).any (λg=>bD (Pl.aI (tk l i)) (Pl.aI g))):=aj (by rw[ah HA,Pn.Ja hkl,ah HMM];rfl);clear HA HMM;go_wp2_with fail;refine⟨⟨k+1,by go_num,by omega,by omega,HA2,Q4⟩,?_⟩;simp[intOf];omega
         ·obtain rfl:k=l.length:=by omega
          have HL2:Hid (Pn.oG l=Pn.oG (l.drop (i+1))):=aj (by
           rw[ah HL,Pn.L9 hlt,ah HA,alb];rfl)
          clear HA HL hkl;go_wp2_with fail;refine⟨⟨i+1,by go_num,by omega,HL2,Q2⟩,?_⟩;simp[intOf];omega
       ·obtain rfl:i=l.length:=by omega
        have HL0:Hid (Pn.oG l=false):=aj (by rw[ah HL,alb];rfl);have HR:=aj (Pn.VI (p:=⟨n,l,[x0,x1,x2,x3,x4,x5,x6,x7]⟩) (ah HN) h4 h0 (ah HF0).1 (ah HL0));obtain⟨_,y0,y1,y2,y3,y4,y5,y6,y7,y8,y9⟩:=(ah Q2).1;clear HL HF0 HL0 hlt HN;go_wp2_with fail;refine(wH n a l.length c x0 x1 x2 x3 x4 x5 x6 x7 wr).mono ?_;rintro e w5 ⟨g1,g2,rfl,v1,v2,b5⟩;have HV:Hid (Vst w w5 g1 g2 [x0,x1,x2,x3,x4,x5,x6,x7]):=aj ⟨v1,v2,ak (ah Q2).2.2 b5⟩;obtain⟨v,hv⟩:∃v,v=[x0,x1,x2,x3,x4,x5,x6,x7]:=⟨_,rfl⟩;have hv8:v.length=8:=by rw[hv];rfl
        rw[<-hv] at HV HR;have HVV:=aj hv;clear hv v1 v2 b5 Q2 y0 y1 y2 y3 y4 y5 y6 y7 y8 y9;go_wp2_with fail;go_loopw [10] (λiv wr=>∃(i:Nat),iv=.int .i64 i/\i<=8/\Hid (Pn.gK v Pn.dN=Pn.gK (v.drop i) (Pn.dN.drop i))/\Hid (Vst w wr g1 g2 v)) (λiv _=>8-(intOf iv).toNat)
        case atStart=>exact⟨0,rfl,ajm _,aj rfl,HV⟩
        case round =>
         clear HV;obtain⟨i,rfl,hi,HA,HV⟩:=hrel;by_cases hlt:i<8
         ·have HV2:=aj ((ah HV).next (ajb _ _).drew);have k2:=(ah HV2).two hv8 hlt;have HA2:=aj ((ah HA).trans (Pn.Jb (v:=v) (i:=i) (by omega) hv8));have HT:=aj (λ(w':World) (h:Vst w w' g1 g2 v)=>h.two hv8 hlt);obtain⟨x,hx⟩:∃x,Dk.nth v i=x:=⟨_,rfl⟩;obtain⟨y,hy⟩:∃y,Dk.nth Pn.dN i=y:=⟨_,rfl⟩;rw[hx,hy] at HA2 k2 HT;have PI:=aj (lM x 0 y wr.drew);obtain⟨I,hI⟩:∃I,kR x 0 y=I:=⟨_,rfl⟩;rw[hI] at PI;have HI:=aj hI;clear hx hy hI HA HV;go_wp2_with fail;go_region_held3 (ahM g1 g2 i x y) (first|assumption|go_keep)
           (first
            | (go_at_call 11;refine(ah PI).mono ?_;rintro e w6 ⟨rfl,rfl⟩))
          clear k2 PI HT
          cases I with
          | true =>
           have HA3:Hid (Pn.gK v Pn.dN=Pn.gK (v.drop (i+1)) (Pn.dN.drop (i+1))):=aj (by
            have h2:=ah HI;unfold kR at h2;rw[ah HA2,h2,akn])
           clear HA2 HI;go_wp2_with fail;refine⟨⟨i+1,by go_num,by omega,HA3,HV2⟩,?_⟩;simp[intOf];omega
          | false =>
           have HR2:Hid (Pn.dG ⟨n,l,[x0,x1,x2,x3,x4,x5,x6,x7]⟩=1):=aj (by
            have h2:=ah HI;unfold kR at h2;have h3:Pn.gK v Pn.dN=false:=by rw[ah HA2,h2,akH]
            have:=ah HR;rw[<-ah HVV,this];show(if Pn.gK v Pn.dN=true then (0:Int) else 1)=1;rw[h3];rfl)
           clear HA2 HI HR;go_wp2_with fail;go_ret;rw[ah HR2];exact⟨rfl,(ah HV2).2.2⟩
         ·obtain rfl:i=8:=by omega
          have HR2:Hid (Pn.dG ⟨n,l,[x0,x1,x2,x3,x4,x5,x6,x7]⟩=0):=aj (by
           have h3:Pn.gK v Pn.dN=true:=by
            rw[ah HA,ajI (by omega)];rfl
           have:=ah HR;rw[<-ah HVV,this];show(if Pn.gK v Pn.dN=true then (0:Int) else 1)=0;rw[h3];rfl)
          clear HA HR;go_wp2_with fail;go_ret;rw[ah HR2];exact⟨rfl,(ah HV).2.2⟩
end Go.Proofs.YtidekgipblnpkaaGreatDoor
