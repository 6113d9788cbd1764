/- A part. -/
import Derived.Test.YtophdoapcdjnjaaGreatDoorQ12
set_option maxRecDepth 100000
set_option maxHeartbeats 8000000
namespace Go.Proofs.YtophdoapcdjnjaaGreatDoor.Dk
open Go Go.Proofs.Tryz
theorem JM {q now:Int}(hq:1<=q/\q<=1099511627776)(hn:0<=now/\now<=1099511627776):dJ (jk q now)=0:=by
 unfold dJ jk Rc.pk Pk.chk;simp[Pk.inB,Wq];omega
theorem Uh {s:aX}{q now:Int}(h:s.Ok)(hm:∃r∈s.l,r.q=q)(hn:0<=now/\now<=1099511627776):dG s (jk q now)=0:=by
 obtain⟨r,hr,e⟩:=hm;have hc:dJ (jk q now)=0:=JM (by rw[<-e];exact h.seq hr) hn;have hs:seqB s.l q=true:=by
  unfold seqB;rw[List.any_eq_true];exact⟨r,hr,by simpa using e⟩
 unfold dG;rw[if_neg (by rw[hc];simp),if_neg (by intro z;have:=z.2;rw[show(jk q now).q=q from rfl,hs] at this;cases this),if_pos (by show(2:Int)≠1;decide)]
theorem Ui {s:aX}{q now:Int}(h0:dG s (jk q now)=0):jF s (jk q now)=⟨s.l.filter (λx=>decide (x.q≠q)),s.last⟩:=by
 unfold jF;rw[if_neg (by rw[h0];simp),if_neg (by show ¬(2:Int)=1;decide),if_neg (by show ¬(2:Int)=4;decide)];congr 1
 apply List.filter_congr;intro x _;unfold Jr jk;simp
theorem uZ {α:Type}{p:α->Bool}:∀{l:List α},(∃x∈l,p x=false)->(l.filter p).length<l.length
 | [],h=>by obtain⟨x,hx,_⟩:=h;cases hx
 | y::l,h=>by
  have hle:=List.length_filter_le p l;by_cases hy:p y=true
  ·rw[List.filter_cons_of_pos hy,List.length_cons,List.length_cons];obtain⟨x,hx,e⟩:=h;rcases List.mem_cons.1 hx with z|z
   ·subst z;rw[hy] at e;cases e
   ·have:=uZ ⟨x,z,e⟩;omega
  ·rw[List.filter_cons_of_neg hy,List.length_cons];omega
theorem MG {a b:List Rc}(h:a.Sublist b)(s:ByteArray):ou a s<=ou b s:=h.countP_le
theorem uj:∀{a b:List Rc},a.Sublist b->bU a<=bU b
 | _,_,.slnil=>Nat.le_refl _
 | _,_,.cons x h=>by have:=uj h;rw[bU];omega
 | _,_,.cons_cons x h=>by have:=uj h;rw[bU,bU];omega
theorem JO {es:List aC}{s:aX}{m size q now:Int}(h0:qJ es s m size (jk q now)=0):kQ es s m size (jk q now)=⟨s.l.filter (λx=>decide (x.q≠q)),s.last⟩:=by
 unfold kQ;rw[if_pos h0,Ui (JI h0).1]
theorem Fp {p:Pn.dN}{m size now:Int}{x:Po}:∀(k:Nat) (es:List aC) (s:aX),(iP p m size now x k es s).2.2.l.Sublist s.l/\(iP p m size now x k es s).2.2.last=s.last
 | 0,_,_=>⟨List.Sublist.refl _,rfl⟩
 | k+1,es,s=>by
  unfold iP;split
  ·exact⟨List.Sublist.refl _,rfl⟩
  ·split
   ·exact⟨List.Sublist.refl _,rfl⟩
   ·split
    ·exact⟨List.Sublist.refl _,rfl⟩
    ·rename_i h0;have h0:qJ es s m size (jk (F5 p s.l x) now)=0:=Classical.not_not.1 h0;obtain⟨i1,i2⟩:=Fp (p:=p) (m:=m) (size:=size) (now:=now) (x:=x) k (yg es s m size (jk (F5 p s.l x) now)) (kQ es s m size (jk (F5 p s.l x) now));rw[JO h0] at i1 i2 ⊢;exact⟨i1.trans List.filter_sublist,i2⟩
structure CQ (p:Pn.dN):Prop where
 pos:∀k,0<=pv p k
theorem Y8 {p:Pn.dN}(h:Pn.bT p=0):CQ p:=by
 obtain⟨_,_,_,_,_,h6⟩:=Pn.rP h;refine⟨λk=>?_⟩;unfold pv nth;have key:∀(v ms:List Int) (k:Nat),Pn.fJ v ms=true->0<=(v[k]?).getD 0:=by
  intro v;induction v with
  | nil=>intro ms k _;simp
  | cons y v ih =>
   intro ms k hh
   cases ms with
   | nil=>simp[Pn.fJ] at hh
   | cons w ms =>
    simp only[Pn.fJ,Bool.and_eq_true,decide_eq_true_eq] at hh
    cases k with
    | zero=>simpa using hh.1.1
    | succ k=>simpa using ih ms k hh.2
 exact key p.v Pn.dB k h6
theorem Uj {l:List Rc}{s:ByteArray}(h:0<ou l s):∃r∈l,r.q=G7 l s:=by
 unfold ou at h;obtain⟨r,hr,e⟩:=List.countP_pos_iff.1 h;unfold G7
 cases hf:l.find? (λr=>decide (r.s=s)) with
 | none =>
  have:=List.find?_eq_none.1 hf r hr;exact absurd e this
 | some y=>exact⟨y,List.mem_of_find?_eq_some hf,rfl⟩
theorem Fq {l:List Rc}(h:0<l.length):∃r∈l,r.q=mG l:=by
 cases l with
 | nil=>simp at h
 | cons r l=>exact⟨r,by simp,rfl⟩
theorem MH {l:List Rc}(h:0<bU l):0<l.length:=by
 cases l with
 | nil=>simp[bU] at h
 | cons r l=>simp
theorem go_in {p:Pn.dN}{l:List Rc}{x:Po}(hp:CQ p)(hz:¬(pv p 1≠0/\pv p 1<(Rt x:Int)))(h:¬(jy p l x||pO p l x)=false):∃r∈l,r.q=F5 p l x:=by
 unfold F5;by_cases hc:jy p l x=true
 ·rw[if_pos hc];unfold jy at hc;simp only[Bool.and_eq_true,decide_eq_true_eq] at hc;have:=hp.pos 3;exact Uj (by omega)
 ·rw[if_neg hc];have hc:jy p l x=false:=by simpa using hc
  rw[hc,Bool.false_or] at h;have hf:pO p l x=true:=by simpa using h
  unfold pO at hf;simp only[Bool.or_eq_true,Bool.and_eq_true,decide_eq_true_eq] at hf;rcases hf with ⟨a,b⟩|⟨a,b⟩
  ·have:=hp.pos 0;exact Fq (by omega)
  ·have hb:¬pv p 1<(Rt x:Int):=λz=>hz ⟨a,z⟩
   exact Fq (MH (by omega))
theorem Af {p:Pn.dN}{m size now:Int}{x:Po}(hp:CQ p)(hz:¬(pv p 1≠0/\pv p 1<(Rt x:Int))):∀(k:Nat) (es:List aC) (s:aX),s.l.length<k->(iP p m size now x k es s).1=0->(jy p (iP p m size now x k es s).2.2.l x||pO p (iP p m size now x k es s).2.2.l x)=false
 | 0,_,s,h,_=>by omega
 | k+1,es,s,h,h1=>by
  unfold iP at h1 ⊢;by_cases a:(jy p s.l x||pO p s.l x)=false
  ·rw[if_pos a];exact a
  ·rw[if_neg a] at h1 ⊢;by_cases b:pv p 5=1
   ·rw[if_pos b] at h1;cases h1
   ·rw[if_neg b] at h1 ⊢;by_cases c:qJ es s m size (jk (F5 p s.l x) now)=0
    ·rw[if_neg (by rw[c];simp)] at h1 ⊢;refine Af hp hz k _ _ ?_ h1;rw[JO c];obtain⟨r,hr,e⟩:=go_in hp hz a;have:=uZ (p:=λy:Rc=>decide (y.q≠F5 p s.l x)) ⟨r,hr,by simpa using e⟩;show(s.l.filter (λy=>decide (y.q≠F5 p s.l x))).length<k;omega
    ·rw[if_pos c] at h1;exact absurd h1 c
theorem Hy {p:Pn.dN}{m size now:Int}{x:Po}{es:List aC}{s:aX}(hp:CQ p)(h:(aV p m size now x es s).1=0):(jy p (aV p m size now x es s).2.2.l x||pO p (aV p m size now x es s).2.2.l x)=false:=by
 unfold aV at h ⊢;by_cases a:pv p 1≠0/\pv p 1<(Rt x:Int)
 ·rw[if_pos a] at h;cases h
 ·rw[if_neg a] at h ⊢;exact Af hp a _ _ _ (by omega) h
theorem jO {p:Pn.dN}{m size now:Int}{x:Po}{es:List aC}{s:aX}:(aV p m size now x es s).2.2.l.Sublist s.l/\(aV p m size now x es s).2.2.last=s.last:=by
 unfold aV;split
 ·exact⟨List.Sublist.refl _,rfl⟩
 ·exact Fp _ _ _
structure NP (p:Pn.dN)(l:List Rc):Prop where
 msgs:pv p 0≠0->(l.length:Int)<=pv p 0
 bytes:pv p 1≠0->(bU l:Int)<=pv p 1
 per:pv p 3≠0->∀t,(ou l t:Int)<=pv p 3
theorem NP.nil {p:Pn.dN}(hp:CQ p):NP p []:=⟨λ_=>by have:=hp.pos 0;simpa using this,λ_=>by have:=hp.pos 1;simpa[bU] using this,λ_ t=>by have:=hp.pos 3;simpa[ou] using this⟩
theorem NP.sub {p:Pn.dN}{a b:List Rc}(h:NP p b)(hs:a.Sublist b):NP p a:=⟨λz=>by have:=h.msgs z;have:=hs.length_le;omega,λz=>by have:=h.bytes z;have:=uj hs;omega,λz t=>by have:=h.per z t;have:=MG hs t;omega⟩
theorem H6 (l:List Rc)(r:Rc)(t:ByteArray):ou (l++[r]) t=ou l t+(if r.s=t then 1 else 0):=by
 unfold ou;rw[List.countP_append];by_cases e:r.s=t<;>simp[e]
theorem NP.more {p:Pn.dN}{l:List Rc}{x:Po}{q now:Int}(h:NP p l)(hr:(jy p l x||pO p l x)=false):NP p (l++[aY q now x]):=by
 rw[Bool.or_eq_false_iff] at hr;obtain⟨h1,h2⟩:=hr;unfold jy at h1;unfold pO at h2;rw[Bool.or_eq_false_iff] at h2;obtain⟨h2,h3⟩:=h2;simp only[Bool.and_eq_false_iff,decide_eq_false_iff_not] at h1 h2 h3;refine⟨λz=>?_,λz=>?_,λz t=>?_⟩
 ·rw[List.length_append,List.length_singleton];rcases h2 with a|a
  ·exact absurd z a
  ·omega
 ·rw[jG];have e:bU [aY q now x]=Rt x:=by simp[bU,aY,Rt]
  rw[e];rcases h3 with a|a
  ·exact absurd z a
  ·omega
 ·rw[H6];rcases h1 with a|a
  ·exact absurd z a
  ·by_cases e:(aY q now x).s=t
   ·rw[if_pos e,<-e];show((ou l x.s+1:Nat):Int)<=pv p 3;omega
   ·rw[if_neg e];exact h.per z t
theorem oQ {es:List aC}{s:aX}{m size q now:Int}{x:Po}(h0:qJ es s m size (aY q now x)=0):kQ es s m size (aY q now x)=⟨s.l++[aY q now x],q⟩:=by
 unfold kQ jF;rw[if_pos h0,if_neg (by rw[(JI h0).1];simp),if_pos (by rfl)];rfl
theorem vW {es:List aC}{s:aX}{m size q now:Int}{f:ByteArray}(h0:qJ es s m size (kC q now f)=0):kQ es s m size (kC q now f)=⟨s.l.filter (λy=>!(decide (y.q<q)&&lM f y.s)),s.last⟩:=by
 unfold kQ;rw[if_pos h0,xQ (JI h0).1 rfl];rfl
theorem NP.pub {p:Pn.dN}{m size now:Int}{x:Po}{st:Str}(hp:CQ p)(h:NP p st.s.l):NP p (bn p m size now x st).2.s.l:=by
 unfold bn;split
 ·exact h
 ·split
  ·exact h
  ·split
   ·exact h
   ·split
    ·exact h.sub jO.1
    ·rename_i h0;have h0:(aV p m size now x st.es st.s).1=0:=Classical.not_not.1 h0;have hb:=h.sub (jO (p:=p) (m:=m) (size:=size) (now:=now) (x:=x) (es:=st.es) (s:=st.s)).1;have hr:=Hy hp h0;generalize (aV p m size now x st.es st.s).2.1=es at *;generalize (aV p m size now x st.es st.s).2.2=s at *;unfold yw;by_cases a:qJ es s m size (aY (s.last+1) now x)=0
     ·rw[if_neg (by rw[a];simp)];have hm:NP p (kQ es s m size (aY (s.last+1) now x)).l:=by rw[oQ a];exact hb.more hr
      split
      ·exact hm
      ·split
       ·exact hm
       ·rename_i b;have b:=Classical.not_not.1 b;rw[show(kQ (yg es s m size (aY (s.last+1) now x)) (kQ es s m size (aY (s.last+1) now x)) m size (kC (s.last+1) now (iQ x))).l=(kQ es s m size (aY (s.last+1) now x)).l.filter _ from by rw[vW b]];exact hm.sub List.filter_sublist
     ·rw[if_pos a];exact hb
theorem Uk {p:Pn.dN}{m size now:Int}{x:Po}{st:Str}:((bn p m size now x st).1.2.2≠0->(bn p m size now x st).1.1=0/\(bn p m size now x st).1.2.1=false)/\((bn p m size now x st).1.2.2=0->(bn p m size now x st).1.2.1=false->(bn p m size now x st).1.1=st.s.last+1)/\((bn p m size now x st).1.2.1=true->(bn p m size now x st).2=st):=by
 unfold bn;split
 ·rename_i a;exact⟨λ_=>⟨rfl,rfl⟩,λz=>absurd z a,λz=>by cases z⟩
 ·split
  ·exact⟨λz=>absurd rfl z,λ_ z=>(by cases z),λ_=>rfl⟩
  ·split
   ·exact⟨λ_=>⟨rfl,rfl⟩,λz=>(by cases z),λz=>by cases z⟩
   ·split
    ·rename_i a;exact⟨λ_=>⟨rfl,rfl⟩,λz=>absurd z a,λz=>by cases z⟩
    ·have hl:=(jO (p:=p) (m:=m) (size:=size) (now:=now) (x:=x) (es:=st.es) (s:=st.s)).2;generalize (aV p m size now x st.es st.s).2.1=es at *;generalize (aV p m size now x st.es st.s).2.2=s at *;unfold yw;rw[hl];split
     ·rename_i a;exact⟨λ_=>⟨rfl,rfl⟩,λz=>absurd z a,λz=>by cases z⟩
     ·split
      ·exact⟨λz=>absurd rfl z,λ_ _=>rfl,λz=>by cases z⟩
      ·split
       ·rename_i a;exact⟨λ_=>⟨rfl,rfl⟩,λz=>absurd z a,λz=>by cases z⟩
       ·exact⟨λz=>absurd rfl z,λ_ _=>rfl,λz=>by cases z⟩
theorem Ul (s:ByteArray):Pl.toks s≠[]:=λh=>by
 have:=congrArg List.length h;rw[Pl.aO] at this;have h2:=Pl.ny s.data.toList;exact h2 (List.length_eq_zero_iff.1 (by simpa using this))
theorem Um (s:ByteArray):lM ⟨#[62]⟩ s=true:=by
 unfold lM;rw[vM.2];exact zF (by decide +kernel) (Ul s)
theorem Qw (s:ByteArray):lM s s=true:=kK _
theorem JQ {p:Pn.dN}{m size now:Int}{x:Po}{st:Str}(h0:(bn p m size now x st).1.2.2=0)(ha:(bn p m size now x st).1.2.1=false) :
 sJ p now x=0/\(bn p m size now x st).1.1=st.s.last+1/\(bn p m size now x st).2.s.last=st.s.last+1/\(bn p m size now x st).2.ids=Ql st.ids x now (st.s.last+1) /\
  ∃l,l.Sublist st.s.l/\(x.ro=0->(bn p m size now x st).2.s.l=l++[aY (st.s.last+1) now x])/\(x.ro≠0->(bn p m size now x st).2.s.l=(l++[aY (st.s.last+1) now x]).filter (λy=>!(decide (y.q<st.s.last+1)&&lM (iQ x) y.s))):=by
 unfold bn at h0 ha ⊢;by_cases a:sJ p now x=0
 ·rw[if_neg (by rw[a];simp)] at h0 ha ⊢;by_cases b:qG p now x st.ids=true
  ·rw[if_pos b] at ha;cases ha
  ·rw[if_neg b] at h0 ha ⊢;by_cases c:x.x≠-1/\x.x≠st.s.last
   ·rw[if_pos c] at h0;cases h0
   ·rw[if_neg c] at h0 ha ⊢;by_cases d:(aV p m size now x st.es st.s).1=0
    ·rw[if_neg (by rw[d];simp)] at h0 ha ⊢;obtain⟨hs,hl⟩:=jO (p:=p) (m:=m) (size:=size) (now:=now) (x:=x) (es:=st.es) (s:=st.s);generalize (aV p m size now x st.es st.s).2.1=es at *;generalize (aV p m size now x st.es st.s).2.2=s at *;unfold yw at h0 ⊢;rw[hl] at h0 ⊢;by_cases e:qJ es s m size (aY (st.s.last+1) now x)=0
     ·rw[if_neg (by rw[e];simp)] at h0 ⊢;by_cases f:x.ro=0
      ·rw[if_pos f];refine⟨a,rfl,by rw[oQ e],rfl,s.l,hs,λ_=>by rw[oQ e],λz=>absurd f z⟩
      ·rw[if_neg f] at h0 ⊢;by_cases g:qJ (yg es s m size (aY (st.s.last+1) now x)) (kQ es s m size (aY (st.s.last+1) now x)) m size (kC (st.s.last+1) now (iQ x))=0
       ·rw[if_neg (by rw[g];simp)];refine⟨a,rfl,?_,rfl,s.l,hs,λz=>absurd z f,λ_=>?_⟩
        ·rw[show(kQ (yg es s m size (aY (st.s.last+1) now x)) (kQ es s m size (aY (st.s.last+1) now x)) m size (kC (st.s.last+1) now (iQ x))).last=(kQ es s m size (aY (st.s.last+1) now x)).last from by rw[vW g],oQ e]
        ·rw[show(kQ (yg es s m size (aY (st.s.last+1) now x)) (kQ es s m size (aY (st.s.last+1) now x)) m size (kC (st.s.last+1) now (iQ x))).l=(kQ es s m size (aY (st.s.last+1) now x)).l.filter _ from by rw[vW g],oQ e]
       ·rw[if_pos g] at h0;exact absurd h0 g
     ·rw[if_pos e] at h0;exact absurd h0 e
    ·rw[if_pos d] at h0;exact absurd h0 d
 ·rw[if_pos a] at h0;exact absurd h0 a
theorem Xm {p:Pn.dN}{m size now:Int}{x:Po}{st:Str}(hk:st.s.Ok)(h0:(bn p m size now x st).1.2.2=0)(ha:(bn p m size now x st).1.2.1=false)(hr:x.ro≠0) :
 (∀r∈(bn p m size now x st).2.s.l,r.q≠(bn p m size now x st).1.1->¬(x.ro=2\/r.s=x.s))/\((bn p m size now x st).2.s.l.getLast?.map (·.q))=some (bn p m size now x st).1.1:=by
 obtain⟨hp,h1,_,_,l,hs,_,h6⟩:=JQ h0 ha;have h7:=h6 hr;have h12:x.ro=1\/x.ro=2:=by
  unfold sJ at hp;by_cases z:(lC now 0 1099511627776&&(decide (-1<=x.x)&&lC x.ro 0 2))=false
  ·rw[if_pos z] at hp;cases hp
  ·have z:(lC now 0 1099511627776&&(decide (-1<=x.x)&&lC x.ro 0 2))=true:=by simpa using z
   simp only[lC,Bool.and_eq_true,decide_eq_true_eq] at z;omega
 rw[h7,h1];constructor
 ·intro r hr' hq hn;rw[List.mem_filter] at hr';obtain⟨hm,hg⟩:=hr';rcases List.mem_append.1 hm with y|y
  ·have hlow:=hk.low r (hs.subset y);have ht:lM (iQ x) r.s=true:=by
    unfold iQ;rcases h12 with e|e
    ·rw[if_pos e];rcases hn with z|z
     ·omega
     ·rw[z];exact Qw _
    ·rw[if_neg (by omega)];exact Um _
   rw[ht,decide_eq_true (show r.q<st.s.last+1 by omega)] at hg
   cases hg
  ·rw[List.mem_singleton.1 y] at hq;exact hq rfl
 ·rw[List.filter_append];have e:[aY (st.s.last+1) now x].filter (λy=>!(decide (y.q<st.s.last+1)&&lM (iQ x) y.s))=[aY (st.s.last+1) now x]:=by
   rw[List.filter_cons_of_pos (by simp[aY])];rfl
  rw[e,List.getLast?_append];rfl
theorem Xn {p:Pn.dN}{m size now later:Int}{x:Po}{st:Str}(hp:CQ p)(hl:0<=st.s.last)(hi:st.ids=[])(h0:(bn p m size now x st).1.2.2=0)(ha:(bn p m size now x st).1.2.1=false) :
 (lC later 0 1099511627776=false->(bn p m size later x (bn p m size now x st).2).1.2.2=1) /\
 (lC later 0 1099511627776=true->x.i.size≠0->0<pv p 7->later-pv p 7<=now->bn p m size later x (bn p m size now x st).2=(((bn p m size now x st).1.1,true,0),(bn p m size now x st).2)) /\
 (lC later 0 1099511627776=true->¬(x.i.size≠0/\0<pv p 7/\later-pv p 7<=now)->(bn p m size later x (bn p m size now x st).2).1.2.1=false/\((bn p m size later x (bn p m size now x st).2).1.2.2=0->(bn p m size later x (bn p m size now x st).2).1.1=(bn p m size now x st).1.1+1)):=by
 obtain⟨hpr,h1,h2,h3,_⟩:=JQ h0 ha;rw[hi] at h3;have hpl:lC later 0 1099511627776=true->sJ p later x=0:=λh=>by
  unfold sJ at hpr ⊢;by_cases z:(lC now 0 1099511627776&&(decide (-1<=x.x)&&lC x.ro 0 2))=false
  ·rw[if_pos z] at hpr;cases hpr
  ·rw[if_neg z] at hpr;have z:(lC now 0 1099511627776&&(decide (-1<=x.x)&&lC x.ro 0 2))=true:=by simpa using z
   rw[Bool.and_eq_true] at z;rw[if_neg (by rw[h,z.2];decide)];exact hpr
 have hn:=Uk (p:=p) (m:=m) (size:=size) (now:=later) (x:=x) (st:=(bn p m size now x st).2);rw[h2] at hn;rw[h1];generalize (bn p m size now x st).2=st1 at *;have Vy:x.i.size≠0->JK st1.ids x.i (later-pv p 7)=if later-pv p 7<=now then st.s.last+1 else 0:=λz=>by
  rw[h3];unfold Ql JK;rw[if_neg z];simp
 refine⟨λh=>?_,λh a b c=>?_,λh a=>?_⟩
 ·have hp1:sJ p later x=1:=by
   unfold sJ;rw[if_pos (by rw[h];rfl)]
  unfold bn;rw[if_pos (by rw[hp1];decide)];exact hp1
 ·unfold bn;have hs:=Vy a;rw[if_pos c] at hs;have hag:qG p later x st1.ids=true:=by
   unfold qG;rw[hs,decide_eq_true a,decide_eq_true (show pv p 7≠0 by omega),decide_eq_true (show 0<st.s.last+1 by omega)];rfl
  rw[if_neg (by rw[hpl h];simp),if_pos hag,hs]
 ·have hag:qG p later x st1.ids=false:=by
   unfold qG;by_cases z1:x.i.size=0
   ·rw[decide_eq_false (p:=x.i.size≠0) (by omega)];rfl
   ·by_cases z2:pv p 7=0
    ·rw[decide_eq_false (p:=pv p 7≠0) (by omega)];simp
    ·have:=hp.pos 7;have hs:=Vy z1;rw[if_neg (λy=>a ⟨z1,by omega,y⟩)] at hs;rw[hs,decide_eq_false (p:=(0:Int)<0) (by omega)];simp
  have hfa:(bn p m size later x st1).1.2.1=false:=by
   unfold bn;rw[if_neg (by rw[hpl h];simp),if_neg (by rw[hag];simp)];split
   ·rfl
   ·split
    ·rfl
    ·unfold yw;split
     ·rfl
     ·split
      ·rfl
      ·split<;>rfl
  exact⟨hfa,λz=>hn.2.1 z hfa⟩
def Low (es:List aC):Prop:=∀e∈es,0<=e.n/\e.n<(es.length:Int)
theorem Low.nil:Low []:=λe h=>by cases h
theorem JR {es:List aC}(h:es.length≠0):gG es∈es:=pY (by omega)
theorem Low.sync {es:List aC}(h:Low es)(n:Int):Low (jA es n):=by
 unfold jA;split
 ·rename_i hi;intro e he;rw[List.length_set];rcases List.mem_or_eq_of_mem_set he with y|y
  ·exact h e y
  ·rw[y];exact h (pa es (ix es n)) (pY hi)
 ·exact h
theorem Low.Jd {es:List aC}(h:Low es):Low (kX es):=by
 unfold kX;split
 ·exact h
 ·exact h.sync _
theorem Low.app {es:List aC}(h:Low es){m n:Int}{s:ByteArray}(hn:0<=n/\n<=(es.length:Int)):Low (kU es m n s):=by
 unfold kU;split
 ·exact h
 ·split
  ·exact h
  ·split
   ·rename_i hi;intro e he;rw[List.length_set];rcases List.mem_or_eq_of_mem_set he with y|y
    ·exact h e y
    ·rw[y];exact h (pa es (ix es n)) (pY hi)
   ·intro e he;have hl:(insL es (low es n) ⟨n,0,s⟩).length=es.length+1:=by
     unfold insL;rw[List.length_append,List.length_cons,List.length_take,List.length_drop];have:low es n<=es.length:=by unfold low;exact List.findIdx_le_length
     omega
    rw[hl];rcases IL he with y|y
    ·rw[y];exact⟨hn.1,by show n<((es.length+1:Nat):Int);omega⟩
    ·have:=h e y;exact⟨this.1,by omega⟩
theorem Low.MJ (es:List aC)(n:Int):(jA es n).length=es.length:=by
 unfold jA;split
 ·rw[List.length_set]
 ·rfl
theorem Low.log {es:List aC}(h:Low es)(m size:Int)(r:Rc):Low (jZ es m size r).2:=by
 unfold jZ;split
 ·unfold jd;split
  ·exact h
  ·split
   ·exact h.app ⟨Int.le_refl _,by omega⟩
   ·rename_i hne;have hl:=h _ (JR hne);split
    ·exact(h.sync _).app ⟨by omega,by rw[Low.MJ];omega⟩
    ·exact h.app ⟨hl.1,by omega⟩
 ·exact h
theorem Low.did {es:List aC}(h:Low es)(s:aX)(m size:Int)(r:Rc):Low (yg es s m size r):=by
 unfold yg;split
 ·exact(h.log m size r).Jd
 ·exact h
theorem Un {es:List aC}(h:Low es)(hf:es.length<=20){m size:Int}{r:Rc}(hc:dJ r=0):(jZ es m size r).1=0\/(jZ es m size r).1=8:=by
 have key:∀(es':List aC) (n:Int),0<=n->n<=1099511627776->iH es' m n (gB r)=0\/iH es' m n (gB r)=8:=λes' n h1 h2=>by
  unfold iH;rw[if_neg (by unfold lC;rw[decide_eq_true h1,decide_eq_true h2];decide)];split
  ·exact .inr rfl
  ·exact .inl rfl
 have hR:(jd es m size r).1=0\/(jd es m size r).1=8:=by
  unfold jd;rw[if_neg (by rw[hc];simp)];split
  ·exact key es 0 (by omega) (by omega)
  ·rename_i hne;have hl:=h _ (JR hne);split
   ·exact key (jA es (gG es).n) ((gG es).n+1) (by omega) (by omega)
   ·exact key es (gG es).n (by omega) (by omega)
 unfold jZ;split
 ·exact hR
 ·exact hR
theorem H7 {es:List aC}(h:Low es)(hf:es.length<=20){s:aX}{m size:Int}{r:Rc}(hc:dJ r=0)(ht:dG s r=0\/dG s r=8):qJ es s m size r=0\/qJ es s m size r=8:=by
 unfold qJ;split
 ·exact ht
 ·exact Un h hf hc
theorem yD (bZ:Bool)(s:ByteArray):aB bZ s=Pl.errOf bZ (Pl.fZ s.data.toList):=rfl
theorem Uo {p:Pn.dN}{now:Int}{x:Po}{q:Int}(h:sJ p now x=0)(hq:1<=q/\q<=1099511627776):dJ (aY q now x)=0:=by
 unfold sJ at h;by_cases a:(lC now 0 1099511627776&&(decide (-1<=x.x)&&lC x.ro 0 2))=false
 ·rw[if_pos a] at h;cases h
 ·rw[if_neg a] at h;by_cases b:aB false x.s=0
  ·rw[if_neg (by rw[b];simp)] at h;by_cases c:Qk p x.s=false
   ·rw[if_pos c] at h;cases h
   ·rw[if_neg c] at h;have a:(lC now 0 1099511627776&&(decide (-1<=x.x)&&lC x.ro 0 2))=true:=by simpa using a
    simp only[lC,Bool.and_eq_true,decide_eq_true_eq] at a;have d:¬256<x.h.size+x.d.size:=λz=>by
     rw[decide_eq_true z] at h;simp at h
    have e:∀y:ByteArray,y.data.toList.length=y.size:=λy=>by simp
    unfold dJ aY Rc.pk Pk.chk;rw[if_neg (by
     have:Pk.inB 1 q now=true:=Pk.kF.2 ⟨by decide,by decide,hq.1,hq.2,a.1.1,a.1.2⟩;rw[this];decide),if_pos rfl,if_neg (by rw[<-yD,b];simp),if_neg (by simp only[e];exact d)]
  ·rw[if_pos b] at h;exact absurd h b
theorem Ur {q now:Int}{f:ByteArray}(hq:1<=q/\q<=1099511627776)(hn:0<=now/\now<=1099511627776)(hf:aB true f=0):dJ (kC q now f)=0:=by
 unfold dJ kC Rc.pk Pk.chk;rw[if_neg (by
  have:Pk.inB 3 q now=true:=Pk.kF.2 ⟨by decide,by decide,hq.1,hq.2,hn.1,hn.2⟩;rw[this];decide),if_neg (by show ¬(3:Int)=1;decide),if_pos rfl,if_neg (by rw[<-yD,hf];simp),if_pos (by simp[Wq])]
theorem Us {s:aX}{q now:Int}{x:Po}(hc:dJ (aY q now x)=0)(hq:s.last<q):dG s (aY q now x)=0\/dG s (aY q now x)=8:=by
 unfold dG;rw[if_neg (by rw[hc];simp),if_neg (by intro z;have:=z.1;cases this),if_neg (by intro z;exact z rfl),if_neg (by show ¬q<=s.last;omega)];split
 ·exact .inr rfl
 ·exact .inl rfl
theorem Low.room {p:Pn.dN}{m size now:Int}{x:Po}:∀(k:Nat) {es:List aC} {s:aX},Low es->Low (iP p m size now x k es s).2.1
 | 0,_,_,h=>h
 | k+1,es,s,h=>by
  unfold iP;split
  ·exact h
  ·split
   ·exact h
   ·split
    ·exact h
    ·exact Low.room k (h.did _ _ _ _)
theorem Low.pub {p:Pn.dN}{m size now:Int}{x:Po}{st:Str}(h:Low st.es):Low (bn p m size now x st).2.es:=by
 have hr:Low (aV p m size now x st.es st.s).2.1:=by
  unfold aV;split
  ·exact h
  ·exact Low.room _ h
 unfold bn;split
 ·exact h
 ·split
  ·exact h
  ·split
   ·exact h
   ·split
    ·exact hr
    ·unfold yw;split
     ·exact hr
     ·split
      ·exact hr.did _ _ _ _
      ·split
       ·exact hr.did _ _ _ _
       ·exact(hr.did _ _ _ _).did _ _ _ _
theorem Fv {p:Pn.dN}{m size now:Int}{x:Po}(hp:CQ p)(hn:0<=now/\now<=1099511627776)(hz:¬(pv p 1≠0/\pv p 1<(Rt x:Int))):∀(k:Nat) {es:List aC} {s:aX},lu m es s->Low es ->
 (pv p 5=1->(iP p m size now x k es s).2.2=s)/\((iP p m size now x k es s).1=0\/(iP p m size now x k es s).1=8)
 | 0,_,_,_,_=>⟨λ_=>rfl,.inl rfl⟩
 | k+1,es,s,hv,hl=>by
  unfold iP;by_cases a:(jy p s.l x||pO p s.l x)=false
  ·rw[if_pos a];exact⟨λ_=>rfl,.inl rfl⟩
  ·rw[if_neg a];by_cases b:pv p 5=1
   ·rw[if_pos b];exact⟨λ_=>rfl,.inr rfl⟩
   ·rw[if_neg b];obtain⟨r,hr,e⟩:=go_in hp hz a;have ht:=Uh (now:=now) hv.ok ⟨r,hr,e⟩ hn;have hc:dJ (jk (F5 p s.l x) now)=0:=JM (by rw[<-e];exact hv.ok.seq hr) hn;have hd:=H7 (m:=m) (size:=size) hl hv.tidy.few hc (.inl ht);by_cases c:qJ es s m size (jk (F5 p s.l x) now)=0
    ·rw[if_neg (by rw[c];simp)];obtain⟨_,i2⟩:=Fv hp hn hz k (hv.did (size:=size) (jk (F5 p s.l x) now)) (hl.did s m size (jk (F5 p s.l x) now));exact⟨λz=>absurd z b,i2⟩
    ·rw[if_pos c];exact⟨λz=>absurd z b,hd⟩
theorem Vz {p:Pn.dN}{m size now:Int}{x:Po}{st:Str}(hp:CQ p)(hv:lu m st.es st.s)(hl:Low st.es)(hq:st.s.last<1099511627776)(h0:(bn p m size now x st).1.2.2≠0)(h8:¬((bn p m size now x st).1.2.2=8/\(pv p 5≠1\/x.ro≠0))):(bn p m size now x st).2.s.l=st.s.l:=by
 unfold bn at h0 h8 ⊢;by_cases a:sJ p now x=0
 ·rw[if_neg (by rw[a];simp)] at h0 h8 ⊢;by_cases b:qG p now x st.ids=true
  ·rw[if_pos b]
  ·rw[if_neg b] at h0 h8 ⊢;by_cases c:x.x≠-1/\x.x≠st.s.last
   ·rw[if_pos c]
   ·rw[if_neg c] at h0 h8 ⊢;have hn:0<=now/\now<=1099511627776:=by
     have h:=a;unfold sJ at h;by_cases z:(lC now 0 1099511627776&&(decide (-1<=x.x)&&lC x.ro 0 2))=false
     ·rw[if_pos z] at h;cases h
     ·have z:(lC now 0 1099511627776&&(decide (-1<=x.x)&&lC x.ro 0 2))=true:=by simpa using z
      simp only[lC,Bool.and_eq_true,decide_eq_true_eq] at z;exact⟨z.1.1,z.1.2⟩
    have hsub:aB true x.s=0:=by
     have h:=a;unfold sJ at h;by_cases z:(lC now 0 1099511627776&&(decide (-1<=x.x)&&lC x.ro 0 2))=false
     ·rw[if_pos z] at h;cases h
     ·rw[if_neg z] at h;by_cases y:aB false x.s=0
      ·exact jT y
      ·rw[if_pos y] at h;exact absurd h y
    have hv1:=hv.aV (p:=p) (size:=size) (now:=now) (x:=x);have hs1:=(jO (p:=p) (m:=m) (size:=size) (now:=now) (x:=x) (es:=st.es) (s:=st.s)).2;have hL:Low (aV p m size now x st.es st.s).2.1/\(pv p 5=1->(aV p m size now x st.es st.s).2.2=st.s)/\((aV p m size now x st.es st.s).1=0\/(aV p m size now x st.es st.s).1=8/\(pv p 5≠1\/(aV p m size now x st.es st.s).2.2=st.s)):=by
     unfold aV;by_cases z:pv p 1≠0/\pv p 1<(Rt x:Int)
     ·rw[if_pos z];exact⟨hl,λ_=>rfl,.inr ⟨rfl,.inr rfl⟩⟩
     ·rw[if_neg z];obtain⟨r1,r2⟩:=Fv (size:=size) hp hn z (st.s.l.length+1) hv hl;refine⟨Low.room _ hl,r1,?_⟩;rcases r2 with y|y
      ·exact .inl y
      ·by_cases d:pv p 5=1
       ·exact .inr ⟨y,.inr (r1 d)⟩
       ·exact .inr ⟨y,.inl d⟩
    obtain⟨hL1,hL2,hL3⟩:=hL;by_cases d:(aV p m size now x st.es st.s).1=0
    ·rw[if_neg (by rw[d];simp)] at h0 h8 ⊢;clear hL3 d;generalize (aV p m size now x st.es st.s).2.1=es at *;generalize (aV p m size now x st.es st.s).2.2=s at *;have hs0:0<=s.last:=hv1.ok.last.1;have hc:=Uo (q:=s.last+1) a ⟨by omega,by omega⟩;have hd:=H7 (m:=m) (size:=size) hL1 hv1.tidy.few hc (Us (s:=s) (q:=s.last+1) hc (by omega));unfold yw at h0 h8 ⊢;by_cases e:qJ es s m size (aY (s.last+1) now x)=0
     ·rw[if_neg (by rw[e];simp)] at h0 h8 ⊢;by_cases f:x.ro=0
      ·rw[if_pos f] at h0;exact absurd rfl h0
      ·rw[if_neg f] at h0 h8 ⊢;have hcp:dJ (kC (s.last+1) now (iQ x))=0:=Ur ⟨by omega,by omega⟩ hn (by
        unfold iQ;split
        ·exact hsub
        ·exact vM.1)
       have hdp:=H7 (m:=m) (size:=size) (hL1.did s m size (aY (s.last+1) now x)) (hv1.did (size:=size) (aY (s.last+1) now x)).tidy.few (s:=kQ es s m size (aY (s.last+1) now x)) hcp (.inl (by rw[LM rfl];exact hcp));by_cases g:qJ (yg es s m size (aY (s.last+1) now x)) (kQ es s m size (aY (s.last+1) now x)) m size (kC (s.last+1) now (iQ x))=0
       ·rw[if_neg (by rw[g];simp)] at h0;exact absurd rfl h0
       ·rw[if_pos g] at h8;rcases hdp with y|y
        ·exact absurd y g
        ·exact absurd ⟨y,.inr f⟩ h8
     ·rw[if_pos e] at h0 h8 ⊢;rcases hd with y|y
      ·exact absurd y e
      ·by_cases z:pv p 5=1
       ·show s.l=st.s.l;rw[hL2 z]
       ·exact absurd ⟨y,.inl z⟩ h8
    ·rw[if_pos d] at h0 h8 ⊢;rcases hL3 with y|⟨y,z⟩
     ·exact absurd y d
     ·rcases z with z|z
      ·exact absurd ⟨y,.inl z⟩ h8
      ·show(aV p m size now x st.es st.s).2.2.l=st.s.l;rw[z]
 ·rw[if_pos a]
def P0:Pn.dN:=⟨⟨#[115]⟩,[⟨#[97,46,62]⟩],[2,0,0,0,0,0,0,0]⟩
def x0:Po:=⟨⟨#[97,46,98]⟩,⟨#[]⟩,⟨#[]⟩,⟨#[100]⟩,-1,0⟩
theorem Yi:Pn.bT P0=0:=by decide +kernel
def ZO:Str:=(bn P0 1000 100 5 x0 ⟨[],⟨[],0⟩,[]⟩).2
def ZP:Str:=(bn P0 1000 100 5 x0 ZO).2
def Ut:Str:=(bn P0 1000 100 5 x0 ZP).2
theorem Wu:(Ut.s.l.length:Int)=2/\(bU Ut.s.l:Int)=8/\mG Ut.s.l=2/\Ut.s.last=3:=by decide +kernel
theorem Yj {p:Pn.dN}{m size now:Int}{x:Po}{st:Str}:st.s.last<=(bn p m size now x st).2.s.last/\(bn p m size now x st).2.s.last<=st.s.last+1:=by
 unfold bn;split
 ·exact⟨Int.le_refl _,by show st.s.last<=st.s.last+1;omega⟩
 ·split
  ·exact⟨Int.le_refl _,by show st.s.last<=st.s.last+1;omega⟩
  ·split
   ·exact⟨Int.le_refl _,by show st.s.last<=st.s.last+1;omega⟩
   ·have hl:=(jO (p:=p) (m:=m) (size:=size) (now:=now) (x:=x) (es:=st.es) (s:=st.s)).2;split
    ·exact⟨by show st.s.last<=(aV p m size now x st.es st.s).2.2.last;omega,by show(aV p m size now x st.es st.s).2.2.last<=_;omega⟩
    ·generalize (aV p m size now x st.es st.s).2.1=es at *;generalize (aV p m size now x st.es st.s).2.2=s at *;unfold yw;by_cases e:qJ es s m size (aY (s.last+1) now x)=0
     ·rw[if_neg (by rw[e];simp)];have h1:(kQ es s m size (aY (s.last+1) now x)).last=s.last+1:=by rw[oQ e]
      split
      ·exact⟨by show st.s.last<=(kQ es s m size (aY (s.last+1) now x)).last;omega,by show(kQ es s m size (aY (s.last+1) now x)).last<=_;omega⟩
      ·split
       ·exact⟨by show st.s.last<=(kQ es s m size (aY (s.last+1) now x)).last;omega,by show(kQ es s m size (aY (s.last+1) now x)).last<=_;omega⟩
       ·rename_i g;have g:=Classical.not_not.1 g;have h2:(kQ (yg es s m size (aY (s.last+1) now x)) (kQ es s m size (aY (s.last+1) now x)) m size (kC (s.last+1) now (iQ x))).last=s.last+1:=by rw[vW g];exact h1
        exact⟨by show st.s.last<=(kQ (yg es s m size (aY (s.last+1) now x)) (kQ es s m size (aY (s.last+1) now x)) m size (kC (s.last+1) now (iQ x))).last;omega,by show(kQ (yg es s m size (aY (s.last+1) now x)) (kQ es s m size (aY (s.last+1) now x)) m size (kC (s.last+1) now (iQ x))).last<=_;omega⟩
     ·rw[if_pos e];exact⟨by show st.s.last<=s.last;omega,by show s.last<=_;omega⟩
end Go.Proofs.YtophdoapcdjnjaaGreatDoor.Dk
namespace Go.Proofs.YtophdoapcdjnjaaGreatDoor.Dk
open Go.RowKit Go.Proofs.Tryz
theorem Uu {w w':World}{a:Option Addr}{l:List ByteArray}(h:jg w a l)(hb:Below w.heap.size w w'):jg w' a l:=λk hk=>by
 obtain⟨b,o,e,h1,h2⟩:=h k hk;exact⟨b,o,e,Nat.lt_of_lt_of_le h1 hb.size,(hb.cell (p:=⟨b,o+k,none⟩) h1).trans h2⟩
theorem H8 (w:World)(l:List ByteArray)(a:Option Addr)(c:Nat)(x:ByteArray)(h:jg w a l)(hl:l.length<=8796093021952) :
 Calls prog 17 #[.slice a l.length c,.string x] w λe w'=>∃g cap,e=.returned (.slice (some ⟨g,0,none⟩) l.length cap)/\l.length+2<=cap/\bK w' w.heap.size (.slice (some ⟨g,0,none⟩) (l.length+2) cap) (l++[x,x])/\Below w.heap.size w w':=by
 obtain⟨w1,hmk,n1,b1⟩:=LZ w l.length (by omega);obtain⟨v2,w2,r2,n2,c2⟩:=EY w1 w.heap.size w.heap.size (l.length+3) l n1 a c (Uu h b1) (by omega) b1.size;obtain⟨w3,hw3⟩:∃w3,w3=w2.alloc (.cells #[.string x,.string x] 9):=⟨_,rfl⟩;have b3:Below w2.heap.size w2 w3:=by rw[hw3];exact(Below.refl _ _).alloc (Nat.le_refl _) _
 have hs2:=c2.size;have hs1:=b1.size;have VK:CB w3 w2.heap.size [.string x,.string x]:=by rw[hw3];exact CB.new w2 [.string x,.string x] _
 obtain⟨g,cap,w4,r4,hc,hm,n4,c4⟩:=CO w3 w.heap.size v2 l x x (n2.below b3) w2.heap.size (VK.cell 0 _ rfl) (VK.cell 1 _ rfl) (by omega) (by have:=b3.size;omega);have HB:Hid (Below w.heap.size w w4):=aj (by
  have hg2:∀k,v2.ownBlock=some k->w.heap.size<=k:=λk hk=>(World.ownsRow.lt n2 k hk).1
  exact((b1.trans (c2.below hs1 (λk _ e=>by omega))).trans (b3.mono (by omega))).trans (c4.below (by have:=b3.size;omega) (λk _ e=>by have:=hg2 k e;omega)))
 have HN:=aj n4;rw[hw3] at r4;have hR2:=aj r2;have Zq:=aj r4;unfold maxLen at hm;clear n1 b1 n2 c2 b3 hs2 hs1 VK n4 c4 hw3 h r2 r4;go_enter func17,ntmps17;go_wp2_with (first
  | (at_builtin;refine Lib.wpList_append_run _ rfl _ _ _ _ rfl _ _ rfl rfl _ _ (ah hR2) ?_;clear hmk)
  | (at_builtin;refine Lib.wpList_append_run _ rfl _ _ _ _ rfl _ _ rfl rfl _ _ (ah Zq) ?_))
 go_ret;exact⟨g,cap,rfl,hc,ah HN,ah HB⟩
theorem MK (w:World)(B g cap:Nat)(l:List ByteArray)(x:ByteArray)(h:bK w B (.slice (some ⟨g,0,none⟩) (l.length+2) cap) (l++[x,x]))(hl:l.length<=8796093021952) :
 Calls prog 23 #[.slice (some ⟨g,0,none⟩) l.length cap,.string x] w λe w'=>e=.returned (.bool true)/\Below w.heap.size w w':=by
 have hn:(l++[x,x]).length=l.length+2:=by simp
 unfold bK at h;rw[hn] at h;obtain⟨⟨hg,_,_⟩,hc,hm,_⟩:=nM h;have c0:w.cell? ⟨g,l.length,none⟩=some (.string x):=by
  rw[World.ownsRow.cellAt h _ (by omega)];simp
 have c1:w.cell? ⟨g,l.length+1,none⟩=some (.string x):=by
  rw[World.ownsRow.cellAt h _ (by omega)];simp
 have HB:=aj (Below.refl w.heap.size w);clear h hn;go_enter func23,ntmps23;go_wp2_with fail;go_ret;exact⟨rfl,ah HB⟩
theorem yE (w:World)(g n cap:Nat)(x:ByteArray)(h:Dn w g cap)(hn:n<=cap)(hm:cap<=9223372036854775807) :
 Calls prog 25 #[.slice (some ⟨g,0,none⟩) n cap,.string x] w λe w'=>e=.returned (.tuple #[])/\aF (λj=>j=g) w w':=by
 have S0:Hid (Dn w g cap/\aF (λj=>j=g) w w):=aj ⟨h,aF.refl _ _⟩;clear h;go_enter func25,ntmps25;go_wp2_with fail;go_loopw [11] (λiv wr=>∃k:Nat,iv=.int .i64 k/\k<=cap/\Hid (Dn wr g cap/\aF (λj=>j=g) w wr)) (λiv _=>cap-(intOf iv).toNat)
 case atStart=>exact⟨0,rfl,Nat.zero_le _,S0⟩
 case round =>
  clear S0;obtain⟨k,rfl,hk,HS⟩:=hrel;by_cases hlt:k<cap
  ·obtain⟨⟨s1,s2,s3⟩,hch⟩:=ah HS;obtain⟨u,hu⟩:=s3 k hlt;have hf:=s2 k;have HX:Hid (Dn (wr.setCell ⟨g,k,none⟩ (.string x)) g cap/\aF (λj=>j=g) w (wr.setCell ⟨g,k,none⟩ (.string x))):=aj ⟨(ah HS).1.set hlt,hch.setCell (p:=⟨g,k,none⟩) (.inl rfl) _⟩;clear HS s2 s3 hch;go_wp2_with fail;refine⟨⟨k+1,by go_num,by omega,HX⟩,?_⟩;simp[intOf];omega
  ·obtain rfl:k=cap:=by omega
   go_wp2_with fail;go_end0
   exact⟨rfl,(ah HS).2⟩
theorem Wv (w:World)(x:ByteArray) :
 Calls prog 25 #[.slice none 0 0,.string x] w λe w'=>e=.returned (.tuple #[])/\w'=w:=by
 go_enter func25,ntmps25;go_wp2_with fail;go_loopw [11] (λiv wr=>iv=.int .i64 0/\wr=w) (λ_ _=>0)
 case atStart=>exact⟨rfl,rfl⟩
 case round =>
  obtain⟨rfl,rfl⟩:=hrel;go_wp2_with fail;go_end0
  exact⟨rfl,rfl⟩
end Go.Proofs.YtophdoapcdjnjaaGreatDoor.Dk
